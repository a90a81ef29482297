/- Texts of the proof, one behind the other. -/
import Derived.Test.YtilnpeekajnlhaaTu19
import Derived.Test.YtilnpeekajnlhaaTu10
import Derived.Test.YtilnpeekajnlhaaTu11
import Derived.Test.YtilnpeekajnlhaaTu14
set_option linter.unusedVariables false
set_option linter.unusedSimpArgs false
namespace Go.Proofs.Ytilnpeekajnlhaa
open Go.RowKit Go.Maps
def spK (ks : List Int) (i kid : Int) : List Int := ks.take (i.toNat + 1) ++ [kid] ++ ks.drop (i.toNat + 1)
def unK (ks : List Int) (i : Int) : List Int := ks.take (i.toNat + 1) ++ ks.drop (i.toNat + 2)
def tk {α : Type} (b : Bool) (x y : α) : α := if b then x else y
/-- What is known where a call is made. -/
structure TI (w : World) (P J M : Option Addr) (n pc k kc m : Nat) (ps : List ByteArray) (ks : List Int) (ms : List MG) (i : Int) : Prop where
  hl : ps.length = n
  hn : n ≤ 20
  hnc : n ≤ pc
  hpm : pc ≤ 9223372036854775807
  hP : ES.Rd w P ps
  hkl : ks.length = k
  hk : k = n + 1
  hkc : k ≤ kc
  hJ : EI.Rd w J ks
  hm : ms.length = m
  hm1 : m ≤ 30
  hM : EG.Rd w M ms
  hi : -9223372036854775808 ≤ i ∧ i ≤ 9223372036854775807
  hri : Pv.risesB ps = true
theorem TI.hA {w : World} {P J M : Option Addr} {n pc k kc m : Nat} {ps : List ByteArray} {ks : List Int} {ms : List MG} {i : Int} (h : TI w P J M n pc k kc m ps ks ms i) : P = none → n = 0 := by
  rintro rfl
  rcases h.hP with q | ⟨b, off, e, _⟩
  · have := ES.all_empty q
    rw [← h.hl, this]; rfl
  · cases e
theorem TI.later {w W : World} {P J M : Option Addr} {n pc k kc m : Nat} {ps : List ByteArray} {ks : List Int} {ms : List MG} {i : Int} (h : TI w P J M n pc k kc m ps ks ms i) (b : Below w.heap.size w W) : TI W P J M n pc k kc m ps ks ms i :=
  ⟨h.hl, h.hn, h.hnc, h.hpm, h.hP.later b, h.hkl, h.hk, h.hkc, h.hJ.later b, h.hm, h.hm1, h.hM.later b, h.hi, h.hri⟩
theorem put_no1 {p : List ByteArray} {i : Int} {s : ByteArray} (h : (Pv.putF p i s).1 = false) : Pv.putF p i s = (false, []) := by
  unfold Pv.putF at h ⊢
  split at h
  · cases h
  · rename_i q; rw [if_neg q]
theorem put_yes1 {p : List ByteArray} {i : Int} {s : ByteArray} (h : (Pv.putF p i s).1 = true) : ∃ j : Nat, i = (j : Int) ∧ j ≤ p.length ∧ Pv.risesB (Pv.ins p j s) = true ∧ Pv.putF p i s = (true, Pv.ins p j s) := by
  unfold Pv.putF at h ⊢
  split at h
  · rename_i q
    rw [if_pos q]
    exact ⟨i.toNat, by omega, by omega, q.2.2, rfl⟩
  · cases h
theorem move_no1 {p : List ByteArray} {i : Int} {s : ByteArray} (h : (Pv.moveF p i s).1 = false) : Pv.moveF p i s = (false, []) := by
  unfold Pv.moveF at h ⊢
  split at h
  · cases h
  · rename_i q; rw [if_neg q]
theorem move_yes1 {p : List ByteArray} {i : Int} {s : ByteArray} (h : (Pv.moveF p i s).1 = true) : ∃ j : Nat, i = (j : Int) ∧ j < p.length ∧ Pv.risesB (Pv.mov p j s) = true ∧ Pv.moveF p i s = (true, Pv.mov p j s) := by
  unfold Pv.moveF at h ⊢
  split at h
  · rename_i q
    rw [if_pos q]
    exact ⟨i.toNat, by omega, by omega, q.2.2, rfl⟩
  · cases h
theorem drop_no1 {p : List ByteArray} {i : Int} (h : (Pv.dropF p i).1 = false) : Pv.dropF p i = (false, []) := by
  unfold Pv.dropF at h ⊢
  split at h
  · cases h
  · rename_i q; rw [if_neg q]
theorem drop_yes1 {p : List ByteArray} {i : Int} (h : (Pv.dropF p i).1 = true) : ∃ j : Nat, i = (j : Int) ∧ j < p.length ∧ Pv.dropF p i = (true, p.take j ++ p.drop (j + 1)) := by
  unfold Pv.dropF at h ⊢
  split at h
  · rename_i q
    rw [if_pos q]
    exact ⟨i.toNat, by omega, by omega, rfl⟩
  · cases h
theorem isplit_any (kd : Int) (P J M B : Option Addr) (n pc k kc m mc bc : Nat) (ps : List ByteArray) (ks : List Int) (ms : List MG) (i : Int) (s : ByteArray) (kid : Int) (w : World) (h : TI w P J M n pc k kc m ps ks ms i) :
    Calls Try.prog 19 #[NV kd (.slice P n pc) (.slice J k kc) (.slice M m mc) (.slice B 0 bc), .int .i64 i, .string s, .int .i64 kid] w (TurnP (Pv.putF ps i s).1 (tk (Pv.putF ps i s).1 kd 0) (Pv.putF ps i s).2 (tk (Pv.putF ps i s).1 (spK ks i kid) []) (tk (Pv.putF ps i s).1 ms []) w) := by
  have PA : ∀ W, Below w.heap.size w W → Calls Try.prog 49 #[.slice P n pc, .int .i64 i, .string s] W (Pv.PvPost (Pv.putF ps i s).1 (Pv.putF ps i s).2 W) := fun W b => Pv.put_any2 P ps n pc i s W h.hl (by have := h.hn; omega) h.hnc h.hpm h.hA (es_rd.1 (h.hP.later b))
  cases hok : (Pv.putF ps i s).1
  · rw [put_no1 hok] at PA ⊢
    exact split_no kd P J M B n pc k kc m mc bc i s kid ps w PA
  · obtain ⟨j, rfl, hj, hrs, e⟩ := put_yes1 hok
    rw [e] at PA ⊢
    have hl := h.hl
    have hk := h.hk
    have hkl := h.hkl
    have hn := h.hn
    have hm1 := h.hm1
    have q := split_yes kd P J M B n pc k kc m mc bc j (j + 1) s kid ps ks ms _ w h.hl (by omega) h.hP h.hkl (by omega) h.hJ h.hm (by omega) h.hM rfl (by omega) PA
    unfold spK tk
    rw [Int.toNat_natCast]
    exact q
theorem rsplit_any (kd : Int) (P J M B : Option Addr) (n pc k kc m mc bc : Nat) (ps : List ByteArray) (ks : List Int) (ms : List MG) (i : Int) (s : ByteArray) (kid : Int) (w : World) (h : TI w P J M n pc k kc m ps ks ms i) :
    Calls Try.prog 20 #[NV kd (.slice P n pc) (.slice J k kc) (.slice M m mc) (.slice B 0 bc), .int .i64 i, .string s, .int .i64 kid] w (TurnP (Pv.putF ps i s).1 (tk (Pv.putF ps i s).1 kd 0) (Pv.putF ps i s).2 (tk (Pv.putF ps i s).1 (spK ks i kid) []) (tk (Pv.putF ps i s).1 ms []) w) := by
  have PA : ∀ W, Below w.heap.size w W → Calls Try.prog 51 #[.slice P n pc, .int .i64 i, .string s] W (Pv.PvPost (Pv.putF ps i s).1 (Pv.putF ps i s).2 W) := fun W b => rput_any P n pc i s ps W h.hl (by have := h.hn; omega) h.hnc (h.hP.later b) h.hi
  cases hok : (Pv.putF ps i s).1
  · rw [put_no1 hok] at PA ⊢
    exact rsplit_no kd P J M B n pc k kc m mc bc i s kid w PA
  · obtain ⟨j, rfl, hj, hrs, e⟩ := put_yes1 hok
    rw [e] at PA ⊢
    have hl := h.hl
    have hk := h.hk
    have hkl := h.hkl
    have hn := h.hn
    have hm1 := h.hm1
    have q := rsplit_yes kd P J M B n pc k kc m mc bc j (j + 1) s kid (ks[j]'(by omega)) ps ks ms _ w h.hkl (by omega) h.hJ h.hm h.hM h.hkc rfl (by omega) (List.getElem?_eq_getElem _) PA
    unfold spK tk
    rw [Int.toNat_natCast]
    exact q
theorem iunite_any (kd : Int) (P J M B : Option Addr) (n pc k kc m mc bc : Nat) (ps : List ByteArray) (ks : List Int) (ms : List MG) (i : Int) (w : World) (h : TI w P J M n pc k kc m ps ks ms i) :
    Calls Try.prog 21 #[NV kd (.slice P n pc) (.slice J k kc) (.slice M m mc) (.slice B 0 bc), .int .i64 i] w (TurnP (Pv.dropF ps i).1 (tk (Pv.dropF ps i).1 kd 0) (Pv.dropF ps i).2 (tk (Pv.dropF ps i).1 (unK ks i) []) (tk (Pv.dropF ps i).1 ms []) w) := by
  have PA : ∀ W, Below w.heap.size w W → Calls Try.prog 53 #[.slice P n pc, .int .i64 i] W (Pv.PvPost (Pv.dropF ps i).1 (Pv.dropF ps i).2 W) := fun W b => Pv.drop_any2 P ps n pc i W h.hl (by have := h.hn; omega) h.hnc h.hpm (es_rd.1 (h.hP.later b))
  cases hok : (Pv.dropF ps i).1
  · rw [drop_no1 hok] at PA ⊢
    exact unite_no kd P J M B n pc k kc m mc bc i ps w PA
  · obtain ⟨j, rfl, hj, e⟩ := drop_yes1 hok
    rw [e] at PA ⊢
    have hl := h.hl
    have hk := h.hk
    have hkl := h.hkl
    have hn := h.hn
    have hm1 := h.hm1
    have q := unite_yes kd P J M B n pc k kc m mc bc j (j + 1) ps ks ms _ w h.hl (by omega) h.hP h.hkl (by omega) h.hJ h.hm (by omega) h.hM (j + 2) rfl rfl (by omega) PA
    unfold unK tk
    rw [Int.toNat_natCast]
    exact q
theorem runite_any (kd : Int) (P J M B : Option Addr) (n pc k kc m mc bc : Nat) (ps : List ByteArray) (ks : List Int) (ms : List MG) (i : Int) (w : World) (h : TI w P J M n pc k kc m ps ks ms i) :
    Calls Try.prog 22 #[NV kd (.slice P n pc) (.slice J k kc) (.slice M m mc) (.slice B 0 bc), .int .i64 i] w (TurnP (Pv.dropF ps i).1 (tk (Pv.dropF ps i).1 kd 0) (Pv.dropF ps i).2 (tk (Pv.dropF ps i).1 (unK ks i) []) (tk (Pv.dropF ps i).1 ms []) w) := by
  have PA : ∀ W, Below w.heap.size w W → Calls Try.prog 55 #[.slice P n pc, .int .i64 i] W (Pv.PvPost (Pv.dropF ps i).1 (Pv.dropF ps i).2 W) := fun W b => rdrop_any P n pc i ps W h.hl (by have := h.hn; omega) h.hnc (h.hP.later b) h.hri h.hi
  cases hok : (Pv.dropF ps i).1
  · rw [drop_no1 hok] at PA ⊢
    exact runite_no kd P J M B n pc k kc m mc bc i w PA
  · obtain ⟨j, rfl, hj, e⟩ := drop_yes1 hok
    rw [e] at PA ⊢
    have hl := h.hl
    have hk := h.hk
    have hkl := h.hkl
    have hn := h.hn
    have hm1 := h.hm1
    have q := runite_yes kd P J M B n pc k kc m mc bc j (j + 1) (j + 2) (ks[j]'(by omega)) ps ks ms _ w h.hkl (by omega) h.hJ h.hm h.hM h.hkc rfl rfl (by omega) (List.getElem?_eq_getElem _) PA
    unfold unK tk
    rw [Int.toNat_natCast]
    exact q
theorem imove_any (kd : Int) (P J M B : Option Addr) (n pc k kc m mc bc : Nat) (ps : List ByteArray) (ks : List Int) (ms : List MG) (i : Int) (s : ByteArray) (w : World) (h : TI w P J M n pc k kc m ps ks ms i) :
    Calls Try.prog 23 #[NV kd (.slice P n pc) (.slice J k kc) (.slice M m mc) (.slice B 0 bc), .int .i64 i, .string s] w (TurnP (Pv.moveF ps i s).1 (tk (Pv.moveF ps i s).1 kd 0) (Pv.moveF ps i s).2 (tk (Pv.moveF ps i s).1 ks []) (tk (Pv.moveF ps i s).1 ms []) w) := by
  have PA : ∀ W, Below w.heap.size w W → Calls Try.prog 56 #[.slice P n pc, .int .i64 i, .string s] W (Pv.PvPost (Pv.moveF ps i s).1 (Pv.moveF ps i s).2 W) := fun W b => Pv.move_any2 P ps n pc i s W h.hl (by have := h.hn; omega) h.hnc h.hpm h.hA (es_rd.1 (h.hP.later b))
  cases hok : (Pv.moveF ps i s).1
  · rw [move_no1 hok] at PA ⊢
    exact move_no kd P J M B n pc k kc m mc bc i s ps w PA
  · obtain ⟨j, rfl, hj, hrs, e⟩ := move_yes1 hok
    rw [e] at PA ⊢
    have hl := h.hl
    have hk := h.hk
    have hkl := h.hkl
    have hn := h.hn
    have hm1 := h.hm1
    exact move_yes kd P J M B n pc k kc m mc bc j 0 s ps ks ms _ w h.hl (by omega) h.hP h.hkl (by omega) h.hJ h.hm (by omega) h.hM PA
theorem rmove2_any (kd : Int) (P J M B : Option Addr) (n pc k kc m mc bc : Nat) (ps : List ByteArray) (ks : List Int) (ms : List MG) (i : Int) (s : ByteArray) (w : World) (h : TI w P J M n pc k kc m ps ks ms i) :
    Calls Try.prog 24 #[NV kd (.slice P n pc) (.slice J k kc) (.slice M m mc) (.slice B 0 bc), .int .i64 i, .string s] w (TurnP (Pv.moveF ps i s).1 (tk (Pv.moveF ps i s).1 kd 0) (Pv.moveF ps i s).2 (tk (Pv.moveF ps i s).1 ks []) (tk (Pv.moveF ps i s).1 ms []) w) := by
  have PA : ∀ W, Below w.heap.size w W → Calls Try.prog 57 #[.slice P n pc, .int .i64 i, .string s] W (Pv.PvPost (Pv.moveF ps i s).1 (Pv.moveF ps i s).2 W) := fun W b => rmove_any P n pc i s ps W h.hl (by have := h.hn; omega) h.hnc (h.hP.later b) h.hi
  cases hok : (Pv.moveF ps i s).1
  · rw [move_no1 hok] at PA ⊢
    exact rmove_no kd P J M B n pc k kc m mc bc i s w PA
  · obtain ⟨j, rfl, hj, hrs, e⟩ := move_yes1 hok
    rw [e] at PA ⊢
    have hl := h.hl
    have hk := h.hk
    have hkl := h.hkl
    have hn := h.hn
    have hm1 := h.hm1
    exact rmove_yes kd P J M B n pc k kc m mc bc j s ps ks ms _ w h.hkl (by omega) h.hJ h.hm h.hM PA
theorem tl_inj {a b : ByteArray} (h : a.toList = b.toList) : a = b := by
  rw [toList_eq, toList_eq] at h
  have : a.data = b.data := Array.toList_inj.1 h
  cases a; cases b; simp_all
theorem lt_of_ne {a b : ByteArray} (h : lt b a = false) (hn : b ≠ a) : lt a b = true := by
  rcases bl_tri a.toList b.toList with k | k | k
  · exact k
  · exact absurd (tl_inj k).symm hn
  · unfold lt at h; rw [k] at h; cases h
theorem at_ins0 (p : List ByteArray) (j q : Nat) (s : ByteArray) (hj : j ≤ p.length) : Pv.at_ (Pv.ins p j s) q = if q < j then Pv.at_ p q else if q = j then s else Pv.at_ p (q - 1) := by
  unfold Pv.at_ Pv.ins
  simp only [List.getD_eq_getElem?_getD]
  by_cases h : q < j
  · rw [if_pos h, List.getElem?_append_left (by rw [List.length_take]; omega), List.getElem?_take, if_pos h]
  · rw [if_neg h, List.getElem?_append_right (by rw [List.length_take]; omega), List.length_take, show min j p.length = j by omega]
    by_cases e : q = j
    · rw [if_pos e, show q - j = 0 by omega]; rfl
    · rw [if_neg e]
      obtain ⟨d, hd⟩ : ∃ d, q - j = d + 1 := ⟨q - j - 1, by omega⟩
      rw [hd, List.getElem?_cons_succ, List.getElem?_drop, show j + d = q - 1 by omega]
theorem ins_len (p : List ByteArray) (j : Nat) (s : ByteArray) (hj : j ≤ p.length) : (Pv.ins p j s).length = p.length + 1 := by
  unfold Pv.ins; rw [List.length_append, List.length_cons, List.length_take, List.length_drop]; omega
/-- A node with one kid more stays right. -/
theorem rn_split {kd : Int} {n k : Nat} {ps : List ByteArray} {ks : List Int} {ms : List MG} {f t s : ByteArray} {i kid : Int} (h : RN kd n k 0 ps ks ms f t) (hl : ps.length = n) (hkl : ks.length = k) (hok : (Pv.putF ps i s).1 = true) (hno : ks.contains kid = false) (h1 : 1 ≤ kid) (h2 : kid ≤ 4096) (hh : has f t s = true) (hne : s ≠ f) :
    RN kd ((Pv.putF ps i s).2.length) ((spK ks i kid).length) 0 (Pv.putF ps i s).2 (spK ks i kid) ms f t := by
  obtain ⟨j, rfl, hj, hrs, e⟩ := put_yes1 hok
  rw [e]
  have g := (pv_iff ps f t).1 h.hps
  unfold has at hh
  rw [Bool.and_eq_true] at hh
  have hlt : lt f s = true := lt_of_ne (by simpa using hh.1) hne
  have hkids := (kids_iff ks).1 h.hks
  have hmem : kid ∉ ks := by rw [List.contains_eq_mem] at hno; simpa using hno
  refine ⟨h.hkd, rfl, ?_, ?_, ?_, h.hms, h.hwi⟩
  · show (spK ks (j : Int) kid).length = (Pv.ins ps j s).length + 1
    have hk := h.hk
    rw [ins_len ps j s hj]
    unfold spK
    rw [Int.toNat_natCast, List.length_append, List.length_append, List.length_take, List.length_drop, List.length_singleton]
    omega
  · rw [pv_iff]
    refine ⟨g.1, fun q hq => ?_, (rises_iff _).1 hrs⟩
    show lt f (Pv.at_ (Pv.ins ps j s) q) = true ∧ sb (Pv.at_ (Pv.ins ps j s) q) t = true
    change q < (Pv.ins ps j s).length at hq
    rw [ins_len ps j s hj] at hq
    rw [at_ins0 ps j q s hj]
    split
    · exact g.2.1 q (by omega)
    · split
      · exact ⟨hlt, hh.2⟩
      · exact g.2.1 (q - 1) (by omega)
  · rw [kids_iff]
    unfold spK
    rw [Int.toNat_natCast]
    refine ⟨fun x hx => ?_, ?_⟩
    · rcases List.mem_append.1 hx with hx | hx
      · rcases List.mem_append.1 hx with hx | hx
        · exact hkids.1 x (List.mem_of_mem_take hx)
        · rw [List.mem_singleton.1 hx]; exact ⟨h1, h2⟩
      · exact hkids.1 x (List.mem_of_mem_drop hx)
    · have hp : (ks.take (j + 1) ++ [kid] ++ ks.drop (j + 1)).Perm (kid :: ks) := by
        rw [List.append_assoc]
        have q : (ks.take (j + 1) ++ kid :: ks.drop (j + 1)).Perm (kid :: (ks.take (j + 1) ++ ks.drop (j + 1))) := List.perm_middle
        rw [List.take_append_drop] at q
        exact q
      exact hp.nodup_iff.2 (List.nodup_cons.2 ⟨hmem, hkids.2⟩)
/-- A node with one kid fewer stays right. -/
theorem rn_unite {kd : Int} {n k : Nat} {ps : List ByteArray} {ks : List Int} {ms : List MG} {f t : ByteArray} {i : Int} (h : RN kd n k 0 ps ks ms f t) (hl : ps.length = n) (hkl : ks.length = k) (hok : (Pv.dropF ps i).1 = true) :
    RN kd ((Pv.dropF ps i).2.length) ((unK ks i).length) 0 (Pv.dropF ps i).2 (unK ks i) ms f t := by
  obtain ⟨j, rfl, hj, e⟩ := drop_yes1 hok
  rw [e]
  have g := (pv_iff ps f t).1 h.hps
  have hkids := (kids_iff ks).1 h.hks
  have hk := h.hk
  have hu : unK ks (j : Int) = ks.take (j + 1) ++ ks.drop (j + 2) := by unfold unK; rw [Int.toNat_natCast]
  have hT : (ps.take j ++ ps.drop (j + 1)).length = n - 1 := by rw [List.length_append, List.length_take, List.length_drop]; omega
  refine ⟨h.hkd, rfl, ?_, ?_, ?_, h.hms, h.hwi⟩
  · show (unK ks (j : Int)).length = (ps.take j ++ ps.drop (j + 1)).length + 1
    rw [hT, hu, List.length_append, List.length_take, List.length_drop]
    omega
  · rw [pv_iff]
    refine ⟨g.1, fun q hq => ?_, (rises_iff _).1 (rises_drop ((rises_iff _).2 g.2.2) j)⟩
    show lt f (Pv.at_ (ps.take j ++ ps.drop (j + 1)) q) = true ∧ sb (Pv.at_ (ps.take j ++ ps.drop (j + 1)) q) t = true
    change q < (ps.take j ++ ps.drop (j + 1)).length at hq
    rw [at_cut hj]
    split
    · exact g.2.1 q (by omega)
    · exact g.2.1 (q + 1) (by omega)
  · rw [hu, kids_iff]
    have hs : (ks.take (j + 1) ++ ks.drop (j + 2)).Sublist ks := by
      have := (List.drop_sublist 1 (ks.drop (j + 1)))
      rw [List.drop_drop] at this
      have q := (List.Sublist.refl (ks.take (j + 1))).append this
      rw [List.take_append_drop] at q
      exact q
    exact ⟨fun x hx => hkids.1 x (hs.subset hx), hkids.2.sublist hs⟩
end Go.Proofs.Ytilnpeekajnlhaa
namespace Go.Proofs.Ytilnpeekajnlhaa
open Go.RowKit Go.Maps
def hasI (l : List Int) (x : Int) : Bool := l.contains x
theorem has_step {ks : List Int} {i : Nat} {x kid : Int} (hx : ks[i]? = some x) : hasI (ks.take (i + 1)) kid = (hasI (ks.take i) kid || x == kid) := by
  unfold hasI
  rw [List.take_add_one, hx, List.contains_append]
  congr 1
  by_cases e : x = kid
  · subst e; simp
  · have e2 : kid ≠ x := fun h => e h.symm
    simp [e, e2]
set_option maxRecDepth 100000 in
set_option maxHeartbeats 4000000 in
theorem rplace_any (kd : Int) (P J M B : Option Addr) (n pc k kc m mc bc : Nat) (ks : List Int) (kid : Int) (w : World) (hkl : ks.length = k) (hk1 : k ≤ 100) (hJ : EI.Rd w J ks) :
    Calls Try.prog 25 #[NV kd (.slice P n pc) (.slice J k kc) (.slice M m mc) (.slice B 0 bc), .int .i64 kid] w fun e w' => (∃ j : Int, e = .returned (.tuple #[.int .i64 j, .bool (hasI ks kid)])) ∧ Below w.heap.size w w' := by
  have HL := Lib.hid hkl
  have HJ := Lib.hid hJ
  have H0 := Lib.hid (alb w (NO kd (.slice P n pc) (.slice J k kc) (.slice M m mc) (.slice B 0 bc)))
  have Z := Lib.hid (heap_alloc_new w (NO kd (.slice P n pc) (.slice J k kc) (.slice M m mc) (.slice B 0 bc)))
  clear hkl hJ
  go_enter Try.func25, Try.ntmps25
  go_wp2
  go_loopw [6] (fun iv wr => ∃ i : Nat, i ≤ k ∧ iv = .int .i64 i ∧ hasI (ks.take i) kid = false ∧ wr = w.alloc (NO kd (.slice P n pc) (.slice J k kc) (.slice M m mc) (.slice B 0 bc))) (fun iv _ => k - (intOf iv).toNat)
  case atStart => exact ⟨0, Nat.zero_le _, rfl, rfl, by first | rfl | trivial⟩
  case round =>
    obtain ⟨i, hi, rfl, hno, rfl⟩ := hrel
    have HNO := Lib.hid hno
    clear hno
    obtain ⟨c0, c1, c2, c3, c4⟩ := cells5 Z.out
    have hi0 : (0 : Int) ≤ (i : Int) := by omega
    have hi9 : (i : Int) ≤ 1000 := by omega
    by_cases hik : i < k
    · have hlt : (i : Int) < (k : Int) := by omega
      obtain ⟨x, hx⟩ : ∃ x, ks[i]? = some x := ⟨_, List.getElem?_eq_getElem (by rw [HL.out]; exact hik)⟩
      obtain ⟨b0, off, rfl, _, k0⟩ := ei_at (HJ.out.later H0.out) hx
      have HX := Lib.hid hx
      clear hx
      cases hxk : (x == kid)
      · go_wp2
        exact ⟨⟨i + 1, by omega, by simp, by rw [has_step HX.out, HNO.out, hxk]; rfl, by first | rfl | trivial⟩, by simp [intOf]; omega⟩
      · go_wp2
        refine bodyPost_ret (v := .tuple #[.int .i64 (i : Int), .bool true]) (by simp [results, Try.results25, go_sem]) rfl ⟨⟨i, ?_⟩, H0.out⟩
        have e : hasI ks kid = true := by
          unfold hasI
          rw [List.contains_eq_mem]
          have : x = kid := by simpa using hxk
          subst this
          simpa using List.mem_of_getElem? HX.out
        rw [e]
    · have hlt : ¬ (i : Int) < (k : Int) := by omega
      go_wp2
      refine bodyPost_ret (v := .tuple #[.int .i64 0, .bool false]) (by simp [results, Try.results25, go_sem]) rfl ⟨⟨0, ?_⟩, H0.out⟩
      have e : hasI ks kid = false := by
        have := HNO.out
        rw [List.take_of_length_le (by have := HL.out; omega)] at this
        exact this
      rw [e]
end Go.Proofs.Ytilnpeekajnlhaa
namespace Go.Proofs.Ytilnpeekajnlhaa.Pv
open Go.RowKit

set_option maxHeartbeats 1000000 in
theorem sameS_eq (A B : Option Addr) (p : List ByteArray) (n c c' : Nat) (w : World) (hl : p.length = n) (hn : n ≤ 100000) (hA : RdS w A p) (hB : RdS w B p) :
    Calls Try.prog 41 #[.slice A n c, .slice B n c'] w fun e w' => e = .returned (.bool true) ∧ Below w.heap.size w w' := by
  have HA := Lib.hid hA
  have HB := Lib.hid hB
  have HL := Lib.hid hl
  clear hA hB hl
  go_enter Try.func41, Try.ntmps41
  go_wp2
  go_loopw [5] (fun iv wr => ∃ k d : Nat, k ≤ n ∧ iv = .int .i64 k ∧ wr = w.drewN d) (fun i _ => n - (intOf i).toNat)
  case atStart => exact ⟨0, 0, by omega, rfl, rfl⟩
  case round =>
    obtain ⟨k, d, hk, rfl, hwr⟩ := hrel
    have HW := Lib.hid hwr
    clear hwr
    by_cases h8 : k < n
    · have i1 : (k : Int) < (n : Int) := by omega
      have i0 : (0 : Int) ≤ (k : Int) := by omega
      obtain ⟨b, off, rfl, hlt, f0⟩ := rds_get HA.out (k := k) (by have := HL.out; omega)
      obtain ⟨b2, off2, rfl, hlt2, f2⟩ := rds_get HB.out (k := k) (by have := HL.out; omega)
      have g0 : wr.cell? ⟨b, off + k, none⟩ = some (.string (at_ p k)) := by rw [HW.out]; exact f0
      have g2 : wr.cell? ⟨b2, off2 + k, none⟩ = some (.string (at_ p k)) := by rw [HW.out]; exact f2
      generalize at_ p k = x at g0 g2
      clear f0 f2
      go_wp2_with fail
      go_quiet (fail)
      go_wp2
      exact ⟨⟨k + 1, d + nq, by omega, by simp, by rw [HW.out, World.drewN_drewN]⟩, by simp [intOf]; omega⟩
    · have i1 : ¬ (k : Int) < (n : Int) := by omega
      go_wp2
      go_ret
      exact ⟨rfl, by rw [HW.out]; exact bel_drewN (Below.refl _ _) d⟩

end Go.Proofs.Ytilnpeekajnlhaa.Pv
namespace Go.Proofs.Ytilnpeekajnlhaa
open Go.RowKit Go.Maps
set_option maxRecDepth 100000 in
set_option maxHeartbeats 4000000 in
theorem same14 (kd : Int) (Pa Ja Ma Ba Pb Jb Mb Bb : Option Addr) (n k m pa ja ma ba pb jb mb bb : Nat) (ps : List ByteArray) (ks : List Int) (ms : List MG) (w : World) (hl : ps.length = n) (hn : n ≤ 1000) (hkl : ks.length = k) (hk1 : k ≤ 1000) (hm : ms.length = m) (hm1 : m ≤ 1000)
    (hP : ES.Rd w Pa ps) (hP2 : ES.Rd w Pb ps) (hJ : EI.Rd w Ja ks) (hJ2 : EI.Rd w Jb ks) (hM : EG.Rd w Ma ms) (hM2 : EG.Rd w Mb ms) :
    Calls Try.prog 13 #[NV kd (.slice Pa n pa) (.slice Ja k ja) (.slice Ma m ma) (.slice Ba 0 ba), NV kd (.slice Pb n pb) (.slice Jb k jb) (.slice Mb m mb) (.slice Bb 0 bb)] w fun e w' => e = .returned (.bool true) ∧ Below w.heap.size w w' := by
  have A1 := Lib.hid (fun W (h : Below w.heap.size w W) => Pv.sameS_eq Pa Pb ps n pa pb W hl (by omega) (es_rd.1 (hP.later h)) (es_rd.1 (hP2.later h)))
  have A2 := Lib.hid (fun W (h : Below w.heap.size w W) => same_any Ma Mb m ma mb ms W hm hm1 (hM.later h) (hM2.later h))
  have JJ := Lib.hid (fun W (h : Below w.heap.size w W) => hJ.later h)
  have J2 := Lib.hid (fun W (h : Below w.heap.size w W) => hJ2.later h)
  have HKL := Lib.hid hkl
  clear hl hkl hm hP hP2 hJ hJ2 hM hM2
  have y1 := two_new w (NO kd (.slice Pa n pa) (.slice Ja k ja) (.slice Ma m ma) (.slice Ba 0 ba)) (NO kd (.slice Pb n pb) (.slice Jb k jb) (.slice Mb m mb) (.slice Bb 0 bb))
  have H0 := Lib.hid (bel_alloc (alb w (NO kd (.slice Pa n pa) (.slice Ja k ja) (.slice Ma m ma) (.slice Ba 0 ba))) (NO kd (.slice Pb n pb) (.slice Jb k jb) (.slice Mb m mb) (.slice Bb 0 bb)))
  have Z := Lib.hid y1.1
  have Y := Lib.hid y1.2
  clear y1
  obtain ⟨c0, c1, c2, c3, c4⟩ := cells5 Z.out
  obtain ⟨d0, d1, d2, d3, d4⟩ := cells5 Y.out
  have hk0 : (0 : Int) ≤ (k : Int) := by omega
  have hk9 : (k : Int) ≤ 1000 := by omega
  go_enter Try.func13, Try.ntmps13
  go_wp2
  go_loopw [5] (fun iv wr => ∃ i : Nat, i ≤ k ∧ iv = .int .i64 i ∧ wr.heap[w.heap.size]? = some (NO kd (.slice Pa n pa) (.slice Ja k ja) (.slice Ma m ma) (.slice Ba 0 ba)) ∧ wr.heap[w.heap.size + 1]? = some (NO kd (.slice Pb n pb) (.slice Jb k jb) (.slice Mb m mb) (.slice Bb 0 bb)) ∧ Below w.heap.size w wr) (fun i _ => k - (intOf i).toNat)
  case atStart => exact ⟨0, Nat.zero_le _, rfl, Z.out, Y.out, H0.out⟩
  case round =>
    obtain ⟨i, hi, rfl, hz, hy, hb⟩ := hrel
    clear c0 c1 c2 c3 c4 d0 d1 d2 d3 d4
    replace Z := Lib.hid hz
    replace Y := Lib.hid hy
    replace H0 := Lib.hid hb
    clear hz hy hb
    obtain ⟨c0, c1, c2, c3, c4⟩ := cells5 Z.out
    obtain ⟨d0, d1, d2, d3, d4⟩ := cells5 Y.out
    have hi0 : (0 : Int) ≤ (i : Int) := by omega
    have hi9 : (i : Int) ≤ 1000 := by omega
    by_cases hik : i < k
    · have hlt : (i : Int) < (k : Int) := by omega
      obtain ⟨x, hx⟩ : ∃ x, ks[i]? = some x := ⟨_, List.getElem?_eq_getElem (by rw [HKL.out]; exact hik)⟩
      obtain ⟨b0, off, rfl, _, k0⟩ := ei_at (JJ.out _ H0.out) hx
      obtain ⟨b1, off1, rfl, _, k1⟩ := ei_at (J2.out _ H0.out) hx
      clear hx
      go_wp2_with fail
      go_quiet (fail)
      go_wp2
      exact ⟨⟨i + 1, by omega, by simp, Z.out, Y.out, bel_drewN H0.out _⟩, by simp [intOf]; omega⟩
    · have hlt : ¬ (i : Int) < (k : Int) := by omega
      go_wp2
      go_loopw [6] (fun iv wr => iv = .int .i64 0 ∧ wr.heap[w.heap.size]? = some (NO kd (.slice Pa n pa) (.slice Ja k ja) (.slice Ma m ma) (.slice Ba 0 ba)) ∧ wr.heap[w.heap.size + 1]? = some (NO kd (.slice Pb n pb) (.slice Jb k jb) (.slice Mb m mb) (.slice Bb 0 bb)) ∧ Below w.heap.size w wr) (fun _ _ => 0)
      case atStart => exact ⟨rfl, Z.out, Y.out, H0.out⟩
      case round =>
        obtain ⟨rfl, hz, hy, hb⟩ := hrel
        clear c0 c1 c2 c3 c4 d0 d1 d2 d3 d4
        replace Z := Lib.hid hz
        replace Y := Lib.hid hy
        replace H0 := Lib.hid hb
        clear hz hy hb
        obtain ⟨c0, c1, c2, c3, c4⟩ := cells5 Z.out
        obtain ⟨d0, d1, d2, d3, d4⟩ := cells5 Y.out
        go_wp2_with (first
          | (go_at_call 41; ((with_reducible refine (A1.out _ H0.out).mono ?_); rintro e w1 ⟨rfl, b⟩; replace H0 := Lib.hid (bel_trans H0.out b); replace Z := Lib.hid (keep_bel b Z.out); replace Y := Lib.hid (keep_bel b Y.out); clear b c0 c1 c2 c3 c4 d0 d1 d2 d3 d4; obtain ⟨c0, c1, c2, c3, c4⟩ := cells5 Z.out; obtain ⟨d0, d1, d2, d3, d4⟩ := cells5 Y.out))
          | (go_at_call 11; ((with_reducible refine (A2.out _ H0.out).mono ?_); rintro e w1 ⟨rfl, b⟩; replace H0 := Lib.hid (bel_trans H0.out b); replace Z := Lib.hid (keep_bel b Z.out); replace Y := Lib.hid (keep_bel b Y.out); clear b c0 c1 c2 c3 c4 d0 d1 d2 d3 d4; obtain ⟨c0, c1, c2, c3, c4⟩ := cells5 Z.out; obtain ⟨d0, d1, d2, d3, d4⟩ := cells5 Y.out))
          | fail)
        go_ret
        exact ⟨rfl, H0.out⟩
end Go.Proofs.Ytilnpeekajnlhaa
namespace Go.Proofs.Ytilnpeekajnlhaa
open Go.RowKit Go.Maps
/-- The greatest weight so far, and where. -/
def hotK (ws : List Int) : Nat → Int × Int
  | 0 => (0, 0)
  | j + 1 => match ws[j]? with
    | some x => if x > (hotK ws j).2 then ((j : Int), x) else hotK ws j
    | none => hotK ws j
set_option maxRecDepth 100000 in
set_option maxHeartbeats 8000000 in
theorem hot_any (kd : Int) (P J M B : Option Addr) (n pc k kc m mc b bc : Nat) (ps : List ByteArray) (ms : List MG) (f t : ByteArray) (w : World) (hl : ps.length = n) (hn : n ≤ 100) (hP : Pv.RdS w P ps) (hm : ms.length = m) (hm0 : m ≠ 0) (hm1 : m ≤ 1000) (hM : EG.Rd w M ms) (ho : OkA ms) (hok : ∀ x ∈ Pv.upto ps f t (Pv.many ps f t), OkA (forL x.2.1 x.2.2 ms)) :
    Calls Try.prog 35 #[NV kd (.slice P n pc) (.slice J k kc) (.slice M m mc) (.slice B b bc), .agg #[.string f, .string t]] w fun e w' => e = .returned (.tuple #[.int .i64 (hotK (wgts ps f t ms) (wgts ps f t ms).length).1, .int .i64 (hotK (wgts ps f t ms) (wgts ps f t ms).length).2]) ∧ Below w.heap.size w w' := by
  have WA := Lib.hid (fun W (h : Below w.heap.size w W) => weights_any kd P J M B n pc k kc m mc b bc ps ms f t W hl hn (Rd.later hP h) hm hm1 (hM.later h) ho hok)
  have HLW : Hid ((wgts ps f t ms).length ≤ 1000) := Lib.hid (by unfold wgts; rw [List.length_map, Pv.upto_length]; have := Pv.many_le ps f t; omega)
  obtain ⟨ws, hws⟩ : ∃ ws, ws = wgts ps f t ms := ⟨_, rfl⟩
  rw [← hws] at WA HLW ⊢
  obtain ⟨L, hL⟩ : ∃ L, L = ws.length := ⟨_, rfl⟩
  rw [← hL] at WA HLW ⊢
  have HL := Lib.hid hL.symm
  have hL9 : (L : Int) ≤ 1000 := by have := HLW.out; omega
  have hL0 : (0 : Int) ≤ (L : Int) := by omega
  have h0 : ((m : Int) == 0) = false := by rw [beq_eq_false_iff_ne]; omega
  have h00 : ¬ (m : Int) = 0 := by omega
  clear hws hL hl hP hm hM ho hok
  have y1 := two_new w (NO kd (.slice P n pc) (.slice J k kc) (.slice M m mc) (.slice B b bc)) (rgc f t)
  have H0 := Lib.hid (bel_alloc (alb w (NO kd (.slice P n pc) (.slice J k kc) (.slice M m mc) (.slice B b bc))) (rgc f t))
  have Z := Lib.hid y1.1
  have Y := Lib.hid y1.2
  clear y1
  obtain ⟨c0, c1, c2, c3, c4⟩ := cells5 Z.out
  obtain ⟨d0, d1, -, -⟩ := has_two Y.out
  go_enter Try.func35, Try.ntmps35
  go_wp2_with (first
    | (go_at_call 70; ((with_reducible refine (WA.out _ H0.out).mono ?_); rintro e w1 ⟨A', c', rfl, r1, b1⟩; have R1 := Lib.hid r1.rd; have B1 := Lib.hid (bel_trans H0.out b1); clear b1 r1 c0 c1 c2 c3 c4 d0 d1))
    | fail)
  go_loopw [6, 7, 8, 9, 20] (fun hv mv iv wv jv wr => ∃ j : Nat, j ≤ L ∧ jv = .int .i64 j ∧ hv = .int .i64 (hotK ws j).1 ∧ mv = .int .i64 (hotK ws j).2 ∧ w1 = wr) (fun _ _ _ _ j _ => L - (intOf j).toNat)
  case atStart => exact ⟨0, Nat.zero_le _, rfl, rfl, rfl, rfl⟩
  case round =>
    obtain ⟨j, hj, rfl, rfl, rfl, rfl⟩ := hrel
    by_cases hjl : j < L
    · have hj1 : (j : Int) < (L : Int) := by omega
      have hj0 : (0 : Int) ≤ (j : Int) := by omega
      have hj9 : (j : Int) ≤ 1000 := by omega
      obtain ⟨x, hx⟩ : ∃ x, ws[j]? = some x := ⟨_, List.getElem?_eq_getElem (by rw [HL.out]; exact hjl)⟩
      obtain ⟨b0, off, rfl, hlt0, k0⟩ := ei_at R1.out hx
      by_cases hg : x > (hotK ws j).2
      · have HN := Lib.hid (show hotK ws (j + 1) = ((j : Int), x) by show (match ws[j]? with | some x => _ | none => _) = _; rw [hx]; exact if_pos hg)
        have hg2 : (hotK ws j).2 < x := hg
        obtain ⟨s, hs⟩ : ∃ s, s = hotK ws j := ⟨_, rfl⟩
        rw [← hs] at hg hg2 ⊢
        clear hs hx hlt0
        go_wp2
        exact ⟨⟨j + 1, by omega, by simp, by rw [HN.out], by rw [HN.out], trivial⟩, by simp [intOf]; omega⟩
      · have HN := Lib.hid (show hotK ws (j + 1) = hotK ws j by show (match ws[j]? with | some x => _ | none => _) = _; rw [hx]; exact if_neg hg)
        have hg2 : ¬ (hotK ws j).2 < x := hg
        obtain ⟨s, hs⟩ : ∃ s, s = hotK ws j := ⟨_, rfl⟩
        rw [← hs] at hg hg2 HN ⊢
        clear hs hx hlt0
        go_wp2
        exact ⟨⟨j + 1, by omega, by simp, by rw [HN.out], by rw [HN.out], trivial⟩, by simp [intOf]; omega⟩
    · have hj1 : ¬ (j : Int) < (L : Int) := by omega
      have e : j = L := by omega
      have HE := Lib.hid e
      clear e
      go_wp2
      go_ret2
      exact ⟨by rw [HE.out]; rfl, B1.out⟩
end Go.Proofs.Ytilnpeekajnlhaa
namespace Go.Proofs.Ytilnpeekajnlhaa
open Go.RowKit Go.Maps
abbrev jA : ByteArray := ⟨#[97]⟩
abbrev jB : ByteArray := ⟨#[98]⟩
abbrev jM : ByteArray := ⟨#[109]⟩
abbrev jZ : ByteArray := ⟨#[122]⟩
abbrev q1 : MG := ⟨4, 1, jA, jZ, emptyS, 0⟩
abbrev q2 : MG := ⟨1, 2, jB, emptyS, emptyS, 0⟩
abbrev q3 : MG := ⟨4, 1, jA, jM, emptyS, 0⟩
abbrev q4 : MG := ⟨4, 1, jM, jZ, emptyS, 0⟩
abbrev jp : List ByteArray := [jM]
theorem lv_ok : OkA [q1, q2] := by
  intro x hx
  simp at hx
  rcases hx with rfl | rfl <;> refine ⟨?_, ?_, ?_⟩ <;> decide
theorem lv_ok3 : OkA [q3, q2] := by
  intro x hx
  simp at hx
  rcases hx with rfl | rfl <;> refine ⟨?_, ?_, ?_⟩ <;> decide
theorem lv_ok4 : OkA [q4] := by
  intro x hx
  simp at hx
  subst hx
  refine ⟨?_, ?_, ?_⟩ <;> decide
theorem lv_for0 : forL emptyS jM [q1, q2] = [q3, q2] := by
  have e1 : clipM q1 emptyS jM = (q3, true) := by
    simp [clipM, isPt, meetF, meetE, sb, emp, lt, maxS, firstS, bef, toList_eq, Op.bytesLess, overM]
  have e2 : clipM q2 emptyS jM = (q2, true) := by
    simp [clipM, isPt, sb, has, emp, lt, toList_eq, Op.bytesLess]
  simp [forL, e1, e2]
theorem lv_for1 : forL jM emptyS [q1, q2] = [q4] := by
  have e1 : clipM q1 jM emptyS = (q4, true) := by
    simp [clipM, isPt, meetF, meetE, sb, emp, lt, maxS, firstS, bef, toList_eq, Op.bytesLess, overM]
  have e2 : (clipM q2 jM emptyS).2 = false := by
    simp [clipM, isPt, sb, has, emp, lt, toList_eq, Op.bytesLess]
  simp [forL, e1, e2]
theorem lv_rightM : rightB [q1, q2] = true := by
  refine right_yes (fun i hi => ?_)
  have : i = 0 ∨ i = 1 := by simp at hi; omega
  rcases this with rfl | rfl
  · rw [rcI_zero rfl]; simp [rcX, isPt, sb, spF, spT, emp, lt, toList_eq, Op.bytesLess]
  · rw [rcI_succ (p := q1) (x := q2) rfl rfl]; simp [rcX, rcP, aheadM, isPt, sb, spF, spT, emp, lt, toList_eq, Op.bytesLess]
theorem lv_rightP : Pv.rightB jp emptyS emptyS = true := by
  simp [Pv.rightB, Pv.inK, Pv.risesB, Pv.riseK, Pv.at_, sb, emp, lt, ByteArray.toList_eq, Op.bytesLess]
theorem lv_many : Pv.many jp emptyS emptyS = 2 := by unfold Pv.many; rw [if_pos lv_rightP]; rfl
theorem lv_upto : Pv.upto jp emptyS emptyS 2 = [(0, emptyS, jM), (1, jM, emptyS)] := by
  simp [Pv.upto, Pv.prtOf, Pv.pF, Pv.pT, Pv.at_, List.range_succ]
theorem lv_wgts : wgts jp emptyS emptyS [q1, q2] = [35, 18] := by
  unfold wgts
  rw [lv_many, lv_upto]
  show [wgt _ _, wgt _ _] = _
  have e0 : wgt [q1, q2] (0, emptyS, jM) = 35 := by show byN (forL emptyS jM [q1, q2]) = 35; rw [lv_for0]; rfl
  have e1 : wgt [q1, q2] (1, jM, emptyS) = 18 := by show byN (forL jM emptyS [q1, q2]) = 18; rw [lv_for1]; rfl
  rw [e0, e1]
theorem lv_hok : ∀ x ∈ Pv.upto jp emptyS emptyS (Pv.many jp emptyS emptyS), OkA (forL x.2.1 x.2.2 [q1, q2]) := by
  rw [lv_many, lv_upto]
  intro x hx
  simp at hx
  rcases hx with rfl | rfl
  · show OkA (forL emptyS jM [q1, q2]); rw [lv_for0]; exact lv_ok3
  · show OkA (forL jM emptyS [q1, q2]); rw [lv_for1]; exact lv_ok4
theorem lv_hot : hotK [35, 18] 2 = (0, 35) := by decide
theorem lv_prt : Pv.prt jp jM = 1 := by simp [Pv.prt, Pv.prtK, Pv.at_, lt, ByteArray.toList_eq, Op.bytesLess]
theorem lv_wi : [q1, q2].all (wiR emptyS emptyS) = true := by
  simp [wiR, sb, spF, spT, isPt, emp, lt, bef, toList_eq, Op.bytesLess]
theorem lv_kids : kidsB [5, 6] = true := by decide
theorem lv_kid : kidL jp emptyS emptyS 0 [q1, q2] = [q3, q2] := by
  have e : Pv.spanB jp emptyS emptyS 0 = true := by unfold Pv.spanB; rw [lv_rightP]; rfl
  unfold kidL Pv.spanF
  rw [if_pos e, if_pos e]
  exact lv_for0
theorem lv_rn : RN 2 1 2 0 jp [5, 6] [q1, q2] emptyS emptyS := ⟨rfl, rfl, rfl, lv_rightP, lv_kids, lv_rightM, lv_wi⟩
end Go.Proofs.Ytilnpeekajnlhaa
namespace Go.Proofs.Ytilnpeekajnlhaa
open Go.RowKit Go.Maps
set_option maxRecDepth 100000 in
set_option maxHeartbeats 8000000 in
theorem live_true (w : World) : Calls Try.prog 9 #[] w fun r w' => r = .returned (.bool true) ∧ Below w.heap.size w w' := by
  obtain ⟨V, hV⟩ : ∃ V, V = (((w.alloc (.cells #[.string jM] 9)).alloc (.cells #[.int .i64 5, .int .i64 6] 3)).alloc (.cells #[.int .u8 4, .int .i64 1, .string jA, .string jZ, .string emptyS, .int .u64 0, .int .u8 1, .int .i64 2, .string jB, .string emptyS, .string emptyS, .int .u64 0] 62)).alloc (NO 2 (.slice (some ⟨w.heap.size, 0, none⟩) 1 1) (.slice (some ⟨w.heap.size + 1, 0, none⟩) 2 2) (.slice (some ⟨w.heap.size + 1 + 1, 0, none⟩) 2 2) (.slice none 0 0)) := ⟨_, rfl⟩
  have b1 := alb w (.cells #[.string jM] 9)
  have b2 := alb (w.alloc (.cells #[.string jM] 9)) (.cells #[.int .i64 5, .int .i64 6] 3)
  have b3 := alb ((w.alloc (.cells #[.string jM] 9)).alloc (.cells #[.int .i64 5, .int .i64 6] 3)) (.cells #[.int .u8 4, .int .i64 1, .string jA, .string jZ, .string emptyS, .int .u64 0, .int .u8 1, .int .i64 2, .string jB, .string emptyS, .string emptyS, .int .u64 0] 62)
  have b4 := alb (((w.alloc (.cells #[.string jM] 9)).alloc (.cells #[.int .i64 5, .int .i64 6] 3)).alloc (.cells #[.int .u8 4, .int .i64 1, .string jA, .string jZ, .string emptyS, .int .u64 0, .int .u8 1, .int .i64 2, .string jB, .string emptyS, .string emptyS, .int .u64 0] 62)) (NO 2 (.slice (some ⟨w.heap.size, 0, none⟩) 1 1) (.slice (some ⟨w.heap.size + 1, 0, none⟩) 2 2) (.slice (some ⟨w.heap.size + 1 + 1, 0, none⟩) 2 2) (.slice none 0 0))
  have rP := RE.Rd.lit (E := ES) w 9 [jM] #[.string jM] rfl
  have rK := RE.Rd.lit (E := EI) (w.alloc (.cells #[.string jM] 9)) 3 [5, 6] #[.int .i64 5, .int .i64 6] rfl
  have rM := RE.Rd.lit (E := EG) ((w.alloc (.cells #[.string jM] 9)).alloc (.cells #[.int .i64 5, .int .i64 6] 3)) 62 [q1, q2] #[.int .u8 4, .int .i64 1, .string jA, .string jZ, .string emptyS, .int .u64 0, .int .u8 1, .int .i64 2, .string jB, .string emptyS, .string emptyS, .int .u64 0] rfl
  have hz := heap_alloc_new (((w.alloc (.cells #[.string jM] 9)).alloc (.cells #[.int .i64 5, .int .i64 6] 3)).alloc (.cells #[.int .u8 4, .int .i64 1, .string jA, .string jZ, .string emptyS, .int .u64 0, .int .u8 1, .int .i64 2, .string jB, .string emptyS, .string emptyS, .int .u64 0] 62)) (NO 2 (.slice (some ⟨w.heap.size, 0, none⟩) 1 1) (.slice (some ⟨w.heap.size + 1, 0, none⟩) 2 2) (.slice (some ⟨w.heap.size + 1 + 1, 0, none⟩) 2 2) (.slice none 0 0))
  simp only [World.size_alloc] at rK rM hz
  have hP : ES.Rd V (some ⟨w.heap.size, 0, none⟩) [jM] := by rw [hV]; exact rP.later (bel_trans (bel_trans b2 b3) b4)
  have hK : EI.Rd V (some ⟨w.heap.size + 1, 0, none⟩) [5, 6] := by rw [hV]; exact rK.later (bel_trans b3 b4)
  have hM : EG.Rd V (some ⟨w.heap.size + 1 + 1, 0, none⟩) [q1, q2] := by rw [hV]; exact rM.later b4
  have Z0 : V.heap[w.heap.size + 1 + 1 + 1]? = some (NO 2 (.slice (some ⟨w.heap.size, 0, none⟩) 1 1) (.slice (some ⟨w.heap.size + 1, 0, none⟩) 2 2) (.slice (some ⟨w.heap.size + 1 + 1, 0, none⟩) 2 2) (.slice none 0 0)) := by rw [hV]; exact hz
  have hb : Below w.heap.size w V := by rw [hV]; exact bel_trans (bel_trans (bel_trans b1 b2) b3) b4
  have AF : Hid (∀ W, Below V.heap.size V W → Calls Try.prog 18 #[NV 2 (.slice (some ⟨w.heap.size, 0, none⟩) 1 1) (.slice (some ⟨w.heap.size + 1, 0, none⟩) 2 2) (.slice (some ⟨w.heap.size + 1 + 1, 0, none⟩) 2 2) (.slice none 0 0), .agg #[.string emptyS, .string emptyS], .int .i64 0] W fun r w' => (∃ A' c', r = .returned (.slice A' 2 c') ∧ EG.Row w' W.heap.size A' [q3, q2] c') ∧ Below W.heap.size W w') := Lib.hid (fun W h => by
    have q := ifor_any 2 (some ⟨w.heap.size, 0, none⟩) (some ⟨w.heap.size + 1, 0, none⟩) (some ⟨w.heap.size + 1 + 1, 0, none⟩) none 1 1 2 2 2 2 0 0 jp [q1, q2] emptyS emptyS 0 W rfl (by omega) (es_rd.1 (hP.later h)) rfl rfl (by omega) (hM.later h) lv_ok
    rw [lv_kid] at q
    exact q)
  have AH : Hid (∀ W, Below V.heap.size V W → Calls Try.prog 35 #[NV 2 (.slice (some ⟨w.heap.size, 0, none⟩) 1 1) (.slice (some ⟨w.heap.size + 1, 0, none⟩) 2 2) (.slice (some ⟨w.heap.size + 1 + 1, 0, none⟩) 2 2) (.slice none 0 0), .agg #[.string emptyS, .string emptyS]] W fun r w' => r = .returned (.tuple #[.int .i64 0, .int .i64 35]) ∧ Below W.heap.size W w') := Lib.hid (fun W h => by
    have q := hot_any 2 (some ⟨w.heap.size, 0, none⟩) (some ⟨w.heap.size + 1, 0, none⟩) (some ⟨w.heap.size + 1 + 1, 0, none⟩) none 1 1 2 2 2 2 0 0 jp [q1, q2] emptyS emptyS W rfl (by omega) (es_rd.1 (hP.later h)) rfl (by omega) (by omega) (hM.later h) lv_ok lv_hok
    rw [lv_wgts, show ([35, 18] : List Int).length = 2 from rfl, lv_hot] at q
    exact q)
  have AK : Hid (∀ W, Below V.heap.size V W → Calls Try.prog 36 #[NV 2 (.slice (some ⟨w.heap.size, 0, none⟩) 1 1) (.slice (some ⟨w.heap.size + 1, 0, none⟩) 2 2) (.slice (some ⟨w.heap.size + 1 + 1, 0, none⟩) 2 2) (.slice none 0 0), .string jM] W fun r w' => r = .returned (.tuple #[.int .i64 1, .bool true]) ∧ Below W.heap.size W w') := Lib.hid (fun W h => by
    have q := kid_any 2 (some ⟨w.heap.size, 0, none⟩) (some ⟨w.heap.size + 1, 0, none⟩) (some ⟨w.heap.size + 1 + 1, 0, none⟩) none 1 1 2 2 2 2 0 0 jp jM W rfl (by omega) (es_rd.1 (hP.later h)) rfl
    rw [lv_prt] at q
    exact q)
  have AR : Hid (∀ W, Below V.heap.size V W → Calls Try.prog 16 #[NV 2 (.slice (some ⟨w.heap.size, 0, none⟩) 1 1) (.slice (some ⟨w.heap.size + 1, 0, none⟩) 2 2) (.slice (some ⟨w.heap.size + 1 + 1, 0, none⟩) 2 2) (.slice none 0 0), .agg #[.string emptyS, .string emptyS]] W fun r w' => r = .returned (.bool true) ∧ Below W.heap.size W w') := Lib.hid (fun W h => iright_true 2 (some ⟨w.heap.size, 0, none⟩) (some ⟨w.heap.size + 1, 0, none⟩) (some ⟨w.heap.size + 1 + 1, 0, none⟩) none 1 1 2 2 2 2 0 0 jp [5, 6] [q1, q2] emptyS emptyS W rfl (by omega) (es_rd.1 (hP.later h)) rfl (hK.later h) (by intro x hx; simp at hx; rcases hx with rfl | rfl <;> decide) rfl (by omega) (hM.later h) lv_ok lv_rn)
  have HW := Lib.hid hb
  have Z := Lib.hid Z0
  have H0 := Lib.hid (Below.refl V.heap.size V)
  have HV := Lib.hid hV
  clear b1 b2 b3 b4 rP rK rM hz hP hK hM Z0 hb hV
  go_enter Try.func9, Try.ntmps9
  go_wp2_with (first
    | (go_at_call 18; ((with_reducible refine (AF.out _ (by rw [← HV.out]; exact Below.refl _ _)).mono ?_); rintro e w1 ⟨⟨A1, a1, rfl, r1⟩, b⟩; rw [← HV.out] at b; have R1 := Lib.hid r1.rd; replace H0 := Lib.hid b; replace Z := Lib.hid (keep_bel b Z.out); obtain ⟨c0, c1, c2, c3, c4⟩ := cells5 Z.out; clear b r1))
    | (go_at_call 35; ((with_reducible refine (AH.out _ H0.out).mono ?_); rintro e w2 ⟨rfl, b⟩; replace R1 := Lib.hid (R1.out.later b); replace H0 := Lib.hid (bel_trans H0.out b); replace Z := Lib.hid (keep_bel b Z.out); clear b c0 c1 c2 c3 c4; obtain ⟨c0, c1, c2, c3, c4⟩ := cells5 Z.out))
    | (go_at_call 36; ((with_reducible refine (AK.out _ H0.out).mono ?_); rintro e w3 ⟨rfl, b⟩; replace R1 := Lib.hid (R1.out.later b); replace H0 := Lib.hid (bel_trans H0.out b); replace Z := Lib.hid (keep_bel b Z.out); clear b c0 c1 c2 c3 c4; obtain ⟨c0, c1, c2, c3, c4⟩ := cells5 Z.out))
    | (go_at_call 16; ((with_reducible refine (AR.out _ H0.out).mono ?_); rintro e w4 ⟨rfl, b⟩; replace R1 := Lib.hid (R1.out.later b); replace H0 := Lib.hid (bel_trans H0.out b); replace Z := Lib.hid (keep_bel b Z.out); clear b c0 c1 c2 c3 c4; obtain ⟨c0, c1, c2, c3, c4⟩ := cells5 Z.out; obtain ⟨b0, off, rfl, _, _, _, _, g3, _, _⟩ := eg_at R1.out (i := 0) rfl; simp only [Nat.zero_mul, Nat.add_zero] at g3))
    | fail)
  go_ret
  exact ⟨rfl, bel_trans HW.out H0.out⟩
end Go.Proofs.Ytilnpeekajnlhaa
