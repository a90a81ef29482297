/- Pack. -/
import Derived.Test.YteiifcmdpoonmaaN8
namespace Go.Proofs.Yteiifcmdpoonmaa
set_option linter.unusedSimpArgs false
open Go.RowKit Go.Maps Go.Shelf
set_option linter.unusedVariables false
/-- What lies between the rounds of Pack. -/
def PkI (w : World) (b : Nat) (L : List UInt8) (W : World) : Prop := Bd b b L W ∧ Below w.heap.size w W ∧ w.heap.size ≤ b ∧ b ≤ W.heap.size
theorem PkI.bel {w W : World} {b : Nat} {L : List UInt8} (h : PkI w b L W) : Below w.heap.size w W := h.2.1
theorem PkI.bd {w W : World} {b : Nat} {L : List UInt8} (h : PkI w b L W) : Bd b b L W := h.1
theorem PkI.size {w W : World} {b : Nat} {L : List UInt8} (h : PkI w b L W) : b ≤ W.heap.size := h.2.2.2
theorem PkI.low {w W : World} {b : Nat} {L : List UInt8} (h : PkI w b L W) : w.heap.size ≤ b := h.2.2.1
theorem bd_lt {B b : Nat} {l : List UInt8} {w : World} (h : Bd B b l w) : b < w.heap.size := by
  rcases h with h | h <;> exact (Array.getElem?_eq_some_iff.1 h.2.choose_spec.1).1
theorem PkI.later {w wr W : World} {b : Nat} {L : List UInt8} (h : PkI w b L wr) (hb : Below wr.heap.size wr W) : PkI w b L W :=
  ⟨h.1.bel hb, bel_step h.2.1 hb (Nat.le_refl _), h.2.2.1, Nat.le_trans h.2.2.2 hb.size⟩
theorem PkI.next {w wr W : World} {b : Nat} {L M : List UInt8} (h : PkI w b L wr) (hd : Bd b b M W) (hb : Below b wr W) : PkI w b M W :=
  ⟨hd, h.2.1.trans (hb.mono h.2.2.1), h.2.2.1, Nat.le_trans h.2.2.2 hb.size⟩
theorem pk_room {L u : List UInt8} {t : ByteArray} (h1 : L.length ≤ 5 + 1000000 * 2000015) (h2 : t.size ≤ 5) (h3 : u.length ≤ 2000010) : (L ++ t.data.toList).length + (⟨u.toArray⟩ : ByteArray).size ≤ 140737488355328 := by
  have h4 : t.data.toList.length = t.size := by simp
  have h5 : (⟨u.toArray⟩ : ByteArray).size = u.length := rfl
  rw [List.length_append, h4, h5]
  omega
theorem lastK_size {m : Nat} (xs : List TT) (h : ∀ x ∈ xs, x.1.size ≤ m) : (lastK ⟨#[]⟩ xs).size ≤ m := by
  have go : ∀ (xs : List TT) (a : ByteArray), a.size ≤ m → (∀ x ∈ xs, x.1.size ≤ m) → (lastK a xs).size ≤ m := by
    intro xs
    induction xs with
    | nil => intro a h _; exact h
    | cons x xs ih => intro a _ h; exact ih x.1 (h x (List.mem_cons_self ..)) (fun y hy => h y (List.mem_cons_of_mem _ hy))
  exact go xs _ (by show 0 ≤ m; omega) h
theorem cell0 {W : World} {g : Nat} {u v : Value} {t : TypeId} (h : W.heap[g]? = some (.cells #[u, v] t (0, 0))) : W.cell? ⟨g, 0, none⟩ = some u := by simp [World.cell?, h]
theorem cell1 {W : World} {g : Nat} {u v : Value} {t : TypeId} (h : W.heap[g]? = some (.cells #[u, v] t (0, 0))) : W.cell? ⟨g, 1, none⟩ = some v := by simp [World.cell?, h]
set_option maxHeartbeats 4000000 in
set_option maxRecDepth 100000 in
theorem pack_in (A : Option Addr) (n c : Nat) (xs : List TT) (w : World) (hl : xs.length = n) (hn : n ≤ 1000000) (hA : RdT w A xs) (hz : ∀ x ∈ xs, x.1.size ≤ 1000000 ∧ x.2.size ≤ 1000000) (hr : ris xs) :
    Calls Try.prog 13 #[.slice A n c] w fun e w' => e = .returned (.string ⟨(pkB xs).toArray⟩) ∧ Below w.heap.size w w' := by
  have HL := Lib.hid hl
  have HZ := Lib.hid hz
  have HA : Hid (∀ W, Below w.heap.size w W → RdT W A xs) := Lib.hid (fun W hW => rdt_later hA hW)
  have q0 : ¬ (2147483647 : Int) < (n : Int) := by omega
  have RI : Hid (Calls Try.prog 25 #[.slice A n c] w fun e w' => e = .returned (.bool true) ∧ Below w.heap.size w w') := Lib.hid ((rises_any A n c xs w hl (by omega) hA).mono (fun e w' h => by
    obtain ⟨⟨b, rfl, hb⟩, h2⟩ := h
    rw [hb.2 hr]; exact ⟨rfl, h2⟩))
  obtain ⟨tl, htl⟩ : ∃ t, t = numF (n : Int) := ⟨_, rfl⟩
  have hts := numF_size (n : Int)
  rw [← htl] at hts
  have NL : Hid (∀ W, Calls Try.prog 27 #[.int .i64 n] W fun e w' => e = .returned (.string tl) ∧ Below W.heap.size W w') := Lib.hid (fun W => by rw [htl]; exact num_any n W)
  have HTL : Hid (∀ l, (numF (xs.length : Int)).data.toList ++ l = tl.data.toList ++ l) := Lib.hid (fun l => by rw [htl, hl])
  have HTS := Lib.hid hts
  clear hl hz hA htl hts
  go_enter Try.func13, Try.ntmps13
  go_wp2_with (first
    | (go_at_call 25; ((with_reducible refine RI.out.mono ?_); rintro e w1 ⟨rfl, b1⟩; have B1 := Lib.hid b1; clear b1))
    | (go_at_call 27; ((with_reducible refine (NL.out _).mono ?_); rintro e w2 ⟨rfl, b2⟩; have BD := Lib.hid ((Bd.new w1).bel b2); have B2 := Lib.hid (((alb w1 _).trans (b2.mono (by simp)))); clear b2))
    | (go_at_call 26; ((with_reducible refine (writeString_any w1.heap.size w1.heap.size [] tl _ BD.out (by have := HTS.out; simp; omega) (by have := B2.out.size; omega)).mono ?_); rintro e w3 ⟨rfl, bd3, b3, _⟩; have I3 : Hid (PkI w w1.heap.size (tl.data.toList ++ pkL ⟨#[]⟩ (xs.take 0)) w3) := Lib.hid ⟨by simpa [pkL, runE] using bd3, B1.out.trans ((B2.out.mono B1.out.size).trans (b3.mono B1.out.size)), B1.out.size, Nat.le_trans B2.out.size b3.size⟩; clear bd3 b3))
    | fail)
  obtain ⟨bb, hbb⟩ : ∃ b, b = w1.heap.size := ⟨_, rfl⟩
  rw [← hbb] at I3 ⊢
  clear B1 B2 BD hbb
  go_loopw [4, 22] (fun av iv wr => ∃ k : Nat, k ≤ n ∧ iv = .int .i64 k ∧ av = .string (lastK ⟨#[]⟩ (xs.take k)) ∧ PkI w bb (tl.data.toList ++ pkL ⟨#[]⟩ (xs.take k)) wr) (fun _ i _ => n - (intOf i).toNat)
  case atStart => exact ⟨0, by omega, rfl, rfl, I3.out⟩
  case round =>
    obtain ⟨k, hk, rfl, rfl, hI⟩ := hrel
    have HI := Lib.hid hI
    clear hI
    by_cases h8 : k < n
    · have hk1 : (k : Int) < (n : Int) := by omega
      have hk0 : (0 : Int) ≤ (k : Int) := by omega
      obtain ⟨x, hx⟩ : ∃ x, xs[k]? = some x := ⟨_, List.getElem?_eq_getElem (by rw [HL.out]; omega)⟩
      obtain ⟨b, off, rfl, hlt, g0, g1⟩ := rdt_get (HA.out wr HI.out.bel) hx
      have hst := pk_step hx
      have hlen := pkL_len ⟨#[]⟩ (xs.take k) 1000000 (fun y hy => HZ.out y (List.mem_of_mem_take hy))
      have hlt2 : (xs.take k).length ≤ k := by simp; omega
      have hzx := HZ.out x (List.mem_of_getElem? hx)
      obtain ⟨a, ha⟩ : ∃ a, a = lastK ⟨#[]⟩ (xs.take k) := ⟨_, rfl⟩
      have hza : a.size ≤ 1000000 := by rw [ha]; exact lastK_size _ (fun y hy => (HZ.out y (List.mem_of_mem_take hy)).1)
      rw [← ha] at hst ⊢
      obtain ⟨x0, x1⟩ := x
      simp only at g0 g1 hst hzx
      have hhl := shB_le a x0
      have sh := shared_any a x0
      obtain ⟨h, hh⟩ : ∃ h, h = shB a x0 := ⟨_, rfl⟩
      rw [← hh] at hst hhl
      have SH : Hid (∀ W, Calls Try.prog 28 #[.string a, .string x0] W fun e w' => e = .returned (.int .i64 h) ∧ Below W.heap.size W w') := Lib.hid (fun W => by rw [hh]; exact sh W (by unfold maxLen; omega) (by unfold maxLen; omega))
      obtain ⟨t, ht⟩ : ∃ t, t = numF (h : Int) := ⟨_, rfl⟩
      have hts := numF_size (h : Int)
      have tex := cat_size [x0.extract h x0.size, x1] 1000000 (by
        intro s hs
        simp only [List.mem_cons, List.not_mem_nil, or_false] at hs
        rcases hs with rfl | rfl
        · exact Nat.le_trans (ext_size _ _) hzx.1
        · exact hzx.2)
      have htx : ∀ s ∈ [x0.extract h x0.size, x1], s.size ≤ 1000000 := by
        intro s hs
        simp only [List.mem_cons, List.not_mem_nil, or_false] at hs
        rcases hs with rfl | rfl
        · exact Nat.le_trans (ext_size _ _) hzx.1
        · exact hzx.2
      rw [← ht] at hts hst
      have NM : Hid (∀ W, Calls Try.prog 27 #[.int .i64 h] W fun e w' => e = .returned (.string t) ∧ Below W.heap.size W w') := Lib.hid (fun W => by rw [ht]; exact num_any (h : Int) W)
      obtain ⟨u, hu⟩ : ∃ u, u = cat [x0.extract h x0.size, x1] := ⟨_, rfl⟩
      have hul : ([x0.extract h x0.size, x1] : List ByteArray).length = 2 := rfl
      rw [hul] at tex
      rw [← hu] at hst tex
      have TX : Hid (∀ W : World, ∀ B, Rd W W.heap.size (some ⟨B, 0, none⟩) ([x0.extract h x0.size, x1].map Value.string) → Calls Try.prog 29 #[.slice (some ⟨B, 0, none⟩) 2 2] W fun e w' => e = .returned (.string ⟨u.toArray⟩) ∧ Below W.heap.size W w') := Lib.hid (fun W B hB => by rw [hu]; exact texts_any _ 2 2 [x0.extract h x0.size, x1] W rfl (by omega) hB htx)
      obtain ⟨L, hL⟩ : ∃ L, L = tl.data.toList ++ pkL ⟨#[]⟩ (xs.take k) := ⟨_, rfl⟩
      have hLl : L.length ≤ 5 + 1000000 * 2000015 := by
        have h1 := HTS.out
        have h2 : tl.data.toList.length = tl.size := by simp
        have h3 : (xs.take k).length * (15 + 2 * 1000000) ≤ 1000000 * 2000015 := Nat.mul_le_mul (by omega) (by omega)
        rw [hL, List.length_append, h2]; omega
      have HST : Hid (tl.data.toList ++ pkL ⟨#[]⟩ (xs.take (k + 1)) = L ++ t.data.toList ++ u ∧ lastK ⟨#[]⟩ (xs.take (k + 1)) = x0) := Lib.hid ⟨by rw [hst.1, hL]; simp, hst.2⟩
      rw [← hL] at HI
      have HLL := Lib.hid hLl
      have HUL : Hid (u.length ≤ 2000010) := Lib.hid (by omega)
      have HTL2 : Hid (t.size ≤ 5) := Lib.hid hts
      have hn9 : h ≤ x0.size := hhl
      have Z0 := Lib.hid (heap_alloc_new wr (.cells #[.string x0, .string x1] 30))
      have AB := Lib.hid (alb wr (.cells #[.string x0, .string x1] 30))
      clear hst hlen hlt2 hzx ha hza hhl sh hh ht hts tex htx hu hul hL hLl hx hlt
      go_wp2_with (first
        | (go_at_call 28; ((with_reducible refine (SH.out _).mono ?_); rintro e w1 ⟨rfl, b1⟩; have B1 := Lib.hid (bel_trans AB.out b1); have Z1 := Lib.hid (keep_bel b1 Z0.out); have d1 : w1.cell? ⟨wr.heap.size, 0, none⟩ = some (.string x0) := cell0 Z1.out; have d2 : w1.cell? ⟨wr.heap.size, 1, none⟩ = some (.string x1) := cell1 Z1.out; clear b1))
        | (go_at_call 27; ((with_reducible refine (NM.out _).mono ?_); rintro e w2 ⟨rfl, b2⟩; have B2 := Lib.hid (bel_trans B1.out b2); have Z2 := Lib.hid (keep_bel b2 Z1.out); clear b2))
        | (go_at_call 26; ((with_reducible refine (writeString_any bb bb L t _ (HI.out.later B2.out).bd (by have h1 := HLL.out; have h2 := HTL2.out; omega) (HI.out.later B2.out).size).mono ?_); rintro e w3 ⟨rfl, bd3, b3, ko3⟩; have I3 : Hid (PkI w bb (L ++ t.data.toList) w3) := Lib.hid ((HI.out.later B2.out).next bd3 b3); have Z3 := Lib.hid (ko3 _ _ Z2.out (by have := bd_lt HI.out.bd; intro e; injection e with e; omega) (by intro c fz e; cases e)); clear d1 d2 bd3 b3 ko3))
        | fail)
      have e1 : w3.cell? ⟨wr.heap.size, 0, none⟩ = some (.string x0) := cell0 Z3.out
      have e2 : w3.cell? ⟨wr.heap.size, 1, none⟩ = some (.string x1) := cell1 Z3.out
      go_region_law (first
        | (go_simp; go_at_call 29; go_must (refine (TX.out _ _ (rd_drew (lit2_rd w3 9 _ _))).mono ?_; rintro e w4 ⟨rfl, b4⟩; have B4 := Lib.hid (bel_ac b4); have Z4 := Lib.hid (keep_bel B4.out Z3.out); have e3 : w4.cell? ⟨wr.heap.size, 0, none⟩ = some (.string x0) := cell0 Z4.out; have e4 : w4.cell? ⟨wr.heap.size, 1, none⟩ = some (.string x1) := cell1 Z4.out; clear b4))
        | (go_simp; go_at_call 26; go_must (refine (writeString_any bb bb (L ++ t.data.toList) ⟨u.toArray⟩ _ (I3.out.later B4.out).bd (pk_room HLL.out HTL2.out HUL.out) (I3.out.later B4.out).size).mono ?_; rintro e w5 ⟨rfl, bd5, b5, ko5⟩; have I5 : Hid (PkI w bb (L ++ t.data.toList ++ u) w5) := Lib.hid (by have q := (I3.out.later B4.out).next bd5 b5; simpa using q); have Z5 := Lib.hid (ko5 _ _ Z4.out (by have := bd_lt HI.out.bd; intro e; injection e with e; omega) (by intro c fz e; cases e)); have e5 : w5.cell? ⟨wr.heap.size, 0, none⟩ = some (.string x0) := cell0 Z5.out; clear bd5 b5 ko5))
        | fail)
      all_goals
        go_wp2
        refine ⟨⟨k + 1, by omega, by simp, by rw [HST.out.2], by rw [HST.out.1]; exact I5.out⟩, by simp [intOf]; omega⟩
    · obtain rfl : k = n := by omega
      have hk1 : ¬ (k : Int) < (k : Int) := by omega
      have he : xs.take k = xs := by rw [← HL.out]; exact List.take_length
      rw [he] at HI
      have hpk : pkB xs = tl.data.toList ++ pkL ⟨#[]⟩ xs := HTL.out _
      have HPK := Lib.hid hpk
      obtain ⟨L, hL⟩ : ∃ L, L = tl.data.toList ++ pkL ⟨#[]⟩ xs := ⟨_, rfl⟩
      rw [← hL] at HI HPK
      clear hL hpk he
      go_wp2_with (first
        | (go_at_call 30; ((with_reducible refine (string_any bb bb L _ HI.out.bd HI.out.size).mono ?_); rintro e w5 ⟨rfl, b5, _⟩; have B5 := Lib.hid (HI.out.bel.trans (b5.mono HI.out.low)); clear b5))
        | fail)
      go_ret
      exact ⟨by rw [HPK.out]; rfl, B5.out⟩
set_option maxHeartbeats 2000000 in
theorem pack_not (A : Option Addr) (n c : Nat) (xs : List TT) (w : World) (hl : xs.length = n) (hn : n ≤ 1000000) (hA : RdT w A xs) (hr : ¬ ris xs) :
    Calls Try.prog 13 #[.slice A n c] w fun e w' => e = .returned (.string ⟨#[]⟩) ∧ Below w.heap.size w w' := by
  have q0 : ¬ (2147483647 : Int) < (n : Int) := by omega
  have RI : Hid (Calls Try.prog 25 #[.slice A n c] w fun e w' => e = .returned (.bool false) ∧ Below w.heap.size w w') := Lib.hid ((rises_any A n c xs w hl (by omega) hA).mono (fun e w' h => by
    obtain ⟨⟨b, rfl, hb⟩, h2⟩ := h
    cases b with
    | false => exact ⟨rfl, h2⟩
    | true => exact absurd (hb.1 rfl) hr))
  clear hl hA
  go_enter Try.func13, Try.ntmps13
  go_wp2_with (first
    | (go_at_call 25; ((with_reducible refine RI.out.mono ?_); rintro e w1 ⟨rfl, b1⟩; have B1 := Lib.hid b1; clear b1))
    | fail)
  go_ret
  exact ⟨rfl, B1.out⟩
/-- Pack: a block's bytes where the keys rise, else none. -/
theorem pack_any (A : Option Addr) (n c : Nat) (xs : List TT) (w : World) (hl : xs.length = n) (hn : n ≤ 1000000) (hA : RdT w A xs) (hz : ris xs → ∀ x ∈ xs, x.1.size ≤ 1000000 ∧ x.2.size ≤ 1000000) :
    Calls Try.prog 13 #[.slice A n c] w fun e w' => e = .returned (.string (pkF xs)) ∧ Below w.heap.size w w' := by
  by_cases hr : ris xs
  · have e : pkF xs = ⟨(pkB xs).toArray⟩ := by unfold pkF; rw [if_pos hr]
    rw [e]; exact pack_in A n c xs w hl hn hA (hz hr) hr
  · have e : pkF xs = ⟨#[]⟩ := by unfold pkF; rw [if_neg hr]
    rw [e]; exact pack_not A n c xs w hl hn hA hr
end Go.Proofs.Yteiifcmdpoonmaa
