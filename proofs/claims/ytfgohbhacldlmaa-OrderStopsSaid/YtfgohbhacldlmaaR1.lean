/- The document's side: rows of pairs: what is told of them. -/
import Derived.Test.YtfgohbhacldlmaaG2
namespace Go.Proofs.Ytfgohbhacldlmaa
set_option linter.unusedSimpArgs false
open Go.RowKit Go.Maps
set_option linter.unusedVariables false

theorem flp_get {L : PL} {k : Nat} {x : ByteArray × Int} (h : L[k]? = some x) : (flp L)[k * 2]? = some (.string x.1) ∧ (flp L)[k * 2 + 1]? = some (.int .i64 x.2) := by
  induction L generalizing k with
  | nil => simp at h
  | cons y L ih =>
    have e : flp (y :: L) = .string y.1 :: .int .i64 y.2 :: flp L := rfl
    cases k with
    | zero => simp at h; subst h; rw [e]; simp
    | succ k =>
      have := ih (k := k) (by simpa using h)
      rw [e, show (k + 1) * 2 = k * 2 + 1 + 1 by omega]
      simpa using this
theorem rdp_get {w : World} {A : Option Addr} {L : PL} (h : RdP w A L) {k : Nat} {x : ByteArray × Int} (hk : L[k]? = some x) : ∃ b off, A = some ⟨b, off, none⟩ ∧ b < w.heap.size ∧ w.cell? ⟨b, off + k * 2, none⟩ = some (.string x.1) ∧ w.cell? ⟨b, off + (k * 2 + 1), none⟩ = some (.int .i64 x.2) := by
  obtain ⟨h0, h1⟩ := flp_get hk
  obtain ⟨b, off, rfl, hlt, c0⟩ := Rd.get h h0
  obtain ⟨b2, off2, e2, _, c1⟩ := Rd.get h h1
  cases e2
  exact ⟨b, off, rfl, hlt, c0, c1⟩
theorem take_snoc {α : Type} {L : List α} {k : Nat} {x : α} (h : L[k]? = some x) : L.take (k + 1) = L.take k ++ [x] := by
  rw [List.take_add_one, h]; rfl
theorem fsing {α : Type} (p : α → Bool) (x : α) : [x].filter p = if p x = true then [x] else [] := by simp [List.filter_cons]
abbrev RowPostS (w : World) (L : PL) (e : Ending) (w' : World) : Prop := ∃ A c, e = .returned (.slice (some A) L.length c) ∧ RdP w' (some A) L ∧ Below w.heap.size w w' ∧ L.length ≤ c ∧ c ≤ maxLen
theorem own_some {w : World} {base : Nat} {e : TypeId} {size : Nat} {A : Option Addr} {n c : Nat} {xs : List Value} (h : w.ownsRow base e size (.slice A n c) n xs) (hne : (Value.slice A n c) ≠ .slice none 0 0) : ∃ a, A = some a ∧ c ≤ maxLen := by
  rcases h.2 with ⟨h, _⟩ | ⟨g, cap, cur, h, _, _, _, hm, _⟩
  · exact absurd h hne
  · cases h; exact ⟨_, rfl, hm⟩
theorem bel_own {w w1 w2 : World} {n : Nat} {v : Value} {xs : List Value} (h : Below w.heap.size w w1) (hg : w1.grownBy w2 v.ownBlock) (hown : w1.ownsRow w.heap.size 39 2 v n xs) : Below w.heap.size w w2 := grown_bel h hg hown (Nat.le_refl _) h.size
set_option maxHeartbeats 2000000 in
set_option maxRecDepth 100000 in
theorem rdrop_any (A : Option Addr) (n c : Nat) (L : PL) (kk : ByteArray) (w : World) (hl : L.length = n) (hn : n ≤ 1000) (hr : RdP w A L) :
    Calls Try.prog 32 #[.slice A n c, .string kk] w (RowPostS w (L.filter (fun y : ByteArray × Int => !(y.1.toList == kk.toList)))) := by
  have HR := Lib.hid hr
  have HL := Lib.hid hl
  obtain ⟨i0, hi, hz0, hz1, hz2⟩ := info_parts info39
  have hmax : (1002 : Nat) ≤ maxLen := by decide
  clear hr hl
  have oR : Hid ((w.alloc (.cells #[] 39)).ownsRow w.heap.size 39 2 (.slice (some ⟨w.heap.size, 0, none⟩) 0 0) 0 []) := Lib.hid (World.ownsRow_made w (base := w.heap.size) (e := 39) (size := 2) #[] 0 (by simp) (by simp [maxLen]) (by simp))
  have bR : Hid (Below w.heap.size w (w.alloc (.cells #[] 39))) := Lib.hid (bel_alloc (Below.refl _ _) _)
  go_enter Try.func32, Try.ntmps32
  go_wp2
  go_loopw [5, 6] (fun ov iv wr => ∃ k : Nat, k ≤ n ∧ iv = .int .i64 k ∧ wr.ownsRow w.heap.size 39 2 ov ((L.take k).filter (fun y : ByteArray × Int => !(y.1.toList == kk.toList))).length (flp ((L.take k).filter (fun y : ByteArray × Int => !(y.1.toList == kk.toList)))) ∧ Below w.heap.size w wr ∧ ov ≠ .slice none 0 0) (fun _ i _ => n - (intOf i).toNat)
  case atStart => exact ⟨0, Nat.zero_le _, rfl, by simpa [flp] using oR.out, bR.out, by simp⟩
  case round =>
    obtain ⟨k, hk, rfl, hown, hB, hne⟩ := hrel
    obtain ⟨a9, c9, rfl, _⟩ := own_shape hown
    have HE := Lib.hid hne
    clear hne
    have HO := Lib.hid hown
    have HB := Lib.hid hB
    clear hown hB
    by_cases h8 : k < n
    · have q1 : (k : Int) < (n : Int) := by omega
      have q0 : (0 : Int) ≤ (k : Int) := by omega
      have q9 : (k : Int) ≤ 1000 := by omega
      obtain ⟨x, hx⟩ : ∃ x, L[k]? = some x := ⟨_, List.getElem?_eq_getElem (by rw [HL.out]; omega)⟩
      obtain ⟨b, off, rfl, hlt, f0, f1⟩ := rdp_get HR.out hx
      have g0 : wr.cell? ⟨b, off + k * 2, none⟩ = some (.string x.1) := (bel_cell HB.out hlt).trans f0
      have g1 : wr.cell? ⟨b, off + k * 2 + 1, none⟩ = some (.int .i64 x.2) := (bel_cell HB.out hlt).trans f1
      have hst : (L.take (k + 1)).filter (fun y : ByteArray × Int => !(y.1.toList == kk.toList)) = (L.take k).filter (fun y : ByteArray × Int => !(y.1.toList == kk.toList)) ++ (if (fun y : ByteArray × Int => !(y.1.toList == kk.toList)) x = true then [x] else []) := by
        rw [take_snoc hx, List.filter_append, fsing]
      have hln : ((L.take k).filter (fun y : ByteArray × Int => !(y.1.toList == kk.toList))).length ≤ k := Nat.le_trans (List.length_filter_le _ _) (by rw [List.length_take]; omega)
      have HX := Lib.hid hst
      have HH := Lib.hid hln
      obtain ⟨x0, x1⟩ := x
      simp only at g0 g1
      clear hx f0 f1 hst hlt
      cases hp : (fun y : ByteArray × Int => !(y.1.toList == kk.toList)) (x0, x1) with
      | false =>
        have t1 : (x0.toList == kk.toList) = true := by simpa using hp
        rw [hp] at HX
        go_wp2
        refine ⟨⟨k + 1, by omega, by simp, ?_, HB.out, HE.out⟩, by simp [intOf]; omega⟩
        have e := HX.out
        simp only [Bool.false_eq_true, if_false, List.append_nil] at e
        rw [e]; exact HO.out
      | true =>
        have t1 : (x0.toList == kk.toList) = false := by simpa using hp
        rw [hp] at HX
        have e : Hid ((L.take (k + 1)).filter (fun y : ByteArray × Int => !(y.1.toList == kk.toList)) = (L.take k).filter (fun y : ByteArray × Int => !(y.1.toList == kk.toList)) ++ [(x0, x1)]) := Lib.hid (by have e := HX.out; simpa using e)
        have FA : Hid (((L.take k).filter (fun y : ByteArray × Int => !(y.1.toList == kk.toList))).length + 1 ≤ maxLen) := Lib.hid (by have := HH.out; omega)
        have FB : Hid ((((L.take k).filter (fun y : ByteArray × Int => !(y.1.toList == kk.toList))).length + 1) * 24 ≤ 140737488355328) := Lib.hid (by have := HH.out; omega)
        have FC : Hid (w.heap.size ≤ (wr.alloc (kv x0 x1)).heap.size) := Lib.hid (by have := HB.out.size; simp; omega)
        have one2 : ∀ u ∈ [Value.string x0, .int .i64 x1], u.oneCell' = true := by simp [Value.oneCell']
        clear HX hp
        go_wp2_with (at_builtin; refine wpList_append_own_at _ rfl (.tmp 21) (.tmp 26) 25 rfl w.heap.size 39 i0 (.agg #[.string ⟨#[]⟩, .int .i64 0]) 2 24 Try.underlying25 hi hz0 hz1 hz2 rfl (by decide) (.slice a9 ((L.take k).filter (fun y : ByteArray × Int => !(y.1.toList == kk.toList))).length c9) ((L.take k).filter (fun y : ByteArray × Int => !(y.1.toList == kk.toList))).length (flp ((L.take k).filter (fun y : ByteArray × Int => !(y.1.toList == kk.toList)))) rfl (HO.out.alloc _) ⟨wr.heap.size, 0, none⟩ 1 1 [.string x0, .int .i64 x1] rfl rfl (kv_new _ _ _) one2 FA.out FB.out FC.out ?_; intro v' w1 hown' hgrow hnil hat; have E1 : Hid (v' ≠ .slice none 0 0) := Lib.hid (fun e => HE.out (hnil.1 e).1); have O1 := Lib.hid hown'; have B1 := Lib.hid (bel_own (bel_alloc HB.out (kv x0 x1)) hgrow (HO.out.alloc _)); clear hown' hgrow hat hnil)
        refine ⟨⟨k + 1, by omega, by simp, ?_, B1.out, E1.out⟩, by simp [intOf]; omega⟩
        rw [e.out, flp_snoc, List.length_append]
        exact O1.out
    · have q1 : ¬ (k : Int) < (n : Int) := by omega
      obtain rfl : k = n := by omega
      go_wp2
      have e : (L.take k).filter (fun y : ByteArray × Int => !(y.1.toList == kk.toList)) = L.filter (fun y : ByteArray × Int => !(y.1.toList == kk.toList)) := by rw [List.take_of_length_le (by rw [HL.out]; omega)]
      have ho := HO.out
      rw [e] at ho ⊢
      have hc8 : (L.filter (fun y : ByteArray × Int => !(y.1.toList == kk.toList))).length ≤ c9 := by
        obtain ⟨a8, c8, e8, h⟩ := own_shape ho
        cases e8; exact h
      have hne := HE.out
      rw [e] at hne
      obtain ⟨aa, rfl, hm9⟩ := own_some ho hne
      exact bodyPost_ret (v := .slice (some aa) (L.filter (fun y : ByteArray × Int => !(y.1.toList == kk.toList))).length c9) (by simp [results, Try.results32, go_sem]) rfl ⟨aa, c9, rfl, Rd.of_own ho (by decide), HB.out, hc8, hm9⟩
set_option maxHeartbeats 2000000 in
set_option maxRecDepth 100000 in
theorem rfrom_any (A : Option Addr) (n c : Nat) (L : PL) (kk : ByteArray) (w : World) (hl : L.length = n) (hn : n ≤ 1000) (hr : RdP w A L) :
    Calls Try.prog 35 #[.slice A n c, .string kk] w (RowPostS w (L.filter (fun y : ByteArray × Int => !ltS y.1 kk))) := by
  have HR := Lib.hid hr
  have HL := Lib.hid hl
  obtain ⟨i0, hi, hz0, hz1, hz2⟩ := info_parts info39
  have hmax : (1002 : Nat) ≤ maxLen := by decide
  clear hr hl
  have oR : Hid ((w.alloc (.cells #[] 39)).ownsRow w.heap.size 39 2 (.slice (some ⟨w.heap.size, 0, none⟩) 0 0) 0 []) := Lib.hid (World.ownsRow_made w (base := w.heap.size) (e := 39) (size := 2) #[] 0 (by simp) (by simp [maxLen]) (by simp))
  have bR : Hid (Below w.heap.size w (w.alloc (.cells #[] 39))) := Lib.hid (bel_alloc (Below.refl _ _) _)
  go_enter Try.func35, Try.ntmps35
  go_wp2
  go_loopw [5, 6] (fun ov iv wr => ∃ k : Nat, k ≤ n ∧ iv = .int .i64 k ∧ wr.ownsRow w.heap.size 39 2 ov ((L.take k).filter (fun y : ByteArray × Int => !ltS y.1 kk)).length (flp ((L.take k).filter (fun y : ByteArray × Int => !ltS y.1 kk))) ∧ Below w.heap.size w wr ∧ ov ≠ .slice none 0 0) (fun _ i _ => n - (intOf i).toNat)
  case atStart => exact ⟨0, Nat.zero_le _, rfl, by simpa [flp] using oR.out, bR.out, by simp⟩
  case round =>
    obtain ⟨k, hk, rfl, hown, hB, hne⟩ := hrel
    obtain ⟨a9, c9, rfl, _⟩ := own_shape hown
    have HE := Lib.hid hne
    clear hne
    have HO := Lib.hid hown
    have HB := Lib.hid hB
    clear hown hB
    by_cases h8 : k < n
    · have q1 : (k : Int) < (n : Int) := by omega
      have q0 : (0 : Int) ≤ (k : Int) := by omega
      have q9 : (k : Int) ≤ 1000 := by omega
      obtain ⟨x, hx⟩ : ∃ x, L[k]? = some x := ⟨_, List.getElem?_eq_getElem (by rw [HL.out]; omega)⟩
      obtain ⟨b, off, rfl, hlt, f0, f1⟩ := rdp_get HR.out hx
      have g0 : wr.cell? ⟨b, off + k * 2, none⟩ = some (.string x.1) := (bel_cell HB.out hlt).trans f0
      have g1 : wr.cell? ⟨b, off + k * 2 + 1, none⟩ = some (.int .i64 x.2) := (bel_cell HB.out hlt).trans f1
      have hst : (L.take (k + 1)).filter (fun y : ByteArray × Int => !ltS y.1 kk) = (L.take k).filter (fun y : ByteArray × Int => !ltS y.1 kk) ++ (if (fun y : ByteArray × Int => !ltS y.1 kk) x = true then [x] else []) := by
        rw [take_snoc hx, List.filter_append, fsing]
      have hln : ((L.take k).filter (fun y : ByteArray × Int => !ltS y.1 kk)).length ≤ k := Nat.le_trans (List.length_filter_le _ _) (by rw [List.length_take]; omega)
      have HX := Lib.hid hst
      have HH := Lib.hid hln
      obtain ⟨x0, x1⟩ := x
      simp only at g0 g1
      clear hx f0 f1 hst hlt
      cases hp : (fun y : ByteArray × Int => !ltS y.1 kk) (x0, x1) with
      | false =>
        have t1 : Op.bytesLess x0.toList kk.toList = true := by simpa [ltS] using hp
        rw [hp] at HX
        go_wp2
        refine ⟨⟨k + 1, by omega, by simp, ?_, HB.out, HE.out⟩, by simp [intOf]; omega⟩
        have e := HX.out
        simp only [Bool.false_eq_true, if_false, List.append_nil] at e
        rw [e]; exact HO.out
      | true =>
        have t1 : Op.bytesLess x0.toList kk.toList = false := by simpa [ltS] using hp
        rw [hp] at HX
        have e : Hid ((L.take (k + 1)).filter (fun y : ByteArray × Int => !ltS y.1 kk) = (L.take k).filter (fun y : ByteArray × Int => !ltS y.1 kk) ++ [(x0, x1)]) := Lib.hid (by have e := HX.out; simpa using e)
        have FA : Hid (((L.take k).filter (fun y : ByteArray × Int => !ltS y.1 kk)).length + 1 ≤ maxLen) := Lib.hid (by have := HH.out; omega)
        have FB : Hid ((((L.take k).filter (fun y : ByteArray × Int => !ltS y.1 kk)).length + 1) * 24 ≤ 140737488355328) := Lib.hid (by have := HH.out; omega)
        have FC : Hid (w.heap.size ≤ (wr.alloc (kv x0 x1)).heap.size) := Lib.hid (by have := HB.out.size; simp; omega)
        have one2 : ∀ u ∈ [Value.string x0, .int .i64 x1], u.oneCell' = true := by simp [Value.oneCell']
        clear HX hp
        go_wp2_with (at_builtin; refine wpList_append_own_at _ rfl (.tmp 21) (.tmp 26) 25 rfl w.heap.size 39 i0 (.agg #[.string ⟨#[]⟩, .int .i64 0]) 2 24 Try.underlying25 hi hz0 hz1 hz2 rfl (by decide) (.slice a9 ((L.take k).filter (fun y : ByteArray × Int => !ltS y.1 kk)).length c9) ((L.take k).filter (fun y : ByteArray × Int => !ltS y.1 kk)).length (flp ((L.take k).filter (fun y : ByteArray × Int => !ltS y.1 kk))) rfl (HO.out.alloc _) ⟨wr.heap.size, 0, none⟩ 1 1 [.string x0, .int .i64 x1] rfl rfl (kv_new _ _ _) one2 FA.out FB.out FC.out ?_; intro v' w1 hown' hgrow hnil hat; have E1 : Hid (v' ≠ .slice none 0 0) := Lib.hid (fun e => HE.out (hnil.1 e).1); have O1 := Lib.hid hown'; have B1 := Lib.hid (bel_own (bel_alloc HB.out (kv x0 x1)) hgrow (HO.out.alloc _)); clear hown' hgrow hat hnil)
        refine ⟨⟨k + 1, by omega, by simp, ?_, B1.out, E1.out⟩, by simp [intOf]; omega⟩
        rw [e.out, flp_snoc, List.length_append]
        exact O1.out
    · have q1 : ¬ (k : Int) < (n : Int) := by omega
      obtain rfl : k = n := by omega
      go_wp2
      have e : (L.take k).filter (fun y : ByteArray × Int => !ltS y.1 kk) = L.filter (fun y : ByteArray × Int => !ltS y.1 kk) := by rw [List.take_of_length_le (by rw [HL.out]; omega)]
      have ho := HO.out
      rw [e] at ho ⊢
      have hc8 : (L.filter (fun y : ByteArray × Int => !ltS y.1 kk)).length ≤ c9 := by
        obtain ⟨a8, c8, e8, h⟩ := own_shape ho
        cases e8; exact h
      have hne := HE.out
      rw [e] at hne
      obtain ⟨aa, rfl, hm9⟩ := own_some ho hne
      exact bodyPost_ret (v := .slice (some aa) (L.filter (fun y : ByteArray × Int => !ltS y.1 kk)).length c9) (by simp [results, Try.results35, go_sem]) rfl ⟨aa, c9, rfl, Rd.of_own ho (by decide), HB.out, hc8, hm9⟩
set_option maxHeartbeats 2000000 in
set_option maxRecDepth 100000 in
theorem rcut_any (A : Option Addr) (n c : Nat) (L : PL) (f t : ByteArray) (w : World) (hl : L.length = n) (hn : n ≤ 1000) (hr : RdP w A L) :
    Calls Try.prog 33 #[.slice A n c, .string f, .string t] w (RowPostS w (L.filter (fun y : ByteArray × Int => ltS y.1 f || !ltS y.1 t))) := by
  have HR := Lib.hid hr
  have HL := Lib.hid hl
  obtain ⟨i0, hi, hz0, hz1, hz2⟩ := info_parts info39
  have hmax : (1002 : Nat) ≤ maxLen := by decide
  clear hr hl
  have oR : Hid ((w.alloc (.cells #[] 39)).ownsRow w.heap.size 39 2 (.slice (some ⟨w.heap.size, 0, none⟩) 0 0) 0 []) := Lib.hid (World.ownsRow_made w (base := w.heap.size) (e := 39) (size := 2) #[] 0 (by simp) (by simp [maxLen]) (by simp))
  have bR : Hid (Below w.heap.size w (w.alloc (.cells #[] 39))) := Lib.hid (bel_alloc (Below.refl _ _) _)
  go_enter Try.func33, Try.ntmps33
  go_wp2
  go_loopw [7, 8] (fun ov iv wr => ∃ k : Nat, k ≤ n ∧ iv = .int .i64 k ∧ wr.ownsRow w.heap.size 39 2 ov ((L.take k).filter (fun y : ByteArray × Int => ltS y.1 f || !ltS y.1 t)).length (flp ((L.take k).filter (fun y : ByteArray × Int => ltS y.1 f || !ltS y.1 t))) ∧ Below w.heap.size w wr ∧ ov ≠ .slice none 0 0) (fun _ i _ => n - (intOf i).toNat)
  case atStart => exact ⟨0, Nat.zero_le _, rfl, by simpa [flp] using oR.out, bR.out, by simp⟩
  case round =>
    obtain ⟨k, hk, rfl, hown, hB, hne⟩ := hrel
    obtain ⟨a9, c9, rfl, _⟩ := own_shape hown
    have HE := Lib.hid hne
    clear hne
    have HO := Lib.hid hown
    have HB := Lib.hid hB
    clear hown hB
    by_cases h8 : k < n
    · have q1 : (k : Int) < (n : Int) := by omega
      have q0 : (0 : Int) ≤ (k : Int) := by omega
      have q9 : (k : Int) ≤ 1000 := by omega
      obtain ⟨x, hx⟩ : ∃ x, L[k]? = some x := ⟨_, List.getElem?_eq_getElem (by rw [HL.out]; omega)⟩
      obtain ⟨b, off, rfl, hlt, f0, f1⟩ := rdp_get HR.out hx
      have g0 : wr.cell? ⟨b, off + k * 2, none⟩ = some (.string x.1) := (bel_cell HB.out hlt).trans f0
      have g1 : wr.cell? ⟨b, off + k * 2 + 1, none⟩ = some (.int .i64 x.2) := (bel_cell HB.out hlt).trans f1
      have hst : (L.take (k + 1)).filter (fun y : ByteArray × Int => ltS y.1 f || !ltS y.1 t) = (L.take k).filter (fun y : ByteArray × Int => ltS y.1 f || !ltS y.1 t) ++ (if (fun y : ByteArray × Int => ltS y.1 f || !ltS y.1 t) x = true then [x] else []) := by
        rw [take_snoc hx, List.filter_append, fsing]
      have hln : ((L.take k).filter (fun y : ByteArray × Int => ltS y.1 f || !ltS y.1 t)).length ≤ k := Nat.le_trans (List.length_filter_le _ _) (by rw [List.length_take]; omega)
      have HX := Lib.hid hst
      have HH := Lib.hid hln
      obtain ⟨x0, x1⟩ := x
      simp only at g0 g1
      clear hx f0 f1 hst hlt
      cases hp : (fun y : ByteArray × Int => ltS y.1 f || !ltS y.1 t) (x0, x1) with
      | false =>
        obtain ⟨t1, t2⟩ : Op.bytesLess x0.toList f.toList = false ∧ Op.bytesLess x0.toList t.toList = true := by simpa [ltS] using hp
        rw [hp] at HX
        go_wp2
        refine ⟨⟨k + 1, by omega, by simp, ?_, HB.out, HE.out⟩, by simp [intOf]; omega⟩
        have e := HX.out
        simp only [Bool.false_eq_true, if_false, List.append_nil] at e
        rw [e]; exact HO.out
      | true =>
        have hp2 : Op.bytesLess x0.toList f.toList = true ∨ (Op.bytesLess x0.toList f.toList = false ∧ Op.bytesLess x0.toList t.toList = false) := by
          cases h1 : Op.bytesLess x0.toList f.toList
          · exact .inr ⟨rfl, by simpa [ltS, h1] using hp⟩
          · exact .inl rfl
        rw [hp] at HX
        have e : Hid ((L.take (k + 1)).filter (fun y : ByteArray × Int => ltS y.1 f || !ltS y.1 t) = (L.take k).filter (fun y : ByteArray × Int => ltS y.1 f || !ltS y.1 t) ++ [(x0, x1)]) := Lib.hid (by have e := HX.out; simpa using e)
        have FA : Hid (((L.take k).filter (fun y : ByteArray × Int => ltS y.1 f || !ltS y.1 t)).length + 1 ≤ maxLen) := Lib.hid (by have := HH.out; omega)
        have FB : Hid ((((L.take k).filter (fun y : ByteArray × Int => ltS y.1 f || !ltS y.1 t)).length + 1) * 24 ≤ 140737488355328) := Lib.hid (by have := HH.out; omega)
        have FC : Hid (w.heap.size ≤ (wr.alloc (kv x0 x1)).heap.size) := Lib.hid (by have := HB.out.size; simp; omega)
        have one2 : ∀ u ∈ [Value.string x0, .int .i64 x1], u.oneCell' = true := by simp [Value.oneCell']
        clear HX hp
        rcases hp2 with t1 | ⟨t1, t2⟩
        all_goals
            go_wp2_with (at_builtin; refine wpList_append_own_at _ rfl (.tmp 32) (.tmp 37) 25 rfl w.heap.size 39 i0 (.agg #[.string ⟨#[]⟩, .int .i64 0]) 2 24 Try.underlying25 hi hz0 hz1 hz2 rfl (by decide) (.slice a9 ((L.take k).filter (fun y : ByteArray × Int => ltS y.1 f || !ltS y.1 t)).length c9) ((L.take k).filter (fun y : ByteArray × Int => ltS y.1 f || !ltS y.1 t)).length (flp ((L.take k).filter (fun y : ByteArray × Int => ltS y.1 f || !ltS y.1 t))) rfl (HO.out.alloc _) ⟨wr.heap.size, 0, none⟩ 1 1 [.string x0, .int .i64 x1] rfl rfl (kv_new _ _ _) one2 FA.out FB.out FC.out ?_; intro v' w1 hown' hgrow hnil hat; have E1 : Hid (v' ≠ .slice none 0 0) := Lib.hid (fun e => HE.out (hnil.1 e).1); have O1 := Lib.hid hown'; have B1 := Lib.hid (bel_own (bel_alloc HB.out (kv x0 x1)) hgrow (HO.out.alloc _)); clear hown' hgrow hat hnil)
            refine ⟨⟨k + 1, by omega, by simp, ?_, B1.out, E1.out⟩, by simp [intOf]; omega⟩
            rw [e.out, flp_snoc, List.length_append]
            exact O1.out
    · have q1 : ¬ (k : Int) < (n : Int) := by omega
      obtain rfl : k = n := by omega
      go_wp2
      have e : (L.take k).filter (fun y : ByteArray × Int => ltS y.1 f || !ltS y.1 t) = L.filter (fun y : ByteArray × Int => ltS y.1 f || !ltS y.1 t) := by rw [List.take_of_length_le (by rw [HL.out]; omega)]
      have ho := HO.out
      rw [e] at ho ⊢
      have hc8 : (L.filter (fun y : ByteArray × Int => ltS y.1 f || !ltS y.1 t)).length ≤ c9 := by
        obtain ⟨a8, c8, e8, h⟩ := own_shape ho
        cases e8; exact h
      have hne := HE.out
      rw [e] at hne
      obtain ⟨aa, rfl, hm9⟩ := own_some ho hne
      exact bodyPost_ret (v := .slice (some aa) (L.filter (fun y : ByteArray × Int => ltS y.1 f || !ltS y.1 t)).length c9) (by simp [results, Try.results33, go_sem]) rfl ⟨aa, c9, rfl, Rd.of_own ho (by decide), HB.out, hc8, hm9⟩
end Go.Proofs.Ytfgohbhacldlmaa
