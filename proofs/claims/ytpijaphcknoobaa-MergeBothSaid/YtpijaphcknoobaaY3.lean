/- The document's helpers: few, Same, Cut, Order. -/
import Derived.Test.YtpijaphcknoobaaY2
namespace Go.Proofs.Ytpijaphcknoobaa
set_option linter.unusedSimpArgs false
open Go.RowKit Go.Shelf
set_option linter.unusedVariables false

theorem own_shape {w : World} {base : Nat} {e : TypeId} {size : Nat} {v : Value} {n : Nat} {xs : List Value} (h : w.ownsRow base e size v n xs) : ∃ a c, v = .slice a n c ∧ n ≤ c ∧ c ≤ maxLen := by
  rcases h.2 with ⟨rfl, rfl⟩ | ⟨g, cap, cur, rfl, _, _, h, h2, _⟩
  · exact ⟨_, _, rfl, Nat.le_refl _, Nat.zero_le _⟩
  · exact ⟨_, _, rfl, h, h2⟩
theorem bel_own {w w1 w2 : World} {n : Nat} {v : Value} {xs : List Value} (h : Below w.heap.size w w1) (hg : w1.grownBy w2 v.ownBlock) (hown : w1.ownsRow w.heap.size 29 2 v n xs) : Below w.heap.size w w2 := grown_bel h hg hown (Nat.le_refl _) h.size
abbrev kv (x : TT) : Obj := .cells #[.int .i64 x.1, .int .i64 x.2] 29
theorem kv_new (wr : World) (x : TT) : ∀ (j : Nat) (u : Value), ([Value.int .i64 x.1, .int .i64 x.2] : List Value)[j]? = some u → (wr.alloc (kv x)).cell? ((⟨wr.heap.size, 0, none⟩ : Addr).add j) = some u :=
  World.news_of_block (cs := #[.int .i64 x.1, .int .i64 x.2]) (t := 29) (fr := (0, 0)) (by simpa using World.alloc_heap_new wr (kv x))
theorem bel_dw {w w' : World} (h : Below w.heap.size w w') : Below w.heap.size w w'.drew := h.drew
set_option maxHeartbeats 1000000 in
theorem few_any (A : Option Addr) (n c : Nat) (w : World) (h : n ≤ c) (hc : c ≤ 9223372036854775807) :
    Calls Try.prog 17 #[.slice A n c] w fun e w' => e = .returned (.slice A (min n 20) c) ∧ w = w' := by
  by_cases h1 : n ≤ 20
  · have e : min n 20 = n := by omega
    have h2 : ¬ (20 : Int) < (n : Int) := by omega
    rw [e]
    go_enter Try.func17, Try.ntmps17
    go_wp2
    go_ret
    exact ⟨rfl, rfl⟩
  · have e : min n 20 = 20 := by omega
    have h2 : (20 : Int) < (n : Int) := by omega
    rw [e]
    go_enter Try.func17, Try.ntmps17
    go_wp2
    go_ret
    exact ⟨rfl, rfl⟩
set_option maxHeartbeats 1000000 in
theorem same_eq (A B : Option Addr) (xs : List TT) (n m c c' : Nat) (w : World) (hl : xs.length = n) (hm : m = n) (hn : n ≤ 100000) (hA : RdT w A xs) (hB : RdT w B xs) :
    Calls Try.prog 13 #[.slice A n c, .slice B m c'] w fun e w' => e = .returned (.bool true) ∧ Below w.heap.size w w' := by
  subst hm
  have HA := Lib.hid hA
  have HB := Lib.hid hB
  have HL := Lib.hid hl
  clear hA hB hl
  go_enter Try.func13, Try.ntmps13
  go_wp2
  go_loopw [5] (fun iv wr => ∃ k d : Nat, k ≤ m ∧ iv = .int .i64 k ∧ wr = w.drewN d) (fun i _ => m - (intOf i).toNat)
  case atStart => exact ⟨0, 0, by omega, rfl, rfl⟩
  case round =>
    obtain ⟨k, d, hk, rfl, hwr⟩ := hrel
    have HW := Lib.hid hwr
    clear hwr
    by_cases h8 : k < m
    · have i1 : (k : Int) < (m : Int) := by omega
      have i0 : (0 : Int) ≤ (k : Int) := by omega
      obtain ⟨x, hx⟩ : ∃ x, xs[k]? = some x := ⟨_, List.getElem?_eq_getElem (by rw [HL.out]; exact h8)⟩
      obtain ⟨b, off, rfl, hlt, f0, f1⟩ := rdt_get HA.out hx
      obtain ⟨b2, off2, rfl, hlt2, f2, f3⟩ := rdt_get HB.out hx
      have g0 : wr.cell? ⟨b, off + k * 2, none⟩ = some (.int .i64 x.1) := by rw [HW.out]; exact f0
      have g1 : wr.cell? ⟨b, off + k * 2 + 1, none⟩ = some (.int .i64 x.2) := by rw [HW.out]; exact f1
      have g2 : wr.cell? ⟨b2, off2 + k * 2, none⟩ = some (.int .i64 x.1) := by rw [HW.out]; exact f2
      have g3 : wr.cell? ⟨b2, off2 + k * 2 + 1, none⟩ = some (.int .i64 x.2) := by rw [HW.out]; exact f3
      obtain ⟨x0, x1⟩ := x
      clear f0 f1 f2 f3 hx
      go_wp2_with fail
      go_quiet (fail)
      go_wp2
      exact ⟨⟨k + 1, d + nq, by omega, by simp, by rw [HW.out, World.drewN_drewN]⟩, by simp [intOf]; omega⟩
    · have i1 : ¬ (k : Int) < (m : Int) := by omega
      go_wp2
      go_ret
      exact ⟨rfl, by rw [HW.out]; exact bel_drewN (Below.refl _ _) d⟩
/-- What lies from one place to another. -/
def cutT (xs : List TT) (f t : Nat) : List TT := (xs.take t).drop f
theorem cutT_in {xs : List TT} {k f t : Nat} {x : TT} (h : xs[k]? = some x) (hf : f ≤ k) (ht : k < t) : cutT (xs.take (k + 1)) f t = cutT (xs.take k) f t ++ [x] := by
  have hk := (List.getElem?_eq_some_iff.1 h).1
  unfold cutT
  have e1 : (xs.take (k + 1)).take t = xs.take (k + 1) := List.take_of_length_le (by rw [List.length_take]; omega)
  have e2 : (xs.take k).take t = xs.take k := List.take_of_length_le (by rw [List.length_take]; omega)
  rw [e1, e2, take_more h, List.drop_append_of_le_length (by rw [List.length_take]; omega)]
theorem cutT_out {xs : List TT} {k f t : Nat} {x : TT} (h : xs[k]? = some x) (hn : ¬ (f ≤ k ∧ k < t)) : cutT (xs.take (k + 1)) f t = cutT (xs.take k) f t := by
  unfold cutT
  by_cases ht : k < t
  · rw [List.drop_eq_nil_of_le (by simp; omega), List.drop_eq_nil_of_le (by simp; omega)]
  · rw [List.take_take, List.take_take, show min t (k + 1) = min t k by omega]
theorem cutT_len (xs : List TT) (k f t : Nat) : (cutT (xs.take k) f t).length ≤ k := by
  unfold cutT; simp; omega
/-- A list in new memory. -/
def NewRow (w : World) (xs : List TT) (e : Ending) (w' : World) : Prop := ∃ A c, e = .returned (.slice A xs.length c) ∧ RdT w' A xs ∧ Below w.heap.size w w'
set_option maxHeartbeats 2000000 in
set_option maxRecDepth 100000 in
theorem cut_any (A : Option Addr) (n c f t : Nat) (xs : List TT) (w : World) (hl : xs.length = n) (hn : n ≤ 1000) (hr : RdT w A xs) :
    Calls Try.prog 24 #[.slice A n c, .int .i64 f, .int .i64 t] w (NewRow w (cutT xs f t)) := by
  have HR := Lib.hid hr
  have HL := Lib.hid hl
  obtain ⟨i0, hi, hz0, hz1, hz2⟩ := info_parts infoE
  have hmax : (1002 : Nat) ≤ maxLen := by decide
  clear hr hl
  have oR : Hid ((w.alloc (.cells #[] 29)).ownsRow w.heap.size 29 2 (.slice (some ⟨w.heap.size, 0, none⟩) 0 0) 0 []) := Lib.hid (World.ownsRow_made w (base := w.heap.size) (e := 29) (size := 2) #[] 0 (by simp) (by simp [maxLen]) (by simp))
  have bR : Hid (Below w.heap.size w (w.alloc (.cells #[] 29))) := Lib.hid (bel_alloc (Below.refl _ _) _)
  go_enter Try.func24, Try.ntmps24
  go_wp2
  go_loopw [7, 8] (fun ov iv wr => ∃ k : Nat, k ≤ n ∧ iv = .int .i64 k ∧ wr.ownsRow w.heap.size 29 2 ov (cutT (xs.take k) f t).length (cls (cutT (xs.take k) f t)) ∧ Below w.heap.size w wr) (fun _ i _ => n - (intOf i).toNat)
  case atStart => exact ⟨0, Nat.zero_le _, rfl, by simpa [cutT, cls] using oR.out, bR.out⟩
  case round =>
    obtain ⟨k, hk, rfl, hown, hB⟩ := hrel
    obtain ⟨a9, c9, rfl, _⟩ := own_shape hown
    have HO := Lib.hid hown
    have HB := Lib.hid hB
    clear hown hB
    by_cases h8 : k < n
    · have q1 : (k : Int) < (n : Int) := by omega
      have q0 : (0 : Int) ≤ (k : Int) := by omega
      have q9 : (k : Int) ≤ 1000 := by omega
      obtain ⟨x, hx⟩ : ∃ x, xs[k]? = some x := ⟨_, List.getElem?_eq_getElem (by rw [HL.out]; omega)⟩
      obtain ⟨b, off, rfl, hlt, f0, f1⟩ := rdt_get HR.out hx
      have g0 : wr.cell? ⟨b, off + k * 2, none⟩ = some (.int .i64 x.1) := (bel_cell HB.out hlt).trans f0
      have g1 : wr.cell? ⟨b, off + k * 2 + 1, none⟩ = some (.int .i64 x.2) := (bel_cell HB.out hlt).trans f1
      have HH := Lib.hid (cutT_len xs k f t)
      by_cases hin : f ≤ k ∧ k < t
      · have e : Hid (cutT (xs.take (k + 1)) f t = cutT (xs.take k) f t ++ [x]) := Lib.hid (cutT_in hx hin.1 hin.2)
        have t1 : ((k : Int) ≥ (f : Int)) := by omega
        have t2 : ((k : Int) < (t : Int)) := by omega
        have t3 : f ≤ k := hin.1
        have t4 : k < t := hin.2
        obtain ⟨x0, x1⟩ := x
        simp only at g0 g1
        have FA : Hid ((cutT (xs.take k) f t).length + 1 ≤ maxLen) := Lib.hid (by have := HH.out; omega)
        have FB : Hid (((cutT (xs.take k) f t).length + 1) * 16 ≤ 140737488355328) := Lib.hid (by have := HH.out; omega)
        have FC : Hid (w.heap.size ≤ (wr.alloc (kv (x0, x1))).heap.size) := Lib.hid (by have := HB.out.size; simp; omega)
        have one2 : ∀ u ∈ [Value.int .i64 x0, .int .i64 x1], u.oneCell' = true := by simp [Value.oneCell']
        clear hx f0 f1 hlt hin
        go_wp2_with (at_builtin; refine wpList_append_own_at _ rfl (.tmp 24) (.tmp 29) 26 rfl w.heap.size 29 i0 (.agg #[.int .i64 0, .int .i64 0]) 2 16 Try.underlying26 hi hz0 hz1 hz2 rfl (by decide) (.slice a9 (cutT (xs.take k) f t).length c9) (cutT (xs.take k) f t).length (cls (cutT (xs.take k) f t)) rfl (HO.out.alloc _) ⟨wr.heap.size, 0, none⟩ 1 1 [.int .i64 x0, .int .i64 x1] rfl rfl (kv_new wr (x0, x1)) one2 FA.out FB.out FC.out ?_; intro v' w1 hown' hgrow hnil hat; have O1 := Lib.hid hown'; have B1 := Lib.hid (bel_own (bel_alloc HB.out (kv (x0, x1))) hgrow (HO.out.alloc _)); clear hown' hgrow hat hnil)
        refine ⟨⟨k + 1, by omega, by simp, ?_, B1.out⟩, by simp [intOf]; omega⟩
        rw [e.out, cls_snoc, List.length_append]
        exact O1.out
      · have e : Hid (cutT (xs.take (k + 1)) f t = cutT (xs.take k) f t) := Lib.hid (cutT_out hx hin)
        clear hx f0 f1 hlt
        by_cases hf : f ≤ k
        · have t2 : ¬ ((k : Int) < (t : Int)) := by omega
          have t4 : ¬ (k < t) := by omega
          clear hin
          go_wp2
          refine ⟨⟨k + 1, by omega, by simp, ?_, HB.out⟩, by simp [intOf]; omega⟩
          rw [e.out]
          exact HO.out
        · have t1 : ¬ ((k : Int) ≥ (f : Int)) := by omega
          clear hin
          go_wp2
          refine ⟨⟨k + 1, by omega, by simp, ?_, HB.out⟩, by simp [intOf]; omega⟩
          rw [e.out]
          exact HO.out
    · have q1 : ¬ (k : Int) < (n : Int) := by omega
      obtain rfl : k = n := by omega
      go_wp2
      have e : cutT (xs.take k) f t = cutT xs f t := by rw [List.take_of_length_le (by rw [HL.out]; omega)]
      have ho := HO.out
      rw [e] at ho ⊢
      exact bodyPost_ret (v := .slice a9 (cutT xs f t).length c9) (by simp [results, Try.results24, go_sem]) rfl ⟨a9, c9, rfl, Rd.of_own ho (by decide), HB.out⟩
def ordT (x y : TT) : Int := if x.1 < y.1 then -1 else if x.1 > y.1 then 1 else 0
set_option maxHeartbeats 1000000 in
theorem ord_any (x y : TT) (w : World) : Calls Try.prog 11 #[.agg #[.int .i64 x.1, .int .i64 x.2], .agg #[.int .i64 y.1, .int .i64 y.2]] w fun e w' => e = .returned (.int .i64 (ordT x y)) ∧ Below w.heap.size w w' := by
  have HB : Hid (Below w.heap.size w ((w.alloc (kv x)).alloc (kv y))) := Lib.hid (bel_alloc (bel_alloc (Below.refl _ _) _) _)
  obtain ⟨x0, x1⟩ := x
  obtain ⟨y0, y1⟩ := y
  simp only
  by_cases h1 : x0 < y0
  · have e : Hid (ordT (x0, x1) (y0, y1) = -1) := Lib.hid (if_pos h1)
    rw [e.out]
    go_enter Try.func11, Try.ntmps11
    go_wp2
    go_ret
    exact ⟨rfl, HB.out⟩
  · by_cases h2 : x0 > y0
    · have e : Hid (ordT (x0, x1) (y0, y1) = 1) := Lib.hid ((if_neg h1).trans (if_pos h2))
      rw [e.out]
      go_enter Try.func11, Try.ntmps11
      go_wp2
      go_ret
      exact ⟨rfl, HB.out⟩
    · have e : Hid (ordT (x0, x1) (y0, y1) = 0) := Lib.hid ((if_neg h1).trans (if_neg h2))
      rw [e.out]
      go_enter Try.func11, Try.ntmps11
      go_wp2
      go_ret
      exact ⟨rfl, HB.out⟩
end Go.Proofs.Ytpijaphcknoobaa
