/- What a word tells; numbers out of texts. -/
import Derived.Test.YtocbabckihcdmaaDoorT5
import Derived.Lib.AtoiAllCases
import Derived.Lib.AtoiErrMem
namespace Go.Proofs.YtocbabckihcdmaaDoor
set_option linter.unusedSimpArgs false
open Go.RowKit Go.Maps
set_option linter.unusedVariables false
theorem idx_b (x : ByteArray) : ∀ (zs : List ByteArray) (i : Nat), Lib.idxFromS zs x i = -1 ∨ ((i : Int) ≤ Lib.idxFromS zs x i ∧ Lib.idxFromS zs x i < (i : Int) + zs.length)
  | [], i => .inl rfl
  | z :: zs, i => by
    unfold Lib.idxFromS
    split
    · right; simp; omega
    · rcases idx_b x zs (i + 1) with h | h
      · exact .inl h
      · right; simp only [List.length_cons]; omega
def ixW (x : ByteArray) : Int := Lib.idxOfS wl x
theorem ixW_b (x : ByteArray) : ixW x = -1 ∨ (0 ≤ ixW x ∧ ixW x < 17) := by
  have h := idx_b x wl 0
  have e : wl.length = 17 := rfl
  rw [e] at h
  unfold ixW Lib.idxOfS
  omega
set_option maxRecDepth 100000 in
set_option maxHeartbeats 2000000 in
theorem what_any (x : ByteArray) (w : World) (h : GW w) :
    Calls Tryd.prog 42 #[.string x] w fun e w' => e = .returned (.tuple #[.int .u8 (max (ixW x) 0), .bool (decide (0 ≤ ixW x))]) ∧ Below w.heap.size w w' := by
  have SW := Lib.hid (split_words w h)
  have B0 := Lib.hid (alb w (.cells (wl.map Value.string).toArray 9))
  have RL := Lib.hid (RE.Rd.lit (E := ES) w 9 wl (wl.map Value.string).toArray (by rw [es_all]))
  have IX : Hid (Calls Tryd.prog 53 #[.slice (some ⟨w.heap.size, 0, none⟩) 17 17, .string x] (w.alloc (.cells (wl.map Value.string).toArray 9)) fun e w' => e = .returned (.int .i64 (ixW x)) ∧ w' = w.alloc (.cells (wl.map Value.string).toArray 9)) := Lib.hid (by
    have g := sh_slices_Index_string w.heap.size 0 17 17 wl x (w.alloc (.cells (wl.map Value.string).toArray 9)) (by decide) (by decide) (fun j hj => by
      obtain ⟨b, off, e, -, g0⟩ := es_at RL.out (i := j) (x := wl.getD j ByteArray.empty) (by rw [List.getD_eq_getElem?_getD, List.getElem?_eq_getElem hj]; rfl)
      cases e; exact g0)
    have e : wl.take 17 = wl := rfl
    rw [e] at g
    exact g)
  obtain ⟨i, hi⟩ : ∃ i, ixW x = i := ⟨_, rfl⟩
  have hb := ixW_b x
  rw [hi] at IX hb ⊢
  clear h hi
  go_enter Tryd.func42, Tryd.ntmps42
  go_upto_region 2 with (first
    | (go_at_call 31; ((refine SW.out.mono ?_); rintro e w1 ⟨rfl, rfl⟩))
    | (go_at_call 53; ((refine IX.out.mono ?_); rintro e w1 ⟨rfl, rfl⟩))
    | fail)
  rcases hb with hb | ⟨h0, h1⟩
  · subst hb
    go_wp2
    refine bodyPost_ret (v := .tuple #[.int .u8 0, .bool false]) (by simp [results, Tryd.results42, go_sem]; decide) rfl ⟨by rw [show max (-1 : Int) 0 = 0 by decide]; rfl, B0.out⟩
  · have hm : max i 0 = i := by omega
    have hw8 : IntKind.u8.wrap i = i := by rw [IntKind.wrap_u8]; omega
    have hd : decide (0 ≤ i) = true := by simpa using h0
    have HMD := Lib.hid (And.intro hm hd)
    go_wp2
    all_goals first
      | (refine bodyPost_ret (v := .tuple #[.int .u8 i, .bool true]) (by simp [results, Tryd.results42, go_sem, hm, hw8]) rfl ⟨by rw [HMD.out.1, HMD.out.2], B0.out⟩)
      | (exfalso; omega)
/-- The number that a text is. -/
def canB (t : ByteArray) : Option Int := match Lib.atoiAll t.data.toList with
  | .ok v => if Lib.itoa v = t.data.toList then some v else none
  | _ => none
theorem atoi_any (t : ByteArray) (ht : t.size ≤ 281474976710656) (w : World) (h : GW w) :
    Calls Tryd.prog 43 #[.string t] w fun e w' => ∃ v er, e = .returned (.tuple #[.int .i64 v, er]) ∧ ((er = .nilIface ∧ Lib.atoiAll t.data.toList = .ok v ∧ -9223372036854775808 ≤ v ∧ v ≤ 9223372036854775807) ∨ ((∃ te pe, er = .iface te pe) ∧ canB t = none)) ∧ Below w.heap.size w w' := by
  obtain ⟨e2, h2, h3⟩ := h.sy
  obtain ⟨e4, h4, h5⟩ := h.rg
  rcases q : Lib.atoiAll t.data.toList with v | _ | _
  · refine (sh_strconv_Atoi_ok t (by omega) v q w).mono fun e w' ⟨r1, r2⟩ => ⟨v, .nilIface, r1, .inl ⟨rfl, rfl, (Lib.atoiAll_bounds q).1, (Lib.atoiAll_bounds q).2⟩, ?_⟩
    rcases r2 with r2 | ⟨t2, r2⟩
    · rw [r2]; exact Below.refl _ _
    · rw [r2]; exact Lib.bytesWorld_below w 5 t2
  · refine (sh_strconv_Atoi_syntax t ht (q.trans (by kernel_rfl)) e2 w h2 h3).mono fun e w' ⟨N, r1, r2, r3, r4⟩ => ⟨0, _, r1, .inr ⟨⟨_, _, rfl⟩, by unfold canB; rw [q]⟩, r4⟩
  · refine (sh_strconv_Atoi_range t ht q e4 w h4 h5).mono fun e w' ⟨N, r1, r2, r3, r4⟩ => ⟨_, _, r1, .inr ⟨⟨_, _, rfl⟩, by unfold canB; rw [q]⟩, r4⟩
end Go.Proofs.YtocbabckihcdmaaDoor
