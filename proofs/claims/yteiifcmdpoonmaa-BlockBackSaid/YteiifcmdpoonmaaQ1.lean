/- Unpack, the program's and the document's, at every text. -/
import Derived.Test.YteiifcmdpoonmaaP8
namespace Go.Proofs.Yteiifcmdpoonmaa
set_option linter.unusedSimpArgs false
open Go.RowKit Go.Maps Go.Shelf
set_option linter.unusedVariables false
/-- What a text unpacks to. -/
inductive Up (s : ByteArray) : Except Int (List TT) → Prop
  | num (n : Int) (r : ByteArray) (e : Int) : tnF s = (n, r, e) → e ≠ 0 → Up s (.error e)
  | some (m : Nat) (r : ByteArray) (y : Except Int (List TT)) : tnF s = ((m : Int), r, 0) → Un m [] r y → Up s y
theorem up_total (s : ByteArray) : ∃ y, Up s y := by
  obtain ⟨⟨n, r, e⟩, hq⟩ : ∃ x, tnF s = x := ⟨_, rfl⟩
  by_cases he : e = 0
  · subst he
    have h0 := (tnF_sz s r n hq).2.1
    obtain ⟨m, rfl⟩ : ∃ m : Nat, n = m := ⟨n.toNat, by omega⟩
    obtain ⟨y, hy⟩ := un_total m [] r
    exact ⟨y, .some m r y hq hy⟩
  · exact ⟨_, .num n r e hq he⟩
set_option maxHeartbeats 8000000 in
theorem unpack_err0 (s r : ByteArray) (n e : Int) (w : World) (ht : tnF s = (n, r, e)) (he : e ≠ 0) : Calls Try.prog 11 #[.string s] w (UnQ (.error e) w) := by
  have hmf : ∀ (fn : Fn) (first cap : Array Value) (w : World), (Instr.makeFunc fn first cap).run Try.prog w = .ok (.func fn first cap) w := fun _ _ _ _ => rfl
  have hV : Below w.heap.size w (((w.alloc (.cells #[.slice none 0 0] 22)).alloc (.cells #[.int .i64 0] 31)).alloc (.cells #[.string s] 41)) := bel_alloc (bel_alloc (bel_alloc (Below.refl _ _) _) _) _
  have k1 : (((w.alloc (.cells #[.slice none 0 0] 22)).alloc (.cells #[.int .i64 0] 31)).alloc (.cells #[.string s] 41)).heap[w.heap.size]? = some (.cells #[.slice none 0 0] 22 (0, 0)) :=
    keep_bel (bel_alloc (alb _ _) _) (heap_alloc_new w _)
  have k2 : (((w.alloc (.cells #[.slice none 0 0] 22)).alloc (.cells #[.int .i64 0] 31)).alloc (.cells #[.string s] 41)).heap[w.heap.size + 1]? = some (.cells #[.int .i64 0] 31 (0, 0)) := by
    have := heap_alloc_new (w.alloc (.cells #[.slice none 0 0] 22)) (.cells #[.int .i64 0] 31)
    rw [World.size_alloc] at this
    exact keep_bel (alb _ _) this
  have k3 : Rdr (((w.alloc (.cells #[.slice none 0 0] 22)).alloc (.cells #[.int .i64 0] 31)).alloc (.cells #[.string s] 41)) (w.heap.size + 1 + 1) s := by
    have := heap_alloc_new ((w.alloc (.cells #[.slice none 0 0] 22)).alloc (.cells #[.int .i64 0] 31)) (.cells #[.string s] 41)
    rw [World.size_alloc, World.size_alloc] at this
    exact this
  have N0 := Lib.hid (num_err s r n e (w.heap.size + 1 + 1) _ k3 ht he)
  have K1 := Lib.hid k1
  have K2 := Lib.hid k2
  have HV := Lib.hid hV
  clear hV k1 k2 k3 ht he
  go_enter_defers Try.func11, Try.ntmps11
  go_wp2_with (first
    | (go_at_call 19; ((with_reducible refine N0.out.mono ?_); rintro z w1 ⟨rfl, b1⟩; have F1 := Lib.hid (keep_bel b1 K1.out); have F2 := Lib.hid (keep_bel b1 K2.out); have HB := Lib.hid (bel_trans HV.out b1); clear b1))
    | fail)
  exact door_panic _ w w1 e rfl rfl F1.out F2.out HB.out
theorem unpack_any (s : ByteArray) (y : Except Int (List TT)) (w : World) (hs : s.size ≤ 400000) (h : Up s y) : Calls Try.prog 11 #[.string s] w (UnQ y w) := by
  cases h with
  | num n r e h1 h2 => exact unpack_err0 s r n e w h1 h2
  | some m r _ h1 h2 => exact unpack_some s r m y w hs h1 h2
theorem refUnpack_any (s : ByteArray) (y : Except Int (List TT)) (w : World) (hs : s.size ≤ 100000) (h : Up s y) : Calls Try.prog 12 #[.string s] w (UnR y w) := by
  cases h with
  | num n r e h1 h2 => exact refUnpack_err s r n e w h1 h2
  | some m r _ h1 h2 => exact refUnpack_some s r m y w hs h1 h2
end Go.Proofs.Yteiifcmdpoonmaa
