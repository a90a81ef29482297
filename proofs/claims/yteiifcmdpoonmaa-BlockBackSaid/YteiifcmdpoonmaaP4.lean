/- The next entry. -/
import Derived.Test.YteiifcmdpoonmaaP3
import Derived.Test.YteiifcmdpoonmaaN9
namespace Go.Proofs.Yteiifcmdpoonmaa
set_option linter.unusedSimpArgs false
open Go.RowKit Go.Maps Go.Shelf
set_option linter.unusedVariables false
theorem rdr_lo {w : World} {r : Nat} {s : ByteArray} (h : Rdr w r s) : r < w.heap.size := (Array.getElem?_eq_some_iff.1 h).1
/-- How the next entry is told. -/
def EnPost (r : Nat) (x : Except Int (TT × ByteArray)) (w : World) (e : Ending) (w' : World) : Prop :=
  match x with
  | .ok y => e = .returned (.agg #[.string y.1.1, .string y.1.2]) ∧ Go1 r y.2 w w'
  | .error z => e = PanE z ∧ Chg (fun g => g = r) w w'
theorem last_get {w : World} {A : Option Addr} {l : List TT} (h : RdT w A l) (hz : l ≠ []) : ∃ b off, A = some ⟨b, off, none⟩ ∧ w.cell? ⟨b, off + (l.length - 1) * 2, none⟩ = some (.string (lastK ⟨#[]⟩ l)) := by
  obtain ⟨l', y, rfl⟩ : ∃ l' y, l = l' ++ [y] := ⟨_, _, (List.dropLast_concat_getLast hz).symm⟩
  obtain ⟨b, off, e, _, f, _⟩ := rdt_get h (k := l'.length) (x := y) (by simp)
  exact ⟨b, off, e, by rw [lastK_snoc]; simpa using f⟩
set_option maxHeartbeats 4000000 in
theorem entry_ok (r : Nat) (A : Option Addr) (n c : Nat) (a s r1 t r2 v r3 p k : ByteArray) (q : Nat) (w : World) (h : Rdr w r s) (hn : 0 < n) (hn2 : n ≤ 1000000) (hA : ∃ b off, A = some ⟨b, off, none⟩ ∧ w.cell? ⟨b, off + (n - 1) * 2, none⟩ = some (.string a))
    (hsz : a.size + s.size ≤ 1000000) (h1 : tnF s = ((q : Int), r1, 0)) (h2 : q ≤ a.size) (h3 : ttF r1 256 = (t, r2, 0)) (h5 : ttF r2 4096 = (v, r3, 0)) (hp : a.extract 0 q = p) (hk : p ++ t = k) (hl : Op.bytesLess a.toList k.toList = true) (hs : shB a k = q) :
    Calls Try.prog 20 #[.pointer (some ⟨r, 0, none⟩), .slice A n c] w (EnPost r (.ok ((k, v), r3)) w) := by
  have hal := run_ze
  obtain ⟨b, off, rfl, hc⟩ := hA
  have i1 : (0 : Int) < (n : Int) := by omega
  have i2 : (n : Int) - 1 < (n : Int) := by omega
  have i3 : (0 : Int) ≤ (n : Int) - 1 := by omega
  have i4 : ((n : Int) - 1).toNat = n - 1 := by omega
  have j1 : (q : Int) ≤ (a.size : Int) := by omega
  have j2 : (0 : Int) ≤ (q : Int) := by omega
  have hr1 := tnF_sz s r1 _ h1
  have ht1 := ttF_sz r1 t r2 256 h3
  have hpz : p.size = q := by rw [← hp, ByteArray.size_extract]; omega
  have hkz : k.size = q + t.size := by rw [← hk, ByteArray.size_append, hpz]
  have z1 : ¬ 9223372036854775807 < p.size + t.size := by omega
  have hgt : Op.bytesLess k.toList a.toList = false := bl_asymm _ _ hl
  have heq : (k.toList == a.toList) = false := by
    rw [beq_eq_false_iff_ne]; intro e; rw [e, bl_irr] at hl; cases hl
  have SH : Hid (∀ W, Calls Try.prog 28 #[.string a, .string k] W fun e w' => e = .returned (.int .i64 q) ∧ Below W.heap.size W w') := Lib.hid (fun W => by
    have z := shared_any a k W (by unfold maxLen; omega) (by unfold maxLen; omega)
    rw [show shN a.toList k.toList = q from hs] at z
    exact z)
  have HLT := Lib.hid (rdr_lo h)
  have AL := Lib.hid (alb w (.cells #[.string ⟨#[]⟩, .string ⟨#[]⟩] 30))
  have Z0 := Lib.hid (heap_alloc_new w (.cells #[.string ⟨#[]⟩, .string ⟨#[]⟩] 30))
  have N0 := Lib.hid (num_ok _ _ _ r _ (h.later AL.out) h1)
  have H3 := Lib.hid h3
  have H5 := Lib.hid h5
  have k0 := bel_later AL.out hc
  clear h hc h1 h3 h5 hr1 ht1 hpz hkz hl hs hsz
  go_enter Try.func20, Try.ntmps20
  go_wp2_with (first
    | (go_at_call 19; ((with_reducible refine N0.out.mono ?_); rintro e w1 ⟨rfl, h1⟩; have H1 := Lib.hid h1; have Z1 := Lib.hid (keep_chg h1.chg Z0.out (fun e => by have := HLT.out; omega)); have T0 := Lib.hid (text_ok _ _ _ 256 r _ (show Rdr w1.drew r _ from h1.rdr) H3.out); clear h1))
    | (go_at_call 21; ((with_reducible refine (check_ok _ _ _).mono ?_); rintro e w2 ⟨rfl, rfl⟩))
    | fail)
  go_region_with (go_at_call 36; refine T0.out.mono ?_; rintro e w3 ⟨rfl, h3⟩; have H3b := Lib.hid h3; have Z3 := Lib.hid (keep_chg h3.chg (show w1.drew.heap[w.heap.size]? = _ from Z1.out) (fun e => by have := HLT.out; omega)))
  all_goals
    go_wp2_with (first
      | (go_at_call 28; ((with_reducible refine (SH.out _).mono ?_); rintro e w5 ⟨rfl, b5⟩; have B5 := Lib.hid b5; have Z5 := Lib.hid (keep_bel b5 Z3.out); have T1 := Lib.hid (text_ok _ _ _ 4096 r _ (H3b.out.rdr.later b5) H5.out); clear b5))
      | (go_at_call 21; ((with_reducible refine (check_ok _ _ _).mono ?_); rintro e w2 ⟨rfl, rfl⟩))
      | (go_at_call 36; ((with_reducible refine T1.out.mono ?_); rintro e w4 ⟨rfl, h4⟩; have H4 := Lib.hid h4; have Z4 := Lib.hid (keep_chg h4.chg Z5.out (fun e => by have := HLT.out; omega)); clear h4))
      | (refine wpList_store_row rfl 30 (.tmp 4) (.tmp 50) rfl w.heap.size #[.string k, .string v] rfl rfl 30 _ Z4.out info30 rfl (by simp [Value.oneCell']) ?_)
      | fail)
    have hg : Go1 r r3 w w4 := Go1.ahead AL.out (H1.out.trans (((Go1.ahead (drew_bel w1) H3b.out).later B5.out).trans H4.out))
    exact bodyPost_ret (v := .agg #[.string k, .string v]) (res30 rfl _ _ w.heap.size _ rfl (setRow_heap _ _ _ _ _ _ Z4.out) rfl) rfl ⟨rfl, hg.rdr.row (by have := HLT.out; omega) _, hg.chg.trans (Chg.of_row _ w.heap.size _) (fun x e => .inr (by omega))⟩
end Go.Proofs.Yteiifcmdpoonmaa
