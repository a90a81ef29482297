/- live. -/
import Derived.Test.YteiifcmdpoonmaaN9
import Derived.Test.YteiifcmdpoonmaaN6
namespace Go.Proofs.Yteiifcmdpoonmaa
set_option linter.unusedSimpArgs false
open Go.RowKit Go.Maps Go.Shelf
set_option linter.unusedVariables false
abbrev S0 : ByteArray := ⟨#[2, 0, 2, 97, 98, 1, 49, 1, 1, 99, 1, 50]⟩
theorem sh_a : shB ⟨#[]⟩ kab = 0 := by unfold shB; rw [ByteArray.toList_eq, ByteArray.toList_eq]; decide
theorem sh_b : shB kab kac = 1 := by unfold shB; rw [ByteArray.toList_eq, ByteArray.toList_eq]; decide
theorem pk_a : pkE ⟨#[]⟩ (kab, v1) = [0, 2, 97, 98, 1, 49] := by unfold pkE; simp only [sh_a]; decide +kernel
theorem pk_b : pkE kab (kac, v2) = [1, 1, 99, 1, 50] := by unfold pkE; simp only [sh_b]; decide +kernel
theorem num_2 : (numF ((lv.length : Nat) : Int)).data.toList = [2] := by decide +kernel
theorem pk_lv : pkB lv = [2, 0, 2, 97, 98, 1, 49, 1, 1, 99, 1, 50] := by
  unfold pkB
  rw [num_2]
  have e : ∀ (f : ByteArray → TT → List UInt8), runE f ⟨#[]⟩ lv = f ⟨#[]⟩ (kab, v1) ++ (f kab (kac, v2) ++ []) := fun f => rfl
  unfold pkL
  rw [e, pk_a, pk_b]; rfl
theorem ris_lv : ris lv := by
  intro i x y hx hy
  match i, hx, hy with
  | 0, hx, hy =>
    simp at hx hy
    subst hx hy
    exact bl_abac
  | i + 1, hx, hy => simp at hy
theorem size_lv (A : Option Addr) (c : Nat) (w : World) (hA : RdT w A lv) :
    Calls Try.prog 16 #[.slice A 2 c] w fun e w' => e = .returned (.int .i64 6) ∧ Below w.heap.size w w' := by
  obtain ⟨b, off, rfl, hlt, f0, f1⟩ := rdt_get hA (k := 0) (x := (kab, v1)) rfl
  obtain ⟨b2, off2, e2, hlt2, f2, f3⟩ := rdt_get hA (k := 1) (x := (kac, v2)) rfl
  cases e2
  have z0 : Hid (w.cell? ⟨b, off, none⟩ = some (.string kab)) := Lib.hid (by simpa using f0)
  have z1 : Hid (w.cell? ⟨b, off + 1, none⟩ = some (.string v1)) := Lib.hid (by simpa using f1)
  have z2 : Hid (w.cell? ⟨b, off + 2, none⟩ = some (.string kac)) := Lib.hid (by simpa using f2)
  have z3 : Hid (w.cell? ⟨b, off + 2 + 1, none⟩ = some (.string v2)) := Lib.hid (by simpa using f3)
  have s0 : (kab.size : Int) = 2 := rfl
  have s1 : (v1.size : Int) = 1 := rfl
  have s2 : (kac.size : Int) = 2 := rfl
  have s3 : (v2.size : Int) = 1 := rfl
  clear f0 f1 f2 f3 hA
  go_enter Try.func16, Try.ntmps16
  go_wp2
  go_loopw [3, 8] (fun nv iv wr => ((nv = .int .i64 0 ∧ iv = .int .i64 0) ∨ (nv = .int .i64 3 ∧ iv = .int .i64 1) ∨ (nv = .int .i64 6 ∧ iv = .int .i64 2)) ∧ Below w.heap.size w wr) (fun _ i _ => 2 - (intOf i).toNat)
  case atStart => exact ⟨.inl ⟨rfl, rfl⟩, Below.refl _ _⟩
  case round =>
    obtain ⟨⟨rfl, rfl⟩ | ⟨rfl, rfl⟩ | ⟨rfl, rfl⟩, hb⟩ := hrel
    · have g0 := bel_later hb z0.out
      have g1 := bel_later hb z1.out
      have HB := Lib.hid (bel_alloc hb (.cells #[.string kab, .string v1] 30))
      clear hb
      go_wp2
      exact ⟨⟨.inr (.inl ⟨rfl, rfl⟩), HB.out⟩, by decide⟩
    · have g0 := bel_later hb z2.out
      have g1 := bel_later hb z3.out
      have HB := Lib.hid (bel_alloc hb (.cells #[.string kac, .string v2] 30))
      clear hb
      go_wp2
      exact ⟨⟨.inr (.inr ⟨rfl, rfl⟩), HB.out⟩, by decide⟩
    · go_wp2
      go_ret
      exact ⟨rfl, hb⟩
theorem lits_rdt (w : World) (x y : TT) : RdT (w.alloc (.cells #[.string x.1, .string x.2, .string y.1, .string y.2] 30)) (some ⟨w.heap.size, 0, none⟩) [x, y] := by
  refine .inr ⟨w.heap.size, 0, rfl, by simp, fun j u hj => ?_⟩
  have := World.news_of_block (w := w.alloc (.cells #[.string x.1, .string x.2, .string y.1, .string y.2] 30)) (B := w.heap.size) (cs := #[.string x.1, .string x.2, .string y.1, .string y.2]) (t := 30) (fr := (0, 0)) (heap_alloc_new w _) j u (by simpa [cls] using hj)
  have hadd : (⟨w.heap.size, 0, none⟩ : Addr).add j = ⟨w.heap.size, 0 + j, none⟩ := by unfold Addr.add; split <;> simp_all
  rw [hadd] at this; exact this
set_option maxHeartbeats 2000000 in
theorem live_any (w : World) : Calls Try.prog 8 #[] w fun e w' => e = .returned (.bool true) ∧ Below w.heap.size w w' := by
  have R0 := Lib.hid (lits_rdt w (kab, v1) (kac, v2))
  have A0 := Lib.hid (alb w (.cells #[.string kab, .string v1, .string kac, .string v2] 30))
  have U := Lib.hid (unpack_lv (w.alloc (.cells #[.string kab, .string v1, .string kac, .string v2] 30)))
  have PK : Hid (∀ W, RdT W (some ⟨w.heap.size, 0, none⟩) lv → Calls Try.prog 13 #[.slice (some ⟨w.heap.size, 0, none⟩) 2 2] W fun e w' => e = .returned (.string S0) ∧ Below W.heap.size W w') := Lib.hid (fun W hW => by
    have q := pack_in (some ⟨w.heap.size, 0, none⟩) 2 2 lv W rfl (by omega) hW (by
      intro x hx
      simp only [List.mem_cons, List.not_mem_nil, or_false] at hx
      rcases hx with rfl | rfl <;> exact ⟨by decide, by decide⟩) ris_lv
    rw [pk_lv] at q
    exact q)
  have heq : (S0.toList == S0.toList) = true := by simp
  go_enter Try.func8, Try.ntmps8
  go_wp2_with (first
    | (go_at_call 11; ((with_reducible refine U.out.mono ?_); rintro e w1 ⟨A, c, rfl, r1, b1⟩; have R1 := Lib.hid (rdt_later R0.out b1); have X1 := Lib.hid r1; have B1 := Lib.hid (bel_trans A0.out b1); clear r1 b1))
    | (go_at_call 15; ((with_reducible refine (place_lv _ _ _ R1.out).mono ?_); rintro e w2 ⟨rfl, b2⟩; have R2 := Lib.hid (rdt_later R1.out b2); have X2 := Lib.hid (rdt_later X1.out b2); have B2 := Lib.hid (bel_trans B1.out b2); clear b2))
    | (go_at_call 13; ((with_reducible refine (PK.out _ R2.out).mono ?_); rintro e w3 ⟨rfl, b3⟩; have R3 := Lib.hid (rdt_later R2.out b3); have X3 := Lib.hid (rdt_later X2.out b3); have B3 := Lib.hid (bel_trans B2.out b3); clear b3))
    | (go_at_call 10; ((with_reducible refine (same_any _ _ 2 2 _ _ lv lv _ rfl rfl (by omega) (by omega) X3.out R3.out).mono ?_); rintro e w4 ⟨⟨q, rfl, hq⟩, b4⟩; obtain rfl := hq.2 rfl; have R4 := Lib.hid (rdt_later R3.out b4); have B4 := Lib.hid (bel_trans B3.out b4); clear b4 hq))
    | (go_at_call 16; ((with_reducible refine (size_lv _ _ _ R4.out).mono ?_); rintro e w5 ⟨rfl, b5⟩; have B5 := Lib.hid (bel_trans B4.out b5); clear b5))
    | fail)
  go_ret
  exact ⟨rfl, B5.out⟩
end Go.Proofs.Yteiifcmdpoonmaa
