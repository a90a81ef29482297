/- Halves. -/
import Derived.Test.YteiifcmdpoonmaaN3
namespace Go.Proofs.Yteiifcmdpoonmaa
set_option linter.unusedSimpArgs false
open Go.RowKit Go.Maps Go.Shelf
set_option linter.unusedVariables false
/-- Both halves in new memory. -/
def HalfPost (w : World) (h : Nat) (xs : List TT) (e : Ending) (w' : World) : Prop :=
  ∃ A1 c1 A2 c2, e = .returned (.tuple #[.slice A1 (xs.take h).length c1, .slice A2 (xs.drop h).length c2]) ∧ RdT w' A1 (xs.take h) ∧ RdT w' A2 (xs.drop h) ∧ Below w.heap.size w w'
theorem rdt_add {w : World} {a : Addr} {l : List TT} (h : RdT w (some a) l) (i : Nat) : RdT w (some (a.add (i * 2))) (l.drop i) := by
  rcases h with h | ⟨b, off, e, hlt, hc⟩
  · left; rw [cls_empty h]; simp [cls]
  · cases e
    have := rdt_drop (.inr ⟨b, off, rfl, hlt, hc⟩ : RdT w (some ⟨b, off, none⟩) l) i
    have hadd : (⟨b, off, none⟩ : Addr).add (i * 2) = ⟨b, off + i * 2, none⟩ := by unfold Addr.add; split <;> simp_all
    rw [hadd]; exact this
set_option maxHeartbeats 2000000 in
theorem halves_some (a : Addr) (n c : Nat) (xs : List TT) (w : World) (hl : xs.length = n) (hn : n ≤ 1000000) (hc : n ≤ c) (hc2 : c ≤ maxLen) (hA : RdT w (some a) xs) :
    Calls Try.prog 9 #[.slice (some a) n c] w (HalfPost w (n / 2) xs) := by
  have HL := Lib.hid hl
  have HA := Lib.hid hA
  obtain ⟨hf, hh⟩ : ∃ hf, hf = n / 2 := ⟨_, rfl⟩
  have q1 : ((n : Int) / 2) = (hf : Int) := by omega
  have q2 : hf ≤ c := by omega
  have q3 : hf ≤ n := by omega
  have q4 : (hf : Int) ≤ (c : Int) := by omega
  have q5 : (hf : Int) ≤ (n : Int) := by omega
  have q6 : (0 : Int) ≤ (hf : Int) := by omega
  rw [← hh]
  have HN := Lib.hid hn
  clear hl hA hh
  have C1 := Lib.hid (own_any (some a) hf c (xs.take hf) w.drew (by rw [List.length_take, HL.out]; omega) (by omega) (rdt_take (rdt_later HA.out (drew_bel w)) hf))
  have C2 : Hid (∀ W, Below w.heap.size w W → Calls Try.prog 17 #[.slice (if c = hf then some a else some (a.add (hf * 2))) (n - hf) (c - hf)] W (OwnPost W (xs.drop hf))) := Lib.hid (fun W hW => own_any _ _ _ _ W (by rw [List.length_drop, HL.out]) (by have := HN.out; omega) (by
    split
    · rw [List.drop_eq_nil_of_le (by rw [HL.out]; omega)]; exact .inl rfl
    · exact rdt_add (rdt_later HA.out hW) hf))
  go_enter Try.func9, Try.ntmps9
  go_wp2_with fail
  go_region_law (first
    | (go_simp; go_at_call 17; (refine C1.out.mono ?_); rintro e w1 ⟨A1, c1, rfl, r1, b1⟩; have R1 := Lib.hid r1; have B1 := Lib.hid (bel_trans (drew_bel w) b1); clear r1 b1)
    | (go_simp; go_at_call 17; (refine (C2.out _ B1.out).mono ?_); rintro e w2 ⟨A2, c2, rfl, r2, b2⟩; have R2 := Lib.hid r2; have B2 := Lib.hid b2; clear r2 b2)
    | fail)
  all_goals
    go_wp2
  all_goals
    refine bodyPost_ret (v := .tuple #[.slice A1 (xs.take hf).length c1, .slice A2 (xs.drop hf).length c2]) (by simp [results, Try.results9, go_sem]) rfl ⟨A1, c1, A2, c2, rfl, rdt_later R1.out.rd B2.out, R2.out.rd, bel_trans B1.out B2.out⟩
set_option maxHeartbeats 2000000 in
theorem halves_none (w : World) : Calls Try.prog 9 #[.slice none 0 0] w (HalfPost w 0 []) := by
  have C1 : Hid (∀ W, Calls Try.prog 17 #[.slice none 0 0] W (OwnPost W [])) := Lib.hid (fun W => own_any none 0 0 [] W rfl (by omega) (.inl rfl))
  have D0 := Lib.hid (drew_bel w)
  go_enter Try.func9, Try.ntmps9
  go_wp2_with fail
  go_region_law (first
    | (go_simp; go_at_call 17; (refine (C1.out w.drew).mono ?_); rintro e w1 ⟨A1, c1, rfl, r1, b1⟩; have R1 := Lib.hid r1; have B1 := Lib.hid (bel_trans D0.out b1); clear r1 b1)
    | (go_simp; go_at_call 17; (refine (C1.out _).mono ?_); rintro e w2 ⟨A2, c2, rfl, r2, b2⟩; have R2 := Lib.hid r2; have B2 := Lib.hid b2; clear r2 b2)
    | fail)
  all_goals
    go_wp2
  all_goals
    refine bodyPost_ret (v := .tuple #[.slice A1 0 c1, .slice A2 0 c2]) (by simp [results, Try.results9, go_sem]) rfl ⟨A1, c1, A2, c2, rfl, .inl rfl, .inl rfl, bel_trans B1.out B2.out⟩
theorem halves_any (A : Option Addr) (n c : Nat) (xs : List TT) (w : World) (hl : xs.length = n) (hn : n ≤ 1000000) (hc : n ≤ c) (hc2 : c ≤ maxLen) (hz : A = none → c = 0) (hA : RdT w A xs) :
    Calls Try.prog 9 #[.slice A n c] w (HalfPost w (n / 2) xs) := by
  cases A with
  | none =>
    have h0 := hz rfl
    obtain rfl : xs = [] := List.eq_nil_of_length_eq_zero (by omega)
    obtain rfl : n = 0 := by omega
    subst h0
    exact halves_none w
  | some a => exact halves_some a n c xs w hl hn hc hc2 hA
end Go.Proofs.Yteiifcmdpoonmaa
