/- Contracts of the key functions. -/
import Derived.Test.YtdbnkeihnoglcaaRows
import Derived.WalkKit
import Derived.WalkSpells
import Derived.WalkLawsBesides
import Derived.Below
import Derived.Test.YtdbnkeihnoglcaaA0
namespace Go.Proofs.Ytdbnkeihnoglcaa
set_option linter.unusedSimpArgs false
open Go.RowKit
set_option linter.unusedVariables false

def lt (a b : ByteArray) : Bool := Op.bytesLess a.toList b.toList
def emp (a : ByteArray) : Bool := a.toList.isEmpty
def bef (a b : ByteArray) : Bool := !emp a && (emp b || lt a b)
def sb (f t : ByteArray) : Bool := emp t || lt f t
def has (f t s : ByteArray) : Bool := !lt s f && sb s t
def firstS (a b : ByteArray) : ByteArray := if bef b a then b else a
def lastS (a b : ByteArray) : ByteArray := if bef a b then b else a

set_option maxHeartbeats 400000 in
theorem before_any (a b : ByteArray) (w : World) :
    Calls Try.prog 61 #[.string a, .string b] w fun e w' => e = .returned (.bool (bef a b)) ∧ w = w' := by
  go_enter Try.func61, Try.ntmps61
  go_wp2
  all_goals
    go_ret
    refine ⟨?_, rfl⟩
    unfold bef emp lt
    cases ha : a.toList.isEmpty <;> cases hb : b.toList.isEmpty <;> simp_all
set_option maxHeartbeats 400000 in
theorem rbefore_any (a b : ByteArray) (w : World) :
    Calls Try.prog 62 #[.string a, .string b] w fun e w' => e = .returned (.bool (bef a b)) ∧ w = w' := by
  go_enter Try.func62, Try.ntmps62
  go_wp2
  all_goals
    go_ret
    refine ⟨?_, rfl⟩
    simp_all [bef, emp, lt]
set_option maxHeartbeats 400000 in
theorem first_any (a b : ByteArray) (w : World) :
    Calls Try.prog 72 #[.string a, .string b] w fun e w' => e = .returned (.string (firstS a b)) ∧ w = w' := by
  go_enter Try.func72, Try.ntmps72
  go_wp2_with (go_at_call 61; refine (before_any _ _ _).mono ?_; rintro e w' ⟨rfl, rfl⟩)
  all_goals
    go_ret
    refine ⟨?_, rfl⟩
    simp_all [firstS]
set_option maxHeartbeats 400000 in
theorem last_any (a b : ByteArray) (w : World) :
    Calls Try.prog 38 #[.string a, .string b] w fun e w' => e = .returned (.string (lastS a b)) ∧ w = w' := by
  go_enter Try.func38, Try.ntmps38
  go_wp2_with (go_at_call 61; refine (before_any _ _ _).mono ?_; rintro e w' ⟨rfl, rfl⟩)
  all_goals
    go_ret
    refine ⟨?_, rfl⟩
    simp_all [lastS]
set_option maxHeartbeats 400000 in
theorem sb_any (a b : ByteArray) (w : World) :
    Calls Try.prog 57 #[.string a, .string b] w fun e w' => e = .returned (.bool (sb a b)) ∧ w = w' := by
  go_enter Try.func57, Try.ntmps57
  go_wp2
  all_goals
    go_ret
    refine ⟨?_, rfl⟩
    simp_all [sb, emp, lt]
set_option maxHeartbeats 400000 in
theorem rightRange_any (a b : ByteArray) (w : World) :
    Calls Try.prog 35 #[.agg #[.string a, .string b]] w fun e w' => e = .returned (.bool (sb a b)) ∧ Below w.heap.size w w' := by
  go_enter Try.func35, Try.ntmps35
  go_wp2_with (go_at_call 57; refine (sb_any _ _ _).mono ?_; rintro e w' ⟨rfl, rfl⟩)
  all_goals
    go_ret
    exact ⟨rfl, (Below.refl _ _).alloc (Nat.le_refl _) _⟩
set_option maxHeartbeats 400000 in
theorem rright_any (a b : ByteArray) (w : World) :
    Calls Try.prog 28 #[.agg #[.string a, .string b]] w fun e w' => e = .returned (.bool (sb a b)) ∧ Below w.heap.size w w' := by
  go_enter Try.func28, Try.ntmps28
  go_wp2
  all_goals
    go_ret
    refine ⟨?_, (Below.refl _ _).alloc (Nat.le_refl _) _⟩
    simp_all [sb, emp, lt]
    try (have := bl_le b.toList a.toList; have e : (b.toList == a.toList) = (b.toList == a.toList) := rfl; cases h1 : Op.bytesLess b.toList a.toList <;> cases h2 : (b.toList == a.toList) <;> simp_all)
set_option maxHeartbeats 400000 in
theorem holds_any (a b s : ByteArray) (w : World) :
    Calls Try.prog 36 #[.agg #[.string a, .string b], .string s] w fun e w' => e = .returned (.bool (has a b s)) ∧ Below w.heap.size w w' := by
  go_enter Try.func36, Try.ntmps36
  go_wp2_with (go_at_call 57; refine (sb_any _ _ _).mono ?_; rintro e w' ⟨rfl, rfl⟩)
  all_goals
    go_ret
    refine ⟨?_, (Below.refl _ _).alloc (Nat.le_refl _) _⟩
    have hle := bl_le a.toList s.toList
    cases h1 : Op.bytesLess s.toList a.toList <;> simp_all [has, sb, emp, lt]
    try (cases h2 : Op.bytesLess a.toList s.toList <;> simp_all)
set_option maxHeartbeats 400000 in
theorem rholds_any (a b s : ByteArray) (w : World) :
    Calls Try.prog 29 #[.agg #[.string a, .string b], .string s] w fun e w' => e = .returned (.bool (has a b s)) ∧ Below w.heap.size w w' := by
  go_enter Try.func29, Try.ntmps29
  go_wp2
  all_goals
    go_ret
    refine ⟨?_, (Below.refl _ _).alloc (Nat.le_refl _) _⟩
    have hle := bl_le a.toList s.toList
    cases h1 : Op.bytesLess s.toList a.toList <;> simp_all [has, sb, emp, lt]
    try (cases h2 : Op.bytesLess a.toList s.toList <;> simp_all)
set_option maxHeartbeats 400000 in
theorem after_any (a : ByteArray) (w : World) (h : a.size + 1 ≤ 9223372036854775807) :
    Calls Try.prog 69 #[.string a] w fun e w' => e = .returned (.string (a ++ ⟨#[0]⟩)) ∧ w = w' := by
  go_enter Try.func69, Try.ntmps69
  go_wp2
  all_goals
    go_ret
    exact ⟨rfl, rfl⟩
set_option maxHeartbeats 400000 in
theorem point_any (a : ByteArray) (w : World) (h : a.size + 1 ≤ 9223372036854775807) :
    Calls Try.prog 56 #[.string a] w fun e w' => e = .returned (.agg #[.string a, .string (a ++ ⟨#[0]⟩)]) ∧ Below w.heap.size w w' := by
  go_enter Try.func56, Try.ntmps56
  go_wp2_with (go_at_call 69; refine (after_any _ _ h).mono ?_; rintro e w' ⟨rfl, rfl⟩)
  refine bodyPost_ret (v := .agg #[.string a, .string (a ++ ⟨#[0]⟩)]) (by simp [results, Try.results56, go_sem]) rfl ⟨rfl, (Below.refl _ _).alloc (Nat.le_refl _) _⟩

end Go.Proofs.Ytdbnkeihnoglcaa
