/- Contracts of the key functions. -/
import Derived.Test.YtngldfheneegcaaRows
import Derived.WalkKit
import Derived.WalkSpells
import Derived.WalkLawsBesides
import Derived.Below
import Derived.Test.YtngldfheneegcaaA0
namespace Go.Proofs.Ytngldfheneegcaa
set_option linter.unusedSimpArgs false
open Go.RowKit
set_option linter.unusedVariables false

def lt (a b : ByteArray) : Bool := Op.bytesLess a.toList b.toList
def emp (a : ByteArray) : Bool := a.toList.isEmpty
def bef (a b : ByteArray) : Bool := !emp a && (emp b || lt a b)
def sb (f t : ByteArray) : Bool := emp t || lt f t
def has (f t s : ByteArray) : Bool := !lt s f && sb s t
def firstS (a b : ByteArray) : ByteArray := if bef b a then b else a
def lastS (a b : ByteArray) : ByteArray := if bef a b then b else a

set_option maxHeartbeats 400000 in
theorem before_any (a b : ByteArray) (w : World) :
    Calls Try.prog 38 #[.string a, .string b] w fun e w' => e = .returned (.bool (bef a b)) ∧ w = w' := by
  go_enter Try.func38, Try.ntmps38
  go_wp2
  all_goals
    go_ret
    refine ⟨?_, rfl⟩
    unfold bef emp lt
    cases ha : a.toList.isEmpty <;> cases hb : b.toList.isEmpty <;> simp_all
set_option maxHeartbeats 400000 in
theorem rbefore_any (a b : ByteArray) (w : World) :
    Calls Try.prog 36 #[.string a, .string b] w fun e w' => e = .returned (.bool (bef a b)) ∧ w = w' := by
  go_enter Try.func36, Try.ntmps36
  go_wp2
  all_goals
    go_ret
    refine ⟨?_, rfl⟩
    simp_all [bef, emp, lt]
set_option maxHeartbeats 400000 in
theorem first_any (a b : ByteArray) (w : World) :
    Calls Try.prog 35 #[.string a, .string b] w fun e w' => e = .returned (.string (firstS a b)) ∧ w = w' := by
  go_enter Try.func35, Try.ntmps35
  go_wp2_with (go_at_call 38; refine (before_any _ _ _).mono ?_; rintro e w' ⟨rfl, rfl⟩)
  all_goals
    go_ret
    refine ⟨?_, rfl⟩
    simp_all [firstS]
set_option maxHeartbeats 400000 in
theorem sb_any (a b : ByteArray) (w : World) :
    Calls Try.prog 37 #[.string a, .string b] w fun e w' => e = .returned (.bool (sb a b)) ∧ w = w' := by
  go_enter Try.func37, Try.ntmps37
  go_wp2
  all_goals
    go_ret
    refine ⟨?_, rfl⟩
    simp_all [sb, emp, lt]
set_option maxHeartbeats 400000 in
theorem rightRange_any (a b : ByteArray) (w : World) :
    Calls Try.prog 27 #[.agg #[.string a, .string b]] w fun e w' => e = .returned (.bool (sb a b)) ∧ Below w.heap.size w w' := by
  go_enter Try.func27, Try.ntmps27
  go_wp2_with (go_at_call 37; refine (sb_any _ _ _).mono ?_; rintro e w' ⟨rfl, rfl⟩)
  all_goals
    go_ret
    exact ⟨rfl, (Below.refl _ _).alloc (Nat.le_refl _) _⟩
set_option maxHeartbeats 400000 in
theorem rright_any (a b : ByteArray) (w : World) :
    Calls Try.prog 30 #[.agg #[.string a, .string b]] w fun e w' => e = .returned (.bool (sb a b)) ∧ Below w.heap.size w w' := by
  go_enter Try.func30, Try.ntmps30
  go_wp2
  all_goals
    go_ret
    refine ⟨?_, (Below.refl _ _).alloc (Nat.le_refl _) _⟩
    simp_all [sb, emp, lt]
    try (have := bl_le b.toList a.toList; have e : (b.toList == a.toList) = (b.toList == a.toList) := rfl; cases h1 : Op.bytesLess b.toList a.toList <;> cases h2 : (b.toList == a.toList) <;> simp_all)
set_option maxHeartbeats 400000 in
theorem holds_any (a b s : ByteArray) (w : World) :
    Calls Try.prog 29 #[.agg #[.string a, .string b], .string s] w fun e w' => e = .returned (.bool (has a b s)) ∧ Below w.heap.size w w' := by
  go_enter Try.func29, Try.ntmps29
  go_wp2_with (go_at_call 37; refine (sb_any _ _ _).mono ?_; rintro e w' ⟨rfl, rfl⟩)
  all_goals
    go_ret
    refine ⟨?_, (Below.refl _ _).alloc (Nat.le_refl _) _⟩
    have hle := bl_le a.toList s.toList
    cases h1 : Op.bytesLess s.toList a.toList <;> simp_all [has, sb, emp, lt]
    try (cases h2 : Op.bytesLess a.toList s.toList <;> simp_all)
set_option maxHeartbeats 400000 in
theorem rholds_any (a b s : ByteArray) (w : World) :
    Calls Try.prog 16 #[.agg #[.string a, .string b], .string s] w fun e w' => e = .returned (.bool (has a b s)) ∧ Below w.heap.size w w' := by
  go_enter Try.func16, Try.ntmps16
  go_wp2
  all_goals
    go_ret
    refine ⟨?_, (Below.refl _ _).alloc (Nat.le_refl _) _⟩
    have hle := bl_le a.toList s.toList
    cases h1 : Op.bytesLess s.toList a.toList <;> simp_all [has, sb, emp, lt]
    try (cases h2 : Op.bytesLess a.toList s.toList <;> simp_all)
end Go.Proofs.Ytngldfheneegcaa
