/- Contracts of the key functions. -/
import Derived.Test.YtdbcaiggliiacaaRows
import Derived.WalkKit
import Derived.WalkSpells
import Derived.WalkLawsBesides
import Derived.Below
import Derived.Test.YtdbcaiggliiacaaA0
namespace Go.Proofs.Ytdbcaiggliiacaa
set_option linter.unusedSimpArgs false
open Go.RowKit
set_option linter.unusedVariables false

def lt (a b : ByteArray) : Bool := Op.bytesLess a.toList b.toList
def emp (a : ByteArray) : Bool := a.toList.isEmpty
def bef (a b : ByteArray) : Bool := !emp a && (emp b || lt a b)
def sb (f t : ByteArray) : Bool := emp t || lt f t
def has (f t s : ByteArray) : Bool := !lt s f && sb s t
def firstS (a b : ByteArray) : ByteArray := if bef b a then b else a
def lastS (a b : ByteArray) : ByteArray := if bef a b then b else a

set_option maxHeartbeats 400000 in
theorem sb_any (a b : ByteArray) (w : World) :
    Calls Try.prog 44 #[.string a, .string b] w fun e w' => e = .returned (.bool (sb a b)) ∧ w = w' := by
  go_enter Try.func44, Try.ntmps44
  go_wp2
  all_goals
    go_ret
    refine ⟨?_, rfl⟩
    simp_all [sb, emp, lt]
set_option maxHeartbeats 400000 in
theorem rightRange_any (a b : ByteArray) (w : World) :
    Calls Try.prog 29 #[.agg #[.string a, .string b]] w fun e w' => e = .returned (.bool (sb a b)) ∧ Below w.heap.size w w' := by
  go_enter Try.func29, Try.ntmps29
  go_wp2_with (go_at_call 44; refine (sb_any _ _ _).mono ?_; rintro e w' ⟨rfl, rfl⟩)
  all_goals
    go_ret
    exact ⟨rfl, (Below.refl _ _).alloc (Nat.le_refl _) _⟩
set_option maxHeartbeats 400000 in
theorem rright_any (a b : ByteArray) (w : World) :
    Calls Try.prog 12 #[.agg #[.string a, .string b]] w fun e w' => e = .returned (.bool (sb a b)) ∧ Below w.heap.size w w' := by
  go_enter Try.func12, Try.ntmps12
  go_wp2
  all_goals
    go_ret
    refine ⟨?_, (Below.refl _ _).alloc (Nat.le_refl _) _⟩
    simp_all [sb, emp, lt]
    try (have := bl_le b.toList a.toList; have e : (b.toList == a.toList) = (b.toList == a.toList) := rfl; cases h1 : Op.bytesLess b.toList a.toList <;> cases h2 : (b.toList == a.toList) <;> simp_all)
set_option maxHeartbeats 400000 in
theorem holds_any (a b s : ByteArray) (w : World) :
    Calls Try.prog 34 #[.agg #[.string a, .string b], .string s] w fun e w' => e = .returned (.bool (has a b s)) ∧ Below w.heap.size w w' := by
  go_enter Try.func34, Try.ntmps34
  go_wp2_with (go_at_call 44; refine (sb_any _ _ _).mono ?_; rintro e w' ⟨rfl, rfl⟩)
  all_goals
    go_ret
    refine ⟨?_, (Below.refl _ _).alloc (Nat.le_refl _) _⟩
    have hle := bl_le a.toList s.toList
    cases h1 : Op.bytesLess s.toList a.toList <;> simp_all [has, sb, emp, lt]
    try (cases h2 : Op.bytesLess a.toList s.toList <;> simp_all)
set_option maxHeartbeats 400000 in
theorem rholds_any (a b s : ByteArray) (w : World) :
    Calls Try.prog 14 #[.agg #[.string a, .string b], .string s] w fun e w' => e = .returned (.bool (has a b s)) ∧ Below w.heap.size w w' := by
  go_enter Try.func14, Try.ntmps14
  go_wp2
  all_goals
    go_ret
    refine ⟨?_, (Below.refl _ _).alloc (Nat.le_refl _) _⟩
    have hle := bl_le a.toList s.toList
    cases h1 : Op.bytesLess s.toList a.toList <;> simp_all [has, sb, emp, lt]
    try (cases h2 : Op.bytesLess a.toList s.toList <;> simp_all)
set_option maxHeartbeats 400000 in
theorem after_any (a : ByteArray) (w : World) (h : a.size + 1 ≤ 9223372036854775807) :
    Calls Try.prog 46 #[.string a] w fun e w' => e = .returned (.string (a ++ ⟨#[0]⟩)) ∧ w = w' := by
  go_enter Try.func46, Try.ntmps46
  go_wp2
  all_goals
    go_ret
    exact ⟨rfl, rfl⟩
end Go.Proofs.Ytdbcaiggliiacaa
