/- Contracts of the lock functions' plain readers. -/
import Derived.Test.YtpgiidfifhocpaaRows
import Derived.WalkKit
import Derived.WalkSpells
import Derived.WalkLawsBesides
import Derived.Below
set_option linter.unusedVariables false
namespace Go.Proofs.Ytpgiidfifhocpaa
set_option linter.unusedSimpArgs false
open Go.RowKit

def validN (v o : Int) (g : Bool) (ver : Int) : Int := if g then 14 else if v ≠ ver then 16 else if o ≠ 0 then 12 else 0
def beginN (v o : Int) (g : Bool) : Int := if g then 0 else if o ≠ 0 then 0 else v
def beginE (v o : Int) (g : Bool) : Int := if g then 14 else if o ≠ 0 then 12 else 0

/-- A world under a name of its own. -/
theorem at_world {P : Program} {f : Nat} {args : Array Value} {W : World} {Q : Ending → World → Prop} (h : ∀ W2, W2 = W → Calls P f args W2 Q) : Calls P f args W Q := h W rfl

theorem bcell {W w1 : World} (hb : Below W.heap.size W w1) : (∀ b o, b < W.heap.size → w1.cell? ⟨b, o, none⟩ = W.cell? ⟨b, o, none⟩) ∧ (∀ b o, b < W.heap.size → w1.frozen? ⟨b, o, none⟩ = W.frozen? ⟨b, o, none⟩) :=
  ⟨fun b o h => hb.cell (p := ⟨b, o, none⟩) h, fun b o h => hb.frozen (p := ⟨b, o, none⟩) h⟩

set_option maxHeartbeats 400000 in
theorem valid_any (v o : Int) (g : Bool) (ver : Int) (w : World) :
    Calls Try.prog 23 #[.agg #[.int .i64 v, .int .i64 o, .bool g], .int .i64 ver] w fun e w' => e = .returned (.int .i64 (validN v o g ver)) ∧ Below w.heap.size w w' := by
  cases g
  all_goals
    go_enter Try.func23, Try.ntmps23
    go_wp2
    all_goals
      go_ret
      exact ⟨by simp_all [validN], (Below.refl _ _).alloc (Nat.le_refl _) _⟩

set_option maxHeartbeats 400000 in
theorem rvalid_any (v o : Int) (g : Bool) (ver : Int) (w : World) :
    Calls Try.prog 24 #[.agg #[.int .i64 v, .int .i64 o, .bool g], .int .i64 ver] w fun e w' => e = .returned (.int .i64 (validN v o g ver)) ∧ Below w.heap.size w w' := by
  cases g
  all_goals
    go_enter Try.func24, Try.ntmps24
    go_wp2
    all_goals
      go_ret
      exact ⟨by simp_all [validN], (Below.refl _ _).alloc (Nat.le_refl _) _⟩

set_option maxHeartbeats 400000 in
theorem begin_any (v o : Int) (g : Bool) (w : World) :
    Calls Try.prog 21 #[.agg #[.int .i64 v, .int .i64 o, .bool g]] w fun e w' => e = .returned (.tuple #[.int .i64 (beginN v o g), .int .i64 (beginE v o g)]) ∧ Below w.heap.size w w' := by
  cases g
  all_goals
    go_enter Try.func21, Try.ntmps21
    go_wp2
    all_goals
      go_ret2
      exact ⟨by simp_all [beginN, beginE], ((Below.refl _ _).alloc (Nat.le_refl _) _).alloc (by simp) _⟩

set_option maxHeartbeats 400000 in
theorem rbegin_any (v o : Int) (g : Bool) (w : World) :
    Calls Try.prog 22 #[.agg #[.int .i64 v, .int .i64 o, .bool g]] w fun e w' => e = .returned (.tuple #[.int .i64 (beginN v o g), .int .i64 (beginE v o g)]) ∧ Below w.heap.size w w' := by
  cases g
  all_goals
    go_enter Try.func22, Try.ntmps22
    go_wp2
    all_goals
      go_ret2
      exact ⟨by simp_all [beginN, beginE], ((Below.refl _ _).alloc (Nat.le_refl _) _)⟩


abbrev Q := Int × Int × Bool × Int
/-- A lock word and an error number, as a call hands them back. -/
abbrev qv (r : Q) : Value := .tuple #[.agg #[.int .i64 r.1, .int .i64 r.2.1, .bool r.2.2.1], .int .i64 r.2.2.2]
def no (e : Int) : Q := (0, 0, false, e)
def tryF (v o : Int) (g : Bool) (who : Int) : Q := if who < 1 ∨ 64 < who then no 2 else if g then no 14 else if o ≠ 0 then no 12 else (v, who, false, 0)
def nextF (v o : Int) (g : Bool) : Q := if 1099511627776 ≤ v then no 4 else (v + 1, o, g, 0)
def freeF (v o : Int) (g : Bool) (who : Int) : Q := if who < 1 ∨ o ≠ who then no 13 else (v, 0, g, 0)
def bumpF (v o : Int) (g : Bool) (who : Int) : Q := if who < 1 ∨ o ≠ who then no 13 else if 1099511627776 ≤ v then no 4 else (v + 1, 0, g, 0)
def retireF (v o : Int) (g : Bool) (who : Int) : Q := if who < 1 ∨ o ≠ who then no 13 else if 1099511627776 ≤ v then no 4 else (v + 1, 0, true, 0)
def renewF (v o : Int) (g : Bool) : Q := if !g then no 15 else if 1099511627776 ≤ v then no 4 else (v + 1, 0, false, 0)


set_option maxHeartbeats 400000 in
theorem try_any (v o : Int) (g : Bool) (who : Int) (w : World) :
    Calls Try.prog 8 #[.agg #[.int .i64 v, .int .i64 o, .bool g], .int .i64 who] w fun e w' => e = .returned (qv (tryF v o g who)) ∧ Below w.heap.size w w' := by
  cases g
  all_goals
    go_enter Try.func8, Try.ntmps8
    go_wp2
    all_goals
      refine bodyPost_ret (v := qv (tryF v o _ who)) ?_ rfl ⟨rfl, ((Below.refl _ _).alloc (Nat.le_refl _) _).alloc (by simp) _⟩
      simp only [tryF, no]
      simp [results, Try.results8, go_sem]
      repeat' split
      all_goals simp_all
      all_goals omega

set_option maxHeartbeats 400000 in
theorem rtry_any (v o : Int) (g : Bool) (who : Int) (w : World) :
    Calls Try.prog 9 #[.agg #[.int .i64 v, .int .i64 o, .bool g], .int .i64 who] w fun e w' => e = .returned (qv (tryF v o g who)) ∧ Below w.heap.size w w' := by
  cases g
  all_goals
    go_enter Try.func9, Try.ntmps9
    go_wp2
    all_goals
      refine bodyPost_ret (v := qv (tryF v o _ who)) ?_ rfl ⟨rfl, ((Below.refl _ _).alloc (Nat.le_refl _) _).alloc (by simp) _⟩
      simp only [tryF, no]
      simp [results, Try.results9, go_sem]
      repeat' split
      all_goals simp_all
      all_goals omega

abbrev lkc (v o : Int) (g : Bool) : Obj := .cells #[.int .i64 v, .int .i64 o, .bool g] 23

set_option maxHeartbeats 400000 in
theorem next_top (v o : Int) (g : Bool) (w : World) (h : 1099511627776 ≤ v) :
    Calls Try.prog 32 #[.agg #[.int .i64 v, .int .i64 o, .bool g]] w fun e w' => e = .returned (qv (0, 0, false, 4)) ∧ w' = (w.alloc (lkc v o g)).alloc (lkc 0 0 false) := by
  go_enter Try.func32, Try.ntmps32
  go_wp2
  refine bodyPost_ret (v := qv (0, 0, false, 4)) (by simp [results, Try.results32, go_sem, no]) rfl ⟨rfl, rfl⟩

set_option maxHeartbeats 400000 in
theorem next_up (v o : Int) (g : Bool) (w : World) (h0 : -9223372036854775808 ≤ v) (h : v < 1099511627776) :
    Calls Try.prog 32 #[.agg #[.int .i64 v, .int .i64 o, .bool g]] w fun e w' => e = .returned (qv (v + 1, o, g, 0)) ∧ w' = (w.alloc (lkc (v + 1) o g)).alloc (lkc (v + 1) o g) := by
  go_enter Try.func32, Try.ntmps32
  go_wp2
  refine bodyPost_ret (v := qv (v + 1, o, g, 0)) (by simp [results, Try.results32, go_sem]) rfl ⟨rfl, rfl⟩

set_option maxHeartbeats 400000 in
theorem same_any (v o : Int) (g : Bool) (w : World) :
    Calls Try.prog 31 #[.agg #[.int .i64 v, .int .i64 o, .bool g]] w fun e w' => e = .returned (qv (v, o, g, 0)) ∧ w' = (w.alloc (lkc v o g)).alloc (lkc v o g) := by
  go_enter Try.func31, Try.ntmps31
  go_wp2
  refine bodyPost_ret (v := qv (v, o, g, 0)) (by simp [results, Try.results31, go_sem]) rfl ⟨rfl, rfl⟩

set_option maxHeartbeats 400000 in
theorem gone_top (v o : Int) (g : Bool) (w : World) (h : 1099511627776 ≤ v) :
    Calls Try.prog 33 #[.agg #[.int .i64 v, .int .i64 o, .bool g]] w fun e w' => e = .returned (qv (0, 0, false, 4)) ∧ w' = (((w.alloc (lkc v o true)).alloc (lkc 0 0 false)).alloc (lkc v o true)).alloc (lkc 0 0 false) := by
  go_enter Try.func33, Try.ntmps33
  go_wp2_with fail
  refine (next_top v o true _ h).mono ?_
  rintro e w1 ⟨rfl, rfl⟩
  go_wp2
  refine bodyPost_ret (v := qv (0, 0, false, 4)) (by simp [results, Try.results33, go_sem, no]) rfl ⟨rfl, rfl⟩

set_option maxHeartbeats 400000 in
theorem gone_up (v o : Int) (g : Bool) (w : World) (h0 : -9223372036854775808 ≤ v) (h : v < 1099511627776) :
    Calls Try.prog 33 #[.agg #[.int .i64 v, .int .i64 o, .bool g]] w fun e w' => e = .returned (qv (v + 1, o, true, 0)) ∧ w' = (((w.alloc (lkc v o true)).alloc (lkc (v + 1) o true)).alloc (lkc (v + 1) o true)).alloc (lkc (v + 1) o true) := by
  go_enter Try.func33, Try.ntmps33
  go_wp2_with fail
  refine (next_up v o true _ h0 h).mono ?_
  rintro e w1 ⟨rfl, rfl⟩
  go_wp2
  refine bodyPost_ret (v := qv (v + 1, o, true, 0)) (by simp [results, Try.results33, go_sem]) rfl ⟨rfl, rfl⟩
end Go.Proofs.Ytpgiidfifhocpaa
