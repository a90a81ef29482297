/- How much there must be does not fall: the numbers. -/
import Derived.Test.YtifikngmddfahaaA5
import Derived.Test.YtifikngmddfahaaA3
namespace Go.Proofs.Ytifikngmddfahaa
set_option linter.unusedSimpArgs false
open Go.RowKit
set_option linter.unusedVariables false

def sm (a b : Int) : Int := clp (a + clp b)
def tm (a b : Int) : Int := clp (a * clp b)
theorem sm_mono {a a' b b' : Int} (h : a ≤ a') (k : b ≤ b') : sm a b ≤ sm a' b' := clp_mono (by have := clp_mono k; omega)
theorem tm_mono {a a' b b' : Int} (h0 : 0 ≤ a) (h : a ≤ a') (k : b ≤ b') : tm a b ≤ tm a' b' := by
  refine clp_mono ?_
  have k' := clp_mono k
  have b0 := clp_lo b
  exact Int.le_trans (Int.mul_le_mul_of_nonneg_right h b0) (Int.mul_le_mul_of_nonneg_left k' (by omega))
theorem sm_lo (a b : Int) : 0 ≤ sm a b := clp_lo _
theorem tm_lo (a b : Int) : 0 ≤ tm a b := clp_lo _
theorem sum2_mono {a a' b b' : Int} (h : a ≤ a') (k : b ≤ b') : sumF [a, b] ≤ sumF [a', b'] := sm_mono (sm_mono (Int.le_refl 0) h) k
theorem sum3_mono {a a' b b' c c' : Int} (h : a ≤ a') (k : b ≤ b') (m : c ≤ c') : sumF [a, b, c] ≤ sumF [a', b', c'] := sm_mono (sm_mono (sm_mono (Int.le_refl 0) h) k) m
theorem times2_mono {a a' b b' : Int} (h : a ≤ a') (k : b ≤ b') : timesF [a, b] ≤ timesF [a', b'] := tm_mono (tm_lo _ _) (tm_mono (by omega) (Int.le_refl 1) h) k
theorem times3_mono {a a' b b' c c' : Int} (h : a ≤ a') (k : b ≤ b') (m : c ≤ c') : timesF [a, b, c] ≤ timesF [a', b', c'] :=
  tm_mono (tm_lo _ _) (tm_mono (tm_lo _ _) (tm_mono (by omega) (Int.le_refl 1) h) k) m
theorem times4_mono {a a' b b' c c' d d' : Int} (h : a ≤ a') (k : b ≤ b') (m : c ≤ c') (n : d ≤ d') : timesF [a, b, c, d] ≤ timesF [a', b', c', d'] :=
  tm_mono (tm_lo _ _) (tm_mono (tm_lo _ _) (tm_mono (tm_lo _ _) (tm_mono (by omega) (Int.le_refl 1) h) k) m) n
theorem alone_mono {h h' : Int} (k : h ≤ h') : aloneF h ≤ aloneF h' := sum2_mono k (Int.le_refl _)
theorem need_mono (l : Int) {p p' : Int} (k : p ≤ p') : needF l p ≤ needF l p' := by
  refine sum2_mono (Int.le_refl _) (times2_mono (Int.le_refl _) ?_)
  exact Int.ediv_le_ediv (by omega) (clp_mono k)
theorem all_mono {s s' t t' : Int} (h : s ≤ s') (k : t ≤ t') : allF s t ≤ allF s' t' := sum3_mono k h (Int.le_refl _)
theorem wait_mono (bu : Int) {w w' s s' t t' : Int} (h : w ≤ w') (k : s ≤ s') (m : t ≤ t') : waitF bu w s t ≤ waitF bu w' s' t' :=
  times2_mono h (sum2_mono (times3_mono (Int.le_refl _) (all_mono k m) (all_mono k m)) (times4_mono (Int.le_refl _) k (Int.le_refl _) (sum2_mono m (Int.le_refl _))))
end Go.Proofs.Ytifikngmddfahaa
