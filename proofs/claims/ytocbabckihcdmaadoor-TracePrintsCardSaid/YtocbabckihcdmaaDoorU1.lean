/- The document's word; what operations took, as the document counts. -/
import Derived.Test.YtocbabckihcdmaaDoorT2
import Derived.Test.YtocbabckihcdmaaDoorT3
namespace Go.Proofs.YtocbabckihcdmaaDoor
set_option linter.unusedSimpArgs false
open Go.RowKit Go.Maps
set_option linter.unusedVariables false
set_option maxRecDepth 100000 in
set_option maxHeartbeats 2000000 in
theorem word_ref (a : Int) (h0 : 0 ≤ a) (h1 : a ≤ 255) (w : World) :
    Calls Tryd.prog 19 #[.int .u8 a] w fun e w' => e = .returned (.string (wordF a)) ∧ Below w.heap.size w w' := by
  have RL := Lib.hid (RE.Rd.lit (E := ES) w 67 wl (wl.map Value.string).toArray (by rw [es_all]))
  have B0 := Lib.hid (alb w (.cells (wl.map Value.string).toArray 67))
  have hwc : IntKind.i64.wrap a = a := IntWalk.i64_in _ (by omega)
  obtain ⟨k, hk⟩ : ∃ k : Nat, a = k := ⟨a.toNat, by omega⟩
  subst hk
  go_enter Tryd.func19, Tryd.ntmps19
  go_upto_region 2 with fail
  by_cases hk : k < 17
  · have hk1 : ¬ (17 : Int) ≤ (k : Int) := by omega
    have hk2 : (k : Int) < 17 := by omega
    have hk3 : (0 : Int) ≤ (k : Int) := by omega
    obtain ⟨x, hx⟩ : ∃ x, wl[k]? = some x := ⟨_, List.getElem?_eq_getElem (show k < wl.length from hk)⟩
    obtain ⟨b, off, e, -, g0⟩ := es_at RL.out hx
    cases e
    rw [Nat.zero_add] at g0
    have HE : Hid (wordF (k : Int) = x) := Lib.hid (by unfold wordF; rw [Int.toNat_natCast, hx]; rfl)
    generalize hW1 : World.alloc w _ = W1
    rw [show w.alloc (.cells (wl.map Value.string).toArray 67) = W1 from hW1] at g0
    have HB : Hid (Below w.heap.size w W1) := Lib.hid (by rw [← hW1]; exact B0.out)
    clear hW1 hx RL B0
    go_wp2
    go_ret
    exact ⟨by rw [HE.out]; rfl, HB.out⟩
  · have hk1 : (17 : Int) ≤ (k : Int) := by omega
    have HE : Hid (wordF (k : Int) = ⟨#[]⟩) := Lib.hid (by unfold wordF; rw [Int.toNat_natCast, List.getElem?_eq_none (show wl.length ≤ k by show 17 ≤ k; omega)]; rfl)
    generalize hW1 : World.alloc w _ = W1
    have HB : Hid (Below w.heap.size w W1) := Lib.hid (by rw [← hW1]; exact B0.out)
    clear hW1 RL B0
    go_wp2
    go_ret
    exact ⟨by rw [HE.out]; rfl, HB.out⟩
end Go.Proofs.YtocbabckihcdmaaDoor
