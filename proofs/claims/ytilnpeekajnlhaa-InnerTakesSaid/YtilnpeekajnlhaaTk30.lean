/- The law InnerTakes, on whatever came in. -/
import Derived.Test.YtilnpeekajnlhaaTk29
import Derived.Test.YtilnpeekajnlhaaTk16
set_option linter.unusedVariables false
set_option linter.unusedSimpArgs false
namespace Go.Proofs.Ytilnpeekajnlhaa
open Go.RowKit Go.Maps
theorem takes_law {W : World} {v : Value} {kd : Int} {P J M B : Option Addr} {n pc k kc m mc b bc : Nat} {ps : List ByteArray} {ks : List Int} {ms : List MG} (N : NodeIn W v kd P J M B n pc k kc m mc b bc ps ks ms)
    (f t : ByteArray) (i : Int) (L : Option Addr) (q lc : Nat) (ys : List MG) (hf : SzOk f) (ht : SzOk t) (hql : q ≤ lc) (hlc : lc ≤ maxLen) (hy : ys.length = q) (hY : EG.Rd W L ys) :
    Calls Try.prog 3 #[.agg #[.int .u8 kd, .slice P n pc, .slice J k kc, .slice M m mc, .slice B b bc], .agg #[.string f, .string t], .int .i64 i, .slice L q lc] W fun e w' => e = .returned (.bool true) ∧ Below W.heap.size W w' := by
  cases hno : (smallB n k m b && rnB kd n k b ps ks ms f t)
  · exact takes_not kd P J M B L n pc k kc m mc b bc q lc ps ks ms f t i W N.hl (es_rd.1 N.hP) N.hkl N.hJ N.hm N.hM N.ho hno
  · rw [Bool.and_eq_true] at hno
    obtain ⟨hs, hr⟩ := hno
    have hr := rnB_iff.1 hr
    have hb := hr.hb
    subst hb
    by_cases hq : q ≤ 10
    · exact takes_lo kd P J M B L n pc k kc m mc bc q lc ps ks ms ys f t i W N.hl (es_rd.1 N.hP) N.hkl N.hJ N.hx N.hm N.hM N.ho N.hps hf ht hs hr hq hql hlc hy hY
    · exact takes_hi kd P J M B L n pc k kc m mc bc q lc ps ks ms (ys.take 10) f t i W N.hl (es_rd.1 N.hP) N.hkl N.hJ N.hx N.hm N.hM N.ho N.hps hf ht hs hr hq hql hlc (by rw [List.length_take]; omega) (hY.take 10)
end Go.Proofs.Ytilnpeekajnlhaa
