/- PivotSplits: the law, whole. -/
import Derived.Test.YtngldfheneegcaaR4
namespace Go.Proofs.Ytngldfheneegcaa
set_option linter.unusedSimpArgs false
open Go.RowKit
set_option linter.unusedVariables false

theorem splits_law (A : Option Addr) (n c : Nat) (l : List ByteArray) (f t s : ByteArray) (w : World) (hl : l.length = n) (hc : n ≤ c) (hm : c ≤ maxLen) (hA : A = none → n = 0) (hr : RdS w A l) :
    Calls Try.prog 5 #[.slice A n c, .agg #[.string f, .string t], .string s] w fun e w' => e = .returned (.bool true) ∧ Below w.heap.size w w' := by
  cases h1 : rightB (l.take 30) f t
  · exact splits_few A n c l f t s w hl hc hm hA hr (fun q hq => by subst hq; exact .inl h1)
  · cases h2 : risesB (ins (l.take 30) (prt (l.take 30) s) s)
    · exact splits_few A n c l f t s w hl hc hm hA hr (fun q hq => by subst hq; exact .inr (.inl ⟨h1, h2⟩))
    · cases h3 : rightB (ins (l.take 30) (prt (l.take 30) s) s) f t
      · exact splits_few A n c l f t s w hl hc hm hA hr (fun q hq => by subst hq; exact .inr (.inr ⟨h1, h2, h3⟩))
      · exact splits_yes A n c l f t s w hl hc hm hA hr (fun q hq => by subst hq; exact ⟨h1, h2, h3⟩)
end Go.Proofs.Ytngldfheneegcaa
