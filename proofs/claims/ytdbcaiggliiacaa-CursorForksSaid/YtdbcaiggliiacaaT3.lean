/- A region that draws its order, in a round, is walked as anywhere; words for both tables. -/
import Derived.Test.YtdbcaiggliiacaaT2
namespace Go.Proofs.Ytdbcaiggliiacaa
set_option linter.unusedSimpArgs false
open Go.RowKit Go.Maps Go.Sort Go.Shelf
set_option linter.unusedVariables false
attribute [local go_sem] Oper.semAt_some
def calm (Q : Exit → Act → World → Prop) : Exit → Act → World → Prop
  | .normal, a, w => Q .normal a w
  | _, _, _ => False
theorem calm_normal {Q : Exit → Act → World → Prop} {a : Act} {w : World} (h : Q .normal a w) : calm Q .normal a w := h
theorem wpIn_calm {Fc : Fence} {n : Nat} {P : Program} {c : Code} {Q : Exit → Act → World → Prop} {a : Act} {w : World} (h : c.wpIn Fc n P (calm Q) a w) : c.wpIn Fc n P Q a w :=
  wpIn_mono h (fun e a w h => by cases e <;> first | exact h | exact h.elim)
theorem calm_out {Q : Exit → Act → World → Prop} : ¬ LetsOut (calm Q) := fun ⟨_, _, h⟩ => h
theorem upon_round {P : Program} {o : Oper} {a : Act} {K K' : Act → World → Prop} {Q : Exit → Act → World → Prop} (hK : ∀ a w, K a w → K' a w) (l n : Nat) {r : Result Next} (h : o.upon P a K Q r) : o.uponIn (Fence.wide.inRound l) n P a K' Q r := by
  unfold Oper.upon at h
  unfold Oper.uponIn
  split at h
  · exact hK _ _ h
  · exact hK _ _ h
  · exact hK _ _ h
  · refine ⟨fun h => (by cases h), (CallsIn.inRound l (callsIn_wide.2 h)).mono ?_⟩
    intro e w' h'
    cases e with
    | returned v => exact hK _ _ h'
    | panicked c => exact h'
    | outgrown => exact h'
  · refine ⟨fun h => (by cases h), ?_⟩
    intro c cs _
    obtain ⟨v, w', hv, hs⟩ := h c cs
    exact ⟨v, w', hK _ _ hv, stepsIn_wide.2 hs⟩
  · exact h
  · cases h
theorem any_round {P : Program} {md : Region.Mode} {ops : Array Oper} {Q : Exit → Act → World → Prop} (l n : Nat) (hd : ∀ o ∈ ops, ∀ c, o.op ≠ .defer c) :
    ∀ {fuel : Nat} {listed : Array Bool} {a : Act} {w : World}, wpAny P md ops (calm Q) fuel listed a w → wpAnyIn (Fence.wide.inRound l) n P md ops (calm Q) fuel listed a w := by
  intro fuel
  induction fuel with
  | zero => intro listed a w h; exact h
  | succ fuel ih =>
    intro listed a w h
    refine ⟨h.1, fun i hi => ?_⟩
    have h2 := h.2 i hi
    unfold wpOp at h2
    unfold wpOpIn
    cases ho : ops[i]? with
    | none => rw [ho] at h2; exact ih h2
    | some o =>
      rw [ho] at h2
      simp only at h2 ⊢
      split
      next hw =>
        rw [if_pos hw] at h2
        have h3 := h2.resolve_right (fun q => calm_out q.2)
        refine ⟨fun f _ => trivial, ?_⟩
        rw [Oper.semAt_eq _ _ _ (hd o (Array.mem_of_getElem? ho))]
        exact upon_round (fun a w h => ih h) l n h3
      next hw =>
        rw [if_neg hw] at h2
        exact ⟨fun f _ => trivial, ih h2⟩
/-- A region in a round. -/
theorem region_round {P : Program} {id : Nat} {ops : Array Oper} {Q : Exit → Act → World → Prop} {l n : Nat} {a : Act} {w : World} (hm : P.follows .mixedOrders = true) (hd : ∀ o ∈ ops, ∀ c, o.op ≠ .defer c)
    (h : wpAny P .any ops (calm Q) ops.size (Array.replicate ops.size false) a w.drew) : (Code.region id ops true).wpIn (Fence.wide.inRound l) n P Q a w :=
  wpIn_calm (wpIn_region_any hm (any_round l n hd h))
theorem region_round_held {P : Program} {id : Nat} {ops : Array Oper} {Q : Exit → Act → World → Prop} {S : World → Prop} {l n : Nat} {a : Act} {w : World} (hm : P.follows .mixedOrders = true) (hd : ∀ o ∈ ops, ∀ c, o.op ≠ .defer c) (hS : S w.drew)
    (h : S w.drew → wpAnyH P .any ops (calm Q) S ops.size (Array.replicate ops.size false) a w.drew) : (Code.region id ops true).wpIn (Fence.wide.inRound l) n P Q a w :=
  region_round hm hd (wpAny_of_held _ _ _ _ (h hS))
/-- All, with what it promises. -/
theorem all_post {w : World} {N M m n : Nat} {last : Int} {S : Int → Option Cur} (h : PT w N M m n last S) {xs : List XE} (hL : Lists S xs) (hn : n ≤ 100000) (hwf : ∀ x ∈ xs, (Lit.int .i64 x.1).wf = true) :
    Calls Try.prog 27 #[.pointer (some ⟨N, 0, none⟩)] w (AllPost w xs) := by
  have hlen := lists_len hL h.2
  refine (all_any h).mono ?_
  rintro e W ⟨B, M', rfl, hH, hB, hM, hb⟩
  exact ⟨_, _, _, rfl, hb, all_seq B M' m n S xs hn hlen hL hwf, hH, fun W W' h hb => h.later hb, fun g hg => by
    rcases hg with rfl | rfl
    · exact ⟨hB, hH.1.lt⟩
    · exact ⟨hM, hH.2.lt⟩⟩
/-- What the document's table tells of all its cursors. -/
def entsF : Int → List RC → List XE
  | _, [] => []
  | k, (f, t, _, c) :: r => (if c = true then [] else [(k, f, t)]) ++ entsF (k + 1) r
def ents (xs : List RC) : List XE := entsF 1 xs
theorem entsF_mem : ∀ (xs : List RC) (k : Int) (x : XE), x ∈ entsF k xs ↔ ∃ p : Nat, ∃ e, xs[p]? = some (x.2.1, x.2.2, e, false) ∧ x.1 = k + p
  | [], k, x => by simp [entsF]
  | (f, t, e, c) :: r, k, x => by
    rw [entsF, List.mem_append, entsF_mem r (k + 1) x]
    constructor
    · rintro (h | ⟨p, e', h1, h2⟩)
      · cases c with
        | true => simp at h
        | false => simp at h; subst h; exact ⟨0, e, rfl, by simp⟩
      · exact ⟨p + 1, e', by simpa using h1, by rw [h2]; simp; omega⟩
    · rintro ⟨p, e', h1, h2⟩
      cases p with
      | zero =>
        left
        simp at h1
        obtain ⟨rfl, rfl, rfl, rfl⟩ := h1
        obtain ⟨x0, x1, x2⟩ := x
        simp at h2
        simp [h2]
      | succ p =>
        right
        exact ⟨p, e', by simpa using h1, by rw [h2]; simp; omega⟩
theorem entsF_up : ∀ (xs : List RC) (k : Int), ((entsF k xs).map (·.1)).Pairwise (· < ·)
  | [], k => by simp [entsF]
  | (f, t, e, c) :: r, k => by
    rw [entsF, List.map_append, List.pairwise_append]
    refine ⟨by cases c <;> simp, entsF_up r (k + 1), fun a ha b hb => ?_⟩
    cases c with
    | true => simp at ha
    | false =>
      simp at ha
      obtain ⟨y, hy, rfl⟩ := List.mem_map.1 hb
      obtain ⟨p, e', _, h2⟩ := (entsF_mem r (k + 1) y).1 hy
      omega
theorem lk_open {xs : List RC} {p : Nat} {f t : ByteArray} {e : Bool} (h : xs[p]? = some (f, t, e, false)) : lk xs ((p : Int) + 1) = some (f, t, e) := by
  have hp := (List.getElem?_eq_some_iff.1 h).1
  unfold lk
  rw [if_pos ⟨by omega, by omega⟩, show ((p : Int) + 1 - 1).toNat = p by omega, h]
theorem ents_lists (xs : List RC) : Lists (lk xs) (ents xs) := by
  refine ⟨entsF_up xs 1, fun k => ?_, fun x hx => ?_⟩
  · rw [List.mem_map]
    constructor
    · intro h
      obtain ⟨c, hc⟩ := Option.isSome_iff_exists.1 h
      obtain ⟨p, rfl, hp, hx⟩ := lk_in hc
      exact ⟨((p : Int) + 1, c.1, c.2.1), (entsF_mem xs 1 _).2 ⟨p, c.2.2, hx, by simp; omega⟩, rfl⟩
    · rintro ⟨x, hx, rfl⟩
      obtain ⟨p, e, h1, h2⟩ := (entsF_mem xs 1 x).1 hx
      rw [show x.1 = (p : Int) + 1 by omega, lk_open h1]; rfl
  · obtain ⟨p, e, h1, h2⟩ := (entsF_mem xs 1 x).1 hx
    exact ⟨e, by rw [show x.1 = (p : Int) + 1 by omega, lk_open h1]⟩
theorem ents_at {xs : List RC} {x : XE} (hx : x ∈ ents xs) : ∃ p : Nat, ∃ e, x.1 = (p : Int) + 1 ∧ p < xs.length ∧ xs[p]? = some (x.2.1, x.2.2, e, false) := by
  obtain ⟨p, e, h1, h2⟩ := (entsF_mem xs 1 x).1 hx
  exact ⟨p, e, by omega, (List.getElem?_eq_some_iff.1 h1).1, h1⟩
theorem entsF_len : ∀ (xs : List RC) (k : Int), (entsF k xs).length = opn xs
  | [], k => rfl
  | (f, t, e, c) :: r, k => by
    rw [entsF, List.length_append, entsF_len r (k + 1)]
    cases c <;> simp [opn] <;> omega
theorem ents_len (xs : List RC) : (ents xs).length = opn xs := entsF_len xs 1
end Go.Proofs.Ytdbcaiggliiacaa
