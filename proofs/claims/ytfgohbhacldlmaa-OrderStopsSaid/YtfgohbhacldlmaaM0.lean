/- Trees and lists of pairs in order: plain mathematics. -/
import Derived.Test.YtfgohbhacldlmaaA0
namespace Go.Proofs.Ytfgohbhacldlmaa
set_option linter.unusedSimpArgs false
set_option linter.unusedVariables false

inductive Tr (K V : Type) where
  | leaf
  | node (l : Tr K V) (k : K) (v : V) (r : Tr K V)
def Tr.inorder {K V : Type} : Tr K V → List (K × V)
  | .leaf => []
  | .node l k v r => l.inorder ++ (k, v) :: r.inorder
abbrev Tr.size {K V : Type} (T : Tr K V) : Nat := T.inorder.length
theorem Tr.size_node {K V : Type} (l : Tr K V) (k : K) (v : V) (r : Tr K V) : (Tr.node l k v r).inorder.length = l.inorder.length + 1 + r.inorder.length := by simp [Tr.inorder]; omega

/-- An order that is total. -/
structure Lin {K : Type} (lt : K → K → Bool) : Prop where
  irr : ∀ a, lt a a = false
  tri : ∀ a b, lt a b = true ∨ a = b ∨ lt b a = true
  trans : ∀ a b c, lt a b = true → lt b c = true → lt a c = true
theorem Lin.asymm {K : Type} {lt : K → K → Bool} (h : Lin lt) {a b : K} (k : lt a b = true) : lt b a = false := by
  cases e : lt b a with
  | false => rfl
  | true => have := h.trans _ _ _ k e; rw [h.irr] at this; cases this
theorem Lin.ne {K : Type} {lt : K → K → Bool} (h : Lin lt) {a b : K} (k : lt a b = true) : a ≠ b := by
  intro e; subst e; rw [h.irr] at k; cases k

section
variable {K V : Type} (lt : K → K → Bool)
def Srt : List (K × V) → Prop := List.Pairwise fun a b => lt a.1 b.1 = true
def below (k : K) (L : List (K × V)) : List (K × V) := L.filter fun x => lt x.1 k
def above (k : K) (L : List (K × V)) : List (K × V) := L.filter fun x => lt k x.1
def atk (k : K) (L : List (K × V)) : List (K × V) := L.filter fun x => !lt x.1 k && !lt k x.1
def notb (k : K) (L : List (K × V)) : List (K × V) := L.filter fun x => !lt x.1 k
def putL (k : K) (v : V) (L : List (K × V)) : List (K × V) := below lt k L ++ (k, v) :: above lt k L
def dropL (k : K) (L : List (K × V)) : List (K × V) := below lt k L ++ above lt k L
variable {lt}
theorem Srt.left {a b : List (K × V)} (h : Srt lt (a ++ b)) : Srt lt a := (List.pairwise_append.1 h).1
theorem Srt.right {a b : List (K × V)} (h : Srt lt (a ++ b)) : Srt lt b := (List.pairwise_append.1 h).2.1
theorem Srt.tail {x : K × V} {b : List (K × V)} (h : Srt lt (x :: b)) : Srt lt b := (List.pairwise_cons.1 h).2
theorem Srt.filter {a : List (K × V)} (h : Srt lt a) (f : K × V → Bool) : Srt lt (a.filter f) := List.Pairwise.filter f h
theorem fe {α : Type} {f : α → Bool} {l : List α} (h : ∀ x ∈ l, f x = false) : l.filter f = [] := List.filter_eq_nil_iff.2 (fun x hx => by simp [h x hx])
theorem fa {α : Type} {f : α → Bool} {l : List α} (h : ∀ x ∈ l, f x = true) : l.filter f = l := List.filter_eq_self.2 h

/-- What stands around a pair in a list in order. -/
theorem Srt.mid {a b : List (K × V)} {x : K × V} (h : Srt lt (a ++ x :: b)) : (∀ y ∈ a, lt y.1 x.1 = true) ∧ (∀ y ∈ b, lt x.1 y.1 = true) :=
  ⟨fun y hy => (List.pairwise_append.1 h).2.2 y hy x (by simp), fun y hy => (List.pairwise_cons.1 (List.pairwise_append.1 h).2.1).1 y hy⟩

theorem cut_lt (hl : Lin lt) {a b : List (K × V)} {x : K × V} {k : K} (h : Srt lt (a ++ x :: b)) (c : lt k x.1 = true) :
    below lt k (a ++ x :: b) = below lt k a ∧ above lt k (a ++ x :: b) = above lt k a ++ x :: b ∧ atk lt k (a ++ x :: b) = atk lt k a := by
  have m := h.mid.2
  have b1 : ∀ y ∈ b, lt k y.1 = true := fun y hy => hl.trans _ _ _ c (m y hy)
  refine ⟨?_, ?_, ?_⟩
  · simp only [below, List.filter_append, List.filter_cons, hl.asymm c]
    rw [fe (l := b) (fun y hy => hl.asymm (b1 y hy))]; simp
  · simp only [above, List.filter_append, List.filter_cons, c]
    rw [fa (l := b) b1]; simp
  · simp only [atk, List.filter_append, List.filter_cons, c, Bool.not_true, Bool.and_false]
    rw [fe (l := b) (fun y hy => by rw [b1 y hy]; simp)]; simp

theorem cut_gt (hl : Lin lt) {a b : List (K × V)} {x : K × V} {k : K} (h : Srt lt (a ++ x :: b)) (c : lt x.1 k = true) :
    below lt k (a ++ x :: b) = a ++ x :: below lt k b ∧ above lt k (a ++ x :: b) = above lt k b ∧ atk lt k (a ++ x :: b) = atk lt k b := by
  have m := h.mid.1
  have a1 : ∀ y ∈ a, lt y.1 k = true := fun y hy => hl.trans _ _ _ (m y hy) c
  refine ⟨?_, ?_, ?_⟩
  · simp only [below, List.filter_append, List.filter_cons, c]
    rw [fa (l := a) a1]; simp
  · simp only [above, List.filter_append, List.filter_cons, hl.asymm c]
    rw [fe (l := a) (fun y hy => hl.asymm (a1 y hy))]; simp
  · simp only [atk, List.filter_append, List.filter_cons, c, Bool.not_true, Bool.false_and]
    rw [fe (l := a) (fun y hy => by rw [a1 y hy]; simp)]; simp

theorem cut_eq (hl : Lin lt) {a b : List (K × V)} {x : K × V} {k : K} (h : Srt lt (a ++ x :: b)) (c : k = x.1) :
    below lt k (a ++ x :: b) = a ∧ above lt k (a ++ x :: b) = b ∧ atk lt k (a ++ x :: b) = [x] := by
  subst c
  have m := h.mid
  refine ⟨?_, ?_, ?_⟩
  · simp only [below, List.filter_append, List.filter_cons, hl.irr]
    rw [fa (l := a) m.1, fe (l := b) (fun y hy => hl.asymm (m.2 y hy))]; simp
  · simp only [above, List.filter_append, List.filter_cons, hl.irr]
    rw [fa (l := b) m.2, fe (l := a) (fun y hy => hl.asymm (m.1 y hy))]; simp
  · simp only [atk, List.filter_append, List.filter_cons, hl.irr]
    rw [fe (l := a) (fun y hy => by rw [m.1 y hy]; simp), fe (l := b) (fun y hy => by rw [m.2 y hy]; simp)]; simp

theorem srt_parts (hl : Lin lt) {L : List (K × V)} (h : Srt lt L) (k : K) : below lt k L ++ atk lt k L ++ above lt k L = L ∧ (atk lt k L = [] ∨ ∃ v, atk lt k L = [(k, v)]) := by
  induction L with
  | nil => simp [below, above, atk]
  | cons x L ih =>
    have h0 : Srt lt ([] ++ x :: L) := h
    rcases hl.tri k x.1 with c | c | c
    · obtain ⟨e1, e2, e3⟩ := cut_lt hl h0 c
      simp only [List.nil_append] at e1 e2 e3
      rw [e1, e2, e3]
      simp [below, above, atk]
    · obtain ⟨e1, e2, e3⟩ := cut_eq hl h0 c
      simp only [List.nil_append] at e1 e2 e3
      rw [e1, e2, e3]
      obtain ⟨x1, x2⟩ := x
      simp only at c; subst c
      exact ⟨by simp, .inr ⟨x2, rfl⟩⟩
    · obtain ⟨e1, e2, e3⟩ := cut_gt hl h0 c
      simp only [List.nil_append] at e1 e2 e3
      rw [e1, e2, e3]
      obtain ⟨i1, i2⟩ := ih h.tail
      exact ⟨by simp only [List.cons_append, i1], i2⟩
theorem srt_len (hl : Lin lt) {L : List (K × V)} (h : Srt lt L) (k : K) : (below lt k L).length + (above lt k L).length ≤ L.length := by
  have := congrArg List.length (srt_parts hl h k).1
  simp at this; omega
theorem Srt.join (hl : Lin lt) {a b : List (K × V)} {k : K} (ha : Srt lt a) (hb : Srt lt b) (h1 : ∀ x ∈ a, lt x.1 k = true) (h2 : ∀ x ∈ b, lt k x.1 = true) (v : V) : Srt lt (a ++ (k, v) :: b) := by
  refine List.pairwise_append.2 ⟨ha, List.pairwise_cons.2 ⟨fun y hy => h2 y hy, hb⟩, fun x hx y hy => ?_⟩
  rcases List.mem_cons.1 hy with rfl | hy
  · exact h1 x hx
  · exact hl.trans _ _ _ (h1 x hx) (h2 y hy)
theorem Srt.join2 (hl : Lin lt) {a b : List (K × V)} {k : K} (ha : Srt lt a) (hb : Srt lt b) (h1 : ∀ x ∈ a, lt x.1 k = true) (h2 : ∀ x ∈ b, lt k x.1 = true) : Srt lt (a ++ b) := by
  refine List.pairwise_append.2 ⟨ha, hb, fun x hx y hy => hl.trans _ _ _ (h1 x hx) (h2 y hy)⟩
theorem mem_below {k : K} {L : List (K × V)} : ∀ x ∈ below lt k L, lt x.1 k = true := fun x hx => (List.mem_filter.1 hx).2
theorem mem_above {k : K} {L : List (K × V)} : ∀ x ∈ above lt k L, lt k x.1 = true := fun x hx => (List.mem_filter.1 hx).2
theorem put_srt (hl : Lin lt) {L : List (K × V)} (h : Srt lt L) (k : K) (v : V) : Srt lt (putL lt k v L) := Srt.join hl (h.filter _) (h.filter _) mem_below mem_above v
theorem drop_srt (hl : Lin lt) {L : List (K × V)} (h : Srt lt L) (k : K) : Srt lt (dropL lt k L) := Srt.join2 (k := k) hl (h.filter _) (h.filter _) mem_below mem_above
theorem put_len (hl : Lin lt) {L : List (K × V)} (h : Srt lt L) (k : K) (v : V) : (putL lt k v L).length ≤ L.length + 1 := by
  have := srt_len hl h k
  simp [putL]; omega
theorem drop_len (hl : Lin lt) {L : List (K × V)} (h : Srt lt L) (k : K) : (dropL lt k L).length ≤ L.length := by
  have := srt_len hl h k
  simp [dropL]; omega
end
end Go.Proofs.Ytfgohbhacldlmaa
