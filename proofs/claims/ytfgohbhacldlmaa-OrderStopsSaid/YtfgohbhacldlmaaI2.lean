/- All nodes of a tree, one after another: the walk, by induction on the tree. -/
import Derived.Test.YtfgohbhacldlmaaI1
import Derived.Test.YtfgohbhacldlmaaT7

namespace Go.Proofs.Ytfgohbhacldlmaa
set_option linter.unusedSimpArgs false
open Go.RowKit Go.Shelf
set_option linter.unusedVariables false
attribute [local go_sem] Oper.semAt_some

/-- What lay in w0, but for X, lies in W. -/
def Lies (w0 : World) (X : Nat → Prop) (W : World) : Prop := w0.heap.size ≤ W.heap.size ∧ ∀ k, k < w0.heap.size → ¬ X k → W.heap[k]? = w0.heap[k]?
theorem Lies.ka {w0 : World} {X Y : Nat → Prop} {W W' : World} (h : Lies w0 X W) (k : KA w0.heap.size Y W W') (hXY : ∀ k, k < w0.heap.size → Y k → X k) : Lies w0 X W' :=
  ⟨Nat.le_trans h.1 k.1, fun i hi hx => by
    have h1 := h.2 i hi hx
    rw [Array.getElem?_eq_getElem hi] at h1 ⊢
    exact k.2 i _ h1 (.inl hi) (fun e => hx (hXY i hi e))⟩
theorem Lies.of_below {w0 : World} {X : Nat → Prop} {W : World} (h : Below w0.heap.size w0 W) : Lies w0 X W := ⟨h.size, fun k hk _ => h.block k hk⟩
theorem Lies.below {w0 : World} {X : Nat → Prop} {W W' : World} (h : Lies w0 X W) (hb : Below W.heap.size W W') : Lies w0 X W' := ⟨Nat.le_trans h.1 hb.size, fun k hk hx => (hb.block k (Nat.lt_of_lt_of_le hk h.1)).trans (h.2 k hk hx)⟩
theorem Lies.cell {w0 : World} {X : Nat → Prop} {W : World} (h : Lies w0 X W) {b o : Nat} {v : Value} (hx : ¬ X b) (hc : w0.cell? ⟨b, o, none⟩ = some v) : W.cell? ⟨b, o, none⟩ = some v :=
  (World.cell?_of_block (h.2 b (World.block_lt_of_cell? w0 _ hc) hx)).trans hc
/-- A node that lies apart from X. -/
def NdAt (W : World) (x : Nat × ByteArray × Int) : Prop := W.cell? ⟨x.1, 0, none⟩ = some (.string x.2.1) ∧ W.cell? ⟨x.1, 1, none⟩ = some (.int .i64 x.2.2) ∧ W.cell? ⟨x.1, 2, none⟩ ≠ none
abbrev NdS (W : World) : Type := { x : Nat × ByteArray × Int // NdAt W x }
/-- The nodes of a tree in their order. -/
def Nds (W : World) : Option Addr → Tr ByteArray Int → List (NdS W) → Prop
  | p, .leaf, ns => p = none ∧ ns = []
  | p, .node l k v r, ns => ∃ (x : NdS W) (pl pr : Option Addr) (nl nr : List (NdS W)), p = some ⟨x.1.1, 0, none⟩ ∧ x.1.2 = (k, v) ∧ W.cell? ⟨x.1.1, 3, none⟩ = some (.pointer pl) ∧ W.cell? ⟨x.1.1, 4, none⟩ = some (.pointer pr) ∧ Nds W pl l nl ∧ Nds W pr r nr ∧ ns = nl ++ x :: nr
theorem IsT.nds {W : World} : ∀ {p : Option Addr} {T : Tr ByteArray Int}, IsT W p T → ∃ ns, Nds W p T ns
  | _, .leaf, h => ⟨[], h, rfl⟩
  | _, .node _ k v _, ⟨b, pl, pr, hp, h0, h1, h2, h3, h4, hl, hr⟩ => by
    obtain ⟨nl, h5⟩ := IsT.nds hl
    obtain ⟨nr, h6⟩ := IsT.nds hr
    exact ⟨_, ⟨(b, k, v), h0, h1, by rw [h2]; simp⟩, pl, pr, nl, nr, hp, rfl, h3, h4, h5, h6, rfl⟩
abbrev prs {W : World} (ns : List (NdS W)) : List (ByteArray × Int) := ns.map fun x => x.1.2
theorem Nds.pairs {W : World} : ∀ {p : Option Addr} {T : Tr ByteArray Int} {ns : List (NdS W)}, Nds W p T ns → prs ns = T.inorder
  | _, .leaf, _, ⟨_, h⟩ => by rw [h]; rfl
  | _, .node _ _ _ _, _, ⟨x, pl, pr, nl, nr, hp, hx, h3, h4, hl, hr, e⟩ => by
    have h1 := Nds.pairs hl
    have h2 := Nds.pairs hr
    simp only [prs] at h1 h2
    rw [e]; simp [prs, Tr.inorder, h1, h2, hx]
theorem room_of_none {F : Fence} (hd : F.depth = none) (k : Nat) : F.room k := fun d h => by rw [hd] at h; cases h
abbrev encN {W : World} (x : NdS W) : Array Value := #[.pointer (some ⟨x.1.1, 0, none⟩)]

set_option maxRecDepth 100000 in
set_option maxHeartbeats 2000000 in
theorem walkT_in (l : Nat) (w0 : World) (X Y : Nat → Prop) (hXY : ∀ k, k < w0.heap.size → Y k → X k) (hX : ∀ k, X k → w0.cell? ⟨k, 2, none⟩ = none) (N : Nat) (J Jx : List (NdS w0) → World → Prop)
    (hY : ∀ m pre x W, J pre W → pre.length < N → YieldAt Fence.wide m Try.prog l (encN x) W fun e W' =>
      (e = .returned (.bool true) ∧ J (pre ++ [x]) W' ∧ KA w0.heap.size Y W W') ∨ (e = .returned (.bool false) ∧ Jx (pre ++ [x]) W' ∧ KA w0.heap.size Y W W')) (T : Tr ByteArray Int) :
    ∀ (n : Nat) (p : Option Addr) (ns pre : List (NdS w0)) (W : World), Nds w0 p T ns → Lies w0 X W → J pre W → pre.length + ns.length ≤ N →
      CallsIn Fence.wide n Try.prog 62 #[.pointer p, .func (.yield l) #[] #[]] W fun e W' =>
        (e = .returned (.bool true) ∧ J (pre ++ ns) W' ∧ Lies w0 X W') ∨ (e = .returned (.bool false) ∧ ∃ q, q <+: ns ∧ Jx (pre ++ q) W') := by
  induction T with
  | leaf =>
    intro n p ns pre W ht hW hJ _
    obtain ⟨rfl, rfl⟩ := ht
    refine callsIn_wide.2 ?_
    go_enter Try.func62, Try.ntmps62
    go_wp2
    exact bodyPost_ret (v := .bool true) (by simp [results, Try.results62, go_sem]) rfl (.inl ⟨rfl, by simpa using hJ, hW⟩)
  | node tl k v tr ihl ihr =>
    intro n p ns pre W ht hW hJ hN
    obtain ⟨x, pl, pr, nl, nr, rfl, hx, h3, h4, hl, hr, rfl⟩ := ht
    obtain ⟨b, hxe⟩ : ∃ b, b = x.1.1 := ⟨_, rfl⟩
    have hxb : ¬ X b := fun h => x.2.2.2 (by rw [← hxe]; exact hX b h)
    have hen : encN x = #[.pointer (some ⟨b, 0, none⟩)] := by rw [hxe]
    rw [← hxe] at h3 h4 ⊢
    have c3 := hW.cell hxb h3
    have hdd : ∀ k : Nat, (Fence.wide.depth.isSome = true → 1 ≤ k) := fun k h => by cases h
    simp only [List.length_append, List.length_cons] at hN
    have hy2 : ∀ W1, J (pre ++ nl) W1 → Lies w0 X W1 → YieldAt Fence.wide (n - 1) Try.prog l #[.pointer (some ⟨b, 0, none⟩)] W1 fun e W2 =>
        (e = .returned (.bool true) ∧ J (pre ++ nl ++ [x]) W2 ∧ Lies w0 X W2 ∧ W2.cell? ⟨b, 4, none⟩ = some (.pointer pr)) ∨ (e = .returned (.bool false) ∧ Jx (pre ++ nl ++ [x]) W2) := fun W1 hJ1 hb1 =>
      YieldAt.mono (hen ▸ hY (n - 1) _ x W1 hJ1 (by simp; omega)) fun e W2 h => h.elim
        (fun ⟨he, hj, hb2⟩ => .inl ⟨he, hj, hb1.ka hb2 hXY, (hb1.ka hb2 hXY).cell hxb h4⟩) (fun h => .inr ⟨h.1, h.2.1⟩)
    have ih1 := (ihl (n - 1) pl nl pre W hl hW hJ (by omega)).mono (R' := fun e W1 =>
        (e = .returned (.bool true) ∧ YieldAt Fence.wide (n - 1) Try.prog l #[.pointer (some ⟨b, 0, none⟩)] W1 fun e W2 =>
          (e = .returned (.bool true) ∧ J (pre ++ nl ++ [x]) W2 ∧ Lies w0 X W2 ∧ W2.cell? ⟨b, 4, none⟩ = some (.pointer pr)) ∨ (e = .returned (.bool false) ∧ Jx (pre ++ nl ++ [x]) W2)) ∨
        (e = .returned (.bool false) ∧ ∃ q, q <+: nl ∧ Jx (pre ++ q) W1))
      (fun e W1 h => h.elim (fun ⟨he, hj, hb1⟩ => .inl ⟨he, hy2 W1 hj hb1⟩) .inr)
    clear hy2 ihl
    clear hen hxe h3
    refine callsIn_of_wp Try.func62 rfl trivial ?_ rfl
    simp only [Try.ntmps62, List.size_toArray, List.length_cons, List.length_nil, Nat.reduceAdd, Nat.reduceSub, Array.replicate_succ, Array.replicate_zero, List.push_toArray, List.append_toArray, List.nil_append, List.cons_append]
    gi_wp2_with (first
      | ((try refine ⟨trivial, ?_⟩); (try refine ⟨hdd _, ?_⟩); gi_at_call 62; refine ih1.mono ?_; clear ih1; rintro e W1 (⟨rfl, fn, tmps, assign, body, hy, hR⟩ | ⟨rfl, q, hq, hx1⟩))
      | ((try refine ⟨trivial, ?_⟩); (try refine ⟨hdd _, ?_⟩); refine hR.mono ?_; clear hR; rintro e W2 (⟨rfl, hJ2, hb2, c4⟩ | ⟨rfl, hx2⟩))
      | ((try refine ⟨trivial, ?_⟩); (try refine ⟨hdd _, ?_⟩); gi_at_call 62; refine (ihr (n - 1) pr nr _ _ hr hb2 hJ2 (by simp; omega)).mono ?_; rintro e W3 (⟨rfl, hJ3, hb3⟩ | ⟨rfl, q, hq, hx3⟩)))
    · go_ret
      exact .inl ⟨rfl, by simpa [List.append_assoc] using hJ3, hb3⟩
    · go_ret
      obtain ⟨r, hr'⟩ := hq
      exact .inr ⟨rfl, nl ++ x :: q, ⟨r, by simp [← hr']⟩, by simpa [List.append_assoc] using hx3⟩
    · repeat ((first | refine ⟨trivial, ?_⟩ | refine ⟨fun _ h => (by cases h), ?_⟩); gi_wp2)
      go_ret
      exact .inr ⟨rfl, nl ++ [x], ⟨nr, by simp⟩, by simpa [List.append_assoc] using hx2⟩
    · repeat ((first | refine ⟨trivial, ?_⟩ | refine ⟨fun _ h => (by cases h), ?_⟩); gi_wp2)
      go_ret
      exact .inr ⟨rfl, q, hq.trans (by simp), hx1⟩
/-- **'func(yield ..) { n.walk(yield) }'**: all nodes of the tree, in their order. -/
theorem nodes1_stops (w0 w : World) (X Y : Nat → Prop) (hXY : ∀ k, k < w0.heap.size → Y k → X k) (hX : ∀ k, X k → w0.cell? ⟨k, 2, none⟩ = none) (Bn : Nat) (p : Option Addr) (T : Tr ByteArray Int) (ns : List (NdS w0)) (hn : Nds w0 p T ns) (hl : Lies w0 X w) (hc : w.cell? ⟨Bn, 0, none⟩ = some (.pointer p)) :
    SeqL Try.prog 61 #[.pointer (some ⟨Bn, 0, none⟩)] encN (fun ys => ys = ns) (fun pre => pre <+: ns) ns.length w0.heap.size Y w := by
  intro l J Jx W hb hl1 hl2 hr hJ hJx hY h0
  have hcW : W.cell? ⟨Bn, 0, none⟩ = some (.pointer p) := bel_later hb hc
  have C := walkT_in l w0 X (andl Y l) (fun k hk h => h.elim (hXY k hk) (fun e => by omega)) hX ns.length J Jx hY T 0 p ns [] W hn (hl.below hb) h0 (by simp)
  refine callsIn_wide (n := 1).1 ?_
  refine callsIn_of_wp Try.func61 rfl trivial ?_ rfl
  simp only [Try.ntmps61, List.size_toArray, List.length_cons, List.length_nil, Nat.reduceAdd, Nat.reduceSub, Array.replicate_succ, Array.replicate_zero, List.push_toArray, List.append_toArray, List.nil_append, List.cons_append]
  gi_wp2_with ((try refine ⟨trivial, ?_⟩); (try refine ⟨fun h => (by cases h), ?_⟩); gi_at_call 62; refine C.mono ?_; clear C; rintro e W1 (⟨rfl, hJ1, _⟩ | ⟨rfl, q, hq, hx⟩))
  · go_end0
    exact ⟨⟨_, rfl⟩, .inl ⟨_, rfl, by simpa using hJ1⟩⟩
  · go_end0
    exact ⟨⟨_, rfl⟩, .inr ⟨q, hq, by simpa using hx⟩⟩
set_option maxHeartbeats 1000000 in
/-- **n.nodes()**: the node is boxed; the function value captures the box. -/
theorem nodes_any (p : Option Addr) (w : World) :
    Calls Try.prog 50 #[.pointer p] w fun e w' => e = .returned (.func (.func 61) #[] #[.pointer (some ⟨w.heap.size, 0, none⟩)]) ∧ w' = w.alloc (.cells #[.pointer p] 63) := by
  go_enter Try.func50, Try.ntmps50
  go_wp2
  exact bodyPost_ret (v := .func (.func 61) #[] #[.pointer (some ⟨w.heap.size, 0, none⟩)]) (by simp [results, Try.results50, go_sem]) rfl ⟨rfl, rfl⟩
end Go.Proofs.Ytfgohbhacldlmaa
