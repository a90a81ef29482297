/- Trees of maps in order in memory: how keys compare; size, weight, join. -/
import Derived.Test.YtfgohbhacldlmaaL0
import Derived.Test.YtfgohbhacldlmaaM0
import Derived.Test.YtfgohbhacldlmaaChecked

namespace Go.Proofs.Ytfgohbhacldlmaa
set_option linter.unusedSimpArgs false
open Go.RowKit
set_option linter.unusedVariables false

def ltS (a b : ByteArray) : Bool := Op.bytesLess a.toList b.toList
theorem linS : Lin ltS := ⟨fun a => bl_irr _, fun a b => by
  rcases bl_tri a.toList b.toList with h | h | h
  · exact .inl h
  · exact .inr (.inl (bytes_inj h))
  · exact .inr (.inr h), fun a b c h k => bl_trans _ _ _ h k⟩
def ltI (a b : Int) : Bool := decide (a < b)
theorem linI : Lin ltI := ⟨fun a => by simp [ltI], fun a b => by simp [ltI]; omega, fun a b c h k => by simp [ltI] at *; omega⟩
/-- The heap holds the tree T at p: a node's five cells: key, value, how many, left, right. -/
def IsT (W : World) : Option Addr → Tr ByteArray Int → Prop
  | p, .leaf => p = none
  | p, .node l k v r => ∃ (b : Nat) (pl pr : Option Addr), p = some ⟨b, 0, none⟩ ∧ W.cell? ⟨b, 0, none⟩ = some (.string k) ∧ W.cell? ⟨b, 1, none⟩ = some (.int .i64 v) ∧ W.cell? ⟨b, 2, none⟩ = some (.int .i64 ((Tr.node l k v r).inorder.length : Int)) ∧ W.cell? ⟨b, 3, none⟩ = some (.pointer pl) ∧ W.cell? ⟨b, 4, none⟩ = some (.pointer pr) ∧ IsT W pl l ∧ IsT W pr r
theorem IsT.later {A B : World} (h : Below A.heap.size A B) : ∀ {p : Option Addr} {T : Tr ByteArray Int}, IsT A p T → IsT B p T
  | _, .leaf, ht => ht
  | _, .node _ _ _ _, ⟨b, pl, pr, hp, h0, h1, h2, h3, h4, hl, hr⟩ => ⟨b, pl, pr, hp, bel_later h h0, bel_later h h1, bel_later h h2, bel_later h h3, bel_later h h4, IsT.later h hl, IsT.later h hr⟩
theorem IsT.grown {A B : World} {m : Nat} (h : A.grownBy B (some m)) (h2 : A.cell? ⟨m, 2, none⟩ = none) : ∀ {p : Option Addr} {T : Tr ByteArray Int}, IsT A p T → IsT B p T
  | _, .leaf, ht => ht
  | _, .node _ _ _ _, ⟨b, pl, pr, hp, c0, c1, c2, c3, c4, hl, hr⟩ => by
    have hne : some m ≠ some b := by intro e; cases e; rw [h2] at c2; cases c2
    have hlt := World.block_lt_of_cell? A _ c0
    exact ⟨b, pl, pr, hp, (grown_far h hlt hne).trans c0, (grown_far h hlt hne).trans c1, (grown_far h hlt hne).trans c2, (grown_far h hlt hne).trans c3, (grown_far h hlt hne).trans c4, IsT.grown h h2 hl, IsT.grown h h2 hr⟩
theorem IsT.mk {W : World} {b : Nat} {pl pr : Option Addr} {l r : Tr ByteArray Int} {k : ByteArray} {v : Int} {m : Int} (h0 : W.cell? ⟨b, 0, none⟩ = some (.string k)) (h1 : W.cell? ⟨b, 1, none⟩ = some (.int .i64 v)) (h2 : W.cell? ⟨b, 2, none⟩ = some (.int .i64 m)) (h3 : W.cell? ⟨b, 3, none⟩ = some (.pointer pl)) (h4 : W.cell? ⟨b, 4, none⟩ = some (.pointer pr)) (hl : IsT W pl l) (hr : IsT W pr r) (hm : m = (Tr.node l k v r).inorder.length) : IsT W (some ⟨b, 0, none⟩) (.node l k v r) :=
  ⟨b, pl, pr, rfl, h0, h1, by rw [h2, hm], h3, h4, hl, hr⟩

set_option maxHeartbeats 1000000 in
theorem nan_any (a : ByteArray) (w : World) : Calls Try.prog 48 #[.string a] w fun e w' => e = .returned (.bool false) ∧ w = w' := by
  go_enter Try.func48, Try.ntmps48
  go_wp2
  exact bodyPost_ret (v := .bool false) (by simp [results, Try.results48, go_sem]) rfl ⟨rfl, rfl⟩
def cmpF (a b : ByteArray) : Int := if ltS a b = true then -1 else if ltS b a = true then 1 else 0
set_option maxHeartbeats 1000000 in
theorem cmp_any (a b : ByteArray) (w : World) : Calls Try.prog 38 #[.string a, .string b] w fun e w' => e = .returned (.int .i64 (cmpF a b)) ∧ w = w' := by
  go_enter Try.func38, Try.ntmps38
  have N1 := Lib.hid (fun W => nan_any a W)
  have N2 := Lib.hid (fun W => nan_any b W)
  rcases linS.tri a b with h | h | h
  · have e : cmpF a b = -1 := by simp [cmpF, h]
    rw [e]
    have h1 : Op.bytesLess a.toList b.toList = true := h
    clear h e
    go_wp2_with (first
      | (go_at_call 48; refine (N1.out _).mono ?_; clear N1; rintro e w1 ⟨rfl, rfl⟩)
      | (go_at_call 48; refine (N2.out _).mono ?_; clear N2; rintro e w1 ⟨rfl, rfl⟩))
    exact bodyPost_ret (v := .int .i64 (-1)) (by simp [results, Try.results38, go_sem]) rfl ⟨rfl, rfl⟩
  · subst h
    have e : cmpF a a = 0 := by simp [cmpF, linS.irr]
    rw [e]
    have h1 : Op.bytesLess a.toList a.toList = false := bl_irr _
    clear e
    go_wp2_with (first
      | (go_at_call 48; refine (N1.out _).mono ?_; clear N1; rintro e w1 ⟨rfl, rfl⟩)
      | (go_at_call 48; refine (N2.out _).mono ?_; clear N2; rintro e w1 ⟨rfl, rfl⟩))
    exact bodyPost_ret (v := .int .i64 0) (by simp [results, Try.results38, go_sem]) rfl ⟨rfl, rfl⟩
  · have e : cmpF a b = 1 := by simp [cmpF, h, linS.asymm h]
    rw [e]
    have h0 : Op.bytesLess b.toList a.toList = true := h
    have h1 : Op.bytesLess a.toList b.toList = false := linS.asymm h
    have h2 : (a.toList == b.toList) = false := bytes_ne (fun e => linS.ne h e.symm)
    clear h e
    go_wp2_with (first
      | (go_at_call 48; refine (N1.out _).mono ?_; clear N1; rintro e w1 ⟨rfl, rfl⟩)
      | (go_at_call 48; refine (N2.out _).mono ?_; clear N2; rintro e w1 ⟨rfl, rfl⟩))
    exact bodyPost_ret (v := .int .i64 1) (by simp [results, Try.results38, go_sem]) rfl ⟨rfl, rfl⟩
set_option maxHeartbeats 1000000 in
theorem size_any (p : Option Addr) (T : Tr ByteArray Int) (w : World) (h : IsT w p T) : Calls Try.prog 36 #[.pointer p] w fun e w' => e = .returned (.int .i64 (T.inorder.length : Int)) ∧ w = w' := by
  go_enter Try.func36, Try.ntmps36
  cases T with
  | leaf =>
    obtain rfl : p = none := h
    go_wp2
    exact bodyPost_ret (v := .int .i64 0) (by simp [results, Try.results36, go_sem]) rfl ⟨rfl, rfl⟩
  | node l k v r =>
    obtain ⟨b, pl, pr, rfl, h0, h1, h2, h3, h4, hl, hr⟩ := h
    clear hl hr
    go_wp2
    exact bodyPost_ret (v := .int .i64 _) (by simp [results, Try.results36, go_sem]; try rfl) rfl ⟨rfl, rfl⟩
set_option maxHeartbeats 1000000 in
theorem weight_any (p : Option Addr) (T : Tr ByteArray Int) (w : World) (h : IsT w p T) (hn : T.inorder.length ≤ 1000000) : Calls Try.prog 57 #[.pointer p] w fun e w' => e = .returned (.int .i64 ((T.inorder.length : Int) + 1)) ∧ w = w' := by
  have C := Lib.hid (size_any p T w h)
  clear h
  have h9 : (T.inorder.length : Int) ≤ 1000000 := by omega
  have h0 : (0 : Int) ≤ (T.inorder.length : Int) := by omega
  go_enter Try.func57, Try.ntmps57
  go_wp2_with (go_at_call 36; refine C.out.mono ?_; rintro e w1 ⟨rfl, rfl⟩)
  exact bodyPost_ret (v := .int .i64 _) (by simp [results, Try.results57, go_sem]; try rfl) rfl ⟨rfl, rfl⟩
/-- What makes a tree of two: the answer is a tree of these pairs; what lay, lies. -/
abbrev MkPost (w : World) (L : List (ByteArray × Int)) (e : Ending) (w' : World) : Prop := ∃ q T, e = .returned (.pointer q) ∧ IsT w' q T ∧ T.inorder = L ∧ Below w.heap.size w w'
set_option maxHeartbeats 1000000 in
theorem join_any (pl pr : Option Addr) (l r : Tr ByteArray Int) (k : ByteArray) (v : Int) (w : World) (hl : IsT w pl l) (hr : IsT w pr r) (hn : l.inorder.length + r.inorder.length ≤ 10000) :
    Calls Try.prog 59 #[.pointer pl, .string k, .int .i64 v, .pointer pr] w fun e w' => (∃ q, e = .returned (.pointer q) ∧ IsT w' q (.node l k v r)) ∧ Below w.heap.size w w' := by
  have HL := Lib.hid hl
  have HR := Lib.hid hr
  have C1 := Lib.hid (fun W h => size_any pl l W h)
  have C2 := Lib.hid (fun W h => size_any pr r W h)
  clear hl hr
  have i1 : (l.inorder.length : Int) + (r.inorder.length : Int) ≤ 10000 := by omega
  have i2 : (0 : Int) ≤ (l.inorder.length : Int) := by omega
  have i3 : (0 : Int) ≤ (r.inorder.length : Int) := by omega
  go_enter Try.func59, Try.ntmps59
  go_wp2_with (first
    | (go_at_call 36; refine (C1.out _ HL.out).mono ?_; clear C1; rintro e w1 ⟨rfl, rfl⟩)
    | (go_at_call 36; refine (C2.out _ HR.out).mono ?_; clear C2; rintro e w1 ⟨rfl, rfl⟩))
  have hb : Below w.heap.size w (w.alloc (.cells #[.string k, .int .i64 v, .int .i64 ((l.inorder.length : Int) + 1 + (r.inorder.length : Int)), .pointer pl, .pointer pr] 73)) := bel_alloc (Below.refl _ _) _
  refine bodyPost_ret (v := .pointer (some ⟨w.heap.size, 0, none⟩)) (by simp [results, Try.results59, go_sem]) rfl ⟨⟨_, rfl, IsT.mk (m := (l.inorder.length : Int) + 1 + (r.inorder.length : Int)) (by simp [go_sem]) (by simp [go_sem]) (by simp [go_sem]) (by simp [go_sem]) (by simp [go_sem]) (HL.out.later hb) (HR.out.later hb) ?_⟩, hb⟩
  rw [Tr.size_node]; omega
end Go.Proofs.Ytfgohbhacldlmaa
