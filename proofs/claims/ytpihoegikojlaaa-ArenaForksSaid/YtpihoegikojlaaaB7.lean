/- Arenas: what a Take, a Give, a Set makes of them; the document's calls. -/
import Derived.Test.YtpihoegikojlaaaB6
import Derived.Test.YtpihoegikojlaaaP1
namespace Go.Proofs.Ytpihoegikojlaaa
set_option linter.unusedSimpArgs false
open Go.RowKit Go.Maps
set_option linter.unusedVariables false
variable {F : Nat → Prop}

def upd (tk : Nat → Bool) (k : Nat) (f : Bool) : Nat → Bool := fun i => if i = k then f else tk i
theorem cnt_ge (tk : Nat → Bool) (k : Nat) (f : Bool) (n : Nat) (h : n ≤ k) : cnt (upd tk k f) n = cnt tk n := by
  induction n with
  | zero => rfl
  | succ n ih =>
    have e : upd tk k f n = tk n := by unfold upd; rw [if_neg (by omega)]
    unfold cnt
    rw [e, ih (by omega)]
theorem cnt_upd (tk : Nat → Bool) (k : Nat) (f : Bool) (n : Nat) (h : k < n) : cnt (upd tk k f) n + (if tk k = true then 1 else 0) = cnt tk n + (if f = true then 1 else 0) := by
  induction n with
  | zero => omega
  | succ n ih =>
    by_cases c : k = n
    · subst c
      have e : upd tk k f k = f := by unfold upd; rw [if_pos rfl]
      have g := cnt_ge tk k f k (Nat.le_refl _)
      unfold cnt
      rw [e, g]
      cases f <;> cases tk k <;> simp
    · have e : upd tk k f n = tk n := by unfold upd; rw [if_neg (by omega)]
      have i := ih (by omega)
      unfold cnt
      rw [e]
      cases tk n <;> simp <;> omega
theorem tkS_tk (b : AB) (k : Nat) (f : Bool) : (tkS b k f).tk = upd b.tk k f := rfl
def full (b : AB) : Prop := b.most ≤ (cnt b.tk 64 : Int)
instance (b : AB) : Decidable (full b) := inferInstanceAs (Decidable (_ ≤ _))
def takeA (b : AB) (v : Int) : AB :=
  if full b then b else match b.bk.getLast? with
    | none => vlS (tkS (topS b (b.top + 1)) (b.top + 1) true) (b.top + 1) v
    | some x => vlS (tkS (bkS b b.bk.dropLast) x.toNat true) x.toNat v
def takeI (b : AB) : Int := if full b then 0 else match b.bk.getLast? with
    | none => (b.top : Int) + 1
    | some x => x
def takeE (b : AB) : Int := if full b then 9 else 0
def giveA (b : AB) (i : Int) : AB := if thereD b i = true then bkS (vlS (tkS b i.toNat false) i.toNat 0) (b.bk ++ [i]) else b
def setA (b : AB) (i v : Int) : AB := if thereD b i = true then vlS b i.toNat v else b
def thereE (b : AB) (i : Int) : Int := if thereD b i = true then 0 else 14
/-- The three ways of a Take. -/
theorem take_ways {b : AB} (iv : IV b) (v : Int) : (full b ∧ takeA b v = b ∧ takeI b = 0 ∧ takeE b = 9) ∨
    (¬ full b ∧ b.bk = [] ∧ b.top < 60 ∧ takeA b v = vlS (tkS (topS b (b.top + 1)) (b.top + 1) true) (b.top + 1) v ∧ takeI b = (b.top : Int) + 1 ∧ takeE b = 0) ∨
    (¬ full b ∧ ∃ (l : List Int) (i : Nat), b.bk = l ++ [(i : Int) + 1] ∧ i < b.top ∧ b.tk (i + 1) = false ∧ ((i : Int) + 1) ∉ l ∧ takeA b v = vlS (tkS (bkS b l) (i + 1) true) (i + 1) v ∧ takeI b = (i : Int) + 1 ∧ takeE b = 0) := by
  by_cases hf : full b
  · exact .inl ⟨hf, by simp [takeA, hf], by simp [takeI, hf], by simp [takeE, hf]⟩
  · right
    rcases List.eq_nil_or_concat b.bk with h | ⟨l, x, h⟩
    · left
      have hc := iv.cn
      have h1 := iv.m1
      rw [h] at hc
      have hc : cnt b.tk 64 = b.top := hc
      refine ⟨hf, h, ?_, by simp [takeA, hf, h], by simp [takeI, hf, h], by simp [takeE, hf]⟩
      unfold full at hf; omega
    · right
      have h : b.bk = l ++ [x] := by rw [h, List.concat_eq_append]
      obtain ⟨k, hk, h1, h2, h3⟩ := iv.bk x (by rw [h]; simp)
      obtain ⟨i, rfl⟩ : ∃ i, k = i + 1 := ⟨k - 1, by omega⟩
      have hx : x = (i : Int) + 1 := by omega
      subst hx
      have e : ((i : Int) + 1).toNat = i + 1 := by omega
      have hnd := iv.nd
      rw [h, List.nodup_append] at hnd
      refine ⟨hf, l, i, h, by omega, h3, fun hm => hnd.2.2 _ hm _ (by simp) rfl, ?_, ?_, by simp [takeE, hf]⟩
      · simp [takeA, hf, h, e]
      · simp [takeI, hf, h]
theorem IV.vl {b : AB} (h : IV b) (k : Nat) (v : Int) : IV (vlS b k v) := ⟨h.m0, h.m1, h.tp, h.bk, h.nd, h.cn, h.out⟩
theorem IV.take {b : AB} (h : IV b) (v : Int) : IV (takeA b v) := by
  have ht := h.top60
  rcases take_ways h v with ⟨_, e, _⟩ | ⟨hf, hb, ht2, e, _⟩ | ⟨hf, l, i, hb, hi, hk, hm, e, _⟩
  · rw [e]; exact h
  · rw [e]
    have hc := h.cn
    rw [hb] at hc
    have hc : cnt b.tk 64 = b.top := hc
    have h0 : b.tk (b.top + 1) = false := by
      rcases hq : b.tk (b.top + 1) with _ | _
      · rfl
      · have := (h.out _ hq).2; omega
    have hu := cnt_upd b.tk (b.top + 1) true 64 (by omega)
    rw [h0] at hu
    have hu : cnt (upd b.tk (b.top + 1) true) 64 = cnt b.tk 64 + 1 := by simpa using hu
    have hf2 : ¬ b.most ≤ (cnt b.tk 64 : Int) := hf
    refine IV.vl (b := tkS (topS b (b.top + 1)) (b.top + 1) true) ⟨h.m0, h.m1, ?_, ?_, ?_, ?_, ?_⟩ _ _
    · show (((b.top + 1 : Nat)) : Int) ≤ b.most; omega
    · intro x hx
      have hx : x ∈ b.bk := hx
      rw [hb] at hx; simp at hx
    · exact h.nd
    · show cnt (upd b.tk (b.top + 1) true) 64 + b.bk.length = b.top + 1; rw [hu, hb]; simp; exact hc
    · intro k hk
      have hk : upd b.tk (b.top + 1) true k = true := hk
      unfold upd at hk
      show 1 ≤ k ∧ k ≤ b.top + 1
      by_cases c : k = b.top + 1
      · omega
      · rw [if_neg c] at hk; have := h.out k hk; omega
  · rw [e]
    have hc := h.cn
    rw [hb] at hc
    have hu := cnt_upd b.tk (i + 1) true 64 (by omega)
    rw [hk] at hu
    have hu : cnt (upd b.tk (i + 1) true) 64 = cnt b.tk 64 + 1 := by simpa using hu
    have hnd := h.nd
    rw [hb, List.nodup_append] at hnd
    refine IV.vl (b := tkS (bkS b l) (i + 1) true) ⟨h.m0, h.m1, h.tp, ?_, hnd.1, ?_, ?_⟩ _ _
    · intro x hx
      have hx : x ∈ l := hx
      obtain ⟨k, e1, e2, e3, e4⟩ := h.bk x (by rw [hb]; simp [hx])
      refine ⟨k, e1, e2, e3, ?_⟩
      show upd b.tk (i + 1) true k = false
      unfold upd
      rw [if_neg (fun e => hm (by subst e; have : x = (i : Int) + 1 := by omega
                                  rw [← this]; exact hx))]
      exact e4
    · show cnt (upd b.tk (i + 1) true) 64 + l.length = b.top; rw [hu]; simp at hc; omega
    · intro k hk2
      have hk2 : upd b.tk (i + 1) true k = true := hk2
      unfold upd at hk2
      show 1 ≤ k ∧ k ≤ b.top
      by_cases c : k = i + 1
      · omega
      · rw [if_neg c] at hk2; exact h.out k hk2
theorem IV.give {b : AB} (h : IV b) (i : Int) : IV (giveA b i) := by
  unfold giveA
  split
  · rename_i ht
    obtain ⟨h1, h2, h3⟩ := there_in ht
    obtain ⟨h4, h5⟩ := h.out _ h3
    have hu := cnt_upd b.tk i.toNat false 64 (by omega)
    rw [h3] at hu
    have hu : cnt (upd b.tk i.toNat false) 64 + 1 = cnt b.tk 64 := by simpa using hu
    have hc := h.cn
    refine ⟨h.m0, h.m1, h.tp, ?_, ?_, ?_, ?_⟩
    · intro x hx
      have hx : x ∈ b.bk ++ [i] := hx
      rcases List.mem_append.1 hx with hx | hx
      · obtain ⟨k, e1, e2, e3, e4⟩ := h.bk x hx
        refine ⟨k, e1, e2, e3, ?_⟩
        show upd b.tk i.toNat false k = false
        unfold upd; split
        · rfl
        · exact e4
      · simp at hx; subst hx
        refine ⟨x.toNat, by omega, h4, h5, ?_⟩
        show upd b.tk x.toNat false x.toNat = false
        unfold upd; rw [if_pos rfl]
    · show (b.bk ++ [i]).Nodup
      rw [List.nodup_append]
      refine ⟨h.nd, by simp, fun x hx y hy e => ?_⟩
      simp at hy; subst hy; subst e
      obtain ⟨k, e1, e2, e3, e4⟩ := h.bk x hx
      have : x.toNat = k := by omega
      rw [this, e4] at h3; cases h3
    · show cnt (upd b.tk i.toNat false) 64 + (b.bk ++ [i]).length = b.top
      simp; omega
    · intro k hk
      have hk : upd b.tk i.toNat false k = true := hk
      unfold upd at hk
      split at hk
      · cases hk
      · exact h.out k hk
  · exact h
theorem IV.set {b : AB} (h : IV b) (i v : Int) : IV (setA b i v) := by
  unfold setA
  split
  · exact h.vl _ _
  · exact h

theorem dtake_any {cs : Array Value} {b : AB} (v : Int) {w : World} (hk : RBk F w cs b) (iv : IV b) (hF : Hid (∀ g, F g → g < w.heap.size)) : Calls Try.prog 23 #[.agg cs, .int .i64 v] w (TPost F w (takeA b v) (takeI b) (takeE b)) := by
  have ht := iv.top60
  rcases take_ways iv v with ⟨hf, e1, e2, e3⟩ | ⟨hf, hb, ht2, e1, e2, e3⟩ | ⟨hf, l, i, hb, hi, _, hm, e1, e2, e3⟩
  · rw [e1, e2, e3]; exact dtake_full cs b v w hk hf
  · rw [e1, e2, e3]
    have h := dtake_fresh cs b v w hk hf hb (by omega)
    exact h
  · rw [e1, e2, e3]
    have hl := iv.bk60
    rw [hb] at hl; simp at hl
    have h := dtake_back cs b v w hk (i + 1) l.length l hf (by rw [hb]; rfl) rfl (by omega) (by omega) hF
    exact h
theorem dgive_any {cs : Array Value} {b : AB} (i : Int) {w : World} (hk : RBk F w cs b) (iv : IV b) (hF : Hid (∀ g, F g → g < w.heap.size)) : Calls Try.prog 27 #[.agg cs, .int .i64 i] w (BPost F w (giveA b i) (thereE b i)) := by
  unfold giveA thereE
  rcases ht : thereD b i with _ | _
  · exact dgive_no cs b i w hk ht
  · have h := dgive_yes cs b i w hk (by have := iv.bk60; omega) hF ht
    exact h
theorem dset_any {cs : Array Value} {b : AB} (i v : Int) {w : World} (hk : RBk F w cs b) : Calls Try.prog 28 #[.agg cs, .int .i64 i, .int .i64 v] w (BPost F w (setA b i v) (thereE b i)) := by
  unfold setA thereE
  rcases ht : thereD b i with _ | _
  · exact dset_no cs b i v w hk ht
  · have h := dset_yes cs b i v w hk ht
    exact h
end Go.Proofs.Ytpihoegikojlaaa
