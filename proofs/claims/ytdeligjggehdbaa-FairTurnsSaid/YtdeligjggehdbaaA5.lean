/- Turns: plain mathematics; how many keys two maps have. -/
import Derived.Test.YtdeligjggehdbaaA4
namespace Go.Proofs.Ytdeligjggehdbaa
set_option linter.unusedSimpArgs false
open Go.RowKit Go.Maps
set_option linter.unusedVariables false

def segF (p : List Int) (f i : Nat) : List Int := (p.drop f).take (i - f)
def allIn (q s : List Int) : Bool := !q.isEmpty && q.all (fun x => s.contains x)
def TF (p q : List Int) : Nat → List (List Int) × Nat
  | 0 => ([], 0)
  | i + 1 => if allIn q (segF p (TF p q i).2 (i + 1)) then ((TF p q i).1 ++ [segF p (TF p q i).2 (i + 1)], i + 1) else TF p q i
theorem seg_len (p : List Int) (f i : Nat) (hi : i ≤ p.length) (hf : f ≤ i) : (segF p f i).length = i - f := by
  unfold segF; simp; omega
theorem seg_succ (p : List Int) (f i : Nat) (hi : i < p.length) (hf : f ≤ i) : segF p f (i + 1) = segF p f i ++ [p.getD i 0] := by
  unfold segF
  rw [show i + 1 - f = i - f + 1 by omega, List.take_succ_eq_append_getElem (by simp; omega), List.getElem_drop, List.getD_eq_getElem?_getD, List.getElem?_eq_getElem hi]
  simp [show f + (i - f) = i by omega]
theorem TF_le (p q : List Int) : ∀ i, (TF p q i).2 ≤ i ∧ (TF p q i).1.length ≤ i
  | 0 => ⟨Nat.le_refl _, Nat.le_refl _⟩
  | i + 1 => by
    have := TF_le p q i
    unfold TF
    split
    · simp; omega
    · omega
theorem TF_not (p q : List Int) : ∀ i, i ≤ p.length → allIn q (segF p (TF p q i).2 i) = false
  | 0, _ => by
    unfold allIn segF
    cases q <;> simp
  | i + 1, h => by
    unfold TF
    split
    · unfold allIn segF
      cases q <;> simp
    · rename_i hn
      simpa using hn
/-- A pick of somebody else changes nothing. -/
theorem TF_skip (p q : List Int) (i : Nat) (hi : i < p.length) (hx : p.getD i 0 ∉ q) : TF p q (i + 1) = TF p q i := by
  have hn := TF_not p q i (by omega)
  have hle := (TF_le p q i).1
  rw [TF, if_neg]
  intro ha
  rw [seg_succ p _ i hi hle] at ha
  unfold allIn at ha hn
  simp only [Bool.and_eq_true, List.all_eq_true] at ha
  obtain ⟨h1, h2⟩ := ha
  rw [h1] at hn
  simp only [Bool.true_and] at hn
  have : q.all (fun x => (segF p (TF p q i).2 i).contains x) = true := by
    rw [List.all_eq_true]
    intro x hxq
    have h3 := h2 x hxq
    rw [List.contains_iff_mem, List.mem_append] at h3
    rcases h3 with h3 | h3
    · rw [List.contains_iff_mem]; exact h3
    · exact absurd hxq (by rw [List.mem_singleton.1 h3]; exact hx)
  rw [this] at hn; cases hn

/-- Each key is a number. -/
def KI (D : DataW Unit) : Prop := ∃ es, D = .map es ∧ ∀ e ∈ es, ∃ x, e.1 = .int .i64 x
theorem KI.empty : KI (.map []) := ⟨[], rfl, by simp⟩
theorem KI.put {D : DataW Unit} (h : KI D) (x : Int) (d : DataW Unit) : KI (D.put (.int .i64 x) d) := by
  obtain ⟨es, rfl, hk⟩ := h
  refine ⟨_, rfl, fun e he => ?_⟩
  have := (Go.WideShapes.insert_perm (Lit.int .i64 x, d) _).mem_iff.1 he
  rcases List.mem_cons.1 this with h | h
  · exact ⟨x, by rw [h]⟩
  · exact hk e (List.mem_filter.1 h).1
theorem KI.del {D : DataW Unit} (h : KI D) (k : Lit) : KI (D.del k) := by
  obtain ⟨es, rfl, hk⟩ := h
  exact ⟨_, rfl, fun e he => hk e (List.mem_filter.1 he).1⟩
theorem size_cmp : ∀ (n : Nat) (D1 D2 : DataW Unit), Maps.Tidy D1 → Maps.Tidy D2 → KI D1 → (∀ x, Maps.has D1 (.int .i64 x) = true → Maps.has D2 (.int .i64 x) = true) → Maps.size D1 = n →
    (Maps.size D1 = Maps.size D2 → ∀ x, Maps.has D2 (.int .i64 x) = true → Maps.has D1 (.int .i64 x) = true)
  | 0, D1, D2, t1, t2, k1, hs, hn => by
    intro he x hx
    obtain ⟨es, rfl, _⟩ := t2
    rw [hn, Maps.size_eq] at he
    have : es = [] := List.eq_nil_of_length_eq_zero he.symm
    subst this
    simp [Maps.has] at hx
  | n + 1, D1, D2, t1, t2, k1, hs, hn => by
    intro he x hx
    obtain ⟨es, e1, hk⟩ := k1
    cases es with
    | nil => rw [e1, Maps.size_eq] at hn; simp at hn
    | cons e es =>
      obtain ⟨y, hy⟩ := hk e (by simp)
      have h1 : Maps.has D1 (.int .i64 y) = true := by
        rw [e1, Maps.has_eq]
        simp [hy, skI]
      have h2 := hs y h1
      have d1 := Maps.size_del (k := .int .i64 y) t1
      have d2 := Maps.size_del (k := .int .i64 y) t2
      rw [if_pos h1] at d1
      rw [if_pos h2] at d2
      by_cases c : x = y
      · rw [c]; exact h1
      have ih := size_cmp n (D1.del (.int .i64 y)) (D2.del (.int .i64 y)) (t1.del _) (t2.del _) (KI.del ⟨e :: es, e1, hk⟩ _) (fun z hz => by
        by_cases cz : z = y
        · subst cz; rw [Maps.has_del_same] at hz; cases hz
        · rw [Maps.has_del_other (by simpa using cz)] at hz ⊢; exact hs z hz) (by omega) (by omega) x (by rw [Maps.has_del_other (by simpa using c)]; exact hx)
      rw [Maps.has_del_other (by simpa using c)] at ih
      exact ih
theorem size_le : ∀ (n : Nat) (D1 D2 : DataW Unit), Maps.Tidy D1 → Maps.Tidy D2 → KI D1 → (∀ x, Maps.has D1 (.int .i64 x) = true → Maps.has D2 (.int .i64 x) = true) → Maps.size D1 = n → n ≤ Maps.size D2
  | 0, D1, D2, t1, t2, k1, hs, hn => by omega
  | n + 1, D1, D2, t1, t2, k1, hs, hn => by
    obtain ⟨es, e1, hk⟩ := k1
    cases es with
    | nil => rw [e1, Maps.size_eq] at hn; simp at hn
    | cons e es =>
      obtain ⟨y, hy⟩ := hk e (by simp)
      have h1 : Maps.has D1 (.int .i64 y) = true := by
        rw [e1, Maps.has_eq]
        simp [hy, skI]
      have h2 := hs y h1
      have d1 := Maps.size_del (k := .int .i64 y) t1
      have d2 := Maps.size_del (k := .int .i64 y) t2
      rw [if_pos h1] at d1
      rw [if_pos h2] at d2
      have ih := size_le n (D1.del (.int .i64 y)) (D2.del (.int .i64 y)) (t1.del _) (t2.del _) (KI.del ⟨e :: es, e1, hk⟩ _) (fun z hz => by
        by_cases cz : z = y
        · subst cz; rw [Maps.has_del_same] at hz; cases hz
        · rw [Maps.has_del_other (by simpa using cz)] at hz ⊢; exact hs z hz) (by omega)
      omega
theorem size_iff {D1 D2 : DataW Unit} (t1 : Maps.Tidy D1) (t2 : Maps.Tidy D2) (k1 : KI D1) (k2 : KI D2) (hs : ∀ x, Maps.has D1 (.int .i64 x) = true → Maps.has D2 (.int .i64 x) = true) :
    Maps.size D1 = Maps.size D2 ↔ ∀ x, Maps.has D2 (.int .i64 x) = true → Maps.has D1 (.int .i64 x) = true :=
  ⟨size_cmp _ D1 D2 t1 t2 k1 hs rfl, fun h => by
    have a := size_le _ D1 D2 t1 t2 k1 hs rfl
    have b := size_le _ D2 D1 t2 t1 k2 h rfl
    omega⟩

/-- A map of how often: just the keys for which K says so, each with a number from 1 to m. -/
def MC (D : DataW Unit) (K : Int → Prop) (m : Int) : Prop :=
  KI D ∧ Maps.IsMap D ∧ (∀ x, Maps.has D (.int .i64 x) = true ↔ K x) ∧ ∀ x c, D.atKey (.int .i64 x) (.lit (.int .i64 0)) = .lit (.int .i64 c) → (K x → 1 ≤ c ∧ c ≤ m) ∧ (¬ K x → c = 0)
theorem MC.empty {m : Int} {K : Int → Prop} (hK : ∀ x, ¬ K x) : MC (.map []) K m := by
  refine ⟨KI.empty, Maps.isMap_empty, fun x => ⟨fun h => by simp [Maps.has] at h, fun h => absurd h (hK x)⟩, fun x c h => ⟨fun h2 => absurd h2 (hK x), fun _ => ?_⟩⟩
  have : (DataW.map [] : DataW Unit).atKey (.int .i64 x) (.lit (.int .i64 0)) = .lit (.int .i64 0) := rfl
  rw [this] at h
  injection h with h; injection h with _ h; exact h.symm
theorem MC.put {D : DataW Unit} {K : Int → Prop} {m c x : Int} (h : MC D K m) (h1 : 1 ≤ c) (h2 : c ≤ m + 1) (h0 : 0 ≤ m) : MC (D.put (.int .i64 x) (.lit (.int .i64 c))) (fun y => y = x ∨ K y) (m + 1) := by
  refine ⟨h.1.put _ _, h.2.1.put _ _, fun y => ?_, fun y u hy => ?_⟩
  · by_cases e : y = x
    · subst e; rw [Maps.has_put_same h.2.1 (ikey y)]; simp
    · rw [Maps.has_put_other (by simpa using e), h.2.2.1 y]; simp [e]
  · by_cases e : y = x
    · subst e
      rw [Maps.atKey_put_same h.2.1 (ikey y)] at hy
      injection hy with hy; injection hy with _ hy
      exact ⟨fun _ => by omega, fun hn => absurd (.inl rfl) hn⟩
    · rw [Maps.atKey_put_other (by simpa using e)] at hy
      have := h.2.2.2 y u hy
      refine ⟨fun hk => ?_, fun hn => this.2 (fun k => hn (.inr k))⟩
      have := this.1 (hk.resolve_left e)
      omega
theorem MC.more {D : DataW Unit} {K K' : Int → Prop} {m m' : Int} (h : MC D K m) (e : ∀ x, K x ↔ K' x) (hm : m ≤ m') : MC D K' m' := by
  refine ⟨h.1, h.2.1, fun x => (h.2.2.1 x).trans (e x), fun x c hc => ?_⟩
  have := h.2.2.2 x c hc
  refine ⟨fun k => ?_, fun k => this.2 (fun a => k ((e x).1 a))⟩
  have := this.1 ((e x).2 k)
  omega
end Go.Proofs.Ytdeligjggehdbaa
