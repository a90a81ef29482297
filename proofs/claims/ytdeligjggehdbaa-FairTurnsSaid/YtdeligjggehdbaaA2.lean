/- Windows and gaps: plain mathematics. -/
namespace Go.Proofs.Ytdeligjggehdbaa
set_option linter.unusedVariables false

/-- Where x was picked last among the first i, or -1. -/
def lastF (p : List Int) (x : Int) : Nat → Int
  | 0 => -1
  | i + 1 => if p.getD i 0 = x then i else lastF p x i
/-- The gap behind i picks. -/
def g2F (p q : List Int) : Nat → Int
  | 0 => 1
  | i + 1 => if p.getD i 0 ∈ q then max (g2F p q i) (i - lastF p (p.getD i 0) i) else g2F p q i
def gF (p q : List Int) : Int := q.foldl (fun a x => max a ((p.length : Int) - lastF p x p.length)) (g2F p q p.length)
/-- Is x picked in each window of G picks that ends ahead of m? -/
def WinP (p : List Int) (x G m : Int) : Prop := ∀ s : Nat, (s : Int) + G ≤ m → ∃ j : Nat, s ≤ j ∧ (j : Int) < s + G ∧ p.getD j 0 = x
def FairP (p q : List Int) (G : Int) : Prop := 1 ≤ G ∧ ∀ x ∈ q, WinP p x G p.length

theorem last_lo (p : List Int) (x : Int) : ∀ i, -1 ≤ lastF p x i
  | 0 => by simp [lastF]
  | i + 1 => by
    have := last_lo p x i
    unfold lastF; split <;> omega
theorem last_hi (p : List Int) (x : Int) : ∀ i : Nat, lastF p x i < i
  | 0 => by simp [lastF]
  | i + 1 => by
    have := last_hi p x i
    unfold lastF; split <;> omega
theorem last_at (p : List Int) (x : Int) : ∀ (i k : Nat), lastF p x i = k → p.getD k 0 = x
  | 0, k, h => by simp [lastF] at h
  | i + 1, k, h => by
    unfold lastF at h
    split at h
    · rename_i e
      have : k = i := by omega
      rw [this]; exact e
    · exact last_at p x i k h
theorem last_max (p : List Int) (x : Int) : ∀ (i j : Nat), j < i → p.getD j 0 = x → (j : Int) ≤ lastF p x i
  | 0, j, h, _ => by omega
  | i + 1, j, h, e => by
    unfold lastF
    split
    · omega
    · rename_i ne
      by_cases hj : j = i
      · subst hj; exact absurd e ne
      · exact last_max p x i j (by omega) e

theorem win_step (p : List Int) (x G : Int) (i : Nat) (hG : 1 ≤ G) : WinP p x G i ↔ (WinP p x G (lastF p x i) ∧ (i : Int) - lastF p x i ≤ G) := by
  have lo := last_lo p x i
  have hi := last_hi p x i
  constructor
  · intro h
    refine ⟨fun s hs => h s (by omega), ?_⟩
    by_cases c : (i : Int) - lastF p x i ≤ G
    · exact c
    · exfalso
      obtain ⟨j, h1, h2, h3⟩ := h (lastF p x i + 1).toNat (by omega)
      have := last_max p x i j (by omega) h3
      omega
  · rintro ⟨h, hg⟩ s hs
    by_cases c : (s : Int) + G ≤ lastF p x i
    · exact h s c
    · by_cases d : (s : Int) ≤ lastF p x i
      · exact ⟨(lastF p x i).toNat, by omega, by omega, last_at p x i _ (by omega)⟩
      · omega

theorem g2_char (p q : List Int) (G : Int) (hG : 1 ≤ G) : ∀ i : Nat, g2F p q i ≤ G ↔ ∀ x ∈ q, WinP p x G (lastF p x i)
  | 0 => by
    simp only [g2F, lastF]
    exact ⟨fun _ x _ s hs => by omega, fun _ => hG⟩
  | i + 1 => by
    have ih := g2_char p q G hG i
    simp only [g2F, lastF]
    by_cases hm : p.getD i 0 ∈ q
    · rw [if_pos hm]
      constructor
      · intro h x hx
        have h1 : g2F p q i ≤ G := by omega
        have h2 := ih.1 h1
        by_cases c : p.getD i 0 = x
        · rw [if_pos c]
          refine (win_step p x G i hG).2 ⟨h2 x hx, ?_⟩
          rw [← c]; omega
        · rw [if_neg c]; exact h2 x hx
      · intro h
        have h0 := h _ hm
        rw [if_pos rfl] at h0
        have h1 := (win_step p _ G i hG).1 h0
        have h2 : g2F p q i ≤ G := ih.2 (fun x hx => by
          have h3 := h x hx
          by_cases c : p.getD i 0 = x
          · subst c; exact h1.1
          · rw [if_neg c] at h3; exact h3)
        omega
    · rw [if_neg hm, ih]
      constructor
      · intro h x hx
        rw [if_neg (fun e : p.getD i 0 = x => hm (by rw [e]; exact hx))]; exact h x hx
      · intro h x hx
        have := h x hx
        rw [if_neg (fun e : p.getD i 0 = x => hm (by rw [e]; exact hx))] at this; exact this

theorem g2_lo (p q : List Int) : ∀ i : Nat, 1 ≤ g2F p q i
  | 0 => by simp [g2F]
  | i + 1 => by
    have := g2_lo p q i
    unfold g2F; split <;> omega
theorem g2_hi (p q : List Int) : ∀ i : Nat, g2F p q i ≤ i + 1
  | 0 => by simp [g2F]
  | i + 1 => by
    have := g2_hi p q i
    have := last_lo p (p.getD i 0) i
    unfold g2F; split <;> omega
theorem foldmax_char (f : Int → Int) (G : Int) : ∀ (q : List Int) (a : Int), q.foldl (fun a x => max a (f x)) a ≤ G ↔ (a ≤ G ∧ ∀ x ∈ q, f x ≤ G)
  | [], a => by simp
  | y :: q, a => by
    rw [List.foldl_cons, foldmax_char f G q]
    simp only [List.mem_cons, forall_eq_or_imp]
    constructor
    · rintro ⟨h1, h2⟩; exact ⟨by omega, by omega, h2⟩
    · rintro ⟨h1, h2, h3⟩; exact ⟨by omega, h3⟩
theorem gF_char0 (p q : List Int) (G : Int) : gF p q ≤ G ↔ (g2F p q p.length ≤ G ∧ ∀ x ∈ q, (p.length : Int) - lastF p x p.length ≤ G) := foldmax_char _ G q _
theorem gF_char (p q : List Int) (G : Int) : gF p q ≤ G ↔ FairP p q G := by
  rw [gF_char0]
  have lo := g2_lo p q p.length
  constructor
  · rintro ⟨h1, h2⟩
    have hG : 1 ≤ G := by omega
    refine ⟨hG, fun x hx => (win_step p x G p.length hG).2 ⟨(g2_char p q G hG p.length).1 h1 x hx, h2 x hx⟩⟩
  · rintro ⟨hG, h⟩
    have h' := fun x hx => (win_step p x G p.length hG).1 (h x hx)
    exact ⟨(g2_char p q G hG p.length).2 (fun x hx => (h' x hx).1), fun x hx => (h' x hx).2⟩
theorem gF_lo (p q : List Int) : 1 ≤ gF p q := ((gF_char p q _).1 (Int.le_refl _)).1
theorem gF_hi (p q : List Int) : gF p q ≤ p.length + 1 := (gF_char p q _).2 ⟨by omega, fun x hx s hs => by omega⟩
theorem eq_of_char {a b : Int} (h : ∀ G, a ≤ G ↔ b ≤ G) : a = b := by
  have h1 := (h b).2 (Int.le_refl _)
  have h2 := (h a).1 (Int.le_refl _)
  omega
/-- The window that begins at i, as a list. -/
theorem win_list (p : List Int) (x : Int) (i W : Nat) (h : i + W ≤ p.length) : ((p.drop i).take W).contains x = true ↔ ∃ j : Nat, i ≤ j ∧ (j : Int) < i + W ∧ p.getD j 0 = x := by
  rw [List.contains_iff_mem, List.mem_iff_getElem]
  constructor
  · rintro ⟨k, hk, e⟩
    simp at hk
    refine ⟨i + k, by omega, by omega, ?_⟩
    rw [← e, List.getElem_take, List.getElem_drop, List.getD_eq_getElem?_getD, List.getElem?_eq_getElem (by omega)]; rfl
  · rintro ⟨j, h1, h2, e⟩
    refine ⟨j - i, by simp; omega, ?_⟩
    rw [List.getElem_take, List.getElem_drop]
    rw [List.getD_eq_getElem?_getD, List.getElem?_eq_getElem (by omega)] at e
    simp only [Option.getD_some] at e
    rw [← e]
    congr 1
    omega
/-- The windows one by one. -/
theorem fair_iff (p q : List Int) (W : Nat) (hW : 1 ≤ W) : FairP p q W ↔ ∀ i : Nat, i + W ≤ p.length → ∀ k (h : k < q.length), ((p.drop i).take W).contains q[k] = true := by
  constructor
  · rintro ⟨_, h⟩ i hi k hk
    exact (win_list p _ i W hi).2 (h _ (List.getElem_mem hk) i (by omega))
  · intro h
    refine ⟨by omega, fun x hx s hs => ?_⟩
    obtain ⟨k, hk, e⟩ := List.mem_iff_getElem.1 hx
    have := (win_list p _ s W (by omega)).1 (h s (by omega) k hk)
    rw [e] at this; exact this
end Go.Proofs.Ytdeligjggehdbaa
