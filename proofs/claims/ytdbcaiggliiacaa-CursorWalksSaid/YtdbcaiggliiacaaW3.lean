/- The first entries that a range has, as the document says; what is told chunk by chunk. -/
import Derived.Test.YtdbcaiggliiacaaW2
namespace Go.Proofs.Ytdbcaiggliiacaa
set_option linter.unusedSimpArgs false
open Go.RowKit Go.Maps
set_option linter.unusedVariables false
set_option maxHeartbeats 1000000 in
theorem some_any (A : Option Addr) (n c : Nat) (xs : List TT) (a b : ByteArray) (m : Nat) (w : World) (hl : xs.length = n) (hn : n ≤ 900) (hA : RdT w A xs) (hr : PW xs) (hs : sb a b = true) :
    Calls Try.prog 19 #[.slice none 0 0, .slice A n c, .agg #[.string a, .string b], .int .i64 m] w (NewE w ((Fl a b xs).take m)) := by
  have HB := Lib.hid (alb w (.cells #[.string a, .string b] 29))
  have EN := Lib.hid (entries_any A n c xs a b _ hl hn (rdt_later hA HB.out) hr hs)
  have hm0 : ¬ (m : Int) < 0 := by omega
  have hm1 : (0 : Int) ≤ (m : Int) := by omega
  clear hA hl hr hs
  go_enter Try.func19, Try.ntmps19
  go_wp2_with (first
    | (go_at_call 18; ((with_reducible refine EN.out.mono ?_); rintro e w1 ⟨a1, N, c1, rfl, r1, h1, h2, h3, b1, h4⟩; have H4 := Lib.hid (fun h => Nat.le_trans HB.out.size (h4 h)); clear h4; have R1 := Lib.hid r1; have H1 := Lib.hid h1; have H2 := Lib.hid h2; have H3 := Lib.hid h3; have B1 := Lib.hid (bel_trans HB.out b1); clear r1 h1 h2 h3 b1; rcases (show ((m : Int) < (N : Int) ∧ (m : Int) ≤ (c1 : Int)) ∨ ¬ (m : Int) < (N : Int) by have := H2.out; omega) with ⟨j1, j2⟩ | j1))
    | fail)
  · have h1 := H1.out
    have h2 := H2.out
    exact bodyPost_ret (v := .slice (some a1) m c1) (by simp [results, Try.results19, go_sem]) rfl ⟨a1, m, c1, rfl, R1.out.take m, by rw [List.length_take]; omega, by omega, H3.out, B1.out, fun h => H4.out (by rw [List.length_take] at h; omega)⟩
  · go_wp2
    have h1 := H1.out
    exact bodyPost_ret (v := .slice (some a1) N c1) (by simp [results, Try.results19, go_sem]) rfl ⟨a1, N, c1, rfl, R1.out.take m, by rw [List.length_take]; omega, H2.out, H3.out, B1.out, fun h => H4.out (by rw [List.length_take] at h; omega)⟩
theorem bl_next : ∀ s x : List UInt8, Op.bytesLess s x = true → Op.bytesLess x (s ++ [0]) = false
  | [], [] => by simp [Op.bytesLess]
  | [], y :: ys => by
    intro _
    have : ¬ y.toNat < 0 := by omega
    simp [Op.bytesLess, UInt8.lt_iff_toNat_lt, bl_nil]
  | _ :: _, [] => by simp [Op.bytesLess]
  | c :: s, y :: ys => by
    intro h
    simp only [Op.bytesLess, Bool.or_eq_true, decide_eq_true_eq, Bool.and_eq_true, beq_iff_eq, UInt8.lt_iff_toNat_lt] at h
    rcases h with h | ⟨rfl, h⟩
    · have h2 : ¬ y.toNat < c.toNat := by omega
      have h3 : (y == c) = false := by rw [beq_eq_false_iff_ne]; rintro rfl; omega
      simp [Op.bytesLess, UInt8.lt_iff_toNat_lt, h2, h3]
    · have := bl_next s ys h
      simp [Op.bytesLess, UInt8.lt_iff_toNat_lt, this]
theorem lt_next {s x : ByteArray} (h : lt s x = true) : lt x (A0 s) = false := by
  unfold lt at *; rw [A0_toList]; exact bl_next _ _ h
theorem has_sb {f t s : ByteArray} (h : has f t s = true) : sb s t = true := by unfold has at h; simp at h; exact h.2
theorem has_mk {f t s : ByteArray} (h1 : lt s f = false) (h2 : sb s t = true) : has f t s = true := by unfold has; simp [h1, h2]
theorem sb_lt {s t : ByteArray} (h : sb s t = true) : emp t = true ∨ lt s t = true := by unfold sb at h; simpa using h
theorem fl_pw {xs : List TT} (h : PW xs) (f t : ByteArray) : PW (Fl f t xs) := List.Pairwise.sublist List.filter_sublist h
theorem fl_okl (xs : List TT) (f t : ByteArray) : okl f t (Fl f t xs) := fun x hx => (List.mem_filter.1 hx).2
theorem okl_take {f t : ByteArray} {l : List TT} (h : okl f t l) (k : Nat) : okl f t (l.take k) := fun x hx => h x (List.mem_of_mem_take hx)
/-- All that lies behind a chunk is above its last key. -/
theorem behind_gt {l : List TT} (h : PW l) (k : Nat) (hk : 0 < (l.take k).length) {x : TT} (hx : x ∈ l.drop k) : lt (lastE (l.take k)) x.1 = true := by
  obtain ⟨y, hy, e⟩ := lastE_mem hk
  rw [e]
  have h' := h
  unfold PW at h'
  rw [← List.take_append_drop k l, List.pairwise_append] at h'
  exact h'.2.2 y hy x hx
/-- What a range has from behind a chunk on is what lies behind the chunk. -/
theorem fl_behind {xs : List TT} (h : PW xs) (f b : ByteArray) (k : Nat) (hk : 0 < ((Fl f b xs).take k).length) : Fl (A0 (lastE ((Fl f b xs).take k))) b xs = (Fl f b xs).drop k := by
  have hp := fl_pw h f b
  have ho := fl_okl xs f b
  obtain ⟨y, hy, ey⟩ := lastE_mem hk
  obtain ⟨g, hg⟩ : ∃ g, g = A0 (lastE ((Fl f b xs).take k)) := ⟨_, rfl⟩
  have hgf : lt g f = false := by
    rw [hg]
    have := has_lo (ho y (List.mem_of_mem_take hy))
    rw [← ey] at this
    exact le_of_lt (le_lt_trans this (lt_A0 _))
  have e1 : Fl g b xs = Fl g b (Fl f b xs) := by
    unfold Fl
    rw [List.filter_filter]
    refine List.filter_congr fun x hx => ?_
    cases hh : has g b x.1 with
    | false => simp
    | true => simp [has_mk (le_trans hgf (has_lo hh)) (has_sb hh)]
  rw [← hg, e1]
  have e2 : Fl g b (Fl f b xs) = Fl g b ((Fl f b xs).take k) ++ Fl g b ((Fl f b xs).drop k) :=
    (congrArg (Fl g b) (List.take_append_drop k (Fl f b xs)).symm).trans (List.filter_append ..)
  rw [e2]
  have e3 : Fl g b ((Fl f b xs).take k) = [] := by
    refine List.filter_eq_nil_iff.2 fun x hx => ?_
    have h1 : lt x.1 g = true := by
      rw [hg]
      exact le_lt_trans (pw_last (List.Pairwise.sublist (List.take_sublist _ _) hp) hx) (lt_A0 _)
    unfold has
    simp [h1]
  have e4 : Fl g b ((Fl f b xs).drop k) = (Fl f b xs).drop k := by
    refine List.filter_eq_self.2 fun x hx => ?_
    have h1 := lt_next (behind_gt hp k hk hx)
    rw [← hg] at h1
    exact has_mk h1 (has_sb (ho x (List.mem_of_mem_drop hx)))
  rw [e3, e4]; rfl
/-- Where nothing can lie above a chunk's last key, nothing does. -/
theorem fl_over {xs : List TT} (h : PW xs) (f b : ByteArray) (k : Nat) (hk : 0 < ((Fl f b xs).take k).length) (hs : sb (A0 (lastE ((Fl f b xs).take k))) b = false) : (Fl f b xs).drop k = [] := by
  rw [← fl_behind h f b k hk]
  refine List.filter_eq_nil_iff.2 fun x hx => ?_
  intro hh
  have h1 := has_lo hh
  unfold sb at hs
  simp at hs
  rcases sb_lt (has_sb hh) with h2 | h2
  · rw [hs.1] at h2; cases h2
  · rw [le_lt_trans h1 h2] at hs; cases hs.2
/-- What was told so far, behind i chunks, while the cursor has still to tell d. -/
def WI (a b : ByteArray) (xs : List TT) (i : Nat) (d : Cur) (told : List TT) : Prop :=
  (d.2.2 = false ∧ d.2.1 = b ∧ sb d.1 b = true ∧ ∃ j, told = (Fl a b xs).take j ∧ Fl d.1 b xs = (Fl a b xs).drop j ∧ i ≤ told.length) ∨ (d.2.2 = true ∧ told = Fl a b xs ∧ i ≤ (Fl a b xs).length + 1)
theorem WI.start {a b : ByteArray} (h : sb a b = true) (xs : List TT) : WI a b xs 0 (a, b, false) [] := .inl ⟨rfl, rfl, h, 0, by simp, by simp, by simp⟩
theorem take_take_drop {l : List TT} (j k : Nat) (hj : j ≤ l.length) : l.take j ++ (l.drop j).take k = l.take (j + k) := by
  rw [List.take_add]
theorem WI.step {a b f t : ByteArray} {xs : List TT} {i k : Nat} {told : List TT} (h : WI a b xs i (f, t, false) told) (hp : PW xs) (hk : 0 < k) :
    t = b ∧ sb f b = true ∧ ∃ d, Tk (some (f, t, false)) ((Fl f t xs).take k) (k : Int) (.ok d) ∧ WI a b xs (i + 1) d (told ++ (Fl f t xs).take k) := by
  obtain ⟨_, hb, hs, j, h1, h2, h3⟩ := h.resolve_right (fun q => by cases q.1)
  simp only at hb hs h2
  subst hb
  refine ⟨rfl, hs, ?_⟩
  have hr : ris ((Fl f t xs).take k) := pw_ris (List.Pairwise.sublist (List.take_sublist _ _) (fl_pw hp f t))
  have ho := okl_take (fl_okl xs f t) k
  have hlen : ((Fl f t xs).take k).length ≤ k := by rw [List.length_take]; omega
  have ht : told ++ (Fl f t xs).take k = (Fl a t xs).take (j + k) := by rw [h1, h2, List.take_add]
  have hil : i ≤ (Fl a t xs).length := by rw [h1, List.length_take] at h3; omega
  by_cases hf : ((Fl f t xs).take k).length < k
  · have hall : (Fl f t xs).take k = Fl f t xs := by
      rw [List.length_take] at hf
      exact List.take_of_length_le (by omega)
    refine ⟨(⟨#[]⟩, ⟨#[]⟩, true), Tk.few f t false _ k (.inl rfl) (by omega) (by omega) hr ho (by omega), .inr ⟨rfl, ?_, by omega⟩⟩
    rw [hall, h1, h2, List.take_append_drop]
  · have hl0 : 0 < ((Fl f t xs).take k).length := by omega
    cases hq : sb (A0 (lastE ((Fl f t xs).take k))) t with
    | false =>
      refine ⟨(⟨#[]⟩, ⟨#[]⟩, true), Tk.past f t false _ k (.inl rfl) (by omega) (by omega) hr ho (by omega) hq, .inr ⟨rfl, ?_, by omega⟩⟩
      have hd := fl_over hp f t k hl0 hq
      have : (Fl f t xs).take k = Fl f t xs := by
        have := List.take_append_drop k (Fl f t xs)
        rw [hd, List.append_nil] at this; exact this
      rw [this, h1, h2, List.take_append_drop]
    | true =>
      refine ⟨(A0 (lastE ((Fl f t xs).take k)), t, false), Tk.more f t false _ k (.inl rfl) (by omega) (by omega) hr ho (by omega) hq, .inl ⟨rfl, rfl, hq, j + k, ht, ?_, ?_⟩⟩
      · rw [fl_behind hp f t k hl0, h2, List.drop_drop]
      · rw [List.length_append]; omega
end Go.Proofs.Ytdbcaiggliiacaa
