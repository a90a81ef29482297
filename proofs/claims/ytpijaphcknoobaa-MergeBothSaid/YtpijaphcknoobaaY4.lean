/- Merge: the lists that are left, and which one is picked. -/
import Derived.Test.YtpijaphcknoobaaY3
namespace Go.Proofs.Ytpijaphcknoobaa
set_option linter.unusedSimpArgs false
open Go.RowKit Go.Shelf
set_option linter.unusedVariables false

/-- A list of things in memory, as a value. -/
def Sl (w0 : World) (u : Value) (ys : List TT) : Prop := ∃ A c, u = .slice A ys.length c ∧ ys.length ≤ c ∧ c ≤ maxLen ∧ RdT w0 A ys
theorem Sl.later {w0 w1 : World} {u : Value} {ys : List TT} (h : Sl w0 u ys) (hb : Below w0.heap.size w0 w1) : Sl w1 u ys := by
  obtain ⟨A, c, h1, h2, h3, h4⟩ := h
  exact ⟨A, c, h1, h2, h3, Rd.later h4 hb⟩
theorem Sl.one {w0 : World} {u : Value} {ys : List TT} (h : Sl w0 u ys) : u.oneCell' = true := by
  obtain ⟨A, c, rfl, _⟩ := h; rfl
/-- The slices of lists. -/
def Sls (w0 : World) (vs : List Value) (rs : List (List TT)) : Prop := vs.length = rs.length ∧ ∀ (i : Nat) (ys : List TT), rs[i]? = some ys → ∃ u : Value, vs[i]? = some u ∧ Sl w0 u ys
theorem Sls.later {w0 w1 : World} {vs : List Value} {rs : List (List TT)} (h : Sls w0 vs rs) (hb : Below w0.heap.size w0 w1) : Sls w1 vs rs :=
  ⟨h.1, fun i ys hi => by obtain ⟨u, h1, h2⟩ := h.2 i ys hi; exact ⟨u, h1, h2.later hb⟩⟩
theorem Sls.one {w0 : World} {vs : List Value} {rs : List (List TT)} (h : Sls w0 vs rs) : ∀ u ∈ vs, u.oneCell' = true := by
  intro u hu
  obtain ⟨i, hi⟩ := List.mem_iff_getElem?.1 hu
  have hlt := (List.getElem?_eq_some_iff.1 hi).1
  obtain ⟨u2, h1, h2⟩ := h.2 i _ (List.getElem?_eq_getElem (by rw [← h.1]; exact hlt))
  rw [hi] at h1; cases h1
  exact h2.one
theorem Sls.set {w0 : World} {vs : List Value} {rs : List (List TT)} (h : Sls w0 vs rs) {i : Nat} {u : Value} {ys : List TT} (hu : Sl w0 u ys) : Sls w0 (vs.set i u) (rs.set i ys) := by
  refine ⟨by simp [h.1], fun j zs hj => ?_⟩
  by_cases e : i = j
  · subst e
    have hlt : i < rs.length := by have := (List.getElem?_eq_some_iff.1 hj).1; simpa using this
    rw [List.getElem?_set_self hlt] at hj
    cases hj
    exact ⟨u, List.getElem?_set_self (by rw [h.1]; exact hlt), hu⟩
  · rw [List.getElem?_set_ne e] at hj ⊢
    exact h.2 j zs hj
theorem cls_cons (x : TT) (xs : List TT) : cls (x :: xs) = .int .i64 x.1 :: .int .i64 x.2 :: cls xs := rfl
/-- A list without its first thing: where the list had more room than one. -/
theorem Sl.tail {w0 : World} {A : Option Addr} {c : Nat} {x : TT} {rest : List TT} (hr : RdT w0 A (x :: rest)) (hc : rest.length + 1 ≤ c) (hm : c ≤ maxLen) :
    ∃ b off, A = some ⟨b, off, none⟩ ∧ b < w0.heap.size ∧ w0.cell? ⟨b, off, none⟩ = some (.int .i64 x.1) ∧ w0.cell? ⟨b, off + 1, none⟩ = some (.int .i64 x.2) ∧
      Sl w0 (.slice (some ⟨b, off + 2, none⟩) rest.length (c - 1)) rest ∧ (c = 1 → Sl w0 (.slice (some ⟨b, off, none⟩) rest.length (c - 1)) rest) := by
  obtain ⟨b, off, rfl, hlt, f0, f1⟩ := rdt_get hr (k := 0) (x := x) rfl
  refine ⟨b, off, rfl, hlt, f0, f1, ⟨_, _, rfl, by omega, by omega, ?_⟩, fun h1 => ⟨_, _, rfl, by omega, by omega, ?_⟩⟩
  · refine .inr ⟨b, off + 2, rfl, hlt, fun j u hj => ?_⟩
    have hg : (cls (x :: rest))[j + 2]? = some u := by rw [cls_cons]; simpa using hj
    obtain ⟨b2, off2, e2, _, hc2⟩ := Rd.get hr hg
    cases e2
    rw [show off + 2 + j = off + (j + 2) by omega]; exact hc2
  · have : rest = [] := List.eq_nil_of_length_eq_zero (by omega)
    rw [this]; exact .inl rfl
/-- What was picked among the first k lists. -/
def PickK (rs : List (List TT)) (k : Nat) (f : Int) : Prop :=
  (f = -1 ∧ ∀ j ys, j < k → rs[j]? = some ys → ys = []) ∨
  ∃ i x rest, f = (i : Nat) ∧ i < k ∧ rs[i]? = some (x :: rest) ∧ ∀ j y ys, j < k → rs[j]? = some (y :: ys) → x.1 ≤ y.1 ∧ (j < i → x.1 < y.1)
theorem pick_zero (rs : List (List TT)) : PickK rs 0 (-1) := .inl ⟨rfl, fun j ys h => by omega⟩
theorem pick_empty {rs : List (List TT)} {k : Nat} {f : Int} (h : PickK rs k f) (hk : rs[k]? = some []) : PickK rs (k + 1) f := by
  rcases h with ⟨rfl, h⟩ | ⟨i, x, rest, rfl, h1, h2, h3⟩
  · refine .inl ⟨rfl, fun j ys hj hy => ?_⟩
    by_cases e : j = k
    · subst e; rw [hk] at hy; cases hy; rfl
    · exact h j ys (by omega) hy
  · refine .inr ⟨i, x, rest, rfl, by omega, h2, fun j y ys hj hy => ?_⟩
    by_cases e : j = k
    · subst e; rw [hk] at hy; cases hy
    · exact h3 j y ys (by omega) hy
theorem pick_first {rs : List (List TT)} {k : Nat} {y : TT} {ys : List TT} (h : PickK rs k (-1)) (hk : rs[k]? = some (y :: ys)) : PickK rs (k + 1) k := by
  rcases h with ⟨_, h⟩ | ⟨i, x, rest, e, _⟩
  · refine .inr ⟨k, y, ys, rfl, by omega, hk, fun j z zs hj hz => ?_⟩
    by_cases e : j = k
    · subst e; rw [hk] at hz; cases hz; exact ⟨Int.le_refl _, fun h => by omega⟩
    · have := h j _ (by omega) hz; cases this
  · omega
theorem pick_lt {rs : List (List TT)} {k i : Nat} {x y : TT} {rest ys : List TT} (h : PickK rs k i) (hi : rs[i]? = some (x :: rest)) (hk : rs[k]? = some (y :: ys)) (hlt : y.1 < x.1) : PickK rs (k + 1) k := by
  rcases h with ⟨e, h⟩ | ⟨i2, x2, rest2, e, h1, h2, h3⟩
  · omega
  · have : i2 = i := by omega
    subst this
    rw [hi] at h2; cases h2
    refine .inr ⟨k, y, ys, rfl, by omega, hk, fun j z zs hj hz => ?_⟩
    by_cases e : j = k
    · subst e; rw [hk] at hz; cases hz; exact ⟨Int.le_refl _, fun h => by omega⟩
    · have := (h3 j z zs (by omega) hz).1; exact ⟨by omega, fun _ => by omega⟩
theorem pick_ge {rs : List (List TT)} {k i : Nat} {x y : TT} {rest ys : List TT} (h : PickK rs k i) (hi : rs[i]? = some (x :: rest)) (hk : rs[k]? = some (y :: ys)) (hlt : ¬ y.1 < x.1) : PickK rs (k + 1) i := by
  rcases h with ⟨e, h⟩ | ⟨i2, x2, rest2, e, h1, h2, h3⟩
  · omega
  · have : i2 = i := by omega
    subst this
    rw [hi] at h2; cases h2
    refine .inr ⟨i2, x, rest, rfl, by omega, hi, fun j z zs hj hz => ?_⟩
    by_cases e : j = k
    · subst e; rw [hk] at hz; cases hz; exact ⟨by omega, fun h => by omega⟩
    · exact h3 j z zs (by omega) hz
theorem pick_all {rs : List (List TT)} {i : Nat} (h : PickK rs rs.length i) : ∃ x rest, Picked rs i x rest := by
  rcases h with ⟨e, h⟩ | ⟨i2, x2, rest2, e, h1, h2, h3⟩
  · omega
  · have : i2 = i := by omega
    subst this
    exact ⟨x2, rest2, h2, fun j y ys hj => h3 j y ys (List.getElem?_eq_some_iff.1 hj).1 hj⟩
theorem pick_none {rs : List (List TT)} (h : PickK rs rs.length (-1)) : rs.flatten = [] := by
  rcases h with ⟨e, h⟩ | ⟨i2, x2, rest2, e, h1, h2, h3⟩
  · refine none_sort fun l hl => ?_
    obtain ⟨i, hi⟩ := List.mem_iff_getElem?.1 hl
    exact h i l (List.getElem?_eq_some_iff.1 hi).1 hi
  · omega
theorem pick_cases {rs : List (List TT)} {k : Nat} {f : Int} (h : PickK rs k f) : f = -1 ∨ ∃ i x rest, f = (i : Nat) ∧ i < k ∧ rs[i]? = some (x :: rest) := by
  rcases h with ⟨e, h⟩ | ⟨i2, x2, rest2, e, h1, h2, h3⟩
  · exact .inl e
  · exact .inr ⟨i2, x2, rest2, e, h1, h2⟩
theorem rd_adds {w : World} {A : Addr} {vs : List Value} (h : Rd w w.heap.size (some A) vs) : ∀ j u, vs[j]? = some u → w.cell? (A.add j) = some u := by
  intro j u hj
  obtain ⟨b, off, e, hlt, hc⟩ := Rd.get h hj
  cases e
  by_cases z : j = 0
  · subst z; simpa [Addr.add] using hc
  · simpa [Addr.add, z] using hc
theorem info26 : (Try.prog.info? 26).map (fun i => (i.zero, i.size, i.bytes)) = some (some (.slice none 0 0), 1, 24) := by kernel_rfl
theorem run_slnil (A : Addr) (m c : Nat) (W : World) : Sem.run Try.prog (binOp BinOp.eql 22 (Value.slice (some A) m c) (Value.slice none 0 0)) W = .ok (.bool false) W := by
  have h0 : ∀ d : Nat, (Op.equalIn (d + 1) 22 (Value.slice (some A) m c) (Value.slice none 0 0)).run Try.prog W = .ok false W := fun d => by simp [Op.equalIn, run_underlying Try.underlying22]
  have h1 := h0 9999
  have e : Op.equal 22 (Value.slice (some A) m c) (Value.slice none 0 0) = Op.equalIn (9999 + 1) 22 (Value.slice (some A) m c) (Value.slice none 0 0) := rfl
  rw [← e] at h1
  simp [binOp, go_sem, h1]
/-- A row of slices in new memory. -/
def NewSl (w : World) (m : Nat) (vs : List Value) (e : Ending) (w' : World) : Prop := ∃ g c, e = .returned (.slice (some ⟨g, 0, none⟩) m c) ∧ w'.ownsRow w.heap.size 26 1 (.slice (some ⟨g, 0, none⟩) m c) m vs ∧ Below w.heap.size w w'
set_option maxHeartbeats 2000000 in
set_option maxRecDepth 100000 in
theorem clone_any (A : Addr) (m c : Nat) (vs : List Value) (w : World) (hl : vs.length = m) (hm : m ≤ 1000) (h1 : ∀ u ∈ vs, u.oneCell' = true) (hr : Rd w w.heap.size (some A) vs) :
    Calls Try.prog 34 #[.slice (some A) m c] w (NewSl w m vs) := by
  obtain ⟨i0, hi, hz0, hz1, hz2⟩ := info_parts info26
  have oR : Hid ((w.alloc (.cells #[] 26)).ownsRow w.heap.size 26 1 (.slice (some ⟨w.heap.size, 0, none⟩) 0 0) 0 []) := Lib.hid (World.ownsRow_made w (base := w.heap.size) (e := 26) (size := 1) #[] 0 (by simp) (by simp [maxLen]) (by simp))
  have bR : Hid (Below w.heap.size w (w.alloc (.cells #[] 26))) := Lib.hid (bel_alloc (Below.refl _ _) _)
  have HN : Hid (∀ j u, vs[j]? = some u → (w.alloc (.cells #[] 26)).cell? (A.add j) = some u) := Lib.hid (rd_adds (Rd.later hr (bel_alloc (Below.refl _ _) _)))
  have H1 := Lib.hid h1
  have HL := Lib.hid hl
  have hq := run_slnil A m c
  clear hr h1 hl
  go_enter Try.func34, Try.ntmps34
  go_wp2_with (at_builtin; refine wpList_append_own_at _ rfl (.tmp 5) (.tmp 6) 22 rfl w.heap.size 26 i0 (.slice none 0 0) 1 24 Try.underlying22 hi hz0 hz1 hz2 rfl (by decide) (.slice (some ⟨w.heap.size, 0, none⟩) 0 0) 0 [] rfl oR.out A m c vs rfl (by rw [HL.out]; omega) HN.out H1.out (by simp only [maxLen]; omega) (by omega) (by simp) ?_; intro v' w1 hown' hgrow hnil hat; have O1 := Lib.hid hown'; have N1 := Lib.hid hnil; have B1 : Hid (Below w.heap.size w w1) := Lib.hid (grown_bel bR.out hgrow oR.out (Nat.le_refl _) (by simp)); clear hown' hgrow hat hnil)
  have ho := O1.out
  rw [Nat.zero_add, List.nil_append] at ho
  rcases id ho.2 with ⟨rfl, e⟩ | ⟨g, cap, cur, rfl, _⟩
  · exact absurd (N1.out.1 rfl).1 (by simp)
  · exact bodyPost_ret (v := .slice (some ⟨g, 0, none⟩) m cap) (by simp [results, Try.results34, go_sem]) rfl ⟨g, cap, rfl, ho, B1.out⟩
end Go.Proofs.Ytpijaphcknoobaa
