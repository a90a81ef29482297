/- The lists that a law takes. -/
import Derived.Test.YtpijaphcknoobaaZ3
namespace Go.Proofs.Ytpijaphcknoobaa
set_option linter.unusedSimpArgs false
open Go.RowKit Go.Shelf
set_option linter.unusedVariables false

/-- The first lists, the first things of each. -/
def fews (rs : List (List TT)) (k : Nat) : List (List TT) := (rs.take k).map (fun l => l.take 20)
theorem fews_snoc {rs : List (List TT)} {k : Nat} {ys : List TT} (h : rs[k]? = some ys) : fews rs (k + 1) = fews rs k ++ [ys.take 20] := by
  unfold fews
  obtain ⟨hk, e⟩ := List.getElem?_eq_some_iff.1 h
  rw [List.take_succ_eq_append_getElem hk, e]; simp
theorem fews_len {rs : List (List TT)} {k : Nat} (h : k ≤ rs.length) : (fews rs k).length = k := by
  unfold fews; simp; omega
theorem fews_20 (rs : List (List TT)) (k : Nat) : ∀ l ∈ fews rs k, l.length ≤ 20 := by
  intro l hl
  unfold fews at hl
  obtain ⟨ys, _, rfl⟩ := List.mem_map.1 hl
  exact List.length_take_le _ _
theorem Sls.snoc {w : World} {vs : List Value} {rs : List (List TT)} (h : Sls w vs rs) {u : Value} {ys : List TT} (hu : Sl w u ys) : Sls w (vs ++ [u]) (rs ++ [ys]) := by
  refine ⟨by simp [h.1], fun i zs hi => ?_⟩
  by_cases e : i < rs.length
  · rw [List.getElem?_append_left e] at hi
    obtain ⟨v, h1, h2⟩ := h.2 i zs hi
    exact ⟨v, by rw [List.getElem?_append_left (by rw [h.1]; exact e)]; exact h1, h2⟩
  · rw [List.getElem?_append_right (by omega)] at hi
    have hi0 : i - rs.length = 0 := by
      have := (List.getElem?_eq_some_iff.1 hi).1; simp at this; omega
    rw [hi0] at hi
    simp at hi
    subst hi
    exact ⟨u, by rw [List.getElem?_append_right (by rw [h.1]; omega), h.1, hi0]; rfl, hu⟩
/-- How lists ends. -/
def LsPost (w : World) (qs : List (List TT)) (e : Ending) (w' : World) : Prop :=
  ∃ (g cc : Nat) (b : Bool) (us : List Value), e = .returned (.tuple #[.slice (some ⟨g, 0, none⟩) qs.length cc, .bool b]) ∧ (b = true ↔ ∀ l ∈ qs, Srt l) ∧ Rd w' w'.heap.size (some ⟨g, 0, none⟩) us ∧ Sls w' us qs ∧ Below w.heap.size w w'
theorem all_snoc {qs : List (List TT)} {z : List TT} {b b2 : Bool} (h : b = true ↔ ∀ l ∈ qs, Srt l) (h2 : b2 = true ↔ Srt z) : (b && b2) = true ↔ ∀ l ∈ qs ++ [z], Srt l := by
  rw [Bool.and_eq_true, h, h2]
  constructor
  · rintro ⟨h1, h2⟩ l hl
    rcases List.mem_append.1 hl with hl | hl
    · exact h1 l hl
    · rw [List.mem_singleton] at hl; subst hl; exact h2
  · intro h
    exact ⟨fun l hl => h l (by simp [hl]), h z (by simp)⟩
theorem all_snoc_f {qs : List (List TT)} {z : List TT} (h : false = true ↔ ∀ l ∈ qs, Srt l) : false = true ↔ ∀ l ∈ qs ++ [z], Srt l := by
  constructor
  · intro h; cases h
  · intro h2; exact h.2 (fun l hl => h2 l (by simp [hl]))
set_option maxHeartbeats 4000000 in
set_option maxRecDepth 100000 in
theorem lists_any (A : Option Addr) (m c : Nat) (vs : List Value) (rs : List (List TT)) (w : World) (hl : rs.length = m) (hR : Rd w w.heap.size A vs) (hS : Sls w vs rs) :
    Calls Try.prog 7 #[.slice A m c] w (LsPost w (fews rs (min m 8))) := by
  have HR := Lib.hid hR
  have HS := Lib.hid hS
  have HL := Lib.hid hl
  obtain ⟨i0, hi, hz0, hz1, hz2⟩ := info_parts info26
  have oR : Hid ((w.alloc (.cells #[] 26)).ownsRow w.heap.size 26 1 (.slice (some ⟨w.heap.size, 0, none⟩) 0 0) 0 []) := Lib.hid (World.ownsRow_made w (base := w.heap.size) (e := 26) (size := 1) #[] 0 (by simp) (by simp [maxLen]) (by simp))
  have bR : Hid (Below w.heap.size w (w.alloc (.cells #[] 26))) := Lib.hid (bel_alloc (Below.refl _ _) _)
  clear hR hS hl
  go_enter Try.func7, Try.ntmps7
  go_wp2
  go_loopw [4, 5, 6] (fun ov okv iv wr => ∃ (k : Nat) (us : List Value) (bb : Bool) (g cc : Nat), k ≤ m ∧ k ≤ 8 ∧ iv = .int .i64 k ∧ okv = .bool bb ∧ ov = .slice (some ⟨g, 0, none⟩) k cc ∧ (bb = true ↔ ∀ l ∈ fews rs k, Srt l) ∧ wr.ownsRow w.heap.size 26 1 (.slice (some ⟨g, 0, none⟩) k cc) k us ∧ Sls w us (fews rs k) ∧ Below w.heap.size w wr) (fun _ _ i _ => 8 - (intOf i).toNat)
  case atStart => exact ⟨0, [], true, w.heap.size, 0, Nat.zero_le _, Nat.zero_le _, rfl, rfl, rfl, by simp [fews], oR.out, ⟨rfl, fun i ys h => by simp [fews] at h⟩, bR.out⟩
  case round =>
    obtain ⟨k, us, bb, g, cc, hk, hk8, rfl, rfl, rfl, hbb, hown, hsl, hB⟩ := hrel
    have HBB := Lib.hid hbb
    have HO := Lib.hid hown
    have HSL := Lib.hid hsl
    have HB := Lib.hid hB
    clear hbb hown hsl hB
    by_cases h8 : k < m ∧ k < 8
    · obtain ⟨h8, h9⟩ := h8
      have q1 : (k : Int) < (m : Int) := by omega
      have q2 : (k : Int) < 8 := by omega
      have q0 : (0 : Int) ≤ (k : Int) := by omega
      obtain ⟨ys, hys⟩ : ∃ ys, rs[k]? = some ys := ⟨_, List.getElem?_eq_getElem (by rw [HL.out]; omega)⟩
      obtain ⟨u, hu, Ay, cy, rfl, hcy1, hcy2, hry⟩ := HS.out.2 k ys hys
      obtain ⟨bA, oA, rfl, hAl, gA⟩ := Rd.get HR.out hu
      have FN := Lib.hid (fews_snoc hys)
      obtain ⟨q, hq⟩ : ∃ q, q = min ys.length 20 := ⟨_, rfl⟩
      have zl : (ys.take 20).length = q := by rw [List.length_take, hq]; omega
      have FE : Hid (∀ U, Calls Try.prog 17 #[.slice Ay ys.length cy] U fun e w' => e = .returned (.slice Ay q cy) ∧ U = w') := Lib.hid (fun U => by rw [hq]; exact few_any Ay ys.length cy U hcy1 (Nat.le_trans hcy2 (by decide)))
      have ZS : Hid (Sl w (.slice Ay q cy) (ys.take 20)) := Lib.hid ⟨Ay, cy, by rw [zl], by omega, hcy2, rdt_take hry 20⟩
      have SO : Hid (∀ U, Below w.heap.size w U → Calls Try.prog 15 #[.slice Ay q cy] U (SrtPost U (ys.take 20))) := Lib.hid (fun U hU => sorted_any Ay (ys.take 20) q cy U zl (by omega) (Rd.later (rdt_take hry 20) hU))
      have g0 : wr.cell? ⟨bA, oA + k, none⟩ = some (.slice Ay ys.length cy) := (bel_cell HB.out hAl).trans gA
      have GA : Hid (∀ U, Below w.heap.size w U → U.cell? ⟨bA, oA + k, none⟩ = some (.slice Ay ys.length cy)) := Lib.hid (fun U hU => (bel_cell hU hAl).trans gA)
      have FA : Hid (k + 1 ≤ maxLen) := Lib.hid (by simp only [maxLen]; omega)
      have FB : Hid ((k + 1) * 24 ≤ 140737488355328) := Lib.hid (by omega)
      have FC : Hid (w.heap.size ≤ (wr.alloc (.cells #[.slice Ay q cy] 26)).heap.size) := Lib.hid (by have := HB.out.size; simp; omega)
      have NW : Hid (∀ (j : Nat) (u : Value), ([Value.slice Ay q cy] : List Value)[j]? = some u → (wr.alloc (.cells #[.slice Ay q cy] 26)).cell? ((⟨wr.heap.size, 0, none⟩ : Addr).add j) = some u) := Lib.hid (World.news_of_block (cs := #[.slice Ay q cy]) (t := 26) (fr := (0, 0)) (by simpa using World.alloc_heap_new wr (.cells #[.slice Ay q cy] 26)))
      clear hys hu hry gA hcy1 hcy2 hq zl hAl
      have go1 : ∀ {P : Prop}, P → P := fun h => h
      clear go1
      cases bb with
      | true =>
        go_wp2_with (first
          | (go_at_call 17; ((with_reducible refine (FE.out _).mono ?_); rintro e w1 ⟨rfl, rfl⟩))
          | (at_builtin; refine wpList_append_own_at _ rfl (.tmp 18) (.tmp 24) 22 rfl w.heap.size 26 i0 (.slice none 0 0) 1 24 Try.underlying22 hi hz0 hz1 hz2 rfl (by decide) (.slice (some ⟨g, 0, none⟩) k cc) k us rfl (HO.out.alloc _) ⟨wr.heap.size, 0, none⟩ 1 1 [.slice Ay q cy] rfl rfl NW.out (by simp [Value.oneCell']) FA.out FB.out FC.out ?_; intro v' w1 hown' hgrow hnil hat; have O1 := Lib.hid hown'; have bb1 : Below w.heap.size w w1 := grown_bel (bel_trans HB.out (bel_alloc (Below.refl _ _) (.cells #[.slice Ay q cy] 26))) hgrow (HO.out.alloc _) (Nat.le_refl _) FC.out; have BB1 := Lib.hid bb1; have g1 := GA.out _ bb1; have SC := Lib.hid (SO.out _ bb1); clear bb1 hown' hgrow hat hnil)
          | (go_at_call 15; ((with_reducible refine (SC.out).mono ?_); rintro e w2 ⟨b2, rfl, hb2, hbel⟩; have HB2 := Lib.hid hb2; have BL2 := Lib.hid hbel; clear hb2 hbel)))
        obtain ⟨g2, cap2, rfl, _, _⟩ := O1.out.form (by omega)
        exact ⟨⟨k + 1, us ++ [.slice Ay q cy], b2, g2, cap2, by omega, by omega, by simp, rfl, rfl, by rw [FN.out]; have h := all_snoc (b := true) (b2 := b2) (by simpa using HBB.out) HB2.out; simpa using h, own_bel O1.out BL2.out, by rw [FN.out]; exact HSL.out.snoc ZS.out, bel_trans BB1.out BL2.out⟩, by simp [intOf]; omega⟩
      | false =>
        go_wp2_with (first
          | (go_at_call 17; ((with_reducible refine (FE.out _).mono ?_); rintro e w1 ⟨rfl, rfl⟩))
          | (at_builtin; refine wpList_append_own_at _ rfl (.tmp 18) (.tmp 24) 22 rfl w.heap.size 26 i0 (.slice none 0 0) 1 24 Try.underlying22 hi hz0 hz1 hz2 rfl (by decide) (.slice (some ⟨g, 0, none⟩) k cc) k us rfl (HO.out.alloc _) ⟨wr.heap.size, 0, none⟩ 1 1 [.slice Ay q cy] rfl rfl NW.out (by simp [Value.oneCell']) FA.out FB.out FC.out ?_; intro v' w1 hown' hgrow hnil hat; have O1 := Lib.hid hown'; have bb1 : Below w.heap.size w w1 := grown_bel (bel_trans HB.out (bel_alloc (Below.refl _ _) (.cells #[.slice Ay q cy] 26))) hgrow (HO.out.alloc _) (Nat.le_refl _) FC.out; have BB1 := Lib.hid bb1; clear bb1 hown' hgrow hat hnil))
        obtain ⟨g2, cap2, rfl, _, _⟩ := O1.out.form (by omega)
        exact ⟨⟨k + 1, us ++ [.slice Ay q cy], false, g2, cap2, by omega, by omega, by simp, rfl, rfl, by rw [FN.out]; exact all_snoc_f HBB.out, O1.out, by rw [FN.out]; exact HSL.out.snoc ZS.out, BB1.out⟩, by simp [intOf]; omega⟩
    · have ek : min m 8 = k := by omega
      have FIN : Hid (LsPost w (fews rs (min m 8)) (.returned (.tuple #[.slice (some ⟨g, 0, none⟩) k cc, .bool bb])) wr) := Lib.hid (by
        rw [ek]
        exact ⟨g, cc, bb, us, by rw [fews_len (by rw [HL.out]; exact hk)], HBB.out, Rd.of_own HO.out (by decide), HSL.out.later HB.out, HB.out⟩)
      by_cases hkm : k < m
      · have q1 : (k : Int) < (m : Int) := by omega
        have q2 : ¬ (k : Int) < 8 := by omega
        clear ek h8
        go_wp2
        exact bodyPost_ret (v := .tuple #[.slice (some ⟨g, 0, none⟩) k cc, .bool bb]) (by simp [results, Try.results7, go_sem]) rfl FIN.out
      · have q1 : ¬ (k : Int) < (m : Int) := by omega
        clear ek h8
        go_wp2
        exact bodyPost_ret (v := .tuple #[.slice (some ⟨g, 0, none⟩) k cc, .bool bb]) (by simp [results, Try.results7, go_sem]) rfl FIN.out
end Go.Proofs.Ytpijaphcknoobaa
