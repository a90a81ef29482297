/- The word functions: TakeTexts' walk. -/
import Derived.Test.YtkmhnfalnigifaaB9
namespace Go.Proofs.Ytkmhnfalnigifaa
set_option linter.unusedSimpArgs false
open Go.RowKit
set_option linter.unusedVariables false

theorem rtakeText_any (s : ByteArray) (most : Int) (w : World) :
    Calls Try.prog 18 #[.string s, .int .i64 most] w fun e w' => e = .returned (ttV (ttF s most)) ∧ Below w.heap.size w w' :=
  rtakeText_gen s _ _ _ most w (tnF_lo s) (fun w => rtakeNum_any s w)

/-- The texts that a text begins with: so many of them, what stands behind them, and why there are none. -/
def st (s : ByteArray) (most : Int) : Nat → List ByteArray × ByteArray × Int
  | 0 => ([], s, 0)
  | k + 1 =>
    if (st s most k).2.2 ≠ 0 then st s most k
    else if (ttF (st s most k).2.1 most).2.2 ≠ 0 then ([], ⟨#[]⟩, (ttF (st s most k).2.1 most).2.2)
    else ((st s most k).1 ++ [(ttF (st s most k).2.1 most).1], (ttF (st s most k).2.1 most).2.1, 0)
theorem st_more (s : ByteArray) (most : Int) (k : Nat) (h : (st s most k).2.2 ≠ 0) : ∀ j, st s most (k + j) = st s most k
  | 0 => rfl
  | j + 1 => by
    have e := st_more s most k h j
    rw [show k + (j + 1) = (k + j) + 1 by omega, st, e, if_pos h]
theorem st_len (s : ByteArray) (most : Int) : ∀ k, (st s most k).2.2 = 0 → (st s most k).1.length = k
  | 0, _ => rfl
  | k + 1, h => by
    unfold st at h ⊢
    by_cases c : (st s most k).2.2 ≠ 0
    · rw [if_pos c] at h; exact absurd h c
    · rw [if_neg c] at h ⊢
      by_cases d : (ttF (st s most k).2.1 most).2.2 ≠ 0
      · rw [if_pos d] at h; exact absurd h d
      · rw [if_neg d]
        have := st_len s most k (by omega)
        simp [this]

theorem info9 : (Try.prog.info? 9).map (fun i => (i.zero, i.size, i.bytes)) = some (some (.string ⟨#[]⟩), 1, 16) := by kernel_rfl

/-- A list of texts, a text, and a number are answered. -/
def GotTexts (F : List ByteArray × ByteArray × Int) (w : World) (e : Ending) (w' : World) : Prop :=
  ∃ A c, e = .returned (.tuple #[.slice A F.1.length c, .string F.2.1, .int .i64 F.2.2]) ∧ Rd w' w'.heap.size A (F.1.map Value.string) ∧ Below w.heap.size w w'

/-- A loop's state: k texts were taken. -/
def StRel (s : ByteArray) (most : Int) (w : World) (many k : Nat) (sv lv : Value) (wr : World) : Prop :=
  ∃ A c, k ≤ many ∧ sv = .string (st s most k).2.1 ∧ lv = .slice A k c ∧ (st s most k).2.2 = 0 ∧ wr.ownsRow w.heap.size 9 1 (.slice A k c) k ((st s most k).1.map Value.string) ∧ Below w.heap.size w wr

theorem st_next (s : ByteArray) (most : Int) (k : Nat) {R x r : ByteArray} {l : List ByteArray} (h : st s most k = (l, R, 0)) (ht : ttF R most = (x, r, 0)) : st s most (k + 1) = (l ++ [x], r, 0) := by
  rw [st, h]; simp [ht]
theorem st_err (s : ByteArray) (most : Int) (k many : Nat) {R x r : ByteArray} {l : List ByteArray} {e : Int} (h : st s most k = (l, R, 0)) (ht : ttF R most = (x, r, e)) (he : e ≠ 0) (hk : k < many) : st s most many = ([], ⟨#[]⟩, e) := by
  have q : st s most (k + 1) = ([], ⟨#[]⟩, e) := by rw [st, h]; simp [ht, he]
  have := st_more s most (k + 1) (by rw [q]; exact he) (many - (k + 1))
  rw [show k + 1 + (many - (k + 1)) = many by omega] at this
  rw [this, q]

set_option maxRecDepth 100000 in
set_option maxHeartbeats 4000000 in
theorem takeTexts_any (s : ByteArray) (many most : Int) (w : World) (hm : many ≤ 100000) :
    Calls Try.prog 19 #[.string s, .int .i64 many, .int .i64 most] w (GotTexts (st s most many.toNat) w) := by
  obtain ⟨i0, hi0, hz0, hz1, hz2⟩ := info_parts info9
  go_enter Try.func19, Try.ntmps19
  go_wp2
  go_loopw [0, 9] (fun sv lv wr => ∃ k, StRel s most w many.toNat k sv lv wr) (fun _ l _ => many.toNat - slen l)
  case atStart => exact ⟨0, none, 0, by omega, rfl, rfl, rfl, World.ownsRow_nil _ _ _ _, Below.refl _ _⟩
  case round =>
    obtain ⟨k, A, c, hk, rfl, rfl, h0, hown, hB⟩ := hrel
    obtain ⟨⟨l, R, e0⟩, hst⟩ : ∃ t, t = st s most k := ⟨_, rfl⟩
    rw [← hst] at h0 hown ⊢
    simp only at h0 hown ⊢
    subst h0
    by_cases h8 : many ≤ (k : Int)
    · have hkk : many.toNat = k := by omega
      have hn : ¬ (k : Int) < many := by omega
      have hlen := st_len s most k (by rw [← hst])
      rw [← hst] at hlen
      have HS : Hid (st s most many.toNat = (l, R, 0) ∧ l.length = k) := Lib.hid ⟨by rw [hkk, hst], hlen⟩
      have HO := Lib.hid hown
      clear hst hkk hlen hown
      go_wp2
      refine bodyPost_ret (v := .tuple #[.slice A k c, .string R, .int .i64 0]) (by simp [results, Try.results19, go_sem]) rfl ⟨A, c, by rw [HS.out.1]; simp only [HS.out.2], by rw [HS.out.1]; exact Rd.of_own HO.out (by omega), hB⟩
    · have hn : (k : Int) < many := by omega
      have hn' : decide ((k : Int) < many) = true := by simpa using hn
      obtain ⟨⟨x, r, er⟩, ht⟩ : ∃ t, t = ttF R most := ⟨_, rfl⟩
      have C := fun w => takeText_any R most w
      rw [← ht] at C
      simp only [ttV] at C
      have CC := Lib.hid C
      have HO := Lib.hid hown
      by_cases he : er = 0
      · subst he
        have HS := Lib.hid (st_next s most k hst.symm ht.symm)
        clear hst ht C hown
        go_wp2_with fail
        refine (CC.out _).mono ?_
        rintro e w1 ⟨rfl, hb⟩
        have hB1 := bel_step hB hb (Nat.le_refl _)
        have hown1 := own_bel HO.out hb
        go_wp2_with (at_builtin; refine wpList_append_lies _ rfl (.tmp 27) (.tmp 29) _ rfl w.heap.size 9 i0 _ 1 16 Try.underlying35 hi0 hz0 hz1 hz2 rfl (by omega) (.slice A k c) k (l.map Value.string) rfl (hown1.alloc _) ⟨w1.heap.size, 0, none⟩ 1 1 [.string x] rfl rfl (World.news_of_block (cs := #[.string x]) (t := 9) (fr := (0, 0)) (heap_alloc_new w1 _)) (by simp [Value.oneCell']) (by omega) (by simp only [maxLen]; omega) (by omega) (by have := hB1.size; simp; omega) (w1.heap.size + 1) (by simp) ?_; intro g cap w2 hown2 hg2 hat2 hlt2)
        refine ⟨⟨k + 1, some ⟨g, 0, none⟩, cap, by omega, ?_, rfl, by rw [HS.out], ?_, ?_⟩, by simp [slen]; omega⟩
        · rw [HS.out]
        · rw [HS.out]; simpa using hown2
        · exact grown_bel (bel_alloc hB1 _) hg2 (hown1.alloc _) (Nat.le_refl _) (bel_alloc hB1 _).size
      · have HS := Lib.hid (st_err s most k many.toNat hst.symm ht.symm he (by omega))
        clear hst ht C hown
        go_wp2_with fail
        refine (CC.out _).mono ?_
        rintro e w1 ⟨rfl, hb⟩
        have hB1 := bel_step hB hb (Nat.le_refl _)
        go_wp2
        refine bodyPost_ret (v := .tuple #[.slice none 0 0, .string ⟨#[]⟩, .int .i64 er]) (by simp [results, Try.results19, go_sem]) rfl ⟨none, 0, by rw [HS.out]; rfl, by rw [HS.out]; exact Rd.nil, hB1⟩
end Go.Proofs.Ytkmhnfalnigifaa
