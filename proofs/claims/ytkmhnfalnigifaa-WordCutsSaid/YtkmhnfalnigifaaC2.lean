/- The answer package's TakeTexts: its walk. -/
import Derived.Test.YtkmhnfalnigifaaC1
namespace Go.Proofs.Ytkmhnfalnigifaa
set_option linter.unusedSimpArgs false
open Go.RowKit
set_option linter.unusedVariables false

set_option maxRecDepth 100000 in
set_option maxHeartbeats 4000000 in
theorem rtakeTexts_any (s : ByteArray) (many most : Int) (w : World) (hm : many ≤ 100000) :
    Calls Try.prog 20 #[.string s, .int .i64 many, .int .i64 most] w (GotTexts (st s most many.toNat) w) := by
  obtain ⟨i0, hi0, hz0, hz1, hz2⟩ := info_parts info9
  go_enter Try.func20, Try.ntmps20
  go_wp2
  go_loopw [0, 9, 10] (fun sv lv iv wr => ∃ k : Nat, iv = .int .i64 k ∧ StRel s most w many.toNat k sv lv wr) (fun _ _ i _ => many.toNat - (intOf i).toNat)
  case atStart => exact ⟨0, rfl, some ⟨w.heap.size, 0, none⟩, 0, by omega, rfl, rfl, rfl, World.ownsRow_made w #[] 0 (Nat.le_refl _) (by decide) rfl, (Below.refl _ _).alloc (Nat.le_refl _) _⟩
  case round =>
    obtain ⟨k, rfl, A, c, hk, rfl, rfl, h0, hown, hB⟩ := hrel
    obtain ⟨⟨l, R, e0⟩, hst⟩ : ∃ t, t = st s most k := ⟨_, rfl⟩
    rw [← hst] at h0 hown ⊢
    simp only at h0 hown ⊢
    subst h0
    by_cases h8 : many ≤ (k : Int)
    · have hkk : many.toNat = k := by omega
      have hn : ¬ (k : Int) < many := by omega
      have hlen := st_len s most k (by rw [← hst])
      rw [← hst] at hlen
      have HS : Hid (st s most many.toNat = (l, R, 0) ∧ l.length = k) := Lib.hid ⟨by rw [hkk, hst], hlen⟩
      have HO := Lib.hid hown
      clear hst hkk hlen hown
      go_wp2
      refine bodyPost_ret (v := .tuple #[.slice A k c, .string R, .int .i64 0]) (by simp [results, Try.results20, go_sem]) rfl ⟨A, c, by rw [HS.out.1]; simp only [HS.out.2], by rw [HS.out.1]; exact Rd.of_own HO.out (by omega), hB⟩
    · have hn : (k : Int) < many := by omega
      have hn' : decide ((k : Int) < many) = true := by simpa using hn
      obtain ⟨⟨x, r, er⟩, ht⟩ : ∃ t, t = ttF R most := ⟨_, rfl⟩
      have C := fun w => rtakeText_any R most w
      rw [← ht] at C
      simp only [ttV] at C
      have CC := Lib.hid C
      have HO := Lib.hid hown
      by_cases he : er = 0
      · subst he
        have HS := Lib.hid (st_next s most k hst.symm ht.symm)
        clear hst ht C hown
        go_wp2_with fail
        refine (CC.out _).mono ?_
        rintro e w1 ⟨rfl, hb⟩
        have hB1 := bel_step hB hb (Nat.le_refl _)
        have hown1 := own_bel HO.out hb
        go_wp2_with (at_builtin; refine wpList_append_lies _ rfl (.tmp 31) (.tmp 33) _ rfl w.heap.size 9 i0 _ 1 16 Try.underlying35 hi0 hz0 hz1 hz2 rfl (by omega) (.slice A k c) k (l.map Value.string) rfl (hown1.alloc _) ⟨w1.heap.size, 0, none⟩ 1 1 [.string x] rfl rfl (World.news_of_block (cs := #[.string x]) (t := 9) (fr := (0, 0)) (heap_alloc_new w1 _)) (by simp [Value.oneCell']) (by omega) (by simp only [maxLen]; omega) (by omega) (by have := hB1.size; simp; omega) (w1.heap.size + 1) (by simp) ?_; intro g cap w2 hown2 hg2 hat2 hlt2)
        refine ⟨⟨k + 1, by simp, some ⟨g, 0, none⟩, cap, by omega, ?_, rfl, by rw [HS.out], ?_, ?_⟩, by simp [intOf]; omega⟩
        · rw [HS.out]
        · rw [HS.out]; simpa using hown2
        · exact grown_bel (bel_alloc hB1 _) hg2 (hown1.alloc _) (Nat.le_refl _) (bel_alloc hB1 _).size
      · have HS := Lib.hid (st_err s most k many.toNat hst.symm ht.symm he (by omega))
        clear hst ht C hown
        go_wp2_with fail
        refine (CC.out _).mono ?_
        rintro e w1 ⟨rfl, hb⟩
        have hB1 := bel_step hB hb (Nat.le_refl _)
        go_wp2
        refine bodyPost_ret (v := .tuple #[.slice (some ⟨w1.heap.size, 0, none⟩) 0 0, .string ⟨#[]⟩, .int .i64 er]) (by simp [results, Try.results20, go_sem]) rfl ⟨some ⟨w1.heap.size, 0, none⟩, 0, by rw [HS.out]; rfl, by rw [HS.out]; exact Rd.nil, bel_alloc hB1 _⟩
end Go.Proofs.Ytkmhnfalnigifaa
