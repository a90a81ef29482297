/- Arenas of texts: Get and Take. -/
import Derived.Test.YtpihoegikojlaaaA1
import Derived.Deep.RegionLaw
namespace Go.Proofs.Ytpihoegikojlaaa
set_option linter.unusedSimpArgs false
open Go.RowKit
set_option linter.unusedVariables false

set_option maxRecDepth 100000 in
theorem getS_in (N n c b i : Nat) (s : ByteArray) (w : World) (h1 : w.cell? ⟨N, 1, none⟩ = some (.slice (some ⟨b, 0, none⟩) n c)) (hi : i < n) (hn : n ≤ 1000000) (h2 : w.cell? ⟨b, i * 2 + 1, none⟩ = some (.bool true)) (h3 : w.cell? ⟨b, i * 2, none⟩ = some (.string s)) :
    Calls Try.prog 19 #[.pointer (some ⟨N, 0, none⟩), .int .i64 ((i : Int) + 1)] w fun e w' => e = .returned (.tuple #[.string s, .bool true]) ∧ w = w' := by
  have C := Lib.hid (atS_in N n c b i w h1 hi hn h2)
  go_enter Try.func19, Try.ntmps19
  go_wp2_with fail
  refine C.out.mono ?_
  rintro e w1 ⟨rfl, rfl⟩
  go_wp2
  refine bodyPost_ret (v := .tuple #[.string s, .bool true]) (by simp [results, Try.results19, go_sem]) rfl ⟨rfl, rfl⟩

set_option maxRecDepth 100000 in
theorem getS_out (N n c : Nat) (A : Option Addr) (w : World) (h1 : w.cell? ⟨N, 1, none⟩ = some (.slice A n c)) (hn : n ≤ 1000000) :
    Calls Try.prog 19 #[.pointer (some ⟨N, 0, none⟩), .int .i64 ((n : Int) + 1)] w fun e w' => e = .returned (.tuple #[.string ByteArray.empty, .bool false]) ∧ w = w' := by
  have C := Lib.hid (atS_out N n c A w h1 hn)
  go_enter Try.func19, Try.ntmps19
  go_wp2_with fail
  refine C.out.mono ?_
  rintro e w1 ⟨rfl, rfl⟩
  go_wp2
  refine bodyPost_ret (v := .tuple #[.string ByteArray.empty, .bool false]) (by simp [results, Try.results19, go_sem]; try rfl) rfl ⟨rfl, rfl⟩

/-- Texts' cells in their places. -/
def flatT (l : List ByteArray) : List Value := l.flatMap fun s => [.string s, .bool true]
theorem flatT_snoc (l : List ByteArray) (s : ByteArray) : flatT (l ++ [s]) = flatT l ++ [.string s, .bool true] := by simp [flatT]
theorem flatT_get (l : List ByteArray) (i : Nat) (h : i < l.length) : (flatT l)[i * 2]? = some (.string l[i]) ∧ (flatT l)[i * 2 + 1]? = some (.bool true) := by
  induction l generalizing i with
  | nil => simp at h
  | cons x l ih =>
    have e : flatT (x :: l) = .string x :: .bool true :: flatT l := rfl
    cases i with
    | zero => rw [e]; simp
    | succ i =>
      have := ih i (by simpa using h)
      rw [e, show (i + 1) * 2 = i * 2 + 1 + 1 by omega]
      simpa using this

/-- An arena of 20 places at N, the first of which have these texts. -/
def AR (w : World) (base N : Nat) (n : Nat) (l : List ByteArray) : Prop :=
  ∃ A c, w.cell? ⟨N, 0, none⟩ = some (.int .i64 20) ∧ w.cell? ⟨N, 1, none⟩ = some (.slice A n c) ∧ w.cell? ⟨N, 2, none⟩ = some (.slice none 0 0) ∧ w.frozen? ⟨N, 1, none⟩ = false ∧
    w.ownsRow base 87 2 (.slice A n c) n (flatT l) ∧ (Value.slice A n c).ownBlock ≠ some N ∧ base ≤ N ∧ base ≤ w.heap.size

theorem info87 : (Try.prog.info? 87).map (fun i => (i.zero, i.size, i.bytes)) = some (some (.agg #[.string ⟨#[]⟩, .bool false]), 2, 24) := by kernel_rfl

set_option maxRecDepth 100000 in
set_option maxHeartbeats 2000000 in
theorem takeS (N base n : Nat) (l : List ByteArray) (s : ByteArray) (w : World) (h : AR w base N n l) (hn : n < 20) :
    Calls Try.prog 18 #[.pointer (some ⟨N, 0, none⟩), .string s] w fun e w' => e = .returned (.tuple #[.int .i64 ((n : Int) + 1), .int .i64 0]) ∧ AR w' base N (n + 1) (l ++ [s]) ∧ Below base w w' := by
  obtain ⟨i0, hi0, hz0, hz1, hz2⟩ := info_parts info87
  obtain ⟨A, c, h0, h1, h2, hf, hown, hne, hbN, hbw⟩ := h
  have C := Lib.hid (leftS_at N n 0 c 0 20 A none w h0 h1 h2 (by omega) (by omega) (by omega) (by omega))
  have HO := Lib.hid hown
  have HNE := Lib.hid hne
  have q0 : ¬ (20 - ((n : Int) - (0 : Nat)) = 0) := by omega
  have hl1 := World.block_lt_of_cell? w _ h1
  clear hown hne
  go_enter Try.func18, Try.ntmps18
  go_wp2_with fail
  refine C.out.mono ?_
  rintro e w1 ⟨rfl, hb⟩
  have g0 : w1.cell? ⟨N, 0, none⟩ = some (.int .i64 20) := bel_later hb h0
  have g1 : w1.cell? ⟨N, 1, none⟩ = some (.slice A n c) := bel_later hb h1
  have g2 : w1.cell? ⟨N, 2, none⟩ = some (.slice none 0 0) := bel_later hb h2
  have gf : w1.frozen? ⟨N, 1, none⟩ = false := (bel_frozen hb hl1).trans hf
  have own1 := Lib.hid (own_bel HO.out hb)
  clear h0 h1 h2 hf
  have hl2 : N < w1.heap.size := Nat.lt_of_lt_of_le hl1 hb.size
  have hW : Below w1.heap.size w1 (w1.alloc (.cells #[.string s, .bool true] 87)) := by go_grown
  have k0 : (w1.alloc (.cells #[.string s, .bool true] 87)).cell? ⟨N, 0, none⟩ = some (.int .i64 20) := bel_later hW g0
  have k1 : (w1.alloc (.cells #[.string s, .bool true] 87)).cell? ⟨N, 1, none⟩ = some (.slice A n c) := bel_later hW g1
  have k2 : (w1.alloc (.cells #[.string s, .bool true] 87)).cell? ⟨N, 2, none⟩ = some (.slice none 0 0) := bel_later hW g2
  have kf : (w1.alloc (.cells #[.string s, .bool true] 87)).frozen? ⟨N, 1, none⟩ = false := (bel_frozen hW hl2).trans gf
  have own2 := Lib.hid (own_bel own1.out hW)
  have p0 : (w1.alloc (.cells #[.string s, .bool true] 87)).cell? ⟨w1.heap.size, 0, none⟩ = some (.string s) := by simp [go_sem]
  have p1 : (w1.alloc (.cells #[.string s, .bool true] 87)).cell? ⟨w1.heap.size, 1, none⟩ = some (.bool true) := by simp [go_sem]
  have hs1 : (w1.alloc (.cells #[.string s, .bool true] 87)).heap.size = w1.heap.size + 1 := by simp
  have hW0 : Below base w (w1.alloc (.cells #[.string s, .bool true] 87)) := (hb.mono hbw).trans (hW.mono (by have := hb.size; omega))
  clear g0 g1 g2 gf
  go_wp2_with fail
  generalize w1.alloc (.cells #[.string s, .bool true] 87) = W at *
  have hNW : N < W.heap.size := by omega
  have hWY : Below W.heap.size W (W.drew.alloc (.cells #[.string s, .bool true] 87)) := by go_grown
  have y0 : (W.drew.alloc (.cells #[.string s, .bool true] 87)).cell? ⟨N, 0, none⟩ = some (.int .i64 20) := bel_later hWY k0
  have y1 : (W.drew.alloc (.cells #[.string s, .bool true] 87)).cell? ⟨N, 1, none⟩ = some (.slice A n c) := bel_later hWY k1
  have y2 : (W.drew.alloc (.cells #[.string s, .bool true] 87)).cell? ⟨N, 2, none⟩ = some (.slice none 0 0) := bel_later hWY k2
  have yf : (W.drew.alloc (.cells #[.string s, .bool true] 87)).frozen? ⟨N, 1, none⟩ = false := (bel_frozen hWY hNW).trans kf
  have yp0 : (W.drew.alloc (.cells #[.string s, .bool true] 87)).cell? ⟨w1.heap.size, 0, none⟩ = some (.string s) := bel_later hWY p0
  have yp1 : (W.drew.alloc (.cells #[.string s, .bool true] 87)).cell? ⟨w1.heap.size, 1, none⟩ = some (.bool true) := bel_later hWY p1
  have own3 := Lib.hid (own_bel own2.out hWY)
  have hbW : base ≤ (W.drew.alloc (.cells #[.string s, .bool true] 87)).heap.size := Nat.le_trans hbw (by simp; have := hb.size; omega)
  have hNY : N < (W.drew.alloc (.cells #[.string s, .bool true] 87)).heap.size := by simp; omega
  have hBa : Below base w (W.drew.alloc (.cells #[.string s, .bool true] 87)) := hW0.trans (hWY.mono (by have := hb.size; omega))
  have hnw : Hid (∀ j u, [Value.string s, Value.bool true][j]? = some u → (W.drew.alloc (.cells #[.string s, .bool true] 87)).cell? ((⟨W.heap.size, 0, none⟩ : Addr).add j) = some u) := Lib.hid (World.news_of_block (cs := #[.string s, .bool true]) (t := 87) (fr := (0, 0)) (heap_alloc_new W.drew _))
  go_region_law (refine step_append_lies _ rfl (.tmp 28) (.tmp 30) _ rfl base 87 i0 _ 2 24 Try.underlying83 hi0 hz0 hz1 hz2 rfl (by omega) (.slice A n c) n (flatT l) (by simp [Act.eval, Act.put]) own3.out ⟨W.heap.size, 0, none⟩ 1 1 [.string s, .bool true] (by simp [Act.eval, Act.put]) rfl hnw.out (by simp [Value.oneCell']) (by omega) (by simp only [maxLen]; omega) (by omega) hbW (W.heap.size + 1) (by simp) ?_; intro gg cap w2 hown2 hg2 hat2 hlt2; have d0 := (grown_far hg2 (o := 0) hNY HNE.out).trans y0; have d1 := (grown_far hg2 (o := 1) hNY HNE.out).trans y1; have d2 := (grown_far hg2 (o := 2) hNY HNE.out).trans y2; have df := (grown_ffar hg2 (o := 1) hNY HNE.out).trans yf)
  all_goals
    have hgN : gg ≠ N := by
      rcases hat2 with e | e
      · intro e2; exact HNE.out (by rw [e, e2])
      · omega
    have hBz : Below base w w2 := grown_bel hBa hg2 own3.out (Nat.le_refl _) hbW
    have u1 : (w2.setCell ⟨N, 1, none⟩ (.slice (some ⟨gg, 0, none⟩) (n + 1) cap)).cell? ⟨N, 1, none⟩ = some (.slice (some ⟨gg, 0, none⟩) (n + 1) cap) := by simp [go_sem, d1]
    go_wp2
    refine bodyPost_ret (v := .tuple #[.int .i64 ((n : Int) + 1), .int .i64 0]) (by simp [results, Try.results18, go_sem]) rfl ⟨rfl, ⟨some ⟨gg, 0, none⟩, cap, ?_, u1, ?_, ?_, ?_, ?_, hbN, ?_⟩, ?_⟩
    · simp [go_sem, d0]
    · simp [go_sem, d2]
    · simp [go_sem, df]
    · rw [flatT_snoc]; exact own_set hown2 (by simp [Value.ownBlock]; exact hgN) _
    · simp [Value.ownBlock]; exact hgN
    · have := hBz.size; simp [World.setCell]; omega
    · exact hBz.setCell (p := ⟨N, 1, none⟩) hbN _
end Go.Proofs.Ytpihoegikojlaaa
