/- The document's book: what is ready. -/
import Derived.Test.YtlffigkjhhcohaaR4
import Derived.Test.YtlffigkjhhcohaaP9
namespace Go.Proofs.Ytlffigkjhhcohaa
set_option linter.unusedSimpArgs false
open Go.RowKit Go.Maps
set_option linter.unusedVariables false
variable {F : Nat → Prop}

theorem asym {a b : Option Nat} (h : a = none ∨ a ≠ b) : b = none ∨ b ≠ a := by
  rcases h with h | h
  · subst h; cases b <;> simp
  · exact .inr (fun e => h e.symm)
/-- A row that has grown stays apart. -/
theorem apart_put {w : World} {base s c4 c5 c' : Nat} {B4 B5 A' : Option Addr} {l5 : List Int} (d : fpr B4 c4 = none ∨ fpr B4 c4 ≠ fpr B5 c5) (r5 : Row w base B5 l5 c5) (o : fpr A' c' = none ∨ fpr A' c' = fpr B4 c4 ∨ fpr A' c' = some s) (hs : w.heap.size ≤ s) : fpr A' c' = none ∨ fpr A' c' ≠ fpr B5 c5 := by
  rcases o with o | o | o
  · exact .inl o
  · rw [o]; exact d
  · right; rw [o]; intro e; have := r5.fp_lt e.symm; omega
/-- Another block than the rows'. -/
theorem blk_put {w w1 w2 : World} {base c4 g : Nat} {B4 : Option Addr} {l4 : List Int} {o : Obj} (r4 : Row w base B4 l4 c4) (hb : Below w.heap.size w w1) (hg : w1.grownBy w2 (fpr B4 c4)) (h : w.heap[g]? = some o) (hlt : g < base) : w2.heap[g]? = some o := by
  have hgs : g < w.heap.size := (Array.getElem?_eq_some_iff.1 h).1
  refine (hg.block g (Nat.lt_of_lt_of_le hgs hb.size) (fun e => ?_)).trans ((hb.block g hgs).trans h)
  have := r4.fp_lt e.symm
  omega
theorem below_put {u w w1 w2 : World} {base c4 : Nat} {B4 : Option Addr} {l4 : List Int} (hB : Below u.heap.size u w) (r4 : Row w base B4 l4 c4) (hb : Below w.heap.size w w1) (hg : w1.grownBy w2 (fpr B4 c4)) (hlt : u.heap.size ≤ base) : Below u.heap.size u w2 :=
  (hB.trans (hb.mono hB.size)).grown hg (Nat.le_trans hB.size hb.size) (fun j hj => by have := r4.fp_lt hj; omega)
theorem take_put {l : List Int} {k : Nat} (hk : k < l.length) : l.take (k + 1) = l.take k ++ [l.getD k 0] := by
  rw [List.take_add_one, List.getD_eq_getElem?_getD, List.getElem?_eq_getElem hk]; rfl
theorem drop_put {l : List Int} {k n : Nat} (hk : k < l.length) (hn : n ≤ k) : (l.take (k + 1)).drop n = (l.take k).drop n ++ [l.getD k 0] := by
  rw [take_put hk, List.drop_append_of_le_length (by simp; omega)]
/-- Cells of a book with other rows. -/
theorem RBk.two {w w' : World} {cs : Array Value} {b : RB} (h : RBk F w cs b) {A A' : Option Addr} {c c' : Nat} {l l' : List Int} (hA : RdF F w' A l) (hA' : RdF F w' A' l') :
    RBk F w' ((cs.setIfInBounds 132 (.slice A l.length c)).setIfInBounds 133 (.slice A' l'.length c')) { b with wl := l, al := l' } := by
  obtain ⟨h1, h2, h3, h4, h5, h6, _, _⟩ := h
  have e : ∀ j, ((cs.setIfInBounds 132 (.slice A l.length c)).setIfInBounds 133 (.slice A' l'.length c'))[j]? = if j = 133 then some (.slice A' l'.length c') else if j = 132 then some (.slice A l.length c) else cs[j]? := by
    intro j
    rw [set_get _ _ _ _ (by rw [Array.size_setIfInBounds, h1]; omega), set_get _ _ _ _ (by rw [h1]; omega)]
  refine ⟨by simp [h1], one_set (one_set h2 _ rfl) _ rfl, ?_, ?_, ?_, ?_, ⟨A, c, ?_, hA⟩, ⟨A', c', ?_, hA'⟩⟩
  · rw [e, if_neg (by omega), if_neg (by omega)]; exact h3
  · rw [e, if_neg (by omega), if_neg (by omega)]; exact h4
  · intro i hi
    rw [e, if_neg (by omega), if_neg (by omega)]; exact h5 i hi
  · intro i hi
    rw [e, if_neg (by omega), if_neg (by omega)]; exact h6 i hi
  · rw [e, if_neg (by omega), if_pos rfl]
  · rw [e, if_pos rfl]
theorem row_end {W : World} {base N a b2 : Nat} {A : Option Addr} {l : List Int} {c : Nat} {v u : Value} {cs : Array Value} (h : Row W base A l c) (hN : N + 1 < base) : Row (((W.setCell ⟨N, a, none⟩ v).setCell ⟨N, b2, none⟩ u).setRow (N + 1) cs) base A l c :=
  ((h.kept grown_set (.inr (fun e => by have := h.fp_lt e; omega))).kept grown_set (.inr (fun e => by have := h.fp_lt e; omega))).kept grown_row (.inr (fun e => by have := h.fp_lt e; omega))
theorem res18 (tmps : Array Value) (w : World) (g : Nat) (cs : Array Value) (V : Value) (hp : tmps.getD 2 undef = .pointer (some ⟨g, 0, none⟩)) (hv : tmps.getD 3 undef = V) (hg : w.heap[g]? = some (.cells cs 32 (0, 0))) (hi : (Try.prog.info? 32).map (·.size) = some cs.size) :
    (results Try.f18 tmps).run Try.prog w = .ok (.tuple #[.agg cs, V]) w := by
  have hp' : tmps[2]?.getD undef = .pointer (some ⟨g, 0, none⟩) := by simpa using hp
  have hv' : tmps[3]?.getD undef = V := by simpa using hv
  simp [results, Try.results18, hp', hv', asAddr, run_loadVar_row w g 32 32 cs (0, 0) _ hg Try.underlying32 rfl hi]
theorem row_out {W w : World} {base : Nat} {A : Option Addr} {l : List Int} {c : Nat} (h : Row W base A l c) (hb : w.heap.size ≤ base) (hF : Hid (∀ g, F g → g < w.heap.size)) : l = [] ∨ ∀ a, A = some a → ¬ F a.block := by
  rcases h with ⟨h, _⟩ | ⟨_, h⟩
  · exact .inl h
  · right
    intro a ha hf
    subst ha
    have h1 := (h.lt a.block rfl).1
    have h2 := hF.out _ hf
    omega
def readyR (b : RB) (n : Nat) : RB := { b with wl := b.wl.drop n, al := b.al.drop n }
def RYPost (F : Nat → Prop) (w : World) (b : RB) (n : Nat) (e : Ending) (w' : World) : Prop := ∃ cs' A c, e = .returned (.tuple #[.agg cs', .slice A n c]) ∧ RBk F w' cs' (readyR b n) ∧ RdF F w' A (b.wl.take n) ∧ Below w.heap.size w w'
set_option maxRecDepth 4000 in
set_option maxHeartbeats 2000000 in
theorem rready_any (cs : Array Value) (b : RB) (w : World) (hF : Hid (∀ g, F g → g < w.heap.size)) (hk : RBk F w cs b) (hw : b.wl.length ≤ 1000) (ha : b.al.length = b.wl.length) (n : Nat) (hn : ∀ j (hj : j < b.al.length), b.al[j] < leastR b 64 ↔ j < n) (hnl : n ≤ b.al.length) :
    Calls Try.prog 18 #[.agg cs] w (RYPost F w b n) := by
  have hal := run_zb
  have HK := Lib.hid hk
  have CL := Lib.hid (fun W (hb : Below w.heap.size w W) => rleast_any cs b W (hk.later hb))
  clear hk
  go_enter Try.func18, Try.ntmps18
  have hs32 : (Try.prog.info? 32).map (·.size) = some cs.size := by rw [HK.out.size]; exact info32
  have HS32 := Lib.hid hs32
  clear hs32
  have HW0 : Hid (Below w.heap.size w (((((w.alloc (.cells cs 32)).alloc (.cells zb 32)).alloc (.cells #[] 3)).alloc (.cells #[] 3)).alloc (.cells #[] 3))) := Lib.hid (by go_grown)
  have HN0 : Hid ((((((w.alloc (.cells cs 32)).alloc (.cells zb 32)).alloc (.cells #[] 3)).alloc (.cells #[] 3)).alloc (.cells #[] 3)).heap[w.heap.size]? = some (.cells cs 32 (0, 0))) := Lib.hid (by rw [← heap_alloc2_old w (.cells cs 32) (.cells zb 32)]; exact (al_below ((w.alloc (.cells cs 32)).alloc (.cells zb 32)) (.cells #[] 3) |>.trans ((al_below _ (.cells #[] 3)).mono (by simp)) |>.trans ((al_below _ (.cells #[] 3)).mono (by simp <;> omega))).block _ (by simp <;> omega))
  have HZ0 : Hid ((((((w.alloc (.cells cs 32)).alloc (.cells zb 32)).alloc (.cells #[] 3)).alloc (.cells #[] 3)).alloc (.cells #[] 3)).heap[w.heap.size + 1]? = some (.cells zb 32 (0, 0))) := Lib.hid (by rw [← heap_alloc2_new w (.cells cs 32) (.cells zb 32)]; exact (al_below ((w.alloc (.cells cs 32)).alloc (.cells zb 32)) (.cells #[] 3) |>.trans ((al_below _ (.cells #[] 3)).mono (by simp)) |>.trans ((al_below _ (.cells #[] 3)).mono (by simp <;> omega))).block _ (by simp))
  go_wp2_with (first
    | (refine wpList_load_row rfl 32 (.tmp 1) rfl w.heap.size rfl 32 cs (0, 0) _ HN0.out Try.underlying32 rfl HS32.out ?_)
    | (go_at_call 28; refine (CL.out _ HW0.out).mono ?_; rintro e w1 ⟨rfl, hb1⟩; have HB1 := Lib.hid (HW0.out.trans (hb1.mono HW0.out.size)); have HN1 := Lib.hid ((hb1.block w.heap.size (by simp <;> omega)).trans HN0.out); have HZ1 := Lib.hid ((hb1.block (w.heap.size + 1) (by simp <;> omega)).trans HZ0.out); have HS1 : Hid (w.heap.size + 5 ≤ w1.heap.size) := Lib.hid (by have := hb1.size; simpa using this); clear hb1)
    | fail)
  obtain ⟨g, hgE⟩ : ∃ g, g = leastR b 64 := ⟨_, rfl⟩
  rw [← hgE] at hn
  rw [← hgE]
  have HNN := Lib.hid hn
  have HGE := Lib.hid hgE
  clear hn hgE
  have kw := HK.out.cw
  have ka := HK.out.ca
  obtain ⟨Aw, qw, kw, rw_, _⟩ := kw
  obtain ⟨Aa, qa, ka, ra, _⟩ := ka
  have HRW := Lib.hid rw_
  have HRA := Lib.hid ra
  clear rw_ ra
  go_loopw [4, 5, 6, 8] (fun v4 v5 v6 v8 W => ∃ (k : Nat) (B4 B5 B6 : Option Addr) (c4 c5 c6 : Nat), k ≤ b.wl.length ∧ v8 = .int .i64 k ∧ v4 = .slice B4 (min k n) c4 ∧ v5 = .slice B5 (k - n) c5 ∧ v6 = .slice B6 (k - n) c6 ∧
    Row W (w.heap.size + 2) B4 (b.wl.take (min k n)) c4 ∧ Row W (w.heap.size + 2) B5 ((b.wl.take k).drop n) c5 ∧ Row W (w.heap.size + 2) B6 ((b.al.take k).drop n) c6 ∧
    (fpr B4 c4 = none ∨ fpr B4 c4 ≠ fpr B5 c5) ∧ (fpr B4 c4 = none ∨ fpr B4 c4 ≠ fpr B6 c6) ∧ (fpr B5 c5 = none ∨ fpr B5 c5 ≠ fpr B6 c6) ∧
    W.heap[w.heap.size]? = some (.cells cs 32 (0, 0)) ∧ W.heap[w.heap.size + 1]? = some (.cells zb 32 (0, 0)) ∧ Below w.heap.size w W ∧ w.heap.size + 5 ≤ W.heap.size) (fun _ _ _ i _ => b.wl.length - (intOf i).toNat)
  case atStart => exact ⟨0, some ⟨w.heap.size + 1 + 1, 0, none⟩, some ⟨w.heap.size + 1 + 1 + 1, 0, none⟩, some ⟨w.heap.size + 1 + 1 + 1 + 1, 0, none⟩, 0, 0, 0, by omega, rfl, by simp, by simp, by simp, .inl ⟨by simp, rfl⟩, .inl ⟨by simp, rfl⟩, .inl ⟨by simp, rfl⟩, .inl (by simp [fpr]), .inl (by simp [fpr]), .inl (by simp [fpr]), HN1.out, HZ1.out, HB1.out, HS1.out⟩
  case round =>
    obtain ⟨k, B4, B5, B6, c4, c5, c6, hk, rfl, rfl, rfl, rfl, r4, r5, r6, d45, d46, d56, hN, hZ, hB, hS⟩ := hrel
    have R4 := Lib.hid r4
    have R5 := Lib.hid r5
    have R6 := Lib.hid r6
    have D := Lib.hid (And.intro d45 (And.intro d46 d56))
    have HN := Lib.hid hN
    have HZ := Lib.hid hZ
    have HB := Lib.hid hB
    have HS := Lib.hid hS
    clear r4 r5 r6 d45 d46 d56 hZ hB hS HN1 HZ1 HB1 HS1 HN0 HZ0
    have cell : ∀ j v, cs[j]? = some v → wr.cell? ⟨w.heap.size, j, none⟩ = some v := fun j v h => (cell_of_row _ _ j _ _ _ hN).trans h
    have x1 := cell 132 _ kw
    have x2 := cell 133 _ ka
    rw [ha] at x2
    clear cell hN
    have hk0 : (0 : Int) ≤ (k : Int) := by omega
    by_cases h8 : k < b.wl.length
    · have h8a : k < b.al.length := by omega
      have hk1 : (k : Int) < (b.wl.length : Int) := by omega
      obtain ⟨wb, wo, rfl, _, fw⟩ := rdi_get (HRW.out.later HB.out) h8
      obtain ⟨ab, ao, rfl, hab, fa0⟩ := rdi_get HRA.out h8a
      have fa := (bel_cell HB.out hab).trans fa0
      have e8 : b.al.getD k 0 = b.al[k] := by rw [List.getD_eq_getElem?_getD, List.getElem?_eq_getElem h8a]; rfl
      have hnk := HNN.out k h8a
      rw [← e8] at hnk
      have HG := Lib.hid hnk
      obtain ⟨y, hy⟩ : ∃ y, y = b.al.getD k 0 := ⟨_, rfl⟩
      obtain ⟨x, hx⟩ : ∃ x, x = b.wl.getD k 0 := ⟨_, rfl⟩
      rw [← hy] at fa hnk fa0
      have FA0 := Lib.hid fa0
      clear fa0
      rw [← hx] at fw
      have HX := Lib.hid hx
      have HY := Lib.hid hy
      clear hx hy e8
      by_cases h9 : k < n
      · have h10 : y < g := hnk.2 h9
        clear hnk
        have hmin : Hid (min k n = k) := Lib.hid (by omega)
        have hkx : Hid (k ≤ 1000) := Lib.hid (by omega)
        go_wp2_with (first
          | (at_builtin; refine wpList_put_row _ rfl (.tmp 35) (.tmp 41) rfl (base := w.heap.size + 2) B4 (min k n) c4 (b.wl.take (min k n)) (some ⟨wr.heap.size, 0, none⟩) 1 1 [x] rfl rfl (R4.out.later (al_below _ _)) (by simp; omega) (by omega) (by have := HS.out; simp; omega) rfl (by omega) (rdi_lit wr 3 [x]) ?_; intro A7 c7 w2 r2 g2 o2; have R2 := Lib.hid r2; have G2 := Lib.hid g2; have O2 := Lib.hid o2; clear r2 g2 o2)
          | fail)
        have e1 : b.wl.take (min k n) ++ [x] = b.wl.take (min (k + 1) n) := by
          have e2 : min (k + 1) n = k + 1 := by omega
          rw [hmin.out, e2, HX.out, take_put h8]
        have e3 : min k n + 1 = min (k + 1) n := by omega
        have e4 : (b.wl.take (k + 1)).drop n = (b.wl.take k).drop n := by
          rw [List.drop_eq_nil_iff.2 (by simp; omega), List.drop_eq_nil_iff.2 (by simp; omega)]
        have e5 : (b.al.take (k + 1)).drop n = (b.al.take k).drop n := by
          rw [List.drop_eq_nil_iff.2 (by simp; omega), List.drop_eq_nil_iff.2 (by simp; omega)]
        have e6 : k - n = k + 1 - n := by omega
        have hal1 := al_below wr (.cells #[.int .i64 x] 3)
        refine ⟨⟨k + 1, A7, B5, B6, c7, c5, c6, by omega, by simp, by rw [e3], by rw [e6], by rw [e6], by rw [← e1]; exact R2.out, by rw [e4]; exact (R5.out.later hal1).kept G2.out (asym D.out.1), by rw [e5]; exact (R6.out.later hal1).kept G2.out (asym D.out.2.1),
          apart_put D.out.1 R5.out O2.out hal1.size, apart_put D.out.2.1 R6.out O2.out hal1.size, D.out.2.2, blk_put R4.out hal1 G2.out HN.out (by omega), blk_put R4.out hal1 G2.out HZ.out (by omega), below_put HB.out R4.out hal1 G2.out (by omega), ?_⟩, ?_⟩
        · have := G2.out.size
          have := HS.out
          simp at *
          omega
        · simp [intOf]; omega
      · have h10 : ¬ y < g := fun h => h9 (hnk.1 h)
        clear hnk
        have hkx : Hid (k ≤ 1000) := Lib.hid (by omega)
        have hal1 := Lib.hid (al_below wr (.cells #[.int .i64 x] 3))
        go_wp2_with (first
          | (at_builtin; refine wpList_put_row _ rfl (.tmp 43) (.tmp 49) rfl (base := w.heap.size + 2) B5 (k - n) c5 ((b.wl.take k).drop n) (some ⟨wr.heap.size, 0, none⟩) 1 1 [x] rfl rfl (R5.out.later (al_below _ _)) (by simp; omega) (by omega) (by have := HS.out; simp; omega) rfl (by omega) (rdi_lit wr 3 [x]) ?_; intro A7 c7 w2 r2 g2 o2; have R2 := Lib.hid r2; have G2 := Lib.hid g2; have O2 := Lib.hid o2; have HB2 := Lib.hid (below_put HB.out R5.out hal1.out g2 (by omega)); have HN2 := Lib.hid (blk_put R5.out hal1.out g2 HN.out (by omega)); have x3 : w2.cell? ⟨w.heap.size, 133, none⟩ = some (.slice (some ⟨ab, ao, none⟩) b.wl.length qa) := (cell_of_row _ _ 133 _ _ _ HN2.out).trans (by rw [← ha]; exact ka); have f3 := (bel_cell HB2.out hab).trans FA0.out; have HS2 : Hid (w.heap.size + 5 ≤ w2.heap.size) := Lib.hid (by have h1 := g2.size; have h2 := HS.out; rw [World.size_alloc] at h1; omega); clear r2 g2 o2)
          | (at_builtin; refine wpList_put_row _ rfl (.tmp 51) (.tmp 57) rfl (base := w.heap.size + 2) B6 (k - n) c6 ((b.al.take k).drop n) (some ⟨w2.heap.size, 0, none⟩) 1 1 [y] rfl rfl (((R6.out.later hal1.out).kept G2.out (asym D.out.2.2)).later (al_below _ _)) (by simp; omega) (by omega) (by have := HS2.out; simp; omega) rfl (by omega) (rdi_lit w2 3 [y]) ?_; intro A8 c8 w3 r3 g3 o3; have R3 := Lib.hid r3; have G3 := Lib.hid g3; have O3 := Lib.hid o3; clear r3 g3 o3)
          | fail)
        have e3 : min k n = min (k + 1) n := by omega
        have e6 : k - n + 1 = k + 1 - n := by omega
        have e4 : (b.wl.take k).drop n ++ [x] = (b.wl.take (k + 1)).drop n := by rw [drop_put h8 (by omega), HX.out]
        have e5 : (b.al.take k).drop n ++ [y] = (b.al.take (k + 1)).drop n := by rw [drop_put h8a (by omega), HY.out]
        have hal2 := al_below w2 (.cells #[.int .i64 y] 3)
        have hs1 := hal1.out.size
        have hs3 : wr.heap.size ≤ (w2.alloc (.cells #[.int .i64 y] 3)).heap.size := Nat.le_trans hs1 (Nat.le_trans G2.out.size hal2.size)
        have q76 := apart_put D.out.2.2 R6.out O2.out hs1
        refine ⟨⟨k + 1, B4, A7, A8, c4, c7, c8, by omega, by simp, by rw [← e3], by rw [e6], by rw [e6], by rw [← e3]; exact ((((R4.out.later hal1.out).kept G2.out D.out.1).later hal2).kept G3.out D.out.2.1), by rw [← e4]; exact ((R2.out.later hal2).kept G3.out q76), by rw [← e5]; exact R3.out,
          asym (apart_put (asym D.out.1) R4.out O2.out hs1), asym (apart_put (asym D.out.2.1) R4.out O3.out hs3), asym (apart_put (asym q76) R2.out O3.out hal2.size),
          blk_put ((R6.out.later hal1.out).kept G2.out (asym D.out.2.2)) hal2 G3.out HN2.out (by omega), blk_put ((R6.out.later hal1.out).kept G2.out (asym D.out.2.2)) hal2 G3.out (blk_put R5.out hal1.out G2.out HZ.out (by omega)) (by omega), below_put HB2.out ((R6.out.later hal1.out).kept G2.out (asym D.out.2.2)) hal2 G3.out (by omega), ?_⟩, ?_⟩
        · have h1 := G3.out.size
          have h2 := HS2.out
          rw [World.size_alloc] at h1
          omega
        · simp [intOf]; omega
    · have hk1 : ¬ (k : Int) < (b.wl.length : Int) := by omega
      have hke : Hid (k = b.wl.length) := Lib.hid (by omega)
      have z1 : wr.frozen? ⟨w.heap.size, 132, none⟩ = false := frozen_of_row _ _ 132 _ _ HN.out
      have z2 : wr.frozen? ⟨w.heap.size, 133, none⟩ = false := frozen_of_row _ _ 133 _ _ HN.out
      obtain ⟨cs2, hcs2⟩ : ∃ c, c = ((cs.setIfInBounds 132 (.slice B5 (k - n) c5)).setIfInBounds 133 (.slice B6 (k - n) c6)) := ⟨_, rfl⟩
      have HX4 : Hid (((wr.setCell ⟨w.heap.size, 132, none⟩ (.slice B5 (k - n) c5)).setCell ⟨w.heap.size, 133, none⟩ (.slice B6 (k - n) c6)).heap[w.heap.size]? = some (.cells cs2 32 (0, 0))) := Lib.hid (by rw [hcs2]; exact heap_setCell_same _ _ _ _ _ _ (heap_setCell_same _ _ _ _ _ _ HN.out))
      have HY4 : Hid (((wr.setCell ⟨w.heap.size, 132, none⟩ (.slice B5 (k - n) c5)).setCell ⟨w.heap.size, 133, none⟩ (.slice B6 (k - n) c6)).heap[w.heap.size + 1]? = some (.cells zb 32 (0, 0))) := Lib.hid (by rw [heap_setCell_other _ _ _ _ (by simp), heap_setCell_other _ _ _ _ (by simp)]; exact HZ.out)
      have HSZ : Hid (cs2.size = 134) := Lib.hid (by rw [hcs2, Array.size_setIfInBounds, Array.size_setIfInBounds, HK.out.size])
      have HON : Hid (cs2.all (·.oneCell') = true) := Lib.hid (by rw [hcs2]; exact one_set (one_set HK.out.one _ rfl) _ rfl)
      have HCS := Lib.hid hcs2
      clear hcs2
      go_wp2_with (first
        | (refine wpList_load_row rfl 32 (.tmp 1) rfl w.heap.size rfl 32 cs2 (0, 0) _ HX4.out Try.underlying32 rfl (by rw [HSZ.out]; exact info32) ?_)
        | (refine wpList_store_row rfl 32 (.tmp 2) (.tmp 63) rfl (w.heap.size + 1) cs2 rfl rfl 32 zb HY4.out (by rw [HSZ.out]; exact info32) (by rw [HSZ.out]; exact zb_size) HON.out ?_)
        | fail)
      have R4f := Lib.hid ((row_end (N := w.heap.size) (a := 132) (b2 := 133) (v := .slice B5 (k - n) c5) (u := .slice B6 (k - n) c6) (cs := cs2) R4.out (by omega)).rd)
      have R5f := Lib.hid ((row_end (N := w.heap.size) (a := 132) (b2 := 133) (v := .slice B5 (k - n) c5) (u := .slice B6 (k - n) c6) (cs := cs2) R5.out (by omega)).rd)
      have R6f := Lib.hid ((row_end (N := w.heap.size) (a := 132) (b2 := 133) (v := .slice B5 (k - n) c5) (u := .slice B6 (k - n) c6) (cs := cs2) R6.out (by omega)).rd)
      have HBF := Lib.hid (below_setRow ((HB.out.setCell (p := ⟨w.heap.size, 132, none⟩) (Nat.le_refl _) (.slice B5 (k - n) c5)).setCell (p := ⟨w.heap.size, 133, none⟩) (Nat.le_refl _) (.slice B6 (k - n) c6)) (by omega : w.heap.size ≤ w.heap.size + 1) cs2)
      have HHF := Lib.hid (setRow_heap _ _ _ cs2 _ _ HY4.out)
      generalize ((wr.setCell ⟨w.heap.size, 132, none⟩ (.slice B5 (k - n) c5)).setCell ⟨w.heap.size, 133, none⟩ (.slice B6 (k - n) c6)).setRow (w.heap.size + 1) cs2 = WF at *
      have t1 : b.wl.take k = b.wl := by rw [hke.out, List.take_length]
      have t2 : b.al.take k = b.al := by rw [hke.out, ← ha, List.take_length]
      have t3 : min k n = n := by omega
      have u5 := R5f.out
      have u6 := R6f.out
      have u4 := R4f.out
      rw [t1] at u5
      rw [t2] at u6
      rw [t3] at u4
      have hfin := HK.out.two (c := c5) (c' := c6) ⟨u5, by rw [← t1]; exact row_out R5.out (by omega) hF⟩ ⟨u6, by rw [← t2]; exact row_out R6.out (by omega) hF⟩
      rw [List.length_drop, List.length_drop, ha, ← hke.out, ← HCS.out] at hfin
      refine bodyPost_ret (v := .tuple #[.agg cs2, .slice B4 (min k n) c4]) (res18 _ WF (w.heap.size + 1) cs2 _ rfl rfl HHF.out (by rw [HSZ.out]; exact info32)) rfl ⟨cs2, B4, c4, by rw [t3], hfin, ⟨u4, by have h := row_out (F := F) R4.out (by omega) hF; rw [t3] at h; exact h⟩, HBF.out⟩
end Go.Proofs.Ytlffigkjhhcohaa
