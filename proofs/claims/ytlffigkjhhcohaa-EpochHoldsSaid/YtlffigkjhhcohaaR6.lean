/- The document's book: something waits; its walk. -/
import Derived.Test.YtlffigkjhhcohaaR5
namespace Go.Proofs.Ytlffigkjhhcohaa
set_option linter.unusedSimpArgs false
open Go.RowKit Go.Maps
set_option linter.unusedVariables false
variable {F : Nat → Prop}

theorem map_ne {w : World} {base n k : Nat} {e : TypeId} {size : Nat} {v : Value} {xs : List Value} (h : w.ownsRow base e size v n xs) (hk : k < base) : some k ≠ v.ownBlock := by
  intro hob; have := (h.lt k hob.symm).1; omega
theorem row_far {w : World} {base n k : Nat} {e : TypeId} {size : Nat} {v : Value} {xs : List Value} (h : w.ownsRow base e size v n xs) (hk : k < base) : v.ownBlock = none ∨ v.ownBlock ≠ some k := by
  rcases hob : v.ownBlock with _ | ob
  · exact .inl rfl
  · right; have := (h.lt ob hob).1; simp; omega
theorem own_far {w v : World} {base n m c : Nat} {e : TypeId} {size : Nat} {A : Option Addr} {xs : List Value} (h : w.ownsRow base e size (.slice A m c) n xs) (hb : v.heap.size ≤ base) (hF : Hid (∀ g, F g → g < v.heap.size)) : ∀ a, A = some a → ¬ F a.block := by
  intro a ha hf
  subst ha
  have h1 := (h.lt a.block rfl).1
  have h2 := hF.out _ hf
  omega
def BkPost (F : Nat → Prop) (w : World) (b' : RB) (e : Ending) (w' : World) : Prop := ∃ cs', e = .returned (.agg cs') ∧ RBk F w' cs' b' ∧ Below w.heap.size w w'
theorem Rows_old (w : World) (o : Obj) (i : Nat) (h : i < w.heap.size) : (w.alloc o).heap[i]? = w.heap[i]? := by
  show (w.heap.push o)[i]? = _
  rw [Array.getElem?_push, if_neg (by omega)]
def retireR (b : RB) (x : Int) : RB := { b with now := b.now + 1, wl := b.wl ++ [x], al := b.al ++ [b.now] }

set_option maxRecDepth 4000 in
set_option maxHeartbeats 8000000 in
theorem rretire_any (cs : Array Value) (b : RB) (x : Int) (w : World) (hF : Hid (∀ g, F g → g < w.heap.size)) (hk : RBk F w cs b) (hn0 : 0 ≤ b.now) (hn1 : b.now ≤ 1000000) (hw : b.wl.length ≤ 1000) (ha : b.al.length ≤ 1000) :
    Calls Try.prog 15 #[.agg cs, .int .i64 x] w (BkPost F w (retireR b x)) := by
  have hal := run_zb
  obtain ⟨Aw, cw, kw, rw_, _⟩ := hk.cw
  obtain ⟨Aa, ca, ka, ra, _⟩ := hk.ca
  have k1 := hk.c1
  have HK := Lib.hid hk
  have HRW := Lib.hid rw_
  have HRA := Lib.hid ra
  have HW0 : Hid (Below w.heap.size w (((w.alloc (.cells cs 32)).alloc (.cells zb 32)).alloc (.cells #[] 3))) := Lib.hid (by go_grown)
  have HN0 : Hid ((((w.alloc (.cells cs 32)).alloc (.cells zb 32)).alloc (.cells #[] 3)).heap[w.heap.size]? = some (.cells cs 32 (0, 0))) := Lib.hid ((Rows_old ((w.alloc (.cells cs 32)).alloc (.cells zb 32)) (.cells #[] 3) w.heap.size (by simp; omega)).trans (heap_alloc2_old w (.cells cs 32) (.cells zb 32)))
  have HZ0 : Hid ((((w.alloc (.cells cs 32)).alloc (.cells zb 32)).alloc (.cells #[] 3)).heap[w.heap.size + 1]? = some (.cells zb 32 (0, 0))) := Lib.hid ((Rows_old ((w.alloc (.cells cs 32)).alloc (.cells zb 32)) (.cells #[] 3) (w.heap.size + 1) (by simp)).trans (heap_alloc2_new w (.cells cs 32) (.cells zb 32)))
  have HO0 : Hid ((((w.alloc (.cells cs 32)).alloc (.cells zb 32)).alloc (.cells #[] 3)).ownsRow (w.heap.size + 2) 3 1 (.slice (some ⟨w.heap.size + 1 + 1, 0, none⟩) 0 0) 0 []) := Lib.hid (by
    have h := World.ownsRow_made (base := w.heap.size + 2) (e := 3) (size := 1) ((w.alloc (.cells cs 32)).alloc (.cells zb 32)) #[] 0 (by simp) (Nat.zero_le _) (by simp)
    simpa using h)
  clear hk rw_ ra
  go_enter Try.func15, Try.ntmps15
  have hs32 : (Try.prog.info? 32).map (·.size) = some cs.size := by rw [HK.out.size]; exact info32
  have HS32 := Lib.hid hs32
  clear hs32
  go_wp2_with (first
    | (at_builtin; refine wpList_put_any (v := .slice (some ⟨w.heap.size + 1 + 1, 0, none⟩) 0 0) _ rfl (.tmp 5) (.tmp 7) rfl Aw b.wl.length cw b.wl rfl rfl HO0.out (by omega) (by simp) rfl (by omega) (HRW.out.later HW0.out) ?_; intro v1 w1 r1 g1 o1; obtain ⟨A1, c1, rfl, _⟩ := own_form r1; simp only [Nat.zero_add, List.nil_append] at r1; have HR1 := Lib.hid r1; have HN1 := Lib.hid (blk_grown g1 HN0.out (by simp [Value.ownBlock]; try omega)); have HZ1 := Lib.hid (blk_grown g1 HZ0.out (by simp [Value.ownBlock]; try omega)); have HB1 := Lib.hid (HW0.out.grown g1 HW0.out.size (fun j hj => by simp [Value.ownBlock] at hj; omega)); have HS1 : Hid (w.heap.size + 3 ≤ w1.heap.size) := Lib.hid (by have := g1.size; simpa using this); clear r1 g1 o1)
    | (at_builtin; refine wpList_put_any (v := .slice A1 b.wl.length c1) _ rfl (.tmp 8) (.tmp 10) rfl (some ⟨w1.heap.size, 0, none⟩) 1 1 [x] rfl rfl (HR1.out.alloc _) (by omega) (by have := HS1.out; simp; omega) rfl (by omega) (rdi_lit w1 3 [x]) ?_; intro v2 w2 r2 g2 o2; obtain ⟨A2, c2, rfl, _⟩ := own_form r2; have HR2 := Lib.hid r2; have HN2 := Lib.hid (blk_grown g2 ((Rows_old w1 _ _ (by have := HS1.out; omega)).trans HN1.out) (map_ne HR1.out (by omega))); have HZ2 := Lib.hid (blk_grown g2 ((Rows_old w1 _ _ (by have := HS1.out; omega)).trans HZ1.out) (map_ne HR1.out (by omega))); have HB2 := Lib.hid ((HB1.out.alloc HB1.out.size _).grown g2 (by have := HB1.out.size; simp; omega) (fun j hj => by have := (HR1.out.lt j hj).1; omega)); have HS2 : Hid (w.heap.size + 4 ≤ w2.heap.size) := Lib.hid (by have h := g2.size; have h2 := HS1.out; rw [World.size_alloc] at h; omega); have e132 := (cell_of_row _ _ 132 _ _ _ HN2.out).trans kw; have f132 := frozen_of_row _ _ 132 _ _ HN2.out; have e133 := (cell_of_row _ _ 133 _ _ _ HN2.out).trans ka; clear r2 g2 o2)
    | fail)
  -- the second row
  have HNs : Hid ((w2.setCell ⟨w.heap.size, 132, none⟩ (.slice A2 (b.wl.length + 1) c2)).heap[w.heap.size]? = some (.cells (cs.setIfInBounds 132 (.slice A2 (b.wl.length + 1) c2)) 32 (0, 0))) := Lib.hid (heap_setCell_same _ _ _ _ _ _ HN2.out)
  have HZs : Hid ((w2.setCell ⟨w.heap.size, 132, none⟩ (.slice A2 (b.wl.length + 1) c2)).heap[w.heap.size + 1]? = some (.cells zb 32 (0, 0))) := Lib.hid (by rw [heap_setCell_other _ _ _ _ (by simp)]; exact HZ2.out)
  have HBs : Hid (Below w.heap.size w (w2.setCell ⟨w.heap.size, 132, none⟩ (.slice A2 (b.wl.length + 1) c2))) := Lib.hid (HB2.out.setCell (p := ⟨w.heap.size, 132, none⟩) (Nat.le_refl _) _)
  have HRs : Hid ((w2.setCell ⟨w.heap.size, 132, none⟩ (.slice A2 (b.wl.length + 1) c2)).ownsRow (w.heap.size + 2) 3 1 (.slice A2 (b.wl.length + 1) c2) (b.wl.length + 1) ((b.wl ++ [x]).map (Value.int .i64))) := Lib.hid (by
    have h := HR2.out.kept (grown_set (N := w.heap.size) (j := 132) (v := .slice A2 (b.wl.length + 1) c2)) (by rcases hob : (Value.slice A2 (b.wl.length + 1) c2).ownBlock with _ | ob; exact .inl rfl; right; have := (HR2.out.lt ob hob).1; simp; omega)
    rw [List.map_append]; exact h)
  have HSs : Hid (w.heap.size + 4 ≤ (w2.setCell ⟨w.heap.size, 132, none⟩ (.slice A2 (b.wl.length + 1) c2)).heap.size) := Lib.hid (by simp; exact HS2.out)
  clear e132 f132 e133 HR2 HN2 HZ2 HB2 HS2 HR1 HN1 HZ1 HB1 HS1 HN0 HZ0 HO0 HW0
  generalize (w2.setCell ⟨w.heap.size, 132, none⟩ (.slice A2 (b.wl.length + 1) c2)) = X at *
  have x1 : X.cell? ⟨w.heap.size, 1, none⟩ = some (.int .i64 b.now) := (cell_of_row _ _ 1 _ _ _ HNs.out).trans (by rw [set_get _ _ _ _ (by rw [HK.out.size]; omega), if_neg (by omega)]; exact k1)
  have x133 : X.cell? ⟨w.heap.size, 133, none⟩ = some (.slice Aa b.al.length ca) := (cell_of_row _ _ 133 _ _ _ HNs.out).trans (by rw [set_get _ _ _ _ (by rw [HK.out.size]; omega), if_neg (by omega)]; exact ka)
  have y133 : X.frozen? ⟨w.heap.size, 133, none⟩ = false := frozen_of_row _ _ 133 _ _ HNs.out
  have B1 : Hid (Below X.heap.size X (X.alloc (.cells #[] 3)).drew) := Lib.hid (by go_grown)
  have B2 : Hid (Below X.heap.size X ((X.alloc (.cells #[] 3)).alloc (.cells #[.int .i64 b.now] 3)).drew) := Lib.hid (by go_grown)
  have B3 : Hid (Below X.heap.size X ((X.alloc (.cells #[.int .i64 b.now] 3)).alloc (.cells #[] 3)).drew) := Lib.hid (by go_grown)
  have O1 : Hid ((X.alloc (.cells #[] 3)).drew.ownsRow X.heap.size 3 1 (.slice (some ⟨X.heap.size, 0, none⟩) 0 0) 0 []) := Lib.hid (World.ownsRow_made X #[] 0 (Nat.le_refl _) (Nat.zero_le _) (by simp))
  have O2 : Hid (((X.alloc (.cells #[] 3)).alloc (.cells #[.int .i64 b.now] 3)).drew.ownsRow X.heap.size 3 1 (.slice (some ⟨X.heap.size, 0, none⟩) 0 0) 0 []) := Lib.hid ((World.ownsRow_made X #[] 0 (Nat.le_refl _) (Nat.zero_le _) (by simp)).alloc (.cells #[.int .i64 b.now] 3))
  have O3 : Hid (((X.alloc (.cells #[.int .i64 b.now] 3)).alloc (.cells #[] 3)).drew.ownsRow X.heap.size 3 1 (.slice (some ⟨X.heap.size + 1, 0, none⟩) 0 0) 0 []) := Lib.hid (by
    have h := World.ownsRow_made (base := X.heap.size) (e := 3) (size := 1) (X.alloc (.cells #[.int .i64 b.now] 3)) #[] 0 (by simp) (Nat.zero_le _) (by simp)
    rw [World.size_alloc] at h; exact h)
  have q2 : Hid (RdI ((X.alloc (.cells #[] 3)).alloc (.cells #[.int .i64 b.now] 3)).drew (some ⟨X.heap.size + 1, 0, none⟩) [b.now]) := Lib.hid (by have h := rdi_lit (X.alloc (.cells #[] 3)) 3 [b.now]; rw [World.size_alloc] at h; exact h)
  have q3 : Hid (RdI ((X.alloc (.cells #[.int .i64 b.now] 3)).alloc (.cells #[] 3)).drew (some ⟨X.heap.size, 0, none⟩) [b.now]) := Lib.hid (by have h := (rdi_lit X 3 [b.now]).later (w' := (X.alloc (.cells #[.int .i64 b.now] 3)).alloc (.cells #[] 3)) ((Below.refl _ _).alloc (Nat.le_refl _) _); exact h)
  have HAX := Lib.hid (fun V (h : Below X.heap.size X V) => (HRA.out.later HBs.out).later h)
  have n3 : w.heap.size < X.heap.size := by have := HSs.out; omega
  have n1 : ¬ w.heap.size = X.heap.size := by omega
  have n2 : ¬ X.heap.size = w.heap.size := by omega
  have n4 : ¬ w.heap.size = X.heap.size + 1 := by omega
  have a0 : (X.alloc (.cells #[] 3)).cell? ⟨w.heap.size, 133, none⟩ = some (.slice Aa b.al.length ca) := bel_later (w := X) (by go_grown) x133
  have b0 : (X.alloc (.cells #[] 3)).cell? ⟨w.heap.size, 1, none⟩ = some (.int .i64 b.now) := bel_later (w := X) (by go_grown) x1
  have a1 : ((X.alloc (.cells #[] 3)).alloc (.cells #[.int .i64 b.now] 3)).cell? ⟨w.heap.size, 133, none⟩ = some (.slice Aa b.al.length ca) := bel_later (w := X) (by go_grown) x133
  have b1 : ((X.alloc (.cells #[] 3)).alloc (.cells #[.int .i64 b.now] 3)).cell? ⟨w.heap.size, 1, none⟩ = some (.int .i64 b.now) := bel_later (w := X) (by go_grown) x1
  have a2 : ((X.alloc (.cells #[.int .i64 b.now] 3)).alloc (.cells #[] 3)).cell? ⟨w.heap.size, 133, none⟩ = some (.slice Aa b.al.length ca) := bel_later (w := X) (by go_grown) x133
  have b2 : ((X.alloc (.cells #[.int .i64 b.now] 3)).alloc (.cells #[] 3)).cell? ⟨w.heap.size, 1, none⟩ = some (.int .i64 b.now) := bel_later (w := X) (by go_grown) x1
  have a3 : (X.alloc (.cells #[.int .i64 b.now] 3)).cell? ⟨w.heap.size, 133, none⟩ = some (.slice Aa b.al.length ca) := bel_later (w := X) (by go_grown) x133
  have b3 : (X.alloc (.cells #[.int .i64 b.now] 3)).cell? ⟨w.heap.size, 1, none⟩ = some (.int .i64 b.now) := bel_later (w := X) (by go_grown) x1
  go_region_law (first
    | (refine step_put_any (v := .slice (some ⟨X.heap.size, 0, none⟩) 0 0) (base := X.heap.size) _ rfl (.tmp 13) (.tmp 15) rfl Aa b.al.length ca b.al (by simp [Act.eval, Act.put]) (by simp [Act.eval, Act.put]) O1.out (by omega) (by simp; try omega) rfl (by omega) (HAX.out (X.alloc (.cells #[] 3)).drew B1.out) ?_; intro v3 w3 r3 g3 o3; simp only [Nat.zero_add, List.nil_append] at r3; obtain ⟨A3, c3, rfl, _⟩ := own_form r3; have HR3 := Lib.hid r3; have HB3 := Lib.hid (B1.out.grown g3 B1.out.size (fun j hj => by simp [Value.ownBlock] at hj; omega)); have l1 : w3.cell? ⟨w.heap.size, 1, none⟩ = some (.int .i64 b.now) := bel_later HB3.out x1; have n5 : ¬ w.heap.size = w3.heap.size := (by have := HB3.out.size; omega); clear r3 g3 o3)
    | (refine step_put_any (v := .slice (some ⟨X.heap.size, 0, none⟩) 0 0) (base := X.heap.size) _ rfl (.tmp 13) (.tmp 15) rfl Aa b.al.length ca b.al (by simp [Act.eval, Act.put]) (by simp [Act.eval, Act.put]) O2.out (by omega) (by simp; try omega) rfl (by omega) (HAX.out ((X.alloc (.cells #[] 3)).alloc (.cells #[.int .i64 b.now] 3)).drew B2.out) ?_; intro v3 w3 r3 g3 o3; simp only [Nat.zero_add, List.nil_append] at r3; obtain ⟨A3, c3, rfl, _⟩ := own_form r3; have HR3 := Lib.hid r3; have HB3 := Lib.hid (B2.out.grown g3 B2.out.size (fun j hj => by simp [Value.ownBlock] at hj; omega)); have HQ3 := Lib.hid (rdi_kept q2.out g3 (by simp [Value.ownBlock])); have l1 : w3.cell? ⟨w.heap.size, 1, none⟩ = some (.int .i64 b.now) := bel_later HB3.out x1; have n5 : ¬ w.heap.size = w3.heap.size := (by have := HB3.out.size; omega); clear r3 g3 o3)
    | (refine step_put_any (v := .slice (some ⟨X.heap.size + 1, 0, none⟩) 0 0) (base := X.heap.size) _ rfl (.tmp 13) (.tmp 15) rfl Aa b.al.length ca b.al (by simp [Act.eval, Act.put]) (by simp [Act.eval, Act.put]) O3.out (by omega) (by simp; try omega) rfl (by omega) (HAX.out ((X.alloc (.cells #[.int .i64 b.now] 3)).alloc (.cells #[] 3)).drew B3.out) ?_; intro v3 w3 r3 g3 o3; simp only [Nat.zero_add, List.nil_append] at r3; obtain ⟨A3, c3, rfl, _⟩ := own_form r3; have HR3 := Lib.hid r3; have HB3 := Lib.hid (B3.out.grown g3 B3.out.size (fun j hj => by simp [Value.ownBlock] at hj; omega)); have HQ3 := Lib.hid (rdi_kept q3.out g3 (by simp [Value.ownBlock])); have l1 : w3.cell? ⟨w.heap.size, 1, none⟩ = some (.int .i64 b.now) := bel_later HB3.out x1; have n5 : ¬ w.heap.size = w3.heap.size := (by have := HB3.out.size; omega); clear r3 g3 o3)
    | (refine step_put_any (v := .slice A3 b.al.length c3) (base := X.heap.size) _ rfl (.tmp 16) (.tmp 19) rfl (some ⟨w3.heap.size, 0, none⟩) 1 1 [b.now] (by simp [Act.eval, Act.put]) (by simp [Act.eval, Act.put]) (HR3.out.alloc _) (by omega) (by have := HB3.out.size; simp; omega) rfl (by omega) (rdi_lit w3 3 [b.now]) ?_; intro v4 w4 r4 g4 o4; obtain ⟨A4, c4, rfl, _⟩ := own_form r4; have HR4 := Lib.hid r4; have HB4 := Lib.hid ((HB3.out.alloc HB3.out.size _).grown g4 (by have := HB3.out.size; simp; omega) (fun j hj => (HR3.out.lt j hj).1)); clear r4 g4 o4; have z133 : w4.cell? ⟨w.heap.size, 133, none⟩ = some (.slice Aa b.al.length ca) := bel_later HB4.out x133; have zf133 : w4.frozen? ⟨w.heap.size, 133, none⟩ = false := (HB4.out.frozen (p := ⟨w.heap.size, 133, none⟩) (by have := HSs.out; simp; omega)).trans y133)
    | (refine step_put_any (v := .slice A3 b.al.length c3) (base := X.heap.size) _ rfl (.tmp 16) (.tmp 19) rfl (some ⟨X.heap.size + 1, 0, none⟩) 1 1 [b.now] (by simp [Act.eval, Act.put]) (by simp [Act.eval, Act.put]) HR3.out (by omega) HB3.out.size rfl (by omega) HQ3.out ?_; intro v4 w4 r4 g4 o4; obtain ⟨A4, c4, rfl, _⟩ := own_form r4; have HR4 := Lib.hid r4; have HB4 := Lib.hid (HB3.out.grown g4 HB3.out.size (fun j hj => (HR3.out.lt j hj).1)); clear r4 g4 o4; have z133 : w4.cell? ⟨w.heap.size, 133, none⟩ = some (.slice Aa b.al.length ca) := bel_later HB4.out x133; have zf133 : w4.frozen? ⟨w.heap.size, 133, none⟩ = false := (HB4.out.frozen (p := ⟨w.heap.size, 133, none⟩) (by have := HSs.out; simp; omega)).trans y133)
    | (refine step_put_any (v := .slice A3 b.al.length c3) (base := X.heap.size) _ rfl (.tmp 16) (.tmp 19) rfl (some ⟨X.heap.size, 0, none⟩) 1 1 [b.now] (by simp [Act.eval, Act.put]) (by simp [Act.eval, Act.put]) HR3.out (by omega) HB3.out.size rfl (by omega) HQ3.out ?_; intro v4 w4 r4 g4 o4; obtain ⟨A4, c4, rfl, _⟩ := own_form r4; have HR4 := Lib.hid r4; have HB4 := Lib.hid (HB3.out.grown g4 HB3.out.size (fun j hj => (HR3.out.lt j hj).1)); clear r4 g4 o4; have z133 : w4.cell? ⟨w.heap.size, 133, none⟩ = some (.slice Aa b.al.length ca) := bel_later HB4.out x133; have zf133 : w4.frozen? ⟨w.heap.size, 133, none⟩ = false := (HB4.out.frozen (p := ⟨w.heap.size, 133, none⟩) (by have := HSs.out; simp; omega)).trans y133))
  all_goals
    clear a0 a1 a2 a3 b0 b1 b2 b3
    have HN4 := Lib.hid (blk_bel HB4.out HNs.out)
    have HZ4 := Lib.hid (blk_bel HB4.out HZs.out)
    have m1 : w4.cell? ⟨w.heap.size, 1, none⟩ = some (.int .i64 b.now) := bel_later HB4.out x1
    have m2 : w4.frozen? ⟨w.heap.size, 1, none⟩ = false := frozen_of_row _ _ 1 _ _ HN4.out
    have HX4 : Hid (((w4.setCell ⟨w.heap.size, 133, none⟩ (.slice A4 (b.al.length + 1) c4)).setCell ⟨w.heap.size, 1, none⟩ (.int .i64 (b.now + 1))).heap[w.heap.size]? = some (.cells (((cs.setIfInBounds 132 (.slice A2 (b.wl.length + 1) c2)).setIfInBounds 133 (.slice A4 (b.al.length + 1) c4)).setIfInBounds 1 (.int .i64 (b.now + 1))) 32 (0, 0))) := Lib.hid (heap_setCell_same _ _ _ _ _ _ (heap_setCell_same _ _ _ _ _ _ HN4.out))
    have HY4 : Hid (((w4.setCell ⟨w.heap.size, 133, none⟩ (.slice A4 (b.al.length + 1) c4)).setCell ⟨w.heap.size, 1, none⟩ (.int .i64 (b.now + 1))).heap[w.heap.size + 1]? = some (.cells zb 32 (0, 0))) := Lib.hid (by rw [heap_setCell_other _ _ _ _ (by simp), heap_setCell_other _ _ _ _ (by simp)]; exact HZ4.out)
    have HBZ : Hid (Below w.heap.size w ((w4.setCell ⟨w.heap.size, 133, none⟩ (.slice A4 (b.al.length + 1) c4)).setCell ⟨w.heap.size, 1, none⟩ (.int .i64 (b.now + 1)))) := Lib.hid (((HBs.out.trans (HB4.out.mono HBs.out.size)).setCell (p := ⟨w.heap.size, 133, none⟩) (Nat.le_refl _) _).setCell (p := ⟨w.heap.size, 1, none⟩) (Nat.le_refl _) _)
    have HR2z := Lib.hid (((own_bel HRs.out HB4.out).kept (grown_set (N := w.heap.size) (j := 133) (v := (.slice A4 (b.al.length + 1) c4))) (row_far HRs.out (by omega))).kept (grown_set (N := w.heap.size) (j := 1) (v := .int .i64 (b.now + 1))) (row_far HRs.out (by omega)))
    have HR4z := Lib.hid ((HR4.out.kept (grown_set (N := w.heap.size) (j := 133) (v := (.slice A4 (b.al.length + 1) c4))) (row_far HR4.out n3)).kept (grown_set (N := w.heap.size) (j := 1) (v := .int .i64 (b.now + 1))) (row_far HR4.out n3))
    clear HB4 HR4 HRs HNs HZs HN4 HZ4 l1 n5 z133 zf133 HR3 HB3 x1 x133 y133 B1 B2 B3 O1 O2 O3 q2 q3 HAX
    have hsz : (((cs.setIfInBounds 132 (.slice A2 (b.wl.length + 1) c2)).setIfInBounds 133 (.slice A4 (b.al.length + 1) c4)).setIfInBounds 1 (.int .i64 (b.now + 1))).size = 134 := by rw [Array.size_setIfInBounds, Array.size_setIfInBounds, Array.size_setIfInBounds, HK.out.size]
    have hone : (((cs.setIfInBounds 132 (.slice A2 (b.wl.length + 1) c2)).setIfInBounds 133 (.slice A4 (b.al.length + 1) c4)).setIfInBounds 1 (.int .i64 (b.now + 1))).all (·.oneCell') = true := one_set (one_set (one_set HK.out.one _ rfl) _ rfl) _ rfl
    have HSZ := Lib.hid hsz
    have HON := Lib.hid hone
    have HEQ := Lib.hid (rfl : (((cs.setIfInBounds 132 (.slice A2 (b.wl.length + 1) c2)).setIfInBounds 133 (.slice A4 (b.al.length + 1) c4)).setIfInBounds 1 (.int .i64 (b.now + 1))) = (((cs.setIfInBounds 132 (.slice A2 (b.wl.length + 1) c2)).setIfInBounds 133 (.slice A4 (b.al.length + 1) c4)).setIfInBounds 1 (.int .i64 (b.now + 1))))
    obtain ⟨cs2, hcs2⟩ : ∃ c, c = (((cs.setIfInBounds 132 (.slice A2 (b.wl.length + 1) c2)).setIfInBounds 133 (.slice A4 (b.al.length + 1) c4)).setIfInBounds 1 (.int .i64 (b.now + 1))) := ⟨_, rfl⟩
    rw [← hcs2] at HX4 HSZ HON
    have HCS := Lib.hid hcs2
    clear hcs2 hsz hone HEQ
    go_wp2_with (first
      | (refine wpList_load_row rfl 32 (.tmp 2) rfl w.heap.size rfl 32 cs2 (0, 0) _ HX4.out Try.underlying32 rfl (by rw [HSZ.out]; exact info32) ?_)
      | (refine wpList_store_row rfl 32 (.tmp 4) (.tmp 26) rfl (w.heap.size + 1) cs2 rfl rfl 32 zb HY4.out (by rw [HSZ.out]; exact info32) (by rw [HSZ.out]; exact zb_size) HON.out ?_; obtain ⟨WF, hWF⟩ : ∃ WF, WF = ((w4.setCell ⟨w.heap.size, 133, none⟩ (.slice A4 (b.al.length + 1) c4)).setCell ⟨w.heap.size, 1, none⟩ (.int .i64 (b.now + 1))).setRow (w.heap.size + 1) cs2 := ⟨_, rfl⟩; rw [← hWF]; have HWF := Lib.hid hWF; clear hWF)
      | fail)
    have hbF : Below w.heap.size w WF := by rw [HWF.out]; exact below_setRow HBZ.out (by omega) _
    have r2f := HR2z.out.kept (grown_row (N := w.heap.size + 1) (cs := cs2)) (row_far HR2z.out (by omega))
    have r4f := HR4z.out.kept (grown_row (N := w.heap.size + 1) (cs := cs2)) (row_far HR4z.out (by have := HSs.out; omega))
    rw [← HWF.out] at r2f r4f
    obtain ⟨_, _, e2, d2⟩ := own_form r2f
    cases e2
    obtain ⟨_, _, e4, d4⟩ := own_form r4f
    cases e4
    refine bodyPost_ret (v := .agg cs2) (results_cell_row (P := Try.prog) rfl _ _ (w.heap.size + 1) 32 cs2 (0, 0) _ rfl (by rw [HWF.out]; exact setRow_heap _ _ _ _ _ _ HY4.out) Try.underlying32 rfl (by rw [HSZ.out]; exact info32)) rfl ⟨cs2, rfl, ?_, hbF⟩
    have hfin := HK.out.rows (w' := WF) (c := c2) (c' := c4) (l := b.wl ++ [x]) (l' := b.al ++ [b.now]) (n := b.now + 1) ⟨d2, .inr (own_far r2f (by omega) hF)⟩ ⟨(by show Rd _ _ _ ((b.al ++ [b.now]).map (Value.int .i64)); rw [List.map_append]; exact d4), .inr (own_far r4f (by have := HSs.out; omega) hF)⟩
    rw [HCS.out]
    simp only [List.length_append, List.length_cons, List.length_nil, Nat.zero_add] at hfin
    exact hfin
end Go.Proofs.Ytlffigkjhhcohaa
