/- Operations of a source: words, and the program's batch. -/
import Derived.Deep.AppendLies
import Derived.Test.YtnchpfmpjpnciaaA4
namespace Go.Proofs.Ytnchpfmpjpnciaa
set_option linter.unusedSimpArgs false
open Go.RowKit Go.Maps Go.Shelf
set_option linter.unusedVariables false
theorem info42 : (Try.prog.info? 42).map (·.size) = some 5 := by kernel_rfl
theorem info36z : (Try.prog.info? 36).map (fun i => (i.zero, i.size, i.bytes)) = some (some (.agg #[.int .u8 0, .int .i64 0, .string ⟨#[]⟩, .string ⟨#[]⟩, .string ⟨#[]⟩, .int .u64 0]), 6, 72) := by kernel_rfl
theorem run_zo (w : World) : Sem.run Try.prog (zeroValue 42) w = Result.ok (Value.agg #[.int .u8 0, .string ⟨#[]⟩, .string ⟨#[]⟩, .int .i64 0, .slice none 0 0]) w := by
  kernel_rfl
/-- An operation's cells. -/
def oc (kind : Int) (k : ByteArray) (n : Int) (v : Value) : Array Value := #[.int .u8 kind, .string k, .string ⟨#[]⟩, .int .i64 n, v]
theorem oc_one (kind : Int) (k : ByteArray) (n : Int) (A : Option Addr) (l c : Nat) : (oc kind k n (.slice A l c)).all (·.oneCell') = true := by simp [oc, Value.oneCell']
theorem res42 {f : Func} (hf : f.results = #[.cell 2 42]) (tmps : Array Value) (w : World) (g : Nat) (cs : Array Value) (hp : tmps.getD 2 undef = .pointer (some ⟨g, 0, none⟩)) (hg : w.heap[g]? = some (.cells cs 42 (0, 0))) (hi : cs.size = 5) :
    (results f tmps).run Try.prog w = .ok (.agg cs) w := by
  have hp' : tmps[2]?.getD undef = .pointer (some ⟨g, 0, none⟩) := by simpa using hp
  simp [results, hf, hp', asAddr, run_loadVar_row w g 42 42 cs (0, 0) _ hg Try.underlying42 rfl (by rw [hi]; exact info42)]
-- many messages
def mstep (S : Int) : Int := msgS (bl S 8) (bs S 8)
def mval (S : Int) : Array Value := msgA (bl S 8) (bs S 8)
theorem mval_form (S : Int) : ∃ kd k t v d, mval S = #[.int .u8 kd, .int .i64 0, .string k, .string t, .string v, .int .u64 d] := by
  unfold mval msgA
  split
  · exact ⟨_, _, _, _, _, rfl⟩
  · split
    · exact ⟨_, _, _, _, _, rfl⟩
    · split <;> exact ⟨_, _, _, _, _, rfl⟩
def mst (S : Int) : Nat → Int
  | 0 => S
  | k + 1 => mstep (mst S k)
def mrow (S : Int) : Nat → List Value
  | 0 => []
  | k + 1 => mrow S k ++ (mval (mst S k)).toList
-- operations
def opK (n : Int) : Int := if n < 2 then 1 else if n < 5 then 2 else if n = 5 then 3 else if n = 6 then 4 else 5
def opY (n S : Int) : ByteArray := if n < 2 then keyB S 4 2 else if n = 5 then keyB S 4 1 else ⟨#[]⟩
def opN (n S : Int) : Int := if n = 5 then bl (keyS S 4 1) 3 + 1 else if n = 7 then 1 else 0
def opL (n S : Int) : Nat := if 2 ≤ n ∧ n < 5 then (bl S 3 + 1).toNat else 0
def opS (n S : Int) : Int := if n < 2 then keyS S 4 2 else if n < 5 then mst (bs S 3) (opL n S) else if n = 5 then bs (keyS S 4 1) 3 else S
/-- A row of cells that is read. -/
def RdV (w : World) (lo : Nat) (A : Option Addr) (l : List Value) : Prop := l = [] ∨ ∃ g, A = some ⟨g, 0, none⟩ ∧ lo ≤ g ∧ g < w.heap.size ∧ ∀ j u, l[j]? = some u → w.cell? ⟨g, j, none⟩ = some u
def OpPost (t g : Nat) (n S : Int) (w : World) (e : Ending) (w' : World) : Prop :=
  ∃ A c, e = .returned (.agg (oc (opK n) (opY n S) (opN n S) (.slice A (opL n S) c))) ∧ Eff t g (opS n S) w w' ∧ RdV w' w.heap.size A (mrow (bs S 3) (opL n S))
theorem RdV.of_own {w : World} {base e size n : Nat} {v : Value} {xs : List Value} (h : w.ownsRow base e size v n xs) : ∃ A c, v = .slice A n c ∧ RdV w base A xs := by
  rcases h with ⟨hl, ⟨rfl, rfl⟩ | ⟨g, cap, cur, rfl, hb, hg, _, _, _, ht⟩⟩
  · exact ⟨_, _, rfl, .inl (List.eq_nil_of_length_eq_zero (by omega))⟩
  · refine ⟨_, _, rfl, .inr ⟨g, rfl, hb, ?_, fun j u hj => ?_⟩⟩
    · rcases Nat.lt_or_ge g w.heap.size with h' | h'
      · exact h'
      · simp [Array.getElem?_eq_none h'] at hg
    · rw [← ht, List.getElem?_take] at hj
      split at hj
      · rw [cell_of_row w g j cur e (0, 0) hg]; simpa using hj
      · simp at hj
theorem RdV.down {w : World} {lo lo' : Nat} {A : Option Addr} {l : List Value} (h : RdV w lo A l) (hl : lo' ≤ lo) : RdV w lo' A l := by
  rcases h with h | ⟨g, h1, h2, h3, h4⟩
  · exact .inl h
  · exact .inr ⟨g, h1, Nat.le_trans hl h2, h3, h4⟩
theorem RdV.chg {w w' : World} {D : Nat → Prop} {lo : Nat} {A : Option Addr} {l : List Value} (h : RdV w lo A l) (hc : Chg D w w') (hD : ∀ g, D g → g < lo ∨ w.heap.size ≤ g) : RdV w' lo A l := by
  rcases h with h | ⟨g, h1, h2, h3, h4⟩
  · exact .inl h
  · refine .inr ⟨g, h1, h2, Nat.lt_of_lt_of_le h3 hc.size, fun j u hj => ?_⟩
    have hb : w'.heap[g]? = w.heap[g]? := hc.block g h3 (fun hd => by rcases hD g hd with x | x <;> omega)
    rw [World.cell?_of_block (a := ⟨g, j, none⟩) hb]
    exact h4 j u hj
theorem Eff.grown {t g : Nat} {S : Int} {w w1 w2 : World} {row : Option Nat} (h : Eff t g S w w1) (hg : w1.grownBy w2 row) (hr : ∀ x, row = some x → w.heap.size ≤ x) (hG : g < w.heap.size) : Eff t g S w w2 := by
  refine ⟨(hg.block g h.1.lt (fun e => by have := hr g e.symm; omega)).trans h.1, h.2.trans (G := fun x => row = some x) ⟨hg.os, hg.tape, hg.output, hg.size, fun x hx hn => hg.block x hx (fun e => hn e.symm)⟩ (fun x hx => .inr (hr x hx))⟩
theorem keep_grown {w w' : World} {row : Option Nat} {x : Nat} {o : Obj} (hg : w.grownBy w' row) (ho : w.heap[x]? = some o) (hx : row ≠ some x) : w'.heap[x]? = some o :=
  (hg.block x (by
    rcases Nat.lt_or_ge x w.heap.size with h' | h'
    · exact h'
    · simp [Array.getElem?_eq_none h'] at ho) (fun e => hx e.symm)).trans ho
theorem set_row4 {w : World} {b : Nat} {k : ByteArray} {v v' : Value} (h : w.heap[b]? = some (.cells (oc 2 k 0 v) 42 (0, 0))) : (w.setCell ⟨b, 4, none⟩ v').heap[b]? = some (.cells (oc 2 k 0 v') 42 (0, 0)) := by
  simp [World.setCell, Array.getElem?_modify, h, oc]
theorem Chg.of_row (w : World) (x : Nat) (cs : Array Value) : Chg (fun g => g = x) w (w.setRow x cs) :=
  ⟨rfl, rfl, rfl, by simp, fun i _ hi => setRow_other _ _ _ _ hi⟩
theorem own_chg {w w' : World} {base e size n g : Nat} {v : Value} {xs : List Value} (h : w.ownsRow base e size v n xs) (hc : Chg (fun x => x = g) w w') (hg : g < base) : w'.ownsRow base e size v n xs := by
  refine h.kept hc.grown ?_
  rcases h with ⟨_, ⟨rfl, _⟩ | ⟨b, cap, cur, rfl, hb, _⟩⟩
  · simp [Value.ownBlock]
  · simp only [Value.ownBlock]; right; intro e; cases e; omega

theorem drew_bel (w : World) : Below w.heap.size w w.drew := (Below.refl _ _).drew
theorem alb (w : World) (o : Obj) : Below w.heap.size w (w.alloc o) := by go_grown
set_option maxHeartbeats 2000000 in
set_option maxRecDepth 4000 in
theorem op_p_batch {w : World} {g : Nat} {S n S1 : Int} (h : Src w 63 g S) (hn : 2 ≤ n ∧ n < 5) (en : bl S 8 = n) (eS : bs S 8 = S1) :
    Calls Try.prog 14 #[.pointer (some ⟨g, 0, none⟩)] w (OpPost 63 g n S1 w) := by
  have hal := run_zo
  have hG := h.lt
  have hG2 : ¬ w.heap.size = g := by omega
  have hb0 : Below w.heap.size w (w.alloc (.cells #[.int .u8 0, .string ⟨#[]⟩, .string ⟨#[]⟩, .int .i64 0, .slice none 0 0] 42)) := by go_grown
  have HE : Hid (Eff 63 g S w (w.alloc (.cells #[.int .u8 0, .string ⟨#[]⟩, .string ⟨#[]⟩, .int .i64 0, .slice none 0 0] 42))) := Lib.hid (Eff.later ⟨h, Chg.refl _ _⟩ hb0)
  have B8 := Lib.hid (below_p 8 HE.out.1 (by omega))
  rw [en, eS] at B8
  have Z0 := Lib.hid (heap_alloc_new w (.cells #[.int .u8 0, .string ⟨#[]⟩, .string ⟨#[]⟩, .int .i64 0, .slice none 0 0] 42))
  have q0 : (n == 0) = false := by simp; omega
  have q1 : (n == 1) = false := by simp; omega
  have q5 : (n == 5) = false := by simp; omega
  have q6 : (n == 6) = false := by simp; omega
  have q7 : (n == 7) = false := by simp; omega
  have hx := bl_range S1 3 (by omega)
  have eL : opL n S1 = (bl S1 3 + 1).toNat := by unfold opL; rw [if_pos hn]
  obtain ⟨L, hL⟩ : ∃ L, L = opL n S1 := ⟨_, rfl⟩
  have hLc : bl S1 3 + 1 = L := by omega
  have EP : Hid (OpPost 63 g n S1 w = fun e w' => ∃ A c, e = .returned (.agg (oc 2 ⟨#[]⟩ 0 (.slice A L c))) ∧ Eff 63 g (mst (bs S1 3) L) w w' ∧ RdV w' w.heap.size A (mrow (bs S1 3) L)) := Lib.hid (by
    unfold OpPost
    rw [← hL, show opK n = 2 by unfold opK; rw [if_neg (by omega), if_pos (by omega)], show opY n S1 = ⟨#[]⟩ by unfold opY; rw [if_neg (by omega), if_neg (by omega)], show opN n S1 = 0 by unfold opN; rw [if_neg (by omega), if_neg (by omega)], show opS n S1 = mst (bs S1 3) L by unfold opS; rw [if_neg (by omega), if_pos (by omega), hL]])
  rw [EP.out]
  generalize hS2 : bs S1 3 = S2 at *
  generalize hxx : bl S1 3 = x at *
  have HS2 := Lib.hid hS2
  have HXX := Lib.hid hxx
  have hL3 : L ≤ 3 := by omega
  have HL3 := Lib.hid hL3
  clear h hb0 EP eL hL hS2 hxx hx en eS hn
  go_enter Try.func14, Try.ntmps14
  go_wp2_with (first
    | (go_at_call 8; ((with_reducible refine B8.out.mono ?_); rintro e w1 ⟨rfl, h1⟩; have H1 := Lib.hid (HE.out.trans h1); have Z1 := Lib.hid (h1.keep hG2 Z0.out); have N1 : Hid (w.heap.size < w1.heap.size) := Lib.hid (Nat.lt_of_lt_of_le (by simp) h1.size); have hb2 : Below w1.heap.size w1 (w1.alloc (.cells #[.int .u8 2, .string ⟨#[]⟩, .string ⟨#[]⟩, .int .i64 0, .slice none 0 0] 42)) := (by go_grown); have H2 := Lib.hid (H1.out.later hb2); have O2 := Lib.hid (heap_alloc_new w1 (.cells #[.int .u8 2, .string ⟨#[]⟩, .string ⟨#[]⟩, .int .i64 0, .slice none 0 0] 42)); have Z2 := Lib.hid (keep_bel hb2 Z1.out); have B3 := Lib.hid (below_p 3 H2.out.1 (by omega)); rw [HXX.out, HS2.out] at B3; clear h1 hb2))
    | (go_at_call 8; ((with_reducible refine B3.out.mono ?_); rintro e w3 ⟨rfl, h3⟩; have H3 := Lib.hid (H2.out.trans h3); have Z3 := Lib.hid (h3.keep hG2 Z2.out); have O3 := Lib.hid (h3.keep (by have := N1.out; omega) O2.out); have N3 : Hid (w1.heap.size + 1 ≤ w3.heap.size) := Lib.hid (Nat.le_trans (by simp) h3.size); clear h3))
    | fail)
  clear H1 H2 O2 Z1 Z2 B3 B8 HE Z0
  obtain ⟨bo, hbo⟩ : ∃ b, b = w1.heap.size := ⟨_, rfl⟩
  rw [← hbo] at O3 N1 N3 ⊢
  clear hbo
  obtain ⟨i0, hi0, hz0, hz1, hz2⟩ := info_parts info36z
  go_loopw [33] (fun iv wr => ∃ (k : Nat) (v : Value), k ≤ L ∧ iv = .int .i64 k ∧ wr.ownsRow (bo + 1) 36 6 v k (mrow S2 k) ∧ wr.heap[bo]? = some (.cells (oc 2 ⟨#[]⟩ 0 v) 42 (0, 0)) ∧ wr.heap[w.heap.size]? = some (.cells #[.int .u8 0, .string ⟨#[]⟩, .string ⟨#[]⟩, .int .i64 0, .slice none 0 0] 42 (0, 0)) ∧ Eff 63 g (mst S2 k) w wr ∧ bo + 1 ≤ wr.heap.size) (fun i _ => L - (intOf i).toNat)
  case atStart => exact ⟨0, _, by omega, rfl, World.ownsRow_nil _ _ _ _, O3.out, Z3.out, H3.out, N3.out⟩
  case round =>
    obtain ⟨k, v, hk, rfl, ho, hbx, hz, he, hsz⟩ := hrel
    have HO := Lib.hid ho
    have HBX := Lib.hid hbx
    have HZ := Lib.hid hz
    have HE := Lib.hid he
    have HSZ := Lib.hid hsz
    clear ho hbx hz he hsz H3 Z3 O3 N3
    by_cases h8 : k < L
    · have hk1 : (k : Int) < (L : Int) := by omega
      obtain ⟨A, c, hv, _⟩ := RdV.of_own HO.out
      subst hv
      obtain ⟨kd, mk, mt, mv, md, hmv⟩ := mval_form (mst S2 k)
      have CM : Hid (Calls Try.prog 12 #[.pointer (some ⟨g, 0, none⟩)] wr.drew fun e w' => e = .returned (.agg #[.int .u8 kd, .int .i64 0, .string mk, .string mt, .string mv, .int .u64 md]) ∧ Eff 63 g (mst S2 (k + 1)) wr.drew w') := Lib.hid (by rw [← hmv]; exact msg_p (show Src wr.drew 63 g (mst S2 k) from HE.out.1))
      have HMR : Hid (mrow S2 (k + 1) = mrow S2 k ++ [.int .u8 kd, .int .i64 0, .string mk, .string mt, .string mv, .int .u64 md]) := Lib.hid (by show mrow S2 k ++ (mval (mst S2 k)).toList = _; rw [hmv])
      have c4 : Hid (wr.cell? ⟨bo, 4, none⟩ = some (.slice A k c)) := Lib.hid (by rw [cell_of_row wr bo 4 _ 42 (0, 0) HBX.out]; rfl)
      clear hmv
      have cd4 : wr.drew.cell? ⟨bo, 4, none⟩ = some (.slice A k c) := c4.out
      have hkL := HL3.out
      go_wp2_with fail
      go_region_law (first
        | (go_simp; go_at_call 12; ((with_reducible refine CM.out.mono ?_); rintro e w3 ⟨rfl, h3⟩; have H3 := Lib.hid ((HE.out.later (drew_bel wr)).trans h3); have OW3 := Lib.hid (own_bel (own_chg (own_bel HO.out (drew_bel wr)) h3.2 (by have := N1.out; omega)) (alb w3 (.cells #[.int .u8 kd, .int .i64 0, .string mk, .string mt, .string mv, .int .u64 md] 36))); have BX3 := Lib.hid (h3.keep (by have := N1.out; omega) (show wr.drew.heap[bo]? = _ from HBX.out)); have Z3 := Lib.hid (h3.keep hG2 (show wr.drew.heap[w.heap.size]? = _ from HZ.out)); have N3 : Hid (bo + 1 ≤ w3.heap.size) := Lib.hid (Nat.le_trans HSZ.out h3.size); have BX4 := Lib.hid (keep_bel (alb w3 (.cells #[.int .u8 kd, .int .i64 0, .string mk, .string mt, .string mv, .int .u64 md] 36)) BX3.out); have NW := Lib.hid (World.news_of_block (cs := #[.int .u8 kd, .int .i64 0, .string mk, .string mt, .string mv, .int .u64 md]) (t := 36) (fr := (0, 0)) (heap_alloc_new w3 _)); have c34 : (w3.alloc (.cells #[.int .u8 kd, .int .i64 0, .string mk, .string mt, .string mv, .int .u64 md] 36)).cell? ⟨bo, 4, none⟩ = some (.slice A k c) := (by rw [cell_of_row _ bo 4 _ 42 (0, 0) BX4.out]; rfl); have c33 : w3.cell? ⟨bo, 4, none⟩ = some (.slice A k c) := (by rw [cell_of_row _ bo 4 _ 42 (0, 0) BX3.out]; rfl); clear h3))
        | (refine step_append_lies _ rfl (.tmp 36) (.tmp 39) _ rfl (bo + 1) 36 i0 _ 6 72 Try.underlying40 hi0 hz0 hz1 hz2 rfl (by omega) (.slice A k c) k (mrow S2 k) (by simp [Act.eval, Act.put]) OW3.out ⟨w3.heap.size, 0, none⟩ 1 1 [.int .u8 kd, .int .i64 0, .string mk, .string mt, .string mv, .int .u64 md] (by simp [Act.eval, Act.put]) rfl NW.out (by simp [Value.oneCell']) (by omega) (by simp only [maxLen]; omega) (by omega) (by have := N3.out; simp; omega) (w3.heap.size + 1) (by simp) ?_; intro gg cap w4 hown4 hg4 hat4 hlt4; have HOW4 := Lib.hid hown4; have HGR4 := Lib.hid hg4; have ONE : Hid (∀ x, (Value.slice A k c).ownBlock = some x → bo + 1 ≤ x) := Lib.hid (fun x hx => (OW3.out.lt x hx).1); have BX5 := Lib.hid (keep_grown hg4 BX4.out (fun e => by have := ONE.out bo e; omega)); have d4 : w4.cell? ⟨bo, 4, none⟩ = some (.slice A k c) := (by rw [cell_of_row _ bo 4 _ 42 (0, 0) BX5.out]; rfl); have f4 : w4.frozen? ⟨bo, 4, none⟩ = false := frozen_of_row _ _ _ _ _ BX5.out; clear hown4 hg4 hat4 hlt4 c34))
      all_goals
        have BX6 := Lib.hid (set_row4 (v' := .slice (some ⟨gg, 0, none⟩) (k + 1) cap) BX5.out)
        have HN1 := N1.out
        have Z4 : w4.heap[w.heap.size]? = some (.cells #[.int .u8 0, .string ⟨#[]⟩, .string ⟨#[]⟩, .int .i64 0, .slice none 0 0] 42 (0, 0)) := keep_grown HGR4.out (keep_bel (alb w3 (.cells #[.int .u8 kd, .int .i64 0, .string mk, .string mt, .string mv, .int .u64 md] 36)) Z3.out) (fun e => by have := ONE.out _ e; omega)
        have hne : ¬ bo = w.heap.size := by omega
        have Z6 : Hid ((w4.setCell ⟨bo, 4, none⟩ (.slice (some ⟨gg, 0, none⟩) (k + 1) cap)).heap[w.heap.size]? = some (.cells #[.int .u8 0, .string ⟨#[]⟩, .string ⟨#[]⟩, .int .i64 0, .slice none 0 0] 42 (0, 0))) := Lib.hid (by simpa [World.setCell, Array.getElem?_modify, hne] using Z4)
        have OW6 := Lib.hid (own_chg HOW4.out (Chg.set (D := fun x => x = bo) (o := 4) w4 (.slice (some ⟨gg, 0, none⟩) (k + 1) cap) rfl) (Nat.lt_succ_self bo))
        have E6 := Lib.hid (((H3.out.later (alb w3 (.cells #[.int .u8 kd, .int .i64 0, .string mk, .string mt, .string mv, .int .u64 md] 36))).grown HGR4.out (fun x hx => by have := ONE.out x hx; omega) hG).low ((Below.refl bo w4).setCell (p := ⟨bo, 4, none⟩) (Nat.le_refl _) (.slice (some ⟨gg, 0, none⟩) (k + 1) cap)) (by omega) (by omega))
        have S6 : Hid (bo + 1 ≤ (w4.setCell ⟨bo, 4, none⟩ (.slice (some ⟨gg, 0, none⟩) (k + 1) cap)).heap.size) := Lib.hid (by have h1 := N3.out; have h2 := HGR4.out.size; simp at h2 ⊢; omega)
        clear d4 f4 c33 BX5 BX4 BX3 Z3 Z4 NW OW3 HOW4 HGR4 ONE
        generalize w4.setCell ⟨bo, 4, none⟩ (.slice (some ⟨gg, 0, none⟩) (k + 1) cap) = V at *
        go_wp2_with fail
        refine ⟨⟨k + 1, _, by omega, by simp, ?_, BX6.out, Z6.out, E6.out, S6.out⟩, by simp [intOf]; omega⟩
        rw [HMR.out]; exact OW6.out
    · have hk1 : ¬ (k : Int) < (L : Int) := by omega
      have e8 : k = L := by omega
      subst e8
      obtain ⟨A, c, hv, hrd⟩ := RdV.of_own HO.out
      subst hv
      have HRD := Lib.hid hrd
      have HN1 := N1.out
      clear hrd
      go_wp2_with (first
        | (refine wpList_load_row rfl 42 (.tmp 3) rfl bo rfl 42 (oc 2 ⟨#[]⟩ 0 (.slice A k c)) (0, 0) _ HBX.out Try.underlying42 rfl info42 ?_)
        | (refine wpList_store_row rfl 42 (.tmp 2) (.tmp 43) rfl w.heap.size (oc 2 ⟨#[]⟩ 0 (.slice A k c)) rfl rfl 42 _ HZ.out info42 rfl (oc_one _ _ _ _ _ _) ?_)
        | fail)
      refine bodyPost_ret (v := .agg (oc 2 ⟨#[]⟩ 0 (.slice A k c))) (res42 rfl _ _ w.heap.size _ rfl (setRow_heap _ _ _ _ _ _ HZ.out) rfl) rfl ⟨A, ⟨c, rfl⟩, HE.out.row (Nat.le_refl _) hG _, ((HRD.out.chg (Chg.of_row wr w.heap.size _) (fun x hx => .inl (by omega))).down (by omega))⟩
end Go.Proofs.Ytnchpfmpjpnciaa
