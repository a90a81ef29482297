/- Maps of numbers: the law OrderNumbers: its walk. -/
import Derived.Test.YtfgohbhacldlmaaNH0
import Derived.Test.YtfgohbhacldlmaaG1
import Derived.Test.YtfgohbhacldlmaaG2
import Derived.LoopIn
namespace Go.Proofs.Ytfgohbhacldlmaa.N
set_option linter.unusedSimpArgs false
open Go.RowKit Go.Shelf
set_option linter.unusedVariables false
attribute [local go_sem] Oper.semAt_some

theorem run_isnil52 (g : Fn) (r l : Array Value) (W : World) : Sem.run Try.prog (binOp BinOp.eql 52 (Value.func g r l) Value.nilFunc) W = .ok (.bool false) W := by
  have h0 : ∀ d : Nat, (Op.equalIn (d + 1) 52 (Value.func g r l) Value.nilFunc).run Try.prog W = .ok false W := fun d => by simp [Op.equalIn, run_underlying Try.underlying52]
  have h1 := h0 9999
  have e : Op.equal 52 (Value.func g r l) Value.nilFunc = Op.equalIn (9999 + 1) 52 (Value.func g r l) Value.nilFunc := rfl
  rw [← e] at h1
  simp [binOp, go_sem, h1]
theorem xS_list : xS.toList = [120] := by first | rfl | kernel_rfl | simp [xS, go_sem] | (simp [xS]; done)
/-- What is so behind k numbers. -/
structure NP (w : World) (ls : List Int) (k : Nat) (L : NL) (W : World) : Prop where
  m : MapIs W (w.heap.size + 1) L
  ok : okN L
  has : ∀ j y, j < k → ls[j]? = some y → (y, xS) ∈ L
  l : L.length ≤ k
  b : Below w.heap.size w W
  bx : Boxed W w.heap.size 4 (.bool false)
theorem NP.next {w W W' : World} {ls : List Int} {k : Nat} {L : NL} {y : Int} (h : NP w ls k L W) (hy : ls[k]? = some y) (m : MapIs W' (w.heap.size + 1) (putL ltI y xS L)) (hg : W.grownBy W' (some (w.heap.size + 1))) : NP w ls (k + 1) (putL ltI y xS L) W' := by
  refine ⟨m, ⟨put_srt linI h.ok.1 y xS, put_all y h.ok.2⟩, fun j z hj hz => ?_, by have := put_len linI h.ok.1 y xS; have := h.l; omega, h.b.grown hg h.b.size (fun k e => by cases e; omega), h.bx.kept hg (by intro e; injection e with e; omega)⟩
  by_cases e : j = k
  · subst e; rw [hy] at hz; cases hz; exact put_mem _ _ _
  · exact put_has y (h.has j z (by omega) hz)
/-- What lies between two rounds of the range. -/
structure NI (wr : World) (Bl : Nat) (pre : NL) (W : World) : Prop where
  last : Boxed W Bl 3 (.int .i64 (lastK pre))
  seen : Boxed W (Bl + 1) 3 (.int .i64 (pre.length : Int))
  ok : okN pre
  kp : Below wr.heap.size wr W
theorem nI_own {wr : World} {Bl B : Nat} (hB : wr.heap.size ≤ B) : OwnFrom B (NI wr Bl) := by
  intro s X Y row hs hg hr
  refine ⟨?_, ?_, hs.ok, ?_⟩
  · exact (Own.from (boxed_own Bl 3 (fun pre : NL => Value.int .i64 (lastK pre))) B) s X Y row hs.last hg hr
  · exact (Own.from (boxed_own (Bl + 1) 3 (fun pre : NL => Value.int .i64 (pre.length : Int))) B) s X Y row hs.seen hg hr
  · exact (ownFrom_below (β := NL) (Nat.le_refl _) hB) s X Y row hs.kp hg hr
theorem NI.step {wr W : World} {Bl : Nat} {pre : NL} {k : Int} {v : ByteArray} (h : NI wr Bl pre W) (hb : wr.heap.size ≤ Bl) (hok : okN (pre ++ [(k, v)])) :
    NI wr Bl (pre ++ [(k, v)]) ((W.setCell ⟨Bl, 0, none⟩ (.int .i64 k)).setCell ⟨Bl + 1, 0, none⟩ (.int .i64 ((pre.length : Int) + 1))) := by
  refine ⟨?_, ?_, hok, (h.kp.setCell (p := ⟨Bl, 0, none⟩) (by simpa using hb) _).setCell (p := ⟨Bl + 1, 0, none⟩) (by simp; omega) _⟩
  · rw [lastK_snoc]
    exact (h.last.set (.int .i64 k)).other (by omega) _
  · have := (h.seen.other (B' := Bl) (by omega) (.int .i64 k)).set (.int .i64 ((pre.length : Int) + 1))
    simpa using this
/-- The loop is never left early: only where the pairs are wrong. -/
def NX (c : Code) (pre : NL) (W : World) : Prop := ¬ okN pre
def nX (w wr : World) (k : Nat) : Prop := k = w.heap.size ∨ k = wr.heap.size ∨ k = wr.heap.size + 1
set_option maxRecDepth 100000 in
set_option maxHeartbeats 4000000 in
theorem numbers_in (A : Option Addr) (n c : Nat) (ls : List Int) (w : World) (hl : ls.length = n) (hr : Rd w w.heap.size A (ls.map (Value.int .i64))) :
    CallsIn Fence.wide 4 Try.prog 7 #[.slice A n c] w fun e w' => e = .returned (.bool true) ∧ Below w.heap.size w w' := by
  have HR := Lib.hid hr
  have HL := Lib.hid hl
  clear hr hl
  refine callsIn_of_wp_marks Try.func7 rfl trivial ?_ rfl
  simp only [Try.ntmps7, List.size_toArray, List.length_cons, List.length_nil, Nat.reduceAdd, Nat.reduceSub, Array.replicate_succ, Array.replicate_zero, List.push_toArray, List.append_toArray, List.nil_append, List.cons_append]
  gi_wp2_with fail
  have bB := Boxed.new w 4 (.bool false)
  have b0 : Below w.heap.size w (w.alloc (.cells #[.bool false] 4)) := bel_alloc (Below.refl _ _) _
  have z0 : (w.alloc (.cells #[.bool false] 4)).heap.size = w.heap.size + 1 := by simp
  refine ⟨trivial, (callsIn_wide.2 (new_any _)).mono ?_⟩
  rintro e w1 ⟨rfl, m1, b1, _⟩
  rw [z0] at m1 ⊢
  have P0 : Hid (NP w ls 0 [] w1) := Lib.hid ⟨m1, ⟨List.Pairwise.nil, by simp⟩, fun j y h => by omega, Nat.le_refl _, bel_trans b0 b1, boxed_later bB b1⟩
  clear bB b0 z0 m1 b1
  gi_wp2
  gi_loopw [4, 5] (fun nv iv wr => ∃ (k : Nat) (L : NL), k ≤ min n 60 ∧ iv = .int .i64 (k : Int) ∧ nv = .int .i64 (L.length : Int) ∧ NP w ls k L wr) (fun _ i _ => min n 60 - (intOf i).toNat)
  case atStart => exact ⟨0, [], Nat.zero_le _, rfl, rfl, P0.out⟩
  case round =>
    obtain ⟨k, L, hk, rfl, rfl, hP⟩ := hrel
    have HP := Lib.hid hP
    clear hP
    by_cases h8 : k < min n 60
    · have q1 : (k : Int) < (n : Int) := by omega
      have q2 : (k : Int) < 60 := by omega
      have q0 : (0 : Int) ≤ (k : Int) := by omega
      obtain ⟨y, hy⟩ : ∃ y, ls[k]? = some y := ⟨_, List.getElem?_eq_getElem (by rw [HL.out]; omega)⟩
      obtain ⟨b, off, rfl, hb, f0⟩ := Rd.get HR.out (k := k) (u := .int .i64 y) (by rw [List.getElem?_map, hy]; rfl)
      have g0 := (bel_cell HP.out.b hb).trans f0
      have NXT := Lib.hid (fun W' m g => NP.next (W' := W') HP.out hy m g)
      have HK := Lib.hid h8
      have qn : L.length ≤ 60 := by have := HP.out.l; omega
      by_cases h9 : atk ltI y L = []
      · have e9 : (atk ltI y L).isEmpty = true := by rw [h9]; rfl
        have PU := Lib.hid (put_any (w.heap.size + 1) L y xS wr HP.out.m HP.out.ok.1 (by omega))
        rw [e9] at PU
        have LEN := Lib.hid (put_no HP.out.ok.1 y xS h9)
        clear h9 e9 hy f0 h8
        gi_wp2_with (refine ⟨trivial, ?_⟩; gi_at_call 22; refine (callsIn_wide.2 PU.out).mono ?_; rintro e w3 ⟨rfl, m3, g3⟩; have M3 := Lib.hid (NXT.out _ m3 g3); clear m3 g3 PU)
        go_roundw
        case rel => exact ⟨k + 1, putL ltI y xS L, by omega, by simp, by simp [LEN.out], M3.out⟩
        case measure => simp [intOf]; omega
      · have e9 : (atk ltI y L).isEmpty = false := by cases h : atk ltI y L with | nil => exact absurd h h9 | cons a b => rfl
        have PU := Lib.hid (put_any (w.heap.size + 1) L y xS wr HP.out.m HP.out.ok.1 (by omega))
        rw [e9] at PU
        have LEN := Lib.hid (put_yes HP.out.ok.1 y xS h9)
        clear h9 e9 hy f0 h8
        gi_wp2_with (refine ⟨trivial, ?_⟩; gi_at_call 22; refine (callsIn_wide.2 PU.out).mono ?_; rintro e w3 ⟨rfl, m3, g3⟩; have M3 := Lib.hid (NXT.out _ m3 g3); clear m3 g3 PU)
        go_roundw
        case rel => exact ⟨k + 1, putL ltI y xS L, by omega, by simp, by simp [LEN.out], M3.out⟩
        case measure => simp [intOf]; omega
    · have LV := Lib.hid (fun W => live_any W)
      rcases (show (¬ (k : Int) < (n : Int)) ∨ ((k : Int) < (n : Int) ∧ ¬ (k : Int) < 60) by omega) with q1 | ⟨q1, q2⟩
      · gi_wp2_with fail
        have hb1 : Below wr.heap.size wr ((wr.alloc (.cells #[.int .i64 0] 3)).alloc (.cells #[.int .i64 0] 3)) := bel_alloc (bel_alloc (Below.refl _ _) _) _
        have bL : Boxed ((wr.alloc (.cells #[.int .i64 0] 3)).alloc (.cells #[.int .i64 0] 3)) wr.heap.size 3 (.int .i64 0) := (Boxed.new wr 3 (.int .i64 0)).alloc _
        have bS : Boxed ((wr.alloc (.cells #[.int .i64 0] 3)).alloc (.cells #[.int .i64 0] 3)) (wr.heap.size + 1) 3 (.int .i64 0) := by
          have := Boxed.new (wr.alloc (.cells #[.int .i64 0] 3)) 3 (.int .i64 0)
          simpa only [World.size_alloc] using this
        have zV : ((wr.alloc (.cells #[.int .i64 0] 3)).alloc (.cells #[.int .i64 0] 3)).heap.size = wr.heap.size + 2 := by simp
        generalize ((wr.alloc (.cells #[.int .i64 0] 3)).alloc (.cells #[.int .i64 0] 3)) = V at *
        have hws : w.heap.size + 2 ≤ wr.heap.size := by have := HP.out.m.lt; omega
        refine ⟨trivial, (callsIn_wide.2 (all_any (w.heap.size + 1) L V (HP.out.m.later hb1))).mono ?_⟩
        rintro e W0 ⟨lb, rfl, hb2, hS⟩
        have hsb := hb2.size
        have bL0 := boxed_later bL hb2
        have bS0 := boxed_later bS hb2
        have hB := bel_trans hb1 hb2
        have bR0 := boxed_later HP.out.bx hB
        have hXl : ∀ k, nX w wr k → k < V.heap.size ∧ W0.cell? ⟨k, 1, none⟩ = none ∧ W0.cell? ⟨k, 2, none⟩ = none := fun k hk => by
          rcases hk with rfl | rfl | rfl
          · exact ⟨by omega, by simp [World.cell?, show W0.heap[_]? = _ from bR0], by simp [World.cell?, show W0.heap[_]? = _ from bR0]⟩
          · exact ⟨by omega, by simp [World.cell?, show W0.heap[_]? = _ from bL0], by simp [World.cell?, show W0.heap[_]? = _ from bL0]⟩
          · exact ⟨by omega, by simp [World.cell?, show W0.heap[_]? = _ from bS0], by simp [World.cell?, show W0.heap[_]? = _ from bS0]⟩
        have SQ := hS (nX w wr) hXl
        have hX0 : ∀ k, nX w wr k → k < W0.heap.size := fun k hk => by have := (hXl k hk).1; omega
        have hnil := run_isnil52 (.func 54) #[] lb
        have hI0 : NI wr wr.heap.size [] W0 := ⟨bL0, bS0, ⟨List.Pairwise.nil, by simp⟩, hB⟩
        have hsw : wr.heap.size + 2 ≤ W0.heap.size := by omega
        clear hS hXl bL bS bL0 bS0 bR0 hb1 hb2 hB
        gi_wp2
        refine range_L (w0 := W0) (gf := 54) (lb := lb) rfl (enters_of Try.func54 (by kernel_rfl) rfl) SQ (Nat.le_refl _) hX0 (Below.refl _ _) (fun _ => rfl)
          (NI wr wr.heap.size) NX (nI_own (by omega)) (fun c => ownFrom_pure _ _) hI0
          (fun x => { tmps := #[.slice A n c, undef, .pointer (some ⟨w.heap.size, 0, none⟩), .pointer (some ⟨w.heap.size + 1, 0, none⟩), .int .i64 (L.length : Int), .int .i64 (k : Int), .pointer (some ⟨wr.heap.size, 0, none⟩), .pointer (some ⟨wr.heap.size + 1, 0, none⟩), .func (.func 54) #[] lb, .int .i64 x.1, .string x.2, undef, undef, undef, .pointer (some ⟨w.heap.size + 1, 0, none⟩), .int .i64 (k : Int), .slice A n c, .int .i64 (n : Int), .bool false, .bool false, undef, undef, .bool false, u23, u24, u25, u26, u27, u28, u29, u30, u31, u32, .pointer (some ⟨w.heap.size + 1, 0, none⟩), .func (.func 54) #[] lb, .func (.func 54) #[] lb, .bool false, .func (.func 54) #[] lb, .int .i64 x.1, .string x.2, undef, undef, undef, undef, undef, undef, undef, undef, undef, undef, undef, undef, undef, undef, undef, undef, undef, undef, undef, undef, undef, undef, undef, undef, undef, undef, undef, undef, undef, undef, undef, undef, undef, undef, undef, undef, undef, undef, undef, undef, undef, undef, undef, undef, undef, undef, undef, undef, undef, undef, undef], defers := [] }) ?assign ?body ?done ?stop
        case assign =>
          intro m l x W K hK
          gi_wp2
          exact hK
        case body =>
          rintro m l pre x W hl hI hlen
          obtain ⟨k0, v⟩ := x
          have cL := hI.last.cell
          have fL := hI.last.frozen
          have cS := hI.seen.cell
          have fS := hI.seen.frozen
          have bR := boxed_later HP.out.bx hI.kp
          have cR := bR.cell
          have fR := bR.frozen
          have q0 : (0 : Int) ≤ (pre.length : Int) := by omega
          have HI := Lib.hid hI
          have hp60 : pre.length < 60 := by have := HP.out.l; omega
          have BAD : Hid (∀ u, ¬ okN (pre ++ [(k0, v)]) → KA W0.heap.size (nX w wr) W (W.setCell ⟨w.heap.size, 0, none⟩ u) ∧ NX .ret (pre ++ [(k0, v)]) (W.setCell ⟨w.heap.size, 0, none⟩ u)) := Lib.hid (fun u h => ⟨KA.of_grown (grownBy_setCell' W w.heap.size u) (fun j o hj _ => by cases hj; exact .inl (.inl rfl)), h⟩)
          have GOOD : Hid (okN (pre ++ [(k0, v)]) → KA W0.heap.size (nX w wr) W ((W.setCell ⟨wr.heap.size, 0, none⟩ (.int .i64 k0)).setCell ⟨wr.heap.size + 1, 0, none⟩ (.int .i64 ((pre.length : Int) + 1))) ∧ NI wr wr.heap.size (pre ++ [(k0, v)]) ((W.setCell ⟨wr.heap.size, 0, none⟩ (.int .i64 k0)).setCell ⟨wr.heap.size + 1, 0, none⟩ (.int .i64 ((pre.length : Int) + 1)))) := Lib.hid (fun h => ⟨(KA.of_grown (grownBy_setCell' W wr.heap.size _) (fun j o hj _ => by cases hj; exact .inl (.inr (.inl rfl)))).trans (KA.of_grown (grownBy_setCell' _ (wr.heap.size + 1) _) (fun j o hj _ => by cases hj; exact .inl (.inr (.inr rfl)))), HI.out.step (Nat.le_refl _) h⟩)
          clear hI SQ hnil hI0 hX0
          by_cases hv : v = xS
          · subst hv
            by_cases hp0 : pre = []
            · have OK := Lib.hid (GOOD.out (okN_snoc HI.out.ok rfl (.inl hp0)))
              subst hp0
              simp only [List.length_nil, Int.ofNat_zero, Int.natCast_zero] at cS OK
              have q1 : ¬ (0 : Int) < 0 := by omega
              gi_wp2
              exact OK.out
            · have q1 : (0 : Int) < (pre.length : Int) := by have := List.length_pos_iff.2 hp0; omega
              by_cases hlt : lastK pre < k0
              · have q2 : ¬ k0 ≤ lastK pre := by omega
                have OK := Lib.hid (GOOD.out (okN_snoc HI.out.ok rfl (.inr hlt)))
                gi_wp2
                exact OK.out
              · have q2 : k0 ≤ lastK pre := by omega
                have BD := Lib.hid (fun u => BAD.out u (fun h => by rcases (okN_bad h).2 with h | h; exact hp0 h; exact hlt h))
                clear hp0 hlt
                gi_wp2
                exact BD.out _
          · have q1 : (v.toList == xS.toList) = false := bytes_ne hv
            have q2 : (v.toList == [120]) = false := by rw [← xS_list]; exact q1
            have BD := Lib.hid (fun u => BAD.out u (fun h => hv (okN_bad h).1))
            clear hv
            gi_wp2
            exact BD.out _
        case done =>
          rintro D ys W hD hys hI hK
          have hys2 : ys = L := hys
          rw [hys2] at hI
          clear hys hys2 ys
          have HI := Lib.hid hI
          have HK := Lib.hid hK
          have hDW : D < W.heap.size := (Array.getElem?_eq_some_iff.1 hK).1
          have BW := Lib.hid (bel_trans HP.out.b hI.kp)
          have hn60 : L.length ≤ 60 := by have := HP.out.l; omega
          clear hI hK SQ hnil hI0 hX0
          gi_wp2
          gi_loopw [11] (fun iv W2 => ∃ j : Nat, j ≤ min n 60 ∧ iv = .int .i64 (j : Int) ∧ Below W.heap.size W W2) (fun i _ => min n 60 - (intOf i).toNat)
          case atStart => exact ⟨0, Nat.zero_le _, rfl, Below.refl _ _⟩
          case round =>
            obtain ⟨j, hj, rfl, hb⟩ := hrel
            have HB := Lib.hid hb
            clear hb
            by_cases h7 : j < min n 60
            · have p1 : (j : Int) < (n : Int) := by omega
              have p2 : (j : Int) < 60 := by omega
              have p0 : (0 : Int) ≤ (j : Int) := by omega
              obtain ⟨y, hy⟩ : ∃ y, ls[j]? = some y := ⟨_, List.getElem?_eq_getElem (by rw [HL.out]; omega)⟩
              obtain ⟨b, off, eA, hb9, f0⟩ := Rd.get HR.out (k := j) (u := .int .i64 y) (by rw [List.getElem?_map, hy]; rfl)
              subst eA
              have g0 := (bel_cell (bel_trans BW.out HB.out) hb9).trans f0
              have GT := Lib.hid (get_any (w.heap.size + 1) L y _ (HP.out.m.later (bel_trans HI.out.kp HB.out)) HP.out.ok.1)
              rw [get_has HP.out.ok.1 (HP.out.has j y (by omega) hy)] at GT
              have HJ := Lib.hid h7
              clear f0 hy h7 hj h8
              gi_wp2_with (first
                | (refine ⟨trivial, ?_⟩; gi_at_call 24; refine (callsIn_wide.2 GT.out).mono ?_; clear GT; rintro e w6 ⟨rfl, b6⟩; have B6 := Lib.hid (bel_trans HB.out b6); clear b6)
                | (gi_at_call 24; refine (callsIn_wide.2 GT.out).mono ?_; clear GT; rintro e w6 ⟨rfl, b6⟩; have B6 := Lib.hid (bel_trans HB.out b6); clear b6)
                | fail)
              go_roundw
              case rel => exact ⟨j + 1, by have := HJ.out; omega, by simp, B6.out⟩
              case measure => have := HJ.out; simp [intOf]; omega
            · have p1 : ¬ (j : Int) < (n : Int) := by omega
              all_goals
                clear h7 hj h8
                gi_wp2_with (first
                  | (refine ⟨trivial, ?_⟩; gi_at_call 12; refine (callsIn_wide.2 (LV.out _)).mono ?_; clear LV; rintro e w6 ⟨rfl, b6⟩; have B6 := Lib.hid (bel_trans HB.out b6); have cS := (boxed_later HI.out.seen B6.out).cell; have cR := (boxed_later HP.out.bx (bel_trans HI.out.kp B6.out)).cell; have fR := (boxed_later HP.out.bx (bel_trans HI.out.kp B6.out)).frozen; have LN := Lib.hid (len_any (w.heap.size + 1) L _ (HP.out.m.later (bel_trans HI.out.kp B6.out))); clear b6)
                  | (gi_at_call 12; refine (callsIn_wide.2 (LV.out _)).mono ?_; clear LV; rintro e w6 ⟨rfl, b6⟩; have B6 := Lib.hid (bel_trans HB.out b6); have cS := (boxed_later HI.out.seen B6.out).cell; have cR := (boxed_later HP.out.bx (bel_trans HI.out.kp B6.out)).cell; have fR := (boxed_later HP.out.bx (bel_trans HI.out.kp B6.out)).frozen; have LN := Lib.hid (len_any (w.heap.size + 1) L _ (HP.out.m.later (bel_trans HI.out.kp B6.out))); clear b6)
                  | (refine ⟨trivial, ?_⟩; gi_at_call 25; refine (callsIn_wide.2 LN.out).mono ?_; clear LN; rintro e w7 ⟨rfl, rfl⟩)
                  | (gi_at_call 25; refine (callsIn_wide.2 LN.out).mono ?_; clear LN; rintro e w7 ⟨rfl, rfl⟩)
                  | fail)
                have hK6 : (w6.setCell ⟨w.heap.size, 0, none⟩ (.bool true)).heap[D]? = some (.deferred (some [])) :=
                  ((grownBy_setCell' w6 w.heap.size (.bool true)).block D (Nat.lt_of_lt_of_le hDW B6.out.size) (by intro e; cases e; omega)).trans ((B6.out.block D hDW).trans HK.out)
                have bR6 := (boxed_later HP.out.bx (bel_trans HI.out.kp B6.out)).set (.bool true)
                have BB := ((bel_trans BW.out B6.out).setCell (p := ⟨w.heap.size, 0, none⟩) (Nat.le_refl _) (.bool true)).trans (belowK (n₀ := w.heap.size) (D := D) (o := .deferred none) (by have := bR6.lt; omega) (by omega))
                refine ⟨by simp, .inl ⟨_, _, rfl, run_takeDeferred hK6, ?_⟩⟩
                have cRf := (show Boxed ((w6.setCell ⟨w.heap.size, 0, none⟩ (.bool true)).putObj D (.deferred none)) w.heap.size 4 (.bool true) from (World.putObj_heap_other (by omega)).trans bR6).cell
                exact ⟨.bool true, by simp [results, Try.results7, go_sem, cRf], rfl, BB⟩
        case stop =>
          rintro D c pre W hD hp hI hK
          exact absurd (okN_pre HP.out.ok hp) hI
      · gi_wp2_with fail
        have hb1 : Below wr.heap.size wr ((wr.alloc (.cells #[.int .i64 0] 3)).alloc (.cells #[.int .i64 0] 3)) := bel_alloc (bel_alloc (Below.refl _ _) _) _
        have bL : Boxed ((wr.alloc (.cells #[.int .i64 0] 3)).alloc (.cells #[.int .i64 0] 3)) wr.heap.size 3 (.int .i64 0) := (Boxed.new wr 3 (.int .i64 0)).alloc _
        have bS : Boxed ((wr.alloc (.cells #[.int .i64 0] 3)).alloc (.cells #[.int .i64 0] 3)) (wr.heap.size + 1) 3 (.int .i64 0) := by
          have := Boxed.new (wr.alloc (.cells #[.int .i64 0] 3)) 3 (.int .i64 0)
          simpa only [World.size_alloc] using this
        have zV : ((wr.alloc (.cells #[.int .i64 0] 3)).alloc (.cells #[.int .i64 0] 3)).heap.size = wr.heap.size + 2 := by simp
        generalize ((wr.alloc (.cells #[.int .i64 0] 3)).alloc (.cells #[.int .i64 0] 3)) = V at *
        have hws : w.heap.size + 2 ≤ wr.heap.size := by have := HP.out.m.lt; omega
        refine ⟨trivial, (callsIn_wide.2 (all_any (w.heap.size + 1) L V (HP.out.m.later hb1))).mono ?_⟩
        rintro e W0 ⟨lb, rfl, hb2, hS⟩
        have hsb := hb2.size
        have bL0 := boxed_later bL hb2
        have bS0 := boxed_later bS hb2
        have hB := bel_trans hb1 hb2
        have bR0 := boxed_later HP.out.bx hB
        have hXl : ∀ k, nX w wr k → k < V.heap.size ∧ W0.cell? ⟨k, 1, none⟩ = none ∧ W0.cell? ⟨k, 2, none⟩ = none := fun k hk => by
          rcases hk with rfl | rfl | rfl
          · exact ⟨by omega, by simp [World.cell?, show W0.heap[_]? = _ from bR0], by simp [World.cell?, show W0.heap[_]? = _ from bR0]⟩
          · exact ⟨by omega, by simp [World.cell?, show W0.heap[_]? = _ from bL0], by simp [World.cell?, show W0.heap[_]? = _ from bL0]⟩
          · exact ⟨by omega, by simp [World.cell?, show W0.heap[_]? = _ from bS0], by simp [World.cell?, show W0.heap[_]? = _ from bS0]⟩
        have SQ := hS (nX w wr) hXl
        have hX0 : ∀ k, nX w wr k → k < W0.heap.size := fun k hk => by have := (hXl k hk).1; omega
        have hnil := run_isnil52 (.func 54) #[] lb
        have hI0 : NI wr wr.heap.size [] W0 := ⟨bL0, bS0, ⟨List.Pairwise.nil, by simp⟩, hB⟩
        have hsw : wr.heap.size + 2 ≤ W0.heap.size := by omega
        clear hS hXl bL bS bL0 bS0 bR0 hb1 hb2 hB
        gi_wp2
        refine range_L (w0 := W0) (gf := 54) (lb := lb) rfl (enters_of Try.func54 (by kernel_rfl) rfl) SQ (Nat.le_refl _) hX0 (Below.refl _ _) (fun _ => rfl)
          (NI wr wr.heap.size) NX (nI_own (by omega)) (fun c => ownFrom_pure _ _) hI0
          (fun x => { tmps := #[.slice A n c, undef, .pointer (some ⟨w.heap.size, 0, none⟩), .pointer (some ⟨w.heap.size + 1, 0, none⟩), .int .i64 (L.length : Int), .int .i64 (k : Int), .pointer (some ⟨wr.heap.size, 0, none⟩), .pointer (some ⟨wr.heap.size + 1, 0, none⟩), .func (.func 54) #[] lb, .int .i64 x.1, .string x.2, undef, undef, undef, .pointer (some ⟨w.heap.size + 1, 0, none⟩), .int .i64 (k : Int), .slice A n c, .int .i64 (n : Int), .bool true, .bool true, .int .i64 (k : Int), .bool false, .bool false, u23, u24, u25, u26, u27, u28, u29, u30, u31, u32, .pointer (some ⟨w.heap.size + 1, 0, none⟩), .func (.func 54) #[] lb, .func (.func 54) #[] lb, .bool false, .func (.func 54) #[] lb, .int .i64 x.1, .string x.2, undef, undef, undef, undef, undef, undef, undef, undef, undef, undef, undef, undef, undef, undef, undef, undef, undef, undef, undef, undef, undef, undef, undef, undef, undef, undef, undef, undef, undef, undef, undef, undef, undef, undef, undef, undef, undef, undef, undef, undef, undef, undef, undef, undef, undef, undef, undef, undef, undef, undef, undef], defers := [] }) ?assign ?body ?done ?stop
        case assign =>
          intro m l x W K hK
          gi_wp2
          exact hK
        case body =>
          rintro m l pre x W hl hI hlen
          obtain ⟨k0, v⟩ := x
          have cL := hI.last.cell
          have fL := hI.last.frozen
          have cS := hI.seen.cell
          have fS := hI.seen.frozen
          have bR := boxed_later HP.out.bx hI.kp
          have cR := bR.cell
          have fR := bR.frozen
          have q0 : (0 : Int) ≤ (pre.length : Int) := by omega
          have HI := Lib.hid hI
          have hp60 : pre.length < 60 := by have := HP.out.l; omega
          have BAD : Hid (∀ u, ¬ okN (pre ++ [(k0, v)]) → KA W0.heap.size (nX w wr) W (W.setCell ⟨w.heap.size, 0, none⟩ u) ∧ NX .ret (pre ++ [(k0, v)]) (W.setCell ⟨w.heap.size, 0, none⟩ u)) := Lib.hid (fun u h => ⟨KA.of_grown (grownBy_setCell' W w.heap.size u) (fun j o hj _ => by cases hj; exact .inl (.inl rfl)), h⟩)
          have GOOD : Hid (okN (pre ++ [(k0, v)]) → KA W0.heap.size (nX w wr) W ((W.setCell ⟨wr.heap.size, 0, none⟩ (.int .i64 k0)).setCell ⟨wr.heap.size + 1, 0, none⟩ (.int .i64 ((pre.length : Int) + 1))) ∧ NI wr wr.heap.size (pre ++ [(k0, v)]) ((W.setCell ⟨wr.heap.size, 0, none⟩ (.int .i64 k0)).setCell ⟨wr.heap.size + 1, 0, none⟩ (.int .i64 ((pre.length : Int) + 1)))) := Lib.hid (fun h => ⟨(KA.of_grown (grownBy_setCell' W wr.heap.size _) (fun j o hj _ => by cases hj; exact .inl (.inr (.inl rfl)))).trans (KA.of_grown (grownBy_setCell' _ (wr.heap.size + 1) _) (fun j o hj _ => by cases hj; exact .inl (.inr (.inr rfl)))), HI.out.step (Nat.le_refl _) h⟩)
          clear hI SQ hnil hI0 hX0
          by_cases hv : v = xS
          · subst hv
            by_cases hp0 : pre = []
            · have OK := Lib.hid (GOOD.out (okN_snoc HI.out.ok rfl (.inl hp0)))
              subst hp0
              simp only [List.length_nil, Int.ofNat_zero, Int.natCast_zero] at cS OK
              have q1 : ¬ (0 : Int) < 0 := by omega
              gi_wp2
              exact OK.out
            · have q1 : (0 : Int) < (pre.length : Int) := by have := List.length_pos_iff.2 hp0; omega
              by_cases hlt : lastK pre < k0
              · have q2 : ¬ k0 ≤ lastK pre := by omega
                have OK := Lib.hid (GOOD.out (okN_snoc HI.out.ok rfl (.inr hlt)))
                gi_wp2
                exact OK.out
              · have q2 : k0 ≤ lastK pre := by omega
                have BD := Lib.hid (fun u => BAD.out u (fun h => by rcases (okN_bad h).2 with h | h; exact hp0 h; exact hlt h))
                clear hp0 hlt
                gi_wp2
                exact BD.out _
          · have q1 : (v.toList == xS.toList) = false := bytes_ne hv
            have q2 : (v.toList == [120]) = false := by rw [← xS_list]; exact q1
            have BD := Lib.hid (fun u => BAD.out u (fun h => hv (okN_bad h).1))
            clear hv
            gi_wp2
            exact BD.out _
        case done =>
          rintro D ys W hD hys hI hK
          have hys2 : ys = L := hys
          rw [hys2] at hI
          clear hys hys2 ys
          have HI := Lib.hid hI
          have HK := Lib.hid hK
          have hDW : D < W.heap.size := (Array.getElem?_eq_some_iff.1 hK).1
          have BW := Lib.hid (bel_trans HP.out.b hI.kp)
          have hn60 : L.length ≤ 60 := by have := HP.out.l; omega
          clear hI hK SQ hnil hI0 hX0
          gi_wp2
          gi_loopw [11] (fun iv W2 => ∃ j : Nat, j ≤ min n 60 ∧ iv = .int .i64 (j : Int) ∧ Below W.heap.size W W2) (fun i _ => min n 60 - (intOf i).toNat)
          case atStart => exact ⟨0, Nat.zero_le _, rfl, Below.refl _ _⟩
          case round =>
            obtain ⟨j, hj, rfl, hb⟩ := hrel
            have HB := Lib.hid hb
            clear hb
            by_cases h7 : j < min n 60
            · have p1 : (j : Int) < (n : Int) := by omega
              have p2 : (j : Int) < 60 := by omega
              have p0 : (0 : Int) ≤ (j : Int) := by omega
              obtain ⟨y, hy⟩ : ∃ y, ls[j]? = some y := ⟨_, List.getElem?_eq_getElem (by rw [HL.out]; omega)⟩
              obtain ⟨b, off, eA, hb9, f0⟩ := Rd.get HR.out (k := j) (u := .int .i64 y) (by rw [List.getElem?_map, hy]; rfl)
              subst eA
              have g0 := (bel_cell (bel_trans BW.out HB.out) hb9).trans f0
              have GT := Lib.hid (get_any (w.heap.size + 1) L y _ (HP.out.m.later (bel_trans HI.out.kp HB.out)) HP.out.ok.1)
              rw [get_has HP.out.ok.1 (HP.out.has j y (by omega) hy)] at GT
              have HJ := Lib.hid h7
              clear f0 hy h7 hj h8
              gi_wp2_with (first
                | (refine ⟨trivial, ?_⟩; gi_at_call 24; refine (callsIn_wide.2 GT.out).mono ?_; clear GT; rintro e w6 ⟨rfl, b6⟩; have B6 := Lib.hid (bel_trans HB.out b6); clear b6)
                | (gi_at_call 24; refine (callsIn_wide.2 GT.out).mono ?_; clear GT; rintro e w6 ⟨rfl, b6⟩; have B6 := Lib.hid (bel_trans HB.out b6); clear b6)
                | fail)
              go_roundw
              case rel => exact ⟨j + 1, by have := HJ.out; omega, by simp, B6.out⟩
              case measure => have := HJ.out; simp [intOf]; omega
            · have p1 : (j : Int) < (n : Int) := by omega
              have p2 : ¬ (j : Int) < 60 := by omega
              all_goals
                clear h7 hj h8
                gi_wp2_with (first
                  | (refine ⟨trivial, ?_⟩; gi_at_call 12; refine (callsIn_wide.2 (LV.out _)).mono ?_; clear LV; rintro e w6 ⟨rfl, b6⟩; have B6 := Lib.hid (bel_trans HB.out b6); have cS := (boxed_later HI.out.seen B6.out).cell; have cR := (boxed_later HP.out.bx (bel_trans HI.out.kp B6.out)).cell; have fR := (boxed_later HP.out.bx (bel_trans HI.out.kp B6.out)).frozen; have LN := Lib.hid (len_any (w.heap.size + 1) L _ (HP.out.m.later (bel_trans HI.out.kp B6.out))); clear b6)
                  | (gi_at_call 12; refine (callsIn_wide.2 (LV.out _)).mono ?_; clear LV; rintro e w6 ⟨rfl, b6⟩; have B6 := Lib.hid (bel_trans HB.out b6); have cS := (boxed_later HI.out.seen B6.out).cell; have cR := (boxed_later HP.out.bx (bel_trans HI.out.kp B6.out)).cell; have fR := (boxed_later HP.out.bx (bel_trans HI.out.kp B6.out)).frozen; have LN := Lib.hid (len_any (w.heap.size + 1) L _ (HP.out.m.later (bel_trans HI.out.kp B6.out))); clear b6)
                  | (refine ⟨trivial, ?_⟩; gi_at_call 25; refine (callsIn_wide.2 LN.out).mono ?_; clear LN; rintro e w7 ⟨rfl, rfl⟩)
                  | (gi_at_call 25; refine (callsIn_wide.2 LN.out).mono ?_; clear LN; rintro e w7 ⟨rfl, rfl⟩)
                  | fail)
                have hK6 : (w6.setCell ⟨w.heap.size, 0, none⟩ (.bool true)).heap[D]? = some (.deferred (some [])) :=
                  ((grownBy_setCell' w6 w.heap.size (.bool true)).block D (Nat.lt_of_lt_of_le hDW B6.out.size) (by intro e; cases e; omega)).trans ((B6.out.block D hDW).trans HK.out)
                have bR6 := (boxed_later HP.out.bx (bel_trans HI.out.kp B6.out)).set (.bool true)
                have BB := ((bel_trans BW.out B6.out).setCell (p := ⟨w.heap.size, 0, none⟩) (Nat.le_refl _) (.bool true)).trans (belowK (n₀ := w.heap.size) (D := D) (o := .deferred none) (by have := bR6.lt; omega) (by omega))
                refine ⟨by simp, .inl ⟨_, _, rfl, run_takeDeferred hK6, ?_⟩⟩
                have cRf := (show Boxed ((w6.setCell ⟨w.heap.size, 0, none⟩ (.bool true)).putObj D (.deferred none)) w.heap.size 4 (.bool true) from (World.putObj_heap_other (by omega)).trans bR6).cell
                exact ⟨.bool true, by simp [results, Try.results7, go_sem, cRf], rfl, BB⟩
        case stop =>
          rintro D c pre W hD hp hI hK
          exact absurd (okN_pre HP.out.ok hp) hI
end Go.Proofs.Ytfgohbhacldlmaa.N
