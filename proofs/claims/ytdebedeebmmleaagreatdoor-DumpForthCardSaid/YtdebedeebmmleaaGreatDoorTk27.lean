/- Texts of the proof, one behind the other. -/
import Derived.Test.YtdebedeebmmleaaGreatDoorTk26
import Derived.Test.YtdebedeebmmleaaGreatDoorRows
import Derived.Test.YtdebedeebmmleaaGreatDoorTie
import Derived.WalkKit
import Derived.ProofKit
import Derived.OpenShut
import Derived.LaidMore
import Derived.Lay
import Derived.Lib.LaidTab
import Derived.Lib.LaidU8
import Derived.SevenTiedAt
import Derived.Stop.Joined
import Derived.Handed
import Derived.HandedShaped
import Derived.Shelf.Vars
set_option linter.unusedVariables false
set_option linter.unusedSimpArgs false
namespace Go.Proofs.YtdebedeebmmleaaGreatDoor
open Go.RowKit Go.Maps
def liveY : List NdV := [⟨0, [], [], [], []⟩, ⟨2, [], [2], [], []⟩, ⟨1, [], [], [], []⟩]
abbrev liveS : ByteArray := ⟨#[116, 114, 101, 101, 32, 51, 10, 105, 110, 110, 101, 114, 32, 49, 32, 50, 10, 108, 101, 97, 102, 32, 50, 10]⟩
theorem live_text : (⟨(dprL liveY).toArray⟩ : ByteArray) = liveS := by kernel_rfl
theorem live_par : dparF liveS = .ok liveY := by kernel_rfl
theorem live_told : TAll liveY := by
  unfold liveY
  refine ⟨fun y h => by injection h with h; rw [← h], fun y h => ?_⟩
  simp only [List.mem_cons, List.not_mem_nil, or_false] at h
  rcases h with rfl | rfl | rfl
  · exact .inl ⟨rfl, rfl, rfl, rfl, rfl⟩
  · exact .inr (.inr ⟨rfl, rfl, rfl, by simp, by simp⟩)
  · exact .inr (.inl ⟨rfl, rfl, rfl, rfl⟩)
theorem live_sm : ∀ y ∈ liveY, NSm y := by
  unfold liveY
  intro y h
  simp only [List.mem_cons, List.not_mem_nil, or_false] at h
  rcases h with rfl | rfl | rfl <;> exact ⟨by simp, by simp, by simp, by simp⟩
def nH : Hd := ⟨none, 0, 0⟩
def liveC (b : Nat) : List NC := [⟨0, nH, nH, nH, nH⟩, ⟨2, nH, ⟨some ⟨b, 0, none⟩, 1, 1⟩, nH, nH⟩, ⟨1, nH, nH, nH, nH⟩]
theorem rd_nil {α : Type} {E : RE α} {w : World} {A : Option Addr} : E.Rd w A [] := .inl rfl
theorem nrd_nil {w : World} {k : Int} : NRd w ⟨k, nH, nH, nH, nH⟩ [] ⟨k, [], [], [], []⟩ :=
  ⟨rfl, ⟨rfl, rd_nil⟩, ⟨rfl, rd_nil⟩, ⟨rfl, rd_nil⟩, rfl, rd_nil, rfl, fun i h l hh hl => by cases hh⟩
theorem live_nt {w : World} {b g : Nat} (h0 : w.heap[b]? = some (.cells #[.int .i64 2] 3 (0, 0))) (h1 : w.heap[g]? = some (.cells #[.int .u8 0, .slice none 0 0, .slice none 0 0, .slice none 0 0, .slice none 0 0, .int .u8 2, .slice none 0 0, .slice (some ⟨b, 0, none⟩) 1 1, .slice none 0 0, .slice none 0 0, .int .u8 1, .slice none 0 0, .slice none 0 0, .slice none 0 0, .slice none 0 0] 44 (0, 0))) : NT w (some ⟨g, 0, none⟩) (liveC b) liveY := by
  refine ⟨rd_block (t := 44) h1, rfl, fun i x y hx hy => ?_⟩
  match i, hx, hy with
  | 0, hx, hy => injection hx with hx; injection hy with hy; subst hx hy; exact ⟨[], nrd_nil⟩
  | 1, hx, hy =>
    injection hx with hx; injection hy with hy; subst hx hy
    exact ⟨[], rfl, ⟨rfl, rd_nil⟩, ⟨rfl, rd_block (E := EI) (xs := [2]) (t := 3) h0⟩, ⟨rfl, rd_nil⟩, rfl, rd_nil, rfl, fun i h l hh hl => by cases hh⟩
  | 2, hx, hy => injection hx with hx; injection hy with hy; subst hx hy; exact ⟨[], nrd_nil⟩
  | n + 3, hx, hy => cases hx
set_option maxHeartbeats 4000000 in
set_option maxRecDepth 100000 in
theorem live_any (w : World) (hg : GW w) : Calls Tryz.prog 8 #[] w fun e w' => e = .returned (.bool true) ∧ Below w.heap.size w w' := by
  obtain ⟨W1, hW1⟩ : ∃ W1, W1 = (((w.alloc (Obj.cells #[Value.int IntKind.i64 2] 3)).alloc (Obj.cells #[Value.int IntKind.u8 0, Value.slice none 0 0, Value.slice none 0 0, Value.slice none 0 0, Value.slice none 0 0, Value.int IntKind.u8 2, Value.slice none 0 0, Value.slice (some { block := w.heap.size, off := 0 }) 1 1, Value.slice none 0 0, Value.slice none 0 0, Value.int IntKind.u8 1, Value.slice none 0 0, Value.slice none 0 0, Value.slice none 0 0, Value.slice none 0 0] 44)).alloc (Obj.cells #[Value.slice (some { block := w.heap.size + 1, off := 0 }) 3 3] 24)) := ⟨_, rfl⟩
  have B1 := Lib.hid (show Below w.heap.size w W1 by rw [hW1]; exact bel_alloc (bel_alloc (alb w _) _) _)
  have N1 := Lib.hid (show NT W1 (some ⟨w.heap.size + 1, 0, none⟩) (liveC w.heap.size) liveY by
    rw [hW1]
    refine live_nt (keep_bel (alb _ _) (keep_bel (alb _ _) (heap_alloc_new w _))) (keep_bel (alb _ _) ?_)
    have := heap_alloc_new (w.alloc (Obj.cells #[Value.int IntKind.i64 2] 3)) (Obj.cells #[Value.int IntKind.u8 0, Value.slice none 0 0, Value.slice none 0 0, Value.slice none 0 0, Value.slice none 0 0, Value.int IntKind.u8 2, Value.slice none 0 0, Value.slice (some { block := w.heap.size, off := 0 }) 1 1, Value.slice none 0 0, Value.slice none 0 0, Value.int IntKind.u8 1, Value.slice none 0 0, Value.slice none 0 0, Value.slice none 0 0, Value.slice none 0 0] 44)
    simpa using this)
  have Z1 := Lib.hid (show W1.heap[w.heap.size + 1 + 1]? = some (.cells #[.slice (some ⟨w.heap.size + 1, 0, none⟩) 3 3] 24 (0, 0)) by
    rw [hW1]
    have := heap_alloc_new ((w.alloc (Obj.cells #[Value.int IntKind.i64 2] 3)).alloc (Obj.cells #[Value.int IntKind.u8 0, Value.slice none 0 0, Value.slice none 0 0, Value.slice none 0 0, Value.slice none 0 0, Value.int IntKind.u8 2, Value.slice none 0 0, Value.slice (some { block := w.heap.size, off := 0 }) 1 1, Value.slice none 0 0, Value.slice none 0 0, Value.int IntKind.u8 1, Value.slice none 0 0, Value.slice none 0 0, Value.slice none 0 0, Value.slice none 0 0] 44)) (Obj.cells #[Value.slice (some { block := w.heap.size + 1, off := 0 }) 3 3] 24)
    simpa using this)
  have HG := Lib.hid hg
  have PR := Lib.hid (print_ok (some ⟨w.heap.size + 1, 0, none⟩) 3 3 (liveC w.heap.size) liveY W1 (hg.later B1.out) N1.out rfl (by omega) live_sm live_told (by have h := congrArg ByteArray.size live_text; rw [ba_size] at h; rw [h]; decide))
  rw [live_text] at PR
  have c0 : W1.cell? ⟨w.heap.size + 1 + 1, 0, none⟩ = some (.slice (some ⟨w.heap.size + 1, 0, none⟩) 3 3) := cellh Z1.out rfl
  have PA := Lib.hid (fun V (h : Below w.heap.size w V) => parse_any liveS (by decide) V (hg.later h))
  rw [live_par] at PA
  clear hg
  go_enter Tryz.func8, Tryz.ntmps8
  go_upto_region 2 with fail
  rw [← hW1]
  clear hW1
  go_upto_region 3 with (first
    | (go_at_call 9; ((with_reducible refine PR.out.mono ?_); rintro e w2 ⟨rfl, b2⟩; have B2 := Lib.hid (bel_trans B1.out b2); have Y2 := Lib.hid b2; clear b2))
    | fail)
  clear c0
  go_upto_region 4 with (first
    | (go_at_call 15; ((with_reducible refine (PA.out _ B2.out).mono ?_); rintro e w3 ⟨⟨nb, lo, O, ns, rfl, hnb, hns⟩, b3⟩; have B3 := Lib.hid (bel_trans Y2.out b3); have N3 := Lib.hid hns.nt; clear hnb hns b3))
    | fail)
  simp only [show liveY.length = 3 from rfl]
  obtain ⟨W4, hW4⟩ : ∃ W4, W4 = w3.alloc (Obj.cells #[Value.slice (some { block := nb, off := 0 }) 3 3] 24) := ⟨_, rfl⟩
  have B4 := Lib.hid (show Below W1.heap.size W1 W4 by rw [hW4]; exact bel_alloc B3.out _)
  have N4 := Lib.hid (show NT W4 (some ⟨nb, 0, none⟩) ns liveY by rw [hW4]; exact N3.out.later (alb w3 _))
  have c4 : W4.cell? ⟨w3.heap.size, 0, none⟩ = some (.slice (some ⟨nb, 0, none⟩) 3 3) := cellh (show W4.heap[w3.heap.size]? = some (.cells #[.slice (some ⟨nb, 0, none⟩) 3 3] 24 (0, 0)) by rw [hW4]; exact heap_alloc_new w3 _) rfl
  have c1 : W4.cell? ⟨w.heap.size + 1 + 1, 0, none⟩ = some (.slice (some ⟨w.heap.size + 1, 0, none⟩) 3 3) := cellh (keep_bel B4.out Z1.out) rfl
  have SA := Lib.hid (tsame_any (some ⟨nb, 0, none⟩) (some ⟨w.heap.size + 1, 0, none⟩) 3 3 3 3 ns (liveC w.heap.size) liveY liveY true W4 (by simp) N4.out (N1.out.later B4.out) rfl rfl (by omega) live_sm live_sm)
  have LI := Lib.hid (fun V (h : Below W1.heap.size W1 V) => lines_any (some ⟨w.heap.size + 1, 0, none⟩) 3 3 (liveC w.heap.size) liveY V (HG.out.later (B1.out.trans (h.mono B1.out.size))) (N1.out.later h) rfl (by omega) live_sm)
  rw [told_of live_told (by unfold liveY; simp)] at LI
  rw [← hW4]
  clear hW4
  go_wp2_with (first
    | (go_at_call 14; ((with_reducible refine SA.out.mono ?_); rintro e w5 ⟨rfl, b5⟩; have B5 := Lib.hid (bel_trans B4.out b5); replace c1 : w5.cell? ⟨w.heap.size + 1 + 1, 0, none⟩ = some (.slice (some ⟨w.heap.size + 1, 0, none⟩) 3 3) := cellh (keep_bel B5.out Z1.out) rfl; clear b5))
    | (go_at_call 11; ((with_reducible refine (LI.out _ B5.out).mono ?_); rintro e w6 ⟨rfl, b6⟩; have B6 := Lib.hid (bel_trans B5.out b6); clear b6))
    | fail)
  go_ret
  exact ⟨by rfl, B1.out.trans (B6.out.mono B1.out.size)⟩
end Go.Proofs.YtdebedeebmmleaaGreatDoor
namespace Go.Proofs.YtdebedeebmmleaaGreatDoor
open Go.RowKit Go.Maps
set_option maxHeartbeats 4000000 in
set_option maxRecDepth 100000 in
theorem forth_long (s : ByteArray) (hs : ¬ s.size ≤ 3000) (w : World) (hg : GW w) : Calls Tryz.prog 5 #[.string s] w fun e w' => e = .returned (.bool true) ∧ Below w.heap.size w w' := by
  have k0 : (3000 : Int) < (s.size : Int) := by omega
  have LV := Lib.hid (live_any w hg)
  clear hg hs
  go_enter Tryz.func5, Tryz.ntmps5
  go_wp2_with (first
    | (go_at_call 8; ((with_reducible refine LV.out.mono ?_); rintro e w1 ⟨rfl, b1⟩; have B1 := Lib.hid b1; clear b1))
    | fail)
  go_ret
  exact ⟨rfl, B1.out⟩
set_option maxHeartbeats 4000000 in
set_option maxRecDepth 100000 in
theorem forth_bad (s : ByteArray) (hs : s.size ≤ 3000) (w : World) (hg : GW w) {ln er : Int} (hp : dparF s = .error (ln, er)) : Calls Tryz.prog 5 #[.string s] w fun e w' => e = .returned (.bool true) ∧ Below w.heap.size w w' := by
  have k0 : ¬ (3000 : Int) < (s.size : Int) := by omega
  obtain ⟨h1, h2, h3⟩ := dpar_er hp
  have PA := Lib.hid (parse_any s (by omega) w hg)
  rw [hp] at PA
  have HG := Lib.hid hg
  have hlc : LC s ≤ 3000 := by
    unfold LC
    have := List.count_le_length (a := (10 : UInt8)) (l := s.data.toList)
    rw [ba_len] at this
    omega
  have WL : IntKind.i64.wrap ((LC s : Int) + 1) = (LC s : Int) + 1 := IntWalk.i64_in _ (by omega)
  have RL := Lib.hid (rlines_any s (by omega))
  have H3 := Lib.hid h3
  have e0 : (er == 0) = false := by rcases h3 with h | h | h <;> (rw [h]; rfl)
  have q2 : ln ≤ (LC s : Int) + 1 := h2
  clear hg hs hp h3 hlc h2
  go_enter Tryz.func5, Tryz.ntmps5
  go_upto_region 4 with (first
    | (go_at_call 15; ((with_reducible refine PA.out.mono ?_); rintro e w1 ⟨rfl, b1⟩; have B1 := Lib.hid b1; clear b1))
    | fail)
  obtain ⟨W2, hW2⟩ : ∃ W2, W2 = w1.alloc (Obj.cells #[Value.slice none 0 0] 24) := ⟨_, rfl⟩
  have B2 := Lib.hid (show Below w.heap.size w W2 by rw [hW2]; exact bel_alloc B1.out _)
  have Z2 := Lib.hid (show W2.heap[w1.heap.size]? = some (.cells #[.slice none 0 0] 24 (0, 0)) by rw [hW2]; exact heap_alloc_new w1 _)
  have LV := Lib.hid (live_any W2 (HG.out.later B2.out))
  rw [← hW2]
  clear hW2
  rcases H3.out with rfl | rfl | rfl
  all_goals
    clear e0
    go_wp2_with (first
      | (go_at_call 8; ((with_reducible refine LV.out.mono ?_); rintro e w3 ⟨rfl, b3⟩; have c0 : w3.cell? ⟨w1.heap.size, 0, none⟩ = some (.slice none 0 0) := cellh (keep_bel b3 Z2.out) rfl; have B3 := Lib.hid (bel_trans B2.out b3); clear b3))
      | (go_at_call 12; ((with_reducible refine (RL.out _).mono ?_); rintro e w4 ⟨rfl, hw⟩; (have hw2 := hw.symm; subst hw2; clear hw)))
      | fail)
    go_ret
    exact ⟨by simp, B3.out⟩
set_option maxHeartbeats 4000000 in
set_option maxRecDepth 100000 in
theorem forth_good (s : ByteArray) (hs : s.size ≤ 3000) (w : World) (hg : GW w) {ys : List NdV} (hp : dparF s = .ok ys) : Calls Tryz.prog 5 #[.string s] w fun e w' => e = .returned (.bool true) ∧ Below w.heap.size w w' := by
  have k0 : ¬ (3000 : Int) < (s.size : Int) := by omega
  obtain ⟨h1, h2, h3⟩ := dpar_back hp
  have PA := Lib.hid (parse_any s (by omega) w hg)
  rw [hp] at PA
  have HG := Lib.hid hg
  have htx : (⟨(dprL ys).toArray⟩ : ByteArray) = s := by rw [h1]
  have hlen : (dprL ys).length ≤ 3000 := by rw [h1, ba_len]; exact hs
  obtain ⟨n, hn⟩ : ∃ n, n = ys.length := ⟨_, rfl⟩
  have HN := Lib.hid hn
  have HNS := Lib.hid (nsm_text h2 (by omega))
  have HTA := Lib.hid h2
  have HLE := Lib.hid (And.intro hlen h3)
  have HTX := Lib.hid htx
  have ess : (s.toList == s.toList) = true := by simp
  clear hg hs hp h1 h2 h3 htx hlen hn
  go_enter Tryz.func5, Tryz.ntmps5
  go_upto_region 4 with (first
    | (go_at_call 15; ((with_reducible refine PA.out.mono ?_); rintro e w1 ⟨⟨nb, lo, O, ns, rfl, hnb, hns⟩, b1⟩; have B1 := Lib.hid b1; have N1 := Lib.hid hns.nt; clear b1 hns hnb))
    | fail)
  rw [← HN.out]
  obtain ⟨W2, hW2⟩ : ∃ W2, W2 = w1.alloc (Obj.cells #[Value.slice (some ⟨nb, 0, none⟩) n n] 24) := ⟨_, rfl⟩
  have B2 := Lib.hid (show Below w.heap.size w W2 by rw [hW2]; exact bel_alloc B1.out _)
  have c0 : W2.cell? ⟨w1.heap.size, 0, none⟩ = some (.slice (some ⟨nb, 0, none⟩) n n) := cellh (show W2.heap[w1.heap.size]? = some (.cells #[.slice (some ⟨nb, 0, none⟩) n n] 24 (0, 0)) by rw [hW2]; exact heap_alloc_new w1 _) rfl
  have N2 := Lib.hid (show NT W2 (some ⟨nb, 0, none⟩) ns ys by rw [hW2]; exact N1.out.later (alb w1 _))
  have PR := Lib.hid (print_ok (some ⟨nb, 0, none⟩) n n ns ys W2 (HG.out.later B2.out) N2.out HN.out.symm (by have := HLE.out; have := HN.out; omega) HNS.out HTA.out (by have := HLE.out; omega))
  rw [HTX.out] at PR
  rw [← hW2]
  clear hW2
  go_wp2_with (first
    | (go_at_call 9; ((with_reducible refine PR.out.mono ?_); rintro e w3 ⟨rfl, b3⟩; have B3 := Lib.hid (bel_trans B2.out b3); have LV := Lib.hid (live_any w3 (HG.out.later (bel_trans B2.out b3))); clear b3))
    | (go_at_call 8; ((with_reducible refine LV.out.mono ?_); rintro e w4 ⟨rfl, b4⟩; have B4 := Lib.hid (bel_trans B3.out b4); clear b4))
    | fail)
  go_ret
  exact ⟨rfl, B4.out⟩
theorem forth_any (s : ByteArray) (w : World) (hg : GW w) : Calls Tryz.prog 5 #[.string s] w fun e w' => e = .returned (.bool true) ∧ Below w.heap.size w w' := by
  by_cases hs : s.size ≤ 3000
  · cases hp : dparF s with
    | error e => exact forth_bad s hs w hg hp
    | ok ys => exact forth_good s hs w hg hp
  · exact forth_long s hs w hg
end Go.Proofs.YtdebedeebmmleaaGreatDoor
namespace Go.Proofs.YtdebedeebmmleaaGreatDoor
open Go.ChangeShapes Go.WideShapes Go.ChangeAt Go.RowKit
/-- The wrap of a row that lists variables, the world's shape kept. -/
theorem handed_and_shaped {H : Type} {enc : TypeId × Value → H} {a : Assume} {C : Checked} {os : Os} {f : FuncId} {fn : Func} {s : ChangeSpec} {conds : List PathCond} {apart fresh handsOn again : Bool} {X : World → Array Value → Prop}
    (hX : ∀ (w w' : World) (args : Array Value), w.heap = w'.heap → X w args → X w' args)
    (own : ownKnob C.prog.godebug = none) (started : os.Started) (noInit : C.prog.inits.idxOf? f = none) (hfn : C.prog.funcs[f]? = some fn)
    (witness : ∃ (w : World) (tape : Tape) (i : Input), w.os = os ∧ (w.forCall tape i).Shaped C.prog ∧ i.vars = [] ∧ Input.okWide C.prog (w.forCall tape i) .any w.heap.size f i ∧
      ((s.pre enc C.prog fn conds apart (w.forCall tape i).memory i.args ∧ X (w.forCall tape i).memory i.args) ∧ sizedMet enc C.prog fn (OpenSpec.ofChange s) apart (w.forCall tape i).memory i.args) ∧ a.holds C.prog (lone (Frame.enter C.prog f i.args .normal) [] (w.forCall tape i)))
    (contract : ∀ (W : World) (base : Nat) (args : Array Value) (ds gs : List (DataW H)) (before : List MemPlace),
      (∀ (j : Nat) t v, fn.params[j]? = some t → args[j]? = some v → Value.okWide C.prog W .any base t v) →
      DataW.Whole enc C.prog fn.params.toList s.vars apart W args.toList ds gs before →
      (DataW.weightsEach C.prog (fn.params.toList ++ s.plain.varTypes C.prog) (ds ++ gs)).all (· ≤ reachBytes) = true → X W args → W.ShapedOpen C.prog →
      Calls C.prog f args W fun e W' => ∃ v, e = .returned v ∧ s.post enc C.prog fn apart fresh handsOn again W args v W') :
    ReturnsInHanded a C os f .any (fun w args => (s.pre enc C.prog fn conds apart w args ∧ X w args) ∧ sizedMet enc C.prog fn (OpenSpec.ofChange s) apart w args) (s.post enc C.prog fn apart fresh handsOn again) := by
  refine returnsInHanded_of_calls own started noInit witness ?_
  intro w tape i _ hsh _ hok hpre hholds
  obtain ⟨_, _, _, fn', hfn', _, _, _, _, hval⟩ := hok
  have e : fn' = fn := Option.some.inj (hfn'.symm.trans hfn)
  subst e
  obtain ⟨⟨⟨ds, gs, before, hw, hc⟩, hx⟩, hz⟩ := hpre
  have hw' := DataW.Whole.of_heap (w' := w.forCall tape i) (by rfl) hw
  refine (contract (w.forCall tape i) w.heap.size i.args ds gs before hval hw' (hz.weights hw) (hX _ _ _ (by rfl) hx) hsh).mono fun e W' ⟨v, he, hp⟩ => ?_
  subst he
  exact ChangeSpec.post_blind hp
theorem card_own : ownKnob Tryz.prog.godebug = none := by kernel_rfl
theorem card_laidOut : laidOutB Tryz.prog = true := by kernel_rfl
/-- What the rows list. -/
abbrev LL : List (String × DataW Unit) := Rows.dumpForthRow.laid
theorem iface_cell {P : Program} {H : Type} {enc : TypeId × Value → H} {w : World} {base : Nat} {sp : Nat → Bool} {held : Bool} {fuel : Nat} {t : TypeId} {ms : Array (String × TypeId)} {cs : List Value} {x : DataW H × List MemPlace} (ht : P.underlying t = some (.interface ms))
    (h : DataW.trod enc P w base sp held fuel t cs = some x) : ∃ ev, cs = [ev] ∧ (ev = .nilIface ∨ ∃ te pe, ev = .iface te pe) := by
  cases fuel with
  | zero => simp [DataW.trod] at h
  | succ m =>
    match cs, h with
    | [], h => simp [DataW.trod, ht] at h
    | [v], h =>
      cases v <;> first
        | exact ⟨_, rfl, .inl rfl⟩
        | exact ⟨_, rfl, .inr ⟨_, _, rfl⟩⟩
        | (simp [DataW.trod, ht] at h; done)
    | a :: b :: r, h => simp [DataW.trod, ht] at h
theorem od_c3 : Tryz.prog.cellsOf 3 = 1 := by kernel_rfl
set_option maxRecDepth 100000 in
theorem met_gw {W : World} (hL : laidMetH Tryz.prog LL W) (hs : W.ShapedOpen Tryz.prog) : GW W := by
  rw [MakeChecks.laidMetH_plain _ _ _ (by kernel_rfl)] at hL
  have sent : ∀ (n : String) (g : Nat) (d : DataW Unit), (n, d) ∈ LL → Tryz.prog.globalNamed n = some g → (Tryz.prog.globals[g]?).map (·.type) = some 78 → ∃ ev, W.cell? ⟨g, 0, none⟩ = some ev ∧ (ev = .nilIface ∨ ∃ te pe, ev = .iface te pe) := by
    intro n g d hm hg ht
    obtain ⟨g', t', cs, fuel, p, h1, h2, h3, h4⟩ := Lib.laidMet.reads hL hm
    obtain rfl := Option.some.inj (hg.symm.trans h1)
    obtain rfl := Option.some.inj (ht.symm.trans h2)
    obtain ⟨ev, e, hev⟩ := iface_cell Tryz.underlying78 h4
    refine ⟨ev, ?_, hev⟩
    have := World.var?_cell hg h3 0
    rw [Array.eq_one_of_toList e] at this
    simpa using this
  have tab : Lib.TabIs Tryz.prog W "internal/strconv.uint64pow10" .u64 Lib.pow10Tab := by
    have hm : ("internal/strconv.uint64pow10", Rows.laid_internal_strconv_uint64pow10) ∈ LL := .tail _ (.tail _ (.head _))
    obtain ⟨g', t', cs, fuel, p, h1, h2, h3, h4⟩ := Lib.laidMet.reads hL hm
    obtain rfl := Option.some.inj ((show Tryz.prog.globalNamed "internal/strconv.uint64pow10" = some 1 by kernel_rfl).symm.trans h1)
    obtain rfl := Option.some.inj ((show (Tryz.prog.globals[1]?).map (·.type) = some 142 by kernel_rfl).symm.trans h2)
    have e : (Rows.laid_internal_strconv_uint64pow10 : DataW Unit) = Lib.tabData .u64 Lib.pow10Tab := by kernel_rfl
    rw [e] at h4
    have q := Lib.cells_of_tab Tryz.underlying142 Tryz.underlying71 (by kernel_rfl) (by kernel_rfl) h4
    unfold Lib.TabIs
    rw [h3, ← q]
  have an : ∀ i v, ([2147483647, 2147483647, 0, 0, 0, 0, 0, 0, 0] : List Int)[i]? = some v → W.cell? ⟨0, i, none⟩ = some (.int .i64 v) := by
    have hm : ("catchment/dump.anySizes", Rows.laid_catchment_dump_anySizes) ∈ LL := .tail _ (.tail _ (.tail _ (.tail _ (.tail _ (.tail _ (.head _))))))
    obtain ⟨g', t', cs, fuel, p, h1, h2, h3, h4⟩ := Lib.laidMet.reads hL hm
    obtain rfl := Option.some.inj ((show Tryz.prog.globalNamed "catchment/dump.anySizes" = some 0 by kernel_rfl).symm.trans h1)
    obtain rfl := Option.some.inj ((show (Tryz.prog.globals[0]?).map (·.type) = some 115 by kernel_rfl).symm.trans h2)
    obtain ⟨cl⟩ := cs
    obtain ⟨xs, m, _, hxe, hcl, hxl, hel⟩ := DataW.trod_struct Tryz.underlying115 h4
    have hcl2 : cl.length = 9 := hcl.trans (by kernel_rfl)
    match cl, hcl2, xs, hxl with
    | [c0, c1, c2, c3, c4, c5, c6, c7, c8], _, [y0, y1, y2, y3, y4, y5, y6, y7, y8], _ =>
      have h0' := hel 0 _ rfl
      have h1' := hel 1 _ rfl
      have h2' := hel 2 _ rfl
      have h3' := hel 3 _ rfl
      have h4' := hel 4 _ rfl
      have h5' := hel 5 _ rfl
      have h6' := hel 6 _ rfl
      have h7' := hel 7 _ rfl
      have h8' := hel 8 _ rfl
      simp [od_c3] at h0' h1' h2' h3' h4' h5' h6' h7' h8'
      obtain ⟨p0, e0, d0, _⟩ := DataW.trod_int Tryz.underlying3 h0'
      obtain ⟨p1, e1, d1, _⟩ := DataW.trod_int Tryz.underlying3 h1'
      obtain ⟨p2, e2, d2, _⟩ := DataW.trod_int Tryz.underlying3 h2'
      obtain ⟨p3, e3, d3, _⟩ := DataW.trod_int Tryz.underlying3 h3'
      obtain ⟨p4, e4, d4, _⟩ := DataW.trod_int Tryz.underlying3 h4'
      obtain ⟨p5, e5, d5, _⟩ := DataW.trod_int Tryz.underlying3 h5'
      obtain ⟨p6, e6, d6, _⟩ := DataW.trod_int Tryz.underlying3 h6'
      obtain ⟨p7, e7, d7, _⟩ := DataW.trod_int Tryz.underlying3 h7'
      obtain ⟨p8, e8, d8, _⟩ := DataW.trod_int Tryz.underlying3 h8'
      simp at e0 e1 e2 e3 e4 e5 e6 e7 e8
      subst e0 e1 e2 e3 e4 e5 e6 e7 e8
      subst d0 d1 d2 d3 d4 d5 d6 d7 d8
      have hd := congrArg Prod.fst hxe
      simp [Rows.laid_catchment_dump_anySizes] at hd
      obtain ⟨rfl, rfl, rfl, rfl, rfl, rfl, rfl, rfl, rfl⟩ := hd
      intro i v hv
      have hc := World.var?_cell (show Tryz.prog.globalNamed "catchment/dump.anySizes" = some 0 by kernel_rfl) h3 i
      rw [hc, ← Array.getElem?_toList]
      show (([2147483647, 2147483647, 0, 0, 0, 0, 0, 0, 0] : List Int).map (Value.int .i64))[i]? = _
      rw [List.getElem?_map, hv]
      rfl
  refine ⟨an, cell_of_shapedOpen_int hs (g := 2) (t := 3) (zero := #[.int .i64 0]) (of_decide_eq_true (by kernel_rfl)) (by kernel_rfl) rfl (by kernel_rfl) (by kernel_rfl) Tryz.underlying3, ?_, ?_, tab⟩
  · exact sent "strconv.ErrSyntax" 3 _ (.tail _ (.tail _ (.tail _ (.tail _ (.tail _ (.head _)))))) (by kernel_rfl) (by kernel_rfl)
  · exact sent "strconv.ErrRange" 4 _ (.tail _ (.tail _ (.tail _ (.tail _ (.head _))))) (by kernel_rfl) (by kernel_rfl)
set_option maxRecDepth 100000 in
theorem start_met (os : Os) (args : Array Value) : laidMetH Tryz.prog LL ((World.laidAll Tryz.prog os LL).forCall (fun _ _ => 0) ⟨#[], args, []⟩).memory := by
  rw [MakeChecks.laidMetH_plain _ _ _ (by kernel_rfl)]
  exact laidMet_laidAll _ (by kernel_rfl) (by kernel_rfl)
set_option maxRecDepth 100000 in
theorem start_shaped (os : Os) (args : Array Value) : ((World.laidAll Tryz.prog os LL).forCall (fun _ _ => 0) ⟨#[], args, []⟩).Shaped Tryz.prog := World.shaped_of_ZipB (by kernel_rfl) (by kernel_rfl)
end Go.Proofs.YtdebedeebmmleaaGreatDoor
