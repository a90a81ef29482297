/- What a row gives its walk: the variables; a start. -/
import Derived.Test.YtelpkajlejbbgaaGreatDoorRows
import Derived.Test.YtelpkajlejbbgaaGreatDoorTie
import Derived.WalkKit
import Derived.ProofKit
import Derived.OpenShut
import Derived.LaidMore
import Derived.Lay
import Derived.Lib.LaidTab
import Derived.Lib.LaidU8
import Derived.SevenTiedAt
import Derived.Stop.Joined
import Derived.Handed
import Derived.HandedShaped
import Derived.Shelf.Vars
import Derived.Test.YtelpkajlejbbgaaGreatDoorTc32
set_option linter.unusedVariables false
set_option linter.unusedSimpArgs false
namespace Go.Proofs.YtelpkajlejbbgaaGreatDoor
open Go.ChangeShapes Go.WideShapes Go.ChangeAt Go.RowKit
/-- The wrap of a row that lists variables, the world's shape kept. -/
theorem handed_and_shaped {H : Type} {enc : TypeId × Value → H} {a : Assume} {C : Checked} {os : Os} {f : FuncId} {fn : Func} {s : ChangeSpec} {conds : List PathCond} {apart fresh handsOn again : Bool} {X : World → Array Value → Prop}
    (hX : ∀ (w w' : World) (args : Array Value), w.heap = w'.heap → X w args → X w' args)
    (own : ownKnob C.prog.godebug = none) (started : os.Started) (noInit : C.prog.inits.idxOf? f = none) (hfn : C.prog.funcs[f]? = some fn)
    (witness : ∃ (w : World) (tape : Tape) (i : Input), w.os = os ∧ (w.forCall tape i).Shaped C.prog ∧ i.vars = [] ∧ Input.okWide C.prog (w.forCall tape i) .any w.heap.size f i ∧
      ((s.pre enc C.prog fn conds apart (w.forCall tape i).memory i.args ∧ X (w.forCall tape i).memory i.args) ∧ sizedMet enc C.prog fn (OpenSpec.ofChange s) apart (w.forCall tape i).memory i.args) ∧ a.holds C.prog (lone (Frame.enter C.prog f i.args .normal) [] (w.forCall tape i)))
    (contract : ∀ (W : World) (base : Nat) (args : Array Value) (ds gs : List (DataW H)) (before : List MemPlace),
      (∀ (j : Nat) t v, fn.params[j]? = some t → args[j]? = some v → Value.okWide C.prog W .any base t v) →
      DataW.Whole enc C.prog fn.params.toList s.vars apart W args.toList ds gs before →
      (DataW.weightsEach C.prog (fn.params.toList ++ s.plain.varTypes C.prog) (ds ++ gs)).all (· ≤ reachBytes) = true → X W args → W.ShapedOpen C.prog →
      Calls C.prog f args W fun e W' => ∃ v, e = .returned v ∧ s.post enc C.prog fn apart fresh handsOn again W args v W') :
    ReturnsInHanded a C os f .any (fun w args => (s.pre enc C.prog fn conds apart w args ∧ X w args) ∧ sizedMet enc C.prog fn (OpenSpec.ofChange s) apart w args) (s.post enc C.prog fn apart fresh handsOn again) := by
  refine returnsInHanded_of_calls own started noInit witness ?_
  intro w tape i _ hsh _ hok hpre hholds
  obtain ⟨_, _, _, fn', hfn', _, _, _, _, hval⟩ := hok
  have e : fn' = fn := Option.some.inj (hfn'.symm.trans hfn)
  subst e
  obtain ⟨⟨⟨ds, gs, before, hw, hc⟩, hx⟩, hz⟩ := hpre
  have hw' := DataW.Whole.of_heap (w' := w.forCall tape i) (by rfl) hw
  refine (contract (w.forCall tape i) w.heap.size i.args ds gs before hval hw' (hz.weights hw) (hX _ _ _ (by rfl) hx) hsh).mono fun e W' ⟨v, he, hp⟩ => ?_
  subst he
  exact ChangeSpec.post_blind hp
theorem card_own : ownKnob Tryz.prog.godebug = none := by kernel_rfl
theorem card_laidOut : laidOutB Tryz.prog = true := by kernel_rfl
/-- What the rows list. -/
abbrev LL : List (String × DataW Unit) := Rows.scriptForthRow.laid
theorem iface_cell {P : Program} {H : Type} {enc : TypeId × Value → H} {w : World} {base : Nat} {sp : Nat → Bool} {held : Bool} {fuel : Nat} {t : TypeId} {ms : Array (String × TypeId)} {cs : List Value} {x : DataW H × List MemPlace} (ht : P.underlying t = some (.interface ms))
    (h : DataW.trod enc P w base sp held fuel t cs = some x) : ∃ ev, cs = [ev] ∧ (ev = .nilIface ∨ ∃ te pe, ev = .iface te pe) := by
  cases fuel with
  | zero => simp [DataW.trod] at h
  | succ m =>
    match cs, h with
    | [], h => simp [DataW.trod, ht] at h
    | [v], h =>
      cases v <;> first
        | exact ⟨_, rfl, .inl rfl⟩
        | exact ⟨_, rfl, .inr ⟨_, _, rfl⟩⟩
        | (simp [DataW.trod, ht] at h; done)
    | a :: b :: r, h => simp [DataW.trod, ht] at h
theorem od_c3 : Tryz.prog.cellsOf 3 = 1 := by kernel_rfl
set_option maxRecDepth 100000 in
theorem met_gw {W : World} (hL : laidMetH Tryz.prog LL W) (hs : W.ShapedOpen Tryz.prog) : GW W := by
  rw [MakeChecks.laidMetH_plain _ _ _ (by kernel_rfl)] at hL
  have sent : ∀ (n : String) (g : Nat) (d : DataW Unit), (n, d) ∈ LL → Tryz.prog.globalNamed n = some g → (Tryz.prog.globals[g]?).map (·.type) = some 90 → ∃ ev, W.cell? ⟨g, 0, none⟩ = some ev ∧ (ev = .nilIface ∨ ∃ te pe, ev = .iface te pe) := by
    intro n g d hm hg ht
    obtain ⟨g', t', cs, fuel, p, h1, h2, h3, h4⟩ := Lib.laidMet.reads hL hm
    obtain rfl := Option.some.inj (hg.symm.trans h1)
    obtain rfl := Option.some.inj (ht.symm.trans h2)
    obtain ⟨ev, e, hev⟩ := iface_cell Tryz.underlying90 h4
    refine ⟨ev, ?_, hev⟩
    have := World.var?_cell hg h3 0
    rw [Array.eq_one_of_toList e] at this
    simpa using this
  have tab : Lib.TabIs Tryz.prog W "internal/strconv.uint64pow10" .u64 Lib.pow10Tab := by
    have hm : ("internal/strconv.uint64pow10", Rows.laid_internal_strconv_uint64pow10) ∈ LL := .tail _ (.tail _ (.head _))
    obtain ⟨g', t', cs, fuel, p, h1, h2, h3, h4⟩ := Lib.laidMet.reads hL hm
    obtain rfl := Option.some.inj ((show Tryz.prog.globalNamed "internal/strconv.uint64pow10" = some 2 by kernel_rfl).symm.trans h1)
    obtain rfl := Option.some.inj ((show (Tryz.prog.globals[2]?).map (·.type) = some 145 by kernel_rfl).symm.trans h2)
    have e : (Rows.laid_internal_strconv_uint64pow10 : DataW Unit) = Lib.tabData .u64 Lib.pow10Tab := by kernel_rfl
    rw [e] at h4
    have q := Lib.cells_of_tab Tryz.underlying145 Tryz.underlying49 (by kernel_rfl) (by kernel_rfl) h4
    unfold Lib.TabIs
    rw [h3, ← q]
  have an : ∀ i v, ([2147483647, 2147483647, 0, 0, 0, 0, 0, 0, 2147483647] : List Int)[i]? = some v → W.cell? ⟨0, i, none⟩ = some (.int .i64 v) := by
    have hm : ("catchment/script.anySizes", Rows.laid_catchment_script_anySizes) ∈ LL := .tail _ (.tail _ (.tail _ (.tail _ (.tail _ (.tail _ (.head _))))))
    obtain ⟨g', t', cs, fuel, p, h1, h2, h3, h4⟩ := Lib.laidMet.reads hL hm
    obtain rfl := Option.some.inj ((show Tryz.prog.globalNamed "catchment/script.anySizes" = some 0 by kernel_rfl).symm.trans h1)
    obtain rfl := Option.some.inj ((show (Tryz.prog.globals[0]?).map (·.type) = some 23 by kernel_rfl).symm.trans h2)
    obtain ⟨cl⟩ := cs
    obtain ⟨xs, m, _, hxe, hcl, hxl, hel⟩ := DataW.trod_struct Tryz.underlying23 h4
    have hcl2 : cl.length = 9 := hcl.trans (by kernel_rfl)
    match cl, hcl2, xs, hxl with
    | [c0, c1, c2, c3, c4, c5, c6, c7, c8], _, [y0, y1, y2, y3, y4, y5, y6, y7, y8], _ =>
      have h0' := hel 0 _ rfl
      have h1' := hel 1 _ rfl
      have h2' := hel 2 _ rfl
      have h3' := hel 3 _ rfl
      have h4' := hel 4 _ rfl
      have h5' := hel 5 _ rfl
      have h6' := hel 6 _ rfl
      have h7' := hel 7 _ rfl
      have h8' := hel 8 _ rfl
      simp [od_c3] at h0' h1' h2' h3' h4' h5' h6' h7' h8'
      obtain ⟨p0, e0, d0, _⟩ := DataW.trod_int Tryz.underlying3 h0'
      obtain ⟨p1, e1, d1, _⟩ := DataW.trod_int Tryz.underlying3 h1'
      obtain ⟨p2, e2, d2, _⟩ := DataW.trod_int Tryz.underlying3 h2'
      obtain ⟨p3, e3, d3, _⟩ := DataW.trod_int Tryz.underlying3 h3'
      obtain ⟨p4, e4, d4, _⟩ := DataW.trod_int Tryz.underlying3 h4'
      obtain ⟨p5, e5, d5, _⟩ := DataW.trod_int Tryz.underlying3 h5'
      obtain ⟨p6, e6, d6, _⟩ := DataW.trod_int Tryz.underlying3 h6'
      obtain ⟨p7, e7, d7, _⟩ := DataW.trod_int Tryz.underlying3 h7'
      obtain ⟨p8, e8, d8, _⟩ := DataW.trod_int Tryz.underlying3 h8'
      simp at e0 e1 e2 e3 e4 e5 e6 e7 e8
      subst e0 e1 e2 e3 e4 e5 e6 e7 e8
      subst d0 d1 d2 d3 d4 d5 d6 d7 d8
      have hd := congrArg Prod.fst hxe
      simp [Rows.laid_catchment_script_anySizes] at hd
      obtain ⟨rfl, rfl, rfl, rfl, rfl, rfl, rfl, rfl, rfl⟩ := hd
      intro i v hv
      have hc := World.var?_cell (show Tryz.prog.globalNamed "catchment/script.anySizes" = some 0 by kernel_rfl) h3 i
      rw [hc, ← Array.getElem?_toList]
      show (([2147483647, 2147483647, 0, 0, 0, 0, 0, 0, 2147483647] : List Int).map (Value.int .i64))[i]? = _
      rw [List.getElem?_map, hv]
      rfl
  refine ⟨an, cell_of_shapedOpen_int hs (g := 1) (t := 3) (zero := #[.int .i64 0]) (of_decide_eq_true (by kernel_rfl)) (by kernel_rfl) rfl (by kernel_rfl) (by kernel_rfl) Tryz.underlying3, ?_, ?_, tab⟩
  · exact sent "strconv.ErrSyntax" 7 _ (.tail _ (.tail _ (.tail _ (.tail _ (.tail _ (.head _)))))) (by kernel_rfl) (by kernel_rfl)
  · exact sent "strconv.ErrRange" 8 _ (.tail _ (.tail _ (.tail _ (.tail _ (.head _))))) (by kernel_rfl) (by kernel_rfl)
set_option maxRecDepth 100000 in
theorem start_met (os : Os) (args : Array Value) : laidMetH Tryz.prog LL ((World.laidAll Tryz.prog os LL).forCall (fun _ _ => 0) ⟨#[], args, []⟩).memory := by
  rw [MakeChecks.laidMetH_plain _ _ _ (by kernel_rfl)]
  exact laidMet_laidAll _ (by kernel_rfl) (by kernel_rfl)
set_option maxRecDepth 100000 in
theorem start_shaped (os : Os) (args : Array Value) : ((World.laidAll Tryz.prog os LL).forCall (fun _ _ => 0) ⟨#[], args, []⟩).Shaped Tryz.prog := World.shaped_of_ZipB (by kernel_rfl) (by kernel_rfl)
end Go.Proofs.YtelpkajlejbbgaaGreatDoor
