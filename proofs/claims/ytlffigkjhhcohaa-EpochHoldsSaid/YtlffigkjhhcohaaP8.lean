/- The program's book: a fork. -/
import Derived.Test.YtlffigkjhhcohaaP7
import Derived.Laws.Externs
import Derived.MapKept
namespace Go.Proofs.Ytlffigkjhhcohaa
set_option linter.unusedSimpArgs false
open Go.RowKit Go.Maps
set_option linter.unusedVariables false

theorem m_nil (w : World) (M : Nat) : (binOp .eql 56 (.map (some M)) (.map none)).run Try.prog w = .ok (.bool false) w := by
  have h0 : ∀ d : Nat, (Op.equalIn (d + 1) 56 (.map (some M)) (.map none)).run Try.prog w = .ok false w := fun d => by simp [Op.equalIn, run_underlying Try.underlying56]
  have h := h0 9999
  have e : Op.equal 56 (.map (some M)) (.map none) = Op.equalIn (9999 + 1) 56 (.map (some M)) (.map none) := rfl
  simp only [binOp]
  simp [e, h]
theorem m_is (w : World) (v : Value) : (Instr.typeAssert (.iface 56 v) 20 56 false).run Try.prog w = .ok v w := by
  simp [Instr.typeAssert, run_underlying Try.underlying56, go_sem, Result.andThen]
theorem m_clone {w : World} {M : Nat} {es : Array MapEntry} {ck : Nat} (hb : w.heap[M]? = some (.map es ck)) :
    (Extern.MapsClone.clone #[.iface 56 (.map (some M))]).run Try.prog w = .ok (.iface 56 (.map (some w.heap.size))) (w.alloc (.map es ck)) := by
  have hg := MapKept.run_getObj_map (P := Try.prog) hb
  have e : Extern.MapsClone.clone #[.iface 56 (.map (some M))] = (getObj M >>= fun o => match o with
      | .map entries clock => (newObj (.map entries clock) >>= fun n => pure (.iface 56 (.map (some n))))
      | _ => stuck "maps.clone: a map expected") := rfl
  rw [e]
  simp [hg, Result.andThen, go_sem]
set_option maxHeartbeats 1000000 in
theorem clone_any {w : World} {M m : Nat} {D : DataW Unit} (h : w.ownsMap Try.prog 3 (plainElem Try.prog 3) M m D) : Calls Try.prog 32 #[.map (some M)] w fun e w' => e = .returned (.map (some w.heap.size)) ∧ w'.ownsMap Try.prog 3 (plainElem Try.prog 3) w.heap.size m D ∧ Below w.heap.size w w' := by
  obtain ⟨es, ck, hb, F, hs, hD⟩ := h
  have hq := fun w => m_nil w M
  go_enter Try.func32, Try.ntmps32
  go_wp2
  rw [run_callFunc_extern Try.func33 (by kernel_rfl) (by kernel_rfl) (by kernel_rfl) (e := Extern.MapsClone.clone) (by kernel_rfl), m_clone hb]
  simp only [Result.andThen]
  rw [Oper.upon_value]
  go_wp2
  rw [m_is]
  simp only [Result.andThen]
  rw [Oper.upon_value]
  go_wp2
  go_ret
  exact ⟨rfl, ⟨es, ck, heap_alloc_new w _, F, hs, hD⟩, al_below w _⟩
theorem PB.fresh {v : World} {lo M m : Nat} {A1 A2 : Option Addr} {k1 k2 : Nat} {ss now : Int} {S : Int → Option Int} {wl sl : List Int} (hlo : lo ≤ v.heap.size) (hM : lo ≤ M) (hm : ∃ D, v.ownsMap Try.prog 3 (plainElem Try.prog 3) M m D ∧ MF D S) (r1 : Row v lo A1 wl k1) (r2 : Row v lo A2 sl k2)
    (e1 : fpr A1 k1 ≠ some M) (e2 : fpr A2 k2 ≠ some M) (d : fpr A1 k1 = none ∨ fpr A1 k1 ≠ fpr A2 k2) :
    PB (v.alloc (.cells #[.int .i64 ss, .int .i64 now, .map (some M), .slice A1 wl.length k1, .slice A2 sl.length k2] 58)) lo v.heap.size M A1 A2 k1 k2 m ss now S wl sl := by
  obtain ⟨D, hD, hF⟩ := hm
  have hlt := hD.lt
  have n1 : fpr A1 k1 ≠ some v.heap.size := fun e => by have := r1.fp_lt e; omega
  have n2 : fpr A2 k2 ≠ some v.heap.size := fun e => by have := r2.fp_lt e; omega
  refine ⟨⟨hlo, by simp⟩, ⟨hM, by omega⟩, ?_, ?_, ?_, ?_, ?_, fun j => ?_, ⟨D, hD.kept (al_grown _ _) (by simp), hF⟩, r1.kept (al_grown _ _) (fpr_no _ _), r2.kept (al_grown _ _) (fpr_no _ _), ⟨n1, e1⟩, ⟨n2, e2⟩, d⟩
  all_goals simp [go_sem]
set_option maxHeartbeats 4000000 in
theorem pfork_any {w : World} {lo N M : Nat} {A1 A2 : Option Addr} {k1 k2 m : Nat} {ss now : Int} {S : Int → Option Int} {wl sl : List Int} (hl : wl.length ≤ 1000000 ∧ sl.length ≤ 1000000) (h : PB w lo N M A1 A2 k1 k2 m ss now S wl sl) :
    Calls Try.prog 25 #[.pointer (some ⟨N, 0, none⟩)] w fun e w' => ∃ N' M' A1' A2' k1' k2', e = .returned (.pointer (some ⟨N', 0, none⟩)) ∧ PB w' w.heap.size N' M' A1' A2' k1' k2' m ss now S wl sl ∧ Below w.heap.size w w' := by
  have HPB := Lib.hid h
  have c0 := h.c0
  have c1 := h.c1
  have c2 := h.c2
  have c3 := h.c3
  have c4 := h.c4
  obtain ⟨D, hown, hF⟩ := h.mp
  have HF := Lib.hid hF
  have CC : Hid (∀ W, Below w.heap.size w W → Calls Try.prog 32 #[.map (some M)] W fun e w' => e = .returned (.map (some W.heap.size)) ∧ w'.ownsMap Try.prog 3 (plainElem Try.prog 3) W.heap.size m D ∧ Below W.heap.size W w') := Lib.hid (fun W hb => clone_any (hown.kept (bel_grown hb none) (by simp)))
  have OA : Hid (∀ W, Below w.heap.size w W → Calls Try.prog 31 #[.slice A1 wl.length k1] W (OwnPost W wl)) := Lib.hid (fun W hb => own_any _ _ _ wl W rfl hl.1 (HPB.out.later hb).r1.rd)
  have OB : Hid (∀ W, Below w.heap.size w W → Calls Try.prog 31 #[.slice A2 sl.length k2] W (OwnPost W sl)) := Lib.hid (fun W hb => own_any _ _ _ sl W rfl hl.2 (HPB.out.later hb).r2.rd)
  have KP : Hid (∀ W, Below w.heap.size w W → W.cell? ⟨N, 0, none⟩ = some (.int .i64 ss) ∧ W.cell? ⟨N, 1, none⟩ = some (.int .i64 now) ∧ W.cell? ⟨N, 2, none⟩ = some (.map (some M)) ∧ W.cell? ⟨N, 3, none⟩ = some (.slice A1 wl.length k1) ∧ W.cell? ⟨N, 4, none⟩ = some (.slice A2 sl.length k2)) := Lib.hid (fun W hb => ⟨bel_later hb c0, bel_later hb c1, bel_later hb c2, bel_later hb c3, bel_later hb c4⟩)
  clear h hown hF
  go_enter Try.func25, Try.ntmps25
  go_wp2_with fail
  go_region_held3 (fun W => W.cell? ⟨N, 0, none⟩ = some (.int .i64 ss) ∧ W.cell? ⟨N, 1, none⟩ = some (.int .i64 now) ∧ W.cell? ⟨N, 2, none⟩ = some (.map (some M)) ∧ W.cell? ⟨N, 3, none⟩ = some (.slice A1 wl.length k1) ∧ W.cell? ⟨N, 4, none⟩ = some (.slice A2 sl.length k2))
    (first | exact KP.out _ (bel_dw (Below.refl _ _)) | exact KP.out _ (HB3.out.trans ((al_below _ _).mono HB3.out.size)) | exact KP.out _ HB3.out | exact KP.out _ HB2.out | exact KP.out _ HB1.out)
    (first
      | (go_at_call 32; ((with_reducible refine (CC.out _ (bel_dw (Below.refl _ _))).mono ?_); rintro e v1 ⟨rfl, hm1, hb1⟩; have HM1 := Lib.hid hm1; have HB1 : Hid (Below w.heap.size w v1) := Lib.hid ((bel_dw (Below.refl _ _)).trans hb1); have HS1 := Lib.hid (hm1.lt); clear hm1 hb1))
      | (go_at_call 31; ((with_reducible refine (OA.out _ HB1.out).mono ?_); rintro e v2 ⟨B1, q1, rfl, r1, hb2⟩; have R1 := Lib.hid r1; have HB2 : Hid (Below w.heap.size w v2) := Lib.hid (HB1.out.trans (hb2.mono HB1.out.size)); have HC2 := Lib.hid hb2; clear r1 hb2))
      | (go_at_call 31; ((with_reducible refine (OB.out _ HB2.out).mono ?_); rintro e v3 ⟨B2, q2, rfl, r2, hb3⟩; have R2 := Lib.hid r2; have HB3 : Hid (Below w.heap.size w v3) := Lib.hid (HB2.out.trans (hb3.mono HB2.out.size)); have HC3 := Lib.hid hb3; clear r2 hb3)))
  all_goals
    have hPB := PB.fresh (v := v3) (lo := w.heap.size) (M := w.heap.size) (ss := ss) (now := now) (S := S) HB3.out.size (Nat.le_refl _) ⟨D, (HM1.out.kept (bel_grown HC2.out none) (by simp)).kept (bel_grown HC3.out none) (by simp), HF.out⟩ ((R1.out.later HC3.out).base HB1.out.size) (R2.out.base HB2.out.size)
      (fun e => by have h1 := R1.out.fp_lt e; have h2 : w.heap.size < v1.heap.size := HS1.out; omega) (fun e => by have h1 := R2.out.fp_lt e; have h2 : w.heap.size < v1.heap.size := HS1.out; have h3 := HC2.out.size; omega) (R1.out.apart R2.out)
    have HP := Lib.hid hPB
    have hBF := Lib.hid (HB3.out.trans ((al_below v3 (.cells #[.int .i64 ss, .int .i64 now, .map (some w.heap.size), .slice B1 wl.length q1, .slice B2 sl.length q2] 58)).mono HB3.out.size))
    clear hPB
    go_wp2_with fail
    go_ret
    first
      | exact ⟨_, _, _, _, _, _, rfl, HP.out, hBF.out⟩
      | exact ⟨_, rfl, ⟨_, _, _, _, _, HP.out⟩, hBF.out⟩
end Go.Proofs.Ytlffigkjhhcohaa
