/- Texts of the proof, one behind the other. -/
import Derived.Test.YtdebedeebmmleaaGreatDoorTc21
import Derived.Test.YtdebedeebmmleaaGreatDoorTc01
import Derived.Test.YtdebedeebmmleaaGreatDoorTc05
import Derived.Recover
import Derived.Defers
set_option linter.unusedVariables false
set_option linter.unusedSimpArgs false
namespace Go.Proofs.YtdebedeebmmleaaGreatDoor
open Go.RowKit Go.Maps
variable {nV aV : Value}
def zC : NC := ⟨0, ⟨none, 0, 0⟩, ⟨none, 0, 0⟩, ⟨none, 0, 0⟩, ⟨none, 0, 0⟩⟩
def zeroC (n : Nat) : List NC := List.replicate n zC
theorem made_get (z : Array Value) (n i : Nat) (h : i < n) : (madeCells z n).toList[i]? = some z[i % z.size]! := by
  unfold madeCells
  simp [h]
theorem made_nodes (n : Nat) : madeCells (#[.int .u8 0, .slice none 0 0, .slice none 0 0, .slice none 0 0, .slice none 0 0] : Array Value) (n * 5) = (EN.all (zeroC n)).toArray := by
  have hall : (EN.all (zeroC n)).length = n * 5 := by rw [RE.all_len]; show (zeroC n).length * 5 = _; unfold zeroC; rw [List.length_replicate]
  apply Array.ext'
  rw [List.toList_toArray]
  apply List.ext_getElem?
  intro i
  by_cases hi : i < n * 5
  · have hz : (zeroC n)[i / 5]? = some zC := by
      unfold zeroC
      rw [List.getElem?_replicate, if_pos (by omega)]
    have hu : ∃ u, (EN.cs zC)[i % 5]? = some u ∧ (#[.int .u8 0, .slice none 0 0, .slice none 0 0, .slice none 0 0, .slice none 0 0] : Array Value)[i % 5]! = u := by
      have : i % 5 = 0 ∨ i % 5 = 1 ∨ i % 5 = 2 ∨ i % 5 = 3 ∨ i % 5 = 4 := by omega
      rcases this with h | h | h | h | h <;> rw [h] <;> exact ⟨_, rfl, rfl⟩
    obtain ⟨u, h1, h2⟩ := hu
    have hg := EN.all_get hz h1
    have e : i / 5 * EN.k + i % 5 = i := by show i / 5 * 5 + i % 5 = i; omega
    rw [e] at hg
    rw [hg]
    rw [made_get _ _ _ hi]
    exact congrArg some h2
  · rw [List.getElem?_eq_none (by rw [Array.length_toList, size_madeCells]; omega), List.getElem?_eq_none (by first | (rw [hall]; omega) | (rw [List.size_toArray, hall]; omega) | (simp; omega))]
theorem run_nodes (n : Nat) (hn : n ≤ 4097) (W : World) : (Instr.makeSlice 22 (.int .i64 (n : Int)) (.int .i64 (n : Int))).run Tryz.prog W = .ok (.slice (some ⟨W.heap.size, 0, none⟩) n n) (W.alloc (.cells (EN.all (zeroC n)).toArray 44)) := by
  obtain ⟨i0, hI0, hI1, hI2, hI3⟩ := EN.parts
  have h := run_make (P := Tryz.prog) W 22 44 i0 EN.z Tryz.underlying22 hI0 hI1 .i64 .i64 (n : Int) (n : Int) (by omega) (by omega) (by rw [hI3]; show ((104 : Nat) : Int) * _ ≤ _; omega) (by omega)
  rw [h, hI2, Int.toNat_natCast, ← made_nodes]
  rfl
/-- What the head makes. -/
def RHd (B g : Nat) (aV : Value) (u : ByteArray) (r : Except Int Nat) (w : World) (e : Ending) (w' : World) : Prop :=
  (match r with
  | .error er => e = .panicked [FP 1 er]
  | .ok n => e = .returned (.tuple #[]) ∧ ∃ nb, w.heap.size ≤ nb ∧ NB w' nb (zeroC n) ∧ RB (.slice (some ⟨nb, 0, none⟩) n n) aV w' g u 1) ∧ Chg (fun x => x = g) w w'
section
variable {B g : Nat} {t u : ByteArray} {w : World} {ws : List ByteArray}
set_option maxHeartbeats 1000000 in
set_option maxRecDepth 100000 in
theorem head_none (hr : RB nV aV w g t 0) (hb : GB B w) (hg : B ≤ g) (ht : t.size ≤ 4000000) (hn : nextF t = none) :
    Calls Tryz.prog 31 #[.pointer (some ⟨g, 0, none⟩)] w fun e w' => e = .panicked [FP 1 5] ∧ Chg (fun x => x = g) w w' := by
  have NX := Lib.hid (next_bad hr hb hg ht (by omega) hn)
  clear hr hb ht hn
  go_enter Tryz.func31, Tryz.ntmps31
  go_wp2_with (first
    | (go_at_call 33; ((with_reducible refine NX.out.mono ?_); rintro e w1 ⟨rfl, c1⟩; have C1 := Lib.hid c1; clear c1))
    | fail)
  exact ⟨rfl, rfl, C1.out⟩
set_option maxHeartbeats 1000000 in
set_option maxRecDepth 100000 in
theorem head_word (hr : RB nV aV w g t 0) (hb : GB B w) (hg : B ≤ g) (ht : t.size ≤ 4000000) (hn : nextF t = some (ws, u)) (h0 : ¬ ws[0]? = some wTree) :
    Calls Tryz.prog 31 #[.pointer (some ⟨g, 0, none⟩)] w fun e w' => e = .panicked [FP 1 3] ∧ Chg (fun x => x = g) w w' := by
  have NX := Lib.hid (next_ok hr hb hg ht (by omega) hn)
  obtain ⟨hw, _⟩ := next_facts hn
  have hw0 := wd_at hw
  obtain ⟨x0, hx0⟩ : ∃ x0, wdA ws 0 = x0 := ⟨_, rfl⟩
  rw [hx0] at hw0
  have d1 : (x0.toList == [116, 114, 101, 101]) = false := lit_ne (fun e => h0 (by rw [hw0]; exact congrArg some (ba_inj e)))
  have HW := Lib.hid (And.intro hw hx0)
  clear hr hb ht hn h0 hw hw0 hx0
  go_enter Tryz.func31, Tryz.ntmps31
  go_wp2_with (first
    | (go_at_call 33; ((with_reducible refine NX.out.mono ?_); rintro e w1 ⟨b1, n1, rfl, h1, h2, h3, h4, h5⟩; have C1 := Lib.hid h5; have R1 := Lib.hid h4; have k0 : (0 : Int) < (n1 : Int) := by { have := HW.out.1; omega }; have c0 := wd_cell h3 (i := 0) (by have := HW.out.1; omega); rw [HW.out.2] at c0; clear h1 h2 h3 h4 h5))
    | (go_at_call 51; ((with_reducible refine (check_bad g 3 _ R1.out).mono ?_); rintro e w4 ⟨rfl, rfl⟩))
    | fail)
  exact ⟨rfl, rfl, C1.out⟩
set_option maxHeartbeats 1000000 in
set_option maxRecDepth 100000 in
theorem head_len (hr : RB nV aV w g t 0) (hb : GB B w) (hg : B ≤ g) (ht : t.size ≤ 4000000) (hn : nextF t = some (ws, u)) (h0 : ws[0]? = some wTree) (hl : ¬ ws.length = 2) :
    Calls Tryz.prog 31 #[.pointer (some ⟨g, 0, none⟩)] w fun e w' => e = .panicked [FP 1 3] ∧ Chg (fun x => x = g) w w' := by
  have NX := Lib.hid (next_ok hr hb hg ht (by omega) hn)
  obtain ⟨hw, _⟩ := next_facts hn
  have hw0 := wd_at hw
  rw [h0] at hw0
  injection hw0 with hw0
  have HW := Lib.hid (And.intro hw (And.intro hw0 hl))
  clear hr hb ht hn h0 hl hw hw0
  go_enter Tryz.func31, Tryz.ntmps31
  go_wp2_with (first
    | (go_at_call 33; ((with_reducible refine NX.out.mono ?_); rintro e w1 ⟨b1, n1, rfl, h1, h2, h3, h4, h5⟩; have C1 := Lib.hid h5; have R1 := Lib.hid h4; have k0 : (0 : Int) < (n1 : Int) := by { have := HW.out.1; omega }; have k2 : ((n1 : Int) == 2) = false := beq_eq_false_iff_ne.2 (by have := HW.out.2.2; omega); have c0 := wd_cell h3 (i := 0) (by have := HW.out.1; omega); rw [← HW.out.2.1] at c0; clear h1 h2 h3 h4 h5))
    | (go_at_call 51; ((with_reducible refine (check_bad g 3 _ R1.out).mono ?_); rintro e w4 ⟨rfl, rfl⟩))
    | fail)
  exact ⟨rfl, rfl, C1.out⟩
set_option maxHeartbeats 1000000 in
set_option maxRecDepth 100000 in
theorem head_num (hr : RB nV aV w g t 0) (hb : GB B w) (hg : B ≤ g) (ht : t.size ≤ 4000000) (hn : nextF t = some (ws, u)) (h0 : ws[0]? = some wTree) (hl : ws.length = 2) (hv : rgB 0 2147483647 (wdA ws 1) = none) :
    Calls Tryz.prog 31 #[.pointer (some ⟨g, 0, none⟩)] w fun e w' => e = .panicked [FP 1 3] ∧ Chg (fun x => x = g) w w' := by
  have NX := Lib.hid (next_ok hr hb hg ht (by omega) hn)
  obtain ⟨hw, _, hsz, _⟩ := next_facts hn
  have hw0 := wd_at hw
  rw [h0] at hw0
  injection hw0 with hw0
  have HW := Lib.hid (And.intro hw (And.intro hw0 hl))
  have HV := Lib.hid hv
  have HSZ := Lib.hid (Nat.le_trans (wda_sz hsz 1) ht)
  have HB := Lib.hid hb
  clear hr hb ht hn h0 hl hw hw0 hv hsz
  go_enter Tryz.func31, Tryz.ntmps31
  go_wp2_with (first
    | (go_at_call 33; ((with_reducible refine NX.out.mono ?_); rintro e w1 ⟨b1, n1, rfl, h1, h2, h3, h4, h5⟩; have C1 := Lib.hid h5; have R1 := Lib.hid h4; have k0 : (0 : Int) < (n1 : Int) := by { have := HW.out.1; omega }; have k1 : (1 : Int) < (n1 : Int) := by { have := HW.out.2.2; omega }; have k2 : ((n1 : Int) == 2) = true := by { have := HW.out.2.2; have e : n1 = 2 := (by omega); rw [e]; rfl }; have c0 := wd_cell h3 (i := 0) (by have := HW.out.1; omega); rw [← HW.out.2.1] at c0; have c1 := wd_cell h3 (i := 1) (by have := HW.out.2.2; omega); have RG := Lib.hid (rnumber_any 0 2147483647 h4 (HB.out.chg h5 hg) HSZ.out); rw [HV.out] at RG; clear h1 h2 h3 h4 h5))
    | (go_at_call 51; ((with_reducible refine (check_ok g 3 _).mono ?_); rintro e w4 ⟨rfl, rfl⟩))
    | (go_at_call 52; ((with_reducible refine RG.out.mono ?_); rintro e w5 ⟨rfl, b5⟩; have C5 := Lib.hid (C1.out.later b5); clear b5))
    | fail)
  exact ⟨rfl, rfl, C5.out⟩
set_option maxHeartbeats 1000000 in
set_option maxRecDepth 100000 in
theorem head_many (hr : RB nV aV w g t 0) (hb : GB B w) (hg : B ≤ g) (ht : t.size ≤ 4000000) (hn : nextF t = some (ws, u)) (h0 : ws[0]? = some wTree) (hl : ws.length = 2) {v : Int} (hv : rgB 0 2147483647 (wdA ws 1) = some v) (hm : ¬ v ≤ 4097) :
    Calls Tryz.prog 31 #[.pointer (some ⟨g, 0, none⟩)] w fun e w' => e = .panicked [FP 1 4] ∧ Chg (fun x => x = g) w w' := by
  have NX := Lib.hid (next_ok hr hb hg ht (by omega) hn)
  obtain ⟨hw, _, hsz, _⟩ := next_facts hn
  have hw0 := wd_at hw
  rw [h0] at hw0
  injection hw0 with hw0
  have HW := Lib.hid (And.intro hw (And.intro hw0 hl))
  have HV := Lib.hid hv
  have HSZ := Lib.hid (Nat.le_trans (wda_sz hsz 1) ht)
  have HB := Lib.hid hb
  have dm : decide (v ≤ 4097) = false := by simp; omega
  clear hr hb ht hn h0 hl hw hw0 hv hsz
  go_enter Tryz.func31, Tryz.ntmps31
  go_wp2_with (first
    | (go_at_call 33; ((with_reducible refine NX.out.mono ?_); rintro e w1 ⟨b1, n1, rfl, h1, h2, h3, h4, h5⟩; have C1 := Lib.hid h5; have R1 := Lib.hid h4; have k0 : (0 : Int) < (n1 : Int) := by { have := HW.out.1; omega }; have k1 : (1 : Int) < (n1 : Int) := by { have := HW.out.2.2; omega }; have k2 : ((n1 : Int) == 2) = true := by { have := HW.out.2.2; have e : n1 = 2 := (by omega); rw [e]; rfl }; have c0 := wd_cell h3 (i := 0) (by have := HW.out.1; omega); rw [← HW.out.2.1] at c0; have c1 := wd_cell h3 (i := 1) (by have := HW.out.2.2; omega); have RG := Lib.hid (rnumber_any 0 2147483647 h4 (HB.out.chg h5 hg) HSZ.out); rw [HV.out] at RG; clear h1 h2 h3 h4 h5))
    | (go_at_call 51; ((with_reducible refine (check_ok g 3 _).mono ?_); rintro e w4 ⟨rfl, rfl⟩))
    | (go_at_call 52; ((with_reducible refine RG.out.mono ?_); rintro e w5 ⟨rfl, b5⟩; have C5 := Lib.hid (C1.out.later b5); have R5 := Lib.hid (R1.out.later b5); clear b5))
    | (go_at_call 51; ((with_reducible refine (check_bad g 4 _ R5.out).mono ?_); rintro e w6 ⟨rfl, rfl⟩))
    | fail)
  exact ⟨rfl, rfl, C5.out⟩
set_option maxHeartbeats 1000000 in
set_option maxRecDepth 100000 in
theorem head_ok (hr : RB nV aV w g t 0) (hb : GB B w) (hg : B ≤ g) (ht : t.size ≤ 4000000) (hn : nextF t = some (ws, u)) (h0 : ws[0]? = some wTree) (hl : ws.length = 2) {n : Nat} (hv : rgB 0 2147483647 (wdA ws 1) = some (n : Int)) (hm : n ≤ 4097) :
    Calls Tryz.prog 31 #[.pointer (some ⟨g, 0, none⟩)] w fun e w' => (e = .returned (.tuple #[]) ∧ ∃ nb, w.heap.size ≤ nb ∧ NB w' nb (zeroC n) ∧ RB (.slice (some ⟨nb, 0, none⟩) n n) aV w' g u 1) ∧ Chg (fun x => x = g) w w' := by
  have NX := Lib.hid (next_ok hr hb hg ht (by omega) hn)
  obtain ⟨hw, _, hsz, _⟩ := next_facts hn
  have hw0 := wd_at hw
  rw [h0] at hw0
  injection hw0 with hw0
  have HW := Lib.hid (And.intro hw (And.intro hw0 hl))
  have HV := Lib.hid hv
  have HSZ := Lib.hid (Nat.le_trans (wda_sz hsz 1) ht)
  have HB := Lib.hid hb
  have HGL := Lib.hid hr.lt
  have HM := Lib.hid hm
  have km : (n : Int) ≤ 4097 := by omega
  clear hr hb ht hn h0 hl hw hw0 hv hsz hm
  go_enter Tryz.func31, Tryz.ntmps31
  go_upto_region 4 with (first
    | (go_at_call 33; ((with_reducible refine NX.out.mono ?_); rintro e w1 ⟨b1, n1, rfl, h1, h2, h3, h4, h5⟩; have C1 := Lib.hid h5; have R1 := Lib.hid h4; have k0 : (0 : Int) < (n1 : Int) := by { have := HW.out.1; omega }; have k1 : (1 : Int) < (n1 : Int) := by { have := HW.out.2.2; omega }; have k2 : ((n1 : Int) == 2) = true := by { have := HW.out.2.2; have e : n1 = 2 := (by omega); rw [e]; rfl }; have c0 := wd_cell h3 (i := 0) (by have := HW.out.1; omega); rw [← HW.out.2.1] at c0; have c1 := wd_cell h3 (i := 1) (by have := HW.out.2.2; omega); have RG := Lib.hid (rnumber_any 0 2147483647 h4 (HB.out.chg h5 hg) HSZ.out); rw [HV.out] at RG; clear h1 h2 h3 h4 h5))
    | (go_at_call 51; ((with_reducible refine (check_ok g 3 _).mono ?_); rintro e w4 ⟨rfl, rfl⟩))
    | (go_at_call 52; ((with_reducible refine RG.out.mono ?_); rintro e w5 ⟨rfl, b5⟩; have C5 := Lib.hid (C1.out.later b5); have R5 := Lib.hid (R1.out.later b5); clear b5))
    | (go_at_call 51; ((with_reducible refine (check_ok g 4 _).mono ?_); rintro e w6 ⟨rfl, rfl⟩))
    | fail)
  have mk := run_nodes n HM.out w5
  have RA := Lib.hid (R5.out.later (alb w5 (.cells (EN.all (zeroC n)).toArray 44)))
  have a2 := RA.out.c2
  have f2 := RA.out.fr 2
  have NA := Lib.hid (show NB (w5.alloc (.cells (EN.all (zeroC n)).toArray 44)) w5.heap.size (zeroC n) from heap_alloc_new w5 _)
  have CA := Lib.hid (C5.out.later (alb w5 (.cells (EN.all (zeroC n)).toArray 44)))
  clear k0 k1 k2 c0 c1 km
  obtain ⟨O, hO⟩ : ∃ O, O = Obj.cells (EN.all (zeroC n)).toArray 44 := ⟨_, rfl⟩
  rw [← hO] at mk RA a2 f2 NA CA
  clear hO
  go_wp2
  have hne : ¬ w5.heap.size = g := by have := HGL.out; have := C5.out.size; omega
  have SG := Chg.set (D := fun x => x = g) (w5.alloc O) (l := g) (o := 2) (.slice (some ⟨w5.heap.size, 0, none⟩) n n) rfl
  refine ⟨rfl, .tuple #[], by simp [results, go_sem, Tryz.f31], ?_⟩
  exact ⟨⟨rfl, _, C5.out.size, NA.out.chg SG (fun e => hne e), RA.out.set2 _⟩, CA.out.then SG⟩
theorem head_any (hr : RB nV aV w g t 0) (hb : GB B w) (hg : B ≤ g) (ht : t.size ≤ 4000000) (hn : nextF t = some (ws, u)) :
    Calls Tryz.prog 31 #[.pointer (some ⟨g, 0, none⟩)] w (RHd B g aV u (headF ws) w) := by
  unfold headF
  by_cases h0 : ws[0]? = some wTree
  · by_cases hl : ws.length = 2
    · rw [if_pos ⟨h0, hl⟩]
      cases hv : rgB 0 2147483647 (wdA ws 1) with
      | none => exact head_num hr hb hg ht hn h0 hl hv
      | some v =>
        simp only
        by_cases hm : v ≤ 4097
        · rw [if_pos hm]
          have hi := rg_in hv
          exact head_ok (n := v.toNat) hr hb hg ht hn h0 hl (by rw [hv]; congr 1; omega) (by omega)
        · rw [if_neg hm]
          exact head_many hr hb hg ht hn h0 hl hv hm
    · rw [if_neg (fun h => hl h.2)]
      exact head_len hr hb hg ht hn h0 hl
  · rw [if_neg (fun h => h0 h.1)]
    exact head_word hr hb hg ht hn h0
end
end Go.Proofs.YtdebedeebmmleaaGreatDoor
namespace Go.Proofs.YtdebedeebmmleaaGreatDoor
open Go.RowKit Go.Maps
set_option maxHeartbeats 1000000 in
set_option maxRecDepth 100000 in
theorem catch_idle (p q s : Addr) (w : World) :
    CallsD Tryz.prog 30 #[.pointer (some p), .pointer (some q), .pointer (some s)] .returning w fun e u' w' => e = .returned (.tuple #[]) ∧ u' = .returning ∧ w' = w := by
  refine callsD_of_wpS Tryz.func30 rfl fun c₀ cs hu => ?_
  apply wpS_seq
  apply wpS_region
  simp [wpOpsS, go_sem, recoverD, hu, Tryz.ntmps30, Exit.thenS]
  refine wpS_of_wp ?_
  change Code.wp Tryz.prog _ _ { tmps := #[.pointer (some p), .pointer (some q), .pointer (some s), undef, undef, undef, .nilIface, undef, undef, undef, undef, undef, undef, undef, undef, undef, undef], defers := [] } _
  go_wp2
  cases c₀
  simp_all [bodyPostS, results, Tryz.results30]
theorem Chg.or {p : Nat} {D : Nat → Prop} {w w' : World} (h : Chg (fun x => x = p) w w') (hp : D p) : Chg D w w' := h.more (fun x e => .inl (by rw [e]; exact hp))
set_option maxHeartbeats 2000000 in
set_option maxRecDepth 100000 in
theorem catch_fault (p q s : Nat) (ln er : Int) (v0 l0 e0 : Value) (w : World) (hp : w.heap[p]? = some (.cells #[v0] 24 (0, 0))) (hq : w.heap[q]? = some (.cells #[l0] 3 (0, 0))) (hs : w.heap[s]? = some (.cells #[e0] 27 (0, 0))) (hpq : p ≠ q) (hps : p ≠ s) (hqs : q ≠ s) :
    CallsD Tryz.prog 30 #[.pointer (some ⟨p, 0, none⟩), .pointer (some ⟨q, 0, none⟩), .pointer (some ⟨s, 0, none⟩)] (.panicking [FP ln er]) w fun e u' w' => e = .returned (.tuple #[]) ∧ u' = .panicking [{ v := (FP ln er).v, recovered := true }] ∧ w'.heap[p]? = some (.cells #[.slice none 0 0] 24 (0, 0)) ∧ w'.heap[q]? = some (.cells #[.int .i64 ln] 3 (0, 0)) ∧ w'.heap[s]? = some (.cells #[.int .i64 er] 27 (0, 0)) ∧ Chg (fun x => x = p ∨ x = q ∨ x = s) w w' := by
  have hpl := heap_lt hp
  have hql := heap_lt hq
  have hsl := heap_lt hs
  have HN := Lib.hid (show ¬ w.heap.size = p ∧ ¬ w.heap.size = q ∧ ¬ w.heap.size = s ∧ p ≠ q ∧ p ≠ s ∧ q ≠ s from ⟨by omega, by omega, by omega, hpq, hps, hqs⟩)
  obtain ⟨W0, hW0⟩ : ∃ W0, W0 = w.alloc (.cells #[.int .i64 ln, .int .i64 er] 63) := ⟨_, rfl⟩
  have HB0 := Lib.hid (show Below w.heap.size w W0 by rw [hW0]; exact alb w _)
  have ZF := Lib.hid (show W0.heap[w.heap.size]? = some (.cells #[.int .i64 ln, .int .i64 er] 63) by rw [hW0]; exact heap_alloc_new w _)
  have ZP := Lib.hid (keep_bel HB0.out hp)
  have ZQ := Lib.hid (keep_bel HB0.out hq)
  have ZS := Lib.hid (keep_bel HB0.out hs)
  clear hp hq hs hpl hql hsl hpq hps hqs
  refine callsD_of_wpS Tryz.func30 rfl fun c₀ cs hu => ?_
  apply wpS_seq
  apply wpS_region
  simp [wpOpsS, go_sem, recoverD, hu, Tryz.ntmps30, Exit.thenS, FP]
  have hta : ∀ W, (Instr.typeAssert (.iface 63 (.agg #[.int .i64 ln, .int .i64 er])) 20 63 true).run Tryz.prog W = .ok (.tuple #[.agg #[.int .i64 ln, .int .i64 er], .bool true]) W := fun _ => by kernel_rfl
  refine wpS_of_wp ?_
  change Code.wp Tryz.prog _ _ { tmps := #[.pointer (some ⟨p, 0, none⟩), .pointer (some ⟨q, 0, none⟩), .pointer (some ⟨s, 0, none⟩), undef, undef, undef, .iface 63 (.agg #[.int .i64 ln, .int .i64 er]), undef, undef, undef, undef, undef, undef, undef, undef, undef, undef], defers := [] } _
  go_upto_region 7 with fail
  rw [← hW0]
  clear hW0 hta
  refine wp_region_held_drew (S := (fun V : World => V.heap[w.heap.size]? = some (.cells #[.int .i64 ln, .int .i64 er] 63))) (by kernel_rfl) ?_ (fun hHeld => ?_)
  · exact ZF.out
  have HHeld := Lib.hid hHeld; clear hHeld
  refine wT (i := 0) (oi := { dst := some 12, op := Op.build 24 #[], type := 24, pos := "parse.go:35", after := #[], guard := none }) (v := ?_) rfl (Or.inl ⟨by rfl, ?_⟩) HHeld.out ?_
  rotate_left
  · intro w hSw; clear hSw; go_simp; try with_reducible rfl
  try simp only [pu, pn, s1, s2, s3]
  refine wT (i := 1) (oi := { dst := some 13, op := Op.fieldAddr 63 (Operand.tmp 4) 0, type := 0, pos := "parse.go:35", after := #[{ on := 5, ground := Ground.gcOnly Departure.lateStores }], guard := none }) (v := ?_) rfl (Or.inl ⟨by rfl, ?_⟩) HHeld.out ?_
  rotate_left
  · intro w hSw; clear hSw; go_simp; try with_reducible rfl
  try simp only [pu, pn, s1, s2, s3]
  refine wT (i := 2) (oi := { dst := some 14, op := Op.load 3 (Operand.tmp 13), type := 3, pos := "parse.go:35", after := #[{ on := 1, ground := Ground.data }, { on := 5, ground := Ground.gcOnly Departure.lateStores }], guard := none }) (v := (.int .i64 ln : Value)) rfl (Or.inl ⟨by rfl, ?_⟩) HHeld.out ?_
  · intro V hV; have hc0 := cellh hV (i := 0) (v := .int .i64 ln) rfl; clear hV; go_simp
  try simp only [pu, pn, s1, s2, s3]
  refine wT (i := 3) (oi := { dst := some 15, op := Op.fieldAddr 63 (Operand.tmp 4) 1, type := 0, pos := "parse.go:35", after := #[{ on := 6, ground := Ground.gcOnly Departure.lateStores }], guard := none }) (v := ?_) rfl (Or.inl ⟨by rfl, ?_⟩) HHeld.out ?_
  rotate_left
  · intro w hSw; clear hSw; go_simp; try with_reducible rfl
  try simp only [pu, pn, s1, s2, s3]
  refine wT (i := 4) (oi := { dst := some 16, op := Op.load 27 (Operand.tmp 15), type := 27, pos := "parse.go:35", after := #[{ on := 3, ground := Ground.data }, { on := 6, ground := Ground.gcOnly Departure.lateStores }], guard := none }) (v := (.int .i64 er : Value)) rfl (Or.inl ⟨by rfl, ?_⟩) HHeld.out ?_
  · intro V hV; have hc0 := cellh hV (i := 1) (v := .int .i64 er) rfl; clear hV; go_simp
  try simp only [pu, pn, s1, s2, s3]
  refine wpAnyH_ready (rs := [5]) (by kernel_rfl) (by simp) ?_
  refine AllReadyH.cons (o := { dst := none, op := Op.store 24 (Operand.tmp 0) (Operand.tmp 12), type := 0, pos := "parse.go:35", after := #[{ on := 0, ground := Ground.data }, { on := 0, ground := Ground.phase }, { on := 1, ground := Ground.textOnly Departure.lateStores }, { on := 2, ground := Ground.textOnly Departure.lateStores }, { on := 3, ground := Ground.textOnly Departure.lateStores }, { on := 4, ground := Ground.textOnly Departure.lateStores }], guard := none }) rfl (fun K hK => ?_) AllReadyH.nil
  have k0 := cellh ZP.out (i := 0) (v := v0) rfl
  have f0 : W0.frozen? ⟨p, 0, none⟩ = false := froh ZP.out
  go_simp
  clear k0 f0
  have X1 := Lib.hid (hset (i := 0) ZP.out (.slice none 0 0))
  have C1 := Lib.hid (Chg.set (D := fun x => x = p) W0 (l := p) (o := 0) (.slice none 0 0) rfl)
  obtain ⟨W1, hW1⟩ : ∃ W1, W1 = W0.setCell ⟨p, 0, none⟩ (.slice none 0 0) := ⟨_, rfl⟩
  rw [← hW1] at X1 C1 ⊢
  clear hW1
  have F1 := Lib.hid (C1.out.keep ZF.out HN.out.1)
  have Q1 := Lib.hid (C1.out.keep ZQ.out (fun e => HN.out.2.2.2.1 e.symm))
  have S1 := Lib.hid (C1.out.keep ZS.out (fun e => HN.out.2.2.2.2.1 e.symm))
  refine hK.out _ _ ?_ (fun hHeld => ?_)
  · exact F1.out
  clear HHeld; have HHeld := Lib.hid hHeld; clear hHeld
  clear hK K
  try simp only [pu, pn, s1, s2, s3]
  refine wpAnyH_ready (rs := [6]) (by kernel_rfl) (by simp) ?_
  refine AllReadyH.cons (o := { dst := none, op := Op.store 3 (Operand.tmp 1) (Operand.tmp 14), type := 0, pos := "parse.go:35", after := #[{ on := 2, ground := Ground.data }, { on := 5, ground := Ground.chain }, { on := 0, ground := Ground.phase }, { on := 1, ground := Ground.phase }, { on := 2, ground := Ground.phase }, { on := 3, ground := Ground.textOnly Departure.lateStores }, { on := 4, ground := Ground.textOnly Departure.lateStores }, { on := 5, ground := Ground.phase }], guard := none }) rfl (fun K hK => ?_) AllReadyH.nil
  have k0 := cellh Q1.out (i := 0) (v := l0) rfl
  have f0 : W1.frozen? ⟨q, 0, none⟩ = false := froh Q1.out
  go_simp
  clear k0 f0
  have Q2 := Lib.hid (hset (i := 0) Q1.out (.int .i64 ln))
  have C2 := Lib.hid (Chg.set (D := fun x => x = q) W1 (l := q) (o := 0) (.int .i64 ln) rfl)
  obtain ⟨W2, hW2⟩ : ∃ W2, W2 = W1.setCell ⟨q, 0, none⟩ (.int .i64 ln) := ⟨_, rfl⟩
  rw [← hW2] at Q2 C2 ⊢
  clear hW2
  have F2 := Lib.hid (C2.out.keep F1.out HN.out.2.1)
  have X2 := Lib.hid (C2.out.keep X1.out HN.out.2.2.2.1)
  have S2 := Lib.hid (C2.out.keep S1.out (fun e => HN.out.2.2.2.2.2 e.symm))
  refine hK.out _ _ ?_ (fun hHeld => ?_)
  · exact F2.out
  clear HHeld; have HHeld := Lib.hid hHeld; clear hHeld
  clear hK K
  try simp only [pu, pn, s1, s2, s3]
  refine wpAnyH_ready (rs := [7]) (by kernel_rfl) (by simp) ?_
  refine AllReadyH.cons (o := { dst := none, op := Op.store 27 (Operand.tmp 2) (Operand.tmp 16), type := 0, pos := "parse.go:35", after := #[{ on := 4, ground := Ground.data }, { on := 6, ground := Ground.chain }, { on := 0, ground := Ground.phase }, { on := 1, ground := Ground.phase }, { on := 2, ground := Ground.phase }, { on := 3, ground := Ground.phase }, { on := 4, ground := Ground.phase }, { on := 5, ground := Ground.phase }, { on := 6, ground := Ground.phase }], guard := none }) rfl (fun K hK => ?_) AllReadyH.nil
  have k0 := cellh S2.out (i := 0) (v := e0) rfl
  have f0 : W2.frozen? ⟨s, 0, none⟩ = false := froh S2.out
  go_simp
  clear k0 f0
  have S3 := Lib.hid (hset (i := 0) S2.out (.int .i64 er))
  have C3 := Lib.hid (Chg.set (D := fun x => x = s) W2 (l := s) (o := 0) (.int .i64 er) rfl)
  obtain ⟨W3, hW3⟩ : ∃ W3, W3 = W2.setCell ⟨s, 0, none⟩ (.int .i64 er) := ⟨_, rfl⟩
  rw [← hW3] at S3 C3 ⊢
  clear hW3
  have F3 := Lib.hid (C3.out.keep F2.out HN.out.2.2.1)
  have X3 := Lib.hid (C3.out.keep X2.out HN.out.2.2.2.2.1)
  have Q3 := Lib.hid (C3.out.keep Q2.out HN.out.2.2.2.2.2)
  refine hK.out _ _ ?_ (fun hHeld => ?_)
  · exact F3.out
  clear HHeld; have HHeld := Lib.hid hHeld; clear hHeld
  clear hK K
  try simp only [pu, pn, s1, s2, s3]
  refine wpAnyH_done (by kernel_rfl) ?_ _
  clear HHeld
  go_wp2
  cases c₀
  refine ⟨rfl, _, rfl, _, ?_, rfl, ?_, X3.out, Q3.out, S3.out, ?_⟩
  · simp [results, Tryz.results30, go_sem]
  · simp_all
  · exact ((Chg.of_below (D := fun x => x = p ∨ x = q ∨ x = s) HB0.out).then (Chg.or (D := fun x => x = p ∨ x = q ∨ x = s) C1.out (.inl rfl))).then ((Chg.or (D := fun x => x = p ∨ x = q ∨ x = s) C2.out (.inr (.inl rfl))).then (Chg.or (D := fun x => x = p ∨ x = q ∨ x = s) C3.out.drew (.inr (.inr rfl))))
end Go.Proofs.YtdebedeebmmleaaGreatDoor
