/- Texts of the proof, one behind the other. -/
import Derived.Test.YtelpkajlejbbgaaGreatDoorTd13
import Derived.Test.YtelpkajlejbbgaaGreatDoorTd14
set_option linter.unusedVariables false
set_option linter.unusedSimpArgs false
namespace Go.Proofs.YtelpkajlejbbgaaGreatDoor
open Go.RowKit Go.Maps
def wPut : ByteArray := ⟨#[112, 117, 116]⟩
def wDel : ByteArray := ⟨#[100, 101, 108, 101, 116, 101]⟩
def wAdd : ByteArray := ⟨#[97, 100, 100]⟩
def wClr : ByteArray := ⟨#[99, 108, 101, 97, 114]⟩
/-- The message that a line's words tell. -/
def msgW (ws : List ByteArray) : Option M :=
  if isB ws wPut 2 = true then (txtB (wdA ws 1)).bind fun k => (txtB (wdA ws 2)).map fun v => ⟨1, 0, k, ⟨#[]⟩, v, 0⟩
  else if isB ws wDel 1 = true then (txtB (wdA ws 1)).map fun k => ⟨2, 0, k, ⟨#[]⟩, ⟨#[]⟩, 0⟩
  else if isB ws wAdd 2 = true then (delB (wdA ws 2)).bind fun d => (txtB (wdA ws 1)).map fun k => ⟨3, 0, k, ⟨#[]⟩, ⟨#[]⟩, d⟩
  else if isB ws wClr 2 = true then (txtB (wdA ws 1)).bind fun k => (txtB (wdA ws 2)).map fun v => ⟨4, 0, k, v, ⟨#[]⟩, 0⟩
  else none
theorem rmsg_any {B g b : Nat} {t : ByteArray} {ln : Int} {ws : List ByteArray} {w : World} (n : Nat) (hr : RB w g t ln) (hb : GB B w) (hn : ws.length = n) (hn0 : 0 < n) (hn1 : n ≤ 4000000) (hA : ES.Rd w (some ⟨b, 0, none⟩) ws) (hs : ∀ i, (wdA ws i).size ≤ 1000000) :
    Calls Tryz.prog 89 #[.pointer (some ⟨g, 0, none⟩), .slice (some ⟨b, 0, none⟩) n n] w (RN ((msgW ws).map M.v) ln w) := by
  unfold msgW
  by_cases h1 : isB ws wPut 2 = true
  · rw [if_pos h1]
    obtain rfl : n = 3 := hn.symm.trans (isB_true h1).2
    cases q1 : txtB (wdA ws 1) with
    | none => exact rput_b0 hr hb hA hs h1 q1
    | some k =>
      cases q2 : txtB (wdA ws 2) with
      | none => exact rput_b1 hr hb hA hs h1 k q1 q2
      | some v => exact rput_ok hr hb hA hs h1 k q1 v q2
  rw [if_neg h1]
  by_cases h2 : isB ws wDel 1 = true
  · rw [if_pos h2]
    obtain rfl : n = 2 := hn.symm.trans (isB_true h2).2
    cases q1 : txtB (wdA ws 1) with
    | none => exact rdel_b0 hr hb hA hs h2 q1
    | some k => exact rdel_ok hr hb hA hs h2 k q1
  rw [if_neg h2]
  by_cases h3 : isB ws wAdd 2 = true
  · rw [if_pos h3]
    obtain rfl : n = 3 := hn.symm.trans (isB_true h3).2
    cases q1 : delB (wdA ws 2) with
    | none => exact radd_b0 hr hb hA hs h3 q1
    | some d =>
      cases q2 : txtB (wdA ws 1) with
      | none => exact radd_b1 hr hb hA hs h3 d q1 q2
      | some k => exact radd_ok hr hb hA hs h3 d q1 k q2
  rw [if_neg h3]
  by_cases h4 : isB ws wClr 2 = true
  · rw [if_pos h4]
    obtain rfl : n = 3 := hn.symm.trans (isB_true h4).2
    cases q1 : txtB (wdA ws 1) with
    | none => exact rclr_b0 hr hb hA hs h4 q1
    | some k =>
      cases q2 : txtB (wdA ws 2) with
      | none => exact rclr_b1 hr hb hA hs h4 k q1 q2
      | some v => exact rclr_ok hr hb hA hs h4 k q1 v q2
  rw [if_neg h4]
  exact rmsg_none n hr hb hn hn0 hn1 hA ((Bool.not_eq_true _).mp h1) ((Bool.not_eq_true _).mp h2) ((Bool.not_eq_true _).mp h3) ((Bool.not_eq_true _).mp h4)
/-- How a reader's function ends: with something read, or a fault. -/
def RX {α : Type} (g : Nat) (w : World) (r : Except (Int × Int) (α × ByteArray × Int)) (P : α → World → Value → Prop) (e : Ending) (w' : World) : Prop :=
  match r with
  | .ok (a, t, ln) => ∃ v, e = .returned v ∧ P a w' v ∧ RB w' g t ln ∧ Chg (fun x => x = g) w w'
  | .error (ln, er) => e = .panicked [FP ln er] ∧ Chg (fun x => x = g) w w'
def batchF : Nat → ByteArray → Int → List M → Except (Int × Int) (List M × ByteArray × Int)
  | 0, t, ln, acc => .ok (acc, t, ln)
  | n + 1, t, ln, acc => match nextF t with
    | none => .error (ln + 1, 5)
    | some (ws, u) => match msgW ws with
      | none => .error (ln + 1, 3)
      | some m => batchF n u (ln + 1) (acc ++ [m])
def PB (base : Nat) (l : List M) (w' : World) (v : Value) : Prop := ∃ A c, v = .slice A l.length c ∧ EM.Row w' base A l c
theorem RE.Row.chgG {α : Type} {E : RE α} {w w' : World} {base g : Nat} {A : Option Addr} {l : List α} {c : Nat} (h : E.Row w base A l c) (hc : Chg (fun x => x = g) w w') (hg : g < base) : E.Row w' base A l c :=
  h.chg hc (fun x hx e => by have := (h.fp_lt hx).1; omega)
theorem wd_size {ws : List ByteArray} {m : Nat} (h : ∀ x ∈ ws, x.size ≤ m) (i : Nat) : (wdA ws i).size ≤ m := by
  unfold wdA
  cases e : ws[i]? with
  | none => exact Nat.zero_le _
  | some x => exact h x (List.mem_of_getElem? e)
theorem next_len {t : ByteArray} {ws : List ByteArray} {u : ByteArray} (h : nextF t = some (ws, u)) : ws.length ≤ t.size + 1 := by
  have h4 := (next_facts h).2.2.2.1
  have h5 := congrArg List.length h4
  rw [ba_len, List.length_append] at h5
  have gen : ∀ (l : List (List UInt8)), l.length ≤ (Lib.join l [32]).length + 1 := by
    intro l
    induction l with
    | nil => simp
    | cons p ps ih =>
      cases ps with
      | nil => simp
      | cons q qs =>
        rw [join_two]
        simp only [List.length_cons, List.length_append] at ih ⊢
        omega
  have := gen (ws.map (·.data.toList))
  rw [List.length_map] at this
  omega
theorem Chg.thenB {D : Nat → Prop} {w w1 w2 : World} (h : Chg D w w1) (k : Below w.heap.size w1 w2) : Chg D w w2 := ⟨k.os.trans h.os, k.tape.trans h.tape, k.output.trans h.output, Nat.le_trans h.size k.size, fun x hx hn => (k.block x hx).trans (h.block x hx hn)⟩
def MO (m : M) : Obj := .cells #[.int .u8 m.k, .int .i64 m.q, .string m.key, .string m.too, .string m.val, .int .u64 m.dl] 51
set_option maxHeartbeats 2000000 in
set_option maxRecDepth 100000 in
theorem batch_loop {B g : Nat} {t s : ByteArray} {ln : Int} {w : World} (n : Nat) (hr : RB w g t ln) (hb : GB B w) (hg : B ≤ g) (ht : t.size ≤ 1000000) (hl : 0 ≤ ln ∧ ln + t.size ≤ 4000000) (hs : s.size ≤ 1000000) (hn : numB s = some (n : Int)) (hn2 : n ≤ 2048) :
    Calls Tryz.prog 78 #[.pointer (some ⟨g, 0, none⟩), .string s] w (RX g w (batchF n t ln []) (PB w.heap.size)) := by
  have HR := Lib.hid hr
  have HG := Lib.hid hb
  have HL := Lib.hid (And.intro ht hl)
  have hgl := hr.lt
  have HGL := Lib.hid hgl
  have NB := Lib.hid (rnumber_ok hr hb (Nat.le_trans hs (by omega)) hn)
  obtain ⟨r, hrr⟩ : ∃ r, batchF n t ln [] = r := ⟨_, rfl⟩
  rw [hrr]
  have HRR := Lib.hid hrr
  have k0 : (0 : Int) ≤ (n : Int) := by omega
  have k1 : (n : Int) ≤ 2048 := by omega
  clear hr hb ht hl hs hn hrr hgl
  go_enter Tryz.func78, Tryz.ntmps78
  go_upto_region 6 with (first
    | (go_at_call 75; ((with_reducible refine NB.out.mono ?_); rintro e w1 ⟨rfl, b1⟩; have R1 := Lib.hid (HR.out.later b1); have G1 := Lib.hid (HG.out.later b1); have C1 := Lib.hid (Chg.of_below (D := fun x => x = g) b1); clear b1))
    | (go_at_call 42; ((with_reducible refine (check_ok g 3 _).mono ?_); rintro e w2 ⟨rfl, rfl⟩))
    | (go_at_call 42; ((with_reducible refine (check_ok g 4 _).mono ?_); rintro e w2 ⟨rfl, rfl⟩))
    | fail)
  go_loopw [6, 19] (fun lv iv wr => ∃ (k m : Nat) (acc : List M) (A : Option Addr) (c : Nat) (u : ByteArray) (l : Int), k + m = n ∧ iv = .int .i64 k ∧ lv = .slice A k c ∧ Hid (acc.length = k) ∧ Hid (batchF m u l acc = r) ∧ Hid (EM.Row wr w.heap.size A acc c) ∧ Hid (RB wr g u l) ∧ Hid (u.size ≤ 1000000 ∧ 0 ≤ l ∧ l + u.size ≤ 4000000) ∧ Chg (fun x => x = g) w wr) (fun _ iv _ => n - (intOf iv).toNat)
  case atStart => exact ⟨0, n, [], none, 0, t, ln, by omega, rfl, rfl, Lib.hid rfl, Lib.hid HRR.out, Lib.hid (.inl ⟨rfl, rfl⟩), Lib.hid R1.out, Lib.hid HL.out, C1.out⟩
  case round =>
    obtain ⟨k, m, acc, A, c, u, l, hkm, rfl, rfl, HK, HBF, HW, HRB, HU, hcw⟩ := hrel
    have HC := Lib.hid hcw
    clear hcw
    cases m with
    | zero =>
      obtain rfl : k = n := by omega
      have hk : ¬ (k : Int) < (k : Int) := by omega
      have HE : Hid (r = .ok (acc, u, l)) := Lib.hid HBF.out.symm
      have HKK := Lib.hid HK.out
      go_wp2
      refine bodyPost_ret (v := .slice A k c) (by simp [results, Tryz.results78, go_sem]) rfl ?_
      rw [HE.out]
      exact ⟨_, rfl, ⟨A, c, by rw [HKK.out], HW.out⟩, HRB.out, HC.out⟩
    | succ m =>
      have hk1 : (k : Int) < (n : Int) := by omega
      have hk0 : (0 : Int) ≤ (k : Int) := by omega
      have WK : IntKind.i64.wrap ((k : Int) + 1) = (k : Int) + 1 := IntWalk.i64_in _ (by omega)
      have hbw : Below w.heap.size w wr → True := fun _ => trivial
      have GW1 := Lib.hid (HG.out.chg HC.out hg)
      have hU := HU.out
      have hBF := HBF.out
      unfold batchF at hBF
      have HKM := Lib.hid hkm
      cases hnx : nextF u with
      | none =>
        rw [hnx] at hBF
        simp only at hBF
        have NX := Lib.hid (next_bad HRB.out GW1.out hg (by omega) (by omega) hnx)
        have HE : Hid (r = .error (l + 1, 5)) := Lib.hid hBF.symm
        clear hnx hBF hU hbw
        go_wp2_with (first
          | (go_at_call 41; ((with_reducible refine NX.out.mono ?_); rintro e w3 ⟨rfl, c3⟩; have C3 := Lib.hid (HC.out.then c3); clear c3))
          | fail)
        refine ⟨rfl, ?_⟩
        rw [HE.out]
        exact ⟨rfl, C3.out⟩
      | some wu =>
        obtain ⟨ws, u2⟩ := wu
        rw [hnx] at hBF
        simp only at hBF
        have NX := Lib.hid (next_ok HRB.out GW1.out hg (by omega) (by omega) hnx)
        have hF := next_facts hnx
        have hLN := next_len hnx
        have HF := Lib.hid hF
        have HLN := Lib.hid hLN
        cases hmw : msgW ws with
        | none =>
          rw [hmw] at hBF
          have HE : Hid (r = .error (l + 1, 3)) := Lib.hid hBF.symm
          have HMW := Lib.hid hmw
          clear hnx hBF hU hbw hmw hF hLN
          go_wp2_with (first
            | (go_at_call 41; ((with_reducible refine NX.out.mono ?_); rintro e w3 ⟨b3, n3, rfl, h31, h32, h33, h34, c3⟩; have C3 := Lib.hid (HC.out.then c3); have Q3 := Lib.hid (And.intro h32 (And.intro h33 h34)); have NM := Lib.hid (rmsg_any n3 h34 (HG.out.chg C3.out hg) h32 (by have := HF.out.1; omega) (by have := HLN.out; have := HU.out; omega) h33 (wd_size (fun x hx => by have := HF.out.2.2.1 x hx; have := HU.out; omega))); clear c3 h31 h32 h33 h34))
            | (go_at_call 89; ((refine NM.out.mono ?_); rintro e w4 h4; unfold RN at h4; rw [HMW.out] at h4; obtain ⟨he, b4⟩ := h4; simp only [Option.map_none] at he; subst he; have C4 := Lib.hid (C3.out.later b4); clear b4))
            | fail)
          refine ⟨rfl, ?_⟩
          rw [HE.out]
          exact ⟨rfl, C4.out⟩
        | some mv =>
          rw [hmw] at hBF
          have HB2 : Hid (batchF m u2 (l + 1) (acc ++ [mv]) = r) := Lib.hid hBF
          have HMW := Lib.hid hmw
          have HK2 := Lib.hid (show k ≤ 1000000 by omega)
          clear hnx hBF hU hbw hmw hF hLN
          go_wp2_with (first
            | (go_at_call 41; ((with_reducible refine NX.out.mono ?_); rintro e w3 ⟨b3, n3, rfl, h31, h32, h33, h34, c3⟩; have C3 := Lib.hid (HC.out.then c3); have R3 := Lib.hid h34; have W3 := Lib.hid (HW.out.chgG c3 HGL.out); have NM := Lib.hid (rmsg_any n3 h34 (HG.out.chg C3.out hg) h32 (by have := HF.out.1; omega) (by have := HLN.out; have := HU.out; omega) h33 (wd_size (fun x hx => by have := HF.out.2.2.1 x hx; have := HU.out; omega))); clear c3 h31 h32 h33 h34))
            | (go_at_call 89; ((refine NM.out.mono ?_); rintro e w4 h4; unfold RN at h4; rw [HMW.out] at h4; obtain ⟨he, b4⟩ := h4; simp only [Option.map_some, M.v] at he; subst he; have C4 := Lib.hid (C3.out.later (bel_alloc b4 (MO mv))); have R4 := Lib.hid (R3.out.later (bel_alloc b4 (MO mv))); have W4 := Lib.hid (W3.out.later (bel_alloc b4 (MO mv))); have V4 := Lib.hid (RE.Rd.lit (E := EM) w4 51 [mv] #[.int .u8 mv.k, .int .i64 mv.q, .string mv.key, .string mv.too, .string mv.val, .int .u64 mv.dl] rfl); clear b4))
            | (at_builtin; refine RE.wpList_put EM _ rfl (.tmp 21) (.tmp 26) rfl (base := w.heap.size) A k c _ _ 1 1 [mv] rfl rfl W4.out HK.out HK2.out C4.out.size rfl (by omega) V4.out ?_; intro A3 c3 w5 r1 r2 r3; have R5 := Lib.hid r1; have Q5 := Lib.hid r2; clear r1 r2 r3)
            | fail)
          have B5 := Lib.hid (RE.Row.below (lo := w.heap.size) Q5.out W4.out (Nat.le_refl _) C4.out.size)
          exact ⟨⟨k + 1, m, acc ++ [mv], A3, c3, u2, l + 1, by have := HKM.out; omega, rfl, rfl, Lib.hid (by rw [List.length_append, HK.out]; rfl), HB2, R5, Lib.hid (show RB w5 g u2 (l + 1) from (B5.out.block g HGL.out).trans R4.out), Lib.hid (by have := HF.out.2.1; have := HU.out; omega), C4.out.thenB B5.out⟩, by simp [intOf]; omega⟩
end Go.Proofs.YtelpkajlejbbgaaGreatDoor
namespace Go.Proofs.YtelpkajlejbbgaaGreatDoor
open Go.RowKit Go.Maps
def wGet : ByteArray := ⟨#[103, 101, 116]⟩
def wLook : ByteArray := ⟨#[108, 111, 111, 107]⟩
def wOpen : ByteArray := ⟨#[111, 112, 101, 110]⟩
def wNext : ByteArray := ⟨#[110, 101, 120, 116]⟩
def wClose : ByteArray := ⟨#[99, 108, 111, 115, 101]⟩
def wSend : ByteArray := ⟨#[115, 101, 110, 100]⟩
/-- A script's operation. -/
structure OpV where
  k : Int
  key : ByteArray
  too : ByteArray
  n : Int
  ms : List M
def OpV.v (o : OpV) (A : Option Addr) (c : Nat) : Value := .agg #[.int .u8 o.k, .string o.key, .string o.too, .int .i64 o.n, .slice A o.ms.length c]
def PO (base : Nat) (o : OpV) (w' : World) (v : Value) : Prop := ∃ A c, v = o.v A c ∧ EM.Row w' base A o.ms c
def opW (ws : List ByteArray) : Option OpV :=
  if isB ws wGet 1 = true then (txtB (wdA ws 1)).map fun k => ⟨1, k, ⟨#[]⟩, 0, []⟩
  else if isB ws wLook 3 = true then (txtB (wdA ws 1)).bind fun k => (txtB (wdA ws 2)).bind fun t => (numB (wdA ws 3)).map fun n => ⟨3, k, t, n, []⟩
  else if isB ws wOpen 2 = true then (txtB (wdA ws 1)).bind fun k => (txtB (wdA ws 2)).map fun t => ⟨4, k, t, 0, []⟩
  else if isB ws wNext 1 = true then (numB (wdA ws 1)).map fun n => ⟨5, ⟨#[]⟩, ⟨#[]⟩, n, []⟩
  else if isB ws wClose 1 = true then (numB (wdA ws 1)).map fun n => ⟨6, ⟨#[]⟩, ⟨#[]⟩, n, []⟩
  else none
def batchR (s t : ByteArray) (ln : Int) : Except (Int × Int) (List M × ByteArray × Int) := match numB s with
  | none => .error (ln, 3)
  | some n => if n < 0 then .error (ln, 3) else if 2048 < n then .error (ln, 4) else batchF n.toNat t ln []
def opF (ws : List ByteArray) (t : ByteArray) (ln : Int) : Except (Int × Int) (OpV × ByteArray × Int) :=
  if isB ws wSend 1 = true then (match batchR (wdA ws 1) t ln with
    | .error e => .error e
    | .ok (ms, u, l) => .ok (⟨2, ⟨#[]⟩, ⟨#[]⟩, 0, ms⟩, u, l))
  else match opW ws with
    | none => .error (ln, 3)
    | some o => .ok (o, t, ln)
set_option maxHeartbeats 1000000 in
set_option maxRecDepth 100000 in
theorem rbatch_any {B g : Nat} {t s : ByteArray} {ln : Int} {w : World} (hr : RB w g t ln) (hb : GB B w) (hg : B ≤ g) (ht : t.size ≤ 1000000) (hl : 0 ≤ ln ∧ ln + t.size ≤ 4000000) (hs : s.size ≤ 1000000) :
    Calls Tryz.prog 78 #[.pointer (some ⟨g, 0, none⟩), .string s] w (RX g w (batchR s t ln) (PB w.heap.size)) := by
  unfold batchR
  cases hn : numB s with
  | none =>
    have NB := Lib.hid (rnumber_bad hr hb (Nat.le_trans hs (by omega)) hn)
    clear hr hb
    go_enter Tryz.func78, Tryz.ntmps78
    go_wp2_with (first
      | (go_at_call 75; ((with_reducible refine NB.out.mono ?_); rintro e w1 ⟨rfl, b1⟩; have C1 := Lib.hid (Chg.of_below (D := fun x => x = g) b1); clear b1))
      | fail)
    exact ⟨rfl, rfl, C1.out⟩
  | some n =>
    have NB := Lib.hid (rnumber_ok hr hb (Nat.le_trans hs (by omega)) hn)
    simp only
    by_cases h0 : n < 0
    · rw [if_pos h0]
      have HR := Lib.hid hr
      have k0 : decide ((0 : Int) ≤ n) = false := by simpa using h0
      clear hr hb
      go_enter Tryz.func78, Tryz.ntmps78
      go_wp2_with (first
        | (go_at_call 75; ((with_reducible refine NB.out.mono ?_); rintro e w1 ⟨rfl, b1⟩; have R1 := Lib.hid (HR.out.later b1); have C1 := Lib.hid (Chg.of_below (D := fun x => x = g) b1); clear b1))
        | (go_at_call 42; ((with_reducible refine (check_bad g 3 _ R1.out).mono ?_); rintro e w2 ⟨rfl, rfl⟩))
        | fail)
      exact ⟨rfl, rfl, C1.out⟩
    · rw [if_neg h0]
      by_cases h1 : 2048 < n
      · rw [if_pos h1]
        have HR := Lib.hid hr
        have k0 : (0 : Int) ≤ n := by omega
        have k1 : decide (n ≤ (2048 : Int)) = false := by simpa using h1
        clear hr hb
        go_enter Tryz.func78, Tryz.ntmps78
        go_wp2_with (first
          | (go_at_call 75; ((with_reducible refine NB.out.mono ?_); rintro e w1 ⟨rfl, b1⟩; have R1 := Lib.hid (HR.out.later b1); have C1 := Lib.hid (Chg.of_below (D := fun x => x = g) b1); clear b1))
          | (go_at_call 42; ((with_reducible refine (check_ok g 3 _).mono ?_); rintro e w2 ⟨rfl, rfl⟩))
          | (go_at_call 42; ((with_reducible refine (check_bad g 4 _ R1.out).mono ?_); rintro e w2 ⟨rfl, rfl⟩))
          | fail)
        exact ⟨rfl, rfl, C1.out⟩
      · rw [if_neg h1]
        have e : n = ((n.toNat : Nat) : Int) := by omega
        exact batch_loop n.toNat hr hb hg ht hl hs (by rw [hn]; congr 1) (by omega)
set_option maxHeartbeats 1000000 in
set_option maxRecDepth 100000 in
theorem rop_send {B g b : Nat} {t : ByteArray} {ln : Int} {ws : List ByteArray} {w : World} (hr : RB w g t ln) (hb : GB B w) (hg : B ≤ g) (ht : t.size ≤ 1000000) (hl : 0 ≤ ln ∧ ln + t.size ≤ 4000000) (hA : ES.Rd w (some ⟨b, 0, none⟩) ws) (hs : ∀ i, (wdA ws i).size ≤ 1000000) (hi : isB ws ⟨#[115, 101, 110, 100]⟩ 1 = true) :
    Calls Tryz.prog 64 #[.pointer (some ⟨g, 0, none⟩), .slice (some ⟨b, 0, none⟩) 2 2] w (RX g w (opF ws t ln) (PO w.heap.size)) := by
  have HO := Lib.hid (show opF ws t ln = (match batchR (wdA ws 1) t ln with
    | .error e => .error e
    | .ok (ms, u, l) => .ok (⟨2, ⟨#[]⟩, ⟨#[]⟩, 0, ms⟩, u, l)) by unfold opF; rw [if_pos (show isB ws wSend 1 = true from hi)])
  obtain ⟨r, hrr⟩ : ∃ r, opF ws t ln = r := ⟨_, rfl⟩
  rw [hrr] at HO ⊢
  clear hrr
  have hn : ws.length = 2 := (isB_true hi).2
  have hz0 := hs 1
  have hbl := rd_lt hA (by omega)
  have hgl := hr.lt
  have hBw := hb.le
  obtain ⟨W0, hW0⟩ : ∃ W0, W0 = (w.alloc (.cells #[.slice (some ⟨b, 0, none⟩) 2 2] 83)).alloc (.cells #[.int .u8 0, .string ⟨#[]⟩, .string ⟨#[]⟩, .int .i64 0, .slice none 0 0] 47) := ⟨_, rfl⟩
  have HB0 := Lib.hid (show Below w.heap.size w W0 by rw [hW0]; exact bel_alloc (alb w _) _)
  have HSZ := Lib.hid (show W0.heap.size = w.heap.size + 2 by rw [hW0]; simp)
  have ZB := Lib.hid (show W0.heap[w.heap.size]? = some (.cells #[.slice (some ⟨b, 0, none⟩) 2 2] 83) by rw [hW0]; exact keep_bel (alb _ _) (heap_alloc_new w _))
  have ZR := Lib.hid (show W0.heap[w.heap.size + 1]? = some (.cells #[.int .u8 0, .string ⟨#[]⟩, .string ⟨#[]⟩, .int .i64 0, .slice none 0 0] 47) by rw [hW0]; have := heap_alloc_new (w.alloc (.cells #[.slice (some ⟨b, 0, none⟩) 2 2] 83)) (.cells #[.int .u8 0, .string ⟨#[]⟩, .string ⟨#[]⟩, .int .i64 0, .slice none 0 0] 47); simpa using this)
  have HA0 := Lib.hid (hA.later HB0.out)
  have IS0 := Lib.hid (is76 ⟨#[103, 101, 116]⟩ 1 1 rfl w.heap.size b 2 ws W0 (by omega) hn (by omega) (by omega) (cellh ZB.out rfl) HA0.out)
  rw [isB_other hi (by decide)] at IS0
  have IS1 := Lib.hid (is76 ⟨#[108, 111, 111, 107]⟩ 3 3 rfl w.heap.size b 2 ws W0 (by omega) hn (by omega) (by omega) (cellh ZB.out rfl) HA0.out)
  rw [isB_other hi (by decide)] at IS1
  have IS2 := Lib.hid (is76 ⟨#[111, 112, 101, 110]⟩ 2 2 rfl w.heap.size b 2 ws W0 (by omega) hn (by omega) (by omega) (cellh ZB.out rfl) HA0.out)
  rw [isB_other hi (by decide)] at IS2
  have IS3 := Lib.hid (is76 ⟨#[110, 101, 120, 116]⟩ 1 1 rfl w.heap.size b 2 ws W0 (by omega) hn (by omega) (by omega) (cellh ZB.out rfl) HA0.out)
  rw [isB_other hi (by decide)] at IS3
  have IS4 := Lib.hid (is76 ⟨#[99, 108, 111, 115, 101]⟩ 1 1 rfl w.heap.size b 2 ws W0 (by omega) hn (by omega) (by omega) (cellh ZB.out rfl) HA0.out)
  rw [isB_other hi (by decide)] at IS4
  have IS9 := Lib.hid (is76 ⟨#[115, 101, 110, 100]⟩ 1 1 rfl w.heap.size b 2 ws W0 (by omega) hn (by omega) (by omega) (cellh ZB.out rfl) HA0.out)
  rw [hi] at IS9
  have BA := Lib.hid (rbatch_any (hr.later HB0.out) (hb.later HB0.out) hg ht hl hz0)
  have hw1 := wd_cell HA0.out (i := 1) (by omega)
  obtain ⟨x1, hx1⟩ : ∃ x, wdA ws 1 = x := ⟨_, rfl⟩
  rw [hx1] at hw1 BA HO
  have hbx : W0.cell? ⟨w.heap.size, 0, none⟩ = some (.slice (some ⟨b, 0, none⟩) 2 2) := cellh ZB.out rfl
  have HGL := Lib.hid hgl
  have HC0 := Lib.hid (Chg.of_below (D := fun x => x = g) HB0.out)
  clear hr hb ht hl hA hs hi hn hz0 hbl hgl hBw hx1
  obtain ⟨br, hbr⟩ : ∃ br, batchR x1 t ln = br := ⟨_, rfl⟩
  rw [hbr] at BA HO
  clear hbr
  go_enter Tryz.func64, Tryz.ntmps64
  go_upto_region 2 with fail
  rw [← hW0]
  clear hW0
  cases br with
  | error er =>
    obtain ⟨l2, e2⟩ := er
    have HE : Hid (r = .error (l2, e2)) := Lib.hid HO.out
    go_wp2_with (first
      | (go_at_call 76; ((with_reducible refine IS0.out.mono ?_); rintro e w0 ⟨rfl, rfl⟩))
      | (go_at_call 76; ((with_reducible refine IS1.out.mono ?_); rintro e w0 ⟨rfl, rfl⟩))
      | (go_at_call 76; ((with_reducible refine IS2.out.mono ?_); rintro e w0 ⟨rfl, rfl⟩))
      | (go_at_call 76; ((with_reducible refine IS3.out.mono ?_); rintro e w0 ⟨rfl, rfl⟩))
      | (go_at_call 76; ((with_reducible refine IS4.out.mono ?_); rintro e w0 ⟨rfl, rfl⟩))
      | (go_at_call 76; ((with_reducible refine IS9.out.mono ?_); rintro e w0 ⟨rfl, rfl⟩))
      | (go_at_call 42; ((with_reducible refine (check_ok g 3 _).mono ?_); rintro e w0 ⟨rfl, rfl⟩))
      | (go_at_call 78; ((with_reducible refine BA.out.mono ?_); rintro e v0 ⟨rfl, cc⟩; have C1 := Lib.hid (HC0.out.then cc); clear cc))
      | fail)
    refine ⟨rfl, ?_⟩
    rw [HE.out]
    exact ⟨rfl, C1.out⟩
  | ok q =>
    obtain ⟨ms, u, l⟩ := q
    have HE : Hid (r = .ok (⟨2, ⟨#[]⟩, ⟨#[]⟩, 0, ms⟩, u, l)) := Lib.hid HO.out
    go_wp2_with (first
      | (go_at_call 76; ((with_reducible refine IS0.out.mono ?_); rintro e w0 ⟨rfl, rfl⟩))
      | (go_at_call 76; ((with_reducible refine IS1.out.mono ?_); rintro e w0 ⟨rfl, rfl⟩))
      | (go_at_call 76; ((with_reducible refine IS2.out.mono ?_); rintro e w0 ⟨rfl, rfl⟩))
      | (go_at_call 76; ((with_reducible refine IS3.out.mono ?_); rintro e w0 ⟨rfl, rfl⟩))
      | (go_at_call 76; ((with_reducible refine IS4.out.mono ?_); rintro e w0 ⟨rfl, rfl⟩))
      | (go_at_call 76; ((with_reducible refine IS9.out.mono ?_); rintro e w0 ⟨rfl, rfl⟩))
      | (go_at_call 42; ((with_reducible refine (check_ok g 3 _).mono ?_); rintro e w0 ⟨rfl, rfl⟩))
      | (go_at_call 78; ((with_reducible refine BA.out.mono ?_); rintro e v0 ⟨v, rfl, ⟨A, c, rfl, hrow⟩, hrb, cc⟩; have C1 := Lib.hid (HC0.out.then cc); have R1 := Lib.hid hrb; have W1 := Lib.hid hrow; have Z1 := Lib.hid (cc.keep ZR.out (by show ¬ w.heap.size + 1 = g; have := HGL.out; omega)); have S1 := Lib.hid cc.size; obtain ⟨c0, c1, c2, c3, c4⟩ := cells5 Z1.out; obtain ⟨f0, f1, f2, f3, f4⟩ := froz5 Z1.out; clear cc hrow hrb))
      | fail)
    try go_wp2
    have ZF := Lib.hid (set5w Z1.out (.int .u8 2) (.string ⟨#[]⟩) (.string ⟨#[]⟩) (.int .i64 0) (.slice A ms.length c))
    have CF := Lib.hid (chg5 v0 (w.heap.size + 1) (.int .u8 2) (.string ⟨#[]⟩) (.string ⟨#[]⟩) (.int .i64 0) (.slice A ms.length c))
    obtain ⟨WF, hWF⟩ : ∃ WF, WF = (((((v0.setCell ⟨w.heap.size + 1, 0, none⟩ (.int .u8 2)).setCell ⟨w.heap.size + 1, 1, none⟩ (.string ⟨#[]⟩)).setCell ⟨w.heap.size + 1, 2, none⟩ (.string ⟨#[]⟩)).setCell ⟨w.heap.size + 1, 3, none⟩ (.int .i64 0)).setCell ⟨w.heap.size + 1, 4, none⟩ (.slice A ms.length c)) := ⟨_, rfl⟩
    rw [← hWF] at ZF CF ⊢
    clear hWF
    obtain ⟨k0, k1, k2, k3, k4⟩ := cells5 ZF.out
    refine bodyPost_ret (v := .agg #[.int .u8 2, .string ⟨#[]⟩, .string ⟨#[]⟩, .int .i64 0, .slice A ms.length c]) (by simp [results, Tryz.results64, go_sem, k0, k1, k2, k3, k4]) rfl ?_
    rw [HE.out]
    have hsz := HSZ.out
    exact ⟨_, rfl, ⟨A, c, rfl, (W1.out.chgG CF.out (by omega)).base (by omega)⟩, CF.out.keep R1.out (by show ¬ g = w.heap.size + 1; have := HGL.out; omega), C1.out.trans CF.out (fun x hx => .inr (by omega))⟩
theorem rop_any {B g b : Nat} {t : ByteArray} {ln : Int} {ws : List ByteArray} {w : World} (n : Nat) (hr : RB w g t ln) (hb : GB B w) (hg : B ≤ g) (ht : t.size ≤ 1000000) (hl : 0 ≤ ln ∧ ln + t.size ≤ 4000000) (hn : ws.length = n) (hn0 : 0 < n) (hn1 : n ≤ 4000000) (hA : ES.Rd w (some ⟨b, 0, none⟩) ws) (hs : ∀ i, (wdA ws i).size ≤ 1000000) :
    Calls Tryz.prog 64 #[.pointer (some ⟨g, 0, none⟩), .slice (some ⟨b, 0, none⟩) n n] w (RX g w (opF ws t ln) (PO w.heap.size)) := by
  by_cases h9 : isB ws wSend 1 = true
  · obtain rfl : n = 2 := hn.symm.trans (isB_true h9).2
    exact rop_send hr hb hg ht hl hA hs h9
  have key : Calls Tryz.prog 64 #[.pointer (some ⟨g, 0, none⟩), .slice (some ⟨b, 0, none⟩) n n] w (RN ((opW ws).map (fun o => o.v none 0)) ln w) := by
    unfold opW
    by_cases h0 : isB ws wGet 1 = true
    · rw [if_pos h0]
      obtain rfl : n = 2 := hn.symm.trans (isB_true h0).2
      cases q0 : txtB (wdA ws 1) with
      | none => exact rget_b0 hr hb hA hs h0 q0
      | some k0 =>
        exact rget_ok hr hb hA hs h0 k0 q0 
    rw [if_neg h0]
    by_cases h1 : isB ws wLook 3 = true
    · rw [if_pos h1]
      obtain rfl : n = 4 := hn.symm.trans (isB_true h1).2
      cases q0 : txtB (wdA ws 1) with
      | none => exact rlook_b0 hr hb hA hs h1 q0
      | some k0 =>
        cases q1 : txtB (wdA ws 2) with
        | none => exact rlook_b1 hr hb hA hs h1 k0 q0 q1
        | some k1 =>
          cases q2 : numB (wdA ws 3) with
          | none => exact rlook_b2 hr hb hA hs h1 k0 q0 k1 q1 q2
          | some k2 =>
            exact rlook_ok hr hb hA hs h1 k0 q0 k1 q1 k2 q2 
    rw [if_neg h1]
    by_cases h2 : isB ws wOpen 2 = true
    · rw [if_pos h2]
      obtain rfl : n = 3 := hn.symm.trans (isB_true h2).2
      cases q0 : txtB (wdA ws 1) with
      | none => exact ropn_b0 hr hb hA hs h2 q0
      | some k0 =>
        cases q1 : txtB (wdA ws 2) with
        | none => exact ropn_b1 hr hb hA hs h2 k0 q0 q1
        | some k1 =>
          exact ropn_ok hr hb hA hs h2 k0 q0 k1 q1 
    rw [if_neg h2]
    by_cases h3 : isB ws wNext 1 = true
    · rw [if_pos h3]
      obtain rfl : n = 2 := hn.symm.trans (isB_true h3).2
      cases q0 : numB (wdA ws 1) with
      | none => exact rnxt_b0 hr hb hA hs h3 q0
      | some k0 =>
        exact rnxt_ok hr hb hA hs h3 k0 q0 
    rw [if_neg h3]
    by_cases h4 : isB ws wClose 1 = true
    · rw [if_pos h4]
      obtain rfl : n = 2 := hn.symm.trans (isB_true h4).2
      cases q0 : numB (wdA ws 1) with
      | none => exact rcls_b0 hr hb hA hs h4 q0
      | some k0 =>
        exact rcls_ok hr hb hA hs h4 k0 q0 
    rw [if_neg h4]
    exact rop_none n hr hb hn hn0 hn1 hA ((Bool.not_eq_true _).mp h0) ((Bool.not_eq_true _).mp h1) ((Bool.not_eq_true _).mp h2) ((Bool.not_eq_true _).mp h3) ((Bool.not_eq_true _).mp h4) ((Bool.not_eq_true _).mp h9)
  have nobatch : ∀ o, opW ws = some o → o.ms = [] := by
    intro o ho
    unfold opW at ho
    repeat' split at ho
    · obtain ⟨k, _, rfl⟩ := Option.map_eq_some_iff.1 ho; rfl
    · obtain ⟨k, _, ho⟩ := Option.bind_eq_some_iff.1 ho
      obtain ⟨k2, _, ho⟩ := Option.bind_eq_some_iff.1 ho
      obtain ⟨k3, _, rfl⟩ := Option.map_eq_some_iff.1 ho; rfl
    · obtain ⟨k, _, ho⟩ := Option.bind_eq_some_iff.1 ho
      obtain ⟨k3, _, rfl⟩ := Option.map_eq_some_iff.1 ho; rfl
    · obtain ⟨k, _, rfl⟩ := Option.map_eq_some_iff.1 ho; rfl
    · obtain ⟨k, _, rfl⟩ := Option.map_eq_some_iff.1 ho; rfl
    · cases ho
  refine key.mono fun e w' h => ?_
  unfold opF
  rw [if_neg h9]
  unfold RN at h
  cases ho : opW ws with
  | none =>
    rw [ho] at h
    exact ⟨h.1, Chg.of_below h.2⟩
  | some o =>
    rw [ho] at h
    have hm := nobatch o ho
    exact ⟨_, h.1, ⟨none, 0, rfl, .inl ⟨hm, rfl⟩⟩, hr.later h.2, Chg.of_below h.2⟩
end Go.Proofs.YtelpkajlejbbgaaGreatDoor
