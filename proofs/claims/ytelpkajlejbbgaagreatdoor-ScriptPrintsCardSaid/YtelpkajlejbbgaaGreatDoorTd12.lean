/- Texts of the proof, one behind the other. -/
import Derived.Test.YtelpkajlejbbgaaGreatDoorTd04
set_option linter.unusedVariables false
set_option linter.unusedSimpArgs false
namespace Go.Proofs.YtelpkajlejbbgaaGreatDoor
open Go.RowKit Go.Maps
theorem cut_any (t : ByteArray) (ht : t.size ≤ 4000000) (w : World) (h : GW w) :
    Calls Tryz.prog 65 #[.string t, .string NL] w fun e w' => e = .returned (.tuple #[.string ⟨(Lib.cut t.data.toList [10]).1.toArray⟩, .string ⟨(Lib.cut t.data.toList [10]).2.1.toArray⟩, .bool (Lib.cut t.data.toList [10]).2.2]) ∧ Below w.heap.size w w' := by
  obtain ⟨m, hm⟩ := h.mx
  refine (sh_strings_Cut t NL m w (by omega) hm).mono fun e w' ⟨h1, n, h2⟩ => ⟨h1, ?_⟩
  rw [h2]; exact bel_drewN (Below.refl _ _) n
theorem split_any (t : ByteArray) (ht : t.size ≤ 4000000) (w : World) (h : GW w) :
    Calls Tryz.prog 66 #[.string t, .string SP] w fun e w' => ∃ b n, e = .returned (.slice (some ⟨b, 0, none⟩) n n) ∧ w.heap.size ≤ b ∧ (splitW t).length = n ∧ ES.Rd w' (some ⟨b, 0, none⟩) (splitW t) ∧ Below w.heap.size w w' := by
  obtain ⟨m, hm⟩ := h.mx
  refine (sh_strings_Split t SP m w (by omega) hm (by decide)).mono fun e w' ⟨h1, h2⟩ => ⟨_, _, h1, Nat.le_refl _, split_len t, ?_, ?_⟩
  · rw [h2]; exact RE.Rd.lit (E := ES) w 9 (splitW t) _ (by rw [es_all]; rfl)
  · rw [h2]; exact alb _ _
/-- The words of the next line, and what is left behind it. -/
def nextF (t : ByteArray) : Option (List ByteArray × ByteArray) :=
  if (Lib.cut t.data.toList [10]).2.2 then some (splitW ⟨(Lib.cut t.data.toList [10]).1.toArray⟩, ⟨(Lib.cut t.data.toList [10]).2.1.toArray⟩) else none
theorem next_facts {t : ByteArray} {ws : List ByteArray} {u : ByteArray} (h : nextF t = some (ws, u)) : 0 < ws.length ∧ u.size < t.size ∧ (∀ x ∈ ws, x.size ≤ t.size) ∧ t.data.toList = Lib.join (ws.map (·.data.toList)) [32] ++ 10 :: u.data.toList ∧ (10 : UInt8) ∉ Lib.join (ws.map (·.data.toList)) [32] := by
  unfold nextF at h
  split at h
  · rename_i hc
    rcases cut_cases 10 t.data.toList with ⟨h1, _⟩ | ⟨_, h2, h3⟩
    · rw [h1] at hc; cases hc
    · obtain ⟨⟨a, b, o⟩, he⟩ : ∃ z, Lib.cut t.data.toList [10] = z := ⟨_, rfl⟩
      rw [he] at h h2 h3
      simp only at h h2 h3
      cases h
      have hl := congrArg List.length h2
      rw [ba_len, List.length_append, List.length_cons] at hl
      refine ⟨split_ne _, by rw [ba_size]; omega, fun x hx => ?_, ?_, ?_⟩
      · have h5 := split_sz SP _ _ x hx
        have h6 := ba_size a
        omega
      · rw [split_back, ba_list, ba_list]; exact h2
      · rw [split_back, ba_list]; exact h3
  · cases h
set_option maxHeartbeats 1000000 in
set_option maxRecDepth 100000 in
theorem next_ok {B g : Nat} {t : ByteArray} {ln : Int} {w : World} {ws : List ByteArray} {u : ByteArray} (hr : RB w g t ln) (hb : GB B w) (hg : B ≤ g) (ht : t.size ≤ 4000000) (hl : 0 ≤ ln ∧ ln ≤ 100000000) (hn : nextF t = some (ws, u)) :
    Calls Tryz.prog 41 #[.pointer (some ⟨g, 0, none⟩)] w fun e w' => ∃ b n, e = .returned (.slice (some ⟨b, 0, none⟩) n n) ∧ w.heap.size ≤ b ∧ ws.length = n ∧ ES.Rd w' (some ⟨b, 0, none⟩) ws ∧ RB w' g u (ln + 1) ∧ Chg (fun x => x = g) w w' := by
  have WL : IntKind.i64.wrap (ln + 1) = ln + 1 := IntWalk.i64_in _ (by omega)
  have HT := Lib.hid ht
  have c0 := hr.c0
  have c1 := hr.c1
  have f1 := hr.fr 1
  have R1 := Lib.hid (hr.set1 (ln + 1))
  have C1 := Lib.hid (Chg.set (D := fun x => x = g) w (l := g) (o := 1) (.int .i64 (ln + 1)) rfl)
  have G1 := Lib.hid (hb.chg C1.out hg)
  have hlt := hr.lt
  unfold nextF at hn
  obtain ⟨⟨a, b, o⟩, he⟩ : ∃ z, Lib.cut t.data.toList [10] = z := ⟨_, rfl⟩
  rw [he] at hn
  cases o with
  | false => simp at hn
  | true =>
    simp only [if_true] at hn
    cases hn
    have hcs := cut_cases 10 t.data.toList
    rw [he] at hcs
    have hsz : a.length ≤ 4000000 := by
      rcases hcs with ⟨h1, _⟩ | ⟨_, h2, _⟩
      · cases h1
      · have h5 : t.data.toList = a ++ 10 :: b := h2
        have h6 := congrArg List.length h5
        rw [ba_len, List.length_append] at h6; omega
    obtain ⟨T1, hT1⟩ : ∃ T1 : ByteArray, T1 = ⟨a.toArray⟩ := ⟨_, rfl⟩
    obtain ⟨T2, hT2⟩ : ∃ T2 : ByteArray, T2 = ⟨b.toArray⟩ := ⟨_, rfl⟩
    rw [← hT1, ← hT2]
    have HS1 : Hid (T1.size ≤ 4000000) := Lib.hid (by rw [hT1, ba_size]; exact hsz)
    obtain ⟨w1, hw1⟩ : ∃ w1, w1 = w.setCell ⟨g, 1, none⟩ (.int .i64 (ln + 1)) := ⟨_, rfl⟩
    rw [← hw1] at R1 C1 G1
    have CU := Lib.hid (cut_any t ht w1 G1.out.gw)
    rw [he] at CU
    simp only at CU
    rw [← hT1, ← hT2] at CU
    have d0 := R1.out.c0
    have HLT := Lib.hid hlt
    clear hT1 hT2 hcs hsz he hr hb ht hl hlt
    go_enter Tryz.func41, Tryz.ntmps41
    go_upto_region 2 with fail
    rw [← hw1]
    clear hw1 c0 c1 f1
    go_wp2_with (first
      | (go_at_call 65; ((refine CU.out.mono ?_); rintro e w2 ⟨rfl, b2⟩; have R2 := Lib.hid (R1.out.later b2); have C2 := Lib.hid (C1.out.later b2); have G2 := Lib.hid (G1.out.later b2); clear b2))
      | (go_at_call 42; ((refine (check_ok g 5 _).mono ?_); rintro e w3 ⟨rfl, rfl⟩; have c0 := R2.out.c0; have f0 := R2.out.fr 0; have R3 := Lib.hid (R2.out.set0 T2); have C3 := Lib.hid (C2.out.then (Chg.set (D := fun x => x = g) _ (l := g) (o := 0) (.string T2) rfl)); have G3 := Lib.hid (G2.out.chg (Chg.set (D := fun x => x = g) _ (l := g) (o := 0) (.string T2) rfl) hg)))
      | (go_at_call 66; ((refine (split_any T1 HS1.out _ G3.out.gw).mono ?_); rintro e w4 ⟨b4, n4, rfl, h41, h42, h43, h44⟩; have Q4 := Lib.hid (And.intro h41 (And.intro h42 (And.intro h43 h44))); clear h41 h42 h43 h44))
      | fail)
    go_ret
    obtain ⟨h41, h42, h43, h44⟩ := Q4.out
    exact ⟨b4, n4, rfl, Nat.le_trans C3.out.size h41, h42, h43, R3.out.later h44, C3.out.later h44⟩
set_option maxHeartbeats 1000000 in
set_option maxRecDepth 100000 in
theorem next_bad {B g : Nat} {t : ByteArray} {ln : Int} {w : World} (hr : RB w g t ln) (hb : GB B w) (hg : B ≤ g) (ht : t.size ≤ 4000000) (hl : 0 ≤ ln ∧ ln ≤ 100000000) (hn : nextF t = none) :
    Calls Tryz.prog 41 #[.pointer (some ⟨g, 0, none⟩)] w fun e w' => e = .panicked [FP (ln + 1) 5] ∧ Chg (fun x => x = g) w w' := by
  have WL : IntKind.i64.wrap (ln + 1) = ln + 1 := IntWalk.i64_in _ (by omega)
  have c0 := hr.c0
  have c1 := hr.c1
  have f1 := hr.fr 1
  have R1 := Lib.hid (hr.set1 (ln + 1))
  have C1 := Lib.hid (Chg.set (D := fun x => x = g) w (l := g) (o := 1) (.int .i64 (ln + 1)) rfl)
  have G1 := Lib.hid (hb.chg C1.out hg)
  have ho : (Lib.cut t.data.toList [10]).2.2 = false := by
    cases e : (Lib.cut t.data.toList [10]).2.2 with
    | false => rfl
    | true => unfold nextF at hn; rw [if_pos e] at hn; cases hn
  obtain ⟨w1, hw1⟩ : ∃ w1, w1 = w.setCell ⟨g, 1, none⟩ (.int .i64 (ln + 1)) := ⟨_, rfl⟩
  rw [← hw1] at R1 C1 G1
  have CU := Lib.hid (cut_any t ht w1 G1.out.gw)
  rw [ho] at CU
  have d0 := R1.out.c0
  clear hr hb ht hl hn ho
  go_enter Tryz.func41, Tryz.ntmps41
  go_upto_region 2 with fail
  rw [← hw1]
  clear hw1 c0 c1 f1
  go_wp2_with (first
    | (go_at_call 65; ((refine CU.out.mono ?_); rintro e w2 ⟨rfl, b2⟩; have R2 := Lib.hid (R1.out.later b2); have C2 := Lib.hid (C1.out.later b2); clear b2))
    | (go_at_call 42; ((refine (check_bad g 5 _ R2.out).mono ?_); rintro e w3 ⟨rfl, rfl⟩))
    | fail)
  exact ⟨rfl, rfl, C2.out⟩
/-- What a word is, or a fault. -/
def RN (v : Option Value) (ln : Int) (w : World) (e : Ending) (w' : World) : Prop :=
  (match v with
    | some x => e = .returned x
    | none => e = .panicked [FP ln 3]) ∧ Below w.heap.size w w'
set_option maxHeartbeats 1000000 in
set_option maxRecDepth 100000 in
theorem rnumber_any {B g : Nat} {t s : ByteArray} {ln : Int} {w : World} (hr : RB w g t ln) (hb : GB B w) (hs : s.size ≤ 4000000) :
    Calls Tryz.prog 75 #[.pointer (some ⟨g, 0, none⟩), .string s] w (RN ((numB s).map (Value.int .i64)) ln w) := by
  have NA := Lib.hid (number_any s (by omega) w hb.gw)
  have HR := Lib.hid hr
  clear hr hb
  unfold numV at NA
  cases hn : numB s with
  | none =>
    rw [hn] at NA
    clear hn
    go_enter Tryz.func75, Tryz.ntmps75
    go_wp2_with (first
      | (go_at_call 88; ((refine NA.out.mono ?_); rintro e w1 ⟨rfl, b1⟩; have R1 := Lib.hid (HR.out.later b1); have B1 := Lib.hid b1; clear b1))
      | (go_at_call 42; ((refine (check_bad g 3 _ R1.out).mono ?_); rintro e w2 ⟨rfl, rfl⟩))
      | fail)
    exact ⟨rfl, rfl, B1.out⟩
  | some v =>
    rw [hn] at NA
    clear hn
    go_enter Tryz.func75, Tryz.ntmps75
    go_wp2_with (first
      | (go_at_call 88; ((refine NA.out.mono ?_); rintro e w1 ⟨rfl, b1⟩; have R1 := Lib.hid (HR.out.later b1); have B1 := Lib.hid b1; clear b1))
      | (go_at_call 42; ((refine (check_ok g 3 _).mono ?_); rintro e w2 ⟨rfl, rfl⟩))
      | fail)
    go_ret
    exact ⟨rfl, B1.out⟩
set_option maxHeartbeats 1000000 in
set_option maxRecDepth 100000 in
theorem rtext_any {B g : Nat} {t s : ByteArray} {ln : Int} {w : World} (hr : RB w g t ln) (hb : GB B w) (hs : s.size ≤ 1000000) :
    Calls Tryz.prog 77 #[.pointer (some ⟨g, 0, none⟩), .string s] w (RN ((txtB s).map Value.string) ln w) := by
  have NA := Lib.hid (from_any s hs w)
  have HR := Lib.hid hr
  clear hr hb
  unfold txtV at NA
  cases hn : txtB s with
  | none =>
    rw [hn] at NA
    clear hn
    go_enter Tryz.func77, Tryz.ntmps77
    go_wp2_with (first
      | (go_at_call 17; ((refine NA.out.mono ?_); rintro e w1 ⟨rfl, b1⟩; have R1 := Lib.hid (HR.out.later b1); have B1 := Lib.hid b1; clear b1))
      | (go_at_call 42; ((refine (check_bad g 3 _ R1.out).mono ?_); rintro e w2 ⟨rfl, rfl⟩))
      | fail)
    exact ⟨rfl, rfl, B1.out⟩
  | some v =>
    rw [hn] at NA
    clear hn
    go_enter Tryz.func77, Tryz.ntmps77
    go_wp2_with (first
      | (go_at_call 17; ((refine NA.out.mono ?_); rintro e w1 ⟨rfl, b1⟩; have R1 := Lib.hid (HR.out.later b1); have B1 := Lib.hid b1; clear b1))
      | (go_at_call 42; ((refine (check_ok g 0 _).mono ?_); rintro e w2 ⟨rfl, rfl⟩))
      | fail)
    go_ret
    exact ⟨rfl, B1.out⟩
def numsB : List ByteArray → Option (List Int)
  | [] => some []
  | t :: ts => (numB t).bind fun v => (numsB ts).map (v :: ·)
theorem nums_app : ∀ (a b : List ByteArray), numsB (a ++ b) = (numsB a).bind fun x => (numsB b).map (x ++ ·)
  | [], b => by
    show numsB b = _
    cases numsB b <;> rfl
  | t :: a, b => by
    show (numB t).bind (fun v => (numsB (a ++ b)).map (v :: ·)) = ((numB t).bind (fun v => (numsB a).map (v :: ·))).bind _
    rw [nums_app a b]
    cases numB t with
    | none => rfl
    | some v =>
      cases numsB a with
      | none => rfl
      | some x =>
        simp only [Option.bind_some, Option.map_some]
        cases numsB b <;> rfl
theorem nums_len : ∀ {a : List ByteArray} {l : List Int}, numsB a = some l → l.length = a.length
  | [], l, h => by unfold numsB at h; cases h; rfl
  | t :: a, l, h => by
    unfold numsB at h
    cases hn : numB t with
    | none => rw [hn] at h; cases h
    | some v =>
      rw [hn] at h
      simp only [Option.bind_some] at h
      obtain ⟨x, hx, rfl⟩ := Option.map_eq_some_iff.1 h
      simp [nums_len hx]
/-- Numbers in a row, or a fault. -/
def RL (r : Option (List Int)) (ln : Int) (w : World) (e : Ending) (w' : World) : Prop :=
  (match r with
    | some l => ∃ A c, e = .returned (.slice A l.length c) ∧ EI.Row w' w.heap.size A l c
    | none => e = .panicked [FP ln 3]) ∧ Below w.heap.size w w'
set_option maxHeartbeats 1000000 in
set_option maxRecDepth 100000 in
theorem rnumbers_any {B g : Nat} {t : ByteArray} {ln : Int} {w : World} (A : Option Addr) (n c : Nat) (ws : List ByteArray) (hr : RB w g t ln) (hb : GB B w) (hl : ws.length = n) (hn : n ≤ 900000) (hA : ES.Rd w A ws) (hs : ∀ x ∈ ws, x.size ≤ 4000000) :
    Calls Tryz.prog 63 #[.pointer (some ⟨g, 0, none⟩), .slice A n c] w (RL (numsB ws) ln w) := by
  have HR := Lib.hid hr
  have HG := Lib.hid hb
  have HL := Lib.hid (And.intro hl hn)
  have HA := Lib.hid hA
  have HS := Lib.hid hs
  obtain ⟨r, hrr⟩ : ∃ r, numsB ws = r := ⟨_, rfl⟩
  rw [hrr]
  have HRR := Lib.hid hrr
  clear hr hb hl hA hs hrr
  go_enter Tryz.func63, Tryz.ntmps63
  go_upto_region 3 with fail
  go_loopw [5, 10] (fun lv iv wr => ∃ (k : Nat) (l : List Int) (A2 : Option Addr) (c2 : Nat), k ≤ n ∧ iv = .int .i64 k ∧ lv = .slice A2 k c2 ∧ Hid (numsB (ws.take k) = some l) ∧ Hid (l.length = k) ∧ Hid (EI.Row wr w.heap.size A2 l c2) ∧ Below w.heap.size w wr) (fun _ iv _ => n - (intOf iv).toNat)
  case atStart => exact ⟨0, [], none, 0, by omega, rfl, rfl, Lib.hid rfl, Lib.hid rfl, Lib.hid (.inl ⟨rfl, rfl⟩), Below.refl _ _⟩
  case round =>
    obtain ⟨k, l, A2, c2, hk, rfl, rfl, HP, HK, HW, hbw⟩ := hrel
    have HB := Lib.hid hbw
    clear hbw
    have hNN := HL.out
    by_cases h8 : k < n
    · have hk1 : (k : Int) < (n : Int) := by omega
      have hk0 : (0 : Int) ≤ (k : Int) := by omega
      have WK : IntKind.i64.wrap ((k : Int) + 1) = (k : Int) + 1 := IntWalk.i64_in _ (by omega)
      obtain ⟨x, hx⟩ : ∃ x, ws[k]? = some x := ⟨_, List.getElem?_eq_getElem (by omega)⟩
      obtain ⟨b, off, rfl, hlt, g0⟩ := es_at (HA.out.later HB.out) hx
      have HX := Lib.hid hx
      have NB := Lib.hid (rnumber_any (HR.out.later HB.out) (HG.out.later HB.out) (HS.out x (List.mem_of_getElem? hx)))
      unfold RN at NB
      have htk : ws.take (k + 1) = ws.take k ++ [x] := by rw [List.take_add_one, hx]; rfl
      have hap : numsB (ws.take (k + 1)) = (numB x).map (fun v => l ++ [v]) := by
        rw [htk, nums_app, HP.out]
        show (numsB [x]).map _ = _
        show ((numB x).bind fun v => some [v]).map _ = _
        cases numB x <;> rfl
      have HK2 := Lib.hid (show k ≤ 1000000 by omega)
      cases hnx : numB x with
      | none =>
        rw [hnx] at NB hap
        have HE : Hid (r = none) := Lib.hid (by
          rw [← HRR.out, ← List.take_append_drop (k + 1) ws, nums_app, hap]; rfl)
        clear hnx hap htk hx hNN
        go_wp2_with (first
          | (go_at_call 75; ((refine NB.out.mono ?_); rintro e w1 ⟨rfl, b1⟩; have B1 := Lib.hid (bel_trans HB.out b1); clear b1))
          | fail)
        refine ⟨rfl, ?_, B1.out⟩
        rw [HE.out]
      | some v =>
        rw [hnx] at NB hap
        have HAP := Lib.hid hap
        clear hnx hap htk hx hNN
        go_wp2_with (first
          | (go_at_call 75; ((refine NB.out.mono ?_); rintro e w1 ⟨he, b1⟩; simp only [Option.map_some] at he; subst he; have B1 := Lib.hid (bel_trans HB.out b1); have RW := Lib.hid ((HW.out.later b1).later (alb w1 (.cells #[.int .i64 v] 3))); have RV := Lib.hid (RE.Rd.lit (E := EI) w1 3 [v] #[.int .i64 v] rfl); have B2 := Lib.hid (bel_alloc B1.out (.cells #[.int .i64 v] 3)); clear b1))
          | (at_builtin; refine RE.wpList_put EI _ rfl (.tmp 14) (.tmp 18) rfl (base := w.heap.size) A2 k c2 _ _ 1 1 [v] rfl rfl RW.out HK.out HK2.out B2.out.size rfl (by omega) RV.out ?_; intro A3 c3 w5 r1 r2 r3; have R1 := Lib.hid r1; have R2 := Lib.hid r2; clear r1 r2 r3)
          | fail)
        exact ⟨⟨k + 1, l ++ [v], A3, c3, by omega, rfl, rfl, Lib.hid HAP.out, Lib.hid (by rw [List.length_append, HK.out]; rfl), R1, B2.out.trans (RE.Row.below R2.out RW.out (Nat.le_refl _) B2.out.size)⟩, by simp [intOf]; omega⟩
    · have hke : k = n := by omega
      subst hke
      have hk1 : ¬ (k : Int) < (k : Int) := by omega
      have HE : Hid (r = some l) := Lib.hid (by
        rw [← HRR.out, ← HP.out, List.take_of_length_le (by omega)])
      have HKK := Lib.hid HK.out
      clear hNN
      go_wp2
      refine bodyPost_ret (v := .slice A2 k c2) (by simp [results, Tryz.results63, go_sem]) rfl ⟨?_, HB.out⟩
      rw [HE.out]
      exact ⟨A2, c2, by rw [HKK.out], HW.out⟩
end Go.Proofs.YtelpkajlejbbgaaGreatDoor
namespace Go.Proofs.YtelpkajlejbbgaaGreatDoor
open Go.RowKit Go.Maps
theorem hset {w : World} {g i : Nat} {cs : Array Value} {t : TypeId} {fr : Nat × Nat} (h : w.heap[g]? = some (.cells cs t fr)) (v : Value) : (w.setCell ⟨g, i, none⟩ v).heap[g]? = some (.cells (cs.setIfInBounds i v) t fr) := by
  simp [World.setCell, Array.getElem?_modify, h]
theorem cellh {w : World} {g i : Nat} {cs : Array Value} {t : TypeId} {fr : Nat × Nat} (h : w.heap[g]? = some (.cells cs t fr)) {v : Value} (hv : cs[i]? = some v) : w.cell? ⟨g, i, none⟩ = some v := by
  simp [World.cell?, h, hv]
theorem froh {w : World} {g i : Nat} {cs : Array Value} {t : TypeId} (h : w.heap[g]? = some (.cells cs t (0, 0))) : w.frozen? ⟨g, i, none⟩ = false := by
  simp [World.frozen?, h]
theorem heap_lt {w : World} {g : Nat} {o : Obj} (h : w.heap[g]? = some o) : g < w.heap.size := by
  rcases Nat.lt_or_ge g w.heap.size with h' | h'
  · exact h'
  · simp [Array.getElem?_eq_none h'] at h
theorem set6w {w : World} {g : Nat} {t : TypeId} {a b c d e f : Value} (h : w.heap[g]? = some (.cells #[a, b, c, d, e, f] t (0, 0))) (a' b' c' d' e' f' : Value) : ((((((w.setCell ⟨g, 0, none⟩ a').setCell ⟨g, 1, none⟩ b').setCell ⟨g, 2, none⟩ c').setCell ⟨g, 3, none⟩ d').setCell ⟨g, 4, none⟩ e').setCell ⟨g, 5, none⟩ f').heap[g]? = some (.cells #[a', b', c', d', e', f'] t (0, 0)) :=
  hset (hset (hset (hset (hset (hset h a') b') c') d') e') f'
theorem set5w {w : World} {g : Nat} {t : TypeId} {a b c d e : Value} (h : w.heap[g]? = some (.cells #[a, b, c, d, e] t (0, 0))) (a' b' c' d' e' : Value) : (((((w.setCell ⟨g, 0, none⟩ a').setCell ⟨g, 1, none⟩ b').setCell ⟨g, 2, none⟩ c').setCell ⟨g, 3, none⟩ d').setCell ⟨g, 4, none⟩ e').heap[g]? = some (.cells #[a', b', c', d', e'] t (0, 0)) :=
  hset (hset (hset (hset (hset h a') b') c') d') e'
theorem chg_set {D : Nat → Prop} {w w' : World} {g i : Nat} (h : Chg D w w') (v : Value) (hg : D g) : Chg D w (w'.setCell ⟨g, i, none⟩ v) := h.then (Chg.set _ _ hg)
theorem chg_one {g i : Nat} {w w' : World} (h : Chg (fun x => x = g) w w') (v : Value) : Chg (fun x => x = g) w (w'.setCell ⟨g, i, none⟩ v) := h.then (Chg.set _ _ rfl)
theorem chg6 (w : World) (g : Nat) (a' b' c' d' e' f' : Value) : Chg (fun x => x = g) w ((((((w.setCell ⟨g, 0, none⟩ a').setCell ⟨g, 1, none⟩ b').setCell ⟨g, 2, none⟩ c').setCell ⟨g, 3, none⟩ d').setCell ⟨g, 4, none⟩ e').setCell ⟨g, 5, none⟩ f') :=
  chg_one (chg_one (chg_one (chg_one (chg_one (chg_one (Chg.refl _ _) _) _) _) _) _) _
theorem chg5 (w : World) (g : Nat) (a' b' c' d' e' : Value) : Chg (fun x => x = g) w (((((w.setCell ⟨g, 0, none⟩ a').setCell ⟨g, 1, none⟩ b').setCell ⟨g, 2, none⟩ c').setCell ⟨g, 3, none⟩ d').setCell ⟨g, 4, none⟩ e') :=
  chg_one (chg_one (chg_one (chg_one (chg_one (Chg.refl _ _) _) _) _) _) _
theorem cells6 {w : World} {g : Nat} {t : TypeId} {a b c d e f : Value} (h : w.heap[g]? = some (.cells #[a, b, c, d, e, f] t (0, 0))) : w.cell? ⟨g, 0, none⟩ = some a ∧ w.cell? ⟨g, 1, none⟩ = some b ∧ w.cell? ⟨g, 2, none⟩ = some c ∧ w.cell? ⟨g, 3, none⟩ = some d ∧ w.cell? ⟨g, 4, none⟩ = some e ∧ w.cell? ⟨g, 5, none⟩ = some f :=
  ⟨cellh h rfl, cellh h rfl, cellh h rfl, cellh h rfl, cellh h rfl, cellh h rfl⟩
theorem cells5 {w : World} {g : Nat} {t : TypeId} {a b c d e : Value} (h : w.heap[g]? = some (.cells #[a, b, c, d, e] t (0, 0))) : w.cell? ⟨g, 0, none⟩ = some a ∧ w.cell? ⟨g, 1, none⟩ = some b ∧ w.cell? ⟨g, 2, none⟩ = some c ∧ w.cell? ⟨g, 3, none⟩ = some d ∧ w.cell? ⟨g, 4, none⟩ = some e :=
  ⟨cellh h rfl, cellh h rfl, cellh h rfl, cellh h rfl, cellh h rfl⟩
theorem froz6 {w : World} {g : Nat} {t : TypeId} {a b c d e f : Value} (h : w.heap[g]? = some (.cells #[a, b, c, d, e, f] t (0, 0))) : w.frozen? ⟨g, 0, none⟩ = false ∧ w.frozen? ⟨g, 1, none⟩ = false ∧ w.frozen? ⟨g, 2, none⟩ = false ∧ w.frozen? ⟨g, 3, none⟩ = false ∧ w.frozen? ⟨g, 4, none⟩ = false ∧ w.frozen? ⟨g, 5, none⟩ = false :=
  ⟨froh h, froh h, froh h, froh h, froh h, froh h⟩
theorem froz5 {w : World} {g : Nat} {t : TypeId} {a b c d e : Value} (h : w.heap[g]? = some (.cells #[a, b, c, d, e] t (0, 0))) : w.frozen? ⟨g, 0, none⟩ = false ∧ w.frozen? ⟨g, 1, none⟩ = false ∧ w.frozen? ⟨g, 2, none⟩ = false ∧ w.frozen? ⟨g, 3, none⟩ = false ∧ w.frozen? ⟨g, 4, none⟩ = false :=
  ⟨froh h, froh h, froh h, froh h, froh h⟩
def isB (ws : List ByteArray) (x : ByteArray) (m : Nat) : Bool := decide (ws[0]? = some x) && decide (ws.length = m + 1)
theorem isB_true {ws : List ByteArray} {x : ByteArray} {m : Nat} (h : isB ws x m = true) : ws[0]? = some x ∧ ws.length = m + 1 := by
  unfold isB at h
  simpa using h
theorem isB_other {ws : List ByteArray} {x y : ByteArray} {m k : Nat} (h : isB ws x m = true) (hne : x ≠ y) : isB ws y k = false := by
  have h1 := (isB_true h).1
  unfold isB
  rw [h1]
  simp [hne]
def wdA (ws : List ByteArray) (i : Nat) : ByteArray := (ws[i]?).getD ⟨#[]⟩
theorem wd_at {ws : List ByteArray} {i : Nat} (h : i < ws.length) : ws[i]? = some (wdA ws i) := by
  unfold wdA; rw [List.getElem?_eq_getElem h]; rfl
theorem wd_cell {w : World} {b : Nat} {ws : List ByteArray} (h : ES.Rd w (some ⟨b, 0, none⟩) ws) {i : Nat} (hi : i < ws.length) : w.cell? ⟨b, i, none⟩ = some (.string (wdA ws i)) := by
  obtain ⟨b', off, e, _, h2⟩ := es_at h (wd_at hi)
  cases e
  rw [Nat.zero_add] at h2; exact h2
theorem rd_lt {w : World} {b : Nat} {ws : List ByteArray} (h : ES.Rd w (some ⟨b, 0, none⟩) ws) (hi : 0 < ws.length) : b < w.heap.size := by
  obtain ⟨b', off, e, h1, _⟩ := es_at h (wd_at hi)
  cases e; exact h1
set_option maxHeartbeats 400000 in
set_option maxRecDepth 100000 in
theorem is76 (x : ByteArray) (m : Nat) (M : Int) (hM : M = (m : Int)) (bx b n : Nat) (ws : List ByteArray) (w : World) (hm : m ≤ 10) (hn : ws.length = n) (h0 : 0 < n) (hn2 : n ≤ 4000000) (hb : w.cell? ⟨bx, 0, none⟩ = some (.slice (some ⟨b, 0, none⟩) n n)) (h : ES.Rd w (some ⟨b, 0, none⟩) ws) :
    Calls Tryz.prog 76 #[.string x, .int .i64 M, .pointer (some ⟨bx, 0, none⟩)] w fun e w' => e = .returned (.bool (isB ws x m)) ∧ w = w' := by
  subst hM
  have c0 := wd_cell h (i := 0) (by omega)
  have k0 : (0 : Int) < (n : Int) := by omega
  have wm : IntKind.i64.wrap ((m : Int) + 1) = (m : Int) + 1 := IntWalk.i64_in _ (by omega)
  have hw0 := wd_at (ws := ws) (i := 0) (by omega)
  obtain ⟨y, hy⟩ : ∃ y, wdA ws 0 = y := ⟨_, rfl⟩
  rw [hy] at c0 hw0
  have HI : Hid (isB ws x m = (decide (y = x) && decide (n = m + 1))) := Lib.hid (by unfold isB; rw [hw0, hn]; simp)
  by_cases hyx : y = x
  · have d0 : (y.toList == x.toList) = true := bytes_eq hyx
    have d1 : ((n : Int) == (m : Int) + 1) = decide (n = m + 1) := by
      by_cases e : n = m + 1
      · simp [e]
      · have : ¬ (n : Int) = (m : Int) + 1 := by omega
        simp [e, this]
    have HY := Lib.hid hyx
    clear hy hw0 h hn
    go_enter Tryz.func76, Tryz.ntmps76
    go_wp2
    go_ret
    refine ⟨?_, rfl⟩
    rw [HI.out]
    simp [HY.out]
  · have d0 : (y.toList == x.toList) = false := bytes_ne hyx
    have HY := Lib.hid hyx
    clear hy hw0 h hn
    go_enter Tryz.func76, Tryz.ntmps76
    go_wp2
    go_ret
    refine ⟨?_, rfl⟩
    rw [HI.out]
    simp [HY.out]
set_option maxHeartbeats 400000 in
set_option maxRecDepth 100000 in
theorem is101 (x : ByteArray) (m : Nat) (M : Int) (hM : M = (m : Int)) (bx b n : Nat) (ws : List ByteArray) (w : World) (hm : m ≤ 10) (hn : ws.length = n) (h0 : 0 < n) (hn2 : n ≤ 4000000) (hb : w.cell? ⟨bx, 0, none⟩ = some (.slice (some ⟨b, 0, none⟩) n n)) (h : ES.Rd w (some ⟨b, 0, none⟩) ws) :
    Calls Tryz.prog 101 #[.string x, .int .i64 M, .pointer (some ⟨bx, 0, none⟩)] w fun e w' => e = .returned (.bool (isB ws x m)) ∧ w = w' := by
  subst hM
  have c0 := wd_cell h (i := 0) (by omega)
  have k0 : (0 : Int) < (n : Int) := by omega
  have wm : IntKind.i64.wrap ((m : Int) + 1) = (m : Int) + 1 := IntWalk.i64_in _ (by omega)
  have hw0 := wd_at (ws := ws) (i := 0) (by omega)
  obtain ⟨y, hy⟩ : ∃ y, wdA ws 0 = y := ⟨_, rfl⟩
  rw [hy] at c0 hw0
  have HI : Hid (isB ws x m = (decide (y = x) && decide (n = m + 1))) := Lib.hid (by unfold isB; rw [hw0, hn]; simp)
  by_cases hyx : y = x
  · have d0 : (y.toList == x.toList) = true := bytes_eq hyx
    have d1 : ((n : Int) == (m : Int) + 1) = decide (n = m + 1) := by
      by_cases e : n = m + 1
      · simp [e]
      · have : ¬ (n : Int) = (m : Int) + 1 := by omega
        simp [e, this]
    have HY := Lib.hid hyx
    clear hy hw0 h hn
    go_enter Tryz.func101, Tryz.ntmps101
    go_wp2
    go_ret
    refine ⟨?_, rfl⟩
    rw [HI.out]
    simp [HY.out]
  · have d0 : (y.toList == x.toList) = false := bytes_ne hyx
    have HY := Lib.hid hyx
    clear hy hw0 h hn
    go_enter Tryz.func101, Tryz.ntmps101
    go_wp2
    go_ret
    refine ⟨?_, rfl⟩
    rw [HI.out]
    simp [HY.out]
end Go.Proofs.YtelpkajlejbbgaaGreatDoor
