/- The document's side: Place, Get, Same. -/
import Derived.Test.YtfgohbhacldlmaaR1
namespace Go.Proofs.Ytfgohbhacldlmaa
set_option linter.unusedSimpArgs false
open Go.RowKit Go.Maps
set_option linter.unusedVariables false

set_option maxHeartbeats 2000000 in
set_option maxRecDepth 100000 in
theorem rplace_any (A : Option Addr) (n c : Nat) (L : PL) (kk : ByteArray) (w : World) (hl : L.length = n) (hn : n ≤ 1000) (hr : RdP w A L) :
    Calls Try.prog 34 #[.slice A n c, .string kk] w fun e w' => e = .returned (.int .i64 ((below ltS kk L).length : Int)) ∧ Below w.heap.size w w' := by
  have HR := Lib.hid hr
  have HL := Lib.hid hl
  clear hr hl
  go_enter Try.func34, Try.ntmps34
  go_wp2
  go_loopw [5, 6] (fun ov iv wr => ∃ k : Nat, k ≤ n ∧ iv = .int .i64 k ∧ ov = .int .i64 ((below ltS kk (L.take k)).length : Int) ∧ wr = w) (fun _ i _ => n - (intOf i).toNat)
  case atStart => exact ⟨0, Nat.zero_le _, rfl, by simp [below], rfl⟩
  case round =>
    obtain ⟨k, hk, rfl, rfl, rfl⟩ := hrel
    by_cases h8 : k < n
    · have q1 : (k : Int) < (n : Int) := by omega
      have q0 : (0 : Int) ≤ (k : Int) := by omega
      have q9 : (k : Int) ≤ 1000 := by omega
      obtain ⟨x, hx⟩ : ∃ x, L[k]? = some x := ⟨_, List.getElem?_eq_getElem (by rw [HL.out]; omega)⟩
      obtain ⟨b, off, rfl, hlt, f0, f1⟩ := rdp_get HR.out hx
      have hst : below ltS kk (L.take (k + 1)) = below ltS kk (L.take k) ++ (if ltS x.1 kk = true then [x] else []) := by
        unfold below; rw [take_snoc hx, List.filter_append, fsing]
      have hln : (below ltS kk (L.take k)).length ≤ k := Nat.le_trans (List.length_filter_le _ _) (by rw [List.length_take]; omega)
      have z0 : (0 : Int) ≤ ((below ltS kk (L.take k)).length : Int) := by omega
      have z9 : ((below ltS kk (L.take k)).length : Int) ≤ 1000 := by omega
      have HX := Lib.hid hst
      obtain ⟨x0, x1⟩ := x
      simp only at f0
      clear hx f1 hst hlt hln
      cases hp : ltS x0 kk with
      | false =>
        have t1 : Op.bytesLess x0.toList kk.toList = false := hp
        have e := Lib.hid HX.out
        go_wp2
        refine ⟨⟨k + 1, by omega, by simp, ?_, trivial⟩, by simp [intOf]; omega⟩
        rw [e.out, hp]; simp
      | true =>
        have t1 : Op.bytesLess x0.toList kk.toList = true := hp
        have e := Lib.hid HX.out
        go_wp2
        refine ⟨⟨k + 1, by omega, by simp, ?_, trivial⟩, by simp [intOf]; omega⟩
        rw [e.out, hp]; simp
    · have q1 : ¬ (k : Int) < (n : Int) := by omega
      obtain rfl : k = n := by omega
      go_wp2
      have e : L.take k = L := List.take_of_length_le (by rw [HL.out]; omega)
      rw [e]
      exact bodyPost_ret (v := .int .i64 _) (by simp [results, Try.results34, go_sem]; try rfl) rfl ⟨rfl, Below.refl _ _⟩
/-- What Get answers of a row. -/
def rgetV (k : ByteArray) (L : PL) : Value :=
  match L.filter (fun y => y.1.toList == k.toList) with
  | [] => .tuple #[.int .i64 0, .bool false]
  | x :: _ => .tuple #[.int .i64 x.2, .bool true]
set_option maxHeartbeats 2000000 in
set_option maxRecDepth 100000 in
theorem rget_any (A : Option Addr) (n c : Nat) (L : PL) (kk : ByteArray) (w : World) (hl : L.length = n) (hn : n ≤ 1000) (hr : RdP w A L) :
    Calls Try.prog 30 #[.slice A n c, .string kk] w fun e w' => e = .returned (rgetV kk L) ∧ w = w' := by
  have HR := Lib.hid hr
  have HL := Lib.hid hl
  clear hr hl
  go_enter Try.func30, Try.ntmps30
  go_wp2
  go_loopw [6] (fun iv wr => ∃ k : Nat, k ≤ n ∧ iv = .int .i64 k ∧ (L.take k).filter (fun y => y.1.toList == kk.toList) = [] ∧ wr = w) (fun i _ => n - (intOf i).toNat)
  case atStart => exact ⟨0, Nat.zero_le _, rfl, by simp, rfl⟩
  case round =>
    obtain ⟨k, hk, rfl, hno, rfl⟩ := hrel
    have HNO := Lib.hid hno
    clear hno
    by_cases h8 : k < n
    · have q1 : (k : Int) < (n : Int) := by omega
      have q0 : (0 : Int) ≤ (k : Int) := by omega
      have q9 : (k : Int) ≤ 1000 := by omega
      obtain ⟨x, hx⟩ : ∃ x, L[k]? = some x := ⟨_, List.getElem?_eq_getElem (by rw [HL.out]; omega)⟩
      obtain ⟨b, off, rfl, hlt, f0, f1⟩ := rdp_get HR.out hx
      have hst : (L.take (k + 1)).filter (fun y => y.1.toList == kk.toList) = (if (x.1.toList == kk.toList) = true then [x] else []) := by
        rw [take_snoc hx, List.filter_append, fsing, HNO.out]; rfl
      have g1 : wr.cell? ⟨b, off + k * 2 + 1, none⟩ = some (.int .i64 x.2) := f1
      have HX := Lib.hid hst
      obtain ⟨x0, x1⟩ := x
      simp only at f0 g1
      clear hx f1 hst hlt
      cases hp : x0.toList == kk.toList with
      | false =>
        have e := Lib.hid HX.out
        go_wp2
        refine ⟨⟨k + 1, by omega, by simp, ?_, trivial⟩, by simp [intOf]; omega⟩
        rw [e.out, hp]; rfl
      | true =>
        have hv : rgetV kk L = .tuple #[.int .i64 x1, .bool true] := by
          have h := HX.out
          simp only [hp, if_true] at h
          unfold rgetV
          rw [← List.take_append_drop (k + 1) L, List.filter_append, h]; rfl
        have HV := Lib.hid hv
        clear hv
        go_wp2
        exact bodyPost_ret (v := .tuple #[.int .i64 x1, .bool true]) (by simp [results, Try.results30, go_sem]) rfl ⟨by rw [HV.out], rfl⟩
    · have q1 : ¬ (k : Int) < (n : Int) := by omega
      obtain rfl : k = n := by omega
      have hv : rgetV kk L = .tuple #[.int .i64 0, .bool false] := by
        have h := HNO.out
        rw [List.take_of_length_le (by rw [HL.out]; omega)] at h
        unfold rgetV
        rw [h]
      have HV := Lib.hid hv
      clear hv
      go_wp2
      exact bodyPost_ret (v := .tuple #[.int .i64 0, .bool false]) (by simp [results, Try.results30, go_sem]) rfl ⟨by rw [HV.out], rfl⟩
set_option maxHeartbeats 2000000 in
set_option maxRecDepth 100000 in
theorem same_yes (A1 A2 : Option Addr) (n c1 c2 : Nat) (L : PL) (w : World) (hl : L.length = n) (hn : n ≤ 1000) (hr1 : RdP w A1 L) (hr2 : RdP w A2 L) :
    Calls Try.prog 13 #[.slice A1 n c1, .slice A2 n c2] w fun e w' => e = .returned (.bool true) ∧ Below w.heap.size w w' := by
  have HR1 := Lib.hid hr1
  have HR2 := Lib.hid hr2
  have HL := Lib.hid hl
  clear hr1 hr2 hl
  go_enter Try.func13, Try.ntmps13
  go_wp2
  go_loopw [5] (fun iv wr => ∃ k d : Nat, k ≤ n ∧ iv = .int .i64 k ∧ wr = w.drewN d) (fun i _ => n - (intOf i).toNat)
  case atStart => exact ⟨0, 0, Nat.zero_le _, rfl, rfl⟩
  case round =>
    obtain ⟨k, d, hk, rfl, hwr⟩ := hrel
    have HW := Lib.hid hwr
    clear hwr
    by_cases h8 : k < n
    · have q1 : (k : Int) < (n : Int) := by omega
      have q0 : (0 : Int) ≤ (k : Int) := by omega
      have q9 : (k : Int) ≤ 1000 := by omega
      obtain ⟨x, hx⟩ : ∃ x, L[k]? = some x := ⟨_, List.getElem?_eq_getElem (by rw [HL.out]; omega)⟩
      obtain ⟨b, off, rfl, hlt, f0, f1⟩ := rdp_get HR1.out hx
      obtain ⟨b2, off2, rfl, hlt2, f2, f3⟩ := rdp_get HR2.out hx
      obtain ⟨x0, x1⟩ := x
      have g0 : wr.cell? ⟨b, off + k * 2, none⟩ = some (.string x0) := by rw [HW.out]; exact f0
      have g1 : wr.cell? ⟨b, off + k * 2 + 1, none⟩ = some (.int .i64 x1) := by rw [HW.out]; exact f1
      have g2 : wr.cell? ⟨b2, off2 + k * 2, none⟩ = some (.string x0) := by rw [HW.out]; exact f2
      have g3 : wr.cell? ⟨b2, off2 + k * 2 + 1, none⟩ = some (.int .i64 x1) := by rw [HW.out]; exact f3
      clear hx f0 f1 f2 f3 hlt hlt2
      go_wp2_with fail
      go_quiet (fail)
      go_wp2
      exact ⟨⟨k + 1, d + nq, by omega, by simp, by rw [HW.out, World.drewN_drewN]⟩, by simp [intOf]; omega⟩
    · have q1 : ¬ (k : Int) < (n : Int) := by omega
      go_wp2
      exact bodyPost_ret (v := .bool true) (by simp [results, Try.results13, go_sem]) rfl ⟨rfl, by rw [HW.out]; exact bel_drewN (Below.refl _ _) _⟩
end Go.Proofs.Ytfgohbhacldlmaa
