/- Texts of the proof, one behind the other. -/
import Derived.Test.YtilnpeekajnlhaaTu13
import Derived.Test.YtilnpeekajnlhaaTu16
import Derived.Test.YtilnpeekajnlhaaTu15
import Derived.Lib.AppendZeros
import Derived.Test.YtilnpeekajnlhaaTu02
import Derived.Test.YtilnpeekajnlhaaTu12
import Derived.Deep.RegionHeld3
import Derived.Test.YtilnpeekajnlhaaTu05
import Derived.Test.YtilnpeekajnlhaaTu11
import Derived.Deep.DeepCutAuto
set_option linter.unusedVariables false
set_option linter.unusedSimpArgs false
namespace Go.Proofs.Ytilnpeekajnlhaa.Pv
open Go.RowKit Go.Maps
def PvPost (ok : Bool) (L : List ByteArray) (w : World) (e : Ending) (w' : World) : Prop := ∃ A c, e = .returned (.tuple #[.slice A L.length c, .bool ok]) ∧ RdS w' A L ∧ Below w.heap.size w w'
def putF (p : List ByteArray) (i : Int) (s : ByteArray) : Bool × List ByteArray := if 0 ≤ i ∧ i ≤ p.length ∧ risesB (ins p i.toNat s) = true then (true, ins p i.toNat s) else (false, [])
def dropF (p : List ByteArray) (i : Int) : Bool × List ByteArray := if 0 ≤ i ∧ i < p.length then (true, p.take i.toNat ++ p.drop (i.toNat + 1)) else (false, [])
def moveF (p : List ByteArray) (i : Int) (s : ByteArray) : Bool × List ByteArray := if 0 ≤ i ∧ i < p.length ∧ risesB (mov p i.toNat s) = true then (true, mov p i.toNat s) else (false, [])
theorem put_out (A : Option Addr) (n c : Nat) (i : Int) (s : ByteArray) (w : World) (h : i < 0 ∨ (n : Int) < i) :
    Calls Try.prog 49 #[.slice A n c, .int .i64 i, .string s] w fun e w' => e = .returned (.tuple #[.slice none 0 0, .bool false]) ∧ Below w.heap.size w w' := by
  by_cases h0 : i < 0
  · clear h
    go_enter Try.func49, Try.ntmps49
    go_wp2
    exact bodyPost_ret (v := .tuple #[.slice none 0 0, .bool false]) (by simp [results, Try.results49, go_sem]) rfl ⟨rfl, Below.refl _ _⟩
  · have h1 : (n : Int) < i := by omega
    clear h
    go_enter Try.func49, Try.ntmps49
    go_wp2
    exact bodyPost_ret (v := .tuple #[.slice none 0 0, .bool false]) (by simp [results, Try.results49, go_sem]) rfl ⟨rfl, Below.refl _ _⟩
theorem drop_out (A : Option Addr) (n c : Nat) (i : Int) (w : World) (h : i < 0 ∨ (n : Int) ≤ i) :
    Calls Try.prog 53 #[.slice A n c, .int .i64 i] w fun e w' => e = .returned (.tuple #[.slice none 0 0, .bool false]) ∧ Below w.heap.size w w' := by
  by_cases h0 : i < 0
  · clear h
    go_enter Try.func53, Try.ntmps53
    go_wp2
    exact bodyPost_ret (v := .tuple #[.slice none 0 0, .bool false]) (by simp [results, Try.results53, go_sem]) rfl ⟨rfl, Below.refl _ _⟩
  · have h1 : (n : Int) ≤ i := by omega
    have h2 : ¬ i < (n : Int) := by omega
    clear h
    go_enter Try.func53, Try.ntmps53
    go_wp2
    exact bodyPost_ret (v := .tuple #[.slice none 0 0, .bool false]) (by simp [results, Try.results53, go_sem]) rfl ⟨rfl, Below.refl _ _⟩
theorem move_out (A : Option Addr) (n c : Nat) (i : Int) (s : ByteArray) (w : World) (h : i < 0 ∨ (n : Int) ≤ i) :
    Calls Try.prog 56 #[.slice A n c, .int .i64 i, .string s] w fun e w' => e = .returned (.tuple #[.slice none 0 0, .bool false]) ∧ Below w.heap.size w w' := by
  by_cases h0 : i < 0
  · clear h
    go_enter Try.func56, Try.ntmps56
    go_wp2
    exact bodyPost_ret (v := .tuple #[.slice none 0 0, .bool false]) (by simp [results, Try.results56, go_sem]) rfl ⟨rfl, Below.refl _ _⟩
  · have h1 : (n : Int) ≤ i := by omega
    have h2 : ¬ i < (n : Int) := by omega
    clear h
    go_enter Try.func56, Try.ntmps56
    go_wp2
    exact bodyPost_ret (v := .tuple #[.slice none 0 0, .bool false]) (by simp [results, Try.results56, go_sem]) rfl ⟨rfl, Below.refl _ _⟩
theorem none_post {w : World} {e : Ending} {w' : World} (h : e = .returned (.tuple #[.slice none 0 0, .bool false]) ∧ Below w.heap.size w w') : PvPost false [] w e w' := ⟨none, 0, h.1, .inl rfl, h.2⟩
theorem put_any2 (A : Option Addr) (p : List ByteArray) (n c : Nat) (i : Int) (s : ByteArray) (w : World) (hl : p.length = n) (hn : n ≤ 900) (hc : n ≤ c) (hm : c ≤ 9223372036854775807) (hA : A = none → n = 0) (hr : RdS w A p) :
    Calls Try.prog 49 #[.slice A n c, .int .i64 i, .string s] w (PvPost (putF p i s).1 (putF p i s).2 w) := by
  unfold putF
  by_cases h0 : 0 ≤ i ∧ i ≤ (p.length : Int)
  · obtain ⟨j, rfl⟩ := Int.eq_ofNat_of_zero_le h0.1
    have hj : j ≤ n := by omega
    rw [Int.toNat_natCast]
    cases h : risesB (ins p j s)
    · rw [if_neg (by simp)]
      exact (put_no A p n c j s w hl hn hc hm hj hA hr h).mono (fun e w' q => none_post q)
    · rw [if_pos ⟨h0.1, h0.2, rfl⟩]
      exact (put_yes A p n c j s w hl hn hc hm hj hA hr h).mono (fun e w' ⟨A2, c2, h1, h2, h3, _⟩ => ⟨A2, c2, h1, h2, h3⟩)
  · rw [if_neg (fun q => h0 ⟨q.1, q.2.1⟩)]
    exact (put_out A n c i s w (by omega)).mono (fun e w' q => none_post q)
theorem drop_any2 (A : Option Addr) (p : List ByteArray) (n c : Nat) (i : Int) (w : World) (hl : p.length = n) (hn : n ≤ 900) (hc : n ≤ c) (hm : c ≤ 9223372036854775807) (hr : RdS w A p) :
    Calls Try.prog 53 #[.slice A n c, .int .i64 i] w (PvPost (dropF p i).1 (dropF p i).2 w) := by
  unfold dropF
  by_cases h0 : 0 ≤ i ∧ i < (p.length : Int)
  · obtain ⟨j, rfl⟩ := Int.eq_ofNat_of_zero_le h0.1
    have hj : j < n := by omega
    rw [if_pos h0, Int.toNat_natCast]
    exact (drop_yes A p n c j w hl hn hc hm hj hr).mono (fun e w' ⟨A2, c2, h1, h2, h3, _⟩ => ⟨A2, c2, h1, h2, h3⟩)
  · rw [if_neg h0]
    exact (drop_out A n c i w (by omega)).mono (fun e w' q => none_post q)
theorem move_any2 (A : Option Addr) (p : List ByteArray) (n c : Nat) (i : Int) (s : ByteArray) (w : World) (hl : p.length = n) (hn : n ≤ 900) (hc : n ≤ c) (hm : c ≤ 9223372036854775807) (hA : A = none → n = 0) (hr : RdS w A p) :
    Calls Try.prog 56 #[.slice A n c, .int .i64 i, .string s] w (PvPost (moveF p i s).1 (moveF p i s).2 w) := by
  unfold moveF
  by_cases h0 : 0 ≤ i ∧ i < (p.length : Int)
  · obtain ⟨j, rfl⟩ := Int.eq_ofNat_of_zero_le h0.1
    have hj : j < n := by omega
    rw [Int.toNat_natCast]
    cases h : risesB (mov p j s)
    · rw [if_neg (by simp)]
      exact (move_no A p n c j s w hl hn hc hm hj hA hr h).mono (fun e w' q => none_post q)
    · rw [if_pos ⟨h0.1, h0.2, rfl⟩]
      exact (move_yes A p n c j s w hl hn hc hm hj hA hr h).mono (fun e w' ⟨A2, c2, h1, h2, h3, _⟩ => ⟨A2, c2, h1, h2, h3⟩)
  · rw [if_neg (fun q => h0 ⟨q.1, q.2.1⟩)]
    exact (move_out A n c i s w (by omega)).mono (fun e w' q => none_post q)
end Go.Proofs.Ytilnpeekajnlhaa.Pv
namespace Go.Proofs.Ytilnpeekajnlhaa
open Go.RowKit Go.Maps
end Go.Proofs.Ytilnpeekajnlhaa
namespace Go.Proofs.Ytilnpeekajnlhaa
open Go.RowKit Go.Maps
theorem change_out (A C : Option Addr) (n c q d k : Nat) (i g : Int) (w : World) (hg : g = (n : Int) - k) (hw : IntKind.i64.wrap ((n : Int) - (k : Int)) = g) (h : i < 0 ∨ g < i) :
    Calls Try.prog 93 #[.slice A n c, .int .i64 i, .int .i64 (k : Int), .slice C q d] w (Pv.PvPost false [] w) := by
  have HB0 := Lib.hid (alb w (.cells #[] 9 (0, 0)))
  clear hg
  by_cases h0 : i < 0
  · clear h
    go_enter Try.func93, Try.ntmps93
    go_wp2
    exact bodyPost_ret (v := .tuple #[.slice (some ⟨w.heap.size, 0, none⟩) 0 0, .bool false]) (by simp [results, Try.results93, go_sem]) rfl ⟨_, _, rfl, .inl rfl, HB0.out⟩
  · have h1 : g < i := by omega
    clear h
    go_enter Try.func93, Try.ntmps93
    go_wp2
    exact bodyPost_ret (v := .tuple #[.slice (some ⟨w.heap.size, 0, none⟩) 0 0, .bool false]) (by simp [results, Try.results93, go_sem]) rfl ⟨_, _, rfl, .inl rfl, HB0.out⟩
def sel (b : Bool) (T : List ByteArray) : List ByteArray := if b then T else []
set_option maxRecDepth 100000 in
set_option maxHeartbeats 4000000 in
theorem change_in (A C : Option Addr) (n c i k q d v : Nat) (p L2 : List ByteArray) (w : World) (hl : p.length = n) (hn : n ≤ 100) (hv : i + k = v) (hvn : v ≤ n) (hc : n ≤ c) (hr : ES.Rd w A p) (hq : L2.length = q) (hq1 : q ≤ 100) (hC : ES.Rd w C L2) :
    Calls Try.prog 93 #[.slice A n c, .int .i64 (i : Int), .int .i64 (k : Int), .slice C q d] w (Pv.PvPost (Pv.risesB (p.take i ++ L2 ++ p.drop v)) (sel (Pv.risesB (p.take i ++ L2 ++ p.drop v)) (p.take i ++ L2 ++ p.drop v)) w) := by
  have HA := Lib.hid hr
  have HC := Lib.hid hC
  have HQ := Lib.hid hq
  have HCL := Lib.hid (show p.length ≤ c by omega)
  have HB0 := Lib.hid (alb w (.cells #[] 9 (0, 0)))
  have HR0 := Lib.hid ((RE.Row.nil : ES.Row (w.alloc (.cells #[] 9 (0, 0))) w.heap.size (some ⟨w.heap.size, 0, none⟩) [] 0))
  have L1 : Hid ((p.take i).length = i) := Lib.hid (by rw [List.length_take]; omega)
  have L3 : Hid ((p.drop v).length = n - v) := Lib.hid (by rw [List.length_drop, hl])
  have LT : Hid ((p.take i ++ L2 ++ p.drop v).length = i + q + (n - v)) := Lib.hid (by rw [List.length_append, List.length_append, L1.out, L3.out, hq])
  have RA := Lib.hid (fun A3 c3 W (h : ES.Rd W A3 (p.take i ++ L2 ++ p.drop v)) => Pv.rrises_any A3 (p.take i ++ L2 ++ p.drop v) (i + q + (n - v)) c3 W LT.out (by omega) (es_rd.1 h))
  have i0 : ¬ (i : Int) < 0 := by omega
  have i00 : (0 : Int) ≤ (i : Int) := by omega
  obtain ⟨g, hg⟩ : ∃ g : Nat, g = n - k := ⟨_, rfl⟩
  have i1 : IntKind.i64.wrap ((n : Int) - (k : Int)) = (g : Int) := by rw [IntWalk.i64_in _ (by omega)]; omega
  have i2 : ¬ (g : Int) < (i : Int) := by omega
  have i3 : (i : Int) ≤ (c : Int) := by omega
  have i4 : (i : Int) ≤ (n : Int) := by omega
  have i5 : IntKind.i64.wrap ((i : Int) + (k : Int)) = (v : Int) := by rw [IntWalk.i64_in _ (by omega)]; omega
  have i6 : (v : Int) ≤ (n : Int) := by omega
  have i7 : (v : Int) ≤ (c : Int) := by omega
  have i8 : (0 : Int) ≤ (v : Int) := by omega
  have hiv : i ≤ n := by omega
  obtain ⟨T, hT⟩ : ∃ T, T = p.take i ++ L2 ++ p.drop v := ⟨_, rfl⟩
  have HT := Lib.hid hT
  rw [← hT] at RA LT ⊢
  clear hr hC hq hl hv hg hT
  cases hR : Pv.risesB T
  · rw [hR] at RA
    clear hR
    go_enter Try.func93, Try.ntmps93
    go_wp2_with (first
      | (at_builtin; refine RE.wpList_put ES _ rfl (.tmp 23) (.tmp 26) rfl (base := w.heap.size) (some ⟨w.heap.size, 0, none⟩) 0 0 [] A i c (p.take i) rfl rfl HR0.out rfl (by omega) HB0.out.size L1.out (by omega) ((HA.out.later HB0.out).take i) ?_; intro A1 k1 w1 r1 r2 r3; have R1 : Hid (ES.Row w1 w.heap.size A1 (p.take i) k1) := Lib.hid r1; have B1 := Lib.hid (HB0.out.trans (RE.Row.below r2 HR0.out (Nat.le_refl _) HB0.out.size)); clear r1 r2 r3)
      | (at_builtin; refine RE.wpList_put ES _ rfl (.tmp 28) (.tmp 29) rfl (base := w.heap.size) A1 i k1 (p.take i) C q d L2 rfl rfl R1.out L1.out (by omega) B1.out.size HQ.out (by omega) (HC.out.later B1.out) ?_; intro A2 k2 w2 r1 r2 r3; have R2 : Hid (ES.Row w2 w.heap.size A2 (p.take i ++ L2) k2) := Lib.hid r1; have B2 := Lib.hid (B1.out.trans (RE.Row.below r2 R1.out (Nat.le_refl _) B1.out.size)); clear r1 r2 r3)
      | (at_builtin; refine RE.wpList_put ES _ rfl (.tmp 31) (.tmp 36) rfl (base := w.heap.size) A2 (i + q) k2 (p.take i ++ L2) (if c = v then A else Option.map (fun x => x.add v) A) (n - v) (c - v) (p.drop v) rfl rfl R2.out (by rw [List.length_append, L1.out, HQ.out]) (by omega) B2.out.size L3.out (by omega) (es_rd.2 (Pv.rds_drop (es_rd.1 (HA.out.later B2.out)) v c HCL.out)) ?_; intro A3 k3 w3 r1 r2 r3; have R3 : Hid (ES.Rd w3 A3 T) := Lib.hid (by rw [HT.out]; exact r1.rd); have B3 := Lib.hid (B2.out.trans (RE.Row.below r2 R2.out (Nat.le_refl _) B2.out.size)); clear r1 r2 r3)
      | (go_at_call 65; ((with_reducible refine (RA.out A3 k3 _ R3.out).mono ?_); rintro e w4 ⟨rfl, b⟩; have B4 := Lib.hid (bel_trans B3.out b); have R4 := Lib.hid (R3.out.later b); clear b))
      | fail)
    all_goals exact bodyPost_ret (v := .tuple #[.slice (some ⟨w4.heap.size, 0, none⟩) 0 0, .bool false]) (by simp [results, Try.results93, go_sem]) rfl ⟨_, _, rfl, .inl rfl, bel_alloc B4.out _⟩
  · rw [hR] at RA
    clear hR
    go_enter Try.func93, Try.ntmps93
    go_wp2_with (first
      | (at_builtin; refine RE.wpList_put ES _ rfl (.tmp 23) (.tmp 26) rfl (base := w.heap.size) (some ⟨w.heap.size, 0, none⟩) 0 0 [] A i c (p.take i) rfl rfl HR0.out rfl (by omega) HB0.out.size L1.out (by omega) ((HA.out.later HB0.out).take i) ?_; intro A1 k1 w1 r1 r2 r3; have R1 : Hid (ES.Row w1 w.heap.size A1 (p.take i) k1) := Lib.hid r1; have B1 := Lib.hid (HB0.out.trans (RE.Row.below r2 HR0.out (Nat.le_refl _) HB0.out.size)); clear r1 r2 r3)
      | (at_builtin; refine RE.wpList_put ES _ rfl (.tmp 28) (.tmp 29) rfl (base := w.heap.size) A1 i k1 (p.take i) C q d L2 rfl rfl R1.out L1.out (by omega) B1.out.size HQ.out (by omega) (HC.out.later B1.out) ?_; intro A2 k2 w2 r1 r2 r3; have R2 : Hid (ES.Row w2 w.heap.size A2 (p.take i ++ L2) k2) := Lib.hid r1; have B2 := Lib.hid (B1.out.trans (RE.Row.below r2 R1.out (Nat.le_refl _) B1.out.size)); clear r1 r2 r3)
      | (at_builtin; refine RE.wpList_put ES _ rfl (.tmp 31) (.tmp 36) rfl (base := w.heap.size) A2 (i + q) k2 (p.take i ++ L2) (if c = v then A else Option.map (fun x => x.add v) A) (n - v) (c - v) (p.drop v) rfl rfl R2.out (by rw [List.length_append, L1.out, HQ.out]) (by omega) B2.out.size L3.out (by omega) (es_rd.2 (Pv.rds_drop (es_rd.1 (HA.out.later B2.out)) v c HCL.out)) ?_; intro A3 k3 w3 r1 r2 r3; have R3 : Hid (ES.Rd w3 A3 T) := Lib.hid (by rw [HT.out]; exact r1.rd); have B3 := Lib.hid (B2.out.trans (RE.Row.below r2 R2.out (Nat.le_refl _) B2.out.size)); clear r1 r2 r3)
      | (go_at_call 65; ((with_reducible refine (RA.out A3 k3 _ R3.out).mono ?_); rintro e w4 ⟨rfl, b⟩; have B4 := Lib.hid (bel_trans B3.out b); have R4 := Lib.hid (R3.out.later b); clear b))
      | fail)
    all_goals exact bodyPost_ret (v := .tuple #[.slice A3 (i + q + (n - v)) k3, .bool true]) (by simp [results, Try.results93, go_sem]) rfl ⟨A3, k3, by show _ = Ending.returned (.tuple #[.slice A3 T.length k3, .bool true]); rw [LT.out], es_rd.1 R4.out, B4.out⟩
end Go.Proofs.Ytilnpeekajnlhaa
namespace Go.Proofs.Ytilnpeekajnlhaa
open Go.RowKit Go.Maps
theorem bel_dw {B : Nat} {a w : World} (h : Below B a w) : Below B a w.drew := ⟨h.os, h.tape, h.output, h.size, h.block⟩
end Go.Proofs.Ytilnpeekajnlhaa
namespace Go.Proofs.Ytilnpeekajnlhaa
open Go.RowKit Go.Maps
end Go.Proofs.Ytilnpeekajnlhaa
namespace Go.Proofs.Ytilnpeekajnlhaa
open Go.RowKit Go.Maps
end Go.Proofs.Ytilnpeekajnlhaa
namespace Go.Proofs.Ytilnpeekajnlhaa
open Go.RowKit Go.Maps
theorem R3.nil {W : World} {b : Nat} {A B C : Option Addr} : R3 W b A B C 0 0 0 [] [] [] := ⟨RE.Row.nil, RE.Row.nil, RE.Row.nil⟩
end Go.Proofs.Ytilnpeekajnlhaa
namespace Go.Proofs.Ytilnpeekajnlhaa
open Go.RowKit Go.Maps
theorem rises_iff (p : List ByteArray) : Pv.risesB p = true ↔ ∀ i j, i < j → j < p.length → lt (Pv.at_ p i) (Pv.at_ p j) = true :=
  ⟨fun h i j a b => Pv.rise_all h i j a b, fun h => riseK_of h _ (Nat.le_refl _)⟩
theorem at_cut {p : List ByteArray} {q j : Nat} (hq : q < p.length) : Pv.at_ (p.take q ++ p.drop (q + 1)) j = Pv.at_ p (if j < q then j else j + 1) := by
  unfold Pv.at_
  rw [List.getD_eq_getElem?_getD, List.getD_eq_getElem?_getD]
  congr 1
  by_cases h : j < q
  · rw [if_pos h, List.getElem?_append_left (by rw [List.length_take]; omega), List.getElem?_take, if_pos h]
  · rw [if_neg h, List.getElem?_append_right (by rw [List.length_take]; omega), List.getElem?_drop, List.length_take]
    congr 1; omega
theorem rises_drop {p : List ByteArray} (h : Pv.risesB p = true) (q : Nat) : Pv.risesB (p.take q ++ p.drop (q + 1)) = true := by
  by_cases hq : q < p.length
  · rw [rises_iff] at h ⊢
    intro i j hij hj
    rw [List.length_append, List.length_take, List.length_drop] at hj
    rw [at_cut hq, at_cut hq]
    apply h
    · split <;> split <;> omega
    · split <;> omega
  · rw [List.take_of_length_le (by omega), List.drop_eq_nil_of_le (by omega), List.append_nil]
    exact h
set_option maxRecDepth 100000 in
set_option maxHeartbeats 2000000 in
theorem rput_any (A : Option Addr) (n c : Nat) (i : Int) (s : ByteArray) (p : List ByteArray) (w : World) (hl : p.length = n) (hn : n ≤ 100) (hc : n ≤ c) (hr : ES.Rd w A p) (hi9 : -9223372036854775808 ≤ i ∧ i ≤ 9223372036854775807) :
    Calls Try.prog 51 #[.slice A n c, .int .i64 i, .string s] w (Pv.PvPost (Pv.putF p i s).1 (Pv.putF p i s).2 w) := by
  have B0 := alb w (.cells #[.string s] 9)
  have RL : ES.Rd (w.alloc (.cells #[.string s] 9)) (some ⟨w.heap.size, 0, none⟩) [s] := (RE.Rd.lit (E := ES) w 9 [s] #[.string s] rfl)
  have CA : Hid (Calls Try.prog 93 #[.slice A n c, .int .i64 i, .int .i64 0, .slice (some ⟨w.heap.size, 0, none⟩) 1 1] (w.alloc (.cells #[.string s] 9)) (Pv.PvPost (Pv.putF p i s).1 (Pv.putF p i s).2 (w.alloc (.cells #[.string s] 9)))) := Lib.hid (by
    unfold Pv.putF
    by_cases h0 : 0 ≤ i ∧ i ≤ (p.length : Int)
    · obtain ⟨j, rfl⟩ := Int.eq_ofNat_of_zero_le h0.1
      have q := change_in A (some ⟨w.heap.size, 0, none⟩) n c j 0 1 1 (j + 0) p [s] (w.alloc (.cells #[.string s] 9)) hl hn rfl (by omega) hc (hr.later B0) rfl (by omega) RL
      have e : p.take j ++ [s] ++ p.drop (j + 0) = Pv.ins p j s := by simp [Pv.ins, Pv.mov]
      rw [e] at q
      rw [Int.toNat_natCast]
      cases h : Pv.risesB (Pv.ins p j s)
      · rw [h] at q
        rw [if_neg (by simp)]
        exact q
      · rw [h] at q
        rw [if_pos ⟨h0.1, h0.2, rfl⟩]
        exact q
    · rw [if_neg (fun q => h0 ⟨q.1, q.2.1⟩)]
      exact change_out A (some ⟨w.heap.size, 0, none⟩) n c 1 1 0 i ((n : Int) - 0) (w.alloc (.cells #[.string s] 9)) rfl (by rw [IntWalk.i64_in _ (by omega)]; simp) (by omega))
  have HB := Lib.hid B0
  clear B0 RL hl hn hc hr hi9
  unfold Pv.PvPost at CA
  go_enter Try.func51, Try.ntmps51
  go_wp2_with (first
    | (go_at_call 93; ((with_reducible refine CA.out.mono ?_); rintro e w1 ⟨A1, c1, rfl, r1, b⟩; have R1 := Lib.hid r1; have B1 := Lib.hid (bel_trans HB.out b); clear r1 b))
    | fail)
  exact bodyPost_ret (v := .tuple #[.slice A1 (Pv.putF p i s).2.length c1, .bool (Pv.putF p i s).1]) (by simp [results, Try.results51, go_sem]) rfl ⟨A1, c1, rfl, R1.out, B1.out⟩
set_option maxRecDepth 100000 in
set_option maxHeartbeats 2000000 in
theorem rdrop_any (A : Option Addr) (n c : Nat) (i : Int) (p : List ByteArray) (w : World) (hl : p.length = n) (hn : n ≤ 100) (hc : n ≤ c) (hr : ES.Rd w A p) (hri : Pv.risesB p = true) (hi9 : -9223372036854775808 ≤ i ∧ i ≤ 9223372036854775807) :
    Calls Try.prog 55 #[.slice A n c, .int .i64 i] w (Pv.PvPost (Pv.dropF p i).1 (Pv.dropF p i).2 w) := by
  have B0 := alb w (.cells #[] 9 (0, 0))
  have RL : ES.Rd (w.alloc (.cells #[] 9 (0, 0))) (some ⟨w.heap.size, 0, none⟩) [] := .inl rfl
  have CA : Hid (Calls Try.prog 93 #[.slice A n c, .int .i64 i, .int .i64 1, .slice (some ⟨w.heap.size, 0, none⟩) 0 0] (w.alloc (.cells #[] 9 (0, 0))) (Pv.PvPost (Pv.dropF p i).1 (Pv.dropF p i).2 (w.alloc (.cells #[] 9 (0, 0))))) := Lib.hid (by
    unfold Pv.dropF
    by_cases h0 : 0 ≤ i ∧ i < (p.length : Int)
    · obtain ⟨j, rfl⟩ := Int.eq_ofNat_of_zero_le h0.1
      have q := change_in A (some ⟨w.heap.size, 0, none⟩) n c j 1 0 0 (j + 1) p [] (w.alloc (.cells #[] 9 (0, 0))) hl hn rfl (by omega) hc (hr.later B0) rfl (by omega) RL
      have e : p.take j ++ [] ++ p.drop (j + 1) = p.take j ++ p.drop (j + 1) := by simp [Pv.ins, Pv.mov]
      rw [e] at q
      rw [Int.toNat_natCast]
      have hT : Pv.risesB (p.take j ++ p.drop (j + 1)) = true := rises_drop hri j
      rw [hT] at q
      rw [if_pos h0]
      exact q
    · rw [if_neg h0]
      exact change_out A (some ⟨w.heap.size, 0, none⟩) n c 0 0 1 i ((n : Int) - 1) (w.alloc (.cells #[] 9 (0, 0))) rfl (by rw [IntWalk.i64_in _ (by omega)]; simp) (by omega))
  have HB := Lib.hid B0
  clear B0 RL hl hn hc hr hi9
  unfold Pv.PvPost at CA
  go_enter Try.func55, Try.ntmps55
  go_wp2_with (first
    | (go_at_call 93; ((with_reducible refine CA.out.mono ?_); rintro e w1 ⟨A1, c1, rfl, r1, b⟩; have R1 := Lib.hid r1; have B1 := Lib.hid (bel_trans HB.out b); clear r1 b))
    | fail)
  exact bodyPost_ret (v := .tuple #[.slice A1 (Pv.dropF p i).2.length c1, .bool (Pv.dropF p i).1]) (by simp [results, Try.results55, go_sem]) rfl ⟨A1, c1, rfl, R1.out, B1.out⟩
set_option maxRecDepth 100000 in
set_option maxHeartbeats 2000000 in
theorem rmove_any (A : Option Addr) (n c : Nat) (i : Int) (s : ByteArray) (p : List ByteArray) (w : World) (hl : p.length = n) (hn : n ≤ 100) (hc : n ≤ c) (hr : ES.Rd w A p) (hi9 : -9223372036854775808 ≤ i ∧ i ≤ 9223372036854775807) :
    Calls Try.prog 57 #[.slice A n c, .int .i64 i, .string s] w (Pv.PvPost (Pv.moveF p i s).1 (Pv.moveF p i s).2 w) := by
  have B0 := alb w (.cells #[.string s] 9)
  have RL : ES.Rd (w.alloc (.cells #[.string s] 9)) (some ⟨w.heap.size, 0, none⟩) [s] := (RE.Rd.lit (E := ES) w 9 [s] #[.string s] rfl)
  have CA : Hid (Calls Try.prog 93 #[.slice A n c, .int .i64 i, .int .i64 1, .slice (some ⟨w.heap.size, 0, none⟩) 1 1] (w.alloc (.cells #[.string s] 9)) (Pv.PvPost (Pv.moveF p i s).1 (Pv.moveF p i s).2 (w.alloc (.cells #[.string s] 9)))) := Lib.hid (by
    unfold Pv.moveF
    by_cases h0 : 0 ≤ i ∧ i < (p.length : Int)
    · obtain ⟨j, rfl⟩ := Int.eq_ofNat_of_zero_le h0.1
      have q := change_in A (some ⟨w.heap.size, 0, none⟩) n c j 1 1 1 (j + 1) p [s] (w.alloc (.cells #[.string s] 9)) hl hn rfl (by omega) hc (hr.later B0) rfl (by omega) RL
      have e : p.take j ++ [s] ++ p.drop (j + 1) = Pv.mov p j s := by simp [Pv.ins, Pv.mov]
      rw [e] at q
      rw [Int.toNat_natCast]
      cases h : Pv.risesB (Pv.mov p j s)
      · rw [h] at q
        rw [if_neg (by simp)]
        exact q
      · rw [h] at q
        rw [if_pos ⟨h0.1, h0.2, rfl⟩]
        exact q
    · rw [if_neg (fun q => h0 ⟨q.1, q.2.1⟩)]
      exact change_out A (some ⟨w.heap.size, 0, none⟩) n c 1 1 1 i ((n : Int) - 1) (w.alloc (.cells #[.string s] 9)) rfl (by rw [IntWalk.i64_in _ (by omega)]; simp) (by omega))
  have HB := Lib.hid B0
  clear B0 RL hl hn hc hr hi9
  unfold Pv.PvPost at CA
  go_enter Try.func57, Try.ntmps57
  go_wp2_with (first
    | (go_at_call 93; ((with_reducible refine CA.out.mono ?_); rintro e w1 ⟨A1, c1, rfl, r1, b⟩; have R1 := Lib.hid r1; have B1 := Lib.hid (bel_trans HB.out b); clear r1 b))
    | fail)
  exact bodyPost_ret (v := .tuple #[.slice A1 (Pv.moveF p i s).2.length c1, .bool (Pv.moveF p i s).1]) (by simp [results, Try.results57, go_sem]) rfl ⟨A1, c1, rfl, R1.out, B1.out⟩
theorem ei_drop {w : World} {A : Option Addr} {l : List Int} (h : EI.Rd w A l) (i c : Nat) (hc : l.length ≤ c) : EI.Rd w (if c = i then A else Option.map (fun x => x.add i) A) (l.drop i) := by
  by_cases hi : c = i
  · rw [if_pos hi, List.drop_eq_nil_of_le (by omega)]
    exact .inl rfl
  · rw [if_neg hi]
    rcases h with h | ⟨b, off, rfl, hb, hv⟩
    · have : l = [] := EI.all_empty h
      subst this
      exact .inl (by simp; rfl)
    · have q := RE.Rd.drop (E := EI) (w := w) (b := b) (off := off) (l := l) (.inr ⟨b, off, rfl, hb, hv⟩) i
      have e : (Option.map (fun x => x.add i) (some (⟨b, off, none⟩ : Addr))) = some ⟨b, off + i * EI.k, none⟩ := by
        have : EI.k = 1 := rfl
        rw [this, Nat.mul_one]
        by_cases h0 : i = 0 <;> simp [Addr.add, h0]
      rw [e]; exact q
def KidsP (L : List Int) (m : Nat) (w : World) (r : Ending) (w' : World) : Prop := (∃ A' c', r = .returned (.slice A' m c') ∧ EI.Rd w' A' L) ∧ Below w.heap.size w w'
set_option maxRecDepth 100000 in
set_option maxHeartbeats 4000000 in
theorem kids_any (A C : Option Addr) (n c i k q d v : Nat) (p L2 : List Int) (w : World) (hl : p.length = n) (hn : n ≤ 100) (hv : i + k = v) (hvn : v ≤ n) (hc : n ≤ c) (hr : EI.Rd w A p) (hq : L2.length = q) (hq1 : q ≤ 100) (hC : EI.Rd w C L2) :
    Calls Try.prog 52 #[.slice A n c, .int .i64 (i : Int), .int .i64 (k : Int), .slice C q d] w (KidsP (p.take i ++ L2 ++ p.drop v) (i + q + (n - v)) w) := by
  have HA := Lib.hid hr
  have HC := Lib.hid hC
  have HQ := Lib.hid hq
  have HCL := Lib.hid (show p.length ≤ c by omega)
  have HB0 := Lib.hid (alb w (.cells #[] 3 (0, 0)))
  have HR0 := Lib.hid ((RE.Row.nil : EI.Row (w.alloc (.cells #[] 3 (0, 0))) w.heap.size (some ⟨w.heap.size, 0, none⟩) [] 0))
  have L1 : Hid ((p.take i).length = i) := Lib.hid (by rw [List.length_take]; omega)
  have L3 : Hid ((p.drop v).length = n - v) := Lib.hid (by rw [List.length_drop, hl])
  have i00 : (0 : Int) ≤ (i : Int) := by omega
  have i3 : (i : Int) ≤ (c : Int) := by omega
  have i4 : (i : Int) ≤ (n : Int) := by omega
  have i5 : IntKind.i64.wrap ((i : Int) + (k : Int)) = (v : Int) := by rw [IntWalk.i64_in _ (by omega)]; omega
  have i6 : (v : Int) ≤ (n : Int) := by omega
  have i7 : (v : Int) ≤ (c : Int) := by omega
  have i8 : (0 : Int) ≤ (v : Int) := by omega
  have hiv : i ≤ n := by omega
  clear hr hC hq hl hv
  go_enter Try.func52, Try.ntmps52
  go_wp2_with (first
    | (at_builtin; refine RE.wpList_put EI _ rfl (.tmp 10) (.tmp 13) rfl (base := w.heap.size) (some ⟨w.heap.size, 0, none⟩) 0 0 [] A i c (p.take i) rfl rfl HR0.out rfl (by omega) HB0.out.size L1.out (by omega) ((HA.out.later HB0.out).take i) ?_; intro A1 k1 w1 r1 r2 r3; have R1 : Hid (EI.Row w1 w.heap.size A1 (p.take i) k1) := Lib.hid r1; have B1 := Lib.hid (HB0.out.trans (RE.Row.below r2 HR0.out (Nat.le_refl _) HB0.out.size)); clear r1 r2 r3)
    | (at_builtin; refine RE.wpList_put EI _ rfl (.tmp 15) (.tmp 16) rfl (base := w.heap.size) A1 i k1 (p.take i) C q d L2 rfl rfl R1.out L1.out (by omega) B1.out.size HQ.out (by omega) (HC.out.later B1.out) ?_; intro A2 k2 w2 r1 r2 r3; have R2 : Hid (EI.Row w2 w.heap.size A2 (p.take i ++ L2) k2) := Lib.hid r1; have B2 := Lib.hid (B1.out.trans (RE.Row.below r2 R1.out (Nat.le_refl _) B1.out.size)); clear r1 r2 r3)
    | (at_builtin; refine RE.wpList_put EI _ rfl (.tmp 18) (.tmp 23) rfl (base := w.heap.size) A2 (i + q) k2 (p.take i ++ L2) (if c = v then A else Option.map (fun x => x.add v) A) (n - v) (c - v) (p.drop v) rfl rfl R2.out (by rw [List.length_append, L1.out, HQ.out]) (by omega) B2.out.size L3.out (by omega) (ei_drop (HA.out.later B2.out) v c HCL.out) ?_; intro A3 k3 w3 r1 r2 r3; have R3 : Hid (EI.Rd w3 A3 (p.take i ++ L2 ++ p.drop v)) := Lib.hid r1.rd; have B3 := Lib.hid (B2.out.trans (RE.Row.below r2 R2.out (Nat.le_refl _) B2.out.size)); clear r1 r2 r3)
    | fail)
  all_goals go_ret
  all_goals exact ⟨⟨A3, k3, rfl, by simpa using R3.out⟩, B3.out⟩
end Go.Proofs.Ytilnpeekajnlhaa
namespace Go.Proofs.Ytilnpeekajnlhaa
open Go.RowKit Go.Maps
/-- A node, or none. -/
def TurnP (ok : Bool) (kd : Int) (ps : List ByteArray) (ks : List Int) (ms : List MG) (w : World) (e : Ending) (w' : World) : Prop :=
  ∃ P n pc J k kc M m mc B bc, e = .returned (.tuple #[NV kd (.slice P n pc) (.slice J k kc) (.slice M m mc) (.slice B 0 bc), .bool ok]) ∧ (ps.length = n ∧ ks.length = k ∧ ms.length = m) ∧ (ES.Rd w' P ps ∧ EI.Rd w' J ks ∧ EG.Rd w' M ms) ∧ Below w.heap.size w w'
set_option maxRecDepth 100000 in
set_option maxHeartbeats 4000000 in
theorem split_no (kd : Int) (P J M B : Option Addr) (n pc k kc m mc bc : Nat) (i : Int) (s : ByteArray) (kid : Int) (ps : List ByteArray) (w : World) (PA : ∀ W, Below w.heap.size w W → Calls Try.prog 49 #[.slice P n pc, .int .i64 i, .string s] W (Pv.PvPost false [] W)) :
    Calls Try.prog 19 #[NV kd (.slice P n pc) (.slice J k kc) (.slice M m mc) (.slice B 0 bc), .int .i64 i, .string s, .int .i64 kid] w (TurnP false 0 [] [] [] w) := by
  unfold Pv.PvPost at PA
  have HP := Lib.hid PA
  clear PA
  have y1 := two_new w (NO kd (.slice P n pc) (.slice J k kc) (.slice M m mc) (.slice B 0 bc)) ZN
  have H0 := Lib.hid (bel_alloc (alb w (NO kd (.slice P n pc) (.slice J k kc) (.slice M m mc) (.slice B 0 bc))) ZN)
  have Z := Lib.hid y1.1
  have X := Lib.hid y1.2
  clear y1
  obtain ⟨c0, c1, c2, c3, c4⟩ := cells5 Z.out
  obtain ⟨x0, x1, x2, x3, x4⟩ := cells5 X.out
  obtain ⟨f0, f1, f2, f3, f4⟩ := froz5 X.out
  by_cases h0 : i < 0
  · go_enter Try.func19, Try.ntmps19
    go_wp2
    refine bodyPost_ret (v := .tuple #[NV 0 (.slice none 0 0) (.slice none 0 0) (.slice none 0 0) (.slice none 0 0), .bool false]) (by simp [results, Try.results19, go_sem]) rfl ⟨none, 0, 0, none, 0, 0, none, 0, 0, none, 0, rfl, ⟨rfl, rfl, rfl⟩, ⟨.inl rfl, .inl rfl, .inl rfl⟩, H0.out⟩
  · by_cases h1 : i ≥ (k : Int)
    · have h2 : (k : Int) ≤ i := h1
      go_enter Try.func19, Try.ntmps19
      go_wp2
      refine bodyPost_ret (v := .tuple #[NV 0 (.slice none 0 0) (.slice none 0 0) (.slice none 0 0) (.slice none 0 0), .bool false]) (by simp [results, Try.results19, go_sem]) rfl ⟨none, 0, 0, none, 0, 0, none, 0, 0, none, 0, rfl, ⟨rfl, rfl, rfl⟩, ⟨.inl rfl, .inl rfl, .inl rfl⟩, H0.out⟩
    · have h2 : i < (k : Int) := by omega
      go_enter Try.func19, Try.ntmps19
      go_wp2_with (first
        | (go_at_call 49; ((with_reducible refine (HP.out _ H0.out).mono ?_); rintro e w1 ⟨A1, q1, rfl, r1, b⟩; replace H0 := Lib.hid (bel_trans H0.out b); replace Z := Lib.hid (keep_bel b Z.out); replace X := Lib.hid (keep_bel b X.out); clear b r1 c0 c1 c2 c3 c4 x0 x1 x2 x3 x4 f0 f1 f2 f3 f4; obtain ⟨c0, c1, c2, c3, c4⟩ := cells5 Z.out; obtain ⟨x0, x1, x2, x3, x4⟩ := cells5 X.out; obtain ⟨f0, f1, f2, f3, f4⟩ := froz5 X.out))
        | fail)
      generalize hW5 : World.setCell _ _ _ = W5
      have HC5 := Lib.hid (show Chg (fun g => g = w.heap.size + 1) _ W5 by rw [← hW5]; exact chg5 _ _ _ _ _ _ _)
      have X5 := Lib.hid (show W5.heap[w.heap.size + 1]? = some ZN from (by rw [← hW5]; exact set5w X.out _ _ _ _ _))
      clear hW5 x0 x1 x2 x3 x4
      obtain ⟨x0, x1, x2, x3, x4⟩ := cells5 X5.out
      refine bodyPost_ret (v := .tuple #[NV 0 (.slice none 0 0) (.slice none 0 0) (.slice none 0 0) (.slice none 0 0), .bool false]) (by simp [results, Try.results19, go_sem, x0, x1, x2, x3, x4]) rfl ⟨none, 0, 0, none, 0, 0, none, 0, 0, none, 0, rfl, ⟨rfl, rfl, rfl⟩, ⟨.inl rfl, .inl rfl, .inl rfl⟩, bel_chg H0.out HC5.out (by omega)⟩
set_option maxRecDepth 100000 in
set_option maxHeartbeats 4000000 in
theorem unite_no (kd : Int) (P J M B : Option Addr) (n pc k kc m mc bc : Nat) (i : Int) (ps : List ByteArray) (w : World) (PA : ∀ W, Below w.heap.size w W → Calls Try.prog 53 #[.slice P n pc, .int .i64 i] W (Pv.PvPost false [] W)) :
    Calls Try.prog 21 #[NV kd (.slice P n pc) (.slice J k kc) (.slice M m mc) (.slice B 0 bc), .int .i64 i] w (TurnP false 0 [] [] [] w) := by
  unfold Pv.PvPost at PA
  have HP := Lib.hid PA
  clear PA
  have y1 := two_new w (NO kd (.slice P n pc) (.slice J k kc) (.slice M m mc) (.slice B 0 bc)) ZN
  have H0 := Lib.hid (bel_alloc (alb w (NO kd (.slice P n pc) (.slice J k kc) (.slice M m mc) (.slice B 0 bc))) ZN)
  have Z := Lib.hid y1.1
  have X := Lib.hid y1.2
  clear y1
  obtain ⟨c0, c1, c2, c3, c4⟩ := cells5 Z.out
  obtain ⟨x0, x1, x2, x3, x4⟩ := cells5 X.out
  obtain ⟨f0, f1, f2, f3, f4⟩ := froz5 X.out
  go_enter Try.func21, Try.ntmps21
  go_wp2_with (first
    | (go_at_call 53; ((with_reducible refine (HP.out _ H0.out).mono ?_); rintro e w1 ⟨A1, q1, rfl, r1, b⟩; replace H0 := Lib.hid (bel_trans H0.out b); replace Z := Lib.hid (keep_bel b Z.out); replace X := Lib.hid (keep_bel b X.out); clear b r1 c0 c1 c2 c3 c4 x0 x1 x2 x3 x4 f0 f1 f2 f3 f4; obtain ⟨c0, c1, c2, c3, c4⟩ := cells5 Z.out; obtain ⟨x0, x1, x2, x3, x4⟩ := cells5 X.out; obtain ⟨f0, f1, f2, f3, f4⟩ := froz5 X.out))
    | fail)
  generalize hW5 : World.setCell _ _ _ = W5
  have HC5 := Lib.hid (show Chg (fun g => g = w.heap.size + 1) _ W5 by rw [← hW5]; exact chg5 _ _ _ _ _ _ _)
  have X5 := Lib.hid (show W5.heap[w.heap.size + 1]? = some ZN from (by rw [← hW5]; exact set5w X.out _ _ _ _ _))
  clear hW5 x0 x1 x2 x3 x4
  obtain ⟨x0, x1, x2, x3, x4⟩ := cells5 X5.out
  refine bodyPost_ret (v := .tuple #[NV 0 (.slice none 0 0) (.slice none 0 0) (.slice none 0 0) (.slice none 0 0), .bool false]) (by simp [results, Try.results21, go_sem, x0, x1, x2, x3, x4]) rfl ⟨none, 0, 0, none, 0, 0, none, 0, 0, none, 0, rfl, ⟨rfl, rfl, rfl⟩, ⟨.inl rfl, .inl rfl, .inl rfl⟩, bel_chg H0.out HC5.out (by omega)⟩
set_option maxRecDepth 100000 in
set_option maxHeartbeats 4000000 in
theorem move_no (kd : Int) (P J M B : Option Addr) (n pc k kc m mc bc : Nat) (i : Int) (s : ByteArray) (ps : List ByteArray) (w : World) (PA : ∀ W, Below w.heap.size w W → Calls Try.prog 56 #[.slice P n pc, .int .i64 i, .string s] W (Pv.PvPost false [] W)) :
    Calls Try.prog 23 #[NV kd (.slice P n pc) (.slice J k kc) (.slice M m mc) (.slice B 0 bc), .int .i64 i, .string s] w (TurnP false 0 [] [] [] w) := by
  unfold Pv.PvPost at PA
  have HP := Lib.hid PA
  clear PA
  have y1 := two_new w (NO kd (.slice P n pc) (.slice J k kc) (.slice M m mc) (.slice B 0 bc)) ZN
  have H0 := Lib.hid (bel_alloc (alb w (NO kd (.slice P n pc) (.slice J k kc) (.slice M m mc) (.slice B 0 bc))) ZN)
  have Z := Lib.hid y1.1
  have X := Lib.hid y1.2
  clear y1
  obtain ⟨c0, c1, c2, c3, c4⟩ := cells5 Z.out
  obtain ⟨x0, x1, x2, x3, x4⟩ := cells5 X.out
  obtain ⟨f0, f1, f2, f3, f4⟩ := froz5 X.out
  go_enter Try.func23, Try.ntmps23
  go_wp2_with (first
    | (go_at_call 56; ((with_reducible refine (HP.out _ H0.out).mono ?_); rintro e w1 ⟨A1, q1, rfl, r1, b⟩; replace H0 := Lib.hid (bel_trans H0.out b); replace Z := Lib.hid (keep_bel b Z.out); replace X := Lib.hid (keep_bel b X.out); clear b r1 c0 c1 c2 c3 c4 x0 x1 x2 x3 x4 f0 f1 f2 f3 f4; obtain ⟨c0, c1, c2, c3, c4⟩ := cells5 Z.out; obtain ⟨x0, x1, x2, x3, x4⟩ := cells5 X.out; obtain ⟨f0, f1, f2, f3, f4⟩ := froz5 X.out))
    | fail)
  generalize hW5 : World.setCell _ _ _ = W5
  have HC5 := Lib.hid (show Chg (fun g => g = w.heap.size + 1) _ W5 by rw [← hW5]; exact chg5 _ _ _ _ _ _ _)
  have X5 := Lib.hid (show W5.heap[w.heap.size + 1]? = some ZN from (by rw [← hW5]; exact set5w X.out _ _ _ _ _))
  clear hW5 x0 x1 x2 x3 x4
  obtain ⟨x0, x1, x2, x3, x4⟩ := cells5 X5.out
  refine bodyPost_ret (v := .tuple #[NV 0 (.slice none 0 0) (.slice none 0 0) (.slice none 0 0) (.slice none 0 0), .bool false]) (by simp [results, Try.results23, go_sem, x0, x1, x2, x3, x4]) rfl ⟨none, 0, 0, none, 0, 0, none, 0, 0, none, 0, rfl, ⟨rfl, rfl, rfl⟩, ⟨.inl rfl, .inl rfl, .inl rfl⟩, bel_chg H0.out HC5.out (by omega)⟩
end Go.Proofs.Ytilnpeekajnlhaa
namespace Go.Proofs.Ytilnpeekajnlhaa
open Go.RowKit Go.Maps
theorem rd_chgD {α : Type} {E : RE α} {W W' : World} {A : Option Addr} {l : List α} {D : Nat → Prop} (h : E.Rd W A l) (hc : Chg D W W') (hA : l = [] ∨ ∀ g o s, A = some ⟨g, o, s⟩ → ¬ D g) : E.Rd W' A l := by
  rcases h with h | ⟨b, off, rfl, hb, hv⟩
  · exact .inl h
  · rcases hA with rfl | hA
    · exact .inl rfl
    · exact .inr ⟨b, off, rfl, Nat.lt_of_lt_of_le hb hc.size, fun j u hj => (World.cell?_of_block (hc.block b hb (hA b off none rfl))).trans (hv j u hj)⟩
/-- A row of texts does not lie in a node's box. -/
theorem text_off {W : World} {A : Option Addr} {T : List ByteArray} {N : Nat} {kd : Int} {b1 b2 b3 b4 : Option Addr} {n1 n2 n3 n4 c1 c2 c3 c4 : Nat} {t : TypeId} (h : ES.Rd W A T) (z : W.heap[N]? = some (.cells #[.int .u8 kd, .slice b1 n1 c1, .slice b2 n2 c2, .slice b3 n3 c3, .slice b4 n4 c4] t (0, 0))) : T = [] ∨ ∀ g o s, A = some ⟨g, o, s⟩ → g ≠ N := by
  cases T with
  | nil => exact .inl rfl
  | cons x xs =>
    right
    rintro g o s rfl e
    subst e
    rcases h with h | ⟨b, off, e, hb, hv⟩
    · have := ES.all_empty h
      cases this
    · cases e
      have q := hv 0 (.string x) (by rw [RE.all_cons]; rfl)
      simp only [Nat.add_zero, World.cell?, z] at q
      match o, q with
      | 0, q => simp at q
      | 1, q => simp at q
      | 2, q => simp at q
      | 3, q => simp at q
      | 4, q => simp at q
      | (j + 5), q => simp at q
theorem row_blk {α : Type} {E : RE α} {W : World} {base c : Nat} {A : Option Addr} {l : List α} (h : E.Row W base A l c) {g o : Nat} {s} (e : A = some ⟨g, o, s⟩) (hl : 0 < l.length) : base ≤ g ∧ ∃ cs, W.heap[g]? = some (.cells cs E.et (0, 0)) := by
  rcases h with ⟨e, _⟩ | ⟨h0, h1, h2⟩
  · subst e; simp at hl
  rcases h2 with ⟨hv', hn'⟩ | ⟨g, c2, cur, hv', hb, hz, h3, h4, h5, h6⟩
  · injection hv' with e1 e2 e3; omega
  cases hv'
  cases e
  exact ⟨hb, cur, hz⟩
/-- Three rows that lie in no box of lo and what follows it. -/
structure T3 (W : World) (lo : Nat) (A J M : Option Addr) (T : List ByteArray) (ks : List Int) (ms : List MG) : Prop where
  rt : ES.Rd W A T
  rj : EI.Rd W J ks
  rm : EG.Rd W M ms
  nt : T = [] ∨ ∀ g o s, A = some ⟨g, o, s⟩ → g ≠ lo ∧ g ≠ lo + 1
  nj : ks = [] ∨ ∀ g o s, J = some ⟨g, o, s⟩ → g ≠ lo ∧ g ≠ lo + 1
  nm : ms = [] ∨ ∀ g o s, M = some ⟨g, o, s⟩ → g ≠ lo ∧ g ≠ lo + 1
theorem T3.chg {W W' : World} {lo N : Nat} {A J M : Option Addr} {T : List ByteArray} {ks : List Int} {ms : List MG} (h : T3 W lo A J M T ks ms) (hc : Chg (fun g => g = N) W W') (hN : N = lo ∨ N = lo + 1) : T3 W' lo A J M T ks ms :=
  ⟨rd_chgD h.rt hc (h.nt.imp id fun q g o s e d => by have := q g o s e; omega), rd_chgD h.rj hc (h.nj.imp id fun q g o s e d => by have := q g o s e; omega), rd_chgD h.rm hc (h.nm.imp id fun q g o s e d => by have := q g o s e; omega), h.nt, h.nj, h.nm⟩
def TN (lo N : Nat) (A : Option Addr) (T : List ByteArray) : Prop := T = [] ∨ ∀ g o s, A = some ⟨g, o, s⟩ → g ≠ lo ∧ g ≠ lo + 1 ∧ g < N
theorem row_off {α : Type} {E : RE α} {W : World} {base c lo : Nat} {A : Option Addr} {l : List α} (h : E.Row W base A l c) (hb : lo + 2 ≤ base) : l = [] ∨ ∀ g o s, A = some ⟨g, o, s⟩ → g ≠ lo ∧ g ≠ lo + 1 := by
  cases l with
  | nil => exact .inl rfl
  | cons x xs => exact .inr fun g o s e => by have := (row_blk h e (by simp)).1; omega
theorem T3.own {W : World} {lo N : Nat} {A P J M : Option Addr} {pc kc mc : Nat} {T ps : List ByteArray} {ks : List Int} {ms : List MG} (h : ES.Rd W A T) (ht : TN lo N A T) (hr : R3 W N P J M pc kc mc ps ks ms) (hN : lo + 2 ≤ N) : T3 W lo A J M T ks ms :=
  ⟨h, hr.r2.rd, hr.r3.rd, ht.imp id fun q g o s e => ⟨(q g o s e).1, (q g o s e).2.1⟩, row_off hr.r2 hN, row_off hr.r3 hN⟩
theorem T3.put {W W' : World} {lo N : Nat} {A P J M JN : Option Addr} {pc kc mc : Nat} {T ps : List ByteArray} {ks nks : List Int} {ms : List MG} (h : ES.Rd W A T) (ht : TN lo N A T) (hr : R3 W N P J M pc kc mc ps ks ms) (hN : lo + 2 ≤ N) (hk : 0 < ks.length) (hc : Chg (fun y => J = some ⟨y, 0, none⟩) W W') (rj : EI.Rd W' JN nks) (hb : ∀ b o s, JN = some ⟨b, o, s⟩ → N ≤ b) : T3 W' lo A JN M T nks ms := by
  refine ⟨rd_chgD h hc ?_, rj, rd_chgD hr.r3.rd hc ?_, ht.imp id fun q g o s e => ⟨(q g o s e).1, (q g o s e).2.1⟩, .inr fun g o s e => by have := hb g o s e; omega, row_off hr.r3 hN⟩
  · exact ht.imp id fun q g o s e d => by have h1 := (q g o s e).2.2; have h2 := (row_blk hr.r2 d hk).1; omega
  · cases ms with
    | nil => exact .inl rfl
    | cons x xs =>
      refine .inr fun g o s e d => ?_
      obtain ⟨_, cs, h1⟩ := row_blk hr.r2 d hk
      obtain ⟨_, cs2, h2⟩ := row_blk hr.r3 e (by simp)
      rw [h1] at h2
      have e1 : EI.et = EG.et := by injection h2 with h2; injection h2
      exact absurd e1 (by decide)
theorem tn_of {W : World} {A : Option Addr} {T : List ByteArray} {N : Nat} {kd : Int} {b1 b2 b3 b4 : Option Addr} {n1 n2 n3 n4 c1 c2 c3 c4 : Nat} (h : ES.Rd W A T) (z : W.heap[N]? = some (NO kd (.slice b1 n1 c1) (.slice b2 n2 c2) (.slice b3 n3 c3) (.slice b4 n4 c4))) (x : W.heap[N + 1]? = some ZN) : TN N W.heap.size A T := by
  rcases text_off h z with q | q
  · exact .inl q
  · rcases text_off h x with q2 | q2
    · exact .inl q2
    · rcases h with h | ⟨b, off, e2, hb, hv⟩
      · exact .inl (ES.all_empty h)
      · refine .inr fun g o s e => ⟨q g o s e, q2 g o s e, ?_⟩
        cases e.symm.trans e2
        exact hb
end Go.Proofs.Ytilnpeekajnlhaa
