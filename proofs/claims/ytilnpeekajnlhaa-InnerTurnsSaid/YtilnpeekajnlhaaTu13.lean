/- Texts of the proof, one behind the other. -/
import Derived.Test.YtilnpeekajnlhaaTu12
import Derived.Test.YtilnpeekajnlhaaTu10
import Derived.Test.YtilnpeekajnlhaaTu02
import Derived.RangeFuncNested
import Derived.RangeFuncBound
import Derived.RangeFuncCalls
import Derived.RangeFuncLeaves
import Derived.Shelf.Abstract
import Derived.Shelf.RegionOpen
import Derived.OwnWalkIn
import Derived.TacticsInMore
import Derived.LoopNIn
import Derived.LoopIn
set_option linter.unusedVariables false
set_option linter.unusedSimpArgs false
namespace Go.Proofs.Ytilnpeekajnlhaa.Pv
open Go.RowKit

theorem risen_yes (A : Option Addr) (l : List ByteArray) (n c : Nat) (w : World) (hl : l.length = n) (hn : n ≤ 1000) (hr : RdS w A l) (h : risesB l = true) :
    Calls Try.prog 90 #[.slice A n c] w fun e w' => e = .returned (.tuple #[.slice A n c, .bool true]) ∧ Below w.heap.size w w' := by
  have RI := Lib.hid (rises_any A l n c w hl hn hr)
  rw [h] at RI
  clear hr hl h
  go_enter Try.func90, Try.ntmps90
  go_wp2_with (go_at_call 78; ((with_reducible refine RI.out.mono ?_); rintro e w1 ⟨rfl, b1⟩; have B1 := Lib.hid b1; clear b1))
  exact bodyPost_ret (v := .tuple #[.slice A n c, .bool true]) (by simp [results, Try.results90, go_sem]) rfl ⟨rfl, B1.out⟩
theorem risen_no (A : Option Addr) (l : List ByteArray) (n c : Nat) (w : World) (hl : l.length = n) (hn : n ≤ 1000) (hr : RdS w A l) (h : risesB l = false) :
    Calls Try.prog 90 #[.slice A n c] w fun e w' => e = .returned (.tuple #[.slice none 0 0, .bool false]) ∧ Below w.heap.size w w' := by
  have RI := Lib.hid (rises_any A l n c w hl hn hr)
  rw [h] at RI
  clear hr hl h
  go_enter Try.func90, Try.ntmps90
  go_wp2_with (go_at_call 78; ((with_reducible refine RI.out.mono ?_); rintro e w1 ⟨rfl, b1⟩; have B1 := Lib.hid b1; clear b1))
  exact bodyPost_ret (v := .tuple #[.slice none 0 0, .bool false]) (by simp [results, Try.results90, go_sem]) rfl ⟨rfl, B1.out⟩
theorem rds_drop {w : World} {A : Option Addr} {l : List ByteArray} (h : RdS w A l) (i c : Nat) (hc : l.length ≤ c) : RdS w (if c = i then A else Option.map (fun x => x.add i) A) (l.drop i) := by
  by_cases e : c = i
  · subst e
    exact .inl (by rw [List.drop_eq_nil_of_le hc]; rfl)
  · rw [if_neg e]
    rcases h with h | ⟨b, off, rfl, hlt, hcell⟩
    · have : l = [] := List.map_eq_nil_iff.1 h
      subst this
      exact .inl (by simp)
    · refine .inr ⟨b, off + i, by simp [Addr.add_lit], hlt, fun j u hj => ?_⟩
      rw [List.map_drop, List.getElem?_drop] at hj
      rw [Nat.add_assoc]
      exact hcell _ _ hj
theorem rds_dropE {w : World} {A : Option Addr} {l : List ByteArray} (h : RdS w A l) (i c : Nat) (hc : l.length ≤ c) : RdS w (if c = i then A else Option.map (fun x => (⟨x.block, x.off + i, none⟩ : Addr)) A) (l.drop i) := by
  by_cases e : c = i
  · subst e
    exact .inl (by rw [List.drop_eq_nil_of_le hc]; rfl)
  · rw [if_neg e]
    rcases h with h | ⟨b, off, rfl, hlt, hcell⟩
    · have : l = [] := List.map_eq_nil_iff.1 h
      subst this
      exact .inl (by simp)
    · refine .inr ⟨b, off + i, rfl, hlt, fun j u hj => ?_⟩
      rw [List.map_drop, List.getElem?_drop] at hj
      rw [Nat.add_assoc]
      exact hcell _ _ hj
theorem own_le {w : World} {base n c size : Nat} {e : TypeId} {A : Option Addr} {xs : List Value} (h : w.ownsRow base e size (.slice A n c) n xs) : n ≤ c ∧ c ≤ maxLen := by
  rcases h.2 with ⟨hv, h0⟩ | ⟨g, cap, cur, hv, _, _, h1, h2, _⟩
  · cases hv; exact ⟨Nat.le_refl _, Nat.zero_le _⟩
  · cases hv; exact ⟨h1, h2⟩
def PutPost (w : World) (l : List ByteArray) (e : Ending) (w' : World) : Prop := ∃ A c, e = .returned (.tuple #[.slice A l.length c, .bool true]) ∧ RdS w' A l ∧ Below w.heap.size w w' ∧ (l.length ≤ c ∧ c ≤ maxLen)
set_option maxRecDepth 100000 in
set_option maxHeartbeats 2000000 in
theorem put_yes (A : Option Addr) (p : List ByteArray) (n c i : Nat) (s : ByteArray) (w : World) (hl : p.length = n) (hn : n ≤ 900) (hc : n ≤ c) (hm : c ≤ 9223372036854775807) (hi : i ≤ n) (hA : A = none → n = 0) (hr : RdS w A p) (h : risesB (ins p i s) = true) :
    Calls Try.prog 49 #[.slice A n c, .int .i64 i, .string s] w (PutPost w (ins p i s)) := by
  have i0 : (0 : Int) ≤ (i : Int) := by omega
  have i1 : (i : Int) ≤ (n : Int) := by omega
  have i2 : (i : Int) ≤ (c : Int) := by omega
  have i3 : (n : Int) ≤ (c : Int) := by omega
  have i4 : i ≤ c := by omega
  have i5 : (c : Int) ≤ 9223372036854775807 := by omega
  have HI := Lib.hid h
  have HR := Lib.hid hr
  have HL := Lib.hid hl
  have HA := Lib.hid (show A = none → i = 0 from fun e => by have := hA e; omega)
  have XB : Hid (Below w.heap.size w (w.alloc (.cells #[.string s] 9)).drew) := Lib.hid (bel_dw (bel_alloc (Below.refl _ _) _))
  have R1 := Lib.hid (rd_take (Rd.later hr XB.out) i)
  have R2 := Lib.hid (fun W (hb : Below w.heap.size w W) => rds_drop (Rd.later hr hb) i c (by omega))
  have R2E := Lib.hid (fun W (hb : Below w.heap.size w W) => rds_dropE (Rd.later hr hb) i c (by omega))
  have L1 : Hid ((p.take i).length = i) := Lib.hid (by simp; omega)
  have L2 : Hid ((p.drop i).length = n - i) := Lib.hid (by simp; omega)
  have C1 : Hid ((w.alloc (.cells #[.string s] 9)).drew.cell? ((⟨w.heap.size, 0, none⟩ : Addr).add 0) = some (.string s)) := Lib.hid (by simp [Addr.add, go_sem])
  have E1 : Hid (((p.take i).map Value.string ++ [Value.string s]) ++ (p.drop i).map Value.string = (ins p i s).map Value.string) := Lib.hid (by simp [ins])
  have N1 := Lib.hid (ins_length s (show i ≤ p.length by omega))
  clear hr hl h hA
  go_enter Try.func49, Try.ntmps49
  go_wp2_with fail
  go_region_law (first
    | (refine step_fullS _ rfl (.tmp 19) (.tmp 21) rfl A i (p.take i) ⟨w.heap.size, 0, none⟩ s (by simp [Act.eval, Act.put]) (by simp [Act.eval, Act.put]) L1.out (by omega) HA.out R1.out C1.out ?_; intro v2 w2 o2 g2; have O2 := Lib.hid o2; have B2 := Lib.hid (XB.out.grown g2 XB.out.size (fun k e => by cases e)); have Z2 := Lib.hid g2.size; clear o2 g2)
    | (refine step_putS _ rfl (.tmp 22) (.tmp 25) rfl (v := v2) (if c = i then A else Option.map (fun x => x.add i) A) (n - i) (c - i) (p.drop i) (by simp [Act.eval, Act.put]) (by simp [Act.eval, Act.put]) O2.out (by omega) Z2.out L2.out (by omega) (R2.out _ B2.out) ?_; intro v3 w3 o3 g3; have B3 := Lib.hid (B2.out.grown g3 B2.out.size (fun k e => by have := (O2.out.lt k e).1; simp at this; omega)); obtain ⟨a3, c3, rfl⟩ := own_shape o3; have CC3 := Lib.hid (own_le o3); have RD3 : Hid (RdS w3 a3 (ins p i s)) := Lib.hid (by have h := Rd.of_own o3 (by decide); rw [E1.out] at h; exact h); clear o3 g3)
    | (refine step_putS _ rfl (.tmp 22) (.tmp 25) rfl (v := v2) (if c = i then A else Option.map (fun x => (⟨x.block, x.off + i, none⟩ : Addr)) A) (n - i) (c - i) (p.drop i) (by simp [Act.eval, Act.put]) (by simp [Act.eval, Act.put]) O2.out (by omega) Z2.out L2.out (by omega) (R2E.out _ B2.out) ?_; intro v3 w3 o3 g3; have B3 := Lib.hid (B2.out.grown g3 B2.out.size (fun k e => by have := (O2.out.lt k e).1; simp at this; omega)); obtain ⟨a3, c3, rfl⟩ := own_shape o3; have CC3 := Lib.hid (own_le o3); have RD3 : Hid (RdS w3 a3 (ins p i s)) := Lib.hid (by have h := Rd.of_own o3 (by decide); rw [E1.out] at h; exact h); clear o3 g3)
    | (go_simp; go_at_call 90; ((with_reducible refine (risen_yes a3 (ins p i s) (i + 1 + (n - i)) c3 w3 (by rw [N1.out, HL.out]; omega) (by omega) RD3.out HI.out).mono ?_); rintro e w4 ⟨rfl, b4⟩; have RD4 := Lib.hid (Rd.later RD3.out b4); have B4 := Lib.hid (B3.out.trans (b4.mono B3.out.size)); clear b4))
    | fail)
  all_goals go_wp2
  all_goals exact bodyPost_ret (v := .tuple #[.slice a3 (i + 1 + (n - i)) c3, .bool true]) (by simp [results, Try.results49, go_sem]) rfl ⟨a3, c3, by rw [N1.out, HL.out, show n + 1 = i + 1 + (n - i) by omega], RD4.out, B4.out, by rw [N1.out, HL.out, show n + 1 = i + 1 + (n - i) by omega]; exact CC3.out⟩
set_option maxRecDepth 100000 in
set_option maxHeartbeats 2000000 in
theorem drop_yes (A : Option Addr) (p : List ByteArray) (n c i : Nat) (w : World) (hl : p.length = n) (hn : n ≤ 900) (hc : n ≤ c) (hm : c ≤ 9223372036854775807) (hi : i < n) (hr : RdS w A p) :
    Calls Try.prog 53 #[.slice A n c, .int .i64 i] w (PutPost w (p.take i ++ p.drop (i + 1))) := by
  have i0 : (0 : Int) ≤ (i : Int) := by omega
  have i1 : (i : Int) < (n : Int) := by omega
  have i2 : (i : Int) ≤ (c : Int) := by omega
  have i3 : (n : Int) ≤ (c : Int) := by omega
  have i4 : i ≤ c := by omega
  have i5 : (c : Int) ≤ 9223372036854775807 := by omega
  have i6 : (i : Int) + 1 ≤ (n : Int) := by omega
  have i7 : (i : Int) ≤ 900 := by omega
  have i8 : ((i : Int) + 1).toNat = i + 1 := by omega
  have i9 : IntKind.i64.wrap ((i : Int) + 1) = (i : Int) + 1 := IntWalk.i64_in _ (by omega)
  have i10 : (0 : Int) ≤ (i : Int) + 1 := by omega
  have OW := Lib.hid (fun W (hb : Below w.heap.size w W) => own_row A i c (p.take i) W (by simp; omega) (by omega) (rd_take (Rd.later hr hb) i))
  have R2 := Lib.hid (fun W (hb : Below w.heap.size w W) => rds_dropE (Rd.later hr hb) (i + 1) c (by omega))
  have L1 : Hid ((p.take i).length = i) := Lib.hid (by simp; omega)
  have L2 : Hid ((p.drop (i + 1)).length = n - (i + 1)) := Lib.hid (by simp; omega)
  have BD : Hid (Below w.heap.size w w.drew) := Lib.hid (bel_dw (Below.refl _ _))
  clear hr hl
  go_enter Try.func53, Try.ntmps53
  go_wp2_with fail
  go_region_law (first
    | (go_simp; go_at_call 94; ((with_reducible refine (OW.out _ BD.out).mono ?_); rintro e w2 ⟨A2, c2, rfl, r2, b2⟩; rw [L1.out]; have RW := Lib.hid r2; have B2 := Lib.hid (BD.out.trans (b2.mono BD.out.size)); have Z2 := Lib.hid b2.size; clear r2 b2))
    | (refine step_put_row _ rfl (.tmp 17) (.tmp 21) rfl A2 i c2 (p.take i) (if c = i + 1 then A else Option.map (fun x => (⟨x.block, x.off + (i + 1), none⟩ : Addr)) A) (n - (i + 1)) (c - (i + 1)) (p.drop (i + 1)) (by simp [Act.eval, Act.put]) (by simp [Act.eval, Act.put]) RW.out L1.out (by omega) Z2.out L2.out (by omega) (R2.out _ B2.out) ?_; intro A3 c3 w3 r3 g3 _; have RD3 := Lib.hid r3.rd; have CC3 := Lib.hid r3.cap; have B3 := Lib.hid (B2.out.grown g3 B2.out.size (fun k e => (RW.out.fp_lt e).1)); clear r3 g3)
    | fail)
  all_goals go_wp2
  all_goals exact bodyPost_ret (v := .tuple #[.slice A3 (i + (n - (i + 1))) c3, .bool true]) (by simp [results, Try.results53, go_sem]) rfl ⟨A3, c3, by rw [List.length_append, L1.out, L2.out], RD3.out, B3.out, CC3.out⟩
end Go.Proofs.Ytilnpeekajnlhaa.Pv
namespace Go.Proofs.Ytilnpeekajnlhaa.Pv
open Go.RowKit
def mov (p : List ByteArray) (i : Nat) (s : ByteArray) : List ByteArray := p.take i ++ s :: p.drop (i + 1)
theorem mov_length {p : List ByteArray} {i : Nat} (s : ByteArray) (hi : i < p.length) : (mov p i s).length = p.length := by simp [mov]; omega
set_option maxRecDepth 100000 in
set_option maxHeartbeats 2000000 in
theorem put_no (A : Option Addr) (p : List ByteArray) (n c i : Nat) (s : ByteArray) (w : World) (hl : p.length = n) (hn : n ≤ 900) (hc : n ≤ c) (hm : c ≤ 9223372036854775807) (hi : i ≤ n) (hA : A = none → n = 0) (hr : RdS w A p) (h : risesB (ins p i s) = false) :
    Calls Try.prog 49 #[.slice A n c, .int .i64 i, .string s] w fun e w' => e = .returned (.tuple #[.slice none 0 0, .bool false]) ∧ Below w.heap.size w w' := by
  have i0 : (0 : Int) ≤ (i : Int) := by omega
  have i1 : (i : Int) ≤ (n : Int) := by omega
  have i2 : (i : Int) ≤ (c : Int) := by omega
  have i3 : (n : Int) ≤ (c : Int) := by omega
  have i4 : i ≤ c := by omega
  have i5 : (c : Int) ≤ 9223372036854775807 := by omega
  have HI := Lib.hid h
  have HR := Lib.hid hr
  have HL := Lib.hid hl
  have HA := Lib.hid (show A = none → i = 0 from fun e => by have := hA e; omega)
  have XB : Hid (Below w.heap.size w (w.alloc (.cells #[.string s] 9)).drew) := Lib.hid (bel_dw (bel_alloc (Below.refl _ _) _))
  have R1 := Lib.hid (rd_take (Rd.later hr XB.out) i)
  have R2 := Lib.hid (fun W (hb : Below w.heap.size w W) => rds_drop (Rd.later hr hb) i c (by omega))
  have R2E := Lib.hid (fun W (hb : Below w.heap.size w W) => rds_dropE (Rd.later hr hb) i c (by omega))
  have L1 : Hid ((p.take i).length = i) := Lib.hid (by simp; omega)
  have L2 : Hid ((p.drop i).length = n - i) := Lib.hid (by simp; omega)
  have C1 : Hid ((w.alloc (.cells #[.string s] 9)).drew.cell? ((⟨w.heap.size, 0, none⟩ : Addr).add 0) = some (.string s)) := Lib.hid (by simp [Addr.add, go_sem])
  have E1 : Hid (((p.take i).map Value.string ++ [Value.string s]) ++ (p.drop i).map Value.string = (ins p i s).map Value.string) := Lib.hid (by simp [ins])
  have N1 := Lib.hid (ins_length s (show i ≤ p.length by omega))
  clear hr hl h hA
  go_enter Try.func49, Try.ntmps49
  go_wp2_with fail
  go_region_law (first
    | (refine step_fullS _ rfl (.tmp 19) (.tmp 21) rfl A i (p.take i) ⟨w.heap.size, 0, none⟩ s (by simp [Act.eval, Act.put]) (by simp [Act.eval, Act.put]) L1.out (by omega) HA.out R1.out C1.out ?_; intro v2 w2 o2 g2; have O2 := Lib.hid o2; have B2 := Lib.hid (XB.out.grown g2 XB.out.size (fun k e => by cases e)); have Z2 := Lib.hid g2.size; clear o2 g2)
    | (refine step_putS _ rfl (.tmp 22) (.tmp 25) rfl (v := v2) (if c = i then A else Option.map (fun x => x.add i) A) (n - i) (c - i) (p.drop i) (by simp [Act.eval, Act.put]) (by simp [Act.eval, Act.put]) O2.out (by omega) Z2.out L2.out (by omega) (R2.out _ B2.out) ?_; intro v3 w3 o3 g3; have B3 := Lib.hid (B2.out.grown g3 B2.out.size (fun k e => by have := (O2.out.lt k e).1; simp at this; omega)); obtain ⟨a3, c3, rfl⟩ := own_shape o3; have RD3 : Hid (RdS w3 a3 (ins p i s)) := Lib.hid (by have h := Rd.of_own o3 (by decide); rw [E1.out] at h; exact h); clear o3 g3)
    | (refine step_putS _ rfl (.tmp 22) (.tmp 25) rfl (v := v2) (if c = i then A else Option.map (fun x => (⟨x.block, x.off + i, none⟩ : Addr)) A) (n - i) (c - i) (p.drop i) (by simp [Act.eval, Act.put]) (by simp [Act.eval, Act.put]) O2.out (by omega) Z2.out L2.out (by omega) (R2E.out _ B2.out) ?_; intro v3 w3 o3 g3; have B3 := Lib.hid (B2.out.grown g3 B2.out.size (fun k e => by have := (O2.out.lt k e).1; simp at this; omega)); obtain ⟨a3, c3, rfl⟩ := own_shape o3; have RD3 : Hid (RdS w3 a3 (ins p i s)) := Lib.hid (by have h := Rd.of_own o3 (by decide); rw [E1.out] at h; exact h); clear o3 g3)
    | (go_simp; go_at_call 90; ((with_reducible refine (risen_no a3 (ins p i s) (i + 1 + (n - i)) c3 w3 (by rw [N1.out, HL.out]; omega) (by omega) RD3.out HI.out).mono ?_); rintro e w4 ⟨rfl, b4⟩; have RD4 := Lib.hid (Rd.later RD3.out b4); have B4 := Lib.hid (B3.out.trans (b4.mono B3.out.size)); clear b4))
    | fail)
  all_goals go_wp2
  all_goals exact bodyPost_ret (v := .tuple #[.slice none 0 0, .bool false]) (by simp [results, Try.results49, go_sem]) rfl ⟨rfl, B4.out⟩

set_option maxRecDepth 100000 in
set_option maxHeartbeats 2000000 in
theorem move_yes (A : Option Addr) (p : List ByteArray) (n c i : Nat) (s : ByteArray) (w : World) (hl : p.length = n) (hn : n ≤ 900) (hc : n ≤ c) (hm : c ≤ 9223372036854775807) (hi : i < n) (hA : A = none → n = 0) (hr : RdS w A p) (h : risesB (mov p i s) = true) :
    Calls Try.prog 56 #[.slice A n c, .int .i64 i, .string s] w (PutPost w (mov p i s)) := by
  have i0 : (0 : Int) ≤ (i : Int) := by omega
  have i1 : (i : Int) < (n : Int) := by omega
  have i6 : (i : Int) + 1 ≤ (n : Int) := by omega
  have i7 : (i : Int) ≤ 900 := by omega
  have i8 : ((i : Int) + 1).toNat = i + 1 := by omega
  have i9 : IntKind.i64.wrap ((i : Int) + 1) = (i : Int) + 1 := IntWalk.i64_in _ (by omega)
  have i10 : (0 : Int) ≤ (i : Int) + 1 := by omega
  have i11 : (i : Int) + 1 ≤ (c : Int) := by omega
  have i2 : (i : Int) ≤ (c : Int) := by omega
  have i3 : (n : Int) ≤ (c : Int) := by omega
  have i4 : i ≤ c := by omega
  have i5 : (c : Int) ≤ 9223372036854775807 := by omega
  have HI := Lib.hid h
  have HR := Lib.hid hr
  have HL := Lib.hid hl
  have HA := Lib.hid (show A = none → i = 0 from fun e => by have := hA e; omega)
  have XB : Hid (Below w.heap.size w (w.alloc (.cells #[.string s] 9)).drew) := Lib.hid (bel_dw (bel_alloc (Below.refl _ _) _))
  have R1 := Lib.hid (rd_take (Rd.later hr XB.out) i)
  have R2 := Lib.hid (fun W (hb : Below w.heap.size w W) => rds_drop (Rd.later hr hb) (i + 1) c (by omega))
  have R2E := Lib.hid (fun W (hb : Below w.heap.size w W) => rds_dropE (Rd.later hr hb) (i + 1) c (by omega))
  have L1 : Hid ((p.take i).length = i) := Lib.hid (by simp; omega)
  have L2 : Hid ((p.drop (i + 1)).length = n - (i + 1)) := Lib.hid (by simp; omega)
  have C1 : Hid ((w.alloc (.cells #[.string s] 9)).drew.cell? ((⟨w.heap.size, 0, none⟩ : Addr).add 0) = some (.string s)) := Lib.hid (by simp [Addr.add, go_sem])
  have E1 : Hid (((p.take i).map Value.string ++ [Value.string s]) ++ (p.drop (i + 1)).map Value.string = (mov p i s).map Value.string) := Lib.hid (by simp [mov])
  have N1 := Lib.hid (mov_length s (show i < p.length by omega))
  have N2 : Hid ((mov p i s).length = i + 1 + (n - (i + 1))) := Lib.hid (by rw [mov_length s (show i < p.length by omega), hl]; omega)
  clear hr hl h hA
  go_enter Try.func56, Try.ntmps56
  go_wp2_with fail
  go_region_law (first
    | (refine step_fullS _ rfl (.tmp 19) (.tmp 21) rfl A i (p.take i) ⟨w.heap.size, 0, none⟩ s (by simp [Act.eval, Act.put]) (by simp [Act.eval, Act.put]) L1.out (by omega) HA.out R1.out C1.out ?_; intro v2 w2 o2 g2; have O2 := Lib.hid o2; have B2 := Lib.hid (XB.out.grown g2 XB.out.size (fun k e => by cases e)); have Z2 := Lib.hid g2.size; clear o2 g2)
    | (refine step_putS _ rfl (.tmp 22) (.tmp 26) rfl (v := v2) (if c = i + 1 then A else Option.map (fun x => (⟨x.block, x.off + (i + 1), none⟩ : Addr)) A) (n - (i + 1)) (c - (i + 1)) (p.drop (i + 1)) (by simp [Act.eval, Act.put]) (by simp [Act.eval, Act.put]) O2.out (by omega) Z2.out L2.out (by omega) (R2E.out _ B2.out) ?_; intro v3 w3 o3 g3; have B3 := Lib.hid (B2.out.grown g3 B2.out.size (fun k e => by have := (O2.out.lt k e).1; simp at this; omega)); obtain ⟨a3, c3, rfl⟩ := own_shape o3; have CC3 := Lib.hid (own_le o3); have RD3 : Hid (RdS w3 a3 (mov p i s)) := Lib.hid (by have h := Rd.of_own o3 (by decide); rw [E1.out] at h; exact h); clear o3 g3)
    | (go_simp; go_at_call 90; ((with_reducible refine (risen_yes a3 (mov p i s) (i + 1 + (n - (i + 1))) c3 w3 (by rw [N1.out, HL.out]; omega) (by omega) RD3.out HI.out).mono ?_); rintro e w4 ⟨rfl, b4⟩; have RD4 := Lib.hid (Rd.later RD3.out b4); have B4 := Lib.hid (B3.out.trans (b4.mono B3.out.size)); clear b4))
    | fail)
  all_goals go_wp2
  all_goals exact bodyPost_ret (v := .tuple #[.slice a3 (i + 1 + (n - (i + 1))) c3, .bool true]) (by simp [results, Try.results56, go_sem]) rfl ⟨a3, c3, by rw [N2.out], RD4.out, B4.out, by rw [N2.out]; exact CC3.out⟩
set_option maxRecDepth 100000 in
set_option maxHeartbeats 2000000 in
theorem move_no (A : Option Addr) (p : List ByteArray) (n c i : Nat) (s : ByteArray) (w : World) (hl : p.length = n) (hn : n ≤ 900) (hc : n ≤ c) (hm : c ≤ 9223372036854775807) (hi : i < n) (hA : A = none → n = 0) (hr : RdS w A p) (h : risesB (mov p i s) = false) :
    Calls Try.prog 56 #[.slice A n c, .int .i64 i, .string s] w fun e w' => e = .returned (.tuple #[.slice none 0 0, .bool false]) ∧ Below w.heap.size w w' := by
  have i0 : (0 : Int) ≤ (i : Int) := by omega
  have i1 : (i : Int) < (n : Int) := by omega
  have i6 : (i : Int) + 1 ≤ (n : Int) := by omega
  have i7 : (i : Int) ≤ 900 := by omega
  have i8 : ((i : Int) + 1).toNat = i + 1 := by omega
  have i9 : IntKind.i64.wrap ((i : Int) + 1) = (i : Int) + 1 := IntWalk.i64_in _ (by omega)
  have i10 : (0 : Int) ≤ (i : Int) + 1 := by omega
  have i11 : (i : Int) + 1 ≤ (c : Int) := by omega
  have i2 : (i : Int) ≤ (c : Int) := by omega
  have i3 : (n : Int) ≤ (c : Int) := by omega
  have i4 : i ≤ c := by omega
  have i5 : (c : Int) ≤ 9223372036854775807 := by omega
  have HI := Lib.hid h
  have HR := Lib.hid hr
  have HL := Lib.hid hl
  have HA := Lib.hid (show A = none → i = 0 from fun e => by have := hA e; omega)
  have XB : Hid (Below w.heap.size w (w.alloc (.cells #[.string s] 9)).drew) := Lib.hid (bel_dw (bel_alloc (Below.refl _ _) _))
  have R1 := Lib.hid (rd_take (Rd.later hr XB.out) i)
  have R2 := Lib.hid (fun W (hb : Below w.heap.size w W) => rds_drop (Rd.later hr hb) (i + 1) c (by omega))
  have R2E := Lib.hid (fun W (hb : Below w.heap.size w W) => rds_dropE (Rd.later hr hb) (i + 1) c (by omega))
  have L1 : Hid ((p.take i).length = i) := Lib.hid (by simp; omega)
  have L2 : Hid ((p.drop (i + 1)).length = n - (i + 1)) := Lib.hid (by simp; omega)
  have C1 : Hid ((w.alloc (.cells #[.string s] 9)).drew.cell? ((⟨w.heap.size, 0, none⟩ : Addr).add 0) = some (.string s)) := Lib.hid (by simp [Addr.add, go_sem])
  have E1 : Hid (((p.take i).map Value.string ++ [Value.string s]) ++ (p.drop (i + 1)).map Value.string = (mov p i s).map Value.string) := Lib.hid (by simp [mov])
  have N1 := Lib.hid (mov_length s (show i < p.length by omega))
  have N2 : Hid ((mov p i s).length = i + 1 + (n - (i + 1))) := Lib.hid (by rw [mov_length s (show i < p.length by omega), hl]; omega)
  clear hr hl h hA
  go_enter Try.func56, Try.ntmps56
  go_wp2_with fail
  go_region_law (first
    | (refine step_fullS _ rfl (.tmp 19) (.tmp 21) rfl A i (p.take i) ⟨w.heap.size, 0, none⟩ s (by simp [Act.eval, Act.put]) (by simp [Act.eval, Act.put]) L1.out (by omega) HA.out R1.out C1.out ?_; intro v2 w2 o2 g2; have O2 := Lib.hid o2; have B2 := Lib.hid (XB.out.grown g2 XB.out.size (fun k e => by cases e)); have Z2 := Lib.hid g2.size; clear o2 g2)
    | (refine step_putS _ rfl (.tmp 22) (.tmp 26) rfl (v := v2) (if c = i + 1 then A else Option.map (fun x => (⟨x.block, x.off + (i + 1), none⟩ : Addr)) A) (n - (i + 1)) (c - (i + 1)) (p.drop (i + 1)) (by simp [Act.eval, Act.put]) (by simp [Act.eval, Act.put]) O2.out (by omega) Z2.out L2.out (by omega) (R2E.out _ B2.out) ?_; intro v3 w3 o3 g3; have B3 := Lib.hid (B2.out.grown g3 B2.out.size (fun k e => by have := (O2.out.lt k e).1; simp at this; omega)); obtain ⟨a3, c3, rfl⟩ := own_shape o3; have RD3 : Hid (RdS w3 a3 (mov p i s)) := Lib.hid (by have h := Rd.of_own o3 (by decide); rw [E1.out] at h; exact h); clear o3 g3)
    | (go_simp; go_at_call 90; ((with_reducible refine (risen_no a3 (mov p i s) (i + 1 + (n - (i + 1))) c3 w3 (by rw [N1.out, HL.out]; omega) (by omega) RD3.out HI.out).mono ?_); rintro e w4 ⟨rfl, b4⟩; have RD4 := Lib.hid (Rd.later RD3.out b4); have B4 := Lib.hid (B3.out.trans (b4.mono B3.out.size)); clear b4))
    | fail)
  all_goals go_wp2
  all_goals exact bodyPost_ret (v := .tuple #[.slice none 0 0, .bool false]) (by simp [results, Try.results56, go_sem]) rfl ⟨rfl, B4.out⟩

end Go.Proofs.Ytilnpeekajnlhaa.Pv
namespace Go.Proofs.Ytilnpeekajnlhaa
open Go.RowKit Go.Shelf

theorem Chg.put {D : Nat → Prop} (w : World) {l : Nat} (o : Obj) (hl : D l) : Chg D w (w.putObj l o) :=
  ⟨rfl, rfl, rfl, by simp, fun g _ hn => World.putObj_heap_other (fun e => hn (by rw [e]; exact hl))⟩
theorem Chg.drew (D : Nat → Prop) (w : World) : Chg D w w.drew := ⟨rfl, rfl, rfl, Nat.le_refl _, fun _ _ _ => rfl⟩
/-- The blocks of D lie in w. -/
def In (D : Nat → Prop) (w : World) : Prop := ∀ g, D g → g < w.heap.size
/-- D' is of D and of what came later. -/
def Gr (D D' : Nat → Prop) (w w' : World) : Prop := ∀ g, D' g → D g ∨ (w.heap.size ≤ g ∧ g < w'.heap.size)
theorem Gr.refl (D : Nat → Prop) (w w' : World) : Gr D D w w' := fun _ h => .inl h
theorem Gr.trans {D E F : Nat → Prop} {a b c : World} (h : Gr D E a b) (k : Gr E F b c) (h1 : a.heap.size ≤ b.heap.size) (h2 : b.heap.size ≤ c.heap.size) : Gr D F a c := by
  intro g hg
  rcases k g hg with x | x
  · rcases h g x with y | y
    · exact .inl y
    · exact .inr ⟨y.1, by omega⟩
  · exact .inr ⟨by omega, x.2⟩
theorem In.gr {D E : Nat → Prop} {a b : World} (h : In D a) (k : Gr D E a b) (hs : a.heap.size ≤ b.heap.size) : In E b := by
  intro g hg
  rcases k g hg with x | x
  · have := h g x; omega
  · exact x.2
theorem In.more {D : Nat → Prop} {a b : World} (h : In D a) (hs : a.heap.size ≤ b.heap.size) : In D b := fun g hg => Nat.lt_of_lt_of_le (h g hg) hs
/-- What speaks of the blocks of D, and of those ahead of B, alone. -/
def LocB (B : Nat) (J : Nat → (Nat → Prop) → World → Prop) : Prop := ∀ s D W W', J s D W → Chg (fun g => ¬ D g ∧ B ≤ g) W W' → J s D W'
theorem LocB.more {B B' : Nat} {J : Nat → (Nat → Prop) → World → Prop} (h : LocB B J) (hB : B ≤ B') : LocB B' J := fun s D W W' hs hc => h s D W W' hs (hc.more (fun g hg => .inl ⟨hg.1, by omega⟩))
theorem LocB.put {B : Nat} {J : Nat → (Nat → Prop) → World → Prop} (h : LocB B J) {s : Nat} {D : Nat → Prop} {W : World} (hs : J s D W) {l : Nat} (hl : ¬ D l) (hB : B ≤ l) (o : Obj) : J s D (W.putObj l o) := h s D W _ hs (Chg.put W o ⟨hl, hB⟩)
theorem LocB.set {B : Nat} {J : Nat → (Nat → Prop) → World → Prop} (h : LocB B J) {s : Nat} {D : Nat → Prop} {W : World} (hs : J s D W) {l o : Nat} (hl : ¬ D l) (hB : B ≤ l) (v : Value) : J s D (W.setCell ⟨l, o, none⟩ v) := h s D W _ hs (Chg.set W v ⟨hl, hB⟩)
theorem LocB.bel {B : Nat} {J : Nat → (Nat → Prop) → World → Prop} (h : LocB B J) {s : Nat} {D : Nat → Prop} {W W' : World} (hs : J s D W) (hb : Below W.heap.size W W') : J s D W' := h s D W _ hs (Chg.of_below hb)

/-- How a call of what is told each thing ends. -/
def TellPost (J Jx : Nat → (Nat → Prop) → World → Prop) (k : Nat) (D : Nat → Prop) (W : World) (e : Ending) (W' : World) : Prop :=
  ∃ D', Gr D D' W W' ∧ Chg D W W' ∧ ((e = .returned (.bool true) ∧ J (k + 1) D' W') ∨ (e = .returned (.bool false) ∧ Jx (k + 1) D' W'))
/-- How an iterator ends. -/
def SeqPost (n : Nat) (J Jx : Nat → (Nat → Prop) → World → Prop) (D : Nat → Prop) (W : World) (W' : World) : Prop :=
  ∃ D', Gr D D' W W' ∧ Chg D W W' ∧ (J n D' W' ∨ ∃ k, k ≤ n ∧ Jx k D' W')
/-- What an iterator over xs promises to every loop over it. -/
def SeqF {α : Type} (P : Program) (g : Nat) (lb : Array Value) (encs : α → Array Value) (xs : List α) (w0 : World) : Prop :=
  ∀ (l : Nat) (J Jx : Nat → (Nat → Prop) → World → Prop) (W : World) (D : Nat → Prop), Below w0.heap.size w0 W → (∀ g, D g → w0.heap.size ≤ g) → In D W → LocB W.heap.size J → LocB W.heap.size Jx →
    (∀ m k x D W, xs[k]? = some x → J k D W → In D W → YieldAt Fence.wide m P l (encs x) W (TellPost J Jx k D W)) → J 0 D W →
    Calls P g (#[.func (.yield l) #[] #[]] ++ lb) W fun e W' => (∃ v, e = .returned v) ∧ SeqPost xs.length J Jx D W W'
theorem SeqF.later {α : Type} {P : Program} {g : Nat} {lb : Array Value} {encs : α → Array Value} {xs : List α} {w0 w1 : World} (h : SeqF P g lb encs xs w0) (hb : Below w0.heap.size w0 w1) : SeqF P g lb encs xs w1 :=
  fun l J Jx W D h1 h2 h3 h4 h5 h6 h7 => h l J Jx W D (hb.trans (h1.mono hb.size)) (fun g hg => Nat.le_trans hb.size (h2 g hg)) h3 h4 h5 h6 h7

/-- How the body of a round may be left. -/
def postF (I : Nat → (Nat → Prop) → World → Prop) (Ix : Code → Nat → (Nat → Prop) → World → Prop) (k : Nat) (D : Nat → Prop) (W : World) : Exit → Act → World → Prop
  | .normal, _, W' => ∃ D', Gr D D' W W' ∧ Chg D W W' ∧ I (k + 1) D' W'
  | .ret, _, W' => ∃ D', Gr D D' W W' ∧ Chg D W W' ∧ Ix .ret (k + 1) D' W'
  | .exit id, _, W' => ∃ D', Gr D D' W W' ∧ Chg D W W' ∧ Ix (.exit id) (k + 1) D' W'
  | _, _, _ => False

end Go.Proofs.Ytilnpeekajnlhaa
namespace Go.Proofs.Ytilnpeekajnlhaa
open Go.RowKit Go.Maps
variable {F : Nat → Prop}

open Go.Shelf
/-- What an iterator over xs promises to every loop over it: R says what its blocks F hold; the loop writes others. -/
def SeqR {α : Type} (P : Program) (g : Nat) (lb : Array Value) (encs : α → Array Value) (xs : List α) (F : Nat → Prop) (R : World → Prop) : Prop :=
  ∀ (l : Nat) (J Jx : Nat → (Nat → Prop) → World → Prop) (W : World) (D : Nat → Prop), R W → (∀ g, D g → ¬ F g) → In D W → LocB W.heap.size J → LocB W.heap.size Jx →
    (∀ m k x D W, xs[k]? = some x → J k D W → In D W → YieldAt Fence.wide m P l (encs x) W (TellPost J Jx k D W)) → J 0 D W →
    Calls P g (#[.func (.yield l) #[] #[]] ++ lb) W fun e W' => (∃ v, e = .returned v) ∧ SeqPost xs.length J Jx D W W'
set_option maxHeartbeats 1000000 in
/-- **The loop over such an iterator.** -/
theorem range_R {α : Type} {P : Program} {n : Nat} {g : Operand} {ps : Array Tmp} {assign body : Code} {Q : Exit → Act → World → Prop} {a : Act} {w : World} {gf : Nat} {lb : Array Value}
    (hg : a.eval g = .func (.func gf) #[] lb) (eg : ∀ args w, (callFunc gf args).run P w = .ok (.enter gf args) w) {encs : α → Array Value} {xs : List α}
    {F : Nat → Prop} {R : World → Prop} (hseq : SeqR P gf lb encs xs F R) (hR : R w) (hRb : ∀ W W', R W → Below W.heap.size W W' → R W') (hFw : ∀ g, F g → g < w.heap.size) (hps : ∀ x, (encs x).size = ps.size)
    (I : Nat → (Nat → Prop) → World → Prop) (Ix : Code → Nat → (Nat → Prop) → World → Prop) (hI : LocB w.heap.size I) (hIx : ∀ c, LocB w.heap.size (Ix c)) (D0 : Nat → Prop) (hD0 : ∀ g, D0 g → ¬ F g ∧ g < w.heap.size) (h0 : I 0 D0 w) (a₁ : α → World → Act) (Wa : α → World → World) (hWa : ∀ x W, Below W.heap.size W (Wa x W))
    (hassign : ∀ (m l : Nat) (x : α) (W : World) (K : Act → World → Prop), K (a₁ x W) (Wa x W) →
      assign.wpIn (Fence.wide.inRound l) m P (Exit.then K (fun _ _ _ => False)) { tmps := (ps.zip (encs x)).foldl (fun t (p, v) => t.setIfInBounds p v) a.tmps, defers := [] } W)
    (hbody : ∀ (m l k : Nat) (x : α) (D : Nat → Prop) (V W : World) (o : Obj), xs[k]? = some x → w.heap.size ≤ l → l < V.heap.size → W = (Wa x V).putObj l o → In D V → ¬ D l → Gr D0 D w W → Chg D0 w W → I k D W → body.wpIn (Fence.wide.inRound l) m P (postF I Ix k D W) (a₁ x V) W)
    (hdone : ∀ (B : Nat) (D : Nat → Prop) (W : World), w.heap.size ≤ B → ¬ D B → Gr D0 D w W → Chg D0 w W → I xs.length D W → W.heap[B]? = some (.deferred (some [])) → Q .normal { a with defers := { target := .collected B, args := #[] } :: a.defers } W)
    (hstop : ∀ (B : Nat) (c : Code) (k : Nat) (D : Nat → Prop) (W : World), w.heap.size ≤ B → ¬ D B → Gr D0 D w W → Chg D0 w W → k ≤ xs.length → Ix c k D W → W.heap[B]? = some (.deferred (some [])) → c.wpIn Fence.wide n P Q { a with defers := { target := .collected B, args := #[] } :: a.defers } W) :
    (Code.rangeFunc g ps assign body).wpIn Fence.wide n P Q a w := by
  refine wpIn_rangeFunc (fun fn hfn => ?_)
  let rc : LoopState → Option Code → Obj := fun st pe => .loop { state := st, pending := pe, fn, tmps := a.tmps, params := ps, assign, body, defers := w.heap.size }
  let l := w.heap.size + 1
  let Wl := (w.alloc (.deferred (some []))).alloc (rc .ready none)
  have hsz : Wl.heap.size = w.heap.size + 2 := by simp [Wl]
  have hl : Wl.heap[l]? = some (rc .ready none) := by
    have := World.alloc_heap_new (w.alloc (.deferred (some []))) (rc .ready none)
    rw [World.size_alloc] at this; exact this
  have hd : Wl.heap[w.heap.size]? = some (.deferred (some [])) := (Below.heap_alloc _ _ _ (by simp)).trans (World.alloc_heap_new w _)
  have hB : Below w.heap.size w Wl := ((Below.refl _ w).alloc (Nat.le_refl _) _).alloc (by simp) _
  -- what is kept between the rounds
  let C : (Nat → Prop) → World → Prop := fun D W => ¬ D l ∧ ¬ D w.heap.size ∧ In D W ∧ Gr D0 D w W ∧ Chg D0 w W ∧ W.heap[w.heap.size]? = some (.deferred (some []))
  let E : (Nat → Prop) → Nat → Prop := fun D g => D g ∨ g = l ∨ g = w.heap.size
  let J : Nat → (Nat → Prop) → World → Prop := fun k F W => ∃ D, F = E D ∧ I k D W ∧ C D W ∧ W.heap[l]? = some (rc .ready none)
  let Jx : Nat → (Nat → Prop) → World → Prop := fun k F W => ∃ D c, F = E D ∧ Ix c k D W ∧ C D W ∧ W.heap[l]? = some (rc .done (some c))
  have stepC : ∀ {D : Nat → Prop} {W W' : World}, C D W → Chg (fun g => ¬ E D g ∧ Wl.heap.size ≤ g) W W' → C D W' := by
    rintro D W W' ⟨h1, h2, h3, h4, h5, h6⟩ hc
    have hlt := (Array.getElem?_eq_some_iff.1 h6).1
    refine ⟨h1, h2, h3.more hc.size, fun g hg => ?_, h5.trans hc (fun g hg => .inr (by have := hg.2; omega)), (hc.block _ hlt (fun h => h.1 (.inr (.inr rfl)))).trans h6⟩
    rcases h4 g hg with x | x
    · exact .inl x
    · exact .inr ⟨x.1, Nat.lt_of_lt_of_le x.2 hc.size⟩
  have toI : ∀ {D : Nat → Prop} {W W' : World}, Chg (fun g => ¬ E D g ∧ Wl.heap.size ≤ g) W W' → Chg (fun g => ¬ D g ∧ w.heap.size ≤ g) W W' := fun hc => hc.more (fun g hg => .inl ⟨fun h => hg.1 (.inl h), by have := hg.2; omega⟩)
  have locJ : LocB Wl.heap.size J := by
    rintro k F W W' ⟨D, rfl, h1, h2, h3⟩ hc
    exact ⟨D, rfl, hI _ _ _ _ h1 (toI hc), stepC h2 hc, (hc.block l (Array.getElem?_eq_some_iff.1 h3).1 (fun h => h.1 (.inr (.inl rfl)))).trans h3⟩
  have locJx : LocB Wl.heap.size Jx := by
    rintro k F W W' ⟨D, c, rfl, h1, h2, h3⟩ hc
    exact ⟨D, c, rfl, hIx c _ _ _ _ h1 (toI hc), stepC h2 hc, (hc.block l (Array.getElem?_eq_some_iff.1 h3).1 (fun h => h.1 (.inr (.inl rfl)))).trans h3⟩
  have c0 : C D0 Wl := ⟨fun h => by have := (hD0 _ h).2; simp only [l] at this; omega, fun h => by have := (hD0 _ h).2; omega, fun g hg => by have := (hD0 g hg).2; omega, Gr.refl _ _ _, Chg.of_below hB, hd⟩
  refine ⟨l, [{ target := .collected w.heap.size, args := #[] }], Wl, { target := .fn (.func gf) lb, args := #[.func (.yield l) #[] #[]] }, Wl, gf, #[.func (.yield l) #[] #[]] ++ lb, Wl, run_enterLoop_outer _ _ _ _ _, by simp only [resolve, hg]; simp [go_sem, l], fun _ _ => trivial, by simp [invoke, go_sem, eg], fun h => (by cases h), ?_⟩
  refine callsIn_wide.2 ((hseq l J Jx Wl (E D0) (hRb _ _ hR hB) ?_ ?_ locJ locJx ?_ ⟨D0, rfl, hI.bel h0 hB, c0, hl⟩).mono ?_)
  · rintro g (h | rfl | rfl)
    · exact (hD0 g h).1
    · intro hf; have := hFw _ hf; simp only [l] at this; omega
    · intro hf; have := hFw _ hf; omega
  · rintro g (h | rfl | rfl)
    · have := (hD0 g h).2; omega
    · simp only [l]; omega
    · omega
  · -- a round
    rintro m k x F W hx ⟨D, rfl, hi, ⟨n1, n2, hin, hgr, hch, hdf⟩, hr⟩ hin2
    have hlt : l < W.heap.size := (Array.getElem?_eq_some_iff.1 hr).1
    refine ⟨fn, _, assign, body, run_yield hr (hps x), roundIn_of_wpIn hfn (hassign m l x W _ ⟨_, run_beginRound (((hWa x W).block l hlt).trans hr) rfl, ?_⟩)⟩
    have hWx := hWa x W
    have b2 : ((Wa x W).putObj l (rc .busy none)).heap[l]? = some (rc .busy none) := World.putObj_heap_same (Nat.lt_of_lt_of_le hlt hWx.size)
    have k2 : ((Wa x W).putObj l (rc .busy none)).heap[w.heap.size]? = some (.deferred (some [])) := (World.putObj_heap_other (by simp [l])).trans ((hWx.block _ (Array.getElem?_eq_some_iff.1 hdf).1).trans hdf)
    have s2 : ((Wa x W).putObj l (rc .busy none)).heap.size = (Wa x W).heap.size := by simp
    have sa := hWx.size
    have i2 : I k D ((Wa x W).putObj l (rc .busy none)) := hI.put (hI.bel hi hWx) n1 (by simp [l]) _
    have cx : Chg (fun g => g = l) W ((Wa x W).putObj l (rc .busy none)) := (Chg.of_below hWx).trans (Chg.put (D := fun g => g = l) (Wa x W) _ rfl) (fun g hg => .inl hg)
    have hch2 : Chg D0 w ((Wa x W).putObj l (rc .busy none)) := hch.trans cx (fun g hg => .inr (by rw [hg]; simp [l]))
    have hgr2 : Gr D0 D w ((Wa x W).putObj l (rc .busy none)) := fun g hg => by
      rcases hgr g hg with y | y
      · exact .inl y
      · exact .inr ⟨y.1, by rw [s2]; omega⟩
    refine wpIn_mono (hbody m l k x D W _ _ hx (by simp [l]) hlt rfl hin n1 hgr2 hch2 i2) ?_
    have fin : ∀ {D' : Nat → Prop} {W3 : World} (o : Obj), Gr D D' ((Wa x W).putObj l (rc .busy none)) W3 → Chg D ((Wa x W).putObj l (rc .busy none)) W3 →
        W3.heap[l]? = some (rc .busy none) ∧ l < W3.heap.size ∧ ¬ D' l ∧ Gr (E D) (E D') W (W3.putObj l o) ∧ Chg (E D) W (W3.putObj l o) ∧ C D' (W3.putObj l o) := by
      intro D' W3 o hg3 hc3
      have e1 := (hc3.block l (by rw [s2]; omega) n1).trans b2
      have lt3 : l < W3.heap.size := (Array.getElem?_eq_some_iff.1 e1).1
      have hw : w.heap.size < W.heap.size := by simp only [l] at hlt; omega
      have e2 := (hc3.block w.heap.size (by rw [s2]; omega) n2).trans k2
      have s3 : (W3.putObj l o).heap.size = W3.heap.size := by simp
      have sz := hc3.size
      have nl : ¬ D' l := fun h => by rcases hg3 l h with x | x; exact n1 x; omega
      have nw : ¬ D' w.heap.size := fun h => by rcases hg3 _ h with x | x; exact n2 x; omega
      have in3 : In D' W3 := In.gr (fun g hg => by rw [s2]; have := hin g hg; omega) hg3 sz
      refine ⟨e1, lt3, nl, ?_, ?_, nl, nw, fun g hg => by rw [s3]; exact in3 g hg, ?_, ?_, (World.putObj_heap_other (by simp [l])).trans e2⟩
      · rintro g (h | h | h)
        · rcases hg3 g h with x | x
          · exact .inl (.inl x)
          · exact .inr ⟨by omega, by rw [s3]; exact x.2⟩
        · exact .inl (.inr (.inl h))
        · exact .inl (.inr (.inr h))
      · exact ((cx.more (G := E D) (fun g hg => .inl (.inr (.inl hg)))).trans hc3 (fun g hg => .inl (.inl hg))).trans (Chg.put (D := E D) W3 o (.inr (.inl rfl))) (fun g hg => .inl hg)
      · intro g hg
        rcases hg3 g hg with x | x
        · rcases hgr g x with y | y
          · exact .inl y
          · exact .inr ⟨y.1, by rw [s3]; omega⟩
        · exact .inr ⟨by omega, by rw [s3]; exact x.2⟩
      · refine (hch2.trans hc3 (fun g hg => ?_)).trans (Chg.put (D := fun g => g = l) W3 o rfl) (fun g hg => .inr (by rw [hg]; simp [l]))
        rcases hgr g hg with y | y
        · exact .inl y
        · exact .inr y.1
    rintro e a3 W3 hp
    cases e with
    | normal =>
      obtain ⟨D', hg3, hc3, hi3⟩ := hp
      obtain ⟨l3, lt3, nl, h1, h2, h3⟩ := fin (rc .ready none) hg3 hc3
      exact ⟨_, _, run_endRound none l3, E D', h1, h2, .inl ⟨rfl, D', rfl, hI.put hi3 nl (by simp [l]) _, h3, World.putObj_heap_same lt3⟩⟩
    | ret =>
      obtain ⟨D', hg3, hc3, hi3⟩ := hp
      obtain ⟨l3, lt3, nl, h1, h2, h3⟩ := fin (rc .done (some .ret)) hg3 hc3
      exact ⟨_, _, run_endRound (some .ret) l3, E D', h1, h2, .inr ⟨rfl, D', .ret, rfl, (hIx _).put hi3 nl (by simp [l]) _, h3, World.putObj_heap_same lt3⟩⟩
    | exit id =>
      obtain ⟨D', hg3, hc3, hi3⟩ := hp
      obtain ⟨l3, lt3, nl, h1, h2, h3⟩ := fin (rc .done (some (.exit id))) hg3 hc3
      exact ⟨_, _, run_endRound (some (.exit id)) l3, E D', h1, h2, .inr ⟨rfl, D', .exit id, rfl, (hIx _).put hi3 nl (by simp [l]) _, h3, World.putObj_heap_same lt3⟩⟩
    | goto t => exact hp.elim
    | panic ch => exact hp.elim
    | outgrown => exact hp.elim
  · -- behind it
    have back : ∀ {D : Nat → Prop} {W : World} (o : Obj), C D W → Gr D0 D w (W.putObj l o) ∧ Chg D0 w (W.putObj l o) ∧ (W.putObj l o).heap[w.heap.size]? = some (.deferred (some [])) := by
      rintro D W o ⟨n1, n2, hin, hgr, hch, hdf⟩
      refine ⟨fun g hg => by rw [show (W.putObj l o).heap.size = W.heap.size by simp]; exact hgr g hg, hch.trans (Chg.put (D := fun g => g = l) W _ rfl) (fun g hg => .inr (by rw [hg]; simp [l])), (World.putObj_heap_other (by simp [l])).trans hdf⟩
    rintro e W2 ⟨⟨v, rfl⟩, F, _, _, (⟨D, rfl, hi, hc, hr⟩ | ⟨k, hk, D, c, rfl, hi, hc, hr⟩)⟩
    · obtain ⟨h1, h2, h3⟩ := back _ hc
      exact ⟨none, _, run_endLoop hr (by simp), hdone _ D _ (Nat.le_refl _) hc.2.1 h1 h2 (hI.put hi hc.1 (by simp [l]) _) h3⟩
    · obtain ⟨h1, h2, h3⟩ := back _ hc
      exact ⟨some c, _, run_endLoop hr (by simp), hstop _ c k D _ (Nat.le_refl _) hc.2.1 h1 h2 hk ((hIx c).put hi hc.1 (by simp [l]) _) h3⟩
end Go.Proofs.Ytilnpeekajnlhaa
namespace Go.Proofs.Ytilnpeekajnlhaa
open Go.RowKit Go.Maps Go.Shelf
attribute [local go_sem] Oper.semAt_some
theorem drew_bel (w : World) : Below w.heap.size w w.drew := (Below.refl _ _).drew
def calm (Q : Exit → Act → World → Prop) : Exit → Act → World → Prop
  | .normal, a, w => Q .normal a w
  | _, _, _ => False
theorem calm_normal {Q : Exit → Act → World → Prop} {a : Act} {w : World} (h : Q .normal a w) : calm Q .normal a w := h
theorem wpIn_calm {Fc : Fence} {n : Nat} {P : Program} {c : Code} {Q : Exit → Act → World → Prop} {a : Act} {w : World} (h : c.wpIn Fc n P (calm Q) a w) : c.wpIn Fc n P Q a w :=
  wpIn_mono h (fun e a w h => by cases e <;> first | exact h | exact h.elim)
theorem calm_out {Q : Exit → Act → World → Prop} : ¬ LetsOut (calm Q) := fun ⟨_, _, h⟩ => h
theorem upon_round {P : Program} {o : Oper} {a : Act} {K K' : Act → World → Prop} {Q : Exit → Act → World → Prop} (hK : ∀ a w, K a w → K' a w) (l n : Nat) {r : Result Next} (h : o.upon P a K Q r) : o.uponIn (Fence.wide.inRound l) n P a K' Q r := by
  unfold Oper.upon at h
  unfold Oper.uponIn
  split at h
  · exact hK _ _ h
  · exact hK _ _ h
  · exact hK _ _ h
  · refine ⟨fun h => (by cases h), (CallsIn.inRound l (callsIn_wide.2 h)).mono ?_⟩
    intro e w' h'
    cases e with
    | returned v => exact hK _ _ h'
    | panicked c => exact h'
    | outgrown => exact h'
  · refine ⟨fun h => (by cases h), ?_⟩
    intro c cs _
    obtain ⟨v, w', hv, hs⟩ := h c cs
    exact ⟨v, w', hK _ _ hv, stepsIn_wide.2 hs⟩
  · exact h
  · cases h
theorem any_round {P : Program} {md : Region.Mode} {ops : Array Oper} {Q : Exit → Act → World → Prop} (l n : Nat) (hd : ∀ o ∈ ops, ∀ c, o.op ≠ .defer c) :
    ∀ {fuel : Nat} {listed : Array Bool} {a : Act} {w : World}, wpAny P md ops (calm Q) fuel listed a w → wpAnyIn (Fence.wide.inRound l) n P md ops (calm Q) fuel listed a w := by
  intro fuel
  induction fuel with
  | zero => intro listed a w h; exact h
  | succ fuel ih =>
    intro listed a w h
    refine ⟨h.1, fun i hi => ?_⟩
    have h2 := h.2 i hi
    unfold wpOp at h2
    unfold wpOpIn
    cases ho : ops[i]? with
    | none => rw [ho] at h2; exact ih h2
    | some o =>
      rw [ho] at h2
      simp only at h2 ⊢
      split
      next hw =>
        rw [if_pos hw] at h2
        have h3 := h2.resolve_right (fun q => calm_out q.2)
        refine ⟨fun f _ => trivial, ?_⟩
        rw [Oper.semAt_eq _ _ _ (hd o (Array.mem_of_getElem? ho))]
        exact upon_round (fun a w h => ih h) l n h3
      next hw =>
        rw [if_neg hw] at h2
        exact ⟨fun f _ => trivial, ih h2⟩
/-- A region in a round. -/
theorem region_round {P : Program} {id : Nat} {ops : Array Oper} {Q : Exit → Act → World → Prop} {l n : Nat} {a : Act} {w : World} (hm : P.follows .mixedOrders = true) (hd : ∀ o ∈ ops, ∀ c, o.op ≠ .defer c)
    (h : wpAny P .any ops (calm Q) ops.size (Array.replicate ops.size false) a w.drew) : (Code.region id ops true).wpIn (Fence.wide.inRound l) n P Q a w :=
  wpIn_calm (wpIn_region_any hm (any_round l n hd h))
theorem region_round_held {P : Program} {id : Nat} {ops : Array Oper} {Q : Exit → Act → World → Prop} {S : World → Prop} {l n : Nat} {a : Act} {w : World} (hm : P.follows .mixedOrders = true) (hd : ∀ o ∈ ops, ∀ c, o.op ≠ .defer c) (hS : S w.drew)
    (h : S w.drew → wpAnyH P .any ops (calm Q) S ops.size (Array.replicate ops.size false) a w.drew) : (Code.region id ops true).wpIn (Fence.wide.inRound l) n P Q a w :=
  region_round hm hd (wpAny_of_held _ _ _ _ (h hS))
end Go.Proofs.Ytilnpeekajnlhaa
