/- Pivots: Put, Drop. -/
import Derived.Test.YtngldfheneegcaaR0
namespace Go.Proofs.Ytngldfheneegcaa
set_option linter.unusedSimpArgs false
open Go.RowKit
set_option linter.unusedVariables false

theorem risen_yes (A : Option Addr) (l : List ByteArray) (n c : Nat) (w : World) (hl : l.length = n) (hn : n ≤ 1000) (hr : RdS w A l) (h : risesB l = true) :
    Calls Try.prog 32 #[.slice A n c] w fun e w' => e = .returned (.tuple #[.slice A n c, .bool true]) ∧ Below w.heap.size w w' := by
  have RI := Lib.hid (rises_any A l n c w hl hn hr)
  rw [h] at RI
  clear hr hl h
  go_enter Try.func32, Try.ntmps32
  go_wp2_with (go_at_call 28; ((with_reducible refine RI.out.mono ?_); rintro e w1 ⟨rfl, b1⟩; have B1 := Lib.hid b1; clear b1))
  exact bodyPost_ret (v := .tuple #[.slice A n c, .bool true]) (by simp [results, Try.results32, go_sem]) rfl ⟨rfl, B1.out⟩
theorem risen_no (A : Option Addr) (l : List ByteArray) (n c : Nat) (w : World) (hl : l.length = n) (hn : n ≤ 1000) (hr : RdS w A l) (h : risesB l = false) :
    Calls Try.prog 32 #[.slice A n c] w fun e w' => e = .returned (.tuple #[.slice none 0 0, .bool false]) ∧ Below w.heap.size w w' := by
  have RI := Lib.hid (rises_any A l n c w hl hn hr)
  rw [h] at RI
  clear hr hl h
  go_enter Try.func32, Try.ntmps32
  go_wp2_with (go_at_call 28; ((with_reducible refine RI.out.mono ?_); rintro e w1 ⟨rfl, b1⟩; have B1 := Lib.hid b1; clear b1))
  exact bodyPost_ret (v := .tuple #[.slice none 0 0, .bool false]) (by simp [results, Try.results32, go_sem]) rfl ⟨rfl, B1.out⟩
theorem rds_drop {w : World} {A : Option Addr} {l : List ByteArray} (h : RdS w A l) (i c : Nat) (hc : l.length ≤ c) : RdS w (if c = i then A else Option.map (fun x => x.add i) A) (l.drop i) := by
  by_cases e : c = i
  · subst e
    exact .inl (by rw [List.drop_eq_nil_of_le hc]; rfl)
  · rw [if_neg e]
    rcases h with h | ⟨b, off, rfl, hlt, hcell⟩
    · have : l = [] := List.map_eq_nil_iff.1 h
      subst this
      exact .inl (by simp)
    · refine .inr ⟨b, off + i, by simp [Addr.add_lit], hlt, fun j u hj => ?_⟩
      rw [List.map_drop, List.getElem?_drop] at hj
      rw [Nat.add_assoc]
      exact hcell _ _ hj
theorem rds_dropE {w : World} {A : Option Addr} {l : List ByteArray} (h : RdS w A l) (i c : Nat) (hc : l.length ≤ c) : RdS w (if c = i then A else Option.map (fun x => (⟨x.block, x.off + i, none⟩ : Addr)) A) (l.drop i) := by
  by_cases e : c = i
  · subst e
    exact .inl (by rw [List.drop_eq_nil_of_le hc]; rfl)
  · rw [if_neg e]
    rcases h with h | ⟨b, off, rfl, hlt, hcell⟩
    · have : l = [] := List.map_eq_nil_iff.1 h
      subst this
      exact .inl (by simp)
    · refine .inr ⟨b, off + i, rfl, hlt, fun j u hj => ?_⟩
      rw [List.map_drop, List.getElem?_drop] at hj
      rw [Nat.add_assoc]
      exact hcell _ _ hj
theorem own_le {w : World} {base n c size : Nat} {e : TypeId} {A : Option Addr} {xs : List Value} (h : w.ownsRow base e size (.slice A n c) n xs) : n ≤ c ∧ c ≤ maxLen := by
  rcases h.2 with ⟨hv, h0⟩ | ⟨g, cap, cur, hv, _, _, h1, h2, _⟩
  · cases hv; exact ⟨Nat.le_refl _, Nat.zero_le _⟩
  · cases hv; exact ⟨h1, h2⟩
def PutPost (w : World) (l : List ByteArray) (e : Ending) (w' : World) : Prop := ∃ A c, e = .returned (.tuple #[.slice A l.length c, .bool true]) ∧ RdS w' A l ∧ Below w.heap.size w w' ∧ (l.length ≤ c ∧ c ≤ maxLen)
set_option maxHeartbeats 2000000 in
theorem put_yes (A : Option Addr) (p : List ByteArray) (n c i : Nat) (s : ByteArray) (w : World) (hl : p.length = n) (hn : n ≤ 900) (hc : n ≤ c) (hm : c ≤ 9223372036854775807) (hi : i ≤ n) (hA : A = none → n = 0) (hr : RdS w A p) (h : risesB (ins p i s) = true) :
    Calls Try.prog 19 #[.slice A n c, .int .i64 i, .string s] w (PutPost w (ins p i s)) := by
  have i0 : (0 : Int) ≤ (i : Int) := by omega
  have i1 : (i : Int) ≤ (n : Int) := by omega
  have i2 : (i : Int) ≤ (c : Int) := by omega
  have i3 : (n : Int) ≤ (c : Int) := by omega
  have i4 : i ≤ c := by omega
  have i5 : (c : Int) ≤ 9223372036854775807 := by omega
  have HI := Lib.hid h
  have HR := Lib.hid hr
  have HL := Lib.hid hl
  have HA := Lib.hid (show A = none → i = 0 from fun e => by have := hA e; omega)
  have XB : Hid (Below w.heap.size w (w.alloc (.cells #[.string s] 9)).drew) := Lib.hid (bel_dw (bel_alloc (Below.refl _ _) _))
  have R1 := Lib.hid (rd_take (Rd.later hr XB.out) i)
  have R2 := Lib.hid (fun W (hb : Below w.heap.size w W) => rds_drop (Rd.later hr hb) i c (by omega))
  have L1 : Hid ((p.take i).length = i) := Lib.hid (by simp; omega)
  have L2 : Hid ((p.drop i).length = n - i) := Lib.hid (by simp; omega)
  have C1 : Hid ((w.alloc (.cells #[.string s] 9)).drew.cell? ((⟨w.heap.size, 0, none⟩ : Addr).add 0) = some (.string s)) := Lib.hid (by simp [Addr.add, go_sem])
  have E1 : Hid (((p.take i).map Value.string ++ [Value.string s]) ++ (p.drop i).map Value.string = (ins p i s).map Value.string) := Lib.hid (by simp [ins])
  have N1 := Lib.hid (ins_length s (show i ≤ p.length by omega))
  clear hr hl h hA
  go_enter Try.func19, Try.ntmps19
  go_wp2_with fail
  go_region_law (first
    | (refine step_fullS _ rfl (.tmp 19) (.tmp 21) rfl A i (p.take i) ⟨w.heap.size, 0, none⟩ s (by simp [Act.eval, Act.put]) (by simp [Act.eval, Act.put]) L1.out (by omega) HA.out R1.out C1.out ?_; intro v2 w2 o2 g2; have O2 := Lib.hid o2; have B2 := Lib.hid (XB.out.grown g2 XB.out.size (fun k e => by cases e)); have Z2 := Lib.hid g2.size; clear o2 g2)
    | (refine step_putS _ rfl (.tmp 22) (.tmp 25) rfl (v := v2) (if c = i then A else Option.map (fun x => x.add i) A) (n - i) (c - i) (p.drop i) (by simp [Act.eval, Act.put]) (by simp [Act.eval, Act.put]) O2.out (by omega) Z2.out L2.out (by omega) (R2.out _ B2.out) ?_; intro v3 w3 o3 g3; have B3 := Lib.hid (B2.out.grown g3 B2.out.size (fun k e => by have := (O2.out.lt k e).1; simp at this; omega)); obtain ⟨a3, c3, rfl⟩ := own_shape o3; have CC3 := Lib.hid (own_le o3); have RD3 : Hid (RdS w3 a3 (ins p i s)) := Lib.hid (by have h := Rd.of_own o3 (by decide); rw [E1.out] at h; exact h); clear o3 g3)
    | (go_simp; go_at_call 32; ((with_reducible refine (risen_yes a3 (ins p i s) (i + 1 + (n - i)) c3 w3 (by rw [N1.out, HL.out]; omega) (by omega) RD3.out HI.out).mono ?_); rintro e w4 ⟨rfl, b4⟩; have RD4 := Lib.hid (Rd.later RD3.out b4); have B4 := Lib.hid (B3.out.trans (b4.mono B3.out.size)); clear b4))
    | fail)
  all_goals go_wp2
  all_goals exact bodyPost_ret (v := .tuple #[.slice a3 (i + 1 + (n - i)) c3, .bool true]) (by simp [results, Try.results19, go_sem]) rfl ⟨a3, c3, by rw [N1.out, HL.out, show n + 1 = i + 1 + (n - i) by omega], RD4.out, B4.out, by rw [N1.out, HL.out, show n + 1 = i + 1 + (n - i) by omega]; exact CC3.out⟩
set_option maxHeartbeats 2000000 in
theorem drop_yes (A : Option Addr) (p : List ByteArray) (n c i : Nat) (w : World) (hl : p.length = n) (hn : n ≤ 900) (hc : n ≤ c) (hm : c ≤ 9223372036854775807) (hi : i < n) (hr : RdS w A p) :
    Calls Try.prog 21 #[.slice A n c, .int .i64 i] w (PutPost w (p.take i ++ p.drop (i + 1))) := by
  have i0 : (0 : Int) ≤ (i : Int) := by omega
  have i1 : (i : Int) < (n : Int) := by omega
  have i2 : (i : Int) ≤ (c : Int) := by omega
  have i3 : (n : Int) ≤ (c : Int) := by omega
  have i4 : i ≤ c := by omega
  have i5 : (c : Int) ≤ 9223372036854775807 := by omega
  have i6 : (i : Int) + 1 ≤ (n : Int) := by omega
  have i7 : (i : Int) ≤ 900 := by omega
  have i8 : ((i : Int) + 1).toNat = i + 1 := by omega
  have i9 : IntKind.i64.wrap ((i : Int) + 1) = (i : Int) + 1 := IntWalk.i64_in _ (by omega)
  have i10 : (0 : Int) ≤ (i : Int) + 1 := by omega
  have OW := Lib.hid (fun W (hb : Below w.heap.size w W) => own_row A i c (p.take i) W (by simp; omega) (by omega) (rd_take (Rd.later hr hb) i))
  have R2 := Lib.hid (fun W (hb : Below w.heap.size w W) => rds_dropE (Rd.later hr hb) (i + 1) c (by omega))
  have L1 : Hid ((p.take i).length = i) := Lib.hid (by simp; omega)
  have L2 : Hid ((p.drop (i + 1)).length = n - (i + 1)) := Lib.hid (by simp; omega)
  have BD : Hid (Below w.heap.size w w.drew) := Lib.hid (bel_dw (Below.refl _ _))
  clear hr hl
  go_enter Try.func21, Try.ntmps21
  go_wp2_with fail
  go_region_law (first
    | (go_simp; go_at_call 33; ((with_reducible refine (OW.out _ BD.out).mono ?_); rintro e w2 ⟨A2, c2, rfl, r2, b2⟩; rw [L1.out]; have RW := Lib.hid r2; have B2 := Lib.hid (BD.out.trans (b2.mono BD.out.size)); have Z2 := Lib.hid b2.size; clear r2 b2))
    | (refine step_put_row _ rfl (.tmp 17) (.tmp 21) rfl A2 i c2 (p.take i) (if c = i + 1 then A else Option.map (fun x => (⟨x.block, x.off + (i + 1), none⟩ : Addr)) A) (n - (i + 1)) (c - (i + 1)) (p.drop (i + 1)) (by simp [Act.eval, Act.put]) (by simp [Act.eval, Act.put]) RW.out L1.out (by omega) Z2.out L2.out (by omega) (R2.out _ B2.out) ?_; intro A3 c3 w3 r3 g3 _; have RD3 := Lib.hid r3.rd; have CC3 := Lib.hid r3.cap; have B3 := Lib.hid (B2.out.grown g3 B2.out.size (fun k e => (RW.out.fp_lt e).1)); clear r3 g3)
    | fail)
  all_goals go_wp2
  all_goals exact bodyPost_ret (v := .tuple #[.slice A3 (i + (n - (i + 1))) c3, .bool true]) (by simp [results, Try.results21, go_sem]) rfl ⟨A3, c3, by rw [List.length_append, L1.out, L2.out], RD3.out, B3.out, CC3.out⟩
end Go.Proofs.Ytngldfheneegcaa
