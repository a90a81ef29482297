/- Place at the entries that live has. -/
import Derived.Test.YteiifcmdpoonmaaN4
namespace Go.Proofs.Yteiifcmdpoonmaa
set_option linter.unusedSimpArgs false
open Go.RowKit Go.Maps Go.Shelf
set_option linter.unusedVariables false
abbrev kab : ByteArray := ⟨#[97, 98]⟩
abbrev kac : ByteArray := ⟨#[97, 99]⟩
abbrev v1 : ByteArray := ⟨#[49]⟩
abbrev v2 : ByteArray := ⟨#[50]⟩
/-- live's entries. -/
abbrev lv : List TT := [(kab, v1), (kac, v2)]
theorem bl_abac : Op.bytesLess kab.toList kac.toList = true := by rw [ByteArray.toList_eq, ByteArray.toList_eq]; decide
theorem bl_acac : Op.bytesLess kac.toList kac.toList = false := bl_irr _
theorem eq_acac : (kac.toList == kac.toList) = true := by simp
theorem ask_any (i n c : Nat) (b off : Nat) (bx bs : Nat) (x s : ByteArray) (w : World) (hi : i < n) (h1 : w.cell? ⟨bx, 0, none⟩ = some (.slice (some ⟨b, off, none⟩) n c)) (h2 : w.cell? ⟨b, off + i * 2, none⟩ = some (.string x)) (h3 : w.cell? ⟨bs, 0, none⟩ = some (.string s)) :
    Calls Try.prog 34 #[.int .i64 i, .pointer (some ⟨bx, 0, none⟩), .pointer (some ⟨bs, 0, none⟩)] w fun e w' => e = .returned (.bool (!Op.bytesLess x.toList s.toList)) ∧ Below w.heap.size w w' := by
  have i1 : (i : Int) < (n : Int) := by omega
  have i0 : (0 : Int) ≤ (i : Int) := by omega
  have D : Hid (∀ k, Below w.heap.size w (w.drewN k)) := Lib.hid (fun k => bel_drewN (Below.refl _ _) k)
  go_enter Try.func34, Try.ntmps34
  go_wp2_with fail
  go_quiet (fail)
  go_wp2
  go_ret
  exact ⟨rfl, D.out _⟩
set_option maxHeartbeats 2000000 in
theorem search_lv (b off c : Nat) (bx bs : Nat) (w : World) (h1 : w.cell? ⟨bx, 0, none⟩ = some (.slice (some ⟨b, off, none⟩) 2 c)) (h2 : w.cell? ⟨b, off, none⟩ = some (.string kab)) (h4 : w.cell? ⟨b, off + 2, none⟩ = some (.string kac)) (h3 : w.cell? ⟨bs, 0, none⟩ = some (.string kac)) :
    Calls Try.prog 33 #[.int .i64 2, .func (.func 34) #[] #[.pointer (some ⟨bx, 0, none⟩), .pointer (some ⟨bs, 0, none⟩)]] w fun e w' => e = .returned (.int .i64 1) ∧ Below w.heap.size w w' := by
  have A0 : Hid (∀ W, Below w.heap.size w W → Calls Try.prog 34 #[.int .i64 0, .pointer (some ⟨bx, 0, none⟩), .pointer (some ⟨bs, 0, none⟩)] W fun e w' => e = .returned (.bool false) ∧ Below W.heap.size W w') := Lib.hid (fun W hW => by
    have q := ask_any 0 2 c b off bx bs kab kac W (by omega) (bel_later hW h1) (by simpa using bel_later hW h2) (bel_later hW h3)
    rw [bl_abac] at q
    exact q)
  have A1 : Hid (∀ W, Below w.heap.size w W → Calls Try.prog 34 #[.int .i64 1, .pointer (some ⟨bx, 0, none⟩), .pointer (some ⟨bs, 0, none⟩)] W fun e w' => e = .returned (.bool true) ∧ Below W.heap.size W w') := Lib.hid (fun W hW => by
    have q := ask_any 1 2 c b off bx bs kac kac W (by omega) (bel_later hW h1) (by simpa using bel_later hW h4) (bel_later hW h3)
    rw [bl_acac] at q
    exact q)
  have B0 := Lib.hid (Below.refl w.heap.size w)
  clear h1 h2 h3 h4
  go_enter Try.func33, Try.ntmps33
  go_wp2
  go_loopw [5, 6] (fun iv jv wr => ((iv = .int .i64 0 ∧ jv = .int .i64 2) ∨ (iv = .int .i64 0 ∧ jv = .int .i64 1) ∨ (iv = .int .i64 1 ∧ jv = .int .i64 1)) ∧ Below w.heap.size w wr) (fun i j _ => (2 - (intOf i).toNat) + (intOf j).toNat)
  case atStart => exact ⟨.inl ⟨rfl, rfl⟩, B0.out⟩
  case round =>
    obtain ⟨⟨rfl, rfl⟩ | ⟨rfl, rfl⟩ | ⟨rfl, rfl⟩, hb⟩ := hrel
    · have HB := Lib.hid hb
      clear hb
      go_wp2_with (first
        | (go_at_call 34; ((with_reducible refine (A1.out _ HB.out).mono ?_); rintro e w1 ⟨rfl, b1⟩; have B1 := Lib.hid (bel_trans HB.out b1); clear b1))
        | fail)
      exact ⟨⟨.inr (.inl ⟨rfl, rfl⟩), B1.out⟩, by decide⟩
    · have HB := Lib.hid hb
      clear hb
      go_wp2_with (first
        | (go_at_call 34; ((with_reducible refine (A0.out _ HB.out).mono ?_); rintro e w1 ⟨rfl, b1⟩; have B1 := Lib.hid (bel_trans HB.out b1); clear b1))
        | fail)
      exact ⟨⟨.inr (.inr ⟨rfl, rfl⟩), B1.out⟩, by decide⟩
    · have HB := Lib.hid hb
      clear hb
      go_wp2
      go_ret
      exact ⟨rfl, HB.out⟩
set_option maxHeartbeats 2000000 in
theorem place_lv (A : Option Addr) (c : Nat) (w : World) (hA : RdT w A lv) :
    Calls Try.prog 15 #[.slice A 2 c, .string kac] w fun e w' => e = .returned (.tuple #[.int .i64 1, .bool true]) ∧ Below w.heap.size w w' := by
  obtain ⟨b, off, rfl, hlt, f0, f1⟩ := rdt_get hA (k := 0) (x := (kab, v1)) rfl
  obtain ⟨b2, off2, e2, hlt2, f2, f3⟩ := rdt_get hA (k := 1) (x := (kac, v2)) rfl
  cases e2
  have z0 : w.cell? ⟨b, off, none⟩ = some (.string kab) := by simpa using f0
  have z1 : w.cell? ⟨b, off + 2, none⟩ = some (.string kac) := by simpa using f2
  clear f0 f1 f2 f3 hA
  have hV : Below w.heap.size w ((w.alloc (.cells #[.slice (some ⟨b, off, none⟩) 2 c] 22)).alloc (.cells #[.string kac] 9)) := bel_alloc (bel_alloc (Below.refl _ _) _) _
  have HV := Lib.hid hV
  have x1 : ((w.alloc (.cells #[.slice (some ⟨b, off, none⟩) 2 c] 22)).alloc (.cells #[.string kac] 9)).cell? ⟨w.heap.size, 0, none⟩ = some (.slice (some ⟨b, off, none⟩) 2 c) := by
    simp [go_sem]
  have x2 : ((w.alloc (.cells #[.slice (some ⟨b, off, none⟩) 2 c] 22)).alloc (.cells #[.string kac] 9)).cell? ⟨w.heap.size + 1, 0, none⟩ = some (.string kac) := by
    simp [go_sem]
  have S := Lib.hid (search_lv b off c w.heap.size (w.heap.size + 1) _ x1 (bel_later hV z0) (bel_later hV z1) x2)
  have X : Hid (∀ W, Below ((w.alloc (.cells #[.slice (some ⟨b, off, none⟩) 2 c] 22)).alloc (.cells #[.string kac] 9)).heap.size ((w.alloc (.cells #[.slice (some ⟨b, off, none⟩) 2 c] 22)).alloc (.cells #[.string kac] 9)) W → W.cell? ⟨w.heap.size, 0, none⟩ = some (.slice (some ⟨b, off, none⟩) 2 c) ∧ W.cell? ⟨w.heap.size + 1, 0, none⟩ = some (.string kac) ∧ W.cell? ⟨b, off + 2, none⟩ = some (.string kac)) := Lib.hid (fun W hW => ⟨bel_later hW x1, bel_later hW x2, bel_later (bel_trans hV hW) z1⟩)
  have hbe := eq_acac
  clear hV z0 z1 x1 x2
  go_enter Try.func15, Try.ntmps15
  go_wp2_with (first
    | (go_at_call 33; ((with_reducible refine S.out.mono ?_); rintro e w1 ⟨rfl, b1⟩; obtain ⟨y1, y2, y3⟩ := X.out _ b1; have B1 := Lib.hid (bel_trans HV.out b1); clear b1))
    | fail)
  go_quiet (fail)
  go_wp2
  exact bodyPost_ret (v := .tuple #[.int .i64 1, .bool true]) (by simp [results, Try.results15, go_sem]) rfl ⟨rfl, bel_drewN B1.out _⟩
end Go.Proofs.Yteiifcmdpoonmaa
