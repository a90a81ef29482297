/- The law OrderRises: its walk. -/
import Derived.Test.YtfgohbhacldlmaaS4
namespace Go.Proofs.Ytfgohbhacldlmaa
set_option linter.unusedSimpArgs false
open Go.RowKit
set_option linter.unusedVariables false

theorem plc_at {L : PL} (hs : Srt ltS L) {k : Nat} {x : ByteArray × Int} (hx : L[k]? = some x) : plc x.1 L = k := by
  have hk := (List.getElem?_eq_some_iff.1 hx).1
  have e : L = L.take k ++ x :: L.drop (k + 1) := by
    obtain ⟨h1, h⟩ := List.getElem?_eq_some_iff.1 hx
    conv => lhs; rw [← List.take_append_drop k L, List.drop_eq_getElem_cons h1, h]
  have hs2 : Srt ltS (L.take k ++ x :: L.drop (k + 1)) := e ▸ hs
  have h1 := (cut_eq linS hs2 rfl).1
  rw [← e] at h1
  unfold plc
  rw [h1, List.length_take]; omega
theorem rise_at {L : PL} (hs : Srt ltS L) {k : Nat} {x y : ByteArray × Int} (hx : L[k]? = some x) (hy : L[k + 1]? = some y) : ltS x.1 y.1 = true := by
  obtain ⟨h1, e1⟩ := List.getElem?_eq_some_iff.1 hx
  obtain ⟨h2, e2⟩ := List.getElem?_eq_some_iff.1 hy
  have := List.pairwise_iff_getElem.1 hs k (k + 1) h1 h2 (by omega)
  rw [e1, e2] at this; exact this
set_option maxHeartbeats 4000000 in
set_option maxRecDepth 100000 in
theorem rises_law (A : Option Addr) (n c : Nat) (f : Nat → DD) (w : World) (hd : Deeds w A n f) :
    Calls Try.prog 4 #[.slice A n c] w fun e w' => e = .returned (.bool true) ∧ Below w.heap.size w w' := by
  have PD := Lib.hid (played_any A n c f w hd)
  clear hd
  go_enter Try.func4, Try.ntmps4
  go_wp2_with (first
    | (go_at_call 15; (with_reducible refine PD.out.mono ?_); clear PD; rintro e w1 ⟨rfl, ⟨L, m1, s1, l1⟩, b1⟩; have M1 := Lib.hid m1; have S1 := Lib.hid s1; have L1 := Lib.hid l1; have B1 := Lib.hid b1; have AL : Hid (∀ W, Below w1.heap.size w1 W → Calls Try.prog 14 #[.pointer (some ⟨w.heap.size, 0, none⟩)] W (RowPost W L)) := Lib.hid (fun W hW => all_in _ L (by have := L1.out; omega) W (fun V hV => all_any w.heap.size L V (M1.out.later (bel_trans hW hV)))); clear m1 s1 l1 b1)
    | (go_at_call 14; (with_reducible refine (AL.out _ (Below.refl _ _)).mono ?_); clear AL; rintro e w2 ⟨A2, c2, rfl, r2, b2, _⟩; have R2 := Lib.hid r2; have B2 := Lib.hid b2; clear r2 b2)
    | fail)
  have MP := Lib.hid (fun W (hW : Below w2.heap.size w2 W) => M1.out.later (bel_trans B2.out hW))
  have RP := Lib.hid (fun W (hW : Below w2.heap.size w2 W) => Rd.later R2.out hW)
  obtain ⟨n2, hn2⟩ : ∃ n2, n2 = L.length := ⟨_, rfl⟩
  have HN2 := Lib.hid hn2
  have hn80 : n2 ≤ 80 := by rw [hn2]; exact L1.out
  rw [← hn2]
  clear hn2
  go_loopw [5] (fun iv wr => ∃ k : Nat, k ≤ n2 ∧ iv = .int .i64 (k : Int) ∧ Below w2.heap.size w2 wr) (fun i _ => n2 - (intOf i).toNat)
  case atStart => exact ⟨0, Nat.zero_le _, rfl, Below.refl _ _⟩
  case round =>
    obtain ⟨k, hk, rfl, hb⟩ := hrel
    have HB := Lib.hid hb
    clear hb
    by_cases h8 : k < n2
    · have q1 : (k : Int) < (n2 : Int) := by omega
      have q0 : (0 : Int) ≤ (k : Int) := by omega
      have q9 : (k : Int) ≤ 80 := by omega
      have HK := Lib.hid h8
      obtain ⟨x, hx⟩ : ∃ x, L[k]? = some x := ⟨_, List.getElem?_eq_getElem (by rw [← HN2.out]; omega)⟩
      have AT := Lib.hid (at_in w.heap.size L k x wr (MP.out _ HB.out) hx (by have := L1.out; omega))
      have KP := Lib.hid (fun W (hW : Below w2.heap.size w2 W) => rdp_get (RP.out W hW) hx)
      have PL := Lib.hid (fun W (hW : Below w2.heap.size w2 W) => place_any w.heap.size L x.1 W (MP.out W hW) S1.out (by have := L1.out; omega))
      rw [plc_at S1.out hx] at PL
      obtain ⟨x0, x1⟩ := x
      simp only at AT PL KP
      have KQ : Hid (∀ W, Below w2.heap.size w2 W → ∃ b off, A2 = some ⟨b, off, none⟩ ∧ W.cell? ⟨b, off + k * 2, none⟩ = some (.string x0) ∧ W.cell? ⟨b, off + k * 2 + 1, none⟩ = some (.int .i64 x1)) := Lib.hid (fun W hW => by obtain ⟨b, off, e, _, h1, h2⟩ := KP.out W hW; exact ⟨b, off, e, h1, h2⟩)
      clear KP
      by_cases hk0 : k = 0
      · have p1 : ¬ (0 : Int) < (k : Int) := by omega
        clear hx h8 hk0
        go_wp2_with (first
          | (go_at_call 16; (with_reducible refine AT.out.mono ?_); rintro e w3 ⟨rfl, b3⟩; have B3 := Lib.hid (bel_trans HB.out b3); obtain ⟨bx, ox, rfl, f0, f1⟩ := KQ.out _ B3.out; clear b3)
          | (go_at_call 17; (with_reducible refine (PL.out _ B3.out).mono ?_); rintro e w4 ⟨rfl, b4⟩; have B4 := Lib.hid (bel_trans B3.out b4); clear b4)
          | fail)
        exact ⟨⟨k + 1, by have := HK.out; omega, by simp, B4.out⟩, by have := HK.out; simp [intOf]; omega⟩
      · obtain ⟨y, hy⟩ : ∃ y, L[k - 1]? = some y := ⟨_, List.getElem?_eq_getElem (by rw [← HN2.out]; omega)⟩
        have hlt := rise_at S1.out hy (by rw [show k - 1 + 1 = k by omega]; exact hx)
        have t1 : Op.bytesLess y.1.toList x0.toList = true := hlt
        have KY : Hid (∀ W b off, Below w2.heap.size w2 W → A2 = some ⟨b, off, none⟩ → W.cell? ⟨b, off + (k - 1) * 2, none⟩ = some (.string y.1)) := Lib.hid (fun W b off hW e => by obtain ⟨b2, off2, e2, _, h1, h2⟩ := rdp_get (RP.out W hW) hy; rw [e] at e2; cases e2; exact h1)
        have p1 : (0 : Int) < (k : Int) := by omega
        have p2 : (0 : Int) ≤ (k : Int) - 1 := by omega
        have p3 : (k : Int) - 1 < (n2 : Int) := by omega
        have p4 : ((k : Int) - 1).toNat = k - 1 := by omega
        obtain ⟨y0, y1⟩ := y
        simp only at t1 KY
        clear hx h8 hy hlt hk0
        go_wp2_with (first
          | (go_at_call 16; (with_reducible refine AT.out.mono ?_); rintro e w3 ⟨rfl, b3⟩; have B3 := Lib.hid (bel_trans HB.out b3); obtain ⟨bx, ox, eA, f0, f1⟩ := KQ.out _ B3.out; subst eA; clear b3)
          | (go_at_call 17; (with_reducible refine (PL.out _ B3.out).mono ?_); rintro e w4 ⟨rfl, b4⟩; have B4 := Lib.hid (bel_trans B3.out b4); have f3 := KY.out _ bx ox B4.out rfl; clear b4)
          | fail)
        exact ⟨⟨k + 1, by have := HK.out; omega, by simp, B4.out⟩, by have := HK.out; simp [intOf]; omega⟩
    · have q1 : ¬ (k : Int) < (n2 : Int) := by omega
      have LN : Hid (∀ W, Below w2.heap.size w2 W → Calls Try.prog 11 #[.pointer (some ⟨w.heap.size, 0, none⟩)] W fun e w' => e = .returned (.int .i64 (n2 : Int)) ∧ W = w') := Lib.hid (fun W hW => by rw [HN2.out]; exact len_any w.heap.size L W (MP.out W hW))
      clear h8 hk
      go_wp2_with (first
        | (go_at_call 12; (with_reducible refine (live_any _).mono ?_); rintro e w4 ⟨rfl, b4⟩; have B4 := Lib.hid (bel_trans HB.out b4); clear b4)
        | (go_at_call 11; (with_reducible refine (LN.out _ B4.out).mono ?_); rintro e w5 ⟨rfl, rfl⟩)
        | fail)
      exact bodyPost_ret (v := .bool true) (by simp [results, Try.results4, go_sem]) rfl ⟨rfl, bel_trans B1.out (bel_trans B2.out B4.out)⟩
end Go.Proofs.Ytfgohbhacldlmaa
