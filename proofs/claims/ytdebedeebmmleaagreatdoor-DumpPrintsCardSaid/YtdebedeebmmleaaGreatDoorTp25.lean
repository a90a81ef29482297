/- Rows of texts, numbers, messages, entries: are they equal? -/
import Derived.Test.YtdebedeebmmleaaGreatDoorTp24
set_option linter.unusedVariables false
set_option linter.unusedSimpArgs false
namespace Go.Proofs.YtdebedeebmmleaaGreatDoor
open Go.RowKit Go.Maps
theorem eq_len {α : Type} {xs ys : List α} {b : Bool} (hb : b = true ↔ xs = ys) (h : ¬ xs.length = ys.length) : b = false := by
  cases b with
  | false => rfl
  | true => exact absurd (congrArg List.length (hb.1 rfl)) h
theorem eq_at {α : Type} {xs ys : List α} {b : Bool} {k : Nat} {x y : α} (hb : b = true ↔ xs = ys) (hx : xs[k]? = some x) (hy : ys[k]? = some y) (h : ¬ x = y) : b = false := by
  cases b with
  | false => rfl
  | true =>
    have e := hb.1 rfl
    subst e
    rw [hx] at hy
    injection hy with hy
    exact absurd hy h
theorem eq_next {α : Type} {xs ys : List α} {k : Nat} {x : α} (ht : xs.take k = ys.take k) (hx : xs[k]? = some x) (hy : ys[k]? = some x) : xs.take (k + 1) = ys.take (k + 1) := by
  rw [List.take_add_one, List.take_add_one, hx, hy, ht]
theorem eq_end {α : Type} {xs ys : List α} {b : Bool} {k : Nat} (hb : b = true ↔ xs = ys) (ht : xs.take k = ys.take k) (h1 : xs.length ≤ k) (h2 : ys.length ≤ k) : b = true := by
  rw [List.take_of_length_le h1, List.take_of_length_le h2] at ht
  exact hb.2 ht
theorem bne_l {a b : ByteArray} (h : ¬ a = b) : (a.toList == b.toList) = false :=
  beq_eq_false_iff_ne.2 (fun e => h (ba_inj (by rw [← ByteArray.toList_eq, ← ByteArray.toList_eq, e])))
theorem m_diff {a0 b0 a1 b1 a5 b5 : Int} {a2 b2 a3 b3 a4 b4 : ByteArray} (h : ¬ (⟨a0, a1, a2, a3, a4, a5⟩ : M) = ⟨b0, b1, b2, b3, b4, b5⟩) :
    ¬ a0 = b0 ∨ (a0 = b0 ∧ ¬ a1 = b1) ∨ (a0 = b0 ∧ a1 = b1 ∧ ¬ a2 = b2) ∨ (a0 = b0 ∧ a1 = b1 ∧ a2 = b2 ∧ ¬ a3 = b3) ∨ (a0 = b0 ∧ a1 = b1 ∧ a2 = b2 ∧ a3 = b3 ∧ ¬ a4 = b4) ∨ (a0 = b0 ∧ a1 = b1 ∧ a2 = b2 ∧ a3 = b3 ∧ a4 = b4 ∧ ¬ a5 = b5) := by
  by_cases h0 : a0 = b0
  · by_cases h1 : a1 = b1
    · by_cases h2 : a2 = b2
      · by_cases h3 : a3 = b3
        · by_cases h4 : a4 = b4
          · by_cases h5 : a5 = b5
            · subst h0 h1 h2 h3 h4 h5; exact absurd rfl h
            · exact .inr (.inr (.inr (.inr (.inr ⟨h0, h1, h2, h3, h4, h5⟩))))
          · exact .inr (.inr (.inr (.inr (.inl ⟨h0, h1, h2, h3, h4⟩))))
        · exact .inr (.inr (.inr (.inl ⟨h0, h1, h2, h3⟩)))
      · exact .inr (.inr (.inl ⟨h0, h1, h2⟩))
    · exact .inr (.inl ⟨h0, h1⟩)
  · exact .inl h0
set_option maxRecDepth 10000 in
set_option maxHeartbeats 4000000 in
theorem seq_any (A B : Option Addr) (n m c d : Nat) (xs ys : List ByteArray) (b : Bool) (w : World) (hb : b = true ↔ xs = ys) (hl : xs.length = n) (hm : ys.length = m) (hn : n ≤ 1000000) (hA : ES.Rd w A xs) (hB : ES.Rd w B ys) :
    Calls Tryz.prog 44 #[.slice A n c, .slice B m d] w fun r w' => r = .returned (.bool b) ∧ Below w.heap.size w w' := by
  by_cases hnm : n = m
  rotate_left
  · have hq : ¬ (n : Int) = (m : Int) := by omega
    have HF := Lib.hid (eq_len hb (by rw [hl, hm]; exact hnm))
    clear hb hl hm hn hA hB hnm
    go_enter Tryz.func44, Tryz.ntmps44
    go_wp2
    go_ret
    exact ⟨by rw [HF.out]; rfl, Below.refl _ _⟩
  subst hnm
  have HNN := Lib.hid hn
  have HL := Lib.hid (And.intro hl hm)
  have HA := Lib.hid hA
  have HB2 := Lib.hid hB
  have HBB := Lib.hid hb
  clear hl hm hA hB hb
  go_enter Tryz.func44, Tryz.ntmps44
  go_upto_region 4 with fail
  go_loopw [13] (fun iv wr => ∃ (k : Nat), k ≤ n ∧ iv = .int .i64 k ∧ Hid (xs.take k = ys.take k) ∧ Below w.heap.size w wr) (fun i _ => n - (intOf i).toNat)
  case atStart => exact ⟨0, by omega, rfl, Lib.hid rfl, Below.refl _ _⟩
  case round =>
    obtain ⟨k, hk, rfl, HT, hb⟩ := hrel
    have HB := Lib.hid hb
    clear hb
    by_cases h8 : k < n
    · have hk1 : (k : Int) < (n : Int) := by omega
      have hk0 : (0 : Int) ≤ (k : Int) := by omega
      have WK : IntKind.i64.wrap ((k : Int) + 1) = (k : Int) + 1 := IntWalk.i64_in _ (by have := HNN.out; omega)
      obtain ⟨x, hx⟩ : ∃ x, xs[k]? = some x := ⟨_, List.getElem?_eq_getElem (by rw [HL.out.1]; omega)⟩
      obtain ⟨y, hy⟩ : ∃ y, ys[k]? = some y := ⟨_, List.getElem?_eq_getElem (by rw [HL.out.2]; omega)⟩
      have HN : Hid (x = y → xs.take (k + 1) = ys.take (k + 1)) := Lib.hid (fun e => eq_next HT.out hx (by rw [e]; exact hy))
      have HE : Hid (¬ x = y → b = false) := Lib.hid (fun e => eq_at HBB.out hx hy e)
      obtain ⟨b', off, rfl, hlt, g0⟩ := es_at (HA.out.later HB.out) hx
      obtain ⟨b'', off', rfl, hlt', g1⟩ := es_at (HB2.out.later HB.out) hy
      clear hx hy hlt hlt'
      by_cases hxy : x = y
      · have HN2 := Lib.hid (HN.out hxy)
        subst hxy
        go_wp2_with fail
        go_quiet (fail)
        go_wp2
        exact ⟨⟨k + 1, by omega, by simp, HN2, bel_drewN HB.out _⟩, by simp [intOf]; omega⟩
      · have HF := Lib.hid (HE.out hxy)
        have h' := bne_l hxy
        clear HE HN
        go_wp2_with fail
        go_quiet (fail)
        go_wp2
        go_ret
        exact ⟨by rw [HF.out]; rfl, bel_drewN HB.out _⟩
    · have hk1 : ¬ (k : Int) < (n : Int) := by omega
      have HF := Lib.hid (eq_end HBB.out HT.out (by rw [HL.out.1]; omega) (by rw [HL.out.2]; omega))
      go_wp2
      go_ret
      exact ⟨by rw [HF.out]; rfl, HB.out⟩
set_option maxRecDepth 10000 in
set_option maxHeartbeats 4000000 in
theorem ieq_any (A B : Option Addr) (n m c d : Nat) (xs ys : List Int) (b : Bool) (w : World) (hb : b = true ↔ xs = ys) (hl : xs.length = n) (hm : ys.length = m) (hn : n ≤ 1000000) (hA : EI.Rd w A xs) (hB : EI.Rd w B ys) :
    Calls Tryz.prog 45 #[.slice A n c, .slice B m d] w fun r w' => r = .returned (.bool b) ∧ Below w.heap.size w w' := by
  by_cases hnm : n = m
  rotate_left
  · have hq : ¬ (n : Int) = (m : Int) := by omega
    have HF := Lib.hid (eq_len hb (by rw [hl, hm]; exact hnm))
    clear hb hl hm hn hA hB hnm
    go_enter Tryz.func45, Tryz.ntmps45
    go_wp2
    go_ret
    exact ⟨by rw [HF.out]; rfl, Below.refl _ _⟩
  subst hnm
  have HNN := Lib.hid hn
  have HL := Lib.hid (And.intro hl hm)
  have HA := Lib.hid hA
  have HB2 := Lib.hid hB
  have HBB := Lib.hid hb
  clear hl hm hA hB hb
  go_enter Tryz.func45, Tryz.ntmps45
  go_upto_region 4 with fail
  go_loopw [13] (fun iv wr => ∃ (k : Nat), k ≤ n ∧ iv = .int .i64 k ∧ Hid (xs.take k = ys.take k) ∧ Below w.heap.size w wr) (fun i _ => n - (intOf i).toNat)
  case atStart => exact ⟨0, by omega, rfl, Lib.hid rfl, Below.refl _ _⟩
  case round =>
    obtain ⟨k, hk, rfl, HT, hb⟩ := hrel
    have HB := Lib.hid hb
    clear hb
    by_cases h8 : k < n
    · have hk1 : (k : Int) < (n : Int) := by omega
      have hk0 : (0 : Int) ≤ (k : Int) := by omega
      have WK : IntKind.i64.wrap ((k : Int) + 1) = (k : Int) + 1 := IntWalk.i64_in _ (by have := HNN.out; omega)
      obtain ⟨x, hx⟩ : ∃ x, xs[k]? = some x := ⟨_, List.getElem?_eq_getElem (by rw [HL.out.1]; omega)⟩
      obtain ⟨y, hy⟩ : ∃ y, ys[k]? = some y := ⟨_, List.getElem?_eq_getElem (by rw [HL.out.2]; omega)⟩
      have HN : Hid (x = y → xs.take (k + 1) = ys.take (k + 1)) := Lib.hid (fun e => eq_next HT.out hx (by rw [e]; exact hy))
      have HE : Hid (¬ x = y → b = false) := Lib.hid (fun e => eq_at HBB.out hx hy e)
      obtain ⟨b', off, rfl, hlt, g0⟩ := ei_at (HA.out.later HB.out) hx
      obtain ⟨b'', off', rfl, hlt', g1⟩ := ei_at (HB2.out.later HB.out) hy
      clear hx hy hlt hlt'
      by_cases hxy : x = y
      · have HN2 := Lib.hid (HN.out hxy)
        subst hxy
        go_wp2_with fail
        go_quiet (fail)
        go_wp2
        exact ⟨⟨k + 1, by omega, by simp, HN2, bel_drewN HB.out _⟩, by simp [intOf]; omega⟩
      · have HF := Lib.hid (HE.out hxy)
        clear HE HN
        go_wp2_with fail
        go_quiet (fail)
        go_wp2
        go_ret
        exact ⟨by rw [HF.out]; rfl, bel_drewN HB.out _⟩
    · have hk1 : ¬ (k : Int) < (n : Int) := by omega
      have HF := Lib.hid (eq_end HBB.out HT.out (by rw [HL.out.1]; omega) (by rw [HL.out.2]; omega))
      go_wp2
      go_ret
      exact ⟨by rw [HF.out]; rfl, HB.out⟩
set_option maxRecDepth 10000 in
set_option maxHeartbeats 4000000 in
theorem meq_any (A B : Option Addr) (n m c d : Nat) (xs ys : List M) (b : Bool) (w : World) (hb : b = true ↔ xs = ys) (hl : xs.length = n) (hm : ys.length = m) (hn : n ≤ 1000000) (hA : EM.Rd w A xs) (hB : EM.Rd w B ys) :
    Calls Tryz.prog 46 #[.slice A n c, .slice B m d] w fun r w' => r = .returned (.bool b) ∧ Below w.heap.size w w' := by
  by_cases hnm : n = m
  rotate_left
  · have hq : ¬ (n : Int) = (m : Int) := by omega
    have HF := Lib.hid (eq_len hb (by rw [hl, hm]; exact hnm))
    clear hb hl hm hn hA hB hnm
    go_enter Tryz.func46, Tryz.ntmps46
    go_wp2
    go_ret
    exact ⟨by rw [HF.out]; rfl, Below.refl _ _⟩
  subst hnm
  have HNN := Lib.hid hn
  have HL := Lib.hid (And.intro hl hm)
  have HA := Lib.hid hA
  have HB2 := Lib.hid hB
  have HBB := Lib.hid hb
  clear hl hm hA hB hb
  go_enter Tryz.func46, Tryz.ntmps46
  go_upto_region 4 with fail
  go_loopw [13] (fun iv wr => ∃ (k : Nat), k ≤ n ∧ iv = .int .i64 k ∧ Hid (xs.take k = ys.take k) ∧ Below w.heap.size w wr) (fun i _ => n - (intOf i).toNat)
  case atStart => exact ⟨0, by omega, rfl, Lib.hid rfl, Below.refl _ _⟩
  case round =>
    obtain ⟨k, hk, rfl, HT, hb⟩ := hrel
    have HB := Lib.hid hb
    clear hb
    by_cases h8 : k < n
    · have hk1 : (k : Int) < (n : Int) := by omega
      have hk0 : (0 : Int) ≤ (k : Int) := by omega
      have WK : IntKind.i64.wrap ((k : Int) + 1) = (k : Int) + 1 := IntWalk.i64_in _ (by have := HNN.out; omega)
      obtain ⟨x, hx⟩ : ∃ x, xs[k]? = some x := ⟨_, List.getElem?_eq_getElem (by rw [HL.out.1]; omega)⟩
      obtain ⟨y, hy⟩ : ∃ y, ys[k]? = some y := ⟨_, List.getElem?_eq_getElem (by rw [HL.out.2]; omega)⟩
      have HN : Hid (x = y → xs.take (k + 1) = ys.take (k + 1)) := Lib.hid (fun e => eq_next HT.out hx (by rw [e]; exact hy))
      have HE : Hid (¬ x = y → b = false) := Lib.hid (fun e => eq_at HBB.out hx hy e)
      obtain ⟨b', off, rfl, hlt, hc⟩ := (HA.out.later HB.out).get hx
      obtain ⟨b'', off', rfl, hlt', hd⟩ := (HB2.out.later HB.out).get hy
      obtain ⟨mk, mq, mkey, mtoo, mval, mdl⟩ := x
      obtain ⟨nk, nq, nkey, ntoo, nval, ndl⟩ := y
      have g0 : wr.cell? ⟨b', off + k * 6, none⟩ = some (.int .u8 mk) := hc 0 _ rfl
      have g1 : wr.cell? ⟨b', off + k * 6 + 1, none⟩ = some (.int .i64 mq) := hc 1 _ rfl
      have g2 : wr.cell? ⟨b', off + k * 6 + 2, none⟩ = some (.string mkey) := hc 2 _ rfl
      have g3 : wr.cell? ⟨b', off + k * 6 + 3, none⟩ = some (.string mtoo) := hc 3 _ rfl
      have g4 : wr.cell? ⟨b', off + k * 6 + 4, none⟩ = some (.string mval) := hc 4 _ rfl
      have g5 : wr.cell? ⟨b', off + k * 6 + 5, none⟩ = some (.int .u64 mdl) := hc 5 _ rfl
      have e0 : wr.cell? ⟨b'', off' + k * 6, none⟩ = some (.int .u8 nk) := hd 0 _ rfl
      have e1 : wr.cell? ⟨b'', off' + k * 6 + 1, none⟩ = some (.int .i64 nq) := hd 1 _ rfl
      have e2 : wr.cell? ⟨b'', off' + k * 6 + 2, none⟩ = some (.string nkey) := hd 2 _ rfl
      have e3 : wr.cell? ⟨b'', off' + k * 6 + 3, none⟩ = some (.string ntoo) := hd 3 _ rfl
      have e4 : wr.cell? ⟨b'', off' + k * 6 + 4, none⟩ = some (.string nval) := hd 4 _ rfl
      have e5 : wr.cell? ⟨b'', off' + k * 6 + 5, none⟩ = some (.int .u64 ndl) := hd 5 _ rfl
      clear hx hy hlt hlt' hc hd
      by_cases hxy : (⟨mk, mq, mkey, mtoo, mval, mdl⟩ : M) = ⟨nk, nq, nkey, ntoo, nval, ndl⟩
      · have HN2 := Lib.hid (HN.out hxy)
        injection hxy with q0 q1 q2 q3 q4 q5
        subst q0 q1 q2 q3 q4 q5
        go_wp2_with fail
        go_quiet (fail)
        go_wp2
        exact ⟨⟨k + 1, by omega, by simp, HN2, bel_drewN HB.out _⟩, by simp [intOf]; omega⟩
      · have HF := Lib.hid (HE.out hxy)
        rcases m_diff hxy with h | ⟨rfl, h⟩ | ⟨rfl, rfl, h⟩ | ⟨rfl, rfl, rfl, h⟩ | ⟨rfl, rfl, rfl, rfl, h⟩ | ⟨rfl, rfl, rfl, rfl, rfl, h⟩
        all_goals
          clear hxy HE HN
          try have h' := bne_l h
          go_wp2_with fail
          go_quiet (fail)
          go_wp2
          go_ret
          exact ⟨by rw [HF.out]; rfl, bel_drewN HB.out _⟩
    · have hk1 : ¬ (k : Int) < (n : Int) := by omega
      have HF := Lib.hid (eq_end HBB.out HT.out (by rw [HL.out.1]; omega) (by rw [HL.out.2]; omega))
      go_wp2
      go_ret
      exact ⟨by rw [HF.out]; rfl, HB.out⟩
set_option maxRecDepth 10000 in
set_option maxHeartbeats 4000000 in
theorem eeq_any (A B : Option Addr) (n m c d : Nat) (xs ys : List EnV) (b : Bool) (w : World) (hb : b = true ↔ xs = ys) (hl : xs.length = n) (hm : ys.length = m) (hn : n ≤ 1000000) (hA : EE.Rd w A xs) (hB : EE.Rd w B ys) :
    Calls Tryz.prog 48 #[.slice A n c, .slice B m d] w fun r w' => r = .returned (.bool b) ∧ Below w.heap.size w w' := by
  by_cases hnm : n = m
  rotate_left
  · have hq : ¬ (n : Int) = (m : Int) := by omega
    have HF := Lib.hid (eq_len hb (by rw [hl, hm]; exact hnm))
    clear hb hl hm hn hA hB hnm
    go_enter Tryz.func48, Tryz.ntmps48
    go_wp2
    go_ret
    exact ⟨by rw [HF.out]; rfl, Below.refl _ _⟩
  subst hnm
  have HNN := Lib.hid hn
  have HL := Lib.hid (And.intro hl hm)
  have HA := Lib.hid hA
  have HB2 := Lib.hid hB
  have HBB := Lib.hid hb
  clear hl hm hA hB hb
  go_enter Tryz.func48, Tryz.ntmps48
  go_upto_region 4 with fail
  go_loopw [13] (fun iv wr => ∃ (k : Nat), k ≤ n ∧ iv = .int .i64 k ∧ Hid (xs.take k = ys.take k) ∧ Below w.heap.size w wr) (fun i _ => n - (intOf i).toNat)
  case atStart => exact ⟨0, by omega, rfl, Lib.hid rfl, Below.refl _ _⟩
  case round =>
    obtain ⟨k, hk, rfl, HT, hb⟩ := hrel
    have HB := Lib.hid hb
    clear hb
    by_cases h8 : k < n
    · have hk1 : (k : Int) < (n : Int) := by omega
      have hk0 : (0 : Int) ≤ (k : Int) := by omega
      have WK : IntKind.i64.wrap ((k : Int) + 1) = (k : Int) + 1 := IntWalk.i64_in _ (by have := HNN.out; omega)
      obtain ⟨x, hx⟩ : ∃ x, xs[k]? = some x := ⟨_, List.getElem?_eq_getElem (by rw [HL.out.1]; omega)⟩
      obtain ⟨y, hy⟩ : ∃ y, ys[k]? = some y := ⟨_, List.getElem?_eq_getElem (by rw [HL.out.2]; omega)⟩
      have HN : Hid (x = y → xs.take (k + 1) = ys.take (k + 1)) := Lib.hid (fun e => eq_next HT.out hx (by rw [e]; exact hy))
      have HE : Hid (¬ x = y → b = false) := Lib.hid (fun e => eq_at HBB.out hx hy e)
      obtain ⟨b', off, rfl, hlt, g0, g1⟩ := ee_at (HA.out.later HB.out) hx
      obtain ⟨b'', off', rfl, hlt', e0, e1⟩ := ee_at (HB2.out.later HB.out) hy
      obtain ⟨xk, xv⟩ := x
      obtain ⟨yk, yv⟩ := y
      simp only at g0 g1 e0 e1
      clear hx hy hlt hlt'
      by_cases hxy : (⟨xk, xv⟩ : EnV) = ⟨yk, yv⟩
      · have HN2 := Lib.hid (HN.out hxy)
        injection hxy with q0 q1
        subst q0 q1
        go_wp2_with fail
        go_quiet (fail)
        go_wp2
        exact ⟨⟨k + 1, by omega, by simp, HN2, bel_drewN HB.out _⟩, by simp [intOf]; omega⟩
      · have HF := Lib.hid (HE.out hxy)
        have hd2 : ¬ xk = yk ∨ (xk = yk ∧ ¬ xv = yv) := by
          by_cases h : xk = yk
          · exact .inr ⟨h, fun e => hxy (by rw [h, e])⟩
          · exact .inl h
        rcases hd2 with h | ⟨rfl, h⟩
        all_goals
          clear hxy HE HN
          have h' := bne_l h
          go_wp2_with fail
          go_quiet (fail)
          go_wp2
          go_ret
          exact ⟨by rw [HF.out]; rfl, bel_drewN HB.out _⟩
    · have hk1 : ¬ (k : Int) < (n : Int) := by omega
      have HF := Lib.hid (eq_end HBB.out HT.out (by rw [HL.out.1]; omega) (by rw [HL.out.2]; omega))
      go_wp2
      go_ret
      exact ⟨by rw [HF.out]; rfl, HB.out⟩
set_option maxRecDepth 10000 in
set_option maxHeartbeats 4000000 in
theorem ssame_any (A B : Option Addr) (n m c d : Nat) (xs ys : List ByteArray) (b : Bool) (w : World) (hb : b = true ↔ xs = ys) (hl : xs.length = n) (hm : ys.length = m) (hn : n ≤ 1000000) (hA : ES.Rd w A xs) (hB : ES.Rd w B ys) :
    Calls Tryz.prog 49 #[.slice A n c, .slice B m d] w fun r w' => r = .returned (.bool b) ∧ Below w.heap.size w w' := by
  by_cases hnm : n = m
  rotate_left
  · have hq : ¬ (n : Int) = (m : Int) := by omega
    have HF := Lib.hid (eq_len hb (by rw [hl, hm]; exact hnm))
    clear hb hl hm hn hA hB hnm
    go_enter Tryz.func49, Tryz.ntmps49
    go_wp2
    go_ret
    exact ⟨by rw [HF.out]; rfl, Below.refl _ _⟩
  subst hnm
  have HNN := Lib.hid hn
  have HL := Lib.hid (And.intro hl hm)
  have HA := Lib.hid hA
  have HB2 := Lib.hid hB
  have HBB := Lib.hid hb
  clear hl hm hA hB hb
  go_enter Tryz.func49, Tryz.ntmps49
  go_upto_region 4 with fail
  go_loopw [5] (fun iv wr => ∃ (k : Nat), k ≤ n ∧ iv = .int .i64 k ∧ Hid (xs.take k = ys.take k) ∧ Below w.heap.size w wr) (fun i _ => n - (intOf i).toNat)
  case atStart => exact ⟨0, by omega, rfl, Lib.hid rfl, Below.refl _ _⟩
  case round =>
    obtain ⟨k, hk, rfl, HT, hb⟩ := hrel
    have HB := Lib.hid hb
    clear hb
    by_cases h8 : k < n
    · have hk1 : (k : Int) < (n : Int) := by omega
      have hk0 : (0 : Int) ≤ (k : Int) := by omega
      have WK : IntKind.i64.wrap ((k : Int) + 1) = (k : Int) + 1 := IntWalk.i64_in _ (by have := HNN.out; omega)
      obtain ⟨x, hx⟩ : ∃ x, xs[k]? = some x := ⟨_, List.getElem?_eq_getElem (by rw [HL.out.1]; omega)⟩
      obtain ⟨y, hy⟩ : ∃ y, ys[k]? = some y := ⟨_, List.getElem?_eq_getElem (by rw [HL.out.2]; omega)⟩
      have HN : Hid (x = y → xs.take (k + 1) = ys.take (k + 1)) := Lib.hid (fun e => eq_next HT.out hx (by rw [e]; exact hy))
      have HE : Hid (¬ x = y → b = false) := Lib.hid (fun e => eq_at HBB.out hx hy e)
      obtain ⟨b', off, rfl, hlt, g0⟩ := es_at (HA.out.later HB.out) hx
      obtain ⟨b'', off', rfl, hlt', g1⟩ := es_at (HB2.out.later HB.out) hy
      clear hx hy hlt hlt'
      by_cases hxy : x = y
      · have HN2 := Lib.hid (HN.out hxy)
        subst hxy
        go_wp2_with fail
        go_quiet (fail)
        go_wp2
        exact ⟨⟨k + 1, by omega, by simp, HN2, bel_drewN HB.out _⟩, by simp [intOf]; omega⟩
      · have HF := Lib.hid (HE.out hxy)
        have h' := bne_l hxy
        clear HE HN
        go_wp2_with fail
        go_quiet (fail)
        go_wp2
        go_ret
        exact ⟨by rw [HF.out]; rfl, bel_drewN HB.out _⟩
    · have hk1 : ¬ (k : Int) < (n : Int) := by omega
      have HF := Lib.hid (eq_end HBB.out HT.out (by rw [HL.out.1]; omega) (by rw [HL.out.2]; omega))
      go_wp2
      go_ret
      exact ⟨by rw [HF.out]; rfl, HB.out⟩
set_option maxRecDepth 10000 in
set_option maxHeartbeats 4000000 in
theorem msame_any (A B : Option Addr) (n m c d : Nat) (xs ys : List M) (b : Bool) (w : World) (hb : b = true ↔ xs = ys) (hl : xs.length = n) (hm : ys.length = m) (hn : n ≤ 1000000) (hA : EM.Rd w A xs) (hB : EM.Rd w B ys) :
    Calls Tryz.prog 50 #[.slice A n c, .slice B m d] w fun r w' => r = .returned (.bool b) ∧ Below w.heap.size w w' := by
  by_cases hnm : n = m
  rotate_left
  · have hq : ¬ (n : Int) = (m : Int) := by omega
    have HF := Lib.hid (eq_len hb (by rw [hl, hm]; exact hnm))
    clear hb hl hm hn hA hB hnm
    go_enter Tryz.func50, Tryz.ntmps50
    go_wp2
    go_ret
    exact ⟨by rw [HF.out]; rfl, Below.refl _ _⟩
  subst hnm
  have HNN := Lib.hid hn
  have HL := Lib.hid (And.intro hl hm)
  have HA := Lib.hid hA
  have HB2 := Lib.hid hB
  have HBB := Lib.hid hb
  clear hl hm hA hB hb
  go_enter Tryz.func50, Tryz.ntmps50
  go_upto_region 4 with fail
  go_loopw [5] (fun iv wr => ∃ (k : Nat), k ≤ n ∧ iv = .int .i64 k ∧ Hid (xs.take k = ys.take k) ∧ Below w.heap.size w wr) (fun i _ => n - (intOf i).toNat)
  case atStart => exact ⟨0, by omega, rfl, Lib.hid rfl, Below.refl _ _⟩
  case round =>
    obtain ⟨k, hk, rfl, HT, hb⟩ := hrel
    have HB := Lib.hid hb
    clear hb
    by_cases h8 : k < n
    · have hk1 : (k : Int) < (n : Int) := by omega
      have hk0 : (0 : Int) ≤ (k : Int) := by omega
      have WK : IntKind.i64.wrap ((k : Int) + 1) = (k : Int) + 1 := IntWalk.i64_in _ (by have := HNN.out; omega)
      obtain ⟨x, hx⟩ : ∃ x, xs[k]? = some x := ⟨_, List.getElem?_eq_getElem (by rw [HL.out.1]; omega)⟩
      obtain ⟨y, hy⟩ : ∃ y, ys[k]? = some y := ⟨_, List.getElem?_eq_getElem (by rw [HL.out.2]; omega)⟩
      have HN : Hid (x = y → xs.take (k + 1) = ys.take (k + 1)) := Lib.hid (fun e => eq_next HT.out hx (by rw [e]; exact hy))
      have HE : Hid (¬ x = y → b = false) := Lib.hid (fun e => eq_at HBB.out hx hy e)
      obtain ⟨b', off, rfl, hlt, hc⟩ := (HA.out.later HB.out).get hx
      obtain ⟨b'', off', rfl, hlt', hd⟩ := (HB2.out.later HB.out).get hy
      obtain ⟨mk, mq, mkey, mtoo, mval, mdl⟩ := x
      obtain ⟨nk, nq, nkey, ntoo, nval, ndl⟩ := y
      have g0 : wr.cell? ⟨b', off + k * 6, none⟩ = some (.int .u8 mk) := hc 0 _ rfl
      have g1 : wr.cell? ⟨b', off + k * 6 + 1, none⟩ = some (.int .i64 mq) := hc 1 _ rfl
      have g2 : wr.cell? ⟨b', off + k * 6 + 2, none⟩ = some (.string mkey) := hc 2 _ rfl
      have g3 : wr.cell? ⟨b', off + k * 6 + 3, none⟩ = some (.string mtoo) := hc 3 _ rfl
      have g4 : wr.cell? ⟨b', off + k * 6 + 4, none⟩ = some (.string mval) := hc 4 _ rfl
      have g5 : wr.cell? ⟨b', off + k * 6 + 5, none⟩ = some (.int .u64 mdl) := hc 5 _ rfl
      have e0 : wr.cell? ⟨b'', off' + k * 6, none⟩ = some (.int .u8 nk) := hd 0 _ rfl
      have e1 : wr.cell? ⟨b'', off' + k * 6 + 1, none⟩ = some (.int .i64 nq) := hd 1 _ rfl
      have e2 : wr.cell? ⟨b'', off' + k * 6 + 2, none⟩ = some (.string nkey) := hd 2 _ rfl
      have e3 : wr.cell? ⟨b'', off' + k * 6 + 3, none⟩ = some (.string ntoo) := hd 3 _ rfl
      have e4 : wr.cell? ⟨b'', off' + k * 6 + 4, none⟩ = some (.string nval) := hd 4 _ rfl
      have e5 : wr.cell? ⟨b'', off' + k * 6 + 5, none⟩ = some (.int .u64 ndl) := hd 5 _ rfl
      clear hx hy hlt hlt' hc hd
      by_cases hxy : (⟨mk, mq, mkey, mtoo, mval, mdl⟩ : M) = ⟨nk, nq, nkey, ntoo, nval, ndl⟩
      · have HN2 := Lib.hid (HN.out hxy)
        injection hxy with q0 q1 q2 q3 q4 q5
        subst q0 q1 q2 q3 q4 q5
        go_wp2_with fail
        go_quiet (fail)
        go_wp2
        exact ⟨⟨k + 1, by omega, by simp, HN2, bel_drewN HB.out _⟩, by simp [intOf]; omega⟩
      · have HF := Lib.hid (HE.out hxy)
        rcases m_diff hxy with h | ⟨rfl, h⟩ | ⟨rfl, rfl, h⟩ | ⟨rfl, rfl, rfl, h⟩ | ⟨rfl, rfl, rfl, rfl, h⟩ | ⟨rfl, rfl, rfl, rfl, rfl, h⟩
        all_goals
          clear hxy HE HN
          try have h' := bne_l h
          go_wp2_with fail
          go_quiet (fail)
          go_wp2
          go_ret
          exact ⟨by rw [HF.out]; rfl, bel_drewN HB.out _⟩
    · have hk1 : ¬ (k : Int) < (n : Int) := by omega
      have HF := Lib.hid (eq_end HBB.out HT.out (by rw [HL.out.1]; omega) (by rw [HL.out.2]; omega))
      go_wp2
      go_ret
      exact ⟨by rw [HF.out]; rfl, HB.out⟩
end Go.Proofs.YtdebedeebmmleaaGreatDoor
