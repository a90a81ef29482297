/- Texts of the proof, one behind the other. -/
import Derived.Test.YtelpkajlejbbgaaGreatDoorTd29
set_option linter.unusedVariables false
set_option linter.unusedSimpArgs false
namespace Go.Proofs.YtelpkajlejbbgaaGreatDoor
open Go.RowKit Go.Maps
theorem eq_len {α : Type} {xs ys : List α} {b : Bool} (hb : b = true ↔ xs = ys) (h : ¬ xs.length = ys.length) : b = false := by
  cases b with
  | false => rfl
  | true => exact absurd (congrArg List.length (hb.1 rfl)) h
theorem eq_at {α : Type} {xs ys : List α} {b : Bool} {k : Nat} {x y : α} (hb : b = true ↔ xs = ys) (hx : xs[k]? = some x) (hy : ys[k]? = some y) (h : ¬ x = y) : b = false := by
  cases b with
  | false => rfl
  | true =>
    have e := hb.1 rfl
    subst e
    rw [hx] at hy
    injection hy with hy
    exact absurd hy h
theorem eq_next {α : Type} {xs ys : List α} {k : Nat} {x : α} (ht : xs.take k = ys.take k) (hx : xs[k]? = some x) (hy : ys[k]? = some x) : xs.take (k + 1) = ys.take (k + 1) := by
  rw [List.take_add_one, List.take_add_one, hx, hy, ht]
theorem eq_end {α : Type} {xs ys : List α} {b : Bool} {k : Nat} (hb : b = true ↔ xs = ys) (ht : xs.take k = ys.take k) (h1 : xs.length ≤ k) (h2 : ys.length ≤ k) : b = true := by
  rw [List.take_of_length_le h1, List.take_of_length_le h2] at ht
  exact hb.2 ht
theorem bne_l {a b : ByteArray} (h : ¬ a = b) : (a.toList == b.toList) = false :=
  beq_eq_false_iff_ne.2 (fun e => h (ba_inj (by rw [← ByteArray.toList_eq, ← ByteArray.toList_eq, e])))
theorem m_diff {a0 b0 a1 b1 a5 b5 : Int} {a2 b2 a3 b3 a4 b4 : ByteArray} (h : ¬ (⟨a0, a1, a2, a3, a4, a5⟩ : M) = ⟨b0, b1, b2, b3, b4, b5⟩) :
    ¬ a0 = b0 ∨ (a0 = b0 ∧ ¬ a1 = b1) ∨ (a0 = b0 ∧ a1 = b1 ∧ ¬ a2 = b2) ∨ (a0 = b0 ∧ a1 = b1 ∧ a2 = b2 ∧ ¬ a3 = b3) ∨ (a0 = b0 ∧ a1 = b1 ∧ a2 = b2 ∧ a3 = b3 ∧ ¬ a4 = b4) ∨ (a0 = b0 ∧ a1 = b1 ∧ a2 = b2 ∧ a3 = b3 ∧ a4 = b4 ∧ ¬ a5 = b5) := by
  by_cases h0 : a0 = b0
  · by_cases h1 : a1 = b1
    · by_cases h2 : a2 = b2
      · by_cases h3 : a3 = b3
        · by_cases h4 : a4 = b4
          · by_cases h5 : a5 = b5
            · subst h0 h1 h2 h3 h4 h5; exact absurd rfl h
            · exact .inr (.inr (.inr (.inr (.inr ⟨h0, h1, h2, h3, h4, h5⟩))))
          · exact .inr (.inr (.inr (.inr (.inl ⟨h0, h1, h2, h3, h4⟩))))
        · exact .inr (.inr (.inr (.inl ⟨h0, h1, h2, h3⟩)))
      · exact .inr (.inr (.inl ⟨h0, h1, h2⟩))
    · exact .inr (.inl ⟨h0, h1⟩)
  · exact .inl h0
set_option maxRecDepth 10000 in
set_option maxHeartbeats 4000000 in
theorem ieq_any (A B : Option Addr) (n m c d : Nat) (xs ys : List Int) (b : Bool) (w : World) (hb : b = true ↔ xs = ys) (hl : xs.length = n) (hm : ys.length = m) (hn : n ≤ 1000) (hA : EI.Rd w A xs) (hB : EI.Rd w B ys) :
    Calls Tryz.prog 34 #[.slice A n c, .slice B m d] w fun r w' => r = .returned (.bool b) ∧ Below w.heap.size w w' := by
  by_cases hnm : n = m
  rotate_left
  · have hq : ¬ (n : Int) = (m : Int) := by omega
    have HF := Lib.hid (eq_len hb (by rw [hl, hm]; exact hnm))
    clear hb hl hm hn hA hB hnm
    go_enter Tryz.func34, Tryz.ntmps34
    go_wp2
    go_ret
    exact ⟨by rw [HF.out]; rfl, Below.refl _ _⟩
  subst hnm
  have HL := Lib.hid (And.intro hl hm)
  have HA := Lib.hid hA
  have HB2 := Lib.hid hB
  have HBB := Lib.hid hb
  clear hl hm hA hB hb
  go_enter Tryz.func34, Tryz.ntmps34
  go_upto_region 4 with fail
  go_loopw [13] (fun iv wr => ∃ (k : Nat), k ≤ n ∧ iv = .int .i64 k ∧ Hid (xs.take k = ys.take k) ∧ Below w.heap.size w wr) (fun i _ => n - (intOf i).toNat)
  case atStart => exact ⟨0, by omega, rfl, Lib.hid rfl, Below.refl _ _⟩
  case round =>
    obtain ⟨k, hk, rfl, HT, hb⟩ := hrel
    have HB := Lib.hid hb
    clear hb
    by_cases h8 : k < n
    · have hk1 : (k : Int) < (n : Int) := by omega
      have hk0 : (0 : Int) ≤ (k : Int) := by omega
      have WK : IntKind.i64.wrap ((k : Int) + 1) = (k : Int) + 1 := IntWalk.i64_in _ (by omega)
      obtain ⟨x, hx⟩ : ∃ x, xs[k]? = some x := ⟨_, List.getElem?_eq_getElem (by rw [HL.out.1]; omega)⟩
      obtain ⟨y, hy⟩ : ∃ y, ys[k]? = some y := ⟨_, List.getElem?_eq_getElem (by rw [HL.out.2]; omega)⟩
      have HN : Hid (x = y → xs.take (k + 1) = ys.take (k + 1)) := Lib.hid (fun e => eq_next HT.out hx (by rw [e]; exact hy))
      have HE : Hid (¬ x = y → b = false) := Lib.hid (fun e => eq_at HBB.out hx hy e)
      obtain ⟨b', off, rfl, hlt, g0⟩ := ei_at (HA.out.later HB.out) hx
      obtain ⟨b'', off', rfl, hlt', g1⟩ := ei_at (HB2.out.later HB.out) hy
      clear hx hy hlt hlt'
      by_cases hxy : x = y
      · have HN2 := Lib.hid (HN.out hxy)
        subst hxy
        go_wp2_with fail
        go_quiet (fail)
        go_wp2
        exact ⟨⟨k + 1, by omega, by simp, HN2, bel_drewN HB.out _⟩, by simp [intOf]; omega⟩
      · have HF := Lib.hid (HE.out hxy)
        clear HE HN
        go_wp2_with fail
        go_quiet (fail)
        go_wp2
        go_ret
        exact ⟨by rw [HF.out]; rfl, bel_drewN HB.out _⟩
    · have hk1 : ¬ (k : Int) < (n : Int) := by omega
      have HF := Lib.hid (eq_end HBB.out HT.out (by rw [HL.out.1]; omega) (by rw [HL.out.2]; omega))
      go_wp2
      go_ret
      exact ⟨by rw [HF.out]; rfl, HB.out⟩
set_option maxRecDepth 10000 in
set_option maxHeartbeats 4000000 in
theorem meq_any (A B : Option Addr) (n m c d : Nat) (xs ys : List M) (b : Bool) (w : World) (hb : b = true ↔ xs = ys) (hl : xs.length = n) (hm : ys.length = m) (hn : n ≤ 1000) (hA : EM.Rd w A xs) (hB : EM.Rd w B ys) :
    Calls Tryz.prog 74 #[.slice A n c, .slice B m d] w fun r w' => r = .returned (.bool b) ∧ Below w.heap.size w w' := by
  by_cases hnm : n = m
  rotate_left
  · have hq : ¬ (n : Int) = (m : Int) := by omega
    have HF := Lib.hid (eq_len hb (by rw [hl, hm]; exact hnm))
    clear hb hl hm hn hA hB hnm
    go_enter Tryz.func74, Tryz.ntmps74
    go_wp2
    go_ret
    exact ⟨by rw [HF.out]; rfl, Below.refl _ _⟩
  subst hnm
  have HL := Lib.hid (And.intro hl hm)
  have HA := Lib.hid hA
  have HB2 := Lib.hid hB
  have HBB := Lib.hid hb
  clear hl hm hA hB hb
  go_enter Tryz.func74, Tryz.ntmps74
  go_upto_region 4 with fail
  go_loopw [13] (fun iv wr => ∃ (k : Nat), k ≤ n ∧ iv = .int .i64 k ∧ Hid (xs.take k = ys.take k) ∧ Below w.heap.size w wr) (fun i _ => n - (intOf i).toNat)
  case atStart => exact ⟨0, by omega, rfl, Lib.hid rfl, Below.refl _ _⟩
  case round =>
    obtain ⟨k, hk, rfl, HT, hb⟩ := hrel
    have HB := Lib.hid hb
    clear hb
    by_cases h8 : k < n
    · have hk1 : (k : Int) < (n : Int) := by omega
      have hk0 : (0 : Int) ≤ (k : Int) := by omega
      have WK : IntKind.i64.wrap ((k : Int) + 1) = (k : Int) + 1 := IntWalk.i64_in _ (by omega)
      obtain ⟨x, hx⟩ : ∃ x, xs[k]? = some x := ⟨_, List.getElem?_eq_getElem (by rw [HL.out.1]; omega)⟩
      obtain ⟨y, hy⟩ : ∃ y, ys[k]? = some y := ⟨_, List.getElem?_eq_getElem (by rw [HL.out.2]; omega)⟩
      have HN : Hid (x = y → xs.take (k + 1) = ys.take (k + 1)) := Lib.hid (fun e => eq_next HT.out hx (by rw [e]; exact hy))
      have HE : Hid (¬ x = y → b = false) := Lib.hid (fun e => eq_at HBB.out hx hy e)
      obtain ⟨b', off, rfl, hlt, hc⟩ := (HA.out.later HB.out).get hx
      obtain ⟨b'', off', rfl, hlt', hd⟩ := (HB2.out.later HB.out).get hy
      obtain ⟨mk, mq, mkey, mtoo, mval, mdl⟩ := x
      obtain ⟨nk, nq, nkey, ntoo, nval, ndl⟩ := y
      have g0 : wr.cell? ⟨b', off + k * 6, none⟩ = some (.int .u8 mk) := hc 0 _ rfl
      have g1 : wr.cell? ⟨b', off + k * 6 + 1, none⟩ = some (.int .i64 mq) := hc 1 _ rfl
      have g2 : wr.cell? ⟨b', off + k * 6 + 2, none⟩ = some (.string mkey) := hc 2 _ rfl
      have g3 : wr.cell? ⟨b', off + k * 6 + 3, none⟩ = some (.string mtoo) := hc 3 _ rfl
      have g4 : wr.cell? ⟨b', off + k * 6 + 4, none⟩ = some (.string mval) := hc 4 _ rfl
      have g5 : wr.cell? ⟨b', off + k * 6 + 5, none⟩ = some (.int .u64 mdl) := hc 5 _ rfl
      have e0 : wr.cell? ⟨b'', off' + k * 6, none⟩ = some (.int .u8 nk) := hd 0 _ rfl
      have e1 : wr.cell? ⟨b'', off' + k * 6 + 1, none⟩ = some (.int .i64 nq) := hd 1 _ rfl
      have e2 : wr.cell? ⟨b'', off' + k * 6 + 2, none⟩ = some (.string nkey) := hd 2 _ rfl
      have e3 : wr.cell? ⟨b'', off' + k * 6 + 3, none⟩ = some (.string ntoo) := hd 3 _ rfl
      have e4 : wr.cell? ⟨b'', off' + k * 6 + 4, none⟩ = some (.string nval) := hd 4 _ rfl
      have e5 : wr.cell? ⟨b'', off' + k * 6 + 5, none⟩ = some (.int .u64 ndl) := hd 5 _ rfl
      clear hx hy hlt hlt' hc hd
      by_cases hxy : (⟨mk, mq, mkey, mtoo, mval, mdl⟩ : M) = ⟨nk, nq, nkey, ntoo, nval, ndl⟩
      · have HN2 := Lib.hid (HN.out hxy)
        injection hxy with q0 q1 q2 q3 q4 q5
        subst q0 q1 q2 q3 q4 q5
        go_wp2_with fail
        go_quiet (fail)
        go_wp2
        exact ⟨⟨k + 1, by omega, by simp, HN2, bel_drewN HB.out _⟩, by simp [intOf]; omega⟩
      · have HF := Lib.hid (HE.out hxy)
        rcases m_diff hxy with h | ⟨rfl, h⟩ | ⟨rfl, rfl, h⟩ | ⟨rfl, rfl, rfl, h⟩ | ⟨rfl, rfl, rfl, rfl, h⟩ | ⟨rfl, rfl, rfl, rfl, rfl, h⟩
        all_goals
          clear hxy HE HN
          try have h' := bne_l h
          go_wp2_with fail
          go_quiet (fail)
          go_wp2
          go_ret
          exact ⟨by rw [HF.out]; rfl, bel_drewN HB.out _⟩
    · have hk1 : ¬ (k : Int) < (n : Int) := by omega
      have HF := Lib.hid (eq_end HBB.out HT.out (by rw [HL.out.1]; omega) (by rw [HL.out.2]; omega))
      go_wp2
      go_ret
      exact ⟨by rw [HF.out]; rfl, HB.out⟩
set_option maxRecDepth 10000 in
set_option maxHeartbeats 4000000 in
theorem msame_any (A B : Option Addr) (n m c d : Nat) (xs ys : List M) (b : Bool) (w : World) (hb : b = true ↔ xs = ys) (hl : xs.length = n) (hm : ys.length = m) (hn : n ≤ 1000) (hA : EM.Rd w A xs) (hB : EM.Rd w B ys) :
    Calls Tryz.prog 37 #[.slice A n c, .slice B m d] w fun r w' => r = .returned (.bool b) ∧ Below w.heap.size w w' := by
  by_cases hnm : n = m
  rotate_left
  · have hq : ¬ (n : Int) = (m : Int) := by omega
    have HF := Lib.hid (eq_len hb (by rw [hl, hm]; exact hnm))
    clear hb hl hm hn hA hB hnm
    go_enter Tryz.func37, Tryz.ntmps37
    go_wp2
    go_ret
    exact ⟨by rw [HF.out]; rfl, Below.refl _ _⟩
  subst hnm
  have HL := Lib.hid (And.intro hl hm)
  have HA := Lib.hid hA
  have HB2 := Lib.hid hB
  have HBB := Lib.hid hb
  clear hl hm hA hB hb
  go_enter Tryz.func37, Tryz.ntmps37
  go_upto_region 4 with fail
  go_loopw [5] (fun iv wr => ∃ (k : Nat), k ≤ n ∧ iv = .int .i64 k ∧ Hid (xs.take k = ys.take k) ∧ Below w.heap.size w wr) (fun i _ => n - (intOf i).toNat)
  case atStart => exact ⟨0, by omega, rfl, Lib.hid rfl, Below.refl _ _⟩
  case round =>
    obtain ⟨k, hk, rfl, HT, hb⟩ := hrel
    have HB := Lib.hid hb
    clear hb
    by_cases h8 : k < n
    · have hk1 : (k : Int) < (n : Int) := by omega
      have hk0 : (0 : Int) ≤ (k : Int) := by omega
      have WK : IntKind.i64.wrap ((k : Int) + 1) = (k : Int) + 1 := IntWalk.i64_in _ (by omega)
      obtain ⟨x, hx⟩ : ∃ x, xs[k]? = some x := ⟨_, List.getElem?_eq_getElem (by rw [HL.out.1]; omega)⟩
      obtain ⟨y, hy⟩ : ∃ y, ys[k]? = some y := ⟨_, List.getElem?_eq_getElem (by rw [HL.out.2]; omega)⟩
      have HN : Hid (x = y → xs.take (k + 1) = ys.take (k + 1)) := Lib.hid (fun e => eq_next HT.out hx (by rw [e]; exact hy))
      have HE : Hid (¬ x = y → b = false) := Lib.hid (fun e => eq_at HBB.out hx hy e)
      obtain ⟨b', off, rfl, hlt, hc⟩ := (HA.out.later HB.out).get hx
      obtain ⟨b'', off', rfl, hlt', hd⟩ := (HB2.out.later HB.out).get hy
      obtain ⟨mk, mq, mkey, mtoo, mval, mdl⟩ := x
      obtain ⟨nk, nq, nkey, ntoo, nval, ndl⟩ := y
      have g0 : wr.cell? ⟨b', off + k * 6, none⟩ = some (.int .u8 mk) := hc 0 _ rfl
      have g1 : wr.cell? ⟨b', off + k * 6 + 1, none⟩ = some (.int .i64 mq) := hc 1 _ rfl
      have g2 : wr.cell? ⟨b', off + k * 6 + 2, none⟩ = some (.string mkey) := hc 2 _ rfl
      have g3 : wr.cell? ⟨b', off + k * 6 + 3, none⟩ = some (.string mtoo) := hc 3 _ rfl
      have g4 : wr.cell? ⟨b', off + k * 6 + 4, none⟩ = some (.string mval) := hc 4 _ rfl
      have g5 : wr.cell? ⟨b', off + k * 6 + 5, none⟩ = some (.int .u64 mdl) := hc 5 _ rfl
      have e0 : wr.cell? ⟨b'', off' + k * 6, none⟩ = some (.int .u8 nk) := hd 0 _ rfl
      have e1 : wr.cell? ⟨b'', off' + k * 6 + 1, none⟩ = some (.int .i64 nq) := hd 1 _ rfl
      have e2 : wr.cell? ⟨b'', off' + k * 6 + 2, none⟩ = some (.string nkey) := hd 2 _ rfl
      have e3 : wr.cell? ⟨b'', off' + k * 6 + 3, none⟩ = some (.string ntoo) := hd 3 _ rfl
      have e4 : wr.cell? ⟨b'', off' + k * 6 + 4, none⟩ = some (.string nval) := hd 4 _ rfl
      have e5 : wr.cell? ⟨b'', off' + k * 6 + 5, none⟩ = some (.int .u64 ndl) := hd 5 _ rfl
      clear hx hy hlt hlt' hc hd
      by_cases hxy : (⟨mk, mq, mkey, mtoo, mval, mdl⟩ : M) = ⟨nk, nq, nkey, ntoo, nval, ndl⟩
      · have HN2 := Lib.hid (HN.out hxy)
        injection hxy with q0 q1 q2 q3 q4 q5
        subst q0 q1 q2 q3 q4 q5
        go_wp2_with fail
        go_quiet (fail)
        go_wp2
        exact ⟨⟨k + 1, by omega, by simp, HN2, bel_drewN HB.out _⟩, by simp [intOf]; omega⟩
      · have HF := Lib.hid (HE.out hxy)
        rcases m_diff hxy with h | ⟨rfl, h⟩ | ⟨rfl, rfl, h⟩ | ⟨rfl, rfl, rfl, h⟩ | ⟨rfl, rfl, rfl, rfl, h⟩ | ⟨rfl, rfl, rfl, rfl, rfl, h⟩
        all_goals
          clear hxy HE HN
          try have h' := bne_l h
          go_wp2_with fail
          go_quiet (fail)
          go_wp2
          go_ret
          exact ⟨by rw [HF.out]; rfl, bel_drewN HB.out _⟩
    · have hk1 : ¬ (k : Int) < (n : Int) := by omega
      have HF := Lib.hid (eq_end HBB.out HT.out (by rw [HL.out.1]; omega) (by rw [HL.out.2]; omega))
      go_wp2
      go_ret
      exact ⟨by rw [HF.out]; rfl, HB.out⟩
end Go.Proofs.YtelpkajlejbbgaaGreatDoor
namespace Go.Proofs.YtelpkajlejbbgaaGreatDoor
open Go.RowKit Go.Maps
theorem o_diff {k k' n n' : Int} {key key' too too' : ByteArray} {ms ms' : List M} {b : Bool} (hb : b = true ↔ (⟨k, key, too, n, ms⟩ : OpV) = ⟨k', key', too', n', ms'⟩) :
    (¬ k = k' ∧ b = false) ∨ (k = k' ∧ ¬ key = key' ∧ b = false) ∨ (k = k' ∧ key = key' ∧ ¬ too = too' ∧ b = false) ∨ (k = k' ∧ key = key' ∧ too = too' ∧ ¬ n = n' ∧ b = false) ∨ (k = k' ∧ key = key' ∧ too = too' ∧ n = n' ∧ (b = true ↔ ms = ms')) := by
  have no : (¬ (⟨k, key, too, n, ms⟩ : OpV) = ⟨k', key', too', n', ms'⟩) → b = false := fun h => by
    cases b with
    | false => rfl
    | true => exact absurd (hb.1 rfl) h
  by_cases h0 : k = k'
  · by_cases h1 : key = key'
    · by_cases h2 : too = too'
      · by_cases h3 : n = n'
        · subst h0 h1 h2 h3
          refine .inr (.inr (.inr (.inr ⟨rfl, rfl, rfl, rfl, ?_⟩)))
          rw [hb]
          constructor
          · intro h; injection h
          · intro h; rw [h]
        · exact .inr (.inr (.inr (.inl ⟨h0, h1, h2, h3, no (fun e => h3 (by injection e))⟩)))
      · exact .inr (.inr (.inl ⟨h0, h1, h2, no (fun e => h2 (by injection e))⟩))
    · exact .inr (.inl ⟨h0, h1, no (fun e => h1 (by injection e))⟩)
  · exact .inl ⟨h0, no (fun e => h0 (by injection e))⟩
set_option maxRecDepth 100000 in
set_option maxHeartbeats 2000000 in
theorem oeq_any (o o' : OpV) (A A' : Option Addr) (c c' : Nat) (b : Bool) (w : World) (hb : b = true ↔ o = o') (hm : o.ms.length ≤ 1000) (hA : EM.Rd w A o.ms) (hA' : EM.Rd w A' o'.ms) :
    Calls Tryz.prog 62 #[o.v A c, o'.v A' c'] w fun e w' => e = .returned (.bool b) ∧ Below w.heap.size w w' := by
  obtain ⟨k, key, too, n, ms⟩ := o
  obtain ⟨k', key', too', n', ms'⟩ := o'
  simp only at hm hA hA'
  unfold OpV.v
  simp only
  obtain ⟨l, hl⟩ : ∃ l, ms.length = l := ⟨_, rfl⟩
  obtain ⟨l', hl'⟩ : ∃ l, ms'.length = l := ⟨_, rfl⟩
  rw [hl, hl']
  obtain ⟨W0, hW0⟩ : ∃ W0, W0 = (w.alloc (.cells #[.int .u8 k, .string key, .string too, .int .i64 n, .slice A l c] 47)).alloc (.cells #[.int .u8 k', .string key', .string too', .int .i64 n', .slice A' l' c'] 47) := ⟨_, rfl⟩
  have B0 := Lib.hid (show Below w.heap.size w W0 by rw [hW0]; exact bel_alloc (alb w _) _)
  have Z0 := Lib.hid (show W0.heap[w.heap.size]? = some (.cells #[.int .u8 k, .string key, .string too, .int .i64 n, .slice A l c] 47) by rw [hW0]; exact keep_bel (alb _ _) (heap_alloc_new w _))
  have Z1 := Lib.hid (show W0.heap[w.heap.size + 1]? = some (.cells #[.int .u8 k', .string key', .string too', .int .i64 n', .slice A' l' c'] 47) by rw [hW0]; simpa using heap_alloc_new (w.alloc (.cells #[.int .u8 k, .string key, .string too, .int .i64 n, .slice A l c] 47)) (.cells #[.int .u8 k', .string key', .string too', .int .i64 n', .slice A' l' c'] 47))
  obtain ⟨c0, c1, c2, c3, c4⟩ := cells5 Z0.out
  obtain ⟨d0, d1, d2, d3, d4⟩ := cells5 Z1.out
  rcases o_diff hb with ⟨h, hf⟩ | ⟨rfl, h, hf⟩ | ⟨rfl, rfl, h, hf⟩ | ⟨rfl, rfl, rfl, h, hf⟩ | ⟨rfl, rfl, rfl, rfl, hms⟩
  · have HF := Lib.hid hf
    clear hb hm hA hA' hl hl' hf
    have h' := beq_eq_false_iff_ne.2 h
    go_enter Tryz.func62, Tryz.ntmps62
    go_upto_region 1 with fail
    rw [← hW0]
    clear hW0
    go_wp2
    go_ret
    exact ⟨by rw [HF.out]; rfl, B0.out⟩
  · have HF := Lib.hid hf
    clear hb hm hA hA' hl hl' hf
    have h' := bne_l h
    go_enter Tryz.func62, Tryz.ntmps62
    go_upto_region 1 with fail
    rw [← hW0]
    clear hW0
    go_wp2
    go_ret
    exact ⟨by rw [HF.out]; rfl, B0.out⟩
  · have HF := Lib.hid hf
    clear hb hm hA hA' hl hl' hf
    have h' := bne_l h
    go_enter Tryz.func62, Tryz.ntmps62
    go_upto_region 1 with fail
    rw [← hW0]
    clear hW0
    go_wp2
    go_ret
    exact ⟨by rw [HF.out]; rfl, B0.out⟩
  · have HF := Lib.hid hf
    clear hb hm hA hA' hl hl' hf
    have h' := beq_eq_false_iff_ne.2 h
    go_enter Tryz.func62, Tryz.ntmps62
    go_upto_region 1 with fail
    rw [← hW0]
    clear hW0
    go_wp2
    go_ret
    exact ⟨by rw [HF.out]; rfl, B0.out⟩
  have HM := Lib.hid (meq_any A A' l l' c c' ms ms' b W0 hms hl hl' (by omega) (hA.later B0.out) (hA'.later B0.out))
  clear hb hm hA hA' hl hl' hms
  go_enter Tryz.func62, Tryz.ntmps62
  go_upto_region 1 with fail
  rw [← hW0]
  clear hW0
  go_wp2_with (first
    | (go_at_call 74; ((with_reducible refine HM.out.mono ?_); rintro e w1 ⟨rfl, b1⟩; have B1 := Lib.hid (bel_trans B0.out b1); clear b1))
    | fail)
  go_ret
  exact ⟨rfl, B1.out⟩
/-- A row of operations, in memory. -/
def RowX (w : World) (A : Option Addr) (n : Nat) (r : List OpV) : Prop := ∃ xs : List OC, n = xs.length ∧ EO.Rd w A xs ∧ OpsR w (fun _ => False) xs r
theorem ops_chg {w w' : World} {xs : List OC} {os : List OpV} (h : OpsR w (fun _ => False) xs os) (b : Below w.heap.size w w') : OpsR w' (fun _ => False) xs os := h.chg (Chg.of_below (D := fun _ => False) b) (fun x e => e)
theorem RowX.later {w w' : World} {A : Option Addr} {n : Nat} {r : List OpV} (h : RowX w A n r) (b : Below w.heap.size w w') : RowX w' A n r := by
  obtain ⟨xs, h1, h2, h3⟩ := h
  exact ⟨xs, h1, h2.later b, ops_chg h3 b⟩
theorem RowX.of {w : World} {h : Hd} {r : List OpV} (hr : RowR w (fun _ => False) h r) : RowX w h.A h.n r := by
  obtain ⟨xs, h1, h2, h3⟩ := hr
  exact ⟨xs, h1, h2.rd, h3⟩
theorem RowX.len {w : World} {A : Option Addr} {n : Nat} {r : List OpV} (h : RowX w A n r) : r.length = n := by
  obtain ⟨xs, h1, h2, h3⟩ := h
  rw [h1, h3.1]
/-- An operation of a row. -/
theorem RowX.at {w : World} {A : Option Addr} {n : Nat} {r : List OpV} (h : RowX w A n r) {j : Nat} {o : OpV} (ho : r[j]? = some o) : ∃ b off xA xc, A = some ⟨b, off, none⟩ ∧ b < w.heap.size ∧ w.cell? ⟨b, off + j * 5, none⟩ = some (.int .u8 o.k) ∧ w.cell? ⟨b, off + j * 5 + 1, none⟩ = some (.string o.key) ∧ w.cell? ⟨b, off + j * 5 + 2, none⟩ = some (.string o.too) ∧ w.cell? ⟨b, off + j * 5 + 3, none⟩ = some (.int .i64 o.n) ∧ w.cell? ⟨b, off + j * 5 + 4, none⟩ = some (.slice xA o.ms.length xc) ∧ EM.Rd w xA o.ms := by
  obtain ⟨xs, h1, h2, h3⟩ := h
  obtain ⟨x, hx⟩ : ∃ x, xs[j]? = some x := ⟨_, List.getElem?_eq_getElem (by rw [h3.1]; exact (List.getElem?_eq_some_iff.1 ho).1)⟩
  obtain ⟨b, off, e, hlt, hc⟩ := h2.get hx
  obtain ⟨e1, e2, e3, e4, e5, e6⟩ := h3.2 j x o hx ho
  obtain ⟨xk, xkey, xtoo, xn, xA, xl, xc⟩ := x
  simp only at e1 e2 e3 e4 e5 e6
  subst e1 e2 e3 e4 e5
  exact ⟨b, off, xA, xc, e, hlt, hc 0 _ rfl, hc 1 _ rfl, hc 2 _ rfl, hc 3 _ rfl, hc 4 _ rfl, e6.rd⟩
set_option maxRecDepth 100000 in
set_option maxHeartbeats 2000000 in
theorem roweq_any (A B : Option Addr) (n m c d : Nat) (xs ys : List OpV) (b : Bool) (w : World) (hb : b = true ↔ xs = ys) (hn : n ≤ 1000) (hms : ∀ o ∈ xs, o.ms.length ≤ 1000) (hA : RowX w A n xs) (hB : RowX w B m ys) :
    Calls Tryz.prog 61 #[.slice A n c, .slice B m d, .func (.func 62) #[] #[]] w fun r w' => r = .returned (.bool b) ∧ Below w.heap.size w w' := by
  have hl := hA.len
  have hm := hB.len
  by_cases hnm : n = m
  rotate_left
  · have hq : ¬ (n : Int) = (m : Int) := by omega
    have HF := Lib.hid (eq_len hb (by rw [hl, hm]; exact hnm))
    clear hb hl hm hn hA hB hnm hms
    go_enter Tryz.func61, Tryz.ntmps61
    go_wp2
    go_ret
    exact ⟨by rw [HF.out]; rfl, Below.refl _ _⟩
  subst hnm
  have HL := Lib.hid (And.intro hl hm)
  have HA := Lib.hid hA
  have HB2 := Lib.hid hB
  have HBB := Lib.hid hb
  have HMS := Lib.hid hms
  clear hl hm hA hB hb hms
  go_enter Tryz.func61, Tryz.ntmps61
  go_upto_region 4 with fail
  go_loopw [17] (fun iv wr => ∃ (k : Nat), k ≤ n ∧ iv = .int .i64 k ∧ Hid (xs.take k = ys.take k) ∧ Below w.heap.size w wr) (fun i _ => n - (intOf i).toNat)
  case atStart => exact ⟨0, by omega, rfl, Lib.hid rfl, Below.refl _ _⟩
  case round =>
    obtain ⟨k, hk, rfl, HT, hb⟩ := hrel
    have HB := Lib.hid hb
    clear hb
    by_cases h8 : k < n
    · have hk1 : (k : Int) < (n : Int) := by omega
      have hk0 : (0 : Int) ≤ (k : Int) := by omega
      have WK : IntKind.i64.wrap ((k : Int) + 1) = (k : Int) + 1 := IntWalk.i64_in _ (by omega)
      obtain ⟨x, hx⟩ : ∃ x, xs[k]? = some x := ⟨_, List.getElem?_eq_getElem (by rw [HL.out.1]; omega)⟩
      obtain ⟨y, hy⟩ : ∃ y, ys[k]? = some y := ⟨_, List.getElem?_eq_getElem (by rw [HL.out.2]; omega)⟩
      obtain ⟨b5, off5, xA, xc, rfl, hlt, g0, g1, g2, g3, g4, g5⟩ := (HA.out.later HB.out).at hx
      have HY := Lib.hid (fun V (hV : Below w.heap.size w V) => (HB2.out.later hV).at hy)
      have HXM := Lib.hid g5
      obtain ⟨bb, hbb⟩ : ∃ bb : Bool, bb = true ↔ x = y := by
        by_cases q : x = y
        · exact ⟨true, by simp [q]⟩
        · exact ⟨false, by simp [q]⟩
      have HN : Hid (bb = true → xs.take (k + 1) = ys.take (k + 1)) := Lib.hid (fun e => eq_next HT.out hx (by rw [hbb.1 e]; exact hy))
      have HE : Hid (bb = false → b = false) := Lib.hid (fun e => eq_at HBB.out hx hy (fun q => by rw [hbb.2 q] at e; cases e))
      have hxm := HMS.out x (List.mem_of_getElem? hx)
      have HO := Lib.hid (fun V xA' yA' (p : EM.Rd V xA' x.ms) (q : EM.Rd V yA' y.ms) (cx cy : Nat) => oeq_any x y xA' yA' cx cy bb V hbb hxm p q)
      unfold OpV.v at HO
      obtain ⟨ok, okey, otoo, on, oms⟩ := x
      obtain ⟨pk, pkey, ptoo, pn, pms⟩ := y
      simp only at g0 g1 g2 g3 g4 HY HO HXM
      obtain ⟨om, hom⟩ : ∃ om, oms.length = om := ⟨_, rfl⟩
      obtain ⟨pm, hpm⟩ : ∃ pm, pms.length = pm := ⟨_, rfl⟩
      rw [hom] at g4 HO
      rw [hpm] at HY HO
      clear hx hy g5 hlt hbb hxm hom hpm
      go_upto_region 6 with fail
      obtain ⟨W4, hW4⟩ : ∃ W4, W4 = wr.alloc (.cells #[.int .u8 ok, .string okey, .string otoo, .int .i64 on, .slice xA om xc] 47) := ⟨_, rfl⟩
      have B4 := Lib.hid (show Below w.heap.size w W4 by rw [hW4]; exact bel_alloc HB.out _)
      have Z4 := Lib.hid (show W4.heap[wr.heap.size]? = some (.cells #[.int .u8 ok, .string okey, .string otoo, .int .i64 on, .slice xA om xc] 47) by rw [hW4]; exact heap_alloc_new wr _)
      have HXM4 := Lib.hid (show EM.Rd W4 xA oms by rw [hW4]; exact HXM.out.later (alb wr _))
      rw [← hW4]
      clear hW4 g0 g1 g2 g3 g4
      obtain ⟨b6, off6, yA, yc, rfl, hlt6, g0, g1, g2, g3, g4, g5⟩ := HY.out W4 B4.out
      have HYM := Lib.hid g5
      clear g5 hlt6
      go_upto_region 7 with fail
      obtain ⟨W5, hW5⟩ : ∃ W5, W5 = W4.alloc (.cells #[.int .u8 pk, .string pkey, .string ptoo, .int .i64 pn, .slice yA pm yc] 47) := ⟨_, rfl⟩
      have B5 := Lib.hid (show Below w.heap.size w W5 by rw [hW5]; exact bel_alloc B4.out _)
      have Z5 := Lib.hid (show W5.heap[wr.heap.size]? = some (.cells #[.int .u8 ok, .string okey, .string otoo, .int .i64 on, .slice xA om xc] 47) by rw [hW5]; exact keep_bel (alb _ _) Z4.out)
      have Y5 := Lib.hid (show W5.heap[W4.heap.size]? = some (.cells #[.int .u8 pk, .string pkey, .string ptoo, .int .i64 pn, .slice yA pm yc] 47) by rw [hW5]; exact heap_alloc_new W4 _)
      have HXM5 := Lib.hid (show EM.Rd W5 xA oms by rw [hW5]; exact HXM4.out.later (alb W4 _))
      have HYM5 := Lib.hid (show EM.Rd W5 yA pms by rw [hW5]; exact HYM.out.later (alb W4 _))
      rw [← hW5]
      clear hW5 g0 g1 g2 g3 g4
      obtain ⟨c0, c1, c2, c3, c4⟩ := cells5 Z5.out
      obtain ⟨d0, d1, d2, d3, d4⟩ := cells5 Y5.out
      cases bb with
      | true =>
        have HN2 := Lib.hid (HN.out rfl)
        clear HN HE
        go_wp2_with (first
          | (go_at_call 62; ((with_reducible refine (HO.out _ _ _ HXM5.out HYM5.out _ _).mono ?_); rintro e w8 ⟨rfl, b8⟩; have B8 := Lib.hid (bel_trans B5.out b8); clear b8))
          | fail)
        exact ⟨⟨k + 1, by omega, by simp, HN2, B8.out⟩, by simp [intOf]; omega⟩
      | false =>
        have HF := Lib.hid (HE.out rfl)
        clear HN HE
        go_wp2_with (first
          | (go_at_call 62; ((with_reducible refine (HO.out _ _ _ HXM5.out HYM5.out _ _).mono ?_); rintro e w8 ⟨rfl, b8⟩; have B8 := Lib.hid (bel_trans B5.out b8); clear b8))
          | fail)
        go_ret
        exact ⟨by rw [HF.out]; rfl, B8.out⟩
    · have hk1 : ¬ (k : Int) < (n : Int) := by omega
      have HF := Lib.hid (eq_end HBB.out HT.out (by rw [HL.out.1]; omega) (by rw [HL.out.2]; omega))
      go_wp2
      go_ret
      exact ⟨by rw [HF.out]; rfl, HB.out⟩
set_option maxRecDepth 100000 in
theorem srow_any (A B : Option Addr) (n m c d : Nat) (xs ys : List OpV) (b : Bool) (w : World) (hb : b = true ↔ xs = ys) (hn : n ≤ 1000) (hms : ∀ o ∈ xs, o.ms.length ≤ 1000) (hA : RowX w A n xs) (hB : RowX w B m ys) :
    Calls Tryz.prog 36 #[.slice A n c, .slice B m d] w fun r w' => r = .returned (.bool b) ∧ Below w.heap.size w w' := by
  have HR := Lib.hid (roweq_any A B n m c d xs ys b w hb hn hms hA hB)
  clear hb hn hms hA hB
  go_enter Tryz.func36, Tryz.ntmps36
  go_wp2_with (first
    | (go_at_call 61; ((with_reducible refine HR.out.mono ?_); rintro e w8 ⟨rfl, b8⟩; have B8 := Lib.hid b8; clear b8))
    | fail)
  go_ret
  exact ⟨rfl, B8.out⟩
end Go.Proofs.YtelpkajlejbbgaaGreatDoor
namespace Go.Proofs.YtelpkajlejbbgaaGreatDoor
open Go.RowKit Go.Maps
theorem c_diff (a0 a1 a2 a3 a4 a5 a6 a7 a8 b0 b1 b2 b3 b4 b5 b6 b7 b8 : Int) : (¬ a0 = b0) ∨ (a0 = b0 ∧ ¬ a1 = b1) ∨ (a0 = b0 ∧ a1 = b1 ∧ ¬ a2 = b2) ∨ (a0 = b0 ∧ a1 = b1 ∧ a2 = b2 ∧ ¬ a3 = b3) ∨ (a0 = b0 ∧ a1 = b1 ∧ a2 = b2 ∧ a3 = b3 ∧ ¬ a4 = b4) ∨ (a0 = b0 ∧ a1 = b1 ∧ a2 = b2 ∧ a3 = b3 ∧ a4 = b4 ∧ ¬ a5 = b5) ∨ (a0 = b0 ∧ a1 = b1 ∧ a2 = b2 ∧ a3 = b3 ∧ a4 = b4 ∧ a5 = b5 ∧ ¬ a6 = b6) ∨ (a0 = b0 ∧ a1 = b1 ∧ a2 = b2 ∧ a3 = b3 ∧ a4 = b4 ∧ a5 = b5 ∧ a6 = b6 ∧ ¬ a7 = b7) ∨ (a0 = b0 ∧ a1 = b1 ∧ a2 = b2 ∧ a3 = b3 ∧ a4 = b4 ∧ a5 = b5 ∧ a6 = b6 ∧ a7 = b7 ∧ ¬ a8 = b8) ∨ (a0 = b0 ∧ a1 = b1 ∧ a2 = b2 ∧ a3 = b3 ∧ a4 = b4 ∧ a5 = b5 ∧ a6 = b6 ∧ a7 = b7 ∧ a8 = b8) := by
  by_cases h0 : a0 = b0
  · by_cases h1 : a1 = b1
    · by_cases h2 : a2 = b2
      · by_cases h3 : a3 = b3
        · by_cases h4 : a4 = b4
          · by_cases h5 : a5 = b5
            · by_cases h6 : a6 = b6
              · by_cases h7 : a7 = b7
                · by_cases h8 : a8 = b8
                  · exact .inr (.inr (.inr (.inr (.inr (.inr (.inr (.inr (.inr (⟨h0, h1, h2, h3, h4, h5, h6, h7, h8⟩)))))))))
                  · exact .inr (.inr (.inr (.inr (.inr (.inr (.inr (.inr (.inl (⟨h0, h1, h2, h3, h4, h5, h6, h7, h8⟩)))))))))
                · exact .inr (.inr (.inr (.inr (.inr (.inr (.inr (.inl (⟨h0, h1, h2, h3, h4, h5, h6, h7⟩))))))))
              · exact .inr (.inr (.inr (.inr (.inr (.inr (.inl (⟨h0, h1, h2, h3, h4, h5, h6⟩)))))))
            · exact .inr (.inr (.inr (.inr (.inr (.inl (⟨h0, h1, h2, h3, h4, h5⟩))))))
          · exact .inr (.inr (.inr (.inr (.inl (⟨h0, h1, h2, h3, h4⟩)))))
        · exact .inr (.inr (.inr (.inl (⟨h0, h1, h2, h3⟩))))
      · exact .inr (.inr (.inl (⟨h0, h1, h2⟩)))
    · exact .inr (.inl (⟨h0, h1⟩))
  · exact .inl h0
/-- Rows of operations, in memory. -/
def AllX (w : World) (A : Option Addr) (n : Nat) (rows : List (List OpV)) : Prop := rows.length = n ∧ ∃ hs, EH.Rd w A hs ∧ RowsR w (fun _ => False) hs rows
theorem AllX.later {w w' : World} {A : Option Addr} {n : Nat} {rows : List (List OpV)} (h : AllX w A n rows) (b : Below w.heap.size w w') : AllX w' A n rows := by
  obtain ⟨h1, hs, h2, h3⟩ := h
  exact ⟨h1, hs, h2.later b, h3.chg (Chg.of_below (D := fun _ => False) b) (fun x e => e)⟩
theorem AllX.at {w : World} {A : Option Addr} {n : Nat} {rows : List (List OpV)} (h : AllX w A n rows) {i : Nat} {r : List OpV} (hr : rows[i]? = some r) : ∃ b off hA hn hc, A = some ⟨b, off, none⟩ ∧ b < w.heap.size ∧ w.cell? ⟨b, off + i, none⟩ = some (.slice hA hn hc) ∧ RowX w hA hn r := by
  obtain ⟨h1, hs, h2, h3⟩ := h
  obtain ⟨x, hx⟩ : ∃ x, hs[i]? = some x := ⟨_, List.getElem?_eq_getElem (by rw [h3.1]; exact (List.getElem?_eq_some_iff.1 hr).1)⟩
  obtain ⟨b, off, e, hlt, hc⟩ := h2.get hx
  exact ⟨b, off, x.A, x.n, x.c, e, hlt, by simpa [EH] using hc 0 _ rfl, RowX.of (h3.2 i x r hx hr)⟩
set_option maxRecDepth 100000 in
set_option maxHeartbeats 2000000 in
theorem rowseq_any (A B : Option Addr) (n m c d : Nat) (xs ys : List (List OpV)) (b : Bool) (w : World) (hb : b = true ↔ xs = ys) (hn : n ≤ 1000) (hms : ∀ r ∈ xs, r.length ≤ 1000 ∧ ∀ o ∈ r, o.ms.length ≤ 1000) (hA : AllX w A n xs) (hB : AllX w B m ys) :
    Calls Tryz.prog 35 #[.slice A n c, .slice B m d, .func (.func 36) #[] #[]] w fun r w' => r = .returned (.bool b) ∧ Below w.heap.size w w' := by
  have hl := hA.1
  have hm := hB.1
  by_cases hnm : n = m
  rotate_left
  · have hq : ¬ (n : Int) = (m : Int) := by omega
    have HF := Lib.hid (eq_len hb (by rw [hl, hm]; exact hnm))
    clear hb hl hm hn hA hB hnm hms
    go_enter Tryz.func35, Tryz.ntmps35
    go_wp2
    go_ret
    exact ⟨by rw [HF.out]; rfl, Below.refl _ _⟩
  subst hnm
  have HL := Lib.hid (And.intro hl hm)
  have HA := Lib.hid hA
  have HB2 := Lib.hid hB
  have HBB := Lib.hid hb
  have HMS := Lib.hid hms
  clear hl hm hA hB hb hms
  go_enter Tryz.func35, Tryz.ntmps35
  go_upto_region 4 with fail
  go_loopw [17] (fun iv wr => ∃ (k : Nat), k ≤ n ∧ iv = .int .i64 k ∧ Hid (xs.take k = ys.take k) ∧ Below w.heap.size w wr) (fun i _ => n - (intOf i).toNat)
  case atStart => exact ⟨0, by omega, rfl, Lib.hid rfl, Below.refl _ _⟩
  case round =>
    obtain ⟨k, hk, rfl, HT, hb⟩ := hrel
    have HB := Lib.hid hb
    clear hb
    by_cases h8 : k < n
    · have hk1 : (k : Int) < (n : Int) := by omega
      have hk0 : (0 : Int) ≤ (k : Int) := by omega
      have WK : IntKind.i64.wrap ((k : Int) + 1) = (k : Int) + 1 := IntWalk.i64_in _ (by omega)
      obtain ⟨x, hx⟩ : ∃ x, xs[k]? = some x := ⟨_, List.getElem?_eq_getElem (by rw [HL.out.1]; omega)⟩
      obtain ⟨y, hy⟩ : ∃ y, ys[k]? = some y := ⟨_, List.getElem?_eq_getElem (by rw [HL.out.2]; omega)⟩
      obtain ⟨b5, off5, xA, xn, xc, rfl, hlt, g0, g5⟩ := (HA.out.later HB.out).at hx
      obtain ⟨b6, off6, yA, yn, yc, rfl, hlt6, g1, g6⟩ := (HB2.out.later HB.out).at hy
      obtain ⟨bb, hbb⟩ : ∃ bb : Bool, bb = true ↔ x = y := by
        by_cases q : x = y
        · exact ⟨true, by simp [q]⟩
        · exact ⟨false, by simp [q]⟩
      have HN : Hid (bb = true → xs.take (k + 1) = ys.take (k + 1)) := Lib.hid (fun e => eq_next HT.out hx (by rw [hbb.1 e]; exact hy))
      have HE : Hid (bb = false → b = false) := Lib.hid (fun e => eq_at HBB.out hx hy (fun q => by rw [hbb.2 q] at e; cases e))
      have hxm := HMS.out x (List.mem_of_getElem? hx)
      have HO := Lib.hid (srow_any xA yA xn yn xc yc x y bb wr hbb (by rw [← g5.len]; exact hxm.1) hxm.2 g5 g6)
      clear hx hy g5 g6 hlt hlt6 hbb hxm
      cases bb with
      | true =>
        have HN2 := Lib.hid (HN.out rfl)
        clear HN HE
        go_wp2_with (first
          | (go_at_call 36; ((with_reducible refine HO.out.mono ?_); rintro e w8 ⟨rfl, b8⟩; have B8 := Lib.hid (bel_trans HB.out b8); clear b8))
          | fail)
        exact ⟨⟨k + 1, by omega, by simp, HN2, B8.out⟩, by simp [intOf]; omega⟩
      | false =>
        have HF := Lib.hid (HE.out rfl)
        clear HN HE
        go_wp2_with (first
          | (go_at_call 36; ((with_reducible refine HO.out.mono ?_); rintro e w8 ⟨rfl, b8⟩; have B8 := Lib.hid (bel_trans HB.out b8); clear b8))
          | fail)
        go_ret
        exact ⟨by rw [HF.out]; rfl, B8.out⟩
    · have hk1 : ¬ (k : Int) < (n : Int) := by omega
      have HF := Lib.hid (eq_end HBB.out HT.out (by rw [HL.out.1]; omega) (by rw [HL.out.2]; omega))
      go_wp2
      go_ret
      exact ⟨by rw [HF.out]; rfl, HB.out⟩
set_option maxRecDepth 100000 in
set_option maxHeartbeats 4000000 in
theorem psame_walk (a0 a1 a2 a3 a4 a5 a6 a7 a8 b0 b1 b2 b3 b4 b5 b6 b7 b8 : Int) (A B A' B' : Option Addr) (n c m d n' c' m' d' : Nat) (rows rows' : List (List OpV)) (picks picks' : List Int) (b : Bool) (w : World) (hb : b = true ↔ ([a0, a1, a2, a3, a4, a5, a6, a7, a8] : List Int) = [b0, b1, b2, b3, b4, b5, b6, b7, b8] ∧ picks = picks' ∧ rows = rows') (hm : picks.length = m) (hm' : picks'.length = m') (hf : n ≤ 1000 ∧ m ≤ 1000 ∧ ∀ r ∈ rows, r.length ≤ 1000 ∧ ∀ o ∈ r, o.ms.length ≤ 1000)
    (hA : AllX w A n rows) (hP : EI.Rd w B picks) (hA' : AllX w A' n' rows') (hP' : EI.Rd w B' picks') :
    Calls Tryz.prog 14 #[scA a0 a1 a2 a3 a4 a5 a6 a7 a8 A n c B m d, scA b0 b1 b2 b3 b4 b5 b6 b7 b8 A' n' c' B' m' d'] w fun e w' => e = .returned (.bool b) ∧ Below w.heap.size w w' := by
  unfold scA
  obtain ⟨W0, hW0⟩ : ∃ W0, W0 = (w.alloc (.cells #[.int .i64 a0, .int .i64 a1, .int .i64 a2, .int .i64 a3, .int .i64 a4, .int .i64 a5, .int .i64 a6, .int .i64 a7, .int .i64 a8, .slice A n c, .slice B m d] 27)).alloc (.cells #[.int .i64 b0, .int .i64 b1, .int .i64 b2, .int .i64 b3, .int .i64 b4, .int .i64 b5, .int .i64 b6, .int .i64 b7, .int .i64 b8, .slice A' n' c', .slice B' m' d'] 27) := ⟨_, rfl⟩
  have B0 := Lib.hid (show Below w.heap.size w W0 by rw [hW0]; exact bel_alloc (alb w _) _)
  have Z0 := Lib.hid (show W0.heap[w.heap.size]? = some (.cells #[.int .i64 a0, .int .i64 a1, .int .i64 a2, .int .i64 a3, .int .i64 a4, .int .i64 a5, .int .i64 a6, .int .i64 a7, .int .i64 a8, .slice A n c, .slice B m d] 27) by rw [hW0]; exact keep_bel (alb _ _) (heap_alloc_new w _))
  have Z1 := Lib.hid (show W0.heap[w.heap.size + 1]? = some (.cells #[.int .i64 b0, .int .i64 b1, .int .i64 b2, .int .i64 b3, .int .i64 b4, .int .i64 b5, .int .i64 b6, .int .i64 b7, .int .i64 b8, .slice A' n' c', .slice B' m' d'] 27) by rw [hW0]; simpa using heap_alloc_new (w.alloc (.cells #[.int .i64 a0, .int .i64 a1, .int .i64 a2, .int .i64 a3, .int .i64 a4, .int .i64 a5, .int .i64 a6, .int .i64 a7, .int .i64 a8, .slice A n c, .slice B m d] 27)) (.cells #[.int .i64 b0, .int .i64 b1, .int .i64 b2, .int .i64 b3, .int .i64 b4, .int .i64 b5, .int .i64 b6, .int .i64 b7, .int .i64 b8, .slice A' n' c', .slice B' m' d'] 27))
  obtain ⟨c0, c1, c2, c3, c4, c5, c6, c7, c8, c9, c10⟩ := cells11 Z0.out
  obtain ⟨d0, d1, d2, d3, d4, d5, d6, d7, d8, d9, d10⟩ := cells11 Z1.out
  by_cases hcf : ([a0, a1, a2, a3, a4, a5, a6, a7, a8] : List Int) = [b0, b1, b2, b3, b4, b5, b6, b7, b8]
  rotate_left
  · have HF : Hid (b = false) := Lib.hid (by
      cases b with
      | false => rfl
      | true => exact absurd (hb.1 rfl).1 hcf)
    clear hb hm hm' hf hA hP hA' hP'
    rcases c_diff a0 a1 a2 a3 a4 a5 a6 a7 a8 b0 b1 b2 b3 b4 b5 b6 b7 b8 with h | ⟨rfl, h⟩ | ⟨rfl, rfl, h⟩ | ⟨rfl, rfl, rfl, h⟩ | ⟨rfl, rfl, rfl, rfl, h⟩ | ⟨rfl, rfl, rfl, rfl, rfl, h⟩ | ⟨rfl, rfl, rfl, rfl, rfl, rfl, h⟩ | ⟨rfl, rfl, rfl, rfl, rfl, rfl, rfl, h⟩ | ⟨rfl, rfl, rfl, rfl, rfl, rfl, rfl, rfl, h⟩ | ⟨rfl, rfl, rfl, rfl, rfl, rfl, rfl, rfl, rfl⟩
    rotate_right
    · exact absurd rfl hcf
    all_goals
      clear hcf
      go_enter Tryz.func14, Tryz.ntmps14
      go_upto_region 1 with fail
      rw [← hW0]
      clear hW0
      go_wp2
      go_ret
      exact ⟨by rw [HF.out]; rfl, B0.out⟩
  simp only [List.cons.injEq, and_true] at hcf
  obtain ⟨rfl, rfl, rfl, rfl, rfl, rfl, rfl, rfl, rfl⟩ := hcf
  simp only [true_and] at hb
  by_cases hpk : picks = picks'
  rotate_left
  · have HF : Hid (b = false) := Lib.hid (by
      cases b with
      | false => rfl
      | true => exact absurd (hb.1 rfl).1 hpk)
    have HO := Lib.hid (ieq_any B B' m m' d d' picks picks' false W0 (by simp [hpk]) hm hm' hf.2.1 (hP.later B0.out) (hP'.later B0.out))
    clear hb hm hm' hf hA hP hA' hP' hpk
    go_enter Tryz.func14, Tryz.ntmps14
    go_upto_region 1 with fail
    rw [← hW0]
    clear hW0
    go_wp2_with (first
      | (go_at_call 34; ((with_reducible refine HO.out.mono ?_); rintro e w8 ⟨rfl, b8⟩; have B8 := Lib.hid (bel_trans B0.out b8); clear b8))
      | fail)
    go_ret
    exact ⟨by rw [HF.out]; rfl, B8.out⟩
  have hb2 : b = true ↔ rows = rows' := by
    rw [hb]
    exact ⟨fun h => h.2, fun h => ⟨hpk, h⟩⟩
  have HO := Lib.hid (ieq_any B B' m m' d d' picks picks' true W0 (by simp [hpk]) hm hm' hf.2.1 (hP.later B0.out) (hP'.later B0.out))
  have HQ := Lib.hid (fun V (hV : Below w.heap.size w V) => rowseq_any A A' n n' c c' rows rows' b V hb2 hf.1 hf.2.2 (hA.later hV) (hA'.later hV))
  clear hb hb2 hm hm' hf hA hP hA' hP' hpk
  go_enter Tryz.func14, Tryz.ntmps14
  go_upto_region 1 with fail
  rw [← hW0]
  clear hW0
  go_wp2_with (first
    | (go_at_call 34; ((with_reducible refine HO.out.mono ?_); rintro e w8 ⟨rfl, b8⟩; have B8 := Lib.hid (bel_trans B0.out b8); obtain ⟨c0, c1, c2, c3, c4, c5, c6, c7, c8, c9, c10⟩ := cells11 (keep_bel b8 Z0.out); obtain ⟨d0, d1, d2, d3, d4, d5, d6, d7, d8, d9, d10⟩ := cells11 (keep_bel b8 Z1.out); clear b8))
    | (go_at_call 35; ((with_reducible refine (HQ.out _ B8.out).mono ?_); rintro e w9 ⟨rfl, b9⟩; have B9 := Lib.hid (bel_trans B8.out b9); clear b9))
    | fail)
  go_ret
  exact ⟨rfl, B9.out⟩
/-- A script, few of it. -/
theorem few_1000 {x : ScV} (hf : FewP x) : x.rows.length ≤ 1000 ∧ x.picks.length ≤ 1000 ∧ ∀ r ∈ x.rows, r.length ≤ 1000 ∧ ∀ o ∈ r, o.ms.length ≤ 1000 :=
  ⟨by have := hf.rl; omega, by have := hf.pl; omega, fun r hr => ⟨by have := hf.ol r hr; omega, fun o ho => by have := (hf.op r hr o ho).m; omega⟩⟩
theorem sc_eq {x y : ScV} {b : Bool} (hb : b = true ↔ x = y) : b = true ↔ x.cf = y.cf ∧ x.picks = y.picks ∧ x.rows = y.rows := by
  rw [hb]
  obtain ⟨c, r, p⟩ := x
  obtain ⟨c', r', p'⟩ := y
  constructor
  · intro h
    injection h with h1 h2 h3
    exact ⟨h1, h3, h2⟩
  · rintro ⟨h1, h2, h3⟩
    simp only at h1 h2 h3
    rw [h1, h2, h3]
theorem psame_any {x y : ScV} {v u : Value} {b : Bool} {w : World} (hb : b = true ↔ x = y) (hv : ScR w x v) (hu : ScR w y u) (hf : FewP x) : Calls Tryz.prog 14 #[v, u] w fun e w' => e = .returned (.bool b) ∧ Below w.heap.size w w' := by
  have hb2 := sc_eq hb
  obtain ⟨a0, a1, a2, a3, a4, a5, a6, a7, a8, A, c, B, d, hs, hcf, rfl, hA, hR, hP⟩ := hv.h
  obtain ⟨b0, b1, b2, b3, b4, b5, b6, b7, b8, A', c', B', d', hs', hcf', rfl, hA', hR', hP'⟩ := hu.h
  rw [hcf, hcf'] at hb2
  exact psame_walk a0 a1 a2 a3 a4 a5 a6 a7 a8 b0 b1 b2 b3 b4 b5 b6 b7 b8 A B A' B' _ c _ d _ c' _ d' x.rows y.rows x.picks y.picks b w hb2 rfl rfl (few_1000 hf) ⟨rfl, hs, hA, hR⟩ hP ⟨rfl, hs', hA', hR'⟩ hP'
end Go.Proofs.YtelpkajlejbbgaaGreatDoor
