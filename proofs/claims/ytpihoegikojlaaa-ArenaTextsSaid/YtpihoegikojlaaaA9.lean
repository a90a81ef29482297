/- The law ArenaTexts: its walk. -/
import Derived.Test.YtpihoegikojlaaaA7
import Derived.Test.YtpihoegikojlaaaA2
namespace Go.Proofs.Ytpihoegikojlaaa
set_option linter.unusedSimpArgs false
open Go.RowKit
set_option linter.unusedVariables false

/-- An arena of texts that was just made. -/
theorem AR_new (w : World) : AR (w.alloc (.cells #[.int .i64 20, .slice none 0 0, .slice none 0 0] 85)) w.heap.size w.heap.size 0 [] := by
  refine ⟨none, 0, ?_, ?_, ?_, ?_, World.ownsRow_nil _ _ _ _, by simp [Value.ownBlock], Nat.le_refl _, by simp⟩ <;> simp [go_sem]
theorem AR_bel {w w' : World} {base N n : Nat} {l : List ByteArray} (h : AR w base N n l) (hb : Below w.heap.size w w') : AR w' base N n l := by
  obtain ⟨A, c, h0, h1, h2, hf, o, e1, hbN, hbw⟩ := h
  have hl := World.block_lt_of_cell? w _ h1
  exact ⟨A, c, bel_later hb h0, bel_later hb h1, bel_later hb h2, (bel_frozen hb hl).trans hf, own_bel o hb, e1, hbN, Nat.le_trans hbw hb.size⟩
theorem topS_AR {N base n : Nat} {l : List ByteArray} {w : World} (h : AR w base N n l) :
    Calls Try.prog 20 #[.pointer (some ⟨N, 0, none⟩)] w fun e w' => e = .returned (.int .i64 n) ∧ w = w' := by
  obtain ⟨A, c, h0, h1, h2, hf, o, e1, hbN, hbw⟩ := h
  exact topS_at N n c A w h1
theorem getS_AR {N base n i : Nat} {l : List ByteArray} {w : World} (h : AR w base N n l) (hi : i < n) (hl : i < l.length) (hn : n ≤ 1000000) :
    Calls Try.prog 19 #[.pointer (some ⟨N, 0, none⟩), .int .i64 ((i : Int) + 1)] w fun e w' => e = .returned (.tuple #[.string l[i], .bool true]) ∧ w = w' := by
  obtain ⟨A, c, h0, h1, h2, hf, o, e1, hbN, hbw⟩ := h
  obtain ⟨g, c', hA, hbg, hgl⟩ := o.form (by omega)
  obtain ⟨rfl, rfl⟩ : A = some ⟨g, 0, none⟩ ∧ c = c' := by injection hA with a b c; exact ⟨a, c⟩
  have := flatT_get l i hl
  exact getS_in N n c g i l[i] w h1 hi hn (by rw [o.cellAt _ (by omega), this.2]) (by rw [o.cellAt _ (by omega), this.1])
theorem getS_end {N base n : Nat} {l : List ByteArray} {w : World} (h : AR w base N n l) (hn : n ≤ 1000000) :
    Calls Try.prog 19 #[.pointer (some ⟨N, 0, none⟩), .int .i64 ((n : Int) + 1)] w fun e w' => e = .returned (.tuple #[.string ByteArray.empty, .bool false]) ∧ w = w' := by
  obtain ⟨A, c, h0, h1, h2, hf, o, e1, hbN, hbw⟩ := h
  exact getS_out N n c A w h1 hn

set_option maxRecDepth 100000 in
set_option maxHeartbeats 4000000 in
theorem at_lt (E : Option Addr) (len cap : Nat) (l : List ByteArray) (w : World) (hcap : len ≤ cap) (h20 : len < 20) (hcm : cap ≤ maxLen) (hl : l.length = len) (hR : Rd w w.heap.size E (l.map Value.string)) :
    Calls Try.prog 6 #[.slice E len cap] w fun e w' => e = .returned (.bool true) ∧ Below w.heap.size w w' := by
    unfold maxLen at hcm
    have c0 := Lib.hid (newS_20 w)
    have a0 := Lib.hid (AR_new w)
    have HL := Lib.hid hl
    have HR := Lib.hid hR
    clear hl hR
    have h20' : (len : Int) < 20 := by omega
    have hm20 : len ≤ 20 := by omega
    have hmc : len ≤ cap := by omega
    have hmc1 : (len : Int) ≤ (cap : Int) := by omega
    go_enter Try.func6, Try.ntmps6
    go_wp2_with fail
    refine c0.out.mono ?_
    rintro e w1 ⟨rfl, hw1⟩
    have x1 : Hid (AR w1 w.heap.size w.heap.size 0 []) := Lib.hid (by rw [hw1]; exact a0.out)
    have hb1 : Hid (Below w.heap.size w w1) := Lib.hid (by rw [hw1]; go_grown)
    clear hw1 a0 c0
    go_wp2
    go_loopw [5] (fun iv wr => ∃ k : Nat, k ≤ len ∧ iv = .int .i64 k ∧ AR wr w.heap.size w.heap.size k (l.take k) ∧ Below w.heap.size w wr) (fun i _ => len - (intOf i).toNat)
    case atStart => exact ⟨0, by omega, rfl, by simpa using x1.out, hb1.out⟩
    case round =>
      obtain ⟨k, hk, rfl, hAR, hB⟩ := hrel
      have XA := Lib.hid hAR
      have XB := Lib.hid hB
      clear hAR hB x1 hb1
      by_cases h8 : k = len
      · have he : l.take k = l := by rw [h8, ← HL.out]; exact List.take_length
        have hkn : ¬ (k : Int) < (len : Int) := by omega
        have YA : Hid (AR wr w.heap.size w.heap.size len l) := Lib.hid (by rw [← h8]; have := XA.out; rw [he] at this; rw [h8]; rw [h8] at this; exact this)
        clear he XA
        go_wp2
        go_loopw [8] (fun iv wv => ∃ j : Nat, j ≤ len ∧ iv = .int .i64 j ∧ AR wv w.heap.size w.heap.size len l ∧ Below w.heap.size w wv) (fun i _ => len - (intOf i).toNat)
        case atStart => exact ⟨0, by omega, rfl, YA.out, XB.out⟩
        case round =>
          obtain ⟨j, hj, rfl, hAR, hB⟩ := hrel
          have ZA := Lib.hid hAR
          have ZB := Lib.hid hB
          clear hAR hB YA XB
          by_cases h9 : j = len
          · have hjn : ¬ (j : Int) < (len : Int) := by omega
            have s1 : IntKind.i64.wrap ((len : Int) + 1) = (len : Int) + 1 := IntWalk.i64_in _ (by omega)
            go_wp2_with fail
            refine (getS_end ZA.out (by omega)).mono ?_
            rintro e w2 ⟨rfl, rfl⟩
            go_wp2_with fail
            refine (live_any _).mono ?_
            rintro e w3 ⟨rfl, hb⟩
            have VA := Lib.hid (AR_bel ZA.out hb)
            have VB := Lib.hid (ZB.out.trans (hb.mono (by have := ZB.out.size; omega)))
            clear hb ZA ZB
            go_wp2_with fail
            refine (topS_AR VA.out).mono ?_
            rintro e w4 ⟨rfl, rfl⟩
            go_wp2
            go_ret
            exact ⟨by simp, VB.out⟩
          · have hjn : j < len := by omega
            have hj1 : (j : Int) < (len : Int) := by omega
            have hj0 : (0 : Int) ≤ (j : Int) := by omega
            have hjl : j < l.length := by rw [HL.out]; exact hjn
            have s1 : IntKind.i64.wrap ((j : Int) + 1) = (j : Int) + 1 := IntWalk.i64_in _ (by omega)
            have gj : (l.map Value.string)[j]? = some (.string l[j]) := by rw [List.getElem?_map, List.getElem?_eq_getElem hjl]; rfl
            obtain ⟨b, off, rfl, hlt, hc⟩ := HR.out.get gj
            have e1 : wr.cell? ⟨b, off + j, none⟩ = some (.string l[j]) := (bel_cell ZB.out hlt).trans hc
            have C := getS_AR ZA.out hjn hjl (by omega)
            obtain ⟨x, hx⟩ : ∃ x, x = l[j] := ⟨_, rfl⟩
            rw [← hx] at C e1
            have CC := Lib.hid C
            clear C gj hc hx
            go_wp2_with fail
            refine CC.out.mono ?_
            rintro e w2 ⟨rfl, rfl⟩
            go_wp2
            exact ⟨⟨j + 1, by omega, by simp, ZA.out, ZB.out⟩, by simp [intOf]; omega⟩
      · have hkn : k < len := by omega
        have hk1 : (k : Int) < (len : Int) := by omega
        have hk0 : (0 : Int) ≤ (k : Int) := by omega
        have hkl : k < l.length := by rw [HL.out]; exact hkn
        have s1 : IntKind.i64.wrap ((k : Int) + 1) = (k : Int) + 1 := IntWalk.i64_in _ (by omega)
        have gk : (l.map Value.string)[k]? = some (.string l[k]) := by rw [List.getElem?_map, List.getElem?_eq_getElem hkl]; rfl
        obtain ⟨b, off, rfl, hlt, hc⟩ := HR.out.get gk
        have e1 : wr.cell? ⟨b, off + k, none⟩ = some (.string l[k]) := (bel_cell XB.out hlt).trans hc
        have C := takeS w.heap.size w.heap.size k (l.take k) l[k] wr XA.out (by omega)
        have te : l.take k ++ [l[k]] = l.take (k + 1) := by simp
        rw [te] at C
        obtain ⟨x, hx⟩ : ∃ x, x = l[k] := ⟨_, rfl⟩
        rw [← hx] at C e1
        have CC := Lib.hid C
        clear C gk hc hx te
        go_wp2_with fail
        refine CC.out.mono ?_
        rintro e w2 ⟨rfl, hA2, hB2⟩
        have XA2 := Lib.hid hA2
        have XB2 := Lib.hid (XB.out.trans hB2)
        clear hA2 hB2 XA XB CC
        go_wp2
        exact ⟨⟨k + 1, by omega, by simp, XA2.out, XB2.out⟩, by simp [intOf]; omega⟩
set_option maxRecDepth 100000 in
set_option maxHeartbeats 4000000 in
theorem at_eq (E : Option Addr) (cap : Nat) (l : List ByteArray) (w : World) (hcap : 20 ≤ cap) (hcm : cap ≤ maxLen) (hl : l.length = 20) (hR : Rd w w.heap.size E (l.map Value.string)) :
    Calls Try.prog 6 #[.slice E 20 cap] w fun e w' => e = .returned (.bool true) ∧ Below w.heap.size w w' := by
    unfold maxLen at hcm
    have c0 := Lib.hid (newS_20 w)
    have a0 := Lib.hid (AR_new w)
    have HL := Lib.hid hl
    have HR := Lib.hid hR
    clear hl hR
    have hm20 : 20 ≤ 20 := by omega
    have hmc : 20 ≤ cap := by omega
    have hmc1 : (20 : Int) ≤ (cap : Int) := by omega
    go_enter Try.func6, Try.ntmps6
    go_wp2_with fail
    refine c0.out.mono ?_
    rintro e w1 ⟨rfl, hw1⟩
    have x1 : Hid (AR w1 w.heap.size w.heap.size 0 []) := Lib.hid (by rw [hw1]; exact a0.out)
    have hb1 : Hid (Below w.heap.size w w1) := Lib.hid (by rw [hw1]; go_grown)
    clear hw1 a0 c0
    go_wp2
    go_loopw [5] (fun iv wr => ∃ k : Nat, k ≤ 20 ∧ iv = .int .i64 k ∧ AR wr w.heap.size w.heap.size k (l.take k) ∧ Below w.heap.size w wr) (fun i _ => 20 - (intOf i).toNat)
    case atStart => exact ⟨0, by omega, rfl, by simpa using x1.out, hb1.out⟩
    case round =>
      obtain ⟨k, hk, rfl, hAR, hB⟩ := hrel
      have XA := Lib.hid hAR
      have XB := Lib.hid hB
      clear hAR hB x1 hb1
      by_cases h8 : k = 20
      · have he : l.take k = l := by rw [h8, ← HL.out]; exact List.take_length
        have hkn : ¬ (k : Int) < (20 : Int) := by omega
        have YA : Hid (AR wr w.heap.size w.heap.size 20 l) := Lib.hid (by rw [← h8]; have := XA.out; rw [he] at this; rw [h8]; rw [h8] at this; exact this)
        clear he XA
        go_wp2
        go_loopw [8] (fun iv wv => ∃ j : Nat, j ≤ 20 ∧ iv = .int .i64 j ∧ AR wv w.heap.size w.heap.size 20 l ∧ Below w.heap.size w wv) (fun i _ => 20 - (intOf i).toNat)
        case atStart => exact ⟨0, by omega, rfl, YA.out, XB.out⟩
        case round =>
          obtain ⟨j, hj, rfl, hAR, hB⟩ := hrel
          have ZA := Lib.hid hAR
          have ZB := Lib.hid hB
          clear hAR hB YA XB
          by_cases h9 : j = 20
          · have hjn : ¬ (j : Int) < (20 : Int) := by omega
            have s1 : IntKind.i64.wrap ((20 : Int) + 1) = (20 : Int) + 1 := IntWalk.i64_in _ (by omega)
            go_wp2_with fail
            refine (getS_end ZA.out (by omega)).mono ?_
            rintro e w2 ⟨rfl, rfl⟩
            go_wp2_with fail
            refine (live_any _).mono ?_
            rintro e w3 ⟨rfl, hb⟩
            have VA := Lib.hid (AR_bel ZA.out hb)
            have VB := Lib.hid (ZB.out.trans (hb.mono (by have := ZB.out.size; omega)))
            clear hb ZA ZB
            go_wp2_with fail
            refine (topS_AR VA.out).mono ?_
            rintro e w4 ⟨rfl, rfl⟩
            go_wp2
            go_ret
            exact ⟨by simp, VB.out⟩
          · have hjn : j < 20 := by omega
            have hj1 : (j : Int) < (20 : Int) := by omega
            have hj0 : (0 : Int) ≤ (j : Int) := by omega
            have hjl : j < l.length := by rw [HL.out]; exact hjn
            have s1 : IntKind.i64.wrap ((j : Int) + 1) = (j : Int) + 1 := IntWalk.i64_in _ (by omega)
            have gj : (l.map Value.string)[j]? = some (.string l[j]) := by rw [List.getElem?_map, List.getElem?_eq_getElem hjl]; rfl
            obtain ⟨b, off, rfl, hlt, hc⟩ := HR.out.get gj
            have e1 : wr.cell? ⟨b, off + j, none⟩ = some (.string l[j]) := (bel_cell ZB.out hlt).trans hc
            have C := getS_AR ZA.out hjn hjl (by omega)
            obtain ⟨x, hx⟩ : ∃ x, x = l[j] := ⟨_, rfl⟩
            rw [← hx] at C e1
            have CC := Lib.hid C
            clear C gj hc hx
            go_wp2_with fail
            refine CC.out.mono ?_
            rintro e w2 ⟨rfl, rfl⟩
            go_wp2
            exact ⟨⟨j + 1, by omega, by simp, ZA.out, ZB.out⟩, by simp [intOf]; omega⟩
      · have hkn : k < 20 := by omega
        have hk1 : (k : Int) < (20 : Int) := by omega
        have hk0 : (0 : Int) ≤ (k : Int) := by omega
        have hkl : k < l.length := by rw [HL.out]; exact hkn
        have s1 : IntKind.i64.wrap ((k : Int) + 1) = (k : Int) + 1 := IntWalk.i64_in _ (by omega)
        have gk : (l.map Value.string)[k]? = some (.string l[k]) := by rw [List.getElem?_map, List.getElem?_eq_getElem hkl]; rfl
        obtain ⟨b, off, rfl, hlt, hc⟩ := HR.out.get gk
        have e1 : wr.cell? ⟨b, off + k, none⟩ = some (.string l[k]) := (bel_cell XB.out hlt).trans hc
        have C := takeS w.heap.size w.heap.size k (l.take k) l[k] wr XA.out (by omega)
        have te : l.take k ++ [l[k]] = l.take (k + 1) := by simp
        rw [te] at C
        obtain ⟨x, hx⟩ : ∃ x, x = l[k] := ⟨_, rfl⟩
        rw [← hx] at C e1
        have CC := Lib.hid C
        clear C gk hc hx te
        go_wp2_with fail
        refine CC.out.mono ?_
        rintro e w2 ⟨rfl, hA2, hB2⟩
        have XA2 := Lib.hid hA2
        have XB2 := Lib.hid (XB.out.trans hB2)
        clear hA2 hB2 XA XB CC
        go_wp2
        exact ⟨⟨k + 1, by omega, by simp, XA2.out, XB2.out⟩, by simp [intOf]; omega⟩
set_option maxRecDepth 100000 in
set_option maxHeartbeats 4000000 in
theorem at_gt (E : Option Addr) (len cap : Nat) (l : List ByteArray) (w : World) (hcap : len ≤ cap) (h20 : 20 < len) (hcm : cap ≤ maxLen) (hl : l.length = 20) (hR : Rd w w.heap.size E (l.map Value.string)) :
    Calls Try.prog 6 #[.slice E len cap] w fun e w' => e = .returned (.bool true) ∧ Below w.heap.size w w' := by
    unfold maxLen at hcm
    have c0 := Lib.hid (newS_20 w)
    have a0 := Lib.hid (AR_new w)
    have HL := Lib.hid hl
    have HR := Lib.hid hR
    clear hl hR
    have h20' : (20 : Int) < len := by omega
    have hm20 : 20 ≤ 20 := by omega
    have hmc : 20 ≤ cap := by omega
    have hmc1 : (20 : Int) ≤ (cap : Int) := by omega
    go_enter Try.func6, Try.ntmps6
    go_wp2_with fail
    refine c0.out.mono ?_
    rintro e w1 ⟨rfl, hw1⟩
    have x1 : Hid (AR w1 w.heap.size w.heap.size 0 []) := Lib.hid (by rw [hw1]; exact a0.out)
    have hb1 : Hid (Below w.heap.size w w1) := Lib.hid (by rw [hw1]; go_grown)
    clear hw1 a0 c0
    go_wp2
    go_loopw [5] (fun iv wr => ∃ k : Nat, k ≤ 20 ∧ iv = .int .i64 k ∧ AR wr w.heap.size w.heap.size k (l.take k) ∧ Below w.heap.size w wr) (fun i _ => 20 - (intOf i).toNat)
    case atStart => exact ⟨0, by omega, rfl, by simpa using x1.out, hb1.out⟩
    case round =>
      obtain ⟨k, hk, rfl, hAR, hB⟩ := hrel
      have XA := Lib.hid hAR
      have XB := Lib.hid hB
      clear hAR hB x1 hb1
      by_cases h8 : k = 20
      · have he : l.take k = l := by rw [h8, ← HL.out]; exact List.take_length
        have hkn : ¬ (k : Int) < (20 : Int) := by omega
        have YA : Hid (AR wr w.heap.size w.heap.size 20 l) := Lib.hid (by rw [← h8]; have := XA.out; rw [he] at this; rw [h8]; rw [h8] at this; exact this)
        clear he XA
        go_wp2
        go_loopw [8] (fun iv wv => ∃ j : Nat, j ≤ 20 ∧ iv = .int .i64 j ∧ AR wv w.heap.size w.heap.size 20 l ∧ Below w.heap.size w wv) (fun i _ => 20 - (intOf i).toNat)
        case atStart => exact ⟨0, by omega, rfl, YA.out, XB.out⟩
        case round =>
          obtain ⟨j, hj, rfl, hAR, hB⟩ := hrel
          have ZA := Lib.hid hAR
          have ZB := Lib.hid hB
          clear hAR hB YA XB
          by_cases h9 : j = 20
          · have hjn : ¬ (j : Int) < (20 : Int) := by omega
            have s1 : IntKind.i64.wrap ((20 : Int) + 1) = (20 : Int) + 1 := IntWalk.i64_in _ (by omega)
            go_wp2_with fail
            refine (getS_end ZA.out (by omega)).mono ?_
            rintro e w2 ⟨rfl, rfl⟩
            go_wp2_with fail
            refine (live_any _).mono ?_
            rintro e w3 ⟨rfl, hb⟩
            have VA := Lib.hid (AR_bel ZA.out hb)
            have VB := Lib.hid (ZB.out.trans (hb.mono (by have := ZB.out.size; omega)))
            clear hb ZA ZB
            go_wp2_with fail
            refine (topS_AR VA.out).mono ?_
            rintro e w4 ⟨rfl, rfl⟩
            go_wp2
            go_ret
            exact ⟨by simp, VB.out⟩
          · have hjn : j < 20 := by omega
            have hj1 : (j : Int) < (20 : Int) := by omega
            have hj0 : (0 : Int) ≤ (j : Int) := by omega
            have hjl : j < l.length := by rw [HL.out]; exact hjn
            have s1 : IntKind.i64.wrap ((j : Int) + 1) = (j : Int) + 1 := IntWalk.i64_in _ (by omega)
            have gj : (l.map Value.string)[j]? = some (.string l[j]) := by rw [List.getElem?_map, List.getElem?_eq_getElem hjl]; rfl
            obtain ⟨b, off, rfl, hlt, hc⟩ := HR.out.get gj
            have e1 : wr.cell? ⟨b, off + j, none⟩ = some (.string l[j]) := (bel_cell ZB.out hlt).trans hc
            have C := getS_AR ZA.out hjn hjl (by omega)
            obtain ⟨x, hx⟩ : ∃ x, x = l[j] := ⟨_, rfl⟩
            rw [← hx] at C e1
            have CC := Lib.hid C
            clear C gj hc hx
            go_wp2_with fail
            refine CC.out.mono ?_
            rintro e w2 ⟨rfl, rfl⟩
            go_wp2
            exact ⟨⟨j + 1, by omega, by simp, ZA.out, ZB.out⟩, by simp [intOf]; omega⟩
      · have hkn : k < 20 := by omega
        have hk1 : (k : Int) < (20 : Int) := by omega
        have hk0 : (0 : Int) ≤ (k : Int) := by omega
        have hkl : k < l.length := by rw [HL.out]; exact hkn
        have s1 : IntKind.i64.wrap ((k : Int) + 1) = (k : Int) + 1 := IntWalk.i64_in _ (by omega)
        have gk : (l.map Value.string)[k]? = some (.string l[k]) := by rw [List.getElem?_map, List.getElem?_eq_getElem hkl]; rfl
        obtain ⟨b, off, rfl, hlt, hc⟩ := HR.out.get gk
        have e1 : wr.cell? ⟨b, off + k, none⟩ = some (.string l[k]) := (bel_cell XB.out hlt).trans hc
        have C := takeS w.heap.size w.heap.size k (l.take k) l[k] wr XA.out (by omega)
        have te : l.take k ++ [l[k]] = l.take (k + 1) := by simp
        rw [te] at C
        obtain ⟨x, hx⟩ : ∃ x, x = l[k] := ⟨_, rfl⟩
        rw [← hx] at C e1
        have CC := Lib.hid C
        clear C gk hc hx te
        go_wp2_with fail
        refine CC.out.mono ?_
        rintro e w2 ⟨rfl, hA2, hB2⟩
        have XA2 := Lib.hid hA2
        have XB2 := Lib.hid (XB.out.trans hB2)
        clear hA2 hB2 XA XB CC
        go_wp2
        exact ⟨⟨k + 1, by omega, by simp, XA2.out, XB2.out⟩, by simp [intOf]; omega⟩
theorem at_any (E : Option Addr) (len cap : Nat) (l : List ByteArray) (w : World) (hcap : len ≤ cap) (hcm : cap ≤ maxLen) (hl : l.length = len) (hR : Rd w w.heap.size E (l.map Value.string)) :
    Calls Try.prog 6 #[.slice E len cap] w fun e w' => e = .returned (.bool true) ∧ Below w.heap.size w w' := by
  have hR' : Rd w w.heap.size E ((l.take 20).map Value.string) := by
    rcases hR with h | ⟨b, off, hA, hlt, hc⟩
    · left
      have : l = [] := by simpa using h
      rw [this]; rfl
    · refine .inr ⟨b, off, hA, hlt, fun j u hj => hc j u ?_⟩
      rw [List.map_take, List.getElem?_take] at hj
      split at hj
      · exact hj
      · cases hj
  rcases Nat.lt_trichotomy len 20 with h | h | h
  · exact at_lt E len cap l w hcap h hcm hl hR
  · subst h; exact at_eq E cap l w hcap hcm hl hR
  · exact at_gt E len cap (l.take 20) w hcap h hcm (by simp; omega) hR'
end Go.Proofs.Ytpihoegikojlaaa
