/- Moves as lines, as the document prints them. -/
import Derived.Test.YtocbabckihcdmaaDoorV2
import Derived.Test.YtocbabckihcdmaaDoorU1
namespace Go.Proofs.YtocbabckihcdmaaDoor
set_option linter.unusedSimpArgs false
open Go.RowKit Go.Maps
set_option linter.unusedVariables false
theorem number_nat : ∀ (u : Nat), u ≤ 1099511627776 → ∀ w : World, Calls Tryd.prog 27 #[.int .i64 u] w fun e w' => e = .returned (.string ⟨(Lib.decDigits u).toArray⟩) ∧ Below w.heap.size w w' := by
  intro u
  induction u using Nat.strongRecOn with
  | _ u ih =>
    intro hu w
    by_cases h : u < 10
    · exact number_small u h w
    · exact number_step u h hu w (ih (u / 10) (by omega) (by omega))
def numS (v : Int) : ByteArray := ⟨(Lib.itoa v).toArray⟩
theorem number_any (v : Int) (h0 : 0 ≤ v) (h1 : v ≤ 1099511627776) (w : World) : Calls Tryd.prog 27 #[.int .i64 v] w fun e w' => e = .returned (.string (numS v)) ∧ Below w.heap.size w w' := by
  have g := number_nat v.toNat (by omega) w
  rw [show ((v.toNat : Nat) : Int) = v by omega, ← itoa_dd h0] at g
  exact g
theorem numS_len (v : Int) (h0 : 0 ≤ v) (h1 : v ≤ 1099511627776) : (numS v).size ≤ 2000000000000 := by
  unfold numS
  rw [ba_size, itoa_dd h0]
  have := dd_len v.toNat
  omega
theorem printF_no {xs : List MV} {x : MV} (hx : x ∈ xs) (h : toldB x = false) : printF xs = (⟨#[]⟩, 3) := by
  unfold printF
  rw [if_neg]
  intro ha
  have := List.all_eq_true.1 ha x hx
  rw [h] at this; cases this
theorem printF_yes {xs : List MV} (h : ∀ x ∈ xs, toldB x = true) : printF xs = (⟨(textL xs).toArray⟩, 0) := by
  unfold printF
  rw [if_pos (List.all_eq_true.2 h)]
theorem body_is (x : MV) : bodyL x = Lib.itoa x.s ++ 32 :: ((wordF x.w).data.toList ++ 32 :: (Lib.itoa x.n ++ 32 :: (Lib.itoa x.v ++ 32 :: Lib.itoa x.e))) := by
  have es : SP.data.toList = [32] := rfl
  unfold bodyL partsL
  rw [es]
  simp only [List.map_cons, List.map_nil]
  rw [join_two, join_two, join_two, join_two, Lib.join_one]
theorem line_put (out : ByteArray) (t : List UInt8) (x : MV) (h : out.data.toList = t) : out ++ numS x.s ++ ⟨#[32]⟩ ++ wordF x.w ++ ⟨#[32]⟩ ++ numS x.n ++ ⟨#[32]⟩ ++ numS x.v ++ ⟨#[32]⟩ ++ numS x.e ++ ⟨#[10]⟩ = ⟨(t ++ lineL x).toArray⟩ := by
  apply Go.WideShapes.bytes_inj
  unfold lineL
  rw [body_is]
  simp [ByteArray.data_append, numS, h]
set_option maxRecDepth 100000 in
set_option maxHeartbeats 4000000 in
theorem print_ref (A : Option Addr) (n cap : Nat) (xs : List MV) (w : World) (hl : xs.length = n) (hn : n ≤ 1000) (hA : EM.Rd w A xs) (ho : AllOk xs) :
    Calls Tryd.prog 8 #[.slice A n cap] w fun r w' => r = .returned (.tuple #[.string (printF xs).1, .int .i64 (printF xs).2]) ∧ Below w.heap.size w w' := by
  have HL := Lib.hid hl
  have HN := Lib.hid hn
  have HO := Lib.hid ho
  have HA := Lib.hid (fun W (b : Below w.heap.size w W) => hA.later b)
  clear hl hn hA ho
  go_enter Tryd.func8, Tryd.ntmps8
  go_upto_region 3 with fail
  go_loopw [4, 5] (fun ov iv wr => ∃ (k : Nat) (out : ByteArray), k ≤ n ∧ iv = .int .i64 k ∧ ov = .string out ∧ Hid (out.data.toList = textL (xs.take k)) ∧ Hid (∀ x ∈ xs.take k, toldB x = true) ∧ Below w.heap.size w wr) (fun _ i _ => n - (intOf i).toNat)
  case atStart => exact ⟨0, ⟨#[]⟩, by omega, rfl, rfl, Lib.hid rfl, Lib.hid (fun x hx => by simp at hx), Below.refl _ _⟩
  case round =>
    obtain ⟨k, out, hk, rfl, rfl, HT, HTD, hb⟩ := hrel
    have HB := Lib.hid hb
    clear hb
    by_cases h8 : k < n
    · have hk1 : (k : Int) < (n : Int) := by omega
      have hk0 : (0 : Int) ≤ (k : Int) := by omega
      obtain ⟨x, hx⟩ : ∃ x, xs[k]? = some x := ⟨_, List.getElem?_eq_getElem (by rw [HL.out]; omega)⟩
      have hm : x ∈ xs := List.mem_of_getElem? hx
      obtain ⟨b, off, rfl, hlt, g0, g1, g2, g3, g4⟩ := em_at (HA.out _ HB.out) hx
      have OX := Lib.hid (HO.out x hm)
      have HNO := Lib.hid (fun e => printF_no hm e : toldB x = false → printF xs = (⟨#[]⟩, 3))
      have HX := Lib.hid hx
      have WK : IntKind.i64.wrap ((k : Int) + 1) = (k : Int) + 1 := IntWalk.i64_in _ (by have := HN.out; omega)
      have BX := Lib.hid (bel_alloc HB.out (MO x))
      have Z0 := Lib.hid (heap_alloc_new wr (MO x))
      obtain ⟨c0, c1, c2, c3, c4⟩ := cells5 Z0.out
      have HWO := Lib.hid (word_ok OX.out.w0)
      have WR := Lib.hid (fun W => word_ref x.w OX.out.w0 OX.out.w1 W)
      obtain ⟨wd, hwd⟩ : ∃ wd, wordF x.w = wd := ⟨_, rfl⟩
      rw [hwd] at HWO WR
      have HWD := Lib.hid hwd
      have N1 := Lib.hid (fun W => in_any x.s 2147483647 W)
      have N2 := Lib.hid (fun W => in_any x.n 2147483647 W)
      have N3 := Lib.hid (fun W => in_any x.v 1099511627776 W)
      have N4 := Lib.hid (fun W => in_any x.e 2147483647 W)
      clear hm hx hlt hwd
      cases q0 : wokB x.w
      · have dw : wd.toList.isEmpty = true := by have := HWO.out; rw [q0] at this; exact this
        have HF := Lib.hid (HNO.out (by unfold toldB; simp [q0]))
        go_wp2_with (first
          | (go_at_call 19; ((with_reducible refine (WR.out _).mono ?_); rintro e w1 ⟨rfl, bb⟩; replace BX := Lib.hid (bel_trans BX.out bb); replace Z0 := Lib.hid (keep_bel bb Z0.out); clear bb c0 c1 c2 c3 c4; obtain ⟨c0, c1, c2, c3, c4⟩ := cells5 Z0.out))
          | (go_at_call 26; ((with_reducible refine (N1.out _).mono ?_); rintro e w1 ⟨rfl, rfl⟩))
          | (go_at_call 26; ((with_reducible refine (N2.out _).mono ?_); rintro e w1 ⟨rfl, rfl⟩))
          | (go_at_call 26; ((with_reducible refine (N3.out _).mono ?_); rintro e w1 ⟨rfl, rfl⟩))
          | (go_at_call 26; ((with_reducible refine (N4.out _).mono ?_); rintro e w1 ⟨rfl, rfl⟩))
          | fail)
        refine bodyPost_ret (v := .tuple #[.string ⟨#[]⟩, .int .i64 3]) (by simp [results, Tryd.results8, go_sem]) rfl ⟨by rw [HF.out], BX.out⟩
      · have dw : wd.toList.isEmpty = false := by have := HWO.out; rw [q0] at this; exact this
        cases q1 : numB x.s 2147483647
        · rw [q1] at N1
          have HF := Lib.hid (HNO.out (by unfold toldB; simp [q0, q1]))
          go_wp2_with (first
            | (go_at_call 19; ((with_reducible refine (WR.out _).mono ?_); rintro e w1 ⟨rfl, bb⟩; replace BX := Lib.hid (bel_trans BX.out bb); replace Z0 := Lib.hid (keep_bel bb Z0.out); clear bb c0 c1 c2 c3 c4; obtain ⟨c0, c1, c2, c3, c4⟩ := cells5 Z0.out))
            | (go_at_call 26; ((with_reducible refine (N1.out _).mono ?_); rintro e w1 ⟨rfl, rfl⟩))
            | (go_at_call 26; ((with_reducible refine (N2.out _).mono ?_); rintro e w1 ⟨rfl, rfl⟩))
            | (go_at_call 26; ((with_reducible refine (N3.out _).mono ?_); rintro e w1 ⟨rfl, rfl⟩))
            | (go_at_call 26; ((with_reducible refine (N4.out _).mono ?_); rintro e w1 ⟨rfl, rfl⟩))
            | fail)
          refine bodyPost_ret (v := .tuple #[.string ⟨#[]⟩, .int .i64 3]) (by simp [results, Tryd.results8, go_sem]) rfl ⟨by rw [HF.out], BX.out⟩
        · rw [q1] at N1
          cases q2 : numB x.n 2147483647
          · rw [q2] at N2
            have HF := Lib.hid (HNO.out (by unfold toldB; simp [q0, q1, q2]))
            go_wp2_with (first
              | (go_at_call 19; ((with_reducible refine (WR.out _).mono ?_); rintro e w1 ⟨rfl, bb⟩; replace BX := Lib.hid (bel_trans BX.out bb); replace Z0 := Lib.hid (keep_bel bb Z0.out); clear bb c0 c1 c2 c3 c4; obtain ⟨c0, c1, c2, c3, c4⟩ := cells5 Z0.out))
              | (go_at_call 26; ((with_reducible refine (N1.out _).mono ?_); rintro e w1 ⟨rfl, rfl⟩))
              | (go_at_call 26; ((with_reducible refine (N2.out _).mono ?_); rintro e w1 ⟨rfl, rfl⟩))
              | (go_at_call 26; ((with_reducible refine (N3.out _).mono ?_); rintro e w1 ⟨rfl, rfl⟩))
              | (go_at_call 26; ((with_reducible refine (N4.out _).mono ?_); rintro e w1 ⟨rfl, rfl⟩))
              | fail)
            refine bodyPost_ret (v := .tuple #[.string ⟨#[]⟩, .int .i64 3]) (by simp [results, Tryd.results8, go_sem]) rfl ⟨by rw [HF.out], BX.out⟩
          · rw [q2] at N2
            cases q3 : numB x.v 1099511627776
            · rw [q3] at N3
              have HF := Lib.hid (HNO.out (by unfold toldB; simp [q0, q1, q2, q3]))
              go_wp2_with (first
                | (go_at_call 19; ((with_reducible refine (WR.out _).mono ?_); rintro e w1 ⟨rfl, bb⟩; replace BX := Lib.hid (bel_trans BX.out bb); replace Z0 := Lib.hid (keep_bel bb Z0.out); clear bb c0 c1 c2 c3 c4; obtain ⟨c0, c1, c2, c3, c4⟩ := cells5 Z0.out))
                | (go_at_call 26; ((with_reducible refine (N1.out _).mono ?_); rintro e w1 ⟨rfl, rfl⟩))
                | (go_at_call 26; ((with_reducible refine (N2.out _).mono ?_); rintro e w1 ⟨rfl, rfl⟩))
                | (go_at_call 26; ((with_reducible refine (N3.out _).mono ?_); rintro e w1 ⟨rfl, rfl⟩))
                | (go_at_call 26; ((with_reducible refine (N4.out _).mono ?_); rintro e w1 ⟨rfl, rfl⟩))
                | fail)
              refine bodyPost_ret (v := .tuple #[.string ⟨#[]⟩, .int .i64 3]) (by simp [results, Tryd.results8, go_sem]) rfl ⟨by rw [HF.out], BX.out⟩
            · rw [q3] at N3
              cases q4 : numB x.e 2147483647
              · rw [q4] at N4
                have HF := Lib.hid (HNO.out (by unfold toldB; simp [q0, q1, q2, q3, q4]))
                go_wp2_with (first
                  | (go_at_call 19; ((with_reducible refine (WR.out _).mono ?_); rintro e w1 ⟨rfl, bb⟩; replace BX := Lib.hid (bel_trans BX.out bb); replace Z0 := Lib.hid (keep_bel bb Z0.out); clear bb c0 c1 c2 c3 c4; obtain ⟨c0, c1, c2, c3, c4⟩ := cells5 Z0.out))
                  | (go_at_call 26; ((with_reducible refine (N1.out _).mono ?_); rintro e w1 ⟨rfl, rfl⟩))
                  | (go_at_call 26; ((with_reducible refine (N2.out _).mono ?_); rintro e w1 ⟨rfl, rfl⟩))
                  | (go_at_call 26; ((with_reducible refine (N3.out _).mono ?_); rintro e w1 ⟨rfl, rfl⟩))
                  | (go_at_call 26; ((with_reducible refine (N4.out _).mono ?_); rintro e w1 ⟨rfl, rfl⟩))
                  | fail)
                refine bodyPost_ret (v := .tuple #[.string ⟨#[]⟩, .int .i64 3]) (by simp [results, Tryd.results8, go_sem]) rfl ⟨by rw [HF.out], BX.out⟩
              · rw [q4] at N4
                have HTO : Hid (toldB x = true) := Lib.hid (by unfold toldB; simp [q0, q1, q2, q3, q4])
                have TT := Lib.hid (told_of HTO.out)
                have HLEN := Lib.hid (show out.size ≤ 60000 * 1000 from (by have e : out.size = (textL (xs.take k)).length := (by rw [← HT.out]; exact (Array.length_toList (xs := out.data)).symm); have := text_len HO.out k; have := HN.out; omega))
                go_upto_region 8 with (first
                  | (go_at_call 19; ((with_reducible refine (WR.out _).mono ?_); rintro e w1 ⟨rfl, bb⟩; replace BX := Lib.hid (bel_trans BX.out bb); replace Z0 := Lib.hid (keep_bel bb Z0.out); clear bb c0 c1 c2 c3 c4; obtain ⟨c0, c1, c2, c3, c4⟩ := cells5 Z0.out))
                  | (go_at_call 26; ((with_reducible refine (N1.out _).mono ?_); rintro e w1 ⟨rfl, rfl⟩))
                  | (go_at_call 26; ((with_reducible refine (N2.out _).mono ?_); rintro e w1 ⟨rfl, rfl⟩))
                  | (go_at_call 26; ((with_reducible refine (N3.out _).mono ?_); rintro e w1 ⟨rfl, rfl⟩))
                  | (go_at_call 26; ((with_reducible refine (N4.out _).mono ?_); rintro e w1 ⟨rfl, rfl⟩))
                  | fail)
                have Cn1 := Lib.hid (fun W => number_any x.s TT.out.s0 (by have := TT.out.s1; omega) W)
                have Ln1 := Lib.hid (numS_len x.s TT.out.s0 (by have := TT.out.s1; omega))
                have En1 := Lib.hid (show numS x.s = numS x.s from rfl)
                obtain ⟨n1, hn1⟩ : ∃ n1, numS x.s = n1 := ⟨_, rfl⟩
                rw [hn1] at Cn1 Ln1
                replace En1 := Lib.hid hn1
                clear hn1
                have Cn2 := Lib.hid (fun W => number_any x.n TT.out.n0 (by have := TT.out.n1; omega) W)
                have Ln2 := Lib.hid (numS_len x.n TT.out.n0 (by have := TT.out.n1; omega))
                have En2 := Lib.hid (show numS x.n = numS x.n from rfl)
                obtain ⟨n2, hn2⟩ : ∃ n2, numS x.n = n2 := ⟨_, rfl⟩
                rw [hn2] at Cn2 Ln2
                replace En2 := Lib.hid hn2
                clear hn2
                have Cn3 := Lib.hid (fun W => number_any x.v TT.out.v0 TT.out.v1 W)
                have Ln3 := Lib.hid (numS_len x.v TT.out.v0 TT.out.v1)
                have En3 := Lib.hid (show numS x.v = numS x.v from rfl)
                obtain ⟨n3, hn3⟩ : ∃ n3, numS x.v = n3 := ⟨_, rfl⟩
                rw [hn3] at Cn3 Ln3
                replace En3 := Lib.hid hn3
                clear hn3
                have Cn4 := Lib.hid (fun W => number_any x.e TT.out.e0 (by have := TT.out.e1; omega) W)
                have Ln4 := Lib.hid (numS_len x.e TT.out.e0 (by have := TT.out.e1; omega))
                have En4 := Lib.hid (show numS x.e = numS x.e from rfl)
                obtain ⟨n4, hn4⟩ : ∃ n4, numS x.e = n4 := ⟨_, rfl⟩
                rw [hn4] at Cn4 Ln4
                replace En4 := Lib.hid hn4
                clear hn4
                have LW := Lib.hid (show wd.size ≤ 20 from (by rw [← HWD.out]; have := word_len x.w; rwa [Array.length_toList] at this))
                have y0 : ¬ 9223372036854775807 < out.size + n1.size := by have := HLEN.out; have := Ln1.out; have := Ln2.out; have := Ln3.out; have := Ln4.out; have := LW.out; omega
                have y1 : ¬ 9223372036854775807 < out.size + n1.size + 1 := by have := HLEN.out; have := Ln1.out; have := Ln2.out; have := Ln3.out; have := Ln4.out; have := LW.out; omega
                have y2 : ¬ 9223372036854775807 < out.size + n1.size + 1 + wd.size := by have := HLEN.out; have := Ln1.out; have := Ln2.out; have := Ln3.out; have := Ln4.out; have := LW.out; omega
                have y3 : ¬ 9223372036854775807 < out.size + n1.size + 1 + wd.size + 1 := by have := HLEN.out; have := Ln1.out; have := Ln2.out; have := Ln3.out; have := Ln4.out; have := LW.out; omega
                have y4 : ¬ 9223372036854775807 < out.size + n1.size + 1 + wd.size + 1 + n2.size := by have := HLEN.out; have := Ln1.out; have := Ln2.out; have := Ln3.out; have := Ln4.out; have := LW.out; omega
                have y5 : ¬ 9223372036854775807 < out.size + n1.size + 1 + wd.size + 1 + n2.size + 1 := by have := HLEN.out; have := Ln1.out; have := Ln2.out; have := Ln3.out; have := Ln4.out; have := LW.out; omega
                have y6 : ¬ 9223372036854775807 < out.size + n1.size + 1 + wd.size + 1 + n2.size + 1 + n3.size := by have := HLEN.out; have := Ln1.out; have := Ln2.out; have := Ln3.out; have := Ln4.out; have := LW.out; omega
                have y7 : ¬ 9223372036854775807 < out.size + n1.size + 1 + wd.size + 1 + n2.size + 1 + n3.size + 1 := by have := HLEN.out; have := Ln1.out; have := Ln2.out; have := Ln3.out; have := Ln4.out; have := LW.out; omega
                have y8 : ¬ 9223372036854775807 < out.size + n1.size + 1 + wd.size + 1 + n2.size + 1 + n3.size + 1 + n4.size := by have := HLEN.out; have := Ln1.out; have := Ln2.out; have := Ln3.out; have := Ln4.out; have := LW.out; omega
                have y9 : ¬ 9223372036854775807 < out.size + n1.size + 1 + wd.size + 1 + n2.size + 1 + n3.size + 1 + n4.size + 1 := by have := HLEN.out; have := Ln1.out; have := Ln2.out; have := Ln3.out; have := Ln4.out; have := LW.out; omega
                have KS := Lib.hid (show ∀ V : World, V.heap[wr.heap.size]? = some (MO x) ∧ Below w.heap.size w V → V.drew.heap[wr.heap.size]? = some (MO x) ∧ Below w.heap.size w V.drew from fun V h => ⟨h.1, h.2.drew⟩)
                refine wp_region_held_drew (S := (fun V : World => V.heap[wr.heap.size]? = some (MO x) ∧ Below w.heap.size w V)) (by kernel_rfl) ?_ (fun hHeld => ?_)
                · exact KS.out _ ⟨Z0.out, BX.out⟩
                have HHeld := Lib.hid hHeld; clear hHeld
                refine wpAnyH_take (i := 0) (oi := { dst := some 45, op := Op.move (Operand.tmp 4), type := 9, pos := "ref.go:34", after := #[], guard := none }) (v := ?_) rfl (by kernel_rfl) (by kernel_rfl) (by kernel_rfl) (fun _ _ _ h => h) (Or.inl ⟨by rfl, ?_⟩) HHeld.out ?_
                rotate_left
                · intro w hSw; clear hSw; go_simp; try with_reducible rfl
                try simp only [Act.put, List.setIfInBounds_toArray, List.set_cons_zero, List.set_cons_succ]
                refine wpAnyH_take (i := 1) (oi := { dst := some 46, op := Op.fieldAddr 35 (Operand.tmp 6) 0, type := 0, pos := "ref.go:34", after := #[], guard := none }) (v := ?_) rfl (by kernel_rfl) (by kernel_rfl) (by kernel_rfl) (fun _ _ _ h => h) (Or.inl ⟨by rfl, ?_⟩) HHeld.out ?_
                rotate_left
                · intro w hSw; clear hSw; go_simp; try with_reducible rfl
                try simp only [Act.put, List.setIfInBounds_toArray, List.set_cons_zero, List.set_cons_succ]
                refine wpAnyH_take (i := 2) (oi := { dst := some 47, op := Op.load 3 (Operand.tmp 46), type := 3, pos := "ref.go:34", after := #[{ on := 1, ground := Ground.data }], guard := none }) (v := (.int .i64 x.s : Value)) rfl (by kernel_rfl) (by kernel_rfl) (by kernel_rfl) (fun _ _ _ h => h) (Or.inl ⟨by rfl, ?_⟩) HHeld.out ?_
                · intro V hV; have hc0 := (cells5 hV.1).1; clear hV; go_simp
                try simp only [Act.put, List.setIfInBounds_toArray, List.set_cons_zero, List.set_cons_succ]
                refine wpAnyH_take (i := 6) (oi := { dst := some 51, op := Op.fieldAddr 35 (Operand.tmp 6) 1, type := 0, pos := "ref.go:34", after := #[], guard := none }) (v := ?_) rfl (by kernel_rfl) (by kernel_rfl) (by kernel_rfl) (fun _ _ _ h => h) (Or.inl ⟨by rfl, ?_⟩) HHeld.out ?_
                rotate_left
                · intro w hSw; clear hSw; go_simp; try with_reducible rfl
                try simp only [Act.put, List.setIfInBounds_toArray, List.set_cons_zero, List.set_cons_succ]
                refine wpAnyH_take (i := 7) (oi := { dst := some 52, op := Op.load 33 (Operand.tmp 51), type := 33, pos := "ref.go:34", after := #[{ on := 6, ground := Ground.data }], guard := none }) (v := (.int .u8 x.w : Value)) rfl (by kernel_rfl) (by kernel_rfl) (by kernel_rfl) (fun _ _ _ h => h) (Or.inl ⟨by rfl, ?_⟩) HHeld.out ?_
                · intro V hV; have hc0 := (cells5 hV.1).2.1; clear hV; go_simp
                try simp only [Act.put, List.setIfInBounds_toArray, List.set_cons_zero, List.set_cons_succ]
                refine wpAnyH_take (i := 11) (oi := { dst := some 56, op := Op.fieldAddr 35 (Operand.tmp 6) 2, type := 0, pos := "ref.go:34", after := #[], guard := none }) (v := ?_) rfl (by kernel_rfl) (by kernel_rfl) (by kernel_rfl) (fun _ _ _ h => h) (Or.inl ⟨by rfl, ?_⟩) HHeld.out ?_
                rotate_left
                · intro w hSw; clear hSw; go_simp; try with_reducible rfl
                try simp only [Act.put, List.setIfInBounds_toArray, List.set_cons_zero, List.set_cons_succ]
                refine wpAnyH_take (i := 12) (oi := { dst := some 57, op := Op.load 3 (Operand.tmp 56), type := 3, pos := "ref.go:34", after := #[{ on := 11, ground := Ground.data }], guard := none }) (v := (.int .i64 x.n : Value)) rfl (by kernel_rfl) (by kernel_rfl) (by kernel_rfl) (fun _ _ _ h => h) (Or.inl ⟨by rfl, ?_⟩) HHeld.out ?_
                · intro V hV; have hc0 := (cells5 hV.1).2.2.1; clear hV; go_simp
                try simp only [Act.put, List.setIfInBounds_toArray, List.set_cons_zero, List.set_cons_succ]
                refine wpAnyH_take (i := 16) (oi := { dst := some 61, op := Op.fieldAddr 35 (Operand.tmp 6) 3, type := 0, pos := "ref.go:34", after := #[], guard := none }) (v := ?_) rfl (by kernel_rfl) (by kernel_rfl) (by kernel_rfl) (fun _ _ _ h => h) (Or.inl ⟨by rfl, ?_⟩) HHeld.out ?_
                rotate_left
                · intro w hSw; clear hSw; go_simp; try with_reducible rfl
                try simp only [Act.put, List.setIfInBounds_toArray, List.set_cons_zero, List.set_cons_succ]
                refine wpAnyH_take (i := 17) (oi := { dst := some 62, op := Op.load 3 (Operand.tmp 61), type := 3, pos := "ref.go:34", after := #[{ on := 16, ground := Ground.data }], guard := none }) (v := (.int .i64 x.v : Value)) rfl (by kernel_rfl) (by kernel_rfl) (by kernel_rfl) (fun _ _ _ h => h) (Or.inl ⟨by rfl, ?_⟩) HHeld.out ?_
                · intro V hV; have hc0 := (cells5 hV.1).2.2.2.1; clear hV; go_simp
                try simp only [Act.put, List.setIfInBounds_toArray, List.set_cons_zero, List.set_cons_succ]
                refine wpAnyH_take (i := 21) (oi := { dst := some 66, op := Op.fieldAddr 35 (Operand.tmp 6) 4, type := 0, pos := "ref.go:34", after := #[], guard := none }) (v := ?_) rfl (by kernel_rfl) (by kernel_rfl) (by kernel_rfl) (fun _ _ _ h => h) (Or.inl ⟨by rfl, ?_⟩) HHeld.out ?_
                rotate_left
                · intro w hSw; clear hSw; go_simp; try with_reducible rfl
                try simp only [Act.put, List.setIfInBounds_toArray, List.set_cons_zero, List.set_cons_succ]
                refine wpAnyH_take (i := 22) (oi := { dst := some 67, op := Op.load 24 (Operand.tmp 66), type := 24, pos := "ref.go:34", after := #[{ on := 21, ground := Ground.data }], guard := none }) (v := (.int .i64 x.e : Value)) rfl (by kernel_rfl) (by kernel_rfl) (by kernel_rfl) (fun _ _ _ h => h) (Or.inl ⟨by rfl, ?_⟩) HHeld.out ?_
                · intro V hV; have hc0 := (cells5 hV.1).2.2.2.2; clear hV; go_simp
                try simp only [Act.put, List.setIfInBounds_toArray, List.set_cons_zero, List.set_cons_succ]
                refine wpAnyH_ready (rs := [3]) (by kernel_rfl) (by simp) ?_
                refine AllReadyH.cons (o := { dst := some 48, op := Op.call { callee := Callee.value (Operand.func 27), args := #[Operand.tmp 47], argTypes := #[3] }, type := 9, pos := "ref.go:34", after := #[{ on := 2, ground := Ground.data }], guard := none }) rfl (fun K hK => ?_) AllReadyH.nil
                go_simp
                go_at_call 27; ((with_reducible refine (Cn1.out _).mono ?_); rintro e v3 ⟨rfl, bb⟩; have K3 := Lib.hid (show v3.heap[wr.heap.size]? = some (MO x) ∧ Below w.heap.size w v3 from ⟨keep_bel bb HHeld.out.1, bel_trans HHeld.out.2 bb⟩); clear bb)
                refine hK.out _ _ ?_ (fun hHeld => ?_)
                · exact K3.out
                clear HHeld; have HHeld := Lib.hid hHeld; clear hHeld
                clear hK K
                try simp only [Act.put, List.setIfInBounds_toArray, List.set_cons_zero, List.set_cons_succ]
                refine wpAnyH_take (i := 4) (oi := { dst := some 49, op := Op.binOp BinOp.add 9 (Operand.tmp 45) (Operand.tmp 48) 9, type := 9, pos := "ref.go:34", after := #[{ on := 0, ground := Ground.data }, { on := 3, ground := Ground.data }], guard := none }) (v := ?_) rfl (by kernel_rfl) (by kernel_rfl) (by kernel_rfl) (fun _ _ _ h => h) (Or.inl ⟨by rfl, ?_⟩) HHeld.out ?_
                rotate_left
                · intro w hSw; clear hSw; go_simp; try with_reducible rfl
                try simp only [Act.put, List.setIfInBounds_toArray, List.set_cons_zero, List.set_cons_succ]
                refine wpAnyH_take (i := 5) (oi := { dst := some 50, op := Op.binOp BinOp.add 9 (Operand.tmp 49) (Operand.const (Value.string { data := #[32] })) 9, type := 9, pos := "ref.go:34", after := #[{ on := 4, ground := Ground.data }], guard := none }) (v := ?_) rfl (by kernel_rfl) (by kernel_rfl) (by kernel_rfl) (fun _ _ _ h => h) (Or.inl ⟨by rfl, ?_⟩) HHeld.out ?_
                rotate_left
                · intro w hSw; clear hSw; go_simp; try with_reducible rfl
                try simp only [Act.put, List.setIfInBounds_toArray, List.set_cons_zero, List.set_cons_succ]
                refine wpAnyH_ready (rs := [8]) (by kernel_rfl) (by simp) ?_
                refine AllReadyH.cons (o := { dst := some 53, op := Op.call { callee := Callee.value (Operand.func 19), args := #[Operand.tmp 52], argTypes := #[33] }, type := 9, pos := "ref.go:34", after := #[{ on := 7, ground := Ground.data }, { on := 3, ground := Ground.chain }], guard := none }) rfl (fun K hK => ?_) AllReadyH.nil
                go_simp
                go_at_call 19; ((with_reducible refine (WR.out _).mono ?_); rintro e v8 ⟨rfl, bb⟩; have K8 := Lib.hid (show v8.heap[wr.heap.size]? = some (MO x) ∧ Below w.heap.size w v8 from ⟨keep_bel bb HHeld.out.1, bel_trans HHeld.out.2 bb⟩); clear bb)
                refine hK.out _ _ ?_ (fun hHeld => ?_)
                · exact K8.out
                clear HHeld; have HHeld := Lib.hid hHeld; clear hHeld
                clear hK K
                try simp only [Act.put, List.setIfInBounds_toArray, List.set_cons_zero, List.set_cons_succ]
                refine wpAnyH_take (i := 9) (oi := { dst := some 54, op := Op.binOp BinOp.add 9 (Operand.tmp 50) (Operand.tmp 53) 9, type := 9, pos := "ref.go:34", after := #[{ on := 5, ground := Ground.data }, { on := 8, ground := Ground.data }], guard := none }) (v := ?_) rfl (by kernel_rfl) (by kernel_rfl) (by kernel_rfl) (fun _ _ _ h => h) (Or.inl ⟨by rfl, ?_⟩) HHeld.out ?_
                rotate_left
                · intro w hSw; clear hSw; go_simp; try with_reducible rfl
                try simp only [Act.put, List.setIfInBounds_toArray, List.set_cons_zero, List.set_cons_succ]
                refine wpAnyH_take (i := 10) (oi := { dst := some 55, op := Op.binOp BinOp.add 9 (Operand.tmp 54) (Operand.const (Value.string { data := #[32] })) 9, type := 9, pos := "ref.go:34", after := #[{ on := 9, ground := Ground.data }], guard := none }) (v := ?_) rfl (by kernel_rfl) (by kernel_rfl) (by kernel_rfl) (fun _ _ _ h => h) (Or.inl ⟨by rfl, ?_⟩) HHeld.out ?_
                rotate_left
                · intro w hSw; clear hSw; go_simp; try with_reducible rfl
                try simp only [Act.put, List.setIfInBounds_toArray, List.set_cons_zero, List.set_cons_succ]
                refine wpAnyH_ready (rs := [13]) (by kernel_rfl) (by simp) ?_
                refine AllReadyH.cons (o := { dst := some 58, op := Op.call { callee := Callee.value (Operand.func 27), args := #[Operand.tmp 57], argTypes := #[3] }, type := 9, pos := "ref.go:34", after := #[{ on := 12, ground := Ground.data }, { on := 8, ground := Ground.chain }], guard := none }) rfl (fun K hK => ?_) AllReadyH.nil
                go_simp
                go_at_call 27; ((with_reducible refine (Cn2.out _).mono ?_); rintro e v13 ⟨rfl, bb⟩; have K13 := Lib.hid (show v13.heap[wr.heap.size]? = some (MO x) ∧ Below w.heap.size w v13 from ⟨keep_bel bb HHeld.out.1, bel_trans HHeld.out.2 bb⟩); clear bb)
                refine hK.out _ _ ?_ (fun hHeld => ?_)
                · exact K13.out
                clear HHeld; have HHeld := Lib.hid hHeld; clear hHeld
                clear hK K
                try simp only [Act.put, List.setIfInBounds_toArray, List.set_cons_zero, List.set_cons_succ]
                refine wpAnyH_take (i := 14) (oi := { dst := some 59, op := Op.binOp BinOp.add 9 (Operand.tmp 55) (Operand.tmp 58) 9, type := 9, pos := "ref.go:34", after := #[{ on := 10, ground := Ground.data }, { on := 13, ground := Ground.data }], guard := none }) (v := ?_) rfl (by kernel_rfl) (by kernel_rfl) (by kernel_rfl) (fun _ _ _ h => h) (Or.inl ⟨by rfl, ?_⟩) HHeld.out ?_
                rotate_left
                · intro w hSw; clear hSw; go_simp; try with_reducible rfl
                try simp only [Act.put, List.setIfInBounds_toArray, List.set_cons_zero, List.set_cons_succ]
                refine wpAnyH_take (i := 15) (oi := { dst := some 60, op := Op.binOp BinOp.add 9 (Operand.tmp 59) (Operand.const (Value.string { data := #[32] })) 9, type := 9, pos := "ref.go:34", after := #[{ on := 14, ground := Ground.data }], guard := none }) (v := ?_) rfl (by kernel_rfl) (by kernel_rfl) (by kernel_rfl) (fun _ _ _ h => h) (Or.inl ⟨by rfl, ?_⟩) HHeld.out ?_
                rotate_left
                · intro w hSw; clear hSw; go_simp; try with_reducible rfl
                try simp only [Act.put, List.setIfInBounds_toArray, List.set_cons_zero, List.set_cons_succ]
                refine wpAnyH_ready (rs := [18]) (by kernel_rfl) (by simp) ?_
                refine AllReadyH.cons (o := { dst := some 63, op := Op.call { callee := Callee.value (Operand.func 27), args := #[Operand.tmp 62], argTypes := #[3] }, type := 9, pos := "ref.go:34", after := #[{ on := 17, ground := Ground.data }, { on := 13, ground := Ground.chain }], guard := none }) rfl (fun K hK => ?_) AllReadyH.nil
                go_simp
                go_at_call 27; ((with_reducible refine (Cn3.out _).mono ?_); rintro e v18 ⟨rfl, bb⟩; have K18 := Lib.hid (show v18.heap[wr.heap.size]? = some (MO x) ∧ Below w.heap.size w v18 from ⟨keep_bel bb HHeld.out.1, bel_trans HHeld.out.2 bb⟩); clear bb)
                refine hK.out _ _ ?_ (fun hHeld => ?_)
                · exact K18.out
                clear HHeld; have HHeld := Lib.hid hHeld; clear hHeld
                clear hK K
                try simp only [Act.put, List.setIfInBounds_toArray, List.set_cons_zero, List.set_cons_succ]
                refine wpAnyH_take (i := 19) (oi := { dst := some 64, op := Op.binOp BinOp.add 9 (Operand.tmp 60) (Operand.tmp 63) 9, type := 9, pos := "ref.go:34", after := #[{ on := 15, ground := Ground.data }, { on := 18, ground := Ground.data }], guard := none }) (v := ?_) rfl (by kernel_rfl) (by kernel_rfl) (by kernel_rfl) (fun _ _ _ h => h) (Or.inl ⟨by rfl, ?_⟩) HHeld.out ?_
                rotate_left
                · intro w hSw; clear hSw; go_simp; try with_reducible rfl
                try simp only [Act.put, List.setIfInBounds_toArray, List.set_cons_zero, List.set_cons_succ]
                refine wpAnyH_take (i := 20) (oi := { dst := some 65, op := Op.binOp BinOp.add 9 (Operand.tmp 64) (Operand.const (Value.string { data := #[32] })) 9, type := 9, pos := "ref.go:34", after := #[{ on := 19, ground := Ground.data }], guard := none }) (v := ?_) rfl (by kernel_rfl) (by kernel_rfl) (by kernel_rfl) (fun _ _ _ h => h) (Or.inl ⟨by rfl, ?_⟩) HHeld.out ?_
                rotate_left
                · intro w hSw; clear hSw; go_simp; try with_reducible rfl
                try simp only [Act.put, List.setIfInBounds_toArray, List.set_cons_zero, List.set_cons_succ]
                refine wpAnyH_ready (rs := [23]) (by kernel_rfl) (by simp) ?_
                refine AllReadyH.cons (o := { dst := some 68, op := Op.call { callee := Callee.value (Operand.func 27), args := #[Operand.tmp 67], argTypes := #[3] }, type := 9, pos := "ref.go:34", after := #[{ on := 22, ground := Ground.data }, { on := 18, ground := Ground.chain }], guard := none }) rfl (fun K hK => ?_) AllReadyH.nil
                go_simp
                go_at_call 27; ((with_reducible refine (Cn4.out _).mono ?_); rintro e v23 ⟨rfl, bb⟩; have K23 := Lib.hid (show v23.heap[wr.heap.size]? = some (MO x) ∧ Below w.heap.size w v23 from ⟨keep_bel bb HHeld.out.1, bel_trans HHeld.out.2 bb⟩); clear bb)
                refine hK.out _ _ ?_ (fun hHeld => ?_)
                · exact K23.out
                clear HHeld; have HHeld := Lib.hid hHeld; clear hHeld
                clear hK K
                try simp only [Act.put, List.setIfInBounds_toArray, List.set_cons_zero, List.set_cons_succ]
                refine wpAnyH_take (i := 24) (oi := { dst := some 69, op := Op.binOp BinOp.add 9 (Operand.tmp 65) (Operand.tmp 68) 9, type := 9, pos := "ref.go:34", after := #[{ on := 20, ground := Ground.data }, { on := 23, ground := Ground.data }], guard := none }) (v := ?_) rfl (by kernel_rfl) (by kernel_rfl) (by kernel_rfl) (fun _ _ _ h => h) (Or.inl ⟨by rfl, ?_⟩) HHeld.out ?_
                rotate_left
                · intro w hSw; clear hSw; go_simp; try with_reducible rfl
                try simp only [Act.put, List.setIfInBounds_toArray, List.set_cons_zero, List.set_cons_succ]
                refine wpAnyH_take (i := 25) (oi := { dst := some 70, op := Op.binOp BinOp.add 9 (Operand.tmp 69) (Operand.const (Value.string { data := #[10] })) 9, type := 9, pos := "ref.go:34", after := #[{ on := 24, ground := Ground.data }], guard := none }) (v := ?_) rfl (by kernel_rfl) (by kernel_rfl) (by kernel_rfl) (fun _ _ _ h => h) (Or.inl ⟨by rfl, ?_⟩) HHeld.out ?_
                rotate_left
                · intro w hSw; clear hSw; go_simp; try with_reducible rfl
                try simp only [Act.put, List.setIfInBounds_toArray, List.set_cons_zero, List.set_cons_succ]
                refine wpAnyH_take (i := 26) (oi := { dst := some 4, op := Op.assign (Operand.tmp 70), type := 9, pos := "ref.go:34", after := #[{ on := 25, ground := Ground.data }, { on := 23, ground := Ground.chain }, { on := 0, ground := Ground.phase }, { on := 1, ground := Ground.phase }, { on := 2, ground := Ground.phase }, { on := 3, ground := Ground.phase }, { on := 4, ground := Ground.phase }, { on := 5, ground := Ground.phase }, { on := 6, ground := Ground.phase }, { on := 7, ground := Ground.phase }, { on := 8, ground := Ground.phase }, { on := 9, ground := Ground.phase }, { on := 10, ground := Ground.phase }, { on := 11, ground := Ground.phase }, { on := 12, ground := Ground.phase }, { on := 13, ground := Ground.phase }, { on := 14, ground := Ground.phase }, { on := 15, ground := Ground.phase }, { on := 16, ground := Ground.phase }, { on := 17, ground := Ground.phase }, { on := 18, ground := Ground.phase }, { on := 19, ground := Ground.phase }, { on := 20, ground := Ground.phase }, { on := 21, ground := Ground.phase }, { on := 22, ground := Ground.phase }, { on := 23, ground := Ground.phase }, { on := 24, ground := Ground.phase }, { on := 25, ground := Ground.phase }], guard := none }) (v := ?_) rfl (by kernel_rfl) (by kernel_rfl) (by kernel_rfl) (fun _ _ _ h => h) (Or.inl ⟨by rfl, ?_⟩) HHeld.out ?_
                rotate_left
                · intro w hSw; clear hSw; go_simp; try with_reducible rfl
                try simp only [Act.put, List.setIfInBounds_toArray, List.set_cons_zero, List.set_cons_succ]
                refine wpAnyH_done (by kernel_rfl) ?_ _
                have BF := Lib.hid HHeld.out.2
                clear HHeld
                go_wp2
                refine ⟨⟨k + 1, _, by omega, by simp, rfl, Lib.hid ?_, Lib.hid (fun y hy => (by rw [List.take_add_one, HX.out] at hy; rcases List.mem_append.1 hy with hy | hy; exact HTD.out y hy; simp at hy; rw [hy]; exact HTO.out)), BF.out⟩, by simp [intOf]; omega⟩
                rw [text_next HX.out, ← HT.out, ← En1.out, ← En2.out, ← En3.out, ← En4.out, ← HWD.out]
                unfold lineL
                rw [body_is]
                simp [ByteArray.data_append, numS]
    · have hkn : k = n := by omega
      subst hkn
      have hk1 : ¬ (k : Int) < (k : Int) := by omega
      have HTK : Hid (xs.take k = xs) := Lib.hid (by rw [← HL.out, List.take_length])
      rw [HTK.out] at HT HTD
      have HF := Lib.hid (printF_yes HTD.out)
      have HO2 : Hid (out = ⟨(textL xs).toArray⟩) := Lib.hid (Go.WideShapes.bytes_inj (by rw [HT.out]))
      go_wp2
      refine bodyPost_ret (v := .tuple #[.string out, .int .i64 0]) (by simp [results, Tryd.results8, go_sem]) rfl ⟨by rw [HF.out, HO2.out], HB.out⟩
end Go.Proofs.YtocbabckihcdmaaDoor
