/- The document's least, middle and greatest. -/
import Derived.Test.YtniffjjkjgfacaaV6
namespace Go.Proofs.Ytniffjjkjgfacaa
set_option linter.unusedSimpArgs false
open Go.RowKit Go.Maps Go.Shelf
set_option linter.unusedVariables false
theorem rd_drop {w : World} {A : Option Addr} {s : List Int} (h : EI.Rd w A s) (k : Nat) : ∀ b off, A = some ⟨b, off, none⟩ → EI.Rd w (some ⟨b, off + k, none⟩) (s.drop k) := by
  rintro b off rfl
  have := RE.Rd.drop h k
  simpa [EI] using this
/-- How the loop goes on behind k numbers. -/
def SpR (w : World) (xs : List Int) (sv iv : Value) (W : World) : Prop :=
  ∃ (i : Nat) (A : Option Addr) (s : List Int) (c : Nat), i ≤ xs.length ∧ iv = .int .i64 i ∧ s.length = i ∧ sv = .slice A i c ∧ EI.Row W w.heap.size A s c ∧ Up s ∧ s.Perm (xs.take i) ∧ Below w.heap.size w W
theorem row_some {w : World} {base c : Nat} {A : Option Addr} {l : List Int} (h : EI.Row w base A l c) (hc : 0 < c) : ∃ g, A = some ⟨g, 0, none⟩ := by
  rcases h with ⟨rfl, h⟩ | ⟨h0, hl2, h⟩
  · omega
  · rcases h with ⟨h1, h2⟩ | ⟨g, cap, cur, e, _⟩
    · injection h1 with _ _ e3
      omega
    · injection e with e1
      exact ⟨g, e1⟩
set_option maxRecDepth 100000 in
set_option maxHeartbeats 4000000 in
theorem ref10 (A0 : Option Addr) (n c0 : Nat) (xs : List Int) (w : World) (hl : xs.length = n) (hn : n ≤ 1000) (hA : EI.Rd w A0 xs) :
    Calls Try.prog 10 #[.slice A0 n c0] w fun e w' => e = .returned (.tuple #[.int .i64 (spA xs), .int .i64 (spB xs), .int .i64 (spC xs)]) ∧ Below w.heap.size w w' := by
  have HX : Hid (∀ V, Below w.heap.size w V → EI.Rd V A0 xs) := Lib.hid (fun V hV => hA.later hV)
  have HL := Lib.hid hl
  clear hA hl
  go_enter Try.func10, Try.ntmps10
  go_wp2
  go_loopw [5, 6] (fun sv iv wr => SpR w xs sv iv wr) (fun _ i _ => n - (intOf i).toNat)
  case atStart => exact ⟨0, some ⟨w.heap.size, 0, none⟩, [], 0, by omega, rfl, rfl, rfl, .inl ⟨rfl, rfl⟩, .nil, by simp, alb w _⟩
  case round =>
    obtain ⟨i, A, s, c, hi, rfl, hs, rfl, hr, hup, hpm, hb⟩ := hrel
    rw [HL.out] at hi
    by_cases h8 : i < n
    · have hk1 : (i : Int) < (n : Int) := by omega
      have hi0 : (0 : Int) ≤ (i : Int) := by omega
      obtain ⟨x, hx⟩ : ∃ x, xs[i]? = some x := ⟨_, List.getElem?_eq_getElem (by rw [HL.out]; omega)⟩
      have HUP := Lib.hid hup
      have HPM := Lib.hid hpm
      have HRW := Lib.hid hr
      have HBW := Lib.hid hb
      have HS := Lib.hid hs
      have HXX := Lib.hid hx
      clear hs hr hup hpm hb hx
      go_wp2
      go_loopw [7] (fun kv W => ∃ k : Nat, k ≤ i ∧ kv = .int .i64 k ∧ At s x k ∧ EI.Row W w.heap.size A s c ∧ Below w.heap.size w W) (fun k _ => (intOf k).toNat)
      case atStart => exact ⟨i, Nat.le_refl _, rfl, by rw [← HS.out]; exact At.start s x, HRW.out, HBW.out⟩
      case round =>
        clear HRW HBW
        rename World => W
        obtain ⟨k, hk, rfl, hat, hr, hb⟩ := hrel
        have HAT := Lib.hid hat
        have HRW := Lib.hid hr
        have HBW := Lib.hid hb
        clear hat hr hb
        obtain ⟨bx, offx, rfl, hbx, gx⟩ := ei_at (HX.out W HBW.out) HXX.out
        by_cases hk0 : k = 0
        · have hk3 : decide (0 < k) = false := by simp; omega
          have HK0 := Lib.hid hk0
          clear hk0
          go_wp2_with fail
          go_quiet (fail)
          have HST : Hid (Stop s x k) := Lib.hid (.inl HK0.out)
          have hkc : k ≤ c := by have := HRW.out.cap.1; have := HS.out; omega
          have hic : i ≤ c := by have := HRW.out.cap.1; have := HS.out; omega
          have htk : (s.take k).length = k := by rw [List.length_take]; have := HS.out; omega
          have HTK := Lib.hid htk
          have HTK1 : Hid ((s.take k ++ [x]).length = k + 1) := Lib.hid (by rw [List.length_append, htk]; rfl)
          have HDR : Hid ((s.drop k).length = i - k) := Lib.hid (by rw [List.length_drop, HS.out])
          have HSV : Hid (∀ V, Below W.heap.size W V → EI.Rd V A s) := Lib.hid (fun V hV => HRW.out.rd.later hV)
          have HGX : Hid (∀ V, Below W.heap.size W V → V.cell? ⟨bx, offx + i, none⟩ = some (.int .i64 x)) := Lib.hid (fun V hV => (hV.cell (p := ⟨bx, offx + i, none⟩) hbx).trans gx)
          have HWB : Hid (∀ V, Below W.heap.size W V → Below w.heap.size w V) := Lib.hid (fun V hV => bel_trans HBW.out hV)
          have HNX : Hid ((insd s x k).length = i + 1 ∧ Up (insd s x k) ∧ (insd s x k).Perm (xs.take (i + 1))) := Lib.hid (by
            have hp := insd_perm s x k
            refine ⟨by rw [hp.length_eq, List.length_append, HS.out]; rfl, insd_up HUP.out HAT.out HST.out, hp.trans ?_⟩
            rw [List.take_add_one, HXX.out]
            exact HPM.out.append_right [x])
          have hk9 : k ≤ 1000000 := by omega
          clear htk gx
          rcases Nat.lt_or_ge k c with hck | hck
          · have hck2 : ¬ c = k := by omega
            obtain ⟨g, rfl⟩ := row_some HRW.out (by omega)
            go_wp2_with (first
              | (at_builtin; refine RE.wpList_put EI _ rfl (.tmp 34) (.tmp 37) rfl (base := W.heap.size) (some ⟨W.heap.size, 0, none⟩) 0 0 [] (some ⟨g, 0, none⟩) k c (s.take k) rfl rfl (.inl ⟨rfl, rfl⟩) rfl (by omega) (by simp) HTK.out hk9 ((HSV.out _ (bel_alloc (bel_drewN (Below.refl _ _) _) _)).take k) ?_; intro A1 c1 w1 r1 r2 r3; have R1 : Hid (EI.Row w1 W.heap.size A1 (s.take k) c1) := Lib.hid r1; have B1 : Hid (Below W.heap.size W w1) := Lib.hid ((bel_alloc (bel_drewN (Below.refl W.heap.size W) _) _).trans (RE.Row.below (E := EI) (W := W) (base := W.heap.size) (l := []) r2 (.inl ⟨rfl, rfl⟩) (Nat.le_refl _) (by simp))); have gx := HGX.out w1 B1.out; have RL := Lib.hid (RE.Rd.lit (E := EI) w1 3 [x] #[.int .i64 x] rfl); have R1A := Lib.hid (r1.later (alb w1 (.cells #[.int .i64 x] 3))); have hz1 := B1.out.size; clear r1 r2 r3)
              | (at_builtin; refine RE.wpList_put EI _ rfl (.tmp 39) (.tmp 44) rfl (base := W.heap.size) A1 k c1 (s.take k) (some ⟨w1.heap.size, 0, none⟩) 1 1 [x] rfl rfl R1A.out HTK.out hk9 (by simp; omega) rfl (by omega) RL.out ?_; intro A2 c2 w2 r1 r2 r3; have R2 : Hid (EI.Row w2 W.heap.size A2 (s.take k ++ [x]) c2) := Lib.hid r1; have B2 : Hid (Below W.heap.size W w2) := Lib.hid ((B1.out.trans ((alb w1 (.cells #[.int .i64 x] 3)).mono hz1)).trans (RE.Row.below r2 R1A.out (Nat.le_refl _) (by simp; omega))); have hz2 := B2.out.size; clear r1 r2 r3 gx)
              | (at_builtin; refine RE.wpList_put EI _ rfl (.tmp 46) (.tmp 49) rfl (base := W.heap.size) A2 (k + 1) c2 (s.take k ++ [x]) _ (i - k) _ (s.drop k) rfl rfl R2.out HTK1.out (by omega) hz2 HDR.out (by omega) (by simpa using rd_drop (HSV.out _ B2.out) k _ _ rfl) ?_; intro A3 c3 w3 r1 r2 r3; have R3 : Hid (EI.Row w3 W.heap.size A3 (insd s x k) c3) := Lib.hid r1; have B3 : Hid (Below W.heap.size W w3) := Lib.hid (B2.out.trans (RE.Row.below r2 R2.out (Nat.le_refl _) hz2)); clear r1 r2 r3)
              | fail)
            exact ⟨⟨i + 1, A3, insd s x k, c3, by have := HL.out; omega, by simp, HNX.out.1, by rw [show k + 1 + (i - k) = i + 1 by omega], R3.out.base HBW.out.size, HNX.out.2.1, HNX.out.2.2, HWB.out _ B3.out⟩, by simp [intOf]; omega⟩
          · have hck2 : k = c := by omega
            have HDN : Hid (s.drop k = []) := Lib.hid (List.drop_eq_nil_of_le (by rw [HS.out]; omega))
            clear hic
            subst hck2
            go_wp2_with (first
              | (at_builtin; refine RE.wpList_put EI _ rfl (.tmp 34) (.tmp 37) rfl (base := W.heap.size) (some ⟨W.heap.size, 0, none⟩) 0 0 [] A k k (s.take k) rfl rfl (.inl ⟨rfl, rfl⟩) rfl (by omega) (by simp) HTK.out hk9 ((HSV.out _ (bel_alloc (bel_drewN (Below.refl _ _) _) _)).take k) ?_; intro A1 c1 w1 r1 r2 r3; have R1 : Hid (EI.Row w1 W.heap.size A1 (s.take k) c1) := Lib.hid r1; have B1 : Hid (Below W.heap.size W w1) := Lib.hid ((bel_alloc (bel_drewN (Below.refl W.heap.size W) _) _).trans (RE.Row.below (E := EI) (W := W) (base := W.heap.size) (l := []) r2 (.inl ⟨rfl, rfl⟩) (Nat.le_refl _) (by simp))); have gx := HGX.out w1 B1.out; have RL := Lib.hid (RE.Rd.lit (E := EI) w1 3 [x] #[.int .i64 x] rfl); have R1A := Lib.hid (r1.later (alb w1 (.cells #[.int .i64 x] 3))); have hz1 := B1.out.size; clear r1 r2 r3)
              | (at_builtin; refine RE.wpList_put EI _ rfl (.tmp 39) (.tmp 44) rfl (base := W.heap.size) A1 k c1 (s.take k) (some ⟨w1.heap.size, 0, none⟩) 1 1 [x] rfl rfl R1A.out HTK.out hk9 (by simp; omega) rfl (by omega) RL.out ?_; intro A2 c2 w2 r1 r2 r3; have R2 : Hid (EI.Row w2 W.heap.size A2 (s.take k ++ [x]) c2) := Lib.hid r1; have B2 : Hid (Below W.heap.size W w2) := Lib.hid ((B1.out.trans ((alb w1 (.cells #[.int .i64 x] 3)).mono hz1)).trans (RE.Row.below r2 R1A.out (Nat.le_refl _) (by simp; omega))); have hz2 := B2.out.size; clear r1 r2 r3 gx)
              | (at_builtin; refine RE.wpList_put EI _ rfl (.tmp 46) (.tmp 49) rfl (base := W.heap.size) A2 (k + 1) c2 (s.take k ++ [x]) _ (i - k) _ (s.drop k) rfl rfl R2.out HTK1.out (by omega) hz2 HDR.out (by omega) (by rw [HDN.out]; exact .inl rfl) ?_; intro A3 c3 w3 r1 r2 r3; have R3 : Hid (EI.Row w3 W.heap.size A3 (insd s x k) c3) := Lib.hid r1; have B3 : Hid (Below W.heap.size W w3) := Lib.hid (B2.out.trans (RE.Row.below r2 R2.out (Nat.le_refl _) hz2)); clear r1 r2 r3)
              | fail)
            exact ⟨⟨i + 1, A3, insd s x k, c3, by have := HL.out; omega, by simp, HNX.out.1, by rw [show k + 1 + (i - k) = i + 1 by omega], R3.out.base HBW.out.size, HNX.out.2.1, HNX.out.2.2, HWB.out _ B3.out⟩, by simp [intOf]; omega⟩
        · obtain ⟨p, hp⟩ : ∃ p, k = p + 1 := ⟨k - 1, by omega⟩
          have hk2 : 0 < k := by omega
          have hk3 : decide (0 < k) = true := by simpa using hk2
          have e1 : (k : Int) - 1 = (p : Int) := by omega
          have e2 : IntKind.i64.wrap (p : Int) = (p : Int) := IntWalk.i64_in _ (by omega)
          have e3 : (0 : Int) ≤ (p : Int) := by omega
          have e4 : (p : Int) < (i : Int) := by omega
          obtain ⟨v, hv⟩ : ∃ v, s[p]? = some v := ⟨_, List.getElem?_eq_getElem (by rw [HS.out]; omega)⟩
          obtain ⟨bs, offs, rfl, _, gs⟩ := ei_at HRW.out.rd hv
          have HP := Lib.hid hp
          have HV := Lib.hid hv
          clear hp hv
          by_cases hxv : x < v
          · go_wp2_with fail
            go_quiet (fail)
            go_wp2
            exact ⟨⟨p, by omega, rfl, HAT.out.step HP.out HV.out hxv, HRW.out.later (bel_drewN (Below.refl _ _) _), bel_drewN HBW.out _⟩, by simp [intOf]; omega⟩
          · have e5 : decide (x < v) = false := by simpa using hxv
            go_wp2_with fail
            go_quiet (fail)
            have HST : Hid (Stop s x k) := Lib.hid (.inr ⟨p, v, HP.out, HV.out, by omega⟩)
            have hkc : k ≤ c := by have := HRW.out.cap.1; have := HS.out; omega
            have hic : i ≤ c := by have := HRW.out.cap.1; have := HS.out; omega
            have htk : (s.take k).length = k := by rw [List.length_take]; have := HS.out; omega
            have HTK := Lib.hid htk
            have HTK1 : Hid ((s.take k ++ [x]).length = k + 1) := Lib.hid (by rw [List.length_append, htk]; rfl)
            have HDR : Hid ((s.drop k).length = i - k) := Lib.hid (by rw [List.length_drop, HS.out])
            have HSV : Hid (∀ V, Below W.heap.size W V → EI.Rd V (some ⟨bs, offs, none⟩) s) := Lib.hid (fun V hV => HRW.out.rd.later hV)
            have HGX : Hid (∀ V, Below W.heap.size W V → V.cell? ⟨bx, offx + i, none⟩ = some (.int .i64 x)) := Lib.hid (fun V hV => (hV.cell (p := ⟨bx, offx + i, none⟩) hbx).trans gx)
            have HWB : Hid (∀ V, Below W.heap.size W V → Below w.heap.size w V) := Lib.hid (fun V hV => bel_trans HBW.out hV)
            have HNX : Hid ((insd s x k).length = i + 1 ∧ Up (insd s x k) ∧ (insd s x k).Perm (xs.take (i + 1))) := Lib.hid (by
              have hp := insd_perm s x k
              refine ⟨by rw [hp.length_eq, List.length_append, HS.out]; rfl, insd_up HUP.out HAT.out HST.out, hp.trans ?_⟩
              rw [List.take_add_one, HXX.out]
              exact HPM.out.append_right [x])
            have hk9 : k ≤ 1000000 := by omega
            clear htk gx
            rcases Nat.lt_or_ge k c with hck | hck
            · have hck2 : ¬ c = k := by omega
              go_wp2_with (first
                | (at_builtin; refine RE.wpList_put EI _ rfl (.tmp 34) (.tmp 37) rfl (base := W.heap.size) (some ⟨W.heap.size, 0, none⟩) 0 0 [] (some ⟨bs, offs, none⟩) k c (s.take k) rfl rfl (.inl ⟨rfl, rfl⟩) rfl (by omega) (by simp) HTK.out hk9 ((HSV.out _ (bel_alloc (bel_drewN (Below.refl _ _) _) _)).take k) ?_; intro A1 c1 w1 r1 r2 r3; have R1 : Hid (EI.Row w1 W.heap.size A1 (s.take k) c1) := Lib.hid r1; have B1 : Hid (Below W.heap.size W w1) := Lib.hid ((bel_alloc (bel_drewN (Below.refl W.heap.size W) _) _).trans (RE.Row.below (E := EI) (W := W) (base := W.heap.size) (l := []) r2 (.inl ⟨rfl, rfl⟩) (Nat.le_refl _) (by simp))); have gx := HGX.out w1 B1.out; have RL := Lib.hid (RE.Rd.lit (E := EI) w1 3 [x] #[.int .i64 x] rfl); have R1A := Lib.hid (r1.later (alb w1 (.cells #[.int .i64 x] 3))); have hz1 := B1.out.size; clear r1 r2 r3)
                | (at_builtin; refine RE.wpList_put EI _ rfl (.tmp 39) (.tmp 44) rfl (base := W.heap.size) A1 k c1 (s.take k) (some ⟨w1.heap.size, 0, none⟩) 1 1 [x] rfl rfl R1A.out HTK.out hk9 (by simp; omega) rfl (by omega) RL.out ?_; intro A2 c2 w2 r1 r2 r3; have R2 : Hid (EI.Row w2 W.heap.size A2 (s.take k ++ [x]) c2) := Lib.hid r1; have B2 : Hid (Below W.heap.size W w2) := Lib.hid ((B1.out.trans ((alb w1 (.cells #[.int .i64 x] 3)).mono hz1)).trans (RE.Row.below r2 R1A.out (Nat.le_refl _) (by simp; omega))); have hz2 := B2.out.size; clear r1 r2 r3 gx)
                | (at_builtin; refine RE.wpList_put EI _ rfl (.tmp 46) (.tmp 49) rfl (base := W.heap.size) A2 (k + 1) c2 (s.take k ++ [x]) _ (i - k) _ (s.drop k) rfl rfl R2.out HTK1.out (by omega) hz2 HDR.out (by omega) (by simpa using rd_drop (HSV.out _ B2.out) k _ _ rfl) ?_; intro A3 c3 w3 r1 r2 r3; have R3 : Hid (EI.Row w3 W.heap.size A3 (insd s x k) c3) := Lib.hid r1; have B3 : Hid (Below W.heap.size W w3) := Lib.hid (B2.out.trans (RE.Row.below r2 R2.out (Nat.le_refl _) hz2)); clear r1 r2 r3)
                | fail)
              exact ⟨⟨i + 1, A3, insd s x k, c3, by have := HL.out; omega, by simp, HNX.out.1, by rw [show k + 1 + (i - k) = i + 1 by omega], R3.out.base HBW.out.size, HNX.out.2.1, HNX.out.2.2, HWB.out _ B3.out⟩, by simp [intOf]; omega⟩
            · have hck2 : k = c := by omega
              have HDN : Hid (s.drop k = []) := Lib.hid (List.drop_eq_nil_of_le (by rw [HS.out]; omega))
              clear hic
              subst hck2
              go_wp2_with (first
                | (at_builtin; refine RE.wpList_put EI _ rfl (.tmp 34) (.tmp 37) rfl (base := W.heap.size) (some ⟨W.heap.size, 0, none⟩) 0 0 [] (some ⟨bs, offs, none⟩) k k (s.take k) rfl rfl (.inl ⟨rfl, rfl⟩) rfl (by omega) (by simp) HTK.out hk9 ((HSV.out _ (bel_alloc (bel_drewN (Below.refl _ _) _) _)).take k) ?_; intro A1 c1 w1 r1 r2 r3; have R1 : Hid (EI.Row w1 W.heap.size A1 (s.take k) c1) := Lib.hid r1; have B1 : Hid (Below W.heap.size W w1) := Lib.hid ((bel_alloc (bel_drewN (Below.refl W.heap.size W) _) _).trans (RE.Row.below (E := EI) (W := W) (base := W.heap.size) (l := []) r2 (.inl ⟨rfl, rfl⟩) (Nat.le_refl _) (by simp))); have gx := HGX.out w1 B1.out; have RL := Lib.hid (RE.Rd.lit (E := EI) w1 3 [x] #[.int .i64 x] rfl); have R1A := Lib.hid (r1.later (alb w1 (.cells #[.int .i64 x] 3))); have hz1 := B1.out.size; clear r1 r2 r3)
                | (at_builtin; refine RE.wpList_put EI _ rfl (.tmp 39) (.tmp 44) rfl (base := W.heap.size) A1 k c1 (s.take k) (some ⟨w1.heap.size, 0, none⟩) 1 1 [x] rfl rfl R1A.out HTK.out hk9 (by simp; omega) rfl (by omega) RL.out ?_; intro A2 c2 w2 r1 r2 r3; have R2 : Hid (EI.Row w2 W.heap.size A2 (s.take k ++ [x]) c2) := Lib.hid r1; have B2 : Hid (Below W.heap.size W w2) := Lib.hid ((B1.out.trans ((alb w1 (.cells #[.int .i64 x] 3)).mono hz1)).trans (RE.Row.below r2 R1A.out (Nat.le_refl _) (by simp; omega))); have hz2 := B2.out.size; clear r1 r2 r3 gx)
                | (at_builtin; refine RE.wpList_put EI _ rfl (.tmp 46) (.tmp 49) rfl (base := W.heap.size) A2 (k + 1) c2 (s.take k ++ [x]) _ (i - k) _ (s.drop k) rfl rfl R2.out HTK1.out (by omega) hz2 HDR.out (by omega) (by rw [HDN.out]; exact .inl rfl) ?_; intro A3 c3 w3 r1 r2 r3; have R3 : Hid (EI.Row w3 W.heap.size A3 (insd s x k) c3) := Lib.hid r1; have B3 : Hid (Below W.heap.size W w3) := Lib.hid (B2.out.trans (RE.Row.below r2 R2.out (Nat.le_refl _) hz2)); clear r1 r2 r3)
                | fail)
              exact ⟨⟨i + 1, A3, insd s x k, c3, by have := HL.out; omega, by simp, HNX.out.1, by rw [show k + 1 + (i - k) = i + 1 by omega], R3.out.base HBW.out.size, HNX.out.2.1, HNX.out.2.2, HWB.out _ B3.out⟩, by simp [intOf]; omega⟩
    · have hk1 : ¬ (i : Int) < (n : Int) := by omega
      have hin : i = n := by omega
      subst hin
      rw [List.take_of_length_le (by rw [HL.out]; omega)] at hpm
      have hs2 := srt_of hup hpm
      subst hs2
      have hl := HL.out
      by_cases h0 : 0 < i
      · have g1 := srt_at xs (i := 0) (by omega)
        have g2 := srt_at xs (i := i / 2) (by omega)
        have g3 := srt_at xs (i := i - 1) (by omega)
        have hS : spA xs = (srt xs).getD 0 0 ∧ spB xs = (srt xs).getD (i / 2) 0 ∧ spC xs = (srt xs).getD (i - 1) 0 := by rw [← hl]; exact ⟨rfl, rfl, rfl⟩
        have RDX : ∃ b off, A = some ⟨b, off, none⟩ ∧ wr.cell? ⟨b, off, none⟩ = some (.int .i64 (spA xs)) ∧ wr.cell? ⟨b, off + i / 2, none⟩ = some (.int .i64 (spB xs)) ∧ wr.cell? ⟨b, off + (i - 1), none⟩ = some (.int .i64 (spC xs)) := by
          obtain ⟨b, off, rfl, _, c1⟩ := ei_at hr.rd g1
          obtain ⟨b2, off2, e2, _, c2⟩ := ei_at hr.rd g2
          cases e2
          obtain ⟨b3, off3, e3, _, c3⟩ := ei_at hr.rd g3
          cases e3
          rw [hS.1, hS.2.1, hS.2.2]
          exact ⟨b, off, rfl, by simpa using c1, c2, c3⟩
        obtain ⟨m, hm⟩ : ∃ m, m = i / 2 := ⟨_, rfl⟩
        obtain ⟨q, hq⟩ : ∃ q, q = i - 1 := ⟨_, rfl⟩
        rw [← hm, ← hq] at RDX
        obtain ⟨b, off, rfl, c1, c2, c3⟩ := RDX
        have a0 : ¬ i = 0 := by omega
        have m1 : (i : Int) / 2 = (m : Int) := by omega
        have m2 : (i : Int).tdiv 2 = (m : Int) := by rw [Int.tdiv_eq_ediv_of_nonneg (by omega)]; exact m1
        have q1 : (i : Int) - 1 = (q : Int) := by omega
        have m3 : (m : Int) < (i : Int) := by omega
        have q3 : (q : Int) < (i : Int) := by omega
        have n3 : (0 : Int) < (i : Int) := by omega
        have m4 : (0 : Int) ≤ (m : Int) := by omega
        have q4 : (0 : Int) ≤ (q : Int) := by omega
        have m5 : IntKind.i64.wrap (m : Int) = (m : Int) := IntWalk.i64_in _ (by omega)
        have q5 : IntKind.i64.wrap (q : Int) = (q : Int) := IntWalk.i64_in _ (by omega)
        have HB := Lib.hid hb
        clear g1 g2 g3 hS hm hq hb hr hup hpm hl hs
        go_wp2_with fail
        go_quiet (fail)
        go_wp2
        exact bodyPost_ret (v := .tuple #[.int .i64 (spA xs), .int .i64 (spB xs), .int .i64 (spC xs)]) (by simp [results, Try.results10, go_sem]) rfl ⟨rfl, bel_drewN HB.out _⟩
      · obtain rfl : i = 0 := by omega
        obtain rfl : xs = [] := List.eq_nil_of_length_eq_zero hl
        have e : spA [] = 0 ∧ spB [] = 0 ∧ spC [] = 0 := by simp [spA, spB, spC, srt]
        have HE := Lib.hid e
        have HB := Lib.hid hb
        clear hr hup hpm hl hs e hb
        go_wp2
        exact bodyPost_ret (v := .tuple #[.int .i64 0, .int .i64 0, .int .i64 0]) (by simp [results, Try.results10, go_sem]) rfl ⟨by rw [HE.out.1, HE.out.2.1, HE.out.2.2], HB.out⟩
end Go.Proofs.Ytniffjjkjgfacaa
