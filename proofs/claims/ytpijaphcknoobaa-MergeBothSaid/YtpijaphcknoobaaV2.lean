/- The document's Both. -/
import Derived.Test.YtpijaphcknoobaaV1
namespace Go.Proofs.Ytpijaphcknoobaa
set_option linter.unusedSimpArgs false
open Go.RowKit Go.Shelf
set_option linter.unusedVariables false

abbrev kv4 (x y : TT) : Obj := .cells #[.int .i64 x.1, .int .i64 x.2, .int .i64 y.1, .int .i64 y.2] 45
def BothPost (w : World) (L : List (TT × TT)) (e : Ending) (w' : World) : Prop := ∃ g c, e = .returned (.slice (some ⟨g, 0, none⟩) L.length c) ∧ Rd w' w'.heap.size (some ⟨g, 0, none⟩) (clp L) ∧ Below w.heap.size w w'
theorem bel_own4 {w w1 w2 : World} {n : Nat} {v : Value} {xs : List Value} (h : Below w.heap.size w w1) (hg : w1.grownBy w2 v.ownBlock) (hown : w1.ownsRow w.heap.size 45 4 v n xs) : Below w.heap.size w w2 := grown_bel h hg hown (Nat.le_refl _) h.size
set_option maxHeartbeats 4000000 in
set_option maxRecDepth 100000 in
theorem rboth_any (A B : Option Addr) (na nb ca cb : Nat) (a b : List TT) (w : World) (hla : a.length = na) (hlb : b.length = nb) (hna : na ≤ 20) (hnb : nb ≤ 20) (hA : RdT w A a) (hB : RdT w B b) :
    Calls Try.prog 18 #[.slice A na ca, .slice B nb cb] w (BothPost w (bothL a b)) := by
  have HA := Lib.hid hA
  have HBb := Lib.hid hB
  have HLA := Lib.hid hla
  have HLB := Lib.hid hlb
  obtain ⟨i0, hi, hz0, hz1, hz2⟩ := info_parts info45
  have oR : Hid ((w.alloc (.cells #[] 45)).ownsRow w.heap.size 45 4 (.slice (some ⟨w.heap.size, 0, none⟩) 0 0) 0 []) := Lib.hid (World.ownsRow_made w (base := w.heap.size) (e := 45) (size := 4) #[] 0 (by simp) (by simp [maxLen]) (by simp))
  have bR : Hid (Below w.heap.size w (w.alloc (.cells #[] 45))) := Lib.hid (bel_alloc (Below.refl _ _) _)
  clear hA hB hla hlb
  go_enter Try.func18, Try.ntmps18
  go_wp2
  go_loopw [5, 6] (fun ov iv wr => ∃ (i : Nat) (L : List (TT × TT)) (g cc : Nat), i ≤ na ∧ iv = .int .i64 i ∧ ov = .slice (some ⟨g, 0, none⟩) L.length cc ∧ L = bothL (a.take i) b ∧ wr.ownsRow w.heap.size 45 4 (.slice (some ⟨g, 0, none⟩) L.length cc) L.length (clp L) ∧ Below w.heap.size w wr) (fun _ i _ => na - (intOf i).toNat)
  case atStart => exact ⟨0, [], w.heap.size, 0, Nat.zero_le _, rfl, rfl, rfl, oR.out, bR.out⟩
  case round =>
    obtain ⟨i, L, g, cc, hi8, rfl, rfl, hL, hown, hB⟩ := hrel
    have HLL := Lib.hid hL
    have HO := Lib.hid hown
    have HB := Lib.hid hB
    clear hL hown hB
    by_cases h8 : i < na
    · have q1 : (i : Int) < (na : Int) := by omega
      have q0 : (0 : Int) ≤ (i : Int) := by omega
      have q9 : (i : Int) ≤ 20 := by omega
      obtain ⟨x, hx⟩ : ∃ x, a[i]? = some x := ⟨_, List.getElem?_eq_getElem (by rw [HLA.out]; omega)⟩
      obtain ⟨bA, oA, rfl, hAl, gA0, gA1⟩ := rdt_get HA.out hx
      have GA0 := Lib.hid gA0
      have GA1 := Lib.hid gA1
      have HSN := Lib.hid (both_snoc (b := b) hx)
      have HLEN : Hid (L.length ≤ 400) := Lib.hid (by
        rw [HLL.out]
        have h := both_len (a.take i) b
        have h2 : (a.take i).length ≤ 20 := by rw [List.length_take]; omega
        have h3 : b.length ≤ 20 := by rw [HLB.out]; exact hnb
        have h4 := Nat.mul_le_mul h2 h3
        omega)
      obtain ⟨x0, x1⟩ := x
      obtain ⟨V, hV⟩ : ∃ V, V = wr := ⟨_, rfl⟩
      subst hV
      clear hx gA0 gA1
      go_wp2
      go_loopw [5, 7] (fun ov jv wr => ∃ (k : Nat) (L2 : List (TT × TT)) (g cc : Nat), k ≤ nb ∧ jv = .int .i64 k ∧ ov = .slice (some ⟨g, 0, none⟩) L2.length cc ∧ L2 = L ++ (eqs (b.take k) (x0, x1)).map (fun y => ((x0, x1), y)) ∧ wr.ownsRow w.heap.size 45 4 (.slice (some ⟨g, 0, none⟩) L2.length cc) L2.length (clp L2) ∧ Below w.heap.size w wr) (fun _ j _ => nb - (intOf j).toNat)
      case atStart => exact ⟨0, L, g, cc, Nat.zero_le _, rfl, rfl, by simp [eqs], HO.out, HB.out⟩
      case round =>
        obtain ⟨k, L2, g2, cc2, hk, rfl, rfl, hL2, hown2, hB2⟩ := hrel
        have HL2 := Lib.hid hL2
        have HO2 := Lib.hid hown2
        have HB2 := Lib.hid hB2
        clear hL2 hown2 hB2
        by_cases h9 : k < nb
        · have p1 : (k : Int) < (nb : Int) := by omega
          have p0 : (0 : Int) ≤ (k : Int) := by omega
          have p9 : (k : Int) ≤ 20 := by omega
          obtain ⟨y, hy⟩ : ∃ y, b[k]? = some y := ⟨_, List.getElem?_eq_getElem (by rw [HLB.out]; exact h9)⟩
          obtain ⟨bB, oB, rfl, hBl, gB0, gB1⟩ := rdt_get HBb.out hy
          have g0 : wr.cell? ⟨bA, oA + i * 2, none⟩ = some (.int .i64 x0) := (bel_cell HB2.out hAl).trans GA0.out
          have g1 : wr.cell? ⟨bA, oA + i * 2 + 1, none⟩ = some (.int .i64 x1) := (bel_cell HB2.out hAl).trans GA1.out
          have g2' : wr.cell? ⟨bB, oB + k * 2, none⟩ = some (.int .i64 y.1) := (bel_cell HB2.out hBl).trans gB0
          have g3' : wr.cell? ⟨bB, oB + k * 2 + 1, none⟩ = some (.int .i64 y.2) := (bel_cell HB2.out hBl).trans gB1
          have HY := Lib.hid hy
          have hln : L2.length ≤ 420 := by
            rw [HL2.out, List.length_append, List.length_map]
            have h1 := HLEN.out
            have h2 : (eqs (b.take k) (x0, x1)).length ≤ (b.take k).length := List.length_filter_le _ _
            have h3 : (b.take k).length ≤ k := List.length_take_le _ _
            omega
          obtain ⟨y0, y1⟩ := y
          simp only at g2' g3'
          clear hy gB0 gB1
          by_cases hxy : x0 = y0
          · have E : Hid (L2 ++ [((x0, x1), (y0, y1))] = L ++ (eqs (b.take (k + 1)) (x0, x1)).map (fun y => ((x0, x1), y))) := Lib.hid (by rw [eqs_in HY.out hxy, List.map_append, ← List.append_assoc, ← HL2.out]; rfl)
            have hq : (x0 == y0) = true := by simpa using hxy
            clear hxy
            go_wp2_with fail
            go_quiet (fail)
            go_wp2_with fail
            have hU : Below wr.heap.size wr (wr.drewN nq) := bel_drewN (Below.refl _ _) nq
            have k0 := bel_later hU g0
            have k1 := bel_later hU g1
            have k2 := bel_later hU g2'
            have k3 := bel_later hU g3'
            have HO3 := Lib.hid (own_bel HO2.out hU)
            have HB3 := Lib.hid (bel_trans HB2.out hU)
            clear hU g0 g1 g2' g3' hq
            generalize wr.drewN nq = U at *
            have hWY : Below U.heap.size U (U.drew.alloc (kv4 (x0, x1) (y0, y1))) := bel_alloc (bel_dw (Below.refl _ _)) _
            have m0 := bel_later hWY k0
            have m1 := bel_later hWY k1
            have m2 := bel_later hWY k2
            have m3 := bel_later hWY k3
            have OY := Lib.hid (own_bel HO3.out hWY)
            have HB4 := Lib.hid (bel_trans HB3.out hWY)
            have hloY : w.heap.size ≤ (U.drew.alloc (kv4 (x0, x1) (y0, y1))).heap.size := (bel_trans HB3.out hWY).size
            have HNW : Hid (∀ j u, ([.int .i64 x0, .int .i64 x1, .int .i64 y0, .int .i64 y1] : List Value)[j]? = some u → (U.drew.alloc (kv4 (x0, x1) (y0, y1))).cell? ((⟨U.heap.size, 0, none⟩ : Addr).add j) = some u) := Lib.hid (World.news_of_block (cs := #[.int .i64 x0, .int .i64 x1, .int .i64 y0, .int .i64 y1]) (t := 45) (fr := (0, 0)) (by simpa using World.alloc_heap_new U.drew (kv4 (x0, x1) (y0, y1))))
            clear hWY
            go_region_law (refine step_append_lies _ rfl (.tmp 32) (.tmp 42) _ rfl w.heap.size 45 i0 _ 4 32 Try.underlying40 hi hz0 hz1 hz2 rfl (by omega) (.slice (some ⟨g2, 0, none⟩) L2.length cc2) L2.length (clp L2) (by simp [Act.eval, Act.put]) OY.out ⟨U.heap.size, 0, none⟩ 1 1 [.int .i64 x0, .int .i64 x1, .int .i64 y0, .int .i64 y1] (by simp [Act.eval, Act.put]) rfl HNW.out (by simp [Value.oneCell']) (by omega) (by simp only [maxLen]; omega) (by omega) hloY (U.heap.size + 1) (by simp) ?_; intro gg cap w2 hown2 hg2 hat2 hlt2)
            all_goals
              have OZ := Lib.hid hown2
              have BZ := Lib.hid (bel_own4 HB4.out hg2 OY.out)
              clear hown2 hg2 hat2 hlt2
              go_wp2
              refine ⟨⟨k + 1, L2 ++ [((x0, x1), (y0, y1))], gg, cap, by omega, by simp, by simp, E.out, ?_, BZ.out⟩, by simp [intOf]; omega⟩
              rw [clp_snoc, List.length_append]
              exact OZ.out
          · have E : Hid (L2 = L ++ (eqs (b.take (k + 1)) (x0, x1)).map (fun y => ((x0, x1), y))) := Lib.hid (by rw [eqs_out HY.out hxy]; exact HL2.out)
            have hq : (x0 == y0) = false := by simpa using hxy
            clear hxy
            go_wp2_with fail
            go_quiet (fail)
            go_wp2
            exact ⟨⟨k + 1, L2, g2, cc2, by omega, by simp, rfl, E.out, own_bel HO2.out (bel_drewN (Below.refl _ _) _), bel_drewN HB2.out nq⟩, by simp [intOf]; omega⟩
        · have p1 : ¬ (k : Int) < (nb : Int) := by omega
          have e2 : L2 = bothL (a.take (i + 1)) b := by
            have h1 := HL2.out
            rw [List.take_of_length_le (by rw [HLB.out]; omega), HLL.out, ← HSN.out] at h1
            exact h1
          have E2 := Lib.hid e2
          clear e2
          go_wp2
          exact ⟨⟨i + 1, L2, g2, cc2, by omega, by simp, rfl, E2.out, HO2.out, HB2.out⟩, by simp [intOf]; omega⟩
    · have q1 : ¬ (i : Int) < (na : Int) := by omega
      have e : L = bothL a b := by rw [HLL.out, List.take_of_length_le (by rw [HLA.out]; omega)]
      have FIN : Hid (BothPost w (bothL a b) (.returned (.slice (some ⟨g, 0, none⟩) L.length cc)) wr) := Lib.hid ⟨g, cc, by rw [e], by rw [← e]; exact Rd.of_own HO.out (by decide), HB.out⟩
      clear e
      go_wp2
      exact bodyPost_ret (v := .slice (some ⟨g, 0, none⟩) L.length cc) (by simp [results, Try.results18, go_sem]) rfl FIN.out
end Go.Proofs.Ytpijaphcknoobaa
