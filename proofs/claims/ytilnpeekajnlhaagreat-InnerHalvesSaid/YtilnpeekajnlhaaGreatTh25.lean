/- SymMerge, the general way, where the messages lie. -/
import Derived.Test.YtilnpeekajnlhaaGreatTh24
import Derived.Deep.DeepCutAuto
set_option linter.unusedVariables false
set_option linter.unusedSimpArgs false
namespace Go.Proofs.YtilnpeekajnlhaaGreat
open Go.RowKit Go.Maps
/-- What the search of SymMerge finds. -/
def Spl (U V : List MG) (a m p lo hi s r : Nat) : Prop := ∀ c u v, lo ≤ c → c < hi → U[c - a]? = some u → V[p - c - m]? = some v → (c < s → aheadM v u = false) ∧ (r ≤ c → aheadM v u = true)
structure Bnd (a m e mid nn p lo hi : Nat) : Prop where
  am : a ≤ lo
  lh : lo ≤ hi
  hm : hi ≤ m
  hd : hi ≤ mid
  nq : nn = mid + m
  p1 : p + 1 = nn
  en : nn ≤ lo + e
  lo0 : lo = a ∨ nn = lo + e
  hi0 : hi = m ∨ hi = mid
  md : a < mid ∧ mid < e
theorem bnd_of {a m e lu lv : Nat} (h1 : a + lu = m) (h2 : m + lv = e) (h3 : 2 ≤ lu) (h4 : 2 ≤ lv) : ∃ mid nn p lo hi, (a + e) / 2 = mid ∧ Bnd a m e mid nn p lo hi ∧ ((mid < m ∧ lo + e = nn ∧ hi = mid) ∨ (m ≤ mid ∧ lo = a ∧ hi = m)) := by
  obtain ⟨mid, hm⟩ : ∃ mid, (a + e) / 2 = mid := ⟨_, rfl⟩
  by_cases h : mid < m
  · exact ⟨mid, mid + m, mid + m - 1, mid + m - e, mid, hm, ⟨by omega, by omega, by omega, by omega, rfl, by omega, by omega, .inr (by omega), .inr rfl, by omega⟩, .inl ⟨h, by omega, rfl⟩⟩
  · exact ⟨mid, mid + m, mid + m - 1, a, m, hm, ⟨by omega, by omega, by omega, by omega, rfl, by omega, by omega, .inl rfl, .inl rfl, by omega⟩, .inr ⟨by omega, rfl, rfl⟩⟩
theorem spl_no {U V : List MG} {a m e p lo hi s r c mid nn : Nat} (B : Bnd a m e mid nn p lo hi) (hs : Srt U) (ht : Srt V) (h : Spl U V a m p lo hi s r) (hc : c < hi) (hlc : lo ≤ c) {u v : MG} (hu : U[c - a]? = some u) (hv : V[p - c - m]? = some v) (ha : aheadM v u = false) : Spl U V a m p lo hi (c + 1) r := by
  intro c' u' v' k1 k2 k3 k4
  have := B.am; have := B.hd; have := B.p1; have := B.nq
  refine ⟨fun k => ?_, fun k => (h c' u' v' k1 k2 k3 k4).2 k⟩
  have x1 := srt_get hs (q := c' - a) (g := c - a) (by omega) k3 hu
  have x2 := srt_get ht (q := p - c - m) (g := p - c' - m) (by omega) hv k4
  exact nahead_trans (nahead_trans x1 ha) x2
theorem spl_yes {U V : List MG} {a m e p lo hi s r c mid nn : Nat} (B : Bnd a m e mid nn p lo hi) (hs : Srt U) (ht : Srt V) (h : Spl U V a m p lo hi s r) (hc : c < hi) (hlc : lo ≤ c) {u v : MG} (hu : U[c - a]? = some u) (hv : V[p - c - m]? = some v) (ha : aheadM v u = true) : Spl U V a m p lo hi s c := by
  intro c' u' v' k1 k2 k3 k4
  have := B.am; have := B.hd; have := B.p1; have := B.nq
  refine ⟨fun k => (h c' u' v' k1 k2 k3 k4).1 k, fun k => ?_⟩
  have x1 := srt_get hs (q := c - a) (g := c' - a) (by omega) hu k3
  have x2 := srt_get ht (q := p - c' - m) (g := p - c - m) (by omega) k4 hv
  exact ahead_le (le_ahead x2 ha) x1
/-- Two rows in order are parted so. -/
structure Parts (U V : List MG) (a m e mid s en : Nat) (U1 U2 V1 V2 : List MG) : Prop where
  u : U1 ++ U2 = U
  v : V1 ++ V2 = V
  l1 : a + U1.length = s
  l2 : s + U2.length = m
  l3 : m + V1.length = en
  l4 : en + V2.length = e
  md : s + en = mid + m
  lt : ∀ x ∈ V1, ∀ y ∈ U2, aheadM x y = true
  le : ∀ x ∈ U1, ∀ y ∈ V2, aheadM y x = false
theorem parts_found {U V : List MG} {a m e p lo hi s mid nn lu lv : Nat} (B : Bnd a m e mid nn p lo hi) (hlu : U.length = lu) (hlv : V.length = lv) (h1 : a + lu = m) (h2 : m + lv = e) (hs : Srt U) (ht : Srt V) (h : Spl U V a m p lo hi s s) (k1 : lo ≤ s) (k2 : s ≤ hi) : Parts U V a m e mid s (nn - s) (U.take (s - a)) (U.drop (s - a)) (V.take (nn - s - m)) (V.drop (nn - s - m)) := by
  have := B.am; have := B.hm; have := B.hd; have := B.p1; have := B.nq; have := B.en
  refine ⟨List.take_append_drop _ _, List.take_append_drop _ _, by rw [List.length_take]; omega, by rw [List.length_drop]; omega, by rw [List.length_take]; omega, by rw [List.length_drop]; omega, by omega, fun x hx y hy => ?_, fun x hx y hy => ?_⟩
  · obtain ⟨i, i1, i2⟩ := take_mem hx
    obtain ⟨j, j1, j2, j3⟩ := drop_mem hy
    have hsh : s < hi := by rcases B.hi0 with e1 | e1 <;> omega
    obtain ⟨u, hu⟩ : ∃ u, U[s - a]? = some u := ⟨_, List.getElem?_eq_getElem (by omega)⟩
    obtain ⟨v, hv⟩ : ∃ v, V[p - s - m]? = some v := ⟨_, List.getElem?_eq_getElem (by omega)⟩
    have q := (h s u v k1 hsh hu hv).2 (Nat.le_refl _)
    exact ahead_le (le_ahead (srt_get ht (by omega) i2 hv) q) (srt_get hs (by omega) hu j3)
  · obtain ⟨i, i1, i2⟩ := take_mem hx
    obtain ⟨j, j1, j2, j3⟩ := drop_mem hy
    have hsl : lo < s := by rcases B.lo0 with e1 | e1 <;> omega
    obtain ⟨u, hu⟩ : ∃ u, U[s - 1 - a]? = some u := ⟨_, List.getElem?_eq_getElem (by omega)⟩
    obtain ⟨v, hv⟩ : ∃ v, V[p - (s - 1) - m]? = some v := ⟨_, List.getElem?_eq_getElem (by omega)⟩
    have q := (h (s - 1) u v (by omega) (by omega) hu hv).1 (by omega)
    exact nahead_trans (nahead_trans (srt_get hs (by omega) i2 hu) q) (srt_get ht (by omega) hv j3)
theorem srt_left {A B : List MG} (h : Srt (A ++ B)) : Srt A := (List.pairwise_append.1 h).1
theorem srt_right {A B : List MG} (h : Srt (A ++ B)) : Srt B := (List.pairwise_append.1 h).2.1
set_option maxRecDepth 100000 in
set_option maxHeartbeats 40000000 in
theorem sym_gen (b off n cap a m e lu lv : Nat) (P U V S : List MG) (w : World) (hp : P.length = a) (hlu : U.length = lu) (hlv : V.length = lv) (h1 : a + lu = m) (h2 : m + lv = e) (h3 : 2 ≤ lu) (h4 : 2 ≤ lv) (hl : (P ++ U ++ V ++ S).length = n) (hs : Srt U) (ht : Srt V) (hn : n ≤ 1000) (hnc : n ≤ cap) (hI : InP w b off (P ++ U ++ V ++ S) w)
    (IH : ∀ (a m e : Nat) (P U V S : List MG) (w : World), U.length + V.length < lu + lv → P.length = a → a + U.length = m → m + V.length = e → 1 ≤ U.length → 1 ≤ V.length → (P ++ U ++ V ++ S).length = n → Srt U → Srt V → InP w b off (P ++ U ++ V ++ S) w → Calls Tryz.prog 102 #[.slice (some ⟨b, off, none⟩) n cap, .int .i64 a, .int .i64 m, .int .i64 e, OF] w fun r w' => r = .returned (.tuple #[]) ∧ InP w b off (P ++ stab (U ++ V) ++ S) w') :
    Calls Tryz.prog 102 #[.slice (some ⟨b, off, none⟩) n cap, .int .i64 a, .int .i64 m, .int .i64 e, OF] w fun r w' => r = .returned (.tuple #[]) ∧ InP w b off (P ++ stab (U ++ V) ++ S) w' := by
  have hen : e ≤ n := by simp only [List.length_append] at hl; omega
  have q1 : (m : Int) ≤ 1000 := by omega
  have q2 : (e : Int) ≤ 1000 := by omega
  have q3 : (0 : Int) ≤ (m : Int) := by omega
  have q4 : (0 : Int) ≤ (a : Int) := by omega
  have q5 : (a : Int) ≤ (m : Int) := by omega
  have q6 : (m : Int) ≤ (e : Int) := by omega
  have q7 : (0 : Int) ≤ (e : Int) := by omega
  have e1 : (m : Int) - (a : Int) = (lu : Int) := by omega
  have e2 : ((lu : Int) == 1) = false := by rw [beq_eq_false_iff_ne]; omega
  have e2b : ¬ ((lu : Int) = 1) := by omega
  have e3 : (e : Int) - (m : Int) = (lv : Int) := by omega
  have e4 : ((lv : Int) == 1) = false := by rw [beq_eq_false_iff_ne]; omega
  have e4b : ¬ ((lv : Int) = 1) := by omega
  obtain ⟨mid, nn, p, lo, hi, hmid, hB, hcase⟩ := bnd_of h1 h2 h3 h4
  have x1 : ((a : Int) + (e : Int)) / 2 = (mid : Int) := by omega
  have x2 : (mid : Int) + (m : Int) = (nn : Int) := by have := hB.nq; omega
  have x3 : (nn : Int) - 1 = (p : Int) := by have := hB.p1; omega
  have x4 : (mid : Int) ≤ 1000 := by have := hB.md; omega
  have x5 : (0 : Int) ≤ (mid : Int) := by omega
  have x6 : (0 : Int) ≤ (nn : Int) := by omega
  have x7 : (nn : Int) ≤ 2000 := by omega
  have x8 : (1 : Int) ≤ (nn : Int) := by have := hB.p1; omega
  have x9 : (0 : Int) ≤ (p : Int) := by omega
  have x10 : (p : Int) ≤ 2000 := by omega
  have HB := Lib.hid hB
  have HH := Lib.hid (show P.length = a ∧ U.length = lu ∧ V.length = lv ∧ a + lu = m ∧ m + lv = e from ⟨hp, hlu, hlv, h1, h2⟩)
  have HL := Lib.hid hl
  have HS := Lib.hid hs
  have HT := Lib.hid ht
  have HI := Lib.hid hI
  have HIH := Lib.hid IH
  clear hp h1 h2 h3 h4 hlu hlv hl hs ht hI IH hB hmid
  go_enter Tryz.func102, Tryz.ntmps102
  rcases hcase with ⟨k1, k2, k3⟩ | ⟨k1, k2, k3⟩
  all_goals
    have HK := Lib.hid (And.intro k2 k3)
    first
      | (have k4 : (mid : Int) < (m : Int) := by omega)
      | (have k4 : ¬ (mid : Int) < (m : Int) := by omega)
    first
      | (have k5 : (nn : Int) - (e : Int) = (lo : Int) := by omega)
      | skip
    clear k2 k3
    go_wp2
    go_loopw [20, 21, 23] (fun sv rv cv wr => ∃ (s r : Nat), lo ≤ s ∧ s ≤ r ∧ r ≤ hi ∧ sv = .int .i64 s ∧ rv = .int .i64 r ∧ Hid (Spl U V a m p lo hi s r) ∧ InP w b off (P ++ U ++ V ++ S) wr) (fun sv rv _ _ => (intOf rv).toNat - (intOf sv).toNat)
    case atStart =>
      refine ⟨lo, hi, Nat.le_refl _, HB.out.lh, Nat.le_refl _, ?_, ?_, Lib.hid (fun c u v q1 q2 _ _ => ⟨fun k => by omega, fun k => by omega⟩), HI.out⟩
      · first | rfl | (rw [HK.out.1])
      · first | rfl | (rw [HK.out.2])
    case round =>
      obtain ⟨s, r, hls, hsr, hrh, rfl, rfl, HP, hI⟩ := hrel
      have HW := Lib.hid hI
      clear hI
      by_cases h : s < r
      · have z1 : (s : Int) < (r : Int) := by omega
        have z2 : (0 : Int) ≤ (s : Int) := by omega
        have z3 : (0 : Int) ≤ (r : Int) := by omega
        have hB := HB.out
        have b1 := hB.am; have b2 := hB.hm; have b3 := hB.hd; have b4 := hB.p1; have b5 := hB.nq; have b6 := hB.en
        have z4 : (r : Int) ≤ 1000 := by omega
        have z5 : (s : Int) ≤ 1000 := by omega
        obtain ⟨c, hc⟩ : ∃ c, (s + r) / 2 = c := ⟨_, rfl⟩
        have ec : ((s : Int) + (r : Int)) / 2 = (c : Int) := by omega
        have i1 : s ≤ c := by omega
        have i2 : c < r := by omega
        obtain ⟨pc, hpc⟩ : ∃ pc, p - c = pc := ⟨_, rfl⟩
        have ep : (p : Int) - (c : Int) = (pc : Int) := by omega
        have y1 : (c : Int) < (n : Int) := by omega
        have y2 : (0 : Int) ≤ (c : Int) := by omega
        have y3 : c < n := by omega
        have y4 : (c : Int) ≤ 1000 := by omega
        have y5 : (pc : Int) < (n : Int) := by omega
        have y6 : pc < n := by omega
        have y7 : (0 : Int) ≤ (pc : Int) := by omega
        have y8 : (c : Int) ≤ (p : Int) := by omega
        have wq1 : IntKind.i64.wrap ((p : Int) - (c : Int)) = (p : Int) - (c : Int) := IntWalk.i64_in _ (by omega)
        have wq2 : IntKind.i64.wrap (pc : Int) = (pc : Int) := IntWalk.i64_in _ (by omega)
        obtain ⟨u, hu⟩ : ∃ u, U[c - a]? = some u := ⟨_, List.getElem?_eq_getElem (by clear wq1 wq2; have := HH.out; omega)⟩
        obtain ⟨v, hv⟩ : ∃ v, V[p - c - m]? = some v := ⟨_, List.getElem?_eq_getElem (by clear wq1 wq2; have := HH.out; omega)⟩
        have HGP := Lib.hid (show (P ++ U ++ V ++ S)[c]? = some u by
          clear wq1 wq2
          have := HH.out
          rw [List.append_assoc, List.append_assoc, List.getElem?_append_right (by omega), show c - P.length = c - a by omega, List.getElem?_append_left (List.getElem?_eq_some_iff.1 hu).1]
          exact hu)
        have HGJ := Lib.hid (show (P ++ U ++ V ++ S)[pc]? = some v by
          clear wq1 wq2
          have := HH.out
          rw [List.append_assoc, List.getElem?_append_right (by rw [List.length_append]; omega), List.length_append, show pc - (P.length + U.length) = p - c - m by omega, List.getElem?_append_left (List.getElem?_eq_some_iff.1 hv).1]
          exact hv)
        have HU := Lib.hid hu
        have HV := Lib.hid hv
        have AA := Lib.hid (order_any v u)
        have HD := Lib.hid (ord_ahead v u)
        obtain ⟨ov, hov⟩ : ∃ ov, ordM v u = ov := ⟨_, rfl⟩
        rw [hov] at AA HD
        have HHJ := Lib.hid (And.intro i1 i2)
        clear hov hc hu hv i1 i2 hpc hB b1 b2 b3 b4 b5 b6
        obtain ⟨c0, c1, c2, c3, c4, c5⟩ := HW.out.at HGJ.out
        obtain ⟨g0, g1, g2, g3, g4, g5⟩ := HW.out.at HGP.out
        cases haa : aheadM v u
        all_goals
          have HAH := Lib.hid haa
          have hd := HD.out
          rw [haa] at hd
          clear haa
          have KS := Lib.hid (show ∀ W, Below wr.heap.size wr W → Below wr.heap.size wr W ∧ W.cell? ⟨b, off + pc * 6, none⟩ = some (.int .u8 v.kd) ∧ W.cell? ⟨b, off + pc * 6 + 1, none⟩ = some (.int .i64 v.sq) ∧ W.cell? ⟨b, off + pc * 6 + 2, none⟩ = some (.string v.ky) ∧ W.cell? ⟨b, off + pc * 6 + 3, none⟩ = some (.string v.to) ∧ W.cell? ⟨b, off + pc * 6 + 4, none⟩ = some (.string v.vl) ∧ W.cell? ⟨b, off + pc * 6 + 5, none⟩ = some (.int .u64 v.dl) ∧ W.cell? ⟨b, off + c * 6, none⟩ = some (.int .u8 u.kd) ∧ W.cell? ⟨b, off + c * 6 + 1, none⟩ = some (.int .i64 u.sq) ∧ W.cell? ⟨b, off + c * 6 + 2, none⟩ = some (.string u.ky) ∧ W.cell? ⟨b, off + c * 6 + 3, none⟩ = some (.string u.to) ∧ W.cell? ⟨b, off + c * 6 + 4, none⟩ = some (.string u.vl) ∧ W.cell? ⟨b, off + c * 6 + 5, none⟩ = some (.int .u64 u.dl) from fun W h => ⟨h, bel_later h c0, bel_later h c1, bel_later h c2, bel_later h c3, bel_later h c4, bel_later h c5, bel_later h g0, bel_later h g1, bel_later h g2, bel_later h g3, bel_later h g4, bel_later h g5⟩)
          go_wp2_with fail
          clear c0 c1 c2 c3 c4 c5 g0 g1 g2 g3 g4 g5
          go_region_held3 (fun W => Below wr.heap.size wr W ∧ W.cell? ⟨b, off + pc * 6, none⟩ = some (.int .u8 v.kd) ∧ W.cell? ⟨b, off + pc * 6 + 1, none⟩ = some (.int .i64 v.sq) ∧ W.cell? ⟨b, off + pc * 6 + 2, none⟩ = some (.string v.ky) ∧ W.cell? ⟨b, off + pc * 6 + 3, none⟩ = some (.string v.to) ∧ W.cell? ⟨b, off + pc * 6 + 4, none⟩ = some (.string v.vl) ∧ W.cell? ⟨b, off + pc * 6 + 5, none⟩ = some (.int .u64 v.dl) ∧ W.cell? ⟨b, off + c * 6, none⟩ = some (.int .u8 u.kd) ∧ W.cell? ⟨b, off + c * 6 + 1, none⟩ = some (.int .i64 u.sq) ∧ W.cell? ⟨b, off + c * 6 + 2, none⟩ = some (.string u.ky) ∧ W.cell? ⟨b, off + c * 6 + 3, none⟩ = some (.string u.to) ∧ W.cell? ⟨b, off + c * 6 + 4, none⟩ = some (.string u.vl) ∧ W.cell? ⟨b, off + c * 6 + 5, none⟩ = some (.int .u64 u.dl)) (first | exact KS.out _ ((Below.refl _ _).drew) | exact KS.out _ (bel_trans (And.left ‹_›) ‹_›) | (trace_state; fail)) (first
            | (go_at_call 61; ((with_reducible refine (AA.out _).mono ?_); rintro e w1 ⟨rfl, b1⟩)))
          rename_i hH
          have HW1 := Lib.hid (HW.out.later hH.1)
          clear hH
        · go_wp2
          clear wq1 wq2
          exact ⟨⟨c + 1, r, by have := HHJ.out; omega, by have := HHJ.out; omega, hrh, by simp, rfl, Lib.hid (spl_no HB.out HS.out HT.out HP.out (by have := HHJ.out; omega) (by have := HHJ.out; omega) HU.out HV.out HAH.out), HW1.out⟩, by simp [intOf]; have := HHJ.out; omega⟩
        · go_wp2
          clear wq1 wq2
          exact ⟨⟨s, c, hls, HHJ.out.1, by have := HHJ.out; omega, rfl, rfl, Lib.hid (spl_yes HB.out HS.out HT.out HP.out (by have := HHJ.out; omega) (by have := HHJ.out; omega) HU.out HV.out HAH.out), HW1.out⟩, by simp [intOf]; have := HHJ.out; omega⟩
      · have z1 : ¬ (s : Int) < (r : Int) := by omega
        have hsr2 : r = s := by omega
        subst hsr2
        have hPP := parts_found HB.out HH.out.2.1 HH.out.2.2.1 HH.out.2.2.2.1 HH.out.2.2.2.2 HS.out HT.out HP.out hls hrh
        obtain ⟨en, hen2⟩ : ∃ en, nn - r = en := ⟨_, rfl⟩
        rw [hen2] at hPP
        obtain ⟨U1, hU1⟩ : ∃ U1, U.take (r - a) = U1 := ⟨_, rfl⟩
        obtain ⟨U2, hU2⟩ : ∃ U2, U.drop (r - a) = U2 := ⟨_, rfl⟩
        obtain ⟨V1, hV1⟩ : ∃ V1, V.take (en - m) = V1 := ⟨_, rfl⟩
        obtain ⟨V2, hV2⟩ : ∃ V2, V.drop (en - m) = V2 := ⟨_, rfl⟩
        rw [hU1, hU2, hV1, hV2] at hPP
        have HPP := Lib.hid hPP
        have t1 : (nn : Int) - (r : Int) = (en : Int) := by have := HB.out.nq; have := HB.out.hm; omega
        have t2 : (0 : Int) ≤ (r : Int) := by omega
        have t3 : (r : Int) ≤ 1000 := by have := HB.out.hm; omega
        have HLL := Lib.hid (show (P ++ U1 ++ U2 ++ V1 ++ V2 ++ S).length = n by
          have z := HL.out
          rw [← hPP.u, ← hPP.v] at z
          simpa using z)
        have HW0 := Lib.hid (show InP w b off (P ++ U1 ++ U2 ++ V1 ++ (V2 ++ S)) wr by
          have z := HW.out
          rw [← hPP.u, ← hPP.v] at z
          simpa using z)
        have hSU : Srt (U1 ++ U2) := by rw [hPP.u]; exact HS.out
        have hSV : Srt (V1 ++ V2) := by rw [hPP.v]; exact HT.out
        have HMG := Lib.hid (show stab (U1 ++ V1) ++ stab (U2 ++ V2) = stab (U ++ V) by rw [← hPP.u, ← hPP.v]; exact merge_parts hSU hSV hPP.lt hPP.le)
        have HSS := Lib.hid (show Srt U1 ∧ Srt U2 ∧ Srt V1 ∧ Srt V2 from ⟨srt_left hSU, srt_right hSU, srt_left hSV, srt_right hSV⟩)
        clear hPP hU1 hU2 hV1 hV2 hSU hSV HW HP
        have hP := HPP.out
        have l1 := hP.l1; have l2 := hP.l2; have l3 := hP.l3; have l4 := hP.l4; have l5 := hP.md; have l6 := HB.out.md
        have AROT := Lib.hid (fun (k1 : 1 ≤ U2.length) (k2 : 1 ≤ V1.length) => rot_any b off n cap r m en (P ++ U1) U2 V1 (V2 ++ S) wr (by simpa using HLL.out) (by have := HH.out; simp; omega) l2 l3 k1 k2 hn hnc (by simpa using HW0.out.refl))
        have EROT := Lib.hid (fun (k : U2.length = 0 ∨ V1.length = 0) => show InP w b off (P ++ U1 ++ V1 ++ (U2 ++ V2 ++ S)) wr by
          have z := HW0.out
          rcases k with k | k
          · have e := List.eq_nil_of_length_eq_zero k; rw [e] at z ⊢; simpa using z
          · have e := List.eq_nil_of_length_eq_zero k; rw [e] at z ⊢; simpa using z)
        have ASL := Lib.hid (fun (k1 : 1 ≤ U1.length) (k2 : 1 ≤ V1.length) (W : World) (hW : InP w b off (P ++ U1 ++ V1 ++ (U2 ++ V2 ++ S)) W) => HIH.out a r mid P U1 V1 (U2 ++ V2 ++ S) W (by have := HH.out; omega) HH.out.1 l1 (by omega) k1 k2 (by have z := HLL.out; simp only [List.length_append] at z ⊢; omega) HSS.out.1 HSS.out.2.2.1 hW.refl)
        have ESL := Lib.hid (fun (k : U1.length = 0 ∨ V1.length = 0) (W : World) (hW : InP w b off (P ++ U1 ++ V1 ++ (U2 ++ V2 ++ S)) W) => show InP w b off (P ++ stab (U1 ++ V1) ++ (U2 ++ V2 ++ S)) W by
          rcases k with k | k
          · have e := List.eq_nil_of_length_eq_zero k; rw [e] at hW ⊢; rw [List.nil_append, stab_srt HSS.out.2.2.1]; simpa using hW
          · have e := List.eq_nil_of_length_eq_zero k; rw [e] at hW ⊢; rw [List.append_nil, stab_srt HSS.out.1]; simpa using hW)
        have ASR := Lib.hid (fun (k1 : 1 ≤ U2.length) (k2 : 1 ≤ V2.length) (W : World) (hW : InP w b off (P ++ stab (U1 ++ V1) ++ (U2 ++ V2 ++ S)) W) => HIH.out mid en e (P ++ stab (U1 ++ V1)) U2 V2 S W (by have := HH.out; omega) (by have := HH.out; rw [List.length_append, stab_len, List.length_append]; omega) (by omega) l4 k1 k2 (by have z := HLL.out; simp only [List.length_append, stab_len] at z ⊢; omega) HSS.out.2.1 HSS.out.2.2.2 (by have z := hW.refl; simpa using z))
        have ESR := Lib.hid (fun (k : U2.length = 0 ∨ V2.length = 0) (W : World) (hW : InP w b off (P ++ stab (U1 ++ V1) ++ (U2 ++ V2 ++ S)) W) => show InP w b off (P ++ stab (U ++ V) ++ S) W by
          rw [← HMG.out]
          rcases k with k | k
          · have e := List.eq_nil_of_length_eq_zero k; rw [e] at hW ⊢; rw [List.nil_append, stab_srt HSS.out.2.2.2]; simpa using hW
          · have e := List.eq_nil_of_length_eq_zero k; rw [e] at hW ⊢; rw [List.append_nil, stab_srt HSS.out.2.1]; simpa using hW)
        have EFR := Lib.hid (fun (W : World) (hW : InP w b off (P ++ stab (U1 ++ V1) ++ stab (U2 ++ V2) ++ S) W) => show InP w b off (P ++ stab (U ++ V) ++ S) W by
          rw [← HMG.out]; simpa using hW)
        clear hP
        by_cases u1 : a < r
        · by_cases v1 : r < mid
          · by_cases u2 : r < m
            · by_cases v2 : en < e
              · have cai : (r : Int) < (m : Int) := by omega
                have can : r < m := by omega
                have cbi : (m : Int) < (en : Int) := by omega
                have cbn : m < en := by omega
                have cci : (a : Int) < (r : Int) := by omega
                have ccn : a < r := by omega
                have cdi : (r : Int) < (mid : Int) := by omega
                have cdn : r < mid := by omega
                have cei : (mid : Int) < (en : Int) := by omega
                have cen : mid < en := by omega
                have cfi : (en : Int) < (e : Int) := by omega
                have cfn : en < e := by omega
                replace AROT := Lib.hid (AROT.out (by omega) (by omega))
                replace ASL := Lib.hid (ASL.out (by omega) (by omega))
                replace ASR := Lib.hid (ASR.out (by omega) (by omega))
                clear u1 v1 u2 v2 l1 l2 l3 l4 l5 l6
                go_wp2_with (first
                  | (go_at_call 103; ((with_reducible refine AROT.out.mono ?_); rintro e w1 ⟨rfl, c1⟩; have X1 : Hid (InP w b off (P ++ U1 ++ V1 ++ (U2 ++ V2 ++ S)) w1) := Lib.hid (by have z := HW0.out.trans c1; simpa using z); clear c1))
                  | (go_at_call 102; ((with_reducible refine (ASL.out _ X1.out).mono ?_); rintro e w2 ⟨rfl, c2⟩; have X2 := Lib.hid (X1.out.trans c2); clear c2))
                  | (go_at_call 102; ((with_reducible refine (ASR.out _ X2.out).mono ?_); rintro e w3 ⟨rfl, c3⟩; have X3 := Lib.hid (X2.out.trans c3); clear c3))
                  | fail)
                go_end0
                exact ⟨rfl, by first | exact EFR.out _ X3.out | simpa using (EFR.out _ X3.out)⟩
              · have cai : (r : Int) < (m : Int) := by omega
                have can : r < m := by omega
                have cbi : (m : Int) < (en : Int) := by omega
                have cbn : m < en := by omega
                have cci : (a : Int) < (r : Int) := by omega
                have ccn : a < r := by omega
                have cdi : (r : Int) < (mid : Int) := by omega
                have cdn : r < mid := by omega
                have cei : (mid : Int) < (en : Int) := by omega
                have cen : mid < en := by omega
                have cfi : ¬ (en : Int) < (e : Int) := by omega
                have cfn : ¬ en < e := by omega
                have cfd : decide (en < e) = false := by simpa using cfn
                replace AROT := Lib.hid (AROT.out (by omega) (by omega))
                replace ASL := Lib.hid (ASL.out (by omega) (by omega))
                replace ESR := Lib.hid (ESR.out (by omega))
                clear u1 v1 u2 v2 l1 l2 l3 l4 l5 l6
                go_wp2_with (first
                  | (go_at_call 103; ((with_reducible refine AROT.out.mono ?_); rintro e w1 ⟨rfl, c1⟩; have X1 : Hid (InP w b off (P ++ U1 ++ V1 ++ (U2 ++ V2 ++ S)) w1) := Lib.hid (by have z := HW0.out.trans c1; simpa using z); clear c1))
                  | (go_at_call 102; ((with_reducible refine (ASL.out _ X1.out).mono ?_); rintro e w2 ⟨rfl, c2⟩; have X2 := Lib.hid (X1.out.trans c2); clear c2))
                  | fail)
                go_end0
                exact ⟨rfl, by first | exact ESR.out _ X2.out | simpa using (ESR.out _ X2.out)⟩
            · by_cases v2 : en < e
              · have cai : ¬ (r : Int) < (m : Int) := by omega
                have can : ¬ r < m := by omega
                have cad : decide (r < m) = false := by simpa using can
                have cbi : (m : Int) < (en : Int) := by omega
                have cbn : m < en := by omega
                have cci : (a : Int) < (r : Int) := by omega
                have ccn : a < r := by omega
                have cdi : (r : Int) < (mid : Int) := by omega
                have cdn : r < mid := by omega
                have cei : ¬ (mid : Int) < (en : Int) := by omega
                have cen : ¬ mid < en := by omega
                have ced : decide (mid < en) = false := by simpa using cen
                have cfi : (en : Int) < (e : Int) := by omega
                have cfn : en < e := by omega
                have X1 := Lib.hid (EROT.out (by omega))
                replace ASL := Lib.hid (ASL.out (by omega) (by omega))
                replace ESR := Lib.hid (ESR.out (by omega))
                clear u1 v1 u2 v2 l1 l2 l3 l4 l5 l6
                go_wp2_with (first
                  | (go_at_call 102; ((with_reducible refine (ASL.out _ X1.out).mono ?_); rintro e w2 ⟨rfl, c2⟩; have X2 := Lib.hid (X1.out.trans c2); clear c2))
                  | fail)
                go_end0
                exact ⟨rfl, by first | exact ESR.out _ X2.out | simpa using (ESR.out _ X2.out)⟩
              · exfalso; omega
          · by_cases u2 : r < m
            · by_cases v2 : en < e
              · have cai : (r : Int) < (m : Int) := by omega
                have can : r < m := by omega
                have cbi : ¬ (m : Int) < (en : Int) := by omega
                have cbn : ¬ m < en := by omega
                have cbd : decide (m < en) = false := by simpa using cbn
                have cci : (a : Int) < (r : Int) := by omega
                have ccn : a < r := by omega
                have cdi : ¬ (r : Int) < (mid : Int) := by omega
                have cdn : ¬ r < mid := by omega
                have cdd : decide (r < mid) = false := by simpa using cdn
                have cei : (mid : Int) < (en : Int) := by omega
                have cen : mid < en := by omega
                have cfi : (en : Int) < (e : Int) := by omega
                have cfn : en < e := by omega
                have X1 := Lib.hid (EROT.out (by omega))
                replace ESL := Lib.hid (ESL.out (by omega))
                replace ASR := Lib.hid (ASR.out (by omega) (by omega))
                clear u1 v1 u2 v2 l1 l2 l3 l4 l5 l6
                go_wp2_with (first
                  | (go_at_call 102; ((with_reducible refine (ASR.out _ (ESL.out _ X1.out)).mono ?_); rintro e w3 ⟨rfl, c3⟩; have X3 := Lib.hid ((ESL.out _ X1.out).trans c3); clear c3))
                  | fail)
                go_end0
                exact ⟨rfl, by first | exact EFR.out _ X3.out | simpa using (EFR.out _ X3.out)⟩
              · have cai : (r : Int) < (m : Int) := by omega
                have can : r < m := by omega
                have cbi : ¬ (m : Int) < (en : Int) := by omega
                have cbn : ¬ m < en := by omega
                have cbd : decide (m < en) = false := by simpa using cbn
                have cci : (a : Int) < (r : Int) := by omega
                have ccn : a < r := by omega
                have cdi : ¬ (r : Int) < (mid : Int) := by omega
                have cdn : ¬ r < mid := by omega
                have cdd : decide (r < mid) = false := by simpa using cdn
                have cei : (mid : Int) < (en : Int) := by omega
                have cen : mid < en := by omega
                have cfi : ¬ (en : Int) < (e : Int) := by omega
                have cfn : ¬ en < e := by omega
                have cfd : decide (en < e) = false := by simpa using cfn
                have X1 := Lib.hid (EROT.out (by omega))
                replace ESL := Lib.hid (ESL.out (by omega))
                replace ESR := Lib.hid (ESR.out (by omega))
                clear u1 v1 u2 v2 l1 l2 l3 l4 l5 l6
                go_wp2_with (first
                  | fail)
                go_end0
                exact ⟨rfl, by first | exact ESR.out _ (ESL.out _ X1.out) | simpa using (ESR.out _ (ESL.out _ X1.out))⟩
            · by_cases v2 : en < e
              · have cai : ¬ (r : Int) < (m : Int) := by omega
                have can : ¬ r < m := by omega
                have cad : decide (r < m) = false := by simpa using can
                have cbi : ¬ (m : Int) < (en : Int) := by omega
                have cbn : ¬ m < en := by omega
                have cbd : decide (m < en) = false := by simpa using cbn
                have cci : (a : Int) < (r : Int) := by omega
                have ccn : a < r := by omega
                have cdi : ¬ (r : Int) < (mid : Int) := by omega
                have cdn : ¬ r < mid := by omega
                have cdd : decide (r < mid) = false := by simpa using cdn
                have cei : ¬ (mid : Int) < (en : Int) := by omega
                have cen : ¬ mid < en := by omega
                have ced : decide (mid < en) = false := by simpa using cen
                have cfi : (en : Int) < (e : Int) := by omega
                have cfn : en < e := by omega
                have X1 := Lib.hid (EROT.out (by omega))
                replace ESL := Lib.hid (ESL.out (by omega))
                replace ESR := Lib.hid (ESR.out (by omega))
                clear u1 v1 u2 v2 l1 l2 l3 l4 l5 l6
                go_wp2_with (first
                  | fail)
                go_end0
                exact ⟨rfl, by first | exact ESR.out _ (ESL.out _ X1.out) | simpa using (ESR.out _ (ESL.out _ X1.out))⟩
              · exfalso; omega
        · by_cases v1 : r < mid
          · by_cases u2 : r < m
            · by_cases v2 : en < e
              · have cai : (r : Int) < (m : Int) := by omega
                have can : r < m := by omega
                have cbi : (m : Int) < (en : Int) := by omega
                have cbn : m < en := by omega
                have cci : ¬ (a : Int) < (r : Int) := by omega
                have ccn : ¬ a < r := by omega
                have ccd : decide (a < r) = false := by simpa using ccn
                have cdi : (r : Int) < (mid : Int) := by omega
                have cdn : r < mid := by omega
                have cei : (mid : Int) < (en : Int) := by omega
                have cen : mid < en := by omega
                have cfi : (en : Int) < (e : Int) := by omega
                have cfn : en < e := by omega
                replace AROT := Lib.hid (AROT.out (by omega) (by omega))
                replace ESL := Lib.hid (ESL.out (by omega))
                replace ASR := Lib.hid (ASR.out (by omega) (by omega))
                clear u1 v1 u2 v2 l1 l2 l3 l4 l5 l6
                go_wp2_with (first
                  | (go_at_call 103; ((with_reducible refine AROT.out.mono ?_); rintro e w1 ⟨rfl, c1⟩; have X1 : Hid (InP w b off (P ++ U1 ++ V1 ++ (U2 ++ V2 ++ S)) w1) := Lib.hid (by have z := HW0.out.trans c1; simpa using z); clear c1))
                  | (go_at_call 102; ((with_reducible refine (ASR.out _ (ESL.out _ X1.out)).mono ?_); rintro e w3 ⟨rfl, c3⟩; have X3 := Lib.hid ((ESL.out _ X1.out).trans c3); clear c3))
                  | fail)
                go_end0
                exact ⟨rfl, by first | exact EFR.out _ X3.out | simpa using (EFR.out _ X3.out)⟩
              · have cai : (r : Int) < (m : Int) := by omega
                have can : r < m := by omega
                have cbi : (m : Int) < (en : Int) := by omega
                have cbn : m < en := by omega
                have cci : ¬ (a : Int) < (r : Int) := by omega
                have ccn : ¬ a < r := by omega
                have ccd : decide (a < r) = false := by simpa using ccn
                have cdi : (r : Int) < (mid : Int) := by omega
                have cdn : r < mid := by omega
                have cei : (mid : Int) < (en : Int) := by omega
                have cen : mid < en := by omega
                have cfi : ¬ (en : Int) < (e : Int) := by omega
                have cfn : ¬ en < e := by omega
                have cfd : decide (en < e) = false := by simpa using cfn
                replace AROT := Lib.hid (AROT.out (by omega) (by omega))
                replace ESL := Lib.hid (ESL.out (by omega))
                replace ESR := Lib.hid (ESR.out (by omega))
                clear u1 v1 u2 v2 l1 l2 l3 l4 l5 l6
                go_wp2_with (first
                  | (go_at_call 103; ((with_reducible refine AROT.out.mono ?_); rintro e w1 ⟨rfl, c1⟩; have X1 : Hid (InP w b off (P ++ U1 ++ V1 ++ (U2 ++ V2 ++ S)) w1) := Lib.hid (by have z := HW0.out.trans c1; simpa using z); clear c1))
                  | fail)
                go_end0
                exact ⟨rfl, by first | exact ESR.out _ (ESL.out _ X1.out) | simpa using (ESR.out _ (ESL.out _ X1.out))⟩
            · by_cases v2 : en < e
              · have cai : ¬ (r : Int) < (m : Int) := by omega
                have can : ¬ r < m := by omega
                have cad : decide (r < m) = false := by simpa using can
                have cbi : (m : Int) < (en : Int) := by omega
                have cbn : m < en := by omega
                have cci : ¬ (a : Int) < (r : Int) := by omega
                have ccn : ¬ a < r := by omega
                have ccd : decide (a < r) = false := by simpa using ccn
                have cdi : (r : Int) < (mid : Int) := by omega
                have cdn : r < mid := by omega
                have cei : ¬ (mid : Int) < (en : Int) := by omega
                have cen : ¬ mid < en := by omega
                have ced : decide (mid < en) = false := by simpa using cen
                have cfi : (en : Int) < (e : Int) := by omega
                have cfn : en < e := by omega
                have X1 := Lib.hid (EROT.out (by omega))
                replace ESL := Lib.hid (ESL.out (by omega))
                replace ESR := Lib.hid (ESR.out (by omega))
                clear u1 v1 u2 v2 l1 l2 l3 l4 l5 l6
                go_wp2_with (first
                  | fail)
                go_end0
                exact ⟨rfl, by first | exact ESR.out _ (ESL.out _ X1.out) | simpa using (ESR.out _ (ESL.out _ X1.out))⟩
              · exfalso; omega
          · by_cases u2 : r < m
            · by_cases v2 : en < e
              · exfalso; omega
              · exfalso; omega
            · by_cases v2 : en < e
              · exfalso; omega
              · exfalso; omega
end Go.Proofs.YtilnpeekajnlhaaGreat
