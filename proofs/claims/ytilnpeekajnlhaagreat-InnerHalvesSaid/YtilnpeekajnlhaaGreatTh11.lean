/- Texts of the proof, one behind the other. -/
import Derived.Test.YtilnpeekajnlhaaGreatTh10
import Derived.Test.YtilnpeekajnlhaaGreatTh02
import Derived.Test.YtilnpeekajnlhaaGreatRows
import Derived.WalkKit
import Derived.ProofKit
import Derived.OpenShut
import Derived.ShutString
import Derived.ChangeOld
import Derived.ChangeSame
import Derived.Below
import Derived.Lib.SmallJoins
import Derived.SizedLaws
import Derived.Deep.Slices
import Derived.Deep.Strs
import Derived.Test.YtilnpeekajnlhaaGreatTh01
set_option linter.unusedVariables false
set_option linter.unusedSimpArgs false
namespace Go.Proofs.YtilnpeekajnlhaaGreat
open Go.RowKit Go.Maps
def DlOk (m : MG) : Prop := 0 ≤ m.dl ∧ m.dl < 18446744073709551616
abbrev QV (q : ByteArray × Bool) : Value := .tuple #[.string q.1, .bool q.2]
def NQ (q : ByteArray × Bool) : Prop := q.2 = false → q.1 = emptyS
theorem onQ_nq {m : MG} {s : ByteArray} {q : ByteArray × Bool} (h : NQ q) : NQ (onQ m s q) := by
  unfold onQ
  repeat' split
  all_goals first | exact h | (intro _; rfl) | (intro e; cases e; done)
theorem onQ_add {m : MG} {s : ByteArray} (h : touB m s = true) (h3 : m.kd = 3) (v : ByteArray) (is : Bool) : onQ m s (v, is) = (addF v is m.dl, true) := by
  unfold onQ; rw [h, h3]; rfl
set_option maxHeartbeats 1000000 in
theorem rtouches_any (m : MG) (s : ByteArray) (w : World) :
    Calls Tryz.prog 66 #[MV m, .string s] w fun r w' => r = .returned (.bool (touB m s)) ∧ Below w.heap.size w w' := by
  have H0 := Lib.hid (alb w (MO m))
  have z1 := Lib.hid (heap_alloc_new w (MO m))
  obtain ⟨c0, c1, c2, c3, c4, c5⟩ := cells6 z1.out
  go_enter Tryz.func66, Tryz.ntmps66
  cases e1 : isPt m.kd with
  | true =>
    go_wp2_with (first
      | (go_at_call 73; ((with_reducible refine (rpt_any m _).mono ?_); rintro e w1 ⟨rfl, b1⟩; obtain ⟨d0, d1, d2, d3, d4, d5⟩ := cells6 (keep_bel b1 z1.out); have B1 := Lib.hid (bel_trans H0.out b1); clear b1))
      | fail)
    all_goals
      go_ret
      refine ⟨?_, B1.out⟩
      simp [touB, e1]
  | false =>
    have hle := bl_le m.ky.toList s.toList
    cases e2 : m.kd == 4
    all_goals
      go_wp2_with (first
        | (go_at_call 73; ((with_reducible refine (rpt_any m _).mono ?_); rintro e w1 ⟨rfl, b1⟩; obtain ⟨d0, d1, d2, d3, d4, d5⟩ := cells6 (keep_bel b1 z1.out); have B1 := Lib.hid (bel_trans H0.out b1); clear b1))
        | fail)
    all_goals
      go_ret
      refine ⟨?_, B1.out⟩
      clear d0 d1 d2 d3 d4 d5 c0 c1 c2 c3 c4 c5 z1 B1 H0
      cases h1 : Op.bytesLess s.toList m.ky.toList <;> simp_all [touB, has, sb, emp, lt]
      try (cases h2 : Op.bytesLess m.ky.toList s.toList <;> simp_all)
set_option maxHeartbeats 2000000 in
theorem on_any (m : MG) (hd : DlOk m) (s v : ByteArray) (is : Bool) (hn : is = false → v = emptyS) (w : World) :
    Calls Tryz.prog 33 #[MV m, .string s, .string v, .bool is] w fun r w' => r = .returned (QV (onQ m s (v, is))) ∧ Below w.heap.size w w' := by
  obtain ⟨q, hq⟩ : ∃ q, onQ m s (v, is) = q := ⟨_, rfl⟩
  rw [hq]
  have HQ := Lib.hid hq
  clear hq
  obtain ⟨t, ht⟩ : ∃ t, touB m s = t := ⟨_, rfl⟩
  have AT := Lib.hid (rtouches_any m s)
  rw [ht] at AT
  have AD := Lib.hid (fun W => radd8_any v is m.dl W hd.1 hd.2)
  have HT := Lib.hid ht
  clear ht
  have B0 := Lib.hid (alb w (MO m))
  have Z0 := Lib.hid (heap_alloc_new w (MO m))
  obtain ⟨c0, c1, c2, c3, c4, c5⟩ := cells6 Z0.out
  clear hd
  go_enter Tryz.func33, Tryz.ntmps33
  cases is
  all_goals
    try (have hv := hn rfl; subst hv)
    clear hn
    cases t
    · have HE := Lib.hid (show q = _ by rw [← HQ.out, onQ_no HT.out])
      go_wp2_with (first
        | (go_at_call 66; ((with_reducible refine (AT.out _).mono ?_); rintro e w1 ⟨rfl, b1⟩; have B1 := Lib.hid (bel_trans B0.out b1); clear b1))
        | fail)
      refine bodyPost_ret (v := QV q) (by rw [HE.out]; simp [results, Tryz.results33, go_sem]) rfl ⟨rfl, B1.out⟩
    · by_cases k1 : m.kd = 1
      · have kb : (m.kd == 1) = true := by simpa using k1
        have HE := Lib.hid (show q = (m.vl, true) by rw [← HQ.out]; unfold onQ; rw [HT.out, if_pos rfl, if_pos k1])
        clear k1
        go_wp2_with (first
          | (go_at_call 66; ((with_reducible refine (AT.out _).mono ?_); rintro e w1 ⟨rfl, b1⟩; have B1 := Lib.hid (bel_trans B0.out b1); clear c0 c1 c2 c3 c4 c5; obtain ⟨c0, c1, c2, c3, c4, c5⟩ := cells6 (keep_bel b1 Z0.out); clear b1))
          | fail)
        refine bodyPost_ret (v := QV q) (by rw [HE.out]; simp [results, Tryz.results33, go_sem]) rfl ⟨rfl, B1.out⟩
      · have kb : (m.kd == 1) = false := by simpa using k1
        by_cases k3 : m.kd = 3
        · have kc : (m.kd == 3) = true := by simpa using k3
          have HE := Lib.hid (HQ.out.symm.trans (onQ_add HT.out k3 _ _))
          clear k1 k3
          go_wp2_with (first
            | (go_at_call 66; ((with_reducible refine (AT.out _).mono ?_); rintro e w1 ⟨rfl, b1⟩; have B1 := Lib.hid (bel_trans B0.out b1); clear c0 c1 c2 c3 c4 c5; obtain ⟨c0, c1, c2, c3, c4, c5⟩ := cells6 (keep_bel b1 Z0.out); clear b1))
            | (go_at_call 67; ((with_reducible refine (AD.out _).mono ?_); rintro e w2 ⟨rfl, b2⟩; have B2 := Lib.hid (bel_trans B1.out b2); clear b2))
            | fail)
          refine bodyPost_ret (v := QV q) (by rw [HE.out]; simp [results, Tryz.results33, go_sem]) rfl ⟨rfl, B2.out⟩
        · have kc : (m.kd == 3) = false := by simpa using k3
          have HE := Lib.hid (show q = (emptyS, false) by rw [← HQ.out]; unfold onQ; rw [HT.out, if_pos rfl, if_neg k1, if_neg k3])
          clear k1 k3
          go_wp2_with (first
            | (go_at_call 66; ((with_reducible refine (AT.out _).mono ?_); rintro e w1 ⟨rfl, b1⟩; have B1 := Lib.hid (bel_trans B0.out b1); clear c0 c1 c2 c3 c4 c5; obtain ⟨c0, c1, c2, c3, c4, c5⟩ := cells6 (keep_bel b1 Z0.out); clear b1))
            | fail)
          refine bodyPost_ret (v := QV q) (by rw [HE.out]; simp [results, Tryz.results33, go_sem]) rfl ⟨rfl, B1.out⟩
def startQ (v : ByteArray) (is : Bool) : ByteArray × Bool := (if is then v else emptyS, is)
theorem valL_nq {xs : List MG} {s : ByteArray} {q : ByteArray × Bool} (h : NQ q) : NQ (valL xs s q) := by
  induction xs generalizing q with
  | nil => exact h
  | cons x xs ih => exact ih (onQ_nq h)
theorem start_nq (v : ByteArray) (is : Bool) : NQ (startQ v is) := by
  unfold NQ startQ; cases is
  · intro _; rfl
  · intro h; cases h
set_option maxRecDepth 10000 in
set_option maxHeartbeats 4000000 in
theorem value_any (A : Option Addr) (n cap : Nat) (xs : List MG) (s v : ByteArray) (is : Bool) (w : World) (hl : xs.length = n) (hn : n ≤ 1000) (hA : EG.Rd w A xs) (hd : ∀ x ∈ xs, DlOk x) :
    Calls Tryz.prog 12 #[.slice A n cap, .string s, .string v, .bool is] w fun r w' => r = .returned (QV (valL xs s (startQ v is))) ∧ Below w.heap.size w w' := by
  have HL := Lib.hid hl
  have HA := Lib.hid hA
  have HD := Lib.hid hd
  clear hl hA hd
  obtain ⟨q, hq⟩ : ∃ q, valL xs s (startQ v is) = q := ⟨_, rfl⟩
  rw [hq]
  have HQ := Lib.hid hq
  clear hq
  obtain ⟨p, hp⟩ : ∃ p, startQ v is = p := ⟨_, rfl⟩
  have HP := Lib.hid hp
  clear hp
  go_enter Tryz.func12, Tryz.ntmps12
  cases is
  all_goals
    have HPP := Lib.hid (show p = _ from HP.out.symm)
    go_wp2
    go_loopw [2, 3, 10] (fun sv bv iv wr => ∃ (k : Nat), k ≤ n ∧ iv = .int .i64 k ∧ sv = .string (valL (xs.take k) s p).1 ∧ bv = .bool (valL (xs.take k) s p).2 ∧ Below w.heap.size w wr) (fun _ _ i _ => n - (intOf i).toNat)
    case atStart => exact ⟨0, by omega, rfl, by rw [HPP.out]; rfl, by rw [HPP.out]; rfl, Below.refl _ _⟩
    case round =>
      obtain ⟨k, hk, rfl, rfl, rfl, hb⟩ := hrel
      have HB := Lib.hid hb
      clear hb
      have HNQ := Lib.hid (valL_nq (xs := xs.take k) (s := s) (q := p) (by rw [HPP.out]; exact start_nq _ _))
      by_cases h8 : k < n
      · have hk1 : (k : Int) < (n : Int) := by omega
        have hk0 : (0 : Int) ≤ (k : Int) := by omega
        obtain ⟨x, hx⟩ : ∃ x, xs[k]? = some x := ⟨_, List.getElem?_eq_getElem (by rw [HL.out]; omega)⟩
        obtain ⟨b, off, rfl, hlt, g0, g1, g2, g3, g4, g5⟩ := eg_at (HA.out.later HB.out) hx
        have HNX := Lib.hid (valL_next hx s p)
        have AO := Lib.hid (on_any x (HD.out x (List.mem_of_getElem? hx)) s (valL (xs.take k) s p).1 (valL (xs.take k) s p).2 HNQ.out wr)
        clear hx hlt
        obtain ⟨⟨y, z⟩, hy⟩ : ∃ y, valL (xs.take k) s p = y := ⟨_, rfl⟩
        rw [hy] at HNX AO ⊢
        clear hy HNQ
        go_wp2_with (first
          | (go_at_call 33; ((with_reducible refine AO.out.mono ?_); rintro e w1 ⟨rfl, b1⟩; have B1 := Lib.hid (bel_trans HB.out b1); clear b1))
          | fail)
        exact ⟨⟨k + 1, by omega, by simp, by rw [HNX.out], by rw [HNX.out], B1.out⟩, by simp [intOf]; omega⟩
      · have hk1 : ¬ (k : Int) < (n : Int) := by omega
        have e : xs.take k = xs := List.take_of_length_le (by rw [HL.out]; omega)
        rw [e]
        have HE : Hid (valL xs s p = q) := Lib.hid (by rw [← HQ.out, ← HP.out])
        obtain ⟨⟨y, z⟩, hy⟩ : ∃ y, valL xs s p = y := ⟨_, rfl⟩
        rw [hy] at HE ⊢
        clear hy HNQ
        have he := HE.out
        subst he
        go_wp2
        refine bodyPost_ret (v := QV (y, z)) (by simp [results, Tryz.results12, go_sem]) rfl ⟨rfl, HB.out⟩
end Go.Proofs.YtilnpeekajnlhaaGreat
namespace Go.Proofs.YtilnpeekajnlhaaGreat
open Go.ChangeShapes Go.WideShapes Go.ChangeAt Go.RowKit Go.Joins
set_option maxRecDepth 10000 in
theorem msg_cells2 {H : Type} {enc : TypeId × Value → H} {w : World} {base : Nat} {spare : Nat → Bool} {held : Bool} {n : Nat} {a : Addr} {cs : List Value} {x : DataW H × List MemPlace}
    (hc : w.cells? base a 6 = some cs) (h : DataW.trod enc Tryz.prog w base spare held n 50 cs = some x) (hw : ∀ q ∈ x.1.weights Tryz.prog 50, q ≤ reachBytes) :
    ∃ t : MG, (∀ j u, (EG.cs t)[j]? = some u → w.cell? (a.add j) = some u) ∧ t.Ok ∧ DlOk t := by
  obtain ⟨_, hl, hi⟩ := World.cells?_some hc
  obtain ⟨xs, m, _, hxe, _, hxl, hel⟩ := DataW.trod_struct Tryz.underlying50 h
  match cs, hl, xs, hxl with
  | [c0, c1, c2, c3, c4, c5], _, [y0, y1, y2, y3, y4, y5], _ =>
    have h0 := hel 0 _ rfl
    have h1 := hel 1 _ rfl
    have h2 := hel 2 _ rfl
    have h3 := hel 3 _ rfl
    have h4 := hel 4 _ rfl
    have h5 := hel 5 _ rfl
    simp [od_c3, od_c9, od_c28, od_c29] at h0 h1 h2 h3 h4 h5
    obtain ⟨p0, e0, _, _⟩ := DataW.trod_int Tryz.underlying47 h0
    obtain ⟨p1, e1, _, _⟩ := DataW.trod_int Tryz.underlying3 h1
    obtain ⟨p2, e2, z2, _⟩ := DataW.trod_string Tryz.underlying9 h2
    obtain ⟨p3, e3, z3, _⟩ := DataW.trod_string Tryz.underlying9 h3
    obtain ⟨p4, e4, z4, _⟩ := DataW.trod_string Tryz.underlying9 h4
    obtain ⟨p5, e5, _, w5⟩ := DataW.trod_int Tryz.underlying48 h5
    simp at e0 e1 e2 e3 e4 e5
    subst e0 e1 e2 e3 e4 e5
    have hr : reachBytes ≤ 140737488355328 := by decide
    refine ⟨⟨p0, p1, p2, p3, p4, p5⟩, fun j u hu => ?_, ⟨?_, ?_, ?_⟩, ?_⟩
    · match j, hu with
      | 0, hu => simp [EG] at hu; subst hu; simpa using hi 0 (by omega)
      | 1, hu => simp [EG] at hu; subst hu; simpa using hi 1 (by omega)
      | 2, hu => simp [EG] at hu; subst hu; simpa using hi 2 (by omega)
      | 3, hu => simp [EG] at hu; subst hu; simpa using hi 3 (by omega)
      | 4, hu => simp [EG] at hu; subst hu; simpa using hi 4 (by omega)
      | 5, hu => simp [EG] at hu; subst hu; simpa using hi 5 (by omega)
      | j + 6, hu => simp [EG] at hu
    · exact Nat.le_trans (hw p2.size (by rw [hxe]; exact w_agg Tryz.underlying50 (j := 2) (d := y2.1) rfl rfl (by rw [z2]; simp [DataW.weights]))) hr
    · exact Nat.le_trans (hw p3.size (by rw [hxe]; exact w_agg Tryz.underlying50 (j := 3) (d := y3.1) rfl rfl (by rw [z3]; simp [DataW.weights]))) hr
    · exact Nat.le_trans (hw p4.size (by rw [hxe]; exact w_agg Tryz.underlying50 (j := 4) (d := y4.1) rfl rfl (by rw [z4]; simp [DataW.weights]))) hr
    · simp [Lit.wf] at w5
      have m1 : IntKind.u64.min = 0 := by decide
      have m2 : IntKind.u64.max = 18446744073709551615 := by decide
      rw [m1, m2] at w5
      exact ⟨w5.1, by show p5 < _; omega⟩
theorem msgs_open2 {H : Type} {enc : TypeId × Value → H} {w : World} {base : Nat} {spare : Nat → Bool} {held : Bool} {a : Option Addr} {n c : Nat} {d : DataW H} {p : List MemPlace} (h : DataW.Trod enc Tryz.prog w base spare held 25 (.slice a n c) d p) (hw : ∀ q ∈ d.weights Tryz.prog 25, q ≤ reachBytes) :
    ∃ xs, n ≤ c ∧ c ≤ maxLen ∧ xs.length = n ∧ EG.Rd w a xs ∧ OkA xs ∧ ∀ x ∈ xs, DlOk x := by
  obtain ⟨fuel, hf⟩ := h
  rcases Go.Deep.open_slice Tryz.underlying25 hf with ⟨hcs, _⟩ | ⟨x, l, c', m, n', D, Pl, hcs, _, hl, hm, hmm, hxe, hx⟩
  · simp [Value.cells] at hcs
    obtain ⟨rfl, rfl, rfl⟩ := hcs
    exact ⟨[], Nat.le_refl _, Nat.zero_le _, rfl, .inl rfl, (fun x hx => by cases hx), (fun x hx => by cases hx)⟩
  · simp [Value.cells] at hcs
    obtain ⟨rfl, rfl, rfl⟩ := hcs
    by_cases h0 : n = 0
    · exact ⟨[], hl, hm, h0.symm, .inl rfl, (fun x hx => by cases hx), (fun x hx => by cases hx)⟩
    · have hall : ∀ i : Nat, ∃ t : MG, (i < n → ∀ j u, (EG.cs t)[j]? = some u → w.cell? ((x.add (i * 6)).add j) = some u) ∧ t.Ok ∧ DlOk t := by
        intro i
        by_cases hi : i < n
        · obtain ⟨cs', hc, ht⟩ := hx i (by rw [hmm]; split <;> omega)
          rw [od_c31] at hc
          obtain ⟨t, h3, h4⟩ := msg_cells2 hc ht (fun q hq => hw q (by have hd : d = _ := congrArg Prod.fst hxe; rw [hd]; exact w_slice Tryz.underlying25 (List.mem_map.2 ⟨i, by simpa using hi, rfl⟩) hq))
          exact ⟨t, fun _ => h3, h4⟩
        · exact ⟨⟨0, 0, .empty, .empty, .empty, 0⟩, fun h => absurd h hi, zok, by refine ⟨?_, ?_⟩ <;> decide⟩
      obtain ⟨f, hf''⟩ := Classical.axiomOfChoice hall
      have hf' := fun i => (hf'' i).1
      obtain ⟨b, off, spot⟩ := x
      have z := hf' 0 (by omega) 0 _ rfl
      have hs : spot = none := by simpa [Addr.add] using World.cell?_spot z
      subst hs
      have hb : b < w.heap.size := by simpa [Addr.add] using World.block_lt_of_cell? w _ z
      refine ⟨(List.range n).map f, hl, hm, by simp, .inr ⟨b, off, rfl, hb, fun j u hj => ?_⟩, fun y hy => ?_, fun y hy => ?_⟩
      · obtain ⟨k, i, y, hk, rfl, hu⟩ := RE.all_at EG hj
        rw [List.getElem?_map] at hk
        have hkn : k < n := by
          cases hr : (List.range n)[k]? with
          | none => rw [hr] at hk; cases hk
          | some q => have := (List.getElem?_eq_some_iff.1 hr).1; simpa using this
        rw [List.getElem?_range hkn] at hk
        simp at hk
        subst hk
        have q := hf' k hkn i u hu
        have e0 : ((⟨b, off, none⟩ : Addr).add (k * 6)).add i = ⟨b, off + (k * EG.k + i), none⟩ := by
          have : EG.k = 6 := rfl
          rw [this]
          by_cases y1 : k * 6 = 0 <;> by_cases y2 : i = 0 <;> simp [Addr.add, y1, y2] <;> omega
        rw [e0] at q
        exact q
      · obtain ⟨k, _, rfl⟩ := List.mem_map.1 hy
        exact (hf'' k).2.1
      · obtain ⟨k, _, rfl⟩ := List.mem_map.1 hy
        exact (hf'' k).2.2
end Go.Proofs.YtilnpeekajnlhaaGreat
namespace Go.Proofs.YtilnpeekajnlhaaGreat.Pv
open Go.RowKit

theorem retB_eq {a b : Bool} (h : b = a) : Ending.returned (.bool a) = Ending.returned (.bool b) := by rw [h]
/-- Texts behind a slice. -/
abbrev RdS (w : World) (A : Option Addr) (p : List ByteArray) : Prop := Rd w w.heap.size A (p.map Value.string)
def at_ (p : List ByteArray) (i : Nat) : ByteArray := p.getD i emptyS
theorem rds_get {w : World} {A : Option Addr} {p : List ByteArray} (h : RdS w A p) {k : Nat} (hk : k < p.length) : ∃ b off, A = some ⟨b, off, none⟩ ∧ b < w.heap.size ∧ w.cell? ⟨b, off + k, none⟩ = some (.string (at_ p k)) := by
  have := Rd.get h (k := k) (u := .string (at_ p k)) (by rw [List.getElem?_map, List.getElem?_eq_getElem hk, at_, List.getD_eq_getElem?_getD, List.getElem?_eq_getElem hk]; rfl)
  exact this
def riseK (p : List ByteArray) : Nat → Bool
  | 0 => true
  | k + 1 => riseK p k && (decide (k = 0) || lt (at_ p (k - 1)) (at_ p k))
def risesB (p : List ByteArray) : Bool := riseK p p.length
theorem rise_less {p : List ByteArray} {k : Nat} (h : riseK p k = false) : ∀ j, k ≤ j → riseK p j = false := by
  intro j hj
  induction j with
  | zero =>
    have e : k = 0 := by omega
    subst e; exact h
  | succ j ih =>
    by_cases e : k = j + 1
    · subst e; exact h
    · simp [riseK, ih (by omega)]
set_option maxHeartbeats 1000000 in
theorem rises_any (A : Option Addr) (p : List ByteArray) (n c : Nat) (w : World) (hl : p.length = n) (hn : n ≤ 1000) (hr : RdS w A p) :
    Calls Tryz.prog 57 #[.slice A n c] w fun e w' => e = .returned (.bool (risesB p)) ∧ Below w.heap.size w w' := by
  have HR := Lib.hid hr
  have HL := Lib.hid hl
  clear hr hl
  go_enter Tryz.func57, Tryz.ntmps57
  go_wp2
  go_loopw [3] (fun iv wr => ∃ k d : Nat, 1 ≤ k ∧ (k ≤ n ∨ k = 1) ∧ iv = .int .i64 k ∧ riseK p k = true ∧ wr = w.drewN d) (fun i _ => n + 1 - (intOf i).toNat)
  case atStart => exact ⟨1, 0, by omega, by omega, rfl, rfl, rfl⟩
  case round =>
    obtain ⟨k, d, hk1, hk, rfl, hh, hwr⟩ := hrel
    have HH := Lib.hid hh
    have HW := Lib.hid hwr
    clear hh hwr
    by_cases h8 : k < n
    · have i1 : (k : Int) < (n : Int) := by omega
      have i0 : (0 : Int) ≤ (k : Int) := by omega
      have i2 : (0 : Int) ≤ (k : Int) - 1 := by omega
      have i3 : (k : Int) - 1 < (n : Int) := by omega
      obtain ⟨b, off, rfl, hlt, f0⟩ := rds_get HR.out (k := k) (by have := HL.out; omega)
      obtain ⟨b2, off2, e2, _, f1⟩ := rds_get HR.out (k := k - 1) (by have := HL.out; omega)
      cases e2
      have g0 : wr.cell? ⟨b, off + k, none⟩ = some (.string (at_ p k)) := by rw [HW.out]; exact f0
      have g1 : wr.cell? ⟨b, off + (k - 1), none⟩ = some (.string (at_ p (k - 1))) := by rw [HW.out]; exact f1
      have e3 : ((k : Int) - 1).toNat = k - 1 := by omega
      have hst : riseK p (k + 1) = (riseK p k && (decide (k = 0) || lt (at_ p (k - 1)) (at_ p k))) := rfl
      have hk0 : decide (k = 0) = false := by simp; omega
      rw [HH.out, hk0, Bool.true_and, Bool.false_or] at hst
      obtain ⟨x, hx⟩ : ∃ x, x = at_ p k := ⟨_, rfl⟩
      obtain ⟨y, hy⟩ : ∃ y, y = at_ p (k - 1) := ⟨_, rfl⟩
      rw [← hx] at g0 hst
      rw [← hy] at g1 hst
      have HST := Lib.hid hst
      clear hst hx hy f0 f1 hk0
      cases hq : lt y x
      · have hr : Hid (risesB p = false) := Lib.hid (rise_less (k := k + 1) (by rw [HST.out, hq]) _ (by have := HL.out; omega))
        rcases le_facts y x hq with ⟨k1, k2⟩ | ⟨k1, k2⟩
        all_goals
          have k3 := (BEq.comm (a := y.toList) (b := x.toList)).trans k2
          have k4 : Op.bytesLess y.toList x.toList = false := hq
          clear hq
          go_wp2_with fail
          go_quiet (fail)
          go_wp2
          go_ret
          exact ⟨retB_eq hr.out, by rw [HW.out, World.drewN_drewN]; exact bel_drewN (Below.refl _ _) _⟩
      · obtain ⟨k1, k2⟩ := gt_facts y x hq
        have k3 := (BEq.comm (a := y.toList) (b := x.toList)).trans k2
        have k4 : Op.bytesLess y.toList x.toList = true := hq
        have hr : Hid (riseK p (k + 1) = true) := Lib.hid (by rw [HST.out, hq])
        clear hq
        go_wp2_with fail
        go_quiet (fail)
        go_wp2
        exact ⟨⟨k + 1, d + nq, by omega, by omega, by simp, hr.out, by rw [HW.out, World.drewN_drewN]⟩, by simp [intOf]; omega⟩
    · have i1 : ¬ (k : Int) < (n : Int) := by omega
      have hr : Hid (risesB p = true) := Lib.hid (by
        unfold risesB
        rw [HL.out]
        rcases Nat.eq_zero_or_pos n with h | h
        · rw [h]; rfl
        · have e : k = n := by omega
          rw [← e]; exact HH.out)
      go_wp2
      go_ret
      exact ⟨retB_eq hr.out, by rw [HW.out]; exact bel_drewN (Below.refl _ _) d⟩
set_option maxHeartbeats 1000000 in
theorem rrises_any (A : Option Addr) (p : List ByteArray) (n c : Nat) (w : World) (hl : p.length = n) (hn : n ≤ 1000) (hr : RdS w A p) :
    Calls Tryz.prog 39 #[.slice A n c] w fun e w' => e = .returned (.bool (risesB p)) ∧ Below w.heap.size w w' := by
  have HR := Lib.hid hr
  have HL := Lib.hid hl
  clear hr hl
  go_enter Tryz.func39, Tryz.ntmps39
  go_wp2
  go_loopw [3] (fun iv wr => ∃ k d : Nat, 1 ≤ k ∧ (k ≤ n ∨ k = 1) ∧ iv = .int .i64 k ∧ riseK p k = true ∧ wr = w.drewN d) (fun i _ => n + 1 - (intOf i).toNat)
  case atStart => exact ⟨1, 0, by omega, by omega, rfl, rfl, rfl⟩
  case round =>
    obtain ⟨k, d, hk1, hk, rfl, hh, hwr⟩ := hrel
    have HH := Lib.hid hh
    have HW := Lib.hid hwr
    clear hh hwr
    by_cases h8 : k < n
    · have i1 : (k : Int) < (n : Int) := by omega
      have i0 : (0 : Int) ≤ (k : Int) := by omega
      have i2 : (0 : Int) ≤ (k : Int) - 1 := by omega
      have i3 : (k : Int) - 1 < (n : Int) := by omega
      obtain ⟨b, off, rfl, hlt, f0⟩ := rds_get HR.out (k := k) (by have := HL.out; omega)
      obtain ⟨b2, off2, e2, _, f1⟩ := rds_get HR.out (k := k - 1) (by have := HL.out; omega)
      cases e2
      have g0 : wr.cell? ⟨b, off + k, none⟩ = some (.string (at_ p k)) := by rw [HW.out]; exact f0
      have g1 : wr.cell? ⟨b, off + (k - 1), none⟩ = some (.string (at_ p (k - 1))) := by rw [HW.out]; exact f1
      have e3 : ((k : Int) - 1).toNat = k - 1 := by omega
      have hst : riseK p (k + 1) = (riseK p k && (decide (k = 0) || lt (at_ p (k - 1)) (at_ p k))) := rfl
      have hk0 : decide (k = 0) = false := by simp; omega
      rw [HH.out, hk0, Bool.true_and, Bool.false_or] at hst
      obtain ⟨x, hx⟩ : ∃ x, x = at_ p k := ⟨_, rfl⟩
      obtain ⟨y, hy⟩ : ∃ y, y = at_ p (k - 1) := ⟨_, rfl⟩
      rw [← hx] at g0 hst
      rw [← hy] at g1 hst
      have HST := Lib.hid hst
      clear hst hx hy f0 f1 hk0
      cases hq : lt y x
      · have hr : Hid (risesB p = false) := Lib.hid (rise_less (k := k + 1) (by rw [HST.out, hq]) _ (by have := HL.out; omega))
        rcases le_facts y x hq with ⟨k1, k2⟩ | ⟨k1, k2⟩
        all_goals
          have k3 := (BEq.comm (a := y.toList) (b := x.toList)).trans k2
          have k4 : Op.bytesLess y.toList x.toList = false := hq
          clear hq
          go_wp2_with fail
          go_quiet (fail)
          go_wp2
          go_ret
          exact ⟨retB_eq hr.out, by rw [HW.out, World.drewN_drewN]; exact bel_drewN (Below.refl _ _) _⟩
      · obtain ⟨k1, k2⟩ := gt_facts y x hq
        have k3 := (BEq.comm (a := y.toList) (b := x.toList)).trans k2
        have k4 : Op.bytesLess y.toList x.toList = true := hq
        have hr : Hid (riseK p (k + 1) = true) := Lib.hid (by rw [HST.out, hq])
        clear hq
        go_wp2_with fail
        go_quiet (fail)
        go_wp2
        exact ⟨⟨k + 1, d + nq, by omega, by omega, by simp, hr.out, by rw [HW.out, World.drewN_drewN]⟩, by simp [intOf]; omega⟩
    · have i1 : ¬ (k : Int) < (n : Int) := by omega
      have hr : Hid (risesB p = true) := Lib.hid (by
        unfold risesB
        rw [HL.out]
        rcases Nat.eq_zero_or_pos n with h | h
        · rw [h]; rfl
        · have e : k = n := by omega
          rw [← e]; exact HH.out)
      go_wp2
      go_ret
      exact ⟨retB_eq hr.out, by rw [HW.out]; exact bel_drewN (Below.refl _ _) d⟩
end Go.Proofs.YtilnpeekajnlhaaGreat.Pv
namespace Go.Proofs.YtilnpeekajnlhaaGreat.Pv
open Go.RowKit

def prtK (p : List ByteArray) (s : ByteArray) : Nat → Nat
  | 0 => 0
  | k + 1 => prtK p s k + (if lt s (at_ p k) = true then 0 else 1)
def prt (p : List ByteArray) (s : ByteArray) : Nat := prtK p s p.length
theorem prtK_le (p : List ByteArray) (s : ByteArray) : ∀ k, prtK p s k ≤ k
  | 0 => Nat.le_refl _
  | k + 1 => by have := prtK_le p s k; simp only [prtK]; split <;> omega
set_option maxHeartbeats 1000000 in
theorem part_any (A : Option Addr) (p : List ByteArray) (n c : Nat) (s : ByteArray) (w : World) (hl : p.length = n) (hn : n ≤ 1000) (hr : RdS w A p) :
    Calls Tryz.prog 47 #[.slice A n c, .string s] w fun e w' => e = .returned (.int .i64 (prt p s : Nat)) ∧ Below w.heap.size w w' := by
  have HR := Lib.hid hr
  have HL := Lib.hid hl
  clear hr hl
  go_enter Tryz.func47, Tryz.ntmps47
  go_wp2
  go_loopw [5, 7, 10] (fun nv _ iv wr => ∃ k d : Nat, k ≤ n ∧ iv = .int .i64 k ∧ nv = .int .i64 (prtK p s k : Nat) ∧ wr = w.drewN d) (fun _ _ i _ => n - (intOf i).toNat)
  case atStart => exact ⟨0, 0, by omega, rfl, rfl, rfl⟩
  case round =>
    obtain ⟨k, d, hk, rfl, rfl, hwr⟩ := hrel
    have HW := Lib.hid hwr
    clear hwr
    have HPL := Lib.hid (prtK_le p s k)
    by_cases h8 : k < n
    · have i1 : (k : Int) < (n : Int) := by omega
      have i0 : (0 : Int) ≤ (k : Int) := by omega
      obtain ⟨b, off, rfl, hlt, f0⟩ := rds_get HR.out (k := k) (by have := HL.out; omega)
      have g0 : wr.cell? ⟨b, off + k, none⟩ = some (.string (at_ p k)) := by rw [HW.out]; exact f0
      have hst : prtK p s (k + 1) = prtK p s k + (if lt s (at_ p k) = true then 0 else 1) := rfl
      obtain ⟨x, hx⟩ : ∃ x, x = at_ p k := ⟨_, rfl⟩
      rw [← hx] at g0 hst
      obtain ⟨q, hq⟩ : ∃ q, q = prtK p s k := ⟨_, rfl⟩
      have hq1 : q ≤ 1000 := by have := HPL.out; omega
      have hq2 : (0 : Int) ≤ (q : Int) := by omega
      have hq3 : (q : Int) ≤ 1000 := by omega
      rw [← hq] at hst ⊢
      have HST := Lib.hid hst
      clear hst hx f0 hq
      cases hv : lt s x
      · have hr : Hid (((prtK p s (k + 1) : Nat) : Int) = (q : Int) + 1) := Lib.hid (by rw [HST.out, hv]; simp)
        rcases le_facts s x hv with ⟨k1, k2⟩ | ⟨k1, k2⟩
        all_goals
          clear hv HST
          go_wp2
          refine ⟨⟨k + 1, d, by omega, by simp, by rw [hr.out], HW.out⟩, ?_⟩
          simp [intOf]
          omega
      · obtain ⟨k1, k2⟩ := gt_facts s x hv
        have hr : Hid (((prtK p s (k + 1) : Nat) : Int) = (q : Int)) := Lib.hid (by rw [HST.out, hv]; simp)
        clear hv HST
        go_wp2
        refine ⟨⟨k + 1, d, by omega, by simp, by rw [hr.out], HW.out⟩, ?_⟩
        simp [intOf]
        omega
    · have i1 : ¬ (k : Int) < (n : Int) := by omega
      have hr : Hid (prt p s = prtK p s k) := Lib.hid (by unfold prt; rw [HL.out]; congr 1; omega)
      go_wp2
      go_ret
      exact ⟨by rw [hr.out]; rfl, by rw [HW.out]; exact bel_drewN (Below.refl _ _) d⟩

end Go.Proofs.YtilnpeekajnlhaaGreat.Pv
