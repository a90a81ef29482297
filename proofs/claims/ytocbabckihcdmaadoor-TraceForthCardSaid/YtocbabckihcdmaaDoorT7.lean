/- The move that a line's words tell. -/
import Derived.Test.YtocbabckihcdmaaDoorT6
namespace Go.Proofs.YtocbabckihcdmaaDoor
set_option linter.unusedSimpArgs false
open Go.RowKit Go.Maps
set_option linter.unusedVariables false
/-- Five numbers in a box. -/
def AR (W : World) (g : Nat) (a : Nat → Int) : Prop := ∀ j, j < 5 → W.cell? ⟨g, j, none⟩ = some (.int .i64 (a j)) ∧ W.frozen? ⟨g, j, none⟩ = false
theorem AR.lt {W : World} {g : Nat} {a : Nat → Int} (h : AR W g a) : g < W.heap.size := World.block_lt_of_cell? W _ (h 0 (by omega)).1
theorem AR.later {W W' : World} {g : Nat} {a : Nat → Int} (h : AR W g a) (b : Below W.heap.size W W') : AR W' g a :=
  fun j hj => ⟨bel_later b (h j hj).1, (bel_frozen b h.lt).trans (h j hj).2⟩
def upd (a : Nat → Int) (k : Nat) (v : Int) : Nat → Int := fun j => if j = k then v else a j
theorem AR.set {W : World} {g : Nat} {a : Nat → Int} (h : AR W g a) (k : Nat) (hk : k < 5) (v : Int) : AR (W.setCell ⟨g, k, none⟩ (.int .i64 v)) g (upd a k v) := by
  intro j hj
  unfold upd
  constructor
  · by_cases e : j = k
    · subst e
      rw [if_pos rfl]
      exact World.cell?_setCell_same _ _ _ (h j hj).1
    · rw [if_neg e]
      exact (World.cell?_setCell_other _ _ _ _ (by intro q; cases q; exact e rfl)).trans (h j hj).1
  · rw [World.frozen?_setCell]; exact (h j hj).2
theorem AR.new (w : World) (t : TypeId) : AR (w.alloc (.cells #[.int .i64 0, .int .i64 0, .int .i64 0, .int .i64 0, .int .i64 0] t)) w.heap.size (fun _ => 0) := by
  have z := heap_alloc_new w (.cells #[.int .i64 0, .int .i64 0, .int .i64 0, .int .i64 0, .int .i64 0] t)
  generalize w.alloc (.cells #[.int .i64 0, .int .i64 0, .int .i64 0, .int .i64 0, .int .i64 0] t) = W at z
  intro j hj
  match j, hj with
  | 0, _ => simp [World.cell?, World.frozen?, z]
  | 1, _ => simp [World.cell?, World.frozen?, z]
  | 2, _ => simp [World.cell?, World.frozen?, z]
  | 3, _ => simp [World.cell?, World.frozen?, z]
  | 4, _ => simp [World.cell?, World.frozen?, z]
theorem set5_0 {W : World} {g : Nat} {a b c d e : Value} {t : TypeId} (z : W.heap[g]? = some (.cells #[a, b, c, d, e] t (0, 0))) (v : Value) : (W.setCell ⟨g, 0, none⟩ v).heap[g]? = some (.cells #[v, b, c, d, e] t (0, 0)) := by
  have hlt : g < W.heap.size := (Array.getElem?_eq_some_iff.1 z).1
  have q : W.heap[g] = .cells #[a, b, c, d, e] t (0, 0) := by have := z; rw [Array.getElem?_eq_getElem hlt] at this; exact Option.some.inj this
  rw [Array.getElem?_eq_getElem (by simpa [World.setCell] using hlt)]
  simp [World.setCell, Array.getElem_modify, q]
theorem set5_1 {W : World} {g : Nat} {a b c d e : Value} {t : TypeId} (z : W.heap[g]? = some (.cells #[a, b, c, d, e] t (0, 0))) (v : Value) : (W.setCell ⟨g, 1, none⟩ v).heap[g]? = some (.cells #[a, v, c, d, e] t (0, 0)) := by
  have hlt : g < W.heap.size := (Array.getElem?_eq_some_iff.1 z).1
  have q : W.heap[g] = .cells #[a, b, c, d, e] t (0, 0) := by have := z; rw [Array.getElem?_eq_getElem hlt] at this; exact Option.some.inj this
  rw [Array.getElem?_eq_getElem (by simpa [World.setCell] using hlt)]
  simp [World.setCell, Array.getElem_modify, q]
theorem set5_2 {W : World} {g : Nat} {a b c d e : Value} {t : TypeId} (z : W.heap[g]? = some (.cells #[a, b, c, d, e] t (0, 0))) (v : Value) : (W.setCell ⟨g, 2, none⟩ v).heap[g]? = some (.cells #[a, b, v, d, e] t (0, 0)) := by
  have hlt : g < W.heap.size := (Array.getElem?_eq_some_iff.1 z).1
  have q : W.heap[g] = .cells #[a, b, c, d, e] t (0, 0) := by have := z; rw [Array.getElem?_eq_getElem hlt] at this; exact Option.some.inj this
  rw [Array.getElem?_eq_getElem (by simpa [World.setCell] using hlt)]
  simp [World.setCell, Array.getElem_modify, q]
theorem set5_3 {W : World} {g : Nat} {a b c d e : Value} {t : TypeId} (z : W.heap[g]? = some (.cells #[a, b, c, d, e] t (0, 0))) (v : Value) : (W.setCell ⟨g, 3, none⟩ v).heap[g]? = some (.cells #[a, b, c, v, e] t (0, 0)) := by
  have hlt : g < W.heap.size := (Array.getElem?_eq_some_iff.1 z).1
  have q : W.heap[g] = .cells #[a, b, c, d, e] t (0, 0) := by have := z; rw [Array.getElem?_eq_getElem hlt] at this; exact Option.some.inj this
  rw [Array.getElem?_eq_getElem (by simpa [World.setCell] using hlt)]
  simp [World.setCell, Array.getElem_modify, q]
theorem set5_4 {W : World} {g : Nat} {a b c d e : Value} {t : TypeId} (z : W.heap[g]? = some (.cells #[a, b, c, d, e] t (0, 0))) (v : Value) : (W.setCell ⟨g, 4, none⟩ v).heap[g]? = some (.cells #[a, b, c, d, v] t (0, 0)) := by
  have hlt : g < W.heap.size := (Array.getElem?_eq_some_iff.1 z).1
  have q : W.heap[g] = .cells #[a, b, c, d, e] t (0, 0) := by have := z; rw [Array.getElem?_eq_getElem hlt] at this; exact Option.some.inj this
  rw [Array.getElem?_eq_getElem (by simpa [World.setCell] using hlt)]
  simp [World.setCell, Array.getElem_modify, q]
theorem set5m {W : World} {g : Nat} {a b c d e : Value} {t : TypeId} (z : W.heap[g]? = some (.cells #[a, b, c, d, e] t (0, 0))) (a' b' c' d' e' : Value) : (((((W.setCell ⟨g, 0, none⟩ a').setCell ⟨g, 1, none⟩ b').setCell ⟨g, 2, none⟩ c').setCell ⟨g, 3, none⟩ d').setCell ⟨g, 4, none⟩ e').heap[g]? = some (.cells #[a', b', c', d', e'] t (0, 0)) :=
  set5_4 (set5_3 (set5_2 (set5_1 (set5_0 z _) _) _) _) _
theorem heap_set_other {W : World} {g k x : Nat} (v : Value) (h : x ≠ g) : (W.setCell ⟨g, k, none⟩ v).heap[x]? = W.heap[x]? := by
  simp [World.setCell, Array.getElem?_modify, Ne.symm h]
theorem bel_set5 {B : Nat} {w W : World} {g : Nat} (h : Below B w W) (hg : B ≤ g) (a b c d e : Value) : Below B w (((((W.setCell ⟨g, 0, none⟩ a).setCell ⟨g, 1, none⟩ b).setCell ⟨g, 2, none⟩ c).setCell ⟨g, 3, none⟩ d).setCell ⟨g, 4, none⟩ e) :=
  ((((h.setCell (p := ⟨g, 0, none⟩) hg a).setCell (p := ⟨g, 1, none⟩) hg b).setCell (p := ⟨g, 2, none⟩) hg c).setCell (p := ⟨g, 3, none⟩) hg d).setCell (p := ⟨g, 4, none⟩) hg e
theorem keep5 {W : World} {g x : Nat} {a b c d e : Value} {o : Obj} (h : x ≠ g) (z : W.heap[x]? = some o) : (((((W.setCell ⟨g, 0, none⟩ a).setCell ⟨g, 1, none⟩ b).setCell ⟨g, 2, none⟩ c).setCell ⟨g, 3, none⟩ d).setCell ⟨g, 4, none⟩ e).heap[x]? = some o := by
  rw [heap_set_other _ h, heap_set_other _ h, heap_set_other _ h, heap_set_other _ h, heap_set_other _ h]; exact z
theorem froz5 {W : World} {g : Nat} {a b c d e : Value} {t : TypeId} (z : W.heap[g]? = some (.cells #[a, b, c, d, e] t (0, 0))) :
    W.frozen? ⟨g, 0, none⟩ = false ∧ W.frozen? ⟨g, 1, none⟩ = false ∧ W.frozen? ⟨g, 2, none⟩ = false ∧ W.frozen? ⟨g, 3, none⟩ = false ∧ W.frozen? ⟨g, 4, none⟩ = false := by
  simp [World.frozen?, z]
def wdA (ws : List ByteArray) (j : Nat) : ByteArray := (ws[j]?).getD ⟨#[]⟩
def okK (ws : List ByteArray) : Nat → Bool
  | 0 => decide (0 ≤ ixW (wdA ws 1))
  | k + 1 => okK ws k && (k == 1 || (canB (wdA ws k)).isSome)
theorem okK_1 (ws : List ByteArray) : okK ws 2 = okK ws 1 := by simp [okK]
theorem okK_next (ws : List ByteArray) {k : Nat} (h : k ≠ 1) : okK ws (k + 1) = (okK ws k && (canB (wdA ws k)).isSome) := by
  have : (k == 1) = false := by simpa using h
  simp [okK, this]
theorem okK_0 (ws : List ByteArray) : ∀ k, okK ws k = true → 0 ≤ ixW (wdA ws 1)
  | 0, h => by simpa [okK] using h
  | k + 1, h => by
    unfold okK at h
    rw [Bool.and_eq_true] at h
    exact okK_0 ws k h.1
def moveM (ws : List ByteArray) : MV := ⟨(canB (wdA ws 0)).getD 0, max (ixW (wdA ws 1)) 0, (canB (wdA ws 2)).getD 0, (canB (wdA ws 3)).getD 0, (canB (wdA ws 4)).getD 0⟩
def moveF (ws : List ByteArray) : Option MV := if ws.length = 5 ∧ okK ws 5 = true ∧ toldB (moveM ws) = true then some (moveM ws) else none
def MoveP (ws : List ByteArray) (w : World) (e : Ending) (w' : World) : Prop := ∃ m b, e = .returned (.tuple #[MA m, .bool b]) ∧ b = (moveF ws).isSome ∧ (∀ m', moveF ws = some m' → m = m') ∧ Below w.heap.size w w'
abbrev zMV : MV := ⟨0, 0, 0, 0, 0⟩
set_option maxRecDepth 100000 in
set_option maxHeartbeats 8000000 in
theorem moveof_not (A : Option Addr) (n cap : Nat) (ws : List ByteArray) (w : World) (hl : ws.length = n) (hn : n ≠ 5) :
    Calls Tryd.prog 30 #[.slice A n cap] w (MoveP ws w) := by
  have hn5 : ¬ (n : Int) = 5 := by omega
  have HF : Hid (moveF ws = none) := Lib.hid (by unfold moveF; rw [if_neg (fun h => hn (hl.symm.trans h.1))])
  have B0 := Lib.hid (alb w (MO zMV))
  have Z0 := Lib.hid (heap_alloc_new w (MO zMV))
  obtain ⟨k0, k1, k2, k3, k4⟩ := cells5 Z0.out
  clear hl hn
  go_enter Tryd.func30, Tryd.ntmps30
  go_wp2
  all_goals first
    | (refine bodyPost_ret (v := .tuple #[MA zMV, .bool false]) (by simp [results, Tryd.results30, go_sem, k0, k1, k2, k3, k4]) rfl ⟨zMV, false, rfl, by rw [HF.out]; rfl, fun m' h => (by rw [HF.out] at h; cases h), B0.out⟩)
    | (exfalso; omega)
set_option maxRecDepth 100000 in
set_option maxHeartbeats 8000000 in
theorem moveof_yes (A : Option Addr) (cap : Nat) (ws : List ByteArray) (w : World) (hl : ws.length = 5) (hR : ES.Rd w A ws) (hs : ∀ x ∈ ws, x.size ≤ 1000000) (h : GW w) :
    Calls Tryd.prog 30 #[.slice A (5 : Nat) cap] w (MoveP ws w) := by
  have HG := Lib.hid (fun W (b : Below w.heap.size w W) => h.later b)
  have HR := Lib.hid (fun W (b : Below w.heap.size w W) => hR.later b)
  have HS := Lib.hid hs
  have HL := Lib.hid hl
  have HW : Hid (∀ k, k < 5 → ws[k]? = some (wdA ws k)) := Lib.hid (fun k hk => by unfold wdA; rw [List.getElem?_eq_getElem (by omega)]; rfl)
  have B0 := Lib.hid (alb w (MO zMV))
  have Z0 := Lib.hid (heap_alloc_new w (MO zMV))
  have WH := Lib.hid (fun W (b : Below w.heap.size w W) => what_any (wdA ws 1) W (h.later b))
  obtain ⟨ix, hix⟩ : ∃ ix, ixW (wdA ws 1) = ix := ⟨_, rfl⟩
  have hxb := ixW_b (wdA ws 1)
  rw [hix] at WH hxb
  have HIX := Lib.hid hix
  obtain ⟨wi, hwi⟩ : ∃ wi, max ix 0 = wi := ⟨_, rfl⟩
  rw [hwi] at WH
  have HWI := Lib.hid (show wi = max ix 0 from hwi.symm)
  have hw0 : 0 ≤ wi := by omega
  have hw1 : wi ≤ 255 := by omega
  have HK0 : Hid (okK ws 0 = decide (0 ≤ ix)) := Lib.hid (by unfold okK; rw [hix])
  obtain ⟨b0, off0, rfl, hlt, g0⟩ := es_at (hR.later B0.out) (HW.out 1 (by omega))
  have h51 : (1 : Int) < 5 := by decide
  clear hl hR hs h hix hxb hwi hlt
  go_enter Tryd.func30, Tryd.ntmps30
  go_upto_region 4 with (first
    | (go_at_call 42; ((with_reducible refine (WH.out _ B0.out).mono ?_); rintro e w1 ⟨rfl, bb⟩; replace B0 := Lib.hid (bel_trans B0.out bb); replace Z0 := Lib.hid (keep_bel bb Z0.out); clear bb g0))
    | fail)
  have AN := Lib.hid (AR.new w1 78)
  have B1 := Lib.hid (bel_alloc B0.out (.cells #[.int .i64 0, .int .i64 0, .int .i64 0, .int .i64 0, .int .i64 0] 78))
  have Z1 := Lib.hid (keep_bel (alb w1 (.cells #[.int .i64 0, .int .i64 0, .int .i64 0, .int .i64 0, .int .i64 0] 78)) Z0.out)
  go_upto_region 6 with fail
  go_loopw [5, 24] (fun ov iv wr => ∃ (k : Nat) (a : Nat → Int), k ≤ 5 ∧ iv = .int .i64 k ∧ ov = .bool (okK ws k) ∧ Hid (AR wr w1.heap.size a) ∧ Hid (okK ws k = true → ∀ j, j < k → j ≠ 1 → canB (wdA ws j) = some (a j)) ∧ Hid (wr.heap[w.heap.size]? = some (MO zMV)) ∧ Below w.heap.size w wr) (fun _ i _ => 5 - (intOf i).toNat)
  case atStart => exact ⟨0, fun _ => 0, by omega, rfl, by rw [HK0.out], AN, Lib.hid (fun _ j hj => absurd hj (Nat.not_lt_zero _)), Z1, B1.out⟩
  case round =>
    obtain ⟨k, a, hk, rfl, rfl, HAR, HCA, HZ, hb⟩ := hrel
    have HB := Lib.hid hb
    clear hb
    have GA : Hid (w.heap.size ≤ w1.heap.size) := Lib.hid B0.out.size
    by_cases h8 : k < 5
    · have hk1 : (k : Int) < 5 := by omega
      have hk0 : (0 : Int) ≤ (k : Int) := by omega
      obtain ⟨bx, ox, ex, hlt, gk⟩ := es_at (HR.out _ HB.out) (HW.out k h8)
      cases ex
      by_cases h1 : k = 1
      · subst h1
        have HE := Lib.hid (okK_1 ws)
        clear hlt
        go_wp2
        exact ⟨⟨2, a, by omega, rfl, by rw [HE.out], HAR, Lib.hid (fun h j hj hj1 => HCA.out (by rw [← HE.out]; exact h) j (by omega) hj1), HZ, HB.out⟩, by simp [intOf]⟩
      · have hi1 : ((k : Int) == 1) = false := by rw [beq_eq_false_iff_ne]; omega
        have hi2 : ¬ (k : Int) = 1 := by omega
        have HN := Lib.hid (okK_next ws h1)
        have HSX : Hid ((wdA ws k).size ≤ 1000000) := Lib.hid (HS.out _ (List.mem_of_getElem? (HW.out k h8)))
        obtain ⟨x, hx⟩ : ∃ x, wdA ws k = x := ⟨_, rfl⟩
        have HX := Lib.hid hx
        rw [hx] at gk HN HSX
        have AT := Lib.hid (atoi_any x (by have := HSX.out; omega) wr (HG.out _ HB.out))
        obtain ⟨ob, hob⟩ : ∃ ob, okK ws k = ob := ⟨_, rfl⟩
        rw [hob] at HCA HN ⊢
        clear hx hlt h1
        go_upto_region 11 with (first
          | (go_at_call 43; ((refine AT.out.mono ?_); rintro e w2 ⟨v, er, rfl, hor, bb⟩; have HOR := Lib.hid hor; have A2 := Lib.hid (HAR.out.later bb); have B2 := Lib.hid (bel_trans HB.out bb); have Z2 := Lib.hid (keep_bel bb HZ.out); obtain ⟨ck, fk⟩ := A2.out k h8; clear bb hor gk))
          | fail)
        have A3 := Lib.hid (A2.out.set k h8 v)
        have B3 := Lib.hid (B2.out.setCell (p := ⟨w1.heap.size, k, none⟩) GA.out (.int .i64 v))
        have Z3 : Hid ((w2.setCell ⟨w1.heap.size, k, none⟩ (.int .i64 v)).heap[w.heap.size]? = some (MO zMV)) := Lib.hid (by
          rw [heap_set_other _ (by have := (Array.getElem?_eq_some_iff.1 Z0.out).1; omega)]; exact Z2.out)
        obtain ⟨W3, hW3⟩ : ∃ W3, W3 = w2.setCell ⟨w1.heap.size, k, none⟩ (.int .i64 v) := ⟨_, rfl⟩
        rw [← hW3] at A3 B3 Z3 ⊢
        clear hW3 ck fk A2 B2 Z2 HAR HZ
        obtain ⟨ck, fk⟩ := A3.out k h8
        have hu : upd a k v k = v := by unfold upd; rw [if_pos rfl]
        rw [hu] at ck
        have HU : Hid (∀ j, j ≠ k → upd a k v j = a j) := Lib.hid (fun j hj => by unfold upd; rw [if_neg hj])
        have HV := Lib.hid hu
        clear hu
        obtain ⟨a2, ha2⟩ : ∃ a2, a2 = upd a k v := ⟨_, rfl⟩
        rw [← ha2] at A3 HU HV
        clear ha2 fk
        cases ob with
        | false =>
          rw [Bool.false_and] at HN
          go_wp2
          exact ⟨⟨k + 1, a2, by omega, by simp, by rw [HN.out], A3, Lib.hid (fun h => by rw [HN.out] at h; cases h), Z3, B3.out⟩, by simp [intOf]; omega⟩
        | true =>
          rw [Bool.true_and] at HN
          have hor := HOR.out
          rcases hor with ⟨rfl, hv, v0, v1⟩ | ⟨⟨te, pe, rfl⟩, hno⟩
          · obtain ⟨is, his⟩ : ∃ is : ByteArray, is = ⟨(Lib.itoa v).toArray⟩ := ⟨_, rfl⟩
            have IT : Hid (Calls Tryd.prog 21 #[.int .i64 v] W3 fun e w' => e = .returned (.string is) ∧ Below W3.heap.size W3 w') := Lib.hid (by rw [his]; exact itoa_any v v0 v1 W3 (HG.out _ B3.out))
            have HC : Hid (canB x = if is = x then some v else none) := Lib.hid (by
              unfold canB; rw [hv, his]
              by_cases q : Lib.itoa v = x.data.toList
              · have q2 : (⟨(Lib.itoa v).toArray⟩ : ByteArray) = x := by
                  rw [q]
                rw [if_pos q2] <;> simp only [if_pos q]
              · have q2 : ¬ (⟨(Lib.itoa v).toArray⟩ : ByteArray) = x := fun e => q (by rw [← e])
                rw [if_neg q2] <;> simp only [if_neg q])
            clear his HOR hv v0 v1
            cases hq : (is.toList == x.toList) with
            | true =>
              rw [if_pos (bytes_eq_iff.1 hq)] at HC
              rw [HC.out] at HN
              go_wp2_with (first
                | (go_at_call 21; ((refine IT.out.mono ?_); rintro e w4 ⟨rfl, bb⟩; have A4 := Lib.hid (A3.out.later bb); have B4 := Lib.hid (bel_trans B3.out bb); have Z4 := Lib.hid (keep_bel bb Z3.out); clear bb ck))
                | fail)
              exact ⟨⟨k + 1, a2, by omega, by simp, (by rw [HN.out] <;> rfl), A4, Lib.hid (fun h j hj hj1 => by
                by_cases e : j = k
                · subst e; rw [HX.out, HC.out, HV.out]
                · rw [HCA.out (by first | trivial | rfl) j (by omega) hj1, HU.out j e]), Z4, B4.out⟩, by simp [intOf]; omega⟩
            | false =>
              rw [if_neg (fun e => by rw [bytes_eq e] at hq; cases hq)] at HC
              rw [HC.out] at HN
              go_wp2_with (first
                | (go_at_call 21; ((refine IT.out.mono ?_); rintro e w4 ⟨rfl, bb⟩; have A4 := Lib.hid (A3.out.later bb); have B4 := Lib.hid (bel_trans B3.out bb); have Z4 := Lib.hid (keep_bel bb Z3.out); clear bb ck))
                | fail)
              exact ⟨⟨k + 1, a2, by omega, by simp, (by rw [HN.out] <;> rfl), A4, Lib.hid (fun h => by rw [HN.out] at h; cases h), Z4, B4.out⟩, by simp [intOf]; omega⟩
          · rw [hno] at HN
            clear HOR hno
            go_wp2
            exact ⟨⟨k + 1, a2, by omega, by simp, (by rw [HN.out] <;> rfl), A3, Lib.hid (fun h => by rw [HN.out] at h; cases h), Z3, B3.out⟩, by simp [intOf]; omega⟩
    · have hk1 : ¬ (k : Int) < 5 := by omega
      have hk5 : k = 5 := by omega
      subst hk5
      obtain ⟨r0, -⟩ := HAR.out 0 (by omega)
      obtain ⟨r2, -⟩ := HAR.out 2 (by omega)
      obtain ⟨r3, -⟩ := HAR.out 3 (by omega)
      obtain ⟨r4, -⟩ := HAR.out 4 (by omega)
      obtain ⟨m, hm⟩ : ∃ m : MV, m = ⟨a 0, wi, a 2, a 3, a 4⟩ := ⟨_, rfl⟩
      have BM := Lib.hid (bel_alloc HB.out (MO m))
      have ZM := Lib.hid (heap_alloc_new wr (MO m))
      have ZR := Lib.hid (keep_bel (alb wr (MO m)) HZ.out)
      have HM : Hid (okK ws 5 = true → moveM ws = m) := Lib.hid (fun h => by
        have c := HCA.out h
        unfold moveM
        rw [c 0 (by omega) (by omega), c 2 (by omega) (by omega), c 3 (by omega) (by omega), c 4 (by omega) (by omega), HIX.out, ← HWI.out, hm]
        rfl)
      have TO := Lib.hid (fun W (b : Below w.heap.size w W) => told_any m (by rw [hm]; exact hw0) (by rw [hm]; exact hw1) W (HG.out W b))
      have MS : Hid (m.s = a 0 ∧ m.w = wi ∧ m.n = a 2 ∧ m.v = a 3 ∧ m.e = a 4) := Lib.hid (by rw [hm]; exact ⟨rfl, rfl, rfl, rfl, rfl⟩)
      rw [← MS.out.1] at r0
      rw [← MS.out.2.2.1] at r2
      rw [← MS.out.2.2.2.1] at r3
      rw [← MS.out.2.2.2.2] at r4
      have MW := Lib.hid MS.out.2.1
      have mw := MW.out
      obtain ⟨ob, hob⟩ : ∃ ob, okK ws 5 = ob := ⟨_, rfl⟩
      have HOB := Lib.hid hob
      rw [hob]
      subst mw
      clear hm hw0 hw1 hob hk h8 MS
      go_upto_region 14 with fail
      obtain ⟨wr2, hwr2⟩ : ∃ wr2, wr2 = wr.alloc (MO m) := ⟨_, rfl⟩
      rw [← hwr2] at BM ZM ZR ⊢
      clear hwr2 r0 r2 r3 r4
      cases ob with
      | false =>
        have HF : Hid (moveF ws = none) := Lib.hid (by unfold moveF; rw [if_neg (fun h => by rw [HOB.out] at h; cases h.2.1)])
        refine wp_region_held_drew (S := (fun V : World => V.heap[wr.heap.size]? = some (MO m))) (by kernel_rfl) ?_ (fun hHeld => ?_)
        · exact ZM.out
        have HHeld := Lib.hid hHeld; clear hHeld
        refine wpAnyH_take (i := 0) (oi := { dst := some 62, op := Op.load 35 (Operand.tmp 10), type := 35, pos := "trace.go:84", after := #[], guard := none }) (v := (MA m : Value)) rfl (by kernel_rfl) (by kernel_rfl) (by kernel_rfl) (fun _ _ _ h => h) (Or.inl ⟨by rfl, ?_⟩) HHeld.out ?_
        · intro V hV; have hc0 := (cells5 hV).1; have hc1 := (cells5 hV).2.1; have hc2 := (cells5 hV).2.2.1; have hc3 := (cells5 hV).2.2.2.1; have hc4 := (cells5 hV).2.2.2.2; clear hV; go_simp
        try simp only [Act.put, List.setIfInBounds_toArray, List.set_cons_zero, List.set_cons_succ]
        refine wpAnyH_take (i := 1) (oi := { dst := some 63, op := Op.move (Operand.tmp 5), type := 4, pos := "trace.go:84", after := #[], guard := none }) (v := ?_) rfl (by kernel_rfl) (by kernel_rfl) (by kernel_rfl) (fun _ _ _ h => h) (Or.inl ⟨by rfl, ?_⟩) HHeld.out ?_
        rotate_left
        · intro w hSw; clear hSw; go_simp; try with_reducible rfl
        try simp only [Act.put, List.setIfInBounds_toArray, List.set_cons_zero, List.set_cons_succ]
        refine wpAnyH_take (i := 2) (oi := { dst := some 64, op := Op.move (Operand.tmp 63), type := 4, pos := "trace.go:84", after := #[{ on := 1, ground := Ground.data }], guard := none }) (v := ?_) rfl (by kernel_rfl) (by kernel_rfl) (by kernel_rfl) (fun _ _ _ h => h) (Or.inl ⟨by rfl, ?_⟩) HHeld.out ?_
        rotate_left
        · intro w hSw; clear hSw; go_simp; try with_reducible rfl
        try simp only [Act.put, List.setIfInBounds_toArray, List.set_cons_zero, List.set_cons_succ]
        refine wpAnyH_take (i := 3) (oi := { dst := some 65, op := Op.load 35 (Operand.tmp 10), type := 35, pos := "trace.go:84", after := #[{ on := 2, ground := Ground.guard }], guard := some (2, true) }) (v := undef) rfl (by kernel_rfl) (by kernel_rfl) (by kernel_rfl) (fun _ _ _ h => h) (Or.inr ⟨by rfl, rfl⟩) HHeld.out ?_
        try simp only [Act.put, List.setIfInBounds_toArray, List.set_cons_zero, List.set_cons_succ]
        refine wpAnyH_take (i := 4) (oi := { dst := some 66, op := Op.call { callee := Callee.value (Operand.func 20), args := #[Operand.tmp 65], argTypes := #[35] }, type := 4, pos := "trace.go:84", after := #[{ on := 3, ground := Ground.data }, { on := 2, ground := Ground.chain }, { on := 2, ground := Ground.guard }], guard := some (2, true) }) (v := undef) rfl (by kernel_rfl) (by kernel_rfl) (by kernel_rfl) (fun _ _ _ h => h) (Or.inr ⟨by rfl, rfl⟩) HHeld.out ?_
        try simp only [Act.put, List.setIfInBounds_toArray, List.set_cons_zero, List.set_cons_succ]
        refine wpAnyH_take (i := 5) (oi := { dst := some 67, op := Op.pick (Operand.tmp 64) (Operand.tmp 66) (Operand.const (Value.bool false)), type := 4, pos := "trace.go:84", after := #[{ on := 2, ground := Ground.data }, { on := 4, ground := Ground.data }, { on := 6, ground := Ground.gcOnly Departure.lateStores }], guard := none }) (v := ?_) rfl (by kernel_rfl) (by kernel_rfl) (by kernel_rfl) (fun _ _ _ h => h) (Or.inl ⟨by rfl, ?_⟩) HHeld.out ?_
        rotate_left
        · intro w hSw; clear hSw; go_simp; try with_reducible rfl
        try simp only [Act.put, List.setIfInBounds_toArray, List.set_cons_zero, List.set_cons_succ]
        refine wpAnyH_ready (rs := [6]) (by kernel_rfl) (by simp) ?_
        refine AllReadyH.cons (o := { dst := none, op := Op.store 35 (Operand.tmp 2) (Operand.tmp 62), type := 0, pos := "trace.go:84", after := #[{ on := 0, ground := Ground.data }, { on := 4, ground := Ground.chain }, { on := 0, ground := Ground.phase }, { on := 1, ground := Ground.textOnly Departure.lateStores }, { on := 2, ground := Ground.textOnly Departure.lateStores }, { on := 3, ground := Ground.textOnly Departure.lateStores }, { on := 4, ground := Ground.textOnly Departure.lateStoresUnsure }, { on := 5, ground := Ground.textOnly Departure.lateStores }], guard := none }) rfl (fun K hK => ?_) AllReadyH.nil
        have ZS := Lib.hid (show wr2.heap[w.heap.size]? = some (MO zMV) from ZR.out)
        have BW := Lib.hid (show Below w.heap.size w wr2 from BM.out)
        obtain ⟨c0, c1, c2, c3, c4⟩ := cells5 ZS.out
        obtain ⟨f0, f1, f2, f3, f4⟩ := froz5 ZS.out
        have SS := Lib.hid (show wr2.heap[wr.heap.size]? = some (MO m) from HHeld.out)
        go_simp
        clear c0 c1 c2 c3 c4 f0 f1 f2 f3 f4
        refine at_k (fun WB hWB => ?_)
        have ZB := Lib.hid (show WB.heap[w.heap.size]? = some (MO m) by rw [hWB]; exact set5m ZS.out _ _ _ _ _)
        have BB := Lib.hid (show Below w.heap.size w WB by rw [hWB]; exact (bel_set5 BW.out (Nat.le_refl _) _ _ _ _ _).drew)
        have YB := Lib.hid (show WB.heap[wr.heap.size]? = some (MO m) by rw [hWB]; exact keep5 (by have := (Array.getElem?_eq_some_iff.1 HZ.out).1; omega) SS.out)
        clear hWB
        refine hK.out _ _ ?_ (fun hHeld => ?_)
        · exact YB.out
        clear HHeld; have HHeld := Lib.hid hHeld; clear hHeld
        clear hK K
        try simp only [Act.put, List.setIfInBounds_toArray, List.set_cons_zero, List.set_cons_succ]
        refine wpAnyH_take (i := 7) (oi := { dst := some 3, op := Op.assign (Operand.tmp 67), type := 4, pos := "trace.go:84", after := #[{ on := 5, ground := Ground.data }, { on := 6, ground := Ground.chain }, { on := 0, ground := Ground.phase }, { on := 1, ground := Ground.phase }, { on := 2, ground := Ground.phase }, { on := 3, ground := Ground.phase }, { on := 4, ground := Ground.phase }, { on := 5, ground := Ground.phase }, { on := 6, ground := Ground.phase }], guard := none }) (v := ?_) rfl (by kernel_rfl) (by kernel_rfl) (by kernel_rfl) (fun _ _ _ h => h) (Or.inl ⟨by rfl, ?_⟩) HHeld.out ?_
        rotate_left
        · intro w hSw; clear hSw; go_simp; try with_reducible rfl
        try simp only [Act.put, List.setIfInBounds_toArray, List.set_cons_zero, List.set_cons_succ]
        refine wpAnyH_done (by kernel_rfl) ?_ _
        clear HHeld
        obtain ⟨i0, i1, i2, i3, i4⟩ := cells5 ZB.out
        go_wp2
        refine bodyPost_ret (v := .tuple #[MA m, .bool false]) (by simp [results, Tryd.results30, go_sem, i0, i1, i2, i3, i4]) rfl ⟨m, _, rfl, by rw [HF.out]; rfl, fun m' h => (by rw [HF.out] at h; cases h), BB.out⟩
      | true =>
        have HF : Hid (moveF ws = if toldB m = true then some m else none) := Lib.hid (by unfold moveF; rw [HM.out HOB.out, HOB.out, HL.out]; simp)
        refine wp_region_held_drew (S := (fun V : World => V.heap[wr.heap.size]? = some (MO m))) (by kernel_rfl) ?_ (fun hHeld => ?_)
        · exact ZM.out
        have HHeld := Lib.hid hHeld; clear hHeld
        refine wpAnyH_take (i := 0) (oi := { dst := some 62, op := Op.load 35 (Operand.tmp 10), type := 35, pos := "trace.go:84", after := #[], guard := none }) (v := (MA m : Value)) rfl (by kernel_rfl) (by kernel_rfl) (by kernel_rfl) (fun _ _ _ h => h) (Or.inl ⟨by rfl, ?_⟩) HHeld.out ?_
        · intro V hV; have hc0 := (cells5 hV).1; have hc1 := (cells5 hV).2.1; have hc2 := (cells5 hV).2.2.1; have hc3 := (cells5 hV).2.2.2.1; have hc4 := (cells5 hV).2.2.2.2; clear hV; go_simp
        try simp only [Act.put, List.setIfInBounds_toArray, List.set_cons_zero, List.set_cons_succ]
        refine wpAnyH_take (i := 1) (oi := { dst := some 63, op := Op.move (Operand.tmp 5), type := 4, pos := "trace.go:84", after := #[], guard := none }) (v := ?_) rfl (by kernel_rfl) (by kernel_rfl) (by kernel_rfl) (fun _ _ _ h => h) (Or.inl ⟨by rfl, ?_⟩) HHeld.out ?_
        rotate_left
        · intro w hSw; clear hSw; go_simp; try with_reducible rfl
        try simp only [Act.put, List.setIfInBounds_toArray, List.set_cons_zero, List.set_cons_succ]
        refine wpAnyH_take (i := 2) (oi := { dst := some 64, op := Op.move (Operand.tmp 63), type := 4, pos := "trace.go:84", after := #[{ on := 1, ground := Ground.data }], guard := none }) (v := ?_) rfl (by kernel_rfl) (by kernel_rfl) (by kernel_rfl) (fun _ _ _ h => h) (Or.inl ⟨by rfl, ?_⟩) HHeld.out ?_
        rotate_left
        · intro w hSw; clear hSw; go_simp; try with_reducible rfl
        try simp only [Act.put, List.setIfInBounds_toArray, List.set_cons_zero, List.set_cons_succ]
        refine wpAnyH_take (i := 3) (oi := { dst := some 65, op := Op.load 35 (Operand.tmp 10), type := 35, pos := "trace.go:84", after := #[{ on := 2, ground := Ground.guard }], guard := some (2, true) }) (v := (MA m : Value)) rfl (by kernel_rfl) (by kernel_rfl) (by kernel_rfl) (fun _ _ _ h => h) (Or.inl ⟨by rfl, ?_⟩) HHeld.out ?_
        · intro V hV; have hc0 := (cells5 hV).1; have hc1 := (cells5 hV).2.1; have hc2 := (cells5 hV).2.2.1; have hc3 := (cells5 hV).2.2.2.1; have hc4 := (cells5 hV).2.2.2.2; clear hV; go_simp
        try simp only [Act.put, List.setIfInBounds_toArray, List.set_cons_zero, List.set_cons_succ]
        refine wpAnyH_ready (rs := [4]) (by kernel_rfl) (by simp) ?_
        refine AllReadyH.cons (o := { dst := some 66, op := Op.call { callee := Callee.value (Operand.func 20), args := #[Operand.tmp 65], argTypes := #[35] }, type := 4, pos := "trace.go:84", after := #[{ on := 3, ground := Ground.data }, { on := 2, ground := Ground.chain }, { on := 2, ground := Ground.guard }], guard := some (2, true) }) rfl (fun K hK => ?_) AllReadyH.nil
        go_simp
        go_at_call 20; ((with_reducible refine (TO.out _ BM.out.drew).mono ?_); rintro e v66 ⟨rfl, bb⟩; have BT := Lib.hid (show Below wr2.heap.size wr2 v66 from ((Below.refl _ _).drew).trans bb); have K4 := Lib.hid (keep_bel BT.out ZM.out); clear bb)
        refine hK.out _ _ ?_ (fun hHeld => ?_)
        · exact K4.out
        clear HHeld; have HHeld := Lib.hid hHeld; clear hHeld
        clear hK K
        try simp only [Act.put, List.setIfInBounds_toArray, List.set_cons_zero, List.set_cons_succ]
        refine wpAnyH_take (i := 5) (oi := { dst := some 67, op := Op.pick (Operand.tmp 64) (Operand.tmp 66) (Operand.const (Value.bool false)), type := 4, pos := "trace.go:84", after := #[{ on := 2, ground := Ground.data }, { on := 4, ground := Ground.data }, { on := 6, ground := Ground.gcOnly Departure.lateStores }], guard := none }) (v := ?_) rfl (by kernel_rfl) (by kernel_rfl) (by kernel_rfl) (fun _ _ _ h => h) (Or.inl ⟨by rfl, ?_⟩) HHeld.out ?_
        rotate_left
        · intro w hSw; clear hSw; go_simp; try with_reducible rfl
        try simp only [Act.put, List.setIfInBounds_toArray, List.set_cons_zero, List.set_cons_succ]
        refine wpAnyH_ready (rs := [6]) (by kernel_rfl) (by simp) ?_
        refine AllReadyH.cons (o := { dst := none, op := Op.store 35 (Operand.tmp 2) (Operand.tmp 62), type := 0, pos := "trace.go:84", after := #[{ on := 0, ground := Ground.data }, { on := 4, ground := Ground.chain }, { on := 0, ground := Ground.phase }, { on := 1, ground := Ground.textOnly Departure.lateStores }, { on := 2, ground := Ground.textOnly Departure.lateStores }, { on := 3, ground := Ground.textOnly Departure.lateStores }, { on := 4, ground := Ground.textOnly Departure.lateStoresUnsure }, { on := 5, ground := Ground.textOnly Departure.lateStores }], guard := none }) rfl (fun K hK => ?_) AllReadyH.nil
        have ZS := Lib.hid (show v66.heap[w.heap.size]? = some (MO zMV) from keep_bel BT.out ZR.out)
        have BW := Lib.hid (show Below w.heap.size w v66 from bel_trans BM.out BT.out)
        obtain ⟨c0, c1, c2, c3, c4⟩ := cells5 ZS.out
        obtain ⟨f0, f1, f2, f3, f4⟩ := froz5 ZS.out
        have SS := Lib.hid (show v66.heap[wr.heap.size]? = some (MO m) from HHeld.out)
        go_simp
        clear c0 c1 c2 c3 c4 f0 f1 f2 f3 f4
        refine at_k (fun WB hWB => ?_)
        have ZB := Lib.hid (show WB.heap[w.heap.size]? = some (MO m) by rw [hWB]; exact set5m ZS.out _ _ _ _ _)
        have BB := Lib.hid (show Below w.heap.size w WB by rw [hWB]; exact (bel_set5 BW.out (Nat.le_refl _) _ _ _ _ _))
        have YB := Lib.hid (show WB.heap[wr.heap.size]? = some (MO m) by rw [hWB]; exact keep5 (by have := (Array.getElem?_eq_some_iff.1 HZ.out).1; omega) SS.out)
        clear hWB
        refine hK.out _ _ ?_ (fun hHeld => ?_)
        · exact YB.out
        clear HHeld; have HHeld := Lib.hid hHeld; clear hHeld
        clear hK K
        try simp only [Act.put, List.setIfInBounds_toArray, List.set_cons_zero, List.set_cons_succ]
        refine wpAnyH_take (i := 7) (oi := { dst := some 3, op := Op.assign (Operand.tmp 67), type := 4, pos := "trace.go:84", after := #[{ on := 5, ground := Ground.data }, { on := 6, ground := Ground.chain }, { on := 0, ground := Ground.phase }, { on := 1, ground := Ground.phase }, { on := 2, ground := Ground.phase }, { on := 3, ground := Ground.phase }, { on := 4, ground := Ground.phase }, { on := 5, ground := Ground.phase }, { on := 6, ground := Ground.phase }], guard := none }) (v := ?_) rfl (by kernel_rfl) (by kernel_rfl) (by kernel_rfl) (fun _ _ _ h => h) (Or.inl ⟨by rfl, ?_⟩) HHeld.out ?_
        rotate_left
        · intro w hSw; clear hSw; go_simp; try with_reducible rfl
        try simp only [Act.put, List.setIfInBounds_toArray, List.set_cons_zero, List.set_cons_succ]
        refine wpAnyH_done (by kernel_rfl) ?_ _
        clear HHeld
        obtain ⟨i0, i1, i2, i3, i4⟩ := cells5 ZB.out
        go_wp2
        refine bodyPost_ret (v := .tuple #[MA m, .bool (toldB m)]) (by simp [results, Tryd.results30, go_sem, i0, i1, i2, i3, i4]) rfl ⟨m, _, rfl, by rw [HF.out]; cases toldB m <;> rfl, fun m' h => (by rw [HF.out] at h; cases q : toldB m <;> rw [q] at h <;> simp at h; exact h), BB.out⟩
end Go.Proofs.YtocbabckihcdmaaDoor
