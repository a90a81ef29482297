/- Texts of the proof, one behind the other. -/
import Derived.Test.YtilnpeekajnlhaaTu04
import Derived.Test.YtilnpeekajnlhaaTu02
set_option linter.unusedVariables false
set_option linter.unusedSimpArgs false
namespace Go.Proofs.Ytilnpeekajnlhaa
open Go.RowKit Go.Maps
def forL (a b : ByteArray) (xs : List MG) : List MG := xs.flatMap fun x => if (clipM x a b).2 then [(clipM x a b).1] else []
theorem forL_next {a b : ByteArray} {xs : List MG} {k : Nat} {x : MG} (h : xs[k]? = some x) : forL a b (xs.take (k + 1)) = forL a b (xs.take k) ++ (if (clipM x a b).2 then [(clipM x a b).1] else []) := by
  rw [List.take_add_one, h]; simp [forL]
theorem forL_len (a b : ByteArray) (xs : List MG) : (forL a b xs).length ≤ xs.length := by
  induction xs with
  | nil => simp [forL]
  | cons x xs ih =>
    have e : forL a b (x :: xs) = (if (clipM x a b).2 then [(clipM x a b).1] else []) ++ forL a b xs := by simp [forL]
    rw [e, List.length_append]
    split <;> simp <;> omega
theorem take_le (xs : List MG) (k : Nat) : (xs.take k).length ≤ k := by simp [List.length_take]; omega
set_option maxRecDepth 10000 in
set_option maxHeartbeats 4000000 in
theorem for_any (a b : ByteArray) (A : Option Addr) (n cap : Nat) (xs : List MG) (w : World) (hl : xs.length = n) (hn : n ≤ 1000) (hA : EG.Rd w A xs) (ho : OkA xs) :
    Calls Try.prog 48 #[.slice A n cap, .agg #[.string a, .string b]] w fun r w' => (∃ A' c', r = .returned (.slice A' (forL a b xs).length c') ∧ EG.Row w' w.heap.size A' (forL a b xs) c') ∧ Below w.heap.size w w' := by
  have HL := Lib.hid hl
  have HA := Lib.hid hA
  have HO := Lib.hid ho
  have H0 := Lib.hid (alb w (rgc a b))
  have z0 := Lib.hid (heap_alloc_new w (rgc a b))
  clear hl hA ho
  go_enter Try.func48, Try.ntmps48
  go_wp2
  go_loopw [5, 12] (fun sv iv wr => ∃ (k : Nat) (A' : Option Addr) (c' m : Nat), k ≤ n ∧ iv = .int .i64 k ∧ sv = .slice A' m c' ∧ (forL a b (xs.take k)).length = m ∧ EG.Row wr (w.alloc (rgc a b)).heap.size A' (forL a b (xs.take k)) c' ∧ Below (w.alloc (rgc a b)).heap.size (w.alloc (rgc a b)) wr) (fun _ i _ => n - (intOf i).toNat)
  case atStart => exact ⟨0, none, 0, 0, by omega, rfl, rfl, rfl, .inl ⟨rfl, rfl⟩, Below.refl _ _⟩
  case round =>
    obtain ⟨k, A', c', m, hk, rfl, rfl, hm, hr, hb⟩ := hrel
    have HM := Lib.hid hm
    have HR := Lib.hid hr
    have HB := Lib.hid (bel_trans H0.out hb)
    have HP := Lib.hid hb
    have ZR := Lib.hid (keep_bel hb z0.out)
    clear hm hr hb
    by_cases h8 : k < n
    · have hk1 : (k : Int) < (n : Int) := by omega
      have hk0 : (0 : Int) ≤ (k : Int) := by omega
      obtain ⟨x, hx⟩ : ∃ x, xs[k]? = some x := ⟨_, List.getElem?_eq_getElem (by rw [HL.out]; omega)⟩
      obtain ⟨b', off, rfl, hlt, g0, g1, g2, g3, g4, g5⟩ := eg_at (HA.out.later HB.out) hx
      have HNX := Lib.hid (forL_next (a := a) (b := b) hx)
      have AC := Lib.hid (clip_any x (HO.out.get hx) a b)
      have HMM : Hid (m ≤ 1000) := Lib.hid (by have := forL_len a b (xs.take k); have := take_le xs k; rw [HM.out] at *; omega)
      obtain ⟨d0, d1, -, -⟩ := has_two (keep_bel (alb wr (MO x)) ZR.out)
      clear hx hlt
      obtain ⟨p, ok, hq⟩ : ∃ p ok, clipM x a b = (p, ok) := ⟨_, _, rfl⟩
      rw [hq] at HNX AC
      clear hq
      cases ok with
      | false =>
        rw [if_neg (by simp), List.append_nil] at HNX
        go_wp2_with (first
          | (go_at_call 89; ((with_reducible refine (AC.out _).mono ?_); rintro e w1 ⟨rfl, b1⟩; have B1 := Lib.hid (bel_alloc (bel_a b1) (MO p)); clear b1))
          | fail)
        exact ⟨⟨k + 1, A', c', m, by omega, by simp, rfl, by rw [HNX.out]; exact HM.out, by rw [HNX.out]; exact HR.out.later B1.out, bel_trans HP.out B1.out⟩, by simp [intOf]; omega⟩
      | true =>
        rw [if_pos rfl] at HNX
        go_wp2_with (first
          | (go_at_call 89; ((with_reducible refine (AC.out _).mono ?_); rintro e w1 ⟨rfl, b1⟩; have B1 := Lib.hid (bel_alloc (bel_a b1) (MO p)); obtain ⟨y0, y1, y2, y3, y4, y5⟩ := cells6 (heap_alloc_new w1 (MO p)); have RW := Lib.hid ((HR.out.later B1.out).later (alb (w1.alloc (MO p)) (MO p))); have RL := Lib.hid (RE.Rd.lit (E := EG) (w1.alloc (MO p)) 62 [p] #[.int .u8 p.kd, .int .i64 p.sq, .string p.ky, .string p.to, .string p.vl, .int .u64 p.dl] rfl); have BS := Lib.hid (bel_alloc (bel_trans HB.out B1.out) (MO p)); have BQ := Lib.hid (bel_alloc (bel_trans HP.out B1.out) (MO p)); have RL2 : Hid (EG.Rd ((w1.alloc (MO p)).alloc (MO p)) (some ⟨w1.heap.size + 1, 0, none⟩) [p]) := Lib.hid (lit1 _ p (by simp)); clear b1 RL))
          | (at_builtin; refine RE.wpList_put EG _ rfl (.tmp 23) (.tmp 25) rfl (base := (w.alloc (rgc a b)).heap.size) A' m c' _ _ 1 1 [p] rfl rfl RW.out HM.out (by have := HMM.out; omega) BQ.out.size rfl (by omega) RL2.out ?_; intro A2 c2 w2 r1 r2 r3; have R1 := Lib.hid r1; have R2 := Lib.hid r2; clear r1 r2 r3)
          | fail)
        exact ⟨⟨k + 1, A2, c2, m + 1, by omega, by simp, rfl, by rw [HNX.out, List.length_append]; exact congrArg (· + 1) HM.out, by rw [HNX.out]; exact R1.out, BQ.out.trans (RE.Row.below R2.out RW.out (Nat.le_refl _) BQ.out.size)⟩, by simp [intOf]; omega⟩
    · have hk1 : ¬ (k : Int) < (n : Int) := by omega
      have e : xs.take k = xs := List.take_of_length_le (by rw [HL.out]; omega)
      rw [e] at HM HR
      have hm := HM.out
      subst hm
      go_wp2
      go_ret
      exact ⟨⟨_, _, rfl, HR.out.base (by simp)⟩, HB.out⟩
end Go.Proofs.Ytilnpeekajnlhaa
namespace Go.Proofs.Ytilnpeekajnlhaa
open Go.RowKit Go.Maps
end Go.Proofs.Ytilnpeekajnlhaa
