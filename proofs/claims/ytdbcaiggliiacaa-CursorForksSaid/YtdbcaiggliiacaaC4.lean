/- What a cursor does not have; a cursor behind a chunk. -/
import Derived.Test.YtdbcaiggliiacaaC3
namespace Go.Proofs.Ytdbcaiggliiacaa
set_option linter.unusedSimpArgs false
open Go.RowKit Go.Maps
set_option linter.unusedVariables false
def okl (f t : ByteArray) (xs : List TT) : Prop := ∀ x ∈ xs, has f t x.1 = true
theorem ask_any (g : Nat) (f t k v : ByteArray) (w : World) (h0 : w.cell? ⟨g, 0, none⟩ = some (.string f)) (h1 : w.cell? ⟨g, 1, none⟩ = some (.string t)) :
    Calls Try.prog 33 #[.agg #[.string k, .string v], .pointer (some ⟨g, 0, none⟩)] w fun e w' => e = .returned (.bool (!has f t k)) ∧ Below w.heap.size w w' := by
  have hA := alb w (.cells #[.string k, .string v] 44)
  have g0 := bel_later hA h0
  have g1 := bel_later hA h1
  have HA := Lib.hid hA
  have HH : Hid (∀ W, Calls Try.prog 34 #[.agg #[.string f, .string t], .string k] W fun e w' => e = .returned (.bool (has f t k)) ∧ Below W.heap.size W w') := Lib.hid (fun W => holds_any f t k W)
  generalize has f t k = b at *
  clear hA h0 h1
  go_enter Try.func33, Try.ntmps33
  go_wp2_with (first
    | (go_at_call 34; ((with_reducible refine (HH.out _).mono ?_); rintro e w1 ⟨rfl, b1⟩; have B1 := Lib.hid (bel_trans HA.out b1); clear b1))
    | fail)
  go_ret
  exact ⟨rfl, B1.out⟩
set_option maxHeartbeats 1000000 in
theorem index_any (A : Option Addr) (n c : Nat) (xs : List TT) (g : Nat) (f t : ByteArray) (w : World) (hl : xs.length = n) (hn : n ≤ 1000000000) (hA : RdT w A xs) (h0 : w.cell? ⟨g, 0, none⟩ = some (.string f)) (h1 : w.cell? ⟨g, 1, none⟩ = some (.string t)) :
    Calls Try.prog 45 #[.slice A n c, .func (.func 33) #[] #[.pointer (some ⟨g, 0, none⟩)]] w fun e w' => (∃ r : Int, e = .returned (.int .i64 r) ∧ (r < 0 ↔ okl f t xs)) ∧ Below w.heap.size w w' := by
  have HL := Lib.hid hl
  have HA := Lib.hid hA
  have AK : Hid (∀ W, Below w.heap.size w W → ∀ k v, Calls Try.prog 33 #[.agg #[.string k, .string v], .pointer (some ⟨g, 0, none⟩)] W fun e w' => e = .returned (.bool (!has f t k)) ∧ Below W.heap.size W w') := Lib.hid (fun W hW k v => ask_any g f t k v W (bel_later hW h0) (bel_later hW h1))
  clear hl hA h0 h1
  go_enter Try.func45, Try.ntmps45
  go_wp2
  go_loopw [8] (fun iv wr => ∃ k : Nat, k ≤ n ∧ iv = .int .i64 k ∧ okl f t (xs.take k) ∧ Below w.heap.size w wr) (fun i _ => n - (intOf i).toNat)
  case atStart => exact ⟨0, by omega, rfl, by intro x hx; simp at hx, Below.refl _ _⟩
  case round =>
    obtain ⟨k, hk, rfl, ht, hb⟩ := hrel
    have HT := Lib.hid ht
    have HB := Lib.hid hb
    clear ht hb
    by_cases h8 : k < n
    · have hk1 : (k : Int) < (n : Int) := by omega
      have hk0 : (0 : Int) ≤ (k : Int) := by omega
      obtain ⟨x, hx⟩ : ∃ x, xs[k]? = some x := ⟨_, List.getElem?_eq_getElem (by rw [HL.out]; omega)⟩
      obtain ⟨b, off, rfl, hlt, g0, g1⟩ := rdt_get (rdt_later HA.out HB.out) hx
      have e : xs.take (k + 1) = xs.take k ++ [x] := by
        obtain ⟨h1, e1⟩ := List.getElem?_eq_some_iff.1 hx
        rw [List.take_succ_eq_append_getElem h1, e1]
      have hno : has f t x.1 = false → ¬ okl f t xs := fun h q => by
        have := q x (List.mem_of_getElem? hx)
        rw [h] at this; cases this
      have hyes : has f t x.1 = true → okl f t (xs.take (k + 1)) := fun h => by
        rw [e]
        intro y hy
        rcases List.mem_append.1 hy with hy | hy
        · exact HT.out y hy
        · simp at hy; subst hy; exact h
      have C := Lib.hid (AK.out wr HB.out x.1 x.2)
      obtain ⟨x0, x1⟩ := x
      simp only at g0 g1 hno hyes
      have HN := Lib.hid hno
      have HY := Lib.hid hyes
      clear hx hlt e hno hyes
      simp only at C
      cases hh : has f t x0 with
      | true =>
        rw [hh] at C
        simp only [Bool.not_true] at C
        have hy := Lib.hid (HY.out hh)
        clear hh HN HY
        go_wp2_with (first
          | (go_at_call 33; ((with_reducible refine C.out.mono ?_); rintro e w1 ⟨rfl, b1⟩; have B1 := Lib.hid (bel_trans HB.out b1); clear b1))
          | fail)
        exact ⟨⟨k + 1, by omega, by simp, hy.out, B1.out⟩, by simp [intOf]; omega⟩
      | false =>
        rw [hh] at C
        simp only [Bool.not_false] at C
        have hy := Lib.hid (HN.out hh)
        clear hh HN HY
        go_wp2_with (first
          | (go_at_call 33; ((with_reducible refine C.out.mono ?_); rintro e w1 ⟨rfl, b1⟩; have B1 := Lib.hid (bel_trans HB.out b1); clear b1))
          | fail)
        go_ret
        exact ⟨⟨k, rfl, ⟨fun h => (by omega), fun h => absurd h hy.out⟩⟩, B1.out⟩
    · have hk1 : ¬ (k : Int) < (n : Int) := by omega
      have hr2 : Hid (okl f t xs) := Lib.hid (by
        have := HT.out
        rwa [List.take_of_length_le (by rw [HL.out]; omega)] at this)
      go_wp2
      go_ret
      exact ⟨⟨-1, rfl, ⟨fun _ => hr2.out, fun _ => (by omega)⟩⟩, HB.out⟩
theorem contains_any (A : Option Addr) (n c : Nat) (xs : List TT) (g : Nat) (f t : ByteArray) (w : World) (hl : xs.length = n) (hn : n ≤ 1000000000) (hA : RdT w A xs) (h0 : w.cell? ⟨g, 0, none⟩ = some (.string f)) (h1 : w.cell? ⟨g, 1, none⟩ = some (.string t)) :
    Calls Try.prog 32 #[.slice A n c, .func (.func 33) #[] #[.pointer (some ⟨g, 0, none⟩)]] w fun e w' => (∃ b : Bool, e = .returned (.bool b) ∧ (b = false ↔ okl f t xs)) ∧ Below w.heap.size w w' := by
  have IX := Lib.hid (index_any A n c xs g f t w hl hn hA h0 h1)
  clear hl hA h0 h1
  go_enter Try.func32, Try.ntmps32
  go_wp2_with (first
    | (go_at_call 45; ((with_reducible refine IX.out.mono ?_); rintro e w1 ⟨⟨r, rfl, hr⟩, b1⟩; have B1 := Lib.hid b1; have HR := Lib.hid hr; clear b1 hr))
    | fail)
  go_ret
  exact ⟨⟨_, rfl, by rw [← HR.out]; simp⟩, B1.out⟩
def zE : Cur := (⟨#[]⟩, ⟨#[]⟩, true)
/-- The last key of entries. -/
def lastE (l : List TT) : ByteArray := ((l.getLast?).map (·.1)).getD ⟨#[]⟩
theorem last_at {l : List TT} {n : Nat} (hl : l.length = n) (hn : 0 < n) {w : World} {A : Option Addr} (h : RdT w A l) : ∃ b off, A = some ⟨b, off, none⟩ ∧ w.cell? ⟨b, off + (n - 1) * 2, none⟩ = some (.string (lastE l)) ∧ b < w.heap.size := by
  obtain ⟨l', y, rfl⟩ : ∃ l' y, l = l' ++ [y] := ⟨_, _, (List.dropLast_concat_getLast (by rintro rfl; simp at hl; omega)).symm⟩
  obtain ⟨b, off, e, hlt, f, _⟩ := rdt_get h (k := l'.length) (x := y) (by simp)
  refine ⟨b, off, e, ?_, hlt⟩
  have : lastE (l' ++ [y]) = y.1 := by simp [lastE]
  rw [this]
  have e2 : n - 1 = l'.length := by simp at hl; omega
  rw [e2]; exact f
abbrev A0 (s : ByteArray) : ByteArray := s ++ ⟨#[0]⟩
theorem box3_set {W : World} {g : Nat} {u v x : Value} {t : TypeId} (z0 : W.heap[g]? = some (.cells #[u, v, x] t (0, 0))) (a b c : Value) :
    (((W.setCell ⟨g, 0, none⟩ a).setCell ⟨g, 1, none⟩ b).setCell ⟨g, 2, none⟩ c).heap[g]? = some (.cells #[a, b, c] t (0, 0)) ∧ Chg (fun x => x = g) W (((W.setCell ⟨g, 0, none⟩ a).setCell ⟨g, 1, none⟩ b).setCell ⟨g, 2, none⟩ c) := by
  refine ⟨?_, ((Chg.set (D := fun x => x = g) W a rfl).trans (Chg.set (D := fun x => x = g) _ b rfl) (fun x e => .inl e)).trans (Chg.set (D := fun x => x = g) _ c rfl) (fun x e => .inl e)⟩
  simp [World.setCell, Array.getElem?_modify, z0]
theorem cells3 {W : World} {g : Nat} {u v x : Value} {t : TypeId} (z : W.heap[g]? = some (.cells #[u, v, x] t (0, 0))) :
    W.cell? ⟨g, 0, none⟩ = some u ∧ W.cell? ⟨g, 1, none⟩ = some v ∧ W.cell? ⟨g, 2, none⟩ = some x ∧ W.frozen? ⟨g, 0, none⟩ = false ∧ W.frozen? ⟨g, 1, none⟩ = false ∧ W.frozen? ⟨g, 2, none⟩ = false := by
  simp [World.cell?, World.frozen?, z]
theorem behind_few (A : Option Addr) (n c : Nat) (most : Int) (f t : ByteArray) (e : Bool) (w : World) (h : (n : Int) < most) :
    Calls Try.prog 35 #[.agg #[.string f, .string t, .bool e], .slice A n c, .int .i64 most] w fun r w' => r = .returned (.agg #[.string ⟨#[]⟩, .string ⟨#[]⟩, .bool true]) ∧ Below w.heap.size w w' := by
  go_enter Try.func35, Try.ntmps35
  go_wp2
  exact bodyPost_ret (v := .agg #[.string ⟨#[]⟩, .string ⟨#[]⟩, .bool true]) (by simp [results, Try.results35, go_sem]) rfl ⟨rfl, by go_grown⟩
set_option maxHeartbeats 1000000 in
theorem behind_more (A : Option Addr) (n c : Nat) (l : List TT) (most : Int) (f t : ByteArray) (e : Bool) (w : World) (hl : l.length = n) (hn : 0 < n) (hn9 : n ≤ 1000000000) (hA : RdT w A l) (h : ¬ (n : Int) < most) (hs : (lastE l).size + 1 ≤ 9223372036854775807) (hr : sb (A0 (lastE l)) t = true) :
    Calls Try.prog 35 #[.agg #[.string f, .string t, .bool e], .slice A n c, .int .i64 most] w fun r w' => r = .returned (.agg #[.string (A0 (lastE l)), .string t, .bool e]) ∧ Below w.heap.size w w' := by
  obtain ⟨b, off, rfl, g0, hlt⟩ := last_at hl hn hA
  have i2 : (n : Int) - 1 < (n : Int) := by omega
  have i3 : (0 : Int) ≤ (n : Int) - 1 := by omega
  have i4 : ((n : Int) - 1).toNat = n - 1 := by omega
  obtain ⟨k, hk⟩ : ∃ k, k = lastE l := ⟨_, rfl⟩
  rw [← hk] at g0 hr hs ⊢
  have AF : Hid (∀ W, Calls Try.prog 46 #[.string k] W fun e w' => e = .returned (.string (A0 k)) ∧ W = w') := Lib.hid (fun W => after_any k W hs)
  have RR : Hid (∀ W, Calls Try.prog 29 #[.agg #[.string (A0 k), .string t]] W fun e w' => e = .returned (.bool true) ∧ Below W.heap.size W w') := Lib.hid (fun W => by
    have := rightRange_any (A0 k) t W
    rw [hr] at this; exact this)
  obtain ⟨K, hK⟩ : ∃ K, K = A0 k := ⟨_, rfl⟩
  rw [← hK] at AF RR ⊢
  have hA1 := alb w (.cells #[.string f, .string t, .bool e] 73)
  have hA3 := bel_alloc hA1 Z73
  have g3 := bel_later hA3 g0
  have H0 := Lib.hid (heap_alloc_new w (.cells #[.string K, .string t, .bool e] 73))
  have H1 := Lib.hid (heap_alloc_new' (w := w) (.cells #[.string K, .string t, .bool e] 73) Z73)
  have HA := Lib.hid (bel_alloc (alb w (.cells #[.string K, .string t, .bool e] 73)) Z73)
  clear hl hA hk hs hr hK hA1 hA3
  go_enter Try.func35, Try.ntmps35
  go_wp2_with (first
    | (go_at_call 46; ((with_reducible refine (AF.out _).mono ?_); rintro e w1 ⟨rfl, rfl⟩))
    | (go_at_call 29; ((with_reducible refine (RR.out _).mono ?_); rintro e w2 ⟨rfl, b2⟩; have z0 := keep_bel b2 (rows_old _ Z73 _ (by simp) |>.trans H0.out); have z1 := keep_bel b2 H1.out; have B2 := Lib.hid (bel_trans HA.out b2); obtain ⟨k0, k1, k2, _, _, _⟩ := cells3 z0; obtain ⟨x0, x1, x2, y0, y1, y2⟩ := cells3 z1; have Z1 := Lib.hid z1; clear z0 z1 b2))
    | fail)
  obtain ⟨zz, ch⟩ := box3_set Z1.out (.string K) (.string t) (.bool e)
  obtain ⟨q0, q1, q2, _, _, _⟩ := cells3 zz
  exact bodyPost_ret (v := .agg #[(.string K), (.string t), (.bool e)]) (by simp [results, Try.results35, go_sem, q0, q1, q2]) rfl ⟨rfl, B2.out.trans (ch.below (fun x e => by omega) B2.out.size)⟩
set_option maxHeartbeats 1000000 in
theorem behind_over (A : Option Addr) (n c : Nat) (l : List TT) (most : Int) (f t : ByteArray) (e : Bool) (w : World) (hl : l.length = n) (hn : 0 < n) (hn9 : n ≤ 1000000000) (hA : RdT w A l) (h : ¬ (n : Int) < most) (hs : (lastE l).size + 1 ≤ 9223372036854775807) (hr : sb (A0 (lastE l)) t = false) :
    Calls Try.prog 35 #[.agg #[.string f, .string t, .bool e], .slice A n c, .int .i64 most] w fun r w' => r = .returned (.agg #[.string ⟨#[]⟩, .string ⟨#[]⟩, .bool true]) ∧ Below w.heap.size w w' := by
  obtain ⟨b, off, rfl, g0, hlt⟩ := last_at hl hn hA
  have i2 : (n : Int) - 1 < (n : Int) := by omega
  have i3 : (0 : Int) ≤ (n : Int) - 1 := by omega
  have i4 : ((n : Int) - 1).toNat = n - 1 := by omega
  obtain ⟨k, hk⟩ : ∃ k, k = lastE l := ⟨_, rfl⟩
  rw [← hk] at g0 hr hs
  have AF : Hid (∀ W, Calls Try.prog 46 #[.string k] W fun e w' => e = .returned (.string (A0 k)) ∧ W = w') := Lib.hid (fun W => after_any k W hs)
  have RR : Hid (∀ W, Calls Try.prog 29 #[.agg #[.string (A0 k), .string t]] W fun e w' => e = .returned (.bool false) ∧ Below W.heap.size W w') := Lib.hid (fun W => by
    have := rightRange_any (A0 k) t W
    rw [hr] at this; exact this)
  obtain ⟨K, hK⟩ : ∃ K, K = A0 k := ⟨_, rfl⟩
  rw [← hK] at AF RR
  have hA1 := alb w (.cells #[.string f, .string t, .bool e] 73)
  have hA3 := bel_alloc hA1 Z73
  have g3 := bel_later hA3 g0
  have H0 := Lib.hid (heap_alloc_new w (.cells #[.string K, .string t, .bool e] 73))
  have H1 := Lib.hid (heap_alloc_new' (w := w) (.cells #[.string K, .string t, .bool e] 73) Z73)
  have HA := Lib.hid (bel_alloc (alb w (.cells #[.string K, .string t, .bool e] 73)) Z73)
  clear hl hA hk hs hr hK hA1 hA3
  go_enter Try.func35, Try.ntmps35
  go_wp2_with (first
    | (go_at_call 46; ((with_reducible refine (AF.out _).mono ?_); rintro e w1 ⟨rfl, rfl⟩))
    | (go_at_call 29; ((with_reducible refine (RR.out _).mono ?_); rintro e w2 ⟨rfl, b2⟩; have z0 := keep_bel b2 (rows_old _ Z73 _ (by simp) |>.trans H0.out); have z1 := keep_bel b2 H1.out; have B2 := Lib.hid (bel_trans HA.out b2); obtain ⟨k0, k1, k2, _, _, _⟩ := cells3 z0; obtain ⟨x0, x1, x2, y0, y1, y2⟩ := cells3 z1; have Z1 := Lib.hid z1; clear z0 z1 b2))
    | fail)
  obtain ⟨zz, ch⟩ := box3_set Z1.out (.string ⟨#[]⟩) (.string ⟨#[]⟩) (.bool true)
  obtain ⟨q0, q1, q2, _, _, _⟩ := cells3 zz
  exact bodyPost_ret (v := .agg #[(.string ⟨#[]⟩), (.string ⟨#[]⟩), (.bool true)]) (by simp [results, Try.results35, go_sem, q0, q1, q2]) rfl ⟨rfl, B2.out.trans (ch.below (fun x e => by omega) B2.out.size)⟩
end Go.Proofs.Ytdbcaiggliiacaa
