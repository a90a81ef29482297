/- Moves: how many did what. -/
import Derived.Test.YtniffjjkjgfacaaG1
namespace Go.Proofs.Ytniffjjkjgfacaa
set_option linter.unusedSimpArgs false
open Go.RowKit Go.Maps
set_option linter.unusedVariables false
theorem alb (w : World) (o : Obj) : Below w.heap.size w (w.alloc o) := by go_grown
/-- A move: whose it is, what it did, at which node, at which version, and its error. -/
structure MV where
  s : Int
  w : Int
  n : Int
  v : Int
  e : Int
def EM : RE MV where
  st := 30
  et := 57
  k := 5
  by_ := 40
  z := .agg #[.int .i64 0, .int .u8 0, .int .i64 0, .int .i64 0, .int .i64 0]
  cs := fun x => [.int .i64 x.s, .int .u8 x.w, .int .i64 x.n, .int .i64 x.v, .int .i64 x.e]
  kpos := by omega
  len := fun _ => rfl
  one := fun x u hu => by simp at hu; rcases hu with rfl | rfl | rfl | rfl | rfl <;> rfl
  und := Try.underlying30
  info := by kernel_rfl
  zk := rfl
  bmax := by omega
theorem em_at {w : World} {A : Option Addr} {xs : List MV} (h : EM.Rd w A xs) {i : Nat} {x : MV} (hi : xs[i]? = some x) : ∃ b off, A = some ⟨b, off, none⟩ ∧ b < w.heap.size ∧ w.cell? ⟨b, off + i * 5, none⟩ = some (.int .i64 x.s) ∧ w.cell? ⟨b, off + i * 5 + 1, none⟩ = some (.int .u8 x.w) ∧ w.cell? ⟨b, off + i * 5 + 2, none⟩ = some (.int .i64 x.n) ∧ w.cell? ⟨b, off + i * 5 + 3, none⟩ = some (.int .i64 x.v) ∧ w.cell? ⟨b, off + i * 5 + 4, none⟩ = some (.int .i64 x.e) := by
  obtain ⟨b, off, e, h1, h2⟩ := h.get hi
  exact ⟨b, off, e, h1, by simpa [EM] using h2 0 _ rfl, by simpa [EM] using h2 1 _ rfl, by simpa [EM] using h2 2 _ rfl, by simpa [EM] using h2 3 _ rfl, by simpa [EM] using h2 4 _ rfl⟩
/-- Those that did something. -/
def did (c : Int) (xs : List MV) : List MV := xs.filter fun x => x.w == c
def num (c : Int) (xs : List MV) : Nat := (did c xs).length
theorem did_next {c : Int} {xs : List MV} {k : Nat} {x : MV} (h : xs[k]? = some x) : did c (xs.take (k + 1)) = did c (xs.take k) ++ (if x.w = c then [x] else []) := by
  rw [List.take_add_one, h]
  by_cases e : x.w = c <;> simp [did, e]
theorem num_le (c : Int) (xs : List MV) : num c xs ≤ xs.length := List.length_filter_le _ _
theorem num_take (c : Int) (xs : List MV) (k : Nat) : num c (xs.take k) ≤ k := Nat.le_trans (num_le _ _) (by simp [List.length_take]; omega)
theorem cells5 {W : World} {g : Nat} {a b c d e : Value} {t : TypeId} (z : W.heap[g]? = some (.cells #[a, b, c, d, e] t (0, 0))) :
    W.cell? ⟨g, 0, none⟩ = some a ∧ W.cell? ⟨g, 1, none⟩ = some b ∧ W.cell? ⟨g, 2, none⟩ = some c ∧ W.cell? ⟨g, 3, none⟩ = some d ∧ W.cell? ⟨g, 4, none⟩ = some e := by
  simp [World.cell?, z]
theorem keep_bel {w w' : World} {x : Nat} {o : Obj} (h : Below w.heap.size w w') (ho : w.heap[x]? = some o) : w'.heap[x]? = some o :=
  (h.block x (by
    rcases Nat.lt_or_ge x w.heap.size with h' | h'
    · exact h'
    · simp [Array.getElem?_eq_none h'] at ho)).trans ho
set_option maxHeartbeats 1000000 in
theorem ask_any (g : Nat) (c a b d e f : Int) (w : World) (h : w.cell? ⟨g, 0, none⟩ = some (.int .u8 c)) :
    Calls Try.prog 44 #[.agg #[.int .i64 a, .int .u8 b, .int .i64 d, .int .i64 e, .int .i64 f], .pointer (some ⟨g, 0, none⟩)] w fun r w' => r = .returned (.bool (b == c)) ∧ Below w.heap.size w w' := by
  have HB := Lib.hid (alb w (.cells #[.int .i64 a, .int .u8 b, .int .i64 d, .int .i64 e, .int .i64 f] 57))
  have h1 := bel_later HB.out h
  have z0 := heap_alloc_new w (.cells #[.int .i64 a, .int .u8 b, .int .i64 d, .int .i64 e, .int .i64 f] 57)
  have h2 : (w.alloc (.cells #[.int .i64 a, .int .u8 b, .int .i64 d, .int .i64 e, .int .i64 f] 57)).cell? ⟨w.heap.size, 1, none⟩ = some (.int .u8 b) := (cells5 z0).2.1
  clear h z0
  go_enter Try.func44, Try.ntmps44
  go_wp2
  go_ret
  exact ⟨by first | rfl | simp, HB.out⟩
set_option maxRecDepth 10000 in
set_option maxHeartbeats 2000000 in
theorem pick_any (g : Nat) (c : Int) (A : Option Addr) (n cap : Nat) (xs : List MV) (w : World) (hl : xs.length = n) (hn : n ≤ 1000) (hA : EM.Rd w A xs) (h : w.cell? ⟨g, 0, none⟩ = some (.int .u8 c)) :
    Calls Try.prog 43 #[.slice A n cap, .func (.func 44) #[] #[.pointer (some ⟨g, 0, none⟩)]] w fun r w' => (∃ A' c', r = .returned (.slice A' (num c xs) c')) ∧ Below w.heap.size w w' := by
  have HL := Lib.hid hl
  have HA := Lib.hid hA
  have AK : Hid (∀ W, Below w.heap.size w W → ∀ a b d e f, Calls Try.prog 44 #[.agg #[.int .i64 a, .int .u8 b, .int .i64 d, .int .i64 e, .int .i64 f], .pointer (some ⟨g, 0, none⟩)] W fun r w' => r = .returned (.bool (b == c)) ∧ Below W.heap.size W w') := Lib.hid (fun W hW a b d e f => ask_any g c a b d e f W (bel_later hW h))
  clear hl hA h
  go_enter Try.func43, Try.ntmps43
  go_wp2
  go_loopw [5, 10] (fun sv iv wr => ∃ (k : Nat) (A' : Option Addr) (c' m : Nat), k ≤ n ∧ iv = .int .i64 k ∧ sv = .slice A' m c' ∧ num c (xs.take k) = m ∧ EM.Row wr w.heap.size A' (did c (xs.take k)) c' ∧ Below w.heap.size w wr) (fun _ i _ => n - (intOf i).toNat)
  case atStart => exact ⟨0, none, 0, 0, by omega, rfl, rfl, rfl, .inl ⟨rfl, rfl⟩, Below.refl _ _⟩
  case round =>
    obtain ⟨k, A', c', m, hk, rfl, rfl, hm, hr, hb⟩ := hrel
    have HM := Lib.hid hm
    have HR := Lib.hid hr
    have HB := Lib.hid hb
    clear hm hr hb
    by_cases h8 : k < n
    · have hk1 : (k : Int) < (n : Int) := by omega
      have hk0 : (0 : Int) ≤ (k : Int) := by omega
      obtain ⟨x, hx⟩ : ∃ x, xs[k]? = some x := ⟨_, List.getElem?_eq_getElem (by rw [HL.out]; omega)⟩
      obtain ⟨b, off, rfl, hlt, g0, g1, g2, g3, g4⟩ := em_at (HA.out.later HB.out) hx
      have hnx := did_next (c := c) hx
      have AX := Lib.hid (AK.out (wr.alloc (.cells #[.int .i64 x.s, .int .u8 x.w, .int .i64 x.n, .int .i64 x.v, .int .i64 x.e] 57)) (bel_alloc HB.out _) x.s x.w x.n x.v x.e)
      have HNX := Lib.hid hnx
      clear hx hnx hlt
      cases hh : (x.w == c) with
      | false =>
        rw [hh] at AX
        have e : x.w ≠ c := by simpa using hh
        rw [if_neg e, List.append_nil] at HNX
        clear e
        clear hh
        go_wp2_with (first
          | (go_at_call 44; ((with_reducible refine AX.out.mono ?_); rintro e w1 ⟨rfl, b1⟩; have B1 := Lib.hid (bel_a b1); clear b1))
          | fail)
        exact ⟨⟨k + 1, A', c', m, by omega, by simp, rfl, by rw [num, HNX.out]; exact HM.out, by rw [HNX.out]; exact HR.out.later B1.out, bel_trans HB.out B1.out⟩, by simp [intOf]; omega⟩
      | true =>
        rw [hh] at AX
        have e : x.w = c := by simpa using hh
        rw [if_pos e] at HNX
        clear e
        have HMM : Hid (m ≤ 1000) := Lib.hid (by have := num_take c xs k; rw [HM.out] at this; omega)
        clear hh
        go_wp2_with (first
          | (go_at_call 44; ((with_reducible refine AX.out.mono ?_); rintro e w1 ⟨rfl, b1⟩; have B1 := Lib.hid (bel_a b1); obtain ⟨y0, y1, y2, y3, y4⟩ := cells5 (keep_bel b1 (heap_alloc_new wr (.cells #[.int .i64 x.s, .int .u8 x.w, .int .i64 x.n, .int .i64 x.v, .int .i64 x.e] 57))); have RW := Lib.hid ((HR.out.later B1.out).later (alb w1 (.cells #[.int .i64 x.s, .int .u8 x.w, .int .i64 x.n, .int .i64 x.v, .int .i64 x.e] 57))); have RL := Lib.hid (RE.Rd.lit (E := EM) w1 57 [x] #[.int .i64 x.s, .int .u8 x.w, .int .i64 x.n, .int .i64 x.v, .int .i64 x.e] rfl); have BS := Lib.hid (bel_alloc (bel_trans HB.out B1.out) (.cells #[.int .i64 x.s, .int .u8 x.w, .int .i64 x.n, .int .i64 x.v, .int .i64 x.e] 57)); clear b1))
          | (at_builtin; refine RE.wpList_put EM _ rfl (.tmp 17) (.tmp 19) rfl (base := w.heap.size) A' m c' _ _ 1 1 [x] rfl rfl RW.out HM.out (by have := HMM.out; omega) BS.out.size rfl (by omega) RL.out ?_; intro A2 c2 w2 r1 r2 r3; have R1 := Lib.hid r1; have R2 := Lib.hid r2; clear r1 r2 r3)
          | fail)
        exact ⟨⟨k + 1, A2, c2, m + 1, by omega, by simp, rfl, by rw [num, HNX.out, List.length_append]; exact congrArg (· + 1) HM.out, by rw [HNX.out]; exact R1.out, BS.out.trans (RE.Row.below R2.out RW.out (Nat.le_refl _) BS.out.size)⟩, by simp [intOf]; omega⟩
    · have hk1 : ¬ (k : Int) < (n : Int) := by omega
      have e : xs.take k = xs := List.take_of_length_le (by rw [HL.out]; omega)
      rw [e] at HM HR
      have hm := HM.out
      subst hm
      go_wp2
      go_ret
      exact ⟨⟨_, _, rfl⟩, HB.out⟩
theorem count_any (c : Int) (A : Option Addr) (n cap : Nat) (xs : List MV) (w : World) (hl : xs.length = n) (hn : n ≤ 1000) (hA : EM.Rd w A xs) :
    Calls Try.prog 32 #[.slice A n cap, .int .u8 c] w fun r w' => r = .returned (.int .i64 (num c xs)) ∧ Below w.heap.size w w' := by
  have HB := Lib.hid (alb w (.cells #[.int .u8 c] 54))
  have z0 := heap_alloc_new w (.cells #[.int .u8 c] 54)
  have P := Lib.hid (pick_any w.heap.size c A n cap xs (w.alloc (.cells #[.int .u8 c] 54)) hl hn (hA.later HB.out) (by
    generalize w.alloc (.cells #[.int .u8 c] 54) = W at z0
    simp [World.cell?, z0]))
  clear hA z0
  go_enter Try.func32, Try.ntmps32
  go_wp2_with (first
    | (go_at_call 43; ((with_reducible refine P.out.mono ?_); rintro e w1 ⟨⟨A', c', rfl⟩, b1⟩; have B1 := Lib.hid (bel_a b1); clear b1))
    | fail)
  go_ret
  exact ⟨rfl, B1.out⟩
end Go.Proofs.Ytniffjjkjgfacaa
