/- Moves as rows; those of which something is so. -/
import Derived.Test.YtocbabckihcdmaaDoorG1
namespace Go.Proofs.YtocbabckihcdmaaDoor
set_option linter.unusedSimpArgs false
open Go.RowKit Go.Maps
set_option linter.unusedVariables false
theorem alb (w : World) (o : Obj) : Below w.heap.size w (w.alloc o) := by go_grown
/-- A move: whose it is, what it did, at which node, at which version, and its error. -/
structure MV where
  s : Int
  w : Int
  n : Int
  v : Int
  e : Int
abbrev MA (x : MV) : Value := .agg #[.int .i64 x.s, .int .u8 x.w, .int .i64 x.n, .int .i64 x.v, .int .i64 x.e]
abbrev MO (x : MV) : Obj := (.cells #[.int .i64 x.s, .int .u8 x.w, .int .i64 x.n, .int .i64 x.v, .int .i64 x.e] 35)
def EM : RE MV where
  st := 22
  et := 35
  k := 5
  by_ := 40
  z := .agg #[.int .i64 0, .int .u8 0, .int .i64 0, .int .i64 0, .int .i64 0]
  cs := fun x => [.int .i64 x.s, .int .u8 x.w, .int .i64 x.n, .int .i64 x.v, .int .i64 x.e]
  kpos := by omega
  len := fun _ => rfl
  one := fun x u hu => by simp at hu; rcases hu with rfl | rfl | rfl | rfl | rfl <;> rfl
  und := Tryd.underlying22
  info := by kernel_rfl
  zk := rfl
  bmax := by omega
def EI : RE Int where
  st := 39
  et := 3
  k := 1
  by_ := 8
  z := .int .i64 0
  cs := fun x => [.int .i64 x]
  kpos := by omega
  len := fun _ => rfl
  one := fun x u hu => by simp at hu; rcases hu with rfl; rfl
  und := Tryd.underlying39
  info := by kernel_rfl
  zk := rfl
  bmax := by omega
theorem em_at {w : World} {A : Option Addr} {xs : List MV} (h : EM.Rd w A xs) {i : Nat} {x : MV} (hi : xs[i]? = some x) : ∃ b off, A = some ⟨b, off, none⟩ ∧ b < w.heap.size ∧ w.cell? ⟨b, off + i * 5, none⟩ = some (.int .i64 x.s) ∧ w.cell? ⟨b, off + i * 5 + 1, none⟩ = some (.int .u8 x.w) ∧ w.cell? ⟨b, off + i * 5 + 2, none⟩ = some (.int .i64 x.n) ∧ w.cell? ⟨b, off + i * 5 + 3, none⟩ = some (.int .i64 x.v) ∧ w.cell? ⟨b, off + i * 5 + 4, none⟩ = some (.int .i64 x.e) := by
  obtain ⟨b, off, e, h1, h2⟩ := h.get hi
  exact ⟨b, off, e, h1, by simpa [EM] using h2 0 _ rfl, by simpa [EM] using h2 1 _ rfl, by simpa [EM] using h2 2 _ rfl, by simpa [EM] using h2 3 _ rfl, by simpa [EM] using h2 4 _ rfl⟩
theorem ei_at {w : World} {A : Option Addr} {xs : List Int} (h : EI.Rd w A xs) {i : Nat} {x : Int} (hi : xs[i]? = some x) : ∃ b off, A = some ⟨b, off, none⟩ ∧ b < w.heap.size ∧ w.cell? ⟨b, off + i, none⟩ = some (.int .i64 x) := by
  obtain ⟨b, off, e, h1, h2⟩ := h.get hi
  exact ⟨b, off, e, h1, by simpa [EI] using h2 0 _ rfl⟩
/-- Those of which something is so. -/
def pk (p : MV → Bool) (xs : List MV) : List MV := xs.filter p
theorem pk_next {p : MV → Bool} {xs : List MV} {k : Nat} {x : MV} (h : xs[k]? = some x) : pk p (xs.take (k + 1)) = pk p (xs.take k) ++ (if p x then [x] else []) := by
  rw [List.take_add_one, h]
  by_cases e : p x <;> simp [pk, e]
theorem pk_len (p : MV → Bool) (xs : List MV) : (pk p xs).length ≤ xs.length := List.length_filter_le _ _
theorem pk_take (p : MV → Bool) (xs : List MV) (k : Nat) : (pk p (xs.take k)).length ≤ k := Nat.le_trans (pk_len _ _) (by simp [List.length_take]; omega)
theorem cells5 {W : World} {g : Nat} {a b c d e : Value} {t : TypeId} (z : W.heap[g]? = some (.cells #[a, b, c, d, e] t (0, 0))) :
    W.cell? ⟨g, 0, none⟩ = some a ∧ W.cell? ⟨g, 1, none⟩ = some b ∧ W.cell? ⟨g, 2, none⟩ = some c ∧ W.cell? ⟨g, 3, none⟩ = some d ∧ W.cell? ⟨g, 4, none⟩ = some e := by
  simp [World.cell?, z]
theorem cells1 {W : World} {g : Nat} {a : Value} {t : TypeId} (z : W.heap[g]? = some (.cells #[a] t (0, 0))) : W.cell? ⟨g, 0, none⟩ = some a := by
  simp [World.cell?, z]
theorem keep_bel {w w' : World} {x : Nat} {o : Obj} (h : Below w.heap.size w w') (ho : w.heap[x]? = some o) : w'.heap[x]? = some o :=
  (h.block x (by
    rcases Nat.lt_or_ge x w.heap.size with h' | h'
    · exact h'
    · simp [Array.getElem?_eq_none h'] at ho)).trans ho
def PickP (l : List MV) (w : World) (r : Ending) (w' : World) : Prop := ∃ A' c', r = .returned (.slice A' l.length c') ∧ EM.Row w' w.heap.size A' l c' ∧ Below w.heap.size w w'
set_option maxHeartbeats 1000000 in
theorem ask_w (g : Nat) (c : Int) (x : MV) (w : World) (h : w.cell? ⟨g, 0, none⟩ = some (.int .u8 c)) :
    Calls Tryd.prog 33 #[MA x, .pointer (some ⟨g, 0, none⟩)] w fun r w' => r = .returned (.bool (x.w == c)) ∧ Below w.heap.size w w' := by
  have HB := Lib.hid (alb w (MO x))
  have h1 := bel_later HB.out h
  have z0 := heap_alloc_new w (MO x)
  obtain ⟨k0, k1, k2, k3, k4⟩ := cells5 z0
  clear h z0
  go_enter Tryd.func33, Tryd.ntmps33
  go_wp2
  go_ret
  exact ⟨by first | rfl | simp, HB.out⟩
set_option maxHeartbeats 1000000 in
theorem ask_s (g : Nat) (c : Int) (x : MV) (w : World) (h : w.cell? ⟨g, 0, none⟩ = some (.int .i64 c)) :
    Calls Tryd.prog 34 #[MA x, .pointer (some ⟨g, 0, none⟩)] w fun r w' => r = .returned (.bool (x.s == c)) ∧ Below w.heap.size w w' := by
  have HB := Lib.hid (alb w (MO x))
  have h1 := bel_later HB.out h
  have z0 := heap_alloc_new w (MO x)
  obtain ⟨k0, k1, k2, k3, k4⟩ := cells5 z0
  clear h z0
  go_enter Tryd.func34, Tryd.ntmps34
  go_wp2
  go_ret
  exact ⟨by first | rfl | simp, HB.out⟩
set_option maxHeartbeats 1000000 in
theorem ask_n (g : Nat) (c : Int) (x : MV) (w : World) (h : w.cell? ⟨g, 0, none⟩ = some (.int .i64 c)) :
    Calls Tryd.prog 35 #[MA x, .pointer (some ⟨g, 0, none⟩)] w fun r w' => r = .returned (.bool (x.n == c)) ∧ Below w.heap.size w w' := by
  have HB := Lib.hid (alb w (MO x))
  have h1 := bel_later HB.out h
  have z0 := heap_alloc_new w (MO x)
  obtain ⟨k0, k1, k2, k3, k4⟩ := cells5 z0
  clear h z0
  go_enter Tryd.func35, Tryd.ntmps35
  go_wp2
  go_ret
  exact ⟨by first | rfl | simp, HB.out⟩
set_option maxRecDepth 10000 in
set_option maxHeartbeats 2000000 in
theorem pick_w (p : MV → Bool) (g : Nat) (A : Option Addr) (n cap : Nat) (xs : List MV) (w : World) (hl : xs.length = n) (hn : n ≤ 1000) (hA : EM.Rd w A xs)
    (AK : Hid (∀ W, Below w.heap.size w W → ∀ x, Calls Tryd.prog 33 #[MA x, .pointer (some ⟨g, 0, none⟩)] W fun r w' => r = .returned (.bool (p x)) ∧ Below W.heap.size W w')) :
    Calls Tryd.prog 32 #[.slice A n cap, .func (.func 33) #[] #[.pointer (some ⟨g, 0, none⟩)]] w (PickP (pk p xs) w) := by
  have HL := Lib.hid hl
  have HA := Lib.hid hA
  clear hl hA
  go_enter Tryd.func32, Tryd.ntmps32
  go_wp2
  go_loopw [5, 10] (fun sv iv wr => ∃ (k : Nat) (A' : Option Addr) (c' m : Nat), k ≤ n ∧ iv = .int .i64 k ∧ sv = .slice A' m c' ∧ (pk p (xs.take k)).length = m ∧ EM.Row wr w.heap.size A' (pk p (xs.take k)) c' ∧ Below w.heap.size w wr) (fun _ i _ => n - (intOf i).toNat)
  case atStart => exact ⟨0, none, 0, 0, by omega, rfl, rfl, rfl, .inl ⟨rfl, rfl⟩, Below.refl _ _⟩
  case round =>
    obtain ⟨k, A', c', m, hk, rfl, rfl, hm, hr, hb⟩ := hrel
    have HM := Lib.hid hm
    have HR := Lib.hid hr
    have HB := Lib.hid hb
    clear hm hr hb
    by_cases h8 : k < n
    · have hk1 : (k : Int) < (n : Int) := by omega
      have hk0 : (0 : Int) ≤ (k : Int) := by omega
      obtain ⟨x, hx⟩ : ∃ x, xs[k]? = some x := ⟨_, List.getElem?_eq_getElem (by rw [HL.out]; omega)⟩
      obtain ⟨b, off, rfl, hlt, g0, g1, g2, g3, g4⟩ := em_at (HA.out.later HB.out) hx
      have hnx := pk_next (p := p) hx
      have AX := Lib.hid (AK.out (wr.alloc (MO x)) (bel_alloc HB.out _) x)
      have HNX := Lib.hid hnx
      clear hx hnx hlt
      cases hh : p x with
      | false =>
        rw [hh] at AX
        rw [hh, if_neg (by simp), List.append_nil] at HNX
        clear hh
        go_wp2_with (first
          | (go_at_call 33; ((with_reducible refine AX.out.mono ?_); rintro e w1 ⟨rfl, b1⟩; have B1 := Lib.hid (bel_a b1); clear b1))
          | fail)
        exact ⟨⟨k + 1, A', c', m, by omega, by simp, rfl, by rw [HNX.out]; exact HM.out, by rw [HNX.out]; exact HR.out.later B1.out, bel_trans HB.out B1.out⟩, by simp [intOf]; omega⟩
      | true =>
        rw [hh] at AX
        rw [hh, if_pos rfl] at HNX
        have HMM : Hid (m ≤ 1000) := Lib.hid (by have := pk_take p xs k; rw [HM.out] at this; omega)
        clear hh
        go_wp2_with (first
          | (go_at_call 33; ((with_reducible refine AX.out.mono ?_); rintro e w1 ⟨rfl, b1⟩; have B1 := Lib.hid (bel_a b1); obtain ⟨y0, y1, y2, y3, y4⟩ := cells5 (keep_bel b1 (heap_alloc_new wr (MO x))); have RW := Lib.hid ((HR.out.later B1.out).later (alb w1 (MO x))); have RL := Lib.hid (RE.Rd.lit (E := EM) w1 35 [x] #[.int .i64 x.s, .int .u8 x.w, .int .i64 x.n, .int .i64 x.v, .int .i64 x.e] rfl); have BS := Lib.hid (bel_alloc (bel_trans HB.out B1.out) (MO x)); clear b1))
          | (at_builtin; refine RE.wpList_put EM _ rfl (.tmp 17) (.tmp 19) rfl (base := w.heap.size) A' m c' _ _ 1 1 [x] rfl rfl RW.out HM.out (by have := HMM.out; omega) BS.out.size rfl (by omega) RL.out ?_; intro A2 c2 w2 r1 r2 r3; have R1 := Lib.hid r1; have R2 := Lib.hid r2; clear r1 r2 r3)
          | fail)
        exact ⟨⟨k + 1, A2, c2, m + 1, by omega, by simp, rfl, by rw [HNX.out, List.length_append]; exact congrArg (· + 1) HM.out, by rw [HNX.out]; exact R1.out, BS.out.trans (RE.Row.below R2.out RW.out (Nat.le_refl _) BS.out.size)⟩, by simp [intOf]; omega⟩
    · have hk1 : ¬ (k : Int) < (n : Int) := by omega
      have e : xs.take k = xs := List.take_of_length_le (by rw [HL.out]; omega)
      rw [e] at HM HR
      have hm := HM.out
      subst hm
      go_wp2
      go_ret
      exact ⟨_, _, rfl, HR.out, HB.out⟩
set_option maxRecDepth 10000 in
set_option maxHeartbeats 2000000 in
theorem pick_s (p : MV → Bool) (g : Nat) (A : Option Addr) (n cap : Nat) (xs : List MV) (w : World) (hl : xs.length = n) (hn : n ≤ 1000) (hA : EM.Rd w A xs)
    (AK : Hid (∀ W, Below w.heap.size w W → ∀ x, Calls Tryd.prog 34 #[MA x, .pointer (some ⟨g, 0, none⟩)] W fun r w' => r = .returned (.bool (p x)) ∧ Below W.heap.size W w')) :
    Calls Tryd.prog 32 #[.slice A n cap, .func (.func 34) #[] #[.pointer (some ⟨g, 0, none⟩)]] w (PickP (pk p xs) w) := by
  have HL := Lib.hid hl
  have HA := Lib.hid hA
  clear hl hA
  go_enter Tryd.func32, Tryd.ntmps32
  go_wp2
  go_loopw [5, 10] (fun sv iv wr => ∃ (k : Nat) (A' : Option Addr) (c' m : Nat), k ≤ n ∧ iv = .int .i64 k ∧ sv = .slice A' m c' ∧ (pk p (xs.take k)).length = m ∧ EM.Row wr w.heap.size A' (pk p (xs.take k)) c' ∧ Below w.heap.size w wr) (fun _ i _ => n - (intOf i).toNat)
  case atStart => exact ⟨0, none, 0, 0, by omega, rfl, rfl, rfl, .inl ⟨rfl, rfl⟩, Below.refl _ _⟩
  case round =>
    obtain ⟨k, A', c', m, hk, rfl, rfl, hm, hr, hb⟩ := hrel
    have HM := Lib.hid hm
    have HR := Lib.hid hr
    have HB := Lib.hid hb
    clear hm hr hb
    by_cases h8 : k < n
    · have hk1 : (k : Int) < (n : Int) := by omega
      have hk0 : (0 : Int) ≤ (k : Int) := by omega
      obtain ⟨x, hx⟩ : ∃ x, xs[k]? = some x := ⟨_, List.getElem?_eq_getElem (by rw [HL.out]; omega)⟩
      obtain ⟨b, off, rfl, hlt, g0, g1, g2, g3, g4⟩ := em_at (HA.out.later HB.out) hx
      have hnx := pk_next (p := p) hx
      have AX := Lib.hid (AK.out (wr.alloc (MO x)) (bel_alloc HB.out _) x)
      have HNX := Lib.hid hnx
      clear hx hnx hlt
      cases hh : p x with
      | false =>
        rw [hh] at AX
        rw [hh, if_neg (by simp), List.append_nil] at HNX
        clear hh
        go_wp2_with (first
          | (go_at_call 34; ((with_reducible refine AX.out.mono ?_); rintro e w1 ⟨rfl, b1⟩; have B1 := Lib.hid (bel_a b1); clear b1))
          | fail)
        exact ⟨⟨k + 1, A', c', m, by omega, by simp, rfl, by rw [HNX.out]; exact HM.out, by rw [HNX.out]; exact HR.out.later B1.out, bel_trans HB.out B1.out⟩, by simp [intOf]; omega⟩
      | true =>
        rw [hh] at AX
        rw [hh, if_pos rfl] at HNX
        have HMM : Hid (m ≤ 1000) := Lib.hid (by have := pk_take p xs k; rw [HM.out] at this; omega)
        clear hh
        go_wp2_with (first
          | (go_at_call 34; ((with_reducible refine AX.out.mono ?_); rintro e w1 ⟨rfl, b1⟩; have B1 := Lib.hid (bel_a b1); obtain ⟨y0, y1, y2, y3, y4⟩ := cells5 (keep_bel b1 (heap_alloc_new wr (MO x))); have RW := Lib.hid ((HR.out.later B1.out).later (alb w1 (MO x))); have RL := Lib.hid (RE.Rd.lit (E := EM) w1 35 [x] #[.int .i64 x.s, .int .u8 x.w, .int .i64 x.n, .int .i64 x.v, .int .i64 x.e] rfl); have BS := Lib.hid (bel_alloc (bel_trans HB.out B1.out) (MO x)); clear b1))
          | (at_builtin; refine RE.wpList_put EM _ rfl (.tmp 17) (.tmp 19) rfl (base := w.heap.size) A' m c' _ _ 1 1 [x] rfl rfl RW.out HM.out (by have := HMM.out; omega) BS.out.size rfl (by omega) RL.out ?_; intro A2 c2 w2 r1 r2 r3; have R1 := Lib.hid r1; have R2 := Lib.hid r2; clear r1 r2 r3)
          | fail)
        exact ⟨⟨k + 1, A2, c2, m + 1, by omega, by simp, rfl, by rw [HNX.out, List.length_append]; exact congrArg (· + 1) HM.out, by rw [HNX.out]; exact R1.out, BS.out.trans (RE.Row.below R2.out RW.out (Nat.le_refl _) BS.out.size)⟩, by simp [intOf]; omega⟩
    · have hk1 : ¬ (k : Int) < (n : Int) := by omega
      have e : xs.take k = xs := List.take_of_length_le (by rw [HL.out]; omega)
      rw [e] at HM HR
      have hm := HM.out
      subst hm
      go_wp2
      go_ret
      exact ⟨_, _, rfl, HR.out, HB.out⟩
set_option maxRecDepth 10000 in
set_option maxHeartbeats 2000000 in
theorem pick_n (p : MV → Bool) (g : Nat) (A : Option Addr) (n cap : Nat) (xs : List MV) (w : World) (hl : xs.length = n) (hn : n ≤ 1000) (hA : EM.Rd w A xs)
    (AK : Hid (∀ W, Below w.heap.size w W → ∀ x, Calls Tryd.prog 35 #[MA x, .pointer (some ⟨g, 0, none⟩)] W fun r w' => r = .returned (.bool (p x)) ∧ Below W.heap.size W w')) :
    Calls Tryd.prog 32 #[.slice A n cap, .func (.func 35) #[] #[.pointer (some ⟨g, 0, none⟩)]] w (PickP (pk p xs) w) := by
  have HL := Lib.hid hl
  have HA := Lib.hid hA
  clear hl hA
  go_enter Tryd.func32, Tryd.ntmps32
  go_wp2
  go_loopw [5, 10] (fun sv iv wr => ∃ (k : Nat) (A' : Option Addr) (c' m : Nat), k ≤ n ∧ iv = .int .i64 k ∧ sv = .slice A' m c' ∧ (pk p (xs.take k)).length = m ∧ EM.Row wr w.heap.size A' (pk p (xs.take k)) c' ∧ Below w.heap.size w wr) (fun _ i _ => n - (intOf i).toNat)
  case atStart => exact ⟨0, none, 0, 0, by omega, rfl, rfl, rfl, .inl ⟨rfl, rfl⟩, Below.refl _ _⟩
  case round =>
    obtain ⟨k, A', c', m, hk, rfl, rfl, hm, hr, hb⟩ := hrel
    have HM := Lib.hid hm
    have HR := Lib.hid hr
    have HB := Lib.hid hb
    clear hm hr hb
    by_cases h8 : k < n
    · have hk1 : (k : Int) < (n : Int) := by omega
      have hk0 : (0 : Int) ≤ (k : Int) := by omega
      obtain ⟨x, hx⟩ : ∃ x, xs[k]? = some x := ⟨_, List.getElem?_eq_getElem (by rw [HL.out]; omega)⟩
      obtain ⟨b, off, rfl, hlt, g0, g1, g2, g3, g4⟩ := em_at (HA.out.later HB.out) hx
      have hnx := pk_next (p := p) hx
      have AX := Lib.hid (AK.out (wr.alloc (MO x)) (bel_alloc HB.out _) x)
      have HNX := Lib.hid hnx
      clear hx hnx hlt
      cases hh : p x with
      | false =>
        rw [hh] at AX
        rw [hh, if_neg (by simp), List.append_nil] at HNX
        clear hh
        go_wp2_with (first
          | (go_at_call 35; ((with_reducible refine AX.out.mono ?_); rintro e w1 ⟨rfl, b1⟩; have B1 := Lib.hid (bel_a b1); clear b1))
          | fail)
        exact ⟨⟨k + 1, A', c', m, by omega, by simp, rfl, by rw [HNX.out]; exact HM.out, by rw [HNX.out]; exact HR.out.later B1.out, bel_trans HB.out B1.out⟩, by simp [intOf]; omega⟩
      | true =>
        rw [hh] at AX
        rw [hh, if_pos rfl] at HNX
        have HMM : Hid (m ≤ 1000) := Lib.hid (by have := pk_take p xs k; rw [HM.out] at this; omega)
        clear hh
        go_wp2_with (first
          | (go_at_call 35; ((with_reducible refine AX.out.mono ?_); rintro e w1 ⟨rfl, b1⟩; have B1 := Lib.hid (bel_a b1); obtain ⟨y0, y1, y2, y3, y4⟩ := cells5 (keep_bel b1 (heap_alloc_new wr (MO x))); have RW := Lib.hid ((HR.out.later B1.out).later (alb w1 (MO x))); have RL := Lib.hid (RE.Rd.lit (E := EM) w1 35 [x] #[.int .i64 x.s, .int .u8 x.w, .int .i64 x.n, .int .i64 x.v, .int .i64 x.e] rfl); have BS := Lib.hid (bel_alloc (bel_trans HB.out B1.out) (MO x)); clear b1))
          | (at_builtin; refine RE.wpList_put EM _ rfl (.tmp 17) (.tmp 19) rfl (base := w.heap.size) A' m c' _ _ 1 1 [x] rfl rfl RW.out HM.out (by have := HMM.out; omega) BS.out.size rfl (by omega) RL.out ?_; intro A2 c2 w2 r1 r2 r3; have R1 := Lib.hid r1; have R2 := Lib.hid r2; clear r1 r2 r3)
          | fail)
        exact ⟨⟨k + 1, A2, c2, m + 1, by omega, by simp, rfl, by rw [HNX.out, List.length_append]; exact congrArg (· + 1) HM.out, by rw [HNX.out]; exact R1.out, BS.out.trans (RE.Row.below R2.out RW.out (Nat.le_refl _) BS.out.size)⟩, by simp [intOf]; omega⟩
    · have hk1 : ¬ (k : Int) < (n : Int) := by omega
      have e : xs.take k = xs := List.take_of_length_le (by rw [HL.out]; omega)
      rw [e] at HM HR
      have hm := HM.out
      subst hm
      go_wp2
      go_ret
      exact ⟨_, _, rfl, HR.out, HB.out⟩
set_option maxHeartbeats 1000000 in
theorem count_any (c : Int) (A : Option Addr) (n cap : Nat) (xs : List MV) (w : World) (hl : xs.length = n) (hn : n ≤ 1000) (hA : EM.Rd w A xs) :
    Calls Tryd.prog 12 #[.slice A n cap, .int .u8 c] w (fun r w' => r = .returned (.int .i64 (pk (fun x => x.w == c) xs).length) ∧ Below w.heap.size w w') := by
  have HB := Lib.hid (alb w (.cells #[.int .u8 c] 33))
  have z0 := heap_alloc_new w (.cells #[.int .u8 c] 33)
  have P := Lib.hid (pick_w (fun x => x.w == c) w.heap.size A n cap xs (w.alloc (.cells #[.int .u8 c] 33)) hl hn (hA.later HB.out) (Lib.hid (fun W b x => ask_w w.heap.size c x W (bel_later b (cells1 z0)))))
  unfold PickP at P
  clear hA z0
  go_enter Tryd.func12, Tryd.ntmps12
  go_wp2_with (first
    | (go_at_call 32; ((with_reducible refine P.out.mono ?_); rintro e w1 ⟨A', c', rfl, r1, b1⟩; have R1 := Lib.hid r1; have B1 := Lib.hid (bel_a b1); clear b1 r1))
    | fail)
  go_ret
  exact ⟨rfl, B1.out⟩
set_option maxHeartbeats 1000000 in
theorem of_any (c : Int) (A : Option Addr) (n cap : Nat) (xs : List MV) (w : World) (hl : xs.length = n) (hn : n ≤ 1000) (hA : EM.Rd w A xs) :
    Calls Tryd.prog 13 #[.slice A n cap, .int .i64 c] w (PickP (pk (fun x => x.s == c) xs) w) := by
  have HB := Lib.hid (alb w (.cells #[.int .i64 c] 3))
  have z0 := heap_alloc_new w (.cells #[.int .i64 c] 3)
  have P := Lib.hid (pick_s (fun x => x.s == c) w.heap.size A n cap xs (w.alloc (.cells #[.int .i64 c] 3)) hl hn (hA.later HB.out) (Lib.hid (fun W b x => ask_s w.heap.size c x W (bel_later b (cells1 z0)))))
  unfold PickP at P
  clear hA z0
  go_enter Tryd.func13, Tryd.ntmps13
  go_wp2_with (first
    | (go_at_call 32; ((with_reducible refine P.out.mono ?_); rintro e w1 ⟨A', c', rfl, r1, b1⟩; have R1 := Lib.hid r1; have B1 := Lib.hid (bel_a b1); clear b1 r1))
    | fail)
  go_ret
  exact ⟨_, _, rfl, R1.out.base (by simp), B1.out⟩
set_option maxHeartbeats 1000000 in
theorem at_any (c : Int) (A : Option Addr) (n cap : Nat) (xs : List MV) (w : World) (hl : xs.length = n) (hn : n ≤ 1000) (hA : EM.Rd w A xs) :
    Calls Tryd.prog 14 #[.slice A n cap, .int .i64 c] w (PickP (pk (fun x => x.n == c) xs) w) := by
  have HB := Lib.hid (alb w (.cells #[.int .i64 c] 3))
  have z0 := heap_alloc_new w (.cells #[.int .i64 c] 3)
  have P := Lib.hid (pick_n (fun x => x.n == c) w.heap.size A n cap xs (w.alloc (.cells #[.int .i64 c] 3)) hl hn (hA.later HB.out) (Lib.hid (fun W b x => ask_n w.heap.size c x W (bel_later b (cells1 z0)))))
  unfold PickP at P
  clear hA z0
  go_enter Tryd.func14, Tryd.ntmps14
  go_wp2_with (first
    | (go_at_call 32; ((with_reducible refine P.out.mono ?_); rintro e w1 ⟨A', c', rfl, r1, b1⟩; have R1 := Lib.hid r1; have B1 := Lib.hid (bel_a b1); clear b1 r1))
    | fail)
  go_ret
  exact ⟨_, _, rfl, R1.out.base (by simp), B1.out⟩
end Go.Proofs.YtocbabckihcdmaaDoor
