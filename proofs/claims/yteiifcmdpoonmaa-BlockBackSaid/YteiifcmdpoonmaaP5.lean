/- The next entry, by cases. -/
import Derived.Test.YteiifcmdpoonmaaP4
namespace Go.Proofs.Yteiifcmdpoonmaa
set_option linter.unusedSimpArgs false
open Go.RowKit Go.Maps Go.Shelf
set_option linter.unusedVariables false
set_option maxHeartbeats 4000000 in
theorem entry_b_num (r : Nat) (A : Option Addr) (n c : Nat) (a s r1 t r2 v r3 p k : ByteArray) (q : Nat) (x : Int) (m : Nat) (w : World) (h : Rdr w r s) (hn : 0 < n) (hn2 : n ≤ 1000000) (hA : ∃ b off, A = some ⟨b, off, none⟩ ∧ w.cell? ⟨b, off + (n - 1) * 2, none⟩ = some (.string a)) (hsz : a.size + s.size ≤ 1000000) (y : Int) (h1 : tnF s = (y, r1, x)) (hx : x ≠ 0) :
    Calls Try.prog 20 #[.pointer (some ⟨r, 0, none⟩), .slice A n c] w (EnPost r (.error x) w) := by
  have hal := run_ze
  obtain ⟨b, off, rfl, hc⟩ := hA
  have i1 : (0 : Int) < (n : Int) := by omega
  have i2 : (n : Int) - 1 < (n : Int) := by omega
  have i3 : (0 : Int) ≤ (n : Int) - 1 := by omega
  have i4 : ((n : Int) - 1).toNat = n - 1 := by omega
  have HLT := Lib.hid (rdr_lo h)
  have AL := Lib.hid (alb w (.cells #[.string ⟨#[]⟩, .string ⟨#[]⟩] 30))
  have Z0 := Lib.hid (heap_alloc_new w (.cells #[.string ⟨#[]⟩, .string ⟨#[]⟩] 30))
  have N0 := Lib.hid (num_err _ _ _ _ r _ (h.later AL.out) h1 hx)
  have k0 := bel_later AL.out hc
  clear h hc hsz h1
  go_enter Try.func20, Try.ntmps20
  go_wp2_with (first
    | (go_at_call 19; ((with_reducible refine N0.out.mono ?_); rintro e w1 ⟨rfl, h1⟩; have H1 := Lib.hid h1; clear h1))
    | fail)
  exact ⟨rfl, rfl, (Chg.of_below (bel_trans AL.out H1.out)).more (fun g e => e)⟩
set_option maxHeartbeats 4000000 in
theorem entry_b_far (r : Nat) (A : Option Addr) (n c : Nat) (a s r1 t r2 v r3 p k : ByteArray) (q : Nat) (x : Int) (m : Nat) (w : World) (h : Rdr w r s) (hn : 0 < n) (hn2 : n ≤ 1000000) (hA : ∃ b off, A = some ⟨b, off, none⟩ ∧ w.cell? ⟨b, off + (n - 1) * 2, none⟩ = some (.string a)) (hsz : a.size + s.size ≤ 1000000) (h1 : tnF s = ((q : Int), r1, 0)) (h2 : ¬ q ≤ ((a : ByteArray).size)) :
    Calls Try.prog 20 #[.pointer (some ⟨r, 0, none⟩), .slice A n c] w (EnPost r (.error 3) w) := by
  have hal := run_ze
  obtain ⟨b, off, rfl, hc⟩ := hA
  have i1 : (0 : Int) < (n : Int) := by omega
  have i2 : (n : Int) - 1 < (n : Int) := by omega
  have i3 : (0 : Int) ≤ (n : Int) - 1 := by omega
  have i4 : ((n : Int) - 1).toNat = n - 1 := by omega
  have j1 : ¬ (q : Int) ≤ (((a : ByteArray).size : Nat) : Int) := by omega
  have HLT := Lib.hid (rdr_lo h)
  have AL := Lib.hid (alb w (.cells #[.string ⟨#[]⟩, .string ⟨#[]⟩] 30))
  have Z0 := Lib.hid (heap_alloc_new w (.cells #[.string ⟨#[]⟩, .string ⟨#[]⟩] 30))
  have N0 := Lib.hid (num_ok _ _ _ r _ (h.later AL.out) h1)
  have k0 := bel_later AL.out hc
  clear h hc hsz h1
  go_enter Try.func20, Try.ntmps20
  go_wp2_with (first
    | (go_at_call 19; ((with_reducible refine N0.out.mono ?_); rintro e w1 ⟨rfl, h1⟩; have H1 := Lib.hid h1; have Z1 := Lib.hid (keep_chg h1.chg Z0.out (fun e => by have := HLT.out; omega)); clear h1))
    | (go_at_call 21; ((with_reducible refine (check_no _ _ _).mono ?_); rintro e w2 ⟨rfl, rfl⟩))
    | fail)
  exact ⟨rfl, rfl, (Go1.ahead AL.out H1.out).chg⟩
set_option maxHeartbeats 4000000 in
theorem entry_b_txt (r : Nat) (A : Option Addr) (n c : Nat) (a s r1 t r2 v r3 p k : ByteArray) (q : Nat) (x : Int) (m : Nat) (w : World) (h : Rdr w r s) (hn : 0 < n) (hn2 : n ≤ 1000000) (hA : ∃ b off, A = some ⟨b, off, none⟩ ∧ w.cell? ⟨b, off + (n - 1) * 2, none⟩ = some (.string a)) (hsz : a.size + s.size ≤ 1000000) (h1 : tnF s = ((q : Int), r1, 0)) (h2 : q ≤ ((a : ByteArray).size)) (h3 : ttF r1 256 = (t, r2, x)) (hx : x ≠ 0) :
    Calls Try.prog 20 #[.pointer (some ⟨r, 0, none⟩), .slice A n c] w (EnPost r (.error x) w) := by
  have hal := run_ze
  obtain ⟨b, off, rfl, hc⟩ := hA
  have i1 : (0 : Int) < (n : Int) := by omega
  have i2 : (n : Int) - 1 < (n : Int) := by omega
  have i3 : (0 : Int) ≤ (n : Int) - 1 := by omega
  have i4 : ((n : Int) - 1).toNat = n - 1 := by omega
  have j1 : (q : Int) ≤ (((a : ByteArray).size : Nat) : Int) := by omega
  have j2 : (0 : Int) ≤ (q : Int) := by omega
  have H3 := Lib.hid h3
  have HX := Lib.hid hx
  have HLT := Lib.hid (rdr_lo h)
  have AL := Lib.hid (alb w (.cells #[.string ⟨#[]⟩, .string ⟨#[]⟩] 30))
  have Z0 := Lib.hid (heap_alloc_new w (.cells #[.string ⟨#[]⟩, .string ⟨#[]⟩] 30))
  have N0 := Lib.hid (num_ok _ _ _ r _ (h.later AL.out) h1)
  have k0 := bel_later AL.out hc
  clear h hc hsz h3 hx h1
  go_enter Try.func20, Try.ntmps20
  go_wp2_with (first
    | (go_at_call 19; ((with_reducible refine N0.out.mono ?_); rintro e w1 ⟨rfl, h1⟩; have H1 := Lib.hid h1; have Z1 := Lib.hid (keep_chg h1.chg Z0.out (fun e => by have := HLT.out; omega)); clear h1))
    | (go_at_call 21; ((with_reducible refine (check_ok _ _ _).mono ?_); rintro e w2 ⟨rfl, rfl⟩))
    | fail)
  have T0 := Lib.hid (text_err _ _ _ 256 _ r _ (show Rdr w1.drew r _ from H1.out.rdr) H3.out HX.out)
  refine wp_region_any (by kernel_rfl) ?_
  change wpAny _ _ _ _ _ _ _ (World.drew _)
  refine wpAny_take (i := 0) (oi := { dst := some 26, op := Op.move (Operand.tmp 5), type := 9, pos := "pack.go:80", after := #[], guard := none }) (v := ?_) rfl (by kernel_rfl) (by kernel_rfl) (by kernel_rfl) (fun _ _ _ h => h) (Or.inl ⟨by rfl, ?_⟩) ?_
  rotate_left
  · intro w; go_simp; try with_reducible rfl
  refine wpAny_take (i := 1) (oi := { dst := some 27, op := Op.move (Operand.tmp 6), type := 3, pos := "pack.go:80", after := #[], guard := none }) (v := ?_) rfl (by kernel_rfl) (by kernel_rfl) (by kernel_rfl) (fun _ _ _ h => h) (Or.inl ⟨by rfl, ?_⟩) ?_
  rotate_left
  · intro w; go_simp; try with_reducible rfl
  refine wpAny_take (i := 2) (oi := { dst := some 28, op := Op.slice 9 (Operand.tmp 26) none (some (Operand.tmp 27)) none, type := 9, pos := "pack.go:80", after := #[{ on := 0, ground := Ground.data }, { on := 1, ground := Ground.data }], guard := none }) (v := ?_) rfl (by kernel_rfl) (by kernel_rfl) (by kernel_rfl) (fun _ _ _ h => h) (Or.inl ⟨by rfl, ?_⟩) ?_
  rotate_left
  · intro w; go_simp; try with_reducible rfl
  refine wpAny_take (i := 3) (oi := { dst := some 29, op := Op.move (Operand.tmp 0), type := 39, pos := "pack.go:80", after := #[], guard := none }) (v := ?_) rfl (by kernel_rfl) (by kernel_rfl) (by kernel_rfl) (fun _ _ _ h => h) (Or.inl ⟨by rfl, ?_⟩) ?_
  rotate_left
  · intro w; go_simp; try with_reducible rfl
  refine wpAny_ready (rs := [4]) (by kernel_rfl) (by simp) ?_
  refine AllReady.cons (o := { dst := some 30, op := Op.call { callee := Callee.value (Operand.func 36), args := #[Operand.tmp 29, Operand.const (Value.int IntKind.i64 256)], argTypes := #[39, 3] }, type := 9, pos := "pack.go:80", after := #[{ on := 3, ground := Ground.data }], guard := none }) rfl (fun K hK => ?_) AllReady.nil
  go_simp
  refine T0.out.mono ?_
  rintro e w3 ⟨rfl, h3⟩
  exact ⟨rfl, rfl, ((Go1.ahead AL.out H1.out).later (drew_bel w1 |>.trans h3)).chg⟩
set_option maxHeartbeats 4000000 in
theorem entry_b_ord1 (r : Nat) (A : Option Addr) (n c : Nat) (a s r1 t r2 v r3 p k : ByteArray) (q : Nat) (x : Int) (m : Nat) (w : World) (h : Rdr w r s) (hn : 0 < n) (hn2 : n ≤ 1000000) (hA : ∃ b off, A = some ⟨b, off, none⟩ ∧ w.cell? ⟨b, off + (n - 1) * 2, none⟩ = some (.string a)) (hsz : a.size + s.size ≤ 1000000) (h1 : tnF s = ((q : Int), r1, 0)) (h2 : q ≤ ((a : ByteArray).size)) (h3 : ttF r1 256 = (t, r2, 0)) (hp : (a : ByteArray).extract 0 q = p) (hk : p ++ t = k) (hl : Op.bytesLess k.toList a.toList = true) :
    Calls Try.prog 20 #[.pointer (some ⟨r, 0, none⟩), .slice A n c] w (EnPost r (.error 16) w) := by
  have hal := run_ze
  obtain ⟨b, off, rfl, hc⟩ := hA
  have i1 : (0 : Int) < (n : Int) := by omega
  have i2 : (n : Int) - 1 < (n : Int) := by omega
  have i3 : (0 : Int) ≤ (n : Int) - 1 := by omega
  have i4 : ((n : Int) - 1).toNat = n - 1 := by omega
  have j1 : (q : Int) ≤ (((a : ByteArray).size : Nat) : Int) := by omega
  have j2 : (0 : Int) ≤ (q : Int) := by omega
  have hr1 := tnF_sz s r1 _ h1
  have ht1 := ttF_sz r1 t r2 256 h3
  have hpz : p.size = q := by rw [← hp, ByteArray.size_extract]; omega
  have hkz : k.size = q + t.size := by rw [← hk, ByteArray.size_append, hpz]
  have z1 : ¬ 9223372036854775807 < p.size + t.size := by omega
  have H3 := Lib.hid h3
  have HLT := Lib.hid (rdr_lo h)
  have AL := Lib.hid (alb w (.cells #[.string ⟨#[]⟩, .string ⟨#[]⟩] 30))
  have Z0 := Lib.hid (heap_alloc_new w (.cells #[.string ⟨#[]⟩, .string ⟨#[]⟩] 30))
  have N0 := Lib.hid (num_ok _ _ _ r _ (h.later AL.out) h1)
  have k0 := bel_later AL.out hc
  clear h hc hsz h3 hr1 ht1 hpz hkz h1
  go_enter Try.func20, Try.ntmps20
  go_wp2_with (first
    | (go_at_call 19; ((with_reducible refine N0.out.mono ?_); rintro e w1 ⟨rfl, h1⟩; have H1 := Lib.hid h1; have Z1 := Lib.hid (keep_chg h1.chg Z0.out (fun e => by have := HLT.out; omega)); clear h1))
    | (go_at_call 21; ((with_reducible refine (check_ok _ _ _).mono ?_); rintro e w2 ⟨rfl, rfl⟩))
    | fail)
  have T0 := Lib.hid (text_ok _ _ _ 256 r _ (show Rdr w1.drew r _ from H1.out.rdr) H3.out)
  go_region_with (go_at_call 36; refine T0.out.mono ?_; rintro e w3 ⟨rfl, h3⟩; have H3b := Lib.hid h3; have Z3 := Lib.hid (keep_chg h3.chg (show w1.drew.heap[w.heap.size]? = _ from Z1.out) (fun e => by have := HLT.out; omega)))
  all_goals
    go_wp2_with (first
      | (go_at_call 21; ((with_reducible refine (check_no _ _ _).mono ?_); rintro e w2 ⟨rfl, rfl⟩))
      | fail)
    exact ⟨rfl, rfl, (Go1.ahead AL.out (H1.out.trans (Go1.ahead (drew_bel w1) H3b.out))).chg⟩
set_option maxHeartbeats 4000000 in
theorem entry_b_ord2 (r : Nat) (A : Option Addr) (n c : Nat) (a s r1 t r2 v r3 p k : ByteArray) (q : Nat) (x : Int) (m : Nat) (w : World) (h : Rdr w r s) (hn : 0 < n) (hn2 : n ≤ 1000000) (hA : ∃ b off, A = some ⟨b, off, none⟩ ∧ w.cell? ⟨b, off + (n - 1) * 2, none⟩ = some (.string a)) (hsz : a.size + s.size ≤ 1000000) (h1 : tnF s = ((q : Int), r1, 0)) (h2 : q ≤ ((a : ByteArray).size)) (h3 : ttF r1 256 = (t, r2, 0)) (hp : (a : ByteArray).extract 0 q = p) (hk : p ++ t = k) (hl : Op.bytesLess k.toList a.toList = false) (heq : (k.toList == a.toList) = true) :
    Calls Try.prog 20 #[.pointer (some ⟨r, 0, none⟩), .slice A n c] w (EnPost r (.error 16) w) := by
  have hal := run_ze
  obtain ⟨b, off, rfl, hc⟩ := hA
  have i1 : (0 : Int) < (n : Int) := by omega
  have i2 : (n : Int) - 1 < (n : Int) := by omega
  have i3 : (0 : Int) ≤ (n : Int) - 1 := by omega
  have i4 : ((n : Int) - 1).toNat = n - 1 := by omega
  have j1 : (q : Int) ≤ (((a : ByteArray).size : Nat) : Int) := by omega
  have j2 : (0 : Int) ≤ (q : Int) := by omega
  have hr1 := tnF_sz s r1 _ h1
  have ht1 := ttF_sz r1 t r2 256 h3
  have hpz : p.size = q := by rw [← hp, ByteArray.size_extract]; omega
  have hkz : k.size = q + t.size := by rw [← hk, ByteArray.size_append, hpz]
  have z1 : ¬ 9223372036854775807 < p.size + t.size := by omega
  have H3 := Lib.hid h3
  have HLT := Lib.hid (rdr_lo h)
  have AL := Lib.hid (alb w (.cells #[.string ⟨#[]⟩, .string ⟨#[]⟩] 30))
  have Z0 := Lib.hid (heap_alloc_new w (.cells #[.string ⟨#[]⟩, .string ⟨#[]⟩] 30))
  have N0 := Lib.hid (num_ok _ _ _ r _ (h.later AL.out) h1)
  have k0 := bel_later AL.out hc
  clear h hc hsz h3 hr1 ht1 hpz hkz h1
  go_enter Try.func20, Try.ntmps20
  go_wp2_with (first
    | (go_at_call 19; ((with_reducible refine N0.out.mono ?_); rintro e w1 ⟨rfl, h1⟩; have H1 := Lib.hid h1; have Z1 := Lib.hid (keep_chg h1.chg Z0.out (fun e => by have := HLT.out; omega)); clear h1))
    | (go_at_call 21; ((with_reducible refine (check_ok _ _ _).mono ?_); rintro e w2 ⟨rfl, rfl⟩))
    | fail)
  have T0 := Lib.hid (text_ok _ _ _ 256 r _ (show Rdr w1.drew r _ from H1.out.rdr) H3.out)
  go_region_with (go_at_call 36; refine T0.out.mono ?_; rintro e w3 ⟨rfl, h3⟩; have H3b := Lib.hid h3; have Z3 := Lib.hid (keep_chg h3.chg (show w1.drew.heap[w.heap.size]? = _ from Z1.out) (fun e => by have := HLT.out; omega)))
  all_goals
    go_wp2_with (first
      | (go_at_call 21; ((with_reducible refine (check_no _ _ _).mono ?_); rintro e w2 ⟨rfl, rfl⟩))
      | fail)
    exact ⟨rfl, rfl, (Go1.ahead AL.out (H1.out.trans (Go1.ahead (drew_bel w1) H3b.out))).chg⟩
set_option maxHeartbeats 4000000 in
theorem entry_b_ord3 (r : Nat) (A : Option Addr) (n c : Nat) (a s r1 t r2 v r3 p k : ByteArray) (q : Nat) (x : Int) (m : Nat) (w : World) (h : Rdr w r s) (hn : 0 < n) (hn2 : n ≤ 1000000) (hA : ∃ b off, A = some ⟨b, off, none⟩ ∧ w.cell? ⟨b, off + (n - 1) * 2, none⟩ = some (.string a)) (hsz : a.size + s.size ≤ 1000000) (h1 : tnF s = ((q : Int), r1, 0)) (h2 : q ≤ ((a : ByteArray).size)) (h3 : ttF r1 256 = (t, r2, 0)) (hp : (a : ByteArray).extract 0 q = p) (hk : p ++ t = k) (hl : Op.bytesLess a.toList k.toList = true) (hs : shB a k = m) (hne : m ≠ q) :
    Calls Try.prog 20 #[.pointer (some ⟨r, 0, none⟩), .slice A n c] w (EnPost r (.error 16) w) := by
  have hal := run_ze
  obtain ⟨b, off, rfl, hc⟩ := hA
  have i1 : (0 : Int) < (n : Int) := by omega
  have i2 : (n : Int) - 1 < (n : Int) := by omega
  have i3 : (0 : Int) ≤ (n : Int) - 1 := by omega
  have i4 : ((n : Int) - 1).toNat = n - 1 := by omega
  have j1 : (q : Int) ≤ (((a : ByteArray).size : Nat) : Int) := by omega
  have j2 : (0 : Int) ≤ (q : Int) := by omega
  have hr1 := tnF_sz s r1 _ h1
  have ht1 := ttF_sz r1 t r2 256 h3
  have hpz : p.size = q := by rw [← hp, ByteArray.size_extract]; omega
  have hkz : k.size = q + t.size := by rw [← hk, ByteArray.size_append, hpz]
  have z1 : ¬ 9223372036854775807 < p.size + t.size := by omega
  have H3 := Lib.hid h3
  have hgt : Op.bytesLess k.toList a.toList = false := bl_asymm _ _ hl
  have heq : (k.toList == a.toList) = false := by
    rw [beq_eq_false_iff_ne]; intro e; rw [e, bl_irr] at hl; cases hl
  have SH : Hid (∀ W, Calls Try.prog 28 #[.string a, .string k] W fun e w' => e = .returned (.int .i64 m) ∧ Below W.heap.size W w') := Lib.hid (fun W => by
    have z := shared_any a k W (by unfold maxLen; omega) (by unfold maxLen; omega)
    rw [show shN a.toList k.toList = m from hs] at z
    exact z)
  have hne1 : ((m : Int) == (q : Int)) = false := by rw [beq_eq_false_iff_ne]; omega
  have HLT := Lib.hid (rdr_lo h)
  have AL := Lib.hid (alb w (.cells #[.string ⟨#[]⟩, .string ⟨#[]⟩] 30))
  have Z0 := Lib.hid (heap_alloc_new w (.cells #[.string ⟨#[]⟩, .string ⟨#[]⟩] 30))
  have N0 := Lib.hid (num_ok _ _ _ r _ (h.later AL.out) h1)
  have k0 := bel_later AL.out hc
  clear h hc hsz h3 hr1 ht1 hpz hkz hl hs h1
  go_enter Try.func20, Try.ntmps20
  go_wp2_with (first
    | (go_at_call 19; ((with_reducible refine N0.out.mono ?_); rintro e w1 ⟨rfl, h1⟩; have H1 := Lib.hid h1; have Z1 := Lib.hid (keep_chg h1.chg Z0.out (fun e => by have := HLT.out; omega)); clear h1))
    | (go_at_call 21; ((with_reducible refine (check_ok _ _ _).mono ?_); rintro e w2 ⟨rfl, rfl⟩))
    | fail)
  have T0 := Lib.hid (text_ok _ _ _ 256 r _ (show Rdr w1.drew r _ from H1.out.rdr) H3.out)
  go_region_with (go_at_call 36; refine T0.out.mono ?_; rintro e w3 ⟨rfl, h3⟩; have H3b := Lib.hid h3; have Z3 := Lib.hid (keep_chg h3.chg (show w1.drew.heap[w.heap.size]? = _ from Z1.out) (fun e => by have := HLT.out; omega)))
  all_goals
    go_wp2_with (first
      | (go_at_call 28; ((with_reducible refine (SH.out _).mono ?_); rintro e w5 ⟨rfl, b5⟩; have B5 := Lib.hid b5; clear b5))
      | (go_at_call 21; ((with_reducible refine (check_no _ _ _).mono ?_); rintro e w2 ⟨rfl, rfl⟩))
      | fail)
    exact ⟨rfl, rfl, ((Go1.ahead AL.out (H1.out.trans (Go1.ahead (drew_bel w1) H3b.out))).later B5.out).chg⟩
set_option maxHeartbeats 4000000 in
theorem entry_b_val (r : Nat) (A : Option Addr) (n c : Nat) (a s r1 t r2 v r3 p k : ByteArray) (q : Nat) (x : Int) (m : Nat) (w : World) (h : Rdr w r s) (hn : 0 < n) (hn2 : n ≤ 1000000) (hA : ∃ b off, A = some ⟨b, off, none⟩ ∧ w.cell? ⟨b, off + (n - 1) * 2, none⟩ = some (.string a)) (hsz : a.size + s.size ≤ 1000000) (h1 : tnF s = ((q : Int), r1, 0)) (h2 : q ≤ ((a : ByteArray).size)) (h3 : ttF r1 256 = (t, r2, 0)) (hp : (a : ByteArray).extract 0 q = p) (hk : p ++ t = k) (hl : Op.bytesLess a.toList k.toList = true) (hs : shB a k = q) (h5 : ttF r2 4096 = (v, r3, x)) (hx : x ≠ 0) :
    Calls Try.prog 20 #[.pointer (some ⟨r, 0, none⟩), .slice A n c] w (EnPost r (.error x) w) := by
  have hal := run_ze
  obtain ⟨b, off, rfl, hc⟩ := hA
  have i1 : (0 : Int) < (n : Int) := by omega
  have i2 : (n : Int) - 1 < (n : Int) := by omega
  have i3 : (0 : Int) ≤ (n : Int) - 1 := by omega
  have i4 : ((n : Int) - 1).toNat = n - 1 := by omega
  have j1 : (q : Int) ≤ (((a : ByteArray).size : Nat) : Int) := by omega
  have j2 : (0 : Int) ≤ (q : Int) := by omega
  have hr1 := tnF_sz s r1 _ h1
  have ht1 := ttF_sz r1 t r2 256 h3
  have hpz : p.size = q := by rw [← hp, ByteArray.size_extract]; omega
  have hkz : k.size = q + t.size := by rw [← hk, ByteArray.size_append, hpz]
  have z1 : ¬ 9223372036854775807 < p.size + t.size := by omega
  have H3 := Lib.hid h3
  have hgt : Op.bytesLess k.toList a.toList = false := bl_asymm _ _ hl
  have heq : (k.toList == a.toList) = false := by
    rw [beq_eq_false_iff_ne]; intro e; rw [e, bl_irr] at hl; cases hl
  have SH : Hid (∀ W, Calls Try.prog 28 #[.string a, .string k] W fun e w' => e = .returned (.int .i64 q) ∧ Below W.heap.size W w') := Lib.hid (fun W => by
    have z := shared_any a k W (by unfold maxLen; omega) (by unfold maxLen; omega)
    rw [show shN a.toList k.toList = q from hs] at z
    exact z)
  have H5 := Lib.hid h5
  have HX := Lib.hid hx
  have HLT := Lib.hid (rdr_lo h)
  have AL := Lib.hid (alb w (.cells #[.string ⟨#[]⟩, .string ⟨#[]⟩] 30))
  have Z0 := Lib.hid (heap_alloc_new w (.cells #[.string ⟨#[]⟩, .string ⟨#[]⟩] 30))
  have N0 := Lib.hid (num_ok _ _ _ r _ (h.later AL.out) h1)
  have k0 := bel_later AL.out hc
  clear h hc hsz h3 hr1 ht1 hpz hkz hl hs h5 hx h1
  go_enter Try.func20, Try.ntmps20
  go_wp2_with (first
    | (go_at_call 19; ((with_reducible refine N0.out.mono ?_); rintro e w1 ⟨rfl, h1⟩; have H1 := Lib.hid h1; have Z1 := Lib.hid (keep_chg h1.chg Z0.out (fun e => by have := HLT.out; omega)); clear h1))
    | (go_at_call 21; ((with_reducible refine (check_ok _ _ _).mono ?_); rintro e w2 ⟨rfl, rfl⟩))
    | fail)
  have T0 := Lib.hid (text_ok _ _ _ 256 r _ (show Rdr w1.drew r _ from H1.out.rdr) H3.out)
  go_region_with (go_at_call 36; refine T0.out.mono ?_; rintro e w3 ⟨rfl, h3⟩; have H3b := Lib.hid h3; have Z3 := Lib.hid (keep_chg h3.chg (show w1.drew.heap[w.heap.size]? = _ from Z1.out) (fun e => by have := HLT.out; omega)))
  all_goals
    go_wp2_with (first
      | (go_at_call 28; ((with_reducible refine (SH.out _).mono ?_); rintro e w5 ⟨rfl, b5⟩; have B5 := Lib.hid b5; have Z5 := Lib.hid (keep_bel b5 Z3.out); have T1 := Lib.hid (text_err _ _ _ 4096 _ r _ (H3b.out.rdr.later b5) H5.out HX.out); clear b5))
      | (go_at_call 21; ((with_reducible refine (check_ok _ _ _).mono ?_); rintro e w2 ⟨rfl, rfl⟩))
      | (go_at_call 36; ((with_reducible refine T1.out.mono ?_); rintro e w4 ⟨rfl, b4⟩; have B4 := Lib.hid b4; clear b4))
      | fail)
    exact ⟨rfl, rfl, ((Go1.ahead AL.out (H1.out.trans (Go1.ahead (drew_bel w1) H3b.out))).later (bel_trans B5.out B4.out)).chg⟩
set_option maxHeartbeats 4000000 in
theorem entry_a_num (r : Nat) (A : Option Addr) (c : Nat) (s r1 t r2 v r3 p k : ByteArray) (q : Nat) (x : Int) (m : Nat) (w : World) (h : Rdr w r s) (hsz : s.size ≤ 1000000) (y : Int) (h1 : tnF s = (y, r1, x)) (hx : x ≠ 0) :
    Calls Try.prog 20 #[.pointer (some ⟨r, 0, none⟩), .slice A 0 c] w (EnPost r (.error x) w) := by
  have hal := run_ze
  have HLT := Lib.hid (rdr_lo h)
  have AL := Lib.hid (alb w (.cells #[.string ⟨#[]⟩, .string ⟨#[]⟩] 30))
  have Z0 := Lib.hid (heap_alloc_new w (.cells #[.string ⟨#[]⟩, .string ⟨#[]⟩] 30))
  have N0 := Lib.hid (num_err _ _ _ _ r _ (h.later AL.out) h1 hx)
  clear h h1
  go_enter Try.func20, Try.ntmps20
  go_wp2_with (first
    | (go_at_call 19; ((with_reducible refine N0.out.mono ?_); rintro e w1 ⟨rfl, h1⟩; have H1 := Lib.hid h1; clear h1))
    | fail)
  exact ⟨rfl, rfl, (Chg.of_below (bel_trans AL.out H1.out)).more (fun g e => e)⟩
set_option maxHeartbeats 4000000 in
theorem entry_a_far (r : Nat) (A : Option Addr) (c : Nat) (s r1 t r2 v r3 p k : ByteArray) (q : Nat) (x : Int) (m : Nat) (w : World) (h : Rdr w r s) (hsz : s.size ≤ 1000000) (h1 : tnF s = ((q : Int), r1, 0)) (h2 : ¬ q ≤ ((⟨#[]⟩ : ByteArray).size)) :
    Calls Try.prog 20 #[.pointer (some ⟨r, 0, none⟩), .slice A 0 c] w (EnPost r (.error 3) w) := by
  have hal := run_ze
  have j1 : ¬ (q : Int) ≤ (((⟨#[]⟩ : ByteArray).size : Nat) : Int) := by omega
  have j3 : ¬ q = 0 := by have : ((⟨#[]⟩ : ByteArray).size) = 0 := rfl; omega
  have HLT := Lib.hid (rdr_lo h)
  have AL := Lib.hid (alb w (.cells #[.string ⟨#[]⟩, .string ⟨#[]⟩] 30))
  have Z0 := Lib.hid (heap_alloc_new w (.cells #[.string ⟨#[]⟩, .string ⟨#[]⟩] 30))
  have N0 := Lib.hid (num_ok _ _ _ r _ (h.later AL.out) h1)
  clear h h1
  go_enter Try.func20, Try.ntmps20
  go_wp2_with (first
    | (go_at_call 19; ((with_reducible refine N0.out.mono ?_); rintro e w1 ⟨rfl, h1⟩; have H1 := Lib.hid h1; have Z1 := Lib.hid (keep_chg h1.chg Z0.out (fun e => by have := HLT.out; omega)); clear h1))
    | (go_at_call 21; ((with_reducible refine (check_no _ _ _).mono ?_); rintro e w2 ⟨rfl, rfl⟩))
    | fail)
  exact ⟨rfl, rfl, (Go1.ahead AL.out H1.out).chg⟩
set_option maxHeartbeats 4000000 in
theorem entry_a_txt (r : Nat) (A : Option Addr) (c : Nat) (s r1 t r2 v r3 p k : ByteArray) (q : Nat) (x : Int) (m : Nat) (w : World) (h : Rdr w r s) (hsz : s.size ≤ 1000000) (h1 : tnF s = ((q : Int), r1, 0)) (h2 : q ≤ ((⟨#[]⟩ : ByteArray).size)) (h3 : ttF r1 256 = (t, r2, x)) (hx : x ≠ 0) :
    Calls Try.prog 20 #[.pointer (some ⟨r, 0, none⟩), .slice A 0 c] w (EnPost r (.error x) w) := by
  have hal := run_ze
  obtain rfl : q = 0 := by have : ((⟨#[]⟩ : ByteArray).size) = 0 := rfl; omega
  have H3 := Lib.hid h3
  have HX := Lib.hid hx
  have HLT := Lib.hid (rdr_lo h)
  have AL := Lib.hid (alb w (.cells #[.string ⟨#[]⟩, .string ⟨#[]⟩] 30))
  have Z0 := Lib.hid (heap_alloc_new w (.cells #[.string ⟨#[]⟩, .string ⟨#[]⟩] 30))
  have N0 := Lib.hid (num_ok _ _ _ r _ (h.later AL.out) h1)
  clear h h3 hx h1
  go_enter Try.func20, Try.ntmps20
  go_wp2_with (first
    | (go_at_call 19; ((with_reducible refine N0.out.mono ?_); rintro e w1 ⟨rfl, h1⟩; have H1 := Lib.hid h1; have Z1 := Lib.hid (keep_chg h1.chg Z0.out (fun e => by have := HLT.out; omega)); clear h1))
    | (go_at_call 21; ((with_reducible refine (check_ok _ _ _).mono ?_); rintro e w2 ⟨rfl, rfl⟩))
    | fail)
  have T0 := Lib.hid (text_err _ _ _ 256 _ r _ (show Rdr w1.drew r _ from H1.out.rdr) H3.out HX.out)
  refine wp_region_any (by kernel_rfl) ?_
  change wpAny _ _ _ _ _ _ _ (World.drew _)
  refine wpAny_take (i := 0) (oi := { dst := some 26, op := Op.move (Operand.tmp 5), type := 9, pos := "pack.go:80", after := #[], guard := none }) (v := ?_) rfl (by kernel_rfl) (by kernel_rfl) (by kernel_rfl) (fun _ _ _ h => h) (Or.inl ⟨by rfl, ?_⟩) ?_
  rotate_left
  · intro w; go_simp; try with_reducible rfl
  refine wpAny_take (i := 1) (oi := { dst := some 27, op := Op.move (Operand.tmp 6), type := 3, pos := "pack.go:80", after := #[], guard := none }) (v := ?_) rfl (by kernel_rfl) (by kernel_rfl) (by kernel_rfl) (fun _ _ _ h => h) (Or.inl ⟨by rfl, ?_⟩) ?_
  rotate_left
  · intro w; go_simp; try with_reducible rfl
  refine wpAny_take (i := 2) (oi := { dst := some 28, op := Op.slice 9 (Operand.tmp 26) none (some (Operand.tmp 27)) none, type := 9, pos := "pack.go:80", after := #[{ on := 0, ground := Ground.data }, { on := 1, ground := Ground.data }], guard := none }) (v := ?_) rfl (by kernel_rfl) (by kernel_rfl) (by kernel_rfl) (fun _ _ _ h => h) (Or.inl ⟨by rfl, ?_⟩) ?_
  rotate_left
  · intro w; go_simp; try with_reducible rfl
  refine wpAny_take (i := 3) (oi := { dst := some 29, op := Op.move (Operand.tmp 0), type := 39, pos := "pack.go:80", after := #[], guard := none }) (v := ?_) rfl (by kernel_rfl) (by kernel_rfl) (by kernel_rfl) (fun _ _ _ h => h) (Or.inl ⟨by rfl, ?_⟩) ?_
  rotate_left
  · intro w; go_simp; try with_reducible rfl
  refine wpAny_ready (rs := [4]) (by kernel_rfl) (by simp) ?_
  refine AllReady.cons (o := { dst := some 30, op := Op.call { callee := Callee.value (Operand.func 36), args := #[Operand.tmp 29, Operand.const (Value.int IntKind.i64 256)], argTypes := #[39, 3] }, type := 9, pos := "pack.go:80", after := #[{ on := 3, ground := Ground.data }], guard := none }) rfl (fun K hK => ?_) AllReady.nil
  go_simp
  refine T0.out.mono ?_
  rintro e w3 ⟨rfl, h3⟩
  exact ⟨rfl, rfl, ((Go1.ahead AL.out H1.out).later (drew_bel w1 |>.trans h3)).chg⟩
set_option maxHeartbeats 4000000 in
theorem entry_a_val (r : Nat) (A : Option Addr) (c : Nat) (s r1 t r2 v r3 p k : ByteArray) (q : Nat) (x : Int) (m : Nat) (w : World) (h : Rdr w r s) (hsz : s.size ≤ 1000000) (h1 : tnF s = ((q : Int), r1, 0)) (h2 : q ≤ ((⟨#[]⟩ : ByteArray).size)) (h3 : ttF r1 256 = (t, r2, 0)) (hp : (⟨#[]⟩ : ByteArray).extract 0 q = p) (hk : p ++ t = k) (h5 : ttF r2 4096 = (v, r3, x)) (hx : x ≠ 0) :
    Calls Try.prog 20 #[.pointer (some ⟨r, 0, none⟩), .slice A 0 c] w (EnPost r (.error x) w) := by
  have hal := run_ze
  obtain rfl : q = 0 := by have : ((⟨#[]⟩ : ByteArray).size) = 0 := rfl; omega
  have hr1 := tnF_sz s r1 _ h1
  have ht1 := ttF_sz r1 t r2 256 h3
  have hpz : p.size = 0 := by rw [← hp, ByteArray.size_extract]; omega
  have hkz : k.size = 0 + t.size := by rw [← hk, ByteArray.size_append, hpz]
  have z1 : ¬ 9223372036854775807 < p.size + t.size := by omega
  have H3 := Lib.hid h3
  have hkt : k = t := by rw [← hk, ← hp]; simp
  clear hk hp z1 hkz hpz
  subst hkt
  have z2 : ¬ 9223372036854775807 < k.size := by omega
  have H5 := Lib.hid h5
  have HX := Lib.hid hx
  have HLT := Lib.hid (rdr_lo h)
  have AL := Lib.hid (alb w (.cells #[.string ⟨#[]⟩, .string ⟨#[]⟩] 30))
  have Z0 := Lib.hid (heap_alloc_new w (.cells #[.string ⟨#[]⟩, .string ⟨#[]⟩] 30))
  have N0 := Lib.hid (num_ok _ _ _ r _ (h.later AL.out) h1)
  clear h h3 hr1 ht1 h5 hx h1
  go_enter Try.func20, Try.ntmps20
  go_wp2_with (first
    | (go_at_call 19; ((with_reducible refine N0.out.mono ?_); rintro e w1 ⟨rfl, h1⟩; have H1 := Lib.hid h1; have Z1 := Lib.hid (keep_chg h1.chg Z0.out (fun e => by have := HLT.out; omega)); clear h1))
    | (go_at_call 21; ((with_reducible refine (check_ok _ _ _).mono ?_); rintro e w2 ⟨rfl, rfl⟩))
    | fail)
  have T0 := Lib.hid (text_ok _ _ _ 256 r _ (show Rdr w1.drew r _ from H1.out.rdr) H3.out)
  go_region_with (go_at_call 36; refine T0.out.mono ?_; rintro e w3 ⟨rfl, h3⟩; have H3b := Lib.hid h3; have Z3 := Lib.hid (keep_chg h3.chg (show w1.drew.heap[w.heap.size]? = _ from Z1.out) (fun e => by have := HLT.out; omega)))
  all_goals
    have T1 := Lib.hid (text_err _ _ _ 4096 _ r _ H3b.out.rdr H5.out HX.out)
    go_wp2_with (first
      | (go_at_call 36; ((with_reducible refine T1.out.mono ?_); rintro e w4 ⟨rfl, b4⟩; have B4 := Lib.hid b4; clear b4))
      | fail)
    exact ⟨rfl, rfl, ((Go1.ahead AL.out (H1.out.trans (Go1.ahead (drew_bel w1) H3b.out))).later B4.out).chg⟩
set_option maxHeartbeats 4000000 in
theorem entry_a_ok (r : Nat) (A : Option Addr) (c : Nat) (s r1 t r2 v r3 p k : ByteArray) (q : Nat) (x : Int) (m : Nat) (w : World) (h : Rdr w r s) (hsz : s.size ≤ 1000000) (h1 : tnF s = ((q : Int), r1, 0)) (h2 : q ≤ ((⟨#[]⟩ : ByteArray).size)) (h3 : ttF r1 256 = (t, r2, 0)) (hp : (⟨#[]⟩ : ByteArray).extract 0 q = p) (hk : p ++ t = k) (h5 : ttF r2 4096 = (v, r3, 0)) :
    Calls Try.prog 20 #[.pointer (some ⟨r, 0, none⟩), .slice A 0 c] w (EnPost r (.ok ((k, v), r3)) w) := by
  have hal := run_ze
  obtain rfl : q = 0 := by have : ((⟨#[]⟩ : ByteArray).size) = 0 := rfl; omega
  have hr1 := tnF_sz s r1 _ h1
  have ht1 := ttF_sz r1 t r2 256 h3
  have hpz : p.size = 0 := by rw [← hp, ByteArray.size_extract]; omega
  have hkz : k.size = 0 + t.size := by rw [← hk, ByteArray.size_append, hpz]
  have z1 : ¬ 9223372036854775807 < p.size + t.size := by omega
  have H3 := Lib.hid h3
  have hkt : k = t := by rw [← hk, ← hp]; simp
  clear hk hp z1 hkz hpz
  subst hkt
  have z2 : ¬ 9223372036854775807 < k.size := by omega
  have H5 := Lib.hid h5
  have HLT := Lib.hid (rdr_lo h)
  have AL := Lib.hid (alb w (.cells #[.string ⟨#[]⟩, .string ⟨#[]⟩] 30))
  have Z0 := Lib.hid (heap_alloc_new w (.cells #[.string ⟨#[]⟩, .string ⟨#[]⟩] 30))
  have N0 := Lib.hid (num_ok _ _ _ r _ (h.later AL.out) h1)
  clear h h3 hr1 ht1 h5 h1
  go_enter Try.func20, Try.ntmps20
  go_wp2_with (first
    | (go_at_call 19; ((with_reducible refine N0.out.mono ?_); rintro e w1 ⟨rfl, h1⟩; have H1 := Lib.hid h1; have Z1 := Lib.hid (keep_chg h1.chg Z0.out (fun e => by have := HLT.out; omega)); clear h1))
    | (go_at_call 21; ((with_reducible refine (check_ok _ _ _).mono ?_); rintro e w2 ⟨rfl, rfl⟩))
    | fail)
  have T0 := Lib.hid (text_ok _ _ _ 256 r _ (show Rdr w1.drew r _ from H1.out.rdr) H3.out)
  go_region_with (go_at_call 36; refine T0.out.mono ?_; rintro e w3 ⟨rfl, h3⟩; have H3b := Lib.hid h3; have Z3 := Lib.hid (keep_chg h3.chg (show w1.drew.heap[w.heap.size]? = _ from Z1.out) (fun e => by have := HLT.out; omega)))
  all_goals
    have T1 := Lib.hid (text_ok _ _ _ 4096 r _ H3b.out.rdr H5.out)
    go_wp2_with (first
      | (go_at_call 36; ((with_reducible refine T1.out.mono ?_); rintro e w4 ⟨rfl, h4⟩; have H4 := Lib.hid h4; have Z4 := Lib.hid (keep_chg h4.chg Z3.out (fun e => by have := HLT.out; omega)); clear h4))
      | (refine wpList_store_row rfl 30 (.tmp 4) (.tmp 50) rfl w.heap.size #[.string k, .string v] rfl rfl 30 _ Z4.out info30 rfl (by simp [Value.oneCell']) ?_)
      | fail)
    have hg : Go1 r r3 w w4 := (Go1.ahead AL.out (H1.out.trans (Go1.ahead (drew_bel w1) H3b.out))).trans H4.out
    exact bodyPost_ret (v := .agg #[.string k, .string v]) (res30 rfl _ _ w.heap.size _ rfl (setRow_heap _ _ _ _ _ _ Z4.out) rfl) rfl ⟨rfl, hg.rdr.row (by have := HLT.out; omega) _, hg.chg.trans (Chg.of_row _ w.heap.size _) (fun x e => .inr (by omega))⟩
end Go.Proofs.Yteiifcmdpoonmaa
