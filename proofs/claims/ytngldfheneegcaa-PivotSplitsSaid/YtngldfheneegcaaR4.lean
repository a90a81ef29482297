/- PivotSplits: one more pivot: where it parts the range. -/
import Derived.Test.YtngldfheneegcaaR3
namespace Go.Proofs.Ytngldfheneegcaa
set_option linter.unusedSimpArgs false
open Go.RowKit
set_option linter.unusedVariables false

/-- What the law holds on to. -/
structure L5 (w : World) (a0 s a1 : ByteArray) (Na : Nat) (AW AI AB A : Option Addr) (pw pi : List PP) (q : List ByteArray) (d : Nat) (bi off : Nat) (W : World) : Prop where
  bel : Below w.heap.size w W
  x0 : W.cell? ⟨Na, 0, none⟩ = some (.string a0)
  x1 : W.cell? ⟨Na, 1, none⟩ = some (.string s)
  y0 : W.cell? ⟨Na + 1, 0, none⟩ = some (.string s)
  y1 : W.cell? ⟨Na + 1, 1, none⟩ = some (.string a1)
  z0 : W.cell? ⟨bi, off + d * 2, none⟩ = some (.string a0)
  z1 : W.cell? ⟨bi, off + d * 2 + 1, none⟩ = some (.string s)
  z2 : W.cell? ⟨bi, off + (d + 1) * 2, none⟩ = some (.string s)
  z3 : W.cell? ⟨bi, off + (d + 1) * 2 + 1, none⟩ = some (.string a1)
  pw : RdP W AW pw
  pi : RdP W AI pi
  pb : RdS W AB q
  pq : RdS W A q
theorem L5.later {w : World} {a0 s a1 : ByteArray} {Na : Nat} {AW AI AB A : Option Addr} {pw pi : List PP} {q : List ByteArray} {d bi off : Nat} {W W' : World} (h : L5 w a0 s a1 Na AW AI AB A pw pi q d bi off W) (hb : Below W.heap.size W W') : L5 w a0 s a1 Na AW AI AB A pw pi q d bi off W' :=
  ⟨h.bel.trans (hb.mono h.bel.size), bel_later hb h.x0, bel_later hb h.x1, bel_later hb h.y0, bel_later hb h.y1, bel_later hb h.z0, bel_later hb h.z1, bel_later hb h.z2, bel_later hb h.z3, Rd.later h.pw hb, Rd.later h.pi hb, Rd.later h.pb hb, Rd.later h.pq hb⟩

theorem L5.start {w w7 w8 w9 : World} {a0 s a1 : ByteArray} {AW AB A : Option Addr} {pw pi : List PP} {q : List ByteArray} {d bi off : Nat} (B7 : Below w.heap.size w w7) (E8 : Below w7.heap.size w7 w8)
    (e9 : Below ((w8.alloc (rgc a0 s)).alloc (rgc s a1)).heap.size ((w8.alloc (rgc a0 s)).alloc (rgc s a1)) w9)
    (UU : w7.cell? ⟨bi, off + d * 2, none⟩ = some (.string a0) ∧ w7.cell? ⟨bi, off + d * 2 + 1, none⟩ = some (.string s) ∧ w7.cell? ⟨bi, off + (d + 1) * 2, none⟩ = some (.string s) ∧ w7.cell? ⟨bi, off + (d + 1) * 2 + 1, none⟩ = some (.string a1))
    (RW7 : RdP w7 AW pw) (RI7 : RdP w7 (some ⟨bi, off, none⟩) pi) (rb : RdS w9 AB q) (RQ : RdS w A q) : L5 w a0 s a1 w8.heap.size AW (some ⟨bi, off, none⟩) AB A pw pi q d bi off w9 := by
  have h9 : Below w7.heap.size w7 w9 := bel_trans (bel_alloc (bel_alloc E8 _) _) e9
  have q1 := rgcell (w := w8) a0 s
  have q2 := rgcell (w := w8.alloc (rgc a0 s)) s a1
  rw [World.size_alloc] at q2
  have hb : Below (w8.alloc (rgc a0 s)).heap.size (w8.alloc (rgc a0 s)) w9 := bel_trans (bel_alloc (Below.refl _ _) _) e9
  have hw : Below w.heap.size w w9 := B7.trans (h9.mono B7.size)
  exact ⟨hw, bel_later hb q1.1, bel_later hb q1.2, bel_later e9 q2.1, bel_later e9 q2.2, bel_later h9 UU.1, bel_later h9 UU.2.1, bel_later h9 UU.2.2.1, bel_later h9 UU.2.2.2, Rd.later RW7 h9, Rd.later RI7 h9, rb, Rd.later RQ hw⟩
set_option maxRecDepth 10000 in
set_option maxHeartbeats 8000000 in
theorem splits_yes (A : Option Addr) (n c : Nat) (l : List ByteArray) (f t s : ByteArray) (w : World) (hl : l.length = n) (hc : n ≤ c) (hm : c ≤ maxLen) (hA : A = none → n = 0) (hr : RdS w A l)
    (hyes : ∀ q, q = l.take 30 → rightB q f t = true ∧ risesB (ins q (prt q s) s) = true ∧ rightB (ins q (prt q s) s) f t = true) :
    Calls Try.prog 5 #[.slice A n c, .agg #[.string f, .string t], .string s] w fun e w' => e = .returned (.bool true) ∧ Below w.heap.size w w' := by
  have B0 : Hid (Below w.heap.size w (w.alloc (rgc f t))) := Lib.hid (by go_grown)
  obtain ⟨b0, b1⟩ := rgcell (w := w) f t
  obtain ⟨q, hq⟩ : ∃ q, q = l.take 30 := ⟨_, rfl⟩
  obtain ⟨h, h2, h3⟩ := hyes q hq
  clear hyes
  obtain ⟨m, hmq⟩ : ∃ m, q.length = m := ⟨_, rfl⟩
  have hmn : m = min n 30 := by rw [← hmq, hq, List.length_take, hl, Nat.min_comm]
  have hm30 : m ≤ 30 := by omega
  have hmc : m ≤ c := by omega
  have hm63 : c ≤ 9223372036854775807 := by unfold maxLen at hm; omega
  have hAm : A = none → m = 0 := fun e => by have := hA e; omega
  have hrq : RdS w A q := by rw [hq]; exact rd_take hr 30
  have FW : Hid (∀ W, Calls Try.prog 6 #[.slice A n c] W fun e w' => e = .returned (.slice A m c) ∧ Below W.heap.size W w') := Lib.hid (fun W => by rw [hmn]; exact few_any A n c W hc hm63)
  have RR := Lib.hid (fun W (hb : Below w.heap.size w W) => rright_all A q m c f t W hmq (by omega) (Rd.later hrq hb))
  rw [h] at RR
  have PA := Lib.hid (fun W (hb : Below w.heap.size w W) => part_any A q m c s W hmq (by omega) (Rd.later hrq hb))
  have SW := Lib.hid (fun W (hb : Below w.heap.size w W) => spans_cap A q m c f t W hmq (by omega) (Rd.later hrq hb))
  have RQ := Lib.hid hrq
  have hd := prt_le q s
  obtain ⟨d, hdd⟩ : ∃ d, d = prt q s := ⟨_, rfl⟩
  rw [← hdd] at PA hd h2 h3
  clear hdd
  have hil : (ins q d s).length = m + 1 := by rw [ins_length s hd, hmq]
  have PY := Lib.hid (fun W (hb : Below w.heap.size w W) => put_yes A q m c d s W hmq (by omega) hmc hm63 (by omega) hAm (Rd.later hrq hb) h2)
  have RX : Hid (∀ W AX cX, RdS W AX (ins q d s) → Calls Try.prog 15 #[.slice AX (m + 1) cX, .agg #[.string f, .string t]] W fun e w' => e = .returned (.bool true) ∧ Below W.heap.size W w') := Lib.hid (fun W AX cX hx => by have := rright_all AX (ins q d s) (m + 1) cX f t W hil (by omega) hx; rwa [h3] at this)
  have SX : Hid (∀ W AX cX, RdS W AX (ins q d s) → Calls Try.prog 8 #[.slice AX (m + 1) cX, .agg #[.string f, .string t]] W (SpansPostC W (parts (ins q d s) f t))) := Lib.hid (fun W AX cX hx => spans_cap AX (ins q d s) (m + 1) cX f t W hil (by omega) hx)
  have DX : Hid (∀ W AX cX, RdS W AX (ins q d s) → (m + 1 ≤ cX ∧ cX ≤ maxLen) → Calls Try.prog 21 #[.slice AX (m + 1) cX, .int .i64 d] W (PutPost W q)) := Lib.hid (fun W AX cX hx hcx => by
    have := drop_yes AX (ins q d s) (m + 1) cX d W hil (by omega) hcx.1 (by have := hcx.2; unfold maxLen at this; omega) (by omega) hx
    rwa [ins_drop s hd] at this)
  obtain ⟨k1, k2, k3⟩ := ins_split (f := f) (t := t) hd h3
  have SPL := Lib.hid (fun W => rsplit_yes (pF q f d) (pT q t d) s W k3 k1 k2)
  have eW : parts q f t = pcs q f t (m + 1) := by unfold parts many; rw [if_pos h, hmq]; rfl
  have eI : parts (ins q d s) f t = pcs (ins q d s) f t (m + 2) := by unfold parts many; rw [if_pos h3, hil]; rfl
  have g1 : (pcs q f t (m + 1))[d]? = some (pF q f d, pT q t d) := pcs_get _ _ _ (by omega)
  have g2 : (pcs (ins q d s) f t (m + 2))[d]? = some (pF q f d, s) := by rw [pcs_get _ _ _ (by omega), ins_part1 f t s hd]
  have g3 : (pcs (ins q d s) f t (m + 2))[d + 1]? = some (s, pT q t d) := by rw [pcs_get _ _ _ (by omega), ins_part2 f t s hd]
  have t1 := ins_before f t s hd
  have t2 := ins_behind f t s hd
  rw [hmq] at t1 t2
  rw [eW] at SW
  rw [eI] at SX
  have lw := pcs_length q f t (m + 1)
  have li := pcs_length (ins q d s) f t (m + 2)
  generalize pcs q f t (m + 1) = PW at SW g1 t1 t2 lw
  generalize pcs (ins q d s) f t (m + 2) = PI at SX g2 g3 t1 t2 li
  generalize pF q f d = a0 at SPL g1 g2
  generalize pT q t d = a1 at SPL g1 g3
  have HI := Lib.hid hil
  have HQ := Lib.hid hmq
  rw [hmq] at hd
  have LW := Lib.hid lw
  have LI := Lib.hid li
  have G1 := Lib.hid g1
  have G2 := Lib.hid g2
  have G3 := Lib.hid g3
  have T1 := Lib.hid t1
  have T2 := Lib.hid t2
  have m0 : (0 : Int) ≤ (m : Int) := by omega
  have m9 : (m : Int) ≤ 30 := by omega
  have d0 : (0 : Int) ≤ (d : Int) := by omega
  have d1 : (d : Int) ≤ (m : Int) := by omega
  have d2 : (d : Int) < (m : Int) + 1 := by omega
  have d3 : ¬ ((m : Int) + 1 ≤ (d : Int)) := by omega
  have d4 : (d : Int) + 1 < (m : Int) + 2 := by omega
  have d5 : (d : Int) < (m : Int) + 2 := by omega
  clear hr hl hc hm hq hmq hmn hrq hA hAm hmc hm63 h h2 h3 k1 k2 k3 eW eI g1 g2 g3 t1 t2 lw li hil
  go_enter Try.func5, Try.ntmps5
  go_wp2_with (first
    | (go_at_call 6; ((with_reducible refine (FW.out _).mono ?_); rintro e w1 ⟨rfl, e1⟩; have B1 := Lib.hid (B0.out.trans (e1.mono B0.out.size)); have c0 := bel_later e1 b0; have c1 := bel_later e1 b1; clear e1 b0 b1))
    | (go_at_call 15; ((with_reducible refine (RR.out _ B1.out).mono ?_); rintro e w2 ⟨rfl, e2⟩; have B2 := Lib.hid (B1.out.trans (e2.mono B1.out.size)); have c2 := bel_later e2 c0; have c3 := bel_later e2 c1; clear e2 c0 c1 RR))
    | (go_at_call 17; ((with_reducible refine (PA.out _ B2.out).mono ?_); rintro e w3 ⟨rfl, e3⟩; have B3 := Lib.hid (B2.out.trans (e3.mono B2.out.size)); have c4 := bel_later e3 c2; have c5 := bel_later e3 c3; clear e3 c2 c3))
    | (go_at_call 19; ((with_reducible refine (PY.out _ B3.out).mono ?_); rintro e w4 ⟨AX, cX, rfl, rx, e4, kx⟩; rw [HI.out] at kx ⊢; have B4 := Lib.hid (B3.out.trans (e4.mono B3.out.size)); have KX := Lib.hid kx; have RX4 := Lib.hid rx; have c6 := bel_later e4 c4; have c7 := bel_later e4 c5; clear e4 rx kx c4 c5))
    | (go_at_call 15; ((with_reducible refine (RX.out w4 AX cX RX4.out).mono ?_); rintro e w5 ⟨rfl, e5⟩; have B5 := Lib.hid (B4.out.trans (e5.mono B4.out.size)); have RX5 := Lib.hid (Rd.later RX4.out e5); have c8 := bel_later e5 c6; have c9 := bel_later e5 c7; clear e5 c6 c7))
    | (go_at_call 8; ((with_reducible refine (SW.out w5 B5.out).mono ?_); rintro e w6 ⟨AW, cW, rfl, rw6, e6, kw⟩; rw [LW.out] at kw ⊢; have B6 := Lib.hid (B5.out.trans (e6.mono B5.out.size)); obtain ⟨bw, ow, rfl, hlw, v0, v1⟩ := rdp_get rw6 G1.out; have KW := Lib.hid kw; have RW6 := Lib.hid rw6; have RX6 := Lib.hid (Rd.later RX5.out e6); have p8 := bel_later e6 c8; have p9 := bel_later e6 c9; clear e6 kw rw6 hlw c8 c9))
    | (go_at_call 8; ((with_reducible refine (SX.out w6 AX cX RX6.out).mono ?_); rintro e w7 ⟨AI, cI, rfl, ri7, e7, ki⟩; rw [LI.out] at ki ⊢; have B7 := Lib.hid (B6.out.trans (e7.mono B6.out.size)); obtain ⟨bi, oi, rfl, hli, u0, u1⟩ := rdp_get ri7 G2.out; obtain ⟨bi2, oi2, ei2, _, u2, u3⟩ := rdp_get ri7 G3.out; cases ei2; have KI := Lib.hid ki; have RI7 := Lib.hid ri7; have RW7 := Lib.hid (Rd.later RW6.out e7); have RX7 := Lib.hid (Rd.later RX6.out e7); have v2 := bel_later e7 v0; have v3 := bel_later e7 v1; have UU := Lib.hid (And.intro u0 (And.intro u1 (And.intro u2 u3))); clear e7 ki ri7 hli u0 u1 u2 u3 p8 p9 v0 v1))
    | (go_at_call 20; ((with_reducible refine (SPL.out w7).mono ?_); rintro e w8 ⟨rfl, e8⟩; have E8 := Lib.hid e8; have DR := Lib.hid (DX.out ((w8.alloc (rgc a0 s)).alloc (rgc s a1)) AX cX (Rd.later RX7.out (bel_alloc (bel_alloc e8 _) _)) KX.out); clear e8 v2 v3))
    | (go_at_call 21; ((with_reducible refine DR.out.mono ?_); rintro e w9 ⟨AB, cB, rfl, rb, e9, _⟩; rw [HQ.out]; have L9 := Lib.hid (L5.start B7.out E8.out e9 UU.out RW7.out RI7.out rb RQ.out); clear e9 rb))
    | fail)
  have LD : Hid (L5 w a0 s a1 w8.heap.size (some ⟨bw, ow, none⟩) (some ⟨bi, oi, none⟩) AB A PW PI q d bi oi w9.drew) := Lib.hid (L9.out.later (bel_dw (Below.refl _ _)))
  have TL : Hid ((PI.take d).length = d) := Lib.hid (by rw [List.length_take, LI.out]; omega)
  have TD : Hid ((PI.drop (d + 2)).length = m - d) := Lib.hid (by rw [List.length_drop, LI.out]; omega)
  have kI := KI.out
  have kW := KW.out
  have dI : (d : Int) ≤ (cI : Int) := by omega
  have dW : (d : Int) ≤ (cW : Int) := by omega
  have dI0 : d ≤ cI := by omega
  have dW0 : d ≤ cW := by omega
  have nI : (m : Int) + 2 ≤ (cI : Int) := by omega
  have nW : (m : Int) + 1 ≤ (cW : Int) := by omega
  have mI : (cI : Int) ≤ 9223372036854775807 := by have := kI.2; unfold maxLen at this; omega
  have mW : (cW : Int) ≤ 9223372036854775807 := by have := kW.2; unfold maxLen at this; omega
  have q1 : IntKind.i64.wrap ((d : Int) + 1) = (d : Int) + 1 := IntWalk.i64_in _ (by omega)
  have q2 : IntKind.i64.wrap ((d : Int) + 2) = (d : Int) + 2 := IntWalk.i64_in _ (by omega)
  have q3 : ((d : Int) + 1).toNat = d + 1 := by omega
  have q4 : ((d : Int) + 2).toNat = d + 2 := by omega
  have q5 : (0 : Int) ≤ (d : Int) + 1 := by omega
  have q6 : (0 : Int) ≤ (d : Int) + 2 := by omega
  have q7 : (d : Int) + 1 ≤ (m : Int) + 1 := by omega
  have q8 : (d : Int) + 2 ≤ (m : Int) + 2 := by omega
  have q9 : (d : Int) < (m : Int) + 1 + 1 := by omega
  have q10 : (d : Int) + 1 < (m : Int) + 1 + 1 := by omega
  have q11 : (d : Int) + 2 ≤ (m : Int) + 1 + 1 := by omega
  have DI : Hid (∀ W, RdP W (some ⟨bi, oi, none⟩) PI → RdP W (if cI = d + 2 then some ⟨bi, oi, none⟩ else some ⟨bi, oi + (d + 2) * 2, none⟩) (PI.drop (d + 2))) := Lib.hid (fun W h => by have := rdp_dropE h (d + 2) cI (by rw [LI.out]; exact kI.1); simpa only [Option.map_some] using this)
  have DW : Hid (∀ W, RdP W (some ⟨bw, ow, none⟩) PW → RdP W (if cW = d + 1 then some ⟨bw, ow, none⟩ else some ⟨bw, ow + (d + 1) * 2, none⟩) (PI.drop (d + 2))) := Lib.hid (fun W h => by have := rdp_dropE h (d + 1) cW (by rw [LW.out]; exact kW.1); rw [T2.out]; simpa only [Option.map_some] using this)
  clear L9
  refine wp_region_held_drew (S := (fun V => L5 w a0 s a1 w8.heap.size (some ⟨bw, ow, none⟩) (some ⟨bi, oi, none⟩) AB A PW PI q d bi oi V)) (by kernel_rfl) ?_ (fun hHeld => ?_)
  · exact LD.out
  have HHeld := Lib.hid hHeld
  clear hHeld
  refine wpAnyH_ready (rs := [0]) (by kernel_rfl) (by simp) ?_
  refine AllReadyH.cons (o := { dst := some 93, op := Op.call { callee := Callee.value (Operand.func 12), args := #[], argTypes := #[] }, type := 4, pos := "law.go:110", after := #[], guard := none }) rfl (fun K hK => ?_) AllReadyH.nil
  go_simp
  go_at_call 12; ((with_reducible refine (live_any _).mono ?_); rintro e w10 ⟨rfl, e10⟩; have L10 := Lib.hid (LD.out.later e10); clear e10)
  try go_wp2_with fail
  refine hK.out _ _ ?_ (fun hHeld => ?_)
  · exact L10.out
  clear HHeld
  have HHeld := Lib.hid hHeld
  clear hHeld
  clear hK K
  try simp only [Act.put, List.setIfInBounds_toArray, List.set_cons_zero, List.set_cons_succ]
  refine wpAnyH_take (i := 1) (oi := { dst := some 94, op := Op.move (Operand.tmp 93), type := 4, pos := "law.go:110", after := #[{ on := 0, ground := Ground.data }, { on := 0, ground := Ground.chain }], guard := none }) (v := ?_) rfl (by kernel_rfl) (by kernel_rfl) (by kernel_rfl) (fun _ _ _ h => h) (Or.inl ⟨by rfl, ?_⟩) HHeld.out ?_
  rotate_left
  · intro w hSw; clear hSw; go_simp; try with_reducible rfl
  try simp only [Act.put, List.setIfInBounds_toArray, List.set_cons_zero, List.set_cons_succ]
  refine wpAnyH_take (i := 2) (oi := { dst := some 95, op := Op.move (Operand.tmp 16), type := 4, pos := "law.go:110", after := #[{ on := 1, ground := Ground.guard }], guard := some (1, true) }) (v := ?_) rfl (by kernel_rfl) (by kernel_rfl) (by kernel_rfl) (fun _ _ _ h => h) (Or.inl ⟨by rfl, ?_⟩) HHeld.out ?_
  rotate_left
  · intro w hSw; clear hSw; go_simp; try with_reducible rfl
  try simp only [Act.put, List.setIfInBounds_toArray, List.set_cons_zero, List.set_cons_succ]
  refine wpAnyH_take (i := 3) (oi := { dst := some 96, op := Op.pick (Operand.tmp 94) (Operand.tmp 95) (Operand.const (Value.bool false)), type := 4, pos := "law.go:110", after := #[{ on := 1, ground := Ground.data }, { on := 2, ground := Ground.data }], guard := none }) (v := ?_) rfl (by kernel_rfl) (by kernel_rfl) (by kernel_rfl) (fun _ _ _ h => h) (Or.inl ⟨by rfl, ?_⟩) HHeld.out ?_
  rotate_left
  · intro w hSw; clear hSw; go_simp; try with_reducible rfl
  try simp only [Act.put, List.setIfInBounds_toArray, List.set_cons_zero, List.set_cons_succ]
  refine wpAnyH_take (i := 4) (oi := { dst := some 97, op := Op.move (Operand.tmp 96), type := 4, pos := "law.go:110", after := #[{ on := 3, ground := Ground.data }, { on := 1, ground := Ground.chain }], guard := none }) (v := ?_) rfl (by kernel_rfl) (by kernel_rfl) (by kernel_rfl) (fun _ _ _ h => h) (Or.inl ⟨by rfl, ?_⟩) HHeld.out ?_
  rotate_left
  · intro w hSw; clear hSw; go_simp; try with_reducible rfl
  try simp only [Act.put, List.setIfInBounds_toArray, List.set_cons_zero, List.set_cons_succ]
  refine wpAnyH_take (i := 5) (oi := { dst := some 98, op := Op.move (Operand.tmp 12), type := 26, pos := "law.go:110", after := #[{ on := 4, ground := Ground.guard }], guard := some (4, true) }) (v := ?_) rfl (by kernel_rfl) (by kernel_rfl) (by kernel_rfl) (fun _ _ _ h => h) (Or.inl ⟨by rfl, ?_⟩) HHeld.out ?_
  rotate_left
  · intro w hSw; clear hSw; go_simp; try with_reducible rfl
  try simp only [Act.put, List.setIfInBounds_toArray, List.set_cons_zero, List.set_cons_succ]
  refine wpAnyH_take (i := 6) (oi := { dst := some 99, op := Op.move (Operand.tmp 7), type := 3, pos := "law.go:110", after := #[{ on := 4, ground := Ground.guard }], guard := some (4, true) }) (v := ?_) rfl (by kernel_rfl) (by kernel_rfl) (by kernel_rfl) (fun _ _ _ h => h) (Or.inl ⟨by rfl, ?_⟩) HHeld.out ?_
  rotate_left
  · intro w hSw; clear hSw; go_simp; try with_reducible rfl
  try simp only [Act.put, List.setIfInBounds_toArray, List.set_cons_zero, List.set_cons_succ]
  refine wpAnyH_take (i := 7) (oi := { dst := some 100, op := Op.indexAddr 26 (Operand.tmp 98) (Operand.tmp 99), type := 0, pos := "law.go:110", after := #[{ on := 5, ground := Ground.data }, { on := 6, ground := Ground.data }, { on := 4, ground := Ground.guard }], guard := some (4, true) }) (v := ?_) rfl (by kernel_rfl) (by kernel_rfl) (by kernel_rfl) (fun _ _ _ h => h) (Or.inl ⟨by rfl, ?_⟩) HHeld.out ?_
  rotate_left
  · intro w hSw; clear hSw; go_simp; try with_reducible rfl
  try simp only [Act.put, List.setIfInBounds_toArray, List.set_cons_zero, List.set_cons_succ]
  refine wpAnyH_take (i := 8) (oi := { dst := some 101, op := Op.load 24 (Operand.tmp 100), type := 24, pos := "law.go:110", after := #[{ on := 7, ground := Ground.data }, { on := 4, ground := Ground.guard }], guard := some (4, true) }) (v := Value.agg #[.string a0, .string s]) rfl (by kernel_rfl) (by kernel_rfl) (by kernel_rfl) (fun _ _ _ h => h) (Or.inl ⟨by rfl, ?_⟩) HHeld.out ?_
  · intro V hV; have hc0 := hV.z0; have hc1 := hV.z1; clear hV; go_simp
  try simp only [Act.put, List.setIfInBounds_toArray, List.set_cons_zero, List.set_cons_succ]
  refine wpAnyH_take (i := 9) (oi := { dst := some 102, op := Op.load 24 (Operand.tmp 14), type := 24, pos := "law.go:110", after := #[{ on := 4, ground := Ground.guard }], guard := some (4, true) }) (v := Value.agg #[.string a0, .string s]) rfl (by kernel_rfl) (by kernel_rfl) (by kernel_rfl) (fun _ _ _ h => h) (Or.inl ⟨by rfl, ?_⟩) HHeld.out ?_
  · intro V hV; have hc0 := hV.x0; have hc1 := hV.x1; clear hV; go_simp
  try simp only [Act.put, List.setIfInBounds_toArray, List.set_cons_zero, List.set_cons_succ]
  refine wpAnyH_take (i := 10) (oi := { dst := some 103, op := Op.binOp BinOp.eql 24 (Operand.tmp 101) (Operand.tmp 102) 24, type := 4, pos := "law.go:110", after := #[{ on := 8, ground := Ground.data }, { on := 9, ground := Ground.data }, { on := 4, ground := Ground.guard }], guard := some (4, true) }) (v := ?_) rfl (by kernel_rfl) (by kernel_rfl) (by kernel_rfl) (fun _ _ _ h => h) (Or.inl ⟨by rfl, ?_⟩) HHeld.out ?_
  rotate_left
  · intro w hSw; clear hSw; go_simp; try with_reducible rfl
  try simp only [Act.put, List.setIfInBounds_toArray, List.set_cons_zero, List.set_cons_succ]
  refine wpAnyH_take (i := 11) (oi := { dst := some 104, op := Op.pick (Operand.tmp 97) (Operand.tmp 103) (Operand.const (Value.bool false)), type := 4, pos := "law.go:110", after := #[{ on := 4, ground := Ground.data }, { on := 10, ground := Ground.data }], guard := none }) (v := ?_) rfl (by kernel_rfl) (by kernel_rfl) (by kernel_rfl) (fun _ _ _ h => h) (Or.inl ⟨by rfl, ?_⟩) HHeld.out ?_
  rotate_left
  · intro w hSw; clear hSw; go_simp; try with_reducible rfl
  try simp only [Act.put, List.setIfInBounds_toArray, List.set_cons_zero, List.set_cons_succ]
  refine wpAnyH_take (i := 12) (oi := { dst := some 105, op := Op.move (Operand.tmp 104), type := 4, pos := "law.go:110", after := #[{ on := 11, ground := Ground.data }, { on := 4, ground := Ground.chain }], guard := none }) (v := ?_) rfl (by kernel_rfl) (by kernel_rfl) (by kernel_rfl) (fun _ _ _ h => h) (Or.inl ⟨by rfl, ?_⟩) HHeld.out ?_
  rotate_left
  · intro w hSw; clear hSw; go_simp; try with_reducible rfl
  try simp only [Act.put, List.setIfInBounds_toArray, List.set_cons_zero, List.set_cons_succ]
  refine wpAnyH_take (i := 13) (oi := { dst := some 106, op := Op.move (Operand.tmp 12), type := 26, pos := "law.go:110", after := #[{ on := 12, ground := Ground.guard }], guard := some (12, true) }) (v := ?_) rfl (by kernel_rfl) (by kernel_rfl) (by kernel_rfl) (fun _ _ _ h => h) (Or.inl ⟨by rfl, ?_⟩) HHeld.out ?_
  rotate_left
  · intro w hSw; clear hSw; go_simp; try with_reducible rfl
  try simp only [Act.put, List.setIfInBounds_toArray, List.set_cons_zero, List.set_cons_succ]
  refine wpAnyH_take (i := 14) (oi := { dst := some 107, op := Op.move (Operand.tmp 7), type := 3, pos := "law.go:110", after := #[{ on := 12, ground := Ground.guard }], guard := some (12, true) }) (v := ?_) rfl (by kernel_rfl) (by kernel_rfl) (by kernel_rfl) (fun _ _ _ h => h) (Or.inl ⟨by rfl, ?_⟩) HHeld.out ?_
  rotate_left
  · intro w hSw; clear hSw; go_simp; try with_reducible rfl
  try simp only [Act.put, List.setIfInBounds_toArray, List.set_cons_zero, List.set_cons_succ]
  refine wpAnyH_take (i := 15) (oi := { dst := some 108, op := Op.binOp BinOp.add 3 (Operand.tmp 107) (Operand.const (Value.int IntKind.i64 1)) 3, type := 3, pos := "law.go:110", after := #[{ on := 14, ground := Ground.data }, { on := 12, ground := Ground.guard }], guard := some (12, true) }) (v := ?_) rfl (by kernel_rfl) (by kernel_rfl) (by kernel_rfl) (fun _ _ _ h => h) (Or.inl ⟨by rfl, ?_⟩) HHeld.out ?_
  rotate_left
  · intro w hSw; clear hSw; go_simp; try with_reducible rfl
  try simp only [Act.put, List.setIfInBounds_toArray, List.set_cons_zero, List.set_cons_succ]
  refine wpAnyH_take (i := 16) (oi := { dst := some 109, op := Op.indexAddr 26 (Operand.tmp 106) (Operand.tmp 108), type := 0, pos := "law.go:110", after := #[{ on := 13, ground := Ground.data }, { on := 15, ground := Ground.data }, { on := 12, ground := Ground.guard }], guard := some (12, true) }) (v := ?_) rfl (by kernel_rfl) (by kernel_rfl) (by kernel_rfl) (fun _ _ _ h => h) (Or.inl ⟨by rfl, ?_⟩) HHeld.out ?_
  rotate_left
  · intro w hSw; clear hSw; go_simp; try with_reducible rfl
  try simp only [Act.put, List.setIfInBounds_toArray, List.set_cons_zero, List.set_cons_succ]
  refine wpAnyH_take (i := 17) (oi := { dst := some 110, op := Op.load 24 (Operand.tmp 109), type := 24, pos := "law.go:110", after := #[{ on := 16, ground := Ground.data }, { on := 12, ground := Ground.guard }], guard := some (12, true) }) (v := Value.agg #[.string s, .string a1]) rfl (by kernel_rfl) (by kernel_rfl) (by kernel_rfl) (fun _ _ _ h => h) (Or.inl ⟨by rfl, ?_⟩) HHeld.out ?_
  · intro V hV; have hc0 := hV.z2; have hc1 := hV.z3; clear hV; go_simp
  try simp only [Act.put, List.setIfInBounds_toArray, List.set_cons_zero, List.set_cons_succ]
  refine wpAnyH_take (i := 18) (oi := { dst := some 111, op := Op.load 24 (Operand.tmp 15), type := 24, pos := "law.go:110", after := #[{ on := 12, ground := Ground.guard }], guard := some (12, true) }) (v := Value.agg #[.string s, .string a1]) rfl (by kernel_rfl) (by kernel_rfl) (by kernel_rfl) (fun _ _ _ h => h) (Or.inl ⟨by rfl, ?_⟩) HHeld.out ?_
  · intro V hV; have hc0 := hV.y0; have hc1 := hV.y1; clear hV; go_simp
  try simp only [Act.put, List.setIfInBounds_toArray, List.set_cons_zero, List.set_cons_succ]
  refine wpAnyH_take (i := 19) (oi := { dst := some 112, op := Op.binOp BinOp.eql 24 (Operand.tmp 110) (Operand.tmp 111) 24, type := 4, pos := "law.go:110", after := #[{ on := 17, ground := Ground.data }, { on := 18, ground := Ground.data }, { on := 12, ground := Ground.guard }], guard := some (12, true) }) (v := ?_) rfl (by kernel_rfl) (by kernel_rfl) (by kernel_rfl) (fun _ _ _ h => h) (Or.inl ⟨by rfl, ?_⟩) HHeld.out ?_
  rotate_left
  · intro w hSw; clear hSw; go_simp; try with_reducible rfl
  try simp only [Act.put, List.setIfInBounds_toArray, List.set_cons_zero, List.set_cons_succ]
  refine wpAnyH_take (i := 20) (oi := { dst := some 113, op := Op.pick (Operand.tmp 105) (Operand.tmp 112) (Operand.const (Value.bool false)), type := 4, pos := "law.go:110", after := #[{ on := 12, ground := Ground.data }, { on := 19, ground := Ground.data }], guard := none }) (v := ?_) rfl (by kernel_rfl) (by kernel_rfl) (by kernel_rfl) (fun _ _ _ h => h) (Or.inl ⟨by rfl, ?_⟩) HHeld.out ?_
  rotate_left
  · intro w hSw; clear hSw; go_simp; try with_reducible rfl
  try simp only [Act.put, List.setIfInBounds_toArray, List.set_cons_zero, List.set_cons_succ]
  refine wpAnyH_take (i := 21) (oi := { dst := some 114, op := Op.move (Operand.tmp 113), type := 4, pos := "law.go:110", after := #[{ on := 20, ground := Ground.data }, { on := 12, ground := Ground.chain }], guard := none }) (v := ?_) rfl (by kernel_rfl) (by kernel_rfl) (by kernel_rfl) (fun _ _ _ h => h) (Or.inl ⟨by rfl, ?_⟩) HHeld.out ?_
  rotate_left
  · intro w hSw; clear hSw; go_simp; try with_reducible rfl
  try simp only [Act.put, List.setIfInBounds_toArray, List.set_cons_zero, List.set_cons_succ]
  refine wpAnyH_take (i := 22) (oi := { dst := some 115, op := Op.move (Operand.tmp 12), type := 26, pos := "law.go:110", after := #[{ on := 21, ground := Ground.guard }], guard := some (21, true) }) (v := ?_) rfl (by kernel_rfl) (by kernel_rfl) (by kernel_rfl) (fun _ _ _ h => h) (Or.inl ⟨by rfl, ?_⟩) HHeld.out ?_
  rotate_left
  · intro w hSw; clear hSw; go_simp; try with_reducible rfl
  try simp only [Act.put, List.setIfInBounds_toArray, List.set_cons_zero, List.set_cons_succ]
  refine wpAnyH_take (i := 23) (oi := { dst := some 116, op := Op.move (Operand.tmp 7), type := 3, pos := "law.go:110", after := #[{ on := 21, ground := Ground.guard }], guard := some (21, true) }) (v := ?_) rfl (by kernel_rfl) (by kernel_rfl) (by kernel_rfl) (fun _ _ _ h => h) (Or.inl ⟨by rfl, ?_⟩) HHeld.out ?_
  rotate_left
  · intro w hSw; clear hSw; go_simp; try with_reducible rfl
  try simp only [Act.put, List.setIfInBounds_toArray, List.set_cons_zero, List.set_cons_succ]
  refine wpAnyH_take (i := 24) (oi := { dst := some 117, op := Op.slice 26 (Operand.tmp 115) none (some (Operand.tmp 116)) none, type := 26, pos := "law.go:110", after := #[{ on := 22, ground := Ground.data }, { on := 23, ground := Ground.data }, { on := 21, ground := Ground.guard }], guard := some (21, true) }) (v := ?_) rfl (by kernel_rfl) (by kernel_rfl) (by kernel_rfl) (fun _ _ _ h => h) (Or.inl ⟨by rfl, ?_⟩) HHeld.out ?_
  rotate_left
  · intro w hSw; clear hSw; go_simp; try with_reducible rfl
  try simp only [Act.put, List.setIfInBounds_toArray, List.set_cons_zero, List.set_cons_succ]
  refine wpAnyH_take (i := 25) (oi := { dst := some 118, op := Op.move (Operand.tmp 10), type := 26, pos := "law.go:110", after := #[{ on := 21, ground := Ground.guard }], guard := some (21, true) }) (v := ?_) rfl (by kernel_rfl) (by kernel_rfl) (by kernel_rfl) (fun _ _ _ h => h) (Or.inl ⟨by rfl, ?_⟩) HHeld.out ?_
  rotate_left
  · intro w hSw; clear hSw; go_simp; try with_reducible rfl
  try simp only [Act.put, List.setIfInBounds_toArray, List.set_cons_zero, List.set_cons_succ]
  refine wpAnyH_take (i := 26) (oi := { dst := some 119, op := Op.move (Operand.tmp 7), type := 3, pos := "law.go:110", after := #[{ on := 21, ground := Ground.guard }], guard := some (21, true) }) (v := ?_) rfl (by kernel_rfl) (by kernel_rfl) (by kernel_rfl) (fun _ _ _ h => h) (Or.inl ⟨by rfl, ?_⟩) HHeld.out ?_
  rotate_left
  · intro w hSw; clear hSw; go_simp; try with_reducible rfl
  try simp only [Act.put, List.setIfInBounds_toArray, List.set_cons_zero, List.set_cons_succ]
  refine wpAnyH_take (i := 27) (oi := { dst := some 120, op := Op.slice 26 (Operand.tmp 118) none (some (Operand.tmp 119)) none, type := 26, pos := "law.go:110", after := #[{ on := 25, ground := Ground.data }, { on := 26, ground := Ground.data }, { on := 21, ground := Ground.guard }], guard := some (21, true) }) (v := ?_) rfl (by kernel_rfl) (by kernel_rfl) (by kernel_rfl) (fun _ _ _ h => h) (Or.inl ⟨by rfl, ?_⟩) HHeld.out ?_
  rotate_left
  · intro w hSw; clear hSw; go_simp; try with_reducible rfl
  try simp only [Act.put, List.setIfInBounds_toArray, List.set_cons_zero, List.set_cons_succ]
  refine wpAnyH_ready (rs := [28]) (by kernel_rfl) (by simp) ?_
  refine AllReadyH.cons (o := { dst := some 121, op := Op.call { callee := Callee.value (Operand.func 13), args := #[Operand.tmp 117, Operand.tmp 120], argTypes := #[26, 26] }, type := 4, pos := "law.go:110", after := #[{ on := 24, ground := Ground.data }, { on := 27, ground := Ground.data }, { on := 21, ground := Ground.chain }, { on := 21, ground := Ground.guard }], guard := some (21, true) }) rfl (fun K hK => ?_) AllReadyH.nil
  go_simp
  go_at_call 13; ((with_reducible refine (sameP_eq (some ⟨bi, oi, none⟩) (some ⟨bw, ow, none⟩) (PI.take d) d cI cW _ TL.out (by omega) (rdp_take L10.out.pi d) (by rw [T1.out]; exact rdp_take L10.out.pw d)).mono ?_); rintro e w11 ⟨rfl, e11⟩; have L11 := Lib.hid (L10.out.later e11); clear e11)
  try go_wp2_with fail
  refine hK.out _ _ ?_ (fun hHeld => ?_)
  · exact L11.out
  clear HHeld
  have HHeld := Lib.hid hHeld
  clear hHeld
  clear hK K
  try simp only [Act.put, List.setIfInBounds_toArray, List.set_cons_zero, List.set_cons_succ]
  refine wpAnyH_take (i := 29) (oi := { dst := some 122, op := Op.pick (Operand.tmp 114) (Operand.tmp 121) (Operand.const (Value.bool false)), type := 4, pos := "law.go:110", after := #[{ on := 21, ground := Ground.data }, { on := 28, ground := Ground.data }], guard := none }) (v := ?_) rfl (by kernel_rfl) (by kernel_rfl) (by kernel_rfl) (fun _ _ _ h => h) (Or.inl ⟨by rfl, ?_⟩) HHeld.out ?_
  rotate_left
  · intro w hSw; clear hSw; go_simp; try with_reducible rfl
  try simp only [Act.put, List.setIfInBounds_toArray, List.set_cons_zero, List.set_cons_succ]
  refine wpAnyH_take (i := 30) (oi := { dst := some 123, op := Op.move (Operand.tmp 122), type := 4, pos := "law.go:110", after := #[{ on := 29, ground := Ground.data }, { on := 28, ground := Ground.chain }], guard := none }) (v := ?_) rfl (by kernel_rfl) (by kernel_rfl) (by kernel_rfl) (fun _ _ _ h => h) (Or.inl ⟨by rfl, ?_⟩) HHeld.out ?_
  rotate_left
  · intro w hSw; clear hSw; go_simp; try with_reducible rfl
  try simp only [Act.put, List.setIfInBounds_toArray, List.set_cons_zero, List.set_cons_succ]
  refine wpAnyH_take (i := 31) (oi := { dst := some 124, op := Op.move (Operand.tmp 12), type := 26, pos := "law.go:110", after := #[{ on := 30, ground := Ground.guard }], guard := some (30, true) }) (v := ?_) rfl (by kernel_rfl) (by kernel_rfl) (by kernel_rfl) (fun _ _ _ h => h) (Or.inl ⟨by rfl, ?_⟩) HHeld.out ?_
  rotate_left
  · intro w hSw; clear hSw; go_simp; try with_reducible rfl
  try simp only [Act.put, List.setIfInBounds_toArray, List.set_cons_zero, List.set_cons_succ]
  refine wpAnyH_take (i := 32) (oi := { dst := some 125, op := Op.move (Operand.tmp 7), type := 3, pos := "law.go:110", after := #[{ on := 30, ground := Ground.guard }], guard := some (30, true) }) (v := ?_) rfl (by kernel_rfl) (by kernel_rfl) (by kernel_rfl) (fun _ _ _ h => h) (Or.inl ⟨by rfl, ?_⟩) HHeld.out ?_
  rotate_left
  · intro w hSw; clear hSw; go_simp; try with_reducible rfl
  try simp only [Act.put, List.setIfInBounds_toArray, List.set_cons_zero, List.set_cons_succ]
  refine wpAnyH_take (i := 33) (oi := { dst := some 126, op := Op.binOp BinOp.add 3 (Operand.tmp 125) (Operand.const (Value.int IntKind.i64 2)) 3, type := 3, pos := "law.go:110", after := #[{ on := 32, ground := Ground.data }, { on := 30, ground := Ground.guard }], guard := some (30, true) }) (v := ?_) rfl (by kernel_rfl) (by kernel_rfl) (by kernel_rfl) (fun _ _ _ h => h) (Or.inl ⟨by rfl, ?_⟩) HHeld.out ?_
  rotate_left
  · intro w hSw; clear hSw; go_simp; try with_reducible rfl
  try simp only [Act.put, List.setIfInBounds_toArray, List.set_cons_zero, List.set_cons_succ]
  refine wpAnyH_take (i := 34) (oi := { dst := some 127, op := Op.slice 26 (Operand.tmp 124) (some (Operand.tmp 126)) none none, type := 26, pos := "law.go:110", after := #[{ on := 31, ground := Ground.data }, { on := 33, ground := Ground.data }, { on := 30, ground := Ground.guard }], guard := some (30, true) }) (v := ?_) rfl (by kernel_rfl) (by kernel_rfl) (by kernel_rfl) (fun _ _ _ h => h) (Or.inl ⟨by rfl, ?_⟩) HHeld.out ?_
  rotate_left
  · intro w hSw; clear hSw; go_simp; try with_reducible rfl
  try simp only [Act.put, List.setIfInBounds_toArray, List.set_cons_zero, List.set_cons_succ]
  refine wpAnyH_take (i := 35) (oi := { dst := some 128, op := Op.move (Operand.tmp 10), type := 26, pos := "law.go:110", after := #[{ on := 30, ground := Ground.guard }], guard := some (30, true) }) (v := ?_) rfl (by kernel_rfl) (by kernel_rfl) (by kernel_rfl) (fun _ _ _ h => h) (Or.inl ⟨by rfl, ?_⟩) HHeld.out ?_
  rotate_left
  · intro w hSw; clear hSw; go_simp; try with_reducible rfl
  try simp only [Act.put, List.setIfInBounds_toArray, List.set_cons_zero, List.set_cons_succ]
  refine wpAnyH_take (i := 36) (oi := { dst := some 129, op := Op.move (Operand.tmp 7), type := 3, pos := "law.go:110", after := #[{ on := 30, ground := Ground.guard }], guard := some (30, true) }) (v := ?_) rfl (by kernel_rfl) (by kernel_rfl) (by kernel_rfl) (fun _ _ _ h => h) (Or.inl ⟨by rfl, ?_⟩) HHeld.out ?_
  rotate_left
  · intro w hSw; clear hSw; go_simp; try with_reducible rfl
  try simp only [Act.put, List.setIfInBounds_toArray, List.set_cons_zero, List.set_cons_succ]
  refine wpAnyH_take (i := 37) (oi := { dst := some 130, op := Op.binOp BinOp.add 3 (Operand.tmp 129) (Operand.const (Value.int IntKind.i64 1)) 3, type := 3, pos := "law.go:110", after := #[{ on := 36, ground := Ground.data }, { on := 30, ground := Ground.guard }], guard := some (30, true) }) (v := ?_) rfl (by kernel_rfl) (by kernel_rfl) (by kernel_rfl) (fun _ _ _ h => h) (Or.inl ⟨by rfl, ?_⟩) HHeld.out ?_
  rotate_left
  · intro w hSw; clear hSw; go_simp; try with_reducible rfl
  try simp only [Act.put, List.setIfInBounds_toArray, List.set_cons_zero, List.set_cons_succ]
  refine wpAnyH_take (i := 38) (oi := { dst := some 131, op := Op.slice 26 (Operand.tmp 128) (some (Operand.tmp 130)) none none, type := 26, pos := "law.go:110", after := #[{ on := 35, ground := Ground.data }, { on := 37, ground := Ground.data }, { on := 30, ground := Ground.guard }], guard := some (30, true) }) (v := ?_) rfl (by kernel_rfl) (by kernel_rfl) (by kernel_rfl) (fun _ _ _ h => h) (Or.inl ⟨by rfl, ?_⟩) HHeld.out ?_
  rotate_left
  · intro w hSw; clear hSw; go_simp; try with_reducible rfl
  try simp only [Act.put, List.setIfInBounds_toArray, List.set_cons_zero, List.set_cons_succ]
  refine wpAnyH_ready (rs := [39]) (by kernel_rfl) (by simp) ?_
  refine AllReadyH.cons (o := { dst := some 132, op := Op.call { callee := Callee.value (Operand.func 13), args := #[Operand.tmp 127, Operand.tmp 131], argTypes := #[26, 26] }, type := 4, pos := "law.go:110", after := #[{ on := 34, ground := Ground.data }, { on := 38, ground := Ground.data }, { on := 30, ground := Ground.chain }, { on := 30, ground := Ground.guard }], guard := some (30, true) }) rfl (fun K hK => ?_) AllReadyH.nil
  go_simp
  go_at_call 13; ((refine (sameP_eq _ _ (PI.drop (d + 2)) (m - d) _ _ _ TD.out (by omega) (by exact DI.out _ L11.out.pi) (by exact DW.out _ L11.out.pw)).mono ?_); rintro e w12 ⟨rfl, e12⟩; have L12 := Lib.hid (L11.out.later e12); clear e12); generalize (if cI = d + 2 then (some ⟨bi, oi, none⟩ : Option Addr) else some ⟨bi, oi + (d + 2) * 2, none⟩) = VI; generalize (if cW = d + 1 then (some ⟨bw, ow, none⟩ : Option Addr) else some ⟨bw, ow + (d + 1) * 2, none⟩) = VW
  try go_wp2_with fail
  refine hK.out _ _ ?_ (fun hHeld => ?_)
  · exact L12.out
  clear HHeld
  have HHeld := Lib.hid hHeld
  clear hHeld
  clear hK K
  try simp only [Act.put, List.setIfInBounds_toArray, List.set_cons_zero, List.set_cons_succ]
  refine wpAnyH_take (i := 40) (oi := { dst := some 133, op := Op.pick (Operand.tmp 123) (Operand.tmp 132) (Operand.const (Value.bool false)), type := 4, pos := "law.go:110", after := #[{ on := 30, ground := Ground.data }, { on := 39, ground := Ground.data }], guard := none }) (v := ?_) rfl (by kernel_rfl) (by kernel_rfl) (by kernel_rfl) (fun _ _ _ h => h) (Or.inl ⟨by rfl, ?_⟩) HHeld.out ?_
  rotate_left
  · intro w hSw; clear hSw; go_simp; try with_reducible rfl
  try simp only [Act.put, List.setIfInBounds_toArray, List.set_cons_zero, List.set_cons_succ]
  refine wpAnyH_take (i := 41) (oi := { dst := some 134, op := Op.move (Operand.tmp 133), type := 4, pos := "law.go:110", after := #[{ on := 40, ground := Ground.data }, { on := 39, ground := Ground.chain }], guard := none }) (v := ?_) rfl (by kernel_rfl) (by kernel_rfl) (by kernel_rfl) (fun _ _ _ h => h) (Or.inl ⟨by rfl, ?_⟩) HHeld.out ?_
  rotate_left
  · intro w hSw; clear hSw; go_simp; try with_reducible rfl
  try simp only [Act.put, List.setIfInBounds_toArray, List.set_cons_zero, List.set_cons_succ]
  refine wpAnyH_take (i := 42) (oi := { dst := some 135, op := Op.move (Operand.tmp 18), type := 4, pos := "law.go:110", after := #[{ on := 41, ground := Ground.guard }], guard := some (41, true) }) (v := ?_) rfl (by kernel_rfl) (by kernel_rfl) (by kernel_rfl) (fun _ _ _ h => h) (Or.inl ⟨by rfl, ?_⟩) HHeld.out ?_
  rotate_left
  · intro w hSw; clear hSw; go_simp; try with_reducible rfl
  try simp only [Act.put, List.setIfInBounds_toArray, List.set_cons_zero, List.set_cons_succ]
  refine wpAnyH_take (i := 43) (oi := { dst := some 136, op := Op.pick (Operand.tmp 134) (Operand.tmp 135) (Operand.const (Value.bool false)), type := 4, pos := "law.go:110", after := #[{ on := 41, ground := Ground.data }, { on := 42, ground := Ground.data }], guard := none }) (v := ?_) rfl (by kernel_rfl) (by kernel_rfl) (by kernel_rfl) (fun _ _ _ h => h) (Or.inl ⟨by rfl, ?_⟩) HHeld.out ?_
  rotate_left
  · intro w hSw; clear hSw; go_simp; try with_reducible rfl
  try simp only [Act.put, List.setIfInBounds_toArray, List.set_cons_zero, List.set_cons_succ]
  refine wpAnyH_take (i := 44) (oi := { dst := some 137, op := Op.move (Operand.tmp 136), type := 4, pos := "law.go:110", after := #[{ on := 43, ground := Ground.data }, { on := 41, ground := Ground.chain }], guard := none }) (v := ?_) rfl (by kernel_rfl) (by kernel_rfl) (by kernel_rfl) (fun _ _ _ h => h) (Or.inl ⟨by rfl, ?_⟩) HHeld.out ?_
  rotate_left
  · intro w hSw; clear hSw; go_simp; try with_reducible rfl
  try simp only [Act.put, List.setIfInBounds_toArray, List.set_cons_zero, List.set_cons_succ]
  refine wpAnyH_take (i := 45) (oi := { dst := some 138, op := Op.move (Operand.tmp 17), type := 22, pos := "law.go:110", after := #[{ on := 44, ground := Ground.guard }], guard := some (44, true) }) (v := ?_) rfl (by kernel_rfl) (by kernel_rfl) (by kernel_rfl) (fun _ _ _ h => h) (Or.inl ⟨by rfl, ?_⟩) HHeld.out ?_
  rotate_left
  · intro w hSw; clear hSw; go_simp; try with_reducible rfl
  try simp only [Act.put, List.setIfInBounds_toArray, List.set_cons_zero, List.set_cons_succ]
  refine wpAnyH_take (i := 46) (oi := { dst := some 139, op := Op.move (Operand.tmp 0), type := 22, pos := "law.go:110", after := #[{ on := 44, ground := Ground.guard }], guard := some (44, true) }) (v := ?_) rfl (by kernel_rfl) (by kernel_rfl) (by kernel_rfl) (fun _ _ _ h => h) (Or.inl ⟨by rfl, ?_⟩) HHeld.out ?_
  rotate_left
  · intro w hSw; clear hSw; go_simp; try with_reducible rfl
  try simp only [Act.put, List.setIfInBounds_toArray, List.set_cons_zero, List.set_cons_succ]
  refine wpAnyH_ready (rs := [47]) (by kernel_rfl) (by simp) ?_
  refine AllReadyH.cons (o := { dst := some 140, op := Op.call { callee := Callee.value (Operand.func 22), args := #[Operand.tmp 138, Operand.tmp 139], argTypes := #[22, 22] }, type := 4, pos := "law.go:110", after := #[{ on := 45, ground := Ground.data }, { on := 46, ground := Ground.data }, { on := 44, ground := Ground.chain }, { on := 44, ground := Ground.guard }], guard := some (44, true) }) rfl (fun K hK => ?_) AllReadyH.nil
  go_simp
  go_at_call 22; ((with_reducible refine (sameS_eq AB A q m cB c _ HQ.out (by omega) L12.out.pb L12.out.pq).mono ?_); rintro e w13 ⟨rfl, e13⟩; have L13 := Lib.hid (L12.out.later e13); clear e13)
  try go_wp2_with fail
  refine hK.out _ _ ?_ (fun hHeld => ?_)
  · exact L13.out
  clear HHeld
  have HHeld := Lib.hid hHeld
  clear hHeld
  clear hK K
  try simp only [Act.put, List.setIfInBounds_toArray, List.set_cons_zero, List.set_cons_succ]
  refine wpAnyH_take (i := 48) (oi := { dst := some 141, op := Op.pick (Operand.tmp 137) (Operand.tmp 140) (Operand.const (Value.bool false)), type := 4, pos := "law.go:110", after := #[{ on := 44, ground := Ground.data }, { on := 47, ground := Ground.data }], guard := none }) (v := ?_) rfl (by kernel_rfl) (by kernel_rfl) (by kernel_rfl) (fun _ _ _ h => h) (Or.inl ⟨by rfl, ?_⟩) HHeld.out ?_
  rotate_left
  · intro w hSw; clear hSw; go_simp; try with_reducible rfl
  try simp only [Act.put, List.setIfInBounds_toArray, List.set_cons_zero, List.set_cons_succ]
  refine wpAnyH_take (i := 49) (oi := { dst := some 6, op := Op.assign (Operand.tmp 141), type := 4, pos := "law.go:110", after := #[{ on := 48, ground := Ground.data }, { on := 47, ground := Ground.chain }, { on := 0, ground := Ground.phase }, { on := 1, ground := Ground.phase }, { on := 2, ground := Ground.phase }, { on := 3, ground := Ground.phase }, { on := 4, ground := Ground.phase }, { on := 5, ground := Ground.phase }, { on := 6, ground := Ground.phase }, { on := 7, ground := Ground.phase }, { on := 8, ground := Ground.phase }, { on := 9, ground := Ground.phase }, { on := 10, ground := Ground.phase }, { on := 11, ground := Ground.phase }, { on := 12, ground := Ground.phase }, { on := 13, ground := Ground.phase }, { on := 14, ground := Ground.phase }, { on := 15, ground := Ground.phase }, { on := 16, ground := Ground.phase }, { on := 17, ground := Ground.phase }, { on := 18, ground := Ground.phase }, { on := 19, ground := Ground.phase }, { on := 20, ground := Ground.phase }, { on := 21, ground := Ground.phase }, { on := 22, ground := Ground.phase }, { on := 23, ground := Ground.phase }, { on := 24, ground := Ground.phase }, { on := 25, ground := Ground.phase }, { on := 26, ground := Ground.phase }, { on := 27, ground := Ground.phase }, { on := 28, ground := Ground.phase }, { on := 29, ground := Ground.phase }, { on := 30, ground := Ground.phase }, { on := 31, ground := Ground.phase }, { on := 32, ground := Ground.phase }, { on := 33, ground := Ground.phase }, { on := 34, ground := Ground.phase }, { on := 35, ground := Ground.phase }, { on := 36, ground := Ground.phase }, { on := 37, ground := Ground.phase }, { on := 38, ground := Ground.phase }, { on := 39, ground := Ground.phase }, { on := 40, ground := Ground.phase }, { on := 41, ground := Ground.phase }, { on := 42, ground := Ground.phase }, { on := 43, ground := Ground.phase }, { on := 44, ground := Ground.phase }, { on := 45, ground := Ground.phase }, { on := 46, ground := Ground.phase }, { on := 47, ground := Ground.phase }, { on := 48, ground := Ground.phase }], guard := none }) (v := ?_) rfl (by kernel_rfl) (by kernel_rfl) (by kernel_rfl) (fun _ _ _ h => h) (Or.inl ⟨by rfl, ?_⟩) HHeld.out ?_
  rotate_left
  · intro w hSw; clear hSw; go_simp; try with_reducible rfl
  try simp only [Act.put, List.setIfInBounds_toArray, List.set_cons_zero, List.set_cons_succ]
  refine wpAnyH_done (by kernel_rfl) ?_ _
  go_wp2_with fail
  exact bodyPost_ret (v := .bool true) (by simp [results, Try.results5, go_sem]) rfl ⟨rfl, L13.out.bel⟩
end Go.Proofs.Ytngldfheneegcaa
