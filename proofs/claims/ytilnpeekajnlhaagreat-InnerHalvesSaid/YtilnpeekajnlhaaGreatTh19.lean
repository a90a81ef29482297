/- Nodes: Own. -/
import Derived.Test.YtilnpeekajnlhaaGreatTh02
import Derived.Test.YtilnpeekajnlhaaGreatTh15
import Derived.Test.YtilnpeekajnlhaaGreatTh18
import Derived.Deep.RegionHeld3
import Derived.RegionTactic
set_option linter.unusedVariables false
set_option linter.unusedSimpArgs false
namespace Go.Proofs.YtilnpeekajnlhaaGreat
open Go.RowKit Go.Maps
theorem RE.Row.chgB {α : Type} {E : RE α} {w w' : World} {base M : Nat} {A : Option Addr} {l : List α} {c : Nat} (h : E.Row w base A l c) (hc : Chg (fun g => g = M) w w') (hM : M < base) : E.Row w' base A l c :=
  row_chg h hc (fun g e => by have := h.fp_lt e; omega)
/-- Three rows in new memory. -/
structure R3 (W : World) (base : Nat) (P K M : Option Addr) (pc kc mc : Nat) (ps : List ByteArray) (ks : List Int) (ms : List MG) : Prop where
  r1 : ES.Row W base P ps pc
  r2 : EI.Row W base K ks kc
  r3 : EG.Row W base M ms mc
theorem R3.later {W W' : World} {base : Nat} {P K M : Option Addr} {pc kc mc : Nat} {ps : List ByteArray} {ks : List Int} {ms : List MG} (h : R3 W base P K M pc kc mc ps ks ms) (hb : Below W.heap.size W W') : R3 W' base P K M pc kc mc ps ks ms := ⟨h.r1.later hb, h.r2.later hb, h.r3.later hb⟩
theorem R3.chgB {W W' : World} {base N : Nat} {P K M : Option Addr} {pc kc mc : Nat} {ps : List ByteArray} {ks : List Int} {ms : List MG} (h : R3 W base P K M pc kc mc ps ks ms) (hc : Chg (fun g => g = N) W W') (hN : N < base) : R3 W' base P K M pc kc mc ps ks ms := ⟨h.r1.chgB hc hN, h.r2.chgB hc hN, h.r3.chgB hc hN⟩
/-- A node in new memory. -/
def OwnP (w : World) (kd : Int) (n k m : Nat) (ps : List ByteArray) (ks : List Int) (ms : List MG) (e : Ending) (w' : World) : Prop :=
  ∃ P pc J kc M mc B bc, e = .returned (NV kd (.slice P n pc) (.slice J k kc) (.slice M m mc) (.slice B 0 bc)) ∧ R3 w' w.heap.size P J M pc kc mc ps ks ms ∧ Below w.heap.size w w'
theorem set5_1 {W : World} {g : Nat} {a b c d e : Value} {t : TypeId} (z : W.heap[g]? = some (.cells #[a, b, c, d, e] t (0, 0))) (v : Value) : (W.setCell ⟨g, 1, none⟩ v).heap[g]? = some (.cells #[a, v, c, d, e] t (0, 0)) := by
  have hlt : g < W.heap.size := (Array.getElem?_eq_some_iff.1 z).1
  have q : W.heap[g] = .cells #[a, b, c, d, e] t (0, 0) := by have := z; rw [Array.getElem?_eq_getElem hlt] at this; exact Option.some.inj this
  rw [Array.getElem?_eq_getElem (by simpa [World.setCell] using hlt)]
  simp [World.setCell, Array.getElem_modify, q]
theorem set5_2 {W : World} {g : Nat} {a b c d e : Value} {t : TypeId} (z : W.heap[g]? = some (.cells #[a, b, c, d, e] t (0, 0))) (v : Value) : (W.setCell ⟨g, 2, none⟩ v).heap[g]? = some (.cells #[a, b, v, d, e] t (0, 0)) := by
  have hlt : g < W.heap.size := (Array.getElem?_eq_some_iff.1 z).1
  have q : W.heap[g] = .cells #[a, b, c, d, e] t (0, 0) := by have := z; rw [Array.getElem?_eq_getElem hlt] at this; exact Option.some.inj this
  rw [Array.getElem?_eq_getElem (by simpa [World.setCell] using hlt)]
  simp [World.setCell, Array.getElem_modify, q]
theorem set5_3 {W : World} {g : Nat} {a b c d e : Value} {t : TypeId} (z : W.heap[g]? = some (.cells #[a, b, c, d, e] t (0, 0))) (v : Value) : (W.setCell ⟨g, 3, none⟩ v).heap[g]? = some (.cells #[a, b, c, v, e] t (0, 0)) := by
  have hlt : g < W.heap.size := (Array.getElem?_eq_some_iff.1 z).1
  have q : W.heap[g] = .cells #[a, b, c, d, e] t (0, 0) := by have := z; rw [Array.getElem?_eq_getElem hlt] at this; exact Option.some.inj this
  rw [Array.getElem?_eq_getElem (by simpa [World.setCell] using hlt)]
  simp [World.setCell, Array.getElem_modify, q]
theorem set5_4 {W : World} {g : Nat} {a b c d e : Value} {t : TypeId} (z : W.heap[g]? = some (.cells #[a, b, c, d, e] t (0, 0))) (v : Value) : (W.setCell ⟨g, 4, none⟩ v).heap[g]? = some (.cells #[a, b, c, d, v] t (0, 0)) := by
  have hlt : g < W.heap.size := (Array.getElem?_eq_some_iff.1 z).1
  have q : W.heap[g] = .cells #[a, b, c, d, e] t (0, 0) := by have := z; rw [Array.getElem?_eq_getElem hlt] at this; exact Option.some.inj this
  rw [Array.getElem?_eq_getElem (by simpa [World.setCell] using hlt)]
  simp [World.setCell, Array.getElem_modify, q]
theorem bel_chg {w V W : World} {N : Nat} (h : Below w.heap.size w V) (hc : Chg (fun g => g = N) V W) (hN : w.heap.size ≤ N) : Below w.heap.size w W := h.trans (hc.below (fun g e => by omega) h.size)
theorem chg5 (W : World) (g : Nat) (a b c d e : Value) : Chg (fun x => x = g) W (((((W.setCell ⟨g, 0, none⟩ a).setCell ⟨g, 1, none⟩ b).setCell ⟨g, 2, none⟩ c).setCell ⟨g, 3, none⟩ d).setCell ⟨g, 4, none⟩ e) := by
  have h : ∀ (V : World) (p : Nat) (v : Value), Chg (fun x => x = g) V (V.setCell ⟨g, p, none⟩ v) := fun V p v => Chg.set V v rfl
  have t : ∀ {A B C : World}, Chg (fun x => x = g) A B → Chg (fun x => x = g) B C → Chg (fun x => x = g) A C := fun x y => x.trans y (fun g hg => .inl hg)
  exact t (t (t (t (h _ _ _) (h _ _ _)) (h _ _ _)) (h _ _ _)) (h _ _ _)
theorem R3.base {W : World} {base b2 : Nat} {P K M : Option Addr} {pc kc mc : Nat} {ps : List ByteArray} {ks : List Int} {ms : List MG} (h : R3 W base P K M pc kc mc ps ks ms) (hb : b2 ≤ base) : R3 W b2 P K M pc kc mc ps ks ms := ⟨h.r1.base hb, h.r2.base hb, h.r3.base hb⟩
set_option maxRecDepth 100000 in
set_option maxHeartbeats 8000000 in
theorem own_any (kd : Int) (P J M B : Option Addr) (n pc k kc m mc bc : Nat) (ps : List ByteArray) (ks : List Int) (ms : List MG) (w : World) (hp : ps.length = n) (hk : ks.length = k) (hm : ms.length = m) (hn : n ≤ 1000) (hk1 : k ≤ 1000) (hm1 : m ≤ 1000) (hP : ES.Rd w P ps) (hJ : EI.Rd w J ks) (hM : EG.Rd w M ms) :
    Calls Tryz.prog 22 #[NV kd (.slice P n pc) (.slice J k kc) (.slice M m mc) (.slice B 0 bc)] w (OwnP w kd n k m ps ks ms) := by
  have H0 := Lib.hid (bel_alloc (alb w (NO kd (.slice P n pc) (.slice J k kc) (.slice M m mc) (.slice B 0 bc))) ZN).drew
  have zz := keep_bel (alb (w.alloc (NO kd (.slice P n pc) (.slice J k kc) (.slice M m mc) (.slice B 0 bc))) ZN) (heap_alloc_new w (NO kd (.slice P n pc) (.slice J k kc) (.slice M m mc) (.slice B 0 bc)))
  have Y0 := heap_alloc_new (w.alloc (NO kd (.slice P n pc) (.slice J k kc) (.slice M m mc) (.slice B 0 bc))) ZN
  have C60 := Lib.hid (fun W (h : Below w.heap.size w W) => clone60 P n pc ps W hp (by omega) (hP.later h))
  have C61 := Lib.hid (fun W (h : Below w.heap.size w W) => clone61 J k kc ks W hk (by omega) (hJ.later h))
  have C62 := Lib.hid (fun W (h : Below w.heap.size w W) => clone62 M m mc ms W hm (by omega) (hM.later h))
  have C63 := Lib.hid (fun W => clone63 B 0 bc [] W rfl (by omega) (.inl rfl))
  clear hp hk hm hP hJ hM
  go_enter Tryz.func22, Tryz.ntmps22
  go_wp2_with fail
  generalize hV : (w.alloc (NO kd (.slice P n pc) (.slice J k kc) (.slice M m mc) (.slice B 0 bc))).alloc ZN = V at H0 zz Y0 ⊢
  have Z0 := Lib.hid (show w.heap.size + 2 ≤ V.drew.heap.size by rw [← hV]; simp)
  clear hV
  have Z := Lib.hid (show V.drew.heap[w.heap.size]? = some (NO kd (.slice P n pc) (.slice J k kc) (.slice M m mc) (.slice B 0 bc)) from zz)
  have Y := Lib.hid (show V.drew.heap[w.heap.size + 1]? = some ZN from (by have q := Y0; simp only [World.size_alloc] at q; exact q))
  clear zz Y0
  obtain ⟨c0, c1, c2, c3, c4⟩ := cells5 Z.out
  obtain ⟨f0, f1, f2, f3, f4⟩ := froz5 Z.out
  rename_i K0 hK0
  have CONT : ∀ (W3 : World) (P2 J2 M2 : Option Addr) (Pc2 Jc2 Mc2 : Nat), W3.heap[w.heap.size]? = some (NO kd (.slice P2 n Pc2) (.slice J2 k Jc2) (.slice M2 m Mc2) (.slice B 0 bc)) → W3.heap[w.heap.size + 1]? = some ZN → R3 W3 (w.heap.size + 2) P2 J2 M2 Pc2 Jc2 Mc2 ps ks ms → Below w.heap.size w W3 →
      K0 { tmps := #[NV kd (.slice P n pc) (.slice J k kc) (.slice M m mc) (.slice B 0 bc), .pointer (some ⟨w.heap.size, 0, none⟩), .pointer (some ⟨w.heap.size + 1, 0, none⟩), undef, undef, .pointer (some ⟨w.heap.size, 1, none⟩), .slice P n pc, .slice P2 n Pc2, .pointer (some ⟨w.heap.size, 2, none⟩), .slice J k kc, .slice J2 k Jc2, .pointer (some ⟨w.heap.size, 3, none⟩), .slice M m mc, .slice M2 m Mc2, .pointer (some ⟨w.heap.size, 1, none⟩), .pointer (some ⟨w.heap.size, 2, none⟩), .pointer (some ⟨w.heap.size, 3, none⟩), undef, undef, undef, undef, undef, undef, undef, undef, undef, undef, undef, undef, undef, undef, undef, undef, undef, undef, undef, undef], defers := [] } W3 := by
    intro W3 P2 J2 M2 Pc2 Jc2 Mc2 z y rr hb
    clear Z Y H0 Z0 c0 c1 c2 c3 c4 f0 f1 f2 f3 f4
    obtain ⟨c0, c1, c2, c3, c4⟩ := cells5 z
    obtain ⟨f0, f1, f2, f3, f4⟩ := froz5 z
    have Z := Lib.hid z
    have Y := Lib.hid y
    have RR := Lib.hid rr
    have H0 := Lib.hid hb
    clear z y rr hb
    refine hK0 _ _ ?_
    go_wp2_with (first
      | (go_at_call 51; ((with_reducible refine (C63.out _).mono ?_); rintro e w63 ⟨B2, bc2, rfl, -, b⟩; have zz := keep_bel b Z.out; replace Z := Lib.hid zz; replace Y := Lib.hid (keep_bel b Y.out); replace H0 := Lib.hid (bel_trans H0.out b); replace RR := Lib.hid (RR.out.later b); clear b zz c0 c1 c2 c3 c4 f0 f1 f2 f3 f4; obtain ⟨c0, c1, c2, c3, c4⟩ := cells5 Z.out; obtain ⟨f0, f1, f2, f3, f4⟩ := froz5 Z.out))
      | fail)
    go_loopw [24] (fun iv wr => iv = .int .i64 0 ∧ wr.heap[w.heap.size]? = some (NO kd (.slice P2 n Pc2) (.slice J2 k Jc2) (.slice M2 m Mc2) (.slice B2 0 bc2)) ∧ wr.heap[w.heap.size + 1]? = some ZN ∧ R3 wr (w.heap.size + 2) P2 J2 M2 Pc2 Jc2 Mc2 ps ks ms ∧ Below w.heap.size w wr) (fun _ _ => 0)
    case atStart =>
      have HC := Chg.set (D := fun g => g = w.heap.size) w63 (l := w.heap.size) (o := 4) (.slice B2 0 bc2) rfl
      exact ⟨rfl, set5_4 Z.out _, keep_chg HC Y.out (by omega), RR.out.chgB HC (by omega), bel_chg H0.out HC (Nat.le_refl _)⟩
    case round =>
      obtain ⟨rfl, z, y, rr, hb⟩ := hrel
      clear c0 c1 c2 c3 c4 f0 f1 f2 f3 f4 Z Y RR H0
      obtain ⟨c0, c1, c2, c3, c4⟩ := cells5 z
      obtain ⟨k0, k1, k2, k3, k4⟩ := cells5 y
      obtain ⟨f0, f1, f2, f3, f4⟩ := froz5 y
      have Z := Lib.hid z
      have Y := Lib.hid y
      have RR := Lib.hid rr
      have H0 := Lib.hid hb
      clear z y rr hb
      go_wp2
      refine bodyPost_ret (v := NV kd (.slice P2 n Pc2) (.slice J2 k Jc2) (.slice M2 m Mc2) (.slice B2 0 bc2)) (by simp [results, Tryz.results22, go_sem, k0, k1, k2, k3, k4]) rfl ⟨P2, Pc2, J2, Jc2, M2, Mc2, B2, bc2, rfl, ?_, ?_⟩
      · exact (RR.out.chgB (chg5 _ _ _ _ _ _ _) (by omega)).base (by omega)
      · exact bel_chg H0.out (chg5 _ _ _ _ _ _ _) (by omega)
  refine wp_region_held_drew (S := (fun V : World => True)) (by kernel_rfl) ?_ (fun hHeld => ?_)
  · trivial
  have HHeld := Lib.hid hHeld; clear hHeld
  refine wT (i := 0) (oi := { dst := some 5, op := Op.fieldAddr 28 (Operand.tmp 1) 1, type := 0, pos := "inner.go:32", after := #[], guard := none }) (v := ?_) rfl (Or.inl ⟨by rfl, ?_⟩) HHeld.out ?_
  rotate_left
  · intro w hSw; clear hSw; go_simp; try with_reducible rfl
  try simp only [pu, pn, s1, s2, s3]
  refine wT (i := 3) (oi := { dst := some 8, op := Op.fieldAddr 28 (Operand.tmp 1) 2, type := 0, pos := "inner.go:32", after := #[], guard := none }) (v := ?_) rfl (Or.inl ⟨by rfl, ?_⟩) HHeld.out ?_
  rotate_left
  · intro w hSw; clear hSw; go_simp; try with_reducible rfl
  try simp only [pu, pn, s1, s2, s3]
  refine wT (i := 6) (oi := { dst := some 11, op := Op.fieldAddr 28 (Operand.tmp 1) 3, type := 0, pos := "inner.go:32", after := #[], guard := none }) (v := ?_) rfl (Or.inl ⟨by rfl, ?_⟩) HHeld.out ?_
  rotate_left
  · intro w hSw; clear hSw; go_simp; try with_reducible rfl
  try simp only [pu, pn, s1, s2, s3]
  refine wpAnyH_ready (rs := [1, 4, 7]) (by kernel_rfl) (by simp) ?_
  refine AllReadyH.cons (o := { dst := some 6, op := Op.load 23 (Operand.tmp 5), type := 23, pos := "inner.go:32", after := #[{ on := 0, ground := Ground.data }], guard := none }) rfl (fun K hK => ?_) (AllReadyH.cons (o := { dst := some 9, op := Op.load 24 (Operand.tmp 8), type := 24, pos := "inner.go:32", after := #[{ on := 3, ground := Ground.data }], guard := none }) rfl (fun K hK => ?_) (AllReadyH.cons (o := { dst := some 12, op := Op.load 25 (Operand.tmp 11), type := 25, pos := "inner.go:32", after := #[{ on := 6, ground := Ground.data }], guard := none }) rfl (fun K hK => ?_) AllReadyH.nil))
  · go_simp
    refine hK.out _ _ ?_ (fun hHeld => ?_)
    · trivial
    clear HHeld; have HHeld := Lib.hid hHeld; clear hHeld
    clear hK K
    try simp only [pu, pn, s1, s2, s3]
    refine wpAnyH_ready (rs := [2, 4, 7]) (by kernel_rfl) (by simp) ?_
    refine AllReadyH.cons (o := { dst := some 7, op := Op.call { callee := Callee.value (Operand.func 48), args := #[Operand.tmp 6], argTypes := #[23] }, type := 23, pos := "inner.go:32", after := #[{ on := 1, ground := Ground.data }], guard := none }) rfl (fun K hK => ?_) (AllReadyH.cons (o := { dst := some 9, op := Op.load 24 (Operand.tmp 8), type := 24, pos := "inner.go:32", after := #[{ on := 3, ground := Ground.data }], guard := none }) rfl (fun K hK => ?_) (AllReadyH.cons (o := { dst := some 12, op := Op.load 25 (Operand.tmp 11), type := 25, pos := "inner.go:32", after := #[{ on := 6, ground := Ground.data }], guard := none }) rfl (fun K hK => ?_) AllReadyH.nil))
    · go_simp
      go_at_call 48
      with_reducible refine (C60.out _ H0.out).mono ?_
      rintro e w60 ⟨P2, Pc2, rfl, r, b⟩
      have R60 := Lib.hid (r.base Z0.out); have zz := keep_bel b Z.out; replace Z := Lib.hid zz; replace Y := Lib.hid (keep_bel b Y.out); replace H0 := Lib.hid (bel_trans H0.out b); replace Z0 := Lib.hid (Nat.le_trans Z0.out b.size); clear b r zz c0 c1 c2 c3 c4 f0 f1 f2 f3 f4; obtain ⟨c0, c1, c2, c3, c4⟩ := cells5 Z.out; obtain ⟨f0, f1, f2, f3, f4⟩ := froz5 Z.out
      refine hK.out _ _ ?_ (fun hHeld => ?_)
      · trivial
      clear HHeld; have HHeld := Lib.hid hHeld; clear hHeld
      clear hK K
      try simp only [pu, pn, s1, s2, s3]
      refine wpAnyH_ready (rs := [4, 7]) (by kernel_rfl) (by simp) ?_
      refine AllReadyH.cons (o := { dst := some 9, op := Op.load 24 (Operand.tmp 8), type := 24, pos := "inner.go:32", after := #[{ on := 3, ground := Ground.data }], guard := none }) rfl (fun K hK => ?_) (AllReadyH.cons (o := { dst := some 12, op := Op.load 25 (Operand.tmp 11), type := 25, pos := "inner.go:32", after := #[{ on := 6, ground := Ground.data }], guard := none }) rfl (fun K hK => ?_) AllReadyH.nil)
      · go_simp
        refine hK.out _ _ ?_ (fun hHeld => ?_)
        · trivial
        clear HHeld; have HHeld := Lib.hid hHeld; clear hHeld
        clear hK K
        try simp only [pu, pn, s1, s2, s3]
        refine wpAnyH_ready (rs := [5, 7]) (by kernel_rfl) (by simp) ?_
        refine AllReadyH.cons (o := { dst := some 10, op := Op.call { callee := Callee.value (Operand.func 49), args := #[Operand.tmp 9], argTypes := #[24] }, type := 24, pos := "inner.go:32", after := #[{ on := 4, ground := Ground.data }, { on := 2, ground := Ground.chain }], guard := none }) rfl (fun K hK => ?_) (AllReadyH.cons (o := { dst := some 12, op := Op.load 25 (Operand.tmp 11), type := 25, pos := "inner.go:32", after := #[{ on := 6, ground := Ground.data }], guard := none }) rfl (fun K hK => ?_) AllReadyH.nil)
        · go_simp
          go_at_call 49
          with_reducible refine (C61.out _ H0.out).mono ?_
          rintro e w61 ⟨J2, Jc2, rfl, r, b⟩
          have R61 := Lib.hid (r.base Z0.out); replace R60 := Lib.hid (R60.out.later b); have zz := keep_bel b Z.out; replace Z := Lib.hid zz; replace Y := Lib.hid (keep_bel b Y.out); replace H0 := Lib.hid (bel_trans H0.out b); replace Z0 := Lib.hid (Nat.le_trans Z0.out b.size); clear b r zz c0 c1 c2 c3 c4 f0 f1 f2 f3 f4; obtain ⟨c0, c1, c2, c3, c4⟩ := cells5 Z.out; obtain ⟨f0, f1, f2, f3, f4⟩ := froz5 Z.out
          refine hK.out _ _ ?_ (fun hHeld => ?_)
          · trivial
          clear HHeld; have HHeld := Lib.hid hHeld; clear hHeld
          clear hK K
          try simp only [pu, pn, s1, s2, s3]
          refine wpAnyH_ready (rs := [7]) (by kernel_rfl) (by simp) ?_
          refine AllReadyH.cons (o := { dst := some 12, op := Op.load 25 (Operand.tmp 11), type := 25, pos := "inner.go:32", after := #[{ on := 6, ground := Ground.data }], guard := none }) rfl (fun K hK => ?_) AllReadyH.nil
          go_simp
          refine hK.out _ _ ?_ (fun hHeld => ?_)
          · trivial
          clear HHeld; have HHeld := Lib.hid hHeld; clear hHeld
          clear hK K
          try simp only [pu, pn, s1, s2, s3]
          refine wT (i := 9) (oi := { dst := some 14, op := Op.fieldAddr 28 (Operand.tmp 1) 1, type := 0, pos := "inner.go:32", after := #[{ on := 0, ground := Ground.phase }, { on := 1, ground := Ground.phase }, { on := 2, ground := Ground.phase }, { on := 3, ground := Ground.phase }, { on := 4, ground := Ground.phase }, { on := 5, ground := Ground.textOnly Departure.lateStoresUnsure }, { on := 6, ground := Ground.phase }, { on := 7, ground := Ground.phase }, { on := 8, ground := Ground.textOnly Departure.lateStoresUnsure }], guard := none }) (v := ?_) rfl (Or.inl ⟨by rfl, ?_⟩) HHeld.out ?_
          rotate_left
          · intro w hSw; clear hSw; go_simp; try with_reducible rfl
          try simp only [pu, pn, s1, s2, s3]
          refine wpAnyH_ready (rs := [8]) (by kernel_rfl) (by simp) ?_
          refine AllReadyH.cons (o := { dst := some 13, op := Op.call { callee := Callee.value (Operand.func 50), args := #[Operand.tmp 12], argTypes := #[25] }, type := 25, pos := "inner.go:32", after := #[{ on := 7, ground := Ground.data }, { on := 5, ground := Ground.chain }], guard := none }) rfl (fun K hK => ?_) AllReadyH.nil
          go_simp
          go_at_call 50
          with_reducible refine (C62.out _ H0.out).mono ?_
          rintro e w62 ⟨M2, Mc2, rfl, r, b⟩
          have R62 := Lib.hid (r.base Z0.out); replace R60 := Lib.hid (R60.out.later b); replace R61 := Lib.hid (R61.out.later b); have zz := keep_bel b Z.out; replace Z := Lib.hid zz; replace Y := Lib.hid (keep_bel b Y.out); replace H0 := Lib.hid (bel_trans H0.out b); replace Z0 := Lib.hid (Nat.le_trans Z0.out b.size); clear b r zz c0 c1 c2 c3 c4 f0 f1 f2 f3 f4; obtain ⟨c0, c1, c2, c3, c4⟩ := cells5 Z.out; obtain ⟨f0, f1, f2, f3, f4⟩ := froz5 Z.out
          refine hK.out _ _ ?_ (fun hHeld => ?_)
          · trivial
          clear HHeld; have HHeld := Lib.hid hHeld; clear hHeld
          clear hK K
          try simp only [pu, pn, s1, s2, s3]
          refine wpAnyH_ready (rs := [10]) (by kernel_rfl) (by simp) ?_
          refine AllReadyH.cons (o := { dst := none, op := Op.store 23 (Operand.tmp 14) (Operand.tmp 7), type := 0, pos := "inner.go:32", after := #[{ on := 9, ground := Ground.data }, { on := 2, ground := Ground.data }, { on := 8, ground := Ground.chain }, { on := 0, ground := Ground.phase }, { on := 1, ground := Ground.phase }, { on := 2, ground := Ground.phase }, { on := 3, ground := Ground.phase }, { on := 4, ground := Ground.phase }, { on := 5, ground := Ground.textOnly Departure.lateStoresUnsure }, { on := 6, ground := Ground.phase }, { on := 7, ground := Ground.phase }, { on := 8, ground := Ground.textOnly Departure.lateStoresUnsure }], guard := none }) rfl (fun K hK => ?_) AllReadyH.nil
          go_simp
          generalize hW : World.setCell _ _ _ = W1
          have HC := Lib.hid (show Chg (fun g => g = w.heap.size) _ W1 by rw [← hW]; exact Chg.set _ _ rfl)
          replace R60 := Lib.hid (R60.out.chgB HC.out (by omega)); replace R61 := Lib.hid (R61.out.chgB HC.out (by omega)); replace R62 := Lib.hid (R62.out.chgB HC.out (by omega)); have zz : W1.heap[w.heap.size]? = some (NO kd (.slice P2 n Pc2) (.slice J k kc) (.slice M m mc) (.slice B 0 bc)) := (by rw [← hW]; exact set5_1 Z.out _); replace Z := Lib.hid zz; replace Y := Lib.hid (keep_chg HC.out Y.out (by omega)); replace H0 := Lib.hid (bel_chg H0.out HC.out (Nat.le_refl _)); clear zz hW HC c0 c1 c2 c3 c4 f0 f1 f2 f3 f4; obtain ⟨c0, c1, c2, c3, c4⟩ := cells5 Z.out; obtain ⟨f0, f1, f2, f3, f4⟩ := froz5 Z.out
          refine hK.out _ _ ?_ (fun hHeld => ?_)
          · trivial
          clear HHeld; have HHeld := Lib.hid hHeld; clear hHeld
          clear hK K
          try simp only [pu, pn, s1, s2, s3]
          refine wT (i := 11) (oi := { dst := some 15, op := Op.fieldAddr 28 (Operand.tmp 1) 2, type := 0, pos := "inner.go:32", after := #[{ on := 0, ground := Ground.phase }, { on := 1, ground := Ground.phase }, { on := 2, ground := Ground.phase }, { on := 3, ground := Ground.phase }, { on := 4, ground := Ground.phase }, { on := 5, ground := Ground.phase }, { on := 6, ground := Ground.phase }, { on := 7, ground := Ground.phase }, { on := 8, ground := Ground.textOnly Departure.lateStoresUnsure }, { on := 9, ground := Ground.phase }, { on := 10, ground := Ground.phase }], guard := none }) (v := ?_) rfl (Or.inl ⟨by rfl, ?_⟩) HHeld.out ?_
          rotate_left
          · intro w hSw; clear hSw; go_simp; try with_reducible rfl
          try simp only [pu, pn, s1, s2, s3]
          refine wpAnyH_ready (rs := [12]) (by kernel_rfl) (by simp) ?_
          refine AllReadyH.cons (o := { dst := none, op := Op.store 24 (Operand.tmp 15) (Operand.tmp 10), type := 0, pos := "inner.go:32", after := #[{ on := 11, ground := Ground.data }, { on := 5, ground := Ground.data }, { on := 10, ground := Ground.chain }, { on := 0, ground := Ground.phase }, { on := 1, ground := Ground.phase }, { on := 2, ground := Ground.phase }, { on := 3, ground := Ground.phase }, { on := 4, ground := Ground.phase }, { on := 5, ground := Ground.phase }, { on := 6, ground := Ground.phase }, { on := 7, ground := Ground.phase }, { on := 8, ground := Ground.textOnly Departure.lateStoresUnsure }, { on := 9, ground := Ground.phase }, { on := 10, ground := Ground.phase }], guard := none }) rfl (fun K hK => ?_) AllReadyH.nil
          go_simp
          generalize hW : World.setCell _ _ _ = W2
          have HC := Lib.hid (show Chg (fun g => g = w.heap.size) _ W2 by rw [← hW]; exact Chg.set _ _ rfl)
          replace R60 := Lib.hid (R60.out.chgB HC.out (by omega)); replace R61 := Lib.hid (R61.out.chgB HC.out (by omega)); replace R62 := Lib.hid (R62.out.chgB HC.out (by omega)); have zz : W2.heap[w.heap.size]? = some (NO kd (.slice P2 n Pc2) (.slice J2 k Jc2) (.slice M m mc) (.slice B 0 bc)) := (by rw [← hW]; exact set5_2 Z.out _); replace Z := Lib.hid zz; replace Y := Lib.hid (keep_chg HC.out Y.out (by omega)); replace H0 := Lib.hid (bel_chg H0.out HC.out (Nat.le_refl _)); clear zz hW HC c0 c1 c2 c3 c4 f0 f1 f2 f3 f4; obtain ⟨c0, c1, c2, c3, c4⟩ := cells5 Z.out; obtain ⟨f0, f1, f2, f3, f4⟩ := froz5 Z.out
          refine hK.out _ _ ?_ (fun hHeld => ?_)
          · trivial
          clear HHeld; have HHeld := Lib.hid hHeld; clear hHeld
          clear hK K
          try simp only [pu, pn, s1, s2, s3]
          refine wT (i := 13) (oi := { dst := some 16, op := Op.fieldAddr 28 (Operand.tmp 1) 3, type := 0, pos := "inner.go:32", after := #[{ on := 0, ground := Ground.phase }, { on := 1, ground := Ground.phase }, { on := 2, ground := Ground.phase }, { on := 3, ground := Ground.phase }, { on := 4, ground := Ground.phase }, { on := 5, ground := Ground.phase }, { on := 6, ground := Ground.phase }, { on := 7, ground := Ground.phase }, { on := 8, ground := Ground.phase }, { on := 9, ground := Ground.phase }, { on := 10, ground := Ground.phase }, { on := 11, ground := Ground.phase }, { on := 12, ground := Ground.phase }], guard := none }) (v := ?_) rfl (Or.inl ⟨by rfl, ?_⟩) HHeld.out ?_
          rotate_left
          · intro w hSw; clear hSw; go_simp; try with_reducible rfl
          try simp only [pu, pn, s1, s2, s3]
          refine wpAnyH_ready (rs := [14]) (by kernel_rfl) (by simp) ?_
          refine AllReadyH.cons (o := { dst := none, op := Op.store 25 (Operand.tmp 16) (Operand.tmp 13), type := 0, pos := "inner.go:32", after := #[{ on := 13, ground := Ground.data }, { on := 8, ground := Ground.data }, { on := 12, ground := Ground.chain }, { on := 0, ground := Ground.phase }, { on := 1, ground := Ground.phase }, { on := 2, ground := Ground.phase }, { on := 3, ground := Ground.phase }, { on := 4, ground := Ground.phase }, { on := 5, ground := Ground.phase }, { on := 6, ground := Ground.phase }, { on := 7, ground := Ground.phase }, { on := 8, ground := Ground.phase }, { on := 9, ground := Ground.phase }, { on := 10, ground := Ground.phase }, { on := 11, ground := Ground.phase }, { on := 12, ground := Ground.phase }], guard := none }) rfl (fun K hK => ?_) AllReadyH.nil
          go_simp
          generalize hW : World.setCell _ _ _ = W3
          have HC := Lib.hid (show Chg (fun g => g = w.heap.size) _ W3 by rw [← hW]; exact Chg.set _ _ rfl)
          replace R60 := Lib.hid (R60.out.chgB HC.out (by omega)); replace R61 := Lib.hid (R61.out.chgB HC.out (by omega)); replace R62 := Lib.hid (R62.out.chgB HC.out (by omega)); have zz : W3.heap[w.heap.size]? = some (NO kd (.slice P2 n Pc2) (.slice J2 k Jc2) (.slice M2 m Mc2) (.slice B 0 bc)) := (by rw [← hW]; exact set5_3 Z.out _); replace Z := Lib.hid zz; replace Y := Lib.hid (keep_chg HC.out Y.out (by omega)); replace H0 := Lib.hid (bel_chg H0.out HC.out (Nat.le_refl _)); clear zz hW HC c0 c1 c2 c3 c4 f0 f1 f2 f3 f4; obtain ⟨c0, c1, c2, c3, c4⟩ := cells5 Z.out; obtain ⟨f0, f1, f2, f3, f4⟩ := froz5 Z.out
          refine hK.out _ _ ?_ (fun hHeld => ?_)
          · trivial
          clear HHeld; have HHeld := Lib.hid hHeld; clear hHeld
          clear hK K
          try simp only [pu, pn, s1, s2, s3]
          refine wpAnyH_done (by kernel_rfl) ?_ _
          clear HHeld
          exact CONT _ _ _ _ _ _ _ Z.out Y.out (R3.mk R60.out R61.out R62.out) H0.out
        · go_simp
          refine hK.out _ _ ?_ (fun hHeld => ?_)
          · trivial
          clear HHeld; have HHeld := Lib.hid hHeld; clear hHeld
          clear hK K
          try simp only [pu, pn, s1, s2, s3]
          refine wT (i := 9) (oi := { dst := some 14, op := Op.fieldAddr 28 (Operand.tmp 1) 1, type := 0, pos := "inner.go:32", after := #[{ on := 0, ground := Ground.phase }, { on := 1, ground := Ground.phase }, { on := 2, ground := Ground.phase }, { on := 3, ground := Ground.phase }, { on := 4, ground := Ground.phase }, { on := 5, ground := Ground.textOnly Departure.lateStoresUnsure }, { on := 6, ground := Ground.phase }, { on := 7, ground := Ground.phase }, { on := 8, ground := Ground.textOnly Departure.lateStoresUnsure }], guard := none }) (v := ?_) rfl (Or.inl ⟨by rfl, ?_⟩) HHeld.out ?_
          rotate_left
          · intro w hSw; clear hSw; go_simp; try with_reducible rfl
          try simp only [pu, pn, s1, s2, s3]
          refine wpAnyH_ready (rs := [5]) (by kernel_rfl) (by simp) ?_
          refine AllReadyH.cons (o := { dst := some 10, op := Op.call { callee := Callee.value (Operand.func 49), args := #[Operand.tmp 9], argTypes := #[24] }, type := 24, pos := "inner.go:32", after := #[{ on := 4, ground := Ground.data }, { on := 2, ground := Ground.chain }], guard := none }) rfl (fun K hK => ?_) AllReadyH.nil
          go_simp
          go_at_call 49
          with_reducible refine (C61.out _ H0.out).mono ?_
          rintro e w61 ⟨J2, Jc2, rfl, r, b⟩
          have R61 := Lib.hid (r.base Z0.out); replace R60 := Lib.hid (R60.out.later b); have zz := keep_bel b Z.out; replace Z := Lib.hid zz; replace Y := Lib.hid (keep_bel b Y.out); replace H0 := Lib.hid (bel_trans H0.out b); replace Z0 := Lib.hid (Nat.le_trans Z0.out b.size); clear b r zz c0 c1 c2 c3 c4 f0 f1 f2 f3 f4; obtain ⟨c0, c1, c2, c3, c4⟩ := cells5 Z.out; obtain ⟨f0, f1, f2, f3, f4⟩ := froz5 Z.out
          refine hK.out _ _ ?_ (fun hHeld => ?_)
          · trivial
          clear HHeld; have HHeld := Lib.hid hHeld; clear hHeld
          clear hK K
          try simp only [pu, pn, s1, s2, s3]
          refine wpAnyH_ready (rs := [8]) (by kernel_rfl) (by simp) ?_
          refine AllReadyH.cons (o := { dst := some 13, op := Op.call { callee := Callee.value (Operand.func 50), args := #[Operand.tmp 12], argTypes := #[25] }, type := 25, pos := "inner.go:32", after := #[{ on := 7, ground := Ground.data }, { on := 5, ground := Ground.chain }], guard := none }) rfl (fun K hK => ?_) AllReadyH.nil
          go_simp
          go_at_call 50
          with_reducible refine (C62.out _ H0.out).mono ?_
          rintro e w62 ⟨M2, Mc2, rfl, r, b⟩
          have R62 := Lib.hid (r.base Z0.out); replace R60 := Lib.hid (R60.out.later b); replace R61 := Lib.hid (R61.out.later b); have zz := keep_bel b Z.out; replace Z := Lib.hid zz; replace Y := Lib.hid (keep_bel b Y.out); replace H0 := Lib.hid (bel_trans H0.out b); replace Z0 := Lib.hid (Nat.le_trans Z0.out b.size); clear b r zz c0 c1 c2 c3 c4 f0 f1 f2 f3 f4; obtain ⟨c0, c1, c2, c3, c4⟩ := cells5 Z.out; obtain ⟨f0, f1, f2, f3, f4⟩ := froz5 Z.out
          refine hK.out _ _ ?_ (fun hHeld => ?_)
          · trivial
          clear HHeld; have HHeld := Lib.hid hHeld; clear hHeld
          clear hK K
          try simp only [pu, pn, s1, s2, s3]
          refine wpAnyH_ready (rs := [10]) (by kernel_rfl) (by simp) ?_
          refine AllReadyH.cons (o := { dst := none, op := Op.store 23 (Operand.tmp 14) (Operand.tmp 7), type := 0, pos := "inner.go:32", after := #[{ on := 9, ground := Ground.data }, { on := 2, ground := Ground.data }, { on := 8, ground := Ground.chain }, { on := 0, ground := Ground.phase }, { on := 1, ground := Ground.phase }, { on := 2, ground := Ground.phase }, { on := 3, ground := Ground.phase }, { on := 4, ground := Ground.phase }, { on := 5, ground := Ground.textOnly Departure.lateStoresUnsure }, { on := 6, ground := Ground.phase }, { on := 7, ground := Ground.phase }, { on := 8, ground := Ground.textOnly Departure.lateStoresUnsure }], guard := none }) rfl (fun K hK => ?_) AllReadyH.nil
          go_simp
          generalize hW : World.setCell _ _ _ = W1
          have HC := Lib.hid (show Chg (fun g => g = w.heap.size) _ W1 by rw [← hW]; exact Chg.set _ _ rfl)
          replace R60 := Lib.hid (R60.out.chgB HC.out (by omega)); replace R61 := Lib.hid (R61.out.chgB HC.out (by omega)); replace R62 := Lib.hid (R62.out.chgB HC.out (by omega)); have zz : W1.heap[w.heap.size]? = some (NO kd (.slice P2 n Pc2) (.slice J k kc) (.slice M m mc) (.slice B 0 bc)) := (by rw [← hW]; exact set5_1 Z.out _); replace Z := Lib.hid zz; replace Y := Lib.hid (keep_chg HC.out Y.out (by omega)); replace H0 := Lib.hid (bel_chg H0.out HC.out (Nat.le_refl _)); clear zz hW HC c0 c1 c2 c3 c4 f0 f1 f2 f3 f4; obtain ⟨c0, c1, c2, c3, c4⟩ := cells5 Z.out; obtain ⟨f0, f1, f2, f3, f4⟩ := froz5 Z.out
          refine hK.out _ _ ?_ (fun hHeld => ?_)
          · trivial
          clear HHeld; have HHeld := Lib.hid hHeld; clear hHeld
          clear hK K
          try simp only [pu, pn, s1, s2, s3]
          refine wT (i := 11) (oi := { dst := some 15, op := Op.fieldAddr 28 (Operand.tmp 1) 2, type := 0, pos := "inner.go:32", after := #[{ on := 0, ground := Ground.phase }, { on := 1, ground := Ground.phase }, { on := 2, ground := Ground.phase }, { on := 3, ground := Ground.phase }, { on := 4, ground := Ground.phase }, { on := 5, ground := Ground.phase }, { on := 6, ground := Ground.phase }, { on := 7, ground := Ground.phase }, { on := 8, ground := Ground.textOnly Departure.lateStoresUnsure }, { on := 9, ground := Ground.phase }, { on := 10, ground := Ground.phase }], guard := none }) (v := ?_) rfl (Or.inl ⟨by rfl, ?_⟩) HHeld.out ?_
          rotate_left
          · intro w hSw; clear hSw; go_simp; try with_reducible rfl
          try simp only [pu, pn, s1, s2, s3]
          refine wpAnyH_ready (rs := [12]) (by kernel_rfl) (by simp) ?_
          refine AllReadyH.cons (o := { dst := none, op := Op.store 24 (Operand.tmp 15) (Operand.tmp 10), type := 0, pos := "inner.go:32", after := #[{ on := 11, ground := Ground.data }, { on := 5, ground := Ground.data }, { on := 10, ground := Ground.chain }, { on := 0, ground := Ground.phase }, { on := 1, ground := Ground.phase }, { on := 2, ground := Ground.phase }, { on := 3, ground := Ground.phase }, { on := 4, ground := Ground.phase }, { on := 5, ground := Ground.phase }, { on := 6, ground := Ground.phase }, { on := 7, ground := Ground.phase }, { on := 8, ground := Ground.textOnly Departure.lateStoresUnsure }, { on := 9, ground := Ground.phase }, { on := 10, ground := Ground.phase }], guard := none }) rfl (fun K hK => ?_) AllReadyH.nil
          go_simp
          generalize hW : World.setCell _ _ _ = W2
          have HC := Lib.hid (show Chg (fun g => g = w.heap.size) _ W2 by rw [← hW]; exact Chg.set _ _ rfl)
          replace R60 := Lib.hid (R60.out.chgB HC.out (by omega)); replace R61 := Lib.hid (R61.out.chgB HC.out (by omega)); replace R62 := Lib.hid (R62.out.chgB HC.out (by omega)); have zz : W2.heap[w.heap.size]? = some (NO kd (.slice P2 n Pc2) (.slice J2 k Jc2) (.slice M m mc) (.slice B 0 bc)) := (by rw [← hW]; exact set5_2 Z.out _); replace Z := Lib.hid zz; replace Y := Lib.hid (keep_chg HC.out Y.out (by omega)); replace H0 := Lib.hid (bel_chg H0.out HC.out (Nat.le_refl _)); clear zz hW HC c0 c1 c2 c3 c4 f0 f1 f2 f3 f4; obtain ⟨c0, c1, c2, c3, c4⟩ := cells5 Z.out; obtain ⟨f0, f1, f2, f3, f4⟩ := froz5 Z.out
          refine hK.out _ _ ?_ (fun hHeld => ?_)
          · trivial
          clear HHeld; have HHeld := Lib.hid hHeld; clear hHeld
          clear hK K
          try simp only [pu, pn, s1, s2, s3]
          refine wT (i := 13) (oi := { dst := some 16, op := Op.fieldAddr 28 (Operand.tmp 1) 3, type := 0, pos := "inner.go:32", after := #[{ on := 0, ground := Ground.phase }, { on := 1, ground := Ground.phase }, { on := 2, ground := Ground.phase }, { on := 3, ground := Ground.phase }, { on := 4, ground := Ground.phase }, { on := 5, ground := Ground.phase }, { on := 6, ground := Ground.phase }, { on := 7, ground := Ground.phase }, { on := 8, ground := Ground.phase }, { on := 9, ground := Ground.phase }, { on := 10, ground := Ground.phase }, { on := 11, ground := Ground.phase }, { on := 12, ground := Ground.phase }], guard := none }) (v := ?_) rfl (Or.inl ⟨by rfl, ?_⟩) HHeld.out ?_
          rotate_left
          · intro w hSw; clear hSw; go_simp; try with_reducible rfl
          try simp only [pu, pn, s1, s2, s3]
          refine wpAnyH_ready (rs := [14]) (by kernel_rfl) (by simp) ?_
          refine AllReadyH.cons (o := { dst := none, op := Op.store 25 (Operand.tmp 16) (Operand.tmp 13), type := 0, pos := "inner.go:32", after := #[{ on := 13, ground := Ground.data }, { on := 8, ground := Ground.data }, { on := 12, ground := Ground.chain }, { on := 0, ground := Ground.phase }, { on := 1, ground := Ground.phase }, { on := 2, ground := Ground.phase }, { on := 3, ground := Ground.phase }, { on := 4, ground := Ground.phase }, { on := 5, ground := Ground.phase }, { on := 6, ground := Ground.phase }, { on := 7, ground := Ground.phase }, { on := 8, ground := Ground.phase }, { on := 9, ground := Ground.phase }, { on := 10, ground := Ground.phase }, { on := 11, ground := Ground.phase }, { on := 12, ground := Ground.phase }], guard := none }) rfl (fun K hK => ?_) AllReadyH.nil
          go_simp
          generalize hW : World.setCell _ _ _ = W3
          have HC := Lib.hid (show Chg (fun g => g = w.heap.size) _ W3 by rw [← hW]; exact Chg.set _ _ rfl)
          replace R60 := Lib.hid (R60.out.chgB HC.out (by omega)); replace R61 := Lib.hid (R61.out.chgB HC.out (by omega)); replace R62 := Lib.hid (R62.out.chgB HC.out (by omega)); have zz : W3.heap[w.heap.size]? = some (NO kd (.slice P2 n Pc2) (.slice J2 k Jc2) (.slice M2 m Mc2) (.slice B 0 bc)) := (by rw [← hW]; exact set5_3 Z.out _); replace Z := Lib.hid zz; replace Y := Lib.hid (keep_chg HC.out Y.out (by omega)); replace H0 := Lib.hid (bel_chg H0.out HC.out (Nat.le_refl _)); clear zz hW HC c0 c1 c2 c3 c4 f0 f1 f2 f3 f4; obtain ⟨c0, c1, c2, c3, c4⟩ := cells5 Z.out; obtain ⟨f0, f1, f2, f3, f4⟩ := froz5 Z.out
          refine hK.out _ _ ?_ (fun hHeld => ?_)
          · trivial
          clear HHeld; have HHeld := Lib.hid hHeld; clear hHeld
          clear hK K
          try simp only [pu, pn, s1, s2, s3]
          refine wpAnyH_done (by kernel_rfl) ?_ _
          clear HHeld
          exact CONT _ _ _ _ _ _ _ Z.out Y.out (R3.mk R60.out R61.out R62.out) H0.out
      · go_simp
        refine hK.out _ _ ?_ (fun hHeld => ?_)
        · trivial
        clear HHeld; have HHeld := Lib.hid hHeld; clear hHeld
        clear hK K
        try simp only [pu, pn, s1, s2, s3]
        refine wpAnyH_ready (rs := [4]) (by kernel_rfl) (by simp) ?_
        refine AllReadyH.cons (o := { dst := some 9, op := Op.load 24 (Operand.tmp 8), type := 24, pos := "inner.go:32", after := #[{ on := 3, ground := Ground.data }], guard := none }) rfl (fun K hK => ?_) AllReadyH.nil
        go_simp
        refine hK.out _ _ ?_ (fun hHeld => ?_)
        · trivial
        clear HHeld; have HHeld := Lib.hid hHeld; clear hHeld
        clear hK K
        try simp only [pu, pn, s1, s2, s3]
        refine wT (i := 9) (oi := { dst := some 14, op := Op.fieldAddr 28 (Operand.tmp 1) 1, type := 0, pos := "inner.go:32", after := #[{ on := 0, ground := Ground.phase }, { on := 1, ground := Ground.phase }, { on := 2, ground := Ground.phase }, { on := 3, ground := Ground.phase }, { on := 4, ground := Ground.phase }, { on := 5, ground := Ground.textOnly Departure.lateStoresUnsure }, { on := 6, ground := Ground.phase }, { on := 7, ground := Ground.phase }, { on := 8, ground := Ground.textOnly Departure.lateStoresUnsure }], guard := none }) (v := ?_) rfl (Or.inl ⟨by rfl, ?_⟩) HHeld.out ?_
        rotate_left
        · intro w hSw; clear hSw; go_simp; try with_reducible rfl
        try simp only [pu, pn, s1, s2, s3]
        refine wpAnyH_ready (rs := [5]) (by kernel_rfl) (by simp) ?_
        refine AllReadyH.cons (o := { dst := some 10, op := Op.call { callee := Callee.value (Operand.func 49), args := #[Operand.tmp 9], argTypes := #[24] }, type := 24, pos := "inner.go:32", after := #[{ on := 4, ground := Ground.data }, { on := 2, ground := Ground.chain }], guard := none }) rfl (fun K hK => ?_) AllReadyH.nil
        go_simp
        go_at_call 49
        with_reducible refine (C61.out _ H0.out).mono ?_
        rintro e w61 ⟨J2, Jc2, rfl, r, b⟩
        have R61 := Lib.hid (r.base Z0.out); replace R60 := Lib.hid (R60.out.later b); have zz := keep_bel b Z.out; replace Z := Lib.hid zz; replace Y := Lib.hid (keep_bel b Y.out); replace H0 := Lib.hid (bel_trans H0.out b); replace Z0 := Lib.hid (Nat.le_trans Z0.out b.size); clear b r zz c0 c1 c2 c3 c4 f0 f1 f2 f3 f4; obtain ⟨c0, c1, c2, c3, c4⟩ := cells5 Z.out; obtain ⟨f0, f1, f2, f3, f4⟩ := froz5 Z.out
        refine hK.out _ _ ?_ (fun hHeld => ?_)
        · trivial
        clear HHeld; have HHeld := Lib.hid hHeld; clear hHeld
        clear hK K
        try simp only [pu, pn, s1, s2, s3]
        refine wpAnyH_ready (rs := [8]) (by kernel_rfl) (by simp) ?_
        refine AllReadyH.cons (o := { dst := some 13, op := Op.call { callee := Callee.value (Operand.func 50), args := #[Operand.tmp 12], argTypes := #[25] }, type := 25, pos := "inner.go:32", after := #[{ on := 7, ground := Ground.data }, { on := 5, ground := Ground.chain }], guard := none }) rfl (fun K hK => ?_) AllReadyH.nil
        go_simp
        go_at_call 50
        with_reducible refine (C62.out _ H0.out).mono ?_
        rintro e w62 ⟨M2, Mc2, rfl, r, b⟩
        have R62 := Lib.hid (r.base Z0.out); replace R60 := Lib.hid (R60.out.later b); replace R61 := Lib.hid (R61.out.later b); have zz := keep_bel b Z.out; replace Z := Lib.hid zz; replace Y := Lib.hid (keep_bel b Y.out); replace H0 := Lib.hid (bel_trans H0.out b); replace Z0 := Lib.hid (Nat.le_trans Z0.out b.size); clear b r zz c0 c1 c2 c3 c4 f0 f1 f2 f3 f4; obtain ⟨c0, c1, c2, c3, c4⟩ := cells5 Z.out; obtain ⟨f0, f1, f2, f3, f4⟩ := froz5 Z.out
        refine hK.out _ _ ?_ (fun hHeld => ?_)
        · trivial
        clear HHeld; have HHeld := Lib.hid hHeld; clear hHeld
        clear hK K
        try simp only [pu, pn, s1, s2, s3]
        refine wpAnyH_ready (rs := [10]) (by kernel_rfl) (by simp) ?_
        refine AllReadyH.cons (o := { dst := none, op := Op.store 23 (Operand.tmp 14) (Operand.tmp 7), type := 0, pos := "inner.go:32", after := #[{ on := 9, ground := Ground.data }, { on := 2, ground := Ground.data }, { on := 8, ground := Ground.chain }, { on := 0, ground := Ground.phase }, { on := 1, ground := Ground.phase }, { on := 2, ground := Ground.phase }, { on := 3, ground := Ground.phase }, { on := 4, ground := Ground.phase }, { on := 5, ground := Ground.textOnly Departure.lateStoresUnsure }, { on := 6, ground := Ground.phase }, { on := 7, ground := Ground.phase }, { on := 8, ground := Ground.textOnly Departure.lateStoresUnsure }], guard := none }) rfl (fun K hK => ?_) AllReadyH.nil
        go_simp
        generalize hW : World.setCell _ _ _ = W1
        have HC := Lib.hid (show Chg (fun g => g = w.heap.size) _ W1 by rw [← hW]; exact Chg.set _ _ rfl)
        replace R60 := Lib.hid (R60.out.chgB HC.out (by omega)); replace R61 := Lib.hid (R61.out.chgB HC.out (by omega)); replace R62 := Lib.hid (R62.out.chgB HC.out (by omega)); have zz : W1.heap[w.heap.size]? = some (NO kd (.slice P2 n Pc2) (.slice J k kc) (.slice M m mc) (.slice B 0 bc)) := (by rw [← hW]; exact set5_1 Z.out _); replace Z := Lib.hid zz; replace Y := Lib.hid (keep_chg HC.out Y.out (by omega)); replace H0 := Lib.hid (bel_chg H0.out HC.out (Nat.le_refl _)); clear zz hW HC c0 c1 c2 c3 c4 f0 f1 f2 f3 f4; obtain ⟨c0, c1, c2, c3, c4⟩ := cells5 Z.out; obtain ⟨f0, f1, f2, f3, f4⟩ := froz5 Z.out
        refine hK.out _ _ ?_ (fun hHeld => ?_)
        · trivial
        clear HHeld; have HHeld := Lib.hid hHeld; clear hHeld
        clear hK K
        try simp only [pu, pn, s1, s2, s3]
        refine wT (i := 11) (oi := { dst := some 15, op := Op.fieldAddr 28 (Operand.tmp 1) 2, type := 0, pos := "inner.go:32", after := #[{ on := 0, ground := Ground.phase }, { on := 1, ground := Ground.phase }, { on := 2, ground := Ground.phase }, { on := 3, ground := Ground.phase }, { on := 4, ground := Ground.phase }, { on := 5, ground := Ground.phase }, { on := 6, ground := Ground.phase }, { on := 7, ground := Ground.phase }, { on := 8, ground := Ground.textOnly Departure.lateStoresUnsure }, { on := 9, ground := Ground.phase }, { on := 10, ground := Ground.phase }], guard := none }) (v := ?_) rfl (Or.inl ⟨by rfl, ?_⟩) HHeld.out ?_
        rotate_left
        · intro w hSw; clear hSw; go_simp; try with_reducible rfl
        try simp only [pu, pn, s1, s2, s3]
        refine wpAnyH_ready (rs := [12]) (by kernel_rfl) (by simp) ?_
        refine AllReadyH.cons (o := { dst := none, op := Op.store 24 (Operand.tmp 15) (Operand.tmp 10), type := 0, pos := "inner.go:32", after := #[{ on := 11, ground := Ground.data }, { on := 5, ground := Ground.data }, { on := 10, ground := Ground.chain }, { on := 0, ground := Ground.phase }, { on := 1, ground := Ground.phase }, { on := 2, ground := Ground.phase }, { on := 3, ground := Ground.phase }, { on := 4, ground := Ground.phase }, { on := 5, ground := Ground.phase }, { on := 6, ground := Ground.phase }, { on := 7, ground := Ground.phase }, { on := 8, ground := Ground.textOnly Departure.lateStoresUnsure }, { on := 9, ground := Ground.phase }, { on := 10, ground := Ground.phase }], guard := none }) rfl (fun K hK => ?_) AllReadyH.nil
        go_simp
        generalize hW : World.setCell _ _ _ = W2
        have HC := Lib.hid (show Chg (fun g => g = w.heap.size) _ W2 by rw [← hW]; exact Chg.set _ _ rfl)
        replace R60 := Lib.hid (R60.out.chgB HC.out (by omega)); replace R61 := Lib.hid (R61.out.chgB HC.out (by omega)); replace R62 := Lib.hid (R62.out.chgB HC.out (by omega)); have zz : W2.heap[w.heap.size]? = some (NO kd (.slice P2 n Pc2) (.slice J2 k Jc2) (.slice M m mc) (.slice B 0 bc)) := (by rw [← hW]; exact set5_2 Z.out _); replace Z := Lib.hid zz; replace Y := Lib.hid (keep_chg HC.out Y.out (by omega)); replace H0 := Lib.hid (bel_chg H0.out HC.out (Nat.le_refl _)); clear zz hW HC c0 c1 c2 c3 c4 f0 f1 f2 f3 f4; obtain ⟨c0, c1, c2, c3, c4⟩ := cells5 Z.out; obtain ⟨f0, f1, f2, f3, f4⟩ := froz5 Z.out
        refine hK.out _ _ ?_ (fun hHeld => ?_)
        · trivial
        clear HHeld; have HHeld := Lib.hid hHeld; clear hHeld
        clear hK K
        try simp only [pu, pn, s1, s2, s3]
        refine wT (i := 13) (oi := { dst := some 16, op := Op.fieldAddr 28 (Operand.tmp 1) 3, type := 0, pos := "inner.go:32", after := #[{ on := 0, ground := Ground.phase }, { on := 1, ground := Ground.phase }, { on := 2, ground := Ground.phase }, { on := 3, ground := Ground.phase }, { on := 4, ground := Ground.phase }, { on := 5, ground := Ground.phase }, { on := 6, ground := Ground.phase }, { on := 7, ground := Ground.phase }, { on := 8, ground := Ground.phase }, { on := 9, ground := Ground.phase }, { on := 10, ground := Ground.phase }, { on := 11, ground := Ground.phase }, { on := 12, ground := Ground.phase }], guard := none }) (v := ?_) rfl (Or.inl ⟨by rfl, ?_⟩) HHeld.out ?_
        rotate_left
        · intro w hSw; clear hSw; go_simp; try with_reducible rfl
        try simp only [pu, pn, s1, s2, s3]
        refine wpAnyH_ready (rs := [14]) (by kernel_rfl) (by simp) ?_
        refine AllReadyH.cons (o := { dst := none, op := Op.store 25 (Operand.tmp 16) (Operand.tmp 13), type := 0, pos := "inner.go:32", after := #[{ on := 13, ground := Ground.data }, { on := 8, ground := Ground.data }, { on := 12, ground := Ground.chain }, { on := 0, ground := Ground.phase }, { on := 1, ground := Ground.phase }, { on := 2, ground := Ground.phase }, { on := 3, ground := Ground.phase }, { on := 4, ground := Ground.phase }, { on := 5, ground := Ground.phase }, { on := 6, ground := Ground.phase }, { on := 7, ground := Ground.phase }, { on := 8, ground := Ground.phase }, { on := 9, ground := Ground.phase }, { on := 10, ground := Ground.phase }, { on := 11, ground := Ground.phase }, { on := 12, ground := Ground.phase }], guard := none }) rfl (fun K hK => ?_) AllReadyH.nil
        go_simp
        generalize hW : World.setCell _ _ _ = W3
        have HC := Lib.hid (show Chg (fun g => g = w.heap.size) _ W3 by rw [← hW]; exact Chg.set _ _ rfl)
        replace R60 := Lib.hid (R60.out.chgB HC.out (by omega)); replace R61 := Lib.hid (R61.out.chgB HC.out (by omega)); replace R62 := Lib.hid (R62.out.chgB HC.out (by omega)); have zz : W3.heap[w.heap.size]? = some (NO kd (.slice P2 n Pc2) (.slice J2 k Jc2) (.slice M2 m Mc2) (.slice B 0 bc)) := (by rw [← hW]; exact set5_3 Z.out _); replace Z := Lib.hid zz; replace Y := Lib.hid (keep_chg HC.out Y.out (by omega)); replace H0 := Lib.hid (bel_chg H0.out HC.out (Nat.le_refl _)); clear zz hW HC c0 c1 c2 c3 c4 f0 f1 f2 f3 f4; obtain ⟨c0, c1, c2, c3, c4⟩ := cells5 Z.out; obtain ⟨f0, f1, f2, f3, f4⟩ := froz5 Z.out
        refine hK.out _ _ ?_ (fun hHeld => ?_)
        · trivial
        clear HHeld; have HHeld := Lib.hid hHeld; clear hHeld
        clear hK K
        try simp only [pu, pn, s1, s2, s3]
        refine wpAnyH_done (by kernel_rfl) ?_ _
        clear HHeld
        exact CONT _ _ _ _ _ _ _ Z.out Y.out (R3.mk R60.out R61.out R62.out) H0.out
    · go_simp
      refine hK.out _ _ ?_ (fun hHeld => ?_)
      · trivial
      clear HHeld; have HHeld := Lib.hid hHeld; clear hHeld
      clear hK K
      try simp only [pu, pn, s1, s2, s3]
      refine wpAnyH_ready (rs := [2, 7]) (by kernel_rfl) (by simp) ?_
      refine AllReadyH.cons (o := { dst := some 7, op := Op.call { callee := Callee.value (Operand.func 48), args := #[Operand.tmp 6], argTypes := #[23] }, type := 23, pos := "inner.go:32", after := #[{ on := 1, ground := Ground.data }], guard := none }) rfl (fun K hK => ?_) (AllReadyH.cons (o := { dst := some 12, op := Op.load 25 (Operand.tmp 11), type := 25, pos := "inner.go:32", after := #[{ on := 6, ground := Ground.data }], guard := none }) rfl (fun K hK => ?_) AllReadyH.nil)
      · go_simp
        go_at_call 48
        with_reducible refine (C60.out _ H0.out).mono ?_
        rintro e w60 ⟨P2, Pc2, rfl, r, b⟩
        have R60 := Lib.hid (r.base Z0.out); have zz := keep_bel b Z.out; replace Z := Lib.hid zz; replace Y := Lib.hid (keep_bel b Y.out); replace H0 := Lib.hid (bel_trans H0.out b); replace Z0 := Lib.hid (Nat.le_trans Z0.out b.size); clear b r zz c0 c1 c2 c3 c4 f0 f1 f2 f3 f4; obtain ⟨c0, c1, c2, c3, c4⟩ := cells5 Z.out; obtain ⟨f0, f1, f2, f3, f4⟩ := froz5 Z.out
        refine hK.out _ _ ?_ (fun hHeld => ?_)
        · trivial
        clear HHeld; have HHeld := Lib.hid hHeld; clear hHeld
        clear hK K
        try simp only [pu, pn, s1, s2, s3]
        refine wpAnyH_ready (rs := [5, 7]) (by kernel_rfl) (by simp) ?_
        refine AllReadyH.cons (o := { dst := some 10, op := Op.call { callee := Callee.value (Operand.func 49), args := #[Operand.tmp 9], argTypes := #[24] }, type := 24, pos := "inner.go:32", after := #[{ on := 4, ground := Ground.data }, { on := 2, ground := Ground.chain }], guard := none }) rfl (fun K hK => ?_) (AllReadyH.cons (o := { dst := some 12, op := Op.load 25 (Operand.tmp 11), type := 25, pos := "inner.go:32", after := #[{ on := 6, ground := Ground.data }], guard := none }) rfl (fun K hK => ?_) AllReadyH.nil)
        · go_simp
          go_at_call 49
          with_reducible refine (C61.out _ H0.out).mono ?_
          rintro e w61 ⟨J2, Jc2, rfl, r, b⟩
          have R61 := Lib.hid (r.base Z0.out); replace R60 := Lib.hid (R60.out.later b); have zz := keep_bel b Z.out; replace Z := Lib.hid zz; replace Y := Lib.hid (keep_bel b Y.out); replace H0 := Lib.hid (bel_trans H0.out b); replace Z0 := Lib.hid (Nat.le_trans Z0.out b.size); clear b r zz c0 c1 c2 c3 c4 f0 f1 f2 f3 f4; obtain ⟨c0, c1, c2, c3, c4⟩ := cells5 Z.out; obtain ⟨f0, f1, f2, f3, f4⟩ := froz5 Z.out
          refine hK.out _ _ ?_ (fun hHeld => ?_)
          · trivial
          clear HHeld; have HHeld := Lib.hid hHeld; clear hHeld
          clear hK K
          try simp only [pu, pn, s1, s2, s3]
          refine wpAnyH_ready (rs := [7]) (by kernel_rfl) (by simp) ?_
          refine AllReadyH.cons (o := { dst := some 12, op := Op.load 25 (Operand.tmp 11), type := 25, pos := "inner.go:32", after := #[{ on := 6, ground := Ground.data }], guard := none }) rfl (fun K hK => ?_) AllReadyH.nil
          go_simp
          refine hK.out _ _ ?_ (fun hHeld => ?_)
          · trivial
          clear HHeld; have HHeld := Lib.hid hHeld; clear hHeld
          clear hK K
          try simp only [pu, pn, s1, s2, s3]
          refine wT (i := 9) (oi := { dst := some 14, op := Op.fieldAddr 28 (Operand.tmp 1) 1, type := 0, pos := "inner.go:32", after := #[{ on := 0, ground := Ground.phase }, { on := 1, ground := Ground.phase }, { on := 2, ground := Ground.phase }, { on := 3, ground := Ground.phase }, { on := 4, ground := Ground.phase }, { on := 5, ground := Ground.textOnly Departure.lateStoresUnsure }, { on := 6, ground := Ground.phase }, { on := 7, ground := Ground.phase }, { on := 8, ground := Ground.textOnly Departure.lateStoresUnsure }], guard := none }) (v := ?_) rfl (Or.inl ⟨by rfl, ?_⟩) HHeld.out ?_
          rotate_left
          · intro w hSw; clear hSw; go_simp; try with_reducible rfl
          try simp only [pu, pn, s1, s2, s3]
          refine wpAnyH_ready (rs := [8]) (by kernel_rfl) (by simp) ?_
          refine AllReadyH.cons (o := { dst := some 13, op := Op.call { callee := Callee.value (Operand.func 50), args := #[Operand.tmp 12], argTypes := #[25] }, type := 25, pos := "inner.go:32", after := #[{ on := 7, ground := Ground.data }, { on := 5, ground := Ground.chain }], guard := none }) rfl (fun K hK => ?_) AllReadyH.nil
          go_simp
          go_at_call 50
          with_reducible refine (C62.out _ H0.out).mono ?_
          rintro e w62 ⟨M2, Mc2, rfl, r, b⟩
          have R62 := Lib.hid (r.base Z0.out); replace R60 := Lib.hid (R60.out.later b); replace R61 := Lib.hid (R61.out.later b); have zz := keep_bel b Z.out; replace Z := Lib.hid zz; replace Y := Lib.hid (keep_bel b Y.out); replace H0 := Lib.hid (bel_trans H0.out b); replace Z0 := Lib.hid (Nat.le_trans Z0.out b.size); clear b r zz c0 c1 c2 c3 c4 f0 f1 f2 f3 f4; obtain ⟨c0, c1, c2, c3, c4⟩ := cells5 Z.out; obtain ⟨f0, f1, f2, f3, f4⟩ := froz5 Z.out
          refine hK.out _ _ ?_ (fun hHeld => ?_)
          · trivial
          clear HHeld; have HHeld := Lib.hid hHeld; clear hHeld
          clear hK K
          try simp only [pu, pn, s1, s2, s3]
          refine wpAnyH_ready (rs := [10]) (by kernel_rfl) (by simp) ?_
          refine AllReadyH.cons (o := { dst := none, op := Op.store 23 (Operand.tmp 14) (Operand.tmp 7), type := 0, pos := "inner.go:32", after := #[{ on := 9, ground := Ground.data }, { on := 2, ground := Ground.data }, { on := 8, ground := Ground.chain }, { on := 0, ground := Ground.phase }, { on := 1, ground := Ground.phase }, { on := 2, ground := Ground.phase }, { on := 3, ground := Ground.phase }, { on := 4, ground := Ground.phase }, { on := 5, ground := Ground.textOnly Departure.lateStoresUnsure }, { on := 6, ground := Ground.phase }, { on := 7, ground := Ground.phase }, { on := 8, ground := Ground.textOnly Departure.lateStoresUnsure }], guard := none }) rfl (fun K hK => ?_) AllReadyH.nil
          go_simp
          generalize hW : World.setCell _ _ _ = W1
          have HC := Lib.hid (show Chg (fun g => g = w.heap.size) _ W1 by rw [← hW]; exact Chg.set _ _ rfl)
          replace R60 := Lib.hid (R60.out.chgB HC.out (by omega)); replace R61 := Lib.hid (R61.out.chgB HC.out (by omega)); replace R62 := Lib.hid (R62.out.chgB HC.out (by omega)); have zz : W1.heap[w.heap.size]? = some (NO kd (.slice P2 n Pc2) (.slice J k kc) (.slice M m mc) (.slice B 0 bc)) := (by rw [← hW]; exact set5_1 Z.out _); replace Z := Lib.hid zz; replace Y := Lib.hid (keep_chg HC.out Y.out (by omega)); replace H0 := Lib.hid (bel_chg H0.out HC.out (Nat.le_refl _)); clear zz hW HC c0 c1 c2 c3 c4 f0 f1 f2 f3 f4; obtain ⟨c0, c1, c2, c3, c4⟩ := cells5 Z.out; obtain ⟨f0, f1, f2, f3, f4⟩ := froz5 Z.out
          refine hK.out _ _ ?_ (fun hHeld => ?_)
          · trivial
          clear HHeld; have HHeld := Lib.hid hHeld; clear hHeld
          clear hK K
          try simp only [pu, pn, s1, s2, s3]
          refine wT (i := 11) (oi := { dst := some 15, op := Op.fieldAddr 28 (Operand.tmp 1) 2, type := 0, pos := "inner.go:32", after := #[{ on := 0, ground := Ground.phase }, { on := 1, ground := Ground.phase }, { on := 2, ground := Ground.phase }, { on := 3, ground := Ground.phase }, { on := 4, ground := Ground.phase }, { on := 5, ground := Ground.phase }, { on := 6, ground := Ground.phase }, { on := 7, ground := Ground.phase }, { on := 8, ground := Ground.textOnly Departure.lateStoresUnsure }, { on := 9, ground := Ground.phase }, { on := 10, ground := Ground.phase }], guard := none }) (v := ?_) rfl (Or.inl ⟨by rfl, ?_⟩) HHeld.out ?_
          rotate_left
          · intro w hSw; clear hSw; go_simp; try with_reducible rfl
          try simp only [pu, pn, s1, s2, s3]
          refine wpAnyH_ready (rs := [12]) (by kernel_rfl) (by simp) ?_
          refine AllReadyH.cons (o := { dst := none, op := Op.store 24 (Operand.tmp 15) (Operand.tmp 10), type := 0, pos := "inner.go:32", after := #[{ on := 11, ground := Ground.data }, { on := 5, ground := Ground.data }, { on := 10, ground := Ground.chain }, { on := 0, ground := Ground.phase }, { on := 1, ground := Ground.phase }, { on := 2, ground := Ground.phase }, { on := 3, ground := Ground.phase }, { on := 4, ground := Ground.phase }, { on := 5, ground := Ground.phase }, { on := 6, ground := Ground.phase }, { on := 7, ground := Ground.phase }, { on := 8, ground := Ground.textOnly Departure.lateStoresUnsure }, { on := 9, ground := Ground.phase }, { on := 10, ground := Ground.phase }], guard := none }) rfl (fun K hK => ?_) AllReadyH.nil
          go_simp
          generalize hW : World.setCell _ _ _ = W2
          have HC := Lib.hid (show Chg (fun g => g = w.heap.size) _ W2 by rw [← hW]; exact Chg.set _ _ rfl)
          replace R60 := Lib.hid (R60.out.chgB HC.out (by omega)); replace R61 := Lib.hid (R61.out.chgB HC.out (by omega)); replace R62 := Lib.hid (R62.out.chgB HC.out (by omega)); have zz : W2.heap[w.heap.size]? = some (NO kd (.slice P2 n Pc2) (.slice J2 k Jc2) (.slice M m mc) (.slice B 0 bc)) := (by rw [← hW]; exact set5_2 Z.out _); replace Z := Lib.hid zz; replace Y := Lib.hid (keep_chg HC.out Y.out (by omega)); replace H0 := Lib.hid (bel_chg H0.out HC.out (Nat.le_refl _)); clear zz hW HC c0 c1 c2 c3 c4 f0 f1 f2 f3 f4; obtain ⟨c0, c1, c2, c3, c4⟩ := cells5 Z.out; obtain ⟨f0, f1, f2, f3, f4⟩ := froz5 Z.out
          refine hK.out _ _ ?_ (fun hHeld => ?_)
          · trivial
          clear HHeld; have HHeld := Lib.hid hHeld; clear hHeld
          clear hK K
          try simp only [pu, pn, s1, s2, s3]
          refine wT (i := 13) (oi := { dst := some 16, op := Op.fieldAddr 28 (Operand.tmp 1) 3, type := 0, pos := "inner.go:32", after := #[{ on := 0, ground := Ground.phase }, { on := 1, ground := Ground.phase }, { on := 2, ground := Ground.phase }, { on := 3, ground := Ground.phase }, { on := 4, ground := Ground.phase }, { on := 5, ground := Ground.phase }, { on := 6, ground := Ground.phase }, { on := 7, ground := Ground.phase }, { on := 8, ground := Ground.phase }, { on := 9, ground := Ground.phase }, { on := 10, ground := Ground.phase }, { on := 11, ground := Ground.phase }, { on := 12, ground := Ground.phase }], guard := none }) (v := ?_) rfl (Or.inl ⟨by rfl, ?_⟩) HHeld.out ?_
          rotate_left
          · intro w hSw; clear hSw; go_simp; try with_reducible rfl
          try simp only [pu, pn, s1, s2, s3]
          refine wpAnyH_ready (rs := [14]) (by kernel_rfl) (by simp) ?_
          refine AllReadyH.cons (o := { dst := none, op := Op.store 25 (Operand.tmp 16) (Operand.tmp 13), type := 0, pos := "inner.go:32", after := #[{ on := 13, ground := Ground.data }, { on := 8, ground := Ground.data }, { on := 12, ground := Ground.chain }, { on := 0, ground := Ground.phase }, { on := 1, ground := Ground.phase }, { on := 2, ground := Ground.phase }, { on := 3, ground := Ground.phase }, { on := 4, ground := Ground.phase }, { on := 5, ground := Ground.phase }, { on := 6, ground := Ground.phase }, { on := 7, ground := Ground.phase }, { on := 8, ground := Ground.phase }, { on := 9, ground := Ground.phase }, { on := 10, ground := Ground.phase }, { on := 11, ground := Ground.phase }, { on := 12, ground := Ground.phase }], guard := none }) rfl (fun K hK => ?_) AllReadyH.nil
          go_simp
          generalize hW : World.setCell _ _ _ = W3
          have HC := Lib.hid (show Chg (fun g => g = w.heap.size) _ W3 by rw [← hW]; exact Chg.set _ _ rfl)
          replace R60 := Lib.hid (R60.out.chgB HC.out (by omega)); replace R61 := Lib.hid (R61.out.chgB HC.out (by omega)); replace R62 := Lib.hid (R62.out.chgB HC.out (by omega)); have zz : W3.heap[w.heap.size]? = some (NO kd (.slice P2 n Pc2) (.slice J2 k Jc2) (.slice M2 m Mc2) (.slice B 0 bc)) := (by rw [← hW]; exact set5_3 Z.out _); replace Z := Lib.hid zz; replace Y := Lib.hid (keep_chg HC.out Y.out (by omega)); replace H0 := Lib.hid (bel_chg H0.out HC.out (Nat.le_refl _)); clear zz hW HC c0 c1 c2 c3 c4 f0 f1 f2 f3 f4; obtain ⟨c0, c1, c2, c3, c4⟩ := cells5 Z.out; obtain ⟨f0, f1, f2, f3, f4⟩ := froz5 Z.out
          refine hK.out _ _ ?_ (fun hHeld => ?_)
          · trivial
          clear HHeld; have HHeld := Lib.hid hHeld; clear hHeld
          clear hK K
          try simp only [pu, pn, s1, s2, s3]
          refine wpAnyH_done (by kernel_rfl) ?_ _
          clear HHeld
          exact CONT _ _ _ _ _ _ _ Z.out Y.out (R3.mk R60.out R61.out R62.out) H0.out
        · go_simp
          refine hK.out _ _ ?_ (fun hHeld => ?_)
          · trivial
          clear HHeld; have HHeld := Lib.hid hHeld; clear hHeld
          clear hK K
          try simp only [pu, pn, s1, s2, s3]
          refine wT (i := 9) (oi := { dst := some 14, op := Op.fieldAddr 28 (Operand.tmp 1) 1, type := 0, pos := "inner.go:32", after := #[{ on := 0, ground := Ground.phase }, { on := 1, ground := Ground.phase }, { on := 2, ground := Ground.phase }, { on := 3, ground := Ground.phase }, { on := 4, ground := Ground.phase }, { on := 5, ground := Ground.textOnly Departure.lateStoresUnsure }, { on := 6, ground := Ground.phase }, { on := 7, ground := Ground.phase }, { on := 8, ground := Ground.textOnly Departure.lateStoresUnsure }], guard := none }) (v := ?_) rfl (Or.inl ⟨by rfl, ?_⟩) HHeld.out ?_
          rotate_left
          · intro w hSw; clear hSw; go_simp; try with_reducible rfl
          try simp only [pu, pn, s1, s2, s3]
          refine wpAnyH_ready (rs := [5]) (by kernel_rfl) (by simp) ?_
          refine AllReadyH.cons (o := { dst := some 10, op := Op.call { callee := Callee.value (Operand.func 49), args := #[Operand.tmp 9], argTypes := #[24] }, type := 24, pos := "inner.go:32", after := #[{ on := 4, ground := Ground.data }, { on := 2, ground := Ground.chain }], guard := none }) rfl (fun K hK => ?_) AllReadyH.nil
          go_simp
          go_at_call 49
          with_reducible refine (C61.out _ H0.out).mono ?_
          rintro e w61 ⟨J2, Jc2, rfl, r, b⟩
          have R61 := Lib.hid (r.base Z0.out); replace R60 := Lib.hid (R60.out.later b); have zz := keep_bel b Z.out; replace Z := Lib.hid zz; replace Y := Lib.hid (keep_bel b Y.out); replace H0 := Lib.hid (bel_trans H0.out b); replace Z0 := Lib.hid (Nat.le_trans Z0.out b.size); clear b r zz c0 c1 c2 c3 c4 f0 f1 f2 f3 f4; obtain ⟨c0, c1, c2, c3, c4⟩ := cells5 Z.out; obtain ⟨f0, f1, f2, f3, f4⟩ := froz5 Z.out
          refine hK.out _ _ ?_ (fun hHeld => ?_)
          · trivial
          clear HHeld; have HHeld := Lib.hid hHeld; clear hHeld
          clear hK K
          try simp only [pu, pn, s1, s2, s3]
          refine wpAnyH_ready (rs := [8]) (by kernel_rfl) (by simp) ?_
          refine AllReadyH.cons (o := { dst := some 13, op := Op.call { callee := Callee.value (Operand.func 50), args := #[Operand.tmp 12], argTypes := #[25] }, type := 25, pos := "inner.go:32", after := #[{ on := 7, ground := Ground.data }, { on := 5, ground := Ground.chain }], guard := none }) rfl (fun K hK => ?_) AllReadyH.nil
          go_simp
          go_at_call 50
          with_reducible refine (C62.out _ H0.out).mono ?_
          rintro e w62 ⟨M2, Mc2, rfl, r, b⟩
          have R62 := Lib.hid (r.base Z0.out); replace R60 := Lib.hid (R60.out.later b); replace R61 := Lib.hid (R61.out.later b); have zz := keep_bel b Z.out; replace Z := Lib.hid zz; replace Y := Lib.hid (keep_bel b Y.out); replace H0 := Lib.hid (bel_trans H0.out b); replace Z0 := Lib.hid (Nat.le_trans Z0.out b.size); clear b r zz c0 c1 c2 c3 c4 f0 f1 f2 f3 f4; obtain ⟨c0, c1, c2, c3, c4⟩ := cells5 Z.out; obtain ⟨f0, f1, f2, f3, f4⟩ := froz5 Z.out
          refine hK.out _ _ ?_ (fun hHeld => ?_)
          · trivial
          clear HHeld; have HHeld := Lib.hid hHeld; clear hHeld
          clear hK K
          try simp only [pu, pn, s1, s2, s3]
          refine wpAnyH_ready (rs := [10]) (by kernel_rfl) (by simp) ?_
          refine AllReadyH.cons (o := { dst := none, op := Op.store 23 (Operand.tmp 14) (Operand.tmp 7), type := 0, pos := "inner.go:32", after := #[{ on := 9, ground := Ground.data }, { on := 2, ground := Ground.data }, { on := 8, ground := Ground.chain }, { on := 0, ground := Ground.phase }, { on := 1, ground := Ground.phase }, { on := 2, ground := Ground.phase }, { on := 3, ground := Ground.phase }, { on := 4, ground := Ground.phase }, { on := 5, ground := Ground.textOnly Departure.lateStoresUnsure }, { on := 6, ground := Ground.phase }, { on := 7, ground := Ground.phase }, { on := 8, ground := Ground.textOnly Departure.lateStoresUnsure }], guard := none }) rfl (fun K hK => ?_) AllReadyH.nil
          go_simp
          generalize hW : World.setCell _ _ _ = W1
          have HC := Lib.hid (show Chg (fun g => g = w.heap.size) _ W1 by rw [← hW]; exact Chg.set _ _ rfl)
          replace R60 := Lib.hid (R60.out.chgB HC.out (by omega)); replace R61 := Lib.hid (R61.out.chgB HC.out (by omega)); replace R62 := Lib.hid (R62.out.chgB HC.out (by omega)); have zz : W1.heap[w.heap.size]? = some (NO kd (.slice P2 n Pc2) (.slice J k kc) (.slice M m mc) (.slice B 0 bc)) := (by rw [← hW]; exact set5_1 Z.out _); replace Z := Lib.hid zz; replace Y := Lib.hid (keep_chg HC.out Y.out (by omega)); replace H0 := Lib.hid (bel_chg H0.out HC.out (Nat.le_refl _)); clear zz hW HC c0 c1 c2 c3 c4 f0 f1 f2 f3 f4; obtain ⟨c0, c1, c2, c3, c4⟩ := cells5 Z.out; obtain ⟨f0, f1, f2, f3, f4⟩ := froz5 Z.out
          refine hK.out _ _ ?_ (fun hHeld => ?_)
          · trivial
          clear HHeld; have HHeld := Lib.hid hHeld; clear hHeld
          clear hK K
          try simp only [pu, pn, s1, s2, s3]
          refine wT (i := 11) (oi := { dst := some 15, op := Op.fieldAddr 28 (Operand.tmp 1) 2, type := 0, pos := "inner.go:32", after := #[{ on := 0, ground := Ground.phase }, { on := 1, ground := Ground.phase }, { on := 2, ground := Ground.phase }, { on := 3, ground := Ground.phase }, { on := 4, ground := Ground.phase }, { on := 5, ground := Ground.phase }, { on := 6, ground := Ground.phase }, { on := 7, ground := Ground.phase }, { on := 8, ground := Ground.textOnly Departure.lateStoresUnsure }, { on := 9, ground := Ground.phase }, { on := 10, ground := Ground.phase }], guard := none }) (v := ?_) rfl (Or.inl ⟨by rfl, ?_⟩) HHeld.out ?_
          rotate_left
          · intro w hSw; clear hSw; go_simp; try with_reducible rfl
          try simp only [pu, pn, s1, s2, s3]
          refine wpAnyH_ready (rs := [12]) (by kernel_rfl) (by simp) ?_
          refine AllReadyH.cons (o := { dst := none, op := Op.store 24 (Operand.tmp 15) (Operand.tmp 10), type := 0, pos := "inner.go:32", after := #[{ on := 11, ground := Ground.data }, { on := 5, ground := Ground.data }, { on := 10, ground := Ground.chain }, { on := 0, ground := Ground.phase }, { on := 1, ground := Ground.phase }, { on := 2, ground := Ground.phase }, { on := 3, ground := Ground.phase }, { on := 4, ground := Ground.phase }, { on := 5, ground := Ground.phase }, { on := 6, ground := Ground.phase }, { on := 7, ground := Ground.phase }, { on := 8, ground := Ground.textOnly Departure.lateStoresUnsure }, { on := 9, ground := Ground.phase }, { on := 10, ground := Ground.phase }], guard := none }) rfl (fun K hK => ?_) AllReadyH.nil
          go_simp
          generalize hW : World.setCell _ _ _ = W2
          have HC := Lib.hid (show Chg (fun g => g = w.heap.size) _ W2 by rw [← hW]; exact Chg.set _ _ rfl)
          replace R60 := Lib.hid (R60.out.chgB HC.out (by omega)); replace R61 := Lib.hid (R61.out.chgB HC.out (by omega)); replace R62 := Lib.hid (R62.out.chgB HC.out (by omega)); have zz : W2.heap[w.heap.size]? = some (NO kd (.slice P2 n Pc2) (.slice J2 k Jc2) (.slice M m mc) (.slice B 0 bc)) := (by rw [← hW]; exact set5_2 Z.out _); replace Z := Lib.hid zz; replace Y := Lib.hid (keep_chg HC.out Y.out (by omega)); replace H0 := Lib.hid (bel_chg H0.out HC.out (Nat.le_refl _)); clear zz hW HC c0 c1 c2 c3 c4 f0 f1 f2 f3 f4; obtain ⟨c0, c1, c2, c3, c4⟩ := cells5 Z.out; obtain ⟨f0, f1, f2, f3, f4⟩ := froz5 Z.out
          refine hK.out _ _ ?_ (fun hHeld => ?_)
          · trivial
          clear HHeld; have HHeld := Lib.hid hHeld; clear hHeld
          clear hK K
          try simp only [pu, pn, s1, s2, s3]
          refine wT (i := 13) (oi := { dst := some 16, op := Op.fieldAddr 28 (Operand.tmp 1) 3, type := 0, pos := "inner.go:32", after := #[{ on := 0, ground := Ground.phase }, { on := 1, ground := Ground.phase }, { on := 2, ground := Ground.phase }, { on := 3, ground := Ground.phase }, { on := 4, ground := Ground.phase }, { on := 5, ground := Ground.phase }, { on := 6, ground := Ground.phase }, { on := 7, ground := Ground.phase }, { on := 8, ground := Ground.phase }, { on := 9, ground := Ground.phase }, { on := 10, ground := Ground.phase }, { on := 11, ground := Ground.phase }, { on := 12, ground := Ground.phase }], guard := none }) (v := ?_) rfl (Or.inl ⟨by rfl, ?_⟩) HHeld.out ?_
          rotate_left
          · intro w hSw; clear hSw; go_simp; try with_reducible rfl
          try simp only [pu, pn, s1, s2, s3]
          refine wpAnyH_ready (rs := [14]) (by kernel_rfl) (by simp) ?_
          refine AllReadyH.cons (o := { dst := none, op := Op.store 25 (Operand.tmp 16) (Operand.tmp 13), type := 0, pos := "inner.go:32", after := #[{ on := 13, ground := Ground.data }, { on := 8, ground := Ground.data }, { on := 12, ground := Ground.chain }, { on := 0, ground := Ground.phase }, { on := 1, ground := Ground.phase }, { on := 2, ground := Ground.phase }, { on := 3, ground := Ground.phase }, { on := 4, ground := Ground.phase }, { on := 5, ground := Ground.phase }, { on := 6, ground := Ground.phase }, { on := 7, ground := Ground.phase }, { on := 8, ground := Ground.phase }, { on := 9, ground := Ground.phase }, { on := 10, ground := Ground.phase }, { on := 11, ground := Ground.phase }, { on := 12, ground := Ground.phase }], guard := none }) rfl (fun K hK => ?_) AllReadyH.nil
          go_simp
          generalize hW : World.setCell _ _ _ = W3
          have HC := Lib.hid (show Chg (fun g => g = w.heap.size) _ W3 by rw [← hW]; exact Chg.set _ _ rfl)
          replace R60 := Lib.hid (R60.out.chgB HC.out (by omega)); replace R61 := Lib.hid (R61.out.chgB HC.out (by omega)); replace R62 := Lib.hid (R62.out.chgB HC.out (by omega)); have zz : W3.heap[w.heap.size]? = some (NO kd (.slice P2 n Pc2) (.slice J2 k Jc2) (.slice M2 m Mc2) (.slice B 0 bc)) := (by rw [← hW]; exact set5_3 Z.out _); replace Z := Lib.hid zz; replace Y := Lib.hid (keep_chg HC.out Y.out (by omega)); replace H0 := Lib.hid (bel_chg H0.out HC.out (Nat.le_refl _)); clear zz hW HC c0 c1 c2 c3 c4 f0 f1 f2 f3 f4; obtain ⟨c0, c1, c2, c3, c4⟩ := cells5 Z.out; obtain ⟨f0, f1, f2, f3, f4⟩ := froz5 Z.out
          refine hK.out _ _ ?_ (fun hHeld => ?_)
          · trivial
          clear HHeld; have HHeld := Lib.hid hHeld; clear hHeld
          clear hK K
          try simp only [pu, pn, s1, s2, s3]
          refine wpAnyH_done (by kernel_rfl) ?_ _
          clear HHeld
          exact CONT _ _ _ _ _ _ _ Z.out Y.out (R3.mk R60.out R61.out R62.out) H0.out
      · go_simp
        refine hK.out _ _ ?_ (fun hHeld => ?_)
        · trivial
        clear HHeld; have HHeld := Lib.hid hHeld; clear hHeld
        clear hK K
        try simp only [pu, pn, s1, s2, s3]
        refine wpAnyH_ready (rs := [2]) (by kernel_rfl) (by simp) ?_
        refine AllReadyH.cons (o := { dst := some 7, op := Op.call { callee := Callee.value (Operand.func 48), args := #[Operand.tmp 6], argTypes := #[23] }, type := 23, pos := "inner.go:32", after := #[{ on := 1, ground := Ground.data }], guard := none }) rfl (fun K hK => ?_) AllReadyH.nil
        go_simp
        go_at_call 48
        with_reducible refine (C60.out _ H0.out).mono ?_
        rintro e w60 ⟨P2, Pc2, rfl, r, b⟩
        have R60 := Lib.hid (r.base Z0.out); have zz := keep_bel b Z.out; replace Z := Lib.hid zz; replace Y := Lib.hid (keep_bel b Y.out); replace H0 := Lib.hid (bel_trans H0.out b); replace Z0 := Lib.hid (Nat.le_trans Z0.out b.size); clear b r zz c0 c1 c2 c3 c4 f0 f1 f2 f3 f4; obtain ⟨c0, c1, c2, c3, c4⟩ := cells5 Z.out; obtain ⟨f0, f1, f2, f3, f4⟩ := froz5 Z.out
        refine hK.out _ _ ?_ (fun hHeld => ?_)
        · trivial
        clear HHeld; have HHeld := Lib.hid hHeld; clear hHeld
        clear hK K
        try simp only [pu, pn, s1, s2, s3]
        refine wT (i := 9) (oi := { dst := some 14, op := Op.fieldAddr 28 (Operand.tmp 1) 1, type := 0, pos := "inner.go:32", after := #[{ on := 0, ground := Ground.phase }, { on := 1, ground := Ground.phase }, { on := 2, ground := Ground.phase }, { on := 3, ground := Ground.phase }, { on := 4, ground := Ground.phase }, { on := 5, ground := Ground.textOnly Departure.lateStoresUnsure }, { on := 6, ground := Ground.phase }, { on := 7, ground := Ground.phase }, { on := 8, ground := Ground.textOnly Departure.lateStoresUnsure }], guard := none }) (v := ?_) rfl (Or.inl ⟨by rfl, ?_⟩) HHeld.out ?_
        rotate_left
        · intro w hSw; clear hSw; go_simp; try with_reducible rfl
        try simp only [pu, pn, s1, s2, s3]
        refine wpAnyH_ready (rs := [5]) (by kernel_rfl) (by simp) ?_
        refine AllReadyH.cons (o := { dst := some 10, op := Op.call { callee := Callee.value (Operand.func 49), args := #[Operand.tmp 9], argTypes := #[24] }, type := 24, pos := "inner.go:32", after := #[{ on := 4, ground := Ground.data }, { on := 2, ground := Ground.chain }], guard := none }) rfl (fun K hK => ?_) AllReadyH.nil
        go_simp
        go_at_call 49
        with_reducible refine (C61.out _ H0.out).mono ?_
        rintro e w61 ⟨J2, Jc2, rfl, r, b⟩
        have R61 := Lib.hid (r.base Z0.out); replace R60 := Lib.hid (R60.out.later b); have zz := keep_bel b Z.out; replace Z := Lib.hid zz; replace Y := Lib.hid (keep_bel b Y.out); replace H0 := Lib.hid (bel_trans H0.out b); replace Z0 := Lib.hid (Nat.le_trans Z0.out b.size); clear b r zz c0 c1 c2 c3 c4 f0 f1 f2 f3 f4; obtain ⟨c0, c1, c2, c3, c4⟩ := cells5 Z.out; obtain ⟨f0, f1, f2, f3, f4⟩ := froz5 Z.out
        refine hK.out _ _ ?_ (fun hHeld => ?_)
        · trivial
        clear HHeld; have HHeld := Lib.hid hHeld; clear hHeld
        clear hK K
        try simp only [pu, pn, s1, s2, s3]
        refine wpAnyH_ready (rs := [8]) (by kernel_rfl) (by simp) ?_
        refine AllReadyH.cons (o := { dst := some 13, op := Op.call { callee := Callee.value (Operand.func 50), args := #[Operand.tmp 12], argTypes := #[25] }, type := 25, pos := "inner.go:32", after := #[{ on := 7, ground := Ground.data }, { on := 5, ground := Ground.chain }], guard := none }) rfl (fun K hK => ?_) AllReadyH.nil
        go_simp
        go_at_call 50
        with_reducible refine (C62.out _ H0.out).mono ?_
        rintro e w62 ⟨M2, Mc2, rfl, r, b⟩
        have R62 := Lib.hid (r.base Z0.out); replace R60 := Lib.hid (R60.out.later b); replace R61 := Lib.hid (R61.out.later b); have zz := keep_bel b Z.out; replace Z := Lib.hid zz; replace Y := Lib.hid (keep_bel b Y.out); replace H0 := Lib.hid (bel_trans H0.out b); replace Z0 := Lib.hid (Nat.le_trans Z0.out b.size); clear b r zz c0 c1 c2 c3 c4 f0 f1 f2 f3 f4; obtain ⟨c0, c1, c2, c3, c4⟩ := cells5 Z.out; obtain ⟨f0, f1, f2, f3, f4⟩ := froz5 Z.out
        refine hK.out _ _ ?_ (fun hHeld => ?_)
        · trivial
        clear HHeld; have HHeld := Lib.hid hHeld; clear hHeld
        clear hK K
        try simp only [pu, pn, s1, s2, s3]
        refine wpAnyH_ready (rs := [10]) (by kernel_rfl) (by simp) ?_
        refine AllReadyH.cons (o := { dst := none, op := Op.store 23 (Operand.tmp 14) (Operand.tmp 7), type := 0, pos := "inner.go:32", after := #[{ on := 9, ground := Ground.data }, { on := 2, ground := Ground.data }, { on := 8, ground := Ground.chain }, { on := 0, ground := Ground.phase }, { on := 1, ground := Ground.phase }, { on := 2, ground := Ground.phase }, { on := 3, ground := Ground.phase }, { on := 4, ground := Ground.phase }, { on := 5, ground := Ground.textOnly Departure.lateStoresUnsure }, { on := 6, ground := Ground.phase }, { on := 7, ground := Ground.phase }, { on := 8, ground := Ground.textOnly Departure.lateStoresUnsure }], guard := none }) rfl (fun K hK => ?_) AllReadyH.nil
        go_simp
        generalize hW : World.setCell _ _ _ = W1
        have HC := Lib.hid (show Chg (fun g => g = w.heap.size) _ W1 by rw [← hW]; exact Chg.set _ _ rfl)
        replace R60 := Lib.hid (R60.out.chgB HC.out (by omega)); replace R61 := Lib.hid (R61.out.chgB HC.out (by omega)); replace R62 := Lib.hid (R62.out.chgB HC.out (by omega)); have zz : W1.heap[w.heap.size]? = some (NO kd (.slice P2 n Pc2) (.slice J k kc) (.slice M m mc) (.slice B 0 bc)) := (by rw [← hW]; exact set5_1 Z.out _); replace Z := Lib.hid zz; replace Y := Lib.hid (keep_chg HC.out Y.out (by omega)); replace H0 := Lib.hid (bel_chg H0.out HC.out (Nat.le_refl _)); clear zz hW HC c0 c1 c2 c3 c4 f0 f1 f2 f3 f4; obtain ⟨c0, c1, c2, c3, c4⟩ := cells5 Z.out; obtain ⟨f0, f1, f2, f3, f4⟩ := froz5 Z.out
        refine hK.out _ _ ?_ (fun hHeld => ?_)
        · trivial
        clear HHeld; have HHeld := Lib.hid hHeld; clear hHeld
        clear hK K
        try simp only [pu, pn, s1, s2, s3]
        refine wT (i := 11) (oi := { dst := some 15, op := Op.fieldAddr 28 (Operand.tmp 1) 2, type := 0, pos := "inner.go:32", after := #[{ on := 0, ground := Ground.phase }, { on := 1, ground := Ground.phase }, { on := 2, ground := Ground.phase }, { on := 3, ground := Ground.phase }, { on := 4, ground := Ground.phase }, { on := 5, ground := Ground.phase }, { on := 6, ground := Ground.phase }, { on := 7, ground := Ground.phase }, { on := 8, ground := Ground.textOnly Departure.lateStoresUnsure }, { on := 9, ground := Ground.phase }, { on := 10, ground := Ground.phase }], guard := none }) (v := ?_) rfl (Or.inl ⟨by rfl, ?_⟩) HHeld.out ?_
        rotate_left
        · intro w hSw; clear hSw; go_simp; try with_reducible rfl
        try simp only [pu, pn, s1, s2, s3]
        refine wpAnyH_ready (rs := [12]) (by kernel_rfl) (by simp) ?_
        refine AllReadyH.cons (o := { dst := none, op := Op.store 24 (Operand.tmp 15) (Operand.tmp 10), type := 0, pos := "inner.go:32", after := #[{ on := 11, ground := Ground.data }, { on := 5, ground := Ground.data }, { on := 10, ground := Ground.chain }, { on := 0, ground := Ground.phase }, { on := 1, ground := Ground.phase }, { on := 2, ground := Ground.phase }, { on := 3, ground := Ground.phase }, { on := 4, ground := Ground.phase }, { on := 5, ground := Ground.phase }, { on := 6, ground := Ground.phase }, { on := 7, ground := Ground.phase }, { on := 8, ground := Ground.textOnly Departure.lateStoresUnsure }, { on := 9, ground := Ground.phase }, { on := 10, ground := Ground.phase }], guard := none }) rfl (fun K hK => ?_) AllReadyH.nil
        go_simp
        generalize hW : World.setCell _ _ _ = W2
        have HC := Lib.hid (show Chg (fun g => g = w.heap.size) _ W2 by rw [← hW]; exact Chg.set _ _ rfl)
        replace R60 := Lib.hid (R60.out.chgB HC.out (by omega)); replace R61 := Lib.hid (R61.out.chgB HC.out (by omega)); replace R62 := Lib.hid (R62.out.chgB HC.out (by omega)); have zz : W2.heap[w.heap.size]? = some (NO kd (.slice P2 n Pc2) (.slice J2 k Jc2) (.slice M m mc) (.slice B 0 bc)) := (by rw [← hW]; exact set5_2 Z.out _); replace Z := Lib.hid zz; replace Y := Lib.hid (keep_chg HC.out Y.out (by omega)); replace H0 := Lib.hid (bel_chg H0.out HC.out (Nat.le_refl _)); clear zz hW HC c0 c1 c2 c3 c4 f0 f1 f2 f3 f4; obtain ⟨c0, c1, c2, c3, c4⟩ := cells5 Z.out; obtain ⟨f0, f1, f2, f3, f4⟩ := froz5 Z.out
        refine hK.out _ _ ?_ (fun hHeld => ?_)
        · trivial
        clear HHeld; have HHeld := Lib.hid hHeld; clear hHeld
        clear hK K
        try simp only [pu, pn, s1, s2, s3]
        refine wT (i := 13) (oi := { dst := some 16, op := Op.fieldAddr 28 (Operand.tmp 1) 3, type := 0, pos := "inner.go:32", after := #[{ on := 0, ground := Ground.phase }, { on := 1, ground := Ground.phase }, { on := 2, ground := Ground.phase }, { on := 3, ground := Ground.phase }, { on := 4, ground := Ground.phase }, { on := 5, ground := Ground.phase }, { on := 6, ground := Ground.phase }, { on := 7, ground := Ground.phase }, { on := 8, ground := Ground.phase }, { on := 9, ground := Ground.phase }, { on := 10, ground := Ground.phase }, { on := 11, ground := Ground.phase }, { on := 12, ground := Ground.phase }], guard := none }) (v := ?_) rfl (Or.inl ⟨by rfl, ?_⟩) HHeld.out ?_
        rotate_left
        · intro w hSw; clear hSw; go_simp; try with_reducible rfl
        try simp only [pu, pn, s1, s2, s3]
        refine wpAnyH_ready (rs := [14]) (by kernel_rfl) (by simp) ?_
        refine AllReadyH.cons (o := { dst := none, op := Op.store 25 (Operand.tmp 16) (Operand.tmp 13), type := 0, pos := "inner.go:32", after := #[{ on := 13, ground := Ground.data }, { on := 8, ground := Ground.data }, { on := 12, ground := Ground.chain }, { on := 0, ground := Ground.phase }, { on := 1, ground := Ground.phase }, { on := 2, ground := Ground.phase }, { on := 3, ground := Ground.phase }, { on := 4, ground := Ground.phase }, { on := 5, ground := Ground.phase }, { on := 6, ground := Ground.phase }, { on := 7, ground := Ground.phase }, { on := 8, ground := Ground.phase }, { on := 9, ground := Ground.phase }, { on := 10, ground := Ground.phase }, { on := 11, ground := Ground.phase }, { on := 12, ground := Ground.phase }], guard := none }) rfl (fun K hK => ?_) AllReadyH.nil
        go_simp
        generalize hW : World.setCell _ _ _ = W3
        have HC := Lib.hid (show Chg (fun g => g = w.heap.size) _ W3 by rw [← hW]; exact Chg.set _ _ rfl)
        replace R60 := Lib.hid (R60.out.chgB HC.out (by omega)); replace R61 := Lib.hid (R61.out.chgB HC.out (by omega)); replace R62 := Lib.hid (R62.out.chgB HC.out (by omega)); have zz : W3.heap[w.heap.size]? = some (NO kd (.slice P2 n Pc2) (.slice J2 k Jc2) (.slice M2 m Mc2) (.slice B 0 bc)) := (by rw [← hW]; exact set5_3 Z.out _); replace Z := Lib.hid zz; replace Y := Lib.hid (keep_chg HC.out Y.out (by omega)); replace H0 := Lib.hid (bel_chg H0.out HC.out (Nat.le_refl _)); clear zz hW HC c0 c1 c2 c3 c4 f0 f1 f2 f3 f4; obtain ⟨c0, c1, c2, c3, c4⟩ := cells5 Z.out; obtain ⟨f0, f1, f2, f3, f4⟩ := froz5 Z.out
        refine hK.out _ _ ?_ (fun hHeld => ?_)
        · trivial
        clear HHeld; have HHeld := Lib.hid hHeld; clear hHeld
        clear hK K
        try simp only [pu, pn, s1, s2, s3]
        refine wpAnyH_done (by kernel_rfl) ?_ _
        clear HHeld
        exact CONT _ _ _ _ _ _ _ Z.out Y.out (R3.mk R60.out R61.out R62.out) H0.out
    · go_simp
      refine hK.out _ _ ?_ (fun hHeld => ?_)
      · trivial
      clear HHeld; have HHeld := Lib.hid hHeld; clear hHeld
      clear hK K
      try simp only [pu, pn, s1, s2, s3]
      refine wpAnyH_ready (rs := [2, 4]) (by kernel_rfl) (by simp) ?_
      refine AllReadyH.cons (o := { dst := some 7, op := Op.call { callee := Callee.value (Operand.func 48), args := #[Operand.tmp 6], argTypes := #[23] }, type := 23, pos := "inner.go:32", after := #[{ on := 1, ground := Ground.data }], guard := none }) rfl (fun K hK => ?_) (AllReadyH.cons (o := { dst := some 9, op := Op.load 24 (Operand.tmp 8), type := 24, pos := "inner.go:32", after := #[{ on := 3, ground := Ground.data }], guard := none }) rfl (fun K hK => ?_) AllReadyH.nil)
      · go_simp
        go_at_call 48
        with_reducible refine (C60.out _ H0.out).mono ?_
        rintro e w60 ⟨P2, Pc2, rfl, r, b⟩
        have R60 := Lib.hid (r.base Z0.out); have zz := keep_bel b Z.out; replace Z := Lib.hid zz; replace Y := Lib.hid (keep_bel b Y.out); replace H0 := Lib.hid (bel_trans H0.out b); replace Z0 := Lib.hid (Nat.le_trans Z0.out b.size); clear b r zz c0 c1 c2 c3 c4 f0 f1 f2 f3 f4; obtain ⟨c0, c1, c2, c3, c4⟩ := cells5 Z.out; obtain ⟨f0, f1, f2, f3, f4⟩ := froz5 Z.out
        refine hK.out _ _ ?_ (fun hHeld => ?_)
        · trivial
        clear HHeld; have HHeld := Lib.hid hHeld; clear hHeld
        clear hK K
        try simp only [pu, pn, s1, s2, s3]
        refine wpAnyH_ready (rs := [4]) (by kernel_rfl) (by simp) ?_
        refine AllReadyH.cons (o := { dst := some 9, op := Op.load 24 (Operand.tmp 8), type := 24, pos := "inner.go:32", after := #[{ on := 3, ground := Ground.data }], guard := none }) rfl (fun K hK => ?_) AllReadyH.nil
        go_simp
        refine hK.out _ _ ?_ (fun hHeld => ?_)
        · trivial
        clear HHeld; have HHeld := Lib.hid hHeld; clear hHeld
        clear hK K
        try simp only [pu, pn, s1, s2, s3]
        refine wT (i := 9) (oi := { dst := some 14, op := Op.fieldAddr 28 (Operand.tmp 1) 1, type := 0, pos := "inner.go:32", after := #[{ on := 0, ground := Ground.phase }, { on := 1, ground := Ground.phase }, { on := 2, ground := Ground.phase }, { on := 3, ground := Ground.phase }, { on := 4, ground := Ground.phase }, { on := 5, ground := Ground.textOnly Departure.lateStoresUnsure }, { on := 6, ground := Ground.phase }, { on := 7, ground := Ground.phase }, { on := 8, ground := Ground.textOnly Departure.lateStoresUnsure }], guard := none }) (v := ?_) rfl (Or.inl ⟨by rfl, ?_⟩) HHeld.out ?_
        rotate_left
        · intro w hSw; clear hSw; go_simp; try with_reducible rfl
        try simp only [pu, pn, s1, s2, s3]
        refine wpAnyH_ready (rs := [5]) (by kernel_rfl) (by simp) ?_
        refine AllReadyH.cons (o := { dst := some 10, op := Op.call { callee := Callee.value (Operand.func 49), args := #[Operand.tmp 9], argTypes := #[24] }, type := 24, pos := "inner.go:32", after := #[{ on := 4, ground := Ground.data }, { on := 2, ground := Ground.chain }], guard := none }) rfl (fun K hK => ?_) AllReadyH.nil
        go_simp
        go_at_call 49
        with_reducible refine (C61.out _ H0.out).mono ?_
        rintro e w61 ⟨J2, Jc2, rfl, r, b⟩
        have R61 := Lib.hid (r.base Z0.out); replace R60 := Lib.hid (R60.out.later b); have zz := keep_bel b Z.out; replace Z := Lib.hid zz; replace Y := Lib.hid (keep_bel b Y.out); replace H0 := Lib.hid (bel_trans H0.out b); replace Z0 := Lib.hid (Nat.le_trans Z0.out b.size); clear b r zz c0 c1 c2 c3 c4 f0 f1 f2 f3 f4; obtain ⟨c0, c1, c2, c3, c4⟩ := cells5 Z.out; obtain ⟨f0, f1, f2, f3, f4⟩ := froz5 Z.out
        refine hK.out _ _ ?_ (fun hHeld => ?_)
        · trivial
        clear HHeld; have HHeld := Lib.hid hHeld; clear hHeld
        clear hK K
        try simp only [pu, pn, s1, s2, s3]
        refine wpAnyH_ready (rs := [8]) (by kernel_rfl) (by simp) ?_
        refine AllReadyH.cons (o := { dst := some 13, op := Op.call { callee := Callee.value (Operand.func 50), args := #[Operand.tmp 12], argTypes := #[25] }, type := 25, pos := "inner.go:32", after := #[{ on := 7, ground := Ground.data }, { on := 5, ground := Ground.chain }], guard := none }) rfl (fun K hK => ?_) AllReadyH.nil
        go_simp
        go_at_call 50
        with_reducible refine (C62.out _ H0.out).mono ?_
        rintro e w62 ⟨M2, Mc2, rfl, r, b⟩
        have R62 := Lib.hid (r.base Z0.out); replace R60 := Lib.hid (R60.out.later b); replace R61 := Lib.hid (R61.out.later b); have zz := keep_bel b Z.out; replace Z := Lib.hid zz; replace Y := Lib.hid (keep_bel b Y.out); replace H0 := Lib.hid (bel_trans H0.out b); replace Z0 := Lib.hid (Nat.le_trans Z0.out b.size); clear b r zz c0 c1 c2 c3 c4 f0 f1 f2 f3 f4; obtain ⟨c0, c1, c2, c3, c4⟩ := cells5 Z.out; obtain ⟨f0, f1, f2, f3, f4⟩ := froz5 Z.out
        refine hK.out _ _ ?_ (fun hHeld => ?_)
        · trivial
        clear HHeld; have HHeld := Lib.hid hHeld; clear hHeld
        clear hK K
        try simp only [pu, pn, s1, s2, s3]
        refine wpAnyH_ready (rs := [10]) (by kernel_rfl) (by simp) ?_
        refine AllReadyH.cons (o := { dst := none, op := Op.store 23 (Operand.tmp 14) (Operand.tmp 7), type := 0, pos := "inner.go:32", after := #[{ on := 9, ground := Ground.data }, { on := 2, ground := Ground.data }, { on := 8, ground := Ground.chain }, { on := 0, ground := Ground.phase }, { on := 1, ground := Ground.phase }, { on := 2, ground := Ground.phase }, { on := 3, ground := Ground.phase }, { on := 4, ground := Ground.phase }, { on := 5, ground := Ground.textOnly Departure.lateStoresUnsure }, { on := 6, ground := Ground.phase }, { on := 7, ground := Ground.phase }, { on := 8, ground := Ground.textOnly Departure.lateStoresUnsure }], guard := none }) rfl (fun K hK => ?_) AllReadyH.nil
        go_simp
        generalize hW : World.setCell _ _ _ = W1
        have HC := Lib.hid (show Chg (fun g => g = w.heap.size) _ W1 by rw [← hW]; exact Chg.set _ _ rfl)
        replace R60 := Lib.hid (R60.out.chgB HC.out (by omega)); replace R61 := Lib.hid (R61.out.chgB HC.out (by omega)); replace R62 := Lib.hid (R62.out.chgB HC.out (by omega)); have zz : W1.heap[w.heap.size]? = some (NO kd (.slice P2 n Pc2) (.slice J k kc) (.slice M m mc) (.slice B 0 bc)) := (by rw [← hW]; exact set5_1 Z.out _); replace Z := Lib.hid zz; replace Y := Lib.hid (keep_chg HC.out Y.out (by omega)); replace H0 := Lib.hid (bel_chg H0.out HC.out (Nat.le_refl _)); clear zz hW HC c0 c1 c2 c3 c4 f0 f1 f2 f3 f4; obtain ⟨c0, c1, c2, c3, c4⟩ := cells5 Z.out; obtain ⟨f0, f1, f2, f3, f4⟩ := froz5 Z.out
        refine hK.out _ _ ?_ (fun hHeld => ?_)
        · trivial
        clear HHeld; have HHeld := Lib.hid hHeld; clear hHeld
        clear hK K
        try simp only [pu, pn, s1, s2, s3]
        refine wT (i := 11) (oi := { dst := some 15, op := Op.fieldAddr 28 (Operand.tmp 1) 2, type := 0, pos := "inner.go:32", after := #[{ on := 0, ground := Ground.phase }, { on := 1, ground := Ground.phase }, { on := 2, ground := Ground.phase }, { on := 3, ground := Ground.phase }, { on := 4, ground := Ground.phase }, { on := 5, ground := Ground.phase }, { on := 6, ground := Ground.phase }, { on := 7, ground := Ground.phase }, { on := 8, ground := Ground.textOnly Departure.lateStoresUnsure }, { on := 9, ground := Ground.phase }, { on := 10, ground := Ground.phase }], guard := none }) (v := ?_) rfl (Or.inl ⟨by rfl, ?_⟩) HHeld.out ?_
        rotate_left
        · intro w hSw; clear hSw; go_simp; try with_reducible rfl
        try simp only [pu, pn, s1, s2, s3]
        refine wpAnyH_ready (rs := [12]) (by kernel_rfl) (by simp) ?_
        refine AllReadyH.cons (o := { dst := none, op := Op.store 24 (Operand.tmp 15) (Operand.tmp 10), type := 0, pos := "inner.go:32", after := #[{ on := 11, ground := Ground.data }, { on := 5, ground := Ground.data }, { on := 10, ground := Ground.chain }, { on := 0, ground := Ground.phase }, { on := 1, ground := Ground.phase }, { on := 2, ground := Ground.phase }, { on := 3, ground := Ground.phase }, { on := 4, ground := Ground.phase }, { on := 5, ground := Ground.phase }, { on := 6, ground := Ground.phase }, { on := 7, ground := Ground.phase }, { on := 8, ground := Ground.textOnly Departure.lateStoresUnsure }, { on := 9, ground := Ground.phase }, { on := 10, ground := Ground.phase }], guard := none }) rfl (fun K hK => ?_) AllReadyH.nil
        go_simp
        generalize hW : World.setCell _ _ _ = W2
        have HC := Lib.hid (show Chg (fun g => g = w.heap.size) _ W2 by rw [← hW]; exact Chg.set _ _ rfl)
        replace R60 := Lib.hid (R60.out.chgB HC.out (by omega)); replace R61 := Lib.hid (R61.out.chgB HC.out (by omega)); replace R62 := Lib.hid (R62.out.chgB HC.out (by omega)); have zz : W2.heap[w.heap.size]? = some (NO kd (.slice P2 n Pc2) (.slice J2 k Jc2) (.slice M m mc) (.slice B 0 bc)) := (by rw [← hW]; exact set5_2 Z.out _); replace Z := Lib.hid zz; replace Y := Lib.hid (keep_chg HC.out Y.out (by omega)); replace H0 := Lib.hid (bel_chg H0.out HC.out (Nat.le_refl _)); clear zz hW HC c0 c1 c2 c3 c4 f0 f1 f2 f3 f4; obtain ⟨c0, c1, c2, c3, c4⟩ := cells5 Z.out; obtain ⟨f0, f1, f2, f3, f4⟩ := froz5 Z.out
        refine hK.out _ _ ?_ (fun hHeld => ?_)
        · trivial
        clear HHeld; have HHeld := Lib.hid hHeld; clear hHeld
        clear hK K
        try simp only [pu, pn, s1, s2, s3]
        refine wT (i := 13) (oi := { dst := some 16, op := Op.fieldAddr 28 (Operand.tmp 1) 3, type := 0, pos := "inner.go:32", after := #[{ on := 0, ground := Ground.phase }, { on := 1, ground := Ground.phase }, { on := 2, ground := Ground.phase }, { on := 3, ground := Ground.phase }, { on := 4, ground := Ground.phase }, { on := 5, ground := Ground.phase }, { on := 6, ground := Ground.phase }, { on := 7, ground := Ground.phase }, { on := 8, ground := Ground.phase }, { on := 9, ground := Ground.phase }, { on := 10, ground := Ground.phase }, { on := 11, ground := Ground.phase }, { on := 12, ground := Ground.phase }], guard := none }) (v := ?_) rfl (Or.inl ⟨by rfl, ?_⟩) HHeld.out ?_
        rotate_left
        · intro w hSw; clear hSw; go_simp; try with_reducible rfl
        try simp only [pu, pn, s1, s2, s3]
        refine wpAnyH_ready (rs := [14]) (by kernel_rfl) (by simp) ?_
        refine AllReadyH.cons (o := { dst := none, op := Op.store 25 (Operand.tmp 16) (Operand.tmp 13), type := 0, pos := "inner.go:32", after := #[{ on := 13, ground := Ground.data }, { on := 8, ground := Ground.data }, { on := 12, ground := Ground.chain }, { on := 0, ground := Ground.phase }, { on := 1, ground := Ground.phase }, { on := 2, ground := Ground.phase }, { on := 3, ground := Ground.phase }, { on := 4, ground := Ground.phase }, { on := 5, ground := Ground.phase }, { on := 6, ground := Ground.phase }, { on := 7, ground := Ground.phase }, { on := 8, ground := Ground.phase }, { on := 9, ground := Ground.phase }, { on := 10, ground := Ground.phase }, { on := 11, ground := Ground.phase }, { on := 12, ground := Ground.phase }], guard := none }) rfl (fun K hK => ?_) AllReadyH.nil
        go_simp
        generalize hW : World.setCell _ _ _ = W3
        have HC := Lib.hid (show Chg (fun g => g = w.heap.size) _ W3 by rw [← hW]; exact Chg.set _ _ rfl)
        replace R60 := Lib.hid (R60.out.chgB HC.out (by omega)); replace R61 := Lib.hid (R61.out.chgB HC.out (by omega)); replace R62 := Lib.hid (R62.out.chgB HC.out (by omega)); have zz : W3.heap[w.heap.size]? = some (NO kd (.slice P2 n Pc2) (.slice J2 k Jc2) (.slice M2 m Mc2) (.slice B 0 bc)) := (by rw [← hW]; exact set5_3 Z.out _); replace Z := Lib.hid zz; replace Y := Lib.hid (keep_chg HC.out Y.out (by omega)); replace H0 := Lib.hid (bel_chg H0.out HC.out (Nat.le_refl _)); clear zz hW HC c0 c1 c2 c3 c4 f0 f1 f2 f3 f4; obtain ⟨c0, c1, c2, c3, c4⟩ := cells5 Z.out; obtain ⟨f0, f1, f2, f3, f4⟩ := froz5 Z.out
        refine hK.out _ _ ?_ (fun hHeld => ?_)
        · trivial
        clear HHeld; have HHeld := Lib.hid hHeld; clear hHeld
        clear hK K
        try simp only [pu, pn, s1, s2, s3]
        refine wpAnyH_done (by kernel_rfl) ?_ _
        clear HHeld
        exact CONT _ _ _ _ _ _ _ Z.out Y.out (R3.mk R60.out R61.out R62.out) H0.out
      · go_simp
        refine hK.out _ _ ?_ (fun hHeld => ?_)
        · trivial
        clear HHeld; have HHeld := Lib.hid hHeld; clear hHeld
        clear hK K
        try simp only [pu, pn, s1, s2, s3]
        refine wpAnyH_ready (rs := [2]) (by kernel_rfl) (by simp) ?_
        refine AllReadyH.cons (o := { dst := some 7, op := Op.call { callee := Callee.value (Operand.func 48), args := #[Operand.tmp 6], argTypes := #[23] }, type := 23, pos := "inner.go:32", after := #[{ on := 1, ground := Ground.data }], guard := none }) rfl (fun K hK => ?_) AllReadyH.nil
        go_simp
        go_at_call 48
        with_reducible refine (C60.out _ H0.out).mono ?_
        rintro e w60 ⟨P2, Pc2, rfl, r, b⟩
        have R60 := Lib.hid (r.base Z0.out); have zz := keep_bel b Z.out; replace Z := Lib.hid zz; replace Y := Lib.hid (keep_bel b Y.out); replace H0 := Lib.hid (bel_trans H0.out b); replace Z0 := Lib.hid (Nat.le_trans Z0.out b.size); clear b r zz c0 c1 c2 c3 c4 f0 f1 f2 f3 f4; obtain ⟨c0, c1, c2, c3, c4⟩ := cells5 Z.out; obtain ⟨f0, f1, f2, f3, f4⟩ := froz5 Z.out
        refine hK.out _ _ ?_ (fun hHeld => ?_)
        · trivial
        clear HHeld; have HHeld := Lib.hid hHeld; clear hHeld
        clear hK K
        try simp only [pu, pn, s1, s2, s3]
        refine wT (i := 9) (oi := { dst := some 14, op := Op.fieldAddr 28 (Operand.tmp 1) 1, type := 0, pos := "inner.go:32", after := #[{ on := 0, ground := Ground.phase }, { on := 1, ground := Ground.phase }, { on := 2, ground := Ground.phase }, { on := 3, ground := Ground.phase }, { on := 4, ground := Ground.phase }, { on := 5, ground := Ground.textOnly Departure.lateStoresUnsure }, { on := 6, ground := Ground.phase }, { on := 7, ground := Ground.phase }, { on := 8, ground := Ground.textOnly Departure.lateStoresUnsure }], guard := none }) (v := ?_) rfl (Or.inl ⟨by rfl, ?_⟩) HHeld.out ?_
        rotate_left
        · intro w hSw; clear hSw; go_simp; try with_reducible rfl
        try simp only [pu, pn, s1, s2, s3]
        refine wpAnyH_ready (rs := [5]) (by kernel_rfl) (by simp) ?_
        refine AllReadyH.cons (o := { dst := some 10, op := Op.call { callee := Callee.value (Operand.func 49), args := #[Operand.tmp 9], argTypes := #[24] }, type := 24, pos := "inner.go:32", after := #[{ on := 4, ground := Ground.data }, { on := 2, ground := Ground.chain }], guard := none }) rfl (fun K hK => ?_) AllReadyH.nil
        go_simp
        go_at_call 49
        with_reducible refine (C61.out _ H0.out).mono ?_
        rintro e w61 ⟨J2, Jc2, rfl, r, b⟩
        have R61 := Lib.hid (r.base Z0.out); replace R60 := Lib.hid (R60.out.later b); have zz := keep_bel b Z.out; replace Z := Lib.hid zz; replace Y := Lib.hid (keep_bel b Y.out); replace H0 := Lib.hid (bel_trans H0.out b); replace Z0 := Lib.hid (Nat.le_trans Z0.out b.size); clear b r zz c0 c1 c2 c3 c4 f0 f1 f2 f3 f4; obtain ⟨c0, c1, c2, c3, c4⟩ := cells5 Z.out; obtain ⟨f0, f1, f2, f3, f4⟩ := froz5 Z.out
        refine hK.out _ _ ?_ (fun hHeld => ?_)
        · trivial
        clear HHeld; have HHeld := Lib.hid hHeld; clear hHeld
        clear hK K
        try simp only [pu, pn, s1, s2, s3]
        refine wpAnyH_ready (rs := [8]) (by kernel_rfl) (by simp) ?_
        refine AllReadyH.cons (o := { dst := some 13, op := Op.call { callee := Callee.value (Operand.func 50), args := #[Operand.tmp 12], argTypes := #[25] }, type := 25, pos := "inner.go:32", after := #[{ on := 7, ground := Ground.data }, { on := 5, ground := Ground.chain }], guard := none }) rfl (fun K hK => ?_) AllReadyH.nil
        go_simp
        go_at_call 50
        with_reducible refine (C62.out _ H0.out).mono ?_
        rintro e w62 ⟨M2, Mc2, rfl, r, b⟩
        have R62 := Lib.hid (r.base Z0.out); replace R60 := Lib.hid (R60.out.later b); replace R61 := Lib.hid (R61.out.later b); have zz := keep_bel b Z.out; replace Z := Lib.hid zz; replace Y := Lib.hid (keep_bel b Y.out); replace H0 := Lib.hid (bel_trans H0.out b); replace Z0 := Lib.hid (Nat.le_trans Z0.out b.size); clear b r zz c0 c1 c2 c3 c4 f0 f1 f2 f3 f4; obtain ⟨c0, c1, c2, c3, c4⟩ := cells5 Z.out; obtain ⟨f0, f1, f2, f3, f4⟩ := froz5 Z.out
        refine hK.out _ _ ?_ (fun hHeld => ?_)
        · trivial
        clear HHeld; have HHeld := Lib.hid hHeld; clear hHeld
        clear hK K
        try simp only [pu, pn, s1, s2, s3]
        refine wpAnyH_ready (rs := [10]) (by kernel_rfl) (by simp) ?_
        refine AllReadyH.cons (o := { dst := none, op := Op.store 23 (Operand.tmp 14) (Operand.tmp 7), type := 0, pos := "inner.go:32", after := #[{ on := 9, ground := Ground.data }, { on := 2, ground := Ground.data }, { on := 8, ground := Ground.chain }, { on := 0, ground := Ground.phase }, { on := 1, ground := Ground.phase }, { on := 2, ground := Ground.phase }, { on := 3, ground := Ground.phase }, { on := 4, ground := Ground.phase }, { on := 5, ground := Ground.textOnly Departure.lateStoresUnsure }, { on := 6, ground := Ground.phase }, { on := 7, ground := Ground.phase }, { on := 8, ground := Ground.textOnly Departure.lateStoresUnsure }], guard := none }) rfl (fun K hK => ?_) AllReadyH.nil
        go_simp
        generalize hW : World.setCell _ _ _ = W1
        have HC := Lib.hid (show Chg (fun g => g = w.heap.size) _ W1 by rw [← hW]; exact Chg.set _ _ rfl)
        replace R60 := Lib.hid (R60.out.chgB HC.out (by omega)); replace R61 := Lib.hid (R61.out.chgB HC.out (by omega)); replace R62 := Lib.hid (R62.out.chgB HC.out (by omega)); have zz : W1.heap[w.heap.size]? = some (NO kd (.slice P2 n Pc2) (.slice J k kc) (.slice M m mc) (.slice B 0 bc)) := (by rw [← hW]; exact set5_1 Z.out _); replace Z := Lib.hid zz; replace Y := Lib.hid (keep_chg HC.out Y.out (by omega)); replace H0 := Lib.hid (bel_chg H0.out HC.out (Nat.le_refl _)); clear zz hW HC c0 c1 c2 c3 c4 f0 f1 f2 f3 f4; obtain ⟨c0, c1, c2, c3, c4⟩ := cells5 Z.out; obtain ⟨f0, f1, f2, f3, f4⟩ := froz5 Z.out
        refine hK.out _ _ ?_ (fun hHeld => ?_)
        · trivial
        clear HHeld; have HHeld := Lib.hid hHeld; clear hHeld
        clear hK K
        try simp only [pu, pn, s1, s2, s3]
        refine wT (i := 11) (oi := { dst := some 15, op := Op.fieldAddr 28 (Operand.tmp 1) 2, type := 0, pos := "inner.go:32", after := #[{ on := 0, ground := Ground.phase }, { on := 1, ground := Ground.phase }, { on := 2, ground := Ground.phase }, { on := 3, ground := Ground.phase }, { on := 4, ground := Ground.phase }, { on := 5, ground := Ground.phase }, { on := 6, ground := Ground.phase }, { on := 7, ground := Ground.phase }, { on := 8, ground := Ground.textOnly Departure.lateStoresUnsure }, { on := 9, ground := Ground.phase }, { on := 10, ground := Ground.phase }], guard := none }) (v := ?_) rfl (Or.inl ⟨by rfl, ?_⟩) HHeld.out ?_
        rotate_left
        · intro w hSw; clear hSw; go_simp; try with_reducible rfl
        try simp only [pu, pn, s1, s2, s3]
        refine wpAnyH_ready (rs := [12]) (by kernel_rfl) (by simp) ?_
        refine AllReadyH.cons (o := { dst := none, op := Op.store 24 (Operand.tmp 15) (Operand.tmp 10), type := 0, pos := "inner.go:32", after := #[{ on := 11, ground := Ground.data }, { on := 5, ground := Ground.data }, { on := 10, ground := Ground.chain }, { on := 0, ground := Ground.phase }, { on := 1, ground := Ground.phase }, { on := 2, ground := Ground.phase }, { on := 3, ground := Ground.phase }, { on := 4, ground := Ground.phase }, { on := 5, ground := Ground.phase }, { on := 6, ground := Ground.phase }, { on := 7, ground := Ground.phase }, { on := 8, ground := Ground.textOnly Departure.lateStoresUnsure }, { on := 9, ground := Ground.phase }, { on := 10, ground := Ground.phase }], guard := none }) rfl (fun K hK => ?_) AllReadyH.nil
        go_simp
        generalize hW : World.setCell _ _ _ = W2
        have HC := Lib.hid (show Chg (fun g => g = w.heap.size) _ W2 by rw [← hW]; exact Chg.set _ _ rfl)
        replace R60 := Lib.hid (R60.out.chgB HC.out (by omega)); replace R61 := Lib.hid (R61.out.chgB HC.out (by omega)); replace R62 := Lib.hid (R62.out.chgB HC.out (by omega)); have zz : W2.heap[w.heap.size]? = some (NO kd (.slice P2 n Pc2) (.slice J2 k Jc2) (.slice M m mc) (.slice B 0 bc)) := (by rw [← hW]; exact set5_2 Z.out _); replace Z := Lib.hid zz; replace Y := Lib.hid (keep_chg HC.out Y.out (by omega)); replace H0 := Lib.hid (bel_chg H0.out HC.out (Nat.le_refl _)); clear zz hW HC c0 c1 c2 c3 c4 f0 f1 f2 f3 f4; obtain ⟨c0, c1, c2, c3, c4⟩ := cells5 Z.out; obtain ⟨f0, f1, f2, f3, f4⟩ := froz5 Z.out
        refine hK.out _ _ ?_ (fun hHeld => ?_)
        · trivial
        clear HHeld; have HHeld := Lib.hid hHeld; clear hHeld
        clear hK K
        try simp only [pu, pn, s1, s2, s3]
        refine wT (i := 13) (oi := { dst := some 16, op := Op.fieldAddr 28 (Operand.tmp 1) 3, type := 0, pos := "inner.go:32", after := #[{ on := 0, ground := Ground.phase }, { on := 1, ground := Ground.phase }, { on := 2, ground := Ground.phase }, { on := 3, ground := Ground.phase }, { on := 4, ground := Ground.phase }, { on := 5, ground := Ground.phase }, { on := 6, ground := Ground.phase }, { on := 7, ground := Ground.phase }, { on := 8, ground := Ground.phase }, { on := 9, ground := Ground.phase }, { on := 10, ground := Ground.phase }, { on := 11, ground := Ground.phase }, { on := 12, ground := Ground.phase }], guard := none }) (v := ?_) rfl (Or.inl ⟨by rfl, ?_⟩) HHeld.out ?_
        rotate_left
        · intro w hSw; clear hSw; go_simp; try with_reducible rfl
        try simp only [pu, pn, s1, s2, s3]
        refine wpAnyH_ready (rs := [14]) (by kernel_rfl) (by simp) ?_
        refine AllReadyH.cons (o := { dst := none, op := Op.store 25 (Operand.tmp 16) (Operand.tmp 13), type := 0, pos := "inner.go:32", after := #[{ on := 13, ground := Ground.data }, { on := 8, ground := Ground.data }, { on := 12, ground := Ground.chain }, { on := 0, ground := Ground.phase }, { on := 1, ground := Ground.phase }, { on := 2, ground := Ground.phase }, { on := 3, ground := Ground.phase }, { on := 4, ground := Ground.phase }, { on := 5, ground := Ground.phase }, { on := 6, ground := Ground.phase }, { on := 7, ground := Ground.phase }, { on := 8, ground := Ground.phase }, { on := 9, ground := Ground.phase }, { on := 10, ground := Ground.phase }, { on := 11, ground := Ground.phase }, { on := 12, ground := Ground.phase }], guard := none }) rfl (fun K hK => ?_) AllReadyH.nil
        go_simp
        generalize hW : World.setCell _ _ _ = W3
        have HC := Lib.hid (show Chg (fun g => g = w.heap.size) _ W3 by rw [← hW]; exact Chg.set _ _ rfl)
        replace R60 := Lib.hid (R60.out.chgB HC.out (by omega)); replace R61 := Lib.hid (R61.out.chgB HC.out (by omega)); replace R62 := Lib.hid (R62.out.chgB HC.out (by omega)); have zz : W3.heap[w.heap.size]? = some (NO kd (.slice P2 n Pc2) (.slice J2 k Jc2) (.slice M2 m Mc2) (.slice B 0 bc)) := (by rw [← hW]; exact set5_3 Z.out _); replace Z := Lib.hid zz; replace Y := Lib.hid (keep_chg HC.out Y.out (by omega)); replace H0 := Lib.hid (bel_chg H0.out HC.out (Nat.le_refl _)); clear zz hW HC c0 c1 c2 c3 c4 f0 f1 f2 f3 f4; obtain ⟨c0, c1, c2, c3, c4⟩ := cells5 Z.out; obtain ⟨f0, f1, f2, f3, f4⟩ := froz5 Z.out
        refine hK.out _ _ ?_ (fun hHeld => ?_)
        · trivial
        clear HHeld; have HHeld := Lib.hid hHeld; clear hHeld
        clear hK K
        try simp only [pu, pn, s1, s2, s3]
        refine wpAnyH_done (by kernel_rfl) ?_ _
        clear HHeld
        exact CONT _ _ _ _ _ _ _ Z.out Y.out (R3.mk R60.out R61.out R62.out) H0.out
  · go_simp
    refine hK.out _ _ ?_ (fun hHeld => ?_)
    · trivial
    clear HHeld; have HHeld := Lib.hid hHeld; clear hHeld
    clear hK K
    try simp only [pu, pn, s1, s2, s3]
    refine wpAnyH_ready (rs := [1, 7]) (by kernel_rfl) (by simp) ?_
    refine AllReadyH.cons (o := { dst := some 6, op := Op.load 23 (Operand.tmp 5), type := 23, pos := "inner.go:32", after := #[{ on := 0, ground := Ground.data }], guard := none }) rfl (fun K hK => ?_) (AllReadyH.cons (o := { dst := some 12, op := Op.load 25 (Operand.tmp 11), type := 25, pos := "inner.go:32", after := #[{ on := 6, ground := Ground.data }], guard := none }) rfl (fun K hK => ?_) AllReadyH.nil)
    · go_simp
      refine hK.out _ _ ?_ (fun hHeld => ?_)
      · trivial
      clear HHeld; have HHeld := Lib.hid hHeld; clear hHeld
      clear hK K
      try simp only [pu, pn, s1, s2, s3]
      refine wpAnyH_ready (rs := [2, 7]) (by kernel_rfl) (by simp) ?_
      refine AllReadyH.cons (o := { dst := some 7, op := Op.call { callee := Callee.value (Operand.func 48), args := #[Operand.tmp 6], argTypes := #[23] }, type := 23, pos := "inner.go:32", after := #[{ on := 1, ground := Ground.data }], guard := none }) rfl (fun K hK => ?_) (AllReadyH.cons (o := { dst := some 12, op := Op.load 25 (Operand.tmp 11), type := 25, pos := "inner.go:32", after := #[{ on := 6, ground := Ground.data }], guard := none }) rfl (fun K hK => ?_) AllReadyH.nil)
      · go_simp
        go_at_call 48
        with_reducible refine (C60.out _ H0.out).mono ?_
        rintro e w60 ⟨P2, Pc2, rfl, r, b⟩
        have R60 := Lib.hid (r.base Z0.out); have zz := keep_bel b Z.out; replace Z := Lib.hid zz; replace Y := Lib.hid (keep_bel b Y.out); replace H0 := Lib.hid (bel_trans H0.out b); replace Z0 := Lib.hid (Nat.le_trans Z0.out b.size); clear b r zz c0 c1 c2 c3 c4 f0 f1 f2 f3 f4; obtain ⟨c0, c1, c2, c3, c4⟩ := cells5 Z.out; obtain ⟨f0, f1, f2, f3, f4⟩ := froz5 Z.out
        refine hK.out _ _ ?_ (fun hHeld => ?_)
        · trivial
        clear HHeld; have HHeld := Lib.hid hHeld; clear hHeld
        clear hK K
        try simp only [pu, pn, s1, s2, s3]
        refine wpAnyH_ready (rs := [5, 7]) (by kernel_rfl) (by simp) ?_
        refine AllReadyH.cons (o := { dst := some 10, op := Op.call { callee := Callee.value (Operand.func 49), args := #[Operand.tmp 9], argTypes := #[24] }, type := 24, pos := "inner.go:32", after := #[{ on := 4, ground := Ground.data }, { on := 2, ground := Ground.chain }], guard := none }) rfl (fun K hK => ?_) (AllReadyH.cons (o := { dst := some 12, op := Op.load 25 (Operand.tmp 11), type := 25, pos := "inner.go:32", after := #[{ on := 6, ground := Ground.data }], guard := none }) rfl (fun K hK => ?_) AllReadyH.nil)
        · go_simp
          go_at_call 49
          with_reducible refine (C61.out _ H0.out).mono ?_
          rintro e w61 ⟨J2, Jc2, rfl, r, b⟩
          have R61 := Lib.hid (r.base Z0.out); replace R60 := Lib.hid (R60.out.later b); have zz := keep_bel b Z.out; replace Z := Lib.hid zz; replace Y := Lib.hid (keep_bel b Y.out); replace H0 := Lib.hid (bel_trans H0.out b); replace Z0 := Lib.hid (Nat.le_trans Z0.out b.size); clear b r zz c0 c1 c2 c3 c4 f0 f1 f2 f3 f4; obtain ⟨c0, c1, c2, c3, c4⟩ := cells5 Z.out; obtain ⟨f0, f1, f2, f3, f4⟩ := froz5 Z.out
          refine hK.out _ _ ?_ (fun hHeld => ?_)
          · trivial
          clear HHeld; have HHeld := Lib.hid hHeld; clear hHeld
          clear hK K
          try simp only [pu, pn, s1, s2, s3]
          refine wpAnyH_ready (rs := [7]) (by kernel_rfl) (by simp) ?_
          refine AllReadyH.cons (o := { dst := some 12, op := Op.load 25 (Operand.tmp 11), type := 25, pos := "inner.go:32", after := #[{ on := 6, ground := Ground.data }], guard := none }) rfl (fun K hK => ?_) AllReadyH.nil
          go_simp
          refine hK.out _ _ ?_ (fun hHeld => ?_)
          · trivial
          clear HHeld; have HHeld := Lib.hid hHeld; clear hHeld
          clear hK K
          try simp only [pu, pn, s1, s2, s3]
          refine wT (i := 9) (oi := { dst := some 14, op := Op.fieldAddr 28 (Operand.tmp 1) 1, type := 0, pos := "inner.go:32", after := #[{ on := 0, ground := Ground.phase }, { on := 1, ground := Ground.phase }, { on := 2, ground := Ground.phase }, { on := 3, ground := Ground.phase }, { on := 4, ground := Ground.phase }, { on := 5, ground := Ground.textOnly Departure.lateStoresUnsure }, { on := 6, ground := Ground.phase }, { on := 7, ground := Ground.phase }, { on := 8, ground := Ground.textOnly Departure.lateStoresUnsure }], guard := none }) (v := ?_) rfl (Or.inl ⟨by rfl, ?_⟩) HHeld.out ?_
          rotate_left
          · intro w hSw; clear hSw; go_simp; try with_reducible rfl
          try simp only [pu, pn, s1, s2, s3]
          refine wpAnyH_ready (rs := [8]) (by kernel_rfl) (by simp) ?_
          refine AllReadyH.cons (o := { dst := some 13, op := Op.call { callee := Callee.value (Operand.func 50), args := #[Operand.tmp 12], argTypes := #[25] }, type := 25, pos := "inner.go:32", after := #[{ on := 7, ground := Ground.data }, { on := 5, ground := Ground.chain }], guard := none }) rfl (fun K hK => ?_) AllReadyH.nil
          go_simp
          go_at_call 50
          with_reducible refine (C62.out _ H0.out).mono ?_
          rintro e w62 ⟨M2, Mc2, rfl, r, b⟩
          have R62 := Lib.hid (r.base Z0.out); replace R60 := Lib.hid (R60.out.later b); replace R61 := Lib.hid (R61.out.later b); have zz := keep_bel b Z.out; replace Z := Lib.hid zz; replace Y := Lib.hid (keep_bel b Y.out); replace H0 := Lib.hid (bel_trans H0.out b); replace Z0 := Lib.hid (Nat.le_trans Z0.out b.size); clear b r zz c0 c1 c2 c3 c4 f0 f1 f2 f3 f4; obtain ⟨c0, c1, c2, c3, c4⟩ := cells5 Z.out; obtain ⟨f0, f1, f2, f3, f4⟩ := froz5 Z.out
          refine hK.out _ _ ?_ (fun hHeld => ?_)
          · trivial
          clear HHeld; have HHeld := Lib.hid hHeld; clear hHeld
          clear hK K
          try simp only [pu, pn, s1, s2, s3]
          refine wpAnyH_ready (rs := [10]) (by kernel_rfl) (by simp) ?_
          refine AllReadyH.cons (o := { dst := none, op := Op.store 23 (Operand.tmp 14) (Operand.tmp 7), type := 0, pos := "inner.go:32", after := #[{ on := 9, ground := Ground.data }, { on := 2, ground := Ground.data }, { on := 8, ground := Ground.chain }, { on := 0, ground := Ground.phase }, { on := 1, ground := Ground.phase }, { on := 2, ground := Ground.phase }, { on := 3, ground := Ground.phase }, { on := 4, ground := Ground.phase }, { on := 5, ground := Ground.textOnly Departure.lateStoresUnsure }, { on := 6, ground := Ground.phase }, { on := 7, ground := Ground.phase }, { on := 8, ground := Ground.textOnly Departure.lateStoresUnsure }], guard := none }) rfl (fun K hK => ?_) AllReadyH.nil
          go_simp
          generalize hW : World.setCell _ _ _ = W1
          have HC := Lib.hid (show Chg (fun g => g = w.heap.size) _ W1 by rw [← hW]; exact Chg.set _ _ rfl)
          replace R60 := Lib.hid (R60.out.chgB HC.out (by omega)); replace R61 := Lib.hid (R61.out.chgB HC.out (by omega)); replace R62 := Lib.hid (R62.out.chgB HC.out (by omega)); have zz : W1.heap[w.heap.size]? = some (NO kd (.slice P2 n Pc2) (.slice J k kc) (.slice M m mc) (.slice B 0 bc)) := (by rw [← hW]; exact set5_1 Z.out _); replace Z := Lib.hid zz; replace Y := Lib.hid (keep_chg HC.out Y.out (by omega)); replace H0 := Lib.hid (bel_chg H0.out HC.out (Nat.le_refl _)); clear zz hW HC c0 c1 c2 c3 c4 f0 f1 f2 f3 f4; obtain ⟨c0, c1, c2, c3, c4⟩ := cells5 Z.out; obtain ⟨f0, f1, f2, f3, f4⟩ := froz5 Z.out
          refine hK.out _ _ ?_ (fun hHeld => ?_)
          · trivial
          clear HHeld; have HHeld := Lib.hid hHeld; clear hHeld
          clear hK K
          try simp only [pu, pn, s1, s2, s3]
          refine wT (i := 11) (oi := { dst := some 15, op := Op.fieldAddr 28 (Operand.tmp 1) 2, type := 0, pos := "inner.go:32", after := #[{ on := 0, ground := Ground.phase }, { on := 1, ground := Ground.phase }, { on := 2, ground := Ground.phase }, { on := 3, ground := Ground.phase }, { on := 4, ground := Ground.phase }, { on := 5, ground := Ground.phase }, { on := 6, ground := Ground.phase }, { on := 7, ground := Ground.phase }, { on := 8, ground := Ground.textOnly Departure.lateStoresUnsure }, { on := 9, ground := Ground.phase }, { on := 10, ground := Ground.phase }], guard := none }) (v := ?_) rfl (Or.inl ⟨by rfl, ?_⟩) HHeld.out ?_
          rotate_left
          · intro w hSw; clear hSw; go_simp; try with_reducible rfl
          try simp only [pu, pn, s1, s2, s3]
          refine wpAnyH_ready (rs := [12]) (by kernel_rfl) (by simp) ?_
          refine AllReadyH.cons (o := { dst := none, op := Op.store 24 (Operand.tmp 15) (Operand.tmp 10), type := 0, pos := "inner.go:32", after := #[{ on := 11, ground := Ground.data }, { on := 5, ground := Ground.data }, { on := 10, ground := Ground.chain }, { on := 0, ground := Ground.phase }, { on := 1, ground := Ground.phase }, { on := 2, ground := Ground.phase }, { on := 3, ground := Ground.phase }, { on := 4, ground := Ground.phase }, { on := 5, ground := Ground.phase }, { on := 6, ground := Ground.phase }, { on := 7, ground := Ground.phase }, { on := 8, ground := Ground.textOnly Departure.lateStoresUnsure }, { on := 9, ground := Ground.phase }, { on := 10, ground := Ground.phase }], guard := none }) rfl (fun K hK => ?_) AllReadyH.nil
          go_simp
          generalize hW : World.setCell _ _ _ = W2
          have HC := Lib.hid (show Chg (fun g => g = w.heap.size) _ W2 by rw [← hW]; exact Chg.set _ _ rfl)
          replace R60 := Lib.hid (R60.out.chgB HC.out (by omega)); replace R61 := Lib.hid (R61.out.chgB HC.out (by omega)); replace R62 := Lib.hid (R62.out.chgB HC.out (by omega)); have zz : W2.heap[w.heap.size]? = some (NO kd (.slice P2 n Pc2) (.slice J2 k Jc2) (.slice M m mc) (.slice B 0 bc)) := (by rw [← hW]; exact set5_2 Z.out _); replace Z := Lib.hid zz; replace Y := Lib.hid (keep_chg HC.out Y.out (by omega)); replace H0 := Lib.hid (bel_chg H0.out HC.out (Nat.le_refl _)); clear zz hW HC c0 c1 c2 c3 c4 f0 f1 f2 f3 f4; obtain ⟨c0, c1, c2, c3, c4⟩ := cells5 Z.out; obtain ⟨f0, f1, f2, f3, f4⟩ := froz5 Z.out
          refine hK.out _ _ ?_ (fun hHeld => ?_)
          · trivial
          clear HHeld; have HHeld := Lib.hid hHeld; clear hHeld
          clear hK K
          try simp only [pu, pn, s1, s2, s3]
          refine wT (i := 13) (oi := { dst := some 16, op := Op.fieldAddr 28 (Operand.tmp 1) 3, type := 0, pos := "inner.go:32", after := #[{ on := 0, ground := Ground.phase }, { on := 1, ground := Ground.phase }, { on := 2, ground := Ground.phase }, { on := 3, ground := Ground.phase }, { on := 4, ground := Ground.phase }, { on := 5, ground := Ground.phase }, { on := 6, ground := Ground.phase }, { on := 7, ground := Ground.phase }, { on := 8, ground := Ground.phase }, { on := 9, ground := Ground.phase }, { on := 10, ground := Ground.phase }, { on := 11, ground := Ground.phase }, { on := 12, ground := Ground.phase }], guard := none }) (v := ?_) rfl (Or.inl ⟨by rfl, ?_⟩) HHeld.out ?_
          rotate_left
          · intro w hSw; clear hSw; go_simp; try with_reducible rfl
          try simp only [pu, pn, s1, s2, s3]
          refine wpAnyH_ready (rs := [14]) (by kernel_rfl) (by simp) ?_
          refine AllReadyH.cons (o := { dst := none, op := Op.store 25 (Operand.tmp 16) (Operand.tmp 13), type := 0, pos := "inner.go:32", after := #[{ on := 13, ground := Ground.data }, { on := 8, ground := Ground.data }, { on := 12, ground := Ground.chain }, { on := 0, ground := Ground.phase }, { on := 1, ground := Ground.phase }, { on := 2, ground := Ground.phase }, { on := 3, ground := Ground.phase }, { on := 4, ground := Ground.phase }, { on := 5, ground := Ground.phase }, { on := 6, ground := Ground.phase }, { on := 7, ground := Ground.phase }, { on := 8, ground := Ground.phase }, { on := 9, ground := Ground.phase }, { on := 10, ground := Ground.phase }, { on := 11, ground := Ground.phase }, { on := 12, ground := Ground.phase }], guard := none }) rfl (fun K hK => ?_) AllReadyH.nil
          go_simp
          generalize hW : World.setCell _ _ _ = W3
          have HC := Lib.hid (show Chg (fun g => g = w.heap.size) _ W3 by rw [← hW]; exact Chg.set _ _ rfl)
          replace R60 := Lib.hid (R60.out.chgB HC.out (by omega)); replace R61 := Lib.hid (R61.out.chgB HC.out (by omega)); replace R62 := Lib.hid (R62.out.chgB HC.out (by omega)); have zz : W3.heap[w.heap.size]? = some (NO kd (.slice P2 n Pc2) (.slice J2 k Jc2) (.slice M2 m Mc2) (.slice B 0 bc)) := (by rw [← hW]; exact set5_3 Z.out _); replace Z := Lib.hid zz; replace Y := Lib.hid (keep_chg HC.out Y.out (by omega)); replace H0 := Lib.hid (bel_chg H0.out HC.out (Nat.le_refl _)); clear zz hW HC c0 c1 c2 c3 c4 f0 f1 f2 f3 f4; obtain ⟨c0, c1, c2, c3, c4⟩ := cells5 Z.out; obtain ⟨f0, f1, f2, f3, f4⟩ := froz5 Z.out
          refine hK.out _ _ ?_ (fun hHeld => ?_)
          · trivial
          clear HHeld; have HHeld := Lib.hid hHeld; clear hHeld
          clear hK K
          try simp only [pu, pn, s1, s2, s3]
          refine wpAnyH_done (by kernel_rfl) ?_ _
          clear HHeld
          exact CONT _ _ _ _ _ _ _ Z.out Y.out (R3.mk R60.out R61.out R62.out) H0.out
        · go_simp
          refine hK.out _ _ ?_ (fun hHeld => ?_)
          · trivial
          clear HHeld; have HHeld := Lib.hid hHeld; clear hHeld
          clear hK K
          try simp only [pu, pn, s1, s2, s3]
          refine wT (i := 9) (oi := { dst := some 14, op := Op.fieldAddr 28 (Operand.tmp 1) 1, type := 0, pos := "inner.go:32", after := #[{ on := 0, ground := Ground.phase }, { on := 1, ground := Ground.phase }, { on := 2, ground := Ground.phase }, { on := 3, ground := Ground.phase }, { on := 4, ground := Ground.phase }, { on := 5, ground := Ground.textOnly Departure.lateStoresUnsure }, { on := 6, ground := Ground.phase }, { on := 7, ground := Ground.phase }, { on := 8, ground := Ground.textOnly Departure.lateStoresUnsure }], guard := none }) (v := ?_) rfl (Or.inl ⟨by rfl, ?_⟩) HHeld.out ?_
          rotate_left
          · intro w hSw; clear hSw; go_simp; try with_reducible rfl
          try simp only [pu, pn, s1, s2, s3]
          refine wpAnyH_ready (rs := [5]) (by kernel_rfl) (by simp) ?_
          refine AllReadyH.cons (o := { dst := some 10, op := Op.call { callee := Callee.value (Operand.func 49), args := #[Operand.tmp 9], argTypes := #[24] }, type := 24, pos := "inner.go:32", after := #[{ on := 4, ground := Ground.data }, { on := 2, ground := Ground.chain }], guard := none }) rfl (fun K hK => ?_) AllReadyH.nil
          go_simp
          go_at_call 49
          with_reducible refine (C61.out _ H0.out).mono ?_
          rintro e w61 ⟨J2, Jc2, rfl, r, b⟩
          have R61 := Lib.hid (r.base Z0.out); replace R60 := Lib.hid (R60.out.later b); have zz := keep_bel b Z.out; replace Z := Lib.hid zz; replace Y := Lib.hid (keep_bel b Y.out); replace H0 := Lib.hid (bel_trans H0.out b); replace Z0 := Lib.hid (Nat.le_trans Z0.out b.size); clear b r zz c0 c1 c2 c3 c4 f0 f1 f2 f3 f4; obtain ⟨c0, c1, c2, c3, c4⟩ := cells5 Z.out; obtain ⟨f0, f1, f2, f3, f4⟩ := froz5 Z.out
          refine hK.out _ _ ?_ (fun hHeld => ?_)
          · trivial
          clear HHeld; have HHeld := Lib.hid hHeld; clear hHeld
          clear hK K
          try simp only [pu, pn, s1, s2, s3]
          refine wpAnyH_ready (rs := [8]) (by kernel_rfl) (by simp) ?_
          refine AllReadyH.cons (o := { dst := some 13, op := Op.call { callee := Callee.value (Operand.func 50), args := #[Operand.tmp 12], argTypes := #[25] }, type := 25, pos := "inner.go:32", after := #[{ on := 7, ground := Ground.data }, { on := 5, ground := Ground.chain }], guard := none }) rfl (fun K hK => ?_) AllReadyH.nil
          go_simp
          go_at_call 50
          with_reducible refine (C62.out _ H0.out).mono ?_
          rintro e w62 ⟨M2, Mc2, rfl, r, b⟩
          have R62 := Lib.hid (r.base Z0.out); replace R60 := Lib.hid (R60.out.later b); replace R61 := Lib.hid (R61.out.later b); have zz := keep_bel b Z.out; replace Z := Lib.hid zz; replace Y := Lib.hid (keep_bel b Y.out); replace H0 := Lib.hid (bel_trans H0.out b); replace Z0 := Lib.hid (Nat.le_trans Z0.out b.size); clear b r zz c0 c1 c2 c3 c4 f0 f1 f2 f3 f4; obtain ⟨c0, c1, c2, c3, c4⟩ := cells5 Z.out; obtain ⟨f0, f1, f2, f3, f4⟩ := froz5 Z.out
          refine hK.out _ _ ?_ (fun hHeld => ?_)
          · trivial
          clear HHeld; have HHeld := Lib.hid hHeld; clear hHeld
          clear hK K
          try simp only [pu, pn, s1, s2, s3]
          refine wpAnyH_ready (rs := [10]) (by kernel_rfl) (by simp) ?_
          refine AllReadyH.cons (o := { dst := none, op := Op.store 23 (Operand.tmp 14) (Operand.tmp 7), type := 0, pos := "inner.go:32", after := #[{ on := 9, ground := Ground.data }, { on := 2, ground := Ground.data }, { on := 8, ground := Ground.chain }, { on := 0, ground := Ground.phase }, { on := 1, ground := Ground.phase }, { on := 2, ground := Ground.phase }, { on := 3, ground := Ground.phase }, { on := 4, ground := Ground.phase }, { on := 5, ground := Ground.textOnly Departure.lateStoresUnsure }, { on := 6, ground := Ground.phase }, { on := 7, ground := Ground.phase }, { on := 8, ground := Ground.textOnly Departure.lateStoresUnsure }], guard := none }) rfl (fun K hK => ?_) AllReadyH.nil
          go_simp
          generalize hW : World.setCell _ _ _ = W1
          have HC := Lib.hid (show Chg (fun g => g = w.heap.size) _ W1 by rw [← hW]; exact Chg.set _ _ rfl)
          replace R60 := Lib.hid (R60.out.chgB HC.out (by omega)); replace R61 := Lib.hid (R61.out.chgB HC.out (by omega)); replace R62 := Lib.hid (R62.out.chgB HC.out (by omega)); have zz : W1.heap[w.heap.size]? = some (NO kd (.slice P2 n Pc2) (.slice J k kc) (.slice M m mc) (.slice B 0 bc)) := (by rw [← hW]; exact set5_1 Z.out _); replace Z := Lib.hid zz; replace Y := Lib.hid (keep_chg HC.out Y.out (by omega)); replace H0 := Lib.hid (bel_chg H0.out HC.out (Nat.le_refl _)); clear zz hW HC c0 c1 c2 c3 c4 f0 f1 f2 f3 f4; obtain ⟨c0, c1, c2, c3, c4⟩ := cells5 Z.out; obtain ⟨f0, f1, f2, f3, f4⟩ := froz5 Z.out
          refine hK.out _ _ ?_ (fun hHeld => ?_)
          · trivial
          clear HHeld; have HHeld := Lib.hid hHeld; clear hHeld
          clear hK K
          try simp only [pu, pn, s1, s2, s3]
          refine wT (i := 11) (oi := { dst := some 15, op := Op.fieldAddr 28 (Operand.tmp 1) 2, type := 0, pos := "inner.go:32", after := #[{ on := 0, ground := Ground.phase }, { on := 1, ground := Ground.phase }, { on := 2, ground := Ground.phase }, { on := 3, ground := Ground.phase }, { on := 4, ground := Ground.phase }, { on := 5, ground := Ground.phase }, { on := 6, ground := Ground.phase }, { on := 7, ground := Ground.phase }, { on := 8, ground := Ground.textOnly Departure.lateStoresUnsure }, { on := 9, ground := Ground.phase }, { on := 10, ground := Ground.phase }], guard := none }) (v := ?_) rfl (Or.inl ⟨by rfl, ?_⟩) HHeld.out ?_
          rotate_left
          · intro w hSw; clear hSw; go_simp; try with_reducible rfl
          try simp only [pu, pn, s1, s2, s3]
          refine wpAnyH_ready (rs := [12]) (by kernel_rfl) (by simp) ?_
          refine AllReadyH.cons (o := { dst := none, op := Op.store 24 (Operand.tmp 15) (Operand.tmp 10), type := 0, pos := "inner.go:32", after := #[{ on := 11, ground := Ground.data }, { on := 5, ground := Ground.data }, { on := 10, ground := Ground.chain }, { on := 0, ground := Ground.phase }, { on := 1, ground := Ground.phase }, { on := 2, ground := Ground.phase }, { on := 3, ground := Ground.phase }, { on := 4, ground := Ground.phase }, { on := 5, ground := Ground.phase }, { on := 6, ground := Ground.phase }, { on := 7, ground := Ground.phase }, { on := 8, ground := Ground.textOnly Departure.lateStoresUnsure }, { on := 9, ground := Ground.phase }, { on := 10, ground := Ground.phase }], guard := none }) rfl (fun K hK => ?_) AllReadyH.nil
          go_simp
          generalize hW : World.setCell _ _ _ = W2
          have HC := Lib.hid (show Chg (fun g => g = w.heap.size) _ W2 by rw [← hW]; exact Chg.set _ _ rfl)
          replace R60 := Lib.hid (R60.out.chgB HC.out (by omega)); replace R61 := Lib.hid (R61.out.chgB HC.out (by omega)); replace R62 := Lib.hid (R62.out.chgB HC.out (by omega)); have zz : W2.heap[w.heap.size]? = some (NO kd (.slice P2 n Pc2) (.slice J2 k Jc2) (.slice M m mc) (.slice B 0 bc)) := (by rw [← hW]; exact set5_2 Z.out _); replace Z := Lib.hid zz; replace Y := Lib.hid (keep_chg HC.out Y.out (by omega)); replace H0 := Lib.hid (bel_chg H0.out HC.out (Nat.le_refl _)); clear zz hW HC c0 c1 c2 c3 c4 f0 f1 f2 f3 f4; obtain ⟨c0, c1, c2, c3, c4⟩ := cells5 Z.out; obtain ⟨f0, f1, f2, f3, f4⟩ := froz5 Z.out
          refine hK.out _ _ ?_ (fun hHeld => ?_)
          · trivial
          clear HHeld; have HHeld := Lib.hid hHeld; clear hHeld
          clear hK K
          try simp only [pu, pn, s1, s2, s3]
          refine wT (i := 13) (oi := { dst := some 16, op := Op.fieldAddr 28 (Operand.tmp 1) 3, type := 0, pos := "inner.go:32", after := #[{ on := 0, ground := Ground.phase }, { on := 1, ground := Ground.phase }, { on := 2, ground := Ground.phase }, { on := 3, ground := Ground.phase }, { on := 4, ground := Ground.phase }, { on := 5, ground := Ground.phase }, { on := 6, ground := Ground.phase }, { on := 7, ground := Ground.phase }, { on := 8, ground := Ground.phase }, { on := 9, ground := Ground.phase }, { on := 10, ground := Ground.phase }, { on := 11, ground := Ground.phase }, { on := 12, ground := Ground.phase }], guard := none }) (v := ?_) rfl (Or.inl ⟨by rfl, ?_⟩) HHeld.out ?_
          rotate_left
          · intro w hSw; clear hSw; go_simp; try with_reducible rfl
          try simp only [pu, pn, s1, s2, s3]
          refine wpAnyH_ready (rs := [14]) (by kernel_rfl) (by simp) ?_
          refine AllReadyH.cons (o := { dst := none, op := Op.store 25 (Operand.tmp 16) (Operand.tmp 13), type := 0, pos := "inner.go:32", after := #[{ on := 13, ground := Ground.data }, { on := 8, ground := Ground.data }, { on := 12, ground := Ground.chain }, { on := 0, ground := Ground.phase }, { on := 1, ground := Ground.phase }, { on := 2, ground := Ground.phase }, { on := 3, ground := Ground.phase }, { on := 4, ground := Ground.phase }, { on := 5, ground := Ground.phase }, { on := 6, ground := Ground.phase }, { on := 7, ground := Ground.phase }, { on := 8, ground := Ground.phase }, { on := 9, ground := Ground.phase }, { on := 10, ground := Ground.phase }, { on := 11, ground := Ground.phase }, { on := 12, ground := Ground.phase }], guard := none }) rfl (fun K hK => ?_) AllReadyH.nil
          go_simp
          generalize hW : World.setCell _ _ _ = W3
          have HC := Lib.hid (show Chg (fun g => g = w.heap.size) _ W3 by rw [← hW]; exact Chg.set _ _ rfl)
          replace R60 := Lib.hid (R60.out.chgB HC.out (by omega)); replace R61 := Lib.hid (R61.out.chgB HC.out (by omega)); replace R62 := Lib.hid (R62.out.chgB HC.out (by omega)); have zz : W3.heap[w.heap.size]? = some (NO kd (.slice P2 n Pc2) (.slice J2 k Jc2) (.slice M2 m Mc2) (.slice B 0 bc)) := (by rw [← hW]; exact set5_3 Z.out _); replace Z := Lib.hid zz; replace Y := Lib.hid (keep_chg HC.out Y.out (by omega)); replace H0 := Lib.hid (bel_chg H0.out HC.out (Nat.le_refl _)); clear zz hW HC c0 c1 c2 c3 c4 f0 f1 f2 f3 f4; obtain ⟨c0, c1, c2, c3, c4⟩ := cells5 Z.out; obtain ⟨f0, f1, f2, f3, f4⟩ := froz5 Z.out
          refine hK.out _ _ ?_ (fun hHeld => ?_)
          · trivial
          clear HHeld; have HHeld := Lib.hid hHeld; clear hHeld
          clear hK K
          try simp only [pu, pn, s1, s2, s3]
          refine wpAnyH_done (by kernel_rfl) ?_ _
          clear HHeld
          exact CONT _ _ _ _ _ _ _ Z.out Y.out (R3.mk R60.out R61.out R62.out) H0.out
      · go_simp
        refine hK.out _ _ ?_ (fun hHeld => ?_)
        · trivial
        clear HHeld; have HHeld := Lib.hid hHeld; clear hHeld
        clear hK K
        try simp only [pu, pn, s1, s2, s3]
        refine wpAnyH_ready (rs := [2]) (by kernel_rfl) (by simp) ?_
        refine AllReadyH.cons (o := { dst := some 7, op := Op.call { callee := Callee.value (Operand.func 48), args := #[Operand.tmp 6], argTypes := #[23] }, type := 23, pos := "inner.go:32", after := #[{ on := 1, ground := Ground.data }], guard := none }) rfl (fun K hK => ?_) AllReadyH.nil
        go_simp
        go_at_call 48
        with_reducible refine (C60.out _ H0.out).mono ?_
        rintro e w60 ⟨P2, Pc2, rfl, r, b⟩
        have R60 := Lib.hid (r.base Z0.out); have zz := keep_bel b Z.out; replace Z := Lib.hid zz; replace Y := Lib.hid (keep_bel b Y.out); replace H0 := Lib.hid (bel_trans H0.out b); replace Z0 := Lib.hid (Nat.le_trans Z0.out b.size); clear b r zz c0 c1 c2 c3 c4 f0 f1 f2 f3 f4; obtain ⟨c0, c1, c2, c3, c4⟩ := cells5 Z.out; obtain ⟨f0, f1, f2, f3, f4⟩ := froz5 Z.out
        refine hK.out _ _ ?_ (fun hHeld => ?_)
        · trivial
        clear HHeld; have HHeld := Lib.hid hHeld; clear hHeld
        clear hK K
        try simp only [pu, pn, s1, s2, s3]
        refine wT (i := 9) (oi := { dst := some 14, op := Op.fieldAddr 28 (Operand.tmp 1) 1, type := 0, pos := "inner.go:32", after := #[{ on := 0, ground := Ground.phase }, { on := 1, ground := Ground.phase }, { on := 2, ground := Ground.phase }, { on := 3, ground := Ground.phase }, { on := 4, ground := Ground.phase }, { on := 5, ground := Ground.textOnly Departure.lateStoresUnsure }, { on := 6, ground := Ground.phase }, { on := 7, ground := Ground.phase }, { on := 8, ground := Ground.textOnly Departure.lateStoresUnsure }], guard := none }) (v := ?_) rfl (Or.inl ⟨by rfl, ?_⟩) HHeld.out ?_
        rotate_left
        · intro w hSw; clear hSw; go_simp; try with_reducible rfl
        try simp only [pu, pn, s1, s2, s3]
        refine wpAnyH_ready (rs := [5]) (by kernel_rfl) (by simp) ?_
        refine AllReadyH.cons (o := { dst := some 10, op := Op.call { callee := Callee.value (Operand.func 49), args := #[Operand.tmp 9], argTypes := #[24] }, type := 24, pos := "inner.go:32", after := #[{ on := 4, ground := Ground.data }, { on := 2, ground := Ground.chain }], guard := none }) rfl (fun K hK => ?_) AllReadyH.nil
        go_simp
        go_at_call 49
        with_reducible refine (C61.out _ H0.out).mono ?_
        rintro e w61 ⟨J2, Jc2, rfl, r, b⟩
        have R61 := Lib.hid (r.base Z0.out); replace R60 := Lib.hid (R60.out.later b); have zz := keep_bel b Z.out; replace Z := Lib.hid zz; replace Y := Lib.hid (keep_bel b Y.out); replace H0 := Lib.hid (bel_trans H0.out b); replace Z0 := Lib.hid (Nat.le_trans Z0.out b.size); clear b r zz c0 c1 c2 c3 c4 f0 f1 f2 f3 f4; obtain ⟨c0, c1, c2, c3, c4⟩ := cells5 Z.out; obtain ⟨f0, f1, f2, f3, f4⟩ := froz5 Z.out
        refine hK.out _ _ ?_ (fun hHeld => ?_)
        · trivial
        clear HHeld; have HHeld := Lib.hid hHeld; clear hHeld
        clear hK K
        try simp only [pu, pn, s1, s2, s3]
        refine wpAnyH_ready (rs := [8]) (by kernel_rfl) (by simp) ?_
        refine AllReadyH.cons (o := { dst := some 13, op := Op.call { callee := Callee.value (Operand.func 50), args := #[Operand.tmp 12], argTypes := #[25] }, type := 25, pos := "inner.go:32", after := #[{ on := 7, ground := Ground.data }, { on := 5, ground := Ground.chain }], guard := none }) rfl (fun K hK => ?_) AllReadyH.nil
        go_simp
        go_at_call 50
        with_reducible refine (C62.out _ H0.out).mono ?_
        rintro e w62 ⟨M2, Mc2, rfl, r, b⟩
        have R62 := Lib.hid (r.base Z0.out); replace R60 := Lib.hid (R60.out.later b); replace R61 := Lib.hid (R61.out.later b); have zz := keep_bel b Z.out; replace Z := Lib.hid zz; replace Y := Lib.hid (keep_bel b Y.out); replace H0 := Lib.hid (bel_trans H0.out b); replace Z0 := Lib.hid (Nat.le_trans Z0.out b.size); clear b r zz c0 c1 c2 c3 c4 f0 f1 f2 f3 f4; obtain ⟨c0, c1, c2, c3, c4⟩ := cells5 Z.out; obtain ⟨f0, f1, f2, f3, f4⟩ := froz5 Z.out
        refine hK.out _ _ ?_ (fun hHeld => ?_)
        · trivial
        clear HHeld; have HHeld := Lib.hid hHeld; clear hHeld
        clear hK K
        try simp only [pu, pn, s1, s2, s3]
        refine wpAnyH_ready (rs := [10]) (by kernel_rfl) (by simp) ?_
        refine AllReadyH.cons (o := { dst := none, op := Op.store 23 (Operand.tmp 14) (Operand.tmp 7), type := 0, pos := "inner.go:32", after := #[{ on := 9, ground := Ground.data }, { on := 2, ground := Ground.data }, { on := 8, ground := Ground.chain }, { on := 0, ground := Ground.phase }, { on := 1, ground := Ground.phase }, { on := 2, ground := Ground.phase }, { on := 3, ground := Ground.phase }, { on := 4, ground := Ground.phase }, { on := 5, ground := Ground.textOnly Departure.lateStoresUnsure }, { on := 6, ground := Ground.phase }, { on := 7, ground := Ground.phase }, { on := 8, ground := Ground.textOnly Departure.lateStoresUnsure }], guard := none }) rfl (fun K hK => ?_) AllReadyH.nil
        go_simp
        generalize hW : World.setCell _ _ _ = W1
        have HC := Lib.hid (show Chg (fun g => g = w.heap.size) _ W1 by rw [← hW]; exact Chg.set _ _ rfl)
        replace R60 := Lib.hid (R60.out.chgB HC.out (by omega)); replace R61 := Lib.hid (R61.out.chgB HC.out (by omega)); replace R62 := Lib.hid (R62.out.chgB HC.out (by omega)); have zz : W1.heap[w.heap.size]? = some (NO kd (.slice P2 n Pc2) (.slice J k kc) (.slice M m mc) (.slice B 0 bc)) := (by rw [← hW]; exact set5_1 Z.out _); replace Z := Lib.hid zz; replace Y := Lib.hid (keep_chg HC.out Y.out (by omega)); replace H0 := Lib.hid (bel_chg H0.out HC.out (Nat.le_refl _)); clear zz hW HC c0 c1 c2 c3 c4 f0 f1 f2 f3 f4; obtain ⟨c0, c1, c2, c3, c4⟩ := cells5 Z.out; obtain ⟨f0, f1, f2, f3, f4⟩ := froz5 Z.out
        refine hK.out _ _ ?_ (fun hHeld => ?_)
        · trivial
        clear HHeld; have HHeld := Lib.hid hHeld; clear hHeld
        clear hK K
        try simp only [pu, pn, s1, s2, s3]
        refine wT (i := 11) (oi := { dst := some 15, op := Op.fieldAddr 28 (Operand.tmp 1) 2, type := 0, pos := "inner.go:32", after := #[{ on := 0, ground := Ground.phase }, { on := 1, ground := Ground.phase }, { on := 2, ground := Ground.phase }, { on := 3, ground := Ground.phase }, { on := 4, ground := Ground.phase }, { on := 5, ground := Ground.phase }, { on := 6, ground := Ground.phase }, { on := 7, ground := Ground.phase }, { on := 8, ground := Ground.textOnly Departure.lateStoresUnsure }, { on := 9, ground := Ground.phase }, { on := 10, ground := Ground.phase }], guard := none }) (v := ?_) rfl (Or.inl ⟨by rfl, ?_⟩) HHeld.out ?_
        rotate_left
        · intro w hSw; clear hSw; go_simp; try with_reducible rfl
        try simp only [pu, pn, s1, s2, s3]
        refine wpAnyH_ready (rs := [12]) (by kernel_rfl) (by simp) ?_
        refine AllReadyH.cons (o := { dst := none, op := Op.store 24 (Operand.tmp 15) (Operand.tmp 10), type := 0, pos := "inner.go:32", after := #[{ on := 11, ground := Ground.data }, { on := 5, ground := Ground.data }, { on := 10, ground := Ground.chain }, { on := 0, ground := Ground.phase }, { on := 1, ground := Ground.phase }, { on := 2, ground := Ground.phase }, { on := 3, ground := Ground.phase }, { on := 4, ground := Ground.phase }, { on := 5, ground := Ground.phase }, { on := 6, ground := Ground.phase }, { on := 7, ground := Ground.phase }, { on := 8, ground := Ground.textOnly Departure.lateStoresUnsure }, { on := 9, ground := Ground.phase }, { on := 10, ground := Ground.phase }], guard := none }) rfl (fun K hK => ?_) AllReadyH.nil
        go_simp
        generalize hW : World.setCell _ _ _ = W2
        have HC := Lib.hid (show Chg (fun g => g = w.heap.size) _ W2 by rw [← hW]; exact Chg.set _ _ rfl)
        replace R60 := Lib.hid (R60.out.chgB HC.out (by omega)); replace R61 := Lib.hid (R61.out.chgB HC.out (by omega)); replace R62 := Lib.hid (R62.out.chgB HC.out (by omega)); have zz : W2.heap[w.heap.size]? = some (NO kd (.slice P2 n Pc2) (.slice J2 k Jc2) (.slice M m mc) (.slice B 0 bc)) := (by rw [← hW]; exact set5_2 Z.out _); replace Z := Lib.hid zz; replace Y := Lib.hid (keep_chg HC.out Y.out (by omega)); replace H0 := Lib.hid (bel_chg H0.out HC.out (Nat.le_refl _)); clear zz hW HC c0 c1 c2 c3 c4 f0 f1 f2 f3 f4; obtain ⟨c0, c1, c2, c3, c4⟩ := cells5 Z.out; obtain ⟨f0, f1, f2, f3, f4⟩ := froz5 Z.out
        refine hK.out _ _ ?_ (fun hHeld => ?_)
        · trivial
        clear HHeld; have HHeld := Lib.hid hHeld; clear hHeld
        clear hK K
        try simp only [pu, pn, s1, s2, s3]
        refine wT (i := 13) (oi := { dst := some 16, op := Op.fieldAddr 28 (Operand.tmp 1) 3, type := 0, pos := "inner.go:32", after := #[{ on := 0, ground := Ground.phase }, { on := 1, ground := Ground.phase }, { on := 2, ground := Ground.phase }, { on := 3, ground := Ground.phase }, { on := 4, ground := Ground.phase }, { on := 5, ground := Ground.phase }, { on := 6, ground := Ground.phase }, { on := 7, ground := Ground.phase }, { on := 8, ground := Ground.phase }, { on := 9, ground := Ground.phase }, { on := 10, ground := Ground.phase }, { on := 11, ground := Ground.phase }, { on := 12, ground := Ground.phase }], guard := none }) (v := ?_) rfl (Or.inl ⟨by rfl, ?_⟩) HHeld.out ?_
        rotate_left
        · intro w hSw; clear hSw; go_simp; try with_reducible rfl
        try simp only [pu, pn, s1, s2, s3]
        refine wpAnyH_ready (rs := [14]) (by kernel_rfl) (by simp) ?_
        refine AllReadyH.cons (o := { dst := none, op := Op.store 25 (Operand.tmp 16) (Operand.tmp 13), type := 0, pos := "inner.go:32", after := #[{ on := 13, ground := Ground.data }, { on := 8, ground := Ground.data }, { on := 12, ground := Ground.chain }, { on := 0, ground := Ground.phase }, { on := 1, ground := Ground.phase }, { on := 2, ground := Ground.phase }, { on := 3, ground := Ground.phase }, { on := 4, ground := Ground.phase }, { on := 5, ground := Ground.phase }, { on := 6, ground := Ground.phase }, { on := 7, ground := Ground.phase }, { on := 8, ground := Ground.phase }, { on := 9, ground := Ground.phase }, { on := 10, ground := Ground.phase }, { on := 11, ground := Ground.phase }, { on := 12, ground := Ground.phase }], guard := none }) rfl (fun K hK => ?_) AllReadyH.nil
        go_simp
        generalize hW : World.setCell _ _ _ = W3
        have HC := Lib.hid (show Chg (fun g => g = w.heap.size) _ W3 by rw [← hW]; exact Chg.set _ _ rfl)
        replace R60 := Lib.hid (R60.out.chgB HC.out (by omega)); replace R61 := Lib.hid (R61.out.chgB HC.out (by omega)); replace R62 := Lib.hid (R62.out.chgB HC.out (by omega)); have zz : W3.heap[w.heap.size]? = some (NO kd (.slice P2 n Pc2) (.slice J2 k Jc2) (.slice M2 m Mc2) (.slice B 0 bc)) := (by rw [← hW]; exact set5_3 Z.out _); replace Z := Lib.hid zz; replace Y := Lib.hid (keep_chg HC.out Y.out (by omega)); replace H0 := Lib.hid (bel_chg H0.out HC.out (Nat.le_refl _)); clear zz hW HC c0 c1 c2 c3 c4 f0 f1 f2 f3 f4; obtain ⟨c0, c1, c2, c3, c4⟩ := cells5 Z.out; obtain ⟨f0, f1, f2, f3, f4⟩ := froz5 Z.out
        refine hK.out _ _ ?_ (fun hHeld => ?_)
        · trivial
        clear HHeld; have HHeld := Lib.hid hHeld; clear hHeld
        clear hK K
        try simp only [pu, pn, s1, s2, s3]
        refine wpAnyH_done (by kernel_rfl) ?_ _
        clear HHeld
        exact CONT _ _ _ _ _ _ _ Z.out Y.out (R3.mk R60.out R61.out R62.out) H0.out
    · go_simp
      refine hK.out _ _ ?_ (fun hHeld => ?_)
      · trivial
      clear HHeld; have HHeld := Lib.hid hHeld; clear hHeld
      clear hK K
      try simp only [pu, pn, s1, s2, s3]
      refine wpAnyH_ready (rs := [1]) (by kernel_rfl) (by simp) ?_
      refine AllReadyH.cons (o := { dst := some 6, op := Op.load 23 (Operand.tmp 5), type := 23, pos := "inner.go:32", after := #[{ on := 0, ground := Ground.data }], guard := none }) rfl (fun K hK => ?_) AllReadyH.nil
      go_simp
      refine hK.out _ _ ?_ (fun hHeld => ?_)
      · trivial
      clear HHeld; have HHeld := Lib.hid hHeld; clear hHeld
      clear hK K
      try simp only [pu, pn, s1, s2, s3]
      refine wpAnyH_ready (rs := [2]) (by kernel_rfl) (by simp) ?_
      refine AllReadyH.cons (o := { dst := some 7, op := Op.call { callee := Callee.value (Operand.func 48), args := #[Operand.tmp 6], argTypes := #[23] }, type := 23, pos := "inner.go:32", after := #[{ on := 1, ground := Ground.data }], guard := none }) rfl (fun K hK => ?_) AllReadyH.nil
      go_simp
      go_at_call 48
      with_reducible refine (C60.out _ H0.out).mono ?_
      rintro e w60 ⟨P2, Pc2, rfl, r, b⟩
      have R60 := Lib.hid (r.base Z0.out); have zz := keep_bel b Z.out; replace Z := Lib.hid zz; replace Y := Lib.hid (keep_bel b Y.out); replace H0 := Lib.hid (bel_trans H0.out b); replace Z0 := Lib.hid (Nat.le_trans Z0.out b.size); clear b r zz c0 c1 c2 c3 c4 f0 f1 f2 f3 f4; obtain ⟨c0, c1, c2, c3, c4⟩ := cells5 Z.out; obtain ⟨f0, f1, f2, f3, f4⟩ := froz5 Z.out
      refine hK.out _ _ ?_ (fun hHeld => ?_)
      · trivial
      clear HHeld; have HHeld := Lib.hid hHeld; clear hHeld
      clear hK K
      try simp only [pu, pn, s1, s2, s3]
      refine wT (i := 9) (oi := { dst := some 14, op := Op.fieldAddr 28 (Operand.tmp 1) 1, type := 0, pos := "inner.go:32", after := #[{ on := 0, ground := Ground.phase }, { on := 1, ground := Ground.phase }, { on := 2, ground := Ground.phase }, { on := 3, ground := Ground.phase }, { on := 4, ground := Ground.phase }, { on := 5, ground := Ground.textOnly Departure.lateStoresUnsure }, { on := 6, ground := Ground.phase }, { on := 7, ground := Ground.phase }, { on := 8, ground := Ground.textOnly Departure.lateStoresUnsure }], guard := none }) (v := ?_) rfl (Or.inl ⟨by rfl, ?_⟩) HHeld.out ?_
      rotate_left
      · intro w hSw; clear hSw; go_simp; try with_reducible rfl
      try simp only [pu, pn, s1, s2, s3]
      refine wpAnyH_ready (rs := [5]) (by kernel_rfl) (by simp) ?_
      refine AllReadyH.cons (o := { dst := some 10, op := Op.call { callee := Callee.value (Operand.func 49), args := #[Operand.tmp 9], argTypes := #[24] }, type := 24, pos := "inner.go:32", after := #[{ on := 4, ground := Ground.data }, { on := 2, ground := Ground.chain }], guard := none }) rfl (fun K hK => ?_) AllReadyH.nil
      go_simp
      go_at_call 49
      with_reducible refine (C61.out _ H0.out).mono ?_
      rintro e w61 ⟨J2, Jc2, rfl, r, b⟩
      have R61 := Lib.hid (r.base Z0.out); replace R60 := Lib.hid (R60.out.later b); have zz := keep_bel b Z.out; replace Z := Lib.hid zz; replace Y := Lib.hid (keep_bel b Y.out); replace H0 := Lib.hid (bel_trans H0.out b); replace Z0 := Lib.hid (Nat.le_trans Z0.out b.size); clear b r zz c0 c1 c2 c3 c4 f0 f1 f2 f3 f4; obtain ⟨c0, c1, c2, c3, c4⟩ := cells5 Z.out; obtain ⟨f0, f1, f2, f3, f4⟩ := froz5 Z.out
      refine hK.out _ _ ?_ (fun hHeld => ?_)
      · trivial
      clear HHeld; have HHeld := Lib.hid hHeld; clear hHeld
      clear hK K
      try simp only [pu, pn, s1, s2, s3]
      refine wpAnyH_ready (rs := [8]) (by kernel_rfl) (by simp) ?_
      refine AllReadyH.cons (o := { dst := some 13, op := Op.call { callee := Callee.value (Operand.func 50), args := #[Operand.tmp 12], argTypes := #[25] }, type := 25, pos := "inner.go:32", after := #[{ on := 7, ground := Ground.data }, { on := 5, ground := Ground.chain }], guard := none }) rfl (fun K hK => ?_) AllReadyH.nil
      go_simp
      go_at_call 50
      with_reducible refine (C62.out _ H0.out).mono ?_
      rintro e w62 ⟨M2, Mc2, rfl, r, b⟩
      have R62 := Lib.hid (r.base Z0.out); replace R60 := Lib.hid (R60.out.later b); replace R61 := Lib.hid (R61.out.later b); have zz := keep_bel b Z.out; replace Z := Lib.hid zz; replace Y := Lib.hid (keep_bel b Y.out); replace H0 := Lib.hid (bel_trans H0.out b); replace Z0 := Lib.hid (Nat.le_trans Z0.out b.size); clear b r zz c0 c1 c2 c3 c4 f0 f1 f2 f3 f4; obtain ⟨c0, c1, c2, c3, c4⟩ := cells5 Z.out; obtain ⟨f0, f1, f2, f3, f4⟩ := froz5 Z.out
      refine hK.out _ _ ?_ (fun hHeld => ?_)
      · trivial
      clear HHeld; have HHeld := Lib.hid hHeld; clear hHeld
      clear hK K
      try simp only [pu, pn, s1, s2, s3]
      refine wpAnyH_ready (rs := [10]) (by kernel_rfl) (by simp) ?_
      refine AllReadyH.cons (o := { dst := none, op := Op.store 23 (Operand.tmp 14) (Operand.tmp 7), type := 0, pos := "inner.go:32", after := #[{ on := 9, ground := Ground.data }, { on := 2, ground := Ground.data }, { on := 8, ground := Ground.chain }, { on := 0, ground := Ground.phase }, { on := 1, ground := Ground.phase }, { on := 2, ground := Ground.phase }, { on := 3, ground := Ground.phase }, { on := 4, ground := Ground.phase }, { on := 5, ground := Ground.textOnly Departure.lateStoresUnsure }, { on := 6, ground := Ground.phase }, { on := 7, ground := Ground.phase }, { on := 8, ground := Ground.textOnly Departure.lateStoresUnsure }], guard := none }) rfl (fun K hK => ?_) AllReadyH.nil
      go_simp
      generalize hW : World.setCell _ _ _ = W1
      have HC := Lib.hid (show Chg (fun g => g = w.heap.size) _ W1 by rw [← hW]; exact Chg.set _ _ rfl)
      replace R60 := Lib.hid (R60.out.chgB HC.out (by omega)); replace R61 := Lib.hid (R61.out.chgB HC.out (by omega)); replace R62 := Lib.hid (R62.out.chgB HC.out (by omega)); have zz : W1.heap[w.heap.size]? = some (NO kd (.slice P2 n Pc2) (.slice J k kc) (.slice M m mc) (.slice B 0 bc)) := (by rw [← hW]; exact set5_1 Z.out _); replace Z := Lib.hid zz; replace Y := Lib.hid (keep_chg HC.out Y.out (by omega)); replace H0 := Lib.hid (bel_chg H0.out HC.out (Nat.le_refl _)); clear zz hW HC c0 c1 c2 c3 c4 f0 f1 f2 f3 f4; obtain ⟨c0, c1, c2, c3, c4⟩ := cells5 Z.out; obtain ⟨f0, f1, f2, f3, f4⟩ := froz5 Z.out
      refine hK.out _ _ ?_ (fun hHeld => ?_)
      · trivial
      clear HHeld; have HHeld := Lib.hid hHeld; clear hHeld
      clear hK K
      try simp only [pu, pn, s1, s2, s3]
      refine wT (i := 11) (oi := { dst := some 15, op := Op.fieldAddr 28 (Operand.tmp 1) 2, type := 0, pos := "inner.go:32", after := #[{ on := 0, ground := Ground.phase }, { on := 1, ground := Ground.phase }, { on := 2, ground := Ground.phase }, { on := 3, ground := Ground.phase }, { on := 4, ground := Ground.phase }, { on := 5, ground := Ground.phase }, { on := 6, ground := Ground.phase }, { on := 7, ground := Ground.phase }, { on := 8, ground := Ground.textOnly Departure.lateStoresUnsure }, { on := 9, ground := Ground.phase }, { on := 10, ground := Ground.phase }], guard := none }) (v := ?_) rfl (Or.inl ⟨by rfl, ?_⟩) HHeld.out ?_
      rotate_left
      · intro w hSw; clear hSw; go_simp; try with_reducible rfl
      try simp only [pu, pn, s1, s2, s3]
      refine wpAnyH_ready (rs := [12]) (by kernel_rfl) (by simp) ?_
      refine AllReadyH.cons (o := { dst := none, op := Op.store 24 (Operand.tmp 15) (Operand.tmp 10), type := 0, pos := "inner.go:32", after := #[{ on := 11, ground := Ground.data }, { on := 5, ground := Ground.data }, { on := 10, ground := Ground.chain }, { on := 0, ground := Ground.phase }, { on := 1, ground := Ground.phase }, { on := 2, ground := Ground.phase }, { on := 3, ground := Ground.phase }, { on := 4, ground := Ground.phase }, { on := 5, ground := Ground.phase }, { on := 6, ground := Ground.phase }, { on := 7, ground := Ground.phase }, { on := 8, ground := Ground.textOnly Departure.lateStoresUnsure }, { on := 9, ground := Ground.phase }, { on := 10, ground := Ground.phase }], guard := none }) rfl (fun K hK => ?_) AllReadyH.nil
      go_simp
      generalize hW : World.setCell _ _ _ = W2
      have HC := Lib.hid (show Chg (fun g => g = w.heap.size) _ W2 by rw [← hW]; exact Chg.set _ _ rfl)
      replace R60 := Lib.hid (R60.out.chgB HC.out (by omega)); replace R61 := Lib.hid (R61.out.chgB HC.out (by omega)); replace R62 := Lib.hid (R62.out.chgB HC.out (by omega)); have zz : W2.heap[w.heap.size]? = some (NO kd (.slice P2 n Pc2) (.slice J2 k Jc2) (.slice M m mc) (.slice B 0 bc)) := (by rw [← hW]; exact set5_2 Z.out _); replace Z := Lib.hid zz; replace Y := Lib.hid (keep_chg HC.out Y.out (by omega)); replace H0 := Lib.hid (bel_chg H0.out HC.out (Nat.le_refl _)); clear zz hW HC c0 c1 c2 c3 c4 f0 f1 f2 f3 f4; obtain ⟨c0, c1, c2, c3, c4⟩ := cells5 Z.out; obtain ⟨f0, f1, f2, f3, f4⟩ := froz5 Z.out
      refine hK.out _ _ ?_ (fun hHeld => ?_)
      · trivial
      clear HHeld; have HHeld := Lib.hid hHeld; clear hHeld
      clear hK K
      try simp only [pu, pn, s1, s2, s3]
      refine wT (i := 13) (oi := { dst := some 16, op := Op.fieldAddr 28 (Operand.tmp 1) 3, type := 0, pos := "inner.go:32", after := #[{ on := 0, ground := Ground.phase }, { on := 1, ground := Ground.phase }, { on := 2, ground := Ground.phase }, { on := 3, ground := Ground.phase }, { on := 4, ground := Ground.phase }, { on := 5, ground := Ground.phase }, { on := 6, ground := Ground.phase }, { on := 7, ground := Ground.phase }, { on := 8, ground := Ground.phase }, { on := 9, ground := Ground.phase }, { on := 10, ground := Ground.phase }, { on := 11, ground := Ground.phase }, { on := 12, ground := Ground.phase }], guard := none }) (v := ?_) rfl (Or.inl ⟨by rfl, ?_⟩) HHeld.out ?_
      rotate_left
      · intro w hSw; clear hSw; go_simp; try with_reducible rfl
      try simp only [pu, pn, s1, s2, s3]
      refine wpAnyH_ready (rs := [14]) (by kernel_rfl) (by simp) ?_
      refine AllReadyH.cons (o := { dst := none, op := Op.store 25 (Operand.tmp 16) (Operand.tmp 13), type := 0, pos := "inner.go:32", after := #[{ on := 13, ground := Ground.data }, { on := 8, ground := Ground.data }, { on := 12, ground := Ground.chain }, { on := 0, ground := Ground.phase }, { on := 1, ground := Ground.phase }, { on := 2, ground := Ground.phase }, { on := 3, ground := Ground.phase }, { on := 4, ground := Ground.phase }, { on := 5, ground := Ground.phase }, { on := 6, ground := Ground.phase }, { on := 7, ground := Ground.phase }, { on := 8, ground := Ground.phase }, { on := 9, ground := Ground.phase }, { on := 10, ground := Ground.phase }, { on := 11, ground := Ground.phase }, { on := 12, ground := Ground.phase }], guard := none }) rfl (fun K hK => ?_) AllReadyH.nil
      go_simp
      generalize hW : World.setCell _ _ _ = W3
      have HC := Lib.hid (show Chg (fun g => g = w.heap.size) _ W3 by rw [← hW]; exact Chg.set _ _ rfl)
      replace R60 := Lib.hid (R60.out.chgB HC.out (by omega)); replace R61 := Lib.hid (R61.out.chgB HC.out (by omega)); replace R62 := Lib.hid (R62.out.chgB HC.out (by omega)); have zz : W3.heap[w.heap.size]? = some (NO kd (.slice P2 n Pc2) (.slice J2 k Jc2) (.slice M2 m Mc2) (.slice B 0 bc)) := (by rw [← hW]; exact set5_3 Z.out _); replace Z := Lib.hid zz; replace Y := Lib.hid (keep_chg HC.out Y.out (by omega)); replace H0 := Lib.hid (bel_chg H0.out HC.out (Nat.le_refl _)); clear zz hW HC c0 c1 c2 c3 c4 f0 f1 f2 f3 f4; obtain ⟨c0, c1, c2, c3, c4⟩ := cells5 Z.out; obtain ⟨f0, f1, f2, f3, f4⟩ := froz5 Z.out
      refine hK.out _ _ ?_ (fun hHeld => ?_)
      · trivial
      clear HHeld; have HHeld := Lib.hid hHeld; clear hHeld
      clear hK K
      try simp only [pu, pn, s1, s2, s3]
      refine wpAnyH_done (by kernel_rfl) ?_ _
      clear HHeld
      exact CONT _ _ _ _ _ _ _ Z.out Y.out (R3.mk R60.out R61.out R62.out) H0.out
  · go_simp
    refine hK.out _ _ ?_ (fun hHeld => ?_)
    · trivial
    clear HHeld; have HHeld := Lib.hid hHeld; clear hHeld
    clear hK K
    try simp only [pu, pn, s1, s2, s3]
    refine wpAnyH_ready (rs := [1, 4]) (by kernel_rfl) (by simp) ?_
    refine AllReadyH.cons (o := { dst := some 6, op := Op.load 23 (Operand.tmp 5), type := 23, pos := "inner.go:32", after := #[{ on := 0, ground := Ground.data }], guard := none }) rfl (fun K hK => ?_) (AllReadyH.cons (o := { dst := some 9, op := Op.load 24 (Operand.tmp 8), type := 24, pos := "inner.go:32", after := #[{ on := 3, ground := Ground.data }], guard := none }) rfl (fun K hK => ?_) AllReadyH.nil)
    · go_simp
      refine hK.out _ _ ?_ (fun hHeld => ?_)
      · trivial
      clear HHeld; have HHeld := Lib.hid hHeld; clear hHeld
      clear hK K
      try simp only [pu, pn, s1, s2, s3]
      refine wpAnyH_ready (rs := [2, 4]) (by kernel_rfl) (by simp) ?_
      refine AllReadyH.cons (o := { dst := some 7, op := Op.call { callee := Callee.value (Operand.func 48), args := #[Operand.tmp 6], argTypes := #[23] }, type := 23, pos := "inner.go:32", after := #[{ on := 1, ground := Ground.data }], guard := none }) rfl (fun K hK => ?_) (AllReadyH.cons (o := { dst := some 9, op := Op.load 24 (Operand.tmp 8), type := 24, pos := "inner.go:32", after := #[{ on := 3, ground := Ground.data }], guard := none }) rfl (fun K hK => ?_) AllReadyH.nil)
      · go_simp
        go_at_call 48
        with_reducible refine (C60.out _ H0.out).mono ?_
        rintro e w60 ⟨P2, Pc2, rfl, r, b⟩
        have R60 := Lib.hid (r.base Z0.out); have zz := keep_bel b Z.out; replace Z := Lib.hid zz; replace Y := Lib.hid (keep_bel b Y.out); replace H0 := Lib.hid (bel_trans H0.out b); replace Z0 := Lib.hid (Nat.le_trans Z0.out b.size); clear b r zz c0 c1 c2 c3 c4 f0 f1 f2 f3 f4; obtain ⟨c0, c1, c2, c3, c4⟩ := cells5 Z.out; obtain ⟨f0, f1, f2, f3, f4⟩ := froz5 Z.out
        refine hK.out _ _ ?_ (fun hHeld => ?_)
        · trivial
        clear HHeld; have HHeld := Lib.hid hHeld; clear hHeld
        clear hK K
        try simp only [pu, pn, s1, s2, s3]
        refine wpAnyH_ready (rs := [4]) (by kernel_rfl) (by simp) ?_
        refine AllReadyH.cons (o := { dst := some 9, op := Op.load 24 (Operand.tmp 8), type := 24, pos := "inner.go:32", after := #[{ on := 3, ground := Ground.data }], guard := none }) rfl (fun K hK => ?_) AllReadyH.nil
        go_simp
        refine hK.out _ _ ?_ (fun hHeld => ?_)
        · trivial
        clear HHeld; have HHeld := Lib.hid hHeld; clear hHeld
        clear hK K
        try simp only [pu, pn, s1, s2, s3]
        refine wT (i := 9) (oi := { dst := some 14, op := Op.fieldAddr 28 (Operand.tmp 1) 1, type := 0, pos := "inner.go:32", after := #[{ on := 0, ground := Ground.phase }, { on := 1, ground := Ground.phase }, { on := 2, ground := Ground.phase }, { on := 3, ground := Ground.phase }, { on := 4, ground := Ground.phase }, { on := 5, ground := Ground.textOnly Departure.lateStoresUnsure }, { on := 6, ground := Ground.phase }, { on := 7, ground := Ground.phase }, { on := 8, ground := Ground.textOnly Departure.lateStoresUnsure }], guard := none }) (v := ?_) rfl (Or.inl ⟨by rfl, ?_⟩) HHeld.out ?_
        rotate_left
        · intro w hSw; clear hSw; go_simp; try with_reducible rfl
        try simp only [pu, pn, s1, s2, s3]
        refine wpAnyH_ready (rs := [5]) (by kernel_rfl) (by simp) ?_
        refine AllReadyH.cons (o := { dst := some 10, op := Op.call { callee := Callee.value (Operand.func 49), args := #[Operand.tmp 9], argTypes := #[24] }, type := 24, pos := "inner.go:32", after := #[{ on := 4, ground := Ground.data }, { on := 2, ground := Ground.chain }], guard := none }) rfl (fun K hK => ?_) AllReadyH.nil
        go_simp
        go_at_call 49
        with_reducible refine (C61.out _ H0.out).mono ?_
        rintro e w61 ⟨J2, Jc2, rfl, r, b⟩
        have R61 := Lib.hid (r.base Z0.out); replace R60 := Lib.hid (R60.out.later b); have zz := keep_bel b Z.out; replace Z := Lib.hid zz; replace Y := Lib.hid (keep_bel b Y.out); replace H0 := Lib.hid (bel_trans H0.out b); replace Z0 := Lib.hid (Nat.le_trans Z0.out b.size); clear b r zz c0 c1 c2 c3 c4 f0 f1 f2 f3 f4; obtain ⟨c0, c1, c2, c3, c4⟩ := cells5 Z.out; obtain ⟨f0, f1, f2, f3, f4⟩ := froz5 Z.out
        refine hK.out _ _ ?_ (fun hHeld => ?_)
        · trivial
        clear HHeld; have HHeld := Lib.hid hHeld; clear hHeld
        clear hK K
        try simp only [pu, pn, s1, s2, s3]
        refine wpAnyH_ready (rs := [8]) (by kernel_rfl) (by simp) ?_
        refine AllReadyH.cons (o := { dst := some 13, op := Op.call { callee := Callee.value (Operand.func 50), args := #[Operand.tmp 12], argTypes := #[25] }, type := 25, pos := "inner.go:32", after := #[{ on := 7, ground := Ground.data }, { on := 5, ground := Ground.chain }], guard := none }) rfl (fun K hK => ?_) AllReadyH.nil
        go_simp
        go_at_call 50
        with_reducible refine (C62.out _ H0.out).mono ?_
        rintro e w62 ⟨M2, Mc2, rfl, r, b⟩
        have R62 := Lib.hid (r.base Z0.out); replace R60 := Lib.hid (R60.out.later b); replace R61 := Lib.hid (R61.out.later b); have zz := keep_bel b Z.out; replace Z := Lib.hid zz; replace Y := Lib.hid (keep_bel b Y.out); replace H0 := Lib.hid (bel_trans H0.out b); replace Z0 := Lib.hid (Nat.le_trans Z0.out b.size); clear b r zz c0 c1 c2 c3 c4 f0 f1 f2 f3 f4; obtain ⟨c0, c1, c2, c3, c4⟩ := cells5 Z.out; obtain ⟨f0, f1, f2, f3, f4⟩ := froz5 Z.out
        refine hK.out _ _ ?_ (fun hHeld => ?_)
        · trivial
        clear HHeld; have HHeld := Lib.hid hHeld; clear hHeld
        clear hK K
        try simp only [pu, pn, s1, s2, s3]
        refine wpAnyH_ready (rs := [10]) (by kernel_rfl) (by simp) ?_
        refine AllReadyH.cons (o := { dst := none, op := Op.store 23 (Operand.tmp 14) (Operand.tmp 7), type := 0, pos := "inner.go:32", after := #[{ on := 9, ground := Ground.data }, { on := 2, ground := Ground.data }, { on := 8, ground := Ground.chain }, { on := 0, ground := Ground.phase }, { on := 1, ground := Ground.phase }, { on := 2, ground := Ground.phase }, { on := 3, ground := Ground.phase }, { on := 4, ground := Ground.phase }, { on := 5, ground := Ground.textOnly Departure.lateStoresUnsure }, { on := 6, ground := Ground.phase }, { on := 7, ground := Ground.phase }, { on := 8, ground := Ground.textOnly Departure.lateStoresUnsure }], guard := none }) rfl (fun K hK => ?_) AllReadyH.nil
        go_simp
        generalize hW : World.setCell _ _ _ = W1
        have HC := Lib.hid (show Chg (fun g => g = w.heap.size) _ W1 by rw [← hW]; exact Chg.set _ _ rfl)
        replace R60 := Lib.hid (R60.out.chgB HC.out (by omega)); replace R61 := Lib.hid (R61.out.chgB HC.out (by omega)); replace R62 := Lib.hid (R62.out.chgB HC.out (by omega)); have zz : W1.heap[w.heap.size]? = some (NO kd (.slice P2 n Pc2) (.slice J k kc) (.slice M m mc) (.slice B 0 bc)) := (by rw [← hW]; exact set5_1 Z.out _); replace Z := Lib.hid zz; replace Y := Lib.hid (keep_chg HC.out Y.out (by omega)); replace H0 := Lib.hid (bel_chg H0.out HC.out (Nat.le_refl _)); clear zz hW HC c0 c1 c2 c3 c4 f0 f1 f2 f3 f4; obtain ⟨c0, c1, c2, c3, c4⟩ := cells5 Z.out; obtain ⟨f0, f1, f2, f3, f4⟩ := froz5 Z.out
        refine hK.out _ _ ?_ (fun hHeld => ?_)
        · trivial
        clear HHeld; have HHeld := Lib.hid hHeld; clear hHeld
        clear hK K
        try simp only [pu, pn, s1, s2, s3]
        refine wT (i := 11) (oi := { dst := some 15, op := Op.fieldAddr 28 (Operand.tmp 1) 2, type := 0, pos := "inner.go:32", after := #[{ on := 0, ground := Ground.phase }, { on := 1, ground := Ground.phase }, { on := 2, ground := Ground.phase }, { on := 3, ground := Ground.phase }, { on := 4, ground := Ground.phase }, { on := 5, ground := Ground.phase }, { on := 6, ground := Ground.phase }, { on := 7, ground := Ground.phase }, { on := 8, ground := Ground.textOnly Departure.lateStoresUnsure }, { on := 9, ground := Ground.phase }, { on := 10, ground := Ground.phase }], guard := none }) (v := ?_) rfl (Or.inl ⟨by rfl, ?_⟩) HHeld.out ?_
        rotate_left
        · intro w hSw; clear hSw; go_simp; try with_reducible rfl
        try simp only [pu, pn, s1, s2, s3]
        refine wpAnyH_ready (rs := [12]) (by kernel_rfl) (by simp) ?_
        refine AllReadyH.cons (o := { dst := none, op := Op.store 24 (Operand.tmp 15) (Operand.tmp 10), type := 0, pos := "inner.go:32", after := #[{ on := 11, ground := Ground.data }, { on := 5, ground := Ground.data }, { on := 10, ground := Ground.chain }, { on := 0, ground := Ground.phase }, { on := 1, ground := Ground.phase }, { on := 2, ground := Ground.phase }, { on := 3, ground := Ground.phase }, { on := 4, ground := Ground.phase }, { on := 5, ground := Ground.phase }, { on := 6, ground := Ground.phase }, { on := 7, ground := Ground.phase }, { on := 8, ground := Ground.textOnly Departure.lateStoresUnsure }, { on := 9, ground := Ground.phase }, { on := 10, ground := Ground.phase }], guard := none }) rfl (fun K hK => ?_) AllReadyH.nil
        go_simp
        generalize hW : World.setCell _ _ _ = W2
        have HC := Lib.hid (show Chg (fun g => g = w.heap.size) _ W2 by rw [← hW]; exact Chg.set _ _ rfl)
        replace R60 := Lib.hid (R60.out.chgB HC.out (by omega)); replace R61 := Lib.hid (R61.out.chgB HC.out (by omega)); replace R62 := Lib.hid (R62.out.chgB HC.out (by omega)); have zz : W2.heap[w.heap.size]? = some (NO kd (.slice P2 n Pc2) (.slice J2 k Jc2) (.slice M m mc) (.slice B 0 bc)) := (by rw [← hW]; exact set5_2 Z.out _); replace Z := Lib.hid zz; replace Y := Lib.hid (keep_chg HC.out Y.out (by omega)); replace H0 := Lib.hid (bel_chg H0.out HC.out (Nat.le_refl _)); clear zz hW HC c0 c1 c2 c3 c4 f0 f1 f2 f3 f4; obtain ⟨c0, c1, c2, c3, c4⟩ := cells5 Z.out; obtain ⟨f0, f1, f2, f3, f4⟩ := froz5 Z.out
        refine hK.out _ _ ?_ (fun hHeld => ?_)
        · trivial
        clear HHeld; have HHeld := Lib.hid hHeld; clear hHeld
        clear hK K
        try simp only [pu, pn, s1, s2, s3]
        refine wT (i := 13) (oi := { dst := some 16, op := Op.fieldAddr 28 (Operand.tmp 1) 3, type := 0, pos := "inner.go:32", after := #[{ on := 0, ground := Ground.phase }, { on := 1, ground := Ground.phase }, { on := 2, ground := Ground.phase }, { on := 3, ground := Ground.phase }, { on := 4, ground := Ground.phase }, { on := 5, ground := Ground.phase }, { on := 6, ground := Ground.phase }, { on := 7, ground := Ground.phase }, { on := 8, ground := Ground.phase }, { on := 9, ground := Ground.phase }, { on := 10, ground := Ground.phase }, { on := 11, ground := Ground.phase }, { on := 12, ground := Ground.phase }], guard := none }) (v := ?_) rfl (Or.inl ⟨by rfl, ?_⟩) HHeld.out ?_
        rotate_left
        · intro w hSw; clear hSw; go_simp; try with_reducible rfl
        try simp only [pu, pn, s1, s2, s3]
        refine wpAnyH_ready (rs := [14]) (by kernel_rfl) (by simp) ?_
        refine AllReadyH.cons (o := { dst := none, op := Op.store 25 (Operand.tmp 16) (Operand.tmp 13), type := 0, pos := "inner.go:32", after := #[{ on := 13, ground := Ground.data }, { on := 8, ground := Ground.data }, { on := 12, ground := Ground.chain }, { on := 0, ground := Ground.phase }, { on := 1, ground := Ground.phase }, { on := 2, ground := Ground.phase }, { on := 3, ground := Ground.phase }, { on := 4, ground := Ground.phase }, { on := 5, ground := Ground.phase }, { on := 6, ground := Ground.phase }, { on := 7, ground := Ground.phase }, { on := 8, ground := Ground.phase }, { on := 9, ground := Ground.phase }, { on := 10, ground := Ground.phase }, { on := 11, ground := Ground.phase }, { on := 12, ground := Ground.phase }], guard := none }) rfl (fun K hK => ?_) AllReadyH.nil
        go_simp
        generalize hW : World.setCell _ _ _ = W3
        have HC := Lib.hid (show Chg (fun g => g = w.heap.size) _ W3 by rw [← hW]; exact Chg.set _ _ rfl)
        replace R60 := Lib.hid (R60.out.chgB HC.out (by omega)); replace R61 := Lib.hid (R61.out.chgB HC.out (by omega)); replace R62 := Lib.hid (R62.out.chgB HC.out (by omega)); have zz : W3.heap[w.heap.size]? = some (NO kd (.slice P2 n Pc2) (.slice J2 k Jc2) (.slice M2 m Mc2) (.slice B 0 bc)) := (by rw [← hW]; exact set5_3 Z.out _); replace Z := Lib.hid zz; replace Y := Lib.hid (keep_chg HC.out Y.out (by omega)); replace H0 := Lib.hid (bel_chg H0.out HC.out (Nat.le_refl _)); clear zz hW HC c0 c1 c2 c3 c4 f0 f1 f2 f3 f4; obtain ⟨c0, c1, c2, c3, c4⟩ := cells5 Z.out; obtain ⟨f0, f1, f2, f3, f4⟩ := froz5 Z.out
        refine hK.out _ _ ?_ (fun hHeld => ?_)
        · trivial
        clear HHeld; have HHeld := Lib.hid hHeld; clear hHeld
        clear hK K
        try simp only [pu, pn, s1, s2, s3]
        refine wpAnyH_done (by kernel_rfl) ?_ _
        clear HHeld
        exact CONT _ _ _ _ _ _ _ Z.out Y.out (R3.mk R60.out R61.out R62.out) H0.out
      · go_simp
        refine hK.out _ _ ?_ (fun hHeld => ?_)
        · trivial
        clear HHeld; have HHeld := Lib.hid hHeld; clear hHeld
        clear hK K
        try simp only [pu, pn, s1, s2, s3]
        refine wpAnyH_ready (rs := [2]) (by kernel_rfl) (by simp) ?_
        refine AllReadyH.cons (o := { dst := some 7, op := Op.call { callee := Callee.value (Operand.func 48), args := #[Operand.tmp 6], argTypes := #[23] }, type := 23, pos := "inner.go:32", after := #[{ on := 1, ground := Ground.data }], guard := none }) rfl (fun K hK => ?_) AllReadyH.nil
        go_simp
        go_at_call 48
        with_reducible refine (C60.out _ H0.out).mono ?_
        rintro e w60 ⟨P2, Pc2, rfl, r, b⟩
        have R60 := Lib.hid (r.base Z0.out); have zz := keep_bel b Z.out; replace Z := Lib.hid zz; replace Y := Lib.hid (keep_bel b Y.out); replace H0 := Lib.hid (bel_trans H0.out b); replace Z0 := Lib.hid (Nat.le_trans Z0.out b.size); clear b r zz c0 c1 c2 c3 c4 f0 f1 f2 f3 f4; obtain ⟨c0, c1, c2, c3, c4⟩ := cells5 Z.out; obtain ⟨f0, f1, f2, f3, f4⟩ := froz5 Z.out
        refine hK.out _ _ ?_ (fun hHeld => ?_)
        · trivial
        clear HHeld; have HHeld := Lib.hid hHeld; clear hHeld
        clear hK K
        try simp only [pu, pn, s1, s2, s3]
        refine wT (i := 9) (oi := { dst := some 14, op := Op.fieldAddr 28 (Operand.tmp 1) 1, type := 0, pos := "inner.go:32", after := #[{ on := 0, ground := Ground.phase }, { on := 1, ground := Ground.phase }, { on := 2, ground := Ground.phase }, { on := 3, ground := Ground.phase }, { on := 4, ground := Ground.phase }, { on := 5, ground := Ground.textOnly Departure.lateStoresUnsure }, { on := 6, ground := Ground.phase }, { on := 7, ground := Ground.phase }, { on := 8, ground := Ground.textOnly Departure.lateStoresUnsure }], guard := none }) (v := ?_) rfl (Or.inl ⟨by rfl, ?_⟩) HHeld.out ?_
        rotate_left
        · intro w hSw; clear hSw; go_simp; try with_reducible rfl
        try simp only [pu, pn, s1, s2, s3]
        refine wpAnyH_ready (rs := [5]) (by kernel_rfl) (by simp) ?_
        refine AllReadyH.cons (o := { dst := some 10, op := Op.call { callee := Callee.value (Operand.func 49), args := #[Operand.tmp 9], argTypes := #[24] }, type := 24, pos := "inner.go:32", after := #[{ on := 4, ground := Ground.data }, { on := 2, ground := Ground.chain }], guard := none }) rfl (fun K hK => ?_) AllReadyH.nil
        go_simp
        go_at_call 49
        with_reducible refine (C61.out _ H0.out).mono ?_
        rintro e w61 ⟨J2, Jc2, rfl, r, b⟩
        have R61 := Lib.hid (r.base Z0.out); replace R60 := Lib.hid (R60.out.later b); have zz := keep_bel b Z.out; replace Z := Lib.hid zz; replace Y := Lib.hid (keep_bel b Y.out); replace H0 := Lib.hid (bel_trans H0.out b); replace Z0 := Lib.hid (Nat.le_trans Z0.out b.size); clear b r zz c0 c1 c2 c3 c4 f0 f1 f2 f3 f4; obtain ⟨c0, c1, c2, c3, c4⟩ := cells5 Z.out; obtain ⟨f0, f1, f2, f3, f4⟩ := froz5 Z.out
        refine hK.out _ _ ?_ (fun hHeld => ?_)
        · trivial
        clear HHeld; have HHeld := Lib.hid hHeld; clear hHeld
        clear hK K
        try simp only [pu, pn, s1, s2, s3]
        refine wpAnyH_ready (rs := [8]) (by kernel_rfl) (by simp) ?_
        refine AllReadyH.cons (o := { dst := some 13, op := Op.call { callee := Callee.value (Operand.func 50), args := #[Operand.tmp 12], argTypes := #[25] }, type := 25, pos := "inner.go:32", after := #[{ on := 7, ground := Ground.data }, { on := 5, ground := Ground.chain }], guard := none }) rfl (fun K hK => ?_) AllReadyH.nil
        go_simp
        go_at_call 50
        with_reducible refine (C62.out _ H0.out).mono ?_
        rintro e w62 ⟨M2, Mc2, rfl, r, b⟩
        have R62 := Lib.hid (r.base Z0.out); replace R60 := Lib.hid (R60.out.later b); replace R61 := Lib.hid (R61.out.later b); have zz := keep_bel b Z.out; replace Z := Lib.hid zz; replace Y := Lib.hid (keep_bel b Y.out); replace H0 := Lib.hid (bel_trans H0.out b); replace Z0 := Lib.hid (Nat.le_trans Z0.out b.size); clear b r zz c0 c1 c2 c3 c4 f0 f1 f2 f3 f4; obtain ⟨c0, c1, c2, c3, c4⟩ := cells5 Z.out; obtain ⟨f0, f1, f2, f3, f4⟩ := froz5 Z.out
        refine hK.out _ _ ?_ (fun hHeld => ?_)
        · trivial
        clear HHeld; have HHeld := Lib.hid hHeld; clear hHeld
        clear hK K
        try simp only [pu, pn, s1, s2, s3]
        refine wpAnyH_ready (rs := [10]) (by kernel_rfl) (by simp) ?_
        refine AllReadyH.cons (o := { dst := none, op := Op.store 23 (Operand.tmp 14) (Operand.tmp 7), type := 0, pos := "inner.go:32", after := #[{ on := 9, ground := Ground.data }, { on := 2, ground := Ground.data }, { on := 8, ground := Ground.chain }, { on := 0, ground := Ground.phase }, { on := 1, ground := Ground.phase }, { on := 2, ground := Ground.phase }, { on := 3, ground := Ground.phase }, { on := 4, ground := Ground.phase }, { on := 5, ground := Ground.textOnly Departure.lateStoresUnsure }, { on := 6, ground := Ground.phase }, { on := 7, ground := Ground.phase }, { on := 8, ground := Ground.textOnly Departure.lateStoresUnsure }], guard := none }) rfl (fun K hK => ?_) AllReadyH.nil
        go_simp
        generalize hW : World.setCell _ _ _ = W1
        have HC := Lib.hid (show Chg (fun g => g = w.heap.size) _ W1 by rw [← hW]; exact Chg.set _ _ rfl)
        replace R60 := Lib.hid (R60.out.chgB HC.out (by omega)); replace R61 := Lib.hid (R61.out.chgB HC.out (by omega)); replace R62 := Lib.hid (R62.out.chgB HC.out (by omega)); have zz : W1.heap[w.heap.size]? = some (NO kd (.slice P2 n Pc2) (.slice J k kc) (.slice M m mc) (.slice B 0 bc)) := (by rw [← hW]; exact set5_1 Z.out _); replace Z := Lib.hid zz; replace Y := Lib.hid (keep_chg HC.out Y.out (by omega)); replace H0 := Lib.hid (bel_chg H0.out HC.out (Nat.le_refl _)); clear zz hW HC c0 c1 c2 c3 c4 f0 f1 f2 f3 f4; obtain ⟨c0, c1, c2, c3, c4⟩ := cells5 Z.out; obtain ⟨f0, f1, f2, f3, f4⟩ := froz5 Z.out
        refine hK.out _ _ ?_ (fun hHeld => ?_)
        · trivial
        clear HHeld; have HHeld := Lib.hid hHeld; clear hHeld
        clear hK K
        try simp only [pu, pn, s1, s2, s3]
        refine wT (i := 11) (oi := { dst := some 15, op := Op.fieldAddr 28 (Operand.tmp 1) 2, type := 0, pos := "inner.go:32", after := #[{ on := 0, ground := Ground.phase }, { on := 1, ground := Ground.phase }, { on := 2, ground := Ground.phase }, { on := 3, ground := Ground.phase }, { on := 4, ground := Ground.phase }, { on := 5, ground := Ground.phase }, { on := 6, ground := Ground.phase }, { on := 7, ground := Ground.phase }, { on := 8, ground := Ground.textOnly Departure.lateStoresUnsure }, { on := 9, ground := Ground.phase }, { on := 10, ground := Ground.phase }], guard := none }) (v := ?_) rfl (Or.inl ⟨by rfl, ?_⟩) HHeld.out ?_
        rotate_left
        · intro w hSw; clear hSw; go_simp; try with_reducible rfl
        try simp only [pu, pn, s1, s2, s3]
        refine wpAnyH_ready (rs := [12]) (by kernel_rfl) (by simp) ?_
        refine AllReadyH.cons (o := { dst := none, op := Op.store 24 (Operand.tmp 15) (Operand.tmp 10), type := 0, pos := "inner.go:32", after := #[{ on := 11, ground := Ground.data }, { on := 5, ground := Ground.data }, { on := 10, ground := Ground.chain }, { on := 0, ground := Ground.phase }, { on := 1, ground := Ground.phase }, { on := 2, ground := Ground.phase }, { on := 3, ground := Ground.phase }, { on := 4, ground := Ground.phase }, { on := 5, ground := Ground.phase }, { on := 6, ground := Ground.phase }, { on := 7, ground := Ground.phase }, { on := 8, ground := Ground.textOnly Departure.lateStoresUnsure }, { on := 9, ground := Ground.phase }, { on := 10, ground := Ground.phase }], guard := none }) rfl (fun K hK => ?_) AllReadyH.nil
        go_simp
        generalize hW : World.setCell _ _ _ = W2
        have HC := Lib.hid (show Chg (fun g => g = w.heap.size) _ W2 by rw [← hW]; exact Chg.set _ _ rfl)
        replace R60 := Lib.hid (R60.out.chgB HC.out (by omega)); replace R61 := Lib.hid (R61.out.chgB HC.out (by omega)); replace R62 := Lib.hid (R62.out.chgB HC.out (by omega)); have zz : W2.heap[w.heap.size]? = some (NO kd (.slice P2 n Pc2) (.slice J2 k Jc2) (.slice M m mc) (.slice B 0 bc)) := (by rw [← hW]; exact set5_2 Z.out _); replace Z := Lib.hid zz; replace Y := Lib.hid (keep_chg HC.out Y.out (by omega)); replace H0 := Lib.hid (bel_chg H0.out HC.out (Nat.le_refl _)); clear zz hW HC c0 c1 c2 c3 c4 f0 f1 f2 f3 f4; obtain ⟨c0, c1, c2, c3, c4⟩ := cells5 Z.out; obtain ⟨f0, f1, f2, f3, f4⟩ := froz5 Z.out
        refine hK.out _ _ ?_ (fun hHeld => ?_)
        · trivial
        clear HHeld; have HHeld := Lib.hid hHeld; clear hHeld
        clear hK K
        try simp only [pu, pn, s1, s2, s3]
        refine wT (i := 13) (oi := { dst := some 16, op := Op.fieldAddr 28 (Operand.tmp 1) 3, type := 0, pos := "inner.go:32", after := #[{ on := 0, ground := Ground.phase }, { on := 1, ground := Ground.phase }, { on := 2, ground := Ground.phase }, { on := 3, ground := Ground.phase }, { on := 4, ground := Ground.phase }, { on := 5, ground := Ground.phase }, { on := 6, ground := Ground.phase }, { on := 7, ground := Ground.phase }, { on := 8, ground := Ground.phase }, { on := 9, ground := Ground.phase }, { on := 10, ground := Ground.phase }, { on := 11, ground := Ground.phase }, { on := 12, ground := Ground.phase }], guard := none }) (v := ?_) rfl (Or.inl ⟨by rfl, ?_⟩) HHeld.out ?_
        rotate_left
        · intro w hSw; clear hSw; go_simp; try with_reducible rfl
        try simp only [pu, pn, s1, s2, s3]
        refine wpAnyH_ready (rs := [14]) (by kernel_rfl) (by simp) ?_
        refine AllReadyH.cons (o := { dst := none, op := Op.store 25 (Operand.tmp 16) (Operand.tmp 13), type := 0, pos := "inner.go:32", after := #[{ on := 13, ground := Ground.data }, { on := 8, ground := Ground.data }, { on := 12, ground := Ground.chain }, { on := 0, ground := Ground.phase }, { on := 1, ground := Ground.phase }, { on := 2, ground := Ground.phase }, { on := 3, ground := Ground.phase }, { on := 4, ground := Ground.phase }, { on := 5, ground := Ground.phase }, { on := 6, ground := Ground.phase }, { on := 7, ground := Ground.phase }, { on := 8, ground := Ground.phase }, { on := 9, ground := Ground.phase }, { on := 10, ground := Ground.phase }, { on := 11, ground := Ground.phase }, { on := 12, ground := Ground.phase }], guard := none }) rfl (fun K hK => ?_) AllReadyH.nil
        go_simp
        generalize hW : World.setCell _ _ _ = W3
        have HC := Lib.hid (show Chg (fun g => g = w.heap.size) _ W3 by rw [← hW]; exact Chg.set _ _ rfl)
        replace R60 := Lib.hid (R60.out.chgB HC.out (by omega)); replace R61 := Lib.hid (R61.out.chgB HC.out (by omega)); replace R62 := Lib.hid (R62.out.chgB HC.out (by omega)); have zz : W3.heap[w.heap.size]? = some (NO kd (.slice P2 n Pc2) (.slice J2 k Jc2) (.slice M2 m Mc2) (.slice B 0 bc)) := (by rw [← hW]; exact set5_3 Z.out _); replace Z := Lib.hid zz; replace Y := Lib.hid (keep_chg HC.out Y.out (by omega)); replace H0 := Lib.hid (bel_chg H0.out HC.out (Nat.le_refl _)); clear zz hW HC c0 c1 c2 c3 c4 f0 f1 f2 f3 f4; obtain ⟨c0, c1, c2, c3, c4⟩ := cells5 Z.out; obtain ⟨f0, f1, f2, f3, f4⟩ := froz5 Z.out
        refine hK.out _ _ ?_ (fun hHeld => ?_)
        · trivial
        clear HHeld; have HHeld := Lib.hid hHeld; clear hHeld
        clear hK K
        try simp only [pu, pn, s1, s2, s3]
        refine wpAnyH_done (by kernel_rfl) ?_ _
        clear HHeld
        exact CONT _ _ _ _ _ _ _ Z.out Y.out (R3.mk R60.out R61.out R62.out) H0.out
    · go_simp
      refine hK.out _ _ ?_ (fun hHeld => ?_)
      · trivial
      clear HHeld; have HHeld := Lib.hid hHeld; clear hHeld
      clear hK K
      try simp only [pu, pn, s1, s2, s3]
      refine wpAnyH_ready (rs := [1]) (by kernel_rfl) (by simp) ?_
      refine AllReadyH.cons (o := { dst := some 6, op := Op.load 23 (Operand.tmp 5), type := 23, pos := "inner.go:32", after := #[{ on := 0, ground := Ground.data }], guard := none }) rfl (fun K hK => ?_) AllReadyH.nil
      go_simp
      refine hK.out _ _ ?_ (fun hHeld => ?_)
      · trivial
      clear HHeld; have HHeld := Lib.hid hHeld; clear hHeld
      clear hK K
      try simp only [pu, pn, s1, s2, s3]
      refine wpAnyH_ready (rs := [2]) (by kernel_rfl) (by simp) ?_
      refine AllReadyH.cons (o := { dst := some 7, op := Op.call { callee := Callee.value (Operand.func 48), args := #[Operand.tmp 6], argTypes := #[23] }, type := 23, pos := "inner.go:32", after := #[{ on := 1, ground := Ground.data }], guard := none }) rfl (fun K hK => ?_) AllReadyH.nil
      go_simp
      go_at_call 48
      with_reducible refine (C60.out _ H0.out).mono ?_
      rintro e w60 ⟨P2, Pc2, rfl, r, b⟩
      have R60 := Lib.hid (r.base Z0.out); have zz := keep_bel b Z.out; replace Z := Lib.hid zz; replace Y := Lib.hid (keep_bel b Y.out); replace H0 := Lib.hid (bel_trans H0.out b); replace Z0 := Lib.hid (Nat.le_trans Z0.out b.size); clear b r zz c0 c1 c2 c3 c4 f0 f1 f2 f3 f4; obtain ⟨c0, c1, c2, c3, c4⟩ := cells5 Z.out; obtain ⟨f0, f1, f2, f3, f4⟩ := froz5 Z.out
      refine hK.out _ _ ?_ (fun hHeld => ?_)
      · trivial
      clear HHeld; have HHeld := Lib.hid hHeld; clear hHeld
      clear hK K
      try simp only [pu, pn, s1, s2, s3]
      refine wT (i := 9) (oi := { dst := some 14, op := Op.fieldAddr 28 (Operand.tmp 1) 1, type := 0, pos := "inner.go:32", after := #[{ on := 0, ground := Ground.phase }, { on := 1, ground := Ground.phase }, { on := 2, ground := Ground.phase }, { on := 3, ground := Ground.phase }, { on := 4, ground := Ground.phase }, { on := 5, ground := Ground.textOnly Departure.lateStoresUnsure }, { on := 6, ground := Ground.phase }, { on := 7, ground := Ground.phase }, { on := 8, ground := Ground.textOnly Departure.lateStoresUnsure }], guard := none }) (v := ?_) rfl (Or.inl ⟨by rfl, ?_⟩) HHeld.out ?_
      rotate_left
      · intro w hSw; clear hSw; go_simp; try with_reducible rfl
      try simp only [pu, pn, s1, s2, s3]
      refine wpAnyH_ready (rs := [5]) (by kernel_rfl) (by simp) ?_
      refine AllReadyH.cons (o := { dst := some 10, op := Op.call { callee := Callee.value (Operand.func 49), args := #[Operand.tmp 9], argTypes := #[24] }, type := 24, pos := "inner.go:32", after := #[{ on := 4, ground := Ground.data }, { on := 2, ground := Ground.chain }], guard := none }) rfl (fun K hK => ?_) AllReadyH.nil
      go_simp
      go_at_call 49
      with_reducible refine (C61.out _ H0.out).mono ?_
      rintro e w61 ⟨J2, Jc2, rfl, r, b⟩
      have R61 := Lib.hid (r.base Z0.out); replace R60 := Lib.hid (R60.out.later b); have zz := keep_bel b Z.out; replace Z := Lib.hid zz; replace Y := Lib.hid (keep_bel b Y.out); replace H0 := Lib.hid (bel_trans H0.out b); replace Z0 := Lib.hid (Nat.le_trans Z0.out b.size); clear b r zz c0 c1 c2 c3 c4 f0 f1 f2 f3 f4; obtain ⟨c0, c1, c2, c3, c4⟩ := cells5 Z.out; obtain ⟨f0, f1, f2, f3, f4⟩ := froz5 Z.out
      refine hK.out _ _ ?_ (fun hHeld => ?_)
      · trivial
      clear HHeld; have HHeld := Lib.hid hHeld; clear hHeld
      clear hK K
      try simp only [pu, pn, s1, s2, s3]
      refine wpAnyH_ready (rs := [8]) (by kernel_rfl) (by simp) ?_
      refine AllReadyH.cons (o := { dst := some 13, op := Op.call { callee := Callee.value (Operand.func 50), args := #[Operand.tmp 12], argTypes := #[25] }, type := 25, pos := "inner.go:32", after := #[{ on := 7, ground := Ground.data }, { on := 5, ground := Ground.chain }], guard := none }) rfl (fun K hK => ?_) AllReadyH.nil
      go_simp
      go_at_call 50
      with_reducible refine (C62.out _ H0.out).mono ?_
      rintro e w62 ⟨M2, Mc2, rfl, r, b⟩
      have R62 := Lib.hid (r.base Z0.out); replace R60 := Lib.hid (R60.out.later b); replace R61 := Lib.hid (R61.out.later b); have zz := keep_bel b Z.out; replace Z := Lib.hid zz; replace Y := Lib.hid (keep_bel b Y.out); replace H0 := Lib.hid (bel_trans H0.out b); replace Z0 := Lib.hid (Nat.le_trans Z0.out b.size); clear b r zz c0 c1 c2 c3 c4 f0 f1 f2 f3 f4; obtain ⟨c0, c1, c2, c3, c4⟩ := cells5 Z.out; obtain ⟨f0, f1, f2, f3, f4⟩ := froz5 Z.out
      refine hK.out _ _ ?_ (fun hHeld => ?_)
      · trivial
      clear HHeld; have HHeld := Lib.hid hHeld; clear hHeld
      clear hK K
      try simp only [pu, pn, s1, s2, s3]
      refine wpAnyH_ready (rs := [10]) (by kernel_rfl) (by simp) ?_
      refine AllReadyH.cons (o := { dst := none, op := Op.store 23 (Operand.tmp 14) (Operand.tmp 7), type := 0, pos := "inner.go:32", after := #[{ on := 9, ground := Ground.data }, { on := 2, ground := Ground.data }, { on := 8, ground := Ground.chain }, { on := 0, ground := Ground.phase }, { on := 1, ground := Ground.phase }, { on := 2, ground := Ground.phase }, { on := 3, ground := Ground.phase }, { on := 4, ground := Ground.phase }, { on := 5, ground := Ground.textOnly Departure.lateStoresUnsure }, { on := 6, ground := Ground.phase }, { on := 7, ground := Ground.phase }, { on := 8, ground := Ground.textOnly Departure.lateStoresUnsure }], guard := none }) rfl (fun K hK => ?_) AllReadyH.nil
      go_simp
      generalize hW : World.setCell _ _ _ = W1
      have HC := Lib.hid (show Chg (fun g => g = w.heap.size) _ W1 by rw [← hW]; exact Chg.set _ _ rfl)
      replace R60 := Lib.hid (R60.out.chgB HC.out (by omega)); replace R61 := Lib.hid (R61.out.chgB HC.out (by omega)); replace R62 := Lib.hid (R62.out.chgB HC.out (by omega)); have zz : W1.heap[w.heap.size]? = some (NO kd (.slice P2 n Pc2) (.slice J k kc) (.slice M m mc) (.slice B 0 bc)) := (by rw [← hW]; exact set5_1 Z.out _); replace Z := Lib.hid zz; replace Y := Lib.hid (keep_chg HC.out Y.out (by omega)); replace H0 := Lib.hid (bel_chg H0.out HC.out (Nat.le_refl _)); clear zz hW HC c0 c1 c2 c3 c4 f0 f1 f2 f3 f4; obtain ⟨c0, c1, c2, c3, c4⟩ := cells5 Z.out; obtain ⟨f0, f1, f2, f3, f4⟩ := froz5 Z.out
      refine hK.out _ _ ?_ (fun hHeld => ?_)
      · trivial
      clear HHeld; have HHeld := Lib.hid hHeld; clear hHeld
      clear hK K
      try simp only [pu, pn, s1, s2, s3]
      refine wT (i := 11) (oi := { dst := some 15, op := Op.fieldAddr 28 (Operand.tmp 1) 2, type := 0, pos := "inner.go:32", after := #[{ on := 0, ground := Ground.phase }, { on := 1, ground := Ground.phase }, { on := 2, ground := Ground.phase }, { on := 3, ground := Ground.phase }, { on := 4, ground := Ground.phase }, { on := 5, ground := Ground.phase }, { on := 6, ground := Ground.phase }, { on := 7, ground := Ground.phase }, { on := 8, ground := Ground.textOnly Departure.lateStoresUnsure }, { on := 9, ground := Ground.phase }, { on := 10, ground := Ground.phase }], guard := none }) (v := ?_) rfl (Or.inl ⟨by rfl, ?_⟩) HHeld.out ?_
      rotate_left
      · intro w hSw; clear hSw; go_simp; try with_reducible rfl
      try simp only [pu, pn, s1, s2, s3]
      refine wpAnyH_ready (rs := [12]) (by kernel_rfl) (by simp) ?_
      refine AllReadyH.cons (o := { dst := none, op := Op.store 24 (Operand.tmp 15) (Operand.tmp 10), type := 0, pos := "inner.go:32", after := #[{ on := 11, ground := Ground.data }, { on := 5, ground := Ground.data }, { on := 10, ground := Ground.chain }, { on := 0, ground := Ground.phase }, { on := 1, ground := Ground.phase }, { on := 2, ground := Ground.phase }, { on := 3, ground := Ground.phase }, { on := 4, ground := Ground.phase }, { on := 5, ground := Ground.phase }, { on := 6, ground := Ground.phase }, { on := 7, ground := Ground.phase }, { on := 8, ground := Ground.textOnly Departure.lateStoresUnsure }, { on := 9, ground := Ground.phase }, { on := 10, ground := Ground.phase }], guard := none }) rfl (fun K hK => ?_) AllReadyH.nil
      go_simp
      generalize hW : World.setCell _ _ _ = W2
      have HC := Lib.hid (show Chg (fun g => g = w.heap.size) _ W2 by rw [← hW]; exact Chg.set _ _ rfl)
      replace R60 := Lib.hid (R60.out.chgB HC.out (by omega)); replace R61 := Lib.hid (R61.out.chgB HC.out (by omega)); replace R62 := Lib.hid (R62.out.chgB HC.out (by omega)); have zz : W2.heap[w.heap.size]? = some (NO kd (.slice P2 n Pc2) (.slice J2 k Jc2) (.slice M m mc) (.slice B 0 bc)) := (by rw [← hW]; exact set5_2 Z.out _); replace Z := Lib.hid zz; replace Y := Lib.hid (keep_chg HC.out Y.out (by omega)); replace H0 := Lib.hid (bel_chg H0.out HC.out (Nat.le_refl _)); clear zz hW HC c0 c1 c2 c3 c4 f0 f1 f2 f3 f4; obtain ⟨c0, c1, c2, c3, c4⟩ := cells5 Z.out; obtain ⟨f0, f1, f2, f3, f4⟩ := froz5 Z.out
      refine hK.out _ _ ?_ (fun hHeld => ?_)
      · trivial
      clear HHeld; have HHeld := Lib.hid hHeld; clear hHeld
      clear hK K
      try simp only [pu, pn, s1, s2, s3]
      refine wT (i := 13) (oi := { dst := some 16, op := Op.fieldAddr 28 (Operand.tmp 1) 3, type := 0, pos := "inner.go:32", after := #[{ on := 0, ground := Ground.phase }, { on := 1, ground := Ground.phase }, { on := 2, ground := Ground.phase }, { on := 3, ground := Ground.phase }, { on := 4, ground := Ground.phase }, { on := 5, ground := Ground.phase }, { on := 6, ground := Ground.phase }, { on := 7, ground := Ground.phase }, { on := 8, ground := Ground.phase }, { on := 9, ground := Ground.phase }, { on := 10, ground := Ground.phase }, { on := 11, ground := Ground.phase }, { on := 12, ground := Ground.phase }], guard := none }) (v := ?_) rfl (Or.inl ⟨by rfl, ?_⟩) HHeld.out ?_
      rotate_left
      · intro w hSw; clear hSw; go_simp; try with_reducible rfl
      try simp only [pu, pn, s1, s2, s3]
      refine wpAnyH_ready (rs := [14]) (by kernel_rfl) (by simp) ?_
      refine AllReadyH.cons (o := { dst := none, op := Op.store 25 (Operand.tmp 16) (Operand.tmp 13), type := 0, pos := "inner.go:32", after := #[{ on := 13, ground := Ground.data }, { on := 8, ground := Ground.data }, { on := 12, ground := Ground.chain }, { on := 0, ground := Ground.phase }, { on := 1, ground := Ground.phase }, { on := 2, ground := Ground.phase }, { on := 3, ground := Ground.phase }, { on := 4, ground := Ground.phase }, { on := 5, ground := Ground.phase }, { on := 6, ground := Ground.phase }, { on := 7, ground := Ground.phase }, { on := 8, ground := Ground.phase }, { on := 9, ground := Ground.phase }, { on := 10, ground := Ground.phase }, { on := 11, ground := Ground.phase }, { on := 12, ground := Ground.phase }], guard := none }) rfl (fun K hK => ?_) AllReadyH.nil
      go_simp
      generalize hW : World.setCell _ _ _ = W3
      have HC := Lib.hid (show Chg (fun g => g = w.heap.size) _ W3 by rw [← hW]; exact Chg.set _ _ rfl)
      replace R60 := Lib.hid (R60.out.chgB HC.out (by omega)); replace R61 := Lib.hid (R61.out.chgB HC.out (by omega)); replace R62 := Lib.hid (R62.out.chgB HC.out (by omega)); have zz : W3.heap[w.heap.size]? = some (NO kd (.slice P2 n Pc2) (.slice J2 k Jc2) (.slice M2 m Mc2) (.slice B 0 bc)) := (by rw [← hW]; exact set5_3 Z.out _); replace Z := Lib.hid zz; replace Y := Lib.hid (keep_chg HC.out Y.out (by omega)); replace H0 := Lib.hid (bel_chg H0.out HC.out (Nat.le_refl _)); clear zz hW HC c0 c1 c2 c3 c4 f0 f1 f2 f3 f4; obtain ⟨c0, c1, c2, c3, c4⟩ := cells5 Z.out; obtain ⟨f0, f1, f2, f3, f4⟩ := froz5 Z.out
      refine hK.out _ _ ?_ (fun hHeld => ?_)
      · trivial
      clear HHeld; have HHeld := Lib.hid hHeld; clear hHeld
      clear hK K
      try simp only [pu, pn, s1, s2, s3]
      refine wpAnyH_done (by kernel_rfl) ?_ _
      clear HHeld
      exact CONT _ _ _ _ _ _ _ Z.out Y.out (R3.mk R60.out R61.out R62.out) H0.out
end Go.Proofs.YtilnpeekajnlhaaGreat
