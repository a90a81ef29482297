/- Add, For and Rest of messages, as the document says them. -/
import Derived.Test.YtilnpeekajnlhaaGreatTh02
import Derived.Test.YtilnpeekajnlhaaGreatTh06
set_option linter.unusedVariables false
set_option linter.unusedSimpArgs false
namespace Go.Proofs.YtilnpeekajnlhaaGreat
open Go.RowKit Go.Maps
def accM (acc ys : List MG) : List MG := ys.foldl (fun a m => insM m a) acc
theorem accM_next {acc xs : List MG} {k : Nat} {x : MG} (h : xs[k]? = some x) : accM acc (xs.take (k + 1)) = insM x (accM acc (xs.take k)) := by
  unfold accM; rw [List.take_add_one, h]; simp [List.foldl_append]
theorem accM_len (ys acc : List MG) : (accM acc ys).length = acc.length + ys.length := by
  induction ys generalizing acc with
  | nil => rfl
  | cons y ys ih =>
    show (accM (insM y acc) ys).length = _
    rw [ih, insM_len, List.length_cons]; omega
theorem accM_app (acc xs ys : List MG) : accM acc (xs ++ ys) = accM (accM acc xs) ys := by unfold accM; rw [List.foldl_append]
set_option maxRecDepth 100000 in
set_option maxHeartbeats 8000000 in
theorem radd_any (A B : Option Addr) (n cap m dap : Nat) (xs ys : List MG) (w : World) (hl : xs.length = n) (hm : ys.length = m) (hn : n + m ≤ 1000) (hA : EG.Rd w A xs) (hB : EG.Rd w B ys) :
    Calls Tryz.prog 38 #[.slice A n cap, .slice B m dap] w (SomeOf (accM [] (xs ++ ys)) w) := by
  have HL := Lib.hid hl
  have HM := Lib.hid hm
  have HA := Lib.hid (fun W (hW : Below w.heap.size w W) => hA.later hW)
  have HA2 := Lib.hid (fun W (hW : Below w.heap.size w W) => hB.later hW)
  have H0 := Lib.hid (alb w (.cells #[] 50))
  rw [accM_app]
  clear hl hm hA hB
  go_enter Tryz.func38, Tryz.ntmps38
  go_wp2
  go_loopw [5, 6] (fun sv iv wr => ∃ (k b' off' c' ln : Nat), k ≤ n ∧ iv = .int .i64 k ∧ sv = .slice (some ⟨b', off', none⟩) ln c' ∧ Hid ((accM [] (xs.take k)).length = ln ∧ ln = k ∧ ln ≤ c' ∧ c' ≤ maxLen) ∧ Hid (EG.Rd wr (some ⟨b', off', none⟩) (accM [] (xs.take k))) ∧ Below w.heap.size w wr) (fun _ i _ => n - (intOf i).toNat)
  case atStart => exact ⟨0, w.heap.size, 0, 0, 0, by omega, rfl, rfl, Lib.hid ⟨rfl, rfl, by omega, by unfold maxLen; omega⟩, Lib.hid (.inl rfl), H0.out⟩
  case round =>
    obtain ⟨k, b', off', c', ln, hk, rfl, rfl, HN, HR, hb⟩ := hrel
    have HB := Lib.hid hb
    clear hb
    by_cases h8 : k < n
    · have hk1 : (k : Int) < (n : Int) := by omega
      have hk0 : (0 : Int) ≤ (k : Int) := by omega
      obtain ⟨x, hx⟩ : ∃ x, xs[k]? = some x := ⟨_, List.getElem?_eq_getElem (by rw [HL.out]; omega)⟩
      obtain ⟨b, off, rfl, hlt, g0, g1, g2, g3, g4, g5⟩ := eg_at (HA.out _ HB.out) hx
      have HNX := Lib.hid (accM_next (acc := []) hx)
      have AI := Lib.hid (into_any b' off' ln c' (accM [] (xs.take k)) x wr HN.out.1 (by have := HN.out.2.1; omega) HN.out.2.2.1 HN.out.2.2.2 HR.out)
      clear hx hlt
      go_wp2_with (first
        | (go_at_call 72; ((with_reducible refine AI.out.mono ?_); rintro e w1 ⟨⟨b1, o1, c1, rfl, ra, rb, rc⟩, bw⟩; have RA := Lib.hid ra; have RB := Lib.hid (And.intro rb rc); have B1 := Lib.hid (bel_trans HB.out bw); clear bw ra rb rc))
        | fail)
      exact ⟨⟨k + 1, b1, o1, c1, _, by omega, by simp, rfl, Lib.hid ⟨by rw [HNX.out], by rw [insM_len, HN.out.1, HN.out.2.1], RB.out.1, RB.out.2⟩, Lib.hid (by rw [HNX.out]; exact RA.out), B1.out⟩, by simp [intOf]; omega⟩
    · have hk1 : ¬ (k : Int) < (n : Int) := by omega
      have e : xs.take k = xs := List.take_of_length_le (by rw [HL.out]; omega)
      have hkn : k = n := by omega
      rw [e] at HN HR
      replace HN := Lib.hid (show (accM [] xs).length = ln ∧ ln = n ∧ ln ≤ c' ∧ c' ≤ maxLen from ⟨HN.out.1, by rw [← hkn]; exact HN.out.2.1, HN.out.2.2⟩)
      clear e hkn
      obtain ⟨ac, hac⟩ : ∃ ac, accM [] xs = ac := ⟨_, rfl⟩
      rw [hac] at HN HR ⊢
      have HAC := Lib.hid hac
      clear hac
      go_wp2
      go_loopw [5, 7] (fun sv iv wv => ∃ (j b' off' c' ln : Nat), j ≤ m ∧ iv = .int .i64 j ∧ sv = .slice (some ⟨b', off', none⟩) ln c' ∧ Hid ((accM ac (ys.take j)).length = ln ∧ ln = n + j ∧ ln ≤ c' ∧ c' ≤ maxLen) ∧ Hid (EG.Rd wv (some ⟨b', off', none⟩) (accM ac (ys.take j))) ∧ Below w.heap.size w wv) (fun _ i _ => m - (intOf i).toNat)
      case atStart => exact ⟨0, b', off', c', ln, by omega, rfl, rfl, Lib.hid ⟨HN.out.1, HN.out.2.1, HN.out.2.2⟩, Lib.hid HR.out, HB.out⟩
      case round =>
        clear HN HR
        obtain ⟨j, b', off', c', ln, hj, rfl, rfl, HN, HR, hb⟩ := hrel
        have HC := Lib.hid hb
        clear hb
        by_cases h9 : j < m
        · have hj1 : (j : Int) < (m : Int) := by omega
          have hj0 : (0 : Int) ≤ (j : Int) := by omega
          obtain ⟨x, hx⟩ : ∃ x, ys[j]? = some x := ⟨_, List.getElem?_eq_getElem (by rw [HM.out]; omega)⟩
          obtain ⟨b, off, rfl, hlt, g0, g1, g2, g3, g4, g5⟩ := eg_at (HA2.out _ HC.out) hx
          have HNX := Lib.hid (accM_next (acc := ac) hx)
          have AI := Lib.hid (into_any b' off' ln c' (accM ac (ys.take j)) x wr HN.out.1 (by have := HN.out.2.1; omega) HN.out.2.2.1 HN.out.2.2.2 HR.out)
          clear hx hlt
          go_wp2_with (first
            | (go_at_call 72; ((with_reducible refine AI.out.mono ?_); rintro e w1 ⟨⟨b1, o1, c1, rfl, ra, rb, rc⟩, bw⟩; have RA := Lib.hid ra; have RB := Lib.hid (And.intro rb rc); have B1 := Lib.hid (bel_trans HC.out bw); clear bw ra rb rc))
            | fail)
          exact ⟨⟨j + 1, b1, o1, c1, _, by omega, by simp, rfl, Lib.hid ⟨by rw [HNX.out], by rw [insM_len, HN.out.1, HN.out.2.1]; omega, RB.out.1, RB.out.2⟩, Lib.hid (by rw [HNX.out]; exact RA.out), B1.out⟩, by simp [intOf]; omega⟩
        · have hj1 : ¬ (j : Int) < (m : Int) := by omega
          have e : ys.take j = ys := List.take_of_length_le (by rw [HM.out]; omega)
          rw [e] at HN HR
          have hac := HAC.out
          subst hac
          have hq := HN.out.1
          subst hq
          go_wp2
          go_ret
          exact ⟨⟨_, _, _, rfl, HR.out, HN.out.2.2⟩, HC.out⟩
abbrev SF (wr : World) (g b o : Nat) (b0 b1 : ByteArray) (x : MG) (W : World) : Prop := Below wr.heap.size wr W ∧ W.cell? ⟨g, 0, none⟩ = some (.string b0) ∧ W.cell? ⟨g, 1, none⟩ = some (.string b1) ∧ W.cell? ⟨b, o, none⟩ = some (.int .u8 x.kd) ∧ W.cell? ⟨b, o + 1, none⟩ = some (.int .i64 x.sq) ∧ W.cell? ⟨b, o + 2, none⟩ = some (.string x.ky) ∧ W.cell? ⟨b, o + 3, none⟩ = some (.string x.to) ∧ W.cell? ⟨b, o + 4, none⟩ = some (.string x.vl) ∧ W.cell? ⟨b, o + 5, none⟩ = some (.int .u64 x.dl)
theorem mo_all {W : World} {g : Nat} {m : MG} (z : W.heap[g]? = some (MO m)) (p : MG) : ((((((W.setCell ⟨g, 0, none⟩ (.int .u8 p.kd)).setCell ⟨g, 1, none⟩ (.int .i64 p.sq)).setCell ⟨g, 2, none⟩ (.string p.ky)).setCell ⟨g, 3, none⟩ (.string p.to)).setCell ⟨g, 4, none⟩ (.string p.vl)).setCell ⟨g, 5, none⟩ (.int .u64 p.dl)).heap[g]? = some (MO p) := by
  simp [World.setCell, Array.getElem?_modify, z]
/-- A box that is older than a row stays as it is when the row grows. -/
theorem put_keep {w w' : World} {base g : Nat} {A : Option Addr} {l : List MG} {c : Nat} {o : Obj} (h : w.grownBy w' (RE.fp A c)) (r : EG.Row w base A l c) (z : w.heap[g]? = some o) (hg : g < base) : w'.heap[g]? = some o := by
  have hlt : g < w.heap.size := by
    rcases Nat.lt_or_ge g w.heap.size with h' | h'
    · exact h'
    · simp [Array.getElem?_eq_none h'] at z
  rw [h.block g hlt (fun e => by have := (r.fp_lt e.symm).1; omega)]
  exact z
set_option maxRecDepth 100000 in
set_option maxHeartbeats 8000000 in
theorem rfor_any (a b : ByteArray) (A : Option Addr) (n cap : Nat) (xs : List MG) (w : World) (hl : xs.length = n) (hn : n ≤ 1000) (hA : EG.Rd w A xs) :
    Calls Tryz.prog 24 #[.slice A n cap, .agg #[.string a, .string b]] w (RowsOf (forL a b xs) w) := by
  have HL := Lib.hid hl
  have HA := Lib.hid hA
  have H0 := Lib.hid (bel_alloc (alb w (rgc a b)) (.cells #[] 50))
  have z0 := Lib.hid (keep_bel (alb _ (.cells #[] 50)) (heap_alloc_new w (rgc a b)))
  clear hl hA
  go_enter Tryz.func24, Tryz.ntmps24
  go_wp2
  go_loopw [5, 6] (fun sv iv wr => ∃ (k : Nat) (A' : Option Addr) (c' m : Nat), k ≤ n ∧ iv = .int .i64 k ∧ sv = .slice A' m c' ∧ Hid ((forL a b (xs.take k)).length = m) ∧ Hid (EG.Row wr (w.heap.size + 1) A' (forL a b (xs.take k)) c') ∧ Below w.heap.size w wr ∧ Hid (wr.heap[w.heap.size]? = some (rgc a b)) ∧ Hid (w.heap.size + 1 ≤ wr.heap.size)) (fun _ i _ => n - (intOf i).toNat)
  case atStart => exact ⟨0, _, 0, 0, by omega, rfl, rfl, Lib.hid rfl, Lib.hid (.inl ⟨rfl, rfl⟩), H0.out, z0, Lib.hid (by simp)⟩
  case round =>
    obtain ⟨k, A', c', m, hk, rfl, rfl, HM, HR, hb, ZR, HLO⟩ := hrel
    have HB := Lib.hid hb
    clear hb
    by_cases h8 : k < n
    · have hk1 : (k : Int) < (n : Int) := by omega
      have hk0 : (0 : Int) ≤ (k : Int) := by omega
      obtain ⟨x, hx⟩ : ∃ x, xs[k]? = some x := ⟨_, List.getElem?_eq_getElem (by rw [HL.out]; omega)⟩
      obtain ⟨b', off, rfl, hlt, g0, g1, g2, g3, g4, g5⟩ := eg_at (HA.out.later HB.out) hx
      have HNX := Lib.hid (forL_next (a := a) (b := b) hx)
      have AC := Lib.hid (rclip_any x a b)
      have HMM : Hid (m ≤ 1000) := Lib.hid (by have := forL_len a b (xs.take k); have := take_le xs k; rw [HM.out] at *; omega)
      obtain ⟨d0, d1, -, -⟩ := has_two ZR.out
      clear hx hlt
      obtain ⟨p, ok, hq⟩ : ∃ p ok, clipM x a b = (p, ok) := ⟨_, _, rfl⟩
      rw [hq] at HNX AC
      clear hq
      have KS := Lib.hid (show ∀ W, Below wr.heap.size wr W → SF wr w.heap.size b' (off + k * 6) a b x W from fun W h => ⟨h, bel_later h d0, bel_later h d1, bel_later h g0, bel_later h g1, bel_later h g2, bel_later h g3, bel_later h g4, bel_later h g5⟩)
      clear d0 d1 g0 g1 g2 g3 g4 g5
      go_wp2_with fail
      refine wp_region_held_drew (S := (fun V : World => SF wr w.heap.size b' (off + k * 6) a b x V)) (by kernel_rfl) ?_ (fun hHeld => ?_)
      · exact KS.out _ ((Below.refl _ _).drew)
      have HHeld := Lib.hid hHeld; clear hHeld
      refine wT (i := 0) (oi := { dst := some 17, op := Op.move (Operand.tmp 0), type := 25, pos := "ref.go:82", after := #[], guard := none }) (v := ?_) rfl (Or.inl ⟨by rfl, ?_⟩) HHeld.out ?_
      rotate_left
      · intro w hSw; clear hSw; go_simp; try with_reducible rfl
      try simp only [pu, pn, s1, s2, s3]
      refine wT (i := 1) (oi := { dst := some 18, op := Op.move (Operand.tmp 6), type := 3, pos := "ref.go:82", after := #[], guard := none }) (v := ?_) rfl (Or.inl ⟨by rfl, ?_⟩) HHeld.out ?_
      rotate_left
      · intro w hSw; clear hSw; go_simp; try with_reducible rfl
      try simp only [pu, pn, s1, s2, s3]
      refine wT (i := 2) (oi := { dst := some 19, op := Op.indexAddr 25 (Operand.tmp 17) (Operand.tmp 18), type := 0, pos := "ref.go:82", after := #[{ on := 0, ground := Ground.data }, { on := 1, ground := Ground.data }], guard := none }) (v := ?_) rfl (Or.inl ⟨by rfl, ?_⟩) HHeld.out ?_
      rotate_left
      · intro w hSw; clear hSw; go_simp; try with_reducible rfl
      try simp only [pu, pn, s1, s2, s3]
      refine wT (i := 3) (oi := { dst := some 20, op := Op.load 50 (Operand.tmp 19), type := 50, pos := "ref.go:82", after := #[{ on := 2, ground := Ground.data }], guard := none }) (v := (.agg #[.int .u8 x.kd, .int .i64 x.sq, .string x.ky, .string x.to, .string x.vl, .int .u64 x.dl] : Value)) rfl (Or.inl ⟨by rfl, ?_⟩) HHeld.out ?_
      · intro V hV; have hc0 := hV.2.2.2.1; have hc1 := hV.2.2.2.2.1; have hc2 := hV.2.2.2.2.2.1; have hc3 := hV.2.2.2.2.2.2.1; have hc4 := hV.2.2.2.2.2.2.2.1; have hc5 := hV.2.2.2.2.2.2.2.2; clear hV; go_simp
      try simp only [pu, pn, s1, s2, s3]
      refine wT (i := 4) (oi := { dst := some 21, op := Op.load 30 (Operand.tmp 3), type := 30, pos := "ref.go:82", after := #[], guard := none }) (v := (.agg #[.string a, .string b] : Value)) rfl (Or.inl ⟨by rfl, ?_⟩) HHeld.out ?_
      · intro V hV; have hc0 := hV.2.1; have hc1 := hV.2.2.1; clear hV; go_simp
      try simp only [pu, pn, s1, s2, s3]
      refine wpAnyH_ready (rs := [5, 9]) (by kernel_rfl) (by simp) ?_
      refine AllReadyH.cons (o := { dst := some 22, op := Op.call { callee := Callee.value (Operand.func 54), args := #[Operand.tmp 20, Operand.tmp 21], argTypes := #[50, 30] }, type := 88, pos := "ref.go:82", after := #[{ on := 3, ground := Ground.data }, { on := 4, ground := Ground.data }], guard := none }) rfl (fun K hK => ?_) (AllReadyH.cons (o := { dst := some 7, op := Op.alloc 50, type := 0, pos := "ref.go:82", after := #[], guard := none }) rfl (fun K hK => ?_) AllReadyH.nil)
      · go_simp
        go_at_call 54; ((with_reducible refine (AC.out _).mono ?_); rintro e v5 ⟨rfl, b5⟩; have B5 := Lib.hid (bel_trans HHeld.out.1 b5); clear b5)
        refine hK.out _ _ ?_ (fun hHeld => ?_)
        · exact KS.out _ B5.out
        clear HHeld; have HHeld := Lib.hid hHeld; clear hHeld
        clear hK K
        try simp only [pu, pn, s1, s2, s3]
        refine wT (i := 6) (oi := { dst := some 16, op := Op.move (Operand.tmp 22), type := 88, pos := "ref.go:82", after := #[{ on := 5, ground := Ground.data }], guard := none }) (v := ?_) rfl (Or.inl ⟨by rfl, ?_⟩) HHeld.out ?_
        rotate_left
        · intro w hSw; clear hSw; go_simp; try with_reducible rfl
        try simp only [pu, pn, s1, s2, s3]
        refine wT (i := 7) (oi := { dst := some 23, op := Op.extract (Operand.tmp 16) 0, type := 50, pos := "ref.go:82", after := #[{ on := 6, ground := Ground.data }], guard := none }) (v := ?_) rfl (Or.inl ⟨by rfl, ?_⟩) HHeld.out ?_
        rotate_left
        · intro w hSw; clear hSw; go_simp; try with_reducible rfl
        try simp only [pu, pn, s1, s2, s3]
        refine wT (i := 8) (oi := { dst := some 24, op := Op.extract (Operand.tmp 16) 1, type := 4, pos := "ref.go:82", after := #[{ on := 6, ground := Ground.data }, { on := 10, ground := Ground.gcOnly Departure.lateStores }], guard := none }) (v := ?_) rfl (Or.inl ⟨by rfl, ?_⟩) HHeld.out ?_
        rotate_left
        · intro w hSw; clear hSw; go_simp; try with_reducible rfl
        try simp only [pu, pn, s1, s2, s3]
        refine wpAnyH_ready (rs := [9]) (by kernel_rfl) (by simp) ?_
        refine AllReadyH.cons (o := { dst := some 7, op := Op.alloc 50, type := 0, pos := "ref.go:82", after := #[], guard := none }) rfl (fun K hK => ?_) AllReadyH.nil
        go_simp
        have B9 := Lib.hid (bel_alloc B5.out (MO zM))
        refine hK.out _ _ ?_ (fun hHeld => ?_)
        · exact KS.out _ B9.out
        clear HHeld; have HHeld := Lib.hid hHeld; clear hHeld
        clear hK K
        try simp only [pu, pn, s1, s2, s3]
        refine wpAnyH_ready (rs := [10]) (by kernel_rfl) (by simp) ?_
        refine AllReadyH.cons (o := { dst := none, op := Op.store 50 (Operand.tmp 7) (Operand.tmp 23), type := 0, pos := "ref.go:82", after := #[{ on := 9, ground := Ground.data }, { on := 7, ground := Ground.data }, { on := 5, ground := Ground.chain }, { on := 0, ground := Ground.phase }, { on := 1, ground := Ground.phase }, { on := 2, ground := Ground.phase }, { on := 3, ground := Ground.phase }, { on := 4, ground := Ground.phase }, { on := 5, ground := Ground.phase }, { on := 6, ground := Ground.phase }, { on := 7, ground := Ground.phase }, { on := 8, ground := Ground.textOnly Departure.lateStores }, { on := 9, ground := Ground.phase }], guard := none }) rfl (fun K hK => ?_) AllReadyH.nil
        go_simp
        have Z10 := Lib.hid (heap_alloc_new v5 (MO p)); have B10 := Lib.hid (bel_alloc B5.out (MO p))
        refine hK.out _ _ ?_ (fun hHeld => ?_)
        · exact KS.out _ B10.out
        clear HHeld; have HHeld := Lib.hid hHeld; clear hHeld
        clear hK K
        try simp only [pu, pn, s1, s2, s3]
        refine wT (i := 11) (oi := { dst := some 8, op := Op.assign (Operand.tmp 24), type := 4, pos := "ref.go:82", after := #[{ on := 8, ground := Ground.data }, { on := 10, ground := Ground.chain }, { on := 0, ground := Ground.phase }, { on := 1, ground := Ground.phase }, { on := 2, ground := Ground.phase }, { on := 3, ground := Ground.phase }, { on := 4, ground := Ground.phase }, { on := 5, ground := Ground.phase }, { on := 6, ground := Ground.phase }, { on := 7, ground := Ground.phase }, { on := 8, ground := Ground.phase }, { on := 9, ground := Ground.phase }, { on := 10, ground := Ground.phase }], guard := none }) (v := ?_) rfl (Or.inl ⟨by rfl, ?_⟩) HHeld.out ?_
        rotate_left
        · intro w hSw; clear hSw; go_simp; try with_reducible rfl
        try simp only [pu, pn, s1, s2, s3]
        refine wpAnyH_done (by kernel_rfl) ?_ _
        refine at_exit (fun WN hWN => ?_)
        have ZN := Lib.hid (show WN.heap[v5.heap.size]? = some (MO p) by rw [hWN]; exact Z10.out)
        have BN := Lib.hid (show Below wr.heap.size wr WN by rw [hWN]; exact B10.out)
        clear hWN HHeld Z10 B10
        have HSZ := Lib.hid (Nat.le_trans HLO.out BN.out.size)
        have BW := Lib.hid (bel_trans HB.out BN.out)
        have ZR2 := Lib.hid (keep_bel BN.out ZR.out)
        have HR2 := Lib.hid (HR.out.later BN.out)
        obtain ⟨y0, y1, y2, y3, y4, y5⟩ := cells6 ZN.out
        cases ok with
        | false =>
          rw [if_neg (by simp), List.append_nil] at HNX
          go_wp2
          exact ⟨⟨k + 1, A', c', m, by omega, by simp, rfl, Lib.hid (by rw [HNX.out]; exact HM.out), Lib.hid (by rw [HNX.out]; exact HR2.out), BW.out, ZR2, HSZ⟩, by simp [intOf]; omega⟩
        | true =>
          rw [if_pos rfl] at HNX
          have RW := Lib.hid (HR2.out.later (alb WN (MO p)))
          have RL := Lib.hid (lit1 WN p rfl)
          have HX1 := Lib.hid (show w.heap.size + 1 ≤ (WN.alloc (MO p)).heap.size by have := HSZ.out; simp; omega)
          have BX := Lib.hid (bel_alloc BW.out (MO p))
          have ZX := Lib.hid (keep_bel (alb WN (MO p)) ZR2.out)
          go_wp2_with (first
            | (at_builtin; refine RE.wpList_put EG _ rfl (.tmp 26) (.tmp 28) rfl (base := w.heap.size + 1) A' m c' _ _ 1 1 [p] rfl rfl RW.out HM.out (by have := HMM.out; omega) HX1.out rfl (by omega) RL.out ?_; intro A2 c2 w2 r1 r2 r3; have R1 := Lib.hid r1; have BZ := Lib.hid (BX.out.trans (RE.Row.below r2 RW.out (Nat.le_succ _) BX.out.size)); have ZL := Lib.hid r2.size; have ZZ := Lib.hid (put_keep r2 RW.out ZX.out (Nat.lt_succ_self _)); clear r1 r2 r3)
            | fail)
          exact ⟨⟨k + 1, A2, c2, m + 1, by omega, by simp, rfl, Lib.hid (by rw [HNX.out, List.length_append]; exact congrArg (· + 1) HM.out), Lib.hid (by rw [HNX.out]; exact R1.out), BZ.out, ZZ, Lib.hid (Nat.le_trans HX1.out ZL.out)⟩, by simp [intOf]; omega⟩
      · go_simp
        have G9 := Lib.hid (show ((wr.alloc (MO zM)).drew).heap[wr.heap.size]? = some (MO zM) from heap_alloc_new wr (MO zM)); have B9 := Lib.hid (show Below wr.heap.size wr (wr.alloc (MO zM)).drew from (alb wr (MO zM)).drew)
        refine hK.out _ _ ?_ (fun hHeld => ?_)
        · exact KS.out _ B9.out
        clear HHeld; have HHeld := Lib.hid hHeld; clear hHeld
        clear hK K
        try simp only [pu, pn, s1, s2, s3]
        refine wpAnyH_ready (rs := [5]) (by kernel_rfl) (by simp) ?_
        refine AllReadyH.cons (o := { dst := some 22, op := Op.call { callee := Callee.value (Operand.func 54), args := #[Operand.tmp 20, Operand.tmp 21], argTypes := #[50, 30] }, type := 88, pos := "ref.go:82", after := #[{ on := 3, ground := Ground.data }, { on := 4, ground := Ground.data }], guard := none }) rfl (fun K hK => ?_) AllReadyH.nil
        go_simp
        go_at_call 54; ((with_reducible refine (AC.out _).mono ?_); rintro e v5 ⟨rfl, b5⟩; have B5 := Lib.hid (bel_trans HHeld.out.1 b5); have G5 := Lib.hid (keep_bel b5 G9.out); clear G9; clear b5)
        refine hK.out _ _ ?_ (fun hHeld => ?_)
        · exact KS.out _ B5.out
        clear HHeld; have HHeld := Lib.hid hHeld; clear hHeld
        clear hK K
        try simp only [pu, pn, s1, s2, s3]
        refine wT (i := 6) (oi := { dst := some 16, op := Op.move (Operand.tmp 22), type := 88, pos := "ref.go:82", after := #[{ on := 5, ground := Ground.data }], guard := none }) (v := ?_) rfl (Or.inl ⟨by rfl, ?_⟩) HHeld.out ?_
        rotate_left
        · intro w hSw; clear hSw; go_simp; try with_reducible rfl
        try simp only [pu, pn, s1, s2, s3]
        refine wT (i := 7) (oi := { dst := some 23, op := Op.extract (Operand.tmp 16) 0, type := 50, pos := "ref.go:82", after := #[{ on := 6, ground := Ground.data }], guard := none }) (v := ?_) rfl (Or.inl ⟨by rfl, ?_⟩) HHeld.out ?_
        rotate_left
        · intro w hSw; clear hSw; go_simp; try with_reducible rfl
        try simp only [pu, pn, s1, s2, s3]
        refine wT (i := 8) (oi := { dst := some 24, op := Op.extract (Operand.tmp 16) 1, type := 4, pos := "ref.go:82", after := #[{ on := 6, ground := Ground.data }, { on := 10, ground := Ground.gcOnly Departure.lateStores }], guard := none }) (v := ?_) rfl (Or.inl ⟨by rfl, ?_⟩) HHeld.out ?_
        rotate_left
        · intro w hSw; clear hSw; go_simp; try with_reducible rfl
        try simp only [pu, pn, s1, s2, s3]
        refine wpAnyH_ready (rs := [10]) (by kernel_rfl) (by simp) ?_
        refine AllReadyH.cons (o := { dst := none, op := Op.store 50 (Operand.tmp 7) (Operand.tmp 23), type := 0, pos := "ref.go:82", after := #[{ on := 9, ground := Ground.data }, { on := 7, ground := Ground.data }, { on := 5, ground := Ground.chain }, { on := 0, ground := Ground.phase }, { on := 1, ground := Ground.phase }, { on := 2, ground := Ground.phase }, { on := 3, ground := Ground.phase }, { on := 4, ground := Ground.phase }, { on := 5, ground := Ground.phase }, { on := 6, ground := Ground.phase }, { on := 7, ground := Ground.phase }, { on := 8, ground := Ground.textOnly Departure.lateStores }, { on := 9, ground := Ground.phase }], guard := none }) rfl (fun K hK => ?_) AllReadyH.nil
        obtain ⟨f0, f1, f2, f3, f4, f5⟩ := mo_frozen6 G5.out; obtain ⟨k0, k1, k2, k3, k4, k5⟩ := cells6 G5.out
        go_simp
        have Z10 := Lib.hid (mo_all G5.out p); have B10 := Lib.hid (bel6 B5.out (Nat.le_refl _) (.int .u8 p.kd) (.int .i64 p.sq) (.string p.ky) (.string p.to) (.string p.vl) (.int .u64 p.dl))
        refine hK.out _ _ ?_ (fun hHeld => ?_)
        · exact KS.out _ B10.out
        clear HHeld; have HHeld := Lib.hid hHeld; clear hHeld
        clear hK K
        try simp only [pu, pn, s1, s2, s3]
        refine wT (i := 11) (oi := { dst := some 8, op := Op.assign (Operand.tmp 24), type := 4, pos := "ref.go:82", after := #[{ on := 8, ground := Ground.data }, { on := 10, ground := Ground.chain }, { on := 0, ground := Ground.phase }, { on := 1, ground := Ground.phase }, { on := 2, ground := Ground.phase }, { on := 3, ground := Ground.phase }, { on := 4, ground := Ground.phase }, { on := 5, ground := Ground.phase }, { on := 6, ground := Ground.phase }, { on := 7, ground := Ground.phase }, { on := 8, ground := Ground.phase }, { on := 9, ground := Ground.phase }, { on := 10, ground := Ground.phase }], guard := none }) (v := ?_) rfl (Or.inl ⟨by rfl, ?_⟩) HHeld.out ?_
        rotate_left
        · intro w hSw; clear hSw; go_simp; try with_reducible rfl
        try simp only [pu, pn, s1, s2, s3]
        refine wpAnyH_done (by kernel_rfl) ?_ _
        refine at_exit (fun WN hWN => ?_)
        have ZN := Lib.hid (show WN.heap[wr.heap.size]? = some (MO p) by rw [hWN]; exact Z10.out)
        have BN := Lib.hid (show Below wr.heap.size wr WN by rw [hWN]; exact B10.out)
        clear hWN HHeld Z10 B10
        have HSZ := Lib.hid (Nat.le_trans HLO.out BN.out.size)
        have BW := Lib.hid (bel_trans HB.out BN.out)
        have ZR2 := Lib.hid (keep_bel BN.out ZR.out)
        have HR2 := Lib.hid (HR.out.later BN.out)
        obtain ⟨y0, y1, y2, y3, y4, y5⟩ := cells6 ZN.out
        cases ok with
        | false =>
          rw [if_neg (by simp), List.append_nil] at HNX
          go_wp2
          exact ⟨⟨k + 1, A', c', m, by omega, by simp, rfl, Lib.hid (by rw [HNX.out]; exact HM.out), Lib.hid (by rw [HNX.out]; exact HR2.out), BW.out, ZR2, HSZ⟩, by simp [intOf]; omega⟩
        | true =>
          rw [if_pos rfl] at HNX
          have RW := Lib.hid (HR2.out.later (alb WN (MO p)))
          have RL := Lib.hid (lit1 WN p rfl)
          have HX1 := Lib.hid (show w.heap.size + 1 ≤ (WN.alloc (MO p)).heap.size by have := HSZ.out; simp; omega)
          have BX := Lib.hid (bel_alloc BW.out (MO p))
          have ZX := Lib.hid (keep_bel (alb WN (MO p)) ZR2.out)
          go_wp2_with (first
            | (at_builtin; refine RE.wpList_put EG _ rfl (.tmp 26) (.tmp 28) rfl (base := w.heap.size + 1) A' m c' _ _ 1 1 [p] rfl rfl RW.out HM.out (by have := HMM.out; omega) HX1.out rfl (by omega) RL.out ?_; intro A2 c2 w2 r1 r2 r3; have R1 := Lib.hid r1; have BZ := Lib.hid (BX.out.trans (RE.Row.below r2 RW.out (Nat.le_succ _) BX.out.size)); have ZL := Lib.hid r2.size; have ZZ := Lib.hid (put_keep r2 RW.out ZX.out (Nat.lt_succ_self _)); clear r1 r2 r3)
            | fail)
          exact ⟨⟨k + 1, A2, c2, m + 1, by omega, by simp, rfl, Lib.hid (by rw [HNX.out, List.length_append]; exact congrArg (· + 1) HM.out), Lib.hid (by rw [HNX.out]; exact R1.out), BZ.out, ZZ, Lib.hid (Nat.le_trans HX1.out ZL.out)⟩, by simp [intOf]; omega⟩
    · have hk1 : ¬ (k : Int) < (n : Int) := by omega
      have e : xs.take k = xs := List.take_of_length_le (by rw [HL.out]; omega)
      rw [e] at HM HR
      have hm := HM.out
      subst hm
      go_wp2
      go_ret
      exact ⟨⟨_, _, rfl, HR.out.rd⟩, HB.out⟩
end Go.Proofs.YtilnpeekajnlhaaGreat
