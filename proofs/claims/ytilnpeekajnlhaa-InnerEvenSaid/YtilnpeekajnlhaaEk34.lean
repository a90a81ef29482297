/- The law InnerEven answers true: a node that is right and has two kids at least. -/
import Derived.Test.YtilnpeekajnlhaaEk02
import Derived.Test.YtilnpeekajnlhaaEk27
import Derived.Test.YtilnpeekajnlhaaEk32
import Derived.Test.YtilnpeekajnlhaaEk33
set_option linter.unusedVariables false
set_option linter.unusedSimpArgs false
namespace Go.Proofs.Ytilnpeekajnlhaa
open Go.RowKit Go.Maps
theorem step_putG {α : Type} (E : RE α) (w : World) {ops : Array Oper} {o : Oper} {a : Act} {K : Act → World → Prop} {Q : Exit → Act → World → Prop} {X : Prop} (hw : Region.wanted o (yielded ops a.tmps) = true) (s x : Operand)
    (hop : o.op = Op.call { callee := Callee.builtin Builtin.append, args := #[s, x], argTypes := #[E.st, E.st] }) {base : Nat} (A0 : Option Addr) (n0 c0 : Nat) (l0 : List α) (A : Option Addr) (m c : Nat) (l : List α) (hs : a.eval s = .slice A0 n0 c0) (hx : a.eval x = .slice A m c)
    (h : E.Row w base A0 l0 c0) (hn0 : l0.length = n0) (hn : n0 ≤ 1000000) (hb : base ≤ w.heap.size) (hl : l.length = m) (hm : m ≤ 1000000) (hr : E.Rd w A l)
    (hK : ∀ A' c' w', E.Row w' base A' (l0 ++ l) c' → w.grownBy w' (RE.fp A0 c0) → K (a.put o.dst (.slice A' (n0 + m) c')) w') :
    if Region.wanted o (yielded ops a.tmps) = true then Oper.wp Try.prog o a w K Q else X := by
  rw [if_pos hw]
  subst hn0 hl
  obtain ⟨A', c', w', hrun, r1, r2, r3⟩ := h.put hn hb A c l hm hr o.type
  unfold Oper.wp
  simp [execOp, hop, resolve, invoke, builtin, hs, hx, hrun, Result.andThen]
  exact hK _ _ _ r1 r2
set_option maxRecDepth 100000 in
set_option maxHeartbeats 8000000 in
theorem even_yes (kd : Int) (b0 o0 b1 o1 : Nat) (M B : Option Addr) (n pc k kc m mc bc : Nat) (ps : List ByteArray) (ks : List Int) (ms : List MG) (f t : ByteArray) (cut : Int) (w : World) (hl : ps.length = n) (hP : ES.Rd w (some ⟨b0, o0, none⟩) ps) (hkl : ks.length = k) (hJ : EI.Rd w (some ⟨b1, o1, none⟩) ks) (hxk : ∀ x ∈ ks, (Lit.int .i64 x).wf = true) (hm : ms.length = m) (hM : EG.Rd w M ms) (ho : OkA ms)
    (hps : ∀ x ∈ ps, SzOk x) (hf : SzOk f) (ht : SzOk t) (hs : smallB n k m 0 = true) (hr : RN kd n k 0 ps ks ms f t) (hk2 : 2 ≤ k) (hnp : n ≤ pc ∧ pc ≤ maxLen) (hnk : k ≤ kc ∧ kc ≤ maxLen) (hc0 : 0 ≤ cut) (hc1 : cut ≤ 255)
    (q : Nat) (hq : q = (cut % ((k : Int) - 1)).toNat) (kv : Nat) (hkv : kv = q + 1) (x : ByteArray) (hx : ps[q]? = some x) (h p : Nat) (hh : k / 2 = h) (hp1 : h = p + 1) (y : ByteArray) (hy : ps[p]? = some y) :
    Calls Try.prog 5 #[NV kd (.slice (some ⟨b0, o0, none⟩) n pc) (.slice (some ⟨b1, o1, none⟩) k kc) (.slice M m mc) (.slice B 0 bc), .agg #[.string f, .string t], .int .u8 cut] w fun e w' => e = .returned (.bool true) ∧ Below w.heap.size w w' := by
  obtain ⟨s1, s2, s3, -⟩ := small_yes hs
  have hk := hr.hk
  have gx := pv_at hr.hps hx
  have gy := pv_at hr.hps hy
  have hqn : q < n := by have := (List.getElem?_eq_some_iff.1 hx).1; omega
  have SA : Hid (∀ W, Calls Try.prog 7 #[NV kd (.slice (some ⟨b0, o0, none⟩) n pc) (.slice (some ⟨b1, o1, none⟩) k kc) (.slice M m mc) (.slice B 0 bc)] W fun e w' => e = .returned (.bool true) ∧ Below W.heap.size W w') := Lib.hid (fun W => by
    have q := small_any kd (some ⟨b0, o0, none⟩) (some ⟨b1, o1, none⟩) M B n pc k kc m mc 0 bc W
    rw [hs] at q; exact q)
  have RA : Hid (∀ W, Below w.heap.size w W → Calls Try.prog 8 #[NV kd (.slice (some ⟨b0, o0, none⟩) n pc) (.slice (some ⟨b1, o1, none⟩) k kc) (.slice M m mc) (.slice B 0 bc), .agg #[.string f, .string t]] W fun e w' => e = .returned (.bool true) ∧ Below W.heap.size W w') := Lib.hid (fun W h => by
    have q := rright14 kd (some ⟨b0, o0, none⟩) (some ⟨b1, o1, none⟩) M B n pc k kc m mc 0 bc ps ks ms f t W hl (by omega) (es_rd.1 (hP.later h)) hkl (by omega) (hJ.later h) hm (by omega) (hM.later h) ho
    rw [rnB_iff.2 hr] at q; exact q)
  have SP := Lib.hid (fun W => split27 f t x W gx.1 gx.2.1 gx.2.2.1)
  have SPy := Lib.hid (fun W => split27 f t y W gy.1 gy.2.1 gy.2.2.1)
  have op1 := one_pivot gx.1 gx.2.1 gx.2.2.1 ms
  have szx : SzOk x := hps x (List.mem_of_getElem? hx)
  have szy : SzOk y := hps y (List.mem_of_getElem? hy)
  have szE : SzOk emptyS := by decide
  have TA := Lib.hid (fun (A : Nat) W (h : Below w.heap.size w W) (h1 : ES.Rd W (some ⟨A, 0, none⟩) [x]) (h2 : EI.Rd W (some ⟨A + 1, 0, none⟩) [1, 2]) => itake_any 2 (some ⟨A, 0, none⟩) (some ⟨A + 1, 0, none⟩) M none 1 1 2 2 m mc 0 [x] [1, 2] ms f t 0 W rfl (by omega) (es_rd.1 h1) rfl rfl h2 hm (by omega) (hM.later h) ho)
  have TB := Lib.hid (fun (A : Nat) W (h : Below w.heap.size w W) (h1 : ES.Rd W (some ⟨A, 0, none⟩) [x]) (h2 : EI.Rd W (some ⟨A + 1, 0, none⟩) [1, 2]) => itake_any 2 (some ⟨A, 0, none⟩) (some ⟨A + 1, 0, none⟩) M none 1 1 2 2 m mc 0 [x] [1, 2] ms f t 1 W rfl (by omega) (es_rd.1 h1) rfl rfl h2 hm (by omega) (hM.later h) ho)
  obtain ⟨l1, hl1⟩ : ∃ l1, (forL f x ms).length = l1 := ⟨_, rfl⟩
  obtain ⟨l2, hl2⟩ : ∃ l2, (forL x t ms).length = l2 := ⟨_, rfl⟩
  have hl1' : l1 ≤ 30 := by have := forL_len f x ms; omega
  have hl2' : l2 ≤ 30 := by have := forL_len x t ms; omega
  unfold TakeP at TA TB
  rw [op1.1, hl1] at TA
  rw [op1.2, hl2] at TB
  have o1k : OkA (forL f x ms) := forL_ok ho hf szx
  have o2k : OkA (forL x t ms) := forL_ok ho szx ht
  obtain ⟨ms', hms'⟩ : ∃ ms', ms' = stab ((forL f x ms) ++ (forL x t ms)) := ⟨_, rfl⟩
  have okm : OkA ms' := by rw [hms']; exact ok_stab (fun z hz => (List.mem_append.1 hz).elim (o1k z) (o2k z))
  have hm'l : ms'.length = l1 + l2 := by rw [hms', stab_len, List.length_append, hl1, hl2]
  obtain ⟨l, hL⟩ : ∃ l, (forL emptyS y ms').length = l := ⟨_, rfl⟩
  obtain ⟨r, hR⟩ : ∃ r, (resL emptyS y ms').length = r := ⟨_, rfl⟩
  have hl9 : l ≤ 100 := by have := forL_len emptyS y ms'; omega
  have hr9 : r ≤ 200 := by have := resL_len emptyS y ms'; omega
  have R1 : RN 2 q kv 0 (ps.take q) (ks.take kv) (forL f x ms) f x := by rw [hkv]; exact rn_part1 (l := 0) hr hl hx
  have R2 : RN 2 (n - kv) (k - kv) 0 (ps.drop kv) (ks.drop kv) (forL x t ms) x t := by rw [hkv]; exact rn_part2 (l := 0) hr hl hx
  have RJ : RN 2 n k 0 ps ks ms' f t := by rw [hms']; exact rn_join (l := 0) hr hl hx
  have RX : RN 2 p h 0 (ps.take p) (ks.take h) (forL emptyS y ms') f y := by rw [hp1]; exact rn_low (l := 0) RJ hl hy
  have RY : RN 2 (n - h) (k - h) 0 (ps.drop h) (ks.drop h) (resL emptyS y ms') y t := by rw [hp1]; exact rn_high (l := 0) RJ hl hy
  have hpn : p < n := by have := (List.getElem?_eq_some_iff.1 hy).1; omega
  obtain ⟨oP, hoP⟩ : ∃ oP, oP = (if pc = kv then o0 else o0 + kv * 1) := ⟨_, rfl⟩
  obtain ⟨oJ, hoJ⟩ : ∃ oJ, oJ = (if kc = kv then o1 else o1 + kv * 1) := ⟨_, rfl⟩
  have DP : ∀ W, Below w.heap.size w W → ES.Rd W (some ⟨b0, oP, none⟩) (ps.drop kv) := fun W b => by rw [hoP]; exact (hP.later b).dropC hl (by omega) hnp.1
  have DJ : ∀ W, Below w.heap.size w W → EI.Rd W (some ⟨b1, oJ, none⟩) (ks.drop kv) := fun W b => by rw [hoJ]; exact (hJ.later b).dropC hkl (by omega) hnk.1
  have HOP := Lib.hid hoP
  have HOJ := Lib.hid hoJ
  have tl1 : (ps.take q).length = q := by rw [List.length_take]; omega
  have tl2 : (ks.take kv).length = kv := by rw [List.length_take]; omega
  have tl3 : (ps.drop kv).length = n - kv := by rw [List.length_drop, hl]
  have tl4 : (ks.drop kv).length = k - kv := by rw [List.length_drop, hkl]
  have R8a := Lib.hid (fun (L1 : Option Addr) (ca : Nat) W (b : Below w.heap.size w W) (h3 : EG.Rd W L1 (forL f x ms)) => show Calls Try.prog 8 #[NV 2 (.slice (some ⟨b0, o0, none⟩) q pc) (.slice (some ⟨b1, o1, none⟩) kv kc) (.slice L1 l1 ca) (.slice none 0 0), .agg #[.string f, .string x]] W fun e w' => e = .returned (.bool true) ∧ Below W.heap.size W w' from by
    have g := rright14 2 (some ⟨b0, o0, none⟩) (some ⟨b1, o1, none⟩) L1 none q pc kv kc l1 ca 0 0 (ps.take q) (ks.take kv) (forL f x ms) f x W tl1 (by omega) (es_rd.1 ((hP.later b).take q)) tl2 (by omega) ((hJ.later b).take kv) hl1 (by omega) h3 o1k
    rw [rnB_iff.2 R1] at g; exact g)
  have R8b := Lib.hid (fun (L2 : Option Addr) (cb : Nat) W (b : Below w.heap.size w W) (h3 : EG.Rd W L2 (forL x t ms)) => show Calls Try.prog 8 #[NV 2 (.slice (some ⟨b0, oP, none⟩) (n - kv) (pc - kv)) (.slice (some ⟨b1, oJ, none⟩) (k - kv) (kc - kv)) (.slice L2 l2 cb) (.slice none 0 0), .agg #[.string x, .string t]] W fun e w' => e = .returned (.bool true) ∧ Below W.heap.size W w' from by
    have g := rright14 2 (some ⟨b0, oP, none⟩) (some ⟨b1, oJ, none⟩) L2 none (n - kv) (pc - kv) (k - kv) (kc - kv) l2 cb 0 0 (ps.drop kv) (ks.drop kv) (forL x t ms) x t W tl3 (by omega) (es_rd.1 (DP W b)) tl4 (by omega) (DJ W b) hl2 (by omega) h3 o2k
    rw [rnB_iff.2 R2] at g; exact g)
  have jp : ps = ps.take q ++ [x] ++ ps.drop kv := by
    have e := List.take_add_one (l := ps) (i := q)
    rw [hx] at e
    have e2 := List.take_append_drop (q + 1) ps
    rw [e] at e2
    rw [hkv]
    simpa using e2.symm
  have EA := Lib.hid (fun (L1 L2 : Option Addr) (ca cb : Nat) W (b : Below w.heap.size w W) (h3 : EG.Rd W L1 (forL f x ms)) (h4 : EG.Rd W L2 (forL x t ms)) => even_any 2 2 (some ⟨b0, o0, none⟩) (some ⟨b1, o1, none⟩) L1 none (some ⟨b0, oP, none⟩) (some ⟨b1, oJ, none⟩) L2 none q pc kv kc l1 ca 0 0 (n - kv) (pc - kv) (k - kv) (kc - kv) l2 cb 0 0 (ps.take q) (ps.drop kv) (ks.take kv) (ks.drop kv) (forL f x ms) (forL x t ms) x W tl1 tl2 hl1 tl3 tl4 hl2 (by omega) ⟨(hP.later b).take q, (hJ.later b).take kv, h3⟩ ⟨DP W b, DJ W b, h4⟩ (fun z hz => (List.mem_append.1 hz).elim (o1k z) (o2k z)) n k h p l r ps ks ms' jp (List.take_append_drop _ _).symm hms' (by omega) (by omega) (by omega) hk hh hp1 y hy hL hR)
  unfold HalvesP at EA
  have IX := Lib.hid (fun (P4 J4 M4 B4 : Option Addr) (p4 j4 m4 b4 : Nat) W (h1 : ES.Rd W P4 (ps.take p)) (h2 : EI.Rd W J4 (ks.take h)) (h3 : EG.Rd W M4 (forL emptyS y ms')) => iright_true 2 P4 J4 M4 B4 p p4 h j4 l m4 0 b4 (ps.take p) (ks.take h) (forL emptyS y ms') f y W (by rw [List.length_take]; omega) (by omega) (es_rd.1 h1) (by rw [List.length_take]; omega) h2 (fun z hz => hxk z (List.mem_of_mem_take hz)) hL (by omega) h3 (forL_ok okm szE szy) RX)
  have IY := Lib.hid (fun (P4 J4 M4 B4 : Option Addr) (p4 j4 m4 b4 : Nat) W (h1 : ES.Rd W P4 (ps.drop h)) (h2 : EI.Rd W J4 (ks.drop h)) (h3 : EG.Rd W M4 (resL emptyS y ms')) => iright_true 2 P4 J4 M4 B4 (n - h) p4 (k - h) j4 r m4 0 b4 (ps.drop h) (ks.drop h) (resL emptyS y ms') y t W (by rw [List.length_drop, hl]) (by omega) (es_rd.1 h1) (by rw [List.length_drop, hkl]) h2 (fun z hz => hxk z (List.mem_of_mem_drop hz)) hR (by omega) h3 (resL_ok okm szE szy) RY)
  have SM := Lib.hid (fun (A : Option Addr) (c : Nat) W (b : Below w.heap.size w W) (h3 : EI.Rd W A ks) => same29 A (some ⟨b1, o1, none⟩) k c kc ks W hkl (by omega) h3 (hJ.later b))
  have hwn : IntKind.i64.wrap ((k : Int) - 1) = (n : Int) := by rw [IntWalk.i64_in _ (by omega)]; omega
  have hwc : IntKind.i64.wrap cut = cut := IntWalk.i64_in _ (by omega)
  have hn0 : (n : Int) ≠ 0 := by omega
  have hn1 : ¬ (n : Int) = 0 := by omega
  have hmod : cut.tmod (n : Int) = (q : Int) := by
    rw [Int.tmod_eq_emod_of_nonneg hc0, hq]
    have e : (k : Int) - 1 = (n : Int) := by omega
    rw [e]
    have := Int.emod_nonneg cut hn1
    omega
  have hwq : IntKind.i64.wrap (q : Int) = (q : Int) := IntWalk.i64_in _ (by omega)
  have hq1 : IntKind.i64.wrap (1 + (q : Int)) = (kv : Int) := by rw [IntWalk.i64_in _ (by omega)]; omega
  have hq2 : IntKind.i64.wrap ((kv : Int) - 1) = (q : Int) := by rw [IntWalk.i64_in _ (by omega)]; omega
  have hwv : IntKind.i64.wrap (kv : Int) = (kv : Int) := IntWalk.i64_in _ (by omega)
  have hv0 : (0 : Int) ≤ (kv : Int) := by omega
  have hqi : (q : Int) < (n : Int) := by omega
  have hq0 : (0 : Int) ≤ (q : Int) := by omega
  have hk2i : ¬ (k : Int) < 2 := by omega
  have hdv : (k : Int).tdiv 2 = (h : Int) := by rw [Int.tdiv_eq_ediv_of_nonneg (by omega)]; omega
  have hwh : IntKind.i64.wrap (h : Int) = (h : Int) := IntWalk.i64_in _ (by omega)
  have cp1 : (q : Int) ≤ (pc : Int) := by omega
  have cp2 : (kv : Int) ≤ (kc : Int) := by omega
  have cp3 : (kv : Int) ≤ (n : Int) := by omega
  have cp4 : (kv : Int) ≤ (k : Int) := by omega
  have cp5 : (kv : Int) ≤ (pc : Int) := by omega
  have hh9 : (h : Int) ≤ (k : Int) := by omega
  have PX := Lib.hid (fun W (b : Below w.heap.size w W) => es_at (hP.later b) hx)
  have HKL := Lib.hid (show (ks.take h).length = h by rw [List.length_take]; omega)
  have HKD := Lib.hid (show (ks.drop h).length = k - h by rw [List.length_drop, hkl])
  have HHK := Lib.hid (show h ≤ k ∧ k ≤ 20 by omega)
  have y1 := two_new w (NO kd (.slice (some ⟨b0, o0, none⟩) n pc) (.slice (some ⟨b1, o1, none⟩) k kc) (.slice M m mc) (.slice B 0 bc)) (rgc f t)
  have H0 := Lib.hid (bel_alloc (alb w (NO kd (.slice (some ⟨b0, o0, none⟩) n pc) (.slice (some ⟨b1, o1, none⟩) k kc) (.slice M m mc) (.slice B 0 bc))) (rgc f t))
  have Z := Lib.hid y1.1
  have Y := Lib.hid y1.2
  clear hkv y1 hl hP hkl hJ hxk hm hM ho hps hf ht hs hr hk hk2 hnp hnk hc0 hc1 hq hx hh hp1 hy gx gy hqn op1 szx szy szE hl1 hl2 hl1' hl2' o1k o2k hms' okm hm'l hL hR hl9 hr9 R1 R2 RJ RX RY hpn hoP hoJ DP DJ tl1 tl2 tl3 tl4 jp s1 s2 s3
  obtain ⟨c0, c1, c2, c3, c4⟩ := cells5 Z.out
  obtain ⟨d0, d1, -, -⟩ := has_two Y.out
  obtain ⟨bx, ox, ex, -, g0⟩ := PX.out _ H0.out
  cases ex
  go_enter Try.func5, Try.ntmps5
  go_upto_region 8 with (first
    | (go_at_call 7; ((with_reducible refine (SA.out _).mono ?_); rintro e w1 ⟨rfl, b1⟩; replace H0 := Lib.hid (bel_trans H0.out b1); replace Z := Lib.hid (keep_bel b1 Z.out); replace Y := Lib.hid (keep_bel b1 Y.out); clear b1 c0 c1 c2 c3 c4 d0 d1 g0; obtain ⟨c0, c1, c2, c3, c4⟩ := cells5 Z.out; obtain ⟨d0, d1, -, -⟩ := has_two Y.out))
    | (go_at_call 8; ((with_reducible refine (RA.out _ H0.out).mono ?_); rintro e w2 ⟨rfl, b2⟩; replace H0 := Lib.hid (bel_trans H0.out b2); replace Z := Lib.hid (keep_bel b2 Z.out); replace Y := Lib.hid (keep_bel b2 Y.out); clear b2 c0 c1 c2 c3 c4 d0 d1; obtain ⟨c0, c1, c2, c3, c4⟩ := cells5 Z.out; obtain ⟨d0, d1, -, -⟩ := has_two Y.out; obtain ⟨bx, ox, ex, -, g0⟩ := PX.out _ H0.out; cases ex))
    | (go_at_call 27; ((with_reducible refine (SP.out _).mono ?_); rintro e w5 ⟨rfl, bb⟩; replace H0 := Lib.hid (bel_trans H0.out bb); replace Z := Lib.hid (keep_bel bb Z.out); replace Y := Lib.hid (keep_bel bb Y.out); clear bb c0 c1 c2 c3 c4 d0 d1 g0))
    | fail)
  have y2 := two_new w5 (rgc f x) (rgc x t)
  have AL := bel_alloc (alb w5 (rgc f x)) (rgc x t)
  obtain ⟨W5, hW5⟩ : ∃ W5, W5 = ((w5.alloc (rgc f x)).alloc (rgc x t)) := ⟨_, rfl⟩
  rw [← hW5] at y2 AL ⊢
  replace H0 := Lib.hid (bel_trans H0.out AL)
  replace Z := Lib.hid (keep_bel AL Z.out)
  replace Y := Lib.hid (keep_bel AL Y.out)
  have BL := Lib.hid y2.1
  have BH := Lib.hid y2.2
  clear AL hW5 y2
  have BX := Lib.hid (bel_alloc (alb W5 (.cells #[.string x] 9)) (.cells #[.int .i64 1, .int .i64 2] 3))
  have GP := Lib.hid (show ES.Rd ((W5.alloc (.cells #[.string x] 9)).alloc (.cells #[.int .i64 1, .int .i64 2] 3)) (some ⟨W5.heap.size, 0, none⟩) [x] from (RE.Rd.lit (E := ES) W5 9 [x] #[.string x] rfl).later (alb _ _))
  have GJ := Lib.hid (show EI.Rd ((W5.alloc (.cells #[.string x] 9)).alloc (.cells #[.int .i64 1, .int .i64 2] 3)) (some ⟨W5.heap.size + 1, 0, none⟩) [1, 2] from by have g := RE.Rd.lit (E := EI) (W5.alloc (.cells #[.string x] 9)) 3 [1, 2] #[.int .i64 1, .int .i64 2] rfl; simpa using g)
  have HB := Lib.hid (bel_trans H0.out BX.out)
  obtain ⟨c0, c1, c2, c3, c4⟩ := cells5 (keep_bel BX.out Z.out)
  obtain ⟨d0, d1, -, -⟩ := has_two (keep_bel BX.out Y.out)
  go_upto_region 9 with (first
    | (go_at_call 10; ((with_reducible refine (TA.out W5.heap.size _ HB.out GP.out GJ.out).mono ?_); rintro e w8 ⟨L1, ca, Q8, Qc, Qj, Qk, M8, mc8, Qb, qb, rfl, rt, rr, bb⟩; replace bb := bel_trans BX.out bb; have RL1 := Lib.hid rt.rd; replace H0 := Lib.hid (bel_trans H0.out bb); replace Z := Lib.hid (keep_bel bb Z.out); replace Y := Lib.hid (keep_bel bb Y.out); replace BL := Lib.hid (keep_bel bb BL.out); replace BH := Lib.hid (keep_bel bb BH.out); clear bb rt rr c0 c1 c2 c3 c4 d0 d1))
    | fail)
  obtain ⟨W8, hW8⟩ : ∃ W8, W8 = w8.alloc (NO 2 (.slice Q8 1 Qc) (.slice Qj 2 Qk) (.slice M8 (restL [x] f t 0 ms).length mc8) (.slice Qb 0 qb)) := ⟨_, rfl⟩
  have AL := alb w8 (NO 2 (.slice Q8 1 Qc) (.slice Qj 2 Qk) (.slice M8 (restL [x] f t 0 ms).length mc8) (.slice Qb 0 qb))
  rw [← hW8] at AL ⊢
  replace H0 := Lib.hid (bel_trans H0.out AL)
  replace Z := Lib.hid (keep_bel AL Z.out)
  replace Y := Lib.hid (keep_bel AL Y.out)
  replace BL := Lib.hid (keep_bel AL BL.out)
  replace BH := Lib.hid (keep_bel AL BH.out)
  replace RL1 := Lib.hid (RL1.out.later AL)
  clear AL hW8
  have BX := Lib.hid (bel_alloc (alb W8 (.cells #[.string x] 9)) (.cells #[.int .i64 1, .int .i64 2] 3))
  have GP := Lib.hid (show ES.Rd ((W8.alloc (.cells #[.string x] 9)).alloc (.cells #[.int .i64 1, .int .i64 2] 3)) (some ⟨W8.heap.size, 0, none⟩) [x] from (RE.Rd.lit (E := ES) W8 9 [x] #[.string x] rfl).later (alb _ _))
  have GJ := Lib.hid (show EI.Rd ((W8.alloc (.cells #[.string x] 9)).alloc (.cells #[.int .i64 1, .int .i64 2] 3)) (some ⟨W8.heap.size + 1, 0, none⟩) [1, 2] from by have g := RE.Rd.lit (E := EI) (W8.alloc (.cells #[.string x] 9)) 3 [1, 2] #[.int .i64 1, .int .i64 2] rfl; simpa using g)
  have HB := Lib.hid (bel_trans H0.out BX.out)
  obtain ⟨c0, c1, c2, c3, c4⟩ := cells5 (keep_bel BX.out Z.out)
  obtain ⟨d0, d1, -, -⟩ := has_two (keep_bel BX.out Y.out)
  go_upto_region 10 with (first
    | (go_at_call 10; ((with_reducible refine (TB.out W8.heap.size _ HB.out GP.out GJ.out).mono ?_); rintro e w9 ⟨L2, cb, Q9, Qc, Qj, Qk, M9, mc9, Qb, qb, rfl, rt, rr, bb⟩; replace bb := bel_trans BX.out bb; have RL2 := Lib.hid rt.rd; replace H0 := Lib.hid (bel_trans H0.out bb); replace Z := Lib.hid (keep_bel bb Z.out); replace Y := Lib.hid (keep_bel bb Y.out); replace BL := Lib.hid (keep_bel bb BL.out); replace BH := Lib.hid (keep_bel bb BH.out); replace RL1 := Lib.hid (RL1.out.later bb); clear bb rt rr c0 c1 c2 c3 c4 d0 d1))
    | fail)
  obtain ⟨W9, hW9⟩ : ∃ W9, W9 = w9.alloc (NO 2 (.slice Q9 1 Qc) (.slice Qj 2 Qk) (.slice M9 (restL [x] f t 1 ms).length mc9) (.slice Qb 0 qb)) := ⟨_, rfl⟩
  have AL := alb w9 (NO 2 (.slice Q9 1 Qc) (.slice Qj 2 Qk) (.slice M9 (restL [x] f t 1 ms).length mc9) (.slice Qb 0 qb))
  rw [← hW9] at AL ⊢
  replace H0 := Lib.hid (bel_trans H0.out AL)
  replace Z := Lib.hid (keep_bel AL Z.out)
  replace Y := Lib.hid (keep_bel AL Y.out)
  replace BL := Lib.hid (keep_bel AL BL.out)
  replace BH := Lib.hid (keep_bel AL BH.out)
  replace RL2 := Lib.hid (RL2.out.later AL)
  replace RL1 := Lib.hid (RL1.out.later AL)
  clear AL hW9
  go_upto_region 10 with fail
  refine wp_region_held_drew (S := (fun V : World => V.heap[w.heap.size]? = some (NO kd (.slice (some ⟨b0, o0, none⟩) n pc) (.slice (some ⟨b1, o1, none⟩) k kc) (.slice M m mc) (.slice B 0 bc)))) (by kernel_rfl) ?_ (fun hHeld => ?_)
  · exact Z.out
  have HHeld := Lib.hid hHeld; clear hHeld
  refine wT (i := 0) (oi := { dst := some 85, op := Op.fieldAddr 28 (Operand.tmp 3) 1, type := 0, pos := "law.go:129", after := #[], guard := none }) (v := ?_) rfl (Or.inl ⟨by rfl, ?_⟩) HHeld.out ?_
  rotate_left
  · intro w hSw; clear hSw; go_simp; try with_reducible rfl
  try simp only [pu, pn, s1, s2, s3]
  refine wT (i := 1) (oi := { dst := some 86, op := Op.load 23 (Operand.tmp 85), type := 23, pos := "law.go:129", after := #[{ on := 0, ground := Ground.data }], guard := none }) (v := (.slice (some ⟨b0, o0, none⟩) n pc : Value)) rfl (Or.inl ⟨by rfl, ?_⟩) HHeld.out ?_
  · intro V hV; have hc0 := (cells5 hV).2.1; clear hV; go_simp
  try simp only [pu, pn, s1, s2, s3]
  refine wT (i := 2) (oi := { dst := some 87, op := Op.move (Operand.tmp 7), type := 3, pos := "law.go:129", after := #[], guard := none }) (v := ?_) rfl (Or.inl ⟨by rfl, ?_⟩) HHeld.out ?_
  rotate_left
  · intro w hSw; clear hSw; go_simp; try with_reducible rfl
  try simp only [pu, pn, s1, s2, s3]
  refine wT (i := 3) (oi := { dst := some 88, op := Op.binOp BinOp.sub 3 (Operand.tmp 87) (Operand.const (Value.int IntKind.i64 1)) 3, type := 3, pos := "law.go:129", after := #[{ on := 2, ground := Ground.data }], guard := none }) (v := ?_) rfl (Or.inl ⟨by rfl, ?_⟩) HHeld.out ?_
  rotate_left
  · intro w hSw; clear hSw; go_simp; try with_reducible rfl
  try simp only [pu, pn, s1, s2, s3]
  refine wT (i := 4) (oi := { dst := some 89, op := Op.slice 23 (Operand.tmp 86) none (some (Operand.tmp 88)) none, type := 23, pos := "law.go:129", after := #[{ on := 1, ground := Ground.data }, { on := 3, ground := Ground.data }], guard := none }) (v := ?_) rfl (Or.inl ⟨by rfl, ?_⟩) HHeld.out ?_
  rotate_left
  · intro w hSw; clear hSw; go_simp; try with_reducible rfl
  try simp only [pu, pn, s1, s2, s3]
  refine wT (i := 5) (oi := { dst := some 90, op := Op.fieldAddr 28 (Operand.tmp 3) 2, type := 0, pos := "law.go:129", after := #[], guard := none }) (v := ?_) rfl (Or.inl ⟨by rfl, ?_⟩) HHeld.out ?_
  rotate_left
  · intro w hSw; clear hSw; go_simp; try with_reducible rfl
  try simp only [pu, pn, s1, s2, s3]
  refine wT (i := 6) (oi := { dst := some 91, op := Op.load 24 (Operand.tmp 90), type := 24, pos := "law.go:129", after := #[{ on := 5, ground := Ground.data }], guard := none }) (v := (.slice (some ⟨b1, o1, none⟩) k kc : Value)) rfl (Or.inl ⟨by rfl, ?_⟩) HHeld.out ?_
  · intro V hV; have hc0 := (cells5 hV).2.2.1; clear hV; go_simp
  try simp only [pu, pn, s1, s2, s3]
  refine wT (i := 7) (oi := { dst := some 92, op := Op.move (Operand.tmp 7), type := 3, pos := "law.go:129", after := #[], guard := none }) (v := ?_) rfl (Or.inl ⟨by rfl, ?_⟩) HHeld.out ?_
  rotate_left
  · intro w hSw; clear hSw; go_simp; try with_reducible rfl
  try simp only [pu, pn, s1, s2, s3]
  refine wT (i := 8) (oi := { dst := some 93, op := Op.slice 24 (Operand.tmp 91) none (some (Operand.tmp 92)) none, type := 24, pos := "law.go:129", after := #[{ on := 6, ground := Ground.data }, { on := 7, ground := Ground.data }], guard := none }) (v := ?_) rfl (Or.inl ⟨by rfl, ?_⟩) HHeld.out ?_
  rotate_left
  · intro w hSw; clear hSw; go_simp; try with_reducible rfl
  try simp only [pu, pn, s1, s2, s3]
  refine wT (i := 9) (oi := { dst := some 94, op := Op.move (Operand.tmp 12), type := 25, pos := "law.go:129", after := #[], guard := none }) (v := ?_) rfl (Or.inl ⟨by rfl, ?_⟩) HHeld.out ?_
  rotate_left
  · intro w hSw; clear hSw; go_simp; try with_reducible rfl
  try simp only [pu, pn, s1, s2, s3]
  refine wT (i := 10) (oi := { dst := some 95, op := Op.build 28 #[(0, Operand.const (Value.int IntKind.u8 2)), (1, Operand.tmp 89), (2, Operand.tmp 93), (3, Operand.tmp 94)], type := 28, pos := "law.go:129", after := #[{ on := 4, ground := Ground.data }, { on := 8, ground := Ground.data }, { on := 9, ground := Ground.data }], guard := none }) (v := ?_) rfl (Or.inl ⟨by rfl, ?_⟩) HHeld.out ?_
  rotate_left
  · intro w hSw; clear hSw; go_simp; try with_reducible rfl
  try simp only [pu, pn, s1, s2, s3]
  refine wpAnyH_ready (rs := [11]) (by kernel_rfl) (by simp) ?_
  refine AllReadyH.cons (o := { dst := some 16, op := Op.alloc 28, type := 0, pos := "law.go:129", after := #[], guard := none }) rfl (fun K hK => ?_) AllReadyH.nil
  go_simp
  refine at_k (fun WA hWA => ?_)
  have ZA := Lib.hid (show WA.heap[W9.heap.size]? = some ZN by rw [hWA]; exact heap_alloc_new _ _)
  have BA := Lib.hid (show Below W9.heap.size W9 WA by rw [hWA]; exact (alb _ _).drew)
  clear hWA
  refine hK.out _ _ ?_ (fun hHeld => ?_)
  · exact keep_bel BA.out Z.out
  clear HHeld; have HHeld := Lib.hid hHeld; clear hHeld
  clear hK K
  try simp only [pu, pn, s1, s2, s3]
  refine wpAnyH_ready (rs := [12]) (by kernel_rfl) (by simp) ?_
  refine AllReadyH.cons (o := { dst := none, op := Op.store 28 (Operand.tmp 16) (Operand.tmp 95), type := 0, pos := "law.go:129", after := #[{ on := 11, ground := Ground.data }, { on := 10, ground := Ground.data }, { on := 0, ground := Ground.phase }, { on := 1, ground := Ground.phase }, { on := 2, ground := Ground.phase }, { on := 3, ground := Ground.phase }, { on := 4, ground := Ground.phase }, { on := 5, ground := Ground.phase }, { on := 6, ground := Ground.phase }, { on := 7, ground := Ground.phase }, { on := 8, ground := Ground.phase }, { on := 9, ground := Ground.phase }, { on := 10, ground := Ground.phase }, { on := 11, ground := Ground.phase }], guard := none }) rfl (fun K hK => ?_) AllReadyH.nil
  obtain ⟨c0, c1, c2, c3, c4⟩ := cells5 ZA.out
  obtain ⟨f0, f1, f2, f3, f4⟩ := froz5 ZA.out
  go_simp
  clear c0 c1 c2 c3 c4 f0 f1 f2 f3 f4
  refine at_k (fun WB hWB => ?_)
  have HC := Lib.hid (show Chg (fun g => g = W9.heap.size) WA WB by rw [hWB]; exact chg5 _ _ _ _ _ _ _)
  have ZB := Lib.hid (show WB.heap[W9.heap.size]? = some (NO 2 (.slice (some ⟨b0, o0, none⟩) q pc) (.slice (some ⟨b1, o1, none⟩) kv kc) (.slice L1 l1 ca) (.slice none 0 0)) by rw [hWB]; exact set5w ZA.out _ _ _ _ _)
  have BB := Lib.hid (show Below W9.heap.size W9 WB from bel_chg BA.out HC.out (Nat.le_refl _))
  clear hWB HC BA ZA
  refine hK.out _ _ ?_ (fun hHeld => ?_)
  · exact keep_bel BB.out Z.out
  clear HHeld; have HHeld := Lib.hid hHeld; clear hHeld
  clear hK K
  try simp only [pu, pn, s1, s2, s3]
  refine wpAnyH_done (by kernel_rfl) ?_ _
  clear HHeld
  replace Z := Lib.hid (keep_bel BB.out Z.out)
  replace Y := Lib.hid (keep_bel BB.out Y.out)
  replace BL := Lib.hid (keep_bel BB.out BL.out)
  replace BH := Lib.hid (keep_bel BB.out BH.out)
  replace RL1 := Lib.hid (RL1.out.later BB.out)
  replace RL2 := Lib.hid (RL2.out.later BB.out)
  replace H0 := Lib.hid (bel_trans H0.out BB.out)
  have GA := ZB
  clear ZB BB
  obtain ⟨W10, rfl⟩ : ∃ W10, W10 = WB := ⟨_, rfl⟩
  go_upto_region 11 with fail
  refine wp_region_held_drew (S := (fun V : World => V.heap[w.heap.size]? = some (NO kd (.slice (some ⟨b0, o0, none⟩) n pc) (.slice (some ⟨b1, o1, none⟩) k kc) (.slice M m mc) (.slice B 0 bc)))) (by kernel_rfl) ?_ (fun hHeld => ?_)
  · exact Z.out
  have HHeld := Lib.hid hHeld; clear hHeld
  refine wT (i := 0) (oi := { dst := some 96, op := Op.fieldAddr 28 (Operand.tmp 3) 1, type := 0, pos := "law.go:130", after := #[], guard := none }) (v := ?_) rfl (Or.inl ⟨by rfl, ?_⟩) HHeld.out ?_
  rotate_left
  · intro w hSw; clear hSw; go_simp; try with_reducible rfl
  try simp only [pu, pn, s1, s2, s3]
  refine wT (i := 1) (oi := { dst := some 97, op := Op.load 23 (Operand.tmp 96), type := 23, pos := "law.go:130", after := #[{ on := 0, ground := Ground.data }], guard := none }) (v := (.slice (some ⟨b0, o0, none⟩) n pc : Value)) rfl (Or.inl ⟨by rfl, ?_⟩) HHeld.out ?_
  · intro V hV; have hc0 := (cells5 hV).2.1; clear hV; go_simp
  try simp only [pu, pn, s1, s2, s3]
  refine wT (i := 2) (oi := { dst := some 98, op := Op.move (Operand.tmp 7), type := 3, pos := "law.go:130", after := #[], guard := none }) (v := ?_) rfl (Or.inl ⟨by rfl, ?_⟩) HHeld.out ?_
  rotate_left
  · intro w hSw; clear hSw; go_simp; try with_reducible rfl
  try simp only [pu, pn, s1, s2, s3]
  refine wT (i := 3) (oi := { dst := some 99, op := Op.slice 23 (Operand.tmp 97) (some (Operand.tmp 98)) none none, type := 23, pos := "law.go:130", after := #[{ on := 1, ground := Ground.data }, { on := 2, ground := Ground.data }], guard := none }) (v := (.slice (some ⟨b0, oP, none⟩) (n - kv) (pc - kv) : Value)) rfl (Or.inl ⟨by rfl, ?_⟩) HHeld.out ?_
  · intro V hV; have hc0 := HOP.out; clear hV; go_simp; (try (split <;> rfl))
  try simp only [pu, pn, s1, s2, s3]
  refine wT (i := 4) (oi := { dst := some 100, op := Op.fieldAddr 28 (Operand.tmp 3) 2, type := 0, pos := "law.go:130", after := #[], guard := none }) (v := ?_) rfl (Or.inl ⟨by rfl, ?_⟩) HHeld.out ?_
  rotate_left
  · intro w hSw; clear hSw; go_simp; try with_reducible rfl
  try simp only [pu, pn, s1, s2, s3]
  refine wT (i := 5) (oi := { dst := some 101, op := Op.load 24 (Operand.tmp 100), type := 24, pos := "law.go:130", after := #[{ on := 4, ground := Ground.data }], guard := none }) (v := (.slice (some ⟨b1, o1, none⟩) k kc : Value)) rfl (Or.inl ⟨by rfl, ?_⟩) HHeld.out ?_
  · intro V hV; have hc0 := (cells5 hV).2.2.1; clear hV; go_simp
  try simp only [pu, pn, s1, s2, s3]
  refine wT (i := 6) (oi := { dst := some 102, op := Op.move (Operand.tmp 7), type := 3, pos := "law.go:130", after := #[], guard := none }) (v := ?_) rfl (Or.inl ⟨by rfl, ?_⟩) HHeld.out ?_
  rotate_left
  · intro w hSw; clear hSw; go_simp; try with_reducible rfl
  try simp only [pu, pn, s1, s2, s3]
  refine wT (i := 7) (oi := { dst := some 103, op := Op.slice 24 (Operand.tmp 101) (some (Operand.tmp 102)) none none, type := 24, pos := "law.go:130", after := #[{ on := 5, ground := Ground.data }, { on := 6, ground := Ground.data }], guard := none }) (v := (.slice (some ⟨b1, oJ, none⟩) (k - kv) (kc - kv) : Value)) rfl (Or.inl ⟨by rfl, ?_⟩) HHeld.out ?_
  · intro V hV; have hc0 := HOJ.out; clear hV; go_simp; (try (split <;> rfl))
  try simp only [pu, pn, s1, s2, s3]
  refine wT (i := 8) (oi := { dst := some 104, op := Op.move (Operand.tmp 14), type := 25, pos := "law.go:130", after := #[], guard := none }) (v := ?_) rfl (Or.inl ⟨by rfl, ?_⟩) HHeld.out ?_
  rotate_left
  · intro w hSw; clear hSw; go_simp; try with_reducible rfl
  try simp only [pu, pn, s1, s2, s3]
  refine wT (i := 9) (oi := { dst := some 105, op := Op.build 28 #[(0, Operand.const (Value.int IntKind.u8 2)), (1, Operand.tmp 99), (2, Operand.tmp 103), (3, Operand.tmp 104)], type := 28, pos := "law.go:130", after := #[{ on := 3, ground := Ground.data }, { on := 7, ground := Ground.data }, { on := 8, ground := Ground.data }], guard := none }) (v := ?_) rfl (Or.inl ⟨by rfl, ?_⟩) HHeld.out ?_
  rotate_left
  · intro w hSw; clear hSw; go_simp; try with_reducible rfl
  try simp only [pu, pn, s1, s2, s3]
  refine wpAnyH_ready (rs := [10]) (by kernel_rfl) (by simp) ?_
  refine AllReadyH.cons (o := { dst := some 17, op := Op.alloc 28, type := 0, pos := "law.go:130", after := #[], guard := none }) rfl (fun K hK => ?_) AllReadyH.nil
  go_simp
  refine at_k (fun WA hWA => ?_)
  have ZA := Lib.hid (show WA.heap[W10.heap.size]? = some ZN by rw [hWA]; exact heap_alloc_new _ _)
  have BA := Lib.hid (show Below W10.heap.size W10 WA by rw [hWA]; exact (alb _ _).drew)
  clear hWA
  refine hK.out _ _ ?_ (fun hHeld => ?_)
  · exact keep_bel BA.out Z.out
  clear HHeld; have HHeld := Lib.hid hHeld; clear hHeld
  clear hK K
  try simp only [pu, pn, s1, s2, s3]
  refine wpAnyH_ready (rs := [11]) (by kernel_rfl) (by simp) ?_
  refine AllReadyH.cons (o := { dst := none, op := Op.store 28 (Operand.tmp 17) (Operand.tmp 105), type := 0, pos := "law.go:130", after := #[{ on := 10, ground := Ground.data }, { on := 9, ground := Ground.data }, { on := 0, ground := Ground.phase }, { on := 1, ground := Ground.phase }, { on := 2, ground := Ground.phase }, { on := 3, ground := Ground.phase }, { on := 4, ground := Ground.phase }, { on := 5, ground := Ground.phase }, { on := 6, ground := Ground.phase }, { on := 7, ground := Ground.phase }, { on := 8, ground := Ground.phase }, { on := 9, ground := Ground.phase }, { on := 10, ground := Ground.phase }], guard := none }) rfl (fun K hK => ?_) AllReadyH.nil
  obtain ⟨c0, c1, c2, c3, c4⟩ := cells5 ZA.out
  obtain ⟨f0, f1, f2, f3, f4⟩ := froz5 ZA.out
  go_simp
  clear c0 c1 c2 c3 c4 f0 f1 f2 f3 f4
  refine at_k (fun WB hWB => ?_)
  have HC := Lib.hid (show Chg (fun g => g = W10.heap.size) WA WB by rw [hWB]; exact chg5 _ _ _ _ _ _ _)
  have ZB := Lib.hid (show WB.heap[W10.heap.size]? = some (NO 2 (.slice (some ⟨b0, oP, none⟩) (n - kv) (pc - kv)) (.slice (some ⟨b1, oJ, none⟩) (k - kv) (kc - kv)) (.slice L2 l2 cb) (.slice none 0 0)) by rw [hWB]; exact set5w ZA.out _ _ _ _ _)
  have BB := Lib.hid (show Below W10.heap.size W10 WB from bel_chg BA.out HC.out (Nat.le_refl _))
  clear hWB HC BA ZA
  refine hK.out _ _ ?_ (fun hHeld => ?_)
  · exact keep_bel BB.out Z.out
  clear HHeld; have HHeld := Lib.hid hHeld; clear hHeld
  clear hK K
  try simp only [pu, pn, s1, s2, s3]
  refine wpAnyH_done (by kernel_rfl) ?_ _
  clear HHeld
  replace Z := Lib.hid (keep_bel BB.out Z.out)
  replace Y := Lib.hid (keep_bel BB.out Y.out)
  replace BL := Lib.hid (keep_bel BB.out BL.out)
  replace BH := Lib.hid (keep_bel BB.out BH.out)
  replace RL1 := Lib.hid (RL1.out.later BB.out)
  replace RL2 := Lib.hid (RL2.out.later BB.out)
  replace H0 := Lib.hid (bel_trans H0.out BB.out)
  replace GA := Lib.hid (keep_bel BB.out GA.out)
  have GB := ZB
  clear ZB BB
  obtain ⟨a0, a1, a2, a3, a4⟩ := cells5 GA.out
  obtain ⟨z0, z1, z2, z3, z4⟩ := cells5 GB.out
  obtain ⟨d0, d1, -, -⟩ := has_two BL.out
  obtain ⟨e0, e1, -, -⟩ := has_two BH.out
  go_upto_region 15 with (first
    | (go_at_call 8; ((with_reducible refine (R8a.out L1 _ _ H0.out RL1.out).mono ?_); rintro e wa ⟨rfl, bb⟩; replace H0 := Lib.hid (bel_trans H0.out bb); replace Z := Lib.hid (keep_bel bb Z.out); replace Y := Lib.hid (keep_bel bb Y.out); replace BL := Lib.hid (keep_bel bb BL.out); replace BH := Lib.hid (keep_bel bb BH.out); replace GA := Lib.hid (keep_bel bb GA.out); replace GB := Lib.hid (keep_bel bb GB.out); replace RL1 := Lib.hid (RL1.out.later bb); replace RL2 := Lib.hid (RL2.out.later bb); clear bb a0 a1 a2 a3 a4 z0 z1 z2 z3 z4 d0 d1 e0 e1; obtain ⟨a0, a1, a2, a3, a4⟩ := cells5 GA.out; obtain ⟨z0, z1, z2, z3, z4⟩ := cells5 GB.out; obtain ⟨d0, d1, -, -⟩ := has_two BL.out; obtain ⟨e0, e1, -, -⟩ := has_two BH.out))
    | (go_at_call 8; ((with_reducible refine (R8b.out L2 _ _ H0.out RL2.out).mono ?_); rintro e wb ⟨rfl, bb⟩; replace H0 := Lib.hid (bel_trans H0.out bb); replace Z := Lib.hid (keep_bel bb Z.out); replace Y := Lib.hid (keep_bel bb Y.out); replace BL := Lib.hid (keep_bel bb BL.out); replace BH := Lib.hid (keep_bel bb BH.out); replace GA := Lib.hid (keep_bel bb GA.out); replace GB := Lib.hid (keep_bel bb GB.out); replace RL1 := Lib.hid (RL1.out.later bb); replace RL2 := Lib.hid (RL2.out.later bb); clear bb a0 a1 a2 a3 a4 z0 z1 z2 z3 z4 d0 d1 e0 e1; obtain ⟨a0, a1, a2, a3, a4⟩ := cells5 GA.out; obtain ⟨z0, z1, z2, z3, z4⟩ := cells5 GB.out; obtain ⟨d0, d1, -, -⟩ := has_two BL.out; obtain ⟨e0, e1, -, -⟩ := has_two BH.out))
    | (go_at_call 28; ((with_reducible refine (EA.out L1 L2 _ _ _ H0.out RL1.out RL2.out).mono ?_); rintro e w14 ⟨P4, p4, J4, j4, M4, m4, B4, b4, P5, p5, J5, j5, M5, m5, B5, b5, rfl, r4, r5, bb⟩; have R4 := Lib.hid r4; have R5 := Lib.hid r5; replace H0 := Lib.hid (bel_trans H0.out bb); replace Z := Lib.hid (keep_bel bb Z.out); replace Y := Lib.hid (keep_bel bb Y.out); clear bb r4 r5 a0 a1 a2 a3 a4 z0 z1 z2 z3 z4 d0 d1 e0 e1))
    | fail)
  have y4 := two_new w14 (NO 2 (.slice P4 p p4) (.slice J4 h j4) (.slice M4 l m4) (.slice B4 0 b4)) (NO 2 (.slice P5 (n - h) p5) (.slice J5 (k - h) j5) (.slice M5 r m5) (.slice B5 0 b5))
  have AL := bel_alloc (alb w14 (NO 2 (.slice P4 p p4) (.slice J4 h j4) (.slice M4 l m4) (.slice B4 0 b4))) (NO 2 (.slice P5 (n - h) p5) (.slice J5 (k - h) j5) (.slice M5 r m5) (.slice B5 0 b5))
  obtain ⟨W14, hW14⟩ : ∃ W14, W14 = ((w14.alloc (NO 2 (.slice P4 p p4) (.slice J4 h j4) (.slice M4 l m4) (.slice B4 0 b4))).alloc (NO 2 (.slice P5 (n - h) p5) (.slice J5 (k - h) j5) (.slice M5 r m5) (.slice B5 0 b5))) := ⟨_, rfl⟩
  rw [← hW14] at y4 AL ⊢
  replace H0 := Lib.hid (bel_trans H0.out AL)
  replace Z := Lib.hid (keep_bel AL Z.out)
  replace Y := Lib.hid (keep_bel AL Y.out)
  replace R4 := Lib.hid (R4.out.later AL)
  replace R5 := Lib.hid (R5.out.later AL)
  have GX := Lib.hid y4.1
  have GY := Lib.hid y4.2
  clear AL hW14 y4
  obtain ⟨d0, d1, -, -⟩ := has_two Y.out
  go_upto_region 16 with (first
    | (go_at_call 27; ((with_reducible refine (SPy.out _).mono ?_); rintro e w15 ⟨rfl, bb⟩; replace H0 := Lib.hid (bel_trans H0.out bb); replace Z := Lib.hid (keep_bel bb Z.out); replace GX := Lib.hid (keep_bel bb GX.out); replace GY := Lib.hid (keep_bel bb GY.out); replace R4 := Lib.hid (R4.out.later bb); replace R5 := Lib.hid (R5.out.later bb); clear bb d0 d1))
    | fail)
  have y5 := two_new w15 (rgc f y) (rgc y t)
  have AL := bel_alloc (alb w15 (rgc f y)) (rgc y t)
  obtain ⟨W15, hW15⟩ : ∃ W15, W15 = ((w15.alloc (rgc f y)).alloc (rgc y t)) := ⟨_, rfl⟩
  rw [← hW15] at y5 AL ⊢
  replace H0 := Lib.hid (bel_trans H0.out AL)
  replace Z := Lib.hid (keep_bel AL Z.out)
  replace GX := Lib.hid (keep_bel AL GX.out)
  replace GY := Lib.hid (keep_bel AL GY.out)
  replace R4 := Lib.hid (R4.out.later AL)
  replace R5 := Lib.hid (R5.out.later AL)
  have NL := Lib.hid y5.1
  have NH := Lib.hid y5.2
  clear AL hW15 y5
  obtain ⟨c0, c1, c2, c3, c4⟩ := cells5 Z.out
  obtain ⟨a0, a1, a2, a3, a4⟩ := cells5 GX.out
  obtain ⟨z0, z1, z2, z3, z4⟩ := cells5 GY.out
  obtain ⟨d0, d1, -, -⟩ := has_two NL.out
  obtain ⟨e0, e1, -, -⟩ := has_two NH.out
  go_upto_region 18 with (first
    | (go_at_call 16; ((with_reducible refine (IX.out P4 J4 M4 B4 p4 j4 m4 b4 _ R4.out.r1.rd R4.out.r2.rd R4.out.r3.rd).mono ?_); rintro e wc ⟨rfl, bb⟩; replace H0 := Lib.hid (bel_trans H0.out bb); replace Z := Lib.hid (keep_bel bb Z.out); replace GX := Lib.hid (keep_bel bb GX.out); replace GY := Lib.hid (keep_bel bb GY.out); replace NL := Lib.hid (keep_bel bb NL.out); replace NH := Lib.hid (keep_bel bb NH.out); replace R4 := Lib.hid (R4.out.later bb); replace R5 := Lib.hid (R5.out.later bb); clear bb c0 c1 c2 c3 c4 a0 a1 a2 a3 a4 z0 z1 z2 z3 z4 d0 d1 e0 e1; obtain ⟨c0, c1, c2, c3, c4⟩ := cells5 Z.out; obtain ⟨a0, a1, a2, a3, a4⟩ := cells5 GX.out; obtain ⟨z0, z1, z2, z3, z4⟩ := cells5 GY.out; obtain ⟨d0, d1, -, -⟩ := has_two NL.out; obtain ⟨e0, e1, -, -⟩ := has_two NH.out))
    | (go_at_call 16; ((with_reducible refine (IY.out P5 J5 M5 B5 p5 j5 m5 b5 _ R5.out.r1.rd R5.out.r2.rd R5.out.r3.rd).mono ?_); rintro e wd ⟨rfl, bb⟩; replace H0 := Lib.hid (bel_trans H0.out bb); replace Z := Lib.hid (keep_bel bb Z.out); replace GX := Lib.hid (keep_bel bb GX.out); replace GY := Lib.hid (keep_bel bb GY.out); replace NL := Lib.hid (keep_bel bb NL.out); replace NH := Lib.hid (keep_bel bb NH.out); replace R4 := Lib.hid (R4.out.later bb); replace R5 := Lib.hid (R5.out.later bb); clear bb c0 c1 c2 c3 c4 a0 a1 a2 a3 a4 z0 z1 z2 z3 z4 d0 d1 e0 e1; obtain ⟨c0, c1, c2, c3, c4⟩ := cells5 Z.out; obtain ⟨a0, a1, a2, a3, a4⟩ := cells5 GX.out; obtain ⟨z0, z1, z2, z3, z4⟩ := cells5 GY.out; obtain ⟨d0, d1, -, -⟩ := has_two NL.out; obtain ⟨e0, e1, -, -⟩ := has_two NH.out))
    | fail)
  obtain ⟨W18, hW18⟩ : ∃ W18, W18 = wd := ⟨_, rfl⟩
  rw [← hW18] at H0 Z GX GY R4 R5 ⊢
  clear hW18 c0 c1 c2 c3 c4 a0 a1 a2 a3 a4 z0 z1 z2 z3 z4 d0 d1 e0 e1
  have QS := Lib.hid (show ∀ zz ∈ ([(w.heap.size, (NO kd (.slice (some ⟨b0, o0, none⟩) n pc) (.slice (some ⟨b1, o1, none⟩) k kc) (.slice M m mc) (.slice B 0 bc))), (w14.heap.size, (NO 2 (.slice P4 p p4) (.slice J4 h j4) (.slice M4 l m4) (.slice B4 0 b4))), (w14.heap.size + 1, (NO 2 (.slice P5 (n - h) p5) (.slice J5 (k - h) j5) (.slice M5 r m5) (.slice B5 0 b5)))] : List (Nat × Obj)), W18.heap[zz.1]? = some zz.2 by
    intro zz hz
    simp only [List.mem_cons, List.not_mem_nil, or_false] at hz
    rcases hz with rfl | rfl | rfl
    · exact Z.out
    · exact GX.out
    · exact GY.out)
  refine wp_region_held_drew (S := (SK W18 [(w.heap.size, (NO kd (.slice (some ⟨b0, o0, none⟩) n pc) (.slice (some ⟨b1, o1, none⟩) k kc) (.slice M m mc) (.slice B 0 bc))), (w14.heap.size, (NO 2 (.slice P4 p p4) (.slice J4 h j4) (.slice M4 l m4) (.slice B4 0 b4))), (w14.heap.size + 1, (NO 2 (.slice P5 (n - h) p5) (.slice J5 (k - h) j5) (.slice M5 r m5) (.slice B5 0 b5)))])) (by kernel_rfl) ?_ (fun hHeld => ?_)
  · exact SK.start QS.out
  have HHeld := Lib.hid hHeld; clear hHeld
  refine wpAnyH_ready (rs := [0]) (by kernel_rfl) (by simp) ?_
  refine AllReadyH.cons (o := { dst := some 155, op := Op.call { callee := Callee.value (Operand.func 9), args := #[], argTypes := #[] }, type := 4, pos := "law.go:139", after := #[], guard := none }) rfl (fun K hK => ?_) AllReadyH.nil
  go_simp
  go_at_call 9; ((with_reducible refine (live_true _).mono ?_); rintro e v0 ⟨rfl, bb⟩; have K0 := Lib.hid (HHeld.out.later bb); clear bb)
  refine hK.out _ _ ?_ (fun hHeld => ?_)
  · exact K0.out
  clear HHeld; have HHeld := Lib.hid hHeld; clear hHeld
  clear hK K
  try simp only [pu, pn, s1, s2, s3]
  refine wT (i := 1) (oi := { dst := some 156, op := Op.move (Operand.tmp 155), type := 4, pos := "law.go:139", after := #[{ on := 0, ground := Ground.data }, { on := 0, ground := Ground.chain }], guard := none }) (v := ?_) rfl (Or.inl ⟨by rfl, ?_⟩) HHeld.out ?_
  rotate_left
  · intro w hSw; clear hSw; go_simp; try with_reducible rfl
  try simp only [pu, pn, s1, s2, s3]
  refine wT (i := 3) (oi := { dst := some 158, op := Op.fieldAddr 28 (Operand.tmp 18) 2, type := 0, pos := "law.go:139", after := #[{ on := 1, ground := Ground.guard }], guard := some (1, true) }) (v := ?_) rfl (Or.inl ⟨by rfl, ?_⟩) HHeld.out ?_
  rotate_left
  · intro w hSw; clear hSw; go_simp; try with_reducible rfl
  try simp only [pu, pn, s1, s2, s3]
  refine wT (i := 4) (oi := { dst := some 159, op := Op.load 24 (Operand.tmp 158), type := 24, pos := "law.go:139", after := #[{ on := 3, ground := Ground.data }, { on := 1, ground := Ground.guard }], guard := some (1, true) }) (v := (.slice J4 h j4 : Value)) rfl (Or.inl ⟨by rfl, ?_⟩) HHeld.out ?_
  · intro V hV; have hc0 := (cells5 (hV.g 1 rfl)).2.2.1; clear hV; go_simp
  try simp only [pu, pn, s1, s2, s3]
  refine wT (i := 6) (oi := { dst := some 161, op := Op.fieldAddr 28 (Operand.tmp 19) 2, type := 0, pos := "law.go:139", after := #[{ on := 1, ground := Ground.guard }], guard := some (1, true) }) (v := ?_) rfl (Or.inl ⟨by rfl, ?_⟩) HHeld.out ?_
  rotate_left
  · intro w hSw; clear hSw; go_simp; try with_reducible rfl
  try simp only [pu, pn, s1, s2, s3]
  refine wT (i := 7) (oi := { dst := some 162, op := Op.load 24 (Operand.tmp 161), type := 24, pos := "law.go:139", after := #[{ on := 6, ground := Ground.data }, { on := 1, ground := Ground.guard }], guard := some (1, true) }) (v := (.slice J5 (k - h) j5 : Value)) rfl (Or.inl ⟨by rfl, ?_⟩) HHeld.out ?_
  · intro V hV; have hc0 := (cells5 (hV.g 2 rfl)).2.2.1; clear hV; go_simp
  try simp only [pu, pn, s1, s2, s3]
  refine wT (i := 9) (oi := { dst := some 164, op := Op.fieldAddr 28 (Operand.tmp 3) 2, type := 0, pos := "law.go:139", after := #[{ on := 1, ground := Ground.guard }], guard := some (1, true) }) (v := ?_) rfl (Or.inl ⟨by rfl, ?_⟩) HHeld.out ?_
  rotate_left
  · intro w hSw; clear hSw; go_simp; try with_reducible rfl
  try simp only [pu, pn, s1, s2, s3]
  refine wT (i := 10) (oi := { dst := some 165, op := Op.load 24 (Operand.tmp 164), type := 24, pos := "law.go:139", after := #[{ on := 9, ground := Ground.data }, { on := 1, ground := Ground.guard }], guard := some (1, true) }) (v := (.slice (some ⟨b1, o1, none⟩) k kc : Value)) rfl (Or.inl ⟨by rfl, ?_⟩) HHeld.out ?_
  · intro V hV; have hc0 := (cells5 (hV.g 0 rfl)).2.2.1; clear hV; go_simp
  try simp only [pu, pn, s1, s2, s3]
  refine wpAnyH_ready (rs := [2]) (by kernel_rfl) (by simp) ?_
  refine AllReadyH.cons (o := { dst := some 157, op := Op.buildSlice 24 0 #[], type := 24, pos := "law.go:139", after := #[{ on := 1, ground := Ground.guard }], guard := some (1, true) }) rfl (fun K hK => ?_) AllReadyH.nil
  go_simp
  refine at_k (fun V2 hV2 => ?_)
  have b2 := Lib.hid (show Below v0.heap.size v0 V2 by rw [hV2]; exact alb _ _)
  have K2 := Lib.hid (K0.out.later b2.out)
  have E2 : Hid (EI.Row V2 v0.heap.size (some ⟨v0.heap.size, 0, none⟩) [] 0) := Lib.hid RE.Row.nil
  clear hV2
  refine hK.out _ _ ?_ (fun hHeld => ?_)
  · exact K2.out
  clear HHeld; have HHeld := Lib.hid hHeld; clear hHeld
  clear hK K
  try simp only [pu, pn, s1, s2, s3]
  refine wpAnyH_ready (rs := [5]) (by kernel_rfl) (by simp) ?_
  refine AllReadyH.cons (o := { dst := some 160, op := Op.call { callee := Callee.builtin Builtin.append, args := #[Operand.tmp 157, Operand.tmp 159], argTypes := #[24, 24] }, type := 24, pos := "law.go:139", after := #[{ on := 2, ground := Ground.data }, { on := 4, ground := Ground.data }, { on := 1, ground := Ground.chain }, { on := 1, ground := Ground.guard }], guard := some (1, true) }) rfl (fun K hK => ?_) AllReadyH.nil
  refine step_putG EI _ (by rfl) (.tmp 157) (.tmp 159) rfl (base := v0.heap.size) (some ⟨v0.heap.size, 0, none⟩) 0 0 [] J4 h j4 (ks.take h) (by simp [Act.eval, Act.put]) (by simp [Act.eval, Act.put]) E2.out rfl (by omega) b2.out.size HKL.out (by have := HHK.out; omega) (R4.out.r2.later K2.out.b).rd ?_
  intro A5 q5 V5 r1 r2
  have E5 := Lib.hid r1
  have b5 := Lib.hid (show Below v0.heap.size V2 V5 from RE.Row.below r2 E2.out (Nat.le_refl _) b2.out.size)
  have K5 := Lib.hid (SK.mk (K0.out.b.trans ((b2.out.trans b5.out).mono K0.out.b.size)) (fun p hp => keep_bel (b2.out.trans b5.out) (K0.out.q p hp)))
  clear r1 r2
  refine hK.out _ _ ?_ (fun hHeld => ?_)
  · exact K5.out
  clear HHeld; have HHeld := Lib.hid hHeld; clear hHeld
  clear hK K
  try simp only [pu, pn, s1, s2, s3]
  refine wpAnyH_ready (rs := [8]) (by kernel_rfl) (by simp) ?_
  refine AllReadyH.cons (o := { dst := some 163, op := Op.call { callee := Callee.builtin Builtin.append, args := #[Operand.tmp 160, Operand.tmp 162], argTypes := #[24, 24] }, type := 24, pos := "law.go:139", after := #[{ on := 5, ground := Ground.data }, { on := 7, ground := Ground.data }, { on := 5, ground := Ground.chain }, { on := 1, ground := Ground.guard }], guard := some (1, true) }) rfl (fun K hK => ?_) AllReadyH.nil
  refine step_putG EI _ (by rfl) (.tmp 160) (.tmp 162) rfl (base := v0.heap.size) A5 (0 + h) q5 ([] ++ ks.take h) J5 (k - h) j5 (ks.drop h) (by simp [Act.eval, Act.put]) (by simp [Act.eval, Act.put]) E5.out (by have := HKL.out; simp only [List.nil_append]; omega) (by have := HHK.out; omega) (Nat.le_trans b2.out.size b5.out.size) HKD.out (by have := HHK.out; omega) (R5.out.r2.later K5.out.b).rd ?_
  intro A8 q8 V8 r1 r2
  have E8 := Lib.hid r1
  have b8 := Lib.hid (show Below v0.heap.size V5 V8 from RE.Row.below r2 E5.out (Nat.le_refl _) (Nat.le_trans b2.out.size b5.out.size))
  have K8 := Lib.hid (SK.mk (K0.out.b.trans (((b2.out.trans b5.out).trans b8.out).mono K0.out.b.size)) (fun p hp => keep_bel ((b2.out.trans b5.out).trans b8.out) (K0.out.q p hp)))
  clear r1 r2
  refine hK.out _ _ ?_ (fun hHeld => ?_)
  · exact K8.out
  clear HHeld; have HHeld := Lib.hid hHeld; clear hHeld
  clear hK K
  try simp only [pu, pn, s1, s2, s3]
  refine wpAnyH_ready (rs := [11]) (by kernel_rfl) (by simp) ?_
  refine AllReadyH.cons (o := { dst := some 166, op := Op.call { callee := Callee.value (Operand.func 29), args := #[Operand.tmp 163, Operand.tmp 165], argTypes := #[24, 24] }, type := 4, pos := "law.go:139", after := #[{ on := 8, ground := Ground.data }, { on := 10, ground := Ground.data }, { on := 8, ground := Ground.chain }, { on := 1, ground := Ground.guard }], guard := some (1, true) }) rfl (fun K hK => ?_) AllReadyH.nil
  have HAP := Lib.hid (show 0 + h + (k - h) = k by have := HHK.out; omega)
  go_simp
  rw [show h + (k - h) = k by have := HHK.out; omega]
  go_at_call 29; ((with_reducible refine (SM.out A8 q8 _ (bel_trans H0.out K8.out.b) (by have g := E8.out.rd; rw [List.nil_append, List.take_append_drop] at g; exact g)).mono ?_); rintro e v11 ⟨rfl, bb⟩; have K11 := Lib.hid (HHeld.out.later bb); clear bb)
  refine hK.out _ _ ?_ (fun hHeld => ?_)
  · exact K11.out
  clear HHeld; have HHeld := Lib.hid hHeld; clear hHeld
  clear hK K
  try simp only [pu, pn, s1, s2, s3]
  refine wT (i := 12) (oi := { dst := some 167, op := Op.pick (Operand.tmp 156) (Operand.tmp 166) (Operand.const (Value.bool false)), type := 4, pos := "law.go:139", after := #[{ on := 1, ground := Ground.data }, { on := 11, ground := Ground.data }], guard := none }) (v := ?_) rfl (Or.inl ⟨by rfl, ?_⟩) HHeld.out ?_
  rotate_left
  · intro w hSw; clear hSw; go_simp; try with_reducible rfl
  try simp only [pu, pn, s1, s2, s3]
  refine wT (i := 13) (oi := { dst := some 6, op := Op.assign (Operand.tmp 167), type := 4, pos := "law.go:139", after := #[{ on := 12, ground := Ground.data }, { on := 11, ground := Ground.chain }, { on := 0, ground := Ground.phase }, { on := 1, ground := Ground.phase }, { on := 2, ground := Ground.phase }, { on := 3, ground := Ground.phase }, { on := 4, ground := Ground.phase }, { on := 5, ground := Ground.phase }, { on := 6, ground := Ground.phase }, { on := 7, ground := Ground.phase }, { on := 8, ground := Ground.phase }, { on := 9, ground := Ground.phase }, { on := 10, ground := Ground.phase }, { on := 11, ground := Ground.phase }, { on := 12, ground := Ground.phase }], guard := none }) (v := ?_) rfl (Or.inl ⟨by rfl, ?_⟩) HHeld.out ?_
  rotate_left
  · intro w hSw; clear hSw; go_simp; try with_reducible rfl
  try simp only [pu, pn, s1, s2, s3]
  refine wpAnyH_done (by kernel_rfl) ?_ _
  have HF := Lib.hid (bel_trans H0.out HHeld.out.b)
  clear HHeld
  go_wp2
  go_ret
  exact ⟨rfl, HF.out⟩
end Go.Proofs.Ytilnpeekajnlhaa
