/- The law MergeBoth: the pairs of things alike are the document's. -/
import Derived.Test.YtpijaphcknoobaaV3
import Derived.Sort.QuietIn
namespace Go.Proofs.Ytpijaphcknoobaa
set_option linter.unusedSimpArgs false
open Go.RowKit Go.Shelf
set_option linter.unusedVariables false
attribute [local go_sem] Oper.semAt_some

def Seq2Back (w : World) (L : List (TT × TT)) (e : Ending) (W : World) : Prop := ∃ lb, e = .returned (.func (.func 38) #[] lb) ∧ Below w.heap.size w W ∧ SeqF Try.prog 38 lb enc2 L W
theorem both_any (A B : Option Addr) (na nb ca cb : Nat) (a b : List TT) (hla : a.length = na) (hlb : b.length = nb) (hna : na ≤ 20) (hnb : nb ≤ 20) (hcb : nb ≤ cb) (hcm : cb ≤ maxLen) (hBn : B = none → cb = 0) (w : World) (hRA : RdT w A a) (hRB : RdT w B b) (hsa : Srt a) (hsb : Srt b) :
    Calls Try.prog 19 #[.func (.func 11) #[] #[], .slice A na ca, .slice B nb cb] w (Seq2Back w (bothL a b)) := by
  have h1 : Below w.heap.size w (w.alloc (.cells #[.func (.func 11) #[] #[]] 33)) := bel_alloc (Below.refl _ _) _
  have hb : Below w.heap.size w (((w.alloc (.cells #[.func (.func 11) #[] #[]] 33)).alloc (.cells #[.slice A na ca] 26)).alloc (.cells #[.slice B nb cb] 26)) := bel_alloc (bel_alloc h1 _) _
  have S := Lib.hid (both_seq (w.heap.size + 1) (w.heap.size + 2) w.heap.size A B na nb ca cb a b hla hlb hna hnb hcb hcm hBn _
    (show Boxed (((w.alloc (.cells #[.func (.func 11) #[] #[]] 33)).alloc (.cells #[.slice A na ca] 26)).alloc (.cells #[.slice B nb cb] 26)) (w.heap.size + 1) 26 (.slice A na ca) from by simpa only [World.size_alloc] using (Boxed.new (w.alloc (.cells #[.func (.func 11) #[] #[]] 33)) 26 (.slice A na ca)).alloc (.cells #[.slice B nb cb] 26))
    (by simpa only [World.size_alloc] using Boxed.new ((w.alloc (.cells #[.func (.func 11) #[] #[]] 33)).alloc (.cells #[.slice A na ca] 26)) 26 (.slice B nb cb))
    (((Boxed.new w 33 (.func (.func 11) #[] #[])).alloc _).alloc _) (Rd.later hRA hb) (Rd.later hRB hb) hsa hsb)
  have HB := Lib.hid hb
  clear hb h1 hRA hRB hsa hsb hBn hla hlb hcb hcm
  go_enter Try.func19, Try.ntmps19
  go_wp2
  exact bodyPost_ret (v := .func (.func 38) #[] #[.pointer (some ⟨w.heap.size + 1, 0, none⟩), .pointer (some ⟨w.heap.size + 2, 0, none⟩), .pointer (some ⟨w.heap.size, 0, none⟩)]) (by simp [results, Try.results19, go_sem]) rfl ⟨_, rfl, HB.out, S.out⟩
theorem run_isnil2 (g : Fn) (r l : Array Value) (W : World) : Sem.run Try.prog (binOp BinOp.eql 43 (Value.func g r l) Value.nilFunc) W = .ok (.bool false) W := by
  have h0 : ∀ d : Nat, (Op.equalIn (d + 1) 43 (Value.func g r l) Value.nilFunc).run Try.prog W = .ok false W := fun d => by simp [Op.equalIn, run_underlying Try.underlying43]
  have h1 := h0 9999
  have e : Op.equal 43 (Value.func g r l) Value.nilFunc = Op.equalIn (9999 + 1) 43 (Value.func g r l) Value.nilFunc := rfl
  rw [← e] at h1
  simp [binOp, go_sem, h1]
/-- A region without defers is walked in a round as anywhere. -/
theorem anyIn_round {F : Fence} {n : Nat} {P : Program} {md : Region.Mode} {ops : Array Oper} {Q : Exit → Act → World → Prop} {l : Nat} (hd : ∀ o ∈ ops, ∀ c, o.op ≠ .defer c) :
    ∀ {fuel : Nat} {listed : Array Bool} {a : Act} {w : World}, wpAnyIn F n P md ops Q fuel listed a w → wpAnyIn (F.inRound l) n P md ops Q fuel listed a w := by
  intro fuel
  induction fuel with
  | zero => intro listed a w h; exact h
  | succ fuel ih =>
    intro listed a w h
    refine ⟨h.1, fun i hi => ?_⟩
    have h2 := wpOpIn_mono (fun a w => ih (listed := listed.setIfInBounds i true) (a := a) (w := w)) (h.2 i hi)
    unfold wpOpIn at h2 ⊢
    cases ho : ops[i]? with
    | none => rw [ho] at h2; exact h2
    | some o =>
      rw [ho] at h2
      simp only at h2 ⊢
      split
      next hw =>
        rw [if_pos hw] at h2
        refine ⟨h2.1, ?_⟩
        have e1 : o.semAt (F.inRound l).round a.eval = o.semAt F.round a.eval := by
          rw [Oper.semAt_eq _ _ _ (hd o (Array.mem_of_getElem? ho)), Oper.semAt_eq _ _ _ (hd o (Array.mem_of_getElem? ho))]
        have h3 := h2.2
        rw [← e1] at h3
        exact h3
      next hw => rw [if_neg hw] at h2; exact h2
/-- A region that only reads, within a round. -/
theorem region_quiet_rd {F : Fence} {n : Nat} {P : Program} {id : Nat} {Q : Exit → Act → World → Prop} {a : Act} {w : World} {l : List Oper} {lp : Nat} (hro : F.round = none) (hm : P.follows .mixedOrders = true) (hB : Region.lexB .any l.toArray = true) (hd : ∀ o ∈ l.toArray, ∀ c, o.op ≠ .defer c)
    (h : wpQuietIn F n P l.toArray (fun w' => ∃ n, w' = w.drewN n) (fun a' => ∀ w', (∃ n, w' = w.drewN n) → Q .normal a' w') l a) : (Code.region id l.toArray true).wpIn (F.inRound lp) n P Q a w := by
  simp only [Region.lexB, Bool.and_eq_true] at hB
  refine wpIn_region_any hm (anyIn_round hd (wpAnyIn_of_quiet (C := fun w' => ∃ n, w' = w.drewN n) (Q := fun a' => ∀ w', (∃ n, w' = w.drewN n) → Q .normal a' w') hro (fun _ w' hw' h => h w' hw') _ _ _ _ ⟨1, rfl⟩ ?_))
  have := wpAnyQIn_lex (F := F) (n := n) (C := fun w' => ∃ n, w' = w.drewN n) (md := .any) hB.1 l.toArray.toList 0 (Array.replicate l.toArray.size false) a (by simp) (by simpa using hB.2) (by simpa using h)
  simpa using this
/-- What lies between the rounds: how many pairs were seen. -/
def BoI (bn : Nat) (k : Nat) (D : Nat → Prop) (W : World) : Prop := D = (fun g => g = bn) ∧ Boxed W bn 3 (.int .i64 k)
theorem boI_loc (bn B : Nat) : LocB B (BoI bn) := by
  rintro k D W W' ⟨rfl, h⟩ hc
  exact ⟨rfl, boxed_chg h hc (fun h => h.1 rfl)⟩
set_option maxRecDepth 100000 in
set_option maxHeartbeats 8000000 in
set_option pp.maxSteps 1000000 in
set_option pp.deepTerms true in
theorem boths_any (A B : Option Addr) (lena capa lenb capb : Nat) (az bz : List TT) (W : World) (hla : az.length = lena) (hlb : bz.length = lenb) (hca : lena ≤ capa) (hcb : lenb ≤ capb) (hma : capa ≤ maxLen) (hmb : capb ≤ maxLen) (hBn : B = none → capb = 0) (hRA : RdT W A az) (hRB : RdT W B bz) :
    Calls Try.prog 4 #[.slice A lena capa, .slice B lenb capb] W fun e W' => e = .returned (.bool true) ∧ Below W.heap.size W W' := by
  obtain ⟨na, hna⟩ : ∃ na, na = min lena 20 := ⟨_, rfl⟩
  obtain ⟨nb, hnb⟩ : ∃ nb, nb = min lenb 20 := ⟨_, rfl⟩
  obtain ⟨a, ha⟩ : ∃ a, a = az.take na := ⟨_, rfl⟩
  obtain ⟨b, hb⟩ : ∃ b, b = bz.take nb := ⟨_, rfl⟩
  have hal : a.length = na := by rw [ha, List.length_take]; omega
  have hbl : b.length = nb := by rw [hb, List.length_take]; omega
  have hRa : RdT W A a := by rw [ha]; exact rdt_take hRA na
  have hRb : RdT W B b := by rw [hb]; exact rdt_take hRB nb
  obtain ⟨V, hV⟩ : ∃ V, V = W.alloc (.cells #[.bool false] 4) := ⟨_, rfl⟩
  have bV : Below W.heap.size W V := by rw [hV]; exact bel_alloc (Below.refl _ _) _
  have xV : Boxed V W.heap.size 4 (.bool false) := by rw [hV]; exact Boxed.new W 4 _
  have FA := Lib.hid (few_any A lena capa V hca (Nat.le_trans hma (by decide)))
  have FB := Lib.hid (few_any B lenb capb V hcb (Nat.le_trans hmb (by decide)))
  rw [← hna] at FA
  rw [← hnb] at FB
  have RA : Hid (∀ U, Below V.heap.size V U → RdT U A a ∧ RdT U B b) := Lib.hid (fun U hU => ⟨Rd.later hRa (bel_trans bV hU), Rd.later hRb (bel_trans bV hU)⟩)
  have SA := Lib.hid (sorted_any A a na capa V hal (by omega) (RA.out V (Below.refl _ _)).1)
  have SB : Hid (∀ U, Below V.heap.size V U → Calls Try.prog 15 #[.slice B nb capb] U (SrtPost U b)) := Lib.hid (fun U hU => sorted_any B b nb capb U hbl (by omega) (RA.out U hU).2)
  obtain ⟨L, hL⟩ : ∃ L, L = bothL a b := ⟨_, rfl⟩
  obtain ⟨N, hN⟩ : ∃ N, L.length = N := ⟨_, rfl⟩
  have n20 : na ≤ 20 := by omega
  have m20 : nb ≤ 20 := by omega
  have hN400 : N ≤ 400 := by
    rw [← hN, hL]
    have h := both_len a b
    rw [hal, hbl] at h
    have h4 := Nat.mul_le_mul n20 m20
    omega
  have RB : Hid (∀ U, Below V.heap.size V U → Calls Try.prog 18 #[.slice A na capa, .slice B nb capb] U (BothPost U L)) := Lib.hid (fun U hU => by rw [hL]; exact rboth_any A B na nb capa capb a b U hal hbl n20 m20 (RA.out U hU).1 (RA.out U hU).2)
  have IT : Hid (Srt a → Srt b → ∀ U, Below V.heap.size V U → Calls Try.prog 19 #[.func (.func 11) #[] #[], .slice A na capa, .slice B nb capb] U (Seq2Back U L)) := Lib.hid (fun h1 h2 U hU => by rw [hL]; exact both_any A B na nb capa capb a b hal hbl n20 m20 (by omega) hmb hBn U (RA.out U hU).1 (RA.out U hU).2 h1 h2)
  have XV := Lib.hid xV
  have BV := Lib.hid bV
  have HN := Lib.hid hN
  have LTV := xV.lt
  clear hRA hRB hla hlb hca hcb hma hmb hBn hna hnb ha hb hal hbl hRa hRb bV xV hL hN
  subst hV
  refine (callsIn_wide (n := 4)).1 ?_
  refine callsIn_of_wp_marks Try.func4 rfl trivial ?_ rfl
  simp only [Try.ntmps4, List.size_toArray, List.length_cons, List.length_nil, Nat.reduceAdd, Nat.reduceSub, Array.replicate_succ, Array.replicate_zero, List.push_toArray, List.append_toArray, List.nil_append, List.cons_append]
  gi_wp2_with fail
  refine ⟨trivial, (callsIn_wide.2 FA.out).mono ?_⟩
  rintro e w1 ⟨rfl, rfl⟩
  gi_wp2_with fail
  refine ⟨trivial, (callsIn_wide.2 FB.out).mono ?_⟩
  rintro e w1 ⟨rfl, rfl⟩
  gi_wp2_with fail
  refine ⟨trivial, (callsIn_wide.2 SA.out).mono ?_⟩
  rintro e w2 ⟨b2, rfl, hs2, hb2⟩
  have HS2 := Lib.hid hs2
  have B2 := Lib.hid hb2
  clear hs2 hb2 SA FA FB
  cases b2 with
  | false =>
    have LV := Lib.hid (live_any w2)
    gi_wp2_with fail
    refine ⟨trivial, ?_⟩
    gi_wp2_with fail
    refine ⟨trivial, (callsIn_wide.2 LV.out).mono ?_⟩
    rintro e w9 ⟨rfl, hb9⟩
    have B9 := Lib.hid (bel_trans B2.out hb9)
    have X9 := boxed_later XV.out (bel_trans B2.out hb9)
    have c9 := X9.cell
    have f9 := X9.frozen
    clear hb9 LV
    gi_wp2
    exact ⟨.bool true, by simp [results, Try.results4, go_sem, c9], rfl, (bel_trans BV.out B9.out).setCell (Nat.le_refl _) _⟩
  | true =>
    gi_wp2_with fail
    refine ⟨trivial, (callsIn_wide.2 (SB.out _ B2.out)).mono ?_⟩
    rintro e w3 ⟨b3, rfl, hs3, hb3⟩
    have HS3 := Lib.hid hs3
    have B3 := Lib.hid (bel_trans B2.out hb3)
    clear hs3 hb3
    cases b3 with
    | false =>
      have LV := Lib.hid (live_any w3)
      gi_wp2_with fail
      refine ⟨trivial, (callsIn_wide.2 LV.out).mono ?_⟩
      rintro e w9 ⟨rfl, hb9⟩
      have B9 := Lib.hid (bel_trans B3.out hb9)
      have X9 := boxed_later XV.out (bel_trans B3.out hb9)
      have c9 := X9.cell
      have f9 := X9.frozen
      clear hb9 LV
      gi_wp2
      exact ⟨.bool true, by simp [results, Try.results4, go_sem, c9], rfl, (bel_trans BV.out B9.out).setCell (Nat.le_refl _) _⟩
    | true =>
      gi_wp2_with fail
      refine ⟨trivial, (callsIn_wide.2 (RB.out _ B3.out)).mono ?_⟩
      rintro e w4 ⟨g4, c4, rfl, hr4, hb4⟩
      rw [HN.out]
      have B4 := Lib.hid (bel_trans B3.out hb4)
      have R4 := Lib.hid hr4
      clear hb4 hr4
      have hW5 : Below w4.heap.size w4 (w4.alloc (.cells #[.slice (some ⟨g4, 0, none⟩) N c4] 40)) := bel_alloc (Below.refl _ _) _
      have B5 := Lib.hid (bel_trans B4.out hW5)
      have X5 := Lib.hid (Boxed.new w4 40 (.slice (some ⟨g4, 0, none⟩) N c4))
      have R5 := Lib.hid (Rd.later R4.out hW5)
      clear hW5
      have ITC := Lib.hid (IT.out (HS2.out.1 trivial) (HS3.out.1 trivial) _ B5.out)
      gi_wp2_with fail
      refine ⟨trivial, (callsIn_wide.2 ITC.out).mono ?_⟩
      rintro e w6 ⟨lb6, rfl, hb6, hs6⟩
      have B6 := Lib.hid (bel_trans B5.out hb6)
      have X6 := Lib.hid (boxed_later X5.out hb6)
      have R6 := Lib.hid (Rd.later R5.out hb6)
      have S6 := Lib.hid hs6
      have hnil := run_isnil2 (.func 38) #[] lb6
      clear hb6 hs6
      gi_wp2
      have hw7 : Below w6.heap.size w6 (w6.alloc (.cells #[.int .i64 0] 3)) := bel_alloc (Below.refl _ _) _
      have hN7 := Boxed.new w6 3 (.int .i64 0)
      have hs7 : (w6.alloc (.cells #[.int .i64 0] 3)).heap.size = w6.heap.size + 1 := by simp
      have X7 := Lib.hid (boxed_later X6.out hw7)
      have XR7 := Lib.hid (boxed_later XV.out (bel_trans B6.out hw7))
      have R7 := Lib.hid (Rd.later R6.out hw7)
      have B7 := Lib.hid (bel_trans B6.out hw7)
      have HW7 := Lib.hid hw7
      have lt4 : w4.heap.size < w6.heap.size := X6.out.lt
      have ltR : W.heap.size < w6.heap.size := (boxed_later XV.out B6.out).lt
      clear hw7 hnil
      generalize w6.alloc (.cells #[.int .i64 0] 3) = w7 at *
      refine range_F (w0 := w6) (gf := 38) (lb := lb6) (encs := enc2) (xs := L) rfl (enters_of Try.func38 (by kernel_rfl) rfl) S6.out HW7.out (fun _ => rfl) (BoI w6.heap.size) (fun _ _ _ _ => False) (boI_loc _ _) (fun c k D W W' h _ => h)
        (fun g => g = w6.heap.size) (fun g hg => ?_) ⟨rfl, hN7⟩
        (fun p U => { tmps := #[.slice A na capa, .slice B nb capb, undef, undef, .pointer (some ⟨W.heap.size, 0, none⟩), .pointer (some ⟨w4.heap.size, 0, none⟩), .func (.func 38) #[] lb6, .pointer (some ⟨w6.heap.size, 0, none⟩), .pointer (some ⟨U.heap.size, 0, none⟩), .pointer (some ⟨U.heap.size + 1, 0, none⟩), .slice A lena capa,
          .slice A na capa, .slice B lenb capb, .slice B nb capb, .slice A na capa, .bool true, .bool false, .bool false, .slice B nb capb, .bool true, .bool false,
          .bool false, undef, .slice A na capa, .slice B nb capb, .slice (some ⟨g4, 0, none⟩) N c4, .slice A na capa, .slice B nb capb, .func (.func 38) #[] lb6, .func (.func 38) #[] lb6, .bool false, .func (.func 38) #[] lb6, .agg #[.int .i64 p.1.1, .int .i64 p.1.2], .agg #[.int .i64 p.2.1, .int .i64 p.2.2], undef, undef, undef, undef, undef, undef, undef, undef, undef, undef, undef, undef, undef, undef, undef, undef, undef, undef, undef, undef, undef, undef, undef, undef, undef, undef, undef, undef, undef, undef, undef], defers := [] }) (fun p U => (U.alloc (kv p.1)).alloc (kv p.2)) (fun p U => bel_alloc (bel_alloc (Below.refl _ _) _) _) ?assign ?body ?done ?stop
      · exact ⟨by omega, by omega⟩
      case assign =>
        intro m l x U K hK
        gi_wp2
        exact hK
      case body =>
        rintro m l k p D U V o hx hl hlU rfl hinD hlD hgr hch ⟨rfl, hbn⟩
        obtain ⟨⟨x0, x1⟩, ⟨y0, y1⟩⟩ := p
        obtain ⟨Z, hZ⟩ : ∃ Z, Z = ((U.alloc (kv (x0, x1))).alloc (kv (y0, y1))).putObj l o := ⟨_, rfl⟩
        have hbx : Z.heap[U.heap.size]? = some (.cells #[.int .i64 x0, .int .i64 x1] 29 (0, 0)) := by rw [hZ]; exact (World.putObj_heap_other (by omega)).trans (((bel_alloc (Below.refl _ _) (kv (y0, y1)) : Below (U.alloc (kv (x0, x1))).heap.size (U.alloc (kv (x0, x1))) _).block U.heap.size (by simp)).trans (World.alloc_heap_new U _))
        have hby : Z.heap[U.heap.size + 1]? = some (.cells #[.int .i64 y0, .int .i64 y1] 29 (0, 0)) := by rw [hZ]; exact (World.putObj_heap_other (by omega)).trans (by simpa only [World.size_alloc] using World.alloc_heap_new (U.alloc (kv (x0, x1))) (kv (y0, y1)))
        have hch' := hch
        rw [← hZ] at hch' hbn
        have cx0 := cell_at hbx 0
        have cx1 := cell_at hbx 1
        have cy0 := cell_at hby 0
        have cy1 := cell_at hby 1
        have cn := hbn.cell
        have fn := hbn.frozen
        have cw := (boxed_chg X7.out hch' (by omega)).cell
        have hlen : k < N := by have := (List.getElem?_eq_some_iff.1 hx).1; have := HN.out; omega
        obtain ⟨p0, p1, p2, p3⟩ := clp_get hx
        have gw : ∀ j u, (clp L)[j]? = some u → Z.cell? ⟨g4, j, none⟩ = some u := fun j u hj => by
          obtain ⟨b9, o9, e9, hl9, hc9⟩ := Rd.get R7.out hj
          cases e9
          rw [Nat.zero_add] at hc9
          have hne : g4 ≠ w6.heap.size := fun e => by
            obtain ⟨b8, o8, e8, hl8, hc8⟩ := Rd.get R6.out hj
            cases e8; omega
          exact (World.cell?_of_block (hch'.block g4 hl9 hne)).trans hc9
        have k0 := gw _ _ p0
        have k1 := gw _ _ p1
        have k2 := gw _ _ p2
        have k3 := gw _ _ p3
        simp only at k0 k1 k2 k3 cx0 cx1 cy0 cy1
        have kk : (k : Int) < (N : Int) := by omega
        have kk0 : (0 : Int) ≤ (k : Int) := by omega
        have kk9 : (k : Int) ≤ 400 := by omega
        have kn : ¬ N ≤ k := by omega
        have HBN := Lib.hid hbn
        clear hx hbx hby hch hch' hbn p0 p1 p2 p3 gw hinD hlD hgr
        change (Code.block 1 _).wpIn _ _ _ _ _ (((U.alloc (kv (x0, x1))).alloc (kv (y0, y1))).putObj l o)
        rw [← hZ]
        clear hZ
        gi_wp2_with fail
        refine region_quiet_rd rfl (by kernel_rfl) (by kernel_rfl) (fun oo ho c => ?_) ?_
        · simp at ho; rcases ho with rfl | rfl | rfl | rfl | rfl | rfl | rfl | rfl | rfl | rfl | rfl | rfl | rfl | rfl | rfl | rfl | rfl | rfl | rfl | rfl | rfl | rfl <;> simp
        repeat (gi_big_quiet_step (fail))
        refine wpQuietIn_nil ?_
        intro _ hw'
        obtain ⟨nq, hw''⟩ := hw'
        subst hw''
        gi_wp2
        have hbd := boxed_later HBN.out (bel_drewN (Below.refl _ _) nq : Below Z.heap.size Z (Z.drewN nq))
        exact ⟨_, Gr.refl _ _ _, (Chg.of_below (bel_drewN (Below.refl _ _) nq)).trans (Chg.set (D := fun g => g = w6.heap.size) (Z.drewN nq) _ rfl) (fun g h => .inl h), rfl, by simpa using hbd.set (.int .i64 ((k : Int) + 1))⟩
      case done =>
        rintro D E U hD hE hgr hch ⟨rfl, hbn⟩ hK
        have cn := hbn.cell
        have fn := hbn.frozen
        have xw := boxed_chg X7.out hch (by omega)
        have xr := boxed_chg XR7.out hch (by omega)
        have hb7U : Below w6.heap.size w6 U := HW7.out.trans (hch.below (fun g hg => by omega) (by omega))
        rw [HN.out] at cn hbn
        have LV := Lib.hid (live_any U)
        have HBN := Lib.hid hbn
        have HXW := Lib.hid xw
        have HXR := Lib.hid xr
        have HB7U := Lib.hid hb7U
        have HKD := Lib.hid hK
        have n400 : (N : Int) ≤ 400 := by omega
        clear cn fn xw xr hb7U hK hbn hgr hch
        gi_wp2_with fail
        refine ⟨trivial, (callsIn_wide.2 LV.out).mono ?_⟩
        rintro e w9 ⟨rfl, hb9⟩
        have cn := (boxed_later HBN.out hb9).cell
        have cw := (boxed_later HXW.out hb9).cell
        have xr := boxed_later HXR.out hb9
        have cr := xr.cell
        have fr := xr.frozen
        have hK9 : w9.heap[D]? = some (.deferred (some [])) := (hb9.block D (Array.getElem?_eq_some_iff.1 HKD.out).1).trans HKD.out
        have HXR9 := Lib.hid xr
        have HK9 := Lib.hid hK9
        have HB9 := Lib.hid (bel_trans BV.out (bel_trans (bel_trans B6.out HB7U.out) hb9))
        clear xr hK9 hb9 LV
        gi_wp2
        have hBR : W.heap.size ≠ D := by omega
        have hKs : (w9.setCell ⟨W.heap.size, 0, none⟩ (.bool true)).heap[D]? = some (.deferred (some [])) := (Below.heap_setCell _ _ _ _ (fun e => hBR e.symm)).trans HK9.out
        have bR2 := HXR9.out.set (.bool true)
        have cRf := (show Boxed ((w9.setCell ⟨W.heap.size, 0, none⟩ (.bool true)).putObj D (.deferred none)) W.heap.size 4 (.bool true) from (World.putObj_heap_other hBR).trans bR2).cell
        refine ⟨by simp, .inl ⟨_, _, rfl, run_takeDeferred hKs, .bool true, by simp [results, Try.results4, go_sem, cRf], rfl, ?_⟩⟩
        have hBs : Below W.heap.size W (w9.setCell ⟨W.heap.size, 0, none⟩ (.bool true)) := HB9.out.setCell (Nat.le_refl _) _
        exact (Chg.of_below (D := fun _ => False) hBs).trans (Chg.put (D := fun g => g = D) _ _ rfl) (fun g hg => .inr (by omega)) |>.below (fun g h => h.elim) (Nat.le_refl _)
      case stop =>
        rintro D c k E U hD hE hgr hch hk h
        exact h.elim
end Go.Proofs.Ytpijaphcknoobaa
