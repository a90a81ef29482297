/- Skip: a row without its first things. -/
import Derived.Test.YtpijaphcknoobaaX6
namespace Go.Proofs.Ytpijaphcknoobaa
set_option linter.unusedSimpArgs false
open Go.RowKit Go.Shelf
set_option linter.unusedVariables false
attribute [local go_sem] Oper.semAt_some

/-- What lies between the tellings. -/
def SkJ (J : Nat → (Nat → Prop) → World → Prop) (nn : Int) (l yb lf k : Nat) (E : Nat → Prop) (V : World) : Prop :=
  ∃ D, E = (fun g => D g ∨ g = lf) ∧ J (k - nn.toNat) D V ∧ ¬ D lf ∧ ¬ D yb ∧ Boxed V lf 3 (.int .i64 (nn - (min k nn.toNat : Nat))) ∧ Boxed V yb 51 (yv l)
def SkX (Jx : Nat → (Nat → Prop) → World → Prop) (nn : Int) (lf k : Nat) (E : Nat → Prop) (V : World) : Prop :=
  ∃ D, E = (fun g => D g ∨ g = lf) ∧ ¬ D lf ∧ Jx (k - nn.toNat) D V
theorem skJ_loc {J : Nat → (Nat → Prop) → World → Prop} {B B' : Nat} (hJ : LocB B J) (hB : B ≤ B') {nn : Int} {l yb lf : Nat} (hy : yb < B') : LocB B' (SkJ J nn l yb lf) := by
  rintro k E V V' ⟨D, rfl, h1, h2, h3, h4, h5⟩ hc
  exact ⟨D, rfl, hJ _ _ _ _ h1 (or_loc hB hc), h2, h3, boxed_chg h4 hc (fun h => h.1 (.inr rfl)), boxed_chg h5 hc (fun h => by omega)⟩
theorem skX_loc {Jx : Nat → (Nat → Prop) → World → Prop} {B B' : Nat} (hJx : LocB B Jx) (hB : B ≤ B') {nn : Int} {lf : Nat} : LocB B' (SkX Jx nn lf) := by
  rintro k E V V' ⟨D, rfl, h2, h⟩ hc
  exact ⟨D, rfl, h2, hJx _ _ _ _ h (or_loc hB hc)⟩
set_option maxRecDepth 100000 in
set_option maxHeartbeats 4000000 in
theorem skip2_any {xs : List TT} {nn : Int} (hn9 : xs.length ≤ 100000) {J Jx : Nat → (Nat → Prop) → World → Prop} {B l yb lf : Nat} (hJ : LocB B J) (hlf : B ≤ lf)
    (hY : ∀ m k x D W, (xs.drop nn.toNat)[k]? = some x → J k D W → In D W → YieldAt Fence.wide m Try.prog l (enc x) W (TellPost J Jx k D W))
    (k : Nat) (x : TT) (E : Nat → Prop) (V : World) (hx : xs[k]? = some x) (hE : SkJ J nn l yb lf k E V) (hin : In E V) (hn : nn ≤ 9223372036854775807) (hn0 : -9223372036854775808 ≤ nn) :
    Calls Try.prog 43 (enc x ++ #[.pointer (some ⟨lf, 0, none⟩), .pointer (some ⟨yb, 0, none⟩)]) V (TellPost (SkJ J nn l yb lf) (SkX Jx nn lf) k E V) := by
  obtain ⟨D, rfl, h1, h2, h3, h4, h5⟩ := hE
  refine (callsIn_wide (n := 3)).1 ?_
  have hlt : lf < V.heap.size := h4.lt
  have hly : yb < V.heap.size := h5.lt
  have c4 := h4.cell
  have f4 := h4.frozen
  have c5 := h5.cell
  have hne : yb ≠ lf := by
    intro e; subst e
    have := h4.symm.trans h5
    simp at this
  by_cases hk : k < nn.toNat
  · have em : nn - ((min k nn.toNat : Nat) : Int) = nn - k := by omega
    rw [em] at c4 h4
    have ek : nn - (((min (k + 1) nn.toNat : Nat)) : Int) = nn - k - 1 := by omega
    have q0 : (0 : Int) < nn - k := by omega
    have q1 : 0 ≤ nn - (k : Int) - 1 := by omega
    have q2 : nn - (k : Int) - 1 ≤ 9223372036854775807 := by omega
    have hj : J (k + 1 - nn.toNat) D ((V.setCell ⟨lf, 0, none⟩ (.int .i64 (nn - k - 1))).alloc (.cells #[.int .i64 x.1, .int .i64 x.2] 29)) := by
      rw [show k + 1 - nn.toNat = k - nn.toNat by omega]
      exact hJ.bel (hJ.set h1 h2 hlf _) (bel_alloc (Below.refl _ _) _)
    have HJ := Lib.hid hj
    have U4 := Lib.hid ((h4.set (.int .i64 (nn - k - 1))).alloc (.cells #[.int .i64 x.1, .int .i64 x.2] 29))
    have U5 := Lib.hid ((h5.other hne (.int .i64 (nn - k - 1))).alloc (.cells #[.int .i64 x.1, .int .i64 x.2] 29))
    have HU : Hid (Chg (fun g => D g ∨ g = lf) V ((V.setCell ⟨lf, 0, none⟩ (.int .i64 (nn - k - 1))).alloc (.cells #[.int .i64 x.1, .int .i64 x.2] 29))) := Lib.hid ((Chg.set (D := fun g => D g ∨ g = lf) V _ (.inr rfl)).trans (Chg.of_below (D := fun _ => False) (bel_alloc (Below.refl _ _) _)) (fun g hg => hg.elim))
    clear hY hx hj h1 h4 h5 em
    refine callsIn_of_wp Try.func43 rfl trivial ?_ rfl
    simp only [Try.ntmps43, List.size_toArray, List.length_cons, List.length_nil, Nat.reduceAdd, Nat.reduceSub, Array.replicate_succ, Array.replicate_zero, List.push_toArray, List.append_toArray, List.nil_append, List.cons_append]
    gi_wp2
    refine bodyPost_ret (v := .bool true) (by simp [results, Try.results43, go_sem]) rfl ⟨_, Gr.refl _ _ _, HU.out, .inl ⟨rfl, D, rfl, HJ.out, h2, h3, by rw [ek]; exact U4.out, U5.out⟩⟩
  · have em : nn - ((min k nn.toNat : Nat) : Int) = nn - (nn.toNat : Int) := by omega
    have em2 : nn - ((min (k + 1) nn.toNat : Nat) : Int) = nn - (nn.toNat : Int) := by omega
    rw [em] at c4 h4
    have q0 : ¬ (0 : Int) < nn - (nn.toNat : Int) := by omega
    have hj : J (k - nn.toNat) D (V.alloc (.cells #[.int .i64 x.1, .int .i64 x.2] 29)) := hJ.bel h1 (bel_alloc (Below.refl _ _) _)
    have hxt : (xs.drop nn.toNat)[k - nn.toNat]? = some x := by rw [List.getElem?_drop, show nn.toNat + (k - nn.toNat) = k by omega]; exact hx
    obtain ⟨fn, tmps, assign, body, hy, hRd⟩ := hY 2 (k - nn.toNat) x D _ hxt hj (fun g hg => by have := hin g (.inl hg); simp; omega)
    have HRD := Lib.hid hRd
    have U4 := Lib.hid (h4.alloc (.cells #[.int .i64 x.1, .int .i64 x.2] 29))
    have U5 := Lib.hid (h5.alloc (.cells #[.int .i64 x.1, .int .i64 x.2] 29))
    have HU : Hid (Chg (fun g => D g ∨ g = lf) V (V.alloc (.cells #[.int .i64 x.1, .int .i64 x.2] 29))) := Lib.hid (Chg.of_below (bel_alloc (Below.refl _ _) _))
    have HSU : Hid ((V.alloc (.cells #[.int .i64 x.1, .int .i64 x.2] 29)).heap.size = V.heap.size + 1) := Lib.hid (by simp)
    have ek : k - nn.toNat + 1 = k + 1 - nn.toNat := by omega
    simp only [enc] at hy
    clear hY hRd hx hxt hj h1 h4 h5 em
    refine callsIn_of_wp Try.func43 rfl trivial ?_ rfl
    simp only [Try.ntmps43, List.size_toArray, List.length_cons, List.length_nil, Nat.reduceAdd, Nat.reduceSub, Array.replicate_succ, Array.replicate_zero, List.push_toArray, List.append_toArray, List.nil_append, List.cons_append]
    gi_wp2
    refine HRD.out.mono ?_
    rintro e W3 ⟨D2, hg2, hc2, (⟨rfl, hj⟩ | ⟨rfl, hj⟩)⟩
    · have B4 := Lib.hid (boxed_chg U4.out hc2 h2)
      have B5 := Lib.hid (boxed_chg U5.out hc2 h3)
      have n2 : ¬ D2 lf := gr_not hg2 h2 (by rw [HSU.out]; omega)
      have n3 : ¬ D2 yb := gr_not hg2 h3 (by rw [HSU.out]; omega)
      have HG := Lib.hid (tell_gr (lf := lf) (V := V) (by rw [HSU.out]; omega) hg2 (Nat.le_refl _))
      have HC := Lib.hid (HU.out.trans hc2 (fun g hg => .inl (.inl hg)))
      rw [ek] at hj
      have HJ := Lib.hid hj
      clear hg2 hc2 hj
      gi_wp2
      refine bodyPost_ret (v := .bool true) (by simp [results, Try.results43, go_sem]) rfl ⟨_, HG.out, HC.out, .inl ⟨rfl, D2, rfl, HJ.out, n2, n3, by rw [em2]; exact B4.out, B5.out⟩⟩
    · have n2 : ¬ D2 lf := gr_not hg2 h2 (by rw [HSU.out]; omega)
      have HG := Lib.hid (tell_gr (lf := lf) (V := V) (by rw [HSU.out]; omega) hg2 (Nat.le_refl _))
      have HC := Lib.hid (HU.out.trans hc2 (fun g hg => .inl (.inl hg)))
      rw [ek] at hj
      have HJ := Lib.hid hj
      clear hg2 hc2 hj
      gi_wp2
      refine bodyPost_ret (v := .bool false) (by simp [results, Try.results43, go_sem]) rfl ⟨_, HG.out, HC.out, .inr ⟨rfl, D2, rfl, n2, HJ.out⟩⟩
set_option maxRecDepth 100000 in
set_option maxHeartbeats 4000000 in
theorem skip_seq (bn bs : Nat) (nn : Int) (hnn : nn ≤ 9223372036854775807) (hn0 : -9223372036854775808 ≤ nn) {g : FuncId} (eg : ∀ args w, (callFunc g args).run Try.prog w = .ok (.enter g args) w) {lb : Array Value} {xs : List TT} (hn : xs.length ≤ 100000) {w0 : World} (hs : SeqF Try.prog g lb enc xs w0)
    (hbn : Boxed w0 bn 3 (.int .i64 nn)) (hbs : Boxed w0 bs 31 (.func (.func g) #[] lb)) : SeqF Try.prog 42 #[.pointer (some ⟨bn, 0, none⟩), .pointer (some ⟨bs, 0, none⟩)] enc (xs.drop nn.toNat) w0 := by
  intro l J Jx W D hb hD hin hJ hJx hY h0
  refine (callsIn_wide (n := 3)).1 ?_
  have c1 := (boxed_later hbn hb).cell
  have c2 := (boxed_later hbs hb).cell
  have l1 := (boxed_later hbn hb).lt
  have l2 := (boxed_later hbs hb).lt
  obtain ⟨V, hVe⟩ : ∃ V, V = (W.alloc (.cells #[yv l] 51)).alloc (.cells #[.int .i64 nn] 3) := ⟨_, rfl⟩
  have hV : Below W.heap.size W V := by rw [hVe]; exact bel_alloc (bel_alloc (Below.refl _ _) _) _
  have sV : V.heap.size = W.heap.size + 2 := by rw [hVe]; simp
  have bY : Boxed V W.heap.size 51 (yv l) := by rw [hVe]; exact (Boxed.new W 51 _).alloc _
  have bF : Boxed V (W.heap.size + 1) 3 (.int .i64 nn) := by rw [hVe]; simpa only [World.size_alloc] using Boxed.new (W.alloc (.cells #[yv l] 51)) 3 (.int .i64 nn)
  have hinV : In (fun g => D g ∨ g = W.heap.size + 1) V := fun g hg => by
    rcases hg with hg | hg
    · have := hin g hg; omega
    · omega
  have EA := Lib.hid (callsIn_wide.1 (each_in (h := 43) (cap := #[.pointer (some ⟨W.heap.size + 1, 0, none⟩), .pointer (some ⟨W.heap.size, 0, none⟩)]) (enters_of Try.func43 (by kernel_rfl) rfl) eg hs (w := V) (hb.trans (hV.mono hb.size))
    (J := SkJ J nn l W.heap.size (W.heap.size + 1)) (Jx := SkX Jx nn (W.heap.size + 1)) (skJ_loc hJ hV.size (by omega)) (skX_loc hJx hV.size) (D := fun g => D g ∨ g = W.heap.size + 1) (fun g hg => by
      rcases hg with hg | hg
      · exact hD g hg
      · have := hb.size; omega) hinV
    (fun k x E U hx hE hi => skip2_any hn hJ (by omega) hY k x E U hx hE hi hnn hn0)
    ⟨D, rfl, by rw [Nat.zero_sub]; exact hJ.bel h0 hV, fun h => by have := hin _ h; omega, fun h => by have := hin _ h; omega, by simpa using bF, bY⟩))
  have EB : Hid (Calls Try.prog 31 #[.func (.func g) #[] lb, .func (.func 43) #[] #[.pointer (some ⟨W.heap.size + 1, 0, none⟩), .pointer (some ⟨W.heap.size, 0, none⟩)]] V fun e W2 => (∃ v, e = .returned v) ∧ SeqPost (xs.drop nn.toNat).length J Jx D W W2) := Lib.hid (EA.out.mono (fun e W2 h => by
    obtain ⟨E, hg, hc, h⟩ := h
    have hC : Chg D W W2 := (Chg.of_below hV).trans hc (fun g hg => hg.elim .inl (fun e => .inr (by omega)))
    rcases h with ⟨rfl, D', rfl, h1, h2, h3, h4, h5⟩ | ⟨rfl, k, hk, D', rfl, h2, h⟩
    · exact ⟨⟨_, rfl⟩, D', each_gr hV hg hin (Nat.le_refl _) h2, hC, .inl (by rw [List.length_drop]; exact h1)⟩
    · exact ⟨⟨_, rfl⟩, D', each_gr hV hg hin (Nat.le_refl _) h2, hC, .inr ⟨k - nn.toNat, by rw [List.length_drop]; omega, h⟩⟩))
  clear EA hY h0 hs hbn hbs hinV bY bF sV hV
  refine callsIn_of_wp Try.func42 rfl trivial ?_ rfl
  simp only [Try.ntmps42, List.size_toArray, List.length_cons, List.length_nil, Nat.reduceAdd, Nat.reduceSub, Array.replicate_succ, Array.replicate_zero, List.push_toArray, List.append_toArray, List.nil_append, List.cons_append]
  subst hVe
  gi_wp2_with fail
  refine ⟨trivial, (callsIn_wide.2 EB.out).mono ?_⟩
  rintro e W2 ⟨⟨v, rfl⟩, hS⟩
  have HS := Lib.hid hS
  clear hS
  gi_wp2
  go_end0
  exact ⟨⟨_, rfl⟩, HS.out⟩
/-- Take and Skip: what comes back. -/
theorem take_any {g : FuncId} (eg : ∀ args w, (callFunc g args).run Try.prog w = .ok (.enter g args) w) {lb : Array Value} {xs : List TT} (hn : xs.length ≤ 100000) {w0 w : World} (hs : SeqF Try.prog g lb enc xs w0) (hb : Below w0.heap.size w0 w) (nn : Int) (hnn : nn ≤ 9223372036854775807) :
    Calls Try.prog 20 #[.func (.func g) #[] lb, .int .i64 nn] w (SeqBack Try.prog 39 w (xs.take nn.toNat)) := by
  have hV : Below w.heap.size w ((w.alloc (.cells #[.func (.func g) #[] lb] 31)).alloc (.cells #[.int .i64 nn] 3)) := bel_alloc (bel_alloc (Below.refl _ _) _) _
  have S := Lib.hid (take_seq (w.heap.size + 1) w.heap.size nn hnn eg hn (hs.later (hb.trans (hV.mono hb.size))) (by simpa only [World.size_alloc] using Boxed.new (w.alloc (.cells #[.func (.func g) #[] lb] 31)) 3 (.int .i64 nn)) ((Boxed.new w 31 (.func (.func g) #[] lb)).alloc _))
  have HB := Lib.hid hV
  clear hV hb hs
  go_enter Try.func20, Try.ntmps20
  go_wp2
  exact bodyPost_ret (v := .func (.func 39) #[] #[.pointer (some ⟨w.heap.size + 1, 0, none⟩), .pointer (some ⟨w.heap.size, 0, none⟩)]) (by simp [results, Try.results20, go_sem]) rfl ⟨_, rfl, HB.out, S.out⟩
theorem skip_any {g : FuncId} (eg : ∀ args w, (callFunc g args).run Try.prog w = .ok (.enter g args) w) {lb : Array Value} {xs : List TT} (hn : xs.length ≤ 100000) {w0 w : World} (hs : SeqF Try.prog g lb enc xs w0) (hb : Below w0.heap.size w0 w) (nn : Int) (hnn : nn ≤ 9223372036854775807) (hn0 : -9223372036854775808 ≤ nn) :
    Calls Try.prog 22 #[.func (.func g) #[] lb, .int .i64 nn] w (SeqBack Try.prog 42 w (xs.drop nn.toNat)) := by
  have hV : Below w.heap.size w ((w.alloc (.cells #[.func (.func g) #[] lb] 31)).alloc (.cells #[.int .i64 nn] 3)) := bel_alloc (bel_alloc (Below.refl _ _) _) _
  have S := Lib.hid (skip_seq (w.heap.size + 1) w.heap.size nn hnn hn0 eg hn (hs.later (hb.trans (hV.mono hb.size))) (by simpa only [World.size_alloc] using Boxed.new (w.alloc (.cells #[.func (.func g) #[] lb] 31)) 3 (.int .i64 nn)) ((Boxed.new w 31 (.func (.func g) #[] lb)).alloc _))
  have HB := Lib.hid hV
  clear hV hb hs
  go_enter Try.func22, Try.ntmps22
  go_wp2
  exact bodyPost_ret (v := .func (.func 42) #[] #[.pointer (some ⟨w.heap.size + 1, 0, none⟩), .pointer (some ⟨w.heap.size, 0, none⟩)]) (by simp [results, Try.results22, go_sem]) rfl ⟨_, rfl, HB.out, S.out⟩
end Go.Proofs.Ytpijaphcknoobaa
