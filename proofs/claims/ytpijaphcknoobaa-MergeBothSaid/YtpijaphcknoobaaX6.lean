/- Take: a row's first things. -/
import Derived.Test.YtpijaphcknoobaaX5
namespace Go.Proofs.Ytpijaphcknoobaa
set_option linter.unusedSimpArgs false
open Go.RowKit Go.Shelf
set_option linter.unusedVariables false
attribute [local go_sem] Oper.semAt_some

abbrev yv (l : Nat) : Value := .func (.yield l) #[] #[]
/-- What lies between the tellings: the box of what is left, and that of what is told. -/
def TkJ (J : Nat → (Nat → Prop) → World → Prop) (nn : Int) (l yb lf k : Nat) (E : Nat → Prop) (V : World) : Prop :=
  ∃ D, E = (fun g => D g ∨ g = lf) ∧ J k D V ∧ ¬ D lf ∧ ¬ D yb ∧ Boxed V lf 3 (.int .i64 (nn - k)) ∧ Boxed V yb 51 (yv l) ∧ (k : Int) < nn
def TkX (J Jx : Nat → (Nat → Prop) → World → Prop) (nn : Int) (lf k : Nat) (E : Nat → Prop) (V : World) : Prop :=
  ∃ D, E = (fun g => D g ∨ g = lf) ∧ ¬ D lf ∧ ((Jx k D V ∧ (k : Int) ≤ nn) ∨ (J k D V ∧ (k : Int) = nn))
theorem or_loc {D : Nat → Prop} {B B' lf : Nat} (hB : B ≤ B') {W W' : World} (hc : Chg (fun g => ¬ (D g ∨ g = lf) ∧ B' ≤ g) W W') : Chg (fun g => ¬ D g ∧ B ≤ g) W W' := hc.more (fun g hg => .inl ⟨fun h => hg.1 (.inl h), by omega⟩)
theorem tkJ_loc {J : Nat → (Nat → Prop) → World → Prop} {B B' : Nat} (hJ : LocB B J) (hB : B ≤ B') {nn : Int} {l yb lf : Nat} (hy : yb < B') : LocB B' (TkJ J nn l yb lf) := by
  rintro k E V V' ⟨D, rfl, h1, h2, h3, h4, h5, h6⟩ hc
  exact ⟨D, rfl, hJ _ _ _ _ h1 (or_loc hB hc), h2, h3, boxed_chg h4 hc (fun h => h.1 (.inr rfl)), boxed_chg h5 hc (fun h => by omega), h6⟩
theorem tkX_loc {J Jx : Nat → (Nat → Prop) → World → Prop} {B B' : Nat} (hJ : LocB B J) (hJx : LocB B Jx) (hB : B ≤ B') {nn : Int} {lf : Nat} : LocB B' (TkX J Jx nn lf) := by
  rintro k E V V' ⟨D, rfl, h2, h⟩ hc
  exact ⟨D, rfl, h2, h.elim (fun h => .inl ⟨hJx _ _ _ _ h.1 (or_loc hB hc), h.2⟩) (fun h => .inr ⟨hJ _ _ _ _ h.1 (or_loc hB hc), h.2⟩)⟩
theorem tell_gr {D D2 : Nat → Prop} {V U W3 W4 : World} {lf : Nat} (hb : V.heap.size ≤ U.heap.size) (hg : Gr D D2 U W3) (hs : W3.heap.size ≤ W4.heap.size) : Gr (fun g => D g ∨ g = lf) (fun g => D2 g ∨ g = lf) V W4 := by
  rintro g (x | x)
  · rcases hg g x with y | y
    · exact .inl (.inl y)
    · exact .inr ⟨by omega, by omega⟩
  · exact .inl (.inr x)
set_option maxRecDepth 100000 in
set_option maxHeartbeats 4000000 in
theorem take2_any {xs : List TT} {nn : Int} (hn9 : xs.length ≤ 100000) {J Jx : Nat → (Nat → Prop) → World → Prop} {B l yb lf : Nat} (hJ : LocB B J) (hlf : B ≤ lf)
    (hY : ∀ m k x D W, (xs.take nn.toNat)[k]? = some x → J k D W → In D W → YieldAt Fence.wide m Try.prog l (enc x) W (TellPost J Jx k D W))
    (k : Nat) (x : TT) (E : Nat → Prop) (V : World) (hx : xs[k]? = some x) (hE : TkJ J nn l yb lf k E V) (hin : In E V) (hn : nn ≤ 9223372036854775807) :
    Calls Try.prog 40 (enc x ++ #[.pointer (some ⟨lf, 0, none⟩), .pointer (some ⟨yb, 0, none⟩)]) V (TellPost (TkJ J nn l yb lf) (TkX J Jx nn lf) k E V) := by
  obtain ⟨D, rfl, h1, h2, h3, h4, h5, h6⟩ := hE
  refine (callsIn_wide (n := 3)).1 ?_
  have hV : Below V.heap.size V (V.alloc (.cells #[.int .i64 x.1, .int .i64 x.2] 29)) := bel_alloc (Below.refl _ _) _
  have b4 := boxed_later h4 hV
  have b5 := boxed_later h5 hV
  have hz : (V.alloc (.cells #[.int .i64 x.1, .int .i64 x.2] 29)).heap.size = V.heap.size + 1 := by simp
  have hne : yb ≠ lf := by
    intro e; subst e
    have := h4.symm.trans h5
    simp at this
  have U4 := Lib.hid ((h4.set (.int .i64 (nn - k - 1))).alloc (.cells #[.int .i64 x.1, .int .i64 x.2] 29))
  have U5 := Lib.hid ((h5.other hne (.int .i64 (nn - k - 1))).alloc (.cells #[.int .i64 x.1, .int .i64 x.2] 29))
  have c4 := b4.cell
  have f4 := b4.frozen
  have c5 := h5.cell
  have hly : yb < V.heap.size := h5.lt
  have hlt : lf < V.heap.size := h4.lt
  have hj : J k D ((V.setCell ⟨lf, 0, none⟩ (.int .i64 (nn - k - 1))).alloc (.cells #[.int .i64 x.1, .int .i64 x.2] 29)) := hJ.bel (hJ.set h1 h2 hlf _) (bel_alloc (Below.refl _ _) _)
  have hsU : ((V.setCell ⟨lf, 0, none⟩ (.int .i64 (nn - k - 1))).alloc (.cells #[.int .i64 x.1, .int .i64 x.2] 29)).heap.size = V.heap.size + 1 := by simp [World.setCell]
  have hxt : (xs.take nn.toNat)[k]? = some x := by rw [List.getElem?_take_of_lt (by omega)]; exact hx
  obtain ⟨fn, tmps, assign, body, hy, hRd⟩ := hY 2 k x D _ hxt hj (fun g hg => by have := hin g (.inl hg); omega)
  have HRD := Lib.hid hRd
  have HU : Hid (Chg (fun g => D g ∨ g = lf) V ((V.setCell ⟨lf, 0, none⟩ (.int .i64 (nn - k - 1))).alloc (.cells #[.int .i64 x.1, .int .i64 x.2] 29))) := Lib.hid ((Chg.set (D := fun g => D g ∨ g = lf) V _ (.inr rfl)).trans (Chg.of_below (D := fun _ => False) (bel_alloc (Below.refl _ _) _)) (fun g hg => hg.elim))
  have HSU := Lib.hid hsU
  simp only [enc] at hy
  have q1 : 0 ≤ nn - (k : Int) - 1 := by omega
  have q2 : nn - (k : Int) - 1 ≤ 9223372036854775807 := by omega
  clear hY hRd hx hxt hj hsU h4 h5 b4 b5 hV h1 hz
  refine callsIn_of_wp Try.func40 rfl trivial ?_ rfl
  simp only [Try.ntmps40, List.size_toArray, List.length_cons, List.length_nil, Nat.reduceAdd, Nat.reduceSub, Array.replicate_succ, Array.replicate_zero, List.push_toArray, List.append_toArray, List.nil_append, List.cons_append]
  gi_wp2
  refine HRD.out.mono ?_
  rintro e W3 ⟨D2, hg2, hc2, (⟨rfl, hj⟩ | ⟨rfl, hj⟩)⟩
  · have b4 := boxed_chg U4.out hc2 h2
    have b5 := boxed_chg U5.out hc2 h3
    have c4 := b4.cell
    have n2 : ¬ D2 lf := gr_not hg2 h2 (by rw [HSU.out]; omega)
    have n3 : ¬ D2 yb := gr_not hg2 h3 (by have := U5.out.lt; exact this)
    have HG := Lib.hid (tell_gr (lf := lf) (V := V) (by rw [HSU.out]; omega) hg2 (Nat.le_refl _))
    have HC := Lib.hid (HU.out.trans hc2 (fun g hg => .inl (.inl hg)))
    have HJ := Lib.hid hj
    have B4 := Lib.hid b4
    have B5 := Lib.hid b5
    clear hg2 hc2 hj b4 b5
    have ek : nn - ((k + 1 : Nat) : Int) = nn - k - 1 := by omega
    by_cases hl : nn - (k : Int) - 1 > 0
    · have q5 : (0 : Int) < nn - k - 1 := by omega
      have q6 : (1 : Int) < nn - k := by omega
      gi_wp2
      refine bodyPost_ret (v := .bool true) (by simp [results, Try.results40, go_sem, q6]) rfl ⟨_, HG.out, HC.out, .inl ⟨rfl, D2, rfl, HJ.out, n2, n3, by rw [ek]; exact B4.out, B5.out, by omega⟩⟩
    · have q5 : ¬ (0 : Int) < nn - k - 1 := by omega
      have q6 : nn - k ≤ (1 : Int) := by omega
      gi_wp2
      refine bodyPost_ret (v := .bool false) (by simp [results, Try.results40, go_sem, q6]) rfl ⟨_, HG.out, HC.out, .inr ⟨rfl, D2, rfl, n2, .inr ⟨HJ.out, by omega⟩⟩⟩
  · have n2 : ¬ D2 lf := gr_not hg2 h2 (by rw [HSU.out]; omega)
    have HG := Lib.hid (tell_gr (lf := lf) (V := V) (by rw [HSU.out]; omega) hg2 (Nat.le_refl _))
    have HC := Lib.hid (HU.out.trans hc2 (fun g hg => .inl (.inl hg)))
    have HJ := Lib.hid hj
    clear hg2 hc2 hj
    gi_wp2
    refine bodyPost_ret (v := .bool false) (by simp [results, Try.results40, go_sem]) rfl ⟨_, HG.out, HC.out, .inr ⟨rfl, D2, rfl, n2, .inl ⟨HJ.out, by omega⟩⟩⟩
set_option maxRecDepth 100000 in
set_option maxHeartbeats 4000000 in
theorem take_seq (bn bs : Nat) (nn : Int) (hnn : nn ≤ 9223372036854775807) {g : FuncId} (eg : ∀ args w, (callFunc g args).run Try.prog w = .ok (.enter g args) w) {lb : Array Value} {xs : List TT} (hn : xs.length ≤ 100000) {w0 : World} (hs : SeqF Try.prog g lb enc xs w0)
    (hbn : Boxed w0 bn 3 (.int .i64 nn)) (hbs : Boxed w0 bs 31 (.func (.func g) #[] lb)) : SeqF Try.prog 39 #[.pointer (some ⟨bn, 0, none⟩), .pointer (some ⟨bs, 0, none⟩)] enc (xs.take nn.toNat) w0 := by
  intro l J Jx W D hb hD hin hJ hJx hY h0
  refine (callsIn_wide (n := 3)).1 ?_
  have c1 := (boxed_later hbn hb).cell
  have c2 := (boxed_later hbs hb).cell
  have l1 := (boxed_later hbn hb).lt
  have l2 := (boxed_later hbs hb).lt
  by_cases h1 : nn < 1
  · have hJ0 := Lib.hid (hJ.bel h0 (bel_alloc (Below.refl W.heap.size W) (.cells #[yv l] 51)))
    have e0 : (xs.take nn.toNat).length = 0 := by simp; omega
    have E0 := Lib.hid e0
    have HB : Hid (Below W.heap.size W (W.alloc (.cells #[yv l] 51))) := Lib.hid (bel_alloc (Below.refl _ _) _)
    clear hY h0 hs hbn hbs e0
    refine callsIn_of_wp Try.func39 rfl trivial ?_ rfl
    simp only [Try.ntmps39, List.size_toArray, List.length_cons, List.length_nil, Nat.reduceAdd, Nat.reduceSub, Array.replicate_succ, Array.replicate_zero, List.push_toArray, List.append_toArray, List.nil_append, List.cons_append]
    gi_wp2
    refine bodyPost_ret (results_none rfl _ _ _) rfl ?_
    exact ⟨⟨_, rfl⟩, D, Gr.refl _ _ _, Chg.of_below HB.out, .inl (by rw [E0.out]; exact hJ0.out)⟩
  · obtain ⟨V, hVe⟩ : ∃ V, V = (W.alloc (.cells #[yv l] 51)).alloc (.cells #[.int .i64 nn] 3) := ⟨_, rfl⟩
    have hV : Below W.heap.size W V := by rw [hVe]; exact bel_alloc (bel_alloc (Below.refl _ _) _) _
    have sV : V.heap.size = W.heap.size + 2 := by rw [hVe]; simp
    have bY : Boxed V W.heap.size 51 (yv l) := by rw [hVe]; exact (Boxed.new W 51 _).alloc _
    have bF : Boxed V (W.heap.size + 1) 3 (.int .i64 nn) := by rw [hVe]; simpa only [World.size_alloc] using Boxed.new (W.alloc (.cells #[yv l] 51)) 3 (.int .i64 nn)
    have hinV : In (fun g => D g ∨ g = W.heap.size + 1) V := fun g hg => by
      rcases hg with hg | hg
      · have := hin g hg; omega
      · omega
    have EA := Lib.hid (callsIn_wide.1 (each_in (h := 40) (cap := #[.pointer (some ⟨W.heap.size + 1, 0, none⟩), .pointer (some ⟨W.heap.size, 0, none⟩)]) (enters_of Try.func40 (by kernel_rfl) rfl) eg hs (w := V) (hb.trans (hV.mono hb.size))
      (J := TkJ J nn l W.heap.size (W.heap.size + 1)) (Jx := TkX J Jx nn (W.heap.size + 1)) (tkJ_loc hJ hV.size (by omega)) (tkX_loc hJ hJx hV.size) (D := fun g => D g ∨ g = W.heap.size + 1) (fun g hg => by
        rcases hg with hg | hg
        · exact hD g hg
        · have := hb.size; omega) hinV
      (fun k x E U hx hE hi => take2_any hn hJ (by omega) hY k x E U hx hE hi hnn)
      ⟨D, rfl, hJ.bel h0 hV, fun h => by have := hin _ h; omega, fun h => by have := hin _ h; omega, by simpa using bF, bY, by omega⟩))
    have EB : Hid (Calls Try.prog 31 #[.func (.func g) #[] lb, .func (.func 40) #[] #[.pointer (some ⟨W.heap.size + 1, 0, none⟩), .pointer (some ⟨W.heap.size, 0, none⟩)]] V fun e W2 => (∃ v, e = .returned v) ∧ SeqPost (xs.take nn.toNat).length J Jx D W W2) := Lib.hid (EA.out.mono (fun e W2 h => by
      obtain ⟨E, hg, hc, h⟩ := h
      have hC : Chg D W W2 := (Chg.of_below hV).trans hc (fun g hg => hg.elim .inl (fun e => .inr (by omega)))
      rcases h with ⟨rfl, D', rfl, h1, h2, h3, h4, h5, h6⟩ | ⟨rfl, k, hk, D', rfl, h2, h⟩
      · exact ⟨⟨_, rfl⟩, D', each_gr hV hg hin (Nat.le_refl _) h2, hC, .inl (by rw [List.length_take, Nat.min_eq_right (by omega)]; exact h1)⟩
      · rcases h with ⟨h, hkn⟩ | ⟨h, hkn⟩
        · exact ⟨⟨_, rfl⟩, D', each_gr hV hg hin (Nat.le_refl _) h2, hC, .inr ⟨k, by rw [List.length_take]; omega, h⟩⟩
        · exact ⟨⟨_, rfl⟩, D', each_gr hV hg hin (Nat.le_refl _) h2, hC, .inl (by rw [List.length_take, show min nn.toNat xs.length = k by omega]; exact h)⟩))
    clear EA hY h0 hs hbn hbs hinV bY bF sV hV
    have cV : ∀ a, V.cell? a = ((W.alloc (.cells #[yv l] 51)).alloc (.cells #[.int .i64 nn] 3)).cell? a := fun a => by rw [hVe]
    refine callsIn_of_wp Try.func39 rfl trivial ?_ rfl
    simp only [Try.ntmps39, List.size_toArray, List.length_cons, List.length_nil, Nat.reduceAdd, Nat.reduceSub, Array.replicate_succ, Array.replicate_zero, List.push_toArray, List.append_toArray, List.nil_append, List.cons_append]
    subst hVe
    gi_wp2_with fail
    refine ⟨trivial, (callsIn_wide.2 EB.out).mono ?_⟩
    rintro e W2 ⟨⟨v, rfl⟩, hS⟩
    have HS := Lib.hid hS
    clear hS
    gi_wp2
    go_end0
    exact ⟨⟨_, rfl⟩, HS.out⟩
end Go.Proofs.Ytpijaphcknoobaa
