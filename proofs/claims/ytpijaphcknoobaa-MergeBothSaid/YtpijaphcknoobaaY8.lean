/- Where: those things of a row for which something is so. -/
import Derived.Test.YtpijaphcknoobaaY7
namespace Go.Proofs.Ytpijaphcknoobaa
set_option linter.unusedSimpArgs false
open Go.RowKit Go.Shelf
set_option linter.unusedVariables false
attribute [local go_sem] Oper.semAt_some

set_option maxHeartbeats 1000000 in
theorem each_nil2 (h : FuncId) (cap : Array Value) (w : World) : Calls Try.prog 31 #[.nilFunc, .func (.func h) #[] cap] w fun e W => e = .returned (.bool true) ∧ Below w.heap.size w W := by
  have hnil := run_nilnil
  have HB : Hid (Below w.heap.size w ((w.alloc (.cells #[.func (.func h) #[] cap] 51)).alloc (.cells #[.bool true] 4))) := Lib.hid (bel_alloc (bel_alloc (Below.refl _ _) _) _)
  go_enter Try.func31, Try.ntmps31
  go_wp2
  exact bodyPost_ret (v := .bool true) (by simp [results, Try.results31, go_sem]) rfl ⟨rfl, HB.out⟩
theorem each_rowf {w0 w : World} {r : Value × List TT} (hr : IsRow w0 r) (hb0 : Below w0.heap.size w0 w) {J Jx : Nat → (Nat → Prop) → World → Prop} (hJ : LocB w.heap.size J) (hJx : LocB w.heap.size Jx) {D : Nat → Prop} (hD : ∀ g, D g → w0.heap.size ≤ g) (hin : In D w) {h : FuncId} (eh : ∀ args w, (callFunc h args).run Try.prog w = .ok (.enter h args) w) {cap : Array Value}
    (hT : ∀ k x D W, r.2[k]? = some x → J k D W → In D W → Calls Try.prog h (enc x ++ cap) W (TellPost J Jx k D W)) (h0 : J 0 D w) :
    Calls Try.prog 31 #[r.1, .func (.func h) #[] cap] w (EachPost r.2.length J Jx D w) := by
  rcases hr with ⟨h1, h2⟩ | ⟨g, lb, h1, h2, h3⟩
  · rw [h1, h2]
    refine (each_nil2 h cap w).mono fun e W ⟨he, hb⟩ => ⟨D, Gr.refl _ _ _, Chg.of_below hb, .inl ⟨he, hJ.bel h0 hb⟩⟩
  · rw [h1]
    exact callsIn_wide.1 (each_in eh h2 h3 hb0 hJ hJx hD hin hT h0)
/-- What lies between the tellings. -/
structure WhJ (J : Nat → (Nat → Prop) → World → Prop) (xs : List TT) (p : TT → Bool) (w0 : World) (l yb k : Nat) (E : Nat → Prop) (V : World) : Prop where
  j : J ((xs.take k).filter p).length E V
  ny : ¬ E yb
  by_ : Boxed V yb 51 (yv l)
  b0 : Below w0.heap.size w0 V
  lo : ∀ g, E g → w0.heap.size ≤ g
def WhX (Jx : Nat → (Nat → Prop) → World → Prop) (xs : List TT) (p : TT → Bool) (k : Nat) (E : Nat → Prop) (V : World) : Prop := Jx ((xs.take k).filter p).length E V
theorem whJ_loc {J : Nat → (Nat → Prop) → World → Prop} {B B' : Nat} (hJ : LocB B J) (hB : B ≤ B') {xs : List TT} {p : TT → Bool} {w0 : World} {l yb : Nat} (hy : yb < B') (h0 : w0.heap.size ≤ B') : LocB B' (WhJ J xs p w0 l yb) := by
  rintro k E V V' ⟨h1, h2, h3, h4, h5⟩ hc
  exact ⟨hJ _ _ _ _ h1 (hc.more (fun g hg => .inl ⟨hg.1, by omega⟩)), h2, boxed_chg h3 hc (fun h => by omega), h4.trans (hc.below (fun g hg => Nat.le_trans h0 hg.2) h4.size), h5⟩
theorem whX_loc {Jx : Nat → (Nat → Prop) → World → Prop} {B B' : Nat} (hJx : LocB B Jx) (hB : B ≤ B') {xs : List TT} {p : TT → Bool} : LocB B' (WhX Jx xs p) := by
  rintro k E V V' h hc
  exact hJx _ _ _ _ h (hc.more (fun g hg => .inl ⟨hg.1, by omega⟩))
theorem filt_in {xs : List TT} {p : TT → Bool} {k : Nat} {x : TT} (h : xs[k]? = some x) (hp : p x = true) : (xs.take (k + 1)).filter p = (xs.take k).filter p ++ [x] ∧ (xs.filter p)[((xs.take k).filter p).length]? = some x := by
  refine ⟨by rw [take_more h, List.filter_append]; simp [List.filter_cons, hp], ?_⟩
  obtain ⟨e1, _⟩ := set_split h x
  conv => lhs; rw [e1]
  rw [List.filter_append, List.filter_cons, if_pos hp]
  have : (List.take k (List.take k xs ++ x :: List.drop (k + 1) xs)) = List.take k xs := by rw [← e1]
  rw [this, List.getElem?_append_right (Nat.le_refl _)]; simp
theorem filt_out {xs : List TT} {p : TT → Bool} {k : Nat} {x : TT} (h : xs[k]? = some x) (hp : p x = false) : (xs.take (k + 1)).filter p = (xs.take k).filter p := by
  rw [take_more h, List.filter_append]; simp [List.filter_cons, hp]
theorem filt_le (xs : List TT) (p : TT → Bool) (k : Nat) : ((xs.take k).filter p).length ≤ (xs.filter p).length := by
  conv => rhs; rw [← List.take_append_drop k xs]
  rw [List.filter_append, List.length_append]; omega
set_option maxRecDepth 100000 in
set_option maxHeartbeats 4000000 in
theorem where2_any {xs : List TT} {p : TT → Bool} {w0 : World} {ok : FuncId} (eok : ∀ args w, (callFunc ok args).run Try.prog w = .ok (.enter ok args) w) {cap : Array Value}
    (hok : ∀ (x : TT) (U : World), Below w0.heap.size w0 U → Calls Try.prog ok (enc x ++ cap) U fun e w' => e = .returned (.bool (p x)) ∧ Below U.heap.size U w') {bo : Nat} (hbo : Boxed w0 bo 51 (.func (.func ok) #[] cap))
    {J Jx : Nat → (Nat → Prop) → World → Prop} {B l yb : Nat} (hJ : LocB B J)
    (hY : ∀ m k x D W, (xs.filter p)[k]? = some x → J k D W → In D W → YieldAt Fence.wide m Try.prog l (enc x) W (TellPost J Jx k D W))
    (k : Nat) (x : TT) (E : Nat → Prop) (V : World) (hx : xs[k]? = some x) (hE : WhJ J xs p w0 l yb k E V) (hin : In E V) :
    Calls Try.prog 46 (enc x ++ #[.pointer (some ⟨bo, 0, none⟩), .pointer (some ⟨yb, 0, none⟩)]) V (TellPost (WhJ J xs p w0 l yb) (WhX Jx xs p) k E V) := by
  obtain ⟨h1, h2, h3, h4, h5⟩ := hE
  refine (callsIn_wide (n := 3)).1 ?_
  have hV : Below V.heap.size V (V.alloc (kv x)) := bel_alloc (Below.refl _ _) _
  have b4 := boxed_later (boxed_later hbo h4) hV
  have cb := (boxed_later hbo h4).cell
  have lb := (boxed_later hbo h4).lt
  have ly := h3.lt
  have OK := Lib.hid (hok x (V.alloc (kv x)) (h4.trans (hV.mono h4.size)))
  have H1 := Lib.hid h1
  have H3 := Lib.hid h3
  have HIN := Lib.hid hin
  have HV := Lib.hid hV
  have HX := Lib.hid hx
  have HY := Lib.hid hY
  have HJ := Lib.hid hJ
  have H4 := Lib.hid h4
  have H5 := Lib.hid h5
  simp only [enc] at OK
  clear hok hbo b4 h1 h3 h4 h5 hin hV hx hY hJ
  refine callsIn_of_wp Try.func46 rfl trivial ?_ rfl
  simp only [Try.ntmps46, List.size_toArray, List.length_cons, List.length_nil, Nat.reduceAdd, Nat.reduceSub, Array.replicate_succ, Array.replicate_zero, List.push_toArray, List.append_toArray, List.nil_append, List.cons_append]
  gi_wp2_with fail
  refine ⟨trivial, (callsIn_wide.2 OK.out).mono ?_⟩
  rintro e U ⟨rfl, hb⟩
  have hVU : Below V.heap.size V U := HV.out.trans (hb.mono HV.out.size)
  have cy := (boxed_later H3.out hVU).cell
  have HVU := Lib.hid hVU
  have cx0 : U.cell? ⟨V.heap.size, 0, none⟩ = some (.int .i64 x.1) := bel_later hb (by simp [go_sem])
  have cx1 : U.cell? ⟨V.heap.size, 1, none⟩ = some (.int .i64 x.2) := bel_later hb (by simp [go_sem])
  have JU := HJ.out.bel H1.out hVU
  have B0U : Hid (Below w0.heap.size w0 U) := Lib.hid (H4.out.trans (hVU.mono H4.out.size))
  clear hb hVU OK
  cases hp : p x with
  | false =>
    have HP := Lib.hid hp
    have HJU := Lib.hid JU
    have FO := Lib.hid (filt_out HX.out hp)
    clear JU hp
    gi_wp2
    refine ⟨fun f h => (by cases h), ?_⟩
    gi_wp2
    refine bodyPost_ret (v := .bool true) (by simp [results, Try.results46, go_sem]) rfl ⟨E, Gr.refl _ _ _, Chg.of_below HVU.out, .inl ⟨rfl, by rw [FO.out]; exact HJU.out, h2, boxed_later H3.out HVU.out, B0U.out, H5.out⟩⟩
  | true =>
    have hfi := filt_in HX.out hp
    obtain ⟨fn, tmps, assign, body, hy, hRd⟩ := HY.out 2 _ x E U hfi.2 JU (HIN.out.more HVU.out.size)
    have HRD := Lib.hid hRd
    have FI := Lib.hid hfi.1
    simp only [enc] at hy
    clear JU hp hfi hRd
    gi_wp2
    refine HRD.out.mono ?_
    rintro e W3 ⟨D2, hg2, hc2, (⟨rfl, hj⟩ | ⟨rfl, hj⟩)⟩
    · have HG := Lib.hid (gc_step (Gr.refl E V U) (Chg.of_below HVU.out) (Below.refl _ _) hg2 hc2)
      have n2 := Lib.hid (gr_not hg2 h2 (boxed_later H3.out HVU.out).lt)
      have Y2 := Lib.hid (boxed_chg (boxed_later H3.out HVU.out) hc2 h2)
      have HJ3 := Lib.hid hj
      have B2 : Hid (Below w0.heap.size w0 W3) := Lib.hid (B0U.out.trans (hc2.below H5.out B0U.out.size))
      have L2 : Hid (∀ g, D2 g → w0.heap.size ≤ g) := Lib.hid (fun g hg => (hg2 g hg).elim (H5.out g) (fun q => Nat.le_trans B0U.out.size q.1))
      clear hg2 hc2 hj
      gi_wp2
      refine bodyPost_ret (v := .bool true) (by simp [results, Try.results46, go_sem]) rfl ⟨D2, HG.out.1, HG.out.2, .inl ⟨rfl, by rw [FI.out, List.length_append]; exact HJ3.out, n2.out, Y2.out, B2.out, L2.out⟩⟩
    · have HG := Lib.hid (gc_step (Gr.refl E V U) (Chg.of_below HVU.out) (Below.refl _ _) hg2 hc2)
      have HJ3 := Lib.hid hj
      clear hg2 hc2 hj
      gi_wp2
      refine bodyPost_ret (v := .bool false) (by simp [results, Try.results46, go_sem]) rfl ⟨D2, HG.out.1, HG.out.2, .inr ⟨rfl, by unfold WhX; rw [FI.out, List.length_append]; exact HJ3.out⟩⟩
set_option maxRecDepth 100000 in
set_option maxHeartbeats 4000000 in
theorem where_seq (bo bs : Nat) {sv : Value} {xs : List TT} {p : TT → Bool} {w0 : World} (hs : IsRow w0 (sv, xs)) {ok : FuncId} (eok : ∀ args w, (callFunc ok args).run Try.prog w = .ok (.enter ok args) w) {cap : Array Value}
    (hok : ∀ (x : TT) (U : World), Below w0.heap.size w0 U → Calls Try.prog ok (enc x ++ cap) U fun e w' => e = .returned (.bool (p x)) ∧ Below U.heap.size U w') (hbo : Boxed w0 bo 51 (.func (.func ok) #[] cap)) (hbs : Boxed w0 bs 31 sv) :
    SeqF Try.prog 45 #[.pointer (some ⟨bs, 0, none⟩), .pointer (some ⟨bo, 0, none⟩)] enc (xs.filter p) w0 := by
  intro l J Jx W D hb hD hin hJ hJx hY h0
  refine (callsIn_wide (n := 3)).1 ?_
  have c2 := (boxed_later hbs hb).cell
  have l2 := (boxed_later hbs hb).lt
  obtain ⟨V, hVe⟩ : ∃ V, V = W.alloc (.cells #[yv l] 51) := ⟨_, rfl⟩
  have hV : Below W.heap.size W V := by rw [hVe]; exact bel_alloc (Below.refl _ _) _
  have sV : V.heap.size = W.heap.size + 1 := by rw [hVe]; simp
  have bY : Boxed V W.heap.size 51 (yv l) := by rw [hVe]; exact Boxed.new W 51 _
  have hsz := hb.size
  have EA := Lib.hid (each_rowf (h := 46) (cap := #[.pointer (some ⟨bo, 0, none⟩), .pointer (some ⟨W.heap.size, 0, none⟩)]) hs (w := V) (hb.trans (hV.mono hb.size))
    (J := WhJ J xs p w0 l W.heap.size) (Jx := WhX Jx xs p) (whJ_loc hJ hV.size (by omega) (by omega)) (whX_loc hJx hV.size) (D := D) hD (hin.more hV.size) (enters_of Try.func46 (by kernel_rfl) rfl)
    (fun k x E U hx hE hi => where2_any eok hok hbo hJ hY k x E U hx hE hi)
    ⟨hJ.bel h0 hV, fun h => by have := hin _ h; omega, bY, hb.trans (hV.mono hb.size), hD⟩)
  have EB : Hid (Calls Try.prog 31 #[sv, .func (.func 46) #[] #[.pointer (some ⟨bo, 0, none⟩), .pointer (some ⟨W.heap.size, 0, none⟩)]] V fun e W2 => (∃ v, e = .returned v) ∧ SeqPost (xs.filter p).length J Jx D W W2) := Lib.hid (EA.out.mono (fun e W2 h => by
    obtain ⟨E, hg, hc, h⟩ := h
    have hC : Chg D W W2 := (Chg.of_below hV).trans hc (fun g hg => .inl hg)
    have hG : Gr D E W W2 := fun g hg' => (hg g hg').elim .inl (fun q => .inr ⟨Nat.le_trans hV.size q.1, q.2⟩)
    rcases h with ⟨rfl, h1, h2, h3, h4, h5⟩ | ⟨rfl, k, hk, h⟩
    · exact ⟨⟨_, rfl⟩, E, hG, hC, .inl (by simpa using h1)⟩
    · exact ⟨⟨_, rfl⟩, E, hG, hC, .inr ⟨_, filt_le xs p k, h⟩⟩))
  clear EA hY h0 hs hbo hbs bY sV hV hok
  refine callsIn_of_wp Try.func45 rfl trivial ?_ rfl
  simp only [Try.ntmps45, List.size_toArray, List.length_cons, List.length_nil, Nat.reduceAdd, Nat.reduceSub, Array.replicate_succ, Array.replicate_zero, List.push_toArray, List.append_toArray, List.nil_append, List.cons_append]
  subst hVe
  gi_wp2_with fail
  refine ⟨trivial, (callsIn_wide.2 EB.out).mono ?_⟩
  rintro e W2 ⟨⟨v, rfl⟩, hS⟩
  have HS := Lib.hid hS
  clear hS
  gi_wp2
  go_end0
  exact ⟨⟨_, rfl⟩, HS.out⟩
theorem where_any {sv : Value} {xs : List TT} {p : TT → Bool} {w : World} (hs : IsRow w (sv, xs)) (hagg : ∀ cs, sv ≠ .agg cs) {ok : FuncId} (eok : ∀ args w, (callFunc ok args).run Try.prog w = .ok (.enter ok args) w) {cap : Array Value}
    (hok : ∀ (x : TT) (U : World), Below w.heap.size w U → Calls Try.prog ok (enc x ++ cap) U fun e w' => e = .returned (.bool (p x)) ∧ Below U.heap.size U w') :
    Calls Try.prog 27 #[sv, .func (.func ok) #[] cap] w (SeqBack Try.prog 45 w (xs.filter p)) := by
  have hV : Below w.heap.size w ((w.alloc (.cells #[sv] 31)).alloc (.cells #[.func (.func ok) #[] cap] 51)) := bel_alloc (bel_alloc (Below.refl _ _) _) _
  have S := Lib.hid (where_seq (p := p) (w.heap.size + 1) w.heap.size (hs.later hV) eok (fun x U hU => hok x U (hV.trans (hU.mono hV.size))) (by simpa only [World.size_alloc] using Boxed.new (w.alloc (.cells #[sv] 31)) 51 (.func (.func ok) #[] cap)) ((Boxed.new w 31 sv).alloc _))
  have HB := Lib.hid hV
  clear hV hok
  rcases hs with ⟨h1, h9⟩ | ⟨g, lb, h1, h9⟩
  all_goals
    clear h9
    simp only at h1
    subst h1
    go_enter Try.func27, Try.ntmps27
    go_wp2
    exact bodyPost_ret (v := .func (.func 45) #[] #[.pointer (some ⟨w.heap.size, 0, none⟩), .pointer (some ⟨w.heap.size + 1, 0, none⟩)]) (by simp [results, Try.results27, go_sem]) rfl ⟨_, rfl, HB.out, S.out⟩
end Go.Proofs.Ytpijaphcknoobaa
