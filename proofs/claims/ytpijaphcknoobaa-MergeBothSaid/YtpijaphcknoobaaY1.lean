/- each, where what is told is a loop's own round; and each of a row that is none. -/
import Derived.Test.YtpijaphcknoobaaX7
namespace Go.Proofs.Ytpijaphcknoobaa
set_option linter.unusedSimpArgs false
open Go.RowKit Go.Shelf
set_option linter.unusedVariables false
attribute [local go_sem] Oper.semAt_some

set_option maxRecDepth 100000 in
set_option maxHeartbeats 4000000 in
theorem each_yield {ly : Nat} {g : FuncId} (eg : ∀ args w, (callFunc g args).run Try.prog w = .ok (.enter g args) w) {lb : Array Value} {xs : List TT} {w0 w : World}
    (hseq : SeqF Try.prog g lb enc xs w0) (hb0 : Below w0.heap.size w0 w) {J Jx : Nat → (Nat → Prop) → World → Prop} (hJ : LocB w.heap.size J) (hJx : LocB w.heap.size Jx) {D : Nat → Prop} (hD : ∀ g, D g → w0.heap.size ≤ g) (hin : In D w)
    (hT : ∀ m k x D W, xs[k]? = some x → J k D W → In D W → YieldAt Fence.wide m Try.prog ly (enc x) W (TellPost J Jx k D W)) (h0 : J 0 D w) :
    CallsIn Fence.wide 4 Try.prog 31 #[.func (.func g) #[] lb, yv ly] w (EachPost xs.length J Jx D w) := by
  have hnil := run_isnil (.func g) #[] lb
  have HS := Lib.hid hseq
  have HB := Lib.hid hb0
  have HT := Lib.hid hT
  have H0 := Lib.hid h0
  clear hseq hT h0 hb0
  refine callsIn_of_wp_marks Try.func31 rfl trivial ?_ rfl
  simp only [Try.ntmps31, List.size_toArray, List.length_cons, List.length_nil, Nat.reduceAdd, Nat.reduceSub, Array.replicate_succ, Array.replicate_zero, List.push_toArray, List.append_toArray, List.nil_append, List.cons_append]
  gi_wp2
  have bT : Boxed ((w.alloc (.cells #[yv ly] 51)).alloc (.cells #[.bool false] 4)) w.heap.size 51 (yv ly) := (Boxed.new w 51 _).alloc _
  have bR : Boxed ((w.alloc (.cells #[yv ly] 51)).alloc (.cells #[.bool false] 4)) (w.heap.size + 1) 4 (.bool false) := by
    have := Boxed.new (w.alloc (.cells #[yv ly] 51)) 4 (.bool false)
    simpa only [World.size_alloc] using this
  have bV : Below w.heap.size w ((w.alloc (.cells #[yv ly] 51)).alloc (.cells #[.bool false] 4)) := bel_alloc (bel_alloc (Below.refl _ _) _) _
  have zV : ((w.alloc (.cells #[yv ly] 51)).alloc (.cells #[.bool false] 4)).heap.size = w.heap.size + 2 := by simp
  generalize ((w.alloc (.cells #[yv ly] 51)).alloc (.cells #[.bool false] 4)) = V at *
  have hw0 := HB.out.size
  refine range_F (w0 := w0) (gf := g) (lb := lb) (encs := enc) (xs := xs) rfl eg HS.out (HB.out.trans (bV.mono hw0)) (fun _ => rfl) (EaI J w.heap.size (w.heap.size + 1) (yv ly)) (EaX Jx (w.heap.size + 1)) (eaI_loc hJ (by omega) (by omega) (by omega)) (fun c => eaX_loc hJx (by omega) (by omega) c)
    (fun g => D g ∨ g = w.heap.size + 1) (fun g hg => ?_) ⟨D, rfl, hJ.bel H0.out bV, fun h => by have := hin _ h; omega, fun h => by have := hin _ h; omega, bT, bR⟩
    (fun x W => { tmps := #[.func (.func g) #[] lb, yv ly, undef, .pointer (some ⟨w.heap.size, 0, none⟩), .pointer (some ⟨w.heap.size + 1, 0, none⟩), .pointer (some ⟨W.heap.size, 0, none⟩), .func (.func g) #[] lb, .bool false, .func (.func g) #[] lb, .agg #[.int .i64 x.1, .int .i64 x.2], undef, undef, undef, undef], defers := [] }) (fun x W => W.alloc (.cells #[.int .i64 x.1, .int .i64 x.2] 29)) (fun x W => bel_alloc (Below.refl _ _) _) ?assign ?body ?done ?stop
  · rcases hg with hg | hg
    · exact ⟨hD g hg, by have := hin g hg; omega⟩
    · exact ⟨by omega, by omega⟩
  case assign =>
    intro m l x W K hK
    gi_wp2
    exact hK
  case body =>
    rintro m l k x E U W o hx hl hlU rfl hinE hlE hgr hch ⟨D', rfl, hJk, hn1, hn0, hbT, hbR⟩
    have cT := hbT.cell
    have cR := hbR.cell
    have fR := hbR.frozen
    have sz : U.heap.size ≤ ((U.alloc (.cells #[.int .i64 x.1, .int .i64 x.2] 29)).putObj l o).heap.size := by simp
    have hbx : ((U.alloc (.cells #[.int .i64 x.1, .int .i64 x.2] 29)).putObj l o).heap[U.heap.size]? = some (.cells #[.int .i64 x.1, .int .i64 x.2] 29 (0, 0)) := (World.putObj_heap_other (by omega)).trans (World.alloc_heap_new U _)
    have c50 : ((U.alloc (.cells #[.int .i64 x.1, .int .i64 x.2] 29)).putObj l o).cell? ⟨U.heap.size, 0, none⟩ = some (.int .i64 x.1) := cell_at hbx 0
    have c51 : ((U.alloc (.cells #[.int .i64 x.1, .int .i64 x.2] 29)).putObj l o).cell? ⟨U.heap.size, 1, none⟩ = some (.int .i64 x.2) := cell_at hbx 1
    clear hbx
    obtain ⟨fn, tmps, assign, body, hy, hRd⟩ := HT.out (m - 1) k x D' ((U.alloc (.cells #[.int .i64 x.1, .int .i64 x.2] 29)).putObj l o) hx hJk (fun g hg => by have := hinE g (.inl hg); omega)
    have TELL := Lib.hid hRd
    have hd2 : Hid (Fence.wide.depth.isSome = true → 1 ≤ m) := Lib.hid (fun h => by cases h)
    simp only [enc] at hy
    clear hRd
    generalize ((U.alloc (.cells #[.int .i64 x.1, .int .i64 x.2] 29)).putObj l o) = W at *
    have hJk2 := Lib.hid hJk
    have SZ := Lib.hid sz
    clear hJk sz hnil hch hgr
    gi_wp2_with fail
    refine ⟨hd2.out, TELL.out.mono ?_⟩
    rintro e W3 ⟨D2, hg2, hc2, (⟨rfl, hj⟩ | ⟨rfl, hj⟩)⟩
    · have HJ := Lib.hid hj
      have HG := Lib.hid hg2
      have HC := Lib.hid hc2
      clear hj hg2 hc2
      gi_wp2
      exact ⟨_, gr_or HG.out _, HC.out.more (fun g hg => .inl (.inl hg)), D2, rfl, HJ.out, gr_not HG.out hn1 (by have := hbR.lt; omega), gr_not HG.out hn0 (by have := hbT.lt; omega), boxed_chg hbT HC.out hn0, boxed_chg hbR HC.out hn1⟩
    · have bR3 := boxed_chg hbR hc2 hn1
      have cR3 := bR3.cell
      have fR3 := bR3.frozen
      have n3 : ¬ D2 (w.heap.size + 1) := gr_not hg2 hn1 (by have := hbR.lt; omega)
      have HJ := Lib.hid hj
      have HG := Lib.hid hg2
      have HC := Lib.hid hc2
      clear hj hg2 hc2
      gi_wp2
      refine ⟨fun g => D2 g ∨ g = w.heap.size + 1, gr_up (gr_or HG.out _) (by simp [World.setCell]), (HC.out.more (fun g hg => .inl (.inl hg))).trans (Chg.set (D := fun g => g = w.heap.size + 1) W3 _ rfl) (fun g hg => .inl (.inr hg)), rfl, D2, rfl, ?_, n3, by simpa using bR3.set (.bool false)⟩
      exact hJx _ _ _ _ HJ.out (Chg.set W3 _ ⟨n3, by omega⟩)
  case done =>
    rintro B E W hB hEB hgr hch ⟨D', rfl, hJk, hn1, hn0, hbT, hbR⟩ hK
    have cR := hbR.cell
    have fR := hbR.frozen
    gi_wp2
    have hBR : w.heap.size + 1 ≠ B := by omega
    have hKs : (W.setCell ⟨w.heap.size + 1, 0, none⟩ (.bool true)).heap[B]? = some (.deferred (some [])) := (Below.heap_setCell _ _ _ _ (fun e => hBR e.symm)).trans hK
    have bR2 := hbR.set (.bool true)
    have cRf := (show Boxed ((W.setCell ⟨w.heap.size + 1, 0, none⟩ (.bool true)).putObj B (.deferred none)) (w.heap.size + 1) 4 (.bool true) from (World.putObj_heap_other hBR).trans bR2).cell
    have hDB : ¬ D' B := fun h => hEB (.inl h)
    refine ⟨by simp, .inl ⟨_, _, rfl, run_takeDeferred hKs, .bool true, by simp [results, Try.results31, go_sem, cRf], D', ?_, ?_, .inl ⟨rfl, ?_⟩⟩⟩
    · exact each_gr bV hgr hin (by simp [World.setCell]) hn1
    · exact ((((Chg.of_below bV).trans hch (fun g hg => hg.elim .inl (fun e => .inr (by omega)))).trans (Chg.set (D := fun g => g = w.heap.size + 1) W _ rfl) (fun g hg => .inr (by omega))).trans (Chg.put (D := fun g => g = B) _ _ rfl) (fun g hg => .inr (by omega)))
    · exact hJ.put (hJ.set hJk hn1 (by omega) _) hDB (by omega) _
  case stop =>
    rintro B c k E W hB hEB hgr hch hk ⟨rfl, D', rfl, hJk, hn1, hbR⟩ hK
    gi_wp2
    have hBR : w.heap.size + 1 ≠ B := by omega
    have cRf := (show Boxed (W.putObj B (.deferred none)) (w.heap.size + 1) 4 (.bool false) from (World.putObj_heap_other hBR).trans hbR).cell
    have hDB : ¬ D' B := fun h => hEB (.inl h)
    refine ⟨by simp, .inl ⟨_, _, rfl, run_takeDeferred hK, .bool false, by simp [results, Try.results31, go_sem, cRf], D', ?_, ?_, .inr ⟨rfl, k, hk, ?_⟩⟩⟩
    · exact each_gr bV hgr hin (by simp) hn1
    · exact (((Chg.of_below bV).trans hch (fun g hg => hg.elim .inl (fun e => .inr (by omega)))).trans (Chg.put (D := fun g => g = B) _ _ rfl) (fun g hg => .inr (by omega)))
    · exact hJx.put hJk hDB (by omega) _
end Go.Proofs.Ytpijaphcknoobaa
