/- All pairs in a row; those from a key on in a row. -/
import Derived.Test.YtfgohbhacldlmaaG0
import Derived.Maps.AppendAt
import Derived.Maps.OwnIn
import Derived.RangeFuncWrites
namespace Go.Proofs.Ytfgohbhacldlmaa
set_option linter.unusedSimpArgs false
open Go.RowKit Go.Shelf
set_option linter.unusedVariables false
attribute [local go_sem] Oper.semAt_some

theorem info39 : (Try.prog.info? 39).map (fun i => (i.zero, i.size, i.bytes)) = some (some (.agg #[.string ⟨#[]⟩, .int .i64 0]), 2, 24) := by kernel_rfl
abbrev PL := List (ByteArray × Int)
/-- The cells of pairs in a row. -/
def flp (ps : PL) : List Value := ps.flatMap fun x => [.string x.1, .int .i64 x.2]
theorem flp_snoc (ps : PL) (x : ByteArray × Int) : flp (ps ++ [x]) = flp ps ++ [.string x.1, .int .i64 x.2] := by simp [flp]
theorem flp_len (ps : PL) : (flp ps).length = ps.length * 2 := by induction ps with
  | nil => rfl
  | cons x l ih => simp [flp] at *; omega
/-- Pairs behind a slice's address. -/
abbrev RdP (w : World) (A : Option Addr) (L : PL) : Prop := Rd w w.heap.size A (flp L)
abbrev RowPost (w : World) (L : PL) (e : Ending) (w' : World) : Prop := ∃ A c, e = .returned (.slice A L.length c) ∧ RdP w' A L ∧ Below w.heap.size w w' ∧ L.length ≤ c
abbrev kv (k : ByteArray) (v : Int) : Obj := .cells #[.string k, .int .i64 v] 39
structure OI (w : World) (n0 : Nat) (pre : PL) (W : World) : Prop where
  out : ∃ v, Boxed W (w.heap.size + 1) 25 v ∧ W.ownsRow w.heap.size 39 2 v pre.length (flp pre) ∧ (∀ j, v.ownBlock = some j → j = w.heap.size ∨ n0 ≤ j)
  bel : Below w.heap.size w W
  hs : n0 ≤ W.heap.size
theorem oi_own (w : World) (n0 B : Nat) (hB : w.heap.size ≤ B) : OwnFrom B (OI w n0) := by
  intro s X Y row hs hg hr
  refine ⟨?_, ?_, Nat.le_trans hs.hs hg.size⟩
  · exact (Own.from (holdsRow_own w.heap.size (w.heap.size + 1) 25 39 2 (fun pre : PL => pre.length) (fun pre => flp pre) (fun _ v => ∀ j, v.ownBlock = some j → j = w.heap.size ∨ n0 ≤ j)) B) s X Y row hs.out hg hr
  · exact (ownFrom_below (β := PL) (Nat.le_refl _) hB) s X Y row hs.bel hg hr
def oX (w : World) (k : Nat) : Prop := k = w.heap.size ∨ k = w.heap.size + 1
theorem run_isnil (g : Fn) (r l : Array Value) (W : World) : Sem.run Try.prog (binOp BinOp.eql 44 (Value.func g r l) Value.nilFunc) W = .ok (.bool false) W := by
  have h0 : ∀ d : Nat, (Op.equalIn (d + 1) 44 (Value.func g r l) Value.nilFunc).run Try.prog W = .ok false W := fun d => by simp [Op.equalIn, run_underlying Try.underlying44]
  have h1 := h0 9999
  have e : Op.equal 44 (Value.func g r l) Value.nilFunc = Op.equalIn (9999 + 1) 44 (Value.func g r l) Value.nilFunc := rfl
  rw [← e] at h1
  simp [binOp, go_sem, h1]
theorem kv_new (W : World) (k : ByteArray) (v : Int) : ∀ j u, [Value.string k, .int .i64 v][j]? = some u → (W.alloc (kv k v)).cell? ((⟨W.heap.size, 0, none⟩ : Addr).add j) = some u := by
  intro j u hj
  match j, hj with
  | 0, hj => simp at hj; subst hj; simp [go_sem]
  | 1, hj => simp at hj; subst hj; simp [go_sem, Addr.add]
theorem own_shape {w : World} {base : Nat} {e : TypeId} {size : Nat} {v : Value} {n : Nat} {xs : List Value} (h : w.ownsRow base e size v n xs) : ∃ a c, v = .slice a n c ∧ n ≤ c := by
  rcases h.2 with ⟨rfl, rfl⟩ | ⟨g, cap, cur, rfl, _, _, h, _⟩
  · exact ⟨_, _, rfl, Nat.le_refl _⟩
  · exact ⟨_, _, rfl, h⟩
theorem own_type {w : World} {base : Nat} {e : TypeId} {size : Nat} {v : Value} {n : Nat} {xs : List Value} (h : w.ownsRow base e size v n xs) {j : Nat} {o : Obj} (hj : v.ownBlock = some j) (ho : w.heap[j]? = some o) : ∃ cur, o = .cells cur e (0, 0) := by
  rcases h.2 with ⟨rfl, _⟩ | ⟨g, cap, cur, rfl, _, hg, _⟩
  · simp [Value.ownBlock] at hj
  · obtain rfl : g = j := by simpa [Value.ownBlock] using hj
    rw [hg] at ho; cases ho; exact ⟨_, rfl⟩
/-- One more pair is appended. -/
theorem app_end {w W w1 : World} {n0 : Nat} {pre : PL} {k : ByteArray} {x : Int} {v v' : Value} (hn0 : w.heap.size + 2 ≤ n0)
    (hI : OI w n0 pre W) (hv : Boxed W (w.heap.size + 1) 25 v) (hrow : W.ownsRow w.heap.size 39 2 v pre.length (flp pre)) (hf : ∀ j, v.ownBlock = some j → j = w.heap.size ∨ n0 ≤ j)
    (hown' : w1.ownsRow w.heap.size 39 2 v' (pre.length + 1) (flp pre ++ [.string k, .int .i64 x]))
    (hgrow : (W.alloc (kv k x)).grownBy w1 v.ownBlock) (hat : v'.ownBlock = v.ownBlock ∨ v'.ownBlock = some (W.alloc (kv k x)).heap.size) :
    Boxed w1 (w.heap.size + 1) 25 v ∧ KA n0 (oX w) W (w1.setCell ⟨w.heap.size + 1, 0, none⟩ v') ∧ OI w n0 (pre ++ [(k, x)]) (w1.setCell ⟨w.heap.size + 1, 0, none⟩ v') := by
  have hsz := hI.bel.size
  have hsi := hI.hs
  obtain ⟨q1, q2, q3, q4, q5⟩ := hv.appended (n₀ := w.heap.size) (by decide) hrow hsz (by omega) hown' hgrow
  have k1 : KA n0 (oX w) W (W.alloc (kv k x)) := KA.of_below (bel_alloc (Below.refl _ _) _)
  have k2 : KA n0 (oX w) (W.alloc (kv k x)) w1 := KA.of_grown hgrow (fun j o hj ho => by
    obtain ⟨cur, rfl⟩ := own_type (hrow.alloc (kv k x)) hj ho
    rcases hf j hj with h | h
    · exact .inl (.inl h)
    · exact .inr ⟨h, rfl⟩)
  have k3 : KA n0 (oX w) w1 (w1.setCell ⟨w.heap.size + 1, 0, none⟩ v') := KA.of_grown (grownBy_setCell' w1 (w.heap.size + 1) v') (fun j o hj ho => by cases hj; exact .inl (.inr rfl))
  have kk := (k1.trans k2).trans k3
  refine ⟨q1, kk, ⟨⟨v', q2, ?_, ?_⟩, hI.bel.trans q5, Nat.le_trans hsi kk.1⟩⟩
  · rw [flp_snoc, show (pre ++ [(k, x)]).length = pre.length + 1 by simp]
    exact q3
  · intro j e
    rcases hat with h | h
    · exact hf j (h ▸ e)
    · rw [h] at e; cases e; right; simp; omega
theorem belowK {W : World} {n₀ : Nat} (h : n₀ ≤ W.heap.size) {D : Nat} {o : Obj} (hD : n₀ ≤ D) : Below n₀ W (W.putObj D o) := ⟨rfl, rfl, rfl, by simp, fun k hk => World.putObj_heap_other (by omega)⟩
set_option maxRecDepth 100000 in
set_option maxHeartbeats 4000000 in
theorem all_in (m : Value) (L : PL) (hL : L.length ≤ 1000) (w : World) (hA : ∀ W, Below w.heap.size w W → Calls Try.prog 37 #[m] W (SeqPost W L)) :
    Calls Try.prog 14 #[m] w (RowPost w L) := by
  have HL := Lib.hid hL
  have HA := Lib.hid hA
  obtain ⟨i0, hi, hz0, hz1, hz2⟩ := info_parts info39
  clear hA hL
  refine (callsIn_wide (n := 4)).1 ?_
  refine callsIn_of_wp_marks Try.func14 rfl trivial ?_ rfl
  simp only [Try.ntmps14, List.size_toArray, List.length_cons, List.length_nil, Nat.reduceAdd, Nat.reduceSub, Array.replicate_succ, Array.replicate_zero, List.push_toArray, List.append_toArray, List.nil_append, List.cons_append]
  gi_wp2_with fail
  have B0 : Below w.heap.size w ((w.alloc (.cells #[] 39)).alloc (.cells #[.slice (some ⟨w.heap.size, 0, none⟩) 0 0] 25)) := by go_grown
  have bO : Boxed ((w.alloc (.cells #[] 39)).alloc (.cells #[.slice (some ⟨w.heap.size, 0, none⟩) 0 0] 25)) (w.heap.size + 1) 25 (.slice (some ⟨w.heap.size, 0, none⟩) 0 0) := by
    have := Boxed.new (w.alloc (.cells #[] 39)) 25 (.slice (some ⟨w.heap.size, 0, none⟩) 0 0)
    simpa only [World.size_alloc] using this
  have oR : ((w.alloc (.cells #[] 39)).alloc (.cells #[.slice (some ⟨w.heap.size, 0, none⟩) 0 0] 25)).ownsRow w.heap.size 39 2 (.slice (some ⟨w.heap.size, 0, none⟩) 0 0) 0 [] :=
    (World.ownsRow_made w (base := w.heap.size) (e := 39) (size := 2) #[] 0 (by simp) (by simp [maxLen]) (by simp)).alloc _
  have x1 : ((w.alloc (.cells #[] 39)).alloc (.cells #[.slice (some ⟨w.heap.size, 0, none⟩) 0 0] 25)).heap[w.heap.size]? = some (.cells #[] 39 (0, 0)) := (Below.heap_alloc _ _ _ (by simp)).trans (World.alloc_heap_new w _)
  have Z0 : ((w.alloc (.cells #[] 39)).alloc (.cells #[.slice (some ⟨w.heap.size, 0, none⟩) 0 0] 25)).heap.size = w.heap.size + 2 := by simp
  generalize ((w.alloc (.cells #[] 39)).alloc (.cells #[.slice (some ⟨w.heap.size, 0, none⟩) 0 0] 25)) = V at *
  have C := HA.out V B0
  refine ⟨trivial, (callsIn_wide.2 C).mono ?_⟩
  rintro e W0 ⟨lb, rfl, hb, hS⟩
  have hsb := hb.size
  have hX : ∀ k, oX w k → k < V.heap.size ∧ W0.cell? ⟨k, 1, none⟩ = none ∧ W0.cell? ⟨k, 2, none⟩ = none := fun k hk => by
    rcases hk with rfl | rfl
    · have h := (hb.block _ (by omega)).trans x1
      exact ⟨by omega, by simp [World.cell?, h], by simp [World.cell?, h]⟩
    · have h := boxed_later bO hb
      exact ⟨by omega, by simp [World.cell?, show W0.heap[_]? = _ from h], by simp [World.cell?, show W0.heap[_]? = _ from h]⟩
  have SQ := hS (oX w) hX
  have bO1 := boxed_later bO hb
  have oR1 := own_bel oR hb
  have BW : Below w.heap.size w W0 := bel_trans B0 hb
  have hn0 : w.heap.size + 2 ≤ W0.heap.size := by omega
  have hXl : ∀ k, oX w k → k < W0.heap.size := fun k hk => by have := (hX k hk).1; omega
  have hnil := run_isnil (.func 49) #[] lb
  clear hS C hX x1 oR bO hb hsb
  gi_wp2
  refine range_L (w0 := W0) (gf := 49) (lb := lb) rfl (enters_of Try.func49 (by kernel_rfl) rfl) SQ (Nat.le_refl _) hXl (Below.refl _ _) (fun _ => rfl)
    (OI w W0.heap.size) (fun _ _ _ => False) (oi_own w W0.heap.size W0.heap.size (by omega)) (fun _ _ _ _ _ hs _ _ => hs)
    ⟨⟨_, bO1, oR1, fun j e => by cases e; exact .inl rfl⟩, BW, Nat.le_refl _⟩
    (fun x => { tmps := #[m, undef, .slice none 0 0, .pointer (some ⟨w.heap.size + 1, 0, none⟩), .func (.func 49) #[] lb, .string x.1, .int .i64 x.2, .slice (some ⟨w.heap.size, 0, none⟩) 0 0, m, .func (.func 49) #[] lb, .func (.func 49) #[] lb, .bool false, undef, .func (.func 49) #[] lb, .string x.1, .int .i64 x.2, undef, undef, undef, undef, undef, undef, undef], defers := [] }) ?assign ?body ?done ?stop
  case assign =>
    intro m l x W2 K hK
    gi_wp2
    exact hK
  case body =>
    rintro m l pre x W hl hI hlen
    obtain ⟨k, v⟩ := x
    obtain ⟨r, hv, hrow, hfar⟩ := hI.out
    obtain ⟨a0, c0, rfl, _⟩ := own_shape hrow
    have cO := hv.cell
    have HI := Lib.hid hI
    have HV := Lib.hid hv
    have HR := Lib.hid hrow
    have HF := Lib.hid hfar
    have hWs := hI.bel.size
    have hmax : (1002 : Nat) ≤ maxLen := by decide
    have hpl : pre.length < 1000 := by have := HL.out; omega
    clear hI hv hrow hfar SQ hnil bO1 oR1 BW hXl
    gi_wp2_with (gi_at_builtin; refine wpListIn_append_own_at _ rfl _ _ 25 rfl w.heap.size 39 i0 (.agg #[.string ⟨#[]⟩, .int .i64 0]) 2 24 Try.underlying25 hi hz0 hz1 hz2 rfl (by decide) _ _ _ rfl (HR.out.alloc _) ⟨W.heap.size, 0, none⟩ 1 1 [.string k, .int .i64 v] rfl rfl (kv_new _ _ _) (by simp [Value.oneCell']) (by omega) (by omega) (by simp; omega) ?_; intro v' w1 hown' hgrow _ hat; obtain ⟨g9, c9, rfl⟩ := ownsRow_succ hown'; obtain ⟨q1, q2, q3⟩ := app_end hn0 HI.out HV.out HR.out HF.out hown' hgrow hat; have Q2 := Lib.hid q2; have Q3 := Lib.hid q3; have dc := q1.cell; have df := q1.frozen; clear q1 q2 q3 hown' hgrow hat)
    exact ⟨Q2.out, Q3.out⟩
  case done =>
    rintro D ys W hD rfl hI hK
    obtain ⟨r, hv, hrow, hfar⟩ := hI.out
    obtain ⟨a0, c0, rfl, hc⟩ := own_shape hrow
    have cO := hv.cell
    have HI := Lib.hid hI
    have HR := Lib.hid hrow
    have HK := Lib.hid hK
    clear hI hv hrow hfar SQ hnil bO1 oR1 hK
    gi_wp2
    refine ⟨by simp, .inl ⟨_, _, rfl, run_takeDeferred HK.out, ?_⟩⟩
    refine ⟨.slice a0 ys.length c0, by simp [results, Try.results14, go_sem], a0, c0, rfl, ?_, ?_, hc⟩
    · exact Rd.of_own (ownsRow_putObj HR.out (.deferred none) HK.out rfl) (by decide)
    · exact HI.out.bel.trans (belowK (by have := HI.out.bel.size; omega) (by omega))
  case stop =>
    rintro D c pre W _ _ h _
    exact h.elim
set_option maxRecDepth 100000 in
set_option maxHeartbeats 4000000 in
theorem from_in (m : Value) (at0 : ByteArray) (L : PL) (hL : L.length ≤ 1000) (w : World) (hA : ∀ W, Below w.heap.size w W → Calls Try.prog 20 #[m, .string at0] W (SeqPost W L)) :
    Calls Try.prog 19 #[m, .string at0] w (RowPost w L) := by
  have HL := Lib.hid hL
  have HA := Lib.hid hA
  obtain ⟨i0, hi, hz0, hz1, hz2⟩ := info_parts info39
  clear hA hL
  refine (callsIn_wide (n := 4)).1 ?_
  refine callsIn_of_wp_marks Try.func19 rfl trivial ?_ rfl
  simp only [Try.ntmps19, List.size_toArray, List.length_cons, List.length_nil, Nat.reduceAdd, Nat.reduceSub, Array.replicate_succ, Array.replicate_zero, List.push_toArray, List.append_toArray, List.nil_append, List.cons_append]
  gi_wp2_with fail
  have B0 : Below w.heap.size w ((w.alloc (.cells #[] 39)).alloc (.cells #[.slice (some ⟨w.heap.size, 0, none⟩) 0 0] 25)) := by go_grown
  have bO : Boxed ((w.alloc (.cells #[] 39)).alloc (.cells #[.slice (some ⟨w.heap.size, 0, none⟩) 0 0] 25)) (w.heap.size + 1) 25 (.slice (some ⟨w.heap.size, 0, none⟩) 0 0) := by
    have := Boxed.new (w.alloc (.cells #[] 39)) 25 (.slice (some ⟨w.heap.size, 0, none⟩) 0 0)
    simpa only [World.size_alloc] using this
  have oR : ((w.alloc (.cells #[] 39)).alloc (.cells #[.slice (some ⟨w.heap.size, 0, none⟩) 0 0] 25)).ownsRow w.heap.size 39 2 (.slice (some ⟨w.heap.size, 0, none⟩) 0 0) 0 [] :=
    (World.ownsRow_made w (base := w.heap.size) (e := 39) (size := 2) #[] 0 (by simp) (by simp [maxLen]) (by simp)).alloc _
  have x1 : ((w.alloc (.cells #[] 39)).alloc (.cells #[.slice (some ⟨w.heap.size, 0, none⟩) 0 0] 25)).heap[w.heap.size]? = some (.cells #[] 39 (0, 0)) := (Below.heap_alloc _ _ _ (by simp)).trans (World.alloc_heap_new w _)
  have Z0 : ((w.alloc (.cells #[] 39)).alloc (.cells #[.slice (some ⟨w.heap.size, 0, none⟩) 0 0] 25)).heap.size = w.heap.size + 2 := by simp
  generalize ((w.alloc (.cells #[] 39)).alloc (.cells #[.slice (some ⟨w.heap.size, 0, none⟩) 0 0] 25)) = V at *
  have C := HA.out V B0
  refine ⟨trivial, (callsIn_wide.2 C).mono ?_⟩
  rintro e W0 ⟨lb, rfl, hb, hS⟩
  have hsb := hb.size
  have hX : ∀ k, oX w k → k < V.heap.size ∧ W0.cell? ⟨k, 1, none⟩ = none ∧ W0.cell? ⟨k, 2, none⟩ = none := fun k hk => by
    rcases hk with rfl | rfl
    · have h := (hb.block _ (by omega)).trans x1
      exact ⟨by omega, by simp [World.cell?, h], by simp [World.cell?, h]⟩
    · have h := boxed_later bO hb
      exact ⟨by omega, by simp [World.cell?, show W0.heap[_]? = _ from h], by simp [World.cell?, show W0.heap[_]? = _ from h]⟩
  have SQ := hS (oX w) hX
  have bO1 := boxed_later bO hb
  have oR1 := own_bel oR hb
  have BW : Below w.heap.size w W0 := bel_trans B0 hb
  have hn0 : w.heap.size + 2 ≤ W0.heap.size := by omega
  have hXl : ∀ k, oX w k → k < W0.heap.size := fun k hk => by have := (hX k hk).1; omega
  have hnil := run_isnil (.func 49) #[] lb
  clear hS C hX x1 oR bO hb hsb
  gi_wp2
  refine range_L (w0 := W0) (gf := 49) (lb := lb) rfl (enters_of Try.func49 (by kernel_rfl) rfl) SQ (Nat.le_refl _) hXl (Below.refl _ _) (fun _ => rfl)
    (OI w W0.heap.size) (fun _ _ _ => False) (oi_own w W0.heap.size W0.heap.size (by omega)) (fun _ _ _ _ _ hs _ _ => hs)
    ⟨⟨_, bO1, oR1, fun j e => by cases e; exact .inl rfl⟩, BW, Nat.le_refl _⟩
    (fun x => { tmps := #[m, .string at0, undef, undef, .slice none 0 0, .pointer (some ⟨w.heap.size + 1, 0, none⟩), .func (.func 49) #[] lb, .string x.1, .int .i64 x.2, .slice (some ⟨w.heap.size, 0, none⟩) 0 0, m, .string at0, .func (.func 49) #[] lb, .func (.func 49) #[] lb, .bool false, undef, .func (.func 49) #[] lb, .string x.1, .int .i64 x.2, undef, undef, undef, undef, undef, undef, undef], defers := [] }) ?assign ?body ?done ?stop
  case assign =>
    intro m l x W2 K hK
    gi_wp2
    exact hK
  case body =>
    rintro m l pre x W hl hI hlen
    obtain ⟨k, v⟩ := x
    obtain ⟨r, hv, hrow, hfar⟩ := hI.out
    obtain ⟨a0, c0, rfl, _⟩ := own_shape hrow
    have cO := hv.cell
    have HI := Lib.hid hI
    have HV := Lib.hid hv
    have HR := Lib.hid hrow
    have HF := Lib.hid hfar
    have hWs := hI.bel.size
    have hmax : (1002 : Nat) ≤ maxLen := by decide
    have hpl : pre.length < 1000 := by have := HL.out; omega
    clear hI hv hrow hfar SQ hnil bO1 oR1 BW hXl
    gi_wp2_with (gi_at_builtin; refine wpListIn_append_own_at _ rfl _ _ 25 rfl w.heap.size 39 i0 (.agg #[.string ⟨#[]⟩, .int .i64 0]) 2 24 Try.underlying25 hi hz0 hz1 hz2 rfl (by decide) _ _ _ rfl (HR.out.alloc _) ⟨W.heap.size, 0, none⟩ 1 1 [.string k, .int .i64 v] rfl rfl (kv_new _ _ _) (by simp [Value.oneCell']) (by omega) (by omega) (by simp; omega) ?_; intro v' w1 hown' hgrow _ hat; obtain ⟨g9, c9, rfl⟩ := ownsRow_succ hown'; obtain ⟨q1, q2, q3⟩ := app_end hn0 HI.out HV.out HR.out HF.out hown' hgrow hat; have Q2 := Lib.hid q2; have Q3 := Lib.hid q3; have dc := q1.cell; have df := q1.frozen; clear q1 q2 q3 hown' hgrow hat)
    exact ⟨Q2.out, Q3.out⟩
  case done =>
    rintro D ys W hD rfl hI hK
    obtain ⟨r, hv, hrow, hfar⟩ := hI.out
    obtain ⟨a0, c0, rfl, hc⟩ := own_shape hrow
    have cO := hv.cell
    have HI := Lib.hid hI
    have HR := Lib.hid hrow
    have HK := Lib.hid hK
    clear hI hv hrow hfar SQ hnil bO1 oR1 hK
    gi_wp2
    refine ⟨by simp, .inl ⟨_, _, rfl, run_takeDeferred HK.out, ?_⟩⟩
    refine ⟨.slice a0 ys.length c0, by simp [results, Try.results19, go_sem], a0, c0, rfl, ?_, ?_, hc⟩
    · exact Rd.of_own (ownsRow_putObj HR.out (.deferred none) HK.out rfl) (by decide)
    · exact HI.out.bel.trans (belowK (by have := HI.out.bel.size; omega) (by omega))
  case stop =>
    rintro D c pre W _ _ h _
    exact h.elim
end Go.Proofs.Ytfgohbhacldlmaa
