/- A table is forked. -/
import Derived.Test.YtdbcaiggliiacaaT4
import Derived.Test.YtdbcaiggliiacaaV1
namespace Go.Proofs.Ytdbcaiggliiacaa
set_option linter.unusedSimpArgs false
open Go.RowKit Go.Maps Go.Sort Go.Shelf
set_option linter.unusedVariables false
attribute [local go_sem] Oper.semAt_some
/-- What the first k of a list say. -/
def preS (S : Int → Option Cur) (L : List XE) (k : Nat) : Int → Option Cur := fun y => if y ∈ (L.take k).map (·.1) then S y else none
theorem preS_zero (S : Int → Option Cur) (L : List XE) (y : Int) : preS S L 0 y = none := by simp [preS]
theorem preS_new {S : Int → Option Cur} {L : List XE} (h : Lists S L) {k : Nat} {x : XE} (hx : L[k]? = some x) : preS S L k x.1 = none := by
  unfold preS
  rw [if_neg]
  intro hm
  obtain ⟨y, hy, e⟩ := List.mem_map.1 hm
  obtain ⟨i, hi, rfl⟩ := List.getElem_of_mem hy
  have hu := h.up
  rw [List.pairwise_iff_getElem] at hu
  obtain ⟨h1, rfl⟩ := List.getElem?_eq_some_iff.1 hx
  have hik : i < k := by simp at hi; omega
  have := hu i k (by simp; omega) (by simpa using h1) hik
  simp only [List.getElem_map] at this
  rw [List.getElem_take] at e
  omega
theorem preS_next {S : Int → Option Cur} {L : List XE} (h : Lists S L) {k : Nat} {x : XE} (hx : L[k]? = some x) {c : Cur} (hc : S x.1 = some c) (y : Int) : updC (preS S L k) x.1 c y = preS S L (k + 1) y := by
  have e : L.take (k + 1) = L.take k ++ [x] := by
    rw [List.take_add_one, hx]; rfl
  unfold updC preS
  rw [e]
  by_cases hy : y = x.1
  · subst hy; simp [hc]
  · simp [hy]
theorem preS_all {S : Int → Option Cur} {L : List XE} (h : Lists S L) (y : Int) : preS S L L.length y = S y := by
  unfold preS
  rw [List.take_length]
  split
  · rfl
  · rename_i hn
    cases hs : S y with
    | none => rfl
    | some c => exact absurd ((h.has y).1 (by rw [hs]; rfl)) hn
/-- What lies between the rounds. -/
def FkI (N2 M2 : Nat) (last : Int) (S : Int → Option Cur) (L : List XE) (k : Nat) (D : Nat → Prop) (W : World) : Prop := D = (fun g => g = N2 ∨ g = M2) ∧ PT W N2 M2 k k last (preS S L k)
theorem fkI_loc (N2 M2 B : Nat) (last : Int) (S : Int → Option Cur) (L : List XE) : LocB B (FkI N2 M2 last S L) := by
  rintro k D W W' ⟨rfl, h1⟩ hc
  exact ⟨rfl, h1.keep hc (fun h => h.1 (.inl rfl)) (fun h => h.1 (.inr rfl))⟩
set_option maxRecDepth 100000 in
set_option maxHeartbeats 8000000 in
theorem fork_any {w : World} {N M m n : Nat} {last : Int} {S : Int → Option Cur} (h : PT w N M m n last S) {L : List XE} (hLS : Lists S L) (hn : n ≤ 1000) (hwf : ∀ x ∈ L, (Lit.int .i64 x.1).wf = true) :
    Calls Try.prog 20 #[.pointer (some ⟨N, 0, none⟩)] w fun e w' => ∃ N2 M2 m2, e = .returned (.pointer (some ⟨N2, 0, none⟩)) ∧ PT w' N2 M2 m2 n last S ∧ m2 ≤ n ∧ w.heap.size ≤ N2 ∧ w.heap.size ≤ M2 ∧ Below w.heap.size w w' := by
  have hlen := lists_len hLS h.2
  obtain ⟨V, hV⟩ : ∃ V, V = w.alloc (.cells #[.pointer (some ⟨N, 0, none⟩)] 23) := ⟨_, rfl⟩
  have hsV : V.heap.size = w.heap.size + 1 := by rw [hV]; simp
  have bV : Below w.heap.size w V := by rw [hV]; exact bel_alloc (Below.refl _ _) _
  have hv0 : Boxed V w.heap.size 23 (.pointer (some ⟨N, 0, none⟩)) := by rw [hV]; exact Boxed.new w 23 _
  have HPT := Lib.hid (h.later bV)
  have HV0 := Lib.hid hv0
  have BV := Lib.hid bV
  have HSV := Lib.hid hsV
  have HLS := Lib.hid hLS
  have HWF := Lib.hid hwf
  have HLEN := Lib.hid hlen
  have HLT := Lib.hid h.lt
  have NW := Lib.hid (new_any V)
  clear h hv0 bV hsV hLS hwf hlen
  subst hV
  refine (callsIn_wide (n := 4)).1 ?_
  refine callsIn_of_wp_marks Try.func20 rfl trivial ?_ rfl
  simp only [Try.ntmps20, List.size_toArray, List.length_cons, List.length_nil, Nat.reduceAdd, Nat.reduceSub, Array.replicate_succ, Array.replicate_zero, List.push_toArray, List.append_toArray, List.nil_append, List.cons_append]
  have c0 := HV0.out.cell
  gi_wp2_with fail
  refine ⟨trivial, (callsIn_wide.2 NW.out).mono ?_⟩
  rintro e W1 ⟨N2, M2, rfl, p1, hN2, hM2, b1⟩
  obtain ⟨X, hX⟩ : ∃ X, X = W1.alloc (.cells #[.pointer (some ⟨N2, 0, none⟩)] 23) := ⟨_, rfl⟩
  have bX : Below w.heap.size w X := by rw [hX]; exact bel_alloc (bel_trans BV.out b1) _
  have hsX : X.heap.size = W1.heap.size + 1 := by rw [hX]; simp
  have x0 : Boxed X w.heap.size 23 (.pointer (some ⟨N, 0, none⟩)) := by rw [hX]; exact boxed_later (boxed_later HV0.out b1) (alb _ _)
  have x3 : Boxed X W1.heap.size 23 (.pointer (some ⟨N2, 0, none⟩)) := by rw [hX]; exact Boxed.new W1 23 _
  have xp : PT X N M m n last S := by rw [hX]; exact (HPT.out.later b1).later (alb _ _)
  have xq : PT X N2 M2 0 0 0 (fun _ => none) := by rw [hX]; exact p1.later (alb _ _)
  have hsv := HSV.out
  rw [hsv] at hN2 hM2
  have hq := p1.lt
  have hne := p1.ne
  have XS : Hid (X.heap.size = W1.heap.size + 1 ∧ w.heap.size + 1 ≤ N2 ∧ w.heap.size + 1 ≤ M2 ∧ N2 < W1.heap.size ∧ M2 < W1.heap.size ∧ w.heap.size < W1.heap.size) := Lib.hid ⟨hsX, hN2, hM2, hq.1, hq.2, by omega⟩
  have BX := Lib.hid bX
  have X0 := Lib.hid x0
  have X3 := Lib.hid x3
  have XP := Lib.hid xp
  have XQ := Lib.hid xq
  have d0 := x0.cell
  have d3 := x3.cell
  have d1 := xp.c1
  have d2 := xq.c1
  have f2 := xq.f1
  clear p1 b1 hN2 hM2 x0 x3 xp xq bX hsX hsv hq hne c0
  gi_wp2_with fail
  rw [← hX]
  generalize hB3 : W1.heap.size = b3 at *
  clear hX NW HV0 BV hB3
  refine wpIn_calm (wpIn_wide.2 ?_)
  go_region_law (fail)
  all_goals refine calm_normal ?_
  all_goals
    have xs := XS.out
    obtain ⟨T, hT⟩ : ∃ T, T = (X.setCell ⟨N2, 0 + 1, none⟩ (.int .i64 last)).drew := ⟨_, rfl⟩
    simp only [Nat.zero_add] at hT
    have cT : Chg (fun g => g = N2) X T := by rw [hT]; exact (Chg.set (D := fun g => g = N2) X _ rfl).trans (Chg.of_below (D := fun _ => False) (drew_bel _)) (fun g hg => hg.elim)
    have t0 := boxed_chg X0.out cT (by omega)
    have t3 := boxed_chg X3.out cT (by omega)
    have tp := XP.out.keep cT (by have := HLT.out; omega) (by have := HLT.out; omega)
    have tq : PT T N2 M2 0 0 last (preS S L 0) := by
      rw [hT]; exact ((XQ.out.count last).congr (fun k => (preS_zero S L k).symm)).drew
    have bT : Below w.heap.size w T := BX.out.trans (cT.below (fun g hg => by omega) BX.out.size)
    have hsT : T.heap.size = b3 + 1 := by rw [hT]; simpa using xs.1
    have AP := Lib.hid (all_post tp HLS.out (by omega) HWF.out)
    have T0 := Lib.hid t0
    have T3 := Lib.hid t3
    have TP := Lib.hid tp
    have TQ := Lib.hid tq
    have BT := Lib.hid bT
    have HST := Lib.hid hsT
    have d0 := t0.cell
    clear t0 t3 tp tq bT hsT cT xs d1 d2 d3 f2 X0 X3 XP XQ BX
    rw [← hT]
    clear hT
    gi_wp2_with fail
    refine ⟨trivial, (callsIn_wide.2 AP.out).mono ?_⟩
    rintro e w6 ⟨lb6, F6, R6, rfl, hb6, hs6, hr6, hrb6, hf6⟩
    have B6 := Lib.hid hb6
    have S6 := Lib.hid hs6
    have HR6 := Lib.hid hr6
    have HRB6 := Lib.hid hrb6
    have HF6 := Lib.hid hf6
    clear hb6 hs6 hr6 hrb6 hf6 d0
    gi_wp2
    have q0 := Lib.hid (boxed_later T0.out B6.out)
    have q3 := Lib.hid (boxed_later T3.out B6.out)
    have QP := Lib.hid (TP.out.later B6.out)
    have hs6 := B6.out.size
    rw [HST.out] at hs6
    have HS6 := Lib.hid hs6
    clear hs6
    refine range_R (gf := 41) (lb := lb6) (encs := enc3) (xs := L) rfl (enters_of Try.func41 (by kernel_rfl) rfl) S6.out HR6.out HRB6.out (fun g hg => (HF6.out g hg).2) (fun _ => rfl) (FkI N2 M2 last S L) (fun _ _ _ _ => False) (fkI_loc _ _ _ _ _ _) (fun c k D W W' h _ => h)
      (fun g => g = N2 ∨ g = M2) (fun g hg => ?_) ⟨rfl, TQ.out.later B6.out⟩
      (fun x U => { tmps := #[.pointer (some ⟨N, 0, none⟩), .pointer (some ⟨w.heap.size, 0, none⟩), .pointer none, .pointer (some ⟨b3, 0, none⟩), .int .i64 x.1, .pointer (some ⟨N, 0, none⟩), .bool false, .pointer (some ⟨N2, 0, none⟩), .pointer (some ⟨N2, 0, none⟩), .pointer (some ⟨N, 0, none⟩), .pointer (some ⟨N, 0, none⟩), .pointer (some ⟨N, 1, none⟩), .int .i64 last, .pointer (some ⟨N2, 0, none⟩), .pointer (some ⟨N2, 1, none⟩), .pointer (some ⟨N, 0, none⟩), .func (.func 41) #[] lb6, .int .i64 x.1, .agg #[.string x.2.1, .string x.2.2], undef, undef, undef, undef, undef, undef, undef, undef, undef, undef, undef, undef], defers := [] }) (fun x U => U) (fun x U => Below.refl _ _) ?_ ?_ ?_ ?_
    · have h5 := XS.out
      have h6 := HS6.out
      have h7 := HST.out
      refine ⟨fun hf => ?_, by omega⟩
      have := (HF6.out g hf).1
      omega
    · intro m l x U K hK
      gi_wp2
      exact hK
    · rintro m l k p D U V o hx hl hlU rfl hinD hlD hgr hch ⟨rfl, hI⟩
      obtain ⟨eb, hS⟩ := HLS.out.val p (List.mem_of_getElem? hx)
      have hwf := HWF.out p (List.mem_of_getElem? hx)
      have hkl : k < L.length := (List.getElem?_eq_some_iff.1 hx).1
      have hnew := preS_new HLS.out hx
      have hnext := preS_next HLS.out hx hS
      have hln := HLEN.out
      obtain ⟨x0, x1, x2⟩ := p
      try simp only at hS hwf hnew hnext
      obtain ⟨Z, hZ⟩ : ∃ Z, Z = U.putObj l o := ⟨_, rfl⟩
      try simp only at hch hI
      rw [← hZ] at hch hI
      have hxs := XS.out
      have z0 := (boxed_chg q0.out hch (by omega)).cell
      have z3 := (boxed_chg q3.out hch (by omega)).cell
      have zp := QP.out.keep hch (by have := HLT.out; omega) (by have := HLT.out; omega)
      have zl : (Instr.lookup 56 (.map (some M)) (.int .i64 x0) false).run Try.prog Z.drew = .ok (.agg #[.string x1, .string x2, .bool eb]) Z.drew := by
        have := zp.drew.2.look1 x0 hwf
        rw [hS] at this
        exact this
      obtain ⟨w7, hrun, p7, c7⟩ := hI.drew.store x0 hwf x1 x2 eb (by omega)
      have zl7 : (Instr.lookup 56 (.map (some M)) (.int .i64 x0) false).run Try.prog w7 = .ok (.agg #[.string x1, .string x2, .bool eb]) w7 := by
        have := (zp.drew.keep c7 (by have := HLT.out; omega) (by have := HLT.out; omega)).2.look1 x0 hwf
        rw [hS] at this
        exact this
      have y0 := (boxed_chg (boxed_later (boxed_chg q0.out hch (by omega)) (drew_bel Z)) c7 (by omega)).cell
      have y3 := (boxed_chg (boxed_later (boxed_chg q3.out hch (by omega)) (drew_bel Z)) c7 (by omega)).cell
      have yp := zp.drew.keep c7 (by have := HLT.out; omega) (by have := HLT.out; omega)
      rw [hnew] at p7
      have P7 : Hid (PT w7 N2 M2 (k + 1) (k + 1) last (preS S L (k + 1))) := Lib.hid (p7.congr hnext)
      have C7 : Hid (Chg (fun g => g = N2 ∨ g = M2) Z w7) := Lib.hid ((Chg.of_below (drew_bel Z)).trans (c7.more (G := fun g => g = N2 ∨ g = M2) (fun g hg => .inl (.inr hg))) (fun g hg => .inl hg))
      have HS0 : Hid ((fun V : World => V.cell? ⟨b3, 0, none⟩ = some (.pointer (some ⟨N2, 0, none⟩)) ∧ V.cell? ⟨w.heap.size, 0, none⟩ = some (.pointer (some ⟨N, 0, none⟩)) ∧ V.cell? ⟨N2, 0, none⟩ = some (.map (some M2)) ∧ V.cell? ⟨N, 0, none⟩ = some (.map (some M)) ∧ (Instr.lookup 56 (.map (some M)) (.int .i64 x0) false).run Try.prog V = .ok (.agg #[.string x1, .string x2, .bool eb]) V) Z.drew) := Lib.hid ⟨z3, z0, hI.c0, zp.c0, zl⟩
      have HS7 : Hid ((fun V : World => V.cell? ⟨b3, 0, none⟩ = some (.pointer (some ⟨N2, 0, none⟩)) ∧ V.cell? ⟨w.heap.size, 0, none⟩ = some (.pointer (some ⟨N, 0, none⟩)) ∧ V.cell? ⟨N2, 0, none⟩ = some (.map (some M2)) ∧ V.cell? ⟨N, 0, none⟩ = some (.map (some M)) ∧ (Instr.lookup 56 (.map (some M)) (.int .i64 x0) false).run Try.prog V = .ok (.agg #[.string x1, .string x2, .bool eb]) V) w7) := Lib.hid ⟨y3, y0, P7.out.c0, yp.c0, zl7⟩
      have HRUN := Lib.hid hrun
      clear hx hch hgr hinD hlD hI zp z0 z3 zl y0 y3 yp zl7 p7 c7 hnew hnext hS hkl hln hxs hrun hl hlU
      change (Code.block 1 _).wpIn _ _ _ _ _ (U.putObj l o)
      rw [← hZ]
      clear hZ
      gi_wp2_with fail
      refine region_round_held (S := (fun V : World => V.cell? ⟨b3, 0, none⟩ = some (.pointer (some ⟨N2, 0, none⟩)) ∧ V.cell? ⟨w.heap.size, 0, none⟩ = some (.pointer (some ⟨N, 0, none⟩)) ∧ V.cell? ⟨N2, 0, none⟩ = some (.map (some M2)) ∧ V.cell? ⟨N, 0, none⟩ = some (.map (some M)) ∧ (Instr.lookup 56 (.map (some M)) (.int .i64 x0) false).run Try.prog V = .ok (.agg #[.string x1, .string x2, .bool eb]) V)) (by kernel_rfl) (fun o ho c => ?_) ?_ (fun hHeld => ?_)
      · simp only [List.mem_toArray, List.mem_cons, List.not_mem_nil, or_false] at ho; rcases ho with rfl | rfl | rfl | rfl | rfl | rfl | rfl | rfl | rfl | rfl | rfl | rfl <;> (intro h; cases h)
      · exact HS0.out
      have HHeld := Lib.hid hHeld; clear hHeld
      refine wpAnyH_take (i := 0) (oi := { dst := some 19, op := Op.load 23 (Operand.tmp 3), type := 23, pos := "cursor.go:132", after := #[], guard := none }) (v := Value.pointer (some ⟨N2, 0, none⟩)) rfl (by kernel_rfl) (by kernel_rfl) (by kernel_rfl) (fun _ _ _ h => h) (Or.inl ⟨by rfl, ?_⟩) HHeld.out ?_
      · intro V hV; have hc0 := hV.1; clear hV; go_simp
      try simp only [Act.put, List.setIfInBounds_toArray, List.set_cons_zero, List.set_cons_succ]
      refine wpAnyH_take (i := 1) (oi := { dst := some 20, op := Op.nilCheck (Operand.tmp 19), type := 0, pos := "cursor.go:132", after := #[{ on := 0, ground := Ground.data }], guard := none }) (v := ?_) rfl (by kernel_rfl) (by kernel_rfl) (by kernel_rfl) (fun _ _ _ h => h) (Or.inl ⟨by rfl, ?_⟩) HHeld.out ?_
      rotate_left
      · intro w hSw; clear hSw; go_simp; try with_reducible rfl
      try simp only [Act.put, List.setIfInBounds_toArray, List.set_cons_zero, List.set_cons_succ]
      refine wpAnyH_take (i := 2) (oi := { dst := some 21, op := Op.fieldAddr 58 (Operand.tmp 20) 0, type := 0, pos := "cursor.go:132", after := #[{ on := 1, ground := Ground.data }], guard := none }) (v := ?_) rfl (by kernel_rfl) (by kernel_rfl) (by kernel_rfl) (fun _ _ _ h => h) (Or.inl ⟨by rfl, ?_⟩) HHeld.out ?_
      rotate_left
      · intro w hSw; clear hSw; go_simp; try with_reducible rfl
      try simp only [Act.put, List.setIfInBounds_toArray, List.set_cons_zero, List.set_cons_succ]
      refine wpAnyH_take (i := 3) (oi := { dst := some 22, op := Op.load 56 (Operand.tmp 21), type := 56, pos := "cursor.go:132", after := #[{ on := 2, ground := Ground.data }], guard := none }) (v := Value.map (some M2)) rfl (by kernel_rfl) (by kernel_rfl) (by kernel_rfl) (fun _ _ _ h => h) (Or.inl ⟨by rfl, ?_⟩) HHeld.out ?_
      · intro V hV; have hc0 := hV.2.2.1; clear hV; go_simp
      try simp only [Act.put, List.setIfInBounds_toArray, List.set_cons_zero, List.set_cons_succ]
      refine wpAnyH_take (i := 4) (oi := { dst := some 23, op := Op.move (Operand.tmp 4), type := 3, pos := "cursor.go:132", after := #[], guard := none }) (v := ?_) rfl (by kernel_rfl) (by kernel_rfl) (by kernel_rfl) (fun _ _ _ h => h) (Or.inl ⟨by rfl, ?_⟩) HHeld.out ?_
      rotate_left
      · intro w hSw; clear hSw; go_simp; try with_reducible rfl
      try simp only [Act.put, List.setIfInBounds_toArray, List.set_cons_zero, List.set_cons_succ]
      refine wpAnyH_take (i := 5) (oi := { dst := some 24, op := Op.load 23 (Operand.tmp 1), type := 23, pos := "cursor.go:132", after := #[], guard := none }) (v := Value.pointer (some ⟨N, 0, none⟩)) rfl (by kernel_rfl) (by kernel_rfl) (by kernel_rfl) (fun _ _ _ h => h) (Or.inl ⟨by rfl, ?_⟩) HHeld.out ?_
      · intro V hV; have hc0 := hV.2.1; clear hV; go_simp
      try simp only [Act.put, List.setIfInBounds_toArray, List.set_cons_zero, List.set_cons_succ]
      refine wpAnyH_take (i := 6) (oi := { dst := some 25, op := Op.nilCheck (Operand.tmp 24), type := 0, pos := "cursor.go:132", after := #[{ on := 5, ground := Ground.data }], guard := none }) (v := ?_) rfl (by kernel_rfl) (by kernel_rfl) (by kernel_rfl) (fun _ _ _ h => h) (Or.inl ⟨by rfl, ?_⟩) HHeld.out ?_
      rotate_left
      · intro w hSw; clear hSw; go_simp; try with_reducible rfl
      try simp only [Act.put, List.setIfInBounds_toArray, List.set_cons_zero, List.set_cons_succ]
      refine wpAnyH_take (i := 7) (oi := { dst := some 26, op := Op.fieldAddr 58 (Operand.tmp 25) 0, type := 0, pos := "cursor.go:132", after := #[{ on := 6, ground := Ground.data }], guard := none }) (v := ?_) rfl (by kernel_rfl) (by kernel_rfl) (by kernel_rfl) (fun _ _ _ h => h) (Or.inl ⟨by rfl, ?_⟩) HHeld.out ?_
      rotate_left
      · intro w hSw; clear hSw; go_simp; try with_reducible rfl
      try simp only [Act.put, List.setIfInBounds_toArray, List.set_cons_zero, List.set_cons_succ]
      refine wpAnyH_take (i := 8) (oi := { dst := some 27, op := Op.load 56 (Operand.tmp 26), type := 56, pos := "cursor.go:132", after := #[{ on := 7, ground := Ground.data }], guard := none }) (v := Value.map (some M)) rfl (by kernel_rfl) (by kernel_rfl) (by kernel_rfl) (fun _ _ _ h => h) (Or.inl ⟨by rfl, ?_⟩) HHeld.out ?_
      · intro V hV; have hc0 := hV.2.2.2.1; clear hV; go_simp
      try simp only [Act.put, List.setIfInBounds_toArray, List.set_cons_zero, List.set_cons_succ]
      refine wpAnyH_take (i := 9) (oi := { dst := some 28, op := Op.move (Operand.tmp 4), type := 3, pos := "cursor.go:132", after := #[], guard := none }) (v := ?_) rfl (by kernel_rfl) (by kernel_rfl) (by kernel_rfl) (fun _ _ _ h => h) (Or.inl ⟨by rfl, ?_⟩) HHeld.out ?_
      rotate_left
      · intro w hSw; clear hSw; go_simp; try with_reducible rfl
      try simp only [Act.put, List.setIfInBounds_toArray, List.set_cons_zero, List.set_cons_succ]
      refine wpAnyH_take (i := 10) (oi := { dst := some 29, op := Op.lookup 56 (Operand.tmp 27) (Operand.tmp 28) false, type := 73, pos := "cursor.go:132", after := #[{ on := 8, ground := Ground.data }, { on := 9, ground := Ground.data }], guard := none }) (v := Value.agg #[.string x1, .string x2, .bool eb]) rfl (by kernel_rfl) (by kernel_rfl) (by kernel_rfl) (fun _ _ _ h => h) (Or.inl ⟨by rfl, ?_⟩) HHeld.out ?_
      · intro V hV; have hc0 := hV.2.2.2.2; clear hV; go_simp
      try simp only [Act.put, List.setIfInBounds_toArray, List.set_cons_zero, List.set_cons_succ]
      refine wpAnyH_ready (rs := [11]) (by kernel_rfl) (by simp) ?_
      refine AllReadyH.cons (o := { dst := none, op := Op.mapUpdate 56 (Operand.tmp 22) (Operand.tmp 23) (Operand.tmp 29), type := 0, pos := "cursor.go:132", after := #[{ on := 3, ground := Ground.data }, { on := 4, ground := Ground.data }, { on := 10, ground := Ground.data }, { on := 0, ground := Ground.phase }, { on := 1, ground := Ground.phase }, { on := 2, ground := Ground.phase }, { on := 3, ground := Ground.phase }, { on := 4, ground := Ground.phase }, { on := 5, ground := Ground.phase }, { on := 6, ground := Ground.phase }, { on := 7, ground := Ground.phase }, { on := 8, ground := Ground.phase }, { on := 9, ground := Ground.phase }, { on := 10, ground := Ground.phase }], guard := none }) rfl (fun K hK => ?_) AllReadyH.nil
      have hrun := HRUN.out; go_simp
      refine hK.out _ _ ?_ (fun hHeld => ?_)
      · exact HS7.out
      clear HHeld; have HHeld := Lib.hid hHeld; clear hHeld
      clear hK K
      try simp only [Act.put, List.setIfInBounds_toArray, List.set_cons_zero, List.set_cons_succ]
      refine wpAnyH_done (by kernel_rfl) ?_ _
      refine calm_normal ?_
      gi_wp2
      exact ⟨_, Gr.refl _ _ _, C7.out, rfl, P7.out⟩
    · rintro B D U hB hD hgr hch ⟨rfl, hI⟩ hK
      have hxs := XS.out
      have q3u := (boxed_chg q3.out hch (by omega)).cell
      have PU := Lib.hid (hI.congr (preS_all HLS.out))
      have BU : Hid (Below w.heap.size w U) := Lib.hid ((bel_trans BT.out B6.out).trans (hch.below (fun g hg => by omega) (by have := HS6.out; omega)))
      have HKD := Lib.hid hK
      have HD' : Hid (N2 ≠ B ∧ M2 ≠ B ∧ w.heap.size ≤ B) := Lib.hid (by have := HS6.out; omega)
      have hsd := XS.out
      clear hgr hch hI hK hxs
      gi_wp2
      have cP : Chg (fun g => g = B) U (U.putObj B (.deferred none)) := Chg.put (D := fun g => g = B) _ _ rfl
      exact ⟨by simp, .inl ⟨_, _, rfl, run_takeDeferred HKD.out, .pointer (some ⟨N2, 0, none⟩), by simp [results, Try.results20, go_sem], N2, rfl, M2, L.length, by
        have := PU.out.keep cP (fun e => HD'.out.1 e) (fun e => HD'.out.2.1 e)
        rw [HLEN.out] at this ⊢
        exact this, by have := HLEN.out; omega, by omega, by omega, BU.out.trans (cP.below (fun g (hg : g = B) => by have := HD'.out; omega) BU.out.size)⟩⟩
    · rintro B c k D W _ _ _ _ _ h _
      exact h.elim
end Go.Proofs.Ytdbcaiggliiacaa
