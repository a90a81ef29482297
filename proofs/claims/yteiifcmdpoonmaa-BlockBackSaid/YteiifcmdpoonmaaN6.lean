/- Unpack of the text that live has. -/
import Derived.Test.YteiifcmdpoonmaaN5
import Derived.Test.YteiifcmdpoonmaaU2
namespace Go.Proofs.Yteiifcmdpoonmaa
set_option linter.unusedSimpArgs false
open Go.RowKit Go.Maps Go.Shelf
set_option linter.unusedVariables false
theorem step_put_row (w : World) {ops : Array Oper} {o : Oper} {a : Act} {K : Act → World → Prop} {Q : Exit → Act → World → Prop} {E : Prop} (hg : o.guard = none) (s x : Operand)
    (hop : o.op = Op.call { callee := Callee.builtin Builtin.append, args := #[s, x], argTypes := #[22, 22] }) {base : Nat} (A0 : Option Addr) (n0 c0 : Nat) (l0 : List TT) (A : Option Addr) (m c : Nat) (l : List TT) (hs : a.eval s = .slice A0 n0 c0) (hx : a.eval x = .slice A m c)
    (h : Row w base A0 l0 c0) (hn0 : l0.length = n0) (hn : n0 ≤ 1000000) (hb : base ≤ w.heap.size) (hl : l.length = m) (hm : m ≤ 1000000) (hr : RdT w A l)
    (hK : ∀ A' c' w', Row w' base A' (l0 ++ l) c' → w.grownBy w' (fpr A0 c0) → (fpr A' c' = none ∨ fpr A' c' = fpr A0 c0 ∨ fpr A' c' = some w.heap.size) → K (a.put o.dst (.slice A' (n0 + m) c')) w') :
    if Region.wanted o (yielded ops a.tmps) = true then Oper.wp Try.prog o a w K Q else E := by
  have hw : Region.wanted o (yielded ops a.tmps) = true := by simp [Region.wanted, hg]
  rw [if_pos hw]
  subst hn0 hl
  obtain ⟨A', c', w', hrun, r1, r2, r3⟩ := put_row h hn hb A c l hm hr o.type
  unfold Oper.wp
  simp [execOp, hop, resolve, invoke, builtin, hs, hx, hrun, Result.andThen]
  exact hK A' c' w' r1 r2 r3
theorem lit_rdt (w : World) (x : TT) : RdT (w.alloc (.cells #[.string x.1, .string x.2] 30)) (some ⟨w.heap.size, 0, none⟩) [x] := by
  refine .inr ⟨w.heap.size, 0, rfl, by simp, fun j u hj => ?_⟩
  have := World.news_of_block (w := w.alloc (.cells #[.string x.1, .string x.2] 30)) (B := w.heap.size) (cs := #[.string x.1, .string x.2]) (t := 30) (fr := (0, 0)) (heap_alloc_new w _) j u (by simpa [cls] using hj)
  have hadd : (⟨w.heap.size, 0, none⟩ : Addr).add j = ⟨w.heap.size, 0 + j, none⟩ := by unfold Addr.add; split <;> simp_all
  rw [hadd] at this; exact this
theorem Row.chg {w w' : World} {base : Nat} {A : Option Addr} {l : List TT} {c : Nat} (h : Row w (base + 1) A l c) (hc : Chg (fun x => x = base) w w') : Row w' (base + 1) A l c := by
  rcases h with h | ⟨h0, h1, h2⟩
  · exact .inl h
  · rcases h2 with h2 | ⟨g, cap, cur, hv, hb, hg, rest⟩
    · exact .inr ⟨h0, h1, .inl h2⟩
    · exact .inr ⟨h0, h1, .inr ⟨g, cap, cur, hv, hb, keep_chg hc hg (fun e => by omega), rest⟩⟩
theorem keep_row {w w' : World} {row : Option Nat} {x : Nat} {o : Obj} (hg : w.grownBy w' row) (ho : w.heap[x]? = some o) (hx : row ≠ some x) : w'.heap[x]? = some o :=
  (hg.block x (Array.getElem?_eq_some_iff.1 ho).1 (fun e => hx e.symm)).trans ho
theorem Below.of_row {w w' : World} {base lo : Nat} {A : Option Addr} {l : List TT} {c : Nat} {W : World} (hg : w.grownBy w' (fpr A c)) (h : Row W base A l c) (hlo : lo ≤ base := by omega) (h2 : base ≤ w.heap.size := by omega) : Below lo w w' :=
  ⟨hg.os, hg.tape, hg.output, hg.size, fun i hi => hg.block i (Nat.lt_of_lt_of_le hi (Nat.le_trans hlo h2)) (fun e => by have := (h.fp_lt e.symm).1; omega)⟩
theorem rdr_lt {w : World} {r : Nat} {s : ByteArray} (h : Rdr w r s) : r < w.heap.size := (Array.getElem?_eq_some_iff.1 h).1
theorem un_bel {w wr w2 w3 : World} {A : Option Addr} {l : List TT} {c : Nat} {o : Obj} (hB : Below w.heap.size w wr) (hc : Chg (fun x => x = w.heap.size + 1 + 1) wr.drew w2) (hr : Row w2 (w.heap.size + 1 + 1 + 1) A l c) (hg : (w2.alloc o).grownBy w3 (fpr A c)) (hl : w.heap.size + 1 + 1 < wr.heap.size) : Below w.heap.size w w3 := by
  have h1 : Below w.heap.size w w2 := (hB.trans (drew_bel wr |>.mono (by omega))).trans (hc.below (fun g e => by omega) (show w.heap.size ≤ wr.heap.size by omega))
  have h2 := hc.size
  have h3 : wr.heap.size ≤ w2.heap.size := h2
  exact (h1.alloc (by omega) o).trans (Below.of_row hg hr (by omega) (by simp; omega))
theorem un_addr {w : World} {base c : Nat} {A : Option Addr} {x : TT} (h : Row w base A [x] c) : ∃ g, A = some ⟨g, 0, none⟩ := by
  rcases h with ⟨h, _⟩ | ⟨_, h⟩
  · cases h
  · obtain ⟨g, cap, hv, _⟩ := h.form (by simp)
    exact ⟨g, by injection hv⟩
theorem un_first {w : World} {base g c : Nat} {x : TT} (h : Row w base (some ⟨g, 0, none⟩) [x] c) : w.cell? ⟨g, 0, none⟩ = some (.string x.1) := by
  obtain ⟨b, off, e, _, f0, _⟩ := rdt_get h.rd (k := 0) (x := x) rfl
  cases e
  simpa using f0
/-- What lies between the rounds of Unpack: the entries' box, the error's, the reader, the entries. -/
def UnI (w : World) (l : List TT) (s : ByteArray) (wr : World) : Prop :=
  ∃ A c, wr.heap[w.heap.size]? = some (.cells #[.slice A l.length c] 22 (0, 0)) ∧ wr.heap[w.heap.size + 1]? = some (.cells #[.int .i64 0] 31 (0, 0)) ∧ Rdr wr (w.heap.size + 1 + 1) s ∧ Row wr (w.heap.size + 1 + 1 + 1) A l c ∧ Below w.heap.size w wr ∧ (l = [] → A = none ∧ c = 0)
theorem un_next {w w3 : World} {A A' : Option Addr} {c c' : Nat} {l : List TT} {x : TT} {s : ByteArray} (h1 : w3.heap[w.heap.size]? = some (.cells #[.slice A l.length c] 22 (0, 0))) (h2 : w3.heap[w.heap.size + 1]? = some (.cells #[.int .i64 0] 31 (0, 0))) (h3 : Rdr w3 (w.heap.size + 1 + 1) s) (h4 : Row w3 (w.heap.size + 1 + 1 + 1) A' (l ++ [x]) c') (h5 : Below w.heap.size w w3) :
    UnI w (l ++ [x]) s (w3.setCell ⟨w.heap.size, 0, none⟩ (.slice A' (l.length + 1) c')) := by
  have hc : Chg (fun x => x = w.heap.size) w3 (w3.setCell ⟨w.heap.size, 0, none⟩ (.slice A' (l.length + 1) c')) := Chg.set w3 _ rfl
  refine ⟨A', c', ?_, keep_chg hc h2 (by omega), keep_chg hc h3 (by omega), ?_, h5.trans (hc.below (lo := w.heap.size) (fun g e => by omega) h5.size), fun h => by simp at h⟩
  · simp [World.setCell, Array.getElem?_modify, h1]
  · rcases h4 with h | ⟨h0, h⟩
    · exact .inl h
    · exact .inr ⟨h0, own_set h (fun e => by have := (h.lt _ e).1; omega) _⟩
theorem un_end {w wr : World} {A : Option Addr} {c : Nat} {l : List TT} {n : Nat} (h1 : wr.heap[w.heap.size]? = some (.cells #[.slice A n c] 22 (0, 0))) (h2 : wr.heap[w.heap.size + 1]? = some (.cells #[.int .i64 0] 31 (0, 0))) (h4 : Row wr (w.heap.size + 1 + 1 + 1) A l c) (h5 : Below w.heap.size w wr) :
    ((wr.setCell ⟨w.heap.size, 0, none⟩ (.slice A n c)).setCell ⟨w.heap.size + 1, 0, none⟩ (.int .i64 0)).heap[w.heap.size]? = some (.cells #[.slice A n c] 22 (0, 0)) ∧ ((wr.setCell ⟨w.heap.size, 0, none⟩ (.slice A n c)).setCell ⟨w.heap.size + 1, 0, none⟩ (.int .i64 0)).heap[w.heap.size + 1]? = some (.cells #[.int .i64 0] 31 (0, 0)) ∧ RdT ((wr.setCell ⟨w.heap.size, 0, none⟩ (.slice A n c)).setCell ⟨w.heap.size + 1, 0, none⟩ (.int .i64 0)) A l ∧ Below w.heap.size w ((wr.setCell ⟨w.heap.size, 0, none⟩ (.slice A n c)).setCell ⟨w.heap.size + 1, 0, none⟩ (.int .i64 0)) := by
  have c1 : Chg (fun x => x = w.heap.size) wr (wr.setCell ⟨w.heap.size, 0, none⟩ (.slice A n c)) := Chg.set wr _ rfl
  have c2 : Chg (fun x => x = w.heap.size + 1) (wr.setCell ⟨w.heap.size, 0, none⟩ (.slice A n c)) ((wr.setCell ⟨w.heap.size, 0, none⟩ (.slice A n c)).setCell ⟨w.heap.size + 1, 0, none⟩ (.int .i64 0)) := Chg.set _ _ rfl
  have g1 : (wr.setCell ⟨w.heap.size, 0, none⟩ (.slice A n c)).heap[w.heap.size]? = some (.cells #[.slice A n c] 22 (0, 0)) := by
    simp [World.setCell, Array.getElem?_modify, h1]
  have g2 := keep_chg c1 h2 (by omega)
  refine ⟨keep_chg c2 g1 (by omega), ?_, ?_, (h5.trans (c1.below (lo := w.heap.size) (fun g e => by omega) h5.size)).trans (c2.below (lo := w.heap.size) (fun g e => by omega) (Nat.le_trans h5.size c1.size))⟩
  · generalize (wr.setCell ⟨w.heap.size, 0, none⟩ (.slice A n c)) = V at g2
    simp [World.setCell, Array.getElem?_modify, g2]
  · have r : Row ((wr.setCell ⟨w.heap.size, 0, none⟩ (.slice A n c)).setCell ⟨w.heap.size + 1, 0, none⟩ (.int .i64 0)) (w.heap.size + 1 + 1 + 1) A l c := by
      rcases h4 with h | ⟨h0, h⟩
      · exact .inl h
      · exact .inr ⟨h0, own_set (own_set h (fun e => by have := (h.lt _ e).1; omega) _) (fun e => by have := (h.lt _ e).1; omega) _⟩
    exact r.rd
def UnP (w : World) (e : Ending) (w' : World) : Prop := ∃ A c, e = .returned (.tuple #[.slice A 2 c, .int .i64 0]) ∧ RdT w' A lv ∧ Below w.heap.size w w'
set_option maxHeartbeats 4000000 in
theorem unpack_lv (w : World) : Calls Try.prog 11 #[.string ⟨#[2, 0, 2, 97, 98, 1, 49, 1, 1, 99, 1, 50]⟩] w (UnP w) := by
  have hmf : ∀ (fn : Fn) (first cap : Array Value) (w : World), (Instr.makeFunc fn first cap).run Try.prog w = .ok (.func fn first cap) w := fun _ _ _ _ => rfl
  have hV : Below w.heap.size w (((w.alloc (.cells #[.slice none 0 0] 22)).alloc (.cells #[.int .i64 0] 31)).alloc (.cells #[.string ⟨#[2, 0, 2, 97, 98, 1, 49, 1, 1, 99, 1, 50]⟩] 41)) := bel_alloc (bel_alloc (bel_alloc (Below.refl _ _) _) _) _
  have k1 : (((w.alloc (.cells #[.slice none 0 0] 22)).alloc (.cells #[.int .i64 0] 31)).alloc (.cells #[.string ⟨#[2, 0, 2, 97, 98, 1, 49, 1, 1, 99, 1, 50]⟩] 41)).heap[w.heap.size]? = some (.cells #[.slice none 0 0] 22 (0, 0)) :=
    keep_bel (bel_alloc (alb _ _) _) (heap_alloc_new w _)
  have k2 : (((w.alloc (.cells #[.slice none 0 0] 22)).alloc (.cells #[.int .i64 0] 31)).alloc (.cells #[.string ⟨#[2, 0, 2, 97, 98, 1, 49, 1, 1, 99, 1, 50]⟩] 41)).heap[w.heap.size + 1]? = some (.cells #[.int .i64 0] 31 (0, 0)) := by
    have := heap_alloc_new (w.alloc (.cells #[.slice none 0 0] 22)) (.cells #[.int .i64 0] 31)
    rw [World.size_alloc] at this
    exact keep_bel (alb _ _) this
  have k3 : Rdr (((w.alloc (.cells #[.slice none 0 0] 22)).alloc (.cells #[.int .i64 0] 31)).alloc (.cells #[.string ⟨#[2, 0, 2, 97, 98, 1, 49, 1, 1, 99, 1, 50]⟩] 41)) (w.heap.size + 1 + 1) ⟨#[2, 0, 2, 97, 98, 1, 49, 1, 1, 99, 1, 50]⟩ := by
    have := heap_alloc_new ((w.alloc (.cells #[.slice none 0 0] 22)).alloc (.cells #[.int .i64 0] 31)) (.cells #[.string ⟨#[2, 0, 2, 97, 98, 1, 49, 1, 1, 99, 1, 50]⟩] 41)
    rw [World.size_alloc, World.size_alloc] at this
    exact this
  have N0 := Lib.hid (num_ok _ _ _ (w.heap.size + 1 + 1) _ k3 t0)
  have U0 : Hid (∀ W, Go1 (w.heap.size + 1 + 1) ⟨#[0, 2, 97, 98, 1, 49, 1, 1, 99, 1, 50]⟩ (((w.alloc (.cells #[.slice none 0 0] 22)).alloc (.cells #[.int .i64 0] 31)).alloc (.cells #[.string ⟨#[2, 0, 2, 97, 98, 1, 49, 1, 1, 99, 1, 50]⟩] 41)) W → UnI w [] ⟨#[0, 2, 97, 98, 1, 49, 1, 1, 99, 1, 50]⟩ W) := Lib.hid (fun W hW => ⟨none, 0, keep_chg hW.chg k1 (fun e => by omega), keep_chg hW.chg k2 (fun e => by omega), hW.rdr, .inl ⟨rfl, rfl⟩, hV.trans (hW.chg.below (fun g e => by omega) (by simp; omega)), fun _ => ⟨rfl, rfl⟩⟩)
  clear hV k1 k2 k3
  go_enter_defers Try.func11, Try.ntmps11
  go_wp2_with (first
    | (go_at_call 19; ((with_reducible refine N0.out.mono ?_); rintro e w1 ⟨rfl, h1⟩; have U1 := Lib.hid (U0.out _ h1); clear h1))
    | fail)
  go_loopw [5] (fun iv wr => (iv = .int .i64 2 ∧ UnI w [] ⟨#[0, 2, 97, 98, 1, 49, 1, 1, 99, 1, 50]⟩ wr) ∨ (iv = .int .i64 1 ∧ UnI w [(kab, v1)] ⟨#[1, 1, 99, 1, 50]⟩ wr) ∨ (iv = .int .i64 0 ∧ UnI w lv ⟨#[]⟩ wr)) (fun i _ => (intOf i).toNat)
  case atStart => exact .inl ⟨rfl, U1.out⟩
  case round =>
    rcases hrel with ⟨rfl, hu⟩ | ⟨rfl, hu⟩ | ⟨rfl, hu⟩
    · obtain ⟨A, c, e1, e2, hr, hrow, hb, hA⟩ := hu
      obtain ⟨rfl, rfl⟩ := hA rfl
      have x1 : wr.cell? ⟨w.heap.size, 0, none⟩ = some (.slice none 0 0) := by simp [World.cell?, e1]
      have hlt : w.heap.size + 1 + 1 < wr.heap.size := rdr_lt hr
      have E1 := Lib.hid e1
      have E2 := Lib.hid e2
      have HR := Lib.hid hr
      have RW := Lib.hid hrow
      have HB := Lib.hid hb
      have LT := Lib.hid hlt
      have C := Lib.hid (entry_1 (w.heap.size + 1 + 1) wr.drew hr)
      clear e1 e2 hr hrow hb hA hlt
      go_wp2_with fail
      refine wp_region_any (by kernel_rfl) ?_
      change wpAny _ _ _ _ _ _ _ (World.drew _)
      refine wpAny_ready (rs := [0, 1, 2]) (by kernel_rfl) (by simp) ?_
      refine AllReady.cons (o := { dst := some 16, op := Op.load 22 (Operand.tmp 2), type := 22, pos := "pack.go:42", after := #[], guard := none }) rfl (fun K hK => ?_) (AllReady.cons (o := { dst := some 17, op := Op.move (Operand.tmp 4), type := 39, pos := "pack.go:42", after := #[], guard := none }) rfl (fun K hK => ?_) (AllReady.cons (o := { dst := some 18, op := Op.load 22 (Operand.tmp 2), type := 22, pos := "pack.go:42", after := #[], guard := none }) rfl (fun K hK => ?_) AllReady.nil))
      · go_simp
        refine hK _ _ ?_
        clear hK K
        refine wpAny_ready (rs := [1, 2]) (by kernel_rfl) (by simp) ?_
        refine AllReady.cons (o := { dst := some 17, op := Op.move (Operand.tmp 4), type := 39, pos := "pack.go:42", after := #[], guard := none }) rfl (fun K hK => ?_) (AllReady.cons (o := { dst := some 18, op := Op.load 22 (Operand.tmp 2), type := 22, pos := "pack.go:42", after := #[], guard := none }) rfl (fun K hK => ?_) AllReady.nil)
        · go_simp
          refine hK _ _ ?_
          clear hK K
          refine wpAny_ready (rs := [2]) (by kernel_rfl) (by simp) ?_
          refine AllReady.cons (o := { dst := some 18, op := Op.load 22 (Operand.tmp 2), type := 22, pos := "pack.go:42", after := #[], guard := none }) rfl (fun K hK => ?_) AllReady.nil
          go_simp
          refine hK _ _ ?_
          clear hK K
          refine wpAny_ready (rs := [3]) (by kernel_rfl) (by simp) ?_
          refine AllReady.cons (o := { dst := some 19, op := Op.call { callee := Callee.value (Operand.func 20), args := #[Operand.tmp 17, Operand.tmp 18], argTypes := #[39, 22] }, type := 30, pos := "pack.go:42", after := #[{ on := 1, ground := Ground.data }, { on := 2, ground := Ground.data }], guard := none }) rfl (fun K hK => ?_) AllReady.nil
          go_simp
          refine C.out.mono ?_
          rintro e w2 ⟨rfl, h2⟩
          have H2 := Lib.hid h2
          have F1 := Lib.hid (keep_chg (E := fun x => x = w.heap.size + 1 + 1) h2.chg (show wr.drew.heap[w.heap.size]? = _ from E1.out) (fun e => by omega))
          have F2 := Lib.hid (keep_chg (E := fun x => x = w.heap.size + 1 + 1) h2.chg (show wr.drew.heap[w.heap.size + 1]? = _ from E2.out) (fun e => by omega))
          have R2 := Lib.hid (Row.chg (RW.out.later (drew_bel wr)) h2.chg)
          have SZ : Hid (wr.heap.size ≤ w2.heap.size) := Lib.hid h2.chg.size
          have x2 : w2.cell? ⟨w.heap.size, 0, none⟩ = some (.slice none 0 0) := by simp [World.cell?, F1.out]
          have x3 : (w2.alloc (.cells #[.string (kab, v1).1, .string (kab, v1).2] 30)).cell? ⟨w.heap.size, 0, none⟩ = some (.slice none 0 0) := bel_later (alb _ _) x2
          clear h2
          simp only
          refine hK _ _ ?_
          clear hK K
          refine wpAny_ready (rs := [4]) (by kernel_rfl) (by simp) ?_
          refine AllReady.cons (o := { dst := some 20, op := Op.buildSlice 22 1 #[(0, Operand.tmp 19)], type := 22, pos := "pack.go:42", after := #[{ on := 3, ground := Ground.data }], guard := none }) rfl (fun K hK => ?_) AllReady.nil
          go_simp
          refine hK _ _ ?_
          clear hK K
          refine wpAny_ready (rs := [5]) (by kernel_rfl) (by simp) ?_
          refine AllReady.cons (o := { dst := some 21, op := Op.call { callee := Callee.builtin Builtin.append, args := #[Operand.tmp 16, Operand.tmp 20], argTypes := #[22, 22] }, type := 22, pos := "pack.go:42", after := #[{ on := 0, ground := Ground.data }, { on := 4, ground := Ground.data }, { on := 3, ground := Ground.chain }], guard := none }) rfl (fun K hK => ?_) AllReady.nil
          refine step_put_row _ rfl (.tmp 16) (.tmp 20) rfl (base := w.heap.size + 1 + 1 + 1) none 0 0 [] (some ⟨w2.heap.size, 0, none⟩) 1 1 [(kab, v1)] (by simp [Act.eval, Act.put]) (by simp [Act.eval, Act.put]) (R2.out.later (alb _ _)) rfl (by omega) (by have h1 := LT.out; have h2 := SZ.out; simp; omega) rfl (by omega) (lit_rdt w2 (kab, v1)) ?_
          intro A' c' w3 r3 g3 o3
          have G1 := Lib.hid (keep_row g3 (keep_bel (alb w2 (.cells #[.string (kab, v1).1, .string (kab, v1).2] 30)) F1.out) (fun e => by have := (R2.out.fp_lt e).1; omega))
          have G2 := Lib.hid (keep_row g3 (keep_bel (alb w2 (.cells #[.string (kab, v1).1, .string (kab, v1).2] 30)) F2.out) (fun e => by have := (R2.out.fp_lt e).1; omega))
          have G3 : Hid (Rdr w3 (w.heap.size + 1 + 1) ⟨#[1, 1, 99, 1, 50]⟩) := Lib.hid (keep_row g3 (keep_bel (alb w2 (.cells #[.string (kab, v1).1, .string (kab, v1).2] 30)) H2.out.rdr) (fun e => by have := (R2.out.fp_lt e).1; omega))
          have R3 := Lib.hid r3
          have O3 := Lib.hid o3
          have B3 : Hid (Below w.heap.size w w3) := Lib.hid (un_bel HB.out H2.out.chg R2.out g3 LT.out)
          have y1 : w3.cell? ⟨w.heap.size, 0, none⟩ = some (.slice none 0 0) := by simp [World.cell?, G1.out]
          have y2 : w3.frozen? ⟨w.heap.size, 0, none⟩ = false := by simp [World.frozen?, G1.out]
          clear r3 g3 o3 x2 x3
          refine hK _ _ ?_
          clear hK K
          refine wpAny_ready (rs := [6]) (by kernel_rfl) (by simp) ?_
          refine AllReady.cons (o := { dst := none, op := Op.store 22 (Operand.tmp 2) (Operand.tmp 21), type := 0, pos := "pack.go:42", after := #[{ on := 5, ground := Ground.data }, { on := 5, ground := Ground.chain }, { on := 0, ground := Ground.phase }, { on := 1, ground := Ground.phase }, { on := 2, ground := Ground.phase }, { on := 3, ground := Ground.phase }, { on := 4, ground := Ground.phase }, { on := 5, ground := Ground.phase }], guard := none }) rfl (fun K hK => ?_) AllReady.nil
          go_simp
          refine hK _ _ ?_
          clear hK K
          refine wpAny_done (by kernel_rfl) ?_ _
          go_wp2
          refine ⟨.inr (.inl ⟨rfl, un_next G1.out G2.out G3.out R3.out B3.out⟩), by simp [intOf]⟩
        · go_simp
          refine hK _ _ ?_
          clear hK K
          refine wpAny_ready (rs := [1]) (by kernel_rfl) (by simp) ?_
          refine AllReady.cons (o := { dst := some 17, op := Op.move (Operand.tmp 4), type := 39, pos := "pack.go:42", after := #[], guard := none }) rfl (fun K hK => ?_) AllReady.nil
          go_simp
          refine hK _ _ ?_
          clear hK K
          refine wpAny_ready (rs := [3]) (by kernel_rfl) (by simp) ?_
          refine AllReady.cons (o := { dst := some 19, op := Op.call { callee := Callee.value (Operand.func 20), args := #[Operand.tmp 17, Operand.tmp 18], argTypes := #[39, 22] }, type := 30, pos := "pack.go:42", after := #[{ on := 1, ground := Ground.data }, { on := 2, ground := Ground.data }], guard := none }) rfl (fun K hK => ?_) AllReady.nil
          go_simp
          refine C.out.mono ?_
          rintro e w2 ⟨rfl, h2⟩
          have H2 := Lib.hid h2
          have F1 := Lib.hid (keep_chg (E := fun x => x = w.heap.size + 1 + 1) h2.chg (show wr.drew.heap[w.heap.size]? = _ from E1.out) (fun e => by omega))
          have F2 := Lib.hid (keep_chg (E := fun x => x = w.heap.size + 1 + 1) h2.chg (show wr.drew.heap[w.heap.size + 1]? = _ from E2.out) (fun e => by omega))
          have R2 := Lib.hid (Row.chg (RW.out.later (drew_bel wr)) h2.chg)
          have SZ : Hid (wr.heap.size ≤ w2.heap.size) := Lib.hid h2.chg.size
          have x2 : w2.cell? ⟨w.heap.size, 0, none⟩ = some (.slice none 0 0) := by simp [World.cell?, F1.out]
          have x3 : (w2.alloc (.cells #[.string (kab, v1).1, .string (kab, v1).2] 30)).cell? ⟨w.heap.size, 0, none⟩ = some (.slice none 0 0) := bel_later (alb _ _) x2
          clear h2
          simp only
          refine hK _ _ ?_
          clear hK K
          refine wpAny_ready (rs := [4]) (by kernel_rfl) (by simp) ?_
          refine AllReady.cons (o := { dst := some 20, op := Op.buildSlice 22 1 #[(0, Operand.tmp 19)], type := 22, pos := "pack.go:42", after := #[{ on := 3, ground := Ground.data }], guard := none }) rfl (fun K hK => ?_) AllReady.nil
          go_simp
          refine hK _ _ ?_
          clear hK K
          refine wpAny_ready (rs := [5]) (by kernel_rfl) (by simp) ?_
          refine AllReady.cons (o := { dst := some 21, op := Op.call { callee := Callee.builtin Builtin.append, args := #[Operand.tmp 16, Operand.tmp 20], argTypes := #[22, 22] }, type := 22, pos := "pack.go:42", after := #[{ on := 0, ground := Ground.data }, { on := 4, ground := Ground.data }, { on := 3, ground := Ground.chain }], guard := none }) rfl (fun K hK => ?_) AllReady.nil
          refine step_put_row _ rfl (.tmp 16) (.tmp 20) rfl (base := w.heap.size + 1 + 1 + 1) none 0 0 [] (some ⟨w2.heap.size, 0, none⟩) 1 1 [(kab, v1)] (by simp [Act.eval, Act.put]) (by simp [Act.eval, Act.put]) (R2.out.later (alb _ _)) rfl (by omega) (by have h1 := LT.out; have h2 := SZ.out; simp; omega) rfl (by omega) (lit_rdt w2 (kab, v1)) ?_
          intro A' c' w3 r3 g3 o3
          have G1 := Lib.hid (keep_row g3 (keep_bel (alb w2 (.cells #[.string (kab, v1).1, .string (kab, v1).2] 30)) F1.out) (fun e => by have := (R2.out.fp_lt e).1; omega))
          have G2 := Lib.hid (keep_row g3 (keep_bel (alb w2 (.cells #[.string (kab, v1).1, .string (kab, v1).2] 30)) F2.out) (fun e => by have := (R2.out.fp_lt e).1; omega))
          have G3 : Hid (Rdr w3 (w.heap.size + 1 + 1) ⟨#[1, 1, 99, 1, 50]⟩) := Lib.hid (keep_row g3 (keep_bel (alb w2 (.cells #[.string (kab, v1).1, .string (kab, v1).2] 30)) H2.out.rdr) (fun e => by have := (R2.out.fp_lt e).1; omega))
          have R3 := Lib.hid r3
          have O3 := Lib.hid o3
          have B3 : Hid (Below w.heap.size w w3) := Lib.hid (un_bel HB.out H2.out.chg R2.out g3 LT.out)
          have y1 : w3.cell? ⟨w.heap.size, 0, none⟩ = some (.slice none 0 0) := by simp [World.cell?, G1.out]
          have y2 : w3.frozen? ⟨w.heap.size, 0, none⟩ = false := by simp [World.frozen?, G1.out]
          clear r3 g3 o3 x2 x3
          refine hK _ _ ?_
          clear hK K
          refine wpAny_ready (rs := [6]) (by kernel_rfl) (by simp) ?_
          refine AllReady.cons (o := { dst := none, op := Op.store 22 (Operand.tmp 2) (Operand.tmp 21), type := 0, pos := "pack.go:42", after := #[{ on := 5, ground := Ground.data }, { on := 5, ground := Ground.chain }, { on := 0, ground := Ground.phase }, { on := 1, ground := Ground.phase }, { on := 2, ground := Ground.phase }, { on := 3, ground := Ground.phase }, { on := 4, ground := Ground.phase }, { on := 5, ground := Ground.phase }], guard := none }) rfl (fun K hK => ?_) AllReady.nil
          go_simp
          refine hK _ _ ?_
          clear hK K
          refine wpAny_done (by kernel_rfl) ?_ _
          go_wp2
          refine ⟨.inr (.inl ⟨rfl, un_next G1.out G2.out G3.out R3.out B3.out⟩), by simp [intOf]⟩
      · go_simp
        refine hK _ _ ?_
        clear hK K
        refine wpAny_ready (rs := [0, 2]) (by kernel_rfl) (by simp) ?_
        refine AllReady.cons (o := { dst := some 16, op := Op.load 22 (Operand.tmp 2), type := 22, pos := "pack.go:42", after := #[], guard := none }) rfl (fun K hK => ?_) (AllReady.cons (o := { dst := some 18, op := Op.load 22 (Operand.tmp 2), type := 22, pos := "pack.go:42", after := #[], guard := none }) rfl (fun K hK => ?_) AllReady.nil)
        · go_simp
          refine hK _ _ ?_
          clear hK K
          refine wpAny_ready (rs := [2]) (by kernel_rfl) (by simp) ?_
          refine AllReady.cons (o := { dst := some 18, op := Op.load 22 (Operand.tmp 2), type := 22, pos := "pack.go:42", after := #[], guard := none }) rfl (fun K hK => ?_) AllReady.nil
          go_simp
          refine hK _ _ ?_
          clear hK K
          refine wpAny_ready (rs := [3]) (by kernel_rfl) (by simp) ?_
          refine AllReady.cons (o := { dst := some 19, op := Op.call { callee := Callee.value (Operand.func 20), args := #[Operand.tmp 17, Operand.tmp 18], argTypes := #[39, 22] }, type := 30, pos := "pack.go:42", after := #[{ on := 1, ground := Ground.data }, { on := 2, ground := Ground.data }], guard := none }) rfl (fun K hK => ?_) AllReady.nil
          go_simp
          refine C.out.mono ?_
          rintro e w2 ⟨rfl, h2⟩
          have H2 := Lib.hid h2
          have F1 := Lib.hid (keep_chg (E := fun x => x = w.heap.size + 1 + 1) h2.chg (show wr.drew.heap[w.heap.size]? = _ from E1.out) (fun e => by omega))
          have F2 := Lib.hid (keep_chg (E := fun x => x = w.heap.size + 1 + 1) h2.chg (show wr.drew.heap[w.heap.size + 1]? = _ from E2.out) (fun e => by omega))
          have R2 := Lib.hid (Row.chg (RW.out.later (drew_bel wr)) h2.chg)
          have SZ : Hid (wr.heap.size ≤ w2.heap.size) := Lib.hid h2.chg.size
          have x2 : w2.cell? ⟨w.heap.size, 0, none⟩ = some (.slice none 0 0) := by simp [World.cell?, F1.out]
          have x3 : (w2.alloc (.cells #[.string (kab, v1).1, .string (kab, v1).2] 30)).cell? ⟨w.heap.size, 0, none⟩ = some (.slice none 0 0) := bel_later (alb _ _) x2
          clear h2
          simp only
          refine hK _ _ ?_
          clear hK K
          refine wpAny_ready (rs := [4]) (by kernel_rfl) (by simp) ?_
          refine AllReady.cons (o := { dst := some 20, op := Op.buildSlice 22 1 #[(0, Operand.tmp 19)], type := 22, pos := "pack.go:42", after := #[{ on := 3, ground := Ground.data }], guard := none }) rfl (fun K hK => ?_) AllReady.nil
          go_simp
          refine hK _ _ ?_
          clear hK K
          refine wpAny_ready (rs := [5]) (by kernel_rfl) (by simp) ?_
          refine AllReady.cons (o := { dst := some 21, op := Op.call { callee := Callee.builtin Builtin.append, args := #[Operand.tmp 16, Operand.tmp 20], argTypes := #[22, 22] }, type := 22, pos := "pack.go:42", after := #[{ on := 0, ground := Ground.data }, { on := 4, ground := Ground.data }, { on := 3, ground := Ground.chain }], guard := none }) rfl (fun K hK => ?_) AllReady.nil
          refine step_put_row _ rfl (.tmp 16) (.tmp 20) rfl (base := w.heap.size + 1 + 1 + 1) none 0 0 [] (some ⟨w2.heap.size, 0, none⟩) 1 1 [(kab, v1)] (by simp [Act.eval, Act.put]) (by simp [Act.eval, Act.put]) (R2.out.later (alb _ _)) rfl (by omega) (by have h1 := LT.out; have h2 := SZ.out; simp; omega) rfl (by omega) (lit_rdt w2 (kab, v1)) ?_
          intro A' c' w3 r3 g3 o3
          have G1 := Lib.hid (keep_row g3 (keep_bel (alb w2 (.cells #[.string (kab, v1).1, .string (kab, v1).2] 30)) F1.out) (fun e => by have := (R2.out.fp_lt e).1; omega))
          have G2 := Lib.hid (keep_row g3 (keep_bel (alb w2 (.cells #[.string (kab, v1).1, .string (kab, v1).2] 30)) F2.out) (fun e => by have := (R2.out.fp_lt e).1; omega))
          have G3 : Hid (Rdr w3 (w.heap.size + 1 + 1) ⟨#[1, 1, 99, 1, 50]⟩) := Lib.hid (keep_row g3 (keep_bel (alb w2 (.cells #[.string (kab, v1).1, .string (kab, v1).2] 30)) H2.out.rdr) (fun e => by have := (R2.out.fp_lt e).1; omega))
          have R3 := Lib.hid r3
          have O3 := Lib.hid o3
          have B3 : Hid (Below w.heap.size w w3) := Lib.hid (un_bel HB.out H2.out.chg R2.out g3 LT.out)
          have y1 : w3.cell? ⟨w.heap.size, 0, none⟩ = some (.slice none 0 0) := by simp [World.cell?, G1.out]
          have y2 : w3.frozen? ⟨w.heap.size, 0, none⟩ = false := by simp [World.frozen?, G1.out]
          clear r3 g3 o3 x2 x3
          refine hK _ _ ?_
          clear hK K
          refine wpAny_ready (rs := [6]) (by kernel_rfl) (by simp) ?_
          refine AllReady.cons (o := { dst := none, op := Op.store 22 (Operand.tmp 2) (Operand.tmp 21), type := 0, pos := "pack.go:42", after := #[{ on := 5, ground := Ground.data }, { on := 5, ground := Ground.chain }, { on := 0, ground := Ground.phase }, { on := 1, ground := Ground.phase }, { on := 2, ground := Ground.phase }, { on := 3, ground := Ground.phase }, { on := 4, ground := Ground.phase }, { on := 5, ground := Ground.phase }], guard := none }) rfl (fun K hK => ?_) AllReady.nil
          go_simp
          refine hK _ _ ?_
          clear hK K
          refine wpAny_done (by kernel_rfl) ?_ _
          go_wp2
          refine ⟨.inr (.inl ⟨rfl, un_next G1.out G2.out G3.out R3.out B3.out⟩), by simp [intOf]⟩
        · go_simp
          refine hK _ _ ?_
          clear hK K
          refine wpAny_ready (rs := [0, 3]) (by kernel_rfl) (by simp) ?_
          refine AllReady.cons (o := { dst := some 16, op := Op.load 22 (Operand.tmp 2), type := 22, pos := "pack.go:42", after := #[], guard := none }) rfl (fun K hK => ?_) (AllReady.cons (o := { dst := some 19, op := Op.call { callee := Callee.value (Operand.func 20), args := #[Operand.tmp 17, Operand.tmp 18], argTypes := #[39, 22] }, type := 30, pos := "pack.go:42", after := #[{ on := 1, ground := Ground.data }, { on := 2, ground := Ground.data }], guard := none }) rfl (fun K hK => ?_) AllReady.nil)
          · go_simp
            refine hK _ _ ?_
            clear hK K
            refine wpAny_ready (rs := [3]) (by kernel_rfl) (by simp) ?_
            refine AllReady.cons (o := { dst := some 19, op := Op.call { callee := Callee.value (Operand.func 20), args := #[Operand.tmp 17, Operand.tmp 18], argTypes := #[39, 22] }, type := 30, pos := "pack.go:42", after := #[{ on := 1, ground := Ground.data }, { on := 2, ground := Ground.data }], guard := none }) rfl (fun K hK => ?_) AllReady.nil
            go_simp
            refine C.out.mono ?_
            rintro e w2 ⟨rfl, h2⟩
            have H2 := Lib.hid h2
            have F1 := Lib.hid (keep_chg (E := fun x => x = w.heap.size + 1 + 1) h2.chg (show wr.drew.heap[w.heap.size]? = _ from E1.out) (fun e => by omega))
            have F2 := Lib.hid (keep_chg (E := fun x => x = w.heap.size + 1 + 1) h2.chg (show wr.drew.heap[w.heap.size + 1]? = _ from E2.out) (fun e => by omega))
            have R2 := Lib.hid (Row.chg (RW.out.later (drew_bel wr)) h2.chg)
            have SZ : Hid (wr.heap.size ≤ w2.heap.size) := Lib.hid h2.chg.size
            have x2 : w2.cell? ⟨w.heap.size, 0, none⟩ = some (.slice none 0 0) := by simp [World.cell?, F1.out]
            have x3 : (w2.alloc (.cells #[.string (kab, v1).1, .string (kab, v1).2] 30)).cell? ⟨w.heap.size, 0, none⟩ = some (.slice none 0 0) := bel_later (alb _ _) x2
            clear h2
            simp only
            refine hK _ _ ?_
            clear hK K
            refine wpAny_ready (rs := [4]) (by kernel_rfl) (by simp) ?_
            refine AllReady.cons (o := { dst := some 20, op := Op.buildSlice 22 1 #[(0, Operand.tmp 19)], type := 22, pos := "pack.go:42", after := #[{ on := 3, ground := Ground.data }], guard := none }) rfl (fun K hK => ?_) AllReady.nil
            go_simp
            refine hK _ _ ?_
            clear hK K
            refine wpAny_ready (rs := [5]) (by kernel_rfl) (by simp) ?_
            refine AllReady.cons (o := { dst := some 21, op := Op.call { callee := Callee.builtin Builtin.append, args := #[Operand.tmp 16, Operand.tmp 20], argTypes := #[22, 22] }, type := 22, pos := "pack.go:42", after := #[{ on := 0, ground := Ground.data }, { on := 4, ground := Ground.data }, { on := 3, ground := Ground.chain }], guard := none }) rfl (fun K hK => ?_) AllReady.nil
            refine step_put_row _ rfl (.tmp 16) (.tmp 20) rfl (base := w.heap.size + 1 + 1 + 1) none 0 0 [] (some ⟨w2.heap.size, 0, none⟩) 1 1 [(kab, v1)] (by simp [Act.eval, Act.put]) (by simp [Act.eval, Act.put]) (R2.out.later (alb _ _)) rfl (by omega) (by have h1 := LT.out; have h2 := SZ.out; simp; omega) rfl (by omega) (lit_rdt w2 (kab, v1)) ?_
            intro A' c' w3 r3 g3 o3
            have G1 := Lib.hid (keep_row g3 (keep_bel (alb w2 (.cells #[.string (kab, v1).1, .string (kab, v1).2] 30)) F1.out) (fun e => by have := (R2.out.fp_lt e).1; omega))
            have G2 := Lib.hid (keep_row g3 (keep_bel (alb w2 (.cells #[.string (kab, v1).1, .string (kab, v1).2] 30)) F2.out) (fun e => by have := (R2.out.fp_lt e).1; omega))
            have G3 : Hid (Rdr w3 (w.heap.size + 1 + 1) ⟨#[1, 1, 99, 1, 50]⟩) := Lib.hid (keep_row g3 (keep_bel (alb w2 (.cells #[.string (kab, v1).1, .string (kab, v1).2] 30)) H2.out.rdr) (fun e => by have := (R2.out.fp_lt e).1; omega))
            have R3 := Lib.hid r3
            have O3 := Lib.hid o3
            have B3 : Hid (Below w.heap.size w w3) := Lib.hid (un_bel HB.out H2.out.chg R2.out g3 LT.out)
            have y1 : w3.cell? ⟨w.heap.size, 0, none⟩ = some (.slice none 0 0) := by simp [World.cell?, G1.out]
            have y2 : w3.frozen? ⟨w.heap.size, 0, none⟩ = false := by simp [World.frozen?, G1.out]
            clear r3 g3 o3 x2 x3
            refine hK _ _ ?_
            clear hK K
            refine wpAny_ready (rs := [6]) (by kernel_rfl) (by simp) ?_
            refine AllReady.cons (o := { dst := none, op := Op.store 22 (Operand.tmp 2) (Operand.tmp 21), type := 0, pos := "pack.go:42", after := #[{ on := 5, ground := Ground.data }, { on := 5, ground := Ground.chain }, { on := 0, ground := Ground.phase }, { on := 1, ground := Ground.phase }, { on := 2, ground := Ground.phase }, { on := 3, ground := Ground.phase }, { on := 4, ground := Ground.phase }, { on := 5, ground := Ground.phase }], guard := none }) rfl (fun K hK => ?_) AllReady.nil
            go_simp
            refine hK _ _ ?_
            clear hK K
            refine wpAny_done (by kernel_rfl) ?_ _
            go_wp2
            refine ⟨.inr (.inl ⟨rfl, un_next G1.out G2.out G3.out R3.out B3.out⟩), by simp [intOf]⟩
          · go_simp
            refine C.out.mono ?_
            rintro e w2 ⟨rfl, h2⟩
            have H2 := Lib.hid h2
            have F1 := Lib.hid (keep_chg (E := fun x => x = w.heap.size + 1 + 1) h2.chg (show wr.drew.heap[w.heap.size]? = _ from E1.out) (fun e => by omega))
            have F2 := Lib.hid (keep_chg (E := fun x => x = w.heap.size + 1 + 1) h2.chg (show wr.drew.heap[w.heap.size + 1]? = _ from E2.out) (fun e => by omega))
            have R2 := Lib.hid (Row.chg (RW.out.later (drew_bel wr)) h2.chg)
            have SZ : Hid (wr.heap.size ≤ w2.heap.size) := Lib.hid h2.chg.size
            have x2 : w2.cell? ⟨w.heap.size, 0, none⟩ = some (.slice none 0 0) := by simp [World.cell?, F1.out]
            have x3 : (w2.alloc (.cells #[.string (kab, v1).1, .string (kab, v1).2] 30)).cell? ⟨w.heap.size, 0, none⟩ = some (.slice none 0 0) := bel_later (alb _ _) x2
            clear h2
            simp only
            refine hK _ _ ?_
            clear hK K
            refine wpAny_ready (rs := [0, 4]) (by kernel_rfl) (by simp) ?_
            refine AllReady.cons (o := { dst := some 16, op := Op.load 22 (Operand.tmp 2), type := 22, pos := "pack.go:42", after := #[], guard := none }) rfl (fun K hK => ?_) (AllReady.cons (o := { dst := some 20, op := Op.buildSlice 22 1 #[(0, Operand.tmp 19)], type := 22, pos := "pack.go:42", after := #[{ on := 3, ground := Ground.data }], guard := none }) rfl (fun K hK => ?_) AllReady.nil)
            · go_simp
              refine hK _ _ ?_
              clear hK K
              refine wpAny_ready (rs := [4]) (by kernel_rfl) (by simp) ?_
              refine AllReady.cons (o := { dst := some 20, op := Op.buildSlice 22 1 #[(0, Operand.tmp 19)], type := 22, pos := "pack.go:42", after := #[{ on := 3, ground := Ground.data }], guard := none }) rfl (fun K hK => ?_) AllReady.nil
              go_simp
              refine hK _ _ ?_
              clear hK K
              refine wpAny_ready (rs := [5]) (by kernel_rfl) (by simp) ?_
              refine AllReady.cons (o := { dst := some 21, op := Op.call { callee := Callee.builtin Builtin.append, args := #[Operand.tmp 16, Operand.tmp 20], argTypes := #[22, 22] }, type := 22, pos := "pack.go:42", after := #[{ on := 0, ground := Ground.data }, { on := 4, ground := Ground.data }, { on := 3, ground := Ground.chain }], guard := none }) rfl (fun K hK => ?_) AllReady.nil
              refine step_put_row _ rfl (.tmp 16) (.tmp 20) rfl (base := w.heap.size + 1 + 1 + 1) none 0 0 [] (some ⟨w2.heap.size, 0, none⟩) 1 1 [(kab, v1)] (by simp [Act.eval, Act.put]) (by simp [Act.eval, Act.put]) (R2.out.later (alb _ _)) rfl (by omega) (by have h1 := LT.out; have h2 := SZ.out; simp; omega) rfl (by omega) (lit_rdt w2 (kab, v1)) ?_
              intro A' c' w3 r3 g3 o3
              have G1 := Lib.hid (keep_row g3 (keep_bel (alb w2 (.cells #[.string (kab, v1).1, .string (kab, v1).2] 30)) F1.out) (fun e => by have := (R2.out.fp_lt e).1; omega))
              have G2 := Lib.hid (keep_row g3 (keep_bel (alb w2 (.cells #[.string (kab, v1).1, .string (kab, v1).2] 30)) F2.out) (fun e => by have := (R2.out.fp_lt e).1; omega))
              have G3 : Hid (Rdr w3 (w.heap.size + 1 + 1) ⟨#[1, 1, 99, 1, 50]⟩) := Lib.hid (keep_row g3 (keep_bel (alb w2 (.cells #[.string (kab, v1).1, .string (kab, v1).2] 30)) H2.out.rdr) (fun e => by have := (R2.out.fp_lt e).1; omega))
              have R3 := Lib.hid r3
              have O3 := Lib.hid o3
              have B3 : Hid (Below w.heap.size w w3) := Lib.hid (un_bel HB.out H2.out.chg R2.out g3 LT.out)
              have y1 : w3.cell? ⟨w.heap.size, 0, none⟩ = some (.slice none 0 0) := by simp [World.cell?, G1.out]
              have y2 : w3.frozen? ⟨w.heap.size, 0, none⟩ = false := by simp [World.frozen?, G1.out]
              clear r3 g3 o3 x2 x3
              refine hK _ _ ?_
              clear hK K
              refine wpAny_ready (rs := [6]) (by kernel_rfl) (by simp) ?_
              refine AllReady.cons (o := { dst := none, op := Op.store 22 (Operand.tmp 2) (Operand.tmp 21), type := 0, pos := "pack.go:42", after := #[{ on := 5, ground := Ground.data }, { on := 5, ground := Ground.chain }, { on := 0, ground := Ground.phase }, { on := 1, ground := Ground.phase }, { on := 2, ground := Ground.phase }, { on := 3, ground := Ground.phase }, { on := 4, ground := Ground.phase }, { on := 5, ground := Ground.phase }], guard := none }) rfl (fun K hK => ?_) AllReady.nil
              go_simp
              refine hK _ _ ?_
              clear hK K
              refine wpAny_done (by kernel_rfl) ?_ _
              go_wp2
              refine ⟨.inr (.inl ⟨rfl, un_next G1.out G2.out G3.out R3.out B3.out⟩), by simp [intOf]⟩
            · go_simp
              refine hK _ _ ?_
              clear hK K
              refine wpAny_ready (rs := [0]) (by kernel_rfl) (by simp) ?_
              refine AllReady.cons (o := { dst := some 16, op := Op.load 22 (Operand.tmp 2), type := 22, pos := "pack.go:42", after := #[], guard := none }) rfl (fun K hK => ?_) AllReady.nil
              go_simp
              refine hK _ _ ?_
              clear hK K
              refine wpAny_ready (rs := [5]) (by kernel_rfl) (by simp) ?_
              refine AllReady.cons (o := { dst := some 21, op := Op.call { callee := Callee.builtin Builtin.append, args := #[Operand.tmp 16, Operand.tmp 20], argTypes := #[22, 22] }, type := 22, pos := "pack.go:42", after := #[{ on := 0, ground := Ground.data }, { on := 4, ground := Ground.data }, { on := 3, ground := Ground.chain }], guard := none }) rfl (fun K hK => ?_) AllReady.nil
              refine step_put_row _ rfl (.tmp 16) (.tmp 20) rfl (base := w.heap.size + 1 + 1 + 1) none 0 0 [] (some ⟨w2.heap.size, 0, none⟩) 1 1 [(kab, v1)] (by simp [Act.eval, Act.put]) (by simp [Act.eval, Act.put]) (R2.out.later (alb _ _)) rfl (by omega) (by have h1 := LT.out; have h2 := SZ.out; simp; omega) rfl (by omega) (lit_rdt w2 (kab, v1)) ?_
              intro A' c' w3 r3 g3 o3
              have G1 := Lib.hid (keep_row g3 (keep_bel (alb w2 (.cells #[.string (kab, v1).1, .string (kab, v1).2] 30)) F1.out) (fun e => by have := (R2.out.fp_lt e).1; omega))
              have G2 := Lib.hid (keep_row g3 (keep_bel (alb w2 (.cells #[.string (kab, v1).1, .string (kab, v1).2] 30)) F2.out) (fun e => by have := (R2.out.fp_lt e).1; omega))
              have G3 : Hid (Rdr w3 (w.heap.size + 1 + 1) ⟨#[1, 1, 99, 1, 50]⟩) := Lib.hid (keep_row g3 (keep_bel (alb w2 (.cells #[.string (kab, v1).1, .string (kab, v1).2] 30)) H2.out.rdr) (fun e => by have := (R2.out.fp_lt e).1; omega))
              have R3 := Lib.hid r3
              have O3 := Lib.hid o3
              have B3 : Hid (Below w.heap.size w w3) := Lib.hid (un_bel HB.out H2.out.chg R2.out g3 LT.out)
              have y1 : w3.cell? ⟨w.heap.size, 0, none⟩ = some (.slice none 0 0) := by simp [World.cell?, G1.out]
              have y2 : w3.frozen? ⟨w.heap.size, 0, none⟩ = false := by simp [World.frozen?, G1.out]
              clear r3 g3 o3 x2 x3
              refine hK _ _ ?_
              clear hK K
              refine wpAny_ready (rs := [6]) (by kernel_rfl) (by simp) ?_
              refine AllReady.cons (o := { dst := none, op := Op.store 22 (Operand.tmp 2) (Operand.tmp 21), type := 0, pos := "pack.go:42", after := #[{ on := 5, ground := Ground.data }, { on := 5, ground := Ground.chain }, { on := 0, ground := Ground.phase }, { on := 1, ground := Ground.phase }, { on := 2, ground := Ground.phase }, { on := 3, ground := Ground.phase }, { on := 4, ground := Ground.phase }, { on := 5, ground := Ground.phase }], guard := none }) rfl (fun K hK => ?_) AllReady.nil
              go_simp
              refine hK _ _ ?_
              clear hK K
              refine wpAny_done (by kernel_rfl) ?_ _
              go_wp2
              refine ⟨.inr (.inl ⟨rfl, un_next G1.out G2.out G3.out R3.out B3.out⟩), by simp [intOf]⟩
      · go_simp
        refine hK _ _ ?_
        clear hK K
        refine wpAny_ready (rs := [0, 1]) (by kernel_rfl) (by simp) ?_
        refine AllReady.cons (o := { dst := some 16, op := Op.load 22 (Operand.tmp 2), type := 22, pos := "pack.go:42", after := #[], guard := none }) rfl (fun K hK => ?_) (AllReady.cons (o := { dst := some 17, op := Op.move (Operand.tmp 4), type := 39, pos := "pack.go:42", after := #[], guard := none }) rfl (fun K hK => ?_) AllReady.nil)
        · go_simp
          refine hK _ _ ?_
          clear hK K
          refine wpAny_ready (rs := [1]) (by kernel_rfl) (by simp) ?_
          refine AllReady.cons (o := { dst := some 17, op := Op.move (Operand.tmp 4), type := 39, pos := "pack.go:42", after := #[], guard := none }) rfl (fun K hK => ?_) AllReady.nil
          go_simp
          refine hK _ _ ?_
          clear hK K
          refine wpAny_ready (rs := [3]) (by kernel_rfl) (by simp) ?_
          refine AllReady.cons (o := { dst := some 19, op := Op.call { callee := Callee.value (Operand.func 20), args := #[Operand.tmp 17, Operand.tmp 18], argTypes := #[39, 22] }, type := 30, pos := "pack.go:42", after := #[{ on := 1, ground := Ground.data }, { on := 2, ground := Ground.data }], guard := none }) rfl (fun K hK => ?_) AllReady.nil
          go_simp
          refine C.out.mono ?_
          rintro e w2 ⟨rfl, h2⟩
          have H2 := Lib.hid h2
          have F1 := Lib.hid (keep_chg (E := fun x => x = w.heap.size + 1 + 1) h2.chg (show wr.drew.heap[w.heap.size]? = _ from E1.out) (fun e => by omega))
          have F2 := Lib.hid (keep_chg (E := fun x => x = w.heap.size + 1 + 1) h2.chg (show wr.drew.heap[w.heap.size + 1]? = _ from E2.out) (fun e => by omega))
          have R2 := Lib.hid (Row.chg (RW.out.later (drew_bel wr)) h2.chg)
          have SZ : Hid (wr.heap.size ≤ w2.heap.size) := Lib.hid h2.chg.size
          have x2 : w2.cell? ⟨w.heap.size, 0, none⟩ = some (.slice none 0 0) := by simp [World.cell?, F1.out]
          have x3 : (w2.alloc (.cells #[.string (kab, v1).1, .string (kab, v1).2] 30)).cell? ⟨w.heap.size, 0, none⟩ = some (.slice none 0 0) := bel_later (alb _ _) x2
          clear h2
          simp only
          refine hK _ _ ?_
          clear hK K
          refine wpAny_ready (rs := [4]) (by kernel_rfl) (by simp) ?_
          refine AllReady.cons (o := { dst := some 20, op := Op.buildSlice 22 1 #[(0, Operand.tmp 19)], type := 22, pos := "pack.go:42", after := #[{ on := 3, ground := Ground.data }], guard := none }) rfl (fun K hK => ?_) AllReady.nil
          go_simp
          refine hK _ _ ?_
          clear hK K
          refine wpAny_ready (rs := [5]) (by kernel_rfl) (by simp) ?_
          refine AllReady.cons (o := { dst := some 21, op := Op.call { callee := Callee.builtin Builtin.append, args := #[Operand.tmp 16, Operand.tmp 20], argTypes := #[22, 22] }, type := 22, pos := "pack.go:42", after := #[{ on := 0, ground := Ground.data }, { on := 4, ground := Ground.data }, { on := 3, ground := Ground.chain }], guard := none }) rfl (fun K hK => ?_) AllReady.nil
          refine step_put_row _ rfl (.tmp 16) (.tmp 20) rfl (base := w.heap.size + 1 + 1 + 1) none 0 0 [] (some ⟨w2.heap.size, 0, none⟩) 1 1 [(kab, v1)] (by simp [Act.eval, Act.put]) (by simp [Act.eval, Act.put]) (R2.out.later (alb _ _)) rfl (by omega) (by have h1 := LT.out; have h2 := SZ.out; simp; omega) rfl (by omega) (lit_rdt w2 (kab, v1)) ?_
          intro A' c' w3 r3 g3 o3
          have G1 := Lib.hid (keep_row g3 (keep_bel (alb w2 (.cells #[.string (kab, v1).1, .string (kab, v1).2] 30)) F1.out) (fun e => by have := (R2.out.fp_lt e).1; omega))
          have G2 := Lib.hid (keep_row g3 (keep_bel (alb w2 (.cells #[.string (kab, v1).1, .string (kab, v1).2] 30)) F2.out) (fun e => by have := (R2.out.fp_lt e).1; omega))
          have G3 : Hid (Rdr w3 (w.heap.size + 1 + 1) ⟨#[1, 1, 99, 1, 50]⟩) := Lib.hid (keep_row g3 (keep_bel (alb w2 (.cells #[.string (kab, v1).1, .string (kab, v1).2] 30)) H2.out.rdr) (fun e => by have := (R2.out.fp_lt e).1; omega))
          have R3 := Lib.hid r3
          have O3 := Lib.hid o3
          have B3 : Hid (Below w.heap.size w w3) := Lib.hid (un_bel HB.out H2.out.chg R2.out g3 LT.out)
          have y1 : w3.cell? ⟨w.heap.size, 0, none⟩ = some (.slice none 0 0) := by simp [World.cell?, G1.out]
          have y2 : w3.frozen? ⟨w.heap.size, 0, none⟩ = false := by simp [World.frozen?, G1.out]
          clear r3 g3 o3 x2 x3
          refine hK _ _ ?_
          clear hK K
          refine wpAny_ready (rs := [6]) (by kernel_rfl) (by simp) ?_
          refine AllReady.cons (o := { dst := none, op := Op.store 22 (Operand.tmp 2) (Operand.tmp 21), type := 0, pos := "pack.go:42", after := #[{ on := 5, ground := Ground.data }, { on := 5, ground := Ground.chain }, { on := 0, ground := Ground.phase }, { on := 1, ground := Ground.phase }, { on := 2, ground := Ground.phase }, { on := 3, ground := Ground.phase }, { on := 4, ground := Ground.phase }, { on := 5, ground := Ground.phase }], guard := none }) rfl (fun K hK => ?_) AllReady.nil
          go_simp
          refine hK _ _ ?_
          clear hK K
          refine wpAny_done (by kernel_rfl) ?_ _
          go_wp2
          refine ⟨.inr (.inl ⟨rfl, un_next G1.out G2.out G3.out R3.out B3.out⟩), by simp [intOf]⟩
        · go_simp
          refine hK _ _ ?_
          clear hK K
          refine wpAny_ready (rs := [0, 3]) (by kernel_rfl) (by simp) ?_
          refine AllReady.cons (o := { dst := some 16, op := Op.load 22 (Operand.tmp 2), type := 22, pos := "pack.go:42", after := #[], guard := none }) rfl (fun K hK => ?_) (AllReady.cons (o := { dst := some 19, op := Op.call { callee := Callee.value (Operand.func 20), args := #[Operand.tmp 17, Operand.tmp 18], argTypes := #[39, 22] }, type := 30, pos := "pack.go:42", after := #[{ on := 1, ground := Ground.data }, { on := 2, ground := Ground.data }], guard := none }) rfl (fun K hK => ?_) AllReady.nil)
          · go_simp
            refine hK _ _ ?_
            clear hK K
            refine wpAny_ready (rs := [3]) (by kernel_rfl) (by simp) ?_
            refine AllReady.cons (o := { dst := some 19, op := Op.call { callee := Callee.value (Operand.func 20), args := #[Operand.tmp 17, Operand.tmp 18], argTypes := #[39, 22] }, type := 30, pos := "pack.go:42", after := #[{ on := 1, ground := Ground.data }, { on := 2, ground := Ground.data }], guard := none }) rfl (fun K hK => ?_) AllReady.nil
            go_simp
            refine C.out.mono ?_
            rintro e w2 ⟨rfl, h2⟩
            have H2 := Lib.hid h2
            have F1 := Lib.hid (keep_chg (E := fun x => x = w.heap.size + 1 + 1) h2.chg (show wr.drew.heap[w.heap.size]? = _ from E1.out) (fun e => by omega))
            have F2 := Lib.hid (keep_chg (E := fun x => x = w.heap.size + 1 + 1) h2.chg (show wr.drew.heap[w.heap.size + 1]? = _ from E2.out) (fun e => by omega))
            have R2 := Lib.hid (Row.chg (RW.out.later (drew_bel wr)) h2.chg)
            have SZ : Hid (wr.heap.size ≤ w2.heap.size) := Lib.hid h2.chg.size
            have x2 : w2.cell? ⟨w.heap.size, 0, none⟩ = some (.slice none 0 0) := by simp [World.cell?, F1.out]
            have x3 : (w2.alloc (.cells #[.string (kab, v1).1, .string (kab, v1).2] 30)).cell? ⟨w.heap.size, 0, none⟩ = some (.slice none 0 0) := bel_later (alb _ _) x2
            clear h2
            simp only
            refine hK _ _ ?_
            clear hK K
            refine wpAny_ready (rs := [4]) (by kernel_rfl) (by simp) ?_
            refine AllReady.cons (o := { dst := some 20, op := Op.buildSlice 22 1 #[(0, Operand.tmp 19)], type := 22, pos := "pack.go:42", after := #[{ on := 3, ground := Ground.data }], guard := none }) rfl (fun K hK => ?_) AllReady.nil
            go_simp
            refine hK _ _ ?_
            clear hK K
            refine wpAny_ready (rs := [5]) (by kernel_rfl) (by simp) ?_
            refine AllReady.cons (o := { dst := some 21, op := Op.call { callee := Callee.builtin Builtin.append, args := #[Operand.tmp 16, Operand.tmp 20], argTypes := #[22, 22] }, type := 22, pos := "pack.go:42", after := #[{ on := 0, ground := Ground.data }, { on := 4, ground := Ground.data }, { on := 3, ground := Ground.chain }], guard := none }) rfl (fun K hK => ?_) AllReady.nil
            refine step_put_row _ rfl (.tmp 16) (.tmp 20) rfl (base := w.heap.size + 1 + 1 + 1) none 0 0 [] (some ⟨w2.heap.size, 0, none⟩) 1 1 [(kab, v1)] (by simp [Act.eval, Act.put]) (by simp [Act.eval, Act.put]) (R2.out.later (alb _ _)) rfl (by omega) (by have h1 := LT.out; have h2 := SZ.out; simp; omega) rfl (by omega) (lit_rdt w2 (kab, v1)) ?_
            intro A' c' w3 r3 g3 o3
            have G1 := Lib.hid (keep_row g3 (keep_bel (alb w2 (.cells #[.string (kab, v1).1, .string (kab, v1).2] 30)) F1.out) (fun e => by have := (R2.out.fp_lt e).1; omega))
            have G2 := Lib.hid (keep_row g3 (keep_bel (alb w2 (.cells #[.string (kab, v1).1, .string (kab, v1).2] 30)) F2.out) (fun e => by have := (R2.out.fp_lt e).1; omega))
            have G3 : Hid (Rdr w3 (w.heap.size + 1 + 1) ⟨#[1, 1, 99, 1, 50]⟩) := Lib.hid (keep_row g3 (keep_bel (alb w2 (.cells #[.string (kab, v1).1, .string (kab, v1).2] 30)) H2.out.rdr) (fun e => by have := (R2.out.fp_lt e).1; omega))
            have R3 := Lib.hid r3
            have O3 := Lib.hid o3
            have B3 : Hid (Below w.heap.size w w3) := Lib.hid (un_bel HB.out H2.out.chg R2.out g3 LT.out)
            have y1 : w3.cell? ⟨w.heap.size, 0, none⟩ = some (.slice none 0 0) := by simp [World.cell?, G1.out]
            have y2 : w3.frozen? ⟨w.heap.size, 0, none⟩ = false := by simp [World.frozen?, G1.out]
            clear r3 g3 o3 x2 x3
            refine hK _ _ ?_
            clear hK K
            refine wpAny_ready (rs := [6]) (by kernel_rfl) (by simp) ?_
            refine AllReady.cons (o := { dst := none, op := Op.store 22 (Operand.tmp 2) (Operand.tmp 21), type := 0, pos := "pack.go:42", after := #[{ on := 5, ground := Ground.data }, { on := 5, ground := Ground.chain }, { on := 0, ground := Ground.phase }, { on := 1, ground := Ground.phase }, { on := 2, ground := Ground.phase }, { on := 3, ground := Ground.phase }, { on := 4, ground := Ground.phase }, { on := 5, ground := Ground.phase }], guard := none }) rfl (fun K hK => ?_) AllReady.nil
            go_simp
            refine hK _ _ ?_
            clear hK K
            refine wpAny_done (by kernel_rfl) ?_ _
            go_wp2
            refine ⟨.inr (.inl ⟨rfl, un_next G1.out G2.out G3.out R3.out B3.out⟩), by simp [intOf]⟩
          · go_simp
            refine C.out.mono ?_
            rintro e w2 ⟨rfl, h2⟩
            have H2 := Lib.hid h2
            have F1 := Lib.hid (keep_chg (E := fun x => x = w.heap.size + 1 + 1) h2.chg (show wr.drew.heap[w.heap.size]? = _ from E1.out) (fun e => by omega))
            have F2 := Lib.hid (keep_chg (E := fun x => x = w.heap.size + 1 + 1) h2.chg (show wr.drew.heap[w.heap.size + 1]? = _ from E2.out) (fun e => by omega))
            have R2 := Lib.hid (Row.chg (RW.out.later (drew_bel wr)) h2.chg)
            have SZ : Hid (wr.heap.size ≤ w2.heap.size) := Lib.hid h2.chg.size
            have x2 : w2.cell? ⟨w.heap.size, 0, none⟩ = some (.slice none 0 0) := by simp [World.cell?, F1.out]
            have x3 : (w2.alloc (.cells #[.string (kab, v1).1, .string (kab, v1).2] 30)).cell? ⟨w.heap.size, 0, none⟩ = some (.slice none 0 0) := bel_later (alb _ _) x2
            clear h2
            simp only
            refine hK _ _ ?_
            clear hK K
            refine wpAny_ready (rs := [0, 4]) (by kernel_rfl) (by simp) ?_
            refine AllReady.cons (o := { dst := some 16, op := Op.load 22 (Operand.tmp 2), type := 22, pos := "pack.go:42", after := #[], guard := none }) rfl (fun K hK => ?_) (AllReady.cons (o := { dst := some 20, op := Op.buildSlice 22 1 #[(0, Operand.tmp 19)], type := 22, pos := "pack.go:42", after := #[{ on := 3, ground := Ground.data }], guard := none }) rfl (fun K hK => ?_) AllReady.nil)
            · go_simp
              refine hK _ _ ?_
              clear hK K
              refine wpAny_ready (rs := [4]) (by kernel_rfl) (by simp) ?_
              refine AllReady.cons (o := { dst := some 20, op := Op.buildSlice 22 1 #[(0, Operand.tmp 19)], type := 22, pos := "pack.go:42", after := #[{ on := 3, ground := Ground.data }], guard := none }) rfl (fun K hK => ?_) AllReady.nil
              go_simp
              refine hK _ _ ?_
              clear hK K
              refine wpAny_ready (rs := [5]) (by kernel_rfl) (by simp) ?_
              refine AllReady.cons (o := { dst := some 21, op := Op.call { callee := Callee.builtin Builtin.append, args := #[Operand.tmp 16, Operand.tmp 20], argTypes := #[22, 22] }, type := 22, pos := "pack.go:42", after := #[{ on := 0, ground := Ground.data }, { on := 4, ground := Ground.data }, { on := 3, ground := Ground.chain }], guard := none }) rfl (fun K hK => ?_) AllReady.nil
              refine step_put_row _ rfl (.tmp 16) (.tmp 20) rfl (base := w.heap.size + 1 + 1 + 1) none 0 0 [] (some ⟨w2.heap.size, 0, none⟩) 1 1 [(kab, v1)] (by simp [Act.eval, Act.put]) (by simp [Act.eval, Act.put]) (R2.out.later (alb _ _)) rfl (by omega) (by have h1 := LT.out; have h2 := SZ.out; simp; omega) rfl (by omega) (lit_rdt w2 (kab, v1)) ?_
              intro A' c' w3 r3 g3 o3
              have G1 := Lib.hid (keep_row g3 (keep_bel (alb w2 (.cells #[.string (kab, v1).1, .string (kab, v1).2] 30)) F1.out) (fun e => by have := (R2.out.fp_lt e).1; omega))
              have G2 := Lib.hid (keep_row g3 (keep_bel (alb w2 (.cells #[.string (kab, v1).1, .string (kab, v1).2] 30)) F2.out) (fun e => by have := (R2.out.fp_lt e).1; omega))
              have G3 : Hid (Rdr w3 (w.heap.size + 1 + 1) ⟨#[1, 1, 99, 1, 50]⟩) := Lib.hid (keep_row g3 (keep_bel (alb w2 (.cells #[.string (kab, v1).1, .string (kab, v1).2] 30)) H2.out.rdr) (fun e => by have := (R2.out.fp_lt e).1; omega))
              have R3 := Lib.hid r3
              have O3 := Lib.hid o3
              have B3 : Hid (Below w.heap.size w w3) := Lib.hid (un_bel HB.out H2.out.chg R2.out g3 LT.out)
              have y1 : w3.cell? ⟨w.heap.size, 0, none⟩ = some (.slice none 0 0) := by simp [World.cell?, G1.out]
              have y2 : w3.frozen? ⟨w.heap.size, 0, none⟩ = false := by simp [World.frozen?, G1.out]
              clear r3 g3 o3 x2 x3
              refine hK _ _ ?_
              clear hK K
              refine wpAny_ready (rs := [6]) (by kernel_rfl) (by simp) ?_
              refine AllReady.cons (o := { dst := none, op := Op.store 22 (Operand.tmp 2) (Operand.tmp 21), type := 0, pos := "pack.go:42", after := #[{ on := 5, ground := Ground.data }, { on := 5, ground := Ground.chain }, { on := 0, ground := Ground.phase }, { on := 1, ground := Ground.phase }, { on := 2, ground := Ground.phase }, { on := 3, ground := Ground.phase }, { on := 4, ground := Ground.phase }, { on := 5, ground := Ground.phase }], guard := none }) rfl (fun K hK => ?_) AllReady.nil
              go_simp
              refine hK _ _ ?_
              clear hK K
              refine wpAny_done (by kernel_rfl) ?_ _
              go_wp2
              refine ⟨.inr (.inl ⟨rfl, un_next G1.out G2.out G3.out R3.out B3.out⟩), by simp [intOf]⟩
            · go_simp
              refine hK _ _ ?_
              clear hK K
              refine wpAny_ready (rs := [0]) (by kernel_rfl) (by simp) ?_
              refine AllReady.cons (o := { dst := some 16, op := Op.load 22 (Operand.tmp 2), type := 22, pos := "pack.go:42", after := #[], guard := none }) rfl (fun K hK => ?_) AllReady.nil
              go_simp
              refine hK _ _ ?_
              clear hK K
              refine wpAny_ready (rs := [5]) (by kernel_rfl) (by simp) ?_
              refine AllReady.cons (o := { dst := some 21, op := Op.call { callee := Callee.builtin Builtin.append, args := #[Operand.tmp 16, Operand.tmp 20], argTypes := #[22, 22] }, type := 22, pos := "pack.go:42", after := #[{ on := 0, ground := Ground.data }, { on := 4, ground := Ground.data }, { on := 3, ground := Ground.chain }], guard := none }) rfl (fun K hK => ?_) AllReady.nil
              refine step_put_row _ rfl (.tmp 16) (.tmp 20) rfl (base := w.heap.size + 1 + 1 + 1) none 0 0 [] (some ⟨w2.heap.size, 0, none⟩) 1 1 [(kab, v1)] (by simp [Act.eval, Act.put]) (by simp [Act.eval, Act.put]) (R2.out.later (alb _ _)) rfl (by omega) (by have h1 := LT.out; have h2 := SZ.out; simp; omega) rfl (by omega) (lit_rdt w2 (kab, v1)) ?_
              intro A' c' w3 r3 g3 o3
              have G1 := Lib.hid (keep_row g3 (keep_bel (alb w2 (.cells #[.string (kab, v1).1, .string (kab, v1).2] 30)) F1.out) (fun e => by have := (R2.out.fp_lt e).1; omega))
              have G2 := Lib.hid (keep_row g3 (keep_bel (alb w2 (.cells #[.string (kab, v1).1, .string (kab, v1).2] 30)) F2.out) (fun e => by have := (R2.out.fp_lt e).1; omega))
              have G3 : Hid (Rdr w3 (w.heap.size + 1 + 1) ⟨#[1, 1, 99, 1, 50]⟩) := Lib.hid (keep_row g3 (keep_bel (alb w2 (.cells #[.string (kab, v1).1, .string (kab, v1).2] 30)) H2.out.rdr) (fun e => by have := (R2.out.fp_lt e).1; omega))
              have R3 := Lib.hid r3
              have O3 := Lib.hid o3
              have B3 : Hid (Below w.heap.size w w3) := Lib.hid (un_bel HB.out H2.out.chg R2.out g3 LT.out)
              have y1 : w3.cell? ⟨w.heap.size, 0, none⟩ = some (.slice none 0 0) := by simp [World.cell?, G1.out]
              have y2 : w3.frozen? ⟨w.heap.size, 0, none⟩ = false := by simp [World.frozen?, G1.out]
              clear r3 g3 o3 x2 x3
              refine hK _ _ ?_
              clear hK K
              refine wpAny_ready (rs := [6]) (by kernel_rfl) (by simp) ?_
              refine AllReady.cons (o := { dst := none, op := Op.store 22 (Operand.tmp 2) (Operand.tmp 21), type := 0, pos := "pack.go:42", after := #[{ on := 5, ground := Ground.data }, { on := 5, ground := Ground.chain }, { on := 0, ground := Ground.phase }, { on := 1, ground := Ground.phase }, { on := 2, ground := Ground.phase }, { on := 3, ground := Ground.phase }, { on := 4, ground := Ground.phase }, { on := 5, ground := Ground.phase }], guard := none }) rfl (fun K hK => ?_) AllReady.nil
              go_simp
              refine hK _ _ ?_
              clear hK K
              refine wpAny_done (by kernel_rfl) ?_ _
              go_wp2
              refine ⟨.inr (.inl ⟨rfl, un_next G1.out G2.out G3.out R3.out B3.out⟩), by simp [intOf]⟩
    · obtain ⟨A, c, e1, e2, hr, hrow, hb, hA⟩ := hu
      obtain ⟨g, rfl⟩ := un_addr hrow
      have cg : wr.drew.cell? ⟨g, 0, none⟩ = some (.string kab) := un_first (hrow.later (drew_bel wr))
      have x1 : wr.cell? ⟨w.heap.size, 0, none⟩ = some (.slice (some ⟨g, 0, none⟩) 1 c) := by simp [World.cell?, e1]
      have hlt : w.heap.size + 1 + 1 < wr.heap.size := rdr_lt hr
      have E1 := Lib.hid e1
      have E2 := Lib.hid e2
      have HR := Lib.hid hr
      have RW := Lib.hid hrow
      have HB := Lib.hid hb
      have LT := Lib.hid hlt
      have C := Lib.hid (entry_2 (w.heap.size + 1 + 1) g c wr.drew hr cg)
      clear e1 e2 hr hrow hb hA hlt cg
      go_wp2_with fail
      refine wp_region_any (by kernel_rfl) ?_
      change wpAny _ _ _ _ _ _ _ (World.drew _)
      refine wpAny_ready (rs := [0, 1, 2]) (by kernel_rfl) (by simp) ?_
      refine AllReady.cons (o := { dst := some 16, op := Op.load 22 (Operand.tmp 2), type := 22, pos := "pack.go:42", after := #[], guard := none }) rfl (fun K hK => ?_) (AllReady.cons (o := { dst := some 17, op := Op.move (Operand.tmp 4), type := 39, pos := "pack.go:42", after := #[], guard := none }) rfl (fun K hK => ?_) (AllReady.cons (o := { dst := some 18, op := Op.load 22 (Operand.tmp 2), type := 22, pos := "pack.go:42", after := #[], guard := none }) rfl (fun K hK => ?_) AllReady.nil))
      · go_simp
        refine hK _ _ ?_
        clear hK K
        refine wpAny_ready (rs := [1, 2]) (by kernel_rfl) (by simp) ?_
        refine AllReady.cons (o := { dst := some 17, op := Op.move (Operand.tmp 4), type := 39, pos := "pack.go:42", after := #[], guard := none }) rfl (fun K hK => ?_) (AllReady.cons (o := { dst := some 18, op := Op.load 22 (Operand.tmp 2), type := 22, pos := "pack.go:42", after := #[], guard := none }) rfl (fun K hK => ?_) AllReady.nil)
        · go_simp
          refine hK _ _ ?_
          clear hK K
          refine wpAny_ready (rs := [2]) (by kernel_rfl) (by simp) ?_
          refine AllReady.cons (o := { dst := some 18, op := Op.load 22 (Operand.tmp 2), type := 22, pos := "pack.go:42", after := #[], guard := none }) rfl (fun K hK => ?_) AllReady.nil
          go_simp
          refine hK _ _ ?_
          clear hK K
          refine wpAny_ready (rs := [3]) (by kernel_rfl) (by simp) ?_
          refine AllReady.cons (o := { dst := some 19, op := Op.call { callee := Callee.value (Operand.func 20), args := #[Operand.tmp 17, Operand.tmp 18], argTypes := #[39, 22] }, type := 30, pos := "pack.go:42", after := #[{ on := 1, ground := Ground.data }, { on := 2, ground := Ground.data }], guard := none }) rfl (fun K hK => ?_) AllReady.nil
          go_simp
          refine C.out.mono ?_
          rintro e w2 ⟨rfl, h2⟩
          have H2 := Lib.hid h2
          have F1 := Lib.hid (keep_chg (E := fun x => x = w.heap.size + 1 + 1) h2.chg (show wr.drew.heap[w.heap.size]? = _ from E1.out) (fun e => by omega))
          have F2 := Lib.hid (keep_chg (E := fun x => x = w.heap.size + 1 + 1) h2.chg (show wr.drew.heap[w.heap.size + 1]? = _ from E2.out) (fun e => by omega))
          have R2 := Lib.hid (Row.chg (RW.out.later (drew_bel wr)) h2.chg)
          have SZ : Hid (wr.heap.size ≤ w2.heap.size) := Lib.hid h2.chg.size
          have x2 : w2.cell? ⟨w.heap.size, 0, none⟩ = some (.slice (some ⟨g, 0, none⟩) 1 c) := by simp [World.cell?, F1.out]
          have x3 : (w2.alloc (.cells #[.string (kac, v2).1, .string (kac, v2).2] 30)).cell? ⟨w.heap.size, 0, none⟩ = some (.slice (some ⟨g, 0, none⟩) 1 c) := bel_later (alb _ _) x2
          clear h2
          simp only
          refine hK _ _ ?_
          clear hK K
          refine wpAny_ready (rs := [4]) (by kernel_rfl) (by simp) ?_
          refine AllReady.cons (o := { dst := some 20, op := Op.buildSlice 22 1 #[(0, Operand.tmp 19)], type := 22, pos := "pack.go:42", after := #[{ on := 3, ground := Ground.data }], guard := none }) rfl (fun K hK => ?_) AllReady.nil
          go_simp
          refine hK _ _ ?_
          clear hK K
          refine wpAny_ready (rs := [5]) (by kernel_rfl) (by simp) ?_
          refine AllReady.cons (o := { dst := some 21, op := Op.call { callee := Callee.builtin Builtin.append, args := #[Operand.tmp 16, Operand.tmp 20], argTypes := #[22, 22] }, type := 22, pos := "pack.go:42", after := #[{ on := 0, ground := Ground.data }, { on := 4, ground := Ground.data }, { on := 3, ground := Ground.chain }], guard := none }) rfl (fun K hK => ?_) AllReady.nil
          refine step_put_row _ rfl (.tmp 16) (.tmp 20) rfl (base := w.heap.size + 1 + 1 + 1) (some ⟨g, 0, none⟩) 1 c [(kab, v1)] (some ⟨w2.heap.size, 0, none⟩) 1 1 [(kac, v2)] (by simp [Act.eval, Act.put]) (by simp [Act.eval, Act.put]) (R2.out.later (alb _ _)) rfl (by omega) (by have h1 := LT.out; have h2 := SZ.out; simp; omega) rfl (by omega) (lit_rdt w2 (kac, v2)) ?_
          intro A' c' w3 r3 g3 o3
          have G1 := Lib.hid (keep_row g3 (keep_bel (alb w2 (.cells #[.string (kac, v2).1, .string (kac, v2).2] 30)) F1.out) (fun e => by have := (R2.out.fp_lt e).1; omega))
          have G2 := Lib.hid (keep_row g3 (keep_bel (alb w2 (.cells #[.string (kac, v2).1, .string (kac, v2).2] 30)) F2.out) (fun e => by have := (R2.out.fp_lt e).1; omega))
          have G3 : Hid (Rdr w3 (w.heap.size + 1 + 1) ⟨#[]⟩) := Lib.hid (keep_row g3 (keep_bel (alb w2 (.cells #[.string (kac, v2).1, .string (kac, v2).2] 30)) H2.out.rdr) (fun e => by have := (R2.out.fp_lt e).1; omega))
          have R3 := Lib.hid r3
          have O3 := Lib.hid o3
          have B3 : Hid (Below w.heap.size w w3) := Lib.hid (un_bel HB.out H2.out.chg R2.out g3 LT.out)
          have y1 : w3.cell? ⟨w.heap.size, 0, none⟩ = some (.slice (some ⟨g, 0, none⟩) 1 c) := by simp [World.cell?, G1.out]
          have y2 : w3.frozen? ⟨w.heap.size, 0, none⟩ = false := by simp [World.frozen?, G1.out]
          clear r3 g3 o3 x2 x3
          refine hK _ _ ?_
          clear hK K
          refine wpAny_ready (rs := [6]) (by kernel_rfl) (by simp) ?_
          refine AllReady.cons (o := { dst := none, op := Op.store 22 (Operand.tmp 2) (Operand.tmp 21), type := 0, pos := "pack.go:42", after := #[{ on := 5, ground := Ground.data }, { on := 5, ground := Ground.chain }, { on := 0, ground := Ground.phase }, { on := 1, ground := Ground.phase }, { on := 2, ground := Ground.phase }, { on := 3, ground := Ground.phase }, { on := 4, ground := Ground.phase }, { on := 5, ground := Ground.phase }], guard := none }) rfl (fun K hK => ?_) AllReady.nil
          go_simp
          refine hK _ _ ?_
          clear hK K
          refine wpAny_done (by kernel_rfl) ?_ _
          go_wp2
          refine ⟨.inr (.inr ⟨rfl, un_next G1.out G2.out G3.out R3.out B3.out⟩), by simp [intOf]⟩
        · go_simp
          refine hK _ _ ?_
          clear hK K
          refine wpAny_ready (rs := [1]) (by kernel_rfl) (by simp) ?_
          refine AllReady.cons (o := { dst := some 17, op := Op.move (Operand.tmp 4), type := 39, pos := "pack.go:42", after := #[], guard := none }) rfl (fun K hK => ?_) AllReady.nil
          go_simp
          refine hK _ _ ?_
          clear hK K
          refine wpAny_ready (rs := [3]) (by kernel_rfl) (by simp) ?_
          refine AllReady.cons (o := { dst := some 19, op := Op.call { callee := Callee.value (Operand.func 20), args := #[Operand.tmp 17, Operand.tmp 18], argTypes := #[39, 22] }, type := 30, pos := "pack.go:42", after := #[{ on := 1, ground := Ground.data }, { on := 2, ground := Ground.data }], guard := none }) rfl (fun K hK => ?_) AllReady.nil
          go_simp
          refine C.out.mono ?_
          rintro e w2 ⟨rfl, h2⟩
          have H2 := Lib.hid h2
          have F1 := Lib.hid (keep_chg (E := fun x => x = w.heap.size + 1 + 1) h2.chg (show wr.drew.heap[w.heap.size]? = _ from E1.out) (fun e => by omega))
          have F2 := Lib.hid (keep_chg (E := fun x => x = w.heap.size + 1 + 1) h2.chg (show wr.drew.heap[w.heap.size + 1]? = _ from E2.out) (fun e => by omega))
          have R2 := Lib.hid (Row.chg (RW.out.later (drew_bel wr)) h2.chg)
          have SZ : Hid (wr.heap.size ≤ w2.heap.size) := Lib.hid h2.chg.size
          have x2 : w2.cell? ⟨w.heap.size, 0, none⟩ = some (.slice (some ⟨g, 0, none⟩) 1 c) := by simp [World.cell?, F1.out]
          have x3 : (w2.alloc (.cells #[.string (kac, v2).1, .string (kac, v2).2] 30)).cell? ⟨w.heap.size, 0, none⟩ = some (.slice (some ⟨g, 0, none⟩) 1 c) := bel_later (alb _ _) x2
          clear h2
          simp only
          refine hK _ _ ?_
          clear hK K
          refine wpAny_ready (rs := [4]) (by kernel_rfl) (by simp) ?_
          refine AllReady.cons (o := { dst := some 20, op := Op.buildSlice 22 1 #[(0, Operand.tmp 19)], type := 22, pos := "pack.go:42", after := #[{ on := 3, ground := Ground.data }], guard := none }) rfl (fun K hK => ?_) AllReady.nil
          go_simp
          refine hK _ _ ?_
          clear hK K
          refine wpAny_ready (rs := [5]) (by kernel_rfl) (by simp) ?_
          refine AllReady.cons (o := { dst := some 21, op := Op.call { callee := Callee.builtin Builtin.append, args := #[Operand.tmp 16, Operand.tmp 20], argTypes := #[22, 22] }, type := 22, pos := "pack.go:42", after := #[{ on := 0, ground := Ground.data }, { on := 4, ground := Ground.data }, { on := 3, ground := Ground.chain }], guard := none }) rfl (fun K hK => ?_) AllReady.nil
          refine step_put_row _ rfl (.tmp 16) (.tmp 20) rfl (base := w.heap.size + 1 + 1 + 1) (some ⟨g, 0, none⟩) 1 c [(kab, v1)] (some ⟨w2.heap.size, 0, none⟩) 1 1 [(kac, v2)] (by simp [Act.eval, Act.put]) (by simp [Act.eval, Act.put]) (R2.out.later (alb _ _)) rfl (by omega) (by have h1 := LT.out; have h2 := SZ.out; simp; omega) rfl (by omega) (lit_rdt w2 (kac, v2)) ?_
          intro A' c' w3 r3 g3 o3
          have G1 := Lib.hid (keep_row g3 (keep_bel (alb w2 (.cells #[.string (kac, v2).1, .string (kac, v2).2] 30)) F1.out) (fun e => by have := (R2.out.fp_lt e).1; omega))
          have G2 := Lib.hid (keep_row g3 (keep_bel (alb w2 (.cells #[.string (kac, v2).1, .string (kac, v2).2] 30)) F2.out) (fun e => by have := (R2.out.fp_lt e).1; omega))
          have G3 : Hid (Rdr w3 (w.heap.size + 1 + 1) ⟨#[]⟩) := Lib.hid (keep_row g3 (keep_bel (alb w2 (.cells #[.string (kac, v2).1, .string (kac, v2).2] 30)) H2.out.rdr) (fun e => by have := (R2.out.fp_lt e).1; omega))
          have R3 := Lib.hid r3
          have O3 := Lib.hid o3
          have B3 : Hid (Below w.heap.size w w3) := Lib.hid (un_bel HB.out H2.out.chg R2.out g3 LT.out)
          have y1 : w3.cell? ⟨w.heap.size, 0, none⟩ = some (.slice (some ⟨g, 0, none⟩) 1 c) := by simp [World.cell?, G1.out]
          have y2 : w3.frozen? ⟨w.heap.size, 0, none⟩ = false := by simp [World.frozen?, G1.out]
          clear r3 g3 o3 x2 x3
          refine hK _ _ ?_
          clear hK K
          refine wpAny_ready (rs := [6]) (by kernel_rfl) (by simp) ?_
          refine AllReady.cons (o := { dst := none, op := Op.store 22 (Operand.tmp 2) (Operand.tmp 21), type := 0, pos := "pack.go:42", after := #[{ on := 5, ground := Ground.data }, { on := 5, ground := Ground.chain }, { on := 0, ground := Ground.phase }, { on := 1, ground := Ground.phase }, { on := 2, ground := Ground.phase }, { on := 3, ground := Ground.phase }, { on := 4, ground := Ground.phase }, { on := 5, ground := Ground.phase }], guard := none }) rfl (fun K hK => ?_) AllReady.nil
          go_simp
          refine hK _ _ ?_
          clear hK K
          refine wpAny_done (by kernel_rfl) ?_ _
          go_wp2
          refine ⟨.inr (.inr ⟨rfl, un_next G1.out G2.out G3.out R3.out B3.out⟩), by simp [intOf]⟩
      · go_simp
        refine hK _ _ ?_
        clear hK K
        refine wpAny_ready (rs := [0, 2]) (by kernel_rfl) (by simp) ?_
        refine AllReady.cons (o := { dst := some 16, op := Op.load 22 (Operand.tmp 2), type := 22, pos := "pack.go:42", after := #[], guard := none }) rfl (fun K hK => ?_) (AllReady.cons (o := { dst := some 18, op := Op.load 22 (Operand.tmp 2), type := 22, pos := "pack.go:42", after := #[], guard := none }) rfl (fun K hK => ?_) AllReady.nil)
        · go_simp
          refine hK _ _ ?_
          clear hK K
          refine wpAny_ready (rs := [2]) (by kernel_rfl) (by simp) ?_
          refine AllReady.cons (o := { dst := some 18, op := Op.load 22 (Operand.tmp 2), type := 22, pos := "pack.go:42", after := #[], guard := none }) rfl (fun K hK => ?_) AllReady.nil
          go_simp
          refine hK _ _ ?_
          clear hK K
          refine wpAny_ready (rs := [3]) (by kernel_rfl) (by simp) ?_
          refine AllReady.cons (o := { dst := some 19, op := Op.call { callee := Callee.value (Operand.func 20), args := #[Operand.tmp 17, Operand.tmp 18], argTypes := #[39, 22] }, type := 30, pos := "pack.go:42", after := #[{ on := 1, ground := Ground.data }, { on := 2, ground := Ground.data }], guard := none }) rfl (fun K hK => ?_) AllReady.nil
          go_simp
          refine C.out.mono ?_
          rintro e w2 ⟨rfl, h2⟩
          have H2 := Lib.hid h2
          have F1 := Lib.hid (keep_chg (E := fun x => x = w.heap.size + 1 + 1) h2.chg (show wr.drew.heap[w.heap.size]? = _ from E1.out) (fun e => by omega))
          have F2 := Lib.hid (keep_chg (E := fun x => x = w.heap.size + 1 + 1) h2.chg (show wr.drew.heap[w.heap.size + 1]? = _ from E2.out) (fun e => by omega))
          have R2 := Lib.hid (Row.chg (RW.out.later (drew_bel wr)) h2.chg)
          have SZ : Hid (wr.heap.size ≤ w2.heap.size) := Lib.hid h2.chg.size
          have x2 : w2.cell? ⟨w.heap.size, 0, none⟩ = some (.slice (some ⟨g, 0, none⟩) 1 c) := by simp [World.cell?, F1.out]
          have x3 : (w2.alloc (.cells #[.string (kac, v2).1, .string (kac, v2).2] 30)).cell? ⟨w.heap.size, 0, none⟩ = some (.slice (some ⟨g, 0, none⟩) 1 c) := bel_later (alb _ _) x2
          clear h2
          simp only
          refine hK _ _ ?_
          clear hK K
          refine wpAny_ready (rs := [4]) (by kernel_rfl) (by simp) ?_
          refine AllReady.cons (o := { dst := some 20, op := Op.buildSlice 22 1 #[(0, Operand.tmp 19)], type := 22, pos := "pack.go:42", after := #[{ on := 3, ground := Ground.data }], guard := none }) rfl (fun K hK => ?_) AllReady.nil
          go_simp
          refine hK _ _ ?_
          clear hK K
          refine wpAny_ready (rs := [5]) (by kernel_rfl) (by simp) ?_
          refine AllReady.cons (o := { dst := some 21, op := Op.call { callee := Callee.builtin Builtin.append, args := #[Operand.tmp 16, Operand.tmp 20], argTypes := #[22, 22] }, type := 22, pos := "pack.go:42", after := #[{ on := 0, ground := Ground.data }, { on := 4, ground := Ground.data }, { on := 3, ground := Ground.chain }], guard := none }) rfl (fun K hK => ?_) AllReady.nil
          refine step_put_row _ rfl (.tmp 16) (.tmp 20) rfl (base := w.heap.size + 1 + 1 + 1) (some ⟨g, 0, none⟩) 1 c [(kab, v1)] (some ⟨w2.heap.size, 0, none⟩) 1 1 [(kac, v2)] (by simp [Act.eval, Act.put]) (by simp [Act.eval, Act.put]) (R2.out.later (alb _ _)) rfl (by omega) (by have h1 := LT.out; have h2 := SZ.out; simp; omega) rfl (by omega) (lit_rdt w2 (kac, v2)) ?_
          intro A' c' w3 r3 g3 o3
          have G1 := Lib.hid (keep_row g3 (keep_bel (alb w2 (.cells #[.string (kac, v2).1, .string (kac, v2).2] 30)) F1.out) (fun e => by have := (R2.out.fp_lt e).1; omega))
          have G2 := Lib.hid (keep_row g3 (keep_bel (alb w2 (.cells #[.string (kac, v2).1, .string (kac, v2).2] 30)) F2.out) (fun e => by have := (R2.out.fp_lt e).1; omega))
          have G3 : Hid (Rdr w3 (w.heap.size + 1 + 1) ⟨#[]⟩) := Lib.hid (keep_row g3 (keep_bel (alb w2 (.cells #[.string (kac, v2).1, .string (kac, v2).2] 30)) H2.out.rdr) (fun e => by have := (R2.out.fp_lt e).1; omega))
          have R3 := Lib.hid r3
          have O3 := Lib.hid o3
          have B3 : Hid (Below w.heap.size w w3) := Lib.hid (un_bel HB.out H2.out.chg R2.out g3 LT.out)
          have y1 : w3.cell? ⟨w.heap.size, 0, none⟩ = some (.slice (some ⟨g, 0, none⟩) 1 c) := by simp [World.cell?, G1.out]
          have y2 : w3.frozen? ⟨w.heap.size, 0, none⟩ = false := by simp [World.frozen?, G1.out]
          clear r3 g3 o3 x2 x3
          refine hK _ _ ?_
          clear hK K
          refine wpAny_ready (rs := [6]) (by kernel_rfl) (by simp) ?_
          refine AllReady.cons (o := { dst := none, op := Op.store 22 (Operand.tmp 2) (Operand.tmp 21), type := 0, pos := "pack.go:42", after := #[{ on := 5, ground := Ground.data }, { on := 5, ground := Ground.chain }, { on := 0, ground := Ground.phase }, { on := 1, ground := Ground.phase }, { on := 2, ground := Ground.phase }, { on := 3, ground := Ground.phase }, { on := 4, ground := Ground.phase }, { on := 5, ground := Ground.phase }], guard := none }) rfl (fun K hK => ?_) AllReady.nil
          go_simp
          refine hK _ _ ?_
          clear hK K
          refine wpAny_done (by kernel_rfl) ?_ _
          go_wp2
          refine ⟨.inr (.inr ⟨rfl, un_next G1.out G2.out G3.out R3.out B3.out⟩), by simp [intOf]⟩
        · go_simp
          refine hK _ _ ?_
          clear hK K
          refine wpAny_ready (rs := [0, 3]) (by kernel_rfl) (by simp) ?_
          refine AllReady.cons (o := { dst := some 16, op := Op.load 22 (Operand.tmp 2), type := 22, pos := "pack.go:42", after := #[], guard := none }) rfl (fun K hK => ?_) (AllReady.cons (o := { dst := some 19, op := Op.call { callee := Callee.value (Operand.func 20), args := #[Operand.tmp 17, Operand.tmp 18], argTypes := #[39, 22] }, type := 30, pos := "pack.go:42", after := #[{ on := 1, ground := Ground.data }, { on := 2, ground := Ground.data }], guard := none }) rfl (fun K hK => ?_) AllReady.nil)
          · go_simp
            refine hK _ _ ?_
            clear hK K
            refine wpAny_ready (rs := [3]) (by kernel_rfl) (by simp) ?_
            refine AllReady.cons (o := { dst := some 19, op := Op.call { callee := Callee.value (Operand.func 20), args := #[Operand.tmp 17, Operand.tmp 18], argTypes := #[39, 22] }, type := 30, pos := "pack.go:42", after := #[{ on := 1, ground := Ground.data }, { on := 2, ground := Ground.data }], guard := none }) rfl (fun K hK => ?_) AllReady.nil
            go_simp
            refine C.out.mono ?_
            rintro e w2 ⟨rfl, h2⟩
            have H2 := Lib.hid h2
            have F1 := Lib.hid (keep_chg (E := fun x => x = w.heap.size + 1 + 1) h2.chg (show wr.drew.heap[w.heap.size]? = _ from E1.out) (fun e => by omega))
            have F2 := Lib.hid (keep_chg (E := fun x => x = w.heap.size + 1 + 1) h2.chg (show wr.drew.heap[w.heap.size + 1]? = _ from E2.out) (fun e => by omega))
            have R2 := Lib.hid (Row.chg (RW.out.later (drew_bel wr)) h2.chg)
            have SZ : Hid (wr.heap.size ≤ w2.heap.size) := Lib.hid h2.chg.size
            have x2 : w2.cell? ⟨w.heap.size, 0, none⟩ = some (.slice (some ⟨g, 0, none⟩) 1 c) := by simp [World.cell?, F1.out]
            have x3 : (w2.alloc (.cells #[.string (kac, v2).1, .string (kac, v2).2] 30)).cell? ⟨w.heap.size, 0, none⟩ = some (.slice (some ⟨g, 0, none⟩) 1 c) := bel_later (alb _ _) x2
            clear h2
            simp only
            refine hK _ _ ?_
            clear hK K
            refine wpAny_ready (rs := [4]) (by kernel_rfl) (by simp) ?_
            refine AllReady.cons (o := { dst := some 20, op := Op.buildSlice 22 1 #[(0, Operand.tmp 19)], type := 22, pos := "pack.go:42", after := #[{ on := 3, ground := Ground.data }], guard := none }) rfl (fun K hK => ?_) AllReady.nil
            go_simp
            refine hK _ _ ?_
            clear hK K
            refine wpAny_ready (rs := [5]) (by kernel_rfl) (by simp) ?_
            refine AllReady.cons (o := { dst := some 21, op := Op.call { callee := Callee.builtin Builtin.append, args := #[Operand.tmp 16, Operand.tmp 20], argTypes := #[22, 22] }, type := 22, pos := "pack.go:42", after := #[{ on := 0, ground := Ground.data }, { on := 4, ground := Ground.data }, { on := 3, ground := Ground.chain }], guard := none }) rfl (fun K hK => ?_) AllReady.nil
            refine step_put_row _ rfl (.tmp 16) (.tmp 20) rfl (base := w.heap.size + 1 + 1 + 1) (some ⟨g, 0, none⟩) 1 c [(kab, v1)] (some ⟨w2.heap.size, 0, none⟩) 1 1 [(kac, v2)] (by simp [Act.eval, Act.put]) (by simp [Act.eval, Act.put]) (R2.out.later (alb _ _)) rfl (by omega) (by have h1 := LT.out; have h2 := SZ.out; simp; omega) rfl (by omega) (lit_rdt w2 (kac, v2)) ?_
            intro A' c' w3 r3 g3 o3
            have G1 := Lib.hid (keep_row g3 (keep_bel (alb w2 (.cells #[.string (kac, v2).1, .string (kac, v2).2] 30)) F1.out) (fun e => by have := (R2.out.fp_lt e).1; omega))
            have G2 := Lib.hid (keep_row g3 (keep_bel (alb w2 (.cells #[.string (kac, v2).1, .string (kac, v2).2] 30)) F2.out) (fun e => by have := (R2.out.fp_lt e).1; omega))
            have G3 : Hid (Rdr w3 (w.heap.size + 1 + 1) ⟨#[]⟩) := Lib.hid (keep_row g3 (keep_bel (alb w2 (.cells #[.string (kac, v2).1, .string (kac, v2).2] 30)) H2.out.rdr) (fun e => by have := (R2.out.fp_lt e).1; omega))
            have R3 := Lib.hid r3
            have O3 := Lib.hid o3
            have B3 : Hid (Below w.heap.size w w3) := Lib.hid (un_bel HB.out H2.out.chg R2.out g3 LT.out)
            have y1 : w3.cell? ⟨w.heap.size, 0, none⟩ = some (.slice (some ⟨g, 0, none⟩) 1 c) := by simp [World.cell?, G1.out]
            have y2 : w3.frozen? ⟨w.heap.size, 0, none⟩ = false := by simp [World.frozen?, G1.out]
            clear r3 g3 o3 x2 x3
            refine hK _ _ ?_
            clear hK K
            refine wpAny_ready (rs := [6]) (by kernel_rfl) (by simp) ?_
            refine AllReady.cons (o := { dst := none, op := Op.store 22 (Operand.tmp 2) (Operand.tmp 21), type := 0, pos := "pack.go:42", after := #[{ on := 5, ground := Ground.data }, { on := 5, ground := Ground.chain }, { on := 0, ground := Ground.phase }, { on := 1, ground := Ground.phase }, { on := 2, ground := Ground.phase }, { on := 3, ground := Ground.phase }, { on := 4, ground := Ground.phase }, { on := 5, ground := Ground.phase }], guard := none }) rfl (fun K hK => ?_) AllReady.nil
            go_simp
            refine hK _ _ ?_
            clear hK K
            refine wpAny_done (by kernel_rfl) ?_ _
            go_wp2
            refine ⟨.inr (.inr ⟨rfl, un_next G1.out G2.out G3.out R3.out B3.out⟩), by simp [intOf]⟩
          · go_simp
            refine C.out.mono ?_
            rintro e w2 ⟨rfl, h2⟩
            have H2 := Lib.hid h2
            have F1 := Lib.hid (keep_chg (E := fun x => x = w.heap.size + 1 + 1) h2.chg (show wr.drew.heap[w.heap.size]? = _ from E1.out) (fun e => by omega))
            have F2 := Lib.hid (keep_chg (E := fun x => x = w.heap.size + 1 + 1) h2.chg (show wr.drew.heap[w.heap.size + 1]? = _ from E2.out) (fun e => by omega))
            have R2 := Lib.hid (Row.chg (RW.out.later (drew_bel wr)) h2.chg)
            have SZ : Hid (wr.heap.size ≤ w2.heap.size) := Lib.hid h2.chg.size
            have x2 : w2.cell? ⟨w.heap.size, 0, none⟩ = some (.slice (some ⟨g, 0, none⟩) 1 c) := by simp [World.cell?, F1.out]
            have x3 : (w2.alloc (.cells #[.string (kac, v2).1, .string (kac, v2).2] 30)).cell? ⟨w.heap.size, 0, none⟩ = some (.slice (some ⟨g, 0, none⟩) 1 c) := bel_later (alb _ _) x2
            clear h2
            simp only
            refine hK _ _ ?_
            clear hK K
            refine wpAny_ready (rs := [0, 4]) (by kernel_rfl) (by simp) ?_
            refine AllReady.cons (o := { dst := some 16, op := Op.load 22 (Operand.tmp 2), type := 22, pos := "pack.go:42", after := #[], guard := none }) rfl (fun K hK => ?_) (AllReady.cons (o := { dst := some 20, op := Op.buildSlice 22 1 #[(0, Operand.tmp 19)], type := 22, pos := "pack.go:42", after := #[{ on := 3, ground := Ground.data }], guard := none }) rfl (fun K hK => ?_) AllReady.nil)
            · go_simp
              refine hK _ _ ?_
              clear hK K
              refine wpAny_ready (rs := [4]) (by kernel_rfl) (by simp) ?_
              refine AllReady.cons (o := { dst := some 20, op := Op.buildSlice 22 1 #[(0, Operand.tmp 19)], type := 22, pos := "pack.go:42", after := #[{ on := 3, ground := Ground.data }], guard := none }) rfl (fun K hK => ?_) AllReady.nil
              go_simp
              refine hK _ _ ?_
              clear hK K
              refine wpAny_ready (rs := [5]) (by kernel_rfl) (by simp) ?_
              refine AllReady.cons (o := { dst := some 21, op := Op.call { callee := Callee.builtin Builtin.append, args := #[Operand.tmp 16, Operand.tmp 20], argTypes := #[22, 22] }, type := 22, pos := "pack.go:42", after := #[{ on := 0, ground := Ground.data }, { on := 4, ground := Ground.data }, { on := 3, ground := Ground.chain }], guard := none }) rfl (fun K hK => ?_) AllReady.nil
              refine step_put_row _ rfl (.tmp 16) (.tmp 20) rfl (base := w.heap.size + 1 + 1 + 1) (some ⟨g, 0, none⟩) 1 c [(kab, v1)] (some ⟨w2.heap.size, 0, none⟩) 1 1 [(kac, v2)] (by simp [Act.eval, Act.put]) (by simp [Act.eval, Act.put]) (R2.out.later (alb _ _)) rfl (by omega) (by have h1 := LT.out; have h2 := SZ.out; simp; omega) rfl (by omega) (lit_rdt w2 (kac, v2)) ?_
              intro A' c' w3 r3 g3 o3
              have G1 := Lib.hid (keep_row g3 (keep_bel (alb w2 (.cells #[.string (kac, v2).1, .string (kac, v2).2] 30)) F1.out) (fun e => by have := (R2.out.fp_lt e).1; omega))
              have G2 := Lib.hid (keep_row g3 (keep_bel (alb w2 (.cells #[.string (kac, v2).1, .string (kac, v2).2] 30)) F2.out) (fun e => by have := (R2.out.fp_lt e).1; omega))
              have G3 : Hid (Rdr w3 (w.heap.size + 1 + 1) ⟨#[]⟩) := Lib.hid (keep_row g3 (keep_bel (alb w2 (.cells #[.string (kac, v2).1, .string (kac, v2).2] 30)) H2.out.rdr) (fun e => by have := (R2.out.fp_lt e).1; omega))
              have R3 := Lib.hid r3
              have O3 := Lib.hid o3
              have B3 : Hid (Below w.heap.size w w3) := Lib.hid (un_bel HB.out H2.out.chg R2.out g3 LT.out)
              have y1 : w3.cell? ⟨w.heap.size, 0, none⟩ = some (.slice (some ⟨g, 0, none⟩) 1 c) := by simp [World.cell?, G1.out]
              have y2 : w3.frozen? ⟨w.heap.size, 0, none⟩ = false := by simp [World.frozen?, G1.out]
              clear r3 g3 o3 x2 x3
              refine hK _ _ ?_
              clear hK K
              refine wpAny_ready (rs := [6]) (by kernel_rfl) (by simp) ?_
              refine AllReady.cons (o := { dst := none, op := Op.store 22 (Operand.tmp 2) (Operand.tmp 21), type := 0, pos := "pack.go:42", after := #[{ on := 5, ground := Ground.data }, { on := 5, ground := Ground.chain }, { on := 0, ground := Ground.phase }, { on := 1, ground := Ground.phase }, { on := 2, ground := Ground.phase }, { on := 3, ground := Ground.phase }, { on := 4, ground := Ground.phase }, { on := 5, ground := Ground.phase }], guard := none }) rfl (fun K hK => ?_) AllReady.nil
              go_simp
              refine hK _ _ ?_
              clear hK K
              refine wpAny_done (by kernel_rfl) ?_ _
              go_wp2
              refine ⟨.inr (.inr ⟨rfl, un_next G1.out G2.out G3.out R3.out B3.out⟩), by simp [intOf]⟩
            · go_simp
              refine hK _ _ ?_
              clear hK K
              refine wpAny_ready (rs := [0]) (by kernel_rfl) (by simp) ?_
              refine AllReady.cons (o := { dst := some 16, op := Op.load 22 (Operand.tmp 2), type := 22, pos := "pack.go:42", after := #[], guard := none }) rfl (fun K hK => ?_) AllReady.nil
              go_simp
              refine hK _ _ ?_
              clear hK K
              refine wpAny_ready (rs := [5]) (by kernel_rfl) (by simp) ?_
              refine AllReady.cons (o := { dst := some 21, op := Op.call { callee := Callee.builtin Builtin.append, args := #[Operand.tmp 16, Operand.tmp 20], argTypes := #[22, 22] }, type := 22, pos := "pack.go:42", after := #[{ on := 0, ground := Ground.data }, { on := 4, ground := Ground.data }, { on := 3, ground := Ground.chain }], guard := none }) rfl (fun K hK => ?_) AllReady.nil
              refine step_put_row _ rfl (.tmp 16) (.tmp 20) rfl (base := w.heap.size + 1 + 1 + 1) (some ⟨g, 0, none⟩) 1 c [(kab, v1)] (some ⟨w2.heap.size, 0, none⟩) 1 1 [(kac, v2)] (by simp [Act.eval, Act.put]) (by simp [Act.eval, Act.put]) (R2.out.later (alb _ _)) rfl (by omega) (by have h1 := LT.out; have h2 := SZ.out; simp; omega) rfl (by omega) (lit_rdt w2 (kac, v2)) ?_
              intro A' c' w3 r3 g3 o3
              have G1 := Lib.hid (keep_row g3 (keep_bel (alb w2 (.cells #[.string (kac, v2).1, .string (kac, v2).2] 30)) F1.out) (fun e => by have := (R2.out.fp_lt e).1; omega))
              have G2 := Lib.hid (keep_row g3 (keep_bel (alb w2 (.cells #[.string (kac, v2).1, .string (kac, v2).2] 30)) F2.out) (fun e => by have := (R2.out.fp_lt e).1; omega))
              have G3 : Hid (Rdr w3 (w.heap.size + 1 + 1) ⟨#[]⟩) := Lib.hid (keep_row g3 (keep_bel (alb w2 (.cells #[.string (kac, v2).1, .string (kac, v2).2] 30)) H2.out.rdr) (fun e => by have := (R2.out.fp_lt e).1; omega))
              have R3 := Lib.hid r3
              have O3 := Lib.hid o3
              have B3 : Hid (Below w.heap.size w w3) := Lib.hid (un_bel HB.out H2.out.chg R2.out g3 LT.out)
              have y1 : w3.cell? ⟨w.heap.size, 0, none⟩ = some (.slice (some ⟨g, 0, none⟩) 1 c) := by simp [World.cell?, G1.out]
              have y2 : w3.frozen? ⟨w.heap.size, 0, none⟩ = false := by simp [World.frozen?, G1.out]
              clear r3 g3 o3 x2 x3
              refine hK _ _ ?_
              clear hK K
              refine wpAny_ready (rs := [6]) (by kernel_rfl) (by simp) ?_
              refine AllReady.cons (o := { dst := none, op := Op.store 22 (Operand.tmp 2) (Operand.tmp 21), type := 0, pos := "pack.go:42", after := #[{ on := 5, ground := Ground.data }, { on := 5, ground := Ground.chain }, { on := 0, ground := Ground.phase }, { on := 1, ground := Ground.phase }, { on := 2, ground := Ground.phase }, { on := 3, ground := Ground.phase }, { on := 4, ground := Ground.phase }, { on := 5, ground := Ground.phase }], guard := none }) rfl (fun K hK => ?_) AllReady.nil
              go_simp
              refine hK _ _ ?_
              clear hK K
              refine wpAny_done (by kernel_rfl) ?_ _
              go_wp2
              refine ⟨.inr (.inr ⟨rfl, un_next G1.out G2.out G3.out R3.out B3.out⟩), by simp [intOf]⟩
      · go_simp
        refine hK _ _ ?_
        clear hK K
        refine wpAny_ready (rs := [0, 1]) (by kernel_rfl) (by simp) ?_
        refine AllReady.cons (o := { dst := some 16, op := Op.load 22 (Operand.tmp 2), type := 22, pos := "pack.go:42", after := #[], guard := none }) rfl (fun K hK => ?_) (AllReady.cons (o := { dst := some 17, op := Op.move (Operand.tmp 4), type := 39, pos := "pack.go:42", after := #[], guard := none }) rfl (fun K hK => ?_) AllReady.nil)
        · go_simp
          refine hK _ _ ?_
          clear hK K
          refine wpAny_ready (rs := [1]) (by kernel_rfl) (by simp) ?_
          refine AllReady.cons (o := { dst := some 17, op := Op.move (Operand.tmp 4), type := 39, pos := "pack.go:42", after := #[], guard := none }) rfl (fun K hK => ?_) AllReady.nil
          go_simp
          refine hK _ _ ?_
          clear hK K
          refine wpAny_ready (rs := [3]) (by kernel_rfl) (by simp) ?_
          refine AllReady.cons (o := { dst := some 19, op := Op.call { callee := Callee.value (Operand.func 20), args := #[Operand.tmp 17, Operand.tmp 18], argTypes := #[39, 22] }, type := 30, pos := "pack.go:42", after := #[{ on := 1, ground := Ground.data }, { on := 2, ground := Ground.data }], guard := none }) rfl (fun K hK => ?_) AllReady.nil
          go_simp
          refine C.out.mono ?_
          rintro e w2 ⟨rfl, h2⟩
          have H2 := Lib.hid h2
          have F1 := Lib.hid (keep_chg (E := fun x => x = w.heap.size + 1 + 1) h2.chg (show wr.drew.heap[w.heap.size]? = _ from E1.out) (fun e => by omega))
          have F2 := Lib.hid (keep_chg (E := fun x => x = w.heap.size + 1 + 1) h2.chg (show wr.drew.heap[w.heap.size + 1]? = _ from E2.out) (fun e => by omega))
          have R2 := Lib.hid (Row.chg (RW.out.later (drew_bel wr)) h2.chg)
          have SZ : Hid (wr.heap.size ≤ w2.heap.size) := Lib.hid h2.chg.size
          have x2 : w2.cell? ⟨w.heap.size, 0, none⟩ = some (.slice (some ⟨g, 0, none⟩) 1 c) := by simp [World.cell?, F1.out]
          have x3 : (w2.alloc (.cells #[.string (kac, v2).1, .string (kac, v2).2] 30)).cell? ⟨w.heap.size, 0, none⟩ = some (.slice (some ⟨g, 0, none⟩) 1 c) := bel_later (alb _ _) x2
          clear h2
          simp only
          refine hK _ _ ?_
          clear hK K
          refine wpAny_ready (rs := [4]) (by kernel_rfl) (by simp) ?_
          refine AllReady.cons (o := { dst := some 20, op := Op.buildSlice 22 1 #[(0, Operand.tmp 19)], type := 22, pos := "pack.go:42", after := #[{ on := 3, ground := Ground.data }], guard := none }) rfl (fun K hK => ?_) AllReady.nil
          go_simp
          refine hK _ _ ?_
          clear hK K
          refine wpAny_ready (rs := [5]) (by kernel_rfl) (by simp) ?_
          refine AllReady.cons (o := { dst := some 21, op := Op.call { callee := Callee.builtin Builtin.append, args := #[Operand.tmp 16, Operand.tmp 20], argTypes := #[22, 22] }, type := 22, pos := "pack.go:42", after := #[{ on := 0, ground := Ground.data }, { on := 4, ground := Ground.data }, { on := 3, ground := Ground.chain }], guard := none }) rfl (fun K hK => ?_) AllReady.nil
          refine step_put_row _ rfl (.tmp 16) (.tmp 20) rfl (base := w.heap.size + 1 + 1 + 1) (some ⟨g, 0, none⟩) 1 c [(kab, v1)] (some ⟨w2.heap.size, 0, none⟩) 1 1 [(kac, v2)] (by simp [Act.eval, Act.put]) (by simp [Act.eval, Act.put]) (R2.out.later (alb _ _)) rfl (by omega) (by have h1 := LT.out; have h2 := SZ.out; simp; omega) rfl (by omega) (lit_rdt w2 (kac, v2)) ?_
          intro A' c' w3 r3 g3 o3
          have G1 := Lib.hid (keep_row g3 (keep_bel (alb w2 (.cells #[.string (kac, v2).1, .string (kac, v2).2] 30)) F1.out) (fun e => by have := (R2.out.fp_lt e).1; omega))
          have G2 := Lib.hid (keep_row g3 (keep_bel (alb w2 (.cells #[.string (kac, v2).1, .string (kac, v2).2] 30)) F2.out) (fun e => by have := (R2.out.fp_lt e).1; omega))
          have G3 : Hid (Rdr w3 (w.heap.size + 1 + 1) ⟨#[]⟩) := Lib.hid (keep_row g3 (keep_bel (alb w2 (.cells #[.string (kac, v2).1, .string (kac, v2).2] 30)) H2.out.rdr) (fun e => by have := (R2.out.fp_lt e).1; omega))
          have R3 := Lib.hid r3
          have O3 := Lib.hid o3
          have B3 : Hid (Below w.heap.size w w3) := Lib.hid (un_bel HB.out H2.out.chg R2.out g3 LT.out)
          have y1 : w3.cell? ⟨w.heap.size, 0, none⟩ = some (.slice (some ⟨g, 0, none⟩) 1 c) := by simp [World.cell?, G1.out]
          have y2 : w3.frozen? ⟨w.heap.size, 0, none⟩ = false := by simp [World.frozen?, G1.out]
          clear r3 g3 o3 x2 x3
          refine hK _ _ ?_
          clear hK K
          refine wpAny_ready (rs := [6]) (by kernel_rfl) (by simp) ?_
          refine AllReady.cons (o := { dst := none, op := Op.store 22 (Operand.tmp 2) (Operand.tmp 21), type := 0, pos := "pack.go:42", after := #[{ on := 5, ground := Ground.data }, { on := 5, ground := Ground.chain }, { on := 0, ground := Ground.phase }, { on := 1, ground := Ground.phase }, { on := 2, ground := Ground.phase }, { on := 3, ground := Ground.phase }, { on := 4, ground := Ground.phase }, { on := 5, ground := Ground.phase }], guard := none }) rfl (fun K hK => ?_) AllReady.nil
          go_simp
          refine hK _ _ ?_
          clear hK K
          refine wpAny_done (by kernel_rfl) ?_ _
          go_wp2
          refine ⟨.inr (.inr ⟨rfl, un_next G1.out G2.out G3.out R3.out B3.out⟩), by simp [intOf]⟩
        · go_simp
          refine hK _ _ ?_
          clear hK K
          refine wpAny_ready (rs := [0, 3]) (by kernel_rfl) (by simp) ?_
          refine AllReady.cons (o := { dst := some 16, op := Op.load 22 (Operand.tmp 2), type := 22, pos := "pack.go:42", after := #[], guard := none }) rfl (fun K hK => ?_) (AllReady.cons (o := { dst := some 19, op := Op.call { callee := Callee.value (Operand.func 20), args := #[Operand.tmp 17, Operand.tmp 18], argTypes := #[39, 22] }, type := 30, pos := "pack.go:42", after := #[{ on := 1, ground := Ground.data }, { on := 2, ground := Ground.data }], guard := none }) rfl (fun K hK => ?_) AllReady.nil)
          · go_simp
            refine hK _ _ ?_
            clear hK K
            refine wpAny_ready (rs := [3]) (by kernel_rfl) (by simp) ?_
            refine AllReady.cons (o := { dst := some 19, op := Op.call { callee := Callee.value (Operand.func 20), args := #[Operand.tmp 17, Operand.tmp 18], argTypes := #[39, 22] }, type := 30, pos := "pack.go:42", after := #[{ on := 1, ground := Ground.data }, { on := 2, ground := Ground.data }], guard := none }) rfl (fun K hK => ?_) AllReady.nil
            go_simp
            refine C.out.mono ?_
            rintro e w2 ⟨rfl, h2⟩
            have H2 := Lib.hid h2
            have F1 := Lib.hid (keep_chg (E := fun x => x = w.heap.size + 1 + 1) h2.chg (show wr.drew.heap[w.heap.size]? = _ from E1.out) (fun e => by omega))
            have F2 := Lib.hid (keep_chg (E := fun x => x = w.heap.size + 1 + 1) h2.chg (show wr.drew.heap[w.heap.size + 1]? = _ from E2.out) (fun e => by omega))
            have R2 := Lib.hid (Row.chg (RW.out.later (drew_bel wr)) h2.chg)
            have SZ : Hid (wr.heap.size ≤ w2.heap.size) := Lib.hid h2.chg.size
            have x2 : w2.cell? ⟨w.heap.size, 0, none⟩ = some (.slice (some ⟨g, 0, none⟩) 1 c) := by simp [World.cell?, F1.out]
            have x3 : (w2.alloc (.cells #[.string (kac, v2).1, .string (kac, v2).2] 30)).cell? ⟨w.heap.size, 0, none⟩ = some (.slice (some ⟨g, 0, none⟩) 1 c) := bel_later (alb _ _) x2
            clear h2
            simp only
            refine hK _ _ ?_
            clear hK K
            refine wpAny_ready (rs := [4]) (by kernel_rfl) (by simp) ?_
            refine AllReady.cons (o := { dst := some 20, op := Op.buildSlice 22 1 #[(0, Operand.tmp 19)], type := 22, pos := "pack.go:42", after := #[{ on := 3, ground := Ground.data }], guard := none }) rfl (fun K hK => ?_) AllReady.nil
            go_simp
            refine hK _ _ ?_
            clear hK K
            refine wpAny_ready (rs := [5]) (by kernel_rfl) (by simp) ?_
            refine AllReady.cons (o := { dst := some 21, op := Op.call { callee := Callee.builtin Builtin.append, args := #[Operand.tmp 16, Operand.tmp 20], argTypes := #[22, 22] }, type := 22, pos := "pack.go:42", after := #[{ on := 0, ground := Ground.data }, { on := 4, ground := Ground.data }, { on := 3, ground := Ground.chain }], guard := none }) rfl (fun K hK => ?_) AllReady.nil
            refine step_put_row _ rfl (.tmp 16) (.tmp 20) rfl (base := w.heap.size + 1 + 1 + 1) (some ⟨g, 0, none⟩) 1 c [(kab, v1)] (some ⟨w2.heap.size, 0, none⟩) 1 1 [(kac, v2)] (by simp [Act.eval, Act.put]) (by simp [Act.eval, Act.put]) (R2.out.later (alb _ _)) rfl (by omega) (by have h1 := LT.out; have h2 := SZ.out; simp; omega) rfl (by omega) (lit_rdt w2 (kac, v2)) ?_
            intro A' c' w3 r3 g3 o3
            have G1 := Lib.hid (keep_row g3 (keep_bel (alb w2 (.cells #[.string (kac, v2).1, .string (kac, v2).2] 30)) F1.out) (fun e => by have := (R2.out.fp_lt e).1; omega))
            have G2 := Lib.hid (keep_row g3 (keep_bel (alb w2 (.cells #[.string (kac, v2).1, .string (kac, v2).2] 30)) F2.out) (fun e => by have := (R2.out.fp_lt e).1; omega))
            have G3 : Hid (Rdr w3 (w.heap.size + 1 + 1) ⟨#[]⟩) := Lib.hid (keep_row g3 (keep_bel (alb w2 (.cells #[.string (kac, v2).1, .string (kac, v2).2] 30)) H2.out.rdr) (fun e => by have := (R2.out.fp_lt e).1; omega))
            have R3 := Lib.hid r3
            have O3 := Lib.hid o3
            have B3 : Hid (Below w.heap.size w w3) := Lib.hid (un_bel HB.out H2.out.chg R2.out g3 LT.out)
            have y1 : w3.cell? ⟨w.heap.size, 0, none⟩ = some (.slice (some ⟨g, 0, none⟩) 1 c) := by simp [World.cell?, G1.out]
            have y2 : w3.frozen? ⟨w.heap.size, 0, none⟩ = false := by simp [World.frozen?, G1.out]
            clear r3 g3 o3 x2 x3
            refine hK _ _ ?_
            clear hK K
            refine wpAny_ready (rs := [6]) (by kernel_rfl) (by simp) ?_
            refine AllReady.cons (o := { dst := none, op := Op.store 22 (Operand.tmp 2) (Operand.tmp 21), type := 0, pos := "pack.go:42", after := #[{ on := 5, ground := Ground.data }, { on := 5, ground := Ground.chain }, { on := 0, ground := Ground.phase }, { on := 1, ground := Ground.phase }, { on := 2, ground := Ground.phase }, { on := 3, ground := Ground.phase }, { on := 4, ground := Ground.phase }, { on := 5, ground := Ground.phase }], guard := none }) rfl (fun K hK => ?_) AllReady.nil
            go_simp
            refine hK _ _ ?_
            clear hK K
            refine wpAny_done (by kernel_rfl) ?_ _
            go_wp2
            refine ⟨.inr (.inr ⟨rfl, un_next G1.out G2.out G3.out R3.out B3.out⟩), by simp [intOf]⟩
          · go_simp
            refine C.out.mono ?_
            rintro e w2 ⟨rfl, h2⟩
            have H2 := Lib.hid h2
            have F1 := Lib.hid (keep_chg (E := fun x => x = w.heap.size + 1 + 1) h2.chg (show wr.drew.heap[w.heap.size]? = _ from E1.out) (fun e => by omega))
            have F2 := Lib.hid (keep_chg (E := fun x => x = w.heap.size + 1 + 1) h2.chg (show wr.drew.heap[w.heap.size + 1]? = _ from E2.out) (fun e => by omega))
            have R2 := Lib.hid (Row.chg (RW.out.later (drew_bel wr)) h2.chg)
            have SZ : Hid (wr.heap.size ≤ w2.heap.size) := Lib.hid h2.chg.size
            have x2 : w2.cell? ⟨w.heap.size, 0, none⟩ = some (.slice (some ⟨g, 0, none⟩) 1 c) := by simp [World.cell?, F1.out]
            have x3 : (w2.alloc (.cells #[.string (kac, v2).1, .string (kac, v2).2] 30)).cell? ⟨w.heap.size, 0, none⟩ = some (.slice (some ⟨g, 0, none⟩) 1 c) := bel_later (alb _ _) x2
            clear h2
            simp only
            refine hK _ _ ?_
            clear hK K
            refine wpAny_ready (rs := [0, 4]) (by kernel_rfl) (by simp) ?_
            refine AllReady.cons (o := { dst := some 16, op := Op.load 22 (Operand.tmp 2), type := 22, pos := "pack.go:42", after := #[], guard := none }) rfl (fun K hK => ?_) (AllReady.cons (o := { dst := some 20, op := Op.buildSlice 22 1 #[(0, Operand.tmp 19)], type := 22, pos := "pack.go:42", after := #[{ on := 3, ground := Ground.data }], guard := none }) rfl (fun K hK => ?_) AllReady.nil)
            · go_simp
              refine hK _ _ ?_
              clear hK K
              refine wpAny_ready (rs := [4]) (by kernel_rfl) (by simp) ?_
              refine AllReady.cons (o := { dst := some 20, op := Op.buildSlice 22 1 #[(0, Operand.tmp 19)], type := 22, pos := "pack.go:42", after := #[{ on := 3, ground := Ground.data }], guard := none }) rfl (fun K hK => ?_) AllReady.nil
              go_simp
              refine hK _ _ ?_
              clear hK K
              refine wpAny_ready (rs := [5]) (by kernel_rfl) (by simp) ?_
              refine AllReady.cons (o := { dst := some 21, op := Op.call { callee := Callee.builtin Builtin.append, args := #[Operand.tmp 16, Operand.tmp 20], argTypes := #[22, 22] }, type := 22, pos := "pack.go:42", after := #[{ on := 0, ground := Ground.data }, { on := 4, ground := Ground.data }, { on := 3, ground := Ground.chain }], guard := none }) rfl (fun K hK => ?_) AllReady.nil
              refine step_put_row _ rfl (.tmp 16) (.tmp 20) rfl (base := w.heap.size + 1 + 1 + 1) (some ⟨g, 0, none⟩) 1 c [(kab, v1)] (some ⟨w2.heap.size, 0, none⟩) 1 1 [(kac, v2)] (by simp [Act.eval, Act.put]) (by simp [Act.eval, Act.put]) (R2.out.later (alb _ _)) rfl (by omega) (by have h1 := LT.out; have h2 := SZ.out; simp; omega) rfl (by omega) (lit_rdt w2 (kac, v2)) ?_
              intro A' c' w3 r3 g3 o3
              have G1 := Lib.hid (keep_row g3 (keep_bel (alb w2 (.cells #[.string (kac, v2).1, .string (kac, v2).2] 30)) F1.out) (fun e => by have := (R2.out.fp_lt e).1; omega))
              have G2 := Lib.hid (keep_row g3 (keep_bel (alb w2 (.cells #[.string (kac, v2).1, .string (kac, v2).2] 30)) F2.out) (fun e => by have := (R2.out.fp_lt e).1; omega))
              have G3 : Hid (Rdr w3 (w.heap.size + 1 + 1) ⟨#[]⟩) := Lib.hid (keep_row g3 (keep_bel (alb w2 (.cells #[.string (kac, v2).1, .string (kac, v2).2] 30)) H2.out.rdr) (fun e => by have := (R2.out.fp_lt e).1; omega))
              have R3 := Lib.hid r3
              have O3 := Lib.hid o3
              have B3 : Hid (Below w.heap.size w w3) := Lib.hid (un_bel HB.out H2.out.chg R2.out g3 LT.out)
              have y1 : w3.cell? ⟨w.heap.size, 0, none⟩ = some (.slice (some ⟨g, 0, none⟩) 1 c) := by simp [World.cell?, G1.out]
              have y2 : w3.frozen? ⟨w.heap.size, 0, none⟩ = false := by simp [World.frozen?, G1.out]
              clear r3 g3 o3 x2 x3
              refine hK _ _ ?_
              clear hK K
              refine wpAny_ready (rs := [6]) (by kernel_rfl) (by simp) ?_
              refine AllReady.cons (o := { dst := none, op := Op.store 22 (Operand.tmp 2) (Operand.tmp 21), type := 0, pos := "pack.go:42", after := #[{ on := 5, ground := Ground.data }, { on := 5, ground := Ground.chain }, { on := 0, ground := Ground.phase }, { on := 1, ground := Ground.phase }, { on := 2, ground := Ground.phase }, { on := 3, ground := Ground.phase }, { on := 4, ground := Ground.phase }, { on := 5, ground := Ground.phase }], guard := none }) rfl (fun K hK => ?_) AllReady.nil
              go_simp
              refine hK _ _ ?_
              clear hK K
              refine wpAny_done (by kernel_rfl) ?_ _
              go_wp2
              refine ⟨.inr (.inr ⟨rfl, un_next G1.out G2.out G3.out R3.out B3.out⟩), by simp [intOf]⟩
            · go_simp
              refine hK _ _ ?_
              clear hK K
              refine wpAny_ready (rs := [0]) (by kernel_rfl) (by simp) ?_
              refine AllReady.cons (o := { dst := some 16, op := Op.load 22 (Operand.tmp 2), type := 22, pos := "pack.go:42", after := #[], guard := none }) rfl (fun K hK => ?_) AllReady.nil
              go_simp
              refine hK _ _ ?_
              clear hK K
              refine wpAny_ready (rs := [5]) (by kernel_rfl) (by simp) ?_
              refine AllReady.cons (o := { dst := some 21, op := Op.call { callee := Callee.builtin Builtin.append, args := #[Operand.tmp 16, Operand.tmp 20], argTypes := #[22, 22] }, type := 22, pos := "pack.go:42", after := #[{ on := 0, ground := Ground.data }, { on := 4, ground := Ground.data }, { on := 3, ground := Ground.chain }], guard := none }) rfl (fun K hK => ?_) AllReady.nil
              refine step_put_row _ rfl (.tmp 16) (.tmp 20) rfl (base := w.heap.size + 1 + 1 + 1) (some ⟨g, 0, none⟩) 1 c [(kab, v1)] (some ⟨w2.heap.size, 0, none⟩) 1 1 [(kac, v2)] (by simp [Act.eval, Act.put]) (by simp [Act.eval, Act.put]) (R2.out.later (alb _ _)) rfl (by omega) (by have h1 := LT.out; have h2 := SZ.out; simp; omega) rfl (by omega) (lit_rdt w2 (kac, v2)) ?_
              intro A' c' w3 r3 g3 o3
              have G1 := Lib.hid (keep_row g3 (keep_bel (alb w2 (.cells #[.string (kac, v2).1, .string (kac, v2).2] 30)) F1.out) (fun e => by have := (R2.out.fp_lt e).1; omega))
              have G2 := Lib.hid (keep_row g3 (keep_bel (alb w2 (.cells #[.string (kac, v2).1, .string (kac, v2).2] 30)) F2.out) (fun e => by have := (R2.out.fp_lt e).1; omega))
              have G3 : Hid (Rdr w3 (w.heap.size + 1 + 1) ⟨#[]⟩) := Lib.hid (keep_row g3 (keep_bel (alb w2 (.cells #[.string (kac, v2).1, .string (kac, v2).2] 30)) H2.out.rdr) (fun e => by have := (R2.out.fp_lt e).1; omega))
              have R3 := Lib.hid r3
              have O3 := Lib.hid o3
              have B3 : Hid (Below w.heap.size w w3) := Lib.hid (un_bel HB.out H2.out.chg R2.out g3 LT.out)
              have y1 : w3.cell? ⟨w.heap.size, 0, none⟩ = some (.slice (some ⟨g, 0, none⟩) 1 c) := by simp [World.cell?, G1.out]
              have y2 : w3.frozen? ⟨w.heap.size, 0, none⟩ = false := by simp [World.frozen?, G1.out]
              clear r3 g3 o3 x2 x3
              refine hK _ _ ?_
              clear hK K
              refine wpAny_ready (rs := [6]) (by kernel_rfl) (by simp) ?_
              refine AllReady.cons (o := { dst := none, op := Op.store 22 (Operand.tmp 2) (Operand.tmp 21), type := 0, pos := "pack.go:42", after := #[{ on := 5, ground := Ground.data }, { on := 5, ground := Ground.chain }, { on := 0, ground := Ground.phase }, { on := 1, ground := Ground.phase }, { on := 2, ground := Ground.phase }, { on := 3, ground := Ground.phase }, { on := 4, ground := Ground.phase }, { on := 5, ground := Ground.phase }], guard := none }) rfl (fun K hK => ?_) AllReady.nil
              go_simp
              refine hK _ _ ?_
              clear hK K
              refine wpAny_done (by kernel_rfl) ?_ _
              go_wp2
              refine ⟨.inr (.inr ⟨rfl, un_next G1.out G2.out G3.out R3.out B3.out⟩), by simp [intOf]⟩
    · obtain ⟨A, c, e1, e2, hr, hrow, hb, _⟩ := hu
      have x1 : wr.cell? ⟨w.heap.size, 0, none⟩ = some (.slice A 2 c) := by simp [World.cell?, e1]
      have x2 : wr.frozen? ⟨w.heap.size, 0, none⟩ = false := by simp [World.frozen?, e1]
      have x3 : wr.frozen? ⟨w.heap.size + 1, 0, none⟩ = false := by simp [World.frozen?, e2]
      have x4 : wr.cell? ⟨w.heap.size + 1 + 1, 0, none⟩ = some (.string ⟨#[]⟩) := hr.cell
      have x5 : wr.cell? ⟨w.heap.size + 1, 0, none⟩ = some (.int .i64 0) := by simp [World.cell?, e2]
      have E1 := Lib.hid e1
      have E2 := Lib.hid e2
      have RW := Lib.hid hrow
      have HB := Lib.hid hb
      clear e1 e2 hr hrow hb
      go_wp2_with (first
        | (go_at_call 21; ((with_reducible refine (check_ok _ _ _).mono ?_); rintro e w2 ⟨rfl, rfl⟩))
        | fail)
      obtain ⟨W, hW⟩ : ∃ W, W = ((wr.setCell ⟨w.heap.size, 0, none⟩ (.slice A 2 c)).setCell ⟨w.heap.size + 1, 0, none⟩ (.int .i64 0)) := ⟨_, rfl⟩
      have hend : W.heap[w.heap.size]? = some (.cells #[.slice A 2 c] 22 (0, 0)) ∧ W.heap[w.heap.size + 1]? = some (.cells #[.int .i64 0] 31 (0, 0)) ∧ RdT W A lv ∧ Below w.heap.size w W := by
        rw [hW]; exact un_end E1.out E2.out RW.out HB.out
      obtain ⟨z1, z2, z3, z4⟩ := hend
      rw [← hW]
      clear hW E1 E2 RW HB x1 x2 x3 x4 x5
      have y1 : W.cell? ⟨w.heap.size, 0, none⟩ = some (.slice A 2 c) := by simp [World.cell?, z1]
      have y2 : W.cell? ⟨w.heap.size + 1, 0, none⟩ = some (.int .i64 0) := by simp [World.cell?, z2]
      refine leaves_cons (f := 18) (args := #[.pointer (some ⟨w.heap.size, 0, none⟩), .pointer (some ⟨w.heap.size + 1, 0, none⟩)]) (by simp) (by simp [go_sem]) ?_
      refine (catch_idle _ _ _).mono ?_
      rintro e u' w'' ⟨rfl, rfl, rfl⟩
      simp [Leaves, settle, results, Try.results11, go_sem, y1, y2, UnP]
      exact ⟨z3, z4⟩
end Go.Proofs.Yteiifcmdpoonmaa
