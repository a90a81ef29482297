/- Unpack. -/
import Derived.Test.YteiifcmdpoonmaaP6
import Derived.Test.YteiifcmdpoonmaaN6
namespace Go.Proofs.Yteiifcmdpoonmaa
set_option linter.unusedSimpArgs false
open Go.RowKit Go.Maps Go.Shelf
set_option linter.unusedVariables false
theorem un_bel0 {w wr w2 : World} (hB : Below w.heap.size w wr) (hc : Chg (fun x => x = w.heap.size + 1 + 1) wr.drew w2) (hl : w.heap.size + 1 + 1 < wr.heap.size) : Below w.heap.size w w2 :=
  (hB.trans (drew_bel wr |>.mono (by omega))).trans (hc.below (fun g e => by omega) (show w.heap.size ≤ wr.heap.size by omega))
/-- What lies between the rounds of Unpack: the entries' box, the error's, the reader, the entries. -/
def UnJ (w : World) (l : List TT) (s : ByteArray) (wr : World) : Prop :=
  ∃ A c, wr.heap[w.heap.size]? = some (.cells #[.slice A l.length c] 22 (0, 0)) ∧ wr.heap[w.heap.size + 1]? = some (.cells #[.int .i64 0] 31 (0, 0)) ∧ Rdr wr (w.heap.size + 1 + 1) s ∧ Row wr (w.heap.size + 1 + 1 + 1) A l c ∧ Below w.heap.size w wr
theorem un_next2 {w w3 : World} {A A' : Option Addr} {c c' k : Nat} {l : List TT} {x : TT} {s : ByteArray} (hk : l.length = k) (h1 : w3.heap[w.heap.size]? = some (.cells #[.slice A k c] 22 (0, 0))) (h2 : w3.heap[w.heap.size + 1]? = some (.cells #[.int .i64 0] 31 (0, 0))) (h3 : Rdr w3 (w.heap.size + 1 + 1) s) (h4 : Row w3 (w.heap.size + 1 + 1 + 1) A' (l ++ [x]) c') (h5 : Below w.heap.size w w3) :
    UnJ w (l ++ [x]) s (w3.setCell ⟨w.heap.size, 0, none⟩ (.slice A' (k + 1) c')) := by
  subst hk
  obtain ⟨A2, c2, e1, e2, e3, e4, e5, _⟩ := un_next h1 h2 h3 h4 h5
  exact ⟨A2, c2, e1, e2, e3, e4, e5⟩
/-- What Unpack answers. -/
def UnQ (y : Except Int (List TT)) (w : World) (e : Ending) (w' : World) : Prop :=
  match y with
  | .ok l => ∃ A c, e = .returned (.tuple #[.slice A l.length c, .int .i64 0]) ∧ RdT w' A l ∧ Below w.heap.size w w'
  | .error x => e = .returned (.tuple #[.slice none 0 0, .int .i64 x]) ∧ Below w.heap.size w w'
theorem un_caught {W : World} {b : Nat} {u v : Value} {x : Int} (h1 : W.heap[b]? = some (.cells #[u] 22 (0, 0))) (h2 : W.heap[b + 1]? = some (.cells #[v] 31 (0, 0))) :
    ((W.setCell ⟨b, 0, none⟩ (.slice none 0 0)).setCell ⟨b + 1, 0, none⟩ (.int .i64 x)).cell? ⟨b, 0, none⟩ = some (.slice none 0 0) ∧ ((W.setCell ⟨b, 0, none⟩ (.slice none 0 0)).setCell ⟨b + 1, 0, none⟩ (.int .i64 x)).cell? ⟨b + 1, 0, none⟩ = some (.int .i64 x) ∧ Chg (fun g => g = b ∨ g = b + 1) W ((W.setCell ⟨b, 0, none⟩ (.slice none 0 0)).setCell ⟨b + 1, 0, none⟩ (.int .i64 x)) := by
  have c1 : Chg (fun x => x = b) W (W.setCell ⟨b, 0, none⟩ (.slice none 0 0)) := Chg.set W _ rfl
  have c2 : Chg (fun x => x = b + 1) (W.setCell ⟨b, 0, none⟩ (.slice none 0 0)) ((W.setCell ⟨b, 0, none⟩ (.slice none 0 0)).setCell ⟨b + 1, 0, none⟩ (.int .i64 x)) := Chg.set _ _ rfl
  have g1 : (W.setCell ⟨b, 0, none⟩ (.slice none 0 0)).heap[b]? = some (.cells #[.slice none 0 0] 22 (0, 0)) := by
    simp [World.setCell, Array.getElem?_modify, h1]
  have g2 := keep_chg c1 h2 (by omega)
  have g3 := keep_chg c2 g1 (by omega)
  refine ⟨by simp [World.cell?, g3], ?_, (c1.more (fun g e => .inl (.inl e))).trans c2 (fun g e => .inl (.inr e))⟩
  generalize (W.setCell ⟨b, 0, none⟩ (.slice none 0 0)) = V at g2
  have : (V.setCell ⟨b + 1, 0, none⟩ (.int .i64 x)).heap[b + 1]? = some (.cells #[.int .i64 x] 31 (0, 0)) := by
    simp [World.setCell, Array.getElem?_modify, g2]
  simp [World.cell?, this]
/-- The door where a reader gave up. -/
theorem door_panic (tmps : Array Value) (w W : World) (x : Int) {u v : Value} (t2 : tmps.getD 2 undef = .pointer (some ⟨w.heap.size, 0, none⟩)) (t3 : tmps.getD 3 undef = .pointer (some ⟨w.heap.size + 1, 0, none⟩))
    (h1 : W.heap[w.heap.size]? = some (.cells #[u] 22 (0, 0))) (h2 : W.heap[w.heap.size + 1]? = some (.cells #[v] 31 (0, 0))) (hb : Below w.heap.size w W) :
    bodyPostD Try.prog Try.f11 (UnQ (.error x) w) (Exit.panic [{ v := .iface 31 (.int .i64 x), recovered := false }]) { tmps := tmps, defers := [{ target := Target.fn (Fn.func 18) #[.pointer (some ⟨w.heap.size, 0, none⟩), .pointer (some ⟨w.heap.size + 1, 0, none⟩)], args := #[] }] } W := by
  obtain ⟨y1, y2, y3⟩ := un_caught (x := x) h1 h2
  have hB : Below w.heap.size w ((W.setCell ⟨w.heap.size, 0, none⟩ (.slice none 0 0)).setCell ⟨w.heap.size + 1, 0, none⟩ (.int .i64 x)) := hb.trans (y3.below (lo := w.heap.size) (fun g e => by omega) hb.size)
  refine leaves_cons (f := 18) (args := #[.pointer (some ⟨w.heap.size, 0, none⟩), .pointer (some ⟨w.heap.size + 1, 0, none⟩)]) (by simp) (by simp [go_sem]) ?_
  refine (catch_panic w.heap.size x W h1 h2).mono ?_
  rintro e u' w'' ⟨rfl, rfl, rfl⟩
  generalize ((W.setCell ⟨w.heap.size, 0, none⟩ (.slice none 0 0)).setCell ⟨w.heap.size + 1, 0, none⟩ (.int .i64 x)) = V at *
  have t2' : tmps[2]?.getD undef = .pointer (some ⟨w.heap.size, 0, none⟩) := by simpa using t2
  have t3' : tmps[3]?.getD undef = .pointer (some ⟨w.heap.size + 1, 0, none⟩) := by simpa using t3
  simp [Leaves, settle, results, Try.results11, go_sem, t2', t3', asAddr, y1, y2, UnQ, hB]
set_option maxHeartbeats 8000000 in
theorem unpack_some (s r : ByteArray) (m : Nat) (y : Except Int (List TT)) (w : World) (hs : s.size ≤ 400000) (ht : tnF s = ((m : Int), r, 0)) (hU : Un m [] r y) : Calls Try.prog 11 #[.string s] w (UnQ y w) := by
  have hmf : ∀ (fn : Fn) (first cap : Array Value) (w : World), (Instr.makeFunc fn first cap).run Try.prog w = .ok (.func fn first cap) w := fun _ _ _ _ => rfl
  have hV : Below w.heap.size w (((w.alloc (.cells #[.slice none 0 0] 22)).alloc (.cells #[.int .i64 0] 31)).alloc (.cells #[.string s] 41)) := bel_alloc (bel_alloc (bel_alloc (Below.refl _ _) _) _) _
  have k1 : (((w.alloc (.cells #[.slice none 0 0] 22)).alloc (.cells #[.int .i64 0] 31)).alloc (.cells #[.string s] 41)).heap[w.heap.size]? = some (.cells #[.slice none 0 0] 22 (0, 0)) :=
    keep_bel (bel_alloc (alb _ _) _) (heap_alloc_new w _)
  have k2 : (((w.alloc (.cells #[.slice none 0 0] 22)).alloc (.cells #[.int .i64 0] 31)).alloc (.cells #[.string s] 41)).heap[w.heap.size + 1]? = some (.cells #[.int .i64 0] 31 (0, 0)) := by
    have := heap_alloc_new (w.alloc (.cells #[.slice none 0 0] 22)) (.cells #[.int .i64 0] 31)
    rw [World.size_alloc] at this
    exact keep_bel (alb _ _) this
  have k3 : Rdr (((w.alloc (.cells #[.slice none 0 0] 22)).alloc (.cells #[.int .i64 0] 31)).alloc (.cells #[.string s] 41)) (w.heap.size + 1 + 1) s := by
    have := heap_alloc_new ((w.alloc (.cells #[.slice none 0 0] 22)).alloc (.cells #[.int .i64 0] 31)) (.cells #[.string s] 41)
    rw [World.size_alloc, World.size_alloc] at this
    exact this
  have N0 := Lib.hid (num_ok _ _ _ (w.heap.size + 1 + 1) _ k3 ht)
  have U0 : Hid (∀ W, Go1 (w.heap.size + 1 + 1) r (((w.alloc (.cells #[.slice none 0 0] 22)).alloc (.cells #[.int .i64 0] 31)).alloc (.cells #[.string s] 41)) W → UnJ w [] r W) := Lib.hid (fun W hW => ⟨none, 0, keep_chg hW.chg k1 (fun e => by omega), keep_chg hW.chg k2 (fun e => by omega), hW.rdr, .inl ⟨rfl, rfl⟩, hV.trans (hW.chg.below (fun g e => by omega) (by simp; omega))⟩)
  have hrs := (tnF_sz s r _ ht).1
  have HM : Hid (m ≤ 2147483647) := Lib.hid (by have := (tnF_sz s r _ ht).2.2.1; omega)
  have HS : Hid (r.size ≤ 400000) := Lib.hid (by omega)
  have HU := Lib.hid hU
  clear hV k1 k2 k3 hU ht hrs hs
  go_enter_defers Try.func11, Try.ntmps11
  go_wp2_with (first
    | (go_at_call 19; ((with_reducible refine N0.out.mono ?_); rintro e w1 ⟨rfl, h1⟩; have U1 := Lib.hid (U0.out _ h1); clear h1))
    | fail)
  go_loopw [5] (fun iv wr => ∃ (n : Nat) (l : List TT) (t : ByteArray), iv = .int .i64 n ∧ n ≤ 2147483647 ∧ Un n l t y ∧ UnJ w l t wr ∧ l.length + t.size ≤ 400000 ∧ (lastK ⟨#[]⟩ l).size + t.size ≤ 400000) (fun i _ => (intOf i).toNat)
  case atStart => exact ⟨m, [], r, rfl, HM.out, HU.out, U1.out, by simpa using HS.out, by have h := HS.out; simp only [lastK]; show 0 + r.size ≤ 400000; omega⟩
  case round =>
    obtain ⟨n0, l, t, rfl, hn9, hu, hj, hb1, hb2⟩ := hrel
    obtain ⟨A, c, e1, e2, hr, hrow, hb⟩ := hj
    obtain ⟨k, hk⟩ : ∃ k, l.length = k := ⟨_, rfl⟩
    rw [hk] at e1 hb1
    have x1 : wr.cell? ⟨w.heap.size, 0, none⟩ = some (.slice A k c) := by simp [World.cell?, e1]
    have hlt : w.heap.size + 1 + 1 < wr.heap.size := rdr_lt hr
    have E1 := Lib.hid e1
    have E2 := Lib.hid e2
    have HR := Lib.hid hr
    have RW := Lib.hid hrow
    have HB := Lib.hid hb
    have LT := Lib.hid hlt
    have HK := Lib.hid hk
    have HK2 := Lib.hid hb1
    have HK3 := Lib.hid hb2
    clear e1 e2 hr hrow hb hlt hk hb1 hb2
    cases hu with
    | err n _ _ e hE =>
      have i1 : (0 : Int) < ((n + 1 : Nat) : Int) := by omega
      have C := Lib.hid (entry_any (w.heap.size + 1 + 1) A k c l t _ wr.drew hE HR.out HK.out (by have := HK2.out; omega) (rdt_later RW.out.rd (drew_bel wr)) (by have := HK3.out; omega))
      go_wp2_with fail
      refine wp_region_any (by kernel_rfl) ?_
      change wpAny _ _ _ _ _ _ _ (World.drew _)
      refine wpAny_ready (rs := [0, 1, 2]) (by kernel_rfl) (by simp) ?_
      refine AllReady.cons (o := { dst := some 16, op := Op.load 22 (Operand.tmp 2), type := 22, pos := "pack.go:42", after := #[], guard := none }) rfl (fun K hK => ?_) (AllReady.cons (o := { dst := some 17, op := Op.move (Operand.tmp 4), type := 39, pos := "pack.go:42", after := #[], guard := none }) rfl (fun K hK => ?_) (AllReady.cons (o := { dst := some 18, op := Op.load 22 (Operand.tmp 2), type := 22, pos := "pack.go:42", after := #[], guard := none }) rfl (fun K hK => ?_) AllReady.nil))
      · go_simp
        refine hK _ _ ?_
        clear hK K
        refine wpAny_ready (rs := [1, 2]) (by kernel_rfl) (by simp) ?_
        refine AllReady.cons (o := { dst := some 17, op := Op.move (Operand.tmp 4), type := 39, pos := "pack.go:42", after := #[], guard := none }) rfl (fun K hK => ?_) (AllReady.cons (o := { dst := some 18, op := Op.load 22 (Operand.tmp 2), type := 22, pos := "pack.go:42", after := #[], guard := none }) rfl (fun K hK => ?_) AllReady.nil)
        · go_simp
          refine hK _ _ ?_
          clear hK K
          refine wpAny_ready (rs := [2]) (by kernel_rfl) (by simp) ?_
          refine AllReady.cons (o := { dst := some 18, op := Op.load 22 (Operand.tmp 2), type := 22, pos := "pack.go:42", after := #[], guard := none }) rfl (fun K hK => ?_) AllReady.nil
          go_simp
          refine hK _ _ ?_
          clear hK K
          refine wpAny_ready (rs := [3]) (by kernel_rfl) (by simp) ?_
          refine AllReady.cons (o := { dst := some 19, op := Op.call { callee := Callee.value (Operand.func 20), args := #[Operand.tmp 17, Operand.tmp 18], argTypes := #[39, 22] }, type := 30, pos := "pack.go:42", after := #[{ on := 1, ground := Ground.data }, { on := 2, ground := Ground.data }], guard := none }) rfl (fun K hK => ?_) AllReady.nil
          go_simp
          refine C.out.mono ?_
          rintro e w2 ⟨rfl, h2⟩
          have F1 := Lib.hid (keep_chg (E := fun x => x = w.heap.size + 1 + 1) h2 (show wr.drew.heap[w.heap.size]? = _ from E1.out) (fun e => by omega))
          have F2 := Lib.hid (keep_chg (E := fun x => x = w.heap.size + 1 + 1) h2 (show wr.drew.heap[w.heap.size + 1]? = _ from E2.out) (fun e => by omega))
          have HB2 := Lib.hid (un_bel0 HB.out h2 LT.out)
          show bodyPostD Try.prog Try.f11 (UnQ (.error e) w) (Exit.panic [{ v := .iface 31 (.int .i64 e), recovered := false }]) _ w2
          exact door_panic _ w w2 e rfl rfl F1.out F2.out HB2.out --end
        · go_simp
          refine hK _ _ ?_
          clear hK K
          refine wpAny_ready (rs := [1]) (by kernel_rfl) (by simp) ?_
          refine AllReady.cons (o := { dst := some 17, op := Op.move (Operand.tmp 4), type := 39, pos := "pack.go:42", after := #[], guard := none }) rfl (fun K hK => ?_) AllReady.nil
          go_simp
          refine hK _ _ ?_
          clear hK K
          refine wpAny_ready (rs := [3]) (by kernel_rfl) (by simp) ?_
          refine AllReady.cons (o := { dst := some 19, op := Op.call { callee := Callee.value (Operand.func 20), args := #[Operand.tmp 17, Operand.tmp 18], argTypes := #[39, 22] }, type := 30, pos := "pack.go:42", after := #[{ on := 1, ground := Ground.data }, { on := 2, ground := Ground.data }], guard := none }) rfl (fun K hK => ?_) AllReady.nil
          go_simp
          refine C.out.mono ?_
          rintro e w2 ⟨rfl, h2⟩
          have F1 := Lib.hid (keep_chg (E := fun x => x = w.heap.size + 1 + 1) h2 (show wr.drew.heap[w.heap.size]? = _ from E1.out) (fun e => by omega))
          have F2 := Lib.hid (keep_chg (E := fun x => x = w.heap.size + 1 + 1) h2 (show wr.drew.heap[w.heap.size + 1]? = _ from E2.out) (fun e => by omega))
          have HB2 := Lib.hid (un_bel0 HB.out h2 LT.out)
          show bodyPostD Try.prog Try.f11 (UnQ (.error e) w) (Exit.panic [{ v := .iface 31 (.int .i64 e), recovered := false }]) _ w2
          exact door_panic _ w w2 e rfl rfl F1.out F2.out HB2.out --end
      · go_simp
        refine hK _ _ ?_
        clear hK K
        refine wpAny_ready (rs := [0, 2]) (by kernel_rfl) (by simp) ?_
        refine AllReady.cons (o := { dst := some 16, op := Op.load 22 (Operand.tmp 2), type := 22, pos := "pack.go:42", after := #[], guard := none }) rfl (fun K hK => ?_) (AllReady.cons (o := { dst := some 18, op := Op.load 22 (Operand.tmp 2), type := 22, pos := "pack.go:42", after := #[], guard := none }) rfl (fun K hK => ?_) AllReady.nil)
        · go_simp
          refine hK _ _ ?_
          clear hK K
          refine wpAny_ready (rs := [2]) (by kernel_rfl) (by simp) ?_
          refine AllReady.cons (o := { dst := some 18, op := Op.load 22 (Operand.tmp 2), type := 22, pos := "pack.go:42", after := #[], guard := none }) rfl (fun K hK => ?_) AllReady.nil
          go_simp
          refine hK _ _ ?_
          clear hK K
          refine wpAny_ready (rs := [3]) (by kernel_rfl) (by simp) ?_
          refine AllReady.cons (o := { dst := some 19, op := Op.call { callee := Callee.value (Operand.func 20), args := #[Operand.tmp 17, Operand.tmp 18], argTypes := #[39, 22] }, type := 30, pos := "pack.go:42", after := #[{ on := 1, ground := Ground.data }, { on := 2, ground := Ground.data }], guard := none }) rfl (fun K hK => ?_) AllReady.nil
          go_simp
          refine C.out.mono ?_
          rintro e w2 ⟨rfl, h2⟩
          have F1 := Lib.hid (keep_chg (E := fun x => x = w.heap.size + 1 + 1) h2 (show wr.drew.heap[w.heap.size]? = _ from E1.out) (fun e => by omega))
          have F2 := Lib.hid (keep_chg (E := fun x => x = w.heap.size + 1 + 1) h2 (show wr.drew.heap[w.heap.size + 1]? = _ from E2.out) (fun e => by omega))
          have HB2 := Lib.hid (un_bel0 HB.out h2 LT.out)
          show bodyPostD Try.prog Try.f11 (UnQ (.error e) w) (Exit.panic [{ v := .iface 31 (.int .i64 e), recovered := false }]) _ w2
          exact door_panic _ w w2 e rfl rfl F1.out F2.out HB2.out --end
        · go_simp
          refine hK _ _ ?_
          clear hK K
          refine wpAny_ready (rs := [0, 3]) (by kernel_rfl) (by simp) ?_
          refine AllReady.cons (o := { dst := some 16, op := Op.load 22 (Operand.tmp 2), type := 22, pos := "pack.go:42", after := #[], guard := none }) rfl (fun K hK => ?_) (AllReady.cons (o := { dst := some 19, op := Op.call { callee := Callee.value (Operand.func 20), args := #[Operand.tmp 17, Operand.tmp 18], argTypes := #[39, 22] }, type := 30, pos := "pack.go:42", after := #[{ on := 1, ground := Ground.data }, { on := 2, ground := Ground.data }], guard := none }) rfl (fun K hK => ?_) AllReady.nil)
          · go_simp
            refine hK _ _ ?_
            clear hK K
            refine wpAny_ready (rs := [3]) (by kernel_rfl) (by simp) ?_
            refine AllReady.cons (o := { dst := some 19, op := Op.call { callee := Callee.value (Operand.func 20), args := #[Operand.tmp 17, Operand.tmp 18], argTypes := #[39, 22] }, type := 30, pos := "pack.go:42", after := #[{ on := 1, ground := Ground.data }, { on := 2, ground := Ground.data }], guard := none }) rfl (fun K hK => ?_) AllReady.nil
            go_simp
            refine C.out.mono ?_
            rintro e w2 ⟨rfl, h2⟩
            have F1 := Lib.hid (keep_chg (E := fun x => x = w.heap.size + 1 + 1) h2 (show wr.drew.heap[w.heap.size]? = _ from E1.out) (fun e => by omega))
            have F2 := Lib.hid (keep_chg (E := fun x => x = w.heap.size + 1 + 1) h2 (show wr.drew.heap[w.heap.size + 1]? = _ from E2.out) (fun e => by omega))
            have HB2 := Lib.hid (un_bel0 HB.out h2 LT.out)
            show bodyPostD Try.prog Try.f11 (UnQ (.error e) w) (Exit.panic [{ v := .iface 31 (.int .i64 e), recovered := false }]) _ w2
            exact door_panic _ w w2 e rfl rfl F1.out F2.out HB2.out --end
          · go_simp
            refine C.out.mono ?_
            rintro e w2 ⟨rfl, h2⟩
            have F1 := Lib.hid (keep_chg (E := fun x => x = w.heap.size + 1 + 1) h2 (show wr.drew.heap[w.heap.size]? = _ from E1.out) (fun e => by omega))
            have F2 := Lib.hid (keep_chg (E := fun x => x = w.heap.size + 1 + 1) h2 (show wr.drew.heap[w.heap.size + 1]? = _ from E2.out) (fun e => by omega))
            have HB2 := Lib.hid (un_bel0 HB.out h2 LT.out)
            show bodyPostD Try.prog Try.f11 (UnQ (.error e) w) (Exit.panic [{ v := .iface 31 (.int .i64 e), recovered := false }]) _ w2
            exact door_panic _ w w2 e rfl rfl F1.out F2.out HB2.out --end
      · go_simp
        refine hK _ _ ?_
        clear hK K
        refine wpAny_ready (rs := [0, 1]) (by kernel_rfl) (by simp) ?_
        refine AllReady.cons (o := { dst := some 16, op := Op.load 22 (Operand.tmp 2), type := 22, pos := "pack.go:42", after := #[], guard := none }) rfl (fun K hK => ?_) (AllReady.cons (o := { dst := some 17, op := Op.move (Operand.tmp 4), type := 39, pos := "pack.go:42", after := #[], guard := none }) rfl (fun K hK => ?_) AllReady.nil)
        · go_simp
          refine hK _ _ ?_
          clear hK K
          refine wpAny_ready (rs := [1]) (by kernel_rfl) (by simp) ?_
          refine AllReady.cons (o := { dst := some 17, op := Op.move (Operand.tmp 4), type := 39, pos := "pack.go:42", after := #[], guard := none }) rfl (fun K hK => ?_) AllReady.nil
          go_simp
          refine hK _ _ ?_
          clear hK K
          refine wpAny_ready (rs := [3]) (by kernel_rfl) (by simp) ?_
          refine AllReady.cons (o := { dst := some 19, op := Op.call { callee := Callee.value (Operand.func 20), args := #[Operand.tmp 17, Operand.tmp 18], argTypes := #[39, 22] }, type := 30, pos := "pack.go:42", after := #[{ on := 1, ground := Ground.data }, { on := 2, ground := Ground.data }], guard := none }) rfl (fun K hK => ?_) AllReady.nil
          go_simp
          refine C.out.mono ?_
          rintro e w2 ⟨rfl, h2⟩
          have F1 := Lib.hid (keep_chg (E := fun x => x = w.heap.size + 1 + 1) h2 (show wr.drew.heap[w.heap.size]? = _ from E1.out) (fun e => by omega))
          have F2 := Lib.hid (keep_chg (E := fun x => x = w.heap.size + 1 + 1) h2 (show wr.drew.heap[w.heap.size + 1]? = _ from E2.out) (fun e => by omega))
          have HB2 := Lib.hid (un_bel0 HB.out h2 LT.out)
          show bodyPostD Try.prog Try.f11 (UnQ (.error e) w) (Exit.panic [{ v := .iface 31 (.int .i64 e), recovered := false }]) _ w2
          exact door_panic _ w w2 e rfl rfl F1.out F2.out HB2.out --end
        · go_simp
          refine hK _ _ ?_
          clear hK K
          refine wpAny_ready (rs := [0, 3]) (by kernel_rfl) (by simp) ?_
          refine AllReady.cons (o := { dst := some 16, op := Op.load 22 (Operand.tmp 2), type := 22, pos := "pack.go:42", after := #[], guard := none }) rfl (fun K hK => ?_) (AllReady.cons (o := { dst := some 19, op := Op.call { callee := Callee.value (Operand.func 20), args := #[Operand.tmp 17, Operand.tmp 18], argTypes := #[39, 22] }, type := 30, pos := "pack.go:42", after := #[{ on := 1, ground := Ground.data }, { on := 2, ground := Ground.data }], guard := none }) rfl (fun K hK => ?_) AllReady.nil)
          · go_simp
            refine hK _ _ ?_
            clear hK K
            refine wpAny_ready (rs := [3]) (by kernel_rfl) (by simp) ?_
            refine AllReady.cons (o := { dst := some 19, op := Op.call { callee := Callee.value (Operand.func 20), args := #[Operand.tmp 17, Operand.tmp 18], argTypes := #[39, 22] }, type := 30, pos := "pack.go:42", after := #[{ on := 1, ground := Ground.data }, { on := 2, ground := Ground.data }], guard := none }) rfl (fun K hK => ?_) AllReady.nil
            go_simp
            refine C.out.mono ?_
            rintro e w2 ⟨rfl, h2⟩
            have F1 := Lib.hid (keep_chg (E := fun x => x = w.heap.size + 1 + 1) h2 (show wr.drew.heap[w.heap.size]? = _ from E1.out) (fun e => by omega))
            have F2 := Lib.hid (keep_chg (E := fun x => x = w.heap.size + 1 + 1) h2 (show wr.drew.heap[w.heap.size + 1]? = _ from E2.out) (fun e => by omega))
            have HB2 := Lib.hid (un_bel0 HB.out h2 LT.out)
            show bodyPostD Try.prog Try.f11 (UnQ (.error e) w) (Exit.panic [{ v := .iface 31 (.int .i64 e), recovered := false }]) _ w2
            exact door_panic _ w w2 e rfl rfl F1.out F2.out HB2.out --end
          · go_simp
            refine C.out.mono ?_
            rintro e w2 ⟨rfl, h2⟩
            have F1 := Lib.hid (keep_chg (E := fun x => x = w.heap.size + 1 + 1) h2 (show wr.drew.heap[w.heap.size]? = _ from E1.out) (fun e => by omega))
            have F2 := Lib.hid (keep_chg (E := fun x => x = w.heap.size + 1 + 1) h2 (show wr.drew.heap[w.heap.size + 1]? = _ from E2.out) (fun e => by omega))
            have HB2 := Lib.hid (un_bel0 HB.out h2 LT.out)
            show bodyPostD Try.prog Try.f11 (UnQ (.error e) w) (Exit.panic [{ v := .iface 31 (.int .i64 e), recovered := false }]) _ w2
            exact door_panic _ w w2 e rfl rfl F1.out F2.out HB2.out --end
    | step n _ _ q x _ hE hU2 =>
      obtain ⟨a0, a1⟩ := x
      have i9 : (n : Int) ≤ 2147483647 := by omega
      have i8 : (0 : Int) ≤ (n : Int) := by omega
      have iw : wrap64 (n : Int) = (n : Int) := by unfold wrap64; omega
      have i1 : (0 : Int) < ((n + 1 : Nat) : Int) := by omega
      have C := Lib.hid (entry_any (w.heap.size + 1 + 1) A k c l t _ wr.drew hE HR.out HK.out (by have := HK2.out; omega) (rdt_later RW.out.rd (drew_bel wr)) (by have := HK3.out; omega))
      have HU2 := Lib.hid hU2
      have HN9 : Hid (n ≤ 2147483647) := Lib.hid (by omega)
      have HSZ : Hid ((l ++ [(a0, a1)]).length + q.size ≤ 400000 ∧ (lastK ⟨#[]⟩ (l ++ [(a0, a1)])).size + q.size ≤ 400000) := Lib.hid (by
        obtain ⟨z1, z2, z3⟩ := en_size hE
        have h1 := HK2.out
        have h2 := HK3.out
        have h3 := HK.out
        rw [lastK_snoc]
        simp only [List.length_append, List.length_cons, List.length_nil] at *
        omega)
      clear hE hU2
      go_wp2_with fail
      refine wp_region_any (by kernel_rfl) ?_
      change wpAny _ _ _ _ _ _ _ (World.drew _)
      refine wpAny_ready (rs := [0, 1, 2]) (by kernel_rfl) (by simp) ?_
      refine AllReady.cons (o := { dst := some 16, op := Op.load 22 (Operand.tmp 2), type := 22, pos := "pack.go:42", after := #[], guard := none }) rfl (fun K hK => ?_) (AllReady.cons (o := { dst := some 17, op := Op.move (Operand.tmp 4), type := 39, pos := "pack.go:42", after := #[], guard := none }) rfl (fun K hK => ?_) (AllReady.cons (o := { dst := some 18, op := Op.load 22 (Operand.tmp 2), type := 22, pos := "pack.go:42", after := #[], guard := none }) rfl (fun K hK => ?_) AllReady.nil))
      · go_simp
        refine hK _ _ ?_
        clear hK K
        refine wpAny_ready (rs := [1, 2]) (by kernel_rfl) (by simp) ?_
        refine AllReady.cons (o := { dst := some 17, op := Op.move (Operand.tmp 4), type := 39, pos := "pack.go:42", after := #[], guard := none }) rfl (fun K hK => ?_) (AllReady.cons (o := { dst := some 18, op := Op.load 22 (Operand.tmp 2), type := 22, pos := "pack.go:42", after := #[], guard := none }) rfl (fun K hK => ?_) AllReady.nil)
        · go_simp
          refine hK _ _ ?_
          clear hK K
          refine wpAny_ready (rs := [2]) (by kernel_rfl) (by simp) ?_
          refine AllReady.cons (o := { dst := some 18, op := Op.load 22 (Operand.tmp 2), type := 22, pos := "pack.go:42", after := #[], guard := none }) rfl (fun K hK => ?_) AllReady.nil
          go_simp
          refine hK _ _ ?_
          clear hK K
          refine wpAny_ready (rs := [3]) (by kernel_rfl) (by simp) ?_
          refine AllReady.cons (o := { dst := some 19, op := Op.call { callee := Callee.value (Operand.func 20), args := #[Operand.tmp 17, Operand.tmp 18], argTypes := #[39, 22] }, type := 30, pos := "pack.go:42", after := #[{ on := 1, ground := Ground.data }, { on := 2, ground := Ground.data }], guard := none }) rfl (fun K hK => ?_) AllReady.nil
          go_simp
          refine C.out.mono ?_
          rintro e w2 ⟨rfl, h2⟩
          have H2 := Lib.hid h2
          have F1 := Lib.hid (keep_chg (E := fun x => x = w.heap.size + 1 + 1) h2.chg (show wr.drew.heap[w.heap.size]? = _ from E1.out) (fun e => by omega))
          have F2 := Lib.hid (keep_chg (E := fun x => x = w.heap.size + 1 + 1) h2.chg (show wr.drew.heap[w.heap.size + 1]? = _ from E2.out) (fun e => by omega))
          have R2 := Lib.hid (Row.chg (RW.out.later (drew_bel wr)) h2.chg)
          have SZ : Hid (wr.heap.size ≤ w2.heap.size) := Lib.hid h2.chg.size
          have x2 : w2.cell? ⟨w.heap.size, 0, none⟩ = some (.slice A k c) := by simp [World.cell?, F1.out]
          have x3 : (w2.alloc (.cells #[.string a0, .string a1] 30)).cell? ⟨w.heap.size, 0, none⟩ = some (.slice A k c) := bel_later (alb _ _) x2
          clear h2
          simp only
          refine hK _ _ ?_
          clear hK K
          refine wpAny_ready (rs := [4]) (by kernel_rfl) (by simp) ?_
          refine AllReady.cons (o := { dst := some 20, op := Op.buildSlice 22 1 #[(0, Operand.tmp 19)], type := 22, pos := "pack.go:42", after := #[{ on := 3, ground := Ground.data }], guard := none }) rfl (fun K hK => ?_) AllReady.nil
          go_simp
          refine hK _ _ ?_
          clear hK K
          refine wpAny_ready (rs := [5]) (by kernel_rfl) (by simp) ?_
          refine AllReady.cons (o := { dst := some 21, op := Op.call { callee := Callee.builtin Builtin.append, args := #[Operand.tmp 16, Operand.tmp 20], argTypes := #[22, 22] }, type := 22, pos := "pack.go:42", after := #[{ on := 0, ground := Ground.data }, { on := 4, ground := Ground.data }, { on := 3, ground := Ground.chain }], guard := none }) rfl (fun K hK => ?_) AllReady.nil
          refine step_put_row _ rfl (.tmp 16) (.tmp 20) rfl (base := w.heap.size + 1 + 1 + 1) A k c l (some ⟨w2.heap.size, 0, none⟩) 1 1 [(a0, a1)] (by simp [Act.eval, Act.put]) (by simp [Act.eval, Act.put]) (R2.out.later (alb _ _)) HK.out (by have := HK2.out; omega) (by have h1 := LT.out; have h2 := SZ.out; simp; omega) rfl (by omega) (lit_rdt w2 (a0, a1)) ?_
          intro A' c' w3 r3 g3 o3
          have G1 := Lib.hid (keep_row g3 (keep_bel (alb w2 (.cells #[.string a0, .string a1] 30)) F1.out) (fun e => by have := (R2.out.fp_lt e).1; omega))
          have G2 := Lib.hid (keep_row g3 (keep_bel (alb w2 (.cells #[.string a0, .string a1] 30)) F2.out) (fun e => by have := (R2.out.fp_lt e).1; omega))
          have G3 : Hid (Rdr w3 (w.heap.size + 1 + 1) q) := Lib.hid (keep_row g3 (keep_bel (alb w2 (.cells #[.string a0, .string a1] 30)) H2.out.rdr) (fun e => by have := (R2.out.fp_lt e).1; omega))
          have R3 := Lib.hid r3
          have O3 := Lib.hid o3
          have B3 : Hid (Below w.heap.size w w3) := Lib.hid (un_bel HB.out H2.out.chg R2.out g3 LT.out)
          have y1 : w3.cell? ⟨w.heap.size, 0, none⟩ = some (.slice A k c) := by simp [World.cell?, G1.out]
          have y2 : w3.frozen? ⟨w.heap.size, 0, none⟩ = false := by simp [World.frozen?, G1.out]
          clear r3 g3 o3 x2 x3
          refine hK _ _ ?_
          clear hK K
          refine wpAny_ready (rs := [6]) (by kernel_rfl) (by simp) ?_
          refine AllReady.cons (o := { dst := none, op := Op.store 22 (Operand.tmp 2) (Operand.tmp 21), type := 0, pos := "pack.go:42", after := #[{ on := 5, ground := Ground.data }, { on := 5, ground := Ground.chain }, { on := 0, ground := Ground.phase }, { on := 1, ground := Ground.phase }, { on := 2, ground := Ground.phase }, { on := 3, ground := Ground.phase }, { on := 4, ground := Ground.phase }, { on := 5, ground := Ground.phase }], guard := none }) rfl (fun K hK => ?_) AllReady.nil
          go_simp
          refine hK _ _ ?_
          clear hK K
          refine wpAny_done (by kernel_rfl) ?_ _
          go_wp2
          exact ⟨⟨n, l ++ [(a0, a1)], q, by simp [iw], HN9.out, HU2.out, un_next2 HK.out G1.out G2.out G3.out R3.out B3.out, HSZ.out.1, HSZ.out.2⟩, by simp [intOf, iw]⟩
        · go_simp
          refine hK _ _ ?_
          clear hK K
          refine wpAny_ready (rs := [1]) (by kernel_rfl) (by simp) ?_
          refine AllReady.cons (o := { dst := some 17, op := Op.move (Operand.tmp 4), type := 39, pos := "pack.go:42", after := #[], guard := none }) rfl (fun K hK => ?_) AllReady.nil
          go_simp
          refine hK _ _ ?_
          clear hK K
          refine wpAny_ready (rs := [3]) (by kernel_rfl) (by simp) ?_
          refine AllReady.cons (o := { dst := some 19, op := Op.call { callee := Callee.value (Operand.func 20), args := #[Operand.tmp 17, Operand.tmp 18], argTypes := #[39, 22] }, type := 30, pos := "pack.go:42", after := #[{ on := 1, ground := Ground.data }, { on := 2, ground := Ground.data }], guard := none }) rfl (fun K hK => ?_) AllReady.nil
          go_simp
          refine C.out.mono ?_
          rintro e w2 ⟨rfl, h2⟩
          have H2 := Lib.hid h2
          have F1 := Lib.hid (keep_chg (E := fun x => x = w.heap.size + 1 + 1) h2.chg (show wr.drew.heap[w.heap.size]? = _ from E1.out) (fun e => by omega))
          have F2 := Lib.hid (keep_chg (E := fun x => x = w.heap.size + 1 + 1) h2.chg (show wr.drew.heap[w.heap.size + 1]? = _ from E2.out) (fun e => by omega))
          have R2 := Lib.hid (Row.chg (RW.out.later (drew_bel wr)) h2.chg)
          have SZ : Hid (wr.heap.size ≤ w2.heap.size) := Lib.hid h2.chg.size
          have x2 : w2.cell? ⟨w.heap.size, 0, none⟩ = some (.slice A k c) := by simp [World.cell?, F1.out]
          have x3 : (w2.alloc (.cells #[.string a0, .string a1] 30)).cell? ⟨w.heap.size, 0, none⟩ = some (.slice A k c) := bel_later (alb _ _) x2
          clear h2
          simp only
          refine hK _ _ ?_
          clear hK K
          refine wpAny_ready (rs := [4]) (by kernel_rfl) (by simp) ?_
          refine AllReady.cons (o := { dst := some 20, op := Op.buildSlice 22 1 #[(0, Operand.tmp 19)], type := 22, pos := "pack.go:42", after := #[{ on := 3, ground := Ground.data }], guard := none }) rfl (fun K hK => ?_) AllReady.nil
          go_simp
          refine hK _ _ ?_
          clear hK K
          refine wpAny_ready (rs := [5]) (by kernel_rfl) (by simp) ?_
          refine AllReady.cons (o := { dst := some 21, op := Op.call { callee := Callee.builtin Builtin.append, args := #[Operand.tmp 16, Operand.tmp 20], argTypes := #[22, 22] }, type := 22, pos := "pack.go:42", after := #[{ on := 0, ground := Ground.data }, { on := 4, ground := Ground.data }, { on := 3, ground := Ground.chain }], guard := none }) rfl (fun K hK => ?_) AllReady.nil
          refine step_put_row _ rfl (.tmp 16) (.tmp 20) rfl (base := w.heap.size + 1 + 1 + 1) A k c l (some ⟨w2.heap.size, 0, none⟩) 1 1 [(a0, a1)] (by simp [Act.eval, Act.put]) (by simp [Act.eval, Act.put]) (R2.out.later (alb _ _)) HK.out (by have := HK2.out; omega) (by have h1 := LT.out; have h2 := SZ.out; simp; omega) rfl (by omega) (lit_rdt w2 (a0, a1)) ?_
          intro A' c' w3 r3 g3 o3
          have G1 := Lib.hid (keep_row g3 (keep_bel (alb w2 (.cells #[.string a0, .string a1] 30)) F1.out) (fun e => by have := (R2.out.fp_lt e).1; omega))
          have G2 := Lib.hid (keep_row g3 (keep_bel (alb w2 (.cells #[.string a0, .string a1] 30)) F2.out) (fun e => by have := (R2.out.fp_lt e).1; omega))
          have G3 : Hid (Rdr w3 (w.heap.size + 1 + 1) q) := Lib.hid (keep_row g3 (keep_bel (alb w2 (.cells #[.string a0, .string a1] 30)) H2.out.rdr) (fun e => by have := (R2.out.fp_lt e).1; omega))
          have R3 := Lib.hid r3
          have O3 := Lib.hid o3
          have B3 : Hid (Below w.heap.size w w3) := Lib.hid (un_bel HB.out H2.out.chg R2.out g3 LT.out)
          have y1 : w3.cell? ⟨w.heap.size, 0, none⟩ = some (.slice A k c) := by simp [World.cell?, G1.out]
          have y2 : w3.frozen? ⟨w.heap.size, 0, none⟩ = false := by simp [World.frozen?, G1.out]
          clear r3 g3 o3 x2 x3
          refine hK _ _ ?_
          clear hK K
          refine wpAny_ready (rs := [6]) (by kernel_rfl) (by simp) ?_
          refine AllReady.cons (o := { dst := none, op := Op.store 22 (Operand.tmp 2) (Operand.tmp 21), type := 0, pos := "pack.go:42", after := #[{ on := 5, ground := Ground.data }, { on := 5, ground := Ground.chain }, { on := 0, ground := Ground.phase }, { on := 1, ground := Ground.phase }, { on := 2, ground := Ground.phase }, { on := 3, ground := Ground.phase }, { on := 4, ground := Ground.phase }, { on := 5, ground := Ground.phase }], guard := none }) rfl (fun K hK => ?_) AllReady.nil
          go_simp
          refine hK _ _ ?_
          clear hK K
          refine wpAny_done (by kernel_rfl) ?_ _
          go_wp2
          exact ⟨⟨n, l ++ [(a0, a1)], q, by simp [iw], HN9.out, HU2.out, un_next2 HK.out G1.out G2.out G3.out R3.out B3.out, HSZ.out.1, HSZ.out.2⟩, by simp [intOf, iw]⟩
      · go_simp
        refine hK _ _ ?_
        clear hK K
        refine wpAny_ready (rs := [0, 2]) (by kernel_rfl) (by simp) ?_
        refine AllReady.cons (o := { dst := some 16, op := Op.load 22 (Operand.tmp 2), type := 22, pos := "pack.go:42", after := #[], guard := none }) rfl (fun K hK => ?_) (AllReady.cons (o := { dst := some 18, op := Op.load 22 (Operand.tmp 2), type := 22, pos := "pack.go:42", after := #[], guard := none }) rfl (fun K hK => ?_) AllReady.nil)
        · go_simp
          refine hK _ _ ?_
          clear hK K
          refine wpAny_ready (rs := [2]) (by kernel_rfl) (by simp) ?_
          refine AllReady.cons (o := { dst := some 18, op := Op.load 22 (Operand.tmp 2), type := 22, pos := "pack.go:42", after := #[], guard := none }) rfl (fun K hK => ?_) AllReady.nil
          go_simp
          refine hK _ _ ?_
          clear hK K
          refine wpAny_ready (rs := [3]) (by kernel_rfl) (by simp) ?_
          refine AllReady.cons (o := { dst := some 19, op := Op.call { callee := Callee.value (Operand.func 20), args := #[Operand.tmp 17, Operand.tmp 18], argTypes := #[39, 22] }, type := 30, pos := "pack.go:42", after := #[{ on := 1, ground := Ground.data }, { on := 2, ground := Ground.data }], guard := none }) rfl (fun K hK => ?_) AllReady.nil
          go_simp
          refine C.out.mono ?_
          rintro e w2 ⟨rfl, h2⟩
          have H2 := Lib.hid h2
          have F1 := Lib.hid (keep_chg (E := fun x => x = w.heap.size + 1 + 1) h2.chg (show wr.drew.heap[w.heap.size]? = _ from E1.out) (fun e => by omega))
          have F2 := Lib.hid (keep_chg (E := fun x => x = w.heap.size + 1 + 1) h2.chg (show wr.drew.heap[w.heap.size + 1]? = _ from E2.out) (fun e => by omega))
          have R2 := Lib.hid (Row.chg (RW.out.later (drew_bel wr)) h2.chg)
          have SZ : Hid (wr.heap.size ≤ w2.heap.size) := Lib.hid h2.chg.size
          have x2 : w2.cell? ⟨w.heap.size, 0, none⟩ = some (.slice A k c) := by simp [World.cell?, F1.out]
          have x3 : (w2.alloc (.cells #[.string a0, .string a1] 30)).cell? ⟨w.heap.size, 0, none⟩ = some (.slice A k c) := bel_later (alb _ _) x2
          clear h2
          simp only
          refine hK _ _ ?_
          clear hK K
          refine wpAny_ready (rs := [4]) (by kernel_rfl) (by simp) ?_
          refine AllReady.cons (o := { dst := some 20, op := Op.buildSlice 22 1 #[(0, Operand.tmp 19)], type := 22, pos := "pack.go:42", after := #[{ on := 3, ground := Ground.data }], guard := none }) rfl (fun K hK => ?_) AllReady.nil
          go_simp
          refine hK _ _ ?_
          clear hK K
          refine wpAny_ready (rs := [5]) (by kernel_rfl) (by simp) ?_
          refine AllReady.cons (o := { dst := some 21, op := Op.call { callee := Callee.builtin Builtin.append, args := #[Operand.tmp 16, Operand.tmp 20], argTypes := #[22, 22] }, type := 22, pos := "pack.go:42", after := #[{ on := 0, ground := Ground.data }, { on := 4, ground := Ground.data }, { on := 3, ground := Ground.chain }], guard := none }) rfl (fun K hK => ?_) AllReady.nil
          refine step_put_row _ rfl (.tmp 16) (.tmp 20) rfl (base := w.heap.size + 1 + 1 + 1) A k c l (some ⟨w2.heap.size, 0, none⟩) 1 1 [(a0, a1)] (by simp [Act.eval, Act.put]) (by simp [Act.eval, Act.put]) (R2.out.later (alb _ _)) HK.out (by have := HK2.out; omega) (by have h1 := LT.out; have h2 := SZ.out; simp; omega) rfl (by omega) (lit_rdt w2 (a0, a1)) ?_
          intro A' c' w3 r3 g3 o3
          have G1 := Lib.hid (keep_row g3 (keep_bel (alb w2 (.cells #[.string a0, .string a1] 30)) F1.out) (fun e => by have := (R2.out.fp_lt e).1; omega))
          have G2 := Lib.hid (keep_row g3 (keep_bel (alb w2 (.cells #[.string a0, .string a1] 30)) F2.out) (fun e => by have := (R2.out.fp_lt e).1; omega))
          have G3 : Hid (Rdr w3 (w.heap.size + 1 + 1) q) := Lib.hid (keep_row g3 (keep_bel (alb w2 (.cells #[.string a0, .string a1] 30)) H2.out.rdr) (fun e => by have := (R2.out.fp_lt e).1; omega))
          have R3 := Lib.hid r3
          have O3 := Lib.hid o3
          have B3 : Hid (Below w.heap.size w w3) := Lib.hid (un_bel HB.out H2.out.chg R2.out g3 LT.out)
          have y1 : w3.cell? ⟨w.heap.size, 0, none⟩ = some (.slice A k c) := by simp [World.cell?, G1.out]
          have y2 : w3.frozen? ⟨w.heap.size, 0, none⟩ = false := by simp [World.frozen?, G1.out]
          clear r3 g3 o3 x2 x3
          refine hK _ _ ?_
          clear hK K
          refine wpAny_ready (rs := [6]) (by kernel_rfl) (by simp) ?_
          refine AllReady.cons (o := { dst := none, op := Op.store 22 (Operand.tmp 2) (Operand.tmp 21), type := 0, pos := "pack.go:42", after := #[{ on := 5, ground := Ground.data }, { on := 5, ground := Ground.chain }, { on := 0, ground := Ground.phase }, { on := 1, ground := Ground.phase }, { on := 2, ground := Ground.phase }, { on := 3, ground := Ground.phase }, { on := 4, ground := Ground.phase }, { on := 5, ground := Ground.phase }], guard := none }) rfl (fun K hK => ?_) AllReady.nil
          go_simp
          refine hK _ _ ?_
          clear hK K
          refine wpAny_done (by kernel_rfl) ?_ _
          go_wp2
          exact ⟨⟨n, l ++ [(a0, a1)], q, by simp [iw], HN9.out, HU2.out, un_next2 HK.out G1.out G2.out G3.out R3.out B3.out, HSZ.out.1, HSZ.out.2⟩, by simp [intOf, iw]⟩
        · go_simp
          refine hK _ _ ?_
          clear hK K
          refine wpAny_ready (rs := [0, 3]) (by kernel_rfl) (by simp) ?_
          refine AllReady.cons (o := { dst := some 16, op := Op.load 22 (Operand.tmp 2), type := 22, pos := "pack.go:42", after := #[], guard := none }) rfl (fun K hK => ?_) (AllReady.cons (o := { dst := some 19, op := Op.call { callee := Callee.value (Operand.func 20), args := #[Operand.tmp 17, Operand.tmp 18], argTypes := #[39, 22] }, type := 30, pos := "pack.go:42", after := #[{ on := 1, ground := Ground.data }, { on := 2, ground := Ground.data }], guard := none }) rfl (fun K hK => ?_) AllReady.nil)
          · go_simp
            refine hK _ _ ?_
            clear hK K
            refine wpAny_ready (rs := [3]) (by kernel_rfl) (by simp) ?_
            refine AllReady.cons (o := { dst := some 19, op := Op.call { callee := Callee.value (Operand.func 20), args := #[Operand.tmp 17, Operand.tmp 18], argTypes := #[39, 22] }, type := 30, pos := "pack.go:42", after := #[{ on := 1, ground := Ground.data }, { on := 2, ground := Ground.data }], guard := none }) rfl (fun K hK => ?_) AllReady.nil
            go_simp
            refine C.out.mono ?_
            rintro e w2 ⟨rfl, h2⟩
            have H2 := Lib.hid h2
            have F1 := Lib.hid (keep_chg (E := fun x => x = w.heap.size + 1 + 1) h2.chg (show wr.drew.heap[w.heap.size]? = _ from E1.out) (fun e => by omega))
            have F2 := Lib.hid (keep_chg (E := fun x => x = w.heap.size + 1 + 1) h2.chg (show wr.drew.heap[w.heap.size + 1]? = _ from E2.out) (fun e => by omega))
            have R2 := Lib.hid (Row.chg (RW.out.later (drew_bel wr)) h2.chg)
            have SZ : Hid (wr.heap.size ≤ w2.heap.size) := Lib.hid h2.chg.size
            have x2 : w2.cell? ⟨w.heap.size, 0, none⟩ = some (.slice A k c) := by simp [World.cell?, F1.out]
            have x3 : (w2.alloc (.cells #[.string a0, .string a1] 30)).cell? ⟨w.heap.size, 0, none⟩ = some (.slice A k c) := bel_later (alb _ _) x2
            clear h2
            simp only
            refine hK _ _ ?_
            clear hK K
            refine wpAny_ready (rs := [4]) (by kernel_rfl) (by simp) ?_
            refine AllReady.cons (o := { dst := some 20, op := Op.buildSlice 22 1 #[(0, Operand.tmp 19)], type := 22, pos := "pack.go:42", after := #[{ on := 3, ground := Ground.data }], guard := none }) rfl (fun K hK => ?_) AllReady.nil
            go_simp
            refine hK _ _ ?_
            clear hK K
            refine wpAny_ready (rs := [5]) (by kernel_rfl) (by simp) ?_
            refine AllReady.cons (o := { dst := some 21, op := Op.call { callee := Callee.builtin Builtin.append, args := #[Operand.tmp 16, Operand.tmp 20], argTypes := #[22, 22] }, type := 22, pos := "pack.go:42", after := #[{ on := 0, ground := Ground.data }, { on := 4, ground := Ground.data }, { on := 3, ground := Ground.chain }], guard := none }) rfl (fun K hK => ?_) AllReady.nil
            refine step_put_row _ rfl (.tmp 16) (.tmp 20) rfl (base := w.heap.size + 1 + 1 + 1) A k c l (some ⟨w2.heap.size, 0, none⟩) 1 1 [(a0, a1)] (by simp [Act.eval, Act.put]) (by simp [Act.eval, Act.put]) (R2.out.later (alb _ _)) HK.out (by have := HK2.out; omega) (by have h1 := LT.out; have h2 := SZ.out; simp; omega) rfl (by omega) (lit_rdt w2 (a0, a1)) ?_
            intro A' c' w3 r3 g3 o3
            have G1 := Lib.hid (keep_row g3 (keep_bel (alb w2 (.cells #[.string a0, .string a1] 30)) F1.out) (fun e => by have := (R2.out.fp_lt e).1; omega))
            have G2 := Lib.hid (keep_row g3 (keep_bel (alb w2 (.cells #[.string a0, .string a1] 30)) F2.out) (fun e => by have := (R2.out.fp_lt e).1; omega))
            have G3 : Hid (Rdr w3 (w.heap.size + 1 + 1) q) := Lib.hid (keep_row g3 (keep_bel (alb w2 (.cells #[.string a0, .string a1] 30)) H2.out.rdr) (fun e => by have := (R2.out.fp_lt e).1; omega))
            have R3 := Lib.hid r3
            have O3 := Lib.hid o3
            have B3 : Hid (Below w.heap.size w w3) := Lib.hid (un_bel HB.out H2.out.chg R2.out g3 LT.out)
            have y1 : w3.cell? ⟨w.heap.size, 0, none⟩ = some (.slice A k c) := by simp [World.cell?, G1.out]
            have y2 : w3.frozen? ⟨w.heap.size, 0, none⟩ = false := by simp [World.frozen?, G1.out]
            clear r3 g3 o3 x2 x3
            refine hK _ _ ?_
            clear hK K
            refine wpAny_ready (rs := [6]) (by kernel_rfl) (by simp) ?_
            refine AllReady.cons (o := { dst := none, op := Op.store 22 (Operand.tmp 2) (Operand.tmp 21), type := 0, pos := "pack.go:42", after := #[{ on := 5, ground := Ground.data }, { on := 5, ground := Ground.chain }, { on := 0, ground := Ground.phase }, { on := 1, ground := Ground.phase }, { on := 2, ground := Ground.phase }, { on := 3, ground := Ground.phase }, { on := 4, ground := Ground.phase }, { on := 5, ground := Ground.phase }], guard := none }) rfl (fun K hK => ?_) AllReady.nil
            go_simp
            refine hK _ _ ?_
            clear hK K
            refine wpAny_done (by kernel_rfl) ?_ _
            go_wp2
            exact ⟨⟨n, l ++ [(a0, a1)], q, by simp [iw], HN9.out, HU2.out, un_next2 HK.out G1.out G2.out G3.out R3.out B3.out, HSZ.out.1, HSZ.out.2⟩, by simp [intOf, iw]⟩
          · go_simp
            refine C.out.mono ?_
            rintro e w2 ⟨rfl, h2⟩
            have H2 := Lib.hid h2
            have F1 := Lib.hid (keep_chg (E := fun x => x = w.heap.size + 1 + 1) h2.chg (show wr.drew.heap[w.heap.size]? = _ from E1.out) (fun e => by omega))
            have F2 := Lib.hid (keep_chg (E := fun x => x = w.heap.size + 1 + 1) h2.chg (show wr.drew.heap[w.heap.size + 1]? = _ from E2.out) (fun e => by omega))
            have R2 := Lib.hid (Row.chg (RW.out.later (drew_bel wr)) h2.chg)
            have SZ : Hid (wr.heap.size ≤ w2.heap.size) := Lib.hid h2.chg.size
            have x2 : w2.cell? ⟨w.heap.size, 0, none⟩ = some (.slice A k c) := by simp [World.cell?, F1.out]
            have x3 : (w2.alloc (.cells #[.string a0, .string a1] 30)).cell? ⟨w.heap.size, 0, none⟩ = some (.slice A k c) := bel_later (alb _ _) x2
            clear h2
            simp only
            refine hK _ _ ?_
            clear hK K
            refine wpAny_ready (rs := [0, 4]) (by kernel_rfl) (by simp) ?_
            refine AllReady.cons (o := { dst := some 16, op := Op.load 22 (Operand.tmp 2), type := 22, pos := "pack.go:42", after := #[], guard := none }) rfl (fun K hK => ?_) (AllReady.cons (o := { dst := some 20, op := Op.buildSlice 22 1 #[(0, Operand.tmp 19)], type := 22, pos := "pack.go:42", after := #[{ on := 3, ground := Ground.data }], guard := none }) rfl (fun K hK => ?_) AllReady.nil)
            · go_simp
              refine hK _ _ ?_
              clear hK K
              refine wpAny_ready (rs := [4]) (by kernel_rfl) (by simp) ?_
              refine AllReady.cons (o := { dst := some 20, op := Op.buildSlice 22 1 #[(0, Operand.tmp 19)], type := 22, pos := "pack.go:42", after := #[{ on := 3, ground := Ground.data }], guard := none }) rfl (fun K hK => ?_) AllReady.nil
              go_simp
              refine hK _ _ ?_
              clear hK K
              refine wpAny_ready (rs := [5]) (by kernel_rfl) (by simp) ?_
              refine AllReady.cons (o := { dst := some 21, op := Op.call { callee := Callee.builtin Builtin.append, args := #[Operand.tmp 16, Operand.tmp 20], argTypes := #[22, 22] }, type := 22, pos := "pack.go:42", after := #[{ on := 0, ground := Ground.data }, { on := 4, ground := Ground.data }, { on := 3, ground := Ground.chain }], guard := none }) rfl (fun K hK => ?_) AllReady.nil
              refine step_put_row _ rfl (.tmp 16) (.tmp 20) rfl (base := w.heap.size + 1 + 1 + 1) A k c l (some ⟨w2.heap.size, 0, none⟩) 1 1 [(a0, a1)] (by simp [Act.eval, Act.put]) (by simp [Act.eval, Act.put]) (R2.out.later (alb _ _)) HK.out (by have := HK2.out; omega) (by have h1 := LT.out; have h2 := SZ.out; simp; omega) rfl (by omega) (lit_rdt w2 (a0, a1)) ?_
              intro A' c' w3 r3 g3 o3
              have G1 := Lib.hid (keep_row g3 (keep_bel (alb w2 (.cells #[.string a0, .string a1] 30)) F1.out) (fun e => by have := (R2.out.fp_lt e).1; omega))
              have G2 := Lib.hid (keep_row g3 (keep_bel (alb w2 (.cells #[.string a0, .string a1] 30)) F2.out) (fun e => by have := (R2.out.fp_lt e).1; omega))
              have G3 : Hid (Rdr w3 (w.heap.size + 1 + 1) q) := Lib.hid (keep_row g3 (keep_bel (alb w2 (.cells #[.string a0, .string a1] 30)) H2.out.rdr) (fun e => by have := (R2.out.fp_lt e).1; omega))
              have R3 := Lib.hid r3
              have O3 := Lib.hid o3
              have B3 : Hid (Below w.heap.size w w3) := Lib.hid (un_bel HB.out H2.out.chg R2.out g3 LT.out)
              have y1 : w3.cell? ⟨w.heap.size, 0, none⟩ = some (.slice A k c) := by simp [World.cell?, G1.out]
              have y2 : w3.frozen? ⟨w.heap.size, 0, none⟩ = false := by simp [World.frozen?, G1.out]
              clear r3 g3 o3 x2 x3
              refine hK _ _ ?_
              clear hK K
              refine wpAny_ready (rs := [6]) (by kernel_rfl) (by simp) ?_
              refine AllReady.cons (o := { dst := none, op := Op.store 22 (Operand.tmp 2) (Operand.tmp 21), type := 0, pos := "pack.go:42", after := #[{ on := 5, ground := Ground.data }, { on := 5, ground := Ground.chain }, { on := 0, ground := Ground.phase }, { on := 1, ground := Ground.phase }, { on := 2, ground := Ground.phase }, { on := 3, ground := Ground.phase }, { on := 4, ground := Ground.phase }, { on := 5, ground := Ground.phase }], guard := none }) rfl (fun K hK => ?_) AllReady.nil
              go_simp
              refine hK _ _ ?_
              clear hK K
              refine wpAny_done (by kernel_rfl) ?_ _
              go_wp2
              exact ⟨⟨n, l ++ [(a0, a1)], q, by simp [iw], HN9.out, HU2.out, un_next2 HK.out G1.out G2.out G3.out R3.out B3.out, HSZ.out.1, HSZ.out.2⟩, by simp [intOf, iw]⟩
            · go_simp
              refine hK _ _ ?_
              clear hK K
              refine wpAny_ready (rs := [0]) (by kernel_rfl) (by simp) ?_
              refine AllReady.cons (o := { dst := some 16, op := Op.load 22 (Operand.tmp 2), type := 22, pos := "pack.go:42", after := #[], guard := none }) rfl (fun K hK => ?_) AllReady.nil
              go_simp
              refine hK _ _ ?_
              clear hK K
              refine wpAny_ready (rs := [5]) (by kernel_rfl) (by simp) ?_
              refine AllReady.cons (o := { dst := some 21, op := Op.call { callee := Callee.builtin Builtin.append, args := #[Operand.tmp 16, Operand.tmp 20], argTypes := #[22, 22] }, type := 22, pos := "pack.go:42", after := #[{ on := 0, ground := Ground.data }, { on := 4, ground := Ground.data }, { on := 3, ground := Ground.chain }], guard := none }) rfl (fun K hK => ?_) AllReady.nil
              refine step_put_row _ rfl (.tmp 16) (.tmp 20) rfl (base := w.heap.size + 1 + 1 + 1) A k c l (some ⟨w2.heap.size, 0, none⟩) 1 1 [(a0, a1)] (by simp [Act.eval, Act.put]) (by simp [Act.eval, Act.put]) (R2.out.later (alb _ _)) HK.out (by have := HK2.out; omega) (by have h1 := LT.out; have h2 := SZ.out; simp; omega) rfl (by omega) (lit_rdt w2 (a0, a1)) ?_
              intro A' c' w3 r3 g3 o3
              have G1 := Lib.hid (keep_row g3 (keep_bel (alb w2 (.cells #[.string a0, .string a1] 30)) F1.out) (fun e => by have := (R2.out.fp_lt e).1; omega))
              have G2 := Lib.hid (keep_row g3 (keep_bel (alb w2 (.cells #[.string a0, .string a1] 30)) F2.out) (fun e => by have := (R2.out.fp_lt e).1; omega))
              have G3 : Hid (Rdr w3 (w.heap.size + 1 + 1) q) := Lib.hid (keep_row g3 (keep_bel (alb w2 (.cells #[.string a0, .string a1] 30)) H2.out.rdr) (fun e => by have := (R2.out.fp_lt e).1; omega))
              have R3 := Lib.hid r3
              have O3 := Lib.hid o3
              have B3 : Hid (Below w.heap.size w w3) := Lib.hid (un_bel HB.out H2.out.chg R2.out g3 LT.out)
              have y1 : w3.cell? ⟨w.heap.size, 0, none⟩ = some (.slice A k c) := by simp [World.cell?, G1.out]
              have y2 : w3.frozen? ⟨w.heap.size, 0, none⟩ = false := by simp [World.frozen?, G1.out]
              clear r3 g3 o3 x2 x3
              refine hK _ _ ?_
              clear hK K
              refine wpAny_ready (rs := [6]) (by kernel_rfl) (by simp) ?_
              refine AllReady.cons (o := { dst := none, op := Op.store 22 (Operand.tmp 2) (Operand.tmp 21), type := 0, pos := "pack.go:42", after := #[{ on := 5, ground := Ground.data }, { on := 5, ground := Ground.chain }, { on := 0, ground := Ground.phase }, { on := 1, ground := Ground.phase }, { on := 2, ground := Ground.phase }, { on := 3, ground := Ground.phase }, { on := 4, ground := Ground.phase }, { on := 5, ground := Ground.phase }], guard := none }) rfl (fun K hK => ?_) AllReady.nil
              go_simp
              refine hK _ _ ?_
              clear hK K
              refine wpAny_done (by kernel_rfl) ?_ _
              go_wp2
              exact ⟨⟨n, l ++ [(a0, a1)], q, by simp [iw], HN9.out, HU2.out, un_next2 HK.out G1.out G2.out G3.out R3.out B3.out, HSZ.out.1, HSZ.out.2⟩, by simp [intOf, iw]⟩
      · go_simp
        refine hK _ _ ?_
        clear hK K
        refine wpAny_ready (rs := [0, 1]) (by kernel_rfl) (by simp) ?_
        refine AllReady.cons (o := { dst := some 16, op := Op.load 22 (Operand.tmp 2), type := 22, pos := "pack.go:42", after := #[], guard := none }) rfl (fun K hK => ?_) (AllReady.cons (o := { dst := some 17, op := Op.move (Operand.tmp 4), type := 39, pos := "pack.go:42", after := #[], guard := none }) rfl (fun K hK => ?_) AllReady.nil)
        · go_simp
          refine hK _ _ ?_
          clear hK K
          refine wpAny_ready (rs := [1]) (by kernel_rfl) (by simp) ?_
          refine AllReady.cons (o := { dst := some 17, op := Op.move (Operand.tmp 4), type := 39, pos := "pack.go:42", after := #[], guard := none }) rfl (fun K hK => ?_) AllReady.nil
          go_simp
          refine hK _ _ ?_
          clear hK K
          refine wpAny_ready (rs := [3]) (by kernel_rfl) (by simp) ?_
          refine AllReady.cons (o := { dst := some 19, op := Op.call { callee := Callee.value (Operand.func 20), args := #[Operand.tmp 17, Operand.tmp 18], argTypes := #[39, 22] }, type := 30, pos := "pack.go:42", after := #[{ on := 1, ground := Ground.data }, { on := 2, ground := Ground.data }], guard := none }) rfl (fun K hK => ?_) AllReady.nil
          go_simp
          refine C.out.mono ?_
          rintro e w2 ⟨rfl, h2⟩
          have H2 := Lib.hid h2
          have F1 := Lib.hid (keep_chg (E := fun x => x = w.heap.size + 1 + 1) h2.chg (show wr.drew.heap[w.heap.size]? = _ from E1.out) (fun e => by omega))
          have F2 := Lib.hid (keep_chg (E := fun x => x = w.heap.size + 1 + 1) h2.chg (show wr.drew.heap[w.heap.size + 1]? = _ from E2.out) (fun e => by omega))
          have R2 := Lib.hid (Row.chg (RW.out.later (drew_bel wr)) h2.chg)
          have SZ : Hid (wr.heap.size ≤ w2.heap.size) := Lib.hid h2.chg.size
          have x2 : w2.cell? ⟨w.heap.size, 0, none⟩ = some (.slice A k c) := by simp [World.cell?, F1.out]
          have x3 : (w2.alloc (.cells #[.string a0, .string a1] 30)).cell? ⟨w.heap.size, 0, none⟩ = some (.slice A k c) := bel_later (alb _ _) x2
          clear h2
          simp only
          refine hK _ _ ?_
          clear hK K
          refine wpAny_ready (rs := [4]) (by kernel_rfl) (by simp) ?_
          refine AllReady.cons (o := { dst := some 20, op := Op.buildSlice 22 1 #[(0, Operand.tmp 19)], type := 22, pos := "pack.go:42", after := #[{ on := 3, ground := Ground.data }], guard := none }) rfl (fun K hK => ?_) AllReady.nil
          go_simp
          refine hK _ _ ?_
          clear hK K
          refine wpAny_ready (rs := [5]) (by kernel_rfl) (by simp) ?_
          refine AllReady.cons (o := { dst := some 21, op := Op.call { callee := Callee.builtin Builtin.append, args := #[Operand.tmp 16, Operand.tmp 20], argTypes := #[22, 22] }, type := 22, pos := "pack.go:42", after := #[{ on := 0, ground := Ground.data }, { on := 4, ground := Ground.data }, { on := 3, ground := Ground.chain }], guard := none }) rfl (fun K hK => ?_) AllReady.nil
          refine step_put_row _ rfl (.tmp 16) (.tmp 20) rfl (base := w.heap.size + 1 + 1 + 1) A k c l (some ⟨w2.heap.size, 0, none⟩) 1 1 [(a0, a1)] (by simp [Act.eval, Act.put]) (by simp [Act.eval, Act.put]) (R2.out.later (alb _ _)) HK.out (by have := HK2.out; omega) (by have h1 := LT.out; have h2 := SZ.out; simp; omega) rfl (by omega) (lit_rdt w2 (a0, a1)) ?_
          intro A' c' w3 r3 g3 o3
          have G1 := Lib.hid (keep_row g3 (keep_bel (alb w2 (.cells #[.string a0, .string a1] 30)) F1.out) (fun e => by have := (R2.out.fp_lt e).1; omega))
          have G2 := Lib.hid (keep_row g3 (keep_bel (alb w2 (.cells #[.string a0, .string a1] 30)) F2.out) (fun e => by have := (R2.out.fp_lt e).1; omega))
          have G3 : Hid (Rdr w3 (w.heap.size + 1 + 1) q) := Lib.hid (keep_row g3 (keep_bel (alb w2 (.cells #[.string a0, .string a1] 30)) H2.out.rdr) (fun e => by have := (R2.out.fp_lt e).1; omega))
          have R3 := Lib.hid r3
          have O3 := Lib.hid o3
          have B3 : Hid (Below w.heap.size w w3) := Lib.hid (un_bel HB.out H2.out.chg R2.out g3 LT.out)
          have y1 : w3.cell? ⟨w.heap.size, 0, none⟩ = some (.slice A k c) := by simp [World.cell?, G1.out]
          have y2 : w3.frozen? ⟨w.heap.size, 0, none⟩ = false := by simp [World.frozen?, G1.out]
          clear r3 g3 o3 x2 x3
          refine hK _ _ ?_
          clear hK K
          refine wpAny_ready (rs := [6]) (by kernel_rfl) (by simp) ?_
          refine AllReady.cons (o := { dst := none, op := Op.store 22 (Operand.tmp 2) (Operand.tmp 21), type := 0, pos := "pack.go:42", after := #[{ on := 5, ground := Ground.data }, { on := 5, ground := Ground.chain }, { on := 0, ground := Ground.phase }, { on := 1, ground := Ground.phase }, { on := 2, ground := Ground.phase }, { on := 3, ground := Ground.phase }, { on := 4, ground := Ground.phase }, { on := 5, ground := Ground.phase }], guard := none }) rfl (fun K hK => ?_) AllReady.nil
          go_simp
          refine hK _ _ ?_
          clear hK K
          refine wpAny_done (by kernel_rfl) ?_ _
          go_wp2
          exact ⟨⟨n, l ++ [(a0, a1)], q, by simp [iw], HN9.out, HU2.out, un_next2 HK.out G1.out G2.out G3.out R3.out B3.out, HSZ.out.1, HSZ.out.2⟩, by simp [intOf, iw]⟩
        · go_simp
          refine hK _ _ ?_
          clear hK K
          refine wpAny_ready (rs := [0, 3]) (by kernel_rfl) (by simp) ?_
          refine AllReady.cons (o := { dst := some 16, op := Op.load 22 (Operand.tmp 2), type := 22, pos := "pack.go:42", after := #[], guard := none }) rfl (fun K hK => ?_) (AllReady.cons (o := { dst := some 19, op := Op.call { callee := Callee.value (Operand.func 20), args := #[Operand.tmp 17, Operand.tmp 18], argTypes := #[39, 22] }, type := 30, pos := "pack.go:42", after := #[{ on := 1, ground := Ground.data }, { on := 2, ground := Ground.data }], guard := none }) rfl (fun K hK => ?_) AllReady.nil)
          · go_simp
            refine hK _ _ ?_
            clear hK K
            refine wpAny_ready (rs := [3]) (by kernel_rfl) (by simp) ?_
            refine AllReady.cons (o := { dst := some 19, op := Op.call { callee := Callee.value (Operand.func 20), args := #[Operand.tmp 17, Operand.tmp 18], argTypes := #[39, 22] }, type := 30, pos := "pack.go:42", after := #[{ on := 1, ground := Ground.data }, { on := 2, ground := Ground.data }], guard := none }) rfl (fun K hK => ?_) AllReady.nil
            go_simp
            refine C.out.mono ?_
            rintro e w2 ⟨rfl, h2⟩
            have H2 := Lib.hid h2
            have F1 := Lib.hid (keep_chg (E := fun x => x = w.heap.size + 1 + 1) h2.chg (show wr.drew.heap[w.heap.size]? = _ from E1.out) (fun e => by omega))
            have F2 := Lib.hid (keep_chg (E := fun x => x = w.heap.size + 1 + 1) h2.chg (show wr.drew.heap[w.heap.size + 1]? = _ from E2.out) (fun e => by omega))
            have R2 := Lib.hid (Row.chg (RW.out.later (drew_bel wr)) h2.chg)
            have SZ : Hid (wr.heap.size ≤ w2.heap.size) := Lib.hid h2.chg.size
            have x2 : w2.cell? ⟨w.heap.size, 0, none⟩ = some (.slice A k c) := by simp [World.cell?, F1.out]
            have x3 : (w2.alloc (.cells #[.string a0, .string a1] 30)).cell? ⟨w.heap.size, 0, none⟩ = some (.slice A k c) := bel_later (alb _ _) x2
            clear h2
            simp only
            refine hK _ _ ?_
            clear hK K
            refine wpAny_ready (rs := [4]) (by kernel_rfl) (by simp) ?_
            refine AllReady.cons (o := { dst := some 20, op := Op.buildSlice 22 1 #[(0, Operand.tmp 19)], type := 22, pos := "pack.go:42", after := #[{ on := 3, ground := Ground.data }], guard := none }) rfl (fun K hK => ?_) AllReady.nil
            go_simp
            refine hK _ _ ?_
            clear hK K
            refine wpAny_ready (rs := [5]) (by kernel_rfl) (by simp) ?_
            refine AllReady.cons (o := { dst := some 21, op := Op.call { callee := Callee.builtin Builtin.append, args := #[Operand.tmp 16, Operand.tmp 20], argTypes := #[22, 22] }, type := 22, pos := "pack.go:42", after := #[{ on := 0, ground := Ground.data }, { on := 4, ground := Ground.data }, { on := 3, ground := Ground.chain }], guard := none }) rfl (fun K hK => ?_) AllReady.nil
            refine step_put_row _ rfl (.tmp 16) (.tmp 20) rfl (base := w.heap.size + 1 + 1 + 1) A k c l (some ⟨w2.heap.size, 0, none⟩) 1 1 [(a0, a1)] (by simp [Act.eval, Act.put]) (by simp [Act.eval, Act.put]) (R2.out.later (alb _ _)) HK.out (by have := HK2.out; omega) (by have h1 := LT.out; have h2 := SZ.out; simp; omega) rfl (by omega) (lit_rdt w2 (a0, a1)) ?_
            intro A' c' w3 r3 g3 o3
            have G1 := Lib.hid (keep_row g3 (keep_bel (alb w2 (.cells #[.string a0, .string a1] 30)) F1.out) (fun e => by have := (R2.out.fp_lt e).1; omega))
            have G2 := Lib.hid (keep_row g3 (keep_bel (alb w2 (.cells #[.string a0, .string a1] 30)) F2.out) (fun e => by have := (R2.out.fp_lt e).1; omega))
            have G3 : Hid (Rdr w3 (w.heap.size + 1 + 1) q) := Lib.hid (keep_row g3 (keep_bel (alb w2 (.cells #[.string a0, .string a1] 30)) H2.out.rdr) (fun e => by have := (R2.out.fp_lt e).1; omega))
            have R3 := Lib.hid r3
            have O3 := Lib.hid o3
            have B3 : Hid (Below w.heap.size w w3) := Lib.hid (un_bel HB.out H2.out.chg R2.out g3 LT.out)
            have y1 : w3.cell? ⟨w.heap.size, 0, none⟩ = some (.slice A k c) := by simp [World.cell?, G1.out]
            have y2 : w3.frozen? ⟨w.heap.size, 0, none⟩ = false := by simp [World.frozen?, G1.out]
            clear r3 g3 o3 x2 x3
            refine hK _ _ ?_
            clear hK K
            refine wpAny_ready (rs := [6]) (by kernel_rfl) (by simp) ?_
            refine AllReady.cons (o := { dst := none, op := Op.store 22 (Operand.tmp 2) (Operand.tmp 21), type := 0, pos := "pack.go:42", after := #[{ on := 5, ground := Ground.data }, { on := 5, ground := Ground.chain }, { on := 0, ground := Ground.phase }, { on := 1, ground := Ground.phase }, { on := 2, ground := Ground.phase }, { on := 3, ground := Ground.phase }, { on := 4, ground := Ground.phase }, { on := 5, ground := Ground.phase }], guard := none }) rfl (fun K hK => ?_) AllReady.nil
            go_simp
            refine hK _ _ ?_
            clear hK K
            refine wpAny_done (by kernel_rfl) ?_ _
            go_wp2
            exact ⟨⟨n, l ++ [(a0, a1)], q, by simp [iw], HN9.out, HU2.out, un_next2 HK.out G1.out G2.out G3.out R3.out B3.out, HSZ.out.1, HSZ.out.2⟩, by simp [intOf, iw]⟩
          · go_simp
            refine C.out.mono ?_
            rintro e w2 ⟨rfl, h2⟩
            have H2 := Lib.hid h2
            have F1 := Lib.hid (keep_chg (E := fun x => x = w.heap.size + 1 + 1) h2.chg (show wr.drew.heap[w.heap.size]? = _ from E1.out) (fun e => by omega))
            have F2 := Lib.hid (keep_chg (E := fun x => x = w.heap.size + 1 + 1) h2.chg (show wr.drew.heap[w.heap.size + 1]? = _ from E2.out) (fun e => by omega))
            have R2 := Lib.hid (Row.chg (RW.out.later (drew_bel wr)) h2.chg)
            have SZ : Hid (wr.heap.size ≤ w2.heap.size) := Lib.hid h2.chg.size
            have x2 : w2.cell? ⟨w.heap.size, 0, none⟩ = some (.slice A k c) := by simp [World.cell?, F1.out]
            have x3 : (w2.alloc (.cells #[.string a0, .string a1] 30)).cell? ⟨w.heap.size, 0, none⟩ = some (.slice A k c) := bel_later (alb _ _) x2
            clear h2
            simp only
            refine hK _ _ ?_
            clear hK K
            refine wpAny_ready (rs := [0, 4]) (by kernel_rfl) (by simp) ?_
            refine AllReady.cons (o := { dst := some 16, op := Op.load 22 (Operand.tmp 2), type := 22, pos := "pack.go:42", after := #[], guard := none }) rfl (fun K hK => ?_) (AllReady.cons (o := { dst := some 20, op := Op.buildSlice 22 1 #[(0, Operand.tmp 19)], type := 22, pos := "pack.go:42", after := #[{ on := 3, ground := Ground.data }], guard := none }) rfl (fun K hK => ?_) AllReady.nil)
            · go_simp
              refine hK _ _ ?_
              clear hK K
              refine wpAny_ready (rs := [4]) (by kernel_rfl) (by simp) ?_
              refine AllReady.cons (o := { dst := some 20, op := Op.buildSlice 22 1 #[(0, Operand.tmp 19)], type := 22, pos := "pack.go:42", after := #[{ on := 3, ground := Ground.data }], guard := none }) rfl (fun K hK => ?_) AllReady.nil
              go_simp
              refine hK _ _ ?_
              clear hK K
              refine wpAny_ready (rs := [5]) (by kernel_rfl) (by simp) ?_
              refine AllReady.cons (o := { dst := some 21, op := Op.call { callee := Callee.builtin Builtin.append, args := #[Operand.tmp 16, Operand.tmp 20], argTypes := #[22, 22] }, type := 22, pos := "pack.go:42", after := #[{ on := 0, ground := Ground.data }, { on := 4, ground := Ground.data }, { on := 3, ground := Ground.chain }], guard := none }) rfl (fun K hK => ?_) AllReady.nil
              refine step_put_row _ rfl (.tmp 16) (.tmp 20) rfl (base := w.heap.size + 1 + 1 + 1) A k c l (some ⟨w2.heap.size, 0, none⟩) 1 1 [(a0, a1)] (by simp [Act.eval, Act.put]) (by simp [Act.eval, Act.put]) (R2.out.later (alb _ _)) HK.out (by have := HK2.out; omega) (by have h1 := LT.out; have h2 := SZ.out; simp; omega) rfl (by omega) (lit_rdt w2 (a0, a1)) ?_
              intro A' c' w3 r3 g3 o3
              have G1 := Lib.hid (keep_row g3 (keep_bel (alb w2 (.cells #[.string a0, .string a1] 30)) F1.out) (fun e => by have := (R2.out.fp_lt e).1; omega))
              have G2 := Lib.hid (keep_row g3 (keep_bel (alb w2 (.cells #[.string a0, .string a1] 30)) F2.out) (fun e => by have := (R2.out.fp_lt e).1; omega))
              have G3 : Hid (Rdr w3 (w.heap.size + 1 + 1) q) := Lib.hid (keep_row g3 (keep_bel (alb w2 (.cells #[.string a0, .string a1] 30)) H2.out.rdr) (fun e => by have := (R2.out.fp_lt e).1; omega))
              have R3 := Lib.hid r3
              have O3 := Lib.hid o3
              have B3 : Hid (Below w.heap.size w w3) := Lib.hid (un_bel HB.out H2.out.chg R2.out g3 LT.out)
              have y1 : w3.cell? ⟨w.heap.size, 0, none⟩ = some (.slice A k c) := by simp [World.cell?, G1.out]
              have y2 : w3.frozen? ⟨w.heap.size, 0, none⟩ = false := by simp [World.frozen?, G1.out]
              clear r3 g3 o3 x2 x3
              refine hK _ _ ?_
              clear hK K
              refine wpAny_ready (rs := [6]) (by kernel_rfl) (by simp) ?_
              refine AllReady.cons (o := { dst := none, op := Op.store 22 (Operand.tmp 2) (Operand.tmp 21), type := 0, pos := "pack.go:42", after := #[{ on := 5, ground := Ground.data }, { on := 5, ground := Ground.chain }, { on := 0, ground := Ground.phase }, { on := 1, ground := Ground.phase }, { on := 2, ground := Ground.phase }, { on := 3, ground := Ground.phase }, { on := 4, ground := Ground.phase }, { on := 5, ground := Ground.phase }], guard := none }) rfl (fun K hK => ?_) AllReady.nil
              go_simp
              refine hK _ _ ?_
              clear hK K
              refine wpAny_done (by kernel_rfl) ?_ _
              go_wp2
              exact ⟨⟨n, l ++ [(a0, a1)], q, by simp [iw], HN9.out, HU2.out, un_next2 HK.out G1.out G2.out G3.out R3.out B3.out, HSZ.out.1, HSZ.out.2⟩, by simp [intOf, iw]⟩
            · go_simp
              refine hK _ _ ?_
              clear hK K
              refine wpAny_ready (rs := [0]) (by kernel_rfl) (by simp) ?_
              refine AllReady.cons (o := { dst := some 16, op := Op.load 22 (Operand.tmp 2), type := 22, pos := "pack.go:42", after := #[], guard := none }) rfl (fun K hK => ?_) AllReady.nil
              go_simp
              refine hK _ _ ?_
              clear hK K
              refine wpAny_ready (rs := [5]) (by kernel_rfl) (by simp) ?_
              refine AllReady.cons (o := { dst := some 21, op := Op.call { callee := Callee.builtin Builtin.append, args := #[Operand.tmp 16, Operand.tmp 20], argTypes := #[22, 22] }, type := 22, pos := "pack.go:42", after := #[{ on := 0, ground := Ground.data }, { on := 4, ground := Ground.data }, { on := 3, ground := Ground.chain }], guard := none }) rfl (fun K hK => ?_) AllReady.nil
              refine step_put_row _ rfl (.tmp 16) (.tmp 20) rfl (base := w.heap.size + 1 + 1 + 1) A k c l (some ⟨w2.heap.size, 0, none⟩) 1 1 [(a0, a1)] (by simp [Act.eval, Act.put]) (by simp [Act.eval, Act.put]) (R2.out.later (alb _ _)) HK.out (by have := HK2.out; omega) (by have h1 := LT.out; have h2 := SZ.out; simp; omega) rfl (by omega) (lit_rdt w2 (a0, a1)) ?_
              intro A' c' w3 r3 g3 o3
              have G1 := Lib.hid (keep_row g3 (keep_bel (alb w2 (.cells #[.string a0, .string a1] 30)) F1.out) (fun e => by have := (R2.out.fp_lt e).1; omega))
              have G2 := Lib.hid (keep_row g3 (keep_bel (alb w2 (.cells #[.string a0, .string a1] 30)) F2.out) (fun e => by have := (R2.out.fp_lt e).1; omega))
              have G3 : Hid (Rdr w3 (w.heap.size + 1 + 1) q) := Lib.hid (keep_row g3 (keep_bel (alb w2 (.cells #[.string a0, .string a1] 30)) H2.out.rdr) (fun e => by have := (R2.out.fp_lt e).1; omega))
              have R3 := Lib.hid r3
              have O3 := Lib.hid o3
              have B3 : Hid (Below w.heap.size w w3) := Lib.hid (un_bel HB.out H2.out.chg R2.out g3 LT.out)
              have y1 : w3.cell? ⟨w.heap.size, 0, none⟩ = some (.slice A k c) := by simp [World.cell?, G1.out]
              have y2 : w3.frozen? ⟨w.heap.size, 0, none⟩ = false := by simp [World.frozen?, G1.out]
              clear r3 g3 o3 x2 x3
              refine hK _ _ ?_
              clear hK K
              refine wpAny_ready (rs := [6]) (by kernel_rfl) (by simp) ?_
              refine AllReady.cons (o := { dst := none, op := Op.store 22 (Operand.tmp 2) (Operand.tmp 21), type := 0, pos := "pack.go:42", after := #[{ on := 5, ground := Ground.data }, { on := 5, ground := Ground.chain }, { on := 0, ground := Ground.phase }, { on := 1, ground := Ground.phase }, { on := 2, ground := Ground.phase }, { on := 3, ground := Ground.phase }, { on := 4, ground := Ground.phase }, { on := 5, ground := Ground.phase }], guard := none }) rfl (fun K hK => ?_) AllReady.nil
              go_simp
              refine hK _ _ ?_
              clear hK K
              refine wpAny_done (by kernel_rfl) ?_ _
              go_wp2
              exact ⟨⟨n, l ++ [(a0, a1)], q, by simp [iw], HN9.out, HU2.out, un_next2 HK.out G1.out G2.out G3.out R3.out B3.out, HSZ.out.1, HSZ.out.2⟩, by simp [intOf, iw]⟩
    | done =>
      have x2 : wr.frozen? ⟨w.heap.size, 0, none⟩ = false := by simp [World.frozen?, E1.out]
      have x3 : wr.frozen? ⟨w.heap.size + 1, 0, none⟩ = false := by simp [World.frozen?, E2.out]
      have x4 : wr.cell? ⟨w.heap.size + 1 + 1, 0, none⟩ = some (.string ⟨#[]⟩) := HR.out.cell
      have x5 : wr.cell? ⟨w.heap.size + 1, 0, none⟩ = some (.int .i64 0) := by simp [World.cell?, E2.out]
      go_wp2_with (first
        | (go_at_call 21; ((with_reducible refine (check_ok _ _ _).mono ?_); rintro e w2 ⟨rfl, rfl⟩))
        | fail)
      obtain ⟨W, hW⟩ : ∃ W, W = ((wr.setCell ⟨w.heap.size, 0, none⟩ (.slice A k c)).setCell ⟨w.heap.size + 1, 0, none⟩ (.int .i64 0)) := ⟨_, rfl⟩
      have hend : W.heap[w.heap.size]? = some (.cells #[.slice A k c] 22 (0, 0)) ∧ W.heap[w.heap.size + 1]? = some (.cells #[.int .i64 0] 31 (0, 0)) ∧ RdT W A l ∧ Below w.heap.size w W := by
        rw [hW]; exact un_end E1.out E2.out RW.out HB.out
      obtain ⟨z1, z2, z3, z4⟩ := hend
      rw [← hW]
      have hk := HK.out
      clear hW E1 E2 RW HB x1 x2 x3 x4 x5
      have y1 : W.cell? ⟨w.heap.size, 0, none⟩ = some (.slice A k c) := by simp [World.cell?, z1]
      have y2 : W.cell? ⟨w.heap.size + 1, 0, none⟩ = some (.int .i64 0) := by simp [World.cell?, z2]
      refine leaves_cons (f := 18) (args := #[.pointer (some ⟨w.heap.size, 0, none⟩), .pointer (some ⟨w.heap.size + 1, 0, none⟩)]) (by simp) (by simp [go_sem]) ?_
      refine (catch_idle _ _ _).mono ?_
      rintro e u' w'' ⟨rfl, rfl, rfl⟩
      simp [Leaves, settle, results, Try.results11, go_sem, y1, y2, UnQ, hk]
      exact ⟨z3, z4⟩
    | rest _ _ hne =>
      have x4 : wr.cell? ⟨w.heap.size + 1 + 1, 0, none⟩ = some (.string t) := HR.out.cell
      have n1 : (t.toList == (⟨#[]⟩ : ByteArray).toList) = false := bytes_ne hne
      have n2 : t.toList.isEmpty = false := by
        have e0 : (⟨#[]⟩ : ByteArray).toList = [] := by rw [ByteArray.toList_eq]
        rw [e0] at n1
        cases h : t.toList with
        | nil => rw [h] at n1; simp at n1
        | cons a b => rfl
      go_wp2_with (first
        | (go_at_call 21; ((with_reducible refine (check_no _ _ _).mono ?_); rintro e w2 ⟨rfl, rfl⟩))
        | fail)
      exact door_panic _ w wr 3 rfl rfl E1.out E2.out HB.out
end Go.Proofs.Yteiifcmdpoonmaa
