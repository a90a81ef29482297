/- Words for the arenas: rows of numbers. -/
import Derived.Test.YtpihoegikojlaaaA7
import Derived.Maps.OwnSet
import Derived.Maps.Views
import Derived.Maps.RangeWalk
import Derived.Maps.OwnOps
import Derived.Laws.MakeOwn
import Derived.Laws.Rows
import Derived.Laws.Tables
import Derived.Laws.CopyOwn
namespace Go.Proofs.Ytpihoegikojlaaa
set_option linter.unusedSimpArgs false
open Go.RowKit Go.Maps
set_option linter.unusedVariables false

theorem ret_eq {a b : Int} (h : b = a) : Ending.returned (.int .i64 a) = Ending.returned (.int .i64 b) := by rw [h]
theorem retB_eq {a b : Bool} (h : b = a) : Ending.returned (.bool a) = Ending.returned (.bool b) := by rw [h]
abbrev RdI (w : World) (A : Option Addr) (l : List Int) : Prop := Rd w w.heap.size A (l.map (Value.int .i64))
theorem rdi_get {w : World} {A : Option Addr} {l : List Int} (h : RdI w A l) {k : Nat} (hk : k < l.length) : ∃ b off, A = some ⟨b, off, none⟩ ∧ b < w.heap.size ∧ w.cell? ⟨b, off + k, none⟩ = some (.int .i64 (l.getD k 0)) := by
  have := Rd.get h (k := k) (u := .int .i64 (l.getD k 0)) (by rw [List.getElem?_map, List.getElem?_eq_getElem hk, List.getD_eq_getElem?_getD, List.getElem?_eq_getElem hk]; rfl)
  exact this
theorem getD_mem {l : List Int} {k : Nat} (hk : k < l.length) : l.getD k 0 ∈ l := by
  rw [List.getD_eq_getElem?_getD, List.getElem?_eq_getElem hk]; exact List.getElem_mem hk
theorem take_step {l : List Int} {k : Nat} (hk : k < l.length) : l.take (k + 1) = l.take k ++ [l.getD k 0] := by
  rw [List.take_succ_eq_append_getElem hk, List.getD_eq_getElem?_getD, List.getElem?_eq_getElem hk]; rfl

theorem rdi_sub {w : World} {b off : Nat} {l : List Int} (h : RdI w (some ⟨b, off, none⟩) l) (i W : Nat) : RdI w (some ⟨b, off + i, none⟩) ((l.drop i).take W) := by
  rcases h with h | ⟨b', off', e, hlt, hc⟩
  · left
    rw [List.map_eq_nil_iff] at h ⊢
    subst h; simp
  · cases e
    refine .inr ⟨b, off + i, rfl, hlt, fun j u hj => ?_⟩
    rw [List.getElem?_map, List.getElem?_take] at hj
    split at hj
    · rw [List.getElem?_drop] at hj
      have := hc (i + j) u (by rw [List.getElem?_map]; exact hj)
      rw [Nat.add_assoc]; exact this
    · simp at hj
theorem rdi_drew {w : World} {A : Option Addr} {l : List Int} (h : RdI w A l) : RdI w.drew A l := by
  rcases h with h | ⟨b', off', e, hlt, hc⟩
  · exact .inl h
  · exact .inr ⟨b', off', e, hlt, fun j u hj => by have := hc j u hj; simpa using this⟩

theorem rdi_take {w : World} {A : Option Addr} {l : List Int} (h : RdI w A l) (k : Nat) : RdI w A (l.take k) := by
  rcases h with h | ⟨b, off, e, hlt, hc⟩
  · left; rw [List.map_eq_nil_iff] at h ⊢; subst h; simp
  · refine .inr ⟨b, off, e, hlt, fun j u hj => hc j u ?_⟩
    rw [List.getElem?_map, List.getElem?_take] at hj
    rw [List.getElem?_map]
    split at hj
    · exact hj
    · simp at hj

theorem rdi_kept {w w' : World} {row : Option Nat} {b off : Nat} {l : List Int} (h : RdI w (some ⟨b, off, none⟩) l) (hg : w.grownBy w' row) (hne : some b ≠ row) : RdI w' (some ⟨b, off, none⟩) l := by
  rcases h with h | ⟨b', off', e, hlt, hc⟩
  · exact .inl h
  · cases e
    exact .inr ⟨b, off, rfl, Nat.lt_of_lt_of_le hlt hg.size, fun j u hj => hg.cell (hc j u hj) hne⟩
theorem own_cap {w : World} {base n c size : Nat} {e : TypeId} {A : Option Addr} {xs : List Value} (h : w.ownsRow base e size (.slice A n c) n xs) (hn : 0 < n) : n ≤ c ∧ c ≤ maxLen := by
  rcases h.2 with ⟨hv, h0⟩ | ⟨g, cap, cur, hv, _, _, h1, h2, _⟩
  · omega
  · cases hv; exact ⟨h1, h2⟩
theorem rdi_news {w : World} {b off : Nat} {l : List Int} (h : RdI w (some ⟨b, off, none⟩) l) : ∀ j u, (l.map (Value.int .i64))[j]? = some u → w.cell? ((⟨b, off, none⟩ : Addr).add j) = some u := by
  intro j u hu
  rcases h with h | ⟨b', off', e, hlt, hc⟩
  · rw [h] at hu; simp at hu
  · cases e
    have hadd : (⟨b, off, none⟩ : Addr).add j = ⟨b, off + j, none⟩ := by unfold Addr.add; split <;> simp_all
    rw [hadd]; exact hc j u hu
theorem one_ints (l : List Int) : ∀ u ∈ l.map (Value.int .i64), u.oneCell' = true := by
  intro u hu
  obtain ⟨x, _, rfl⟩ := List.mem_map.1 hu
  rfl
theorem own_form {w : World} {base n : Nat} {e : TypeId} {v : Value} {xs : List Value} (h : w.ownsRow base e 1 v n xs) : ∃ A c, v = .slice A n c ∧ Rd w w.heap.size A xs := by
  have h' := h
  rcases h.2 with ⟨rfl, rfl⟩ | ⟨g, cap, cur, rfl, _⟩
  · refine ⟨none, 0, rfl, .inl ?_⟩
    have := h.1
    simpa using this
  · exact ⟨_, _, rfl, Rd.of_own h' (by decide)⟩
theorem same_pre {l m : List Int} {k : Nat} (hk : k < l.length) (hm : k < m.length) (h : l.take k = m.take k) : l.take (k + 1) = m.take (k + 1) ↔ l.getD k 0 = m.getD k 0 := by
  rw [take_step hk, take_step hm, h]
  simp
set_option maxHeartbeats 1000000 in
theorem same_any (A1 A2 : Option Addr) (n1 c1 n2 c2 : Nat) (l m : List Int) (w : World) (hl : l.length = n1) (hm : m.length = n2) (h1 : n1 ≤ 1000000000) (h2 : n2 ≤ 1000000000) (hA : RdI w A1 l) (hB : RdI w A2 m) :
    Calls Try.prog 26 #[.slice A1 n1 c1, .slice A2 n2 c2] w fun e w' => e = .returned (.bool (decide (l = m))) ∧ ∃ k, w' = w.drewN k := by
  have HL := Lib.hid hl
  have HM := Lib.hid hm
  have HA := Lib.hid hA
  have HB := Lib.hid hB
  clear hl hm hA hB
  obtain ⟨r, hr⟩ : ∃ r, r = decide (l = m) := ⟨_, rfl⟩
  rw [← hr]
  have hr' : r = true ↔ l = m := by rw [hr, decide_eq_true_eq]
  have HR := Lib.hid hr'
  clear hr hr'
  by_cases hne : n1 = n2
  · subst hne
    go_enter Try.func26, Try.ntmps26
    go_wp2
    go_loopw [5] (fun iv wr => ∃ k d : Nat, k ≤ n1 ∧ iv = .int .i64 k ∧ l.take k = m.take k ∧ wr = w.drewN d) (fun i _ => n1 - (intOf i).toNat)
    case atStart => exact ⟨0, 0, by omega, rfl, rfl, rfl⟩
    case round =>
      obtain ⟨k, d, hk, rfl, ht, hwr⟩ := hrel
      have HT := Lib.hid ht
      have HW := Lib.hid hwr
      clear ht hwr
      by_cases h8 : k = n1
      · have hkn : ¬ (k : Int) < (n1 : Int) := by omega
        have hr2 : Hid (r = true) := Lib.hid (HR.out.2 (by have := HT.out; rw [h8] at this; rw [← HL.out, List.take_length, HL.out, ← HM.out, List.take_length] at this; exact this))
        go_wp2
        go_ret
        exact ⟨retB_eq hr2.out, d, HW.out⟩
      · have hkn : k < n1 := by omega
        have hk1 : (k : Int) < (n1 : Int) := by omega
        have hk0 : (0 : Int) ≤ (k : Int) := by omega
        have hkl : k < l.length := by rw [HL.out]; exact hkn
        have hkm : k < m.length := by rw [HM.out]; exact hkn
        obtain ⟨b, off, rfl, hlt, g⟩ := rdi_get HA.out hkl
        obtain ⟨b2, off2, rfl, hlt2, g2⟩ := rdi_get HB.out hkm
        have HP := Lib.hid (same_pre hkl hkm HT.out)
        obtain ⟨x, hx⟩ : ∃ x, x = l.getD k 0 := ⟨_, rfl⟩
        obtain ⟨y, hy⟩ : ∃ y, y = m.getD k 0 := ⟨_, rfl⟩
        rw [← hx] at g HP
        rw [← hy] at g2 HP
        have f1 : wr.cell? ⟨b, off + k, none⟩ = some (.int .i64 x) := by rw [HW.out]; exact g
        have f2 : wr.cell? ⟨b2, off2 + k, none⟩ = some (.int .i64 y) := by rw [HW.out]; exact g2
        have HX := Lib.hid hx
        have HY := Lib.hid hy
        clear g g2 hx hy
        by_cases he : x = y
        · subst he
          have hn := Lib.hid (HP.out.2 rfl)
          go_wp2_with fail
          go_quiet (fail)
          go_wp2
          exact ⟨⟨k + 1, d + nq, by omega, by simp, hn.out, by rw [HW.out, World.drewN_drewN]⟩, by simp [intOf]; omega⟩
        · have hr2 : Hid (r = false) := Lib.hid (by
            have : ¬ r = true := fun h => he (by have e := HR.out.1 h; rw [HX.out, HY.out, e])
            simpa using this)
          go_wp2_with fail
          go_quiet (fail)
          go_wp2
          go_ret
          exact ⟨retB_eq hr2.out, d + nq, by rw [HW.out, World.drewN_drewN]⟩
  · have hne2 : ¬ (n1 : Int) = (n2 : Int) := by omega
    have hr2 : Hid (r = false) := Lib.hid (by
      have : ¬ r = true := fun h => hne (by have e := HR.out.1 h; rw [← HL.out, ← HM.out, e])
      simpa using this)
    go_enter Try.func26, Try.ntmps26
    go_wp2
    go_ret
    exact ⟨retB_eq hr2.out, 0, rfl⟩

theorem blk_bel {W w1 : World} (hb : Below W.heap.size W w1) {g : Nat} {o : Obj} (h : W.heap[g]? = some o) : w1.heap[g]? = some o := by
  have hlt : g < W.heap.size := (Array.getElem?_eq_some_iff.1 h).1
  rw [hb.block g hlt]; exact h
theorem set_get (cs : Array Value) (i j : Nat) (v : Value) (h : i < cs.size) : (cs.setIfInBounds i v)[j]? = if j = i then some v else cs[j]? := by
  rw [Array.getElem?_setIfInBounds]
  by_cases c : j = i
  · subst c; simp [h]
  · rw [if_neg (fun e => c e.symm), if_neg c]
theorem one_set {cs : Array Value} (h : cs.all (·.oneCell') = true) (i : Nat) {v : Value} (hv : v.oneCell' = true) : (cs.setIfInBounds i v).all (·.oneCell') = true := by
  rw [Array.all_eq_true_iff_forall_mem] at h ⊢
  intro x hx
  rcases Array.mem_or_eq_of_mem_setIfInBounds hx with h1 | h1
  · exact h x h1
  · rw [h1]; exact hv
/-- A row is put behind a row of the call's own. -/
theorem put_any {w : World} {base n : Nat} {v : Value} {xs : List Value} (h : w.ownsRow base 3 1 v n xs) (hn : n ≤ 1000000) (hb : base ≤ w.heap.size) (A : Option Addr) (m c : Nat) (l : List Int) (hl : l.length = m) (hm : m ≤ 1000000) (hr : RdI w A l) (ty : TypeId) :
    ∃ v' w', (Builtin.append_ #[31, 31] ty #[v, .slice A m c]).run Try.prog w = .ok v' w' ∧ w'.ownsRow base 3 1 v' (n + m) (xs ++ l.map (Value.int .i64)) ∧ w.grownBy w' v.ownBlock ∧ (v'.ownBlock = v.ownBlock ∨ v'.ownBlock = some w.heap.size) := by
  obtain ⟨i0, hI0, hI1, hI2, hI3⟩ := info_parts info3
  cases A with
  | none =>
    have h0 : l = [] := by
      rcases hr with h | ⟨b, off, e, _⟩
      · exact List.map_eq_nil_iff.1 h
      · cases e
    subst h0
    subst hl
    refine ⟨v, w, ?_, by simpa using h, ⟨rfl, rfl, rfl, Nat.le_refl _, fun _ _ _ => rfl⟩, .inl rfl⟩
    rcases h.2 with ⟨rfl, h0⟩ | ⟨g, cap, cur, rfl, _, _, hcap, _⟩
    · simp [Builtin.append_, run_underlying Try.underlying31, sizeOf, typeInfo, hI0, Builtin.lenOf, Builtin.firstCells]
    · simp [Builtin.append_, run_underlying Try.underlying31, sizeOf, typeInfo, hI0, Builtin.lenOf, Builtin.firstCells, hcap, storeCells]
  | some a =>
    have hnews : ∀ j u, (l.map (Value.int .i64))[j]? = some u → w.cell? (a.add j) = some u := by
      rcases hr with h | ⟨b, off, e, hlt, hc⟩
      · intro j u hu; rw [h] at hu; simp at hu
      · cases e; exact rdi_news (.inr ⟨b, off, rfl, hlt, hc⟩)
    obtain ⟨v', w', hr', h2, h3, _, h5⟩ := run_append_own_at (P := Try.prog) w base 31 ty 3 i0 (.int .i64 0) 1 8 Try.underlying31 hI0 hI1 hI2 hI3 rfl (by decide) v n xs h a m c (l.map (Value.int .i64)) (by rw [List.length_map, hl, Nat.mul_one]) hnews (one_ints _) (by unfold maxLen; omega) (by omega) hb
    exact ⟨v', w', hr', h2, h3, h5⟩
theorem wpList_put_any (w : World) {ops : Array Oper} {rest : List Oper} {o : Oper} {a : Act} {Q : Exit → Act → World → Prop} (hg : o.guard = none) (s x : Operand)
    (hop : o.op = Op.call { callee := Callee.builtin Builtin.append, args := #[s, x], argTypes := #[31, 31] }) {base n : Nat} {v : Value} {xs : List Value} (A : Option Addr) (m c : Nat) (l : List Int) (hs : a.eval s = v) (hx : a.eval x = .slice A m c)
    (h : w.ownsRow base 3 1 v n xs) (hn : n ≤ 1000000) (hb : base ≤ w.heap.size) (hl : l.length = m) (hm : m ≤ 1000000) (hr : RdI w A l)
    (hK : ∀ v' w', w'.ownsRow base 3 1 v' (n + m) (xs ++ l.map (Value.int .i64)) → w.grownBy w' v.ownBlock → (v'.ownBlock = v.ownBlock ∨ v'.ownBlock = some w.heap.size) → wpList Try.prog ops Q rest (a.put o.dst v') w') :
    wpList Try.prog ops Q (o :: rest) a w := by
  refine wpList_plain hg fun K' hK' => ?_
  obtain ⟨v', w', hrun, r1, r2, r3⟩ := put_any h hn hb A m c l hl hm hr o.type
  unfold Oper.wp
  simp [execOp, hop, resolve, invoke, builtin, hs, hx, hrun, Result.andThen]
  exact hK' _ _ (hK v' w' r1 r2 r3)

theorem step_put_any (w : World) {ops : Array Oper} {o : Oper} {a : Act} {K : Act → World → Prop} {Q : Exit → Act → World → Prop} {E : Prop} (hg : o.guard = none) (s x : Operand)
    (hop : o.op = Op.call { callee := Callee.builtin Builtin.append, args := #[s, x], argTypes := #[31, 31] }) {base n : Nat} {v : Value} {xs : List Value} (A : Option Addr) (m c : Nat) (l : List Int) (hs : a.eval s = v) (hx : a.eval x = .slice A m c)
    (h : w.ownsRow base 3 1 v n xs) (hn : n ≤ 1000000) (hb : base ≤ w.heap.size) (hl : l.length = m) (hm : m ≤ 1000000) (hr : RdI w A l)
    (hK : ∀ v' w', w'.ownsRow base 3 1 v' (n + m) (xs ++ l.map (Value.int .i64)) → w.grownBy w' v.ownBlock → (v'.ownBlock = v.ownBlock ∨ v'.ownBlock = some w.heap.size) → K (a.put o.dst v') w') :
    if Region.wanted o (yielded ops a.tmps) = true then Oper.wp Try.prog o a w K Q else E := by
  have hw : Region.wanted o (yielded ops a.tmps) = true := by simp [Region.wanted, hg]
  rw [if_pos hw]
  obtain ⟨v', w', hrun, r1, r2, r3⟩ := put_any h hn hb A m c l hl hm hr o.type
  unfold Oper.wp
  simp [execOp, hop, resolve, invoke, builtin, hs, hx, hrun, Result.andThen]
  exact hK v' w' r1 r2 r3
theorem grown_set {w : World} {N j : Nat} {v : Value} : w.grownBy (w.setCell ⟨N, j, none⟩ v) (some N) :=
  ⟨rfl, rfl, rfl, by simp, fun i _ hi => heap_setCell_other _ _ _ _ (fun e => hi (by rw [e]))⟩
theorem grown_row {w : World} {N : Nat} {cs : Array Value} : w.grownBy (w.setRow N cs) (some N) :=
  ⟨rfl, rfl, rfl, by simp, fun i _ hi => setRow_other _ _ _ _ (fun e => hi (by rw [e]))⟩
theorem blk_grown {W w1 : World} {row : Option Nat} (hg : W.grownBy w1 row) {g : Nat} {o : Obj} (h : W.heap[g]? = some o) (hne : some g ≠ row) : w1.heap[g]? = some o := by
  rw [hg.block g (Array.getElem?_eq_some_iff.1 h).1 hne]; exact h
theorem rdi_lit (w : World) (t : TypeId) (l : List Int) : RdI (w.alloc (.cells (l.map (Value.int .i64)).toArray t)) (some ⟨w.heap.size, 0, none⟩) l := by
  refine .inr ⟨w.heap.size, 0, rfl, by simp, fun j u hj => ?_⟩
  have := World.news_of_block (w := w.alloc (.cells (l.map (Value.int .i64)).toArray t)) (B := w.heap.size) (cs := (l.map (Value.int .i64)).toArray) (t := t) (fr := (0, 0)) (heap_alloc_new w _) j u (by simpa using hj)
  have hadd : (⟨w.heap.size, 0, none⟩ : Addr).add j = ⟨w.heap.size, 0 + j, none⟩ := by unfold Addr.add; split <;> simp_all
  rw [hadd] at this; exact this
/-- A row of numbers in memory of its own, or an empty one that has no room. -/
def Row (w : World) (base : Nat) (A : Option Addr) (l : List Int) (c : Nat) : Prop :=
  (l = [] ∧ c = 0) ∨ (0 < c ∧ w.ownsRow base 3 1 (.slice A l.length c) l.length (l.map (Value.int .i64)))
/-- The block that it may write. -/
def fpr (A : Option Addr) (c : Nat) : Option Nat := if c = 0 then none else A.map (·.block)
theorem Row.rd {w : World} {base : Nat} {A : Option Addr} {l : List Int} {c : Nat} (h : Row w base A l c) : RdI w A l := by
  rcases h with ⟨h, _⟩ | ⟨_, h⟩
  · subst h; exact .inl rfl
  · exact Rd.of_own h (by decide)
theorem Row.cap {w : World} {base : Nat} {A : Option Addr} {l : List Int} {c : Nat} (h : Row w base A l c) : l.length ≤ c ∧ c ≤ maxLen := by
  rcases h with ⟨h, h2⟩ | ⟨h0, h⟩
  · subst h h2; exact ⟨Nat.le_refl _, Nat.zero_le _⟩
  · rcases h.2 with ⟨hv, hn⟩ | ⟨g, cap, cur, hv, _, _, h1, h2, _⟩
    · injection hv with e1 e2 e3; omega
    · cases hv; exact ⟨h1, h2⟩
theorem Row.kept {w w' : World} {base : Nat} {A : Option Addr} {l : List Int} {c : Nat} {row : Option Nat} (h : Row w base A l c) (hg : w.grownBy w' row) (hne : fpr A c = none ∨ fpr A c ≠ row) : Row w' base A l c := by
  rcases h with h | ⟨h0, h⟩
  · exact .inl h
  · refine .inr ⟨h0, h.kept hg ?_⟩
    have hc : ¬ c = 0 := by omega
    cases A with
    | none => left; rfl
    | some a => right; rcases hne with hne | hne <;> simp [fpr, hc] at hne; simpa [Value.ownBlock] using hne
theorem Row.fp_lt {w : World} {base : Nat} {A : Option Addr} {l : List Int} {c g : Nat} (h : Row w base A l c) (hf : fpr A c = some g) : base ≤ g ∧ g < w.heap.size := by
  rcases h with ⟨_, h⟩ | ⟨h0, h⟩
  · subst h; simp [fpr] at hf
  · have hc : ¬ c = 0 := by omega
    cases A with
    | none => simp [fpr, hc] at hf
    | some a => simp [fpr, hc] at hf; exact h.lt g (by rw [← hf]; rfl)
theorem Row.base {w : World} {base b2 : Nat} {A : Option Addr} {l : List Int} {c : Nat} (h : Row w base A l c) (hb : b2 ≤ base) : Row w b2 A l c := by
  rcases h with h | ⟨h0, h⟩
  · exact .inl h
  · refine .inr ⟨h0, ?_⟩
    rcases h with ⟨h1, h2 | ⟨g, cap, cur, e1, e2, e3⟩⟩
    · exact ⟨h1, .inl h2⟩
    · exact ⟨h1, .inr ⟨g, cap, cur, e1, Nat.le_trans hb e2, e3⟩⟩

theorem put_nothing (A0 A : Option Addr) (n0 c0 c : Nat) (hle : n0 ≤ c0) (ty : TypeId) (w : World) : (Builtin.append_ #[31, 31] ty #[.slice A0 n0 c0, .slice A 0 c]).run Try.prog w = .ok (.slice A0 (n0 + 0) c0) w := by
  obtain ⟨i0, hI0, hI1, hI2, hI3⟩ := info_parts info3
  have hf : ∀ a : Addr, (Builtin.firstCells i0.size 0 (.slice (some a) 0 c)).run Try.prog w = .ok #[] w := fun a => run_firstCells_some (P := Try.prog) w i0.size 0 a 0 c [] (by simp) (fun j v hv => by simp at hv)
  have hg : (Builtin.firstCells i0.size 0 (.slice none 0 c)).run Try.prog w = .ok #[] w := run_firstCells_none w i0.size 0 0 c
  cases A with
  | none => cases A0 <;> simp [Builtin.append_, run_underlying Try.underlying31, sizeOf, typeInfo, hI0, Builtin.lenOf, storeCells, hle, hg]
  | some a => cases A0 <;> simp [Builtin.append_, run_underlying Try.underlying31, sizeOf, typeInfo, hI0, Builtin.lenOf, storeCells, hle, hf a]
/-- A row is put behind a row. -/
theorem put_row {w : World} {base : Nat} {A0 : Option Addr} {c0 : Nat} {l0 : List Int} (h : Row w base A0 l0 c0) (hn : l0.length ≤ 1000000) (hb : base ≤ w.heap.size) (A : Option Addr) (c : Nat) (l : List Int) (hm : l.length ≤ 1000000) (hr : RdI w A l) (ty : TypeId) :
    ∃ A' c' w', (Builtin.append_ #[31, 31] ty #[.slice A0 l0.length c0, .slice A l.length c]).run Try.prog w = .ok (.slice A' (l0.length + l.length) c') w' ∧ Row w' base A' (l0 ++ l) c' ∧ w.grownBy w' (fpr A0 c0) ∧ (fpr A' c' = none ∨ fpr A' c' = fpr A0 c0 ∨ fpr A' c' = some w.heap.size) := by
  obtain ⟨i0, hI0, hI1, hI2, hI3⟩ := info_parts info3
  rcases h with ⟨rfl, rfl⟩ | ⟨h0, h⟩
  · by_cases hl : l = []
    · subst hl
      refine ⟨A0, 0, w, ?_, .inl ⟨rfl, rfl⟩, ⟨rfl, rfl, rfl, Nat.le_refl _, fun _ _ _ => rfl⟩, .inl (by simp [fpr])⟩
      exact put_nothing A0 A 0 0 c (Nat.le_refl _) ty w
    · have hlp : 0 < l.length := List.length_pos_iff.2 hl
      rcases hr with hr | ⟨b, off, rfl, hlt, hc⟩
      · exact absurd (List.map_eq_nil_iff.1 hr) hl
      · have hnews := rdi_news (.inr ⟨b, off, rfl, hlt, hc⟩ : RdI w (some ⟨b, off, none⟩) l)
        have hcap := grownCap_le_maxLen w l.length 0 3 (by unfold maxLen; omega)
        have hge := grownCap_ge w l.length 0 3
        have hrun : (Builtin.append_ #[31, 31] ty #[.slice A0 0 0, .slice (some ⟨b, off, none⟩) l.length c]).run Try.prog w =
            .ok (.slice (some ⟨w.heap.size, 0, none⟩) l.length (grownCap w l.length 0 3)) (w.drew.alloc (.cells ((l.map (Value.int .i64)).toArray ++ Builtin.zeroCells (Value.int .i64 0).cells (grownCap w l.length 0 3 - l.length)) 3)) := by
          cases A0 with
          | none => exact run_append_nil (P := Try.prog) w 31 ty 3 i0 (.int .i64 0) Try.underlying31 hI0 hI1 ⟨b, off, none⟩ l.length c (l.map (Value.int .i64)) (by rw [List.length_map, hI2, Nat.mul_one]) hnews hlp (by omega) (by rw [hI3]; omega)
          | some a =>
            have h := run_append_grow (P := Try.prog) w 31 ty 3 i0 (.int .i64 0) Try.underlying31 hI0 hI1 a 0 0 [] (by simp) (fun j v hv => by simp at hv) ⟨b, off, none⟩ l.length c (l.map (Value.int .i64)) (by rw [List.length_map, hI2, Nat.mul_one]) hnews (by omega) (by omega) (by rw [Nat.zero_add, nextslicecap_zero hlp, hI3]; omega)
            simpa using h
        refine ⟨some ⟨w.heap.size, 0, none⟩, grownCap w l.length 0 3, _, by simpa using hrun, .inr ⟨by omega, ?_⟩, ?_, ?_⟩
        · refine ⟨by simp, .inr ⟨w.heap.size, _, _, rfl, hb, heap_alloc_new w.drew _, hge, hcap, ?_, ?_⟩⟩
          · rw [Array.size_append, size_zeroCells]
            simp [Value.cells]
            omega
          · simp
        · exact ⟨rfl, rfl, rfl, by simp, fun i hi _ => Rows_old' w.drew _ i hi⟩
        · right; right
          have : ¬ grownCap w l.length 0 3 = 0 := by omega
          simp [fpr, this]
  · have hc0 : ¬ c0 = 0 := by omega
    have hfp : (Value.slice A0 l0.length c0).ownBlock = fpr A0 c0 := by cases A0 <;> simp [fpr, hc0, Value.ownBlock]
    by_cases hl : l = []
    · subst hl
      have hcap := (Row.cap (.inr ⟨h0, h⟩ : Row w base A0 l0 c0)).1
      exact ⟨A0, c0, w, put_nothing A0 A l0.length c0 c hcap ty w, by rw [List.append_nil]; exact .inr ⟨h0, h⟩, ⟨rfl, rfl, rfl, Nat.le_refl _, fun _ _ _ => rfl⟩, .inr (.inl rfl)⟩
    · have hlp : 0 < l.length := List.length_pos_iff.2 hl
      obtain ⟨v', w', hrun, r1, r2, r3⟩ := put_any h hn hb A l.length c l rfl hm hr ty
      obtain ⟨g, c', rfl, _, _⟩ := r1.form (by omega)
      have hc' : 0 < c' := by have := (own_cap r1 (by omega)).1; omega
      have hc'' : ¬ c' = 0 := by omega
      refine ⟨some ⟨g, 0, none⟩, c', w', hrun, .inr ⟨hc', by rw [List.length_append, List.map_append]; exact r1⟩, by rw [← hfp]; exact r2, .inr ?_⟩
      rcases r3 with r3 | r3
      · left; rw [← hfp, ← r3]; simp [fpr, hc'', Value.ownBlock]
      · right; simpa [fpr, hc'', Value.ownBlock] using r3
where
  Rows_old' (w : World) (o : Obj) (i : Nat) (h : i < w.heap.size) : (w.alloc o).heap[i]? = w.heap[i]? := by
    show (w.heap.push o)[i]? = _
    rw [Array.getElem?_push, if_neg (by omega)]
theorem wpList_put_row (w : World) {ops : Array Oper} {rest : List Oper} {o : Oper} {a : Act} {Q : Exit → Act → World → Prop} (hg : o.guard = none) (s x : Operand)
    (hop : o.op = Op.call { callee := Callee.builtin Builtin.append, args := #[s, x], argTypes := #[31, 31] }) {base : Nat} (A0 : Option Addr) (n0 c0 : Nat) (l0 : List Int) (A : Option Addr) (m c : Nat) (l : List Int) (hs : a.eval s = .slice A0 n0 c0) (hx : a.eval x = .slice A m c)
    (h : Row w base A0 l0 c0) (hn0 : l0.length = n0) (hn : n0 ≤ 1000000) (hb : base ≤ w.heap.size) (hl : l.length = m) (hm : m ≤ 1000000) (hr : RdI w A l)
    (hK : ∀ A' c' w', Row w' base A' (l0 ++ l) c' → w.grownBy w' (fpr A0 c0) → (fpr A' c' = none ∨ fpr A' c' = fpr A0 c0 ∨ fpr A' c' = some w.heap.size) → wpList Try.prog ops Q rest (a.put o.dst (.slice A' (n0 + m) c')) w') :
    wpList Try.prog ops Q (o :: rest) a w := by
  subst hn0 hl
  refine wpList_plain hg fun K' hK' => ?_
  obtain ⟨A', c', w', hrun, r1, r2, r3⟩ := put_row h hn hb A c l hm hr o.type
  unfold Oper.wp
  simp [execOp, hop, resolve, invoke, builtin, hs, hx, hrun, Result.andThen]
  exact hK' _ _ (hK A' c' w' r1 r2 r3)
theorem step_put_row (w : World) {ops : Array Oper} {o : Oper} {a : Act} {K : Act → World → Prop} {Q : Exit → Act → World → Prop} {E : Prop} (hg : o.guard = none) (s x : Operand)
    (hop : o.op = Op.call { callee := Callee.builtin Builtin.append, args := #[s, x], argTypes := #[31, 31] }) {base : Nat} (A0 : Option Addr) (n0 c0 : Nat) (l0 : List Int) (A : Option Addr) (m c : Nat) (l : List Int) (hs : a.eval s = .slice A0 n0 c0) (hx : a.eval x = .slice A m c)
    (h : Row w base A0 l0 c0) (hn0 : l0.length = n0) (hn : n0 ≤ 1000000) (hb : base ≤ w.heap.size) (hl : l.length = m) (hm : m ≤ 1000000) (hr : RdI w A l)
    (hK : ∀ A' c' w', Row w' base A' (l0 ++ l) c' → w.grownBy w' (fpr A0 c0) → (fpr A' c' = none ∨ fpr A' c' = fpr A0 c0 ∨ fpr A' c' = some w.heap.size) → K (a.put o.dst (.slice A' (n0 + m) c')) w') :
    if Region.wanted o (yielded ops a.tmps) = true then Oper.wp Try.prog o a w K Q else E := by
  have hw : Region.wanted o (yielded ops a.tmps) = true := by simp [Region.wanted, hg]
  rw [if_pos hw]
  subst hn0 hl
  obtain ⟨A', c', w', hrun, r1, r2, r3⟩ := put_row h hn hb A c l hm hr o.type
  unfold Oper.wp
  simp [execOp, hop, resolve, invoke, builtin, hs, hx, hrun, Result.andThen]
  exact hK A' c' w' r1 r2 r3

/-- A row in new memory. -/
def OwnPost (w : World) (l : List Int) (e : Ending) (w' : World) : Prop := ∃ A c, e = .returned (.slice A l.length c) ∧ Row w' w.heap.size A l c ∧ Below w.heap.size w w'
theorem own_any (A : Option Addr) (n c : Nat) (l : List Int) (w : World) (hl : l.length = n) (hn : n ≤ 1000000) (hA : RdI w A l) :
    Calls Try.prog 35 #[.slice A n c] w (OwnPost w l) := by
  have HL := Lib.hid hl
  have HA := Lib.hid hA
  clear hl hA
  go_enter Try.func35, Try.ntmps35
  go_wp2_with (first
    | (at_builtin; refine wpList_put_row _ rfl (.tmp 4) (.tmp 5) rfl (base := w.heap.size) A 0 0 [] A n c l rfl rfl (.inl ⟨rfl, rfl⟩) rfl (by omega) (Nat.le_refl _) HL.out hn HA.out ?_; intro A' c' w' r1 r2 r3; have HR1 := Lib.hid r1; have HR2 := Lib.hid r2; clear r1 r2 r3)
    | fail)
  exact bodyPost_ret (v := .slice A' n c') (by simp [results, Try.results35, go_sem]) rfl ⟨A', c', by rw [HL.out], by simpa using HR1.out, (Below.refl _ _).grown HR2.out (Nat.le_refl _) (fun j hj => by simp [fpr] at hj)⟩
end Go.Proofs.Ytpihoegikojlaaa
