/- A cursor is opened; what it has still to tell. -/
import Derived.Test.YtdbcaiggliiacaaC2
namespace Go.Proofs.Ytdbcaiggliiacaa
set_option linter.unusedSimpArgs false
open Go.RowKit Go.Maps
set_option linter.unusedVariables false
theorem m_nil (w : World) (M : Nat) : (binOp .eql 56 (.map (some M)) (.map none)).run Try.prog w = .ok (.bool false) w := by
  have h0 : ∀ d : Nat, (Op.equalIn (d + 1) 56 (.map (some M)) (.map none)).run Try.prog w = .ok false w := fun d => by simp [Op.equalIn, run_underlying Try.underlying56]
  have h := h0 9999
  have e : Op.equal 56 (.map (some M)) (.map none) = Op.equalIn (9999 + 1) 56 (.map (some M)) (.map none) := rfl
  simp only [binOp]
  simp [e, h]
theorem wf_small {x : Int} (h0 : 0 ≤ x) (h1 : x ≤ 9000000000000000000) : (Lit.int .i64 x).wf = true := by
  simp [Lit.wf, IntKind.min, IntKind.max, IntKind.signed, IntKind.bits]
  omega
def updC (S : Int → Option Cur) (x : Int) (c : Cur) : Int → Option Cur := fun y => if y = x then some c else S y
def cutC (S : Int → Option Cur) (x : Int) : Int → Option Cur := fun y => if y = x then none else S y
theorem updC_map (S : Int → Option Cur) (x : Int) (c : Cur) (y : Int) : upd (fun x => (S x).map cvv) x (cvv c) y = (updC S x c y).map cvv := by
  unfold upd updC; split <;> rfl
theorem cutC_map (S : Int → Option Cur) (x : Int) (y : Int) : cut (fun x => (S x).map cvv) x y = (cutC S x y).map cvv := by
  unfold cut cutC; split <;> rfl
def cntP (o : Option Cur) (n : Nat) : Nat := if o.isSome then n else n + 1
def cntD (o : Option Cur) (n : Nat) : Nat := if o.isSome then n - 1 else n
theorem drew_bel (w : World) : Below w.heap.size w w.drew := (Below.refl _ _).drew
theorem PT.drew {w : World} {N M m n : Nat} {last : Int} {S : Int → Option Cur} (h : PT w N M m n last S) : PT w.drew N M m n last S := ⟨h.1, h.2.heap rfl⟩
theorem PT.store {w : World} {N M m n : Nat} {last : Int} {S : Int → Option Cur} (h : PT w N M m n last S) (k : Int) (hk : (Lit.int .i64 k).wf = true) (a b : ByteArray) (e : Bool) (hm : m ≤ 1000000) :
    ∃ w', (Instr.mapUpdate 56 (.map (some M)) (.int .i64 k) (.agg #[.string a, .string b, .bool e])).run Try.prog w = .ok () w' ∧ PT w' N M (m + 1) (cntP (S k) n) last (updC S k (a, b, e)) ∧ Chg (fun g => g = M) w w' := by
  obtain ⟨w', hrun, r1, r2⟩ := h.2.store k hk (cvv (a, b, e)) (by unfold maxLen; omega)
  have hc := turned_chg r2
  refine ⟨w', hrun, ⟨keep_chg hc h.1 h.ne, ?_⟩, hc⟩
  have := r1.congr (updC_map S k (a, b, e))
  rw [Option.isSome_map] at this
  exact this
theorem PT.drop {w : World} {N M m n : Nat} {last : Int} {S : Int → Option Cur} (h : PT w N M m n last S) (k : Int) (hk : (Lit.int .i64 k).wf = true) (ty : TypeId) :
    ∃ w', (Builtin.delete_ #[56, 3] ty #[.map (some M), .int .i64 k]).run Try.prog w = .ok (.tuple #[]) w' ∧ PT w' N M m (cntD (S k) n) last (cutC S k) ∧ Chg (fun g => g = M) w w' := by
  obtain ⟨w', hrun, r1, r2⟩ := h.2.drop k hk ty
  have hc := turned_chg r2
  refine ⟨w', hrun, ⟨keep_chg hc h.1 h.ne, ?_⟩, hc⟩
  have := r1.congr (cutC_map S k)
  rw [Option.isSome_map] at this
  exact this
theorem PT.f1 {w : World} {N M m n : Nat} {last : Int} {S : Int → Option Cur} (h : PT w N M m n last S) : w.frozen? ⟨N, 1, none⟩ = false := by simp [World.frozen?, h.1]
theorem PT.count {w : World} {N M m n : Nat} {last : Int} {S : Int → Option Cur} (h : PT w N M m n last S) (x : Int) : PT (w.setCell ⟨N, 1, none⟩ (.int .i64 x)) N M m n x S := by
  refine ⟨?_, h.2.heap ?_⟩
  · rw [show (w.setCell ⟨N, 1, none⟩ (.int .i64 x)).heap[N]? = (w.heap.modify N _)[N]? from rfl]
    simp [Array.getElem?_modify, h.1]
  · exact (Chg.set (D := fun g => g = N) w (.int .i64 x) rfl).block M h.2.lt (fun e => h.ne e.symm)
set_option maxRecDepth 10000 in
set_option maxHeartbeats 1000000 in
theorem open_ok {w : World} {N M m n : Nat} {last : Int} {S : Int → Option Cur} (h : PT w N M m n last S) (a b : ByteArray) (hr : sb a b = true) (h0 : 0 ≤ last) (h1 : last ≤ 1000000) (hm : m ≤ 1000000) :
    Calls Try.prog 11 #[.pointer (some ⟨N, 0, none⟩), .agg #[.string a, .string b]] w fun e w' => e = .returned (.tuple #[.int .i64 (last + 1), .int .i64 0]) ∧
      PT w' N M (m + 1) (cntP (S (last + 1)) n) (last + 1) (updC S (last + 1) (a, b, false)) ∧ Chg (fun g => g = N ∨ g = M) w w' := by
  have mn := fun W => m_nil W M
  have hne := h.ne
  have hlt := h.lt
  have hA := alb w (.cells #[.string a, .string b] 29)
  have h' := h.later hA
  have HP := Lib.hid h'
  have HA := Lib.hid hA
  have c0 := h'.c0
  have wf1 : (Lit.int .i64 (last + 1)).wf = true := wf_small (by omega) (by omega)
  have RR : Hid (∀ W, Calls Try.prog 29 #[.agg #[.string a, .string b]] W fun e w' => e = .returned (.bool true) ∧ Below W.heap.size W w') := Lib.hid (fun W => by
    have := rightRange_any a b W
    rw [hr] at this; exact this)
  clear h hr h' hA
  go_enter Try.func11, Try.ntmps11
  go_wp2_with (first
    | (go_at_call 29; ((with_reducible refine (RR.out _).mono ?_); rintro e w1 ⟨rfl, b1⟩; have HP1 := Lib.hid (HP.out.later b1); have B1 := Lib.hid b1; have c1 := HP1.out.c0; have c2 := HP1.out.c1; have f2 := HP1.out.f1; clear b1))
    | fail)
  have PW := HP1.out.count (last + 1)
  have CW : Chg (fun g => g = N ∨ g = M) w (w1.setCell ⟨N, 1, none⟩ (.int .i64 (last + 1))) := (Chg.of_below (bel_trans HA.out B1.out)).trans (Chg.set (D := fun g => g = N) w1 _ rfl) (fun g e => .inl (.inl e))
  have hs : w.heap.size ≠ N := fun e => by have := hlt.1; omega
  have z0 : (w1.setCell ⟨N, 1, none⟩ (.int .i64 (last + 1))).heap[w.heap.size]? = some (.cells #[.string a, .string b] 29 (0, 0)) := keep_chg (Chg.set (D := fun g => g = N) w1 _ rfl) (keep_bel B1.out (heap_alloc_new w _)) hs
  obtain ⟨W, hW⟩ : ∃ W, W = (w1.setCell ⟨N, 1, none⟩ (.int .i64 (last + 1))) := ⟨_, rfl⟩
  rw [← hW] at PW CW z0 ⊢
  clear hW
  have g0 : W.cell? ⟨w.heap.size, 0, none⟩ = some (.string a) := by simp [World.cell?, z0]
  have g1 : W.cell? ⟨w.heap.size, 1, none⟩ = some (.string b) := by simp [World.cell?, z0]
  have c0 := PW.c0
  have c1 := PW.c1
  have PW := Lib.hid PW
  have CW := Lib.hid CW
  clear z0 HP HP1 B1 HA
  obtain ⟨w5, hrun, p5, t5⟩ := PW.out.drew.store (last + 1) wf1 a b false hm
  have c5 := p5.c1
  have CH5 := Lib.hid (CW.out.trans ((Chg.of_below (D := fun g => g = M) (drew_bel W)).trans t5 (fun g e => .inl e)) (fun g (e : g = M) => .inl (.inr e)) : Chg (fun g => g = N ∨ g = M) w w5)
  have P5 := Lib.hid p5
  clear p5 t5
  go_region_law (fail)
  all_goals
    go_wp2
    exact bodyPost_ret (v := .tuple #[.int .i64 (last + 1), .int .i64 0]) (by simp [results, Try.results11, go_sem]) rfl ⟨rfl, P5.out, CH5.out⟩
theorem open_no {w : World} {N M m n : Nat} {last : Int} {S : Int → Option Cur} (h : PT w N M m n last S) (a b : ByteArray) (hr : sb a b = false) :
    Calls Try.prog 11 #[.pointer (some ⟨N, 0, none⟩), .agg #[.string a, .string b]] w fun e w' => e = .returned (.tuple #[.int .i64 0, .int .i64 7]) ∧ Below w.heap.size w w' := by
  have mn := fun W => m_nil W M
  have hA := alb w (.cells #[.string a, .string b] 29)
  have HA := Lib.hid hA
  have c0 := (h.later hA).c0
  have RR : Hid (∀ W, Calls Try.prog 29 #[.agg #[.string a, .string b]] W fun e w' => e = .returned (.bool false) ∧ Below W.heap.size W w') := Lib.hid (fun W => by
    have := rightRange_any a b W
    rw [hr] at this; exact this)
  clear h hr hA
  go_enter Try.func11, Try.ntmps11
  go_wp2_with (first
    | (go_at_call 29; ((with_reducible refine (RR.out _).mono ?_); rintro e w1 ⟨rfl, b1⟩; have B1 := Lib.hid (bel_trans HA.out b1); clear b1))
    | fail)
  exact bodyPost_ret (v := .tuple #[.int .i64 0, .int .i64 7]) (by simp [results, Try.results11, go_sem]) rfl ⟨rfl, B1.out⟩
theorem box2_set {W : World} {g : Nat} {u v : Value} {t : TypeId} (z0 : W.heap[g]? = some (.cells #[u, v] t (0, 0))) (a b : Value) :
    ((W.setCell ⟨g, 0, none⟩ a).setCell ⟨g, 1, none⟩ b).cell? ⟨g, 0, none⟩ = some a ∧ ((W.setCell ⟨g, 0, none⟩ a).setCell ⟨g, 1, none⟩ b).cell? ⟨g, 1, none⟩ = some b ∧ Chg (fun x => x = g) W ((W.setCell ⟨g, 0, none⟩ a).setCell ⟨g, 1, none⟩ b) := by
  refine ⟨?_, ?_, (Chg.set (D := fun x => x = g) W a rfl).trans (Chg.set (D := fun x => x = g) _ b rfl) (fun x e => .inl e)⟩ <;> simp [World.setCell, World.cell?, Array.getElem?_modify, z0]
theorem left_some {w : World} {N M m n : Nat} {last : Int} {S : Int → Option Cur} (h : PT w N M m n last S) (x : Int) (hx : (Lit.int .i64 x).wf = true) (a b : ByteArray) (e : Bool) (hc : S x = some (a, b, e)) :
    Calls Try.prog 16 #[.pointer (some ⟨N, 0, none⟩), .int .i64 x] w fun r w' => r = .returned (.tuple #[.agg #[.string a, .string b], .bool e, .int .i64 0]) ∧ Below w.heap.size w w' := by
  have F := Lib.hid (find_some (h.later (alb w (.cells #[.string ⟨#[]⟩, .string ⟨#[]⟩] 29))) x hx a b e hc)
  have HA := Lib.hid (alb w (.cells #[.string ⟨#[]⟩, .string ⟨#[]⟩] 29))
  clear h hc
  go_enter Try.func16, Try.ntmps16
  go_wp2_with (first
    | (go_at_call 30; ((with_reducible refine F.out.mono ?_); rintro e w1 ⟨rfl, b1⟩; have BB := Lib.hid b1; have B1 := Lib.hid (bel_trans HA.out b1); clear b1))
    | fail)
  have z0 : (w1.alloc (.cells #[.string a, .string b, .bool e] 73)).heap[w.heap.size]? = some (.cells #[.string ⟨#[]⟩, .string ⟨#[]⟩] 29 (0, 0)) := keep_bel (alb w1 _) (keep_bel BB.out (heap_alloc_new w _))
  have z1 := heap_alloc_new w1 (.cells #[.string a, .string b, .bool e] 73)
  have hB := bel_alloc B1.out (.cells #[.string a, .string b, .bool e] 73)
  have hne : w.heap.size ≠ w1.heap.size := by have := BB.out.size; simp at this; omega
  obtain ⟨g, hg⟩ : ∃ g, g = w1.heap.size := ⟨_, rfl⟩
  rw [← hg] at z1 hne ⊢
  obtain ⟨W, hW⟩ : ∃ W, W = w1.alloc (.cells #[.string a, .string b, .bool e] 73) := ⟨_, rfl⟩
  rw [← hW] at z0 z1 hB ⊢
  clear hW hg
  have g0 : W.cell? ⟨w.heap.size, 0, none⟩ = some (.string ⟨#[]⟩) := by simp [World.cell?, z0]
  have g1 : W.cell? ⟨w.heap.size, 1, none⟩ = some (.string ⟨#[]⟩) := by simp [World.cell?, z0]
  have f0 : W.frozen? ⟨w.heap.size, 0, none⟩ = false := by simp [World.frozen?, z0]
  have f1 : W.frozen? ⟨w.heap.size, 1, none⟩ = false := by simp [World.frozen?, z0]
  have e0 : W.cell? ⟨g, 0, none⟩ = some (.string a) := by simp [World.cell?, z1]
  have e1 : W.cell? ⟨g, 1, none⟩ = some (.string b) := by simp [World.cell?, z1]
  have e2 : W.cell? ⟨g, 2, none⟩ = some (.bool e) := by simp [World.cell?, z1]
  obtain ⟨q0, q1, ch⟩ := box2_set z0 (.string a) (.string b)
  have HB := Lib.hid (hB.trans (ch.below (fun x e => by omega) hB.size))
  clear z0 z1 hB BB B1 F ch
  go_region_law (fail)
  all_goals
    go_wp2
    exact bodyPost_ret (v := .tuple #[.agg #[.string a, .string b], .bool e, .int .i64 0]) (by simp [results, Try.results16, go_sem, q0, q1]) rfl ⟨rfl, (by first | exact HB.out | exact bel_trans HB.out (drew_bel _))⟩
end Go.Proofs.Ytdbcaiggliiacaa
