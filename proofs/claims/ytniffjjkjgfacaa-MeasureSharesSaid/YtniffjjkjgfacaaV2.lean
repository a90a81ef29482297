/- What an iterator over numbers gives, collected. -/
import Derived.Test.YtniffjjkjgfacaaV1
import Derived.Maps.OwnIn
namespace Go.Proofs.Ytniffjjkjgfacaa
set_option linter.unusedSimpArgs false
open Go.RowKit Go.Maps Go.Shelf
set_option linter.unusedVariables false
attribute [local go_sem] Oper.semAt_some
theorem RE.wpListIn_put {α : Type} (E : RE α) {Fc : Fence} {nF : Nat} (w : World) {ops : Array Oper} {rest : List Oper} {o : Oper} {a : Act} {Q : Exit → Act → World → Prop} (hg : o.guard = none) (s x : Operand)
    (hop : o.op = Op.call { callee := Callee.builtin Builtin.append, args := #[s, x], argTypes := #[E.st, E.st] }) {base : Nat} (A0 : Option Addr) (n0 c0 : Nat) (l0 : List α) (A : Option Addr) (m c : Nat) (l : List α) (hs : a.eval s = .slice A0 n0 c0) (hx : a.eval x = .slice A m c)
    (h : E.Row w base A0 l0 c0) (hn0 : l0.length = n0) (hn : n0 ≤ 1000000) (hb : base ≤ w.heap.size) (hl : l.length = m) (hm : m ≤ 1000000) (hr : E.Rd w A l)
    (hK : ∀ A' c' w', E.Row w' base A' (l0 ++ l) c' → w.grownBy w' (fp A0 c0) → (fp A' c' = none ∨ fp A' c' = fp A0 c0 ∨ fp A' c' = some w.heap.size) → wpListIn Fc nF Try.prog ops Q rest (a.put o.dst (.slice A' (n0 + m) c')) w') :
    wpListIn Fc nF Try.prog ops Q (o :: rest) a w := by
  subst hn0 hl
  refine wpListIn_plain hg fun K' hK' => ?_
  obtain ⟨A', c', w', hrun, r1, r2, r3⟩ := h.put hn hb A c l hm hr o.type
  unfold Oper.wpIn
  refine ⟨by simp [Oper.about, hop, resolve, Target.leads, Sem.run_pure], ?_⟩
  rw [Oper.semAt_plain _ _ _ (by rw [hop]; intro c hc'; cases hc')]
  simp [execOp, hop, resolve, invoke, builtin, hs, hx, hrun, Result.andThen]
  exact hK' _ _ (hK A' c' w' r1 r2 r3)
theorem own_chg {D : Nat → Prop} {w w' : World} {base n size : Nat} {e : TypeId} {v : Value} {xs : List Value} (h : w.ownsRow base e size v n xs) (hc : Chg D w w') (hD : ∀ g, v.ownBlock = some g → ¬ D g) : w'.ownsRow base e size v n xs := by
  rcases h with ⟨h1, h2 | ⟨g, cap, cur, rfl, hb, hh, hr⟩⟩
  · exact ⟨h1, .inl h2⟩
  · exact ⟨h1, .inr ⟨g, cap, cur, rfl, hb, (hc.block g (Array.getElem?_eq_some_iff.1 hh).1 (hD g rfl)).trans hh, hr⟩⟩
theorem ob_eq (A : Option Addr) (n c : Nat) : (Value.slice A n c).ownBlock = A.map (·.block) := by cases A <;> rfl
theorem RE.Row.chg {α : Type} {E : RE α} {D : Nat → Prop} {w w' : World} {base : Nat} {A : Option Addr} {l : List α} {c : Nat} (h : E.Row w base A l c) (hc : Chg D w w') (hD : ∀ g, RE.fp A c = some g → ¬ D g) : E.Row w' base A l c := by
  rcases h with h | ⟨h0, h⟩
  · exact .inl h
  · refine .inr ⟨h0, own_chg h hc (fun g hg => hD g ?_)⟩
    rw [ob_eq] at hg
    have : ¬ c = 0 := by omega
    simp [RE.fp, this, hg]
/-- What lies between the rounds: the box of the slice, and its row. -/
def ApI (bs : Nat) (xs : List Int) (k : Nat) (D : Nat → Prop) (W : World) : Prop :=
  ∃ A' c', D = (fun g => g = bs ∨ RE.fp A' c' = some g) ∧ Boxed W bs 26 (.slice A' k c') ∧ EI.Row W (bs + 1) A' (xs.take k) c'
theorem apI_loc (bs B : Nat) (xs : List Int) : LocB B (ApI bs xs) := by
  rintro k D W W' ⟨A', c', rfl, h1, h2⟩ hc
  exact ⟨A', c', rfl, boxed_chg h1 hc (fun h => h.1 (.inl rfl)), h2.chg hc (fun g e h => h.1 (.inr e))⟩
set_option maxRecDepth 100000 in
set_option maxHeartbeats 4000000 in
theorem append_any {gf : Nat} {lb : Array Value} {xs : List Int} {F : Nat → Prop} {R : World → Prop} (eg : ∀ args w, (callFunc gf args).run Try.prog w = .ok (.enter gf args) w) (hseq : SeqR Try.prog gf lb enc1 xs F R) (hn : xs.length ≤ 1000) (w : World) (hR : R w) (hRb : ∀ W W', R W → Below W.heap.size W W' → R W') (hF : ∀ g, F g → g < w.heap.size) :
    Calls Try.prog 40 #[.slice none 0 0, .func (.func gf) #[] lb] w fun e w' => ∃ A' c', e = .returned (.slice A' xs.length c') ∧ EI.Row w' w.heap.size A' xs c' ∧ Below w.heap.size w w' := by
  obtain ⟨V, hV⟩ : ∃ V, V = w.alloc (.cells #[.slice none 0 0] 26) := ⟨_, rfl⟩
  have bV : Below w.heap.size w V := by rw [hV]; exact alb w _
  have hsV : V.heap.size = w.heap.size + 1 := by rw [hV]; simp
  have v0 : Boxed V w.heap.size 26 (.slice none 0 0) := by rw [hV]; exact Boxed.new w 26 _
  have HR := Lib.hid (hRb w V hR bV)
  have HRB := Lib.hid hRb
  have HF := Lib.hid hF
  have HSQ := Lib.hid hseq
  have HSV := Lib.hid hsV
  have BV := Lib.hid bV
  have V0 := Lib.hid v0
  have EG := Lib.hid eg
  clear hR hRb hF hseq hsV bV v0 eg
  subst hV
  refine (callsIn_wide (n := 4)).1 ?_
  refine callsIn_of_wp_marks Try.func40 rfl trivial ?_ rfl
  simp only [Try.ntmps40, List.size_toArray, List.length_cons, List.length_nil, Nat.reduceAdd, Nat.reduceSub, Array.replicate_succ, Array.replicate_zero, List.push_toArray, List.append_toArray, List.nil_append, List.cons_append]
  gi_wp2
  refine range_R (gf := gf) (lb := lb) (encs := enc1) (xs := xs) rfl EG.out HSQ.out HR.out HRB.out (fun g hg => by have := HF.out g hg; rw [HSV.out]; omega) (fun _ => rfl) (ApI w.heap.size xs) (fun _ _ _ _ => False) (apI_loc _ _ _) (fun c k D W W' h _ => h)
    (fun g => g = w.heap.size) (fun g hg => ?_) ⟨none, 0, by funext g; simp [RE.fp], V0.out, .inl ⟨rfl, rfl⟩⟩
    (fun x U => { tmps := #[.slice none 0 0, .func (.func gf) #[] lb, .pointer (some ⟨w.heap.size, 0, none⟩), undef, .slice none 0 0, .int .i64 x, .func (.func gf) #[] lb, .int .i64 x, undef, undef, undef, undef, undef], defers := [] }) (fun x U => U) (fun x U => Below.refl _ _) ?_ ?_ ?_ ?_
  · refine ⟨fun hf => ?_, by rw [HSV.out]; omega⟩
    have := HF.out g hf
    omega
  · intro m l x U K hK
    simp only [enc1]
    gi_wp2
    exact hK
  · rintro m l k p D U V o hx hl hlU rfl hinD hlD hgr hch ⟨A', c', rfl, hbx, hrow⟩
    obtain ⟨Z, hZ⟩ : ∃ Z, Z = U.putObj l o := ⟨_, rfl⟩
    try simp only at hbx hrow
    rw [← hZ] at hbx hrow
    have hkl : k < xs.length := (List.getElem?_eq_some_iff.1 hx).1
    have hkt : (xs.take k).length = k := by rw [List.length_take]; omega
    have hnx : xs.take (k + 1) = xs.take k ++ [p] := by rw [List.take_add_one, hx]; rfl
    have hzs : w.heap.size + 1 ≤ Z.heap.size := by have := hbx.lt; omega
    have cb := hbx.cell
    have RW := Lib.hid (hrow.later (alb Z (.cells #[.int .i64 p] 3)))
    have RL := Lib.hid (RE.Rd.lit (E := EI) Z 3 [p] #[.int .i64 p] rfl)
    have BX := Lib.hid (boxed_later hbx (alb Z (.cells #[.int .i64 p] 3)))
    have HKT := Lib.hid hkt
    have HNX := Lib.hid hnx
    have HZS : Hid (w.heap.size + 1 ≤ (Z.alloc (.cells #[.int .i64 p] 3)).heap.size) := Lib.hid (by simp; omega)
    have HK9 : Hid (k ≤ 1000000) := Lib.hid (by omega)
    clear hx hl hlU hinD hlD hgr hch hkl hkt hnx hbx hrow hzs
    change (Code.block 1 _).wpIn _ _ _ _ _ (U.putObj l o)
    rw [← hZ]
    clear hZ
    gi_wp2_with (first
      | (gi_at_builtin; refine RE.wpListIn_put EI _ rfl (.tmp 8) (.tmp 10) rfl (base := w.heap.size + 1) A' k c' _ _ 1 1 [p] rfl rfl RW.out HKT.out HK9.out HZS.out rfl (by omega) RL.out ?_; intro A2 c2 w3 r1 r2 r3; have R1 := Lib.hid r1; have R2 := Lib.hid r2; have R3 := Lib.hid r3; have bx3 := boxed_chg BX.out (chg_of_grown r2) (fun e => by have := (RW.out.fp_lt e).1; omega); have BX3 := Lib.hid bx3; have cb3 := bx3.cell; have fb3 := bx3.frozen; clear bx3 r1 r2 r3)
      | fail)
    have q1 := R1.out
    rw [← HNX.out] at q1
    have hlt3 := BX3.out.lt
    have hs3 := R2.out.size
    refine ⟨fun g => g = w.heap.size ∨ RE.fp A2 c2 = some g, fun g hg => ?_, ?_, A2, c2, rfl, BX3.out.set _, q1.chg (Chg.set (D := fun g => g = w.heap.size) w3 _ rfl) (fun g e h => by have := (q1.fp_lt e).1; omega)⟩
    · rcases hg with e | e
      · exact .inl (.inl e)
      · rcases R3.out with h | h | h
        · rw [h] at e; cases e
        · rw [h] at e; exact .inl (.inr e)
        · have e2 := h.symm.trans e
          have := (q1.fp_lt e).2
          simp at e2
          exact .inr ⟨by omega, by simpa using this⟩
    · exact ((Chg.of_below (alb Z _)).trans (chg_of_grown R2.out) (fun g hg => .inl (.inr hg))).trans (Chg.set (D := fun g => g = w.heap.size) w3 _ rfl) (fun g hg => .inl (.inl hg))
  · rintro B D U hB hD hgr hch ⟨A', c', rfl, hbx, hrow⟩ hK
    have hb3 := hbx.cell
    rw [List.take_length] at hrow
    have bU : Below w.heap.size w U := BV.out.trans (hch.below (fun g hg => by omega) (by rw [HSV.out]; omega))
    have cP : Chg (fun g => g = B) U (U.putObj B (.deferred none)) := Chg.put (D := fun g => g = B) _ _ rfl
    have hBs : w.heap.size + 1 ≤ B := by rw [HSV.out] at hB; exact hB
    have HRW : Hid (EI.Row (U.putObj B (.deferred none)) w.heap.size A' xs c') := Lib.hid ((hrow.base (by omega)).chg cP (fun g e h => hD (.inr (by rw [← show g = B from h]; exact e))))
    have HBL : Hid (Below w.heap.size w (U.putObj B (.deferred none))) := Lib.hid (bU.trans (cP.below (fun g (hg : g = B) => by omega) bU.size))
    have HKD := Lib.hid hK
    clear hgr hch hbx hrow hK bU cP hBs hD hB
    gi_wp2
    exact ⟨by simp, .inl ⟨_, _, rfl, run_takeDeferred HKD.out, .slice A' xs.length c', by simp [results, Try.results40, go_sem], A', c', rfl, HRW.out, HBL.out⟩⟩
  · rintro B c k D W _ _ _ _ _ h _
    exact h.elim
end Go.Proofs.Ytniffjjkjgfacaa
