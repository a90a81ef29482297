/- List: what a row tells, put behind each other. -/
import Derived.Test.YtpijaphcknoobaaIX2
import Derived.Deep.AppendLies
namespace Go.Proofs.Ytpijaphcknoobaa.I
set_option linter.unusedSimpArgs false
open Go.RowKit Go.Shelf
set_option linter.unusedVariables false
attribute [local go_sem] Oper.semAt_some

/-- The cells of a list. -/
def cls (xs : List TT) : List Value := xs.flatMap fun x => [.int .i64 x]
theorem cls_snoc (xs : List TT) (x : TT) : cls (xs ++ [x]) = cls xs ++ [.int .i64 x] := by simp [cls]
theorem cls_len (xs : List TT) : (cls xs).length = xs.length * 1 := by
  induction xs with
  | nil => rfl
  | cons x xs ih => simp only [cls, List.flatMap_cons, List.length_append, List.length_cons, List.length_nil] at *; omega
theorem take_more {xs : List TT} {k : Nat} {x : TT} (h : xs[k]? = some x) : xs.take (k + 1) = xs.take k ++ [x] := by
  obtain ⟨hk, e⟩ := List.getElem?_eq_some_iff.1 h
  rw [List.take_succ_eq_append_getElem hk, e]
theorem own_chg {W W' : World} {base : Nat} {e : TypeId} {size n : Nat} {v : Value} {ys : List Value} {F : Nat → Prop} (h : W.ownsRow base e size v n ys) (hc : Chg F W W') (hn : ∀ g, v.ownBlock = some g → ¬ F g) : W'.ownsRow base e size v n ys := by
  obtain ⟨hl, h⟩ := h
  rcases h with h | ⟨g, cap, cur, rfl, hb, hg, rest⟩
  · exact ⟨hl, .inl h⟩
  · exact ⟨hl, .inr ⟨g, cap, cur, rfl, hb, (hc.block g (Array.getElem?_eq_some_iff.1 hg).1 (hn g rfl)).trans hg, rest⟩⟩
/-- What lies behind k things. -/
def LiJ (xs : List TT) (bl k : Nat) (D : Nat → Prop) (W : World) : Prop :=
  ∃ v, D = (fun g => g = bl ∨ v.ownBlock = some g) ∧ Boxed W bl 54 v ∧ W.ownsRow bl 3 1 v k (cls (xs.take k)) ∧ v.ownBlock ≠ some bl
theorem liJ_loc (xs : List TT) (bl B : Nat) : LocB B (LiJ xs bl) := by
  rintro k D W W' ⟨v, rfl, h1, h2, h3⟩ hc
  exact ⟨v, rfl, boxed_chg h1 hc (fun h => h.1 (.inl rfl)), own_chg h2 hc (fun g e h => h.1 (.inr e)), h3⟩
theorem infoE : (Try.prog.info? 3).map (fun i => (i.zero, i.size, i.bytes)) = some (some (.int .i64 0), 1, 8) := by kernel_rfl
theorem info_parts {z : Value} {n b : Nat} {t : TypeId} (h : (Try.prog.info? t).map (fun i => (i.zero, i.size, i.bytes)) = some (some z, n, b)) : ∃ i, Try.prog.info? t = some i ∧ i.zero = some z ∧ i.size = n ∧ i.bytes = b := by
  cases hi : Try.prog.info? t with
  | none => rw [hi] at h; simp at h
  | some i => rw [hi] at h; simp at h; exact ⟨i, rfl, h.1, h.2.1, h.2.2⟩
set_option maxRecDepth 100000 in
set_option maxHeartbeats 4000000 in
theorem list1_any (xs : List TT) (hn : xs.length ≤ 100000) (bl k : Nat) (x : TT) (D : Nat → Prop) (W : World) (hx : xs[k]? = some x) (hJ : LiJ xs bl k D W) (hin : In D W) :
    Calls Try.prog 48 (enc x ++ #[.pointer (some ⟨bl, 0, none⟩)]) W (TellPost (LiJ xs bl) (fun _ _ _ => False) k D W) := by
  obtain ⟨i0, hi, hz0, hz1, hz2⟩ := info_parts infoE
  obtain ⟨v, rfl, h1, h2, h3⟩ := hJ
  obtain ⟨hk, _⟩ := List.getElem?_eq_some_iff.1 hx
  have hbl : bl < W.heap.size := h1.lt
  have e1 := take_more hx
  have E1 := Lib.hid e1
  have H2 := Lib.hid h2
  have H3 := Lib.hid h3
  have c1 := h1.cell
  have f1 := h1.frozen
  have HB := Lib.hid h1
  have HO : Hid (∀ V : World, Below W.heap.size W V → V.ownsRow bl 3 1 v k (cls (xs.take k))) := Lib.hid (fun V hV => own_chg h2 (Chg.of_below (D := fun _ => False) hV) (fun _ _ h => h))
  have HV : Hid (∀ g, v.ownBlock = some g → g < W.heap.size) := Lib.hid (fun g e => hin g (.inr e))
  clear hx e1 h2 h3 h1 hin
  have hV : Below W.heap.size W (W.alloc (.cells #[.int .i64 x] 3)) := bel_alloc (Below.refl _ _) _
  have hsV : (W.alloc (.cells #[.int .i64 x] 3)).heap.size = W.heap.size + 1 := by simp
  have hnw : Hid (∀ j u, ([.int .i64 x] : List Value)[j]? = some u → (W.alloc (.cells #[.int .i64 x] 3)).cell? ((⟨W.heap.size, 0, none⟩ : Addr).add j) = some u) := Lib.hid (World.news_of_block (cs := #[.int .i64 x]) (t := 3) (fr := (0, 0)) (by simpa using World.alloc_heap_new W (.cells #[.int .i64 x] 3)))
  have OV := Lib.hid (HO.out _ hV)
  have BV := Lib.hid (boxed_later HB.out hV)
  have HVb := Lib.hid hV
  have hlb : bl ≤ (W.alloc (.cells #[.int .i64 x] 3)).heap.size := by omega
  clear hV
  go_enter Try.func48, Try.ntmps48
  go_wp2_with (at_builtin; refine wpList_append_lies _ rfl (.tmp 4) (.tmp 6) _ rfl bl 3 i0 _ 1 8 Try.underlying54 hi hz0 hz1 hz2 rfl (by omega) v k (cls (xs.take k)) rfl OV.out ⟨W.heap.size, 0, none⟩ 1 1 [.int .i64 x] rfl rfl hnw.out (by simp [Value.oneCell']) (by omega) (by simp only [maxLen]; omega) (by omega) hlb (W.heap.size + 1) hsV ?_; intro gg cap w2 hown2 hg2 hat2 hlt2; have B2 := BV.out.kept hg2 (fun e => H3.out e.symm); have HOWN := Lib.hid hown2; have HG2 := Lib.hid hg2; have HAT := Lib.hid hat2; have HLT := Lib.hid hlt2; have cB := B2.cell; have fB := B2.frozen; have HB2 := Lib.hid B2; clear hown2 hg2 hat2 hlt2 B2)
  have hne : gg ≠ bl := by
    rcases HAT.out with e | e
    · intro e2; exact H3.out (by rw [e, e2])
    · omega
  refine bodyPost_ret (v := .bool true) (by simp [results, Try.results48, go_sem]) rfl ⟨fun g => g = bl ∨ gg = g, ?_, ?_, .inl ⟨rfl, .slice (some ⟨gg, 0, none⟩) (k + 1) cap, by funext g; simp [Value.ownBlock], HB2.out.set _, ?_, by simpa [Value.ownBlock] using hne⟩⟩
  · rintro g (rfl | rfl)
    · exact .inl (.inl rfl)
    · rcases HAT.out with e | e
      · exact .inl (.inr e)
      · exact .inr ⟨by omega, by simpa [World.setCell] using HLT.out⟩
  · exact ((Chg.of_below HVb.out).trans (Chg.of_grown HG2.out (D := fun g => v.ownBlock = some g) (fun g e => e)) (fun g e => .inl (.inr e))).trans (Chg.set (D := fun g => g = bl) _ _ rfl) (fun g e => .inl (.inl e))
  · rw [E1.out, cls_snoc]
    exact own_chg HOWN.out (Chg.set (D := fun g => g = bl) _ _ rfl) (fun g e h => hne (by simp [Value.ownBlock] at e; omega))
end Go.Proofs.Ytpijaphcknoobaa.I
