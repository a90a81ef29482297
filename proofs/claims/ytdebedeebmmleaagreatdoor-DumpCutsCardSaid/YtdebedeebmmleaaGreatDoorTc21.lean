/- Texts of the proof, one behind the other. -/
import Derived.Test.YtdebedeebmmleaaGreatDoorTc18
import Derived.Test.YtdebedeebmmleaaGreatDoorTc20
import Derived.Test.YtdebedeebmmleaaGreatDoorTc01
import Derived.Test.YtdebedeebmmleaaGreatDoorTc04
set_option linter.unusedVariables false
set_option linter.unusedSimpArgs false
namespace Go.Proofs.YtdebedeebmmleaaGreatDoor
open Go.RowKit Go.Maps
abbrev wTree : ByteArray := ⟨#[116, 114, 101, 101]⟩
abbrev wLeaf : ByteArray := ⟨#[108, 101, 97, 102]⟩
abbrev wInner : ByteArray := ⟨#[105, 110, 110, 101, 114]⟩
abbrev wBlock : ByteArray := ⟨#[98, 108, 111, 99, 107]⟩
abbrev wPut : ByteArray := ⟨#[112, 117, 116]⟩
abbrev wDel : ByteArray := ⟨#[100, 101, 108, 101, 116, 101]⟩
abbrev wAdd : ByteArray := ⟨#[97, 100, 100]⟩
abbrev wClr : ByteArray := ⟨#[99, 108, 101, 97, 114]⟩
/-- A line: words with blanks between. -/
def lineL (ws : List ByteArray) : List UInt8 := Lib.join (ws.map (·.data.toList)) [32] ++ [10]
theorem line_ne (ws : List ByteArray) : lineL ws ≠ [] := by unfold lineL; simp
theorem fm_take {α : Type} (f : α → List UInt8) (xs : List α) (k : Nat) : ((xs.take k).flatMap f).length ≤ (xs.flatMap f).length := by
  have e : xs.flatMap f = (xs.take k).flatMap f ++ (xs.drop k).flatMap f := by rw [← List.flatMap_append, List.take_append_drop]
  rw [e, List.length_append]
  omega
theorem fm_next {α β : Type} (f : α → List β) {xs : List α} {k : Nat} {x : α} (h : xs[k]? = some x) : (xs.take (k + 1)).flatMap f = (xs.take k).flatMap f ++ f x := by
  rw [List.take_add_one, h, List.flatMap_append]
  simp
theorem fm_long {α : Type} (f : α → List UInt8) (h : ∀ x, f x ≠ []) : ∀ (xs : List α), xs.length ≤ (xs.flatMap f).length
  | [] => Nat.zero_le _
  | x :: xs => by
    have ih := fm_long f h xs
    have := List.length_pos_iff.2 (h x)
    rw [List.flatMap_cons, List.length_append, List.length_cons]
    omega
theorem fm_mem {α : Type} (f : α → List UInt8) {xs : List α} {x : α} (h : x ∈ xs) : (f x).length ≤ (xs.flatMap f).length := by
  induction xs with
  | nil => cases h
  | cons y ys ih =>
    rw [List.flatMap_cons, List.length_append]
    rcases List.mem_cons.1 h with rfl | h
    · omega
    · have := ih h; omega
theorem join_long : ∀ (ps : List (List UInt8)), ps.length ≤ (Lib.join ps [32]).length + 1
  | [] => Nat.zero_le _
  | [p] => by simp
  | p :: q :: ps => by
    have ih := join_long (q :: ps)
    rw [join_two]
    simp only [List.length_append, List.length_cons] at ih ⊢
    omega
theorem line_long (ws : List ByteArray) : ws.length ≤ (lineL ws).length := by
  unfold lineL
  have := join_long (ws.map (·.data.toList))
  rw [List.length_map] at this
  rw [List.length_append]
  simp only [List.length_cons, List.length_nil]
  omega
/-- A message's words. -/
def mWd (m : M) : List ByteArray :=
  if m.k = 1 then [wPut, itoaB m.q, tokB m.key, tokB m.val]
  else if m.k = 2 then [wDel, itoaB m.q, tokB m.key]
  else if m.k = 3 then [wAdd, itoaB m.q, tokB m.key, utoaB m.dl.toNat]
  else [wClr, itoaB m.q, tokB m.key, tokB m.too]
def eWd (e : EnV) : List ByteArray := [tokB e.key, tokB e.val]
def bWd (l : List EnV) : List ByteArray := wBlock :: l.flatMap eWd
def pWd (x : ByteArray × Int) : List ByteArray := [tokB x.1, itoaB x.2]
/-- Kids with pivots between. -/
def kWd (ks : List Int) (ps : List ByteArray) : List ByteArray := match ks with
  | [] => []
  | k :: ks => itoaB k :: (ps.zip ks).flatMap pWd
/-- A node's lines. -/
def nodeL (i : Nat) (y : NdV) : List UInt8 :=
  if y.k = 1 then lineL [wLeaf, itoaB (i : Int)] ++ y.bl.flatMap (fun l => lineL (bWd l))
  else if y.k = 2 then lineL (wInner :: itoaB (i : Int) :: kWd y.kids y.piv) ++ y.ms.flatMap (fun m => lineL (mWd m))
  else []
def nodesL (ys : List NdV) : List UInt8 := ys.zipIdx.flatMap (fun x => nodeL x.2 x.1)
/-- A tree's text. -/
def dprL (ys : List NdV) : List UInt8 := lineL [wTree, itoaB (ys.length : Int)] ++ nodesL ys
/-- A message that may be told. -/
structure TMs (m : M) : Prop where
  k : m.k = 1 ∨ m.k = 2 ∨ m.k = 3 ∨ m.k = 4
  q : -1099511627776 ≤ m.q ∧ m.q ≤ 1099511627776
  f : mF m.k m.dl 2147483647 2147483647 m.key m.too m.val ≠ 3
  d : 0 ≤ m.dl ∧ m.dl ≤ 18446744073709551615
/-- A node that may be told. -/
def TNd (y : NdV) : Prop :=
  (y.k = 0 ∧ y.kids = [] ∧ y.piv = [] ∧ y.ms = [] ∧ y.bl = []) ∨
  (y.k = 1 ∧ y.kids = [] ∧ y.piv = [] ∧ y.ms = []) ∨
  (y.k = 2 ∧ y.bl = [] ∧ y.kids.length = y.piv.length + 1 ∧ (∀ v ∈ y.kids, 0 ≤ v ∧ v ≤ 2147483647) ∧ ∀ m ∈ y.ms, TMs m)
/-- A tree that may be told. -/
def TAll (ys : List NdV) : Prop := (∀ y, ys[0]? = some y → y.k = 0) ∧ ∀ y ∈ ys, TNd y
theorem zi_set (ys : List NdV) (v : Nat) (y : NdV) : (ys.set v y).zipIdx = ys.zipIdx.set v (y, v) := by
  apply List.ext_getElem?
  intro i
  rw [List.getElem?_zipIdx, List.getElem?_set, List.getElem?_set, List.getElem?_zipIdx, List.length_zipIdx]
  by_cases h : v = i
  · subst h
    by_cases hl : v < ys.length
    · simp [hl]
    · simp [hl]
  · simp [h]
/-- A line more at the last node that says something. -/
theorem nodes_put {ys : List NdV} {v : Nat} {y y' : NdV} {l : List UInt8} (h0 : ∀ i x, v < i → ys[i]? = some x → nodeL i x = []) (hy : ys[v]? = some y) (hl : nodeL v y' = nodeL v y ++ l) : nodesL (ys.set v y') = nodesL ys ++ l := by
  unfold nodesL
  have hv : v < ys.length := (List.getElem?_eq_some_iff.1 hy).1
  have hz : ys.zipIdx[v]? = some (y, v) := by rw [List.getElem?_zipIdx, hy]; simp
  have hd : (ys.zipIdx.drop (v + 1)).flatMap (fun x => nodeL x.2 x.1) = [] := by
    rw [List.flatMap_eq_nil_iff]
    intro x hx
    obtain ⟨i, hi⟩ := List.mem_iff_getElem?.1 hx
    rw [List.getElem?_drop, List.getElem?_zipIdx] at hi
    cases hq : ys[v + 1 + i]? with
    | none => rw [hq] at hi; cases hi
    | some u =>
      rw [hq] at hi
      simp only [Option.map_some, Option.some.injEq] at hi
      subst hi
      simp only [Nat.zero_add]
      exact h0 _ u (by omega) hq
  have e1 : ys.zipIdx = ys.zipIdx.take v ++ (y, v) :: ys.zipIdx.drop (v + 1) := by
    have hvl : v < ys.zipIdx.length := by rw [List.length_zipIdx]; exact hv
    have hg : ys.zipIdx[v] = (y, v) := by
      have := List.getElem?_eq_getElem hvl
      rw [hz] at this
      exact (Option.some.inj this).symm
    rw [← hg, ← List.drop_eq_getElem_cons hvl, List.take_append_drop]
  have e2 : (ys.set v y').zipIdx = ys.zipIdx.take v ++ (y', v) :: ys.zipIdx.drop (v + 1) := by
    rw [zi_set, List.set_eq_take_append_cons_drop, if_pos (by rw [List.length_zipIdx]; exact hv)]
  rw [e2]
  conv => rhs; rw [e1]
  simp only [List.flatMap_append, List.flatMap_cons, hd, List.append_nil, hl, List.append_assoc]
theorem head_words {ws : List ByteArray} {a : ByteArray} (h : ws[0]? = some a) : ws = a :: ws.drop 1 := by
  cases ws with
  | nil => simp at h
  | cons x xs => simp at h; subst h; rfl
theorem is_w2 {ws : List ByteArray} {x : ByteArray} (h : isB ws x 2 = true) : ws = [x, wdA ws 1, wdA ws 2] := by
  obtain ⟨h0, hl⟩ := isB_true h
  match ws, hl with
  | [a, b, c], _ => simp at h0; subst h0; rfl
theorem is_w3 {ws : List ByteArray} {x : ByteArray} (h : isB ws x 3 = true) : ws = [x, wdA ws 1, wdA ws 2, wdA ws 3] := by
  obtain ⟨h0, hl⟩ := isB_true h
  match ws, hl with
  | [a, b, c, d], _ => simp at h0; subst h0; rfl
theorem is_w1' {ws : List ByteArray} {x : ByteArray} (h0 : ws[0]? = some x) (hl : ws.length = 2) : ws = [x, wdA ws 1] := by
  match ws, hl with
  | [a, b], _ => simp at h0; subst h0; rfl
theorem two_words {ws : List ByteArray} {x : ByteArray} (h0 : ws[0]? = some x) (hl : 2 ≤ ws.length) : ws = x :: wdA ws 1 :: ws.drop 2 := by
  match ws, hl with
  | a :: b :: r, _ => simp at h0; subst h0; rfl
theorem wda_sz {ws : List ByteArray} {n : Nat} (h : ∀ x ∈ ws, x.size ≤ n) (i : Nat) : (wdA ws i).size ≤ n := by
  unfold wdA
  rcases hx : ws[i]? with _ | x
  · exact Nat.zero_le _
  · exact h x (List.mem_of_getElem? hx)
theorem nil_list : (⟨#[]⟩ : ByteArray).toList = [] := by decide +kernel
theorem rg_back {lo hi v : Int} {t : ByteArray} (h : rgB lo hi t = some v) : itoaB v = t ∧ lo ≤ v ∧ v ≤ hi := by
  obtain ⟨h1, h2, h3⟩ := rg_in h
  exact ⟨(can_back h1).1, h2, h3⟩
theorem mgh_back {ws : List ByteArray} {q : Int} {k : ByteArray} (h : mgH ws = some (q, k)) : itoaB q = wdA ws 1 ∧ (-1099511627776 ≤ q ∧ q ≤ 1099511627776) ∧ tokB k = wdA ws 2 := by
  unfold mgH at h
  obtain ⟨q', hq, h2⟩ := Option.bind_eq_some_iff.1 h
  obtain ⟨k', hk, h3⟩ := Option.map_eq_some_iff.1 h2
  injection h3 with e1 e2
  subst e1 e2
  obtain ⟨g1, g2, g3⟩ := rg_back hq
  exact ⟨g1, ⟨g2, g3⟩, txt_back hk⟩
theorem mf_put (key val : ByteArray) : mF 1 0 2147483647 2147483647 key ⟨#[]⟩ val ≠ 3 := by
  unfold mF
  simp only [nil_list]
  repeat' split
  all_goals first | decide | simp_all
theorem mf_del (key : ByteArray) : mF 2 0 2147483647 2147483647 key ⟨#[]⟩ ⟨#[]⟩ ≠ 3 := by
  unfold mF
  simp only [nil_list]
  repeat' split
  all_goals first | decide | simp_all
theorem mf_add (key : ByteArray) (d : Int) : mF 3 d 2147483647 2147483647 key ⟨#[]⟩ ⟨#[]⟩ ≠ 3 := by
  unfold mF
  simp only [nil_list]
  repeat' split
  all_goals first | decide | simp_all
theorem mf_clr (key too : ByteArray) : mF 4 0 2147483647 2147483647 key too ⟨#[]⟩ ≠ 3 := by
  unfold mF
  simp only [nil_list]
  repeat' split
  all_goals first | decide | simp_all
theorem mg_back {ws : List ByteArray} {m : M} (h : mgB ws = some m) : ws = mWd m ∧ TMs m := by
  unfold mgB at h
  split at h
  · rename_i hi
    obtain ⟨⟨q, k⟩, hk, h2⟩ := Option.bind_eq_some_iff.1 h
    obtain ⟨v, hv, rfl⟩ := Option.map_eq_some_iff.1 h2
    obtain ⟨g1, g2, g3⟩ := mgh_back hk
    refine ⟨?_, .inl rfl, g2, ?_, by simp⟩
    · rw [is_w3 hi]
      show _ = [wPut, itoaB q, tokB k, tokB v]
      rw [g1, g3, txt_back hv]
    · exact mf_put _ _
  · split at h
    · rename_i hi
      obtain ⟨⟨q, k⟩, hk, rfl⟩ := Option.map_eq_some_iff.1 h
      obtain ⟨g1, g2, g3⟩ := mgh_back hk
      refine ⟨?_, .inr (.inl rfl), g2, ?_, by simp⟩
      · rw [is_w2 hi]
        show _ = [wDel, itoaB q, tokB k]
        rw [g1, g3]
      · exact mf_del _
    · split at h
      · rename_i hi
        obtain ⟨⟨q, k⟩, hk, h2⟩ := Option.bind_eq_some_iff.1 h
        obtain ⟨d, hd, rfl⟩ := Option.map_eq_some_iff.1 h2
        obtain ⟨g1, g2, g3⟩ := mgh_back hk
        obtain ⟨d0, hd0, rfl⟩ : ∃ d0 : Nat, delB (wdA ws 3) = some d0 ∧ d = (d0 : Int) := by
          cases hq : delB (wdA ws 3) with
          | none => rw [hq] at hd; cases hd
          | some d0 => rw [hq] at hd; injection hd with hd; exact ⟨d0, rfl, hd.symm⟩
        obtain ⟨hd1, hd2⟩ := del_back hd0
        refine ⟨?_, .inr (.inr (.inl rfl)), g2, ?_, by simp; omega⟩
        · rw [is_w3 hi]
          show _ = [wAdd, itoaB q, tokB k, utoaB (d0 : Int).toNat]
          rw [g1, g3, Int.toNat_natCast, hd1]
        · exact mf_add _ _
      · split at h
        · rename_i hi
          obtain ⟨⟨q, k⟩, hk, h2⟩ := Option.bind_eq_some_iff.1 h
          obtain ⟨v, hv, rfl⟩ := Option.map_eq_some_iff.1 h2
          obtain ⟨g1, g2, g3⟩ := mgh_back hk
          refine ⟨?_, .inr (.inr (.inr rfl)), g2, ?_, by simp⟩
          · rw [is_w3 hi]
            show _ = [wClr, itoaB q, tokB k, tokB v]
            rw [g1, g3, txt_back hv]
          · exact mf_clr _ _
        · cases h
theorem ent_back : ∀ (ws : List ByteArray) {l : List EnV}, entB ws = some l → ws = l.flatMap eWd
  | [], l, h => by simp [entB] at h; subst h; rfl
  | [_], l, h => by simp [entB] at h
  | a :: b :: r, l, h => by
    simp only [entB] at h
    obtain ⟨k, hk, h2⟩ := Option.bind_eq_some_iff.1 h
    obtain ⟨v, hv, h3⟩ := Option.bind_eq_some_iff.1 h2
    obtain ⟨l2, hl, rfl⟩ := Option.map_eq_some_iff.1 h3
    have ih := ent_back r hl
    rw [List.flatMap_cons, ← ih]
    show _ = [tokB k, tokB v] ++ r
    rw [txt_back hk, txt_back hv]
    rfl
theorem in_back2 : ∀ (ws : List ByteArray) {ps : List ByteArray} {ks : List Int}, inB false ws = some (ps, ks) → ws.length % 2 = 0 → ws = (ps.zip ks).flatMap pWd ∧ ks.length = ps.length ∧ ∀ v ∈ ks, 0 ≤ v ∧ v ≤ 2147483647
  | [], ps, ks, h, _ => by simp [inB] at h; obtain ⟨rfl, rfl⟩ := h; exact ⟨rfl, rfl, by simp⟩
  | [_], ps, ks, h, hl => by simp at hl
  | a :: b :: r, ps, ks, h, hl => by
    simp only [inB] at h
    obtain ⟨p, hp, h2⟩ := Option.bind_eq_some_iff.1 h
    obtain ⟨x, hx, h3⟩ := Option.map_eq_some_iff.1 h2
    obtain ⟨q, hq, h4⟩ := Option.bind_eq_some_iff.1 hx
    obtain ⟨y, hy, h5⟩ := Option.map_eq_some_iff.1 h4
    obtain ⟨ps2, ks2⟩ := y
    subst h5
    injection h3 with e1 e2
    subst e1 e2
    obtain ⟨i1, i2, i3⟩ := in_back2 r hy (by simp at hl; omega)
    obtain ⟨g1, g2, g3⟩ := rg_back hq
    refine ⟨?_, by simp [i2], ?_⟩
    · rw [List.zip_cons_cons, List.flatMap_cons, ← i1]
      show _ = [tokB p, itoaB q] ++ r
      rw [txt_back hp, g1]
      rfl
    · intro v hv
      rcases List.mem_cons.1 hv with rfl | hv
      · exact ⟨g2, g3⟩
      · exact i3 v hv
theorem in_back {ws : List ByteArray} {ps : List ByteArray} {ks : List Int} (h : inB true ws = some (ps, ks)) (hl : ws.length % 2 = 1) : ws = kWd ks ps ∧ ks.length = ps.length + 1 ∧ ∀ v ∈ ks, 0 ≤ v ∧ v ≤ 2147483647 := by
  match ws, hl with
  | a :: r, hl =>
    simp only [inB] at h
    obtain ⟨q, hq, h2⟩ := Option.bind_eq_some_iff.1 h
    obtain ⟨x, hx, h3⟩ := Option.map_eq_some_iff.1 h2
    obtain ⟨ps2, ks2⟩ := x
    injection h3 with e1 e2
    subst e1 e2
    obtain ⟨i1, i2, i3⟩ := in_back2 r hx (by simp at hl; omega)
    obtain ⟨g1, g2, g3⟩ := rg_back hq
    refine ⟨?_, by simp [i2], ?_⟩
    · show _ = itoaB q :: (ps2.zip ks2).flatMap pWd
      rw [g1, ← i1]
    · intro v hv
      rcases List.mem_cons.1 hv with rfl | hv
      · exact ⟨g2, g3⟩
      · exact i3 v hv
/-- What a reader has read: all behind the node told last is new, and all may be told. -/
structure DInv (n z : Nat) (ys : List NdV) : Prop where
  len : ys.length = n
  zn : z = 0 ∨ z < n
  new : ∀ (i : Nat) (y : NdV), z < i → ys[i]? = some y → y = ⟨0, [], [], [], []⟩
  ok : TAll ys
theorem DInv.put {n z v : Nat} {ys : List NdV} (h : DInv n z ys) {y' : NdV} (hv : z ≤ v) (hvn : v < n) (h0 : 0 < v) (hy : TNd y') : DInv n v (ys.set v y') := by
  refine ⟨by simp [h.len], .inr hvn, fun i y hi q => ?_, fun y hq => ?_, fun y hq => ?_⟩
  · rw [List.getElem?_set_ne (by omega)] at q
    exact h.new i y (by omega) q
  · rw [List.getElem?_set_ne (by omega)] at hq
    exact h.ok.1 y hq
  · rcases List.mem_or_eq_of_mem_set hq with hq | rfl
    · exact h.ok.2 y hq
    · exact hy
theorem zero_node (i : Nat) : nodeL i ⟨0, [], [], [], []⟩ = [] := by simp [nodeL]
theorem DInv.zero {n z v : Nat} {ys : List NdV} (h : DInv n z ys) (hv : z ≤ v) : ∀ i x, v < i → ys[i]? = some x → nodeL i x = [] := fun i x hi hx => by
  rw [h.new i x (by omega) hx]; exact zero_node i
theorem ba_beg {n z v : Nat} {s : ByteArray} (h : begB n z s = some v) : itoaB (v : Int) = s ∧ z < v ∧ v < n := by
  obtain ⟨h1, h2, h3⟩ := rg_back (beg_some h)
  exact ⟨h1, by omega, by omega⟩
theorem body_back {n z z' : Nat} {ys ys' : List NdV} {ws : List ByteArray} (h : DInv n z ys) (hb : bodyF n z ys ws = some (z', ys')) : DInv n z' ys' ∧ nodesL ys' = nodesL ys ++ lineL ws := by
  unfold bodyF at hb
  split at hb
  · rename_i h0
    split at hb
    · rename_i hl
      obtain ⟨v, hv, h2⟩ := Option.map_eq_some_iff.1 hb
      injection h2 with e1 e2
      subst e1 e2
      obtain ⟨g1, g2, g3⟩ := ba_beg hv
      have hw : ws = [wLeaf, wdA ws 1] := is_w1' h0 hl
      have hyv : ys[v]? = some ⟨0, [], [], [], []⟩ := by
        have hvl : v < ys.length := by rw [h.len]; exact g3
        rw [List.getElem?_eq_getElem hvl, h.new v _ g2 (List.getElem?_eq_getElem hvl)]
      refine ⟨h.put (by omega) g3 (by omega) (.inr (.inl ⟨rfl, rfl, rfl, rfl⟩)), nodes_put (h.zero (by omega)) hyv ?_⟩
      rw [zero_node, List.nil_append]
      show lineL [wLeaf, itoaB (v : Int)] ++ _ = _
      rw [g1]
      conv => rhs; rw [hw]
      simp
    · cases hb
  · split at hb
    · rename_i h0
      split at hb
      · rename_i hl
        obtain ⟨v, hv, h2⟩ := Option.bind_eq_some_iff.1 hb
        obtain ⟨⟨ps, ks⟩, hx, h3⟩ := Option.map_eq_some_iff.1 h2
        injection h3 with e1 e2
        subst e1 e2
        obtain ⟨g1, g2, g3⟩ := ba_beg hv
        obtain ⟨i1, i2, i3⟩ := in_back hx (by rw [List.length_drop]; omega)
        have hw : ws = wInner :: wdA ws 1 :: ws.drop 2 := two_words h0 (by omega)
        have hyv : ys[v]? = some ⟨0, [], [], [], []⟩ := by
          have hvl : v < ys.length := by rw [h.len]; exact g3
          rw [List.getElem?_eq_getElem hvl, h.new v _ g2 (List.getElem?_eq_getElem hvl)]
        refine ⟨h.put (by omega) g3 (by omega) (.inr (.inr ⟨rfl, rfl, i2, i3, by simp⟩)), nodes_put (h.zero (by omega)) hyv ?_⟩
        rw [zero_node, List.nil_append]
        show lineL (wInner :: itoaB (v : Int) :: kWd ks ps) ++ _ = _
        rw [g1, ← i1]
        conv => rhs; rw [hw]
        simp
      · cases hb
    · split at hb
      · rename_i h0
        split at hb
        · cases hb
        · rename_i hz
          obtain ⟨y, hy, h2⟩ := Option.bind_eq_some_iff.1 hb
          split at h2
          · rename_i hk
            obtain ⟨l, hl, h3⟩ := Option.map_eq_some_iff.1 h2
            injection h3 with e1 e2
            subst e1 e2
            have hzn : z < n := by rcases h.zn with q | q <;> omega
            have hty := h.ok.2 y (List.mem_of_getElem? hy)
            have hT : TNd { y with bl := y.bl ++ [l] } := by
              rcases hty with q | q | q
              · omega
              · exact .inr (.inl q)
              · omega
            refine ⟨h.put (Nat.le_refl _) hzn (by omega) hT, nodes_put (h.zero (Nat.le_refl _)) hy ?_⟩
            unfold nodeL
            rw [if_pos hk, if_pos hk, List.flatMap_append]
            have hw : ws = bWd l := by
              rw [head_words h0, ent_back _ hl]
              rfl
            rw [hw]
            simp
          · cases h2
      · split at hb
        · cases hb
        · rename_i hz
          obtain ⟨y, hy, h2⟩ := Option.bind_eq_some_iff.1 hb
          split at h2
          · rename_i hk
            obtain ⟨m, hm, h3⟩ := Option.map_eq_some_iff.1 h2
            injection h3 with e1 e2
            subst e1 e2
            obtain ⟨g1, g2⟩ := mg_back hm
            have hzn : z < n := by rcases h.zn with q | q <;> omega
            have hty := h.ok.2 y (List.mem_of_getElem? hy)
            have hT : TNd { y with ms := y.ms ++ [m] } := by
              rcases hty with q | q | q
              · omega
              · omega
              · refine .inr (.inr ⟨q.1, q.2.1, q.2.2.1, q.2.2.2.1, fun x hx => ?_⟩)
                rcases List.mem_append.1 hx with hx | hx
                · exact q.2.2.2.2 x hx
                · simp at hx; subst hx; exact g2
            refine ⟨h.put (Nat.le_refl _) hzn (by omega) hT, nodes_put (h.zero (Nat.le_refl _)) hy ?_⟩
            unfold nodeL
            have k1 : ¬ y.k = 1 := by omega
            rw [if_neg k1, if_pos hk, if_neg k1, if_pos hk, List.flatMap_append, g1]
            simp
          · cases h2
/-- The head's line: how many nodes, or what is wrong. -/
def headF (ws : List ByteArray) : Except Int Nat :=
  if ws[0]? = some wTree ∧ ws.length = 2 then match rgB 0 2147483647 (wdA ws 1) with
    | none => .error 3
    | some v => if v ≤ 4097 then .ok v.toNat else .error 4
  else .error 3
/-- All lines of the body. -/
def bodyG (n : Nat) : Nat → Nat → List NdV → ByteArray → Int → Except (Int × Int) (List NdV)
  | 0, _, _, _, l => .error (l, 0)
  | f + 1, z, ys, u, l => if u.data.toList = [] then .ok ys else match nextF u with
    | none => .error (l + 1, 5)
    | some (ws, u2) => match bodyF n z ys ws with
      | none => .error (l + 1, 3)
      | some (z2, ys2) => bodyG n f z2 ys2 u2 (l + 1)
def zeroN (n : Nat) : List NdV := List.replicate n ⟨0, [], [], [], []⟩
/-- What a text is. -/
def dparF (t : ByteArray) : Except (Int × Int) (List NdV) := match nextF t with
  | none => .error (1, 5)
  | some (ws, u) => match headF ws with
    | .error e => .error (1, e)
    | .ok n => bodyG n (u.size + 1) 0 (zeroN n) u 1
theorem next_list {t u : ByteArray} {ws : List ByteArray} (h : nextF t = some (ws, u)) : t.data.toList = lineL ws ++ u.data.toList := by
  obtain ⟨_, _, _, h4, _⟩ := next_facts h
  rw [h4]
  unfold lineL
  simp
theorem DInv.start (n : Nat) : DInv n 0 (zeroN n) := by
  have hz : ∀ y ∈ zeroN n, y = ⟨0, [], [], [], []⟩ := fun y hy => (List.mem_replicate.1 hy).2
  refine ⟨List.length_replicate, .inl rfl, fun i y _ hy => hz y (List.mem_of_getElem? hy), fun y hy => ?_, fun y hy => ?_⟩
  · rw [hz y (List.mem_of_getElem? hy)]
  · rw [hz y hy]; exact .inl ⟨rfl, rfl, rfl, rfl, rfl⟩
theorem nodes_zero (n : Nat) : nodesL (zeroN n) = [] := by
  unfold nodesL
  rw [List.flatMap_eq_nil_iff]
  intro x hx
  obtain ⟨i, hi⟩ := List.mem_iff_getElem?.1 hx
  rw [List.getElem?_zipIdx] at hi
  cases hq : (zeroN n)[i]? with
  | none => rw [hq] at hi; cases hi
  | some y =>
    rw [hq] at hi
    have := (List.mem_replicate.1 (List.mem_of_getElem? hq)).2
    subst this
    simp only [Option.map_some, Option.some.injEq] at hi
    subst hi
    exact zero_node _
theorem bodyg_back {n : Nat} : ∀ (f z : Nat) (ys : List NdV) (u : ByteArray) (l : Int) {r : List NdV}, DInv n z ys → bodyG n f z ys u l = .ok r → (∃ z', DInv n z' r) ∧ nodesL r = nodesL ys ++ u.data.toList
  | 0, z, ys, u, l, r, hI, h => by simp [bodyG] at h
  | f + 1, z, ys, u, l, r, hI, h => by
    unfold bodyG at h
    split at h
    · rename_i hu
      injection h with h
      subst h
      exact ⟨⟨z, hI⟩, by rw [hu, List.append_nil]⟩
    · cases hn : nextF u with
      | none => rw [hn] at h; cases h
      | some q =>
        obtain ⟨ws, u2⟩ := q
        rw [hn] at h
        simp only at h
        cases hb : bodyF n z ys ws with
        | none => rw [hb] at h; cases h
        | some q =>
          obtain ⟨z2, ys2⟩ := q
          rw [hb] at h
          simp only at h
          obtain ⟨g1, g2⟩ := body_back hI hb
          obtain ⟨i1, i2⟩ := bodyg_back f z2 ys2 u2 (l + 1) g1 h
          exact ⟨i1, by rw [i2, g2, next_list hn, List.append_assoc]⟩
theorem head_back {ws : List ByteArray} {n : Nat} (h : headF ws = .ok n) : ws = [wTree, itoaB (n : Int)] ∧ n ≤ 4097 := by
  unfold headF at h
  split at h
  · rename_i hc
    cases hq : rgB 0 2147483647 (wdA ws 1) with
    | none => rw [hq] at h; cases h
    | some v =>
      rw [hq] at h
      simp only at h
      split at h
      · rename_i hv
        injection h with h
        obtain ⟨g1, g2, g3⟩ := rg_back hq
        have e : (n : Int) = v := by omega
        exact ⟨by rw [e, g1]; exact is_w1' hc.1 hc.2, by omega⟩
      · cases h
  · cases h
/-- What is parsed is printed as that text. -/
theorem dpar_back {t : ByteArray} {ys : List NdV} (h : dparF t = .ok ys) : dprL ys = t.data.toList ∧ TAll ys ∧ ys.length ≤ 4097 := by
  unfold dparF at h
  cases hn : nextF t with
  | none => rw [hn] at h; cases h
  | some q =>
    obtain ⟨ws, u⟩ := q
    rw [hn] at h
    simp only at h
    cases hh : headF ws with
    | error e => rw [hh] at h; cases h
    | ok n =>
      rw [hh] at h
      simp only at h
      obtain ⟨g1, g2⟩ := head_back hh
      obtain ⟨⟨z, i1⟩, i2⟩ := bodyg_back _ _ _ _ _ (DInv.start n) h
      refine ⟨?_, i1.ok, by rw [i1.len]; exact g2⟩
      unfold dprL
      rw [i1.len, i2, nodes_zero, List.nil_append, next_list hn, g1]
end Go.Proofs.YtdebedeebmmleaaGreatDoor
namespace Go.Proofs.YtdebedeebmmleaaGreatDoor
open Go.RowKit Go.Maps
/-- Words in a block. -/
def WB (w : World) (bw : Nat) (ws : List ByteArray) : Prop := ∃ cs, w.heap[bw]? = some (.cells cs 9 (0, 0)) ∧ ∀ (i : Nat) x, ws[i]? = some x → cs[i]? = some (.string x)
theorem WB.cell {w : World} {bw : Nat} {ws : List ByteArray} (h : WB w bw ws) {i : Nat} {x : ByteArray} (hx : ws[i]? = some x) : w.cell? ⟨bw, i, none⟩ = some (.string x) := by
  obtain ⟨cs, h1, h2⟩ := h
  exact cellh h1 (h2 i x hx)
theorem WB.lt {w : World} {bw : Nat} {ws : List ByteArray} (h : WB w bw ws) : bw < w.heap.size := by
  obtain ⟨cs, h1, h2⟩ := h
  exact heap_lt h1
theorem WB.later {w w' : World} {bw : Nat} {ws : List ByteArray} (h : WB w bw ws) (b : Below w.heap.size w w') : WB w' bw ws := by
  obtain ⟨cs, h1, h2⟩ := h
  exact ⟨cs, keep_bel b h1, h2⟩
theorem ok_keep {w w' : World} {b k : Nat} {cs : Array Value} {t : TypeId} {fz : Nat × Nat} (h : Lib.OthersKept 5 (some b) w w') (hk : w.heap[k]? = some (.cells cs t fz)) (hb : k ≠ b) (ht : t ≠ 5) : w'.heap[k]? = some (.cells cs t fz) :=
  h k _ hk (fun e => hb (Option.some.inj e)) (fun c fz' e => by cases e; exact ht rfl)
theorem join_len (m : Nat) : ∀ (ps : List (List UInt8)), (∀ p ∈ ps, p.length ≤ m) → (Lib.join ps [32]).length ≤ ps.length * (m + 1)
  | [], _ => by simp [Lib.join, List.intercalate]
  | [p], h => by rw [Lib.join_one]; have := h p (by simp); simp; omega
  | p :: q :: ps, h => by
    rw [join_two, List.length_append, List.length_cons]
    have h1 := h p (by simp)
    have h2 := join_len m (q :: ps) (fun y hy => h y (by simp at hy ⊢; right; exact hy))
    have e : (p :: q :: ps).length * (m + 1) = (q :: ps).length * (m + 1) + (m + 1) := by rw [List.length_cons (a := p), Nat.succ_mul]
    rw [e]
    simp only [List.length_append, List.length_cons, List.length_nil] at h2 ⊢
    omega
/-- What a printer's call does. -/
structure PK (B b : Nat) (l : List UInt8) (w w' : World) : Prop where
  d : Bd 51 B b l w'
  bl : Below B w w'
  o : Lib.OthersKept 5 (some b) w w'
theorem PK.then {B b : Nat} {l l2 : List UInt8} {w w1 w2 : World} (h : PK B b l w w1) (k : PK B b l2 w1 w2) : PK B b l2 w w2 := ⟨k.d, h.bl.trans k.bl, h.o.trans k.o⟩
theorem ok_bel {b : Nat} {w w' : World} (h : Below w.heap.size w w') : Lib.OthersKept 5 (some b) w w' := fun k o hk _ _ => keep_bel h hk
theorem PK.later {B b : Nat} {l : List UInt8} {w w1 w2 : World} (h : PK B b l w w1) (k : Below w1.heap.size w1 w2) (hB : B ≤ w1.heap.size) : PK B b l w w2 := ⟨h.d.bel k, h.bl.trans (k.mono hB), h.o.trans (ok_bel k)⟩
theorem PK.start {B b : Nat} {l : List UInt8} {w : World} (h : Bd 51 B b l w) : PK B b l w w := ⟨h, Below.refl _ _, Lib.OthersKept.refl _ _ _⟩
theorem mul_le_big {n m : Nat} (h1 : n ≤ 1000000) (h2 : m ≤ 2000001) : n * m ≤ 2000001000000 := Nat.le_trans (Nat.mul_le_mul h1 h2) (by decide)
set_option maxHeartbeats 2000000 in
set_option maxRecDepth 100000 in
theorem line_any (B b bw n c : Nat) (ws : List ByteArray) (l : List UInt8) (w : World) (hn : ws.length = n) (hc : n ≤ c) (h0 : n ≤ 1000000) (hW : WB w bw ws) (hD : Bd 51 B b l w) (hBw : B ≤ w.heap.size) (hl : l.length ≤ 4194304) (hs : ∀ x ∈ ws, x.size ≤ 2000000) (hb : bw ≠ b) :
    Calls Tryz.prog 19 #[.pointer (some ⟨b, 0, none⟩), .slice (some ⟨bw, 0, none⟩) n c] w fun e w' => e = .returned (.tuple #[]) ∧ PK B b (l ++ lineL ws) w w' := by
  have hjl : (Lib.join (ws.map (·.data.toList)) [32]).length ≤ 2000001000000 := by
    have h1 := join_len 2000000 (ws.map (·.data.toList)) (fun p hp => by
      obtain ⟨x, hx, rfl⟩ := List.mem_map.1 hp
      rw [ba_len]
      exact hs x hx)
    rw [List.length_map] at h1
    have h2 := mul_le_big (n := ws.length) (m := 2000000 + 1) (by omega) (by omega)
    omega
  obtain ⟨J, hJ⟩ : ∃ J : ByteArray, J = ⟨(Lib.join (ws.map (·.data.toList)) [32]).toArray⟩ := ⟨_, rfl⟩
  have HJ := Lib.hid (fun V (hb : Below w.heap.size w V) => by
    have q := sh_strings_Join bw 0 c ws SP V (fun j x hx => by rw [Nat.zero_add]; exact (hW.later hb).cell hx) (hW.later hb).lt (by omega) (by omega) (by show (Lib.join _ [32]).length ≤ _; omega)
    rw [hn] at q
    rw [show (⟨(Lib.join (ws.map (·.data.toList)) SP.data.toList).toArray⟩ : ByteArray) = J from hJ.symm] at q
    exact q)
  have HJL := Lib.hid (show J.size ≤ 2000001000000 by rw [hJ, ba_size]; exact hjl)
  have HE := Lib.hid (show l ++ lineL ws = (l ++ J.data.toList) ++ [10] by rw [hJ, ba_list]; unfold lineL; simp)
  have HB := Lib.hid (And.intro hb (And.intro hBw hl))
  have LA := Lib.hid (len_any B b l w hD)
  have HD := Lib.hid (PK.start hD)
  have k20 : (l.length : Int) ≤ 4194304 := by omega
  clear hn hc h0 hW hD hBw hl hs hb hjl hJ
  go_enter Tryz.func19, Tryz.ntmps19
  go_upto_region 1 with (first
    | (go_at_call 23; ((with_reducible refine LA.out.mono ?_); rintro e w1 ⟨rfl, hw⟩; (have hw2 := hw.symm; subst hw2; clear hw)))
    | fail)
  refine wp_region_held_drew (S := fun _ : World => True) (by kernel_rfl) trivial (fun hHeld => ?_)
  clear hHeld
  refine wT (i := 0) (oi := { dst := some 9, op := Op.move (Operand.tmp 0), type := 45, pos := "dump.go:60", after := #[], guard := none }) (v := ?_) rfl (Or.inl ⟨by rfl, ?_⟩) trivial ?_
  rotate_left
  · intro w hSw; clear hSw; go_simp; try with_reducible rfl
  try simp only [pu, pn, s1, s2, s3]
  refine wT (i := 1) (oi := { dst := some 10, op := Op.nilCheck (Operand.tmp 9), type := 0, pos := "dump.go:60", after := #[{ on := 0, ground := Ground.data }], guard := none }) (v := ?_) rfl (Or.inl ⟨by rfl, ?_⟩) trivial ?_
  rotate_left
  · intro w hSw; clear hSw; go_simp; try with_reducible rfl
  try simp only [pu, pn, s1, s2, s3]
  refine wT (i := 2) (oi := { dst := some 11, op := Op.fieldAddr 51 (Operand.tmp 10) 0, type := 0, pos := "dump.go:60", after := #[{ on := 1, ground := Ground.data }], guard := none }) (v := ?_) rfl (Or.inl ⟨by rfl, ?_⟩) trivial ?_
  rotate_left
  · intro w hSw; clear hSw; go_simp; try with_reducible rfl
  try simp only [pu, pn, s1, s2, s3]
  refine wT (i := 3) (oi := { dst := some 12, op := Op.move (Operand.tmp 1), type := 39, pos := "dump.go:60", after := #[], guard := none }) (v := ?_) rfl (Or.inl ⟨by rfl, ?_⟩) trivial ?_
  rotate_left
  · intro w hSw; clear hSw; go_simp; try with_reducible rfl
  try simp only [pu, pn, s1, s2, s3]
  refine wpAnyH_ready (rs := [4]) (by kernel_rfl) (by simp) ?_
  refine (AllReadyH.cons (o := { dst := some 13, op := Op.call { callee := Callee.value (Operand.func 36), args := #[Operand.tmp 12, Operand.const (Value.string { data := #[32] })], argTypes := #[39, 9] }, type := 9, pos := "dump.go:60", after := #[{ on := 3, ground := Ground.data }], guard := none }) rfl (fun K hK => ?_) AllReadyH.nil)
  go_simp
  (go_at_call 36; ((refine (HJ.out _ (Below.refl _ w).drew).mono ?_); rintro e v1 ⟨rfl, bj⟩; have DJ := Lib.hid (HD.out.later (bel_dr bj) HB.out.2.1); clear bj))
  refine hK.out _ _ trivial (fun hHeld => ?_)
  clear hHeld hK K
  try simp only [pu, pn, s1, s2, s3]
  refine wpAnyH_ready (rs := [5]) (by kernel_rfl) (by simp) ?_
  refine (AllReadyH.cons (o := { dst := some 14, op := Op.call { callee := Callee.value (Operand.func 35), args := #[Operand.tmp 11, Operand.tmp 13], argTypes := #[49, 9] }, type := 79, pos := "dump.go:60", after := #[{ on := 2, ground := Ground.data }, { on := 4, ground := Ground.data }, { on := 4, ground := Ground.chain }], guard := none }) rfl (fun K hK => ?_) AllReadyH.nil)
  go_simp
  (go_at_call 35; ((with_reducible refine (writeString_any bt59 B b l J v1 DJ.out.d (by have := HB.out.2.2; have := HJL.out; omega) (Nat.le_trans HB.out.2.1 DJ.out.bl.size)).mono ?_); rintro e v2 ⟨rfl, d2, b2, o2⟩; have P2 := Lib.hid (DJ.out.then ⟨d2, b2, o2⟩); clear d2 b2 o2))
  refine hK.out _ _ trivial (fun hHeld => ?_)
  clear hHeld hK K
  try simp only [pu, pn, s1, s2, s3]
  refine wpAnyH_done (by kernel_rfl) ?_ _
  have W1 := Lib.hid (writeByte_any bt59 B b _ 10 v2 P2.out.d (by rw [List.length_append, ba_len]; have := HB.out.2.2; have := HJL.out; omega) (Nat.le_trans HB.out.2.1 P2.out.bl.size))
  go_wp2_with (first
    | (go_at_call 37; ((refine W1.out.mono ?_); rintro e v3 ⟨rfl, d3, b3, o3⟩; have P3 := Lib.hid (P2.out.then ⟨d3, b3, o3⟩); clear d3 b3 o3))
    | fail)
  go_end0
  exact ⟨rfl, by rw [HE.out]; exact P3.out⟩
end Go.Proofs.YtdebedeebmmleaaGreatDoor
