/- Texts of the proof, one behind the other. -/
import Derived.Test.YtdebedeebmmleaaGreatDoorTc28
import Derived.Test.YtdebedeebmmleaaGreatDoorTc04
import Derived.Test.YtdebedeebmmleaaGreatDoorTc01
import Derived.Lib.ItoaLen
set_option linter.unusedVariables false
set_option linter.unusedSimpArgs false
namespace Go.Proofs.YtdebedeebmmleaaGreatDoor
open Go.RowKit Go.Maps
theorem isB_of (a x : ByteArray) (ws : List ByteArray) (m : Nat) : isB (a :: ws) x m = (decide (a = x) && decide (ws.length = m)) := by
  unfold isB
  simp
theorem isB_len {a x : ByteArray} {ws : List ByteArray} {m : Nat} (h : ws.length ≠ m) : isB (a :: ws) x m = false := by rw [isB_of]; simp [h]
theorem isB_ne {a x : ByteArray} {ws : List ByteArray} {m : Nat} (h : decide (a = x) = false) : isB (a :: ws) x m = false := by rw [isB_of, h]; rfl
theorem isB_yes (a : ByteArray) (ws : List ByteArray) (m : Nat) (h : ws.length = m) : isB (a :: ws) a m = true := by rw [isB_of]; simp [h]
/-- A word that holds neither blank nor end of line. -/
def Cl (x : ByteArray) : Prop := (32 : UInt8) ∉ x.data.toList ∧ (10 : UInt8) ∉ x.data.toList
theorem cl_tok (t : ByteArray) : Cl (tokB t) := ⟨by unfold tokB; rw [ba_list]; exact tok_no _ _ (.inl rfl), by unfold tokB; rw [ba_list]; exact tok_no _ _ (.inr rfl)⟩
theorem cl_itoa (v : Int) : Cl (itoaB v) := ⟨by unfold itoaB; rw [ba_list]; exact itoa_no _ _ (by decide), by unfold itoaB; rw [ba_list]; exact itoa_no _ _ (by decide)⟩
theorem cl_utoa (u : Nat) : Cl (utoaB u) := by
  constructor
  · unfold utoaB; rw [ba_list]; intro h; have := (dd_digit u _ h).1; exact absurd this (by decide)
  · unfold utoaB; rw [ba_list]; intro h; have := (dd_digit u _ h).1; exact absurd this (by decide)
theorem cl_words : Cl wPut ∧ Cl wDel ∧ Cl wAdd ∧ Cl wClr ∧ Cl wTree ∧ Cl wLeaf ∧ Cl wInner ∧ Cl wBlock := by
  refine ⟨⟨?_, ?_⟩, ⟨?_, ?_⟩, ⟨?_, ?_⟩, ⟨?_, ?_⟩, ⟨?_, ?_⟩, ⟨?_, ?_⟩, ⟨?_, ?_⟩, ⟨?_, ?_⟩⟩ <;> decide +kernel
theorem next_lineL (ws : List ByteArray) (r : List UInt8) (h0 : ws ≠ []) (h1 : ∀ x ∈ ws, Cl x) : nextF ⟨(lineL ws ++ r).toArray⟩ = some (ws, ⟨r.toArray⟩) := by
  have h := next_line ws ⟨r.toArray⟩ h0 h1
  rw [ba_list] at h
  have e : lineL ws ++ r = Lib.join (ws.map (·.data.toList)) [32] ++ 10 :: r := by unfold lineL; simp
  rw [e]
  exact h
theorem rg_itoa {lo hi v : Int} (h : lo ≤ v ∧ v ≤ hi) (h0 : -9223372036854775807 ≤ v) (h1 : v ≤ 9223372036854775807) : rgB lo hi (itoaB v) = some v := by
  unfold rgB
  rw [can_itoa h0 h1]
  simp only
  rw [if_pos h]
theorem mf_dl {m : M} (h : TMs m) : (m.k = 1 ∨ m.k = 2 ∨ m.k = 4) → m.dl = 0 := by
  have hf := h.f
  intro hk
  unfold mF at hf
  by_cases hd : m.dl = 0
  · exact hd
  exfalso
  rcases hk with hk | hk | hk
  · rw [if_pos hk] at hf
    by_cases q : m.too.toList = []
    · rw [if_neg (by simpa using q), if_pos hd] at hf; exact hf rfl
    · rw [if_pos q] at hf; exact hf rfl
  · rw [if_neg (by omega), if_pos hk] at hf
    by_cases q : m.too.toList = []
    · by_cases q2 : m.val.toList = []
      · rw [if_neg (by simpa using q), if_neg (by simpa using q2), if_pos hd] at hf; exact hf rfl
      · rw [if_neg (by simpa using q), if_pos q2] at hf; exact hf rfl
    · rw [if_pos q] at hf; exact hf rfl
  · rw [if_neg (by omega), if_neg (by omega), if_neg (by omega), if_pos hk] at hf
    by_cases q2 : m.val.toList = []
    · rw [if_neg (by simpa using q2), if_pos hd] at hf; exact hf rfl
    · rw [if_pos q2] at hf; exact hf rfl
theorem size_nil {a : ByteArray} (h : a.size = 0) : a = ⟨#[]⟩ := ba_inj (List.eq_nil_of_length_eq_zero ((ba_len a).trans h))
theorem mgh_fwd {x k : ByteArray} {q : Int} (hq : -1099511627776 ≤ q ∧ q ≤ 1099511627776) (rest : List ByteArray) : mgH (x :: itoaB q :: tokB k :: rest) = some (q, k) := by
  unfold mgH
  show (rgB _ _ (itoaB q)).bind (fun q => (txtB (tokB k)).map _) = _
  rw [rg_itoa hq (by omega) (by omega), txt_tok]
  rfl
theorem mg_fwd {m : M} (h : TMs m) : mgB (mWd m) = some m := by
  have he := mf_emp h
  have hd := mf_dl h
  obtain ⟨k, q, key, too, val, dl⟩ := m
  obtain ⟨hk, hq, hf, hdl⟩ := h
  simp only at hk hq hf hdl he hd
  rcases hk with rfl | rfl | rfl | rfl
  · obtain rfl := size_nil (he.1 rfl)
    obtain rfl := hd (.inl rfl)
    show mgB [wPut, itoaB q, tokB key, tokB val] = _
    unfold mgB
    rw [if_pos (by exact isB_yes _ _ _ rfl), mgh_fwd hq]
    show (txtB (tokB val)).map _ = _
    rw [txt_tok]
    rfl
  · obtain rfl := size_nil (he.2.1 rfl).1
    obtain rfl := size_nil (he.2.1 rfl).2
    obtain rfl := hd (.inr (.inl rfl))
    show mgB [wDel, itoaB q, tokB key] = _
    unfold mgB
    rw [if_neg (by rw [isB_len (by simp)]; decide), if_pos (by exact isB_yes _ _ _ rfl), mgh_fwd hq]
    rfl
  · obtain rfl := size_nil (he.2.2.1 rfl).1
    obtain rfl := size_nil (he.2.2.1 rfl).2
    obtain ⟨d, rfl⟩ : ∃ d : Nat, dl = d := ⟨dl.toNat, by omega⟩
    show mgB [wAdd, itoaB q, tokB key, utoaB (d : Int).toNat] = _
    unfold mgB
    rw [if_neg (by rw [isB_ne (by decide +kernel)]; decide), if_neg (by rw [isB_len (by simp)]; decide), if_pos (by exact isB_yes _ _ _ rfl), mgh_fwd hq]
    have e : delB (wdA [wAdd, itoaB q, tokB key, utoaB (d : Int).toNat] 3) = some d := by
      show delB (utoaB (d : Int).toNat) = _
      rw [Int.toNat_natCast]
      exact del_utoa (by omega)
    rw [e]
    rfl
  · obtain rfl := size_nil (he.2.2.2 rfl)
    obtain rfl := hd (.inr (.inr rfl))
    show mgB [wClr, itoaB q, tokB key, tokB too] = _
    unfold mgB
    rw [if_neg (by rw [isB_ne (by decide +kernel)]; decide), if_neg (by rw [isB_len (by simp)]; decide), if_neg (by rw [isB_ne (by decide +kernel)]; decide), if_pos (by exact isB_yes _ _ _ rfl), mgh_fwd hq]
    show (txtB (tokB too)).map _ = _
    rw [txt_tok]
    rfl
theorem mg_cl {m : M} : mWd m ≠ [] ∧ ∀ x ∈ mWd m, Cl x := by
  obtain ⟨c1, c2, c3, c4, _⟩ := cl_words
  unfold mWd
  refine ⟨by repeat' split
             all_goals simp, ?_⟩
  intro x hx
  repeat' split at hx
  all_goals
    simp only [List.mem_cons, List.not_mem_nil, or_false] at hx
  · rcases hx with rfl | rfl | rfl | rfl
    · exact c1
    · exact cl_itoa _
    · exact cl_tok _
    · exact cl_tok _
  · rcases hx with rfl | rfl | rfl
    · exact c2
    · exact cl_itoa _
    · exact cl_tok _
  · rcases hx with rfl | rfl | rfl | rfl
    · exact c3
    · exact cl_itoa _
    · exact cl_tok _
    · exact cl_utoa _
  · rcases hx with rfl | rfl | rfl | rfl
    · exact c4
    · exact cl_itoa _
    · exact cl_tok _
    · exact cl_tok _
theorem mg_head (m : M) : (mWd m)[0]? ≠ some wLeaf ∧ (mWd m)[0]? ≠ some wInner ∧ (mWd m)[0]? ≠ some wBlock := by
  unfold mWd
  repeat' split
  all_goals
    refine ⟨?_, ?_, ?_⟩ <;> (intro h; injection h with h; revert h; decide +kernel)
theorem ent_fwd : ∀ (l : List EnV), entB (l.flatMap eWd) = some l
  | [] => rfl
  | e :: l => by
    rw [List.flatMap_cons]
    show ((txtB (tokB e.key)).bind fun k => (txtB (tokB e.val)).bind fun v => (entB (l.flatMap eWd)).map (⟨k, v⟩ :: ·)) = _
    rw [txt_tok, txt_tok, ent_fwd l]
    rfl
theorem b_cl {l : List EnV} : bWd l ≠ [] ∧ ∀ x ∈ bWd l, Cl x := by
  obtain ⟨_, _, _, _, _, _, _, c8⟩ := cl_words
  refine ⟨by unfold bWd; simp, fun x hx => ?_⟩
  unfold bWd at hx
  rcases List.mem_cons.1 hx with rfl | hx
  · exact c8
  · obtain ⟨e, _, hx⟩ := List.mem_flatMap.1 hx
    unfold eWd at hx
    simp only [List.mem_cons, List.not_mem_nil, or_false] at hx
    rcases hx with rfl | rfl <;> exact cl_tok _
theorem in_fwd2 : ∀ (ps : List ByteArray) (ks : List Int), ks.length = ps.length → (∀ v ∈ ks, 0 ≤ v ∧ v ≤ 2147483647) → inB false ((ps.zip ks).flatMap pWd) = some (ps, ks)
  | [], [], _, _ => rfl
  | [], k :: ks, h, _ => by simp at h
  | p :: ps, [], h, _ => by simp at h
  | p :: ps, k :: ks, h, hk => by
    have ih := in_fwd2 ps ks (by simpa using h) (fun v hv => hk v (List.mem_cons_of_mem _ hv))
    have h1 := hk k (by simp)
    rw [List.zip_cons_cons, List.flatMap_cons]
    show ((txtB (tokB p)).bind fun p => (((rgB 0 2147483647 (itoaB k)).bind fun q => (inB false ((ps.zip ks).flatMap pWd)).map fun x => (x.1, q :: x.2))).map fun x => (p :: x.1, x.2)) = _
    rw [txt_tok, rg_itoa h1 (by omega) (by omega), ih]
    rfl
theorem in_fwd {ps : List ByteArray} {ks : List Int} (h : ks.length = ps.length + 1) (hk : ∀ v ∈ ks, 0 ≤ v ∧ v ≤ 2147483647) : inB true (kWd ks ps) = some (ps, ks) := by
  match ks, h with
  | k :: ks, h =>
    have h1 := hk k (by simp)
    show ((rgB 0 2147483647 (itoaB k)).bind fun q => (inB false ((ps.zip ks).flatMap pWd)).map fun x => (x.1, q :: x.2)) = _
    rw [rg_itoa h1 (by omega) (by omega), in_fwd2 ps ks (by simpa using h) (fun v hv => hk v (List.mem_cons_of_mem _ hv))]
    rfl
theorem k_len {ps : List ByteArray} {ks : List Int} (h : ks.length = ps.length + 1) : (kWd ks ps).length = 2 * ps.length + 1 := by
  match ks, h with
  | k :: ks, h =>
    show ((ps.zip ks).flatMap pWd).length + 1 = _
    have h7 : ∀ (zs : List (ByteArray × Int)), (zs.flatMap pWd).length = 2 * zs.length := fun zs => by
      induction zs with
      | nil => rfl
      | cons e l ih => rw [List.flatMap_cons, List.length_append, ih, List.length_cons]; show 2 + _ = _; omega
    rw [List.length_cons] at h
    rw [h7, List.length_zip]
    omega
theorem k_cl (ks : List Int) (ps : List ByteArray) : ∀ x ∈ kWd ks ps, Cl x := by
  intro x hx
  cases ks with
  | nil => cases hx
  | cons k ks =>
    unfold kWd at hx
    simp only at hx
    rcases List.mem_cons.1 hx with rfl | hx
    · exact cl_itoa _
    · obtain ⟨e, _, hx⟩ := List.mem_flatMap.1 hx
      unfold pWd at hx
      simp only [List.mem_cons, List.not_mem_nil, or_false] at hx
      rcases hx with rfl | rfl
      · exact cl_tok _
      · exact cl_itoa _
/-- One line of the body. -/
theorem bg_line {n f z z2 : Nat} {ys ys2 : List NdV} {ws : List ByteArray} {r : List UInt8} {l : Int} (h0 : ws ≠ []) (h1 : ∀ x ∈ ws, Cl x) (hb : bodyF n z ys ws = some (z2, ys2)) : bodyG n (f + 1) z ys ⟨(lineL ws ++ r).toArray⟩ l = bodyG n f z2 ys2 ⟨r.toArray⟩ (l + 1) := by
  have hne : ¬ (⟨(lineL ws ++ r).toArray⟩ : ByteArray).data.toList = [] := by
    rw [ba_list]
    intro e
    exact line_ne ws (List.append_eq_nil_iff.1 e).1
  show (if (⟨(lineL ws ++ r).toArray⟩ : ByteArray).data.toList = [] then _ else _) = _
  rw [if_neg hne, next_lineL ws r h0 h1]
  simp only
  rw [hb]
theorem beg_fwd {n z v : Nat} (h : z < v ∧ v < n) (hn : n ≤ 4097) : begB n z (itoaB (v : Int)) = some v := by
  unfold begB
  rw [rg_itoa (by omega) (by omega) (by omega)]
  simp
theorem set_app {α : Type} (pre : List α) (a b : α) (rest : List α) {v : Nat} (hv : v = pre.length) : (pre ++ a :: rest).set v b = pre ++ b :: rest := by
  subst hv
  rw [List.set_append_right _ _ (Nat.le_refl _)]
  simp
theorem get_app {α : Type} (pre : List α) (a : α) (rest : List α) {v : Nat} (hv : v = pre.length) : (pre ++ a :: rest)[v]? = some a := by
  subst hv
  rw [List.getElem?_append_right (Nat.le_refl _)]
  simp
/-- A node's blocks. -/
theorem bg_blocks {n v : Nat} {pre rest : List NdV} (hv : v = pre.length) (hv0 : 0 < v) (r : List UInt8) : ∀ (bl done : List (List EnV)) (f : Nat) (l : Int), (bl.flatMap (fun l => lineL (bWd l)) ++ r).length < f → ∃ f' l', r.length < f' ∧ bodyG n f v (pre ++ ⟨1, [], [], [], done⟩ :: rest) ⟨(bl.flatMap (fun l => lineL (bWd l)) ++ r).toArray⟩ l = bodyG n f' v (pre ++ ⟨1, [], [], [], done ++ bl⟩ :: rest) ⟨r.toArray⟩ l'
  | [], done, f, l, hf => ⟨f, l, by simpa using hf, by simp⟩
  | b :: bl, done, f, l, hf => by
    obtain ⟨f, rfl⟩ : ∃ f', f = f' + 1 := ⟨f - 1, by omega⟩
    have hlen : 0 < (lineL (bWd b)).length := List.length_pos_iff.2 (line_ne _)
    rw [List.flatMap_cons, List.append_assoc, List.length_append] at hf
    have hb : bodyF n v (pre ++ ⟨1, [], [], [], done⟩ :: rest) (bWd b) = some (v, pre ++ ⟨1, [], [], [], done ++ [b]⟩ :: rest) := by
      have w0 : (bWd b)[0]? = some wBlock := rfl
      unfold bodyF
      rw [if_neg (by rw [w0]; decide +kernel), if_neg (by rw [w0]; decide +kernel), if_pos w0, if_neg (by omega), get_app _ _ _ hv, Option.bind_some, if_pos rfl]
      show (entB (b.flatMap eWd)).map _ = _
      rw [ent_fwd, Option.map_some, set_app _ _ _ _ hv]
    obtain ⟨f', l', h1, h2⟩ := bg_blocks hv hv0 r bl (done ++ [b]) f (l + 1) (by omega)
    refine ⟨f', l', h1, ?_⟩
    rw [List.flatMap_cons, List.append_assoc, bg_line b_cl.1 b_cl.2 hb, h2]
    simp
/-- A node's messages. -/
theorem bg_msgs {n v : Nat} {pre rest : List NdV} {ps : List ByteArray} {ks : List Int} (hv : v = pre.length) (hv0 : 0 < v) (r : List UInt8) : ∀ (ms done : List M) (f : Nat) (l : Int), (∀ m ∈ ms, TMs m) → (ms.flatMap (fun m => lineL (mWd m)) ++ r).length < f → ∃ f' l', r.length < f' ∧ bodyG n f v (pre ++ ⟨2, ps, ks, done, []⟩ :: rest) ⟨(ms.flatMap (fun m => lineL (mWd m)) ++ r).toArray⟩ l = bodyG n f' v (pre ++ ⟨2, ps, ks, done ++ ms, []⟩ :: rest) ⟨r.toArray⟩ l'
  | [], done, f, l, _, hf => ⟨f, l, by simpa using hf, by simp⟩
  | b :: bl, done, f, l, ht, hf => by
    obtain ⟨f, rfl⟩ : ∃ f', f = f' + 1 := ⟨f - 1, by omega⟩
    have hlen : 0 < (lineL (mWd b)).length := List.length_pos_iff.2 (line_ne _)
    rw [List.flatMap_cons, List.append_assoc, List.length_append] at hf
    have hb : bodyF n v (pre ++ ⟨2, ps, ks, done, []⟩ :: rest) (mWd b) = some (v, pre ++ ⟨2, ps, ks, done ++ [b], []⟩ :: rest) := by
      obtain ⟨w0, w1, w2⟩ := mg_head b
      unfold bodyF
      rw [if_neg w0, if_neg w1, if_neg w2, if_neg (by omega), get_app _ _ _ hv, Option.bind_some, if_pos rfl, mg_fwd (ht b (by simp)), Option.map_some, set_app _ _ _ _ hv]
    obtain ⟨f', l', h1, h2⟩ := bg_msgs hv hv0 r bl (done ++ [b]) f (l + 1) (fun m hm => ht m (List.mem_cons_of_mem _ hm)) (by omega)
    refine ⟨f', l', h1, ?_⟩
    rw [List.flatMap_cons, List.append_assoc, bg_line mg_cl.1 mg_cl.2 hb, h2]
    simp
def zN : NdV := ⟨0, [], [], [], []⟩
theorem zi_cons (y : NdV) (ys : List NdV) (v : Nat) : (y :: ys).zipIdx v = (y, v) :: ys.zipIdx (v + 1) := rfl
/-- All nodes from one on. -/
theorem bg_nodes {n : Nat} (hn : n ≤ 4097) : ∀ (rest pre : List NdV) (z f : Nat) (l : Int), pre.length + rest.length = n → (z = 0 ∨ z < pre.length) → (∀ y ∈ rest, TNd y) → (pre = [] → ∀ y, rest[0]? = some y → y.k = 0) → ((rest.zipIdx pre.length).flatMap (fun x => nodeL x.2 x.1)).length < f → bodyG n f z (pre ++ List.replicate rest.length zN) ⟨((rest.zipIdx pre.length).flatMap (fun x => nodeL x.2 x.1)).toArray⟩ l = .ok (pre ++ rest)
  | [], pre, z, f, l, hl, hz, ht, h0, hf => by
    obtain ⟨f, rfl⟩ : ∃ f', f = f' + 1 := ⟨f - 1, by omega⟩
    show (if _ then _ else _) = _
    rw [if_pos (by rfl)]
    simp
  | y :: rest, pre, z, f, l, hl, hz, ht, h0, hf => by
    have hlen : (pre ++ [y]).length = pre.length + 1 := by simp
    have go : ∀ (z f : Nat) (l : Int), (z = 0 ∨ z < pre.length + 1) → ((rest.zipIdx (pre.length + 1)).flatMap (fun x => nodeL x.2 x.1)).length < f → bodyG n f z (pre ++ y :: List.replicate rest.length zN) ⟨((rest.zipIdx (pre.length + 1)).flatMap (fun x => nodeL x.2 x.1)).toArray⟩ l = .ok (pre ++ y :: rest) := fun z f l hz hf => by
      have ih := bg_nodes hn rest (pre ++ [y]) z f l (by rw [hlen]; simp at hl; omega) (by rw [hlen]; exact hz) (fun x hx => ht x (List.mem_cons_of_mem _ hx)) (fun e => by simp at e) (by rw [hlen]; exact hf)
      rw [hlen] at ih
      simpa using ih
    have e1 : pre ++ List.replicate (y :: rest).length zN = pre ++ zN :: List.replicate rest.length zN := by rw [List.length_cons, List.replicate_succ]
    rw [zi_cons, List.flatMap_cons] at hf ⊢
    rw [e1]
    have hvn : pre.length < n := by simp at hl; omega
    rcases ht y (by simp) with ⟨k0, q1, q2, q3, q4⟩ | ⟨k0, q1, q2, q3⟩ | ⟨k0, q1, q2, q3, q4⟩
    · have ey : y = zN := by cases y; simp at k0 q1 q2 q3 q4; subst k0 q1 q2 q3 q4; rfl
      have en : nodeL pre.length y = [] := by rw [ey]; exact zero_node _
      simp only
      rw [en, List.nil_append] at hf ⊢
      have g := go z f l (by omega) hf
      rw [ey] at g ⊢
      exact g
    · have hp : 0 < pre.length := by
        rcases Nat.eq_zero_or_pos pre.length with h | h
        · have := h0 (List.eq_nil_of_length_eq_zero h) y rfl; omega
        · exact h
      have en : nodeL pre.length y = lineL [wLeaf, itoaB (pre.length : Int)] ++ y.bl.flatMap (fun l => lineL (bWd l)) := by unfold nodeL; rw [if_pos k0]
      simp only
      rw [en, List.append_assoc] at hf ⊢
      obtain ⟨f, rfl⟩ : ∃ f', f = f' + 1 := ⟨f - 1, by omega⟩
      have hln : 0 < (lineL [wLeaf, itoaB (pre.length : Int)]).length := List.length_pos_iff.2 (line_ne _)
      rw [List.length_append] at hf
      have hb : bodyF n z (pre ++ zN :: List.replicate rest.length zN) [wLeaf, itoaB (pre.length : Int)] = some (pre.length, pre ++ ⟨1, [], [], [], []⟩ :: List.replicate rest.length zN) := by
        have w0 : [wLeaf, itoaB (pre.length : Int)][0]? = some wLeaf := rfl
        have w1 : [wLeaf, itoaB (pre.length : Int)].length = 2 := rfl
        unfold bodyF
        rw [if_pos w0, if_pos w1]
        show (begB n z (itoaB (pre.length : Int))).map _ = _
        rw [beg_fwd ⟨by omega, hvn⟩ hn, Option.map_some, set_app _ _ _ _ rfl]
      rw [bg_line (by simp) (by
        intro x hx
        simp only [List.mem_cons, List.not_mem_nil, or_false] at hx
        rcases hx with rfl | rfl
        · exact cl_words.2.2.2.2.2.1
        · exact cl_itoa _) hb]
      obtain ⟨f', l', h1, h2⟩ := bg_blocks (n := n) (pre := pre) (rest := List.replicate rest.length zN) rfl hp ((rest.zipIdx (pre.length + 1)).flatMap (fun x => nodeL x.2 x.1)) y.bl [] f (l + 1) (by omega)
      rw [h2]
      have ey : (⟨1, [], [], [], [] ++ y.bl⟩ : NdV) = y := by cases y; simp at k0 q1 q2 q3; subst k0 q1 q2 q3; rfl
      rw [ey]
      exact go pre.length f' l' (by omega) h1
    · have hp : 0 < pre.length := by
        rcases Nat.eq_zero_or_pos pre.length with h | h
        · have := h0 (List.eq_nil_of_length_eq_zero h) y rfl; omega
        · exact h
      have en : nodeL pre.length y = lineL (wInner :: itoaB (pre.length : Int) :: kWd y.kids y.piv) ++ y.ms.flatMap (fun m => lineL (mWd m)) := by unfold nodeL; rw [if_neg (by omega), if_pos k0]
      simp only
      rw [en, List.append_assoc] at hf ⊢
      obtain ⟨f, rfl⟩ : ∃ f', f = f' + 1 := ⟨f - 1, by omega⟩
      have hln : 0 < (lineL (wInner :: itoaB (pre.length : Int) :: kWd y.kids y.piv)).length := List.length_pos_iff.2 (line_ne _)
      rw [List.length_append] at hf
      have hb : bodyF n z (pre ++ zN :: List.replicate rest.length zN) (wInner :: itoaB (pre.length : Int) :: kWd y.kids y.piv) = some (pre.length, pre ++ ⟨2, y.piv, y.kids, [], []⟩ :: List.replicate rest.length zN) := by
        have w0 : (wInner :: itoaB (pre.length : Int) :: kWd y.kids y.piv)[0]? = some wInner := rfl
        have hkl := k_len q2
        unfold bodyF
        rw [if_neg (by rw [w0]; decide +kernel), if_pos w0, if_pos (by rw [List.length_cons, List.length_cons, hkl]; omega)]
        show (begB n z (itoaB (pre.length : Int))).bind (fun v => (inB true (kWd y.kids y.piv)).map _) = _
        rw [beg_fwd ⟨by omega, hvn⟩ hn, Option.bind_some, in_fwd q2 q3, Option.map_some, set_app _ _ _ _ rfl]
      rw [bg_line (by simp) (by
        intro x hx
        rcases List.mem_cons.1 hx with rfl | hx
        · exact cl_words.2.2.2.2.2.2.1
        rcases List.mem_cons.1 hx with rfl | hx
        · exact cl_itoa _
        · exact k_cl _ _ x hx) hb]
      obtain ⟨f', l', h1, h2⟩ := bg_msgs (n := n) (pre := pre) (rest := List.replicate rest.length zN) (ps := y.piv) (ks := y.kids) rfl hp ((rest.zipIdx (pre.length + 1)).flatMap (fun x => nodeL x.2 x.1)) y.ms [] f (l + 1) q4 (by omega)
      rw [h2]
      have ey : (⟨2, y.piv, y.kids, [] ++ y.ms, []⟩ : NdV) = y := by cases y; simp at k0 q1; subst k0 q1; rfl
      rw [ey]
      exact go pre.length f' l' (by omega) h1
/-- What is printed is parsed as it was. -/
theorem dpar_fwd {ys : List NdV} (h : TAll ys) (hn : ys.length ≤ 4097) : dparF ⟨(dprL ys).toArray⟩ = .ok ys := by
  unfold dparF dprL
  rw [next_lineL [wTree, itoaB (ys.length : Int)] (nodesL ys) (by simp) (by
    intro x hx
    simp only [List.mem_cons, List.not_mem_nil, or_false] at hx
    rcases hx with rfl | rfl
    · exact cl_words.2.2.2.2.1
    · exact cl_itoa _)]
  simp only
  have hh : headF [wTree, itoaB (ys.length : Int)] = .ok ys.length := by
    unfold headF
    rw [if_pos ⟨rfl, rfl⟩]
    have e : rgB 0 2147483647 (wdA [wTree, itoaB (ys.length : Int)] 1) = some (ys.length : Int) := by
      show rgB 0 2147483647 (itoaB (ys.length : Int)) = _
      exact rg_itoa (by omega) (by omega) (by omega)
    rw [e]
    simp only
    rw [if_pos (by omega), Int.toNat_natCast]
  rw [hh]
  simp only
  have q := bg_nodes hn ys [] 0 ((⟨(nodesL ys).toArray⟩ : ByteArray).size + 1) 1 (by simp) (.inl rfl) h.2 (fun _ y hy => h.1 y hy) (by rw [ba_size]; exact Nat.lt_succ_self _)
  exact q
end Go.Proofs.YtdebedeebmmleaaGreatDoor
namespace Go.Proofs.YtdebedeebmmleaaGreatDoor
open Go.RowKit Go.Maps
def hexB (n : Nat) : ByteArray := ⟨#[hexd n]⟩
set_option maxHeartbeats 4000000 in
set_option maxRecDepth 100000 in
theorem hex_any (n : Nat) (h : n < 16) (w : World) : Calls Tryz.prog 69 #[.int .u8 (n : Int)] w fun e w' => e = .returned (.string (hexB n)) ∧ w' = w := by
  have all : n = 0 ∨ n = 1 ∨ n = 2 ∨ n = 3 ∨ n = 4 ∨ n = 5 ∨ n = 6 ∨ n = 7 ∨ n = 8 ∨ n = 9 ∨ n = 10 ∨ n = 11 ∨ n = 12 ∨ n = 13 ∨ n = 14 ∨ n = 15 := by omega
  rcases all with rfl | rfl | rfl | rfl | rfl | rfl | rfl | rfl | rfl | rfl | rfl | rfl | rfl | rfl | rfl | rfl
  all_goals
    go_enter Tryz.func69, Tryz.ntmps69
    go_wp2
    go_ret
    exact ⟨rfl, rfl⟩
end Go.Proofs.YtdebedeebmmleaaGreatDoor
namespace Go.Proofs.YtdebedeebmmleaaGreatDoor
open Go.RowKit Go.Maps
theorem hexB_size (n : Nat) : (hexB n).size = 1 := rfl
theorem ba_app (a b : ByteArray) : (a ++ b).data.toList = a.data.toList ++ b.data.toList := by
  rw [ByteArray.data_append, Array.toList_append]
set_option maxHeartbeats 4000000 in
set_option maxRecDepth 100000 in
theorem rtoken_any (t : ByteArray) (ht : t.size ≤ 1000000) (w : World) :
    Calls Tryz.prog 42 #[.string t] w fun e w' => e = .returned (.string (tokB t)) ∧ Below w.heap.size w w' := by
  by_cases hz : t = ⟨#[]⟩
  · subst hz
    rw [tok_nil]
    go_enter Tryz.func42, Tryz.ntmps42
    go_wp2
    go_ret
    exact ⟨rfl, Below.refl _ _⟩
  · have e1 : t.toList.isEmpty = false := ne_empty hz
    have hsz : t.size ≠ 0 := fun e => hz (ba_inj (List.eq_nil_of_length_eq_zero ((ba_len t).trans e)))
    rw [tokB_some hsz]
    have HT := Lib.hid ht
    clear ht hz hsz
    go_enter Tryz.func42, Tryz.ntmps42
    go_upto_region 5 with fail
    go_loopw [3, 4] (fun ov iv wr => ∃ (k : Nat), k ≤ t.size ∧ iv = .int .i64 k ∧ Hid (ov = .string ⟨(tokP (t.data.toList.take k)).toArray⟩) ∧ Below w.heap.size w wr) (fun _ i _ => t.size - (intOf i).toNat)
    case atStart => exact ⟨0, by omega, rfl, Lib.hid (by rw [List.take_zero]; rfl), Below.refl _ _⟩
    case round =>
      obtain ⟨k, hk, rfl, HOV, hb⟩ := hrel
      obtain ⟨O, hO⟩ : ∃ O : ByteArray, O = ⟨(tokP (t.data.toList.take k)).toArray⟩ := ⟨_, rfl⟩
      rw [← hO] at HOV
      (have hov := HOV.out; subst hov; clear HOV)
      have HB := Lib.hid hb
      clear hb
      by_cases h8 : k < t.size
      · have hk1 : (k : Int) < (t.size : Int) := by omega
        have hk0 : (0 : Int) ≤ (k : Int) := by omega
        obtain ⟨x, hx⟩ : ∃ x, t.data.toList[k]? = some x := ⟨_, List.getElem?_eq_getElem (by rw [ba_len]; exact h8)⟩
        have hx2 : t[k]'h8 = x := by
          have q := (List.getElem?_eq_some_iff.1 hx).2
          rw [← q]; rfl
        have hx3 := x.toNat_lt
        have WK : IntKind.i64.wrap ((k : Int) + 1) = (k : Int) + 1 := IntWalk.i64_in _ (by have := HT.out; omega)
        obtain ⟨p, hp⟩ : ∃ p, x.toNat / 16 = p := ⟨_, rfl⟩
        obtain ⟨q, hq⟩ : ∃ q, x.toNat % 16 = q := ⟨_, rfl⟩
        have hp16 : p < 16 := by omega
        have hq16 : q < 16 := by omega
        have HT1 := Lib.hid (show tokP (t.data.toList.take (k + 1)) = (tokP (t.data.toList.take k) ++ [hexd p]) ++ [hexd q] by rw [List.take_add_one, hx, tokP_app, ← hp, ← hq]; simp [tokP_one])
        have ed : (x.toNat : Int).tdiv 16 = (p : Int) := by rw [Int.tdiv_eq_ediv_of_nonneg (by omega)]; omega
        have em : (x.toNat : Int).tmod 16 = (q : Int) := by rw [Int.tmod_eq_emod_of_nonneg (by omega)]; omega
        have wp8 : IntKind.u8.wrap (p : Int) = (p : Int) := by show (p : Int) % 256 = p; omega
        have wq8 : IntKind.u8.wrap (q : Int) = (q : Int) := by show (q : Int) % 256 = q; omega
        have wpm : (p : Int) % 256 = p := by omega
        have wqm : (q : Int) % 256 = q := by omega
        have HF : Hid ((O ++ hexB p) ++ hexB q = ⟨(tokP (t.data.toList.take (k + 1))).toArray⟩) := Lib.hid (ba_inj (by rw [ba_app, ba_app, ba_list, HT1.out, hO, ba_list]; rfl))
        have HPX := Lib.hid (hex_any p hp16)
        have HQX := Lib.hid (hex_any q hq16)
        have HS1 : Hid (O.size + (hexB p).size ≤ 3000000) := Lib.hid (by rw [hexB_size, hO, ba_size, tokP_len, List.length_take]; have := HT.out; omega)
        have HS2 : Hid (O.size + (hexB p).size + (hexB q).size ≤ 3000000) := Lib.hid (by rw [hexB_size, hexB_size, hO, ba_size, tokP_len, List.length_take]; have := HT.out; omega)
        generalize hexB p = P at HPX HF HS1 HS2
        generalize hexB q = Q at HQX HF HS2
        clear hx hp hq hO HT1
        go_upto_region 7 with fail
        refine wp_region_held_drew (S := (fun _ : World => True)) (by kernel_rfl) ?_ (fun hHeld => ?_)
        · trivial
        have HHeld := Lib.hid hHeld; clear hHeld
        refine wT (i := 0) (oi := { dst := some 13, op := Op.move (Operand.tmp 3), type := 9, pos := "ref.go:20", after := #[], guard := none }) (v := ?_) rfl (Or.inl ⟨by rfl, ?_⟩) HHeld.out ?_
        rotate_left
        · intro w hSw; clear hSw; go_simp; try with_reducible rfl
        try simp only [pu, pn, s1, s2, s3]
        refine wT (i := 1) (oi := { dst := some 14, op := Op.move (Operand.tmp 0), type := 9, pos := "ref.go:20", after := #[], guard := none }) (v := ?_) rfl (Or.inl ⟨by rfl, ?_⟩) HHeld.out ?_
        rotate_left
        · intro w hSw; clear hSw; go_simp; try with_reducible rfl
        try simp only [pu, pn, s1, s2, s3]
        refine wT (i := 2) (oi := { dst := some 15, op := Op.move (Operand.tmp 4), type := 3, pos := "ref.go:20", after := #[], guard := none }) (v := ?_) rfl (Or.inl ⟨by rfl, ?_⟩) HHeld.out ?_
        rotate_left
        · intro w hSw; clear hSw; go_simp; try with_reducible rfl
        try simp only [pu, pn, s1, s2, s3]
        refine wT (i := 3) (oi := { dst := some 16, op := Op.index 9 (Operand.tmp 14) (Operand.tmp 15), type := 5, pos := "ref.go:20", after := #[{ on := 1, ground := Ground.data }, { on := 2, ground := Ground.data }], guard := none }) (v := (.int .u8 (x.toNat : Int) : Value)) rfl (Or.inl ⟨by rfl, ?_⟩) HHeld.out ?_
        · intro V hV; have hc0 := hx2; clear hV; go_simp
        try simp only [pu, pn, s1, s2, s3]
        refine wT (i := 4) (oi := { dst := some 17, op := Op.binOp BinOp.quo 5 (Operand.tmp 16) (Operand.const (Value.int IntKind.u8 16)) 5, type := 5, pos := "ref.go:20", after := #[{ on := 3, ground := Ground.data }], guard := none }) (v := (.int .u8 (p : Int) : Value)) rfl (Or.inl ⟨by rfl, ?_⟩) HHeld.out ?_
        · intro V hV; have hc0 := ed; clear hV; go_simp
        try simp only [pu, pn, s1, s2, s3]
        refine wT (i := 7) (oi := { dst := some 20, op := Op.move (Operand.tmp 0), type := 9, pos := "ref.go:20", after := #[], guard := none }) (v := ?_) rfl (Or.inl ⟨by rfl, ?_⟩) HHeld.out ?_
        rotate_left
        · intro w hSw; clear hSw; go_simp; try with_reducible rfl
        try simp only [pu, pn, s1, s2, s3]
        refine wT (i := 8) (oi := { dst := some 21, op := Op.move (Operand.tmp 4), type := 3, pos := "ref.go:20", after := #[], guard := none }) (v := ?_) rfl (Or.inl ⟨by rfl, ?_⟩) HHeld.out ?_
        rotate_left
        · intro w hSw; clear hSw; go_simp; try with_reducible rfl
        try simp only [pu, pn, s1, s2, s3]
        refine wT (i := 9) (oi := { dst := some 22, op := Op.index 9 (Operand.tmp 20) (Operand.tmp 21), type := 5, pos := "ref.go:20", after := #[{ on := 7, ground := Ground.data }, { on := 8, ground := Ground.data }], guard := none }) (v := (.int .u8 (x.toNat : Int) : Value)) rfl (Or.inl ⟨by rfl, ?_⟩) HHeld.out ?_
        · intro V hV; have hc0 := hx2; clear hV; go_simp
        try simp only [pu, pn, s1, s2, s3]
        refine wT (i := 10) (oi := { dst := some 23, op := Op.binOp BinOp.rem 5 (Operand.tmp 22) (Operand.const (Value.int IntKind.u8 16)) 5, type := 5, pos := "ref.go:20", after := #[{ on := 9, ground := Ground.data }], guard := none }) (v := (.int .u8 (q : Int) : Value)) rfl (Or.inl ⟨by rfl, ?_⟩) HHeld.out ?_
        · intro V hV; have hc0 := em; clear hV; go_simp
        try simp only [pu, pn, s1, s2, s3]
        refine wpAnyH_ready (rs := [5]) (by kernel_rfl) (by simp) ?_
        refine AllReadyH.cons (o := { dst := some 18, op := Op.call { callee := Callee.value (Operand.func 69), args := #[Operand.tmp 17], argTypes := #[5] }, type := 9, pos := "ref.go:20", after := #[{ on := 4, ground := Ground.data }], guard := none }) rfl (fun K hK => ?_) AllReadyH.nil
        go_simp
        go_at_call 69; ((refine (HPX.out _).mono ?_); rintro e w1 ⟨rfl, rfl⟩)
        refine hK.out _ _ ?_ (fun hHeld => ?_)
        · trivial
        clear HHeld; have HHeld := Lib.hid hHeld; clear hHeld
        clear hK K
        try simp only [pu, pn, s1, s2, s3]
        refine wT (i := 6) (oi := { dst := some 19, op := Op.binOp BinOp.add 9 (Operand.tmp 13) (Operand.tmp 18) 9, type := 9, pos := "ref.go:20", after := #[{ on := 0, ground := Ground.data }, { on := 5, ground := Ground.data }], guard := none }) (v := (.string (O ++ P) : Value)) rfl (Or.inl ⟨by rfl, ?_⟩) HHeld.out ?_
        · intro V hV; clear hV; have hs := HS1.out; go_simp; omega
        try simp only [pu, pn, s1, s2, s3]
        refine wpAnyH_ready (rs := [11]) (by kernel_rfl) (by simp) ?_
        refine AllReadyH.cons (o := { dst := some 24, op := Op.call { callee := Callee.value (Operand.func 69), args := #[Operand.tmp 23], argTypes := #[5] }, type := 9, pos := "ref.go:20", after := #[{ on := 10, ground := Ground.data }, { on := 5, ground := Ground.chain }], guard := none }) rfl (fun K hK => ?_) AllReadyH.nil
        go_simp
        go_at_call 69; ((refine (HQX.out _).mono ?_); rintro e w1 ⟨rfl, rfl⟩)
        refine hK.out _ _ ?_ (fun hHeld => ?_)
        · trivial
        clear HHeld; have HHeld := Lib.hid hHeld; clear hHeld
        clear hK K
        try simp only [pu, pn, s1, s2, s3]
        refine wT (i := 12) (oi := { dst := some 25, op := Op.binOp BinOp.add 9 (Operand.tmp 19) (Operand.tmp 24) 9, type := 9, pos := "ref.go:20", after := #[{ on := 6, ground := Ground.data }, { on := 11, ground := Ground.data }], guard := none }) (v := (.string ((O ++ P) ++ Q) : Value)) rfl (Or.inl ⟨by rfl, ?_⟩) HHeld.out ?_
        · intro V hV; clear hV; have hs := HS2.out; go_simp; omega
        try simp only [pu, pn, s1, s2, s3]
        refine wT (i := 13) (oi := { dst := some 3, op := Op.assign (Operand.tmp 25), type := 9, pos := "ref.go:20", after := #[{ on := 12, ground := Ground.data }, { on := 11, ground := Ground.chain }, { on := 0, ground := Ground.phase }, { on := 1, ground := Ground.phase }, { on := 2, ground := Ground.phase }, { on := 3, ground := Ground.phase }, { on := 4, ground := Ground.phase }, { on := 5, ground := Ground.phase }, { on := 6, ground := Ground.phase }, { on := 7, ground := Ground.phase }, { on := 8, ground := Ground.phase }, { on := 9, ground := Ground.phase }, { on := 10, ground := Ground.phase }, { on := 11, ground := Ground.phase }, { on := 12, ground := Ground.phase }], guard := none }) (v := ?_) rfl (Or.inl ⟨by rfl, ?_⟩) HHeld.out ?_
        rotate_left
        · intro w hSw; clear hSw; go_simp; try with_reducible rfl
        try simp only [pu, pn, s1, s2, s3]
        refine wpAnyH_done (by kernel_rfl) ?_ _
        clear HHeld
        go_wp2
        exact ⟨⟨k + 1, by omega, by simp, Lib.hid (by rw [← HF.out]), HB.out.drew⟩, by simp [intOf]; omega⟩
      · have hk1 : ¬ (k : Int) < (t.size : Int) := by omega
        have hke : k = t.size := by omega
        subst hke
        have e2 : t.data.toList.take t.size = t.data.toList := List.take_of_length_le (by rw [ba_len]; omega)
        rw [e2] at hO
        subst hO
        clear e2
        go_wp2
        refine bodyPost_ret (v := .string ⟨(tokP t.data.toList).toArray⟩) (by simp [results, Tryz.results42, go_sem]) rfl ⟨rfl, HB.out⟩
end Go.Proofs.YtdebedeebmmleaaGreatDoor
namespace Go.Proofs.YtdebedeebmmleaaGreatDoor
open Go.RowKit Go.Maps
theorem hexd_dig : ∀ n, n < 10 → UInt8.ofNat (48 + n) = hexd n := by decide +kernel
theorem utoa_lo {u : Nat} (h : u < 10) : utoaB u = hexB u := by
  unfold utoaB hexB
  rw [Lib.decDigits, dif_pos h, hexd_dig u h]
theorem utoa_hi {u : Nat} (h : ¬ u < 10) : utoaB u = utoaB (u / 10) ++ hexB (u % 10) := by
  refine ba_inj ?_
  rw [ba_app]
  unfold utoaB hexB
  rw [ba_list, ba_list, Lib.decDigits, dif_neg h, hexd_dig _ (by omega)]
theorem utoa_size (u : Nat) (h : u ≤ 18446744073709551615) : (utoaB u).size ≤ 20 := by
  unfold utoaB
  rw [ba_size, Lib.decDigits_length]
  exact Lib.nDigits_le20 u (by omega)
set_option maxHeartbeats 1000000 in
set_option maxRecDepth 100000 in
theorem digits_any (u : Nat) : ∀ (hu : u ≤ 18446744073709551615) (w : World), Calls Tryz.prog 41 #[.int .u64 (u : Int)] w fun e w' => e = .returned (.string (utoaB u)) ∧ w' = w := by
  induction u using Nat.strongRecOn with
  | _ u ih =>
    intro hu w
    by_cases h : u < 10
    · have HX := Lib.hid (hex_any u (by omega))
      rw [utoa_lo h]
      have k0 : (u : Int) < 10 := by omega
      have wu8 : IntKind.u8.wrap (u : Int) = (u : Int) := by show (u : Int) % 256 = u; omega
      have wum : (u : Int) % 256 = u := by omega
      clear ih
      go_enter Tryz.func41, Tryz.ntmps41
      go_wp2_with (first
        | (go_at_call 69; ((with_reducible refine (HX.out _).mono ?_); rintro e w1 ⟨rfl, rfl⟩))
        | fail)
      go_ret
      exact ⟨rfl, rfl⟩
    · have HI := Lib.hid (ih (u / 10) (by omega) (by omega))
      have HSZ := Lib.hid (utoa_size (u / 10) (by omega))
      rw [utoa_hi h]
      have k0 : ¬ (u : Int) < 10 := by omega
      obtain ⟨p, hp⟩ : ∃ p, u / 10 = p := ⟨_, rfl⟩
      obtain ⟨q, hq⟩ : ∃ q, u % 10 = q := ⟨_, rfl⟩
      rw [hp] at HI HSZ
      rw [hp, hq]
      have HX := Lib.hid (hex_any q (by omega))
      have ed : (u : Int).tdiv 10 = (p : Int) := by rw [Int.tdiv_eq_ediv_of_nonneg (by omega)]; omega
      have em : (u : Int).tmod 10 = (q : Int) := by rw [Int.tmod_eq_emod_of_nonneg (by omega)]; omega
      have wp6 : IntKind.u64.wrap (p : Int) = (p : Int) := by show (p : Int) % 18446744073709551616 = p; omega
      have wpm : (p : Int) % 18446744073709551616 = p := by omega
      have wq6 : IntKind.u64.wrap (q : Int) = (q : Int) := by show (q : Int) % 18446744073709551616 = q; omega
      have wqn : (q : Int) % 18446744073709551616 = q := by omega
      have wq8 : IntKind.u8.wrap (q : Int) = (q : Int) := by show (q : Int) % 256 = q; omega
      have wqm : (q : Int) % 256 = q := by omega
      have HS1 : Hid ((utoaB p).size + (hexB q).size ≤ 100) := Lib.hid (by rw [hexB_size]; have := HSZ.out; omega)
      generalize utoaB p = P at HI HS1 ⊢
      generalize hexB q = Q at HX HS1 ⊢
      have hcat : ¬ 9223372036854775807 < P.size + Q.size := by have := HS1.out; omega
      clear ih hp hq
      go_enter Tryz.func41, Tryz.ntmps41
      go_wp2_with (first
        | (go_at_call 41; ((with_reducible refine (HI.out _).mono ?_); rintro e w1 ⟨rfl, rfl⟩))
        | (go_at_call 69; ((with_reducible refine (HX.out _).mono ?_); rintro e w1 ⟨rfl, rfl⟩))
        | fail)
      all_goals
        first
        | (exfalso; have := HS1.out; omega)
        | (go_ret; exact ⟨rfl, rfl⟩)
def numT (n : Int) : Value := if inR n = true then .tuple #[.string (itoaB n), .bool true] else .tuple #[.string ⟨#[]⟩, .bool false]
set_option maxHeartbeats 1000000 in
set_option maxRecDepth 100000 in
theorem rnum_any (n : Int) (h0 : -9223372036854775808 ≤ n) (h1 : n ≤ 9223372036854775807) (w : World) : Calls Tryz.prog 25 #[.int .i64 n] w fun e w' => e = .returned (numT n) ∧ w' = w := by
  unfold numT
  by_cases hr : inR n = true
  · rw [if_pos hr]
    unfold inR at hr
    simp only [Bool.and_eq_true, decide_eq_true_eq] at hr
    obtain ⟨r0, r1⟩ := hr
    have k0 : ¬ n < -2147483647 := by omega
    have k1 : ¬ (2147483647 : Int) < n := by omega
    by_cases hneg : n < 0
    · obtain ⟨u, rfl⟩ : ∃ u : Nat, n = -(u : Int) := ⟨n.natAbs, by omega⟩
      have e : itoaB (-(u : Int)) = ⟨#[45]⟩ ++ utoaB u := by
        refine ba_inj ?_
        rw [ba_app]
        unfold itoaB utoaB
        rw [ba_list, ba_list, Lib.itoa_neg u (by omega)]
        rfl
      rw [e]
      have HD := Lib.hid (digits_any u (by omega))
      have HSZ := Lib.hid (utoa_size u (by omega))
      have w1 : IntKind.i64.wrap (u : Int) = (u : Int) := IntWalk.i64_in _ (by omega)
      have w2 : IntKind.u64.wrap (u : Int) = (u : Int) := by show (u : Int) % 18446744073709551616 = u; omega
      have w3 : (u : Int) % 18446744073709551616 = u := by omega
      generalize utoaB u = U at HD HSZ ⊢
      have hcat : ¬ 9223372036854775807 < 1 + U.size := by have := HSZ.out; omega
      clear e h0 h1
      go_enter Tryz.func25, Tryz.ntmps25
      go_wp2_with (first
        | (go_at_call 41; ((with_reducible refine (HD.out _).mono ?_); rintro e w1 ⟨rfl, rfl⟩))
        | fail)
      all_goals
        first
        | (exfalso; have := HSZ.out; omega)
        | (refine bodyPost_ret (v := .tuple #[.string (⟨#[45]⟩ ++ U), .bool true]) (by simp [results, Tryz.results25, go_sem]) rfl ⟨rfl, rfl⟩)
    · obtain ⟨u, rfl⟩ : ∃ u : Nat, n = (u : Int) := ⟨n.toNat, by omega⟩
      have e : itoaB (u : Int) = utoaB u := by
        unfold itoaB utoaB
        rw [Lib.itoa_nonneg]
      rw [e]
      have HD := Lib.hid (digits_any u (by omega))
      have w2 : IntKind.u64.wrap (u : Int) = (u : Int) := by show (u : Int) % 18446744073709551616 = u; omega
      have w3 : (u : Int) % 18446744073709551616 = u := by omega
      generalize utoaB u = U at HD ⊢
      clear e h0 h1
      go_enter Tryz.func25, Tryz.ntmps25
      go_wp2_with (first
        | (go_at_call 41; ((with_reducible refine (HD.out _).mono ?_); rintro e w1 ⟨rfl, rfl⟩))
        | fail)
      refine bodyPost_ret (v := .tuple #[.string U, .bool true]) (by simp [results, Tryz.results25, go_sem]) rfl ⟨rfl, rfl⟩
  · rw [if_neg hr]
    have hq : n < -2147483647 ∨ 2147483647 < n := by
      unfold inR at hr
      simp only [Bool.and_eq_true, decide_eq_true_eq] at hr
      omega
    clear hr
    by_cases k0 : n < -2147483647
    · go_enter Tryz.func25, Tryz.ntmps25
      go_wp2
      refine bodyPost_ret (v := .tuple #[.string ⟨#[]⟩, .bool false]) (by simp [results, Tryz.results25, go_sem]) rfl ⟨rfl, rfl⟩
    · have k1 : (2147483647 : Int) < n := by omega
      clear hq
      go_enter Tryz.func25, Tryz.ntmps25
      go_wp2
      refine bodyPost_ret (v := .tuple #[.string ⟨#[]⟩, .bool false]) (by simp [results, Tryz.results25, go_sem]) rfl ⟨rfl, rfl⟩
end Go.Proofs.YtdebedeebmmleaaGreatDoor
