/- Texts of the proof, one behind the other. -/
import Derived.Test.YtelpkajlejbbgaaGreatDoorTc28
import Derived.Test.YtelpkajlejbbgaaGreatDoorTc31
import Derived.Test.YtelpkajlejbbgaaGreatDoorTc26
set_option linter.unusedVariables false
set_option linter.unusedSimpArgs false
namespace Go.Proofs.YtelpkajlejbbgaaGreatDoor
open Go.RowKit Go.Maps
theorem list_nil {a : ByteArray} (h : a.toList = []) : a = ⟨#[]⟩ := ba_inj (by rw [← ByteArray.toList_eq, h])
theorem emp_nil {a : ByteArray} (h : emp a = true) : a = ⟨#[]⟩ := list_nil (by unfold emp at h; exact List.isEmpty_iff.1 h)
theorem isB_of (a x : ByteArray) (ws : List ByteArray) (m : Nat) : isB (a :: ws) x m = (decide (a = x) && decide (ws.length = m)) := by
  unfold isB
  simp
theorem isB_len {a x : ByteArray} {ws : List ByteArray} {m : Nat} (h : ws.length ≠ m) : isB (a :: ws) x m = false := by rw [isB_of]; simp [h]
theorem isB_ne {a x : ByteArray} {ws : List ByteArray} {m : Nat} (h : decide (a = x) = false) : isB (a :: ws) x m = false := by rw [isB_of, h]; rfl
theorem isB_yes (a : ByteArray) (ws : List ByteArray) (m : Nat) (h : ws.length = m) : isB (a :: ws) a m = true := by rw [isB_of]; simp [h]
/-- A word that holds neither blank nor end of line. -/
def Cl (x : ByteArray) : Prop := (32 : UInt8) ∉ x.data.toList ∧ (10 : UInt8) ∉ x.data.toList
theorem cl_tok (t : ByteArray) : Cl (tokB t) := ⟨by unfold tokB; rw [ba_list]; exact tok_no _ _ (.inl rfl), by unfold tokB; rw [ba_list]; exact tok_no _ _ (.inr rfl)⟩
theorem cl_itoa (v : Int) : Cl (itoaB v) := ⟨by unfold itoaB; rw [ba_list]; exact itoa_no _ _ (by decide), by unfold itoaB; rw [ba_list]; exact itoa_no _ _ (by decide)⟩
theorem cl_utoa (u : Nat) : Cl (utoaB u) := by
  constructor
  · unfold utoaB; rw [ba_list]; intro h; have := (dd_digit u _ h).1; exact absurd this (by decide)
  · unfold utoaB; rw [ba_list]; intro h; have := (dd_digit u _ h).1; exact absurd this (by decide)
theorem cl_words : Cl wPut ∧ Cl wDel ∧ Cl wAdd ∧ Cl wClr ∧ Cl wGet ∧ Cl wLook ∧ Cl wOpen ∧ Cl wNext ∧ Cl wClose ∧ Cl wSend ∧ Cl wSess ∧ Cl wPicks ∧ Cl wSizes := by
  refine ⟨⟨?_, ?_⟩, ⟨?_, ?_⟩, ⟨?_, ?_⟩, ⟨?_, ?_⟩, ⟨?_, ?_⟩, ⟨?_, ?_⟩, ⟨?_, ?_⟩, ⟨?_, ?_⟩, ⟨?_, ?_⟩, ⟨?_, ?_⟩, ⟨?_, ?_⟩, ⟨?_, ?_⟩, ⟨?_, ?_⟩⟩ <;> decide +kernel
theorem next_lineL (ws : List ByteArray) (r : List UInt8) (h0 : ws ≠ []) (h1 : ∀ x ∈ ws, Cl x) : nextF ⟨(lineL ws ++ r).toArray⟩ = some (ws, ⟨r.toArray⟩) := by
  have h := next_line ws ⟨r.toArray⟩ h0 h1
  rw [ba_list] at h
  have e : lineL ws ++ r = Lib.join (ws.map (·.data.toList)) [32] ++ 10 :: r := by unfold lineL; simp
  rw [e]
  exact h
theorem msg_fwd {m : M} (h : MFm m) (o : MOk m) : msgW (mWords m) = some m ∧ mWords m ≠ [] ∧ ∀ x ∈ mWords m, Cl x := by
  obtain ⟨c1, c2, c3, c4, _⟩ := cl_words
  obtain ⟨k, q, key, too, val, dl⟩ := m
  obtain ⟨hk, _, _, _, d0, d1⟩ := o
  obtain ⟨hq, hm⟩ := h
  simp only at hk d0 d1 hq hm
  subst hq
  unfold mF at hm
  rcases hk with rfl | rfl | rfl | rfl
  · rw [if_pos rfl] at hm
    by_cases h1 : too.toList = []
    · rw [if_neg (by simpa using h1)] at hm
      by_cases h2 : dl = 0
      · obtain rfl := list_nil h1
        subst h2
        refine ⟨?_, by simp [mWords], ?_⟩
        · show msgW [wPut, tokB key, tokB val] = _
          unfold msgW
          rw [if_pos (by exact isB_yes _ _ _ rfl)]
          show ((txtB (tokB key)).bind fun k => (txtB (tokB val)).map _) = _
          rw [txt_tok, txt_tok]
          rfl
        · intro x hx
          simp [mWords] at hx
          rcases hx with rfl | rfl | rfl
          · exact c1
          · exact cl_tok _
          · exact cl_tok _
      · rw [if_pos h2] at hm; exact absurd rfl hm
    · rw [if_pos h1] at hm; exact absurd rfl hm
  · rw [if_neg (by decide), if_pos rfl] at hm
    by_cases h1 : too.toList = []
    · rw [if_neg (by simpa using h1)] at hm
      by_cases h3 : val.toList = []
      · rw [if_neg (by simpa using h3)] at hm
        by_cases h2 : dl = 0
        · obtain rfl := list_nil h1
          obtain rfl := list_nil h3
          subst h2
          refine ⟨?_, by simp [mWords], ?_⟩
          · show msgW [wDel, tokB key] = _
            unfold msgW
            rw [if_neg (by rw [isB_len (by simp)]; decide), if_pos (by exact isB_yes _ _ _ rfl)]
            show (txtB (tokB key)).map _ = _
            rw [txt_tok]
            rfl
          · intro x hx
            simp [mWords] at hx
            rcases hx with rfl | rfl
            · exact c2
            · exact cl_tok _
        · rw [if_pos h2] at hm; exact absurd rfl hm
      · rw [if_pos h3] at hm; exact absurd rfl hm
    · rw [if_pos h1] at hm; exact absurd rfl hm
  · rw [if_neg (by decide), if_neg (by decide), if_pos rfl] at hm
    by_cases h1 : too.toList = []
    · rw [if_neg (by simpa using h1)] at hm
      by_cases h3 : val.toList = []
      · obtain rfl := list_nil h1
        obtain rfl := list_nil h3
        obtain ⟨d, rfl⟩ : ∃ d : Nat, dl = d := ⟨dl.toNat, by omega⟩
        refine ⟨?_, by simp [mWords], ?_⟩
        · show msgW [wAdd, tokB key, utoaB (d : Int).toNat] = _
          rw [Int.toNat_natCast]
          unfold msgW
          rw [if_neg (by rw [isB_ne (by decide +kernel)]; decide), if_neg (by rw [isB_len (by simp)]; decide), if_pos (by exact isB_yes _ _ _ rfl)]
          show ((delB (utoaB d)).bind fun d => (txtB (tokB key)).map _) = _
          rw [txt_tok, del_utoa (by omega)]
          rfl
        · intro x hx
          simp [mWords] at hx
          rcases hx with rfl | rfl | rfl
          · exact c3
          · exact cl_tok _
          · exact cl_utoa _
      · rw [if_pos h3] at hm; exact absurd rfl hm
    · rw [if_pos h1] at hm; exact absurd rfl hm
  · rw [if_neg (by decide), if_neg (by decide), if_neg (by decide), if_pos rfl] at hm
    by_cases h3 : val.toList = []
    · rw [if_neg (by simpa using h3)] at hm
      by_cases h2 : dl = 0
      · obtain rfl := list_nil h3
        subst h2
        refine ⟨?_, by simp [mWords], ?_⟩
        · show msgW [wClr, tokB key, tokB too] = _
          unfold msgW
          rw [if_neg (by rw [isB_ne (by decide +kernel)]; decide), if_neg (by rw [isB_len (by simp)]; decide), if_neg (by rw [isB_ne (by decide +kernel)]; decide), if_pos (by exact isB_yes _ _ _ rfl)]
          show ((txtB (tokB key)).bind fun k => (txtB (tokB too)).map _) = _
          rw [txt_tok, txt_tok]
          rfl
        · intro x hx
          simp [mWords] at hx
          rcases hx with rfl | rfl | rfl
          · exact c4
          · exact cl_tok _
          · exact cl_tok _
      · rw [if_pos h2] at hm; exact absurd rfl hm
    · rw [if_pos h3] at hm; exact absurd rfl hm
theorem batch_fwd : ∀ (ms : List M) (u : List UInt8) (ln : Int) (acc : List M), (∀ m ∈ ms, MFm m ∧ MOk m) → batchF ms.length ⟨(msL ms ++ u).toArray⟩ ln acc = .ok (acc ++ ms, ⟨u.toArray⟩, ln + ms.length)
  | [], u, ln, acc, h => by
    show batchF 0 ⟨([] ++ u).toArray⟩ ln acc = _
    unfold batchF
    simp
  | m :: ms, u, ln, acc, h => by
    obtain ⟨g1, g2, g3⟩ := msg_fwd (h m (by simp)).1 (h m (by simp)).2
    have e : msL (m :: ms) ++ u = lineL (mWords m) ++ (msL ms ++ u) := by
      show (lineL (mWords m) ++ msL ms) ++ u = _
      rw [List.append_assoc]
    rw [e]
    show batchF (ms.length + 1) _ ln acc = _
    unfold batchF
    rw [next_lineL _ _ g2 g3]
    simp only [g1]
    rw [batch_fwd ms u (ln + 1) (acc ++ [m]) (fun y hy => h y (List.mem_cons_of_mem _ hy))]
    simp
    omega
/-- An operation that may be printed, as it is read. -/
theorem op_fwd {o : OpV} (h : OFm o) (k : OOk o) (hl : o.ms.length ≤ 2048) (u : List UInt8) (ln : Int) : ∃ ws rest l2, nextF ⟨(opL o ++ u).toArray⟩ = some (ws, rest) ∧ opF ws rest ln = .ok (o, ⟨u.toArray⟩, l2) ∧ wdA ws 0 ≠ wPicks ∧ wdA ws 0 ≠ wSess := by
  obtain ⟨_, _, _, _, c5, c6, c7, c8, c9, c10, _⟩ := cl_words
  obtain ⟨hn, hp, hms⟩ := h
  obtain ⟨hk, _, _, _, _, hok⟩ := k
  obtain ⟨k, key, too, n, ms⟩ := o
  simp only at hn hp hms hk hok hl
  unfold opureB at hp
  rcases hk with rfl | rfl | rfl | rfl | rfl | rfl
  · simp at hp
    obtain ⟨⟨h1, rfl⟩, rfl⟩ := hp
    obtain rfl := emp_nil h1
    refine ⟨[wGet, tokB key], ⟨u.toArray⟩, ln, next_lineL _ _ (by simp) ?_, ?_, (by show wGet ≠ wPicks; decide +kernel), (by show wGet ≠ wSess; decide +kernel)⟩
    · intro x hx
      simp at hx
      rcases hx with rfl | rfl
      · exact c5
      · exact cl_tok _
    · unfold opF
      rw [if_neg (by rw [isB_ne (by decide +kernel)]; decide)]
      have e : opW [wGet, tokB key] = some ⟨1, key, ⟨#[]⟩, 0, []⟩ := by
        unfold opW
        rw [if_pos (by exact isB_yes _ _ _ rfl)]
        show (txtB (tokB key)).map _ = _
        rw [txt_tok]
        rfl
      rw [e]
  · simp at hp
    obtain ⟨⟨h1, h2⟩, rfl⟩ := hp
    obtain rfl := emp_nil h1
    obtain rfl := emp_nil h2
    refine ⟨[wSend, itoaB ms.length], ⟨(msL ms ++ u).toArray⟩, ln + ms.length, ?_, ?_, (by show wSend ≠ wPicks; decide +kernel), (by show wSend ≠ wSess; decide +kernel)⟩
    · show nextF ⟨((lineL [wSend, itoaB ms.length] ++ msL ms) ++ u).toArray⟩ = _
      rw [List.append_assoc]
      refine next_lineL _ _ (by simp) ?_
      intro x hx
      simp at hx
      rcases hx with rfl | rfl
      · exact c10
      · exact cl_itoa _
    · unfold opF
      rw [if_pos (by exact isB_yes _ _ _ rfl)]
      have e : batchR (wdA [wSend, itoaB (ms.length : Int)] 1) ⟨(msL ms ++ u).toArray⟩ ln = .ok (ms, ⟨u.toArray⟩, ln + ms.length) := by
        unfold batchR
        show (match numB (itoaB (ms.length : Int)) with
          | none => _
          | some n => _) = _
        rw [num_itoa (by unfold inR; simp; omega)]
        simp only
        rw [if_neg (by omega), if_neg (by omega), Int.toNat_natCast, batch_fwd ms u ln [] (fun m hm => ⟨hms m hm, hok m hm⟩)]
        rfl
      rw [e]
  · simp at hp
    subst hp
    refine ⟨[wLook, tokB key, tokB too, itoaB n], ⟨u.toArray⟩, ln, next_lineL _ _ (by simp) ?_, ?_, (by show wLook ≠ wPicks; decide +kernel), (by show wLook ≠ wSess; decide +kernel)⟩
    · intro x hx
      simp at hx
      rcases hx with rfl | rfl | rfl | rfl
      · exact c6
      · exact cl_tok _
      · exact cl_tok _
      · exact cl_itoa _
    · unfold opF
      rw [if_neg (by rw [isB_len (by simp)]; decide)]
      have e : opW [wLook, tokB key, tokB too, itoaB n] = some ⟨3, key, too, n, []⟩ := by
        unfold opW
        rw [if_neg (by rw [isB_len (by simp)]; decide), if_pos (by exact isB_yes _ _ _ rfl)]
        show ((txtB (tokB key)).bind fun k => (txtB (tokB too)).bind fun t => (numB (itoaB n)).map _) = _
        rw [txt_tok, txt_tok, num_itoa hn]
        rfl
      rw [e]
  · simp at hp
    obtain ⟨rfl, rfl⟩ := hp
    refine ⟨[wOpen, tokB key, tokB too], ⟨u.toArray⟩, ln, next_lineL _ _ (by simp) ?_, ?_, (by show wOpen ≠ wPicks; decide +kernel), (by show wOpen ≠ wSess; decide +kernel)⟩
    · intro x hx
      simp at hx
      rcases hx with rfl | rfl | rfl
      · exact c7
      · exact cl_tok _
      · exact cl_tok _
    · unfold opF
      rw [if_neg (by rw [isB_len (by simp)]; decide)]
      have e : opW [wOpen, tokB key, tokB too] = some ⟨4, key, too, 0, []⟩ := by
        unfold opW
        rw [if_neg (by rw [isB_len (by simp)]; decide), if_neg (by rw [isB_len (by simp)]; decide), if_pos (by exact isB_yes _ _ _ rfl)]
        show ((txtB (tokB key)).bind fun k => (txtB (tokB too)).map _) = _
        rw [txt_tok, txt_tok]
        rfl
      rw [e]
  · simp at hp
    obtain ⟨⟨h1, h2⟩, rfl⟩ := hp
    obtain rfl := emp_nil h1
    obtain rfl := emp_nil h2
    refine ⟨[wNext, itoaB n], ⟨u.toArray⟩, ln, next_lineL _ _ (by simp) ?_, ?_, (by show wNext ≠ wPicks; decide +kernel), (by show wNext ≠ wSess; decide +kernel)⟩
    · intro x hx
      simp at hx
      rcases hx with rfl | rfl
      · exact c8
      · exact cl_itoa _
    · unfold opF
      rw [if_neg (by rw [isB_ne (by decide +kernel)]; decide)]
      have e : opW [wNext, itoaB n] = some ⟨5, ⟨#[]⟩, ⟨#[]⟩, n, []⟩ := by
        unfold opW
        rw [if_neg (by rw [isB_ne (by decide +kernel)]; decide), if_neg (by rw [isB_len (by simp)]; decide), if_neg (by rw [isB_len (by simp)]; decide), if_pos (by exact isB_yes _ _ _ rfl)]
        show (numB (itoaB n)).map _ = _
        rw [num_itoa hn]
        rfl
      rw [e]
  · simp at hp
    obtain ⟨⟨h1, h2⟩, rfl⟩ := hp
    obtain rfl := emp_nil h1
    obtain rfl := emp_nil h2
    refine ⟨[wClose, itoaB n], ⟨u.toArray⟩, ln, next_lineL _ _ (by simp) ?_, ?_, (by show wClose ≠ wPicks; decide +kernel), (by show wClose ≠ wSess; decide +kernel)⟩
    · intro x hx
      simp at hx
      rcases hx with rfl | rfl
      · exact c9
      · exact cl_itoa _
    · unfold opF
      rw [if_neg (by rw [isB_ne (by decide +kernel)]; decide)]
      have e : opW [wClose, itoaB n] = some ⟨6, ⟨#[]⟩, ⟨#[]⟩, n, []⟩ := by
        unfold opW
        rw [if_neg (by rw [isB_ne (by decide +kernel)]; decide), if_neg (by rw [isB_len (by simp)]; decide), if_neg (by rw [isB_len (by simp)]; decide), if_neg (by rw [isB_ne (by decide +kernel)]; decide), if_pos (by exact isB_yes _ _ _ rfl)]
        show (numB (itoaB n)).map _ = _
        rw [num_itoa hn]
        rfl
      rw [e]
theorem ops_fwd : ∀ (os : List OpV) (f : Nat) (u : List UInt8) (ln : Int) (pre : List (List OpV)) (cur : List OpV), (∀ o ∈ os, OFm o ∧ OOk o ∧ o.ms.length ≤ 2048) → (opsL os ++ u).length < f → ∃ f2 l2, u.length < f2 ∧ rowsG f ⟨(opsL os ++ u).toArray⟩ ln (pre ++ [cur]) = rowsG f2 ⟨u.toArray⟩ l2 (pre ++ [cur ++ os])
  | [], f, u, ln, pre, cur, h, hf => ⟨f, ln, hf, by rw [List.append_nil]; rfl⟩
  | o :: os, f, u, ln, pre, cur, h, hf => by
    obtain ⟨g1, g2, g3⟩ := h o (by simp)
    have e : opsL (o :: os) ++ u = opL o ++ (opsL os ++ u) := by
      show (opL o ++ opsL os) ++ u = _
      rw [List.append_assoc]
    rw [e] at hf ⊢
    cases f with
    | zero => omega
    | succ f =>
      have hne := List.length_pos_iff.2 (op_ne o)
      obtain ⟨ws, rest, l2, q1, q2, q3, q4⟩ := op_fwd g1 g2 g3 (opsL os ++ u) (ln + 1)
      obtain ⟨f2, l3, r1, r2⟩ := ops_fwd os f u l2 pre (cur ++ [o]) (fun y hy => h y (List.mem_cons_of_mem _ hy)) (by rw [List.length_append] at hf; omega)
      refine ⟨f2, l3, r1, ?_⟩
      rw [rowsG, q1]
      simp only
      rw [if_neg q3, if_neg (fun hc => q4 hc.1), if_neg (by simp), q2]
      simp only
      rw [addLast_eq, r2]
      simp
theorem rows_fwd : ∀ (rows : List (List OpV)) (f : Nat) (u : List UInt8) (ln : Int) (acc : List (List OpV)), RGd rows → (rowsL rows ++ u).length < f → ∃ f2 l2, u.length < f2 ∧ rowsG f ⟨(rowsL rows ++ u).toArray⟩ ln acc = rowsG f2 ⟨u.toArray⟩ l2 (acc ++ rows)
  | [], f, u, ln, acc, h, hf => ⟨f, ln, hf, by rw [List.append_nil]; rfl⟩
  | r :: rows, f, u, ln, acc, h, hf => by
    obtain ⟨_, _, _, _, _, _, _, _, _, _, c11, _⟩ := cl_words
    have e : rowsL (r :: rows) ++ u = lineL [wSess] ++ (opsL r ++ (rowsL rows ++ u)) := by
      show ((lineL [wSess] ++ opsL r) ++ rowsL rows) ++ u = _
      simp only [List.append_assoc]
    rw [e] at hf ⊢
    cases f with
    | zero => omega
    | succ f =>
      have hne := List.length_pos_iff.2 (line_ne [wSess])
      have hf2 : (opsL r ++ (rowsL rows ++ u)).length < f := by rw [List.length_append] at hf; omega
      obtain ⟨f2, l2, p1, p2⟩ := ops_fwd r f (rowsL rows ++ u) (ln + 1) acc [] (h r (by simp)) hf2
      obtain ⟨f3, l3, r1, r2⟩ := rows_fwd rows f2 u l2 (acc ++ [[] ++ r]) (fun y hy => h y (List.mem_cons_of_mem _ hy)) p1
      refine ⟨f3, l3, r1, ?_⟩
      rw [rowsG, next_lineL [wSess] _ (by simp) (by intro x hx; simp at hx; subst hx; exact c11)]
      simp only
      rw [if_neg (by decide +kernel), if_pos (by decide +kernel), p2, r2]
      simp
theorem nums_fwd : ∀ (l : List Int), (∀ v ∈ l, inR v = true) → numsB (l.map itoaB) = some l
  | [], h => rfl
  | v :: l, h => by
    show ((numB (itoaB v)).bind fun v => (numsB (l.map itoaB)).map (v :: ·)) = _
    rw [num_itoa (h v (by simp)), nums_fwd l (fun y hy => h y (List.mem_cons_of_mem _ hy))]
    rfl
/-- What is printed is parsed as it was. -/
theorem parse_fwd {x : ScV} (h : SFm x) (ho : ∀ r ∈ x.rows, ∀ o ∈ r, OOk o) (h9 : x.cf.length = 9) : parseF ⟨(prL x).toArray⟩ = .ok x := by
  obtain ⟨_, _, _, _, _, _, _, _, _, _, _, c12, c13⟩ := cl_words
  obtain ⟨cf, rows, picks⟩ := x
  simp only at h9 ho
  have hs : sizesF ⟨(prL ⟨cf, rows, picks⟩).toArray⟩ 0 = .ok (cf, ⟨(rowsL rows ++ lineL (wPicks :: picks.map itoaB)).toArray⟩, 0 + 1) := by
    have e : prL ⟨cf, rows, picks⟩ = lineL (wSizes :: cf.map itoaB) ++ (rowsL rows ++ lineL (wPicks :: picks.map itoaB)) := by
      show (lineL (wSizes :: cf.map itoaB) ++ rowsL rows) ++ lineL (wPicks :: picks.map itoaB) = _
      rw [List.append_assoc]
    unfold sizesF
    rw [e, next_lineL (wSizes :: cf.map itoaB) _ (by simp) (by
      intro x hx
      rcases List.mem_cons.1 hx with rfl | hx
      · exact c13
      · obtain ⟨v, _, rfl⟩ := List.mem_map.1 hx
        exact cl_itoa v)]
    simp only
    rw [if_pos (isB_yes _ _ _ (by rw [List.length_map, h9]))]
    show (match numsB (cf.map itoaB) with
      | none => _
      | some l => _) = _
    rw [nums_fwd cf h.cf]
  unfold parseF
  rw [hs]
  simp only
  obtain ⟨f2, l2, p1, p2⟩ := rows_fwd rows ((⟨(rowsL rows ++ lineL (wPicks :: picks.map itoaB)).toArray⟩ : ByteArray).size + 1) (lineL (wPicks :: picks.map itoaB)) (0 + 1) [] (fun r hr o hro => ⟨(h.op r hr o hro).1, ho r hr o hro, (h.op r hr o hro).2⟩) (by rw [ba_size]; omega)
  have hr : rowsG ((⟨(rowsL rows ++ lineL (wPicks :: picks.map itoaB)).toArray⟩ : ByteArray).size + 1) ⟨(rowsL rows ++ lineL (wPicks :: picks.map itoaB)).toArray⟩ (0 + 1) [] = .ok ((rows, picks), ⟨#[]⟩, l2 + 1) := by
    rw [p2]
    cases f2 with
    | zero => omega
    | succ f2 =>
      have e : lineL (wPicks :: picks.map itoaB) = lineL (wPicks :: picks.map itoaB) ++ [] := by simp
      rw [e, rowsG, next_lineL (wPicks :: picks.map itoaB) [] (by simp) (by
        intro x hx
        rcases List.mem_cons.1 hx with rfl | hx
        · exact c12
        · obtain ⟨v, _, rfl⟩ := List.mem_map.1 hx
          exact cl_itoa v)]
      simp only
      rw [if_pos (show wdA (wPicks :: picks.map itoaB) 0 = wPicks from rfl)]
      show (match numsB (picks.map itoaB) with
        | none => _
        | some l => _) = _
      rw [nums_fwd picks h.pk]
      rfl
  rw [hr]
  simp only
  rw [if_pos trivial]
end Go.Proofs.YtelpkajlejbbgaaGreatDoor
namespace Go.Proofs.YtelpkajlejbbgaaGreatDoor
open Go.RowKit Go.Maps
end Go.Proofs.YtelpkajlejbbgaaGreatDoor
namespace Go.Proofs.YtelpkajlejbbgaaGreatDoor
open Go.RowKit Go.Maps
theorem live_tup {w : World} (hg : GW w) : Hid (∀ W, Below w.heap.size w W → Calls Tryz.prog 9 #[] W fun e w' => e = .returned (.bool true) ∧ Below W.heap.size W w') := Lib.hid (fun W h => live_any W (hg.later h))
end Go.Proofs.YtelpkajlejbbgaaGreatDoor
namespace Go.Proofs.YtelpkajlejbbgaaGreatDoor
open Go.RowKit Go.Maps
def LC (t : ByteArray) : Nat := t.data.toList.count 10
def er3 (e : Int) : Prop := e = 5 ∨ e = 3 ∨ e = 4
/-- How far a reader is. -/
def EP {α : Type} (ln : Int) (t : ByteArray) (lo : Int) : Except (Int × Int) (α × ByteArray × Int) → Prop
  | .error (a, er) => lo ≤ a ∧ a ≤ ln + LC t + 1 ∧ er3 er
  | .ok (_, u, k) => k + LC u = ln + LC t
theorem lc_next {t u : ByteArray} {ws : List ByteArray} (h : nextF t = some (ws, u)) : LC t = LC u + 1 := by
  obtain ⟨_, _, _, h4, h5⟩ := next_facts h
  unfold LC
  rw [h4, List.count_append, List.count_eq_zero.2 h5, List.count_cons_self]
  omega
theorem EP.step {α : Type} {ln lo lo' : Int} {t u : ByteArray} {r : Except (Int × Int) (α × ByteArray × Int)} (h : EP (ln + 1) u lo' r) (hl : LC t = LC u + 1) (ho : lo ≤ lo') : EP ln t lo r := by
  match r, h with
  | .error (a, er), h => exact ⟨by have := h.1; omega, by have := h.2.1; omega, h.2.2⟩
  | .ok (_, u2, k), h => show k + _ = _; have h2 : k + (LC u2 : Int) = ln + 1 + LC u := h; omega
theorem ep_end {α : Type} {ln lo er : Int} {t : ByteArray} (h : lo ≤ ln + 1) (he : er3 er) : EP (α := α) ln t lo (.error (ln + 1, er)) := ⟨h, by omega, he⟩
theorem ep_at {α : Type} {ln lo er : Int} {t : ByteArray} (h : lo ≤ ln) (he : er3 er) : EP (α := α) ln t lo (.error (ln, er)) := ⟨h, by omega, he⟩
theorem e3 : er3 3 := .inr (.inl rfl)
theorem e4 : er3 4 := .inr (.inr rfl)
theorem e5 : er3 5 := .inl rfl
theorem batch_er : ∀ (n : Nat) (t : ByteArray) (ln : Int) (acc : List M), EP ln t (ln + 1) (batchF n t ln acc)
  | 0, t, ln, acc => by unfold batchF; rfl
  | n + 1, t, ln, acc => by
    unfold batchF
    cases hn : nextF t with
    | none => exact ep_end (by omega) e5
    | some wu =>
      obtain ⟨ws, u⟩ := wu
      simp only
      cases hm : msgW ws with
      | none => exact ep_end (by omega) e3
      | some m => exact (batch_er n u (ln + 1) (acc ++ [m])).step (lc_next hn) (by omega)
theorem batchR_er (s t : ByteArray) (ln : Int) : EP ln t ln (batchR s t ln) := by
  unfold batchR
  cases hn : numB s with
  | none => exact ep_at (by omega) e3
  | some n =>
    simp only
    split
    · exact ep_at (by omega) e3
    split
    · exact ep_at (by omega) e4
    · have h := batch_er n.toNat t ln []
      generalize batchF n.toNat t ln [] = r at h
      match r, h with
      | .error (a, er), h => exact ⟨by have := h.1; omega, h.2⟩
      | .ok (_, u2, k), h => exact h
theorem op_er (ws : List ByteArray) (t : ByteArray) (ln : Int) : EP ln t ln (opF ws t ln) := by
  unfold opF
  split
  · have h := batchR_er (wdA ws 1) t ln
    generalize batchR (wdA ws 1) t ln = r at h
    match r, h with
    | .error (a, er), h => exact h
    | .ok (_, u2, k), h => exact h
  · cases hw : opW ws with
    | none => exact ep_at (by omega) e3
    | some o => rfl
theorem rows_er : ∀ (f : Nat) (t : ByteArray) (ln : Int) (acc : List (List OpV)), t.size < f → EP ln t (ln + 1) (rowsG f t ln acc)
  | 0, t, ln, acc, h => by omega
  | f + 1, t, ln, acc, h => by
    unfold rowsG
    cases hn : nextF t with
    | none => exact ep_end (by omega) e5
    | some wu =>
      obtain ⟨ws, u⟩ := wu
      simp only
      obtain ⟨_, hu, _⟩ := next_facts hn
      have hl := lc_next hn
      split
      · cases hm : numsB (ws.drop 1) with
        | none => exact ep_end (by omega) e3
        | some l => show ln + 1 + _ = _; omega
      split
      · exact (rows_er f u (ln + 1) _ (by omega)).step hl (by omega)
      split
      · exact ep_end (by omega) e3
      · have ho := op_er ws u (ln + 1)
        cases hr : opF ws u (ln + 1) with
        | error e =>
          obtain ⟨a, er⟩ := e
          rw [hr] at ho
          exact EP.step (α := List (List OpV) × List Int) (r := .error (a, er)) ho hl (by omega)
        | ok q =>
          obtain ⟨o, u2, l2⟩ := q
          rw [hr] at ho
          obtain ⟨ho1, ho2, _⟩ := op_le hr
          have h2 : l2 + (LC u2 : Int) = ln + 1 + LC u := ho
          have ih := rows_er f u2 l2 (addLast acc o) (by omega)
          simp only
          generalize rowsG f u2 l2 (addLast acc o) = r at ih
          match r, ih with
          | .error (a, er), ih => exact ⟨by have := ih.1; omega, by have := ih.2.1; omega, ih.2.2⟩
          | .ok (_, u3, k), ih => show k + _ = _; have h3 : k + (LC u3 : Int) = l2 + LC u2 := ih; omega
theorem sizes_er (t : ByteArray) (ln : Int) : EP ln t (ln + 1) (sizesF t ln) := by
  unfold sizesF
  cases hn : nextF t with
  | none => exact ep_end (by omega) e5
  | some wu =>
    obtain ⟨ws, u⟩ := wu
    simp only
    have hl := lc_next hn
    split
    · cases hm : numsB (ws.drop 1) with
      | none => exact ep_end (by omega) e3
      | some l => show ln + 1 + _ = _; omega
    · exact ep_end (by omega) e3
theorem parse_er {t : ByteArray} {a er : Int} (h : parseF t = .error (a, er)) : 1 ≤ a ∧ a ≤ LC t + 1 ∧ er3 er := by
  unfold parseF at h
  have hz := sizes_er t 0
  cases hs : sizesF t 0 with
  | error e =>
    obtain ⟨a2, er2⟩ := e
    rw [hs] at h hz
    simp only at h
    cases h
    exact ⟨by have := hz.1; omega, by have := hz.2.1; omega, hz.2.2⟩
  | ok q =>
    obtain ⟨cf, u, l⟩ := q
    rw [hs] at h hz
    have hz2 : l + (LC u : Int) = 0 + LC t := hz
    have hle := (sizes_le hs).2
    simp only at h
    have hr := rows_er (u.size + 1) u l [] (by omega)
    cases hq : rowsG (u.size + 1) u l [] with
    | error e =>
      obtain ⟨a2, er2⟩ := e
      rw [hq] at h hr
      simp only at h
      cases h
      exact ⟨by have := hr.1; omega, by have := hr.2.1; omega, hr.2.2⟩
    | ok q =>
      obtain ⟨⟨rows, picks⟩, u2, l2⟩ := q
      rw [hq] at h hr
      have hr2 : l2 + (LC u2 : Int) = l + LC u := hr
      have hl2 := (rows_le _ _ _ _ _ _ _ hq).2.1
      simp only at h
      split at h
      · cases h
      · cases hn : nextF u2 with
        | none => rw [hn] at h; cases h; exact ⟨by omega, by omega, e5⟩
        | some wu => rw [hn] at h; cases h; exact ⟨by omega, by omega, e3⟩
end Go.Proofs.YtelpkajlejbbgaaGreatDoor
namespace Go.Proofs.YtelpkajlejbbgaaGreatDoor
open Go.RowKit Go.Maps
/-- Whole lines. -/
def Wh (p : List UInt8) : Prop := p = [] ∨ ∃ q, p = q ++ [10]
theorem nx {p : List UInt8} (hw : Wh p) (h0 : p ≠ []) : ∃ ws p', Wh p' ∧ p.count 10 = p'.count 10 + 1 ∧ p'.length < p.length ∧ ∀ u, nextF ⟨(p ++ u).toArray⟩ = some (ws, ⟨(p' ++ u).toArray⟩) := by
  rcases hw with hw | ⟨q, hq⟩
  · exact absurd hw h0
  rcases cut_cases 10 p with ⟨_, h2⟩ | ⟨_, h2, h3⟩
  · exact absurd (by rw [hq]; simp) h2
  · obtain ⟨a, ha⟩ : ∃ a, (Lib.cut p [10]).1 = a := ⟨_, rfl⟩
    obtain ⟨b, hb⟩ : ∃ b, (Lib.cut p [10]).2.1 = b := ⟨_, rfl⟩
    rw [ha] at h2 h3
    rw [hb] at h2
    refine ⟨splitW ⟨a.toArray⟩, b, ?_, ?_, ?_, fun u => ?_⟩
    · rcases List.eq_nil_or_concat b with h | ⟨c, x, h⟩
      · exact .inl h
      · right
        refine ⟨c, ?_⟩
        rw [List.concat_eq_append] at h
        have e : q ++ [10] = (a ++ 10 :: c) ++ [x] := by rw [← hq, h2, h]; simp
        have e2 := List.append_inj_right' e rfl
        injection e2 with e3
        rw [h, ← e3]
    · rw [h2, List.count_append, List.count_eq_zero.2 h3, List.count_cons_self]; omega
    · rw [h2, List.length_append, List.length_cons]; omega
    · have e : p ++ u = a ++ 10 :: (b ++ u) := by rw [h2]; simp
      have hc := cut_app 10 a (b ++ u) h3
      unfold nextF
      rw [ba_list, e, hc]
      rfl
theorem next_nil : nextF ⟨([] : List UInt8).toArray⟩ = none := by decide +kernel
/-- A fault is told no earlier than behind these lines; and there, where nothing is left. -/
def Late {α : Type} (n : Int) (u : List UInt8) : Except (Int × Int) (α × ByteArray × Int) → Prop
  | .error (a, e) => n + 1 ≤ a ∧ (u = [] → a = n + 1 ∧ e = 5)
  | .ok (_, _, l) => n ≤ l ∧ u ≠ []
theorem batch_late : ∀ (n : Nat) (p r : List UInt8) (ln : Int) (acc l : List M) (t2 : ByteArray) (l2 : Int), batchF n ⟨(p ++ r).toArray⟩ ln acc = .ok (l, t2, l2) → Wh p → ∀ u : List UInt8,
    (∃ p2, Wh p2 ∧ t2 = ⟨(p2 ++ r).toArray⟩ ∧ l2 + (p2.count 10 : Nat) = ln + (p.count 10 : Nat) ∧ batchF n ⟨(p ++ u).toArray⟩ ln acc = .ok (l, ⟨(p2 ++ u).toArray⟩, l2)) ∨ Late (ln + (p.count 10 : Nat)) u (batchF n ⟨(p ++ u).toArray⟩ ln acc)
  | 0, p, r, ln, acc, l, t2, l2, h, hw, u => by
    unfold batchF at h
    cases h
    exact .inl ⟨p, hw, rfl, rfl, rfl⟩
  | n + 1, p, r, ln, acc, l, t2, l2, h, hw, u => by
    by_cases h0 : p = []
    · right
      subst h0
      have he := batch_er (n + 1) ⟨([] ++ u : List UInt8).toArray⟩ ln acc
      have hn : u = [] → batchF (n + 1) ⟨([] ++ u : List UInt8).toArray⟩ ln acc = .error (ln + 1, 5) := fun hu => by
        subst hu
        unfold batchF
        rw [show nextF ⟨([] ++ [] : List UInt8).toArray⟩ = none from next_nil]
      have hc0 : ((List.count (10 : UInt8) [] : Nat) : Int) = 0 := rfl
      rw [hc0]
      cases hb : batchF (n + 1) ⟨([] ++ u : List UInt8).toArray⟩ ln acc with
      | error e =>
        obtain ⟨a, er⟩ := e
        rw [hb] at he hn
        refine ⟨by have := he.1; omega, fun hu => ?_⟩
        have := hn hu
        injection this with this
        injection this with h1 h2
        exact ⟨by omega, h2⟩
      | ok q =>
        obtain ⟨v, t3, l3⟩ := q
        refine ⟨by have := (batch_le _ _ _ _ _ _ _ hb).2.1; omega, fun hu => ?_⟩
        rw [hn hu] at hb
        cases hb
    · obtain ⟨ws, p', hw', hc, hl, hnx⟩ := nx hw h0
      unfold batchF at h ⊢
      rw [hnx] at h ⊢
      simp only at h ⊢
      cases hm : msgW ws with
      | none => rw [hm] at h; cases h
      | some m =>
        rw [hm] at h
        simp only at h ⊢
        rcases batch_late n p' r (ln + 1) (acc ++ [m]) l t2 l2 h hw' u with ⟨p2, h1, h2, h3, h4⟩ | h4
        · exact .inl ⟨p2, h1, h2, by omega, h4⟩
        · right
          have e : ln + 1 + ((p'.count 10 : Nat) : Int) = ln + (p.count 10 : Nat) := by omega
          rw [← e]
          exact h4
theorem op_late (ws : List ByteArray) (p r : List UInt8) (ln : Int) (o : OpV) (t2 : ByteArray) (l2 : Int) (h : opF ws ⟨(p ++ r).toArray⟩ ln = .ok (o, t2, l2)) (hw : Wh p) (u : List UInt8) :
    (∃ p2, Wh p2 ∧ t2 = ⟨(p2 ++ r).toArray⟩ ∧ l2 + (p2.count 10 : Nat) = ln + (p.count 10 : Nat) ∧ opF ws ⟨(p ++ u).toArray⟩ ln = .ok (o, ⟨(p2 ++ u).toArray⟩, l2)) ∨ Late (ln + (p.count 10 : Nat)) u (opF ws ⟨(p ++ u).toArray⟩ ln) := by
  unfold opF at h ⊢
  split at h
  · rename_i hs
    rw [if_pos hs]
    unfold batchR at h ⊢
    cases hn : numB (wdA ws 1) with
    | none => rw [hn] at h; cases h
    | some n =>
      rw [hn] at h
      simp only at h ⊢
      split at h
      · cases h
      · cases hb : batchF n.toNat ⟨(p ++ r).toArray⟩ ln [] with
        | error e =>
          rename_i heq
          split at heq
          · cases heq
          · split at heq
            · cases heq
            · rw [hb] at heq; cases heq
        | ok q =>
          rename_i ms uu ll heq
          split at heq
          · cases heq
          split at heq
          · cases heq
          rename_i hn0 hn1
          rw [if_neg hn0, if_neg hn1]
          cases h
          rcases batch_late n.toNat p r ln [] _ _ _ heq hw u with ⟨p2, h1, h2, h3, h4⟩ | h4
          · exact .inl ⟨p2, h1, h2, h3, by rw [h4]⟩
          · right
            cases hq : batchF n.toNat ⟨(p ++ u).toArray⟩ ln [] with
            | error e => rw [hq] at h4; obtain ⟨a, er⟩ := e; exact h4
            | ok q => rw [hq] at h4; obtain ⟨v, t3, l3⟩ := q; exact h4
  · rename_i hs
    rw [if_neg hs]
    cases hq : opW ws with
    | none => rw [hq] at h; cases h
    | some o' =>
      rw [hq] at h
      simp only at h ⊢
      cases h
      exact .inl ⟨p, hw, rfl, rfl, rfl⟩
theorem rows_late : ∀ (f : Nat) (p r : List UInt8) (ln : Int) (acc : List (List OpV)) (v : List (List OpV) × List Int) (t2 : ByteArray) (l2 : Int), rowsG f ⟨(p ++ r).toArray⟩ ln acc = .ok (v, t2, l2) → Wh p → ∀ (u : List UInt8) (g : Nat), (p ++ u).length < g →
    (∃ p2, t2 = ⟨(p2 ++ r).toArray⟩) ∨ Late (ln + (p.count 10 : Nat)) u (rowsG g ⟨(p ++ u).toArray⟩ ln acc)
  | 0, p, r, ln, acc, v, t2, l2, h, hw, u, g, hg => by cases h
  | f + 1, p, r, ln, acc, v, t2, l2, h, hw, u, g, hg => by
    by_cases h0 : p = []
    · right
      subst h0
      have he := rows_er g ⟨([] ++ u : List UInt8).toArray⟩ ln acc (by rw [ba_size]; exact hg)
      have hn : u = [] → rowsG g ⟨([] ++ u : List UInt8).toArray⟩ ln acc = .error (ln + 1, 5) := fun hu => by
        subst hu
        cases g with
        | zero => omega
        | succ g =>
          unfold rowsG
          rw [show nextF ⟨([] ++ [] : List UInt8).toArray⟩ = none from next_nil]
      have hc0 : ((List.count (10 : UInt8) [] : Nat) : Int) = 0 := rfl
      rw [hc0]
      cases hb : rowsG g ⟨([] ++ u : List UInt8).toArray⟩ ln acc with
      | error e =>
        obtain ⟨a, er⟩ := e
        rw [hb] at he hn
        refine ⟨by have := he.1; omega, fun hu => ?_⟩
        have := hn hu
        injection this with this
        injection this with h1 h2
        exact ⟨by omega, h2⟩
      | ok q =>
        obtain ⟨v, t3, l3⟩ := q
        refine ⟨by have := (rows_le _ _ _ _ _ _ _ hb).2.1; omega, fun hu => ?_⟩
        rw [hn hu] at hb
        cases hb
    · obtain ⟨ws, p', hw', hc, hl, hnx⟩ := nx hw h0
      cases g with
      | zero => omega
      | succ g =>
        have hg2 : (p' ++ u).length < g := by rw [List.length_append] at hg ⊢; omega
        have e : ln + 1 + ((p'.count 10 : Nat) : Int) = ln + (p.count 10 : Nat) := by omega
        unfold rowsG at h ⊢
        rw [hnx] at h ⊢
        simp only at h ⊢
        split at h
        · rename_i hp
          left
          cases hm : numsB (ws.drop 1) with
          | none => rw [hm] at h; cases h
          | some l =>
            rw [hm] at h
            simp only at h
            cases h
            exact ⟨p', rfl⟩
        split at h
        · rename_i hp hs
          rw [if_neg hp, if_pos hs]
          rcases rows_late f p' r (ln + 1) _ v t2 l2 h hw' u g hg2 with h4 | h4
          · exact .inl h4
          · right; rw [← e]; exact h4
        split at h
        · cases h
        · rename_i hp hs ha
          rw [if_neg hp, if_neg hs, if_neg ha]
          cases ho : opF ws ⟨(p' ++ r).toArray⟩ (ln + 1) with
          | error e => rw [ho] at h; cases h
          | ok q =>
            obtain ⟨o, u2, l3⟩ := q
            rw [ho] at h
            simp only at h
            rcases op_late ws p' r (ln + 1) o u2 l3 ho hw' u with ⟨p2, h1, h2, h3, h4⟩ | h4
            · have hle := (op_le h4).1
              rw [ba_size, ba_size] at hle
              rw [h4]
              simp only
              rw [h2] at h
              rcases rows_late f p2 r l3 _ v t2 l2 h h1 u g (by omega) with h5 | h5
              · exact .inl h5
              · right
                have e3 : l3 + ((p2.count 10 : Nat) : Int) = ln + (p.count 10 : Nat) := by omega
                rw [← e3]
                exact h5
            · right
              rw [e] at h4
              cases hq : opF ws ⟨(p' ++ u).toArray⟩ (ln + 1) with
              | error e2 => rw [hq] at h4; obtain ⟨a, er⟩ := e2; exact h4
              | ok q =>
                rw [hq] at h4
                obtain ⟨o3, u3, l4⟩ := q
                have hle := (op_le hq).1
                rw [ba_size (p' ++ u)] at hle
                have h6 := rows_er g u3 l4 (addLast acc o3) (by omega)
                simp only
                cases hr : rowsG g u3 l4 (addLast acc o3) with
                | error e2 =>
                  rw [hr] at h6
                  obtain ⟨a, er⟩ := e2
                  exact ⟨by have := h6.1; have := h4.1; omega, fun hu => absurd hu h4.2⟩
                | ok q =>
                  obtain ⟨v3, t3, l5⟩ := q
                  exact ⟨by have := (rows_le _ _ _ _ _ _ _ hr).2.1; have := h4.1; omega, h4.2⟩
/-- The first lines of a text that is a script's, and any others behind them. -/
theorem parse_late {p r : List UInt8} {x : ScV} (h : parseF ⟨(p ++ r).toArray⟩ = .ok x) (hr : r ≠ []) (hw : Wh p) (u : List UInt8) :
    (∃ y, u ≠ [] ∧ parseF ⟨(p ++ u).toArray⟩ = .ok y) ∨ ∃ a er : Int, parseF ⟨(p ++ u).toArray⟩ = .error (a, er) ∧ (p.count 10 : Nat) + 1 ≤ a ∧ (u = [] → a = (p.count 10 : Nat) + 1 ∧ er = 5) := by
  by_cases h0 : p = []
  · subst h0
    have hn : u = [] → parseF ⟨([] ++ u : List UInt8).toArray⟩ = .error (1, 5) := fun hu => by
      subst hu
      unfold parseF sizesF
      rw [show nextF ⟨([] ++ [] : List UInt8).toArray⟩ = none from next_nil]
      rfl
    cases hp : parseF ⟨([] ++ u : List UInt8).toArray⟩ with
    | error e =>
      obtain ⟨a, er⟩ := e
      right
      refine ⟨a, er, rfl, by have := (parse_er hp).1; simpa using this, fun hu => ?_⟩
      rw [hn hu] at hp
      injection hp with hp
      injection hp with h1 h2
      exact ⟨by rw [← h1]; rfl, h2.symm⟩
    | ok y =>
      left
      refine ⟨y, fun hu => ?_, rfl⟩
      rw [hn hu] at hp
      cases hp
  · obtain ⟨ws, p', hw', hc, hl, hnx⟩ := nx hw h0
    have hs : ∀ z : List UInt8, sizesF ⟨(p ++ z).toArray⟩ 0 = (if isB ws wSizes 9 = true then (match numsB (ws.drop 1) with
      | none => .error (0 + 1, 3)
      | some l => .ok (l, ⟨(p' ++ z).toArray⟩, 0 + 1)) else .error (0 + 1, 3)) := fun z => by
      unfold sizesF
      rw [hnx]
      rfl
    unfold parseF at h ⊢
    rw [hs] at h ⊢
    by_cases hb : isB ws wSizes 9 = true
    · rw [if_pos hb] at h ⊢
      cases hm : numsB (ws.drop 1) with
      | none => rw [hm] at h; cases h
      | some l =>
        rw [hm] at h
        simp only at h ⊢
        cases hq : rowsG ((⟨(p' ++ r).toArray⟩ : ByteArray).size + 1) ⟨(p' ++ r).toArray⟩ (0 + 1) [] with
        | error e => rw [hq] at h; cases h
        | ok q =>
          obtain ⟨⟨rows, picks⟩, u2, l2⟩ := q
          rw [hq] at h
          simp only at h
          rcases rows_late _ p' r (0 + 1) [] _ _ _ hq hw' u ((⟨(p' ++ u).toArray⟩ : ByteArray).size + 1) (by rw [ba_size]; omega) with ⟨p2, h1⟩ | h1
          · exfalso
            have hne : u2 ≠ ⟨#[]⟩ := fun e => by
              rw [h1] at e
              have e2 := congrArg ByteArray.size e
              rw [ba_size, List.length_append] at e2
              have := List.length_pos_iff.2 hr
              have : (⟨#[]⟩ : ByteArray).size = 0 := rfl
              omega
            rw [if_neg hne] at h
            cases hz : nextF u2 with
            | none => rw [hz] at h; cases h
            | some wu => rw [hz] at h; cases h
          · have e : (0 : Int) + 1 + (p'.count 10 : Nat) = (p.count 10 : Nat) := by omega
            rw [e] at h1
            cases hv : rowsG ((⟨(p' ++ u).toArray⟩ : ByteArray).size + 1) ⟨(p' ++ u).toArray⟩ (0 + 1) [] with
            | error e2 =>
              obtain ⟨a, er⟩ := e2
              rw [hv] at h1
              right
              exact ⟨a, er, rfl, h1.1, h1.2⟩
            | ok q =>
              obtain ⟨⟨rows, picks⟩, u3, l3⟩ := q
              rw [hv] at h1
              simp only
              by_cases hz : u3 = ⟨#[]⟩
              · left
                exact ⟨⟨l, rows, picks⟩, h1.2, by rw [if_pos hz]⟩
              · right
                rw [if_neg hz]
                cases hy : nextF u3 with
                | none => exact ⟨l3 + 1, 5, rfl, by have := h1.1; omega, fun hu => absurd hu h1.2⟩
                | some wu => exact ⟨l3 + 1, 3, rfl, by have := h1.1; omega, fun hu => absurd hu h1.2⟩
    · rw [if_neg hb] at h
      cases h
end Go.Proofs.YtelpkajlejbbgaaGreatDoor
