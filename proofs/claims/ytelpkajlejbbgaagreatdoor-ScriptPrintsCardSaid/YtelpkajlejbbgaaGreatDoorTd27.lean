/- Texts of the proof, one behind the other. -/
import Derived.Test.YtelpkajlejbbgaaGreatDoorTd26
import Derived.Test.YtelpkajlejbbgaaGreatDoorTd25
set_option linter.unusedVariables false
set_option linter.unusedSimpArgs false
namespace Go.Proofs.YtelpkajlejbbgaaGreatDoor
open Go.RowKit Go.Maps
theorem nil_list : (⟨#[]⟩ : ByteArray).toList = [] := by decide +kernel
theorem nil_emp : emp ⟨#[]⟩ = true := by unfold emp; rw [nil_list]; rfl
theorem nums_back : ∀ {a : List ByteArray} {l : List Int}, numsB a = some l → a = l.map itoaB ∧ ∀ v ∈ l, inR v = true
  | [], l, h => by unfold numsB at h; cases h; exact ⟨rfl, by simp⟩
  | t :: ts, l, h => by
    unfold numsB at h
    obtain ⟨v, hv, h2⟩ := Option.bind_eq_some_iff.1 h
    obtain ⟨l2, h3, rfl⟩ := Option.map_eq_some_iff.1 h2
    obtain ⟨e1, e2⟩ := nums_back h3
    obtain ⟨f1, f2, _⟩ := num_back hv
    refine ⟨by rw [List.map_cons, f1, ← e1], ?_⟩
    intro y hy
    rcases List.mem_cons.1 hy with rfl | hy
    · exact f2
    · exact e2 y hy
theorem head_words {ws : List ByteArray} {a : ByteArray} (h : ws[0]? = some a) : ws = a :: ws.drop 1 := by
  cases ws with
  | nil => simp at h
  | cons x xs => simp at h; subst h; rfl
theorem is_w1 {ws : List ByteArray} {x : ByteArray} (h : isB ws x 1 = true) : ws = [x, wdA ws 1] := by
  obtain ⟨h0, hl⟩ := isB_true h
  match ws, hl with
  | [a, b], _ => simp at h0; subst h0; rfl
theorem is_w2 {ws : List ByteArray} {x : ByteArray} (h : isB ws x 2 = true) : ws = [x, wdA ws 1, wdA ws 2] := by
  obtain ⟨h0, hl⟩ := isB_true h
  match ws, hl with
  | [a, b, c], _ => simp at h0; subst h0; rfl
theorem is_w3 {ws : List ByteArray} {x : ByteArray} (h : isB ws x 3 = true) : ws = [x, wdA ws 1, wdA ws 2, wdA ws 3] := by
  obtain ⟨h0, hl⟩ := isB_true h
  match ws, hl with
  | [a, b, c, d], _ => simp at h0; subst h0; rfl
theorem wda_sz {ws : List ByteArray} {n : Nat} (h : ∀ x ∈ ws, x.size ≤ n) (i : Nat) : (wdA ws i).size ≤ n := by
  unfold wdA
  rcases hx : ws[i]? with _ | x
  · exact Nat.zero_le _
  · exact h x (List.mem_of_getElem? hx)
theorem msg_back {ws : List ByteArray} {m : M} (h : msgW ws = some m) (hs : ∀ i, (wdA ws i).size ≤ 900000) : ws = mWords m ∧ MFm m ∧ MOk m := by
  have z : (⟨#[]⟩ : ByteArray).size ≤ 900000 := by decide
  unfold msgW at h
  split at h
  · rename_i hi
    obtain ⟨k, hk, h2⟩ := Option.bind_eq_some_iff.1 h
    obtain ⟨v, hv, rfl⟩ := Option.map_eq_some_iff.1 h2
    refine ⟨?_, ⟨rfl, ?_⟩, .inl rfl, Nat.le_trans (txt_size hk) (hs 1), z, Nat.le_trans (txt_size hv) (hs 2), by simp, by simp⟩
    · rw [is_w2 hi]
      show _ = [wPut, tokB k, tokB v]
      rw [txt_back hk, txt_back hv]
    · unfold mF
      simp only [nil_list]
      repeat' split
      all_goals first | decide | simp_all
  · split at h
    · rename_i hi
      obtain ⟨k, hk, rfl⟩ := Option.map_eq_some_iff.1 h
      refine ⟨?_, ⟨rfl, ?_⟩, .inr (.inl rfl), Nat.le_trans (txt_size hk) (hs 1), z, z, by simp, by simp⟩
      · rw [is_w1 hi]
        show _ = [wDel, tokB k]
        rw [txt_back hk]
      · unfold mF
        simp only [nil_list]
        repeat' split
        all_goals first | decide | simp_all
    · split at h
      · rename_i hi
        obtain ⟨d, hd, h2⟩ := Option.bind_eq_some_iff.1 h
        obtain ⟨k, hk, rfl⟩ := Option.map_eq_some_iff.1 h2
        obtain ⟨hd1, hd2⟩ := del_back hd
        refine ⟨?_, ⟨rfl, ?_⟩, .inr (.inr (.inl rfl)), Nat.le_trans (txt_size hk) (hs 1), z, z, by simp, by simp; omega⟩
        · rw [is_w2 hi]
          show _ = [wAdd, tokB k, utoaB (d : Int).toNat]
          rw [txt_back hk, Int.toNat_natCast, hd1]
        · unfold mF
          simp only [nil_list]
          repeat' split
          all_goals first | decide | simp_all
      · split at h
        · rename_i hi
          obtain ⟨k, hk, h2⟩ := Option.bind_eq_some_iff.1 h
          obtain ⟨v, hv, rfl⟩ := Option.map_eq_some_iff.1 h2
          refine ⟨?_, ⟨rfl, ?_⟩, .inr (.inr (.inr rfl)), Nat.le_trans (txt_size hk) (hs 1), Nat.le_trans (txt_size hv) (hs 2), z, by simp, by simp⟩
          · rw [is_w2 hi]
            show _ = [wClr, tokB k, tokB v]
            rw [txt_back hk, txt_back hv]
          · unfold mF
            simp only [nil_list]
            repeat' split
            all_goals first | decide | simp_all
        · cases h
theorem next_list {t u : ByteArray} {ws : List ByteArray} (h : nextF t = some (ws, u)) : t.data.toList = lineL ws ++ u.data.toList := by
  obtain ⟨_, _, _, h4, _⟩ := next_facts h
  rw [h4]
  unfold lineL
  simp
theorem batch_back : ∀ (n : Nat) (t : ByteArray) (ln : Int) (acc l : List M) (u : ByteArray) (k : Int), batchF n t ln acc = .ok (l, u, k) → t.size ≤ 900000 → ∃ ms, l = acc ++ ms ∧ ms.length = n ∧ t.data.toList = msL ms ++ u.data.toList ∧ ∀ m ∈ ms, MFm m ∧ MOk m
  | 0, t, ln, acc, l, u, k, h, ht => by
    unfold batchF at h
    cases h
    exact ⟨[], by simp, rfl, rfl, by simp⟩
  | n + 1, t, ln, acc, l, u, k, h, ht => by
    unfold batchF at h
    cases hn : nextF t with
    | none => rw [hn] at h; cases h
    | some wu =>
      obtain ⟨ws, v⟩ := wu
      rw [hn] at h
      simp only at h
      have hl := next_list hn
      obtain ⟨_, f2, f3, _, _⟩ := next_facts hn
      cases hm : msgW ws with
      | none => rw [hm] at h; cases h
      | some m =>
        rw [hm] at h
        simp only at h
        obtain ⟨g1, g2, g3⟩ := msg_back hm (wda_sz (fun x hx => Nat.le_trans (f3 x hx) ht))
        obtain ⟨ms, e1, e2, e3, e4⟩ := batch_back n v (ln + 1) (acc ++ [m]) l u k h (by omega)
        refine ⟨m :: ms, by rw [e1]; simp, by simp [e2], ?_, ?_⟩
        · rw [hl, e3, g1]
          show _ = (lineL (mWords m) ++ msL ms) ++ _
          rw [← g1]
          simp
        · intro y hy
          rcases List.mem_cons.1 hy with rfl | hy
          · exact ⟨g2, g3⟩
          · exact e4 y hy
theorem op_back {ws : List ByteArray} {o : OpV} (h : opW ws = some o) (hs : ∀ i, (wdA ws i).size ≤ 900000) : lineL ws = opL o ∧ OFm o ∧ OOk o ∧ o.ms.length ≤ 2048 := by
  have z : (⟨#[]⟩ : ByteArray).size ≤ 900000 := by decide
  have e0 : inR 0 = true := by decide
  unfold opW at h
  split at h
  · rename_i hi
    obtain ⟨k, hk, rfl⟩ := Option.map_eq_some_iff.1 h
    refine ⟨?_, ⟨e0, ?_, by simp⟩, ⟨by simp, Nat.le_trans (txt_size hk) (hs 1), z, by simp, by simp, by simp⟩, by simp⟩
    · rw [is_w1 hi]
      show _ = lineL [wGet, tokB k]
      rw [txt_back hk]
    · unfold opureB; simp [nil_emp]
  · split at h
    · rename_i hi
      obtain ⟨k, hk, h2⟩ := Option.bind_eq_some_iff.1 h
      obtain ⟨t, ht, h3⟩ := Option.bind_eq_some_iff.1 h2
      obtain ⟨n, hn, rfl⟩ := Option.map_eq_some_iff.1 h3
      obtain ⟨q1, q2, q3, q4⟩ := num_back hn
      refine ⟨?_, ⟨q2, ?_, by simp⟩, ⟨by simp, Nat.le_trans (txt_size hk) (hs 1), Nat.le_trans (txt_size ht) (hs 2), ⟨q3, q4⟩, by simp, by simp⟩, by simp⟩
      · rw [is_w3 hi]
        show _ = lineL [wLook, tokB k, tokB t, itoaB n]
        rw [txt_back hk, txt_back ht, q1]
      · unfold opureB; simp [nil_emp]
    · split at h
      · rename_i hi
        obtain ⟨k, hk, h2⟩ := Option.bind_eq_some_iff.1 h
        obtain ⟨t, ht, rfl⟩ := Option.map_eq_some_iff.1 h2
        refine ⟨?_, ⟨e0, ?_, by simp⟩, ⟨by simp, Nat.le_trans (txt_size hk) (hs 1), Nat.le_trans (txt_size ht) (hs 2), by simp, by simp, by simp⟩, by simp⟩
        · rw [is_w2 hi]
          show _ = lineL [wOpen, tokB k, tokB t]
          rw [txt_back hk, txt_back ht]
        · unfold opureB; simp [nil_emp]
      · split at h
        · rename_i hi
          obtain ⟨n, hn, rfl⟩ := Option.map_eq_some_iff.1 h
          obtain ⟨q1, q2, q3, q4⟩ := num_back hn
          refine ⟨?_, ⟨q2, ?_, by simp⟩, ⟨by simp, z, z, ⟨q3, q4⟩, by simp, by simp⟩, by simp⟩
          · rw [is_w1 hi]
            show _ = lineL [wNext, itoaB n]
            rw [q1]
          · unfold opureB; simp [nil_emp]
        · split at h
          · rename_i hi
            obtain ⟨n, hn, rfl⟩ := Option.map_eq_some_iff.1 h
            obtain ⟨q1, q2, q3, q4⟩ := num_back hn
            refine ⟨?_, ⟨q2, ?_, by simp⟩, ⟨by simp, z, z, ⟨q3, q4⟩, by simp, by simp⟩, by simp⟩
            · rw [is_w1 hi]
              show _ = lineL [wClose, itoaB n]
              rw [q1]
            · unfold opureB; simp [nil_emp]
          · cases h
theorem opf_back {ws : List ByteArray} {t u : ByteArray} {ln l2 : Int} {o : OpV} (h : opF ws t ln = .ok (o, u, l2)) (hs : ∀ i, (wdA ws i).size ≤ 900000) (ht : t.size ≤ 900000) : lineL ws ++ t.data.toList = opL o ++ u.data.toList ∧ OFm o ∧ OOk o ∧ o.ms.length ≤ 2048 := by
  have z : (⟨#[]⟩ : ByteArray).size ≤ 900000 := by decide
  unfold opF at h
  split at h
  · rename_i hi
    cases hb : batchR (wdA ws 1) t ln with
    | error e => rw [hb] at h; cases h
    | ok r =>
      obtain ⟨ms, u2, l3⟩ := r
      rw [hb] at h
      simp only at h
      cases h
      unfold batchR at hb
      cases hn : numB (wdA ws 1) with
      | none => rw [hn] at hb; cases hb
      | some n =>
        rw [hn] at hb
        simp only at hb
        split at hb
        · cases hb
        split at hb
        · cases hb
        rename_i h1 h2
        obtain ⟨q1, q2, q3, q4⟩ := num_back hn
        obtain ⟨ms2, e1, e2, e3, e4⟩ := batch_back n.toNat t ln [] ms u l2 hb ht
        rw [List.nil_append] at e1
        subst e1
        have hlen : (ms.length : Int) = n := by omega
        refine ⟨?_, ⟨(by decide : inR 0 = true), ?_, fun m hm => (e4 m hm).1⟩, ⟨by simp, z, z, by simp, by simp only; omega, fun m hm => (e4 m hm).2⟩, by simp only; omega⟩
        · rw [is_w1 hi, e3]
          show _ = (lineL [wSend, itoaB ms.length] ++ msL ms) ++ _
          rw [hlen, q1, List.append_assoc]
        · unfold opureB; simp [nil_emp]
  · cases hw : opW ws with
    | none => rw [hw] at h; cases h
    | some o2 =>
      rw [hw] at h
      simp only at h
      cases h
      obtain ⟨r1, r2, r3, r4⟩ := op_back hw hs
      exact ⟨by rw [r1], r2, r3, r4⟩
theorem op_ne (o : OpV) : opL o ≠ [] := by
  unfold opL
  repeat' split
  all_goals simp [line_ne]
theorem fm_long {α : Type} (f : α → List UInt8) (h : ∀ x, f x ≠ []) : ∀ (xs : List α), xs.length ≤ (xs.flatMap f).length
  | [] => Nat.zero_le _
  | x :: xs => by
    have ih := fm_long f h xs
    have := List.length_pos_iff.2 (h x)
    rw [List.flatMap_cons, List.length_append, List.length_cons]
    omega
theorem fm_mem {α : Type} (f : α → List UInt8) {xs : List α} {x : α} (h : x ∈ xs) : (f x).length ≤ (xs.flatMap f).length := by
  induction xs with
  | nil => cases h
  | cons y ys ih =>
    rw [List.flatMap_cons, List.length_append]
    rcases List.mem_cons.1 h with rfl | h
    · omega
    · have := ih h; omega
theorem join_long : ∀ (ps : List (List UInt8)), ps.length ≤ (Lib.join ps [32]).length + 1
  | [] => Nat.zero_le _
  | [p] => by simp
  | p :: q :: ps => by
    have ih := join_long (q :: ps)
    rw [join_two]
    simp only [List.length_append, List.length_cons] at ih ⊢
    omega
theorem line_long (ws : List ByteArray) : ws.length ≤ (lineL ws).length := by
  unfold lineL
  have := join_long (ws.map (·.data.toList))
  rw [List.length_map] at this
  rw [List.length_append]
  simp only [List.length_cons, List.length_nil]
  omega
theorem opf_le {ws : List ByteArray} {t u : ByteArray} {ln l2 : Int} {o : OpV} (h : opF ws t ln = .ok (o, u, l2)) : u.size ≤ t.size := (op_le h).1
def RGd (rows : List (List OpV)) : Prop := ∀ r ∈ rows, ∀ o ∈ r, OFm o ∧ OOk o ∧ o.ms.length ≤ 2048
theorem rows_snoc (pre : List (List OpV)) (os : List OpV) : rowsL (pre ++ [os]) = rowsL pre ++ (lineL [wSess] ++ opsL os) := by
  unfold rowsL
  rw [List.flatMap_append]
  simp
theorem ops_snoc (os : List OpV) (o : OpV) : opsL (os ++ [o]) = opsL os ++ opL o := by
  unfold opsL
  rw [List.flatMap_append]
  simp
theorem rows_back : ∀ (f : Nat) (t u : ByteArray) (ln k : Int) (acc rows : List (List OpV)) (picks : List Int), rowsG f t ln acc = .ok ((rows, picks), u, k) → t.size ≤ 900000 → RGd acc → RGd rows ∧ (∀ v ∈ picks, inR v = true) ∧ rowsL acc ++ t.data.toList = (rowsL rows ++ lineL (wPicks :: picks.map itoaB)) ++ u.data.toList
  | 0, t, u, ln, k, acc, rows, picks, h, ht, ha => by unfold rowsG at h; cases h
  | f + 1, t, u, ln, k, acc, rows, picks, h, ht, ha => by
    unfold rowsG at h
    cases hn : nextF t with
    | none => rw [hn] at h; cases h
    | some wu =>
      obtain ⟨ws, v⟩ := wu
      rw [hn] at h
      simp only at h
      have hl := next_list hn
      obtain ⟨f1, f2, f3, _, _⟩ := next_facts hn
      split at h
      · rename_i hw
        cases hm : numsB (ws.drop 1) with
        | none => rw [hm] at h; cases h
        | some l =>
          rw [hm] at h
          simp only at h
          cases h
          obtain ⟨g1, g2⟩ := nums_back hm
          have hw0 : ws[0]? = some wPicks := by rw [← hw]; exact wd_at f1
          refine ⟨ha, g2, ?_⟩
          rw [hl, head_words hw0, g1]
          simp
      · split at h
        · rename_i hw
          obtain ⟨hw, hwl⟩ := hw
          have hw0 : ws[0]? = some wSess := by rw [← hw]; exact wd_at f1
          have hws : ws = [wSess] := by
            rw [head_words hw0, List.drop_eq_nil_of_le (by omega)]
          obtain ⟨r1, r2, r3⟩ := rows_back f v u (ln + 1) k (acc ++ [[]]) rows picks h (by omega) (by
            intro r hr
            rcases List.mem_append.1 hr with hr | hr
            · exact ha r hr
            · simp at hr; subst hr; intro o ho; cases ho)
          refine ⟨r1, r2, ?_⟩
          rw [← r3, rows_snoc, hl, hws]
          show _ = (rowsL acc ++ (lineL [wSess] ++ [])) ++ _
          simp
        · split at h
          · cases h
          · rename_i hne
            cases ho : opF ws v (ln + 1) with
            | error e => rw [ho] at h; cases h
            | ok r =>
              obtain ⟨o, u2, l2⟩ := r
              rw [ho] at h
              simp only at h
              obtain ⟨g1, g2, g3, g4⟩ := opf_back ho (wda_sz (fun x hx => Nat.le_trans (f3 x hx) ht)) (by omega)
              rcases List.eq_nil_or_concat acc with hq | ⟨pre, os, hq⟩
              · exact absurd hq hne
              · rw [List.concat_eq_append] at hq
                subst hq
                rw [addLast_eq] at h
                have hu := opf_le ho
                obtain ⟨r1, r2, r3⟩ := rows_back f u2 u l2 k (pre ++ [os ++ [o]]) rows picks h (by omega) (by
                  intro r hr
                  rcases List.mem_append.1 hr with hr | hr
                  · exact ha r (List.mem_append_left _ hr)
                  · simp at hr
                    subst hr
                    intro o' ho'
                    rcases List.mem_append.1 ho' with ho' | ho'
                    · exact ha os (by simp) o' ho'
                    · simp at ho'; subst ho'; exact ⟨g2, g3, g4⟩)
                refine ⟨r1, r2, ?_⟩
                rw [← r3, rows_snoc, rows_snoc, ops_snoc, hl]
                simp only [List.append_assoc]
                rw [g1]
theorem parse_back {t : ByteArray} {x : ScV} (h : parseF t = .ok x) (ht : t.size ≤ 890000) : prL x = t.data.toList ∧ SFm x ∧ (∀ r ∈ x.rows, ∀ o ∈ r, OOk o) := by
  unfold parseF at h
  cases hs : sizesF t 0 with
  | error e => rw [hs] at h; cases h
  | ok r =>
    obtain ⟨cf, u, l⟩ := r
    rw [hs] at h
    simp only at h
    have hle := (sizes_le hs).1
    unfold sizesF at hs
    cases hn : nextF t with
    | none => rw [hn] at hs; cases hs
    | some wu =>
      obtain ⟨ws, v⟩ := wu
      rw [hn] at hs
      simp only at hs
      split at hs
      · rename_i hi
        cases hm : numsB (ws.drop 1) with
        | none => rw [hm] at hs; cases hs
        | some l9 =>
          rw [hm] at hs
          simp only at hs
          cases hs
          obtain ⟨g1, g2⟩ := nums_back hm
          cases hr : rowsG (u.size + 1) u (0 + 1) [] with
          | error e => rw [hr] at h; cases h
          | ok q =>
            obtain ⟨⟨rows, picks⟩, u2, l2⟩ := q
            rw [hr] at h
            simp only at h
            split at h
            · rename_i hu
              cases h
              subst hu
              obtain ⟨r1, r2, r3⟩ := rows_back _ u ⟨#[]⟩ _ l2 [] rows picks hr (by omega) (by intro r hr; cases hr)
              have hl := next_list hn
              have hpr : prL ⟨cf, rows, picks⟩ = t.data.toList := by
                show (lineL (wSizes :: cf.map itoaB) ++ rowsL rows) ++ lineL (wPicks :: picks.map itoaB) = _
                rw [hl, head_words (isB_true hi).1, g1]
                have r4 : u.data.toList = rowsL rows ++ lineL (wPicks :: picks.map itoaB) := by
                  have e0 : rowsL [] ++ u.data.toList = u.data.toList := rfl
                  rw [e0] at r3
                  rw [r3]
                  simp
                rw [r4]
                simp
              have hsz : (prL ⟨cf, rows, picks⟩).length ≤ 890000 := by rw [hpr, ba_len]; exact ht
              refine ⟨hpr, ⟨g2, r2, ?_, ?_, ?_, fun r hr o ho => ⟨(r1 r hr o ho).1, (r1 r hr o ho).2.2⟩⟩, fun r hr o ho => (r1 r hr o ho).2.1⟩
              · have := line_long (wPicks :: picks.map itoaB)
                unfold prL at hsz
                simp only [List.length_append, List.length_cons, List.length_map] at hsz this ⊢
                omega
              · have := fm_long (fun r => lineL [wSess] ++ opsL r) (fun r => by simp [line_ne]) rows
                unfold prL rowsL at hsz
                simp only [List.length_append] at hsz ⊢
                omega
              · intro r hr
                have h1 := fm_long opL op_ne r
                have h2 := fm_mem (fun r => lineL [wSess] ++ opsL r) hr
                unfold opsL at h2
                unfold prL rowsL opsL at hsz
                simp only [List.length_append] at hsz h2 ⊢
                omega
            · split at h <;> cases h
      · cases hs
end Go.Proofs.YtelpkajlejbbgaaGreatDoor
namespace Go.Proofs.YtelpkajlejbbgaaGreatDoor
open Go.RowKit Go.Maps
def liveT : ByteArray := ⟨(([115, 105, 122, 101, 115, 32, 50, 32, 56, 32, 52, 32, 48, 32, 52, 32, 50, 32, 57, 32, 49, 32, 49, 10, 115, 101, 115, 115, 105, 111, 110, 10, 115] : List UInt8) ++ [101, 110, 100, 32, 49, 10, 112, 117, 116, 32, 54, 49, 32, 45, 10, 103, 101, 116, 32, 54, 49, 10, 112, 105, 99, 107, 115, 32, 49, 32, 49, 32, 49, 10]).toArray⟩
def liveX : ScV := ⟨[2, 8, 4, 0, 4, 2, 9, 1, 1], [[⟨2, ⟨#[]⟩, ⟨#[]⟩, 0, [⟨1, 0, ⟨#[97]⟩, ⟨#[]⟩, ⟨#[]⟩, 0⟩]⟩, ⟨1, ⟨#[97]⟩, ⟨#[]⟩, 0, []⟩]], [1, 1, 1]⟩
theorem live_parse : parseF liveT = .ok liveX := by kernel_rfl
end Go.Proofs.YtelpkajlejbbgaaGreatDoor
namespace Go.Proofs.YtelpkajlejbbgaaGreatDoor
open Go.RowKit Go.Maps
theorem print_of {x : ScV} {v : Value} {w : World} (hg : GW w) (hR : ScR w x v) (hf : SFm x) (ho : ∀ r ∈ x.rows, ∀ o ∈ r, OOk o) (ht : (prL x).length ≤ 1048576) :
    Calls Tryz.prog 10 #[v] w fun e w' => e = .returned (.tuple #[.string ⟨(prL x).toArray⟩, .int .i64 0]) ∧ Below w.heap.size w w' := by
  obtain ⟨a0, a1, a2, a3, a4, a5, a6, a7, a8, A, c, B, d, hs, hcf, rfl, h1, h2, h3⟩ := hR.h
  obtain ⟨cf, rows, picks⟩ := x
  simp only at hcf h1 h2 h3
  subst hcf
  exact print_ok a0 a1 a2 a3 a4 a5 a6 a7 a8 A B _ c _ d hs rows picks w hg hf ho ht rfl rfl h1 h2 h3
theorem print_parsed {t : ByteArray} {x : ScV} {v : Value} {w : World} (h : parseF t = .ok x) (ht : t.size ≤ 890000) (hg : GW w) (hR : ScR w x v) :
    Calls Tryz.prog 10 #[v] w fun e w' => e = .returned (.tuple #[.string t, .int .i64 0]) ∧ Below w.heap.size w w' := by
  obtain ⟨h1, h2, h3⟩ := parse_back h ht
  refine (print_of hg hR h2 h3 (by rw [h1, ba_len]; omega)).mono fun e w' ⟨q1, q2⟩ => ⟨?_, q2⟩
  rw [q1, h1, ba_mk]
theorem ScR.later {w w' : World} {x : ScV} {v : Value} (h : ScR w x v) (hb : Below w.heap.size w w') : ScR w' x v := by
  obtain ⟨a0, a1, a2, a3, a4, a5, a6, a7, a8, A, c, B, d, hs, hcf, hv, h1, h2, h3⟩ := h.h
  exact ⟨a0, a1, a2, a3, a4, a5, a6, a7, a8, A, c, B, d, hs, hcf, hv, h1.later hb, h2.chg (Chg.of_below (D := fun _ => False) hb) (fun _ e => e), h3.later hb⟩
theorem cells11 {w : World} {g : Nat} {t : TypeId} {a0 a1 a2 a3 a4 a5 a6 a7 a8 a9 a10 : Value} (z : w.heap[g]? = some (.cells #[a0, a1, a2, a3, a4, a5, a6, a7, a8, a9, a10] t (0, 0))) : w.cell? ⟨g, 0, none⟩ = some a0 ∧ w.cell? ⟨g, 1, none⟩ = some a1 ∧ w.cell? ⟨g, 2, none⟩ = some a2 ∧ w.cell? ⟨g, 3, none⟩ = some a3 ∧ w.cell? ⟨g, 4, none⟩ = some a4 ∧ w.cell? ⟨g, 5, none⟩ = some a5 ∧ w.cell? ⟨g, 6, none⟩ = some a6 ∧ w.cell? ⟨g, 7, none⟩ = some a7 ∧ w.cell? ⟨g, 8, none⟩ = some a8 ∧ w.cell? ⟨g, 9, none⟩ = some a9 ∧ w.cell? ⟨g, 10, none⟩ = some a10 :=
  ⟨cellh z rfl, cellh z rfl, cellh z rfl, cellh z rfl, cellh z rfl, cellh z rfl, cellh z rfl, cellh z rfl, cellh z rfl, cellh z rfl, cellh z rfl⟩
theorem live_row {w : World} {A : Option Addr} {hs : List Hd} (h1 : EH.Rd w A hs) (h2 : RowsR w (fun _ => False) hs liveX.rows) : ∃ b off hA hc, A = some ⟨b, off, none⟩ ∧ b < w.heap.size ∧ w.cell? ⟨b, off, none⟩ = some (.slice hA 2 hc) := by
  have hl : hs.length = 1 := h2.1
  obtain ⟨h, hh⟩ : ∃ h, hs[0]? = some h := ⟨_, List.getElem?_eq_getElem (by omega)⟩
  obtain ⟨b, off, e, hlt, hc⟩ := h1.get hh
  obtain ⟨xs, q1, q2, q3⟩ := h2.2 0 h _ hh rfl
  obtain ⟨hA, hn, hc2⟩ := h
  simp only at q1 q2
  have q4 : xs.length = 2 := q3.1
  refine ⟨b, off, hA, hc2, e, hlt, ?_⟩
  have := hc 0 _ rfl
  rw [q1, q4] at this
  simpa [EH] using this
theorem live_p (w : World) (hg : GW w) : Calls Tryz.prog 16 #[.string liveT] w fun e w' => ∃ A c B d b off hA hc, e = .returned (.tuple #[.agg #[.int .i64 2, .int .i64 8, .int .i64 4, .int .i64 0, .int .i64 4, .int .i64 2, .int .i64 9, .int .i64 1, .int .i64 1, .slice A 1 c, .slice B 3 d], .int .i64 0, .int .i64 0]) ∧ ScR w' liveX (.agg #[.int .i64 2, .int .i64 8, .int .i64 4, .int .i64 0, .int .i64 4, .int .i64 2, .int .i64 9, .int .i64 1, .int .i64 1, .slice A 1 c, .slice B 3 d]) ∧ A = some ⟨b, off, none⟩ ∧ b < w'.heap.size ∧ w'.cell? ⟨b, off, none⟩ = some (.slice hA 2 hc) ∧ Below w.heap.size w w' := by
  refine (parse_any liveT (by decide) w hg).mono fun e w' h => ?_
  unfold ParseP at h
  rw [live_parse] at h
  obtain ⟨⟨v, he, hR⟩, hb⟩ := h
  have hR2 := hR
  obtain ⟨a0, a1, a2, a3, a4, a5, a6, a7, a8, A, c, B, d, hs, hcf, rfl, h1, h2, h3⟩ := hR.h
  have hcf2 : ([2, 8, 4, 0, 4, 2, 9, 1, 1] : List Int) = [a0, a1, a2, a3, a4, a5, a6, a7, a8] := hcf
  simp only [List.cons.injEq, and_true] at hcf2
  obtain ⟨rfl, rfl, rfl, rfl, rfl, rfl, rfl, rfl, rfl⟩ := hcf2
  obtain ⟨b, off, hA, hc, e1, e2, e3⟩ := live_row h1 h2
  exact ⟨A, c, B, d, b, off, hA, hc, he, hR2, e1, e2, e3, hb⟩
set_option maxHeartbeats 4000000 in
set_option maxRecDepth 100000 in
theorem live_any (w : World) (hg : GW w) : Calls Tryz.prog 9 #[] w fun e w' => e = .returned (.bool true) ∧ Below w.heap.size w w' := by
  have HG := Lib.hid (GB.of hg)
  have LP := Lib.hid (live_p w hg)
  clear hg
  have PP := Lib.hid (fun V v (h1 : GW V) (h2 : ScR V liveX v) => print_parsed live_parse (by decide) h1 h2)
  have hS : (⟨(([115, 105, 122, 101, 115, 32, 50, 32, 56, 32, 52, 32, 48, 32, 52, 32, 50, 32, 57, 32, 49, 32, 49, 10, 115, 101, 115, 115, 105, 111, 110, 10, 115] : List UInt8).append [101, 110, 100, 32, 49, 10, 112, 117, 116, 32, 54, 49, 32, 45, 10, 103, 101, 116, 32, 54, 49, 10, 112, 105, 99, 107, 115, 32, 49, 32, 49, 32, 49, 10]).toArray⟩ : ByteArray) = liveT := rfl
  go_enter Tryz.func9, Tryz.ntmps9
  go_upto_region 2 with fail
  rw [hS]
  clear hS
  generalize liveT = S at LP PP ⊢
  go_upto_region 3 with (first
    | (go_at_call 16; ((refine LP.out.mono ?_); rintro e w1 ⟨A, c, B, d, b, off, hA, hc, rfl, hR, rfl, hlt, hcl, b1⟩; have B1 := Lib.hid b1; have R1 := Lib.hid hR; have C1 := Lib.hid hcl; have L1 := Lib.hid hlt; clear b1 hR hcl hlt))
    | fail)
  obtain ⟨W2, hW2⟩ : ∃ W2, W2 = w1.alloc (.cells #[.int .i64 2, .int .i64 8, .int .i64 4, .int .i64 0, .int .i64 4, .int .i64 2, .int .i64 9, .int .i64 1, .int .i64 1, .slice (some ⟨b, off, none⟩) 1 c, .slice B 3 d] 27) := ⟨_, rfl⟩
  have B2 := Lib.hid (show Below w.heap.size w W2 by rw [hW2]; exact bel_alloc B1.out _)
  have Z2 := Lib.hid (show W2.heap[w1.heap.size]? = some (.cells #[.int .i64 2, .int .i64 8, .int .i64 4, .int .i64 0, .int .i64 4, .int .i64 2, .int .i64 9, .int .i64 1, .int .i64 1, .slice (some ⟨b, off, none⟩) 1 c, .slice B 3 d] 27) by rw [hW2]; exact heap_alloc_new w1 _)
  have R2 := Lib.hid (show ScR W2 liveX _ by rw [hW2]; exact R1.out.later (alb w1 _))
  have C2 := Lib.hid (show W2.cell? ⟨b, off, none⟩ = some (.slice hA 2 hc) by rw [hW2]; exact bel_later (alb w1 _) C1.out)
  rw [← hW2]
  clear hW2
  obtain ⟨c0, c1, c2, c3, c4, c5, c6, c7, c8, c9, c10⟩ := cells11 Z2.out
  go_upto_region 4 with (first
    | (go_at_call 10; ((refine (PP.out _ _ (HG.out.later B2.out).gw R2.out).mono ?_); rintro e w3 ⟨rfl, b3⟩; have B3 := Lib.hid b3; clear b3))
    | fail)
  clear c0 c1 c2 c3 c4 c5 c6 c7 c8 c9 c10
  obtain ⟨c0, c1, c2, c3, c4, c5, c6, c7, c8, c9, c10⟩ := cells11 (keep_bel B3.out Z2.out)
  have g0 := bel_later B3.out C2.out
  have HB := Lib.hid (bel_trans B2.out B3.out)
  go_wp2
  refine bodyPost_ret (v := .bool true) (by simp [results, Tryz.results9, go_sem]) rfl ⟨rfl, HB.out⟩
end Go.Proofs.YtelpkajlejbbgaaGreatDoor
