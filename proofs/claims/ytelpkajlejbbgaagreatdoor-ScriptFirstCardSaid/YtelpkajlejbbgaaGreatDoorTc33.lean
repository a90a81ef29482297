/- Texts of the proof, one behind the other. -/
import Derived.Test.YtelpkajlejbbgaaGreatDoorTc32
import Derived.Test.YtelpkajlejbbgaaGreatDoorTc27
set_option linter.unusedVariables false
set_option linter.unusedSimpArgs false
namespace Go.Proofs.YtelpkajlejbbgaaGreatDoor
open Go.RowKit Go.Maps
/-- The starts of the lines, and of what is behind them, as far as a text is gone through. -/
def StartsP (T : List UInt8) (i q : Nat) (l : List Int) : Prop := l.length = q + 1 ∧ (T.take i).count 10 = q ∧ ∀ (j : Nat) v, l[j]? = some v → ∃ a : Nat, v = (a : Int) ∧ a ≤ i ∧ Wh (T.take a) ∧ (T.take a).count 10 = j
theorem starts_zero (T : List UInt8) : StartsP T 0 0 [0] := by
  refine ⟨rfl, rfl, fun j v h => ?_⟩
  cases j with
  | zero => simp at h; exact ⟨0, by rw [← h]; rfl, Nat.le_refl _, .inl rfl, rfl⟩
  | succ j => simp at h
theorem take_nl {T : List UInt8} {i : Nat} {x : UInt8} (h : T[i]? = some x) : T.take (i + 1) = T.take i ++ [x] := by rw [List.take_add_one, h]; rfl
theorem starts_nl {T : List UInt8} {i q : Nat} {l : List Int} (h : StartsP T i q l) (hx : T[i]? = some 10) : StartsP T (i + 1) (q + 1) (l ++ [(i : Int) + 1]) := by
  obtain ⟨h1, h2, h3⟩ := h
  have hc : (T.take (i + 1)).count 10 = q + 1 := by rw [take_nl hx, List.count_append, h2]; rfl
  refine ⟨by simp [h1], hc, fun j v hj => ?_⟩
  rcases Nat.lt_or_ge j l.length with hl | hl
  · rw [List.getElem?_append_left hl] at hj
    obtain ⟨a, e, ha, hw, hk⟩ := h3 j v hj
    exact ⟨a, e, by omega, hw, hk⟩
  · rw [List.getElem?_append_right hl] at hj
    have hj0 : j = l.length := by
      have := (List.getElem?_eq_some_iff.1 hj).1
      simp at this
      omega
    subst hj0
    simp at hj
    exact ⟨i + 1, by rw [← hj]; rfl, Nat.le_refl _, .inr ⟨_, take_nl hx⟩, by rw [hc, h1]⟩
theorem starts_ot {T : List UInt8} {i q : Nat} {l : List Int} {x : UInt8} (h : StartsP T i q l) (hx : T[i]? = some x) (hn : ¬ x = 10) : StartsP T (i + 1) q l := by
  obtain ⟨h1, h2, h3⟩ := h
  refine ⟨h1, ?_, fun j v hj => ?_⟩
  · rw [take_nl hx, List.count_append, h2, List.count_singleton]
    simp [hn]
  · obtain ⟨a, e, ha, hw, hk⟩ := h3 j v hj
    exact ⟨a, e, by omega, hw, hk⟩
theorem starts_end {T : List UInt8} {q k : Nat} {l : List Int} (h : StartsP T T.length q l) (hk : k < q) : ∃ a b : Nat, l[k]? = some (a : Int) ∧ l[k + 1]? = some (b : Int) ∧ a < T.length ∧ b ≤ T.length ∧ Wh (T.take a) ∧ (T.take a).count 10 = k := by
  obtain ⟨h1, h2, h3⟩ := h
  obtain ⟨v, hv⟩ : ∃ v, l[k]? = some v := ⟨_, List.getElem?_eq_getElem (by omega)⟩
  obtain ⟨u, hu⟩ : ∃ v, l[k + 1]? = some v := ⟨_, List.getElem?_eq_getElem (by omega)⟩
  obtain ⟨a, e1, a1, a2, a3⟩ := h3 k v hv
  obtain ⟨b, e2, b1, b2, b3⟩ := h3 (k + 1) u hu
  subst e1 e2
  refine ⟨a, b, hv, hu, ?_, b1, a2, a3⟩
  rcases Nat.lt_or_ge a T.length with h | h
  · exact h
  · rw [List.take_of_length_le (by omega)] at h2
    rw [List.take_of_length_le h] at a3
    omega
theorem line_count (ws : List ByteArray) : 1 ≤ (lineL ws).count 10 := by
  unfold lineL
  rw [List.count_append]
  show 1 ≤ _ + 1
  omega
theorem pr_count (x : ScV) : 1 ≤ (prL x).count 10 := by
  unfold prL
  rw [List.count_append]
  have := line_count (wPicks :: x.picks.map itoaB)
  omega
/-- Some of a script's lines, and others behind them: what is told. -/
theorem parse_cut {x : ScV} {T : List UInt8} (h : parseF ⟨T.toArray⟩ = .ok x) {a : Nat} (ha : a < T.length) (hw : Wh (T.take a)) (u : List UInt8) (hu : (T.take a ++ u).length ≤ 890000) :
    ∃ ln er : Int, ((ln = 0 ∧ er = 0 ∧ u ≠ []) ∨ (((T.take a).count 10 : Nat) + 1 ≤ ln ∧ ¬ er = 0 ∧ (u = [] → ln = ((T.take a).count 10 : Nat) + 1 ∧ er = 5))) ∧
      ∀ w, GW w → Calls Tryz.prog 16 #[.string ⟨(T.take a ++ u).toArray⟩] w fun e w' => ∃ a0 a1 a2 a3 a4 a5 a6 a7 a8 A n c B m d, e = .returned (.tuple #[.agg #[.int .i64 a0, .int .i64 a1, .int .i64 a2, .int .i64 a3, .int .i64 a4, .int .i64 a5, .int .i64 a6, .int .i64 a7, .int .i64 a8, .slice A n c, .slice B m d], .int .i64 ln, .int .i64 er]) ∧ Below w.heap.size w w' := by
  have hT : T = T.take a ++ T.drop a := (List.take_append_drop a T).symm
  have hr : T.drop a ≠ [] := List.length_pos_iff.1 (by rw [List.length_drop]; omega)
  have h' : parseF ⟨(T.take a ++ T.drop a).toArray⟩ = .ok x := by rw [← hT]; exact h
  have hp := fun w hg => parse_any ⟨(T.take a ++ u).toArray⟩ (by rw [ba_size]; exact hu) w hg
  rcases parse_late h' hr hw u with ⟨y, hne, hy⟩ | ⟨ln, er, he, h1, h2⟩
  · refine ⟨0, 0, .inl ⟨rfl, rfl, hne⟩, fun w hg => (hp w hg).mono fun e w' q => ?_⟩
    unfold ParseP at q
    rw [hy] at q
    obtain ⟨⟨v, e1, hR⟩, hb⟩ := q
    obtain ⟨a0, a1, a2, a3, a4, a5, a6, a7, a8, A, c, B, d, hs, hcf, rfl, _⟩ := hR.h
    exact ⟨a0, a1, a2, a3, a4, a5, a6, a7, a8, A, _, c, B, _, d, e1, hb⟩
  · have her := (parse_er he).2.2
    refine ⟨ln, er, .inr ⟨h1, by rcases her with rfl | rfl | rfl <;> decide, h2⟩, fun w hg => (hp w hg).mono fun e w' q => ?_⟩
    unfold ParseP at q
    rw [he] at q
    exact ⟨0, 0, 0, 0, 0, 0, 0, 0, 0, none, 0, 0, none, 0, 0, q.1, q.2⟩
theorem take_of_extract (T : ByteArray) (a : Nat) : (T.extract 0 a).data.toList = T.data.toList.take a := by
  rw [ByteArray.data_extract]
  simp
theorem drop_of_extract (T : ByteArray) (a : Nat) : (T.extract a T.size).data.toList = T.data.toList.drop a := by
  rw [ByteArray.data_extract, Array.toList_extract, List.extract_eq_take_drop]
  exact List.take_of_length_le (by rw [List.length_drop, ba_len]; exact Nat.le_refl _)
end Go.Proofs.YtelpkajlejbbgaaGreatDoor
namespace Go.Proofs.YtelpkajlejbbgaaGreatDoor
open Go.RowKit Go.Maps
theorem row_litI (w : World) (x : Int) : EI.Row (w.alloc (.cells #[.int .i64 x] 3)) w.heap.size (some ⟨w.heap.size, 0, none⟩) [x] 1 :=
  .inr ⟨by omega, rfl, .inr ⟨w.heap.size, 1, #[.int .i64 x], rfl, Nat.le_refl _, heap_alloc_new w _, Nat.le_refl _, by unfold maxLen; omega, rfl, rfl⟩⟩
theorem froz11 {w : World} {g : Nat} {t : TypeId} {a0 a1 a2 a3 a4 a5 a6 a7 a8 a9 a10 : Value} (h : w.heap[g]? = some (.cells #[a0, a1, a2, a3, a4, a5, a6, a7, a8, a9, a10] t (0, 0))) : w.frozen? ⟨g, 0, none⟩ = false ∧ w.frozen? ⟨g, 1, none⟩ = false ∧ w.frozen? ⟨g, 2, none⟩ = false ∧ w.frozen? ⟨g, 3, none⟩ = false ∧ w.frozen? ⟨g, 4, none⟩ = false ∧ w.frozen? ⟨g, 5, none⟩ = false ∧ w.frozen? ⟨g, 6, none⟩ = false ∧ w.frozen? ⟨g, 7, none⟩ = false ∧ w.frozen? ⟨g, 8, none⟩ = false ∧ w.frozen? ⟨g, 9, none⟩ = false ∧ w.frozen? ⟨g, 10, none⟩ = false := by
  refine ⟨?_, ?_, ?_, ?_, ?_, ?_, ?_, ?_, ?_, ?_, ?_⟩ <;> simp [World.frozen?, h]
/-- What is kept of a script that came in. -/
structure FK (w : World) (x : ScV) (a0 a1 a2 a3 a4 a5 a6 a7 a8 : Int) (A : Option Addr) (n c : Nat) (B : Option Addr) (m d : Nat) : Prop where
  r : ∀ W, Below w.heap.size w W → ScR W x (scA a0 a1 a2 a3 a4 a5 a6 a7 a8 A n c B m d)
  i : ScIn x
  g : GW w
  cf : x.cf = [a0, a1, a2, a3, a4, a5, a6, a7, a8]
  n : x.rows.length = n
  m : x.picks.length = m
theorem FK.live {w : World} {x : ScV} {a0 a1 a2 a3 a4 a5 a6 a7 a8 : Int} {A : Option Addr} {n c : Nat} {B : Option Addr} {m d : Nat} (h : FK w x a0 a1 a2 a3 a4 a5 a6 a7 a8 A n c B m d) : Hid (∀ W, Below w.heap.size w W → Calls Tryz.prog 9 #[] W fun e w' => e = .returned (.bool true) ∧ Below W.heap.size W w') := live_tup h.g
theorem FK.no {w : World} {x : ScV} {a0 a1 a2 a3 a4 a5 a6 a7 a8 : Int} {A : Option Addr} {n c : Nat} {B : Option Addr} {m d : Nat} (h : FK w x a0 a1 a2 a3 a4 a5 a6 a7 a8 A n c B m d) (hf : ¬ FewP x) : Hid (∀ W, Below w.heap.size w W → Calls Tryz.prog 8 #[.agg #[.int .i64 a0, .int .i64 a1, .int .i64 a2, .int .i64 a3, .int .i64 a4, .int .i64 a5, .int .i64 a6, .int .i64 a7, .int .i64 a8, .slice A n c, .slice B m d]] W fun e w' => e = .returned (.bool false) ∧ Below W.heap.size W w') := Lib.hid (fun W hW => few_no (h.r W hW) hf)
theorem FK.yes {w : World} {x : ScV} {a0 a1 a2 a3 a4 a5 a6 a7 a8 : Int} {A : Option Addr} {n c : Nat} {B : Option Addr} {m d : Nat} (h : FK w x a0 a1 a2 a3 a4 a5 a6 a7 a8 A n c B m d) (hf : FewP x) : Hid (∀ W, Below w.heap.size w W → Calls Tryz.prog 8 #[.agg #[.int .i64 a0, .int .i64 a1, .int .i64 a2, .int .i64 a3, .int .i64 a4, .int .i64 a5, .int .i64 a6, .int .i64 a7, .int .i64 a8, .slice A n c, .slice B m d]] W fun e w' => e = .returned (.bool true) ∧ Below W.heap.size W w') := Lib.hid (fun W hW => few_yes (h.r W hW) hf)
theorem FK.bad {w : World} {x : ScV} {a0 a1 a2 a3 a4 a5 a6 a7 a8 : Int} {A : Option Addr} {n c : Nat} {B : Option Addr} {m d : Nat} (h : FK w x a0 a1 a2 a3 a4 a5 a6 a7 a8 A n c B m d) (hf : FewP x) (hg : ¬ GoodS x) : Hid (∀ W, Below w.heap.size w W → Calls Tryz.prog 11 #[.agg #[.int .i64 a0, .int .i64 a1, .int .i64 a2, .int .i64 a3, .int .i64 a4, .int .i64 a5, .int .i64 a6, .int .i64 a7, .int .i64 a8, .slice A n c, .slice B m d]] W fun e w' => (∃ er : Int, (er = 3 ∨ er = 4) ∧ e = .returned (.tuple #[.string ⟨#[]⟩, .int .i64 er])) ∧ Below W.heap.size W w') := Lib.hid (fun W hW => (rprint_all (h.r W hW) hf h.i).mono fun e w' ⟨h1, h2⟩ => by
  refine ⟨?_, h2⟩
  rcases h1 with ⟨h1, _⟩ | h1
  · exact absurd h1 hg
  · exact h1)
theorem FK.ok {w : World} {x : ScV} {a0 a1 a2 a3 a4 a5 a6 a7 a8 : Int} {A : Option Addr} {n c : Nat} {B : Option Addr} {m d : Nat} (h : FK w x a0 a1 a2 a3 a4 a5 a6 a7 a8 A n c B m d) (hf : FewP x) (hg : GoodS x) : Hid (∀ W, Below w.heap.size w W → Calls Tryz.prog 11 #[.agg #[.int .i64 a0, .int .i64 a1, .int .i64 a2, .int .i64 a3, .int .i64 a4, .int .i64 a5, .int .i64 a6, .int .i64 a7, .int .i64 a8, .slice A n c, .slice B m d]] W fun e w' => e = .returned (.tuple #[.string ⟨(prL x).toArray⟩, .int .i64 0]) ∧ Below W.heap.size W w') := Lib.hid (fun W hW => rprint_good (h.r W hW) hf h.i hg)
theorem FK.parse {w : World} {x : ScV} {a0 a1 a2 a3 a4 a5 a6 a7 a8 : Int} {A : Option Addr} {n c : Nat} {B : Option Addr} {m d : Nat} (h : FK w x a0 a1 a2 a3 a4 a5 a6 a7 a8 A n c B m d) (hf : FewP x) (hg : GoodS x) : parseF ⟨(prL x).toArray⟩ = .ok x :=
  parse_fwd (sfm_of hf hg) (fun r hr o ho => ook_of (hg.2.1 r hr o ho).1 (osz_of (hf.op r hr o ho) (h.i.op r hr o ho))) (by rw [h.cf]; rfl)
set_option maxHeartbeats 2000000 in
set_option maxRecDepth 100000 in
theorem first_easy {x : ScV} {w : World} {a0 a1 a2 a3 a4 a5 a6 a7 a8 : Int} {A : Option Addr} {n c : Nat} {B : Option Addr} {m d : Nat} (h : FK w x a0 a1 a2 a3 a4 a5 a6 a7 a8 A n c B m d) (p : Nat) (hp : p ≤ 255) (s : ByteArray) (hno : ¬ (FewP x ∧ s.size ≤ 60 ∧ GoodS x ∧ (prL x).length ≤ 4000)) :
    Calls Tryz.prog 6 #[.agg #[.int .i64 a0, .int .i64 a1, .int .i64 a2, .int .i64 a3, .int .i64 a4, .int .i64 a5, .int .i64 a6, .int .i64 a7, .int .i64 a8, .slice A n c, .slice B m d], .int .u8 (p : Int), .string s] w fun e w' => e = .returned (.bool true) ∧ Below w.heap.size w w' := by
  have HLV := h.live
  obtain ⟨W1, hW1⟩ : ∃ W1, W1 = w.alloc (.cells #[.int .i64 a0, .int .i64 a1, .int .i64 a2, .int .i64 a3, .int .i64 a4, .int .i64 a5, .int .i64 a6, .int .i64 a7, .int .i64 a8, .slice A n c, .slice B m d] 27) := ⟨_, rfl⟩
  have B1 := Lib.hid (show Below w.heap.size w W1 by rw [hW1]; exact alb w _)
  have Z1 := Lib.hid (show W1.heap[w.heap.size]? = some (.cells #[.int .i64 a0, .int .i64 a1, .int .i64 a2, .int .i64 a3, .int .i64 a4, .int .i64 a5, .int .i64 a6, .int .i64 a7, .int .i64 a8, .slice A n c, .slice B m d] 27) by rw [hW1]; exact heap_alloc_new w _)
  obtain ⟨c0, c1, c2, c3, c4, c5, c6, c7, c8, c9, c10⟩ := cells11 Z1.out
  by_cases hf : FewP x
  rotate_left
  · have HF := h.no hf
    clear h hf hp hno
    go_enter Tryz.func6, Tryz.ntmps6
    go_upto_region 1 with fail
    rw [← hW1]
    clear hW1
    go_wp2_with (first
      | (go_at_call 8; ((with_reducible refine (HF.out _ B1.out).mono ?_); rintro e w2 ⟨rfl, b2⟩; have B2 := Lib.hid (bel_trans B1.out b2); clear b2))
      | (go_at_call 9; ((refine (HLV.out _ B2.out).mono ?_); rintro e w3 ⟨rfl, b3⟩; have B3 := Lib.hid (bel_trans B2.out b3); clear b3))
      | fail)
    exact bodyPost_ret (v := .bool true) (by simp [results, Tryz.results6, go_sem]) rfl ⟨rfl, B3.out⟩
  have HF := h.yes hf
  by_cases h60 : 60 < s.size
  · have k60 : (60 : Int) < (s.size : Int) := by omega
    clear h hf hp h60 hno
    go_enter Tryz.func6, Tryz.ntmps6
    go_upto_region 1 with fail
    rw [← hW1]
    clear hW1
    go_wp2_with (first
      | (go_at_call 8; ((with_reducible refine (HF.out _ B1.out).mono ?_); rintro e w2 ⟨rfl, b2⟩; have B2 := Lib.hid (bel_trans B1.out b2); clear b2))
      | (go_at_call 9; ((refine (HLV.out _ B2.out).mono ?_); rintro e w3 ⟨rfl, b3⟩; have B3 := Lib.hid (bel_trans B2.out b3); clear b3))
      | fail)
    exact bodyPost_ret (v := .bool true) (by simp [results, Tryz.results6, go_sem]) rfl ⟨rfl, B3.out⟩
  have k60 : ¬ (60 : Int) < (s.size : Int) := by omega
  by_cases hgd : GoodS x
  rotate_left
  · have HPR := h.bad hf hgd
    clear h hf hp h60 hgd hno
    go_enter Tryz.func6, Tryz.ntmps6
    go_upto_region 1 with fail
    rw [← hW1]
    clear hW1
    go_wp2_with (first
      | (go_at_call 8; ((with_reducible refine (HF.out _ B1.out).mono ?_); rintro e w2 ⟨rfl, b2⟩; have B2 := Lib.hid (bel_trans B1.out b2); obtain ⟨c0, c1, c2, c3, c4, c5, c6, c7, c8, c9, c10⟩ := cells11 (keep_bel b2 Z1.out); clear b2))
      | (go_at_call 11; ((with_reducible refine (HPR.out _ B2.out).mono ?_); rintro e w3 ⟨⟨er, her, rfl⟩, b3⟩; have B3 := Lib.hid (bel_trans B2.out b3); have er1 : ¬ er = 0 := (by rcases her with rfl | rfl <;> omega); clear b3 her))
      | (go_at_call 9; ((refine (HLV.out _ B3.out).mono ?_); rintro e w4 ⟨rfl, b4⟩; have B4 := Lib.hid (bel_trans B3.out b4); clear b4))
      | fail)
    exact bodyPost_ret (v := .bool true) (by simp [results, Tryz.results6, go_sem]) rfl ⟨rfl, B4.out⟩
  have HPR := h.ok hf hgd
  obtain ⟨T, hT⟩ : ∃ T : ByteArray, T = ⟨(prL x).toArray⟩ := ⟨_, rfl⟩
  have hTL : prL x = T.data.toList := by rw [hT]
  rw [← hT] at HPR
  by_cases h4 : 4000 < T.size
  · have k4 : (4000 : Int) < (T.size : Int) := by omega
    clear h hf hp h60 hgd h4 hTL hT hno
    go_enter Tryz.func6, Tryz.ntmps6
    go_upto_region 1 with fail
    rw [← hW1]
    clear hW1
    go_wp2_with (first
      | (go_at_call 8; ((with_reducible refine (HF.out _ B1.out).mono ?_); rintro e w2 ⟨rfl, b2⟩; have B2 := Lib.hid (bel_trans B1.out b2); obtain ⟨c0, c1, c2, c3, c4, c5, c6, c7, c8, c9, c10⟩ := cells11 (keep_bel b2 Z1.out); clear b2))
      | (go_at_call 11; ((with_reducible refine (HPR.out _ B2.out).mono ?_); rintro e w3 ⟨rfl, b3⟩; have B3 := Lib.hid (bel_trans B2.out b3); clear b3))
      | (go_at_call 9; ((refine (HLV.out _ B3.out).mono ?_); rintro e w4 ⟨rfl, b4⟩; have B4 := Lib.hid (bel_trans B3.out b4); clear b4))
      | fail)
    exact bodyPost_ret (v := .bool true) (by simp [results, Tryz.results6, go_sem]) rfl ⟨rfl, B4.out⟩
  exact absurd ⟨hf, by omega, hgd, by rw [hTL, ba_len]; omega⟩ hno
end Go.Proofs.YtelpkajlejbbgaaGreatDoor
