/- Join: rows, one behind the other. -/
import Derived.Test.YtpijaphcknoobaaY1
import Derived.Test.YtpijaphcknoobaaM0
namespace Go.Proofs.Ytpijaphcknoobaa
set_option linter.unusedSimpArgs false
open Go.RowKit Go.Shelf
set_option linter.unusedVariables false
attribute [local go_sem] Oper.semAt_some

/-- A row that is handed to Join: none, or an iterator. -/
def IsRow (w0 : World) (r : Value × List TT) : Prop :=
  (r.1 = .nilFunc ∧ r.2 = []) ∨ ∃ g lb, r.1 = .func (.func g) #[] lb ∧ (∀ args w, (callFunc g args).run Try.prog w = .ok (.enter g args) w) ∧ SeqF Try.prog g lb enc r.2 w0
theorem IsRow.later {w0 w1 : World} {r : Value × List TT} (h : IsRow w0 r) (hb : Below w0.heap.size w0 w1) : IsRow w1 r := by
  rcases h with h | ⟨g, lb, h1, h2, h3⟩
  · exact .inl h
  · exact .inr ⟨g, lb, h1, h2, h3.later hb⟩
theorem run_nilnil (W : World) : Sem.run Try.prog (binOp BinOp.eql 31 Value.nilFunc Value.nilFunc) W = .ok (.bool true) W := by
  have h0 : ∀ d : Nat, (Op.equalIn (d + 1) 31 Value.nilFunc Value.nilFunc).run Try.prog W = .ok true W := fun d => by simp [Op.equalIn, run_underlying Try.underlying31]
  have h1 := h0 9999
  have e : Op.equal 31 Value.nilFunc Value.nilFunc = Op.equalIn (9999 + 1) 31 Value.nilFunc Value.nilFunc := rfl
  rw [← e] at h1
  simp [binOp, go_sem, h1]
set_option maxHeartbeats 1000000 in
theorem each_nil (ly : Nat) (w : World) : Calls Try.prog 31 #[.nilFunc, yv ly] w fun e W => e = .returned (.bool true) ∧ Below w.heap.size w W := by
  have hnil := run_nilnil
  have HB : Hid (Below w.heap.size w ((w.alloc (.cells #[yv ly] 51)).alloc (.cells #[.bool true] 4))) := Lib.hid (bel_alloc (bel_alloc (Below.refl _ _) _) _)
  go_enter Try.func31, Try.ntmps31
  go_wp2
  exact bodyPost_ret (v := .bool true) (by simp [results, Try.results31, go_sem]) rfl ⟨rfl, HB.out⟩
theorem each_row {w0 w : World} {r : Value × List TT} (hr : IsRow w0 r) (hb0 : Below w0.heap.size w0 w) {J Jx : Nat → (Nat → Prop) → World → Prop} (hJ : LocB w.heap.size J) (hJx : LocB w.heap.size Jx) {D : Nat → Prop} (hD : ∀ g, D g → w0.heap.size ≤ g) (hin : In D w) {ly : Nat}
    (hT : ∀ m k x D W, r.2[k]? = some x → J k D W → In D W → YieldAt Fence.wide m Try.prog ly (enc x) W (TellPost J Jx k D W)) (h0 : J 0 D w) :
    Calls Try.prog 31 #[r.1, yv ly] w (EachPost r.2.length J Jx D w) := by
  rcases hr with ⟨h1, h2⟩ | ⟨g, lb, h1, h2, h3⟩
  · rw [h1, h2]
    refine (each_nil _ w).mono fun e W ⟨he, hb⟩ => ⟨D, Gr.refl _ _ _, Chg.of_below hb, .inl ⟨he, hJ.bel h0 hb⟩⟩
  · rw [h1]
    exact callsIn_wide.1 (each_yield h2 h3 hb0 hJ hJx hD hin hT h0)
theorem flat_get {ls : List (List TT)} {k j : Nat} {ys : List TT} {x : TT} (h : ls[k]? = some ys) (hj : ys[j]? = some x) : ls.flatten[(ls.take k).flatten.length + j]? = some x := by
  obtain ⟨e1, _⟩ := set_split h ys
  generalize ls.take k = p at *
  rw [e1, List.flatten_append, List.flatten_cons, List.getElem?_append_right (by omega), Nat.add_sub_cancel_left, List.getElem?_append_left (List.getElem?_eq_some_iff.1 hj).1]
  exact hj
theorem flat_more {ls : List (List TT)} {k : Nat} {ys : List TT} (h : ls[k]? = some ys) : (ls.take (k + 1)).flatten.length = (ls.take k).flatten.length + ys.length := by
  obtain ⟨hk, e⟩ := List.getElem?_eq_some_iff.1 h
  rw [List.take_succ_eq_append_getElem hk, e]; simp
theorem flat_le (ls : List (List TT)) (k : Nat) : (ls.take k).flatten.length ≤ ls.flatten.length := by
  conv => rhs; rw [← List.take_append_drop k ls]
  rw [List.flatten_append, List.length_append]; omega
set_option maxRecDepth 100000 in
set_option maxHeartbeats 4000000 in
theorem join_seq (bx : Nat) (A : Option Addr) (c : Nat) (rows : List (Value × List TT)) (hn : rows.length ≤ 100000) (w0 : World) (hbx : Boxed w0 bx 64 (.slice A rows.length c)) (hR : Rd w0 w0.heap.size A (rows.map Prod.fst)) (hall : ∀ r ∈ rows, IsRow w0 r) :
    SeqF Try.prog 44 #[.pointer (some ⟨bx, 0, none⟩)] enc (rows.map Prod.snd).flatten w0 := by
  intro l J Jx W D hb hD hin hJ hJx hY h0
  refine (callsIn_wide (n := 3)).1 ?_
  have c1 := (boxed_later hbx hb).cell
  have HR : Hid (∀ V, Chg D W V → Rd V V.heap.size A (rows.map Prod.fst)) := Lib.hid (fun V hV => Rd.later hR (hb.trans (hV.below hD hb.size)))
  have HA := Lib.hid hall
  have HB := Lib.hid hb
  have HD := Lib.hid hD
  have HJ := Lib.hid hJ
  have HJX := Lib.hid hJx
  have HY := Lib.hid hY
  have H0 := Lib.hid h0
  have HI := Lib.hid hin
  clear hbx hR hb hD hJ hJx hY h0 hin hall
  refine callsIn_of_wp Try.func44 rfl trivial ?_ rfl
  simp only [Try.ntmps44, List.size_toArray, List.length_cons, List.length_nil, Nat.reduceAdd, Nat.reduceSub, Array.replicate_succ, Array.replicate_zero, List.push_toArray, List.append_toArray, List.nil_append, List.cons_append]
  gi_wp2
  gi_loopw [7] (fun iv wr => ∃ (k : Nat) (E : Nat → Prop), k ≤ rows.length ∧ iv = .int .i64 k ∧ J ((rows.map Prod.snd).take k).flatten.length E wr ∧ Gr D E W wr ∧ Chg D W wr) (fun i _ => rows.length - (intOf i).toNat)
  case atStart => exact ⟨0, D, Nat.zero_le _, rfl, H0.out, Gr.refl _ _ _, Chg.refl _ _⟩
  case round =>
    obtain ⟨k, E, hk, rfl, hj, hgr, hch⟩ := hrel
    have HGR := Lib.hid hgr
    have HCH := Lib.hid hch
    have HJK := Lib.hid hj
    clear hgr hch hj
    by_cases hlt : k < rows.length
    · obtain ⟨r, hr⟩ : ∃ r, rows[k]? = some r := ⟨_, List.getElem?_eq_getElem hlt⟩
      have hr1 : (rows.map Prod.fst)[k]? = some r.1 := by rw [List.getElem?_map, hr]; rfl
      have hr2 : (rows.map Prod.snd)[k]? = some r.2 := by rw [List.getElem?_map, hr]; rfl
      obtain ⟨b, off, rfl, hbl, g0⟩ := Rd.get (HR.out wr HCH.out) hr1
      have HM := Lib.hid (flat_more hr2)
      have HLE := Lib.hid (flat_le (rows.map Prod.snd) (k + 1))
      have EA := Lib.hid (each_row (HA.out r (List.mem_of_getElem? hr)) (w := wr) (HB.out.trans (HCH.out.below HD.out HB.out.size))
        (J := fun j => J (((rows.map Prod.snd).take k).flatten.length + j)) (Jx := fun j => Jx (((rows.map Prod.snd).take k).flatten.length + j))
        (fun s D V V' h1 h2 => (HJ.out.more HCH.out.size) _ D V V' h1 h2) (fun s D V V' h1 h2 => (HJX.out.more HCH.out.size) _ D V V' h1 h2)
        (D := E) (fun g hg => (HGR.out g hg).elim (HD.out g) (fun x => Nat.le_trans HB.out.size x.1)) (HI.out.gr HGR.out HCH.out.size) (ly := l)
        (fun m j x D' V hx hj hi => HY.out m _ x D' V (flat_get hr2 hx) hj hi) HJK.out)
      have hk1 : (k : Int) < (rows.length : Int) := by omega
      have hk0 : (0 : Int) ≤ (k : Int) := by omega
      have hk9 : (k : Int) ≤ 100000 := by omega
      clear hr hr1 hr2
      gi_wp2_with fail
      refine ⟨trivial, (callsIn_wide.2 EA.out).mono ?_⟩
      rintro e W3 ⟨E2, hg2, hc2, (⟨rfl, hj⟩ | ⟨rfl, j, hjn, hj⟩)⟩
      · have HG := Lib.hid (gc_step HGR.out HCH.out (Below.refl _ _) hg2 hc2)
        have HJ3 := Lib.hid hj
        clear hg2 hc2 hj
        gi_wp2
        go_roundw
        case rel => exact ⟨k + 1, E2, by omega, by simp, by rw [HM.out]; exact HJ3.out, HG.out.1, HG.out.2⟩
        case measure => simp [intOf]; omega
      · have HG := Lib.hid (gc_step HGR.out HCH.out (Below.refl _ _) hg2 hc2)
        have HJ3 := Lib.hid hj
        clear hg2 hc2 hj
        gi_wp2
        refine bodyPost_ret (results_none rfl _ _ _) rfl ?_
        exact ⟨⟨_, rfl⟩, E2, HG.out.1, HG.out.2, .inr ⟨_, by have h1 := HM.out; have h2 := HLE.out; omega, HJ3.out⟩⟩
    · have hk1 : ¬ (k : Int) < (rows.length : Int) := by omega
      have e : (rows.map Prod.snd).take k = rows.map Prod.snd := List.take_of_length_le (by simp; omega)
      have HE := Lib.hid e
      clear e
      gi_wp2
      go_end0
      exact ⟨⟨_, rfl⟩, E, HGR.out, HCH.out, .inl (by have h := HJK.out; rw [HE.out, List.length_flatten, List.map_map] at h; exact h)⟩
theorem join_any (A : Option Addr) (c n : Nat) (rows : List (Value × List TT)) (hl : rows.length = n) (hn : rows.length ≤ 100000) (w : World) (hR : Rd w w.heap.size A (rows.map Prod.fst)) (hall : ∀ r ∈ rows, IsRow w r) :
    Calls Try.prog 23 #[.slice A n c] w (SeqBack Try.prog 44 w (rows.map Prod.snd).flatten) := by
  subst hl
  have hb : Below w.heap.size w (w.alloc (.cells #[.slice A rows.length c] 64)) := bel_alloc (Below.refl _ _) _
  have S := Lib.hid (join_seq w.heap.size A c rows hn (w.alloc (.cells #[.slice A rows.length c] 64)) (Boxed.new _ _ _) (Rd.later hR hb) (fun r hr => (hall r hr).later hb))
  have HB := Lib.hid hb
  clear hb hR hall
  go_enter Try.func23, Try.ntmps23
  go_wp2
  exact bodyPost_ret (v := .func (.func 44) #[] #[.pointer (some ⟨w.heap.size, 0, none⟩)]) (by simp [results, Try.results23, go_sem]) rfl ⟨_, rfl, HB.out, S.out⟩
end Go.Proofs.Ytpijaphcknoobaa
