/- What entries a range has, as the document says. -/
import Derived.Test.YtdbcaiggliiacaaW1
namespace Go.Proofs.Ytdbcaiggliiacaa
set_option linter.unusedSimpArgs false
open Go.RowKit Go.Maps
set_option linter.unusedVariables false
theorem lt_ne {a b : ByteArray} (h : lt a b = true) : (a.toList == b.toList) = false := by
  rw [beq_eq_false_iff_ne]; intro e; unfold lt at h; rw [e, bl_irr] at h; cases h
set_option maxHeartbeats 1000000 in
theorem find_at (A : Option Addr) (n c : Nat) (xs : List TT) (w : World) (hl : xs.length = n) (hn : n ≤ 1000000) (hA : RdT w A xs) (hr : PW xs) (p : Nat) (y : TT) (hp : xs[p]? = some y) :
    Calls Try.prog 37 #[.slice A n c, .string y.1] w fun e w' => e = .returned (.tuple #[.string y.2, .bool true]) ∧ w = w' := by
  have HL := Lib.hid hl
  have HA := Lib.hid hA
  have HR := Lib.hid hr
  have HP := Lib.hid hp
  have hpn : p < n := by rw [← hl]; exact (List.getElem?_eq_some_iff.1 hp).1
  clear hl hA hr hp
  obtain ⟨y0, y1⟩ := y
  go_enter Try.func37, Try.ntmps37
  go_wp2
  go_loopw [6] (fun kv wr => ∃ k : Nat, k ≤ p ∧ kv = .int .i64 k ∧ w = wr) (fun k _ => n - (intOf k).toNat)
  case atStart => exact ⟨0, by omega, rfl, rfl⟩
  case round =>
    obtain ⟨k, hk, rfl, rfl⟩ := hrel
    have hk1 : (k : Int) < (n : Int) := by omega
    have hk0 : (0 : Int) ≤ (k : Int) := by omega
    obtain ⟨x, hx⟩ : ∃ x, xs[k]? = some x := ⟨_, List.getElem?_eq_getElem (by rw [HL.out]; omega)⟩
    obtain ⟨b, off, rfl, hlt, g0, g1⟩ := rdt_get HA.out hx
    obtain ⟨x0, x1⟩ := x
    by_cases h8 : k = p
    · subst h8
      have e := HP.out
      rw [hx] at e
      cases e
      have he : (y0.toList == y0.toList) = true := by simp
      clear hx
      go_wp2
      exact bodyPost_ret (v := .tuple #[.string y1, .bool true]) (by simp [results, Try.results37, go_sem]) rfl ⟨rfl, rfl⟩
    · have he : (x0.toList == y0.toList) = false := lt_ne (by
        have h := HR.out
        unfold PW at h
        rw [List.pairwise_iff_getElem] at h
        obtain ⟨h1, e1⟩ := List.getElem?_eq_some_iff.1 hx
        obtain ⟨h2, e2⟩ := List.getElem?_eq_some_iff.1 HP.out
        have := h k p h1 h2 (by omega)
        rw [e1, e2] at this
        exact this)
      clear hx
      go_wp2
      exact ⟨⟨k + 1, by omega, by simp, by trivial⟩, by simp [intOf]; omega⟩
set_option maxHeartbeats 1000000 in
theorem value_nil (s v : ByteArray) (w : World) :
    Calls Try.prog 38 #[.slice none 0 0, .string s, .string v, .bool true] w fun e w' => e = .returned (.tuple #[.string v, .bool true]) ∧ w = w' := by
  go_enter Try.func38, Try.ntmps38
  go_wp2
  go_loopw [2, 3, 10] (fun vv bv kv wr => vv = .string v ∧ bv = .bool true ∧ kv = .int .i64 0 ∧ w = wr) (fun _ _ _ _ => 0)
  case atStart => exact ⟨rfl, rfl, rfl, rfl⟩
  case round =>
    obtain ⟨rfl, rfl, rfl, rfl⟩ := hrel
    go_wp2
    exact bodyPost_ret (v := .tuple #[.string v, .bool true]) (by simp [results, Try.results38, go_sem]) rfl ⟨rfl, rfl⟩
theorem heap_lt {w : World} {g : Nat} {o : Obj} (h : w.heap[g]? = some o) : g < w.heap.size := (Array.getElem?_eq_some_iff.1 h).1
theorem cells2w {W : World} {g : Nat} {u v : Value} {t : TypeId} (z : W.heap[g]? = some (.cells #[u, v] t (0, 0))) : W.cell? ⟨g, 0, none⟩ = some u ∧ W.cell? ⟨g, 1, none⟩ = some v := by
  simp [World.cell?, z]
/-- The entries that a range has. -/
def Fl (a b : ByteArray) (xs : List TT) : List TT := xs.filter fun x => has a b x.1
/-- Entries in memory, told by their number. -/
def NewE (w : World) (l : List TT) (e : Ending) (w' : World) : Prop := ∃ a N c, e = .returned (.slice (some a) N c) ∧ ET.Rd w' (some a) l ∧ l.length = N ∧ N ≤ c ∧ c ≤ maxLen ∧ Below w.heap.size w w' ∧ (0 < l.length → w.heap.size ≤ a.block)
set_option maxHeartbeats 2000000 in
theorem entries_any (A : Option Addr) (n c : Nat) (xs : List TT) (a b : ByteArray) (w : World) (hl : xs.length = n) (hn : n ≤ 900) (hA : RdT w A xs) (hr : PW xs) (hs : sb a b = true) :
    Calls Try.prog 18 #[.slice none 0 0, .slice A n c, .agg #[.string a, .string b]] w (NewE w (Fl a b xs)) := by
  have HL := Lib.hid hl
  have HA := Lib.hid hA
  have HR := Lib.hid hr
  have HS := Lib.hid hs
  have HX := Lib.hid (heap_alloc_new w (.cells #[.string a, .string b] 29))
  have HB := Lib.hid (alb w (.cells #[.string a, .string b] 29))
  have HB2 := Lib.hid (bel_alloc HB.out (.cells #[] 44))
  have HX2 : Hid (((w.alloc (.cells #[.string a, .string b] 29)).alloc (.cells #[] 44)).heap[w.heap.size]? = some (.cells #[.string a, .string b] 29 (0, 0))) := Lib.hid (keep_bel (alb _ _) HX.out)
  clear hl hA hr hs
  go_enter Try.func18, Try.ntmps18
  go_wp2_with (first
    | (go_at_call 36; ((with_reducible refine (named_any A n c xs _ HL.out hn (rdt_later HA.out HB2.out) HR.out).mono ?_); rintro e w1 ⟨ak, ck, rfl, r1, h1, h2, b1⟩; have K1 := Lib.hid r1; have X1 := Lib.hid (keep_bel b1 HX2.out); have B1 := Lib.hid (bel_trans HB2.out b1); clear r1 h1 h2 b1))
    | fail)
  clear HX HB HB2 HX2
  go_loopw [7, 9] (fun ov iv wr => ∃ (k : Nat) (a2 : Addr) (N c2 : Nat), k ≤ n ∧ iv = .int .i64 k ∧ ov = .slice (some a2) N c2 ∧ ET.Row wr w1.heap.size (some a2) (Fl a b (xs.take k)) c2 ∧ (Fl a b (xs.take k)).length = N ∧ Below w1.heap.size w1 wr) (fun _ i _ => n - (intOf i).toNat)
  case atStart => exact ⟨0, _, 0, 0, Nat.zero_le _, rfl, rfl, RE.Row.nil, rfl, Below.refl _ _⟩
  case round =>
    obtain ⟨k, a2, N, c2, hk, rfl, rfl, hr2, hN, hb2⟩ := hrel
    have R2 := Lib.hid hr2
    have B2 := Lib.hid hb2
    have HN := Lib.hid hN
    have hN9 : N ≤ 900 := by rw [← hN]; exact Nat.le_trans (List.length_filter_le _ _) (by rw [List.length_take]; omega)
    clear hr2 hb2 hN
    by_cases h8 : k < n
    · have hk1 : (k : Int) < (n : Int) := by omega
      have hk0 : (0 : Int) ≤ (k : Int) := by omega
      obtain ⟨x, hx⟩ : ∃ x, xs[k]? = some x := ⟨_, List.getElem?_eq_getElem (by rw [HL.out]; omega)⟩
      obtain ⟨bk, ok, e, hlt, f0⟩ := es_get (K1.out.later B2.out) (i := k) (x := x.1) (by simp [kys, hx])
      cases e
      have FI := Lib.hid (find_at A n c xs wr HL.out (by omega) (rdt_later HA.out (bel_trans B1.out B2.out)) HR.out k x hx)
      have VN := Lib.hid (value_nil x.1 x.2 wr)
      have RR := Lib.hid (fun W => rright_any a b W)
      have HH := Lib.hid (fun W => rholds_any a b x.1 W)
      rw [HS.out] at RR
      obtain ⟨q0, q1⟩ := cells2w (keep_bel B2.out X1.out)
      have ef : Hid (Fl a b (xs.take (k + 1)) = Fl a b (xs.take k) ++ if has a b x.1 = true then [x] else []) := Lib.hid (by
        obtain ⟨h1, e1⟩ := List.getElem?_eq_some_iff.1 hx
        rw [List.take_succ_eq_append_getElem h1, e1]
        simp only [Fl, List.filter_append, List.filter_cons, List.filter_nil])
      have G0 := Lib.hid f0
      have Q0 := Lib.hid q0
      have Q1 := Lib.hid q1
      clear hx hlt
      obtain ⟨x0, x1⟩ := x
      simp only at FI VN HH f0 G0 ef
      cases hb : has a b x0 with
      | true =>
        rw [hb] at HH ef
        clear hb
        go_wp2_with (first
          | (go_at_call 37; ((with_reducible refine FI.out.mono ?_); rintro e w3 ⟨rfl, rfl⟩))
          | (go_at_call 38; ((with_reducible refine VN.out.mono ?_); rintro e w3 ⟨rfl, rfl⟩))
          | fail)
        go_region_law (first
          | (go_simp; go_at_call 12; ((with_reducible refine (RR.out _).mono ?_); rintro e w3 ⟨rfl, b3⟩; have B3 := Lib.hid (bel_dr b3); have q0' := bel_later B3.out Q0.out; have q1' := bel_later B3.out Q1.out; have f0' := bel_later B3.out G0.out; clear b3))
          | (go_simp; go_at_call 14; ((with_reducible refine (HH.out _).mono ?_); rintro e w4 ⟨rfl, b4⟩; have B4 := Lib.hid (bel_trans B3.out b4); have f1' := bel_later B4.out G0.out; clear b4))
          | fail)
        all_goals
          go_wp2_with (first
            | (at_builtin; go_loud (refine RE.wpList_put ET _ rfl (.tmp 55) (.tmp 62) rfl (base := w1.heap.size) (some a2) N c2 (Fl a b (xs.take k)) (some ⟨w4.heap.size, 0, none⟩) 1 1 [(x0, x1)] rfl rfl (R2.out.later (bel_alloc B4.out _)) HN.out (by omega) (Nat.le_trans B2.out.size (bel_alloc B4.out _).size) rfl (by omega) (RE.Rd.lit (E := ET) w4 44 [(x0, x1)] #[.string x0, .string x1] rfl) ?_; intro A3 c3 w5 r5 g5 o5; have R5 := Lib.hid r5; have B5 := Lib.hid ((bel_trans B2.out (bel_alloc B4.out (.cells #[.string x0, .string x1] 44))).trans (R2.out.below g5 (Nat.le_refl _) (bel_trans B2.out (bel_alloc B4.out (.cells #[.string x0, .string x1] 44))).size)); clear r5 g5 o5))
            | fail)
          obtain ⟨g3, rfl, _⟩ := R5.out.addr (by simp)
          exact ⟨⟨k + 1, _, N + 1, c3, by omega, by simp, rfl, by rw [ef.out]; exact R5.out, by rw [ef.out, List.length_append, HN.out]; rfl, B5.out⟩, by simp [intOf]; omega⟩
      | false =>
        rw [hb] at HH ef
        simp only [Bool.false_eq_true, if_false, List.append_nil] at ef
        clear hb
        go_wp2_with (first
          | (go_at_call 37; ((with_reducible refine FI.out.mono ?_); rintro e w3 ⟨rfl, rfl⟩))
          | (go_at_call 38; ((with_reducible refine VN.out.mono ?_); rintro e w3 ⟨rfl, rfl⟩))
          | fail)
        go_region_law (first
          | (go_simp; go_at_call 12; ((with_reducible refine (RR.out _).mono ?_); rintro e w3 ⟨rfl, b3⟩; have B3 := Lib.hid (bel_dr b3); have q0' := bel_later B3.out Q0.out; have q1' := bel_later B3.out Q1.out; have f0' := bel_later B3.out G0.out; clear b3))
          | (go_simp; go_at_call 14; ((with_reducible refine (HH.out _).mono ?_); rintro e w4 ⟨rfl, b4⟩; have B4 := Lib.hid (bel_trans B3.out b4); have f1' := bel_later B4.out G0.out; clear b4))
          | fail)
        all_goals
          go_wp2
          exact ⟨⟨k + 1, _, N, c2, by omega, by simp, rfl, by rw [ef.out]; exact R2.out.later B4.out, by rw [ef.out]; exact HN.out, bel_trans B2.out B4.out⟩, by simp [intOf]; omega⟩
    · have hk1 : ¬ (k : Int) < (n : Int) := by omega
      obtain rfl : k = n := by omega
      have hr : xs.take k = xs := List.take_of_length_le (by rw [HL.out]; omega)
      have R3 := Lib.hid R2.out
      have N3 := Lib.hid HN.out
      rw [hr] at R3 N3
      have B3 := Lib.hid (bel_trans B1.out B2.out)
      clear hr R2
      go_wp2
      go_ret
      exact ⟨a2, N, c2, rfl, R3.out.rd, N3.out, by rw [← N3.out]; exact R3.out.cap.1, R3.out.cap.2, B3.out, fun h => by
        obtain ⟨g, e, hg⟩ := R3.out.addr h
        cases e
        exact Nat.le_trans B1.out.size hg⟩
end Go.Proofs.Ytdbcaiggliiacaa
