/- The document's side: Put. -/
import Derived.Test.YtfgohbhacldlmaaR2
namespace Go.Proofs.Ytfgohbhacldlmaa
set_option linter.unusedSimpArgs false
open Go.RowKit Go.Maps
set_option linter.unusedVariables false

theorem flp_app (a b : PL) : flp (a ++ b) = flp a ++ flp b := by simp [flp]
theorem flp_drop (L : PL) (i : Nat) : flp (L.drop i) = (flp L).drop (i * 2) := by
  induction L generalizing i with
  | nil => simp [flp]
  | cons x L ih =>
    cases i with
    | zero => simp
    | succ i =>
      have e : flp (x :: L) = .string x.1 :: .int .i64 x.2 :: flp L := rfl
      rw [e, show (i + 1) * 2 = i * 2 + 1 + 1 by omega]
      simpa using ih i
theorem flp_take (L : PL) (i : Nat) : flp (L.take i) = (flp L).take (i * 2) := by
  induction L generalizing i with
  | nil => simp [flp]
  | cons x L ih =>
    cases i with
    | zero => simp [flp]
    | succ i =>
      have e : flp (x :: L) = .string x.1 :: .int .i64 x.2 :: flp L := rfl
      have e2 : flp (x :: L.take i) = .string x.1 :: .int .i64 x.2 :: flp (L.take i) := rfl
      rw [e, show (i + 1) * 2 = i * 2 + 1 + 1 by omega, List.take_succ_cons, e2, ih i]
      simp
theorem news_take {w : World} {B : Nat} {a : Addr} {L : PL} (h : Rd w B (some a) (flp L)) (i : Nat) : ∀ j u, (flp (L.take i))[j]? = some u → w.cell? (a.add j) = some u := by
  intro j u hj
  rw [flp_take, List.getElem?_take] at hj
  split at hj
  · rcases h with h | ⟨b, off, e, _, hc⟩
    · rw [h] at hj; simp at hj
    · cases e
      have := hc j u hj
      by_cases z : j = 0
      · subst z; simpa [Addr.add] using this
      · simpa [Addr.add, z] using this
  · cases hj
theorem news_drop {w : World} {B : Nat} {a : Addr} {L : PL} (h : Rd w B (some a) (flp L)) (i : Nat) : ∀ j u, (flp (L.drop i))[j]? = some u → w.cell? ((a.add (i * 2)).add j) = some u := by
  intro j u hj
  rw [flp_drop, List.getElem?_drop] at hj
  rcases h with h | ⟨b, off, e, _, hc⟩
  · rw [h] at hj; simp at hj
  · cases e
    have := hc (i * 2 + j) u hj
    by_cases z1 : i * 2 = 0 <;> by_cases z2 : j = 0 <;> simp [Addr.add, z1, z2] <;> simpa [z1, z2, Nat.add_assoc] using this
theorem one_flp (L : PL) : ∀ u ∈ flp L, u.oneCell' = true := by
  intro u hu
  obtain ⟨x, _, hx⟩ := List.mem_flatMap.1 hu
  simp at hx
  rcases hx with rfl | rfl <;> simp [Value.oneCell']
theorem rd_grown {w2 w3 : World} {A : Option Addr} {L : PL} {o : Obj} (h : RdP w2 A L) (hg : (w2.alloc o).grownBy w3 (some w2.heap.size)) : RdP w3 A L := by
  have hb : Below w2.heap.size w2 w3 := (bel_alloc (Below.refl _ _) o).grown hg (by simp) (fun k e => by cases e; exact Nat.le_refl _)
  exact Rd.later h hb
theorem slice_if (a b : Addr) (p : Prop) [Decidable p] (n c : Nat) : Value.slice (if p then some a else some b) n c = Value.slice (some (if p then a else b)) n c := by split <;> rfl
theorem news_if {w : World} {B : Nat} {a : Addr} {L : PL} (h : Rd w B (some a) (flp L)) (i cM : Nat) (hc : L.length ≤ cM) : ∀ j u, (flp (L.drop i))[j]? = some u → w.cell? ((if cM = i then a else a.add (i * 2)).add j) = some u := by
  intro j u hj
  split
  · next e =>
    subst e
    rw [List.drop_eq_nil_of_le hc] at hj
    simp [flp] at hj
  · exact news_drop h i j u hj
/-- What becomes of a row where a key is put. -/
def putR (k : ByteArray) (v : Int) (L : PL) : PL :=
  let M := L.filter fun y => !(y.1.toList == k.toList)
  let i := (below ltS k M).length
  M.take i ++ (k, v) :: M.drop i
set_option maxHeartbeats 2000000 in
set_option maxRecDepth 100000 in
theorem rput_any (A : Option Addr) (n c : Nat) (L : PL) (kk : ByteArray) (v : Int) (w : World) (hl : L.length = n) (hn : n ≤ 990) (hr : RdP w A L) :
    Calls Try.prog 31 #[.slice A n c, .string kk, .int .i64 v] w (RowPost w (putR kk v L)) := by
  obtain ⟨M, hM⟩ : ∃ M : PL, M = L.filter (fun y => !(y.1.toList == kk.toList)) := ⟨_, rfl⟩
  obtain ⟨i, hi'⟩ : ∃ i : Nat, i = (below ltS kk M).length := ⟨_, rfl⟩
  have e : putR kk v L = M.take i ++ (kk, v) :: M.drop i := by unfold putR; rw [hi', hM]
  rw [e]
  have hMl : M.length ≤ n := by rw [hM, ← hl]; exact List.length_filter_le _ _
  have hil : i ≤ M.length := by rw [hi']; exact List.length_filter_le _ _
  have C1 := Lib.hid (rdrop_any A n c L kk w hl (by omega) hr)
  rw [← hM] at C1
  have C2 := Lib.hid (fun W a cM (h : RdP W (some a) M) => rplace_any (some a) M.length cM M kk W rfl (by omega) h)
  rw [← hi'] at C2
  obtain ⟨i0, hi, hz0, hz1, hz2⟩ := info_parts info39
  have hmax : (1002 : Nat) ≤ maxLen := by decide
  have ltk : (M.take i).length = i := by rw [List.length_take]; omega
  have ldk : (M.drop i).length = M.length - i := by rw [List.length_drop]
  clear hr hl e hM hi'
  have j0 : (0 : Int) ≤ (i : Int) := by omega
  have j1 : (i : Int) ≤ (M.length : Int) := by omega
  go_enter Try.func31, Try.ntmps31
  go_wp2_with (first
    | (go_at_call 32; (with_reducible refine C1.out.mono ?_); clear C1; rintro e w1 ⟨a1, cM, rfl, r1, b1, hc1, hm1⟩; have R1 := Lib.hid r1; have B1 := Lib.hid b1; have j2 : (i : Int) ≤ (cM : Int) := (by omega); have j3 : (M.length : Int) ≤ (cM : Int) := (by omega); have HCM := Lib.hid hc1; clear r1 b1)
    | (go_at_call 34; (with_reducible refine (C2.out _ _ _ R1.out).mono ?_); clear C2; rintro e w2 ⟨rfl, b2⟩; have R2 := Lib.hid (Rd.later R1.out b2); have B2 := Lib.hid (bel_trans B1.out b2); clear b2)
    | (at_builtin; refine wpList_append_own_at _ rfl (.tmp 16) (.tmp 19) 25 rfl w.heap.size 39 i0 (.agg #[.string ⟨#[]⟩, .int .i64 0]) 2 24 Try.underlying25 hi hz0 hz1 hz2 rfl (by decide) (.slice (some ⟨w2.heap.size, 0, none⟩) 0 0) 0 [] rfl (World.ownsRow_made w2 (base := w.heap.size) (e := 39) (size := 2) #[] 0 (B2.out.size) (by simp [maxLen]) (by simp)) a1 i cM (flp (M.take i)) rfl (by rw [flp_len, ltk]) (news_take (Rd.later R2.out (bel_alloc (Below.refl _ _) _)) i) (one_flp _) (by omega) (by omega) (by have := B2.out.size; simp; omega) ?_; intro v1 w3 ow1 g1 _ hat1; have BB3 := Lib.hid ((bel_alloc (Below.refl w2.heap.size w2) (.cells #[] 39)).grown g1 (by simp) (fun k e => by cases e; exact Nat.le_refl _)); have HA3 : Hid (∀ k, v1.ownBlock = some k → w2.heap.size ≤ k) := Lib.hid (fun k e => by rcases hat1 with h | h <;> (rw [h] at e; cases e; first | exact Nat.le_refl _ | exact Nat.le_of_lt (by simp) | (simp; omega))); clear hat1; rw [Nat.zero_add, List.nil_append] at ow1; obtain ⟨A3, c3, rfl, _⟩ := own_shape ow1; have O1 := Lib.hid ow1; have bb3 := bel_own (bel_alloc B2.out (.cells #[] 39)) g1 (World.ownsRow_made w2 (base := w.heap.size) (e := 39) (size := 2) #[] 0 (B2.out.size) (by simp [maxLen]) (by simp)); have B3 := Lib.hid bb3; have R3 := Lib.hid (rd_grown R2.out g1); clear ow1 g1 bb3)
    | (at_builtin; refine wpList_append_own_at _ rfl (.tmp 21) (.tmp 25) 25 rfl w.heap.size 39 i0 (.agg #[.string ⟨#[]⟩, .int .i64 0]) 2 24 Try.underlying25 hi hz0 hz1 hz2 rfl (by decide) (.slice A3 i c3) i (flp (M.take i)) rfl (O1.out.alloc _) ⟨w3.heap.size, 0, none⟩ 1 1 [.string kk, .int .i64 v] rfl rfl (kv_new _ _ _) (by simp [Value.oneCell']) (by omega) (by omega) (by have := B3.out.size; simp; omega) ?_; intro v2 w4 ow2 g2 _ hat2; obtain ⟨A4, c4, rfl, _⟩ := own_shape ow2; have O2 := Lib.hid ow2; have B4 := Lib.hid (bel_own (bel_alloc B3.out (kv kk v)) g2 (O1.out.alloc _)); have BB4 : Hid (Below w2.heap.size w2 w4) := Lib.hid ((BB3.out.alloc BB3.out.size (kv kk v)).grown g2 (by have := BB3.out.size; simp; omega) HA3.out); have R4 := Lib.hid (Rd.more (Rd.below R2.out BB4.out) BB4.out.size); clear ow2 g2 hat2)
    | (at_builtin; refine wpList_append_own_at _ rfl (.tmp 27) (.tmp 30) 25 rfl w.heap.size 39 i0 (.agg #[.string ⟨#[]⟩, .int .i64 0]) 2 24 Try.underlying25 hi hz0 hz1 hz2 rfl (by decide) (.slice A4 (i + 1) c4) (i + 1) (flp (M.take i) ++ [.string kk, .int .i64 v]) rfl O2.out (if cM = i then a1 else a1.add (i * 2)) (M.length - i) (cM - i) (flp (M.drop i)) (slice_if a1 (a1.add (i * 2)) (cM = i) _ _) (by rw [flp_len, ldk]) (news_if R4.out i cM HCM.out) (one_flp _) (by omega) (by omega) B4.out.size ?_; intro v3 w5 ow3 g3 _ _; obtain ⟨A5, c5, rfl, hc5⟩ := own_shape ow3; have O3 := Lib.hid ow3; have B5 := Lib.hid (bel_own B4.out g3 O2.out); have HC5 := Lib.hid hc5; clear ow3 g3 hc5)
    | fail)
  all_goals
    have el : (M.take i ++ (kk, v) :: M.drop i).length = i + 1 + (M.length - i) := by rw [List.length_append, List.length_cons, ltk, ldk]; omega
    have ef : flp (M.take i) ++ [.string kk, .int .i64 v] ++ flp (M.drop i) = flp (M.take i ++ (kk, v) :: M.drop i) := by rw [flp_app]; simp [flp]
    have ho := O3.out
    rw [ef] at ho
    refine bodyPost_ret (v := .slice A5 (i + 1 + (M.length - i)) c5) (by simp [results, Try.results31, go_sem]) rfl ⟨A5, c5, by rw [el], Rd.of_own ho (by decide), B5.out, by rw [el]; exact HC5.out⟩
end Go.Proofs.Ytfgohbhacldlmaa
