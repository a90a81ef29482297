/- A text parsed. -/
import Derived.Test.YtelpkajlejbbgaaGreatDoorTd23
import Derived.Test.YtelpkajlejbbgaaGreatDoorTd24
set_option linter.unusedVariables false
set_option linter.unusedSimpArgs false
namespace Go.Proofs.YtelpkajlejbbgaaGreatDoor
open Go.RowKit Go.Maps
/-- A script. -/
structure ScV where
  cf : List Int
  rows : List (List OpV)
  picks : List Int
def parseF (t : ByteArray) : Except (Int × Int) ScV := match sizesF t 0 with
  | .error e => .error e
  | .ok (cf, u, l) => match rowsG (u.size + 1) u l [] with
    | .error e => .error e
    | .ok ((rows, picks), u2, l2) => if u2 = ⟨#[]⟩ then .ok ⟨cf, rows, picks⟩ else match nextF u2 with
      | none => .error (l2 + 1, 5)
      | some _ => .error (l2 + 1, 3)
def scA (a0 a1 a2 a3 a4 a5 a6 a7 a8 : Int) (A : Option Addr) (n c : Nat) (B : Option Addr) (m d : Nat) : Value := .agg #[.int .i64 a0, .int .i64 a1, .int .i64 a2, .int .i64 a3, .int .i64 a4, .int .i64 a5, .int .i64 a6, .int .i64 a7, .int .i64 a8, .slice A n c, .slice B m d]
/-- A script in memory. -/
structure ScR (w : World) (x : ScV) (v : Value) : Prop where
  h : ∃ a0 a1 a2 a3 a4 a5 a6 a7 a8 A c B d hs, x.cf = [a0, a1, a2, a3, a4, a5, a6, a7, a8] ∧ v = scA a0 a1 a2 a3 a4 a5 a6 a7 a8 A x.rows.length c B x.picks.length d ∧ EH.Rd w A hs ∧ RowsR w (fun _ => False) hs x.rows ∧ EI.Rd w B x.picks
def ParseP (r : Except (Int × Int) ScV) (w : World) (e : Ending) (w' : World) : Prop :=
  (match r with
    | .ok x => ∃ v, e = .returned (.tuple #[v, .int .i64 0, .int .i64 0]) ∧ ScR w' x v
    | .error (ln, er) => e = .returned (.tuple #[scA 0 0 0 0 0 0 0 0 0 none 0 0 none 0 0, .int .i64 ln, .int .i64 er])) ∧ Below w.heap.size w w'
theorem sizes_le {t u : ByteArray} {cf : List Int} {ln k : Int} (h : sizesF t ln = .ok (cf, u, k)) : u.size < t.size ∧ k = ln + 1 := by
  unfold sizesF at h
  cases hn : nextF t with
  | none => rw [hn] at h; cases h
  | some wu =>
    obtain ⟨ws, v⟩ := wu
    rw [hn] at h
    simp only at h
    split at h
    · split at h
      · cases h
      · cases h; exact ⟨(next_facts hn).2.1, rfl⟩
    · cases h
theorem rows_le : ∀ (f : Nat) (t u : ByteArray) (ln k : Int) (acc : List (List OpV)) (q : List (List OpV) × List Int), rowsG f t ln acc = .ok (q, u, k) → u.size < t.size ∧ ln ≤ k ∧ k + u.size ≤ ln + t.size
  | 0, t, u, ln, k, acc, q, h => by unfold rowsG at h; cases h
  | f + 1, t, u, ln, k, acc, q, h => by
    unfold rowsG at h
    cases hn : nextF t with
    | none => rw [hn] at h; cases h
    | some wv =>
      obtain ⟨ws, v⟩ := wv
      have hf := (next_facts hn).2.1
      rw [hn] at h
      simp only at h
      split at h
      · split at h
        · cases h
        · cases h; omega
      · split at h
        · have := rows_le f v u (ln + 1) k _ q h; omega
        · split at h
          · cases h
          · split at h
            · cases h
            · rename_i o u2 l2 ho
              have h1 := op_le ho
              have h2 := rows_le f u2 u l2 k _ q h
              omega
theorem set9of {w : World} {g : Nat} {v0 v1 v2 v3 v4 v5 v6 v7 v8 v9 v10 : Value} (hz : w.heap[g]? = some (scO v0 v1 v2 v3 v4 v5 v6 v7 v8 v9 v10)) (u0 u1 u2 u3 u4 u5 u6 u7 u8 : Value) : (((((((((w.setCell ⟨g, 0, none⟩ u0).setCell ⟨g, 1, none⟩ u1).setCell ⟨g, 2, none⟩ u2).setCell ⟨g, 3, none⟩ u3).setCell ⟨g, 4, none⟩ u4).setCell ⟨g, 5, none⟩ u5).setCell ⟨g, 6, none⟩ u6).setCell ⟨g, 7, none⟩ u7).setCell ⟨g, 8, none⟩ u8).heap[g]? = some (scO u0 u1 u2 u3 u4 u5 u6 u7 u8 v9 v10) ∧ Chg (fun x => x = g) w (((((((((w.setCell ⟨g, 0, none⟩ u0).setCell ⟨g, 1, none⟩ u1).setCell ⟨g, 2, none⟩ u2).setCell ⟨g, 3, none⟩ u3).setCell ⟨g, 4, none⟩ u4).setCell ⟨g, 5, none⟩ u5).setCell ⟨g, 6, none⟩ u6).setCell ⟨g, 7, none⟩ u7).setCell ⟨g, 8, none⟩ u8) := by
  have z0 : (w.setCell ⟨g, 0, none⟩ u0).heap[g]? = some (.cells #[u0, v1, v2, v3, v4, v5, v6, v7, v8, v9, v10] 27 (0, 0)) := hset hz u0
  have z1 : ((w.setCell ⟨g, 0, none⟩ u0).setCell ⟨g, 1, none⟩ u1).heap[g]? = some (.cells #[u0, u1, v2, v3, v4, v5, v6, v7, v8, v9, v10] 27 (0, 0)) := hset z0 u1
  have z2 : (((w.setCell ⟨g, 0, none⟩ u0).setCell ⟨g, 1, none⟩ u1).setCell ⟨g, 2, none⟩ u2).heap[g]? = some (.cells #[u0, u1, u2, v3, v4, v5, v6, v7, v8, v9, v10] 27 (0, 0)) := hset z1 u2
  have z3 : ((((w.setCell ⟨g, 0, none⟩ u0).setCell ⟨g, 1, none⟩ u1).setCell ⟨g, 2, none⟩ u2).setCell ⟨g, 3, none⟩ u3).heap[g]? = some (.cells #[u0, u1, u2, u3, v4, v5, v6, v7, v8, v9, v10] 27 (0, 0)) := hset z2 u3
  have z4 : (((((w.setCell ⟨g, 0, none⟩ u0).setCell ⟨g, 1, none⟩ u1).setCell ⟨g, 2, none⟩ u2).setCell ⟨g, 3, none⟩ u3).setCell ⟨g, 4, none⟩ u4).heap[g]? = some (.cells #[u0, u1, u2, u3, u4, v5, v6, v7, v8, v9, v10] 27 (0, 0)) := hset z3 u4
  have z5 : ((((((w.setCell ⟨g, 0, none⟩ u0).setCell ⟨g, 1, none⟩ u1).setCell ⟨g, 2, none⟩ u2).setCell ⟨g, 3, none⟩ u3).setCell ⟨g, 4, none⟩ u4).setCell ⟨g, 5, none⟩ u5).heap[g]? = some (.cells #[u0, u1, u2, u3, u4, u5, v6, v7, v8, v9, v10] 27 (0, 0)) := hset z4 u5
  have z6 : (((((((w.setCell ⟨g, 0, none⟩ u0).setCell ⟨g, 1, none⟩ u1).setCell ⟨g, 2, none⟩ u2).setCell ⟨g, 3, none⟩ u3).setCell ⟨g, 4, none⟩ u4).setCell ⟨g, 5, none⟩ u5).setCell ⟨g, 6, none⟩ u6).heap[g]? = some (.cells #[u0, u1, u2, u3, u4, u5, u6, v7, v8, v9, v10] 27 (0, 0)) := hset z5 u6
  have z7 : ((((((((w.setCell ⟨g, 0, none⟩ u0).setCell ⟨g, 1, none⟩ u1).setCell ⟨g, 2, none⟩ u2).setCell ⟨g, 3, none⟩ u3).setCell ⟨g, 4, none⟩ u4).setCell ⟨g, 5, none⟩ u5).setCell ⟨g, 6, none⟩ u6).setCell ⟨g, 7, none⟩ u7).heap[g]? = some (.cells #[u0, u1, u2, u3, u4, u5, u6, u7, v8, v9, v10] 27 (0, 0)) := hset z6 u7
  have z8 : (((((((((w.setCell ⟨g, 0, none⟩ u0).setCell ⟨g, 1, none⟩ u1).setCell ⟨g, 2, none⟩ u2).setCell ⟨g, 3, none⟩ u3).setCell ⟨g, 4, none⟩ u4).setCell ⟨g, 5, none⟩ u5).setCell ⟨g, 6, none⟩ u6).setCell ⟨g, 7, none⟩ u7).setCell ⟨g, 8, none⟩ u8).heap[g]? = some (.cells #[u0, u1, u2, u3, u4, u5, u6, u7, u8, v9, v10] 27 (0, 0)) := hset z7 u8
  exact ⟨z8, chg_one (chg_one (chg_one (chg_one (chg_one (chg_one (chg_one (chg_one (chg_one (Chg.refl _ _) _) _) _) _) _) _) _) _) _⟩
theorem set2of {w : World} {g : Nat} {v0 v1 v2 v3 v4 v5 v6 v7 v8 v9 v10 : Value} (hz : w.heap[g]? = some (scO v0 v1 v2 v3 v4 v5 v6 v7 v8 v9 v10)) (u9 u10 : Value) : ((w.setCell ⟨g, 9, none⟩ u9).setCell ⟨g, 10, none⟩ u10).heap[g]? = some (scO v0 v1 v2 v3 v4 v5 v6 v7 v8 u9 u10) ∧ Chg (fun x => x = g) w ((w.setCell ⟨g, 9, none⟩ u9).setCell ⟨g, 10, none⟩ u10) := by
  have z9 : (w.setCell ⟨g, 9, none⟩ u9).heap[g]? = some (.cells #[v0, v1, v2, v3, v4, v5, v6, v7, v8, u9, v10] 27 (0, 0)) := hset hz u9
  have z10 : ((w.setCell ⟨g, 9, none⟩ u9).setCell ⟨g, 10, none⟩ u10).heap[g]? = some (.cells #[v0, v1, v2, v3, v4, v5, v6, v7, v8, u9, u10] 27 (0, 0)) := hset z9 u10
  exact ⟨z10, chg_one (chg_one (Chg.refl _ _) _) _⟩
theorem set11of {w : World} {g : Nat} {v0 v1 v2 v3 v4 v5 v6 v7 v8 v9 v10 : Value} (hz : w.heap[g]? = some (scO v0 v1 v2 v3 v4 v5 v6 v7 v8 v9 v10)) (u0 u1 u2 u3 u4 u5 u6 u7 u8 u9 u10 : Value) : (((((((((((w.setCell ⟨g, 0, none⟩ u0).setCell ⟨g, 1, none⟩ u1).setCell ⟨g, 2, none⟩ u2).setCell ⟨g, 3, none⟩ u3).setCell ⟨g, 4, none⟩ u4).setCell ⟨g, 5, none⟩ u5).setCell ⟨g, 6, none⟩ u6).setCell ⟨g, 7, none⟩ u7).setCell ⟨g, 8, none⟩ u8).setCell ⟨g, 9, none⟩ u9).setCell ⟨g, 10, none⟩ u10).heap[g]? = some (scO u0 u1 u2 u3 u4 u5 u6 u7 u8 u9 u10) ∧ Chg (fun x => x = g) w (((((((((((w.setCell ⟨g, 0, none⟩ u0).setCell ⟨g, 1, none⟩ u1).setCell ⟨g, 2, none⟩ u2).setCell ⟨g, 3, none⟩ u3).setCell ⟨g, 4, none⟩ u4).setCell ⟨g, 5, none⟩ u5).setCell ⟨g, 6, none⟩ u6).setCell ⟨g, 7, none⟩ u7).setCell ⟨g, 8, none⟩ u8).setCell ⟨g, 9, none⟩ u9).setCell ⟨g, 10, none⟩ u10) := by
  have z0 : (w.setCell ⟨g, 0, none⟩ u0).heap[g]? = some (.cells #[u0, v1, v2, v3, v4, v5, v6, v7, v8, v9, v10] 27 (0, 0)) := hset hz u0
  have z1 : ((w.setCell ⟨g, 0, none⟩ u0).setCell ⟨g, 1, none⟩ u1).heap[g]? = some (.cells #[u0, u1, v2, v3, v4, v5, v6, v7, v8, v9, v10] 27 (0, 0)) := hset z0 u1
  have z2 : (((w.setCell ⟨g, 0, none⟩ u0).setCell ⟨g, 1, none⟩ u1).setCell ⟨g, 2, none⟩ u2).heap[g]? = some (.cells #[u0, u1, u2, v3, v4, v5, v6, v7, v8, v9, v10] 27 (0, 0)) := hset z1 u2
  have z3 : ((((w.setCell ⟨g, 0, none⟩ u0).setCell ⟨g, 1, none⟩ u1).setCell ⟨g, 2, none⟩ u2).setCell ⟨g, 3, none⟩ u3).heap[g]? = some (.cells #[u0, u1, u2, u3, v4, v5, v6, v7, v8, v9, v10] 27 (0, 0)) := hset z2 u3
  have z4 : (((((w.setCell ⟨g, 0, none⟩ u0).setCell ⟨g, 1, none⟩ u1).setCell ⟨g, 2, none⟩ u2).setCell ⟨g, 3, none⟩ u3).setCell ⟨g, 4, none⟩ u4).heap[g]? = some (.cells #[u0, u1, u2, u3, u4, v5, v6, v7, v8, v9, v10] 27 (0, 0)) := hset z3 u4
  have z5 : ((((((w.setCell ⟨g, 0, none⟩ u0).setCell ⟨g, 1, none⟩ u1).setCell ⟨g, 2, none⟩ u2).setCell ⟨g, 3, none⟩ u3).setCell ⟨g, 4, none⟩ u4).setCell ⟨g, 5, none⟩ u5).heap[g]? = some (.cells #[u0, u1, u2, u3, u4, u5, v6, v7, v8, v9, v10] 27 (0, 0)) := hset z4 u5
  have z6 : (((((((w.setCell ⟨g, 0, none⟩ u0).setCell ⟨g, 1, none⟩ u1).setCell ⟨g, 2, none⟩ u2).setCell ⟨g, 3, none⟩ u3).setCell ⟨g, 4, none⟩ u4).setCell ⟨g, 5, none⟩ u5).setCell ⟨g, 6, none⟩ u6).heap[g]? = some (.cells #[u0, u1, u2, u3, u4, u5, u6, v7, v8, v9, v10] 27 (0, 0)) := hset z5 u6
  have z7 : ((((((((w.setCell ⟨g, 0, none⟩ u0).setCell ⟨g, 1, none⟩ u1).setCell ⟨g, 2, none⟩ u2).setCell ⟨g, 3, none⟩ u3).setCell ⟨g, 4, none⟩ u4).setCell ⟨g, 5, none⟩ u5).setCell ⟨g, 6, none⟩ u6).setCell ⟨g, 7, none⟩ u7).heap[g]? = some (.cells #[u0, u1, u2, u3, u4, u5, u6, u7, v8, v9, v10] 27 (0, 0)) := hset z6 u7
  have z8 : (((((((((w.setCell ⟨g, 0, none⟩ u0).setCell ⟨g, 1, none⟩ u1).setCell ⟨g, 2, none⟩ u2).setCell ⟨g, 3, none⟩ u3).setCell ⟨g, 4, none⟩ u4).setCell ⟨g, 5, none⟩ u5).setCell ⟨g, 6, none⟩ u6).setCell ⟨g, 7, none⟩ u7).setCell ⟨g, 8, none⟩ u8).heap[g]? = some (.cells #[u0, u1, u2, u3, u4, u5, u6, u7, u8, v9, v10] 27 (0, 0)) := hset z7 u8
  have z9 : ((((((((((w.setCell ⟨g, 0, none⟩ u0).setCell ⟨g, 1, none⟩ u1).setCell ⟨g, 2, none⟩ u2).setCell ⟨g, 3, none⟩ u3).setCell ⟨g, 4, none⟩ u4).setCell ⟨g, 5, none⟩ u5).setCell ⟨g, 6, none⟩ u6).setCell ⟨g, 7, none⟩ u7).setCell ⟨g, 8, none⟩ u8).setCell ⟨g, 9, none⟩ u9).heap[g]? = some (.cells #[u0, u1, u2, u3, u4, u5, u6, u7, u8, u9, v10] 27 (0, 0)) := hset z8 u9
  have z10 : (((((((((((w.setCell ⟨g, 0, none⟩ u0).setCell ⟨g, 1, none⟩ u1).setCell ⟨g, 2, none⟩ u2).setCell ⟨g, 3, none⟩ u3).setCell ⟨g, 4, none⟩ u4).setCell ⟨g, 5, none⟩ u5).setCell ⟨g, 6, none⟩ u6).setCell ⟨g, 7, none⟩ u7).setCell ⟨g, 8, none⟩ u8).setCell ⟨g, 9, none⟩ u9).setCell ⟨g, 10, none⟩ u10).heap[g]? = some (.cells #[u0, u1, u2, u3, u4, u5, u6, u7, u8, u9, u10] 27 (0, 0)) := hset z9 u10
  exact ⟨z10, chg_one (chg_one (chg_one (chg_one (chg_one (chg_one (chg_one (chg_one (chg_one (chg_one (chg_one (Chg.refl _ _) _) _) _) _) _) _) _) _) _) _) _⟩
set_option maxHeartbeats 4000000 in
set_option maxRecDepth 100000 in
theorem parse_any (t : ByteArray) (ht : t.size ≤ 890000) (w : World) (h : GW w) :
    Calls Tryz.prog 16 #[.string t] w (ParseP (parseF t) w) := by
  have hmf : ∀ (fn : Fn) (first cap : Array Value) (w : World), (Instr.makeFunc fn first cap).run Tryz.prog w = .ok (.func fn first cap) w := fun _ _ _ _ => rfl
  have k20 : ¬ (1048576 : Int) < (t.size : Int) := by omega
  obtain ⟨W1, hW1⟩ : ∃ W1, W1 = (((w.alloc (.cells #[.int .i64 0, .int .i64 0, .int .i64 0, .int .i64 0, .int .i64 0, .int .i64 0, .int .i64 0, .int .i64 0, .int .i64 0, .slice none 0 0, .slice none 0 0] 27)).alloc (.cells #[.int .i64 0] 3)).alloc (.cells #[.int .i64 0] 30)).alloc (.cells #[.string t, .int .i64 0] 79) := ⟨_, rfl⟩
  have HB1 := Lib.hid (show Below w.heap.size w W1 by rw [hW1]; exact bel_alloc (bel_alloc (bel_alloc (alb w _) _) _) _)
  have X1 := Lib.hid (show W1.heap[w.heap.size]? = some (scO (.int .i64 0) (.int .i64 0) (.int .i64 0) (.int .i64 0) (.int .i64 0) (.int .i64 0) (.int .i64 0) (.int .i64 0) (.int .i64 0) (.slice none 0 0) (.slice none 0 0)) by rw [hW1]; exact keep_bel (alb _ _) (keep_bel (alb _ _) (keep_bel (alb _ _) (heap_alloc_new w _))))
  have L1 := Lib.hid (show W1.heap[w.heap.size + 1]? = some (.cells #[.int .i64 0] 3) by
    rw [hW1]; refine keep_bel (alb _ _) (keep_bel (alb _ _) ?_)
    have := heap_alloc_new (w.alloc (.cells #[.int .i64 0, .int .i64 0, .int .i64 0, .int .i64 0, .int .i64 0, .int .i64 0, .int .i64 0, .int .i64 0, .int .i64 0, .slice none 0 0, .slice none 0 0] 27)) (.cells #[.int .i64 0] 3)
    simpa using this)
  have E1 := Lib.hid (show W1.heap[w.heap.size + 2]? = some (.cells #[.int .i64 0] 30) by
    rw [hW1]; refine keep_bel (alb _ _) ?_
    have := heap_alloc_new ((w.alloc (.cells #[.int .i64 0, .int .i64 0, .int .i64 0, .int .i64 0, .int .i64 0, .int .i64 0, .int .i64 0, .int .i64 0, .int .i64 0, .slice none 0 0, .slice none 0 0] 27)).alloc (.cells #[.int .i64 0] 3)) (.cells #[.int .i64 0] 30)
    simpa using this)
  have R1 := Lib.hid (show RB W1 (w.heap.size + 3) t 0 by
    rw [hW1]; unfold RB
    have := heap_alloc_new (((w.alloc (.cells #[.int .i64 0, .int .i64 0, .int .i64 0, .int .i64 0, .int .i64 0, .int .i64 0, .int .i64 0, .int .i64 0, .int .i64 0, .slice none 0 0, .slice none 0 0] 27)).alloc (.cells #[.int .i64 0] 3)).alloc (.cells #[.int .i64 0] 30)) (.cells #[.string t, .int .i64 0] 79)
    simpa using this)
  have G0 := Lib.hid (GB.of h)
  have G1 := Lib.hid (G0.out.later HB1.out)
  have SZ := Lib.hid (sizes_any R1.out G1.out (by omega) (by omega) (by omega))
  obtain ⟨r, hr⟩ : ∃ r, parseF t = r := ⟨_, rfl⟩
  rw [hr]
  unfold parseF at hr
  have HT := Lib.hid ht
  clear h ht
  cases hs : sizesF t 0 with
  | error er =>
    obtain ⟨l2, e2⟩ := er
    rw [hs] at SZ hr
    simp only at hr
    have HE : Hid (r = .error (l2, e2)) := Lib.hid hr.symm
    clear hr hs
    go_enter_defers Tryz.func16, Tryz.ntmps16
    go_upto_region 5 with fail
    rw [← hW1]
    clear hW1
    go_wp2_with (first
      | (go_at_call 39; ((with_reducible refine SZ.out.mono ?_); rintro e w2 ⟨rfl, c2⟩; have C2 := Lib.hid c2; clear c2))
      | fail)
    have BW := Lib.hid (HB1.out.trans (C2.out.below (lo := w.heap.size) (fun x e => by omega) HB1.out.size))
    have X2 := Lib.hid (C2.out.keep X1.out (by show ¬ w.heap.size = w.heap.size + 3; omega))
    have L2 := Lib.hid (C2.out.keep L1.out (by show ¬ w.heap.size + 1 = w.heap.size + 3; omega))
    have E2 := Lib.hid (C2.out.keep E1.out (by show ¬ w.heap.size + 2 = w.heap.size + 3; omega))
    refine leaves_cons (f := 38) (args := #[.pointer (some ⟨w.heap.size, 0, none⟩), .pointer (some ⟨w.heap.size + 1, 0, none⟩), .pointer (some ⟨w.heap.size + 2, 0, none⟩)]) (by simp) (by simp [go_sem]) ?_
    refine (catch_fault w.heap.size (w.heap.size + 1) (w.heap.size + 2) _ _ (.int .i64 0) (.int .i64 0) (.int .i64 0) (.int .i64 0) (.int .i64 0) (.int .i64 0) (.int .i64 0) (.int .i64 0) (.int .i64 0) (.slice none 0 0) (.slice none 0 0) (.int .i64 0) (.int .i64 0) w2 X2.out L2.out E2.out (by omega) (by omega) (by omega)).mono ?_
    rintro e u' w9 ⟨rfl, rfl, x9, l9, e9, c9⟩
    have B9 := Lib.hid (c9.below (lo := w.heap.size) (fun x e => by omega) BW.out.size)
    have k0 : w9.cell? ⟨w.heap.size, 0, none⟩ = some (.int .i64 0) := cellh x9 rfl
    have k1 : w9.cell? ⟨w.heap.size, 1, none⟩ = some (.int .i64 0) := cellh x9 rfl
    have k2 : w9.cell? ⟨w.heap.size, 2, none⟩ = some (.int .i64 0) := cellh x9 rfl
    have k3 : w9.cell? ⟨w.heap.size, 3, none⟩ = some (.int .i64 0) := cellh x9 rfl
    have k4 : w9.cell? ⟨w.heap.size, 4, none⟩ = some (.int .i64 0) := cellh x9 rfl
    have k5 : w9.cell? ⟨w.heap.size, 5, none⟩ = some (.int .i64 0) := cellh x9 rfl
    have k6 : w9.cell? ⟨w.heap.size, 6, none⟩ = some (.int .i64 0) := cellh x9 rfl
    have k7 : w9.cell? ⟨w.heap.size, 7, none⟩ = some (.int .i64 0) := cellh x9 rfl
    have k8 : w9.cell? ⟨w.heap.size, 8, none⟩ = some (.int .i64 0) := cellh x9 rfl
    have k9 : w9.cell? ⟨w.heap.size, 9, none⟩ = some (.slice none 0 0) := cellh x9 rfl
    have k10 : w9.cell? ⟨w.heap.size, 10, none⟩ = some (.slice none 0 0) := cellh x9 rfl
    have kl := cellh l9 (i := 0) (v := .int .i64 (l2)) rfl
    have ke : w9.cell? ⟨w.heap.size + 1 + 1, 0, none⟩ = some (.int .i64 (e2)) := cellh e9 (i := 0) (v := .int .i64 (e2)) rfl
    clear x9 l9 e9 c9
    have HK := Lib.hid (show ParseP r w (.returned (.tuple #[scA 0 0 0 0 0 0 0 0 0 none 0 0 none 0 0, .int .i64 (l2), .int .i64 (e2)])) w9 from ⟨by rw [HE.out], BW.out.trans B9.out⟩)
    simp [Leaves, settle, results, Tryz.results16, go_sem, FP, k0, k1, k2, k3, k4, k5, k6, k7, k8, k9, k10, kl, ke]
    exact HK.out
  | ok q =>
    obtain ⟨cf, u, l⟩ := q
    rw [hs] at SZ hr
    simp only at hr
    have HSL := Lib.hid (sizes_le hs)
    clear hs
    cases hg : rowsG (u.size + 1) u l [] with
    | error er =>
      obtain ⟨l2, e2⟩ := er
      rw [hg] at hr
      simp only at hr
      have HE : Hid (r = .error (l2, e2)) := Lib.hid hr.symm
      have HRG := Lib.hid hg
      clear hr hg
      go_enter_defers Tryz.func16, Tryz.ntmps16
      go_upto_region 5 with fail
      rw [← hW1]
      clear hW1
      go_upto_region 6 with (first
        | (go_at_call 39; ((with_reducible refine SZ.out.mono ?_); rintro e w2 ⟨v, rfl, ⟨a0, a1, a2, a3, a4, a5, a6, a7, a8, hcf, rfl⟩, hrb, c2⟩; have HCF := Lib.hid hcf; have R2 := Lib.hid hrb; have BW2 := Lib.hid (HB1.out.trans (c2.below (lo := w.heap.size) (fun x e => by omega) HB1.out.size)); have C2 := Lib.hid c2; have X2 := Lib.hid (c2.keep X1.out (by show ¬ w.heap.size = w.heap.size + 3; omega)); have L2 := Lib.hid (c2.keep L1.out (by show ¬ w.heap.size + 1 = w.heap.size + 3; omega)); have E2 := Lib.hid (c2.keep E1.out (by show ¬ w.heap.size + 2 = w.heap.size + 3; omega)); have k0 : w2.cell? ⟨w.heap.size, 0, none⟩ = some (.int .i64 0) := cellh X2.out rfl; have k1 : w2.cell? ⟨w.heap.size, 1, none⟩ = some (.int .i64 0) := cellh X2.out rfl; have k2 : w2.cell? ⟨w.heap.size, 2, none⟩ = some (.int .i64 0) := cellh X2.out rfl; have k3 : w2.cell? ⟨w.heap.size, 3, none⟩ = some (.int .i64 0) := cellh X2.out rfl; have k4 : w2.cell? ⟨w.heap.size, 4, none⟩ = some (.int .i64 0) := cellh X2.out rfl; have k5 : w2.cell? ⟨w.heap.size, 5, none⟩ = some (.int .i64 0) := cellh X2.out rfl; have k6 : w2.cell? ⟨w.heap.size, 6, none⟩ = some (.int .i64 0) := cellh X2.out rfl; have k7 : w2.cell? ⟨w.heap.size, 7, none⟩ = some (.int .i64 0) := cellh X2.out rfl; have k8 : w2.cell? ⟨w.heap.size, 8, none⟩ = some (.int .i64 0) := cellh X2.out rfl; have k9 : w2.cell? ⟨w.heap.size, 9, none⟩ = some (.slice none 0 0) := cellh X2.out rfl; have k10 : w2.cell? ⟨w.heap.size, 10, none⟩ = some (.slice none 0 0) := cellh X2.out rfl; have f0 : w2.frozen? ⟨w.heap.size, 0, none⟩ = false := froh X2.out; have f1 : w2.frozen? ⟨w.heap.size, 1, none⟩ = false := froh X2.out; have f2 : w2.frozen? ⟨w.heap.size, 2, none⟩ = false := froh X2.out; have f3 : w2.frozen? ⟨w.heap.size, 3, none⟩ = false := froh X2.out; have f4 : w2.frozen? ⟨w.heap.size, 4, none⟩ = false := froh X2.out; have f5 : w2.frozen? ⟨w.heap.size, 5, none⟩ = false := froh X2.out; have f6 : w2.frozen? ⟨w.heap.size, 6, none⟩ = false := froh X2.out; have f7 : w2.frozen? ⟨w.heap.size, 7, none⟩ = false := froh X2.out; have f8 : w2.frozen? ⟨w.heap.size, 8, none⟩ = false := froh X2.out; have f9 : w2.frozen? ⟨w.heap.size, 9, none⟩ = false := froh X2.out; have f10 : w2.frozen? ⟨w.heap.size, 10, none⟩ = false := froh X2.out; clear hcf hrb c2))
        | fail)
      clear k0 f0 k1 f1 k2 f2 k3 f3 k4 f4 k5 f5 k6 f6 k7 f7 k8 f8 k9 f9 k10 f10
      obtain ⟨z3, q3⟩ := set9of X2.out (.int .i64 a0) (.int .i64 a1) (.int .i64 a2) (.int .i64 a3) (.int .i64 a4) (.int .i64 a5) (.int .i64 a6) (.int .i64 a7) (.int .i64 a8)
      have X3 := Lib.hid z3
      have C3 := Lib.hid q3
      obtain ⟨W3, hW3⟩ : ∃ W3, W3 = (((((((((w2.setCell ⟨w.heap.size, 0, none⟩ (.int .i64 a0)).setCell ⟨w.heap.size, 1, none⟩ (.int .i64 a1)).setCell ⟨w.heap.size, 2, none⟩ (.int .i64 a2)).setCell ⟨w.heap.size, 3, none⟩ (.int .i64 a3)).setCell ⟨w.heap.size, 4, none⟩ (.int .i64 a4)).setCell ⟨w.heap.size, 5, none⟩ (.int .i64 a5)).setCell ⟨w.heap.size, 6, none⟩ (.int .i64 a6)).setCell ⟨w.heap.size, 7, none⟩ (.int .i64 a7)).setCell ⟨w.heap.size, 8, none⟩ (.int .i64 a8)) := ⟨_, rfl⟩
      rw [← hW3] at X3 C3 ⊢
      clear hW3 z3 q3
      have L3 := Lib.hid (C3.out.keep L2.out (by show ¬ w.heap.size + 1 = w.heap.size; omega))
      have E3 := Lib.hid (C3.out.keep E2.out (by show ¬ w.heap.size + 2 = w.heap.size; omega))
      have R3 := Lib.hid (show RB W3 (w.heap.size + 3) u l from C3.out.keep R2.out (by show ¬ w.heap.size + 3 = w.heap.size; omega))
      have BW3 := Lib.hid (BW2.out.trans (C3.out.below (lo := w.heap.size) (fun x e => by omega) BW2.out.size))
      have G3 := Lib.hid (G0.out.later BW3.out)
      have RW := Lib.hid (rows_any R3.out G3.out (by omega) (by have := HSL.out; have := HT.out; omega) (by have := HSL.out; have := HT.out; omega))
      rw [HRG.out] at RW
      go_wp2_with (first
        | (go_at_call 40; ((with_reducible refine RW.out.mono ?_); rintro e w4 ⟨rfl, c4⟩; have C4 := Lib.hid c4; clear c4))
        | fail)
      have BW := Lib.hid (BW3.out.trans (C4.out.below (lo := w.heap.size) (fun x e => by omega) BW3.out.size))
      have X4 := Lib.hid (C4.out.keep X3.out (by show ¬ w.heap.size = w.heap.size + 3; omega)); have L4 := Lib.hid (C4.out.keep L3.out (by show ¬ w.heap.size + 1 = w.heap.size + 3; omega)); have E4 := Lib.hid (C4.out.keep E3.out (by show ¬ w.heap.size + 2 = w.heap.size + 3; omega))
      refine leaves_cons (f := 38) (args := #[.pointer (some ⟨w.heap.size, 0, none⟩), .pointer (some ⟨w.heap.size + 1, 0, none⟩), .pointer (some ⟨w.heap.size + 2, 0, none⟩)]) (by simp) (by simp [go_sem]) ?_
      refine (catch_fault w.heap.size (w.heap.size + 1) (w.heap.size + 2) _ _ (.int .i64 a0) (.int .i64 a1) (.int .i64 a2) (.int .i64 a3) (.int .i64 a4) (.int .i64 a5) (.int .i64 a6) (.int .i64 a7) (.int .i64 a8) (.slice none 0 0) (.slice none 0 0) (.int .i64 0) (.int .i64 0) w4 X4.out L4.out E4.out (by omega) (by omega) (by omega)).mono ?_
      rintro e u' w9 ⟨rfl, rfl, x9, l9, e9, c9⟩
      have B9 := Lib.hid (c9.below (lo := w.heap.size) (fun x e => by omega) BW.out.size)
      have k0 : w9.cell? ⟨w.heap.size, 0, none⟩ = some (.int .i64 0) := cellh x9 rfl
      have k1 : w9.cell? ⟨w.heap.size, 1, none⟩ = some (.int .i64 0) := cellh x9 rfl
      have k2 : w9.cell? ⟨w.heap.size, 2, none⟩ = some (.int .i64 0) := cellh x9 rfl
      have k3 : w9.cell? ⟨w.heap.size, 3, none⟩ = some (.int .i64 0) := cellh x9 rfl
      have k4 : w9.cell? ⟨w.heap.size, 4, none⟩ = some (.int .i64 0) := cellh x9 rfl
      have k5 : w9.cell? ⟨w.heap.size, 5, none⟩ = some (.int .i64 0) := cellh x9 rfl
      have k6 : w9.cell? ⟨w.heap.size, 6, none⟩ = some (.int .i64 0) := cellh x9 rfl
      have k7 : w9.cell? ⟨w.heap.size, 7, none⟩ = some (.int .i64 0) := cellh x9 rfl
      have k8 : w9.cell? ⟨w.heap.size, 8, none⟩ = some (.int .i64 0) := cellh x9 rfl
      have k9 : w9.cell? ⟨w.heap.size, 9, none⟩ = some (.slice none 0 0) := cellh x9 rfl
      have k10 : w9.cell? ⟨w.heap.size, 10, none⟩ = some (.slice none 0 0) := cellh x9 rfl
      have kl := cellh l9 (i := 0) (v := .int .i64 (l2)) rfl
      have ke : w9.cell? ⟨w.heap.size + 1 + 1, 0, none⟩ = some (.int .i64 (e2)) := cellh e9 (i := 0) (v := .int .i64 (e2)) rfl
      clear x9 l9 e9 c9
      have HK := Lib.hid (show ParseP r w (.returned (.tuple #[scA 0 0 0 0 0 0 0 0 0 none 0 0 none 0 0, .int .i64 (l2), .int .i64 (e2)])) w9 from ⟨by rw [HE.out], BW.out.trans B9.out⟩)
      simp [Leaves, settle, results, Tryz.results16, go_sem, FP, k0, k1, k2, k3, k4, k5, k6, k7, k8, k9, k10, kl, ke]
      exact HK.out
    | ok q2 =>
      obtain ⟨⟨rows, picks⟩, u2, l2⟩ := q2
      rw [hg] at hr
      simp only at hr
      have HRG := Lib.hid hg
      have HRL := Lib.hid (rows_le _ _ _ _ _ _ _ hg)
      clear hg
      by_cases hu : u2 = ⟨#[]⟩
      · rw [if_pos hu] at hr
        have HE : Hid (r = .ok ⟨cf, rows, picks⟩) := Lib.hid hr.symm
        have e1 : u2.toList.isEmpty = true := by rw [hu]; decide +kernel
        clear hr hu
        go_enter_defers Tryz.func16, Tryz.ntmps16
        go_upto_region 5 with fail
        rw [← hW1]
        clear hW1
        go_upto_region 6 with (first
          | (go_at_call 39; ((with_reducible refine SZ.out.mono ?_); rintro e w2 ⟨v, rfl, ⟨a0, a1, a2, a3, a4, a5, a6, a7, a8, hcf, rfl⟩, hrb, c2⟩; have HCF := Lib.hid hcf; have R2 := Lib.hid hrb; have BW2 := Lib.hid (HB1.out.trans (c2.below (lo := w.heap.size) (fun x e => by omega) HB1.out.size)); have C2 := Lib.hid c2; have X2 := Lib.hid (c2.keep X1.out (by show ¬ w.heap.size = w.heap.size + 3; omega)); have L2 := Lib.hid (c2.keep L1.out (by show ¬ w.heap.size + 1 = w.heap.size + 3; omega)); have E2 := Lib.hid (c2.keep E1.out (by show ¬ w.heap.size + 2 = w.heap.size + 3; omega)); have k0 : w2.cell? ⟨w.heap.size, 0, none⟩ = some (.int .i64 0) := cellh X2.out rfl; have k1 : w2.cell? ⟨w.heap.size, 1, none⟩ = some (.int .i64 0) := cellh X2.out rfl; have k2 : w2.cell? ⟨w.heap.size, 2, none⟩ = some (.int .i64 0) := cellh X2.out rfl; have k3 : w2.cell? ⟨w.heap.size, 3, none⟩ = some (.int .i64 0) := cellh X2.out rfl; have k4 : w2.cell? ⟨w.heap.size, 4, none⟩ = some (.int .i64 0) := cellh X2.out rfl; have k5 : w2.cell? ⟨w.heap.size, 5, none⟩ = some (.int .i64 0) := cellh X2.out rfl; have k6 : w2.cell? ⟨w.heap.size, 6, none⟩ = some (.int .i64 0) := cellh X2.out rfl; have k7 : w2.cell? ⟨w.heap.size, 7, none⟩ = some (.int .i64 0) := cellh X2.out rfl; have k8 : w2.cell? ⟨w.heap.size, 8, none⟩ = some (.int .i64 0) := cellh X2.out rfl; have k9 : w2.cell? ⟨w.heap.size, 9, none⟩ = some (.slice none 0 0) := cellh X2.out rfl; have k10 : w2.cell? ⟨w.heap.size, 10, none⟩ = some (.slice none 0 0) := cellh X2.out rfl; have f0 : w2.frozen? ⟨w.heap.size, 0, none⟩ = false := froh X2.out; have f1 : w2.frozen? ⟨w.heap.size, 1, none⟩ = false := froh X2.out; have f2 : w2.frozen? ⟨w.heap.size, 2, none⟩ = false := froh X2.out; have f3 : w2.frozen? ⟨w.heap.size, 3, none⟩ = false := froh X2.out; have f4 : w2.frozen? ⟨w.heap.size, 4, none⟩ = false := froh X2.out; have f5 : w2.frozen? ⟨w.heap.size, 5, none⟩ = false := froh X2.out; have f6 : w2.frozen? ⟨w.heap.size, 6, none⟩ = false := froh X2.out; have f7 : w2.frozen? ⟨w.heap.size, 7, none⟩ = false := froh X2.out; have f8 : w2.frozen? ⟨w.heap.size, 8, none⟩ = false := froh X2.out; have f9 : w2.frozen? ⟨w.heap.size, 9, none⟩ = false := froh X2.out; have f10 : w2.frozen? ⟨w.heap.size, 10, none⟩ = false := froh X2.out; clear hcf hrb c2))
          | fail)
        clear k0 f0 k1 f1 k2 f2 k3 f3 k4 f4 k5 f5 k6 f6 k7 f7 k8 f8 k9 f9 k10 f10
        obtain ⟨z3, q3⟩ := set9of X2.out (.int .i64 a0) (.int .i64 a1) (.int .i64 a2) (.int .i64 a3) (.int .i64 a4) (.int .i64 a5) (.int .i64 a6) (.int .i64 a7) (.int .i64 a8)
        have X3 := Lib.hid z3
        have C3 := Lib.hid q3
        obtain ⟨W3, hW3⟩ : ∃ W3, W3 = (((((((((w2.setCell ⟨w.heap.size, 0, none⟩ (.int .i64 a0)).setCell ⟨w.heap.size, 1, none⟩ (.int .i64 a1)).setCell ⟨w.heap.size, 2, none⟩ (.int .i64 a2)).setCell ⟨w.heap.size, 3, none⟩ (.int .i64 a3)).setCell ⟨w.heap.size, 4, none⟩ (.int .i64 a4)).setCell ⟨w.heap.size, 5, none⟩ (.int .i64 a5)).setCell ⟨w.heap.size, 6, none⟩ (.int .i64 a6)).setCell ⟨w.heap.size, 7, none⟩ (.int .i64 a7)).setCell ⟨w.heap.size, 8, none⟩ (.int .i64 a8)) := ⟨_, rfl⟩
        rw [← hW3] at X3 C3 ⊢
        clear hW3 z3 q3
        have L3 := Lib.hid (C3.out.keep L2.out (by show ¬ w.heap.size + 1 = w.heap.size; omega))
        have E3 := Lib.hid (C3.out.keep E2.out (by show ¬ w.heap.size + 2 = w.heap.size; omega))
        have R3 := Lib.hid (show RB W3 (w.heap.size + 3) u l from C3.out.keep R2.out (by show ¬ w.heap.size + 3 = w.heap.size; omega))
        have BW3 := Lib.hid (BW2.out.trans (C3.out.below (lo := w.heap.size) (fun x e => by omega) BW2.out.size))
        have G3 := Lib.hid (G0.out.later BW3.out)
        have RW := Lib.hid (rows_any R3.out G3.out (by omega) (by have := HSL.out; have := HT.out; omega) (by have := HSL.out; have := HT.out; omega))
        rw [HRG.out] at RW
        go_upto_region 7 with (first
          | (go_at_call 40; ((with_reducible refine RW.out.mono ?_); rintro e w4 ⟨v, rfl, ⟨A, c, B, d, hs, rfl, hh1, hh2, hh3⟩, hrb, c4⟩; have R4 := Lib.hid hrb; have M4 := Lib.hid (And.intro hh1 (And.intro hh2 hh3)); have S4 := Lib.hid c4.size; have BW4 := Lib.hid (BW3.out.trans (c4.below (lo := w.heap.size) (fun x e => by omega) BW3.out.size)); have X4 := Lib.hid (c4.keep X3.out (by show ¬ w.heap.size = w.heap.size + 3; omega)); have L4 := Lib.hid (c4.keep L3.out (by show ¬ w.heap.size + 1 = w.heap.size + 3; omega)); have E4 := Lib.hid (c4.keep E3.out (by show ¬ w.heap.size + 2 = w.heap.size + 3; omega)); have k0 : w4.cell? ⟨w.heap.size, 0, none⟩ = some (.int .i64 a0) := cellh X4.out rfl; have k1 : w4.cell? ⟨w.heap.size, 1, none⟩ = some (.int .i64 a1) := cellh X4.out rfl; have k2 : w4.cell? ⟨w.heap.size, 2, none⟩ = some (.int .i64 a2) := cellh X4.out rfl; have k3 : w4.cell? ⟨w.heap.size, 3, none⟩ = some (.int .i64 a3) := cellh X4.out rfl; have k4 : w4.cell? ⟨w.heap.size, 4, none⟩ = some (.int .i64 a4) := cellh X4.out rfl; have k5 : w4.cell? ⟨w.heap.size, 5, none⟩ = some (.int .i64 a5) := cellh X4.out rfl; have k6 : w4.cell? ⟨w.heap.size, 6, none⟩ = some (.int .i64 a6) := cellh X4.out rfl; have k7 : w4.cell? ⟨w.heap.size, 7, none⟩ = some (.int .i64 a7) := cellh X4.out rfl; have k8 : w4.cell? ⟨w.heap.size, 8, none⟩ = some (.int .i64 a8) := cellh X4.out rfl; have k9 : w4.cell? ⟨w.heap.size, 9, none⟩ = some (.slice none 0 0) := cellh X4.out rfl; have k10 : w4.cell? ⟨w.heap.size, 10, none⟩ = some (.slice none 0 0) := cellh X4.out rfl; have f0 : w4.frozen? ⟨w.heap.size, 0, none⟩ = false := froh X4.out; have f1 : w4.frozen? ⟨w.heap.size, 1, none⟩ = false := froh X4.out; have f2 : w4.frozen? ⟨w.heap.size, 2, none⟩ = false := froh X4.out; have f3 : w4.frozen? ⟨w.heap.size, 3, none⟩ = false := froh X4.out; have f4 : w4.frozen? ⟨w.heap.size, 4, none⟩ = false := froh X4.out; have f5 : w4.frozen? ⟨w.heap.size, 5, none⟩ = false := froh X4.out; have f6 : w4.frozen? ⟨w.heap.size, 6, none⟩ = false := froh X4.out; have f7 : w4.frozen? ⟨w.heap.size, 7, none⟩ = false := froh X4.out; have f8 : w4.frozen? ⟨w.heap.size, 8, none⟩ = false := froh X4.out; have f9 : w4.frozen? ⟨w.heap.size, 9, none⟩ = false := froh X4.out; have f10 : w4.frozen? ⟨w.heap.size, 10, none⟩ = false := froh X4.out; clear hh1 hh2 hh3 hrb c4))
          | fail)
        clear k0 f0 k1 f1 k2 f2 k3 f3 k4 f4 k5 f5 k6 f6 k7 f7 k8 f8 k9 f9 k10 f10
        obtain ⟨z5, q5⟩ := set2of X4.out (.slice A rows.length c) (.slice B picks.length d)
        have X5 := Lib.hid z5
        have C5 := Lib.hid q5
        obtain ⟨W5, hW5⟩ : ∃ W5, W5 = ((w4.setCell ⟨w.heap.size, 9, none⟩ (.slice A rows.length c)).setCell ⟨w.heap.size, 10, none⟩ (.slice B picks.length d)) := ⟨_, rfl⟩
        rw [← hW5] at X5 C5 ⊢
        clear hW5 z5 q5
        have L5 := Lib.hid (C5.out.keep L4.out (by show ¬ w.heap.size + 1 = w.heap.size; omega))
        have E5 := Lib.hid (C5.out.keep E4.out (by show ¬ w.heap.size + 2 = w.heap.size; omega))
        have R5 := Lib.hid (show RB W5 (w.heap.size + 3) u2 l2 from C5.out.keep R4.out (by show ¬ w.heap.size + 3 = w.heap.size; omega))
        have BW5 := Lib.hid (BW4.out.trans (C5.out.below (lo := w.heap.size) (fun x e => by omega) BW4.out.size))
        have G5 := Lib.hid (G0.out.later BW5.out)
        have HX3 := Lib.hid (show w.heap.size + 3 < W3.heap.size from R3.out.lt)
        have M5 := Lib.hid (show EH.RdD W5 (fun x => x < W3.heap.size) A hs ∧ RowsR W5 (fun x => x < W3.heap.size) hs rows ∧ EI.RdD W5 (fun x => x < W3.heap.size) B picks from ⟨M4.out.1.chg C5.out (fun x e => by have := HX3.out; show x < _; omega), M4.out.2.1.chg C5.out (fun x e => by have := HX3.out; show x < _; omega), M4.out.2.2.chg C5.out (fun x e => by have := HX3.out; show x < _; omega)⟩)
        have r5 := R5.out.c0
        have k0 : W5.cell? ⟨w.heap.size, 0, none⟩ = some (.int .i64 a0) := cellh X5.out rfl; have k1 : W5.cell? ⟨w.heap.size, 1, none⟩ = some (.int .i64 a1) := cellh X5.out rfl; have k2 : W5.cell? ⟨w.heap.size, 2, none⟩ = some (.int .i64 a2) := cellh X5.out rfl; have k3 : W5.cell? ⟨w.heap.size, 3, none⟩ = some (.int .i64 a3) := cellh X5.out rfl; have k4 : W5.cell? ⟨w.heap.size, 4, none⟩ = some (.int .i64 a4) := cellh X5.out rfl; have k5 : W5.cell? ⟨w.heap.size, 5, none⟩ = some (.int .i64 a5) := cellh X5.out rfl; have k6 : W5.cell? ⟨w.heap.size, 6, none⟩ = some (.int .i64 a6) := cellh X5.out rfl; have k7 : W5.cell? ⟨w.heap.size, 7, none⟩ = some (.int .i64 a7) := cellh X5.out rfl; have k8 : W5.cell? ⟨w.heap.size, 8, none⟩ = some (.int .i64 a8) := cellh X5.out rfl; have k9 : W5.cell? ⟨w.heap.size, 9, none⟩ = some (.slice A rows.length c) := cellh X5.out rfl; have k10 : W5.cell? ⟨w.heap.size, 10, none⟩ = some (.slice B picks.length d) := cellh X5.out rfl; have f0 : W5.frozen? ⟨w.heap.size, 0, none⟩ = false := froh X5.out; have f1 : W5.frozen? ⟨w.heap.size, 1, none⟩ = false := froh X5.out; have f2 : W5.frozen? ⟨w.heap.size, 2, none⟩ = false := froh X5.out; have f3 : W5.frozen? ⟨w.heap.size, 3, none⟩ = false := froh X5.out; have f4 : W5.frozen? ⟨w.heap.size, 4, none⟩ = false := froh X5.out; have f5 : W5.frozen? ⟨w.heap.size, 5, none⟩ = false := froh X5.out; have f6 : W5.frozen? ⟨w.heap.size, 6, none⟩ = false := froh X5.out; have f7 : W5.frozen? ⟨w.heap.size, 7, none⟩ = false := froh X5.out; have f8 : W5.frozen? ⟨w.heap.size, 8, none⟩ = false := froh X5.out; have f9 : W5.frozen? ⟨w.heap.size, 9, none⟩ = false := froh X5.out; have f10 : W5.frozen? ⟨w.heap.size, 10, none⟩ = false := froh X5.out
        have kl := cellh L5.out (i := 0) (v := .int .i64 0) rfl
        have ke : W5.cell? ⟨w.heap.size + 1 + 1, 0, none⟩ = some (.int .i64 0) := cellh E5.out (i := 0) (v := .int .i64 0) rfl
        have fl : W5.frozen? ⟨w.heap.size + 1, 0, none⟩ = false := froh L5.out
        have fe : W5.frozen? ⟨w.heap.size + 1 + 1, 0, none⟩ = false := froh E5.out
        go_wp2_with fail
        clear k0 f0 k1 f1 k2 f2 k3 f3 k4 f4 k5 f5 k6 f6 k7 f7 k8 f8 k9 f9 k10 f10 kl ke fl fe r5 e1
        obtain ⟨z6, q6⟩ := set11of X5.out (.int .i64 a0) (.int .i64 a1) (.int .i64 a2) (.int .i64 a3) (.int .i64 a4) (.int .i64 a5) (.int .i64 a6) (.int .i64 a7) (.int .i64 a8) (.slice A rows.length c) (.slice B picks.length d)
        have C8 := Lib.hid (show Chg (fun x => x < W3.heap.size) W5 (((((((((((((W5.setCell ⟨w.heap.size, 0, none⟩ (.int .i64 a0)).setCell ⟨w.heap.size, 1, none⟩ (.int .i64 a1)).setCell ⟨w.heap.size, 2, none⟩ (.int .i64 a2)).setCell ⟨w.heap.size, 3, none⟩ (.int .i64 a3)).setCell ⟨w.heap.size, 4, none⟩ (.int .i64 a4)).setCell ⟨w.heap.size, 5, none⟩ (.int .i64 a5)).setCell ⟨w.heap.size, 6, none⟩ (.int .i64 a6)).setCell ⟨w.heap.size, 7, none⟩ (.int .i64 a7)).setCell ⟨w.heap.size, 8, none⟩ (.int .i64 a8)).setCell ⟨w.heap.size, 9, none⟩ (.slice A rows.length c)).setCell ⟨w.heap.size, 10, none⟩ (.slice B picks.length d)).setCell ⟨w.heap.size + 1, 0, none⟩ (.int .i64 0)).setCell ⟨w.heap.size + 1 + 1, 0, none⟩ (.int .i64 0)) from chg_set (chg_set (q6.or (by show w.heap.size < _; have := HX3.out; omega)) _ (by show w.heap.size + 1 < _; have := HX3.out; omega)) _ (by show w.heap.size + 1 + 1 < _; have := HX3.out; omega))
        have C7 := Lib.hid (show Chg (fun x => x = w.heap.size + 1 ∨ x = w.heap.size + 1 + 1) (((((((((((W5.setCell ⟨w.heap.size, 0, none⟩ (.int .i64 a0)).setCell ⟨w.heap.size, 1, none⟩ (.int .i64 a1)).setCell ⟨w.heap.size, 2, none⟩ (.int .i64 a2)).setCell ⟨w.heap.size, 3, none⟩ (.int .i64 a3)).setCell ⟨w.heap.size, 4, none⟩ (.int .i64 a4)).setCell ⟨w.heap.size, 5, none⟩ (.int .i64 a5)).setCell ⟨w.heap.size, 6, none⟩ (.int .i64 a6)).setCell ⟨w.heap.size, 7, none⟩ (.int .i64 a7)).setCell ⟨w.heap.size, 8, none⟩ (.int .i64 a8)).setCell ⟨w.heap.size, 9, none⟩ (.slice A rows.length c)).setCell ⟨w.heap.size, 10, none⟩ (.slice B picks.length d)) (((((((((((((W5.setCell ⟨w.heap.size, 0, none⟩ (.int .i64 a0)).setCell ⟨w.heap.size, 1, none⟩ (.int .i64 a1)).setCell ⟨w.heap.size, 2, none⟩ (.int .i64 a2)).setCell ⟨w.heap.size, 3, none⟩ (.int .i64 a3)).setCell ⟨w.heap.size, 4, none⟩ (.int .i64 a4)).setCell ⟨w.heap.size, 5, none⟩ (.int .i64 a5)).setCell ⟨w.heap.size, 6, none⟩ (.int .i64 a6)).setCell ⟨w.heap.size, 7, none⟩ (.int .i64 a7)).setCell ⟨w.heap.size, 8, none⟩ (.int .i64 a8)).setCell ⟨w.heap.size, 9, none⟩ (.slice A rows.length c)).setCell ⟨w.heap.size, 10, none⟩ (.slice B picks.length d)).setCell ⟨w.heap.size + 1, 0, none⟩ (.int .i64 0)).setCell ⟨w.heap.size + 1 + 1, 0, none⟩ (.int .i64 0)) from chg_set (chg_set (Chg.refl _ _) _ (.inl rfl)) _ (.inr rfl))
        have C9 := Lib.hid (show Chg (fun x => w.heap.size ≤ x) W5 (((((((((((((W5.setCell ⟨w.heap.size, 0, none⟩ (.int .i64 a0)).setCell ⟨w.heap.size, 1, none⟩ (.int .i64 a1)).setCell ⟨w.heap.size, 2, none⟩ (.int .i64 a2)).setCell ⟨w.heap.size, 3, none⟩ (.int .i64 a3)).setCell ⟨w.heap.size, 4, none⟩ (.int .i64 a4)).setCell ⟨w.heap.size, 5, none⟩ (.int .i64 a5)).setCell ⟨w.heap.size, 6, none⟩ (.int .i64 a6)).setCell ⟨w.heap.size, 7, none⟩ (.int .i64 a7)).setCell ⟨w.heap.size, 8, none⟩ (.int .i64 a8)).setCell ⟨w.heap.size, 9, none⟩ (.slice A rows.length c)).setCell ⟨w.heap.size, 10, none⟩ (.slice B picks.length d)).setCell ⟨w.heap.size + 1, 0, none⟩ (.int .i64 0)).setCell ⟨w.heap.size + 1 + 1, 0, none⟩ (.int .i64 0)) from chg_set (chg_set (q6.or (Nat.le_refl _)) _ (by show w.heap.size ≤ w.heap.size + 1; omega)) _ (by show w.heap.size ≤ w.heap.size + 1 + 1; omega))
        have L6 := q6.keep L5.out (by show ¬ w.heap.size + 1 = w.heap.size; omega)
        have E6 := q6.keep E5.out (by show ¬ w.heap.size + 2 = w.heap.size; omega)
        have L8 := Lib.hid (hset (i := 0) L6 (.int .i64 0))
        have E7 := (Chg.set (D := fun x => x = w.heap.size + 1) (((((((((((W5.setCell ⟨w.heap.size, 0, none⟩ (.int .i64 a0)).setCell ⟨w.heap.size, 1, none⟩ (.int .i64 a1)).setCell ⟨w.heap.size, 2, none⟩ (.int .i64 a2)).setCell ⟨w.heap.size, 3, none⟩ (.int .i64 a3)).setCell ⟨w.heap.size, 4, none⟩ (.int .i64 a4)).setCell ⟨w.heap.size, 5, none⟩ (.int .i64 a5)).setCell ⟨w.heap.size, 6, none⟩ (.int .i64 a6)).setCell ⟨w.heap.size, 7, none⟩ (.int .i64 a7)).setCell ⟨w.heap.size, 8, none⟩ (.int .i64 a8)).setCell ⟨w.heap.size, 9, none⟩ (.slice A rows.length c)).setCell ⟨w.heap.size, 10, none⟩ (.slice B picks.length d)) (l := w.heap.size + 1) (o := 0) (.int .i64 0) rfl).keep E6 (by show ¬ w.heap.size + 2 = w.heap.size + 1; omega)
        have E8 := Lib.hid (hset (i := 0) E7 (.int .i64 0))
        have L9 := Lib.hid ((Chg.set (D := fun x => x = w.heap.size + 1 + 1) ((((((((((((W5.setCell ⟨w.heap.size, 0, none⟩ (.int .i64 a0)).setCell ⟨w.heap.size, 1, none⟩ (.int .i64 a1)).setCell ⟨w.heap.size, 2, none⟩ (.int .i64 a2)).setCell ⟨w.heap.size, 3, none⟩ (.int .i64 a3)).setCell ⟨w.heap.size, 4, none⟩ (.int .i64 a4)).setCell ⟨w.heap.size, 5, none⟩ (.int .i64 a5)).setCell ⟨w.heap.size, 6, none⟩ (.int .i64 a6)).setCell ⟨w.heap.size, 7, none⟩ (.int .i64 a7)).setCell ⟨w.heap.size, 8, none⟩ (.int .i64 a8)).setCell ⟨w.heap.size, 9, none⟩ (.slice A rows.length c)).setCell ⟨w.heap.size, 10, none⟩ (.slice B picks.length d)).setCell ⟨w.heap.size + 1, 0, none⟩ (.int .i64 0)) (l := w.heap.size + 1 + 1) (o := 0) (.int .i64 0) rfl).keep L8.out (by show ¬ w.heap.size + 1 = w.heap.size + 1 + 1; omega))
        have X9 := Lib.hid (C7.out.keep z6 (by show ¬ (w.heap.size = w.heap.size + 1 ∨ w.heap.size = w.heap.size + 1 + 1); omega))
        clear z6 q6 L6 E6 E7 L8 C7
        obtain ⟨W8, hW8⟩ : ∃ W8, W8 = (((((((((((((W5.setCell ⟨w.heap.size, 0, none⟩ (.int .i64 a0)).setCell ⟨w.heap.size, 1, none⟩ (.int .i64 a1)).setCell ⟨w.heap.size, 2, none⟩ (.int .i64 a2)).setCell ⟨w.heap.size, 3, none⟩ (.int .i64 a3)).setCell ⟨w.heap.size, 4, none⟩ (.int .i64 a4)).setCell ⟨w.heap.size, 5, none⟩ (.int .i64 a5)).setCell ⟨w.heap.size, 6, none⟩ (.int .i64 a6)).setCell ⟨w.heap.size, 7, none⟩ (.int .i64 a7)).setCell ⟨w.heap.size, 8, none⟩ (.int .i64 a8)).setCell ⟨w.heap.size, 9, none⟩ (.slice A rows.length c)).setCell ⟨w.heap.size, 10, none⟩ (.slice B picks.length d)).setCell ⟨w.heap.size + 1, 0, none⟩ (.int .i64 0)).setCell ⟨w.heap.size + 1 + 1, 0, none⟩ (.int .i64 0)) := ⟨_, rfl⟩
        rw [← hW8] at C8 C9 L9 X9 ⊢
        have E9 := Lib.hid (show W8.heap[w.heap.size + 1 + 1]? = some (.cells #[.int .i64 0] 30 (0, 0)) by rw [hW8]; exact E8.out)
        clear hW8 E8
        refine leaves_cons (f := 38) (args := #[.pointer (some ⟨w.heap.size, 0, none⟩), .pointer (some ⟨w.heap.size + 1, 0, none⟩), .pointer (some ⟨w.heap.size + 1 + 1, 0, none⟩)]) (by simp) (by simp [go_sem]) ?_
        refine (catch_idle ⟨w.heap.size, 0, none⟩ ⟨w.heap.size + 1, 0, none⟩ ⟨w.heap.size + 1 + 1, 0, none⟩ W8).mono ?_
        rintro e u' w9 ⟨rfl, rfl, rfl⟩
        have HK := Lib.hid (show ParseP r w (.returned (.tuple #[scA a0 a1 a2 a3 a4 a5 a6 a7 a8 A rows.length c B picks.length d, .int .i64 0, .int .i64 0])) w9 from ⟨by
          rw [HE.out]
          exact ⟨_, rfl, ⟨a0, a1, a2, a3, a4, a5, a6, a7, a8, A, c, B, d, hs, HCF.out, rfl, (M5.out.1.chg C8.out (fun x e => e)).rd, (M5.out.2.1.chg C8.out (fun x e => e)).dom (fun x _ e => e.elim), (M5.out.2.2.chg C8.out (fun x e => e)).rd⟩⟩, BW5.out.trans (C9.out.below (fun x e => e) BW5.out.size)⟩)
        have k0 : w9.cell? ⟨w.heap.size, 0, none⟩ = some (.int .i64 a0) := cellh X9.out rfl; have k1 : w9.cell? ⟨w.heap.size, 1, none⟩ = some (.int .i64 a1) := cellh X9.out rfl; have k2 : w9.cell? ⟨w.heap.size, 2, none⟩ = some (.int .i64 a2) := cellh X9.out rfl; have k3 : w9.cell? ⟨w.heap.size, 3, none⟩ = some (.int .i64 a3) := cellh X9.out rfl; have k4 : w9.cell? ⟨w.heap.size, 4, none⟩ = some (.int .i64 a4) := cellh X9.out rfl; have k5 : w9.cell? ⟨w.heap.size, 5, none⟩ = some (.int .i64 a5) := cellh X9.out rfl; have k6 : w9.cell? ⟨w.heap.size, 6, none⟩ = some (.int .i64 a6) := cellh X9.out rfl; have k7 : w9.cell? ⟨w.heap.size, 7, none⟩ = some (.int .i64 a7) := cellh X9.out rfl; have k8 : w9.cell? ⟨w.heap.size, 8, none⟩ = some (.int .i64 a8) := cellh X9.out rfl; have k9 : w9.cell? ⟨w.heap.size, 9, none⟩ = some (.slice A rows.length c) := cellh X9.out rfl; have k10 : w9.cell? ⟨w.heap.size, 10, none⟩ = some (.slice B picks.length d) := cellh X9.out rfl
        have kl := cellh L9.out (i := 0) (v := .int .i64 0) rfl
        have ke := cellh E9.out (i := 0) (v := .int .i64 0) rfl
        simp [Leaves, settle, results, Tryz.results16, go_sem, k0, k1, k2, k3, k4, k5, k6, k7, k8, k9, k10, kl, ke]
        exact HK.out
      · rw [if_neg hu] at hr
        have e1 : u2.toList.isEmpty = false := ne_empty hu
        cases hn : nextF u2 with
        | none =>
          rw [hn] at hr
          simp only at hr
          have HE : Hid (r = .error (l2 + 1, 5)) := Lib.hid hr.symm
          have HN := Lib.hid hn
          clear hr hu hn
          go_enter_defers Tryz.func16, Tryz.ntmps16
          go_upto_region 5 with fail
          rw [← hW1]
          clear hW1
          go_upto_region 6 with (first
            | (go_at_call 39; ((with_reducible refine SZ.out.mono ?_); rintro e w2 ⟨v, rfl, ⟨a0, a1, a2, a3, a4, a5, a6, a7, a8, hcf, rfl⟩, hrb, c2⟩; have HCF := Lib.hid hcf; have R2 := Lib.hid hrb; have BW2 := Lib.hid (HB1.out.trans (c2.below (lo := w.heap.size) (fun x e => by omega) HB1.out.size)); have C2 := Lib.hid c2; have X2 := Lib.hid (c2.keep X1.out (by show ¬ w.heap.size = w.heap.size + 3; omega)); have L2 := Lib.hid (c2.keep L1.out (by show ¬ w.heap.size + 1 = w.heap.size + 3; omega)); have E2 := Lib.hid (c2.keep E1.out (by show ¬ w.heap.size + 2 = w.heap.size + 3; omega)); have k0 : w2.cell? ⟨w.heap.size, 0, none⟩ = some (.int .i64 0) := cellh X2.out rfl; have k1 : w2.cell? ⟨w.heap.size, 1, none⟩ = some (.int .i64 0) := cellh X2.out rfl; have k2 : w2.cell? ⟨w.heap.size, 2, none⟩ = some (.int .i64 0) := cellh X2.out rfl; have k3 : w2.cell? ⟨w.heap.size, 3, none⟩ = some (.int .i64 0) := cellh X2.out rfl; have k4 : w2.cell? ⟨w.heap.size, 4, none⟩ = some (.int .i64 0) := cellh X2.out rfl; have k5 : w2.cell? ⟨w.heap.size, 5, none⟩ = some (.int .i64 0) := cellh X2.out rfl; have k6 : w2.cell? ⟨w.heap.size, 6, none⟩ = some (.int .i64 0) := cellh X2.out rfl; have k7 : w2.cell? ⟨w.heap.size, 7, none⟩ = some (.int .i64 0) := cellh X2.out rfl; have k8 : w2.cell? ⟨w.heap.size, 8, none⟩ = some (.int .i64 0) := cellh X2.out rfl; have k9 : w2.cell? ⟨w.heap.size, 9, none⟩ = some (.slice none 0 0) := cellh X2.out rfl; have k10 : w2.cell? ⟨w.heap.size, 10, none⟩ = some (.slice none 0 0) := cellh X2.out rfl; have f0 : w2.frozen? ⟨w.heap.size, 0, none⟩ = false := froh X2.out; have f1 : w2.frozen? ⟨w.heap.size, 1, none⟩ = false := froh X2.out; have f2 : w2.frozen? ⟨w.heap.size, 2, none⟩ = false := froh X2.out; have f3 : w2.frozen? ⟨w.heap.size, 3, none⟩ = false := froh X2.out; have f4 : w2.frozen? ⟨w.heap.size, 4, none⟩ = false := froh X2.out; have f5 : w2.frozen? ⟨w.heap.size, 5, none⟩ = false := froh X2.out; have f6 : w2.frozen? ⟨w.heap.size, 6, none⟩ = false := froh X2.out; have f7 : w2.frozen? ⟨w.heap.size, 7, none⟩ = false := froh X2.out; have f8 : w2.frozen? ⟨w.heap.size, 8, none⟩ = false := froh X2.out; have f9 : w2.frozen? ⟨w.heap.size, 9, none⟩ = false := froh X2.out; have f10 : w2.frozen? ⟨w.heap.size, 10, none⟩ = false := froh X2.out; clear hcf hrb c2))
            | fail)
          clear k0 f0 k1 f1 k2 f2 k3 f3 k4 f4 k5 f5 k6 f6 k7 f7 k8 f8 k9 f9 k10 f10
          obtain ⟨z3, q3⟩ := set9of X2.out (.int .i64 a0) (.int .i64 a1) (.int .i64 a2) (.int .i64 a3) (.int .i64 a4) (.int .i64 a5) (.int .i64 a6) (.int .i64 a7) (.int .i64 a8)
          have X3 := Lib.hid z3
          have C3 := Lib.hid q3
          obtain ⟨W3, hW3⟩ : ∃ W3, W3 = (((((((((w2.setCell ⟨w.heap.size, 0, none⟩ (.int .i64 a0)).setCell ⟨w.heap.size, 1, none⟩ (.int .i64 a1)).setCell ⟨w.heap.size, 2, none⟩ (.int .i64 a2)).setCell ⟨w.heap.size, 3, none⟩ (.int .i64 a3)).setCell ⟨w.heap.size, 4, none⟩ (.int .i64 a4)).setCell ⟨w.heap.size, 5, none⟩ (.int .i64 a5)).setCell ⟨w.heap.size, 6, none⟩ (.int .i64 a6)).setCell ⟨w.heap.size, 7, none⟩ (.int .i64 a7)).setCell ⟨w.heap.size, 8, none⟩ (.int .i64 a8)) := ⟨_, rfl⟩
          rw [← hW3] at X3 C3 ⊢
          clear hW3 z3 q3
          have L3 := Lib.hid (C3.out.keep L2.out (by show ¬ w.heap.size + 1 = w.heap.size; omega))
          have E3 := Lib.hid (C3.out.keep E2.out (by show ¬ w.heap.size + 2 = w.heap.size; omega))
          have R3 := Lib.hid (show RB W3 (w.heap.size + 3) u l from C3.out.keep R2.out (by show ¬ w.heap.size + 3 = w.heap.size; omega))
          have BW3 := Lib.hid (BW2.out.trans (C3.out.below (lo := w.heap.size) (fun x e => by omega) BW2.out.size))
          have G3 := Lib.hid (G0.out.later BW3.out)
          have RW := Lib.hid (rows_any R3.out G3.out (by omega) (by have := HSL.out; have := HT.out; omega) (by have := HSL.out; have := HT.out; omega))
          rw [HRG.out] at RW
          go_upto_region 7 with (first
            | (go_at_call 40; ((with_reducible refine RW.out.mono ?_); rintro e w4 ⟨v, rfl, ⟨A, c, B, d, hs, rfl, hh1, hh2, hh3⟩, hrb, c4⟩; have R4 := Lib.hid hrb; have M4 := Lib.hid (And.intro hh1 (And.intro hh2 hh3)); have S4 := Lib.hid c4.size; have BW4 := Lib.hid (BW3.out.trans (c4.below (lo := w.heap.size) (fun x e => by omega) BW3.out.size)); have X4 := Lib.hid (c4.keep X3.out (by show ¬ w.heap.size = w.heap.size + 3; omega)); have L4 := Lib.hid (c4.keep L3.out (by show ¬ w.heap.size + 1 = w.heap.size + 3; omega)); have E4 := Lib.hid (c4.keep E3.out (by show ¬ w.heap.size + 2 = w.heap.size + 3; omega)); have k0 : w4.cell? ⟨w.heap.size, 0, none⟩ = some (.int .i64 a0) := cellh X4.out rfl; have k1 : w4.cell? ⟨w.heap.size, 1, none⟩ = some (.int .i64 a1) := cellh X4.out rfl; have k2 : w4.cell? ⟨w.heap.size, 2, none⟩ = some (.int .i64 a2) := cellh X4.out rfl; have k3 : w4.cell? ⟨w.heap.size, 3, none⟩ = some (.int .i64 a3) := cellh X4.out rfl; have k4 : w4.cell? ⟨w.heap.size, 4, none⟩ = some (.int .i64 a4) := cellh X4.out rfl; have k5 : w4.cell? ⟨w.heap.size, 5, none⟩ = some (.int .i64 a5) := cellh X4.out rfl; have k6 : w4.cell? ⟨w.heap.size, 6, none⟩ = some (.int .i64 a6) := cellh X4.out rfl; have k7 : w4.cell? ⟨w.heap.size, 7, none⟩ = some (.int .i64 a7) := cellh X4.out rfl; have k8 : w4.cell? ⟨w.heap.size, 8, none⟩ = some (.int .i64 a8) := cellh X4.out rfl; have k9 : w4.cell? ⟨w.heap.size, 9, none⟩ = some (.slice none 0 0) := cellh X4.out rfl; have k10 : w4.cell? ⟨w.heap.size, 10, none⟩ = some (.slice none 0 0) := cellh X4.out rfl; have f0 : w4.frozen? ⟨w.heap.size, 0, none⟩ = false := froh X4.out; have f1 : w4.frozen? ⟨w.heap.size, 1, none⟩ = false := froh X4.out; have f2 : w4.frozen? ⟨w.heap.size, 2, none⟩ = false := froh X4.out; have f3 : w4.frozen? ⟨w.heap.size, 3, none⟩ = false := froh X4.out; have f4 : w4.frozen? ⟨w.heap.size, 4, none⟩ = false := froh X4.out; have f5 : w4.frozen? ⟨w.heap.size, 5, none⟩ = false := froh X4.out; have f6 : w4.frozen? ⟨w.heap.size, 6, none⟩ = false := froh X4.out; have f7 : w4.frozen? ⟨w.heap.size, 7, none⟩ = false := froh X4.out; have f8 : w4.frozen? ⟨w.heap.size, 8, none⟩ = false := froh X4.out; have f9 : w4.frozen? ⟨w.heap.size, 9, none⟩ = false := froh X4.out; have f10 : w4.frozen? ⟨w.heap.size, 10, none⟩ = false := froh X4.out; clear hh1 hh2 hh3 hrb c4))
            | fail)
          clear k0 f0 k1 f1 k2 f2 k3 f3 k4 f4 k5 f5 k6 f6 k7 f7 k8 f8 k9 f9 k10 f10
          obtain ⟨z5, q5⟩ := set2of X4.out (.slice A rows.length c) (.slice B picks.length d)
          have X5 := Lib.hid z5
          have C5 := Lib.hid q5
          obtain ⟨W5, hW5⟩ : ∃ W5, W5 = ((w4.setCell ⟨w.heap.size, 9, none⟩ (.slice A rows.length c)).setCell ⟨w.heap.size, 10, none⟩ (.slice B picks.length d)) := ⟨_, rfl⟩
          rw [← hW5] at X5 C5 ⊢
          clear hW5 z5 q5
          have L5 := Lib.hid (C5.out.keep L4.out (by show ¬ w.heap.size + 1 = w.heap.size; omega))
          have E5 := Lib.hid (C5.out.keep E4.out (by show ¬ w.heap.size + 2 = w.heap.size; omega))
          have R5 := Lib.hid (show RB W5 (w.heap.size + 3) u2 l2 from C5.out.keep R4.out (by show ¬ w.heap.size + 3 = w.heap.size; omega))
          have BW5 := Lib.hid (BW4.out.trans (C5.out.below (lo := w.heap.size) (fun x e => by omega) BW4.out.size))
          have G5 := Lib.hid (G0.out.later BW5.out)
          have HX3 := Lib.hid (show w.heap.size + 3 < W3.heap.size from R3.out.lt)
          have M5 := Lib.hid (show EH.RdD W5 (fun x => x < W3.heap.size) A hs ∧ RowsR W5 (fun x => x < W3.heap.size) hs rows ∧ EI.RdD W5 (fun x => x < W3.heap.size) B picks from ⟨M4.out.1.chg C5.out (fun x e => by have := HX3.out; show x < _; omega), M4.out.2.1.chg C5.out (fun x e => by have := HX3.out; show x < _; omega), M4.out.2.2.chg C5.out (fun x e => by have := HX3.out; show x < _; omega)⟩)
          have r5 := R5.out.c0
          have NX := Lib.hid (next_bad R5.out G5.out (by omega) (by have := HSL.out; have := HRL.out; have := HT.out; omega) (by have := HSL.out; have := HRL.out; have := HT.out; omega) HN.out)
          go_wp2_with (first
            | (go_at_call 41; ((with_reducible refine NX.out.mono ?_); rintro e w6 ⟨rfl, c6⟩; have C6 := Lib.hid c6; clear c6))
            | fail)
          have BW := Lib.hid (BW5.out.trans (C6.out.below (lo := w.heap.size) (fun x e => by omega) BW5.out.size))
          have X6 := Lib.hid (C6.out.keep X5.out (by show ¬ w.heap.size = w.heap.size + 3; omega)); have L6 := Lib.hid (C6.out.keep L5.out (by show ¬ w.heap.size + 1 = w.heap.size + 3; omega)); have E6 := Lib.hid (C6.out.keep E5.out (by show ¬ w.heap.size + 2 = w.heap.size + 3; omega))
          refine leaves_cons (f := 38) (args := #[.pointer (some ⟨w.heap.size, 0, none⟩), .pointer (some ⟨w.heap.size + 1, 0, none⟩), .pointer (some ⟨w.heap.size + 2, 0, none⟩)]) (by simp) (by simp [go_sem]) ?_
          refine (catch_fault w.heap.size (w.heap.size + 1) (w.heap.size + 2) _ _ (.int .i64 a0) (.int .i64 a1) (.int .i64 a2) (.int .i64 a3) (.int .i64 a4) (.int .i64 a5) (.int .i64 a6) (.int .i64 a7) (.int .i64 a8) (.slice A rows.length c) (.slice B picks.length d) (.int .i64 0) (.int .i64 0) w6 X6.out L6.out E6.out (by omega) (by omega) (by omega)).mono ?_
          rintro e u' w9 ⟨rfl, rfl, x9, l9, e9, c9⟩
          have B9 := Lib.hid (c9.below (lo := w.heap.size) (fun x e => by omega) BW.out.size)
          have k0 : w9.cell? ⟨w.heap.size, 0, none⟩ = some (.int .i64 0) := cellh x9 rfl
          have k1 : w9.cell? ⟨w.heap.size, 1, none⟩ = some (.int .i64 0) := cellh x9 rfl
          have k2 : w9.cell? ⟨w.heap.size, 2, none⟩ = some (.int .i64 0) := cellh x9 rfl
          have k3 : w9.cell? ⟨w.heap.size, 3, none⟩ = some (.int .i64 0) := cellh x9 rfl
          have k4 : w9.cell? ⟨w.heap.size, 4, none⟩ = some (.int .i64 0) := cellh x9 rfl
          have k5 : w9.cell? ⟨w.heap.size, 5, none⟩ = some (.int .i64 0) := cellh x9 rfl
          have k6 : w9.cell? ⟨w.heap.size, 6, none⟩ = some (.int .i64 0) := cellh x9 rfl
          have k7 : w9.cell? ⟨w.heap.size, 7, none⟩ = some (.int .i64 0) := cellh x9 rfl
          have k8 : w9.cell? ⟨w.heap.size, 8, none⟩ = some (.int .i64 0) := cellh x9 rfl
          have k9 : w9.cell? ⟨w.heap.size, 9, none⟩ = some (.slice none 0 0) := cellh x9 rfl
          have k10 : w9.cell? ⟨w.heap.size, 10, none⟩ = some (.slice none 0 0) := cellh x9 rfl
          have kl := cellh l9 (i := 0) (v := .int .i64 (l2 + 1)) rfl
          have ke : w9.cell? ⟨w.heap.size + 1 + 1, 0, none⟩ = some (.int .i64 (5)) := cellh e9 (i := 0) (v := .int .i64 (5)) rfl
          clear x9 l9 e9 c9
          have HK := Lib.hid (show ParseP r w (.returned (.tuple #[scA 0 0 0 0 0 0 0 0 0 none 0 0 none 0 0, .int .i64 (l2 + 1), .int .i64 (5)])) w9 from ⟨by rw [HE.out], BW.out.trans B9.out⟩)
          simp [Leaves, settle, results, Tryz.results16, go_sem, FP, k0, k1, k2, k3, k4, k5, k6, k7, k8, k9, k10, kl, ke]
          exact HK.out
        | some q3 =>
          obtain ⟨ws, u3⟩ := q3
          rw [hn] at hr
          simp only at hr
          have HE : Hid (r = .error (l2 + 1, 3)) := Lib.hid hr.symm
          have HN := Lib.hid hn
          clear hr hu hn
          go_enter_defers Tryz.func16, Tryz.ntmps16
          go_upto_region 5 with fail
          rw [← hW1]
          clear hW1
          go_upto_region 6 with (first
            | (go_at_call 39; ((with_reducible refine SZ.out.mono ?_); rintro e w2 ⟨v, rfl, ⟨a0, a1, a2, a3, a4, a5, a6, a7, a8, hcf, rfl⟩, hrb, c2⟩; have HCF := Lib.hid hcf; have R2 := Lib.hid hrb; have BW2 := Lib.hid (HB1.out.trans (c2.below (lo := w.heap.size) (fun x e => by omega) HB1.out.size)); have C2 := Lib.hid c2; have X2 := Lib.hid (c2.keep X1.out (by show ¬ w.heap.size = w.heap.size + 3; omega)); have L2 := Lib.hid (c2.keep L1.out (by show ¬ w.heap.size + 1 = w.heap.size + 3; omega)); have E2 := Lib.hid (c2.keep E1.out (by show ¬ w.heap.size + 2 = w.heap.size + 3; omega)); have k0 : w2.cell? ⟨w.heap.size, 0, none⟩ = some (.int .i64 0) := cellh X2.out rfl; have k1 : w2.cell? ⟨w.heap.size, 1, none⟩ = some (.int .i64 0) := cellh X2.out rfl; have k2 : w2.cell? ⟨w.heap.size, 2, none⟩ = some (.int .i64 0) := cellh X2.out rfl; have k3 : w2.cell? ⟨w.heap.size, 3, none⟩ = some (.int .i64 0) := cellh X2.out rfl; have k4 : w2.cell? ⟨w.heap.size, 4, none⟩ = some (.int .i64 0) := cellh X2.out rfl; have k5 : w2.cell? ⟨w.heap.size, 5, none⟩ = some (.int .i64 0) := cellh X2.out rfl; have k6 : w2.cell? ⟨w.heap.size, 6, none⟩ = some (.int .i64 0) := cellh X2.out rfl; have k7 : w2.cell? ⟨w.heap.size, 7, none⟩ = some (.int .i64 0) := cellh X2.out rfl; have k8 : w2.cell? ⟨w.heap.size, 8, none⟩ = some (.int .i64 0) := cellh X2.out rfl; have k9 : w2.cell? ⟨w.heap.size, 9, none⟩ = some (.slice none 0 0) := cellh X2.out rfl; have k10 : w2.cell? ⟨w.heap.size, 10, none⟩ = some (.slice none 0 0) := cellh X2.out rfl; have f0 : w2.frozen? ⟨w.heap.size, 0, none⟩ = false := froh X2.out; have f1 : w2.frozen? ⟨w.heap.size, 1, none⟩ = false := froh X2.out; have f2 : w2.frozen? ⟨w.heap.size, 2, none⟩ = false := froh X2.out; have f3 : w2.frozen? ⟨w.heap.size, 3, none⟩ = false := froh X2.out; have f4 : w2.frozen? ⟨w.heap.size, 4, none⟩ = false := froh X2.out; have f5 : w2.frozen? ⟨w.heap.size, 5, none⟩ = false := froh X2.out; have f6 : w2.frozen? ⟨w.heap.size, 6, none⟩ = false := froh X2.out; have f7 : w2.frozen? ⟨w.heap.size, 7, none⟩ = false := froh X2.out; have f8 : w2.frozen? ⟨w.heap.size, 8, none⟩ = false := froh X2.out; have f9 : w2.frozen? ⟨w.heap.size, 9, none⟩ = false := froh X2.out; have f10 : w2.frozen? ⟨w.heap.size, 10, none⟩ = false := froh X2.out; clear hcf hrb c2))
            | fail)
          clear k0 f0 k1 f1 k2 f2 k3 f3 k4 f4 k5 f5 k6 f6 k7 f7 k8 f8 k9 f9 k10 f10
          obtain ⟨z3, q3⟩ := set9of X2.out (.int .i64 a0) (.int .i64 a1) (.int .i64 a2) (.int .i64 a3) (.int .i64 a4) (.int .i64 a5) (.int .i64 a6) (.int .i64 a7) (.int .i64 a8)
          have X3 := Lib.hid z3
          have C3 := Lib.hid q3
          obtain ⟨W3, hW3⟩ : ∃ W3, W3 = (((((((((w2.setCell ⟨w.heap.size, 0, none⟩ (.int .i64 a0)).setCell ⟨w.heap.size, 1, none⟩ (.int .i64 a1)).setCell ⟨w.heap.size, 2, none⟩ (.int .i64 a2)).setCell ⟨w.heap.size, 3, none⟩ (.int .i64 a3)).setCell ⟨w.heap.size, 4, none⟩ (.int .i64 a4)).setCell ⟨w.heap.size, 5, none⟩ (.int .i64 a5)).setCell ⟨w.heap.size, 6, none⟩ (.int .i64 a6)).setCell ⟨w.heap.size, 7, none⟩ (.int .i64 a7)).setCell ⟨w.heap.size, 8, none⟩ (.int .i64 a8)) := ⟨_, rfl⟩
          rw [← hW3] at X3 C3 ⊢
          clear hW3 z3 q3
          have L3 := Lib.hid (C3.out.keep L2.out (by show ¬ w.heap.size + 1 = w.heap.size; omega))
          have E3 := Lib.hid (C3.out.keep E2.out (by show ¬ w.heap.size + 2 = w.heap.size; omega))
          have R3 := Lib.hid (show RB W3 (w.heap.size + 3) u l from C3.out.keep R2.out (by show ¬ w.heap.size + 3 = w.heap.size; omega))
          have BW3 := Lib.hid (BW2.out.trans (C3.out.below (lo := w.heap.size) (fun x e => by omega) BW2.out.size))
          have G3 := Lib.hid (G0.out.later BW3.out)
          have RW := Lib.hid (rows_any R3.out G3.out (by omega) (by have := HSL.out; have := HT.out; omega) (by have := HSL.out; have := HT.out; omega))
          rw [HRG.out] at RW
          go_upto_region 7 with (first
            | (go_at_call 40; ((with_reducible refine RW.out.mono ?_); rintro e w4 ⟨v, rfl, ⟨A, c, B, d, hs, rfl, hh1, hh2, hh3⟩, hrb, c4⟩; have R4 := Lib.hid hrb; have M4 := Lib.hid (And.intro hh1 (And.intro hh2 hh3)); have S4 := Lib.hid c4.size; have BW4 := Lib.hid (BW3.out.trans (c4.below (lo := w.heap.size) (fun x e => by omega) BW3.out.size)); have X4 := Lib.hid (c4.keep X3.out (by show ¬ w.heap.size = w.heap.size + 3; omega)); have L4 := Lib.hid (c4.keep L3.out (by show ¬ w.heap.size + 1 = w.heap.size + 3; omega)); have E4 := Lib.hid (c4.keep E3.out (by show ¬ w.heap.size + 2 = w.heap.size + 3; omega)); have k0 : w4.cell? ⟨w.heap.size, 0, none⟩ = some (.int .i64 a0) := cellh X4.out rfl; have k1 : w4.cell? ⟨w.heap.size, 1, none⟩ = some (.int .i64 a1) := cellh X4.out rfl; have k2 : w4.cell? ⟨w.heap.size, 2, none⟩ = some (.int .i64 a2) := cellh X4.out rfl; have k3 : w4.cell? ⟨w.heap.size, 3, none⟩ = some (.int .i64 a3) := cellh X4.out rfl; have k4 : w4.cell? ⟨w.heap.size, 4, none⟩ = some (.int .i64 a4) := cellh X4.out rfl; have k5 : w4.cell? ⟨w.heap.size, 5, none⟩ = some (.int .i64 a5) := cellh X4.out rfl; have k6 : w4.cell? ⟨w.heap.size, 6, none⟩ = some (.int .i64 a6) := cellh X4.out rfl; have k7 : w4.cell? ⟨w.heap.size, 7, none⟩ = some (.int .i64 a7) := cellh X4.out rfl; have k8 : w4.cell? ⟨w.heap.size, 8, none⟩ = some (.int .i64 a8) := cellh X4.out rfl; have k9 : w4.cell? ⟨w.heap.size, 9, none⟩ = some (.slice none 0 0) := cellh X4.out rfl; have k10 : w4.cell? ⟨w.heap.size, 10, none⟩ = some (.slice none 0 0) := cellh X4.out rfl; have f0 : w4.frozen? ⟨w.heap.size, 0, none⟩ = false := froh X4.out; have f1 : w4.frozen? ⟨w.heap.size, 1, none⟩ = false := froh X4.out; have f2 : w4.frozen? ⟨w.heap.size, 2, none⟩ = false := froh X4.out; have f3 : w4.frozen? ⟨w.heap.size, 3, none⟩ = false := froh X4.out; have f4 : w4.frozen? ⟨w.heap.size, 4, none⟩ = false := froh X4.out; have f5 : w4.frozen? ⟨w.heap.size, 5, none⟩ = false := froh X4.out; have f6 : w4.frozen? ⟨w.heap.size, 6, none⟩ = false := froh X4.out; have f7 : w4.frozen? ⟨w.heap.size, 7, none⟩ = false := froh X4.out; have f8 : w4.frozen? ⟨w.heap.size, 8, none⟩ = false := froh X4.out; have f9 : w4.frozen? ⟨w.heap.size, 9, none⟩ = false := froh X4.out; have f10 : w4.frozen? ⟨w.heap.size, 10, none⟩ = false := froh X4.out; clear hh1 hh2 hh3 hrb c4))
            | fail)
          clear k0 f0 k1 f1 k2 f2 k3 f3 k4 f4 k5 f5 k6 f6 k7 f7 k8 f8 k9 f9 k10 f10
          obtain ⟨z5, q5⟩ := set2of X4.out (.slice A rows.length c) (.slice B picks.length d)
          have X5 := Lib.hid z5
          have C5 := Lib.hid q5
          obtain ⟨W5, hW5⟩ : ∃ W5, W5 = ((w4.setCell ⟨w.heap.size, 9, none⟩ (.slice A rows.length c)).setCell ⟨w.heap.size, 10, none⟩ (.slice B picks.length d)) := ⟨_, rfl⟩
          rw [← hW5] at X5 C5 ⊢
          clear hW5 z5 q5
          have L5 := Lib.hid (C5.out.keep L4.out (by show ¬ w.heap.size + 1 = w.heap.size; omega))
          have E5 := Lib.hid (C5.out.keep E4.out (by show ¬ w.heap.size + 2 = w.heap.size; omega))
          have R5 := Lib.hid (show RB W5 (w.heap.size + 3) u2 l2 from C5.out.keep R4.out (by show ¬ w.heap.size + 3 = w.heap.size; omega))
          have BW5 := Lib.hid (BW4.out.trans (C5.out.below (lo := w.heap.size) (fun x e => by omega) BW4.out.size))
          have G5 := Lib.hid (G0.out.later BW5.out)
          have HX3 := Lib.hid (show w.heap.size + 3 < W3.heap.size from R3.out.lt)
          have M5 := Lib.hid (show EH.RdD W5 (fun x => x < W3.heap.size) A hs ∧ RowsR W5 (fun x => x < W3.heap.size) hs rows ∧ EI.RdD W5 (fun x => x < W3.heap.size) B picks from ⟨M4.out.1.chg C5.out (fun x e => by have := HX3.out; show x < _; omega), M4.out.2.1.chg C5.out (fun x e => by have := HX3.out; show x < _; omega), M4.out.2.2.chg C5.out (fun x e => by have := HX3.out; show x < _; omega)⟩)
          have r5 := R5.out.c0
          have NX := Lib.hid (next_ok R5.out G5.out (by omega) (by have := HSL.out; have := HRL.out; have := HT.out; omega) (by have := HSL.out; have := HRL.out; have := HT.out; omega) HN.out)
          go_wp2_with (first
            | (go_at_call 41; ((with_reducible refine NX.out.mono ?_); rintro e w6 ⟨b6, n6, rfl, h61, h62, h63, h64, c6⟩; have C6 := Lib.hid c6; have R6 := Lib.hid h64; clear c6 h61 h62 h63 h64))
            | (go_at_call 42; ((with_reducible refine (check_bad (w.heap.size + 3) 3 _ R6.out).mono ?_); rintro e w0 ⟨rfl, rfl⟩))
            | fail)
          have BW := Lib.hid (BW5.out.trans (C6.out.below (lo := w.heap.size) (fun x e => by omega) BW5.out.size))
          have X6 := Lib.hid (C6.out.keep X5.out (by show ¬ w.heap.size = w.heap.size + 3; omega)); have L6 := Lib.hid (C6.out.keep L5.out (by show ¬ w.heap.size + 1 = w.heap.size + 3; omega)); have E6 := Lib.hid (C6.out.keep E5.out (by show ¬ w.heap.size + 2 = w.heap.size + 3; omega))
          refine leaves_cons (f := 38) (args := #[.pointer (some ⟨w.heap.size, 0, none⟩), .pointer (some ⟨w.heap.size + 1, 0, none⟩), .pointer (some ⟨w.heap.size + 2, 0, none⟩)]) (by simp) (by simp [go_sem]) ?_
          refine (catch_fault w.heap.size (w.heap.size + 1) (w.heap.size + 2) _ _ (.int .i64 a0) (.int .i64 a1) (.int .i64 a2) (.int .i64 a3) (.int .i64 a4) (.int .i64 a5) (.int .i64 a6) (.int .i64 a7) (.int .i64 a8) (.slice A rows.length c) (.slice B picks.length d) (.int .i64 0) (.int .i64 0) w6 X6.out L6.out E6.out (by omega) (by omega) (by omega)).mono ?_
          rintro e u' w9 ⟨rfl, rfl, x9, l9, e9, c9⟩
          have B9 := Lib.hid (c9.below (lo := w.heap.size) (fun x e => by omega) BW.out.size)
          have k0 : w9.cell? ⟨w.heap.size, 0, none⟩ = some (.int .i64 0) := cellh x9 rfl
          have k1 : w9.cell? ⟨w.heap.size, 1, none⟩ = some (.int .i64 0) := cellh x9 rfl
          have k2 : w9.cell? ⟨w.heap.size, 2, none⟩ = some (.int .i64 0) := cellh x9 rfl
          have k3 : w9.cell? ⟨w.heap.size, 3, none⟩ = some (.int .i64 0) := cellh x9 rfl
          have k4 : w9.cell? ⟨w.heap.size, 4, none⟩ = some (.int .i64 0) := cellh x9 rfl
          have k5 : w9.cell? ⟨w.heap.size, 5, none⟩ = some (.int .i64 0) := cellh x9 rfl
          have k6 : w9.cell? ⟨w.heap.size, 6, none⟩ = some (.int .i64 0) := cellh x9 rfl
          have k7 : w9.cell? ⟨w.heap.size, 7, none⟩ = some (.int .i64 0) := cellh x9 rfl
          have k8 : w9.cell? ⟨w.heap.size, 8, none⟩ = some (.int .i64 0) := cellh x9 rfl
          have k9 : w9.cell? ⟨w.heap.size, 9, none⟩ = some (.slice none 0 0) := cellh x9 rfl
          have k10 : w9.cell? ⟨w.heap.size, 10, none⟩ = some (.slice none 0 0) := cellh x9 rfl
          have kl := cellh l9 (i := 0) (v := .int .i64 (l2 + 1)) rfl
          have ke : w9.cell? ⟨w.heap.size + 1 + 1, 0, none⟩ = some (.int .i64 (3)) := cellh e9 (i := 0) (v := .int .i64 (3)) rfl
          clear x9 l9 e9 c9
          have HK := Lib.hid (show ParseP r w (.returned (.tuple #[scA 0 0 0 0 0 0 0 0 0 none 0 0 none 0 0, .int .i64 (l2 + 1), .int .i64 (3)])) w9 from ⟨by rw [HE.out], BW.out.trans B9.out⟩)
          simp [Leaves, settle, results, Tryz.results16, go_sem, FP, k0, k1, k2, k3, k4, k5, k6, k7, k8, k9, k10, kl, ke]
          exact HK.out
end Go.Proofs.YtelpkajlejbbgaaGreatDoor
