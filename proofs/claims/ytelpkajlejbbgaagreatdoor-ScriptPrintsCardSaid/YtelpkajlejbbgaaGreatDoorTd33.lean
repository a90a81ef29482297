/- Texts of the proof, one behind the other. -/
import Derived.Test.YtelpkajlejbbgaaGreatDoorTd09
import Derived.Test.YtelpkajlejbbgaaGreatDoorTd01
import Derived.Test.YtelpkajlejbbgaaGreatDoorTd30
import Derived.Test.YtelpkajlejbbgaaGreatDoorTd11
set_option linter.unusedVariables false
set_option linter.unusedSimpArgs false
namespace Go.Proofs.YtelpkajlejbbgaaGreatDoor
open Go.RowKit

def inB (t : Int × Int × Int) : Bool := decide (t.1 ≤ t.2.1) && decide (t.2.1 ≤ t.2.2)

set_option maxRecDepth 100000 in
set_option maxHeartbeats 2000000 in
theorem within_any (b off n c : Nat) (l : List (Int × Int × Int)) (w : World) (hl : l.length = n) (hn : n ≤ 1000000) (hlt : b < w.heap.size)
    (hD : ∀ i (h : i < l.length), w.cell? ⟨b, off + i * 3, none⟩ = some (.int .i64 l[i].1) ∧ w.cell? ⟨b, off + i * 3 + 1, none⟩ = some (.int .i64 l[i].2.1) ∧ w.cell? ⟨b, off + i * 3 + 2, none⟩ = some (.int .i64 l[i].2.2)) :
    Calls Tryz.prog 54 #[.slice (some ⟨b, off, none⟩) n c] w fun e w' => e = .returned (.bool (l.all inB)) ∧ Below w.heap.size w w' := by
  have HL := Lib.hid hl
  have HD := Lib.hid hD
  clear hl hD
  go_enter Tryz.func54, Tryz.ntmps54
  go_wp2
  go_loopw [7] (fun iv wr => ∃ k : Nat, k ≤ n ∧ iv = .int .i64 k ∧ (l.take k).all inB = true ∧ Below w.heap.size w wr) (fun i _ => n - (intOf i).toNat)
  case atStart => exact ⟨0, by omega, rfl, by simp, Below.refl _ _⟩
  case round =>
    obtain ⟨k, hk, rfl, ht, hb⟩ := hrel
    by_cases h8 : k = n
    · have he : l.take k = l := by rw [h8, ← HL.out]; exact List.take_length
      rw [he] at ht
      have HT := Lib.hid ht
      have hkn : ¬ (k : Int) < (n : Int) := by omega
      clear he ht
      go_wp2
      go_ret
      exact ⟨by rw [HT.out]; rfl, hb⟩
    · have hkn : k < n := by omega
      have hk1 : (k : Int) < (n : Int) := by omega
      have hk0 : (0 : Int) ≤ (k : Int) := by omega
      have hkl : k < l.length := by rw [HL.out]; exact hkn
      obtain ⟨d0, d1, d2⟩ := HD.out k hkl
      have e0 := bel_later hb d0
      have e1 := bel_later hb d1
      have e2 := bel_later hb d2
      have hs : l.take (k + 1) = l.take k ++ [l[k]] := List.take_succ_eq_append_getElem hkl
      have hin : l[k] ∈ l := List.getElem_mem hkl
      obtain ⟨⟨x, y, z⟩, hx⟩ : ∃ t, t = l[k] := ⟨_, rfl⟩
      rw [← hx] at e0 e1 e2 hs hin
      simp only at e0 e1 e2
      have HT := Lib.hid ht
      have HS := Lib.hid hs
      have HIN := Lib.hid hin
      clear d0 d1 d2 hx ht hs hin
      by_cases c1 : y < x
      · have r : Hid (l.all inB = false) := Lib.hid (by
          rw [List.all_eq_false]; exact ⟨_, HIN.out, by simp [inB]; omega⟩)
        go_wp2
        go_ret
        exact ⟨by rw [r.out]; rfl, bel_alloc hb _⟩
      · by_cases c2 : z < y
        · have r : Hid (l.all inB = false) := Lib.hid (by
            rw [List.all_eq_false]; exact ⟨_, HIN.out, by simp [inB]; omega⟩)
          go_wp2
          go_ret
          exact ⟨by rw [r.out]; rfl, bel_alloc hb _⟩
        · go_wp2
          refine ⟨⟨k + 1, by omega, by simp, ?_, bel_alloc hb _⟩, by simp [intOf]; omega⟩
          rw [HS.out, List.all_append, HT.out]
          simp [inB]; omega

def sizes (k v f b l bl n bu ch : Int) : List (Int × Int × Int) := [(1, k, 256), (8, v, 4096), (4, f, 64), (0, b, 1048576), (4, l, 256), (2, bl, l), (2, n, 4096), (0, bu, 1000), (1, ch, 1024)]
def checkF (k v f b l bl n bu ch : Int) : Int := if (sizes k v f b l bl n bu ch).all inB then 0 else 2

set_option maxRecDepth 100000 in
set_option maxHeartbeats 4000000 in
theorem rmck_any (k v f b l bl n bu ch : Int) (w : World) :
    Calls Tryz.prog 30 #[cfg k v f b l bl n bu ch] w fun e w' => e = .returned (.int .i64 (checkF k v f b l bl n bu ch)) ∧ Below w.heap.size w w' := by
  have C := fun N W hlt hD => within_any N 0 9 9 (sizes k v f b l bl n bu ch) W rfl (by omega) hlt hD
  by_cases c : (sizes k v f b l bl n bu ch).all inB = true
  · have hF : Hid (checkF k v f b l bl n bu ch = 0) := Lib.hid (by unfold checkF; rw [if_pos c])
    rw [c] at C
    have CC := Lib.hid C
    clear c C
    go_enter Tryz.func30, Tryz.ntmps30
    go_wp2_with fail
    refine (CC.out (w.heap.size + 1) _ (by simp) ?_).mono ?_
    · intro i hi
      simp only [sizes, List.length_cons, List.length_nil] at hi
      rcases (by omega : i = 0 ∨ i = 1 ∨ i = 2 ∨ i = 3 ∨ i = 4 ∨ i = 5 ∨ i = 6 ∨ i = 7 ∨ i = 8) with rfl | rfl | rfl | rfl | rfl | rfl | rfl | rfl | rfl <;> simp [sizes, go_sem]
    rintro e w1 ⟨rfl, hb⟩
    go_wp2
    go_ret
    exact ⟨by rw [hF.out]; rfl, ((Below.refl _ _).alloc (Nat.le_refl _) _).trans ((bel_a hb).mono (by simp))⟩
  · have c' : (sizes k v f b l bl n bu ch).all inB = false := by simpa using c
    have hF : Hid (checkF k v f b l bl n bu ch = 2) := Lib.hid (by unfold checkF; rw [if_neg c])
    rw [c'] at C
    have CC := Lib.hid C
    clear c c' C
    go_enter Tryz.func30, Tryz.ntmps30
    go_wp2_with fail
    refine (CC.out (w.heap.size + 1) _ (by simp) ?_).mono ?_
    · intro i hi
      simp only [sizes, List.length_cons, List.length_nil] at hi
      rcases (by omega : i = 0 ∨ i = 1 ∨ i = 2 ∨ i = 3 ∨ i = 4 ∨ i = 5 ∨ i = 6 ∨ i = 7 ∨ i = 8) with rfl | rfl | rfl | rfl | rfl | rfl | rfl | rfl | rfl <;> simp [sizes, go_sem]
    rintro e w1 ⟨rfl, hb⟩
    go_wp2
    go_ret
    exact ⟨by rw [hF.out]; rfl, ((Below.refl _ _).alloc (Nat.le_refl _) _).trans ((bel_a hb).mono (by simp))⟩
end Go.Proofs.YtelpkajlejbbgaaGreatDoor
namespace Go.Proofs.YtelpkajlejbbgaaGreatDoor
open Go.RowKit

theorem checkF_eq (k v f b l bl n bu ch : Int) : checkF k v f b l bl n bu ch = if (1 ≤ k ∧ k ≤ 256 ∧ 8 ≤ v ∧ v ≤ 4096 ∧ 4 ≤ f ∧ f ≤ 64 ∧ 0 ≤ b ∧ b ≤ 1048576 ∧ 4 ≤ l ∧ l ≤ 256 ∧ 2 ≤ bl ∧ bl ≤ l ∧ 2 ≤ n ∧ n ≤ 4096 ∧ 0 ≤ bu ∧ bu ≤ 1000 ∧ 1 ≤ ch ∧ ch ≤ 1024) then 0 else 2 := by
  unfold checkF
  have h : (sizes k v f b l bl n bu ch).all inB = true ↔ (1 ≤ k ∧ k ≤ 256 ∧ 8 ≤ v ∧ v ≤ 4096 ∧ 4 ≤ f ∧ f ≤ 64 ∧ 0 ≤ b ∧ b ≤ 1048576 ∧ 4 ≤ l ∧ l ≤ 256 ∧ 2 ≤ bl ∧ bl ≤ l ∧ 2 ≤ n ∧ n ≤ 4096 ∧ 0 ≤ bu ∧ bu ≤ 1000 ∧ 1 ≤ ch ∧ ch ≤ 1024) := by
    simp [sizes, inB, and_assoc]
  by_cases hc : (sizes k v f b l bl n bu ch).all inB = true
  · rw [if_pos hc, if_pos (h.1 hc)]
  · rw [if_neg hc, if_neg (fun x => hc (h.2 x))]
set_option maxRecDepth 100000 in
set_option maxHeartbeats 4000000 in
theorem rcheck_any (k v f b l bl n bu ch : Int) (w : World) :
    Calls Tryz.prog 32 #[cfg k v f b l bl n bu ch] w fun e w' => e = .returned (.int .i64 (checkF k v f b l bl n bu ch)) ∧ Below w.heap.size w w' := by
  obtain ⟨r, hr⟩ : ∃ r, r = checkF k v f b l bl n bu ch := ⟨_, rfl⟩
  rw [← hr]
  have HR := Lib.hid hr
  clear hr
  unfold cfg
  go_enter Tryz.func32, Tryz.ntmps32
  go_wp2
  all_goals
    go_ret
    refine ⟨?_, by go_grown⟩
    have hR := HR.out
    rw [checkF_eq] at hR
    first
    | (rw [if_neg (by omega)] at hR; rw [hR]; rfl)
    | (rw [if_pos (by omega)] at hR; rw [hR]; rfl)
end Go.Proofs.YtelpkajlejbbgaaGreatDoor
namespace Go.Proofs.YtelpkajlejbbgaaGreatDoor
open Go.RowKit Go.Maps
/-- The first operation of a row that may not be asked. -/
def chkRow (f : OpV → Int) (i : Nat) : Nat → List OpV → Option (Int × Int × Int)
  | _, [] => none
  | j, o :: os => if f o = 0 then chkRow f i (j + 1) os else some ((i : Int) + 1, (j : Int) + 1, f o)
def chkRows (f : OpV → Int) : Nat → List (List OpV) → Int × Int × Int
  | _, [] => (0, 0, 0)
  | i, r :: rs => match chkRow f i 0 r with
    | none => chkRows f (i + 1) rs
    | some t => t
def chkGo (f : OpV → Int) (i j : Nat) (os : List OpV) (rs : List (List OpV)) : Int × Int × Int := match chkRow f i j os with
  | none => chkRows f (i + 1) rs
  | some t => t
theorem chk_go (f : OpV → Int) (i : Nat) (r : List OpV) (rs : List (List OpV)) : chkRows f i (r :: rs) = chkGo f i 0 r rs := rfl
theorem chk_pass (f : OpV → Int) (i j : Nat) (o : OpV) (os : List OpV) (rs : List (List OpV)) (h : f o = 0) : chkGo f i j (o :: os) rs = chkGo f i (j + 1) os rs := by
  unfold chkGo
  rw [chkRow, if_pos h]
theorem chk_stop (f : OpV → Int) (i j : Nat) (o : OpV) (os : List OpV) (rs : List (List OpV)) (h : ¬ f o = 0) : chkGo f i j (o :: os) rs = ((i : Int) + 1, (j : Int) + 1, f o) := by
  unfold chkGo
  rw [chkRow, if_neg h]
theorem chk_end (f : OpV → Int) (i j : Nat) (rs : List (List OpV)) : chkGo f i j [] rs = chkRows f (i + 1) rs := rfl
theorem drop_at {α : Type} {l : List α} {k : Nat} {x : α} (h : l[k]? = some x) : l.drop k = x :: l.drop (k + 1) := by
  obtain ⟨hk, hx⟩ := List.getElem?_eq_some_iff.1 h
  rw [List.drop_eq_getElem_cons hk, hx]
def opE (a0 a1 a8 : Int) (o : OpV) : Int := askF o.k o.n a0 a1 a8 o.key o.too o.ms.length o.ms
def chkF (a0 a1 a2 a3 a4 a5 a6 a7 a8 : Int) (rows : List (List OpV)) : Int × Int × Int := if checkF a0 a1 a2 a3 a4 a5 a6 a7 a8 = 0 ∧ 1 ≤ rows.length ∧ rows.length ≤ 64 then chkRows (opE a0 a1 a8) 0 rows else (0, 0, 2)
theorem checkF_02 (a0 a1 a2 a3 a4 a5 a6 a7 a8 : Int) : checkF a0 a1 a2 a3 a4 a5 a6 a7 a8 = 0 ∨ checkF a0 a1 a2 a3 a4 a5 a6 a7 a8 = 2 := by
  unfold checkF
  split
  · exact .inl rfl
  · exact .inr rfl
theorem trip {a b c t1 t2 t3 : Int} (h : (a, b, c) = (t1, t2, t3)) : a = t1 ∧ b = t2 ∧ c = t3 := by
  injection h with h1 h2
  injection h2 with h2 h3
  exact ⟨h1, h2, h3⟩
set_option maxRecDepth 100000 in
set_option maxHeartbeats 4000000 in
theorem rchk_any (a0 a1 a2 a3 a4 a5 a6 a7 a8 : Int) (A B : Option Addr) (n c m d : Nat) (rows : List (List OpV)) (t1 t2 t3 : Int) (w : World) (ht : chkF a0 a1 a2 a3 a4 a5 a6 a7 a8 rows = (t1, t2, t3)) (hf : ∀ r ∈ rows, r.length ≤ 1000) (hA : AllX w A n rows) :
    Calls Tryz.prog 13 #[scA a0 a1 a2 a3 a4 a5 a6 a7 a8 A n c B m d] w fun e w' => e = .returned (.tuple #[.int .i64 t1, .int .i64 t2, .int .i64 t3]) ∧ Below w.heap.size w w' := by
  unfold scA
  obtain ⟨W1, hW1⟩ : ∃ W1, W1 = w.alloc (.cells #[.int .i64 a0, .int .i64 a1, .int .i64 a2, .int .i64 a3, .int .i64 a4, .int .i64 a5, .int .i64 a6, .int .i64 a7, .int .i64 a8, .slice A n c, .slice B m d] 27) := ⟨_, rfl⟩
  have B1 := Lib.hid (show Below w.heap.size w W1 by rw [hW1]; exact alb w _)
  have Z1 := Lib.hid (show W1.heap[w.heap.size]? = some (.cells #[.int .i64 a0, .int .i64 a1, .int .i64 a2, .int .i64 a3, .int .i64 a4, .int .i64 a5, .int .i64 a6, .int .i64 a7, .int .i64 a8, .slice A n c, .slice B m d] 27) by rw [hW1]; exact heap_alloc_new w _)
  obtain ⟨c0, c1, c2, c3, c4, c5, c6, c7, c8, c9, c10⟩ := cells11 Z1.out
  have HC := fun V => rcheck_any a0 a1 a2 a3 a4 a5 a6 a7 a8 V
  unfold cfg at HC
  unfold chkF at ht
  rw [hA.1] at ht
  rcases checkF_02 a0 a1 a2 a3 a4 a5 a6 a7 a8 with hc | hc
  rotate_left
  · rw [if_neg (by rw [hc]; omega)] at ht
    rw [hc] at HC
    obtain ⟨rfl, rfl, rfl⟩ := trip ht
    have HC := Lib.hid HC
    clear ht hf hA hc
    go_enter Tryz.func13, Tryz.ntmps13
    go_upto_region 1 with fail
    rw [← hW1]
    clear hW1
    go_wp2_with (first
      | (go_at_call 32; ((with_reducible refine (HC.out _).mono ?_); rintro e w2 ⟨rfl, b2⟩; have B2 := Lib.hid (bel_trans B1.out b2); clear b2))
      | fail)
    exact bodyPost_ret (v := .tuple #[.int .i64 0, .int .i64 0, .int .i64 2]) (by simp [results, Tryz.results13, go_sem]) rfl ⟨rfl, B2.out⟩
  rw [hc] at HC ht
  have HC := Lib.hid HC
  by_cases hn : 1 ≤ n ∧ n ≤ 64
  rotate_left
  · rw [if_neg (fun q => hn q.2)] at ht
    obtain ⟨rfl, rfl, rfl⟩ := trip ht
    have hn' : n < 1 ∨ (¬ n < 1 ∧ 64 < n) := by omega
    clear ht hf hA hc hn
    rcases hn' with h1 | ⟨h1, h2⟩
    · have k1 : (n : Int) < 1 := by omega
      clear h1
      go_enter Tryz.func13, Tryz.ntmps13
      go_upto_region 1 with fail
      rw [← hW1]
      clear hW1
      go_wp2_with (first
        | (go_at_call 32; ((with_reducible refine (HC.out _).mono ?_); rintro e w2 ⟨rfl, b2⟩; have B2 := Lib.hid (bel_trans B1.out b2); obtain ⟨c0, c1, c2, c3, c4, c5, c6, c7, c8, c9, c10⟩ := cells11 (keep_bel b2 Z1.out); clear b2))
        | fail)
      exact bodyPost_ret (v := .tuple #[.int .i64 0, .int .i64 0, .int .i64 2]) (by simp [results, Tryz.results13, go_sem]) rfl ⟨rfl, B2.out⟩
    · have k1 : ¬ (n : Int) < 1 := by omega
      have k2 : (64 : Int) < (n : Int) := by omega
      clear h1 h2
      go_enter Tryz.func13, Tryz.ntmps13
      go_upto_region 1 with fail
      rw [← hW1]
      clear hW1
      go_wp2_with (first
        | (go_at_call 32; ((with_reducible refine (HC.out _).mono ?_); rintro e w2 ⟨rfl, b2⟩; have B2 := Lib.hid (bel_trans B1.out b2); obtain ⟨c0, c1, c2, c3, c4, c5, c6, c7, c8, c9, c10⟩ := cells11 (keep_bel b2 Z1.out); clear b2))
        | fail)
      exact bodyPost_ret (v := .tuple #[.int .i64 0, .int .i64 0, .int .i64 2]) (by simp [results, Tryz.results13, go_sem]) rfl ⟨rfl, B2.out⟩
  rw [if_pos ⟨rfl, hn⟩] at ht
  have k1 : ¬ (n : Int) < 1 := by omega
  have k2 : ¬ (64 : Int) < (n : Int) := by omega
  have HN := Lib.hid (And.intro hA.1 hn)
  have HA := Lib.hid hA
  have HF := Lib.hid hf
  have HT0 : Hid (chkRows (opE a0 a1 a8) 0 (rows.drop 0) = (t1, t2, t3)) := Lib.hid ht
  clear ht hf hA hc hn
  go_enter Tryz.func13, Tryz.ntmps13
  go_upto_region 1 with fail
  rw [← hW1]
  clear hW1
  go_upto_region 4 with (first
    | (go_at_call 32; ((with_reducible refine (HC.out _).mono ?_); rintro e w2 ⟨rfl, b2⟩; have B2 := Lib.hid (bel_trans B1.out b2); have Z2 := Lib.hid (keep_bel b2 Z1.out); obtain ⟨c0, c1, c2, c3, c4, c5, c6, c7, c8, c9, c10⟩ := cells11 Z2.out; clear b2))
    | fail)
  clear k1 k2 c0 c1 c2 c3 c4 c5 c6 c7 c8 c9 c10
  go_loopw [5] (fun iv wr => ∃ i : Nat, i ≤ n ∧ iv = .int .i64 i ∧ Hid (chkRows (opE a0 a1 a8) i (rows.drop i) = (t1, t2, t3)) ∧ Below w2.heap.size w2 wr) (fun iv _ => n - (intOf iv).toNat)
  case atStart => exact ⟨0, by omega, rfl, HT0, Below.refl _ _⟩
  case round =>
    obtain ⟨i, hi, rfl, HT, hb⟩ := hrel
    obtain ⟨w7, hw7⟩ : ∃ w7, w7 = wr := ⟨_, rfl⟩
    subst hw7
    have HD2 := Lib.hid hb
    have HD := Lib.hid (bel_trans B2.out hb)
    clear hb
    have hNN := HN.out
    obtain ⟨c0, c1, c2, c3, c4, c5, c6, c7, c8, c9, c10⟩ := cells11 (keep_bel HD2.out Z2.out)
    by_cases h8 : i < n
    · have hi1 : (i : Int) < (n : Int) := by omega
      have hi0 : (0 : Int) ≤ (i : Int) := by omega
      have WI : IntKind.i64.wrap ((i : Int) + 1) = (i : Int) + 1 := IntWalk.i64_in _ (by omega)
      obtain ⟨r, hr⟩ : ∃ r, rows[i]? = some r := ⟨_, List.getElem?_eq_getElem (by omega)⟩
      obtain ⟨b2, off, hA2, hn2, hc2, rfl, hlt, g9, g7⟩ := (HA.out.later HD.out).at hr
      have HT2 : Hid (chkGo (opE a0 a1 a8) i 0 (r.drop 0) (rows.drop (i + 1)) = (t1, t2, t3)) := Lib.hid (by have h := HT.out; rw [drop_at hr, chk_go] at h; exact h)
      have HRX := Lib.hid g7
      have HG9 := Lib.hid g9
      have HRL := Lib.hid g7.len
      have H12 := Lib.hid (show hn2 ≤ 1000 by rw [← g7.len]; exact HF.out r (List.mem_of_getElem? hr))
      clear hr hlt g7 hNN
      go_upto_region 7 with fail
      clear c0 c1 c2 c3 c4 c5 c6 c7 c8 c9 c10 g9
      go_loopw [6] (fun jv wr => ∃ j : Nat, j ≤ hn2 ∧ jv = .int .i64 j ∧ Hid (chkGo (opE a0 a1 a8) i j (r.drop j) (rows.drop (i + 1)) = (t1, t2, t3)) ∧ Below w7.heap.size w7 wr) (fun jv _ => hn2 - (intOf jv).toNat)
      case atStart => exact ⟨0, by omega, rfl, HT2, Below.refl _ _⟩
      case round =>
        obtain ⟨j, hj, rfl, HT3, hb⟩ := hrel
        have HD1 := Lib.hid hb
        have HE2 := Lib.hid (HD2.out.trans (hb.mono HD2.out.size))
        have HE := Lib.hid (bel_trans HD.out hb)
        clear hb
        have hle := H12.out
        have hrl := HRL.out
        have HZ := Lib.hid (keep_bel HE2.out Z2.out)
        obtain ⟨c0, c1, c2, c3, c4, c5, c6, c7, c8, c9, c10⟩ := cells11 HZ.out
        have g9 := bel_later HD1.out HG9.out
        by_cases h9 : j < hn2
        · have hj1 : (j : Int) < (hn2 : Int) := by omega
          have hj0 : (0 : Int) ≤ (j : Int) := by omega
          have WJ : IntKind.i64.wrap ((j : Int) + 1) = (j : Int) + 1 := IntWalk.i64_in _ (by omega)
          obtain ⟨o, ho⟩ : ∃ o, r[j]? = some o := ⟨_, List.getElem?_eq_getElem (by omega)⟩
          obtain ⟨b5, off5, xA, xc, rfl, hlt5, g0, g1, g2, g3, g4, g5⟩ := (HRX.out.later HD1.out).at ho
          obtain ⟨v, hv⟩ : ∃ v, opE a0 a1 a8 o = v := ⟨_, rfl⟩
          have HAK := Lib.hid (fun V (hV : Below wr.heap.size wr V) => rask_any o.k o.n a0 a1 a2 a3 a4 a5 a6 a7 a8 o.key o.too xA o.ms.length xc o.ms V rfl (msl_of (g5.later hV)))
          unfold cfg at HAK
          rw [show askF o.k o.n a0 a1 a8 o.key o.too o.ms.length o.ms = v from hv] at HAK
          have h3 := HT3.out
          rw [drop_at ho] at h3
          have HGO : Hid (v = 0 → chkGo (opE a0 a1 a8) i (j + 1) (r.drop (j + 1)) (rows.drop (i + 1)) = (t1, t2, t3)) := Lib.hid (fun e => by
            rw [chk_pass _ _ _ _ _ _ (by rw [hv]; exact e)] at h3
            exact h3)
          have HST : Hid (¬ v = 0 → (i : Int) + 1 = t1 ∧ (j : Int) + 1 = t2 ∧ v = t3) := Lib.hid (fun e => by
            rw [chk_stop _ _ _ _ _ _ (by rw [hv]; exact e), hv] at h3
            exact trip h3)
          obtain ⟨ok, okey, otoo, on, oms⟩ := o
          simp only at g0 g1 g2 g3 g4 HAK
          generalize oms.length = om at g4 HAK
          clear ho hv h3 g5 hlt5 hle hrl
          have HO0 := Lib.hid g0
          have HO1 := Lib.hid g1
          have HO2 := Lib.hid g2
          have HO3 := Lib.hid g3
          have HO4 := Lib.hid g4
          have HB0 := Lib.hid c0
          have HB1 := Lib.hid c1
          have HB2 := Lib.hid c2
          have HB3 := Lib.hid c3
          have HB4 := Lib.hid c4
          have HB5 := Lib.hid c5
          have HB6 := Lib.hid c6
          have HB7 := Lib.hid c7
          have HB8 := Lib.hid c8
          have HC9 := Lib.hid c9
          have HG8 := Lib.hid g9
          go_upto_region 9 with fail
          refine wp_region_held_drew (S := (fun V : World => Below wr.heap.size wr V)) (by kernel_rfl) ?_ (fun hHeld => ?_)
          · exact (Below.refl _ wr).drew
          have HHeld := Lib.hid hHeld; clear hHeld
          refine wT (i := 0) (oi := { dst := some 41, op := Op.fieldAddr 27 (Operand.tmp 1) 1, type := 0, pos := "ref.go:194", after := #[], guard := none }) (v := ?_) rfl (Or.inl ⟨by rfl, ?_⟩) HHeld.out ?_
          rotate_left
          · intro w hSw; clear hSw; go_simp; try with_reducible rfl
          try simp only [pu, pn, s1, s2, s3]
          refine wT (i := 1) (oi := { dst := some 42, op := Op.load 24 (Operand.tmp 41), type := 24, pos := "ref.go:194", after := #[{ on := 0, ground := Ground.data }], guard := none }) (v := (.slice (some ⟨b2, off, none⟩) n c : Value)) rfl (Or.inl ⟨by rfl, ?_⟩) HHeld.out ?_
          · intro V hV; have hc0 := bel_later hV HC9.out; clear hV; go_simp
          try simp only [pu, pn, s1, s2, s3]
          refine wT (i := 2) (oi := { dst := some 43, op := Op.move (Operand.tmp 5), type := 3, pos := "ref.go:194", after := #[], guard := none }) (v := ?_) rfl (Or.inl ⟨by rfl, ?_⟩) HHeld.out ?_
          rotate_left
          · intro w hSw; clear hSw; go_simp; try with_reducible rfl
          try simp only [pu, pn, s1, s2, s3]
          refine wT (i := 3) (oi := { dst := some 44, op := Op.indexAddr 24 (Operand.tmp 42) (Operand.tmp 43), type := 0, pos := "ref.go:194", after := #[{ on := 1, ground := Ground.data }, { on := 2, ground := Ground.data }], guard := none }) (v := ?_) rfl (Or.inl ⟨by rfl, ?_⟩) HHeld.out ?_
          rotate_left
          · intro w hSw; clear hSw; go_simp; try with_reducible rfl
          try simp only [pu, pn, s1, s2, s3]
          refine wT (i := 4) (oi := { dst := some 45, op := Op.load 43 (Operand.tmp 44), type := 43, pos := "ref.go:194", after := #[{ on := 3, ground := Ground.data }], guard := none }) (v := (.slice (some ⟨b5, off5, none⟩) hn2 hc2 : Value)) rfl (Or.inl ⟨by rfl, ?_⟩) HHeld.out ?_
          · intro V hV; have hc0 := bel_later hV HG8.out; clear hV; go_simp
          try simp only [pu, pn, s1, s2, s3]
          refine wT (i := 5) (oi := { dst := some 46, op := Op.move (Operand.tmp 6), type := 3, pos := "ref.go:194", after := #[], guard := none }) (v := ?_) rfl (Or.inl ⟨by rfl, ?_⟩) HHeld.out ?_
          rotate_left
          · intro w hSw; clear hSw; go_simp; try with_reducible rfl
          try simp only [pu, pn, s1, s2, s3]
          refine wT (i := 6) (oi := { dst := some 47, op := Op.indexAddr 43 (Operand.tmp 45) (Operand.tmp 46), type := 0, pos := "ref.go:194", after := #[{ on := 4, ground := Ground.data }, { on := 5, ground := Ground.data }], guard := none }) (v := ?_) rfl (Or.inl ⟨by rfl, ?_⟩) HHeld.out ?_
          rotate_left
          · intro w hSw; clear hSw; go_simp; try with_reducible rfl
          try simp only [pu, pn, s1, s2, s3]
          refine wT (i := 7) (oi := { dst := some 48, op := Op.load 47 (Operand.tmp 47), type := 47, pos := "ref.go:194", after := #[{ on := 6, ground := Ground.data }], guard := none }) (v := (.agg #[.int .u8 ok, .string okey, .string otoo, .int .i64 on, .slice xA om xc] : Value)) rfl (Or.inl ⟨by rfl, ?_⟩) HHeld.out ?_
          · intro V hV; have hc0 := bel_later hV HO0.out; have hc1 := bel_later hV HO1.out; have hc2 := bel_later hV HO2.out; have hc3 := bel_later hV HO3.out; have hc4 := bel_later hV HO4.out; clear hV; go_simp
          try simp only [pu, pn, s1, s2, s3]
          refine wT (i := 8) (oi := { dst := some 49, op := Op.fieldAddr 27 (Operand.tmp 1) 0, type := 0, pos := "ref.go:194", after := #[], guard := none }) (v := ?_) rfl (Or.inl ⟨by rfl, ?_⟩) HHeld.out ?_
          rotate_left
          · intro w hSw; clear hSw; go_simp; try with_reducible rfl
          try simp only [pu, pn, s1, s2, s3]
          refine wT (i := 9) (oi := { dst := some 50, op := Op.load 23 (Operand.tmp 49), type := 23, pos := "ref.go:194", after := #[{ on := 8, ground := Ground.data }], guard := none }) (v := (.agg #[.int .i64 a0, .int .i64 a1, .int .i64 a2, .int .i64 a3, .int .i64 a4, .int .i64 a5, .int .i64 a6, .int .i64 a7, .int .i64 a8] : Value)) rfl (Or.inl ⟨by rfl, ?_⟩) HHeld.out ?_
          · intro V hV; have hc0 := bel_later hV HB0.out; have hc1 := bel_later hV HB1.out; have hc2 := bel_later hV HB2.out; have hc3 := bel_later hV HB3.out; have hc4 := bel_later hV HB4.out; have hc5 := bel_later hV HB5.out; have hc6 := bel_later hV HB6.out; have hc7 := bel_later hV HB7.out; have hc8 := bel_later hV HB8.out; clear hV; go_simp
          try simp only [pu, pn, s1, s2, s3]
          refine wpAnyH_ready (rs := [10]) (by kernel_rfl) (by simp) ?_
          refine AllReadyH.cons (o := { dst := some 51, op := Op.call { callee := Callee.value (Operand.func 33), args := #[Operand.tmp 48, Operand.tmp 50], argTypes := #[47, 23] }, type := 30, pos := "ref.go:194", after := #[{ on := 7, ground := Ground.data }, { on := 9, ground := Ground.data }], guard := none }) rfl (fun K hK => ?_) AllReadyH.nil
          go_simp
          (go_at_call 33; ((with_reducible refine (HAK.out _ HHeld.out).mono ?_); rintro e w8 ⟨rfl, b8⟩; have B8 := Lib.hid (HHeld.out.trans (b8.mono HHeld.out.size)); clear b8))
          refine hK.out _ _ ?_ (fun hHeld => ?_)
          · exact B8.out
          clear HHeld; have HHeld := Lib.hid hHeld; clear hHeld
          clear hK K
          try simp only [pu, pn, s1, s2, s3]
          refine wT (i := 11) (oi := { dst := some 7, op := Op.assign (Operand.tmp 51), type := 30, pos := "ref.go:194", after := #[{ on := 10, ground := Ground.data }, { on := 10, ground := Ground.chain }, { on := 0, ground := Ground.phase }, { on := 1, ground := Ground.phase }, { on := 2, ground := Ground.phase }, { on := 3, ground := Ground.phase }, { on := 4, ground := Ground.phase }, { on := 5, ground := Ground.phase }, { on := 6, ground := Ground.phase }, { on := 7, ground := Ground.phase }, { on := 8, ground := Ground.phase }, { on := 9, ground := Ground.phase }, { on := 10, ground := Ground.phase }], guard := none }) (v := ?_) rfl (Or.inl ⟨by rfl, ?_⟩) HHeld.out ?_
          rotate_left
          · intro w hSw; clear hSw; go_simp; try with_reducible rfl
          try simp only [pu, pn, s1, s2, s3]
          refine wpAnyH_done (by kernel_rfl) ?_ _
          clear HHeld
          by_cases hv0 : v = 0
          · have HGO2 := Lib.hid (HGO.out hv0)
            have hv1 : (v == 0) = true := by rw [hv0]; rfl
            clear HGO HST
            subst hv0
            go_wp2
            exact ⟨⟨j + 1, by omega, by simp, HGO2, HD1.out.trans (B8.out.mono HD1.out.size)⟩, by simp [intOf]; omega⟩
          · have HS2 := Lib.hid (HST.out hv0)
            have hv1 : (v == 0) = false := beq_eq_false_iff_ne.2 hv0
            clear HGO HST
            go_wp2
            exact bodyPost_ret (v := .tuple #[.int .i64 ((i : Int) + 1), .int .i64 ((j : Int) + 1), .int .i64 v]) (by simp [results, Tryz.results13, go_sem]) rfl ⟨by rw [HS2.out.1, HS2.out.2.1, HS2.out.2.2], bel_trans HE.out B8.out⟩
        · have hj1 : ¬ (j : Int) < (hn2 : Int) := by omega
          have HN2 : Hid (chkRows (opE a0 a1 a8) (i + 1) (rows.drop (i + 1)) = (t1, t2, t3)) := Lib.hid (by
            have h3 := HT3.out
            rw [List.drop_eq_nil_of_le (by omega), chk_end] at h3
            exact h3)
          clear hle hrl
          go_wp2
          exact ⟨⟨i + 1, by omega, by simp, HN2, HE2.out⟩, by simp [intOf]; omega⟩
    · have hi1 : ¬ (i : Int) < (n : Int) := by omega
      have h3 := HT.out
      rw [List.drop_eq_nil_of_le (by omega)] at h3
      obtain ⟨rfl, rfl, rfl⟩ := trip (show ((0 : Int), (0 : Int), (0 : Int)) = (t1, t2, t3) from h3)
      clear hNN h3
      go_wp2
      exact bodyPost_ret (v := .tuple #[.int .i64 0, .int .i64 0, .int .i64 0]) (by simp [results, Tryz.results13, go_sem]) rfl ⟨rfl, HD.out⟩
end Go.Proofs.YtelpkajlejbbgaaGreatDoor
namespace Go.Proofs.YtelpkajlejbbgaaGreatDoor
open Go.RowKit Go.Maps
set_option maxRecDepth 100000 in
set_option maxHeartbeats 4000000 in
theorem pchk_any (a0 a1 a2 a3 a4 a5 a6 a7 a8 : Int) (A B : Option Addr) (n c m d : Nat) (rows : List (List OpV)) (t1 t2 t3 : Int) (w : World) (ht : chkF a0 a1 a2 a3 a4 a5 a6 a7 a8 rows = (t1, t2, t3)) (hf : ∀ r ∈ rows, r.length ≤ 1000) (hA : AllX w A n rows) :
    Calls Tryz.prog 12 #[scA a0 a1 a2 a3 a4 a5 a6 a7 a8 A n c B m d] w fun e w' => e = .returned (.tuple #[.int .i64 t1, .int .i64 t2, .int .i64 t3]) ∧ Below w.heap.size w w' := by
  unfold scA
  obtain ⟨W1, hW1⟩ : ∃ W1, W1 = w.alloc (.cells #[.int .i64 a0, .int .i64 a1, .int .i64 a2, .int .i64 a3, .int .i64 a4, .int .i64 a5, .int .i64 a6, .int .i64 a7, .int .i64 a8, .slice A n c, .slice B m d] 27) := ⟨_, rfl⟩
  have B1 := Lib.hid (show Below w.heap.size w W1 by rw [hW1]; exact alb w _)
  have Z1 := Lib.hid (show W1.heap[w.heap.size]? = some (.cells #[.int .i64 a0, .int .i64 a1, .int .i64 a2, .int .i64 a3, .int .i64 a4, .int .i64 a5, .int .i64 a6, .int .i64 a7, .int .i64 a8, .slice A n c, .slice B m d] 27) by rw [hW1]; exact heap_alloc_new w _)
  obtain ⟨c0, c1, c2, c3, c4, c5, c6, c7, c8, c9, c10⟩ := cells11 Z1.out
  have HC := fun V => rmck_any a0 a1 a2 a3 a4 a5 a6 a7 a8 V
  unfold cfg at HC
  unfold chkF at ht
  rw [hA.1] at ht
  rcases checkF_02 a0 a1 a2 a3 a4 a5 a6 a7 a8 with hc | hc
  rotate_left
  · rw [if_neg (by rw [hc]; omega)] at ht
    rw [hc] at HC
    obtain ⟨rfl, rfl, rfl⟩ := trip ht
    have HC := Lib.hid HC
    clear ht hf hA hc
    go_enter Tryz.func12, Tryz.ntmps12
    go_upto_region 1 with fail
    rw [← hW1]
    clear hW1
    go_wp2_with (first
      | (go_at_call 30; ((with_reducible refine (HC.out _).mono ?_); rintro e w2 ⟨rfl, b2⟩; have B2 := Lib.hid (bel_trans B1.out b2); clear b2))
      | fail)
    exact bodyPost_ret (v := .tuple #[.int .i64 0, .int .i64 0, .int .i64 2]) (by simp [results, Tryz.results12, go_sem]) rfl ⟨rfl, B2.out⟩
  rw [hc] at HC ht
  have HC := Lib.hid HC
  by_cases hn : 1 ≤ n ∧ n ≤ 64
  rotate_left
  · rw [if_neg (fun q => hn q.2)] at ht
    obtain ⟨rfl, rfl, rfl⟩ := trip ht
    have hn' : n < 1 ∨ (¬ n < 1 ∧ 64 < n) := by omega
    clear ht hf hA hc hn
    rcases hn' with h1 | ⟨h1, h2⟩
    · have k1 : (n : Int) < 1 := by omega
      clear h1
      go_enter Tryz.func12, Tryz.ntmps12
      go_upto_region 1 with fail
      rw [← hW1]
      clear hW1
      go_wp2_with (first
        | (go_at_call 30; ((with_reducible refine (HC.out _).mono ?_); rintro e w2 ⟨rfl, b2⟩; have B2 := Lib.hid (bel_trans B1.out b2); obtain ⟨c0, c1, c2, c3, c4, c5, c6, c7, c8, c9, c10⟩ := cells11 (keep_bel b2 Z1.out); clear b2))
        | fail)
      exact bodyPost_ret (v := .tuple #[.int .i64 0, .int .i64 0, .int .i64 2]) (by simp [results, Tryz.results12, go_sem]) rfl ⟨rfl, B2.out⟩
    · have k1 : ¬ (n : Int) < 1 := by omega
      have k2 : (64 : Int) < (n : Int) := by omega
      clear h1 h2
      go_enter Tryz.func12, Tryz.ntmps12
      go_upto_region 1 with fail
      rw [← hW1]
      clear hW1
      go_wp2_with (first
        | (go_at_call 30; ((with_reducible refine (HC.out _).mono ?_); rintro e w2 ⟨rfl, b2⟩; have B2 := Lib.hid (bel_trans B1.out b2); obtain ⟨c0, c1, c2, c3, c4, c5, c6, c7, c8, c9, c10⟩ := cells11 (keep_bel b2 Z1.out); clear b2))
        | fail)
      exact bodyPost_ret (v := .tuple #[.int .i64 0, .int .i64 0, .int .i64 2]) (by simp [results, Tryz.results12, go_sem]) rfl ⟨rfl, B2.out⟩
  rw [if_pos ⟨rfl, hn⟩] at ht
  have k1 : ¬ (n : Int) < 1 := by omega
  have k2 : ¬ (64 : Int) < (n : Int) := by omega
  have HN := Lib.hid (And.intro hA.1 hn)
  have HA := Lib.hid hA
  have HF := Lib.hid hf
  have HT0 : Hid (chkRows (opE a0 a1 a8) 0 (rows.drop 0) = (t1, t2, t3)) := Lib.hid ht
  clear ht hf hA hc hn
  go_enter Tryz.func12, Tryz.ntmps12
  go_upto_region 1 with fail
  rw [← hW1]
  clear hW1
  go_upto_region 4 with (first
    | (go_at_call 30; ((with_reducible refine (HC.out _).mono ?_); rintro e w2 ⟨rfl, b2⟩; have B2 := Lib.hid (bel_trans B1.out b2); have Z2 := Lib.hid (keep_bel b2 Z1.out); obtain ⟨c0, c1, c2, c3, c4, c5, c6, c7, c8, c9, c10⟩ := cells11 Z2.out; clear b2))
    | fail)
  clear k1 k2 c0 c1 c2 c3 c4 c5 c6 c7 c8 c9 c10
  go_loopw [29] (fun iv wr => ∃ i : Nat, i ≤ n ∧ iv = .int .i64 i ∧ Hid (chkRows (opE a0 a1 a8) i (rows.drop i) = (t1, t2, t3)) ∧ Below w2.heap.size w2 wr) (fun iv _ => n - (intOf iv).toNat)
  case atStart => exact ⟨0, by omega, rfl, HT0, Below.refl _ _⟩
  case round =>
    obtain ⟨i, hi, rfl, HT, hb⟩ := hrel
    obtain ⟨w7, hw7⟩ : ∃ w7, w7 = wr := ⟨_, rfl⟩
    subst hw7
    have HD2 := Lib.hid hb
    have HD := Lib.hid (bel_trans B2.out hb)
    clear hb
    have hNN := HN.out
    obtain ⟨c0, c1, c2, c3, c4, c5, c6, c7, c8, c9, c10⟩ := cells11 (keep_bel HD2.out Z2.out)
    by_cases h8 : i < n
    · have hi1 : (i : Int) < (n : Int) := by omega
      have hi0 : (0 : Int) ≤ (i : Int) := by omega
      have WI : IntKind.i64.wrap ((i : Int) + 1) = (i : Int) + 1 := IntWalk.i64_in _ (by omega)
      obtain ⟨r, hr⟩ : ∃ r, rows[i]? = some r := ⟨_, List.getElem?_eq_getElem (by omega)⟩
      obtain ⟨b2, off, hA2, hn2, hc2, rfl, hlt, g9, g7⟩ := (HA.out.later HD.out).at hr
      have HT2 : Hid (chkGo (opE a0 a1 a8) i 0 (r.drop 0) (rows.drop (i + 1)) = (t1, t2, t3)) := Lib.hid (by have h := HT.out; rw [drop_at hr, chk_go] at h; exact h)
      have HRX := Lib.hid g7
      have HG9 := Lib.hid g9
      have HRL := Lib.hid g7.len
      have H12 := Lib.hid (show hn2 ≤ 1000 by rw [← g7.len]; exact HF.out r (List.mem_of_getElem? hr))
      clear hr hlt g7 hNN
      go_upto_region 7 with fail
      clear c0 c1 c2 c3 c4 c5 c6 c7 c8 c9 c10 g9
      go_loopw [36] (fun jv wr => ∃ j : Nat, j ≤ hn2 ∧ jv = .int .i64 j ∧ Hid (chkGo (opE a0 a1 a8) i j (r.drop j) (rows.drop (i + 1)) = (t1, t2, t3)) ∧ Below w7.heap.size w7 wr) (fun jv _ => hn2 - (intOf jv).toNat)
      case atStart => exact ⟨0, by omega, rfl, HT2, Below.refl _ _⟩
      case round =>
        obtain ⟨j, hj, rfl, HT3, hb⟩ := hrel
        have HD1 := Lib.hid hb
        have HE2 := Lib.hid (HD2.out.trans (hb.mono HD2.out.size))
        have HE := Lib.hid (bel_trans HD.out hb)
        clear hb
        have hle := H12.out
        have hrl := HRL.out
        have HZ := Lib.hid (keep_bel HE2.out Z2.out)
        obtain ⟨c0, c1, c2, c3, c4, c5, c6, c7, c8, c9, c10⟩ := cells11 HZ.out
        have g9 := bel_later HD1.out HG9.out
        by_cases h9 : j < hn2
        · have hj1 : (j : Int) < (hn2 : Int) := by omega
          have hj0 : (0 : Int) ≤ (j : Int) := by omega
          have WJ : IntKind.i64.wrap ((j : Int) + 1) = (j : Int) + 1 := IntWalk.i64_in _ (by omega)
          obtain ⟨o, ho⟩ : ∃ o, r[j]? = some o := ⟨_, List.getElem?_eq_getElem (by omega)⟩
          obtain ⟨b5, off5, xA, xc, rfl, hlt5, g0, g1, g2, g3, g4, g5⟩ := (HRX.out.later HD1.out).at ho
          obtain ⟨v, hv⟩ : ∃ v, opE a0 a1 a8 o = v := ⟨_, rfl⟩
          have HAK := Lib.hid (fun V (hV : Below wr.heap.size wr V) => ask_any o.k o.n a0 a1 a2 a3 a4 a5 a6 a7 a8 o.key o.too xA o.ms.length xc o.ms V rfl (msl_of (g5.later hV)))
          unfold cfg at HAK
          rw [show askF o.k o.n a0 a1 a8 o.key o.too o.ms.length o.ms = v from hv] at HAK
          have h3 := HT3.out
          rw [drop_at ho] at h3
          have HGO : Hid (v = 0 → chkGo (opE a0 a1 a8) i (j + 1) (r.drop (j + 1)) (rows.drop (i + 1)) = (t1, t2, t3)) := Lib.hid (fun e => by
            rw [chk_pass _ _ _ _ _ _ (by rw [hv]; exact e)] at h3
            exact h3)
          have HST : Hid (¬ v = 0 → (i : Int) + 1 = t1 ∧ (j : Int) + 1 = t2 ∧ v = t3) := Lib.hid (fun e => by
            rw [chk_stop _ _ _ _ _ _ (by rw [hv]; exact e), hv] at h3
            exact trip h3)
          obtain ⟨ok, okey, otoo, on, oms⟩ := o
          simp only at g0 g1 g2 g3 g4 HAK
          generalize oms.length = om at g4 HAK
          clear ho hv h3 g5 hlt5 hle hrl
          go_upto_region 9 with fail
          obtain ⟨W5, hW5⟩ : ∃ W5, W5 = wr.alloc (.cells #[.int .u8 ok, .string okey, .string otoo, .int .i64 on, .slice xA om xc] 47) := ⟨_, rfl⟩
          have B5 := Lib.hid (show Below wr.heap.size wr W5 by rw [hW5]; exact alb wr _)
          have Z5 := Lib.hid (show W5.heap[wr.heap.size]? = some (.cells #[.int .u8 ok, .string okey, .string otoo, .int .i64 on, .slice xA om xc] 47) by rw [hW5]; exact heap_alloc_new wr _)
          rw [← hW5]
          clear hW5 g0 g1 g2 g3 g4 g9 c0 c1 c2 c3 c4 c5 c6 c7 c8 c9 c10
          obtain ⟨c0, c1, c2, c3, c4, c5, c6, c7, c8, c9, c10⟩ := cells11 (keep_bel B5.out HZ.out)
          obtain ⟨g0, g1, g2, g3, g4⟩ := cells5 Z5.out
          go_upto_region 10 with (first
            | (go_at_call 31; ((with_reducible refine (HAK.out _ B5.out).mono ?_); rintro e w8 ⟨rfl, b8⟩; have B8 := Lib.hid (bel_trans B5.out b8); clear b8))
            | fail)
          clear g0 g1 g2 g3 g4 c0 c1 c2 c3 c4 c5 c6 c7 c8 c9 c10
          by_cases hv0 : v = 0
          · have HGO2 := Lib.hid (HGO.out hv0)
            have hv1 : (v == 0) = true := by rw [hv0]; rfl
            clear HGO HST
            subst hv0
            go_wp2
            exact ⟨⟨j + 1, by omega, by simp, HGO2, HD1.out.trans (B8.out.mono HD1.out.size)⟩, by simp [intOf]; omega⟩
          · have HS2 := Lib.hid (HST.out hv0)
            have hv1 : (v == 0) = false := beq_eq_false_iff_ne.2 hv0
            clear HGO HST
            go_wp2
            exact bodyPost_ret (v := .tuple #[.int .i64 ((i : Int) + 1), .int .i64 ((j : Int) + 1), .int .i64 v]) (by simp [results, Tryz.results12, go_sem]) rfl ⟨by rw [HS2.out.1, HS2.out.2.1, HS2.out.2.2], bel_trans HE.out B8.out⟩
        · have hj1 : ¬ (j : Int) < (hn2 : Int) := by omega
          have HN2 : Hid (chkRows (opE a0 a1 a8) (i + 1) (rows.drop (i + 1)) = (t1, t2, t3)) := Lib.hid (by
            have h3 := HT3.out
            rw [List.drop_eq_nil_of_le (by omega), chk_end] at h3
            exact h3)
          clear hle hrl
          go_wp2
          exact ⟨⟨i + 1, by omega, by simp, HN2, HE2.out⟩, by simp [intOf]; omega⟩
    · have hi1 : ¬ (i : Int) < (n : Int) := by omega
      have h3 := HT.out
      rw [List.drop_eq_nil_of_le (by omega)] at h3
      obtain ⟨rfl, rfl, rfl⟩ := trip (show ((0 : Int), (0 : Int), (0 : Int)) = (t1, t2, t3) from h3)
      clear hNN h3
      go_wp2
      exact bodyPost_ret (v := .tuple #[.int .i64 0, .int .i64 0, .int .i64 0]) (by simp [results, Tryz.results12, go_sem]) rfl ⟨rfl, HD.out⟩
end Go.Proofs.YtelpkajlejbbgaaGreatDoor
