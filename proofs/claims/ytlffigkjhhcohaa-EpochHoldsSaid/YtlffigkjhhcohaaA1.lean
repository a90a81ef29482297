/- Words: rows of numbers; two rows alike. -/
import Derived.Test.YtlffigkjhhcohaaProg
import Derived.Test.YtlffigkjhhcohaaL0
import Derived.Maps.OwnSet
import Derived.Maps.Views
import Derived.Maps.RangeWalk
import Derived.Maps.OwnOps
import Derived.Laws.MakeOwn
import Derived.Laws.Rows
import Derived.Laws.Tables
namespace Go.Proofs.Ytlffigkjhhcohaa
set_option linter.unusedSimpArgs false
open Go.RowKit Go.Maps
set_option linter.unusedVariables false

theorem ret_eq {a b : Int} (h : b = a) : Ending.returned (.int .i64 a) = Ending.returned (.int .i64 b) := by rw [h]
theorem retB_eq {a b : Bool} (h : b = a) : Ending.returned (.bool a) = Ending.returned (.bool b) := by rw [h]
abbrev RdI (w : World) (A : Option Addr) (l : List Int) : Prop := Rd w w.heap.size A (l.map (Value.int .i64))
theorem rdi_get {w : World} {A : Option Addr} {l : List Int} (h : RdI w A l) {k : Nat} (hk : k < l.length) : ∃ b off, A = some ⟨b, off, none⟩ ∧ b < w.heap.size ∧ w.cell? ⟨b, off + k, none⟩ = some (.int .i64 (l.getD k 0)) := by
  have := Rd.get h (k := k) (u := .int .i64 (l.getD k 0)) (by rw [List.getElem?_map, List.getElem?_eq_getElem hk, List.getD_eq_getElem?_getD, List.getElem?_eq_getElem hk]; rfl)
  exact this
theorem getD_mem {l : List Int} {k : Nat} (hk : k < l.length) : l.getD k 0 ∈ l := by
  rw [List.getD_eq_getElem?_getD, List.getElem?_eq_getElem hk]; exact List.getElem_mem hk
theorem take_step {l : List Int} {k : Nat} (hk : k < l.length) : l.take (k + 1) = l.take k ++ [l.getD k 0] := by
  rw [List.take_succ_eq_append_getElem hk, List.getD_eq_getElem?_getD, List.getElem?_eq_getElem hk]; rfl

theorem rdi_sub {w : World} {b off : Nat} {l : List Int} (h : RdI w (some ⟨b, off, none⟩) l) (i W : Nat) : RdI w (some ⟨b, off + i, none⟩) ((l.drop i).take W) := by
  rcases h with h | ⟨b', off', e, hlt, hc⟩
  · left
    rw [List.map_eq_nil_iff] at h ⊢
    subst h; simp
  · cases e
    refine .inr ⟨b, off + i, rfl, hlt, fun j u hj => ?_⟩
    rw [List.getElem?_map, List.getElem?_take] at hj
    split at hj
    · rw [List.getElem?_drop] at hj
      have := hc (i + j) u (by rw [List.getElem?_map]; exact hj)
      rw [Nat.add_assoc]; exact this
    · simp at hj
theorem rdi_drew {w : World} {A : Option Addr} {l : List Int} (h : RdI w A l) : RdI w.drew A l := by
  rcases h with h | ⟨b', off', e, hlt, hc⟩
  · exact .inl h
  · exact .inr ⟨b', off', e, hlt, fun j u hj => by have := hc j u hj; simpa using this⟩

theorem rdi_take {w : World} {A : Option Addr} {l : List Int} (h : RdI w A l) (k : Nat) : RdI w A (l.take k) := by
  rcases h with h | ⟨b, off, e, hlt, hc⟩
  · left; rw [List.map_eq_nil_iff] at h ⊢; subst h; simp
  · refine .inr ⟨b, off, e, hlt, fun j u hj => hc j u ?_⟩
    rw [List.getElem?_map, List.getElem?_take] at hj
    rw [List.getElem?_map]
    split at hj
    · exact hj
    · simp at hj

theorem rdi_kept {w w' : World} {row : Option Nat} {b off : Nat} {l : List Int} (h : RdI w (some ⟨b, off, none⟩) l) (hg : w.grownBy w' row) (hne : some b ≠ row) : RdI w' (some ⟨b, off, none⟩) l := by
  rcases h with h | ⟨b', off', e, hlt, hc⟩
  · exact .inl h
  · cases e
    exact .inr ⟨b, off, rfl, Nat.lt_of_lt_of_le hlt hg.size, fun j u hj => hg.cell (hc j u hj) hne⟩
theorem own_cap {w : World} {base n c size : Nat} {e : TypeId} {A : Option Addr} {xs : List Value} (h : w.ownsRow base e size (.slice A n c) n xs) (hn : 0 < n) : n ≤ c ∧ c ≤ maxLen := by
  rcases h.2 with ⟨hv, h0⟩ | ⟨g, cap, cur, hv, _, _, h1, h2, _⟩
  · omega
  · cases hv; exact ⟨h1, h2⟩
theorem rdi_news {w : World} {b off : Nat} {l : List Int} (h : RdI w (some ⟨b, off, none⟩) l) : ∀ j u, (l.map (Value.int .i64))[j]? = some u → w.cell? ((⟨b, off, none⟩ : Addr).add j) = some u := by
  intro j u hu
  rcases h with h | ⟨b', off', e, hlt, hc⟩
  · rw [h] at hu; simp at hu
  · cases e
    have hadd : (⟨b, off, none⟩ : Addr).add j = ⟨b, off + j, none⟩ := by unfold Addr.add; split <;> simp_all
    rw [hadd]; exact hc j u hu
theorem one_ints (l : List Int) : ∀ u ∈ l.map (Value.int .i64), u.oneCell' = true := by
  intro u hu
  obtain ⟨x, _, rfl⟩ := List.mem_map.1 hu
  rfl
theorem own_form {w : World} {base n : Nat} {e : TypeId} {v : Value} {xs : List Value} (h : w.ownsRow base e 1 v n xs) : ∃ A c, v = .slice A n c ∧ Rd w w.heap.size A xs := by
  have h' := h
  rcases h.2 with ⟨rfl, rfl⟩ | ⟨g, cap, cur, rfl, _⟩
  · refine ⟨none, 0, rfl, .inl ?_⟩
    have := h.1
    simpa using this
  · exact ⟨_, _, rfl, Rd.of_own h' (by decide)⟩
theorem info3 : (Try.prog.info? 3).map (fun i => (i.zero, i.size, i.bytes)) = some (some (.int .i64 0), 1, 8) := by kernel_rfl
theorem same_pre {l m : List Int} {k : Nat} (hk : k < l.length) (hm : k < m.length) (h : l.take k = m.take k) : l.take (k + 1) = m.take (k + 1) ↔ l.getD k 0 = m.getD k 0 := by
  rw [take_step hk, take_step hm, h]
  simp
set_option maxHeartbeats 1000000 in
theorem same_any (A1 A2 : Option Addr) (n1 c1 n2 c2 : Nat) (l m : List Int) (w : World) (hl : l.length = n1) (hm : m.length = n2) (h1 : n1 ≤ 1000000000) (h2 : n2 ≤ 1000000000) (hA : RdI w A1 l) (hB : RdI w A2 m) :
    Calls Try.prog 22 #[.slice A1 n1 c1, .slice A2 n2 c2] w fun e w' => e = .returned (.bool (decide (l = m))) ∧ ∃ k, w' = w.drewN k := by
  have HL := Lib.hid hl
  have HM := Lib.hid hm
  have HA := Lib.hid hA
  have HB := Lib.hid hB
  clear hl hm hA hB
  obtain ⟨r, hr⟩ : ∃ r, r = decide (l = m) := ⟨_, rfl⟩
  rw [← hr]
  have hr' : r = true ↔ l = m := by rw [hr, decide_eq_true_eq]
  have HR := Lib.hid hr'
  clear hr hr'
  by_cases hne : n1 = n2
  · subst hne
    go_enter Try.func22, Try.ntmps22
    go_wp2
    go_loopw [5] (fun iv wr => ∃ k d : Nat, k ≤ n1 ∧ iv = .int .i64 k ∧ l.take k = m.take k ∧ wr = w.drewN d) (fun i _ => n1 - (intOf i).toNat)
    case atStart => exact ⟨0, 0, by omega, rfl, rfl, rfl⟩
    case round =>
      obtain ⟨k, d, hk, rfl, ht, hwr⟩ := hrel
      have HT := Lib.hid ht
      have HW := Lib.hid hwr
      clear ht hwr
      by_cases h8 : k = n1
      · have hkn : ¬ (k : Int) < (n1 : Int) := by omega
        have hr2 : Hid (r = true) := Lib.hid (HR.out.2 (by have := HT.out; rw [h8] at this; rw [← HL.out, List.take_length, HL.out, ← HM.out, List.take_length] at this; exact this))
        go_wp2
        go_ret
        exact ⟨retB_eq hr2.out, d, HW.out⟩
      · have hkn : k < n1 := by omega
        have hk1 : (k : Int) < (n1 : Int) := by omega
        have hk0 : (0 : Int) ≤ (k : Int) := by omega
        have hkl : k < l.length := by rw [HL.out]; exact hkn
        have hkm : k < m.length := by rw [HM.out]; exact hkn
        obtain ⟨b, off, rfl, hlt, g⟩ := rdi_get HA.out hkl
        obtain ⟨b2, off2, rfl, hlt2, g2⟩ := rdi_get HB.out hkm
        have HP := Lib.hid (same_pre hkl hkm HT.out)
        obtain ⟨x, hx⟩ : ∃ x, x = l.getD k 0 := ⟨_, rfl⟩
        obtain ⟨y, hy⟩ : ∃ y, y = m.getD k 0 := ⟨_, rfl⟩
        rw [← hx] at g HP
        rw [← hy] at g2 HP
        have f1 : wr.cell? ⟨b, off + k, none⟩ = some (.int .i64 x) := by rw [HW.out]; exact g
        have f2 : wr.cell? ⟨b2, off2 + k, none⟩ = some (.int .i64 y) := by rw [HW.out]; exact g2
        have HX := Lib.hid hx
        have HY := Lib.hid hy
        clear g g2 hx hy
        by_cases he : x = y
        · subst he
          have hn := Lib.hid (HP.out.2 rfl)
          go_wp2_with fail
          go_quiet (fail)
          go_wp2
          exact ⟨⟨k + 1, d + nq, by omega, by simp, hn.out, by rw [HW.out, World.drewN_drewN]⟩, by simp [intOf]; omega⟩
        · have hr2 : Hid (r = false) := Lib.hid (by
            have : ¬ r = true := fun h => he (by have e := HR.out.1 h; rw [HX.out, HY.out, e])
            simpa using this)
          go_wp2_with fail
          go_quiet (fail)
          go_wp2
          go_ret
          exact ⟨retB_eq hr2.out, d + nq, by rw [HW.out, World.drewN_drewN]⟩
  · have hne2 : ¬ (n1 : Int) = (n2 : Int) := by omega
    have hr2 : Hid (r = false) := Lib.hid (by
      have : ¬ r = true := fun h => hne (by have e := HR.out.1 h; rw [← HL.out, ← HM.out, e])
      simpa using this)
    go_enter Try.func22, Try.ntmps22
    go_wp2
    go_ret
    exact ⟨retB_eq hr2.out, 0, rfl⟩

end Go.Proofs.Ytlffigkjhhcohaa
