/- An entry, and the deferred closure. -/
import Derived.Test.YteiifcmdpoonmaaP5
namespace Go.Proofs.Yteiifcmdpoonmaa
set_option linter.unusedSimpArgs false
open Go.RowKit Go.Maps Go.Shelf
set_option linter.unusedVariables false
theorem entry_any (r : Nat) (A : Option Addr) (n c : Nat) (l : List TT) (s : ByteArray) (x : Except Int (TT × ByteArray)) (w : World) (hE : En l s x) (h : Rdr w r s) (hl : l.length = n) (hn : n ≤ 1000000) (hA : RdT w A l) (hsz : (lastK ⟨#[]⟩ l).size + s.size ≤ 1000000) :
    Calls Try.prog 20 #[.pointer (some ⟨r, 0, none⟩), .slice A n c] w (EnPost r x w) := by
  by_cases hz : l = []
  · subst hz
    obtain rfl : n = 0 := hl.symm
    have hs : s.size ≤ 1000000 := by omega
    cases hE with
    | num m r1 e h1 he => exact entry_a_num r A c s r1 s s s s s s 0 e 0 w h hs m h1 he
    | far m r1 h1 h2 =>
      have hm := (tnF_sz s r1 m h1).2.1
      obtain ⟨q, rfl⟩ : ∃ q : Nat, m = q := ⟨m.toNat, by omega⟩
      exact entry_a_far r A c s r1 s s s s s s q 0 0 w h hs h1 (by simp only [lastK] at h2; omega)
    | txt q r1 t r2 e h1 h2 h3 he => exact entry_a_txt r A c s r1 t r2 s s s s q e 0 w h hs h1 h2 h3 he
    | ord q r1 t r2 h1 h2 h3 h4 h5 => exact absurd rfl h4
    | val q r1 t r2 v r3 e h1 h2 h3 h4 h5 he => exact entry_a_val r A c s r1 t r2 v r3 _ _ q e 0 w h hs h1 h2 h3 rfl rfl h5 he
    | ok q r1 t r2 v r3 h1 h2 h3 h4 h5 => exact entry_a_ok r A c s r1 t r2 v r3 _ _ q 0 0 w h hs h1 h2 h3 rfl rfl h5
  · have hn0 : 0 < n := by rw [← hl]; exact List.length_pos_iff.2 hz
    have hA' := last_get hA hz
    rw [hl] at hA'
    generalize hag : lastK ⟨#[]⟩ l = a at *
    cases hE with
    | num m r1 e h1 he => exact entry_b_num r A n c a s r1 s s s s s s 0 e 0 w h hn0 hn hA' hsz m h1 he
    | far m r1 h1 h2 =>
      rw [hag] at h2
      have hm := (tnF_sz s r1 m h1).2.1
      obtain ⟨q, rfl⟩ : ∃ q : Nat, m = q := ⟨m.toNat, by omega⟩
      exact entry_b_far r A n c a s r1 s s s s s s q 0 0 w h hn0 hn hA' hsz h1 (by omega)
    | txt q r1 t r2 e h1 h2 h3 he =>
      rw [hag] at h2
      exact entry_b_txt r A n c a s r1 t r2 s s s s q e 0 w h hn0 hn hA' hsz h1 h2 h3 he
    | ord q r1 t r2 h1 h2 h3 h4 h5 =>
      rw [hag] at h2 h5
      cases hb : Op.bytesLess a.toList (a.extract 0 q ++ t).toList with
      | true => exact entry_b_ord3 r A n c a s r1 t r2 s s _ _ q 0 _ w h hn0 hn hA' hsz h1 h2 h3 rfl rfl hb rfl (fun e => h5 ⟨hb, e⟩)
      | false =>
        rcases le_cases hb with hb | ⟨hb, he⟩
        · exact entry_b_ord1 r A n c a s r1 t r2 s s _ _ q 0 0 w h hn0 hn hA' hsz h1 h2 h3 rfl rfl hb
        · exact entry_b_ord2 r A n c a s r1 t r2 s s _ _ q 0 0 w h hn0 hn hA' hsz h1 h2 h3 rfl rfl hb he
    | val q r1 t r2 v r3 e h1 h2 h3 h4 h5 he =>
      rw [hag] at h2 h4
      rcases h4 with h4 | ⟨h4, h6⟩
      · exact absurd h4 hz
      · exact entry_b_val r A n c a s r1 t r2 v r3 _ _ q e 0 w h hn0 hn hA' hsz h1 h2 h3 rfl rfl h4 h6 h5 he
    | ok q r1 t r2 v r3 h1 h2 h3 h4 h5 =>
      rw [hag] at h2 h4 ⊢
      rcases h4 with h4 | ⟨h4, h6⟩
      · exact absurd h4 hz
      · exact entry_ok r A n c a s r1 t r2 v r3 _ _ q w h hn0 hn hA' hsz h1 h2 h3 h5 rfl rfl h4 h6
theorem assert31 (W : World) (v : Value) : (Instr.typeAssert (.iface 31 v) 20 31 true).run Try.prog W = .ok (.tuple #[v, .bool true]) W := by kernel_rfl
set_option maxHeartbeats 2000000 in
/-- The deferred closure where a reader gave up. -/
theorem catch_panic (b : Nat) (x : Int) (w : World) {u v : Value} {t1 t2 : TypeId} (h1 : w.heap[b]? = some (.cells #[u] t1 (0, 0))) (h2 : w.heap[b + 1]? = some (.cells #[v] t2 (0, 0))) :
    CallsD Try.prog 18 #[.pointer (some ⟨b, 0, none⟩), .pointer (some ⟨b + 1, 0, none⟩)] (.panicking [{ v := .iface 31 (.int .i64 x), recovered := false }]) w fun e u' w' =>
      e = .returned (.tuple #[]) ∧ u' = .panicking [{ v := .iface 31 (.int .i64 x), recovered := true }] ∧ w' = (w.setCell ⟨b, 0, none⟩ (.slice none 0 0)).setCell ⟨b + 1, 0, none⟩ (.int .i64 x) := by
  have c1 : w.cell? ⟨b, 0, none⟩ = some u := by simp [World.cell?, h1]
  have f1 : w.frozen? ⟨b, 0, none⟩ = false := by simp [World.frozen?, h1]
  have c2 : w.cell? ⟨b + 1, 0, none⟩ = some v := by simp [World.cell?, h2]
  have f2 : w.frozen? ⟨b + 1, 0, none⟩ = false := by simp [World.frozen?, h2]
  have hta := fun W => assert31 W (.int .i64 x)
  refine callsD_of_wpS Try.func18 rfl fun c₀ cs hu => ?_
  apply wpS_seq
  apply wpS_region
  simp [wpOpsS, go_sem, recoverD, hu, Try.ntmps18, Exit.thenS]
  refine wpS_of_wp ?_
  simp only [Array.replicate_succ, Array.replicate_zero, List.push_toArray, List.append_toArray, List.nil_append, List.cons_append, List.setIfInBounds_toArray, List.set_cons_zero, List.set_cons_succ]
  go_wp2
  cases c₀
  simp_all [bodyPostS, results, Try.results18]
end Go.Proofs.Yteiifcmdpoonmaa
