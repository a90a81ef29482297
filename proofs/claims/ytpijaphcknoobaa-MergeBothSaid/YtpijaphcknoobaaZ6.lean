/- Once, as a row; and what is merged, once. -/
import Derived.Test.YtpijaphcknoobaaZ5
namespace Go.Proofs.Ytpijaphcknoobaa
set_option linter.unusedSimpArgs false
open Go.RowKit Go.Shelf
set_option linter.unusedVariables false
attribute [local go_sem] Oper.semAt_some

set_option maxRecDepth 100000 in
set_option maxHeartbeats 4000000 in
theorem once_seq (bo bs : Nat) {g : FuncId} (eg : ∀ args w, (callFunc g args).run Try.prog w = .ok (.enter g args) w) {lb : Array Value} {xs : List TT} {w0 : World} (hs : SeqF Try.prog g lb enc xs w0)
    (hbo : Boxed w0 bo 33 (.func (.func 11) #[] #[])) (hbs : Boxed w0 bs 31 (.func (.func g) #[] lb)) : SeqF Try.prog 35 #[.pointer (some ⟨bs, 0, none⟩), .pointer (some ⟨bo, 0, none⟩)] enc (onceG none xs) w0 := by
  intro l J Jx W D hb hD hin hJ hJx hY h0
  refine (callsIn_wide (n := 3)).1 ?_
  have c2 := (boxed_later hbs hb).cell
  have l2 := (boxed_later hbs hb).lt
  obtain ⟨V, hVe⟩ : ∃ V, V = (W.alloc (.cells #[yv l] 51)).alloc (.cells #[.slice none 0 0] 26) := ⟨_, rfl⟩
  have hV : Below W.heap.size W V := by rw [hVe]; exact bel_alloc (bel_alloc (Below.refl _ _) _) _
  have sV : V.heap.size = W.heap.size + 2 := by rw [hVe]; simp
  have bY : Boxed V W.heap.size 51 (yv l) := by rw [hVe]; exact (Boxed.new W 51 _).alloc _
  have bA : Boxed V (W.heap.size + 1) 26 (.slice none 0 0) := by rw [hVe]; simpa only [World.size_alloc] using Boxed.new (W.alloc (.cells #[yv l] 51)) 26 (.slice none 0 0)
  have hsz := hb.size
  have hob : ∀ g, (Value.slice none 0 0).ownBlock = some g → False := fun g h => by simp [Value.ownBlock] at h
  have hinV : In (fun g => D g ∨ g = W.heap.size + 1 ∨ (Value.slice none 0 0).ownBlock = some g) V := fun g hg => by
    rcases hg with hg | hg | hg
    · have := hin g hg; omega
    · omega
    · exact (hob g hg).elim
  have EA := Lib.hid (callsIn_wide.1 (each_in (h := 36) (cap := #[.pointer (some ⟨W.heap.size + 1, 0, none⟩), .pointer (some ⟨bo, 0, none⟩), .pointer (some ⟨W.heap.size, 0, none⟩)]) (enters_of Try.func36 (by kernel_rfl) rfl) eg hs (w := V) (hb.trans (hV.mono hb.size))
    (J := OnJ J xs w0 (W.heap.size + 2) l W.heap.size (W.heap.size + 1)) (Jx := OnX Jx xs (W.heap.size + 1)) (onJ_loc hJ hV.size (by omega) (by omega)) (onX_loc hJx hV.size) (D := fun g => D g ∨ g = W.heap.size + 1 ∨ (Value.slice none 0 0).ownBlock = some g) (fun g hg => by
      rcases hg with hg | hg | hg
      · exact hD g hg
      · omega
      · exact (hob g hg).elim) hinV
    (fun k x E U hx hE hi => once2_any hbo hJ (by omega) (by omega) (by omega) (by omega) (by omega) (by omega) hY k x E U hx hE hi (by obtain ⟨D', av, ls, h⟩ := hE; have := h.ba.lt; omega))
    ⟨D, .slice none 0 0, [], rfl, hJ.bel h0 hV, fun h => by have := hin _ h; omega, fun h => by have := hin _ h; omega, fun g h => (hob g h).elim, bA, World.ownsRow_nil _ _ _ _, .inl ⟨rfl, rfl, rfl⟩, bY, hb.trans (hV.mono hb.size), hD⟩))
  have EB : Hid (Calls Try.prog 31 #[.func (.func g) #[] lb, .func (.func 36) #[] #[.pointer (some ⟨W.heap.size + 1, 0, none⟩), .pointer (some ⟨bo, 0, none⟩), .pointer (some ⟨W.heap.size, 0, none⟩)]] V fun e W2 => (∃ v, e = .returned v) ∧ SeqPost (onceG none xs).length J Jx D W W2) := Lib.hid (EA.out.mono (fun e W2 h => by
    obtain ⟨E, hg, hc, h⟩ := h
    have hC : Chg D W W2 := (Chg.of_below hV).trans hc (fun g hg => by
      rcases hg with hg | hg | hg
      · exact .inl hg
      · exact .inr (by omega)
      · exact (hob g hg).elim)
    have hs2 := hc.size
    have hG : ∀ (D' : Nat → Prop), (∀ g, D' g → E g) → Gr D D' W W2 := fun D' h1 g hg' => by
      rcases hg g (h1 g hg') with (q | q | q) | q
      · exact .inl q
      · exact .inr ⟨by omega, by omega⟩
      · exact (hob g q).elim
      · exact .inr ⟨by have := hV.size; omega, q.2⟩
    rcases h with ⟨rfl, D', av, ls, h⟩ | ⟨rfl, k, hk, D', av, he, h⟩
    · exact ⟨⟨_, rfl⟩, D', hG D' (fun g hg => by rw [h.e]; exact .inl hg), hC, .inl (by have := h.j; rwa [List.take_length] at this)⟩
    · exact ⟨⟨_, rfl⟩, D', hG D' (fun g hg => by rw [he]; exact .inl hg), hC, .inr ⟨_, once_le xs k, h⟩⟩))
  clear EA hY h0 hs hbo hbs bY bA sV hV hinV
  refine callsIn_of_wp Try.func35 rfl trivial ?_ rfl
  simp only [Try.ntmps35, List.size_toArray, List.length_cons, List.length_nil, Nat.reduceAdd, Nat.reduceSub, Array.replicate_succ, Array.replicate_zero, List.push_toArray, List.append_toArray, List.nil_append, List.cons_append]
  subst hVe
  clear hob
  gi_wp2_with fail
  refine ⟨trivial, (callsIn_wide.2 EB.out).mono ?_⟩
  rintro e W2 ⟨⟨v, rfl⟩, hS⟩
  have HS := Lib.hid hS
  clear hS
  gi_wp2
  go_end0
  exact ⟨⟨_, rfl⟩, HS.out⟩
theorem once_any {g : FuncId} (eg : ∀ args w, (callFunc g args).run Try.prog w = .ok (.enter g args) w) {lb : Array Value} {xs : List TT} {w0 w : World} (hs : SeqF Try.prog g lb enc xs w0) (hb : Below w0.heap.size w0 w) :
    Calls Try.prog 12 #[.func (.func g) #[] lb, .func (.func 11) #[] #[]] w (SeqBack Try.prog 35 w (onceG none xs)) := by
  have hV : Below w.heap.size w ((w.alloc (.cells #[.func (.func g) #[] lb] 31)).alloc (.cells #[.func (.func 11) #[] #[]] 33)) := bel_alloc (bel_alloc (Below.refl _ _) _) _
  have S := Lib.hid (once_seq (w.heap.size + 1) w.heap.size eg (hs.later (hb.trans (hV.mono hb.size))) (by simpa only [World.size_alloc] using Boxed.new (w.alloc (.cells #[.func (.func g) #[] lb] 31)) 33 (.func (.func 11) #[] #[])) ((Boxed.new w 31 (.func (.func g) #[] lb)).alloc _))
  have HB := Lib.hid hV
  clear hV hb hs
  go_enter Try.func12, Try.ntmps12
  go_wp2
  exact bodyPost_ret (v := .func (.func 35) #[] #[.pointer (some ⟨w.heap.size, 0, none⟩), .pointer (some ⟨w.heap.size + 1, 0, none⟩)]) (by simp [results, Try.results12, go_sem]) rfl ⟨_, rfl, HB.out, S.out⟩
end Go.Proofs.Ytpijaphcknoobaa
