/- live. -/
import Derived.Test.YtdbcaiggliiacaaC7
namespace Go.Proofs.Ytdbcaiggliiacaa
set_option linter.unusedSimpArgs false
open Go.RowKit Go.Maps
set_option linter.unusedVariables false
abbrev ka : ByteArray := ⟨#[97]⟩
abbrev kb : ByteArray := ⟨#[98]⟩
abbrev kc : ByteArray := ⟨#[99]⟩
abbrev kz : ByteArray := ⟨#[122]⟩
abbrev kc0 : ByteArray := ⟨#[99, 0]⟩
abbrev k0 : ByteArray := ⟨#[]⟩
abbrev lvE : List TT := [(kb, k0), (kc, k0)]
theorem lt_of (a b : ByteArray) : lt a b = Op.bytesLess a.data.toList b.data.toList := by unfold lt; rw [ByteArray.toList_eq, ByteArray.toList_eq]
theorem emp_of (a : ByteArray) : emp a = a.data.toList.isEmpty := by unfold emp; rw [ByteArray.toList_eq]
theorem sb_az : sb ka kz = true := by unfold sb; rw [lt_of, emp_of]; decide
theorem sb_cz : sb kc0 kz = true := by unfold sb; rw [lt_of, emp_of]; decide
theorem ris_lv : ris lvE := by
  intro i x y hx hy
  match i, hx, hy with
  | 0, hx, hy =>
    simp at hx hy
    subst hx hy
    rw [ByteArray.toList_eq, ByteArray.toList_eq]; decide
  | i + 1, hx, hy => simp at hy
theorem okl_lv : okl ka kz lvE := by
  intro x hx
  simp only [List.mem_cons, List.not_mem_nil, or_false] at hx
  rcases hx with rfl | rfl <;> (unfold has sb; rw [lt_of, lt_of, emp_of]; decide)
theorem lastE_lv : A0 (lastE lvE) = kc0 := by decide
theorem tk_lv : Tk (some (ka, kz, false)) lvE 2 (.ok (kc0, kz, false)) := by
  have := Tk.more ka kz false lvE 2 (.inl rfl) (by decide) (by decide) ris_lv okl_lv (by decide) (by rw [lastE_lv]; exact sb_cz)
  rw [lastE_lv] at this; exact this
theorem lits_rdt (w : World) (x y : TT) : RdT (w.alloc (.cells #[.string x.1, .string x.2, .string y.1, .string y.2] 44)) (some ⟨w.heap.size, 0, none⟩) [x, y] := by
  refine .inr ⟨w.heap.size, 0, rfl, by simp, fun j u hj => ?_⟩
  have := World.news_of_block (w := w.alloc (.cells #[.string x.1, .string x.2, .string y.1, .string y.2] 44)) (B := w.heap.size) (cs := #[.string x.1, .string x.2, .string y.1, .string y.2]) (t := 44) (fr := (0, 0)) (heap_alloc_new w _) j u (by simpa [cls] using hj)
  have hadd : (⟨w.heap.size, 0, none⟩ : Addr).add j = ⟨w.heap.size, 0 + j, none⟩ := by unfold Addr.add; split <;> simp_all
  rw [hadd] at this; exact this
theorem PT.congr {w : World} {N M m n : Nat} {last : Int} {S T : Int → Option Cur} (h : PT w N M m n last S) (e : ∀ x, S x = T x) : PT w N M m n last T := by
  have : S = T := funext e
  rw [← this]; exact h
def S1 (c : Cur) : Int → Option Cur := fun y => if y = 1 then some c else none
theorem PT.open1 {w : World} {N M : Nat} (h : PT w N M 0 0 0 (fun _ => none)) (a b : ByteArray) (hr : sb a b = true) :
    Calls Try.prog 11 #[.pointer (some ⟨N, 0, none⟩), .agg #[.string a, .string b]] w fun e w' => e = .returned (.tuple #[.int .i64 1, .int .i64 0]) ∧ PT w' N M 1 1 1 (S1 (a, b, false)) ∧ Chg (fun g => g = N ∨ g = M) w w' := by
  refine (open_ok h a b hr (by omega) (by omega) (by omega)).mono ?_
  rintro e w' ⟨rfl, p, c⟩
  exact ⟨rfl, p.congr (fun x => by unfold updC S1; simp), c⟩
theorem PT.took1 {w : World} {N M m : Nat} {c : Cur} (h : PT w N M m 1 1 (S1 c)) (hm : m ≤ 1000000) (A : Option Addr) (n cp : Nat) (l : List TT) (most : Int) (hl : l.length = n) (hn9 : n ≤ 1000000000) (hA : RdT w A l) (hs : (lastE l).size + 1 ≤ 9223372036854775807) (r : Except Int Cur) (hr : Tk (some c) l most r) :
    Calls Try.prog 13 #[.pointer (some ⟨N, 0, none⟩), .int .i64 1, .slice A n cp, .int .i64 most] w fun e w' => ∃ (b : Bool) (x : Int) (d : Cur) (m' : Nat), e = .returned (.tuple #[.bool b, .int .i64 x]) ∧ m' ≤ m + 1 ∧ PT w' N M m' 1 1 (S1 d) ∧ Chg (fun g => g = M) w w' ∧ ((r = .error x ∧ d = c ∧ b = false) ∨ (r = .ok d ∧ x = 0 ∧ b = d.2.2)) := by
  have hS : S1 c 1 = some c := rfl
  refine (took_any h 1 (by decide) hm A n cp l most hl hn9 hA hs r (by rw [hS]; exact hr)).mono ?_
  intro e w' ht
  cases r with
  | error z =>
    obtain ⟨rfl, b⟩ := ht
    exact ⟨_, _, c, m, rfl, by omega, h.later b, Chg.of_below b, .inl ⟨rfl, rfl, rfl⟩⟩
  | ok d =>
    obtain ⟨rfl, p, ch⟩ := ht
    refine ⟨_, _, d, m + 1, rfl, Nat.le_refl _, ?_, ch, .inr ⟨rfl, rfl, rfl⟩⟩
    rw [hS] at p
    exact p.congr (fun x => by unfold updC S1; split <;> rfl)
set_option maxHeartbeats 4000000 in
set_option maxRecDepth 10000 in
theorem live_any (w : World) : Calls Try.prog 10 #[] w fun e w' => e = .returned (.bool true) ∧ Below w.heap.size w w' := by
  have hc : (kc0.toList == kc0.toList) = true := by simp
  have hz : (kz.toList == kz.toList) = true := by simp
  go_enter Try.func10, Try.ntmps10
  go_wp2_with (first
    | (go_at_call 7; ((with_reducible refine (new_any _).mono ?_); rintro e w1 ⟨N, M, rfl, p1, hN, hM, b1⟩; have P1 := Lib.hid p1; have GN := Lib.hid hN; have GM := Lib.hid hM; have B1 := Lib.hid b1; clear p1 hN hM b1))
    | (go_at_call 11; ((with_reducible refine (P1.out.open1 _ _ sb_az).mono ?_); rintro e w2 ⟨rfl, p2, c2⟩; have P2 := Lib.hid (p2.later (alb w2 (.cells #[.string kb, .string k0, .string kc, .string k0] 44))); have R2 := Lib.hid (lits_rdt w2 (kb, k0) (kc, k0)); have B2 := Lib.hid (B1.out.trans ((c2.below (fun g e => by have := GN.out; have := GM.out; omega) B1.out.size).alloc (Nat.le_trans B1.out.size c2.size) (.cells #[.string kb, .string k0, .string kc, .string k0] 44))); clear p2 c2))
    | (go_at_call 13; ((with_reducible refine (P2.out.took1 (by omega) _ 2 2 _ 2 rfl (by omega) R2.out (by decide) _ tk_lv).mono ?_); rintro e w3 ⟨b3, x3, d3, m3, rfl, hm3, p3, c3, hd⟩; rcases hd with ⟨hd, _, _⟩ | ⟨hd, rfl, rfl⟩; cases hd; cases hd; have P3 := Lib.hid p3; have B3 := Lib.hid (B2.out.trans (c3.below (fun g e => by have := GM.out; omega) B2.out.size)); clear p3 c3))
    | (go_at_call 16; ((with_reducible refine (left_some P3.out 1 (by decide) kc0 kz false rfl).mono ?_); rintro e w4 ⟨rfl, b4⟩; have P4 := Lib.hid ((P3.out.later b4).later (alb w4 (.cells #[.string kc0, .string kz] 29))); have B4 := Lib.hid (bel_alloc (bel_trans B3.out b4) (.cells #[.string kc0, .string kz] 29)); clear b4))
    | (go_at_call 22; ((with_reducible refine (len_any P4.out).mono ?_); rintro e w5 ⟨rfl, rfl⟩))
    | (go_at_call 21; ((with_reducible refine (close_none P4.out 2 (by decide) rfl).mono ?_); rintro e w6 ⟨rfl, b6⟩; have B6 := Lib.hid (bel_trans B4.out b6); clear b6))
    | fail)
  go_ret
  exact ⟨rfl, B6.out⟩
end Go.Proofs.Ytdbcaiggliiacaa
