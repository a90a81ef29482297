/- Keys one behind the other. -/
import Derived.Test.YtdbcaiggliiacaaG1
import Derived.Test.YtdbcaiggliiacaaM1
namespace Go.Proofs.Ytdbcaiggliiacaa
set_option linter.unusedSimpArgs false
open Go.RowKit Go.Maps
set_option linter.unusedVariables false
def ES : RE ByteArray where
  st := 80
  et := 9
  k := 1
  by_ := 16
  z := .string ⟨#[]⟩
  cs := fun s => [.string s]
  kpos := by omega
  len := fun _ => rfl
  one := fun x u hu => by simp at hu; subst hu; rfl
  und := Try.underlying80
  info := by kernel_rfl
  zk := rfl
  bmax := by omega
def ET : RE TT where
  st := 30
  et := 44
  k := 2
  by_ := 32
  z := .agg #[.string ⟨#[]⟩, .string ⟨#[]⟩]
  cs := fun x => [.string x.1, .string x.2]
  kpos := by omega
  len := fun _ => rfl
  one := fun x u hu => by simp at hu; rcases hu with rfl | rfl <;> rfl
  und := Try.underlying30
  info := by kernel_rfl
  zk := rfl
  bmax := by omega
theorem es_get {w : World} {A : Option Addr} {xs : List ByteArray} (h : ES.Rd w A xs) {i : Nat} {x : ByteArray} (hi : xs[i]? = some x) : ∃ b off, A = some ⟨b, off, none⟩ ∧ b < w.heap.size ∧ w.cell? ⟨b, off + i, none⟩ = some (.string x) := by
  obtain ⟨b, off, e, h1, h2⟩ := h.get hi
  have := h2 0 (.string x) rfl
  exact ⟨b, off, e, h1, by simpa [ES] using this⟩
theorem RE.Row.addr {α : Type} {E : RE α} {w : World} {base : Nat} {A : Option Addr} {l : List α} {c : Nat} (h : E.Row w base A l c) (hl : 0 < l.length) : ∃ g, A = some ⟨g, 0, none⟩ ∧ base ≤ g := by
  rcases h with ⟨h, _⟩ | ⟨_, h⟩
  · subst h; simp at hl
  · rcases h.2 with ⟨hv, hn⟩ | ⟨g, cap, cur, hv, hg, _⟩
    · omega
    · cases hv; exact ⟨g, rfl, hg⟩
/-- Texts in memory, told by their number. -/
def NewT (w : World) (n : Nat) (l : List ByteArray) (e : Ending) (w' : World) : Prop := ∃ a c, e = .returned (.slice (some a) n c) ∧ ES.Rd w' (some a) l ∧ n ≤ c ∧ c ≤ maxLen ∧ Below w.heap.size w w'
set_option maxHeartbeats 1000000 in
theorem into_some (a : Addr) (n c : Nat) (ks : List ByteArray) (s : ByteArray) (w : World) (hl : ks.length = n) (hn : n ≤ 1000) (hc : n ≤ c) (hm : c ≤ maxLen) (hA : ES.Rd w (some a) ks) (hs : ∀ x ∈ ks, lt x s = true) :
    Calls Try.prog 48 #[.slice (some a) n c, .string s] w (NewT w (n + 1) (ks ++ [s])) := by
  have HL := Lib.hid hl
  have HA := Lib.hid hA
  have HS := Lib.hid hs
  have R0 : Hid (ES.Row (w.alloc (.cells #[] 9)) w.heap.size (some ⟨w.heap.size, 0, none⟩) [] 0) := Lib.hid RE.Row.nil
  have HA0 := Lib.hid (hA.later (alb w (.cells #[] 9)))
  have hm' : c ≤ 9223372036854775807 := by unfold maxLen at hm; omega
  have B0 := Lib.hid (alb w (.cells #[] 9))
  have LT := Lib.hid (fun W => RE.Rd.lit (E := ES) W 9 [s] #[.string s] rfl)
  clear hl hA hs
  go_enter Try.func48, Try.ntmps48
  go_wp2
  go_loopw [5] (fun kv wr => ∃ k : Nat, k ≤ n ∧ kv = .int .i64 k ∧ w = wr) (fun k _ => n - (intOf k).toNat)
  case atStart => exact ⟨0, by omega, rfl, rfl⟩
  case round =>
    obtain ⟨k, hk, rfl, rfl⟩ := hrel
    by_cases h8 : k < n
    · have hk1 : (k : Int) < (n : Int) := by omega
      have hk0 : (0 : Int) ≤ (k : Int) := by omega
      obtain ⟨x, hx⟩ : ∃ x, ks[k]? = some x := ⟨_, List.getElem?_eq_getElem (by rw [HL.out]; omega)⟩
      obtain ⟨b, off, e, hlt, g0⟩ := es_get HA.out hx
      cases e
      have hlt' := HS.out x (List.mem_of_getElem? hx)
      unfold lt at hlt'
      clear hx
      go_wp2
      exact ⟨⟨k + 1, by omega, by simp, by trivial⟩, by simp [intOf]; omega⟩
    · have hk1 : ¬ (k : Int) < (n : Int) := by omega
      obtain rfl : k = n := by omega
      have hk0 : (0 : Int) ≤ (k : Int) := by omega
      have hk2 : (k : Int) ≤ (c : Int) := by omega
      go_wp2_with (first
        | (at_builtin; refine RE.wpList_put ES _ rfl (.tmp 34) (.tmp 37) rfl (base := w.heap.size) (some ⟨w.heap.size, 0, none⟩) 0 0 [] (some a) k c ks rfl rfl R0.out rfl (by omega) B0.out.size HL.out (by omega) HA0.out ?_; intro A1 c1 w1 r1 g1 o1; have R1 : Hid (ES.Row w1 w.heap.size A1 ks c1) := Lib.hid (by simpa using r1); have B1 := Lib.hid (B0.out.trans (R0.out.below g1 (Nat.le_refl _) B0.out.size)); clear r1 g1 o1)
        | (at_builtin; refine RE.wpList_put ES _ rfl (.tmp 39) (.tmp 41) rfl (base := w.heap.size) A1 k c1 ks (some ⟨w1.heap.size, 0, none⟩) 1 1 [s] rfl rfl (R1.out.later (alb w1 _)) HL.out (by omega) (B1.out.alloc B1.out.size _).size rfl (by omega) (LT.out _) ?_; intro A2 c2 w2 r2 g2 o2; have R2 := Lib.hid r2; have B2 := Lib.hid ((B1.out.alloc B1.out.size (.cells #[.string s] 9)).trans (R1.out.below g2 (Nat.le_refl _) (B1.out.alloc B1.out.size _).size)); clear r2 g2 o2)
        | (at_builtin; refine RE.wpList_put ES _ rfl (.tmp 43) (.tmp 46) rfl (base := w.heap.size) A2 (k + 1) c2 (ks ++ [s]) _ 0 _ [] rfl rfl R2.out (by rw [List.length_append, HL.out]; rfl) (by omega) B2.out.size rfl (by omega) RE.Rd.nil ?_; intro A3 c3 w3 r3 g3 o3; have R3 : Hid (ES.Row w3 w.heap.size A3 (ks ++ [s]) c3) := Lib.hid (by simpa using r3); have B3 := Lib.hid (B2.out.trans (R2.out.below g3 (Nat.le_refl _) B2.out.size)); clear r3 g3 o3)
        | fail)
      all_goals
        go_ret
        obtain ⟨g, rfl, hg⟩ := R3.out.addr (by simp)
        have hcp := R3.out.cap
        rw [List.length_append, HL.out] at hcp
        exact ⟨_, _, rfl, R3.out.rd, hcp.1, hcp.2, B3.out⟩
set_option maxHeartbeats 1000000 in
/-- The keys that points name, of no messages: none. -/
theorem keys_nil (w : World) : Calls Try.prog 47 #[.slice none 0 0] w (NewT w 0 []) := by
  go_enter Try.func47, Try.ntmps47
  go_wp2
  go_loopw [3, 4] (fun ov kv wr => ov = .slice (some ⟨w.heap.size, 0, none⟩) 0 0 ∧ kv = .int .i64 0 ∧ wr = w.alloc (.cells #[] 9)) (fun _ _ _ => 0)
  case atStart => exact ⟨rfl, rfl, rfl⟩
  case round =>
    obtain ⟨rfl, rfl, rfl⟩ := hrel
    go_wp2
    go_ret
    exact ⟨⟨w.heap.size, 0, none⟩, 0, rfl, RE.Rd.nil, Nat.le_refl _, Nat.zero_le _, alb w _⟩
def kys (xs : List TT) : List ByteArray := xs.map (·.1)
set_option maxHeartbeats 1000000 in
/-- The keys that entries have, where they rise. -/
theorem named_any (A : Option Addr) (n c : Nat) (xs : List TT) (w : World) (hl : xs.length = n) (hn : n ≤ 900) (hA : RdT w A xs) (hr : PW xs) :
    Calls Try.prog 36 #[.slice none 0 0, .slice A n c] w (NewT w n (kys xs)) := by
  have HL := Lib.hid hl
  have HA := Lib.hid hA
  have HR := Lib.hid hr
  clear hl hA hr
  go_enter Try.func36, Try.ntmps36
  go_wp2_with (first
    | (go_at_call 47; ((with_reducible refine (keys_nil w).mono ?_); rintro e w1 ⟨a, c1, rfl, r1, h1, h2, b1⟩; have R1 := Lib.hid r1; have H2 := Lib.hid h2; have B1 := Lib.hid b1; clear r1 h1 h2 b1))
    | fail)
  go_loopw [5, 6] (fun ov iv wr => ∃ (k : Nat) (a : Addr) (c : Nat), k ≤ n ∧ iv = .int .i64 k ∧ ov = .slice (some a) k c ∧ ES.Rd wr (some a) (kys (xs.take k)) ∧ k ≤ c ∧ c ≤ maxLen ∧ Below w.heap.size w wr) (fun _ i _ => n - (intOf i).toNat)
  case atStart => exact ⟨0, a, c1, Nat.zero_le _, rfl, rfl, R1.out, Nat.zero_le _, H2.out, B1.out⟩
  case round =>
    obtain ⟨k, a2, c2, hk, rfl, rfl, hr2, hc2, hm2, hb2⟩ := hrel
    have R2 := Lib.hid hr2
    have B2 := Lib.hid hb2
    clear hr2 hb2
    by_cases h8 : k < n
    · have hk1 : (k : Int) < (n : Int) := by omega
      have hk0 : (0 : Int) ≤ (k : Int) := by omega
      obtain ⟨x, hx⟩ : ∃ x, xs[k]? = some x := ⟨_, List.getElem?_eq_getElem (by rw [HL.out]; omega)⟩
      obtain ⟨b, off, rfl, hlt, f0, f1⟩ := rdt_get HA.out hx
      have g0 := bel_later B2.out f0
      have ek : kys (xs.take (k + 1)) = kys (xs.take k) ++ [x.1] := by
        obtain ⟨h1, e1⟩ := List.getElem?_eq_some_iff.1 hx
        rw [List.take_succ_eq_append_getElem h1, e1]; simp [kys]
      have hlt2 : ∀ y ∈ kys (xs.take k), lt y x.1 = true := by
        have hp : PW (xs.take (k + 1)) := List.Pairwise.sublist (List.take_sublist _ _) HR.out
        obtain ⟨h1, e1⟩ := List.getElem?_eq_some_iff.1 hx
        rw [List.take_succ_eq_append_getElem h1, e1] at hp
        intro y hy
        obtain ⟨z, hz, rfl⟩ := List.mem_map.1 hy
        exact (List.pairwise_append.1 hp).2.2 z hz x (by simp)
      have hlen : (kys (xs.take k)).length = k := by simp [kys]; rw [HL.out]; omega
      have IN := Lib.hid (into_some a2 k c2 (kys (xs.take k)) x.1 wr hlen (by omega) hc2 hm2 R2.out hlt2)
      rw [← ek] at IN
      obtain ⟨x0, x1⟩ := x
      simp only at g0 IN
      clear hx f0 f1 ek hlt2 hlen hlt
      go_wp2_with (first
        | (go_at_call 48; ((with_reducible refine IN.out.mono ?_); rintro e w3 ⟨a3, c3, rfl, r3, h3, h4, b3⟩; have R3 := Lib.hid r3; have B3 := Lib.hid (bel_trans B2.out b3); clear r3 b3))
        | fail)
      exact ⟨⟨k + 1, a3, c3, by omega, by simp, rfl, R3.out, h3, h4, B3.out⟩, by simp [intOf]; omega⟩
    · have hk1 : ¬ (k : Int) < (n : Int) := by omega
      obtain rfl : k = n := by omega
      have hr : xs.take k = xs := List.take_of_length_le (by rw [HL.out]; omega)
      have R3 := Lib.hid R2.out
      rw [hr] at R3
      clear hr R2
      go_wp2
      go_ret
      exact ⟨_, _, rfl, R3.out, hc2, hm2, B2.out⟩
end Go.Proofs.Ytdbcaiggliiacaa
