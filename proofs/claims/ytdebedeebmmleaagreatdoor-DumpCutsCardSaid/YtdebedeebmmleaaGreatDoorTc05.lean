/- Texts of the proof, one behind the other. -/
import Derived.Test.YtdebedeebmmleaaGreatDoorTc04
set_option linter.unusedVariables false
set_option linter.unusedSimpArgs false
namespace Go.Proofs.YtdebedeebmmleaaGreatDoor
open Go.RowKit Go.Maps
variable {nV aV : Value}
theorem cut_any (t : ByteArray) (ht : t.size ≤ 4000000) (w : World) (h : GW w) :
    Calls Tryz.prog 58 #[.string t, .string NL] w fun e w' => e = .returned (.tuple #[.string ⟨(Lib.cut t.data.toList [10]).1.toArray⟩, .string ⟨(Lib.cut t.data.toList [10]).2.1.toArray⟩, .bool (Lib.cut t.data.toList [10]).2.2]) ∧ Below w.heap.size w w' := by
  obtain ⟨m, hm⟩ := h.mx
  refine (sh_strings_Cut t NL m w (by omega) hm).mono fun e w' ⟨h1, n, h2⟩ => ⟨h1, ?_⟩
  rw [h2]; exact bel_drewN (Below.refl _ _) n
theorem split_any (t : ByteArray) (ht : t.size ≤ 4000000) (w : World) (h : GW w) :
    Calls Tryz.prog 59 #[.string t, .string SP] w fun e w' => ∃ b n, e = .returned (.slice (some ⟨b, 0, none⟩) n n) ∧ w.heap.size ≤ b ∧ (splitW t).length = n ∧ ES.Rd w' (some ⟨b, 0, none⟩) (splitW t) ∧ Below w.heap.size w w' := by
  obtain ⟨m, hm⟩ := h.mx
  refine (sh_strings_Split t SP m w (by omega) hm (by decide)).mono fun e w' ⟨h1, h2⟩ => ⟨_, _, h1, Nat.le_refl _, split_len t, ?_, ?_⟩
  · rw [h2]; exact RE.Rd.lit (E := ES) w 9 (splitW t) _ (by rw [es_all]; rfl)
  · rw [h2]; exact alb _ _
/-- The words of the next line, and what is left behind it. -/
def nextF (t : ByteArray) : Option (List ByteArray × ByteArray) :=
  if (Lib.cut t.data.toList [10]).2.2 then some (splitW ⟨(Lib.cut t.data.toList [10]).1.toArray⟩, ⟨(Lib.cut t.data.toList [10]).2.1.toArray⟩) else none
theorem next_facts {t : ByteArray} {ws : List ByteArray} {u : ByteArray} (h : nextF t = some (ws, u)) : 0 < ws.length ∧ u.size < t.size ∧ (∀ x ∈ ws, x.size ≤ t.size) ∧ t.data.toList = Lib.join (ws.map (·.data.toList)) [32] ++ 10 :: u.data.toList ∧ (10 : UInt8) ∉ Lib.join (ws.map (·.data.toList)) [32] := by
  unfold nextF at h
  split at h
  · rename_i hc
    rcases cut_cases 10 t.data.toList with ⟨h1, _⟩ | ⟨_, h2, h3⟩
    · rw [h1] at hc; cases hc
    · obtain ⟨⟨a, b, o⟩, he⟩ : ∃ z, Lib.cut t.data.toList [10] = z := ⟨_, rfl⟩
      rw [he] at h h2 h3
      simp only at h h2 h3
      cases h
      have hl := congrArg List.length h2
      rw [ba_len, List.length_append, List.length_cons] at hl
      refine ⟨split_ne _, by rw [ba_size]; omega, fun x hx => ?_, ?_, ?_⟩
      · have h5 := split_sz SP _ _ x hx
        have h6 := ba_size a
        omega
      · rw [split_back, ba_list, ba_list]; exact h2
      · rw [split_back, ba_list]; exact h3
  · cases h
theorem next_line (ws : List ByteArray) (u : ByteArray) (h0 : ws ≠ []) (h1 : ∀ x ∈ ws, (32 : UInt8) ∉ x.data.toList ∧ (10 : UInt8) ∉ x.data.toList) : nextF ⟨(Lib.join (ws.map (·.data.toList)) [32] ++ 10 :: u.data.toList).toArray⟩ = some (ws, u) := by
  have hn : (10 : UInt8) ∉ Lib.join (ws.map (·.data.toList)) [32] := join_no 10 (by decide) _ (fun y hy => by
    obtain ⟨x, hx, rfl⟩ := List.mem_map.1 hy
    exact (h1 x hx).2)
  unfold nextF
  rw [ba_list, cut_app 10 _ _ hn]
  simp only [if_true]
  rw [split_words ws h0 (fun x hx => (h1 x hx).1), ba_mk]
theorem next_none_of {t : ByteArray} (h : (10 : UInt8) ∉ t.data.toList) : nextF t = none := by
  unfold nextF
  rw [cut_none 10 _ h]
  rfl
set_option maxHeartbeats 1000000 in
set_option maxRecDepth 100000 in
theorem next_ok {B g : Nat} {t : ByteArray} {ln : Int} {w : World} {ws : List ByteArray} {u : ByteArray} (hr : RB nV aV w g t ln) (hb : GB B w) (hg : B ≤ g) (ht : t.size ≤ 4000000) (hl : 0 ≤ ln ∧ ln ≤ 100000000) (hn : nextF t = some (ws, u)) :
    Calls Tryz.prog 33 #[.pointer (some ⟨g, 0, none⟩)] w fun e w' => ∃ b n, e = .returned (.slice (some ⟨b, 0, none⟩) n n) ∧ w.heap.size ≤ b ∧ ws.length = n ∧ ES.Rd w' (some ⟨b, 0, none⟩) ws ∧ RB nV aV w' g u (ln + 1) ∧ Chg (fun x => x = g) w w' := by
  have WL : IntKind.i64.wrap (ln + 1) = ln + 1 := IntWalk.i64_in _ (by omega)
  have HT := Lib.hid ht
  have c0 := hr.c0
  have c1 := hr.c1
  have f1 := hr.fr 1
  have R1 := Lib.hid (hr.set1 (ln + 1))
  have C1 := Lib.hid (Chg.set (D := fun x => x = g) w (l := g) (o := 1) (.int .i64 (ln + 1)) rfl)
  have G1 := Lib.hid (hb.chg C1.out hg)
  have hlt := hr.lt
  unfold nextF at hn
  obtain ⟨⟨a, b, o⟩, he⟩ : ∃ z, Lib.cut t.data.toList [10] = z := ⟨_, rfl⟩
  rw [he] at hn
  cases o with
  | false => simp at hn
  | true =>
    simp only [if_true] at hn
    cases hn
    have hcs := cut_cases 10 t.data.toList
    rw [he] at hcs
    have hsz : a.length ≤ 4000000 := by
      rcases hcs with ⟨h1, _⟩ | ⟨_, h2, _⟩
      · cases h1
      · have h5 : t.data.toList = a ++ 10 :: b := h2
        have h6 := congrArg List.length h5
        rw [ba_len, List.length_append] at h6; omega
    obtain ⟨T1, hT1⟩ : ∃ T1 : ByteArray, T1 = ⟨a.toArray⟩ := ⟨_, rfl⟩
    obtain ⟨T2, hT2⟩ : ∃ T2 : ByteArray, T2 = ⟨b.toArray⟩ := ⟨_, rfl⟩
    rw [← hT1, ← hT2]
    have HS1 : Hid (T1.size ≤ 4000000) := Lib.hid (by rw [hT1, ba_size]; exact hsz)
    obtain ⟨w1, hw1⟩ : ∃ w1, w1 = w.setCell ⟨g, 1, none⟩ (.int .i64 (ln + 1)) := ⟨_, rfl⟩
    rw [← hw1] at R1 C1 G1
    have CU := Lib.hid (cut_any t ht w1 G1.out.gw)
    rw [he] at CU
    simp only at CU
    rw [← hT1, ← hT2] at CU
    have d0 := R1.out.c0
    have HLT := Lib.hid hlt
    clear hT1 hT2 hcs hsz he hr hb ht hl hlt
    go_enter Tryz.func33, Tryz.ntmps33
    go_upto_region 2 with fail
    rw [← hw1]
    clear hw1 c0 c1 f1
    go_wp2_with (first
      | (go_at_call 58; ((refine CU.out.mono ?_); rintro e w2 ⟨rfl, b2⟩; have R2 := Lib.hid (R1.out.later b2); have C2 := Lib.hid (C1.out.later b2); have G2 := Lib.hid (G1.out.later b2); clear b2))
      | (go_at_call 51; ((refine (check_ok g 5 _).mono ?_); rintro e w3 ⟨rfl, rfl⟩; have c0 := R2.out.c0; have f0 := R2.out.fr 0; have R3 := Lib.hid (R2.out.set0 T2); have C3 := Lib.hid (C2.out.then (Chg.set (D := fun x => x = g) _ (l := g) (o := 0) (.string T2) rfl)); have G3 := Lib.hid (G2.out.chg (Chg.set (D := fun x => x = g) _ (l := g) (o := 0) (.string T2) rfl) hg)))
      | (go_at_call 59; ((refine (split_any T1 HS1.out _ G3.out.gw).mono ?_); rintro e w4 ⟨b4, n4, rfl, h41, h42, h43, h44⟩; have Q4 := Lib.hid (And.intro h41 (And.intro h42 (And.intro h43 h44))); clear h41 h42 h43 h44))
      | fail)
    go_ret
    obtain ⟨h41, h42, h43, h44⟩ := Q4.out
    exact ⟨b4, n4, rfl, Nat.le_trans C3.out.size h41, h42, h43, R3.out.later h44, C3.out.later h44⟩
set_option maxHeartbeats 1000000 in
set_option maxRecDepth 100000 in
theorem next_bad {B g : Nat} {t : ByteArray} {ln : Int} {w : World} (hr : RB nV aV w g t ln) (hb : GB B w) (hg : B ≤ g) (ht : t.size ≤ 4000000) (hl : 0 ≤ ln ∧ ln ≤ 100000000) (hn : nextF t = none) :
    Calls Tryz.prog 33 #[.pointer (some ⟨g, 0, none⟩)] w fun e w' => e = .panicked [FP (ln + 1) 5] ∧ Chg (fun x => x = g) w w' := by
  have WL : IntKind.i64.wrap (ln + 1) = ln + 1 := IntWalk.i64_in _ (by omega)
  have c0 := hr.c0
  have c1 := hr.c1
  have f1 := hr.fr 1
  have R1 := Lib.hid (hr.set1 (ln + 1))
  have C1 := Lib.hid (Chg.set (D := fun x => x = g) w (l := g) (o := 1) (.int .i64 (ln + 1)) rfl)
  have G1 := Lib.hid (hb.chg C1.out hg)
  have ho : (Lib.cut t.data.toList [10]).2.2 = false := by
    cases e : (Lib.cut t.data.toList [10]).2.2 with
    | false => rfl
    | true => unfold nextF at hn; rw [if_pos e] at hn; cases hn
  obtain ⟨w1, hw1⟩ : ∃ w1, w1 = w.setCell ⟨g, 1, none⟩ (.int .i64 (ln + 1)) := ⟨_, rfl⟩
  rw [← hw1] at R1 C1 G1
  have CU := Lib.hid (cut_any t ht w1 G1.out.gw)
  rw [ho] at CU
  have d0 := R1.out.c0
  clear hr hb ht hl hn ho
  go_enter Tryz.func33, Tryz.ntmps33
  go_upto_region 2 with fail
  rw [← hw1]
  clear hw1 c0 c1 f1
  go_wp2_with (first
    | (go_at_call 58; ((refine CU.out.mono ?_); rintro e w2 ⟨rfl, b2⟩; have R2 := Lib.hid (R1.out.later b2); have C2 := Lib.hid (C1.out.later b2); clear b2))
    | (go_at_call 51; ((refine (check_bad g 5 _ R2.out).mono ?_); rintro e w3 ⟨rfl, rfl⟩))
    | fail)
  exact ⟨rfl, rfl, C2.out⟩
/-- What a word is, or a fault. -/
def RN (v : Option Value) (ln : Int) (w : World) (e : Ending) (w' : World) : Prop :=
  (match v with
    | some x => e = .returned x
    | none => e = .panicked [FP ln 3]) ∧ Below w.heap.size w w'
set_option maxHeartbeats 1000000 in
set_option maxRecDepth 100000 in
theorem rtext_any {B g : Nat} {t s : ByteArray} {ln : Int} {w : World} (hr : RB nV aV w g t ln) (hb : GB B w) (hs : s.size ≤ 1000000) :
    Calls Tryz.prog 74 #[.pointer (some ⟨g, 0, none⟩), .string s] w (RN ((txtB s).map Value.string) ln w) := by
  have NA := Lib.hid (from_any s hs w)
  have HR := Lib.hid hr
  clear hr hb
  unfold txtV at NA
  cases hn : txtB s with
  | none =>
    rw [hn] at NA
    clear hn
    go_enter Tryz.func74, Tryz.ntmps74
    go_wp2_with (first
      | (go_at_call 92; ((refine NA.out.mono ?_); rintro e w1 ⟨rfl, b1⟩; have R1 := Lib.hid (HR.out.later b1); have B1 := Lib.hid b1; clear b1))
      | (go_at_call 51; ((refine (check_bad g 3 _ R1.out).mono ?_); rintro e w2 ⟨rfl, rfl⟩))
      | fail)
    exact ⟨rfl, rfl, B1.out⟩
  | some v =>
    rw [hn] at NA
    clear hn
    go_enter Tryz.func74, Tryz.ntmps74
    go_wp2_with (first
      | (go_at_call 92; ((refine NA.out.mono ?_); rintro e w1 ⟨rfl, b1⟩; have R1 := Lib.hid (HR.out.later b1); have B1 := Lib.hid b1; clear b1))
      | (go_at_call 51; ((refine (check_ok g 0 _).mono ?_); rintro e w2 ⟨rfl, rfl⟩))
      | fail)
    go_ret
    exact ⟨rfl, B1.out⟩
end Go.Proofs.YtdebedeebmmleaaGreatDoor
namespace Go.Proofs.YtdebedeebmmleaaGreatDoor
open Go.RowKit Go.Maps
theorem hset {w : World} {g i : Nat} {cs : Array Value} {t : TypeId} {fr : Nat × Nat} (h : w.heap[g]? = some (.cells cs t fr)) (v : Value) : (w.setCell ⟨g, i, none⟩ v).heap[g]? = some (.cells (cs.setIfInBounds i v) t fr) := by
  simp [World.setCell, Array.getElem?_modify, h]
theorem cellh {w : World} {g i : Nat} {cs : Array Value} {t : TypeId} {fr : Nat × Nat} (h : w.heap[g]? = some (.cells cs t fr)) {v : Value} (hv : cs[i]? = some v) : w.cell? ⟨g, i, none⟩ = some v := by
  simp [World.cell?, h, hv]
theorem froh {w : World} {g i : Nat} {cs : Array Value} {t : TypeId} (h : w.heap[g]? = some (.cells cs t (0, 0))) : w.frozen? ⟨g, i, none⟩ = false := by
  simp [World.frozen?, h]
theorem heap_lt {w : World} {g : Nat} {o : Obj} (h : w.heap[g]? = some o) : g < w.heap.size := by
  rcases Nat.lt_or_ge g w.heap.size with h' | h'
  · exact h'
  · simp [Array.getElem?_eq_none h'] at h
theorem set6w {w : World} {g : Nat} {t : TypeId} {a b c d e f : Value} (h : w.heap[g]? = some (.cells #[a, b, c, d, e, f] t (0, 0))) (a' b' c' d' e' f' : Value) : ((((((w.setCell ⟨g, 0, none⟩ a').setCell ⟨g, 1, none⟩ b').setCell ⟨g, 2, none⟩ c').setCell ⟨g, 3, none⟩ d').setCell ⟨g, 4, none⟩ e').setCell ⟨g, 5, none⟩ f').heap[g]? = some (.cells #[a', b', c', d', e', f'] t (0, 0)) :=
  hset (hset (hset (hset (hset (hset h a') b') c') d') e') f'
theorem chg_one {g i : Nat} {w w' : World} (h : Chg (fun x => x = g) w w') (v : Value) : Chg (fun x => x = g) w (w'.setCell ⟨g, i, none⟩ v) := h.then (Chg.set _ _ rfl)
theorem chg6 (w : World) (g : Nat) (a' b' c' d' e' f' : Value) : Chg (fun x => x = g) w ((((((w.setCell ⟨g, 0, none⟩ a').setCell ⟨g, 1, none⟩ b').setCell ⟨g, 2, none⟩ c').setCell ⟨g, 3, none⟩ d').setCell ⟨g, 4, none⟩ e').setCell ⟨g, 5, none⟩ f') :=
  chg_one (chg_one (chg_one (chg_one (chg_one (chg_one (Chg.refl _ _) _) _) _) _) _) _
theorem cells6 {w : World} {g : Nat} {t : TypeId} {a b c d e f : Value} (h : w.heap[g]? = some (.cells #[a, b, c, d, e, f] t (0, 0))) : w.cell? ⟨g, 0, none⟩ = some a ∧ w.cell? ⟨g, 1, none⟩ = some b ∧ w.cell? ⟨g, 2, none⟩ = some c ∧ w.cell? ⟨g, 3, none⟩ = some d ∧ w.cell? ⟨g, 4, none⟩ = some e ∧ w.cell? ⟨g, 5, none⟩ = some f :=
  ⟨cellh h rfl, cellh h rfl, cellh h rfl, cellh h rfl, cellh h rfl, cellh h rfl⟩
theorem cells5 {w : World} {g : Nat} {t : TypeId} {a b c d e : Value} (h : w.heap[g]? = some (.cells #[a, b, c, d, e] t (0, 0))) : w.cell? ⟨g, 0, none⟩ = some a ∧ w.cell? ⟨g, 1, none⟩ = some b ∧ w.cell? ⟨g, 2, none⟩ = some c ∧ w.cell? ⟨g, 3, none⟩ = some d ∧ w.cell? ⟨g, 4, none⟩ = some e :=
  ⟨cellh h rfl, cellh h rfl, cellh h rfl, cellh h rfl, cellh h rfl⟩
theorem froz6 {w : World} {g : Nat} {t : TypeId} {a b c d e f : Value} (h : w.heap[g]? = some (.cells #[a, b, c, d, e, f] t (0, 0))) : w.frozen? ⟨g, 0, none⟩ = false ∧ w.frozen? ⟨g, 1, none⟩ = false ∧ w.frozen? ⟨g, 2, none⟩ = false ∧ w.frozen? ⟨g, 3, none⟩ = false ∧ w.frozen? ⟨g, 4, none⟩ = false ∧ w.frozen? ⟨g, 5, none⟩ = false :=
  ⟨froh h, froh h, froh h, froh h, froh h, froh h⟩
def isB (ws : List ByteArray) (x : ByteArray) (m : Nat) : Bool := decide (ws[0]? = some x) && decide (ws.length = m + 1)
theorem isB_true {ws : List ByteArray} {x : ByteArray} {m : Nat} (h : isB ws x m = true) : ws[0]? = some x ∧ ws.length = m + 1 := by
  unfold isB at h
  simpa using h
def wdA (ws : List ByteArray) (i : Nat) : ByteArray := (ws[i]?).getD ⟨#[]⟩
theorem wd_at {ws : List ByteArray} {i : Nat} (h : i < ws.length) : ws[i]? = some (wdA ws i) := by
  unfold wdA; rw [List.getElem?_eq_getElem h]; rfl
theorem wd_cell {w : World} {b : Nat} {ws : List ByteArray} (h : ES.Rd w (some ⟨b, 0, none⟩) ws) {i : Nat} (hi : i < ws.length) : w.cell? ⟨b, i, none⟩ = some (.string (wdA ws i)) := by
  obtain ⟨b', off, e, _, h2⟩ := es_at h (wd_at hi)
  cases e
  rw [Nat.zero_add] at h2; exact h2
theorem rd_lt {w : World} {b : Nat} {ws : List ByteArray} (h : ES.Rd w (some ⟨b, 0, none⟩) ws) (hi : 0 < ws.length) : b < w.heap.size := by
  obtain ⟨b', off, e, h1, _⟩ := es_at h (wd_at hi)
  cases e; exact h1
end Go.Proofs.YtdebedeebmmleaaGreatDoor
namespace Go.Proofs.YtdebedeebmmleaaGreatDoor
open Go.RowKit Go.Maps
/-- An entry. -/
structure EnV where
  key : ByteArray
  val : ByteArray
def EE : RE EnV where
  st := 69
  et := 75
  k := 2
  by_ := 32
  z := .agg #[.string ⟨#[]⟩, .string ⟨#[]⟩]
  cs := fun x => [.string x.key, .string x.val]
  kpos := by omega
  len := fun _ => rfl
  one := fun x u hu => by simp at hu; rcases hu with rfl | rfl <;> rfl
  und := Tryz.underlying69
  info := by kernel_rfl
  zk := rfl
  bmax := by omega
/-- A slice's words. -/
structure Hd where
  A : Option Addr
  n : Nat
  c : Nat
def EH : RE Hd where
  st := 42
  et := 69
  k := 1
  by_ := 24
  z := .slice none 0 0
  cs := fun h => [.slice h.A h.n h.c]
  kpos := by omega
  len := fun _ => rfl
  one := fun x u hu => by simp at hu; rcases hu with rfl; rfl
  und := Tryz.underlying42
  info := by kernel_rfl
  zk := rfl
  bmax := by omega
/-- A node's cells. -/
structure NC where
  k : Int
  p : Hd
  q : Hd
  m : Hd
  b : Hd
def EN : RE NC where
  st := 22
  et := 44
  k := 5
  by_ := 104
  z := .agg #[.int .u8 0, .slice none 0 0, .slice none 0 0, .slice none 0 0, .slice none 0 0]
  cs := fun x => [.int .u8 x.k, .slice x.p.A x.p.n x.p.c, .slice x.q.A x.q.n x.q.c, .slice x.m.A x.m.n x.m.c, .slice x.b.A x.b.n x.b.c]
  kpos := by omega
  len := fun _ => rfl
  one := fun x u hu => by simp at hu; rcases hu with rfl | rfl | rfl | rfl | rfl <;> rfl
  und := Tryz.underlying22
  info := by kernel_rfl
  zk := rfl
  bmax := by omega
/-- A node. -/
structure NdV where
  k : Int
  piv : List ByteArray
  kids : List Int
  ms : List M
  bl : List (List EnV)
/-- Words as entries. -/
def entB : List ByteArray → Option (List EnV)
  | [] => some []
  | [_] => none
  | a :: b :: r => (txtB a).bind fun k => (txtB b).bind fun v => (entB r).map (⟨k, v⟩ :: ·)
theorem ent_app : ∀ (m : Nat) (p q : List ByteArray), p.length = 2 * m → entB (p ++ q) = (entB p).bind fun x => (entB q).map (x ++ ·)
  | 0, p, q, h => by
    obtain rfl : p = [] := List.eq_nil_of_length_eq_zero (by omega)
    show entB q = (some []).bind _
    cases h2 : entB q <;> simp [h2]
  | m + 1, p, q, h => by
    match p, h with
    | [], h => simp at h
    | [a], h => simp at h; omega
    | a :: b :: r, h =>
      have ih := ent_app m r q (by simp at h; omega)
      show ((txtB a).bind fun k => (txtB b).bind fun v => (entB (r ++ q)).map (⟨k, v⟩ :: ·)) = ((txtB a).bind fun k => (txtB b).bind fun v => (entB r).map (⟨k, v⟩ :: ·)).bind _
      rw [ih]
      cases txtB a with
      | none => rfl
      | some k =>
        cases txtB b with
        | none => rfl
        | some v =>
          cases entB r with
          | none => rfl
          | some x => cases entB q <;> simp
theorem ent_two (a b : ByteArray) : entB [a, b] = (txtB a).bind fun k => (txtB b).map fun v => [⟨k, v⟩] := by
  show ((txtB a).bind fun k => (txtB b).bind fun v => (some ([] : List EnV)).map ((⟨k, v⟩ : EnV) :: ·)) = _
  cases txtB a with
  | none => rfl
  | some k => cases txtB b <;> rfl
theorem ent_odd : ∀ (l : List ByteArray), l.length % 2 = 1 → entB l = none
  | [], h => by simp at h
  | [a], h => rfl
  | a :: b :: r, h => by
    have ih := ent_odd r (by simp at h; omega)
    show ((txtB a).bind fun k => (txtB b).bind fun v => (entB r).map _) = none
    rw [ih]
    cases txtB a with
    | none => rfl
    | some k => cases txtB b <;> rfl
/-- The pair at a place. -/
theorem ent_next {ws : List ByteArray} {k : Nat} {x y : ByteArray} {l : List EnV} (hp : entB (ws.take (2 * k)) = some l) (hx : ws[2 * k]? = some x) (hy : ws[2 * k + 1]? = some y) : entB (ws.take (2 * (k + 1))) = (txtB x).bind fun a => (txtB y).map fun b => l ++ [⟨a, b⟩] := by
  have h1 : ws.take (2 * (k + 1)) = ws.take (2 * k) ++ [x, y] := by
    rw [show 2 * (k + 1) = 2 * k + 1 + 1 by omega, List.take_add_one, hy, List.take_add_one, hx]
    simp
  have hl := (List.getElem?_eq_some_iff.1 hx).1
  rw [h1, ent_app k _ _ (by rw [List.length_take]; omega), hp, ent_two]
  cases txtB x with
  | none => rfl
  | some a => cases txtB y <;> rfl
theorem ent_stop {ws : List ByteArray} {k : Nat} (hl : 2 * k ≤ ws.length) (h : entB (ws.take (2 * k)) = none) : entB ws = none := by
  have e : ws = ws.take (2 * k) ++ ws.drop (2 * k) := (List.take_append_drop _ _).symm
  rw [e, ent_app k _ _ (by rw [List.length_take]; omega), h]
  rfl
end Go.Proofs.YtdebedeebmmleaaGreatDoor
