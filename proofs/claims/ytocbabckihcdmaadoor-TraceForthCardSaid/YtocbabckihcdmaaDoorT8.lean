/- Parse of lines. -/
import Derived.Test.YtocbabckihcdmaaDoorT7
import Derived.Lib.SplitLaws
namespace Go.Proofs.YtocbabckihcdmaaDoor
set_option linter.unusedSimpArgs false
open Go.RowKit Go.Maps
set_option linter.unusedVariables false
theorem moveof_any (A : Option Addr) (n cap : Nat) (ws : List ByteArray) (w : World) (hl : ws.length = n) (hR : ES.Rd w A ws) (hs : ∀ x ∈ ws, x.size ≤ 1000000) (h : GW w) :
    Calls Tryd.prog 30 #[.slice A n cap] w (MoveP ws w) := by
  by_cases hn : n = 5
  · subst hn; exact moveof_yes A cap ws w hl hR hs h
  · exact moveof_not A n cap ws w hl hn
def splitW (t : ByteArray) : List ByteArray := Lib.splitB SP 0 (Lib.countB t SP) t
theorem split_len (t : ByteArray) : (splitW t).length = Lib.countB t SP + 1 := Lib.splitB_all SP (by decide) 0 _ t rfl
theorem split_sz (sep : ByteArray) : ∀ (k : Nat) (t x : ByteArray), x ∈ Lib.splitB sep 0 k t → x.size ≤ t.size
  | 0, t, x, h => by
    unfold Lib.splitB at h
    simp at h; rw [h]; exact Nat.le_refl _
  | k + 1, t, x, h => by
    unfold Lib.splitB at h
    split at h
    · simp at h; rw [h]; exact Nat.le_refl _
    · rcases List.mem_cons.1 h with h | h
      · rw [h, ByteArray.size_extract]; omega
      · have := split_sz sep k _ x h
        rw [ByteArray.size_extract] at this; omega
theorem split_any (t : ByteArray) (ht : t.size ≤ 1000000) (w : World) (h : GW w) :
    Calls Tryd.prog 31 #[.string t, .string SP] w fun e w' => ∃ A n, e = .returned (.slice A n n) ∧ (splitW t).length = n ∧ ES.Rd w' A (splitW t) ∧ Below w.heap.size w w' := by
  obtain ⟨m, hm⟩ := h.mx
  refine (sh_strings_Split t SP m w (by omega) hm (by decide)).mono fun e w' ⟨h1, h2⟩ => ⟨_, _, h1, split_len t, ?_, ?_⟩
  · rw [h2]; exact RE.Rd.lit (E := ES) w 9 (splitW t) _ (by rw [es_all]; rfl)
  · rw [h2]; exact alb _ _
theorem cut_any (t : ByteArray) (ht : t.size ≤ 1000000) (w : World) (h : GW w) :
    Calls Tryd.prog 29 #[.string t, .string NL] w fun e w' => e = .returned (.tuple #[.string ⟨(Lib.cut t.data.toList NL.data.toList).1.toArray⟩, .string ⟨(Lib.cut t.data.toList NL.data.toList).2.1.toArray⟩, .bool (Lib.cut t.data.toList NL.data.toList).2.2]) ∧ Below w.heap.size w w' := by
  obtain ⟨m, hm⟩ := h.mx
  refine (sh_strings_Cut t NL m w (by omega) hm).mono fun e w' ⟨h1, n, h2⟩ => ⟨h1, ?_⟩
  rw [h2]; exact bel_drewN (Below.refl _ _) n
theorem ba_size (l : List UInt8) : (⟨l.toArray⟩ : ByteArray).size = l.length := by simp [ByteArray.size]
theorem ne_size {t : ByteArray} (h : t.toList.isEmpty = false) : 0 < t.size := by
  rcases Nat.eq_zero_or_pos t.size with e | e
  · have q : t = ⟨#[]⟩ := by
      cases t with | mk d => 
      have : d = #[] := Array.eq_empty_of_size_eq_zero e
      rw [this]
    rw [q] at h
    have e2 : (⟨#[]⟩ : ByteArray).toList.isEmpty = true := by decide +kernel
    rw [e2] at h; cases h
  · exact e
theorem cut_sz (t : ByteArray) (h : 0 < t.size) : (Lib.cut t.data.toList NL.data.toList).1.length ≤ t.size ∧ ((Lib.cut t.data.toList NL.data.toList).2.2 = true → (Lib.cut t.data.toList NL.data.toList).2.1.length < t.size) := by
  have e : t.data.toList.length = t.size := by rw [Array.length_toList]; rfl
  have e1 : NL.data.toList.length = 1 := rfl
  unfold Lib.cut
  split
  · simp only [List.length_take, List.length_drop]
    exact ⟨by omega, fun _ => by omega⟩
  · exact ⟨by simp only; omega, fun h => by cases h⟩
/-- What lines are, from this one on. -/
def parseG : Nat → ByteArray → Int → List MV → List MV × Int × Int
  | 0, _, _, _ => ([], 0, 0)
  | f + 1, t, ln, acc =>
    if t.toList.isEmpty then (acc, 0, 0)
    else if (Lib.cut t.data.toList NL.data.toList).2.2 = false then ([], ln, 5)
    else match moveF (splitW ⟨(Lib.cut t.data.toList NL.data.toList).1.toArray⟩) with
      | none => ([], ln, 3)
      | some m => parseG f ⟨(Lib.cut t.data.toList NL.data.toList).2.1.toArray⟩ (ln + 1) (acc ++ [m])
def parseF (t : ByteArray) : List MV × Int × Int := parseG (t.size + 1) t 1 []
def tlen : Value → Nat
  | .string t => t.size
  | _ => 0
def ParseP (r : List MV × Int × Int) (w : World) (e : Ending) (w' : World) : Prop := ∃ A c, e = .returned (.tuple #[.slice A r.1.length c, .int .i64 r.2.1, .int .i64 r.2.2]) ∧ EM.Rd w' A r.1 ∧ Below w.heap.size w w'
set_option maxRecDepth 100000 in
set_option maxHeartbeats 8000000 in
theorem parse_any (t : ByteArray) (ht : t.size ≤ 100000) (w : World) (h : GW w) :
    Calls Tryd.prog 10 #[.string t] w (ParseP (parseF t) w) := by
  have HG := Lib.hid (fun W (b : Below w.heap.size w W) => h.later b)
  obtain ⟨r, hr⟩ : ∃ r, parseF t = r := ⟨_, rfl⟩
  rw [hr]
  have HR := Lib.hid hr
  clear h hr
  go_enter Tryd.func10, Tryd.ntmps10
  go_upto_region 3 with fail
  go_loopw [0, 5, 6] (fun tv lv nv wr => ∃ (f : Nat) (u : ByteArray) (ln : Int) (acc : List MV) (A : Option Addr) (m c : Nat), tv = .string u ∧ lv = .slice A m c ∧ nv = .int .i64 ln ∧ Hid (parseG f u ln acc = r) ∧ Hid (u.size < f ∧ u.size + acc.length ≤ t.size ∧ 1 ≤ ln ∧ ln + u.size ≤ t.size + 1) ∧ Hid (acc.length = m) ∧ Hid (EM.Row wr w.heap.size A acc c) ∧ Below w.heap.size w wr) (fun tv _ _ _ => tlen tv)
  case atStart => exact ⟨t.size + 1, t, 1, [], none, 0, 0, rfl, rfl, rfl, HR, Lib.hid ⟨by omega, by simp, by omega, by omega⟩, Lib.hid rfl, Lib.hid (.inl ⟨rfl, rfl⟩), Below.refl _ _⟩
  case round =>
    obtain ⟨f, u, ln, acc, A, m, c, rfl, rfl, rfl, HP, HU, HA, HW, hb⟩ := hrel
    have HB := Lib.hid hb
    clear hb
    obtain ⟨f, rfl⟩ : ∃ f', f = f' + 1 := ⟨f - 1, by have := HU.out; omega⟩
    cases hu : u.toList.isEmpty with
    | true =>
      have hx := HP.out
      unfold parseG at hx
      rw [if_pos hu] at hx
      have HX : Hid (r = (acc, 0, 0)) := Lib.hid hx.symm
      clear hx
      go_wp2
      refine bodyPost_ret (v := .tuple #[.slice A m c, .int .i64 0, .int .i64 0]) (by simp [results, Tryd.results10, go_sem]) rfl ⟨A, c, by rw [HX.out, HA.out], by rw [HX.out]; exact HW.out.rd, HB.out⟩
    | false =>
      have hx := HP.out
      have hz := ne_size hu
      have hcs := cut_sz u hz
      unfold parseG at hx
      rw [if_neg (by rw [hu]; simp)] at hx
      have CU := Lib.hid (cut_any u (by have := HU.out; omega) wr (HG.out _ HB.out))
      obtain ⟨⟨p, q, ok⟩, hcut⟩ : ∃ z, Lib.cut u.data.toList NL.data.toList = z := ⟨_, rfl⟩
      rw [hcut] at CU hx hcs
      simp only at hx hcs
      obtain ⟨T1, hT1⟩ : ∃ T1 : ByteArray, T1 = ⟨p.toArray⟩ := ⟨_, rfl⟩
      obtain ⟨T2, hT2⟩ : ∃ T2 : ByteArray, T2 = ⟨q.toArray⟩ := ⟨_, rfl⟩
      rw [← hT1, ← hT2] at hx
      have CV : Hid (Calls Tryd.prog 29 #[.string u, .string NL] wr fun e w' => e = .returned (.tuple #[.string T1, .string T2, .bool ok]) ∧ Below wr.heap.size wr w') := Lib.hid (by rw [hT1, hT2]; exact CU.out)
      have HT1 : Hid (T1.size ≤ 1000000) := Lib.hid (by rw [hT1, ba_size]; have := HU.out; omega)
      have HT2 : Hid (ok = true → T2.size < u.size) := Lib.hid (fun e => by rw [hT2, ba_size]; exact hcs.2 e)
      have HX := Lib.hid hx
      clear hx hcs hcut hT1 hT2 CU hz HP
      cases ok with
      | false =>
        have HE : Hid (r = ([], ln, 5)) := Lib.hid (by rw [← HX.out]; rfl)
        go_wp2_with (first
          | (go_at_call 29; ((refine CV.out.mono ?_); rintro e w1 ⟨rfl, bb⟩; have B1 := Lib.hid (bel_trans HB.out bb); clear bb))
          | fail)
        refine bodyPost_ret (v := .tuple #[.slice none 0 0, .int .i64 ln, .int .i64 5]) (by simp [results, Tryd.results10, go_sem]) rfl ⟨none, 0, by rw [HE.out]; rfl, by rw [HE.out]; exact .inl rfl, B1.out⟩
      | true =>
        replace HX := Lib.hid (show (match moveF (splitW T1) with | none => ([], ln, 3) | some m => parseG f T2 (ln + 1) (acc ++ [m])) = r from HX.out)
        have W1 : IntKind.i64.wrap (ln + 1) = ln + 1 := IntWalk.i64_in _ (by have := HU.out; omega)
        have HSZ : Hid (∀ x ∈ splitW T1, x.size ≤ 1000000) := Lib.hid (fun x hx => Nat.le_trans (split_sz SP _ T1 x hx) HT1.out)
        go_upto_region 9 with (first
          | (go_at_call 29; ((refine CV.out.mono ?_); rintro e w1 ⟨rfl, bb⟩; have B1 := Lib.hid (bel_trans HB.out bb); have HW1 := Lib.hid (HW.out.later bb); clear bb))
          | (go_at_call 31; ((refine (split_any T1 HT1.out _ (HG.out _ B1.out)).mono ?_); rintro e w2 ⟨AS, ns, rfl, hns, hrs, bb⟩; have HNS := Lib.hid hns; have HRS := Lib.hid hrs; have B2 := Lib.hid (bel_trans B1.out bb); have HW2 := Lib.hid (HW1.out.later bb); clear bb hns hrs))
          | (go_at_call 30; ((refine (moveof_any AS ns ns (splitW T1) _ HNS.out HRS.out HSZ.out (HG.out _ B2.out)).mono ?_); rintro e w3 ⟨mv, b, rfl, hbo, hmo, bb⟩; have HBO := Lib.hid hbo; have HMO := Lib.hid hmo; have B3 := Lib.hid (bel_trans B2.out bb); have HW3 := Lib.hid (HW2.out.later bb); clear bb hbo hmo))
          | fail)
        have BM := Lib.hid (bel_alloc B3.out (MO mv))
        have ZM := Lib.hid (heap_alloc_new w3 (MO mv))
        have HWM := Lib.hid (HW3.out.later (alb w3 (MO mv)))
        obtain ⟨W4, hW4⟩ : ∃ W4, W4 = w3.alloc (MO mv) := ⟨_, rfl⟩
        rw [← hW4] at BM ZM HWM ⊢
        clear hW4
        cases hmf : moveF (splitW T1) with
        | none =>
          have hb0 : b = false := by rw [HBO.out, hmf]; rfl
          subst hb0
          rw [hmf] at HX
          have HE : Hid (r = ([], ln, 3)) := Lib.hid HX.out.symm
          clear hmf
          go_wp2
          refine bodyPost_ret (v := .tuple #[.slice none 0 0, .int .i64 ln, .int .i64 3]) (by simp [results, Tryd.results10, go_sem]) rfl ⟨none, 0, by rw [HE.out]; rfl, by rw [HE.out]; exact .inl rfl, BM.out⟩
        | some m0 =>
          have hb0 : b = true := by rw [HBO.out, hmf]; rfl
          have hm0 : mv = m0 := HMO.out m0 hmf
          subst hb0 hm0
          rw [hmf] at HX
          replace HX : Hid (parseG f T2 (ln + 1) (acc ++ [mv]) = r) := Lib.hid HX.out
          clear hmf
          have RW := Lib.hid (HWM.out.later (alb W4 (MO mv)))
          have RL := Lib.hid (RE.Rd.lit (E := EM) W4 35 [mv] #[.int .i64 mv.s, .int .u8 mv.w, .int .i64 mv.n, .int .i64 mv.v, .int .i64 mv.e] rfl)
          have BS := Lib.hid (bel_alloc BM.out (MO mv))
          obtain ⟨c0, c1, c2, c3, c4⟩ := cells5 ZM.out
          go_wp2_with (first
            | (at_builtin; refine RE.wpList_put EM _ rfl (.tmp 33) (.tmp 35) rfl (base := w.heap.size) A m c _ _ 1 1 [mv] rfl rfl RW.out HA.out (by have := HU.out; have := HA.out; omega) BS.out.size rfl (by omega) RL.out ?_; intro A2 c2 w5 r1 r2 r3; have R1 := Lib.hid r1; have R2 := Lib.hid r2; clear r1 r2 r3)
            | fail)
          exact ⟨⟨f, T2, ln + 1, acc ++ [mv], A2, m + 1, c2, rfl, rfl, rfl, HX, Lib.hid (by have h1 := HU.out; have h2 := HT2.out trivial; rw [List.length_append]; simp only [List.length_cons, List.length_nil]; omega), Lib.hid (by rw [List.length_append]; exact congrArg (· + 1) HA.out), R1, BS.out.trans (RE.Row.below R2.out RW.out (Nat.le_refl _) BS.out.size)⟩, by simp only [tlen]; exact HT2.out trivial⟩
end Go.Proofs.YtocbabckihcdmaaDoor
