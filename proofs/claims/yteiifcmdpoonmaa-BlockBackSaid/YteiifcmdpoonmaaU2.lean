/- Unpack of one text: its numbers. -/
import Derived.Test.YteiifcmdpoonmaaU1
namespace Go.Proofs.Yteiifcmdpoonmaa
set_option linter.unusedSimpArgs false
open Go.RowKit Go.Maps Go.Shelf
set_option linter.unusedVariables false
theorem info30 : (Try.prog.info? 30).map (·.size) = some 2 := by kernel_rfl
theorem run_ze (w : World) : Sem.run Try.prog (zeroValue 30) w = Result.ok (Value.agg #[.string ⟨#[]⟩, .string ⟨#[]⟩]) w := by
  kernel_rfl
theorem res30 {f : Func} (hf : f.results = #[.cell 4 30]) (tmps : Array Value) (w : World) (g : Nat) (cs : Array Value) (hp : tmps.getD 4 undef = .pointer (some ⟨g, 0, none⟩)) (hg : w.heap[g]? = some (.cells cs 30 (0, 0))) (hi : cs.size = 2) :
    (results f tmps).run Try.prog w = .ok (.agg cs) w := by
  have hp' : tmps[4]?.getD undef = .pointer (some ⟨g, 0, none⟩) := by simpa using hp
  simp [results, hf, hp', asAddr, run_loadVar_row w g 30 30 cs (0, 0) _ hg Try.underlying30 rfl (by rw [hi]; exact info30)]
theorem t0 : tnF ⟨#[2, 0, 2, 97, 98, 1, 49, 1, 1, 99, 1, 50]⟩ = (2, ⟨#[0, 2, 97, 98, 1, 49, 1, 1, 99, 1, 50]⟩, 0) := by decide +kernel
theorem t1 : tnF ⟨#[0, 2, 97, 98, 1, 49, 1, 1, 99, 1, 50]⟩ = (0, ⟨#[2, 97, 98, 1, 49, 1, 1, 99, 1, 50]⟩, 0) := by decide +kernel
theorem t2 : ttF ⟨#[2, 97, 98, 1, 49, 1, 1, 99, 1, 50]⟩ 256 = (⟨#[97, 98]⟩, ⟨#[1, 49, 1, 1, 99, 1, 50]⟩, 0) := by decide +kernel
theorem t3 : ttF ⟨#[1, 49, 1, 1, 99, 1, 50]⟩ 4096 = (⟨#[49]⟩, ⟨#[1, 1, 99, 1, 50]⟩, 0) := by decide +kernel
theorem t4 : tnF ⟨#[1, 1, 99, 1, 50]⟩ = (1, ⟨#[1, 99, 1, 50]⟩, 0) := by decide +kernel
theorem t5 : ttF ⟨#[1, 99, 1, 50]⟩ 256 = (⟨#[99]⟩, ⟨#[1, 50]⟩, 0) := by decide +kernel
theorem t6 : ttF ⟨#[1, 50]⟩ 4096 = (⟨#[50]⟩, ⟨#[]⟩, 0) := by decide +kernel

set_option maxRecDepth 4000 in
theorem shared_none (s : ByteArray) (w : World) : Calls Try.prog 28 #[.string ⟨#[]⟩, .string s] w fun e w' => e = .returned (.int .i64 0) ∧ Below w.heap.size w w' := by
  have hz : ((⟨#[]⟩ : ByteArray).size : Int) = 0 := rfl
  have hb0 := (Below.refl w.heap.size w).drew
  go_enter Try.func28, Try.ntmps28
  go_wp2
  go_loopw [5] (fun iv wr => iv = .int .i64 0 ∧ w = wr) (fun _ _ => 0)
  case atStart => exact ⟨rfl, rfl⟩
  case round =>
    obtain ⟨rfl, rfl⟩ := hrel
    go_wp2
    go_region
    all_goals
      go_wp2
      go_ret
      exact ⟨rfl, hb0⟩
set_option maxRecDepth 4000 in
theorem shared_abac (w : World) : Calls Try.prog 28 #[.string ⟨#[97, 98]⟩, .string ⟨#[97, 99]⟩] w fun e w' => e = .returned (.int .i64 1) ∧ Below w.heap.size w w' := by
  go_enter Try.func28, Try.ntmps28
  go_wp2
  go_loopw [5] (fun iv wr => (iv = .int .i64 0 ∨ iv = .int .i64 1) ∧ Below w.heap.size w wr) (fun i _ => 1 - (intOf i).toNat)
  case atStart => exact ⟨.inl rfl, Below.refl _ _⟩
  case round =>
    obtain ⟨rfl | rfl, hb⟩ := hrel
    · go_wp2
      go_region
      all_goals
        go_wp2
        first
          | exact ⟨⟨.inr rfl, hb.drew⟩, by decide⟩
          | (rename_i hh; exact absurd hh (by decide))
    · go_wp2
      go_region
      all_goals
        go_wp2
        first
          | (go_ret; exact ⟨rfl, hb.drew⟩)
          | (rename_i hh; exact absurd hh (by decide))

theorem Chg.of_row (w : World) (x : Nat) (cs : Array Value) : Chg (fun g => g = x) w (w.setRow x cs) :=
  ⟨rfl, rfl, rfl, by simp, fun i _ hi => setRow_other _ _ _ _ hi⟩
theorem Rdr.row {w : World} {r x : Nat} {s : ByteArray} (h : Rdr w r s) (hx : r ≠ x) (cs : Array Value) : Rdr (w.setRow x cs) r s := keep_chg (Chg.of_row w x cs) h hx

set_option maxHeartbeats 2000000 in
set_option maxRecDepth 4000 in
theorem entry_1 (r : Nat) (w : World) (h : Rdr w r ⟨#[0, 2, 97, 98, 1, 49, 1, 1, 99, 1, 50]⟩) : Calls Try.prog 20 #[.pointer (some ⟨r, 0, none⟩), .slice none 0 0] w fun e w' => e = .returned (.agg #[.string ⟨#[97, 98]⟩, .string ⟨#[49]⟩]) ∧ Go1 r ⟨#[1, 1, 99, 1, 50]⟩ w w' := by
  have hal := run_ze
  have hx0 : (⟨#[]⟩ : ByteArray).extract 0 0 = ⟨#[]⟩ := by decide
  have hx1 : (⟨#[]⟩ : ByteArray) ++ ⟨#[97, 98]⟩ = ⟨#[97, 98]⟩ := by decide
  have hlt : r < w.heap.size := by
    rcases Nat.lt_or_ge r w.heap.size with h' | h'
    · exact h'
    · simp [Rdr, Array.getElem?_eq_none h'] at h
  have HLT := Lib.hid hlt
  have AL := Lib.hid (alb w (.cells #[.string ⟨#[]⟩, .string ⟨#[]⟩] 30))
  have Z0 := Lib.hid (heap_alloc_new w (.cells #[.string ⟨#[]⟩, .string ⟨#[]⟩] 30))
  have N0 := Lib.hid (num_ok _ _ _ r _ (h.later AL.out) t1)
  clear h hlt
  go_enter Try.func20, Try.ntmps20
  go_wp2_with (first
    | (go_at_call 19; ((with_reducible refine N0.out.mono ?_); rintro e w1 ⟨rfl, h1⟩; have H1 := Lib.hid h1; have Z1 := Lib.hid (keep_chg h1.chg Z0.out (fun e => by have := HLT.out; omega)); have T0 := Lib.hid (text_ok _ _ _ 256 r _ (show Rdr w1.drew r _ from h1.rdr) t2); clear h1))
    | (go_at_call 21; ((with_reducible refine (check_ok _ _ _).mono ?_); rintro e w2 ⟨rfl, rfl⟩))
    | fail)
  go_region_with (go_at_call 36; refine T0.out.mono ?_; rintro e w3 ⟨rfl, h3⟩; have H3 := Lib.hid h3; have Z3 := Lib.hid (keep_chg h3.chg (show w1.drew.heap[w.heap.size]? = _ from Z1.out) (fun e => by have := HLT.out; omega)); have T1 := Lib.hid (text_ok _ _ _ 4096 r _ h3.rdr t3))
  all_goals
    go_wp2_with (first
      | (go_at_call 36; ((with_reducible refine T1.out.mono ?_); rintro e w4 ⟨rfl, h4⟩; have H4 := Lib.hid h4; have Z4 := Lib.hid (keep_chg h4.chg Z3.out (fun e => by have := HLT.out; omega)); clear h4))
      | (refine wpList_store_row rfl 30 (.tmp 4) (.tmp 50) rfl w.heap.size #[.string ⟨#[97, 98]⟩, .string ⟨#[49]⟩] rfl rfl 30 _ Z4.out info30 rfl (by simp [Value.oneCell']) ?_)
      | fail)
    have hg : Go1 r ⟨#[1, 1, 99, 1, 50]⟩ w w4 := Go1.ahead AL.out (H1.out.trans ((Go1.ahead (drew_bel w1) H3.out).trans H4.out))
    exact bodyPost_ret (v := .agg #[.string ⟨#[97, 98]⟩, .string ⟨#[49]⟩]) (res30 rfl _ _ w.heap.size _ rfl (setRow_heap _ _ _ _ _ _ Z4.out) rfl) rfl ⟨rfl, hg.rdr.row (by have := HLT.out; omega) _, hg.chg.trans (Chg.of_row _ w.heap.size _) (fun x e => .inr (by omega))⟩

set_option maxHeartbeats 2000000 in
set_option maxRecDepth 4000 in
theorem entry_2 (r g c : Nat) (w : World) (h : Rdr w r ⟨#[1, 1, 99, 1, 50]⟩) (hc : w.cell? ⟨g, 0, none⟩ = some (.string ⟨#[97, 98]⟩)) : Calls Try.prog 20 #[.pointer (some ⟨r, 0, none⟩), .slice (some ⟨g, 0, none⟩) 1 c] w fun e w' => e = .returned (.agg #[.string ⟨#[97, 99]⟩, .string ⟨#[50]⟩]) ∧ Go1 r ⟨#[]⟩ w w' := by
  have hal := run_ze
  have hx0 : (⟨#[97, 98]⟩ : ByteArray).extract 0 1 = ⟨#[97]⟩ := by decide
  have hx1 : (⟨#[97]⟩ : ByteArray) ++ ⟨#[99]⟩ = ⟨#[97, 99]⟩ := by decide
  have hgt : Op.bytesLess (⟨#[97, 99]⟩ : ByteArray).toList (⟨#[97, 98]⟩ : ByteArray).toList = false := by rw [ByteArray.toList_eq, ByteArray.toList_eq]; decide
  have heq : ((⟨#[97, 99]⟩ : ByteArray).toList == (⟨#[97, 98]⟩ : ByteArray).toList) = false := by rw [ByteArray.toList_eq, ByteArray.toList_eq]; decide
  have hlt : r < w.heap.size := by
    rcases Nat.lt_or_ge r w.heap.size with h' | h'
    · exact h'
    · simp [Rdr, Array.getElem?_eq_none h'] at h
  have HLT := Lib.hid hlt
  have AL := Lib.hid (alb w (.cells #[.string ⟨#[]⟩, .string ⟨#[]⟩] 30))
  have Z0 := Lib.hid (heap_alloc_new w (.cells #[.string ⟨#[]⟩, .string ⟨#[]⟩] 30))
  have N0 := Lib.hid (num_ok _ _ _ r _ (h.later AL.out) t4)
  have k0 := bel_later AL.out hc
  clear h hlt hc
  go_enter Try.func20, Try.ntmps20
  go_wp2_with (first
    | (go_at_call 19; ((with_reducible refine N0.out.mono ?_); rintro e w1 ⟨rfl, h1⟩; have H1 := Lib.hid h1; have Z1 := Lib.hid (keep_chg h1.chg Z0.out (fun e => by have := HLT.out; omega)); have T0 := Lib.hid (text_ok _ _ _ 256 r _ (show Rdr w1.drew r _ from h1.rdr) t5); clear h1))
    | (go_at_call 21; ((with_reducible refine (check_ok _ _ _).mono ?_); rintro e w2 ⟨rfl, rfl⟩))
    | fail)
  go_region_with (go_at_call 36; refine T0.out.mono ?_; rintro e w3 ⟨rfl, h3⟩; have H3 := Lib.hid h3; have Z3 := Lib.hid (keep_chg h3.chg (show w1.drew.heap[w.heap.size]? = _ from Z1.out) (fun e => by have := HLT.out; omega)))
  all_goals
    go_wp2_with (first
      | (go_at_call 28; ((with_reducible refine (shared_abac _).mono ?_); rintro e w5 ⟨rfl, b5⟩; have B5 := Lib.hid b5; have Z5 := Lib.hid (keep_bel b5 Z3.out); have T1 := Lib.hid (text_ok _ _ _ 4096 r _ (H3.out.rdr.later b5) t6); clear b5))
      | (go_at_call 21; ((with_reducible refine (check_ok _ _ _).mono ?_); rintro e w2 ⟨rfl, rfl⟩))
      | (go_at_call 36; ((with_reducible refine T1.out.mono ?_); rintro e w4 ⟨rfl, h4⟩; have H4 := Lib.hid h4; have Z4 := Lib.hid (keep_chg h4.chg Z5.out (fun e => by have := HLT.out; omega)); clear h4))
      | (refine wpList_store_row rfl 30 (.tmp 4) (.tmp 50) rfl w.heap.size #[.string ⟨#[97, 99]⟩, .string ⟨#[50]⟩] rfl rfl 30 _ Z4.out info30 rfl (by simp [Value.oneCell']) ?_)
      | fail)
    have hg : Go1 r ⟨#[]⟩ w w4 := Go1.ahead AL.out (H1.out.trans (((Go1.ahead (drew_bel w1) H3.out).later B5.out).trans H4.out))
    exact bodyPost_ret (v := .agg #[.string ⟨#[97, 99]⟩, .string ⟨#[50]⟩]) (res30 rfl _ _ w.heap.size _ rfl (setRow_heap _ _ _ _ _ _ Z4.out) rfl) rfl ⟨rfl, hg.rdr.row (by have := HLT.out; omega) _, hg.chg.trans (Chg.of_row _ w.heap.size _) (fun x e => .inr (by omega))⟩
end Go.Proofs.Yteiifcmdpoonmaa
