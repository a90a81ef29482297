/- A nil map is empty, and stays so: the law's walk. -/
import Derived.Test.YtfgohbhacldlmaaG3
namespace Go.Proofs.Ytfgohbhacldlmaa
set_option linter.unusedSimpArgs false
open Go.RowKit Go.Shelf
set_option linter.unusedVariables false
/-- A deed's cells. -/
abbrev dObj (d : Int) (k t : ByteArray) (n : Int) : Obj := .cells #[.int .i64 d, .string k, .string t, .int .i64 n] 29
theorem d_cells (w : World) (d : Int) (k t : ByteArray) (n : Int) : (w.alloc (dObj d k t n)).cell? ⟨w.heap.size, 0, none⟩ = some (.int .i64 d) ∧ (w.alloc (dObj d k t n)).cell? ⟨w.heap.size, 1, none⟩ = some (.string k) ∧ (w.alloc (dObj d k t n)).cell? ⟨w.heap.size, 2, none⟩ = some (.string t) ∧ (w.alloc (dObj d k t n)).cell? ⟨w.heap.size, 3, none⟩ = some (.int .i64 n) := by
  refine ⟨?_, ?_, ?_, ?_⟩ <;> simp [go_sem]
set_option maxHeartbeats 4000000 in
set_option maxRecDepth 100000 in
theorem nil_law (d n : Int) (k t : ByteArray) (w : World) : Calls Try.prog 8 #[.agg #[.int .i64 d, .string k, .string t, .int .i64 n]] w fun e w' => e = .returned (.bool true) ∧ Below w.heap.size w w' := by
  obtain ⟨c0, c1, c2, c3⟩ := d_cells w d k t n
  have B0 := Lib.hid (bel_alloc (Below.refl w.heap.size w) (dObj d k t n))
  have GT := Lib.hid (fun W => nil_get k W)
  have AT := Lib.hid (fun W => nil_at n W)
  have PT := Lib.hid (fun W => nil_put k n W)
  have DR := Lib.hid (fun W => nil_drop k W)
  have CT := Lib.hid (fun W => nil_cut k t W)
  have LN := Lib.hid nil_len
  have PL := Lib.hid (fun W => nil_place k W)
  have FK := Lib.hid nil_fork
  have AL := Lib.hid (fun W => all_in (.pointer none) [] (by simp) W (fun V _ => all_nil V))
  have FR := Lib.hid (fun W => from_in (.pointer none) k [] (by simp) W (fun V _ => from_nil k V))
  go_enter Try.func8, Try.ntmps8
  go_wp2_with (first
    | (go_at_call 26; (with_reducible refine (GT.out _).mono ?_); rintro e w1 ⟨rfl, rfl⟩)
    | (go_at_call 16; (with_reducible refine (AT.out _).mono ?_); rintro e w1 ⟨rfl, rfl⟩)
    | (go_at_call 12; (with_reducible refine (live_any _).mono ?_); rintro e w1 ⟨rfl, b1⟩; have B1 := Lib.hid (bel_trans B0.out b1); replace c0 := bel_later b1 c0; replace c1 := bel_later b1 c1; replace c2 := bel_later b1 c2; replace c3 := bel_later b1 c3; clear b1)
    | (go_at_call 27; (with_reducible refine (PT.out _).mono ?_); rintro e w2 ⟨rfl, rfl⟩)
    | (go_at_call 28; (with_reducible refine (DR.out _).mono ?_); rintro e w2 ⟨rfl, rfl⟩)
    | (go_at_call 29; (with_reducible refine (CT.out _).mono ?_); rintro e w2 ⟨rfl, rfl⟩)
    | (go_at_call 11; (with_reducible refine (LN.out _).mono ?_); rintro e w2 ⟨rfl, rfl⟩)
    | (go_at_call 17; (with_reducible refine (PL.out _).mono ?_); rintro e w2 ⟨rfl, rfl⟩)
    | (go_at_call 14; (with_reducible refine (AL.out _).mono ?_); rintro e w3 ⟨A3, q3, rfl, _, b3, _⟩; have B3 := Lib.hid (bel_trans B1.out b3); replace c1 := bel_later b3 c1; clear b3)
    | (go_at_call 19; (with_reducible refine (FR.out _).mono ?_); rintro e w4 ⟨A4, q4, rfl, _, b4, _⟩; have B4 := Lib.hid (bel_trans B3.out b4); clear b4)
    | (go_at_call 18; (with_reducible refine (FK.out _).mono ?_); rintro e w5 ⟨rfl, rfl⟩)
    | fail)
  exact bodyPost_ret (v := .bool true) (by simp [results, Try.results8, go_sem]) rfl ⟨rfl, B4.out⟩
end Go.Proofs.Ytfgohbhacldlmaa
