/- The document's rows and the map's lists of pairs: the same, where the keys rise. -/
import Derived.Test.YtfgohbhacldlmaaG3
import Derived.Test.YtfgohbhacldlmaaR3
import Derived.Test.YtfgohbhacldlmaaD1
namespace Go.Proofs.Ytfgohbhacldlmaa
set_option linter.unusedSimpArgs false
open Go.RowKit
set_option linter.unusedVariables false

theorem eq_at (k : ByteArray) (L : PL) : L.filter (fun y => y.1.toList == k.toList) = atk ltS k L := by
  unfold atk
  congr 1
  funext y
  rcases linS.tri y.1 k with h | h | h
  · rw [h, bytes_ne (linS.ne h)]; rfl
  · rw [bytes_eq h, h, linS.irr]; rfl
  · rw [bytes_ne (fun e => linS.ne h e.symm), h, linS.asymm h]; rfl
theorem rget_get (k : ByteArray) (L : PL) : rgetV k L = getV k L := by unfold rgetV getV; rw [eq_at]; cases atk ltS k L <;> rfl
theorem lt_ne {a b : ByteArray} (h : ltS a b = true) : (a.toList == b.toList) = false := bytes_ne (linS.ne h)
theorem lt_ne' {a b : ByteArray} (h : ltS b a = true) : (a.toList == b.toList) = false := bytes_ne (fun e => linS.ne h e.symm)
theorem drop_eq {L : PL} (hs : Srt ltS L) (k : ByteArray) : L.filter (fun y => !(y.1.toList == k.toList)) = dropL ltS k L := by
  have e := (srt_parts linS hs k).1
  conv => lhs; rw [← e]
  rw [List.filter_append, List.filter_append, fa (l := below ltS k L) (fun y hy => by rw [lt_ne (mem_below y hy)]; rfl), fa (l := above ltS k L) (fun y hy => by rw [lt_ne' (mem_above y hy)]; rfl),
    fe (l := atk ltS k L) (fun y hy => by
      have h := (List.mem_filter.1 hy).2
      rcases linS.tri y.1 k with c | c | c
      · rw [c] at h; simp at h
      · rw [bytes_eq c]; rfl
      · rw [c] at h; simp at h)]
  simp [dropL]
theorem from_eq {L : PL} (hs : Srt ltS L) (k : ByteArray) : L.filter (fun y => !ltS y.1 k) = fromL k L := by
  have e := (srt_parts linS hs k).1
  conv => lhs; rw [← e]
  rw [List.filter_append, List.filter_append, fe (l := below ltS k L) (fun y hy => by rw [mem_below y hy]; rfl), fa (l := above ltS k L) (fun y hy => by rw [linS.asymm (mem_above y hy)]; rfl),
    fa (l := atk ltS k L) (fun y hy => by
      have h := (List.mem_filter.1 hy).2
      cases c : ltS y.1 k
      · rfl
      · rw [c] at h; simp at h)]
  simp [fromL]
theorem below_drop {L : PL} (hs : Srt ltS L) (k : ByteArray) : below ltS k (dropL ltS k L) = below ltS k L := by
  unfold dropL
  have e : below ltS k (below ltS k L ++ above ltS k L) = (below ltS k L).filter (fun x => ltS x.1 k) ++ (above ltS k L).filter (fun x => ltS x.1 k) := List.filter_append _ _
  rw [e, fa (l := below ltS k L) mem_below, fe (l := above ltS k L) (fun y hy => linS.asymm (mem_above y hy)), List.append_nil]
theorem put_eq {L : PL} (hs : Srt ltS L) (k : ByteArray) (v : Int) : putR k v L = putL ltS k v L := by
  unfold putR
  simp only [drop_eq hs, below_drop hs]
  unfold dropL putL
  rw [List.take_left, List.drop_left]
/-- What is cut. -/
def cutD (f t : ByteArray) (L : PL) : PL := if ltS f t = true then cutL f t L else L
theorem cut_eq2 {L : PL} (hs : Srt ltS L) (f t : ByteArray) : L.filter (fun y => ltS y.1 f || !ltS y.1 t) = cutD f t L := by
  unfold cutD
  by_cases h : ltS f t = true
  · rw [if_pos h]
    have e := (srt_parts linS hs f).1
    have e2 := from_eq (hs.filter (fun x => ltS f x.1)) t
    conv => lhs; rw [← e]
    rw [List.filter_append, List.filter_append, fa (l := below ltS f L) (fun y hy => by rw [mem_below y hy]; rfl),
      fe (l := atk ltS f L) (fun y hy => by
        have hh := (List.mem_filter.1 hy).2
        rcases linS.tri y.1 f with c | c | c
        · rw [c] at hh; simp at hh
        · rw [c, linS.irr, h]; rfl
        · rw [c] at hh; simp at hh), List.append_nil]
    unfold cutL
    congr 1
    have e3 : (above ltS f L).filter (fun y => ltS y.1 f || !ltS y.1 t) = (above ltS f L).filter (fun y => !ltS y.1 t) := List.filter_congr (fun y hy => by rw [linS.asymm (mem_above y hy), Bool.false_or])
    rw [e3]
    exact e2
  · rw [if_neg h]
    refine fa (fun y _ => ?_)
    cases c : ltS y.1 f
    · cases c2 : ltS y.1 t
      · rfl
      · exfalso
        apply h
        rcases linS.tri y.1 f with d | d | d
        · rw [d] at c; cases c
        · rw [← d]; exact c2
        · exact linS.trans _ _ _ d c2
    · rfl
theorem cutD_len {L : PL} (hs : Srt ltS L) (f t : ByteArray) : (cutD f t L).length ≤ L.length := by rw [← cut_eq2 hs]; exact List.length_filter_le _ _
theorem cutD_srt {L : PL} (hs : Srt ltS L) (f t : ByteArray) : Srt ltS (cutD f t L) := by rw [← cut_eq2 hs]; exact hs.filter _
/-- What becomes of the pairs. -/
def stepL (d : DD) (L : PL) : PL := if d.1 = 0 then putL ltS d.2.1 d.2.2.2 L else if d.1 = 1 then dropL ltS d.2.1 L else if d.1 = 2 then cutD d.2.1 d.2.2.1 L else L
theorem stepL_srt {L : PL} (hs : Srt ltS L) (d : DD) : Srt ltS (stepL d L) := by
  unfold stepL
  split
  · exact put_srt linS hs _ _
  · split
    · exact drop_srt linS hs _
    · split
      · exact cutD_srt hs _ _
      · exact hs
theorem stepL_len {L : PL} (hs : Srt ltS L) (d : DD) : (stepL d L).length ≤ L.length + 1 := by
  unfold stepL
  split
  · exact put_len linS hs _ _
  · split
    · have := drop_len linS hs d.2.1; omega
    · split
      · have := cutD_len hs d.2.1 d.2.2.1; omega
      · omega
theorem get_two (k : ByteArray) (L : PL) : ∃ gv bb, getV k L = .tuple #[.int .i64 gv, .bool (!bb)] ∧ (atk ltS k L).isEmpty = bb := by
  unfold getV
  cases atk ltS k L with
  | nil => exact ⟨0, true, rfl, rfl⟩
  | cons x r => exact ⟨x.2, false, rfl, rfl⟩
/-- A row stays where a map is written. -/
theorem rd_map {w w' : World} {A : Option Addr} {L : PL} {N : Nat} {v : Option Addr} (h : RdP w A L) (hb : Boxed w N 65 (.pointer v)) (hg : w.grownBy w' (some N)) : RdP w' A L := by
  rcases h with h | ⟨b, off, rfl, hlt, hc⟩
  · exact .inl h
  · cases L with
    | nil => exact .inl rfl
    | cons x L =>
      have c0 := hc 0 _ rfl
      have hne : some N ≠ some b := by
        intro e; cases e
        simp only [World.cell?, show w.heap[N]? = _ from hb] at c0
        cases off with
        | zero => simp at c0
        | succ o => simp at c0
      exact .inr ⟨b, off, rfl, Nat.lt_of_lt_of_le hlt hg.size, fun j u hj => (grown_far hg hlt hne).trans (hc j u hj)⟩
theorem MapIs.row {w w' : World} {A : Option Addr} {L M : PL} {N : Nat} (hm : MapIs w N M) (h : RdP w A L) (hg : w.grownBy w' (some N)) : RdP w' A L := by
  obtain ⟨p, _, hb, _⟩ := hm
  exact rd_map h hb hg
end Go.Proofs.Ytfgohbhacldlmaa
