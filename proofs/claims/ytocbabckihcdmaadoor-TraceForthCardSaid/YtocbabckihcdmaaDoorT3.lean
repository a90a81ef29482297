/- The variables that stand; rows of texts; the words. -/
import Derived.Test.YtocbabckihcdmaaDoorT1
import Derived.Test.YtocbabckihcdmaaDoorS0
import Derived.Lib.AppendIntMem
import Derived.Lib.ItoaMem
import Derived.Deep.Cut
import Derived.Deep.DeepCutAuto
namespace Go.Proofs.YtocbabckihcdmaaDoor
set_option linter.unusedSimpArgs false
open Go.RowKit Go.Maps
set_option linter.unusedVariables false
/-- What the package's variables hold. -/
structure GW (w : World) : Prop where
  mx : ∃ m, w.cell? ⟨0, 0, none⟩ = some (.int .i64 m)
  sy : ∃ ev, w.cell? ⟨2, 0, none⟩ = some ev ∧ (ev = .nilIface ∨ ∃ te pe, ev = .iface te pe)
  rg : ∃ ev, w.cell? ⟨3, 0, none⟩ = some ev ∧ (ev = .nilIface ∨ ∃ te pe, ev = .iface te pe)
  tb : Lib.TabIs Tryd.prog w "internal/strconv.uint64pow10" .u64 Lib.pow10Tab
theorem GW.later {w w' : World} (h : GW w) (b : Below w.heap.size w w') : GW w' := by
  obtain ⟨m, h1⟩ := h.mx
  obtain ⟨e2, h2, h3⟩ := h.sy
  obtain ⟨e4, h4, h5⟩ := h.rg
  exact ⟨⟨m, bel_later b h1⟩, ⟨e2, bel_later b h2, h3⟩, ⟨e4, bel_later b h4, h5⟩, Lib.tabBelow_of_tabIs h.tb _ b⟩
def ES : RE ByteArray where
  st := 49
  et := 9
  k := 1
  by_ := 16
  z := .string ⟨#[]⟩
  cs := fun x => [.string x]
  kpos := by omega
  len := fun _ => rfl
  one := fun x u hu => by simp at hu; rcases hu with rfl; rfl
  und := Tryd.underlying49
  info := by kernel_rfl
  zk := rfl
  bmax := by omega
theorem es_at {w : World} {A : Option Addr} {xs : List ByteArray} (h : ES.Rd w A xs) {i : Nat} {x : ByteArray} (hi : xs[i]? = some x) : ∃ b off, A = some ⟨b, off, none⟩ ∧ b < w.heap.size ∧ w.cell? ⟨b, off + i, none⟩ = some (.string x) := by
  obtain ⟨b, off, e, h1, h2⟩ := h.get hi
  exact ⟨b, off, e, h1, by simpa [ES] using h2 0 _ rfl⟩
theorem es_all (xs : List ByteArray) : ES.all xs = xs.map Value.string := by
  induction xs with
  | nil => rfl
  | cons x xs ih => rw [RE.all_cons, ih]; rfl
def SP : ByteArray := ⟨#[32]⟩
def NL : ByteArray := ⟨#[10]⟩
def wl : List ByteArray := [⟨#[110, 111, 110, 101]⟩, ⟨#[98, 101, 103, 117, 110]⟩, ⟨#[114, 101, 97, 100]⟩, ⟨#[104, 101, 108, 100]⟩, ⟨#[98, 108, 111, 99, 107, 101, 100]⟩, ⟨#[102, 114, 101, 101, 100]⟩, ⟨#[98, 117, 109, 112, 101, 100]⟩, ⟨#[102, 97, 105, 108, 101, 100]⟩, ⟨#[112, 111, 117, 114, 101, 100]⟩, ⟨#[99, 117, 116]⟩, ⟨#[103, 114, 111, 119, 110]⟩, ⟨#[119, 101, 108, 100, 101, 100]⟩, ⟨#[115, 104, 97, 114, 101, 100]⟩, ⟨#[115, 117, 110, 107]⟩, ⟨#[115, 101, 110, 116]⟩, ⟨#[99, 104, 101, 99, 107, 101, 100]⟩, ⟨#[97, 110, 115, 119, 101, 114, 101, 100]⟩]
def WT : ByteArray := ⟨#[110, 111, 110, 101, 32, 98, 101, 103, 117, 110, 32, 114, 101, 97, 100, 32, 104, 101, 108, 100, 32, 98, 108, 111, 99, 107, 101, 100, 32, 102, 114, 101, 101, 100, 32, 98, 117, 109, 112, 101, 100, 32, 102, 97, 105, 108, 101, 100, 32, 112, 111, 117, 114, 101, 100, 32, 99, 117, 116, 32, 103, 114, 111, 119, 110, 32, 119, 101, 108, 100, 101, 100, 32, 115, 104, 97, 114, 101, 100, 32, 115, 117, 110, 107, 32, 115, 101, 110, 116, 32, 99, 104, 101, 99, 107, 101, 100, 32, 97, 110, 115, 119, 101, 114, 101, 100]⟩
theorem wt_split : Lib.splitB SP 0 (Lib.countB WT SP) WT = wl := by kernel_rfl
theorem wt_count : Lib.countB WT SP = 16 := by kernel_rfl
def wordF (w : Int) : ByteArray := (wl[w.toNat]?).getD ⟨#[]⟩
theorem split_words (w : World) (h : GW w) :
    Calls Tryd.prog 31 #[.string WT, .string SP] w fun e w' => e = .returned (.slice (some ⟨w.heap.size, 0, none⟩) 17 17) ∧ w' = w.alloc (.cells (wl.map Value.string).toArray 9) := by
  obtain ⟨m, hm⟩ := h.mx
  have e : WT.size = 106 := by kernel_rfl
  have g := sh_strings_Split WT SP m w (by omega) hm (by decide)
  rw [wt_split, wt_count] at g
  exact g
set_option maxRecDepth 100000 in
set_option maxHeartbeats 2000000 in
theorem word_any (a : Int) (h0 : 0 ≤ a) (h1 : a ≤ 255) (w : World) (h : GW w) :
    Calls Tryd.prog 18 #[.int .u8 a] w fun e w' => e = .returned (.string (wordF a)) ∧ Below w.heap.size w w' := by
  have SW := Lib.hid (split_words w h)
  have B0 := Lib.hid (alb w (.cells (wl.map Value.string).toArray 9))
  have RL := Lib.hid (RE.Rd.lit (E := ES) w 9 wl (wl.map Value.string).toArray (by rw [es_all]))
  have hwc : IntKind.i64.wrap a = a := IntWalk.i64_in _ (by omega)
  obtain ⟨k, hk⟩ : ∃ k : Nat, a = k := ⟨a.toNat, by omega⟩
  subst hk
  clear h
  go_enter Tryd.func18, Tryd.ntmps18
  go_upto_region 2 with (first
    | (go_at_call 31; ((refine SW.out.mono ?_); rintro e w1 ⟨rfl, rfl⟩))
    | fail)
  by_cases hk : k < 17
  · have hk1 : ¬ (17 : Int) ≤ (k : Int) := by omega
    have hk2 : (k : Int) < 17 := by omega
    have hk3 : (0 : Int) ≤ (k : Int) := by omega
    obtain ⟨x, hx⟩ : ∃ x, wl[k]? = some x := ⟨_, List.getElem?_eq_getElem (show k < wl.length from hk)⟩
    obtain ⟨b, off, e, -, g0⟩ := es_at RL.out hx
    cases e
    rw [Nat.zero_add] at g0
    have HE : Hid (wordF (k : Int) = x) := Lib.hid (by unfold wordF; rw [Int.toNat_natCast, hx]; rfl)
    obtain ⟨W1, hW1⟩ : ∃ W1, W1 = w.alloc (.cells (wl.map Value.string).toArray 9) := ⟨_, rfl⟩
    rw [← hW1] at g0 ⊢
    have HB : Hid (Below w.heap.size w W1) := Lib.hid (by rw [hW1]; exact B0.out)
    clear hW1 hx RL B0 SW
    go_wp2
    go_ret
    exact ⟨by rw [HE.out]; rfl, HB.out⟩
  · have hk1 : (17 : Int) ≤ (k : Int) := by omega
    have HE : Hid (wordF (k : Int) = ⟨#[]⟩) := Lib.hid (by unfold wordF; rw [Int.toNat_natCast, List.getElem?_eq_none (show wl.length ≤ k by show 17 ≤ k; omega)]; rfl)
    obtain ⟨W1, hW1⟩ : ∃ W1, W1 = w.alloc (.cells (wl.map Value.string).toArray 9) := ⟨_, rfl⟩
    rw [← hW1] 
    have HB : Hid (Below w.heap.size w W1) := Lib.hid (by rw [hW1]; exact B0.out)
    clear hW1 RL B0 SW
    go_wp2
    go_ret
    exact ⟨by rw [HE.out]; rfl, HB.out⟩
end Go.Proofs.YtocbabckihcdmaaDoor
