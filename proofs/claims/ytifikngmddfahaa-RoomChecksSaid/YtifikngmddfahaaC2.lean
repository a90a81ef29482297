/- What may be asked with greater sizes; the law RoomWider. -/
import Derived.Test.YtifikngmddfahaaC1
import Derived.Test.YtifikngmddfahaaA5
namespace Go.Proofs.Ytifikngmddfahaa
set_option linter.unusedSimpArgs false
open Go.RowKit
set_option linter.unusedVariables false

theorem rightS_mono {s : ByteArray} {a b : Int} (h : a ≤ b) (k : rightS s a = true) : rightS s b = true := by
  unfold rightS at *
  simp at *
  exact ⟨k.1, by omega⟩
theorem mF_mono {k dl a0 a1 b0 b1 : Int} {key too val : ByteArray} (h0 : a0 ≤ b0) (h1 : a1 ≤ b1) (h : mF k dl a0 a1 key too val = 0) : mF k dl b0 b1 key too val = 0 := by
  have hr : rightS key a0 = true → rightS key b0 = true := rightS_mono h0
  unfold mF at *
  by_cases k1 : k = 1
  · rw [if_pos k1] at h ⊢
    by_cases hT : ¬ too.toList = []
    · rw [if_pos hT] at h; omega
    rw [if_neg hT] at h ⊢
    by_cases hD : ¬ dl = 0
    · rw [if_pos hD] at h; omega
    rw [if_neg hD] at h ⊢
    by_cases hS : a1 < (val.size : Int)
    · rw [if_pos hS] at h; omega
    rw [if_neg hS] at h
    rw [if_neg (by omega)]
    by_cases hR : rightS key a0 = true
    · rw [if_pos (hr hR)]
    · rw [if_neg hR] at h; omega
  rw [if_neg k1] at h ⊢
  by_cases k2 : k = 2
  · rw [if_pos k2] at h ⊢
    by_cases hT : ¬ too.toList = []
    · rw [if_pos hT] at h; omega
    rw [if_neg hT] at h ⊢
    by_cases hV : ¬ val.toList = []
    · rw [if_pos hV] at h; omega
    rw [if_neg hV] at h ⊢
    by_cases hD : ¬ dl = 0
    · rw [if_pos hD] at h; omega
    rw [if_neg hD] at h ⊢
    by_cases hR : rightS key a0 = true
    · rw [if_pos (hr hR)]
    · rw [if_neg hR] at h; omega
  rw [if_neg k2] at h ⊢
  by_cases k3 : k = 3
  · rw [if_pos k3] at h ⊢
    by_cases hT : ¬ too.toList = []
    · rw [if_pos hT] at h; omega
    rw [if_neg hT] at h ⊢
    by_cases hV : ¬ val.toList = []
    · rw [if_pos hV] at h; omega
    rw [if_neg hV] at h ⊢
    by_cases hR : rightS key a0 = true
    · rw [if_pos (hr hR)]
    · rw [if_neg hR] at h; omega
  rw [if_neg k3] at h ⊢
  by_cases k4 : k = 4
  · rw [if_pos k4] at h ⊢
    by_cases hV : ¬ val.toList = []
    · rw [if_pos hV] at h; omega
    rw [if_neg hV] at h ⊢
    by_cases hD : ¬ dl = 0
    · rw [if_pos hD] at h; omega
    rw [if_neg hD] at h ⊢
    by_cases hS : a0 < (key.size : Int)
    · rw [if_pos hS] at h; omega
    rw [if_neg hS] at h
    rw [if_neg (by omega)]
    by_cases hU : a0 < (too.size : Int)
    · rw [if_pos hU] at h; omega
    rw [if_neg hU] at h
    rw [if_neg (by omega)]
    exact h
  rw [if_neg k4] at h
  omega
theorem fe_mono {a0 a1 b0 b1 : Int} (h0 : a0 ≤ b0) (h1 : a1 ≤ b1) (l : List M) (h : fe a0 a1 l = 0) : fe b0 b1 l = 0 := by
  induction l with
  | nil => rfl
  | cons m l ih =>
    have e1 : fe a0 a1 (m :: l) = if mF m.k m.dl a0 a1 m.key m.too m.val = 0 then fe a0 a1 l else mF m.k m.dl a0 a1 m.key m.too m.val := rfl
    have e2 : fe b0 b1 (m :: l) = if mF m.k m.dl b0 b1 m.key m.too m.val = 0 then fe b0 b1 l else mF m.k m.dl b0 b1 m.key m.too m.val := rfl
    rw [e1] at h
    rw [e2]
    by_cases z : mF m.k m.dl a0 a1 m.key m.too m.val = 0
    · rw [if_pos z] at h
      rw [if_pos (mF_mono h0 h1 z)]
      exact ih h
    · rw [if_neg z] at h
      exact absurd h z
theorem abF_mono {a0 a1 b0 b1 : Int} (h0 : a0 ≤ b0) (h1 : a1 ≤ b1) (l : List M) (h : abF a0 a1 l = 0) : abF b0 b1 l = 0 := by
  unfold abF at *
  split at h
  · omega
  rename_i c
  rw [if_neg c]
  split at h
  · rename_i d; rw [if_pos d]; exact fe_mono h0 h1 l h
  · omega
theorem arF_mono {k n a0 a8 b0 b8 : Int} {key too : ByteArray} (h0 : a0 ≤ b0) (h8 : a8 ≤ b8) (h : arF k n a0 a8 key too = 0) : arF k n b0 b8 key too = 0 := by
  unfold arF at *
  repeat' split at h
  all_goals first | omega | skip
  all_goals
    repeat' split
    all_goals first | omega | simp_all | skip
theorem askF_mono {k n a0 a1 a8 b0 b1 b8 : Int} {key too : ByteArray} {len : Nat} {l : List M} (h0 : a0 ≤ b0) (h1 : a1 ≤ b1) (h8 : a8 ≤ b8) (h : askF k n a0 a1 a8 key too len l = 0) : askF k n b0 b1 b8 key too len l = 0 := by
  unfold askF at *
  split at h
  · omega
  rename_i c
  rw [if_neg c]
  split at h
  · rename_i k1
    rw [if_pos k1]
    split at h
    · rename_i r; rw [if_pos (rightS_mono h0 r)]
    · omega
  rename_i k1
  rw [if_neg k1]
  split at h
  · rename_i k2; rw [if_pos k2]; exact abF_mono h0 h1 l h
  rename_i k2
  rw [if_neg k2]
  split at h
  · rename_i k3; rw [if_pos k3]; exact arF_mono h0 h8 h
  rename_i k3
  rw [if_neg k3]
  split at h
  · rename_i k4; rw [if_pos k4]; exact arF_mono h0 h8 h
  · rename_i k4; rw [if_neg k4]

end Go.Proofs.Ytifikngmddfahaa
