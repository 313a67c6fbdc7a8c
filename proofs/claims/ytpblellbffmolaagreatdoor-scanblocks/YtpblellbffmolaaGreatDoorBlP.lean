/-
  PLAIN: blocks count.
-/
import Derived.Test.YtpblellbffmolaaGreatDoorBlF
set_option linter.unusedSimpArgs false
set_option linter.unusedVariables false
namespace Go.Proofs.YtpblellbffmolaaGreatDoor
open Go.RowKit

/-- the plant's state -/
def bst (va vr vq ve vc vb : Int) (t e c : Bk) : Vs × Ks := ([(ba [97], (1, va)), (ba [114], (1, vr)), (ba [113], (1, vq)), (ba [101, 49], (1, ve)), (ba [99, 49], (2, vc)), (ba [99, 113], (1, vb))], [(ba [116], t), (ba [101], e), (ba [99], c)])
theorem bnew : newS bDs ([], []) = bst 0 0 0 0 0 0 ⟨3, 0, false, false⟩ ⟨5, 0, false, false⟩ ⟨4, 0, false, false⟩ := by kernel_rfl
theorem bstep (n : Nat) (a r va vr vq ve vc vb tn en cn : Int) (tw tq ew eq cw cq : Bool) :
    stepS (bDs, bBody n) [a, r] (bst va vr vq ve vc vb ⟨3, tn, tw, tq⟩ ⟨5, en, ew, eq⟩ ⟨4, cn, cw, cq⟩) =
      bst (cutI 1 a) (cutI 1 r) (bitN (timerS ⟨3, tn, tw, tq⟩ (cutI 1 a != 0) n).q) (bitN (edgeS ⟨5, en, ew, eq⟩ (cutI 1 a != 0)).q) (counterS ⟨4, cn, cw, cq⟩ (cutI 1 a != 0) (cutI 1 r != 0) n).n (bitN (counterS ⟨4, cn, cw, cq⟩ (cutI 1 a != 0) (cutI 1 r != 0) n).q)
        (timerS ⟨3, tn, tw, tq⟩ (cutI 1 a != 0) n) (edgeS ⟨5, en, ew, eq⟩ (cutI 1 a != 0)) (counterS ⟨4, cn, cw, cq⟩ (cutI 1 a != 0) (cutI 1 r != 0) n) := by kernel_rfl
theorem bout (va vr vq ve vc vb : Int) (t e c : Bk) : outS (bst va vr vq ve vc vb t e c).1 bDs = [vq, ve, vc, vb] := by kernel_rfl
/-- how the state goes with what was asked -/
def BInv (n : Nat) (run was count : Int) (q : Vs × Ks) : Prop := ∃ va vr vq ve vc vb tn en tw tq eq cq, q = bst va vr vq ve vc vb ⟨3, tn, tw, tq⟩ ⟨5, en, (was != 0), eq⟩ ⟨4, count, (was != 0), cq⟩ ∧ tn = (if run ≤ n then run else n)
theorem binv0 (n : Nat) : BInv n 0 0 0 (newS bDs ([], [])) := ⟨0, 0, 0, 0, 0, 0, 0, 0, false, false, false, false, bnew, by simp⟩
theorem bgo (n : Nat) (run was count a r : Int) (q : Vs × Ks) (h : BInv n run was count q) (ha : a = 0 ∨ a = 1) (hr : r = 0 ∨ r = 1) (hw : was = 0 ∨ was = 1) (h0 : 0 ≤ run) (c0 : 0 ≤ count) (c1 : count ≤ 255) (run' ris count' : Int) (e1 : run' = (run + 1) * a) (e2 : ris = a * (1 - was)) (e3 : count' = (if 255 < count + ris then 255 else count + ris) * (1 - r)) :
    BInv n run' a count' (stepS (bDs, bBody n) [a, r] q) ∧ outS (stepS (bDs, bBody n) [a, r] q).1 bDs = [if a = 1 ∧ (n : Int) ≤ run' then 1 else 0, ris, count', if (n : Int) ≤ count' then 1 else 0] := by
  obtain ⟨va, vr, vq, ve, vc, vb, tn, en, tw, tq, eq, cq, rfl, htn⟩ := h
  rw [bstep, bout]
  have hca : (cutI 1 a != 0) = (a != 0) := by rcases ha with rfl | rfl <;> rfl
  have hcr : (cutI 1 r != 0) = (r != 0) := by rcases hr with rfl | rfl <;> rfl
  rw [hca, hcr]
  have hC : counterS ⟨4, count, (was != 0), cq⟩ (a != 0) (r != 0) n = ⟨4, count', (a != 0), decide ((n : Int) ≤ count')⟩ := by
    subst e2 e3
    rcases hr with rfl | rfl
    · rcases ha with rfl | rfl
      · have h1 : ¬ (255 : Int) < count := by omega
        rcases hw with rfl | rfl <;> simp [counterS, h1]
      · rcases hw with rfl | rfl
        · by_cases h2 : count < 255
          · have h1 : ¬ (255 : Int) < count + 1 := by omega
            simp [counterS, h1, h2]
          · have h1 : (255 : Int) < count + 1 := by omega
            have h3 : count = 255 := by omega
            subst h3
            simp [counterS]
        · have h1 : ¬ (255 : Int) < count := by omega
          simp [counterS, h1]
    · rcases ha with rfl | rfl <;> rcases hw with rfl | rfl <;> simp [counterS]
  have hE : edgeS ⟨5, en, (was != 0), eq⟩ (a != 0) = ⟨5, en, (a != 0), (ris != 0)⟩ := by
    subst e2
    rcases ha with rfl | rfl <;> rcases hw with rfl | rfl <;> rfl
  have hT : timerS ⟨3, tn, tw, tq⟩ (a != 0) n = ⟨3, if run' ≤ n then run' else n, tw, decide (a = 1 ∧ (n : Int) ≤ run')⟩ := by
    subst e1 htn
    rcases ha with rfl | rfl
    · have : (0 : Int) ≤ (n : Int) := by omega
      simp [timerS]
    · simp only [timerS, Int.mul_one]
      by_cases h1 : run ≤ (n : Int)
      · by_cases h2 : run < (n : Int)
        · have h3 : run + 1 ≤ (n : Int) := by omega
          simp [h1, h2, h3]
        · have h3 : ¬ run + 1 ≤ (n : Int) := by omega
          have h4 : run = (n : Int) := by omega
          (simp [h1, h2, h3, h4]) <;> omega
      · have h3 : ¬ run + 1 ≤ (n : Int) := by omega
        have h4 : (n : Int) ≤ run + 1 := by omega
        simp [h1, h3, h4]
  rw [hC, hE, hT]
  refine ⟨⟨_, _, _, _, _, _, _, _, _, _, _, _, rfl, rfl⟩, ?_⟩
  have hb : ∀ (P : Prop) [Decidable P], bitN (decide P) = if P then 1 else 0 := fun P _ => by by_cases h : P <;> simp [bitN, h]
  have hris : bitN (ris != 0) = ris := by
    subst e2
    rcases ha with rfl | rfl <;> rcases hw with rfl | rfl <;> rfl
  simp only [hb, hris]
end Go.Proofs.YtpblellbffmolaaGreatDoor
