/-
  PLAIN: a turned program is as deep, as long and as fit as it was.
-/
import Derived.Test.YtiimnnancblbkaaDoorScV
set_option linter.unusedSimpArgs false
set_option linter.unusedVariables false
namespace Go.Proofs.YtiimnnancblbkaaDoor

theorem turnL_len : ∀ l : List St, (turnL l).length = l.length
  | [] => by simp only [turnL]
  | s :: l => by simp only [turnL, List.length_cons, turnL_len l]
theorem turnL_app : ∀ a b : List St, turnL (a ++ b) = turnL a ++ turnL b
  | [], b => by simp only [turnL, List.nil_append]
  | s :: a, b => by simp only [List.cons_append, turnL, turnL_app a b]
mutual
theorem turnS_dep : ∀ s : St, depS (turnS s) = depS s
  | .set .. => by simp only [turnS]
  | .call .. => by simp only [turnS]
  | .cond p x th el => by simp only [turnS, depS, turnL_dep th, turnL_dep el, Nat.max_comm]
theorem turnL_dep : ∀ l : List St, depL (turnL l) = depL l
  | [] => by simp only [turnL]
  | s :: l => by simp only [turnL, depL, turnS_dep s, turnL_dep l]
end
mutual
theorem turnS_sm : ∀ s : St, SmS s → SmS (turnS s)
  | .set .., h => by simp only [turnS]; exact h
  | .call .., h => by simp only [turnS]; exact h
  | .cond p x th el, h => by
    simp only [SmS] at h
    simp only [turnS, SmS, turnL_len]
    exact ⟨turnL_sm el h.2.1, turnL_sm th h.1, h.2.2.2, h.2.2.1⟩
theorem turnL_sm : ∀ l : List St, SmL l → SmL (turnL l)
  | [], h => by simp only [turnL]; exact h
  | s :: l, h => by
    simp only [SmL] at h
    simp only [turnL, SmL]
    exact ⟨turnS_sm s h.1, turnL_sm l h.2⟩
end
mutual
theorem turnS_qm : ∀ s : St, QmS s → QmS (turnS s)
  | .set .., h => by simp only [turnS]; exact h
  | .call .., h => by simp only [turnS]; exact h
  | .cond p x th el, h => by
    simp only [QmS] at h
    simp only [turnS, QmS, turnL_len]
    exact ⟨turnL_qm el h.2.1, turnL_qm th h.1, h.2.2.2, h.2.2.1⟩
theorem turnL_qm : ∀ l : List St, QmL l → QmL (turnL l)
  | [], h => by simp only [turnL]; exact h
  | s :: l, h => by
    simp only [QmL] at h
    simp only [turnL, QmL]
    exact ⟨turnS_qm s h.1, turnL_qm l h.2⟩
end
mutual
theorem turnS_fit {K : ByteArray → Nat} : ∀ s : St, FitS K s → FitS K (turnS s)
  | .set .., h => by simp only [turnS]; exact h
  | .call .., h => by simp only [turnS]; exact h
  | .cond p x th el, h => by
    simp only [FitS] at h
    simp only [turnS, FitS]
    exact ⟨turnL_fit el h.2, turnL_fit th h.1⟩
theorem turnL_fit {K : ByteArray → Nat} : ∀ l : List St, FitL K l → FitL K (turnL l)
  | [], h => by simp only [turnL]; exact h
  | s :: l, h => by
    simp only [FitL] at h
    simp only [turnL, FitL]
    exact ⟨turnS_fit s h.1, turnL_fit l h.2⟩
end
theorem turnD_len (ds : List De) : (turnD ds).length = ds.length := (turnD_perm ds).length_eq
theorem kindK_turn {ds : List De} (h : Apart ds) : kindK (turnD ds) = kindK ds := funext fun s => by
  unfold kindK
  rw [(new_same h).2 s]
/-- all that New and Step ask of a turned program -/
structure Turned (p : List De × List St) : Prop where
  many : (turnD p.1).length ≤ 20
  deep : depL (turnL p.2) ≤ 8
  size : (turnL p.2).length ≤ 1000000
  sm : SmL (turnL p.2)
  qm : QmL (turnL p.2)
  ok : checkC (turnD p.1, turnL p.2) = .ok ()
  fit : FitL (kindK p.1) (turnL p.2)
  kind : kindK (turnD p.1) = kindK p.1
theorem Fine.turned {p : List De × List St} (h : Fine p) : Turned p := by
  obtain ⟨h1, h2, h3⟩ := check_turn h.ok
  exact ⟨by rw [turnD_len]; exact h.many, by rw [turnL_dep]; exact h.deep, by rw [turnL_len]; exact h.size, turnL_sm _ h.sm, turnL_qm _ h.qm, h3, turnL_fit _ h.fit, kindK_turn h1⟩
/-- cycles of both, one behind the other: what both hold -/
def Both (ds : List De) (q r : Vs × Ks) : Prop := Same q r ∧ WT (findC ds) q ∧ KOK (kindK ds) q.2 ∧ KOK (kindK ds) r.2
theorem Fine.both {p : List De × List St} (h : Fine p) : Both p.1 (newS p.1 ([], [])) (newS (turnD p.1) ([], [])) := by
  obtain ⟨h1, h2, h3⟩ := check_turn h.ok
  refine ⟨new_same h1, new_wt h1 h.good.decls, kok_new p.1, ?_⟩
  have := kok_new (turnD p.1)
  rw [kindK_turn h1] at this
  exact this
theorem Both.step {p : List De × List St} (h : Fine p) (g : List Int) {q r : Vs × Ks} (hb : Both p.1 q r) :
    Both p.1 (stepS p g q) (stepS (turnD p.1, turnL p.2) g r) ∧ outS (stepS p g q).1 p.1 = outS (stepS (turnD p.1, turnL p.2) g r).1 (turnD p.1) := by
  obtain ⟨h1, h2, h3⟩ := check_turn h.ok
  obtain ⟨b1, b2, b3, b4⟩ := hb
  have hw : WT (findC p.1) (takeS p.1 g q.1, q.2) := take_wt p.1 g q.1 (good_in h1 h.good.decls) b2
  obtain ⟨c1, c2⟩ := step_turned (ds := p.1) (l := p.2) h.good.body h2 g q r b1 hw
  refine ⟨⟨c1, ?_, kok_step (K := kindK p.1) (p := p) (g := g) (q := q) h.fit b3, kok_step (K := kindK p.1) (p := (turnD p.1, turnL p.2)) (g := g) (q := r) (turnL_fit _ h.fit) b4⟩, c2⟩
  exact wt_sts p.2 _ h.good.body h2 hw
end Go.Proofs.YtiimnnancblbkaaDoor
