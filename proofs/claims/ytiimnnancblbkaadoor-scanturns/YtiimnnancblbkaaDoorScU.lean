/-
  PLAIN: plants that tell the same of every name, whatever the order of their declarations.
-/
import Derived.Test.YtiimnnancblbkaaDoorScT
set_option linter.unusedSimpArgs false
set_option linter.unusedVariables false
namespace Go.Proofs.YtiimnnancblbkaaDoor

/-- they tell the same of every name -/
def Same (q r : Vs × Ks) : Prop := (∀ s, getA q.1 s ty0 = getA r.1 s ty0) ∧ ∀ s, getA q.2 s bk0 = getA r.2 s bk0
theorem num_same {q r : Vs × Ks} (h : Same q r) : ∀ x : Ex, numS q.1 q.2 x = numS r.1 r.2 x
  | .num .. => rfl
  | .name _ s => h.1 s
  | .field _ s f => by simp only [numS, h.2 s]
  | .not _ x => by simp only [numS, num_same h x]
  | .bin _ op x y => by simp only [numS, num_same h x, num_same h y]
theorem holds_same {q r : Vs × Ks} (h : Same q r) (x : Ex) : holdsS q.1 q.2 x = holdsS r.1 r.2 x := by simp only [holdsS, num_same h]
theorem call_same {q r : Vs × Ks} (h : Same q r) (b : Bk) (l : List Ex) (n : Nat) : callS q.1 q.2 b l n = callS r.1 r.2 b l n := by
  match l with
  | [] => rfl
  | [x] => simp only [callS, holds_same h]
  | x :: y :: t => simp only [callS, holds_same h]
mutual
theorem doS_same : ∀ (s : St) (q r : Vs × Ks), Same q r → Same (doS s q) (doS s r)
  | .set _ s x, q, r, h => by
    simp only [doS]
    refine ⟨fun t => ?_, h.2⟩
    simp only [getA_put, h.1, num_same h]
  | .call _ s l n, q, r, h => by
    simp only [doS]
    refine ⟨h.1, fun t => ?_⟩
    simp only [getA_put, h.2, call_same h]
  | .cond _ x th el, q, r, h => by
    simp only [doS, holds_same h]
    split
    · exact doL_same th q r h
    · exact doL_same el q r h
theorem doL_same : ∀ (l : List St) (q r : Vs × Ks), Same q r → Same (doL l q) (doL l r)
  | [], q, r, h => by simp only [doL]; exact h
  | s :: l, q, r, h => by simp only [doL]; exact doL_same l _ _ (doS_same s q r h)
end
theorem take_at_same : ∀ (l : List De) (g : List Int) (vs us : Vs), (∀ s, getA vs s ty0 = getA us s ty0) → ∀ s, getA (takeS l g vs) s ty0 = getA (takeS l g us) s ty0
  | [], _, _, _, h, s => h s
  | d :: l, g, vs, us, h, s => by
    simp only [takeS]
    split
    · exact take_at_same l _ _ _ (fun t => by simp only [getA_put, h]) s
    · exact take_at_same l _ _ _ h s
theorem take_filter : ∀ (l : List De) (g : List Int) (vs : Vs), takeS l g vs = takeS (l.filter fun d => d.way == 1) g vs
  | [], _, _ => rfl
  | d :: l, g, vs => by
    by_cases h : d.way = 1
    · simp only [takeS, List.filter_cons, h, beq_self_eq_true, if_true]
      exact take_filter l _ _
    · have h' : (d.way == 1) = false := by simp [h]
      simp only [takeS, List.filter_cons, h, h', if_false, Bool.false_eq_true]
      exact take_filter l g vs
theorem out_filter (vs : Vs) : ∀ l : List De, outS vs l = outS vs (l.filter fun d => d.way == 2)
  | [] => rfl
  | d :: l => by
    by_cases h : d.way = 2
    · simp only [outS, List.filter_cons, h, beq_self_eq_true, if_true]
      rw [out_filter vs l]
    · have h' : (d.way == 2) = false := by simp [h]
      simp only [outS, List.filter_cons, h, h', if_false, Bool.false_eq_true]
      exact out_filter vs l
theorem out_same {vs us : Vs} (h : ∀ s, getA vs s ty0 = getA us s ty0) : ∀ l : List De, outS vs l = outS us l
  | [] => rfl
  | d :: l => by simp only [outS, h, out_same h l]
/-- the declarations as ScanTurns turns them: the variables last come first -/
def turnD (ds : List De) : List De := (ds.filter fun d => d.way == 3).reverse ++ ds.filter fun d => !(d.way == 3)
theorem turnD_way (ds : List De) (k : Nat) (hk : k ≠ 3) : (turnD ds).filter (fun d => d.way == k) = ds.filter fun d => d.way == k := by
  unfold turnD
  rw [List.filter_append, List.filter_reverse, List.filter_filter, List.filter_filter]
  have h1 : (ds.filter fun d => d.way == k && d.way == 3) = [] := by
    rw [List.filter_eq_nil_iff]
    intro d _ h
    simp only [Bool.and_eq_true, beq_iff_eq] at h
    omega
  rw [h1, List.reverse_nil, List.nil_append]
  apply List.filter_congr
  intro d _
  by_cases h : d.way = k
  · have : (d.way == 3) = false := by simp; omega
    simp [h] at *
    omega
  · simp [h]
/-- one cycle of both: the same of every name, and the same comes out -/
theorem step_turned {ds : List De} {l : List St} {f : Find} (hg : GoodL l) (hc : stsC f l = .ok ()) (g : List Int) (q r : Vs × Ks) (h : Same q r) (hw : WT f (takeS ds g q.1, q.2)) :
    Same (stepS (ds, l) g q) (stepS (turnD ds, turnL l) g r) ∧ outS (stepS (ds, l) g q).1 ds = outS (stepS (turnD ds, turnL l) g r).1 (turnD ds) := by
  have h1 : ∀ s, getA (takeS (turnD ds) g r.1) s ty0 = getA (takeS ds g q.1) s ty0 := fun s => by
    rw [take_filter (turnD ds), turnD_way ds 1 (by decide), ← take_filter ds]
    exact take_at_same ds g r.1 q.1 (fun t => (h.1 t).symm) s
  have hs : Same (takeS ds g q.1, q.2) (takeS (turnD ds) g r.1, r.2) := ⟨fun s => (h1 s).symm, h.2⟩
  have h2 : Same (stepS (ds, l) g q) (stepS (turnD ds, turnL l) g r) := by
    show Same (doL l (takeS ds g q.1, q.2)) (doL (turnL l) (takeS (turnD ds) g r.1, r.2))
    rw [← turn_do l _ hg hc hw]
    exact doL_same (turnL l) _ _ hs
  refine ⟨h2, ?_⟩
  rw [out_filter _ (turnD ds), turnD_way ds 2 (by decide), ← out_filter]
  exact out_same h2.1 ds
end Go.Proofs.YtiimnnancblbkaaDoor
