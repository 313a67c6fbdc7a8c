/-
  PLAIN: a net without registers is known at once; one in which nothing is given has no gate left.
-/
import Derived.Test.YtlnmemeejgnbeaaClZ
set_option linter.unusedSimpArgs false
set_option linter.unusedVariables false
namespace Go.Proofs.Ytlnmemeejgnbeaa

/-- no register -/
def NoReg (ns : List Nd) : Prop := ∀ i, i < ns.length → (ndAt ns i).op ≠ 4
theorem doubt_steady {ns : List Nd} {rd : List (List Int)} {is : List Int} (h : ∀ i, i < ns.length → nowK (ndAt ns i) is = outAt is i) : ∀ (f i : Nat), i < ns.length → doubtF ns rd f i is = is
  | 0, i, _ => rfl
  | f + 1, i, hi => by
    rw [doubtF, kAt_n, Int.toNat_natCast]
    split
    · rfl
    · rename_i h2
      rw [if_neg (by rw [h i hi]; exact h2)]
theorem known_init {given : Int} {ns : List Nd} {os : List Int} (hr : RightP given ns os) (hn : NoReg ns) : knownP ns = initTo ns ns.length := by
  have hs : ∀ i, i < ns.length → nowK (ndAt ns i) (initTo ns ns.length) = outAt (initTo ns ns.length) i := fun i hi => (init_now hr hi (hn i hi)).symm
  have : ∀ k, k ≤ ns.length → doubtTo ns (rdP ns) (initTo ns ns.length) k = initTo ns ns.length := by
    intro k
    induction k with
    | zero => intro _; rfl
    | succ k ih => intro hk; rw [doubtTo, ih (by omega), doubt_steady hs _ _ (by omega)]
  exact this _ (Nat.le_refl _)
/-- gates of what is known are known -/
def Shut (ns : List Nd) : Prop := ∀ i, i < ns.length → (ndAt ns i).op ≠ 3 ∧ (ndAt ns i).op ≠ 4
theorem now_known {given : Int} {n k : Nat} {x : Nd} (hx : rightN given n k x = true) (h3 : x.op ≠ 3) (h4 : x.op ≠ 4) {l : List Int} (h : ∀ j, j < k → outAt l j = 0 ∨ outAt l j = 1) : nowK x l = 0 ∨ nowK x l = 1 := by
  obtain ⟨op, a, b, nx⟩ := x
  rcases right_cases hx with c | c | c | c | c | c
  · simp only at c; subst c; exact .inl rfl
  · simp only at c; subst c; exact .inr rfl
  · exact absurd c.1 h3
  · exact absurd c.1 h4
  · obtain ⟨c1, c2, _, _, c3, c4, i, j, e1, e2, hi, hj⟩ := c
    simp only at c1 c2 c3 c4 e1 e2
    subst e1 e2
    rcases two_cases c1 with e | e | e
    · subst e
      show leastK (kAt l (i : Int)) (kAt l (j : Int)) = 0 ∨ leastK (kAt l (i : Int)) (kAt l (j : Int)) = 1
      rw [kAt_n, kAt_n]
      rcases h i hi with e | e <;> rcases h j hj with e' | e' <;> rw [e, e'] <;> decide
    · subst e
      show turnK (leastK (turnK (kAt l (i : Int))) (turnK (kAt l (j : Int)))) = 0 ∨ turnK (leastK (turnK (kAt l (i : Int))) (turnK (kAt l (j : Int)))) = 1
      rw [kAt_n, kAt_n]
      rcases h i hi with e | e <;> rcases h j hj with e' | e' <;> rw [e, e'] <;> decide
    · subst e
      show xorK (kAt l (i : Int)) (kAt l (j : Int)) = 0 ∨ xorK (kAt l (i : Int)) (kAt l (j : Int)) = 1
      rw [kAt_n, kAt_n]
      rcases h i hi with e | e <;> rcases h j hj with e' | e' <;> rw [e, e'] <;> decide
  · obtain ⟨c8, i, e1, hi⟩ := c
    simp only at c8 e1
    subst c8 e1
    show turnK (kAt l (i : Int)) = 0 ∨ turnK (kAt l (i : Int)) = 1
    rw [kAt_n]
    rcases h i hi with e | e <;> rw [e] <;> decide
theorem init_known {given : Int} {ns : List Nd} {os : List Int} (hr : RightP given ns os) (hs : Shut ns) : ∀ i, i < ns.length → outAt (initTo ns ns.length) i = 0 ∨ outAt (initTo ns ns.length) i = 1 := by
  intro i
  induction i using Nat.strongRecOn with
  | ind i ih =>
    intro hi
    rw [init_now hr hi (hs i hi).2]
    exact now_known (hr.nodes i hi) (hs i hi).1 (hs i hi).2 fun j hj => ih j hj (by omega)
theorem mk_known {is : List Int} {ns : List Nd} (h : ∀ i, i < ns.length → outAt is i ≠ 2) : ∀ k, k ≤ ns.length → (mkTo is ns k).ms = ms0
  | 0, _ => rfl
  | k + 1, hk => by
    have ih := mk_known h k (by omega)
    show (mkStep _ _ _).ms = _
    unfold mkStep
    rw [if_neg (h k (by omega))]
    exact ih
theorem clean_known {given : Int} {ns : List Nd} {os : List Int} (hr : RightP given ns os) (hs : Shut ns) : gatesTo (cleanNs ns os) (cleanNs ns os).length = 0 := by
  have hk : knownP ns = initTo ns ns.length := known_init hr fun i hi => (hs i hi).2
  have hm : (mkAll ns).ms = ms0 := mk_known (fun i hi => by rw [hk]; rcases init_known hr hs i hi with e | e <;> rw [e] <;> decide) _ (Nat.le_refl _)
  show gatesTo (newTo (mkAll ns) (needP (mkAll ns) os) (mkAll ns).ms.length) (newTo (mkAll ns) (needP (mkAll ns) os) (mkAll ns).ms.length).length = 0
  rw [new_gates, hm]
  show cntP _ 2 = 0
  have e0 : isGate (ndAt ms0 0) = false := rfl
  have e1 : isGate (ndAt ms0 1) = false := rfl
  simp [cntP, e0, e1]
/-- what a net lets out first -/
theorem first_outs {given : Int} {ns : List Nd} {os : List Int} (hr : RightP given ns os) (g : List Bool) : outs (vals g (first ns) ns) os = outs (vals g (first (cleanNs ns os)) (cleanNs ns os)) (cleanOs ns os) := (both_outs hr (both_first hr) g).1.symm
end Go.Proofs.Ytlnmemeejgnbeaa
