/-
  PLAIN: who made what; what is needed.
-/
import Derived.Test.YtlnmemeejgnbeaaClU
import Derived.Test.YtlnmemeejgnbeaaClNe
set_option linter.unusedSimpArgs false
set_option linter.unusedVariables false
namespace Go.Proofs.Ytlnmemeejgnbeaa

/-- a node that is made: such as it may be -/
def NodeOK (given : Int) (n : Nat) (x : Nd) : Prop := (x.op = 3 ∧ 0 ≤ x.a ∧ x.a < given) ∨ (x.op = 4 ∧ (0 ≤ x.a ∧ x.a < 2) ∧ ∃ q : Nat, x.next = q ∧ q < n) ∨ (isTwo x.op = true ∧ 2 ≤ x.a ∧ 2 ≤ x.b) ∨ (x.op = 8 ∧ 2 ≤ x.a)
def RqS (given : Int) (n : Nat) (x : Nd) : Rq → Prop
  | .num _ => True
  | .req y => NodeOK given n y ∧ (isGate y = true → isGate x = true)
theorem gate_of {x : Nd} (h : isTwo x.op = true ∨ x.op = 8) : isGate x = true := by
  unfold isGate
  rcases h with h | h
  · rcases two_cases h with e | e | e <;> simp [e]
  · simp [h]
theorem not_shape {given : Int} {n : Nat} {x : Nd} {ms : List Nd} {a : Int} (hg : isGate x = true) : RqS given n x (notR ms a) := by
  unfold notR
  split
  · trivial
  · rename_i h
    refine ⟨.inr (.inr (.inr ⟨rfl, ?_⟩)), fun _ => hg⟩
    unfold otherM at h
    split at h
    · exact absurd rfl h
    · simp only; omega
theorem two_shape {given : Int} {n : Nat} {x : Nd} {op a b : Int} (ho : isTwo op = true) (hg : isGate x = true) (ha : 2 ≤ a) (hb : 2 ≤ b) : RqS given n x (twoR op a b) :=
  ⟨.inr (.inr (.inl ⟨ho, by simp only; omega, by simp only; omega⟩)), fun _ => hg⟩
theorem join_shape {given : Int} {n : Nat} {x : Nd} {ms : List Nd} (h : Ahead ms) (hg : isGate x = true) {op : Int} (ho : op = 5 ∨ op = 6) : ∀ (f : Nat) {a b : Int}, In ms a → In ms b → RqS given n x (joinR ms f op a b)
  | 0, a, b, ha, hb => trivial
  | f + 1, a, b, ha, hb => by
    have h2 : isTwo op = true := by rcases ho with e | e <;> subst e <;> rfl
    have h7 : op ≠ 7 := by rcases ho with e | e <;> subst e <;> decide
    rw [joinR]
    split
    · trivial
    rename_i hf
    have hno := free_no ha hb h7 (by simpa using hf)
    split
    · split
      · exact two_shape h2 hg hno.1 hno.2
      · exact join_shape h hg ho f (where_in h (idle_le op) b 3 ha) hb
    · exact join_shape h hg ho f ha (where_in h (idle_le op) a 3 hb)
theorem xor_shape {given : Int} {n : Nat} {x : Nd} {ms : List Nd} (h : Ahead ms) (hg : isGate x = true) : ∀ (f : Nat) {a b : Int}, In ms a → In ms b → RqS given n x (xorR ms f a b)
  | 0, a, b, ha, hb => trivial
  | f + 1, a, b, ha, hb => by
    rw [xorR]
    split
    · trivial
    rename_i hf
    split
    · exact not_shape hg
    rename_i h1
    split
    · exact not_shape hg
    rename_i h2
    split
    · rename_i e; exact xor_shape h hg f (h.one ha e.1) (h.one hb e.2)
    · have n1 : a ≠ 0 ∧ b ≠ 0 := by
        constructor
        · intro e; subst e; exact hf (by simp [freeM, idle])
        · intro e; subst e
          apply hf
          unfold freeM
          by_cases ea : a = idle 7
          · rw [if_pos ea]
          · rw [if_neg ea, if_pos (by rfl)]
      have := ha.1
      have := hb.1
      exact two_shape rfl hg (by omega) (by omega)
theorem anew_shape {ms : List Nd} (h : Ahead ms) {st : List Int} {given : Int} {n k : Nat} {x : Nd} (hx : rightN given n k x = true) (h1 : x.op ≠ 1) (h2 : x.op ≠ 2) (hv : ∀ i, i < k → In ms (outAt st i)) : RqS given n x (anewR ms st x) := by
  obtain ⟨op, a, b, nx⟩ := x
  rcases right_cases hx with c | c | c | c | c | c
  · exact absurd c h1
  · exact absurd c h2
  · obtain ⟨rfl, c0, c1⟩ := c
    exact ⟨.inl ⟨rfl, c0, c1⟩, fun e => by cases e⟩
  · obtain ⟨rfl, c0, c1, q, e, hq⟩ := c
    exact ⟨.inr (.inl ⟨rfl, ⟨c0, c1⟩, q, e, hq⟩), fun e => by cases e⟩
  · obtain ⟨c1, c2, _, _, c3, c4, i, j, e1, e2, hi, hj⟩ := c
    simp only at c1 c2 c3 c4 e1 e2
    subst e1 e2
    have hg : isGate ⟨op, (i : Int), (j : Int), nx⟩ = true := gate_of (.inl c1)
    unfold anewR
    simp only [kAt_nat]
    rw [if_neg c3, if_neg c4]
    split
    · exact join_shape h hg (.inl rfl) _ (hv i hi) (hv j hj)
    split
    · exact join_shape h hg (.inr rfl) _ (hv i hi) (hv j hj)
    split
    · exact xor_shape h hg _ (hv i hi) (hv j hj)
    · rcases two_cases c1 with e | e | e <;> contradiction
  · obtain ⟨c8, i, e1, hi⟩ := c
    simp only at c8 e1
    subst c8 e1
    exact not_shape (gate_of (.inr rfl))
/-- whoever is made stands for a node that was there -/
def Made1 (given : Int) (ns : List Nd) (k : Nat) (m : Mk) : Prop := ∀ q, 2 ≤ q → q < m.ms.length → NodeOK given ns.length (ndAt m.ms q) ∧ ∃ j, j < k ∧ outAt m.st j = (q : Int) ∧ (isGate (ndAt m.ms q) = true → isGate (ndAt ns j) = true)
theorem mkTo_made {given : Int} {ns : List Nd} {os : List Int} (hr : RightP given ns os) : ∀ k, k ≤ ns.length → Base (mkTo (knownP ns) ns k).ms ∧ Made1 given ns k (mkTo (knownP ns) ns k)
  | 0, _ => ⟨base0, fun q h1 h2 => by simp [mkTo, ms0] at h2; omega⟩
  | k + 1, hle => by
    have hko := known_ok hr
    have gd := mkTo_good hr hko k (by omega)
    obtain ⟨hb, hs⟩ := mkTo_made hr k (by omega)
    have hx := hr.nodes k (by omega)
    have ho := hko.2.2 k (by omega)
    have e0 : mkTo (knownP ns) ns (k + 1) = mkStep (mkTo (knownP ns) ns k) (outAt (knownP ns) k) (ndAt ns k) := rfl
    rw [e0]
    clear e0
    generalize mkTo (knownP ns) ns k = m at gd hb hs ⊢
    have old : ∀ (v : Int) (q : Nat), 2 ≤ q → q < m.ms.length → ∀ ms', ndAt ms' q = ndAt m.ms q → NodeOK given ns.length (ndAt ms' q) ∧ ∃ j, j < k + 1 ∧ outAt (m.st ++ [v]) j = (q : Int) ∧ (isGate (ndAt ms' q) = true → isGate (ndAt ns j) = true) := by
      intro v q h1 h2 ms' e
      obtain ⟨a, j, hj, b, c⟩ := hs q h1 h2
      rw [e]
      exact ⟨a, j, by omega, by rw [outAt_app_left (by rw [gd.len]; exact hj)]; exact b, c⟩
    unfold mkStep
    split
    · rename_i h2
      have ho := ho h2
      have hok := anew_ok gd.ahead hx ho.1 ho.2 gd.all
      have hsh := anew_shape gd.ahead hx ho.1 ho.2 gd.all
      obtain ⟨d1, d2, d3⟩ := done_grows gd.ahead hok
      rcases d3 with e | ⟨y, e1, e2, e3⟩
      · refine ⟨by rw [e]; exact hb, fun q h1 h2 => ?_⟩
        simp only at h2 ⊢
        rw [e] at h2
        exact old _ q h1 h2 _ (by rw [e])
      · refine ⟨by rw [e2]; exact hb.snoc gd.ahead.1 y, fun q h1 h2 => ?_⟩
        simp only at h2 ⊢
        rw [e2] at h2 ⊢
        by_cases hl : q < m.ms.length
        · exact old _ q h1 hl _ (ndAt_left hl)
        · obtain rfl : q = m.ms.length := by simp at h2; omega
          rw [ndAt_last]
          rw [e1] at hsh
          exact ⟨hsh.1, k, by omega, by rw [outAt_app_at gd.len, e3], hsh.2⟩
    · refine ⟨hb, fun q h1 h2 => old _ q h1 h2 _ rfl⟩
theorem mkAll_done {given : Int} {ns : List Nd} {os : List Int} (hr : RightP given ns os) : MkDone (mkAll ns) ∧ (mkAll ns).st.length = ns.length ∧ Base (mkAll ns).ms ∧ Made1 given ns ns.length (mkAll ns) := by
  have gd := mkTo_good hr (known_ok hr) ns.length (Nat.le_refl _)
  obtain ⟨hb, hs⟩ := mkTo_made hr ns.length (Nat.le_refl _)
  have hn := hr.n1
  refine ⟨⟨gd.ahead, fun i hi => gd.all i (by rw [← gd.len]; exact hi), fun k hk h4 => ?_, by have := gd.few; unfold mkAll; omega, by unfold mkAll; rw [gd.len]; omega⟩, gd.len, hb, hs⟩
  have hk2 : 2 ≤ k := by
    rcases Nat.lt_or_ge k 2 with h | h
    · have : k = 0 ∨ k = 1 := by omega
      rcases this with e | e <;> subst e
      · have := hb.1; unfold mkAll at h4; rw [this] at h4; cases h4
      · have := hb.2; unfold mkAll at h4; rw [this] at h4; cases h4
    · exact h
  obtain ⟨a, _⟩ := hs k hk2 hk
  unfold mkAll at h4 ⊢
  rcases a with a | a | a | a
  · rw [h4] at a; exact absurd a.1 (by decide)
  · rw [gd.len]; exact a.2.2
  · rw [h4] at a; exact absurd a.1 (by decide)
  · rw [h4] at a; exact absurd a.1 (by decide)
end Go.Proofs.Ytlnmemeejgnbeaa
