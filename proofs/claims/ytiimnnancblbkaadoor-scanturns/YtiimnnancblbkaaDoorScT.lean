/-
  PLAIN: numbers are of their types; a program in which each If asks the opposite does the same.
-/
import Derived.Test.YtiimnnancblbkaaDoorSc9
set_option linter.unusedSimpArgs false
set_option linter.unusedVariables false
namespace Go.Proofs.YtiimnnancblbkaaDoor

mutual
/-- a program whose asks are turned -/
def turnS : St → St
  | .set p s x => .set p s x
  | .call p s l n => .call p s l n
  | .cond p x th el => .cond p (.not p x) (turnL el) (turnL th)
def turnL : List St → List St
  | [] => []
  | s :: l => turnS s :: turnL l
end
theorem bit_bd (b : Bool) : 0 ≤ bitI b ∧ bitI b < 2 := by cases b <;> decide
theorem two_bd (op : List UInt8) (k : Int) (a b : Int) (h : resI op k k ≠ 0) : 0 ≤ twoI op k a b ∧ twoI op k a b < vmod (resI op k k) := by
  have hk : k = 1 ∨ k = 2 := by
    unfold resI at h
    split at h
    · exact absurd rfl h
    · rename_i hn; omega
  rw [twoI_yes op k a b h]
  have ha := cutI_bd k a
  have hb := cutI_bd k b
  have h2 : ∀ m : Int, 0 ≤ cutI k m ∧ cutI k m < vmod k := fun m => ⟨(cutI_bd k m).1, (cutI_bd k m).2.1⟩
  have hr : resI op k k = if op = [97, 110, 100] ∨ op = [111, 114] ∨ op = [120, 111, 114] then k else if op = [61] ∨ op = [60, 62] then 1 else if k = 2 then (if op = [60] ∨ op = [60, 61] ∨ op = [62] ∨ op = [62, 61] then 1 else if op = [43] ∨ op = [45] then 2 else 0) else 0 := by
    unfold resI
    rw [if_neg (by omega)]
  have hbit : ∀ c : Bool, 0 ≤ bitI c ∧ bitI c < vmod 1 := fun c => by cases c <;> decide
  have hw : vmod k = ((2 ^ wid k : Nat) : Int) := vmod_pow k
  have hx : (cutI k a).toNat < 2 ^ wid k := by omega
  have hy : (cutI k b).toNat < 2 ^ wid k := by omega
  unfold vmark
  by_cases o1 : op = [97, 110, 100]
  · subst o1
    rw [if_pos rfl, hr, if_pos (.inl rfl)]
    have : (cutI k a).toNat &&& (cutI k b).toNat ≤ (cutI k a).toNat := Nat.and_le_left
    omega
  · rw [if_neg o1]
    by_cases o2 : op = [111, 114]
    · subst o2
      rw [if_pos rfl, hr, if_pos (.inr (.inl rfl))]
      have := Nat.or_lt_two_pow hx hy
      omega
    · rw [if_neg o2]
      by_cases o3 : op = [120, 111, 114]
      · subst o3
        rw [if_pos rfl, hr, if_pos (.inr (.inr rfl))]
        have := Nat.xor_lt_two_pow hx hy
        omega
      · rw [if_neg o3]
        rw [if_neg (by simp [o1, o2, o3])] at hr
        by_cases o4 : op = [43]
        · subst o4
          rcases hk with rfl | rfl
          · exact absurd (by rw [hr]; rfl) h
          · rw [if_pos rfl, hr]; exact h2 _
        · rw [if_neg o4]
          by_cases o5 : op = [45]
          · subst o5
            rcases hk with rfl | rfl
            · exact absurd (by rw [hr]; rfl) h
            · rw [if_pos rfl, hr]; exact h2 _
          · rw [if_neg o5]
            have hr1 : resI op k k = 1 := by
              rw [hr] at h ⊢
              by_cases o6 : op = [61] ∨ op = [60, 62]
              · rw [if_pos o6]
              · rw [if_neg o6] at h ⊢
                rcases hk with rfl | rfl
                · exact absurd rfl h
                · rw [if_pos rfl] at h ⊢
                  by_cases o7 : op = [60] ∨ op = [60, 61] ∨ op = [62] ∨ op = [62, 61]
                  · rw [if_pos o7]
                  · rw [if_neg o7, if_neg (by simp [o4, o5])] at h
                    exact absurd rfl h
            rw [hr1]
            exact hbit _
theorem not_holds {vs : Vs} {ks : Ks} {x : Ex} (p : Nat) (h : (numS vs ks x).1 = 1) (h0 : 0 ≤ (numS vs ks x).2) (h1 : (numS vs ks x).2 < 2) : holdsS vs ks (.not p x) = !holdsS vs ks x := by
  unfold holdsS
  simp only [numS]
  rw [h]
  rcases (show (numS vs ks x).2 = 0 ∨ (numS vs ks x).2 = 1 by omega) with e | e <;> rw [e] <;> kernel_rfl

/-- names and blocks are of their types -/
def WT (f : Find) (q : Vs × Ks) : Prop := ∀ s d, f s = some d → (widthN d.ty ≠ 0 → (getA q.1 s ty0).1 = d.ty ∧ 0 ≤ (getA q.1 s ty0).2 ∧ (getA q.1 s ty0).2 < vmod d.ty) ∧ (widthN d.ty = 0 → (getA q.2 s bk0).kind = d.ty ∧ 0 ≤ (getA q.2 s bk0).n ∧ (getA q.2 s bk0).n ≤ 255)
theorem res_same (op : List UInt8) (a b : Nat) : ((resN op a b : Nat) : Int) = resI op a b := by
  unfold resN resI
  have hq : (a ≠ b ∨ widthN a = 0) ↔ ((a : Int) ≠ (b : Int) ∨ ((a : Int) ≠ 1 ∧ (a : Int) ≠ 2)) := by
    have hwd : widthN a = 0 ↔ (a ≠ 1 ∧ a ≠ 2) := by
      unfold widthN
      by_cases h1 : a = 1
      · simp [h1]
      · by_cases h2 : a = 2
        · simp [h2]
        · simp [h1, h2]
    rw [hwd]
    omega
  by_cases h : a ≠ b ∨ widthN a = 0
  · rw [if_pos h, if_pos (hq.1 h)]; rfl
  · rw [if_neg h, if_neg (fun e => h (hq.2 e))]
    simp only [Bool.or_eq_true, beq_iff_eq, or_assoc]
    split
    · rfl
    · split
      · rfl
      · by_cases h2 : a = 2
        · subst h2
          rw [if_pos rfl, if_pos (show (((2 : Nat) : Int)) = 2 from rfl)]
          split
          · rfl
          · split <;> rfl
        · rw [if_neg h2, if_neg (by omega)]; rfl
theorem decl_ok {f : Find} {s : ByteArray} {p : Nat} {d : De} (h : declC f s p = .ok d) : f s = some d := by
  unfold declC at h
  cases hx : f s with
  | none => rw [hx] at h; cases h
  | some e => rw [hx] at h; cases h; rfl
theorem field_blk {ty : Nat} {s : List UInt8} (h : fieldN ty s ≠ 0) : widthN ty = 0 := by
  unfold fieldN at h
  by_cases h3 : ty = 3
  · subst h3; rfl
  · by_cases h4 : ty = 4
    · subst h4; rfl
    · by_cases h5 : ty = 5
      · subst h5; rfl
      · exfalso
        apply h
        simp [argsN, h3, h4, h5]
theorem field_two (ty : Nat) (s : List UInt8) : fieldN ty s = 0 ∨ fieldN ty s = 1 ∨ fieldN ty s = 2 := by
  unfold fieldN
  split
  · exact .inr (.inl rfl)
  · split
    · exact .inr (.inr rfl)
    · exact .inl rfl
/-- what an expression that is right comes to is of its type -/
theorem num_ty {f : Find} {q : Vs × Ks} (hw : WT f q) : ∀ (x : Ex) (t : Nat), GoodEx x → kindC f x = .ok t → (numS q.1 q.2 x).1 = t ∧ 0 ≤ (numS q.1 q.2 x).2 ∧ (numS q.1 q.2 x).2 < vmod t
  | .num p n ty, t, hg, h => by
    simp only [kindC, Ck.ok.injEq] at h
    subst h
    rcases hg with ⟨rfl, hn⟩ | ⟨rfl, hn⟩
    · exact ⟨rfl, by show (0 : Int) ≤ (n : Int); omega, by show (n : Int) < 2; omega⟩
    · exact ⟨rfl, by show (0 : Int) ≤ (n : Int); omega, by show (n : Int) < 256; omega⟩
  | .name p s, t, hg, h => by
    simp only [kindC] at h
    obtain ⟨d, h1, h2⟩ := ck_bind h
    split at h2
    · cases h2
    · rename_i hn
      cases h2
      exact (hw s d (decl_ok h1)).1 hn
  | .field p s g, t, hg, h => by
    simp only [kindC] at h
    obtain ⟨d, h1, h2⟩ := ck_bind h
    split at h2
    · cases h2
    · rename_i hn
      cases h2
      obtain ⟨e1, e2, e3⟩ := (hw s d (decl_ok h1)).2 (field_blk hn)
      simp only [numS, fieldS, e1]
      rcases field_two d.ty g.toList with e | e | e
      · exact absurd e hn
      · rw [e]
        refine ⟨trivial, ?_⟩
        rw [if_pos rfl]
        cases (getA q.2 s bk0).q with
        | true => exact ⟨by show (0 : Int) ≤ 1; decide, by show (1 : Int) < 2; decide⟩
        | false => exact ⟨by show (0 : Int) ≤ 0; decide, by show (0 : Int) < 2; decide⟩
      · rw [e]
        refine ⟨trivial, ?_⟩
        rw [if_neg (by decide), if_pos rfl]
        exact ⟨e2, by show _ < (256 : Int); omega⟩
  | .not p x, t, hg, h => by
    simp only [kindC] at h
    obtain ⟨h1, h2, h3⟩ := num_ty hw x t hg h
    simp only [numS, h1]
    exact ⟨trivial, (cutI_bd t _).1, (cutI_bd t _).2.1⟩
  | .bin p op x y, t, hg, h => by
    simp only [kindC] at h
    obtain ⟨a, h1, h2⟩ := ck_bind h
    obtain ⟨b, h3, h4⟩ := ck_bind h2
    split at h4
    · cases h4
    · rename_i hn
      cases h4
      obtain ⟨e1, _, _⟩ := num_ty hw x a hg.2.1 h1
      obtain ⟨e2, _, _⟩ := num_ty hw y b hg.2.2 h3
      have hr : resI op.data.toList a b ≠ 0 := by rw [← res_same, ← ByteArray.toList_eq]; omega
      have hab : (a : Int) = (b : Int) := by
        unfold resI at hr
        split at hr
        · exact absurd rfl hr
        · rename_i hq; omega
      have hab' : a = b := by omega
      subst hab'
      have hb := two_bd op.data.toList a (numS q.1 q.2 x).2 (numS q.1 q.2 y).2 hr
      simp only [numS, e1, e2]
      refine ⟨trivial, hb.1, ?_⟩
      have := hb.2
      rw [← res_same] at this
      rw [ByteArray.toList_eq]
      exact this

mutual
/-- each If of a program that is right asks a bit: turned, it does the same -/
theorem turn_st {f : Find} (hput : ∀ s q, GoodSt s → stC f s = .ok () → WT f q → WT f (doS s q)) : ∀ (s : St) (q : Vs × Ks), GoodSt s → stC f s = .ok () → WT f q → doS (turnS s) q = doS s q
  | .set .., q, _, _, _ => by simp only [turnS]
  | .call .., q, _, _, _ => by simp only [turnS]
  | .cond p x th el, q, hg, h, hw => by
    simp only [GoodSt] at hg
    simp only [stC, wantC] at h
    obtain ⟨_, h1, h2⟩ := ck_bind h
    obtain ⟨_, h3, h4⟩ := ck_bind h2
    obtain ⟨t, h5, h6⟩ := ck_bind h1
    have ht : t = 1 := by
      split at h6
      · assumption
      · cases h6
    subst ht
    obtain ⟨e1, e2, e3⟩ := num_ty hw x 1 hg.1.good h5
    have e3' : (numS q.1 q.2 x).2 < 2 := e3
    simp only [turnS, doS]
    rw [not_holds p e1 e2 e3', turn_sts hput th q hg.2.1 h3 hw, turn_sts hput el q hg.2.2 h4 hw]
    cases holdsS q.1 q.2 x <;> simp
theorem turn_sts {f : Find} (hput : ∀ s q, GoodSt s → stC f s = .ok () → WT f q → WT f (doS s q)) : ∀ (l : List St) (q : Vs × Ks), GoodL l → stsC f l = .ok () → WT f q → doL (turnL l) q = doL l q
  | [], q, _, _, _ => by simp only [turnL]
  | s :: l, q, hg, h, hw => by
    simp only [GoodL] at hg
    simp only [stsC] at h
    obtain ⟨_, h1, h2⟩ := ck_bind h
    simp only [turnL, doL]
    rw [turn_st hput s q hg.1 h1 hw, turn_sts hput l (doS s q) hg.2 h2 (hput s q hg.1 h1 hw)]
end

theorem WT.setV {f : Find} {q : Vs × Ks} (hw : WT f q) {s : ByteArray} {d : De} (hf : f s = some d) (hd : widthN d.ty ≠ 0) {n : Int} (h0 : 0 ≤ n) (h1 : n < vmod d.ty) : WT f (putA q.1 s ((getA q.1 s ty0).1, n), q.2) := fun t e ht => by
  obtain ⟨a1, a2⟩ := hw t e ht
  refine ⟨fun hn => ?_, a2⟩
  simp only
  rw [getA_put]
  split
  · rename_i hts
    have := bb_eq hts
    subst this
    obtain rfl : d = e := Option.some.inj (hf.symm.trans ht)
    exact ⟨((hw t d ht).1 hd).1, h0, h1⟩
  · exact a1 hn
theorem WT.setB {f : Find} {q : Vs × Ks} (hw : WT f q) {s : ByteArray} {d : De} (hf : f s = some d) (l : List Ex) (n : Nat) (hn : n ≤ 255) : WT f (q.1, putA q.2 s (callS q.1 q.2 (getA q.2 s bk0) l n)) := fun t e ht => by
  obtain ⟨a1, a2⟩ := hw t e ht
  refine ⟨a1, fun h0 => ?_⟩
  simp only
  rw [getA_put]
  split
  · rename_i hts
    have := bb_eq hts
    subst this
    obtain ⟨b1, b2, b3⟩ := a2 h0
    obtain ⟨c1, c2, c3⟩ := call_kind q.1 q.2 (getA q.2 t bk0) l n hn b2 b3
    exact ⟨c1.trans b1, c2, c3⟩
  · exact a2 h0
mutual
theorem wt_st {f : Find} : ∀ (s : St) (q : Vs × Ks), GoodSt s → stC f s = .ok () → WT f q → WT f (doS s q)
  | .set p s x, q, hg, h, hw => by
    simp only [GoodSt] at hg
    simp only [stC, setC] at h
    obtain ⟨d, h1, h2⟩ := ck_bind h
    split at h2
    · cases h2
    · rename_i hd
      split at h2
      · cases h2
      · simp only [wantC] at h2
        obtain ⟨t, h5, h6⟩ := ck_bind h2
        have ht : t = d.ty := by
          split at h6
          · assumption
          · cases h6
        subst ht
        obtain ⟨e1, e2, e3⟩ := num_ty hw x d.ty hg.2.good h5
        simp only [doS]
        exact hw.setV (decl_ok h1) hd e2 e3
  | .call p s l n, q, hg, h, hw => by
    simp only [GoodSt] at hg
    simp only [stC, callC] at h
    obtain ⟨d, h1, h2⟩ := ck_bind h
    simp only [doS]
    exact hw.setB (decl_ok h1) l n hg.2.2
  | .cond p x th el, q, hg, h, hw => by
    simp only [GoodSt] at hg
    simp only [stC] at h
    obtain ⟨_, h1, h2⟩ := ck_bind h
    obtain ⟨_, h3, h4⟩ := ck_bind h2
    simp only [doS]
    split
    · exact wt_sts th q hg.2.1 h3 hw
    · exact wt_sts el q hg.2.2 h4 hw
theorem wt_sts {f : Find} : ∀ (l : List St) (q : Vs × Ks), GoodL l → stsC f l = .ok () → WT f q → WT f (doL l q)
  | [], q, _, _, hw => by simp only [doL]; exact hw
  | s :: l, q, hg, h, hw => by
    simp only [GoodL] at hg
    simp only [stsC] at h
    obtain ⟨_, h1, h2⟩ := ck_bind h
    simp only [doL]
    exact wt_sts l _ hg.2 h2 (wt_st s q hg.1 h1 hw)
end
/-- turned, it does the same -/
theorem turn_do {f : Find} (l : List St) (q : Vs × Ks) (hg : GoodL l) (h : stsC f l = .ok ()) (hw : WT f q) : doL (turnL l) q = doL l q :=
  turn_sts (fun s q => wt_st s q) l q hg h hw
end Go.Proofs.YtiimnnancblbkaaDoor
