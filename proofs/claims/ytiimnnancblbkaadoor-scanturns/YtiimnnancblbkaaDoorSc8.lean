/-
  PLAIN: where something stands in a text changes nothing of what it does; what is found right fits; what is not given is 0. CONTRACT of slices.Equal.
-/
import Derived.Test.YtiimnnancblbkaaDoorSc7
import Derived.Test.YtiimnnancblbkaaDoorJRound
set_option linter.unusedSimpArgs false
set_option linter.unusedVariables false
namespace Go.Proofs.YtiimnnancblbkaaDoor
open Go.RowKit

/-! what does not hang on places -/
theorem num_er (vs : Vs) (ks : Ks) : ∀ x : Ex, numS vs ks (er x) = numS vs ks x
  | .num .. => rfl
  | .name .. => rfl
  | .field .. => rfl
  | .not _ x => by simp only [er, numS, num_er vs ks x]
  | .bin _ op x y => by simp only [er, numS, num_er vs ks x, num_er vs ks y]
theorem holds_er (vs : Vs) (ks : Ks) (x : Ex) : holdsS vs ks (er x) = holdsS vs ks x := by simp only [holdsS, num_er]
theorem call_er (vs : Vs) (ks : Ks) (b : Bk) (l : List Ex) (n : Nat) : callS vs ks b (l.map er) n = callS vs ks b l n := by
  match l with
  | [] => rfl
  | [x] => simp only [List.map, callS, holds_er]
  | x :: y :: r => simp only [List.map, callS, holds_er]
mutual
theorem doS_er : ∀ (s : St) (q : Vs × Ks), doS (erS s) q = doS s q
  | .set _ s x, q => by simp only [erS, doS, num_er]
  | .call _ s l n, q => by simp only [erS, doS, call_er]
  | .cond _ x th el, q => by simp only [erS, doS, holds_er, doL_er th q, doL_er el q]
theorem doL_er : ∀ (l : List St) (q : Vs × Ks), doL (erL l) q = doL l q
  | [], q => by simp only [erL]
  | s :: l, q => by simp only [erL, doL, doS_er s q, doL_er l (doS s q)]
end
def Ck.good {α : Type} : Ck α → Option α
  | .ok a => some a
  | .bad _ _ => none
theorem good_bind {α β : Type} (r r' : Ck α) (f f' : α → Ck β) (h : r.good = r'.good) (hf : ∀ a, (f a).good = (f' a).good) : (r.bind f).good = (r'.bind f').good := by
  cases r <;> cases r' <;> simp [Ck.good, Ck.bind] at *
  subst h
  exact hf _
theorem decl_good (f : Find) (s : ByteArray) (p q : Nat) : (declC f s p).good = (declC f s q).good := by unfold declC; cases f s <;> rfl
theorem ite_good {α : Type} (c : Prop) [Decidable c] (x y x' y' : Ck α) (h1 : x.good = x'.good) (h2 : y.good = y'.good) : (if c then x else y).good = (if c then x' else y').good := by split <;> assumption
theorem kind_er (f : Find) : ∀ x : Ex, (kindC f (er x)).good = (kindC f x).good
  | .num .. => rfl
  | .name p s => good_bind _ _ _ _ (decl_good f s _ _) fun d => ite_good _ _ _ _ _ rfl rfl
  | .field p s g => good_bind _ _ _ _ (decl_good f s _ _) fun d => ite_good _ _ _ _ _ rfl rfl
  | .not _ x => by simp only [er, kindC]; exact kind_er f x
  | .bin _ op x y => by
    simp only [er, kindC]
    exact good_bind _ _ _ _ (kind_er f x) fun a => good_bind _ _ _ _ (kind_er f y) fun b => ite_good _ _ _ _ _ rfl rfl
theorem want_er (f : Find) (x : Ex) (ty : Nat) : (wantC f (er x) ty).good = (wantC f x ty).good := good_bind _ _ _ _ (kind_er f x) fun t => ite_good _ _ _ _ _ rfl rfl
theorem args_er (f : Find) : ∀ l : List Ex, (argsC f (l.map er)).good = (argsC f l).good
  | [] => rfl
  | x :: l => by simp only [List.map, argsC]; exact good_bind _ _ _ _ (want_er f x 1) fun _ => args_er f l
mutual
theorem stC_er (f : Find) : ∀ s : St, (stC f (erS s)).good = (stC f s).good
  | .set p s x => by
    simp only [erS, stC, setC]
    exact good_bind _ _ _ _ (decl_good f s _ _) fun d => ite_good _ _ _ _ _ rfl (ite_good _ _ _ _ _ rfl (want_er f x d.ty))
  | .call p s l n => by
    simp only [erS, stC, callC, List.length_map]
    exact good_bind _ _ _ _ (decl_good f s _ _) fun d => ite_good _ _ _ _ _ rfl (ite_good _ _ _ _ _ rfl (args_er f l))
  | .cond _ x th el => by
    simp only [erS, stC]
    exact good_bind _ _ _ _ (want_er f x 1) fun _ => good_bind _ _ _ _ (stsC_er f th) fun _ => stsC_er f el
theorem stsC_er (f : Find) : ∀ l : List St, (stsC f (erL l)).good = (stsC f l).good
  | [] => by simp only [erL]
  | s :: l => by
    simp only [erL, stsC]
    exact good_bind _ _ _ _ (stC_er f s) fun _ => stsC_er f l
end
theorem good_ok {r : Ck Unit} : r = .ok () ↔ r.good = some () := by cases r <;> simp [Ck.good]
/-- written elsewhere, it is right too, and does the same -/
theorem check_er {ds : List De} {a b : List St} (h : erL a = erL b) (hc : checkC (ds, a) = .ok ()) : checkC (ds, b) = .ok () := by
  unfold checkC at *
  simp only at *
  cases hd : dupC 0 [] ds with
  | some i => rw [hd] at hc; cases hc
  | none =>
    rw [hd] at hc
    simp only at hc ⊢
    rw [good_ok] at *
    rw [← stsC_er, ← h, stsC_er]
    exact hc
theorem do_er {a b : List St} (h : erL a = erL b) (q : Vs × Ks) : doL a q = doL b q := by rw [← doL_er a, h, doL_er]

/-! what is found right fits -/
def kindK (ds : List De) (s : ByteArray) : Nat := (getA (newS ds ([], [])).2 s bk0).kind
theorem ck_bind {α β : Type} {r : Ck α} {f : α → Ck β} {b : β} (h : r.bind f = .ok b) : ∃ a, r = .ok a ∧ f a = .ok b := by
  cases r with
  | bad e p => cases h
  | ok a => exact ⟨a, rfl, h⟩
theorem name_eq {a b : ByteArray} : (a.toList == b.toList) = (b == a) := by
  rw [beq_toListBytes, Bool.eq_iff_iff, beq_iff_eq, beq_iff_eq]; exact eq_comm
/-- names that are all unlike -/
def Apart : List De → Prop
  | [] => True
  | d :: l => (∀ e ∈ l, (e.name == d.name) = false) ∧ Apart l
theorem bb_ne {a b : ByteArray} (h : (a == b) = false) : (b == a) = false := by
  cases h2 : (b == a) with
  | false => rfl
  | true => have := bb_eq h2; subst this; rw [bb_refl] at h; cases h
theorem dup_apart : ∀ (l : List De) (i : Nat) (seen : List De), dupC i seen l = none → (∀ d ∈ l, ∀ e ∈ seen, (d.name == e.name) = false) ∧ Apart l
  | [], _, _, _ => ⟨fun d hd => absurd hd (by simp), trivial⟩
  | d :: l, i, seen, h => by
    simp only [dupC] at h
    split at h
    · cases h
    · rename_i hn
      obtain ⟨h1, h2⟩ := dup_apart l (i + 1) (seen ++ [d]) h
      have hd : ∀ e ∈ seen, (d.name == e.name) = false := fun e he => by
        cases hc : (d.name == e.name) with
        | false => rfl
        | true =>
          exact absurd (List.any_eq_true.2 ⟨e, he, by rw [name_eq]; exact hc⟩) hn
      refine ⟨fun x hx e he => ?_, fun e he => ?_, h2⟩
      · rcases List.mem_cons.1 hx with rfl | hx
        · exact hd e he
        · exact h1 x hx e (by simp [he])
      · exact h1 e he d (by simp)
theorem new_get : ∀ (l : List De) (q : Vs × Ks) (s : ByteArray), (∀ d ∈ l, (s == d.name) = false) → getA (newS l q).2 s bk0 = getA q.2 s bk0
  | [], q, s, _ => rfl
  | d :: l, q, s, h => by
    rw [newS, new_get l _ s fun e he => h e (by simp [he])]
    unfold declS
    have hd := h d (by simp)
    split
    · rw [getA_put, hd]; rfl
    · split <;> rfl
theorem new_kind : ∀ (l : List De) (q : Vs × Ks) (s : ByteArray) (d : De), Apart l → (l.find? fun d => d.name.toList == s.toList) = some d → widthN d.ty = 0 → (getA (newS l q).2 s bk0).kind = d.ty
  | [], _, _, _, _, h, _ => by simp at h
  | e :: l, q, s, d, ha, h, hw => by
    simp only [Apart] at ha
    rw [List.find?_cons] at h
    rw [newS]
    cases hc : (e.name.toList == s.toList) with
    | true =>
      rw [hc] at h
      simp only [Option.some.injEq] at h
      subst h
      rw [name_eq] at hc
      have hs := bb_eq hc
      subst hs
      rw [new_get l _ _ fun x hx => bb_ne (ha.1 x hx)]
      unfold declS
      rw [if_pos hw, getA_put, bb_refl]
      rfl
    | false =>
      rw [hc] at h
      exact new_kind l _ s d ha.2 h hw
theorem new_bounds : ∀ (l : List De) (q : Vs × Ks), (∀ s, 0 ≤ (getA q.2 s bk0).n ∧ (getA q.2 s bk0).n ≤ 255) → ∀ s, 0 ≤ (getA (newS l q).2 s bk0).n ∧ (getA (newS l q).2 s bk0).n ≤ 255
  | [], _, h, s => h s
  | d :: l, q, h, s => by
    rw [newS]
    refine new_bounds l _ (fun t => ?_) s
    unfold declS
    split
    · rw [getA_put]
      split
      · exact ⟨Int.le_refl 0, by show (0 : Int) ≤ 255; decide⟩
      · exact h t
    · split <;> exact h t
theorem kok_new (ds : List De) : KOK (kindK ds) (newS ds ([], [])).2 := fun s =>
  ⟨rfl, new_bounds ds ([], []) (fun t => ⟨by simp [getA, bk0], by simp [getA, bk0]⟩) s⟩
theorem argsN_blk {ty : Nat} (h : (argsN ty).1 ≠ 0) : widthN ty = 0 ∧ (argsN ty).1 = if ty = 4 then 2 else 1 := by
  unfold argsN at h ⊢
  unfold widthN
  by_cases h3 : ty = 3
  · subst h3; simp
  · by_cases h4 : ty = 4
    · subst h4; simp
    · by_cases h5 : ty = 5
      · subst h5; simp
      · simp [h3, h4, h5] at h
mutual
theorem fit_st {ds : List De} (ha : Apart ds) : ∀ s : St, GoodSt s → QmS s → stC (findC ds) s = .ok () → FitS (kindK ds) s
  | .set .., _, _, _ => by simp only [FitS]
  | .call p s l n, hg, hq, h => by
    simp only [GoodSt] at hg
    simp only [QmS] at hq
    simp only [stC, callC] at h
    obtain ⟨d, h1, h2⟩ := ck_bind h
    have hf : findC ds s = some d := by unfold declC at h1; cases hx : findC ds s with
      | none => rw [hx] at h1; cases h1
      | some e => rw [hx] at h1; cases h1; rfl
    split at h2
    · cases h2
    · rename_i hn
      split at h2
      · cases h2
      · rename_i hm
        obtain ⟨e1, e2⟩ := argsN_blk hn
        have hk : kindK ds s = d.ty := new_kind ds _ s d ha hf e1
        have hll : l.length = (argsN d.ty).1 := by
          rcases Nat.decEq l.length (argsN d.ty).1 with h' | h'
          · exact absurd (Or.inl h') hm
          · exact h'
        simp only [FitS]
        refine ⟨fun e => ?_, fun h4 => ?_, hq, hg.2.2⟩
        · subst e; simp at hll; omega
        · rw [hll, e2, if_pos (hk.symm.trans h4)]; exact Nat.le_refl _
  | .cond _ x th el, hg, hq, h => by
    simp only [GoodSt] at hg
    simp only [QmS] at hq
    simp only [stC] at h
    obtain ⟨_, _, h2⟩ := ck_bind h
    obtain ⟨_, h3, h4⟩ := ck_bind h2
    simp only [FitS]
    exact ⟨fit_sts ha th hg.2.1 hq.1 h3, fit_sts ha el hg.2.2 hq.2.1 h4⟩
theorem fit_sts {ds : List De} (ha : Apart ds) : ∀ l : List St, GoodL l → QmL l → stsC (findC ds) l = .ok () → FitL (kindK ds) l
  | [], _, _, _ => by simp only [FitL]
  | s :: l, hg, hq, h => by
    simp only [GoodL] at hg
    simp only [QmL] at hq
    simp only [stsC] at h
    obtain ⟨_, h1, h2⟩ := ck_bind h
    simp only [FitL]
    exact ⟨fit_st ha s hg.1 hq.1 h1, fit_sts ha l hg.2 hq.2 h2⟩
end
theorem fit_check {ds : List De} {l : List St} (hg : GoodL l) (hq : QmL l) (h : checkC (ds, l) = .ok ()) : FitL (kindK ds) l := by
  unfold checkC at h
  simp only at h
  cases hd : dupC 0 [] ds with
  | some i => rw [hd] at h; cases h
  | none =>
    rw [hd] at h
    exact fit_sts (dup_apart ds 0 [] hd).2 l hg hq h

/-! what is not given is 0 -/
theorem head_get (g : List Int) : g.headD 0 = g.getD 0 0 := by cases g <;> rfl
theorem tail_get (g : List Int) (i : Nat) : g.tail.getD i 0 = g.getD (i + 1) 0 := by cases g <;> rfl
theorem take_same : ∀ (l : List De) (g h : List Int) (vs : Vs), (∀ i, g.getD i 0 = h.getD i 0) → takeS l g vs = takeS l h vs
  | [], _, _, _, _ => rfl
  | d :: l, g, h, vs, e => by
    have e0 : g.headD 0 = h.headD 0 := by rw [head_get, head_get]; exact e 0
    have e1 : ∀ i, g.tail.getD i 0 = h.tail.getD i 0 := fun i => by rw [tail_get, tail_get]; exact e (i + 1)
    simp only [takeS, e0]
    split
    · exact take_same l _ _ _ e1
    · exact take_same l _ _ _ e
theorem take_zeros (l : List De) (g : List Int) (k : Nat) (vs : Vs) : takeS l (g ++ List.replicate k 0) vs = takeS l g vs := by
  refine take_same l _ _ vs fun i => ?_
  by_cases hi : i < g.length
  · simp [List.getD, List.getElem?_append_left hi]
  · rw [List.getD_eq_getElem?_getD, List.getD_eq_getElem?_getD, List.getElem?_append_right (by omega), List.getElem?_eq_none (by omega : g.length ≤ i), List.getElem?_replicate]
    split <;> rfl

set_option maxRecDepth 100000 in
set_option maxHeartbeats 3200000 in
theorem eqI_at (l : List Int) (S T : Nat → Prop) (w : World) (a b : Option Addr) (ca cb : Nat) (ha : Lies S w a (intsC l)) (hb : Lies T w b (intsC l)) (hl : l.length ≤ 100000) :
    Calls Tryd.prog 8 #[.slice a l.length ca, .slice b l.length cb] w fun e w' => e = .returned (.bool true) ∧ Below w.heap.size w w' := by
  have HA := hide ha
  have HB := hide hb
  have hnn : (((l.length : Int)) != (l.length : Int)) = false := by simp
  clear ha hb
  go_enter Tryd.func8, Tryd.ntmps8
  go_wp2_with fail
  go_loopw [5, 13] (fun _ i wr => ∃ j : Nat, j ≤ l.length ∧ i = .int .i64 j ∧ Hid (∃ n, wr = w.drewN n)) (fun _ i _ => l.length - (intOf i).toNat)
  case atStart => exact ⟨0, Nat.zero_le _, rfl, hide ⟨0, rfl⟩⟩
  case round =>
    obtain ⟨j, hj, rfl, hw⟩ := hrel
    obtain ⟨n, rfl⟩ := hw.out
    clear hw
    by_cases hlt : j < l.length
    · have hji : (j : Int) < (l.length : Int) := by omega
      obtain ⟨ba, oa, hao, _, _, h1⟩ := HA.out.ints hlt
      obtain ⟨bb, ob, hbo, _, _, h2⟩ := HB.out.ints hlt
      subst hao hbo
      generalize outAt l j = y at *
      have hyy : (y != y) = false := by simp
      go_wp2_with fail
      go_quiet (fail)
      go_wp2_with fail
      exact ⟨⟨j + 1, by omega, by go_num, hide ⟨_, rfl⟩⟩, by simp [intOf]; omega⟩
    · have hji : ¬ (j : Int) < (l.length : Int) := by omega
      go_wp2_with fail
      go_ret
      exact ⟨rfl, rfl, rfl, rfl, Nat.le_refl _, fun _ _ => rfl⟩
end Go.Proofs.YtiimnnancblbkaaDoor
