/-
  PLAIN: at first, plants tell the same of every name, whatever the order of their declarations; names are of their types.
-/
import Derived.Test.YtiimnnancblbkaaDoorScU
set_option linter.unusedSimpArgs false
set_option linter.unusedVariables false
namespace Go.Proofs.YtiimnnancblbkaaDoor

theorem apart_pair : ∀ l : List De, Apart l ↔ l.Pairwise fun a b => (b.name == a.name) = false
  | [] => by simp [Apart]
  | d :: l => by simp only [Apart, List.pairwise_cons, apart_pair l]
theorem turnD_perm (ds : List De) : (turnD ds).Perm ds := by
  unfold turnD
  exact ((List.reverse_perm _).append_right _).trans (List.filter_append_perm (fun d => d.way == 3) ds)
theorem apart_turn {ds : List De} (h : Apart ds) : Apart (turnD ds) := by
  rw [apart_pair] at *
  exact ((turnD_perm ds).pairwise_iff fun {a b} hab => bb_ne hab).2 h
/-- the one that is called so -/
theorem find_one {l : List De} (ha : Apart l) {d : De} (hd : d ∈ l) : findC l d.name = some d := by
  induction l with
  | nil => cases hd
  | cons e l ih =>
    simp only [Apart] at ha
    unfold findC
    rw [List.find?_cons]
    rcases List.mem_cons.1 hd with rfl | hm
    · simp
    · have : (e.name.toList == d.name.toList) = false := by rw [name_eq]; exact ha.1 d hm
      rw [this]
      exact ih ha.2 hm
theorem find_mem {l : List De} {s : ByteArray} {d : De} (h : findC l s = some d) : d ∈ l ∧ d.name = s := by
  unfold findC at h
  have h1 := List.mem_of_find?_eq_some h
  have h2 := List.find?_some h
  simp only [name_eq] at h2
  exact ⟨h1, (bb_eq h2).symm⟩
theorem find_turn {ds : List De} (h : Apart ds) (s : ByteArray) : findC (turnD ds) s = findC ds s := by
  cases h1 : findC ds s with
  | some d =>
    obtain ⟨hm, rfl⟩ := find_mem h1
    exact find_one (apart_turn h) ((turnD_perm ds).mem_iff.2 hm)
  | none =>
    cases h2 : findC (turnD ds) s with
    | none => rfl
    | some d =>
      obtain ⟨hm, rfl⟩ := find_mem h2
      rw [find_one h ((turnD_perm ds).mem_iff.1 hm)] at h1
      cases h1
/-- what a name is at first -/
def firstV (o : Option De) (z : Ty) : Ty := match o with | some d => if widthN d.ty = 0 then z else (d.ty, if d.way = 1 then 0 else d.init) | none => z
def firstB (o : Option De) (z : Bk) : Bk := match o with | some d => if widthN d.ty = 0 then ⟨d.ty, 0, false, false⟩ else z | none => z
theorem new_vals : ∀ (l : List De) (q : Vs × Ks) (s : ByteArray), (∀ d ∈ l, (s == d.name) = false) → getA (newS l q).1 s ty0 = getA q.1 s ty0
  | [], q, s, _ => rfl
  | d :: l, q, s, h => by
    rw [newS, new_vals l _ s fun e he => h e (by simp [he])]
    unfold declS
    have hd := h d (by simp)
    split
    · rfl
    · split <;> (rw [getA_put, hd]; rfl)
theorem new_first : ∀ (l : List De) (q : Vs × Ks) (s : ByteArray), Apart l → getA (newS l q).1 s ty0 = firstV (findC l s) (getA q.1 s ty0) ∧ getA (newS l q).2 s bk0 = firstB (findC l s) (getA q.2 s bk0)
  | [], q, s, _ => ⟨rfl, rfl⟩
  | d :: l, q, s, ha => by
    simp only [Apart] at ha
    have hf : findC (d :: l) s = if (d.name.toList == s.toList) = true then some d else findC l s := by
      unfold findC
      rw [List.find?_cons]
      split <;> simp_all
    rw [newS, hf]
    cases hc : (d.name.toList == s.toList) with
    | true =>
      rw [if_pos rfl]
      rw [name_eq] at hc
      have hs := bb_eq hc
      subst hs
      rw [new_vals l _ _ fun x hx => bb_ne (ha.1 x hx), new_get l _ _ fun x hx => bb_ne (ha.1 x hx)]
      unfold declS firstV firstB
      by_cases h0 : widthN d.ty = 0
      · simp only [h0, if_true]
        rw [getA_put, bb_refl]
        exact ⟨trivial, rfl⟩
      · simp only [h0, if_false]
        split
        · rw [getA_put, bb_refl]; exact ⟨rfl, rfl⟩
        · rw [getA_put, bb_refl]; exact ⟨rfl, rfl⟩
    | false =>
      rw [if_neg (by simp)]
      have hn : (s == d.name) = false := by rw [← name_eq]; exact hc
      obtain ⟨h1, h2⟩ := new_first l (declS d q) s ha.2
      rw [h1, h2]
      unfold declS
      split
      · rw [getA_put, hn]; exact ⟨rfl, rfl⟩
      · split
        · rw [getA_put, hn]; exact ⟨rfl, rfl⟩
        · rw [getA_put, hn]; exact ⟨rfl, rfl⟩
theorem new_same {ds : List De} (h : Apart ds) : Same (newS ds ([], [])) (newS (turnD ds) ([], [])) :=
  ⟨fun s => by rw [(new_first ds _ s h).1, (new_first (turnD ds) _ s (apart_turn h)).1, find_turn h], fun s => by rw [(new_first ds _ s h).2, (new_first (turnD ds) _ s (apart_turn h)).2, find_turn h]⟩
theorem new_wt {ds : List De} (h : Apart ds) (hg : ∀ d ∈ ds, GoodD d) : WT (findC ds) (newS ds ([], [])) := fun s d hf => by
  obtain ⟨e1, e2⟩ := new_first ds ([], []) s h
  rw [hf] at e1 e2
  have hgd := hg d (find_mem hf).1
  refine ⟨fun hn => ?_, fun h0 => ?_⟩
  · rw [e1]
    unfold firstV
    simp only [if_neg hn]
    rcases hgd.form with ⟨a1, a2, _⟩ | ⟨_, _, a3, a4, a5, a6, a7⟩
    · exfalso; apply hn; unfold widthN; rw [if_neg (by omega), if_neg (by omega)]
    · refine ⟨trivial, by split <;> omega, ?_⟩
      rcases (show d.ty = 1 ∨ d.ty = 2 by omega) with e | e
      · have := a6 e
        rw [e]; show _ < (2 : Int); split <;> omega
      · rw [e]; show _ < (256 : Int); split <;> omega
  · rw [e2]
    unfold firstB
    simp only [if_pos h0]
    exact ⟨trivial, Int.le_refl 0, by show (0 : Int) ≤ 255; decide⟩

theorem take_wt {f : Find} {ks : Ks} : ∀ (l : List De) (g : List Int) (vs : Vs), (∀ d ∈ l, d.way = 1 → f d.name = some d ∧ widthN d.ty ≠ 0) → WT f (vs, ks) → WT f (takeS l g vs, ks)
  | [], _, _, _, h => h
  | d :: l, g, vs, hl, h => by
    simp only [takeS]
    split
    · rename_i hw
      obtain ⟨h1, h2⟩ := hl d (by simp) hw
      exact take_wt l _ _ (fun e he => hl e (by simp [he])) (h.setV h1 h2 (cutI_bd d.ty _).1 (cutI_bd d.ty _).2.1)
    · exact take_wt l g vs (fun e he => hl e (by simp [he])) h
theorem good_in {ds : List De} (h : Apart ds) (hg : ∀ d ∈ ds, GoodD d) : ∀ d ∈ ds, d.way = 1 → findC ds d.name = some d ∧ widthN d.ty ≠ 0 := fun d hd hw => by
  refine ⟨find_one h hd, ?_⟩
  rcases (hg d hd).form with ⟨a1, a2, a3, _⟩ | ⟨_, _, a3, a4, _⟩
  · omega
  · unfold widthN
    by_cases h1 : d.ty = 1
    · rw [if_pos h1]; decide
    · rw [if_neg h1, if_pos (by omega)]; decide
theorem apart_dup : ∀ (l : List De) (i : Nat) (seen : List De), (∀ d ∈ l, ∀ e ∈ seen, (d.name == e.name) = false) → Apart l → dupC i seen l = none
  | [], _, _, _, _ => rfl
  | d :: l, i, seen, h, ha => by
    simp only [Apart] at ha
    simp only [dupC]
    rw [if_neg]
    · refine apart_dup l (i + 1) (seen ++ [d]) (fun x hx e he => ?_) ha.2
      rcases List.mem_append.1 he with he | he
      · exact h x (by simp [hx]) e he
      · rw [List.mem_singleton.1 he]; exact ha.1 x hx
    · intro hany
      obtain ⟨e, he, hq⟩ := List.any_eq_true.1 hany
      rw [name_eq] at hq
      rw [h d (by simp) e he] at hq
      cases hq
mutual
theorem turn_stC {f : Find} : ∀ s : St, stC f s = .ok () → stC f (turnS s) = .ok ()
  | .set .., h => by simp only [turnS]; exact h
  | .call .., h => by simp only [turnS]; exact h
  | .cond p x th el, h => by
    simp only [stC, wantC] at h
    obtain ⟨_, h1, h2⟩ := ck_bind h
    obtain ⟨_, h3, h4⟩ := ck_bind h2
    obtain ⟨t, h5, h6⟩ := ck_bind h1
    have ht : t = 1 := by
      split at h6
      · assumption
      · cases h6
    subst ht
    simp only [turnS, stC, wantC, kindC, h5, Ck.bind, turn_stsC el h4, turn_stsC th h3, if_true]
theorem turn_stsC {f : Find} : ∀ l : List St, stsC f l = .ok () → stsC f (turnL l) = .ok ()
  | [], h => by simp only [turnL]; exact h
  | s :: l, h => by
    simp only [stsC] at h
    obtain ⟨_, h1, h2⟩ := ck_bind h
    simp only [turnL, stsC, turn_stC s h1, turn_stsC l h2, Ck.bind]
end
/-- turned, it is right too -/
theorem check_turn {ds : List De} {l : List St} (h : checkC (ds, l) = .ok ()) : Apart ds ∧ stsC (findC ds) l = .ok () ∧ checkC (turnD ds, turnL l) = .ok () := by
  unfold checkC at h
  simp only at h
  cases hd : dupC 0 [] ds with
  | some i => rw [hd] at h; cases h
  | none =>
    rw [hd] at h
    have ha := (dup_apart ds 0 [] hd).2
    refine ⟨ha, h, ?_⟩
    unfold checkC
    simp only
    rw [apart_dup (turnD ds) 0 [] (fun _ _ e he => absurd he (by simp)) (apart_turn ha)]
    have hf : findC (turnD ds) = findC ds := funext (find_turn ha)
    rw [hf]
    exact turn_stsC l h
end Go.Proofs.YtiimnnancblbkaaDoor
