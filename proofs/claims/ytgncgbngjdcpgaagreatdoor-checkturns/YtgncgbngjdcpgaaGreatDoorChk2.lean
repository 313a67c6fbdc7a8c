/-
  PLAIN: declarations stand in any order.
-/
import Derived.Test.YtgncgbngjdcpgaaGreatDoorChk
set_option linter.unusedSimpArgs false
set_option linter.unusedVariables false
namespace Go.Proofs.YtgncgbngjdcpgaaGreatDoor

def Dist (ds : List De) : Prop := ds.Pairwise fun a b => a.name.toList ≠ b.name.toList
theorem dup_none : ∀ (l : List De) (i : Nat) (seen : List De), dupC i seen l = none ↔ (∀ d ∈ l, ∀ e ∈ seen, e.name.toList ≠ d.name.toList) ∧ Dist l
  | [], i, seen => by simp [dupC, Dist]
  | d :: l, i, seen => by
    unfold dupC
    by_cases h : (seen.any fun e => e.name.toList == d.name.toList) = true
    · rw [if_pos h]
      obtain ⟨e, he, hp⟩ := List.any_eq_true.1 h
      rw [beq_iff_eq] at hp
      simp only [reduceCtorEq, false_iff, not_and]
      intro h2
      exact absurd hp (h2 d (by simp) e he)
    · rw [if_neg h, dup_none l (i + 1) (seen ++ [d])]
      have hs : ∀ e ∈ seen, e.name.toList ≠ d.name.toList := fun e he hp => h (List.any_eq_true.2 ⟨e, he, by rw [hp]; simp⟩)
      simp only [Dist, List.pairwise_cons]
      constructor
      · rintro ⟨h1, h2⟩
        refine ⟨fun x hx e he => ?_, fun x hx => h1 x hx d (by simp), h2⟩
        rcases List.mem_cons.1 hx with e1 | e1
        · rw [e1]; exact hs e he
        · exact h1 x e1 e (by simp [he])
      · rintro ⟨h1, h2, h3⟩
        refine ⟨fun x hx e he => ?_, h3⟩
        rcases List.mem_append.1 he with e1 | e1
        · exact h1 x (by simp [hx]) e e1
        · rw [List.mem_singleton] at e1; rw [e1]; exact h2 x hx
theorem find_dist {ds : List De} (h : Dist ds) {s : ByteArray} {d : De} : findC ds s = some d ↔ d ∈ ds ∧ d.name.toList = s.toList := by
  induction ds with
  | nil => simp [findC]
  | cons e l ih =>
    simp only [Dist, List.pairwise_cons] at h
    have ih := ih h.2
    unfold findC at ih ⊢
    rw [List.find?_cons]
    cases hc : (e.name.toList == s.toList) with
    | true =>
      rw [beq_iff_eq] at hc
      simp only [Option.some.injEq]
      constructor
      · intro e1; subst e1; exact ⟨by simp, hc⟩
      · rintro ⟨h1, h2⟩
        rcases List.mem_cons.1 h1 with e1 | e1
        · exact e1.symm
        · exact absurd (hc.trans h2.symm) (h.1 d e1)
    | false =>
      simp only
      rw [ih]
      have hne : e.name.toList ≠ s.toList := beq_eq_false_iff_ne.1 hc
      constructor
      · rintro ⟨h1, h2⟩; exact ⟨by simp [h1], h2⟩
      · rintro ⟨h1, h2⟩
        rcases List.mem_cons.1 h1 with e1 | e1
        · rw [e1] at h2; exact absurd h2 hne
        · exact ⟨e1, h2⟩
def More (f g : Find) : Prop := ∀ s d, f s = some d → g s = some d
theorem declC_more {f g : Find} (h : More f g) {s : ByteArray} {p : Nat} {d : De} (hd : declC f s p = .ok d) : declC g s p = .ok d := by
  unfold declC at hd ⊢
  cases hf : f s with
  | none => rw [hf] at hd; cases hd
  | some e => rw [hf] at hd; cases hd; rw [h s _ hf]
theorem ck_ok {α β : Type} {r : Ck α} {f : α → Ck β} {b : β} (h : r.bind f = .ok b) : ∃ a, r = .ok a ∧ f a = .ok b := by
  cases r with
  | bad e p => cases h
  | ok a => exact ⟨a, rfl, h⟩
theorem kindC_more {f g : Find} (h : More f g) : ∀ (x : Ex) (t : Nat), kindC f x = .ok t → kindC g x = .ok t
  | .num .., t, e => e
  | .name p s, t, e => by
    obtain ⟨d, h1, h2⟩ := ck_ok e
    show (declC g s p).bind _ = _
    rw [declC_more h h1]; exact h2
  | .field p s q, t, e => by
    obtain ⟨d, h1, h2⟩ := ck_ok e
    show (declC g s p).bind _ = _
    rw [declC_more h h1]; exact h2
  | .not p x, t, e => kindC_more h x t e
  | .bin p op x y, t, e => by
    obtain ⟨a, h1, h2⟩ := ck_ok e
    obtain ⟨b, h3, h4⟩ := ck_ok h2
    show (kindC g x).bind _ = _
    rw [kindC_more h x a h1]
    show (kindC g y).bind _ = _
    rw [kindC_more h y b h3]
    exact h4
theorem wantC_more {f g : Find} (h : More f g) {x : Ex} {ty : Nat} (e : wantC f x ty = .ok ()) : wantC g x ty = .ok () := by
  obtain ⟨t, h1, h2⟩ := ck_ok e
  show (kindC g x).bind _ = _
  rw [kindC_more h x t h1]; exact h2
theorem argsC_more {f g : Find} (h : More f g) : ∀ (l : List Ex), argsC f l = .ok () → argsC g l = .ok ()
  | [], _ => rfl
  | x :: l, e => by
    obtain ⟨u, h1, h2⟩ := ck_ok e
    show (wantC g x 1).bind _ = _
    rw [wantC_more h h1]
    exact argsC_more h l h2
mutual
theorem stC_more {f g : Find} (h : More f g) : ∀ (s : St), stC f s = .ok () → stC g s = .ok ()
  | .set p n x, e => by
    simp only [stC, setC] at e ⊢
    obtain ⟨d, h1, h2⟩ := ck_ok e
    rw [declC_more h h1]
    simp only [Ck.bind]
    split at h2
    · cases h2
    · rename_i hw
      rw [if_neg hw]
      split at h2
      · cases h2
      · rename_i hy
        rw [if_neg hy]
        exact wantC_more h h2
  | .call p n l k, e => by
    simp only [stC, callC] at e ⊢
    obtain ⟨d, h1, h2⟩ := ck_ok e
    rw [declC_more h h1]
    simp only [Ck.bind]
    split at h2
    · cases h2
    · rename_i hw
      rw [if_neg hw]
      split at h2
      · cases h2
      · rename_i hy
        rw [if_neg hy]
        exact argsC_more h l h2
  | .cond p x th el, e => by
    simp only [stC] at e ⊢
    obtain ⟨u, h1, h2⟩ := ck_ok e
    obtain ⟨u2, h3, h4⟩ := ck_ok h2
    rw [wantC_more h h1]
    simp only [Ck.bind]
    rw [stsC_more h th h3]
    exact stsC_more h el h4
theorem stsC_more {f g : Find} (h : More f g) : ∀ (l : List St), stsC f l = .ok () → stsC g l = .ok ()
  | [], _ => by simp only [stsC]
  | s :: l, e => by
    simp only [stsC] at e ⊢
    obtain ⟨u, h1, h2⟩ := ck_ok e
    rw [stC_more h s h1]
    exact stsC_more h l h2
end
theorem check_ok {ds : List De} {b : List St} : checkC (ds, b) = .ok () ↔ Dist ds ∧ stsC (findC ds) b = .ok () := by
  unfold checkC
  cases hd : dupC 0 [] ds with
  | some i =>
    simp only [reduceCtorEq, false_iff, not_and]
    intro h
    have := (dup_none ds 0 []).2 ⟨by simp, h⟩
    rw [hd] at this; cases this
  | none =>
    have := ((dup_none ds 0 []).1 hd).2
    simp [this]
theorem check_more {ds ds' : List De} {b : List St} (h : checkC (ds, b) = .ok ()) (hd : Dist ds') (hs : ∀ d ∈ ds, d ∈ ds') : checkC (ds', b) = .ok () := by
  obtain ⟨h1, h2⟩ := check_ok.1 h
  refine check_ok.2 ⟨hd, stsC_more (fun s d hf => ?_) b h2⟩
  obtain ⟨m, e⟩ := (find_dist h1).1 hf
  exact (find_dist hd).2 ⟨hs d m, e⟩
def turnD (ds : List De) (k : Nat) : List De := ds.drop k ++ ds.take k
theorem mem_turn {ds : List De} {k : Nat} {d : De} : d ∈ turnD ds k ↔ d ∈ ds := by
  unfold turnD
  rw [List.mem_append]
  constructor
  · rintro (h | h)
    · exact List.mem_of_mem_drop h
    · exact List.mem_of_mem_take h
  · intro h
    rw [← List.take_append_drop k ds, List.mem_append] at h
    exact h.symm
theorem dist_turn {ds : List De} (h : Dist ds) (k : Nat) : Dist (turnD ds k) := by
  unfold Dist turnD at *
  rw [← List.take_append_drop k ds, List.pairwise_append] at h
  rw [List.pairwise_append]
  exact ⟨h.2.1, h.1, fun a ha b hb e => h.2.2 b hb a ha e.symm⟩
theorem check_turn {ds : List De} {b : List St} (h : checkC (ds, b) = .ok ()) (k : Nat) : checkC (turnD ds k, b) = .ok () :=
  check_more h (dist_turn (check_ok.1 h).1 k) fun d hd => mem_turn.2 hd
theorem dup_app : ∀ (l : List De) (i : Nat) (seen : List De) (d : De), dupC i seen l = none → dupC i seen (l ++ [d]) = if ((seen ++ l).any fun e => e.name.toList == d.name.toList) then some (i + l.length) else none
  | [], i, seen, d, _ => by simp [dupC]
  | e :: l, i, seen, d, h => by
    unfold dupC at h
    split at h
    · cases h
    · rename_i hc
      rw [List.cons_append, dupC, if_neg hc, dup_app l (i + 1) (seen ++ [e]) d h]
      simp only [List.append_assoc, List.cons_append, List.nil_append, List.length_cons]
      rw [show i + 1 + l.length = i + (l.length + 1) by omega]
theorem check_twice {ds : List De} {b : List St} (h : checkC (ds, b) = .ok ()) {d : De} (hd : d ∈ ds) (k : Nat) : checkC (turnD ds k ++ [d], b) = .bad 9 ds.length := by
  have hn := (dup_none (turnD ds k) 0 []).2 ⟨by simp, dist_turn (check_ok.1 h).1 k⟩
  have e := dup_app (turnD ds k) 0 [] d hn
  rw [if_pos (List.any_eq_true.2 ⟨d, by simpa using mem_turn.2 hd, by simp⟩)] at e
  have hl : (turnD ds k).length = ds.length := by
    unfold turnD
    rw [List.length_append, List.length_drop, List.length_take]; omega
  unfold checkC
  simp only [e, hl, Nat.zero_add]
theorem check_added {ds : List De} {b : List St} (h : checkC (ds, b) = .ok ()) {d : De} (hd : ∀ e ∈ ds, e.name.toList ≠ d.name.toList) (k : Nat) : checkC (turnD ds k ++ [d], b) = .ok () := by
  refine check_more h ?_ fun e he => by simp [mem_turn.2 he]
  unfold Dist
  rw [List.pairwise_append]
  refine ⟨dist_turn (check_ok.1 h).1 k, by simp, fun a ha c hc => ?_⟩
  rw [List.mem_singleton] at hc
  rw [hc]
  exact hd a (mem_turn.1 ha)
/-- of twenty-six names one is free -/
theorem pigeon : ∀ (cs : List UInt8) (ns : List (List UInt8)), cs.Nodup → (∀ c ∈ cs, [122, c] ∈ ns) → cs.length ≤ ns.length
  | [], _, _, _ => Nat.zero_le _
  | c :: cs, ns, hn, h => by
    rw [List.nodup_cons] at hn
    have h1 := h c (by simp)
    have ih := pigeon cs (ns.erase [122, c]) hn.2 fun d hd => (List.mem_erase_of_ne (fun e => by
      simp only [List.cons.injEq, and_true, true_and] at e
      rw [e] at hd; exact hn.1 hd)).2 (h d (by simp [hd]))
    rw [List.length_erase_of_mem h1] at ih
    have := List.length_pos_of_mem h1
    simp only [List.length_cons]; omega
def az : List UInt8 := [97, 98, 99, 100, 101, 102, 103, 104, 105, 106, 107, 108, 109, 110, 111, 112, 113, 114, 115, 116, 117, 118, 119, 120, 121, 122]
theorem free_name (ds : List De) (h : ds.length ≤ 20) : ¬ ∀ c ∈ az, ∃ d ∈ ds, d.name.toList = [122, c] := by
  intro hc
  have := pigeon az (ds.map fun d => d.name.toList) (by decide) fun c hcm => by
    obtain ⟨d, hd, e⟩ := hc c hcm
    exact List.mem_map.2 ⟨d, hd, e⟩
  rw [List.length_map] at this
  have e : az.length = 26 := rfl
  omega
end Go.Proofs.YtgncgbngjdcpgaaGreatDoor
