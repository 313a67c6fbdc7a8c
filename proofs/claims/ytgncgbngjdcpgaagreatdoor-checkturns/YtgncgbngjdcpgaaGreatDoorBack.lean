/-
  PLAIN: what is written is read back: expressions.
-/
import Derived.Test.YtgncgbngjdcpgaaGreatDoorPrt
set_option linter.unusedSimpArgs false
set_option linter.unusedVariables false
namespace Go.Proofs.YtgncgbngjdcpgaaGreatDoor

/-- an expression without its places -/
def er : Ex → Ex
  | .num _ n ty => .num 0 n ty
  | .name _ s => .name 0 s
  | .field _ s g => .field 0 s g
  | .not _ x => .not 0 (er x)
  | .bin _ op x y => .bin 0 op (er x) (er y)
theorem textP_er : ∀ (x : Ex) (n : Nat), textP (er x) n = textP x n
  | .num .., _ => rfl
  | .name .., _ => rfl
  | .field .., _ => rfl
  | .not _ x, _ => by simp only [er, textP, textP_er x]
  | .bin _ op x y, _ => by simp only [er, textP, textP_er x, textP_er y]

/-- the tokens alone -/
def exK : Ex → Nat → List Pc
  | .num _ n ty, _ => [valQ ty n]
  | .name _ s, _ => [wd s.data.toList]
  | .field _ s g, _ => [wd s.data.toList, mk [46], wd g.data.toList]
  | .not _ x, _ => [wd [110, 111, 116]] ++ exK x 6
  | .bin _ op x y, least => (if levelN op.toList < least then [mk [40]] else []) ++ exK x (levelN op.toList) ++ ([opQ op]) ++ exK y (levelN op.toList + 1) ++ (if levelN op.toList < least then [mk [41]] else [])
theorem opQ_kind (op : ByteArray) : (opQ op).1 ≠ 0 := by unfold opQ; dsimp only; split <;> decide
theorem valQ_kind (ty n : Nat) : (valQ ty n).1 ≠ 0 := by unfold valQ; split <;> simp
theorem sig_one (q : Pc) (h : q.1 ≠ 0) : sig [q] = [q] := by simp [sig, h]
theorem sig_sp3 (q : Pc) (h : q.1 ≠ 0) : sig [sp, q, sp] = [q] := by simp [sig, h]
theorem exK_eq : ∀ (x : Ex) (n : Nat), sig (exQ x n) = exK x n
  | .num _ n ty, _ => by simp only [exQ, exK]; exact sig_one _ (valQ_kind ty n)
  | .name .., _ => by simp [exQ, exK, sig]
  | .field .., _ => by simp [exQ, exK, sig]
  | .not _ x, _ => by
    simp only [exQ, exK, sig_append, exK_eq x]
    rfl
  | .bin _ op x y, n => by
    simp only [exQ, exK, sig_append, exK_eq x, exK_eq y, sig_sp3 _ (opQ_kind op)]
    by_cases h : levelN op.toList < n <;> simp [h, sig]

def GoodN (s : ByteArray) : Prop := IsWord s.data.toList ∧ s.size ≤ 12 ∧ keptL.contains s.toList = false
def GoodEx : Ex → Prop
  | .num _ n ty => (ty = 1 ∧ n ≤ 1) ∨ (ty = 2 ∧ n ≤ 255)
  | .name _ s => GoodN s
  | .field _ s g => GoodN s ∧ GoodN g
  | .not _ x => GoodEx x
  | .bin _ op x y => 1 ≤ levelN op.toList ∧ GoodEx x ∧ GoodEx y
/-- how many of not and ( and ) lie in each other -/
def need : Ex → Nat → Nat
  | .not _ x, _ => 1 + need x 6
  | .bin _ op x y, n => (if levelN op.toList < n then 1 else 0) + max (need x (levelN op.toList)) (need y (levelN op.toList + 1))
  | .num .., _ => 0
  | .name .., _ => 0
  | .field .., _ => 0

section
variable {ts : List Tok}
def Ev1 (ts : List Tok) (deep k : Nat) (x : Ex) (k' : Nat) : Prop := ∃ f0, ∀ f, f0 ≤ f → oneP ts f deep k = .ok x k'
def Ev2 (ts : List Tok) (lv deep k : Nat) (x : Ex) (k' : Nat) : Prop := ∃ f0, ∀ f, f0 ≤ f → twoP ts f lv deep k = .ok x k'
def EvL (ts : List Tok) (lv deep k : Nat) (x : Ex) (k' : Nat) : Prop := ∃ f0 c, ∀ f, f0 ≤ f → twoP ts (f + c) lv deep k = loopP ts f lv deep (tk ts k).pos x k'

theorem level_le (s : List UInt8) : levelN s ≤ 5 := by
  unfold levelN
  repeat' split
  all_goals omega

theorem ev_six {deep k : Nat} {x : Ex} {k' : Nat} (h : Ev1 ts deep k x k') : Ev2 ts 6 deep k x k' := by
  obtain ⟨f0, h⟩ := h
  refine ⟨f0 + 1, fun f hf => ?_⟩
  obtain ⟨g, rfl⟩ : ∃ g, f = g + 1 := ⟨f - 1, by omega⟩
  simp only [twoP, if_true]
  exact h g (by omega)
theorem ev_loop {lv deep k : Nat} {x : Ex} {k' : Nat} (hl : lv ≠ 6) (h : Ev2 ts (lv + 1) deep k x k') : EvL ts lv deep k x k' := by
  obtain ⟨f0, h⟩ := h
  refine ⟨f0, 1, fun f hf => ?_⟩
  simp only [twoP, if_neg hl, h f hf, Res.bind]
theorem ev_stop {lv deep k : Nat} {x : Ex} {k' : Nat} (h : EvL ts lv deep k x k') (hs : levelN (tx ts k') ≠ lv) : Ev2 ts lv deep k x k' := by
  obtain ⟨f0, c, h⟩ := h
  refine ⟨f0 + c + 1, fun f hf => ?_⟩
  obtain ⟨g, rfl⟩ : ∃ g, f = (g + 1) + c := ⟨f - c - 1, by omega⟩
  rw [h (g + 1) (by omega)]
  simp only [loopP, if_neg hs]
theorem ev_op {lv deep k k1 k2 : Nat} {x y : Ex} (h : EvL ts lv deep k x k1) (hop : levelN (tx ts k1) = lv) (hy : Ev2 ts (lv + 1) deep (k1 + 1) y k2) : EvL ts lv deep k (.bin (tk ts k).pos (tk ts k1).text x y) k2 := by
  obtain ⟨f0, c, h⟩ := h
  obtain ⟨f1, hy⟩ := hy
  refine ⟨max f0 f1, c + 1, fun f hf => ?_⟩
  have e := h (f + 1) (by omega)
  rw [show f + (c + 1) = (f + 1) + c by omega, e]
  simp only [loopP, if_pos hop, hy f (by omega), Res.bind]
theorem ev_paren {deep k k1 : Nat} {x : Ex} (hd : deep ≤ 8) (h0 : tx ts k = [40]) (h : Ev2 ts 1 (deep + 1) (k + 1) x k1) (h1 : tx ts k1 = [41]) : Ev1 ts deep k x (k1 + 1) := by
  obtain ⟨f0, h⟩ := h
  refine ⟨f0 + 1, fun f hf => ?_⟩
  obtain ⟨g, rfl⟩ : ∃ g, f = g + 1 := ⟨f - 1, by omega⟩
  have e1 : (tx ts k == [110, 111, 116]) = false := by rw [h0]; decide
  have e2 : (tx ts k == [40]) = true := by rw [h0]; decide
  have e3 : (tx ts k1 == [41]) = true := by rw [h1]; decide
  simp only [oneP, if_neg (show ¬ 8 < deep by omega), e1, e2, h g (by omega), Res.bind, wantP, e3, if_true, Bool.false_eq_true, if_false]
theorem ev_not {deep k k1 : Nat} {x : Ex} (hd : deep ≤ 8) (h0 : tx ts k = [110, 111, 116]) (h : Ev1 ts (deep + 1) (k + 1) x k1) : Ev1 ts deep k (.not (tk ts k).pos x) k1 := by
  obtain ⟨f0, h⟩ := h
  refine ⟨f0 + 1, fun f hf => ?_⟩
  obtain ⟨g, rfl⟩ : ∃ g, f = g + 1 := ⟨f - 1, by omega⟩
  have e1 : (tx ts k == [110, 111, 116]) = true := by rw [h0]; decide
  simp only [oneP, if_neg (show ¬ 8 < deep by omega), e1, h g (by omega), Res.bind, if_true]

theorem text_eq {t : Tok} {s : ByteArray} (h : t.text.toList = s.data.toList) : t.text = s := by
  rw [ByteArray.toList_eq] at h
  exact ByteArray.ext (Array.toList_inj.1 h)
theorem word_ne {l : List UInt8} (h : IsWord l) {m : List UInt8} (hm : ∀ c t, m = c :: t → isLd c = false) (hn : m ≠ []) : (l == m) = false := by
  obtain ⟨c, t, e, _⟩ := h.first
  have hc := h.all c (by rw [e]; simp)
  cases m with
  | nil => exact absurd rfl hn
  | cons d m =>
    have := hm d m rfl
    rw [e]
    simp only [beq_eq_false_iff_ne, ne_eq, List.cons.injEq, not_and]
    intro e2
    rw [e2, this] at hc
    cases hc
theorem kept_ne {l : List UInt8} (h : keptL.contains l = false) {m : List UInt8} (hm : keptL.contains m = true) : (l == m) = false := by
  cases he : (l == m) with
  | false => rfl
  | true => rw [beq_iff_eq] at he; rw [he, hm] at h; cases h

theorem name_back {k : Nat} {s : ByteArray} (hs : GoodN s) (h1 : (tk ts k).kind = 1) (h2 : tx ts k = s.data.toList) : isNm (tk ts k) = true ∧ nameP ts k = .ok s (k + 1) := by
  have ht : (tk ts k).text = s := text_eq h2
  have hn : isNm (tk ts k) = true := by simp only [isNm, h1, ht, hs.2.2]; rfl
  refine ⟨hn, ?_⟩
  simp only [nameP, hn, if_true, ht, if_pos hs.2.1]

theorem dec_dg (n : Nat) : (∀ c ∈ Lib.decDigits n, isDg c = true) ∧ Lib.decDigits n ≠ [] ∧ valOf (Lib.decDigits n) = n := by
  have dg : ∀ i, i < 10 → isDg (UInt8.ofNat (48 + i)) = true ∧ (UInt8.ofNat (48 + i)).toNat = 48 + i := by decide
  induction n using Nat.strongRecOn with
  | _ n ih =>
    rw [Lib.decDigits]
    by_cases h : n < 10
    · rw [dif_pos h]
      refine ⟨fun c hc => ?_, by simp, ?_⟩
      · rw [List.mem_singleton] at hc; rw [hc]; exact (dg n h).1
      · have e : valOf [UInt8.ofNat (48 + n)] = 0 * 10 + ((UInt8.ofNat (48 + n)).toNat - 48) := rfl
        rw [e, (dg n h).2]; omega
    · rw [dif_neg h]
      obtain ⟨i1, i2, i3⟩ := ih (n / 10) (by omega)
      refine ⟨fun c hc => ?_, by simp, ?_⟩
      · rcases List.mem_append.1 hc with h | h
        · exact i1 c h
        · rw [List.mem_singleton] at h; rw [h]; exact (dg (n % 10) (by omega)).1
      · have e : valOf (Lib.decDigits (n / 10) ++ [UInt8.ofNat (48 + n % 10)]) = valOf (Lib.decDigits (n / 10)) * 10 + ((UInt8.ofNat (48 + n % 10)).toNat - 48) := by simp [valOf]
        rw [e, i3, (dg (n % 10) (by omega)).2]
        omega
theorem dec_ne (n : Nat) {m : List UInt8} (hm : ∀ c t, m = c :: t → isDg c = false) : (Lib.decDigits n == m) = false := by
  obtain ⟨h1, h2, _⟩ := dec_dg n
  cases hd : Lib.decDigits n with
  | nil => exact absurd hd h2
  | cons d r =>
    rw [hd] at h1
    have hc := h1 d (by simp)
    cases m with
    | nil => rfl
    | cons c t =>
      simp only [beq_eq_false_iff_ne, ne_eq, List.cons.injEq, not_and]
      intro e
      rw [e, hm c t rfl] at hc
      cases hc

theorem one_val {deep k n ty : Nat} (hd : deep ≤ 8) (hg : (ty = 1 ∧ n ≤ 1) ∨ (ty = 2 ∧ n ≤ 255)) (h1 : (tk ts k).kind = (valQ ty n).1) (h2 : tx ts k = (valQ ty n).2) : Ev1 ts deep k (.num (tk ts k).pos n ty) (k + 1) := by
  refine ⟨1, fun f hf => ?_⟩
  obtain ⟨g, rfl⟩ : ∃ g, f = g + 1 := ⟨f - 1, by omega⟩
  rcases hg with ⟨rfl, hn⟩ | ⟨rfl, hn⟩
  · by_cases h0 : n = 0
    · subst h0
      have h2 : tx ts k = [102, 97, 108, 115, 101] := h2
      simp only [oneP, if_neg (show ¬ 8 < deep by omega), h2]
      rfl
    · have hn1 : n = 1 := by omega
      subst hn1
      have h2 : tx ts k = [116, 114, 117, 101] := h2
      simp only [oneP, if_neg (show ¬ 8 < deep by omega), h2]
      rfl
  · have h1 : (tk ts k).kind = 2 := h1
    have h2 : tx ts k = Lib.decDigits n := h2
    have m1 : (tx ts k == [110, 111, 116]) = false := by rw [h2]; exact dec_ne n (by intro c t e; cases e; decide)
    have m2 : (tx ts k == [40]) = false := by rw [h2]; exact dec_ne n (by intro c t e; cases e; decide)
    have m3 : (tx ts k == [116, 114, 117, 101]) = false := by rw [h2]; exact dec_ne n (by intro c t e; cases e; decide)
    have m4 : (tx ts k == [102, 97, 108, 115, 101]) = false := by rw [h2]; exact dec_ne n (by intro c t e; cases e; decide)
    have hv : valOf (tx ts k) = n := by rw [h2]; exact (dec_dg n).2.2
    simp only [oneP, if_neg (show ¬ 8 < deep by omega), m1, m2, m3, m4, Bool.false_eq_true, if_false, h1, if_true, byteP, hv, if_pos hn, Res.bind]

theorem not_word {s : ByteArray} (hs : GoodN s) {k : Nat} (h2 : tx ts k = s.data.toList) : (tx ts k == [110, 111, 116]) = false ∧ (tx ts k == [40]) = false ∧ (tx ts k == [116, 114, 117, 101]) = false ∧ (tx ts k == [102, 97, 108, 115, 101]) = false := by
  have hk : keptL.contains (tx ts k) = false := by have := hs.2.2; rw [ByteArray.toList_eq] at this; rw [h2]; exact this
  refine ⟨kept_ne hk (by decide), ?_, kept_ne hk (by decide), kept_ne hk (by decide)⟩
  rw [h2]
  exact word_ne hs.1 (by intro c t e; cases e; decide) (by simp)

theorem one_name2 {deep k : Nat} {s : ByteArray} (hd : deep ≤ 8) (hs : GoodN s) (h1 : (tk ts k).kind = 1) (h2 : tx ts k = s.data.toList) (h3 : tx ts (k + 1) ≠ [46]) : Ev1 ts deep k (.name (tk ts k).pos s) (k + 1) := by
  refine ⟨1, fun f hf => ?_⟩
  obtain ⟨g, rfl⟩ : ∃ g, f = g + 1 := ⟨f - 1, by omega⟩
  obtain ⟨m1, m2, m3, m4⟩ := not_word hs h2
  have m5 : (tx ts (k + 1) == [46]) = false := by simpa using h3
  simp only [oneP, if_neg (show ¬ 8 < deep by omega), m1, m2, m3, m4, Bool.false_eq_true, if_false, h1, (name_back hs h1 h2).2, Res.bind, m5, show ¬ (1 : Nat) = 2 by decide]
theorem one_field2 {deep k : Nat} {s g : ByteArray} (hd : deep ≤ 8) (hs : GoodN s) (hg : GoodN g) (h1 : (tk ts k).kind = 1) (h2 : tx ts k = s.data.toList) (h3 : tx ts (k + 1) = [46]) (h4 : (tk ts (k + 1 + 1)).kind = 1) (h5 : tx ts (k + 1 + 1) = g.data.toList) : Ev1 ts deep k (.field (tk ts k).pos s g) (k + 3) := by
  refine ⟨1, fun f hf => ?_⟩
  obtain ⟨g, rfl⟩ : ∃ g, f = g + 1 := ⟨f - 1, by omega⟩
  obtain ⟨m1, m2, m3, m4⟩ := not_word hs h2
  have m5 : (tx ts (k + 1) == [46]) = true := by rw [h3]; decide
  simp only [oneP, if_neg (show ¬ 8 < deep by omega), m1, m2, m3, m4, Bool.false_eq_true, if_false, h1, (name_back hs h1 h2).2, Res.bind, m5, if_true, (name_back hg h4 h5).2, show ¬ (1 : Nat) = 2 by decide]

/-- x, written at a level, is read back -/
def Has (ts : List Tok) (x : Ex) (lv deep k : Nat) : Prop := ∃ x', er x' = er x ∧ (lv ≤ 5 → levelN (tx ts (k + (exK x lv).length)) ≤ lv → EvL ts lv deep k x' (k + (exK x lv).length)) ∧ (lv = 6 → Ev1 ts deep k x' (k + (exK x lv).length))

theorem Has.two {x : Ex} {lv deep k : Nat} (h : Has ts x lv deep k) (hl : lv ≤ 6) (hn : levelN (tx ts (k + (exK x lv).length)) < lv) : ∃ x', er x' = er x ∧ Ev2 ts lv deep k x' (k + (exK x lv).length) := by
  obtain ⟨x', e, h1, h2⟩ := h
  refine ⟨x', e, ?_⟩
  by_cases h6 : lv = 6
  · subst h6; exact ev_six (h2 rfl)
  · exact ev_stop (h1 (by omega) (by omega)) (by omega)
theorem Has.down {x : Ex} {lv deep k : Nat} (he : exK x lv = exK x (lv + 1)) (hl : lv ≤ 5) (h : Has ts x (lv + 1) deep k) : Has ts x lv deep k := by
  by_cases hn : levelN (tx ts (k + (exK x lv).length)) ≤ lv
  · obtain ⟨x', e, h1⟩ := h.two (by omega) (by rw [← he]; omega)
    refine ⟨x', e, fun _ _ => ?_, fun h => by omega⟩
    rw [he]
    exact ev_loop (by omega) h1
  · obtain ⟨x', e, _⟩ := h
    exact ⟨x', e, fun _ h => absurd h hn, fun h => by omega⟩
theorem Has.flat {x : Ex} {m deep k : Nat} (h : Has ts x m deep k) (hm : m ≤ 6) : ∀ (d lv : Nat), lv + d = m → (∀ i, lv ≤ i → i ≤ m → exK x i = exK x m) → Has ts x lv deep k
  | 0, lv, e, _ => by
    have : lv = m := by omega
    subst this; exact h
  | d + 1, lv, e, hf => by
    refine Has.down ?_ (by omega) (Has.flat h hm d (lv + 1) (by omega) fun i h1 h2 => hf i (by omega) h2)
    rw [hf lv (Nat.le_refl _) (by omega), hf (lv + 1) (by omega) (by omega)]

theorem level_text {k : Nat} {op : ByteArray} (h : tx ts k = (opQ op).2) : (tk ts k).text = op ∧ levelN (tx ts k) = levelN op.toList := by
  have e : (tk ts k).text = op := text_eq h
  exact ⟨e, by unfold tx; rw [e]⟩

theorem ex_back : ∀ (x : Ex), GoodEx x → ∀ (lv deep k : Nat), 1 ≤ lv → lv ≤ 6 → Mat ts k (exK x lv) → need x lv + deep ≤ 8 → tx ts (k + (exK x lv).length) ≠ [46] → Has ts x lv deep k
  | .num p n ty, hg, lv, deep, k, h1, h6, hm, hn, hd => by
    have hn : 0 + deep ≤ 8 := hn
    have h : Has ts (.num p n ty) 6 deep k := ⟨.num (tk ts k).pos n ty, rfl, fun h => by omega, fun _ => one_val (deep := deep) (by omega) hg hm.1 hm.2.1⟩
    exact h.flat (Nat.le_refl _) (6 - lv) lv (by omega) fun _ _ _ => rfl
  | .name p s, hg, lv, deep, k, h1, h6, hm, hn, hd => by
    have hn : 0 + deep ≤ 8 := hn
    have h : Has ts (.name p s) 6 deep k := ⟨.name (tk ts k).pos s, rfl, fun h => by omega, fun _ => one_name2 (deep := deep) (by omega) hg hm.1 hm.2.1 hd⟩
    exact h.flat (Nat.le_refl _) (6 - lv) lv (by omega) fun _ _ _ => rfl
  | .field p s g, hg, lv, deep, k, h1, h6, hm, hn, hd => by
    have hn : 0 + deep ≤ 8 := hn
    have h : Has ts (.field p s g) 6 deep k := ⟨.field (tk ts k).pos s g, rfl, fun h => by omega, fun _ => one_field2 (deep := deep) (by omega) hg.1 hg.2 hm.1 hm.2.1 hm.2.2.2.1 hm.2.2.2.2.1 hm.2.2.2.2.2.1⟩
    exact h.flat (Nat.le_refl _) (6 - lv) lv (by omega) fun _ _ _ => rfl
  | .not p x, hg, lv, deep, k, h1, h6, hm, hn, hd => by
    have hn : 1 + need x 6 + deep ≤ 8 := hn
    have hl : (exK (.not p x) lv).length = 1 + (exK x 6).length := by simp [exK]; omega
    rw [hl] at hd
    have ih := ex_back x hg 6 (deep + 1) (k + 1) (by omega) (Nat.le_refl _) hm.2.2 (by omega) (by rw [Nat.add_assoc]; exact hd)
    obtain ⟨x', e, _, h2⟩ := ih
    have h : Has ts (.not p x) 6 deep k := ⟨.not (tk ts k).pos x', by simp only [er, e], fun h => by omega, fun _ => by
      have hl6 : (exK (.not p x) 6).length = 1 + (exK x 6).length := by simp [exK]; omega
      rw [hl6, ← Nat.add_assoc]
      exact ev_not (by omega) hm.2.1 (h2 rfl)⟩
    exact h.flat (Nat.le_refl _) (6 - lv) lv (by omega) fun _ _ _ => rfl
  | .bin p op x y, hg, lv, deep, k, h1, h6, hm, hn, hd => by
    obtain ⟨hl1, hgx, hgy⟩ := hg
    have hl5 := level_le op.toList
    -- without ( and )
    have core : ∀ (deep k : Nat), Mat ts k (exK x (levelN op.toList) ++ [opQ op] ++ exK y (levelN op.toList + 1)) → max (need x (levelN op.toList)) (need y (levelN op.toList + 1)) + deep ≤ 8 → tx ts (k + (exK x (levelN op.toList) ++ [opQ op] ++ exK y (levelN op.toList + 1)).length) ≠ [46] → ∀ lv, 1 ≤ lv → lv ≤ levelN op.toList → Has ts (.bin p op x y) lv deep k := by
      intro deep k hm hn hd lv hlv1 hlv
      have ekeep : ∀ i, i ≤ levelN op.toList → exK (.bin p op x y) i = exK x (levelN op.toList) ++ [opQ op] ++ exK y (levelN op.toList + 1) := fun i hi => by
        simp [exK, if_neg (show ¬ levelN op.toList < i by omega)]
      have h : Has ts (.bin p op x y) (levelN op.toList) deep k := by
        obtain ⟨hm1, hm2⟩ := mat_append.1 hm
        obtain ⟨hm3, hm4⟩ := mat_append.1 hm1
        rw [List.length_append] at hm2 hd
        have hop := level_text hm4.2.1
        have hn46 : tx ts (k + (exK x (levelN op.toList)).length) ≠ [46] := by
          intro e
          rw [← hop.2, e] at hl1
          exact absurd hl1 (by decide)
        have hx := ex_back x hgx (levelN op.toList) deep k hl1 (by omega) hm3 (by omega) hn46
        have hd' : tx ts (k + (exK x (levelN op.toList)).length + 1 + (exK y (levelN op.toList + 1)).length) ≠ [46] := by
          have : k + (exK x (levelN op.toList)).length + 1 + (exK y (levelN op.toList + 1)).length = k + ((exK x (levelN op.toList) ++ [opQ op]).length + (exK y (levelN op.toList + 1)).length) := by simp; omega
          rw [this]; exact hd
        have hm2' : Mat ts (k + (exK x (levelN op.toList)).length + 1) (exK y (levelN op.toList + 1)) := by
          have : k + (exK x (levelN op.toList)).length + 1 = k + ((exK x (levelN op.toList)).length + [opQ op].length) := by simp; omega
          rw [this]; simpa using hm2
        have hy := ex_back y hgy (levelN op.toList + 1) deep (k + (exK x (levelN op.toList)).length + 1) (by omega) (by omega) hm2' (by omega) hd'
        have hlen : k + (exK (.bin p op x y) (levelN op.toList)).length = k + (exK x (levelN op.toList)).length + 1 + (exK y (levelN op.toList + 1)).length := by
          rw [ekeep _ (Nat.le_refl _)]; simp; omega
        by_cases hnl : levelN (tx ts (k + (exK (.bin p op x y) (levelN op.toList)).length)) ≤ levelN op.toList
        · obtain ⟨x', ex, hxL, _⟩ := hx
          obtain ⟨y', ey, hy2⟩ := hy.two (by omega) (by rw [← hlen]; omega)
          have hL := ev_op (hxL hl5 (by rw [hop.2]; exact Nat.le_refl _)) hop.2 hy2
          refine ⟨_, ?_, fun _ _ => by rw [hlen]; exact hL, fun h => by omega⟩
          rw [hop.1]; simp only [er, ex, ey]
        · exact ⟨.bin p op x y, rfl, fun _ h => absurd h hnl, fun h => by omega⟩
      exact h.flat (by omega) (levelN op.toList - lv) lv (by omega) fun i h1 h2 => by rw [ekeep i (by omega), ekeep _ (Nat.le_refl _)]
    by_cases hlv : levelN op.toList < lv
    · have epar : ∀ i, levelN op.toList < i → exK (.bin p op x y) i = [mk [40]] ++ (exK x (levelN op.toList) ++ [opQ op] ++ exK y (levelN op.toList + 1)) ++ [mk [41]] := fun i hi => by
        simp [exK, if_pos hi]
      have e1 : exK (.bin p op x y) 1 = exK x (levelN op.toList) ++ [opQ op] ++ exK y (levelN op.toList + 1) := by simp only [exK, if_neg (show ¬ levelN op.toList < 1 by omega), List.nil_append, List.append_nil]
      rw [epar lv hlv] at hm hd
      have hn' : 1 + max (need x (levelN op.toList)) (need y (levelN op.toList + 1)) + deep ≤ 8 := by
        have : need (.bin p op x y) lv = 1 + max (need x (levelN op.toList)) (need y (levelN op.toList + 1)) := by simp [need, if_pos hlv]
        rw [this] at hn; exact hn
      obtain ⟨hm1, hm2⟩ := mat_append.1 hm
      have hm3 := hm1.2.2
      generalize hM : exK x (levelN op.toList) ++ [opQ op] ++ exK y (levelN op.toList + 1) = M at *
      have hlast : tx ts (k + 1 + M.length) = [41] := by
        have := hm2.2.1
        rw [show k + ([mk [40]] ++ M).length = k + 1 + M.length by simp; omega] at this
        exact this
      have hc := core (deep + 1) (k + 1) hm3 (by omega) (by rw [hlast]; decide) 1 (Nat.le_refl _) hl1
      obtain ⟨x', e, h2⟩ := hc.two (by omega) (by rw [e1, hlast]; decide)
      rw [e1] at h2
      have h : Has ts (.bin p op x y) 6 deep k := ⟨x', e, fun h => by omega, fun _ => by
        rw [epar 6 (by omega), show k + ([mk [40]] ++ M ++ [mk [41]]).length = k + 1 + M.length + 1 by simp; omega]
        exact ev_paren (by omega) hm1.2.1 h2 hlast⟩
      exact h.flat (Nat.le_refl _) (6 - lv) lv (by omega) fun i h1 h2 => by rw [epar i (by omega), epar 6 (by omega)]
    · have e1 : exK (.bin p op x y) lv = exK x (levelN op.toList) ++ [opQ op] ++ exK y (levelN op.toList + 1) := by simp [exK, if_neg hlv]
      rw [e1] at hm hd
      have hn' : max (need x (levelN op.toList)) (need y (levelN op.toList + 1)) + deep ≤ 8 := by
        have : need (.bin p op x y) lv = 0 + max (need x (levelN op.toList)) (need y (levelN op.toList + 1)) := by simp [need, if_neg hlv]
        rw [this] at hn; omega
      exact core deep k hm hn' hd lv h1 (by omega)
end
end Go.Proofs.YtgncgbngjdcpgaaGreatDoor
