/-
  PLAIN: how programs are written, by pieces (blanks and tokens), and that the tokens of what is written are those pieces.
-/
import Derived.Lib.ItoaNum
import Derived.Lib.Strings
import Derived.Test.YtgncgbngjdcpgaaGreatDoorSyn
set_option linter.unusedSimpArgs false
set_option linter.unusedVariables false
namespace Go.Proofs.YtgncgbngjdcpgaaGreatDoor

def valP (ty n : Nat) : List UInt8 := if ty = 1 then (if n = 0 then [102, 97, 108, 115, 101] else [116, 114, 117, 101]) else Lib.decDigits n
def textP : Ex → Nat → List UInt8
  | .num _ n ty, _ => valP ty n
  | .name _ s, _ => s.data.toList
  | .field _ s g, _ => s.data.toList ++ [46] ++ g.data.toList
  | .not _ x, _ => [110, 111, 116, 32] ++ textP x 6
  | .bin _ op x y, least => (if levelN op.toList < least then [40] else []) ++ textP x (levelN op.toList) ++ ([32] ++ op.data.toList ++ [32]) ++ textP y (levelN op.toList + 1) ++ (if levelN op.toList < least then [41] else [])

def wayT (n : Nat) : List UInt8 := if n = 1 then [105, 110] else if n = 2 then [111, 117, 116] else [118, 97, 114]
def tyT (n : Nat) : List UInt8 := if n = 1 then [98, 111, 111, 108] else if n = 2 then [98, 121, 116, 101] else if n = 3 then [116, 105, 109, 101, 114] else if n = 4 then [99, 111, 117, 110, 116, 101, 114] else [101, 100, 103, 101]
def headT (d : De) : List UInt8 := if 3 ≤ d.ty then tyT d.ty ++ [32] ++ d.name.data.toList else wayT d.way ++ [32] ++ d.name.data.toList ++ [58, 32] ++ tyT d.ty
def lineT (d : De) : List UInt8 := headT d ++ (if d.init = 0 then [] else [32, 61, 32] ++ valP d.ty d.init) ++ [59, 10]
def argsT : List Ex → List UInt8
  | [] => []
  | x :: l => textP x 1 ++ [44, 32] ++ argsT l
mutual
def stT : St → List UInt8 → List UInt8
  | .set _ s x, left => left ++ (s.data.toList ++ [32, 58, 61, 32] ++ textP x 1 ++ [59, 10])
  | .call _ s l n, left => left ++ (s.data.toList ++ [40] ++ argsT l ++ (Lib.decDigits n ++ [41, 59, 10]))
  | .cond _ x th el, left => left ++ ([105, 102, 32] ++ textP x 1 ++ [32, 116, 104, 101, 110, 10]) ++ stsT th (left ++ [32, 32]) ++ (match el with | [] => [] | _ :: _ => left ++ [101, 108, 115, 101, 10] ++ stsT el (left ++ [32, 32])) ++ (left ++ [101, 110, 100, 59, 10])
def stsT : List St → List UInt8 → List UInt8
  | [], _ => []
  | s :: l, left => stT s left ++ stsT l left
end
def linesT : List De → List UInt8
  | [] => []
  | d :: l => lineT d ++ linesT l
def printT (p : List De × List St) : List UInt8 := linesT p.1 ++ [98, 101, 103, 105, 110, 10] ++ stsT p.2 [32, 32] ++ [101, 110, 100, 10]

/-- a piece: kind 0 a blank, else a token's -/
abbrev Pc := Nat × List UInt8
def flat (l : List Pc) : List UInt8 := (l.map (·.2)).flatten
theorem flat_nil : flat [] = [] := rfl
theorem flat_cons (q : Pc) (l : List Pc) : flat (q :: l) = q.2 ++ flat l := rfl
theorem flat_append (a b : List Pc) : flat (a ++ b) = flat a ++ flat b := by simp [flat]

abbrev sp : Pc := (0, [32])
abbrev nl : Pc := (0, [10])
abbrev wd (s : List UInt8) : Pc := (1, s)
abbrev mk (s : List UInt8) : Pc := (3, s)
def valQ (ty n : Nat) : Pc := if ty = 1 then (1, if n = 0 then [102, 97, 108, 115, 101] else [116, 114, 117, 101]) else (2, Lib.decDigits n)
def opQ (op : ByteArray) : Pc := (if levelN op.toList ≤ 3 then 1 else 3, op.data.toList)
def exQ : Ex → Nat → List Pc
  | .num _ n ty, _ => [valQ ty n]
  | .name _ s, _ => [wd s.data.toList]
  | .field _ s g, _ => [wd s.data.toList, mk [46], wd g.data.toList]
  | .not _ x, _ => [wd [110, 111, 116], sp] ++ exQ x 6
  | .bin _ op x y, least => (if levelN op.toList < least then [mk [40]] else []) ++ exQ x (levelN op.toList) ++ ([sp, opQ op, sp]) ++ exQ y (levelN op.toList + 1) ++ (if levelN op.toList < least then [mk [41]] else [])
def headQ (d : De) : List Pc := if 3 ≤ d.ty then [wd (tyT d.ty), sp, wd d.name.data.toList] else [wd (wayT d.way), sp, wd d.name.data.toList, mk [58], sp, wd (tyT d.ty)]
def lineQ (d : De) : List Pc := headQ d ++ (if d.init = 0 then [] else [sp, mk [61], sp, valQ d.ty d.init]) ++ [mk [59], nl]
def argsQ : List Ex → List Pc
  | [] => []
  | x :: l => exQ x 1 ++ [mk [44], sp] ++ argsQ l
mutual
def stQ : St → List Pc → List Pc
  | .set _ s x, left => left ++ ([wd s.data.toList, sp, mk [58, 61], sp] ++ exQ x 1 ++ [mk [59], nl])
  | .call _ s l n, left => left ++ ([wd s.data.toList, mk [40]] ++ argsQ l ++ [(2, Lib.decDigits n), mk [41], mk [59], nl])
  | .cond _ x th el, left => left ++ ([wd [105, 102], sp] ++ exQ x 1 ++ [sp, wd [116, 104, 101, 110], nl]) ++ stsQ th (left ++ [sp, sp]) ++ (match el with | [] => [] | _ :: _ => left ++ [wd [101, 108, 115, 101], nl] ++ stsQ el (left ++ [sp, sp])) ++ (left ++ [wd [101, 110, 100], mk [59], nl])
def stsQ : List St → List Pc → List Pc
  | [], _ => []
  | s :: l, left => stQ s left ++ stsQ l left
end
def linesQ : List De → List Pc
  | [] => []
  | d :: l => lineQ d ++ linesQ l
def printQ (p : List De × List St) : List Pc := linesQ p.1 ++ [wd [98, 101, 103, 105, 110], nl] ++ stsQ p.2 [sp, sp] ++ [wd [101, 110, 100], nl]

theorem flat_val (ty n : Nat) : (valQ ty n).2 = valP ty n := by unfold valQ valP; split <;> rfl
theorem flat_ex : ∀ (x : Ex) (n : Nat), flat (exQ x n) = textP x n
  | .num _ n ty, _ => by simp [exQ, textP, flat, flat_val]
  | .name _ s, _ => by simp [exQ, textP, flat]
  | .field _ s g, _ => by simp [exQ, textP, flat]
  | .not _ x, _ => by simp [exQ, textP, flat_append, flat_cons, flat_nil, flat_ex x 6]
  | .bin _ op x y, n => by
    simp only [exQ, textP, flat_append, flat_cons, flat_nil, flat_ex x, flat_ex y, opQ]
    by_cases h : levelN op.toList < n <;> simp [h, flat]
theorem flat_line (d : De) : flat (lineQ d) = lineT d := by
  unfold lineQ lineT headQ headT
  by_cases h : 3 ≤ d.ty <;> by_cases h2 : d.init = 0 <;> simp [h, h2, flat, flat_val]
theorem flat_args : ∀ l : List Ex, flat (argsQ l) = argsT l
  | [] => rfl
  | x :: l => by simp [argsQ, argsT, flat_append, flat_ex, flat_args l, flat_cons, flat_nil]
mutual
theorem flat_st : ∀ (s : St) (left : List Pc), flat (stQ s left) = stT s (flat left)
  | .set _ s x, left => by simp [stQ, stT, flat_append, flat_ex, flat_cons, flat_nil]
  | .call _ s l n, left => by simp [stQ, stT, flat_append, flat_args, flat_cons, flat_nil]
  | .cond _ x th [], left => by simp [stQ, stT, flat_append, flat_ex, flat_cons, flat_nil, flat_sts th]
  | .cond _ x th (s :: el), left => by simp [stQ, stT, flat_append, flat_ex, flat_cons, flat_nil, flat_sts th, flat_sts (s :: el)]
theorem flat_sts : ∀ (l : List St) (left : List Pc), flat (stsQ l left) = stsT l (flat left)
  | [], left => by simp [stsQ, stsT, flat]
  | s :: l, left => by simp [stsQ, stsT, flat_append, flat_st s, flat_sts l]
end
theorem flat_lines : ∀ l : List De, flat (linesQ l) = linesT l
  | [] => rfl
  | d :: l => by simp [linesQ, linesT, flat_append, flat_line, flat_lines l]
theorem flat_print (p : List De × List St) : flat (printQ p) = printT p := by
  simp [printQ, printT, flat_append, flat_lines, flat_sts, flat_cons, flat_nil]

/-- a piece that may stand ahead of anything -/
def free (q : Pc) : Bool := q.1 == 0 || q.2 == [40] || q.2 == [46]
def calmC (c : UInt8) : Bool := [32, 9, 10, 40, 41, 44, 59, 58, 46].contains c
def calmQ (q : Pc) : Bool := match q.2 with | [] => false | c :: _ => calmC c
structure IsWord (l : List UInt8) : Prop where
  all : ∀ c ∈ l, isLd c = true
  first : ∃ c t, l = c :: t ∧ isDg c = false
def GoodP (q : Pc) : Prop := (q.1 = 0 ∧ q.2 ≠ [] ∧ ∀ c ∈ q.2, isBl c = true) ∨ (q.1 = 1 ∧ IsWord q.2) ∨ (q.1 = 2 ∧ q.2 ≠ [] ∧ ∀ c ∈ q.2, isDg c = true) ∨ (q.1 = 3 ∧ q.2 ∈ marksL)
def starts (l : List Pc) (b : Bool) : Bool := match l with | [] => b | q :: _ => calmQ q
def adj : List Pc → Bool → Prop
  | [], _ => True
  | q :: l, b => GoodP q ∧ (free q = true ∨ starts l b = true) ∧ adj l b
theorem adj_append : ∀ (a b : List Pc) (f : Bool), adj (a ++ b) f ↔ adj a (starts b f) ∧ adj b f
  | [], b, f => by simp [adj]
  | q :: a, b, f => by
    have : starts (a ++ b) f = starts a (starts b f) := by cases a <;> rfl
    simp [adj, adj_append a b f, this, and_assoc]

theorem bl_ld (c : UInt8) (h : isBl c = true) : isLd c = false ∧ isDg c = false := by
  unfold isBl at h
  simp only [List.contains_cons, List.contains_nil, Bool.or_false, Bool.or_eq_true, beq_iff_eq] at h
  rcases h with h | h | h <;> subst h <;> decide
theorem calm_ld (c : UInt8) (h : calmC c = true) : isLd c = false ∧ isDg c = false ∧ c ≠ 61 ∧ c ≠ 62 := by
  unfold calmC at h
  simp only [List.contains_cons, List.contains_nil, Bool.or_false, Bool.or_eq_true, beq_iff_eq] at h
  rcases h with h | h | h | h | h | h | h | h | h <;> subst h <;> decide
theorem dg_ld (c : UInt8) (h : isDg c = true) : isLd c = true ∧ isBl c = false := by
  unfold isDg at h
  simp only [List.contains_cons, List.contains_nil, Bool.or_false, Bool.or_eq_true, beq_iff_eq] at h
  rcases h with h | h | h | h | h | h | h | h | h | h <;> subst h <;> decide
theorem ld_bl (c : UInt8) (h : isLd c = true) : isBl c = false := by
  cases hb : isBl c with
  | false => rfl
  | true => rw [(bl_ld c hb).1] at h; cases h

theorem takeWhile_exact (p : UInt8 → Bool) : ∀ (t r : List UInt8), (∀ c ∈ t, p c = true) → (∀ c r', r = c :: r' → p c = false) → (t ++ r).takeWhile p = t
  | [], [], _, _ => rfl
  | [], c :: r, _, h => by simp [h c r rfl]
  | c :: t, r, h1, h2 => by
    rw [List.cons_append, List.takeWhile_cons, if_pos (h1 c (by simp)), takeWhile_exact p t r (fun c h => h1 c (by simp [h])) h2]
theorem past_exact (p : UInt8 → Bool) (l : List UInt8) (i : Nat) (t r : List UInt8) (hd : l.drop i = t ++ r) (h1 : ∀ c ∈ t, p c = true) (h2 : ∀ c r', r = c :: r' → p c = false) : past p l i = i + t.length := by
  unfold past; rw [hd, takeWhile_exact p t r h1 h2]
theorem past_none (p : UInt8 → Bool) (l : List UInt8) (i : Nat) (c : UInt8) (r : List UInt8) (hd : l.drop i = c :: r) (h : p c = false) : past p l i = i := by
  unfold past; rw [hd]; simp [h]

theorem mark_first (t : List UInt8) (h : t ∈ marksL) : ∃ c r, t = c :: r ∧ isLd c = false ∧ isDg c = false ∧ isBl c = false := by
  simp only [marksL, List.mem_cons, List.not_mem_nil, or_false] at h
  rcases h with h | h | h | h | h | h | h | h | h | h | h | h | h | h | h <;> subst h <;> exact ⟨_, _, rfl, by decide, by decide, by decide⟩
theorem find_mark (t r : List UInt8) (h : t ∈ marksL) (hc : t = [40] ∨ t = [46] ∨ ∀ c r', r = c :: r' → c ≠ 61 ∧ c ≠ 62) : marksL.find? (fun m => m.isPrefixOf (t ++ r)) = some t := by
  simp only [marksL, List.mem_cons, List.not_mem_nil, or_false] at h
  rcases h with h | h | h | h | h | h | h | h | h | h | h | h | h | h | h <;> subst h <;>
  first
  | (simp [marksL, List.find?, List.isPrefixOf]; done)
  | (rcases hc with hc | hc | hc
     · simp at hc
     · simp at hc
     · cases r with
       | nil => simp [marksL, List.find?, List.isPrefixOf]
       | cons c r =>
         have h1 : ((61 : UInt8) == c) = false := by have := (hc c r rfl).1; simp; exact fun e => this e.symm
         have h2 : ((62 : UInt8) == c) = false := by have := (hc c r rfl).2; simp; exact fun e => this e.symm
         simp [marksL, List.find?, List.isPrefixOf, h1, h2])

theorem extract_eq (s : ByteArray) (i : Nat) (t r : List UInt8) (hd : s.data.toList.drop i = t ++ r) : s.extract i (i + t.length) = ⟨t.toArray⟩ := by
  have h : (s.extract i (i + t.length)).data.toList = t := by
    rw [Lib.extract_data, hd]
    simp
  have h2 : (s.extract i (i + t.length)).data = t.toArray := Array.toList_inj.1 (by rw [h])
  rw [← h2]

theorem tokenAt_piece (s : ByteArray) (i : Nat) (q : Pc) (r : List UInt8) (hd : s.data.toList.drop i = q.2 ++ r) (hq : GoodP q) (h0 : q.1 ≠ 0) (hc : free q = true ∨ ∀ c r', r = c :: r' → calmC c = true) :
    tokenAt s i = ⟨q.1, ⟨q.2.toArray⟩, i⟩ := by
  obtain ⟨kd, t⟩ := q
  rcases hq with h | h | h | h
  · exact absurd h.1 h0
  · obtain ⟨rfl, hw⟩ := h
    obtain ⟨c, t', ht, hdg⟩ := hw.first
    simp only at ht hd hw ⊢
    have hr : ∀ c r', r = c :: r' → calmC c = true := by
      rcases hc with hc | hc
      · exfalso
        subst ht
        have hl := hw.all c (by simp)
        simp [free] at hc
        rcases hc with hc | hc <;> (obtain ⟨rfl, _⟩ := hc; exact absurd hl (by decide))
      · exact hc
    have p1 : past isDg s.data.toList i = i := past_none isDg _ i c (t' ++ r) (by rw [hd, ht]; rfl) hdg
    have p2 : past isLd s.data.toList i = i + t.length := past_exact isLd _ i t r hd hw.all fun c r' e => (calm_ld c (hr c r' e)).1
    have hpos : 0 < t.length := by rw [ht]; simp
    unfold tokenAt
    rw [p1, p2, if_neg (by omega), if_pos (by omega), extract_eq s i t r hd]
  · obtain ⟨rfl, hne, hall⟩ := h
    simp only at hd hne hall ⊢
    have hr : ∀ c r', r = c :: r' → calmC c = true := by
      rcases hc with hc | hc
      · exfalso
        simp [free] at hc
        rcases hc with hc | hc
        · subst hc; exact absurd (hall 40 (by simp)) (by decide)
        · subst hc; exact absurd (hall 46 (by simp)) (by decide)
      · exact hc
    have p1 : past isDg s.data.toList i = i + t.length := past_exact isDg _ i t r hd hall fun c r' e => (calm_ld c (hr c r' e)).2.1
    have hpos : 0 < t.length := List.length_pos_iff.2 hne
    unfold tokenAt
    rw [p1, if_pos (by omega), extract_eq s i t r hd]
  · obtain ⟨rfl, hm⟩ := h
    simp only at hd hm ⊢
    obtain ⟨c, t', ht, h1, h2, h3⟩ := mark_first t hm
    have p1 : past isDg s.data.toList i = i := past_none isDg _ i c (t' ++ r) (by rw [hd, ht]; rfl) h2
    have p2 : past isLd s.data.toList i = i := past_none isLd _ i c (t' ++ r) (by rw [hd, ht]; rfl) h1
    have hf : marksL.find? (fun m => m.isPrefixOf (s.data.toList.drop i)) = some t := by
      rw [hd]
      refine find_mark t r hm ?_
      rcases hc with hc | hc
      · simp [free] at hc
        rcases hc with hc | hc
        · exact .inl hc
        · exact .inr (.inl hc)
      · exact .inr (.inr fun c r' e => (calm_ld c (hc c r' e)).2.2)
    unfold tokenAt
    rw [p1, p2, if_neg (by omega), if_neg (by omega), hf]

def toksAt (i : Nat) : List Pc → List Tok
  | [] => []
  | q :: l => (if q.1 = 0 then [] else [⟨q.1, ⟨q.2.toArray⟩, i⟩]) ++ toksAt (i + q.2.length) l
def sig (l : List Pc) : List Pc := l.filter fun q => q.1 != 0
theorem toksAt_len : ∀ (i : Nat) (l : List Pc), (toksAt i l).length = (sig l).length
  | _, [] => rfl
  | i, q :: l => by
    by_cases h : q.1 = 0
    · simp [toksAt, sig, h, toksAt_len (i + q.2.length) l]
    · simp [toksAt, sig, h, toksAt_len (i + q.2.length) l, Nat.add_comm]

theorem drop_add {l a b : List UInt8} {i : Nat} (h : l.drop i = a ++ b) : l.drop (i + a.length) = b := by
  rw [← List.drop_drop, h]; simp

theorem good_ne {q : Pc} (h : GoodP q) : q.2 ≠ [] := by
  rcases h with h | h | h | h
  · exact h.2.1
  · obtain ⟨c, t, e, _⟩ := h.2.first; rw [e]; simp
  · exact h.2.1
  · obtain ⟨c, t, e, _⟩ := mark_first _ h.2; rw [e]; simp

theorem starts_calm (l : List Pc) (hl : ∀ q ∈ l, q.2 ≠ []) (h : starts l true = true) (c : UInt8) (r : List UInt8) (e : flat l = c :: r) : calmC c = true := by
  cases l with
  | nil => simp [flat] at e
  | cons q l =>
    have hn := hl q (by simp)
    rw [flat_cons] at e
    simp only [starts, calmQ] at h
    cases hq : q.2 with
    | nil => exact absurd hq hn
    | cons d t =>
      rw [hq] at h e
      simp at e
      rw [← e.1]; exact h
theorem adj_ne : ∀ (l : List Pc) (b : Bool), adj l b → ∀ q ∈ l, q.2 ≠ []
  | q :: l, b, h, p, hp => by
    rcases List.mem_cons.1 hp with e | e
    · subst e; exact good_ne h.1
    · exact adj_ne l b h.2.2 p e

theorem toks_pieces (s : ByteArray) : ∀ (l : List Pc) (f i : Nat) (acc : List Tok), s.data.toList.drop i = flat l → i ≤ s.size → adj l true → l.length < f → acc.length + (sig l).length ≤ 800 →
    toks s f (past isBl s.data.toList i) acc = .ok (acc ++ toksAt i l ++ [⟨0, ⟨#[]⟩, s.size⟩]) 0
  | [], f, i, acc, hd, hi, _, hf, _ => by
    have hp : past isBl s.data.toList i = i := by unfold past; rw [hd]; rfl
    have hl : s.data.toList.length ≤ i := by
      have := congrArg List.length hd
      simp [flat] at this; simp; omega
    have hz : s.data.toList.length = s.size := Array.length_toList
    obtain ⟨g, rfl⟩ : ∃ g, f = g + 1 := ⟨f - 1, by simp at hf; omega⟩
    rw [hp, toks, if_neg (by omega)]
    simp [toksAt]
  | q :: l, f, i, acc, hd, hi, ha, hf, hc => by
    obtain ⟨hg, hn, ha'⟩ := ha
    have hz : s.data.toList.length = s.size := Array.length_toList
    rw [flat_cons] at hd
    have hlen : i + q.2.length ≤ s.size := by
      have := congrArg List.length hd
      rw [List.length_drop, List.length_append, hz] at this
      have h3 := List.length_pos_iff.2 (good_ne hg)
      omega
    have hd2 := drop_add hd
    by_cases h0 : q.1 = 0
    · have hb : ∀ c ∈ q.2, isBl c = true := by
        rcases hg with h | h | h | h
        · exact h.2.2
        · omega
        · omega
        · omega
      have hp : past isBl s.data.toList i = past isBl s.data.toList (i + q.2.length) := by
        unfold past
        rw [hd, hd2, List.takeWhile_append_of_pos hb, List.length_append, Nat.add_assoc]
      rw [hp, toks_pieces s l f (i + q.2.length) acc hd2 hlen ha' (by simp at hf; omega) (by simp [sig, h0] at hc; exact hc)]
      simp [toksAt, h0]
    · have hfirst : ∃ c t, q.2 = c :: t ∧ isBl c = false := by
        rcases hg with h | h | h | h
        · exact absurd h.1 h0
        · obtain ⟨c, t, e, _⟩ := h.2.first
          exact ⟨c, t, e, ld_bl c (h.2.all c (by rw [e]; simp))⟩
        · cases hq : q.2 with
          | nil => exact absurd hq h.2.1
          | cons c t => exact ⟨c, t, rfl, (dg_ld c (h.2.2 c (by rw [hq]; simp))).2⟩
        · obtain ⟨c, t, e, _, _, h3⟩ := mark_first _ h.2
          exact ⟨c, t, e, h3⟩
      obtain ⟨c, t, e, hcb⟩ := hfirst
      have hp : past isBl s.data.toList i = i := past_none isBl _ i c (t ++ flat l) (by rw [hd, e]; rfl) hcb
      have hlt : i < s.size := by rw [e] at hlen; simp at hlen; omega
      have ht := tokenAt_piece s i q (flat l) hd hg h0 (hn.imp id fun h c r e => starts_calm l (adj_ne l true ha') h c r e)
      obtain ⟨g, rfl⟩ : ∃ g, f = g + 1 := ⟨f - 1, by simp at hf; omega⟩
      have hcc : acc.length + (sig l).length + 1 ≤ 800 := by simp [sig, h0] at hc; simp [sig]; omega
      have hsz : (⟨q.2.toArray⟩ : ByteArray).size = q.2.length := by simp [ByteArray.size]
      rw [hp, toks, if_pos hlt, ht, if_neg h0, if_neg (by omega)]
      simp only [hsz]
      rw [toks_pieces s l g (i + q.2.length) _ hd2 hlen ha' (by simp at hf; omega) (by simp; omega)]
      simp [toksAt, h0]

/-- the tokens of what is written by pieces -/
theorem flat_len : ∀ (l : List Pc), (∀ q ∈ l, q.2 ≠ []) → l.length ≤ (flat l).length
  | [], _ => by simp [flat]
  | q :: l, h => by
    have := flat_len l fun q hq => h q (by simp [hq])
    have := List.length_pos_iff.2 (h q (by simp))
    simp [flat_cons]; omega
theorem tokens_pieces (l : List Pc) (ha : adj l true) (hc : (sig l).length ≤ 800) : tokens ⟨(flat l).toArray⟩ = .ok (toksAt 0 l ++ [⟨0, ⟨#[]⟩, (flat l).length⟩]) 0 := by
  have hz : (⟨(flat l).toArray⟩ : ByteArray).size = (flat l).length := by simp [ByteArray.size]
  have h := toks_pieces ⟨(flat l).toArray⟩ l ((flat l).length + 1) 0 [] (by simp) (Nat.zero_le _) ha (by have := flat_len l (adj_ne l true ha); omega) (by simpa using hc)
  unfold tokens
  rw [hz]
  rw [hz] at h
  simpa using h

/-- tokens that stand at a place -/
def Mat (ts : List Tok) : Nat → List Pc → Prop
  | _, [] => True
  | k, q :: l => (tk ts k).kind = q.1 ∧ tx ts k = q.2 ∧ Mat ts (k + 1) l
theorem mat_append {ts : List Tok} : ∀ {k : Nat} {a b : List Pc}, Mat ts k (a ++ b) ↔ Mat ts k a ∧ Mat ts (k + a.length) b
  | k, [], b => by simp [Mat]
  | k, q :: a, b => by
    simp only [List.cons_append, Mat, mat_append (k := k + 1) (a := a) (b := b), List.length_cons]
    rw [show k + 1 + a.length = k + (a.length + 1) by omega]
    simp [and_assoc]
theorem sig_append (a b : List Pc) : sig (a ++ b) = sig a ++ sig b := by simp [sig]
theorem mat_toks (e : Tok) : ∀ (l : List Pc) (i : Nat) (pre : List Tok), Mat (pre ++ toksAt i l ++ [e]) pre.length (sig l)
  | [], i, pre => by simp [sig, Mat]
  | q :: l, i, pre => by
    by_cases h : q.1 = 0
    · have := mat_toks e l (i + q.2.length) pre
      simpa [toksAt, sig, h] using this
    · have := mat_toks e l (i + q.2.length) (pre ++ [⟨q.1, ⟨q.2.toArray⟩, i⟩])
      have h1 : tk (pre ++ toksAt i (q :: l) ++ [e]) pre.length = ⟨q.1, ⟨q.2.toArray⟩, i⟩ := by unfold tk; simp [toksAt, h]
      have hs : sig (q :: l) = q :: sig l := by simp [sig, h]
      rw [hs]
      refine ⟨by rw [h1], by unfold tx; rw [h1, ByteArray.toList_eq], ?_⟩
      simpa [toksAt, h] using this
end Go.Proofs.YtgncgbngjdcpgaaGreatDoor
