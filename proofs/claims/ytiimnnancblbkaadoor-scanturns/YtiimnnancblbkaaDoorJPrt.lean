/-
  PLAIN: how programs are written, by pieces (blanks and tokens), and that the tokens of what is written are those pieces.
  PLAIN: what is written is read back: expressions.
  PLAIN: what is written is read back: statements, declarations, programs.
  PLAIN: what is read may be written: names are words, bounds are kept, and what is written is not much longer than what was read.
-/
import Derived.Lib.ItoaNum
import Derived.Lib.Strings
import Derived.Test.YtiimnnancblbkaaDoorSyn
import Derived.Test.YtiimnnancblbkaaDoorJStm
set_option linter.unusedSimpArgs false
set_option linter.unusedVariables false
namespace Go.Proofs.YtiimnnancblbkaaDoor

def valP (ty n : Nat) : List UInt8 := if ty = 1 then (if n = 0 then [102, 97, 108, 115, 101] else [116, 114, 117, 101]) else Lib.decDigits n
def textP : Ex → Nat → List UInt8
  | .num _ n ty, _ => valP ty n
  | .name _ s, _ => s.data.toList
  | .field _ s g, _ => s.data.toList ++ [46] ++ g.data.toList
  | .not _ x, _ => [110, 111, 116, 32] ++ textP x 6
  | .bin _ op x y, least => (if levelN op.toList < least then [40] else []) ++ textP x (levelN op.toList) ++ ([32] ++ op.data.toList ++ [32]) ++ textP y (levelN op.toList + 1) ++ (if levelN op.toList < least then [41] else [])

def wayT (n : Nat) : List UInt8 := if n = 1 then [105, 110] else if n = 2 then [111, 117, 116] else [118, 97, 114]
def tyT (n : Nat) : List UInt8 := if n = 1 then [98, 111, 111, 108] else if n = 2 then [98, 121, 116, 101] else if n = 3 then [116, 105, 109, 101, 114] else if n = 4 then [99, 111, 117, 110, 116, 101, 114] else [101, 100, 103, 101]
def headT (d : De) : List UInt8 := if 3 ≤ d.ty then tyT d.ty ++ [32] ++ d.name.data.toList else wayT d.way ++ [32] ++ d.name.data.toList ++ [58, 32] ++ tyT d.ty
def lineT (d : De) : List UInt8 := headT d ++ (if d.init = 0 then [] else [32, 61, 32] ++ valP d.ty d.init) ++ [59, 10]
def argsT : List Ex → List UInt8
  | [] => []
  | x :: l => textP x 1 ++ [44, 32] ++ argsT l
mutual
def stT : St → List UInt8 → List UInt8
  | .set _ s x, left => left ++ (s.data.toList ++ [32, 58, 61, 32] ++ textP x 1 ++ [59, 10])
  | .call _ s l n, left => left ++ (s.data.toList ++ [40] ++ argsT l ++ (Lib.decDigits n ++ [41, 59, 10]))
  | .cond _ x th el, left => left ++ ([105, 102, 32] ++ textP x 1 ++ [32, 116, 104, 101, 110, 10]) ++ stsT th (left ++ [32, 32]) ++ (match el with | [] => [] | _ :: _ => left ++ [101, 108, 115, 101, 10] ++ stsT el (left ++ [32, 32])) ++ (left ++ [101, 110, 100, 59, 10])
def stsT : List St → List UInt8 → List UInt8
  | [], _ => []
  | s :: l, left => stT s left ++ stsT l left
end
def linesT : List De → List UInt8
  | [] => []
  | d :: l => lineT d ++ linesT l
def printT (p : List De × List St) : List UInt8 := linesT p.1 ++ [98, 101, 103, 105, 110, 10] ++ stsT p.2 [32, 32] ++ [101, 110, 100, 10]

/-- a piece: kind 0 a blank, else a token's -/
abbrev Pc := Nat × List UInt8
def flat (l : List Pc) : List UInt8 := (l.map (·.2)).flatten
theorem flat_nil : flat [] = [] := rfl
theorem flat_cons (q : Pc) (l : List Pc) : flat (q :: l) = q.2 ++ flat l := rfl
theorem flat_append (a b : List Pc) : flat (a ++ b) = flat a ++ flat b := by simp [flat]

abbrev sp : Pc := (0, [32])
abbrev nl : Pc := (0, [10])
abbrev wd (s : List UInt8) : Pc := (1, s)
abbrev mk (s : List UInt8) : Pc := (3, s)
def valQ (ty n : Nat) : Pc := if ty = 1 then (1, if n = 0 then [102, 97, 108, 115, 101] else [116, 114, 117, 101]) else (2, Lib.decDigits n)
def opQ (op : ByteArray) : Pc := (if levelN op.toList ≤ 3 then 1 else 3, op.data.toList)
def exQ : Ex → Nat → List Pc
  | .num _ n ty, _ => [valQ ty n]
  | .name _ s, _ => [wd s.data.toList]
  | .field _ s g, _ => [wd s.data.toList, mk [46], wd g.data.toList]
  | .not _ x, _ => [wd [110, 111, 116], sp] ++ exQ x 6
  | .bin _ op x y, least => (if levelN op.toList < least then [mk [40]] else []) ++ exQ x (levelN op.toList) ++ ([sp, opQ op, sp]) ++ exQ y (levelN op.toList + 1) ++ (if levelN op.toList < least then [mk [41]] else [])
def headQ (d : De) : List Pc := if 3 ≤ d.ty then [wd (tyT d.ty), sp, wd d.name.data.toList] else [wd (wayT d.way), sp, wd d.name.data.toList, mk [58], sp, wd (tyT d.ty)]
def lineQ (d : De) : List Pc := headQ d ++ (if d.init = 0 then [] else [sp, mk [61], sp, valQ d.ty d.init]) ++ [mk [59], nl]
def argsQ : List Ex → List Pc
  | [] => []
  | x :: l => exQ x 1 ++ [mk [44], sp] ++ argsQ l
mutual
def stQ : St → List Pc → List Pc
  | .set _ s x, left => left ++ ([wd s.data.toList, sp, mk [58, 61], sp] ++ exQ x 1 ++ [mk [59], nl])
  | .call _ s l n, left => left ++ ([wd s.data.toList, mk [40]] ++ argsQ l ++ [(2, Lib.decDigits n), mk [41], mk [59], nl])
  | .cond _ x th el, left => left ++ ([wd [105, 102], sp] ++ exQ x 1 ++ [sp, wd [116, 104, 101, 110], nl]) ++ stsQ th (left ++ [sp, sp]) ++ (match el with | [] => [] | _ :: _ => left ++ [wd [101, 108, 115, 101], nl] ++ stsQ el (left ++ [sp, sp])) ++ (left ++ [wd [101, 110, 100], mk [59], nl])
def stsQ : List St → List Pc → List Pc
  | [], _ => []
  | s :: l, left => stQ s left ++ stsQ l left
end
def linesQ : List De → List Pc
  | [] => []
  | d :: l => lineQ d ++ linesQ l
def printQ (p : List De × List St) : List Pc := linesQ p.1 ++ [wd [98, 101, 103, 105, 110], nl] ++ stsQ p.2 [sp, sp] ++ [wd [101, 110, 100], nl]

theorem flat_val (ty n : Nat) : (valQ ty n).2 = valP ty n := by unfold valQ valP; split <;> rfl
theorem flat_ex : ∀ (x : Ex) (n : Nat), flat (exQ x n) = textP x n
  | .num _ n ty, _ => by simp [exQ, textP, flat, flat_val]
  | .name _ s, _ => by simp [exQ, textP, flat]
  | .field _ s g, _ => by simp [exQ, textP, flat]
  | .not _ x, _ => by simp [exQ, textP, flat_append, flat_cons, flat_nil, flat_ex x 6]
  | .bin _ op x y, n => by
    simp only [exQ, textP, flat_append, flat_cons, flat_nil, flat_ex x, flat_ex y, opQ]
    by_cases h : levelN op.toList < n <;> simp [h, flat]
theorem flat_line (d : De) : flat (lineQ d) = lineT d := by
  unfold lineQ lineT headQ headT
  by_cases h : 3 ≤ d.ty <;> by_cases h2 : d.init = 0 <;> simp [h, h2, flat, flat_val]
theorem flat_args : ∀ l : List Ex, flat (argsQ l) = argsT l
  | [] => rfl
  | x :: l => by simp [argsQ, argsT, flat_append, flat_ex, flat_args l, flat_cons, flat_nil]
mutual
theorem flat_st : ∀ (s : St) (left : List Pc), flat (stQ s left) = stT s (flat left)
  | .set _ s x, left => by simp [stQ, stT, flat_append, flat_ex, flat_cons, flat_nil]
  | .call _ s l n, left => by simp [stQ, stT, flat_append, flat_args, flat_cons, flat_nil]
  | .cond _ x th [], left => by simp [stQ, stT, flat_append, flat_ex, flat_cons, flat_nil, flat_sts th]
  | .cond _ x th (s :: el), left => by simp [stQ, stT, flat_append, flat_ex, flat_cons, flat_nil, flat_sts th, flat_sts (s :: el)]
theorem flat_sts : ∀ (l : List St) (left : List Pc), flat (stsQ l left) = stsT l (flat left)
  | [], left => by simp [stsQ, stsT, flat]
  | s :: l, left => by simp [stsQ, stsT, flat_append, flat_st s, flat_sts l]
end
theorem flat_lines : ∀ l : List De, flat (linesQ l) = linesT l
  | [] => rfl
  | d :: l => by simp [linesQ, linesT, flat_append, flat_line, flat_lines l]
theorem flat_print (p : List De × List St) : flat (printQ p) = printT p := by
  simp [printQ, printT, flat_append, flat_lines, flat_sts, flat_cons, flat_nil]

/-- a piece that may stand ahead of anything -/
def free (q : Pc) : Bool := q.1 == 0 || q.2 == [40] || q.2 == [46]
def calmC (c : UInt8) : Bool := [32, 9, 10, 40, 41, 44, 59, 58, 46].contains c
def calmQ (q : Pc) : Bool := match q.2 with | [] => false | c :: _ => calmC c
structure IsWord (l : List UInt8) : Prop where
  all : ∀ c ∈ l, isLd c = true
  first : ∃ c t, l = c :: t ∧ isDg c = false
def GoodP (q : Pc) : Prop := (q.1 = 0 ∧ q.2 ≠ [] ∧ ∀ c ∈ q.2, isBl c = true) ∨ (q.1 = 1 ∧ IsWord q.2) ∨ (q.1 = 2 ∧ q.2 ≠ [] ∧ ∀ c ∈ q.2, isDg c = true) ∨ (q.1 = 3 ∧ q.2 ∈ marksL)
def starts (l : List Pc) (b : Bool) : Bool := match l with | [] => b | q :: _ => calmQ q
def adj : List Pc → Bool → Prop
  | [], _ => True
  | q :: l, b => GoodP q ∧ (free q = true ∨ starts l b = true) ∧ adj l b
theorem adj_append : ∀ (a b : List Pc) (f : Bool), adj (a ++ b) f ↔ adj a (starts b f) ∧ adj b f
  | [], b, f => by simp [adj]
  | q :: a, b, f => by
    have : starts (a ++ b) f = starts a (starts b f) := by cases a <;> rfl
    simp [adj, adj_append a b f, this, and_assoc]

theorem bl_ld (c : UInt8) (h : isBl c = true) : isLd c = false ∧ isDg c = false := by
  unfold isBl at h
  simp only [List.contains_cons, List.contains_nil, Bool.or_false, Bool.or_eq_true, beq_iff_eq] at h
  rcases h with h | h | h <;> subst h <;> decide
theorem calm_ld (c : UInt8) (h : calmC c = true) : isLd c = false ∧ isDg c = false ∧ c ≠ 61 ∧ c ≠ 62 := by
  unfold calmC at h
  simp only [List.contains_cons, List.contains_nil, Bool.or_false, Bool.or_eq_true, beq_iff_eq] at h
  rcases h with h | h | h | h | h | h | h | h | h <;> subst h <;> decide
theorem dg_ld (c : UInt8) (h : isDg c = true) : isLd c = true ∧ isBl c = false := by
  unfold isDg at h
  simp only [List.contains_cons, List.contains_nil, Bool.or_false, Bool.or_eq_true, beq_iff_eq] at h
  rcases h with h | h | h | h | h | h | h | h | h | h <;> subst h <;> decide
theorem ld_bl (c : UInt8) (h : isLd c = true) : isBl c = false := by
  cases hb : isBl c with
  | false => rfl
  | true => rw [(bl_ld c hb).1] at h; cases h

theorem takeWhile_exact (p : UInt8 → Bool) : ∀ (t r : List UInt8), (∀ c ∈ t, p c = true) → (∀ c r', r = c :: r' → p c = false) → (t ++ r).takeWhile p = t
  | [], [], _, _ => rfl
  | [], c :: r, _, h => by simp [h c r rfl]
  | c :: t, r, h1, h2 => by
    rw [List.cons_append, List.takeWhile_cons, if_pos (h1 c (by simp)), takeWhile_exact p t r (fun c h => h1 c (by simp [h])) h2]
theorem past_exact (p : UInt8 → Bool) (l : List UInt8) (i : Nat) (t r : List UInt8) (hd : l.drop i = t ++ r) (h1 : ∀ c ∈ t, p c = true) (h2 : ∀ c r', r = c :: r' → p c = false) : past p l i = i + t.length := by
  unfold past; rw [hd, takeWhile_exact p t r h1 h2]
theorem past_none (p : UInt8 → Bool) (l : List UInt8) (i : Nat) (c : UInt8) (r : List UInt8) (hd : l.drop i = c :: r) (h : p c = false) : past p l i = i := by
  unfold past; rw [hd]; simp [h]

theorem mark_first (t : List UInt8) (h : t ∈ marksL) : ∃ c r, t = c :: r ∧ isLd c = false ∧ isDg c = false ∧ isBl c = false := by
  simp only [marksL, List.mem_cons, List.not_mem_nil, or_false] at h
  rcases h with h | h | h | h | h | h | h | h | h | h | h | h | h | h | h <;> subst h <;> exact ⟨_, _, rfl, by decide, by decide, by decide⟩
theorem find_mark (t r : List UInt8) (h : t ∈ marksL) (hc : t = [40] ∨ t = [46] ∨ ∀ c r', r = c :: r' → c ≠ 61 ∧ c ≠ 62) : marksL.find? (fun m => m.isPrefixOf (t ++ r)) = some t := by
  simp only [marksL, List.mem_cons, List.not_mem_nil, or_false] at h
  rcases h with h | h | h | h | h | h | h | h | h | h | h | h | h | h | h <;> subst h <;>
  first
  | (simp [marksL, List.find?, List.isPrefixOf]; done)
  | (rcases hc with hc | hc | hc
     · simp at hc
     · simp at hc
     · cases r with
       | nil => simp [marksL, List.find?, List.isPrefixOf]
       | cons c r =>
         have h1 : ((61 : UInt8) == c) = false := by have := (hc c r rfl).1; simp; exact fun e => this e.symm
         have h2 : ((62 : UInt8) == c) = false := by have := (hc c r rfl).2; simp; exact fun e => this e.symm
         simp [marksL, List.find?, List.isPrefixOf, h1, h2])

theorem extract_eq (s : ByteArray) (i : Nat) (t r : List UInt8) (hd : s.data.toList.drop i = t ++ r) : s.extract i (i + t.length) = ⟨t.toArray⟩ := by
  have h : (s.extract i (i + t.length)).data.toList = t := by
    rw [Lib.extract_data, hd]
    simp
  have h2 : (s.extract i (i + t.length)).data = t.toArray := Array.toList_inj.1 (by rw [h])
  rw [← h2]

theorem tokenAt_piece (s : ByteArray) (i : Nat) (q : Pc) (r : List UInt8) (hd : s.data.toList.drop i = q.2 ++ r) (hq : GoodP q) (h0 : q.1 ≠ 0) (hc : free q = true ∨ ∀ c r', r = c :: r' → calmC c = true) :
    tokenAt s i = ⟨q.1, ⟨q.2.toArray⟩, i⟩ := by
  obtain ⟨kd, t⟩ := q
  rcases hq with h | h | h | h
  · exact absurd h.1 h0
  · obtain ⟨rfl, hw⟩ := h
    obtain ⟨c, t', ht, hdg⟩ := hw.first
    simp only at ht hd hw ⊢
    have hr : ∀ c r', r = c :: r' → calmC c = true := by
      rcases hc with hc | hc
      · exfalso
        subst ht
        have hl := hw.all c (by simp)
        simp [free] at hc
        rcases hc with hc | hc <;> (obtain ⟨rfl, _⟩ := hc; exact absurd hl (by decide))
      · exact hc
    have p1 : past isDg s.data.toList i = i := past_none isDg _ i c (t' ++ r) (by rw [hd, ht]; rfl) hdg
    have p2 : past isLd s.data.toList i = i + t.length := past_exact isLd _ i t r hd hw.all fun c r' e => (calm_ld c (hr c r' e)).1
    have hpos : 0 < t.length := by rw [ht]; simp
    unfold tokenAt
    rw [p1, p2, if_neg (by omega), if_pos (by omega), extract_eq s i t r hd]
  · obtain ⟨rfl, hne, hall⟩ := h
    simp only at hd hne hall ⊢
    have hr : ∀ c r', r = c :: r' → calmC c = true := by
      rcases hc with hc | hc
      · exfalso
        simp [free] at hc
        rcases hc with hc | hc
        · subst hc; exact absurd (hall 40 (by simp)) (by decide)
        · subst hc; exact absurd (hall 46 (by simp)) (by decide)
      · exact hc
    have p1 : past isDg s.data.toList i = i + t.length := past_exact isDg _ i t r hd hall fun c r' e => (calm_ld c (hr c r' e)).2.1
    have hpos : 0 < t.length := List.length_pos_iff.2 hne
    unfold tokenAt
    rw [p1, if_pos (by omega), extract_eq s i t r hd]
  · obtain ⟨rfl, hm⟩ := h
    simp only at hd hm ⊢
    obtain ⟨c, t', ht, h1, h2, h3⟩ := mark_first t hm
    have p1 : past isDg s.data.toList i = i := past_none isDg _ i c (t' ++ r) (by rw [hd, ht]; rfl) h2
    have p2 : past isLd s.data.toList i = i := past_none isLd _ i c (t' ++ r) (by rw [hd, ht]; rfl) h1
    have hf : marksL.find? (fun m => m.isPrefixOf (s.data.toList.drop i)) = some t := by
      rw [hd]
      refine find_mark t r hm ?_
      rcases hc with hc | hc
      · simp [free] at hc
        rcases hc with hc | hc
        · exact .inl hc
        · exact .inr (.inl hc)
      · exact .inr (.inr fun c r' e => (calm_ld c (hc c r' e)).2.2)
    unfold tokenAt
    rw [p1, p2, if_neg (by omega), if_neg (by omega), hf]

def toksAt (i : Nat) : List Pc → List Tok
  | [] => []
  | q :: l => (if q.1 = 0 then [] else [⟨q.1, ⟨q.2.toArray⟩, i⟩]) ++ toksAt (i + q.2.length) l
def sig (l : List Pc) : List Pc := l.filter fun q => q.1 != 0
theorem toksAt_len : ∀ (i : Nat) (l : List Pc), (toksAt i l).length = (sig l).length
  | _, [] => rfl
  | i, q :: l => by
    by_cases h : q.1 = 0
    · simp [toksAt, sig, h, toksAt_len (i + q.2.length) l]
    · simp [toksAt, sig, h, toksAt_len (i + q.2.length) l, Nat.add_comm]

theorem drop_add {l a b : List UInt8} {i : Nat} (h : l.drop i = a ++ b) : l.drop (i + a.length) = b := by
  rw [← List.drop_drop, h]; simp

theorem good_ne {q : Pc} (h : GoodP q) : q.2 ≠ [] := by
  rcases h with h | h | h | h
  · exact h.2.1
  · obtain ⟨c, t, e, _⟩ := h.2.first; rw [e]; simp
  · exact h.2.1
  · obtain ⟨c, t, e, _⟩ := mark_first _ h.2; rw [e]; simp

theorem starts_calm (l : List Pc) (hl : ∀ q ∈ l, q.2 ≠ []) (h : starts l true = true) (c : UInt8) (r : List UInt8) (e : flat l = c :: r) : calmC c = true := by
  cases l with
  | nil => simp [flat] at e
  | cons q l =>
    have hn := hl q (by simp)
    rw [flat_cons] at e
    simp only [starts, calmQ] at h
    cases hq : q.2 with
    | nil => exact absurd hq hn
    | cons d t =>
      rw [hq] at h e
      simp at e
      rw [← e.1]; exact h
theorem adj_ne : ∀ (l : List Pc) (b : Bool), adj l b → ∀ q ∈ l, q.2 ≠ []
  | q :: l, b, h, p, hp => by
    rcases List.mem_cons.1 hp with e | e
    · subst e; exact good_ne h.1
    · exact adj_ne l b h.2.2 p e

theorem toks_pieces (s : ByteArray) : ∀ (l : List Pc) (f i : Nat) (acc : List Tok), s.data.toList.drop i = flat l → i ≤ s.size → adj l true → l.length < f → acc.length + (sig l).length ≤ 800 →
    toks s f (past isBl s.data.toList i) acc = .ok (acc ++ toksAt i l ++ [⟨0, ⟨#[]⟩, s.size⟩]) 0
  | [], f, i, acc, hd, hi, _, hf, _ => by
    have hp : past isBl s.data.toList i = i := by unfold past; rw [hd]; rfl
    have hl : s.data.toList.length ≤ i := by
      have := congrArg List.length hd
      simp [flat] at this; simp; omega
    have hz : s.data.toList.length = s.size := Array.length_toList
    obtain ⟨g, rfl⟩ : ∃ g, f = g + 1 := ⟨f - 1, by simp at hf; omega⟩
    rw [hp, toks, if_neg (by omega)]
    simp [toksAt]
  | q :: l, f, i, acc, hd, hi, ha, hf, hc => by
    obtain ⟨hg, hn, ha'⟩ := ha
    have hz : s.data.toList.length = s.size := Array.length_toList
    rw [flat_cons] at hd
    have hlen : i + q.2.length ≤ s.size := by
      have := congrArg List.length hd
      rw [List.length_drop, List.length_append, hz] at this
      have h3 := List.length_pos_iff.2 (good_ne hg)
      omega
    have hd2 := drop_add hd
    by_cases h0 : q.1 = 0
    · have hb : ∀ c ∈ q.2, isBl c = true := by
        rcases hg with h | h | h | h
        · exact h.2.2
        · omega
        · omega
        · omega
      have hp : past isBl s.data.toList i = past isBl s.data.toList (i + q.2.length) := by
        unfold past
        rw [hd, hd2, List.takeWhile_append_of_pos hb, List.length_append, Nat.add_assoc]
      rw [hp, toks_pieces s l f (i + q.2.length) acc hd2 hlen ha' (by simp at hf; omega) (by simp [sig, h0] at hc; exact hc)]
      simp [toksAt, h0]
    · have hfirst : ∃ c t, q.2 = c :: t ∧ isBl c = false := by
        rcases hg with h | h | h | h
        · exact absurd h.1 h0
        · obtain ⟨c, t, e, _⟩ := h.2.first
          exact ⟨c, t, e, ld_bl c (h.2.all c (by rw [e]; simp))⟩
        · cases hq : q.2 with
          | nil => exact absurd hq h.2.1
          | cons c t => exact ⟨c, t, rfl, (dg_ld c (h.2.2 c (by rw [hq]; simp))).2⟩
        · obtain ⟨c, t, e, _, _, h3⟩ := mark_first _ h.2
          exact ⟨c, t, e, h3⟩
      obtain ⟨c, t, e, hcb⟩ := hfirst
      have hp : past isBl s.data.toList i = i := past_none isBl _ i c (t ++ flat l) (by rw [hd, e]; rfl) hcb
      have hlt : i < s.size := by rw [e] at hlen; simp at hlen; omega
      have ht := tokenAt_piece s i q (flat l) hd hg h0 (hn.imp id fun h c r e => starts_calm l (adj_ne l true ha') h c r e)
      obtain ⟨g, rfl⟩ : ∃ g, f = g + 1 := ⟨f - 1, by simp at hf; omega⟩
      have hcc : acc.length + (sig l).length + 1 ≤ 800 := by simp [sig, h0] at hc; simp [sig]; omega
      have hsz : (⟨q.2.toArray⟩ : ByteArray).size = q.2.length := by simp [ByteArray.size]
      rw [hp, toks, if_pos hlt, ht, if_neg h0, if_neg (by omega)]
      simp only [hsz]
      rw [toks_pieces s l g (i + q.2.length) _ hd2 hlen ha' (by simp at hf; omega) (by simp; omega)]
      simp [toksAt, h0]

/-- the tokens of what is written by pieces -/
theorem flat_len : ∀ (l : List Pc), (∀ q ∈ l, q.2 ≠ []) → l.length ≤ (flat l).length
  | [], _ => by simp [flat]
  | q :: l, h => by
    have := flat_len l fun q hq => h q (by simp [hq])
    have := List.length_pos_iff.2 (h q (by simp))
    simp [flat_cons]; omega
theorem tokens_pieces (l : List Pc) (ha : adj l true) (hc : (sig l).length ≤ 800) : tokens ⟨(flat l).toArray⟩ = .ok (toksAt 0 l ++ [⟨0, ⟨#[]⟩, (flat l).length⟩]) 0 := by
  have hz : (⟨(flat l).toArray⟩ : ByteArray).size = (flat l).length := by simp [ByteArray.size]
  have h := toks_pieces ⟨(flat l).toArray⟩ l ((flat l).length + 1) 0 [] (by simp) (Nat.zero_le _) ha (by have := flat_len l (adj_ne l true ha); omega) (by simpa using hc)
  unfold tokens
  rw [hz]
  rw [hz] at h
  simpa using h

/-- tokens that stand at a place -/
def Mat (ts : List Tok) : Nat → List Pc → Prop
  | _, [] => True
  | k, q :: l => (tk ts k).kind = q.1 ∧ tx ts k = q.2 ∧ Mat ts (k + 1) l
theorem mat_append {ts : List Tok} : ∀ {k : Nat} {a b : List Pc}, Mat ts k (a ++ b) ↔ Mat ts k a ∧ Mat ts (k + a.length) b
  | k, [], b => by simp [Mat]
  | k, q :: a, b => by
    simp only [List.cons_append, Mat, mat_append (k := k + 1) (a := a) (b := b), List.length_cons]
    rw [show k + 1 + a.length = k + (a.length + 1) by omega]
    simp [and_assoc]
theorem sig_append (a b : List Pc) : sig (a ++ b) = sig a ++ sig b := by simp [sig]
theorem mat_toks (e : Tok) : ∀ (l : List Pc) (i : Nat) (pre : List Tok), Mat (pre ++ toksAt i l ++ [e]) pre.length (sig l)
  | [], i, pre => by simp [sig, Mat]
  | q :: l, i, pre => by
    by_cases h : q.1 = 0
    · have := mat_toks e l (i + q.2.length) pre
      simpa [toksAt, sig, h] using this
    · have := mat_toks e l (i + q.2.length) (pre ++ [⟨q.1, ⟨q.2.toArray⟩, i⟩])
      have h1 : tk (pre ++ toksAt i (q :: l) ++ [e]) pre.length = ⟨q.1, ⟨q.2.toArray⟩, i⟩ := by unfold tk; simp [toksAt, h]
      have hs : sig (q :: l) = q :: sig l := by simp [sig, h]
      rw [hs]
      refine ⟨by rw [h1], by unfold tx; rw [h1, ByteArray.toList_eq], ?_⟩
      simpa [toksAt, h] using this
end Go.Proofs.YtiimnnancblbkaaDoor
set_option linter.unusedSimpArgs false
set_option linter.unusedVariables false
namespace Go.Proofs.YtiimnnancblbkaaDoor

/-- an expression without its places -/
def er : Ex → Ex
  | .num _ n ty => .num 0 n ty
  | .name _ s => .name 0 s
  | .field _ s g => .field 0 s g
  | .not _ x => .not 0 (er x)
  | .bin _ op x y => .bin 0 op (er x) (er y)
theorem textP_er : ∀ (x : Ex) (n : Nat), textP (er x) n = textP x n
  | .num .., _ => rfl
  | .name .., _ => rfl
  | .field .., _ => rfl
  | .not _ x, _ => by simp only [er, textP, textP_er x]
  | .bin _ op x y, _ => by simp only [er, textP, textP_er x, textP_er y]

/-- the tokens alone -/
def exK : Ex → Nat → List Pc
  | .num _ n ty, _ => [valQ ty n]
  | .name _ s, _ => [wd s.data.toList]
  | .field _ s g, _ => [wd s.data.toList, mk [46], wd g.data.toList]
  | .not _ x, _ => [wd [110, 111, 116]] ++ exK x 6
  | .bin _ op x y, least => (if levelN op.toList < least then [mk [40]] else []) ++ exK x (levelN op.toList) ++ ([opQ op]) ++ exK y (levelN op.toList + 1) ++ (if levelN op.toList < least then [mk [41]] else [])
theorem opQ_kind (op : ByteArray) : (opQ op).1 ≠ 0 := by unfold opQ; dsimp only; split <;> decide
theorem valQ_kind (ty n : Nat) : (valQ ty n).1 ≠ 0 := by unfold valQ; split <;> simp
theorem sig_one (q : Pc) (h : q.1 ≠ 0) : sig [q] = [q] := by simp [sig, h]
theorem sig_sp3 (q : Pc) (h : q.1 ≠ 0) : sig [sp, q, sp] = [q] := by simp [sig, h]
theorem exK_eq : ∀ (x : Ex) (n : Nat), sig (exQ x n) = exK x n
  | .num _ n ty, _ => by simp only [exQ, exK]; exact sig_one _ (valQ_kind ty n)
  | .name .., _ => by simp [exQ, exK, sig]
  | .field .., _ => by simp [exQ, exK, sig]
  | .not _ x, _ => by
    simp only [exQ, exK, sig_append, exK_eq x]
    rfl
  | .bin _ op x y, n => by
    simp only [exQ, exK, sig_append, exK_eq x, exK_eq y, sig_sp3 _ (opQ_kind op)]
    by_cases h : levelN op.toList < n <;> simp [h, sig]

def GoodN (s : ByteArray) : Prop := IsWord s.data.toList ∧ s.size ≤ 12 ∧ keptL.contains s.toList = false
def GoodEx : Ex → Prop
  | .num _ n ty => (ty = 1 ∧ n ≤ 1) ∨ (ty = 2 ∧ n ≤ 255)
  | .name _ s => GoodN s
  | .field _ s g => GoodN s ∧ GoodN g
  | .not _ x => GoodEx x
  | .bin _ op x y => 1 ≤ levelN op.toList ∧ GoodEx x ∧ GoodEx y
/-- how many of not and ( and ) lie in each other -/
def need : Ex → Nat → Nat
  | .not _ x, _ => 1 + need x 6
  | .bin _ op x y, n => (if levelN op.toList < n then 1 else 0) + max (need x (levelN op.toList)) (need y (levelN op.toList + 1))
  | .num .., _ => 0
  | .name .., _ => 0
  | .field .., _ => 0

section
variable {ts : List Tok}
def Ev1 (ts : List Tok) (deep k : Nat) (x : Ex) (k' : Nat) : Prop := ∃ f0, ∀ f, f0 ≤ f → oneP ts f deep k = .ok x k'
def Ev2 (ts : List Tok) (lv deep k : Nat) (x : Ex) (k' : Nat) : Prop := ∃ f0, ∀ f, f0 ≤ f → twoP ts f lv deep k = .ok x k'
def EvL (ts : List Tok) (lv deep k : Nat) (x : Ex) (k' : Nat) : Prop := ∃ f0 c, ∀ f, f0 ≤ f → twoP ts (f + c) lv deep k = loopP ts f lv deep (tk ts k).pos x k'

theorem level_le (s : List UInt8) : levelN s ≤ 5 := by
  unfold levelN
  repeat' split
  all_goals omega

theorem ev_six {deep k : Nat} {x : Ex} {k' : Nat} (h : Ev1 ts deep k x k') : Ev2 ts 6 deep k x k' := by
  obtain ⟨f0, h⟩ := h
  refine ⟨f0 + 1, fun f hf => ?_⟩
  obtain ⟨g, rfl⟩ : ∃ g, f = g + 1 := ⟨f - 1, by omega⟩
  simp only [twoP, if_true]
  exact h g (by omega)
theorem ev_loop {lv deep k : Nat} {x : Ex} {k' : Nat} (hl : lv ≠ 6) (h : Ev2 ts (lv + 1) deep k x k') : EvL ts lv deep k x k' := by
  obtain ⟨f0, h⟩ := h
  refine ⟨f0, 1, fun f hf => ?_⟩
  simp only [twoP, if_neg hl, h f hf, Res.bind]
theorem ev_stop {lv deep k : Nat} {x : Ex} {k' : Nat} (h : EvL ts lv deep k x k') (hs : levelN (tx ts k') ≠ lv) : Ev2 ts lv deep k x k' := by
  obtain ⟨f0, c, h⟩ := h
  refine ⟨f0 + c + 1, fun f hf => ?_⟩
  obtain ⟨g, rfl⟩ : ∃ g, f = (g + 1) + c := ⟨f - c - 1, by omega⟩
  rw [h (g + 1) (by omega)]
  simp only [loopP, if_neg hs]
theorem ev_op {lv deep k k1 k2 : Nat} {x y : Ex} (h : EvL ts lv deep k x k1) (hop : levelN (tx ts k1) = lv) (hy : Ev2 ts (lv + 1) deep (k1 + 1) y k2) : EvL ts lv deep k (.bin (tk ts k).pos (tk ts k1).text x y) k2 := by
  obtain ⟨f0, c, h⟩ := h
  obtain ⟨f1, hy⟩ := hy
  refine ⟨max f0 f1, c + 1, fun f hf => ?_⟩
  have e := h (f + 1) (by omega)
  rw [show f + (c + 1) = (f + 1) + c by omega, e]
  simp only [loopP, if_pos hop, hy f (by omega), Res.bind]
theorem ev_paren {deep k k1 : Nat} {x : Ex} (hd : deep ≤ 8) (h0 : tx ts k = [40]) (h : Ev2 ts 1 (deep + 1) (k + 1) x k1) (h1 : tx ts k1 = [41]) : Ev1 ts deep k x (k1 + 1) := by
  obtain ⟨f0, h⟩ := h
  refine ⟨f0 + 1, fun f hf => ?_⟩
  obtain ⟨g, rfl⟩ : ∃ g, f = g + 1 := ⟨f - 1, by omega⟩
  have e1 : (tx ts k == [110, 111, 116]) = false := by rw [h0]; decide
  have e2 : (tx ts k == [40]) = true := by rw [h0]; decide
  have e3 : (tx ts k1 == [41]) = true := by rw [h1]; decide
  simp only [oneP, if_neg (show ¬ 8 < deep by omega), e1, e2, h g (by omega), Res.bind, wantP, e3, if_true, Bool.false_eq_true, if_false]
theorem ev_not {deep k k1 : Nat} {x : Ex} (hd : deep ≤ 8) (h0 : tx ts k = [110, 111, 116]) (h : Ev1 ts (deep + 1) (k + 1) x k1) : Ev1 ts deep k (.not (tk ts k).pos x) k1 := by
  obtain ⟨f0, h⟩ := h
  refine ⟨f0 + 1, fun f hf => ?_⟩
  obtain ⟨g, rfl⟩ : ∃ g, f = g + 1 := ⟨f - 1, by omega⟩
  have e1 : (tx ts k == [110, 111, 116]) = true := by rw [h0]; decide
  simp only [oneP, if_neg (show ¬ 8 < deep by omega), e1, h g (by omega), Res.bind, if_true]

theorem text_eq {t : Tok} {s : ByteArray} (h : t.text.toList = s.data.toList) : t.text = s := by
  rw [ByteArray.toList_eq] at h
  exact ByteArray.ext (Array.toList_inj.1 h)
theorem word_ne {l : List UInt8} (h : IsWord l) {m : List UInt8} (hm : ∀ c t, m = c :: t → isLd c = false) (hn : m ≠ []) : (l == m) = false := by
  obtain ⟨c, t, e, _⟩ := h.first
  have hc := h.all c (by rw [e]; simp)
  cases m with
  | nil => exact absurd rfl hn
  | cons d m =>
    have := hm d m rfl
    rw [e]
    simp only [beq_eq_false_iff_ne, ne_eq, List.cons.injEq, not_and]
    intro e2
    rw [e2, this] at hc
    cases hc
theorem kept_ne {l : List UInt8} (h : keptL.contains l = false) {m : List UInt8} (hm : keptL.contains m = true) : (l == m) = false := by
  cases he : (l == m) with
  | false => rfl
  | true => rw [beq_iff_eq] at he; rw [he, hm] at h; cases h

theorem name_back {k : Nat} {s : ByteArray} (hs : GoodN s) (h1 : (tk ts k).kind = 1) (h2 : tx ts k = s.data.toList) : isNm (tk ts k) = true ∧ nameP ts k = .ok s (k + 1) := by
  have ht : (tk ts k).text = s := text_eq h2
  have hn : isNm (tk ts k) = true := by simp only [isNm, h1, ht, hs.2.2]; rfl
  refine ⟨hn, ?_⟩
  simp only [nameP, hn, if_true, ht, if_pos hs.2.1]

theorem dec_dg (n : Nat) : (∀ c ∈ Lib.decDigits n, isDg c = true) ∧ Lib.decDigits n ≠ [] ∧ valOf (Lib.decDigits n) = n := by
  have dg : ∀ i, i < 10 → isDg (UInt8.ofNat (48 + i)) = true ∧ (UInt8.ofNat (48 + i)).toNat = 48 + i := by decide
  induction n using Nat.strongRecOn with
  | _ n ih =>
    rw [Lib.decDigits]
    by_cases h : n < 10
    · rw [dif_pos h]
      refine ⟨fun c hc => ?_, by simp, ?_⟩
      · rw [List.mem_singleton] at hc; rw [hc]; exact (dg n h).1
      · have e : valOf [UInt8.ofNat (48 + n)] = 0 * 10 + ((UInt8.ofNat (48 + n)).toNat - 48) := rfl
        rw [e, (dg n h).2]; omega
    · rw [dif_neg h]
      obtain ⟨i1, i2, i3⟩ := ih (n / 10) (by omega)
      refine ⟨fun c hc => ?_, by simp, ?_⟩
      · rcases List.mem_append.1 hc with h | h
        · exact i1 c h
        · rw [List.mem_singleton] at h; rw [h]; exact (dg (n % 10) (by omega)).1
      · have e : valOf (Lib.decDigits (n / 10) ++ [UInt8.ofNat (48 + n % 10)]) = valOf (Lib.decDigits (n / 10)) * 10 + ((UInt8.ofNat (48 + n % 10)).toNat - 48) := by simp [valOf]
        rw [e, i3, (dg (n % 10) (by omega)).2]
        omega
theorem dec_ne (n : Nat) {m : List UInt8} (hm : ∀ c t, m = c :: t → isDg c = false) : (Lib.decDigits n == m) = false := by
  obtain ⟨h1, h2, _⟩ := dec_dg n
  cases hd : Lib.decDigits n with
  | nil => exact absurd hd h2
  | cons d r =>
    rw [hd] at h1
    have hc := h1 d (by simp)
    cases m with
    | nil => rfl
    | cons c t =>
      simp only [beq_eq_false_iff_ne, ne_eq, List.cons.injEq, not_and]
      intro e
      rw [e, hm c t rfl] at hc
      cases hc

theorem one_val {deep k n ty : Nat} (hd : deep ≤ 8) (hg : (ty = 1 ∧ n ≤ 1) ∨ (ty = 2 ∧ n ≤ 255)) (h1 : (tk ts k).kind = (valQ ty n).1) (h2 : tx ts k = (valQ ty n).2) : Ev1 ts deep k (.num (tk ts k).pos n ty) (k + 1) := by
  refine ⟨1, fun f hf => ?_⟩
  obtain ⟨g, rfl⟩ : ∃ g, f = g + 1 := ⟨f - 1, by omega⟩
  rcases hg with ⟨rfl, hn⟩ | ⟨rfl, hn⟩
  · by_cases h0 : n = 0
    · subst h0
      have h2 : tx ts k = [102, 97, 108, 115, 101] := h2
      simp only [oneP, if_neg (show ¬ 8 < deep by omega), h2]
      rfl
    · have hn1 : n = 1 := by omega
      subst hn1
      have h2 : tx ts k = [116, 114, 117, 101] := h2
      simp only [oneP, if_neg (show ¬ 8 < deep by omega), h2]
      rfl
  · have h1 : (tk ts k).kind = 2 := h1
    have h2 : tx ts k = Lib.decDigits n := h2
    have m1 : (tx ts k == [110, 111, 116]) = false := by rw [h2]; exact dec_ne n (by intro c t e; cases e; decide)
    have m2 : (tx ts k == [40]) = false := by rw [h2]; exact dec_ne n (by intro c t e; cases e; decide)
    have m3 : (tx ts k == [116, 114, 117, 101]) = false := by rw [h2]; exact dec_ne n (by intro c t e; cases e; decide)
    have m4 : (tx ts k == [102, 97, 108, 115, 101]) = false := by rw [h2]; exact dec_ne n (by intro c t e; cases e; decide)
    have hv : valOf (tx ts k) = n := by rw [h2]; exact (dec_dg n).2.2
    simp only [oneP, if_neg (show ¬ 8 < deep by omega), m1, m2, m3, m4, Bool.false_eq_true, if_false, h1, if_true, byteP, hv, if_pos hn, Res.bind]

theorem not_word {s : ByteArray} (hs : GoodN s) {k : Nat} (h2 : tx ts k = s.data.toList) : (tx ts k == [110, 111, 116]) = false ∧ (tx ts k == [40]) = false ∧ (tx ts k == [116, 114, 117, 101]) = false ∧ (tx ts k == [102, 97, 108, 115, 101]) = false := by
  have hk : keptL.contains (tx ts k) = false := by have := hs.2.2; rw [ByteArray.toList_eq] at this; rw [h2]; exact this
  refine ⟨kept_ne hk (by decide), ?_, kept_ne hk (by decide), kept_ne hk (by decide)⟩
  rw [h2]
  exact word_ne hs.1 (by intro c t e; cases e; decide) (by simp)

theorem one_name2 {deep k : Nat} {s : ByteArray} (hd : deep ≤ 8) (hs : GoodN s) (h1 : (tk ts k).kind = 1) (h2 : tx ts k = s.data.toList) (h3 : tx ts (k + 1) ≠ [46]) : Ev1 ts deep k (.name (tk ts k).pos s) (k + 1) := by
  refine ⟨1, fun f hf => ?_⟩
  obtain ⟨g, rfl⟩ : ∃ g, f = g + 1 := ⟨f - 1, by omega⟩
  obtain ⟨m1, m2, m3, m4⟩ := not_word hs h2
  have m5 : (tx ts (k + 1) == [46]) = false := by simpa using h3
  simp only [oneP, if_neg (show ¬ 8 < deep by omega), m1, m2, m3, m4, Bool.false_eq_true, if_false, h1, (name_back hs h1 h2).2, Res.bind, m5, show ¬ (1 : Nat) = 2 by decide]
theorem one_field2 {deep k : Nat} {s g : ByteArray} (hd : deep ≤ 8) (hs : GoodN s) (hg : GoodN g) (h1 : (tk ts k).kind = 1) (h2 : tx ts k = s.data.toList) (h3 : tx ts (k + 1) = [46]) (h4 : (tk ts (k + 1 + 1)).kind = 1) (h5 : tx ts (k + 1 + 1) = g.data.toList) : Ev1 ts deep k (.field (tk ts k).pos s g) (k + 3) := by
  refine ⟨1, fun f hf => ?_⟩
  obtain ⟨g, rfl⟩ : ∃ g, f = g + 1 := ⟨f - 1, by omega⟩
  obtain ⟨m1, m2, m3, m4⟩ := not_word hs h2
  have m5 : (tx ts (k + 1) == [46]) = true := by rw [h3]; decide
  simp only [oneP, if_neg (show ¬ 8 < deep by omega), m1, m2, m3, m4, Bool.false_eq_true, if_false, h1, (name_back hs h1 h2).2, Res.bind, m5, if_true, (name_back hg h4 h5).2, show ¬ (1 : Nat) = 2 by decide]

/-- x, written at a level, is read back -/
def Has (ts : List Tok) (x : Ex) (lv deep k : Nat) : Prop := ∃ x', er x' = er x ∧ (lv ≤ 5 → levelN (tx ts (k + (exK x lv).length)) ≤ lv → EvL ts lv deep k x' (k + (exK x lv).length)) ∧ (lv = 6 → Ev1 ts deep k x' (k + (exK x lv).length))

theorem Has.two {x : Ex} {lv deep k : Nat} (h : Has ts x lv deep k) (hl : lv ≤ 6) (hn : levelN (tx ts (k + (exK x lv).length)) < lv) : ∃ x', er x' = er x ∧ Ev2 ts lv deep k x' (k + (exK x lv).length) := by
  obtain ⟨x', e, h1, h2⟩ := h
  refine ⟨x', e, ?_⟩
  by_cases h6 : lv = 6
  · subst h6; exact ev_six (h2 rfl)
  · exact ev_stop (h1 (by omega) (by omega)) (by omega)
theorem Has.down {x : Ex} {lv deep k : Nat} (he : exK x lv = exK x (lv + 1)) (hl : lv ≤ 5) (h : Has ts x (lv + 1) deep k) : Has ts x lv deep k := by
  by_cases hn : levelN (tx ts (k + (exK x lv).length)) ≤ lv
  · obtain ⟨x', e, h1⟩ := h.two (by omega) (by rw [← he]; omega)
    refine ⟨x', e, fun _ _ => ?_, fun h => by omega⟩
    rw [he]
    exact ev_loop (by omega) h1
  · obtain ⟨x', e, _⟩ := h
    exact ⟨x', e, fun _ h => absurd h hn, fun h => by omega⟩
theorem Has.flat {x : Ex} {m deep k : Nat} (h : Has ts x m deep k) (hm : m ≤ 6) : ∀ (d lv : Nat), lv + d = m → (∀ i, lv ≤ i → i ≤ m → exK x i = exK x m) → Has ts x lv deep k
  | 0, lv, e, _ => by
    have : lv = m := by omega
    subst this; exact h
  | d + 1, lv, e, hf => by
    refine Has.down ?_ (by omega) (Has.flat h hm d (lv + 1) (by omega) fun i h1 h2 => hf i (by omega) h2)
    rw [hf lv (Nat.le_refl _) (by omega), hf (lv + 1) (by omega) (by omega)]

theorem level_text {k : Nat} {op : ByteArray} (h : tx ts k = (opQ op).2) : (tk ts k).text = op ∧ levelN (tx ts k) = levelN op.toList := by
  have e : (tk ts k).text = op := text_eq h
  exact ⟨e, by unfold tx; rw [e]⟩

theorem ex_back : ∀ (x : Ex), GoodEx x → ∀ (lv deep k : Nat), 1 ≤ lv → lv ≤ 6 → Mat ts k (exK x lv) → need x lv + deep ≤ 8 → tx ts (k + (exK x lv).length) ≠ [46] → Has ts x lv deep k
  | .num p n ty, hg, lv, deep, k, h1, h6, hm, hn, hd => by
    have hn : 0 + deep ≤ 8 := hn
    have h : Has ts (.num p n ty) 6 deep k := ⟨.num (tk ts k).pos n ty, rfl, fun h => by omega, fun _ => one_val (deep := deep) (by omega) hg hm.1 hm.2.1⟩
    exact h.flat (Nat.le_refl _) (6 - lv) lv (by omega) fun _ _ _ => rfl
  | .name p s, hg, lv, deep, k, h1, h6, hm, hn, hd => by
    have hn : 0 + deep ≤ 8 := hn
    have h : Has ts (.name p s) 6 deep k := ⟨.name (tk ts k).pos s, rfl, fun h => by omega, fun _ => one_name2 (deep := deep) (by omega) hg hm.1 hm.2.1 hd⟩
    exact h.flat (Nat.le_refl _) (6 - lv) lv (by omega) fun _ _ _ => rfl
  | .field p s g, hg, lv, deep, k, h1, h6, hm, hn, hd => by
    have hn : 0 + deep ≤ 8 := hn
    have h : Has ts (.field p s g) 6 deep k := ⟨.field (tk ts k).pos s g, rfl, fun h => by omega, fun _ => one_field2 (deep := deep) (by omega) hg.1 hg.2 hm.1 hm.2.1 hm.2.2.2.1 hm.2.2.2.2.1 hm.2.2.2.2.2.1⟩
    exact h.flat (Nat.le_refl _) (6 - lv) lv (by omega) fun _ _ _ => rfl
  | .not p x, hg, lv, deep, k, h1, h6, hm, hn, hd => by
    have hn : 1 + need x 6 + deep ≤ 8 := hn
    have hl : (exK (.not p x) lv).length = 1 + (exK x 6).length := by simp [exK]; omega
    rw [hl] at hd
    have ih := ex_back x hg 6 (deep + 1) (k + 1) (by omega) (Nat.le_refl _) hm.2.2 (by omega) (by rw [Nat.add_assoc]; exact hd)
    obtain ⟨x', e, _, h2⟩ := ih
    have h : Has ts (.not p x) 6 deep k := ⟨.not (tk ts k).pos x', by simp only [er, e], fun h => by omega, fun _ => by
      have hl6 : (exK (.not p x) 6).length = 1 + (exK x 6).length := by simp [exK]; omega
      rw [hl6, ← Nat.add_assoc]
      exact ev_not (by omega) hm.2.1 (h2 rfl)⟩
    exact h.flat (Nat.le_refl _) (6 - lv) lv (by omega) fun _ _ _ => rfl
  | .bin p op x y, hg, lv, deep, k, h1, h6, hm, hn, hd => by
    obtain ⟨hl1, hgx, hgy⟩ := hg
    have hl5 := level_le op.toList
    -- without ( and )
    have core : ∀ (deep k : Nat), Mat ts k (exK x (levelN op.toList) ++ [opQ op] ++ exK y (levelN op.toList + 1)) → max (need x (levelN op.toList)) (need y (levelN op.toList + 1)) + deep ≤ 8 → tx ts (k + (exK x (levelN op.toList) ++ [opQ op] ++ exK y (levelN op.toList + 1)).length) ≠ [46] → ∀ lv, 1 ≤ lv → lv ≤ levelN op.toList → Has ts (.bin p op x y) lv deep k := by
      intro deep k hm hn hd lv hlv1 hlv
      have ekeep : ∀ i, i ≤ levelN op.toList → exK (.bin p op x y) i = exK x (levelN op.toList) ++ [opQ op] ++ exK y (levelN op.toList + 1) := fun i hi => by
        simp [exK, if_neg (show ¬ levelN op.toList < i by omega)]
      have h : Has ts (.bin p op x y) (levelN op.toList) deep k := by
        obtain ⟨hm1, hm2⟩ := mat_append.1 hm
        obtain ⟨hm3, hm4⟩ := mat_append.1 hm1
        rw [List.length_append] at hm2 hd
        have hop := level_text hm4.2.1
        have hn46 : tx ts (k + (exK x (levelN op.toList)).length) ≠ [46] := by
          intro e
          rw [← hop.2, e] at hl1
          exact absurd hl1 (by decide)
        have hx := ex_back x hgx (levelN op.toList) deep k hl1 (by omega) hm3 (by omega) hn46
        have hd' : tx ts (k + (exK x (levelN op.toList)).length + 1 + (exK y (levelN op.toList + 1)).length) ≠ [46] := by
          have : k + (exK x (levelN op.toList)).length + 1 + (exK y (levelN op.toList + 1)).length = k + ((exK x (levelN op.toList) ++ [opQ op]).length + (exK y (levelN op.toList + 1)).length) := by simp; omega
          rw [this]; exact hd
        have hm2' : Mat ts (k + (exK x (levelN op.toList)).length + 1) (exK y (levelN op.toList + 1)) := by
          have : k + (exK x (levelN op.toList)).length + 1 = k + ((exK x (levelN op.toList)).length + [opQ op].length) := by simp; omega
          rw [this]; simpa using hm2
        have hy := ex_back y hgy (levelN op.toList + 1) deep (k + (exK x (levelN op.toList)).length + 1) (by omega) (by omega) hm2' (by omega) hd'
        have hlen : k + (exK (.bin p op x y) (levelN op.toList)).length = k + (exK x (levelN op.toList)).length + 1 + (exK y (levelN op.toList + 1)).length := by
          rw [ekeep _ (Nat.le_refl _)]; simp; omega
        by_cases hnl : levelN (tx ts (k + (exK (.bin p op x y) (levelN op.toList)).length)) ≤ levelN op.toList
        · obtain ⟨x', ex, hxL, _⟩ := hx
          obtain ⟨y', ey, hy2⟩ := hy.two (by omega) (by rw [← hlen]; omega)
          have hL := ev_op (hxL hl5 (by rw [hop.2]; exact Nat.le_refl _)) hop.2 hy2
          refine ⟨_, ?_, fun _ _ => by rw [hlen]; exact hL, fun h => by omega⟩
          rw [hop.1]; simp only [er, ex, ey]
        · exact ⟨.bin p op x y, rfl, fun _ h => absurd h hnl, fun h => by omega⟩
      exact h.flat (by omega) (levelN op.toList - lv) lv (by omega) fun i h1 h2 => by rw [ekeep i (by omega), ekeep _ (Nat.le_refl _)]
    by_cases hlv : levelN op.toList < lv
    · have epar : ∀ i, levelN op.toList < i → exK (.bin p op x y) i = [mk [40]] ++ (exK x (levelN op.toList) ++ [opQ op] ++ exK y (levelN op.toList + 1)) ++ [mk [41]] := fun i hi => by
        simp [exK, if_pos hi]
      have e1 : exK (.bin p op x y) 1 = exK x (levelN op.toList) ++ [opQ op] ++ exK y (levelN op.toList + 1) := by simp only [exK, if_neg (show ¬ levelN op.toList < 1 by omega), List.nil_append, List.append_nil]
      rw [epar lv hlv] at hm hd
      have hn' : 1 + max (need x (levelN op.toList)) (need y (levelN op.toList + 1)) + deep ≤ 8 := by
        have : need (.bin p op x y) lv = 1 + max (need x (levelN op.toList)) (need y (levelN op.toList + 1)) := by simp [need, if_pos hlv]
        rw [this] at hn; exact hn
      obtain ⟨hm1, hm2⟩ := mat_append.1 hm
      have hm3 := hm1.2.2
      generalize hM : exK x (levelN op.toList) ++ [opQ op] ++ exK y (levelN op.toList + 1) = M at *
      have hlast : tx ts (k + 1 + M.length) = [41] := by
        have := hm2.2.1
        rw [show k + ([mk [40]] ++ M).length = k + 1 + M.length by simp; omega] at this
        exact this
      have hc := core (deep + 1) (k + 1) hm3 (by omega) (by rw [hlast]; decide) 1 (Nat.le_refl _) hl1
      obtain ⟨x', e, h2⟩ := hc.two (by omega) (by rw [e1, hlast]; decide)
      rw [e1] at h2
      have h : Has ts (.bin p op x y) 6 deep k := ⟨x', e, fun h => by omega, fun _ => by
        rw [epar 6 (by omega), show k + ([mk [40]] ++ M ++ [mk [41]]).length = k + 1 + M.length + 1 by simp; omega]
        exact ev_paren (by omega) hm1.2.1 h2 hlast⟩
      exact h.flat (Nat.le_refl _) (6 - lv) lv (by omega) fun i h1 h2 => by rw [epar i (by omega), epar 6 (by omega)]
    · have e1 : exK (.bin p op x y) lv = exK x (levelN op.toList) ++ [opQ op] ++ exK y (levelN op.toList + 1) := by simp [exK, if_neg hlv]
      rw [e1] at hm hd
      have hn' : max (need x (levelN op.toList)) (need y (levelN op.toList + 1)) + deep ≤ 8 := by
        have : need (.bin p op x y) lv = 0 + max (need x (levelN op.toList)) (need y (levelN op.toList + 1)) := by simp [need, if_neg hlv]
        rw [this] at hn; omega
      exact core deep k hm hn' hd lv h1 (by omega)
end
end Go.Proofs.YtiimnnancblbkaaDoor
set_option linter.unusedSimpArgs false
set_option linter.unusedVariables false
namespace Go.Proofs.YtiimnnancblbkaaDoor

mutual
/-- statements without their places -/
def erS : St → St
  | .set _ s x => .set 0 s (er x)
  | .call _ s l n => .call 0 s (l.map er) n
  | .cond _ x th el => .cond 0 (er x) (erL th) (erL el)
def erL : List St → List St
  | [] => []
  | s :: l => erS s :: erL l
end
theorem erL_length : ∀ l : List St, (erL l).length = l.length
  | [] => by simp [erL]
  | s :: l => by simp [erL, erL_length l]
theorem erL_append : ∀ a b : List St, erL (a ++ b) = erL a ++ erL b
  | [], b => by simp [erL]
  | s :: a, b => by simp [erL, erL_append a b]

theorem argsT_er : ∀ l : List Ex, argsT (l.map er) = argsT l
  | [] => rfl
  | x :: l => by simp only [List.map_cons, argsT, textP_er, argsT_er l]
mutual
theorem stT_er : ∀ (s : St) (left : List UInt8), stT (erS s) left = stT s left
  | .set .., _ => by simp only [erS, stT, textP_er]
  | .call .., _ => by simp only [erS, stT, argsT_er]
  | .cond _ x th [], left => by simp only [erS, erL, stT, textP_er, stsT_er th]
  | .cond _ x th (s :: el), left => by
    have := stsT_er (s :: el) (left ++ [32, 32])
    simp only [erL] at this
    simp only [erS, erL, stT, textP_er, stsT_er th, this]
theorem stsT_er : ∀ (l : List St) (left : List UInt8), stsT (erL l) left = stsT l left
  | [], _ => by simp only [erL]
  | s :: l, left => by simp only [erL, stsT, stT_er s, stsT_er l]
end
theorem printT_er {ds : List De} {a b : List St} (h : erL a = erL b) : printT (ds, a) = printT (ds, b) := by
  have : ∀ l : List UInt8, stsT a l = stsT b l := fun l => by rw [← stsT_er a, ← stsT_er b, h]
  simp only [printT, this]

def argsK : List Ex → List Pc
  | [] => []
  | x :: l => exK x 1 ++ [mk [44]] ++ argsK l
mutual
def stK : St → List Pc
  | .set _ s x => [wd s.data.toList, mk [58, 61]] ++ exK x 1 ++ [mk [59]]
  | .call _ s l n => [wd s.data.toList, mk [40]] ++ argsK l ++ [(2, Lib.decDigits n), mk [41], mk [59]]
  | .cond _ x th el => [wd [105, 102]] ++ exK x 1 ++ [wd [116, 104, 101, 110]] ++ stsK th ++ (match el with | [] => [] | _ :: _ => [wd [101, 108, 115, 101]] ++ stsK el) ++ [wd [101, 110, 100], mk [59]]
def stsK : List St → List Pc
  | [] => []
  | s :: l => stK s ++ stsK l
end
def lineK (d : De) : List Pc := (if 3 ≤ d.ty then [wd (tyT d.ty), wd d.name.data.toList] else [wd (wayT d.way), wd d.name.data.toList, mk [58], wd (tyT d.ty)]) ++ (if d.init = 0 then [] else [mk [61], valQ d.ty d.init]) ++ [mk [59]]
def linesK : List De → List Pc
  | [] => []
  | d :: l => lineK d ++ linesK l
def printK (p : List De × List St) : List Pc := linesK p.1 ++ [wd [98, 101, 103, 105, 110]] ++ stsK p.2 ++ [wd [101, 110, 100]]

theorem argsK_eq : ∀ l : List Ex, sig (argsQ l) = argsK l
  | [] => rfl
  | x :: l => by
    simp only [argsQ, argsK, sig_append, exK_eq, argsK_eq l]
    rfl
theorem sig_nil : sig [] = [] := rfl
theorem sig_wd (s : List UInt8) (l : List Pc) : sig (wd s :: l) = wd s :: sig l := rfl
theorem sig_mk (s : List UInt8) (l : List Pc) : sig (mk s :: l) = mk s :: sig l := rfl
theorem sig_nu (s : List UInt8) (l : List Pc) : sig ((2, s) :: l) = (2, s) :: sig l := rfl
theorem sig_bl (s : List UInt8) (l : List Pc) : sig ((0, s) :: l) = sig l := rfl
theorem sig_val (ty n : Nat) (l : List Pc) : sig (valQ ty n :: l) = valQ ty n :: sig l := by simp [sig, valQ_kind]
mutual
theorem stK_eq : ∀ (s : St) (left : List Pc), sig left = [] → sig (stQ s left) = stK s
  | .set _ s x, left, h => by simp only [stQ, stK, sig_append, exK_eq, h, sig_wd, sig_mk, sig_bl, sig_nil, List.nil_append]
  | .call _ s l n, left, h => by simp only [stQ, stK, sig_append, argsK_eq, h, sig_wd, sig_mk, sig_nu, sig_bl, sig_nil, List.nil_append]
  | .cond _ x th [], left, h => by
    have h1 := stsK_eq th (left ++ [sp, sp]) (by rw [sig_append, h]; rfl)
    simp only [stQ, stK, sig_append, exK_eq, h, h1, sig_wd, sig_mk, sig_bl, sig_nil, List.nil_append]
  | .cond _ x th (s :: el), left, h => by
    have h1 := stsK_eq th (left ++ [sp, sp]) (by rw [sig_append, h]; rfl)
    have h2 := stsK_eq (s :: el) (left ++ [sp, sp]) (by rw [sig_append, h]; rfl)
    simp only [stQ, stK, sig_append, exK_eq, h, h1, h2, sig_wd, sig_mk, sig_bl, sig_nil, List.nil_append]
theorem stsK_eq : ∀ (l : List St) (left : List Pc), sig left = [] → sig (stsQ l left) = stsK l
  | [], _, _ => by simp only [stsQ, stsK]; rfl
  | s :: l, left, h => by simp only [stsQ, stsK, sig_append, stK_eq s left h, stsK_eq l left h]
end
theorem lineK_eq (d : De) : sig (lineQ d) = lineK d := by
  unfold lineQ lineK headQ
  by_cases h : 3 ≤ d.ty <;> by_cases h2 : d.init = 0 <;> simp only [h, h2, if_true, if_false, sig_append, sig_wd, sig_mk, sig_bl, sig_val, sig_nil]
theorem linesK_eq : ∀ l : List De, sig (linesQ l) = linesK l
  | [] => rfl
  | d :: l => by simp only [linesQ, linesK, sig_append, lineK_eq, linesK_eq l]
theorem printK_eq (p : List De × List St) : sig (printQ p) = printK p := by
  have h := stsK_eq p.2 [sp, sp] rfl
  simp only [printQ, printK, sig_append, linesK_eq, h]
  rfl

structure GoodX (x : Ex) : Prop where
  good : GoodEx x
  deep : need x 1 ≤ 8
mutual
def GoodSt : St → Prop
  | .set _ s x => GoodN s ∧ GoodX x
  | .call _ s l n => GoodN s ∧ (∀ x ∈ l, GoodX x) ∧ n ≤ 255
  | .cond _ x th el => GoodX x ∧ GoodL th ∧ GoodL el
def GoodL : List St → Prop
  | [] => True
  | s :: l => GoodSt s ∧ GoodL l
end
mutual
/-- how many ifs lie in each other -/
def depS : St → Nat
  | .set .. => 0
  | .call .. => 0
  | .cond _ _ th el => 1 + max (depL th) (depL el)
def depL : List St → Nat
  | [] => 0
  | s :: l => max (depS s) (depL l)
end
theorem GoodL_append : ∀ a b : List St, GoodL (a ++ b) ↔ GoodL a ∧ GoodL b
  | [], b => by simp [GoodL]
  | s :: a, b => by simp [GoodL, GoodL_append a b, and_assoc]
theorem depL_append : ∀ a b : List St, depL (a ++ b) = max (depL a) (depL b)
  | [], b => by simp [depL]
  | s :: a, b => by simp [depL, depL_append a b, Nat.max_assoc]
structure GoodD (d : De) : Prop where
  name : GoodN d.name
  form : (3 ≤ d.ty ∧ d.ty ≤ 5 ∧ d.way = 3 ∧ d.init = 0) ∨ (1 ≤ d.way ∧ d.way ≤ 3 ∧ 1 ≤ d.ty ∧ d.ty ≤ 2 ∧ (d.way = 1 → d.init = 0) ∧ (d.ty = 1 → d.init ≤ 1) ∧ d.init ≤ 255)

section
variable {ts : List Tok}

theorem want_back {s : List UInt8} {k : Nat} (h : tx ts k = s) : wantP ts s k = .ok () (k + 1) := by
  simp only [wantP, h, beq_self_eq_true, if_true]

theorem ex_two {x : Ex} (hx : GoodX x) {k : Nat} (hm : Mat ts k (exK x 1)) (hd : tx ts (k + (exK x 1).length) ≠ [46]) (hl : levelN (tx ts (k + (exK x 1).length)) = 0) : ∃ x', er x' = er x ∧ Ev2 ts 1 0 k x' (k + (exK x 1).length) :=
  (ex_back x hx.good 1 0 k (by omega) (by omega) hm (by have := hx.deep; omega) hd).two (by omega) (by omega)

theorem exK_pos : ∀ (x : Ex) (n : Nat), 0 < (exK x n).length
  | .num .., _ => by simp [exK]
  | .name .., _ => by simp [exK]
  | .field .., _ => by simp [exK]
  | .not .., _ => by simp [exK]
  | .bin .., _ => by simp [exK]; omega

/-- a number that stands alone is told from one ahead of ) -/
theorem num_ahead : ∀ (y : Ex), GoodEx y → ∀ (lv : Nat) (k : Nat) (r : List Pc), Mat ts k (exK y lv ++ r) → (tk ts k).kind = 2 → tx ts (k + 1) = [41] → (∀ q r', r = q :: r' → q.2 ≠ [41]) → r ≠ [] → False := by
  intro y
  induction y with
  | num p n ty =>
    intro _ lv k r hm _ hb hr hne
    cases r with
    | nil => exact hne rfl
    | cons q r => exact hr q r rfl (by have := hm.2.2.2.1; rw [← this]; exact hb)
  | name p s =>
    intro _ lv k r hm ha _ _ _
    have : (tk ts k).kind = 1 := hm.1
    omega
  | field p s g =>
    intro _ lv k r hm ha _ _ _
    have : (tk ts k).kind = 1 := hm.1
    omega
  | not p x _ =>
    intro _ lv k r hm ha _ _ _
    have : (tk ts k).kind = 1 := hm.1
    omega
  | bin p op a b iha ihb =>
    intro hg lv k r hm ha hb hr hne
    by_cases h : levelN op.toList < lv
    · simp only [exK, if_pos h, List.append_assoc, List.cons_append, List.nil_append] at hm
      have : (tk ts k).kind = 3 := hm.1
      omega
    · simp only [exK, if_neg h, List.append_assoc, List.cons_append, List.nil_append] at hm
      refine iha hg.2.1 (levelN op.toList) k _ hm ha hb ?_ (by simp)
      intro q r' e
      simp only [List.cons.injEq] at e
      obtain ⟨rfl, _⟩ := e
      intro e2
      have e3 : op.data.toList = [41] := e2
      have hz := hg.1
      rw [ByteArray.toList_eq, e3] at hz
      exact absurd hz (by decide)
theorem args_back : ∀ (l : List Ex), (∀ x ∈ l, GoodX x) → ∀ (n : Nat), n ≤ 255 → ∀ (k : Nat) (acc : List Ex), Mat ts k (argsK l ++ [(2, Lib.decDigits n), mk [41]]) →
    ∃ l', l'.map er = l.map er ∧ ∃ f0, ∀ f, f0 ≤ f → argsP ts f k acc = .ok (acc ++ l', n) (k + (argsK l).length + 1)
  | [], _, n, hn, k, acc, hm => by
    obtain ⟨h1, h2, h3⟩ := hm
    refine ⟨[], rfl, 1, fun f hf => ?_⟩
    obtain ⟨g, rfl⟩ : ∃ g, f = g + 1 := ⟨f - 1, by omega⟩
    have e : (tx ts (k + 1) == [41]) = true := by rw [h3.2.1]; decide
    have hk : (tk ts k).kind = 2 := h1
    have hv : valOf (tx ts k) = n := by rw [h2]; exact (dec_dg n).2.2
    simp only [argsP, e, hk, and_self, if_true, byteP, hv, if_pos hn, Res.bind, List.append_nil]
    rfl
  | x :: l, hg, n, hn, k, acc, hm => by
    simp only [argsK, List.append_assoc] at hm
    obtain ⟨hm1, hm2⟩ := mat_append.1 hm
    obtain ⟨hc1, hc2, hm3⟩ := hm2
    have hx := hg x (by simp)
    obtain ⟨x', e, f1, h1⟩ := ex_two hx hm1 (by rw [hc2]; decide) (by rw [hc2]; decide)
    obtain ⟨l', el, f2, h2⟩ := args_back l (fun y hy => hg y (by simp [hy])) n hn (k + (exK x 1).length + 1) (acc ++ [x']) hm3
    refine ⟨x' :: l', by simp [e, el], max f1 f2 + 1, fun f hf => ?_⟩
    obtain ⟨g, rfl⟩ : ∃ g, f = g + 1 := ⟨f - 1, by omega⟩
    have hno : ¬ ((tk ts k).kind = 2 ∧ (tx ts (k + 1) == [41]) = true) := by
      rintro ⟨ha, hb⟩
      rw [beq_iff_eq] at hb
      exact num_ahead x hx.good 1 k [mk [44]] (mat_append.2 ⟨hm1, hc1, hc2, trivial⟩) ha hb (by intro q r' e; simp only [List.cons.injEq] at e; obtain ⟨rfl, _⟩ := e; decide) (by simp)
    have hcm : (tx ts (k + (exK x 1).length) == [44]) = true := by rw [hc2]; decide
    have hlen : k + (argsK (x :: l)).length + 1 = k + (exK x 1).length + 1 + (argsK l).length + 1 := by simp [argsK]; omega
    simp only [argsP, if_neg hno, h1 g (by omega), Res.bind, hcm, if_true, h2 g (by omega), hlen]
    simp

def EvS (ts : List Tok) (deep k : Nat) (l : List St) (k' : Nat) : Prop := ∃ f0, ∀ f, f0 ≤ f → ∀ acc, stmtsP ts f deep k acc = .ok (acc ++ l) k'
def EvB (ts : List Tok) (deep k : Nat) (s : St) (k' : Nat) : Prop := ∃ f0, ∀ f, f0 ≤ f → branchP ts f deep k = .ok s k'

theorem not_if {s : ByteArray} (hs : GoodN s) {k : Nat} (h2 : tx ts k = s.data.toList) : (tx ts k == [105, 102]) = false := by
  have hk : keptL.contains (tx ts k) = false := by have := hs.2.2; rw [ByteArray.toList_eq] at this; rw [h2]; exact this
  exact kept_ne hk (by decide)

theorem set_back {p : Nat} {s : ByteArray} {x : Ex} (hs : GoodN s) (hx : GoodX x) {k : Nat} (hm : Mat ts k (stK (.set p s x))) :
    ∃ s', erS s' = erS (.set p s x) ∧ ∃ f0, ∀ f, f0 ≤ f → actP ts f k = .ok s' (k + (stK (.set p s x)).length) := by
  simp only [stK, List.append_assoc, List.cons_append, List.nil_append] at hm
  obtain ⟨a1, a2, b1, b2, hm⟩ := hm
  obtain ⟨hm1, c1, c2, _⟩ := mat_append.1 hm
  obtain ⟨x', e, f1, h1⟩ := ex_two hx hm1 (by rw [c2]; decide) (by rw [c2]; decide)
  refine ⟨.set (tk ts k).pos s x', by simp only [erS, e], f1, fun f hf => ?_⟩
  have hc : (tx ts (k + 1) == [58, 61]) = true := by rw [b2]; decide
  have hl : k + (stK (.set p s x)).length = k + 1 + 1 + (exK x 1).length + 1 := by simp [stK]; omega
  simp only [actP, (name_back hs a1 a2).2, Res.bind, hc, if_true, h1 f hf, want_back c2, hl]
theorem call_back {p : Nat} {s : ByteArray} {l : List Ex} {n : Nat} (hs : GoodN s) (hx : ∀ x ∈ l, GoodX x) (hn : n ≤ 255) {k : Nat} (hm : Mat ts k (stK (.call p s l n))) :
    ∃ s', erS s' = erS (.call p s l n) ∧ ∃ f0, ∀ f, f0 ≤ f → actP ts f k = .ok s' (k + (stK (.call p s l n)).length) := by
  simp only [stK, List.append_assoc, List.cons_append, List.nil_append] at hm
  obtain ⟨a1, a2, b1, b2, hm⟩ := hm
  have hm : Mat ts (k + 1 + 1) (argsK l ++ [(2, Lib.decDigits n), mk [41]] ++ [mk [59]]) := by simpa using hm
  obtain ⟨hm1, c1, c2, _⟩ := mat_append.1 hm
  obtain ⟨l', e, f1, h1⟩ := args_back l hx n hn (k + 1 + 1) [] hm1
  have d2 : tx ts (k + 1 + 1 + (argsK l).length + 1) = [41] := (mat_append.1 hm1).2.2.2.2.1
  have c2 : tx ts (k + 1 + 1 + (argsK l).length + 1 + 1) = [59] := by
    rw [show k + 1 + 1 + (argsK l ++ [(2, Lib.decDigits n), mk [41]]).length = k + 1 + 1 + (argsK l).length + 1 + 1 by simp; omega] at c2
    exact c2
  refine ⟨.call (tk ts k).pos s l' n, by simp only [erS, e], f1, fun f hf => ?_⟩
  have hc : (tx ts (k + 1) == [58, 61]) = false := by rw [b2]; decide
  have hl : k + (stK (.call p s l n)).length = k + 1 + 1 + (argsK l).length + 1 + 1 + 1 := by simp [stK]; omega
  simp only [actP, (name_back hs a1 a2).2, Res.bind, hc, Bool.false_eq_true, if_false, want_back b2, h1 f hf, want_back d2, want_back c2, hl, List.nil_append]

theorem stK_pos : ∀ s : St, 0 < (stK s).length
  | .set .. => by simp [stK]
  | .call .. => by simp [stK]
  | .cond .. => by simp [stK]

/-- no statement begins here -/
def NoSt (ts : List Tok) (k : Nat) : Prop := (tx ts k == [105, 102]) = false ∧ isNm (tk ts k) = false
theorem noSt_of {k : Nat} {s : List UInt8} (h : tx ts k = s) (h1 : (s == [105, 102]) = false) (h2 : keptL.contains s = true) : NoSt ts k := by
  refine ⟨by rw [h]; exact h1, ?_⟩
  have : keptL.contains (tk ts k).text.toList = true := by rw [show (tk ts k).text.toList = s from h]; exact h2
  simp only [isNm, this]; simp

theorem evS_cons {deep k k1 k2 : Nat} {s : St} {l : List St} (h1 : (tx ts k == [105, 102]) = true ∧ EvB ts deep k s k1 ∨ (tx ts k == [105, 102]) = false ∧ isNm (tk ts k) = true ∧ ∃ f0, ∀ f, f0 ≤ f → actP ts f k = .ok s k1) (h2 : EvS ts deep k1 l k2) : EvS ts deep k (s :: l) k2 := by
  obtain ⟨f2, h2⟩ := h2
  rcases h1 with ⟨a, f1, h1⟩ | ⟨a, b, f1, h1⟩
  · refine ⟨max f1 f2 + 1, fun f hf acc => ?_⟩
    obtain ⟨g, rfl⟩ : ∃ g, f = g + 1 := ⟨f - 1, by omega⟩
    simp only [stmtsP, a, if_true, h1 g (by omega), Res.bind, h2 g (by omega)]
    simp
  · refine ⟨max f1 f2 + 1, fun f hf acc => ?_⟩
    obtain ⟨g, rfl⟩ : ∃ g, f = g + 1 := ⟨f - 1, by omega⟩
    simp only [stmtsP, a, b, Bool.false_eq_true, if_false, if_true, h1 g (by omega), Res.bind, h2 g (by omega)]
    simp
theorem evS_nil {deep k : Nat} (h : NoSt ts k) : EvS ts deep k [] k := by
  refine ⟨1, fun f hf acc => ?_⟩
  obtain ⟨g, rfl⟩ : ∃ g, f = g + 1 := ⟨f - 1, by omega⟩
  simp only [stmtsP, h.1, h.2, Bool.false_eq_true, if_false, List.append_nil]

theorem evB_no {deep k k1 k2 : Nat} {x : Ex} {th : List St} (hd : deep < 8) (hx : Ev2 ts 1 0 (k + 1) x k1) (ht : tx ts k1 = [116, 104, 101, 110]) (hth : EvS ts (deep + 1) (k1 + 1) th k2) (he : tx ts k2 = [101, 110, 100]) (hs : tx ts (k2 + 1) = [59]) : EvB ts deep k (.cond (tk ts k).pos x th []) (k2 + 2) := by
  obtain ⟨f1, h1⟩ := hx
  obtain ⟨f2, h2⟩ := hth
  refine ⟨max f1 f2 + 1, fun f hf => ?_⟩
  obtain ⟨g, rfl⟩ : ∃ g, f = g + 1 := ⟨f - 1, by omega⟩
  have e1 : (tx ts k2 == [101, 108, 115, 105, 102]) = false := by rw [he]; decide
  have e2 : (tx ts k2 == [101, 108, 115, 101]) = false := by rw [he]; decide
  simp only [branchP, if_neg (show ¬ 8 ≤ deep by omega), h1 g (by omega), Res.bind, want_back ht, h2 g (by omega), List.nil_append, e1, e2, Bool.false_eq_true, if_false, want_back he, want_back hs]
theorem evB_el {deep k k1 k2 k3 : Nat} {x : Ex} {th el : List St} (hd : deep < 8) (hx : Ev2 ts 1 0 (k + 1) x k1) (ht : tx ts k1 = [116, 104, 101, 110]) (hth : EvS ts (deep + 1) (k1 + 1) th k2) (hl : tx ts k2 = [101, 108, 115, 101]) (hel : EvS ts (deep + 1) (k2 + 1) el k3) (he : tx ts k3 = [101, 110, 100]) (hs : tx ts (k3 + 1) = [59]) : EvB ts deep k (.cond (tk ts k).pos x th el) (k3 + 2) := by
  obtain ⟨f1, h1⟩ := hx
  obtain ⟨f2, h2⟩ := hth
  obtain ⟨f3, h3⟩ := hel
  refine ⟨max (max f1 f2) f3 + 1, fun f hf => ?_⟩
  obtain ⟨g, rfl⟩ : ∃ g, f = g + 1 := ⟨f - 1, by omega⟩
  have e1 : (tx ts k2 == [101, 108, 115, 105, 102]) = false := by rw [hl]; decide
  have e2 : (tx ts k2 == [101, 108, 115, 101]) = true := by rw [hl]; decide
  simp only [branchP, if_neg (show ¬ 8 ≤ deep by omega), h1 g (by omega), Res.bind, want_back ht, h2 g (by omega), List.nil_append, e1, e2, Bool.false_eq_true, if_false, if_true, h3 g (by omega), want_back he, want_back hs]

mutual
theorem cond_back : ∀ (s : St), GoodSt s → ∀ (deep k : Nat), depS s + deep ≤ 8 → Mat ts k (stK s) →
    ∃ s', erS s' = erS s ∧ ((tx ts k == [105, 102]) = true ∧ EvB ts deep k s' (k + (stK s).length) ∨ (tx ts k == [105, 102]) = false ∧ isNm (tk ts k) = true ∧ ∃ f0, ∀ f, f0 ≤ f → actP ts f k = .ok s' (k + (stK s).length))
  | .set p s x, hg, deep, k, hd, hm => by
    simp only [GoodSt] at hg
    obtain ⟨s', e, h⟩ := set_back hg.1 hg.2 hm
    exact ⟨s', e, .inr ⟨not_if hg.1 hm.2.1, (name_back hg.1 hm.1 hm.2.1).1, h⟩⟩
  | .call p s l n, hg, deep, k, hd, hm => by
    simp only [GoodSt] at hg
    obtain ⟨s', e, h⟩ := call_back hg.1 hg.2.1 hg.2.2 hm
    exact ⟨s', e, .inr ⟨not_if hg.1 hm.2.1, (name_back hg.1 hm.1 hm.2.1).1, h⟩⟩
  | .cond p x th [], hg, deep, k, hd, hm => by
    simp only [GoodSt] at hg
    simp only [depS] at hd
    simp only [stK, List.append_assoc, List.nil_append, List.cons_append] at hm
    obtain ⟨a1, a2, hm⟩ := hm
    obtain ⟨hm1, b1, b2, hm2⟩ := mat_append.1 hm
    obtain ⟨hm3, c1, c2, d1, d2, _⟩ := mat_append.1 hm2
    obtain ⟨x', e, hx⟩ := ex_two hg.1 hm1 (by rw [b2]; decide) (by rw [b2]; decide)
    obtain ⟨th', et, ht⟩ := sts_back th hg.2.1 (deep + 1) _ (by omega) hm3 (noSt_of c2 (by decide) (by decide))
    refine ⟨.cond (tk ts k).pos x' th' [], by simp only [erS, e, et], .inl ⟨by rw [a2]; decide, ?_⟩⟩
    have hl : k + (stK (.cond p x th [])).length = k + 1 + (exK x 1).length + 1 + (stsK th).length + 2 := by simp [stK]; omega
    rw [hl]
    exact evB_no (by omega) hx b2 ht c2 d2
  | .cond p x th (s :: el), hg, deep, k, hd, hm => by
    simp only [GoodSt] at hg
    simp only [depS] at hd
    simp only [stK, List.append_assoc, List.nil_append, List.cons_append] at hm
    obtain ⟨a1, a2, hm⟩ := hm
    obtain ⟨hm1, b1, b2, hm2⟩ := mat_append.1 hm
    obtain ⟨hm3, c1, c2, hm4⟩ := mat_append.1 hm2
    obtain ⟨hm5, d1, d2, e1, e2, _⟩ := mat_append.1 hm4
    obtain ⟨x', e, hx⟩ := ex_two hg.1 hm1 (by rw [b2]; decide) (by rw [b2]; decide)
    obtain ⟨th', et, ht⟩ := sts_back th hg.2.1 (deep + 1) _ (by omega) hm3 (noSt_of c2 (by decide) (by decide))
    obtain ⟨el', ee, hel⟩ := sts_back (s :: el) hg.2.2 (deep + 1) _ (by omega) hm5 (noSt_of d2 (by decide) (by decide))
    refine ⟨.cond (tk ts k).pos x' th' el', by simp only [erS, e, et, ee], .inl ⟨by rw [a2]; decide, ?_⟩⟩
    have hl : k + (stK (.cond p x th (s :: el))).length = k + 1 + (exK x 1).length + 1 + (stsK th).length + 1 + (stsK (s :: el)).length + 2 := by simp [stK]; omega
    rw [hl]
    exact evB_el (by omega) hx b2 ht c2 hel d2 e2
theorem sts_back : ∀ (l : List St), GoodL l → ∀ (deep k : Nat), depL l + deep ≤ 8 → Mat ts k (stsK l) → NoSt ts (k + (stsK l).length) → ∃ l', erL l' = erL l ∧ EvS ts deep k l' (k + (stsK l).length)
  | [], _, deep, k, _, _, hn => ⟨[], rfl, evS_nil hn⟩
  | s :: l, hg, deep, k, hd, hm, hn => by
    simp only [GoodL] at hg
    simp only [depL] at hd
    simp only [stsK] at hm hn ⊢
    obtain ⟨hm1, hm2⟩ := mat_append.1 hm
    rw [List.length_append, ← Nat.add_assoc] at hn ⊢
    obtain ⟨s', e, h1⟩ := cond_back s hg.1 deep k (by omega) hm1
    obtain ⟨l', el, h2⟩ := sts_back l hg.2 deep _ (by omega) hm2 hn
    exact ⟨s' :: l', by simp only [erL, e, el], evS_cons h1 h2⟩
end

theorem wayT_way (n : Nat) (h1 : 1 ≤ n) (h3 : n ≤ 3) : wayN (wayT n) = n ∧ blkN (wayT n) = 0 := by
  rcases (show n = 1 ∨ n = 2 ∨ n = 3 by omega) with rfl | rfl | rfl <;> decide
theorem tyT_blk (n : Nat) (h1 : 3 ≤ n) (h3 : n ≤ 5) : blkN (tyT n) = n ∧ wayN (tyT n) = 0 := by
  rcases (show n = 3 ∨ n = 4 ∨ n = 5 by omega) with rfl | rfl | rfl <;> decide
theorem kind_back {k ty : Nat} (h1 : 1 ≤ ty) (h2 : ty ≤ 2) (h : tx ts k = tyT ty) : kindP ts k = .ok ty (k + 1) := by
  rcases (show ty = 1 ∨ ty = 2 by omega) with rfl | rfl
  · have e : (tx ts k == [98, 111, 111, 108]) = true := by rw [h]; decide
    simp only [kindP, e, if_true]
  · have e : (tx ts k == [98, 111, 111, 108]) = false := by rw [h]; decide
    have e2 : tx ts k = [98, 121, 116, 101] := h
    simp only [kindP, e, Bool.false_eq_true, if_false, want_back e2, Res.bind]
theorem first_none {k ty : Nat} (h : tx ts k = [59]) : firstP ts ty k = .ok 0 k := by
  have e : (tx ts k == [61]) = false := by rw [h]; decide
  simp only [firstP, e, Bool.false_eq_true, if_false]
theorem first_some {k ty n : Nat} (ht1 : 1 ≤ ty) (ht2 : ty ≤ 2) (h0 : n ≠ 0) (hn1 : ty = 1 → n ≤ 1) (hn : n ≤ 255) (h : tx ts k = [61]) (hk : (tk ts (k + 1)).kind = (valQ ty n).1) (hv : tx ts (k + 1) = (valQ ty n).2) : firstP ts ty k = .ok n (k + 2) := by
  have e : (tx ts k == [61]) = true := by rw [h]; decide
  rcases (show ty = 1 ∨ ty = 2 by omega) with rfl | rfl
  · have : n = 1 := by have := hn1 rfl; omega
    subst this
    have e2 : (tx ts (k + 1) == [116, 114, 117, 101]) = true := by rw [hv]; rfl
    simp only [firstP, e, if_true, e2, show ¬ (1 : Nat) = 2 by decide, if_false]
  · have hk : (tk ts (k + 1)).kind = 2 := hk
    have hv : valOf (tx ts (k + 1)) = n := by rw [hv]; exact (dec_dg n).2.2
    simp only [firstP, e, if_true, byteP, hk, hv, if_pos hn]

theorem decl_back {d : De} (hg : GoodD d) {k : Nat} (hm : Mat ts k (lineK d)) : (wayN (tx ts k) ≠ 0 ∨ blkN (tx ts k) ≠ 0) ∧ declP ts k = .ok d (k + (lineK d).length) := by
  obtain ⟨name, way, ty, init⟩ := d
  obtain ⟨hn, hf⟩ := hg
  simp only at hn hf
  rcases hf with ⟨h1, h2, rfl, rfl⟩ | ⟨h1, h2, h3, h4, h5, h6, h7⟩
  · simp only [lineK, if_pos h1, if_true, List.append_nil, List.cons_append, List.nil_append] at hm ⊢
    obtain ⟨a1, a2, b1, b2, c1, c2, _⟩ := hm
    have hb := tyT_blk ty h1 h2
    have e : blkN (tx ts k) = ty := by rw [a2]; exact hb.1
    refine ⟨.inr (by rw [e]; omega), ?_⟩
    simp only [declP, (name_back hn b1 b2).2, Res.bind, e, ne_eq, show ¬ ty = 0 by omega, not_false_eq_true, if_true, want_back c2]
    rfl
  · have hty : ¬ 3 ≤ ty := by omega
    by_cases h0 : init = 0
    · subst h0
      simp only [lineK, if_neg hty, if_true, List.append_nil, List.cons_append, List.nil_append] at hm ⊢
      obtain ⟨a1, a2, b1, b2, c1, c2, d1, d2, e1, e2, _⟩ := hm
      have hw := wayT_way way h1 h2
      have e : wayN (tx ts k) = way := by rw [a2]; exact hw.1
      have e' : blkN (tx ts k) = 0 := by rw [a2]; exact hw.2
      refine ⟨.inl (by rw [e]; omega), ?_⟩
      by_cases hw1 : way = 1
      · simp only [declP, (name_back hn b1 b2).2, Res.bind, e, e', ne_eq, not_true_eq_false, if_false, want_back c2, kind_back h3 h4 d2, hw1, want_back e2]
        rfl
      · simp only [declP, (name_back hn b1 b2).2, Res.bind, e, e', ne_eq, not_true_eq_false, if_false, want_back c2, kind_back h3 h4 d2, hw1, not_false_eq_true, if_true, first_none e2, want_back e2]
        rfl
    · have hw1 : ¬ way = 1 := fun e => h0 (h5 e)
      simp only [lineK, if_neg hty, if_neg h0, List.cons_append, List.nil_append] at hm ⊢
      obtain ⟨a1, a2, b1, b2, c1, c2, d1, d2, e1, e2, g1, g2, i1, i2, _⟩ := hm
      have hw := wayT_way way h1 h2
      have e : wayN (tx ts k) = way := by rw [a2]; exact hw.1
      have e' : blkN (tx ts k) = 0 := by rw [a2]; exact hw.2
      refine ⟨.inl (by rw [e]; omega), ?_⟩
      simp only [declP, (name_back hn b1 b2).2, Res.bind, e, e', ne_eq, not_true_eq_false, if_false, want_back c2, kind_back h3 h4 d2, hw1, not_false_eq_true, if_true, first_some h3 h4 h0 h6 h7 e2 g1 g2, want_back i2]
      rfl

theorem decls_back : ∀ (l : List De), (∀ d ∈ l, GoodD d) → ∀ (k : Nat) (acc : List De), acc.length + l.length ≤ 20 → Mat ts k (linesK l) → wayN (tx ts (k + (linesK l).length)) = 0 → blkN (tx ts (k + (linesK l).length)) = 0 →
    ∃ f0, ∀ f, f0 ≤ f → declsP ts f k acc = .ok (acc ++ l) (k + (linesK l).length)
  | [], _, k, acc, _, _, h1, h2 => by
    refine ⟨1, fun f hf => ?_⟩
    obtain ⟨g, rfl⟩ : ∃ g, f = g + 1 := ⟨f - 1, by omega⟩
    have h1 : wayN (tx ts k) = 0 := h1
    have h2 : blkN (tx ts k) = 0 := h2
    simp only [declsP, h1, h2, ne_eq, not_true_eq_false, or_self, if_false, List.append_nil]
    rfl
  | d :: l, hg, k, acc, hl, hm, h1, h2 => by
    simp only [linesK] at hm h1 h2 ⊢
    obtain ⟨hm1, hm2⟩ := mat_append.1 hm
    rw [List.length_append, ← Nat.add_assoc] at h1 h2 ⊢
    obtain ⟨hc, hd⟩ := decl_back (hg d (by simp)) hm1
    obtain ⟨f1, h⟩ := decls_back l (fun d hd => hg d (by simp [hd])) _ (acc ++ [d]) (by simp at hl ⊢; omega) hm2 h1 h2
    refine ⟨f1 + 1, fun f hf => ?_⟩
    obtain ⟨g, rfl⟩ : ∃ g, f = g + 1 := ⟨f - 1, by omega⟩
    have hac : ¬ acc.length = 20 := by simp at hl; omega
    simp only [declsP, if_pos hc, hd, Res.bind, if_neg hac, h g (by omega)]
    simp

/-- a program that may be written -/
structure GoodPr (p : List De × List St) : Prop where
  decls : ∀ d ∈ p.1, GoodD d
  many : p.1.length ≤ 20
  body : GoodL p.2
  deep : depL p.2 ≤ 8

theorem prog_back {p : List De × List St} (hg : GoodPr p) (hm : Mat ts 0 (printK p)) : ∃ b', erL b' = erL p.2 ∧ ∃ f0, ∀ f, f0 ≤ f → progP ts f = .ok (p.1, b') (printK p).length := by
  simp only [printK, List.append_assoc, List.cons_append, List.nil_append] at hm
  obtain ⟨hm1, hm2⟩ := mat_append.1 hm
  obtain ⟨a1, a2, hm3⟩ := hm2
  obtain ⟨hm4, b1, b2, _⟩ := mat_append.1 hm3
  obtain ⟨f1, h1⟩ := decls_back p.1 hg.decls 0 [] (by simpa using hg.many) hm1 (by rw [a2]; decide) (by rw [a2]; decide)
  obtain ⟨b', e, f2, h2⟩ := sts_back p.2 hg.body 0 _ (by have := hg.deep; omega) hm4 (noSt_of b2 (by decide) (by decide))
  refine ⟨b', e, max f1 f2, fun f hf => ?_⟩
  have hl : (printK p).length = 0 + (linesK p.1).length + 1 + (stsK p.2).length + 1 := by simp [printK]; omega
  simp only [progP, h1 f (by omega), Res.bind, want_back a2, h2 f (by omega), want_back b2, hl, List.nil_append]
end
end Go.Proofs.YtiimnnancblbkaaDoor
set_option linter.unusedSimpArgs false
set_option linter.unusedVariables false
namespace Go.Proofs.YtiimnnancblbkaaDoor

/-- what is told of tokens -/
structure Wds (ts : List Tok) : Prop where
  word : ∀ k, (tk ts k).kind = 1 → IsWord (tk ts k).text.data.toList
  pos : ∀ k, (tk ts k).kind ≠ 0 → 0 < (tk ts k).text.size
def ws (ts : List Tok) (k : Nat) : Nat := ((ts.take k).map fun t => t.text.size).sum
theorem ws_succ (ts : List Tok) (k : Nat) : ws ts (k + 1) = ws ts k + (tk ts k).text.size := by
  unfold ws tk
  rw [List.take_add_one]
  cases h : ts[k]? with
  | none =>
    show _ = _ + 0
    simp
  | some t => simp

section
variable {ts : List Tok}
theorem tx_size {k : Nat} {s : List UInt8} (h : tx ts k = s) : (tk ts k).text.size = s.length := by
  have h : (tk ts k).text.toList = s := h
  rw [← h, ByteArray.toList_eq, Array.length_toList]; rfl
theorem name_inv (hw : Wds ts) {k k' : Nat} {s : ByteArray} (h : nameP ts k = .ok s k') : GoodN s ∧ ws ts k + 1 ≤ ws ts k' := by
  unfold nameP at h
  split at h
  · rename_i hn
    split at h
    · rename_i hs
      cases h
      have hk : (tk ts k).kind = 1 := by simp [isNm] at hn; exact hn.1
      have hp := hw.pos k (by omega)
      refine ⟨⟨hw.word k hk, hs, ?_⟩, by rw [ws_succ]; omega⟩
      simp only [isNm, hk] at hn
      simpa using hn
    · cases h
  · cases h
theorem byte_inv (hw : Wds ts) {k k' n : Nat} (h : byteP ts k = .ok n k') : n ≤ 255 ∧ ws ts k + 1 ≤ ws ts k' := by
  unfold byteP at h
  split at h
  · rename_i hk
    split at h
    · rename_i hs
      cases h
      have hp := hw.pos k (by omega)
      exact ⟨hs, by rw [ws_succ]; omega⟩
    · cases h
  · cases h
theorem want_inv {s : List UInt8} {k k' : Nat} {u : Unit} (h : wantP ts s k = .ok u k') : ws ts k + s.length = ws ts k' := by
  unfold wantP at h
  split at h
  · rename_i he
    cases h
    rw [beq_iff_eq] at he
    rw [ws_succ, tx_size he]
  · cases h

theorem need_mono : ∀ (x : Ex) {a b : Nat}, a ≤ b → need x a ≤ need x b
  | .num .., _, _, _ => Nat.le_refl _
  | .name .., _, _, _ => Nat.le_refl _
  | .field .., _, _, _ => Nat.le_refl _
  | .not .., _, _, _ => Nat.le_refl _
  | .bin _ op x y, a, b, h => by
    simp only [need]
    split <;> split <;> omega
theorem need_par : ∀ (x : Ex) (a b : Nat), need x a ≤ need x b + 1
  | .num .., _, _ => by simp [need]
  | .name .., _, _ => by simp [need]
  | .field .., _, _ => by simp [need]
  | .not .., _, _ => by simp [need]
  | .bin _ op x y, a, b => by
    simp only [need]
    split <;> split <;> omega
theorem len_mono : ∀ (x : Ex) {a b : Nat}, a ≤ b → (exK x a).length ≤ (exK x b).length
  | .num .., _, _, _ => Nat.le_refl _
  | .name .., _, _, _ => Nat.le_refl _
  | .field .., _, _, _ => Nat.le_refl _
  | .not .., _, _, _ => Nat.le_refl _
  | .bin _ op x y, a, b, h => by
    simp only [exK, List.length_append]
    by_cases h1 : levelN op.toList < a
    · rw [if_pos h1, if_pos h1, if_pos (show levelN op.toList < b by omega), if_pos (show levelN op.toList < b by omega)]; exact Nat.le_refl _
    · rw [if_neg h1, if_neg h1]; simp only [List.length_nil]; omega
theorem len_par : ∀ (x : Ex) (a b : Nat), (exK x a).length ≤ (exK x b).length + 2
  | .num .., _, _ => by simp [exK]
  | .name .., _, _ => by simp [exK]
  | .field .., _, _ => by simp [exK]
  | .not .., _, _ => by simp [exK]
  | .bin _ op x y, a, b => by
    simp only [exK, List.length_append]
    split <;> split <;> simp <;> omega

theorem op_size {k lv : Nat} (h : levelN (tx ts k) = lv) (h1 : 1 ≤ lv) : 1 ≤ (tk ts k).text.size := by
  cases ht : tx ts k with
  | nil => rw [ht] at h; have : levelN [] = 0 := rfl; omega
  | cons c l => rw [tx_size ht]; simp

theorem ex_inv (hw : Wds ts) (f : Nat) :
    (∀ lv deep k x k', 1 ≤ lv → lv ≤ 6 → twoP ts f lv deep k = .ok x k' → GoodEx x ∧ need x lv + deep ≤ 8 ∧ ws ts k + (exK x lv).length ≤ ws ts k') ∧
    (∀ lv deep p y k x k' w0, 1 ≤ lv → lv ≤ 5 → loopP ts f lv deep p y k = .ok x k' → GoodEx y → need y lv + deep ≤ 8 → w0 + (exK y lv).length ≤ ws ts k → GoodEx x ∧ need x lv + deep ≤ 8 ∧ w0 + (exK x lv).length ≤ ws ts k') ∧
    (∀ deep k x k', oneP ts f deep k = .ok x k' → GoodEx x ∧ need x 6 + deep ≤ 8 ∧ ws ts k + (exK x 6).length ≤ ws ts k') := by
  induction f with
  | zero =>
    refine ⟨fun _ _ _ _ _ _ _ h => ?_, fun _ _ _ _ _ _ _ _ _ _ h => ?_, fun _ _ _ _ h => ?_⟩
    · simp only [twoP] at h; cases h
    · simp only [loopP] at h; cases h
    · simp only [oneP] at h; cases h
  | succ f ih =>
    obtain ⟨i2, iL, i1⟩ := ih
    refine ⟨fun lv deep k x k' h1 h6 h => ?_, fun lv deep p y k x k' w0 h1 h5 h hg hn hl => ?_, fun deep k x k' h => ?_⟩
    · simp only [twoP] at h
      split at h
      · rename_i e
        subst e
        exact i1 _ _ _ _ h
      · rename_i e
        obtain ⟨y, k1, e1, e2⟩ := bind_ok h
        obtain ⟨g1, g2, g3⟩ := i2 _ _ _ _ _ (by omega) (by omega) e1
        exact iL _ _ _ _ _ _ _ (ws ts k) h1 (by omega) e2 g1 (by have := need_mono y (show lv ≤ lv + 1 by omega); omega) (by have := len_mono y (show lv ≤ lv + 1 by omega); omega)
    · simp only [loopP] at h
      split at h
      · rename_i e
        obtain ⟨z, k1, e1, e2⟩ := bind_ok h
        obtain ⟨g1, g2, g3⟩ := i2 _ _ _ _ _ (by omega) (by omega) e1
        have hsz := op_size e h1
        have hlv : levelN (tk ts k).text.toList = lv := e
        rw [ws_succ] at g3
        refine iL _ _ _ _ _ _ _ w0 h1 h5 e2 ⟨by rw [hlv]; exact h1, hg, g1⟩ ?_ ?_
        · simp only [need, hlv, if_neg (Nat.lt_irrefl lv)]
          omega
        · simp only [exK, hlv, if_neg (Nat.lt_irrefl lv), List.length_append, List.length_cons, List.length_nil]
          omega
      · cases h
        exact ⟨hg, hn, hl⟩
    · simp only [oneP] at h
      split at h
      · cases h
      · rename_i hd
        split at h
        · rename_i e
          rw [beq_iff_eq] at e
          obtain ⟨y, k1, e1, e2⟩ := bind_ok h
          cases e2
          obtain ⟨g1, g2, g3⟩ := i1 _ _ _ _ e1
          rw [ws_succ, tx_size e] at g3
          refine ⟨g1, by simp only [need]; omega, ?_⟩
          simp only [exK, List.length_append, List.length_cons, List.length_nil] at g3 ⊢
          omega
        · split at h
          · rename_i e
            rw [beq_iff_eq] at e
            obtain ⟨y, k1, e1, e2⟩ := bind_ok h
            obtain ⟨u, k2, e3, e4⟩ := bind_ok e2
            cases e4
            obtain ⟨g1, g2, g3⟩ := i2 _ _ _ _ _ (by omega) (by omega) e1
            rw [ws_succ, tx_size e] at g3
            have g4 := want_inv e3
            have := need_par x 6 1
            have := len_par x 6 1
            simp only [List.length_cons, List.length_nil] at g3 g4
            exact ⟨g1, by omega, by omega⟩
          · split at h
            · rename_i e
              rw [beq_iff_eq] at e
              cases h
              refine ⟨.inl ⟨rfl, Nat.le_refl _⟩, by simp only [need]; omega, ?_⟩
              rw [ws_succ, tx_size e]
              simp only [exK, List.length_cons, List.length_nil]; omega
            · split at h
              · rename_i e
                rw [beq_iff_eq] at e
                cases h
                refine ⟨.inl ⟨rfl, by omega⟩, by simp only [need]; omega, ?_⟩
                rw [ws_succ, tx_size e]
                simp only [exK, List.length_cons, List.length_nil]; omega
              · split at h
                · obtain ⟨n, k1, e1, e2⟩ := bind_ok h
                  cases e2
                  obtain ⟨g1, g2⟩ := byte_inv hw e1
                  refine ⟨.inr ⟨rfl, g1⟩, by simp only [need]; omega, ?_⟩
                  simp only [exK, List.length_cons, List.length_nil]; omega
                · obtain ⟨s, k1, e1, e2⟩ := bind_ok h
                  obtain ⟨g1, g2⟩ := name_inv hw e1
                  split at e2
                  · rename_i e
                    rw [beq_iff_eq] at e
                    obtain ⟨g, k2, e3, e4⟩ := bind_ok e2
                    cases e4
                    obtain ⟨g3, g4⟩ := name_inv hw e3
                    rw [ws_succ, tx_size e] at g4
                    refine ⟨⟨g1, g3⟩, by simp only [need]; omega, ?_⟩
                    simp only [exK, List.length_cons, List.length_nil] at g4 ⊢; omega
                  · cases e2
                    refine ⟨g1, by simp only [need]; omega, ?_⟩
                    simp only [exK, List.length_cons, List.length_nil]; omega
theorem two_inv (hw : Wds ts) {f k k' : Nat} {x : Ex} (h : twoP ts f 1 0 k = .ok x k') : GoodX x ∧ ws ts k + (exK x 1).length ≤ ws ts k' := by
  obtain ⟨g1, g2, g3⟩ := (ex_inv hw f).1 _ _ _ _ _ (by omega) (by omega) h
  exact ⟨⟨g1, by omega⟩, g3⟩

theorem argsK_snoc : ∀ (l : List Ex) (x : Ex), (argsK (l ++ [x])).length = (argsK l).length + (exK x 1).length + 1
  | [], x => by simp [argsK]
  | y :: l, x => by simp only [List.cons_append, argsK, List.length_append, argsK_snoc l x, List.length_cons, List.length_nil]; omega
theorem args_inv (hw : Wds ts) : ∀ (f : Nat) {k k' : Nat} {acc : List Ex} {r : List Ex × Nat} (w0 : Nat), argsP ts f k acc = .ok r k' → (∀ x ∈ acc, GoodX x) → w0 + (argsK acc).length ≤ ws ts k →
    (∀ x ∈ r.1, GoodX x) ∧ r.2 ≤ 255 ∧ w0 + (argsK r.1).length + 1 ≤ ws ts k' + 2 ∧ w0 + 1 ≤ ws ts k'
  | 0, _, _, _, _, _, h, _, _ => by simp only [argsP] at h; cases h
  | f + 1, k, k', acc, r, w0, h, hg, hl => by
    simp only [argsP] at h
    split at h
    · obtain ⟨n, k1, e1, e2⟩ := bind_ok h
      cases e2
      obtain ⟨g1, g2⟩ := byte_inv hw e1
      refine ⟨hg, g1, ?_, ?_⟩
      · dsimp only; omega
      · omega
    · obtain ⟨x, k1, e1, e2⟩ := bind_ok h
      obtain ⟨g1, g2⟩ := two_inv hw e1
      have hp := exK_pos x 1
      have hall : ∀ y ∈ acc ++ [x], GoodX y := by
        intro y hy
        rcases List.mem_append.1 hy with h | h
        · exact hg y h
        · rw [List.mem_singleton] at h; rw [h]; exact g1
      split at e2
      · rename_i e
        rw [beq_iff_eq] at e
        exact args_inv hw f w0 e2 hall (by rw [argsK_snoc, ws_succ, tx_size e]; simp only [List.length_cons, List.length_nil]; omega)
      · cases e2
        refine ⟨hall, Nat.zero_le _, ?_, ?_⟩
        · dsimp only; rw [argsK_snoc]; omega
        · omega

theorem act_inv (hw : Wds ts) {f k k' : Nat} {s : St} (h : actP ts f k = .ok s k') : GoodSt s ∧ depS s = 0 ∧ 5 * (stK s).length + 7 * ws ts k ≤ 7 * ws ts k' := by
  unfold actP at h
  obtain ⟨n, k1, e1, e2⟩ := bind_ok h
  obtain ⟨g1, g2⟩ := name_inv hw e1
  split at e2
  · rename_i e
    rw [beq_iff_eq] at e
    obtain ⟨x, k2, e3, e4⟩ := bind_ok e2
    obtain ⟨u, k3, e5, e6⟩ := bind_ok e4
    cases e6
    obtain ⟨g3, g4⟩ := two_inv hw e3
    have g5 := want_inv e5
    rw [ws_succ, tx_size e] at g4
    simp only [List.length_cons, List.length_nil] at g4 g5
    refine ⟨by simp only [GoodSt]; exact ⟨g1, g3⟩, by simp only [depS], ?_⟩
    simp only [stK, List.length_append, List.length_cons, List.length_nil]
    omega
  · obtain ⟨u, k2, e3, e4⟩ := bind_ok e2
    obtain ⟨r, k3, e5, e6⟩ := bind_ok e4
    obtain ⟨u2, k4, e7, e8⟩ := bind_ok e6
    obtain ⟨u3, k5, e9, e10⟩ := bind_ok e8
    cases e10
    obtain ⟨g3, g4, g5, g6⟩ := args_inv hw f (ws ts k2) e5 (by simp) (by simp [argsK])
    have w1 := want_inv e3
    have w2 := want_inv e7
    have w3 := want_inv e9
    simp only [List.length_cons, List.length_nil] at w1 w2 w3
    refine ⟨by simp only [GoodSt]; exact ⟨g1, g3, g4⟩, by simp only [depS], ?_⟩
    simp only [stK, List.length_append, List.length_cons, List.length_nil]
    omega

theorem stsK_snoc : ∀ (l : List St) (s : St), (stsK (l ++ [s])).length = (stsK l).length + (stK s).length
  | [], s => by simp [stsK]
  | y :: l, s => by simp only [List.cons_append, stsK, List.length_append, stsK_snoc l s]; omega
theorem cond_len (p : Nat) (x : Ex) (th el : List St) : (stK (.cond p x th el)).length ≤ (exK x 1).length + (stsK th).length + (stsK el).length + 5 := by
  cases el with
  | nil => simp only [stK, stsK, List.length_append, List.length_cons, List.length_nil]; omega
  | cons s l => simp only [stK, List.length_append, List.length_cons, List.length_nil]; omega

theorem st_inv (hw : Wds ts) (f : Nat) :
    (∀ deep k acc l k' w0, deep ≤ 8 → stmtsP ts f deep k acc = .ok l k' → GoodL acc → depL acc + deep ≤ 8 → 5 * (stsK acc).length + 7 * w0 ≤ 7 * ws ts k → GoodL l ∧ depL l + deep ≤ 8 ∧ 5 * (stsK l).length + 7 * w0 ≤ 7 * ws ts k') ∧
    (∀ deep k s k', branchP ts f deep k = .ok s k' → GoodSt s ∧ depS s + deep ≤ 8 ∧ 5 * (stK s).length + 7 * ws ts (k + 1) ≤ 7 * ws ts k') := by
  induction f with
  | zero =>
    refine ⟨fun _ _ _ _ _ _ _ h => ?_, fun _ _ _ _ h => ?_⟩
    · simp only [stmtsP] at h; cases h
    · simp only [branchP] at h; cases h
  | succ f ih =>
    obtain ⟨iS, iB⟩ := ih
    refine ⟨fun deep k acc l k' w0 hd h hg hn hl => ?_, fun deep k s k' h => ?_⟩
    · simp only [stmtsP] at h
      split at h
      · rename_i e
        obtain ⟨s, k1, e1, e2⟩ := bind_ok h
        obtain ⟨g1, g2, g3⟩ := iB _ _ _ _ e1
        rw [ws_succ] at g3
        refine iS _ _ _ _ _ w0 hd e2 ((GoodL_append acc [s]).2 ⟨hg, by simp only [GoodL]; exact ⟨g1, trivial⟩⟩) (by rw [depL_append]; simp only [depL]; omega) (by rw [stsK_snoc]; omega)
      · split at h
        · obtain ⟨s, k1, e1, e2⟩ := bind_ok h
          obtain ⟨g1, g2, g3⟩ := act_inv hw e1
          refine iS _ _ _ _ _ w0 hd e2 ((GoodL_append acc [s]).2 ⟨hg, by simp only [GoodL]; exact ⟨g1, trivial⟩⟩) (by rw [depL_append]; simp only [depL]; omega) (by rw [stsK_snoc]; omega)
        · cases h
          exact ⟨hg, hn, hl⟩
    · simp only [branchP] at h
      split at h
      · cases h
      · rename_i hd
        obtain ⟨x, k1, e1, e2⟩ := bind_ok h
        obtain ⟨u, k2, e3, e4⟩ := bind_ok e2
        obtain ⟨th, k3, e5, e6⟩ := bind_ok e4
        obtain ⟨g1, g2⟩ := two_inv hw e1
        have w1 := want_inv e3
        obtain ⟨t1, t2, t3⟩ := iS _ _ _ _ _ (ws ts k2) (by omega) e5 (by simp only [GoodL]) (by simp only [depL]; omega) (by simp [stsK])
        simp only [List.length_cons, List.length_nil] at w1
        split at e6
        · rename_i e
          rw [beq_iff_eq] at e
          obtain ⟨s1, k4, e7, e8⟩ := bind_ok e6
          cases e8
          obtain ⟨b1, b2, b3⟩ := iB _ _ _ _ e7
          rw [ws_succ ts k3, tx_size e] at b3
          simp only [List.length_cons, List.length_nil] at b3
          have hc := cond_len (tk ts k).pos x th [s1]
          have hs : (stsK [s1]).length = (stK s1).length := by simp [stsK]
          refine ⟨by simp only [GoodSt, GoodL]; exact ⟨g1, t1, b1, trivial⟩, by simp only [depS, depL]; omega, by omega⟩
        · obtain ⟨el, k4, e7, e8⟩ := bind_ok e6
          obtain ⟨u2, k5, e9, e10⟩ := bind_ok e8
          obtain ⟨u3, k6, e11, e12⟩ := bind_ok e10
          cases e12
          have w2 := want_inv e9
          have w3 := want_inv e11
          simp only [List.length_cons, List.length_nil] at w2 w3
          have hel : GoodL el ∧ depL el + (deep + 1) ≤ 8 ∧ 5 * (stsK el).length + 7 * ws ts k3 ≤ 7 * ws ts k4 := by
            split at e7
            · rename_i e
              rw [beq_iff_eq] at e
              obtain ⟨t4, t5, t6⟩ := iS _ _ _ _ _ (ws ts (k3 + 1)) (by omega) e7 (by simp only [GoodL]) (by simp only [depL]; omega) (by simp [stsK])
              rw [ws_succ, tx_size e] at t6
              simp only [List.length_cons, List.length_nil] at t6
              exact ⟨t4, t5, by omega⟩
            · cases e7
              exact ⟨by simp only [GoodL], by simp only [depL]; omega, by simp [stsK]⟩
          have hc := cond_len (tk ts k).pos x th el
          refine ⟨by simp only [GoodSt]; exact ⟨g1, t1, hel.1⟩, by simp only [depS]; omega, by omega⟩

theorem way_cases2 {s : List UInt8} (h : wayN s ≠ 0) : 1 ≤ wayN s ∧ wayN s ≤ 3 ∧ 2 ≤ s.length := by
  unfold wayN at h ⊢
  repeat' split at h
  · rename_i e; rw [beq_iff_eq] at e; subst e; decide
  · rename_i e; rw [beq_iff_eq] at e; subst e; decide
  · rename_i e; rw [beq_iff_eq] at e; subst e; decide
  · exact absurd rfl h
theorem blk_cases2 {s : List UInt8} (h : blkN s ≠ 0) : 3 ≤ blkN s ∧ blkN s ≤ 5 ∧ 4 ≤ s.length := by
  unfold blkN at h ⊢
  repeat' split at h
  · rename_i e; rw [beq_iff_eq] at e; subst e; decide
  · rename_i e; rw [beq_iff_eq] at e; subst e; decide
  · rename_i e; rw [beq_iff_eq] at e; subst e; decide
  · exact absurd rfl h
theorem kind_inv {k k' ty : Nat} (h : kindP ts k = .ok ty k') : 1 ≤ ty ∧ ty ≤ 2 ∧ ws ts k + 4 ≤ ws ts k' := by
  unfold kindP at h
  split at h
  · rename_i e
    rw [beq_iff_eq] at e
    cases h
    rw [ws_succ, tx_size e]
    exact ⟨by omega, by omega, by simp⟩
  · obtain ⟨u, k1, e1, e2⟩ := bind_ok h
    cases e2
    have := want_inv e1
    simp only [List.length_cons, List.length_nil] at this
    exact ⟨by omega, by omega, by omega⟩
theorem first_inv (hw : Wds ts) {k k' ty n : Nat} (h : firstP ts ty k = .ok n k') : (ty ≠ 2 → n ≤ 1) ∧ n ≤ 255 ∧ ws ts k ≤ ws ts k' := by
  unfold firstP at h
  split at h
  · split at h
    · rename_i e1 e
      obtain ⟨g1, g2⟩ := byte_inv hw h
      rw [ws_succ] at g2
      exact ⟨fun h => absurd e h, g1, by omega⟩
    · split at h
      · cases h
        refine ⟨fun _ => Nat.le_refl _, by omega, ?_⟩
        rw [show k + 2 = k + 1 + 1 from rfl, ws_succ, ws_succ]; omega
      · obtain ⟨u, k1, e1, e2⟩ := bind_ok h
        cases e2
        have := want_inv e1
        rw [ws_succ] at this
        exact ⟨fun _ => by omega, by omega, by omega⟩
  · cases h
    exact ⟨fun _ => by omega, by omega, Nat.le_refl _⟩
theorem lineK_len (d : De) : (lineK d).length ≤ 7 := by
  unfold lineK
  simp only [List.length_append]
  split <;> split <;> simp
theorem decl_inv (hw : Wds ts) {k k' : Nat} {d : De} (hc : wayN (tx ts k) ≠ 0 ∨ blkN (tx ts k) ≠ 0) (h : declP ts k = .ok d k') : GoodD d ∧ ws ts k + 5 ≤ ws ts k' := by
  unfold declP at h
  obtain ⟨s, k1, e1, e2⟩ := bind_ok h
  obtain ⟨g1, g2⟩ := name_inv hw e1
  rw [ws_succ] at g2
  have hz : (tk ts k).text.size = (tx ts k).length := tx_size rfl
  split at e2
  · rename_i hb
    obtain ⟨u, k2, e3, e4⟩ := bind_ok e2
    cases e4
    have w1 := want_inv e3
    have b := blk_cases2 hb
    simp only [List.length_cons, List.length_nil] at w1
    exact ⟨⟨g1, .inl ⟨b.1, b.2.1, rfl, rfl⟩⟩, by omega⟩
  · rename_i hb
    have hwn : wayN (tx ts k) ≠ 0 := by
      rcases hc with h | h
      · exact h
      · exact absurd h hb
    have b := way_cases2 hwn
    obtain ⟨u, k2, e3, e4⟩ := bind_ok e2
    obtain ⟨ty, k3, e5, e6⟩ := bind_ok e4
    have w1 := want_inv e3
    obtain ⟨t1, t2, t3⟩ := kind_inv e5
    simp only [List.length_cons, List.length_nil] at w1
    split at e6
    · rename_i hw1
      obtain ⟨n, k4, e7, e8⟩ := bind_ok e6
      obtain ⟨u2, k5, e9, e10⟩ := bind_ok e8
      cases e10
      obtain ⟨f1, f2, f3⟩ := first_inv hw e7
      have w2 := want_inv e9
      exact ⟨⟨g1, .inr ⟨b.1, b.2.1, t1, t2, fun e => absurd e hw1, fun e => f1 (by dsimp only at e; omega), f2⟩⟩, by omega⟩
    · obtain ⟨u2, k5, e9, e10⟩ := bind_ok e6
      cases e10
      have w2 := want_inv e9
      exact ⟨⟨g1, .inr ⟨b.1, b.2.1, t1, t2, fun _ => rfl, fun _ => by dsimp only; omega, by dsimp only; omega⟩⟩, by omega⟩
theorem linesK_snoc : ∀ (l : List De) (d : De), (linesK (l ++ [d])).length = (linesK l).length + (lineK d).length
  | [], d => by simp [linesK]
  | y :: l, d => by simp only [List.cons_append, linesK, List.length_append, linesK_snoc l d]; omega
theorem decls_inv (hw : Wds ts) : ∀ (f : Nat) {k k' : Nat} {acc l : List De} (w0 : Nat), declsP ts f k acc = .ok l k' → (∀ d ∈ acc, GoodD d) → acc.length ≤ 20 → 5 * (linesK acc).length + 7 * w0 ≤ 7 * ws ts k →
    (∀ d ∈ l, GoodD d) ∧ l.length ≤ 20 ∧ 5 * (linesK l).length + 7 * w0 ≤ 7 * ws ts k'
  | 0, _, _, _, _, _, h, _, _, _ => by simp only [declsP] at h; cases h
  | f + 1, k, k', acc, l, w0, h, hg, hl, hn => by
    simp only [declsP] at h
    split at h
    · rename_i hc
      obtain ⟨d, k1, e1, e2⟩ := bind_ok h
      obtain ⟨g1, g2⟩ := decl_inv hw hc e1
      split at e2
      · cases e2
      · have := lineK_len d
        refine decls_inv hw f w0 e2 (fun y hy => ?_) (by simp; omega) (by rw [linesK_snoc]; omega)
        rcases List.mem_append.1 hy with h | h
        · exact hg y h
        · rw [List.mem_singleton] at h; rw [h]; exact g1
    · cases h
      exact ⟨hg, hl, hn⟩
theorem prog_inv (hw : Wds ts) {f k' : Nat} {p : List De × List St} (h : progP ts f = .ok p k') : GoodPr p ∧ 5 * (printK p).length ≤ 7 * ws ts k' := by
  unfold progP at h
  obtain ⟨ds, k1, e1, e2⟩ := bind_ok h
  obtain ⟨u, k2, e3, e4⟩ := bind_ok e2
  obtain ⟨b, k3, e5, e6⟩ := bind_ok e4
  obtain ⟨u2, k4, e7, e8⟩ := bind_ok e6
  cases e8
  obtain ⟨d1, d2, d3⟩ := decls_inv hw f 0 e1 (by simp) (by simp) (by simp [linesK])
  have w1 := want_inv e3
  obtain ⟨t1, t2, t3⟩ := (st_inv hw f).1 _ _ _ _ _ (ws ts k2) (by omega) e5 (by simp only [GoodL]) (by simp only [depL]; omega) (by simp [stsK])
  have w2 := want_inv e7
  simp only [List.length_cons, List.length_nil] at w1 w2
  refine ⟨⟨d1, d2, t1, by simpa using t2⟩, ?_⟩
  simp only [printK, List.length_append, List.length_cons, List.length_nil]
  omega
end
end Go.Proofs.YtiimnnancblbkaaDoor
