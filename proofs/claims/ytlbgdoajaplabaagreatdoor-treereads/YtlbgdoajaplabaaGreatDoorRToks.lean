/-
  CONTRACT of tokens of the reference.
-/
import Derived.Test.YtlbgdoajaplabaaGreatDoorRTok
namespace Go.Proofs.YtlbgdoajaplabaaGreatDoor
open Go.RowKit
set_option linter.unusedSimpArgs false
set_option linter.unusedVariables false

def rtokCells (t : Tok) : List Value := [.int .i64 (rk t : Nat), .string t.text, .int .i64 t.pos]
theorem info_rtok : ∃ i, Tryz.prog.info? 54 = some i ∧ i.zero = some (.agg #[.int .i64 0, .string ⟨#[]⟩, .int .i64 0]) ∧ i.size = 3 ∧ i.bytes = 32 := info_parts (by kernel_rfl)

theorem past_more (p : UInt8 → Bool) (l : List UInt8) (i : Nat) (hi : i < l.length) (h : p l[i] = true) : past p l i = past p l (i + 1) := by
  unfold past
  rw [List.drop_eq_getElem_cons hi]
  simp only [List.takeWhile, h, List.length_cons]
  omega
theorem past_here (p : UInt8 → Bool) (l : List UInt8) (i : Nat) (h : ∀ hi : i < l.length, p l[i] = false) : past p l i = i := by
  unfold past
  by_cases hi : i < l.length
  · rw [List.drop_eq_getElem_cons hi]
    simp only [List.takeWhile, h hi, List.length_nil]
    omega
  · rw [List.drop_eq_nil_of_le (by omega)]
    simp

set_option maxRecDepth 100000 in
theorem low_dig {c : UInt8} : lowB c = true → digB c = false := by
  revert c
  exact fun {c} => all_bytes (fun c => lowB c = true → digB c = false) (by decide) c

structure GoodR (t : Tok) : Prop where
  good : Good t
  blank : ∀ c ∈ t.text.data.toList, c ≠ 32
  pos : 0 < t.text.size
  kinds : t.kind ≤ 3
theorem dg_blank {c : UInt8} (h : isDg c = true) : c ≠ 32 := by intro e; subst e; revert h; decide
theorem ld_blank {c : UInt8} (h : isLd c = true) : c ≠ 32 := by intro e; subst e; revert h; decide
theorem marks_nb : ∀ m ∈ marksL, ∀ c ∈ m, c ≠ 32 := by decide
theorem tokenAt_goodR (s : ByteArray) (i : Nat) (hi : i ≤ s.size) (hs : s.size ≤ 1000000) (hk : (tokenAt s i).kind ≠ 0) : GoodR (tokenAt s i) := by
  obtain ⟨h1, h2, h3⟩ := tokenAt_good s i hi hs hk
  refine ⟨h1, ?_, h2, ?_⟩
  · intro c hc
    unfold tokenAt at hc
    split at hc
    · obtain ⟨t, ht, h3, h4, h5⟩ := mem_extract hc
      have := past_all isDg s.data.toList i t h3 h4 ht
      rw [h5] at this
      exact dg_blank this
    · split at hc
      · obtain ⟨t, ht, h3, h4, h5⟩ := mem_extract hc
        have := past_all isLd s.data.toList i t h3 h4 ht
        rw [h5] at this
        exact ld_blank this
      · split at hc
        · rename_i m hm
          exact marks_nb m (List.mem_of_find?_eq_some hm) c (by simpa using hc)
        · simp at hc
  · unfold tokenAt
    split
    · show 2 ≤ 3; omega
    · split
      · show 1 ≤ 3; omega
      · split
        · show 3 ≤ 3; omega
        · show 0 ≤ 3; omega
theorem fitR_of (acc : List Tok) (n : Nat) (h : ∀ t ∈ acc, GoodR t) (hl : acc.length ≤ 800) : FitR (acc ++ [⟨0, ⟨#[]⟩, n⟩]) := by
  have hcase : ∀ i, tk (acc ++ [⟨0, ⟨#[]⟩, n⟩]) i ∈ acc ∨ ((tk (acc ++ [⟨0, ⟨#[]⟩, n⟩]) i).kind = 0 ∧ (tk (acc ++ [⟨0, ⟨#[]⟩, n⟩]) i).text = ⟨#[]⟩) := fun i => by
    unfold tk
    by_cases hi : i < acc.length
    · rw [List.getElem?_append_left hi, List.getElem?_eq_getElem hi, Option.getD_some]
      exact .inl (List.getElem_mem hi)
    · rw [List.getElem?_append_right (by omega)]
      cases hx : ([⟨0, ⟨#[]⟩, n⟩] : List Tok)[i - acc.length]? with
      | none => exact .inr ⟨rfl, rfl⟩
      | some t =>
        have := List.mem_of_getElem? hx
        simp at this
        subst this
        exact .inr ⟨rfl, rfl⟩
  refine ⟨fit_of acc n (fun t ht => (h t ht).good) hl, fun i c hc => ?_, fun i hk => ?_, fun i => ?_⟩
  · rcases hcase i with h1 | h1
    · exact (h _ h1).blank c hc
    · rw [h1.2] at hc; simp at hc
  · rcases hcase i with h1 | h1
    · exact (h _ h1).pos
    · exact absurd h1.1 hk
  · rcases hcase i with h1 | h1
    · exact (h _ h1).kinds
    · rw [h1.1]; omega
theorem rrow_toks {w : World} {T cap n : Nat} {ts : List Tok} (hn : n = ts.length) (h : w.ownsRow 0 54 3 (.slice (some ⟨T, 0, none⟩) n cap) n (ts.flatMap rtokCells)) : RRow w T ts := by
  intro i hi
  have hlen : ∀ (l : List Tok) (j : Nat) (hj : j < l.length) (q : Nat) (hq : q < 3), (l.flatMap rtokCells)[j * 3 + q]? = (rtokCells l[j])[q]? := by
    intro l
    induction l with
    | nil => intro j hj; simp at hj
    | cons a t ih =>
      intro j hj q hq
      cases j with
      | zero => simp only [List.flatMap_cons, Nat.zero_mul, Nat.zero_add, List.getElem_cons_zero]; rw [List.getElem?_append_left (by simpa [rtokCells] using hq)]
      | succ j =>
        simp only [List.flatMap_cons, List.getElem_cons_succ]
        rw [List.getElem?_append_right (by simp [rtokCells]; omega)]
        have := ih j (by simpa using hj) q hq
        rw [← this]
        congr 1
        simp [rtokCells]; omega
  have hc : ∀ q, q < 3 → w.cell? ⟨T, i * 3 + q, none⟩ = (rtokCells ts[i])[q]? := fun q hq => by
    rw [h.cellAt (i * 3 + q) (by omega), hlen ts i hi q hq]
  have e : tk ts i = ts[i] := by unfold tk; rw [List.getElem?_eq_getElem hi, Option.getD_some]
  rw [e]
  exact ⟨hc 0 (by omega), hc 1 (by omega), hc 2 (by omega)⟩

/-- a mark of so many letters begins there -/
def mk1 (s : ByteArray) (i n : Nat) : Bool := marksL.any fun m => m.length == n && m.isPrefixOf (s.data.toList.drop i)
/-- a mark of more letters than so many, of at most so many -/
def mkN (s : ByteArray) (i : Nat) : Nat → Nat → Bool
  | 0, _ => false
  | n + 1, k => (decide (k < n + 1) && mk1 s i (n + 1)) || mkN s i n k
def marksA : List (List UInt8) := [[58, 61], [60, 62], [60, 61], [62, 61]]
def marksB : List (List UInt8) := [[60], [62], [61], [43], [45], [40], [41], [44], [59], [58], [46]]
theorem marks_ab : marksL = marksA ++ marksB := rfl
theorem marksA_len : ∀ m ∈ marksA, m.length = 2 := by decide
theorem marksB_len : ∀ m ∈ marksB, m.length = 1 := by decide
theorem find_two {p : List UInt8 → Bool} {m : List UInt8} (h : marksL.find? p = some m) (m2 : List UInt8) (hm : m2 ∈ marksL) (hl : m2.length = 2) (hp : p m2 = true) : m.length = 2 := by
  rw [marks_ab, List.find?_append] at h
  rw [marks_ab] at hm
  rcases List.mem_append.1 hm with h1 | h1
  · cases hA : marksA.find? p with
    | none => exact absurd hp (by have := List.find?_eq_none.1 hA m2 h1; simpa using this)
    | some q =>
      rw [hA] at h
      simp at h
      subst h
      exact marksA_len q (List.mem_of_find?_eq_some hA)
  · have := marksB_len m2 h1
    omega
theorem mark_text {s : ByteArray} {i : Nat} {m : List UInt8} (h : m.isPrefixOf (s.data.toList.drop i) = true) : i + m.length ≤ s.size ∨ m = [] := by
  have := (List.isPrefixOf_iff_prefix.1 h).length_le
  have h2 : (s.data.toList.drop i).length = s.size - i := by rw [List.length_drop, Array.length_toList]; rfl
  rw [h2] at this
  cases m with
  | nil => exact .inr rfl
  | cons a t => simp only [List.length_cons] at *; exact .inl (by omega)
theorem mark_extract {s : ByteArray} {i : Nat} {m : List UInt8} (h : m.isPrefixOf (s.data.toList.drop i) = true) : s.extract i (i + m.length) = ⟨m.toArray⟩ := by
  have hp := List.isPrefixOf_iff_prefix.1 h
  have e : (s.extract i (i + m.length)).data.toList = m := by
    rw [Lib.extract_data]
    have := List.prefix_iff_eq_take.1 hp
    rw [show i + m.length - i = m.length by omega]
    exact this.symm
  generalize s.extract i (i + m.length) = x at *
  cases x with
  | mk d =>
    have e : d.toList = m := e
    rw [← e]
/-- what a mark is -/
theorem tok_mark (s : ByteArray) (i n : Nat) (hd : past isDg s.data.toList i = i) (hl : past isLd s.data.toList i = i) (h1 : mk1 s i n = true) (hn : n = 2 ∨ (n = 1 ∧ mk1 s i 2 = false)) : tokenAt s i = ⟨3, s.extract i (i + n), i⟩ ∧ i + n ≤ s.size := by
  unfold tokenAt
  rw [hd, if_neg (Nat.lt_irrefl _), hl, if_neg (Nat.lt_irrefl _)]
  obtain ⟨m0, hm0, hp0⟩ := List.any_eq_true.1 h1
  simp only [Bool.and_eq_true, beq_iff_eq] at hp0
  cases hf : marksL.find? (fun m => m.isPrefixOf (s.data.toList.drop i)) with
  | none => exact absurd hp0.2 (by have := List.find?_eq_none.1 hf m0 hm0; simpa using this)
  | some m =>
    have hpm : m.isPrefixOf (s.data.toList.drop i) = true := by have := List.find?_some hf; exact this
    have hmm := List.mem_of_find?_eq_some hf
    have hlm : m.length = n := by
      rcases hn with rfl | ⟨rfl, h2⟩
      · exact find_two hf m0 hm0 hp0.1 hp0.2
      · rw [marks_ab] at hmm
        rcases List.mem_append.1 hmm with h3 | h3
        · exfalso
          have : mk1 s i 2 = true := List.any_eq_true.2 ⟨m, by rw [marks_ab]; exact List.mem_append.2 (.inl h3), by simp only [Bool.and_eq_true, beq_iff_eq]; exact ⟨marksA_len m h3, hpm⟩⟩
          rw [h2] at this; cases this
        · exact marksB_len m h3
    subst hlm
    rw [mark_extract hpm]
    refine ⟨rfl, ?_⟩
    rcases mark_text hpm with h3 | h3
    · exact h3
    · exfalso
      subst h3
      have := marks_size [] hmm
      simp at this
theorem tok_none (s : ByteArray) (i : Nat) (hd : past isDg s.data.toList i = i) (hl : past isLd s.data.toList i = i) (h1 : mk1 s i 1 = false) (h2 : mk1 s i 2 = false) : (tokenAt s i).kind = 0 := by
  unfold tokenAt
  rw [hd, if_neg (Nat.lt_irrefl _), hl, if_neg (Nat.lt_irrefl _)]
  cases hf : marksL.find? (fun m => m.isPrefixOf (s.data.toList.drop i)) with
  | none => rfl
  | some m =>
    exfalso
    have hpm : m.isPrefixOf (s.data.toList.drop i) = true := by have := List.find?_some hf; exact this
    have hmm := List.mem_of_find?_eq_some hf
    rw [marks_ab] at hmm
    rcases List.mem_append.1 hmm with h3 | h3
    · have : mk1 s i 2 = true := List.any_eq_true.2 ⟨m, by rw [marks_ab]; exact hmm, by simp only [Bool.and_eq_true, beq_iff_eq]; exact ⟨marksA_len m h3, hpm⟩⟩
      rw [h2] at this; cases this
    · have : mk1 s i 1 = true := List.any_eq_true.2 ⟨m, by rw [marks_ab]; exact hmm, by simp only [Bool.and_eq_true, beq_iff_eq]; exact ⟨marksB_len m h3, hpm⟩⟩
      rw [h1] at this; cases this
theorem any_take {p : List UInt8 → Bool} (j : Nat) (hj : j < marksL.length) : (marksL.take (j + 1)).any p = ((marksL.take j).any p || p marksL[j]) := by
  rw [List.take_add_one, List.getElem?_eq_getElem hj, List.any_append]
  simp only [Option.toList, List.any_cons, List.any_nil, Bool.or_false]
theorem mkN_step (s : ByteArray) (i n : Nat) (h : n = 0 ∨ n = 1) (h1 : mkN s i 2 (n + 1) = false) (h2 : mk1 s i (n + 1) = false) : mkN s i 2 n = false := by
  rcases h with rfl | rfl
  · simp [mkN] at *; exact ⟨h1, h2⟩
  · simp [mkN] at *; exact h2
theorem mkN_zero {s : ByteArray} {i : Nat} (h : mkN s i 2 0 = false) : mk1 s i 2 = false ∧ mk1 s i 1 = false := by
  simp [mkN] at h; exact h
theorem mkN_one {s : ByteArray} {i : Nat} (h : mkN s i 2 1 = false) : mk1 s i 2 = false := by
  simp [mkN] at h; exact h
theorem mkN_two (s : ByteArray) (i : Nat) : mkN s i 2 2 = false := by simp [mkN]

theorem split_marks : Lib.countB ⟨#[58, 61, 32, 60, 62, 32, 60, 61, 32, 62, 61, 32, 60, 32, 62, 32, 61, 32, 43, 32, 45, 32, 40, 32, 41, 32, 44, 32, 59, 32, 58, 32, 46]⟩ ⟨#[32]⟩ = 14 ∧ Lib.splitB ⟨#[32]⟩ 0 14 ⟨#[58, 61, 32, 60, 62, 32, 60, 61, 32, 62, 61, 32, 60, 32, 62, 32, 61, 32, 43, 32, 45, 32, 40, 32, 41, 32, 44, 32, 59, 32, 58, 32, 46]⟩ = marksL.map fun m => ⟨m.toArray⟩ := ⟨by kernel_rfl, by kernel_rfl⟩
theorem rsplit_at (w : World) (hm : ∃ m : Int, w.cell? ⟨6, 0, none⟩ = some (.int .i64 m)) :
    Calls Tryz.prog 39 #[.string ⟨#[58, 61, 32, 60, 62, 32, 60, 61, 32, 62, 61, 32, 60, 32, 62, 32, 61, 32, 43, 32, 45, 32, 40, 32, 41, 32, 44, 32, 59, 32, 58, 32, 46]⟩, .string ⟨#[32]⟩] w fun e w' => e = .returned (.slice (some ⟨w.heap.size, 0, none⟩) 15 15) ∧ w' = w.alloc (.cells (strs marksL) 9) := by
  obtain ⟨m, hm⟩ := hm
  refine (Tryz.strings_Split _ _ m w (by decide) hm (by decide)).mono ?_
  rintro e w' ⟨rfl, rfl⟩
  rw [split_marks.1, split_marks.2]
  refine ⟨rfl, ?_⟩
  unfold strs
  rw [List.map_map]
  rfl
theorem marks_cell {w : World} {S : Nat} (h : w.heap[S]? = some (.cells (strs marksL) 9 (0, 0))) (j : Nat) (hj : j < 15) : w.cell? ⟨S, j, none⟩ = some (.string ⟨(marksL[j]'(by simpa [marksL] using hj)).toArray⟩) := by
  rw [blk_cell h]
  unfold strs
  simp [List.getElem?_map, List.getElem?_eq_getElem (show j < marksL.length by simpa [marksL] using hj)]

abbrev fltObj (a b : Int) : Obj := .cells #[.int .i64 a, .int .i64 b] 28 (0, 0)
/-- what cutting a text into tokens comes to -/
def RToks (w : World) (r : Res (List Tok)) (e : Ending) (w' : World) : Prop :=
  Below w.heap.size w w' ∧ match r with
  | .out => False
  | .bad er p => e = .returned (.tuple #[.slice none 0 0, .agg #[.int .i64 er, .int .i64 p]])
  | .ok ts _ => ∃ T cap : Nat, e = .returned (.tuple #[.slice (some ⟨T, 0, none⟩) ts.length cap, .agg #[.int .i64 0, .int .i64 (-1)]]) ∧ RRow w' T ts ∧ w.heap.size ≤ T ∧ ts.length ≤ cap ∧ FitR ts
/-- what the loop over letters holds to -/
structure RTk (w : World) (s : ByteArray) (whole : Res (List Tok)) (v : Value) (i : Nat) (acc : List Tok) (wr : World) : Prop where
  le : i ≤ s.size
  row : IsRow (From (w.heap.size + 1)) wr 54 3 v acc.length (acc.flatMap rtokCells)
  below : Below w.heap.size w wr
  zero : wr.heap[w.heap.size]? = some (fltObj 0 0)
  eq : ∃ g, whole = toks s g (past isBl s.data.toList i) acc
  good : ∀ t ∈ acc, GoodR t
  len : acc.length ≤ 800

set_option maxRecDepth 100000 in
set_option maxHeartbeats 40000000 in
theorem rtokens_at (s : ByteArray) (w : World) (hs : s.size ≤ 1000000) (hv : RVars w) :
    Calls Tryz.prog 15 #[.string s] w (RToks w (tokens s)) := by
  obtain ⟨i0, hi, hz0, hz1, hz2⟩ := info_rtok
  have HNO : Hid (tokens s ≠ .out) := by
    have hp := past_le isBl s.data.toList 0 (Nat.zero_le _)
    rw [Array.length_toList] at hp
    exact toks_out s hs _ _ _ hp.2 (by omega)
  have HV := hide hv
  have HL : Hid (RTk w s (tokens s) (.slice none 0 0) 0 [] (w.alloc (fltObj 0 0))) := hide ⟨Nat.zero_le _, IsRow.nil .., below_alloc w _, blk_new w _, ⟨_, rfl⟩, by simp, Nat.zero_le _⟩
  clear hv
  generalize tokens s = whole at *
  go_enter Tryz.func15, Tryz.ntmps15
  go_wp2_with fail
  go_loopw [4, 5, 6, 7, 8, 9, 11] (fun v a _ _ _ _ _ wr => ∃ (i : Nat) (acc : List Tok), a = .int .i64 i ∧ Hid (RTk w s whole v i acc wr)) (fun _ a _ _ _ _ _ _ => s.size - (intOf a).toNat)
  case atStart => exact ⟨0, [], rfl, HL⟩
  case round =>
    obtain ⟨i, acc, rfl, hrl⟩ := hrel
    clear HL
    have HAC := hide hrl.out.len
    have hac' := hrl.out.len
    have HGD := hide hrl.out.good
    have HB := hide hrl.out.below
    have HZ := hide hrl.out.zero
    have HY := hide hrl.out.row
    have hle := hrl.out.le
    obtain ⟨g, he2⟩ := hrl.out.eq
    obtain ⟨va, vc, hvv⟩ := HY.out.val
    subst hvv
    clear hrl
    cases g with
    | zero => exact absurd (he2.trans (by simp only [toks])) HNO.out
    | succ g =>
    have hsz : s.data.toList.length = s.size := Array.length_toList
    by_cases hlt : i < s.size
    · have hlti : (i : Int) < (s.size : Int) := by omega
      have HIL : Hid (i < s.data.toList.length) := hide (by rw [hsz]; exact hlt)
      have HC : Hid (s.data.toList[i]'HIL.out = s[i]'hlt) := hide (Array.getElem_toList _)
      cases hbl : blB (s[i]'hlt) with
      | true =>
        have HP : Hid (past isBl s.data.toList i = past isBl s.data.toList (i + 1)) := hide (past_more isBl s.data.toList i HIL.out (by rw [HC.out, bl_is]; exact hbl))
        have hb3 : (s[i]'hlt).toNat = 32 ∨ (s[i]'hlt).toNat = 9 ∨ (s[i]'hlt).toNat = 10 := by
          simp only [blB, Bool.or_eq_true, beq_iff_eq] at hbl
          omega
        rcases hb3 with hc | hc | hc
        · have hq32 : (((s[i]'hlt).toNat : Int) == 32) = true := (natI _ 32).trans (by rw [hc]; rfl)
          clear hbl hc
          go_wp2_with fail
          exact ⟨⟨i + 1, acc, by go_num, ⟨by omega, HY.out, HB.out, HZ.out, ⟨_, he2.trans (by rw [HP.out])⟩, HGD.out, HAC.out⟩⟩, by simp [intOf]; omega⟩
        · have hq32 : (((s[i]'hlt).toNat : Int) == 32) = false := (natI _ 32).trans (by rw [hc]; rfl)
          have hq9 : (((s[i]'hlt).toNat : Int) == 9) = true := (natI _ 9).trans (by rw [hc]; rfl)
          clear hbl hc
          go_wp2_with fail
          exact ⟨⟨i + 1, acc, by go_num, ⟨by omega, HY.out, HB.out, HZ.out, ⟨_, he2.trans (by rw [HP.out])⟩, HGD.out, HAC.out⟩⟩, by simp [intOf]; omega⟩
        · have hq32 : (((s[i]'hlt).toNat : Int) == 32) = false := (natI _ 32).trans (by rw [hc]; rfl)
          have hq9 : (((s[i]'hlt).toNat : Int) == 9) = false := (natI _ 9).trans (by rw [hc]; rfl)
          have hq10 : (((s[i]'hlt).toNat : Int) == 10) = true := (natI _ 10).trans (by rw [hc]; rfl)
          clear hbl hc
          go_wp2_with fail
          exact ⟨⟨i + 1, acc, by go_num, ⟨by omega, HY.out, HB.out, HZ.out, ⟨_, he2.trans (by rw [HP.out])⟩, HGD.out, HAC.out⟩⟩, by simp [intOf]; omega⟩
      | false =>
        have hq : ((((s[i]'hlt).toNat : Int) == 32) = false) ∧ ((((s[i]'hlt).toNat : Int) == 9) = false) ∧ ((((s[i]'hlt).toNat : Int) == 10) = false) := by
          simp only [blB, Bool.or_eq_false_iff] at hbl
          exact ⟨(natI _ 32).trans hbl.1.1, (natI _ 9).trans hbl.1.2, (natI _ 10).trans hbl.2⟩
        obtain ⟨hq32, hq9, hq10⟩ := hq
        have hb1 := below_alloc wr (.cells #[.int .i64 0, .string ⟨#[]⟩, .int .i64 i] 54)
        have HB1 := hide (Below.step HB.out (hb1.mono (Nat.le_refl _)))
        have HX1 := hide (blk_new wr (.cells #[.int .i64 0, .string ⟨#[]⟩, .int .i64 i] 54))
        have HZ1 := hide (Below.blk hb1 HZ.out)
        have HY1 : Hid (IsRow (fun b => w.heap.size + 1 ≤ b ∧ b ≠ wr.heap.size) (wr.alloc (.cells #[.int .i64 0, .string ⟨#[]⟩, .int .i64 i] 54)) 54 3 (.slice va acc.length vc) acc.length (acc.flatMap rtokCells)) := hide ((HY.out.imp fun b h1 h2 => ⟨h2, by omega⟩).same fun b _ h2 => hb1.block b h2)
        have hXw : w.heap.size ≤ wr.heap.size := HB.out.size
        have hXz : w.heap.size ≠ wr.heap.size := by have := blk_lt HZ.out; omega
        clear hb1
        go_wp2_with fail
        generalize wr.alloc (.cells #[.int .i64 0, .string ⟨#[]⟩, .int .i64 i] 54) = w1 at *
        generalize wr.heap.size = X at *
        refine (rlow_at (s[i]'hlt) w1).mono ?_
        rintro e w1' ⟨rfl, rfl⟩
        have y0 : w1'.cell? ⟨X, 0, none⟩ = some (.int .i64 0) := by rw [blk_cell HX1.out]; rfl
        have yf0 : w1'.frozen? ⟨X, 0, none⟩ = false := blk_frozen HX1.out 0
        cases hlo : lowB (s[i]'hlt) with
        | true =>
          have HE := hide (past_end isLd s.data.toList i)
          have HX2 : Hid ((w1'.setCell ⟨X, 0, none⟩ (.int .i64 1)).heap[X]? = some (.cells #[.int .i64 1, .string ⟨#[]⟩, .int .i64 i] 54 (0, 0))) := hide (by rw [blk_set HX1.out 0 _]; rfl)
          have HY2 : Hid (IsRow (fun b => w.heap.size + 1 ≤ b ∧ b ≠ X) (w1'.setCell ⟨X, 0, none⟩ (.int .i64 1)) 54 3 (.slice va acc.length vc) acc.length (acc.flatMap rtokCells)) := hide (HY1.out.same fun b h1 h2 => set_other _ 0 _ h1.2)
          have HZ2 := hide ((set_other w1' 0 (.int .i64 1) hXz).trans HZ1.out)
          have HB2 : Hid (Below w.heap.size w (w1'.setCell ⟨X, 0, none⟩ (.int .i64 1))) := hide (HB1.out.setCell hXw _)
          go_wp2_with fail
          generalize w1'.setCell ⟨X, 0, none⟩ (.int .i64 1) = w2 at *
          go_loop [7] (fun a => ∃ j : Nat, i ≤ j ∧ j ≤ s.size ∧ a = .int .i64 j ∧ Hid (∀ t (ht : t < s.data.toList.length), i ≤ t → t < j → isLd s.data.toList[t] = true)) (fun a => s.size - (intOf a).toNat)
          case atStart => exact ⟨i, Nat.le_refl _, hle, rfl, (fun t ht h1 h2 => by omega : ∀ t (ht : t < s.data.toList.length), i ≤ t → t < i → isLd s.data.toList[t] = true)⟩
          case round =>
            obtain ⟨j, hij, hj, rfl, hall⟩ := hrel
            by_cases hjt : j < s.size
            · have hj1 : (j : Int) < (s.size : Int) := by omega
              have HJL : Hid (j < s.data.toList.length) := hide (by rw [hsz]; exact hjt)
              have HCJ : Hid (s.data.toList[j]'HJL.out = s[j]'hjt) := hide (Array.getElem_toList _)
              go_wp2_with fail
              refine (rlow_at (s[j]'hjt) w2).mono ?_
              rintro e w2' ⟨rfl, rfl⟩
              cases hlj : lowB (s[j]'hjt) with
              | true =>
                have HON : Hid (isLd (s.data.toList[j]'HJL.out) = true) := hide (by rw [HCJ.out, ld_is, hlj]; rfl)
                go_wp2_with fail
                refine ⟨⟨j + 1, by omega, by omega, by go_num, (fun t ht h1 h2 => ?_ : ∀ t (ht : t < s.data.toList.length), i ≤ t → t < j + 1 → isLd s.data.toList[t] = true)⟩, by simp [intOf]; omega⟩
                rcases Nat.lt_or_ge t j with h3 | h3
                · exact hall.out t ht h1 h3
                · have : t = j := by omega
                  subst this
                  exact HON.out
              | false =>
                go_wp2_with fail
                refine (rdig_at (s[j]'hjt) w2').mono ?_
                rintro e w2'' ⟨rfl, rfl⟩
                cases hdj : digB (s[j]'hjt) with
                | true =>
                  have HON : Hid (isLd (s.data.toList[j]'HJL.out) = true) := hide (by rw [HCJ.out, ld_is, hlj, hdj]; rfl)
                  go_wp2_with fail
                  refine ⟨⟨j + 1, by omega, by omega, by go_num, (fun t ht h1 h2 => ?_ : ∀ t (ht : t < s.data.toList.length), i ≤ t → t < j + 1 → isLd s.data.toList[t] = true)⟩, by simp [intOf]; omega⟩
                  rcases Nat.lt_or_ge t j with h3 | h3
                  · exact hall.out t ht h1 h3
                  · have : t = j := by omega
                    subst this
                    exact HON.out
                | false =>
                  have HOFF : Hid (isLd (s.data.toList[j]'HJL.out) = false) := hide (by rw [HCJ.out, ld_is, hlj, hdj]; rfl)
                  have hiK0 : i < j := by
                    rcases Nat.lt_or_ge i j with h3 | h3
                    · exact h3
                    · have : i = j := by omega
                      subst this
                      rw [hlo] at hlj; cases hlj
                  have hpe : past isLd s.data.toList i = j := HE.out j hij (by rw [hsz]; exact hj) hall.out (fun _ => HOFF.out)
                  have htk : tokenAt s i = ⟨1, s.extract i j, i⟩ := by
                    have hnd : past isDg s.data.toList i = i := past_here isDg s.data.toList i (fun h => by rw [HC.out, dig_is]; exact low_dig hlo)
                    unfold tokenAt
                    rw [hnd, if_neg (Nat.lt_irrefl _), hpe, if_pos hiK0]
                  clear hpe
                  have HTK := hide htk
                  have hKi : ((j : Int) == (i : Int)) = false := by rw [beq_eq_false_iff_ne]; omega
                  have HGR : Hid (GoodR ⟨1, s.extract i j, i⟩) := hide (by have := tokenAt_goodR s i hle hs (by rw [htk]; show (1 : Nat) ≠ 0; decide); rw [htk] at this; exact this)
                  have hsE : (s.extract i j).size = j - i := by rw [ByteArray.size_extract]; omega
                  have HU : Hid (whole = if acc.length = 800 then .bad 4 i else toks s g (past isBl s.data.toList j) (acc ++ [⟨1, s.extract i j, i⟩])) := hide (by
                    rw [he2, past_here isBl s.data.toList i (fun h => by rw [HC.out, bl_is]; exact hbl), toks, if_pos hlt, htk, if_neg (by show ¬ (1 : Nat) = 0; decide)]
                    congr 2
                    show past isBl s.data.toList (i + (s.extract i j).size) = _
                    rw [hsE]
                    congr 1
                    omega)
                  clear htk he2
                  by_cases h8 : acc.length = 800
                  · have HW : Hid (whole = .bad 4 i) := hide (by rw [HU.out, if_pos h8])
                    have h8i : (800 : Int) ≤ (acc.length : Int) := by omega
                    have z0 : w2''.cell? ⟨w.heap.size, 0, none⟩ = some (.int .i64 0) := by rw [blk_cell HZ2.out]; rfl
                    have z1 : w2''.cell? ⟨w.heap.size, 1, none⟩ = some (.int .i64 0) := by rw [blk_cell HZ2.out]; rfl
                    have zf0 : w2''.frozen? ⟨w.heap.size, 0, none⟩ = false := blk_frozen HZ2.out 0
                    have zf1 : w2''.frozen? ⟨w.heap.size, 1, none⟩ = false := blk_frozen HZ2.out 1
                    clear h8
                    go_wp2_with fail
                    refine bodyPost_ret (v := .tuple #[.slice none 0 0, .agg #[.int .i64 4, .int .i64 i]]) (by simp [results, Tryz.results15, go_sem, z0, z1]) rfl ?_
                    rw [HW.out]
                    exact ⟨(HB2.out.setCell (Nat.le_refl _) _).setCell (Nat.le_refl _) _, rfl⟩
                  · have h8i : ¬ (800 : Int) ≤ (acc.length : Int) := by omega
                    have x0 : w2''.cell? ⟨X, 0, none⟩ = some (.int .i64 1) := by rw [blk_cell HX2.out]; rfl
                    have x1 : w2''.cell? ⟨X, 1, none⟩ = some (.string ⟨#[]⟩) := by rw [blk_cell HX2.out]; rfl
                    have x2 : w2''.cell? ⟨X, 2, none⟩ = some (.int .i64 i) := by rw [blk_cell HX2.out]; rfl
                    have xf1 : w2''.frozen? ⟨X, 1, none⟩ = false := blk_frozen HX2.out 1
                    have hKs : (j : Int) ≤ (s.size : Int) := by omega
                    have hiK : (i : Int) ≤ (j : Int) := by omega
                    have HY8 : Hid (IsRow (From (w.heap.size + 1)) (w2''.setCell ⟨X, 1, none⟩ (.string (s.extract i j))) 54 3 (.slice va acc.length vc) acc.length (acc.flatMap rtokCells)) := hide (by
                      have : IsRow (fun b => w.heap.size + 1 ≤ b ∧ b ≠ X) w2'' 54 3 (.slice va acc.length vc) acc.length (acc.flatMap rtokCells) := HY2.out
                      exact (this.same fun b h1 h2 => set_other _ 1 _ h1.2).imp fun b _ h => h.1)
                    have HZ8 := hide ((set_other w2'' 1 (.string (s.extract i j)) (show w.heap.size ≠ X by omega)).trans HZ2.out)
                    have HB8 : Hid (Below w.heap.size w (w2''.setCell ⟨X, 1, none⟩ (.string (s.extract i j)))) := hide (HB2.out.setCell hXw _)
                    have HOWN := hide ((HY8.out.1).alloc (.cells #[.int .i64 1, .string (s.extract i j), .int .i64 i] 54))
                    go_wp2_with (at_builtin; (refine append_new rfl (.tmp 118) (.tmp 120) 44 rfl 54 i0 (.agg #[.int .i64 0, .string ⟨#[]⟩, .int .i64 0]) 3 32 Tryz.underlying44 hi hz0 hz1 hz2 rfl (by decide) _ acc.length (acc.flatMap rtokCells) rfl HOWN.out ⟨w2''.heap.size, 0, none⟩ 1 [.int .i64 1, .string (s.extract i j), .int .i64 i] rfl rfl (by have := row_new (w2''.setCell ⟨X, 1, none⟩ (.string (s.extract i j))) 54 [.int .i64 1, .string (s.extract i j), .int .i64 i]; rw [set_size] at this; exact this) ?c2 ?c3 (by decide) ?_))
                    case c2 => simp [Value.oneCell']
                    case c3 => omega
                    intro v9 w9 hown9 hg9 hb9
                    obtain ⟨va9, vc9, hv9⟩ : ∃ (a : Option Addr) (c : Nat), v9 = .slice a (acc.length + 1) c := (IsRow.val (S := fun _ => True) ⟨hown9, fun _ _ => trivial⟩)
                    subst hv9
                    have hs8 : (w2''.setCell ⟨X, 1, none⟩ (.string (s.extract i j))).heap.size = w2''.heap.size := set_size _ _ _
                    have hzl := blk_lt HZ2.out
                    have HLOW : Hid (∀ b, b < w.heap.size + 1 → b < w2''.heap.size → w9.heap[b]? = (w2''.setCell ⟨X, 1, none⟩ (.string (s.extract i j))).heap[b]?) := hide fun b h1 h2 => (hg9.block b (by simp [hs8]; omega) (fun e => by have h3 : w.heap.size + 1 ≤ b := HY8.out.2 b e.symm; omega)).trans (Below.heap_alloc _ _ b (by rw [hs8]; exact h2))
                    have hsA : ((w2''.setCell ⟨X, 1, none⟩ (.string (s.extract i j))).alloc (.cells #[.int .i64 1, .string (s.extract i j), .int .i64 i] 54)).heap.size = w2''.heap.size + 1 := by show (Array.push _ _).size = _; rw [Array.size_push, hs8]
                    have hwx : w.heap.size ≤ w2''.heap.size := HB2.out.size
                    have hszz : w2''.heap.size ≤ w9.heap.size := Nat.le_trans (by simp [hs8]) hg9.size
                    have HB9 : Hid (Below w.heap.size w w9) := hide ⟨hg9.os.trans HB8.out.os, hg9.tape.trans HB8.out.tape, hg9.output.trans HB8.out.output, by omega, fun b hb => (HLOW.out b (by omega) (by omega)).trans (HB8.out.block b hb)⟩
                    have HZ9 := hide ((HLOW.out w.heap.size (by omega) hzl).trans HZ8.out)
                    have HY9 : Hid (IsRow (From (w.heap.size + 1)) w9 54 3 (.slice va9 (acc.length + 1) vc9) (acc ++ [(⟨1, s.extract i j, i⟩ : Tok)]).length ((acc ++ [(⟨1, s.extract i j, i⟩ : Tok)]).flatMap rtokCells)) := hide (by
                      have e : acc.flatMap rtokCells ++ [.int .i64 1, .string (s.extract i j), .int .i64 i] = (acc ++ [(⟨1, s.extract i j, i⟩ : Tok)]).flatMap rtokCells := by simp [rtokCells, rk]
                      refine ⟨?_, fun b hb => ?_⟩
                      · rw [← e, List.length_append]
                        exact hown9
                      · rcases hb9 with e | e
                        · exact HY8.out.2 b (by rw [← e]; exact hb)
                        · rw [e] at hb
                          simp only [Option.some.injEq] at hb
                          show w.heap.size + 1 ≤ b
                          omega)
                    clear hown9 hg9 hb9 hs8 hsA
                    go_wp2_with fail
                    exact ⟨⟨j, acc ++ [⟨1, s.extract i j, i⟩], rfl, ⟨by omega, HY9.out, HB9.out, HZ9.out, ⟨g, by rw [HU.out, if_neg h8]⟩, fun t ht => by
                      rcases List.mem_append.1 ht with h | h
                      · exact HGD.out t h
                      · simp at h; subst h; exact HGR.out, by simp; omega⟩⟩, by simp [intOf]; omega⟩
            · have hj2 : ¬ (j : Int) < (s.size : Int) := by omega
              have hjs : j = s.size := by omega
              have hiK0 : i < j := by omega
              have hpe : past isLd s.data.toList i = j := HE.out j hij (by rw [hsz]; exact hj) hall.out (fun h => by omega)
              have htk : tokenAt s i = ⟨1, s.extract i j, i⟩ := by
                have hnd : past isDg s.data.toList i = i := past_here isDg s.data.toList i (fun h => by rw [HC.out, dig_is]; exact low_dig hlo)
                unfold tokenAt
                rw [hnd, if_neg (Nat.lt_irrefl _), hpe, if_pos hiK0]
              clear hpe hjs
              have HTK := hide htk
              have hKi : ((j : Int) == (i : Int)) = false := by rw [beq_eq_false_iff_ne]; omega
              have HGR : Hid (GoodR ⟨1, s.extract i j, i⟩) := hide (by have := tokenAt_goodR s i hle hs (by rw [htk]; show (1 : Nat) ≠ 0; decide); rw [htk] at this; exact this)
              have hsE : (s.extract i j).size = j - i := by rw [ByteArray.size_extract]; omega
              have HU : Hid (whole = if acc.length = 800 then .bad 4 i else toks s g (past isBl s.data.toList j) (acc ++ [⟨1, s.extract i j, i⟩])) := hide (by
                rw [he2, past_here isBl s.data.toList i (fun h => by rw [HC.out, bl_is]; exact hbl), toks, if_pos hlt, htk, if_neg (by show ¬ (1 : Nat) = 0; decide)]
                congr 2
                show past isBl s.data.toList (i + (s.extract i j).size) = _
                rw [hsE]
                congr 1
                omega)
              clear htk he2
              by_cases h8 : acc.length = 800
              · have HW : Hid (whole = .bad 4 i) := hide (by rw [HU.out, if_pos h8])
                have h8i : (800 : Int) ≤ (acc.length : Int) := by omega
                have z0 : w2.cell? ⟨w.heap.size, 0, none⟩ = some (.int .i64 0) := by rw [blk_cell HZ2.out]; rfl
                have z1 : w2.cell? ⟨w.heap.size, 1, none⟩ = some (.int .i64 0) := by rw [blk_cell HZ2.out]; rfl
                have zf0 : w2.frozen? ⟨w.heap.size, 0, none⟩ = false := blk_frozen HZ2.out 0
                have zf1 : w2.frozen? ⟨w.heap.size, 1, none⟩ = false := blk_frozen HZ2.out 1
                clear h8
                go_wp2_with fail
                refine bodyPost_ret (v := .tuple #[.slice none 0 0, .agg #[.int .i64 4, .int .i64 i]]) (by simp [results, Tryz.results15, go_sem, z0, z1]) rfl ?_
                rw [HW.out]
                exact ⟨(HB2.out.setCell (Nat.le_refl _) _).setCell (Nat.le_refl _) _, rfl⟩
              · have h8i : ¬ (800 : Int) ≤ (acc.length : Int) := by omega
                have x0 : w2.cell? ⟨X, 0, none⟩ = some (.int .i64 1) := by rw [blk_cell HX2.out]; rfl
                have x1 : w2.cell? ⟨X, 1, none⟩ = some (.string ⟨#[]⟩) := by rw [blk_cell HX2.out]; rfl
                have x2 : w2.cell? ⟨X, 2, none⟩ = some (.int .i64 i) := by rw [blk_cell HX2.out]; rfl
                have xf1 : w2.frozen? ⟨X, 1, none⟩ = false := blk_frozen HX2.out 1
                have hKs : (j : Int) ≤ (s.size : Int) := by omega
                have hiK : (i : Int) ≤ (j : Int) := by omega
                have HY8 : Hid (IsRow (From (w.heap.size + 1)) (w2.setCell ⟨X, 1, none⟩ (.string (s.extract i j))) 54 3 (.slice va acc.length vc) acc.length (acc.flatMap rtokCells)) := hide (by
                  have : IsRow (fun b => w.heap.size + 1 ≤ b ∧ b ≠ X) w2 54 3 (.slice va acc.length vc) acc.length (acc.flatMap rtokCells) := HY2.out
                  exact (this.same fun b h1 h2 => set_other _ 1 _ h1.2).imp fun b _ h => h.1)
                have HZ8 := hide ((set_other w2 1 (.string (s.extract i j)) (show w.heap.size ≠ X by omega)).trans HZ2.out)
                have HB8 : Hid (Below w.heap.size w (w2.setCell ⟨X, 1, none⟩ (.string (s.extract i j)))) := hide (HB2.out.setCell hXw _)
                have HOWN := hide ((HY8.out.1).alloc (.cells #[.int .i64 1, .string (s.extract i j), .int .i64 i] 54))
                go_wp2_with (at_builtin; (refine append_new rfl (.tmp 118) (.tmp 120) 44 rfl 54 i0 (.agg #[.int .i64 0, .string ⟨#[]⟩, .int .i64 0]) 3 32 Tryz.underlying44 hi hz0 hz1 hz2 rfl (by decide) _ acc.length (acc.flatMap rtokCells) rfl HOWN.out ⟨w2.heap.size, 0, none⟩ 1 [.int .i64 1, .string (s.extract i j), .int .i64 i] rfl rfl (by have := row_new (w2.setCell ⟨X, 1, none⟩ (.string (s.extract i j))) 54 [.int .i64 1, .string (s.extract i j), .int .i64 i]; rw [set_size] at this; exact this) ?c2 ?c3 (by decide) ?_))
                case c2 => simp [Value.oneCell']
                case c3 => omega
                intro v9 w9 hown9 hg9 hb9
                obtain ⟨va9, vc9, hv9⟩ : ∃ (a : Option Addr) (c : Nat), v9 = .slice a (acc.length + 1) c := (IsRow.val (S := fun _ => True) ⟨hown9, fun _ _ => trivial⟩)
                subst hv9
                have hs8 : (w2.setCell ⟨X, 1, none⟩ (.string (s.extract i j))).heap.size = w2.heap.size := set_size _ _ _
                have hzl := blk_lt HZ2.out
                have HLOW : Hid (∀ b, b < w.heap.size + 1 → b < w2.heap.size → w9.heap[b]? = (w2.setCell ⟨X, 1, none⟩ (.string (s.extract i j))).heap[b]?) := hide fun b h1 h2 => (hg9.block b (by simp [hs8]; omega) (fun e => by have h3 : w.heap.size + 1 ≤ b := HY8.out.2 b e.symm; omega)).trans (Below.heap_alloc _ _ b (by rw [hs8]; exact h2))
                have hsA : ((w2.setCell ⟨X, 1, none⟩ (.string (s.extract i j))).alloc (.cells #[.int .i64 1, .string (s.extract i j), .int .i64 i] 54)).heap.size = w2.heap.size + 1 := by show (Array.push _ _).size = _; rw [Array.size_push, hs8]
                have hwx : w.heap.size ≤ w2.heap.size := HB2.out.size
                have hszz : w2.heap.size ≤ w9.heap.size := Nat.le_trans (by simp [hs8]) hg9.size
                have HB9 : Hid (Below w.heap.size w w9) := hide ⟨hg9.os.trans HB8.out.os, hg9.tape.trans HB8.out.tape, hg9.output.trans HB8.out.output, by omega, fun b hb => (HLOW.out b (by omega) (by omega)).trans (HB8.out.block b hb)⟩
                have HZ9 := hide ((HLOW.out w.heap.size (by omega) hzl).trans HZ8.out)
                have HY9 : Hid (IsRow (From (w.heap.size + 1)) w9 54 3 (.slice va9 (acc.length + 1) vc9) (acc ++ [(⟨1, s.extract i j, i⟩ : Tok)]).length ((acc ++ [(⟨1, s.extract i j, i⟩ : Tok)]).flatMap rtokCells)) := hide (by
                  have e : acc.flatMap rtokCells ++ [.int .i64 1, .string (s.extract i j), .int .i64 i] = (acc ++ [(⟨1, s.extract i j, i⟩ : Tok)]).flatMap rtokCells := by simp [rtokCells, rk]
                  refine ⟨?_, fun b hb => ?_⟩
                  · rw [← e, List.length_append]
                    exact hown9
                  · rcases hb9 with e | e
                    · exact HY8.out.2 b (by rw [← e]; exact hb)
                    · rw [e] at hb
                      simp only [Option.some.injEq] at hb
                      show w.heap.size + 1 ≤ b
                      omega)
                clear hown9 hg9 hb9 hs8 hsA
                go_wp2_with fail
                exact ⟨⟨j, acc ++ [⟨1, s.extract i j, i⟩], rfl, ⟨by omega, HY9.out, HB9.out, HZ9.out, ⟨g, by rw [HU.out, if_neg h8]⟩, fun t ht => by
                  rcases List.mem_append.1 ht with h | h
                  · exact HGD.out t h
                  · simp at h; subst h; exact HGR.out, by simp; omega⟩⟩, by simp [intOf]; omega⟩
        | false =>
          go_wp2_with fail
          refine (rdig_at (s[i]'hlt) w1').mono ?_
          rintro e w1'' ⟨rfl, rfl⟩
          cases hdi : digB (s[i]'hlt) with
          | true =>
            have HE := hide (past_end isDg s.data.toList i)
            have HX2 : Hid ((w1''.setCell ⟨X, 0, none⟩ (.int .i64 2)).heap[X]? = some (.cells #[.int .i64 2, .string ⟨#[]⟩, .int .i64 i] 54 (0, 0))) := hide (by rw [blk_set HX1.out 0 _]; rfl)
            have HY2 : Hid (IsRow (fun b => w.heap.size + 1 ≤ b ∧ b ≠ X) (w1''.setCell ⟨X, 0, none⟩ (.int .i64 2)) 54 3 (.slice va acc.length vc) acc.length (acc.flatMap rtokCells)) := hide (HY1.out.same fun b h1 h2 => set_other _ 0 _ h1.2)
            have HZ2 := hide ((set_other w1'' 0 (.int .i64 2) hXz).trans HZ1.out)
            have HB2 : Hid (Below w.heap.size w (w1''.setCell ⟨X, 0, none⟩ (.int .i64 2))) := hide (HB1.out.setCell hXw _)
            go_wp2_with fail
            generalize w1''.setCell ⟨X, 0, none⟩ (.int .i64 2) = w2 at *
            go_loop [7] (fun a => ∃ j : Nat, i ≤ j ∧ j ≤ s.size ∧ a = .int .i64 j ∧ Hid (∀ t (ht : t < s.data.toList.length), i ≤ t → t < j → isDg s.data.toList[t] = true)) (fun a => s.size - (intOf a).toNat)
            case atStart => exact ⟨i, Nat.le_refl _, hle, rfl, (fun t ht h1 h2 => by omega : ∀ t (ht : t < s.data.toList.length), i ≤ t → t < i → isDg s.data.toList[t] = true)⟩
            case round =>
              obtain ⟨j, hij, hj, rfl, hall⟩ := hrel
              by_cases hjt : j < s.size
              · have hj1 : (j : Int) < (s.size : Int) := by omega
                have HJL : Hid (j < s.data.toList.length) := hide (by rw [hsz]; exact hjt)
                have HCJ : Hid (s.data.toList[j]'HJL.out = s[j]'hjt) := hide (Array.getElem_toList _)
                go_wp2_with fail
                refine (rdig_at (s[j]'hjt) w2).mono ?_
                rintro e w2' ⟨rfl, rfl⟩
                cases hdj : digB (s[j]'hjt) with
                | true =>
                  have HON : Hid (isDg (s.data.toList[j]'HJL.out) = true) := hide (by rw [HCJ.out, dig_is, hdj])
                  go_wp2_with fail
                  refine ⟨⟨j + 1, by omega, by omega, by go_num, (fun t ht h1 h2 => ?_ : ∀ t (ht : t < s.data.toList.length), i ≤ t → t < j + 1 → isDg s.data.toList[t] = true)⟩, by simp [intOf]; omega⟩
                  rcases Nat.lt_or_ge t j with h3 | h3
                  · exact hall.out t ht h1 h3
                  · have : t = j := by omega
                    subst this
                    exact HON.out
                | false =>
                  have HOFF : Hid (isDg (s.data.toList[j]'HJL.out) = false) := hide (by rw [HCJ.out, dig_is, hdj])
                  have hiK0 : i < j := by
                    rcases Nat.lt_or_ge i j with h3 | h3
                    · exact h3
                    · have : i = j := by omega
                      subst this
                      rw [hdi] at hdj; cases hdj
                  have hpe : past isDg s.data.toList i = j := HE.out j hij (by rw [hsz]; exact hj) hall.out (fun _ => HOFF.out)
                  have htk : tokenAt s i = ⟨2, s.extract i j, i⟩ := by
                    unfold tokenAt
                    rw [hpe, if_pos hiK0]
                  clear hpe
                  have HTK := hide htk
                  have hKi : ((j : Int) == (i : Int)) = false := by rw [beq_eq_false_iff_ne]; omega
                  have HGR : Hid (GoodR ⟨2, s.extract i j, i⟩) := hide (by have := tokenAt_goodR s i hle hs (by rw [htk]; show (2 : Nat) ≠ 0; decide); rw [htk] at this; exact this)
                  have hsE : (s.extract i j).size = j - i := by rw [ByteArray.size_extract]; omega
                  have HU : Hid (whole = if acc.length = 800 then .bad 4 i else toks s g (past isBl s.data.toList j) (acc ++ [⟨2, s.extract i j, i⟩])) := hide (by
                    rw [he2, past_here isBl s.data.toList i (fun h => by rw [HC.out, bl_is]; exact hbl), toks, if_pos hlt, htk, if_neg (by show ¬ (2 : Nat) = 0; decide)]
                    congr 2
                    show past isBl s.data.toList (i + (s.extract i j).size) = _
                    rw [hsE]
                    congr 1
                    omega)
                  clear htk he2
                  by_cases h8 : acc.length = 800
                  · have HW : Hid (whole = .bad 4 i) := hide (by rw [HU.out, if_pos h8])
                    have h8i : (800 : Int) ≤ (acc.length : Int) := by omega
                    have z0 : w2'.cell? ⟨w.heap.size, 0, none⟩ = some (.int .i64 0) := by rw [blk_cell HZ2.out]; rfl
                    have z1 : w2'.cell? ⟨w.heap.size, 1, none⟩ = some (.int .i64 0) := by rw [blk_cell HZ2.out]; rfl
                    have zf0 : w2'.frozen? ⟨w.heap.size, 0, none⟩ = false := blk_frozen HZ2.out 0
                    have zf1 : w2'.frozen? ⟨w.heap.size, 1, none⟩ = false := blk_frozen HZ2.out 1
                    clear h8
                    go_wp2_with fail
                    refine bodyPost_ret (v := .tuple #[.slice none 0 0, .agg #[.int .i64 4, .int .i64 i]]) (by simp [results, Tryz.results15, go_sem, z0, z1]) rfl ?_
                    rw [HW.out]
                    exact ⟨(HB2.out.setCell (Nat.le_refl _) _).setCell (Nat.le_refl _) _, rfl⟩
                  · have h8i : ¬ (800 : Int) ≤ (acc.length : Int) := by omega
                    have x0 : w2'.cell? ⟨X, 0, none⟩ = some (.int .i64 2) := by rw [blk_cell HX2.out]; rfl
                    have x1 : w2'.cell? ⟨X, 1, none⟩ = some (.string ⟨#[]⟩) := by rw [blk_cell HX2.out]; rfl
                    have x2 : w2'.cell? ⟨X, 2, none⟩ = some (.int .i64 i) := by rw [blk_cell HX2.out]; rfl
                    have xf1 : w2'.frozen? ⟨X, 1, none⟩ = false := blk_frozen HX2.out 1
                    have hKs : (j : Int) ≤ (s.size : Int) := by omega
                    have hiK : (i : Int) ≤ (j : Int) := by omega
                    have HY8 : Hid (IsRow (From (w.heap.size + 1)) (w2'.setCell ⟨X, 1, none⟩ (.string (s.extract i j))) 54 3 (.slice va acc.length vc) acc.length (acc.flatMap rtokCells)) := hide (by
                      have : IsRow (fun b => w.heap.size + 1 ≤ b ∧ b ≠ X) w2' 54 3 (.slice va acc.length vc) acc.length (acc.flatMap rtokCells) := HY2.out
                      exact (this.same fun b h1 h2 => set_other _ 1 _ h1.2).imp fun b _ h => h.1)
                    have HZ8 := hide ((set_other w2' 1 (.string (s.extract i j)) (show w.heap.size ≠ X by omega)).trans HZ2.out)
                    have HB8 : Hid (Below w.heap.size w (w2'.setCell ⟨X, 1, none⟩ (.string (s.extract i j)))) := hide (HB2.out.setCell hXw _)
                    have HOWN := hide ((HY8.out.1).alloc (.cells #[.int .i64 2, .string (s.extract i j), .int .i64 i] 54))
                    go_wp2_with (at_builtin; (refine append_new rfl (.tmp 118) (.tmp 120) 44 rfl 54 i0 (.agg #[.int .i64 0, .string ⟨#[]⟩, .int .i64 0]) 3 32 Tryz.underlying44 hi hz0 hz1 hz2 rfl (by decide) _ acc.length (acc.flatMap rtokCells) rfl HOWN.out ⟨w2'.heap.size, 0, none⟩ 1 [.int .i64 2, .string (s.extract i j), .int .i64 i] rfl rfl (by have := row_new (w2'.setCell ⟨X, 1, none⟩ (.string (s.extract i j))) 54 [.int .i64 2, .string (s.extract i j), .int .i64 i]; rw [set_size] at this; exact this) ?c2 ?c3 (by decide) ?_))
                    case c2 => simp [Value.oneCell']
                    case c3 => omega
                    intro v9 w9 hown9 hg9 hb9
                    obtain ⟨va9, vc9, hv9⟩ : ∃ (a : Option Addr) (c : Nat), v9 = .slice a (acc.length + 1) c := (IsRow.val (S := fun _ => True) ⟨hown9, fun _ _ => trivial⟩)
                    subst hv9
                    have hs8 : (w2'.setCell ⟨X, 1, none⟩ (.string (s.extract i j))).heap.size = w2'.heap.size := set_size _ _ _
                    have hzl := blk_lt HZ2.out
                    have HLOW : Hid (∀ b, b < w.heap.size + 1 → b < w2'.heap.size → w9.heap[b]? = (w2'.setCell ⟨X, 1, none⟩ (.string (s.extract i j))).heap[b]?) := hide fun b h1 h2 => (hg9.block b (by simp [hs8]; omega) (fun e => by have h3 : w.heap.size + 1 ≤ b := HY8.out.2 b e.symm; omega)).trans (Below.heap_alloc _ _ b (by rw [hs8]; exact h2))
                    have hsA : ((w2'.setCell ⟨X, 1, none⟩ (.string (s.extract i j))).alloc (.cells #[.int .i64 2, .string (s.extract i j), .int .i64 i] 54)).heap.size = w2'.heap.size + 1 := by show (Array.push _ _).size = _; rw [Array.size_push, hs8]
                    have hwx : w.heap.size ≤ w2'.heap.size := HB2.out.size
                    have hszz : w2'.heap.size ≤ w9.heap.size := Nat.le_trans (by simp [hs8]) hg9.size
                    have HB9 : Hid (Below w.heap.size w w9) := hide ⟨hg9.os.trans HB8.out.os, hg9.tape.trans HB8.out.tape, hg9.output.trans HB8.out.output, by omega, fun b hb => (HLOW.out b (by omega) (by omega)).trans (HB8.out.block b hb)⟩
                    have HZ9 := hide ((HLOW.out w.heap.size (by omega) hzl).trans HZ8.out)
                    have HY9 : Hid (IsRow (From (w.heap.size + 1)) w9 54 3 (.slice va9 (acc.length + 1) vc9) (acc ++ [(⟨2, s.extract i j, i⟩ : Tok)]).length ((acc ++ [(⟨2, s.extract i j, i⟩ : Tok)]).flatMap rtokCells)) := hide (by
                      have e : acc.flatMap rtokCells ++ [.int .i64 2, .string (s.extract i j), .int .i64 i] = (acc ++ [(⟨2, s.extract i j, i⟩ : Tok)]).flatMap rtokCells := by simp [rtokCells, rk]
                      refine ⟨?_, fun b hb => ?_⟩
                      · rw [← e, List.length_append]
                        exact hown9
                      · rcases hb9 with e | e
                        · exact HY8.out.2 b (by rw [← e]; exact hb)
                        · rw [e] at hb
                          simp only [Option.some.injEq] at hb
                          show w.heap.size + 1 ≤ b
                          omega)
                    clear hown9 hg9 hb9 hs8 hsA
                    go_wp2_with fail
                    exact ⟨⟨j, acc ++ [⟨2, s.extract i j, i⟩], rfl, ⟨by omega, HY9.out, HB9.out, HZ9.out, ⟨g, by rw [HU.out, if_neg h8]⟩, fun t ht => by
                      rcases List.mem_append.1 ht with h | h
                      · exact HGD.out t h
                      · simp at h; subst h; exact HGR.out, by simp; omega⟩⟩, by simp [intOf]; omega⟩
              · have hj2 : ¬ (j : Int) < (s.size : Int) := by omega
                have hjs : j = s.size := by omega
                have hiK0 : i < j := by omega
                have hpe : past isDg s.data.toList i = j := HE.out j hij (by rw [hsz]; exact hj) hall.out (fun h => by omega)
                have htk : tokenAt s i = ⟨2, s.extract i j, i⟩ := by
                  unfold tokenAt
                  rw [hpe, if_pos hiK0]
                clear hpe hjs
                have HTK := hide htk
                have hKi : ((j : Int) == (i : Int)) = false := by rw [beq_eq_false_iff_ne]; omega
                have HGR : Hid (GoodR ⟨2, s.extract i j, i⟩) := hide (by have := tokenAt_goodR s i hle hs (by rw [htk]; show (2 : Nat) ≠ 0; decide); rw [htk] at this; exact this)
                have hsE : (s.extract i j).size = j - i := by rw [ByteArray.size_extract]; omega
                have HU : Hid (whole = if acc.length = 800 then .bad 4 i else toks s g (past isBl s.data.toList j) (acc ++ [⟨2, s.extract i j, i⟩])) := hide (by
                  rw [he2, past_here isBl s.data.toList i (fun h => by rw [HC.out, bl_is]; exact hbl), toks, if_pos hlt, htk, if_neg (by show ¬ (2 : Nat) = 0; decide)]
                  congr 2
                  show past isBl s.data.toList (i + (s.extract i j).size) = _
                  rw [hsE]
                  congr 1
                  omega)
                clear htk he2
                by_cases h8 : acc.length = 800
                · have HW : Hid (whole = .bad 4 i) := hide (by rw [HU.out, if_pos h8])
                  have h8i : (800 : Int) ≤ (acc.length : Int) := by omega
                  have z0 : w2.cell? ⟨w.heap.size, 0, none⟩ = some (.int .i64 0) := by rw [blk_cell HZ2.out]; rfl
                  have z1 : w2.cell? ⟨w.heap.size, 1, none⟩ = some (.int .i64 0) := by rw [blk_cell HZ2.out]; rfl
                  have zf0 : w2.frozen? ⟨w.heap.size, 0, none⟩ = false := blk_frozen HZ2.out 0
                  have zf1 : w2.frozen? ⟨w.heap.size, 1, none⟩ = false := blk_frozen HZ2.out 1
                  clear h8
                  go_wp2_with fail
                  refine bodyPost_ret (v := .tuple #[.slice none 0 0, .agg #[.int .i64 4, .int .i64 i]]) (by simp [results, Tryz.results15, go_sem, z0, z1]) rfl ?_
                  rw [HW.out]
                  exact ⟨(HB2.out.setCell (Nat.le_refl _) _).setCell (Nat.le_refl _) _, rfl⟩
                · have h8i : ¬ (800 : Int) ≤ (acc.length : Int) := by omega
                  have x0 : w2.cell? ⟨X, 0, none⟩ = some (.int .i64 2) := by rw [blk_cell HX2.out]; rfl
                  have x1 : w2.cell? ⟨X, 1, none⟩ = some (.string ⟨#[]⟩) := by rw [blk_cell HX2.out]; rfl
                  have x2 : w2.cell? ⟨X, 2, none⟩ = some (.int .i64 i) := by rw [blk_cell HX2.out]; rfl
                  have xf1 : w2.frozen? ⟨X, 1, none⟩ = false := blk_frozen HX2.out 1
                  have hKs : (j : Int) ≤ (s.size : Int) := by omega
                  have hiK : (i : Int) ≤ (j : Int) := by omega
                  have HY8 : Hid (IsRow (From (w.heap.size + 1)) (w2.setCell ⟨X, 1, none⟩ (.string (s.extract i j))) 54 3 (.slice va acc.length vc) acc.length (acc.flatMap rtokCells)) := hide (by
                    have : IsRow (fun b => w.heap.size + 1 ≤ b ∧ b ≠ X) w2 54 3 (.slice va acc.length vc) acc.length (acc.flatMap rtokCells) := HY2.out
                    exact (this.same fun b h1 h2 => set_other _ 1 _ h1.2).imp fun b _ h => h.1)
                  have HZ8 := hide ((set_other w2 1 (.string (s.extract i j)) (show w.heap.size ≠ X by omega)).trans HZ2.out)
                  have HB8 : Hid (Below w.heap.size w (w2.setCell ⟨X, 1, none⟩ (.string (s.extract i j)))) := hide (HB2.out.setCell hXw _)
                  have HOWN := hide ((HY8.out.1).alloc (.cells #[.int .i64 2, .string (s.extract i j), .int .i64 i] 54))
                  go_wp2_with (at_builtin; (refine append_new rfl (.tmp 118) (.tmp 120) 44 rfl 54 i0 (.agg #[.int .i64 0, .string ⟨#[]⟩, .int .i64 0]) 3 32 Tryz.underlying44 hi hz0 hz1 hz2 rfl (by decide) _ acc.length (acc.flatMap rtokCells) rfl HOWN.out ⟨w2.heap.size, 0, none⟩ 1 [.int .i64 2, .string (s.extract i j), .int .i64 i] rfl rfl (by have := row_new (w2.setCell ⟨X, 1, none⟩ (.string (s.extract i j))) 54 [.int .i64 2, .string (s.extract i j), .int .i64 i]; rw [set_size] at this; exact this) ?c2 ?c3 (by decide) ?_))
                  case c2 => simp [Value.oneCell']
                  case c3 => omega
                  intro v9 w9 hown9 hg9 hb9
                  obtain ⟨va9, vc9, hv9⟩ : ∃ (a : Option Addr) (c : Nat), v9 = .slice a (acc.length + 1) c := (IsRow.val (S := fun _ => True) ⟨hown9, fun _ _ => trivial⟩)
                  subst hv9
                  have hs8 : (w2.setCell ⟨X, 1, none⟩ (.string (s.extract i j))).heap.size = w2.heap.size := set_size _ _ _
                  have hzl := blk_lt HZ2.out
                  have HLOW : Hid (∀ b, b < w.heap.size + 1 → b < w2.heap.size → w9.heap[b]? = (w2.setCell ⟨X, 1, none⟩ (.string (s.extract i j))).heap[b]?) := hide fun b h1 h2 => (hg9.block b (by simp [hs8]; omega) (fun e => by have h3 : w.heap.size + 1 ≤ b := HY8.out.2 b e.symm; omega)).trans (Below.heap_alloc _ _ b (by rw [hs8]; exact h2))
                  have hsA : ((w2.setCell ⟨X, 1, none⟩ (.string (s.extract i j))).alloc (.cells #[.int .i64 2, .string (s.extract i j), .int .i64 i] 54)).heap.size = w2.heap.size + 1 := by show (Array.push _ _).size = _; rw [Array.size_push, hs8]
                  have hwx : w.heap.size ≤ w2.heap.size := HB2.out.size
                  have hszz : w2.heap.size ≤ w9.heap.size := Nat.le_trans (by simp [hs8]) hg9.size
                  have HB9 : Hid (Below w.heap.size w w9) := hide ⟨hg9.os.trans HB8.out.os, hg9.tape.trans HB8.out.tape, hg9.output.trans HB8.out.output, by omega, fun b hb => (HLOW.out b (by omega) (by omega)).trans (HB8.out.block b hb)⟩
                  have HZ9 := hide ((HLOW.out w.heap.size (by omega) hzl).trans HZ8.out)
                  have HY9 : Hid (IsRow (From (w.heap.size + 1)) w9 54 3 (.slice va9 (acc.length + 1) vc9) (acc ++ [(⟨2, s.extract i j, i⟩ : Tok)]).length ((acc ++ [(⟨2, s.extract i j, i⟩ : Tok)]).flatMap rtokCells)) := hide (by
                    have e : acc.flatMap rtokCells ++ [.int .i64 2, .string (s.extract i j), .int .i64 i] = (acc ++ [(⟨2, s.extract i j, i⟩ : Tok)]).flatMap rtokCells := by simp [rtokCells, rk]
                    refine ⟨?_, fun b hb => ?_⟩
                    · rw [← e, List.length_append]
                      exact hown9
                    · rcases hb9 with e | e
                      · exact HY8.out.2 b (by rw [← e]; exact hb)
                      · rw [e] at hb
                        simp only [Option.some.injEq] at hb
                        show w.heap.size + 1 ≤ b
                        omega)
                  clear hown9 hg9 hb9 hs8 hsA
                  go_wp2_with fail
                  exact ⟨⟨j, acc ++ [⟨2, s.extract i j, i⟩], rfl, ⟨by omega, HY9.out, HB9.out, HZ9.out, ⟨g, by rw [HU.out, if_neg h8]⟩, fun t ht => by
                    rcases List.mem_append.1 ht with h | h
                    · exact HGD.out t h
                    · simp at h; subst h; exact HGR.out, by simp; omega⟩⟩, by simp [intOf]; omega⟩
          | false =>
            have HX2 : Hid ((w1''.setCell ⟨X, 0, none⟩ (.int .i64 3)).heap[X]? = some (.cells #[.int .i64 3, .string ⟨#[]⟩, .int .i64 i] 54 (0, 0))) := hide (by rw [blk_set HX1.out 0 _]; rfl)
            have HY2 : Hid (IsRow (fun b => w.heap.size + 1 ≤ b ∧ b ≠ X) (w1''.setCell ⟨X, 0, none⟩ (.int .i64 3)) 54 3 (.slice va acc.length vc) acc.length (acc.flatMap rtokCells)) := hide (HY1.out.same fun b h1 h2 => set_other _ 0 _ h1.2)
            have HZ2 := hide ((set_other w1'' 0 (.int .i64 3) hXz).trans HZ1.out)
            have HB2 : Hid (Below w.heap.size w (w1''.setCell ⟨X, 0, none⟩ (.int .i64 3))) := hide (HB1.out.setCell hXw _)
            go_wp2_with fail
            generalize w1''.setCell ⟨X, 0, none⟩ (.int .i64 3) = w2 at *
            go_loopw [7, 9, 11] (fun kv nv _ wr => ∃ kk nn : Nat, kv = .int .i64 kk ∧ nv = .int .i64 nn ∧ nn ≤ 2 ∧ Hid (Below w2.heap.size w2 wr) ∧ Hid ((kk = i ∧ mkN s i 2 nn = false) ∨ (nn < 2 ∧ kk = i + (nn + 1) ∧ mkN s i 2 (nn + 1) = false ∧ mk1 s i (nn + 1) = true))) (fun _ nv _ _ => (intOf nv).toNat)
            case atStart => exact ⟨i, 2, rfl, rfl, Nat.le_refl _, Below.refl _ _, .inl ⟨rfl, mkN_two s i⟩⟩
            case round =>
              obtain ⟨kk, nn, rfl, rfl, hn2, hbw, hst⟩ := hrel
              by_cases hgo : 0 < nn ∧ kk = i
              · obtain ⟨hn0, hki⟩ := hgo
                have HMN : Hid (mkN s i 2 nn = false) := hide (by
                  rcases hst.out with h | h
                  · exact h.2
                  · omega)
                have hki := hki.symm
                subst hki
                have hn0i : (0 : Int) < (nn : Int) := by omega
                clear hst
                go_wp2_with fail
                refine (rsplit_at wr (HV.out.below (Below.trans HB2.out (hbw.out.mono HB2.out.size))).max).mono ?_
                rintro e w3 ⟨rfl, rfl⟩
                have HS3 := hide (blk_new wr (.cells (strs marksL) 9))
                have HB3 := hide (Below.step hbw.out (below_alloc wr (.cells (strs marksL) 9)))
                generalize wr.alloc (.cells (strs marksL) 9) = w3 at *
                generalize wr.heap.size = S at *
                go_wp2_with fail
                go_loop [7, 11, 46] (fun kv _ jv => ∃ kk j : Nat, kv = .int .i64 kk ∧ jv = .int .i64 j ∧ j ≤ 15 ∧ Hid (kk = if (marksL.take j).any (fun m => m.length == nn && m.isPrefixOf (s.data.toList.drop i)) then i + nn else i)) (fun _ _ jv => 15 - (intOf jv).toNat)
                case atStart => exact ⟨i, 0, rfl, rfl, by omega, (by simp : i = if (marksL.take 0).any (fun m => m.length == nn && m.isPrefixOf (s.data.toList.drop i)) then i + nn else i)⟩
                case round =>
                  obtain ⟨kk, j, rfl, rfl, hj15, hkk⟩ := hrel
                  by_cases hj : j < 15
                  · have hji : (j : Int) < (15 : Int) := by omega
                    have hjm : j < marksL.length := by simpa [marksL] using hj
                    have hcm := marks_cell HS3.out j hj
                    have HAT := hide (any_take (p := fun m => m.length == nn && m.isPrefixOf (s.data.toList.drop i)) j hjm)
                    obtain ⟨m, hm⟩ : ∃ m, m = marksL[j]'hjm := ⟨_, rfl⟩
                    rw [← hm] at hcm HAT
                    clear hm
                    have hms : (⟨m.toArray⟩ : ByteArray).size = m.length := by simp [ByteArray.size]
                    by_cases hlen : m.length = nn
                    · have hq : (((⟨m.toArray⟩ : ByteArray).size : Int) == (nn : Int)) = true := by rw [hms, hlen]; simp
                      have HHP := hide (Tryz.strings_HasPrefix (s.extract i s.size) ⟨m.toArray⟩ w3)
                      have HPF : Hid (Lib.hasPrefix (s.extract i s.size).data.toList (⟨m.toArray⟩ : ByteArray).data.toList = m.isPrefixOf (s.data.toList.drop i)) := hide (by
                        rw [Lib.hasPrefix, Lib.extract_data]
                        congr 1
                        apply List.take_of_length_le
                        rw [List.length_drop, hsz]
                        omega)
                      have HL : Hid ((m.length == nn) = true) := hide (by rw [hlen]; simp)
                      clear hms
                      go_wp2_with fail
                      refine HHP.out.mono ?_
                      rintro e w3' ⟨rfl, rfl⟩
                      rw [HPF.out]
                      cases hpf : m.isPrefixOf (s.data.toList.drop i) with
                      | true =>
                        have hwr : IntKind.i64.wrap ((i : Int) + (nn : Int)) = (i : Int) + (nn : Int) := wrap_small (by omega) (by omega)
                        go_wp2_with fail
                        refine ⟨⟨i + nn, j + 1, by go_num, by go_num, by omega, ?_⟩, by simp [intOf]; omega⟩
                        show i + nn = _
                        rw [HAT.out, HL.out, hpf]
                        simp
                      | false =>
                        go_wp2_with fail
                        refine ⟨⟨kk, j + 1, rfl, by go_num, by omega, ?_⟩, by simp [intOf]; omega⟩
                        show kk = _
                        rw [hkk.out, HAT.out, HL.out, hpf]
                        simp
                    · have hq : (((⟨m.toArray⟩ : ByteArray).size : Int) == (nn : Int)) = false := by rw [hms, beq_eq_false_iff_ne]; omega
                      have HN : Hid ((m.length == nn) = false) := hide (by rw [beq_eq_false_iff_ne]; exact hlen)
                      clear hms
                      go_wp2_with fail
                      refine ⟨⟨kk, j + 1, rfl, by go_num, by omega, ?_⟩, by simp [intOf]; omega⟩
                      show kk = _
                      rw [hkk.out, HAT.out, HN.out]
                      simp
                  · have hji : ¬ (j : Int) < (15 : Int) := by omega
                    have hj15' : j = 15 := by omega
                    have HKK : Hid (kk = if mk1 s i nn then i + nn else i) := hide (by
                      rw [hkk.out, hj15']
                      rfl)
                    clear hkk
                    go_wp2_with fail
                    refine ⟨⟨kk, nn - 1, rfl, by go_num, by omega, HB3, ?_⟩, by simp [intOf]; omega⟩
                    have hnn : nn - 1 + 1 = nn := by omega
                    cases hm1 : mk1 s i nn with
                    | true =>
                      refine .inr ⟨by omega, ?_, by rw [hnn]; exact HMN.out, by rw [hnn]; exact hm1⟩
                      rw [HKK.out, hm1, hnn]; rfl
                    | false =>
                      refine .inl ⟨by rw [HKK.out, hm1]; rfl, mkN_step s i (nn - 1) (by omega) (by rw [hnn]; exact HMN.out) (by rw [hnn]; exact hm1)⟩
              · have hnd : past isDg s.data.toList i = i := past_here isDg s.data.toList i (fun h => by rw [HC.out, dig_is]; exact hdi)
                have hnl : past isLd s.data.toList i = i := past_here isLd s.data.toList i (fun h => by rw [HC.out, ld_is, hlo, hdi]; rfl)
                have HX2 := hide (Below.blk hbw.out HX2.out)
                have HY2 : Hid (IsRow (fun b => w.heap.size + 1 ≤ b ∧ b ≠ X) wr 54 3 (.slice va acc.length vc) acc.length (acc.flatMap rtokCells)) := hide (HY2.out.same fun b _ h2 => hbw.out.block b h2)
                have HZ2 := hide (Below.blk hbw.out HZ2.out)
                have HB2 := hide (Below.trans HB2.out (hbw.out.mono HB2.out.size))
                rcases hst.out with ⟨hki, hmn⟩ | ⟨hn1, hki, hmn, hm1⟩
                · have hn00 : nn = 0 := by omega
                  have hki := hki.symm
                  subst hki
                  subst hn00
                  have HW : Hid (whole = .bad 3 i) := hide (by
                    rw [he2, past_here isBl s.data.toList i (fun h => by rw [HC.out, bl_is]; exact hbl), toks, if_pos hlt, if_pos (tok_none s i hnd hnl (mkN_zero hmn).2 (mkN_zero hmn).1)])
                  have z0 : wr.cell? ⟨w.heap.size, 0, none⟩ = some (.int .i64 0) := by rw [blk_cell HZ2.out]; rfl
                  have z1 : wr.cell? ⟨w.heap.size, 1, none⟩ = some (.int .i64 0) := by rw [blk_cell HZ2.out]; rfl
                  have zf0 : wr.frozen? ⟨w.heap.size, 0, none⟩ = false := blk_frozen HZ2.out 0
                  have zf1 : wr.frozen? ⟨w.heap.size, 1, none⟩ = false := blk_frozen HZ2.out 1
                  clear hst he2
                  go_wp2_with fail
                  refine bodyPost_ret (v := .tuple #[.slice none 0 0, .agg #[.int .i64 3, .int .i64 i]]) (by simp [results, Tryz.results15, go_sem, z0, z1]) rfl ?_
                  rw [HW.out]
                  exact ⟨(HB2.out.setCell (Nat.le_refl _) _).setCell (Nat.le_refl _) _, rfl⟩
                · obtain ⟨htk, hkl⟩ := tok_mark s i (nn + 1) hnd hnl hm1 (by
                    rcases (show nn = 0 ∨ nn = 1 by omega) with h | h
                    · subst h; exact .inr ⟨rfl, mkN_one hmn⟩
                    · subst h; exact .inl rfl)
                  rw [← hki] at htk hkl
                  have hiK0 : i < kk := by omega
                  have hkkq : ((kk : Int) == (i : Int)) = false := by rw [beq_eq_false_iff_ne]; omega
                  have hj := hkl
                  clear hst hm1 hmn hki
                  rcases (show nn = 0 ∨ nn = 1 by omega) with hnn | hnn
                  · subst hnn
                    have HTK := hide htk
                    have hKi : ((kk : Int) == (i : Int)) = false := by rw [beq_eq_false_iff_ne]; omega
                    have HGR : Hid (GoodR ⟨3, s.extract i kk, i⟩) := hide (by have := tokenAt_goodR s i hle hs (by rw [htk]; show (3 : Nat) ≠ 0; decide); rw [htk] at this; exact this)
                    have hsE : (s.extract i kk).size = kk - i := by rw [ByteArray.size_extract]; omega
                    have HU : Hid (whole = if acc.length = 800 then .bad 4 i else toks s g (past isBl s.data.toList kk) (acc ++ [⟨3, s.extract i kk, i⟩])) := hide (by
                      rw [he2, past_here isBl s.data.toList i (fun h => by rw [HC.out, bl_is]; exact hbl), toks, if_pos hlt, htk, if_neg (by show ¬ (3 : Nat) = 0; decide)]
                      congr 2
                      show past isBl s.data.toList (i + (s.extract i kk).size) = _
                      rw [hsE]
                      congr 1
                      omega)
                    clear htk he2
                    by_cases h8 : acc.length = 800
                    · have HW : Hid (whole = .bad 4 i) := hide (by rw [HU.out, if_pos h8])
                      have h8i : (800 : Int) ≤ (acc.length : Int) := by omega
                      have z0 : wr.cell? ⟨w.heap.size, 0, none⟩ = some (.int .i64 0) := by rw [blk_cell HZ2.out]; rfl
                      have z1 : wr.cell? ⟨w.heap.size, 1, none⟩ = some (.int .i64 0) := by rw [blk_cell HZ2.out]; rfl
                      have zf0 : wr.frozen? ⟨w.heap.size, 0, none⟩ = false := blk_frozen HZ2.out 0
                      have zf1 : wr.frozen? ⟨w.heap.size, 1, none⟩ = false := blk_frozen HZ2.out 1
                      clear h8
                      go_wp2_with fail
                      refine bodyPost_ret (v := .tuple #[.slice none 0 0, .agg #[.int .i64 4, .int .i64 i]]) (by simp [results, Tryz.results15, go_sem, z0, z1]) rfl ?_
                      rw [HW.out]
                      exact ⟨(HB2.out.setCell (Nat.le_refl _) _).setCell (Nat.le_refl _) _, rfl⟩
                    · have h8i : ¬ (800 : Int) ≤ (acc.length : Int) := by omega
                      have x0 : wr.cell? ⟨X, 0, none⟩ = some (.int .i64 3) := by rw [blk_cell HX2.out]; rfl
                      have x1 : wr.cell? ⟨X, 1, none⟩ = some (.string ⟨#[]⟩) := by rw [blk_cell HX2.out]; rfl
                      have x2 : wr.cell? ⟨X, 2, none⟩ = some (.int .i64 i) := by rw [blk_cell HX2.out]; rfl
                      have xf1 : wr.frozen? ⟨X, 1, none⟩ = false := blk_frozen HX2.out 1
                      have hKs : (kk : Int) ≤ (s.size : Int) := by omega
                      have hiK : (i : Int) ≤ (kk : Int) := by omega
                      have HY8 : Hid (IsRow (From (w.heap.size + 1)) (wr.setCell ⟨X, 1, none⟩ (.string (s.extract i kk))) 54 3 (.slice va acc.length vc) acc.length (acc.flatMap rtokCells)) := hide (by
                        have : IsRow (fun b => w.heap.size + 1 ≤ b ∧ b ≠ X) wr 54 3 (.slice va acc.length vc) acc.length (acc.flatMap rtokCells) := HY2.out
                        exact (this.same fun b h1 h2 => set_other _ 1 _ h1.2).imp fun b _ h => h.1)
                      have HZ8 := hide ((set_other wr 1 (.string (s.extract i kk)) (show w.heap.size ≠ X by omega)).trans HZ2.out)
                      have HB8 : Hid (Below w.heap.size w (wr.setCell ⟨X, 1, none⟩ (.string (s.extract i kk)))) := hide (HB2.out.setCell hXw _)
                      have HOWN := hide ((HY8.out.1).alloc (.cells #[.int .i64 3, .string (s.extract i kk), .int .i64 i] 54))
                      go_wp2_with (at_builtin; (refine append_new rfl (.tmp 118) (.tmp 120) 44 rfl 54 i0 (.agg #[.int .i64 0, .string ⟨#[]⟩, .int .i64 0]) 3 32 Tryz.underlying44 hi hz0 hz1 hz2 rfl (by decide) _ acc.length (acc.flatMap rtokCells) rfl HOWN.out ⟨wr.heap.size, 0, none⟩ 1 [.int .i64 3, .string (s.extract i kk), .int .i64 i] rfl rfl (by have := row_new (wr.setCell ⟨X, 1, none⟩ (.string (s.extract i kk))) 54 [.int .i64 3, .string (s.extract i kk), .int .i64 i]; rw [set_size] at this; exact this) ?c2 ?c3 (by decide) ?_))
                      case c2 => simp [Value.oneCell']
                      case c3 => omega
                      intro v9 w9 hown9 hg9 hb9
                      obtain ⟨va9, vc9, hv9⟩ : ∃ (a : Option Addr) (c : Nat), v9 = .slice a (acc.length + 1) c := (IsRow.val (S := fun _ => True) ⟨hown9, fun _ _ => trivial⟩)
                      subst hv9
                      have hs8 : (wr.setCell ⟨X, 1, none⟩ (.string (s.extract i kk))).heap.size = wr.heap.size := set_size _ _ _
                      have hzl := blk_lt HZ2.out
                      have HLOW : Hid (∀ b, b < w.heap.size + 1 → b < wr.heap.size → w9.heap[b]? = (wr.setCell ⟨X, 1, none⟩ (.string (s.extract i kk))).heap[b]?) := hide fun b h1 h2 => (hg9.block b (by simp [hs8]; omega) (fun e => by have h3 : w.heap.size + 1 ≤ b := HY8.out.2 b e.symm; omega)).trans (Below.heap_alloc _ _ b (by rw [hs8]; exact h2))
                      have hsA : ((wr.setCell ⟨X, 1, none⟩ (.string (s.extract i kk))).alloc (.cells #[.int .i64 3, .string (s.extract i kk), .int .i64 i] 54)).heap.size = wr.heap.size + 1 := by show (Array.push _ _).size = _; rw [Array.size_push, hs8]
                      have hwx : w.heap.size ≤ wr.heap.size := HB2.out.size
                      have hszz : wr.heap.size ≤ w9.heap.size := Nat.le_trans (by simp [hs8]) hg9.size
                      have HB9 : Hid (Below w.heap.size w w9) := hide ⟨hg9.os.trans HB8.out.os, hg9.tape.trans HB8.out.tape, hg9.output.trans HB8.out.output, by omega, fun b hb => (HLOW.out b (by omega) (by omega)).trans (HB8.out.block b hb)⟩
                      have HZ9 := hide ((HLOW.out w.heap.size (by omega) hzl).trans HZ8.out)
                      have HY9 : Hid (IsRow (From (w.heap.size + 1)) w9 54 3 (.slice va9 (acc.length + 1) vc9) (acc ++ [(⟨3, s.extract i kk, i⟩ : Tok)]).length ((acc ++ [(⟨3, s.extract i kk, i⟩ : Tok)]).flatMap rtokCells)) := hide (by
                        have e : acc.flatMap rtokCells ++ [.int .i64 3, .string (s.extract i kk), .int .i64 i] = (acc ++ [(⟨3, s.extract i kk, i⟩ : Tok)]).flatMap rtokCells := by simp [rtokCells, rk]
                        refine ⟨?_, fun b hb => ?_⟩
                        · rw [← e, List.length_append]
                          exact hown9
                        · rcases hb9 with e | e
                          · exact HY8.out.2 b (by rw [← e]; exact hb)
                          · rw [e] at hb
                            simp only [Option.some.injEq] at hb
                            show w.heap.size + 1 ≤ b
                            omega)
                      clear hown9 hg9 hb9 hs8 hsA
                      go_wp2_with fail
                      exact ⟨⟨kk, acc ++ [⟨3, s.extract i kk, i⟩], rfl, ⟨by omega, HY9.out, HB9.out, HZ9.out, ⟨g, by rw [HU.out, if_neg h8]⟩, fun t ht => by
                        rcases List.mem_append.1 ht with h | h
                        · exact HGD.out t h
                        · simp at h; subst h; exact HGR.out, by simp; omega⟩⟩, by simp [intOf]; omega⟩
                  · subst hnn
                    have HTK := hide htk
                    have hKi : ((kk : Int) == (i : Int)) = false := by rw [beq_eq_false_iff_ne]; omega
                    have HGR : Hid (GoodR ⟨3, s.extract i kk, i⟩) := hide (by have := tokenAt_goodR s i hle hs (by rw [htk]; show (3 : Nat) ≠ 0; decide); rw [htk] at this; exact this)
                    have hsE : (s.extract i kk).size = kk - i := by rw [ByteArray.size_extract]; omega
                    have HU : Hid (whole = if acc.length = 800 then .bad 4 i else toks s g (past isBl s.data.toList kk) (acc ++ [⟨3, s.extract i kk, i⟩])) := hide (by
                      rw [he2, past_here isBl s.data.toList i (fun h => by rw [HC.out, bl_is]; exact hbl), toks, if_pos hlt, htk, if_neg (by show ¬ (3 : Nat) = 0; decide)]
                      congr 2
                      show past isBl s.data.toList (i + (s.extract i kk).size) = _
                      rw [hsE]
                      congr 1
                      omega)
                    clear htk he2
                    by_cases h8 : acc.length = 800
                    · have HW : Hid (whole = .bad 4 i) := hide (by rw [HU.out, if_pos h8])
                      have h8i : (800 : Int) ≤ (acc.length : Int) := by omega
                      have z0 : wr.cell? ⟨w.heap.size, 0, none⟩ = some (.int .i64 0) := by rw [blk_cell HZ2.out]; rfl
                      have z1 : wr.cell? ⟨w.heap.size, 1, none⟩ = some (.int .i64 0) := by rw [blk_cell HZ2.out]; rfl
                      have zf0 : wr.frozen? ⟨w.heap.size, 0, none⟩ = false := blk_frozen HZ2.out 0
                      have zf1 : wr.frozen? ⟨w.heap.size, 1, none⟩ = false := blk_frozen HZ2.out 1
                      clear h8
                      go_wp2_with fail
                      refine bodyPost_ret (v := .tuple #[.slice none 0 0, .agg #[.int .i64 4, .int .i64 i]]) (by simp [results, Tryz.results15, go_sem, z0, z1]) rfl ?_
                      rw [HW.out]
                      exact ⟨(HB2.out.setCell (Nat.le_refl _) _).setCell (Nat.le_refl _) _, rfl⟩
                    · have h8i : ¬ (800 : Int) ≤ (acc.length : Int) := by omega
                      have x0 : wr.cell? ⟨X, 0, none⟩ = some (.int .i64 3) := by rw [blk_cell HX2.out]; rfl
                      have x1 : wr.cell? ⟨X, 1, none⟩ = some (.string ⟨#[]⟩) := by rw [blk_cell HX2.out]; rfl
                      have x2 : wr.cell? ⟨X, 2, none⟩ = some (.int .i64 i) := by rw [blk_cell HX2.out]; rfl
                      have xf1 : wr.frozen? ⟨X, 1, none⟩ = false := blk_frozen HX2.out 1
                      have hKs : (kk : Int) ≤ (s.size : Int) := by omega
                      have hiK : (i : Int) ≤ (kk : Int) := by omega
                      have HY8 : Hid (IsRow (From (w.heap.size + 1)) (wr.setCell ⟨X, 1, none⟩ (.string (s.extract i kk))) 54 3 (.slice va acc.length vc) acc.length (acc.flatMap rtokCells)) := hide (by
                        have : IsRow (fun b => w.heap.size + 1 ≤ b ∧ b ≠ X) wr 54 3 (.slice va acc.length vc) acc.length (acc.flatMap rtokCells) := HY2.out
                        exact (this.same fun b h1 h2 => set_other _ 1 _ h1.2).imp fun b _ h => h.1)
                      have HZ8 := hide ((set_other wr 1 (.string (s.extract i kk)) (show w.heap.size ≠ X by omega)).trans HZ2.out)
                      have HB8 : Hid (Below w.heap.size w (wr.setCell ⟨X, 1, none⟩ (.string (s.extract i kk)))) := hide (HB2.out.setCell hXw _)
                      have HOWN := hide ((HY8.out.1).alloc (.cells #[.int .i64 3, .string (s.extract i kk), .int .i64 i] 54))
                      go_wp2_with (at_builtin; (refine append_new rfl (.tmp 118) (.tmp 120) 44 rfl 54 i0 (.agg #[.int .i64 0, .string ⟨#[]⟩, .int .i64 0]) 3 32 Tryz.underlying44 hi hz0 hz1 hz2 rfl (by decide) _ acc.length (acc.flatMap rtokCells) rfl HOWN.out ⟨wr.heap.size, 0, none⟩ 1 [.int .i64 3, .string (s.extract i kk), .int .i64 i] rfl rfl (by have := row_new (wr.setCell ⟨X, 1, none⟩ (.string (s.extract i kk))) 54 [.int .i64 3, .string (s.extract i kk), .int .i64 i]; rw [set_size] at this; exact this) ?c2 ?c3 (by decide) ?_))
                      case c2 => simp [Value.oneCell']
                      case c3 => omega
                      intro v9 w9 hown9 hg9 hb9
                      obtain ⟨va9, vc9, hv9⟩ : ∃ (a : Option Addr) (c : Nat), v9 = .slice a (acc.length + 1) c := (IsRow.val (S := fun _ => True) ⟨hown9, fun _ _ => trivial⟩)
                      subst hv9
                      have hs8 : (wr.setCell ⟨X, 1, none⟩ (.string (s.extract i kk))).heap.size = wr.heap.size := set_size _ _ _
                      have hzl := blk_lt HZ2.out
                      have HLOW : Hid (∀ b, b < w.heap.size + 1 → b < wr.heap.size → w9.heap[b]? = (wr.setCell ⟨X, 1, none⟩ (.string (s.extract i kk))).heap[b]?) := hide fun b h1 h2 => (hg9.block b (by simp [hs8]; omega) (fun e => by have h3 : w.heap.size + 1 ≤ b := HY8.out.2 b e.symm; omega)).trans (Below.heap_alloc _ _ b (by rw [hs8]; exact h2))
                      have hsA : ((wr.setCell ⟨X, 1, none⟩ (.string (s.extract i kk))).alloc (.cells #[.int .i64 3, .string (s.extract i kk), .int .i64 i] 54)).heap.size = wr.heap.size + 1 := by show (Array.push _ _).size = _; rw [Array.size_push, hs8]
                      have hwx : w.heap.size ≤ wr.heap.size := HB2.out.size
                      have hszz : wr.heap.size ≤ w9.heap.size := Nat.le_trans (by simp [hs8]) hg9.size
                      have HB9 : Hid (Below w.heap.size w w9) := hide ⟨hg9.os.trans HB8.out.os, hg9.tape.trans HB8.out.tape, hg9.output.trans HB8.out.output, by omega, fun b hb => (HLOW.out b (by omega) (by omega)).trans (HB8.out.block b hb)⟩
                      have HZ9 := hide ((HLOW.out w.heap.size (by omega) hzl).trans HZ8.out)
                      have HY9 : Hid (IsRow (From (w.heap.size + 1)) w9 54 3 (.slice va9 (acc.length + 1) vc9) (acc ++ [(⟨3, s.extract i kk, i⟩ : Tok)]).length ((acc ++ [(⟨3, s.extract i kk, i⟩ : Tok)]).flatMap rtokCells)) := hide (by
                        have e : acc.flatMap rtokCells ++ [.int .i64 3, .string (s.extract i kk), .int .i64 i] = (acc ++ [(⟨3, s.extract i kk, i⟩ : Tok)]).flatMap rtokCells := by simp [rtokCells, rk]
                        refine ⟨?_, fun b hb => ?_⟩
                        · rw [← e, List.length_append]
                          exact hown9
                        · rcases hb9 with e | e
                          · exact HY8.out.2 b (by rw [← e]; exact hb)
                          · rw [e] at hb
                            simp only [Option.some.injEq] at hb
                            show w.heap.size + 1 ≤ b
                            omega)
                      clear hown9 hg9 hb9 hs8 hsA
                      go_wp2_with fail
                      exact ⟨⟨kk, acc ++ [⟨3, s.extract i kk, i⟩], rfl, ⟨by omega, HY9.out, HB9.out, HZ9.out, ⟨g, by rw [HU.out, if_neg h8]⟩, fun t ht => by
                        rcases List.mem_append.1 ht with h | h
                        · exact HGD.out t h
                        · simp at h; subst h; exact HGR.out, by simp; omega⟩⟩, by simp [intOf]; omega⟩

    · have hlti : ¬ (i : Int) < (s.size : Int) := by omega
      have hii : i = s.size := by omega
      have HWH : Hid (whole = .ok (acc ++ [⟨0, ⟨#[]⟩, s.size⟩]) 0) := hide (by
        rw [he2, past_here isBl s.data.toList i (fun h => by omega)]
        simp only [toks, if_neg hlt])
      have hfine := (HV.out.below (Below.drew HB.out)).fine
      have g0 : wr.drew.cell? ⟨0, 0, none⟩ = some (.int .i64 0) := by rw [blk_cell hfine]; rfl
      have g1 : wr.drew.cell? ⟨0, 1, none⟩ = some (.int .i64 (-1)) := by rw [blk_cell hfine]; rfl
      have HFI := hide hfine
      clear hfine he2
      go_wp2_with fail
      refine wp_region_held_drew (S := fun w' => w'.cell? ⟨0, 0, none⟩ = some (.int .i64 0) ∧ w'.cell? ⟨0, 1, none⟩ = some (.int .i64 (-1))) (by kernel_rfl) ⟨g0, g1⟩ (fun _ => ?_)
      refine wpAnyH_take (i := 0) (oi := ⟨some 123, _, _, _, _, _⟩) (v := .slice va acc.length vc) rfl (by kernel_rfl) (by kernel_rfl) (by kernel_rfl) (fun _ _ _ h => h) (Or.inl ⟨by rfl, fun W hS => by (obtain ⟨s0, s1⟩ := hS; go_simp)⟩) ⟨g0, g1⟩ ?_
      simp only [Act.put, List.setIfInBounds_toArray, List.set_cons_zero, List.set_cons_succ]
      refine wpAnyH_take (i := 1) (oi := ⟨some 124, _, _, _, _, _⟩) (v := .string s) rfl (by kernel_rfl) (by kernel_rfl) (by kernel_rfl) (fun _ _ _ h => h) (Or.inl ⟨by rfl, fun W hS => by (obtain ⟨s0, s1⟩ := hS; go_simp)⟩) ⟨g0, g1⟩ ?_
      simp only [Act.put, List.setIfInBounds_toArray, List.set_cons_zero, List.set_cons_succ]
      refine wpAnyH_take (i := 2) (oi := ⟨some 125, _, _, _, _, _⟩) (v := .int .i64 s.size) rfl (by kernel_rfl) (by kernel_rfl) (by kernel_rfl) (fun _ _ _ h => h) (Or.inl ⟨by rfl, fun W hS => by (obtain ⟨s0, s1⟩ := hS; go_simp)⟩) ⟨g0, g1⟩ ?_
      simp only [Act.put, List.setIfInBounds_toArray, List.set_cons_zero, List.set_cons_succ]
      refine wpAnyH_take (i := 3) (oi := ⟨some 126, _, _, _, _, _⟩) (v := .agg #[.int .i64 4, .string ⟨#[]⟩, .int .i64 s.size]) rfl (by kernel_rfl) (by kernel_rfl) (by kernel_rfl) (fun _ _ _ h => h) (Or.inl ⟨by rfl, fun W hS => by (obtain ⟨s0, s1⟩ := hS; go_simp)⟩) ⟨g0, g1⟩ ?_
      simp only [Act.put, List.setIfInBounds_toArray, List.set_cons_zero, List.set_cons_succ]
      refine wpAnyH_take (i := 6) (oi := ⟨some 129, _, _, _, _, _⟩) (v := .agg #[.int .i64 0, .int .i64 (-1)]) rfl (by kernel_rfl) (by kernel_rfl) (by kernel_rfl) (fun _ _ _ h => h) (Or.inl ⟨by rfl, fun W hS => by (obtain ⟨s0, s1⟩ := hS; go_simp)⟩) ⟨g0, g1⟩ ?_
      simp only [Act.put, List.setIfInBounds_toArray, List.set_cons_zero, List.set_cons_succ]
      refine wpAnyH_ready (rs := [4]) (by kernel_rfl) (by simp) ?_
      refine AllReadyH.cons rfl (fun K hK => ?_) AllReadyH.nil
      go_simp
      have HOWN := hide ((HY.out.1).alloc (.cells #[.int .i64 4, .string ⟨#[]⟩, .int .i64 s.size] 54))
      refine hK.out _ _ ⟨cell_alloc g0 _, cell_alloc g1 _⟩ (fun _ => ?_)
      clear hK K
      obtain ⟨v7, w7, happ, hown7, hg7, hb7⟩ := app_one (P := Tryz.prog) (w := wr.drew.alloc (.cells #[.int .i64 4, .string ⟨#[]⟩, .int .i64 s.size] 54)) 44 44 54 i0 (.agg #[.int .i64 0, .string ⟨#[]⟩, .int .i64 0]) 3 32 Tryz.underlying44 hi hz0 hz1 hz2 rfl (by decide) (.slice va acc.length vc) acc.length (acc.flatMap rtokCells) HOWN.out ⟨wr.drew.heap.size, 0, none⟩ 1 [.int .i64 4, .string ⟨#[]⟩, .int .i64 s.size] rfl (row_new _ _ _) (by simp [Value.oneCell']) (by omega) (by decide)
      obtain ⟨T7, c7, hv7, hc7⟩ : ∃ (T c : Nat), v7 = .slice (some ⟨T, 0, none⟩) (acc.length + 1) c ∧ acc.length + 1 ≤ c := by
        rcases hown7.2 with ⟨h1, h2⟩ | ⟨g', cap, cur, h1, h2, h3, h4, _⟩
        · omega
        · exact ⟨g', cap, h1, h4⟩
      subst hv7
      have hsa : (wr.drew.alloc (.cells #[.int .i64 4, .string ⟨#[]⟩, .int .i64 s.size] 54)).heap.size = wr.heap.size + 1 := by show (Array.push wr.heap _).size = _; rw [Array.size_push]
      have HLOW : Hid (∀ b, b < w.heap.size + 1 → b < wr.heap.size → w7.heap[b]? = wr.heap[b]?) := hide fun b h1 h2 => (hg7.block b (by rw [hsa]; omega) (fun e => by have h3 : w.heap.size + 1 ≤ b := HY.out.2 b e.symm; omega)).trans (Below.heap_alloc wr.drew _ b h2)
      have hsz7 : wr.heap.size ≤ w7.heap.size := Nat.le_trans (by rw [hsa]; omega) hg7.size
      have HB7 : Hid (Below w.heap.size w w7) := hide ⟨hg7.os.trans HB.out.os, hg7.tape.trans HB.out.tape, hg7.output.trans HB.out.output, Nat.le_trans HB.out.size hsz7, fun b hb => (HLOW.out b (by omega) (Nat.lt_of_lt_of_le hb HB.out.size)).trans (HB.out.block b hb)⟩
      have HZ7 := hide ((HLOW.out w.heap.size (by omega) (blk_lt HZ.out)).trans HZ.out)
      have HT7 : Hid (w.heap.size + 1 ≤ T7) := hide (by
        have hsz := blk_lt HZ.out
        rcases hb7 with e | e
        · exact HY.out.2 T7 (by rw [← e]; rfl)
        · simp only [Value.ownBlock, Option.some.injEq] at e
          rw [hsa] at e
          omega)
      have HOWN7 := hide hown7
      have gf := (HV.out.below HB7.out).fine
      have g0' : w7.cell? ⟨0, 0, none⟩ = some (.int .i64 0) := by rw [blk_cell gf]; rfl
      have g1' : w7.cell? ⟨0, 1, none⟩ = some (.int .i64 (-1)) := by rw [blk_cell gf]; rfl
      clear hown7 hg7 hb7 gf
      refine wpAnyH_ready (rs := [5]) (by kernel_rfl) (by simp) ?_
      refine AllReadyH.cons rfl (fun K hK => ?_) AllReadyH.nil
      refine (if_pos (by kernel_rfl)).mpr ?_
      refine wp_app happ _ _ rfl rfl rfl ?_
      simp only [Act.put, List.setIfInBounds_toArray, List.set_cons_zero, List.set_cons_succ]
      refine hK.out _ _ ⟨g0', g1'⟩ (fun _ => ?_)
      clear hK K happ
      refine wpAnyH_take (i := 7) (oi := ⟨some 2, _, _, _, _, _⟩) (v := .slice (some ⟨T7, 0, none⟩) (acc.length + 1) c7) rfl (by kernel_rfl) (by kernel_rfl) (by kernel_rfl) (fun _ _ _ h => h) (Or.inl ⟨by rfl, fun W hS => by (obtain ⟨s0, s1⟩ := hS; go_simp)⟩) ⟨g0', g1'⟩ ?_
      simp only [Act.put, List.setIfInBounds_toArray, List.set_cons_zero, List.set_cons_succ]
      have z0 : w7.cell? ⟨w.heap.size, 0, none⟩ = some (.int .i64 0) := by rw [blk_cell HZ7.out]; rfl
      have z1 : w7.cell? ⟨w.heap.size, 1, none⟩ = some (.int .i64 0) := by rw [blk_cell HZ7.out]; rfl
      have zf0 : w7.frozen? ⟨w.heap.size, 0, none⟩ = false := blk_frozen HZ7.out 0
      have zf1 : w7.frozen? ⟨w.heap.size, 1, none⟩ = false := blk_frozen HZ7.out 1
      have hgl : w.heap.size ≠ 0 := by have := blk_lt HV.out.fine; omega
      have HB8 : Hid (Below w.heap.size w ((w7.setCell ⟨w.heap.size, 0, none⟩ (.int .i64 0)).setCell ⟨w.heap.size, 1, none⟩ (.int .i64 (-1)))) := hide ((HB7.out.setCell (Nat.le_refl _) _).setCell (Nat.le_refl _) _)
      have gf8 := (HV.out.below HB8.out).fine
      have g0'' : ((w7.setCell ⟨w.heap.size, 0, none⟩ (.int .i64 0)).setCell ⟨w.heap.size, 1, none⟩ (.int .i64 (-1))).cell? ⟨0, 0, none⟩ = some (.int .i64 0) := by rw [blk_cell gf8]; rfl
      have g1'' : ((w7.setCell ⟨w.heap.size, 0, none⟩ (.int .i64 0)).setCell ⟨w.heap.size, 1, none⟩ (.int .i64 (-1))).cell? ⟨0, 1, none⟩ = some (.int .i64 (-1)) := by rw [blk_cell gf8]; rfl
      clear gf8
      refine wpAnyH_ready (rs := [8]) (by kernel_rfl) (by simp) ?_
      refine AllReadyH.cons rfl (fun K hK => ?_) AllReadyH.nil
      go_simp
      refine hK.out _ _ ⟨g0'', g1''⟩ (fun _ => ?_)
      clear hK K
      refine wpAnyH_done (by kernel_rfl) ?_ _
      go_wp2_with fail
      refine bodyPost_ret (v := .tuple #[.slice (some ⟨T7, 0, none⟩) (acc.length + 1) c7, .agg #[.int .i64 0, .int .i64 (-1)]]) (by simp [results, Tryz.results15, go_sem, z0, z1]) rfl ?_
      rw [HWH.out]
      have hlen : (acc ++ [(⟨0, ⟨#[]⟩, s.size⟩ : Tok)]).length = acc.length + 1 := by simp
      refine ⟨HB8.out, T7, c7, by rw [hlen], ?_, by have := HT7.out; omega, by rw [hlen]; exact hc7, fitR_of acc s.size HGD.out HAC.out⟩
      have hr : RRow w7 T7 (acc ++ [(⟨0, ⟨#[]⟩, s.size⟩ : Tok)]) := rrow_toks (n := acc.length + 1) hlen.symm (by
        have := HOWN7.out
        have e : acc.flatMap rtokCells ++ [.int .i64 4, .string ⟨#[]⟩, .int .i64 s.size] = (acc ++ [(⟨0, ⟨#[]⟩, s.size⟩ : Tok)]).flatMap rtokCells := by simp [rtokCells, rk]
        rw [e] at this
        exact this)
      intro i hi
      have := hr i hi
      have hne : T7 ≠ w.heap.size := by have := HT7.out; omega
      have cs : ∀ (a : Addr) v, a.block = T7 → w7.cell? a = some v → ((w7.setCell ⟨w.heap.size, 0, none⟩ (.int .i64 0)).setCell ⟨w.heap.size, 1, none⟩ (.int .i64 (-1))).cell? a = some v := fun a v ha hv => (World.cell?_of_block (w := w7) (((set_other _ 1 _ (by rw [ha]; exact hne)).trans (set_other _ 0 _ (by rw [ha]; exact hne))))).trans hv
      exact ⟨cs _ _ rfl this.1, cs _ _ rfl this.2.1, cs _ _ rfl this.2.2⟩
end Go.Proofs.YtlbgdoajaplabaaGreatDoor
