/-
  PLAIN: what a token is like, and that there is always an answer.
-/
import Derived.Test.YtgncgbngjdcpgaaGreatDoorTokenAt
namespace Go.Proofs.YtgncgbngjdcpgaaGreatDoor
open Go.RowKit

structure Good (t : Tok) : Prop where
  kind : t.kind ≠ 0
  small : t.text.size ≤ 1000000
  digits : t.kind = 2 → ∀ c ∈ t.text.data.toList, 48 ≤ c.toNat ∧ c.toNat ≤ 57

theorem past_all (p : UInt8 → Bool) (l : List UInt8) (i j : Nat) (hij : i ≤ j) (hj : j < past p l i) (hl : j < l.length) : p l[j] = true := by
  unfold past at hj
  have h1 : j - i < ((l.drop i).takeWhile p).length := by omega
  have h2 := List.all_takeWhile (p := p) (l := l.drop i)
  rw [List.all_eq_true] at h2
  have h3 := h2 _ (List.getElem_mem h1)
  have h4 : ((l.drop i).takeWhile p)[j - i] = l[j] := by
    have := (List.takeWhile_prefix p (l := l.drop i)).getElem h1
    rw [this, List.getElem_drop]
    congr 1; omega
  rw [h4] at h3
  exact h3
theorem isDg_range (c : UInt8) (h : isDg c = true) : 48 ≤ c.toNat ∧ c.toNat ≤ 57 := by
  unfold isDg at h
  simp only [List.contains_cons, List.contains_nil, Bool.or_false, Bool.or_eq_true, beq_iff_eq] at h
  rcases h with h | h | h | h | h | h | h | h | h | h <;> subst h <;> decide
theorem mem_extract {s : ByteArray} {i j : Nat} {c : UInt8} (h : c ∈ (s.extract i j).data.toList) : ∃ t, ∃ ht : t < s.data.toList.length, i ≤ t ∧ t < j ∧ s.data.toList[t] = c := by
  rw [Lib.extract_data] at h
  obtain ⟨n, hn, e⟩ := List.getElem_of_mem h
  rw [List.getElem_take, List.getElem_drop] at e
  simp at hn
  exact ⟨i + n, by simp; omega, by omega, by omega, e⟩
theorem size_extract' (s : ByteArray) (i j : Nat) (hj : j ≤ s.size) : (s.extract i j).size = j - i := by
  rw [ByteArray.size_extract]; omega
theorem marks_size : ∀ m ∈ marksL, 0 < m.length := by decide

theorem tokenAt_good (s : ByteArray) (i : Nat) (hi : i ≤ s.size) (hs : s.size ≤ 1000000) (hk : (tokenAt s i).kind ≠ 0) : Good (tokenAt s i) ∧ 0 < (tokenAt s i).text.size ∧ i + (tokenAt s i).text.size ≤ s.size := by
  have hl : i ≤ s.data.toList.length := by rw [Array.length_toList]; exact hi
  have p1 := past_le isDg s.data.toList i hl
  have p2 := past_le isLd s.data.toList i hl
  rw [Array.length_toList] at p1 p2
  have hz : s.data.size = s.size := rfl
  rw [hz] at p1 p2
  by_cases h1 : i < past isDg s.data.toList i
  · have e : tokenAt s i = ⟨2, s.extract i (past isDg s.data.toList i), i⟩ := by simp only [tokenAt, if_pos h1]
    rw [e]
    have hsz := size_extract' s i _ p1.2
    refine ⟨⟨by simp, by simp only; omega, fun _ c hc => ?_⟩, by simp only; omega, by simp only; omega⟩
    obtain ⟨t, ht, h3, h4, h5⟩ := mem_extract hc
    have := past_all isDg s.data.toList i t h3 h4 ht
    rw [h5] at this
    exact isDg_range c this
  · by_cases h2 : i < past isLd s.data.toList i
    · have e : tokenAt s i = ⟨1, s.extract i (past isLd s.data.toList i), i⟩ := by simp only [tokenAt, if_neg h1, if_pos h2]
      rw [e]
      have hsz := size_extract' s i _ p2.2
      exact ⟨⟨by simp, by simp only; omega, fun h => by simp at h⟩, by simp only; omega, by simp only; omega⟩
    · cases hm : marksL.find? (fun m => m.isPrefixOf (s.data.toList.drop i)) with
      | none =>
        have e : tokenAt s i = ⟨0, ⟨#[]⟩, i⟩ := by simp only [tokenAt, if_neg h1, if_neg h2, hm]
        rw [e] at hk
        exact absurd rfl hk
      | some m =>
        have e : tokenAt s i = ⟨3, ⟨m.toArray⟩, i⟩ := by simp only [tokenAt, if_neg h1, if_neg h2, hm]
        rw [e]
        have hpre := List.find?_some hm
        have hmem := marks_size m (List.mem_of_find?_eq_some hm)
        have hle : m.length ≤ (s.data.toList.drop i).length := (List.isPrefixOf_iff_prefix.1 hpre).length_le
        simp at hle
        have hz2 : (⟨m.toArray⟩ : ByteArray).size = m.length := by simp [ByteArray.size]
        refine ⟨⟨by simp, by simp only; omega, fun h => by simp at h⟩, by simp only; omega, by simp only; omega⟩

theorem toks_out (s : ByteArray) (hs : s.size ≤ 1000000) : ∀ (f i : Nat) (acc : List Tok), i ≤ s.size → s.size - i < f → toks s f i acc ≠ .out
  | 0, _, _, _, h => by omega
  | f + 1, i, acc, hi, hf => by
    unfold toks
    split
    · split
      · intro h; cases h
      · split
        · intro h; cases h
        · rename_i h1 h2 h3
          have hg := tokenAt_good s i hi hs h2
          have hp := past_le isBl s.data.toList (i + (tokenAt s i).text.size) (by rw [Array.length_toList]; exact hg.2.2)
          rw [Array.length_toList] at hp
          have hz : s.data.size = s.size := rfl
          exact toks_out s hs f _ _ (by omega) (by omega)
    · intro h; cases h

theorem fit_of (acc : List Tok) (n : Nat) (h : ∀ t ∈ acc, Good t) (hl : acc.length ≤ 800) : Fit (acc ++ [⟨0, ⟨#[]⟩, n⟩]) := by
  have hin : ∀ i, i < acc.length → tk (acc ++ [⟨0, ⟨#[]⟩, n⟩]) i ∈ acc := fun i hi => by
    unfold tk
    rw [List.getElem?_append_left hi, List.getElem?_eq_getElem hi, Option.getD_some]
    exact List.getElem_mem hi
  have hend : tk (acc ++ [⟨0, ⟨#[]⟩, n⟩]) acc.length = ⟨0, ⟨#[]⟩, n⟩ := by unfold tk; simp
  have split : ∀ i, i < (acc ++ [(⟨0, ⟨#[]⟩, n⟩ : Tok)]).length → i < acc.length ∨ i = acc.length := fun i hi => by simp at hi; omega
  refine ⟨fun i hi hk => ?_, fun i hi hk => ?_, by simp; omega, fun i hi => ?_, fun i hi hk => ?_⟩
  · rcases split i hi with h1 | h1
    · simp; omega
    · rw [h1, hend] at hk; exact absurd rfl hk
  · rcases split i hi with h1 | h1
    · exact absurd hk (h _ (hin i h1)).kind
    · rw [h1, hend, ByteArray.toList_eq]
  · rcases split i hi with h1 | h1
    · exact (h _ (hin i h1)).small
    · rw [h1, hend]; exact Nat.zero_le _
  · rcases split i hi with h1 | h1
    · exact (h _ (hin i h1)).digits hk
    · rw [h1, hend] at hk; simp at hk
end Go.Proofs.YtgncgbngjdcpgaaGreatDoor
