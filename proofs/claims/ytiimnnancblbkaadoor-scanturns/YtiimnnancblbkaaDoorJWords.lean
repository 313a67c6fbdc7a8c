/-
  CONTRACTS of isName, wayOf, level: which words are which.
  CONTRACT of blocks, and what is found in the map that it makes.
  CONTRACTS of name, kind, first: what the reader reads of names and of types.
-/
import Derived.Test.YtiimnnancblbkaaDoorJMem
import Derived.MapKept
import Derived.Carry
import Derived.Laws.StructEq
namespace Go.Proofs.YtiimnnancblbkaaDoor
open Go.RowKit

theorem strs_size (l : List (List UInt8)) : (strs l).size = l.length := by simp [strs]
theorem strs_get (l : List (List UInt8)) (j : Nat) (h : j < l.length) : (strs l)[j]? = some (.string ⟨(l[j]).toArray⟩) := by simp [strs, h]

theorem index_kept (j : Nat) (h : j < 20) (w : World) : (Instr.index 129 (.agg (strs keptL)) (.int .i64 j)).run Tryd.prog w = .ok (.string ⟨((keptL[j]?).getD []).toArray⟩) w := by
  have hl : keptL.length = 20 := rfl
  have e := strs_get keptL j (by omega)
  simp [Instr.index, go_sem, part, e, hl, h]
theorem kept_of (l : List (List UInt8)) (s : List UInt8) (n : Nat) (hn : l.length = n) (h : ∀ t, t < n → (s == (l[t]?).getD []) = false) : l.contains s = false := by
  cases hc : l.contains s with
  | false => rfl
  | true =>
    exfalso
    rw [List.contains_iff_mem] at hc
    obtain ⟨t, ht, e⟩ := List.getElem_of_mem hc
    have := h t (by omega)
    rw [List.getElem?_eq_getElem ht, e] at this
    simp at this
theorem kept_yes (l : List (List UInt8)) (s : List UInt8) (t : Nat) (ht : t < l.length) (h : (s == (l[t]?).getD []) = true) : l.contains s = true := by
  rw [List.contains_iff_mem]
  rw [beq_iff_eq, List.getElem?_eq_getElem ht] at h
  rw [h]
  exact List.getElem_mem ht
theorem none_step {s : List UInt8} {l : List (List UInt8)} {j : Nat} (h : ∀ t, t < j → (s == (l[t]?).getD []) = false) (hj : (s == (l[j]?).getD []) = false) : ∀ t, t < j + 1 → (s == (l[t]?).getD []) = false := by
  intro t ht
  rcases Nat.lt_or_ge t j with h1 | h1
  · exact h t h1
  · rw [show t = j by omega]; exact hj

set_option maxRecDepth 100000 in
set_option maxHeartbeats 3200000 in
theorem isName_at (a : Int) (s : ByteArray) (p : Int) (w : World) (hv : Vars w) :
    Calls Tryd.prog 56 #[.agg #[.int .i64 a, .string s, .int .i64 p]] w fun e w' => e = .returned (.bool (a == 1 && !keptL.contains s.toList)) ∧ Below w.heap.size w w' := by
  generalize hr : (a == 1 && !keptL.contains s.toList) = r
  have HR : Hid ((a == 1 && !keptL.contains s.toList) = r) := hr
  clear hr
  have HG := hide fun o => Below.blk (below_alloc w o) hv.kept
  have HI := hide index_kept
  have HL := hide (show keptL.length = 20 from rfl)
  clear hv
  have HB := hide (below_alloc w)
  have HZ := hide (show (Tryd.prog.info? 129).map (·.size) = some (strs keptL).size by kernel_rfl)
  generalize strs keptL = KA at *
  generalize keptL = kl at *
  have HU := hide (show (Tryd.prog.info? 129).map (·.size) = some KA.size from HZ.out)
  go_enter Tryd.func56, Tryd.ntmps56
  go_wp2_with (refine wpList_load_row rfl 129 (.global 3) rfl 3 rfl _ _ _ _ (HG.out _) Tryd.underlying129 rfl HU.out ?_)
  go_loop [4, 6] (fun x i => ∃ j : Nat, j ≤ 20 ∧ i = .int .i64 j ∧ Hid (∀ t, t < j → (s.toList == (kl[t]?).getD []) = false)) (fun _ i => 20 - (intOf i).toNat)
  case atStart => exact ⟨0, Nat.zero_le _, rfl, (fun t ht => by omega : ∀ t, t < 0 → (s.toList == (kl[t]?).getD []) = false)⟩
  case round =>
    obtain ⟨j, hj, rfl, hsame⟩ := hrel
    by_cases hlt : j < 20
    · have hix := HI.out j hlt
      have hj1 : (j : Int) < 20 := by omega
      generalize hx : (kl[j]?).getD [] = x at *
      have HX : Hid ((kl[j]?).getD [] = x) := hx
      clear hx
      cases hc : (s.toList == x) with
      | true =>
        go_wp2
        go_ret
        have HC := hide hc
        refine ⟨ret_bool ?_, HB.out _⟩
        rw [← HR.out, kept_yes kl s.toList j (by rw [HL.out]; exact hlt) (by rw [HX.out]; exact HC.out), Bool.not_true, Bool.and_false]
      | false =>
        go_wp2
        refine ⟨⟨j + 1, by omega, by go_num, none_step hsame.out (by rw [HX.out]; exact hc)⟩, by simp [intOf]; omega⟩
    · have HJ : Hid (j = 20) := (by omega : j = 20)
      go_wp2
      go_ret
      refine ⟨ret_bool ?_, HB.out _⟩
      rw [← HR.out, kept_of kl s.toList 20 HL.out (by rw [← HJ.out]; exact hsame.out), Bool.not_false, Bool.and_true]

def waysL : List (List UInt8) := [[], [105, 110], [111, 117, 116], [118, 97, 114]]
theorem index_ways (j : Nat) (h : j < 4) (w : World) : (Instr.index 124 (.agg (strs waysL)) (.int .i64 j)).run Tryd.prog w = .ok (.string ⟨((waysL[j]?).getD []).toArray⟩) w := by
  have hl : waysL.length = 4 := rfl
  have e := strs_get waysL j (by omega)
  simp [Instr.index, go_sem, part, e, hl, h]
theorem way_yes (s : List UInt8) (j : Nat) (h : j < 4) (he : ((waysL[j]?).getD [] == s) = true) : wayN s = j := by
  rw [beq_iff_eq] at he
  subst he
  match j, h with
  | 0, _ => rfl
  | 1, _ => rfl
  | 2, _ => rfl
  | 3, _ => rfl
theorem way_no (s : List UInt8) (h : ∀ t, t < 4 → ((waysL[t]?).getD [] == s) = false) : wayN s = 0 := by
  have h1 := h 1 (by decide)
  have h2 := h 2 (by decide)
  have h3 := h 3 (by decide)
  simp only [waysL, List.getElem?_cons_succ, List.getElem?_cons_zero, Option.getD_some] at h1 h2 h3
  rw [beq_eq_false_iff_ne] at h1 h2 h3
  simp [wayN, Ne.symm h1, Ne.symm h2, Ne.symm h3]
theorem none_step' {s : List UInt8} {l : List (List UInt8)} {j : Nat} (h : ∀ t, t < j → ((l[t]?).getD [] == s) = false) (hj : ((l[j]?).getD [] == s) = false) : ∀ t, t < j + 1 → ((l[t]?).getD [] == s) = false := by
  intro t ht
  rcases Nat.lt_or_ge t j with h1 | h1
  · exact h t h1
  · rw [show t = j by omega]; exact hj

set_option maxRecDepth 100000 in
set_option maxHeartbeats 3200000 in
theorem wayOf_at (s : ByteArray) (w : World) (hv : Vars w) :
    Calls Tryd.prog 51 #[.string s] w fun e w' => e = .returned (.int .i64 (wayN s.toList)) ∧ w' = w := by
  generalize hr : wayN s.toList = r
  have HR : Hid (wayN s.toList = r) := hr
  have HG : Hid (w.heap[1]? = some (.cells (strs waysL) (vt w 1) (vz w 1))) := hv.ways
  have HI := hide index_ways
  have HY := hide way_yes
  have HN := hide way_no
  have HZ := hide (show (Tryd.prog.info? 124).map (·.size) = some (strs waysL).size by kernel_rfl)
  clear hv hr
  generalize strs waysL = KA at *
  generalize waysL = kl at *
  go_enter Tryd.func51, Tryd.ntmps51
  go_wp2_with (refine wpList_load_row rfl 124 (.global 1) rfl 1 rfl _ _ _ _ HG.out Tryd.underlying124 rfl HZ.out ?_)
  go_loop [3, 4, 6] (fun _ _ i => ∃ j : Nat, j ≤ 4 ∧ i = .int .i64 j ∧ Hid (∀ t, t < j → ((kl[t]?).getD [] == s.toList) = false)) (fun _ _ i => 4 - (intOf i).toNat)
  case atStart => exact ⟨0, Nat.zero_le _, rfl, (fun t ht => by omega : ∀ t, t < 0 → ((kl[t]?).getD [] == s.toList) = false)⟩
  case round =>
    obtain ⟨j, hj, rfl, hsame⟩ := hrel
    by_cases hlt : j < 4
    · have hix := HI.out j hlt
      have hj1 : (j : Int) < 4 := by omega
      generalize hx : (kl[j]?).getD [] = x at *
      have HX : Hid ((kl[j]?).getD [] = x) := hx
      clear hx
      cases hc : (x == s.toList) with
      | true =>
        go_wp2
        go_ret
        refine ⟨ret_int ?_, rfl⟩
        rw [← HR.out, HY.out s.toList j hlt (by rw [HX.out]; exact hc)]
      | false =>
        go_wp2
        refine ⟨⟨j + 1, by omega, by go_num, none_step' hsame.out (by rw [HX.out]; exact hc)⟩, by simp [intOf]; omega⟩
    · have HJ : Hid (j = 4) := (by omega : j = 4)
      go_wp2
      go_ret
      refine ⟨ret_int ?_, rfl⟩
      rw [← HR.out, HN.out s.toList (by rw [← HJ.out]; exact hsame.out)]; rfl

set_option maxRecDepth 100000 in
set_option maxHeartbeats 3200000 in
theorem level_at (s : ByteArray) (w : World) :
    Calls Tryd.prog 85 #[.string s] w fun e w' => e = .returned (.int .i64 (levelN s.toList)) ∧ w' = w := by
  go_enter Tryd.func85, Tryd.ntmps85
  go_wp2
  all_goals (go_ret; refine ⟨ret_int ?_, rfl⟩; simp_all [levelN])


end Go.Proofs.YtiimnnancblbkaaDoor
namespace Go.Proofs.YtiimnnancblbkaaDoor
open Go.RowKit
/-! the map of blocks -/
theorem key_ok (b : Bool) (n : Nat) (k : ByteArray) (w : World) : (Instr.checkKey b (n + 1) 9 (.string k)).run Tryd.prog w = .ok () w := by
  unfold Instr.checkKey
  simp [go_sem]
theorem key_ok' (b : Bool) (k : ByteArray) (w : World) : (Instr.checkKey b 10000 9 (.string k)).run Tryd.prog w = .ok () w := key_ok b 9999 k w
theorem set_last (h : Array Obj) (a b : Obj) : (h.push a).setIfInBounds h.size b = h.push b := by
  apply Array.ext
  · simp
  · intro i h1 h2
    simp only [Array.size_setIfInBounds, Array.size_push] at h1
    rw [Array.getElem_setIfInBounds (by simpa using h1)]
    by_cases hi : h.size = i
    · subst hi; simp
    · have hl : i < h.size := by omega
      rw [if_neg hi, Array.getElem_push, Array.getElem_push, dif_pos hl, dif_pos hl]
theorem ins_at (W : World) (es : Array MapEntry) (c : Nat) (k : ByteArray) (v : Value) (hf : Instr.findNow .string (.string k) es.toList 0 = some none) :
    (Instr.mapUpdate 92 (.map (some W.heap.size)) (.string k) v).run Tryd.prog (W.alloc (.map es c)).drew = .ok () (W.alloc (.map (es.push ⟨.string k, v, c⟩) (c + 1))).drew := by
  have h0 : (W.alloc (.map es c)).drew.heap[W.heap.size]? = some (.map es c) := blk_new W _
  have h1 := key_ok' false k
  have h2 : (getObj W.heap.size).run Tryd.prog (W.alloc (.map es c)).drew = .ok (.map es c) (W.alloc (.map es c)).drew := by simp only [getObj, Sem.run, h0]
  have h3 : ∀ o, (setObj W.heap.size o).run Tryd.prog (W.alloc (.map es c)).drew = .ok () { (W.alloc (.map es c)).drew with heap := (W.alloc (.map es c)).drew.heap.setIfInBounds W.heap.size o } := fun o => by simp only [setObj, Sem.run, h0]
  simp [Instr.mapUpdate, go_sem, Instr.findKey, h1, hf, h2, h3]
  show _ = World.drew _
  unfold World.drew World.alloc
  simp only [set_last]
/-- a map in which the blocks are found, and nothing else -/
def IsBlk (es : Array MapEntry) : Prop := ∀ s : ByteArray, (match Instr.findNow .string (.string s) es.toList 0 with | some (some x) => some x.2 | some none => some (.int .i64 0) | none => none) = some (Value.int .i64 (blkN s.toList))

theorem blk_cases (s : ByteArray) : (s.toList == [116, 105, 109, 101, 114]) = true ∧ (s.toList == [99, 111, 117, 110, 116, 101, 114]) = false ∧ (s.toList == [101, 100, 103, 101]) = false ∨ (s.toList == [116, 105, 109, 101, 114]) = false ∧ (s.toList == [99, 111, 117, 110, 116, 101, 114]) = true ∧ (s.toList == [101, 100, 103, 101]) = false ∨ (s.toList == [116, 105, 109, 101, 114]) = false ∧ (s.toList == [99, 111, 117, 110, 116, 101, 114]) = false ∧ (s.toList == [101, 100, 103, 101]) = true ∨ (s.toList == [116, 105, 109, 101, 114]) = false ∧ (s.toList == [99, 111, 117, 110, 116, 101, 114]) = false ∧ (s.toList == [101, 100, 103, 101]) = false := by
  cases c1 : (s.toList == [116, 105, 109, 101, 114]) with
  | true => rw [beq_iff_eq] at c1; rw [c1]; exact .inl ⟨rfl, rfl, rfl⟩
  | false =>
    cases c2 : (s.toList == [99, 111, 117, 110, 116, 101, 114]) with
    | true => rw [beq_iff_eq] at c2; rw [c2]; exact .inr (.inl ⟨rfl, rfl, rfl⟩)
    | false =>
      cases c3 : (s.toList == [101, 100, 103, 101]) with
      | true => exact .inr (.inr (.inl ⟨rfl, rfl, rfl⟩))
      | false => exact .inr (.inr (.inr ⟨rfl, rfl, rfl⟩))
theorem beq_lit (s : ByteArray) (l : List UInt8) : (s == ⟨l.toArray⟩) = (s.toList == l) := by
  rw [beq_toListBytes]; congr 1; rw [ByteArray.toList_eq]
theorem blk_tce : IsBlk #[⟨.string ⟨#[116, 105, 109, 101, 114]⟩, .int .i64 3, 0⟩, ⟨.string ⟨#[99, 111, 117, 110, 116, 101, 114]⟩, .int .i64 4, 1⟩, ⟨.string ⟨#[101, 100, 103, 101]⟩, .int .i64 5, 2⟩] := by
  intro s
  have e1 := beq_lit s [116, 105, 109, 101, 114]
  have e2 := beq_lit s [99, 111, 117, 110, 116, 101, 114]
  have e3 := beq_lit s [101, 100, 103, 101]
  rcases blk_cases s with ⟨c1, c2, c3⟩ | ⟨c1, c2, c3⟩ | ⟨c1, c2, c3⟩ | ⟨c1, c2, c3⟩ <;> rw [c1] at e1 <;> rw [c2] at e2 <;> rw [c3] at e3 <;> simp [Instr.findNow, Instr.sameNow, e1, e2, e3, blkN, c1, c2, c3]
theorem blk_tec : IsBlk #[⟨.string ⟨#[116, 105, 109, 101, 114]⟩, .int .i64 3, 0⟩, ⟨.string ⟨#[101, 100, 103, 101]⟩, .int .i64 5, 1⟩, ⟨.string ⟨#[99, 111, 117, 110, 116, 101, 114]⟩, .int .i64 4, 2⟩] := by
  intro s
  have e1 := beq_lit s [116, 105, 109, 101, 114]
  have e2 := beq_lit s [99, 111, 117, 110, 116, 101, 114]
  have e3 := beq_lit s [101, 100, 103, 101]
  rcases blk_cases s with ⟨c1, c2, c3⟩ | ⟨c1, c2, c3⟩ | ⟨c1, c2, c3⟩ | ⟨c1, c2, c3⟩ <;> rw [c1] at e1 <;> rw [c2] at e2 <;> rw [c3] at e3 <;> simp [Instr.findNow, Instr.sameNow, e1, e2, e3, blkN, c1, c2, c3]
theorem blk_cte : IsBlk #[⟨.string ⟨#[99, 111, 117, 110, 116, 101, 114]⟩, .int .i64 4, 0⟩, ⟨.string ⟨#[116, 105, 109, 101, 114]⟩, .int .i64 3, 1⟩, ⟨.string ⟨#[101, 100, 103, 101]⟩, .int .i64 5, 2⟩] := by
  intro s
  have e1 := beq_lit s [116, 105, 109, 101, 114]
  have e2 := beq_lit s [99, 111, 117, 110, 116, 101, 114]
  have e3 := beq_lit s [101, 100, 103, 101]
  rcases blk_cases s with ⟨c1, c2, c3⟩ | ⟨c1, c2, c3⟩ | ⟨c1, c2, c3⟩ | ⟨c1, c2, c3⟩ <;> rw [c1] at e1 <;> rw [c2] at e2 <;> rw [c3] at e3 <;> simp [Instr.findNow, Instr.sameNow, e1, e2, e3, blkN, c1, c2, c3]
theorem blk_cet : IsBlk #[⟨.string ⟨#[99, 111, 117, 110, 116, 101, 114]⟩, .int .i64 4, 0⟩, ⟨.string ⟨#[101, 100, 103, 101]⟩, .int .i64 5, 1⟩, ⟨.string ⟨#[116, 105, 109, 101, 114]⟩, .int .i64 3, 2⟩] := by
  intro s
  have e1 := beq_lit s [116, 105, 109, 101, 114]
  have e2 := beq_lit s [99, 111, 117, 110, 116, 101, 114]
  have e3 := beq_lit s [101, 100, 103, 101]
  rcases blk_cases s with ⟨c1, c2, c3⟩ | ⟨c1, c2, c3⟩ | ⟨c1, c2, c3⟩ | ⟨c1, c2, c3⟩ <;> rw [c1] at e1 <;> rw [c2] at e2 <;> rw [c3] at e3 <;> simp [Instr.findNow, Instr.sameNow, e1, e2, e3, blkN, c1, c2, c3]
theorem blk_etc : IsBlk #[⟨.string ⟨#[101, 100, 103, 101]⟩, .int .i64 5, 0⟩, ⟨.string ⟨#[116, 105, 109, 101, 114]⟩, .int .i64 3, 1⟩, ⟨.string ⟨#[99, 111, 117, 110, 116, 101, 114]⟩, .int .i64 4, 2⟩] := by
  intro s
  have e1 := beq_lit s [116, 105, 109, 101, 114]
  have e2 := beq_lit s [99, 111, 117, 110, 116, 101, 114]
  have e3 := beq_lit s [101, 100, 103, 101]
  rcases blk_cases s with ⟨c1, c2, c3⟩ | ⟨c1, c2, c3⟩ | ⟨c1, c2, c3⟩ | ⟨c1, c2, c3⟩ <;> rw [c1] at e1 <;> rw [c2] at e2 <;> rw [c3] at e3 <;> simp [Instr.findNow, Instr.sameNow, e1, e2, e3, blkN, c1, c2, c3]
theorem blk_ect : IsBlk #[⟨.string ⟨#[101, 100, 103, 101]⟩, .int .i64 5, 0⟩, ⟨.string ⟨#[99, 111, 117, 110, 116, 101, 114]⟩, .int .i64 4, 1⟩, ⟨.string ⟨#[116, 105, 109, 101, 114]⟩, .int .i64 3, 2⟩] := by
  intro s
  have e1 := beq_lit s [116, 105, 109, 101, 114]
  have e2 := beq_lit s [99, 111, 117, 110, 116, 101, 114]
  have e3 := beq_lit s [101, 100, 103, 101]
  rcases blk_cases s with ⟨c1, c2, c3⟩ | ⟨c1, c2, c3⟩ | ⟨c1, c2, c3⟩ | ⟨c1, c2, c3⟩ <;> rw [c1] at e1 <;> rw [c2] at e2 <;> rw [c3] at e3 <;> simp [Instr.findNow, Instr.sameNow, e1, e2, e3, blkN, c1, c2, c3]
theorem found (M : Nat) (w : World) (s : ByteArray) (es : Array MapEntry) (c : Nat) (h : w.heap[M]? = some (.map es c)) (hb : IsBlk es) : (Instr.lookup 92 (.map (some M)) (.string s) false).run Tryd.prog w = .ok (.int .i64 (blkN s.toList)) w := by
  have h1 := fun b => key_ok' b s
  have h2 : (getObj M).run Tryd.prog w = .ok (.map es c) w := by simp only [getObj, Sem.run, h]
  have hs := hb s
  cases hr : Instr.findNow .string (.string s) es.toList 0 with
  | none => rw [hr] at hs; cases hs
  | some r =>
    rw [hr] at hs
    cases r with
    | none => simp [Instr.lookup, go_sem, Instr.findKey, h1, h2, hr]; simpa using hs
    | some x => simp [Instr.lookup, go_sem, Instr.findKey, h1, h2, hr]; simpa using hs

set_option maxRecDepth 100000 in
set_option maxHeartbeats 3200000 in
theorem blocks_at (w : World) (hv : Vars w) :
    Calls Tryd.prog 52 #[] w fun e w' => ∃ (M : Nat) (es : Array MapEntry) (c : Nat), e = .returned (.map (some M)) ∧ w'.heap[M]? = some (.map es c) ∧ IsBlk es ∧ Below w.heap.size w w' := by
  have c3 : ∀ o, (w.alloc o).cell? ⟨2, 3, none⟩ = some (.string ⟨#[116, 105, 109, 101, 114]⟩) := fun o => cell_alloc (by rw [blk_cell hv.types]; rfl) o
  have c4 : ∀ o, (w.alloc o).cell? ⟨2, 4, none⟩ = some (.string ⟨#[99, 111, 117, 110, 116, 101, 114]⟩) := fun o => cell_alloc (by rw [blk_cell hv.types]; rfl) o
  have c5 : ∀ o, (w.alloc o).cell? ⟨2, 5, none⟩ = some (.string ⟨#[101, 100, 103, 101]⟩) := fun o => cell_alloc (by rw [blk_cell hv.types]; rfl) o
  have d3 : w.cell? ⟨2, 3, none⟩ = some (.string ⟨#[116, 105, 109, 101, 114]⟩) := by rw [blk_cell hv.types]; rfl
  have d4 : w.cell? ⟨2, 4, none⟩ = some (.string ⟨#[99, 111, 117, 110, 116, 101, 114]⟩) := by rw [blk_cell hv.types]; rfl
  have d5 : w.cell? ⟨2, 5, none⟩ = some (.string ⟨#[101, 100, 103, 101]⟩) := by rw [blk_cell hv.types]; rfl
  have hmm := @run_makeMap Tryd.prog
  have i1 : ∀ W : World, (Instr.mapUpdate 92 (.map (some W.heap.size)) (.string ⟨#[116, 105, 109, 101, 114]⟩) (.int .i64 3)).run Tryd.prog (W.alloc (.map #[] 0)).drew = .ok () (W.alloc (.map #[⟨.string ⟨#[116, 105, 109, 101, 114]⟩, .int .i64 3, 0⟩] 1)).drew := fun W => ins_at W _ 0 _ _ rfl
  have i2 : ∀ W : World, (Instr.mapUpdate 92 (.map (some W.heap.size)) (.string ⟨#[99, 111, 117, 110, 116, 101, 114]⟩) (.int .i64 4)).run Tryd.prog (W.alloc (.map #[] 0)).drew = .ok () (W.alloc (.map #[⟨.string ⟨#[99, 111, 117, 110, 116, 101, 114]⟩, .int .i64 4, 0⟩] 1)).drew := fun W => ins_at W _ 0 _ _ rfl
  have i3 : ∀ W : World, (Instr.mapUpdate 92 (.map (some W.heap.size)) (.string ⟨#[101, 100, 103, 101]⟩) (.int .i64 5)).run Tryd.prog (W.alloc (.map #[] 0)).drew = .ok () (W.alloc (.map #[⟨.string ⟨#[101, 100, 103, 101]⟩, .int .i64 5, 0⟩] 1)).drew := fun W => ins_at W _ 0 _ _ rfl
  have i4 : ∀ W : World, (Instr.mapUpdate 92 (.map (some W.heap.size)) (.string ⟨#[99, 111, 117, 110, 116, 101, 114]⟩) (.int .i64 4)).run Tryd.prog (W.alloc (.map #[⟨.string ⟨#[116, 105, 109, 101, 114]⟩, .int .i64 3, 0⟩] 1)).drew = .ok () (W.alloc (.map #[⟨.string ⟨#[116, 105, 109, 101, 114]⟩, .int .i64 3, 0⟩, ⟨.string ⟨#[99, 111, 117, 110, 116, 101, 114]⟩, .int .i64 4, 1⟩] 2)).drew := fun W => ins_at W _ 1 _ _ rfl
  have i5 : ∀ W : World, (Instr.mapUpdate 92 (.map (some W.heap.size)) (.string ⟨#[101, 100, 103, 101]⟩) (.int .i64 5)).run Tryd.prog (W.alloc (.map #[⟨.string ⟨#[116, 105, 109, 101, 114]⟩, .int .i64 3, 0⟩] 1)).drew = .ok () (W.alloc (.map #[⟨.string ⟨#[116, 105, 109, 101, 114]⟩, .int .i64 3, 0⟩, ⟨.string ⟨#[101, 100, 103, 101]⟩, .int .i64 5, 1⟩] 2)).drew := fun W => ins_at W _ 1 _ _ rfl
  have i6 : ∀ W : World, (Instr.mapUpdate 92 (.map (some W.heap.size)) (.string ⟨#[116, 105, 109, 101, 114]⟩) (.int .i64 3)).run Tryd.prog (W.alloc (.map #[⟨.string ⟨#[99, 111, 117, 110, 116, 101, 114]⟩, .int .i64 4, 0⟩] 1)).drew = .ok () (W.alloc (.map #[⟨.string ⟨#[99, 111, 117, 110, 116, 101, 114]⟩, .int .i64 4, 0⟩, ⟨.string ⟨#[116, 105, 109, 101, 114]⟩, .int .i64 3, 1⟩] 2)).drew := fun W => ins_at W _ 1 _ _ rfl
  have i7 : ∀ W : World, (Instr.mapUpdate 92 (.map (some W.heap.size)) (.string ⟨#[101, 100, 103, 101]⟩) (.int .i64 5)).run Tryd.prog (W.alloc (.map #[⟨.string ⟨#[99, 111, 117, 110, 116, 101, 114]⟩, .int .i64 4, 0⟩] 1)).drew = .ok () (W.alloc (.map #[⟨.string ⟨#[99, 111, 117, 110, 116, 101, 114]⟩, .int .i64 4, 0⟩, ⟨.string ⟨#[101, 100, 103, 101]⟩, .int .i64 5, 1⟩] 2)).drew := fun W => ins_at W _ 1 _ _ rfl
  have i8 : ∀ W : World, (Instr.mapUpdate 92 (.map (some W.heap.size)) (.string ⟨#[116, 105, 109, 101, 114]⟩) (.int .i64 3)).run Tryd.prog (W.alloc (.map #[⟨.string ⟨#[101, 100, 103, 101]⟩, .int .i64 5, 0⟩] 1)).drew = .ok () (W.alloc (.map #[⟨.string ⟨#[101, 100, 103, 101]⟩, .int .i64 5, 0⟩, ⟨.string ⟨#[116, 105, 109, 101, 114]⟩, .int .i64 3, 1⟩] 2)).drew := fun W => ins_at W _ 1 _ _ rfl
  have i9 : ∀ W : World, (Instr.mapUpdate 92 (.map (some W.heap.size)) (.string ⟨#[99, 111, 117, 110, 116, 101, 114]⟩) (.int .i64 4)).run Tryd.prog (W.alloc (.map #[⟨.string ⟨#[101, 100, 103, 101]⟩, .int .i64 5, 0⟩] 1)).drew = .ok () (W.alloc (.map #[⟨.string ⟨#[101, 100, 103, 101]⟩, .int .i64 5, 0⟩, ⟨.string ⟨#[99, 111, 117, 110, 116, 101, 114]⟩, .int .i64 4, 1⟩] 2)).drew := fun W => ins_at W _ 1 _ _ rfl
  have i10 : ∀ W : World, (Instr.mapUpdate 92 (.map (some W.heap.size)) (.string ⟨#[101, 100, 103, 101]⟩) (.int .i64 5)).run Tryd.prog (W.alloc (.map #[⟨.string ⟨#[116, 105, 109, 101, 114]⟩, .int .i64 3, 0⟩, ⟨.string ⟨#[99, 111, 117, 110, 116, 101, 114]⟩, .int .i64 4, 1⟩] 2)).drew = .ok () (W.alloc (.map #[⟨.string ⟨#[116, 105, 109, 101, 114]⟩, .int .i64 3, 0⟩, ⟨.string ⟨#[99, 111, 117, 110, 116, 101, 114]⟩, .int .i64 4, 1⟩, ⟨.string ⟨#[101, 100, 103, 101]⟩, .int .i64 5, 2⟩] 3)).drew := fun W => ins_at W _ 2 _ _ rfl
  have i11 : ∀ W : World, (Instr.mapUpdate 92 (.map (some W.heap.size)) (.string ⟨#[99, 111, 117, 110, 116, 101, 114]⟩) (.int .i64 4)).run Tryd.prog (W.alloc (.map #[⟨.string ⟨#[116, 105, 109, 101, 114]⟩, .int .i64 3, 0⟩, ⟨.string ⟨#[101, 100, 103, 101]⟩, .int .i64 5, 1⟩] 2)).drew = .ok () (W.alloc (.map #[⟨.string ⟨#[116, 105, 109, 101, 114]⟩, .int .i64 3, 0⟩, ⟨.string ⟨#[101, 100, 103, 101]⟩, .int .i64 5, 1⟩, ⟨.string ⟨#[99, 111, 117, 110, 116, 101, 114]⟩, .int .i64 4, 2⟩] 3)).drew := fun W => ins_at W _ 2 _ _ rfl
  have i12 : ∀ W : World, (Instr.mapUpdate 92 (.map (some W.heap.size)) (.string ⟨#[101, 100, 103, 101]⟩) (.int .i64 5)).run Tryd.prog (W.alloc (.map #[⟨.string ⟨#[99, 111, 117, 110, 116, 101, 114]⟩, .int .i64 4, 0⟩, ⟨.string ⟨#[116, 105, 109, 101, 114]⟩, .int .i64 3, 1⟩] 2)).drew = .ok () (W.alloc (.map #[⟨.string ⟨#[99, 111, 117, 110, 116, 101, 114]⟩, .int .i64 4, 0⟩, ⟨.string ⟨#[116, 105, 109, 101, 114]⟩, .int .i64 3, 1⟩, ⟨.string ⟨#[101, 100, 103, 101]⟩, .int .i64 5, 2⟩] 3)).drew := fun W => ins_at W _ 2 _ _ rfl
  have i13 : ∀ W : World, (Instr.mapUpdate 92 (.map (some W.heap.size)) (.string ⟨#[116, 105, 109, 101, 114]⟩) (.int .i64 3)).run Tryd.prog (W.alloc (.map #[⟨.string ⟨#[99, 111, 117, 110, 116, 101, 114]⟩, .int .i64 4, 0⟩, ⟨.string ⟨#[101, 100, 103, 101]⟩, .int .i64 5, 1⟩] 2)).drew = .ok () (W.alloc (.map #[⟨.string ⟨#[99, 111, 117, 110, 116, 101, 114]⟩, .int .i64 4, 0⟩, ⟨.string ⟨#[101, 100, 103, 101]⟩, .int .i64 5, 1⟩, ⟨.string ⟨#[116, 105, 109, 101, 114]⟩, .int .i64 3, 2⟩] 3)).drew := fun W => ins_at W _ 2 _ _ rfl
  have i14 : ∀ W : World, (Instr.mapUpdate 92 (.map (some W.heap.size)) (.string ⟨#[99, 111, 117, 110, 116, 101, 114]⟩) (.int .i64 4)).run Tryd.prog (W.alloc (.map #[⟨.string ⟨#[101, 100, 103, 101]⟩, .int .i64 5, 0⟩, ⟨.string ⟨#[116, 105, 109, 101, 114]⟩, .int .i64 3, 1⟩] 2)).drew = .ok () (W.alloc (.map #[⟨.string ⟨#[101, 100, 103, 101]⟩, .int .i64 5, 0⟩, ⟨.string ⟨#[116, 105, 109, 101, 114]⟩, .int .i64 3, 1⟩, ⟨.string ⟨#[99, 111, 117, 110, 116, 101, 114]⟩, .int .i64 4, 2⟩] 3)).drew := fun W => ins_at W _ 2 _ _ rfl
  have i15 : ∀ W : World, (Instr.mapUpdate 92 (.map (some W.heap.size)) (.string ⟨#[116, 105, 109, 101, 114]⟩) (.int .i64 3)).run Tryd.prog (W.alloc (.map #[⟨.string ⟨#[101, 100, 103, 101]⟩, .int .i64 5, 0⟩, ⟨.string ⟨#[99, 111, 117, 110, 116, 101, 114]⟩, .int .i64 4, 1⟩] 2)).drew = .ok () (W.alloc (.map #[⟨.string ⟨#[101, 100, 103, 101]⟩, .int .i64 5, 0⟩, ⟨.string ⟨#[99, 111, 117, 110, 116, 101, 114]⟩, .int .i64 4, 1⟩, ⟨.string ⟨#[116, 105, 109, 101, 114]⟩, .int .i64 3, 2⟩] 3)).drew := fun W => ins_at W _ 2 _ _ rfl
  clear hv
  go_enter Tryd.func52, Tryd.ntmps52
  go_wp2
  go_region
  all_goals (try go_wp2)
  all_goals go_ret
  all_goals refine ⟨_, _, _, rfl, blk_new w _, ?_, (below_alloc w _).drew⟩
  all_goals (first | exact blk_tce | exact blk_tec | exact blk_cte | exact blk_cet | exact blk_etc | exact blk_ect)
end Go.Proofs.YtiimnnancblbkaaDoor
namespace Go.Proofs.YtiimnnancblbkaaDoor
open Go.RowKit

theorem kindZ (n : Nat) : (((n : Nat) : Int) == 1) = (n == 1) := by
  cases h : (n == 1) with
  | true => rw [beq_iff_eq] at *; omega
  | false => rw [beq_eq_false_iff_ne] at *; omega

set_option maxRecDepth 100000 in
set_option maxHeartbeats 3200000 in
theorem name_at {w : World} {R T cap : Nat} {ts : List Tok} {k : Nat} (h : Rd w R T cap ts k) :
    Calls Tryd.prog 70 #[.pointer (some ⟨R, 0, none⟩)] w (Rds w R T cap ts (fun _ v s => v = .string s) (nameP ts k)) := by
  have hnot : ∀ (x : Bool) (w : World), (Op.unary .not (.bool x)).run Tryd.prog w = .ok (.bool (!x)) w := fun _ _ => rfl
  have q1 := fld1
  have HR := hide h
  have hlt := h.lt
  have HNX := hide (h.fit.next k h.lt)
  clear h
  cases hn : isNm (tk ts k) with
  | false =>
    have hw : nameP ts k = .bad 3 (tk ts k).pos := by simp only [nameP, hn, Bool.false_eq_true, if_false]
    rw [hw]
    have HI : Hid ((((tk ts k).kind : Int) == 1 && !keptL.contains (tk ts k).text.toList) = false) := by rw [kindZ]; exact hn
    clear hw hn hlt
    go_enter Tryd.func70, Tryd.ntmps70
    go_wp2_with fail
    refine (now_at HR.out).mono ?_
    rintro e w1 ⟨rfl, hb⟩
    have HB := hide hb
    clear hb
    go_wp2_with fail
    refine (isName_at _ _ _ w1 (HR.out.vars.below HB.out)).mono ?_
    rintro e w2 ⟨rfl, hb⟩
    rw [HI.out]
    have HC := hide (Below.step HB.out hb)
    clear hb
    go_wp2_with fail
    refine (wrong_at 3 (HR.out.below HC.out)).mono ?_
    rintro e w3 ⟨A, rfl, hA, hb⟩
    have HA := hide hA
    have HD := hide (Below.step HC.out hb)
    clear hA hb
    go_wp2_with fail
    exact ⟨rfl, Kept.of HD.out, A, rfl, HA.out⟩
  | true =>
    have HI : Hid ((((tk ts k).kind : Int) == 1 && !keptL.contains (tk ts k).text.toList) = true) := by rw [kindZ]; exact hn
    have HK0 : Hid ((tk ts k).kind ≠ 0) := by
      intro h0
      simp [isNm, h0] at hn
    by_cases hs : (tk ts k).text.size ≤ 12
    · have hw : nameP ts k = .ok (tk ts k).text (k + 1) := by simp only [nameP, hn, if_true, hs]
      rw [hw]
      have hs' : ¬ ((12 : Int) < ((tk ts k).text.size : Int)) := by omega
      clear hw hn hlt hs
      go_enter Tryd.func70, Tryd.ntmps70
      go_wp2_with fail
      refine (now_at HR.out).mono ?_
      rintro e w1 ⟨rfl, hb⟩
      have HB := hide hb
      clear hb
      go_wp2_with fail
      refine (isName_at _ _ _ w1 (HR.out.vars.below HB.out)).mono ?_
      rintro e w2 ⟨rfl, hb⟩
      rw [HI.out]
      have HC := hide (Below.step HB.out hb)
      clear hb
      go_wp2_with fail
      refine (now_at (HR.out.below HC.out)).mono ?_
      rintro e w3 ⟨rfl, hb⟩
      have HD := hide (Below.step HC.out hb)
      clear hb
      go_wp2_with fail
      refine (take_at (HR.out.below HD.out) (HNX.out HK0.out)).mono ?_
      rintro e w4 ⟨rfl, hd, hk⟩
      have HE := hide hd
      have HF := hide ((Kept.of HD.out).trans hk)
      clear hd hk
      go_wp2_with fail
      go_ret
      exact ⟨HF.out, HE.out, _, rfl, rfl⟩
    · have hw : nameP ts k = .bad 4 (tk ts k).pos := by simp only [nameP, hn, if_true, hs, if_false]
      rw [hw]
      have hs' : ((12 : Int) < ((tk ts k).text.size : Int)) := by omega
      clear hw hn hlt hs
      go_enter Tryd.func70, Tryd.ntmps70
      go_wp2_with fail
      refine (now_at HR.out).mono ?_
      rintro e w1 ⟨rfl, hb⟩
      have HB := hide hb
      clear hb
      go_wp2_with fail
      refine (isName_at _ _ _ w1 (HR.out.vars.below HB.out)).mono ?_
      rintro e w2 ⟨rfl, hb⟩
      rw [HI.out]
      have HC := hide (Below.step HB.out hb)
      clear hb
      go_wp2_with fail
      refine (now_at (HR.out.below HC.out)).mono ?_
      rintro e w3 ⟨rfl, hb⟩
      have HD := hide (Below.step HC.out hb)
      clear hb
      go_wp2_with fail
      refine (wrong_at 4 (HR.out.below HD.out)).mono ?_
      rintro e w4 ⟨A, rfl, hA, hb⟩
      have HA := hide hA
      have HE := hide (Below.step HD.out hb)
      clear hA hb
      go_wp2_with fail
      exact ⟨rfl, Kept.of HE.out, A, rfl, HA.out⟩

set_option maxRecDepth 100000 in
set_option maxHeartbeats 3200000 in
theorem kind_at {w : World} {R T cap : Nat} {ts : List Tok} {k : Nat} (h : Rd w R T cap ts k) :
    Calls Tryd.prog 71 #[.pointer (some ⟨R, 0, none⟩)] w (Rds w R T cap ts (fun _ v (n : Nat) => v = .int .i64 n) (kindP ts k)) := by
  have d1 : w.cell? ⟨2, 1, none⟩ = some (.string ⟨#[98, 111, 111, 108]⟩) := by rw [blk_cell h.vars.types]; rfl
  have HR := hide h
  clear h
  cases hn : (tx ts k == [98, 111, 111, 108]) with
  | true =>
    have HN := hide hn
    clear hn
    go_enter Tryd.func71, Tryd.ntmps71
    go_wp2_with fail
    refine (yes_at [98, 111, 111, 108] (by decide) HR.out HN.out).mono ?_
    rintro e w1 ⟨rfl, hd1, hk1⟩
    have HD1 := hide hd1
    have HK1 := hide hk1
    clear hd1 hk1
    go_wp2_with fail
    go_ret
    exact Rds.ok (by simp only [kindP, HN.out, if_true]) HK1.out HD1.out rfl
  | false =>
    have HN := hide hn
    clear hn
    go_enter Tryd.func71, Tryd.ntmps71
    go_wp2_with fail
    refine (no_at [98, 111, 111, 108] HR.out HN.out).mono ?_
    rintro e w1 ⟨rfl, hd1, hk1⟩
    have HD1 := hide hd1
    have HK1 := hide hk1
    have d2 : w1.cell? ⟨2, 2, none⟩ = some (.string ⟨#[98, 121, 116, 101]⟩) := by rw [blk_cell hd1.vars.types]; rfl
    clear hd1 hk1
    go_wp2_with fail
    refine (need_at [98, 121, 116, 101] (by decide) HD1.out).mono ?_
    rintro e w2 h2
    rcases h2.cases with ⟨er2, p2, A2, hr2, rfl, hA2, hk2⟩ | ⟨a2, k2, v2, hr2, rfl, hv2, hd2, hk2⟩
    · have Hr2 := hide hr2
      have HA2 := hide hA2
      have HK2 := hide (HK1.out.trans hk2)
      clear h2 hr2 hA2 hk2
      go_wp2_with fail
      exact ⟨rfl, Rds.bad (by simp only [kindP, HN.out, Bool.false_eq_true, if_false, Hr2.out, Res.bind]) HK2.out HA2.out⟩
    · have Hr2 := hide hr2
      have HD2 := hide hd2
      have HK2 := hide (HK1.out.trans hk2)
      subst hv2
      clear h2 hr2 hd2 hk2
      go_wp2_with fail
      go_ret
      exact Rds.ok (by simp only [kindP, HN.out, Bool.false_eq_true, if_false, Hr2.out, Res.bind]) HK2.out HD2.out rfl
end Go.Proofs.YtiimnnancblbkaaDoor
