/-
  CONTRACTS of isName, wayOf, level: which words are which.
-/
import Derived.Test.YtgncgbngjdcpgaaGreatDoorTook
namespace Go.Proofs.YtgncgbngjdcpgaaGreatDoor
open Go.RowKit

theorem strs_size (l : List (List UInt8)) : (strs l).size = l.length := by simp [strs]
theorem strs_get (l : List (List UInt8)) (j : Nat) (h : j < l.length) : (strs l)[j]? = some (.string ⟨(l[j]).toArray⟩) := by simp [strs, h]

theorem index_kept (j : Nat) (h : j < 20) (w : World) : (Instr.index 157 (.agg (strs keptL)) (.int .i64 j)).run Tryz.prog w = .ok (.string ⟨((keptL[j]?).getD []).toArray⟩) w := by
  have hl : keptL.length = 20 := rfl
  have e := strs_get keptL j (by omega)
  simp [Instr.index, go_sem, part, e, hl, h]
theorem kept_of (l : List (List UInt8)) (s : List UInt8) (n : Nat) (hn : l.length = n) (h : ∀ t, t < n → (s == (l[t]?).getD []) = false) : l.contains s = false := by
  cases hc : l.contains s with
  | false => rfl
  | true =>
    exfalso
    rw [List.contains_iff_mem] at hc
    obtain ⟨t, ht, e⟩ := List.getElem_of_mem hc
    have := h t (by omega)
    rw [List.getElem?_eq_getElem ht, e] at this
    simp at this
theorem kept_yes (l : List (List UInt8)) (s : List UInt8) (t : Nat) (ht : t < l.length) (h : (s == (l[t]?).getD []) = true) : l.contains s = true := by
  rw [List.contains_iff_mem]
  rw [beq_iff_eq, List.getElem?_eq_getElem ht] at h
  rw [h]
  exact List.getElem_mem ht
theorem none_step {s : List UInt8} {l : List (List UInt8)} {j : Nat} (h : ∀ t, t < j → (s == (l[t]?).getD []) = false) (hj : (s == (l[j]?).getD []) = false) : ∀ t, t < j + 1 → (s == (l[t]?).getD []) = false := by
  intro t ht
  rcases Nat.lt_or_ge t j with h1 | h1
  · exact h t h1
  · rw [show t = j by omega]; exact hj

set_option maxRecDepth 100000 in
set_option maxHeartbeats 3200000 in
theorem isName_at (a : Int) (s : ByteArray) (p : Int) (w : World) (hv : Vars w) :
    Calls Tryz.prog 49 #[.agg #[.int .i64 a, .string s, .int .i64 p]] w fun e w' => e = .returned (.bool (a == 1 && !keptL.contains s.toList)) ∧ Below w.heap.size w w' := by
  generalize hr : (a == 1 && !keptL.contains s.toList) = r
  have HR : Hid ((a == 1 && !keptL.contains s.toList) = r) := hr
  clear hr
  have HG := hide fun o => Below.blk (below_alloc w o) hv.kept
  have HI := hide index_kept
  have HL := hide (show keptL.length = 20 from rfl)
  clear hv
  have HB := hide (below_alloc w)
  have HZ := hide (show (Tryz.prog.info? 157).map (·.size) = some (strs keptL).size by kernel_rfl)
  generalize strs keptL = KA at *
  generalize keptL = kl at *
  have HU := hide (show (Tryz.prog.info? 157).map (·.size) = some KA.size from HZ.out)
  go_enter Tryz.func49, Tryz.ntmps49
  go_wp2_with (refine wpList_load_row rfl 157 (.global 2) rfl 2 rfl _ _ _ _ (HG.out _) Tryz.underlying157 rfl HU.out ?_)
  go_loop [4, 6] (fun x i => ∃ j : Nat, j ≤ 20 ∧ i = .int .i64 j ∧ Hid (∀ t, t < j → (s.toList == (kl[t]?).getD []) = false)) (fun _ i => 20 - (intOf i).toNat)
  case atStart => exact ⟨0, Nat.zero_le _, rfl, (fun t ht => by omega : ∀ t, t < 0 → (s.toList == (kl[t]?).getD []) = false)⟩
  case round =>
    obtain ⟨j, hj, rfl, hsame⟩ := hrel
    by_cases hlt : j < 20
    · have hix := HI.out j hlt
      have hj1 : (j : Int) < 20 := by omega
      generalize hx : (kl[j]?).getD [] = x at *
      have HX : Hid ((kl[j]?).getD [] = x) := hx
      clear hx
      cases hc : (s.toList == x) with
      | true =>
        go_wp2
        go_ret
        have HC := hide hc
        refine ⟨ret_bool ?_, HB.out _⟩
        rw [← HR.out, kept_yes kl s.toList j (by rw [HL.out]; exact hlt) (by rw [HX.out]; exact HC.out), Bool.not_true, Bool.and_false]
      | false =>
        go_wp2
        refine ⟨⟨j + 1, by omega, by go_num, none_step hsame.out (by rw [HX.out]; exact hc)⟩, by simp [intOf]; omega⟩
    · have HJ : Hid (j = 20) := (by omega : j = 20)
      go_wp2
      go_ret
      refine ⟨ret_bool ?_, HB.out _⟩
      rw [← HR.out, kept_of kl s.toList 20 HL.out (by rw [← HJ.out]; exact hsame.out), Bool.not_false, Bool.and_true]

def waysL : List (List UInt8) := [[], [105, 110], [111, 117, 116], [118, 97, 114]]
theorem index_ways (j : Nat) (h : j < 4) (w : World) : (Instr.index 165 (.agg (strs waysL)) (.int .i64 j)).run Tryz.prog w = .ok (.string ⟨((waysL[j]?).getD []).toArray⟩) w := by
  have hl : waysL.length = 4 := rfl
  have e := strs_get waysL j (by omega)
  simp [Instr.index, go_sem, part, e, hl, h]
theorem way_yes (s : List UInt8) (j : Nat) (h : j < 4) (he : ((waysL[j]?).getD [] == s) = true) : wayN s = j := by
  rw [beq_iff_eq] at he
  subst he
  match j, h with
  | 0, _ => rfl
  | 1, _ => rfl
  | 2, _ => rfl
  | 3, _ => rfl
theorem way_no (s : List UInt8) (h : ∀ t, t < 4 → ((waysL[t]?).getD [] == s) = false) : wayN s = 0 := by
  have h1 := h 1 (by decide)
  have h2 := h 2 (by decide)
  have h3 := h 3 (by decide)
  simp only [waysL, List.getElem?_cons_succ, List.getElem?_cons_zero, Option.getD_some] at h1 h2 h3
  rw [beq_eq_false_iff_ne] at h1 h2 h3
  simp [wayN, Ne.symm h1, Ne.symm h2, Ne.symm h3]
theorem none_step' {s : List UInt8} {l : List (List UInt8)} {j : Nat} (h : ∀ t, t < j → ((l[t]?).getD [] == s) = false) (hj : ((l[j]?).getD [] == s) = false) : ∀ t, t < j + 1 → ((l[t]?).getD [] == s) = false := by
  intro t ht
  rcases Nat.lt_or_ge t j with h1 | h1
  · exact h t h1
  · rw [show t = j by omega]; exact hj

set_option maxRecDepth 100000 in
set_option maxHeartbeats 3200000 in
theorem wayOf_at (s : ByteArray) (w : World) (hv : Vars w) :
    Calls Tryz.prog 97 #[.string s] w fun e w' => e = .returned (.int .i64 (wayN s.toList)) ∧ w' = w := by
  generalize hr : wayN s.toList = r
  have HR : Hid (wayN s.toList = r) := hr
  have HG : Hid (w.heap[5]? = some (.cells (strs waysL) (vt w 5) (vz w 5))) := hv.ways
  have HI := hide index_ways
  have HY := hide way_yes
  have HN := hide way_no
  have HZ := hide (show (Tryz.prog.info? 165).map (·.size) = some (strs waysL).size by kernel_rfl)
  clear hv hr
  generalize strs waysL = KA at *
  generalize waysL = kl at *
  go_enter Tryz.func97, Tryz.ntmps97
  go_wp2_with (refine wpList_load_row rfl 165 (.global 5) rfl 5 rfl _ _ _ _ HG.out Tryz.underlying165 rfl HZ.out ?_)
  go_loop [3, 4, 6] (fun _ _ i => ∃ j : Nat, j ≤ 4 ∧ i = .int .i64 j ∧ Hid (∀ t, t < j → ((kl[t]?).getD [] == s.toList) = false)) (fun _ _ i => 4 - (intOf i).toNat)
  case atStart => exact ⟨0, Nat.zero_le _, rfl, (fun t ht => by omega : ∀ t, t < 0 → ((kl[t]?).getD [] == s.toList) = false)⟩
  case round =>
    obtain ⟨j, hj, rfl, hsame⟩ := hrel
    by_cases hlt : j < 4
    · have hix := HI.out j hlt
      have hj1 : (j : Int) < 4 := by omega
      generalize hx : (kl[j]?).getD [] = x at *
      have HX : Hid ((kl[j]?).getD [] = x) := hx
      clear hx
      cases hc : (x == s.toList) with
      | true =>
        go_wp2
        go_ret
        refine ⟨ret_int ?_, rfl⟩
        rw [← HR.out, HY.out s.toList j hlt (by rw [HX.out]; exact hc)]
      | false =>
        go_wp2
        refine ⟨⟨j + 1, by omega, by go_num, none_step' hsame.out (by rw [HX.out]; exact hc)⟩, by simp [intOf]; omega⟩
    · have HJ : Hid (j = 4) := (by omega : j = 4)
      go_wp2
      go_ret
      refine ⟨ret_int ?_, rfl⟩
      rw [← HR.out, HN.out s.toList (by rw [← HJ.out]; exact hsame.out)]; rfl

set_option maxRecDepth 100000 in
set_option maxHeartbeats 3200000 in
theorem level_at (s : ByteArray) (w : World) :
    Calls Tryz.prog 169 #[.string s] w fun e w' => e = .returned (.int .i64 (levelN s.toList)) ∧ w' = w := by
  go_enter Tryz.func169, Tryz.ntmps169
  go_wp2
  all_goals (go_ret; refine ⟨ret_int ?_, rfl⟩; simp_all [levelN])


end Go.Proofs.YtgncgbngjdcpgaaGreatDoor
