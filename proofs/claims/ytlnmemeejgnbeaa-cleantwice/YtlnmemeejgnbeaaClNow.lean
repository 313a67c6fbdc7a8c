/-
  CONTRACT of now.
-/
import Derived.Test.YtlnmemeejgnbeaaClL
set_option linter.unusedSimpArgs false
set_option linter.unusedVariables false
namespace Go.Proofs.Ytlnmemeejgnbeaa
open Go.RowKit

theorem ints_cellN {w : World} {b : Nat} {l : List Int} {t : TypeId} {z : Nat × Nat} (h : w.heap[b]? = some (.cells (intsC l).toArray t z)) {i : Nat} (hi : i < l.length) : w.cell? ⟨b, i, none⟩ = some (.int .i64 (outAt l i)) := by
  rw [blk_cell h]; simp [intsC, outAt, hi]
theorem kAt_n (l : List Int) (i : Nat) : kAt l (i : Int) = outAt l i := by simp [kAt]
def Tri (v : Int) : Prop := 0 ≤ v ∧ v ≤ 2
abbrev NowIs (op a b nx : Int) (R : Nat) (is : List Int) (w : World) (r : Int) : Prop :=
  Calls Try.prog 32 #[.agg #[.int .i64 op, .int .i64 a, .int .i64 b, .int .i64 nx], .slice (some ⟨R, 0, none⟩) is.length is.length] w fun e w' => e = .returned (.int .i64 r) ∧ Below w.heap.size w w'

set_option maxRecDepth 100000 in
set_option maxHeartbeats 1600000 in
theorem now_1 (a b nx : Int) (R : Nat) (is : List Int) (w : World) (hR : w.heap[R]? = some (.cells (intsC is).toArray 3 (0, 0)))  : NowIs 1 a b nx R is w 0 := by
  have HB := hide (below_alloc w (.cells #[.int .i64 1, .int .i64 a, .int .i64 b, .int .i64 nx] 26))
  have HR1 := hide (Below.blk HB.out hR)
  have hl := blk_lt hR
  clear hR
  go_enter Try.func32, Try.ntmps32
  go_wp2_with fail
  go_ret
  exact ⟨rfl, HB.out⟩

set_option maxRecDepth 100000 in
set_option maxHeartbeats 1600000 in
theorem now_2 (a b nx : Int) (R : Nat) (is : List Int) (w : World) (hR : w.heap[R]? = some (.cells (intsC is).toArray 3 (0, 0)))  : NowIs 2 a b nx R is w 1 := by
  have HB := hide (below_alloc w (.cells #[.int .i64 2, .int .i64 a, .int .i64 b, .int .i64 nx] 26))
  have HR1 := hide (Below.blk HB.out hR)
  have hl := blk_lt hR
  clear hR
  go_enter Try.func32, Try.ntmps32
  go_wp2_with fail
  go_ret
  exact ⟨rfl, HB.out⟩

set_option maxRecDepth 100000 in
set_option maxHeartbeats 1600000 in
theorem now_3 (a b nx : Int) (R : Nat) (is : List Int) (w : World) (hR : w.heap[R]? = some (.cells (intsC is).toArray 3 (0, 0)))  : NowIs 3 a b nx R is w 2 := by
  have HB := hide (below_alloc w (.cells #[.int .i64 3, .int .i64 a, .int .i64 b, .int .i64 nx] 26))
  have HR1 := hide (Below.blk HB.out hR)
  have hl := blk_lt hR
  clear hR
  go_enter Try.func32, Try.ntmps32
  go_wp2_with fail
  go_ret
  exact ⟨rfl, HB.out⟩

set_option maxRecDepth 100000 in
set_option maxHeartbeats 1600000 in
theorem now_4t (a b : Int) (i : Nat) (R : Nat) (is : List Int) (w : World) (hR : w.heap[R]? = some (.cells (intsC is).toArray 3 (0, 0))) (hi : i < is.length) (hv : outAt is i = a) : NowIs 4 a b i R is w a := by
  have HB := hide (below_alloc w (.cells #[.int .i64 4, .int .i64 a, .int .i64 b, .int .i64 i] 26))
  have HR1 := hide (Below.blk HB.out hR)
  have ci := ints_cellN HR1.out hi
  have bi : (i : Int) < (is.length : Int) := by omega
  have hl := blk_lt hR
  clear hR
  have haa : (a == a) = true := by simp
  rw [hv] at ci
  clear hv
  go_enter Try.func32, Try.ntmps32
  go_wp2_with fail
  go_region
  go_wp2_with fail
  go_ret
  exact ⟨rfl, HB.out.drew⟩

set_option maxRecDepth 100000 in
set_option maxHeartbeats 1600000 in
theorem now_4f (a b : Int) (i : Nat) (R : Nat) (is : List Int) (w : World) (hR : w.heap[R]? = some (.cells (intsC is).toArray 3 (0, 0))) (hi : i < is.length) (hv : (outAt is i == a) = false) : NowIs 4 a b i R is w 2 := by
  have HB := hide (below_alloc w (.cells #[.int .i64 4, .int .i64 a, .int .i64 b, .int .i64 i] 26))
  have HR1 := hide (Below.blk HB.out hR)
  have ci := ints_cellN HR1.out hi
  have bi : (i : Int) < (is.length : Int) := by omega
  have hl := blk_lt hR
  clear hR
  generalize outAt is i = v at *
  go_enter Try.func32, Try.ntmps32
  go_wp2_with fail
  go_region
  go_wp2_with fail
  go_ret
  exact ⟨rfl, HB.out.drew⟩

set_option maxRecDepth 100000 in
set_option maxHeartbeats 1600000 in
theorem now_8 (b nx : Int) (i : Nat) (R : Nat) (is : List Int) (w : World) (hR : w.heap[R]? = some (.cells (intsC is).toArray 3 (0, 0))) (hi : i < is.length) (ti : Tri (outAt is i)) : NowIs 8 i b nx R is w (turnK (outAt is i)) := by
  have HB := hide (below_alloc w (.cells #[.int .i64 8, .int .i64 i, .int .i64 b, .int .i64 nx] 26))
  have HR1 := hide (Below.blk HB.out hR)
  have ci := ints_cellN HR1.out hi
  have bi : (i : Int) < (is.length : Int) := by omega
  have hl := blk_lt hR
  clear hR
  have HT := hide fun W => turned_at (outAt is i) ti W
  clear ti
  generalize turnK (outAt is i) = r at *
  generalize outAt is i = v at *
  go_enter Try.func32, Try.ntmps32
  go_wp2_with fail
  refine (HT.out _).mono ?_
  rintro e w' ⟨rfl, rfl⟩
  go_wp2_with fail
  go_ret
  exact ⟨rfl, HB.out⟩

set_option maxRecDepth 100000 in
set_option maxHeartbeats 1600000 in
theorem now_5 (nx : Int) (i j : Nat) (R : Nat) (is : List Int) (w : World) (hR : w.heap[R]? = some (.cells (intsC is).toArray 3 (0, 0))) (hi : i < is.length) (ti : Tri (outAt is i)) (hj : j < is.length) (tj : Tri (outAt is j)) : NowIs 5 i j nx R is w (leastK (outAt is i) (outAt is j)) := by
  have HB := hide (below_alloc w (.cells #[.int .i64 5, .int .i64 i, .int .i64 j, .int .i64 nx] 26))
  have HR1 := hide (Below.blk HB.out hR)
  have ci := ints_cellN HR1.out hi
  have bi : (i : Int) < (is.length : Int) := by omega
  have cj := ints_cellN HR1.out hj
  have bj : (j : Int) < (is.length : Int) := by omega
  have hl := blk_lt hR
  clear hR
  have HL := hide fun W => least_at (outAt is i) (outAt is j) ti tj W
  clear ti tj
  generalize leastK (outAt is i) (outAt is j) = r at *
  generalize outAt is i = v at *
  generalize outAt is j = u at *
  go_enter Try.func32, Try.ntmps32
  go_wp2_with fail
  go_quiet ((go_at_call 40; exact Calls.quiet_of_same (HL.out _)))
  go_wp2_with fail
  go_ret
  exact ⟨rfl, Below.drewNs HB.out _⟩

theorem turn_tri {v : Int} (h : Tri v) : Tri (turnK v) := by unfold Tri turnK at *; split <;> omega
theorem least_tri {a b : Int} (h : Tri a) (k : Tri b) : Tri (leastK a b) := by
  unfold Tri leastK at *
  split
  · omega
  split <;> omega
set_option maxRecDepth 100000 in
set_option maxHeartbeats 1600000 in
theorem now_6 (nx : Int) (i j : Nat) (R : Nat) (is : List Int) (w : World) (hR : w.heap[R]? = some (.cells (intsC is).toArray 3 (0, 0))) (hi : i < is.length) (ti : Tri (outAt is i)) (hj : j < is.length) (tj : Tri (outAt is j)) : NowIs 6 i j nx R is w (turnK (leastK (turnK (outAt is i)) (turnK (outAt is j)))) := by
  have HB := hide (below_alloc w (.cells #[.int .i64 6, .int .i64 i, .int .i64 j, .int .i64 nx] 26))
  have HR1 := hide (Below.blk HB.out hR)
  have ci := ints_cellN HR1.out hi
  have bi : (i : Int) < (is.length : Int) := by omega
  have cj := ints_cellN HR1.out hj
  have bj : (j : Int) < (is.length : Int) := by omega
  have hl := blk_lt hR
  clear hR
  have HT1 := hide fun W => turned_at (outAt is i) ti W
  have HT2 := hide fun W => turned_at (outAt is j) tj W
  have HL := hide fun W => least_at (turnK (outAt is i)) (turnK (outAt is j)) (turn_tri ti) (turn_tri tj) W
  have HT3 := hide fun W => turned_at (leastK (turnK (outAt is i)) (turnK (outAt is j))) (least_tri (turn_tri ti) (turn_tri tj)) W
  clear ti tj
  generalize turnK (leastK (turnK (outAt is i)) (turnK (outAt is j))) = r at *
  generalize leastK (turnK (outAt is i)) (turnK (outAt is j)) = q at *
  generalize turnK (outAt is i) = v' at *
  generalize turnK (outAt is j) = u' at *
  generalize outAt is i = v at *
  generalize outAt is j = u at *
  go_enter Try.func32, Try.ntmps32
  go_wp2_with fail
  go_quiet (first | (go_at_call 39; exact Calls.quiet_of_same (HT1.out _)) | (go_at_call 39; exact Calls.quiet_of_same (HT2.out _)) | (go_at_call 39; exact Calls.quiet_of_same (HT3.out _)) | (go_at_call 40; exact Calls.quiet_of_same (HL.out _)))
  go_wp2_with fail
  go_ret
  exact ⟨rfl, Below.drewNs HB.out _⟩

set_option maxRecDepth 100000 in
set_option maxHeartbeats 1600000 in
theorem now_7a (nx : Int) (i j : Nat) (R : Nat) (is : List Int) (w : World) (hR : w.heap[R]? = some (.cells (intsC is).toArray 3 (0, 0))) (hi : i < is.length) (hj : j < is.length) (vi : outAt is i = 2) : NowIs 7 i j nx R is w 2 := by
  have HB := hide (below_alloc w (.cells #[.int .i64 7, .int .i64 i, .int .i64 j, .int .i64 nx] 26))
  have HR1 := hide (Below.blk HB.out hR)
  have ci := ints_cellN HR1.out hi
  have bi : (i : Int) < (is.length : Int) := by omega
  have cj := ints_cellN HR1.out hj
  have bj : (j : Int) < (is.length : Int) := by omega
  have hl := blk_lt hR
  clear hR
  rw [vi] at ci
  clear vi
  generalize outAt is j = u at *
  go_enter Try.func32, Try.ntmps32
  go_wp2_with fail
  go_ret
  exact ⟨rfl, HB.out⟩

set_option maxRecDepth 100000 in
set_option maxHeartbeats 1600000 in
theorem now_7b (nx : Int) (i j : Nat) (R : Nat) (is : List Int) (w : World) (hR : w.heap[R]? = some (.cells (intsC is).toArray 3 (0, 0))) (hi : i < is.length) (hj : j < is.length) (vi : (outAt is i != 2) = true) (vj : outAt is j = 2) : NowIs 7 i j nx R is w 2 := by
  have HB := hide (below_alloc w (.cells #[.int .i64 7, .int .i64 i, .int .i64 j, .int .i64 nx] 26))
  have HR1 := hide (Below.blk HB.out hR)
  have ci := ints_cellN HR1.out hi
  have bi : (i : Int) < (is.length : Int) := by omega
  have cj := ints_cellN HR1.out hj
  have bj : (j : Int) < (is.length : Int) := by omega
  have hl := blk_lt hR
  clear hR
  rw [vj] at cj
  clear vj
  generalize outAt is i = u at *
  go_enter Try.func32, Try.ntmps32
  go_wp2_with fail
  go_ret
  exact ⟨rfl, HB.out⟩

set_option maxRecDepth 100000 in
set_option maxHeartbeats 1600000 in
theorem now_7_00 (nx : Int) (i j : Nat) (R : Nat) (is : List Int) (w : World) (hR : w.heap[R]? = some (.cells (intsC is).toArray 3 (0, 0))) (hi : i < is.length) (hj : j < is.length) (vi : outAt is i = 0) (vj : outAt is j = 0) : NowIs 7 i j nx R is w 0 := by
  have HB := hide (below_alloc w (.cells #[.int .i64 7, .int .i64 i, .int .i64 j, .int .i64 nx] 26))
  have HR1 := hide (Below.blk HB.out hR)
  have ci := ints_cellN HR1.out hi
  have bi : (i : Int) < (is.length : Int) := by omega
  have cj := ints_cellN HR1.out hj
  have bj : (j : Int) < (is.length : Int) := by omega
  have hl := blk_lt hR
  clear hR
  rw [vi] at ci
  rw [vj] at cj
  clear vi vj
  go_enter Try.func32, Try.ntmps32
  go_wp2_with fail
  go_region
  go_wp2_with fail
  go_ret
  exact ⟨rfl, HB.out.drew⟩

set_option maxRecDepth 100000 in
set_option maxHeartbeats 1600000 in
theorem now_7_01 (nx : Int) (i j : Nat) (R : Nat) (is : List Int) (w : World) (hR : w.heap[R]? = some (.cells (intsC is).toArray 3 (0, 0))) (hi : i < is.length) (hj : j < is.length) (vi : outAt is i = 0) (vj : outAt is j = 1) : NowIs 7 i j nx R is w 1 := by
  have HB := hide (below_alloc w (.cells #[.int .i64 7, .int .i64 i, .int .i64 j, .int .i64 nx] 26))
  have HR1 := hide (Below.blk HB.out hR)
  have ci := ints_cellN HR1.out hi
  have bi : (i : Int) < (is.length : Int) := by omega
  have cj := ints_cellN HR1.out hj
  have bj : (j : Int) < (is.length : Int) := by omega
  have hl := blk_lt hR
  clear hR
  rw [vi] at ci
  rw [vj] at cj
  clear vi vj
  go_enter Try.func32, Try.ntmps32
  go_wp2_with fail
  go_region
  go_wp2_with fail
  go_ret
  exact ⟨rfl, HB.out.drew⟩

set_option maxRecDepth 100000 in
set_option maxHeartbeats 1600000 in
theorem now_7_10 (nx : Int) (i j : Nat) (R : Nat) (is : List Int) (w : World) (hR : w.heap[R]? = some (.cells (intsC is).toArray 3 (0, 0))) (hi : i < is.length) (hj : j < is.length) (vi : outAt is i = 1) (vj : outAt is j = 0) : NowIs 7 i j nx R is w 1 := by
  have HB := hide (below_alloc w (.cells #[.int .i64 7, .int .i64 i, .int .i64 j, .int .i64 nx] 26))
  have HR1 := hide (Below.blk HB.out hR)
  have ci := ints_cellN HR1.out hi
  have bi : (i : Int) < (is.length : Int) := by omega
  have cj := ints_cellN HR1.out hj
  have bj : (j : Int) < (is.length : Int) := by omega
  have hl := blk_lt hR
  clear hR
  rw [vi] at ci
  rw [vj] at cj
  clear vi vj
  go_enter Try.func32, Try.ntmps32
  go_wp2_with fail
  go_region
  go_wp2_with fail
  go_ret
  exact ⟨rfl, HB.out.drew⟩

set_option maxRecDepth 100000 in
set_option maxHeartbeats 1600000 in
theorem now_7_11 (nx : Int) (i j : Nat) (R : Nat) (is : List Int) (w : World) (hR : w.heap[R]? = some (.cells (intsC is).toArray 3 (0, 0))) (hi : i < is.length) (hj : j < is.length) (vi : outAt is i = 1) (vj : outAt is j = 1) : NowIs 7 i j nx R is w 0 := by
  have HB := hide (below_alloc w (.cells #[.int .i64 7, .int .i64 i, .int .i64 j, .int .i64 nx] 26))
  have HR1 := hide (Below.blk HB.out hR)
  have ci := ints_cellN HR1.out hi
  have bi : (i : Int) < (is.length : Int) := by omega
  have cj := ints_cellN HR1.out hj
  have bj : (j : Int) < (is.length : Int) := by omega
  have hl := blk_lt hR
  clear hR
  rw [vi] at ci
  rw [vj] at cj
  clear vi vj
  go_enter Try.func32, Try.ntmps32
  go_wp2_with fail
  go_region
  go_wp2_with fail
  go_ret
  exact ⟨rfl, HB.out.drew⟩

theorem now_at (x : Nd) (given : Int) (n k : Nat) (R : Nat) (is : List Int) (w : World) (hR : w.heap[R]? = some (.cells (intsC is).toArray 3 (0, 0))) (hx : rightN given n k x = true) (hk : k ≤ is.length) (hn : n ≤ is.length) (ht : ∀ i, i < k → Tri (outAt is i)) :
    Calls Try.prog 32 #[.agg #[.int .i64 x.op, .int .i64 x.a, .int .i64 x.b, .int .i64 x.next], .slice (some ⟨R, 0, none⟩) is.length is.length] w fun e w' => e = .returned (.int .i64 (nowK x is)) ∧ Below w.heap.size w w' := by
  obtain ⟨op, a, b, nx⟩ := x
  unfold rightN at hx
  unfold nowK
  simp only at hx ⊢
  have two : ∀ {a b : Int}, (inR a k && inR b k) = true → ∃ i j : Nat, a = i ∧ b = j ∧ i < k ∧ j < k := by
    intro a b h
    simp only [Bool.and_eq_true, inR_iff] at h
    obtain ⟨i, rfl⟩ := Int.eq_ofNat_of_zero_le h.1.1
    obtain ⟨j, rfl⟩ := Int.eq_ofNat_of_zero_le h.2.1
    exact ⟨i, j, rfl, rfl, by omega, by omega⟩
  by_cases c1 : op = 1
  · subst c1; exact now_1 a b nx R is w hR
  rw [if_neg c1] at hx ⊢
  by_cases c2 : op = 2
  · subst c2; exact now_2 a b nx R is w hR
  rw [if_neg c2] at hx ⊢
  by_cases c3 : op = 3
  · subst c3; exact now_3 a b nx R is w hR
  rw [if_neg c3] at hx
  by_cases c4 : op = 4
  · subst c4
    rw [if_pos rfl] at hx ⊢
    simp only [Bool.and_eq_true, inR_iff] at hx
    obtain ⟨i, rfl⟩ := Int.eq_ofNat_of_zero_le hx.2.1
    rw [kAt_n]
    by_cases hv : outAt is i = a
    · rw [if_pos hv]; exact now_4t a b i R is w hR (by omega) hv
    · rw [if_neg hv]; exact now_4f a b i R is w hR (by omega) (by simp [hv])
  rw [if_neg c4] at hx ⊢
  by_cases c8 : op = 8
  · subst c8
    have hq := inR_iff.1 (show inR a k = true from hx)
    obtain ⟨i, rfl⟩ := Int.eq_ofNat_of_zero_le hq.1
    rw [kAt_n]
    exact now_8 b nx i R is w hR (by omega) (ht i (by omega))
  rw [if_neg c8]
  by_cases c5 : op = 5
  · subst c5
    obtain ⟨i, j, rfl, rfl, hi, hj⟩ := two (show (inR a k && inR b k) = true from hx)
    simp only [kAt_n]
    exact now_5 nx i j R is w hR (by omega) (ht i hi) (by omega) (ht j hj)
  rw [if_neg c5] at hx ⊢
  by_cases c6 : op = 6
  · subst c6
    obtain ⟨i, j, rfl, rfl, hi, hj⟩ := two (show (inR a k && inR b k) = true from hx)
    simp only [kAt_n]
    exact now_6 nx i j R is w hR (by omega) (ht i hi) (by omega) (ht j hj)
  rw [if_neg c6] at hx ⊢
  by_cases c7 : op = 7
  · subst c7
    obtain ⟨i, j, rfl, rfl, hi, hj⟩ := two (show (inR a k && inR b k) = true from hx)
    rw [if_pos rfl]
    simp only [kAt_n]
    unfold xorK
    have ti := ht i hi
    have tj := ht j hj
    by_cases d1 : outAt is i = 2
    · rw [if_pos d1]; exact now_7a nx i j R is w hR (by omega) (by omega) d1
    rw [if_neg d1]
    by_cases d2 : outAt is j = 2
    · rw [if_pos d2]; exact now_7b nx i j R is w hR (by omega) (by omega) (by simp [d1]) d2
    rw [if_neg d2]
    unfold Tri at ti tj
    have e1 : outAt is i = 0 ∨ outAt is i = 1 := by omega
    have e2 : outAt is j = 0 ∨ outAt is j = 1 := by omega
    rcases e1 with e1 | e1 <;> rcases e2 with e2 | e2 <;> rw [e1, e2]
    · exact now_7_00 nx i j R is w hR (by omega) (by omega) e1 e2
    · exact now_7_01 nx i j R is w hR (by omega) (by omega) e1 e2
    · exact now_7_10 nx i j R is w hR (by omega) (by omega) e1 e2
    · exact now_7_11 nx i j R is w hR (by omega) (by omega) e1 e2
  · rw [if_neg c7, if_neg c8] at hx
    cases hx
end Go.Proofs.Ytlnmemeejgnbeaa
