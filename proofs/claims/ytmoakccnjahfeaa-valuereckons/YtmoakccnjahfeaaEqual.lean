/-
  CONTRACTS of slices.Equal (at []bool) and of rungworklaw.sameBits: two rows of bits of one length are the same, or not; only draws are made.
-/
import Derived.Test.YtmoakccnjahfeaaEight
import Derived.Deep.QuietTactic
import Derived.BigQuiet
namespace Go.Proofs.Ytmoakccnjahfeaa
open Go.RowKit

theorem drewN_below (w : World) (n : Nat) : Below w.heap.size w (w.drewN n) := ⟨rfl, rfl, rfl, Nat.le_refl _, fun _ _ => rfl⟩

theorem list_eq_of (l m : List Bool) (h : l.length = m.length) (hs : ∀ t, t < l.length → l[t]?.getD false = m[t]?.getD false) : l = m := by
  apply List.ext_getElem h
  intro t h1 h2
  have := hs t h1
  simpa [h1, h2] using this

theorem same_step {l m : List Bool} {j : Nat} (h : ∀ t, t < j → l[t]?.getD false = m[t]?.getD false) (hj : l[j]?.getD false = m[j]?.getD false) : ∀ t, t < j + 1 → l[t]?.getD false = m[t]?.getD false := by
  intro t ht
  rcases Nat.lt_or_ge t j with h1 | h1
  · exact h t h1
  · rw [show t = j by omega]; exact hj
theorem unlike_of {l m : List Bool} {j : Nat} {x y : Bool} (hx : l[j]?.getD false = x) (hy : m[j]?.getD false = y) (hne : x ≠ y) : (l == m) = false := by
  rw [beq_eq_false_iff_ne]
  intro e
  apply hne
  rw [← hx, ← hy, e]

set_option maxHeartbeats 1600000 in
theorem equal_some (l m : List Bool) (hlm : l.length = m.length) (b off cap b' off' cap' : Nat) (w : World) (hl : l.length ≤ maxLen) (hc : ∀ i, i < l.length → w.cell? ⟨b, off + i, none⟩ = some (.bool (l[i]?.getD false))) (hd : ∀ i, i < m.length → w.cell? ⟨b', off' + i, none⟩ = some (.bool (m[i]?.getD false))) :
    Calls Try.prog 26 #[.slice (some ⟨b, off, none⟩) l.length cap, .slice (some ⟨b', off', none⟩) m.length cap'] w fun e w' => e = .returned (.bool (l == m)) ∧ ∃ n, w' = w.drewN n := by
  unfold maxLen at hl
  rw [← hlm]
  rw [← hlm] at hd
  generalize hN : l.length = N at *
  have HN : Hid (l.length = N) := hN
  have HM : Hid (m.length = N) := hlm.symm
  clear hN hlm
  go_enter Try.func26, Try.ntmps26
  go_wp2
  go_loopw [13] (fun c wr => ∃ j : Nat, j ≤ N ∧ c = .int .i64 j ∧ Hid (∀ t, t < j → l[t]?.getD false = m[t]?.getD false) ∧ ∃ n, wr = w.drewN n) (fun c _ => N - (intOf c).toNat)
  case atStart => exact ⟨0, Nat.zero_le _, rfl, (fun t ht => by omega : ∀ t, t < 0 → l[t]?.getD false = m[t]?.getD false), 0, rfl⟩
  case round =>
    obtain ⟨j, hj, rfl, hsame, nq, rfl⟩ := hrel
    by_cases hlt : j < N
    · have hcj := hc j hlt
      have hdj := hd j hlt
      have hj1 : (j : Int) < (N : Int) := by omega
      clear hc hd
      generalize hx : l[j]?.getD false = x at *
      generalize hy : m[j]?.getD false = y at *
      have HX : Hid (l[j]?.getD false = x) := hx
      have HY : Hid (m[j]?.getD false = y) := hy
      clear hx hy
      have hcell : (w.drewN nq).cell? ⟨b, off + j, none⟩ = some (.bool x) := hcj
      have hcell' : (w.drewN nq).cell? ⟨b', off' + j, none⟩ = some (.bool y) := hdj
      cases x <;> cases y
      all_goals
        go_wp2_with fail
        go_quiet (fail)
        go_wp2_with fail
      · refine ⟨⟨j + 1, by omega, by go_num, ?_, _, rfl⟩, by simp [intOf]; omega⟩
        exact same_step hsame.out (HX.out.trans HY.out.symm)
      · go_ret
        exact ⟨ret_bool (unlike_of HX.out HY.out (by decide)).symm, _, World.drewN_drewN ..⟩
      · go_ret
        exact ⟨ret_bool (unlike_of HX.out HY.out (by decide)).symm, _, World.drewN_drewN ..⟩
      · refine ⟨⟨j + 1, by omega, by go_num, ?_, _, rfl⟩, by simp [intOf]; omega⟩
        exact same_step hsame.out (HX.out.trans HY.out.symm)
    · have HJ : Hid (j = N) := (by omega : j = N)
      clear hc hd
      go_wp2
      go_ret
      refine ⟨ret_bool ?_, _, rfl⟩
      have hll : l = m := list_eq_of l m (HN.out.trans HM.out.symm) (by rw [HN.out, ← HJ.out]; exact hsame.out)
      rw [hll]; simp

set_option maxHeartbeats 1600000 in
theorem same_some (l m : List Bool) (hlm : l.length = m.length) (b off cap b' off' cap' : Nat) (w : World) (hl : l.length ≤ maxLen) (hc : ∀ i, i < l.length → w.cell? ⟨b, off + i, none⟩ = some (.bool (l[i]?.getD false))) (hd : ∀ i, i < m.length → w.cell? ⟨b', off' + i, none⟩ = some (.bool (m[i]?.getD false))) :
    Calls Try.prog 10 #[.slice (some ⟨b, off, none⟩) l.length cap, .slice (some ⟨b', off', none⟩) m.length cap'] w fun e w' => e = .returned (.bool (l == m)) ∧ ∃ n, w' = w.drewN n := by
  unfold maxLen at hl
  rw [← hlm]
  rw [← hlm] at hd
  generalize hN : l.length = N at *
  have HN : Hid (l.length = N) := hN
  have HM : Hid (m.length = N) := hlm.symm
  clear hN hlm
  go_enter Try.func10, Try.ntmps10
  go_wp2
  go_loopw [5] (fun c wr => ∃ j : Nat, j ≤ N ∧ c = .int .i64 j ∧ Hid (∀ t, t < j → l[t]?.getD false = m[t]?.getD false) ∧ ∃ n, wr = w.drewN n) (fun c _ => N - (intOf c).toNat)
  case atStart => exact ⟨0, Nat.zero_le _, rfl, (fun t ht => by omega : ∀ t, t < 0 → l[t]?.getD false = m[t]?.getD false), 0, rfl⟩
  case round =>
    obtain ⟨j, hj, rfl, hsame, nq, rfl⟩ := hrel
    by_cases hlt : j < N
    · have hcj := hc j hlt
      have hdj := hd j hlt
      have hj1 : (j : Int) < (N : Int) := by omega
      clear hc hd
      generalize hx : l[j]?.getD false = x at *
      generalize hy : m[j]?.getD false = y at *
      have HX : Hid (l[j]?.getD false = x) := hx
      have HY : Hid (m[j]?.getD false = y) := hy
      clear hx hy
      have hcell : (w.drewN nq).cell? ⟨b, off + j, none⟩ = some (.bool x) := hcj
      have hcell' : (w.drewN nq).cell? ⟨b', off' + j, none⟩ = some (.bool y) := hdj
      cases x <;> cases y
      all_goals
        go_wp2_with fail
        go_quiet (fail)
        go_wp2_with fail
      · refine ⟨⟨j + 1, by omega, by go_num, ?_, _, rfl⟩, by simp [intOf]; omega⟩
        exact same_step hsame.out (HX.out.trans HY.out.symm)
      · go_ret
        exact ⟨ret_bool (unlike_of HX.out HY.out (by decide)).symm, _, World.drewN_drewN ..⟩
      · go_ret
        exact ⟨ret_bool (unlike_of HX.out HY.out (by decide)).symm, _, World.drewN_drewN ..⟩
      · refine ⟨⟨j + 1, by omega, by go_num, ?_, _, rfl⟩, by simp [intOf]; omega⟩
        exact same_step hsame.out (HX.out.trans HY.out.symm)
    · have HJ : Hid (j = N) := (by omega : j = N)
      clear hc hd
      go_wp2
      go_ret
      refine ⟨ret_bool ?_, _, rfl⟩
      have hll : l = m := list_eq_of l m (HN.out.trans HM.out.symm) (by rw [HN.out, ← HJ.out]; exact hsame.out)
      rw [hll]; simp
end Go.Proofs.Ytmoakccnjahfeaa
