/-
  PLAIN: what numbers of types are; CONTRACTS of device.values, wide, bits.
-/
import Derived.Test.YtndpehjbepfbkaaGreatDoorDVl
set_option linter.unusedSimpArgs false
set_option linter.unusedVariables false
namespace Go.Proofs.YtndpehjbepfbkaaGreatDoor
open Go.RowKit

/-- the first n types are such as values have -/
def kindsOk (ks : List Int) : Nat → Bool
  | 0 => true
  | n + 1 => kindsOk ks n && (wid (outAt ks n) != 0)
/-- the bits of the first n types -/
def wideTo (ks : List Int) : Nat → Nat
  | 0 => 0
  | n + 1 => wideTo ks n + wid (outAt ks n)
/-- the bits of what is given, of the first n types -/
def givenTo (ks gv : List Int) : Nat → List Bool
  | 0 => []
  | n + 1 => givenTo ks gv n ++ bitsTo (outAt gv n) (wid (outAt ks n))
theorem givenTo_len (ks gv : List Int) (n : Nat) : (givenTo ks gv n).length = wideTo ks n := by
  induction n with
  | zero => rfl
  | succ n ih => simp only [givenTo, wideTo, List.length_append, ih, bitsTo_len]
theorem wideTo_le (ks : List Int) (n : Nat) : wideTo ks n ≤ 8 * n := by
  induction n with
  | zero => exact Nat.le_refl _
  | succ n ih => have := wid_le (outAt ks n); simp only [wideTo]; omega
theorem wideTo_mono (ks : List Int) {n m : Nat} (h : n ≤ m) : wideTo ks n ≤ wideTo ks m := by
  induction m with
  | zero => have : n = 0 := by omega
            subst this; exact Nat.le_refl _
  | succ m ih =>
    by_cases e : n = m + 1
    · subst e; exact Nat.le_refl _
    · have := ih (by omega); simp only [wideTo]; omega
theorem kindsOk_no {ks : List Int} {n m : Nat} (h : kindsOk ks n = false) (hm : n ≤ m) : kindsOk ks m = false := by
  induction m with
  | zero => have : n = 0 := by omega
            subst this; exact h
  | succ m ih =>
    by_cases e : n = m + 1
    · subst e; exact h
    · simp only [kindsOk, ih (by omega), Bool.false_and]
/-- the number of the i-th type that comes out -/
def numAt (ks : List Int) (bs : List Bool) (i : Nat) : Int := (ofTo (bs.drop (wideTo ks i)) (wid (outAt ks i)) : Nat)
def nums (ks : List Int) (bs : List Bool) : List Int := (List.range ks.length).map (numAt ks bs)
theorem nums_len (ks : List Int) (bs : List Bool) : (nums ks bs).length = ks.length := by simp [nums]
/-- the first q of n numbers, and nothing behind -/
def rowN (f : Nat → Int) (n q : Nat) : List Int := (List.range n).map fun i => if i < q then f i else 0
theorem rowN_len (f : Nat → Int) (n k : Nat) : (rowN f n k).length = n := by simp [rowN]
theorem rowN_zero (f : Nat → Int) (n : Nat) : rowN f n 0 = List.replicate n 0 := by simp [rowN, List.map_const']
theorem rowN_all (f : Nat → Int) (n : Nat) : rowN f n n = (List.range n).map f := List.map_congr_left fun i hi => by rw [if_pos (List.mem_range.1 hi)]
theorem rowN_set (f : Nat → Int) (n k : Nat) : (rowN f n k).set k (f k) = rowN f n (k + 1) := by
  apply List.ext_getElem?
  intro i
  unfold rowN
  by_cases hk : i = k
  · subst hk
    by_cases hi : i < n
    · simp [hi]
    · simp [hi]
  · rw [List.getElem?_set_ne (by omega)]
    by_cases hi : i < n
    · simp only [List.getElem?_map, List.getElem?_range hi, Option.map_some]
      congr 1
      by_cases h : i < k
      · simp [h, show i < k + 1 by omega]
      · simp [h, show ¬ i < k + 1 by omega]
    · simp [hi]

set_option maxRecDepth 100000 in
set_option maxHeartbeats 3200000 in
theorem values_at {S : Nat → Prop} (ks : List Int) (ao : Option Addr) (c : Nat) (w : World) (hl : Lies S w ao (intsC ks)) (hb : ks.length ≤ 1000000) :
    Calls Tryz.prog 16 #[.slice ao ks.length c] w fun e w' => e = .returned (.bool (kindsOk ks ks.length)) ∧ w' = w := by
  have HL := hide hl
  have HW := hide width_any
  have HLN := hide (show ks.length = ks.length from rfl)
  clear hl
  go_enter Tryz.func16, Tryz.ntmps16
  go_wp2_with fail
  go_loop [4, 7] (fun _ i => ∃ j : Nat, j ≤ ks.length ∧ i = .int .i64 j ∧ Hid (kindsOk ks j = true)) (fun _ i => ks.length - (intOf i).toNat)
  case atStart => exact ⟨0, Nat.zero_le _, rfl, hide rfl⟩
  case round =>
    obtain ⟨j, hj, rfl, hok⟩ := hrel
    by_cases hlt : j < ks.length
    · have hj1 : (j : Int) < (ks.length : Int) := by omega
      obtain ⟨b, off, ha, _, _, q0⟩ := HL.out.ints (i := j) hlt
      have HA := hide ha
      rw [HA.out]
      have HC := hide (HW.out (outAt ks j) w)
      have HST : Hid (kindsOk ks (j + 1) = (wid (outAt ks j) != 0)) := hide (by simp only [kindsOk, hok.out, Bool.true_and])
      have HNO : Hid (kindsOk ks (j + 1) = false → kindsOk ks ks.length = false) := hide fun h => kindsOk_no h (by omega)
      generalize outAt ks j = kd at *
      generalize wid kd = wd at *
      clear ha
      by_cases h0 : wd = 0
      · subst h0
        have HN2 := hide (HNO.out (by rw [HST.out]; rfl))
        go_wp2_with fail
        refine HC.out.mono ?_
        rintro e w1 ⟨rfl, rfl⟩
        go_wp2_with fail
        go_ret
        exact ⟨ret_bool HN2.out.symm, rfl⟩
      · have hne : ((wd : Int) == 0) = false := by simp; omega
        have HN2 : Hid (kindsOk ks (j + 1) = true) := hide (by rw [HST.out]; simp [h0])
        go_wp2_with fail
        refine HC.out.mono ?_
        rintro e w1 ⟨rfl, rfl⟩
        go_wp2_with fail
        exact ⟨⟨j + 1, by omega, by go_num, HN2⟩, by simp [intOf]; omega⟩
    · have HE : Hid (kindsOk ks ks.length = true) := hide (by
        have e : j = ks.length := by omega
        have := hok.out
        rwa [e] at this)
      go_wp2_with fail
      go_ret
      exact ⟨ret_bool HE.out.symm, rfl⟩

set_option maxRecDepth 100000 in
set_option maxHeartbeats 3200000 in
theorem wide_at {S : Nat → Prop} (ks : List Int) (ao : Option Addr) (c : Nat) (w : World) (hl : Lies S w ao (intsC ks)) (hb : ks.length ≤ 1000000) :
    Calls Tryz.prog 18 #[.slice ao ks.length c] w fun e w' => e = .returned (.int .i64 (wideTo ks ks.length)) ∧ w' = w := by
  have HL := hide hl
  have HW := hide width_any
  clear hl
  go_enter Tryz.func18, Tryz.ntmps18
  go_wp2_with fail
  go_loop [3, 5, 8] (fun m _ i => ∃ j q : Nat, j ≤ ks.length ∧ i = .int .i64 j ∧ m = .int .i64 q ∧ q ≤ 8 * j ∧ Hid (q = wideTo ks j)) (fun _ _ i => ks.length - (intOf i).toNat)
  case atStart => exact ⟨0, 0, Nat.zero_le _, rfl, rfl, Nat.le_refl _, hide rfl⟩
  case round =>
    obtain ⟨j, q, hj, rfl, rfl, hq8, hq⟩ := hrel
    by_cases hlt : j < ks.length
    · have hj1 : (j : Int) < (ks.length : Int) := by omega
      obtain ⟨b, off, ha, _, _, q0⟩ := HL.out.ints (i := j) hlt
      have HA := hide ha
      rw [HA.out]
      have HC := hide (HW.out (outAt ks j) w)
      have hw8 := wid_le (outAt ks j)
      have HST : Hid (wideTo ks (j + 1) = wideTo ks j + wid (outAt ks j)) := hide rfl
      generalize outAt ks j = kd at *
      generalize wid kd = wd at *
      clear ha
      go_wp2_with fail
      refine HC.out.mono ?_
      rintro e w1 ⟨rfl, rfl⟩
      go_wp2_with fail
      exact ⟨⟨j + 1, q + wd, by omega, by go_num, by go_num, by omega, hide (by rw [HST.out, hq.out])⟩, by simp [intOf]; omega⟩
    · have HE : Hid (q = wideTo ks ks.length) := hide (by
        have e : j = ks.length := by omega
        have := hq.out
        rwa [e] at this)
      go_wp2_with fail
      go_ret
      exact ⟨ret_int (by rw [HE.out]), rfl⟩
end Go.Proofs.YtndpehjbepfbkaaGreatDoor
