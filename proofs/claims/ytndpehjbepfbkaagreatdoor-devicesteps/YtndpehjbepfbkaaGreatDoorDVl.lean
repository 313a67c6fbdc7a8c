/-
  PLAIN: bits and bytes; CONTRACTS of value.Width, Bits, Of, and of the reference's Width, Cut, Bits, Of.
-/
import Derived.Laws.BitsAllLaws
import Derived.Test.YtndpehjbepfbkaaGreatDoorLRs
set_option linter.unusedSimpArgs false
set_option linter.unusedVariables false
namespace Go.Proofs.YtndpehjbepfbkaaGreatDoor
open Go.RowKit

/-- how many numbers a type has: 2 of Bool, 256 of Byte, else 1 -/
def vmod (k : Int) : Int := if k = 1 then 2 else if k = 2 then 256 else 1
/-- how many bits a type has -/
def wid (k : Int) : Nat := if k = 1 then 1 else if k = 2 then 8 else 0
/-- a number's last bits -/
def cutI (k n : Int) : Int := n % vmod k

theorem vmod_cases (k : Int) : (k = 1 ∧ vmod k = 2) ∨ (k = 2 ∧ vmod k = 256) ∨ ((k == 1) = false ∧ (k == 2) = false ∧ vmod k = 1) := by
  unfold vmod
  by_cases h1 : k = 1
  · exact .inl ⟨h1, by simp [h1]⟩
  · by_cases h2 : k = 2
    · exact .inr (.inl ⟨h2, by simp [h2]⟩)
    · exact .inr (.inr ⟨by simp [h1], by simp [h2], by simp [h1, h2]⟩)
theorem vmod_pow (k : Int) : vmod k = ((2 ^ wid k : Nat) : Int) := by
  unfold vmod wid; split
  · rfl
  · split <;> rfl
theorem vmod_bd (k : Int) : 1 ≤ vmod k ∧ vmod k ≤ 256 := by
  rcases vmod_cases k with ⟨_, h⟩ | ⟨_, h⟩ | ⟨_, _, h⟩ <;> rw [h] <;> omega
theorem cutI_bd (k n : Int) : 0 ≤ cutI k n ∧ cutI k n < vmod k ∧ cutI k n ≤ 255 := by
  have hb := vmod_bd k
  have h1 : 0 ≤ cutI k n := Int.emod_nonneg _ (by omega)
  have h2 : cutI k n < vmod k := Int.emod_lt_of_pos _ (by omega)
  exact ⟨h1, h2, by omega⟩
theorem wid_le (k : Int) : wid k ≤ 8 := by unfold wid; split; omega; split <;> omega

def bitOf (n : Int) (k : Nat) : Bool := n / 2 ^ k % 2 == 1
def bitsTo (n : Int) (k : Nat) : List Bool := (List.range k).map (bitOf n)
theorem bitsTo_len (n : Int) (k : Nat) : (bitsTo n k).length = k := by simp [bitsTo]
theorem bitsTo_succ (n : Int) (k : Nat) : bitsTo n (k + 1) = bitsTo n k ++ [bitOf n k] := by simp [bitsTo, List.range_succ]
theorem bit_word (n : Int) (j : Nat) : (bits .and .i64 (n / 2 ^ j) 1 == 1) = bitOf n j := by rw [i64_mask1T]; rfl
def bitI (b : Bool) : Int := if b then 1 else 0

def ofTo (l : List Bool) : Nat → Nat
  | 0 => 0
  | k + 1 => ofTo l k + (if l[k]?.getD false then 2 ^ k else 0)
theorem ofTo_lt (l : List Bool) (k : Nat) : ofTo l k < 2 ^ k := by
  induction k with
  | zero => simp [ofTo]
  | succ k ih => unfold ofTo; rw [Nat.pow_succ]; split <;> omega
theorem pow62 (j : Nat) (hj : j < 62) : 2 ^ j ≤ 2305843009213693952 := Nat.pow_le_pow_right (n := 2) (by decide) (show j ≤ 61 by omega)
theorem or_step (l : List Bool) (j : Nat) (hj : j < 62) (b : Bool) (hb : l[j]?.getD false = b) : bits .or .i64 ((ofTo l j : Nat) : Int) (wrap64 (bitI b * 2 ^ j)) = ((ofTo l (j + 1) : Nat) : Int) := by
  have h1 := ofTo_lt l j
  have h2 := pow62 j hj
  cases b
  · have e : wrap64 (bitI false * 2 ^ j) = ((0 : Nat) : Int) := by simp [bitI, wrap64]
    rw [e, i64_orT _ _ (by omega) (by omega), Nat.or_zero]
    simp [ofTo, hb]
  · have e : wrap64 (bitI true * 2 ^ j) = ((2 ^ j : Nat) : Int) := by
      have : (bitI true * 2 ^ j : Int) = ((2 ^ j : Nat) : Int) := by simp [bitI]
      rw [this]; unfold wrap64; omega
    rw [e, i64_orT _ _ (by omega) (by omega), Nat.or_comm, nat_join j (2 ^ j) (ofTo l j) (Nat.mod_self _) h1]
    simp [ofTo, hb]; omega

set_option maxHeartbeats 400000 in
theorem width_any (k : Int) (w : World) :
    Calls Tryz.prog 38 #[.int .i64 k] w fun e w' => e = .returned (.int .i64 (wid k)) ∧ w' = w := by
  rcases vmod_cases k with ⟨rfl, _⟩ | ⟨rfl, _⟩ | ⟨e1, e2, _⟩
  · go_enter Tryz.func38, Tryz.ntmps38
    go_wp2
    go_ret
    exact ⟨rfl, rfl⟩
  · go_enter Tryz.func38, Tryz.ntmps38
    go_wp2
    go_ret
    exact ⟨rfl, rfl⟩
  · have ev : wid k = 0 := by simp at e1 e2; simp [wid, e1, e2]
    rw [ev]
    go_enter Tryz.func38, Tryz.ntmps38
    go_wp2
    go_ret
    exact ⟨rfl, rfl⟩
set_option maxHeartbeats 400000 in
theorem vbit_any (b : Bool) (w : World) :
    Calls Tryz.prog 72 #[.bool b] w fun e w' => e = .returned (.int .i64 (bitI b)) ∧ w' = w := by
  cases b
  · go_enter Tryz.func72, Tryz.ntmps72
    go_wp2
    go_ret
    exact ⟨rfl, rfl⟩
  · go_enter Tryz.func72, Tryz.ntmps72
    go_wp2
    go_ret
    exact ⟨rfl, rfl⟩

set_option maxRecDepth 100000 in
set_option maxHeartbeats 3200000 in
theorem vbits_at (k n : Int) (w : World) :
    Calls Tryz.prog 46 #[.int .i64 k, .int .i64 n] w fun e w' => ∃ va vc, e = .returned (.slice va (wid k) vc) ∧ BRow w w' va vc (wid k) (bitsTo n (wid k)) := by
  have hw8 := wid_le k
  have HW := hide (width_any k)
  generalize wid k = K at *
  go_enter Tryz.func46, Tryz.ntmps46
  go_wp2_with fail
  refine (HW.out _).mono ?_
  rintro e w1 ⟨rfl, rfl⟩
  clear HW
  go_wp2_with fail
  go_loopw [5, 9] (fun v i wr => ∃ (j : Nat) (va : Option Addr) (vc : Nat), j ≤ K ∧ i = .int .i64 j ∧ v = .slice va j vc ∧ Hid (BRow w1 wr va vc j (bitsTo n j))) (fun _ i _ => K - (intOf i).toNat)
  case atStart => exact ⟨0, none, 0, Nat.zero_le _, rfl, rfl, hide (BRow.none _)⟩
  case round =>
    obtain ⟨j, va, vc, hj, rfl, rfl, hbr⟩ := hrel
    by_cases hlt : j < K
    · have HBS : Hid (bitsTo n (j + 1) = bitsTo n j ++ [bits .and .i64 (n / 2 ^ j) 1 == 1]) := hide (by rw [bit_word]; exact bitsTo_succ n j)
      generalize hbv : (bits .and .i64 (n / 2 ^ j) 1 == 1) = bv at *
      obtain ⟨va2, vc2, w2, happ, hbr2⟩ := hbr.out.app (below_alloc wr (.cells #[.bool bv] 4)) [bv] (some ⟨wr.heap.size, 0, none⟩) 1 1 (j + 1) (Lies.blk (cs := bitsC [bv]) (blk_new wr (.cells #[.bool bv] 4)) trivial) rfl rfl (by omega)
      subst hbv
      have HBR2 := hide hbr2
      clear hbr2 hbr
      go_wp2_with (at_builtin; (refine wpl_append_run happ rfl _ _ rfl rfl rfl ?_))
      exact ⟨⟨j + 1, va2, vc2, by omega, by go_num, rfl, hide (by rw [HBS.out]; exact HBR2.out)⟩, by simp [intOf]; omega⟩
    · have hkl : j = K := by omega
      subst hkl
      go_wp2_with fail
      go_ret
      exact ⟨va, vc, rfl, hbr.out⟩

theorem bit_get (l : List Bool) (j : Nat) : l[j]?.getD false = bit l j := rfl

set_option maxRecDepth 100000 in
set_option maxHeartbeats 3200000 in
theorem vof_at {S : Nat → Prop} (l : List Bool) (ao : Option Addr) (n c : Nat) (w : World) (hl : Lies S w ao (bitsC l)) (hn : n ≤ l.length) (h62 : (n : Int) ≤ 62) :
    Calls Tryz.prog 44 #[.slice ao n c] w fun e w' => e = .returned (.int .i64 (ofTo l n)) ∧ w' = w := by
  have HL := hide hl
  have HVB := hide vbit_any
  clear hl
  go_enter Tryz.func44, Tryz.ntmps44
  go_wp2_with fail
  go_loop [3, 8] (fun v i => ∃ j : Nat, j ≤ n ∧ i = .int .i64 j ∧ v = .int .i64 (ofTo l j)) (fun _ i => n - (intOf i).toNat)
  case atStart => exact ⟨0, Nat.zero_le _, rfl, rfl⟩
  case round =>
    obtain ⟨j, hj, rfl, rfl⟩ := hrel
    by_cases hlt : j < n
    · have hj1 : (j : Int) < (n : Int) := by omega
      have hj2 : (j : Int) < 62 := by omega
      obtain ⟨b, off, ha, _, _, q0⟩ := HL.out.bits (i := j) (by omega)
      have HA := hide ha
      rw [HA.out]
      have HST := hide (or_step l j (by omega) (bit l j) rfl)
      generalize bit l j = bv at *
      clear ha
      go_wp2_with fail
      refine (HVB.out _ _).mono ?_
      rintro e w1 ⟨rfl, rfl⟩
      go_wp2_with fail
      refine ⟨⟨j + 1, by omega, by go_num, ?_⟩, by simp [intOf]; omega⟩
      rw [HST.out]
    · have hkl : j = n := by omega
      subst hkl
      go_wp2_with fail
      go_ret
      exact ⟨rfl, rfl⟩

/-! the reference -/
set_option maxHeartbeats 400000 in
theorem rwidth_any (k : Int) (w : World) :
    Calls Tryz.prog 14 #[.int .i64 k] w fun e w' => e = .returned (.int .i64 (wid k)) ∧ w' = w := by
  rcases vmod_cases k with ⟨rfl, _⟩ | ⟨rfl, _⟩ | ⟨e1, e2, _⟩
  · go_enter Tryz.func14, Tryz.ntmps14
    go_wp2
    go_ret
    exact ⟨rfl, rfl⟩
  · go_enter Tryz.func14, Tryz.ntmps14
    go_wp2
    go_ret
    exact ⟨rfl, rfl⟩
  · have ev : wid k = 0 := by simp at e1 e2; simp [wid, e1, e2]
    rw [ev]
    go_enter Tryz.func14, Tryz.ntmps14
    go_wp2
    go_ret
    exact ⟨rfl, rfl⟩
theorem cut_pos (n P : Int) (h1 : 1 ≤ P) (h : 0 ≤ n.tmod P) : n.tmod P = n % P := by
  have e := Int.tmod_eq_emod (a := n) (b := P)
  have l := Int.emod_lt_of_pos n (show 0 < P by omega)
  split at e
  · omega
  · rw [Int.natAbs_of_nonneg (by omega : 0 ≤ P)] at e; omega
theorem cut_neg (n P : Int) (h1 : 1 ≤ P) (h2 : P ≤ 256) (h : n.tmod P < 0) : wrap64 (n.tmod P + P) = n % P := by
  have e := Int.tmod_eq_emod (a := n) (b := P)
  have l := Int.emod_lt_of_pos n (show 0 < P by omega)
  have l0 := Int.emod_nonneg n (show P ≠ 0 by omega)
  split at e
  · omega
  · rw [Int.natAbs_of_nonneg (by omega : 0 ≤ P)] at e; unfold wrap64; omega
theorem pow_le8 (j : Nat) (h : j < 8) : 2 ^ j ≤ 128 := Nat.pow_le_pow_right (n := 2) (by decide) (show j ≤ 7 by omega)
set_option maxHeartbeats 1600000 in
theorem rcut_any (k n : Int) (w : World) :
    Calls Tryz.prog 47 #[.int .i64 k, .int .i64 n] w fun e w' => e = .returned (.int .i64 (cutI k n)) ∧ w' = w := by
  have hw8 := wid_le k
  go_enter Tryz.func47, Tryz.ntmps47
  go_wp2_with (first | (go_at_call 14; refine (rwidth_any _ _).mono ?_; rintro e w' ⟨rfl, rfl⟩))
  go_loop [5, 8] (fun m c => ∃ j P : Nat, j ≤ wid k ∧ c = .int .i64 j ∧ m = .int .i64 P ∧ Hid (P = 2 ^ j)) (fun _ c => wid k - (intOf c).toNat)
  case atStart => exact ⟨0, 1, Nat.zero_le _, rfl, rfl, rfl⟩
  case round =>
    obtain ⟨j, P, hj, rfl, rfl, HP⟩ := hrel
    by_cases hlt : j < wid k
    · have hP : P ≤ 128 := by rw [HP.out]; exact pow_le8 j (by omega)
      go_wp2
      go_round
      case rel => exact ⟨j + 1, P * 2, by omega, by go_num, by go_num, (by rw [HP.out, Nat.pow_succ] : P * 2 = 2 ^ (j + 1))⟩
      case measure => simp [intOf]; omega
    · have HK : Hid (j = wid k) := (by omega : j = wid k)
      have HM : Hid ((P : Int) = vmod k) := (by rw [HP.out, HK.out, vmod_pow] : (P : Int) = vmod k)
      have hP1 : 1 ≤ (P : Int) := by rw [HM.out]; exact (vmod_bd k).1
      have hP2 : (P : Int) ≤ 256 := by rw [HM.out]; exact (vmod_bd k).2
      go_wp2_with fail
      · have hneg : n.tmod (P : Int) < 0 := by assumption
        go_ret
        exact ⟨ret_int (by rw [cut_neg n P hP1 hP2 hneg, HM.out]; rfl), rfl⟩
      · have hpos : 0 ≤ n.tmod (P : Int) := by assumption
        go_ret
        exact ⟨ret_int (by rw [cut_pos n P hP1 hpos, HM.out]; rfl), rfl⟩
theorem bitOf_cut (k n : Int) (j : Nat) (h : j < wid k) : bitOf (cutI k n) j = bitOf n j := by
  unfold bitOf
  have e : cutI k n / 2 ^ j % 2 = n / 2 ^ j % 2 := by
    unfold cutI
    rcases vmod_cases k with ⟨rfl, hm⟩ | ⟨rfl, hm⟩ | ⟨e1, e2, hm⟩
    · have hj : j = 0 := by simp [wid] at h; omega
      rw [hm, hj]; omega
    · have hj : j < 8 := by simpa [wid] using h
      rw [hm]
      match j, hj with
      | 0, _ => omega
      | 1, _ => omega
      | 2, _ => omega
      | 3, _ => omega
      | 4, _ => omega
      | 5, _ => omega
      | 6, _ => omega
      | 7, _ => omega
    · simp at e1 e2; simp [wid, e1, e2] at h
  rw [e]
theorem bitsTo_cut (k n : Int) : bitsTo (cutI k n) (wid k) = bitsTo n (wid k) := by
  unfold bitsTo
  apply List.map_congr_left
  intro j hj
  exact bitOf_cut k n j (by simpa using hj)
theorem half_step (c q : Int) (j : Nat) (h : q = c / 2 ^ j) : q / 2 = c / 2 ^ (j + 1) := by
  rw [h, Int.pow_succ, Int.ediv_ediv_of_nonneg (by exact_mod_cast Nat.zero_le (2 ^ j))]

set_option maxRecDepth 100000 in
set_option maxHeartbeats 3200000 in
theorem rbits_at (k n : Int) (w : World) :
    Calls Tryz.prog 26 #[.int .i64 k, .int .i64 n] w fun e w' => ∃ va vc, e = .returned (.slice va (wid k) vc) ∧ BRow w w' va vc (wid k) (bitsTo n (wid k)) := by
  rw [← bitsTo_cut]
  have hw8 := wid_le k
  have hc0 := (cutI_bd k n).1
  have hc1 := (cutI_bd k n).2.2
  have HW := hide (rwidth_any k)
  have HC := hide (rcut_any k n)
  generalize cutI k n = c at *
  generalize wid k = K at *
  go_enter Tryz.func26, Tryz.ntmps26
  go_wp2_with fail
  refine (HC.out _).mono ?_
  rintro e w1 ⟨rfl, rfl⟩
  clear HC
  go_wp2_with fail
  refine (HW.out _).mono ?_
  rintro e w1 ⟨rfl, rfl⟩
  clear HW
  go_wp2_with fail
  go_loopw [1, 5, 11] (fun u v i wr => ∃ (j : Nat) (q : Int) (va : Option Addr) (vc : Nat), j ≤ K ∧ i = .int .i64 j ∧ u = .int .i64 q ∧ v = .slice va j vc ∧ 0 ≤ q ∧ q ≤ 255 ∧ Hid (q = c / 2 ^ j) ∧ Hid (BRow w1 wr va vc j (bitsTo c j))) (fun _ _ i _ => K - (intOf i).toNat)
  case atStart => exact ⟨0, c, none, 0, Nat.zero_le _, rfl, rfl, rfl, hc0, hc1, hide (by simp), hide (BRow.none _)⟩
  case round =>
    obtain ⟨j, q, va, vc, hj, rfl, rfl, rfl, hq0, hq1, HQ, hbr⟩ := hrel
    by_cases hlt : j < K
    · have HBS : Hid (bitsTo c (j + 1) = bitsTo c j ++ [q % 2 == 1]) := hide (by rw [bitsTo_succ, HQ.out]; rfl)
      have HH := hide (half_step c q j HQ.out)
      obtain ⟨va2, vc2, w2, happ, hbr2⟩ := hbr.out.app (below_alloc wr (.cells #[.bool (q % 2 == 1)] 4)) [q % 2 == 1] (some ⟨wr.heap.size, 0, none⟩) 1 1 (j + 1) (Lies.blk (cs := bitsC [q % 2 == 1]) (blk_new wr (.cells #[.bool (q % 2 == 1)] 4)) trivial) rfl rfl (by omega)
      have HBR2 := hide hbr2
      clear hbr2 hbr HQ
      go_wp2_with (at_builtin; (refine wpl_append_run happ rfl _ _ rfl rfl rfl ?_))
      exact ⟨⟨j + 1, q / 2, va2, vc2, by omega, by go_num, rfl, rfl, by omega, by omega, HH, hide (by rw [HBS.out]; exact HBR2.out)⟩, by simp [intOf]; omega⟩
    · have hkl : j = K := by omega
      subst hkl
      go_wp2_with fail
      go_ret
      exact ⟨va, vc, rfl, hbr.out⟩

set_option maxRecDepth 100000 in
set_option maxHeartbeats 3200000 in
theorem rof_at {S : Nat → Prop} (l : List Bool) (ao : Option Addr) (N c : Nat) (w : World) (hl : Lies S w ao (bitsC l)) (hn : N ≤ l.length) (h62 : (N : Int) ≤ 62) :
    Calls Tryz.prog 28 #[.slice ao N c] w fun e w' => e = .returned (.int .i64 (ofTo l N)) ∧ w' = w := by
  have HL := hide hl
  clear hl
  go_enter Tryz.func28, Tryz.ntmps28
  go_wp2_with fail
  go_loop [3, 4, 5] (fun n f i => ∃ (j P Q : Nat), j ≤ N ∧ i = .int .i64 j ∧ n = .int .i64 Q ∧ f = .int .i64 P ∧ Hid (Q = ofTo l j) ∧ Hid (P = 2 ^ j)) (fun _ _ i => N - (intOf i).toNat)
  case atStart => exact ⟨0, 1, 0, Nat.zero_le _, rfl, rfl, rfl, hide rfl, hide rfl⟩
  case round =>
    obtain ⟨j, P, Q, hj, rfl, rfl, rfl, HQ, HP⟩ := hrel
    by_cases hlt : j < N
    · have hj1 : (j : Int) < (N : Int) := by omega
      have hj2 : (j : Int) < 62 := by omega
      obtain ⟨b, off, ha, _, _, q0⟩ := HL.out.bits (i := j) (by omega)
      have HA := hide ha
      rw [HA.out]
      have hP : P ≤ 2305843009213693952 := by rw [HP.out]; exact pow62 j (by omega)
      have hQ : Q < P := by rw [HP.out, HQ.out]; exact ofTo_lt l j
      have HX : Hid (ofTo l (j + 1) = ofTo l j + (if bit l j then 2 ^ j else 0)) := hide rfl
      generalize bit l j = x at *
      clear ha
      cases x
      · go_wp2_with fail
        exact ⟨⟨j + 1, P * 2, Q, by omega, by go_num, rfl, by go_num, hide (by rw [HX.out, HQ.out]; simp), hide (by rw [HP.out, Nat.pow_succ])⟩, by simp [intOf]; omega⟩
      · go_wp2_with fail
        exact ⟨⟨j + 1, P * 2, Q + P, by omega, by go_num, by go_num, by go_num, hide (by rw [HX.out, HQ.out, HP.out]; simp), hide (by rw [HP.out, Nat.pow_succ])⟩, by simp [intOf]; omega⟩
    · have HJ : Hid (j = N) := hide (by omega)
      have hjN' : decide ((j : Int) < (N : Int)) = false := by simp; omega
      go_wp2_with fail
      go_ret
      exact ⟨ret_int (by rw [HQ.out, HJ.out]), rfl⟩
end Go.Proofs.YtndpehjbepfbkaaGreatDoor
