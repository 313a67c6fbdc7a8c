/-
  CONTRACTS of the document's own answers (package rungworkref): Width, Cut, Turn, Bits, Of: each returns the plain function that its twin of package value returns.
-/
import Derived.Test.YtmoakccnjahfeaaEqual
namespace Go.Proofs.Ytmoakccnjahfeaa
open Go.RowKit
set_option maxHeartbeats 400000 in
theorem rwidth_any (k : Int) (w : World) :
    Calls Try.prog 7 #[.int .i64 k] w fun e w' => e = .returned (.int .i64 (wid k)) ∧ w' = w := by
  rcases mod_cases k with ⟨rfl, _⟩ | ⟨rfl, _⟩ | ⟨e1, e2, _⟩
  · go_enter Try.func7, Try.ntmps7
    go_wp2
    go_ret
    exact ⟨rfl, rfl⟩
  · go_enter Try.func7, Try.ntmps7
    go_wp2
    go_ret
    exact ⟨rfl, rfl⟩
  · have ev : wid k = 0 := by simp at e1 e2; simp [wid, e1, e2]
    rw [ev]
    go_enter Try.func7, Try.ntmps7
    go_wp2
    go_ret
    exact ⟨rfl, rfl⟩
theorem cut_pos (n P : Int) (h1 : 1 ≤ P) (h : 0 ≤ n.tmod P) : n.tmod P = n % P := by
  have e := Int.tmod_eq_emod (a := n) (b := P)
  have l := Int.emod_lt_of_pos n (show 0 < P by omega)
  split at e
  · omega
  · rw [Int.natAbs_of_nonneg (by omega : 0 ≤ P)] at e; omega
theorem cut_neg (n P : Int) (h1 : 1 ≤ P) (h2 : P ≤ 256) (h : n.tmod P < 0) : wrap64 (n.tmod P + P) = n % P := by
  have e := Int.tmod_eq_emod (a := n) (b := P)
  have l := Int.emod_lt_of_pos n (show 0 < P by omega)
  have l0 := Int.emod_nonneg n (show P ≠ 0 by omega)
  split at e
  · omega
  · rw [Int.natAbs_of_nonneg (by omega : 0 ≤ P)] at e; unfold wrap64; omega
theorem turn_eq (k n : Int) : mod k - 1 - cutI k n = cutI k (-1 - n) := by
  unfold cutI
  rcases mod_cases k with ⟨_, h⟩ | ⟨_, h⟩ | ⟨_, _, h⟩ <;> rw [h] <;> omega
theorem pow_le8 (j : Nat) (h : j < 8) : 2 ^ j ≤ 128 := Nat.pow_le_pow_right (n := 2) (by decide) (show j ≤ 7 by omega)
set_option maxHeartbeats 1600000 in
theorem rcut_any (k n : Int) (w : World) (_h1 : -9223372036854775808 ≤ n) (_h2 : n ≤ 9223372036854775807) :
    Calls Try.prog 9 #[.int .i64 k, .int .i64 n] w fun e w' => e = .returned (.int .i64 (cutI k n)) ∧ w' = w := by
  have hw8 := wid_le k
  go_enter Try.func9, Try.ntmps9
  go_wp2_with (first | (go_at_call 7; refine (rwidth_any _ _).mono ?_; rintro e w' ⟨rfl, rfl⟩))
  go_loop [5, 8] (fun m c => ∃ j P : Nat, j ≤ wid k ∧ c = .int .i64 j ∧ m = .int .i64 P ∧ Hid (P = 2 ^ j)) (fun _ c => wid k - (intOf c).toNat)
  case atStart => exact ⟨0, 1, Nat.zero_le _, rfl, rfl, rfl⟩
  case round =>
    obtain ⟨j, P, hj, rfl, rfl, HP⟩ := hrel
    by_cases hlt : j < wid k
    · have hP : P ≤ 128 := by rw [HP.out]; exact pow_le8 j (by omega)
      go_wp2
      go_round
      case rel => exact ⟨j + 1, P * 2, by omega, by go_num, by go_num, (by rw [HP.out, Nat.pow_succ] : P * 2 = 2 ^ (j + 1))⟩
      case measure => simp [intOf]; omega
    · have HK : Hid (j = wid k) := (by omega : j = wid k)
      have HM : Hid ((P : Int) = mod k) := (by rw [HP.out, HK.out, mod_pow] : (P : Int) = mod k)
      have hP1 : 1 ≤ (P : Int) := by rw [HM.out]; exact (mod_bd k).1
      have hP2 : (P : Int) ≤ 256 := by rw [HM.out]; exact (mod_bd k).2
      go_wp2_with fail
      · have hneg : n.tmod (P : Int) < 0 := by assumption
        go_ret
        exact ⟨ret_int (by rw [cut_neg n P hP1 hP2 hneg, HM.out]; rfl), rfl⟩
      · have hpos : 0 ≤ n.tmod (P : Int) := by assumption
        go_ret
        exact ⟨ret_int (by rw [cut_pos n P hP1 hpos, HM.out]; rfl), rfl⟩

set_option maxHeartbeats 1600000 in
theorem rturn_any (k n : Int) (w : World) (h1 : -9223372036854775808 ≤ n) (h2 : n ≤ 9223372036854775807) :
    Calls Try.prog 20 #[.int .i64 k, .int .i64 n] w fun e w' => e = .returned (.int .i64 (cutI k (-1 - n))) ∧ w' = w := by
  have hw8 := wid_le k
  go_enter Try.func20, Try.ntmps20
  go_wp2_with (first | (go_at_call 7; refine (rwidth_any _ _).mono ?_; rintro e w' ⟨rfl, rfl⟩))
  go_loop [5, 8] (fun m c => ∃ j P : Nat, j ≤ wid k ∧ c = .int .i64 j ∧ m = .int .i64 P ∧ Hid (P = 2 ^ j)) (fun _ c => wid k - (intOf c).toNat)
  case atStart => exact ⟨0, 1, Nat.zero_le _, rfl, rfl, rfl⟩
  case round =>
    obtain ⟨j, P, hj, rfl, rfl, HP⟩ := hrel
    by_cases hlt : j < wid k
    · have hP : P ≤ 128 := by rw [HP.out]; exact pow_le8 j (by omega)
      go_wp2
      go_round
      case rel => exact ⟨j + 1, P * 2, by omega, by go_num, by go_num, (by rw [HP.out, Nat.pow_succ] : P * 2 = 2 ^ (j + 1))⟩
      case measure => simp [intOf]; omega
    · have HK : Hid (j = wid k) := (by omega : j = wid k)
      have HM : Hid ((P : Int) = mod k) := (by rw [HP.out, HK.out, mod_pow] : (P : Int) = mod k)
      have hP1 : 1 ≤ (P : Int) := by rw [HM.out]; exact (mod_bd k).1
      have hP2 : (P : Int) ≤ 256 := by rw [HM.out]; exact (mod_bd k).2
      have hc0 := (cutI_bd k n).1
      have hc1 := (cutI_bd k n).2.2
      go_wp2_with (first | (go_at_call 9; refine (rcut_any _ _ _ h1 h2).mono ?_; rintro e w' ⟨rfl, rfl⟩))
      go_ret
      refine ⟨ret_int ?_, rfl⟩
      rw [HM.out]
      exact turn_eq k n

/-! ### Bits, by division -/
theorem bitOf_cut (k n : Int) (j : Nat) (h : j < wid k) : bitOf (cutI k n) j = bitOf n j := by
  unfold bitOf
  have e : cutI k n / 2 ^ j % 2 = n / 2 ^ j % 2 := by
    unfold cutI
    rcases mod_cases k with ⟨rfl, hm⟩ | ⟨rfl, hm⟩ | ⟨e1, e2, hm⟩
    · have hj : j = 0 := by simp [wid] at h; omega
      rw [hm, hj]; omega
    · have hj : j < 8 := by simpa [wid] using h
      rw [hm]
      match j, hj with
      | 0, _ => omega
      | 1, _ => omega
      | 2, _ => omega
      | 3, _ => omega
      | 4, _ => omega
      | 5, _ => omega
      | 6, _ => omega
      | 7, _ => omega
    · simp at e1 e2; simp [wid, e1, e2] at h
  rw [e]
theorem bitsTo_cut (k n : Int) : bitsTo (cutI k n) (wid k) = bitsTo n (wid k) := by
  unfold bitsTo
  apply List.map_congr_left
  intro j hj
  exact bitOf_cut k n j (by simpa using hj)

theorem rbits_step {B j : Nat} {c q : Int} {w wr w1 : World} {v v' : Value} {o : Obj} (hB : B ≤ wr.heap.size) (hown : wr.ownsRow B 4 1 v j ((bitsTo c j).map Value.bool)) (hnx : Below B w wr) (hq : q = c / 2 ^ j)
    (hown' : w1.ownsRow B 4 1 v' (j + 1) ((bitsTo c j).map Value.bool ++ [.bool (q % 2 == 1)])) (hgrow : (wr.alloc o).grownBy w1 v.ownBlock) :
    w1.ownsRow B 4 1 v' (j + 1) ((bitsTo c (j + 1)).map Value.bool) ∧ Below B w w1 := by
  refine ⟨?_, (hnx.alloc (by omega) o).grown hgrow (by simp; omega) (fun j hj => by have := (hown.lt j hj).1; omega)⟩
  rw [bitsTo_succ, show bitOf c j = (q % 2 == 1) by rw [hq]; rfl]; simpa using hown'
theorem half_step (c q : Int) (j : Nat) (h : q = c / 2 ^ j) : q / 2 = c / 2 ^ (j + 1) := by
  rw [h, Int.pow_succ, Int.ediv_ediv_of_nonneg (by exact_mod_cast Nat.zero_le (2 ^ j))]

set_option maxHeartbeats 1600000 in
set_option maxRecDepth 1000000 in
theorem rbits_any (k n : Int) (w : World) (h1 : -9223372036854775808 ≤ n) (h2 : n ≤ 9223372036854775807) :
    Calls Try.prog 12 #[.int .i64 k, .int .i64 n] w fun e w' => ∃ v, e = .returned v ∧ w'.ownsRow w.heap.size 4 1 v (wid k) ((bitsTo n (wid k)).map Value.bool) ∧ Below w.heap.size w w' := by
  rw [← bitsTo_cut]
  obtain ⟨i0, hi, hz0, hz1, hz2⟩ := info_parts Try.info4
  have hw8 := wid_le k
  have hc0 := (cutI_bd k n).1
  have hc1 := (cutI_bd k n).2.2
  generalize hB : w.heap.size = B
  have HB : Hid (w.heap.size = B) := hB; clear hB
  go_enter Try.func12, Try.ntmps12
  go_wp2_with (first | (go_at_call 7; refine (rwidth_any _ _).mono ?_; rintro e w' ⟨rfl, rfl⟩) | (go_at_call 9; refine (rcut_any _ _ _ h1 h2).mono ?_; rintro e w' ⟨rfl, rfl⟩))
  generalize hc : cutI k n = c at *
  have HC : Hid (cutI k n = c) := hc
  clear hc
  go_loopw [1, 5, 11] (fun u v i wr => ∃ (j : Nat) (q : Int), j ≤ wid k ∧ i = .int .i64 j ∧ u = .int .i64 q ∧ 0 ≤ q ∧ q ≤ 255 ∧ Hid (q = c / 2 ^ j) ∧ wr.ownsRow B 4 1 v j ((bitsTo c j).map Value.bool) ∧ Below B w' wr)
    (fun _ _ i _ => wid k - (intOf i).toNat)
  case atStart => exact ⟨0, c, Nat.zero_le _, rfl, rfl, hc0, hc1, (by simp : c = c / 2 ^ 0), World.ownsRow_nil _ _ _ _, Below.refl _ _⟩
  case round =>
    obtain ⟨j, q, hj, rfl, rfl, hq0, hq1, HQ, hown, hnx⟩ := hrel
    have hsz : B ≤ wr.heap.size := by have := hnx.size; have := HB.out; omega
    by_cases hlt : j < wid k
    · go_wp2_with (first
        | (at_builtin; refine wpList_append_own _ rfl _ _ 22 rfl B 4 i0 (.bool false) 1 1 Try.underlying22 hi hz0 hz1 hz2 rfl (by decide) _ _ _ rfl (hown.alloc _) ⟨wr.heap.size, 0, none⟩ 1 1 [.bool (q % 2 == 1)] rfl rfl ?c1 ?c2 ?c3 ?c4 ?c5 ?_))
      case c1 => exact cell_one_new _ _ _
      case c2 => intro u hu; simp at hu; subst hu; rfl
      case c3 => unfold maxLen; omega
      case c4 => omega
      case c5 => simp; omega
      · intro v' w1 hown' hgrow _
        have R := rbits_step hsz hown hnx HQ.out hown' hgrow
        clear hown' hgrow hown hnx
        go_wp2
        go_roundw
        case rel => exact ⟨j + 1, q / 2, by omega, by go_num, rfl, by omega, by omega, half_step c q j HQ.out, R.1, R.2⟩
        case measure => simp [intOf]; omega
    · have HK : Hid (j = wid k) := (by omega : j = wid k)
      go_wp2
      go_ret
      rw [← HK.out, HC.out]
      exact ⟨_, rfl, hown, hnx⟩

/-! ### Of, by doubling -/
set_option maxHeartbeats 1600000 in
theorem rof_some (l : List Bool) (b off cap : Nat) (w : World) (hl : l.length ≤ maxLen) (hc : ∀ i, i < l.length → w.cell? ⟨b, off + i, none⟩ = some (.bool (l[i]?.getD false))) :
    Calls Try.prog 14 #[.slice (some ⟨b, off, none⟩) l.length cap] w fun e w' => e = .returned (.int .i64 (ofTo l (min l.length 62))) ∧ w' = w := by
  unfold maxLen at hl
  generalize hN : l.length = N at *
  clear hN
  go_enter Try.func14, Try.ntmps14
  go_wp2
  go_loop [3, 4, 5] (fun n f i => ∃ (j P Q : Nat), j ≤ min N 62 ∧ i = .int .i64 j ∧ n = .int .i64 Q ∧ f = .int .i64 P ∧ Hid (Q = ofTo l j) ∧ Hid (P = 2 ^ j)) (fun _ _ i => 62 - (intOf i).toNat)
  case atStart => exact ⟨0, 1, 0, Nat.zero_le _, rfl, rfl, rfl, rfl, rfl⟩
  case round =>
    obtain ⟨j, P, Q, hj, rfl, rfl, rfl, HQ, HP⟩ := hrel
    by_cases hlt : j < min N 62
    · have hcj := hc j (by omega)
      have hj1 : (j : Int) < (N : Int) := by omega
      have hj2 : (j : Int) < 62 := by omega
      have hP : P ≤ 2305843009213693952 := by rw [HP.out]; exact pow62 j (by omega)
      have hQ : Q < P := by rw [HP.out, HQ.out]; exact ofTo_lt l j
      clear hc
      generalize hx : l[j]?.getD false = x at *
      have HX : Hid (l[j]?.getD false = x) := hx
      clear hx
      cases x
      · go_wp2
        go_round
        case rel => exact ⟨j + 1, P * 2, Q, by omega, by go_num, rfl, by go_num, (by rw [HQ.out]; simp [ofTo, HX.out] : Q = ofTo l (j + 1)), (by rw [HP.out, Nat.pow_succ] : P * 2 = 2 ^ (j + 1))⟩
        case measure => simp [intOf]; omega
      · go_wp2
        go_round
        case rel => exact ⟨j + 1, P * 2, Q + P, by omega, by go_num, by go_num, by go_num, (by rw [HQ.out, HP.out]; simp [ofTo, HX.out] : Q + P = ofTo l (j + 1)), (by rw [HP.out, Nat.pow_succ] : P * 2 = 2 ^ (j + 1))⟩
        case measure => simp [intOf]; omega
    · have HJ : Hid (j = min N 62) := (by omega : j = min N 62)
      clear hc
      by_cases hjN : (j : Int) < (N : Int)
      · have hj62 : decide ((j : Int) < 62) = false := by simp; omega
        go_wp2
        go_ret
        exact ⟨ret_int (by rw [HQ.out, HJ.out]), rfl⟩
      · have hjN' : decide ((j : Int) < (N : Int)) = false := by simp; omega
        go_wp2
        go_ret
        exact ⟨ret_int (by rw [HQ.out, HJ.out]), rfl⟩

set_option maxHeartbeats 1600000 in
theorem rof_nil (a : Option Addr) (cap : Nat) (w : World) :
    Calls Try.prog 14 #[.slice a 0 cap] w fun e w' => e = .returned (.int .i64 0) ∧ w' = w := by
  go_enter Try.func14, Try.ntmps14
  go_wp2
  go_loop [3, 4, 5] (fun n f i => i = .int .i64 0 ∧ n = .int .i64 0 ∧ f = .int .i64 1) (fun _ _ _ => 0)
  case atStart => exact ⟨rfl, rfl, rfl⟩
  case round =>
    obtain ⟨rfl, rfl, rfl⟩ := hrel
    go_wp2
    go_ret
    exact ⟨rfl, rfl⟩

theorem rof_any (l : List Bool) (v : Value) (w : World) (h : IsBits w v l) :
    Calls Try.prog 14 #[v] w fun e w' => e = .returned (.int .i64 (ofTo l (min l.length 62))) ∧ w' = w := by
  rcases h with ⟨rfl | ⟨x, cap, rfl⟩, rfl⟩ | ⟨b, off, cap, rfl, hl, hm, hc⟩
  · exact rof_nil none 0 w
  · exact rof_nil (some x) cap w
  · exact rof_some l b off cap w (by omega) hc
end Go.Proofs.Ytmoakccnjahfeaa
