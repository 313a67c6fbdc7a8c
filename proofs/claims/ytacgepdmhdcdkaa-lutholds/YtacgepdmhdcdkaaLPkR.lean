/-
  CONTRACTS of Pack's leaves: plain, same, free, gated, slices.Index.
  CONTRACT of half.
  TABLES, plain: a table without one of its signals.
  CONTRACTS of the closure in join, and of bit at it.
  TABLES, plain: a gate of two tables as one table of all their signals.
  A GATE OF TWO TABLES, plain: what joining, and shortening, keep.
-/
import Derived.Test.YtacgepdmhdcdkaaLBit
set_option linter.unusedSimpArgs false
set_option linter.unusedVariables false
namespace Go.Proofs.Ytacgepdmhdcdkaa
open Go.RowKit

def sameL (l : Lt) : Bool := decide (l.ins.length = 1) && (l.table == 2)
def freeL (l : Lt) : Bool := decide (l.ins.length = 0) || sameL l
def gatedP (op : Int) (a b : Bool) : Bool := if op = 5 then a && b else if op = 6 then a || b else if op = 7 then a != b else !a

set_option maxRecDepth 100000 in
set_option maxHeartbeats 1600000 in
theorem plain_at (s : Int) (w : World) :
    Calls Try.prog 33 #[.int .i64 s] w fun e w' => (∃ g, e = .returned (.agg #[.slice (some ⟨g, 0, none⟩) 1 1, .int .i64 2]) ∧ w.heap.size ≤ g ∧ w'.heap[g]? = some (.cells #[.int .i64 s] 3 (0, 0))) ∧ Below w.heap.size w w' := by
  have HB := hide (Below.step (below_alloc w (.cells #[.slice (some ⟨w.heap.size + 1, 0, none⟩) 1 1, .int .i64 2] 44)) (below_alloc (w.alloc (.cells #[.slice (some ⟨w.heap.size + 1, 0, none⟩) 1 1, .int .i64 2] 44)) (.cells #[.int .i64 s] 3)))
  have HN := hide (blk_new (w.alloc (.cells #[.slice (some ⟨w.heap.size + 1, 0, none⟩) 1 1, .int .i64 2] 44)) (.cells #[.int .i64 s] 3))
  rw [show (w.alloc (.cells #[.slice (some ⟨w.heap.size + 1, 0, none⟩) 1 1, .int .i64 2] 44)).heap.size = w.heap.size + 1 by simp] at HN
  have HR := hide (Below.blk (below_alloc (w.alloc (.cells #[.slice (some ⟨w.heap.size + 1, 0, none⟩) 1 1, .int .i64 2] 44)) (.cells #[.int .i64 s] 3)) (blk_new w (.cells #[.slice (some ⟨w.heap.size + 1, 0, none⟩) 1 1, .int .i64 2] 44)))
  go_enter Try.func33, Try.ntmps33
  go_wp2_with fail
  refine bodyPost_ret (results_cell_row rfl _ _ w.heap.size _ _ (0, 0) _ rfl HR.out Try.underlying44 rfl (by kernel_rfl)) rfl ?_
  exact ⟨⟨w.heap.size + 1, rfl, Nat.le_succ _, HN.out⟩, HB.out⟩

set_option maxRecDepth 100000 in
set_option maxHeartbeats 1600000 in
theorem same_at (l : Lt) (a : Option Addr) (c : Nat) (w : World) :
    Calls Try.prog 37 #[.agg #[.slice a l.ins.length c, .int .i64 l.table]] w fun e w' => e = .returned (.bool (sameL l)) ∧ Below w.heap.size w w' := by
  obtain ⟨ins, t⟩ := l
  have HB := hide (below_alloc w (.cells #[.slice a ins.length c, .int .i64 t] 44))
  by_cases h : ins.length = 1
  · have hb : ((ins.length : Int) == 1) = true := by simp [h]
    have HS : Hid (sameL ⟨ins, t⟩ = (t == 2)) := hide (by simp [sameL, h])
    clear h
    go_enter Try.func37, Try.ntmps37
    go_wp2_with fail
    go_ret
    exact ⟨ret_bool HS.out.symm, HB.out⟩
  · have hb : ((ins.length : Int) == 1) = false := beq_eq_false_iff_ne.2 (by omega)
    have HS : Hid (sameL ⟨ins, t⟩ = false) := hide (by simp [sameL, h])
    clear h
    go_enter Try.func37, Try.ntmps37
    go_wp2_with fail
    go_ret
    exact ⟨ret_bool HS.out.symm, HB.out⟩

set_option maxRecDepth 100000 in
set_option maxHeartbeats 1600000 in
theorem free_at (l : Lt) (a : Option Addr) (c : Nat) (w : World) :
    Calls Try.prog 45 #[.agg #[.slice a l.ins.length c, .int .i64 l.table]] w fun e w' => e = .returned (.bool (freeL l)) ∧ Below w.heap.size w w' := by
  have HB := hide (below_alloc w (.cells #[.slice a l.ins.length c, .int .i64 l.table] 44))
  have HC := hide (same_at l a c (w.alloc (.cells #[.slice a l.ins.length c, .int .i64 l.table] 44)))
  obtain ⟨ins, t⟩ := l
  simp only at HB HC
  by_cases h : ins.length = 0
  · have hb : ((ins.length : Int) == 0) = true := by simp [h]
    have HS : Hid (freeL ⟨ins, t⟩ = true) := hide (by simp [freeL, h])
    clear h
    go_enter Try.func45, Try.ntmps45
    go_wp2_with fail
    go_ret
    exact ⟨ret_bool HS.out.symm, HB.out⟩
  · have hb : ((ins.length : Int) == 0) = false := beq_eq_false_iff_ne.2 (by omega)
    have HS : Hid (freeL ⟨ins, t⟩ = sameL ⟨ins, t⟩) := hide (by simp [freeL, h])
    clear h
    go_enter Try.func45, Try.ntmps45
    go_wp2_with fail
    refine HC.out.mono ?_
    rintro e w1 ⟨rfl, hb1⟩
    have HB2 := hide (Below.step HB.out hb1)
    clear hb1
    go_wp2_with fail
    go_ret
    exact ⟨ret_bool HS.out.symm, HB2.out⟩

set_option maxRecDepth 100000 in
set_option maxHeartbeats 1600000 in
theorem gated_at (op : Int) (a b : Bool) (w : World) :
    Calls Try.prog 52 #[.int .i64 op, .bool a, .bool b] w fun e w' => e = .returned (.bool (gatedP op a b)) ∧ w' = w := by
  by_cases h5 : op = 5
  · subst h5
    cases a <;> cases b
    all_goals
      go_enter Try.func52, Try.ntmps52
      go_wp2_with fail
      go_ret
      exact ⟨rfl, rfl⟩
  by_cases h6 : op = 6
  · subst h6
    cases a <;> cases b
    all_goals
      go_enter Try.func52, Try.ntmps52
      go_wp2_with fail
      go_ret
      exact ⟨rfl, rfl⟩
  by_cases h7 : op = 7
  · subst h7
    cases a <;> cases b
    all_goals
      go_enter Try.func52, Try.ntmps52
      go_wp2_with fail
      go_ret
      exact ⟨rfl, rfl⟩
  · have q5 : (op == 5) = false := beq_eq_false_iff_ne.2 h5
    have q6 : (op == 6) = false := beq_eq_false_iff_ne.2 h6
    have q7 : (op == 7) = false := beq_eq_false_iff_ne.2 h7
    have HG : Hid (gatedP op a b = !a) := hide (by simp [gatedP, h5, h6, h7])
    clear h5 h6 h7
    go_enter Try.func52, Try.ntmps52
    go_wp2_with fail
    go_ret
    exact ⟨ret_bool HG.out.symm, rfl⟩

/-- where a number stands first -/
def idxOf (l : List Int) (v : Int) : Nat → Option Nat
  | 0 => none
  | k + 1 => match idxOf l v k with
    | some i => some i
    | none => if outAt l k == v then some k else none
theorem idxOf_some {l : List Int} {v : Int} : ∀ {k i : Nat}, idxOf l v k = some i → i < k ∧ outAt l i = v
  | 0, i, h => by cases h
  | k + 1, i, h => by
    simp only [idxOf] at h
    cases hq : idxOf l v k with
    | some j =>
      rw [hq] at h
      cases h
      have := idxOf_some hq
      exact ⟨by omega, this.2⟩
    | none =>
      rw [hq] at h
      simp only at h
      by_cases e : outAt l k == v
      · rw [if_pos e] at h; cases h; exact ⟨by omega, by simpa using e⟩
      · rw [if_neg e] at h; cases h
theorem idxOf_more {l : List Int} {v : Int} {k i : Nat} (h : idxOf l v k = some i) : ∀ n, k ≤ n → idxOf l v n = some i
  | 0, hn => by obtain rfl : k = 0 := by omega
                exact h
  | n + 1, hn => by
    by_cases e : k = n + 1
    · subst e; exact h
    · simp only [idxOf, idxOf_more h n (by omega)]

set_option maxRecDepth 100000 in
set_option maxHeartbeats 1600000 in
theorem index_at {S : Nat → Prop} (l : List Int) (v : Int) (a : Option Addr) (c : Nat) (w : World) (hl : Lies S w a (intsC l)) (hb : l.length ≤ 100000) :
    Calls Try.prog 51 #[.slice a l.length c, .int .i64 v] w fun e w' => e = .returned (.int .i64 (match idxOf l v l.length with | some i => (i : Int) | none => -1)) ∧ w' = w := by
  have HL := hide hl
  clear hl
  generalize hr : (match idxOf l v l.length with | some i => (i : Int) | none => -1) = r at *
  have HR := hide hr
  clear hr
  go_enter Try.func51, Try.ntmps51
  go_wp2_with fail
  go_loop [5, 8] (fun _ i => ∃ k : Nat, k ≤ l.length ∧ i = .int .i64 k ∧ Hid (idxOf l v k = none)) (fun _ i => l.length - (intOf i).toNat)
  case atStart => exact ⟨0, Nat.zero_le _, rfl, hide rfl⟩
  case round =>
    obtain ⟨k, hk, rfl, hno⟩ := hrel
    by_cases hlt : k < l.length
    · have hki : (k : Int) < (l.length : Int) := by omega
      obtain ⟨b, off, ha, _, _, n0⟩ := HL.out.ints hlt
      have HA := hide ha
      rw [HA.out]
      clear ha
      cases he : (v == outAt l k) with
      | true =>
        have HT : Hid (r = (k : Int)) := hide (by
          have h1 : idxOf l v (k + 1) = some k := by
            simp only [idxOf, hno.out]
            rw [if_pos (by rw [beq_iff_eq] at he ⊢; exact he.symm)]
          rw [← HR.out, idxOf_more h1 l.length hlt])
        go_wp2_with fail
        go_ret
        exact ⟨ret_int HT.out.symm, rfl⟩
      | false =>
        have HT : Hid (idxOf l v (k + 1) = none) := hide (by
          simp only [idxOf, hno.out]
          rw [if_neg (by rw [beq_eq_false_iff_ne] at he; simp; exact fun e => he e.symm)])
        go_wp2_with fail
        exact ⟨⟨k + 1, by omega, by go_num, HT⟩, by simp [intOf]; omega⟩
    · have HT : Hid (r = -1) := hide (by
        have e : k = l.length := by omega
        have := hno.out
        rw [e] at this
        rw [← HR.out, this])
      go_wp2_with fail
      go_ret
      exact ⟨ret_int HT.out.symm, rfl⟩
end Go.Proofs.Ytacgepdmhdcdkaa
set_option linter.unusedSimpArgs false
set_option linter.unusedVariables false
namespace Go.Proofs.Ytacgepdmhdcdkaa
open Go.RowKit

/-- the number with one bit more, at i -/
def wholeP (i s k : Nat) : Nat := (k - k % 2 ^ i) * 2 + s * 2 ^ i + k % 2 ^ i
def halfTo (t : Int) (i s : Nat) : Nat → Nat
  | 0 => 0
  | k + 1 => halfTo t i s k + (if t / ((2 ^ wholeP i s k : Nat) : Int) % 2 == 1 then 2 ^ k else 0)
def halfP (t : Int) (n i s : Nat) : Nat := halfTo t i s (2 ^ (n - 1))
theorem halfTo_lt (t : Int) (i s k : Nat) : halfTo t i s k < 2 ^ k := by
  induction k with
  | zero => simp [halfTo]
  | succ k ih => unfold halfTo; rw [Nat.pow_succ]; split <;> omega
theorem low_at : ∀ k : Nat, k < 8 → ∀ i : Nat, i < 4 → bits .and .i64 (k : Int) (wrap64 (wrap64 (2 ^ i) - 1)) = ((k % 2 ^ i : Nat) : Int) := by decide +kernel
theorem whole_at : ∀ k : Nat, k < 8 → ∀ i : Nat, i < 4 → ∀ s : Nat, s < 2 → bits .or .i64 (bits .or .i64 (((k : Int) - ((k % 2 ^ i : Nat) : Int)) * 2) (wrap64 ((s : Int) * 2 ^ i))) ((k % 2 ^ i : Nat) : Int) = ((wholeP i s k : Nat) : Int) := by decide +kernel
theorem whole_lt : ∀ k : Nat, k < 8 → ∀ i : Nat, i < 4 → ∀ s : Nat, s < 2 → wholeP i s k < 16 := by decide +kernel

theorem half_or (h k : Nat) (t : Int) (wh : Nat) (hk : k < 8) (hl : h < 2 ^ k) : bits .or .i64 (h : Int) (wrap64 (bits .and .i64 (t / 2 ^ wh) 1 * 2 ^ k)) = ((h + (if t / ((2 ^ wh : Nat) : Int) % 2 == 1 then 2 ^ k else 0) : Nat) : Int) := by
  have e : (2 : Int) ^ wh = ((2 ^ wh : Nat) : Int) := by simp
  have hp : 2 ^ k ≤ 128 := Nat.pow_le_pow_right (n := 2) (by decide) (show k ≤ 7 by omega)
  rw [i64_mask1T, e]
  generalize t / ((2 ^ wh : Nat) : Int) = d at *
  rcases Int.emod_two_eq d with h0 | h1
  · rw [h0]
    have e2 : wrap64 (0 * 2 ^ k) = ((0 : Nat) : Int) := by rw [Int.zero_mul]; unfold wrap64; omega
    rw [e2, i64_orT _ _ (by omega) (by omega), Nat.or_zero]; rfl
  · rw [h1]
    have e2 : wrap64 (1 * 2 ^ k) = ((2 ^ k : Nat) : Int) := by
      have e3 : (1 : Int) * 2 ^ k = ((2 ^ k : Nat) : Int) := by simp
      rw [e3]; generalize (2 ^ k : Nat) = m at *; unfold wrap64; omega
    rw [e2, i64_orT _ _ (by omega) (by omega), Nat.or_comm, nat_join k (2 ^ k) h (Nat.mod_self _) hl]
    congr 1
    simp only [beq_self_eq_true, if_true]; omega

set_option maxRecDepth 100000 in
set_option maxHeartbeats 3200000 in
theorem half_at (a : Option Addr) (n c : Nat) (t : Int) (i s : Nat) (w : World) (hn : 0 < n) (hn4 : n ≤ 4) (hi : i < n) (hs : s < 2) (ht : 0 ≤ t) (htl : t < 65536) :
    Calls Try.prog 63 #[.agg #[.slice a n c, .int .i64 t], .int .i64 i, .int .i64 s] w fun e w' => e = .returned (.int .i64 (halfP t n i s)) ∧ Below w.heap.size w w' := by
  have HB := hide (below_alloc w (.cells #[.slice a n c, .int .i64 t] 44))
  have HN := hide (blk_new w (.cells #[.slice a n c, .int .i64 t] 44))
  have HP : Hid (∀ W : World, W = w.alloc (.cells #[.slice a n c, .int .i64 t] 44) → W.cell? ⟨w.heap.size, 1, none⟩ = some (.int .i64 t)) := hide fun W e => by subst e; rw [blk_cell HN.out]; rfl
  obtain ⟨m, rfl⟩ : ∃ m, n = m + 1 := ⟨n - 1, by omega⟩
  have HM : Hid (2 ^ (m + 1 - 1) = 2 ^ m) := hide rfl
  have hm3 : m ≤ 3 := by omega
  have hp8 : 2 ^ m ≤ 8 := Nat.pow_le_pow_right (n := 2) (by decide) hm3
  go_enter Try.func63, Try.ntmps63
  go_wp2_with fail
  rw [shl_nat m hp8]
  have HW := hide (HP.out _ rfl)
  generalize w.alloc (.cells #[.slice a (m + 1) c, .int .i64 t] 44) = W at *
  have HPE : Hid (halfP t (m + 1) i s = halfTo t i s (2 ^ m)) := hide rfl
  generalize hpm : 2 ^ m = P at *
  clear hpm HP HN HM
  go_loop [7, 8, 16] (fun v _ i' => ∃ k : Nat, k ≤ P ∧ i' = .int .i64 k ∧ v = .int .i64 (halfTo t i s k)) (fun _ _ i' => P - (intOf i').toNat)
  case atStart => exact ⟨0, Nat.zero_le _, rfl, rfl⟩
  case round =>
    obtain ⟨k, hk, rfl, rfl⟩ := hrel
    have x1 := HW.out
    by_cases hlt : k < P
    · have hki : (k : Int) < (P : Int) := by omega
      have hlo := low_at k (by omega) i (by omega)
      have hwh := whole_at k (by omega) i (by omega) s hs
      have hwl := whole_lt k (by omega) i (by omega) s hs
      have hhl := halfTo_lt t i s k
      have HNX : Hid (halfTo t i s (k + 1) = halfTo t i s k + (if t / ((2 ^ wholeP i s k : Nat) : Int) % 2 == 1 then 2 ^ k else 0)) := hide rfl
      have hlk : k % 2 ^ i ≤ k := Nat.mod_le _ _
      generalize wholeP i s k = wh at *
      generalize k % 2 ^ i = lo at *
      generalize halfTo t i s k = hk0 at *
      have HHL := hide hhl
      go_wp2_with fail
      refine ⟨⟨k + 1, by omega, by go_num, ?_⟩, by simp [intOf]; omega⟩
      rw [HNX.out, half_or hk0 k t wh (by omega) HHL.out]
    · have HK : Hid (k = P) := hide (by omega)
      go_wp2_with fail
      go_ret
      exact ⟨ret_int (by rw [HPE.out, HK.out]), HB.out⟩
end Go.Proofs.Ytacgepdmhdcdkaa
set_option linter.unusedSimpArgs false
set_option linter.unusedVariables false
namespace Go.Proofs.Ytacgepdmhdcdkaa

/-- the number of bits, the first one the least -/
def nb : List Bool → Nat
  | [] => 0
  | b :: l => (if b then 1 else 0) + 2 * nb l
theorem idxTo_nb (look : Nat → Bool) : ∀ (ins : List Int) (k : Nat), k ≤ ins.length → idxTo look ins k = nb ((ins.take k).map fun v => look v.toNat) := by
  have snoc : ∀ (l : List Bool) (b : Bool), nb (l ++ [b]) = nb l + (if b then 2 ^ l.length else 0) := by
    intro l b
    induction l with
    | nil => cases b <;> rfl
    | cons c l ih =>
      simp only [List.cons_append, nb, ih, List.length_cons, Nat.pow_succ]
      cases b
      · simp
      · simp; omega
  intro ins k
  induction k with
  | zero => intro _; simp [idxTo, nb]
  | succ k ih =>
    intro hk
    have hlt : k < ins.length := hk
    simp only [idxTo]
    rw [ih (by omega), List.take_succ_eq_append_getElem hlt, List.map_append, List.map_cons, List.map_nil, snoc]
    have e : outAt ins k = ins[k] := by unfold outAt; rw [List.getElem?_eq_getElem hlt]; rfl
    rw [e, List.length_map, List.length_take, Nat.min_eq_left (by omega)]
theorem whole_zero (s k : Nat) : wholeP 0 s k = s + 2 * k := by
  unfold wholeP; rw [Nat.pow_zero, Nat.mod_one]; omega
theorem whole_succ (i s c k : Nat) (hc : c < 2) : wholeP (i + 1) s (c + 2 * k) = c + 2 * wholeP i s k := by
  unfold wholeP
  have hP : 0 < 2 ^ i := Nat.pow_pos (by decide)
  rw [Nat.pow_succ]
  generalize 2 ^ i = P at *
  have hr : k % P < P := Nat.mod_lt _ hP
  have hk : P * (k / P) + k % P = k := Nat.div_add_mod k P
  have hm : (c + 2 * k) % (P * 2) = c + 2 * (k % P) := by
    have e : c + 2 * k = (c + 2 * (k % P)) + (P * 2) * (k / P) := by
      have : (P * 2) * (k / P) = 2 * (P * (k / P)) := by rw [Nat.mul_comm P 2, Nat.mul_assoc]
      rw [this]; omega
    rw [e, Nat.add_mul_mod_self_left, Nat.mod_eq_of_lt (by omega)]
  rw [hm]
  have hle : k % P ≤ k := Nat.mod_le _ _
  generalize k % P = r at *
  have e2 : s * (P * 2) = 2 * (s * P) := by rw [← Nat.mul_assoc, Nat.mul_comm]
  rw [e2]
  generalize s * P = sp at *
  omega
theorem nb_insert (b : Bool) : ∀ (i : Nat) (l : List Bool), i ≤ l.length → nb (l.take i ++ b :: l.drop i) = wholeP i (if b then 1 else 0) (nb l)
  | 0, l, _ => by rw [whole_zero]; simp [nb]
  | i + 1, [], h => absurd h (by simp)
  | i + 1, c :: l, h => by
    have ih := nb_insert b i l (by simpa using h)
    simp only [List.take_succ_cons, List.drop_succ_cons, List.cons_append, nb, ih]
    rw [whole_succ _ _ _ _ (by split <;> omega)]
theorem halfTo_bit (t : Int) (i s : Nat) : ∀ (m k : Nat), k < m → halfTo t i s m / 2 ^ k % 2 = (if t / ((2 ^ wholeP i s k : Nat) : Int) % 2 == 1 then 1 else 0)
  | 0, k, h => absurd h (Nat.not_lt_zero _)
  | m + 1, k, h => by
    have hlt := halfTo_lt t i s m
    simp only [halfTo]
    by_cases e : k = m
    · subst e
      have hp : 0 < 2 ^ k := Nat.pow_pos (by decide)
      split
      · rw [Nat.add_div_right _ hp, Nat.div_eq_of_lt hlt]
      · rw [Nat.add_zero, Nat.div_eq_of_lt hlt]
    · have ih := halfTo_bit t i s m k (by omega)
      obtain ⟨j, rfl⟩ : ∃ j, m = k + 1 + j := ⟨m - k - 1, by omega⟩
      split
      · have hp : 0 < 2 ^ k := Nat.pow_pos (by decide)
        have e2 : 2 ^ (k + 1 + j) = 2 ^ k * (2 * 2 ^ j) := by rw [Nat.pow_add, Nat.pow_succ, Nat.mul_assoc]
        rw [e2, Nat.add_mul_div_left _ _ hp, Nat.add_mul_mod_self_left]
        exact ih
      · rw [Nat.add_zero]; exact ih
/-- without a signal on which nothing hangs -/
theorem bitL_short (look : Nat → Bool) (ins : List Int) (t : Int) (i : Nat) (hi : i < ins.length) (he : halfP t ins.length i 0 = halfP t ins.length i 1) :
    bitL look ⟨ins.eraseIdx i, (halfP t ins.length i 0 : Nat)⟩ = bitL look ⟨ins, t⟩ := by
  have hlen : (ins.eraseIdx i).length = ins.length - 1 := List.length_eraseIdx_of_lt hi
  have h1 : idxTo look ins ins.length = wholeP i (if look (outAt ins i).toNat then 1 else 0) (idxTo look (ins.eraseIdx i) (ins.eraseIdx i).length) := by
    rw [idxTo_nb look ins _ (Nat.le_refl _), idxTo_nb look (ins.eraseIdx i) _ (Nat.le_refl _), List.take_length, List.take_length, ← nb_insert _ _ _ (by rw [List.length_map, hlen]; omega)]
    congr 1
    have hout : outAt ins i = ins[i] := by unfold outAt; rw [List.getElem?_eq_getElem hi]; rfl
    rw [hout, List.eraseIdx_eq_take_drop_succ, List.map_append]
    have htl : ((ins.take i).map fun v => look v.toNat).length = i := by simp; omega
    rw [List.take_append_of_le_length (by rw [htl]; exact Nat.le_refl _), List.drop_append_of_le_length (by rw [htl]; exact Nat.le_refl _), List.take_of_length_le (by rw [htl]; exact Nat.le_refl _), List.drop_of_length_le (by rw [htl]; exact Nat.le_refl _), List.nil_append]
    conv => lhs; rw [← List.take_append_drop i ins, List.map_append]
    rw [List.drop_eq_getElem_cons hi, List.map_cons]
  have hk := idxTo_lt look (ins.eraseIdx i) (ins.eraseIdx i).length
  simp only [bitL]
  rw [h1]
  generalize idxTo look (ins.eraseIdx i) (ins.eraseIdx i).length = k at *
  rw [hlen] at hk
  have hb : ∀ s : Nat, s < 2 → ((halfP t ins.length i s : Nat) : Int) / ((2 ^ k : Nat) : Int) % 2 = (if t / ((2 ^ wholeP i s k : Nat) : Int) % 2 == 1 then 1 else 0) := fun s hs => by
    have := halfTo_bit t i s _ k hk
    unfold halfP
    have e : ((halfTo t i s (2 ^ (ins.length - 1)) : Nat) : Int) / ((2 ^ k : Nat) : Int) % 2 = ((halfTo t i s (2 ^ (ins.length - 1)) / 2 ^ k % 2 : Nat) : Int) := by
      rw [Int.natCast_emod, Int.natCast_ediv]; rfl
    rw [e, this]
    split <;> rfl
  cases hs : look (outAt ins i).toNat with
  | true =>
    rw [he, hb 1 (by decide)]
    simp only [if_true]
    split
    · rename_i h; rw [h]; rfl
    · rename_i h; simp only [Bool.not_eq_true] at h; rw [h]; rfl
  | false =>
    rw [hb 0 (by decide)]
    simp only [Bool.false_eq_true, if_false]
    split
    · rename_i h; rw [h]; rfl
    · rename_i h; simp only [Bool.not_eq_true] at h; rw [h]; rfl
end Go.Proofs.Ytacgepdmhdcdkaa
set_option linter.unusedSimpArgs false
set_option linter.unusedVariables false
namespace Go.Proofs.Ytacgepdmhdcdkaa
open Go.RowKit

/-- what join looks at: a number's bit, where the signal stands first -/
def lookJ (l : List Int) (k : Nat) (s : Nat) : Bool := match idxOf l s l.length with
  | some i => (k : Int) / ((2 ^ i : Nat) : Int) % 2 == 1
  | none => false
structure JkAt (X1 X2 : Nat) (a : Option Addr) (c : Nat) (l : List Int) (k : Nat) (w : World) : Prop where
  c1 : w.cell? ⟨X1, 0, none⟩ = some (.int .i64 k)
  c2 : w.cell? ⟨X2, 0, none⟩ = some (.slice a l.length c)
  row : Lies AnyB w a (intsC l)
theorem JkAt.below {X1 X2 : Nat} {a : Option Addr} {c : Nat} {l : List Int} {k : Nat} {w w' : World} (h : JkAt X1 X2 a c l k w) (hb : Below w.heap.size w w') : JkAt X1 X2 a c l k w' :=
  ⟨(hb.cell (cell_lt h.c1)).trans h.c1, (hb.cell (cell_lt h.c2)).trans h.c2, h.row.below hb⟩

set_option maxRecDepth 100000 in
set_option maxHeartbeats 3200000 in
theorem jlook_at {X1 X2 : Nat} {a : Option Addr} {c : Nat} {l : List Int} {k : Nat} {w : World} (h : JkAt X1 X2 a c l k w) (hl : l.length ≤ 8) (s i : Nat) (hi : idxOf l s l.length = some i) :
    Calls Try.prog 50 #[.int .i64 s, .pointer (some ⟨X1, 0, none⟩), .pointer (some ⟨X2, 0, none⟩)] w fun e w' => e = .returned (.bool (lookJ l k s)) ∧ ∃ m, w' = w.drewN m := by
  have HC := hide fun n => index_at l s a c (w.drewN n) (h.row.below (Below.drewNs (Below.refl _ _) n)) (by omega)
  rw [hi] at HC
  have c1 := h.c1
  have c2 := h.c2
  have HR : Hid (lookJ l k s = ((k : Int) / ((2 ^ i : Nat) : Int) % 2 == 1)) := hide (by simp only [lookJ, hi])
  have hil : i < l.length := (idxOf_some hi).1
  clear h hi
  simp only at HC
  go_enter Try.func50, Try.ntmps50
  go_wp2_with fail
  go_quiet (with_reducible exact Calls.quiet_of_same (HC.out _))
  go_wp2_with fail
  go_ret
  refine ⟨ret_bool ?_, _, rfl⟩
  rw [HR.out, i64_mask1T]
  congr 2

set_option maxRecDepth 100000 in
set_option maxHeartbeats 3200000 in
theorem jbit_at {S : Nat → Prop} {X1 X2 : Nat} {la : Option Addr} {lc : Nat} {l : List Int} {k0 : Nat} {w : World} (hj : JkAt X1 X2 la lc l k0 w) (hl8 : l.length ≤ 8) (a : Option Addr) (ins : List Int) (c : Nat) (tb : Int) (hl : Lies S w a (intsC ins)) (hi4 : (ins.length : Int) ≤ 4) (hin : ∀ i, i < ins.length → ∃ q j : Nat, outAt ins i = q ∧ idxOf l q l.length = some j) (ht0 : 0 ≤ tb) (ht1 : tb < 65536) :
    Calls Try.prog 30 #[.agg #[.slice a ins.length c, .int .i64 tb], .func (.func 50) #[] #[.pointer (some ⟨X1, 0, none⟩), .pointer (some ⟨X2, 0, none⟩)]] w fun e w' => e = .returned (.bool (bitL (lookJ l k0) ⟨ins, tb⟩)) ∧ Below w.heap.size w w' := by
  have HB := hide (below_alloc w (.cells #[.slice a ins.length c, .int .i64 tb] 44))
  have HL := hide hl
  have HJ := hide hj
  have HI := hide hin
  have HN := hide (blk_new w (.cells #[.slice a ins.length c, .int .i64 tb] 44))
  clear hl hin hj
  go_enter Try.func30, Try.ntmps30
  go_wp2_with fail
  generalize (w.alloc (.cells #[.slice a ins.length c, .int .i64 tb] 44)) = W at *
  have HBW : Hid (Below W.heap.size W W) := hide (Below.refl _ _)
  go_loopw [5, 6, 7, 11] (fun v _ _ i wr => ∃ k : Nat, k ≤ ins.length ∧ i = .int .i64 k ∧ v = .int .i64 (idxTo (lookJ l k0) ins k) ∧ Hid (Below W.heap.size W wr)) (fun _ _ _ i _ => ins.length - (intOf i).toNat)
  case atStart => exact ⟨0, Nat.zero_le _, rfl, rfl, HBW⟩
  case round =>
    clear HBW
    obtain ⟨k, hk2, rfl, rfl, hbw⟩ := hrel
    by_cases hlt : k < ins.length
    · have hki : (k : Int) < (ins.length : Int) := by omega
      obtain ⟨b, off, ha, _, hbl, n0⟩ := (HL.out.below (Below.step HB.out hbw.out)).ints hlt
      obtain ⟨q, j, hq, hj⟩ := HI.out k hlt
      have HA := hide ha
      rw [HA.out]
      have hidx := idxTo_lt (lookJ l k0) ins k
      have hp8 : 2 ^ k ≤ 8 := Nat.pow_le_pow_right (n := 2) (by decide) (show k ≤ 3 by omega)
      have HOR : Hid (lookJ l k0 q = true → bits .or .i64 ((idxTo (lookJ l k0) ins k : Nat) : Int) ((2 ^ k : Nat) : Int) = ((idxTo (lookJ l k0) ins (k + 1) : Nat) : Int)) := hide fun hh => idx_or _ _ _ (by omega) (by rw [hq, Int.toNat_natCast]; exact hh)
      have HNO : Hid (lookJ l k0 q = false → idxTo (lookJ l k0) ins (k + 1) = idxTo (lookJ l k0) ins k) := hide fun hh => by simp only [idxTo, hq, Int.toNat_natCast, hh]; rfl
      rw [hq] at n0
      have HC := hide (jlook_at (HJ.out.below (Below.step HB.out hbw.out)) hl8 q j hj)
      clear ha hbl hq hj
      cases hs : lookJ l k0 q with
      | true =>
        have HO2 := hide (HOR.out hs)
        rw [hs] at HC
        clear hs HOR HNO
        go_wp2_with fail
        refine HC.out.mono ?_
        rintro e w4 ⟨rfl, mq, rfl⟩
        have HB4 := hide (Below.drewNs hbw.out mq)
        go_wp2_with fail
        refine ⟨⟨k + 1, by omega, by go_num, ?_, HB4⟩, by simp [intOf]; omega⟩
        rw [← HO2.out, shl_nat k hp8]
      | false =>
        have HO2 := hide (HNO.out hs)
        rw [hs] at HC
        clear hs HOR HNO
        go_wp2_with fail
        refine HC.out.mono ?_
        rintro e w4 ⟨rfl, mq, rfl⟩
        have HB4 := hide (Below.drewNs hbw.out mq)
        go_wp2_with fail
        exact ⟨⟨k + 1, by omega, by go_num, by rw [HO2.out], HB4⟩, by simp [intOf]; omega⟩
    · have HK : Hid (k = ins.length) := hide (by omega)
      have x1 : wr.cell? ⟨w.heap.size, 1, none⟩ = some (.int .i64 tb) := by rw [blk_cell (Below.blk hbw.out HN.out)]; rfl
      have hidx := idxTo_lt (lookJ l k0) ins k
      go_wp2_with fail
      go_ret
      refine ⟨ret_bool ?_, Below.step HB.out hbw.out⟩
      rw [HK.out] at hidx ⊢
      have hp16 : 2 ^ ins.length ≤ 16 := Nat.pow_le_pow_right (n := 2) (by decide) (show ins.length ≤ 4 by omega)
      rw [i64_mask1T, Nat.min_eq_left (by omega)]
      simp only [bitL]
      congr 2
end Go.Proofs.Ytacgepdmhdcdkaa
set_option linter.unusedSimpArgs false
set_option linter.unusedVariables false
namespace Go.Proofs.Ytacgepdmhdcdkaa

theorem nb_bit : ∀ (l : List Bool) (i : Nat), i < l.length → nb l / 2 ^ i % 2 = (if l[i]?.getD false then 1 else 0)
  | [], i, h => absurd h (Nat.not_lt_zero _)
  | b :: l, 0, h => by
    simp only [nb, Nat.pow_zero, Nat.div_one, List.getElem?_cons_zero, Option.getD_some]
    cases b <;> simp <;> omega
  | b :: l, i + 1, h => by
    have ih := nb_bit l i (by simpa using h)
    simp only [nb, List.getElem?_cons_succ]
    have e : ((if b = true then 1 else 0) + 2 * nb l) / 2 ^ (i + 1) = nb l / 2 ^ i := by
      rw [Nat.pow_succ, Nat.mul_comm (2 ^ i) 2, ← Nat.div_div_eq_div_mul]
      congr 1
      split <;> omega
    rw [e]; exact ih
/-- what join looks at, at the number of what is looked at -/
theorem lookJ_idx (look : Nat → Bool) (l : List Int) (s i : Nat) (hi : idxOf l s l.length = some i) : lookJ l (idxTo look l l.length) s = look s := by
  obtain ⟨h1, h2⟩ := idxOf_some hi
  have hb := nb_bit (l.map fun v => look v.toNat) i (by simpa using h1)
  rw [idxTo_nb look l _ (Nat.le_refl _), List.take_length]
  simp only [lookJ, hi]
  have e : ((nb (l.map fun v => look v.toNat) : Nat) : Int) / ((2 ^ i : Nat) : Int) % 2 = ((nb (l.map fun v => look v.toNat) / 2 ^ i % 2 : Nat) : Int) := by
    rw [Int.natCast_emod, Int.natCast_ediv]; rfl
  rw [e, hb]
  have hv : (l.map fun v => look v.toNat)[i]?.getD false = look s := by
    rw [List.getElem?_map, List.getElem?_eq_getElem h1]
    have : l[i] = (s : Int) := by rw [← h2]; unfold outAt; rw [List.getElem?_eq_getElem h1]; rfl
    rw [this]; simp
  rw [hv]
  cases look s <;> rfl
theorem idxTo_congr {f g : Nat → Bool} {ins : List Int} : ∀ k, (∀ i, i < k → f (outAt ins i).toNat = g (outAt ins i).toNat) → idxTo f ins k = idxTo g ins k
  | 0, _ => rfl
  | k + 1, h => by simp only [idxTo]; rw [idxTo_congr k fun i hi => h i (by omega), h k (by omega)]
theorem bitL_congr {f g : Nat → Bool} {l : Lt} (h : ∀ i, i < l.ins.length → f (outAt l.ins i).toNat = g (outAt l.ins i).toNat) : bitL f l = bitL g l := by
  simp only [bitL]; rw [idxTo_congr _ h]
/-- the joined table, as far as it is told -/
def joinTo (op : Int) (l : List Int) (a b : Lt) : Nat → Nat
  | 0 => 0
  | k + 1 => joinTo op l a b k + (if gatedP op (bitL (lookJ l k) a) (bitL (lookJ l k) b) then 2 ^ k else 0)
theorem joinTo_lt (op : Int) (l : List Int) (a b : Lt) (k : Nat) : joinTo op l a b k < 2 ^ k := by
  induction k with
  | zero => simp [joinTo]
  | succ k ih => unfold joinTo; rw [Nat.pow_succ]; split <;> omega
theorem joinTo_bit (op : Int) (l : List Int) (a b : Lt) : ∀ (m k : Nat), k < m → joinTo op l a b m / 2 ^ k % 2 = (if gatedP op (bitL (lookJ l k) a) (bitL (lookJ l k) b) then 1 else 0)
  | 0, k, h => absurd h (Nat.not_lt_zero _)
  | m + 1, k, h => by
    have hlt := joinTo_lt op l a b m
    simp only [joinTo]
    by_cases e : k = m
    · subst e
      have hp : 0 < 2 ^ k := Nat.pow_pos (by decide)
      split
      · rw [Nat.add_div_right _ hp, Nat.div_eq_of_lt hlt]
      · rw [Nat.add_zero, Nat.div_eq_of_lt hlt]
    · have ih := joinTo_bit op l a b m k (by omega)
      obtain ⟨j, rfl⟩ : ∃ j, m = k + 1 + j := ⟨m - k - 1, by omega⟩
      split
      · have hp : 0 < 2 ^ k := Nat.pow_pos (by decide)
        have e2 : 2 ^ (k + 1 + j) = 2 ^ k * (2 * 2 ^ j) := by rw [Nat.pow_add, Nat.pow_succ, Nat.mul_assoc]
        rw [e2, Nat.add_mul_div_left _ _ hp, Nat.add_mul_mod_self_left]
        exact ih
      · rw [Nat.add_zero]; exact ih
/-- all of a table's signals are among these -/
def Among (l : List Int) (a : Lt) : Prop := ∀ i, i < a.ins.length → ∃ q j : Nat, outAt a.ins i = q ∧ idxOf l q l.length = some j
/-- A GATE OF TWO TABLES IS ONE TABLE -/
theorem bitL_join (look : Nat → Bool) (op : Int) (l : List Int) (a b : Lt) (ha : Among l a) (hb : Among l b) : bitL look ⟨l, (joinTo op l a b (2 ^ l.length) : Nat)⟩ = gatedP op (bitL look a) (bitL look b) := by
  have hk := idxTo_lt look l l.length
  have hj := joinTo_bit op l a b (2 ^ l.length) (idxTo look l l.length) hk
  have hc : ∀ x : Lt, Among l x → bitL (lookJ l (idxTo look l l.length)) x = bitL look x := fun x hx => bitL_congr fun i hi => by
    obtain ⟨q, j, e1, e2⟩ := hx i hi
    rw [e1, Int.toNat_natCast]
    exact lookJ_idx look l q j e2
  rw [hc a ha, hc b hb] at hj
  generalize gatedP op (bitL look a) (bitL look b) = r at *
  simp only [bitL]
  generalize idxTo look l l.length = k at *
  have e : ((joinTo op l a b (2 ^ l.length) : Nat) : Int) / ((2 ^ k : Nat) : Int) % 2 = ((joinTo op l a b (2 ^ l.length) / 2 ^ k % 2 : Nat) : Int) := by
    rw [Int.natCast_emod, Int.natCast_ediv]; rfl
  rw [e, hj]
  cases r <;> rfl
end Go.Proofs.Ytacgepdmhdcdkaa
set_option linter.unusedSimpArgs false
set_option linter.unusedVariables false
namespace Go.Proofs.Ytacgepdmhdcdkaa

theorem idxOf_mem {l : List Int} {v : Int} (h : v ∈ l) : ∃ i, idxOf l v l.length = some i := by
  obtain ⟨k, hk, he⟩ := List.getElem_of_mem h
  have ho : outAt l k = v := by simp [outAt, hk, he]
  cases hq : idxOf l v k with
  | some i => exact ⟨i, idxOf_more hq _ (by omega)⟩
  | none =>
    have : idxOf l v (k + 1) = some k := by simp [idxOf, hq, ho]
    exact ⟨k, idxOf_more this _ (by omega)⟩
theorem among_of {m : List Int} {a : Lt} (h : ∀ x ∈ a.ins, 0 ≤ x ∧ x ∈ m) : Among m a := fun i hi => by
  have he : a.ins[i] = outAt a.ins i := by simp [outAt, hi]
  have hx := h a.ins[i] (List.getElem_mem _)
  rw [he] at hx
  obtain ⟨q, hq⟩ := Int.eq_ofNat_of_zero_le hx.1
  obtain ⟨j, hj⟩ := idxOf_mem hx.2
  exact ⟨q, j, hq, by rw [hq] at hj; exact hj⟩
/-- a way: a table of at most four signals, all there -/
structure Way (l : Lt) : Prop where
  n4 : l.ins.length ≤ 4
  t0 : 0 ≤ l.table
  t1 : l.table < (pow4 l.ins.length : Nat)
  pos : ∀ x ∈ l.ins, 0 ≤ x
/-- a table that does just the same, with no more signals -/
structure Less (l m : Lt) : Prop where
  way : Way m
  sem : ∀ look : Nat → Bool, bitL look m = bitL look l
  sub : ∀ x ∈ m.ins, x ∈ l.ins
  len : m.ins.length ≤ l.ins.length
theorem Less.refl {l : Lt} (h : Way l) : Less l l := ⟨h, fun _ => rfl, fun _ h => h, Nat.le_refl _⟩
theorem Less.trans {a b c : Lt} (h : Less a b) (k : Less b c) : Less a c := ⟨k.way, fun look => (k.sem look).trans (h.sem look), fun x hx => h.sub x (k.sub x hx), Nat.le_trans k.len h.len⟩
theorem pow4_half {n : Nat} (h : 0 < n) : 2 ^ 2 ^ (n - 1) = pow4 (n - 1) := rfl
theorem less_short {l : Lt} (h : Way l) {i : Nat} (hi : i < l.ins.length) (he : halfP l.table l.ins.length i 0 = halfP l.table l.ins.length i 1) : Less l ⟨l.ins.eraseIdx i, (halfP l.table l.ins.length i 0 : Nat)⟩ := by
  have hlen : (l.ins.eraseIdx i).length = l.ins.length - 1 := List.length_eraseIdx_of_lt hi
  have hlt := halfTo_lt l.table i 0 (2 ^ (l.ins.length - 1))
  refine ⟨⟨?_, ?_, ?_, ?_⟩, fun look => ?_, fun x hx => List.mem_of_mem_eraseIdx hx, ?_⟩
  · show (l.ins.eraseIdx i).length ≤ 4
    have := h.n4; omega
  · show (0 : Int) ≤ ((halfP l.table l.ins.length i 0 : Nat) : Int)
    omega
  · show ((halfP l.table l.ins.length i 0 : Nat) : Int) < (pow4 (l.ins.eraseIdx i).length : Nat)
    rw [hlen]
    unfold halfP pow4
    omega
  · intro x hx; exact h.pos x (List.mem_of_mem_eraseIdx hx)
  · obtain ⟨ins, t⟩ := l
    exact bitL_short look ins t i hi he
  · show (l.ins.eraseIdx i).length ≤ l.ins.length
    omega
/-- a gate of two tables -/
structure Joined2 (op : Int) (a b m : Lt) : Prop where
  way : Way m
  sem : ∀ look : Nat → Bool, bitL look m = gatedP op (bitL look a) (bitL look b)
  sub : ∀ x ∈ m.ins, x ∈ a.ins ∨ x ∈ b.ins
theorem joined_of {op : Int} {a b : Lt} {m : List Int} (ha : Way a) (hb : Way b) (h4 : m.length ≤ 4) (hm : ∀ x, x ∈ m ↔ x ∈ a.ins ∨ x ∈ b.ins) : Joined2 op a b ⟨m, (joinTo op m a b (2 ^ m.length) : Nat)⟩ := by
  have hA : Among m a := among_of fun x hx => ⟨ha.pos x hx, (hm x).2 (.inl hx)⟩
  have hB : Among m b := among_of fun x hx => ⟨hb.pos x hx, (hm x).2 (.inr hx)⟩
  have hlt := joinTo_lt op m a b (2 ^ m.length)
  refine ⟨⟨h4, ?_, ?_, fun x hx => ?_⟩, fun look => bitL_join look op m a b hA hB, fun x hx => (hm x).1 hx⟩
  · show (0 : Int) ≤ ((joinTo op m a b (2 ^ m.length) : Nat) : Int)
    omega
  · show ((joinTo op m a b (2 ^ m.length) : Nat) : Int) < (pow4 m.length : Nat)
    unfold pow4; omega
  · rcases (hm x).1 hx with h | h
    · exact ha.pos x h
    · exact hb.pos x h
theorem Joined2.less {op : Int} {a b m n : Lt} (h : Joined2 op a b m) (k : Less m n) : Joined2 op a b n := ⟨k.way, fun look => (k.sem look).trans (h.sem look), fun x hx => h.sub x (k.sub x hx)⟩
end Go.Proofs.Ytacgepdmhdcdkaa
