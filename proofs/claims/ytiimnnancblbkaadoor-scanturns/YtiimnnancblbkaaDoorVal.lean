/-
  PLAIN: bits and bytes; CONTRACTS of package value: for every argument, each function returns its plain one and leaves the world as it was.
-/
import Derived.Laws.BitsAllLaws
import Derived.WalkKit
import Derived.WalkSpells
import Derived.WalkLawsBesides
import Derived.Test.YtiimnnancblbkaaDoorProg
set_option linter.unusedSimpArgs false
set_option linter.unusedVariables false
namespace Go.Proofs.YtiimnnancblbkaaDoor

theorem wrap_i64_small (n : Nat) (h : n < 9223372036854775808) : IntKind.i64.wrap (n : Int) = (n : Int) := by
  simp [IntKind.wrap, IntKind.bits, IntKind.signed]
  omega

theorem ofInt64 (n : Int) : (BitVec.ofInt 64 n).toNat = (n % 18446744073709551616).toNat := by
  rw [BitVec.toNat_ofInt]; rfl

theorem i64_mask8 (n : Int) : bits .and .i64 n 255 = n % 256 := by
  show IntKind.i64.wrap ((BitVec.ofInt 64 n &&& BitVec.ofInt 64 255).toNat : Int) = _
  rw [BitVec.toNat_and, ofInt64, show (BitVec.ofInt 64 255).toNat = 255 from rfl, nat_mask8, wrap_i64_small _ (by omega)]
  omega

theorem i64_mask1 (n : Int) : bits .and .i64 n 1 = n % 2 := by
  show IntKind.i64.wrap ((BitVec.ofInt 64 n &&& BitVec.ofInt 64 1).toNat : Int) = _
  rw [BitVec.toNat_and, ofInt64, show (BitVec.ofInt 64 1).toNat = 1 from rfl, nat_mask1, wrap_i64_small _ (by omega)]
  omega

theorem i64_mask0 (n : Int) : bits .and .i64 n 0 = 0 := by
  show IntKind.i64.wrap ((BitVec.ofInt 64 n &&& BitVec.ofInt 64 0).toNat : Int) = _
  rw [BitVec.toNat_and, show (BitVec.ofInt 64 0).toNat = 0 from rfl, Nat.and_zero]
  rfl

theorem i64_and (a b : Nat) (ha : a < 9223372036854775808) (hb : b < 9223372036854775808) : bits .and .i64 (a : Int) (b : Int) = ((a &&& b : Nat) : Int) := by
  show IntKind.i64.wrap ((BitVec.ofInt 64 (a : Int) &&& BitVec.ofInt 64 (b : Int)).toNat : Int) = _
  rw [BitVec.toNat_and, ofInt_u64 a (by omega), ofInt_u64 b (by omega)]
  exact wrap_i64_small _ (Nat.lt_of_le_of_lt Nat.and_le_left ha)

theorem i64_or (a b : Nat) (ha : a < 9223372036854775808) (hb : b < 9223372036854775808) : bits .or .i64 (a : Int) (b : Int) = ((a ||| b : Nat) : Int) := by
  show IntKind.i64.wrap ((BitVec.ofInt 64 (a : Int) ||| BitVec.ofInt 64 (b : Int)).toNat : Int) = _
  rw [BitVec.toNat_or, ofInt_u64 a (by omega), ofInt_u64 b (by omega)]
  have : a ||| b < 2 ^ 63 := Nat.or_lt_two_pow (by omega) (by omega)
  exact wrap_i64_small _ (by omega)

theorem i64_xor (a b : Nat) (ha : a < 9223372036854775808) (hb : b < 9223372036854775808) : bits .xor .i64 (a : Int) (b : Int) = ((a ^^^ b : Nat) : Int) := by
  show IntKind.i64.wrap ((BitVec.ofInt 64 (a : Int) ^^^ BitVec.ofInt 64 (b : Int)).toNat : Int) = _
  rw [BitVec.toNat_xor, ofInt_u64 a (by omega), ofInt_u64 b (by omega)]
  have : a ^^^ b < 2 ^ 63 := Nat.xor_lt_two_pow (by omega) (by omega)
  exact wrap_i64_small _ (by omega)

theorem i64_not_all (n : Int) (h1 : -9223372036854775808 ≤ n) (h2 : n ≤ 9223372036854775807) : bits .xor .i64 (-1) n = -1 - n := by
  show IntKind.i64.wrap ((BitVec.ofInt 64 (-1) ^^^ BitVec.ofInt 64 n).toNat : Int) = _
  have h : BitVec.ofInt 64 (-1) = BitVec.allOnes 64 := by decide
  rw [h, BitVec.allOnes_xor, BitVec.toNat_not, ofInt64]
  simp [IntKind.wrap, IntKind.bits, IntKind.signed]
  omega

/-- how many numbers a type has: 2 of Bool, 256 of Byte, else 1 -/
def vmod (k : Int) : Int := if k = 1 then 2 else if k = 2 then 256 else 1
/-- how many bits a type has -/
def wid (k : Int) : Nat := if k = 1 then 1 else if k = 2 then 8 else 0
/-- a number's last bits -/
def cutI (k n : Int) : Int := n % vmod k

theorem vmod_cases (k : Int) : (k = 1 ∧ vmod k = 2) ∨ (k = 2 ∧ vmod k = 256) ∨ ((k == 1) = false ∧ (k == 2) = false ∧ vmod k = 1) := by
  unfold vmod
  by_cases h1 : k = 1
  · exact .inl ⟨h1, by simp [h1]⟩
  · by_cases h2 : k = 2
    · exact .inr (.inl ⟨h2, by simp [h2]⟩)
    · exact .inr (.inr ⟨by simp [h1], by simp [h2], by simp [h1, h2]⟩)

theorem vmod_pow (k : Int) : vmod k = ((2 ^ wid k : Nat) : Int) := by
  unfold vmod wid; split
  · rfl
  · split <;> rfl

theorem vmod_bd (k : Int) : 1 ≤ vmod k ∧ vmod k ≤ 256 := by
  rcases vmod_cases k with ⟨_, h⟩ | ⟨_, h⟩ | ⟨_, _, h⟩ <;> rw [h] <;> omega

theorem cutI_bd (k n : Int) : 0 ≤ cutI k n ∧ cutI k n < vmod k ∧ cutI k n ≤ 255 := by
  have hb := vmod_bd k
  have h1 : 0 ≤ cutI k n := Int.emod_nonneg _ (by omega)
  have h2 : cutI k n < vmod k := Int.emod_lt_of_pos _ (by omega)
  exact ⟨h1, h2, by omega⟩

theorem cutI_cutI (k n : Int) : cutI k (cutI k n) = cutI k n := by unfold cutI; exact Int.emod_emod_of_dvd n (Int.dvd_refl _)
theorem cutI_of (k n : Int) (h0 : 0 ≤ n) (h1 : n < vmod k) : cutI k n = n := by unfold cutI; exact Int.emod_eq_of_lt h0 h1

/-- of which type a vmark of two is -/
def resI (op : List UInt8) (a b : Int) : Int :=
  if a ≠ b ∨ (a ≠ 1 ∧ a ≠ 2) then 0
  else if op = [97, 110, 100] ∨ op = [111, 114] ∨ op = [120, 111, 114] then a
  else if op = [61] ∨ op = [60, 62] then 1
  else if a = 2 then (if op = [60] ∨ op = [60, 61] ∨ op = [62] ∨ op = [62, 61] then 1 else if op = [43] ∨ op = [45] then 2 else 0)
  else 0

/-- what compares -/
def holdsB (op : List UInt8) (a b : Int) : Bool :=
  if op = [61] then a == b else if op = [60, 62] then a != b else if op = [60] then decide (a < b) else if op = [60, 61] then decide (a ≤ b)
  else if op = [62] then decide (b < a) else if op = [62, 61] then decide (b ≤ a) else false

def bitI (b : Bool) : Int := if b then 1 else 0

/-- what a vmark of two comes to, of two numbers that are cut -/
def vmark (op : List UInt8) (k : Int) (x y : Nat) : Int :=
  if op = [97, 110, 100] then ((x &&& y : Nat) : Int) else if op = [111, 114] then ((x ||| y : Nat) : Int) else if op = [120, 111, 114] then ((x ^^^ y : Nat) : Int)
  else if op = [43] then cutI k (x + y) else if op = [45] then cutI k (x - y) else bitI (holdsB op x y)

/-- what a vmark of two comes to -/
def twoI (op : List UInt8) (k a b : Int) : Int :=
  if resI op k k = 0 then 0 else vmark op k (cutI k a).toNat (cutI k b).toNat

end Go.Proofs.YtiimnnancblbkaaDoor
namespace Go.Proofs.YtiimnnancblbkaaDoor
open Go.RowKit

theorem vret_int {k : IntKind} {a b : Int} (h : a = b) : Ending.returned (.int k a) = .returned (.int k b) := by rw [h]
theorem vret_bool {a b : Bool} (h : a = b) : Ending.returned (.bool a) = .returned (.bool b) := by rw [h]

set_option maxHeartbeats 400000 in
theorem width_any (k : Int) (w : World) :
    Calls Tryd.prog 22 #[.int .i64 k] w fun e w' => e = .returned (.int .i64 (wid k)) ∧ w' = w := by
  rcases vmod_cases k with ⟨rfl, _⟩ | ⟨rfl, _⟩ | ⟨e1, e2, _⟩
  · go_enter Tryd.func22, Tryd.ntmps22
    go_wp2
    go_ret
    exact ⟨rfl, rfl⟩
  · go_enter Tryd.func22, Tryd.ntmps22
    go_wp2
    go_ret
    exact ⟨rfl, rfl⟩
  · have ev : wid k = 0 := by simp at e1 e2; simp [wid, e1, e2]
    rw [ev]
    go_enter Tryd.func22, Tryd.ntmps22
    go_wp2
    go_ret
    exact ⟨rfl, rfl⟩

set_option maxHeartbeats 400000 in
theorem cut_any (k n : Int) (w : World) :
    Calls Tryd.prog 24 #[.int .i64 k, .int .i64 n] w fun e w' => e = .returned (.int .i64 (cutI k n)) ∧ w' = w := by
  unfold cutI
  rcases vmod_cases k with ⟨rfl, hm⟩ | ⟨rfl, hm⟩ | ⟨e1, e2, hm⟩
  · rw [hm]; clear hm
    go_enter Tryd.func24, Tryd.ntmps24
    go_wp2
    go_ret
    exact ⟨vret_int (i64_mask1 n), rfl⟩
  · rw [hm]; clear hm
    go_enter Tryd.func24, Tryd.ntmps24
    go_wp2
    go_ret
    exact ⟨vret_int (i64_mask8 n), rfl⟩
  · rw [hm]; clear hm
    go_enter Tryd.func24, Tryd.ntmps24
    go_wp2
    go_ret
    exact ⟨vret_int ((i64_mask0 n).trans (by omega)), rfl⟩

set_option maxHeartbeats 400000 in
theorem not_any (k n : Int) (w : World) (h1 : -9223372036854775808 ≤ n) (h2 : n ≤ 9223372036854775807) :
    Calls Tryd.prog 42 #[.int .i64 k, .int .i64 n] w fun e w' => e = .returned (.int .i64 (cutI k (-1 - n))) ∧ w' = w := by
  rw [← i64_not_all n h1 h2]
  clear h1 h2
  go_enter Tryd.func42, Tryd.ntmps42
  go_wp2_with (first | (go_at_call 24; refine (cut_any _ _ _).mono ?_; rintro e w' ⟨rfl, rfl⟩))
  go_ret
  exact ⟨rfl, rfl⟩

set_option maxHeartbeats 400000 in
theorem bit_any (b : Bool) (w : World) :
    Calls Tryd.prog 64 #[.bool b] w fun e w' => e = .returned (.int .i64 (bitI b)) ∧ w' = w := by
  cases b
  · go_enter Tryd.func64, Tryd.ntmps64
    go_wp2
    go_ret
    exact ⟨rfl, rfl⟩
  · go_enter Tryd.func64, Tryd.ntmps64
    go_wp2
    go_ret
    exact ⟨rfl, rfl⟩

/-- a text is one of the eleven marks, or none -/
def VMarks (op : ByteArray) : Prop :=
  op = ⟨#[97, 110, 100]⟩ ∨ op = ⟨#[111, 114]⟩ ∨ op = ⟨#[120, 111, 114]⟩ ∨ op = ⟨#[61]⟩ ∨ op = ⟨#[60, 62]⟩ ∨ op = ⟨#[60]⟩ ∨ op = ⟨#[60, 61]⟩ ∨ op = ⟨#[62]⟩ ∨ op = ⟨#[62, 61]⟩ ∨ op = ⟨#[43]⟩ ∨ op = ⟨#[45]⟩
theorem vba_eq {op : ByteArray} {l : List UInt8} (h : op.data.toList = l) : op = ⟨l.toArray⟩ := by
  cases op; subst h; rfl
theorem op_cases (op : ByteArray) : VMarks op ∨ ((op.toList == [97, 110, 100]) = false ∧ (op.toList == [111, 114]) = false ∧ (op.toList == [120, 111, 114]) = false ∧ (op.toList == [61]) = false ∧ (op.toList == [60, 62]) = false ∧ (op.toList == [60]) = false ∧ (op.toList == [60, 61]) = false ∧ (op.toList == [62]) = false ∧ (op.toList == [62, 61]) = false ∧ (op.toList == [43]) = false ∧ (op.toList == [45]) = false) := by
  rw [ByteArray.toList_eq]
  by_cases h : VMarks op
  · exact .inl h
  · refine .inr ?_
    unfold VMarks at h
    simp only [not_or] at h
    obtain ⟨h1, h2, h3, h4, h5, h6, h7, h8, h9, h10, h11⟩ := h
    refine ⟨?_, ?_, ?_, ?_, ?_, ?_, ?_, ?_, ?_, ?_, ?_⟩ <;> rw [beq_eq_false_iff_ne] <;> intro e
    · exact h1 (vba_eq e)
    · exact h2 (vba_eq e)
    · exact h3 (vba_eq e)
    · exact h4 (vba_eq e)
    · exact h5 (vba_eq e)
    · exact h6 (vba_eq e)
    · exact h7 (vba_eq e)
    · exact h8 (vba_eq e)
    · exact h9 (vba_eq e)
    · exact h10 (vba_eq e)
    · exact h11 (vba_eq e)

/-- what is of bytes alone -/
def ofBytesI (op : List UInt8) : Int := if op = [60] ∨ op = [60, 61] ∨ op = [62] ∨ op = [62, 61] then 1 else if op = [43] ∨ op = [45] then 2 else 0

set_option maxHeartbeats 1000000 in
theorem vofBytes_any (op : ByteArray) (w : World) :
    Calls Tryd.prog 63 #[.string op] w fun e w' => e = .returned (.int .i64 (ofBytesI op.data.toList)) ∧ w' = w := by
  rcases op_cases op with hm | ⟨h1, h2, h3, h4, h5, h6, h7, h8, h9, h10, h11⟩
  · rcases hm with rfl | rfl | rfl | rfl | rfl | rfl | rfl | rfl | rfl | rfl | rfl
    all_goals
      go_enter Tryd.func63, Tryd.ntmps63
      go_wp2
      go_ret
      exact ⟨rfl, rfl⟩
  · have ev : ofBytesI op.data.toList = 0 := by
      rw [← ByteArray.toList_eq]
      rw [beq_eq_false_iff_ne] at h6 h7 h8 h9 h10 h11
      simp [ofBytesI, h6, h7, h8, h9, h10, h11]
    rw [ev]; clear ev
    go_enter Tryd.func63, Tryd.ntmps63
    go_wp2
    go_ret
    exact ⟨rfl, rfl⟩

set_option maxHeartbeats 1000000 in
theorem holds_any (op : ByteArray) (a b : Int) (w : World) :
    Calls Tryd.prog 65 #[.string op, .int .i64 a, .int .i64 b] w fun e w' => e = .returned (.bool (holdsB op.data.toList a b)) ∧ w' = w := by
  rcases op_cases op with hm | ⟨h1, h2, h3, h4, h5, h6, h7, h8, h9, h10, h11⟩
  · rcases hm with rfl | rfl | rfl | rfl | rfl | rfl | rfl | rfl | rfl | rfl | rfl
    all_goals
      go_enter Tryd.func65, Tryd.ntmps65
      go_wp2
      go_ret
      exact ⟨rfl, rfl⟩
  · have ev : holdsB op.data.toList a b = false := by
      rw [← ByteArray.toList_eq]
      rw [beq_eq_false_iff_ne] at h4 h5 h6 h7 h8 h9
      simp [holdsB, h4, h5, h6, h7, h8, h9]
    rw [ev]; clear ev
    go_enter Tryd.func65, Tryd.ntmps65
    go_wp2
    go_ret
    exact ⟨rfl, rfl⟩
end Go.Proofs.YtiimnnancblbkaaDoor
namespace Go.Proofs.YtiimnnancblbkaaDoor
open Go.RowKit

theorem resI_ne (op : List UInt8) (a b : Int) (h : a ≠ b) : resI op a b = 0 := by simp [resI, h]
theorem resI_none (op : List UInt8) (a b : Int) (h1 : (a == 1) = false) (h2 : (a == 2) = false) : resI op a b = 0 := by
  simp at h1 h2; simp [resI, h1, h2]
theorem resI_other (op : ByteArray) (a b : Int) (h1 : (op.toList == [97, 110, 100]) = false) (h2 : (op.toList == [111, 114]) = false) (h3 : (op.toList == [120, 111, 114]) = false) (h4 : (op.toList == [61]) = false) (h5 : (op.toList == [60, 62]) = false) (h6 : (op.toList == [60]) = false) (h7 : (op.toList == [60, 61]) = false) (h8 : (op.toList == [62]) = false) (h9 : (op.toList == [62, 61]) = false) (h10 : (op.toList == [43]) = false) (h11 : (op.toList == [45]) = false) :
    resI op.data.toList a b = 0 := by
  rw [ByteArray.toList_eq] at *
  rw [beq_eq_false_iff_ne] at *
  simp [resI, *]

set_option maxHeartbeats 2000000 in
theorem result_any (op : ByteArray) (a b : Int) (w : World) :
    Calls Tryd.prog 43 #[.string op, .int .i64 a, .int .i64 b] w fun e w' => e = .returned (.int .i64 (resI op.data.toList a b)) ∧ w' = w := by
  by_cases hab : a = b
  · subst hab
    rcases vmod_cases a with ⟨rfl, hm⟩ | ⟨rfl, hm⟩ | ⟨e1, e2, hm⟩
    · clear hm
      rcases op_cases op with hm | ⟨h1, h2, h3, h4, h5, h6, h7, h8, h9, h10, h11⟩
      · rcases hm with rfl | rfl | rfl | rfl | rfl | rfl | rfl | rfl | rfl | rfl | rfl
        all_goals
          go_enter Tryd.func43, Tryd.ntmps43
          go_wp2
          go_ret
          exact ⟨rfl, rfl⟩
      · rw [resI_other op 1 1 h1 h2 h3 h4 h5 h6 h7 h8 h9 h10 h11]
        go_enter Tryd.func43, Tryd.ntmps43
        go_wp2
        go_ret
        exact ⟨rfl, rfl⟩
    · clear hm
      rcases op_cases op with hm | ⟨h1, h2, h3, h4, h5, h6, h7, h8, h9, h10, h11⟩
      · rcases hm with rfl | rfl | rfl | rfl | rfl | rfl | rfl | rfl | rfl | rfl | rfl
        all_goals
          go_enter Tryd.func43, Tryd.ntmps43
          go_wp2
          go_ret
          exact ⟨rfl, rfl⟩
      · rw [resI_other op 2 2 h1 h2 h3 h4 h5 h6 h7 h8 h9 h10 h11]
        go_enter Tryd.func43, Tryd.ntmps43
        go_wp2
        go_ret
        exact ⟨rfl, rfl⟩
    · rw [resI_none _ a a e1 e2]
      clear hm
      go_enter Tryd.func43, Tryd.ntmps43
      go_wp2
      go_ret
      exact ⟨rfl, rfl⟩
  · rw [resI_ne _ a b hab]
    have hne : (a != b) = true := by simp [hab]
    clear hab
    go_enter Tryd.func43, Tryd.ntmps43
    go_wp2
    go_ret
    exact ⟨rfl, rfl⟩


theorem and_cut (k a b : Int) : bits .and .i64 (cutI k a) (cutI k b) = (((cutI k a).toNat &&& (cutI k b).toNat : Nat) : Int) := by
  have h1 := cutI_bd k a
  have h2 := cutI_bd k b
  have e1 : cutI k a = ((cutI k a).toNat : Int) := by omega
  have e2 : cutI k b = ((cutI k b).toNat : Int) := by omega
  rw [e1, e2]; simp only [Int.toNat_natCast]; exact i64_and _ _ (by omega) (by omega)
theorem or_cut (k a b : Int) : bits .or .i64 (cutI k a) (cutI k b) = (((cutI k a).toNat ||| (cutI k b).toNat : Nat) : Int) := by
  have h1 := cutI_bd k a
  have h2 := cutI_bd k b
  have e1 : cutI k a = ((cutI k a).toNat : Int) := by omega
  have e2 : cutI k b = ((cutI k b).toNat : Int) := by omega
  rw [e1, e2]; simp only [Int.toNat_natCast]; exact i64_or _ _ (by omega) (by omega)
theorem xor_cut (k a b : Int) : bits .xor .i64 (cutI k a) (cutI k b) = (((cutI k a).toNat ^^^ (cutI k b).toNat : Nat) : Int) := by
  have h1 := cutI_bd k a
  have h2 := cutI_bd k b
  have e1 : cutI k a = ((cutI k a).toNat : Int) := by omega
  have e2 : cutI k b = ((cutI k b).toNat : Int) := by omega
  rw [e1, e2]; simp only [Int.toNat_natCast]; exact i64_xor _ _ (by omega) (by omega)
theorem cut_nat (k a : Int) : ((cutI k a).toNat : Int) = cutI k a := by have := cutI_bd k a; omega

/-- a vmark that may be, of a type, by its bytes -/
theorem twoI_yes (op : List UInt8) (k a b : Int) (h : resI op k k ≠ 0) : twoI op k a b = vmark op k (cutI k a).toNat (cutI k b).toNat := by
  unfold twoI; rw [if_neg h]
theorem twoI_no (op : List UInt8) (k a b : Int) (h : resI op k k = 0) : twoI op k a b = 0 := by
  unfold twoI; rw [if_pos h]

theorem two_and (k a b : Int) (hk : k = 1 ∨ k = 2) : bits .and .i64 (cutI k a) (cutI k b) = twoI [97, 110, 100] k a b := by
  rw [twoI_yes _ k a b (by rcases hk with rfl | rfl <;> decide), and_cut]; rfl
theorem two_or (k a b : Int) (hk : k = 1 ∨ k = 2) : bits .or .i64 (cutI k a) (cutI k b) = twoI [111, 114] k a b := by
  rw [twoI_yes _ k a b (by rcases hk with rfl | rfl <;> decide), or_cut]; rfl
theorem two_xor (k a b : Int) (hk : k = 1 ∨ k = 2) : bits .xor .i64 (cutI k a) (cutI k b) = twoI [120, 111, 114] k a b := by
  rw [twoI_yes _ k a b (by rcases hk with rfl | rfl <;> decide), xor_cut]; rfl
theorem two_add (a b : Int) : cutI 2 (cutI 2 a + cutI 2 b) = twoI [43] 2 a b := by
  rw [twoI_yes _ 2 a b (by decide)]; show _ = cutI 2 (((cutI 2 a).toNat : Int) + ((cutI 2 b).toNat : Int)); rw [cut_nat, cut_nat]
theorem two_sub (a b : Int) : cutI 2 (cutI 2 a - cutI 2 b) = twoI [45] 2 a b := by
  rw [twoI_yes _ 2 a b (by decide)]; show _ = cutI 2 (((cutI 2 a).toNat : Int) - ((cutI 2 b).toNat : Int)); rw [cut_nat, cut_nat]
theorem two_cmp (op : List UInt8) (k a b : Int) (hop : op = [61] ∨ op = [60, 62] ∨ (k = 2 ∧ (op = [60] ∨ op = [60, 61] ∨ op = [62] ∨ op = [62, 61]))) (hk : k = 1 ∨ k = 2) :
    bitI (holdsB op (cutI k a) (cutI k b)) = twoI op k a b := by
  have hr : resI op k k ≠ 0 := by
    rcases hop with rfl | rfl | ⟨rfl, rfl | rfl | rfl | rfl⟩
    · rcases hk with rfl | rfl <;> decide
    · rcases hk with rfl | rfl <;> decide
    all_goals decide
  rw [twoI_yes _ k a b hr]
  have e : vmark op k (cutI k a).toNat (cutI k b).toNat = bitI (holdsB op ((cutI k a).toNat : Int) ((cutI k b).toNat : Int)) := by
    rcases hop with rfl | rfl | ⟨rfl, rfl | rfl | rfl | rfl⟩ <;> rfl
  rw [e, cut_nat, cut_nat]

set_option maxHeartbeats 4000000 in
theorem two_any (op : ByteArray) (k a b : Int) (w : World) :
    Calls Tryd.prog 44 #[.string op, .int .i64 k, .int .i64 a, .int .i64 b] w fun e w' => e = .returned (.int .i64 (twoI op.data.toList k a b)) ∧ w' = w := by
  rcases vmod_cases k with ⟨rfl, hm⟩ | ⟨rfl, hm⟩ | ⟨e1, e2, hm⟩
  · clear hm
    have ha0 := (cutI_bd 1 a).1
    have ha1 := (cutI_bd 1 a).2.2
    have hb0 := (cutI_bd 1 b).1
    have hb1 := (cutI_bd 1 b).2.2
    rcases op_cases op with hm | ⟨h1, h2, h3, h4, h5, h6, h7, h8, h9, h10, h11⟩
    · rcases hm with rfl | rfl | rfl | rfl | rfl | rfl | rfl | rfl | rfl | rfl | rfl
      all_goals
        go_enter Tryd.func44, Tryd.ntmps44
        go_wp2_with (first | (go_at_call 24; refine (cut_any _ _ _).mono ?_; rintro e w' ⟨rfl, rfl⟩) | (go_at_call 65; refine (holds_any _ _ _ _).mono ?_; rintro e w' ⟨rfl, rfl⟩) | (go_at_call 64; refine (bit_any _ _).mono ?_; rintro e w' ⟨rfl, rfl⟩) | go_in)
        go_ret
        refine ⟨vret_int ?_, rfl⟩
      · exact two_and 1 a b (.inl rfl)
      · exact two_or 1 a b (.inl rfl)
      · exact two_xor 1 a b (.inl rfl)
      · exact two_cmp _ 1 a b (.inl rfl) (.inl rfl)
      · exact two_cmp _ 1 a b (.inr (.inl rfl)) (.inl rfl)
      all_goals exact (twoI_no _ 1 a b (by decide)).symm
    · rw [twoI_no _ 1 a b (resI_other op 1 1 h1 h2 h3 h4 h5 h6 h7 h8 h9 h10 h11)]
      go_enter Tryd.func44, Tryd.ntmps44
      go_wp2
      go_ret
      exact ⟨rfl, rfl⟩
  · clear hm
    have ha0 := (cutI_bd 2 a).1
    have ha1 := (cutI_bd 2 a).2.2
    have hb0 := (cutI_bd 2 b).1
    have hb1 := (cutI_bd 2 b).2.2
    rcases op_cases op with hm | ⟨h1, h2, h3, h4, h5, h6, h7, h8, h9, h10, h11⟩
    · rcases hm with rfl | rfl | rfl | rfl | rfl | rfl | rfl | rfl | rfl | rfl | rfl
      all_goals
        go_enter Tryd.func44, Tryd.ntmps44
        go_wp2_with (first | (go_at_call 24; refine (cut_any _ _ _).mono ?_; rintro e w' ⟨rfl, rfl⟩) | (go_at_call 65; refine (holds_any _ _ _ _).mono ?_; rintro e w' ⟨rfl, rfl⟩) | (go_at_call 64; refine (bit_any _ _).mono ?_; rintro e w' ⟨rfl, rfl⟩) | go_in)
        go_ret
        refine ⟨vret_int ?_, rfl⟩
      · exact two_and 2 a b (.inr rfl)
      · exact two_or 2 a b (.inr rfl)
      · exact two_xor 2 a b (.inr rfl)
      · exact two_cmp _ 2 a b (.inl rfl) (.inr rfl)
      · exact two_cmp _ 2 a b (.inr (.inl rfl)) (.inr rfl)
      · exact two_cmp _ 2 a b (.inr (.inr ⟨rfl, .inl rfl⟩)) (.inr rfl)
      · exact two_cmp _ 2 a b (.inr (.inr ⟨rfl, .inr (.inl rfl)⟩)) (.inr rfl)
      · exact two_cmp _ 2 a b (.inr (.inr ⟨rfl, .inr (.inr (.inl rfl))⟩)) (.inr rfl)
      · exact two_cmp _ 2 a b (.inr (.inr ⟨rfl, .inr (.inr (.inr rfl))⟩)) (.inr rfl)
      · exact two_add a b
      · exact two_sub a b
    · rw [twoI_no _ 2 a b (resI_other op 2 2 h1 h2 h3 h4 h5 h6 h7 h8 h9 h10 h11)]
      go_enter Tryd.func44, Tryd.ntmps44
      go_wp2
      go_ret
      exact ⟨rfl, rfl⟩
  · rw [twoI_no _ k a b (resI_none _ k k e1 e2)]
    clear hm
    go_enter Tryd.func44, Tryd.ntmps44
    go_wp2
    go_ret
    exact ⟨rfl, rfl⟩

end Go.Proofs.YtiimnnancblbkaaDoor
