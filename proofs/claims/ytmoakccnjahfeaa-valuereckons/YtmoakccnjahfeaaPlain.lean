/-
  PLAIN: what bits and bytes come to, as numbers: no program in sight. Lemmas on 64-bit 'and', 'or', 'xor' and 'not', and the plain functions that the contracts name.
-/
import Derived.Laws.BitsAllLaws
namespace Go.Proofs.Ytmoakccnjahfeaa

theorem wrap_i64_small (n : Nat) (h : n < 9223372036854775808) : IntKind.i64.wrap (n : Int) = (n : Int) := by
  simp [IntKind.wrap, IntKind.bits, IntKind.signed]
  omega

theorem ofInt64 (n : Int) : (BitVec.ofInt 64 n).toNat = (n % 18446744073709551616).toNat := by
  rw [BitVec.toNat_ofInt]; rfl

theorem i64_mask8 (n : Int) : bits .and .i64 n 255 = n % 256 := by
  show IntKind.i64.wrap ((BitVec.ofInt 64 n &&& BitVec.ofInt 64 255).toNat : Int) = _
  rw [BitVec.toNat_and, ofInt64, show (BitVec.ofInt 64 255).toNat = 255 from rfl, nat_mask8, wrap_i64_small _ (by omega)]
  omega

theorem i64_mask1 (n : Int) : bits .and .i64 n 1 = n % 2 := by
  show IntKind.i64.wrap ((BitVec.ofInt 64 n &&& BitVec.ofInt 64 1).toNat : Int) = _
  rw [BitVec.toNat_and, ofInt64, show (BitVec.ofInt 64 1).toNat = 1 from rfl, nat_mask1, wrap_i64_small _ (by omega)]
  omega

theorem i64_mask0 (n : Int) : bits .and .i64 n 0 = 0 := by
  show IntKind.i64.wrap ((BitVec.ofInt 64 n &&& BitVec.ofInt 64 0).toNat : Int) = _
  rw [BitVec.toNat_and, show (BitVec.ofInt 64 0).toNat = 0 from rfl, Nat.and_zero]
  rfl

theorem i64_and (a b : Nat) (ha : a < 9223372036854775808) (hb : b < 9223372036854775808) : bits .and .i64 (a : Int) (b : Int) = ((a &&& b : Nat) : Int) := by
  show IntKind.i64.wrap ((BitVec.ofInt 64 (a : Int) &&& BitVec.ofInt 64 (b : Int)).toNat : Int) = _
  rw [BitVec.toNat_and, ofInt_u64 a (by omega), ofInt_u64 b (by omega)]
  exact wrap_i64_small _ (Nat.lt_of_le_of_lt Nat.and_le_left ha)

theorem i64_or (a b : Nat) (ha : a < 9223372036854775808) (hb : b < 9223372036854775808) : bits .or .i64 (a : Int) (b : Int) = ((a ||| b : Nat) : Int) := by
  show IntKind.i64.wrap ((BitVec.ofInt 64 (a : Int) ||| BitVec.ofInt 64 (b : Int)).toNat : Int) = _
  rw [BitVec.toNat_or, ofInt_u64 a (by omega), ofInt_u64 b (by omega)]
  have : a ||| b < 2 ^ 63 := Nat.or_lt_two_pow (by omega) (by omega)
  exact wrap_i64_small _ (by omega)

theorem i64_xor (a b : Nat) (ha : a < 9223372036854775808) (hb : b < 9223372036854775808) : bits .xor .i64 (a : Int) (b : Int) = ((a ^^^ b : Nat) : Int) := by
  show IntKind.i64.wrap ((BitVec.ofInt 64 (a : Int) ^^^ BitVec.ofInt 64 (b : Int)).toNat : Int) = _
  rw [BitVec.toNat_xor, ofInt_u64 a (by omega), ofInt_u64 b (by omega)]
  have : a ^^^ b < 2 ^ 63 := Nat.xor_lt_two_pow (by omega) (by omega)
  exact wrap_i64_small _ (by omega)

theorem i64_not_all (n : Int) (h1 : -9223372036854775808 ≤ n) (h2 : n ≤ 9223372036854775807) : bits .xor .i64 (-1) n = -1 - n := by
  show IntKind.i64.wrap ((BitVec.ofInt 64 (-1) ^^^ BitVec.ofInt 64 n).toNat : Int) = _
  have h : BitVec.ofInt 64 (-1) = BitVec.allOnes 64 := by decide
  rw [h, BitVec.allOnes_xor, BitVec.toNat_not, ofInt64]
  simp [IntKind.wrap, IntKind.bits, IntKind.signed]
  omega

/-- how many numbers a type has: 2 of Bool, 256 of Byte, else 1 -/
def mod (k : Int) : Int := if k = 1 then 2 else if k = 2 then 256 else 1
/-- how many bits a type has -/
def wid (k : Int) : Nat := if k = 1 then 1 else if k = 2 then 8 else 0
/-- a number's last bits -/
def cutI (k n : Int) : Int := n % mod k

theorem mod_cases (k : Int) : (k = 1 ∧ mod k = 2) ∨ (k = 2 ∧ mod k = 256) ∨ ((k == 1) = false ∧ (k == 2) = false ∧ mod k = 1) := by
  unfold mod
  by_cases h1 : k = 1
  · exact .inl ⟨h1, by simp [h1]⟩
  · by_cases h2 : k = 2
    · exact .inr (.inl ⟨h2, by simp [h2]⟩)
    · exact .inr (.inr ⟨by simp [h1], by simp [h2], by simp [h1, h2]⟩)

theorem mod_pow (k : Int) : mod k = ((2 ^ wid k : Nat) : Int) := by
  unfold mod wid; split
  · rfl
  · split <;> rfl

theorem mod_bd (k : Int) : 1 ≤ mod k ∧ mod k ≤ 256 := by
  rcases mod_cases k with ⟨_, h⟩ | ⟨_, h⟩ | ⟨_, _, h⟩ <;> rw [h] <;> omega

theorem cutI_bd (k n : Int) : 0 ≤ cutI k n ∧ cutI k n < mod k ∧ cutI k n ≤ 255 := by
  have hb := mod_bd k
  have h1 : 0 ≤ cutI k n := Int.emod_nonneg _ (by omega)
  have h2 : cutI k n < mod k := Int.emod_lt_of_pos _ (by omega)
  exact ⟨h1, h2, by omega⟩

theorem cutI_cutI (k n : Int) : cutI k (cutI k n) = cutI k n := by unfold cutI; exact Int.emod_emod_of_dvd n (Int.dvd_refl _)
theorem cutI_of (k n : Int) (h0 : 0 ≤ n) (h1 : n < mod k) : cutI k n = n := by unfold cutI; exact Int.emod_eq_of_lt h0 h1

/-- of which type a mark of two is -/
def resI (op : List UInt8) (a b : Int) : Int :=
  if a ≠ b ∨ (a ≠ 1 ∧ a ≠ 2) then 0
  else if op = [97, 110, 100] ∨ op = [111, 114] ∨ op = [120, 111, 114] then a
  else if op = [61] ∨ op = [60, 62] then 1
  else if a = 2 then (if op = [60] ∨ op = [60, 61] ∨ op = [62] ∨ op = [62, 61] then 1 else if op = [43] ∨ op = [45] then 2 else 0)
  else 0

/-- what compares -/
def holdsB (op : List UInt8) (a b : Int) : Bool :=
  if op = [61] then a == b else if op = [60, 62] then a != b else if op = [60] then decide (a < b) else if op = [60, 61] then decide (a ≤ b)
  else if op = [62] then decide (b < a) else if op = [62, 61] then decide (b ≤ a) else false

def bitI (b : Bool) : Int := if b then 1 else 0

/-- what a mark of two comes to, of two numbers that are cut -/
def mark (op : List UInt8) (k : Int) (x y : Nat) : Int :=
  if op = [97, 110, 100] then ((x &&& y : Nat) : Int) else if op = [111, 114] then ((x ||| y : Nat) : Int) else if op = [120, 111, 114] then ((x ^^^ y : Nat) : Int)
  else if op = [43] then cutI k (x + y) else if op = [45] then cutI k (x - y) else bitI (holdsB op x y)

/-- what a mark of two comes to -/
def twoI (op : List UInt8) (k a b : Int) : Int :=
  if resI op k k = 0 then 0 else mark op k (cutI k a).toNat (cutI k b).toNat

end Go.Proofs.Ytmoakccnjahfeaa
