/-
  PLAIN: the laws of bits and bytes, as facts on numbers (and, or, xor, not, sums, differences, comparisons), gathered for the walk of ValueLaws. No program in sight.
-/
import Derived.Test.YtmoakccnjahfeaaPlain
namespace Go.Proofs.Ytmoakccnjahfeaa

theorem nat_not_or (w a b : Nat) (ha : a < 2 ^ w) (hb : b < 2 ^ w) : (2 ^ w - (a + 1)) ||| (2 ^ w - (b + 1)) = 2 ^ w - ((a &&& b) + 1) := by
  have hab : a &&& b < 2 ^ w := Nat.lt_of_le_of_lt Nat.and_le_left ha
  apply Nat.eq_of_testBit_eq
  intro i
  rw [Nat.testBit_or, Nat.testBit_two_pow_sub_succ ha, Nat.testBit_two_pow_sub_succ hb, Nat.testBit_two_pow_sub_succ hab, Nat.testBit_and]
  cases decide (i < w) <;> cases a.testBit i <;> cases b.testBit i <;> rfl
theorem nat_xor_by (w a b : Nat) (ha : a < 2 ^ w) (hb : b < 2 ^ w) : (a ||| b) &&& (2 ^ w - ((a &&& b) + 1)) = a ^^^ b := by
  have hab : a &&& b < 2 ^ w := Nat.lt_of_le_of_lt Nat.and_le_left ha
  apply Nat.eq_of_testBit_eq
  intro i
  rw [Nat.testBit_and, Nat.testBit_or, Nat.testBit_two_pow_sub_succ hab, Nat.testBit_and, Nat.testBit_xor]
  by_cases h : i < w
  · simp only [h, decide_true]
    cases a.testBit i <;> cases b.testBit i <;> rfl
  · have h1 : a.testBit i = false := Nat.testBit_lt_two_pow (Nat.lt_of_lt_of_le ha (Nat.pow_le_pow_right (by decide) (by omega)))
    have h2 : b.testBit i = false := Nat.testBit_lt_two_pow (Nat.lt_of_lt_of_le hb (Nat.pow_le_pow_right (by decide) (by omega)))
    simp [h1, h2]
theorem nat_xor_back (a b : Nat) : (a ^^^ b) ^^^ b = a := by rw [Nat.xor_assoc, Nat.xor_self, Nat.xor_zero]

/-- what the walk is told of three numbers of a type -/
structure Facts (k : Int) (A B C NA NB AB NAB X BC D AC O : Nat) (e f : Int) : Prop where
  bA : A ≤ 255
  bB : B ≤ 255
  bNA : NA ≤ 255
  bAB : AB ≤ 255
  cut : cutI k A = A
  na : cutI k (-1 - (A : Int)) = NA
  nna : cutI k (-1 - (NA : Int)) = A
  eq : twoI [61] k A B = e
  ne : twoI [60, 62] k A B = f
  ef : e + f = 1
  be : 0 ≤ e ∧ e ≤ 1
  xor : twoI [120, 111, 114] k A B = X
  xx : twoI [120, 111, 114] k X B = A
  and : twoI [97, 110, 100] k A B = AB
  nab : cutI k (-1 - (AB : Int)) = NAB
  nb : cutI k (-1 - (B : Int)) = NB
  ornn : twoI [111, 114] k NA NB = NAB
  or1 : twoI [111, 114] k B C = BC
  and1 : twoI [97, 110, 100] k A BC = D
  and2 : twoI [97, 110, 100] k A C = AC
  or2 : twoI [111, 114] k AB AC = D
  or3 : twoI [111, 114] k A B = O
  and3 : twoI [97, 110, 100] k O NAB = X

theorem toNat_cut (k : Int) (A : Nat) (h : (A : Int) < mod k) : (cutI k A).toNat = A := by rw [cutI_of k A (by omega) h]; omega

theorem t_and (k : Int) (A B : Nat) (hk : k = 1 ∨ k = 2) (hA : (A : Int) < mod k) (hB : (B : Int) < mod k) : twoI [97, 110, 100] k A B = ((A &&& B : Nat) : Int) := by
  unfold twoI
  rw [if_neg (by rcases hk with rfl | rfl <;> decide), toNat_cut k A hA, toNat_cut k B hB]; rfl
theorem t_or (k : Int) (A B : Nat) (hk : k = 1 ∨ k = 2) (hA : (A : Int) < mod k) (hB : (B : Int) < mod k) : twoI [111, 114] k A B = ((A ||| B : Nat) : Int) := by
  unfold twoI
  rw [if_neg (by rcases hk with rfl | rfl <;> decide), toNat_cut k A hA, toNat_cut k B hB]; rfl
theorem t_xor (k : Int) (A B : Nat) (hk : k = 1 ∨ k = 2) (hA : (A : Int) < mod k) (hB : (B : Int) < mod k) : twoI [120, 111, 114] k A B = ((A ^^^ B : Nat) : Int) := by
  unfold twoI
  rw [if_neg (by rcases hk with rfl | rfl <;> decide), toNat_cut k A hA, toNat_cut k B hB]; rfl
theorem t_eq (k : Int) (A B : Nat) (hk : k = 1 ∨ k = 2) (hA : (A : Int) < mod k) (hB : (B : Int) < mod k) : twoI [61] k A B = bitI ((A : Int) == B) := by
  unfold twoI
  rw [if_neg (by rcases hk with rfl | rfl <;> decide), toNat_cut k A hA, toNat_cut k B hB]; rfl
theorem t_ne (k : Int) (A B : Nat) (hk : k = 1 ∨ k = 2) (hA : (A : Int) < mod k) (hB : (B : Int) < mod k) : twoI [60, 62] k A B = bitI ((A : Int) != B) := by
  unfold twoI
  rw [if_neg (by rcases hk with rfl | rfl <;> decide), toNat_cut k A hA, toNat_cut k B hB]; rfl
theorem t_not (k : Int) (A : Nat) (hA : (A : Int) < mod k) : cutI k (-1 - (A : Int)) = ((2 ^ wid k - (A + 1) : Nat) : Int) := by
  rcases mod_cases k with ⟨rfl, hm⟩ | ⟨rfl, hm⟩ | ⟨e1, e2, hm⟩
  · unfold cutI; rw [hm]; rw [hm] at hA; simp [wid]; omega
  · unfold cutI; rw [hm]; rw [hm] at hA; simp [wid]; omega
  · have hw : wid k = 0 := by simp at e1 e2; simp [wid, e1, e2]
    unfold cutI; rw [hm]; rw [hm] at hA; rw [hw]; omega

theorem facts_of (k : Int) (hk : k = 1 ∨ k = 2) (A B C : Nat) (hA : (A : Int) < mod k) (hB : (B : Int) < mod k) (hC : (C : Int) < mod k) :
    Facts k A B C (2 ^ wid k - (A + 1)) (2 ^ wid k - (B + 1)) (A &&& B) (2 ^ wid k - ((A &&& B) + 1)) (A ^^^ B) (B ||| C) (A &&& (B ||| C)) (A &&& C) (A ||| B) (bitI ((A : Int) == B)) (bitI ((A : Int) != B)) := by
  have hm := mod_bd k
  have hp := mod_pow k
  have ha : A < 2 ^ wid k := by omega
  have hb : B < 2 ^ wid k := by omega
  have hc : C < 2 ^ wid k := by omega
  have h1 : A &&& B < 2 ^ wid k := Nat.lt_of_le_of_lt Nat.and_le_left ha
  have h2 : A ^^^ B < 2 ^ wid k := Nat.xor_lt_two_pow ha hb
  have h3 : B ||| C < 2 ^ wid k := Nat.or_lt_two_pow hb hc
  have h4 : A &&& C < 2 ^ wid k := Nat.lt_of_le_of_lt Nat.and_le_left ha
  have h5 : A ||| B < 2 ^ wid k := Nat.or_lt_two_pow ha hb
  refine ⟨by omega, by omega, by omega, by omega, cutI_of k A (by omega) hA, t_not k A hA, ?_, t_eq k A B hk hA hB, t_ne k A B hk hA hB, ?_, ?_, t_xor k A B hk hA hB, ?_, t_and k A B hk hA hB, t_not k _ (by omega), t_not k B hB, ?_, t_or k B C hk hB hC, t_and k _ _ hk hA (by omega), t_and k A C hk hA hC, ?_, t_or k A B hk hA hB, ?_⟩
  · rw [t_not k _ (by omega)]; omega
  · by_cases h : (A : Int) = B <;> simp [bitI, h]
  · unfold bitI; split <;> omega
  · rw [t_xor k _ _ hk (by omega) hB, nat_xor_back]
  · rw [t_or k _ _ hk (by omega) (by omega), nat_not_or _ A B ha hb]
  · rw [t_or k _ _ hk (by omega) (by omega), Nat.and_or_distrib_left]
  · rw [t_and k _ _ hk (by omega) (by omega), nat_xor_by _ A B ha hb]

/-- what the walk is told besides of bytes -/
structure Facts2 (A B C NA S T U V : Nat) (e l g q : Int) : Prop where
  add : twoI [43] 2 A B = S
  sub : twoI [45] 2 S B = A
  lt : twoI [60] 2 A B = l
  gt : twoI [62] 2 A B = g
  leg : l + e + g = 1
  bl : 0 ≤ l ∧ l ≤ 1
  bg : 0 ≤ g ∧ g ≤ 1
  le : twoI [60, 61] 2 A B = 1 - g
  ge : twoI [62, 61] 2 A B = q
  le' : twoI [60, 61] 2 B A = q
  addSC : twoI [43] 2 S C = T
  addBC : twoI [43] 2 B C = U
  addAU : twoI [43] 2 A U = T
  sub0 : twoI [45] 2 0 A = V
  addN : twoI [43] 2 NA 1 = V

theorem t_cmp (op : List UInt8) (hop : op = [60] ∨ op = [60, 61] ∨ op = [62] ∨ op = [62, 61]) (A B : Nat) (hA : A < 256) (hB : B < 256) : twoI op 2 A B = bitI (holdsB op A B) := by
  have hm : mod 2 = 256 := rfl
  unfold twoI
  rw [if_neg (by rcases hop with rfl | rfl | rfl | rfl <;> decide), toNat_cut 2 A (by omega), toNat_cut 2 B (by omega)]
  rcases hop with rfl | rfl | rfl | rfl <;> rfl
theorem t_add (a b : Int) (ha : 0 ≤ a ∧ a < 256) (hb : 0 ≤ b ∧ b < 256) : twoI [43] 2 a b = (((a + b) % 256).toNat : Int) := by
  have hm : mod 2 = 256 := rfl
  unfold twoI
  rw [if_neg (by decide)]
  show cutI 2 (((cutI 2 a).toNat : Int) + ((cutI 2 b).toNat : Int)) = _
  unfold cutI; rw [hm]; omega
theorem t_sub (a b : Int) (ha : 0 ≤ a ∧ a < 256) (hb : 0 ≤ b ∧ b < 256) : twoI [45] 2 a b = (((a - b) % 256).toNat : Int) := by
  have hm : mod 2 = 256 := rfl
  unfold twoI
  rw [if_neg (by decide)]
  show cutI 2 (((cutI 2 a).toNat : Int) - ((cutI 2 b).toNat : Int)) = _
  unfold cutI; rw [hm]; omega

theorem facts2_of (A B C : Nat) (hA : A < 256) (hB : B < 256) (hC : C < 256) :
    Facts2 A B C (2 ^ wid 2 - (A + 1)) ((((A : Int) + B) % 256).toNat) ((((A : Int) + B + C) % 256).toNat) ((((B : Int) + C) % 256).toNat) (((0 - (A : Int)) % 256).toNat)
      (bitI ((A : Int) == B)) (bitI (decide ((A : Int) < B))) (bitI (decide ((B : Int) < A))) (bitI (decide ((B : Int) ≤ A))) := by
  have hw : wid 2 = 8 := rfl
  refine ⟨t_add _ _ (by omega) (by omega), ?_, t_cmp _ (.inl rfl) A B hA hB, t_cmp _ (.inr (.inr (.inl rfl))) A B hA hB, ?_, ?_, ?_, ?_, t_cmp _ (.inr (.inr (.inr rfl))) A B hA hB, t_cmp _ (.inr (.inl rfl)) B A hB hA, ?_, t_add _ _ (by omega) (by omega), ?_, t_sub _ _ (by omega) (by omega), ?_⟩
  · rw [t_sub _ _ (by omega) (by omega)]; omega
  · rcases Int.lt_trichotomy (A : Int) B with h | h | h
    · simp [bitI, h, show ¬ (B : Int) < A by omega, show ¬ (A : Int) = B by omega]
    · simp [bitI, h]
    · simp [bitI, h, show ¬ (A : Int) < B by omega, show ¬ (A : Int) = B by omega]
  · unfold bitI; split <;> omega
  · unfold bitI; split <;> omega
  · rw [t_cmp _ (.inr (.inl rfl)) A B hA hB]
    show bitI (decide ((A : Int) ≤ B)) = _
    by_cases h : (A : Int) ≤ B
    · simp [bitI, h, show ¬ (B : Int) < A by omega]
    · simp [bitI, h, show (B : Int) < A by omega]
  · rw [t_add _ _ (by omega) (by omega)]; omega
  · rw [t_add _ _ (by omega) (by omega)]; omega
  · rw [t_add _ _ (by rw [hw]; omega) (by omega), hw]; omega
end Go.Proofs.Ytmoakccnjahfeaa
