/-
  CONTRACT of value.Of: the number of any list of bits that lies in memory (its first 62); and that the number of a byte's bits is that byte.
-/
import Derived.Test.YtmoakccnjahfeaaBits
namespace Go.Proofs.Ytmoakccnjahfeaa
open Go.RowKit
def ofTo (l : List Bool) : Nat → Nat
  | 0 => 0
  | k + 1 => ofTo l k + (if l[k]?.getD false then 2 ^ k else 0)

theorem ofTo_lt (l : List Bool) (k : Nat) : ofTo l k < 2 ^ k := by
  induction k with
  | zero => simp [ofTo]
  | succ k ih => unfold ofTo; rw [Nat.pow_succ]; split <;> omega

theorem pow62 (j : Nat) (hj : j < 62) : 2 ^ j ≤ 2305843009213693952 := Nat.pow_le_pow_right (n := 2) (by decide) (show j ≤ 61 by omega)

theorem or_step (l : List Bool) (j : Nat) (hj : j < 62) : bits .or .i64 ((ofTo l j : Nat) : Int) (wrap64 (bitI (l[j]?.getD false) * 2 ^ j)) = ((ofTo l (j + 1) : Nat) : Int) := by
  have h1 := ofTo_lt l j
  have h2 := pow62 j hj
  cases hb : l[j]?.getD false
  · have e : wrap64 (bitI false * 2 ^ j) = ((0 : Nat) : Int) := by simp [bitI, wrap64]
    rw [e, i64_or _ _ (by omega) (by omega), Nat.or_zero]
    simp [ofTo, hb]
  · have e : wrap64 (bitI true * 2 ^ j) = ((2 ^ j : Nat) : Int) := by
      have : (bitI true * 2 ^ j : Int) = ((2 ^ j : Nat) : Int) := by simp [bitI]
      rw [this]; unfold wrap64; omega
    rw [e, i64_or _ _ (by omega) (by omega), Nat.or_comm, nat_join j (2 ^ j) (ofTo l j) (Nat.mod_self _) h1]
    simp [ofTo, hb]; omega

set_option maxHeartbeats 1600000 in
theorem of_some (l : List Bool) (b off cap : Nat) (w : World) (hl : l.length ≤ maxLen) (hc : ∀ i, i < l.length → w.cell? ⟨b, off + i, none⟩ = some (.bool (l[i]?.getD false))) :
    Calls Try.prog 13 #[.slice (some ⟨b, off, none⟩) l.length cap] w fun e w' => e = .returned (.int .i64 (ofTo l (min l.length 62))) ∧ w' = w := by
  unfold maxLen at hl
  by_cases h62 : (62 : Int) < (l.length : Int)
  · rw [show min l.length 62 = 62 by omega]
    go_enter Try.func13, Try.ntmps13
    go_wp2
    go_loop [3, 8] (fun n i => ∃ j : Nat, j ≤ 62 ∧ i = .int .i64 j ∧ n = .int .i64 (ofTo l j)) (fun _ i => 62 - (intOf i).toNat)
    case atStart => exact ⟨0, Nat.zero_le _, rfl, rfl⟩
    case round =>
      obtain ⟨j, hj, rfl, rfl⟩ := hrel
      by_cases hlt : j < 62
      · have hcj := hc j (by omega)
        have hj1 : (j : Int) < (l.length : Int) := by omega
        clear hc
        go_wp2_with (first | (go_at_call 27; refine (bit_any _ _).mono ?_; rintro e w' ⟨rfl, rfl⟩))
        refine ⟨⟨j + 1, by omega, by go_num, ?_⟩, by simp [intOf]; omega⟩
        rw [or_step l j hlt]
      · have HK : Hid (j = 62) := (by omega : j = 62)
        clear hc
        go_wp2
        go_ret
        exact ⟨ret_int (by rw [HK.out]), rfl⟩
  · rw [show min l.length 62 = l.length by omega]
    go_enter Try.func13, Try.ntmps13
    go_wp2
    go_loop [3, 8] (fun n i => ∃ j : Nat, j ≤ l.length ∧ i = .int .i64 j ∧ n = .int .i64 (ofTo l j)) (fun _ i => l.length - (intOf i).toNat)
    case atStart => exact ⟨0, Nat.zero_le _, rfl, rfl⟩
    case round =>
      obtain ⟨j, hj, rfl, rfl⟩ := hrel
      by_cases hlt : j < l.length
      · have hcj := hc j (by omega)
        have hj1 : (j : Int) < (l.length : Int) := by omega
        have hj2 : (j : Int) < 62 := by omega
        clear hc
        go_wp2_with (first | (go_at_call 27; refine (bit_any _ _).mono ?_; rintro e w' ⟨rfl, rfl⟩))
        refine ⟨⟨j + 1, by omega, by go_num, ?_⟩, by simp [intOf]; omega⟩
        have e := or_step l j (by omega)
        rw [List.getElem?_eq_getElem hlt, Option.getD_some] at e
        rw [e]
      · have HK : Hid (j = l.length) := (by omega : j = l.length)
        clear hc
        go_wp2
        go_ret
        exact ⟨ret_int (by rw [HK.out]), rfl⟩

set_option maxHeartbeats 1600000 in
theorem of_nil (a : Option Addr) (cap : Nat) (w : World) :
    Calls Try.prog 13 #[.slice a 0 cap] w fun e w' => e = .returned (.int .i64 0) ∧ w' = w := by
  go_enter Try.func13, Try.ntmps13
  go_wp2
  go_loop [3, 8] (fun n i => i = .int .i64 0 ∧ n = .int .i64 0) (fun _ _ => 0)
  case atStart => exact ⟨rfl, rfl⟩
  case round =>
    obtain ⟨rfl, rfl⟩ := hrel
    go_wp2
    go_ret
    exact ⟨rfl, rfl⟩

/-- what is told of a slice of bits: it is nil, or empty, or it leads to a row of cells that hold them -/
def IsBits (w : World) (v : Value) (l : List Bool) : Prop :=
  ((v = .slice none 0 0 ∨ ∃ x cap, v = .slice (some x) 0 cap) ∧ l = []) ∨ ∃ b off cap, v = .slice (some ⟨b, off, none⟩) l.length cap ∧ l.length ≤ cap ∧ cap ≤ maxLen ∧ ∀ i, i < l.length → w.cell? ⟨b, off + i, none⟩ = some (.bool (l[i]?.getD false))

theorem isBits_owns {w : World} {base n : Nat} {v : Value} {l : List Bool} (h : w.ownsRow base 4 1 v n (l.map Value.bool)) : IsBits w v l := by
  obtain ⟨h1, h2⟩ := h
  simp at h1
  rcases h2 with ⟨rfl, rfl⟩ | ⟨g, cap, cur, rfl, hb, hg, hn, hm, hs, ht⟩
  · exact .inl ⟨.inl rfl, List.eq_nil_of_length_eq_zero h1⟩
  · refine .inr ⟨g, 0, cap, by rw [h1], by omega, hm, fun i hi => ?_⟩
    have := World.ownsRow.cellAt (w := w) (base := base) (e := 4) (size := 1) (g := g) (cap := cap) (n := n) (xs := l.map Value.bool) ⟨by simpa using h1, .inr ⟨g, cap, cur, rfl, hb, hg, hn, hm, hs, ht⟩⟩ i (by omega)
    simpa [hi] using this

theorem of_any (l : List Bool) (v : Value) (w : World) (h : IsBits w v l) :
    Calls Try.prog 13 #[v] w fun e w' => e = .returned (.int .i64 (ofTo l (min l.length 62))) ∧ w' = w := by
  rcases h with ⟨rfl | ⟨x, cap, rfl⟩, rfl⟩ | ⟨b, off, cap, rfl, hl, hm, hc⟩
  · exact of_nil none 0 w
  · exact of_nil (some x) cap w
  · exact of_some l b off cap w (by omega) hc

/-! the number of bits of a number -/
theorem emod_two (n p : Int) (hp : 0 < p) : n % (p * 2) = n % p + p * (n / p % 2) := by
  have h1 := Int.mul_ediv_add_emod n p
  have h2 : n / p % 2 = 0 ∨ n / p % 2 = 1 := by omega
  have h3 := Int.emod_nonneg n (show p ≠ 0 by omega)
  have h4 := Int.emod_lt_of_pos n hp
  have h5 : n = (n % p + p * (n / p % 2)) + (p * 2) * (n / p / 2) := by
    have : n / p = 2 * (n / p / 2) + n / p % 2 := by omega
    calc n = p * (n / p) + n % p := h1.symm
      _ = p * (2 * (n / p / 2) + n / p % 2) + n % p := by rw [← this]
      _ = _ := by rw [Int.mul_add, Int.mul_assoc]; omega
  have h6 : (n % p + p * (n / p % 2)) % (p * 2) = n % p + p * (n / p % 2) := by
    apply Int.emod_eq_of_lt
    · rcases h2 with h | h <;> rw [h] <;> omega
    · rcases h2 with h | h <;> rw [h] <;> omega
  rw [← h6, ← Int.add_mul_emod_self_left (n % p + p * (n / p % 2)) (p * 2) (n / p / 2), ← h5]
theorem bitsTo_get (n : Int) (k j : Nat) (h : j < k) : (bitsTo n k)[j]?.getD false = bitOf n j := by
  simp [bitsTo, h]
theorem ofTo_bits (n : Int) (K : Nat) : ∀ k, k ≤ K → ((ofTo (bitsTo n K) k : Nat) : Int) = n % 2 ^ k := by
  intro k
  induction k with
  | zero => intro _; simp [ofTo]
  | succ k ih =>
    intro h
    have e := ih (by omega)
    have hp : (0 : Int) < 2 ^ k := by exact_mod_cast Nat.two_pow_pos k
    unfold ofTo
    rw [bitsTo_get n K k (by omega)]
    have hd : n % 2 ^ (k + 1) = n % 2 ^ k + 2 ^ k * (n / 2 ^ k % 2) := by
      rw [Int.pow_succ]
      exact emod_two n _ hp
    rw [hd, ← e]
    unfold bitOf
    have h2 : n / 2 ^ k % 2 = 0 ∨ n / 2 ^ k % 2 = 1 := by omega
    rcases h2 with h2 | h2 <;> simp [h2]
theorem mod_wid (k : Int) : (2 : Int) ^ wid k = mod k := by rw [mod_pow]; simp
theorem of_bits (k n : Int) : ((ofTo (bitsTo n (wid k)) (min (bitsTo n (wid k)).length 62) : Nat) : Int) = cutI k n := by
  have := wid_le k
  rw [bitsTo_len, show min (wid k) 62 = wid k by omega, ofTo_bits n (wid k) (wid k) (Nat.le_refl _), mod_wid]; rfl

end Go.Proofs.Ytmoakccnjahfeaa
