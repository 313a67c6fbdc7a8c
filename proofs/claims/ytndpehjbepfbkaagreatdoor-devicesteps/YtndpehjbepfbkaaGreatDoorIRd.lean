/-
  CONTRACT of the reader's number.
-/
import Derived.Test.YtndpehjbepfbkaaGreatDoorIKs
set_option linter.unusedSimpArgs false
set_option linter.unusedVariables false
namespace Go.Proofs.YtndpehjbepfbkaaGreatDoor
open Go.RowKit

def P7 (j : Nat) : Nat := 2 ^ (7 * j)
theorem P7_0 : P7 0 = 1 := rfl
theorem P7_1 : P7 1 = 128 := rfl
theorem P7_2 : P7 2 = 16384 := rfl
theorem P7_3 : P7 3 = 2097152 := rfl
theorem P7_4 : P7 4 = 268435456 := rfl
theorem run_min2 {P : Program} (ts : Array TypeId) (t : TypeId) (x y : Int) (w : World) : (Builtin.min_ ts t #[.int .i64 x, .int .i64 y]).run P w = .ok (.int .i64 (min x y)) w := by
  have e : ∀ a b : Int, (if b < a then b else a) = min a b := fun a b => by split <;> omega
  simp [Builtin.min_, Builtin.min2, e]
theorem wrap_small {x : Int} (h0 : -1000000000000 ≤ x) (h1 : x ≤ 1000000000000) : wrap64 x = x := by unfold wrap64; omega
theorem P7_le {j : Nat} (h : j < 4) : P7 j ≤ 2097152 := by
  have : P7 j ≤ P7 3 := Nat.pow_le_pow_right (by decide) (by omega)
  rwa [P7_3] at this
theorem P7_int (j : Nat) : ((2 : Int) ^ (7 * j)) = ((P7 j : Nat) : Int) := by unfold P7; exact (Int.natCast_pow 2 (7 * j)).symm
theorem acc_wrap (k z : Nat) (hk : k ≤ 300000000) (hz : z ≤ 300000000) : wrap64 ((k : Int) + wrap64 (z : Int)) = ((k + z : Nat) : Int) := by
  rw [wrap_small (x := (z : Int)) (by omega) (by omega), ← Int.natCast_add]
  exact wrap_small (by omega) (by omega)
theorem shifted (k j n : Nat) (hj : j < 4) (hk : k < P7 j) : wrap64 ((k : Int) + wrap64 ((n : Int).tmod 128 * 2 ^ (7 * j))) = ((k + P7 j * (n % 128) : Nat) : Int) := by
  have hp := P7_le hj
  have h2 : P7 j * (n % 128) ≤ 2097152 * 127 := Nat.mul_le_mul hp (by omega)
  rw [P7_int, Int.tmod_eq_emod_of_nonneg (Int.natCast_nonneg n)]
  have e1 : ((n : Int) % 128) * ((P7 j : Nat) : Int) = ((P7 j * (n % 128) : Nat) : Int) := by
    rw [Int.natCast_mul, Int.mul_comm]; rfl
  rw [e1]
  exact acc_wrap k _ (by omega) (by omega)
/-- what is read so far, of a number -/
def Num7 (l : List UInt8) (j k : Nat) (l' : List UInt8) : Prop := numP l = (k + P7 j * (numG (4 - j) l').1, (numG (4 - j) l').2) ∧ l'.length + j = l.length ∧ k < P7 j
theorem Num7.begin (l : List UInt8) : Num7 l 0 0 l := ⟨by simp [numP, P7_0], rfl, by decide⟩
theorem Num7.last {l l' : List UInt8} {j k : Nat} {b : UInt8} (h : Num7 l j k (b :: l')) (hj : j < 4) (hb : b.toNat < 128) : numP l = (k + P7 j * (b.toNat % 128), l') := by
  obtain ⟨h1, h2, h3⟩ := h
  rw [h1, show 4 - j = (3 - j) + 1 by omega]
  simp only [numG, if_pos hb]
  rw [Nat.mod_eq_of_lt hb]
theorem P7_succ (j : Nat) : P7 (j + 1) = P7 j * 128 := by unfold P7; rw [show 7 * (j + 1) = 7 * j + 7 by omega, Nat.pow_add]
theorem Num7.next {l l' : List UInt8} {j k : Nat} {b : UInt8} (h : Num7 l j k (b :: l')) (hj : j < 4) (hb : ¬ b.toNat < 128) : Num7 l (j + 1) (k + P7 j * (b.toNat % 128)) l' := by
  obtain ⟨h1, h2, h3⟩ := h
  refine ⟨?_, by simp at h2; omega, ?_⟩
  · rw [h1, show 4 - j = (3 - j) + 1 by omega]
    simp only [numG, if_neg hb]
    rw [show 4 - (j + 1) = 3 - j by omega, P7_succ, Nat.mul_add, ← Nat.mul_assoc, Nat.add_assoc]
  · rw [P7_succ]
    have h4 : b.toNat % 128 ≤ 127 := by omega
    have h5 : P7 j * (b.toNat % 128) ≤ P7 j * 127 := Nat.mul_le_mul_left _ h4
    omega
theorem Num7.end {l l' : List UInt8} {j k : Nat} (h : Num7 l j k l') (hj : j = 4 ∨ l' = []) : numP l = (k, l') := by
  obtain ⟨h1, h2, h3⟩ := h
  rw [h1]
  rcases hj with rfl | rfl
  · simp [numG]
  · have : numG (4 - j) [] = (0, []) := by cases 4 - j <;> rfl
    rw [this]; simp

set_option maxRecDepth 100000 in
set_option maxHeartbeats 6400000 in
theorem number_at (R : Nat) (l : List UInt8) (w : World) (h : RdrAt R l w) (hl : l.length ≤ 1000000) :
    Calls Tryz.prog 60 #[.pointer (some ⟨R, 0, none⟩)] w fun e w' => e = .returned (.int .i64 (numP l).1) ∧ RdrAt R (numP l).2 w' ∧ Kept R w w' := by
  have H := hide h
  have c0 := h.cell
  have hsz : (⟨l.toArray⟩ : ByteArray).size = l.length := str_size l
  have hmn : ∀ (x y : Int) (W : World), (Builtin.min_ #[3, 3] 3 #[.int .i64 x, .int .i64 y]).run Tryz.prog W = .ok (.int .i64 (min x y)) W := fun x y W => run_min2 _ _ x y W
  have hm2 : min (4 : Int) (l.length : Int) = ((min 4 l.length : Nat) : Int) := by omega
  clear h
  go_enter Tryz.func60, Tryz.ntmps60
  go_wp2_with fail
  go_loopw [3, 12] (fun a i wr => ∃ (j k : Nat) (l' : List UInt8), j ≤ min 4 l.length ∧ i = .int .i64 j ∧ a = .int .i64 k ∧ Hid (RdrAt R l' wr) ∧ Hid (Kept R w wr) ∧ Hid (Num7 l j k l')) (fun _ i _ => 4 - (intOf i).toNat)
  case atStart => exact ⟨0, 0, l, Nat.zero_le _, rfl, rfl, H, hide (Kept.refl _ _), hide (Num7.begin l)⟩
  case round =>
    clear c0
    obtain ⟨j, k, l', hj, rfl, rfl, hr, hk, hn⟩ := hrel
    have hkl := hn.out.2.2
    have hll := hn.out.2.1
    by_cases hlt : j < min 4 l.length
    · have hji : (j : Int) < ((min 4 l.length : Nat) : Int) := by omega
      have hj4 : j < 4 := by omega
      rcases l' with _ | ⟨b, l'⟩
      · simp at hll; omega
      · have HX := hide (str_tail b l')
        have c1 := hr.out.cell
        have f1 := hr.out.frozen
        have hbn : b.toNat < 256 := b.toNat_lt
        have HS : Hid (∀ m, RdrAt R m (wr.setCell ⟨R, 0, none⟩ (.string ⟨m.toArray⟩))) := hide fun m => hr.out.set
        have HK : Hid (∀ v, Kept R w (wr.setCell ⟨R, 0, none⟩ v)) := hide fun v => hk.out.step 0 v
        have hp0 : 0 < (⟨(b :: l').toArray⟩ : ByteArray).size := by rw [str_size]; simp
        have HW0 : Hid (wrap64 ((((⟨(b :: l').toArray⟩ : ByteArray)[0]'hp0).toNat : Nat) : Int) = (b.toNat : Int)) := hide (by
          show wrap64 ((b.toNat : Nat) : Int) = _
          unfold wrap64; omega)
        have HBX : Hid (wrap64 ((k : Int) + wrap64 ((b.toNat : Int).tmod 128 * 2 ^ (7 * j))) = ((k + P7 j * (b.toNat % 128) : Nat) : Int)) := hide (shifted k j b.toNat hj4 hkl)
        have HBY : Hid (wrap64 ((k : Int) + wrap64 ((b.toNat : Int) % 128 * 2 ^ (7 * j))) = ((k + P7 j * (b.toNat % 128) : Nat) : Int)) := hide (by
          rw [← HBX.out, Int.tmod_eq_emod_of_nonneg (by omega)])
        by_cases hb : b.toNat < 128
        · have HN2 := hide (hn.out.last hj4 hb)
          have hc : wrap64 ((((⟨(b :: l').toArray⟩ : ByteArray)[0]'hp0).toNat : Nat) : Int) < 128 := by rw [HW0.out]; omega
          clear hn hb hkl hll
          go_wp2_with fail
          rw [HW0.out, HBX.out]
          clear HW0 HBX HBY
          generalize k + P7 j * (b.toNat % 128) = z at *
          go_ret
          rw [HN2.out]
          exact ⟨rfl, by have := HS.out l'; rwa [← HX.out, str_size] at this, HK.out _⟩
        · have HN2 := hide (hn.out.next hj4 hb)
          have hc : ¬ wrap64 ((((⟨(b :: l').toArray⟩ : ByteArray)[0]'hp0).toNat : Nat) : Int) < 128 := by rw [HW0.out]; omega
          have hj1 : j + 1 ≤ min 4 l.length := by omega
          have HX2 : Hid ((⟨(b :: l').toArray⟩ : ByteArray).extract 1 (l'.length + 1) = ⟨l'.toArray⟩) := hide (by have := HX.out; rwa [str_size] at this)
          clear hn hb hkl hll
          go_wp2_with fail
          rw [HW0.out, HBY.out, HX2.out]
          clear HW0 HBX HBY
          generalize k + P7 j * (b.toNat % 128) = z at *
          exact ⟨⟨j + 1, z, l', hj1, by go_num, rfl, hide (HS.out l'), hide (HK.out _), HN2⟩, by simp [intOf]; omega⟩
    · have HN2 := hide (hn.out.end (by
        have : j = 4 ∨ j = l.length := by omega
        rcases this with h | h
        · exact .inl h
        · right
          exact List.eq_nil_of_length_eq_zero (by omega)))
      clear hn
      go_wp2_with fail
      go_ret
      rw [HN2.out]
      exact ⟨rfl, hr.out, hk.out⟩
end Go.Proofs.YtndpehjbepfbkaaGreatDoor
