/-
  CONTRACT of the reference's num.
-/
import Derived.Test.YtndpehjbepfbkaaGreatDoorIKs
import Derived.Test.YtndpehjbepfbkaaGreatDoorIRd
set_option linter.unusedSimpArgs false
set_option linter.unusedVariables false
namespace Go.Proofs.YtndpehjbepfbkaaGreatDoor
open Go.RowKit

/-- a number that is taken, of at most j bytes; and what is left -/
def tkG : Nat → List UInt8 → Option (Nat × List UInt8)
  | 0, _ => none
  | _ + 1, [] => none
  | j + 1, b :: l => if b.toNat < 128 then some (b.toNat, l) else (tkG j l).map fun x => (b.toNat % 128 + 128 * x.1, x.2)
/-- what is left, and whether it is bad -/
abbrev Tk := List UInt8 × Bool
def numR (most : Nat) (s : Tk) : Nat × Tk := match tkG 6 s.1 with
  | none => (0, s.1, true)
  | some (v, l) => (v, l, s.2 || decide (most < v))
theorem tkG_code : ∀ (f k j : Nat) (rest : List UInt8), k < 2 ^ (7 * (f + 1)) → tkG (f + 1 + j) (codeF f k ++ rest) = some (k, rest)
  | 0, k, j, rest, h => by
    have h2 : k < 128 := by simpa using h
    have e : 0 + 1 + j = j + 1 := by omega
    rw [e]
    have : (UInt8.ofNat k).toNat = k := by simp; omega
    simp [codeF, tkG, this, h2]
  | f + 1, k, j, rest, h => by
    have e : f + 1 + 1 + j = (f + 1 + j) + 1 := by omega
    rw [e]
    by_cases hk : k < 128
    · have : (UInt8.ofNat k).toNat = k := by simp; omega
      simp [codeF, tkG, this, hk]
    · have h3 : k / 128 < 2 ^ (7 * (f + 1)) := by
        have : 2 ^ (7 * (f + 1 + 1)) = 2 ^ (7 * (f + 1)) * 128 := by rw [show 7 * (f + 1 + 1) = 7 * (f + 1) + 7 by omega, Nat.pow_add]
        rw [this] at h
        exact Nat.div_lt_of_lt_mul (by omega)
      have ih := tkG_code f (k / 128) j rest h3
      have hb : (UInt8.ofNat (k % 128 + 128)).toNat = k % 128 + 128 := by simp; omega
      rw [codeF, if_neg hk, List.cons_append]
      simp only [tkG, hb]
      rw [if_neg (by omega), ih]
      simp only [Option.map_some, Option.some.injEq, Prod.mk.injEq, and_true]
      omega
theorem numR_code (most : Nat) (k : Int) (rest : List UInt8) (bad : Bool) (h0 : 0 ≤ k) (h1 : k < 268435456) (hm : k ≤ most) : numR most (codeP k ++ rest, bad) = (k.toNat, rest, bad) := by
  have := tkG_code 3 k.toNat 2 rest (by omega)
  unfold numR
  rw [show codeP k = codeF 3 k.toNat from rfl]
  simp only [this]
  have : ¬ most < k.toNat := by omega
  simp [this]
theorem tkG_len : ∀ (j : Nat) (l : List UInt8) (v : Nat) (l' : List UInt8), tkG j l = some (v, l') → l'.length < l.length
  | 0, _, _, _, h => by cases h
  | _ + 1, [], _, _, h => by cases h
  | j + 1, b :: l, v, l', h => by
    unfold tkG at h
    split at h
    · cases h; simp
    · cases hq : tkG j l with
      | none => rw [hq] at h; cases h
      | some x =>
        rw [hq] at h
        cases h
        have := tkG_len j l x.1 x.2 hq
        simp; omega
theorem numR_len (most : Nat) (s : Tk) : (numR most s).2.1.length ≤ s.1.length ∧ ((numR most s).2.2 = false → (numR most s).2.1.length < s.1.length ∧ s.2 = false ∧ (numR most s).1 ≤ most) := by
  unfold numR
  cases h : tkG 6 s.1 with
  | none => simp
  | some x =>
    obtain ⟨v, l⟩ := x
    have := tkG_len _ _ _ _ h
    simp only
    refine ⟨by omega, fun hb => ?_⟩
    simp at hb
    exact ⟨this, hb.1, hb.2⟩
theorem numR_bad (most : Nat) (s : Tk) (h : s.2 = true) : (numR most s).2.2 = true := by
  unfold numR
  split
  · rfl
  · simp [h]

def TkAt (T : Nat) (s : Tk) (w : World) : Prop := w.heap[T]? = some (.cells #[.string ⟨s.1.toArray⟩, .bool s.2] 91 (0, 0))
theorem TkAt.c0 {T : Nat} {s : Tk} {w : World} (h : TkAt T s w) : w.cell? ⟨T, 0, none⟩ = some (.string ⟨s.1.toArray⟩) := by rw [blk_cell h]; rfl
theorem TkAt.c1 {T : Nat} {s : Tk} {w : World} (h : TkAt T s w) : w.cell? ⟨T, 1, none⟩ = some (.bool s.2) := by rw [blk_cell h]; rfl
theorem TkAt.set0 {T : Nat} {s : Tk} {w : World} (h : TkAt T s w) (l : List UInt8) : TkAt T (l, s.2) (w.setCell ⟨T, 0, none⟩ (.string ⟨l.toArray⟩)) := by unfold TkAt; rw [blk_set h]; rfl
theorem TkAt.set1 {T : Nat} {s : Tk} {w : World} (h : TkAt T s w) (b : Bool) : TkAt T (s.1, b) (w.setCell ⟨T, 1, none⟩ (.bool b)) := by unfold TkAt; rw [blk_set h]; rfl
theorem TkAt.other {T : Nat} {s : Tk} {w w' : World} (h : TkAt T s w) (e : w'.heap[T]? = w.heap[T]?) : TkAt T s w' := e.trans h

theorem wrap_mid {x : Int} (h0 : -1000000000000000 ≤ x) (h1 : x ≤ 1000000000000000) : wrap64 x = x := by unfold wrap64; omega
theorem P7_le6 {j : Nat} (h : j ≤ 6) : P7 j ≤ 4398046511104 := by
  have : P7 j ≤ P7 6 := Nat.pow_le_pow_right (by decide) (by omega)
  exact this
theorem acc_wrap6 (k z : Nat) (hk : k ≤ 5000000000000) (hz : z ≤ 5000000000000) : wrap64 ((k : Int) + wrap64 (z : Int)) = ((k + z : Nat) : Int) := by
  rw [wrap_mid (x := (z : Int)) (by omega) (by omega), ← Int.natCast_add]
  exact wrap_mid (by omega) (by omega)
theorem P7_prod {j n : Nat} (hj : j < 6) : P7 j * (n % 128) ≤ 4398046511104 := by
  have h1 : P7 j * (n % 128) ≤ P7 j * 128 := Nat.mul_le_mul_left _ (by omega)
  rw [← P7_succ] at h1
  exact Nat.le_trans h1 (P7_le6 (by omega))
theorem shifted6 (k j n : Nat) (hj : j < 6) (hk : k < P7 j) : wrap64 ((k : Int) + wrap64 ((n : Int) % 128 * (P7 j : Nat))) = ((k + P7 j * (n % 128) : Nat) : Int) := by
  have hp := P7_le6 (j := j) (by omega)
  have h2 := P7_prod (n := n) hj
  have e1 : ((n : Int) % 128) * ((P7 j : Nat) : Int) = ((P7 j * (n % 128) : Nat) : Int) := by
    rw [Int.natCast_mul, Int.mul_comm]; rfl
  rw [e1]
  exact acc_wrap6 k _ (by omega) (by omega)
theorem shifted6f (j : Nat) (hj : j < 6) : wrap64 (((P7 j : Nat) : Int) * 128) = ((P7 (j + 1) : Nat) : Int) := by
  have hp := P7_le6 (j := j + 1) (by omega)
  have e : ((P7 j : Nat) : Int) * 128 = ((P7 (j + 1) : Nat) : Int) := by rw [P7_succ]; rfl
  rw [e]
  exact wrap_mid (by omega) (by omega)
theorem str_drop (l : List UInt8) (k : Nat) : (⟨l.toArray⟩ : ByteArray).extract k (⟨l.toArray⟩ : ByteArray).size = ⟨(l.drop k).toArray⟩ := by
  apply ByteArray.ext
  apply Array.toList_inj.1
  rw [Lib.extract_data, str_size]
  simp
  exact List.take_of_length_le (by simp)

/-- what is taken so far, of a number -/
def Tk7 (l : List UInt8) (j k : Nat) : Prop := tkG 6 l = (tkG (6 - j) (l.drop j)).map (fun x => (k + P7 j * x.1, x.2)) ∧ k < P7 j
theorem Tk7.begin (l : List UInt8) : Tk7 l 0 0 := ⟨by simp [P7_0], by decide⟩
theorem Tk7.last {l : List UInt8} {j k : Nat} (h : Tk7 l j k) (hj : j < 6) (hl : j < l.length) (hb : l[j].toNat < 128) : tkG 6 l = some (k + P7 j * (l[j].toNat % 128), l.drop (j + 1)) := by
  obtain ⟨h1, h2⟩ := h
  rw [h1, show 6 - j = (5 - j) + 1 by omega, List.drop_eq_getElem_cons hl]
  simp only [tkG, if_pos hb, Option.map_some]
  rw [Nat.mod_eq_of_lt hb]
theorem Tk7.next {l : List UInt8} {j k : Nat} (h : Tk7 l j k) (hj : j < 6) (hl : j < l.length) (hb : ¬ l[j].toNat < 128) : Tk7 l (j + 1) (k + P7 j * (l[j].toNat % 128)) := by
  obtain ⟨h1, h2⟩ := h
  refine ⟨?_, ?_⟩
  · rw [h1, show 6 - j = (5 - j) + 1 by omega, List.drop_eq_getElem_cons hl]
    simp only [tkG, if_neg hb, Option.map_map]
    rw [show 6 - (j + 1) = 5 - j by omega]
    congr 1
    funext x
    simp only [Function.comp, P7_succ]
    rw [Nat.mul_add, ← Nat.mul_assoc, Nat.add_assoc]
  · rw [P7_succ]
    have h4 : l[j].toNat % 128 ≤ 127 := by omega
    have h5 : P7 j * (l[j].toNat % 128) ≤ P7 j * 127 := Nat.mul_le_mul_left _ h4
    omega
theorem Tk7.end {l : List UInt8} {j k : Nat} (h : Tk7 l j k) (hj : j = 6 ∨ l.length ≤ j) : tkG 6 l = none := by
  obtain ⟨h1, h2⟩ := h
  rw [h1]
  rcases hj with rfl | hj
  · rfl
  · rw [List.drop_eq_nil_of_le hj]
    cases 6 - j <;> rfl

set_option maxRecDepth 100000 in
set_option maxHeartbeats 6400000 in
theorem rnum_at (T : Nat) (s : Tk) (most : Nat) (w : World) (h : TkAt T s w) (hl : s.1.length ≤ 1000000) :
    Calls Tryz.prog 36 #[.pointer (some ⟨T, 0, none⟩), .int .i64 most] w fun e w' => e = .returned (.int .i64 (numR most s).1) ∧ TkAt T (numR most s).2 w' ∧ Kept T w w' := by
  obtain ⟨l, bad⟩ := s
  simp only at hl
  have c0 := h.c0
  have c1 := h.c1
  have f0 : w.frozen? ⟨T, 0, none⟩ = false := blk_frozen h 0
  have f1 : w.frozen? ⟨T, 1, none⟩ = false := blk_frozen h 1
  simp only at c0 c1
  have H := hide h
  have hsz : (⟨l.toArray⟩ : ByteArray).size = l.length := str_size l
  clear h
  go_enter Tryz.func36, Tryz.ntmps36
  go_wp2_with fail
  go_loop [5, 6, 7] (fun n f i => ∃ (j k : Nat), j ≤ 6 ∧ i = .int .i64 j ∧ n = .int .i64 k ∧ f = .int .i64 (P7 j : Nat) ∧ Hid (Tk7 l j k)) (fun _ _ i => 6 - (intOf i).toNat)
  case atStart => exact ⟨0, 0, by decide, rfl, rfl, by rw [P7_0]; rfl, hide (Tk7.begin l)⟩
  case round =>
    obtain ⟨j, k, hj, rfl, rfl, rfl, ht⟩ := hrel
    by_cases hlt : j < l.length
    · by_cases hj6 : j < 6
      · have hji : (j : Int) < (l.length : Int) := by omega
        have hj6i : (j : Int) < 6 := by omega
        have hkl := ht.out.2
        have hp0 : j < (⟨l.toArray⟩ : ByteArray).size := by rw [str_size]; exact hlt
        have hbn : l[j].toNat < 256 := l[j].toNat_lt
        have HW0 : Hid (wrap64 ((((⟨l.toArray⟩ : ByteArray)[j]'hp0).toNat : Nat) : Int) = (l[j].toNat : Int)) := hide (by
          show wrap64 ((l[j].toNat : Nat) : Int) = _
          exact wrap_small (by omega) (by omega))
        have HBX := hide (shifted6 k j l[j].toNat hj6 hkl)
        have HBF := hide (shifted6f j hj6)
        have EX : Hid (wrap64 ((k : Int) + wrap64 ((wrap64 ((((⟨l.toArray⟩ : ByteArray)[j]'hp0).toNat : Nat) : Int)).tmod 128 * (P7 j : Nat))) = ((k + P7 j * (l[j].toNat % 128) : Nat) : Int)) := hide (by
          rw [HW0.out, Int.tmod_eq_emod_of_nonneg (by omega)]; exact HBX.out)
        have EX2 : Hid (wrap64 ((k : Int) + wrap64 (wrap64 ((((⟨l.toArray⟩ : ByteArray)[j]'hp0).toNat : Nat) : Int) % 128 * (P7 j : Nat))) = ((k + P7 j * (l[j].toNat % 128) : Nat) : Int)) := hide (by
          rw [HW0.out]; exact HBX.out)
        by_cases hb : l[j].toNat < 128
        · have HTL := hide (ht.out.last hj6 hlt hb)
          have hc : wrap64 ((((⟨l.toArray⟩ : ByteArray)[j]'hp0).toNat : Nat) : Int) < 128 := by rw [HW0.out]; omega
          have HS0 := hide (H.out.set0 (l.drop (j + 1)))
          have HK0 : Hid (Kept T w (w.setCell ⟨T, 0, none⟩ (.string ⟨(l.drop (j + 1)).toArray⟩))) := hide (Kept.set w 0 _)
          have HDR := hide (str_drop l (j + 1))
          rw [hsz] at HDR
          have hj1 : ((j + 1 : Nat) : Int) ≤ (l.length : Int) := by omega
          by_cases hmo : most < k + P7 j * (l[j].toNat % 128)
          · have hmoi : (most : Int) < wrap64 ((k : Int) + wrap64 ((wrap64 ((((⟨l.toArray⟩ : ByteArray)[j]'hp0).toNat : Nat) : Int)).tmod 128 * (P7 j : Nat))) := by rw [EX.out]; omega
            have HNR : Hid (numR most (l, bad) = (k + P7 j * (l[j].toNat % 128), l.drop (j + 1), true)) := hide (by
              unfold numR; simp only [HTL.out]; simp [hmo])
            have HS1 := hide (HS0.out.set1 true)
            have HK1 := hide (HK0.out.step 1 (.bool true))
            clear hb hkl hmo ht HBX HTL hbn
            go_wp2_with fail
            rw [EX.out, HDR.out]
            rw [HNR.out]
            clear EX EX2 HW0 HBF HNR
            generalize k + P7 j * (l[j].toNat % 128) = z at *
            go_ret
            exact ⟨rfl, HS1.out, HK1.out⟩
          · have hmoi : ¬ (most : Int) < wrap64 ((k : Int) + wrap64 ((wrap64 ((((⟨l.toArray⟩ : ByteArray)[j]'hp0).toNat : Nat) : Int)).tmod 128 * (P7 j : Nat))) := by rw [EX.out]; omega
            have HNR : Hid (numR most (l, bad) = (k + P7 j * (l[j].toNat % 128), l.drop (j + 1), bad)) := hide (by
              unfold numR; simp only [HTL.out]; simp [hmo])
            clear hb hkl hmo ht HBX HTL hbn
            go_wp2_with fail
            rw [EX.out, HDR.out]
            rw [HNR.out]
            clear EX EX2 HW0 HBF HNR
            generalize k + P7 j * (l[j].toNat % 128) = z at *
            go_ret
            exact ⟨rfl, HS0.out, HK0.out⟩
        · have HTN := hide (ht.out.next hj6 hlt hb)
          have hc : ¬ wrap64 ((((⟨l.toArray⟩ : ByteArray)[j]'hp0).toNat : Nat) : Int) < 128 := by rw [HW0.out]; omega
          clear hb hkl ht HBX hbn
          go_wp2_with fail
          rw [EX2.out, HBF.out]
          clear EX EX2 HW0 HBF hc
          generalize k + P7 j * (l[j].toNat % 128) = z at *
          exact ⟨⟨j + 1, z, by omega, by go_num, rfl, rfl, HTN⟩, by simp [intOf]; omega⟩
      · have hj6i : ¬ (j : Int) < 6 := by omega
        have hji : (j : Int) < (l.length : Int) := by omega
        have HTE := hide (ht.out.end (.inl (by omega)))
        have HNR : Hid (numR most (l, bad) = (0, l, true)) := hide (by unfold numR; simp only [HTE.out])
        have HS1 := hide (H.out.set1 true)
        have HK1 : Hid (Kept T w (w.setCell ⟨T, 1, none⟩ (.bool true))) := hide (Kept.set w 1 _)
        clear ht HTE
        go_wp2_with fail
        rw [HNR.out]
        clear HNR
        go_ret
        exact ⟨rfl, HS1.out, HK1.out⟩
    · have hji : ¬ (j : Int) < (l.length : Int) := by omega
      have HTE := hide (ht.out.end (.inr (by omega)))
      have HNR : Hid (numR most (l, bad) = (0, l, true)) := hide (by unfold numR; simp only [HTE.out])
      have HS1 := hide (H.out.set1 true)
      have HK1 : Hid (Kept T w (w.setCell ⟨T, 1, none⟩ (.bool true))) := hide (Kept.set w 1 _)
      clear ht HTE
      go_wp2_with fail
      rw [HNR.out]
      clear HNR
      go_ret
      exact ⟨rfl, HS1.out, HK1.out⟩
end Go.Proofs.YtndpehjbepfbkaaGreatDoor
