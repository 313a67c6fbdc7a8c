/-
  THE WALK of rungworkkeep.ValueLists: for every two lists of bits it returns true, and it writes nothing that was there.
-/
import Derived.Test.YtmoakccnjahfeaaEqual
import Derived.Test.YtmoakccnjahfeaaFacts
namespace Go.Proofs.Ytmoakccnjahfeaa
open Go.RowKit

/-! ### plain: eight bits and their byte -/
theorem bits8 : ∀ b0 b1 b2 b3 b4 b5 b6 b7 : Bool, bitsTo ((ofTo [b0, b1, b2, b3, b4, b5, b6, b7] 8 : Nat) : Int) 8 = [b0, b1, b2, b3, b4, b5, b6, b7] := by decide +kernel
theorem bits8_of (X : List Bool) (h : X.length = 8) : bitsTo ((ofTo X 8 : Nat) : Int) 8 = X := by
  match X, h with
  | [b0, b1, b2, b3, b4, b5, b6, b7], _ => exact bits8 b0 b1 b2 b3 b4 b5 b6 b7
theorem of8_inj (X Y : List Bool) (hX : X.length = 8) (hY : Y.length = 8) (h : ofTo X 8 = ofTo Y 8) : X = Y := by
  rw [← bits8_of X hX, ← bits8_of Y hY, h]
theorem of8_le (X : List Bool) : ofTo X 8 ≤ 255 := by have := ofTo_lt X 8; omega
theorem ofTo_diff (X Y : List Bool) (k : Nat) : ∀ n, k ≤ n → (∀ t, k ≤ t → t < n → X[t]?.getD false = Y[t]?.getD false) → (ofTo X n : Int) - ofTo Y n = ofTo X k - ofTo Y k := by
  intro n
  induction n with
  | zero => intro h _; rw [show k = 0 by omega]
  | succ n ih =>
    intro h hs
    rcases Nat.lt_or_ge n k with h1 | h1
    · rw [show k = n + 1 by omega]
    · have e := ih h1 (fun t h2 h3 => hs t h2 (by omega))
      have e2 := hs n h1 (by omega)
      simp only [ofTo]
      rw [e2]
      push_cast
      omega
theorem of8_lt (X Y : List Bool) (t : Nat) (ht : t < 8) (hs : ∀ u, t < u → u < 8 → X[u]?.getD false = Y[u]?.getD false) (hx : X[t]?.getD false = false) (hy : Y[t]?.getD false = true) : ofTo X 8 < ofTo Y 8 := by
  have e := ofTo_diff X Y (t + 1) 8 (by omega) (fun u h1 h2 => hs u (by omega) h2)
  have h1 := ofTo_lt X t
  have eX : ofTo X (t + 1) = ofTo X t := by simp [ofTo, hx]
  have eY : ofTo Y (t + 1) = ofTo Y t + 2 ^ t := by simp [ofTo, hy]
  rw [eX, eY] at e
  generalize 2 ^ t = p at *
  omega

theorem same_down {X Y : List Bool} {t : Nat} (h : ∀ u : Nat, (t : Int) < (u : Int) → u < 8 → X[u]?.getD false = Y[u]?.getD false) (ht : X[t]?.getD false = Y[t]?.getD false) : ∀ u : Nat, (t : Int) - 1 < (u : Int) → u < 8 → X[u]?.getD false = Y[u]?.getD false := by
  intro u h1 h2
  rcases Nat.lt_or_ge t u with h3 | h3
  · exact h u (by omega) h2
  · rw [show u = t by omega]; exact ht
theorem less_1 (X Y : List Bool) (A B : Nat) (hA : ofTo X 8 = A) (hB : ofTo Y 8 = B) (h : ofTo X 8 < ofTo Y 8) : twoI [60] 2 A B = 1 := by
  have h1 := of8_le X
  have h2 := of8_le Y
  rw [t_cmp _ (.inl rfl) A B (by omega) (by omega)]
  have : (A : Int) < B := by omega
  simp [holdsB, bitI, this]
theorem less_0 (X Y : List Bool) (A B : Nat) (hA : ofTo X 8 = A) (hB : ofTo Y 8 = B) (h : ofTo Y 8 ≤ ofTo X 8) : twoI [60] 2 A B = 0 := by
  have h1 := of8_le X
  have h2 := of8_le Y
  rw [t_cmp _ (.inl rfl) A B (by omega) (by omega)]
  have : ¬ (A : Int) < B := by omega
  simp [holdsB, bitI, this]
theorem eq_1 (X Y : List Bool) (A B : Nat) (hA : ofTo X 8 = A) (hB : ofTo Y 8 = B) (h : A = B) : twoI [61] 2 A B = 1 := by
  have h1 := of8_le X
  have h2 := of8_le Y
  have hm : mod 2 = 256 := rfl
  rw [t_eq 2 A B (.inr rfl) (by omega) (by omega), h]
  simp [bitI]

theorem isBits_cells {w : World} {g cap : Nat} {X : List Bool} (h : IsBits w (.slice (some ⟨g, 0, none⟩) 8 cap) X) (hX : X.length = 8) : 8 ≤ cap ∧ ∀ i, i < 8 → w.cell? ⟨g, i, none⟩ = some (.bool (X[i]?.getD false)) := by
  rcases h with ⟨_, rfl⟩ | ⟨b, off, c, h, h1, h2, hc⟩
  · cases hX
  · simp only [Value.slice.injEq, Option.some.injEq, Addr.mk.injEq] at h
    obtain ⟨⟨rfl, rfl, _⟩, _, rfl⟩ := h
    refine ⟨by omega, fun i hi => ?_⟩
    have := hc i (by omega)
    rw [Nat.zero_add] at this
    exact this

/-! ### the two comparisons, at what they come to -/
theorem equal_at (X Y : List Bool) (r : Bool) (v : Value) (g cap : Nat) (w : World) (hX : X.length = 8) (hY : Y.length = 8) (hv : IsBits w v X) (hy : IsBits w (.slice (some ⟨g, 0, none⟩) 8 cap) Y) (hr : (X == Y) = r) :
    Calls Try.prog 26 #[v, .slice (some ⟨g, 0, none⟩) 8 cap] w fun e w' => e = .returned (.bool r) ∧ ∃ n, w' = w.drewN n := by
  have hc' := (isBits_cells hy hY).2
  rcases hv with ⟨_, rfl⟩ | ⟨b, off, c, rfl, h1, h2, hc⟩
  · cases hX
  · rw [← hr]
    have := equal_some X Y (hX.trans hY.symm) b off c g 0 cap w (by omega) hc (fun i hi => by rw [Nat.zero_add]; exact hc' i (by omega))
    rw [hY] at this
    exact this
theorem of8_at (X : List Bool) (v : Value) (w : World) (hX : X.length = 8) (hv : IsBits w v X) (A : Nat) (hA : ofTo X 8 = A) :
    Calls Try.prog 13 #[v] w fun e w' => e = .returned (.int .i64 (A : Int)) ∧ w' = w := by
  have := of_any X v w hv
  rw [hX] at this
  rw [← hA]
  exact this

/-! ### where the lists are long -/
set_option maxHeartbeats 1600000 in
theorem lists_long0 (a0 a1 : Option Addr) (len0 cap0 len1 cap1 : Nat) (w : World) (h : (20 : Int) < (len0 : Int)) :
    Calls Try.prog 5 #[.slice a0 len0 cap0, .slice a1 len1 cap1] w fun e w' => e = .returned (.bool true) ∧ Below w.heap.size w w' := by
  go_enter Try.func5, Try.ntmps5
  go_wp2
  go_ret
  exact ⟨rfl, Below.refl _ _⟩
set_option maxHeartbeats 1600000 in
theorem lists_long1 (a0 a1 : Option Addr) (len0 cap0 len1 cap1 : Nat) (w : World) (h0 : (len0 : Int) ≤ 20) (h : (20 : Int) < (len1 : Int)) :
    Calls Try.prog 5 #[.slice a0 len0 cap0, .slice a1 len1 cap1] w fun e w' => e = .returned (.bool true) ∧ Below w.heap.size w w' := by
  have hd : decide ((20 : Int) < (len0 : Int)) = false := by simp; omega
  go_enter Try.func5, Try.ntmps5
  go_wp2
  go_ret
  exact ⟨rfl, Below.refl _ _⟩

/-! ### the rest, behind 'reckoned': the two lists are the same -/
set_option maxRecDepth 100000 in
set_option maxHeartbeats 4000000 in
theorem lists_short (a0 a1 : Option Addr) (len0 cap0 len1 cap1 : Nat) (l m : List Bool) (w : World) (h0 : (len0 : Int) ≤ 20) (h1 : (len1 : Int) ≤ 20)
    (hl : IsBits w (.slice a0 len0 cap0) l) (hm : IsBits w (.slice a1 len1 cap1) m) (hl20 : l.length ≤ 20) (hm20 : m.length ≤ 20) (X Y : List Bool) (eX : eightL l = X) (eY : eightL m = Y) (A B : Nat) (eA : ofTo X 8 = A) (eB : ofTo Y 8 = B) :
    Calls Try.prog 5 #[.slice a0 len0 cap0, .slice a1 len1 cap1] w fun e w' => e = .returned (.bool true) ∧ Below w.heap.size w w' := by
  have hd0 : decide ((20 : Int) < (len0 : Int)) = false := by simp; omega
  have hd1 : decide ((20 : Int) < (len1 : Int)) = false := by simp; omega
  have HL : Hid (IsBits w (.slice a0 len0 cap0) l) := hl
  have HM : Hid (IsBits w (.slice a1 len1 cap1) m) := hm
  have HX8 : Hid (X.length = 8) := (by rw [← eX]; exact eightL_len l : X.length = 8)
  have HY8 : Hid (Y.length = 8) := (by rw [← eY]; exact eightL_len m : Y.length = 8)
  have HX : Hid (eightL l = X) := eX
  have HY : Hid (eightL m = Y) := eY
  have HA : Hid (ofTo X 8 = A) := eA
  have HB : Hid (ofTo Y 8 = B) := eB
  have hA : (A : Int) ≤ 255 := by have := of8_le X; omega
  have hB : (B : Int) ≤ 255 := by have := of8_le Y; omega
  have hA0 : decide ((A : Int) < 0) = false := by simp
  have hA1 : decide ((255 : Int) < (A : Int)) = false := by simp; omega
  have HAB : Hid ((X == Y) = ((A : Int) == (B : Int))) := by
    show (X == Y) = ((A : Int) == (B : Int))
    by_cases h : X = Y
    · have : A = B := by rw [← eA, ← eB, h]
      simp [h, this]
    · have : ¬ (A : Int) = (B : Int) := fun e => h (of8_inj X Y HX8.out HY8.out (by rw [eA, eB]; omega))
      rw [beq_eq_false_iff_ne.2 h, beq_eq_false_iff_ne.2 this]
  have HBits : Hid (bitsTo (A : Int) (wid 2) = X) := by
    show bitsTo (A : Int) 8 = X
    rw [← eA]; exact bits8_of X HX8.out
  clear hl hm eX eY eA eB
  go_enter Try.func5, Try.ntmps5
  go_wp2_with fail
  refine (reckoned_any _).mono ?_; rintro e w1 ⟨rfl, hb1⟩
  have HL1 : Hid (IsBits w1 (.slice a0 len0 cap0) l) := HL.out.below hb1
  have HM1 : Hid (IsBits w1 (.slice a1 len1 cap1) m) := HM.out.below hb1
  clear HL HM
  go_wp2_with fail
  refine (eight_any l _ w1 HL1.out hl20).mono ?_; rintro e w2 ⟨g0, c0, rfl, hx2, hb2⟩
  rw [HX.out] at hx2
  have HM2 : Hid (IsBits w2 (.slice a1 len1 cap1) m) := HM1.out.below hb2
  have HB2 : Hid (Below w.heap.size w w2) := hb1.trans (hb2.mono hb1.size)
  have HX2 : Hid (IsBits w2 (.slice (some ⟨g0, 0, none⟩) 8 c0) X) := hx2
  clear HL1 HM1 hb1 hb2 hx2
  go_wp2_with fail
  refine (eight_any m _ w2 HM2.out hm20).mono ?_; rintro e w3 ⟨g1, c1, rfl, hy3, hb3⟩
  rw [HY.out] at hy3
  have HB3 : Hid (Below w.heap.size w w3) := HB2.out.trans (hb3.mono HB2.out.size)
  have HX3 : Hid (IsBits w3 (.slice (some ⟨g0, 0, none⟩) 8 c0) X) := HX2.out.below hb3
  have HY3 : Hid (IsBits w3 (.slice (some ⟨g1, 0, none⟩) 8 c1) Y) := hy3
  clear HM2 HB2 HX2 hb3 hy3
  go_wp2_with fail
  refine (of8_at X _ w3 HX8.out HX3.out A HA.out).mono ?_; rintro e w' ⟨rfl, rfl⟩
  go_wp2_with fail
  refine (of8_at Y _ _ HY8.out HY3.out B HB.out).mono ?_; rintro e w' ⟨rfl, rfl⟩
  go_wp2_with fail
  refine (bits_any 2 A _).mono ?_; rintro e w4 ⟨v, rfl, hown, hb4⟩
  have hv4 := isBits_owns hown
  rw [HBits.out] at hv4
  have HV4 : Hid (IsBits w4 v X) := hv4
  have HB4 : Hid (Below w.heap.size w w4) := HB3.out.trans (hb4.mono HB3.out.size)
  have HX4 : Hid (IsBits w4 (.slice (some ⟨g0, 0, none⟩) 8 c0) X) := HX3.out.below hb4
  have HY4 : Hid (IsBits w4 (.slice (some ⟨g1, 0, none⟩) 8 c1) Y) := HY3.out.below hb4
  clear HB3 HX3 HY3 hb4 hv4 hown
  go_wp2_with fail
  refine (equal_at X X true v g0 c0 w4 HX8.out HX8.out HV4.out HX4.out (by simp)).mono ?_; rintro e w' ⟨rfl, n5, rfl⟩
  go_wp2_with fail
  refine (equal_at X Y ((A : Int) == (B : Int)) _ g1 c1 (w4.drewN n5) HX8.out HY8.out (HX4.out.below (drewN_below w4 n5)) (HY4.out.below (drewN_below w4 n5)) HAB.out).mono ?_; rintro e w' ⟨rfl, n6, rfl⟩
  have HX6 : Hid (8 ≤ c0 ∧ ∀ i, i < 8 → ((w4.drewN n5).drewN n6).cell? ⟨g0, i, none⟩ = some (.bool (X[i]?.getD false))) := isBits_cells HX4.out HX8.out
  have HY6 : Hid (8 ≤ c1 ∧ ∀ i, i < 8 → ((w4.drewN n5).drewN n6).cell? ⟨g1, i, none⟩ = some (.bool (Y[i]?.getD false))) := isBits_cells HY4.out HY8.out
  have HB6 : Hid (Below w.heap.size w ((w4.drewN n5).drewN n6)) := HB4.out.trans ⟨rfl, rfl, rfl, Nat.le_refl _, fun _ _ => rfl⟩
  clear HX4 HY4 HB4 HV4
  generalize (w4.drewN n5).drewN n6 = W at *
  go_wp2_with fail
  go_loopw [10] (fun c wr => ∃ q : Int, -1 ≤ q ∧ q ≤ 7 ∧ c = .int .i64 q ∧ Hid (∀ u : Nat, q < (u : Int) → u < 8 → X[u]?.getD false = Y[u]?.getD false) ∧ ∃ n, wr = W.drewN n) (fun c _ => (intOf c + 1).toNat)
  case atStart => exact ⟨7, by omega, by omega, rfl, (fun u h1 h2 => by omega : ∀ u : Nat, (7 : Int) < (u : Int) → u < 8 → X[u]?.getD false = Y[u]?.getD false), 0, rfl⟩
  case round =>
    obtain ⟨q, hq1, hq2, rfl, hsame, nq, rfl⟩ := hrel
    by_cases hq : 0 ≤ q
    · obtain ⟨t, rfl⟩ := Int.eq_ofNat_of_zero_le hq
      have hcx := HX6.out.2 t (by omega)
      have hcy := HY6.out.2 t (by omega)
      have ht8 : (t : Int) < 8 := by omega
      generalize hx : X[t]?.getD false = x at *
      generalize hy : Y[t]?.getD false = y at *
      have HXt : Hid (X[t]?.getD false = x) := hx
      have HYt : Hid (Y[t]?.getD false = y) := hy
      clear hx hy
      have hcell : (W.drewN nq).cell? ⟨g0, t, none⟩ = some (.bool x) := hcx
      have hcell' : (W.drewN nq).cell? ⟨g1, t, none⟩ = some (.bool y) := hcy
      cases x <;> cases y
      all_goals
        go_wp2_with fail
        go_quiet (fail)
        go_wp2_with fail
      · refine ⟨⟨(t : Int) - 1, by omega, by omega, rfl, ?_, _, rfl⟩, by simp [intOf]⟩
        exact same_down hsame.out (HXt.out.trans HYt.out.symm)
      · have hr := less_1 X Y A B HA.out HB.out (of8_lt X Y t (by omega) (fun u h1 h2 => hsame.out u (by omega) h2) HXt.out HYt.out)
        have HQ : Hid (∀ W, Calls Try.prog 17 #[.string ⟨#[60]⟩, .int .i64 2, .int .i64 (A : Int), .int .i64 (B : Int)] W fun e w' => e = .returned (.int .i64 1) ∧ w' = W) := fun W => two_at ⟨#[60]⟩ 2 A B 1 W hr
        clear hr
        go_quiet ((go_at_call 17; exact (HQ.out _).mono fun _ _ h => ⟨h.1, _, h.2⟩))
        go_wp2_with fail
        go_ret
        exact ⟨rfl, by repeat (first | exact HB6.out | apply below_drewN)⟩
      · have hr := less_0 X Y A B HA.out HB.out (Nat.le_of_lt (of8_lt Y X t (by omega) (fun u h1 h2 => (hsame.out u (by omega) h2).symm) HYt.out HXt.out))
        have HQ : Hid (∀ W, Calls Try.prog 17 #[.string ⟨#[60]⟩, .int .i64 2, .int .i64 (A : Int), .int .i64 (B : Int)] W fun e w' => e = .returned (.int .i64 0) ∧ w' = W) := fun W => two_at ⟨#[60]⟩ 2 A B 0 W hr
        clear hr
        go_quiet ((go_at_call 17; exact (HQ.out _).mono fun _ _ h => ⟨h.1, _, h.2⟩))
        go_wp2_with fail
        go_ret
        exact ⟨rfl, by repeat (first | exact HB6.out | apply below_drewN)⟩
      · refine ⟨⟨(t : Int) - 1, by omega, by omega, rfl, ?_, _, rfl⟩, by simp [intOf]⟩
        exact same_down hsame.out (HXt.out.trans HYt.out.symm)
    · have hXY : X = Y := list_eq_of X Y (HX8.out.trans HY8.out.symm) (fun u hu => hsame.out u (by omega) (by rw [HX8.out] at hu; exact hu))
      have HE : Hid (A = B) := (by rw [← HA.out, ← HB.out, hXY] : A = B)
      have HR0 : Hid (twoI [60] 2 A B = 0) := less_0 X Y A B HA.out HB.out (by rw [hXY]; exact Nat.le_refl _)
      have HR1 : Hid (twoI [61] 2 A B = 1) := eq_1 X Y A B HA.out HB.out HE.out
      clear hXY
      go_wp2_with fail
      refine (two_at ⟨#[60]⟩ 2 A B 0 _ HR0.out).mono ?_; rintro e w' ⟨rfl, rfl⟩
      go_wp2_with fail
      refine (two_at ⟨#[61]⟩ 2 A B 1 _ HR1.out).mono ?_; rintro e w' ⟨rfl, rfl⟩
      go_wp2_with fail
      go_ret
      exact ⟨rfl, by repeat (first | exact HB6.out | apply below_drewN)⟩
end Go.Proofs.Ytmoakccnjahfeaa
