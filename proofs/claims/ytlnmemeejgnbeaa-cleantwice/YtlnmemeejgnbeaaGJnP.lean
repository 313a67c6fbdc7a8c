/-
  TWO NETS BESIDE ONE ANOTHER, plain: they may be, and let out what each of them lets out alone.
-/
import Derived.Test.YtlnmemeejgnbeaaGTwP
set_option linter.unusedSimpArgs false
set_option linter.unusedVariables false
namespace Go.Proofs.Ytlnmemeejgnbeaa

def shN (k g : Int) (x : Nd) : Nd :=
  if x.op = 3 then { x with a := x.a + g } else
  if x.op = 4 then { x with next := x.next + k } else
  if x.op = 8 then { x with a := x.a + k } else
  if x.op = 5 then { x with a := x.a + k, b := x.b + k } else
  if x.op = 6 then { x with a := x.a + k, b := x.b + k } else
  if x.op = 7 then { x with a := x.a + k, b := x.b + k } else x
def jnN (ns ms : List Nd) (k g : Int) (i : Nat) : List Nd := ns ++ (ms.take i).map (shN k g)
def jnO (os mo : List Int) (k : Int) (i : Nat) : List Int := os ++ (mo.take i).map (· + k)
theorem jnN_len (ns ms : List Nd) (k g : Int) (i : Nat) (h : i ≤ ms.length) : (jnN ns ms k g i).length = ns.length + i := by simp [jnN]; omega
theorem jnO_len (os mo : List Int) (k : Int) (i : Nat) (h : i ≤ mo.length) : (jnO os mo k i).length = os.length + i := by simp [jnO]; omega
theorem take_nd (ms : List Nd) (i : Nat) (h : i < ms.length) : ms.take (i + 1) = ms.take i ++ [ndAt ms i] := by
  rw [List.take_succ_eq_append_getElem h]; unfold ndAt; rw [List.getElem?_eq_getElem h]; rfl
theorem take_out (ms : List Int) (i : Nat) (h : i < ms.length) : ms.take (i + 1) = ms.take i ++ [outAt ms i] := by
  rw [List.take_succ_eq_append_getElem h]; unfold outAt; rw [List.getElem?_eq_getElem h]; rfl
theorem jnN_succ (ns ms : List Nd) (k g : Int) (i : Nat) (h : i < ms.length) : jnN ns ms k g (i + 1) = jnN ns ms k g i ++ [shN k g (ndAt ms i)] := by
  simp [jnN, take_nd ms i h]
theorem jnO_succ (os mo : List Int) (k : Int) (i : Nat) (h : i < mo.length) : jnO os mo k (i + 1) = jnO os mo k i ++ [outAt mo i + k] := by
  simp [jnO, take_out mo i h]
theorem jnN_low (ns ms : List Nd) (k g : Int) (i j : Nat) (h : j < ns.length) : ndAt (jnN ns ms k g i) j = ndAt ns j := ndAt_app_left h
theorem jnN_high (ns ms : List Nd) (k g : Int) (q : Nat) (h : q < ms.length) : ndAt (jnN ns ms k g ms.length) (ns.length + q) = shN k g (ndAt ms q) := by
  unfold jnN
  rw [ndAt_app_right (by omega), Nat.add_sub_cancel_left, List.take_length]
  unfold ndAt
  simp [h]
theorem jnO_low (os mo : List Int) (k : Int) (i j : Nat) (h : j < os.length) : outAt (jnO os mo k i) j = outAt os j := by
  unfold jnO outAt; rw [List.getElem?_append_left h]
theorem jnO_high (os mo : List Int) (k : Int) (q : Nat) (h : q < mo.length) : outAt (jnO os mo k mo.length) (os.length + q) = outAt mo q + k := by
  unfold jnO outAt
  rw [List.getElem?_append_right (by omega), Nat.add_sub_cancel_left, List.take_length]
  simp [h]
theorem rightN_op {given : Int} {many i : Nat} {x : Nd} (h : rightN given many i x = true) : x.op = 1 ∨ x.op = 2 ∨ x.op = 3 ∨ x.op = 4 ∨ x.op = 5 ∨ x.op = 6 ∨ x.op = 7 ∨ x.op = 8 := by
  simp only [rightN] at h
  by_cases h1 : x.op = 1; · omega
  by_cases h2 : x.op = 2; · omega
  by_cases h3 : x.op = 3; · omega
  by_cases h4 : x.op = 4; · omega
  by_cases h5 : x.op = 5; · omega
  by_cases h6 : x.op = 6; · omega
  by_cases h7 : x.op = 7; · omega
  by_cases h8 : x.op = 8; · omega
  simp [h1, h2, h3, h4, h5, h6, h7, h8] at h
theorem rightN_sh {g1 g2 : Int} {n m i : Nat} {x : Nd} (h : rightN g2 m i x = true) (hg1 : 0 ≤ g1) : rightN (g1 + g2) (n + m) (n + i) (shN n g1 x) = true := by
  have hop := rightN_op h
  obtain ⟨op, a, b, nx⟩ := x
  simp only at hop
  rcases hop with rfl | rfl | rfl | rfl | rfl | rfl | rfl | rfl <;> simp [rightN, shN, inR] at h ⊢ <;> omega
theorem rightN_wide {g g' : Int} {n m i : Nat} {x : Nd} (h : rightN g n i x = true) (hg : g ≤ g') (hn : n ≤ m) : rightN g' m i x = true := by
  have hop := rightN_op h
  obtain ⟨op, a, b, nx⟩ := x
  simp only at hop
  rcases hop with rfl | rfl | rfl | rfl | rfl | rfl | rfl | rfl <;> simp [rightN, inR] at h ⊢ <;> omega
theorem jn_right {g1 g2 : Int} {ns ms : List Nd} {os mo : List Int} (h1 : RightP g1 ns os) (h2 : RightP g2 ms mo) (hb : g1 ≤ 200 ∧ g2 ≤ 200 ∧ ns.length ≤ 60 ∧ ms.length ≤ 60 ∧ os.length ≤ 30 ∧ mo.length ≤ 30) : RightP (g1 + g2) (jnN ns ms ns.length g1 ms.length) (jnO os mo ns.length mo.length) := by
  have hl := jnN_len ns ms ns.length g1 ms.length (Nat.le_refl _)
  have hlo := jnO_len os mo ns.length mo.length (Nat.le_refl _)
  have q1 := h1.g0
  have q2 := h2.g0
  refine ⟨by omega, by omega, by omega, by omega, fun i hi => ?_, fun i hi => ?_⟩
  · rw [hl] at hi ⊢
    by_cases hlow : i < ns.length
    · rw [jnN_low _ _ _ _ _ _ hlow]
      exact rightN_wide (h1.nodes i hlow) (by omega) (by omega)
    · obtain ⟨q, rfl⟩ : ∃ q, i = ns.length + q := ⟨i - ns.length, by omega⟩
      rw [jnN_high _ _ _ _ _ (by omega)]
      exact rightN_sh (h2.nodes q (by omega)) q1
  · rw [hlo] at hi
    rw [hl]
    by_cases hlow : i < os.length
    · rw [jnO_low _ _ _ _ _ hlow]
      have := inR_iff.1 (h1.outs i hlow)
      exact inR_iff.2 (by omega)
    · obtain ⟨q, rfl⟩ : ∃ q, i = os.length + q := ⟨i - os.length, by omega⟩
      rw [jnO_high _ _ _ _ (by omega)]
      have := inR_iff.1 (h2.outs q (by omega))
      exact inR_iff.2 (by omega)
theorem bit_app_right {l m : List Bool} {i : Nat} : bit (l ++ m) (l.length + i) = bit m i := by
  unfold bit; rw [List.getElem?_append_right (by omega), Nat.add_sub_cancel_left]
theorem valN_sh {gJ gM v u : List Bool} {hd : Bool} {g1 : Nat} {g2 : Int} {m i : Nat} {x : Nd} (h : rightN g2 m i x = true) (hu : u.length = i) (hg : ∀ j : Nat, (j : Int) < g2 → bit gJ (g1 + j) = bit gM j) : valN gJ (v ++ u) hd (shN v.length g1 x) = valN gM u hd x := by
  have hop := rightN_op h
  obtain ⟨op, a, b, nx⟩ := x
  simp only at hop
  rcases hop with rfl | rfl | rfl | rfl | rfl | rfl | rfl | rfl <;> simp [rightN, inR] at h <;> simp [valN, shN]
  · obtain ⟨an, rfl⟩ := Int.eq_ofNat_of_zero_le h.1
    rw [show ((an : Int) + (g1 : Int)).toNat = g1 + an by omega, hg an (by omega)]
    simp
  · obtain ⟨an, rfl⟩ := Int.eq_ofNat_of_zero_le (show 0 ≤ a by omega)
    obtain ⟨bn, rfl⟩ := Int.eq_ofNat_of_zero_le (show 0 ≤ b by omega)
    rw [show ((an : Int) + (v.length : Int)).toNat = v.length + an by omega, show ((bn : Int) + (v.length : Int)).toNat = v.length + bn by omega, bit_app_right, bit_app_right]
    simp
  · obtain ⟨an, rfl⟩ := Int.eq_ofNat_of_zero_le (show 0 ≤ a by omega)
    obtain ⟨bn, rfl⟩ := Int.eq_ofNat_of_zero_le (show 0 ≤ b by omega)
    rw [show ((an : Int) + (v.length : Int)).toNat = v.length + an by omega, show ((bn : Int) + (v.length : Int)).toNat = v.length + bn by omega, bit_app_right, bit_app_right]
    simp
  · obtain ⟨an, rfl⟩ := Int.eq_ofNat_of_zero_le (show 0 ≤ a by omega)
    obtain ⟨bn, rfl⟩ := Int.eq_ofNat_of_zero_le (show 0 ≤ b by omega)
    rw [show ((an : Int) + (v.length : Int)).toNat = v.length + an by omega, show ((bn : Int) + (v.length : Int)).toNat = v.length + bn by omega, bit_app_right, bit_app_right]
    simp
  · obtain ⟨an, rfl⟩ := Int.eq_ofNat_of_zero_le h.1
    rw [show ((an : Int) + (v.length : Int)).toNat = v.length + an by omega, bit_app_right]
    simp
/-- what is held beside one another -/
structure HeldJ (ns ms : List Nd) (hN hM hJ : List Bool) : Prop where
  low : ∀ i, i < ns.length → bit hJ i = bit hN i
  high : ∀ i, i < ms.length → bit hJ (ns.length + i) = bit hM i
/-- what is given beside one another -/
structure GivenJ (g1 : Nat) (g2 : Int) (gN gM gJ : List Bool) : Prop where
  low : ∀ i : Nat, i < g1 → bit gJ i = bit gN i
  high : ∀ i : Nat, bit gJ (g1 + i) = bit gM i
theorem jn_vals {g1 : Nat} {g2 : Int} {ns ms : List Nd} {os mo : List Int} {gN gM gJ hN hM hJ : List Bool} (h1 : RightP g1 ns os) (h2 : RightP g2 ms mo) (hh : HeldJ ns ms hN hM hJ) (hg : GivenJ g1 g2 gN gM gJ) :
    ∀ q, q ≤ ms.length → valsTo gJ hJ (jnN ns ms ns.length g1 ms.length) (ns.length + q) = vals gN hN ns ++ valsTo gM hM ms q := by
  intro q
  induction q with
  | zero =>
    intro _
    rw [Nat.add_zero, valsTo_congr (b := ns) (held' := hN) (fun i hi => jnN_low _ _ _ _ _ _ hi) hh.low]
    show vals gJ hN ns = _
    rw [vals_given h1 (g := gN) fun i hi => hg.low i (by omega)]
    simp [valsTo]
  | succ q ih =>
    intro hq
    rw [show ns.length + (q + 1) = (ns.length + q) + 1 by omega]
    simp only [valsTo]
    rw [ih (by omega), jnN_high _ _ _ _ _ (by omega), hh.high q (by omega), ← List.append_assoc]
    congr 2
    have hv : (vals gN hN ns).length = ns.length := valsTo_len _ _ _ _
    have := valN_sh (gJ := gJ) (gM := gM) (v := vals gN hN ns) (u := valsTo gM hM ms q) (hd := bit hM q) (g1 := g1) (h2.nodes q (by omega)) (valsTo_len _ _ _ _) (fun j _ => hg.high j)
    rw [hv] at this
    exact this
theorem jn_all {g1 : Nat} {g2 : Int} {ns ms : List Nd} {os mo : List Int} {gN gM gJ hN hM hJ : List Bool} (h1 : RightP g1 ns os) (h2 : RightP g2 ms mo) (hh : HeldJ ns ms hN hM hJ) (hg : GivenJ g1 g2 gN gM gJ) :
    vals gJ hJ (jnN ns ms ns.length g1 ms.length) = vals gN hN ns ++ vals gM hM ms := by
  have := jn_vals h1 h2 hh hg ms.length (Nat.le_refl _)
  unfold vals at this ⊢
  rw [jnN_len _ _ _ _ _ (Nat.le_refl _)]
  exact this
theorem jn_outs {g1 : Nat} {g2 : Int} {ns ms : List Nd} {os mo : List Int} {gN gM gJ hN hM hJ : List Bool} (h1 : RightP g1 ns os) (h2 : RightP g2 ms mo) (hh : HeldJ ns ms hN hM hJ) (hg : GivenJ g1 g2 gN gM gJ) :
    outs (vals gJ hJ (jnN ns ms ns.length g1 ms.length)) (jnO os mo ns.length mo.length) = outs (vals gN hN ns) os ++ outs (vals gM hM ms) mo := by
  rw [jn_all h1 h2 hh hg]
  have hv : (vals gN hN ns).length = ns.length := valsTo_len _ _ _ _
  unfold outs jnO
  rw [List.map_append, List.take_length, List.map_map]
  congr 1
  · refine List.map_congr_left fun o ho => ?_
    obtain ⟨i, hi, rfl⟩ := List.mem_iff_getElem.1 ho
    have := inR_iff.1 (h1.outs i hi)
    unfold outAt at this
    rw [List.getElem?_eq_getElem hi] at this
    simp only [Option.getD_some] at this
    exact bit_append_left (by omega)
  · refine List.map_congr_left fun o ho => ?_
    obtain ⟨i, hi, rfl⟩ := List.mem_iff_getElem.1 ho
    have := inR_iff.1 (h2.outs i hi)
    unfold outAt at this
    rw [List.getElem?_eq_getElem hi] at this
    simp only [Option.getD_some] at this
    show bit _ (mo[i] + (ns.length : Int)).toNat = _
    rw [show (mo[i] + (ns.length : Int)).toNat = (vals gN hN ns).length + mo[i].toNat by omega]
    exact bit_app_right
theorem jn_held {g1 : Nat} {g2 : Int} {ns ms : List Nd} {os mo : List Int} {gN gM gJ hN hM hJ : List Bool} (h1 : RightP g1 ns os) (h2 : RightP g2 ms mo) (hh : HeldJ ns ms hN hM hJ) (hg : GivenJ g1 g2 gN gM gJ) (l1 : hN.length = ns.length) (l2 : hM.length = ms.length) (lJ : hJ.length = (jnN ns ms ns.length g1 ms.length).length) :
    HeldJ ns ms (heldNext (vals gN hN ns) hN ns) (heldNext (vals gM hM ms) hM ms) (heldNext (vals gJ hJ (jnN ns ms ns.length g1 ms.length)) hJ (jnN ns ms ns.length g1 ms.length)) := by
  have hl := jnN_len ns ms ns.length g1 ms.length (Nat.le_refl _)
  have hv : (vals gN hN ns).length = ns.length := valsTo_len _ _ _ _
  refine ⟨fun i hi => ?_, fun i hi => ?_⟩
  · rw [next_bit (by omega) (by omega), next_bit (by omega) hi, jnN_low _ _ _ _ _ _ hi, hh.low i hi, jn_all h1 h2 hh hg]
    unfold nextOf
    by_cases hr : isReg (ndAt ns i)
    · have hx := h1.nodes i hi
      have h4 : (ndAt ns i).op = 4 := by simpa [isReg] using hr
      simp [rightN, h4, inR] at hx
      simp only [hr, if_true]
      exact bit_append_left (by omega)
    · simp [hr]
  · rw [next_bit (by omega) (by omega), next_bit (by omega) hi, jnN_high _ _ _ _ _ hi, hh.high i hi, jn_all h1 h2 hh hg]
    unfold nextOf
    have hx := h2.nodes i hi
    have hop := rightN_op hx
    generalize ndAt ms i = x at *
    obtain ⟨op, a, b, nx⟩ := x
    simp only at hop
    rcases hop with rfl | rfl | rfl | rfl | rfl | rfl | rfl | rfl <;> simp [shN, isReg]
    simp [rightN, inR] at hx
    obtain ⟨nn, rfl⟩ := Int.eq_ofNat_of_zero_le (show 0 ≤ nx by omega)
    rw [show ((nn : Int) + (ns.length : Int)).toNat = (vals gN hN ns).length + nn by omega, bit_app_right]
    simp
theorem jn_first (ns ms : List Nd) (g1 : Int) : HeldJ ns ms (first ns) (first ms) (first (jnN ns ms ns.length g1 ms.length)) := by
  have hl := jnN_len ns ms ns.length g1 ms.length (Nat.le_refl _)
  refine ⟨fun i hi => ?_, fun i hi => ?_⟩
  · rw [first_bit (by omega), first_bit hi, jnN_low _ _ _ _ _ _ hi]
  · rw [first_bit (by omega), first_bit hi, jnN_high _ _ _ _ _ hi]
    generalize ndAt ms i = x
    obtain ⟨op, a, b, nx⟩ := x
    unfold firstOf shN
    simp only
    by_cases h3 : op = 3; · simp [h3]
    by_cases h4 : op = 4; · simp [h4]
    by_cases h8 : op = 8; · simp [h8]
    by_cases h5 : op = 5; · simp [h5]
    by_cases h6 : op = 6; · simp [h6]
    by_cases h7 : op = 7; · simp [h7]
    simp [h3, h4, h5, h6, h7, h8]
def jnG (g1 : Nat) (gN gM : List Bool) : List Bool := (gN ++ List.replicate g1 false).take g1 ++ gM
theorem jn_given (g1 : Nat) (g2 : Int) (gN gM : List Bool) : GivenJ g1 g2 gN gM (jnG g1 gN gM) := by
  have hl : ((gN ++ List.replicate g1 false).take g1).length = g1 := by simp
  refine ⟨fun i hi => ?_, fun i => ?_⟩
  · unfold jnG
    rw [bit_append_left (by omega)]
    have : bit ((gN ++ List.replicate g1 false).take g1) i = bit (gN ++ List.replicate g1 false) i := by
      unfold bit; rw [List.getElem?_take, if_pos hi]
    rw [this, bit_zeros]
  · unfold jnG
    have := bit_app_right (l := (gN ++ List.replicate g1 false).take g1) (m := gM) (i := i)
    rw [hl] at this
    exact this
end Go.Proofs.Ytlnmemeejgnbeaa
