/-
  CONTRACT of a plant's call.
-/
import Derived.Test.YtiimnnancblbkaaDoorSc3
set_option linter.unusedSimpArgs false
set_option linter.unusedVariables false
namespace Go.Proofs.YtiimnnancblbkaaDoor
open Go.RowKit

def secS (vs : Vs) (ks : Ks) : List Ex → Bool
  | [] => false
  | y :: _ => holdsS vs ks y
theorem sput_4 {w : World} {R : Nat} {a b c d : Value} {t : TypeId} {z : Nat × Nat} (h : w.heap[R]? = some (.cells #[a, b, c, d] t z)) (a' b' c' d' : Value) : ((((w.setCell ⟨R, 0, none⟩ a').setCell ⟨R, 1, none⟩ b').setCell ⟨R, 2, none⟩ c').setCell ⟨R, 3, none⟩ d').heap[R]? = some (.cells #[a', b', c', d'] t z) := by
  rw [blk_set (blk_set (blk_set (blk_set h 0 _) 1 _) 2 _) 3 _]; rfl
theorem sput_4o {w : World} {R b : Nat} (a' b' c' d' : Value) (h : b ≠ R) : ((((w.setCell ⟨R, 0, none⟩ a').setCell ⟨R, 1, none⟩ b').setCell ⟨R, 2, none⟩ c').setCell ⟨R, 3, none⟩ d').heap[b]? = w.heap[b]? :=
  (set_other _ 3 _ h).trans ((set_other _ 2 _ h).trans ((set_other _ 1 _ h).trans (set_other _ 0 _ h)))
theorem sput_4b {N : Nat} {w0 w : World} {R : Nat} (hb : Below N w0 w) (h : N ≤ R) (a' b' c' d' : Value) : Below N w0 ((((w.setCell ⟨R, 0, none⟩ a').setCell ⟨R, 1, none⟩ b').setCell ⟨R, 2, none⟩ c').setCell ⟨R, 3, none⟩ d') :=
  (((hb.setCell (p := ⟨R, 0, none⟩) h a').setCell (p := ⟨R, 1, none⟩) h b').setCell (p := ⟨R, 2, none⟩) h c').setCell (p := ⟨R, 3, none⟩) h d'

set_option maxRecDepth 100000 in
set_option maxHeartbeats 6400000 in
theorem scall_at (p : Nat) (nm : ByteArray) (x0 : Ex) (xs : List Ex) (n : Nat) (S : Nat → Prop) (w : World) (a : Value) (P V B : Nat) (dv bv : Value) (vs : Vs) (ks : Ks) (hp : Plt w P V B dv bv vs ks) (hx : IsExs S w (x0 :: xs) a) (hS : ∀ c, S c → c < w.heap.size) (h2 : (getA ks nm bk0).kind = 4 → xs ≠ []) (hb0 : 0 ≤ (getA ks nm bk0).n) (hb1 : (getA ks nm bk0).n ≤ 255) (hl : xs.length ≤ 1000000) :
    Calls Tryd.prog 26 #[.pointer (some ⟨P, 0, none⟩), .agg #[.int .i64 3, .int .i64 p, .string nm, .pointer none, a, .int .i64 n, .slice none 0 0, .slice none 0 0]] w fun e w' => e = .returned (.tuple #[]) ∧ Plt w' P V B dv bv vs (putA ks nm (callS vs ks (getA ks nm bk0) (x0 :: xs) n)) ∧ KM V B w w' := by
  obtain ⟨us, hrow, hall⟩ := hx
  obtain ⟨g, cap, rfl, hSg⟩ := hrow.addr (by simp)
  obtain ⟨u0, hu0, hx0⟩ := all2_get hall 0 (by simp)
  obtain ⟨X0, rfl⟩ := hx0.ptr
  simp only [List.length_cons] at *
  have HP := hide hp
  have HH0 : Hid (∀ W, Below w.heap.size w W → Calls Tryd.prog 27 #[.pointer (some ⟨P, 0, none⟩), .pointer (some ⟨X0, 0, none⟩)] W fun e w' => e = .returned (.bool (holdsS vs ks x0)) ∧ Below W.heap.size W w') := fun W hb => sholds_at x0 S W _ P V B dv bv vs ks (HP.out.of hb) (hx0.same fun c h1 _ => hb.block c (hS c h1)) (fun c h => Nat.lt_of_lt_of_le (hS c h) hb.size)
  have HG0 : Hid (∀ W, Below w.heap.size w W → W.cell? ⟨g, 0, none⟩ = some (.pointer (some ⟨X0, 0, none⟩))) := fun W hb => (hb.cell (p := ⟨g, 0, none⟩) (hS g hSg)).trans (hrow.cell rfl hu0)
  have HX1 : Hid (∀ x1 xr, xs = x1 :: xr → ∃ X1, ∀ W, Below w.heap.size w W → W.cell? ⟨g, 1, none⟩ = some (.pointer (some ⟨X1, 0, none⟩)) ∧ Calls Tryd.prog 27 #[.pointer (some ⟨P, 0, none⟩), .pointer (some ⟨X1, 0, none⟩)] W fun e w' => e = .returned (.bool (holdsS vs ks x1)) ∧ Below W.heap.size W w') := fun x1 xr e => by
    subst e
    obtain ⟨u1, hu1, hx1⟩ := all2_get hall 1 (by simp)
    obtain ⟨X1, rfl⟩ := hx1.ptr
    exact ⟨X1, fun W hb => ⟨(hb.cell (p := ⟨g, 1, none⟩) (hS g hSg)).trans (hrow.cell rfl hu1), sholds_at x1 S W _ P V B dv bv vs ks (HP.out.of hb) (hx1.same fun c h1 _ => hb.block c (hS c h1)) (fun c h => Nat.lt_of_lt_of_le (hS c h) hb.size)⟩⟩
  have HCS : Hid (callS vs ks (getA ks nm bk0) (x0 :: xs) n = if (getA ks nm bk0).kind = 3 then timerS (getA ks nm bk0) (holdsS vs ks x0) n else if (getA ks nm bk0).kind = 4 then counterS (getA ks nm bk0) (holdsS vs ks x0) (secS vs ks xs) n else if (getA ks nm bk0).kind = 5 then edgeS (getA ks nm bk0) (holdsS vs ks x0) else getA ks nm bk0) := by
    cases xs <;> rfl
  generalize callS vs ks (getA ks nm bk0) (x0 :: xs) n = nb at *
  have HLB : Hid (∀ W, Below w.heap.size w W → (Instr.lookup 52 (.map (some B)) (.string nm) false).run Tryd.prog W = .ok (bkV (getA ks nm bk0)) W) := fun W hb => look_bk (HP.out.of hb).blks nm
  generalize getA ks nm bk0 = bb at *
  generalize holdsS vs ks x0 = a0 at *
  obtain ⟨k, m, sw, q⟩ := bb
  obtain ⟨k', m', sw', q'⟩ := nb
  simp only [bkV] at *
  have H2 := hide h2
  have hBw := below_alloc w (.cells #[.int .i64 3, .int .i64 p, .string nm, .pointer none, .slice (some ⟨g, 0, none⟩) (xs.length + 1) cap, .int .i64 n, .slice none 0 0, .slice none 0 0] 48)
  have HBT := hide (Below.drew hBw)
  have HT1 := hide (blk_new w (.cells #[.int .i64 3, .int .i64 p, .string nm, .pointer none, .slice (some ⟨g, 0, none⟩) (xs.length + 1) cap, .int .i64 n, .slice none 0 0, .slice none 0 0] 48))
  clear hp hS hrow hall hSg hu0 hx0 h2 hBw
  go_enter Tryd.func26, Tryd.ntmps26
  go_wp2_with fail
  have HSW : Hid (∀ W, Below w.heap.size w W → W.heap[w.heap.size]? = some (.cells #[.int .i64 3, .int .i64 p, .string nm, .pointer none, .slice (some ⟨g, 0, none⟩) (xs.length + 1) cap, .int .i64 n, .slice none 0 0, .slice none 0 0] 48 (0, 0)) → W.cell? ⟨P, 3, none⟩ = some (.map (some B)) ∧ W.cell? ⟨w.heap.size, 2, none⟩ = some (.string nm) ∧ (Instr.lookup 52 (.map (some B)) (.string nm) false).run Tryd.prog W = .ok (.agg #[.int .i64 k, .int .i64 m, .bool sw, .bool q]) W) := fun W hb ht => ⟨by rw [blk_cell (HP.out.of hb).me]; rfl, by rw [blk_cell ht]; rfl, HLB.out W hb⟩
  have HT1d : Hid ((w.alloc (.cells #[.int .i64 3, .int .i64 p, .string nm, .pointer none, .slice (some ⟨g, 0, none⟩) (xs.length + 1) cap, .int .i64 n, .slice none 0 0, .slice none 0 0] 48)).drew.heap[w.heap.size]? = some (.cells #[.int .i64 3, .int .i64 p, .string nm, .pointer none, .slice (some ⟨g, 0, none⟩) (xs.length + 1) cap, .int .i64 n, .slice none 0 0, .slice none 0 0] 48 (0, 0))) := HT1.out
  refine wp_region_held_drew (S := fun W => W.cell? ⟨P, 3, none⟩ = some (.map (some B)) ∧ W.cell? ⟨w.heap.size, 2, none⟩ = some (.string nm) ∧ (Instr.lookup 52 (.map (some B)) (.string nm) false).run Tryd.prog W = .ok (.agg #[.int .i64 k, .int .i64 m, .bool sw, .bool q]) W) (by kernel_rfl) (HSW.out _ HBT.out HT1d.out) (fun _ => ?_)
  generalize (w.alloc (.cells #[.int .i64 3, .int .i64 p, .string nm, .pointer none, .slice (some ⟨g, 0, none⟩) (xs.length + 1) cap, .int .i64 n, .slice none 0 0, .slice none 0 0] 48)).drew = x1 at *
  refine wpAnyH_take (i := 0) (oi := ⟨some 6, _, _, _, _, _⟩) (v := (.pointer (some ⟨P, 0, none⟩))) rfl (by kernel_rfl) (by kernel_rfl) (by kernel_rfl) (fun _ _ _ h => h) (Or.inl ⟨by rfl, fun W hS => by (obtain ⟨s0, s1, s2⟩ := hS; go_simp)⟩) (HSW.out _ HBT.out HT1d.out) ?_
  simp only [Act.put, List.setIfInBounds_toArray, List.set_cons_zero, List.set_cons_succ]
  refine wpAnyH_take (i := 1) (oi := ⟨some 7, _, _, _, _, _⟩) (v := (.pointer (some ⟨P, 0, none⟩))) rfl (by kernel_rfl) (by kernel_rfl) (by kernel_rfl) (fun _ _ _ h => h) (Or.inl ⟨by rfl, fun W hS => by (obtain ⟨s0, s1, s2⟩ := hS; go_simp)⟩) (HSW.out _ HBT.out HT1d.out) ?_
  simp only [Act.put, List.setIfInBounds_toArray, List.set_cons_zero, List.set_cons_succ]
  refine wpAnyH_take (i := 2) (oi := ⟨some 8, _, _, _, _, _⟩) (v := (.pointer (some ⟨P, 3, none⟩))) rfl (by kernel_rfl) (by kernel_rfl) (by kernel_rfl) (fun _ _ _ h => h) (Or.inl ⟨by rfl, fun W hS => by (obtain ⟨s0, s1, s2⟩ := hS; go_simp)⟩) (HSW.out _ HBT.out HT1d.out) ?_
  simp only [Act.put, List.setIfInBounds_toArray, List.set_cons_zero, List.set_cons_succ]
  refine wpAnyH_take (i := 3) (oi := ⟨some 9, _, _, _, _, _⟩) (v := (.map (some B))) rfl (by kernel_rfl) (by kernel_rfl) (by kernel_rfl) (fun _ _ _ h => h) (Or.inl ⟨by rfl, fun W hS => by (obtain ⟨s0, s1, s2⟩ := hS; go_simp)⟩) (HSW.out _ HBT.out HT1d.out) ?_
  simp only [Act.put, List.setIfInBounds_toArray, List.set_cons_zero, List.set_cons_succ]
  refine wpAnyH_take (i := 4) (oi := ⟨some 10, _, _, _, _, _⟩) (v := (.pointer (some ⟨w.heap.size, 2, none⟩))) rfl (by kernel_rfl) (by kernel_rfl) (by kernel_rfl) (fun _ _ _ h => h) (Or.inl ⟨by rfl, fun W hS => by (obtain ⟨s0, s1, s2⟩ := hS; go_simp)⟩) (HSW.out _ HBT.out HT1d.out) ?_
  simp only [Act.put, List.setIfInBounds_toArray, List.set_cons_zero, List.set_cons_succ]
  refine wpAnyH_take (i := 5) (oi := ⟨some 11, _, _, _, _, _⟩) (v := (.string nm)) rfl (by kernel_rfl) (by kernel_rfl) (by kernel_rfl) (fun _ _ _ h => h) (Or.inl ⟨by rfl, fun W hS => by (obtain ⟨s0, s1, s2⟩ := hS; go_simp)⟩) (HSW.out _ HBT.out HT1d.out) ?_
  simp only [Act.put, List.setIfInBounds_toArray, List.set_cons_zero, List.set_cons_succ]
  refine wpAnyH_take (i := 6) (oi := ⟨some 12, _, _, _, _, _⟩) (v := (.agg #[.int .i64 k, .int .i64 m, .bool sw, .bool q])) rfl (by kernel_rfl) (by kernel_rfl) (by kernel_rfl) (fun _ _ _ h => h) (Or.inl ⟨by rfl, fun W hS => by (obtain ⟨s0, s1, s2⟩ := hS; go_simp)⟩) (HSW.out _ HBT.out HT1d.out) ?_
  simp only [Act.put, List.setIfInBounds_toArray, List.set_cons_zero, List.set_cons_succ]
  refine wpAnyH_ready (rs := [7]) (by kernel_rfl) (by simp) ?_
  refine AllReadyH.cons rfl (fun K hK => ?_) AllReadyH.nil
  go_simp
  have hb2 := below_alloc x1 (.cells #[.int .i64 0, .int .i64 0, .bool false, .bool false] 70)
  have HB2 := hide (HBT.out.trans (hb2.mono HBT.out.size))
  have HT2 := hide (Below.blk hb2 HT1d.out)
  have HC2 := hide (blk_new x1 (.cells #[.int .i64 0, .int .i64 0, .bool false, .bool false] 70))
  have hCw : w.heap.size < x1.heap.size := blk_lt HT1d.out
  clear hb2
  refine hK.out _ _ (HSW.out _ HB2.out HT2.out) (fun _ => ?_)
  clear hK K
  generalize x1.alloc (.cells #[.int .i64 0, .int .i64 0, .bool false, .bool false] 70) = x2 at *
  generalize x1.heap.size = C at *
  have d0 : x2.cell? ⟨C, 0, none⟩ = some (.int .i64 0) := by rw [blk_cell HC2.out]; rfl
  have d1 : x2.cell? ⟨C, 1, none⟩ = some (.int .i64 0) := by rw [blk_cell HC2.out]; rfl
  have d2 : x2.cell? ⟨C, 2, none⟩ = some (.bool false) := by rw [blk_cell HC2.out]; rfl
  have d3 : x2.cell? ⟨C, 3, none⟩ = some (.bool false) := by rw [blk_cell HC2.out]; rfl
  have df : ∀ i, x2.frozen? ⟨C, i, none⟩ = false := blk_frozen HC2.out
  refine wpAnyH_ready (rs := [8]) (by kernel_rfl) (by simp) ?_
  refine AllReadyH.cons rfl (fun K hK => ?_) AllReadyH.nil
  go_simp
  have HB3 := hide (sput_4b (R := C) HB2.out (Nat.le_of_lt hCw) (.int .i64 k) (.int .i64 m) (.bool sw) (.bool q))
  have HT3 := hide ((sput_4o (w := x2) (R := C) (.int .i64 k) (.int .i64 m) (.bool sw) (.bool q) (Nat.ne_of_lt hCw)).trans HT2.out)
  have HC3 := hide (sput_4 HC2.out (.int .i64 k) (.int .i64 m) (.bool sw) (.bool q))
  refine hK.out _ _ (HSW.out _ HB3.out HT3.out) (fun _ => ?_)
  clear hK K
  clear d0 d1 d2 d3 df
  refine wpAnyH_done (by kernel_rfl) ?_ _
  generalize (((x2.setCell ⟨C, 0, none⟩ (.int .i64 k)).setCell ⟨C, 1, none⟩ (.int .i64 m)).setCell ⟨C, 2, none⟩ (.bool sw)).setCell ⟨C, 3, none⟩ (.bool q) = w3 at *
  have t4 : w3.cell? ⟨w.heap.size, 4, none⟩ = some (.slice (some ⟨g, 0, none⟩) (xs.length + 1) cap) := by rw [blk_cell HT3.out]; rfl
  have g0 := HG0.out w3 HB3.out
  clear HB2 HT2 HC2
  go_wp2_with fail
  refine (HH0.out w3 HB3.out).mono ?_
  rintro e w4 ⟨rfl, hb4⟩
  have HB4 := hide (HB3.out.trans (hb4.mono HB3.out.size))
  have HT4 := hide (Below.blk hb4 HT3.out)
  have HC4 := hide (Below.blk hb4 HC3.out)
  clear hb4 t4 g0 HT3 HC3
  have b0 : w4.cell? ⟨C, 0, none⟩ = some (.int .i64 k) := by rw [blk_cell HC4.out]; rfl
  have b1 : w4.cell? ⟨C, 1, none⟩ = some (.int .i64 m) := by rw [blk_cell HC4.out]; rfl
  have b2 : w4.cell? ⟨C, 2, none⟩ = some (.bool sw) := by rw [blk_cell HC4.out]; rfl
  have b3 : w4.cell? ⟨C, 3, none⟩ = some (.bool q) := by rw [blk_cell HC4.out]; rfl
  have t5 : w4.cell? ⟨w.heap.size, 5, none⟩ = some (.int .i64 n) := by rw [blk_cell HT4.out]; rfl
  have bf : ∀ i, w4.frozen? ⟨C, i, none⟩ = false := blk_frozen HC4.out
  by_cases k3 : k = 3
  · subst k3
    have HTM := hide (fun W => timer_at ⟨3, m, sw, q⟩ a0 n hb0 hb1 W)
    have hnb : timerS ⟨3, m, sw, q⟩ a0 n = ⟨k', m', sw', q'⟩ := by have := HCS.out; rw [if_pos rfl] at this; exact this.symm
    rw [hnb] at HTM
    simp only [bkV] at HTM
    clear hnb HCS
    go_wp2_with fail
    refine (HTM.out _).mono ?_
    rintro e w5 ⟨rfl, hb5⟩
    have HB5 := hide (HB4.out.trans (hb5.mono HB4.out.size))
    have HT5 := hide (Below.blk hb5 HT4.out)
    have HC5 := hide (Below.blk hb5 HC4.out)
    clear hb5 b0 b1 b2 b3 t5 bf
    have c0 : w5.cell? ⟨C, 0, none⟩ = some (.int .i64 3) := by rw [blk_cell HC5.out]; rfl
    have c1 : w5.cell? ⟨C, 1, none⟩ = some (.int .i64 m) := by rw [blk_cell HC5.out]; rfl
    have c2 : w5.cell? ⟨C, 2, none⟩ = some (.bool sw) := by rw [blk_cell HC5.out]; rfl
    have c3 : w5.cell? ⟨C, 3, none⟩ = some (.bool q) := by rw [blk_cell HC5.out]; rfl
    have cf : ∀ i, w5.frozen? ⟨C, i, none⟩ = false := blk_frozen HC5.out
    go_wp2_with fail
    clear c0 c1 c2 c3 cf
    have HBW := hide (sput_4b (R := C) HB5.out (Nat.le_of_lt hCw) (.int .i64 k') (.int .i64 m') (.bool sw') (.bool q'))
    have HTW := hide ((sput_4o (w := w5) (R := C) (.int .i64 k') (.int .i64 m') (.bool sw') (.bool q') (Nat.ne_of_lt hCw)).trans HT5.out)
    have HCW := hide (sput_4 HC5.out (.int .i64 k') (.int .i64 m') (.bool sw') (.bool q'))
    clear HB5 HT5 HC5
    generalize (((w5.setCell ⟨C, 0, none⟩ (.int .i64 k')).setCell ⟨C, 1, none⟩ (.int .i64 m')).setCell ⟨C, 2, none⟩ (.bool sw')).setCell ⟨C, 3, none⟩ (.bool q') = w6 at *
    have HPW := hide (HP.out.of (HBW.out.trans ((Below.refl _ _).drew)))
    have HPT := hide (Plt.putB (ks' := putA ks nm ⟨k', m', sw', q'⟩) HPW.out)
    have HKM : Hid (KM V B w (putObj w6.drew B (.map (mes bkV 0 (putA ks nm ⟨k', m', sw', q'⟩)).toArray (putA ks nm ⟨k', m', sw', q'⟩).length))) := (KM.of (HBW.out.trans ((Below.refl _ _).drew))).put B (.inr rfl) _
    have p3 : w6.drew.cell? ⟨P, 3, none⟩ = some (.map (some B)) := by rw [blk_cell HPW.out.me]; rfl
    have t2 : w6.drew.cell? ⟨w.heap.size, 2, none⟩ = some (.string nm) := by rw [blk_cell (w := w6.drew) HTW.out]; rfl
    have b0 : w6.drew.cell? ⟨C, 0, none⟩ = some (.int .i64 k') := by rw [blk_cell (w := w6.drew) HCW.out]; rfl
    have b1 : w6.drew.cell? ⟨C, 1, none⟩ = some (.int .i64 (m')) := by rw [blk_cell (w := w6.drew) HCW.out]; rfl
    have b2 : w6.drew.cell? ⟨C, 2, none⟩ = some (.bool (sw')) := by rw [blk_cell (w := w6.drew) HCW.out]; rfl
    have b3 : w6.drew.cell? ⟨C, 3, none⟩ = some (.bool (q')) := by rw [blk_cell (w := w6.drew) HCW.out]; rfl
    have up := upd_bk HPW.out.blks nm ⟨k', m', sw', q'⟩
    simp only [bkV] at up
    generalize (Obj.map (mes bkV 0 (putA ks nm ⟨k', m', sw', q'⟩)).toArray (putA ks nm ⟨k', m', sw', q'⟩).length) = ob at *
    go_wp2_with fail
    go_region
    go_wp2_with fail
    go_end0
    exact ⟨rfl, HPT.out, HKM.out⟩
  · have k3i : ((k : Int) == 3) = false := by simp; omega
    by_cases k4 : k = 4
    · subst k4
      obtain ⟨x1, xr, rfl⟩ : ∃ x1 xr, xs = x1 :: xr := by cases xs with | nil => exact absurd rfl (H2.out rfl) | cons y r => exact ⟨y, r, rfl⟩
      obtain ⟨X1, hX1⟩ := HX1.out x1 xr rfl
      have HXX := hide hX1
      clear hX1 HX1
      have HCT := hide (fun a1 W => counter_at ⟨4, m, sw, q⟩ a0 a1 n hb0 hb1 W)
      have hnb : counterS ⟨4, m, sw, q⟩ a0 (holdsS vs ks x1) n = ⟨k', m', sw', q'⟩ := by have := HCS.out; rw [if_neg (by decide), if_pos rfl] at this; exact this.symm
      generalize holdsS vs ks x1 = a1 at *
      have HTM := hide (HCT.out a1)
      rw [hnb] at HTM
      simp only [bkV] at HTM
      clear hnb HCS HCT
      simp only [List.length_cons] at *
      clear b0 b1 b2 b3 t5 bf
      have hx1 : (1 : Int) < ((xr.length : Int) + 1 + 1) := by omega
      have b0 : w4.cell? ⟨C, 0, none⟩ = some (.int .i64 4) := by rw [blk_cell HC4.out]; rfl
      go_wp2_with fail
      clear b0
      have HS4 : Hid (∀ W, Below w.heap.size w W → W.heap[w.heap.size]? = some (.cells #[.int .i64 3, .int .i64 p, .string nm, .pointer none, .slice (some ⟨g, 0, none⟩) (xr.length + 1 + 1) cap, .int .i64 n, .slice none 0 0, .slice none 0 0] 48 (0, 0)) → W.heap[C]? = some (.cells #[.int .i64 4, .int .i64 m, .bool sw, .bool q] 70 (0, 0)) → W.cell? ⟨w.heap.size, 4, none⟩ = some (.slice (some ⟨g, 0, none⟩) (xr.length + 1 + 1) cap) ∧ W.cell? ⟨w.heap.size, 5, none⟩ = some (.int .i64 n) ∧ W.cell? ⟨g, 1, none⟩ = some (.pointer (some ⟨X1, 0, none⟩)) ∧ W.cell? ⟨C, 0, none⟩ = some (.int .i64 4) ∧ W.cell? ⟨C, 1, none⟩ = some (.int .i64 m) ∧ W.cell? ⟨C, 2, none⟩ = some (.bool sw) ∧ W.cell? ⟨C, 3, none⟩ = some (.bool q)) := fun W hb ht hc => ⟨by rw [blk_cell ht]; rfl, by rw [blk_cell ht]; rfl, (HXX.out W hb).1, by rw [blk_cell hc]; rfl, by rw [blk_cell hc]; rfl, by rw [blk_cell hc]; rfl, by rw [blk_cell hc]; rfl⟩
      have HB4d : Hid (Below w.heap.size w w4.drew) := hide (HB4.out.trans ((Below.refl _ _).drew))
      have HT4d : Hid (w4.drew.heap[w.heap.size]? = some (.cells #[.int .i64 3, .int .i64 p, .string nm, .pointer none, .slice (some ⟨g, 0, none⟩) (xr.length + 1 + 1) cap, .int .i64 n, .slice none 0 0, .slice none 0 0] 48 (0, 0))) := HT4.out
      have HC4d : Hid (w4.drew.heap[C]? = some (.cells #[.int .i64 4, .int .i64 m, .bool sw, .bool q] 70 (0, 0))) := HC4.out
      have HS5 : Hid (∀ W, Below w.heap.size w W → W.heap[w.heap.size]? = some (.cells #[.int .i64 3, .int .i64 p, .string nm, .pointer none, .slice (some ⟨g, 0, none⟩) (xr.length + 1 + 1) cap, .int .i64 n, .slice none 0 0, .slice none 0 0] 48 (0, 0)) → W.cell? ⟨w.heap.size, 4, none⟩ = some (.slice (some ⟨g, 0, none⟩) (xr.length + 1 + 1) cap) ∧ W.cell? ⟨w.heap.size, 5, none⟩ = some (.int .i64 n) ∧ W.cell? ⟨g, 1, none⟩ = some (.pointer (some ⟨X1, 0, none⟩))) := fun W hb ht => ⟨by rw [blk_cell ht]; rfl, by rw [blk_cell ht]; rfl, (HXX.out W hb).1⟩
      clear HS4
      refine wp_region_held_drew (S := fun W => W.cell? ⟨w.heap.size, 4, none⟩ = some (.slice (some ⟨g, 0, none⟩) (xr.length + 1 + 1) cap) ∧ W.cell? ⟨w.heap.size, 5, none⟩ = some (.int .i64 n) ∧ W.cell? ⟨g, 1, none⟩ = some (.pointer (some ⟨X1, 0, none⟩))) (by kernel_rfl) (HS5.out _ HB4d.out HT4d.out) (fun _ => ?_)
      have y0 : w4.drew.cell? ⟨C, 0, none⟩ = some (.int .i64 4) := by rw [blk_cell HC4d.out]; rfl
      have y1 : w4.drew.cell? ⟨C, 1, none⟩ = some (.int .i64 m) := by rw [blk_cell HC4d.out]; rfl
      have y2 : w4.drew.cell? ⟨C, 2, none⟩ = some (.bool sw) := by rw [blk_cell HC4d.out]; rfl
      have y3 : w4.drew.cell? ⟨C, 3, none⟩ = some (.bool q) := by rw [blk_cell HC4d.out]; rfl
      generalize w4.drew = z1 at *
      refine wpAnyH_take (i := 1) (oi := ⟨some 31, _, _, _, _, _⟩) (v := (.bool a0)) rfl (by kernel_rfl) (by kernel_rfl) (by kernel_rfl) (fun _ _ _ h => h) (Or.inl ⟨by rfl, fun W hS => by (obtain ⟨s0, s1, s2⟩ := hS; go_simp)⟩) (HS5.out _ HB4d.out HT4d.out) ?_
      simp only [Act.put, List.setIfInBounds_toArray, List.set_cons_zero, List.set_cons_succ]
      refine wpAnyH_take (i := 2) (oi := ⟨some 32, _, _, _, _, _⟩) (v := (.pointer (some ⟨P, 0, none⟩))) rfl (by kernel_rfl) (by kernel_rfl) (by kernel_rfl) (fun _ _ _ h => h) (Or.inl ⟨by rfl, fun W hS => by (obtain ⟨s0, s1, s2⟩ := hS; go_simp)⟩) (HS5.out _ HB4d.out HT4d.out) ?_
      simp only [Act.put, List.setIfInBounds_toArray, List.set_cons_zero, List.set_cons_succ]
      refine wpAnyH_take (i := 3) (oi := ⟨some 33, _, _, _, _, _⟩) (v := (.pointer (some ⟨w.heap.size, 4, none⟩))) rfl (by kernel_rfl) (by kernel_rfl) (by kernel_rfl) (fun _ _ _ h => h) (Or.inl ⟨by rfl, fun W hS => by (obtain ⟨s0, s1, s2⟩ := hS; go_simp)⟩) (HS5.out _ HB4d.out HT4d.out) ?_
      simp only [Act.put, List.setIfInBounds_toArray, List.set_cons_zero, List.set_cons_succ]
      refine wpAnyH_take (i := 4) (oi := ⟨some 34, _, _, _, _, _⟩) (v := (.slice (some ⟨g, 0, none⟩) (xr.length + 1 + 1) cap)) rfl (by kernel_rfl) (by kernel_rfl) (by kernel_rfl) (fun _ _ _ h => h) (Or.inl ⟨by rfl, fun W hS => by (obtain ⟨s0, s1, s2⟩ := hS; go_simp)⟩) (HS5.out _ HB4d.out HT4d.out) ?_
      simp only [Act.put, List.setIfInBounds_toArray, List.set_cons_zero, List.set_cons_succ]
      refine wpAnyH_take (i := 5) (oi := ⟨some 35, _, _, _, _, _⟩) (v := (.pointer (some ⟨g, 1, none⟩))) rfl (by kernel_rfl) (by kernel_rfl) (by kernel_rfl) (fun _ _ _ h => h) (Or.inl ⟨by rfl, fun W hS => by (obtain ⟨s0, s1, s2⟩ := hS; go_simp)⟩) (HS5.out _ HB4d.out HT4d.out) ?_
      simp only [Act.put, List.setIfInBounds_toArray, List.set_cons_zero, List.set_cons_succ]
      refine wpAnyH_take (i := 6) (oi := ⟨some 36, _, _, _, _, _⟩) (v := (.pointer (some ⟨X1, 0, none⟩))) rfl (by kernel_rfl) (by kernel_rfl) (by kernel_rfl) (fun _ _ _ h => h) (Or.inl ⟨by rfl, fun W hS => by (obtain ⟨s0, s1, s2⟩ := hS; go_simp)⟩) (HS5.out _ HB4d.out HT4d.out) ?_
      simp only [Act.put, List.setIfInBounds_toArray, List.set_cons_zero, List.set_cons_succ]
      refine wpAnyH_take (i := 8) (oi := ⟨some 38, _, _, _, _, _⟩) (v := (.pointer (some ⟨w.heap.size, 5, none⟩))) rfl (by kernel_rfl) (by kernel_rfl) (by kernel_rfl) (fun _ _ _ h => h) (Or.inl ⟨by rfl, fun W hS => by (obtain ⟨s0, s1, s2⟩ := hS; go_simp)⟩) (HS5.out _ HB4d.out HT4d.out) ?_
      simp only [Act.put, List.setIfInBounds_toArray, List.set_cons_zero, List.set_cons_succ]
      refine wpAnyH_take (i := 9) (oi := ⟨some 39, _, _, _, _, _⟩) (v := (.int .i64 n)) rfl (by kernel_rfl) (by kernel_rfl) (by kernel_rfl) (fun _ _ _ h => h) (Or.inl ⟨by rfl, fun W hS => by (obtain ⟨s0, s1, s2⟩ := hS; go_simp)⟩) (HS5.out _ HB4d.out HT4d.out) ?_
      simp only [Act.put, List.setIfInBounds_toArray, List.set_cons_zero, List.set_cons_succ]
      have HBy := HB4d
      have HTy := HT4d
      have HCy := HC4d
      refine wpAnyH_ready (rs := [0, 7]) (by kernel_rfl) (by simp) ?_
      refine AllReadyH.cons rfl (fun K hK => ?_) (AllReadyH.cons rfl (fun K hK => ?_) AllReadyH.nil)
      · go_simp
        refine hK.out _ _ (HS5.out _ HBy.out HTy.out) (fun _ => ?_)
        clear hK K y0 y1 y2 y3
        refine wpAnyH_ready (rs := [7]) (by kernel_rfl) (by simp) ?_
        refine AllReadyH.cons rfl (fun K hK => ?_) AllReadyH.nil
        go_simp
        refine ((HXX.out _ HBy.out).2).mono ?_
        rintro e z2 ⟨rfl, hb5⟩
        have HBz := hide (HBy.out.trans (hb5.mono HBy.out.size))
        have HTz := hide (Below.blk hb5 HTy.out)
        have HCz := hide (Below.blk hb5 HCy.out)
        clear hb5
        refine hK.out _ _ (HS5.out _ HBz.out HTz.out) (fun _ => ?_)
        clear hK K
        refine wpAnyH_ready (rs := [10]) (by kernel_rfl) (by simp) ?_
        refine AllReadyH.cons rfl (fun K hK => ?_) AllReadyH.nil
        go_simp
        refine (HTM.out _).mono ?_
        rintro e w5 ⟨rfl, hb5⟩
        have HB5 := hide (HBz.out.trans (hb5.mono HBz.out.size))
        have HT5 := hide (Below.blk hb5 HTz.out)
        have HC5 := hide (Below.blk hb5 HCz.out)
        clear hb5
        refine hK.out _ _ (HS5.out _ HB5.out HT5.out) (fun _ => ?_)
        clear hK K
        have c0 : w5.cell? ⟨C, 0, none⟩ = some (.int .i64 4) := by rw [blk_cell HC5.out]; rfl
        have c1 : w5.cell? ⟨C, 1, none⟩ = some (.int .i64 m) := by rw [blk_cell HC5.out]; rfl
        have c2 : w5.cell? ⟨C, 2, none⟩ = some (.bool sw) := by rw [blk_cell HC5.out]; rfl
        have c3 : w5.cell? ⟨C, 3, none⟩ = some (.bool q) := by rw [blk_cell HC5.out]; rfl
        have cf : ∀ i, w5.frozen? ⟨C, i, none⟩ = false := blk_frozen HC5.out
        refine wpAnyH_ready (rs := [11]) (by kernel_rfl) (by simp) ?_
        refine AllReadyH.cons rfl (fun K hK => ?_) AllReadyH.nil
        go_simp
        have HBW := hide (sput_4b (R := C) HB5.out (Nat.le_of_lt hCw) (.int .i64 k') (.int .i64 m') (.bool sw') (.bool q'))
        have HTW := hide ((sput_4o (w := w5) (R := C) (.int .i64 k') (.int .i64 m') (.bool sw') (.bool q') (Nat.ne_of_lt hCw)).trans HT5.out)
        have HCW := hide (sput_4 HC5.out (.int .i64 k') (.int .i64 m') (.bool sw') (.bool q'))
        refine hK.out _ _ (HS5.out _ HBW.out HTW.out) (fun _ => ?_)
        clear hK K c0 c1 c2 c3 cf HB5 HT5 HC5
        refine wpAnyH_done (by kernel_rfl) ?_ _
        generalize (((w5.setCell ⟨C, 0, none⟩ (.int .i64 k')).setCell ⟨C, 1, none⟩ (.int .i64 m')).setCell ⟨C, 2, none⟩ (.bool sw')).setCell ⟨C, 3, none⟩ (.bool q') = w6 at *
        have HPW := hide (HP.out.of (HBW.out.trans ((Below.refl _ _).drew)))
        have HPT := hide (Plt.putB (ks' := putA ks nm ⟨k', m', sw', q'⟩) HPW.out)
        have HKM : Hid (KM V B w (putObj w6.drew B (.map (mes bkV 0 (putA ks nm ⟨k', m', sw', q'⟩)).toArray (putA ks nm ⟨k', m', sw', q'⟩).length))) := (KM.of (HBW.out.trans ((Below.refl _ _).drew))).put B (.inr rfl) _
        have p3 : w6.drew.cell? ⟨P, 3, none⟩ = some (.map (some B)) := by rw [blk_cell HPW.out.me]; rfl
        have t2 : w6.drew.cell? ⟨w.heap.size, 2, none⟩ = some (.string nm) := by rw [blk_cell (w := w6.drew) HTW.out]; rfl
        have b0 : w6.drew.cell? ⟨C, 0, none⟩ = some (.int .i64 k') := by rw [blk_cell (w := w6.drew) HCW.out]; rfl
        have b1 : w6.drew.cell? ⟨C, 1, none⟩ = some (.int .i64 (m')) := by rw [blk_cell (w := w6.drew) HCW.out]; rfl
        have b2 : w6.drew.cell? ⟨C, 2, none⟩ = some (.bool (sw')) := by rw [blk_cell (w := w6.drew) HCW.out]; rfl
        have b3 : w6.drew.cell? ⟨C, 3, none⟩ = some (.bool (q')) := by rw [blk_cell (w := w6.drew) HCW.out]; rfl
        have up := upd_bk HPW.out.blks nm ⟨k', m', sw', q'⟩
        simp only [bkV] at up
        generalize (Obj.map (mes bkV 0 (putA ks nm ⟨k', m', sw', q'⟩)).toArray (putA ks nm ⟨k', m', sw', q'⟩).length) = ob at *
        go_wp2_with fail
        go_region
        go_wp2_with fail
        go_end0
        exact ⟨rfl, HPT.out, HKM.out⟩
      · clear y0 y1 y2 y3
        go_simp
        refine ((HXX.out _ HBy.out).2).mono ?_
        rintro e z2 ⟨rfl, hb5⟩
        have HBz := hide (HBy.out.trans (hb5.mono HBy.out.size))
        have HTz := hide (Below.blk hb5 HTy.out)
        have HCz := hide (Below.blk hb5 HCy.out)
        clear hb5
        refine hK.out _ _ (HS5.out _ HBz.out HTz.out) (fun _ => ?_)
        clear hK K
        have y0 : z2.cell? ⟨C, 0, none⟩ = some (.int .i64 4) := by rw [blk_cell HCz.out]; rfl
        have y1 : z2.cell? ⟨C, 1, none⟩ = some (.int .i64 m) := by rw [blk_cell HCz.out]; rfl
        have y2 : z2.cell? ⟨C, 2, none⟩ = some (.bool sw) := by rw [blk_cell HCz.out]; rfl
        have y3 : z2.cell? ⟨C, 3, none⟩ = some (.bool q) := by rw [blk_cell HCz.out]; rfl
        refine wpAnyH_ready (rs := [0]) (by kernel_rfl) (by simp) ?_
        refine AllReadyH.cons rfl (fun K hK => ?_) AllReadyH.nil
        go_simp
        refine hK.out _ _ (HS5.out _ HBz.out HTz.out) (fun _ => ?_)
        clear hK K y0 y1 y2 y3
        refine wpAnyH_ready (rs := [10]) (by kernel_rfl) (by simp) ?_
        refine AllReadyH.cons rfl (fun K hK => ?_) AllReadyH.nil
        go_simp
        refine (HTM.out _).mono ?_
        rintro e w5 ⟨rfl, hb5⟩
        have HB5 := hide (HBz.out.trans (hb5.mono HBz.out.size))
        have HT5 := hide (Below.blk hb5 HTz.out)
        have HC5 := hide (Below.blk hb5 HCz.out)
        clear hb5
        refine hK.out _ _ (HS5.out _ HB5.out HT5.out) (fun _ => ?_)
        clear hK K
        have c0 : w5.cell? ⟨C, 0, none⟩ = some (.int .i64 4) := by rw [blk_cell HC5.out]; rfl
        have c1 : w5.cell? ⟨C, 1, none⟩ = some (.int .i64 m) := by rw [blk_cell HC5.out]; rfl
        have c2 : w5.cell? ⟨C, 2, none⟩ = some (.bool sw) := by rw [blk_cell HC5.out]; rfl
        have c3 : w5.cell? ⟨C, 3, none⟩ = some (.bool q) := by rw [blk_cell HC5.out]; rfl
        have cf : ∀ i, w5.frozen? ⟨C, i, none⟩ = false := blk_frozen HC5.out
        refine wpAnyH_ready (rs := [11]) (by kernel_rfl) (by simp) ?_
        refine AllReadyH.cons rfl (fun K hK => ?_) AllReadyH.nil
        go_simp
        have HBW := hide (sput_4b (R := C) HB5.out (Nat.le_of_lt hCw) (.int .i64 k') (.int .i64 m') (.bool sw') (.bool q'))
        have HTW := hide ((sput_4o (w := w5) (R := C) (.int .i64 k') (.int .i64 m') (.bool sw') (.bool q') (Nat.ne_of_lt hCw)).trans HT5.out)
        have HCW := hide (sput_4 HC5.out (.int .i64 k') (.int .i64 m') (.bool sw') (.bool q'))
        refine hK.out _ _ (HS5.out _ HBW.out HTW.out) (fun _ => ?_)
        clear hK K c0 c1 c2 c3 cf HB5 HT5 HC5
        refine wpAnyH_done (by kernel_rfl) ?_ _
        generalize (((w5.setCell ⟨C, 0, none⟩ (.int .i64 k')).setCell ⟨C, 1, none⟩ (.int .i64 m')).setCell ⟨C, 2, none⟩ (.bool sw')).setCell ⟨C, 3, none⟩ (.bool q') = w6 at *
        have HPW := hide (HP.out.of (HBW.out.trans ((Below.refl _ _).drew)))
        have HPT := hide (Plt.putB (ks' := putA ks nm ⟨k', m', sw', q'⟩) HPW.out)
        have HKM : Hid (KM V B w (putObj w6.drew B (.map (mes bkV 0 (putA ks nm ⟨k', m', sw', q'⟩)).toArray (putA ks nm ⟨k', m', sw', q'⟩).length))) := (KM.of (HBW.out.trans ((Below.refl _ _).drew))).put B (.inr rfl) _
        have p3 : w6.drew.cell? ⟨P, 3, none⟩ = some (.map (some B)) := by rw [blk_cell HPW.out.me]; rfl
        have t2 : w6.drew.cell? ⟨w.heap.size, 2, none⟩ = some (.string nm) := by rw [blk_cell (w := w6.drew) HTW.out]; rfl
        have b0 : w6.drew.cell? ⟨C, 0, none⟩ = some (.int .i64 k') := by rw [blk_cell (w := w6.drew) HCW.out]; rfl
        have b1 : w6.drew.cell? ⟨C, 1, none⟩ = some (.int .i64 (m')) := by rw [blk_cell (w := w6.drew) HCW.out]; rfl
        have b2 : w6.drew.cell? ⟨C, 2, none⟩ = some (.bool (sw')) := by rw [blk_cell (w := w6.drew) HCW.out]; rfl
        have b3 : w6.drew.cell? ⟨C, 3, none⟩ = some (.bool (q')) := by rw [blk_cell (w := w6.drew) HCW.out]; rfl
        have up := upd_bk HPW.out.blks nm ⟨k', m', sw', q'⟩
        simp only [bkV] at up
        generalize (Obj.map (mes bkV 0 (putA ks nm ⟨k', m', sw', q'⟩)).toArray (putA ks nm ⟨k', m', sw', q'⟩).length) = ob at *
        go_wp2_with fail
        go_region
        go_wp2_with fail
        go_end0
        exact ⟨rfl, HPT.out, HKM.out⟩
    · have k4i : ((k : Int) == 4) = false := by simp; omega
      by_cases k5 : k = 5
      · subst k5
        have HTM := hide (fun W => edge_at ⟨5, m, sw, q⟩ a0 W)
        have hnb : edgeS ⟨5, m, sw, q⟩ a0 = ⟨k', m', sw', q'⟩ := by have := HCS.out; rw [if_neg k3, if_neg k4, if_pos rfl] at this; exact this.symm
        rw [hnb] at HTM
        simp only [bkV] at HTM
        clear hnb HCS
        go_wp2_with fail
        refine (HTM.out _).mono ?_
        rintro e w5 ⟨rfl, hb5⟩
        have HB5 := hide (HB4.out.trans (hb5.mono HB4.out.size))
        have HT5 := hide (Below.blk hb5 HT4.out)
        have HC5 := hide (Below.blk hb5 HC4.out)
        clear hb5 b0 b1 b2 b3 t5 bf
        have c0 : w5.cell? ⟨C, 0, none⟩ = some (.int .i64 5) := by rw [blk_cell HC5.out]; rfl
        have c1 : w5.cell? ⟨C, 1, none⟩ = some (.int .i64 m) := by rw [blk_cell HC5.out]; rfl
        have c2 : w5.cell? ⟨C, 2, none⟩ = some (.bool sw) := by rw [blk_cell HC5.out]; rfl
        have c3 : w5.cell? ⟨C, 3, none⟩ = some (.bool q) := by rw [blk_cell HC5.out]; rfl
        have cf : ∀ i, w5.frozen? ⟨C, i, none⟩ = false := blk_frozen HC5.out
        go_wp2_with fail
        clear c0 c1 c2 c3 cf
        have HBW := hide (sput_4b (R := C) HB5.out (Nat.le_of_lt hCw) (.int .i64 k') (.int .i64 m') (.bool sw') (.bool q'))
        have HTW := hide ((sput_4o (w := w5) (R := C) (.int .i64 k') (.int .i64 m') (.bool sw') (.bool q') (Nat.ne_of_lt hCw)).trans HT5.out)
        have HCW := hide (sput_4 HC5.out (.int .i64 k') (.int .i64 m') (.bool sw') (.bool q'))
        clear HB5 HT5 HC5
        generalize (((w5.setCell ⟨C, 0, none⟩ (.int .i64 k')).setCell ⟨C, 1, none⟩ (.int .i64 m')).setCell ⟨C, 2, none⟩ (.bool sw')).setCell ⟨C, 3, none⟩ (.bool q') = w6 at *
        have HPW := hide (HP.out.of (HBW.out.trans ((Below.refl _ _).drew)))
        have HPT := hide (Plt.putB (ks' := putA ks nm ⟨k', m', sw', q'⟩) HPW.out)
        have HKM : Hid (KM V B w (putObj w6.drew B (.map (mes bkV 0 (putA ks nm ⟨k', m', sw', q'⟩)).toArray (putA ks nm ⟨k', m', sw', q'⟩).length))) := (KM.of (HBW.out.trans ((Below.refl _ _).drew))).put B (.inr rfl) _
        have p3 : w6.drew.cell? ⟨P, 3, none⟩ = some (.map (some B)) := by rw [blk_cell HPW.out.me]; rfl
        have t2 : w6.drew.cell? ⟨w.heap.size, 2, none⟩ = some (.string nm) := by rw [blk_cell (w := w6.drew) HTW.out]; rfl
        have b0 : w6.drew.cell? ⟨C, 0, none⟩ = some (.int .i64 k') := by rw [blk_cell (w := w6.drew) HCW.out]; rfl
        have b1 : w6.drew.cell? ⟨C, 1, none⟩ = some (.int .i64 (m')) := by rw [blk_cell (w := w6.drew) HCW.out]; rfl
        have b2 : w6.drew.cell? ⟨C, 2, none⟩ = some (.bool (sw')) := by rw [blk_cell (w := w6.drew) HCW.out]; rfl
        have b3 : w6.drew.cell? ⟨C, 3, none⟩ = some (.bool (q')) := by rw [blk_cell (w := w6.drew) HCW.out]; rfl
        have up := upd_bk HPW.out.blks nm ⟨k', m', sw', q'⟩
        simp only [bkV] at up
        generalize (Obj.map (mes bkV 0 (putA ks nm ⟨k', m', sw', q'⟩)).toArray (putA ks nm ⟨k', m', sw', q'⟩).length) = ob at *
        go_wp2_with fail
        go_region
        go_wp2_with fail
        go_end0
        exact ⟨rfl, HPT.out, HKM.out⟩
      · have k5i : ((k : Int) == 5) = false := by simp; omega
        obtain ⟨h1, h2, h3, h4⟩ : k = k' ∧ m = m' ∧ sw = sw' ∧ q = q' := by
          have := HCS.out
          rw [if_neg k3, if_neg k4, if_neg k5] at this
          simp only [Bk.mk.injEq] at this
          exact ⟨this.1.symm, this.2.1.symm, this.2.2.1.symm, this.2.2.2.symm⟩
        subst h1 h2 h3 h4
        clear HCS
        have HBW := HB4
        have HTW := HT4
        have HCW := HC4
        clear b1 b2 b3 bf t5
        go_wp2_with fail
        clear b0
        have HPW := hide (HP.out.of (HBW.out.trans ((Below.refl _ _).drew)))
        have HPT := hide (Plt.putB (ks' := putA ks nm ⟨k, m, sw, q⟩) HPW.out)
        have HKM : Hid (KM V B w (putObj w4.drew B (.map (mes bkV 0 (putA ks nm ⟨k, m, sw, q⟩)).toArray (putA ks nm ⟨k, m, sw, q⟩).length))) := (KM.of (HBW.out.trans ((Below.refl _ _).drew))).put B (.inr rfl) _
        have p3 : w4.drew.cell? ⟨P, 3, none⟩ = some (.map (some B)) := by rw [blk_cell HPW.out.me]; rfl
        have t2 : w4.drew.cell? ⟨w.heap.size, 2, none⟩ = some (.string nm) := by rw [blk_cell (w := w4.drew) HTW.out]; rfl
        have b0 : w4.drew.cell? ⟨C, 0, none⟩ = some (.int .i64 k) := by rw [blk_cell (w := w4.drew) HCW.out]; rfl
        have b1 : w4.drew.cell? ⟨C, 1, none⟩ = some (.int .i64 (m)) := by rw [blk_cell (w := w4.drew) HCW.out]; rfl
        have b2 : w4.drew.cell? ⟨C, 2, none⟩ = some (.bool (sw)) := by rw [blk_cell (w := w4.drew) HCW.out]; rfl
        have b3 : w4.drew.cell? ⟨C, 3, none⟩ = some (.bool (q)) := by rw [blk_cell (w := w4.drew) HCW.out]; rfl
        have up := upd_bk HPW.out.blks nm ⟨k, m, sw, q⟩
        simp only [bkV] at up
        generalize (Obj.map (mes bkV 0 (putA ks nm ⟨k, m, sw, q⟩)).toArray (putA ks nm ⟨k, m, sw, q⟩).length) = ob at *
        go_wp2_with fail
        go_region
        go_wp2_with fail
        go_end0
        exact ⟨rfl, HPT.out, HKM.out⟩
end Go.Proofs.YtiimnnancblbkaaDoor
