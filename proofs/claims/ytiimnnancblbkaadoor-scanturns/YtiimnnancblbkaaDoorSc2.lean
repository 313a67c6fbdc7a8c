/-
  CONTRACTS of a plant's number: what an expression comes to.
-/
import Derived.Deep.DeepCutAuto
import Derived.OrdersHeld
import Derived.Deep.RegionHeld3
import Derived.Test.YtiimnnancblbkaaDoorSc1
import Derived.Test.YtiimnnancblbkaaDoorJStm
set_option linter.unusedSimpArgs false
set_option linter.unusedVariables false
namespace Go.Proofs.YtiimnnancblbkaaDoor
open Go.RowKit

/-- a plant, in memory -/
structure Plt (w : World) (P V B : Nat) (dv bv : Value) (vs : Vs) (ks : Ks) : Prop where
  me : w.heap[P]? = some (.cells #[dv, bv, .map (some V), .map (some B)] 54 (0, 0))
  vals : MapAt tyV w V vs
  blks : MapAt bkV w B ks
  ne : V ≠ B
theorem Plt.of {w w' : World} {P V B : Nat} {dv bv : Value} {vs : Vs} {ks : Ks} (h : Plt w P V B dv bv vs ks) (hb : Below w.heap.size w w') : Plt w' P V B dv bv vs ks := by
  have hlt : ∀ {k : Nat} {o : Obj}, w.heap[k]? = some o → k < w.heap.size := fun {k o} e => by
    rcases Nat.lt_or_ge k w.heap.size with h | h
    · exact h
    · rw [Array.getElem?_eq_none h] at e; cases e
  exact ⟨(hb.block _ (hlt h.me)).trans h.me, (hb.block _ (hlt h.vals)).trans h.vals, (hb.block _ (hlt h.blks)).trans h.blks, h.ne⟩

def NumOK (x : Ex) : Prop := ∀ (S : Nat → Prop) (w : World) (v : Value) (P V B : Nat) (dv bv : Value) (vs : Vs) (ks : Ks), Plt w P V B dv bv vs ks → IsEx S w x v → (∀ c, S c → c < w.heap.size) →
  Calls Tryd.prog 25 #[.pointer (some ⟨P, 0, none⟩), v] w fun e w' => e = .returned (tyV (numS vs ks x)) ∧ Below w.heap.size w w'

/-- the cell of the answer -/
abbrev W0 (w : World) : World := w.alloc (.cells #[.int .i64 0, .int .i64 0] 72)
theorem w0_cell {w : World} {a : Addr} {v : Value} (h : w.cell? a = some v) : (W0 w).cell? a = some v := ((below_alloc w _).cell (cell_lt h)).trans h
theorem w0_drew {w : World} {a : Addr} {v : Value} (h : w.cell? a = some v) : (W0 w).drew.cell? a = some v := w0_cell h

theorem not_raw (k : Int) (n : Int) (w : World) : Calls Tryd.prog 42 #[.int .i64 k, .int .i64 n] w fun e w' => e = .returned (.int .i64 (cutI k (bits .xor .i64 (-1) n))) ∧ w' = w := by
  go_enter Tryd.func42, Tryd.ntmps42
  go_wp2_with (first | (go_at_call 24; refine (cut_any _ _ _).mono ?_; rintro e w' ⟨rfl, rfl⟩))
  go_ret
  exact ⟨rfl, rfl⟩
theorem sput_2 {w : World} {R : Nat} {a b : Value} {t : TypeId} {z : Nat × Nat} (h : w.heap[R]? = some (.cells #[a, b] t z)) (c d : Value) : ((w.setCell ⟨R, 0, none⟩ c).setCell ⟨R, 1, none⟩ d).heap[R]? = some (.cells #[c, d] t z) := by
  rw [blk_set (blk_set h 0 _) 1 _]; rfl
theorem sput_o {w : World} {R b : Nat} (c d : Value) (h : b ≠ R) : ((w.setCell ⟨R, 0, none⟩ c).setCell ⟨R, 1, none⟩ d).heap[b]? = w.heap[b]? := (set_other _ 1 _ h).trans (set_other _ 0 _ h)
theorem sfld0 (a b : Value) (w : World) : (Instr.field 72 (.agg #[a, b]) 0).run Tryd.prog w = .ok a w := by kernel_rfl
theorem sfld1 (a b : Value) (w : World) : (Instr.field 72 (.agg #[a, b]) 1).run Tryd.prog w = .ok b w := by kernel_rfl
/-- two numbers, each in a cell of its own -/
structure TwoMade (w0 : World) (R : Nat) (wx : World) (A C : Nat) (l r : Ty) : Prop where
  below : Below w0.heap.size w0 wx
  left : wx.heap[A]? = some (.cells #[.int .i64 l.1, .int .i64 l.2] 72 (0, 0))
  right : wx.heap[C]? = some (.cells #[.int .i64 r.1, .int .i64 r.2] 72 (0, 0))
  gA : w0.heap.size ≤ A
  gC : w0.heap.size ≤ C

set_option maxRecDepth 100000 in
set_option maxHeartbeats 3200000 in
theorem sn_num (p n ty : Nat) : NumOK (.num p n ty) := by
  intro S w v P V B dv bv vs ks hp hx hS
  obtain ⟨X, rfl, hSX, hX⟩ := hx
  have hXl := blk_lt hX
  have c0 := w0_cell (show w.cell? ⟨X, 0, none⟩ = some (.int .i64 1) by rw [blk_cell hX]; rfl)
  have c2 := w0_drew (show w.cell? ⟨X, 2, none⟩ = some (.int .i64 n) by rw [blk_cell hX]; rfl)
  have c3 := w0_drew (show w.cell? ⟨X, 3, none⟩ = some (.int .i64 ty) by rw [blk_cell hX]; rfl)
  clear hp hS hSX hX
  simp only [numS, tyV]
  go_enter Tryd.func25, Tryd.ntmps25
  go_wp2_with fail
  go_region
  go_wp2_with fail
  refine bodyPost_ret (v := .agg #[.int .i64 ty, .int .i64 (n)]) (by simp [results, Tryd.results25, go_sem]) rfl ⟨rfl, Below.drew (below_alloc _ _)⟩
set_option maxRecDepth 100000 in
set_option maxHeartbeats 3200000 in
theorem sn_name (p : Nat) (s : ByteArray) : NumOK (.name p s) := by
  intro S w v P V B dv bv vs ks hp hx hS
  obtain ⟨X, rfl, hSX, hX⟩ := hx
  have hXl := blk_lt hX
  have c0 := w0_cell (show w.cell? ⟨X, 0, none⟩ = some (.int .i64 2) by rw [blk_cell hX]; rfl)
  have c4 := w0_drew (show w.cell? ⟨X, 4, none⟩ = some (.string s) by rw [blk_cell hX]; rfl)
  have p2 := w0_drew (show w.cell? ⟨P, 2, none⟩ = some (.map (some V)) by rw [blk_cell hp.me]; rfl)
  have lk := look_ty (hp.of (Below.drew (below_alloc w (.cells #[.int .i64 0, .int .i64 0] 72)))).vals s
  clear hp hS hSX hX
  simp only [numS]
  generalize getA vs s ty0 = r at *
  obtain ⟨rk, rn⟩ := r
  simp only [tyV] at *
  go_enter Tryd.func25, Tryd.ntmps25
  go_wp2_with fail
  go_region
  go_wp2_with fail
  refine bodyPost_ret (v := .agg #[.int .i64 rk, .int .i64 (rn)]) (by simp [results, Tryd.results25, go_sem]) rfl ⟨rfl, Below.drew (below_alloc _ _)⟩
set_option maxRecDepth 100000 in
set_option maxHeartbeats 6400000 in
theorem sn_field (p : Nat) (s f : ByteArray) : NumOK (.field p s f) := by
  intro S w v P V B dv bv vs ks hp hx hS
  obtain ⟨X, rfl, hSX, hX⟩ := hx
  have c0 := w0_cell (show w.cell? ⟨X, 0, none⟩ = some (.int .i64 3) by rw [blk_cell hX]; rfl)
  have HSW : Hid (∀ W, Below w.heap.size w W → W.cell? ⟨P, 3, none⟩ = some (.map (some B)) ∧ W.cell? ⟨X, 4, none⟩ = some (.string s) ∧ W.cell? ⟨X, 5, none⟩ = some (.string f) ∧ (Instr.lookup 52 (.map (some B)) (.string s) false).run Tryd.prog W = .ok (bkV (getA ks s bk0)) W) := fun W hb =>
    ⟨by rw [blk_cell (hp.of hb).me]; rfl, by rw [blk_cell (Below.blk hb hX)]; rfl, by rw [blk_cell (Below.blk hb hX)]; rfl, look_bk (hp.of hb).blks s⟩
  have HF := hide (fun W => sfield_at (getA ks s bk0) f W)
  have HR := hide (blk_new w (.cells #[.int .i64 0, .int .i64 0] 72))
  have HB1 := hide (Below.drew (below_alloc w (.cells #[.int .i64 0, .int .i64 0] 72)))
  clear hp hS hSX hX
  simp only [numS]
  generalize fieldS (getA ks s bk0) f = r at *
  generalize getA ks s bk0 = bb at *
  obtain ⟨rk, rn⟩ := r
  simp only [tyV] at *
  go_enter Tryd.func25, Tryd.ntmps25
  go_wp2_with fail
  have HR1 : Hid ((W0 w).drew.heap[w.heap.size]? = some (.cells #[.int .i64 0, .int .i64 0] 72 (0, 0))) := HR.out
  refine wp_region_held_drew (S := fun W => W.cell? ⟨P, 3, none⟩ = some (.map (some B)) ∧ W.cell? ⟨X, 4, none⟩ = some (.string s) ∧ W.cell? ⟨X, 5, none⟩ = some (.string f) ∧ (Instr.lookup 52 (.map (some B)) (.string s) false).run Tryd.prog W = .ok (bkV bb) W) (by kernel_rfl) (HSW.out _ HB1.out) (fun _ => ?_)
  generalize (w.alloc (.cells #[.int .i64 0, .int .i64 0] 72)).drew = x1 at *
  refine wpAnyH_take (i := 0) (oi := ⟨some 36, _, _, _, _, _⟩) (v := (.pointer (some ⟨P, 0, none⟩))) rfl (by kernel_rfl) (by kernel_rfl) (by kernel_rfl) (fun _ _ _ h => h) (Or.inl ⟨by rfl, fun W hS => by (obtain ⟨s0, s1, s2, s3⟩ := hS; go_simp)⟩) (HSW.out _ HB1.out) ?_
  simp only [Act.put, List.setIfInBounds_toArray, List.set_cons_zero, List.set_cons_succ]
  refine wpAnyH_take (i := 1) (oi := ⟨some 37, _, _, _, _, _⟩) (v := (.pointer (some ⟨P, 0, none⟩))) rfl (by kernel_rfl) (by kernel_rfl) (by kernel_rfl) (fun _ _ _ h => h) (Or.inl ⟨by rfl, fun W hS => by (obtain ⟨s0, s1, s2, s3⟩ := hS; go_simp)⟩) (HSW.out _ HB1.out) ?_
  simp only [Act.put, List.setIfInBounds_toArray, List.set_cons_zero, List.set_cons_succ]
  refine wpAnyH_take (i := 2) (oi := ⟨some 38, _, _, _, _, _⟩) (v := (.pointer (some ⟨P, 3, none⟩))) rfl (by kernel_rfl) (by kernel_rfl) (by kernel_rfl) (fun _ _ _ h => h) (Or.inl ⟨by rfl, fun W hS => by (obtain ⟨s0, s1, s2, s3⟩ := hS; go_simp)⟩) (HSW.out _ HB1.out) ?_
  simp only [Act.put, List.setIfInBounds_toArray, List.set_cons_zero, List.set_cons_succ]
  refine wpAnyH_take (i := 3) (oi := ⟨some 39, _, _, _, _, _⟩) (v := (.map (some B))) rfl (by kernel_rfl) (by kernel_rfl) (by kernel_rfl) (fun _ _ _ h => h) (Or.inl ⟨by rfl, fun W hS => by (obtain ⟨s0, s1, s2, s3⟩ := hS; go_simp)⟩) (HSW.out _ HB1.out) ?_
  simp only [Act.put, List.setIfInBounds_toArray, List.set_cons_zero, List.set_cons_succ]
  refine wpAnyH_take (i := 4) (oi := ⟨some 40, _, _, _, _, _⟩) (v := (.pointer (some ⟨X, 0, none⟩))) rfl (by kernel_rfl) (by kernel_rfl) (by kernel_rfl) (fun _ _ _ h => h) (Or.inl ⟨by rfl, fun W hS => by (obtain ⟨s0, s1, s2, s3⟩ := hS; go_simp)⟩) (HSW.out _ HB1.out) ?_
  simp only [Act.put, List.setIfInBounds_toArray, List.set_cons_zero, List.set_cons_succ]
  refine wpAnyH_take (i := 5) (oi := ⟨some 41, _, _, _, _, _⟩) (v := (.pointer (some ⟨X, 0, none⟩))) rfl (by kernel_rfl) (by kernel_rfl) (by kernel_rfl) (fun _ _ _ h => h) (Or.inl ⟨by rfl, fun W hS => by (obtain ⟨s0, s1, s2, s3⟩ := hS; go_simp)⟩) (HSW.out _ HB1.out) ?_
  simp only [Act.put, List.setIfInBounds_toArray, List.set_cons_zero, List.set_cons_succ]
  refine wpAnyH_take (i := 6) (oi := ⟨some 42, _, _, _, _, _⟩) (v := (.pointer (some ⟨X, 4, none⟩))) rfl (by kernel_rfl) (by kernel_rfl) (by kernel_rfl) (fun _ _ _ h => h) (Or.inl ⟨by rfl, fun W hS => by (obtain ⟨s0, s1, s2, s3⟩ := hS; go_simp)⟩) (HSW.out _ HB1.out) ?_
  simp only [Act.put, List.setIfInBounds_toArray, List.set_cons_zero, List.set_cons_succ]
  refine wpAnyH_take (i := 7) (oi := ⟨some 43, _, _, _, _, _⟩) (v := (.string s)) rfl (by kernel_rfl) (by kernel_rfl) (by kernel_rfl) (fun _ _ _ h => h) (Or.inl ⟨by rfl, fun W hS => by (obtain ⟨s0, s1, s2, s3⟩ := hS; go_simp)⟩) (HSW.out _ HB1.out) ?_
  simp only [Act.put, List.setIfInBounds_toArray, List.set_cons_zero, List.set_cons_succ]
  refine wpAnyH_take (i := 8) (oi := ⟨some 44, _, _, _, _, _⟩) (v := (bkV bb)) rfl (by kernel_rfl) (by kernel_rfl) (by kernel_rfl) (fun _ _ _ h => h) (Or.inl ⟨by rfl, fun W hS => by (obtain ⟨s0, s1, s2, s3⟩ := hS; go_simp)⟩) (HSW.out _ HB1.out) ?_
  simp only [Act.put, List.setIfInBounds_toArray, List.set_cons_zero, List.set_cons_succ]
  refine wpAnyH_take (i := 9) (oi := ⟨some 45, _, _, _, _, _⟩) (v := (.pointer (some ⟨X, 0, none⟩))) rfl (by kernel_rfl) (by kernel_rfl) (by kernel_rfl) (fun _ _ _ h => h) (Or.inl ⟨by rfl, fun W hS => by (obtain ⟨s0, s1, s2, s3⟩ := hS; go_simp)⟩) (HSW.out _ HB1.out) ?_
  simp only [Act.put, List.setIfInBounds_toArray, List.set_cons_zero, List.set_cons_succ]
  refine wpAnyH_take (i := 10) (oi := ⟨some 46, _, _, _, _, _⟩) (v := (.pointer (some ⟨X, 0, none⟩))) rfl (by kernel_rfl) (by kernel_rfl) (by kernel_rfl) (fun _ _ _ h => h) (Or.inl ⟨by rfl, fun W hS => by (obtain ⟨s0, s1, s2, s3⟩ := hS; go_simp)⟩) (HSW.out _ HB1.out) ?_
  simp only [Act.put, List.setIfInBounds_toArray, List.set_cons_zero, List.set_cons_succ]
  refine wpAnyH_take (i := 11) (oi := ⟨some 47, _, _, _, _, _⟩) (v := (.pointer (some ⟨X, 5, none⟩))) rfl (by kernel_rfl) (by kernel_rfl) (by kernel_rfl) (fun _ _ _ h => h) (Or.inl ⟨by rfl, fun W hS => by (obtain ⟨s0, s1, s2, s3⟩ := hS; go_simp)⟩) (HSW.out _ HB1.out) ?_
  simp only [Act.put, List.setIfInBounds_toArray, List.set_cons_zero, List.set_cons_succ]
  refine wpAnyH_take (i := 12) (oi := ⟨some 48, _, _, _, _, _⟩) (v := (.string f)) rfl (by kernel_rfl) (by kernel_rfl) (by kernel_rfl) (fun _ _ _ h => h) (Or.inl ⟨by rfl, fun W hS => by (obtain ⟨s0, s1, s2, s3⟩ := hS; go_simp)⟩) (HSW.out _ HB1.out) ?_
  simp only [Act.put, List.setIfInBounds_toArray, List.set_cons_zero, List.set_cons_succ]
  refine wpAnyH_ready (rs := [13]) (by kernel_rfl) (by simp) ?_
  refine AllReadyH.cons rfl (fun K hK => ?_) AllReadyH.nil
  go_simp
  refine (HF.out _).mono ?_
  rintro e x2 ⟨rfl, hb2⟩
  have HB2 := hide (Below.trans HB1.out (hb2.mono HB1.out.size))
  have HR2 := hide (Below.blk hb2 HR1.out)
  clear hb2
  refine hK.out _ _ (HSW.out _ HB2.out) (fun _ => ?_)
  clear hK K
  have r0 : x2.cell? ⟨w.heap.size, 0, none⟩ = some (.int .i64 0) := by rw [blk_cell HR2.out]; rfl
  have r1 : x2.cell? ⟨w.heap.size, 1, none⟩ = some (.int .i64 0) := by rw [blk_cell HR2.out]; rfl
  have rf : ∀ i, x2.frozen? ⟨w.heap.size, i, none⟩ = false := blk_frozen HR2.out
  refine wpAnyH_ready (rs := [14]) (by kernel_rfl) (by simp) ?_
  refine AllReadyH.cons rfl (fun K hK => ?_) AllReadyH.nil
  go_simp
  have HB3 := hide ((HB2.out.setCell (p := ⟨w.heap.size, 0, none⟩) (Nat.le_refl _) (.int .i64 rk)).setCell (p := ⟨w.heap.size, 1, none⟩) (Nat.le_refl _) (.int .i64 rn))
  refine hK.out _ _ (HSW.out _ HB3.out) (fun _ => ?_)
  clear hK K
  refine wpAnyH_done (by kernel_rfl) ?_ _
  go_wp2_with fail
  refine bodyPost_ret (v := .agg #[.int .i64 rk, .int .i64 (rn)]) (by simp [results, Tryd.results25, go_sem, r0, r1]) rfl ⟨rfl, HB3.out⟩
set_option maxRecDepth 100000 in
set_option maxHeartbeats 6400000 in
theorem sn_not (p : Nat) (x : Ex) (ih : NumOK x) : NumOK (.not p x) := by
  intro S w v P V B dv bv vs ks hp hx hS
  obtain ⟨X, a, rfl, hSX, hX, hxa⟩ := hx
  obtain ⟨Q, rfl⟩ := hxa.ptr
  have c0 := w0_cell (show w.cell? ⟨X, 0, none⟩ = some (.int .i64 4) by rw [blk_cell hX]; rfl)
  have c7 := w0_cell (show w.cell? ⟨X, 7, none⟩ = some (.pointer (some ⟨Q, 0, none⟩)) by rw [blk_cell hX]; rfl)
  have HR := hide (blk_new w (.cells #[.int .i64 0, .int .i64 0] 72))
  have HB0 := hide (below_alloc w (.cells #[.int .i64 0, .int .i64 0] 72))
  have IH := hide (ih S (W0 w) _ P V B dv bv vs ks (hp.of HB0.out) (hxa.same fun c h1 _ => HB0.out.block c (hS c h1)) (fun c h => Nat.lt_of_lt_of_le (hS c h) HB0.out.size))
  clear hp hS hSX hX hxa ih
  simp only [numS]
  generalize numS vs ks x = r at *
  obtain ⟨rk, rn⟩ := r
  simp only [tyV] at *
  have HNT := hide (fun W => not_raw rk rn W)
  generalize cutI rk (bits .xor .i64 (-1) rn) = m at *
  go_enter Tryd.func25, Tryd.ntmps25
  go_wp2_with fail
  refine IH.out.mono ?_
  rintro e w1 ⟨rfl, hb1⟩
  have HB1 := hide (HB0.out.trans (hb1.mono HB0.out.size))
  have HR1 := hide (Below.blk hb1 HR.out)
  clear hb1 c0 c7
  go_wp2_with fail
  have HL := hide (blk_new w1 (.cells #[.int .i64 rk, .int .i64 rn] 72))
  have HB2 := hide (Below.drew (Below.step HB1.out (below_alloc w1 (.cells #[.int .i64 rk, .int .i64 rn] 72))))
  have HR2 := hide (Below.blk (below_alloc w1 (.cells #[.int .i64 rk, .int .i64 rn] 72)) HR1.out)
  have HLS : Hid (∀ i, (w1.alloc (.cells #[.int .i64 rk, .int .i64 rn] 72)).drew.cell? ⟨w1.heap.size, i, none⟩ = #[Value.int .i64 rk, .int .i64 rn][i]?) := fun i => blk_cell (w := (w1.alloc (.cells #[.int .i64 rk, .int .i64 rn] 72)).drew) HL.out i
  have HRD : Hid ((w1.alloc (.cells #[.int .i64 rk, .int .i64 rn] 72)).drew.heap[w.heap.size]? = some (.cells #[.int .i64 0, .int .i64 0] 72 (0, 0))) := HR2.out
  have HNE : Hid (w1.heap.size ≠ w.heap.size) := by show _ ≠ _; have := blk_lt HR1.out; omega
  refine wp_region_held_drew (S := fun W => W.cell? ⟨w1.heap.size, 0, none⟩ = some (.int .i64 rk) ∧ W.cell? ⟨w1.heap.size, 1, none⟩ = some (.int .i64 rn)) (by kernel_rfl) ⟨HLS.out 0, HLS.out 1⟩ (fun _ => ?_)
  generalize (w1.alloc (.cells #[.int .i64 rk, .int .i64 rn] 72)).drew = x1 at *
  refine wpAnyH_take (i := 0) (oi := ⟨some 58, _, _, _, _, _⟩) (v := (.pointer (some ⟨w1.heap.size, 0, none⟩))) rfl (by kernel_rfl) (by kernel_rfl) (by kernel_rfl) (fun _ _ _ h => h) (Or.inl ⟨by rfl, fun W hS => by (obtain ⟨s0, s1⟩ := hS; go_simp)⟩) ⟨HLS.out 0, HLS.out 1⟩ ?_
  simp only [Act.put, List.setIfInBounds_toArray, List.set_cons_zero, List.set_cons_succ]
  refine wpAnyH_take (i := 1) (oi := ⟨some 59, _, _, _, _, _⟩) (v := (.int .i64 rk)) rfl (by kernel_rfl) (by kernel_rfl) (by kernel_rfl) (fun _ _ _ h => h) (Or.inl ⟨by rfl, fun W hS => by (obtain ⟨s0, s1⟩ := hS; go_simp)⟩) ⟨HLS.out 0, HLS.out 1⟩ ?_
  simp only [Act.put, List.setIfInBounds_toArray, List.set_cons_zero, List.set_cons_succ]
  refine wpAnyH_take (i := 2) (oi := ⟨some 60, _, _, _, _, _⟩) (v := (.pointer (some ⟨w1.heap.size, 0, none⟩))) rfl (by kernel_rfl) (by kernel_rfl) (by kernel_rfl) (fun _ _ _ h => h) (Or.inl ⟨by rfl, fun W hS => by (obtain ⟨s0, s1⟩ := hS; go_simp)⟩) ⟨HLS.out 0, HLS.out 1⟩ ?_
  simp only [Act.put, List.setIfInBounds_toArray, List.set_cons_zero, List.set_cons_succ]
  refine wpAnyH_take (i := 3) (oi := ⟨some 61, _, _, _, _, _⟩) (v := (.int .i64 rk)) rfl (by kernel_rfl) (by kernel_rfl) (by kernel_rfl) (fun _ _ _ h => h) (Or.inl ⟨by rfl, fun W hS => by (obtain ⟨s0, s1⟩ := hS; go_simp)⟩) ⟨HLS.out 0, HLS.out 1⟩ ?_
  simp only [Act.put, List.setIfInBounds_toArray, List.set_cons_zero, List.set_cons_succ]
  refine wpAnyH_take (i := 4) (oi := ⟨some 62, _, _, _, _, _⟩) (v := (.pointer (some ⟨w1.heap.size, 1, none⟩))) rfl (by kernel_rfl) (by kernel_rfl) (by kernel_rfl) (fun _ _ _ h => h) (Or.inl ⟨by rfl, fun W hS => by (obtain ⟨s0, s1⟩ := hS; go_simp)⟩) ⟨HLS.out 0, HLS.out 1⟩ ?_
  simp only [Act.put, List.setIfInBounds_toArray, List.set_cons_zero, List.set_cons_succ]
  refine wpAnyH_take (i := 5) (oi := ⟨some 63, _, _, _, _, _⟩) (v := (.int .i64 rn)) rfl (by kernel_rfl) (by kernel_rfl) (by kernel_rfl) (fun _ _ _ h => h) (Or.inl ⟨by rfl, fun W hS => by (obtain ⟨s0, s1⟩ := hS; go_simp)⟩) ⟨HLS.out 0, HLS.out 1⟩ ?_
  simp only [Act.put, List.setIfInBounds_toArray, List.set_cons_zero, List.set_cons_succ]
  refine wpAnyH_ready (rs := [6]) (by kernel_rfl) (by simp) ?_
  refine AllReadyH.cons rfl (fun K hK => ?_) AllReadyH.nil
  go_simp
  refine (HNT.out _).mono ?_
  rintro e x2 ⟨rfl, hx2⟩
  obtain rfl : x1 = x2 := hx2.symm
  clear hx2
  refine hK.out _ _ ⟨HLS.out 0, HLS.out 1⟩ (fun _ => ?_)
  clear hK K
  refine wpAnyH_take (i := 7) (oi := ⟨some 65, _, _, _, _, _⟩) (v := (.agg #[.int .i64 rk, .int .i64 m])) rfl (by kernel_rfl) (by kernel_rfl) (by kernel_rfl) (fun _ _ _ h => h) (Or.inl ⟨by rfl, fun W hS => by (obtain ⟨s0, s1⟩ := hS; go_simp)⟩) ⟨HLS.out 0, HLS.out 1⟩ ?_
  simp only [Act.put, List.setIfInBounds_toArray, List.set_cons_zero, List.set_cons_succ]
  have r0 : x1.cell? ⟨w.heap.size, 0, none⟩ = some (.int .i64 0) := by rw [blk_cell HRD.out]; rfl
  have r1 : x1.cell? ⟨w.heap.size, 1, none⟩ = some (.int .i64 0) := by rw [blk_cell HRD.out]; rfl
  have rf : ∀ i, x1.frozen? ⟨w.heap.size, i, none⟩ = false := blk_frozen HRD.out
  refine wpAnyH_ready (rs := [8]) (by kernel_rfl) (by simp) ?_
  refine AllReadyH.cons rfl (fun K hK => ?_) AllReadyH.nil
  go_simp
  have HB3 := hide ((HB2.out.setCell (p := ⟨w.heap.size, 0, none⟩) (Nat.le_refl _) (.int .i64 rk)).setCell (p := ⟨w.heap.size, 1, none⟩) (Nat.le_refl _) (.int .i64 m))
  have HS3 : Hid (∀ i, ((x1.setCell ⟨w.heap.size, 0, none⟩ (.int .i64 rk)).setCell ⟨w.heap.size, 1, none⟩ (.int .i64 m)).cell? ⟨w1.heap.size, i, none⟩ = x1.cell? ⟨w1.heap.size, i, none⟩) := fun i => World.cell?_of_block (sput_o _ _ HNE.out)
  refine hK.out _ _ ⟨(HS3.out 0).trans (HLS.out 0), (HS3.out 1).trans (HLS.out 1)⟩ (fun _ => ?_)
  clear hK K
  refine wpAnyH_done (by kernel_rfl) ?_ _
  go_wp2_with fail
  refine bodyPost_ret (v := .agg #[.int .i64 rk, .int .i64 (m)]) (by simp [results, Tryd.results25, go_sem, r0, r1]) rfl ⟨rfl, HB3.out⟩
set_option maxRecDepth 100000 in
set_option maxHeartbeats 12800000 in
theorem sn_bin (p : Nat) (op : ByteArray) (x y : Ex) (ihx : NumOK x) (ihy : NumOK y) : NumOK (.bin p op x y) := by
  intro S w v P V B dv bv vs ks hp hx hS
  obtain ⟨X, a, c, rfl, hSX, hX, hxa, hyc⟩ := hx
  obtain ⟨Q, rfl⟩ := hxa.ptr
  obtain ⟨U, rfl⟩ := hyc.ptr
  have c0 := w0_cell (show w.cell? ⟨X, 0, none⟩ = some (.int .i64 5) by rw [blk_cell hX]; rfl)
  have HR := hide (blk_new w (.cells #[.int .i64 0, .int .i64 0] 72))
  have HB0 := hide (below_alloc w (.cells #[.int .i64 0, .int .i64 0] 72))
  have HX : Hid (∀ W, Below w.heap.size w W → Calls Tryd.prog 25 #[.pointer (some ⟨P, 0, none⟩), .pointer (some ⟨Q, 0, none⟩)] W fun e w' => e = .returned (tyV (numS vs ks x)) ∧ Below W.heap.size W w') := fun W hb => ihx S W _ P V B dv bv vs ks (hp.of hb) (hxa.same fun c h1 _ => hb.block c (hS c h1)) (fun c h => Nat.lt_of_lt_of_le (hS c h) hb.size)
  have HY : Hid (∀ W, Below w.heap.size w W → Calls Tryd.prog 25 #[.pointer (some ⟨P, 0, none⟩), .pointer (some ⟨U, 0, none⟩)] W fun e w' => e = .returned (tyV (numS vs ks y)) ∧ Below W.heap.size W w') := fun W hb => ihy S W _ P V B dv bv vs ks (hp.of hb) (hyc.same fun c h1 _ => hb.block c (hS c h1)) (fun c h => Nat.lt_of_lt_of_le (hS c h) hb.size)
  have HSW : Hid (∀ W, Below w.heap.size w W → W.cell? ⟨X, 7, none⟩ = some (.pointer (some ⟨Q, 0, none⟩)) ∧ W.cell? ⟨X, 8, none⟩ = some (.pointer (some ⟨U, 0, none⟩))) := fun W hb => ⟨by rw [blk_cell (Below.blk hb hX)]; rfl, by rw [blk_cell (Below.blk hb hX)]; rfl⟩
  have HOP : Hid (∀ W, Below w.heap.size w W → W.cell? ⟨X, 6, none⟩ = some (.string op)) := fun W hb => by rw [blk_cell (Below.blk hb hX)]; rfl
  clear hp hS hSX hX hxa hyc ihx ihy
  simp only [numS]
  generalize numS vs ks x = l at *
  generalize numS vs ks y = r at *
  obtain ⟨lk, ln⟩ := l
  obtain ⟨rk, rn⟩ := r
  simp only [tyV] at *
  have HRES := hide (fun W => result_at op lk rk W)
  have HTWO := hide (fun W => two_any op lk ln rn W)
  generalize resN op.toList lk rk = mk at *
  generalize twoI op.data.toList lk ln rn = mn at *
  go_enter Tryd.func25, Tryd.ntmps25
  go_wp2_with fail
  clear c0
  go_cut [6, 7] from 68 to 79 (fun a c wx => ∃ A C, a = .pointer (some ⟨A, 0, none⟩) ∧ c = .pointer (some ⟨C, 0, none⟩) ∧ TwoMade (W0 w) w.heap.size wx A C (lk, ln) (rk, rn))
  case first =>
    have HBx1 : Hid (Below (W0 w).heap.size (W0 w) (W0 w).drew) := hide (Below.refl _ _).drew
    have HSX : Hid (∀ W, Below (W0 w).heap.size (W0 w) W → Below w.heap.size w W) := fun W h => Below.step HB0.out h
    refine wp_region_held_drew (S := fun W => W.cell? ⟨X, 7, none⟩ = some (.pointer (some ⟨Q, 0, none⟩)) ∧ W.cell? ⟨X, 8, none⟩ = some (.pointer (some ⟨U, 0, none⟩))) (by kernel_rfl) (HSW.out _ (HSX.out _ HBx1.out)) (fun _ => ?_)
    generalize (w.alloc (.cells #[.int .i64 0, .int .i64 0] 72)).drew = x1 at *
    refine wpAnyH_take (i := 0) (oi := ⟨some 68, _, _, _, _, _⟩) (v := (.pointer (some ⟨P, 0, none⟩))) rfl (by kernel_rfl) (by kernel_rfl) (by kernel_rfl) (fun _ _ _ h => h) (Or.inl ⟨by rfl, fun W hS => by (obtain ⟨s0, s1⟩ := hS; go_simp)⟩) (HSW.out _ (HSX.out _ HBx1.out)) ?_
    simp only [Act.put, List.setIfInBounds_toArray, List.set_cons_zero, List.set_cons_succ]
    refine wpAnyH_take (i := 1) (oi := ⟨some 69, _, _, _, _, _⟩) (v := (.pointer (some ⟨X, 0, none⟩))) rfl (by kernel_rfl) (by kernel_rfl) (by kernel_rfl) (fun _ _ _ h => h) (Or.inl ⟨by rfl, fun W hS => by (obtain ⟨s0, s1⟩ := hS; go_simp)⟩) (HSW.out _ (HSX.out _ HBx1.out)) ?_
    simp only [Act.put, List.setIfInBounds_toArray, List.set_cons_zero, List.set_cons_succ]
    refine wpAnyH_take (i := 2) (oi := ⟨some 70, _, _, _, _, _⟩) (v := (.pointer (some ⟨X, 0, none⟩))) rfl (by kernel_rfl) (by kernel_rfl) (by kernel_rfl) (fun _ _ _ h => h) (Or.inl ⟨by rfl, fun W hS => by (obtain ⟨s0, s1⟩ := hS; go_simp)⟩) (HSW.out _ (HSX.out _ HBx1.out)) ?_
    simp only [Act.put, List.setIfInBounds_toArray, List.set_cons_zero, List.set_cons_succ]
    refine wpAnyH_take (i := 3) (oi := ⟨some 71, _, _, _, _, _⟩) (v := (.pointer (some ⟨X, 7, none⟩))) rfl (by kernel_rfl) (by kernel_rfl) (by kernel_rfl) (fun _ _ _ h => h) (Or.inl ⟨by rfl, fun W hS => by (obtain ⟨s0, s1⟩ := hS; go_simp)⟩) (HSW.out _ (HSX.out _ HBx1.out)) ?_
    simp only [Act.put, List.setIfInBounds_toArray, List.set_cons_zero, List.set_cons_succ]
    refine wpAnyH_take (i := 4) (oi := ⟨some 72, _, _, _, _, _⟩) (v := (.pointer (some ⟨Q, 0, none⟩))) rfl (by kernel_rfl) (by kernel_rfl) (by kernel_rfl) (fun _ _ _ h => h) (Or.inl ⟨by rfl, fun W hS => by (obtain ⟨s0, s1⟩ := hS; go_simp)⟩) (HSW.out _ (HSX.out _ HBx1.out)) ?_
    simp only [Act.put, List.setIfInBounds_toArray, List.set_cons_zero, List.set_cons_succ]
    refine wpAnyH_take (i := 6) (oi := ⟨some 74, _, _, _, _, _⟩) (v := (.pointer (some ⟨P, 0, none⟩))) rfl (by kernel_rfl) (by kernel_rfl) (by kernel_rfl) (fun _ _ _ h => h) (Or.inl ⟨by rfl, fun W hS => by (obtain ⟨s0, s1⟩ := hS; go_simp)⟩) (HSW.out _ (HSX.out _ HBx1.out)) ?_
    simp only [Act.put, List.setIfInBounds_toArray, List.set_cons_zero, List.set_cons_succ]
    refine wpAnyH_take (i := 7) (oi := ⟨some 75, _, _, _, _, _⟩) (v := (.pointer (some ⟨X, 0, none⟩))) rfl (by kernel_rfl) (by kernel_rfl) (by kernel_rfl) (fun _ _ _ h => h) (Or.inl ⟨by rfl, fun W hS => by (obtain ⟨s0, s1⟩ := hS; go_simp)⟩) (HSW.out _ (HSX.out _ HBx1.out)) ?_
    simp only [Act.put, List.setIfInBounds_toArray, List.set_cons_zero, List.set_cons_succ]
    refine wpAnyH_take (i := 8) (oi := ⟨some 76, _, _, _, _, _⟩) (v := (.pointer (some ⟨X, 0, none⟩))) rfl (by kernel_rfl) (by kernel_rfl) (by kernel_rfl) (fun _ _ _ h => h) (Or.inl ⟨by rfl, fun W hS => by (obtain ⟨s0, s1⟩ := hS; go_simp)⟩) (HSW.out _ (HSX.out _ HBx1.out)) ?_
    simp only [Act.put, List.setIfInBounds_toArray, List.set_cons_zero, List.set_cons_succ]
    refine wpAnyH_take (i := 9) (oi := ⟨some 77, _, _, _, _, _⟩) (v := (.pointer (some ⟨X, 8, none⟩))) rfl (by kernel_rfl) (by kernel_rfl) (by kernel_rfl) (fun _ _ _ h => h) (Or.inl ⟨by rfl, fun W hS => by (obtain ⟨s0, s1⟩ := hS; go_simp)⟩) (HSW.out _ (HSX.out _ HBx1.out)) ?_
    simp only [Act.put, List.setIfInBounds_toArray, List.set_cons_zero, List.set_cons_succ]
    refine wpAnyH_take (i := 10) (oi := ⟨some 78, _, _, _, _, _⟩) (v := (.pointer (some ⟨U, 0, none⟩))) rfl (by kernel_rfl) (by kernel_rfl) (by kernel_rfl) (fun _ _ _ h => h) (Or.inl ⟨by rfl, fun W hS => by (obtain ⟨s0, s1⟩ := hS; go_simp)⟩) (HSW.out _ (HSX.out _ HBx1.out)) ?_
    simp only [Act.put, List.setIfInBounds_toArray, List.set_cons_zero, List.set_cons_succ]
    refine wpAnyH_ready (rs := [5, 12, 13]) (by kernel_rfl) (by simp) ?_
    refine AllReadyH.cons rfl (fun K hK => ?_) (AllReadyH.cons rfl (fun K hK => ?_) (AllReadyH.cons rfl (fun K hK => ?_) AllReadyH.nil))
    · go_simp
      refine (HX.out _ (HSX.out _ HBx1.out)).mono ?_
      rintro e x2 ⟨rfl, hb⟩
      have HBx2 := hide (HBx1.out.trans (hb.mono HBx1.out.size))
      clear hb
      refine hK.out _ _ (HSW.out _ (HSX.out _ HBx2.out)) (fun _ => ?_)
      clear hK K
      refine wpAnyH_ready (rs := [11, 12, 13]) (by kernel_rfl) (by simp) ?_
      refine AllReadyH.cons rfl (fun K hK => ?_) (AllReadyH.cons rfl (fun K hK => ?_) (AllReadyH.cons rfl (fun K hK => ?_) AllReadyH.nil))
      · go_simp
        refine (HY.out _ (HSX.out _ HBx2.out)).mono ?_
        rintro e x3 ⟨rfl, hb⟩
        have HBx3 := hide (HBx2.out.trans (hb.mono HBx2.out.size))
        clear hb
        refine hK.out _ _ (HSW.out _ (HSX.out _ HBx3.out)) (fun _ => ?_)
        clear hK K
        refine wpAnyH_ready (rs := [12, 13]) (by kernel_rfl) (by simp) ?_
        refine AllReadyH.cons rfl (fun K hK => ?_) (AllReadyH.cons rfl (fun K hK => ?_) AllReadyH.nil)
        · go_simp
          have hb := below_alloc x3 (.cells #[.int .i64 0, .int .i64 0] 72)
          have HBx4 := hide (HBx3.out.trans (hb.mono HBx3.out.size))
          have HA4 := hide (blk_new x3 (.cells #[.int .i64 0, .int .i64 0] 72))
          have HGA4 : Hid ((W0 w).heap.size ≤ x3.heap.size) := hide HBx3.out.size
          clear hb
          refine hK.out _ _ (HSW.out _ (HSX.out _ HBx4.out)) (fun _ => ?_)
          clear hK K
          generalize x3.alloc (.cells #[.int .i64 0, .int .i64 0] 72) = x4 at *
          refine wpAnyH_ready (rs := [13]) (by kernel_rfl) (by simp) ?_
          refine AllReadyH.cons rfl (fun K hK => ?_) AllReadyH.nil
          go_simp
          have hb := below_alloc x4 (.cells #[.int .i64 0, .int .i64 0] 72)
          have HBx5 := hide (HBx4.out.trans (hb.mono HBx4.out.size))
          have HA5 := hide (Below.blk hb HA4.out)
          have HGA5 := HGA4
          have HC5 := hide (blk_new x4 (.cells #[.int .i64 0, .int .i64 0] 72))
          have HGC5 : Hid ((W0 w).heap.size ≤ x4.heap.size) := hide HBx4.out.size
          have HACB5 : Hid (x3.heap.size < x4.heap.size) := hide (blk_lt HA4.out)
          clear hb
          refine hK.out _ _ (HSW.out _ (HSX.out _ HBx5.out)) (fun _ => ?_)
          clear hK K
          generalize x4.alloc (.cells #[.int .i64 0, .int .i64 0] 72) = x5 at *
          have HAC : Hid (x3.heap.size ≠ x4.heap.size) := hide (by have h1 := blk_lt HA5.out; have h2 := blk_lt HC5.out; have h3 := HACB5.out; omega)
          have a0 : x5.cell? ⟨x3.heap.size, 0, none⟩ = some (.int .i64 0) := by rw [blk_cell HA5.out]; rfl
          have a1 : x5.cell? ⟨x3.heap.size, 1, none⟩ = some (.int .i64 0) := by rw [blk_cell HA5.out]; rfl
          have af : ∀ i, x5.frozen? ⟨x3.heap.size, i, none⟩ = false := blk_frozen HA5.out
          refine wpAnyH_ready (rs := [14]) (by kernel_rfl) (by simp) ?_
          refine AllReadyH.cons rfl (fun K hK => ?_) AllReadyH.nil
          go_simp
          have HBs1 := hide ((HBx5.out.setCell (p := ⟨x3.heap.size, 0, none⟩) HGA5.out (.int .i64 lk)).setCell (p := ⟨x3.heap.size, 1, none⟩) HGA5.out (.int .i64 ln))
          have HAs1 := hide (sput_2 HA5.out (.int .i64 lk) (.int .i64 ln))
          have HCs1 := hide ((sput_o (w := x5) (R := x3.heap.size) (.int .i64 lk) (.int .i64 ln) (Ne.symm HAC.out)).trans HC5.out)
          refine hK.out _ _ (HSW.out _ (HSX.out _ HBs1.out)) (fun _ => ?_)
          clear hK K a0 a1 af
          generalize (x5.setCell ⟨x3.heap.size, 0, none⟩ (.int .i64 lk)).setCell ⟨x3.heap.size, 1, none⟩ (.int .i64 ln) = y1 at *
          have a0 : y1.cell? ⟨x4.heap.size, 0, none⟩ = some (.int .i64 0) := by rw [blk_cell HCs1.out]; rfl
          have a1 : y1.cell? ⟨x4.heap.size, 1, none⟩ = some (.int .i64 0) := by rw [blk_cell HCs1.out]; rfl
          have af : ∀ i, y1.frozen? ⟨x4.heap.size, i, none⟩ = false := blk_frozen HCs1.out
          refine wpAnyH_ready (rs := [15]) (by kernel_rfl) (by simp) ?_
          refine AllReadyH.cons rfl (fun K hK => ?_) AllReadyH.nil
          go_simp
          have HBs2 := hide ((HBs1.out.setCell (p := ⟨x4.heap.size, 0, none⟩) HGC5.out (.int .i64 rk)).setCell (p := ⟨x4.heap.size, 1, none⟩) HGC5.out (.int .i64 rn))
          refine hK.out _ _ (HSW.out _ (HSX.out _ HBs2.out)) (fun _ => ?_)
          clear hK K a0 a1 af
          refine wpAnyH_done (by kernel_rfl) ?_ _
          go_wp2_with fail
          go_meet
          case rel =>
            exact ⟨x3.heap.size, x4.heap.size, rfl, rfl, HBs2.out, (sput_o (w := y1) (R := x4.heap.size) (.int .i64 rk) (.int .i64 rn) HAC.out).trans HAs1.out, sput_2 HCs1.out (.int .i64 rk) (.int .i64 rn), HGA5.out, HGC5.out⟩
        · go_simp
          have hb := below_alloc x3 (.cells #[.int .i64 0, .int .i64 0] 72)
          have HBx4 := hide (HBx3.out.trans (hb.mono HBx3.out.size))
          have HC4 := hide (blk_new x3 (.cells #[.int .i64 0, .int .i64 0] 72))
          have HGC4 : Hid ((W0 w).heap.size ≤ x3.heap.size) := hide HBx3.out.size
          clear hb
          refine hK.out _ _ (HSW.out _ (HSX.out _ HBx4.out)) (fun _ => ?_)
          clear hK K
          generalize x3.alloc (.cells #[.int .i64 0, .int .i64 0] 72) = x4 at *
          refine wpAnyH_ready (rs := [12]) (by kernel_rfl) (by simp) ?_
          refine AllReadyH.cons rfl (fun K hK => ?_) AllReadyH.nil
          go_simp
          have hb := below_alloc x4 (.cells #[.int .i64 0, .int .i64 0] 72)
          have HBx5 := hide (HBx4.out.trans (hb.mono HBx4.out.size))
          have HC5 := hide (Below.blk hb HC4.out)
          have HGC5 := HGC4
          have HA5 := hide (blk_new x4 (.cells #[.int .i64 0, .int .i64 0] 72))
          have HGA5 : Hid ((W0 w).heap.size ≤ x4.heap.size) := hide HBx4.out.size
          have HACB5 : Hid (x3.heap.size < x4.heap.size) := hide (blk_lt HC4.out)
          clear hb
          refine hK.out _ _ (HSW.out _ (HSX.out _ HBx5.out)) (fun _ => ?_)
          clear hK K
          generalize x4.alloc (.cells #[.int .i64 0, .int .i64 0] 72) = x5 at *
          have HAC : Hid (x4.heap.size ≠ x3.heap.size) := hide (by have h1 := blk_lt HA5.out; have h2 := blk_lt HC5.out; have h3 := HACB5.out; omega)
          have a0 : x5.cell? ⟨x4.heap.size, 0, none⟩ = some (.int .i64 0) := by rw [blk_cell HA5.out]; rfl
          have a1 : x5.cell? ⟨x4.heap.size, 1, none⟩ = some (.int .i64 0) := by rw [blk_cell HA5.out]; rfl
          have af : ∀ i, x5.frozen? ⟨x4.heap.size, i, none⟩ = false := blk_frozen HA5.out
          refine wpAnyH_ready (rs := [14]) (by kernel_rfl) (by simp) ?_
          refine AllReadyH.cons rfl (fun K hK => ?_) AllReadyH.nil
          go_simp
          have HBs1 := hide ((HBx5.out.setCell (p := ⟨x4.heap.size, 0, none⟩) HGA5.out (.int .i64 lk)).setCell (p := ⟨x4.heap.size, 1, none⟩) HGA5.out (.int .i64 ln))
          have HAs1 := hide (sput_2 HA5.out (.int .i64 lk) (.int .i64 ln))
          have HCs1 := hide ((sput_o (w := x5) (R := x4.heap.size) (.int .i64 lk) (.int .i64 ln) (Ne.symm HAC.out)).trans HC5.out)
          refine hK.out _ _ (HSW.out _ (HSX.out _ HBs1.out)) (fun _ => ?_)
          clear hK K a0 a1 af
          generalize (x5.setCell ⟨x4.heap.size, 0, none⟩ (.int .i64 lk)).setCell ⟨x4.heap.size, 1, none⟩ (.int .i64 ln) = y1 at *
          have a0 : y1.cell? ⟨x3.heap.size, 0, none⟩ = some (.int .i64 0) := by rw [blk_cell HCs1.out]; rfl
          have a1 : y1.cell? ⟨x3.heap.size, 1, none⟩ = some (.int .i64 0) := by rw [blk_cell HCs1.out]; rfl
          have af : ∀ i, y1.frozen? ⟨x3.heap.size, i, none⟩ = false := blk_frozen HCs1.out
          refine wpAnyH_ready (rs := [15]) (by kernel_rfl) (by simp) ?_
          refine AllReadyH.cons rfl (fun K hK => ?_) AllReadyH.nil
          go_simp
          have HBs2 := hide ((HBs1.out.setCell (p := ⟨x3.heap.size, 0, none⟩) HGC5.out (.int .i64 rk)).setCell (p := ⟨x3.heap.size, 1, none⟩) HGC5.out (.int .i64 rn))
          refine hK.out _ _ (HSW.out _ (HSX.out _ HBs2.out)) (fun _ => ?_)
          clear hK K a0 a1 af
          refine wpAnyH_done (by kernel_rfl) ?_ _
          go_wp2_with fail
          go_meet
          case rel =>
            exact ⟨x4.heap.size, x3.heap.size, rfl, rfl, HBs2.out, (sput_o (w := y1) (R := x3.heap.size) (.int .i64 rk) (.int .i64 rn) HAC.out).trans HAs1.out, sput_2 HCs1.out (.int .i64 rk) (.int .i64 rn), HGA5.out, HGC5.out⟩
      · go_simp
        have hb := below_alloc x2 (.cells #[.int .i64 0, .int .i64 0] 72)
        have HBx3 := hide (HBx2.out.trans (hb.mono HBx2.out.size))
        have HA3 := hide (blk_new x2 (.cells #[.int .i64 0, .int .i64 0] 72))
        have HGA3 : Hid ((W0 w).heap.size ≤ x2.heap.size) := hide HBx2.out.size
        clear hb
        refine hK.out _ _ (HSW.out _ (HSX.out _ HBx3.out)) (fun _ => ?_)
        clear hK K
        generalize x2.alloc (.cells #[.int .i64 0, .int .i64 0] 72) = x3 at *
        refine wpAnyH_ready (rs := [11, 13]) (by kernel_rfl) (by simp) ?_
        refine AllReadyH.cons rfl (fun K hK => ?_) (AllReadyH.cons rfl (fun K hK => ?_) AllReadyH.nil)
        · go_simp
          refine (HY.out _ (HSX.out _ HBx3.out)).mono ?_
          rintro e x4 ⟨rfl, hb⟩
          have HBx4 := hide (HBx3.out.trans (hb.mono HBx3.out.size))
          have HA4 := hide (Below.blk hb HA3.out)
          have HGA4 := HGA3
          clear hb
          refine hK.out _ _ (HSW.out _ (HSX.out _ HBx4.out)) (fun _ => ?_)
          clear hK K
          refine wpAnyH_ready (rs := [13]) (by kernel_rfl) (by simp) ?_
          refine AllReadyH.cons rfl (fun K hK => ?_) AllReadyH.nil
          go_simp
          have hb := below_alloc x4 (.cells #[.int .i64 0, .int .i64 0] 72)
          have HBx5 := hide (HBx4.out.trans (hb.mono HBx4.out.size))
          have HA5 := hide (Below.blk hb HA4.out)
          have HGA5 := HGA4
          have HC5 := hide (blk_new x4 (.cells #[.int .i64 0, .int .i64 0] 72))
          have HGC5 : Hid ((W0 w).heap.size ≤ x4.heap.size) := hide HBx4.out.size
          have HACB5 : Hid (x2.heap.size < x4.heap.size) := hide (blk_lt HA4.out)
          clear hb
          refine hK.out _ _ (HSW.out _ (HSX.out _ HBx5.out)) (fun _ => ?_)
          clear hK K
          generalize x4.alloc (.cells #[.int .i64 0, .int .i64 0] 72) = x5 at *
          have HAC : Hid (x2.heap.size ≠ x4.heap.size) := hide (by have h1 := blk_lt HA5.out; have h2 := blk_lt HC5.out; have h3 := HACB5.out; omega)
          have a0 : x5.cell? ⟨x2.heap.size, 0, none⟩ = some (.int .i64 0) := by rw [blk_cell HA5.out]; rfl
          have a1 : x5.cell? ⟨x2.heap.size, 1, none⟩ = some (.int .i64 0) := by rw [blk_cell HA5.out]; rfl
          have af : ∀ i, x5.frozen? ⟨x2.heap.size, i, none⟩ = false := blk_frozen HA5.out
          refine wpAnyH_ready (rs := [14]) (by kernel_rfl) (by simp) ?_
          refine AllReadyH.cons rfl (fun K hK => ?_) AllReadyH.nil
          go_simp
          have HBs1 := hide ((HBx5.out.setCell (p := ⟨x2.heap.size, 0, none⟩) HGA5.out (.int .i64 lk)).setCell (p := ⟨x2.heap.size, 1, none⟩) HGA5.out (.int .i64 ln))
          have HAs1 := hide (sput_2 HA5.out (.int .i64 lk) (.int .i64 ln))
          have HCs1 := hide ((sput_o (w := x5) (R := x2.heap.size) (.int .i64 lk) (.int .i64 ln) (Ne.symm HAC.out)).trans HC5.out)
          refine hK.out _ _ (HSW.out _ (HSX.out _ HBs1.out)) (fun _ => ?_)
          clear hK K a0 a1 af
          generalize (x5.setCell ⟨x2.heap.size, 0, none⟩ (.int .i64 lk)).setCell ⟨x2.heap.size, 1, none⟩ (.int .i64 ln) = y1 at *
          have a0 : y1.cell? ⟨x4.heap.size, 0, none⟩ = some (.int .i64 0) := by rw [blk_cell HCs1.out]; rfl
          have a1 : y1.cell? ⟨x4.heap.size, 1, none⟩ = some (.int .i64 0) := by rw [blk_cell HCs1.out]; rfl
          have af : ∀ i, y1.frozen? ⟨x4.heap.size, i, none⟩ = false := blk_frozen HCs1.out
          refine wpAnyH_ready (rs := [15]) (by kernel_rfl) (by simp) ?_
          refine AllReadyH.cons rfl (fun K hK => ?_) AllReadyH.nil
          go_simp
          have HBs2 := hide ((HBs1.out.setCell (p := ⟨x4.heap.size, 0, none⟩) HGC5.out (.int .i64 rk)).setCell (p := ⟨x4.heap.size, 1, none⟩) HGC5.out (.int .i64 rn))
          refine hK.out _ _ (HSW.out _ (HSX.out _ HBs2.out)) (fun _ => ?_)
          clear hK K a0 a1 af
          refine wpAnyH_done (by kernel_rfl) ?_ _
          go_wp2_with fail
          go_meet
          case rel =>
            exact ⟨x2.heap.size, x4.heap.size, rfl, rfl, HBs2.out, (sput_o (w := y1) (R := x4.heap.size) (.int .i64 rk) (.int .i64 rn) HAC.out).trans HAs1.out, sput_2 HCs1.out (.int .i64 rk) (.int .i64 rn), HGA5.out, HGC5.out⟩
        · go_simp
          have hb := below_alloc x3 (.cells #[.int .i64 0, .int .i64 0] 72)
          have HBx4 := hide (HBx3.out.trans (hb.mono HBx3.out.size))
          have HA4 := hide (Below.blk hb HA3.out)
          have HGA4 := HGA3
          have HC4 := hide (blk_new x3 (.cells #[.int .i64 0, .int .i64 0] 72))
          have HGC4 : Hid ((W0 w).heap.size ≤ x3.heap.size) := hide HBx3.out.size
          have HACB4 : Hid (x2.heap.size < x3.heap.size) := hide (blk_lt HA3.out)
          clear hb
          refine hK.out _ _ (HSW.out _ (HSX.out _ HBx4.out)) (fun _ => ?_)
          clear hK K
          generalize x3.alloc (.cells #[.int .i64 0, .int .i64 0] 72) = x4 at *
          refine wpAnyH_ready (rs := [11]) (by kernel_rfl) (by simp) ?_
          refine AllReadyH.cons rfl (fun K hK => ?_) AllReadyH.nil
          go_simp
          refine (HY.out _ (HSX.out _ HBx4.out)).mono ?_
          rintro e x5 ⟨rfl, hb⟩
          have HBx5 := hide (HBx4.out.trans (hb.mono HBx4.out.size))
          have HA5 := hide (Below.blk hb HA4.out)
          have HGA5 := HGA4
          have HC5 := hide (Below.blk hb HC4.out)
          have HGC5 := HGC4
          have HACB5 := HACB4
          clear hb
          refine hK.out _ _ (HSW.out _ (HSX.out _ HBx5.out)) (fun _ => ?_)
          clear hK K
          have HAC : Hid (x2.heap.size ≠ x3.heap.size) := hide (by have h1 := blk_lt HA5.out; have h2 := blk_lt HC5.out; have h3 := HACB5.out; omega)
          have a0 : x5.cell? ⟨x2.heap.size, 0, none⟩ = some (.int .i64 0) := by rw [blk_cell HA5.out]; rfl
          have a1 : x5.cell? ⟨x2.heap.size, 1, none⟩ = some (.int .i64 0) := by rw [blk_cell HA5.out]; rfl
          have af : ∀ i, x5.frozen? ⟨x2.heap.size, i, none⟩ = false := blk_frozen HA5.out
          refine wpAnyH_ready (rs := [14]) (by kernel_rfl) (by simp) ?_
          refine AllReadyH.cons rfl (fun K hK => ?_) AllReadyH.nil
          go_simp
          have HBs1 := hide ((HBx5.out.setCell (p := ⟨x2.heap.size, 0, none⟩) HGA5.out (.int .i64 lk)).setCell (p := ⟨x2.heap.size, 1, none⟩) HGA5.out (.int .i64 ln))
          have HAs1 := hide (sput_2 HA5.out (.int .i64 lk) (.int .i64 ln))
          have HCs1 := hide ((sput_o (w := x5) (R := x2.heap.size) (.int .i64 lk) (.int .i64 ln) (Ne.symm HAC.out)).trans HC5.out)
          refine hK.out _ _ (HSW.out _ (HSX.out _ HBs1.out)) (fun _ => ?_)
          clear hK K a0 a1 af
          generalize (x5.setCell ⟨x2.heap.size, 0, none⟩ (.int .i64 lk)).setCell ⟨x2.heap.size, 1, none⟩ (.int .i64 ln) = y1 at *
          have a0 : y1.cell? ⟨x3.heap.size, 0, none⟩ = some (.int .i64 0) := by rw [blk_cell HCs1.out]; rfl
          have a1 : y1.cell? ⟨x3.heap.size, 1, none⟩ = some (.int .i64 0) := by rw [blk_cell HCs1.out]; rfl
          have af : ∀ i, y1.frozen? ⟨x3.heap.size, i, none⟩ = false := blk_frozen HCs1.out
          refine wpAnyH_ready (rs := [15]) (by kernel_rfl) (by simp) ?_
          refine AllReadyH.cons rfl (fun K hK => ?_) AllReadyH.nil
          go_simp
          have HBs2 := hide ((HBs1.out.setCell (p := ⟨x3.heap.size, 0, none⟩) HGC5.out (.int .i64 rk)).setCell (p := ⟨x3.heap.size, 1, none⟩) HGC5.out (.int .i64 rn))
          refine hK.out _ _ (HSW.out _ (HSX.out _ HBs2.out)) (fun _ => ?_)
          clear hK K a0 a1 af
          refine wpAnyH_done (by kernel_rfl) ?_ _
          go_wp2_with fail
          go_meet
          case rel =>
            exact ⟨x2.heap.size, x3.heap.size, rfl, rfl, HBs2.out, (sput_o (w := y1) (R := x3.heap.size) (.int .i64 rk) (.int .i64 rn) HAC.out).trans HAs1.out, sput_2 HCs1.out (.int .i64 rk) (.int .i64 rn), HGA5.out, HGC5.out⟩
      · go_simp
        have hb := below_alloc x2 (.cells #[.int .i64 0, .int .i64 0] 72)
        have HBx3 := hide (HBx2.out.trans (hb.mono HBx2.out.size))
        have HC3 := hide (blk_new x2 (.cells #[.int .i64 0, .int .i64 0] 72))
        have HGC3 : Hid ((W0 w).heap.size ≤ x2.heap.size) := hide HBx2.out.size
        clear hb
        refine hK.out _ _ (HSW.out _ (HSX.out _ HBx3.out)) (fun _ => ?_)
        clear hK K
        generalize x2.alloc (.cells #[.int .i64 0, .int .i64 0] 72) = x3 at *
        refine wpAnyH_ready (rs := [11, 12]) (by kernel_rfl) (by simp) ?_
        refine AllReadyH.cons rfl (fun K hK => ?_) (AllReadyH.cons rfl (fun K hK => ?_) AllReadyH.nil)
        · go_simp
          refine (HY.out _ (HSX.out _ HBx3.out)).mono ?_
          rintro e x4 ⟨rfl, hb⟩
          have HBx4 := hide (HBx3.out.trans (hb.mono HBx3.out.size))
          have HC4 := hide (Below.blk hb HC3.out)
          have HGC4 := HGC3
          clear hb
          refine hK.out _ _ (HSW.out _ (HSX.out _ HBx4.out)) (fun _ => ?_)
          clear hK K
          refine wpAnyH_ready (rs := [12]) (by kernel_rfl) (by simp) ?_
          refine AllReadyH.cons rfl (fun K hK => ?_) AllReadyH.nil
          go_simp
          have hb := below_alloc x4 (.cells #[.int .i64 0, .int .i64 0] 72)
          have HBx5 := hide (HBx4.out.trans (hb.mono HBx4.out.size))
          have HC5 := hide (Below.blk hb HC4.out)
          have HGC5 := HGC4
          have HA5 := hide (blk_new x4 (.cells #[.int .i64 0, .int .i64 0] 72))
          have HGA5 : Hid ((W0 w).heap.size ≤ x4.heap.size) := hide HBx4.out.size
          have HACB5 : Hid (x2.heap.size < x4.heap.size) := hide (blk_lt HC4.out)
          clear hb
          refine hK.out _ _ (HSW.out _ (HSX.out _ HBx5.out)) (fun _ => ?_)
          clear hK K
          generalize x4.alloc (.cells #[.int .i64 0, .int .i64 0] 72) = x5 at *
          have HAC : Hid (x4.heap.size ≠ x2.heap.size) := hide (by have h1 := blk_lt HA5.out; have h2 := blk_lt HC5.out; have h3 := HACB5.out; omega)
          have a0 : x5.cell? ⟨x4.heap.size, 0, none⟩ = some (.int .i64 0) := by rw [blk_cell HA5.out]; rfl
          have a1 : x5.cell? ⟨x4.heap.size, 1, none⟩ = some (.int .i64 0) := by rw [blk_cell HA5.out]; rfl
          have af : ∀ i, x5.frozen? ⟨x4.heap.size, i, none⟩ = false := blk_frozen HA5.out
          refine wpAnyH_ready (rs := [14]) (by kernel_rfl) (by simp) ?_
          refine AllReadyH.cons rfl (fun K hK => ?_) AllReadyH.nil
          go_simp
          have HBs1 := hide ((HBx5.out.setCell (p := ⟨x4.heap.size, 0, none⟩) HGA5.out (.int .i64 lk)).setCell (p := ⟨x4.heap.size, 1, none⟩) HGA5.out (.int .i64 ln))
          have HAs1 := hide (sput_2 HA5.out (.int .i64 lk) (.int .i64 ln))
          have HCs1 := hide ((sput_o (w := x5) (R := x4.heap.size) (.int .i64 lk) (.int .i64 ln) (Ne.symm HAC.out)).trans HC5.out)
          refine hK.out _ _ (HSW.out _ (HSX.out _ HBs1.out)) (fun _ => ?_)
          clear hK K a0 a1 af
          generalize (x5.setCell ⟨x4.heap.size, 0, none⟩ (.int .i64 lk)).setCell ⟨x4.heap.size, 1, none⟩ (.int .i64 ln) = y1 at *
          have a0 : y1.cell? ⟨x2.heap.size, 0, none⟩ = some (.int .i64 0) := by rw [blk_cell HCs1.out]; rfl
          have a1 : y1.cell? ⟨x2.heap.size, 1, none⟩ = some (.int .i64 0) := by rw [blk_cell HCs1.out]; rfl
          have af : ∀ i, y1.frozen? ⟨x2.heap.size, i, none⟩ = false := blk_frozen HCs1.out
          refine wpAnyH_ready (rs := [15]) (by kernel_rfl) (by simp) ?_
          refine AllReadyH.cons rfl (fun K hK => ?_) AllReadyH.nil
          go_simp
          have HBs2 := hide ((HBs1.out.setCell (p := ⟨x2.heap.size, 0, none⟩) HGC5.out (.int .i64 rk)).setCell (p := ⟨x2.heap.size, 1, none⟩) HGC5.out (.int .i64 rn))
          refine hK.out _ _ (HSW.out _ (HSX.out _ HBs2.out)) (fun _ => ?_)
          clear hK K a0 a1 af
          refine wpAnyH_done (by kernel_rfl) ?_ _
          go_wp2_with fail
          go_meet
          case rel =>
            exact ⟨x4.heap.size, x2.heap.size, rfl, rfl, HBs2.out, (sput_o (w := y1) (R := x2.heap.size) (.int .i64 rk) (.int .i64 rn) HAC.out).trans HAs1.out, sput_2 HCs1.out (.int .i64 rk) (.int .i64 rn), HGA5.out, HGC5.out⟩
        · go_simp
          have hb := below_alloc x3 (.cells #[.int .i64 0, .int .i64 0] 72)
          have HBx4 := hide (HBx3.out.trans (hb.mono HBx3.out.size))
          have HC4 := hide (Below.blk hb HC3.out)
          have HGC4 := HGC3
          have HA4 := hide (blk_new x3 (.cells #[.int .i64 0, .int .i64 0] 72))
          have HGA4 : Hid ((W0 w).heap.size ≤ x3.heap.size) := hide HBx3.out.size
          have HACB4 : Hid (x2.heap.size < x3.heap.size) := hide (blk_lt HC3.out)
          clear hb
          refine hK.out _ _ (HSW.out _ (HSX.out _ HBx4.out)) (fun _ => ?_)
          clear hK K
          generalize x3.alloc (.cells #[.int .i64 0, .int .i64 0] 72) = x4 at *
          refine wpAnyH_ready (rs := [11]) (by kernel_rfl) (by simp) ?_
          refine AllReadyH.cons rfl (fun K hK => ?_) AllReadyH.nil
          go_simp
          refine (HY.out _ (HSX.out _ HBx4.out)).mono ?_
          rintro e x5 ⟨rfl, hb⟩
          have HBx5 := hide (HBx4.out.trans (hb.mono HBx4.out.size))
          have HA5 := hide (Below.blk hb HA4.out)
          have HGA5 := HGA4
          have HC5 := hide (Below.blk hb HC4.out)
          have HGC5 := HGC4
          have HACB5 := HACB4
          clear hb
          refine hK.out _ _ (HSW.out _ (HSX.out _ HBx5.out)) (fun _ => ?_)
          clear hK K
          have HAC : Hid (x3.heap.size ≠ x2.heap.size) := hide (by have h1 := blk_lt HA5.out; have h2 := blk_lt HC5.out; have h3 := HACB5.out; omega)
          have a0 : x5.cell? ⟨x3.heap.size, 0, none⟩ = some (.int .i64 0) := by rw [blk_cell HA5.out]; rfl
          have a1 : x5.cell? ⟨x3.heap.size, 1, none⟩ = some (.int .i64 0) := by rw [blk_cell HA5.out]; rfl
          have af : ∀ i, x5.frozen? ⟨x3.heap.size, i, none⟩ = false := blk_frozen HA5.out
          refine wpAnyH_ready (rs := [14]) (by kernel_rfl) (by simp) ?_
          refine AllReadyH.cons rfl (fun K hK => ?_) AllReadyH.nil
          go_simp
          have HBs1 := hide ((HBx5.out.setCell (p := ⟨x3.heap.size, 0, none⟩) HGA5.out (.int .i64 lk)).setCell (p := ⟨x3.heap.size, 1, none⟩) HGA5.out (.int .i64 ln))
          have HAs1 := hide (sput_2 HA5.out (.int .i64 lk) (.int .i64 ln))
          have HCs1 := hide ((sput_o (w := x5) (R := x3.heap.size) (.int .i64 lk) (.int .i64 ln) (Ne.symm HAC.out)).trans HC5.out)
          refine hK.out _ _ (HSW.out _ (HSX.out _ HBs1.out)) (fun _ => ?_)
          clear hK K a0 a1 af
          generalize (x5.setCell ⟨x3.heap.size, 0, none⟩ (.int .i64 lk)).setCell ⟨x3.heap.size, 1, none⟩ (.int .i64 ln) = y1 at *
          have a0 : y1.cell? ⟨x2.heap.size, 0, none⟩ = some (.int .i64 0) := by rw [blk_cell HCs1.out]; rfl
          have a1 : y1.cell? ⟨x2.heap.size, 1, none⟩ = some (.int .i64 0) := by rw [blk_cell HCs1.out]; rfl
          have af : ∀ i, y1.frozen? ⟨x2.heap.size, i, none⟩ = false := blk_frozen HCs1.out
          refine wpAnyH_ready (rs := [15]) (by kernel_rfl) (by simp) ?_
          refine AllReadyH.cons rfl (fun K hK => ?_) AllReadyH.nil
          go_simp
          have HBs2 := hide ((HBs1.out.setCell (p := ⟨x2.heap.size, 0, none⟩) HGC5.out (.int .i64 rk)).setCell (p := ⟨x2.heap.size, 1, none⟩) HGC5.out (.int .i64 rn))
          refine hK.out _ _ (HSW.out _ (HSX.out _ HBs2.out)) (fun _ => ?_)
          clear hK K a0 a1 af
          refine wpAnyH_done (by kernel_rfl) ?_ _
          go_wp2_with fail
          go_meet
          case rel =>
            exact ⟨x3.heap.size, x2.heap.size, rfl, rfl, HBs2.out, (sput_o (w := y1) (R := x2.heap.size) (.int .i64 rk) (.int .i64 rn) HAC.out).trans HAs1.out, sput_2 HCs1.out (.int .i64 rk) (.int .i64 rn), HGA5.out, HGC5.out⟩
    · go_simp
      have hb := below_alloc x1 (.cells #[.int .i64 0, .int .i64 0] 72)
      have HBx2 := hide (HBx1.out.trans (hb.mono HBx1.out.size))
      have HA2 := hide (blk_new x1 (.cells #[.int .i64 0, .int .i64 0] 72))
      have HGA2 : Hid ((W0 w).heap.size ≤ x1.heap.size) := hide HBx1.out.size
      clear hb
      refine hK.out _ _ (HSW.out _ (HSX.out _ HBx2.out)) (fun _ => ?_)
      clear hK K
      generalize x1.alloc (.cells #[.int .i64 0, .int .i64 0] 72) = x2 at *
      refine wpAnyH_ready (rs := [5, 13]) (by kernel_rfl) (by simp) ?_
      refine AllReadyH.cons rfl (fun K hK => ?_) (AllReadyH.cons rfl (fun K hK => ?_) AllReadyH.nil)
      · go_simp
        refine (HX.out _ (HSX.out _ HBx2.out)).mono ?_
        rintro e x3 ⟨rfl, hb⟩
        have HBx3 := hide (HBx2.out.trans (hb.mono HBx2.out.size))
        have HA3 := hide (Below.blk hb HA2.out)
        have HGA3 := HGA2
        clear hb
        refine hK.out _ _ (HSW.out _ (HSX.out _ HBx3.out)) (fun _ => ?_)
        clear hK K
        refine wpAnyH_ready (rs := [11, 13]) (by kernel_rfl) (by simp) ?_
        refine AllReadyH.cons rfl (fun K hK => ?_) (AllReadyH.cons rfl (fun K hK => ?_) AllReadyH.nil)
        · go_simp
          refine (HY.out _ (HSX.out _ HBx3.out)).mono ?_
          rintro e x4 ⟨rfl, hb⟩
          have HBx4 := hide (HBx3.out.trans (hb.mono HBx3.out.size))
          have HA4 := hide (Below.blk hb HA3.out)
          have HGA4 := HGA3
          clear hb
          refine hK.out _ _ (HSW.out _ (HSX.out _ HBx4.out)) (fun _ => ?_)
          clear hK K
          refine wpAnyH_ready (rs := [13]) (by kernel_rfl) (by simp) ?_
          refine AllReadyH.cons rfl (fun K hK => ?_) AllReadyH.nil
          go_simp
          have hb := below_alloc x4 (.cells #[.int .i64 0, .int .i64 0] 72)
          have HBx5 := hide (HBx4.out.trans (hb.mono HBx4.out.size))
          have HA5 := hide (Below.blk hb HA4.out)
          have HGA5 := HGA4
          have HC5 := hide (blk_new x4 (.cells #[.int .i64 0, .int .i64 0] 72))
          have HGC5 : Hid ((W0 w).heap.size ≤ x4.heap.size) := hide HBx4.out.size
          have HACB5 : Hid (x1.heap.size < x4.heap.size) := hide (blk_lt HA4.out)
          clear hb
          refine hK.out _ _ (HSW.out _ (HSX.out _ HBx5.out)) (fun _ => ?_)
          clear hK K
          generalize x4.alloc (.cells #[.int .i64 0, .int .i64 0] 72) = x5 at *
          have HAC : Hid (x1.heap.size ≠ x4.heap.size) := hide (by have h1 := blk_lt HA5.out; have h2 := blk_lt HC5.out; have h3 := HACB5.out; omega)
          have a0 : x5.cell? ⟨x1.heap.size, 0, none⟩ = some (.int .i64 0) := by rw [blk_cell HA5.out]; rfl
          have a1 : x5.cell? ⟨x1.heap.size, 1, none⟩ = some (.int .i64 0) := by rw [blk_cell HA5.out]; rfl
          have af : ∀ i, x5.frozen? ⟨x1.heap.size, i, none⟩ = false := blk_frozen HA5.out
          refine wpAnyH_ready (rs := [14]) (by kernel_rfl) (by simp) ?_
          refine AllReadyH.cons rfl (fun K hK => ?_) AllReadyH.nil
          go_simp
          have HBs1 := hide ((HBx5.out.setCell (p := ⟨x1.heap.size, 0, none⟩) HGA5.out (.int .i64 lk)).setCell (p := ⟨x1.heap.size, 1, none⟩) HGA5.out (.int .i64 ln))
          have HAs1 := hide (sput_2 HA5.out (.int .i64 lk) (.int .i64 ln))
          have HCs1 := hide ((sput_o (w := x5) (R := x1.heap.size) (.int .i64 lk) (.int .i64 ln) (Ne.symm HAC.out)).trans HC5.out)
          refine hK.out _ _ (HSW.out _ (HSX.out _ HBs1.out)) (fun _ => ?_)
          clear hK K a0 a1 af
          generalize (x5.setCell ⟨x1.heap.size, 0, none⟩ (.int .i64 lk)).setCell ⟨x1.heap.size, 1, none⟩ (.int .i64 ln) = y1 at *
          have a0 : y1.cell? ⟨x4.heap.size, 0, none⟩ = some (.int .i64 0) := by rw [blk_cell HCs1.out]; rfl
          have a1 : y1.cell? ⟨x4.heap.size, 1, none⟩ = some (.int .i64 0) := by rw [blk_cell HCs1.out]; rfl
          have af : ∀ i, y1.frozen? ⟨x4.heap.size, i, none⟩ = false := blk_frozen HCs1.out
          refine wpAnyH_ready (rs := [15]) (by kernel_rfl) (by simp) ?_
          refine AllReadyH.cons rfl (fun K hK => ?_) AllReadyH.nil
          go_simp
          have HBs2 := hide ((HBs1.out.setCell (p := ⟨x4.heap.size, 0, none⟩) HGC5.out (.int .i64 rk)).setCell (p := ⟨x4.heap.size, 1, none⟩) HGC5.out (.int .i64 rn))
          refine hK.out _ _ (HSW.out _ (HSX.out _ HBs2.out)) (fun _ => ?_)
          clear hK K a0 a1 af
          refine wpAnyH_done (by kernel_rfl) ?_ _
          go_wp2_with fail
          go_meet
          case rel =>
            exact ⟨x1.heap.size, x4.heap.size, rfl, rfl, HBs2.out, (sput_o (w := y1) (R := x4.heap.size) (.int .i64 rk) (.int .i64 rn) HAC.out).trans HAs1.out, sput_2 HCs1.out (.int .i64 rk) (.int .i64 rn), HGA5.out, HGC5.out⟩
        · go_simp
          have hb := below_alloc x3 (.cells #[.int .i64 0, .int .i64 0] 72)
          have HBx4 := hide (HBx3.out.trans (hb.mono HBx3.out.size))
          have HA4 := hide (Below.blk hb HA3.out)
          have HGA4 := HGA3
          have HC4 := hide (blk_new x3 (.cells #[.int .i64 0, .int .i64 0] 72))
          have HGC4 : Hid ((W0 w).heap.size ≤ x3.heap.size) := hide HBx3.out.size
          have HACB4 : Hid (x1.heap.size < x3.heap.size) := hide (blk_lt HA3.out)
          clear hb
          refine hK.out _ _ (HSW.out _ (HSX.out _ HBx4.out)) (fun _ => ?_)
          clear hK K
          generalize x3.alloc (.cells #[.int .i64 0, .int .i64 0] 72) = x4 at *
          refine wpAnyH_ready (rs := [11]) (by kernel_rfl) (by simp) ?_
          refine AllReadyH.cons rfl (fun K hK => ?_) AllReadyH.nil
          go_simp
          refine (HY.out _ (HSX.out _ HBx4.out)).mono ?_
          rintro e x5 ⟨rfl, hb⟩
          have HBx5 := hide (HBx4.out.trans (hb.mono HBx4.out.size))
          have HA5 := hide (Below.blk hb HA4.out)
          have HGA5 := HGA4
          have HC5 := hide (Below.blk hb HC4.out)
          have HGC5 := HGC4
          have HACB5 := HACB4
          clear hb
          refine hK.out _ _ (HSW.out _ (HSX.out _ HBx5.out)) (fun _ => ?_)
          clear hK K
          have HAC : Hid (x1.heap.size ≠ x3.heap.size) := hide (by have h1 := blk_lt HA5.out; have h2 := blk_lt HC5.out; have h3 := HACB5.out; omega)
          have a0 : x5.cell? ⟨x1.heap.size, 0, none⟩ = some (.int .i64 0) := by rw [blk_cell HA5.out]; rfl
          have a1 : x5.cell? ⟨x1.heap.size, 1, none⟩ = some (.int .i64 0) := by rw [blk_cell HA5.out]; rfl
          have af : ∀ i, x5.frozen? ⟨x1.heap.size, i, none⟩ = false := blk_frozen HA5.out
          refine wpAnyH_ready (rs := [14]) (by kernel_rfl) (by simp) ?_
          refine AllReadyH.cons rfl (fun K hK => ?_) AllReadyH.nil
          go_simp
          have HBs1 := hide ((HBx5.out.setCell (p := ⟨x1.heap.size, 0, none⟩) HGA5.out (.int .i64 lk)).setCell (p := ⟨x1.heap.size, 1, none⟩) HGA5.out (.int .i64 ln))
          have HAs1 := hide (sput_2 HA5.out (.int .i64 lk) (.int .i64 ln))
          have HCs1 := hide ((sput_o (w := x5) (R := x1.heap.size) (.int .i64 lk) (.int .i64 ln) (Ne.symm HAC.out)).trans HC5.out)
          refine hK.out _ _ (HSW.out _ (HSX.out _ HBs1.out)) (fun _ => ?_)
          clear hK K a0 a1 af
          generalize (x5.setCell ⟨x1.heap.size, 0, none⟩ (.int .i64 lk)).setCell ⟨x1.heap.size, 1, none⟩ (.int .i64 ln) = y1 at *
          have a0 : y1.cell? ⟨x3.heap.size, 0, none⟩ = some (.int .i64 0) := by rw [blk_cell HCs1.out]; rfl
          have a1 : y1.cell? ⟨x3.heap.size, 1, none⟩ = some (.int .i64 0) := by rw [blk_cell HCs1.out]; rfl
          have af : ∀ i, y1.frozen? ⟨x3.heap.size, i, none⟩ = false := blk_frozen HCs1.out
          refine wpAnyH_ready (rs := [15]) (by kernel_rfl) (by simp) ?_
          refine AllReadyH.cons rfl (fun K hK => ?_) AllReadyH.nil
          go_simp
          have HBs2 := hide ((HBs1.out.setCell (p := ⟨x3.heap.size, 0, none⟩) HGC5.out (.int .i64 rk)).setCell (p := ⟨x3.heap.size, 1, none⟩) HGC5.out (.int .i64 rn))
          refine hK.out _ _ (HSW.out _ (HSX.out _ HBs2.out)) (fun _ => ?_)
          clear hK K a0 a1 af
          refine wpAnyH_done (by kernel_rfl) ?_ _
          go_wp2_with fail
          go_meet
          case rel =>
            exact ⟨x1.heap.size, x3.heap.size, rfl, rfl, HBs2.out, (sput_o (w := y1) (R := x3.heap.size) (.int .i64 rk) (.int .i64 rn) HAC.out).trans HAs1.out, sput_2 HCs1.out (.int .i64 rk) (.int .i64 rn), HGA5.out, HGC5.out⟩
      · go_simp
        have hb := below_alloc x2 (.cells #[.int .i64 0, .int .i64 0] 72)
        have HBx3 := hide (HBx2.out.trans (hb.mono HBx2.out.size))
        have HA3 := hide (Below.blk hb HA2.out)
        have HGA3 := HGA2
        have HC3 := hide (blk_new x2 (.cells #[.int .i64 0, .int .i64 0] 72))
        have HGC3 : Hid ((W0 w).heap.size ≤ x2.heap.size) := hide HBx2.out.size
        have HACB3 : Hid (x1.heap.size < x2.heap.size) := hide (blk_lt HA2.out)
        clear hb
        refine hK.out _ _ (HSW.out _ (HSX.out _ HBx3.out)) (fun _ => ?_)
        clear hK K
        generalize x2.alloc (.cells #[.int .i64 0, .int .i64 0] 72) = x3 at *
        refine wpAnyH_ready (rs := [5]) (by kernel_rfl) (by simp) ?_
        refine AllReadyH.cons rfl (fun K hK => ?_) AllReadyH.nil
        go_simp
        refine (HX.out _ (HSX.out _ HBx3.out)).mono ?_
        rintro e x4 ⟨rfl, hb⟩
        have HBx4 := hide (HBx3.out.trans (hb.mono HBx3.out.size))
        have HA4 := hide (Below.blk hb HA3.out)
        have HGA4 := HGA3
        have HC4 := hide (Below.blk hb HC3.out)
        have HGC4 := HGC3
        have HACB4 := HACB3
        clear hb
        refine hK.out _ _ (HSW.out _ (HSX.out _ HBx4.out)) (fun _ => ?_)
        clear hK K
        refine wpAnyH_ready (rs := [11]) (by kernel_rfl) (by simp) ?_
        refine AllReadyH.cons rfl (fun K hK => ?_) AllReadyH.nil
        go_simp
        refine (HY.out _ (HSX.out _ HBx4.out)).mono ?_
        rintro e x5 ⟨rfl, hb⟩
        have HBx5 := hide (HBx4.out.trans (hb.mono HBx4.out.size))
        have HA5 := hide (Below.blk hb HA4.out)
        have HGA5 := HGA4
        have HC5 := hide (Below.blk hb HC4.out)
        have HGC5 := HGC4
        have HACB5 := HACB4
        clear hb
        refine hK.out _ _ (HSW.out _ (HSX.out _ HBx5.out)) (fun _ => ?_)
        clear hK K
        have HAC : Hid (x1.heap.size ≠ x2.heap.size) := hide (by have h1 := blk_lt HA5.out; have h2 := blk_lt HC5.out; have h3 := HACB5.out; omega)
        have a0 : x5.cell? ⟨x1.heap.size, 0, none⟩ = some (.int .i64 0) := by rw [blk_cell HA5.out]; rfl
        have a1 : x5.cell? ⟨x1.heap.size, 1, none⟩ = some (.int .i64 0) := by rw [blk_cell HA5.out]; rfl
        have af : ∀ i, x5.frozen? ⟨x1.heap.size, i, none⟩ = false := blk_frozen HA5.out
        refine wpAnyH_ready (rs := [14]) (by kernel_rfl) (by simp) ?_
        refine AllReadyH.cons rfl (fun K hK => ?_) AllReadyH.nil
        go_simp
        have HBs1 := hide ((HBx5.out.setCell (p := ⟨x1.heap.size, 0, none⟩) HGA5.out (.int .i64 lk)).setCell (p := ⟨x1.heap.size, 1, none⟩) HGA5.out (.int .i64 ln))
        have HAs1 := hide (sput_2 HA5.out (.int .i64 lk) (.int .i64 ln))
        have HCs1 := hide ((sput_o (w := x5) (R := x1.heap.size) (.int .i64 lk) (.int .i64 ln) (Ne.symm HAC.out)).trans HC5.out)
        refine hK.out _ _ (HSW.out _ (HSX.out _ HBs1.out)) (fun _ => ?_)
        clear hK K a0 a1 af
        generalize (x5.setCell ⟨x1.heap.size, 0, none⟩ (.int .i64 lk)).setCell ⟨x1.heap.size, 1, none⟩ (.int .i64 ln) = y1 at *
        have a0 : y1.cell? ⟨x2.heap.size, 0, none⟩ = some (.int .i64 0) := by rw [blk_cell HCs1.out]; rfl
        have a1 : y1.cell? ⟨x2.heap.size, 1, none⟩ = some (.int .i64 0) := by rw [blk_cell HCs1.out]; rfl
        have af : ∀ i, y1.frozen? ⟨x2.heap.size, i, none⟩ = false := blk_frozen HCs1.out
        refine wpAnyH_ready (rs := [15]) (by kernel_rfl) (by simp) ?_
        refine AllReadyH.cons rfl (fun K hK => ?_) AllReadyH.nil
        go_simp
        have HBs2 := hide ((HBs1.out.setCell (p := ⟨x2.heap.size, 0, none⟩) HGC5.out (.int .i64 rk)).setCell (p := ⟨x2.heap.size, 1, none⟩) HGC5.out (.int .i64 rn))
        refine hK.out _ _ (HSW.out _ (HSX.out _ HBs2.out)) (fun _ => ?_)
        clear hK K a0 a1 af
        refine wpAnyH_done (by kernel_rfl) ?_ _
        go_wp2_with fail
        go_meet
        case rel =>
          exact ⟨x1.heap.size, x2.heap.size, rfl, rfl, HBs2.out, (sput_o (w := y1) (R := x2.heap.size) (.int .i64 rk) (.int .i64 rn) HAC.out).trans HAs1.out, sput_2 HCs1.out (.int .i64 rk) (.int .i64 rn), HGA5.out, HGC5.out⟩
    · go_simp
      have hb := below_alloc x1 (.cells #[.int .i64 0, .int .i64 0] 72)
      have HBx2 := hide (HBx1.out.trans (hb.mono HBx1.out.size))
      have HC2 := hide (blk_new x1 (.cells #[.int .i64 0, .int .i64 0] 72))
      have HGC2 : Hid ((W0 w).heap.size ≤ x1.heap.size) := hide HBx1.out.size
      clear hb
      refine hK.out _ _ (HSW.out _ (HSX.out _ HBx2.out)) (fun _ => ?_)
      clear hK K
      generalize x1.alloc (.cells #[.int .i64 0, .int .i64 0] 72) = x2 at *
      refine wpAnyH_ready (rs := [5, 12]) (by kernel_rfl) (by simp) ?_
      refine AllReadyH.cons rfl (fun K hK => ?_) (AllReadyH.cons rfl (fun K hK => ?_) AllReadyH.nil)
      · go_simp
        refine (HX.out _ (HSX.out _ HBx2.out)).mono ?_
        rintro e x3 ⟨rfl, hb⟩
        have HBx3 := hide (HBx2.out.trans (hb.mono HBx2.out.size))
        have HC3 := hide (Below.blk hb HC2.out)
        have HGC3 := HGC2
        clear hb
        refine hK.out _ _ (HSW.out _ (HSX.out _ HBx3.out)) (fun _ => ?_)
        clear hK K
        refine wpAnyH_ready (rs := [11, 12]) (by kernel_rfl) (by simp) ?_
        refine AllReadyH.cons rfl (fun K hK => ?_) (AllReadyH.cons rfl (fun K hK => ?_) AllReadyH.nil)
        · go_simp
          refine (HY.out _ (HSX.out _ HBx3.out)).mono ?_
          rintro e x4 ⟨rfl, hb⟩
          have HBx4 := hide (HBx3.out.trans (hb.mono HBx3.out.size))
          have HC4 := hide (Below.blk hb HC3.out)
          have HGC4 := HGC3
          clear hb
          refine hK.out _ _ (HSW.out _ (HSX.out _ HBx4.out)) (fun _ => ?_)
          clear hK K
          refine wpAnyH_ready (rs := [12]) (by kernel_rfl) (by simp) ?_
          refine AllReadyH.cons rfl (fun K hK => ?_) AllReadyH.nil
          go_simp
          have hb := below_alloc x4 (.cells #[.int .i64 0, .int .i64 0] 72)
          have HBx5 := hide (HBx4.out.trans (hb.mono HBx4.out.size))
          have HC5 := hide (Below.blk hb HC4.out)
          have HGC5 := HGC4
          have HA5 := hide (blk_new x4 (.cells #[.int .i64 0, .int .i64 0] 72))
          have HGA5 : Hid ((W0 w).heap.size ≤ x4.heap.size) := hide HBx4.out.size
          have HACB5 : Hid (x1.heap.size < x4.heap.size) := hide (blk_lt HC4.out)
          clear hb
          refine hK.out _ _ (HSW.out _ (HSX.out _ HBx5.out)) (fun _ => ?_)
          clear hK K
          generalize x4.alloc (.cells #[.int .i64 0, .int .i64 0] 72) = x5 at *
          have HAC : Hid (x4.heap.size ≠ x1.heap.size) := hide (by have h1 := blk_lt HA5.out; have h2 := blk_lt HC5.out; have h3 := HACB5.out; omega)
          have a0 : x5.cell? ⟨x4.heap.size, 0, none⟩ = some (.int .i64 0) := by rw [blk_cell HA5.out]; rfl
          have a1 : x5.cell? ⟨x4.heap.size, 1, none⟩ = some (.int .i64 0) := by rw [blk_cell HA5.out]; rfl
          have af : ∀ i, x5.frozen? ⟨x4.heap.size, i, none⟩ = false := blk_frozen HA5.out
          refine wpAnyH_ready (rs := [14]) (by kernel_rfl) (by simp) ?_
          refine AllReadyH.cons rfl (fun K hK => ?_) AllReadyH.nil
          go_simp
          have HBs1 := hide ((HBx5.out.setCell (p := ⟨x4.heap.size, 0, none⟩) HGA5.out (.int .i64 lk)).setCell (p := ⟨x4.heap.size, 1, none⟩) HGA5.out (.int .i64 ln))
          have HAs1 := hide (sput_2 HA5.out (.int .i64 lk) (.int .i64 ln))
          have HCs1 := hide ((sput_o (w := x5) (R := x4.heap.size) (.int .i64 lk) (.int .i64 ln) (Ne.symm HAC.out)).trans HC5.out)
          refine hK.out _ _ (HSW.out _ (HSX.out _ HBs1.out)) (fun _ => ?_)
          clear hK K a0 a1 af
          generalize (x5.setCell ⟨x4.heap.size, 0, none⟩ (.int .i64 lk)).setCell ⟨x4.heap.size, 1, none⟩ (.int .i64 ln) = y1 at *
          have a0 : y1.cell? ⟨x1.heap.size, 0, none⟩ = some (.int .i64 0) := by rw [blk_cell HCs1.out]; rfl
          have a1 : y1.cell? ⟨x1.heap.size, 1, none⟩ = some (.int .i64 0) := by rw [blk_cell HCs1.out]; rfl
          have af : ∀ i, y1.frozen? ⟨x1.heap.size, i, none⟩ = false := blk_frozen HCs1.out
          refine wpAnyH_ready (rs := [15]) (by kernel_rfl) (by simp) ?_
          refine AllReadyH.cons rfl (fun K hK => ?_) AllReadyH.nil
          go_simp
          have HBs2 := hide ((HBs1.out.setCell (p := ⟨x1.heap.size, 0, none⟩) HGC5.out (.int .i64 rk)).setCell (p := ⟨x1.heap.size, 1, none⟩) HGC5.out (.int .i64 rn))
          refine hK.out _ _ (HSW.out _ (HSX.out _ HBs2.out)) (fun _ => ?_)
          clear hK K a0 a1 af
          refine wpAnyH_done (by kernel_rfl) ?_ _
          go_wp2_with fail
          go_meet
          case rel =>
            exact ⟨x4.heap.size, x1.heap.size, rfl, rfl, HBs2.out, (sput_o (w := y1) (R := x1.heap.size) (.int .i64 rk) (.int .i64 rn) HAC.out).trans HAs1.out, sput_2 HCs1.out (.int .i64 rk) (.int .i64 rn), HGA5.out, HGC5.out⟩
        · go_simp
          have hb := below_alloc x3 (.cells #[.int .i64 0, .int .i64 0] 72)
          have HBx4 := hide (HBx3.out.trans (hb.mono HBx3.out.size))
          have HC4 := hide (Below.blk hb HC3.out)
          have HGC4 := HGC3
          have HA4 := hide (blk_new x3 (.cells #[.int .i64 0, .int .i64 0] 72))
          have HGA4 : Hid ((W0 w).heap.size ≤ x3.heap.size) := hide HBx3.out.size
          have HACB4 : Hid (x1.heap.size < x3.heap.size) := hide (blk_lt HC3.out)
          clear hb
          refine hK.out _ _ (HSW.out _ (HSX.out _ HBx4.out)) (fun _ => ?_)
          clear hK K
          generalize x3.alloc (.cells #[.int .i64 0, .int .i64 0] 72) = x4 at *
          refine wpAnyH_ready (rs := [11]) (by kernel_rfl) (by simp) ?_
          refine AllReadyH.cons rfl (fun K hK => ?_) AllReadyH.nil
          go_simp
          refine (HY.out _ (HSX.out _ HBx4.out)).mono ?_
          rintro e x5 ⟨rfl, hb⟩
          have HBx5 := hide (HBx4.out.trans (hb.mono HBx4.out.size))
          have HA5 := hide (Below.blk hb HA4.out)
          have HGA5 := HGA4
          have HC5 := hide (Below.blk hb HC4.out)
          have HGC5 := HGC4
          have HACB5 := HACB4
          clear hb
          refine hK.out _ _ (HSW.out _ (HSX.out _ HBx5.out)) (fun _ => ?_)
          clear hK K
          have HAC : Hid (x3.heap.size ≠ x1.heap.size) := hide (by have h1 := blk_lt HA5.out; have h2 := blk_lt HC5.out; have h3 := HACB5.out; omega)
          have a0 : x5.cell? ⟨x3.heap.size, 0, none⟩ = some (.int .i64 0) := by rw [blk_cell HA5.out]; rfl
          have a1 : x5.cell? ⟨x3.heap.size, 1, none⟩ = some (.int .i64 0) := by rw [blk_cell HA5.out]; rfl
          have af : ∀ i, x5.frozen? ⟨x3.heap.size, i, none⟩ = false := blk_frozen HA5.out
          refine wpAnyH_ready (rs := [14]) (by kernel_rfl) (by simp) ?_
          refine AllReadyH.cons rfl (fun K hK => ?_) AllReadyH.nil
          go_simp
          have HBs1 := hide ((HBx5.out.setCell (p := ⟨x3.heap.size, 0, none⟩) HGA5.out (.int .i64 lk)).setCell (p := ⟨x3.heap.size, 1, none⟩) HGA5.out (.int .i64 ln))
          have HAs1 := hide (sput_2 HA5.out (.int .i64 lk) (.int .i64 ln))
          have HCs1 := hide ((sput_o (w := x5) (R := x3.heap.size) (.int .i64 lk) (.int .i64 ln) (Ne.symm HAC.out)).trans HC5.out)
          refine hK.out _ _ (HSW.out _ (HSX.out _ HBs1.out)) (fun _ => ?_)
          clear hK K a0 a1 af
          generalize (x5.setCell ⟨x3.heap.size, 0, none⟩ (.int .i64 lk)).setCell ⟨x3.heap.size, 1, none⟩ (.int .i64 ln) = y1 at *
          have a0 : y1.cell? ⟨x1.heap.size, 0, none⟩ = some (.int .i64 0) := by rw [blk_cell HCs1.out]; rfl
          have a1 : y1.cell? ⟨x1.heap.size, 1, none⟩ = some (.int .i64 0) := by rw [blk_cell HCs1.out]; rfl
          have af : ∀ i, y1.frozen? ⟨x1.heap.size, i, none⟩ = false := blk_frozen HCs1.out
          refine wpAnyH_ready (rs := [15]) (by kernel_rfl) (by simp) ?_
          refine AllReadyH.cons rfl (fun K hK => ?_) AllReadyH.nil
          go_simp
          have HBs2 := hide ((HBs1.out.setCell (p := ⟨x1.heap.size, 0, none⟩) HGC5.out (.int .i64 rk)).setCell (p := ⟨x1.heap.size, 1, none⟩) HGC5.out (.int .i64 rn))
          refine hK.out _ _ (HSW.out _ (HSX.out _ HBs2.out)) (fun _ => ?_)
          clear hK K a0 a1 af
          refine wpAnyH_done (by kernel_rfl) ?_ _
          go_wp2_with fail
          go_meet
          case rel =>
            exact ⟨x3.heap.size, x1.heap.size, rfl, rfl, HBs2.out, (sput_o (w := y1) (R := x1.heap.size) (.int .i64 rk) (.int .i64 rn) HAC.out).trans HAs1.out, sput_2 HCs1.out (.int .i64 rk) (.int .i64 rn), HGA5.out, HGC5.out⟩
      · go_simp
        have hb := below_alloc x2 (.cells #[.int .i64 0, .int .i64 0] 72)
        have HBx3 := hide (HBx2.out.trans (hb.mono HBx2.out.size))
        have HC3 := hide (Below.blk hb HC2.out)
        have HGC3 := HGC2
        have HA3 := hide (blk_new x2 (.cells #[.int .i64 0, .int .i64 0] 72))
        have HGA3 : Hid ((W0 w).heap.size ≤ x2.heap.size) := hide HBx2.out.size
        have HACB3 : Hid (x1.heap.size < x2.heap.size) := hide (blk_lt HC2.out)
        clear hb
        refine hK.out _ _ (HSW.out _ (HSX.out _ HBx3.out)) (fun _ => ?_)
        clear hK K
        generalize x2.alloc (.cells #[.int .i64 0, .int .i64 0] 72) = x3 at *
        refine wpAnyH_ready (rs := [5]) (by kernel_rfl) (by simp) ?_
        refine AllReadyH.cons rfl (fun K hK => ?_) AllReadyH.nil
        go_simp
        refine (HX.out _ (HSX.out _ HBx3.out)).mono ?_
        rintro e x4 ⟨rfl, hb⟩
        have HBx4 := hide (HBx3.out.trans (hb.mono HBx3.out.size))
        have HA4 := hide (Below.blk hb HA3.out)
        have HGA4 := HGA3
        have HC4 := hide (Below.blk hb HC3.out)
        have HGC4 := HGC3
        have HACB4 := HACB3
        clear hb
        refine hK.out _ _ (HSW.out _ (HSX.out _ HBx4.out)) (fun _ => ?_)
        clear hK K
        refine wpAnyH_ready (rs := [11]) (by kernel_rfl) (by simp) ?_
        refine AllReadyH.cons rfl (fun K hK => ?_) AllReadyH.nil
        go_simp
        refine (HY.out _ (HSX.out _ HBx4.out)).mono ?_
        rintro e x5 ⟨rfl, hb⟩
        have HBx5 := hide (HBx4.out.trans (hb.mono HBx4.out.size))
        have HA5 := hide (Below.blk hb HA4.out)
        have HGA5 := HGA4
        have HC5 := hide (Below.blk hb HC4.out)
        have HGC5 := HGC4
        have HACB5 := HACB4
        clear hb
        refine hK.out _ _ (HSW.out _ (HSX.out _ HBx5.out)) (fun _ => ?_)
        clear hK K
        have HAC : Hid (x2.heap.size ≠ x1.heap.size) := hide (by have h1 := blk_lt HA5.out; have h2 := blk_lt HC5.out; have h3 := HACB5.out; omega)
        have a0 : x5.cell? ⟨x2.heap.size, 0, none⟩ = some (.int .i64 0) := by rw [blk_cell HA5.out]; rfl
        have a1 : x5.cell? ⟨x2.heap.size, 1, none⟩ = some (.int .i64 0) := by rw [blk_cell HA5.out]; rfl
        have af : ∀ i, x5.frozen? ⟨x2.heap.size, i, none⟩ = false := blk_frozen HA5.out
        refine wpAnyH_ready (rs := [14]) (by kernel_rfl) (by simp) ?_
        refine AllReadyH.cons rfl (fun K hK => ?_) AllReadyH.nil
        go_simp
        have HBs1 := hide ((HBx5.out.setCell (p := ⟨x2.heap.size, 0, none⟩) HGA5.out (.int .i64 lk)).setCell (p := ⟨x2.heap.size, 1, none⟩) HGA5.out (.int .i64 ln))
        have HAs1 := hide (sput_2 HA5.out (.int .i64 lk) (.int .i64 ln))
        have HCs1 := hide ((sput_o (w := x5) (R := x2.heap.size) (.int .i64 lk) (.int .i64 ln) (Ne.symm HAC.out)).trans HC5.out)
        refine hK.out _ _ (HSW.out _ (HSX.out _ HBs1.out)) (fun _ => ?_)
        clear hK K a0 a1 af
        generalize (x5.setCell ⟨x2.heap.size, 0, none⟩ (.int .i64 lk)).setCell ⟨x2.heap.size, 1, none⟩ (.int .i64 ln) = y1 at *
        have a0 : y1.cell? ⟨x1.heap.size, 0, none⟩ = some (.int .i64 0) := by rw [blk_cell HCs1.out]; rfl
        have a1 : y1.cell? ⟨x1.heap.size, 1, none⟩ = some (.int .i64 0) := by rw [blk_cell HCs1.out]; rfl
        have af : ∀ i, y1.frozen? ⟨x1.heap.size, i, none⟩ = false := blk_frozen HCs1.out
        refine wpAnyH_ready (rs := [15]) (by kernel_rfl) (by simp) ?_
        refine AllReadyH.cons rfl (fun K hK => ?_) AllReadyH.nil
        go_simp
        have HBs2 := hide ((HBs1.out.setCell (p := ⟨x1.heap.size, 0, none⟩) HGC5.out (.int .i64 rk)).setCell (p := ⟨x1.heap.size, 1, none⟩) HGC5.out (.int .i64 rn))
        refine hK.out _ _ (HSW.out _ (HSX.out _ HBs2.out)) (fun _ => ?_)
        clear hK K a0 a1 af
        refine wpAnyH_done (by kernel_rfl) ?_ _
        go_wp2_with fail
        go_meet
        case rel =>
          exact ⟨x2.heap.size, x1.heap.size, rfl, rfl, HBs2.out, (sput_o (w := y1) (R := x1.heap.size) (.int .i64 rk) (.int .i64 rn) HAC.out).trans HAs1.out, sput_2 HCs1.out (.int .i64 rk) (.int .i64 rn), HGA5.out, HGC5.out⟩
  case rest =>
    obtain ⟨A, C, rfl, rfl, htm⟩ := hcut
    have HTM := hide htm
    clear htm
    have HBX := hide (Below.step HB0.out HTM.out.below)
    have HRX := hide (Below.blk HTM.out.below HR.out)
    have HB1 : Hid (Below w.heap.size w wc.drew) := hide (Below.drew HBX.out)
    have HS1 : Hid (∀ W, (∀ b, b ≠ w.heap.size → W.heap[b]? = wc.heap[b]?) → Below w.heap.size w W → W.cell? ⟨X, 6, none⟩ = some (.string op) ∧ W.cell? ⟨A, 0, none⟩ = some (.int .i64 lk) ∧ W.cell? ⟨A, 1, none⟩ = some (.int .i64 ln) ∧ W.cell? ⟨C, 0, none⟩ = some (.int .i64 rk) ∧ W.cell? ⟨C, 1, none⟩ = some (.int .i64 rn)) := fun W h hb => by
      have hA : A ≠ w.heap.size := by have h1 := HTM.out.gA; have h2 : (W0 w).heap.size = w.heap.size + 1 := (by simp); omega
      have hC : C ≠ w.heap.size := by have h1 := HTM.out.gC; have h2 : (W0 w).heap.size = w.heap.size + 1 := (by simp); omega
      refine ⟨HOP.out W hb, ?_, ?_, ?_, ?_⟩
      · rw [World.cell?_of_block (h A hA), blk_cell HTM.out.left]; rfl
      · rw [World.cell?_of_block (h A hA), blk_cell HTM.out.left]; rfl
      · rw [World.cell?_of_block (h C hC), blk_cell HTM.out.right]; rfl
      · rw [World.cell?_of_block (h C hC), blk_cell HTM.out.right]; rfl
    have HRD : Hid (wc.drew.heap[w.heap.size]? = some (.cells #[.int .i64 0, .int .i64 0] 72 (0, 0))) := HRX.out
    have HS0 : Hid (∀ b, b ≠ w.heap.size → wc.drew.heap[b]? = wc.heap[b]?) := fun b _ => rfl
    go_wp2_with fail
    refine wp_region_held_drew (S := fun W => W.cell? ⟨X, 6, none⟩ = some (.string op) ∧ W.cell? ⟨A, 0, none⟩ = some (.int .i64 lk) ∧ W.cell? ⟨A, 1, none⟩ = some (.int .i64 ln) ∧ W.cell? ⟨C, 0, none⟩ = some (.int .i64 rk) ∧ W.cell? ⟨C, 1, none⟩ = some (.int .i64 rn)) (by kernel_rfl) (HS1.out _ HS0.out HB1.out) (fun _ => ?_)
    generalize wc.drew = x1 at *
    refine wpAnyH_take (i := 0) (oi := ⟨some 80, _, _, _, _, _⟩) (v := (.pointer (some ⟨X, 0, none⟩))) rfl (by kernel_rfl) (by kernel_rfl) (by kernel_rfl) (fun _ _ _ h => h) (Or.inl ⟨by rfl, fun W hS => by (obtain ⟨s0, s1, s2, s3, s4⟩ := hS; go_simp)⟩) (HS1.out _ HS0.out HB1.out) ?_
    simp only [Act.put, List.setIfInBounds_toArray, List.set_cons_zero, List.set_cons_succ]
    refine wpAnyH_take (i := 1) (oi := ⟨some 81, _, _, _, _, _⟩) (v := (.pointer (some ⟨X, 0, none⟩))) rfl (by kernel_rfl) (by kernel_rfl) (by kernel_rfl) (fun _ _ _ h => h) (Or.inl ⟨by rfl, fun W hS => by (obtain ⟨s0, s1, s2, s3, s4⟩ := hS; go_simp)⟩) (HS1.out _ HS0.out HB1.out) ?_
    simp only [Act.put, List.setIfInBounds_toArray, List.set_cons_zero, List.set_cons_succ]
    refine wpAnyH_take (i := 2) (oi := ⟨some 82, _, _, _, _, _⟩) (v := (.pointer (some ⟨X, 6, none⟩))) rfl (by kernel_rfl) (by kernel_rfl) (by kernel_rfl) (fun _ _ _ h => h) (Or.inl ⟨by rfl, fun W hS => by (obtain ⟨s0, s1, s2, s3, s4⟩ := hS; go_simp)⟩) (HS1.out _ HS0.out HB1.out) ?_
    simp only [Act.put, List.setIfInBounds_toArray, List.set_cons_zero, List.set_cons_succ]
    refine wpAnyH_take (i := 3) (oi := ⟨some 83, _, _, _, _, _⟩) (v := (.string op)) rfl (by kernel_rfl) (by kernel_rfl) (by kernel_rfl) (fun _ _ _ h => h) (Or.inl ⟨by rfl, fun W hS => by (obtain ⟨s0, s1, s2, s3, s4⟩ := hS; go_simp)⟩) (HS1.out _ HS0.out HB1.out) ?_
    simp only [Act.put, List.setIfInBounds_toArray, List.set_cons_zero, List.set_cons_succ]
    refine wpAnyH_take (i := 4) (oi := ⟨some 84, _, _, _, _, _⟩) (v := (.pointer (some ⟨A, 0, none⟩))) rfl (by kernel_rfl) (by kernel_rfl) (by kernel_rfl) (fun _ _ _ h => h) (Or.inl ⟨by rfl, fun W hS => by (obtain ⟨s0, s1, s2, s3, s4⟩ := hS; go_simp)⟩) (HS1.out _ HS0.out HB1.out) ?_
    simp only [Act.put, List.setIfInBounds_toArray, List.set_cons_zero, List.set_cons_succ]
    refine wpAnyH_take (i := 5) (oi := ⟨some 85, _, _, _, _, _⟩) (v := (.int .i64 lk)) rfl (by kernel_rfl) (by kernel_rfl) (by kernel_rfl) (fun _ _ _ h => h) (Or.inl ⟨by rfl, fun W hS => by (obtain ⟨s0, s1, s2, s3, s4⟩ := hS; go_simp)⟩) (HS1.out _ HS0.out HB1.out) ?_
    simp only [Act.put, List.setIfInBounds_toArray, List.set_cons_zero, List.set_cons_succ]
    refine wpAnyH_take (i := 6) (oi := ⟨some 86, _, _, _, _, _⟩) (v := (.pointer (some ⟨C, 0, none⟩))) rfl (by kernel_rfl) (by kernel_rfl) (by kernel_rfl) (fun _ _ _ h => h) (Or.inl ⟨by rfl, fun W hS => by (obtain ⟨s0, s1, s2, s3, s4⟩ := hS; go_simp)⟩) (HS1.out _ HS0.out HB1.out) ?_
    simp only [Act.put, List.setIfInBounds_toArray, List.set_cons_zero, List.set_cons_succ]
    refine wpAnyH_take (i := 7) (oi := ⟨some 87, _, _, _, _, _⟩) (v := (.int .i64 rk)) rfl (by kernel_rfl) (by kernel_rfl) (by kernel_rfl) (fun _ _ _ h => h) (Or.inl ⟨by rfl, fun W hS => by (obtain ⟨s0, s1, s2, s3, s4⟩ := hS; go_simp)⟩) (HS1.out _ HS0.out HB1.out) ?_
    simp only [Act.put, List.setIfInBounds_toArray, List.set_cons_zero, List.set_cons_succ]
    refine wpAnyH_take (i := 9) (oi := ⟨some 89, _, _, _, _, _⟩) (v := (.pointer (some ⟨X, 0, none⟩))) rfl (by kernel_rfl) (by kernel_rfl) (by kernel_rfl) (fun _ _ _ h => h) (Or.inl ⟨by rfl, fun W hS => by (obtain ⟨s0, s1, s2, s3, s4⟩ := hS; go_simp)⟩) (HS1.out _ HS0.out HB1.out) ?_
    simp only [Act.put, List.setIfInBounds_toArray, List.set_cons_zero, List.set_cons_succ]
    refine wpAnyH_take (i := 10) (oi := ⟨some 90, _, _, _, _, _⟩) (v := (.pointer (some ⟨X, 0, none⟩))) rfl (by kernel_rfl) (by kernel_rfl) (by kernel_rfl) (fun _ _ _ h => h) (Or.inl ⟨by rfl, fun W hS => by (obtain ⟨s0, s1, s2, s3, s4⟩ := hS; go_simp)⟩) (HS1.out _ HS0.out HB1.out) ?_
    simp only [Act.put, List.setIfInBounds_toArray, List.set_cons_zero, List.set_cons_succ]
    refine wpAnyH_take (i := 11) (oi := ⟨some 91, _, _, _, _, _⟩) (v := (.pointer (some ⟨X, 6, none⟩))) rfl (by kernel_rfl) (by kernel_rfl) (by kernel_rfl) (fun _ _ _ h => h) (Or.inl ⟨by rfl, fun W hS => by (obtain ⟨s0, s1, s2, s3, s4⟩ := hS; go_simp)⟩) (HS1.out _ HS0.out HB1.out) ?_
    simp only [Act.put, List.setIfInBounds_toArray, List.set_cons_zero, List.set_cons_succ]
    refine wpAnyH_take (i := 12) (oi := ⟨some 92, _, _, _, _, _⟩) (v := (.string op)) rfl (by kernel_rfl) (by kernel_rfl) (by kernel_rfl) (fun _ _ _ h => h) (Or.inl ⟨by rfl, fun W hS => by (obtain ⟨s0, s1, s2, s3, s4⟩ := hS; go_simp)⟩) (HS1.out _ HS0.out HB1.out) ?_
    simp only [Act.put, List.setIfInBounds_toArray, List.set_cons_zero, List.set_cons_succ]
    refine wpAnyH_take (i := 13) (oi := ⟨some 93, _, _, _, _, _⟩) (v := (.pointer (some ⟨A, 0, none⟩))) rfl (by kernel_rfl) (by kernel_rfl) (by kernel_rfl) (fun _ _ _ h => h) (Or.inl ⟨by rfl, fun W hS => by (obtain ⟨s0, s1, s2, s3, s4⟩ := hS; go_simp)⟩) (HS1.out _ HS0.out HB1.out) ?_
    simp only [Act.put, List.setIfInBounds_toArray, List.set_cons_zero, List.set_cons_succ]
    refine wpAnyH_take (i := 14) (oi := ⟨some 94, _, _, _, _, _⟩) (v := (.int .i64 lk)) rfl (by kernel_rfl) (by kernel_rfl) (by kernel_rfl) (fun _ _ _ h => h) (Or.inl ⟨by rfl, fun W hS => by (obtain ⟨s0, s1, s2, s3, s4⟩ := hS; go_simp)⟩) (HS1.out _ HS0.out HB1.out) ?_
    simp only [Act.put, List.setIfInBounds_toArray, List.set_cons_zero, List.set_cons_succ]
    refine wpAnyH_take (i := 15) (oi := ⟨some 95, _, _, _, _, _⟩) (v := (.pointer (some ⟨A, 1, none⟩))) rfl (by kernel_rfl) (by kernel_rfl) (by kernel_rfl) (fun _ _ _ h => h) (Or.inl ⟨by rfl, fun W hS => by (obtain ⟨s0, s1, s2, s3, s4⟩ := hS; go_simp)⟩) (HS1.out _ HS0.out HB1.out) ?_
    simp only [Act.put, List.setIfInBounds_toArray, List.set_cons_zero, List.set_cons_succ]
    refine wpAnyH_take (i := 16) (oi := ⟨some 96, _, _, _, _, _⟩) (v := (.int .i64 ln)) rfl (by kernel_rfl) (by kernel_rfl) (by kernel_rfl) (fun _ _ _ h => h) (Or.inl ⟨by rfl, fun W hS => by (obtain ⟨s0, s1, s2, s3, s4⟩ := hS; go_simp)⟩) (HS1.out _ HS0.out HB1.out) ?_
    simp only [Act.put, List.setIfInBounds_toArray, List.set_cons_zero, List.set_cons_succ]
    refine wpAnyH_take (i := 17) (oi := ⟨some 97, _, _, _, _, _⟩) (v := (.pointer (some ⟨C, 1, none⟩))) rfl (by kernel_rfl) (by kernel_rfl) (by kernel_rfl) (fun _ _ _ h => h) (Or.inl ⟨by rfl, fun W hS => by (obtain ⟨s0, s1, s2, s3, s4⟩ := hS; go_simp)⟩) (HS1.out _ HS0.out HB1.out) ?_
    simp only [Act.put, List.setIfInBounds_toArray, List.set_cons_zero, List.set_cons_succ]
    refine wpAnyH_take (i := 18) (oi := ⟨some 98, _, _, _, _, _⟩) (v := (.int .i64 rn)) rfl (by kernel_rfl) (by kernel_rfl) (by kernel_rfl) (fun _ _ _ h => h) (Or.inl ⟨by rfl, fun W hS => by (obtain ⟨s0, s1, s2, s3, s4⟩ := hS; go_simp)⟩) (HS1.out _ HS0.out HB1.out) ?_
    simp only [Act.put, List.setIfInBounds_toArray, List.set_cons_zero, List.set_cons_succ]
    refine wpAnyH_ready (rs := [8]) (by kernel_rfl) (by simp) ?_
    refine AllReadyH.cons rfl (fun K hK => ?_) AllReadyH.nil
    go_simp
    refine (HRES.out _).mono ?_
    rintro e x2 ⟨rfl, hx2⟩
    obtain rfl : x1 = x2 := hx2.symm
    clear hx2
    refine hK.out _ _ (HS1.out _ HS0.out HB1.out) (fun _ => ?_)
    clear hK K
    refine wpAnyH_ready (rs := [19]) (by kernel_rfl) (by simp) ?_
    refine AllReadyH.cons rfl (fun K hK => ?_) AllReadyH.nil
    go_simp
    refine (HTWO.out _).mono ?_
    rintro e x2 ⟨rfl, hx2⟩
    obtain rfl : x1 = x2 := hx2.symm
    clear hx2
    refine hK.out _ _ (HS1.out _ HS0.out HB1.out) (fun _ => ?_)
    clear hK K
    refine wpAnyH_take (i := 20) (oi := ⟨some 100, _, _, _, _, _⟩) (v := (.agg #[.int .i64 mk, .int .i64 mn])) rfl (by kernel_rfl) (by kernel_rfl) (by kernel_rfl) (fun _ _ _ h => h) (Or.inl ⟨by rfl, fun W hS => by (obtain ⟨s0, s1, s2, s3, s4⟩ := hS; go_simp)⟩) (HS1.out _ HS0.out HB1.out) ?_
    simp only [Act.put, List.setIfInBounds_toArray, List.set_cons_zero, List.set_cons_succ]
    have r0 : x1.cell? ⟨w.heap.size, 0, none⟩ = some (.int .i64 0) := by rw [blk_cell HRD.out]; rfl
    have r1 : x1.cell? ⟨w.heap.size, 1, none⟩ = some (.int .i64 0) := by rw [blk_cell HRD.out]; rfl
    have rf : ∀ i, x1.frozen? ⟨w.heap.size, i, none⟩ = false := blk_frozen HRD.out
    refine wpAnyH_ready (rs := [21]) (by kernel_rfl) (by simp) ?_
    refine AllReadyH.cons rfl (fun K hK => ?_) AllReadyH.nil
    go_simp
    have HB3 := hide ((HB1.out.setCell (p := ⟨w.heap.size, 0, none⟩) (Nat.le_refl _) (.int .i64 mk)).setCell (p := ⟨w.heap.size, 1, none⟩) (Nat.le_refl _) (.int .i64 mn))
    have HS3 : Hid (∀ b, b ≠ w.heap.size → ((x1.setCell ⟨w.heap.size, 0, none⟩ (.int .i64 mk)).setCell ⟨w.heap.size, 1, none⟩ (.int .i64 mn)).heap[b]? = wc.heap[b]?) := fun b hb => (sput_o _ _ hb).trans (HS0.out b hb)
    refine hK.out _ _ (HS1.out _ HS3.out HB3.out) (fun _ => ?_)
    clear hK K
    refine wpAnyH_done (by kernel_rfl) ?_ _
    go_wp2_with fail
    refine bodyPost_ret (v := .agg #[.int .i64 mk, .int .i64 (mn)]) (by simp [results, Tryd.results25, go_sem, r0, r1]) rfl ⟨rfl, HB3.out⟩

theorem num_all : ∀ x : Ex, NumOK x
  | .num p n ty => sn_num p n ty
  | .name p s => sn_name p s
  | .field p s f => sn_field p s f
  | .not p x => sn_not p x (num_all x)
  | .bin p op x y => sn_bin p op x y (num_all x) (num_all y)

set_option maxRecDepth 100000 in
set_option maxHeartbeats 1600000 in
theorem sholds_at (x : Ex) (S : Nat → Prop) (w : World) (v : Value) (P V B : Nat) (dv bv : Value) (vs : Vs) (ks : Ks) (hp : Plt w P V B dv bv vs ks) (hx : IsEx S w x v) (hS : ∀ c, S c → c < w.heap.size) :
    Calls Tryd.prog 27 #[.pointer (some ⟨P, 0, none⟩), v] w fun e w' => e = .returned (.bool (holdsS vs ks x)) ∧ Below w.heap.size w w' := by
  have HN := hide (num_all x S w v P V B dv bv vs ks hp hx hS)
  clear hp hx hS
  unfold holdsS
  generalize numS vs ks x = r at *
  obtain ⟨rk, rn⟩ := r
  simp only [tyV] at *
  generalize hbn : (rn != 0) = bn at *
  have hf := sfld1
  go_enter Tryd.func27, Tryd.ntmps27
  go_wp2_with fail
  refine HN.out.mono ?_
  rintro e w1 ⟨rfl, hb⟩
  have HB := hide hb
  clear hb
  go_wp2_with fail
  go_ret
  exact ⟨rfl, HB.out⟩
end Go.Proofs.YtiimnnancblbkaaDoor
