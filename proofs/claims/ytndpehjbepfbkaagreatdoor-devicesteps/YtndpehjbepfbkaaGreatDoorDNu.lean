/-
  CONTRACT of a device's numbers.
-/
import Derived.Test.YtndpehjbepfbkaaGreatDoorDBt
set_option linter.unusedSimpArgs false
set_option linter.unusedVariables false
namespace Go.Proofs.YtndpehjbepfbkaaGreatDoor
open Go.RowKit

theorem made_ints (n : Nat) : madeCells #[Value.int .i64 0] n = (intsC (List.replicate n 0)).toArray := by
  apply Array.ext_getElem?
  intro j
  by_cases hj : j < n
  · simp [madeCells, hj, Nat.mod_one, intsC]
  · simp [madeCells, hj, intsC]
theorem mk_ints (n : Nat) (hn : n ≤ 20000) (w : World) : (Instr.makeSlice 22 (.int .i64 n) (.int .i64 n)).run Tryz.prog w = .ok (.slice (some ⟨w.heap.size, 0, none⟩) n n) (w.alloc (.cells (intsC (List.replicate n 0)).toArray 3)) := by
  obtain ⟨i, hi, hz, hs, hby⟩ := info_in
  have h := run_make (P := Tryz.prog) w 22 3 i _ (by kernel_rfl) hi hz .i64 .i64 n n (by omega) (Int.le_refl _) (by rw [hby]; omega) (by omega)
  rw [Int.toNat_natCast, hs, Nat.mul_one] at h
  rw [show (Value.int .i64 0).cells = #[Value.int .i64 0] from rfl, made_ints] at h
  exact h
theorem ints_set (l : List Int) (k : Nat) (b : Int) : (intsC l).toArray.setIfInBounds k (.int .i64 b) = (intsC (l.set k b)).toArray := by
  simp [intsC, List.map_set]
theorem ints_cell {w : World} {b : Nat} {l : List Int} {t : TypeId} {z : Nat × Nat} (h : w.heap[b]? = some (.cells (intsC l).toArray t z)) {i : Nat} (hi : i < l.length) : w.cell? ⟨b, i, none⟩ = some (.int .i64 (outAt l i)) := by
  rw [blk_cell h]; simp [intsC, outAt, hi]

/-- the first few of a row of bits -/
theorem slice_head (va : Option Addr) (m vc k : Nat) (hk : k ≤ vc) (W : World) : (Instr.sliceAt 47 (.slice va m vc) none (some (.int .i64 k)) none).run Tryz.prog W = .ok (.slice va k vc) W := by
  have hu : Tryz.prog.underlying 47 = some (.slice (Tryz.prog.elem 47)) := by kernel_rfl
  have hs : ∀ W, (sizeOf (Tryz.prog.elem 47)).run Tryz.prog W = .ok 1 W := fun W => by kernel_rfl
  rw [run_sliceAt_slice (h := hu), run_slice_h (ht := hu) (h0 := Int.natCast_nonneg _) (h2 := by omega), hs]
  have ha : va.map (·.add (0 * 1)) = va := by cases va <;> simp [Addr.add]
  simp only [Result.andThen, sliced, ha, ite_self, Int.toNat_natCast, Nat.sub_zero]
/-- the rest of a row of bits -/
theorem slice_tail {S : Nat → Prop} {w : World} {l : List Bool} {va : Option Addr} {m vc : Nat} (h : Lies S w va (bitsC l)) (hm : l.length = m) (hmc : m ≤ vc) (k : Nat) (hk : k ≤ m) :
    ∃ va', (∀ W : World, (Instr.sliceAt 47 (.slice va m vc) (some (.int .i64 k)) none none).run Tryz.prog W = .ok (.slice va' (m - k) (vc - k)) W) ∧ Lies S w va' (bitsC (l.drop k)) := by
  have hu : Tryz.prog.underlying 47 = some (.slice (Tryz.prog.elem 47)) := by kernel_rfl
  have hs : ∀ W, (sizeOf (Tryz.prog.elem 47)).run Tryz.prog W = .ok 1 W := fun W => by kernel_rfl
  refine ⟨if vc = k then va else va.map (·.add (k * 1)), fun W => ?_, ?_⟩
  · rw [run_sliceAt_slice (h := hu), run_slice_l (ht := hu) (h0 := Int.natCast_nonneg _) (h1 := by omega), hs]
    simp only [Result.andThen, sliced, Int.toNat_natCast]
  · by_cases e : vc = k
    · left
      have : l.drop k = [] := List.drop_eq_nil_of_le (by omega)
      rw [this]; rfl
    · rw [if_neg e]
      rcases h with h | ⟨b, off, rfl, h2, h3⟩
      · left
        have : l = [] := by simpa [bitsC] using h
        subst this; simp [bitsC]
      · right
        refine ⟨b, off + k, ?_, h2, fun i u hu => ?_⟩
        · simp only [Option.map_some, Nat.mul_one]
          rw [Addr.add_lit]
        · have := h3 (k + i) u (by
            rw [← hu]; simp [bitsC, List.getElem?_drop])
          rw [show off + k + i = off + (k + i) by omega]; exact this

set_option maxRecDepth 100000 in
set_option maxHeartbeats 6400000 in
theorem dnums_at {D : Nat} {s : NetQ} {S T : Nat → Prop} {w : World} {gn : Nat} {rs : List Rg} {ls : List Lt} {os : List Int} {held : List Bool} {ins outs : List Int} (h : DevAt D s S w gn rs ls os held ins outs) (bs : List Bool) (va : Option Addr) (m vc : Nat) (hbl : bs.length = m) (hm : m = wideTo outs outs.length) (hmc : m ≤ vc) (hv : Lies T w va (bitsC bs)) (hol : outs.length ≤ 10000) :
    Calls Tryz.prog 23 #[.pointer (some ⟨D, 0, none⟩), .slice va m vc] w fun e w' => (∃ O, e = .returned (.slice (some ⟨O, 0, none⟩) outs.length outs.length) ∧ w.heap.size ≤ O ∧ w'.heap[O]? = some (.cells (intsC (nums outs bs)).toArray 3 (0, 0))) ∧ Below w.heap.size w w' := by
  obtain ⟨ia, ic, oa, oc, h1, h2, h3⟩ := h.me
  have HO := hide h3
  have HV : Hid (Lies (fun b => b < w.heap.size) w va (bitsC bs)) := hide (hv.imp fun b hl _ => hl)
  have m2 : w.cell? ⟨D, 2, none⟩ = some (.slice oa outs.length oc) := by rw [blk_cell h1]; rfl
  have m2a := fun o => cell_alloc m2 o
  have hmk := mk_ints outs.length (by omega)
  have HB := hide (below_alloc w (.cells (intsC (List.replicate outs.length 0)).toArray 3))
  have HN := hide (blk_new w (.cells (intsC (List.replicate outs.length 0)).toArray 3))
  have hmb : m ≤ 80000 := by have := wideTo_le outs outs.length; omega
  clear h h1 h2 h3 hv
  have HM := hide hm
  have HBL := hide hbl
  clear hm hbl
  have hsl := fun (va : Option Addr) (m vc k : Nat) (hk : k ≤ vc) (W : World) => slice_head va m vc k hk W
  go_enter Tryz.func23, Tryz.ntmps23
  go_wp2_with fail
  clear m2 m2a hmk
  have HSL := hide hsl
  clear hsl
  go_loopw [1, 20] (fun v i wr => ∃ (j : Nat) (va' : Option Addr) (m' vc' : Nat), j ≤ outs.length ∧ i = .int .i64 j ∧ v = .slice va' m' vc' ∧ m' ≤ vc' ∧ m' ≤ 80000 ∧ Hid (m' + wideTo outs j = m) ∧ Hid (Lies (fun b => b < w.heap.size) wr va' (bitsC (bs.drop (wideTo outs j)))) ∧ Hid (Below w.heap.size w wr) ∧ Hid (wr.heap[w.heap.size]? = some (.cells (intsC (rowN (numAt outs bs) outs.length j)).toArray 3 (0, 0)))) (fun _ i _ => outs.length - (intOf i).toNat)
  case atStart => exact ⟨0, va, m, vc, Nat.zero_le _, rfl, rfl, hmc, hmb, hide rfl, hide (HV.out.below HB.out), HB, hide (by rw [rowN_zero]; exact HN.out)⟩
  case round =>
    obtain ⟨j, va', m', vc', hj, rfl, rfl, hmc', hmb', hmj, hlv, hb, hro⟩ := hrel
    by_cases hlt : j < outs.length
    · have hj1 : (j : Int) < (outs.length : Int) := by omega
      obtain ⟨b, off, ha, _, _, q0⟩ := (HO.out.below hb.out).ints (i := j) hlt
      have HA := hide ha
      rw [HA.out]
      have HWS : Hid (wideTo outs (j + 1) = wideTo outs j + wid (outAt outs j)) := hide rfl
      have HNA : Hid (numAt outs bs j = (ofTo (bs.drop (wideTo outs j)) (wid (outAt outs j)) : Nat)) := hide rfl
      have hwm : wid (outAt outs j) ≤ m' := by
        have h1 := wideTo_mono outs (show j + 1 ≤ outs.length by omega)
        have h2 := hmj.out
        have h3 := HM.out
        rw [HWS.out] at h1
        omega
      have HDL : Hid ((bs.drop (wideTo outs j)).length = m') := hide (by rw [List.length_drop, HBL.out]; have := hmj.out; omega)
      have hwl := wid_le (outAt outs j)
      have HC := hide (width_any (outAt outs j) wr)
      have HST := hide (rowN_set (numAt outs bs) outs.length j)
      have HDD : Hid (bs.drop (wideTo outs (j + 1)) = (bs.drop (wideTo outs j)).drop (wid (outAt outs j))) := hide (by rw [HWS.out, List.drop_drop])
      generalize outAt outs j = kd at *
      generalize wid kd = wd at *
      obtain ⟨va2, hs2, hl2⟩ := slice_tail hlv.out HDL.out hmc' wd hwm
      have hs1 := HSL.out va' m' vc' wd (by omega)
      have HOF := hide (fun W (hW : Below wr.heap.size wr W) => vof_at (bs.drop (wideTo outs j)) va' wd vc' W (hlv.out.below hW) (by rw [HDL.out]; exact hwm) (by omega))
      have HL2 := hide hl2
      generalize numAt outs bs j = nv at *
      rw [← HNA.out] at HOF
      have mo : wr.cell? ⟨w.heap.size, j, none⟩ = some (.int .i64 (outAt (rowN (numAt outs bs) outs.length j) j)) := ints_cell hro.out (by rw [rowN_len]; exact hlt)
      have mz : wr.frozen? ⟨w.heap.size, j, none⟩ = false := blk_frozen hro.out j
      generalize outAt (rowN (numAt outs bs) outs.length j) j = ov at *
      generalize rowN (numAt outs bs) outs.length j = r1 at *
      clear ha hl2 hlv
      go_wp2_with fail
      refine HC.out.mono ?_
      rintro e w1 ⟨rfl, rfl⟩
      clear HC q0
      go_wp2_with fail
      have HC2 := hide (HOF.out _ (Below.refl _ _))
      have HC3 := hide (HOF.out _ (Below.refl _ _).drew)
      clear HOF
      go_region_with (first | (go_at_call 44; first | (refine HC3.out.mono ?_; rintro e w' ⟨rfl, rfl⟩) | (refine HC2.out.mono ?_; rintro e w' ⟨rfl, rfl⟩)))
      all_goals
        clear mo mz HC2 HC3 hs1 hs2
        go_wp2_with fail
        refine ⟨⟨j + 1, va2, m' - wd, vc' - wd, by omega, by go_num, rfl, by omega, by omega, hide (by have := hmj.out; have := HWS.out; omega), hide ?_, hide (hb.out.setCell (Nat.le_refl _) _).drew, hide ?_⟩, by simp [intOf]; omega⟩
        · rw [HDD.out]
          exact HL2.out.same fun b hs hl => Below.heap_setCell w1 ⟨w.heap.size, j, none⟩ _ b (by show b ≠ w.heap.size; have : b < w.heap.size := hs; omega)
        · rw [← HST.out, ← ints_set]; exact blk_set hro.out j _
    · have HRO : Hid (wr.heap[w.heap.size]? = some (.cells (intsC (nums outs bs)).toArray 3 (0, 0))) := hide (by
        have e : j = outs.length := by omega
        have := hro.out
        rw [e, rowN_all] at this
        exact this)
      clear hro
      go_wp2_with fail
      go_ret
      exact ⟨⟨w.heap.size, rfl, Nat.le_refl _, HRO.out⟩, hb.out⟩
end Go.Proofs.YtndpehjbepfbkaaGreatDoor
