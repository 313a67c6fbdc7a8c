/-
  CONTRACTS of pick at any number, of the closure in CheckTurns, of slices.IndexFunc and slices.ContainsFunc at it.
-/
import Derived.Test.YtgncgbngjdcpgaaGreatDoorRight
set_option linter.unusedSimpArgs false
set_option linter.unusedVariables false
namespace Go.Proofs.YtgncgbngjdcpgaaGreatDoor
open Go.RowKit

set_option maxRecDepth 100000 in
set_option maxHeartbeats 1600000 in
theorem pick_n (a : Int) (n : Nat) (h0 : 0 < n) (hn : n ≤ 30) (w : World) :
    Calls Tryz.prog 27 #[.int .i64 a, .int .i64 n] w fun e w' => (∃ k : Nat, k < n ∧ e = .returned (.int .i64 (k : Nat))) ∧ w' = w := by
  have hw : IntKind.wrap .u64 (n : Int) = (n : Int) := by rw [IntKind.wrap_u64]; omega
  have hz : (n : Int) ≠ 0 := by omega
  go_enter Tryz.func27, Tryz.ntmps27
  go_wp2_with fail
  go_ret
  have h1 : (IntKind.wrap .u64 a).tmod (n : Int) = (IntKind.wrap .u64 a) % (n : Int) := Int.tmod_eq_emod_of_nonneg (by rw [IntKind.wrap_u64]; omega)
  have h2 := Int.emod_nonneg (IntKind.wrap .u64 a) hz
  have h3 := Int.emod_lt_of_pos (IntKind.wrap .u64 a) (show (0 : Int) < (n : Int) by omega)
  rw [h1]
  generalize (IntKind.wrap .u64 a) % (n : Int) = x at *
  refine ⟨⟨x.toNat, by omega, ret_int ?_⟩, rfl⟩
  unfold wrap64
  omega

set_option maxRecDepth 100000 in
set_option maxHeartbeats 1600000 in
theorem same_at (d : De) (P : Nat) (nm : ByteArray) (w : World) (hp : w.heap[P]? = some (.cells #[.string nm] 9 (0, 0))) :
    Calls Tryz.prog 30 #[deV d, .pointer (some ⟨P, 0, none⟩)] w fun e w' => e = .returned (.bool (d.name.toList == nm.toList)) ∧ Below w.heap.size w w' := by
  obtain ⟨dn, way, ty, init⟩ := d
  have hb := below_alloc w (.cells #[.string dn, .int .i64 way, .int .i64 ty, .int .i64 init] 60)
  have c3 : (w.alloc (.cells #[.string dn, .int .i64 way, .int .i64 ty, .int .i64 init] 60)).cell? ⟨P, 0, none⟩ = some (.string nm) := by rw [blk_cell (Below.blk hb hp)]; rfl
  have HB := hide hb
  clear hb
  go_enter Tryz.func30, Tryz.ntmps30
  go_wp2_with fail
  go_ret
  exact ⟨rfl, HB.out⟩

set_option maxRecDepth 100000 in
set_option maxHeartbeats 3200000 in
theorem index_at (ds : List De) (hl : ds.length ≤ 30) (S : Nat → Prop) (P : Nat) (nm : ByteArray) (w : World) (v : Value) (hd : IsDes S w ds v) (hp : w.heap[P]? = some (.cells #[.string nm] 9 (0, 0))) :
    Calls Tryz.prog 67 #[v, .func (.func 30) #[] #[.pointer (some ⟨P, 0, none⟩)]] w fun e w' => (∃ i : Int, e = .returned (.int .i64 i) ∧ (0 ≤ i ↔ (ds.any fun d => d.name.toList == nm.toList) = true)) ∧ Below w.heap.size w w' := by
  obtain ⟨ao, cap, rfl⟩ := hd.val
  have HD := hide hd
  have HP := hide hp
  clear hd hp
  go_enter Tryz.func67, Tryz.ntmps67
  go_wp2_with fail
  go_loopw [5, 8] (fun _ i wr => ∃ j : Nat, j ≤ ds.length ∧ i = .int .i64 j ∧ Hid (Below w.heap.size w wr) ∧ Hid (((ds.take j).any fun d => d.name.toList == nm.toList) = false)) (fun _ i _ => ds.length - (intOf i).toNat)
  case atStart => exact ⟨0, Nat.zero_le _, rfl, hide (Below.refl _ _), hide (by simp)⟩
  case round =>
    obtain ⟨j, hj, rfl, hb, hno⟩ := hrel
    by_cases hlt : j < ds.length
    · have hji : (j : Int) < (ds.length : Int) := by omega
      obtain ⟨g, cap', hv, hSg⟩ := de_addr HD.out (by omega)
      obtain ⟨rfl, rfl⟩ : ao = some ⟨g, 0, none⟩ ∧ cap = cap' := by cases hv; exact ⟨rfl, rfl⟩
      have HDW : Hid (IsDes S wr ds (.slice (some ⟨g, 0, none⟩) ds.length cap)) := hide (IsRow.same HD.out fun c h1 h2 => hb.out.block c h2)
      have r0 : wr.cell? ⟨g, j * 4, none⟩ = some (.string ds[j].name) := de_cell HDW.out rfl hlt (k := 0) rfl (by decide)
      have r1 : wr.cell? ⟨g, j * 4 + 1, none⟩ = some (.int .i64 ds[j].way) := de_cell HDW.out rfl hlt (k := 1) rfl (by decide)
      have r2 : wr.cell? ⟨g, j * 4 + 2, none⟩ = some (.int .i64 ds[j].ty) := de_cell HDW.out rfl hlt (k := 2) rfl (by decide)
      have r3 : wr.cell? ⟨g, j * 4 + 3, none⟩ = some (.int .i64 ds[j].init) := de_cell HDW.out rfl hlt (k := 3) rfl (by decide)
      have HTK : Hid (((ds.take (j + 1)).any fun d => d.name.toList == nm.toList) = (ds[j].name.toList == nm.toList)) := hide (by rw [List.take_succ_eq_append_getElem hlt, List.any_append, hno.out]; simp)
      have HAN : Hid ((ds[j].name.toList == nm.toList) = true → (ds.any fun d => d.name.toList == nm.toList) = true) := hide (fun h => List.any_eq_true.2 ⟨_, List.getElem_mem hlt, h⟩)
      have HC := hide (same_at ds[j] P nm wr (Below.blk hb.out HP.out))
      generalize ds[j] = d at *
      obtain ⟨dn, way, ty, init⟩ := d
      simp only at r0 r1 r2 r3
      clear hv
      go_wp2_with fail
      refine HC.out.mono ?_
      rintro e w4 ⟨rfl, hb4⟩
      have HB4 := hide (Below.step hb.out hb4)
      clear hb4 HC r0 r1 r2 r3
      dsimp only at HTK HAN ⊢
      cases hq : (dn.toList == nm.toList) with
      | true =>
        have HA := hide (HAN.out hq)
        clear hq
        go_wp2_with fail
        go_ret
        exact ⟨⟨(j : Int), rfl, iff_of_true (by omega) HA.out⟩, HB4.out⟩
      | false =>
        have HA := hide (HTK.out.trans hq)
        clear hq
        go_wp2_with fail
        exact ⟨⟨j + 1, by omega, by go_num, HB4, HA⟩, by simp [intOf]; omega⟩
    · have HJ : Hid (j = ds.length) := (by omega : j = ds.length)
      have HA : Hid ((ds.any fun d => d.name.toList == nm.toList) = false) := hide (by have := hno.out; rwa [HJ.out, List.take_length] at this)
      go_wp2_with fail
      go_ret
      exact ⟨⟨-1, rfl, iff_of_false (by decide) (by rw [HA.out]; decide)⟩, hb.out⟩

set_option maxRecDepth 100000 in
set_option maxHeartbeats 3200000 in
theorem contains_at (ds : List De) (hl : ds.length ≤ 30) (S : Nat → Prop) (P : Nat) (nm : ByteArray) (w : World) (v : Value) (hd : IsDes S w ds v) (hp : w.heap[P]? = some (.cells #[.string nm] 9 (0, 0))) :
    Calls Tryz.prog 29 #[v, .func (.func 30) #[] #[.pointer (some ⟨P, 0, none⟩)]] w fun e w' => e = .returned (.bool (ds.any fun d => d.name.toList == nm.toList)) ∧ Below w.heap.size w w' := by
  have HI := hide (index_at ds hl S P nm w v hd hp)
  clear hd hp
  go_enter Tryz.func29, Tryz.ntmps29
  go_wp2_with fail
  refine HI.out.mono ?_
  rintro e w1 ⟨⟨i, rfl, hi⟩, hb⟩
  have HB := hide hb
  have HQ : Hid (decide ((0 : Int) ≤ i) = (ds.any fun d => d.name.toList == nm.toList)) := hide (by
    cases hq : (ds.any fun d => d.name.toList == nm.toList) with
    | true => exact decide_eq_true (hi.2 hq)
    | false => exact decide_eq_false (fun h => by rw [hi.1 h] at hq; cases hq))
  clear hb hi
  go_wp2_with fail
  go_ret
  refine ⟨?_, HB.out⟩
  show Ending.returned (.bool (decide ((0 : Int) ≤ i))) = _
  rw [HQ.out]
end Go.Proofs.YtgncgbngjdcpgaaGreatDoor
