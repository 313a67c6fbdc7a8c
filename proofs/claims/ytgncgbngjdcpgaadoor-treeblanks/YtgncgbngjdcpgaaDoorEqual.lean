/-
  CONTRACT of slices.Equal at declarations: two rows of the same.
-/
import Derived.Laws.StructEq
import Derived.Test.YtgncgbngjdcpgaaDoorPrint
set_option linter.unusedSimpArgs false
set_option linter.unusedVariables false
namespace Go.Proofs.YtgncgbngjdcpgaaDoor
open Go.RowKit

theorem neq_same (nm : ByteArray) (a b c : Int) (w : World) : (binOp .neq 34 (.agg #[.string nm, .int .i64 a, .int .i64 b, .int .i64 c]) (.agg #[.string nm, .int .i64 a, .int .i64 b, .int .i64 c])).run Tryd.prog w = .ok (.bool false) w := by
  have h9 := Tryd.underlying9
  have h3 := Tryd.underlying3
  rw [run_neq_struct, run_equalIn_struct w 9999 34 _ _ (by kernel_rfl) (by kernel_rfl)]
  simp [Op.eqFields, Program.fieldsOf, Tryd.underlying34, go_sem, run_equalIn_string, run_equalIn_int, h9, h3]

set_option maxRecDepth 100000 in
set_option maxHeartbeats 3200000 in
theorem equal_at (l : List De) (hl : l.length ≤ 20) (S S' : Nat → Prop) (w : World) (u v : Value) (hu : IsDes S w l u) (hv : IsDes S' w l v) :
    Calls Tryd.prog 8 #[u, v] w fun e w' => e = .returned (.bool true) ∧ Below w.heap.size w w' := by
  obtain ⟨ua, uc, rfl⟩ := hu.val
  obtain ⟨va, vc, rfl⟩ := hv.val
  have HU := hide hu
  have HV := hide hv
  clear hu hv
  go_enter Tryd.func8, Tryd.ntmps8
  go_wp2_with fail
  go_loopw [5, 13] (fun _ i wr => ∃ j : Nat, j ≤ l.length ∧ i = .int .i64 j ∧ Hid (∃ n, wr = w.drewN n)) (fun _ i _ => l.length - (intOf i).toNat)
  case atStart => exact ⟨0, Nat.zero_le _, rfl, hide ⟨0, rfl⟩⟩
  case round =>
    obtain ⟨j, hj, rfl, hn⟩ := hrel
    obtain ⟨n, rfl⟩ := hn.out
    by_cases hlt : j < l.length
    · have hji : (j : Int) < (l.length : Int) := by omega
      obtain ⟨g, cap', hv1, hSg⟩ := IsRow.addr HU.out (by omega)
      obtain ⟨rfl, rfl⟩ : ua = some ⟨g, 0, none⟩ ∧ uc = cap' := by cases hv1; exact ⟨rfl, rfl⟩
      obtain ⟨g', cap', hv2, hSg'⟩ := IsRow.addr HV.out (by omega)
      obtain ⟨rfl, rfl⟩ : va = some ⟨g', 0, none⟩ ∧ vc = cap' := by cases hv2; exact ⟨rfl, rfl⟩
      have r0 : w.cell? ⟨g, j * 4, none⟩ = some (.string l[j].name) := HU.out.cell rfl hlt (k := 0) rfl (by decide)
      have r1 : w.cell? ⟨g, j * 4 + 1, none⟩ = some (.int .i64 l[j].way) := HU.out.cell rfl hlt (k := 1) rfl (by decide)
      have r2 : w.cell? ⟨g, j * 4 + 2, none⟩ = some (.int .i64 l[j].ty) := HU.out.cell rfl hlt (k := 2) rfl (by decide)
      have r3 : w.cell? ⟨g, j * 4 + 3, none⟩ = some (.int .i64 l[j].init) := HU.out.cell rfl hlt (k := 3) rfl (by decide)
      have q0 : w.cell? ⟨g', j * 4, none⟩ = some (.string l[j].name) := HV.out.cell rfl hlt (k := 0) rfl (by decide)
      have q1 : w.cell? ⟨g', j * 4 + 1, none⟩ = some (.int .i64 l[j].way) := HV.out.cell rfl hlt (k := 1) rfl (by decide)
      have q2 : w.cell? ⟨g', j * 4 + 2, none⟩ = some (.int .i64 l[j].ty) := HV.out.cell rfl hlt (k := 2) rfl (by decide)
      have q3 : w.cell? ⟨g', j * 4 + 3, none⟩ = some (.int .i64 l[j].init) := HV.out.cell rfl hlt (k := 3) rfl (by decide)
      generalize l[j] = d at *
      obtain ⟨nm, way, ty, init⟩ := d
      simp only at r0 r1 r2 r3 q0 q1 q2 q3
      have hq := fun w => neq_same nm way ty init w
      clear hv1 hv2
      go_wp2_with fail
      go_quiet (fail)
      go_wp2_with fail
      exact ⟨⟨j + 1, by omega, by go_num, hide ⟨_, rfl⟩⟩, by simp [intOf]; omega⟩
    · go_wp2_with fail
      go_ret
      exact ⟨rfl, below_drewN w n⟩
end Go.Proofs.YtgncgbngjdcpgaaDoor
