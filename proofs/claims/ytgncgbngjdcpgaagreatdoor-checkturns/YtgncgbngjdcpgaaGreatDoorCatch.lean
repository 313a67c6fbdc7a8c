/-
  CONTRACTS of the deferred catch in whole: what was thrown becomes the error; where nothing was, nothing is done.
-/
import Derived.Defers
import Derived.Recover
import Derived.Test.YtgncgbngjdcpgaaGreatDoorMem
namespace Go.Proofs.YtgncgbngjdcpgaaGreatDoor
open Go.RowKit

theorem assert_at (a : Option Addr) (w : World) : (Instr.typeAssert (.iface 140 (.pointer a)) 20 140 true).run Tryz.prog w = .ok (.tuple #[.pointer a, .bool true]) w := by kernel_rfl

set_option maxRecDepth 100000 in
set_option maxHeartbeats 3200000 in
theorem catch_thrown (E A : Nat) (w : World) (u : Value) (hc : w.cell? ⟨E, 0, none⟩ = some u) (hz : w.frozen? ⟨E, 0, none⟩ = false) :
    CallsD Tryz.prog 79 #[.pointer (some ⟨E, 0, none⟩)] (.panicking [{ v := .iface 140 (.pointer (some ⟨A, 0, none⟩)), recovered := false }]) w fun e u' w' =>
      e = .returned (.tuple #[]) ∧ u' = .panicking [{ v := .iface 140 (.pointer (some ⟨A, 0, none⟩)), recovered := true }] ∧ w' = w.setCell ⟨E, 0, none⟩ (.iface 140 (.pointer (some ⟨A, 0, none⟩))) := by
  have hta := assert_at
  have hnot : ∀ (x : Bool) (w : World), (Op.unary .not (.bool x)).run Tryz.prog w = .ok (.bool (!x)) w := fun _ _ => rfl
  refine callsD_of_wpS Tryz.func79 rfl fun c₀ cs hu => ?_
  apply wpS_seq
  apply wpS_region
  simp [wpOpsS, go_sem, recoverD, hu, Tryz.ntmps79, Exit.thenS]
  have hst : (#[Value.pointer (some ⟨E, 0, none⟩)] ++ ((Array.replicate 16 undef).setIfInBounds 3 (.iface 140 (.pointer (some ⟨A, 0, none⟩)))).setIfInBounds 0 (.iface 140 (.pointer (some ⟨A, 0, none⟩)))) = #[.pointer (some ⟨E, 0, none⟩), .iface 140 (.pointer (some ⟨A, 0, none⟩)), undef, undef, .iface 140 (.pointer (some ⟨A, 0, none⟩)), undef, undef, undef, undef, undef, undef, undef, undef, undef, undef, undef, undef] := rfl
  rw [hst]
  clear hst
  refine wpS_of_wp ?_
  have hq1 : ∀ (t : TypeId) (x : Value) (w : World), (binOp .eql 20 (.iface t x) .nilIface).run Tryz.prog w = .ok (.bool false) w := fun _ _ _ => rfl
  have hq2 : ∀ (w : World), (binOp .eql 20 .nilIface .nilIface).run Tryz.prog w = .ok (.bool true) w := fun _ => rfl
  go_wp2_with fail
  simp [bodyPostS, results, Tryz.results79]

set_option maxRecDepth 100000 in
set_option maxHeartbeats 3200000 in
theorem catch_idle (E : Nat) (w : World) :
    CallsD Tryz.prog 79 #[.pointer (some ⟨E, 0, none⟩)] .returning w fun e u' w' => e = .returned (.tuple #[]) ∧ u' = .returning ∧ w' = w := by
  refine callsD_of_wpS Tryz.func79 rfl fun c₀ cs hu => ?_
  apply wpS_seq
  apply wpS_region
  simp [wpOpsS, go_sem, recoverD, hu, Tryz.ntmps79, Exit.thenS]
  have hst : (#[Value.pointer (some ⟨E, 0, none⟩)] ++ ((Array.replicate 16 undef).setIfInBounds 3 (.nilIface)).setIfInBounds 0 (.nilIface)) = #[.pointer (some ⟨E, 0, none⟩), .nilIface, undef, undef, .nilIface, undef, undef, undef, undef, undef, undef, undef, undef, undef, undef, undef, undef] := rfl
  rw [hst]
  clear hst
  refine wpS_of_wp ?_
  have hq1 : ∀ (t : TypeId) (x : Value) (w : World), (binOp .eql 20 (.iface t x) .nilIface).run Tryz.prog w = .ok (.bool false) w := fun _ _ _ => rfl
  have hq2 : ∀ (w : World), (binOp .eql 20 .nilIface .nilIface).run Tryz.prog w = .ok (.bool true) w := fun _ => rfl
  go_wp2_with fail
  cases c₀
  simp_all [bodyPostS, results, Tryz.results79]
end Go.Proofs.YtgncgbngjdcpgaaGreatDoor
