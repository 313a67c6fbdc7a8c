/-
  CONTRACTS of errors.As at an At, and of Tell.
-/
import Derived.Test.YtgncgbngjdcpgaaGreatDoorAs0
set_option linter.unusedSimpArgs false
set_option linter.unusedVariables false
namespace Go.Proofs.YtgncgbngjdcpgaaGreatDoor
open Go.RowKit Go.Extern.Stop Go.Stop Go.Extern

set_option maxRecDepth 100000 in
set_option maxHeartbeats 8000000 in
theorem asl_at (A p : Nat) (er : Int) (t a : Addr) (old : Value) (W : World) (ha : W.cell? a = some (.pointer (some t))) (hA : W.heap[A]? = some (.cells #[.int .i64 er, .int .i64 p] 148 (0, 0))) (ht0 : W.cell? t = some old) (hf0 : W.frozen? t = false) :
    Calls Tryz.prog 111 #[.iface 140 (.pointer (some ⟨A, 0, none⟩)), .iface 130 (.pointer (some t)), .agg #[.pointer (some ⟨14, 130, none⟩), .pointer (some a), .int .u64 150], .iface 201 (.agg #[.pointer (some ⟨14, 26, none⟩)])] W fun ev w' => ev = .returned (.bool true) ∧ w' = ((W.alloc (.cells #[.pointer (some ⟨14, 130, none⟩), .pointer (some a), .int .u64 150] 179)).alloc (.cells #[.int .i64 er] 26)).setCell t (.int .i64 er) := by
  have h_108 := @run_callFunc_extern Tryz.prog 108 _ (fun args => ReflectliteValue.unpack (args.getD 0 (.tuple #[]))) Tryz.func108 (by kernel_rfl) (by kernel_rfl) (by kernel_rfl) (by kernel_rfl)
  have h_to := @run_callFunc_extern Tryz.prog 138 _ ReflectliteType.typeOf Tryz.func138 (by kernel_rfl) (by kernel_rfl) (by kernel_rfl) (by kernel_rfl)
  have h_as := @run_callFunc_extern Tryz.prog 232 _ (ReflectliteType.relation "AssignableTo" ReflectliteType.assignableTo) Tryz.func232 (by kernel_rfl) (by kernel_rfl) (by kernel_rfl) (by kernel_rfl)
  have h_ve := @run_callFunc_extern Tryz.prog 139 _ (ReflectliteValue.method (ReflectliteValue.valueError "reflectlite.Value.Elem" 0) ReflectliteValue.elem) Tryz.func139 (by kernel_rfl) (by kernel_rfl) (by kernel_rfl) (by kernel_rfl)
  have h_vs := @run_callFunc_extern Tryz.prog 140 _ ReflectliteValue.set Tryz.func140 (by kernel_rfl) (by kernel_rfl) (by kernel_rfl) (by kernel_rfl)
  have a1 := rl_typeOfA
  have a2 := rl_typeOfE
  have a3 := rl_mAssign
  have a4 := rl_assA
  have a5 := rl_assE
  have a6 := rl_valueE
  have b7 := rl_noAs
  have b8 := rl_unw
  have b9 := rl_mUnw
  have htl : t.block < W.heap.size := cell_lt ht0
  have el := rl_elemV a t (W.alloc (.cells #[.pointer (some ⟨14, 130, none⟩), .pointer (some a), .int .u64 150] 179)) (cell_alloc ha _)
  have st := rl_set t ⟨W.heap.size + 1, 0, none⟩ er old ((W.alloc (.cells #[.pointer (some ⟨14, 130, none⟩), .pointer (some a), .int .u64 150] 179)).alloc (.cells #[.int .i64 er] 26))
    (by rw [World.cell?_alloc_at _ _ _ _ (by simp)]; rfl)
    (cell_alloc (cell_alloc ht0 _) _)
    (by rw [World.frozen?_alloc_old _ _ t (by simp; omega), World.frozen?_alloc_old _ _ t (Nat.ne_of_lt htl)]; exact hf0)
  have HU := hide (unwrap_at A p er (W.alloc (.cells #[.pointer (some ⟨14, 130, none⟩), .pointer (some a), .int .u64 150] 179)) (Below.blk (below_alloc _ _) hA))
  have hqe : ∀ (w : World), (binOp .eql 32 (.iface 26 (.int .i64 er)) .nilIface).run Tryz.prog w = .ok (.bool false) w := fun _ => rfl
  clear hA ht0 hf0 ha
  go_enter Tryz.func111, Tryz.ntmps111
  go_wp2_with fail
  refine wp_loop_rounds 2 ?_
  rw [rounds_succ]
  go_wp2_with fail
  refine HU.out.mono ?_
  rintro e w3 ⟨rfl, rfl⟩
  clear HU
  go_wp2_with fail
  rw [rounds_succ]
  go_wp2_with fail
  go_ret
  exact ⟨rfl, rfl⟩

set_option maxRecDepth 100000 in
set_option maxHeartbeats 8000000 in
theorem as_at (A p : Nat) (er : Int) (t : Addr) (old : Value) (w : World) (hg : w.cell? ⟨3, 0, none⟩ = some (.iface 201 (.agg #[.pointer (some ⟨14, 32, none⟩)]))) (hA : w.heap[A]? = some (.cells #[.int .i64 er, .int .i64 p] 148 (0, 0))) (ht0 : w.cell? t = some old) (hf0 : w.frozen? t = false) :
    Calls Tryz.prog 66 #[.iface 140 (.pointer (some ⟨A, 0, none⟩)), .iface 130 (.pointer (some t))] w fun ev w' => ev = .returned (.bool true) ∧ w' = ((((w.alloc (.cells #[.pointer (some t)] 130)).alloc (.cells #[.pointer (some ⟨14, 130, none⟩), .pointer (some ⟨w.heap.size, 0, none⟩), .int .u64 150] 179)).alloc (.cells #[.pointer (some ⟨14, 130, none⟩), .pointer (some ⟨w.heap.size, 0, none⟩), .int .u64 150] 179)).alloc (.cells #[.int .i64 er] 26)).setCell t (.int .i64 er) := by
  have h_108 := @run_callFunc_extern Tryz.prog 108 _ (fun args => ReflectliteValue.unpack (args.getD 0 (.tuple #[]))) Tryz.func108 (by kernel_rfl) (by kernel_rfl) (by kernel_rfl) (by kernel_rfl)
  have h_109 := @run_callFunc_extern Tryz.prog 109 _ (ReflectliteValue.methodAny (ReflectliteValue.valueError "reflectlite.Value.Type" 0) (fun t _ _ _ => ReflectliteType.toType t)) Tryz.func109 (by kernel_rfl) (by kernel_rfl) (by kernel_rfl) (by kernel_rfl)
  have h_110 := @run_callFunc_extern Tryz.prog 110 _ (ReflectliteValue.method (ReflectliteValue.valueError "reflectlite.Value.IsNil" 0) ReflectliteValue.isNil) Tryz.func110 (by kernel_rfl) (by kernel_rfl) (by kernel_rfl) (by kernel_rfl)
  have h_k := @run_callFunc_extern Tryz.prog 221 _ (ReflectliteType.abiMethod fun t => do pure (.int .u8 (← Rtype.kind t))) Tryz.func221 (by kernel_rfl) (by kernel_rfl) (by kernel_rfl) (by kernel_rfl)
  have h_el := @run_callFunc_extern Tryz.prog 234 _ (ReflectliteType.method ReflectliteType.elem) Tryz.func234 (by kernel_rfl) (by kernel_rfl) (by kernel_rfl) (by kernel_rfl)
  have h_im := @run_callFunc_extern Tryz.prog 235 _ (ReflectliteType.relation "Implements" ReflectliteType.implements_) Tryz.func235 (by kernel_rfl) (by kernel_rfl) (by kernel_rfl) (by kernel_rfl)
  have h_to := @run_callFunc_extern Tryz.prog 138 _ ReflectliteType.typeOf Tryz.func138 (by kernel_rfl) (by kernel_rfl) (by kernel_rfl) (by kernel_rfl)
  have h_as := @run_callFunc_extern Tryz.prog 232 _ (ReflectliteType.relation "AssignableTo" ReflectliteType.assignableTo) Tryz.func232 (by kernel_rfl) (by kernel_rfl) (by kernel_rfl) (by kernel_rfl)
  have h_ve := @run_callFunc_extern Tryz.prog 139 _ (ReflectliteValue.method (ReflectliteValue.valueError "reflectlite.Value.Elem" 0) ReflectliteValue.elem) Tryz.func139 (by kernel_rfl) (by kernel_rfl) (by kernel_rfl) (by kernel_rfl)
  have h_vs := @run_callFunc_extern Tryz.prog 140 _ ReflectliteValue.set Tryz.func140 (by kernel_rfl) (by kernel_rfl) (by kernel_rfl) (by kernel_rfl)
  have a1 := rl_typeOfA
  have a2 := rl_typeOfE
  have a3 := rl_mAssign
  have a4 := rl_assA
  have a5 := rl_assE
  have a6 := rl_valueE
  have a7 := rl_valueOf
  have a8 := rl_type
  have a9 := rl_mKind
  have b1 := rl_mElem
  have b2 := rl_mImpl
  have b3 := rl_kindP
  have b4 := rl_kindE
  have b5 := rl_elem
  have b6 := rl_impl
  have b7 := rl_noAs
  have b8 := rl_unw
  have b9 := rl_mUnw
  have n8 := rl_isNil ⟨w.heap.size, 0, none⟩ t ((w.alloc (.cells #[.pointer (some t)] 130)).alloc (.cells #[.pointer (some ⟨14, 130, none⟩), .pointer (some ⟨w.heap.size, 0, none⟩), .int .u64 150] 179)) (by simp)
  have hlt : 3 < w.heap.size := cell_lt hg
  have hg2 : ((w.alloc (.cells #[.pointer (some t)] 130)).alloc (.cells #[.pointer (some ⟨14, 130, none⟩), .pointer (some ⟨w.heap.size, 0, none⟩), .int .u64 150] 179)).cell? ⟨3, 0, none⟩ = some (.iface 201 (.agg #[.pointer (some ⟨14, 32, none⟩)])) := cell_alloc (cell_alloc hg _) _
  have htl : t.block < w.heap.size := cell_lt ht0
  have HAS := hide (asl_at A p er t ⟨w.heap.size, 0, none⟩ old ((w.alloc (.cells #[.pointer (some t)] 130)).alloc (.cells #[.pointer (some ⟨14, 130, none⟩), .pointer (some ⟨w.heap.size, 0, none⟩), .int .u64 150] 179)) (by rw [World.cell?_alloc_lt _ _ ⟨w.heap.size, 0, none⟩ (by simp)]; simp) (Below.blk (below_alloc _ _) (Below.blk (below_alloc _ _) hA)) (cell_alloc (cell_alloc ht0 _) _) (by rw [World.frozen?_alloc_old _ _ t (by simp; omega), World.frozen?_alloc_old _ _ t (Nat.ne_of_lt htl)]; exact hf0))
  clear hA hg ht0 hf0 a1 a2 a3 a4 a5 a6 b7 b8 b9 h_to h_as h_ve h_vs
  go_enter Tryz.func66, Tryz.ntmps66
  go_wp2_with fail
  refine HAS.out.mono ?_
  rintro e w3 ⟨rfl, rfl⟩
  clear HAS
  go_wp2_with fail
  go_ret
  exact ⟨rfl, rfl⟩

set_option maxRecDepth 100000 in
set_option maxHeartbeats 3200000 in
theorem tell_nil (w : World) : Calls Tryz.prog 28 #[.nilIface] w fun e w' => e = .returned (.int .i64 0) ∧ w' = w := by
  go_enter Tryz.func28, Tryz.ntmps28
  go_wp2_with fail
  go_ret
  exact ⟨rfl, rfl⟩

set_option maxRecDepth 100000 in
set_option maxHeartbeats 3200000 in
theorem tell_at (A p : Nat) (er : Int) (w : World) (hg : w.cell? ⟨3, 0, none⟩ = some (.iface 201 (.agg #[.pointer (some ⟨14, 32, none⟩)]))) (hA : w.heap[A]? = some (.cells #[.int .i64 er, .int .i64 p] 148 (0, 0))) :
    Calls Tryz.prog 28 #[.iface 140 (.pointer (some ⟨A, 0, none⟩))] w fun e w' => e = .returned (.int .i64 er) ∧ Below w.heap.size w w' := by
  have hb := below_alloc w (.cells #[.int .i64 0] 26)
  have hn := blk_new w (.cells #[.int .i64 0] 26)
  have HAS := hide (as_at A p er ⟨w.heap.size, 0, none⟩ (.int .i64 0) (w.alloc (.cells #[.int .i64 0] 26)) (cell_alloc hg _) (Below.blk hb hA) (by rw [blk_cell hn]; rfl) (blk_frozen hn 0))
  have HB := hide hb
  have HN := hide hn
  have hqe : ∀ (v : Value) (w : World), (binOp .eql 32 (.iface 140 v) .nilIface).run Tryz.prog w = .ok (.bool false) w := fun _ _ => rfl
  clear hb hn hA hg
  go_enter Tryz.func28, Tryz.ntmps28
  go_wp2_with fail
  refine HAS.out.mono ?_
  rintro e w3 ⟨rfl, rfl⟩
  clear HAS
  have HB4 := hide ((((HB.out.alloc (by simp) (.cells #[.pointer (some ⟨w.heap.size, 0, none⟩)] 130)).alloc (by simp; omega) (.cells #[.pointer (some ⟨14, 130, none⟩), .pointer (some ⟨(w.alloc (.cells #[.int .i64 0] 26)).heap.size, 0, none⟩), .int .u64 150] 179)).alloc (by simp; omega) (.cells #[.pointer (some ⟨14, 130, none⟩), .pointer (some ⟨(w.alloc (.cells #[.int .i64 0] 26)).heap.size, 0, none⟩), .int .u64 150] 179)).alloc (by simp; omega) (.cells #[.int .i64 er] 26))
  have HN4 := hide (Below.blk (below_alloc _ (.cells #[.int .i64 er] 26)) (Below.blk (below_alloc _ (.cells #[.pointer (some ⟨14, 130, none⟩), .pointer (some ⟨(w.alloc (.cells #[.int .i64 0] 26)).heap.size, 0, none⟩), .int .u64 150] 179)) (Below.blk (below_alloc _ (.cells #[.pointer (some ⟨14, 130, none⟩), .pointer (some ⟨(w.alloc (.cells #[.int .i64 0] 26)).heap.size, 0, none⟩), .int .u64 150] 179)) (Below.blk (below_alloc _ (.cells #[.pointer (some ⟨w.heap.size, 0, none⟩)] 130)) HN.out))))
  generalize (((((w.alloc (.cells #[.int .i64 0] 26)).alloc (.cells #[.pointer (some ⟨w.heap.size, 0, none⟩)] 130)).alloc (.cells #[.pointer (some ⟨14, 130, none⟩), .pointer (some ⟨(w.alloc (.cells #[.int .i64 0] 26)).heap.size, 0, none⟩), .int .u64 150] 179)).alloc (.cells #[.pointer (some ⟨14, 130, none⟩), .pointer (some ⟨(w.alloc (.cells #[.int .i64 0] 26)).heap.size, 0, none⟩), .int .u64 150] 179)).alloc (.cells #[.int .i64 er] 26)) = w5 at *
  have c0 : (w5.setCell ⟨w.heap.size, 0, none⟩ (.int .i64 er)).cell? ⟨w.heap.size, 0, none⟩ = some (.int .i64 er) := by rw [blk_cell (blk_set HN4.out 0 _)]; rfl
  go_wp2_with fail
  go_ret
  exact ⟨rfl, HB4.out.setCell (Nat.le_refl _) _⟩
end Go.Proofs.YtgncgbngjdcpgaaGreatDoor
