/-
  CONTRACTS of errors.As at an At, and of Tell.
  CONTRACTS of plain.Place and of is: an error taken apart, and held against a fault.
-/
import Derived.Test.YtlbgdoajaplabaaGreatDoorAs0
set_option linter.unusedSimpArgs false
set_option linter.unusedVariables false
namespace Go.Proofs.YtlbgdoajaplabaaGreatDoor
open Go.RowKit Go.Extern.Stop Go.Stop Go.Extern

set_option maxRecDepth 100000 in
set_option maxHeartbeats 8000000 in
theorem asl_at (A p : Nat) (er : Int) (t a : Addr) (old : Value) (W : World) (ha : W.cell? a = some (.pointer (some t))) (hA : W.heap[A]? = some (.cells #[.int .i64 er, .int .i64 p] 102 (0, 0))) (ht0 : W.cell? t = some old) (hf0 : W.frozen? t = false) :
    Calls Tryz.prog 98 #[.iface 93 (.pointer (some ⟨A, 0, none⟩)), .iface 134 (.pointer (some t)), .agg #[.pointer (some ⟨14, 134, none⟩), .pointer (some a), .int .u64 150], .iface 163 (.agg #[.pointer (some ⟨14, 26, none⟩)])] W fun ev w' => ev = .returned (.bool true) ∧ w' = ((W.alloc (.cells #[.pointer (some ⟨14, 134, none⟩), .pointer (some a), .int .u64 150] 147)).alloc (.cells #[.int .i64 er] 26)).setCell t (.int .i64 er) := by
  have h_108 := @run_callFunc_extern Tryz.prog 95 _ (fun args => ReflectliteValue.unpack (args.getD 0 (.tuple #[]))) Tryz.func95 (by kernel_rfl) (by kernel_rfl) (by kernel_rfl) (by kernel_rfl)
  have h_to := @run_callFunc_extern Tryz.prog 112 _ ReflectliteType.typeOf Tryz.func112 (by kernel_rfl) (by kernel_rfl) (by kernel_rfl) (by kernel_rfl)
  have h_as := @run_callFunc_extern Tryz.prog 175 _ (ReflectliteType.relation "AssignableTo" ReflectliteType.assignableTo) Tryz.func175 (by kernel_rfl) (by kernel_rfl) (by kernel_rfl) (by kernel_rfl)
  have h_ve := @run_callFunc_extern Tryz.prog 113 _ (ReflectliteValue.method (ReflectliteValue.valueError "reflectlite.Value.Elem" 0) ReflectliteValue.elem) Tryz.func113 (by kernel_rfl) (by kernel_rfl) (by kernel_rfl) (by kernel_rfl)
  have h_vs := @run_callFunc_extern Tryz.prog 114 _ ReflectliteValue.set Tryz.func114 (by kernel_rfl) (by kernel_rfl) (by kernel_rfl) (by kernel_rfl)
  have a1 := rl_typeOfA
  have a2 := rl_typeOfE
  have a3 := rl_mAssign
  have a4 := rl_assA
  have a5 := rl_assE
  have a6 := rl_valueE
  have b7 := rl_noAs
  have b8 := rl_unw
  have b9 := rl_mUnw
  have htl : t.block < W.heap.size := cell_lt ht0
  have el := rl_elemV a t (W.alloc (.cells #[.pointer (some ⟨14, 134, none⟩), .pointer (some a), .int .u64 150] 147)) (cell_alloc ha _)
  have st := rl_set t ⟨W.heap.size + 1, 0, none⟩ er old ((W.alloc (.cells #[.pointer (some ⟨14, 134, none⟩), .pointer (some a), .int .u64 150] 147)).alloc (.cells #[.int .i64 er] 26))
    (by rw [World.cell?_alloc_at _ _ _ _ (by simp)]; rfl)
    (cell_alloc (cell_alloc ht0 _) _)
    (by rw [World.frozen?_alloc_old _ _ t (by simp; omega), World.frozen?_alloc_old _ _ t (Nat.ne_of_lt htl)]; exact hf0)
  have HU := hide (unwrap_at A p er (W.alloc (.cells #[.pointer (some ⟨14, 134, none⟩), .pointer (some a), .int .u64 150] 147)) (Below.blk (below_alloc _ _) hA))
  have hqe : ∀ (w : World), (binOp .eql 32 (.iface 26 (.int .i64 er)) .nilIface).run Tryz.prog w = .ok (.bool false) w := fun _ => rfl
  clear hA ht0 hf0 ha
  go_enter Tryz.func98, Tryz.ntmps98
  go_wp2_with fail
  refine wp_loop_rounds 2 ?_
  rw [rounds_succ]
  go_wp2_with fail
  refine HU.out.mono ?_
  rintro e w3 ⟨rfl, rfl⟩
  clear HU
  go_wp2_with fail
  rw [rounds_succ]
  go_wp2_with fail
  go_ret
  exact ⟨rfl, rfl⟩

set_option maxRecDepth 100000 in
set_option maxHeartbeats 8000000 in
theorem as_at (A p : Nat) (er : Int) (t : Addr) (old : Value) (w : World) (hg : w.cell? ⟨5, 0, none⟩ = some (.iface 163 (.agg #[.pointer (some ⟨14, 32, none⟩)]))) (hA : w.heap[A]? = some (.cells #[.int .i64 er, .int .i64 p] 102 (0, 0))) (ht0 : w.cell? t = some old) (hf0 : w.frozen? t = false) :
    Calls Tryz.prog 77 #[.iface 93 (.pointer (some ⟨A, 0, none⟩)), .iface 134 (.pointer (some t))] w fun ev w' => ev = .returned (.bool true) ∧ w' = ((((w.alloc (.cells #[.pointer (some t)] 134)).alloc (.cells #[.pointer (some ⟨14, 134, none⟩), .pointer (some ⟨w.heap.size, 0, none⟩), .int .u64 150] 147)).alloc (.cells #[.pointer (some ⟨14, 134, none⟩), .pointer (some ⟨w.heap.size, 0, none⟩), .int .u64 150] 147)).alloc (.cells #[.int .i64 er] 26)).setCell t (.int .i64 er) := by
  have h_108 := @run_callFunc_extern Tryz.prog 95 _ (fun args => ReflectliteValue.unpack (args.getD 0 (.tuple #[]))) Tryz.func95 (by kernel_rfl) (by kernel_rfl) (by kernel_rfl) (by kernel_rfl)
  have h_109 := @run_callFunc_extern Tryz.prog 96 _ (ReflectliteValue.methodAny (ReflectliteValue.valueError "reflectlite.Value.Type" 0) (fun t _ _ _ => ReflectliteType.toType t)) Tryz.func96 (by kernel_rfl) (by kernel_rfl) (by kernel_rfl) (by kernel_rfl)
  have h_110 := @run_callFunc_extern Tryz.prog 97 _ (ReflectliteValue.method (ReflectliteValue.valueError "reflectlite.Value.IsNil" 0) ReflectliteValue.isNil) Tryz.func97 (by kernel_rfl) (by kernel_rfl) (by kernel_rfl) (by kernel_rfl)
  have h_k := @run_callFunc_extern Tryz.prog 164 _ (ReflectliteType.abiMethod fun t => do pure (.int .u8 (← Rtype.kind t))) Tryz.func164 (by kernel_rfl) (by kernel_rfl) (by kernel_rfl) (by kernel_rfl)
  have h_el := @run_callFunc_extern Tryz.prog 177 _ (ReflectliteType.method ReflectliteType.elem) Tryz.func177 (by kernel_rfl) (by kernel_rfl) (by kernel_rfl) (by kernel_rfl)
  have h_im := @run_callFunc_extern Tryz.prog 178 _ (ReflectliteType.relation "Implements" ReflectliteType.implements_) Tryz.func178 (by kernel_rfl) (by kernel_rfl) (by kernel_rfl) (by kernel_rfl)
  have h_to := @run_callFunc_extern Tryz.prog 112 _ ReflectliteType.typeOf Tryz.func112 (by kernel_rfl) (by kernel_rfl) (by kernel_rfl) (by kernel_rfl)
  have h_as := @run_callFunc_extern Tryz.prog 175 _ (ReflectliteType.relation "AssignableTo" ReflectliteType.assignableTo) Tryz.func175 (by kernel_rfl) (by kernel_rfl) (by kernel_rfl) (by kernel_rfl)
  have h_ve := @run_callFunc_extern Tryz.prog 113 _ (ReflectliteValue.method (ReflectliteValue.valueError "reflectlite.Value.Elem" 0) ReflectliteValue.elem) Tryz.func113 (by kernel_rfl) (by kernel_rfl) (by kernel_rfl) (by kernel_rfl)
  have h_vs := @run_callFunc_extern Tryz.prog 114 _ ReflectliteValue.set Tryz.func114 (by kernel_rfl) (by kernel_rfl) (by kernel_rfl) (by kernel_rfl)
  have a1 := rl_typeOfA
  have a2 := rl_typeOfE
  have a3 := rl_mAssign
  have a4 := rl_assA
  have a5 := rl_assE
  have a6 := rl_valueE
  have a7 := rl_valueOf
  have a8 := rl_type
  have a9 := rl_mKind
  have b1 := rl_mElem
  have b2 := rl_mImpl
  have b3 := rl_kindP
  have b4 := rl_kindE
  have b5 := rl_elem
  have b6 := rl_impl
  have b7 := rl_noAs
  have b8 := rl_unw
  have b9 := rl_mUnw
  have n8 := rl_isNil ⟨w.heap.size, 0, none⟩ t ((w.alloc (.cells #[.pointer (some t)] 134)).alloc (.cells #[.pointer (some ⟨14, 134, none⟩), .pointer (some ⟨w.heap.size, 0, none⟩), .int .u64 150] 147)) (by simp)
  have hlt : 5 < w.heap.size := cell_lt hg
  have hg2 : ((w.alloc (.cells #[.pointer (some t)] 134)).alloc (.cells #[.pointer (some ⟨14, 134, none⟩), .pointer (some ⟨w.heap.size, 0, none⟩), .int .u64 150] 147)).cell? ⟨5, 0, none⟩ = some (.iface 163 (.agg #[.pointer (some ⟨14, 32, none⟩)])) := cell_alloc (cell_alloc hg _) _
  have htl : t.block < w.heap.size := cell_lt ht0
  have HAS := hide (asl_at A p er t ⟨w.heap.size, 0, none⟩ old ((w.alloc (.cells #[.pointer (some t)] 134)).alloc (.cells #[.pointer (some ⟨14, 134, none⟩), .pointer (some ⟨w.heap.size, 0, none⟩), .int .u64 150] 147)) (by rw [World.cell?_alloc_lt _ _ ⟨w.heap.size, 0, none⟩ (by simp)]; simp) (Below.blk (below_alloc _ _) (Below.blk (below_alloc _ _) hA)) (cell_alloc (cell_alloc ht0 _) _) (by rw [World.frozen?_alloc_old _ _ t (by simp; omega), World.frozen?_alloc_old _ _ t (Nat.ne_of_lt htl)]; exact hf0))
  clear hA hg ht0 hf0 a1 a2 a3 a4 a5 a6 b7 b8 b9 h_to h_as h_ve h_vs
  go_enter Tryz.func77, Tryz.ntmps77
  go_wp2_with fail
  refine HAS.out.mono ?_
  rintro e w3 ⟨rfl, rfl⟩
  clear HAS
  go_wp2_with fail
  go_ret
  exact ⟨rfl, rfl⟩

set_option maxRecDepth 100000 in
set_option maxHeartbeats 3200000 in
theorem tell_nil (w : World) : Calls Tryz.prog 51 #[.nilIface] w fun e w' => e = .returned (.int .i64 0) ∧ w' = w := by
  go_enter Tryz.func51, Tryz.ntmps51
  go_wp2_with fail
  go_ret
  exact ⟨rfl, rfl⟩

set_option maxRecDepth 100000 in
set_option maxHeartbeats 3200000 in
theorem tell_at (A p : Nat) (er : Int) (w : World) (hg : w.cell? ⟨5, 0, none⟩ = some (.iface 163 (.agg #[.pointer (some ⟨14, 32, none⟩)]))) (hA : w.heap[A]? = some (.cells #[.int .i64 er, .int .i64 p] 102 (0, 0))) :
    Calls Tryz.prog 51 #[.iface 93 (.pointer (some ⟨A, 0, none⟩))] w fun e w' => e = .returned (.int .i64 er) ∧ Below w.heap.size w w' := by
  have hb := below_alloc w (.cells #[.int .i64 0] 26)
  have hn := blk_new w (.cells #[.int .i64 0] 26)
  have HAS := hide (as_at A p er ⟨w.heap.size, 0, none⟩ (.int .i64 0) (w.alloc (.cells #[.int .i64 0] 26)) (cell_alloc hg _) (Below.blk hb hA) (by rw [blk_cell hn]; rfl) (blk_frozen hn 0))
  have HB := hide hb
  have HN := hide hn
  have hqe : ∀ (v : Value) (w : World), (binOp .eql 32 (.iface 93 v) .nilIface).run Tryz.prog w = .ok (.bool false) w := fun _ _ => rfl
  clear hb hn hA hg
  go_enter Tryz.func51, Tryz.ntmps51
  go_wp2_with fail
  refine HAS.out.mono ?_
  rintro e w3 ⟨rfl, rfl⟩
  clear HAS
  have HB4 := hide ((((HB.out.alloc (by simp) (.cells #[.pointer (some ⟨w.heap.size, 0, none⟩)] 134)).alloc (by simp; omega) (.cells #[.pointer (some ⟨14, 134, none⟩), .pointer (some ⟨(w.alloc (.cells #[.int .i64 0] 26)).heap.size, 0, none⟩), .int .u64 150] 147)).alloc (by simp; omega) (.cells #[.pointer (some ⟨14, 134, none⟩), .pointer (some ⟨(w.alloc (.cells #[.int .i64 0] 26)).heap.size, 0, none⟩), .int .u64 150] 147)).alloc (by simp; omega) (.cells #[.int .i64 er] 26))
  have HN4 := hide (Below.blk (below_alloc _ (.cells #[.int .i64 er] 26)) (Below.blk (below_alloc _ (.cells #[.pointer (some ⟨14, 134, none⟩), .pointer (some ⟨(w.alloc (.cells #[.int .i64 0] 26)).heap.size, 0, none⟩), .int .u64 150] 147)) (Below.blk (below_alloc _ (.cells #[.pointer (some ⟨14, 134, none⟩), .pointer (some ⟨(w.alloc (.cells #[.int .i64 0] 26)).heap.size, 0, none⟩), .int .u64 150] 147)) (Below.blk (below_alloc _ (.cells #[.pointer (some ⟨w.heap.size, 0, none⟩)] 134)) HN.out))))
  generalize (((((w.alloc (.cells #[.int .i64 0] 26)).alloc (.cells #[.pointer (some ⟨w.heap.size, 0, none⟩)] 134)).alloc (.cells #[.pointer (some ⟨14, 134, none⟩), .pointer (some ⟨(w.alloc (.cells #[.int .i64 0] 26)).heap.size, 0, none⟩), .int .u64 150] 147)).alloc (.cells #[.pointer (some ⟨14, 134, none⟩), .pointer (some ⟨(w.alloc (.cells #[.int .i64 0] 26)).heap.size, 0, none⟩), .int .u64 150] 147)).alloc (.cells #[.int .i64 er] 26)) = w5 at *
  have c0 : (w5.setCell ⟨w.heap.size, 0, none⟩ (.int .i64 er)).cell? ⟨w.heap.size, 0, none⟩ = some (.int .i64 er) := by rw [blk_cell (blk_set HN4.out 0 _)]; rfl
  go_wp2_with fail
  go_ret
  exact ⟨rfl, HB4.out.setCell (Nat.le_refl _) _⟩
end Go.Proofs.YtlbgdoajaplabaaGreatDoor
namespace Go.Proofs.YtlbgdoajaplabaaGreatDoor
open Go.RowKit
set_option linter.unusedSimpArgs false
set_option linter.unusedVariables false

set_option maxRecDepth 100000 in
set_option maxHeartbeats 3200000 in
theorem place_nil (w : World) : Calls Tryz.prog 23 #[.nilIface] w fun e w' => e = .returned (.tuple #[.int .i64 0, .int .i64 (-1)]) ∧ w' = w := by
  have HT := hide (tell_nil w)
  go_enter Tryz.func23, Tryz.ntmps23
  go_wp2_with fail
  refine HT.out.mono ?_
  rintro e w1 ⟨rfl, rfl⟩
  clear HT
  go_wp2_with fail
  go_loopw [0, 5, 6, 7, 8] (fun v _ _ _ _ wr => v = .nilIface ∧ wr = w1) (fun _ _ _ _ _ _ => 0)
  case atStart => exact ⟨rfl, rfl⟩
  case round =>
    obtain ⟨rfl, rfl⟩ := hrel
    go_wp2_with fail
    go_ret2
    exact ⟨rfl, rfl⟩

set_option maxRecDepth 100000 in
set_option maxHeartbeats 3200000 in
theorem place_at (A p : Nat) (er : Int) (w : World) (hg : w.cell? ⟨5, 0, none⟩ = some (.iface 163 (.agg #[.pointer (some ⟨14, 32, none⟩)]))) (hA : w.heap[A]? = some (.cells #[.int .i64 er, .int .i64 p] 102 (0, 0))) :
    Calls Tryz.prog 23 #[.iface 93 (.pointer (some ⟨A, 0, none⟩))] w fun e w' => e = .returned (.tuple #[.int .i64 er, .int .i64 p]) ∧ Below w.heap.size w w' := by
  have HT := hide (tell_at A p er w hg hA)
  have HA := hide hA
  have hta : ∀ w : World, (Instr.typeAssert (.iface 93 (.pointer (some ⟨A, 0, none⟩))) 32 93 true).run Tryz.prog w = .ok (.tuple #[.pointer (some ⟨A, 0, none⟩), .bool true]) w := fun w => by kernel_rfl
  have hqe : ∀ (v : Value) (w : World), (binOp .neq 32 (.iface 93 v) .nilIface).run Tryz.prog w = .ok (.bool true) w := fun _ _ => rfl
  clear hg hA
  go_enter Tryz.func23, Tryz.ntmps23
  go_wp2_with fail
  refine HT.out.mono ?_
  rintro e w1 ⟨rfl, hb⟩
  have HB := hide hb
  have a1 : w1.cell? ⟨A, 1, none⟩ = some (.int .i64 p) := by rw [blk_cell (Below.blk hb HA.out)]; rfl
  clear hb HT
  go_wp2_with fail
  go_loopw [0, 5, 6, 7, 8] (fun v _ _ _ _ wr => v = .iface 93 (.pointer (some ⟨A, 0, none⟩)) ∧ wr = w1) (fun _ _ _ _ _ _ => 0)
  case atStart => exact ⟨rfl, rfl⟩
  case round =>
    obtain ⟨rfl, rfl⟩ := hrel
    go_wp2_with fail
    go_region
    go_wp2_with fail
    go_ret2
    exact ⟨rfl, HB.out.drew⟩

set_option maxRecDepth 100000 in
set_option maxHeartbeats 3200000 in
/-- an error is this one, and there: of what Place tells -/
theorem is_of (err : Value) (er pl a b : Int) (w : World) (hp : ∀ W, Below w.heap.size w W → Calls Tryz.prog 23 #[err] W fun e w' => e = .returned (.tuple #[.int .i64 er, .int .i64 pl]) ∧ Below W.heap.size W w') :
    Calls Tryz.prog 6 #[err, .agg #[.int .i64 a, .int .i64 b]] w fun e w' => e = .returned (.bool (er == a && pl == b)) ∧ Below w.heap.size w w' := by
  have hb0 := below_alloc w (.cells #[.int .i64 a, .int .i64 b] 28)
  have hn0 := blk_new w (.cells #[.int .i64 a, .int .i64 b] 28)
  have HP := hide (hp _ hb0)
  have HB0 := hide hb0
  have HN0 := hide hn0
  by_cases h : er = a
  · have e1 : (er == a && pl == b) = (pl == b) := by rw [h]; simp
    rw [e1]
    clear hb0 hn0 hp e1
    go_enter Tryz.func6, Tryz.ntmps6
    go_wp2_with fail
    refine HP.out.mono ?_
    rintro e w1 ⟨rfl, hb⟩
    have HB := hide (Below.step HB0.out hb)
    have c0 : w1.cell? ⟨w.heap.size, 0, none⟩ = some (.int .i64 a) := by rw [blk_cell (Below.blk hb HN0.out)]; rfl
    have c1 : w1.cell? ⟨w.heap.size, 1, none⟩ = some (.int .i64 b) := by rw [blk_cell (Below.blk hb HN0.out)]; rfl
    clear hb
    go_wp2_with fail
    go_ret
    exact ⟨rfl, HB.out⟩
  · have h2 : (er == a) = false := by rw [beq_eq_false_iff_ne]; exact h
    rw [h2, Bool.false_and]
    clear hb0 hn0 hp
    go_enter Tryz.func6, Tryz.ntmps6
    go_wp2_with fail
    refine HP.out.mono ?_
    rintro e w1 ⟨rfl, hb⟩
    have HB := hide (Below.step HB0.out hb)
    have c0 : w1.cell? ⟨w.heap.size, 0, none⟩ = some (.int .i64 a) := by rw [blk_cell (Below.blk hb HN0.out)]; rfl
    have c1 : w1.cell? ⟨w.heap.size, 1, none⟩ = some (.int .i64 b) := by rw [blk_cell (Below.blk hb HN0.out)]; rfl
    clear hb
    go_wp2_with fail
    go_ret
    exact ⟨rfl, HB.out⟩
theorem is_nil (a b : Int) (w : World) : Calls Tryz.prog 6 #[.nilIface, .agg #[.int .i64 a, .int .i64 b]] w fun e w' => e = .returned (.bool ((0 : Int) == a && (-1 : Int) == b)) ∧ Below w.heap.size w w' :=
  is_of .nilIface 0 (-1) a b w fun W _ => (place_nil W).mono fun _ _ h => ⟨h.1, by rw [h.2]; exact Below.refl _ _⟩
theorem is_at (A p : Nat) (er a b : Int) (w : World) (hg : w.cell? ⟨5, 0, none⟩ = some (.iface 163 (.agg #[.pointer (some ⟨14, 32, none⟩)]))) (hA : w.heap[A]? = some (.cells #[.int .i64 er, .int .i64 p] 102 (0, 0))) :
    Calls Tryz.prog 6 #[.iface 93 (.pointer (some ⟨A, 0, none⟩)), .agg #[.int .i64 a, .int .i64 b]] w fun e w' => e = .returned (.bool (er == a && (p : Int) == b)) ∧ Below w.heap.size w w' :=
  is_of _ er p a b w fun W hb => place_at A p er W ((World.cell?_of_block (hb.block _ (cell_lt hg))).trans hg) (Below.blk hb hA)
end Go.Proofs.YtlbgdoajaplabaaGreatDoor
