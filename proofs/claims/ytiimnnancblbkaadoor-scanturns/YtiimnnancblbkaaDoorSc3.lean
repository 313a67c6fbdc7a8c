/-
  CONTRACTS of a plant's set, declare, call.
-/
import Derived.Test.YtiimnnancblbkaaDoorSc2
import Derived.Test.YtiimnnancblbkaaDoorRow
set_option linter.unusedSimpArgs false
set_option linter.unusedVariables false
namespace Go.Proofs.YtiimnnancblbkaaDoor
open Go.RowKit

/-- nothing turns but the two maps -/
structure KM (V B : Nat) (w w' : World) : Prop where
  os : w'.os = w.os
  tape : w'.tape = w.tape
  output : w'.output = w.output
  size : w.heap.size ≤ w'.heap.size
  block : ∀ k, k < w.heap.size → k ≠ V → k ≠ B → w'.heap[k]? = w.heap[k]?
theorem KM.refl (V B : Nat) (w : World) : KM V B w w := ⟨rfl, rfl, rfl, Nat.le_refl _, fun _ _ _ _ => rfl⟩
theorem KM.trans {V B : Nat} {a b c : World} (h : KM V B a b) (k : KM V B b c) : KM V B a c :=
  ⟨k.os.trans h.os, k.tape.trans h.tape, k.output.trans h.output, Nat.le_trans h.size k.size, fun i hi h1 h2 => (k.block i (Nat.lt_of_lt_of_le hi h.size) h1 h2).trans (h.block i hi h1 h2)⟩
theorem KM.of {V B : Nat} {w w' : World} (h : Below w.heap.size w w') : KM V B w w' := ⟨h.os, h.tape, h.output, h.size, fun k hk _ _ => h.block k hk⟩
theorem KM.below {V B N : Nat} {w w' : World} (h : KM V B w w') (hN : N ≤ w.heap.size) (hV : N ≤ V) (hB : N ≤ B) : Below N w w' := ⟨h.os, h.tape, h.output, h.size, fun k hk => h.block k (by omega) (by omega) (by omega)⟩
theorem KM.put {V B : Nat} {w w' : World} (h : KM V B w w') (M : Nat) (hM : M = V ∨ M = B) (o : Obj) : KM V B w (putObj w' M o) :=
  ⟨h.os, h.tape, h.output, by simp [putObj]; exact h.size, fun k hk h1 h2 => (putObj_other (by rcases hM with e | e <;> omega)).trans (h.block k hk h1 h2)⟩
theorem KM.blk {V B : Nat} {w w' : World} (h : KM V B w w') {k : Nat} {o : Obj} (hk : w.heap[k]? = some o) (h1 : k ≠ V) (h2 : k ≠ B) : w'.heap[k]? = some o := (h.block k (blk_lt hk) h1 h2).trans hk
theorem Plt.pV {w : World} {P V B : Nat} {dv bv : Value} {vs : Vs} {ks : Ks} (h : Plt w P V B dv bv vs ks) : P ≠ V := fun e => by
  have h1 := h.me; have h2 : w.heap[V]? = _ := h.vals; rw [e, h2] at h1; cases h1
theorem Plt.pB {w : World} {P V B : Nat} {dv bv : Value} {vs : Vs} {ks : Ks} (h : Plt w P V B dv bv vs ks) : P ≠ B := fun e => by
  have h1 := h.me; have h2 : w.heap[B]? = _ := h.blks; rw [e, h2] at h1; cases h1
theorem Plt.putV {w : World} {P V B : Nat} {dv bv : Value} {vs vs' : Vs} {ks : Ks} (h : Plt w P V B dv bv vs ks) : Plt (putObj w V (.map (mes tyV 0 vs').toArray vs'.length)) P V B dv bv vs' ks :=
  ⟨(putObj_other h.pV).trans h.me, putObj_same (blk_lt (show w.heap[V]? = some _ from h.vals)), (putObj_other (Ne.symm h.ne)).trans h.blks, h.ne⟩
theorem Plt.putB {w : World} {P V B : Nat} {dv bv : Value} {vs : Vs} {ks ks' : Ks} (h : Plt w P V B dv bv vs ks) : Plt (putObj w B (.map (mes bkV 0 ks').toArray ks'.length)) P V B dv bv vs ks' :=
  ⟨(putObj_other h.pB).trans h.me, (putObj_other h.ne).trans h.vals, putObj_same (blk_lt (show w.heap[B]? = some _ from h.blks)), h.ne⟩

set_option maxRecDepth 100000 in
set_option maxHeartbeats 3200000 in
theorem sset_at (s : ByteArray) (n : Int) (w : World) (P V B : Nat) (dv bv : Value) (vs : Vs) (ks : Ks) (hp : Plt w P V B dv bv vs ks) :
    Calls Tryd.prog 23 #[.pointer (some ⟨P, 0, none⟩), .string s, .int .i64 n] w fun e w' => e = .returned (.tuple #[]) ∧ Plt w' P V B dv bv (putA vs s ((getA vs s ty0).1, n)) ks ∧ KM V B w w' := by
  have hpd : Plt w.drew P V B dv bv vs ks := hp.of (Below.refl _ _).drew
  have HPT := hide (Plt.putV (vs' := putA vs s ((getA vs s ty0).1, n)) hpd)
  have HKM : Hid (KM V B w (putObj w.drew V (.map (mes tyV 0 (putA vs s ((getA vs s ty0).1, n))).toArray (putA vs s ((getA vs s ty0).1, n)).length))) := (KM.of (Below.refl _ _).drew).put V (.inl rfl) _
  have p2 : w.drew.cell? ⟨P, 2, none⟩ = some (.map (some V)) := by rw [blk_cell hpd.me]; rfl
  have lk := look_ty hpd.vals s
  have up := upd_ty hpd.vals s ((getA vs s ty0).1, n)
  generalize putA vs s ((getA vs s ty0).1, n) = vs2 at *
  generalize (Obj.map (mes tyV 0 vs2).toArray vs2.length) = ob at *
  generalize getA vs s ty0 = r at *
  obtain ⟨rk, rn⟩ := r
  simp only [tyV] at lk up
  have hf := sfld0
  clear hp hpd
  go_enter Tryd.func23, Tryd.ntmps23
  go_wp2_with fail
  go_region
  go_wp2_with fail
  go_end0
  exact ⟨rfl, HPT.out, HKM.out⟩

set_option maxRecDepth 100000 in
set_option maxHeartbeats 3200000 in
theorem declare_blk (nm : ByteArray) (way ty init : Nat) (h0 : widthN ty = 0) (w : World) (P V B : Nat) (dv bv : Value) (vs : Vs) (ks : Ks) (hp : Plt w P V B dv bv vs ks) :
    Calls Tryd.prog 12 #[.pointer (some ⟨P, 0, none⟩), .agg #[.string nm, .int .i64 way, .int .i64 ty, .int .i64 init]] w fun e w' => e = .returned (.tuple #[]) ∧ Plt w' P V B dv bv vs (putA ks nm ⟨ty, 0, false, false⟩) ∧ KM V B w w' := by
    have HW := hide (fun W => width_at ty W)
    rw [h0] at HW
    have hpd : Plt (w.alloc (.cells #[.string nm, .int .i64 way, .int .i64 ty, .int .i64 init] 32)).drew P V B dv bv vs ks := hp.of (Below.drew (below_alloc w _))
    have HPT := hide (Plt.putB (ks' := putA ks nm ⟨ty, 0, false, false⟩) hpd)
    have HKM : Hid (KM V B w (putObj ((w.alloc (.cells #[.string nm, .int .i64 way, .int .i64 ty, .int .i64 init] 32)).drew) B (.map (mes bkV 0 (putA ks nm ⟨ty, 0, false, false⟩)).toArray (putA ks nm ⟨ty, 0, false, false⟩).length))) := (KM.of (Below.drew (below_alloc w (.cells #[.string nm, .int .i64 way, .int .i64 ty, .int .i64 init] 32)))).put B (.inr rfl) _
    have p2 : (w.alloc (.cells #[.string nm, .int .i64 way, .int .i64 ty, .int .i64 init] 32)).drew.cell? ⟨P, 3, none⟩ = some (.map (some B)) := by rw [blk_cell hpd.me]; rfl
    have up := upd_bk hpd.blks nm ⟨ty, 0, false, false⟩
    simp only [bkV] at up
    generalize putA ks nm ⟨ty, 0, false, false⟩ = l2 at *
    generalize (Obj.map (mes bkV 0 l2).toArray l2.length) = ob at *
    clear hp hpd
    go_enter Tryd.func12, Tryd.ntmps12
    go_wp2_with fail
    refine (HW.out _).mono ?_
    rintro e w1 ⟨rfl, rfl⟩
    go_wp2_with fail
    go_region
    go_wp2_with fail
    go_end0
    exact ⟨rfl, HPT.out, HKM.out⟩

set_option maxRecDepth 100000 in
set_option maxHeartbeats 3200000 in
theorem declare_in (nm : ByteArray) (way ty init : Nat) (h0 : widthN ty ≠ 0) (hw : way = 1) (w : World) (P V B : Nat) (dv bv : Value) (vs : Vs) (ks : Ks) (hp : Plt w P V B dv bv vs ks) :
    Calls Tryd.prog 12 #[.pointer (some ⟨P, 0, none⟩), .agg #[.string nm, .int .i64 way, .int .i64 ty, .int .i64 init]] w fun e w' => e = .returned (.tuple #[]) ∧ Plt w' P V B dv bv (putA vs nm (ty, 0)) ks ∧ KM V B w w' := by
    have HW := hide (fun W => width_at ty W)
    have h0i : (((widthN ty : Nat) : Int) == 0) = false := by simp; omega
    generalize widthN ty = wd at *
    subst hw
    clear h0
    have hpd : Plt (w.alloc (.cells #[.string nm, .int .i64 1, .int .i64 ty, .int .i64 init] 32)).drew P V B dv bv vs ks := hp.of (Below.drew (below_alloc w _))
    have HPT := hide (Plt.putV (vs' := putA vs nm (ty, 0)) hpd)
    have HKM : Hid (KM V B w (putObj ((w.alloc (.cells #[.string nm, .int .i64 1, .int .i64 ty, .int .i64 init] 32)).drew) V (.map (mes tyV 0 (putA vs nm (ty, 0))).toArray (putA vs nm (ty, 0)).length))) := (KM.of (Below.drew (below_alloc w (.cells #[.string nm, .int .i64 1, .int .i64 ty, .int .i64 init] 32)))).put V (.inl rfl) _
    have p2 : (w.alloc (.cells #[.string nm, .int .i64 1, .int .i64 ty, .int .i64 init] 32)).drew.cell? ⟨P, 2, none⟩ = some (.map (some V)) := by rw [blk_cell hpd.me]; rfl
    have up := upd_ty hpd.vals nm (ty, 0)
    simp only [tyV] at up
    generalize putA vs nm (ty, 0) = l2 at *
    generalize (Obj.map (mes tyV 0 l2).toArray l2.length) = ob at *
    clear hp hpd
    go_enter Tryd.func12, Tryd.ntmps12
    go_wp2_with fail
    refine (HW.out _).mono ?_
    rintro e w1 ⟨rfl, rfl⟩
    go_wp2_with fail
    go_region
    go_wp2_with fail
    go_end0
    exact ⟨rfl, HPT.out, HKM.out⟩

set_option maxRecDepth 100000 in
set_option maxHeartbeats 3200000 in
theorem declare_var (nm : ByteArray) (way ty init : Nat) (h0 : widthN ty ≠ 0) (hw : way ≠ 1) (w : World) (P V B : Nat) (dv bv : Value) (vs : Vs) (ks : Ks) (hp : Plt w P V B dv bv vs ks) :
    Calls Tryd.prog 12 #[.pointer (some ⟨P, 0, none⟩), .agg #[.string nm, .int .i64 way, .int .i64 ty, .int .i64 init]] w fun e w' => e = .returned (.tuple #[]) ∧ Plt w' P V B dv bv (putA vs nm (ty, init)) ks ∧ KM V B w w' := by
    have HW := hide (fun W => width_at ty W)
    have h0i : (((widthN ty : Nat) : Int) == 0) = false := by simp; omega
    have hwi : ((way : Int) == 1) = false := by simp; omega
    generalize widthN ty = wd at *
    clear h0 hw
    have hpd : Plt (w.alloc (.cells #[.string nm, .int .i64 way, .int .i64 ty, .int .i64 init] 32)).drew P V B dv bv vs ks := hp.of (Below.drew (below_alloc w _))
    have HPT := hide (Plt.putV (vs' := putA vs nm (ty, init)) hpd)
    have HKM : Hid (KM V B w (putObj ((w.alloc (.cells #[.string nm, .int .i64 way, .int .i64 ty, .int .i64 init] 32)).drew) V (.map (mes tyV 0 (putA vs nm (ty, init))).toArray (putA vs nm (ty, init)).length))) := (KM.of (Below.drew (below_alloc w (.cells #[.string nm, .int .i64 way, .int .i64 ty, .int .i64 init] 32)))).put V (.inl rfl) _
    have p2 : (w.alloc (.cells #[.string nm, .int .i64 way, .int .i64 ty, .int .i64 init] 32)).drew.cell? ⟨P, 2, none⟩ = some (.map (some V)) := by rw [blk_cell hpd.me]; rfl
    have up := upd_ty hpd.vals nm (ty, init)
    simp only [tyV] at up
    generalize putA vs nm (ty, init) = l2 at *
    generalize (Obj.map (mes tyV 0 l2).toArray l2.length) = ob at *
    clear hp hpd
    go_enter Tryd.func12, Tryd.ntmps12
    go_wp2_with fail
    refine (HW.out _).mono ?_
    rintro e w1 ⟨rfl, rfl⟩
    go_wp2_with fail
    go_region
    go_wp2_with fail
    go_end0
    exact ⟨rfl, HPT.out, HKM.out⟩

theorem declare_at (d : De) (w : World) (P V B : Nat) (dv bv : Value) (vs : Vs) (ks : Ks) (hp : Plt w P V B dv bv vs ks) :
    Calls Tryd.prog 12 #[.pointer (some ⟨P, 0, none⟩), .agg #[.string d.name, .int .i64 d.way, .int .i64 d.ty, .int .i64 d.init]] w fun e w' => e = .returned (.tuple #[]) ∧ Plt w' P V B dv bv (declS d (vs, ks)).1 (declS d (vs, ks)).2 ∧ KM V B w w' := by
  unfold declS
  by_cases h0 : widthN d.ty = 0
  · rw [if_pos h0]
    exact declare_blk d.name d.way d.ty d.init h0 w P V B dv bv vs ks hp
  · rw [if_neg h0]
    by_cases hw : d.way = 1
    · rw [if_pos hw]
      exact declare_in d.name d.way d.ty d.init h0 hw w P V B dv bv vs ks hp
    · rw [if_neg hw]
      exact declare_var d.name d.way d.ty d.init h0 hw w P V B dv bv vs ks hp
end Go.Proofs.YtiimnnancblbkaaDoor
