/-
  CONTRACTS of the reference's Width and Line.
  CONTRACT of the reference's lines: how it writes statements.
-/
import Derived.Test.YtlbgdoajaplabaaGreatDoorRTxt
import Derived.Test.YtlbgdoajaplabaaGreatDoorLine
import Derived.Test.YtlbgdoajaplabaaGreatDoorPrint
set_option linter.unusedSimpArgs false
set_option linter.unusedVariables false
namespace Go.Proofs.YtlbgdoajaplabaaGreatDoor
open Go.RowKit

def widN (ty : Nat) : Nat := if ty = 1 then 1 else if ty = 2 then 8 else 0
set_option maxRecDepth 100000 in
set_option maxHeartbeats 1600000 in
theorem rwid_at (ty : Nat) (h5 : ty ≤ 5) (w : World) : Calls Tryz.prog 61 #[.int .i64 ty] w fun e w' => e = .returned (.int .i64 (widN ty : Nat)) ∧ w' = w := by
  rcases (show ty = 0 ∨ ty = 1 ∨ ty = 2 ∨ ty = 3 ∨ ty = 4 ∨ ty = 5 by omega) with rfl | rfl | rfl | rfl | rfl | rfl <;>
  · go_enter Tryz.func61, Tryz.ntmps61
    go_wp2_with fail
    go_ret
    exact ⟨rfl, rfl⟩
theorem ridk (ty : Nat) (h1 : 1 ≤ ty) (h5 : ty ≤ 5) (w : World) : (Instr.index 118 (.agg #[.string ⟨#[]⟩, .string ⟨#[98, 111, 111, 108]⟩, .string ⟨#[98, 121, 116, 101]⟩, .string ⟨#[116, 105, 109, 101, 114]⟩, .string ⟨#[99, 111, 117, 110, 116, 101, 114]⟩, .string ⟨#[101, 100, 103, 101]⟩]) (.int .i64 ty)).run Tryz.prog w = .ok (.string (bts (tyT ty))) w := by
  rcases (show ty = 1 ∨ ty = 2 ∨ ty = 3 ∨ ty = 4 ∨ ty = 5 by omega) with rfl | rfl | rfl | rfl | rfl <;> kernel_rfl

set_option maxRecDepth 100000 in
set_option maxHeartbeats 3200000 in
theorem rline_blk (nm : ByteArray) (ty : Nat) (h3 : 3 ≤ ty) (h5 : ty ≤ 5) (hn : nm.size ≤ 12) (w : World) :
    Calls Tryz.prog 33 #[.agg #[.string nm, .int .i64 3, .int .i64 ty, .int .i64 0]] w fun e w' => e = .returned (.string (bts (lineT ⟨nm, 3, ty, 0⟩))) ∧ Below w.heap.size w w' := by
  have HB := hide (below_alloc w (.cells #[.string nm, .int .i64 3, .int .i64 ty, .int .i64 0] 64))
  have HN := hide (blk_new w (.cells #[.string nm, .int .i64 3, .int .i64 ty, .int .i64 0] 64))
  have hx := ridk ty (by omega) h5
  have HWD : Hid (∀ w, Calls Tryz.prog 61 #[.int .i64 ty] w fun e w' => e = .returned (.int .i64 0) ∧ w' = w) := fun w => by
    have e : widN ty = 0 := by unfold widN; rw [if_neg (by omega), if_neg (by omega)]
    have := rwid_at ty h5 w
    rw [e] at this
    exact this
  have HT : Hid (bts (lineT ⟨nm, 3, ty, 0⟩) = bts (tyT ty) ++ ⟨#[32]⟩ ++ nm ++ ⟨#[59, 10]⟩) := by
    show _ = _
    apply ba_ext
    rw [bts_toList]
    simp only [lineT, headT, if_pos h3, if_true, ba_app, bts_toList]
    simp
  have hzt : (bts (tyT ty)).size ≤ 7 := by rw [bts_size]; exact tyT_len ty
  have e32 : (⟨#[32]⟩ : ByteArray).size = 1 := rfl
  have e59 : (⟨#[59, 10]⟩ : ByteArray).size = 2 := rfl
  generalize bts (tyT ty) = T at *
  have k1 : ∀ w, (Op.stringOp .add T ⟨#[32]⟩).run Tryz.prog w = .ok (.string (T ++ ⟨#[32]⟩)) w := fun w => cat_at 100 (by rw [e32]; omega) (by omega) w
  have k2 : ∀ w, (Op.stringOp .add (T ++ ⟨#[32]⟩) nm).run Tryz.prog w = .ok (.string (T ++ ⟨#[32]⟩ ++ nm)) w := fun w => cat_at 100 (by rw [ByteArray.size_append, e32]; omega) (by omega) w
  have k3 : ∀ w, (Op.stringOp .add (T ++ ⟨#[32]⟩ ++ nm) ⟨#[59, 10]⟩).run Tryz.prog w = .ok (.string (T ++ ⟨#[32]⟩ ++ nm ++ ⟨#[59, 10]⟩)) w := fun w => cat_at 100 (by rw [ByteArray.size_append, ByteArray.size_append, e32, e59]; omega) (by omega) w
  clear hzt e32 e59
  go_enter Tryz.func33, Tryz.ntmps33
  go_wp2_with fail
  refine (HWD.out _).mono ?_
  rintro e w1 ⟨rfl, rfl⟩
  go_wp2_with fail
  go_ret
  rw [HT.out]
  exact ⟨rfl, HB.out⟩

theorem ridw (way : Nat) (h1 : 1 ≤ way) (h3 : way ≤ 3) (w : World) : (Instr.index 120 (.agg #[.string ⟨#[]⟩, .string ⟨#[105, 110]⟩, .string ⟨#[111, 117, 116]⟩, .string ⟨#[118, 97, 114]⟩]) (.int .i64 way)).run Tryz.prog w = .ok (.string (bts (wayT way))) w := by
  rcases (show way = 1 ∨ way = 2 ∨ way = 3 by omega) with rfl | rfl | rfl <;> kernel_rfl

set_option maxRecDepth 100000 in
set_option maxHeartbeats 3200000 in
theorem rline_var (nm : ByteArray) (way ty init : Nat) (h1 : 1 ≤ way) (h3 : way ≤ 3) (h4 : 1 ≤ ty) (h5 : ty ≤ 2) (hn : nm.size ≤ 12) (hi1 : ty = 1 → init ≤ 1) (hi2 : init ≤ 255) (w : World) (ht : Tab w) (hv : RVars w) (h14 : 12 ≤ w.heap.size) :
    Calls Tryz.prog 33 #[.agg #[.string nm, .int .i64 way, .int .i64 ty, .int .i64 init]] w fun e w' => e = .returned (.string (bts (lineT ⟨nm, way, ty, init⟩))) ∧ Below w.heap.size w w' := by
  have HB := hide (below_alloc w (.cells #[.string nm, .int .i64 way, .int .i64 ty, .int .i64 init] 64))
  have HN := hide (blk_new w (.cells #[.string nm, .int .i64 way, .int .i64 ty, .int .i64 init] 64))
  have hx := ridk ty (by omega) (by omega)
  have hy := ridw way h1 h3
  have HTB := hide ht
  have HV := hide hv
  have HG : Hid (GoodEx (.num 0 init ty)) := by
    show (ty = 1 ∧ init ≤ 1) ∨ (ty = 2 ∧ init ≤ 255)
    rcases (show ty = 1 ∨ ty = 2 by omega) with h | h
    · exact .inl ⟨h, hi1 h⟩
    · exact .inr ⟨h, hi2⟩
  have HWD : Hid (∀ w, Calls Tryz.prog 61 #[.int .i64 ty] w fun e w' => e = .returned (.int .i64 (widN ty : Nat)) ∧ w' = w) := fun w => rwid_at ty (by omega) w
  have hw0 : (((widN ty : Nat) : Int) == 0) = false := by
    rcases (show ty = 1 ∨ ty = 2 by omega) with h | h <;> subst h <;> rfl
  have HT0 : Hid (init = 0 → bts (lineT ⟨nm, way, ty, init⟩) = bts (wayT way) ++ ⟨#[32]⟩ ++ nm ++ ⟨#[58, 32]⟩ ++ bts (tyT ty) ++ ⟨#[59, 10]⟩) := by
    intro h
    apply ba_ext
    rw [bts_toList]
    have h3' : ¬ 3 ≤ ty := by omega
    simp only [lineT, headT, if_neg h3', if_pos h, ba_app, bts_toList]
    simp
  have HT1 : Hid (init ≠ 0 → bts (lineT ⟨nm, way, ty, init⟩) = bts (wayT way) ++ ⟨#[32]⟩ ++ nm ++ ⟨#[58, 32]⟩ ++ bts (tyT ty) ++ (⟨#[32, 61, 32]⟩ ++ bts (valP ty init)) ++ ⟨#[59, 10]⟩) := by
    intro h
    apply ba_ext
    rw [bts_toList]
    have h3' : ¬ 3 ≤ ty := by omega
    simp only [lineT, headT, if_neg h3', if_neg h, ba_app, bts_toList]
  have hzt : (bts (tyT ty)).size ≤ 7 := by rw [bts_size]; exact tyT_len ty
  have hzw : (bts (wayT way)).size ≤ 3 := by rw [bts_size]; exact wayT_len way
  have hzv : (bts (valP ty init)).size ≤ 5 := by rw [bts_size]; exact val_len hi2
  have HVL : Hid ((valP ty init).length ≤ 5) := val_len hi2
  have e32 : (⟨#[32]⟩ : ByteArray).size = 1 := rfl
  have e58 : (⟨#[58, 32]⟩ : ByteArray).size = 2 := rfl
  have e59 : (⟨#[59, 10]⟩ : ByteArray).size = 2 := rfl
  have e61 : (⟨#[32, 61, 32]⟩ : ByteArray).size = 3 := rfl
  have HVT : Hid (bts (textP (.num 0 init ty) 1) = bts (valP ty init)) := rfl
  generalize bts (valP ty init) = V at *
  generalize bts (tyT ty) = T at *
  generalize bts (wayT way) = Y at *
  have k1 : ∀ w, (Op.stringOp .add Y ⟨#[32]⟩).run Tryz.prog w = .ok (.string (Y ++ ⟨#[32]⟩)) w := fun w => cat_at 100 (by rw [e32]; omega) (by omega) w
  have k2 : ∀ w, (Op.stringOp .add (Y ++ ⟨#[32]⟩) nm).run Tryz.prog w = .ok (.string (Y ++ ⟨#[32]⟩ ++ nm)) w := fun w => cat_at 100 (by rw [ByteArray.size_append, e32]; omega) (by omega) w
  have k3 : ∀ w, (Op.stringOp .add (Y ++ ⟨#[32]⟩ ++ nm) ⟨#[58, 32]⟩).run Tryz.prog w = .ok (.string (Y ++ ⟨#[32]⟩ ++ nm ++ ⟨#[58, 32]⟩)) w := fun w => cat_at 100 (by rw [ByteArray.size_append, ByteArray.size_append, e32, e58]; omega) (by omega) w
  have k4 : ∀ w, (Op.stringOp .add (Y ++ ⟨#[32]⟩ ++ nm ++ ⟨#[58, 32]⟩) T).run Tryz.prog w = .ok (.string (Y ++ ⟨#[32]⟩ ++ nm ++ ⟨#[58, 32]⟩ ++ T)) w := fun w => cat_at 100 (by rw [ByteArray.size_append, ByteArray.size_append, ByteArray.size_append, e32, e58]; omega) (by omega) w
  have hzA : (Y ++ ⟨#[32]⟩ ++ nm ++ ⟨#[58, 32]⟩ ++ T).size ≤ 40 := by rw [ByteArray.size_append, ByteArray.size_append, ByteArray.size_append, ByteArray.size_append, e32, e58]; omega
  have K5 : Hid (∀ w, (Op.stringOp .add (Y ++ ⟨#[32]⟩ ++ nm ++ ⟨#[58, 32]⟩ ++ T) ⟨#[59, 10]⟩).run Tryz.prog w = .ok (.string (Y ++ ⟨#[32]⟩ ++ nm ++ ⟨#[58, 32]⟩ ++ T ++ ⟨#[59, 10]⟩)) w) := fun w => cat_at 100 (by rw [e59]; omega) (by omega) w
  have K6 : Hid (∀ w, (Op.stringOp .add ⟨#[32, 61, 32]⟩ V).run Tryz.prog w = .ok (.string (⟨#[32, 61, 32]⟩ ++ V)) w) := fun w => cat_at 100 (by rw [e61]; omega) (by omega) w
  have K7 : Hid (∀ w, (Op.stringOp .add (Y ++ ⟨#[32]⟩ ++ nm ++ ⟨#[58, 32]⟩ ++ T) (⟨#[32, 61, 32]⟩ ++ V)).run Tryz.prog w = .ok (.string (Y ++ ⟨#[32]⟩ ++ nm ++ ⟨#[58, 32]⟩ ++ T ++ (⟨#[32, 61, 32]⟩ ++ V))) w) := fun w => cat_at 100 (by rw [ByteArray.size_append (a := ⟨#[32, 61, 32]⟩), e61]; omega) (by omega) w
  have K8 : Hid (∀ w, (Op.stringOp .add (Y ++ ⟨#[32]⟩ ++ nm ++ ⟨#[58, 32]⟩ ++ T ++ (⟨#[32, 61, 32]⟩ ++ V)) ⟨#[59, 10]⟩).run Tryz.prog w = .ok (.string (Y ++ ⟨#[32]⟩ ++ nm ++ ⟨#[58, 32]⟩ ++ T ++ (⟨#[32, 61, 32]⟩ ++ V) ++ ⟨#[59, 10]⟩)) w) := fun w => cat_at 100 (by rw [ByteArray.size_append (a := Y ++ ⟨#[32]⟩ ++ nm ++ ⟨#[58, 32]⟩ ++ T), ByteArray.size_append (a := ⟨#[32, 61, 32]⟩), e59, e61]; omega) (by omega) w
  clear hzt hzw hzv e32 e58 e59 e61 hzA ht hv hi1
  go_enter Tryz.func33, Tryz.ntmps33
  go_wp2_with fail
  refine (HWD.out _).mono ?_
  rintro e w1 ⟨rfl, rfl⟩
  go_wp2_with fail
  go_quiet (fail)
  have HB2 := hide (Below.step HB.out (drewN_b (w.alloc (.cells #[.string nm, .int .i64 way, .int .i64 ty, .int .i64 init] 64)) nq))
  have HN2 := hide (Below.blk (drewN_b (w.alloc (.cells #[.string nm, .int .i64 way, .int .i64 ty, .int .i64 init] 64)) nq) HN.out)
  clear k1 k2 k3 k4
  by_cases h0 : init = 0
  · have k5 := K5.out
    have HZ : Hid (bts (lineT ⟨nm, way, ty, 0⟩) = Y ++ ⟨#[32]⟩ ++ nm ++ ⟨#[58, 32]⟩ ++ T ++ ⟨#[59, 10]⟩) := by
      have := HT0.out h0
      rw [h0] at this
      exact this
    subst h0
    go_wp2_with fail
    go_ret
    rw [HZ.out]
    exact ⟨rfl, HB2.out⟩
  · have h0i : (0 : Int) < (init : Int) := by omega
    have k6 := K6.out
    have k7 := K7.out
    have k8 := K8.out
    have hsz : ((w.alloc (.cells #[.string nm, .int .i64 way, .int .i64 ty, .int .i64 init] 64)).drewN nq).heap.size = w.heap.size + 1 := by
      show (w.alloc (.cells #[.string nm, .int .i64 way, .int .i64 ty, .int .i64 init] 64)).heap.size = _
      simp
    have HSZ := hide hsz
    clear hsz
    go_wp2_with fail
    generalize ((w.alloc (.cells #[.string nm, .int .i64 way, .int .i64 ty, .int .i64 init] 64)).drewN nq) = w2 at *
    rw [← HSZ.out]
    have HA := hide (below_alloc w2 (.cells #[.int .i64 1, .int .i64 (0 : Nat), .int .i64 init, .int .i64 ty, .string ⟨#[]⟩, .string ⟨#[]⟩, .string ⟨#[]⟩, .pointer none, .pointer none] 107))
    have HB3 := hide (Below.step HB2.out HA.out)
    refine (rt_num 0 init ty HG.out (fun c => c = w2.heap.size) (w2.alloc (.cells #[.int .i64 1, .int .i64 (0 : Nat), .int .i64 init, .int .i64 ty, .string ⟨#[]⟩, .string ⟨#[]⟩, .string ⟨#[]⟩, .pointer none, .pointer none] 107)) _ 0 ⟨w2.heap.size, rfl, rfl, blk_new w2 _⟩ (fun c h => by subst h; simp) (by omega) (by show (valP ty init).length ≤ _; have := HVL.out; omega) (HTB.out.below HB3.out h14) (HV.out.below HB3.out) (Nat.le_trans h14 HB3.out.size)).mono ?_
    rintro e w3 ⟨rfl, h9⟩
    have HB4 := hide (Below.step HB3.out h9)
    clear h9
    rw [HVT.out]
    go_wp2_with fail
    go_ret
    rw [HT1.out h0]
    exact ⟨rfl, HB4.out⟩
end Go.Proofs.YtlbgdoajaplabaaGreatDoor
set_option linter.unusedSimpArgs false
set_option linter.unusedVariables false
namespace Go.Proofs.YtlbgdoajaplabaaGreatDoor
open Go.RowKit

/-- what the reference's lines come to -/
def RLinesOK (l : List St) : Prop := ∀ (S : Nat → Prop) (w : World) (v : Value) (left : List UInt8), IsSts S w l v → (∀ c, S c → c < w.heap.size) → (stsT l left).length ≤ 1000000 → left.length + 2 * depL l ≤ 1000 → Tab w → RVars w → 12 ≤ w.heap.size →
  Calls Tryz.prog 34 #[v, .string (bts left)] w fun e w' => e = .returned (.string (bts (stsT l left))) ∧ Below w.heap.size w w'

theorem dep_mem (p : Nat) (x : Ex) (th el : List St) : ∀ (l : List St), St.cond p x th el ∈ l → 1 + max (depL th) (depL el) ≤ depL l := by
  intro l
  induction l with
  | nil => intro h; cases h
  | cons s l ih =>
    intro h
    simp only [depL]
    rcases List.mem_cons.1 h with e | e
    · rw [← e]; simp only [depS]; omega
    · have := ih e; omega
theorem z32 : (⟨#[32, 32]⟩ : ByteArray).size = 2 := rfl
theorem z40 : (⟨#[40]⟩ : ByteArray).size = 1 := rfl
theorem z44 : (⟨#[44, 32]⟩ : ByteArray).size = 2 := rfl
theorem z41 : (⟨#[41, 59, 10]⟩ : ByteArray).size = 3 := rfl
theorem z58 : (⟨#[32, 58, 61, 32]⟩ : ByteArray).size = 4 := rfl
theorem z59 : (⟨#[59, 10]⟩ : ByteArray).size = 2 := rfl
theorem zif : (⟨#[105, 102, 32]⟩ : ByteArray).size = 3 := rfl
theorem zth : (⟨#[32, 116, 104, 101, 110, 10]⟩ : ByteArray).size = 6 := rfl
theorem zel : (⟨#[101, 108, 115, 101, 10]⟩ : ByteArray).size = 5 := rfl
theorem zen : (⟨#[101, 110, 100, 59, 10]⟩ : ByteArray).size = 5 := rfl

set_option maxRecDepth 100000 in
set_option maxHeartbeats 6400000 in
theorem rlines_at (l : List St) (hg : GoodL l) (ih : ∀ p x th el, St.cond p x th el ∈ l → RLinesOK th ∧ RLinesOK el) : RLinesOK l := by
  intro S w v left hx hS hlen hleft ht hv h14
  obtain ⟨cs, hrow, hall⟩ := hx
  obtain ⟨ao, cap, rfl⟩ := hrow.val
  have HROW := hide hrow
  have HALL := hide hall
  have HS := hide hS
  have HT := hide ht
  have HV := hide hv
  have HG := hide (goodL_mem hg)
  have IH := hide ih
  have HL := hide hlen
  have hll : l.length ≤ 1000000 := by have := stsT_ge left l; omega
  have HTT : Hid (bts left = bts left) := rfl
  have hzT := bts_size left
  have HLF := hide hleft
  have HDP : Hid (∀ p x th el, St.cond p x th el ∈ l → 1 + max (depL th) (depL el) ≤ depL l) := fun p x th el => dep_mem p x th el l
  have HTB : Hid (bts (left ++ [32, 32]) = bts left ++ ⟨#[32, 32]⟩) := (bts_append left [32, 32]).symm
  generalize hT : bts left = T at *
  have HTE := hide hT
  clear hrow hall hS ht hv hg ih hlen HTT hT
  go_enter Tryz.func34, Tryz.ntmps34
  go_wp2_with fail
  go_loopw [5, 12] (fun o i wr => ∃ j : Nat, j ≤ l.length ∧ i = .int .i64 j ∧ o = .string (bts (stsT (l.take j) left)) ∧ Hid (Below w.heap.size w wr)) (fun _ i _ => l.length - (intOf i).toNat)
  case atStart => exact ⟨0, Nat.zero_le _, rfl, rfl, hide (Below.refl _ w)⟩
  case round =>
    obtain ⟨j, hj, rfl, rfl, hwr⟩ := hrel
    by_cases hlt : j < l.length
    · have hji : (j : Int) < (l.length : Int) := by omega
      obtain ⟨g, cap', hv, hSg⟩ := HROW.out.addr (by omega)
      obtain ⟨rfl, rfl⟩ : ao = some ⟨g, 0, none⟩ ∧ cap = cap' := by cases hv; exact ⟨rfl, rfl⟩
      obtain ⟨c, hc, hst⟩ := HALL.out.get j hlt
      have hgB := HS.out g hSg
      have HCELL : Hid (∀ k u, c[k]? = some u → k < 8 → wr.cell? ⟨g, j * 8 + k, none⟩ = some u) := fun k u hk h8 => (hwr.out.cell (p := ⟨g, j * 8 + k, none⟩) hgB).trans (HROW.out.cell rfl (by rw [flat_at 8 cs HALL.out.eight j c hc k h8]; exact hk))
      have HTJ := hide (stsT_take left l j hlt)
      have HTL := hide (stsT_len_take left l (j + 1))
      have HMEM := hide (List.getElem_mem hlt)
      generalize l[j] = s at *
      have HST := hide (IsSt.same (w' := wr) (fun c h1 _ => hwr.out.block c (HS.out c h1)) s c hst)
      have HGS := hide (HG.out s HMEM.out)
      have hjl : j ≤ 1000000 := by omega
      have hLT : (stsT (l.take j) left).length + (stT s left).length ≤ 1000000 := by
        have := HL.out; have := HTL.out; rw [HTJ.out, List.length_append] at this; omega
      have HLT := hide hLT
      have HNX : Hid (bts (stsT (l.take (j + 1)) left) = bts (stsT (l.take j) left) ++ bts (stT s left)) := by
        show _ = _
        rw [HTJ.out, bts_append]
      have hzO := bts_size (stsT (l.take j) left)
      have HZO := hide hzO
      generalize bts (stsT (l.take j) left) = O at *
      have HRW := hide (fun w' (hb : Below wr.heap.size wr w') => show Tab w' ∧ RVars w' ∧ 12 ≤ w'.heap.size ∧ Below w.heap.size w w' from by
        have hb2 := hwr.out.trans (hb.mono hwr.out.size)
        exact ⟨HT.out.below hb2 h14, HV.out.below hb2, Nat.le_trans h14 hb2.size, hb2⟩)
      clear hv hc hst hLT hzO
      cases s with
      | set p nm x =>
        have hst := HST.out
        simp only [IsSt] at hst
        obtain ⟨a, rfl, hxa⟩ := hst
        obtain ⟨X, rfl⟩ := hxa.ptr
        have r0 : wr.cell? ⟨g, j * 8, none⟩ = some (.int .i64 1) := HCELL.out 0 _ rfl (by decide)
        have r1 : wr.cell? ⟨g, j * 8 + 1, none⟩ = some (.int .i64 p) := HCELL.out 1 _ rfl (by decide)
        have r2 : wr.cell? ⟨g, j * 8 + 2, none⟩ = some (.string nm) := HCELL.out 2 _ rfl (by decide)
        have r3 : wr.cell? ⟨g, j * 8 + 3, none⟩ = some (.pointer (some ⟨X, 0, none⟩)) := HCELL.out 3 _ rfl (by decide)
        have r4 : wr.cell? ⟨g, j * 8 + 4, none⟩ = some (.slice none 0 0) := HCELL.out 4 _ rfl (by decide)
        have r5 : wr.cell? ⟨g, j * 8 + 5, none⟩ = some (.int .i64 0) := HCELL.out 5 _ rfl (by decide)
        have r6 : wr.cell? ⟨g, j * 8 + 6, none⟩ = some (.slice none 0 0) := HCELL.out 6 _ rfl (by decide)
        have r7 : wr.cell? ⟨g, j * 8 + 7, none⟩ = some (.slice none 0 0) := HCELL.out 7 _ rfl (by decide)
        go_wp2_with fail
        have HO := hide (below_alloc wr (.cells #[.int .i64 1, .int .i64 p, .string nm, .pointer (some ⟨X, 0, none⟩), .slice none 0 0, .int .i64 0, .slice none 0 0, .slice none 0 0] 68))
        have HN := hide (blk_new wr (.cells #[.int .i64 1, .int .i64 p, .string nm, .pointer (some ⟨X, 0, none⟩), .slice none 0 0, .int .i64 0, .slice none 0 0, .slice none 0 0] 68))
        generalize (wr.alloc (.cells #[.int .i64 1, .int .i64 p, .string nm, .pointer (some ⟨X, 0, none⟩), .slice none 0 0, .int .i64 0, .slice none 0 0, .slice none 0 0] 68)) = w2 at *
        have HGX := HGS.out
        simp only [GoodSt] at HGX
        have hLX := HLT.out
        simp only [stT, List.length_append, List.length_cons, List.length_nil, sz_list] at hLX
        have HCX : Hid (∀ d os, Calls Tryz.prog 62 #[.pointer (some ⟨X, 0, none⟩), .int .i64 0] (Sort.grow (redrawn w2 d) os) fun e w'' => e = .returned (.string (bts (textP x 1))) ∧ ∃ p : Regrown, w'' = Sort.grow (redrawn w2 p.d) p.os) := fun d os => by
          have hb := HO.out.trans ((below_regrown w2 d os).mono HO.out.size)
          have hr := HRW.out _ hb
          exact Calls.regrown_of (rtext_all x HGX.2.good S _ _ 0 (hxa.same fun c h1 _ => hb.block c (Nat.lt_of_lt_of_le (HS.out c h1) hwr.out.size)) (fun c h => Nat.lt_of_lt_of_le (HS.out c h) (Nat.le_trans hwr.out.size hb.size)) (by omega) (show (textP x 1).length ≤ 1000000 by omega) hr.1 hr.2.1 hr.2.2.1)
        have HEQ : Hid (bts (stT (.set p nm x) left) = T ++ nm ++ ⟨#[32, 58, 61, 32]⟩ ++ bts (textP x 1) ++ ⟨#[59, 10]⟩) := by
          show _ = _
          apply ba_ext
          rw [← HTE.out]
          simp only [stT, ba_app, bts_toList]
          simp
        have hzx := bts_size (textP x 1)
        generalize bts (textP x 1) = TX at *
        have hZO := HZO.out
        have k1 : ∀ w, (Op.stringOp .add T nm).run Tryz.prog w = .ok (.string (T ++ nm)) w := fun w => cat_at 2000000 (by omega) (by omega) w
        have k2 : ∀ w, (Op.stringOp .add (T ++ nm) ⟨#[32, 58, 61, 32]⟩).run Tryz.prog w = .ok (.string (T ++ nm ++ ⟨#[32, 58, 61, 32]⟩)) w := fun w => cat_at 2000000 (by simp only [ByteArray.size_append, z58]; omega) (by omega) w
        have k3 : ∀ w, (Op.stringOp .add (T ++ nm ++ ⟨#[32, 58, 61, 32]⟩) TX).run Tryz.prog w = .ok (.string (T ++ nm ++ ⟨#[32, 58, 61, 32]⟩ ++ TX)) w := fun w => cat_at 2000000 (by simp only [ByteArray.size_append, z58]; omega) (by omega) w
        have k4 : ∀ w, (Op.stringOp .add (T ++ nm ++ ⟨#[32, 58, 61, 32]⟩ ++ TX) ⟨#[59, 10]⟩).run Tryz.prog w = .ok (.string (T ++ nm ++ ⟨#[32, 58, 61, 32]⟩ ++ TX ++ ⟨#[59, 10]⟩)) w := fun w => cat_at 2000000 (by simp only [ByteArray.size_append, z58, z59]; omega) (by omega) w
        have k5 : ∀ w, (Op.stringOp .add O (T ++ nm ++ ⟨#[32, 58, 61, 32]⟩ ++ TX ++ ⟨#[59, 10]⟩)).run Tryz.prog w = .ok (.string (O ++ (T ++ nm ++ ⟨#[32, 58, 61, 32]⟩ ++ TX ++ ⟨#[59, 10]⟩))) w := fun w => cat_at 3000000 (by simp only [ByteArray.size_append, z58, z59]; omega) (by omega) w
        have c2 := cell_regrown (show w2.cell? ⟨wr.heap.size, 2, none⟩ = some (.string nm) by rw [blk_cell HN.out]; rfl)
        have c3 := cell_regrown (show w2.cell? ⟨wr.heap.size, 3, none⟩ = some (.pointer (some ⟨X, 0, none⟩)) by rw [blk_cell HN.out]; rfl)
        clear hxa r0 r1 r2 r3 r4 r5 r6 r7 HGX hLX hZO hzx
        refine wp_region_quiet_below (by kernel_rfl) (by kernel_rfl) ?_
        repeat (quiet_step (with_reducible exact HCX.out _ _))
        refine wpQuiet_nil ?_
        intro _ hw'
        obtain ⟨⟨dq, osq⟩, hw''⟩ := hw'
        subst hw''
        have HB4 := hide (HRW.out _ (HO.out.trans ((below_regrown w2 dq osq).mono HO.out.size))).2.2.2
        clear c2 c3 k1 k2 k3 k4 k5
        go_wp2_with fail
        refine ⟨⟨j + 1, by omega, by go_num, ?_, HB4⟩, by simp [intOf]; omega⟩
        rw [HNX.out, HEQ.out]
      | call p nm xs n =>
        have hst := HST.out
        simp only [IsSt] at hst
        obtain ⟨a, rfl, hxa⟩ := hst
        obtain ⟨vs, hrow2, hall2⟩ := hxa
        obtain ⟨aa, ac, rfl⟩ := hrow2.val
        have HR2 := hide hrow2
        have HA2 := hide hall2
        have r0 : wr.cell? ⟨g, j * 8, none⟩ = some (.int .i64 3) := HCELL.out 0 _ rfl (by decide)
        have r1 : wr.cell? ⟨g, j * 8 + 1, none⟩ = some (.int .i64 p) := HCELL.out 1 _ rfl (by decide)
        have r2 : wr.cell? ⟨g, j * 8 + 2, none⟩ = some (.string nm) := HCELL.out 2 _ rfl (by decide)
        have r3 : wr.cell? ⟨g, j * 8 + 3, none⟩ = some (.pointer none) := HCELL.out 3 _ rfl (by decide)
        have r4 : wr.cell? ⟨g, j * 8 + 4, none⟩ = some (.slice aa xs.length ac) := HCELL.out 4 _ rfl (by decide)
        have r5 : wr.cell? ⟨g, j * 8 + 5, none⟩ = some (.int .i64 n) := HCELL.out 5 _ rfl (by decide)
        have r6 : wr.cell? ⟨g, j * 8 + 6, none⟩ = some (.slice none 0 0) := HCELL.out 6 _ rfl (by decide)
        have r7 : wr.cell? ⟨g, j * 8 + 7, none⟩ = some (.slice none 0 0) := HCELL.out 7 _ rfl (by decide)
        have HO := hide (below_alloc wr (.cells #[.int .i64 3, .int .i64 p, .string nm, .pointer none, .slice aa xs.length ac, .int .i64 n, .slice none 0 0, .slice none 0 0] 68))
        have HN := hide (blk_new wr (.cells #[.int .i64 3, .int .i64 p, .string nm, .pointer none, .slice aa xs.length ac, .int .i64 n, .slice none 0 0, .slice none 0 0] 68))
        have HGX := HGS.out
        simp only [GoodSt] at HGX
        have HGA := hide HGX.2.1
        have hn255 := HGX.2.2
        have hLX := HLT.out
        simp only [stT, List.length_append, List.length_cons, List.length_nil, sz_list] at hLX
        have HLX := hide hLX
        have HEQ : Hid (bts (stT (.call p nm xs n) left) = T ++ nm ++ ⟨#[40]⟩ ++ bts (argsT xs) ++ (bts (Lib.decDigits n) ++ ⟨#[41, 59, 10]⟩)) := by
          show _ = _
          apply ba_ext
          rw [← HTE.out]
          simp only [stT, ba_app, bts_toList]
          simp
        have hZO := HZO.out
        have hxl : xs.length ≤ 1000000 := by have := argsT_ge xs; omega
        have k1 : ∀ w, (Op.stringOp .add T nm).run Tryz.prog w = .ok (.string (T ++ nm)) w := fun w => cat_at 2000000 (by omega) (by omega) w
        have k2 : ∀ w, (Op.stringOp .add (T ++ nm) ⟨#[40]⟩).run Tryz.prog w = .ok (.string (T ++ nm ++ ⟨#[40]⟩)) w := fun w => cat_at 2000000 (by simp only [ByteArray.size_append, z40]; omega) (by omega) w
        have k3 : ∀ w, (Op.stringOp .add O (T ++ nm ++ ⟨#[40]⟩)).run Tryz.prog w = .ok (.string (O ++ (T ++ nm ++ ⟨#[40]⟩))) w := fun w => cat_at 2000000 (by simp only [ByteArray.size_append, z40]; omega) (by omega) w
        have hz2 : (O ++ (T ++ nm ++ ⟨#[40]⟩)).size = O.size + T.size + nm.size + 1 := by simp only [ByteArray.size_append, z40]; omega
        clear hrow2 hall2 HGX hLX
        go_wp2_with fail
        generalize (wr.alloc (.cells #[.int .i64 3, .int .i64 p, .string nm, .pointer none, .slice aa xs.length ac, .int .i64 n, .slice none 0 0, .slice none 0 0] 68)) = w2 at *
        clear k1 k2 k3 r0 r1 r2 r3 r4 r5 r6 r7
        have HO2 : Hid (O ++ (T ++ nm ++ ⟨#[40]⟩) = O ++ (T ++ nm ++ ⟨#[40]⟩)) := rfl
        have HZ2 : Hid ((O ++ (T ++ nm ++ ⟨#[40]⟩)).size + (argsT xs).length + (Lib.decDigits n).length + 3 ≤ 1000000) := by
          show _ ≤ _
          have := HLX.out; omega
        have HE2 : Hid (bts (stsT (l.take (j + 1)) left) = O ++ (T ++ nm ++ ⟨#[40]⟩) ++ bts (argsT xs) ++ (bts (Lib.decDigits n) ++ ⟨#[41, 59, 10]⟩)) := by
          show _ = _
          rw [HNX.out, HEQ.out]
          apply ba_ext
          simp only [ba_app, bts_toList]
          simp
        clear HO2 hz2 hZO
        generalize O ++ (T ++ nm ++ ⟨#[40]⟩) = O2 at *
        have HWQ := hwr
        clear hwr
        generalize wr = wq at *
        go_loopw [5, 9, 44] (fun o _ i wk => ∃ k : Nat, k ≤ xs.length ∧ i = .int .i64 k ∧ o = .string (O2 ++ bts (argsT (xs.take k))) ∧ Hid (Below wq.heap.size wq wk) ∧ Hid (wk.heap[wq.heap.size]? = some (.cells #[.int .i64 3, .int .i64 p, .string nm, .pointer none, .slice aa xs.length ac, .int .i64 n, .slice none 0 0, .slice none 0 0] 68 (0, 0)))) (fun _ _ i _ => xs.length - (intOf i).toNat)
        case atStart => exact ⟨0, Nat.zero_le _, rfl, by show Value.string O2 = .string (O2 ++ ⟨#[]⟩); congr 1; apply ba_ext; rw [ba_app]; simp, HO, HN⟩
        case round =>
          obtain ⟨k, hk, rfl, rfl, hwk, hnk⟩ := hrel
          by_cases hlk : k < xs.length
          · have hki : (k : Int) < (xs.length : Int) := by omega
            obtain ⟨g2, cap2, hv2, hSg2⟩ := HR2.out.addr (by omega)
            obtain ⟨rfl, rfl⟩ : aa = some ⟨g2, 0, none⟩ ∧ ac = cap2 := by cases hv2; exact ⟨rfl, rfl⟩
            obtain ⟨u, hu, hxu⟩ := all2_get HA2.out k hlk
            obtain ⟨X, rfl⟩ := hxu.ptr
            have cj : wr.cell? ⟨g2, k, none⟩ = some (.pointer (some ⟨X, 0, none⟩)) := (hwk.out.cell (p := ⟨g2, k, none⟩) (Nat.lt_of_lt_of_le (HS.out g2 hSg2) HWQ.out.size)).trans (HR2.out.cell rfl hu)
            have hr := HRW.out _ hwk.out
            have HTJ2 := hide (argsT_take xs k hlk)
            have HTL2 := hide (argsT_len_take xs (k + 1))
            have hkl : k ≤ 1000000 := by omega
            have hLX2 : O2.size + (argsT (xs.take k)).length + (textP xs[k] 1).length + 2 ≤ 1000000 := by
              have := HTL2.out; rw [HTJ2.out] at this; simp only [List.length_append, List.length_cons, List.length_nil] at this; have := HZ2.out; omega
            have HCX := hide (rtext_all xs[k] (HGA.out xs[k] (List.getElem_mem hlk)).good S wr _ 0 (hxu.same fun c h1 _ => hwk.out.block c (Nat.lt_of_lt_of_le (HS.out c h1) HWQ.out.size)) (fun c h => Nat.lt_of_lt_of_le (HS.out c h) (Nat.le_trans HWQ.out.size hwk.out.size)) (by omega) (show (textP xs[k] 1).length ≤ 1000000 by omega) hr.1 hr.2.1 hr.2.2.1)
            have hzx := bts_size (textP xs[k] 1)
            have hza := bts_size (argsT (xs.take k))
            have HE3 : Hid (O2 ++ bts (argsT (xs.take (k + 1))) = O2 ++ bts (argsT (xs.take k)) ++ (bts (textP xs[k] 1) ++ ⟨#[44, 32]⟩)) := by
              show _ = _
              rw [HTJ2.out]
              apply ba_ext
              simp only [ba_app, bts_toList]
              simp
            clear hv2 hu hxu hr
            generalize bts (textP xs[k] 1) = TX at *
            generalize bts (argsT (xs.take k)) = TA at *
            have k1 : ∀ w, (Op.stringOp .add TX ⟨#[44, 32]⟩).run Tryz.prog w = .ok (.string (TX ++ ⟨#[44, 32]⟩)) w := fun w => cat_at 2000000 (by rw [z44]; omega) (by omega) w
            have k2 : ∀ w, (Op.stringOp .add (O2 ++ TA) (TX ++ ⟨#[44, 32]⟩)).run Tryz.prog w = .ok (.string (O2 ++ TA ++ (TX ++ ⟨#[44, 32]⟩))) w := fun w => cat_at 2000000 (by simp only [ByteArray.size_append, z44]; omega) (by omega) w
            clear hLX2 hzx hza
            go_wp2_with fail
            refine HCX.out.mono ?_
            rintro e w3 ⟨rfl, h3⟩
            have HB3 := hide (hwk.out.trans (h3.mono hwk.out.size))
            have HN3 := hide (Below.blk h3 hnk.out)
            clear h3
            go_wp2_with fail
            refine ⟨⟨k + 1, by omega, by go_num, ?_, HB3, HN3⟩, by simp [intOf]; omega⟩
            rw [HE3.out]
          · have HJ : Hid (k = xs.length) := (by omega : k = xs.length)
            have HE4 : Hid (argsT (xs.take k) = argsT xs) := by show _ = _; rw [HJ.out, List.take_length]
            rw [HE4.out]
            have c5 : wr.cell? ⟨wq.heap.size, 5, none⟩ = some (.int .i64 n) := by rw [blk_cell hnk.out]; rfl
            have HI := hide (Tryz.strconv_Itoa (n : Int) (by omega) (by omega) wr (HRW.out _ hwk.out).1)
            have HVV : Hid (bts (Lib.itoa (n : Int)) = bts (Lib.decDigits n)) := by
              show _ = _
              have : ¬ (n : Int) < 0 := by omega
              simp [Lib.itoa, this]
            have hzd := bts_size (Lib.decDigits n)
            have hza := bts_size (argsT xs)
            have hZ2 := HZ2.out
            generalize bts (argsT xs) = TA at *
            go_wp2_with fail
            refine HI.out.mono ?_
            rintro e w3 ⟨rfl, q, os, rfl⟩
            have HB3 := hide (HRW.out _ (hwk.out.trans ((below_grow wr q os).mono hwk.out.size))).2.2.2
            generalize Sort.grow (wr.drewN q) os = w3 at *
            rw [show (⟨(Lib.itoa (n : Int)).toArray⟩ : ByteArray) = bts (Lib.decDigits n) from HVV.out]
            generalize bts (Lib.decDigits n) = D at *
            have k1 : ∀ w, (Op.stringOp .add D ⟨#[41, 59, 10]⟩).run Tryz.prog w = .ok (.string (D ++ ⟨#[41, 59, 10]⟩)) w := fun w => cat_at 2000000 (by rw [z41]; omega) (by omega) w
            have k2 : ∀ w, (Op.stringOp .add (O2 ++ TA) (D ++ ⟨#[41, 59, 10]⟩)).run Tryz.prog w = .ok (.string (O2 ++ TA ++ (D ++ ⟨#[41, 59, 10]⟩))) w := fun w => cat_at 2000000 (by simp only [ByteArray.size_append, z41]; omega) (by omega) w
            clear hza hzd hZ2
            go_wp2_with fail
            refine ⟨⟨j + 1, by omega, by go_num, ?_, HB3⟩, by simp [intOf]; omega⟩
            rw [HE2.out]
      | cond p x th el =>
        have hst := HST.out
        simp only [IsSt] at hst
        obtain ⟨a, t, u, cs1, ds1, rfl, hxa, ht1, ht2, he1, he2⟩ := hst
        have hth : IsSts S wr th t := ⟨cs1, ht1, ht2⟩
        have hel : IsSts S wr el u := ⟨ds1, he1, he2⟩
        clear ht1 ht2 he1 he2
        obtain ⟨X, rfl⟩ := hxa.ptr
        obtain ⟨ta, tc, rfl⟩ := sts_val hth
        obtain ⟨ua, uc, rfl⟩ := sts_val hel
        have r0 : wr.cell? ⟨g, j * 8, none⟩ = some (.int .i64 2) := HCELL.out 0 _ rfl (by decide)
        have r1 : wr.cell? ⟨g, j * 8 + 1, none⟩ = some (.int .i64 p) := HCELL.out 1 _ rfl (by decide)
        have r2 : wr.cell? ⟨g, j * 8 + 2, none⟩ = some (.string ⟨#[]⟩) := HCELL.out 2 _ rfl (by decide)
        have r3 : wr.cell? ⟨g, j * 8 + 3, none⟩ = some (.pointer (some ⟨X, 0, none⟩)) := HCELL.out 3 _ rfl (by decide)
        have r4 : wr.cell? ⟨g, j * 8 + 4, none⟩ = some (.slice none 0 0) := HCELL.out 4 _ rfl (by decide)
        have r5 : wr.cell? ⟨g, j * 8 + 5, none⟩ = some (.int .i64 0) := HCELL.out 5 _ rfl (by decide)
        have r6 : wr.cell? ⟨g, j * 8 + 6, none⟩ = some (.slice ta th.length tc) := HCELL.out 6 _ rfl (by decide)
        have r7 : wr.cell? ⟨g, j * 8 + 7, none⟩ = some (.slice ua el.length uc) := HCELL.out 7 _ rfl (by decide)
        have HO := hide (below_alloc wr (.cells #[.int .i64 2, .int .i64 p, .string ⟨#[]⟩, .pointer (some ⟨X, 0, none⟩), .slice none 0 0, .int .i64 0, .slice ta th.length tc, .slice ua el.length uc] 68))
        have HN := hide (blk_new wr (.cells #[.int .i64 2, .int .i64 p, .string ⟨#[]⟩, .pointer (some ⟨X, 0, none⟩), .slice none 0 0, .int .i64 0, .slice ta th.length tc, .slice ua el.length uc] 68))
        have HGX := HGS.out
        simp only [GoodSt] at HGX
        have hLX := HLT.out
        rw [cond_T] at hLX
        simp only [ifT, List.length_append, List.length_cons, List.length_nil] at hLX
        obtain ⟨ih1, ih2⟩ := IH.out p x th el HMEM.out
        have HDL := hide (HDP.out p x th el HMEM.out)
        have HEQ : Hid (bts (stT (.cond p x th el) left) = T ++ ⟨#[105, 102, 32]⟩ ++ bts (textP x 1) ++ ⟨#[32, 116, 104, 101, 110, 10]⟩ ++ bts (stsT th (left ++ [32, 32])) ++ bts (elT el left) ++ (T ++ ⟨#[101, 110, 100, 59, 10]⟩)) := by
          show _ = _
          apply ba_ext
          rw [← HTE.out, cond_T]
          simp only [ifT, ba_app, bts_toList]
          simp
        clear HCELL HST HTJ HTL
        go_wp2_with fail
        generalize (wr.alloc (.cells #[.int .i64 2, .int .i64 p, .string ⟨#[]⟩, .pointer (some ⟨X, 0, none⟩), .slice none 0 0, .int .i64 0, .slice ta th.length tc, .slice ua el.length uc] 68)) = w2 at *
        clear r0 r1 r2 r3 r4 r5 r6 r7
        have HSB : Hid (∀ (c : Nat), S c → c < wr.heap.size) := fun c h => Nat.lt_of_lt_of_le (HS.out c h) hwr.out.size
        have HCX : Hid (∀ d os, Calls Tryz.prog 62 #[.pointer (some ⟨X, 0, none⟩), .int .i64 0] (Sort.grow (redrawn w2 d) os) fun e w'' => e = .returned (.string (bts (textP x 1))) ∧ ∃ p : Regrown, w'' = Sort.grow (redrawn w2 p.d) p.os) := fun d os => by
          have hb := HO.out.trans ((below_regrown w2 d os).mono HO.out.size)
          have hr := HRW.out _ hb
          exact Calls.regrown_of (rtext_all x HGX.1.good S _ _ 0 (hxa.same fun c h1 _ => hb.block c (HSB.out c h1)) (fun c h => Nat.lt_of_lt_of_le (HSB.out c h) hb.size) (by omega) (show (textP x 1).length ≤ 1000000 by omega) hr.1 hr.2.1 hr.2.2.1)
        have HCT : Hid (∀ d os, Calls Tryz.prog 34 #[.slice ta th.length tc, .string (T ++ ⟨#[32, 32]⟩)] (Sort.grow (redrawn w2 d) os) fun e w'' => e = .returned (.string (bts (stsT th (left ++ [32, 32])))) ∧ ∃ p : Regrown, w'' = Sort.grow (redrawn w2 p.d) p.os) := fun d os => by
          have hb := HO.out.trans ((below_regrown w2 d os).mono HO.out.size)
          have hr := HRW.out _ hb
          rw [← HTB.out]
          exact Calls.regrown_of (ih1 S _ _ _ (hth.same fun c h1 _ => hb.block c (HSB.out c h1)) (fun c h => Nat.lt_of_lt_of_le (HSB.out c h) hb.size) (by omega) (by have := HLF.out; have := HDL.out; simp; omega) hr.1 hr.2.1 hr.2.2.1)
        have HCE : Hid (∀ w', Below wr.heap.size wr w' → el ≠ [] → Calls Tryz.prog 34 #[.slice ua el.length uc, .string (T ++ ⟨#[32, 32]⟩)] w' fun e w'' => e = .returned (.string (bts (stsT el (left ++ [32, 32])))) ∧ Below w'.heap.size w' w'') := fun w' hb hne => by
          have hr := HRW.out _ hb
          have : (stsT el (left ++ [32, 32])).length ≤ (elT el left).length := by
            cases el with
            | nil => exact absurd rfl hne
            | cons s el => simp only [elT, List.length_append]; omega
          rw [← HTB.out]
          exact ih2 S _ _ _ (hel.same fun c h1 _ => hb.block c (HSB.out c h1)) (fun c h => Nat.lt_of_lt_of_le (HSB.out c h) hb.size) (by omega) (by have := HLF.out; have := HDL.out; simp; omega) hr.1 hr.2.1 hr.2.2.1
        have hzx := bts_size (textP x 1)
        have hzt := bts_size (stsT th (left ++ [32, 32]))
        have hze := bts_size (elT el left)
        have hZO := HZO.out
        have HEL : Hid (el ≠ [] → bts (elT el left) = T ++ ⟨#[101, 108, 115, 101, 10]⟩ ++ bts (stsT el (left ++ [32, 32]))) := fun hne => by
          cases el with
          | nil => exact absurd rfl hne
          | cons s el =>
            apply ba_ext
            rw [← HTE.out]
            simp only [elT, ba_app, bts_toList]
        have HEN : Hid (el = [] → bts (elT el left) = ⟨#[]⟩) := fun h => by subst h; rfl
        have hel0 : el.length ≤ 1000000 := by
          by_cases h : el = []
          · subst h; simp
          · have := stsT_ge (left ++ [32, 32]) el
            have : (stsT el (left ++ [32, 32])).length ≤ (elT el left).length := by
              cases el with
              | nil => exact absurd rfl h
              | cons s el => simp only [elT, List.length_append]; omega
            omega
        clear hxa hth hel ih1 ih2 HGX HGS HSB
        generalize bts (textP x 1) = TX at *
        generalize bts (stsT th (left ++ [32, 32])) = TH at *
        generalize bts (elT el left) = TE at *
        have HLZ : Hid (O.size + (T.size + 3 + TX.size + 6 + TH.size + TE.size + T.size + 5) ≤ 1000000) := by show _ ≤ _; omega
        have k1 : ∀ w, (Op.stringOp .add T ⟨#[105, 102, 32]⟩).run Tryz.prog w = .ok (.string (T ++ ⟨#[105, 102, 32]⟩)) w := fun w => cat_at 2000000 (by rw [zif]; omega) (by omega) w
        have k2 : ∀ w, (Op.stringOp .add (T ++ ⟨#[105, 102, 32]⟩) TX).run Tryz.prog w = .ok (.string (T ++ ⟨#[105, 102, 32]⟩ ++ TX)) w := fun w => cat_at 2000000 (by simp only [ByteArray.size_append, zif]; omega) (by omega) w
        have k3 : ∀ w, (Op.stringOp .add (T ++ ⟨#[105, 102, 32]⟩ ++ TX) ⟨#[32, 116, 104, 101, 110, 10]⟩).run Tryz.prog w = .ok (.string (T ++ ⟨#[105, 102, 32]⟩ ++ TX ++ ⟨#[32, 116, 104, 101, 110, 10]⟩)) w := fun w => cat_at 2000000 (by simp only [ByteArray.size_append, zif, zth]; omega) (by omega) w
        have k4 : ∀ w, (Op.stringOp .add T ⟨#[32, 32]⟩).run Tryz.prog w = .ok (.string (T ++ ⟨#[32, 32]⟩)) w := fun w => cat_at 2000000 (by rw [z32]; omega) (by omega) w
        have k5 : ∀ w, (Op.stringOp .add (T ++ ⟨#[105, 102, 32]⟩ ++ TX ++ ⟨#[32, 116, 104, 101, 110, 10]⟩) TH).run Tryz.prog w = .ok (.string (T ++ ⟨#[105, 102, 32]⟩ ++ TX ++ ⟨#[32, 116, 104, 101, 110, 10]⟩ ++ TH)) w := fun w => cat_at 2000000 (by simp only [ByteArray.size_append, zif, zth]; omega) (by omega) w
        have k6 : ∀ w, (Op.stringOp .add O (T ++ ⟨#[105, 102, 32]⟩ ++ TX ++ ⟨#[32, 116, 104, 101, 110, 10]⟩ ++ TH)).run Tryz.prog w = .ok (.string (O ++ (T ++ ⟨#[105, 102, 32]⟩ ++ TX ++ ⟨#[32, 116, 104, 101, 110, 10]⟩ ++ TH))) w := fun w => cat_at 2000000 (by simp only [ByteArray.size_append, zif, zth]; omega) (by omega) w
        have K4 := hide k4
        have hz6 : (O ++ (T ++ ⟨#[105, 102, 32]⟩ ++ TX ++ ⟨#[32, 116, 104, 101, 110, 10]⟩ ++ TH)).size = O.size + (T.size + 3 + TX.size + 6 + TH.size) := by simp only [ByteArray.size_append, zif, zth]
        have HZ6 := hide hz6
        have c3 := cell_regrown (show w2.cell? ⟨wr.heap.size, 3, none⟩ = some (.pointer (some ⟨X, 0, none⟩)) by rw [blk_cell HN.out]; rfl)
        have c6 := cell_regrown (show w2.cell? ⟨wr.heap.size, 6, none⟩ = some (.slice ta th.length tc) by rw [blk_cell HN.out]; rfl)
        clear hLX hZO hzx hzt hze hz6 hzT
        refine wp_region_quiet_below (by kernel_rfl) (by kernel_rfl) ?_
        repeat (quiet_step (first | with_reducible exact HCX.out _ _ | with_reducible exact HCT.out _ _))
        refine wpQuiet_nil ?_
        intro _ hw'
        obtain ⟨⟨dq, osq⟩, hw''⟩ := hw'
        subst hw''
        have HB4 := hide (HO.out.trans ((below_regrown w2 dq osq).mono HO.out.size))
        have HN4 := hide (Below.blk (below_regrown w2 dq osq) HN.out)
        clear c3 c6 k1 k2 k3 k4 k5 k6 HCX HCT HO HN
        generalize Sort.grow (redrawn w2 dq) osq = w4 at *
        have c7 : w4.cell? ⟨wr.heap.size, 7, none⟩ = some (.slice ua el.length uc) := by rw [blk_cell HN4.out]; rfl
        by_cases hne : el = []
        · have HT0 := hide (HEN.out hne)
          have h00 : ¬ (0 : Int) < (el.length : Int) := by subst hne; simp
          have hl0 : el.length = 0 := by subst hne; rfl
          rw [hl0] at c7
          clear h00
          have HQ : Hid (bts (stsT (l.take (j + 1)) left) = O ++ (T ++ ⟨#[105, 102, 32]⟩ ++ TX ++ ⟨#[32, 116, 104, 101, 110, 10]⟩ ++ TH) ++ (T ++ ⟨#[101, 110, 100, 59, 10]⟩)) := by
            show _ = _
            rw [HNX.out, HEQ.out, HT0.out]
            apply ba_ext
            simp only [ba_app]
            simp
          have k8 : ∀ w, (Op.stringOp .add T ⟨#[101, 110, 100, 59, 10]⟩).run Tryz.prog w = .ok (.string (T ++ ⟨#[101, 110, 100, 59, 10]⟩)) w := fun w => cat_at 2000000 (by rw [zen]; have := HLZ.out; omega) (by omega) w
          have k9 : ∀ w, (Op.stringOp .add (O ++ (T ++ ⟨#[105, 102, 32]⟩ ++ TX ++ ⟨#[32, 116, 104, 101, 110, 10]⟩ ++ TH)) (T ++ ⟨#[101, 110, 100, 59, 10]⟩)).run Tryz.prog w = .ok (.string (O ++ (T ++ ⟨#[105, 102, 32]⟩ ++ TX ++ ⟨#[32, 116, 104, 101, 110, 10]⟩ ++ TH) ++ (T ++ ⟨#[101, 110, 100, 59, 10]⟩))) w := fun w => cat_at 2000000 (by rw [HZ6.out, ByteArray.size_append, zen]; have := HLZ.out; omega) (by omega) w
          have HB5 := hide (HRW.out _ HB4.out).2.2.2
          clear hl0 hne hel0
          go_wp2_with fail
          refine ⟨⟨j + 1, by omega, by go_num, ?_, HB5⟩, by simp [intOf]; omega⟩
          rw [HQ.out]
        · have HT1 := hide (HEL.out hne)
          have hpos : (0 : Int) < (el.length : Int) := by
            have : 0 < el.length := by cases el with | nil => exact absurd rfl hne | cons s e => simp
            omega
          have HCE2 := hide (HCE.out w4 HB4.out hne)
          have hZ5 : TE.size = T.size + 5 + (bts (stsT el (left ++ [32, 32]))).size := by rw [HT1.out]; simp only [ByteArray.size_append, zel]
          have HQ : Hid (bts (stsT (l.take (j + 1)) left) = O ++ (T ++ ⟨#[105, 102, 32]⟩ ++ TX ++ ⟨#[32, 116, 104, 101, 110, 10]⟩ ++ TH) ++ (T ++ ⟨#[101, 108, 115, 101, 10]⟩ ++ bts (stsT el (left ++ [32, 32]))) ++ (T ++ ⟨#[101, 110, 100, 59, 10]⟩)) := by
            show _ = _
            rw [HNX.out, HEQ.out, HT1.out]
            apply ba_ext
            simp only [ba_app]
            simp
          generalize bts (stsT el (left ++ [32, 32])) = EL at *
          generalize hO3 : O ++ (T ++ ⟨#[105, 102, 32]⟩ ++ TX ++ ⟨#[32, 116, 104, 101, 110, 10]⟩ ++ TH) = O3 at *
          have hZ6 := HZ6.out
          have hLZ := HLZ.out
          have k4 := K4.out
          have k7 : ∀ w, (Op.stringOp .add T ⟨#[101, 108, 115, 101, 10]⟩).run Tryz.prog w = .ok (.string (T ++ ⟨#[101, 108, 115, 101, 10]⟩)) w := fun w => cat_at 2000000 (by rw [zel]; omega) (by omega) w
          have k8 : ∀ w, (Op.stringOp .add (T ++ ⟨#[101, 108, 115, 101, 10]⟩) EL).run Tryz.prog w = .ok (.string (T ++ ⟨#[101, 108, 115, 101, 10]⟩ ++ EL)) w := fun w => cat_at 2000000 (by simp only [ByteArray.size_append, zel]; omega) (by omega) w
          have k9 : ∀ w, (Op.stringOp .add O3 (T ++ ⟨#[101, 108, 115, 101, 10]⟩ ++ EL)).run Tryz.prog w = .ok (.string (O3 ++ (T ++ ⟨#[101, 108, 115, 101, 10]⟩ ++ EL))) w := fun w => cat_at 2000000 (by simp only [ByteArray.size_append, zel]; omega) (by omega) w
          have k10 : ∀ w, (Op.stringOp .add T ⟨#[101, 110, 100, 59, 10]⟩).run Tryz.prog w = .ok (.string (T ++ ⟨#[101, 110, 100, 59, 10]⟩)) w := fun w => cat_at 2000000 (by rw [zen]; omega) (by omega) w
          have k11 : ∀ w, (Op.stringOp .add (O3 ++ (T ++ ⟨#[101, 108, 115, 101, 10]⟩ ++ EL)) (T ++ ⟨#[101, 110, 100, 59, 10]⟩)).run Tryz.prog w = .ok (.string (O3 ++ (T ++ ⟨#[101, 108, 115, 101, 10]⟩ ++ EL) ++ (T ++ ⟨#[101, 110, 100, 59, 10]⟩))) w := fun w => cat_at 2000000 (by simp only [ByteArray.size_append, zel, zen]; omega) (by omega) w
          clear hZ5 hZ6 hLZ hO3
          go_wp2_with fail
          refine HCE2.out.mono ?_
          rintro e w5 ⟨rfl, h5⟩
          have HB5 := hide (HRW.out _ (HB4.out.trans (h5.mono HB4.out.size))).2.2.2
          clear h5
          go_wp2_with fail
          refine ⟨⟨j + 1, by omega, by go_num, ?_, HB5⟩, by simp [intOf]; omega⟩
          rw [HQ.out]
    · have HJ : Hid (j = l.length) := (by omega : j = l.length)
      have HE4 : Hid (stsT (l.take j) left = stsT l left) := by show _ = _; rw [HJ.out, List.take_length]
      rw [HE4.out]
      go_wp2_with fail
      go_ret
      exact ⟨rfl, hwr.out⟩
theorem rlines_all : ∀ (n : Nat) (l : List St), depL l ≤ n → GoodL l → RLinesOK l := by
  intro n
  induction n with
  | zero =>
    intro l hd hg
    refine rlines_at l hg fun p x th el hm => ?_
    have := dep_mem p x th el l hm
    omega
  | succ n ih =>
    intro l hd hg
    refine rlines_at l hg fun p x th el hm => ?_
    have h1 := dep_mem p x th el l hm
    have h2 := goodL_mem hg _ hm
    simp only [GoodSt] at h2
    exact ⟨ih th (by omega) h2.2.1, ih el (by omega) h2.2.2⟩

/-- the reference's Line, of any declaration -/
theorem rline_at (d : De) (hg : GoodD d) (w : World) (ht : Tab w) (hv : RVars w) (h14 : 12 ≤ w.heap.size) :
    Calls Tryz.prog 33 #[.agg #[.string d.name, .int .i64 d.way, .int .i64 d.ty, .int .i64 d.init]] w fun e w' => e = .returned (.string (bts (lineT d))) ∧ Below w.heap.size w w' := by
  obtain ⟨nm, way, ty, init⟩ := d
  have hn := hg.name.2.1
  rcases hg.form with ⟨h1, h2, h3, h4⟩ | ⟨h1, h2, h3, h4, h5, h6, h7⟩
  · simp only at h1 h2 h3 h4 hn ⊢
    subst h3 h4
    exact rline_blk nm ty h1 h2 hn w
  · exact rline_var nm way ty init h1 h2 h3 h4 hn h6 h7 w ht hv h14

set_option maxRecDepth 100000 in
set_option maxHeartbeats 6400000 in
theorem rprint_at (p : List De × List St) (hg : GoodPr p) (hlen : (printT p).length ≤ 1000000) (S : Nat → Prop) (w : World) (a c : Value) (hd : IsDes S w p.1 a) (hs : IsSts S w p.2 c) (hS : ∀ c, S c → c < w.heap.size) (hv : RVars w) (ht : Tab w) (h14 : 12 ≤ w.heap.size) :
    Calls Tryz.prog 12 #[.agg #[a, c]] w fun e w' => e = .returned (.string (bts (printT p))) ∧ Below w.heap.size w w' := by
  obtain ⟨ds, bd⟩ := p
  simp only at hd hs
  obtain ⟨aa, ac, rfl⟩ := hd.val
  obtain ⟨ca, cc, rfl⟩ := sts_val hs
  have HD := hide hd
  have HS := hide hs
  have HSS := hide hS
  have HV := hide hv
  have HT := hide ht
  have HG := hide hg
  have hlen2 := hlen
  simp only [printT, List.length_append, List.length_cons, List.length_nil] at hlen2
  have HL := hide hlen2
  have hdl : ds.length ≤ 20 := hg.many
  have HO := hide (below_alloc w (.cells #[.slice aa ds.length ac, .slice ca bd.length cc] 25))
  have HN := hide (blk_new w (.cells #[.slice aa ds.length ac, .slice ca bd.length cc] 25))
  clear hd hs hS hv ht hg hlen hlen2
  go_enter Tryz.func12, Tryz.ntmps12
  go_wp2_with fail
  generalize (w.alloc (.cells #[.slice aa ds.length ac, .slice ca bd.length cc] 25)) = w2 at *
  go_loopw [3, 9] (fun o i wr => ∃ j : Nat, j ≤ ds.length ∧ i = .int .i64 j ∧ o = .string (bts (linesT (ds.take j))) ∧ Hid (Below w.heap.size w wr) ∧ Hid (wr.heap[w.heap.size]? = some (.cells #[.slice aa ds.length ac, .slice ca bd.length cc] 25 (0, 0)))) (fun _ i _ => ds.length - (intOf i).toNat)
  case atStart => exact ⟨0, Nat.zero_le _, rfl, rfl, HO, HN⟩
  case round =>
    obtain ⟨j, hj, rfl, rfl, hwr, hnr⟩ := hrel
    have HVW := hide (HV.out.below hwr.out)
    have HTW := hide (HT.out.below hwr.out h14)
    have HW14 := hide (Nat.le_trans h14 hwr.out.size)
    by_cases hlt : j < ds.length
    · have hji : (j : Int) < (ds.length : Int) := by omega
      obtain ⟨g, cap', hv, hSg⟩ := IsRow.addr HD.out (by omega)
      obtain ⟨rfl, rfl⟩ : aa = some ⟨g, 0, none⟩ ∧ ac = cap' := by cases hv; exact ⟨rfl, rfl⟩
      have HDW : Hid (IsDes S wr ds (.slice (some ⟨g, 0, none⟩) ds.length ac)) := IsRow.same HD.out fun c h1 h2 => hwr.out.block c (HSS.out c h1)
      have HTJ := hide (linesT_take ds j hlt)
      have HTL := hide (lines_len (ds.take (j + 1)) fun d hd => HG.out.decls d (List.mem_of_mem_take hd))
      have r0 : wr.cell? ⟨g, j * 4, none⟩ = some (.string ds[j].name) := HDW.out.cell rfl hlt (k := 0) rfl (by decide)
      have r1 : wr.cell? ⟨g, j * 4 + 1, none⟩ = some (.int .i64 ds[j].way) := HDW.out.cell rfl hlt (k := 1) rfl (by decide)
      have r2 : wr.cell? ⟨g, j * 4 + 2, none⟩ = some (.int .i64 ds[j].ty) := HDW.out.cell rfl hlt (k := 2) rfl (by decide)
      have r3 : wr.cell? ⟨g, j * 4 + 3, none⟩ = some (.int .i64 ds[j].init) := HDW.out.cell rfl hlt (k := 3) rfl (by decide)
      have HGD := hide (HG.out.decls ds[j] (List.getElem_mem hlt))
      generalize ds[j] = d at *
      obtain ⟨nm, way, ty, init⟩ := d
      simp only at r0 r1 r2 r3
      have HO2 := hide (below_alloc wr (.cells #[.string nm, .int .i64 way, .int .i64 ty, .int .i64 init] 64))
      have HLN := hide (rline_at ⟨nm, way, ty, init⟩ HGD.out (wr.alloc (.cells #[.string nm, .int .i64 way, .int .i64 ty, .int .i64 init] 64)) (HTW.out.below HO2.out HW14.out) (HVW.out.below HO2.out) (Nat.le_trans HW14.out HO2.out.size))
      have HNX : Hid (bts (linesT (ds.take (j + 1))) = bts (linesT (ds.take j)) ++ bts (lineT ⟨nm, way, ty, init⟩)) := by
        show _ = _
        rw [HTJ.out, bts_append]
      have hz : (bts (linesT (ds.take j))).size + (bts (lineT ⟨nm, way, ty, init⟩)).size ≤ 1000 := by
        rw [bts_size, bts_size]
        have h1 := HTL.out
        rw [HTJ.out, List.length_append, List.length_take] at h1
        omega
      generalize bts (linesT (ds.take j)) = O at *
      generalize bts (lineT ⟨nm, way, ty, init⟩) = LN at *
      have k1 : ∀ w, (Op.stringOp .add O LN).run Tryz.prog w = .ok (.string (O ++ LN)) w := fun w => cat_at 1000 hz (by omega) w
      clear hv hz
      go_wp2_with fail
      refine HLN.out.mono ?_
      rintro e w3 ⟨rfl, h3⟩
      have HB3 := hide (hwr.out.trans ((Below.step HO2.out h3).mono hwr.out.size))
      have HN3 := hide (Below.blk (Below.step HO2.out h3) hnr.out)
      clear h3
      go_wp2_with fail
      refine ⟨⟨j + 1, by omega, by go_num, ?_, HB3, HN3⟩, by simp [intOf]; omega⟩
      rw [HNX.out]
    · have HJ : Hid (j = ds.length) := (by omega : j = ds.length)
      have HE4 : Hid (linesT (ds.take j) = linesT ds) := by show _ = _; rw [HJ.out, List.take_length]
      rw [HE4.out]
      have c1 : wr.cell? ⟨w.heap.size, 1, none⟩ = some (.slice ca bd.length cc) := by rw [blk_cell hnr.out]; rfl
      have HCL := hide (rlines_all 8 bd HG.out.deep HG.out.body S wr _ [32, 32] (HS.out.same fun c h1 _ => hwr.out.block c (HSS.out c h1)) (fun c h => Nat.lt_of_lt_of_le (HSS.out c h) hwr.out.size) (by have := HL.out; omega) (by have := HG.out.deep; simp; simp only at this; omega) HTW.out HVW.out HW14.out)
      have HCB : Hid (bts [32, 32] = ⟨#[32, 32]⟩) := rfl
      rw [HCB.out] at HCL
      have HP : Hid (bts (printT (ds, bd)) = bts (linesT ds) ++ ⟨#[98, 101, 103, 105, 110, 10]⟩ ++ bts (stsT bd [32, 32]) ++ ⟨#[101, 110, 100, 10]⟩) := by
        show _ = _
        apply ba_ext
        simp only [printT, ba_app, bts_toList]
      have hz1 := bts_size (linesT ds)
      have hz2 := bts_size (stsT bd [32, 32])
      have hLL := HL.out
      have zb : (⟨#[98, 101, 103, 105, 110, 10]⟩ : ByteArray).size = 6 := rfl
      have ze : (⟨#[101, 110, 100, 10]⟩ : ByteArray).size = 4 := rfl
      generalize bts (linesT ds) = O at *
      generalize bts (stsT bd [32, 32]) = B at *
      have k1 : ∀ w, (Op.stringOp .add O ⟨#[98, 101, 103, 105, 110, 10]⟩).run Tryz.prog w = .ok (.string (O ++ ⟨#[98, 101, 103, 105, 110, 10]⟩)) w := fun w => cat_at 2000000 (by rw [zb]; omega) (by omega) w
      have k2 : ∀ w, (Op.stringOp .add (O ++ ⟨#[98, 101, 103, 105, 110, 10]⟩) B).run Tryz.prog w = .ok (.string (O ++ ⟨#[98, 101, 103, 105, 110, 10]⟩ ++ B)) w := fun w => cat_at 2000000 (by rw [ByteArray.size_append, zb]; omega) (by omega) w
      have k3 : ∀ w, (Op.stringOp .add (O ++ ⟨#[98, 101, 103, 105, 110, 10]⟩ ++ B) ⟨#[101, 110, 100, 10]⟩).run Tryz.prog w = .ok (.string (O ++ ⟨#[98, 101, 103, 105, 110, 10]⟩ ++ B ++ ⟨#[101, 110, 100, 10]⟩)) w := fun w => cat_at 2000000 (by simp only [ByteArray.size_append, zb, ze]; omega) (by omega) w
      clear hz1 hz2 hLL zb ze
      go_wp2_with fail
      refine HCL.out.mono ?_
      rintro e w3 ⟨rfl, h3⟩
      have HB3 := hide (hwr.out.trans (h3.mono hwr.out.size))
      clear h3
      go_wp2_with fail
      go_ret
      rw [HP.out]
      exact ⟨rfl, HB3.out⟩
end Go.Proofs.YtlbgdoajaplabaaGreatDoor
