/-
  CONTRACTS of the deferred catch in whole: what was thrown becomes the error; where nothing was, nothing is done.
  CONTRACT of program: declarations, and statements.
-/
import Derived.Defers
import Derived.Recover
import Derived.Test.YtiimnnancblbkaaDoorJMem
import Derived.Test.YtiimnnancblbkaaDoorDecls
import Derived.Test.YtiimnnancblbkaaDoorBranch
import Derived.Test.YtiimnnancblbkaaDoorJPast
namespace Go.Proofs.YtiimnnancblbkaaDoor
open Go.RowKit

theorem assert_at (a : Option Addr) (w : World) : (Instr.typeAssert (.iface 78 (.pointer a)) 20 78 true).run Tryd.prog w = .ok (.tuple #[.pointer a, .bool true]) w := by kernel_rfl

set_option maxRecDepth 100000 in
set_option maxHeartbeats 3200000 in
theorem catch_thrown (E A : Nat) (w : World) (u : Value) (hc : w.cell? ⟨E, 0, none⟩ = some u) (hz : w.frozen? ⟨E, 0, none⟩ = false) :
    CallsD Tryd.prog 28 #[.pointer (some ⟨E, 0, none⟩)] (.panicking [{ v := .iface 78 (.pointer (some ⟨A, 0, none⟩)), recovered := false }]) w fun e u' w' =>
      e = .returned (.tuple #[]) ∧ u' = .panicking [{ v := .iface 78 (.pointer (some ⟨A, 0, none⟩)), recovered := true }] ∧ w' = w.setCell ⟨E, 0, none⟩ (.iface 78 (.pointer (some ⟨A, 0, none⟩))) := by
  have hta := assert_at
  have hnot : ∀ (x : Bool) (w : World), (Op.unary .not (.bool x)).run Tryd.prog w = .ok (.bool (!x)) w := fun _ _ => rfl
  refine callsD_of_wpS Tryd.func28 rfl fun c₀ cs hu => ?_
  apply wpS_seq
  apply wpS_region
  simp [wpOpsS, go_sem, recoverD, hu, Tryd.ntmps28, Exit.thenS]
  have hst : (#[Value.pointer (some ⟨E, 0, none⟩)] ++ ((Array.replicate 16 undef).setIfInBounds 3 (.iface 78 (.pointer (some ⟨A, 0, none⟩)))).setIfInBounds 0 (.iface 78 (.pointer (some ⟨A, 0, none⟩)))) = #[.pointer (some ⟨E, 0, none⟩), .iface 78 (.pointer (some ⟨A, 0, none⟩)), undef, undef, .iface 78 (.pointer (some ⟨A, 0, none⟩)), undef, undef, undef, undef, undef, undef, undef, undef, undef, undef, undef, undef] := rfl
  rw [hst]
  clear hst
  refine wpS_of_wp ?_
  have hq1 : ∀ (t : TypeId) (x : Value) (w : World), (binOp .eql 20 (.iface t x) .nilIface).run Tryd.prog w = .ok (.bool false) w := fun _ _ _ => rfl
  have hq2 : ∀ (w : World), (binOp .eql 20 .nilIface .nilIface).run Tryd.prog w = .ok (.bool true) w := fun _ => rfl
  go_wp2_with fail
  simp [bodyPostS, results, Tryd.results28]

set_option maxRecDepth 100000 in
set_option maxHeartbeats 3200000 in
theorem catch_idle (E : Nat) (w : World) :
    CallsD Tryd.prog 28 #[.pointer (some ⟨E, 0, none⟩)] .returning w fun e u' w' => e = .returned (.tuple #[]) ∧ u' = .returning ∧ w' = w := by
  refine callsD_of_wpS Tryd.func28 rfl fun c₀ cs hu => ?_
  apply wpS_seq
  apply wpS_region
  simp [wpOpsS, go_sem, recoverD, hu, Tryd.ntmps28, Exit.thenS]
  have hst : (#[Value.pointer (some ⟨E, 0, none⟩)] ++ ((Array.replicate 16 undef).setIfInBounds 3 (.nilIface)).setIfInBounds 0 (.nilIface)) = #[.pointer (some ⟨E, 0, none⟩), .nilIface, undef, undef, .nilIface, undef, undef, undef, undef, undef, undef, undef, undef, undef, undef, undef, undef] := rfl
  rw [hst]
  clear hst
  refine wpS_of_wp ?_
  have hq1 : ∀ (t : TypeId) (x : Value) (w : World), (binOp .eql 20 (.iface t x) .nilIface).run Tryd.prog w = .ok (.bool false) w := fun _ _ _ => rfl
  have hq2 : ∀ (w : World), (binOp .eql 20 .nilIface .nilIface).run Tryd.prog w = .ok (.bool true) w := fun _ => rfl
  go_wp2_with fail
  cases c₀
  simp_all [bodyPostS, results, Tryd.results28]
end Go.Proofs.YtiimnnancblbkaaDoor
namespace Go.Proofs.YtiimnnancblbkaaDoor
open Go.RowKit

/-- a program in memory -/
abbrev PrRep (N : Nat) : World → Value → List De × List St → Prop := fun w' v p => ∃ a b, v = .agg #[a, b] ∧ IsDes (From N) w' p.1 a ∧ IsSts (From N) w' p.2 b
def put2 (w : World) (S : Nat) (c0 c1 : Value) : World := (w.setCell ⟨S, 0, none⟩ c0).setCell ⟨S, 1, none⟩ c1
theorem put2_other (w : World) {S b : Nat} (c0 c1 : Value) (h : b ≠ S) : (put2 w S c0 c1).heap[b]? = w.heap[b]? := by
  unfold put2
  simp only [set_other _ _ _ h]
theorem Rd.put2 {w : World} {R T cap k : Nat} {ts : List Tok} (h : Rd w R T cap ts k) {S : Nat} (c0 c1 : Value) (hR : S ≠ R) (hT : S ≠ T) (hg : 5 ≤ S) : Rd (put2 w S c0 c1) R T cap ts k :=
  (h.other 0 _ hR hT hg).other 1 _ hR hT hg
theorem Kept.put2 {R : Nat} {w w1 : World} (h : Kept R w w1) {S : Nat} (c0 c1 : Value) (hS : w.heap.size ≤ S) : Kept R w (put2 w1 S c0 c1) :=
  (h.new 0 _ hS).new 1 _ hS

set_option maxRecDepth 100000 in
set_option maxHeartbeats 6400000 in
theorem program_at (f : Nat) {w : World} {R T cap : Nat} {ts : List Tok} (h : Rd w R T cap ts 0) (hout : progP ts f ≠ .out) :
    Calls Tryd.prog 17 #[.pointer (some ⟨R, 0, none⟩)] w (Rds w R T cap ts (PrRep w.heap.size) (progP ts f)) := by
  have HR := hide h
  have HO := hide hout
  have HOD : Hid (declsP ts f 0 [] ≠ .out) := fun e => hout (by simp only [progP, e, Res.bind])
  have HSR := hide (show w.heap.size ≠ R by have := h.Rlt; omega)
  have HST := hide (show w.heap.size ≠ T by have := h.Tlt; omega)
  have HSB := hide (show 5 ≤ w.heap.size by have := h.Rlt; have := h.big; omega)
  have HWS := hide (Nat.le_refl w.heap.size)
  clear h hout
  go_enter Tryd.func17, Tryd.ntmps17
  go_wp2_with fail
  have HB1 := hide (below_alloc w (.cells #[.slice none 0 0, .slice none 0 0] 27))
  have HB2 := hide (below_alloc (w.alloc (.cells #[.slice none 0 0, .slice none 0 0] 27)) (.cells #[.slice none 0 0, .slice none 0 0] 27))
  have HS2 := hide (Below.blk HB2.out (blk_new w (.cells #[.slice none 0 0, .slice none 0 0] 27)))
  have HV2 : Hid (((w.alloc (.cells #[.slice none 0 0, .slice none 0 0] 27)).alloc (.cells #[.slice none 0 0, .slice none 0 0] 27)).heap[w.heap.size + 1]? = some (.cells #[.slice none 0 0, .slice none 0 0] 27 (0, 0))) := blk_new2 w _ _
  have HD2 := hide (HR.out.below (Below.step HB1.out HB2.out))
  have HK2 := hide (Kept.of (R := R) (Below.step HB1.out HB2.out))
  have HVR := hide (show w.heap.size + 1 ≠ R by have := HR.out.Rlt; omega)
  have HVT := hide (show w.heap.size + 1 ≠ T by have := HR.out.Tlt; omega)
  have HVB := hide (show 5 ≤ w.heap.size + 1 by have := HSB.out; omega)
  have HSV := hide (show w.heap.size ≠ w.heap.size + 1 by omega)
  have HWV := hide (show w.heap.size ≤ w.heap.size + 1 by omega)
  generalize ((w.alloc (.cells #[.slice none 0 0, .slice none 0 0] 27)).alloc (.cells #[.slice none 0 0, .slice none 0 0] 27)) = w2 at *
  generalize w.heap.size + 1 = V at *
  have HVLT := hide (blk_lt HV2.out)
  have HSLT := hide (blk_lt HS2.out)
  have HRLT := hide HD2.out.Rlt
  refine (decls_at f HD2.out HOD.out).mono ?_
  rintro e w3 h3
  rcases h3.cases with ⟨er3, p3, A3, hr3, rfl, hA3, hk3⟩ | ⟨a3, k3, v3, hr3, rfl, hv3, hd3, hk3⟩
  · have Hr3 := hide hr3
    have HA3 := hide hA3
    have HK3 := hide (HK2.out.trans hk3)
    clear h3 hr3 hA3 hk3
    go_wp2_with fail
    exact ⟨rfl, Rds.bad (by simp only [progP, Hr3.out, Res.bind]) HK3.out HA3.out⟩
  · have Hr3 := hide hr3
    have HD3 := hide hd3
    have HK3 := hide (HK2.out.trans hk3)
    obtain ⟨da, dc, rfl⟩ := hv3.val
    have HX3 := hide hv3
    clear hv3
    have HV3 := hide (hk3.blk HV2.out HVR.out)
    have HS3 := hide (hk3.blk HS2.out HSR.out)
    have HK24 : Hid (w2.heap.size ≤ (w3.setCell ⟨V, 0, none⟩ (.slice da a3.length dc)).heap.size) := by show _ ≤ _; rw [set_size]; exact hk3.size
    clear h3 hr3 hd3 hk3
    have HV4 := hide (blk_set HV3.out 0 (.slice da a3.length dc))
    have HS4 : Hid ((w3.setCell ⟨V, 0, none⟩ (.slice da a3.length dc)).heap[w.heap.size]? = _) := (set_other _ 0 _ HSV.out).trans HS3.out
    have HD4 := hide (HD3.out.other 0 (.slice da a3.length dc) HVR.out HVT.out HVB.out)
    have HK4 := hide (HK3.out.new 0 (.slice da a3.length dc) HWV.out)
    have HX4 := hide (HX3.out.same (w' := w3.setCell ⟨V, 0, none⟩ (.slice da a3.length dc)) fun b h1 _ => set_other _ 0 _ (by have : w2.heap.size ≤ b := h1; have := HVLT.out; omega))
    have vv0 : w3.cell? ⟨V, 0, none⟩ = some (.slice none 0 0) := by rw [blk_cell HV3.out]; rfl
    have vvf : ∀ i, w3.frozen? ⟨V, i, none⟩ = false := blk_frozen HV3.out
    go_wp2_with fail
    clear vv0 vvf
    generalize (w3.setCell ⟨V, 0, none⟩ (.slice da a3.length dc)) = w4 at *
    refine (need_at [98, 101, 103, 105, 110] (by decide) HD4.out).mono ?_
    rintro e w5 h5
    rcases h5.cases with ⟨er5, p5, A5, hr5, rfl, hA5, hk5⟩ | ⟨a5, k5, v5, hr5, rfl, hv5, hd5, hk5⟩
    · have Hr5 := hide hr5
      have HA5 := hide hA5
      have HK5 := hide (HK4.out.trans hk5)
      clear h5 hr5 hA5 hk5
      go_wp2_with fail
      exact ⟨rfl, Rds.bad (by simp only [progP, Hr3.out, Hr5.out, Res.bind]) HK5.out HA5.out⟩
    · have Hr5 := hide hr5
      have HD5 := hide hd5
      have HK5 := hide (HK4.out.trans hk5)
      subst hv5
      have HV5 := hide (hk5.blk HV4.out HVR.out)
      have HS5 := hide (hk5.blk HS4.out HSR.out)
      have HX5 := hide (HX4.out.same fun b h1 h2 => hk5.block b h2 (by have : w2.heap.size ≤ b := h1; have := HRLT.out; omega))
      have HK25 := hide (Nat.le_trans HK24.out hk5.size)
      clear h5 hr5 hd5 hk5
      go_wp2_with fail
      have HOS : Hid (stmtsP ts f 0 k5 [] ≠ .out) := fun e => HO.out (by simp only [progP, Hr3.out, Hr5.out, e, Res.bind])
      refine (stmts_at f w5 R T cap ts 0 k5 HD5.out (by omega) HOS.out).mono ?_
      rintro e w7 h7
      rcases h7.cases with ⟨er7, p7, A7, hr7, rfl, hA7, hk7⟩ | ⟨a7, k7, v7, hr7, rfl, hv7, hd7, hk7⟩
      · have Hr7 := hide hr7
        have HA7 := hide hA7
        have HK7 := hide (HK5.out.trans hk7)
        clear h7 hr7 hA7 hk7
        go_wp2_with fail
        exact ⟨rfl, Rds.bad (by simp only [progP, Hr3.out, Hr5.out, Hr7.out, Res.bind]) HK7.out HA7.out⟩
      · have Hr7 := hide hr7
        have HD7 := hide hd7
        have HK7 := hide (HK5.out.trans hk7)
        obtain ⟨sa, sc, rfl⟩ := (show ∃ (a : Option Addr) (c : Nat), v7 = .slice a a7.length c from by obtain ⟨cs, hr, _⟩ := hv7; exact hr.val)
        have HY7 := hide (hv7.imp fun b _ h => Nat.le_trans HK25.out h)
        clear hv7
        have HV7 := hide (hk7.blk HV5.out HVR.out)
        have HS7 := hide (hk7.blk HS5.out HSR.out)
        have HX7 := hide (HX5.out.same fun b h1 h2 => hk7.block b h2 (by have : w2.heap.size ≤ b := h1; have := HRLT.out; omega))
        clear h7 hr7 hd7 hk7
        have HV8 := hide (blk_set HV7.out 1 (.slice sa a7.length sc))
        have HS8 : Hid ((w7.setCell ⟨V, 1, none⟩ (.slice sa a7.length sc)).heap[w.heap.size]? = _) := (set_other _ 1 _ HSV.out).trans HS7.out
        have HD8 := hide (HD7.out.other 1 (.slice sa a7.length sc) HVR.out HVT.out HVB.out)
        have HK8 := hide (HK7.out.new 1 (.slice sa a7.length sc) HWV.out)
        have HX8 := hide (HX7.out.same (w' := w7.setCell ⟨V, 1, none⟩ (.slice sa a7.length sc)) fun b h1 _ => set_other _ 1 _ (by have : w2.heap.size ≤ b := h1; have := HVLT.out; omega))
        have HY8 := hide (HY7.out.same (w' := w7.setCell ⟨V, 1, none⟩ (.slice sa a7.length sc)) fun b h1 _ => set_other _ 1 _ (by have : w2.heap.size ≤ b := h1; have := HVLT.out; omega))
        have vv1 : w7.cell? ⟨V, 1, none⟩ = some (.slice none 0 0) := by rw [blk_cell HV7.out]; rfl
        have vvf : ∀ i, w7.frozen? ⟨V, i, none⟩ = false := blk_frozen HV7.out
        go_wp2_with fail
        clear vv1 vvf
        generalize (w7.setCell ⟨V, 1, none⟩ (.slice sa a7.length sc)) = w8 at *
        refine (need_at [101, 110, 100] (by decide) HD8.out).mono ?_
        rintro e w9 h9
        rcases h9.cases with ⟨er9, p9, A9, hr9, rfl, hA9, hk9⟩ | ⟨a9, k9, v9, hr9, rfl, hv9, hd9, hk9⟩
        · have Hr9 := hide hr9
          have HA9 := hide hA9
          have HK9 := hide (HK8.out.trans hk9)
          clear h9 hr9 hA9 hk9
          go_wp2_with fail
          exact ⟨rfl, Rds.bad (by simp only [progP, Hr3.out, Hr5.out, Hr7.out, Hr9.out, Res.bind]) HK9.out HA9.out⟩
        · have Hr9 := hide hr9
          have HD9 := hide hd9
          have HK9 := hide (HK8.out.trans hk9)
          subst hv9
          have HV9 := hide (hk9.blk HV8.out HVR.out)
          have HS9 := hide (hk9.blk HS8.out HSR.out)
          have HX9 := hide (HX8.out.same fun b h1 h2 => hk9.block b h2 (by have : w2.heap.size ≤ b := h1; have := HRLT.out; omega))
          have HY9 := hide (HY8.out.same fun b h1 h2 => hk9.block b h2 (by have : w2.heap.size ≤ b := h1; have := HRLT.out; omega))
          clear h9 hr9 hd9 hk9
          have v0 : w9.cell? ⟨V, 0, none⟩ = some (.slice da a3.length dc) := by rw [blk_cell HV9.out]; rfl
          have v1 : w9.cell? ⟨V, 1, none⟩ = some (.slice sa a7.length sc) := by rw [blk_cell HV9.out]; rfl
          have s0 : w9.cell? ⟨w.heap.size, 0, none⟩ = some (.slice none 0 0) := by rw [blk_cell HS9.out]; rfl
          have s1 : w9.cell? ⟨w.heap.size, 1, none⟩ = some (.slice none 0 0) := by rw [blk_cell HS9.out]; rfl
          have sf : ∀ i, w9.frozen? ⟨w.heap.size, i, none⟩ = false := blk_frozen HS9.out
          go_wp2_with fail
          refine bodyPost_ret (v := .agg #[.slice da a3.length dc, .slice sa a7.length sc]) (by simp [results, Tryd.results17, go_sem, s0, s1]) rfl ?_
          refine Rds.ok (a := (a3, a7)) (k' := k9) (by simp only [progP, Hr3.out, Hr5.out, Hr7.out, Hr9.out, Res.bind]) (Kept.put2 HK9.out _ _ HWS.out) (Rd.put2 HD9.out _ _ HSR.out HST.out HSB.out) ⟨_, _, rfl, ?_, ?_⟩
          · exact (HX9.out.same fun b h1 _ => put2_other _ _ _ (by have : w2.heap.size ≤ b := h1; have := HSLT.out; omega)).imp fun b _ h => Nat.le_trans HK2.out.size h
          · exact (HY9.out.same fun b h1 _ => put2_other _ _ _ (by have : w2.heap.size ≤ b := h1; have := HSLT.out; omega)).imp fun b _ h => Nat.le_trans HK2.out.size h
end Go.Proofs.YtiimnnancblbkaaDoor
