/-
  CONTRACT of device.New.
-/
import Derived.Test.YtndpehjbepfbkaaGreatDoorDSt
import Derived.Test.YtndpehjbepfbkaaGreatDoorLNew
import Derived.Test.YtndpehjbepfbkaaGreatDoorIPa
set_option linter.unusedSimpArgs false
set_option linter.unusedVariables false
namespace Go.Proofs.YtndpehjbepfbkaaGreatDoor
open Go.RowKit

/-- where a device's blocks lie -/
def DevS (B p D b : Nat) : Prop := B ≤ b ∧ b ≠ p ∧ b ≠ D
/-- what New comes to, of an image that was read -/
def NewOf (gn : Nat) (rs : List Rg) (ls : List Lt) (os ins outs : List Int) (B : Nat) (e : Ending) (w' : World) : Prop :=
  (gn = wideTo ins ins.length ∧ os.length = wideTo outs outs.length ∧ ∃ (D : Nat) (s : NetQ), e = .returned (.tuple #[.pointer (some ⟨D, 0, none⟩), .nilIface]) ∧ DevAt D s (DevS B s.p D) w' gn rs ls os (initL rs) ins outs ∧ B ≤ D ∧ B ≤ s.p) ∨
  (¬ (gn = wideTo ins ins.length ∧ os.length = wideTo outs outs.length) ∧ e = .returned (.tuple #[.pointer none, .iface 25 (.int .i64 2)]))
/-- what New comes to -/
def NewI (l : List UInt8) (ins outs : List Int) (B : Nat) (e : Ending) (w' : World) : Prop :=
  ∃ (given : Nat) (rs : List Rg) (ls : List Lt) (os : List Int) (l' : List UInt8), NetRd l given rs ls os l' ∧
    ((RightT given rs ls os ∧ netB given rs ls os = l ∧ NewOf given rs ls os ins outs B e w') ∨
      ((rightT given rs ls os = false ∨ netB given rs ls os ≠ l) ∧ e = .returned (.tuple #[.pointer none, .iface 25 (.int .i64 3)])))

set_option maxRecDepth 100000 in
set_option maxHeartbeats 6400000 in
theorem dnew_no {S T : Nat → Prop} (l : ByteArray) (ins outs : List Int) (ia oa : Option Addr) (ic oc : Nat) (w : World) (hi : Lies S w ia (intsC ins)) (ho : Lies T w oa (intsC outs)) (hil : ins.length ≤ 10000) (hol : outs.length ≤ 10000) (h : (kindsOk ins ins.length && kindsOk outs outs.length) = false) :
    Calls Tryz.prog 5 #[.string l, .slice ia ins.length ic, .slice oa outs.length oc] w fun e w' => e = .returned (.tuple #[.pointer none, .iface 25 (.int .i64 1)]) ∧ Below w.heap.size w w' := by
  have HVI := hide (values_at ins ia ic w hi (by omega))
  have HVO := hide (values_at outs oa oc w ho (by omega))
  clear hi ho
  cases hk : kindsOk ins ins.length with
  | false =>
    rw [hk] at HVI
    clear hk h HVO
    go_enter Tryz.func5, Tryz.ntmps5
    go_wp2_with fail
    refine HVI.out.mono ?_
    rintro e w1 ⟨rfl, rfl⟩
    go_wp2_with fail
    go_ret2
    exact ⟨rfl, Below.refl _ _⟩
  | true =>
    rw [hk, Bool.true_and] at h
    rw [hk] at HVI
    rw [h] at HVO
    clear hk h
    go_enter Tryz.func5, Tryz.ntmps5
    go_wp2_with fail
    refine HVI.out.mono ?_
    rintro e w1 ⟨rfl, rfl⟩
    go_wp2_with fail
    refine HVO.out.mono ?_
    rintro e w1 ⟨rfl, rfl⟩
    go_wp2_with fail
    go_ret2
    exact ⟨rfl, Below.refl _ _⟩

set_option maxRecDepth 100000 in
set_option maxHeartbeats 12800000 in
theorem dnew_at {S T : Nat → Prop} (l : List UInt8) (ins outs : List Int) (ia oa : Option Addr) (ic oc : Nat) (w : World) (hi : Lies S w ia (intsC ins)) (ho : Lies T w oa (intsC outs)) (hil : ins.length ≤ 10000) (hol : outs.length ≤ 10000) (hl : l.length ≤ 1000000) (hk1 : kindsOk ins ins.length = true) (hk2 : kindsOk outs outs.length = true) :
    Calls Tryz.prog 5 #[.string ⟨l.toArray⟩, .slice ia ins.length ic, .slice oa outs.length oc] w fun e w' => NewI l ins outs w.heap.size e w' ∧ Below w.heap.size w w' := by
  have HVI := hide (values_at ins ia ic w hi (by omega))
  have HVO := hide (values_at outs oa oc w ho (by omega))
  rw [hk1] at HVI
  rw [hk2] at HVO
  have HPA := hide (Parse_at l w hl)
  have HI := hide hi
  have HO := hide ho
  have hqn : ∀ (v : Value) (w : World), (binOp .neq 30 (.iface 25 v) .nilIface).run Tryz.prog w = .ok (.bool true) w := fun _ _ => rfl
  have hwi8 := wideTo_le ins ins.length
  have hwo8 := wideTo_le outs outs.length
  clear hi ho hl hk1 hk2
  go_enter Tryz.func5, Tryz.ntmps5
  go_wp2_with fail
  refine HVI.out.mono ?_
  rintro e w1 ⟨rfl, rfl⟩
  go_wp2_with fail
  refine HVO.out.mono ?_
  rintro e w1 ⟨rfl, rfl⟩
  clear HVI HVO
  go_wp2_with fail
  refine HPA.out.mono ?_
  rintro e w2 ⟨⟨gn, rs, ls, os, l', hrd, hc⟩, hb2⟩
  have HB2 := hide hb2
  have HRD := hide hrd
  clear hb2 hrd HPA
  rcases hc with ⟨hR, hN, q, rfl, hnt, hq⟩ | ⟨hn, rfl⟩
  · have HR := hide hR
    have HN := hide hN
    have HNT := hide hnt
    have hol2 := hR.o1
    have hgl2 := hR.g1
    have HWI := hide (fun n => wide_at ins ia ic (w2.drewN n) ((HI.out.below HB2.out).below (Below.drewNs (Below.refl _ _) n)) (by omega))
    have HWO := hide (fun n => wide_at outs oa oc (w2.drewN n) ((HO.out.below HB2.out).below (Below.drewNs (Below.refl _ _) n)) (by omega))
    have HII : Hid (wideTo ins ins.length = wideTo ins ins.length) := hide rfl
    have HOO : Hid (wideTo outs outs.length = wideTo outs outs.length) := hide rfl
    generalize hwin : wideTo ins ins.length = wi at HWI HII hwi8
    generalize hwon : wideTo outs outs.length = wo at HWO HOO hwo8
    have HWN := hide hwin
    have HWM := hide hwon
    have c0 := HNT.out.c0
    have c3 := HNT.out.c3
    clear hR hN hnt hwin hwon HII HOO
    by_cases hgi : gn = wi
    · have he1 : ((gn : Int) != (wi : Int)) = false := by simp [hgi]
      have HGI := hide hgi
      by_cases hoo : os.length = wo
      · have he2 : ((os.length : Int) != (wo : Int)) = false := by simp [hoo]
        have HOO := hide hoo
        clear hgi hoo
        go_wp2_with fail
        go_quiet (first | (with_reducible exact Calls.quiet_of_same (HWI.out _)) | (with_reducible exact Calls.quiet_of_same (HWO.out _)))
        go_wp2_with fail
        have HB3 := hide (Below.drewNs HB2.out nq)
        have HCN := hide (lnew_at (HNT.out.below (Below.drewNs (Below.refl _ _) nq)) HR.out)
        clear c0 c3 he1 he2
        generalize w2.drewN nq = w3 at *
        refine HCN.out.mono ?_
        rintro e w4 ⟨⟨sp, rfl, hsim, hspB⟩, hb4⟩
        have HB4 := hide (Below.step HB3.out hb4)
        have HSIM := hide hsim
        have HSPB := hide hspB
        have HSPL := hide hsim.lt
        have HB34 := hide hb4
        clear hsim hspB hb4 HCN
        have HCI := hide (cloneI_at ins ia ic w4 (HI.out.below HB4.out) (by omega))
        go_wp2_with fail
        refine HCI.out.mono ?_
        rintro e w5 ⟨⟨ia', ic', rfl, hi5⟩, hb5⟩
        have HB5 := hide (Below.step HB4.out hb5)
        have HI5 := hide hi5
        have HB45 := hide hb5
        clear hi5 hb5 HCI
        have HCO := hide (cloneI_at outs oa oc w5 (HO.out.below HB5.out) (by omega))
        go_wp2_with fail
        refine HCO.out.mono ?_
        rintro e w6 ⟨⟨oa', oc', rfl, ho6⟩, hb6⟩
        have HB6 := hide (Below.step HB5.out hb6)
        have HO6 := hide ho6
        have HB56 := hide hb6
        clear ho6 hb6 HCO
        have HB7 := hide (below_alloc w6 (.cells #[.pointer (some ⟨sp.p, 0, none⟩), .slice ia' ins.length ic', .slice oa' outs.length oc'] 65))
        have HN7 := hide (blk_new w6 (.cells #[.pointer (some ⟨sp.p, 0, none⟩), .slice ia' ins.length ic', .slice oa' outs.length oc'] 65))
        go_wp2_with fail
        go_ret2
        have z3 := HB3.out.size
        have z4 := HB34.out.size
        have z5 := HB45.out.size
        have z6 := HB56.out.size
        have zp := HSPB.out
        have zl := HSPL.out
        refine ⟨⟨gn, rs, ls, os, l', HRD.out, .inl ⟨HR.out, HN.out, .inl ⟨HWN.out ▸ HGI.out, HWM.out ▸ HOO.out, w6.heap.size, sp, rfl, ⟨⟨ia', ic', oa', oc', HN7.out, ?_, ?_⟩, ?_, by omega, fun h => h.2.2 rfl⟩, by omega, by omega⟩⟩⟩, Below.step HB6.out HB7.out⟩
        · exact ((HI5.out.below HB56.out).imp fun b hl hb => (⟨by have : w4.heap.size ≤ b := hb; omega, by have : w4.heap.size ≤ b := hb; omega, by omega⟩ : DevS w1.heap.size sp.p w6.heap.size b)).below HB7.out
        · exact (HO6.out.imp fun b hl hb => (⟨by have : w5.heap.size ≤ b := hb; omega, by have : w5.heap.size ≤ b := hb; omega, by omega⟩ : DevS w1.heap.size sp.p w6.heap.size b)).below HB7.out
        · exact (((HSIM.out.below HB45.out).below HB56.out).imp (fun b hl hb => (⟨by have := hb.1; omega, hb.2, by omega⟩ : DevS w1.heap.size sp.p w6.heap.size b)) (fun h => h.2.1 rfl)).below HB7.out
      · have he2 : ((os.length : Int) != (wo : Int)) = true := by simp; omega
        have HOO : Hid (os.length ≠ wo) := hide hoo
        clear hgi hoo
        go_wp2_with fail
        go_quiet (first | (with_reducible exact Calls.quiet_of_same (HWI.out _)) | (with_reducible exact Calls.quiet_of_same (HWO.out _)))
        go_wp2_with fail
        go_ret2
        exact ⟨⟨gn, rs, ls, os, l', HRD.out, .inl ⟨HR.out, HN.out, .inr ⟨fun h => HOO.out (HWM.out ▸ h.2), rfl⟩⟩⟩, Below.drewNs HB2.out _⟩
    · have he1 : ((gn : Int) != (wi : Int)) = true := by simp; omega
      have HGI : Hid (gn ≠ wi) := hide hgi
      clear hgi
      go_wp2_with fail
      go_quiet (first | (with_reducible exact Calls.quiet_of_same (HWI.out _)) | (with_reducible exact Calls.quiet_of_same (HWO.out _)))
      go_wp2_with fail
      go_ret2
      exact ⟨⟨gn, rs, ls, os, l', HRD.out, .inl ⟨HR.out, HN.out, .inr ⟨fun h => HGI.out (HWN.out ▸ h.1), rfl⟩⟩⟩, Below.drewNs HB2.out _⟩
  · have HN := hide hn
    clear hn
    go_wp2_with fail
    go_ret2
    exact ⟨⟨gn, rs, ls, os, l', HRD.out, .inr ⟨HN.out, rfl⟩⟩, HB2.out⟩
end Go.Proofs.YtndpehjbepfbkaaGreatDoor
