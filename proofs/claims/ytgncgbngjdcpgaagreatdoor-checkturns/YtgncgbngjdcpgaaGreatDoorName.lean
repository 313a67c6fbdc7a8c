/-
  CONTRACTS of name, kind, first: what the reader reads of names and of types.
-/
import Derived.Test.YtgncgbngjdcpgaaGreatDoorBlocks
namespace Go.Proofs.YtgncgbngjdcpgaaGreatDoor
open Go.RowKit

theorem kindZ (n : Nat) : (((n : Nat) : Int) == 1) = (n == 1) := by
  cases h : (n == 1) with
  | true => rw [beq_iff_eq] at *; omega
  | false => rw [beq_eq_false_iff_ne] at *; omega

set_option maxRecDepth 100000 in
set_option maxHeartbeats 3200000 in
theorem name_at {w : World} {R T cap : Nat} {ts : List Tok} {k : Nat} (h : Rd w R T cap ts k) :
    Calls Tryz.prog 131 #[.pointer (some ⟨R, 0, none⟩)] w (Rds w R T cap ts (fun _ v s => v = .string s) (nameP ts k)) := by
  have hnot : ∀ (x : Bool) (w : World), (Op.unary .not (.bool x)).run Tryz.prog w = .ok (.bool (!x)) w := fun _ _ => rfl
  have q1 := fld1
  have HR := hide h
  have hlt := h.lt
  have HNX := hide (h.fit.next k h.lt)
  clear h
  cases hn : isNm (tk ts k) with
  | false =>
    have hw : nameP ts k = .bad 3 (tk ts k).pos := by simp only [nameP, hn, Bool.false_eq_true, if_false]
    rw [hw]
    have HI : Hid ((((tk ts k).kind : Int) == 1 && !keptL.contains (tk ts k).text.toList) = false) := by rw [kindZ]; exact hn
    clear hw hn hlt
    go_enter Tryz.func131, Tryz.ntmps131
    go_wp2_with fail
    refine (now_at HR.out).mono ?_
    rintro e w1 ⟨rfl, hb⟩
    have HB := hide hb
    clear hb
    go_wp2_with fail
    refine (isName_at _ _ _ w1 (HR.out.vars.below HB.out)).mono ?_
    rintro e w2 ⟨rfl, hb⟩
    rw [HI.out]
    have HC := hide (Below.step HB.out hb)
    clear hb
    go_wp2_with fail
    refine (wrong_at 3 (HR.out.below HC.out)).mono ?_
    rintro e w3 ⟨A, rfl, hA, hb⟩
    have HA := hide hA
    have HD := hide (Below.step HC.out hb)
    clear hA hb
    go_wp2_with fail
    exact ⟨rfl, Kept.of HD.out, A, rfl, HA.out⟩
  | true =>
    have HI : Hid ((((tk ts k).kind : Int) == 1 && !keptL.contains (tk ts k).text.toList) = true) := by rw [kindZ]; exact hn
    have HK0 : Hid ((tk ts k).kind ≠ 0) := by
      intro h0
      simp [isNm, h0] at hn
    by_cases hs : (tk ts k).text.size ≤ 12
    · have hw : nameP ts k = .ok (tk ts k).text (k + 1) := by simp only [nameP, hn, if_true, hs]
      rw [hw]
      have hs' : ¬ ((12 : Int) < ((tk ts k).text.size : Int)) := by omega
      clear hw hn hlt hs
      go_enter Tryz.func131, Tryz.ntmps131
      go_wp2_with fail
      refine (now_at HR.out).mono ?_
      rintro e w1 ⟨rfl, hb⟩
      have HB := hide hb
      clear hb
      go_wp2_with fail
      refine (isName_at _ _ _ w1 (HR.out.vars.below HB.out)).mono ?_
      rintro e w2 ⟨rfl, hb⟩
      rw [HI.out]
      have HC := hide (Below.step HB.out hb)
      clear hb
      go_wp2_with fail
      refine (now_at (HR.out.below HC.out)).mono ?_
      rintro e w3 ⟨rfl, hb⟩
      have HD := hide (Below.step HC.out hb)
      clear hb
      go_wp2_with fail
      refine (take_at (HR.out.below HD.out) (HNX.out HK0.out)).mono ?_
      rintro e w4 ⟨rfl, hd, hk⟩
      have HE := hide hd
      have HF := hide ((Kept.of HD.out).trans hk)
      clear hd hk
      go_wp2_with fail
      go_ret
      exact ⟨HF.out, HE.out, _, rfl, rfl⟩
    · have hw : nameP ts k = .bad 4 (tk ts k).pos := by simp only [nameP, hn, if_true, hs, if_false]
      rw [hw]
      have hs' : ((12 : Int) < ((tk ts k).text.size : Int)) := by omega
      clear hw hn hlt hs
      go_enter Tryz.func131, Tryz.ntmps131
      go_wp2_with fail
      refine (now_at HR.out).mono ?_
      rintro e w1 ⟨rfl, hb⟩
      have HB := hide hb
      clear hb
      go_wp2_with fail
      refine (isName_at _ _ _ w1 (HR.out.vars.below HB.out)).mono ?_
      rintro e w2 ⟨rfl, hb⟩
      rw [HI.out]
      have HC := hide (Below.step HB.out hb)
      clear hb
      go_wp2_with fail
      refine (now_at (HR.out.below HC.out)).mono ?_
      rintro e w3 ⟨rfl, hb⟩
      have HD := hide (Below.step HC.out hb)
      clear hb
      go_wp2_with fail
      refine (wrong_at 4 (HR.out.below HD.out)).mono ?_
      rintro e w4 ⟨A, rfl, hA, hb⟩
      have HA := hide hA
      have HE := hide (Below.step HD.out hb)
      clear hA hb
      go_wp2_with fail
      exact ⟨rfl, Kept.of HE.out, A, rfl, HA.out⟩

set_option maxRecDepth 100000 in
set_option maxHeartbeats 3200000 in
theorem kind_at {w : World} {R T cap : Nat} {ts : List Tok} {k : Nat} (h : Rd w R T cap ts k) :
    Calls Tryz.prog 132 #[.pointer (some ⟨R, 0, none⟩)] w (Rds w R T cap ts (fun _ v (n : Nat) => v = .int .i64 n) (kindP ts k)) := by
  have d1 : w.cell? ⟨4, 1, none⟩ = some (.string ⟨#[98, 111, 111, 108]⟩) := by rw [blk_cell h.vars.types]; rfl
  have HR := hide h
  clear h
  cases hn : (tx ts k == [98, 111, 111, 108]) with
  | true =>
    have HN := hide hn
    clear hn
    go_enter Tryz.func132, Tryz.ntmps132
    go_wp2_with fail
    refine (yes_at [98, 111, 111, 108] (by decide) HR.out HN.out).mono ?_
    rintro e w1 ⟨rfl, hd1, hk1⟩
    have HD1 := hide hd1
    have HK1 := hide hk1
    clear hd1 hk1
    go_wp2_with fail
    go_ret
    exact Rds.ok (by simp only [kindP, HN.out, if_true]) HK1.out HD1.out rfl
  | false =>
    have HN := hide hn
    clear hn
    go_enter Tryz.func132, Tryz.ntmps132
    go_wp2_with fail
    refine (no_at [98, 111, 111, 108] HR.out HN.out).mono ?_
    rintro e w1 ⟨rfl, hd1, hk1⟩
    have HD1 := hide hd1
    have HK1 := hide hk1
    have d2 : w1.cell? ⟨4, 2, none⟩ = some (.string ⟨#[98, 121, 116, 101]⟩) := by rw [blk_cell hd1.vars.types]; rfl
    clear hd1 hk1
    go_wp2_with fail
    refine (need_at [98, 121, 116, 101] (by decide) HD1.out).mono ?_
    rintro e w2 h2
    rcases h2.cases with ⟨er2, p2, A2, hr2, rfl, hA2, hk2⟩ | ⟨a2, k2, v2, hr2, rfl, hv2, hd2, hk2⟩
    · have Hr2 := hide hr2
      have HA2 := hide hA2
      have HK2 := hide (HK1.out.trans hk2)
      clear h2 hr2 hA2 hk2
      go_wp2_with fail
      exact ⟨rfl, Rds.bad (by simp only [kindP, HN.out, Bool.false_eq_true, if_false, Hr2.out, Res.bind]) HK2.out HA2.out⟩
    · have Hr2 := hide hr2
      have HD2 := hide hd2
      have HK2 := hide (HK1.out.trans hk2)
      subst hv2
      clear h2 hr2 hd2 hk2
      go_wp2_with fail
      go_ret
      exact Rds.ok (by simp only [kindP, HN.out, Bool.false_eq_true, if_false, Hr2.out, Res.bind]) HK2.out HD2.out rfl
end Go.Proofs.YtgncgbngjdcpgaaGreatDoor
