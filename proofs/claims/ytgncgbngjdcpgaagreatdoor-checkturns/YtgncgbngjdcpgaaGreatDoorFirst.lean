/-
  CONTRACTS of first and decl: a declaration.
-/
import Derived.Test.YtgncgbngjdcpgaaGreatDoorByte
namespace Go.Proofs.YtgncgbngjdcpgaaGreatDoor
open Go.RowKit

set_option maxRecDepth 100000 in
set_option maxHeartbeats 3200000 in
theorem first_at {w : World} {R T cap : Nat} {ts : List Tok} {k : Nat} (ty : Nat) (h : Rd w R T cap ts k) :
    Calls Tryz.prog 133 #[.pointer (some ⟨R, 0, none⟩), .int .i64 ty] w (Rds w R T cap ts (fun _ v (n : Nat) => v = .int .i64 n) (firstP ts ty k)) := by
  have hnot : ∀ (x : Bool) (w : World), (Op.unary .not (.bool x)).run Tryz.prog w = .ok (.bool (!x)) w := fun _ _ => rfl
  have HR := hide h
  clear h
  cases hn : (tx ts k == [61]) with
  | false =>
    have HN := hide hn
    clear hn
    go_enter Tryz.func133, Tryz.ntmps133
    go_wp2_with fail
    refine (no_at [61] HR.out HN.out).mono ?_
    rintro e w1 ⟨rfl, hd1, hk1⟩
    have HD1 := hide hd1
    have HK1 := hide hk1
    clear hd1 hk1
    go_wp2_with fail
    go_ret
    exact Rds.ok (a := 0) (by simp only [firstP, HN.out, Bool.false_eq_true, if_false]) HK1.out HD1.out rfl
  | true =>
    have HN := hide hn
    clear hn
    by_cases hty : ty = 2
    · have HT := hide hty
      have hti : (ty : Int) = 2 := by omega
      clear hty
      rw [hti]
      go_enter Tryz.func133, Tryz.ntmps133
      go_wp2_with fail
      refine (yes_at [61] (by decide) HR.out HN.out).mono ?_
      rintro e w1 ⟨rfl, hd1, hk1⟩
      have HD1 := hide hd1
      have HK1 := hide hk1
      clear hd1 hk1
      go_wp2_with fail
      refine (byte_at HD1.out).mono ?_
      rintro e w2 h2
      rcases h2.cases with ⟨er2, p2, A2, hr2, rfl, hA2, hk2⟩ | ⟨a2, k2, v2, hr2, rfl, hv2, hd2, hk2⟩
      · have Hr2 := hide hr2
        have HA2 := hide hA2
        have HK2 := hide (HK1.out.trans hk2)
        clear h2 hr2 hA2 hk2
        go_wp2_with fail
        exact ⟨rfl, Rds.bad (by simp only [firstP, HN.out, if_true, HT.out, Hr2.out, Res.bind]) HK2.out HA2.out⟩
      · have Hr2 := hide hr2
        have HD2 := hide hd2
        have HK2 := hide (HK1.out.trans hk2)
        subst hv2
        clear h2 hr2 hd2 hk2
        go_wp2_with fail
        go_ret
        exact Rds.ok (by simp only [firstP, HN.out, if_true, HT.out, Hr2.out]) HK2.out HD2.out rfl
    · have HT := hide hty
      have hti : ((ty : Int) == 2) = false := by simp; omega
      clear hty
      cases hm : (tx ts (k + 1) == [116, 114, 117, 101]) with
      | true =>
        have HM := hide hm
        clear hm
        go_enter Tryz.func133, Tryz.ntmps133
        go_wp2_with fail
        refine (yes_at [61] (by decide) HR.out HN.out).mono ?_
        rintro e w1 ⟨rfl, hd1, hk1⟩
        have HD1 := hide hd1
        have HK1 := hide hk1
        clear hd1 hk1
        go_wp2_with fail
        refine (yes_at [116, 114, 117, 101] (by decide) HD1.out HM.out).mono ?_
        rintro e w2 ⟨rfl, hd2, hk2⟩
        have HD2 := hide hd2
        have HK2 := hide (HK1.out.trans hk2)
        clear hd2 hk2
        go_wp2_with fail
        go_ret
        exact Rds.ok (a := 1) (by simp only [firstP, HN.out, if_true, if_neg HT.out, HM.out]) HK2.out HD2.out rfl
      | false =>
        have HM := hide hm
        clear hm
        go_enter Tryz.func133, Tryz.ntmps133
        go_wp2_with fail
        refine (yes_at [61] (by decide) HR.out HN.out).mono ?_
        rintro e w1 ⟨rfl, hd1, hk1⟩
        have HD1 := hide hd1
        have HK1 := hide hk1
        clear hd1 hk1
        go_wp2_with fail
        refine (no_at [116, 114, 117, 101] HD1.out HM.out).mono ?_
        rintro e w2 ⟨rfl, hd2, hk2⟩
        have HD2 := hide hd2
        have HK2 := hide (HK1.out.trans hk2)
        clear hd2 hk2
        go_wp2_with fail
        refine (need_at [102, 97, 108, 115, 101] (by decide) HD2.out).mono ?_
        rintro e w3 h3
        rcases h3.cases with ⟨er3, p3, A3, hr3, rfl, hA3, hk3⟩ | ⟨a3, k3, v3, hr3, rfl, hv3, hd3, hk3⟩
        · have Hr3 := hide hr3
          have HA3 := hide hA3
          have HK3 := hide (HK2.out.trans hk3)
          clear h3 hr3 hA3 hk3
          go_wp2_with fail
          exact ⟨rfl, Rds.bad (by simp only [firstP, HN.out, if_true, if_neg HT.out, HM.out, Bool.false_eq_true, if_false, Hr3.out, Res.bind]) HK3.out HA3.out⟩
        · have Hr3 := hide hr3
          have HD3 := hide hd3
          have HK3 := hide (HK2.out.trans hk3)
          subst hv3
          clear h3 hr3 hd3 hk3
          go_wp2_with fail
          go_ret
          exact Rds.ok (a := 0) (by simp only [firstP, HN.out, if_true, if_neg HT.out, HM.out, Bool.false_eq_true, if_false, Hr3.out, Res.bind]) HK3.out HD3.out rfl
end Go.Proofs.YtgncgbngjdcpgaaGreatDoor
