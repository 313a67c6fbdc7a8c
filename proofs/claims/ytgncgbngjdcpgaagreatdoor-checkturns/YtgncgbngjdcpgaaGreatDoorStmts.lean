/-
  CONTRACT of stmts: rows of statements, where what is an if is known.
-/
import Derived.Test.YtgncgbngjdcpgaaGreatDoorAct
import Derived.Test.YtgncgbngjdcpgaaGreatDoorGrow2
namespace Go.Proofs.YtgncgbngjdcpgaaGreatDoor
open Go.RowKit

theorem row_new (w : World) (t : TypeId) (l : List Value) : ∀ (j : Nat) (x : Value), l[j]? = some x → (w.alloc (.cells l.toArray t)).cell? ((⟨w.heap.size, 0, none⟩ : Addr).add j) = some x := by
  intro j x hx
  rw [show ((⟨w.heap.size, 0, none⟩ : Addr).add j) = ⟨w.heap.size, j, none⟩ by unfold Addr.add; split <;> simp_all]
  rw [blk_cell (blk_new w _)]
  simpa using hx
theorem eight (c : List Value) (h : c.length = 8) : ∃ c0 c1 c2 c3 c4 c5 c6 c7, c = [c0, c1, c2, c3, c4, c5, c6, c7] := by
  match c, h with
  | [c0, c1, c2, c3, c4, c5, c6, c7], _ => exact ⟨c0, c1, c2, c3, c4, c5, c6, c7, rfl⟩
theorem info_st : ∃ i, Tryz.prog.info? 99 = some i ∧ i.zero = some (.agg #[.int .i64 0, .int .i64 0, .string ⟨#[]⟩, .pointer none, .slice none 0 0, .int .i64 0, .slice none 0 0, .slice none 0 0]) ∧ i.size = 8 ∧ i.bytes = 120 := info_parts (by kernel_rfl)

def BranchOK (f : Nat) : Prop := ∀ (w : World) (R T cap : Nat) (ts : List Tok) (deep k : Nat), Rd w R T cap ts k → deep ≤ 8 → k + 1 < ts.length → branchP ts f deep k ≠ .out →
  Calls Tryz.prog 121 #[.pointer (some ⟨R, 0, none⟩), .int .i64 deep] w (Rds w R T cap ts (StRep w) (branchP ts f deep k))
def StmtsOK (f : Nat) : Prop := ∀ (w : World) (R T cap : Nat) (ts : List Tok) (deep k : Nat), Rd w R T cap ts k → deep ≤ 8 → stmtsP ts f deep k [] ≠ .out →
  Calls Tryz.prog 84 #[.pointer (some ⟨R, 0, none⟩), .int .i64 deep] w (Rds w R T cap ts (fun w' v l => IsSts (From w.heap.size) w' l v) (stmtsP ts f deep k []))

set_option maxRecDepth 100000 in
set_option maxHeartbeats 6400000 in
theorem stmts_ok (f : Nat) (ih : ∀ g, g < f → BranchOK g) : StmtsOK f := by
  intro w R T cap ts deep k h hdp hout
  have q1 := fld1
  obtain ⟨i0, hi, hz0, hz1, hz2⟩ := info_st
  have HR := hide h
  have HO := hide hout
  have IH := hide ih
  clear h hout ih
  go_enter Tryz.func84, Tryz.ntmps84
  go_wp2_with fail
  go_loopw [5] (fun v wr => ∃ (g : Nat) (acc : List St) (k2 : Nat), Hid (Growing w.heap.size wr acc v) ∧ Hid (Rd wr R T cap ts k2) ∧ Hid (Kept R w wr) ∧ Hid (stmtsP ts f deep k [] = stmtsP ts g deep k2 acc) ∧ Hid (acc.length ≤ k2 ∧ g ≤ f)) (fun _ wr => ts.length - nextOf R wr)
  case atStart => exact ⟨f, [], k, Growing.nil .., HR, Kept.refl R w, rfl, (⟨Nat.zero_le k, Nat.le_refl f⟩ : _ ∧ _)⟩
  case round =>
    obtain ⟨g, acc, k2, hy, hd2, hk2, he2, hacg⟩ := hrel
    have hac : Hid (acc.length ≤ k2) := hacg.out.1
    have HNX : Hid (nextOf R wr = k2) := hd2.out.nextOf_eq
    have hk8 : k2 < 801 := by have := hd2.out.fit.len; have := hd2.out.lt; omega
    cases g with
    | zero => exact absurd (he2.out.trans (by simp only [stmtsP])) HO.out
    | succ g =>
    have HGF := hide (show g < f by have := hacg.out.2; omega)
    obtain ⟨va, vc, hv⟩ := hy.out.val
    subst hv
    cases hif : (tx ts k2 == [105, 102]) with
    | true =>
      have HIF := hide hif
      have htx : ((tk ts k2).text.toList == [105, 102]) = true := hif
      have HMORE := hide (hd2.out.fit.more hd2.out.lt hif (by decide))
      have HOB : Hid (branchP ts g deep k2 ≠ .out) := fun e => HO.out (he2.out.trans (by simp only [stmtsP, hif, if_true, e, Res.bind]))
      clear hif
      go_wp2_with fail
      refine (now_at hd2.out).mono ?_
      rintro e w3 ⟨rfl, hb3⟩
      have HD3 := hide (hd2.out.below hb3)
      have HK3 := hide (hk2.out.below hb3)
      have HY3 := hide (hy.out.same fun b _ h2 => hb3.block b h2)
      clear hb3
      go_wp2_with fail
      refine (IH.out g HGF.out w3 R T cap ts deep k2 HD3.out hdp HMORE.out HOB.out).mono ?_
      rintro e w6 h6
      rcases h6.cases with ⟨er6, p6, A6, hr6, rfl, hA6, hk6⟩ | ⟨a6, k6, v6, hr6, rfl, hv6, hd6, hk6⟩
      · have Hr6 := hide hr6
        have HA6 := hide hA6
        have HK6 := hide (HK3.out.trans hk6)
        clear h6 hr6 hA6 hk6
        go_wp2_with fail
        exact ⟨rfl, Rds.bad (by rw [he2.out]; simp only [stmtsP, HIF.out, if_true, Hr6.out, Res.bind]) HK6.out HA6.out⟩
      · have Hr6 := hide hr6
        have HD6 := hide hd6
        have HK6 := hide (HK3.out.trans hk6)
        obtain ⟨c, rfl, hst⟩ := hv6
        obtain ⟨hc8, hone⟩ := IsSt.form _ _ hst
        obtain ⟨c0, c1, c2, c3, c4, c5, c6, c7, rfl⟩ := eight c hc8
        have HST6 := hide hst
        have HONE := hide hone
        have HLT6 : Hid (k2 < k6) := branch_lt hr6
        have HY6 := hide (HY3.out.same fun b h1 h2 => hk6.block b h2 (by have := HR.out.Rlt; omega))
        have HV5 := hide (show ∀ b, (Value.slice va acc.length vc).ownBlock = some b → b < w3.heap.size from by obtain ⟨cs, hr, _⟩ := HY3.out; exact fun b hb => (hr.1.lt b hb).2)
        have H56 := hide hk6.size
        clear h6 hr6 hd6 hk6 hst hc8 hone
        obtain ⟨cs, hrow, hall⟩ := HY6.out
        have HROW := hide hrow
        have HALL := hide hall
        clear hrow hall
        have HOWN := hide ((HROW.out.1).alloc (.cells #[c0, c1, c2, c3, c4, c5, c6, c7] 99))
        go_wp2_with (at_builtin; (refine append_new rfl (.tmp 12) (.tmp 16) 23 rfl 99 i0 (.agg #[.int .i64 0, .int .i64 0, .string ⟨#[]⟩, .pointer none, .slice none 0 0, .int .i64 0, .slice none 0 0, .slice none 0 0]) 8 120 Tryz.underlying23 hi hz0 hz1 hz2 rfl (by decide) _ acc.length cs.flatten rfl HOWN.out ⟨w6.heap.size, 0, none⟩ 1 [c0, c1, c2, c3, c4, c5, c6, c7] rfl rfl ?c1 ?c2 ?c3 (by decide) ?_))
        case c1 => exact row_new _ _ _
        case c2 => exact HONE.out
        case c3 => have := hac.out; omega
        · intro v7 w7 hown7 hg7 hb7
          have HE7 := hide (sts_snoc (.cells #[c0, c1, c2, c3, c4, c5, c6, c7] 99) rfl HK3.out.size H56.out HK6.out HV5.out HROW.out HALL.out HST6.out hown7 hg7 hb7)
          have HD7 : Hid (Rd w7 R T cap ts k6) := HD6.out.grown (N := w.heap.size) (Kept.of (below_alloc w6 (.cells #[c0, c1, c2, c3, c4, c5, c6, c7] 99))) hg7 (fun b hb => HROW.out.2 b hb) HR.out.Rlt HR.out.Tlt (Below.heap_alloc _ _ _ HD6.out.Rlt) (by have := HR.out.big; have := HR.out.Rlt; omega)
          obtain ⟨va7, vc7, hv7⟩ := HE7.out.1.val
          subst hv7
          clear hown7 hg7 hb7
          go_wp2_with fail
          refine ⟨⟨g, acc ++ [a6], k6, HE7.out.1, HD7, HE7.out.2, ?_, ?_⟩, ?_⟩
          · show _ = _
            rw [he2.out]; simp only [stmtsP, HIF.out, if_true, Hr6.out, Res.bind]
          · have h1 := hac.out
            have h2 := HLT6.out
            have h3 := HGF.out
            exact (⟨by simp; omega, by omega⟩ : (acc ++ [a6]).length ≤ k6 ∧ g ≤ f)
          · rw [HD7.out.nextOf_eq, HNX.out]; have := HLT6.out; have := hd2.out.lt; omega
    | false =>
      have HIF := hide hif
      have htx : ((tk ts k2).text.toList == [105, 102]) = false := hif
      cases hnm : isNm (tk ts k2) with
      | true =>
        have HNM := hide hnm
        have HI : Hid ((((tk ts k2).kind : Int) == 1 && !keptL.contains (tk ts k2).text.toList) = true) := by rw [kindZ]; exact hnm
        have HOB : Hid (actP ts g k2 ≠ .out) := fun e => HO.out (he2.out.trans (by simp only [stmtsP, hif, hnm, Bool.false_eq_true, if_false, if_true, e, Res.bind]))
        clear hif hnm
        go_wp2_with fail
        refine (now_at hd2.out).mono ?_
        rintro e w3 ⟨rfl, hb3⟩
        have HD3 := hide (hd2.out.below hb3)
        have HB3 := hide hb3
        clear hb3
        go_wp2_with fail
        refine (now_at HD3.out).mono ?_
        rintro e w4 ⟨rfl, hb4⟩
        have HD4 := hide (HD3.out.below hb4)
        have HB4 := hide (Below.step HB3.out hb4)
        clear hb4
        go_wp2_with fail
        refine (isName_at _ _ _ w4 HD4.out.vars).mono ?_
        rintro e w5 ⟨rfl, hb5⟩
        rw [HI.out]
        have HD5 := hide (HD4.out.below hb5)
        have HK5 := hide (hk2.out.below (Below.step HB4.out hb5))
        have HY5 := hide (hy.out.same fun b _ h2 => (Below.step HB4.out hb5).block b h2)
        clear hb5
        go_wp2_with fail
        refine (act_at g HD5.out HOB.out).mono ?_
        rintro e w6 h6
        rcases h6.cases with ⟨er6, p6, A6, hr6, rfl, hA6, hk6⟩ | ⟨a6, k6, v6, hr6, rfl, hv6, hd6, hk6⟩
        · have Hr6 := hide hr6
          have HA6 := hide hA6
          have HK6 := hide (HK5.out.trans hk6)
          clear h6 hr6 hA6 hk6
          go_wp2_with fail
          exact ⟨rfl, Rds.bad (by rw [he2.out]; simp only [stmtsP, HIF.out, HNM.out, Bool.false_eq_true, if_false, if_true, Hr6.out, Res.bind]) HK6.out HA6.out⟩
        · have Hr6 := hide hr6
          have HD6 := hide hd6
          have HK6 := hide (HK5.out.trans hk6)
          obtain ⟨c, rfl, hst⟩ := hv6
          obtain ⟨hc8, hone⟩ := IsSt.form _ _ hst
          obtain ⟨c0, c1, c2, c3, c4, c5, c6, c7, rfl⟩ := eight c hc8
          have HST6 := hide hst
          have HONE := hide hone
          have HLT6 : Hid (k2 < k6) := act_lt hr6
          have HY6 := hide (HY5.out.same fun b h1 h2 => hk6.block b h2 (by have := HR.out.Rlt; omega))
          have HV5 := hide (show ∀ b, (Value.slice va acc.length vc).ownBlock = some b → b < w5.heap.size from by obtain ⟨cs, hr, _⟩ := HY5.out; exact fun b hb => (hr.1.lt b hb).2)
          have H56 := hide hk6.size
          clear h6 hr6 hd6 hk6 hst hc8 hone
          obtain ⟨cs, hrow, hall⟩ := HY6.out
          have HROW := hide hrow
          have HALL := hide hall
          clear hrow hall
          have HOWN := hide ((HROW.out.1).alloc (.cells #[c0, c1, c2, c3, c4, c5, c6, c7] 99))
          go_wp2_with (at_builtin; (refine append_new rfl (.tmp 22) (.tmp 25) 23 rfl 99 i0 (.agg #[.int .i64 0, .int .i64 0, .string ⟨#[]⟩, .pointer none, .slice none 0 0, .int .i64 0, .slice none 0 0, .slice none 0 0]) 8 120 Tryz.underlying23 hi hz0 hz1 hz2 rfl (by decide) _ acc.length cs.flatten rfl HOWN.out ⟨w6.heap.size, 0, none⟩ 1 [c0, c1, c2, c3, c4, c5, c6, c7] rfl rfl ?c1 ?c2 ?c3 (by decide) ?_))
          case c1 => exact row_new _ _ _
          case c2 => exact HONE.out
          case c3 => have := hac.out; omega
          · intro v7 w7 hown7 hg7 hb7
            have HE7 := hide (sts_snoc (.cells #[c0, c1, c2, c3, c4, c5, c6, c7] 99) rfl HK5.out.size H56.out HK6.out HV5.out HROW.out HALL.out HST6.out hown7 hg7 hb7)
            have HD7 : Hid (Rd w7 R T cap ts k6) := HD6.out.grown (N := w.heap.size) (Kept.of (below_alloc w6 (.cells #[c0, c1, c2, c3, c4, c5, c6, c7] 99))) hg7 (fun b hb => HROW.out.2 b hb) HR.out.Rlt HR.out.Tlt (Below.heap_alloc _ _ _ HD6.out.Rlt) (by have := HR.out.big; have := HR.out.Rlt; omega)
            obtain ⟨va7, vc7, hv7⟩ := HE7.out.1.val
            subst hv7
            clear hown7 hg7 hb7
            go_wp2_with fail
            refine ⟨⟨g, acc ++ [a6], k6, HE7.out.1, HD7, HE7.out.2, ?_, ?_⟩, ?_⟩
            · show _ = _
              rw [he2.out]; simp only [stmtsP, HIF.out, HNM.out, Bool.false_eq_true, if_false, if_true, Hr6.out, Res.bind]
            · have h1 := hac.out
              have h2 := HLT6.out
              have h3 := HGF.out
              exact (⟨by simp; omega, by omega⟩ : (acc ++ [a6]).length ≤ k6 ∧ g ≤ f)
            · rw [HD7.out.nextOf_eq, HNX.out]; have := HLT6.out; have := hd2.out.lt; omega
      | false =>
        have HNM := hide hnm
        have HI : Hid ((((tk ts k2).kind : Int) == 1 && !keptL.contains (tk ts k2).text.toList) = false) := by rw [kindZ]; exact hnm
        clear hif hnm
        go_wp2_with fail
        refine (now_at hd2.out).mono ?_
        rintro e w3 ⟨rfl, hb3⟩
        have HD3 := hide (hd2.out.below hb3)
        have HB3 := hide hb3
        clear hb3
        go_wp2_with fail
        refine (now_at HD3.out).mono ?_
        rintro e w4 ⟨rfl, hb4⟩
        have HD4 := hide (HD3.out.below hb4)
        have HB4 := hide (Below.step HB3.out hb4)
        clear hb4
        go_wp2_with fail
        refine (isName_at _ _ _ w4 HD4.out.vars).mono ?_
        rintro e w5 ⟨rfl, hb5⟩
        rw [HI.out]
        have HD5 := hide (HD4.out.below hb5)
        have HK5 := hide (hk2.out.below (Below.step HB4.out hb5))
        have HY5 := hide (hy.out.same fun b _ h2 => (Below.step HB4.out hb5).block b h2)
        clear hb5
        go_wp2_with fail
        go_ret
        exact Rds.ok (a := acc) (k' := k2) (by rw [he2.out]; simp only [stmtsP, HIF.out, HNM.out, Bool.false_eq_true, if_false]) HK5.out HD5.out HY5.out.done
end Go.Proofs.YtgncgbngjdcpgaaGreatDoor
