/-
  THE LAW ImageBack, its walk.
-/
import Derived.Test.YtgjjjagkbdbalaaIPa
import Derived.Test.YtgjjjagkbdbalaaIIm
import Derived.Test.YtgjjjagkbdbalaaIAl
import Derived.Test.YtgjjjagkbdbalaaLTbd
set_option linter.unusedSimpArgs false
set_option linter.unusedVariables false
namespace Go.Proofs.Ytgjjjagkbdbalaa
open Go.RowKit

theorem str_take (l : List UInt8) (k : Nat) (h : k ≤ l.length) : (⟨l.toArray⟩ : ByteArray).extract 0 k = ⟨(l.take k).toArray⟩ := by
  apply ByteArray.ext
  apply Array.toList_inj.1
  rw [Lib.extract_data]
  simp
/-- what is read of a right net's bytes is that net: Parse of them answers it -/
theorem parsed_back {gn : Nat} {rs : List Rg} {ls : List Lt} {os : List Int} (h : RightT gn rs ls os) {B : Nat} {e : Ending} {w' : World} (hp : ParsedI (netB gn rs ls os) B e w') : (∃ q : NetQ, e = .returned (.tuple #[.pointer (some ⟨q.p, 0, none⟩), .nilIface]) ∧ NetT q (FromB B) w' gn rs ls os ∧ B ≤ q.p) ∧ NetRd (netB gn rs ls os) gn rs ls os [] := by
  obtain ⟨g2, rs2, ls2, os2, l2, hr, hcase⟩ := hp
  have hr0 := hr
  rw [← List.append_nil (netB gn rs ls os)] at hr0
  obtain ⟨rfl, rfl, rfl, rfl, rfl⟩ := netRd_code h hr0
  refine ⟨?_, hr⟩
  rcases hcase with ⟨_, _, hq⟩ | ⟨hn, _⟩
  · exact hq
  · rcases hn with hn | hn
    · rw [rightT_iff.2 h] at hn; cases hn
    · exact absurd rfl hn
/-- no beginning of a right net's bytes is any -/
theorem parsed_cut {gn : Nat} {rs : List Rg} {ls : List Lt} {os : List Int} (h : RightT gn rs ls os) (hrd : NetRd (netB gn rs ls os) gn rs ls os []) {k : Nat} (hk : k < (netB gn rs ls os).length) {B : Nat} {e : Ending} {w' : World} (hp : ParsedI ((netB gn rs ls os).take k) B e w') : e = .returned (.tuple #[.pointer none, .iface 49 (.int .i64 3)]) := by
  obtain ⟨g2, rs2, ls2, os2, l2, hr, hcase⟩ := hp
  rcases hcase with ⟨hR, hb, _⟩ | ⟨_, he⟩
  · exfalso
    have e1 : netB gn rs ls os = netB g2 rs2 ls2 os2 ++ (netB gn rs ls os).drop k := by rw [hb, List.take_append_drop]
    have h2 : NetRd (netB g2 rs2 ls2 os2 ++ (netB gn rs ls os).drop k) gn rs ls os [] := by rw [← e1]; exact hrd
    have h3 := (netRd_code hR h2).2.2.2.2
    have h4 := congrArg List.length h3
    rw [List.length_drop] at h4
    simp at h4
    omega
  · exact he

set_option maxRecDepth 100000 in
set_option maxHeartbeats 6400000 in
theorem back_at (given : Int) (rs : List Rg) (ls : List Lt) (os : List Int) (ra la oa : Option Addr) (rc lc oc : Nat) (A : Nat → Option Addr) (C : Nat → Nat) (l : List UInt8) (cut : Int) (w : World) (hr : Lies AnyB w ra (rgsC rs)) (hl : LutsAt AnyB w la A C ls) (ho : Lies AnyB w oa (intsC os)) :
    Calls Try.prog 3 #[.agg #[.int .i64 given, .slice ra rs.length rc, .slice la ls.length lc, .slice oa os.length oc], .string ⟨l.toArray⟩, .int .i64 cut] w fun e w' => e = .returned (.bool true) ∧ Below w.heap.size w w' := by
  have HB1 := hide (below_alloc w (.cells #[.int .i64 given, .slice ra rs.length rc, .slice la ls.length lc, .slice oa os.length oc] 26))
  have HNT : Hid (NetT ⟨w.heap.size, ra, rc, la, lc, oa, oc, A, C⟩ AnyB (w.alloc (.cells #[.int .i64 given, .slice ra rs.length rc, .slice la ls.length lc, .slice oa os.length oc] 26)) given rs ls os) := hide ⟨blk_new _ _, hr.below HB1.out, hl.below HB1.out, ho.below HB1.out⟩
  have HTD := hide (tabled_at given ls rs.length os.length rc lc oc ra la oa A C (w.alloc (.cells #[.int .i64 given, .slice ra rs.length rc, .slice la ls.length lc, .slice oa os.length oc] 26)) (hl.row.below HB1.out))
  have hqn : ∀ (v : Value) (w : World), (binOp .neq 31 (.iface 49 v) .nilIface).run Try.prog w = .ok (.bool true) w := fun _ _ => rfl
  have hqe : ∀ (v : Value) (w : World), (binOp .eql 31 (.iface 49 v) .nilIface).run Try.prog w = .ok (.bool false) w := fun _ _ => rfl
  have hpe : ∀ (a : Addr) (w : World), (binOp .eql 29 (.pointer (some a)) (.pointer none)).run Try.prog w = .ok (.bool false) w := fun _ _ => rfl
  have hsz : (⟨l.toArray⟩ : ByteArray).size = l.length := str_size l
  clear hr hl ho
  go_enter Try.func3, Try.ntmps3
  go_wp2_with fail
  generalize w.alloc (.cells #[.int .i64 given, .slice ra rs.length rc, .slice la ls.length lc, .slice oa os.length oc] 26) = w1 at *
  refine HTD.out.mono ?_
  rintro e w2 ⟨⟨bt, rfl, hbt⟩, hb2⟩
  have HN2 := hide (HNT.out.below hb2)
  have HB2 := hide (Below.step HB1.out hb2)
  clear hb2 HTD HNT HB1
  cases bt with
  | false =>
    go_wp2_with fail
    go_ret
    exact ⟨rfl, HB2.out⟩
  | true =>
    obtain ⟨b1, b2, b3, b4, b5⟩ := hbt rfl
    clear b5
    by_cases h500 : (500 : Int) < (l.length : Int)
    · go_wp2_with fail
      go_ret
      exact ⟨rfl, HB2.out⟩
    · have HIM := hide (imaged_at w2)
      go_wp2_with fail
      refine HIM.out.mono ?_
      rintro e w3 ⟨rfl, hb3⟩
      have HN3 := hide (HN2.out.below hb3)
      have HB3 := hide (Below.step HB2.out hb3)
      clear hb3 HIM HN2 HB2
      have HPA := hide (Parse_at l w3 (by omega))
      go_wp2_with fail
      refine HPA.out.mono ?_
      rintro e w4 ⟨⟨g4, rs4, ls4, os4, l4, _, hcase⟩, hb4⟩
      have HB4 := hide (Below.step HB3.out hb4)
      have HN4 := hide (HN3.out.below hb4)
      clear hb4 HPA HB3 HN3
      rcases hcase with ⟨hR, hE, q, rfl, hnt, _⟩ | ⟨_, rfl⟩
      · have HW := hide (Write_at hnt hR)
        rw [wroteS_eq.2 hE] at HW
        clear hnt hE hR
        go_wp2_with fail
        refine HW.out.mono ?_
        rintro e wx ⟨rfl, hb5⟩
        have HBX := hide (Below.step HB4.out hb5)
        have HNX := hide (HN4.out.below hb5)
        clear hb5 HW HB4 HN4
        go_wp2_with fail
        cases hrt : rightT given rs ls os with
        | false =>
          have HW := hide (Write_no HNX.out (by omega) (by omega) (by omega) hrt)
          have HRI : Hid (∀ W, Below wx.heap.size wx W → Calls Try.prog 9 #[.pointer (some ⟨w.heap.size, 0, none⟩)] W fun e w' => e = .returned (.bool false) ∧ Below W.heap.size W w') := hide fun W hb => by
            have := LRight_at (HNX.out.below hb) (by omega) (by omega) (by omega)
            rwa [hrt] at this
          clear hrt
          go_wp2_with fail
          refine HW.out.mono ?_
          rintro e w6 ⟨rfl, hb6⟩
          have HB6 := hide (Below.step HBX.out hb6)
          have HRI6 := hide (HRI.out w6 hb6)
          clear hb6 HW HRI
          go_wp2_with fail
          refine HRI6.out.mono ?_
          rintro e w7 ⟨rfl, hb7⟩
          have HB7 := hide (Below.step HB6.out hb7)
          clear hb7
          go_wp2_with fail
          go_ret
          exact ⟨rfl, HB7.out⟩
        | true =>
          obtain ⟨gn, rfl⟩ := rightT_nat hrt
          have hRT := rightT_iff.1 hrt
          have HRT := hide hRT
          have HW := hide (Write_at HNX.out hRT)
          have HLB : Hid ((netB gn rs ls os).length ≤ 4000 ∧ 0 < (netB gn rs ls os).length) := hide (by
            have h1 := codes_len2 (netN gn rs ls os)
            have h2 := codes_len1 (netN gn rs ls os)
            have h3 := netN_len gn rs ls os
            have h4 := insSum_le ls fun l hl => (hRT.lut hl).1
            unfold netB
            omega)
          have HTX : Hid (wroteS gn rs ls os = ⟨(netB gn rs ls os).toArray⟩) := hide rfl
          have HPB : Hid (∀ (B : Nat) (e : Ending) (w' : World), ParsedI (netB gn rs ls os) B e w' → (∃ q : NetQ, e = .returned (.tuple #[.pointer (some ⟨q.p, 0, none⟩), .nilIface]) ∧ NetT q (FromB B) w' gn rs ls os ∧ B ≤ q.p) ∧ NetRd (netB gn rs ls os) gn rs ls os []) := hide fun B e w' hp => parsed_back hRT hp
          have HPC : Hid (NetRd (netB gn rs ls os) gn rs ls os [] → ∀ k, k < (netB gn rs ls os).length → ∀ (B : Nat) (e : Ending) (w' : World), ParsedI ((netB gn rs ls os).take k) B e w' → e = .returned (.tuple #[.pointer none, .iface 49 (.int .i64 3)])) := hide fun hrd k hk B e w' hp => parsed_cut hRT hrd hk hp
          clear hrt hRT
          rw [HTX.out] at HW
          generalize netB gn rs ls os = L at *
          go_wp2_with fail
          refine HW.out.mono ?_
          rintro e w6 ⟨rfl, hb6⟩
          have HB6 := hide (Below.step HBX.out hb6)
          have HN6 := hide (HNX.out.below hb6)
          clear hb6 HW HNX HBX
          have hL1 := HLB.out.1
          have hL2 := HLB.out.2
          have hLz : (⟨L.toArray⟩ : ByteArray).size = L.length := str_size L
          have HPA2 := hide (Parse_at L w6 (by omega))
          go_wp2_with fail
          refine HPA2.out.mono ?_
          rintro e w7 ⟨hp, hb7⟩
          obtain ⟨⟨q, rfl, hnt, _⟩, hrd⟩ := HPB.out _ _ _ hp
          have HCT := hide (HPC.out hrd)
          have HB7 := hide (Below.step HB6.out hb7)
          have HAL := hide (alike_at hnt (HN6.out.below hb7) HRT.out)
          clear hp hb7 hnt hrd HPB HPC HPA2 HN6 HB6 HTX
          go_wp2_with fail
          refine HAL.out.mono ?_
          rintro e w8 ⟨rfl, hb8⟩
          have HB8 := hide (Below.step HB7.out hb8)
          have HPI := hide (pick_at cut L.length hL2 (by omega) w8)
          clear hb8 HAL HB7
          go_wp2_with fail
          refine HPI.out.mono ?_
          rintro e w9 ⟨⟨k, hk, rfl⟩, rfl⟩
          have hki : (k : Int) ≤ (L.length : Int) := by omega
          have HST := hide (str_take L k (by omega))
          have HPA3 := hide (Parse_at (L.take k) w9 (by rw [List.length_take]; omega))
          have HCK := hide (HCT.out k hk)
          clear HCT HPI hk
          go_wp2_with fail
          rw [HST.out]
          refine HPA3.out.mono ?_
          rintro e w10 ⟨hp, hb10⟩
          obtain rfl := HCK.out _ _ _ hp
          have HB10 := hide (Below.step HB8.out hb10)
          clear hp hb10 HPA3 HCK
          go_wp2_with fail
          go_ret
          exact ⟨rfl, HB10.out⟩
      · have HBX := HB4
        have HNX := HN4
        clear HB4 HN4
        rename World => wx
        go_wp2_with fail
        cases hrt : rightT given rs ls os with
        | false =>
          have HW := hide (Write_no HNX.out (by omega) (by omega) (by omega) hrt)
          have HRI : Hid (∀ W, Below wx.heap.size wx W → Calls Try.prog 9 #[.pointer (some ⟨w.heap.size, 0, none⟩)] W fun e w' => e = .returned (.bool false) ∧ Below W.heap.size W w') := hide fun W hb => by
            have := LRight_at (HNX.out.below hb) (by omega) (by omega) (by omega)
            rwa [hrt] at this
          clear hrt
          go_wp2_with fail
          refine HW.out.mono ?_
          rintro e w6 ⟨rfl, hb6⟩
          have HB6 := hide (Below.step HBX.out hb6)
          have HRI6 := hide (HRI.out w6 hb6)
          clear hb6 HW HRI
          go_wp2_with fail
          refine HRI6.out.mono ?_
          rintro e w7 ⟨rfl, hb7⟩
          have HB7 := hide (Below.step HB6.out hb7)
          clear hb7
          go_wp2_with fail
          go_ret
          exact ⟨rfl, HB7.out⟩
        | true =>
          obtain ⟨gn, rfl⟩ := rightT_nat hrt
          have hRT := rightT_iff.1 hrt
          have HRT := hide hRT
          have HW := hide (Write_at HNX.out hRT)
          have HLB : Hid ((netB gn rs ls os).length ≤ 4000 ∧ 0 < (netB gn rs ls os).length) := hide (by
            have h1 := codes_len2 (netN gn rs ls os)
            have h2 := codes_len1 (netN gn rs ls os)
            have h3 := netN_len gn rs ls os
            have h4 := insSum_le ls fun l hl => (hRT.lut hl).1
            unfold netB
            omega)
          have HTX : Hid (wroteS gn rs ls os = ⟨(netB gn rs ls os).toArray⟩) := hide rfl
          have HPB : Hid (∀ (B : Nat) (e : Ending) (w' : World), ParsedI (netB gn rs ls os) B e w' → (∃ q : NetQ, e = .returned (.tuple #[.pointer (some ⟨q.p, 0, none⟩), .nilIface]) ∧ NetT q (FromB B) w' gn rs ls os ∧ B ≤ q.p) ∧ NetRd (netB gn rs ls os) gn rs ls os []) := hide fun B e w' hp => parsed_back hRT hp
          have HPC : Hid (NetRd (netB gn rs ls os) gn rs ls os [] → ∀ k, k < (netB gn rs ls os).length → ∀ (B : Nat) (e : Ending) (w' : World), ParsedI ((netB gn rs ls os).take k) B e w' → e = .returned (.tuple #[.pointer none, .iface 49 (.int .i64 3)])) := hide fun hrd k hk B e w' hp => parsed_cut hRT hrd hk hp
          clear hrt hRT
          rw [HTX.out] at HW
          generalize netB gn rs ls os = L at *
          go_wp2_with fail
          refine HW.out.mono ?_
          rintro e w6 ⟨rfl, hb6⟩
          have HB6 := hide (Below.step HBX.out hb6)
          have HN6 := hide (HNX.out.below hb6)
          clear hb6 HW HNX HBX
          have hL1 := HLB.out.1
          have hL2 := HLB.out.2
          have hLz : (⟨L.toArray⟩ : ByteArray).size = L.length := str_size L
          have HPA2 := hide (Parse_at L w6 (by omega))
          go_wp2_with fail
          refine HPA2.out.mono ?_
          rintro e w7 ⟨hp, hb7⟩
          obtain ⟨⟨q, rfl, hnt, _⟩, hrd⟩ := HPB.out _ _ _ hp
          have HCT := hide (HPC.out hrd)
          have HB7 := hide (Below.step HB6.out hb7)
          have HAL := hide (alike_at hnt (HN6.out.below hb7) HRT.out)
          clear hp hb7 hnt hrd HPB HPC HPA2 HN6 HB6 HTX
          go_wp2_with fail
          refine HAL.out.mono ?_
          rintro e w8 ⟨rfl, hb8⟩
          have HB8 := hide (Below.step HB7.out hb8)
          have HPI := hide (pick_at cut L.length hL2 (by omega) w8)
          clear hb8 HAL HB7
          go_wp2_with fail
          refine HPI.out.mono ?_
          rintro e w9 ⟨⟨k, hk, rfl⟩, rfl⟩
          have hki : (k : Int) ≤ (L.length : Int) := by omega
          have HST := hide (str_take L k (by omega))
          have HPA3 := hide (Parse_at (L.take k) w9 (by rw [List.length_take]; omega))
          have HCK := hide (HCT.out k hk)
          clear HCT HPI hk
          go_wp2_with fail
          rw [HST.out]
          refine HPA3.out.mono ?_
          rintro e w10 ⟨hp, hb10⟩
          obtain rfl := HCK.out _ _ _ hp
          have HB10 := hide (Below.step HB8.out hb10)
          clear hp hb10 HPA3 HCK
          go_wp2_with fail
          go_ret
          exact ⟨rfl, HB10.out⟩
end Go.Proofs.Ytgjjjagkbdbalaa
