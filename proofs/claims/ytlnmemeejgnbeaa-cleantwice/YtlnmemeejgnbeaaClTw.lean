/-
  THE LAW CleanTwice, its walk.
-/
import Derived.Test.YtlnmemeejgnbeaaClTf
import Derived.Test.YtlnmemeejgnbeaaClBes
import Derived.Test.YtlnmemeejgnbeaaClSm
import Derived.Lib.QuietBelow
set_option linter.unusedSimpArgs false
set_option linter.unusedVariables false
namespace Go.Proofs.Ytlnmemeejgnbeaa
open Go.RowKit

set_option maxRecDepth 100000 in
set_option maxHeartbeats 6400000 in
theorem ct_big (given : Int) (ns : List Nd) (os : List Int) (na oa : Option Addr) (nc oc : Nat) (w : World) (hs : smallP given ns.length os.length = false) :
    Calls Try.prog 4 #[.agg #[.int .i64 given, .slice na ns.length nc, .slice oa os.length oc]] w fun e w' => e = .returned (.bool true) ∧ Below w.heap.size w w' := by
  go_enter Try.func4, Try.ntmps4
  go_wp2_with fail
  refine (small_at given na oa ns.length nc os.length oc _).mono ?_
  rintro e w2 ⟨rfl, hb⟩
  have HB2 := hide (Below.step (below_alloc w _) hb)
  clear hb
  rw [hs]
  clear hs
  go_wp2_with fail
  go_ret
  exact ⟨rfl, HB2.out⟩

set_option maxRecDepth 100000 in
set_option maxHeartbeats 6400000 in
theorem ct_wrong (given : Int) (ns : List Nd) (os : List Int) (na oa : Option Addr) (nc oc : Nat) (w : World) (hn : Lies AnyB w na (ndsC ns)) (ho : Lies AnyB w oa (intsC os)) (hs : smallP given ns.length os.length = true) (hr : rightP given ns os = false) :
    Calls Try.prog 4 #[.agg #[.int .i64 given, .slice na ns.length nc, .slice oa os.length oc]] w fun e w' => e = .returned (.bool true) ∧ Below w.heap.size w w' := by
  have HP1 := hide (blk_new w (.cells #[.int .i64 given, .slice na ns.length nc, .slice oa os.length oc] 28))
  have HB1 := hide (below_alloc w (.cells #[.int .i64 given, .slice na ns.length nc, .slice oa os.length oc] 28))
  have HN1 : Hid (NetAt ⟨w.heap.size, na, nc, oa, oc⟩ AnyB (w.alloc (.cells #[.int .i64 given, .slice na ns.length nc, .slice oa os.length oc] 28)) given ns os) := hide ⟨HP1.out, hn.below HB1.out, ho.below HB1.out⟩
  have h60 : ns.length ≤ 60 ∧ os.length ≤ 30 ∧ given ≤ 200 := by simp [smallP] at hs; omega
  have H60 := hide h60
  clear hn ho h60
  go_enter Try.func4, Try.ntmps4
  go_wp2_with fail
  refine (small_at given na oa ns.length nc os.length oc _).mono ?_
  rintro e w2 ⟨rfl, hb⟩
  rw [hs]
  have HN2 := hide (HN1.out.below hb)
  have HP2 := hide (Below.step HB1.out hb)
  clear hb hs HN1 HB1 HP1
  go_wp2_with fail
  refine (cleaned_at _).mono ?_
  rintro e w3 ⟨rfl, hb⟩
  have HN3 := hide (HN2.out.below hb)
  have HB3 := hide (Below.step HP2.out hb)
  clear hb HN2 HP2
  go_wp2_with fail
  refine (Right_at HN3.out (by have := H60.out; omega) (by have := H60.out; omega)).mono ?_
  rintro e w4 ⟨rfl, hb⟩
  rw [hr]
  have HN4 := hide (HN3.out.below hb)
  have HB4 := hide (Below.step HB3.out hb)
  clear hb HN3 HB3 hr
  go_wp2_with fail
  go_ret
  exact ⟨rfl, HB4.out⟩

set_option maxRecDepth 100000 in
set_option maxHeartbeats 6400000 in
theorem ct_reg (given : Int) (ns : List Nd) (os : List Int) (na oa : Option Addr) (nc oc : Nat) (w : World) (hn : Lies AnyB w na (ndsC ns)) (ho : Lies AnyB w oa (intsC os)) (hs : smallP given ns.length os.length = true) (hr : rightP given ns os = true) (hg : hasReg ns ns.length = true) :
    Calls Try.prog 4 #[.agg #[.int .i64 given, .slice na ns.length nc, .slice oa os.length oc]] w fun e w' => e = .returned (.bool true) ∧ Below w.heap.size w w' := by
  have HP1 := hide (blk_new w (.cells #[.int .i64 given, .slice na ns.length nc, .slice oa os.length oc] 28))
  have HB1 := hide (below_alloc w (.cells #[.int .i64 given, .slice na ns.length nc, .slice oa os.length oc] 28))
  have HN1 : Hid (NetAt ⟨w.heap.size, na, nc, oa, oc⟩ AnyB (w.alloc (.cells #[.int .i64 given, .slice na ns.length nc, .slice oa os.length oc] 28)) given ns os) := hide ⟨HP1.out, hn.below HB1.out, ho.below HB1.out⟩
  have h60 : ns.length ≤ 60 ∧ os.length ≤ 30 ∧ given ≤ 200 := by simp [smallP] at hs; omega
  have H60 := hide h60
  clear hn ho h60
  go_enter Try.func4, Try.ntmps4
  go_wp2_with fail
  refine (small_at given na oa ns.length nc os.length oc _).mono ?_
  rintro e w2 ⟨rfl, hb⟩
  rw [hs]
  have HN2 := hide (HN1.out.below hb)
  have HP2 := hide (Below.step HB1.out hb)
  clear hb hs HN1 HB1 HP1
  go_wp2_with fail
  refine (cleaned_at _).mono ?_
  rintro e w3 ⟨rfl, hb⟩
  have HN3 := hide (HN2.out.below hb)
  have HB3 := hide (Below.step HP2.out hb)
  clear hb HN2 HP2
  go_wp2_with fail
  refine (Right_at HN3.out (by have := H60.out; omega) (by have := H60.out; omega)).mono ?_
  rintro e w4 ⟨rfl, hb⟩
  rw [hr]
  have HN4 := hide (HN3.out.below hb)
  have HB4 := hide (Below.step HB3.out hb)
  clear hb HN3 HB3 hr
  have a1 : w4.cell? ⟨w.heap.size, 1, none⟩ = some (.slice na ns.length nc) := HN4.out.c1
  go_wp2_with fail
  refine (contains_at ns na nc w4 HN4.out.nodes (by have := H60.out; omega)).mono ?_
  rintro e w5 ⟨rfl, hb⟩
  rw [hg]
  have HN5 := hide (HN4.out.below hb)
  have HB5 := hide (Below.step HB4.out hb)
  clear hb HN4 HB4 hg a1
  go_wp2_with fail
  go_ret
  exact ⟨rfl, HB5.out⟩

set_option maxRecDepth 100000 in
set_option maxHeartbeats 6400000 in
theorem ct_right (given : Int) (ns : List Nd) (os : List Int) (na oa : Option Addr) (nc oc : Nat) (w : World) (hn : Lies AnyB w na (ndsC ns)) (ho : Lies AnyB w oa (intsC os)) (hs : smallP given ns.length os.length = true) (hr : rightP given ns os = true) (hg : hasReg ns ns.length = false) :
    Calls Try.prog 4 #[.agg #[.int .i64 given, .slice na ns.length nc, .slice oa os.length oc]] w fun e w' => e = .returned (.bool true) ∧ Below w.heap.size w w' := by
  have HRP := hide (rightP_iff.1 hr)
  have HNR := hide (noreg_of hg)
  have HP1 := hide (blk_new w (.cells #[.int .i64 given, .slice na ns.length nc, .slice oa os.length oc] 28))
  have HB1 := hide (below_alloc w (.cells #[.int .i64 given, .slice na ns.length nc, .slice oa os.length oc] 28))
  have HN1 : Hid (NetAt ⟨w.heap.size, na, nc, oa, oc⟩ AnyB (w.alloc (.cells #[.int .i64 given, .slice na ns.length nc, .slice oa os.length oc] 28)) given ns os) := hide ⟨HP1.out, hn.below HB1.out, ho.below HB1.out⟩
  have h60 : ns.length ≤ 60 ∧ os.length ≤ 30 ∧ given ≤ 200 := by simp [smallP] at hs; omega
  have H60 := hide h60
  clear hn ho h60
  go_enter Try.func4, Try.ntmps4
  go_wp2_with fail
  refine (small_at given na oa ns.length nc os.length oc _).mono ?_
  rintro e w2 ⟨rfl, hb⟩
  rw [hs]
  have HN2 := hide (HN1.out.below hb)
  have HP2 := hide (Below.step HB1.out hb)
  clear hb hs HN1 HB1 HP1
  go_wp2_with fail
  refine (cleaned_at _).mono ?_
  rintro e w3 ⟨rfl, hb⟩
  have HN3 := hide (HN2.out.below hb)
  have HB3 := hide (Below.step HP2.out hb)
  clear hb HN2 HP2
  go_wp2_with fail
  refine (Right_at HN3.out (by have := H60.out; omega) (by have := H60.out; omega)).mono ?_
  rintro e w4 ⟨rfl, hb⟩
  rw [hr]
  have HN4 := hide (HN3.out.below hb)
  have HB4 := hide (Below.step HB3.out hb)
  clear hb HN3 HB3 hr
  have a1 : w4.cell? ⟨w.heap.size, 1, none⟩ = some (.slice na ns.length nc) := HN4.out.c1
  go_wp2_with fail
  refine (contains_at ns na nc w4 HN4.out.nodes (by have := H60.out; omega)).mono ?_
  rintro e w5 ⟨rfl, hb⟩
  rw [hg]
  have HN5 := hide (HN4.out.below hb)
  have HB5 := hide (Below.step HB4.out hb)
  clear hb HN4 HB4 hg a1
  have HB2 : Hid (ns.length ≤ 10000 ∧ os.length ≤ 10000) := hide (by have := H60.out; omega)
  have HRJ := hide (two_right HRP.out HB2.out)
  have HCT := hide (clean_twice HRP.out HNR.out HB2.out)
  have HR2 := hide (clean_right HRP.out)
  obtain ⟨gv, hgv⟩ := Int.eq_ofNat_of_zero_le HRP.out.g0
  subst hgv
  have a0 : w5.cell? ⟨w.heap.size, 0, none⟩ = some (.int .i64 (gv : Int)) := HN5.out.c0
  have a1 : w5.cell? ⟨w.heap.size, 1, none⟩ = some (.slice na ns.length nc) := HN5.out.c1
  have a2 : w5.cell? ⟨w.heap.size, 2, none⟩ = some (.slice oa os.length oc) := HN5.out.c2
  have hos : os.length ≤ 30 := H60.out.2.1
  go_wp2_with fail
  refine (beside_same gv ns ns os os na oa na oa nc oc nc oc w5 HN5.out.nodes HN5.out.outs HN5.out.nodes HN5.out.outs HRP.out HRP.out (by have := H60.out; omega)).mono ?_
  rintro e w6 ⟨⟨ja, qa, jc, qc, rfl, hj, hq⟩, hb⟩
  have eJ : jnN ns ns ns.length 0 ns.length = twoNs ns := rfl
  have eO : jnO os os ns.length os.length = twoOs ns os := rfl
  rw [eJ, eO]
  rw [eJ] at hj
  rw [eO] at hq
  clear eJ eO
  generalize twoNs ns = J at *
  generalize twoOs ns os = JO at *
  have HTn := hide (below_alloc w6 (.cells #[.int .i64 (gv : Int), .slice ja J.length jc, .slice qa JO.length qc] 28))
  have HJ7 : Hid (NetAt ⟨w6.heap.size, ja, jc, qa, qc⟩ AnyB (w6.alloc (.cells #[.int .i64 (gv : Int), .slice ja J.length jc, .slice qa JO.length qc] 28)) (gv : Int) J JO) := hide ⟨blk_new _ _, hj.below HTn.out, hq.below HTn.out⟩
  have HB7 := hide (Below.step (Below.step HB5.out hb) HTn.out)
  have HN7 := hide ((HN5.out.below hb).below HTn.out)
  clear hj hq hb HB5 HN5 a0 a1 a2 HTn
  go_wp2_with fail
  generalize (w6.alloc (.cells #[.int .i64 (gv : Int), .slice ja J.length jc, .slice qa JO.length qc] 28)) = w7 at *
  refine (clean_at HN7.out HRP.out).mono ?_
  rintro e w8 ⟨⟨sm, rfl, hsm⟩, hb⟩
  have HM8 := hide hsm
  have HJ8 := hide (HJ7.out.below hb)
  have HN8 := hide (HN7.out.below hb)
  have HB8 := hide (Below.step HB7.out hb)
  clear hb hsm HN7 HB7 HJ7
  go_wp2_with fail
  refine (clean_at HJ8.out HRJ.out).mono ?_
  rintro e w9 ⟨⟨sk, rfl, hsk⟩, hb⟩
  rw [HCT.out.1] at hsk
  have HK9 := hide hsk
  have HM9 := hide (HM8.out.below hb)
  have HN9 := hide (HN8.out.below hb)
  have HB9 := hide (Below.step HB8.out hb)
  have hlo := HCT.out.2
  clear hb hsk HM8 HJ8 HN8 HB8 HCT
  generalize cleanOs J JO = o3 at *
  generalize cleanOs ns os = o2 at *
  generalize cleanNs ns os = l2 at *
  have HCA : Hid (∀ d os', Calls Try.prog 8 #[.pointer (some ⟨sm.p, 0, none⟩)] (Sort.grow (redrawn w9 d) os') fun e w'' => e = .returned (.int .i64 (gatesTo l2 l2.length)) ∧ ∃ p : Regrown, w'' = Sort.grow (redrawn w9 p.d) p.os) := hide fun d os' => Calls.regrown_of (Gates_at (HM9.out.below (below_regrown w9 d os')) (by have := HR2.out.n1; omega))
  have HCB : Hid (∀ d os', Calls Try.prog 8 #[.pointer (some ⟨sk.p, 0, none⟩)] (Sort.grow (redrawn w9 d) os') fun e w'' => e = .returned (.int .i64 (gatesTo l2 l2.length)) ∧ ∃ p : Regrown, w'' = Sort.grow (redrawn w9 p.d) p.os) := hide fun d os' => Calls.regrown_of (Gates_at (HK9.out.below (below_regrown w9 d os')) (by have := HR2.out.n1; omega))
  generalize gatesTo l2 l2.length = gB at *
  have q2 := cell_regrown HK9.out.c2
  have p2 := cell_regrown HN9.out.c2
  rw [hlo] at q2
  go_wp2_with fail
  refine wp_region_quiet_below (by kernel_rfl) (by kernel_rfl) ?_
  repeat (quiet_step (first | with_reducible exact HCA.out _ _ | with_reducible exact HCB.out _ _))
  refine wpQuiet_nil ?_
  intro _ hw'
  obtain ⟨⟨dq, osq⟩, hw''⟩ := hw'
  subst hw''
  have hbq := below_regrown w9 dq osq
  have HBA := hide (Below.step HB9.out hbq)
  clear hbq q2 p2 HCA HCB
  generalize Sort.grow (redrawn w9 dq) osq = wA at *
  go_wp2_with fail
  go_ret
  refine ⟨?_, HBA.out⟩
  have hw : IntKind.i64.wrap (2 * (os.length : Int)) = 2 * (os.length : Int) := by rw [IntKind.wrap_i64]; omega
  show Ending.returned (.bool (2 * (os.length : Int) == IntKind.i64.wrap (2 * (os.length : Int)))) = _
  rw [hw]
  simp

end Go.Proofs.Ytlnmemeejgnbeaa
