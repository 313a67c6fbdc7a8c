/-
  THE LAW CleanSame, its walk.
-/
import Derived.Test.YtlnmemeejgnbeaaDoorClSm
import Derived.Test.YtlnmemeejgnbeaaDoorGGrid
import Derived.Test.YtlnmemeejgnbeaaDoorGErr
import Derived.Lib.QuietBelow
set_option linter.unusedSimpArgs false
set_option linter.unusedVariables false
namespace Go.Proofs.YtlnmemeejgnbeaaDoor
open Go.RowKit

theorem equal_is {S T : Nat → Prop} (l m : List Bool) (n k : Nat) (hln : l.length = n) (hmk : m.length = k) (ao bo : Option Addr) (ac bc : Nat) (w : World) (hl : Lies S w ao (bitsC l)) (hm : Lies T w bo (bitsC m)) (hn : n ≤ 100000) (he : l = m) :
    Calls Tryd.prog 12 #[.slice ao n ac, .slice bo k bc] w fun e w' => e = .returned (.bool true) ∧ Below w.heap.size w w' := by
  subst hln hmk
  exact equal_at l m ao bo ac bc w hl hm (by omega) (by rw [← he]; omega) he
theorem step_is {s : SimP} {w : World} {lo hi : Nat} {given : Int} {ns : List Nd} {os : List Int} {held g : List Bool} (h : SimAt s w lo hi ns os held) (hr : RightP given ns os) (n : Nat) (hgn : g.length = n) (ga : Option Addr) (gc : Nat) (hg : Lies AnyB w ga (bitsC g)) (hgl : n ≤ 20000) :
    Calls Tryd.prog 11 #[.pointer (some ⟨s.p, 0, none⟩), .slice ga n gc] w fun e w' => (∃ O, e = .returned (.slice (some ⟨O, 0, none⟩) os.length os.length) ∧ w.heap.size ≤ O ∧ w'.heap[O]? = some (.cells (bitsC (outs (vals g held ns) os)).toArray 4 (0, 0))) ∧ SimAt s w' lo hi ns os (heldNext (vals g held ns) held ns) ∧ Kept s.h w w' := by
  subst hgn
  exact step_at h hr ga gc hg (by omega)
theorem outs_len (v : List Bool) (os : List Int) : (outs v os).length = os.length := by simp [outs]
/-- what the three hold, between two cycles -/
def Rel3 (given : Int) (ns : List Nd) (os : List Int) (a b c : List Bool) : Prop := (∃ rv, Both given ns os (mkAll ns) (needP (mkAll ns) os) a b rv) ∧ ∃ rv, Both given (cleanNs ns os) (cleanOs ns os) (mkAll (cleanNs ns os)) (needP (mkAll (cleanNs ns os)) (cleanOs ns os)) b c rv
theorem rel_first {given : Int} {ns : List Nd} {os : List Int} (hr : RightP given ns os) : Rel3 given ns os (first ns) (first (cleanNs ns os)) (first (cleanNs (cleanNs ns os) (cleanOs ns os))) :=
  ⟨⟨_, both_first hr⟩, ⟨_, both_first (clean_right hr)⟩⟩
theorem rel_next {given : Int} {ns : List Nd} {os : List Int} (hr : RightP given ns os) {a b c : List Bool} (h : Rel3 given ns os a b c) (g : List Bool) :
    outs (vals g a ns) os = outs (vals g b (cleanNs ns os)) (cleanOs ns os) ∧ outs (vals g a ns) os = outs (vals g c (cleanNs (cleanNs ns os) (cleanOs ns os))) (cleanOs (cleanNs ns os) (cleanOs ns os)) ∧ Rel3 given ns os (heldNext (vals g a ns) a ns) (heldNext (vals g b (cleanNs ns os)) b (cleanNs ns os)) (heldNext (vals g c (cleanNs (cleanNs ns os) (cleanOs ns os))) c (cleanNs (cleanNs ns os) (cleanOs ns os))) := by
  obtain ⟨⟨_, h1⟩, ⟨_, h2⟩⟩ := h
  obtain ⟨a1, a2⟩ := both_outs hr h1 g
  obtain ⟨b1, b2⟩ := both_outs (clean_right hr) h2 g
  exact ⟨a1.symm, by rw [b1, a1], ⟨⟨_, a2⟩, ⟨_, b2⟩⟩⟩

set_option maxRecDepth 100000 in
set_option maxHeartbeats 6400000 in
theorem cs_big (given : Int) (ns : List Nd) (os : List Int) (na oa ga : Option Addr) (nc oc gc : Nat) (A : Nat → Option Addr) (C : Nat → Nat) (gs : List (List Bool)) (w : World) (hs : smallP given ns.length os.length = false) :
    Calls Tryd.prog 3 #[.agg #[.int .i64 given, .slice na ns.length nc, .slice oa os.length oc], .slice ga gs.length gc] w fun e w' => e = .returned (.bool true) ∧ Below w.heap.size w w' := by
  go_enter Tryd.func3, Tryd.ntmps3
  go_wp2_with fail
  refine (small_at given na oa ns.length nc os.length oc _).mono ?_
  rintro e w2 ⟨rfl, hb⟩
  have HB2 := hide (Below.step (below_alloc w _) hb)
  clear hb
  rw [hs]
  clear hs
  go_wp2_with fail
  go_ret
  exact ⟨rfl, HB2.out⟩

set_option maxRecDepth 100000 in
set_option maxHeartbeats 6400000 in
theorem cs_long (given : Int) (ns : List Nd) (os : List Int) (na oa ga : Option Addr) (nc oc gc : Nat) (A : Nat → Option Addr) (C : Nat → Nat) (gs : List (List Bool)) (w : World) (hs : smallP given ns.length os.length = true) (h20 : (20 : Int) < (gs.length : Int)) :
    Calls Tryd.prog 3 #[.agg #[.int .i64 given, .slice na ns.length nc, .slice oa os.length oc], .slice ga gs.length gc] w fun e w' => e = .returned (.bool true) ∧ Below w.heap.size w w' := by
  go_enter Tryd.func3, Tryd.ntmps3
  go_wp2_with fail
  refine (small_at given na oa ns.length nc os.length oc _).mono ?_
  rintro e w2 ⟨rfl, hb⟩
  have HB2 := hide (Below.step (below_alloc w _) hb)
  clear hb
  rw [hs]
  clear hs
  go_wp2_with fail
  go_ret
  exact ⟨rfl, HB2.out⟩

set_option maxRecDepth 100000 in
set_option maxHeartbeats 6400000 in
theorem cs_wrong (given : Int) (ns : List Nd) (os : List Int) (na oa ga : Option Addr) (nc oc gc : Nat) (A : Nat → Option Addr) (C : Nat → Nat) (gs : List (List Bool)) (w : World) (hn : Lies AnyB w na (ndsC ns)) (ho : Lies AnyB w oa (intsC os)) (hs : smallP given ns.length os.length = true) (h20 : ¬ (20 : Int) < (gs.length : Int)) (hr : rightP given ns os = false) (hg : w.cell? ⟨0, 0, none⟩ = some (.iface 85 (.agg #[.pointer (some ⟨1, 31, none⟩)]))) :
    Calls Tryd.prog 3 #[.agg #[.int .i64 given, .slice na ns.length nc, .slice oa os.length oc], .slice ga gs.length gc] w fun e w' => e = .returned (.bool true) ∧ Below w.heap.size w w' := by
  have HET := hide hg
  clear hg
  have HP1 := hide (blk_new w (.cells #[.int .i64 given, .slice na ns.length nc, .slice oa os.length oc] 25))
  have HB1 := hide (below_alloc w (.cells #[.int .i64 given, .slice na ns.length nc, .slice oa os.length oc] 25))
  have HN1 : Hid (NetAt ⟨w.heap.size, na, nc, oa, oc⟩ AnyB (w.alloc (.cells #[.int .i64 given, .slice na ns.length nc, .slice oa os.length oc] 25)) given ns os) := hide ⟨HP1.out, hn.below HB1.out, ho.below HB1.out⟩
  have h60 : ns.length ≤ 60 ∧ os.length ≤ 30 ∧ given ≤ 200 := by simp [smallP] at hs; omega
  have H60 := hide h60
  clear hn ho h60
  go_enter Tryd.func3, Tryd.ntmps3
  go_wp2_with fail
  refine (small_at given na oa ns.length nc os.length oc _).mono ?_
  rintro e w2 ⟨rfl, hb⟩
  rw [hs]
  have HN2 := hide (HN1.out.below hb)
  have HP2 := hide (Below.step HB1.out hb)
  clear hb hs HN1 HB1 HP1
  go_wp2_with fail
  refine (cleaned_at _).mono ?_
  rintro e w3 ⟨rfl, hb⟩
  have HN3 := hide (HN2.out.below hb)
  have HB3 := hide (Below.step HP2.out hb)
  clear hb HN2 HP2
  go_wp2_with fail
  refine (clean_no HN3.out (by have := H60.out; omega) (by have := H60.out; omega) hr).mono ?_
  rintro e w4 ⟨rfl, hb⟩
  have HN4 := hide (HN3.out.below hb)
  have HB4 := hide (Below.step HB3.out hb)
  clear hb HN3 HB3
  go_wp2_with fail
  refine (Right_at HN4.out (by have := H60.out; omega) (by have := H60.out; omega)).mono ?_
  rintro e w5 ⟨rfl, hb⟩
  rw [hr]
  have HB5 := hide (Below.step HB4.out hb)
  clear hb HN4 HB4
  have HTL := hide (tell_e 1 w5 (bcell HB5.out HET.out))
  go_wp2_with fail
  refine HTL.out.mono ?_
  rintro e w6 ⟨rfl, hb⟩
  have HB6 := hide (Below.step HB5.out hb)
  clear hb HTL HB5
  go_wp2_with fail
  go_ret
  exact ⟨rfl, HB6.out⟩

set_option maxRecDepth 100000 in
set_option maxHeartbeats 6400000 in
theorem cs_right (given : Int) (ns : List Nd) (os : List Int) (na oa ga : Option Addr) (nc oc gc : Nat) (A : Nat → Option Addr) (C : Nat → Nat) (gs : List (List Bool)) (w : World) (hn : Lies AnyB w na (ndsC ns)) (ho : Lies AnyB w oa (intsC os)) (hgr : Grid w ga A C gs) (hs : smallP given ns.length os.length = true) (h20 : ¬ (20 : Int) < (gs.length : Int)) (hr : rightP given ns os = true) :
    Calls Tryd.prog 3 #[.agg #[.int .i64 given, .slice na ns.length nc, .slice oa os.length oc], .slice ga gs.length gc] w fun e w' => e = .returned (.bool true) ∧ Below w.heap.size w w' := by
  have HRP := hide (rightP_iff.1 hr)
  have HGR := hide hgr
  clear hgr
  have HP1 := hide (blk_new w (.cells #[.int .i64 given, .slice na ns.length nc, .slice oa os.length oc] 25))
  have HB1 := hide (below_alloc w (.cells #[.int .i64 given, .slice na ns.length nc, .slice oa os.length oc] 25))
  have HN1 : Hid (NetAt ⟨w.heap.size, na, nc, oa, oc⟩ AnyB (w.alloc (.cells #[.int .i64 given, .slice na ns.length nc, .slice oa os.length oc] 25)) given ns os) := hide ⟨HP1.out, hn.below HB1.out, ho.below HB1.out⟩
  have h60 : ns.length ≤ 60 ∧ os.length ≤ 30 ∧ given ≤ 200 := by simp [smallP] at hs; omega
  have H60 := hide h60
  clear hn ho h60
  go_enter Tryd.func3, Tryd.ntmps3
  go_wp2_with fail
  refine (small_at given na oa ns.length nc os.length oc _).mono ?_
  rintro e w2 ⟨rfl, hb⟩
  rw [hs]
  have HN2 := hide (HN1.out.below hb)
  have HP2 := hide (Below.step HB1.out hb)
  clear hb hs HN1 HB1 HP1
  go_wp2_with fail
  refine (cleaned_at _).mono ?_
  rintro e w3 ⟨rfl, hb⟩
  have HN3 := hide (HN2.out.below hb)
  have HB3 := hide (Below.step HP2.out hb)
  clear hb HN2 HP2
  go_wp2_with fail
  refine (clean_at HN3.out HRP.out).mono ?_
  rintro e w4 ⟨⟨sm, rfl, hsm⟩, hb⟩
  have HM4 := hide hsm
  have HN4 := hide (HN3.out.below hb)
  have HB4 := hide (Below.step HB3.out hb)
  clear hb hsm HN3 HB3
  go_wp2_with fail
  refine (Right_at HN4.out (by have := H60.out; omega) (by have := H60.out; omega)).mono ?_
  rintro e w5 ⟨rfl, hb⟩
  rw [hr]
  have HM5 := hide (HM4.out.below hb)
  have HN5 := hide (HN4.out.below hb)
  have HB5 := hide (Below.step HB4.out hb)
  clear hb HN4 HB4 HM4 hr
  have HR2 := hide (clean_right HRP.out)
  have HG2 := hide (clean_gates HRP.out)
  have HS2 := hide (clean_size HRP.out)
  have HO2 := hide (clean_outs ns os)
  have HR3 := hide (clean_right HR2.out)
  have HG3 := hide (clean_gates HR2.out)
  have HO3 := hide (clean_outs (cleanNs ns os) (cleanOs ns os))
  have HRF := hide (rel_first HRP.out)
  have HRX := hide fun a b c h g => rel_next (a := a) (b := b) (c := c) HRP.out h g
  generalize hRel : Rel3 given ns os = R3 at *
  clear hRel
  generalize cleanNs ns os = l2 at *
  generalize cleanOs ns os = o2 at *
  have ho2 : o2.length = os.length := HO2.out
  have hl2 : l2.length ≤ ns.length := HS2.out
  have hl2i : ¬ (ns.length : Int) < (l2.length : Int) := by omega
  have hl2b : decide ((ns.length : Int) < (l2.length : Int)) = false := by simpa using hl2i
  have hgn : gatesTo l2 l2.length ≤ gatesTo ns ns.length := HG2.out
  have hgb : decide (((gatesTo ns ns.length : Nat) : Int) < ((gatesTo l2 l2.length : Nat) : Int)) = false := by simp; omega
  have HRA := hide (Right_at HM5.out HR2.out.n1 HR2.out.o1)
  rw [rightP_iff.2 HR2.out] at HRA
  have HCA : Hid (∀ d os', Calls Tryd.prog 7 #[.pointer (some ⟨sm.p, 0, none⟩)] (Sort.grow (redrawn w5 d) os') fun e w'' => e = .returned (.bool true) ∧ ∃ p : Regrown, w'' = Sort.grow (redrawn w5 p.d) p.os) := hide fun d os' => Calls.regrown_of (by
    have := Right_at (HM5.out.below (below_regrown w5 d os')) HR2.out.n1 HR2.out.o1
    rw [rightP_iff.2 HR2.out] at this
    exact this)
  have HCB : Hid (∀ d os', Calls Tryd.prog 9 #[.pointer (some ⟨sm.p, 0, none⟩)] (Sort.grow (redrawn w5 d) os') fun e w'' => e = .returned (.int .i64 (gatesTo l2 l2.length)) ∧ ∃ p : Regrown, w'' = Sort.grow (redrawn w5 p.d) p.os) := hide fun d os' => Calls.regrown_of (Gates_at (HM5.out.below (below_regrown w5 d os')) (by have := HR2.out.n1; omega))
  have HCC : Hid (∀ d os', Calls Tryd.prog 9 #[.pointer (some ⟨w.heap.size, 0, none⟩)] (Sort.grow (redrawn w5 d) os') fun e w'' => e = .returned (.int .i64 (gatesTo ns ns.length)) ∧ ∃ p : Regrown, w'' = Sort.grow (redrawn w5 p.d) p.os) := hide fun d os' => by
    have h := Gates_at (HN5.out.below (below_regrown w5 d os')) (by have := HRP.out.n1; omega)
    simp only at h
    exact Calls.regrown_of h
  generalize hgA : gatesTo ns ns.length = gA at *
  generalize hgB : gatesTo l2 l2.length = gB at *
  have q0 := cell_regrown HM5.out.c0
  have q1 := cell_regrown HM5.out.c1
  have q2 := cell_regrown HM5.out.c2
  have p0 := cell_regrown HN5.out.c0
  have p1 := cell_regrown HN5.out.c1
  have p2 := cell_regrown HN5.out.c2
  rw [ho2] at q2
  go_wp2_with fail
  refine wp_region_quiet_below (by kernel_rfl) (by kernel_rfl) ?_
  repeat (quiet_step (first | with_reducible exact HCA.out _ _ | with_reducible exact HCB.out _ _ | with_reducible exact HCC.out _ _))
  refine wpQuiet_nil ?_
  intro _ hw'
  obtain ⟨⟨dq, osq⟩, hw''⟩ := hw'
  subst hw''
  have hbq := below_regrown w5 dq osq
  have HM6 := hide (HM5.out.below hbq)
  have HN6 := hide (HN5.out.below hbq)
  have HB6 := hide (Below.step HB5.out hbq)
  clear hbq q0 q1 q2 p0 p1 p2 HCA HCB HCC HRA HM5 HN5 HB5
  generalize Sort.grow (redrawn w5 dq) osq = w6 at *
  go_wp2_with fail
  refine (clean_at HM6.out HR2.out).mono ?_
  rintro e w7 ⟨⟨sk, rfl, hsk⟩, hb⟩
  have HK7 := hide hsk
  clear hsk
  generalize cleanNs l2 o2 = l3 at *
  generalize cleanOs l2 o2 = o3 at *
  have HM7 := hide (HM6.out.below hb)
  have HN7 := hide (HN6.out.below hb)
  have HB7 := hide (Below.step HB6.out hb)
  clear hb HM6 HN6 HB6 hgb ho2 hl2 hl2i hl2b
  have HG3' : Hid (gatesTo l3 l3.length ≤ gB) := hide HG3.out
  generalize hgC : gatesTo l3 l3.length = gC at *
  have hgci : ¬ ((gB : Nat) : Int) < ((gC : Nat) : Int) := by have := HG3'.out; omega
  have hgcb : decide (((gB : Nat) : Int) < ((gC : Nat) : Int)) = false := by have := HG3'.out; simp; omega
  have HGK := hide (Gates_at HK7.out (by have := HR3.out.n1; omega))
  rw [hgC] at HGK
  go_wp2_with fail
  refine HGK.out.mono ?_
  rintro e w8 ⟨rfl, hb⟩
  have HK8 := hide (HK7.out.below hb)
  have HM8 := hide (HM7.out.below hb)
  have HN8 := hide (HN7.out.below hb)
  have HB8 := hide (Below.step HB7.out hb)
  clear hb HK7 HM7 HN7 HB7 HGK
  have HGM := hide (Gates_at HM8.out (by have := HR2.out.n1; omega))
  rw [hgB] at HGM
  go_wp2_with fail
  refine HGM.out.mono ?_
  rintro e w9 ⟨rfl, hb⟩
  have HK9 := hide (HK8.out.below hb)
  have HM9 := hide (HM8.out.below hb)
  have HN9 := hide (HN8.out.below hb)
  have HB9 := hide (Below.step HB8.out hb)
  clear hb HK8 HM8 HN8 HB8 HGM
  go_wp2_with fail
  have HNA := hide (new_at HN9.out HRP.out)
  refine HNA.out.mono ?_
  rintro e wA ⟨⟨sa, rfl, hsa⟩, hb⟩
  have HSA := hide hsa
  have HKA := hide (HK9.out.below hb)
  have HMA := hide (HM9.out.below hb)
  have HBA := hide (Below.step HB9.out hb)
  have HZA : Hid (w.heap.size ≤ w9.heap.size ∧ w9.heap.size ≤ wA.heap.size) := hide ⟨HB9.out.size, hb.size⟩
  clear hb hsa HK9 HM9 HN9 HB9 HNA
  go_wp2_with fail
  have HNB := hide (new_at HMA.out HR2.out)
  refine HNB.out.mono ?_
  rintro e wB ⟨⟨sb, rfl, hsb⟩, hb⟩
  have HSB := hide hsb
  have HSA2 := hide (HSA.out.below hb)
  have HKB := hide (HKA.out.below hb)
  have HBB := hide (Below.step HBA.out hb)
  have HZB : Hid (wA.heap.size ≤ wB.heap.size) := hide hb.size
  clear hb hsb HKA HMA HBA HNB HSA
  go_wp2_with fail
  have HNC := hide (new_at HKB.out HR3.out)
  refine HNC.out.mono ?_
  rintro e wC ⟨⟨sc, rfl, hsc⟩, hb⟩
  have HSC := hide hsc
  have HSA3 := hide (HSA2.out.below hb)
  have HSB3 := hide (HSB.out.below hb)
  have HBC := hide (Below.step HBB.out hb)
  have HZC : Hid (wB.heap.size ≤ wC.heap.size) := hide hb.size
  clear hb hsc HKB HBB HNC HSA2 HSB
  have HGRC := hide (HGR.out.below HBC.out)
  go_wp2_with fail
  go_loopw [14, 15] (fun i _ wx => ∃ (p : Nat) (ha hb' hc' : List Bool), p ≤ gs.length ∧ i = .int .i64 p ∧ Hid (R3 ha hb' hc') ∧ Hid (SimAt sa wx w9.heap.size wA.heap.size ns os ha) ∧ Hid (SimAt sb wx wA.heap.size wB.heap.size l2 o2 hb') ∧ Hid (SimAt sc wx wB.heap.size wC.heap.size l3 o3 hc') ∧ Hid (Below wC.heap.size wC wx ∨ True) ∧ Hid (Below w.heap.size w wx) ∧ Hid (wC.heap.size ≤ wx.heap.size)) (fun i _ _ => gs.length - (intOf i).toNat)
  case atStart => exact ⟨0, _, _, _, Nat.zero_le _, rfl, HRF, HSA3, HSB3, HSC, hide (.inr trivial), HBC, hide (Nat.le_refl _)⟩
  case round =>
    obtain ⟨p, ha, hb', hc', hp, rfl, hrel3, hsa, hsb, hsc, _, hbw, hzz⟩ := hrel
    by_cases hlt : p < gs.length
    · have hpi : (p : Int) < (gs.length : Int) := by omega
      obtain ⟨⟨gb, goff, hga, hgc⟩, hrow⟩ := (HGR.out.below hbw.out) p hlt
      have HGC : Hid (∀ W, Below w.heap.size w W → W.cell? ⟨gb, goff + p, none⟩ = some (.slice (A p) (rowAt gs p).length (C p)) ∧ Lies AnyB W (A p) (bitsC (rowAt gs p))) := hide (by
        intro W hb
        obtain ⟨⟨gb', goff', hga', hgc'⟩, hrow'⟩ := (HGR.out.below hb) p hlt
        rw [hga] at hga'
        cases hga'
        exact ⟨hgc', hrow'⟩)
      have HGA : Hid (ga = some ⟨gb, goff, none⟩) := hide hga
      rw [HGA.out]
      clear hga
      generalize rowAt gs p = g at hgc hrow HGC
      by_cases h300 : (300 : Int) < (g.length : Int)
      · go_wp2_with fail
        go_ret
        exact ⟨rfl, hbw.out⟩
      · have h3 : (g.length : Int) ≤ 300 := by omega
        have HRW := hide hrow
        clear hrow
        obtain ⟨n1, n2, n3⟩ := HRX.out ha hb' hc' hrel3.out g
        have HE1 := hide n1
        have HE2 := hide n2
        have HRN := hide n3
        clear n1 n2 n3
        go_wp2_with fail
        refine (step_is hsa.out HRP.out g.length rfl (A p) (C p) HRW.out (by omega)).mono ?_
        rintro e y1 ⟨⟨O, rfl, hO, hro⟩, hsa1, hk⟩
        have hA1 := hsa.out.hin
        have hB1 := hsb.out.hin
        have hC1 := hsc.out.hin
        have z1 := HZA.out
        have z2 := HZB.out
        have z3 := HZC.out
        have z4 := hzz.out
        have HIN : Hid (w.heap.size ≤ sa.h ∧ sa.h < wA.heap.size ∧ wA.heap.size ≤ sb.h ∧ sb.h < wB.heap.size ∧ wB.heap.size ≤ sc.h ∧ sc.h < wC.heap.size ∧ w.heap.size ≤ sb.h ∧ w.heap.size ≤ sc.h) := hide (by omega)
        have HOC : Hid (wC.heap.size ≤ O) := hide (Nat.le_trans z4 hO)
        have HSA := hide hsa1
        have HSB := hide (hsb.out.other hk (.inl (by omega)))
        have HSC := hide (hsc.out.other hk (.inl (by omega)))
        have HBY := hide (Below.keptOn' hbw.out hk (by omega) hbw.out.size)
        have HRO := hide hro
        have HZY : Hid (wC.heap.size ≤ y1.heap.size) := hide (Nat.le_trans z4 hk.size)
        clear hsa1 hk hro hO hA1 hB1 hC1 z1 z2 z3 z4 hgc
        have g1 := (HGC.out _ HBY.out).1
        go_wp2_with fail
        refine (step_is HSB.out HR2.out g.length rfl (A p) (C p) (HGC.out _ HBY.out).2 (by omega)).mono ?_
        rintro e y3 ⟨⟨O2, rfl, hO2, hro2⟩, hsb1, hk⟩
        obtain ⟨i1, i2, i3, i4, i5, i6, i7, i8⟩ := HIN.out
        have j1 := HOC.out
        have HSA3 := hide (HSA.out.other hk (.inr i3))
        have HSC3 := hide (HSC.out.other hk (.inl (by omega)))
        have HSB3 := hide hsb1
        have HBY3 := hide (Below.keptOn' HBY.out hk i7 HBY.out.size)
        have HRO3 := hide (hk.blk HRO.out (by omega))
        have HRO2 := hide hro2
        have HZY3 : Hid (wC.heap.size ≤ y3.heap.size) := hide (Nat.le_trans HZY.out hk.size)
        clear hO2 hro2 hsb1 hk HSA HSB HSC HBY HRO HZY i1 i2 i3 i4 i5 i6 i7 i8 j1 g1
        go_wp2_with fail
        refine (equal_is _ _ os.length o2.length (outs_len _ _) (outs_len _ _) _ _ _ _ y3 (Lies.blk (S := AnyB) HRO3.out trivial) (Lies.blk (S := AnyB) HRO2.out trivial) (by have := H60.out; omega) HE1.out).mono ?_
        rintro e y4 ⟨rfl, hb⟩
        have HSA4 := hide (HSA3.out.below hb)
        have HSB4 := hide (HSB3.out.below hb)
        have HSC4 := hide (HSC3.out.below hb)
        have HBY4 := hide (Below.step HBY3.out hb)
        have HRO4 := hide (Below.blk hb HRO3.out)
        have HZY4 : Hid (wC.heap.size ≤ y4.heap.size) := hide (Nat.le_trans HZY3.out hb.size)
        clear hb HSA3 HSB3 HSC3 HBY3 HRO3 HRO2 HZY3
        have g4 := (HGC.out _ HBY4.out).1
        go_wp2_with fail
        refine (step_is HSC4.out HR3.out g.length rfl (A p) (C p) (HGC.out _ HBY4.out).2 (by omega)).mono ?_
        rintro e y8 ⟨⟨O3, rfl, hO3, hro3⟩, hsc1, hk⟩
        obtain ⟨i1, i2, i3, i4, i5, i6, i7, i8⟩ := HIN.out
        have j1 := HOC.out
        have HSA8 := hide (HSA4.out.other hk (.inr (by omega)))
        have HSB8 := hide (HSB4.out.other hk (.inr i5))
        have HSC8 := hide hsc1
        have HBY8 := hide (Below.keptOn' HBY4.out hk i8 HBY4.out.size)
        have HRO8 := hide (hk.blk HRO4.out (by omega))
        have HRO38 := hide hro3
        have HZY8 : Hid (wC.heap.size ≤ y8.heap.size) := hide (Nat.le_trans HZY4.out hk.size)
        clear hO3 hro3 hsc1 hk HSA4 HSB4 HSC4 HBY4 HRO4 HZY4 i1 i2 i3 i4 i5 i6 i7 i8 j1 g4
        go_wp2_with fail
        refine (equal_is _ _ os.length o3.length (outs_len _ _) (outs_len _ _) _ _ _ _ y8 (Lies.blk (S := AnyB) HRO8.out trivial) (Lies.blk (S := AnyB) HRO38.out trivial) (by have := H60.out; omega) HE2.out).mono ?_
        rintro e y9 ⟨rfl, hb⟩
        have HSA9 := hide (HSA8.out.below hb)
        have HSB9 := hide (HSB8.out.below hb)
        have HSC9 := hide (HSC8.out.below hb)
        have HBY9 := hide (Below.step HBY8.out hb)
        have HZY9 : Hid (wC.heap.size ≤ y9.heap.size) := hide (Nat.le_trans HZY8.out hb.size)
        clear hb HSA8 HSB8 HSC8 HBY8 HRO8 HRO38 HZY8
        go_wp2_with fail
        exact ⟨⟨p + 1, _, _, _, by omega, by go_num, HRN, HSA9, HSB9, HSC9, hide (.inr trivial), HBY9, HZY9⟩, by simp [intOf]; omega⟩
    · have hpi : ¬ (p : Int) < (gs.length : Int) := by omega
      go_wp2_with fail
      go_ret
      exact ⟨rfl, hbw.out⟩

end Go.Proofs.YtlnmemeejgnbeaaDoor
