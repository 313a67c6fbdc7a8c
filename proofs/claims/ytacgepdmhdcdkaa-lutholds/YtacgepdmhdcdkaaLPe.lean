/-
  packed's net, plain.
  CONTRACT of packed: three gates in one table.
-/
import Derived.Test.YtacgepdmhdcdkaaLPb
import Derived.Test.YtacgepdmhdcdkaaLNew
set_option linter.unusedSimpArgs false
set_option linter.unusedVariables false
namespace Go.Proofs.Ytacgepdmhdcdkaa
open Go.RowKit Go.Maps

def nsP : List Nd := [⟨3, 0, 0, 0⟩, ⟨3, 1, 0, 0⟩, ⟨3, 2, 0, 0⟩, ⟨5, 0, 1, 0⟩, ⟨6, 3, 2, 0⟩]
theorem nsP_right : rightP ((3 : Nat) : Int) nsP [4] = true := by decide
theorem nsP_nodes : ∀ j, j < nsP.length → rightN ((3 : Nat) : Int) nsP.length j (ndAt nsP j) = true := by
  intro j hj
  have : j = 0 ∨ j = 1 ∨ j = 2 ∨ j = 3 ∨ j = 4 := by have : nsP.length = 5 := rfl; omega
  rcases this with rfl | rfl | rfl | rfl | rfl <;> decide
theorem nsP_narrow : Narrow nsP := by
  intro j hj _
  have : j = 0 ∨ j = 1 ∨ j = 2 ∨ j = 3 ∨ j = 4 := by have : nsP.length = 5 := rfl; omega
  rcases this with rfl | rfl | rfl | rfl | rfl <;> decide
theorem nsP_outs : ∀ i, i < ([4] : List Int).length → inR (outAt [4] i) nsP.length = true := by
  intro i hi
  have : i = 0 := by simp at hi; omega
  subst this; decide
theorem packedOk {rs : List Rg} {ls : List Lt} {os' : List Int} (h : PackOk 3 nsP [4] rs ls os') : rs = [] ∧ ls.length ≤ 4 ∧ RightT 3 rs ls os' ∧ os'.length = 1 ∧ outsL (lookL 3 [true, true, false] [] ls) os' = [true] ∧ outsL (lookL 3 [true, false, false] [] ls) os' = [false] := by
  have h1 := h.regs
  have h2 : regsN nsP nsP.length = 0 := by decide
  have h3 : rs = [] := List.eq_nil_of_length_eq_zero (by omega)
  have h4 := h.few
  have h5 : gatesTo nsP nsP.length = 2 := by decide
  have h6 : packH [] nsP nsP.length = [] := by decide
  have h7 := h.outs [true, true, false] []
  have h8 := h.outs [true, false, false] []
  rw [h6] at h7 h8
  exact ⟨h3, by omega, h.right (by decide) (by decide) (by decide), h.outn, h7.trans (by decide), h8.trans (by decide)⟩
end Go.Proofs.Ytacgepdmhdcdkaa
set_option linter.unusedSimpArgs false
set_option linter.unusedVariables false
namespace Go.Proofs.Ytacgepdmhdcdkaa
open Go.RowKit Go.Maps

theorem belowOn {B R : Nat} {w0 w w' : World} (h : Below B w0 w) (hk : Kept R w w') (hR : B ≤ R) (hB : B ≤ w.heap.size) : Below B w0 w' :=
  ⟨hk.os.trans h.os, hk.tape.trans h.tape, hk.output.trans h.output, Nat.le_trans h.size hk.size, fun k hl => (hk.block k (Nat.lt_of_lt_of_le hl hB) (by omega)).trans (h.block k hl)⟩
theorem wyC_take (ys : List Wy) : ∀ n, n ≤ ys.length → pairC (lutF (fun i => (wyAt ys i).a) (fun i => (wyAt ys i).c) (ys.map (·.l))) (lutG (ys.map (·.l))) n = wyC (ys.take n)
  | 0, _ => rfl
  | n + 1, h => by
    have hn : n < ys.length := by omega
    have e1 : ltAt (ys.map (·.l)) n = (wyAt ys n).l := by unfold ltAt wyAt; simp [hn]
    have e2 : ys.take (n + 1) = ys.take n ++ [wyAt ys n] := by
      rw [List.take_add_one]
      unfold wyAt
      simp [hn]
    simp only [pairC]
    rw [wyC_take ys n (by omega), e2, wyC_append]
    simp only [lutF, lutG, e1]
    rfl
theorem wyC_luts (ys : List Wy) (ls : List Lt) (h : ys.map (·.l) = ls) : wyC ys = lutsC (fun i => (wyAt ys i).a) (fun i => (wyAt ys i).c) ls := by
  subst h
  unfold lutsC
  rw [List.length_map, wyC_take ys ys.length (Nat.le_refl _), List.take_length]
/-- what is packed is a net of tables in memory -/
theorem packed_net {S : Nat → Prop} {gv : Int} {rs : List Rg} {ls : List Lt} {os : List Int} {N : Nat} {ra la oa : Option Addr} {rc lc oc : Nat} {ys : List Wy} {w : World} (hnt : w.heap[N]? = some (.cells #[.int .i64 gv, .slice ra rs.length rc, .slice la ls.length lc, .slice oa os.length oc] 26 (0, 0))) (hys : ys.map (·.l) = ls) (h1 : Lies S w ra (rgsC rs)) (h2 : Lies S w la (wyC ys)) (h3 : ∀ y ∈ ys, Lies S w y.a (intsC y.l.ins)) (h4 : Lies S w oa (intsC os)) :
    NetT ⟨N, ra, rc, la, lc, oa, oc, fun i => (wyAt ys i).a, fun i => (wyAt ys i).c⟩ S w gv rs ls os := by
  refine ⟨hnt, h1, ⟨by rw [← wyC_luts ys ls hys]; exact h2, fun i hi => ?_⟩, h4⟩
  have hl : i < ys.length := by rw [← hys, List.length_map] at hi; exact hi
  have e1 : ltAt ls i = (wyAt ys i).l := by subst hys; unfold ltAt wyAt; simp [hl]
  rw [e1]
  exact h3 _ (by have : wyAt ys i = ys[i] := by simp [wyAt, hl]
                 rw [this]; exact List.getElem_mem _)

set_option maxRecDepth 100000 in
set_option maxHeartbeats 6400000 in
theorem packed_at (w : World) : Calls Try.prog 5 #[] w fun e w' => e = .returned (.bool true) ∧ Below w.heap.size w w' := by
  have hqe : ∀ (w : World), (binOp .eql 32 .nilIface .nilIface).run Try.prog w = .ok (.bool true) w := fun _ => rfl
  have hqn : ∀ (w : World), (binOp .neq 32 .nilIface .nilIface).run Try.prog w = .ok (.bool false) w := fun _ => rfl
  have hl1 := below_alloc w (.cells #[.int .i64 3, .int .i64 0, .int .i64 0, .int .i64 0, .int .i64 3, .int .i64 1, .int .i64 0, .int .i64 0, .int .i64 3, .int .i64 2, .int .i64 0, .int .i64 0, .int .i64 5, .int .i64 0, .int .i64 1, .int .i64 0, .int .i64 6, .int .i64 3, .int .i64 2, .int .i64 0] 48)
  have hb1 := blk_new w (.cells #[.int .i64 3, .int .i64 0, .int .i64 0, .int .i64 0, .int .i64 3, .int .i64 1, .int .i64 0, .int .i64 0, .int .i64 3, .int .i64 2, .int .i64 0, .int .i64 0, .int .i64 5, .int .i64 0, .int .i64 1, .int .i64 0, .int .i64 6, .int .i64 3, .int .i64 2, .int .i64 0] 48)
  have hz1 : (w.alloc (.cells #[.int .i64 3, .int .i64 0, .int .i64 0, .int .i64 0, .int .i64 3, .int .i64 1, .int .i64 0, .int .i64 0, .int .i64 3, .int .i64 2, .int .i64 0, .int .i64 0, .int .i64 5, .int .i64 0, .int .i64 1, .int .i64 0, .int .i64 6, .int .i64 3, .int .i64 2, .int .i64 0] 48)).heap.size = w.heap.size + 1 := by simp
  have HL1 := hide hl1
  have HB1 := hide hb1
  have HZ1 := hide hz1
  clear hl1 hb1 hz1
  go_enter Try.func5, Try.ntmps5
  go_wp2_with fail
  generalize w.alloc (.cells #[.int .i64 3, .int .i64 0, .int .i64 0, .int .i64 0, .int .i64 3, .int .i64 1, .int .i64 0, .int .i64 0, .int .i64 3, .int .i64 2, .int .i64 0, .int .i64 0, .int .i64 5, .int .i64 0, .int .i64 1, .int .i64 0, .int .i64 6, .int .i64 3, .int .i64 2, .int .i64 0] 48) = w1 at *
  have hl2 := below_alloc w1 (.cells #[.int .i64 4] 3)
  have hb2 := blk_new w1 (.cells #[.int .i64 4] 3)
  have hz2 : (w1.alloc (.cells #[.int .i64 4] 3)).heap.size = w.heap.size + 1 + 1 := by simp [HZ1.out]
  rw [HZ1.out] at hb2
  generalize w1.alloc (.cells #[.int .i64 4] 3) = w2 at *
  have hl3 := below_alloc w2 (.cells #[.int .i64 3, .slice (some ⟨w.heap.size, 0, none⟩) 5 5, .slice (some ⟨w.heap.size + 1, 0, none⟩) 1 1] 51)
  have hb3 := blk_new w2 (.cells #[.int .i64 3, .slice (some ⟨w.heap.size, 0, none⟩) 5 5, .slice (some ⟨w.heap.size + 1, 0, none⟩) 1 1] 51)
  rw [hz2] at hb3
  generalize w2.alloc (.cells #[.int .i64 3, .slice (some ⟨w.heap.size, 0, none⟩) 5 5, .slice (some ⟨w.heap.size + 1, 0, none⟩) 1 1] 51) = w3 at *
  have HBW := hide (Below.step HL1.out (Below.step hl2 hl3))
  have HN : Hid (NetAt ⟨w.heap.size + 1 + 1, some ⟨w.heap.size, 0, none⟩, 5, some ⟨w.heap.size + 1, 0, none⟩, 1⟩ AnyB w3 ((3 : Nat) : Int) nsP [4]) := hide ⟨hb3, Lies.blk (cs := ndsC nsP) (Below.blk hl3 (Below.blk hl2 HB1.out)) trivial, Lies.blk (cs := intsC [4]) (Below.blk hl3 hb2) trivial⟩
  clear hl2 hb2 hz2 hl3 hb3 HL1 HB1 HZ1
  refine (pack_at HN.out nsP_right nsP_narrow (by decide) (by decide) (by decide) nsP_nodes nsP_outs).mono ?_
  rintro e w4 ⟨rs, ls, os', N, ra, la, oa, rc, lc, oc, ys, hok, rfl, hN, hnt, hys, h1, h2, h3, h4, hb4⟩
  obtain ⟨rfl, hl4, hrt, ho1, ho2, ho3⟩ := packedOk hok
  have HNT := hide (packed_net hnt hys h1 h2 h3 h4)
  have HRT := hide hrt
  have HB4 := hide (Below.step HBW.out hb4)
  have HCR := LRight_at HNT.out (by simp) (by omega) (by omega)
  rw [rightT_iff.2 hrt] at HCR
  have HCR := hide HCR
  have HO1 := hide ho1
  have HO2 := hide ho2
  have HO3 := hide ho3
  have hl4i : ¬ (4 : Int) < (ls.length : Int) := by omega
  clear hok hN hnt hys h1 h2 h3 h4 hb4 HBW HN hrt ho1 ho2 ho3
  go_wp2_with fail
  refine HCR.out.mono ?_
  rintro e w5 ⟨rfl, hb5⟩
  have HB5 := hide (Below.step HB4.out hb5)
  have HNT5 := hide (HNT.out.below hb5)
  have k5 : w5.cell? ⟨N, 2, none⟩ = some (.slice la ls.length lc) := by rw [blk_cell HNT5.out.me]; rfl
  clear hb5 HNT HB4 HCR
  have HNEW := hide (lnew_at HNT5.out HRT.out)
  go_wp2_with fail
  clear k5
  refine HNEW.out.mono ?_
  rintro e w6 ⟨⟨sp, rfl, hsp, hpz⟩, hb6⟩
  have HSP := hide hsp
  have HPZ := hide hpz
  have HB6 := hide (Below.step HB5.out hb6)
  have HPA : Hid (w.heap.size ≤ sp.p) := hide (Nat.le_trans HB5.out.size hpz)
  have HLE1 : Hid (w5.heap.size ≤ w6.heap.size) := hide hb6.size
  clear hsp hpz hb6 HNEW
  go_wp2_with fail
  have hla1 := below_alloc w6 (.cells #[.bool true, .bool true, .bool false] 4)
  have HLA1 := hide hla1
  have HSA1 := hide (HSP.out.below hla1)
  have HGA1 := hide (blk_new w6 (.cells #[.bool true, .bool true, .bool false] 4))
  have HBA1 := hide (Below.step HB6.out hla1)
  have HSZ1 := hide (HSP.out.lt)
  have HZZ1 := hide (hla1.size)
  clear hla1
  generalize w6.alloc (.cells #[.bool true, .bool true, .bool false] 4) = x1 at *
  refine (lstep_at HSA1.out HRT.out (some ⟨w6.heap.size, 0, none⟩) 3 (Lies.blk (cs := bitsC [true, true, false]) HGA1.out trivial) (fun b hb => ⟨by have h1 := HZZ1.out; have h2 := HLE1.out; omega, by have h1 := HZZ1.out; have h2 := HSZ1.out; omega⟩)).mono ?_
  rintro e w8 ⟨⟨O1, rfl, hO1, hrow1⟩, hs1, hk1⟩
  have HS1n := hide hs1
  have HB1n := hide (belowOn HBA1.out hk1 HPA.out HBA1.out.size)
  have hc1 : w8.cell? ⟨O1, 0, none⟩ = some (.bool true) := by
    have hq : outsL (lookL 3 [true, true, false] [] ls) os' = [true] := HO2.out
    have hq2 : w8.heap[O1]? = some (.cells (bitsC (outsL (lookL 3 [true, true, false] [] ls) os')).toArray 4 (0, 0)) := hrow1
    rw [hq] at hq2
    rw [blk_cell hq2]; rfl
  have hi1 : (0 : Int) < (os'.length : Int) := by rw [HO1.out]; decide
  have hj1 : 0 < os'.length := by rw [HO1.out]; decide
  have HLE2 : Hid (w5.heap.size ≤ w8.heap.size) := hide (by have h1 := HZZ1.out; have h2 := HLE1.out; have h3 := hk1.size; omega)
  clear hO1 hrow1 hs1 hk1 HSA1 HGA1 HLA1
  go_wp2_with fail
  clear hc1 hi1 hj1
  have hla2 := below_alloc w8 (.cells #[.bool true, .bool false, .bool false] 4)
  have HLA2 := hide hla2
  have HSA2 := hide (HS1n.out.below hla2)
  have HGA2 := hide (blk_new w8 (.cells #[.bool true, .bool false, .bool false] 4))
  have HBA2 := hide (Below.step HB1n.out hla2)
  have HSZ2 := hide (HS1n.out.lt)
  have HZZ2 := hide (hla2.size)
  clear hla2
  generalize w8.alloc (.cells #[.bool true, .bool false, .bool false] 4) = x2 at *
  refine (lstep_at HSA2.out HRT.out (some ⟨w8.heap.size, 0, none⟩) 3 (Lies.blk (cs := bitsC [true, false, false]) HGA2.out trivial) (fun b hb => ⟨by have h1 := HZZ2.out; have h2 := HLE2.out; omega, by have h1 := HZZ2.out; have h2 := HSZ2.out; omega⟩)).mono ?_
  rintro e w10 ⟨⟨O2, rfl, hO2, hrow2⟩, hs2, hk2⟩
  have HS2n := hide hs2
  have HB2n := hide (belowOn HBA2.out hk2 HPA.out HBA2.out.size)
  have hc2 : w10.cell? ⟨O2, 0, none⟩ = some (.bool false) := by
    have hq : outsL (lookL 3 [true, false, false] [] ls) os' = [false] := HO3.out
    have hq2 : w10.heap[O2]? = some (.cells (bitsC (outsL (lookL 3 [true, false, false] [] ls) os')).toArray 4 (0, 0)) := hrow2
    rw [hq] at hq2
    rw [blk_cell hq2]; rfl
  have hi2 : (0 : Int) < (os'.length : Int) := by rw [HO1.out]; decide
  have hj2 : 0 < os'.length := by rw [HO1.out]; decide
  have HLE3 : Hid (w5.heap.size ≤ w10.heap.size) := hide (by have h1 := HZZ2.out; have h2 := HLE2.out; have h3 := hk2.size; omega)
  clear hO2 hrow2 hs2 hk2 HSA2 HGA2 HLA2
  go_wp2_with fail
  clear hc2 hi2 hj2
  go_ret
  exact ⟨rfl, HB2n.out⟩
end Go.Proofs.Ytacgepdmhdcdkaa
