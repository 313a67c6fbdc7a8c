/-
  CONTRACTS of newMaker, all.
-/
import Derived.Test.YtlnmemeejgnbeaaClG
import Derived.Test.YtlnmemeejgnbeaaClKn
set_option linter.unusedSimpArgs false
set_option linter.unusedVariables false
namespace Go.Proofs.Ytlnmemeejgnbeaa
open Go.RowKit

theorem node0 : nodeM [] ⟨1, 0, 0, 0⟩ = (0, [⟨1, 0, 0, 0⟩]) := rfl
theorem node1 : nodeM [⟨1, 0, 0, 0⟩] ⟨2, 0, 0, 0⟩ = (1, ms0) := rfl
/-- a new maker -/
def Fresh (B : Nat) (w' : World) (v : Value) : Prop := ∃ P M na nc, v = .pointer (some ⟨P, 0, none⟩) ∧ MkAt B P M na nc w' ms0

set_option maxRecDepth 100000 in
set_option maxHeartbeats 1600000 in
theorem newMaker_at (w : World) : Calls Try.prog 17 #[] w fun e w' => (∃ v, e = .returned v ∧ Fresh w.heap.size w' v) ∧ Below w.heap.size w w' := by
  have e1 : (w.alloc (.map #[] 0)).heap.size = w.heap.size + 1 := by simp
  have hP := blk_new (w.alloc (.map #[] 0)) (.cells #[.slice none 0 0, .map (some w.heap.size)] 63)
  rw [e1] at hP
  have HM0 : Hid (MkAt w.heap.size (w.heap.size + 1) w.heap.size none 0 ((w.alloc (.map #[] 0)).alloc (.cells #[.slice none 0 0, .map (some w.heap.size)] 63)) []) := hide
    ⟨hP, Mine.none _, Below.blk (below_alloc _ _) (blk_new w (.map #[] 0)), by omega, Nat.le_refl _⟩
  have HB0 := hide (Below.step (below_alloc w (.map #[] 0)) (below_alloc (w.alloc (.map #[] 0)) (.cells #[.slice none 0 0, .map (some w.heap.size)] 63)))
  have hsz := HB0.out.size
  have hmm : (Instr.makeMap 61 none).run Try.prog w = .ok (.map (some w.heap.size)) (w.alloc (.map #[] 0)) := by simp [Instr.makeMap, go_sem]
  clear hP e1
  go_enter Try.func17, Try.ntmps17
  go_wp2_with fail
  generalize (w.alloc (.map #[] 0)).alloc (.cells #[.slice none 0 0, .map (some w.heap.size)] 63) = w1 at *
  refine (node_at ⟨1, 0, 0, 0⟩ (by decide) w1 hsz HM0.out).mono ?_
  rintro e w2 ⟨rfl, na2, nc2, hm2, hs2⟩
  rw [node0] at hm2 ⊢
  have HM2 := hide hm2
  have HB2 := hide (HB0.out.trans (hs2.below HM0.out (Nat.le_refl _) hsz))
  clear hm2 hs2
  have hsz2 := HB2.out.size
  go_wp2_with fail
  refine (node_at ⟨2, 0, 0, 0⟩ (by decide) w2 hsz2 HM2.out).mono ?_
  rintro e w3 ⟨rfl, na3, nc3, hm3, hs3⟩
  rw [node1] at hm3 ⊢
  have HM3 := hide hm3
  have HB3 := hide (HB2.out.trans (hs3.below HM2.out (Nat.le_refl _) hsz2))
  clear hm3 hs3
  go_wp2_with fail
  go_ret
  exact ⟨⟨_, rfl, _, _, na3, nc3, rfl, HM3.out⟩, HB3.out⟩

/-- a net that lies below: nothing above it touches it -/
structure NetB (s : NetP) (B : Nat) (w : World) (given : Int) (ns : List Nd) (os : List Int) : Prop where
  net : NetAt s (fun b => b < B) w given ns os
  low : s.p < B
theorem NetB.keep {s : NetP} {B : Nat} {w w' : World} {given : Int} {ns : List Nd} {os : List Int} (h : NetB s B w given ns os) (hb : Below B w w') : NetB s B w' given ns os :=
  ⟨⟨(hb.block _ h.low).trans h.net.me, h.net.nodes.same fun b hb' _ => hb.block b hb', h.net.outs.same fun b hb' _ => hb.block b hb'⟩, h.low⟩
theorem MkAt.kept {B P M nc : Nat} {na : Option Addr} {w w' : World} {ms : List Nd} {R : Nat} (h : MkAt B P M na nc w ms) (hk : Kept R w w') {c : Array Value} {t : TypeId} {z : Nat × Nat} (hR : w.heap[R]? = some (.cells c t z)) (h1 : t ≠ 63) (h2 : t ≠ 26) : MkAt B P M na nc w' ms := by
  obtain ⟨a, b, d⟩ := h.apart hR h1 h2
  refine ⟨hk.blk h.me (Ne.symm a), h.own.same fun g hg hl => hk.block g hl fun e => ?_, hk.blk h.map (Ne.symm b), h.bP, h.bM⟩
  rw [own_blk] at hg
  exact d (e ▸ hg)
/-- so far -/
structure Alg (B P M : Nat) (wA : World) (SB IB : Nat) (is : List Int) (ns : List Nd) (k : Nat) (wr : World) (na : Option Addr) (nc : Nat) : Prop where
  below : Below B wA wr
  mkr : MkAt B P M na nc wr (mkTo is ns k).ms
  st : wr.heap[SB]? = some (.cells (intsC ((mkTo is ns k).st ++ List.replicate (ns.length - k) 0)).toArray 3 (0, 0))
  is_ : wr.heap[IB]? = some (.cells (intsC is).toArray 3 (0, 0))
theorem mkTo_open {is : List Int} {ns : List Nd} {k : Nat} (h : outAt is k = 2) : mkTo is ns (k + 1) = ⟨(mkTo is ns k).st ++ [(doneR (mkTo is ns k).ms (anewR (mkTo is ns k).ms (mkTo is ns k).st (ndAt ns k))).1], (doneR (mkTo is ns k).ms (anewR (mkTo is ns k).ms (mkTo is ns k).st (ndAt ns k))).2⟩ := by
  show mkStep _ _ _ = _
  unfold mkStep
  rw [if_pos h]
theorem mkTo_known {is : List Int} {ns : List Nd} {k : Nat} (h : outAt is k ≠ 2) : mkTo is ns (k + 1) = ⟨(mkTo is ns k).st ++ [outAt is k], (mkTo is ns k).ms⟩ := by
  show mkStep _ _ _ = _
  unfold mkStep
  rw [if_neg h]

set_option maxRecDepth 100000 in
set_option maxHeartbeats 12800000 in
theorem all_at {s : NetP} {B P M nc : Nat} {na : Option Addr} {given : Int} {ns : List Nd} {os : List Int} (w : World) (hnet : NetB s B w given ns os) (hr : RightP given ns os) (hm : MkAt B P M na nc w ms0) (hB : B ≤ w.heap.size) (hkn : KnOK ns (knownP ns)) :
    Calls Try.prog 18 #[.pointer (some ⟨P, 0, none⟩), .pointer (some ⟨s.p, 0, none⟩)] w fun e w' => (∃ SB na' nc', e = .returned (.slice (some ⟨SB, 0, none⟩) ns.length ns.length) ∧ w.heap.size ≤ SB ∧ MkAt B P M na' nc' w' (mkAll ns).ms ∧ w'.heap[SB]? = some (.cells (intsC (mkAll ns).st).toArray 3 (0, 0))) ∧ Below B w w' := by
  have hn : (ns.length : Int) ≤ 20000 := by have := hr.n1; omega
  have hmk := mk_ints ns.length (by have := hr.n1; omega)
  have HNET := hide hnet
  have HR := hide hr
  have HKN := hide hkn
  have HM := hide hm
  have HB := hide hB
  have c1 := hnet.net.c1
  have c1a := fun o => cell_alloc c1 o
  have hpl := hnet.net.lt
  have HBA := hide (below_alloc w (.cells (intsC (List.replicate ns.length 0)).toArray 3))
  have HSA := hide (blk_new w (.cells (intsC (List.replicate ns.length 0)).toArray 3))
  have HLA := hide (hnet.net.nodes.below HBA.out)
  clear hnet hr hm hkn hB
  go_enter Try.func18, Try.ntmps18
  go_wp2_with fail
  refine (known_at (nc := s.nc) _ HLA.out HR.out).mono ?_
  rintro e w1 ⟨⟨IB, rfl, hIB, hI⟩, hb⟩
  have HB1 := hide (Below.step HBA.out hb)
  have HI := hide hI
  have HIB := hide hIB
  have HS1 := hide (Below.blk hb HSA.out)
  have HBW : Hid (Below B w w1) := hide ⟨HB1.out.os, HB1.out.tape, HB1.out.output, HB1.out.size, fun k hk => HB1.out.block k (by have := HB.out; omega)⟩
  have HM1 := hide (HM.out.more HB1.out)
  have c2 := (HNET.out.keep HBW.out).net.c1
  have HNE : Hid (IB ≠ w.heap.size) := hide (by have h := HIB.out; simp at h; omega)
  clear hI hIB hb HBA HSA HLA c1 c1a hmk HB1
  have HC0 : Hid (Alg B P M w w.heap.size IB (knownP ns) ns 0 w1 na nc) := hide ⟨HBW.out, HM1.out, HS1.out, HI.out⟩
  clear HI HS1 HM1
  generalize hISK : knownP ns = is at *
  have HISK := hide hISK
  clear hISK
  go_wp2_with fail
  go_loopw [7, 8, 25] (fun _ _ i wr => ∃ k na nc, k ≤ ns.length ∧ i = .int .i64 (k : Nat) ∧ Hid (Alg B P M w w.heap.size IB is ns k wr na nc)) (fun _ _ i _ => ns.length - (intOf i).toNat)
  case atStart => exact ⟨0, na, nc, Nat.zero_le _, rfl, HC0⟩
  case round =>
    obtain ⟨k, nb, nd, hk, rfl, hc⟩ := hrel
    by_cases hlt : k < ns.length
    · have hki : (k : Int) < (ns.length : Int) := by omega
      have HNR := hide (HNET.out.keep hc.out.below)
      obtain ⟨b, off, ha, _, hbl, n0, n1, n2, n3⟩ := HNR.out.net.nodes.nodes hlt
      have HA := hide ha
      have HRN := hide (HR.out.nodes k hlt)
      have HG := hide (mkTo_good HR.out HKN.out k hk)
      have HOP := hide fun h => HKN.out.2.2 k hlt h
      have HLI : Hid (is.length = ns.length) := hide HKN.out.1
      have hiI := ints_cellN hc.out.is_ (show k < is.length by rw [HLI.out]; exact hlt)
      have HLS : Hid (((mkTo is ns k).st ++ List.replicate (ns.length - k) 0).length = ns.length) := hide (by rw [List.length_append, HG.out.len, List.length_replicate]; omega)
      have HSET : Hid (∀ v, ((mkTo is ns k).st ++ List.replicate (ns.length - k) 0).set k v = ((mkTo is ns k).st ++ [v]) ++ List.replicate (ns.length - (k + 1)) 0) := hide fun v => rowI_set _ _ _ _ HG.out.len hlt
      have HSL := hide (blk_lt hc.out.st)
      have HBwr : Hid (B ≤ wr.heap.size) := hide (Nat.le_trans HB.out hc.out.below.size)
      rw [HA.out]
      clear ha
      have HOPN := hide (mkTo_open (is := is) (ns := ns) (k := k))
      have HKNN := hide (mkTo_known (is := is) (ns := ns) (k := k))
      generalize hnd : ndAt ns k = x at n0 n1 n2 n3 HRN HOP HOPN
      clear hnd
      generalize hvk : outAt is k = vk at *
      clear hvk
      obtain ⟨op, xa, xb, xn⟩ := x
      simp only at n0 n1 n2 n3
      have HB1 : Hid (Below wr.heap.size wr (wr.alloc (.cells #[.int .i64 op, .int .i64 xa, .int .i64 xb, .int .i64 xn] 26))) := hide (below_alloc _ _)
      have HX1 := hide (blk_new wr (.cells #[.int .i64 op, .int .i64 xa, .int .i64 xb, .int .i64 xn] 26))
      have HST1 := hide (Below.blk HB1.out hc.out.st)
      have HIS1 := hide (Below.blk HB1.out hc.out.is_)
      have HBL1 : Hid (Below B w (wr.alloc (.cells #[.int .i64 op, .int .i64 xa, .int .i64 xb, .int .i64 xn] 26))) := hide (hc.out.below.trans (HB1.out.mono HBwr.out))
      have fz := blk_frozen HST1.out k
      have c0 := ints_cellN HST1.out (show k < _ by rw [HLS.out]; exact hlt)
      have hiIa := fun o => cell_alloc hiI o
      have HK2 : Hid (Kept w.heap.size (wr.alloc (.cells #[.int .i64 op, .int .i64 xa, .int .i64 xb, .int .i64 xn] 26)) ((wr.alloc (.cells #[.int .i64 op, .int .i64 xa, .int .i64 xb, .int .i64 xn] 26)).setCell ⟨w.heap.size, k, none⟩ (.int .i64 vk))) := hide (Kept.set _ _ _)
      have HST2 : Hid (((wr.alloc (.cells #[.int .i64 op, .int .i64 xa, .int .i64 xb, .int .i64 xn] 26)).setCell ⟨w.heap.size, k, none⟩ (.int .i64 vk)).heap[w.heap.size]? = some (.cells (intsC (((mkTo is ns k).st ++ [vk]) ++ List.replicate (ns.length - (k + 1)) 0)).toArray 3 (0, 0))) := hide (by rw [blk_set HST1.out, ints_set, HSET.out])
      have HIS2 := hide (HK2.out.blk HIS1.out HNE.out)
      have HBL2 := hide (Below.toKept HBL1.out HK2.out HB.out (by have := HBL1.out.size; have := HB.out; omega))
      have HM2 := hide ((hc.out.mkr.more HB1.out).kept HK2.out HST1.out (by decide) (by decide))
      have HX2 := hide (HK2.out.blk HX1.out (by have := HSL.out; omega))
      have hI2 : ((wr.alloc (.cells #[.int .i64 op, .int .i64 xa, .int .i64 xb, .int .i64 xn] 26)).setCell ⟨w.heap.size, k, none⟩ (.int .i64 vk)).cell? ⟨IB, k, none⟩ = some (.int .i64 vk) := (World.cell?_of_block (Below.heap_setCell _ _ _ _ HNE.out)).trans (hiIa _)
      have HKN1 := HKNN
      by_cases h2 : vk = 2
      · subst h2
        have HOPN := hide (HOPN.out rfl)
        have HOP := hide (HOP.out rfl)
        have HLL : Hid ((((mkTo is ns k).st ++ [(2 : Int)]) ++ List.replicate (ns.length - (k + 1)) 0).length = ns.length) := hide (by simp [HG.out.len]; omega)
        have HPRE : Hid (∀ i, i < k → outAt (((mkTo is ns k).st ++ [(2 : Int)]) ++ List.replicate (ns.length - (k + 1)) 0) i = outAt (mkTo is ns k).st i) := hide fun i hi => by
          rw [List.append_assoc, outAt_app_left (by rw [HG.out.len]; exact hi)]
        have HST3 : Hid (∀ v, (((mkTo is ns k).st ++ [(2 : Int)]) ++ List.replicate (ns.length - (k + 1)) 0).set k v = ((mkTo is ns k).st ++ [v]) ++ List.replicate (ns.length - (k + 1)) 0) := hide fun v => by
          rw [List.append_assoc, List.append_assoc, List.set_append_right _ _ (by rw [HG.out.len]; exact Nat.le_refl _), HG.out.len, Nat.sub_self]
          rfl
        have h22 : ((2 : Int) == 2) = true := rfl
        have x0 : ((wr.alloc (.cells #[.int .i64 op, .int .i64 xa, .int .i64 xb, .int .i64 xn] 26)).setCell ⟨w.heap.size, k, none⟩ (.int .i64 2)).cell? ⟨wr.heap.size, 0, none⟩ = some (.int .i64 op) := by rw [blk_cell HX2.out]; rfl
        have x1 : ((wr.alloc (.cells #[.int .i64 op, .int .i64 xa, .int .i64 xb, .int .i64 xn] 26)).setCell ⟨w.heap.size, k, none⟩ (.int .i64 2)).cell? ⟨wr.heap.size, 1, none⟩ = some (.int .i64 xa) := by rw [blk_cell HX2.out]; rfl
        have x2 : ((wr.alloc (.cells #[.int .i64 op, .int .i64 xa, .int .i64 xb, .int .i64 xn] 26)).setCell ⟨w.heap.size, k, none⟩ (.int .i64 2)).cell? ⟨wr.heap.size, 2, none⟩ = some (.int .i64 xb) := by rw [blk_cell HX2.out]; rfl
        have x3 : ((wr.alloc (.cells #[.int .i64 op, .int .i64 xa, .int .i64 xb, .int .i64 xn] 26)).setCell ⟨w.heap.size, k, none⟩ (.int .i64 2)).cell? ⟨wr.heap.size, 3, none⟩ = some (.int .i64 xn) := by rw [blk_cell HX2.out]; rfl
        have HMO : Hid (MkOK B P M nb nd ((wr.alloc (.cells #[.int .i64 op, .int .i64 xa, .int .i64 xb, .int .i64 xn] 26)).setCell ⟨w.heap.size, k, none⟩ (.int .i64 2)) (mkTo is ns k).ms) := hide ⟨HM2.out, by have := HG.out.few; omega, by have := HBL2.out.size; have := HB.out; omega, HG.out.ahead⟩
        have HAN := hide (anew_at (P := P) ⟨op, xa, xb, xn⟩ ns.length k given w.heap.size _ _ HMO.out HST2.out HRN.out HOP.out.1 HOP.out.2 (by rw [HLL.out]; omega) (fun i hi => by rw [HPRE.out i hi]; exact HG.out.all i hi))
        rw [anew_pre HRN.out HOP.out.1 HOP.out.2 HPRE.out, HLL.out] at HAN
        generalize hL2 : ((mkTo is ns k).st ++ [(2 : Int)]) ++ List.replicate (ns.length - (k + 1)) 0 = L2 at *
        clear hL2
        simp only [ndV] at HAN
        go_wp2_with fail
        clear x0 x1 x2 x3 hI2 fz c0 hiI hiIa n0 n1 n2 n3
        unfold Gives at HAN
        refine HAN.out.mono ?_
        generalize hD : doneR (mkTo is ns k).ms (anewR (mkTo is ns k).ms (mkTo is ns k).st ⟨op, xa, xb, xn⟩) = D at *
        obtain ⟨v, ms'⟩ := D
        rintro e w3 ⟨rfl, na3, nc3, hm3, hs3⟩
        have HM3 := hide hm3
        have HST4 := hide (hs3.blk HM2.out HST2.out (by decide) (by decide))
        have HIS4 := hide (hs3.blk HM2.out HIS2.out (by decide) (by decide))
        have HBL3 := hide (HBL2.out.trans (hs3.below HM2.out (Nat.le_refl _) (by have := HBL2.out.size; have := HB.out; omega)))
        clear hm3 hs3 hD
        generalize ((wr.alloc (.cells #[.int .i64 op, .int .i64 xa, .int .i64 xb, .int .i64 xn] 26)).setCell ⟨w.heap.size, k, none⟩ (.int .i64 2)) = w2 at *
        have fz := blk_frozen HST4.out k
        have c0 := ints_cellN HST4.out (show k < _ by rw [HLL.out]; exact hlt)
        have HK4 : Hid (Kept w.heap.size w3 (w3.setCell ⟨w.heap.size, k, none⟩ (.int .i64 v))) := hide (Kept.set _ _ _)
        have HFIN : Hid (Alg B P M w w.heap.size IB is ns (k + 1) (w3.setCell ⟨w.heap.size, k, none⟩ (.int .i64 v)) na3 nc3) := hide (by
          have hop : mkTo is ns (k + 1) = ⟨(mkTo is ns k).st ++ [v], ms'⟩ := by first | exact HOPN.out | exact HOPN.out trivial
          refine ⟨Below.toKept HBL3.out HK4.out HB.out (by have := HBL3.out.size; have := HB.out; omega), ?_, ?_, HK4.out.blk HIS4.out HNE.out⟩
          · rw [hop]; exact HM3.out.kept HK4.out HST4.out (by decide) (by decide)
          · rw [hop, blk_set HST4.out, ints_set, HST3.out])
        go_wp2_with fail
        exact ⟨⟨k + 1, na3, nc3, by omega, by go_num, HFIN⟩, by simp [intOf]; omega⟩
      · have h22 : (vk == 2) = false := by simp [h2]
        have HKNN := hide (HKNN.out h2)
        have HFIN : Hid (Alg B P M w w.heap.size IB is ns (k + 1) ((wr.alloc (.cells #[.int .i64 op, .int .i64 xa, .int .i64 xb, .int .i64 xn] 26)).setCell ⟨w.heap.size, k, none⟩ (.int .i64 vk)) nb nd) := hide (by
          refine ⟨HBL2.out, ?_, ?_, HIS2.out⟩
          · rw [HKNN.out]; exact HM2.out
          · rw [HKNN.out]; exact HST2.out)
        clear h2
        go_wp2_with fail
        exact ⟨⟨k + 1, nb, nd, by omega, by go_num, HFIN⟩, by simp [intOf]; omega⟩
    · have hki : ¬ (k : Int) < (ns.length : Int) := by omega
      obtain rfl : k = ns.length := by omega
      go_wp2_with fail
      go_ret
      have hst := hc.out.st
      rw [Nat.sub_self, List.replicate_zero, List.append_nil] at hst
      have e : mkAll ns = mkTo is ns ns.length := by unfold mkAll; rw [HISK.out]
      rw [e]
      exact ⟨⟨_, rfl, Nat.le_refl _, ⟨nb, nd, hc.out.mkr⟩, hst⟩, hc.out.below⟩
end Go.Proofs.Ytlnmemeejgnbeaa
