/-
  CONTRACT of timed: a fact.
-/
import Derived.Test.YtiimnnancblbkaaDoorSc8
set_option linter.unusedSimpArgs false
set_option linter.unusedVariables false
namespace Go.Proofs.YtiimnnancblbkaaDoor
open Go.RowKit

theorem prRep_2 {N : Nat} {w : World} {v : Value} {p : List De × List St} (h : PrRep N w v p) : ∃ (aa : Option Addr) (ac : Nat) (ba : Option Addr) (bc : Nat), v = .agg #[.slice aa p.1.length ac, .slice ba p.2.length bc] ∧ IsDes (From N) w p.1 (.slice aa p.1.length ac) ∧ IsSts (From N) w p.2 (.slice ba p.2.length bc) := by
  obtain ⟨a, b, rfl, h1, h2⟩ := h
  obtain ⟨aa, ac, rfl⟩ := h1.val
  obtain ⟨ba, bc, rfl⟩ := (show ∃ (x : Option Addr) (k : Nat), b = .slice x p.2.length k from by obtain ⟨cs, hr, _⟩ := h2; exact hr.val)
  exact ⟨aa, ac, ba, bc, rfl, h1, h2⟩
/-- all that is asked of a program that was read, and found right -/
structure Fine (p : List De × List St) : Prop where
  good : GoodPr p
  many : p.1.length ≤ 20
  deep : depL p.2 ≤ 8
  size : p.2.length ≤ 1000000
  sm : SmL p.2
  qm : QmL p.2
  ok : checkC p = .ok ()
  fit : FitL (kindK p.1) p.2
theorem fine_of {s : ByteArray} (hs : s.size ≤ 100000) {p : List De × List St} {k : Nat} (h : parse2 s = .ok p k) (hc : checkC p = .ok ()) : Fine p := by
  obtain ⟨hg, hkl⟩ := parse_inv (by omega) h
  have hk : (stsK p.2).length ≤ 1000000 := by
    have : (stsK p.2).length ≤ (printK p).length := by simp only [printK, List.length_append]; omega
    omega
  have h2 := qstsK_ge p.2
  exact ⟨hg, hg.many, hg.deep, by omega, sm_sts p.2 hk, qm_sts p.2 hk, hc, fit_check hg.body (qm_sts p.2 hk) hc⟩

theorem Plt.same {w w' : World} {P V B : Nat} {dv bv : Value} {vs : Vs} {ks : Ks} (h : Plt w P V B dv bv vs ks) (h1 : w'.heap[P]? = w.heap[P]?) (h2 : w'.heap[V]? = w.heap[V]?) (h3 : w'.heap[B]? = w.heap[B]?) : Plt w' P V B dv bv vs ks :=
  ⟨h1.trans h.me, h2.trans h.vals, h3.trans h.blks, h.ne⟩
/-- cycles: what is held, and what came out -/
def runS (p : List De × List St) (q : Vs × Ks) : List Int → (Vs × Ks) × List Int
  | [] => (q, [])
  | a :: l => let r := runS p (stepS p [a] q) l; (r.1, outS (stepS p [a] q).1 p.1 ++ r.2)
def upTo (p : List De × List St) (q : Vs × Ks) (l : List Int) (j : Nat) : (Vs × Ks) × List Int := runS p q (l.take j)
theorem run_snoc (p : List De × List St) (a : Int) : ∀ (l : List Int) (q : Vs × Ks), runS p q (l ++ [a]) = (stepS p [a] (runS p q l).1, (runS p q l).2 ++ outS (stepS p [a] (runS p q l).1).1 p.1)
  | [], q => by simp [runS]
  | b :: l, q => by simp only [List.cons_append, runS, run_snoc p a l, List.append_assoc]
theorem upTo_next {p : List De × List St} {q : Vs × Ks} {l : List Int} {j : Nat} (h : j < l.length) : upTo p q l (j + 1) = (stepS p [l[j]] (upTo p q l j).1, (upTo p q l j).2 ++ outS (stepS p [l[j]] (upTo p q l j).1).1 p.1) := by
  unfold upTo
  rw [← run_snoc, List.take_append_getElem h]
theorem kok_step {K : ByteArray → Nat} {p : List De × List St} {g : List Int} {q : Vs × Ks} (hf : FitL K p.2) (h : KOK K q.2) : KOK K (stepS p g q).2 := kok_sts p.2 _ hf h

theorem run_len (p : List De × List St) : ∀ (l : List Int) (q : Vs × Ks), (runS p q l).2.length ≤ l.length * p.1.length
  | [], q => by simp [runS]
  | a :: l, q => by
    have h1 := run_len p l (stepS p [a] q)
    have h2 := outS_len (stepS p [a] q).1 p.1
    simp only [runS, List.length_append, List.length_cons, Nat.add_mul, Nat.one_mul]
    omega
def tIn : List Int := [1, 1, 0, 1, 1, 1]
def tTxt : List UInt8 := [105, 110, 32, 97, 58, 32, 98, 111, 111, 108, 59, 32, 111, 117, 116, 32, 113, 58, 32, 98, 111, 111, 108, 59, 32, 111, 117, 116, 32, 110, 58, 32, 98, 121, 116, 101, 59, 32, 116, 105, 109, 101, 114, 32, 116, 59, 32, 101, 100, 103, 101, 32, 101, 59, 32, 98, 101, 103, 105, 110, 32, 116, 40, 97, 44, 32, 50, 41, 59, 32, 101, 40, 97, 41, 59, 32, 113, 32, 58, 61, 32, 116, 46, 113, 59, 32, 105, 102, 32, 101, 46, 113, 32, 116, 104, 101, 110, 32, 110, 32, 58, 61, 32, 110, 32, 43, 32, 49, 59, 32, 101, 110, 100, 59, 32, 101, 110, 100]
def tPr : List De × List St := match parse2 ⟨tTxt.toArray⟩ with | .ok p _ => p | _ => ([], [])
def tKk : Nat := match parse2 ⟨tTxt.toArray⟩ with | .ok _ k => k | _ => 0
theorem tpar : parse2 ⟨tTxt.toArray⟩ = .ok tPr tKk := by kernel_rfl
theorem tchk : checkC tPr = .ok () := by kernel_rfl
theorem tout : (runS tPr (newS tPr.1 ([], [])) tIn).2 = [0, 1, 1, 1, 0, 1, 0, 2, 1, 2, 1, 2] := by kernel_rfl

set_option maxRecDepth 100000 in
set_option maxHeartbeats 12800000 in
theorem timed_of (ds : List De) (body : List St) (k : Nat) (hpar : parse2 ⟨tTxt.toArray⟩ = .ok (ds, body) k) (hfine : Fine (ds, body)) (hout : (runS (ds, body) (newS ds ([], [])) tIn).2 = [0, 1, 1, 1, 0, 1, 0, 2, 1, 2, 1, 2]) (w : World) (hv : Vars w) (h14 : 5 ≤ w.heap.size) :
    Calls Tryd.prog 4 #[] w fun e w' => e = .returned (.bool true) ∧ Below w.heap.size w w' := by
  have HPA := hide (hpar ▸ parse_at ⟨tTxt.toArray⟩ w (by decide) hv h14)
  have HF := hide hfine
  have HLIT : Hid ((⟨tTxt.toArray⟩ : ByteArray) = ⟨tTxt.toArray⟩) := rfl
  have HOUT := hide hout
  have hdl : ds.length ≤ 20 := hfine.many
  clear hpar hfine hv hout
  go_enter Tryd.func4, Tryd.ntmps4
  go_wp2_with fail
  refine HPA.out.mono ?_
  rintro e w1 ⟨hb1, v, rfl, hrep⟩
  obtain ⟨aa, ac, ba, bc, rfl, hd, hs⟩ := prRep_2 hrep
  simp only at hd hs
  have HB2 := hide (below_alloc w1 (.cells #[.slice aa ds.length ac, .slice ba body.length bc] 27))
  have HD2 : Hid (IsDes (fun c => c < w1.heap.size) (w1.alloc (.cells #[.slice aa ds.length ac, .slice ba body.length bc] 27)) ds (.slice aa ds.length ac)) := IsRow.same (IsRow.imp (S' := fun c => c < w1.heap.size) hd fun b h1 _ => h1) fun c _ h2 => HB2.out.block c h2
  have HS2 : Hid (IsSts (fun c => c < w1.heap.size) (w1.alloc (.cells #[.slice aa ds.length ac, .slice ba body.length bc] 27)) body (.slice ba body.length bc)) := (hs.imp (S' := fun c => c < w1.heap.size) fun b h1 _ => h1).same fun c _ h2 => HB2.out.block c h2
  have HB1 := hide (Below.step hb1 HB2.out)
  have HNW := hide (new_at ds body (fun c => c < w1.heap.size) (w1.alloc (.cells #[.slice aa ds.length ac, .slice ba body.length bc] 27)) aa ba ac bc HD2.out HS2.out HF.out.many HF.out.deep HF.out.size HF.out.sm HF.out.ok)
  have hsz : (w1.alloc (.cells #[.slice aa ds.length ac, .slice ba body.length bc] 27)).heap.size = w1.heap.size + 1 := by simp
  have HSZ := hide hsz
  clear hb1 hrep hd hs hsz
  go_wp2_with fail
  generalize (w1.alloc (.cells #[.slice aa ds.length ac, .slice ba body.length bc] 27)) = w2 at *
  refine HNW.out.mono ?_
  rintro e w3 ⟨P, V, B, rfl, hmade⟩
  have HM := hide hmade
  clear hmade
  have HVB : Hid (w1.heap.size < V ∧ w1.heap.size < B ∧ V < w3.heap.size ∧ B < w3.heap.size ∧ w.heap.size ≤ V ∧ w.heap.size ≤ B) := by
    have h1 := HM.out.vN; have h2 := HM.out.bN; have h3 := HSZ.out; have h4 := HB1.out.size
    exact ⟨by omega, by omega, blk_lt (show w3.heap[V]? = some _ from HM.out.at_.vals), blk_lt (show w3.heap[B]? = some _ from HM.out.at_.blks), by omega, by omega⟩
  have HB3 := hide (Below.step HB1.out HM.out.below)
  have HPN : Hid (P < w3.heap.size) := blk_lt HM.out.at_.me
  go_wp2_with fail
  have HB4 := hide (below_alloc w3 (.cells #[.int .i64 1, .int .i64 1, .int .i64 0, .int .i64 1, .int .i64 1, .int .i64 1] 3))
  have HL4 : Hid ((w3.alloc (.cells #[.int .i64 1, .int .i64 1, .int .i64 0, .int .i64 1, .int .i64 1, .int .i64 1] 3)).heap[w3.heap.size]? = some (.cells (intsC tIn).toArray 3 (0, 0))) := blk_new w3 (.cells #[.int .i64 1, .int .i64 1, .int .i64 0, .int .i64 1, .int .i64 1, .int .i64 1] 3)
  generalize w3.alloc (.cells #[.int .i64 1, .int .i64 1, .int .i64 0, .int .i64 1, .int .i64 1, .int .i64 1] 3) = w4 at *
  have HQ0 : Hid (upTo (ds, body) (newS ds ([], [])) tIn 0 = (newS ds ([], []), [])) := rfl
  go_loopw [4, 6, 26] (fun v _ i wr => ∃ j : Nat, j ≤ 6 ∧ i = .int .i64 j ∧ Hid (Plt wr P V B (.slice aa ds.length ac) (.slice ba body.length bc) (upTo (ds, body) (newS ds ([], [])) tIn j).1.1 (upTo (ds, body) (newS ds ([], [])) tIn j).1.2) ∧ Hid (KOK (kindK ds) (upTo (ds, body) (newS ds ([], [])) tIn j).1.2) ∧ Hid (KM V B w4 wr) ∧ ∃ (ao : Option Addr) (cap : Nat), v = .slice ao (upTo (ds, body) (newS ds ([], [])) tIn j).2.length cap ∧ Hid (Mine 3 1 w4.heap.size wr (.slice ao (upTo (ds, body) (newS ds ([], [])) tIn j).2.length cap) (upTo (ds, body) (newS ds ([], [])) tIn j).2.length (intsC (upTo (ds, body) (newS ds ([], [])) tIn j).2))) (fun _ _ i _ => 6 - (intOf i).toNat)
  case atStart => exact ⟨0, Nat.zero_le _, rfl, hide (HM.out.at_.of HB4.out), hide (kok_new ds), hide (KM.refl _ _ _), none, 0, rfl, hide (Mine.none _)⟩
  case round =>
    obtain ⟨j, hj, rfl, hpl, hkk, hkm, ao, cap, rfl, hmi⟩ := hrel
    have HW4 : Hid (w3.heap.size < w4.heap.size) := blk_lt HL4.out
    have HLR := hide (hkm.out.blk HL4.out (by have := HVB.out; omega) (by have := HVB.out; omega))
    have HBR : Hid (Below w.heap.size w wr) := (Below.step HB3.out HB4.out).trans (hkm.out.below (by have := HVB.out; have := HW4.out; omega) (by have := HVB.out; omega) (by have := HVB.out; omega))
    by_cases hlt : j < 6
    · have hji : (j : Int) < 6 := by omega
      have hjt : j < tIn.length := hlt
      have HNX := hide (upTo_next (p := (ds, body)) (q := newS ds ([], [])) hjt)
      have hel : wr.cell? ⟨w3.heap.size, j, none⟩ = some (.int .i64 tIn[j]) := by rw [blk_cell HLR.out]; simp [intsC, hjt]
      have hln : (upTo (ds, body) (newS ds ([], [])) tIn j).2.length ≤ 1000 := by
        have h1 := run_len (ds, body) (tIn.take j) (newS ds ([], []))
        have h2 : (tIn.take j).length ≤ 6 := by simp [tIn]; omega
        have h3 := Nat.mul_le_mul h2 hdl
        simp only at h1
        unfold upTo
        omega
      generalize upTo (ds, body) (newS ds ([], [])) tIn j = u at *
      generalize tIn[j] = a at *
      obtain ⟨⟨vj, kj⟩, ol⟩ := u
      simp only at hpl hkk hmi hln HNX
      have hb5 := below_alloc wr (.cells #[.int .i64 a] 3)
      have HB5 := hide hb5
      have HA5 := hide (blk_new wr (.cells #[.int .i64 a] 3))
      have HST := hide (sstep_at ds body [a] (fun c => c < w1.heap.size) (fun c => c ≠ V ∧ c ≠ B) (wr.alloc (.cells #[.int .i64 a] 3)) P V B (.slice (some ⟨wr.heap.size, 0, none⟩) 1 1) aa ba ac bc vj kj (kindK ds) (hpl.out.of hb5)
        (IsRow.same HD2.out fun c h1 h2 => (hb5.block c (by have := hkm.out.size; have := HW4.out; have := HVB.out; omega)).trans ((hkm.out.block c (by have := HW4.out; have := HVB.out; omega) (by have := HVB.out; omega) (by have := HVB.out; omega)).trans ((HB4.out.block c (by have := HVB.out; omega)).trans (HM.out.below.block c h2))))
        (HS2.out.same fun c h1 h2 => (hb5.block c (by have := hkm.out.size; have := HW4.out; have := HVB.out; omega)).trans ((hkm.out.block c (by have := HW4.out; have := HVB.out; omega) (by have := HVB.out; omega) (by have := HVB.out; omega)).trans ((HB4.out.block c (by have := HVB.out; omega)).trans (HM.out.below.block c h2))))
        (fun c h => ⟨by have := hb5.size; have := hkm.out.size; have := HW4.out; have := HVB.out; omega, by have := HVB.out; omega, by have := HVB.out; omega⟩)
        ⟨some ⟨wr.heap.size, 0, none⟩, 1, rfl, Lies.blk (cs := intsC [a]) HA5.out (by have := hkm.out.size; have := HW4.out; have := HVB.out; exact ⟨by omega, by omega⟩), Nat.le_refl _, by decide⟩
        (fun c h => h) hkk.out HF.out.fit HF.out.qm HF.out.size (by omega))
      have HKN := hide (kok_step (K := kindK ds) (p := (ds, body)) (g := [a]) (q := (vj, kj)) HF.out.fit hkk.out)
      have HOL := hide (outS_len (stepS (ds, body) [a] (vj, kj)).1 ds)
      have hmb := hmi.out.below hb5
      have HMB := hide hmb
      have HBS := hide (hkm.out.trans (KM.of hb5))
      generalize stepS (ds, body) [a] (vj, kj) = q2 at *
      generalize outS q2.1 ds = os at *
      clear hb5 hmb
      go_wp2_with fail
      generalize wr.alloc (.cells #[.int .i64 a] 3) = w5 at *
      refine HST.out.mono ?_
      rintro e w6 ⟨⟨ao2, cap2, rfl, hlie⟩, hp6, hk6⟩
      have hm6 : Mine 3 1 w4.heap.size w6 (.slice ao ol.length cap) ol.length (intsC ol) := HMB.out.same fun b hb hl => hk6.block b hl (by have := HMB.out.new b hb; have := HVB.out; have := HW4.out; omega) (by have := HMB.out.new b hb; have := HVB.out; have := HW4.out; omega)
      obtain ⟨ao', cap', x7, happ, hm7, hg7, hnb7⟩ := app_in (c := cap2) (n' := ol.length + os.length) (l := ol) (new := os) (ao := ao2) hm6 rfl rfl rfl hlie.any (Nat.le_trans HBS.out.size hk6.size) (by have := HOL.out; omega)
      have HM7 := hide hm7
      have hk46 := HBS.out.trans hk6
      have hgr : ∀ k, k < w4.heap.size → x7.heap[k]? = w6.heap[k]? := fun k hk => hg7.block k (Nat.lt_of_lt_of_le hk hk46.size) (fun e => by have := HMB.out.new k e.symm; omega)
      have HK7 : Hid (KM V B w4 x7) := ⟨hg7.os.trans hk46.os, hg7.tape.trans hk46.tape, hg7.output.trans hk46.output, Nat.le_trans hk46.size hg7.size, fun k hk h1 h2 => (hgr k hk).trans (hk46.block k hk h1 h2)⟩
      have HP7 : Hid (Plt x7 P V B (.slice aa ds.length ac) (.slice ba body.length bc) q2.1 q2.2) := hp6.same (hgr P (by have := HPN.out; have := HW4.out; omega)) (hgr V (by have := HVB.out; have := HW4.out; omega)) (hgr B (by have := HVB.out; have := HW4.out; omega))
      clear hlie hp6 hk6 hm6 hm7 hnb7 hk46 hgr hg7
      go_wp2_with (at_builtin; (refine wpl_append_run happ rfl _ _ rfl rfl rfl ?_))
      refine ⟨⟨j + 1, by omega, by go_num, ?_, ?_, HK7, ao', cap', ?_, ?_⟩, by simp [intOf]; omega⟩
      · rw [HNX.out]; exact HP7
      · rw [HNX.out]; exact HKN
      · rw [HNX.out]; simp
      · rw [HNX.out]; simpa using HM7
    · have hji : ¬ (j : Int) < 6 := by omega
      have HJ : Hid (j = 6) := (by omega : j = 6)
      have HE : Hid ((upTo (ds, body) (newS ds ([], [])) tIn j).2 = [0, 1, 1, 1, 0, 1, 0, 2, 1, 2, 1, 2]) := by show _ = _; rw [HJ.out]; exact HOUT.out
      rw [HE.out] at hmi
      rw [HE.out]
      have HBE := hide (below_alloc wr (.cells #[.int .i64 0, .int .i64 1, .int .i64 1, .int .i64 1, .int .i64 0, .int .i64 1, .int .i64 0, .int .i64 2, .int .i64 1, .int .i64 2, .int .i64 1, .int .i64 2] 3))
      have HNE := hide (blk_new wr (.cells #[.int .i64 0, .int .i64 1, .int .i64 1, .int .i64 1, .int .i64 0, .int .i64 1, .int .i64 0, .int .i64 2, .int .i64 1, .int .i64 2, .int .i64 1, .int .i64 2] 3))
      have HEQ := hide (eqI_at [0, 1, 1, 1, 0, 1, 0, 2, 1, 2, 1, 2] AnyB AnyB (wr.alloc (.cells #[.int .i64 0, .int .i64 1, .int .i64 1, .int .i64 1, .int .i64 0, .int .i64 1, .int .i64 0, .int .i64 2, .int .i64 1, .int .i64 2, .int .i64 1, .int .i64 2] 3)) ao (some ⟨wr.heap.size, 0, none⟩) cap 12 ((hmi.out.below HBE.out).lies fun _ _ => trivial) (Lies.blk (cs := intsC [0, 1, 1, 1, 0, 1, 0, 2, 1, 2, 1, 2]) HNE.out trivial) (by decide))
      simp only [List.length_cons, List.length_nil, Nat.zero_add, Nat.reduceAdd] at *
      go_wp2_with fail
      refine HEQ.out.mono ?_
      rintro e w9 ⟨rfl, hb9⟩
      have HB9 := hide (Below.step HBR.out (Below.step HBE.out hb9))
      clear hb9
      go_wp2_with fail
      go_ret
      exact ⟨rfl, HB9.out⟩
theorem timed_all (p : List De × List St) (k : Nat) (hpar : parse2 ⟨tTxt.toArray⟩ = .ok p k) (hf : Fine p) (ho : (runS p (newS p.1 ([], [])) tIn).2 = [0, 1, 1, 1, 0, 1, 0, 2, 1, 2, 1, 2]) (w : World) (hv : Vars w) (h14 : 5 ≤ w.heap.size) : Calls Tryd.prog 4 #[] w fun e w' => e = .returned (.bool true) ∧ Below w.heap.size w w' := by
  obtain ⟨ds, body⟩ := p
  exact timed_of ds body k hpar hf ho w hv h14
theorem tsize : (⟨tTxt.toArray⟩ : ByteArray).size ≤ 100000 := by decide
theorem timed_at (w : World) (hv : Vars w) (h14 : 5 ≤ w.heap.size) : Calls Tryd.prog 4 #[] w fun e w' => e = .returned (.bool true) ∧ Below w.heap.size w w' :=
  timed_all tPr tKk tpar (fine_of tsize tpar tchk) tout w hv h14
end Go.Proofs.YtiimnnancblbkaaDoor
