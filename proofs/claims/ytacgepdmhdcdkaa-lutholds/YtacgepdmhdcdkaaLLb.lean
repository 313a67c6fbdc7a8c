/-
  CONTRACT of lay. (Written by mkllb.py.)
-/
import Derived.Test.YtacgepdmhdcdkaaLLa
import Derived.Laws.EntriesVeiled
set_option linter.unusedSimpArgs false
set_option linter.unusedVariables false
namespace Go.Proofs.Ytacgepdmhdcdkaa
open Go.RowKit Go.Maps

/-- a net of tables that is made behind a world -/
def LaidNet (B : Nat) (gv : Int) (rs : List Rg) (ls : List Lt) (os : List Int) (w : World) (e : Ending) (w' : World) : Prop :=
  ∃ (N : Nat) (ra la oa : Option Addr) (rc lc oc : Nat) (ys : List Wy), e = .returned (.pointer (some ⟨N, 0, none⟩)) ∧ B ≤ N ∧ w'.heap[N]? = some (.cells #[.int .i64 gv, .slice ra rs.length rc, .slice la ls.length lc, .slice oa os.length oc] 26 (0, 0)) ∧ ys.map (·.l) = ls ∧ Lies (FromB B) w' ra (rgsC rs) ∧ Lies (FromB B) w' la (wyC ys) ∧ (∀ y ∈ ys, Lies (FromB B) w' y.a (intsC y.l.ins)) ∧ Lies (FromB B) w' oa (intsC os) ∧ Below w.heap.size w w'

set_option maxRecDepth 100000 in
set_option maxHeartbeats 6400000 in
theorem lay_at {S : Nat → Prop} {s : NetP} {B P Dg gn reg : Nat} {ns : List Nd} {os : List Int} {wa : Option Addr} {wc : Nat} {X : Nat → List Wy} {SA : Nat → Option Addr} {SC : Nat → Nat} {D D0 : List Int} {w : World} (h : PkAt B P Dg w (firstS gn ns) reg ns.length wa wc X SA SC D) (hn : NetAt s S w gn ns os)
    (hr : ∀ j, j < ns.length → rightN gn ns.length j (ndAt ns j) = true) (ho : ∀ i, i < os.length → inR (outAt os i) ns.length = true) (hw : ∀ j, j < ns.length → NodeW gn ns (waysX X) D0 j (waysX X j)) (hn2 : ns.length ≤ 20000) (hf4 : firstS gn ns ≤ 50000) (ho2 : os.length ≤ 20000) :
    Calls Try.prog 25 #[.pointer (some ⟨P, 0, none⟩), .pointer (some ⟨s.p, 0, none⟩)] w fun e w' => LaidNet w.heap.size gn (layRs (waysX X) (firstS gn ns) ns) (layLs (waysX X) (firstS gn ns) ns os) (layOs (waysX X) (firstS gn ns) ns os) w e w' := by
  have c0 : (w.alloc (.cells #[.pointer (some ⟨P, 0, none⟩)] 65)).cell? ⟨s.p, 0, none⟩ = some (.int .i64 gn) := (hn.below (below_alloc w _)).c0
  have hmm := @run_makeMap Try.prog
  have HL0 : Hid (LNet w.heap.size P (firstS gn ns) ns.length wa wc X SA SC gn w (((((((w.alloc (.cells #[.pointer (some ⟨P, 0, none⟩)] 65)).alloc (.cells #[.int .i64 gn, .slice none 0 0, .slice none 0 0, .slice none 0 0] 26)).alloc (.map #[] 0)).alloc (.cells #[.pointer (some ⟨w.heap.size + 1, 0, none⟩)] 35)).alloc (.cells #[.map (some (w.heap.size + 1 + 1))] 78)).alloc (.cells #[(.func (.func 36) #[] #[.pointer (some ⟨w.heap.size, 0, none⟩), .pointer (some ⟨w.heap.size + 1 + 1 + 1 + 1 + 1 + 1, 0, none⟩), .pointer (some ⟨w.heap.size + 1 + 1 + 1 + 1, 0, none⟩), .pointer (some ⟨w.heap.size + 1 + 1 + 1, 0, none⟩)])] 79)).alloc (.cells #[(.func (.func 35) #[] #[.pointer (some ⟨w.heap.size, 0, none⟩), .pointer (some ⟨w.heap.size + 1 + 1 + 1 + 1 + 1, 0, none⟩)])] 79)) [] [] ⟨[], []⟩ none 0 [] (.map []) none 0 none 0) := hide (lay_start h gn)
  have HNE : Hid (NetAt s S (((((((w.alloc (.cells #[.pointer (some ⟨P, 0, none⟩)] 65)).alloc (.cells #[.int .i64 gn, .slice none 0 0, .slice none 0 0, .slice none 0 0] 26)).alloc (.map #[] 0)).alloc (.cells #[.pointer (some ⟨w.heap.size + 1, 0, none⟩)] 35)).alloc (.cells #[.map (some (w.heap.size + 1 + 1))] 78)).alloc (.cells #[(.func (.func 36) #[] #[.pointer (some ⟨w.heap.size, 0, none⟩), .pointer (some ⟨w.heap.size + 1 + 1 + 1 + 1 + 1 + 1, 0, none⟩), .pointer (some ⟨w.heap.size + 1 + 1 + 1 + 1, 0, none⟩), .pointer (some ⟨w.heap.size + 1 + 1 + 1, 0, none⟩)])] 79)).alloc (.cells #[(.func (.func 35) #[] #[.pointer (some ⟨w.heap.size, 0, none⟩), .pointer (some ⟨w.heap.size + 1 + 1 + 1 + 1 + 1, 0, none⟩)])] 79)) gn ns os) := hide (hn.below (lay7_is w P gn).1.low)
  have k9 : (((((((w.alloc (.cells #[.pointer (some ⟨P, 0, none⟩)] 65)).alloc (.cells #[.int .i64 gn, .slice none 0 0, .slice none 0 0, .slice none 0 0] 26)).alloc (.map #[] 0)).alloc (.cells #[.pointer (some ⟨w.heap.size + 1, 0, none⟩)] 35)).alloc (.cells #[.map (some (w.heap.size + 1 + 1))] 78)).alloc (.cells #[(.func (.func 36) #[] #[.pointer (some ⟨w.heap.size, 0, none⟩), .pointer (some ⟨w.heap.size + 1 + 1 + 1 + 1 + 1 + 1, 0, none⟩), .pointer (some ⟨w.heap.size + 1 + 1 + 1 + 1, 0, none⟩), .pointer (some ⟨w.heap.size + 1 + 1 + 1, 0, none⟩)])] 79)).alloc (.cells #[(.func (.func 35) #[] #[.pointer (some ⟨w.heap.size, 0, none⟩), .pointer (some ⟨w.heap.size + 1 + 1 + 1 + 1 + 1, 0, none⟩)])] 79)).cell? ⟨s.p, 1, none⟩ = some (.slice s.na ns.length s.nc) := HNE.out.c1
  have HNS := hide (blk_lt hn.me)
  have HHR := hide hr
  have HHO := hide ho
  have HHW := hide hw
  have HNW := hide hn
  clear h hr ho hw hn
  go_enter Try.func25, Try.ntmps25
  go_wp2_with fail
  clear c0 hmm k9
  simp only [Nat.add_assoc, Nat.reduceAdd] at HL0 HNE ⊢
  generalize (((((((w.alloc (.cells #[.pointer (some ⟨P, 0, none⟩)] 65)).alloc (.cells #[.int .i64 gn, .slice none 0 0, .slice none 0 0, .slice none 0 0] 26)).alloc (.map #[] 0)).alloc (.cells #[.pointer (some ⟨w.heap.size + 1, 0, none⟩)] 35)).alloc (.cells #[.map (some (w.heap.size + 2))] 78)).alloc (.cells #[(.func (.func 36) #[] #[.pointer (some ⟨w.heap.size, 0, none⟩), .pointer (some ⟨w.heap.size + 6, 0, none⟩), .pointer (some ⟨w.heap.size + 4, 0, none⟩), .pointer (some ⟨w.heap.size + 3, 0, none⟩)])] 79)).alloc (.cells #[(.func (.func 35) #[] #[.pointer (some ⟨w.heap.size, 0, none⟩), .pointer (some ⟨w.heap.size + 5, 0, none⟩)])] 79)) = w9 at *
  go_loopw [10, 27] (fun _ i wr => ∃ (k : Nat) (rs : List Rg) (st : LSt) (la : Option Addr) (lc : Nat) (ys : List Wy) (D1 : DataW Unit) (ra : Option Addr) (rc : Nat), k ≤ ns.length ∧ i = .int .i64 k ∧ Hid (layTo (waysX X) (firstS gn ns) ns k = (rs, st)) ∧ Hid (LNet w.heap.size P (firstS gn ns) ns.length wa wc X SA SC gn w wr rs [] st la lc ys D1 ra rc none 0)) (fun _ i _ => ns.length - (intOf i).toNat)
  case atStart => exact ⟨0, [], ⟨[], []⟩, none, 0, [], .map [], none, 0, Nat.zero_le _, rfl, hide rfl, HL0⟩
  case round =>
    obtain ⟨k, rs, st, la, lc, ys, D1, ra, rc, hk, rfl, hlt0, hnet⟩ := hrel
    by_cases hlt : k < ns.length
    · have hki : (k : Int) < (ns.length : Int) := by omega
      have HRK := hide (HHR.out k hlt)
      have HRG := hide (lay_regs HHR.out HHW.out k (by omega))
      rw [hlt0.out] at HRG
      have HST := hide HRG.out.ok
      have hrl : rs.length ≤ 20000 := by have h1 := HRG.out.len; have h2 := regsN_le ns k; simp only at h1; omega
      obtain ⟨b, off, ha, _, _, n0, n1, n2, n3⟩ := (HNW.out.below hnet.out.low).nodes.nodes hlt
      have HSTEP : Hid (layTo (waysX X) (firstS gn ns) ns (k + 1) = if isReg (ndAt ns k) then (rs ++ [⟨(ndAt ns k).a == 1, ((lookF (waysX X) (firstS gn ns) ns.length (ndAt ns k).next.toNat st).1 : Nat)⟩], (lookF (waysX X) (firstS gn ns) ns.length (ndAt ns k).next.toNat st).2) else (rs, st)) := hide (by
        have := hlt0.out
        simp only [layTo]; rw [this])
      generalize hnd : ndAt ns k = nd at *
      obtain ⟨op, a, bb, nx⟩ := nd
      simp only at n0 n1 n2 n3
      have HHA := hide ha
      rw [HHA.out]
      clear ha hnd
      by_cases hop : op = 4
      · subst hop
        obtain ⟨_, hx0, hx1⟩ := rightN_reg HRK.out rfl
        simp only at hx0 hx1
        obtain ⟨q, rfl⟩ := Int.eq_ofNat_of_zero_le hx0
        have HLT2 : Hid (∀ sg stg, lookF (waysX X) (firstS gn ns) ns.length q st = (sg, stg) → layTo (waysX X) (firstS gn ns) ns (k + 1) = (rs ++ [⟨(a : Int) == 1, (sg : Int)⟩], stg)) := hide fun sg stg h => by
          have := HSTEP.out
          simp only [isReg, Int.toNat_natCast, h] at this
          exact this
        have HLY := hide fun b (hb : (Value.slice la st.L.length lc).ownBlock = some b) => (hnet.out.lay.row.own.lt b hb).2
        have HRY := hide fun b (hb : (Value.slice ra rs.length rc).ownBlock = some b) => (hnet.out.regs.own.lt b hb).2
        have HYE := hide hnet.out.env.size
        have HBB := hide (below_alloc wr (.cells #[.int .i64 4, .int .i64 a, .int .i64 bb, .int .i64 q] 48))
        have HNB := hide (hnet.out.below HBB.out)
        have HYB := hide (blk_new wr (.cells #[.int .i64 4, .int .i64 a, .int .i64 bb, .int .i64 q] 48))
        clear HSTEP HRG hx0 hlt0 hnet
        go_wp2_with fail
        clear n0 n1 n2 n3
        generalize wr.alloc (.cells #[.int .i64 4, .int .i64 a, .int .i64 bb, .int .i64 q] 48) = v9 at *
        generalize wr.heap.size = Y at *
        have HN0 := hide (HNB.out.below (Below.refl _ v9).drew)
        have HY0 := hide (Below.blk (Below.refl _ v9).drew HYB.out)
        have HSW : Hid (∀ W' : World, LEnv w.heap.size P (firstS gn ns) ns.length wa wc X SA SC W' → W'.heap[Y]? = some (.cells #[.int .i64 4, .int .i64 a, .int .i64 bb, .int .i64 q] 48 (0, 0)) → W'.cell? ⟨w.heap.size + 3, 0, none⟩ = some (.pointer (some ⟨w.heap.size + 1, 0, none⟩)) ∧ W'.cell? ⟨w.heap.size + 5, 0, none⟩ = some (.func (.func 36) #[] #[.pointer (some ⟨w.heap.size, 0, none⟩), .pointer (some ⟨w.heap.size + 6, 0, none⟩), .pointer (some ⟨w.heap.size + 4, 0, none⟩), .pointer (some ⟨w.heap.size + 3, 0, none⟩)]) ∧ W'.cell? ⟨Y, 1, none⟩ = some (.int .i64 a) ∧ W'.cell? ⟨Y, 3, none⟩ = some (.int .i64 q)) := hide fun W' h1 h2 => ⟨by rw [blk_cell h1.nb]; rfl, by rw [blk_cell h1.lk]; rfl, by rw [blk_cell h2]; rfl, by rw [blk_cell h2]; rfl⟩
        refine wp_region_held_drew (S := fun W' => W'.cell? ⟨w.heap.size + 3, 0, none⟩ = some (.pointer (some ⟨w.heap.size + 1, 0, none⟩)) ∧ W'.cell? ⟨w.heap.size + 5, 0, none⟩ = some (.func (.func 36) #[] #[.pointer (some ⟨w.heap.size, 0, none⟩), .pointer (some ⟨w.heap.size + 6, 0, none⟩), .pointer (some ⟨w.heap.size + 4, 0, none⟩), .pointer (some ⟨w.heap.size + 3, 0, none⟩)]) ∧ W'.cell? ⟨Y, 1, none⟩ = some (.int .i64 a) ∧ W'.cell? ⟨Y, 3, none⟩ = some (.int .i64 q)) (by kernel_rfl) (HSW.out _ HN0.out.env HY0.out) (fun _ => ?_)
        clear HNB HYB HBB
        generalize v9.drew = v0 at *
        refine wpAnyH_take (i := 0) (oi := ⟨some 34, _, _, _, _, _⟩) (v := (.pointer (some ⟨w.heap.size + 1, 0, none⟩))) rfl (by kernel_rfl) (by kernel_rfl) (by kernel_rfl) (fun _ _ _ h => h) (Or.inl ⟨by rfl, fun W hS => by (obtain ⟨s0, s1, s2, s3⟩ := hS; go_simp)⟩) (HSW.out _ HN0.out.env HY0.out) ?_
        simp only [Act.put, List.setIfInBounds_toArray, List.set_cons_zero, List.set_cons_succ]
        refine wpAnyH_take (i := 1) (oi := ⟨some 35, _, _, _, _, _⟩) (v := (.pointer (some ⟨w.heap.size + 1, 0, none⟩))) rfl (by kernel_rfl) (by kernel_rfl) (by kernel_rfl) (fun _ _ _ h => h) (Or.inl ⟨by rfl, fun W hS => by (obtain ⟨s0, s1, s2, s3⟩ := hS; go_simp)⟩) (HSW.out _ HN0.out.env HY0.out) ?_
        simp only [Act.put, List.setIfInBounds_toArray, List.set_cons_zero, List.set_cons_succ]
        refine wpAnyH_take (i := 5) (oi := ⟨some 39, _, _, _, _, _⟩) (v := (.pointer (some ⟨Y, 1, none⟩))) rfl (by kernel_rfl) (by kernel_rfl) (by kernel_rfl) (fun _ _ _ h => h) (Or.inl ⟨by rfl, fun W hS => by (obtain ⟨s0, s1, s2, s3⟩ := hS; go_simp)⟩) (HSW.out _ HN0.out.env HY0.out) ?_
        simp only [Act.put, List.setIfInBounds_toArray, List.set_cons_zero, List.set_cons_succ]
        refine wpAnyH_take (i := 8) (oi := ⟨some 42, _, _, _, _, _⟩) (v := (.func (.func 36) #[] #[.pointer (some ⟨w.heap.size, 0, none⟩), .pointer (some ⟨w.heap.size + 6, 0, none⟩), .pointer (some ⟨w.heap.size + 4, 0, none⟩), .pointer (some ⟨w.heap.size + 3, 0, none⟩)])) rfl (by kernel_rfl) (by kernel_rfl) (by kernel_rfl) (fun _ _ _ h => h) (Or.inl ⟨by rfl, fun W hS => by (obtain ⟨s0, s1, s2, s3⟩ := hS; go_simp)⟩) (HSW.out _ HN0.out.env HY0.out) ?_
        simp only [Act.put, List.setIfInBounds_toArray, List.set_cons_zero, List.set_cons_succ]
        refine wpAnyH_take (i := 9) (oi := ⟨some 43, _, _, _, _, _⟩) (v := (.pointer (some ⟨Y, 3, none⟩))) rfl (by kernel_rfl) (by kernel_rfl) (by kernel_rfl) (fun _ _ _ h => h) (Or.inl ⟨by rfl, fun W hS => by (obtain ⟨s0, s1, s2, s3⟩ := hS; go_simp)⟩) (HSW.out _ HN0.out.env HY0.out) ?_
        simp only [Act.put, List.setIfInBounds_toArray, List.set_cons_zero, List.set_cons_succ]
        refine wpAnyH_take (i := 2) (oi := ⟨some 36, _, _, _, _, _⟩) (v := (.pointer (some ⟨w.heap.size + 1, 0, none⟩))) rfl (by kernel_rfl) (by kernel_rfl) (by kernel_rfl) (fun _ _ _ h => h) (Or.inl ⟨by rfl, fun W hS => by (obtain ⟨s0, s1, s2, s3⟩ := hS; go_simp)⟩) (HSW.out _ HN0.out.env HY0.out) ?_
        simp only [Act.put, List.setIfInBounds_toArray, List.set_cons_zero, List.set_cons_succ]
        refine wpAnyH_take (i := 6) (oi := ⟨some 40, _, _, _, _, _⟩) (v := (.int .i64 a)) rfl (by kernel_rfl) (by kernel_rfl) (by kernel_rfl) (fun _ _ _ h => h) (Or.inl ⟨by rfl, fun W hS => by (obtain ⟨s0, s1, s2, s3⟩ := hS; go_simp)⟩) (HSW.out _ HN0.out.env HY0.out) ?_
        simp only [Act.put, List.setIfInBounds_toArray, List.set_cons_zero, List.set_cons_succ]
        refine wpAnyH_take (i := 10) (oi := ⟨some 44, _, _, _, _, _⟩) (v := (.int .i64 q)) rfl (by kernel_rfl) (by kernel_rfl) (by kernel_rfl) (fun _ _ _ h => h) (Or.inl ⟨by rfl, fun W hS => by (obtain ⟨s0, s1, s2, s3⟩ := hS; go_simp)⟩) (HSW.out _ HN0.out.env HY0.out) ?_
        simp only [Act.put, List.setIfInBounds_toArray, List.set_cons_zero, List.set_cons_succ]
        refine wpAnyH_take (i := 3) (oi := ⟨some 37, _, _, _, _, _⟩) (v := (.pointer (some ⟨w.heap.size + 1, 1, none⟩))) rfl (by kernel_rfl) (by kernel_rfl) (by kernel_rfl) (fun _ _ _ h => h) (Or.inl ⟨by rfl, fun W hS => by (obtain ⟨s0, s1, s2, s3⟩ := hS; go_simp)⟩) (HSW.out _ HN0.out.env HY0.out) ?_
        simp only [Act.put, List.setIfInBounds_toArray, List.set_cons_zero, List.set_cons_succ]
        refine wpAnyH_take (i := 7) (oi := ⟨some 41, _, _, _, _, _⟩) (v := (.bool ((a : Int) == 1))) rfl (by kernel_rfl) (by kernel_rfl) (by kernel_rfl) (fun _ _ _ h => h) (Or.inl ⟨by rfl, fun W hS => by (obtain ⟨s0, s1, s2, s3⟩ := hS; go_simp)⟩) (HSW.out _ HN0.out.env HY0.out) ?_
        simp only [Act.put, List.setIfInBounds_toArray, List.set_cons_zero, List.set_cons_succ]
        refine wpAnyH_ready (rs := [4, 11]) (by kernel_rfl) (by simp) ?_
        refine AllReadyH.cons rfl (fun K hK => ?_) (AllReadyH.cons rfl (fun K hK => ?_) AllReadyH.nil)
        · skip
          have k1 := blk_cell HN0.out.lay.nt 1
          have k1 : _ = some (Value.slice ra rs.length rc) := k1
          go_simp
          clear k1
          refine hK.out _ _ (HSW.out _ HN0.out.env HY0.out) (fun _ => ?_)
          clear hK K
          refine wpAnyH_ready (rs := [11]) (by kernel_rfl) (by simp) ?_
          refine AllReadyH.cons rfl (fun K hK => ?_) AllReadyH.nil
          go_simp
          refine (look_all HHR.out HHW.out hn2 hf4 ns.length q st _ la lc ys D1 (by omega) (by omega) HN0.out.env HN0.out.lay HST.out).mono ?_
          intro e v1 hd
          obtain ⟨la1, lc1, ys1, D2, rfl, hn1, hkl1⟩ := HN0.out.look hd
          have HN1 := hide hn1
          have HY1 : Hid (v1.heap[Y]? = some (.cells #[.int .i64 4, .int .i64 a, .int .i64 bb, .int .i64 q] 48 (0, 0))) := hide (hkl1.blk HY0.out fun e => by
            have h7 := HYE.out
            rcases e with e | e | e
            · omega
            · omega
            · have := HLY.out _ e; omega)
          clear hn1 hkl1 hd HN0 HY0
          generalize hrg : lookF (waysX X) (firstS gn ns) ns.length q st = rg at *
          obtain ⟨sg, stg⟩ := rg
          simp only at HN1
          refine hK.out _ _ (HSW.out _ HN1.out.env HY1.out) (fun _ => ?_)
          clear hK K
          refine wpAnyH_take (i := 12) (oi := ⟨some 46, _, _, _, _, _⟩) (v := (.agg #[.bool ((a : Int) == 1), .int .i64 (sg : Int)])) rfl (by kernel_rfl) (by kernel_rfl) (by kernel_rfl) (fun _ _ _ h => h) (Or.inl ⟨by rfl, fun W hS => by (obtain ⟨s0, s1, s2, s3⟩ := hS; go_simp)⟩) (HSW.out _ HN1.out.env HY1.out) ?_
          simp only [Act.put, List.setIfInBounds_toArray, List.set_cons_zero, List.set_cons_succ]
          refine wpAnyH_ready (rs := [13]) (by kernel_rfl) (by simp) ?_
          refine AllReadyH.cons rfl (fun K hK => ?_) AllReadyH.nil
          go_simp
          have HBA := hide (below_alloc v1 (.cells #[.bool ((a : Int) == 1), .int .i64 (sg : Int)] 59))
          have HNA := hide (HN1.out.below HBA.out)
          have HYA := hide (Below.blk HBA.out HY1.out)
          refine hK.out _ _ (HSW.out _ HNA.out.env HYA.out) (fun _ => ?_)
          clear hK K
          refine wpAnyH_ready (rs := [14]) (by kernel_rfl) (by simp) ?_
          refine AllReadyH.cons rfl (fun K hK => ?_) AllReadyH.nil
          obtain ⟨ra2, rc2, v2, happ, hn2', hold⟩ := HN1.out.pushR ⟨(a : Int) == 1, (sg : Int)⟩ (by omega)
          have HN2 := hide hn2'
          have hRA := HN1.out.regs.new
          have hES := HN1.out.env.size
          have hnb2 : v2.heap[w.heap.size + 3]? = _ := (hold (w.heap.size + 3) (by omega) fun e => by have := hRA _ e; omega).trans HN1.out.env.nb
          have hlk2 : v2.heap[w.heap.size + 5]? = _ := (hold (w.heap.size + 5) (by omega) fun e => by have := hRA _ e; omega).trans HN1.out.env.lk
          have hnt2 : v2.heap[w.heap.size + 1]? = _ := (hold (w.heap.size + 1) (by omega) fun e => by have := hRA _ e; omega).trans HN1.out.lay.nt
          have hy2 : v2.heap[Y]? = _ := (hold Y (blk_lt HY1.out) fun e => by have := HRY.out _ e; omega).trans HY1.out
          have HNT2 := hide hnt2
          have HS2 : Hid (v2.cell? ⟨w.heap.size + 3, 0, none⟩ = some (.pointer (some ⟨w.heap.size + 1, 0, none⟩)) ∧ v2.cell? ⟨w.heap.size + 5, 0, none⟩ = some (.func (.func 36) #[] #[.pointer (some ⟨w.heap.size, 0, none⟩), .pointer (some ⟨w.heap.size + 6, 0, none⟩), .pointer (some ⟨w.heap.size + 4, 0, none⟩), .pointer (some ⟨w.heap.size + 3, 0, none⟩)]) ∧ v2.cell? ⟨Y, 1, none⟩ = some (.int .i64 a) ∧ v2.cell? ⟨Y, 3, none⟩ = some (.int .i64 q)) := hide ⟨by rw [blk_cell hnb2]; rfl, by rw [blk_cell hlk2]; rfl, by rw [blk_cell hy2]; rfl, by rw [blk_cell hy2]; rfl⟩
          clear hn2' hold hRA hES hnb2 hlk2 hnt2 hy2
          refine (if_pos (by kernel_rfl)).mpr ?_
          refine wp_append_run happ _ _ rfl rfl rfl ?_
          simp only [Act.put, List.getElem_toArray, List.getElem_cons_succ, List.getElem_cons_zero, List.setIfInBounds_toArray, List.set_cons_zero, List.set_cons_succ]
          refine hK.out _ _ HS2.out (fun _ => ?_)
          clear hK K happ
          refine wpAnyH_take (i := 15) (oi := ⟨some 49, _, _, _, _, _⟩) (v := (.pointer (some ⟨w.heap.size + 1, 0, none⟩))) rfl (by kernel_rfl) (by kernel_rfl) (by kernel_rfl) (fun _ _ _ h => h) (Or.inl ⟨by rfl, fun W hS => by (obtain ⟨s0, s1, s2, s3⟩ := hS; go_simp)⟩) HS2.out ?_
          simp only [Act.put, List.setIfInBounds_toArray, List.set_cons_zero, List.set_cons_succ]
          refine wpAnyH_take (i := 16) (oi := ⟨some 50, _, _, _, _, _⟩) (v := (.pointer (some ⟨w.heap.size + 1, 1, none⟩))) rfl (by kernel_rfl) (by kernel_rfl) (by kernel_rfl) (fun _ _ _ h => h) (Or.inl ⟨by rfl, fun W hS => by (obtain ⟨s0, s1, s2, s3⟩ := hS; go_simp)⟩) HS2.out ?_
          simp only [Act.put, List.setIfInBounds_toArray, List.set_cons_zero, List.set_cons_succ]
          refine wpAnyH_ready (rs := [17]) (by kernel_rfl) (by simp) ?_
          refine AllReadyH.cons rfl (fun K hK => ?_) AllReadyH.nil
          have f4 : v2.frozen? ⟨w.heap.size + 1, 1, none⟩ = false := blk_frozen HNT2.out 1
          have k4 : v2.cell? ⟨w.heap.size + 1, 1, none⟩ = some (.slice ra rs.length rc) := by rw [blk_cell HNT2.out]; rfl
          have HS3 : Hid ((v2.setCell ⟨w.heap.size + 1, 1, none⟩ (.slice ra2 (rs.length + 1) rc2)).cell? ⟨w.heap.size + 3, 0, none⟩ = some (.pointer (some ⟨w.heap.size + 1, 0, none⟩)) ∧ (v2.setCell ⟨w.heap.size + 1, 1, none⟩ (.slice ra2 (rs.length + 1) rc2)).cell? ⟨w.heap.size + 5, 0, none⟩ = some (.func (.func 36) #[] #[.pointer (some ⟨w.heap.size, 0, none⟩), .pointer (some ⟨w.heap.size + 6, 0, none⟩), .pointer (some ⟨w.heap.size + 4, 0, none⟩), .pointer (some ⟨w.heap.size + 3, 0, none⟩)]) ∧ (v2.setCell ⟨w.heap.size + 1, 1, none⟩ (.slice ra2 (rs.length + 1) rc2)).cell? ⟨Y, 1, none⟩ = some (.int .i64 a) ∧ (v2.setCell ⟨w.heap.size + 1, 1, none⟩ (.slice ra2 (rs.length + 1) rc2)).cell? ⟨Y, 3, none⟩ = some (.int .i64 q)) := hide (by
            obtain ⟨q0, q1, q2, q3⟩ := HS2.out
            have hY := HYE.out
            exact ⟨cell_same q0 (Below.heap_setCell v2 ⟨w.heap.size + 1, 1, none⟩ _ (w.heap.size + 3) (fun e => by have h7 : w.heap.size + 3 = w.heap.size + 1 := e; omega)), cell_same q1 (Below.heap_setCell v2 ⟨w.heap.size + 1, 1, none⟩ _ (w.heap.size + 5) (fun e => by have h7 : w.heap.size + 5 = w.heap.size + 1 := e; omega)), cell_same q2 (Below.heap_setCell v2 ⟨w.heap.size + 1, 1, none⟩ _ Y (fun e => by have h7 : Y = w.heap.size + 1 := e; omega)), cell_same q3 (Below.heap_setCell v2 ⟨w.heap.size + 1, 1, none⟩ _ Y (fun e => by have h7 : Y = w.heap.size + 1 := e; omega))⟩)
          go_simp
          clear f4 k4
          refine hK.out _ _ HS3.out (fun _ => ?_)
          clear hK K
          refine wpAnyH_done (by kernel_rfl) ?_ _
          go_wp2_with fail
          exact ⟨⟨k + 1, rs ++ [⟨(a : Int) == 1, (sg : Int)⟩], stg, la1, lc1, ys1, D2, ra2, rc2, by omega, by go_num, hide (HLT2.out sg stg rfl), HN2⟩, by simp [intOf]; omega⟩
        · skip
          go_simp
          refine (look_all HHR.out HHW.out hn2 hf4 ns.length q st _ la lc ys D1 (by omega) (by omega) HN0.out.env HN0.out.lay HST.out).mono ?_
          intro e v1 hd
          obtain ⟨la1, lc1, ys1, D2, rfl, hn1, hkl1⟩ := HN0.out.look hd
          have HN1 := hide hn1
          have HY1 : Hid (v1.heap[Y]? = some (.cells #[.int .i64 4, .int .i64 a, .int .i64 bb, .int .i64 q] 48 (0, 0))) := hide (hkl1.blk HY0.out fun e => by
            have h7 := HYE.out
            rcases e with e | e | e
            · omega
            · omega
            · have := HLY.out _ e; omega)
          clear hn1 hkl1 hd HN0 HY0
          generalize hrg : lookF (waysX X) (firstS gn ns) ns.length q st = rg at *
          obtain ⟨sg, stg⟩ := rg
          simp only at HN1
          refine hK.out _ _ (HSW.out _ HN1.out.env HY1.out) (fun _ => ?_)
          clear hK K
          refine wpAnyH_take (i := 12) (oi := ⟨some 46, _, _, _, _, _⟩) (v := (.agg #[.bool ((a : Int) == 1), .int .i64 (sg : Int)])) rfl (by kernel_rfl) (by kernel_rfl) (by kernel_rfl) (fun _ _ _ h => h) (Or.inl ⟨by rfl, fun W hS => by (obtain ⟨s0, s1, s2, s3⟩ := hS; go_simp)⟩) (HSW.out _ HN1.out.env HY1.out) ?_
          simp only [Act.put, List.setIfInBounds_toArray, List.set_cons_zero, List.set_cons_succ]
          refine wpAnyH_ready (rs := [4, 13]) (by kernel_rfl) (by simp) ?_
          refine AllReadyH.cons rfl (fun K hK => ?_) (AllReadyH.cons rfl (fun K hK => ?_) AllReadyH.nil)
          · skip
            have k1 := blk_cell HN1.out.lay.nt 1
            have k1 : _ = some (Value.slice ra rs.length rc) := k1
            go_simp
            clear k1
            refine hK.out _ _ (HSW.out _ HN1.out.env HY1.out) (fun _ => ?_)
            clear hK K
            refine wpAnyH_ready (rs := [13]) (by kernel_rfl) (by simp) ?_
            refine AllReadyH.cons rfl (fun K hK => ?_) AllReadyH.nil
            go_simp
            have HBA := hide (below_alloc v1 (.cells #[.bool ((a : Int) == 1), .int .i64 (sg : Int)] 59))
            have HNA := hide (HN1.out.below HBA.out)
            have HYA := hide (Below.blk HBA.out HY1.out)
            refine hK.out _ _ (HSW.out _ HNA.out.env HYA.out) (fun _ => ?_)
            clear hK K
            refine wpAnyH_ready (rs := [14]) (by kernel_rfl) (by simp) ?_
            refine AllReadyH.cons rfl (fun K hK => ?_) AllReadyH.nil
            obtain ⟨ra2, rc2, v2, happ, hn2', hold⟩ := HN1.out.pushR ⟨(a : Int) == 1, (sg : Int)⟩ (by omega)
            have HN2 := hide hn2'
            have hRA := HN1.out.regs.new
            have hES := HN1.out.env.size
            have hnb2 : v2.heap[w.heap.size + 3]? = _ := (hold (w.heap.size + 3) (by omega) fun e => by have := hRA _ e; omega).trans HN1.out.env.nb
            have hlk2 : v2.heap[w.heap.size + 5]? = _ := (hold (w.heap.size + 5) (by omega) fun e => by have := hRA _ e; omega).trans HN1.out.env.lk
            have hnt2 : v2.heap[w.heap.size + 1]? = _ := (hold (w.heap.size + 1) (by omega) fun e => by have := hRA _ e; omega).trans HN1.out.lay.nt
            have hy2 : v2.heap[Y]? = _ := (hold Y (blk_lt HY1.out) fun e => by have := HRY.out _ e; omega).trans HY1.out
            have HNT2 := hide hnt2
            have HS2 : Hid (v2.cell? ⟨w.heap.size + 3, 0, none⟩ = some (.pointer (some ⟨w.heap.size + 1, 0, none⟩)) ∧ v2.cell? ⟨w.heap.size + 5, 0, none⟩ = some (.func (.func 36) #[] #[.pointer (some ⟨w.heap.size, 0, none⟩), .pointer (some ⟨w.heap.size + 6, 0, none⟩), .pointer (some ⟨w.heap.size + 4, 0, none⟩), .pointer (some ⟨w.heap.size + 3, 0, none⟩)]) ∧ v2.cell? ⟨Y, 1, none⟩ = some (.int .i64 a) ∧ v2.cell? ⟨Y, 3, none⟩ = some (.int .i64 q)) := hide ⟨by rw [blk_cell hnb2]; rfl, by rw [blk_cell hlk2]; rfl, by rw [blk_cell hy2]; rfl, by rw [blk_cell hy2]; rfl⟩
            clear hn2' hold hRA hES hnb2 hlk2 hnt2 hy2
            refine (if_pos (by kernel_rfl)).mpr ?_
            refine wp_append_run happ _ _ rfl rfl rfl ?_
            simp only [Act.put, List.getElem_toArray, List.getElem_cons_succ, List.getElem_cons_zero, List.setIfInBounds_toArray, List.set_cons_zero, List.set_cons_succ]
            refine hK.out _ _ HS2.out (fun _ => ?_)
            clear hK K happ
            refine wpAnyH_take (i := 15) (oi := ⟨some 49, _, _, _, _, _⟩) (v := (.pointer (some ⟨w.heap.size + 1, 0, none⟩))) rfl (by kernel_rfl) (by kernel_rfl) (by kernel_rfl) (fun _ _ _ h => h) (Or.inl ⟨by rfl, fun W hS => by (obtain ⟨s0, s1, s2, s3⟩ := hS; go_simp)⟩) HS2.out ?_
            simp only [Act.put, List.setIfInBounds_toArray, List.set_cons_zero, List.set_cons_succ]
            refine wpAnyH_take (i := 16) (oi := ⟨some 50, _, _, _, _, _⟩) (v := (.pointer (some ⟨w.heap.size + 1, 1, none⟩))) rfl (by kernel_rfl) (by kernel_rfl) (by kernel_rfl) (fun _ _ _ h => h) (Or.inl ⟨by rfl, fun W hS => by (obtain ⟨s0, s1, s2, s3⟩ := hS; go_simp)⟩) HS2.out ?_
            simp only [Act.put, List.setIfInBounds_toArray, List.set_cons_zero, List.set_cons_succ]
            refine wpAnyH_ready (rs := [17]) (by kernel_rfl) (by simp) ?_
            refine AllReadyH.cons rfl (fun K hK => ?_) AllReadyH.nil
            have f4 : v2.frozen? ⟨w.heap.size + 1, 1, none⟩ = false := blk_frozen HNT2.out 1
            have k4 : v2.cell? ⟨w.heap.size + 1, 1, none⟩ = some (.slice ra rs.length rc) := by rw [blk_cell HNT2.out]; rfl
            have HS3 : Hid ((v2.setCell ⟨w.heap.size + 1, 1, none⟩ (.slice ra2 (rs.length + 1) rc2)).cell? ⟨w.heap.size + 3, 0, none⟩ = some (.pointer (some ⟨w.heap.size + 1, 0, none⟩)) ∧ (v2.setCell ⟨w.heap.size + 1, 1, none⟩ (.slice ra2 (rs.length + 1) rc2)).cell? ⟨w.heap.size + 5, 0, none⟩ = some (.func (.func 36) #[] #[.pointer (some ⟨w.heap.size, 0, none⟩), .pointer (some ⟨w.heap.size + 6, 0, none⟩), .pointer (some ⟨w.heap.size + 4, 0, none⟩), .pointer (some ⟨w.heap.size + 3, 0, none⟩)]) ∧ (v2.setCell ⟨w.heap.size + 1, 1, none⟩ (.slice ra2 (rs.length + 1) rc2)).cell? ⟨Y, 1, none⟩ = some (.int .i64 a) ∧ (v2.setCell ⟨w.heap.size + 1, 1, none⟩ (.slice ra2 (rs.length + 1) rc2)).cell? ⟨Y, 3, none⟩ = some (.int .i64 q)) := hide (by
              obtain ⟨q0, q1, q2, q3⟩ := HS2.out
              have hY := HYE.out
              exact ⟨cell_same q0 (Below.heap_setCell v2 ⟨w.heap.size + 1, 1, none⟩ _ (w.heap.size + 3) (fun e => by have h7 : w.heap.size + 3 = w.heap.size + 1 := e; omega)), cell_same q1 (Below.heap_setCell v2 ⟨w.heap.size + 1, 1, none⟩ _ (w.heap.size + 5) (fun e => by have h7 : w.heap.size + 5 = w.heap.size + 1 := e; omega)), cell_same q2 (Below.heap_setCell v2 ⟨w.heap.size + 1, 1, none⟩ _ Y (fun e => by have h7 : Y = w.heap.size + 1 := e; omega)), cell_same q3 (Below.heap_setCell v2 ⟨w.heap.size + 1, 1, none⟩ _ Y (fun e => by have h7 : Y = w.heap.size + 1 := e; omega))⟩)
            go_simp
            clear f4 k4
            refine hK.out _ _ HS3.out (fun _ => ?_)
            clear hK K
            refine wpAnyH_done (by kernel_rfl) ?_ _
            go_wp2_with fail
            exact ⟨⟨k + 1, rs ++ [⟨(a : Int) == 1, (sg : Int)⟩], stg, la1, lc1, ys1, D2, ra2, rc2, by omega, by go_num, hide (HLT2.out sg stg rfl), HN2⟩, by simp [intOf]; omega⟩
          · skip
            go_simp
            have HBA := hide (below_alloc v1 (.cells #[.bool ((a : Int) == 1), .int .i64 (sg : Int)] 59))
            have HNA := hide (HN1.out.below HBA.out)
            have HYA := hide (Below.blk HBA.out HY1.out)
            refine hK.out _ _ (HSW.out _ HNA.out.env HYA.out) (fun _ => ?_)
            clear hK K
            refine wpAnyH_ready (rs := [4]) (by kernel_rfl) (by simp) ?_
            refine AllReadyH.cons rfl (fun K hK => ?_) AllReadyH.nil
            have k1 := blk_cell HNA.out.lay.nt 1
            have k1 : _ = some (Value.slice ra rs.length rc) := k1
            go_simp
            clear k1
            refine hK.out _ _ (HSW.out _ HNA.out.env HYA.out) (fun _ => ?_)
            clear hK K
            refine wpAnyH_ready (rs := [14]) (by kernel_rfl) (by simp) ?_
            refine AllReadyH.cons rfl (fun K hK => ?_) AllReadyH.nil
            obtain ⟨ra2, rc2, v2, happ, hn2', hold⟩ := HN1.out.pushR ⟨(a : Int) == 1, (sg : Int)⟩ (by omega)
            have HN2 := hide hn2'
            have hRA := HN1.out.regs.new
            have hES := HN1.out.env.size
            have hnb2 : v2.heap[w.heap.size + 3]? = _ := (hold (w.heap.size + 3) (by omega) fun e => by have := hRA _ e; omega).trans HN1.out.env.nb
            have hlk2 : v2.heap[w.heap.size + 5]? = _ := (hold (w.heap.size + 5) (by omega) fun e => by have := hRA _ e; omega).trans HN1.out.env.lk
            have hnt2 : v2.heap[w.heap.size + 1]? = _ := (hold (w.heap.size + 1) (by omega) fun e => by have := hRA _ e; omega).trans HN1.out.lay.nt
            have hy2 : v2.heap[Y]? = _ := (hold Y (blk_lt HY1.out) fun e => by have := HRY.out _ e; omega).trans HY1.out
            have HNT2 := hide hnt2
            have HS2 : Hid (v2.cell? ⟨w.heap.size + 3, 0, none⟩ = some (.pointer (some ⟨w.heap.size + 1, 0, none⟩)) ∧ v2.cell? ⟨w.heap.size + 5, 0, none⟩ = some (.func (.func 36) #[] #[.pointer (some ⟨w.heap.size, 0, none⟩), .pointer (some ⟨w.heap.size + 6, 0, none⟩), .pointer (some ⟨w.heap.size + 4, 0, none⟩), .pointer (some ⟨w.heap.size + 3, 0, none⟩)]) ∧ v2.cell? ⟨Y, 1, none⟩ = some (.int .i64 a) ∧ v2.cell? ⟨Y, 3, none⟩ = some (.int .i64 q)) := hide ⟨by rw [blk_cell hnb2]; rfl, by rw [blk_cell hlk2]; rfl, by rw [blk_cell hy2]; rfl, by rw [blk_cell hy2]; rfl⟩
            clear hn2' hold hRA hES hnb2 hlk2 hnt2 hy2
            refine (if_pos (by kernel_rfl)).mpr ?_
            refine wp_append_run happ _ _ rfl rfl rfl ?_
            simp only [Act.put, List.getElem_toArray, List.getElem_cons_succ, List.getElem_cons_zero, List.setIfInBounds_toArray, List.set_cons_zero, List.set_cons_succ]
            refine hK.out _ _ HS2.out (fun _ => ?_)
            clear hK K happ
            refine wpAnyH_take (i := 15) (oi := ⟨some 49, _, _, _, _, _⟩) (v := (.pointer (some ⟨w.heap.size + 1, 0, none⟩))) rfl (by kernel_rfl) (by kernel_rfl) (by kernel_rfl) (fun _ _ _ h => h) (Or.inl ⟨by rfl, fun W hS => by (obtain ⟨s0, s1, s2, s3⟩ := hS; go_simp)⟩) HS2.out ?_
            simp only [Act.put, List.setIfInBounds_toArray, List.set_cons_zero, List.set_cons_succ]
            refine wpAnyH_take (i := 16) (oi := ⟨some 50, _, _, _, _, _⟩) (v := (.pointer (some ⟨w.heap.size + 1, 1, none⟩))) rfl (by kernel_rfl) (by kernel_rfl) (by kernel_rfl) (fun _ _ _ h => h) (Or.inl ⟨by rfl, fun W hS => by (obtain ⟨s0, s1, s2, s3⟩ := hS; go_simp)⟩) HS2.out ?_
            simp only [Act.put, List.setIfInBounds_toArray, List.set_cons_zero, List.set_cons_succ]
            refine wpAnyH_ready (rs := [17]) (by kernel_rfl) (by simp) ?_
            refine AllReadyH.cons rfl (fun K hK => ?_) AllReadyH.nil
            have f4 : v2.frozen? ⟨w.heap.size + 1, 1, none⟩ = false := blk_frozen HNT2.out 1
            have k4 : v2.cell? ⟨w.heap.size + 1, 1, none⟩ = some (.slice ra rs.length rc) := by rw [blk_cell HNT2.out]; rfl
            have HS3 : Hid ((v2.setCell ⟨w.heap.size + 1, 1, none⟩ (.slice ra2 (rs.length + 1) rc2)).cell? ⟨w.heap.size + 3, 0, none⟩ = some (.pointer (some ⟨w.heap.size + 1, 0, none⟩)) ∧ (v2.setCell ⟨w.heap.size + 1, 1, none⟩ (.slice ra2 (rs.length + 1) rc2)).cell? ⟨w.heap.size + 5, 0, none⟩ = some (.func (.func 36) #[] #[.pointer (some ⟨w.heap.size, 0, none⟩), .pointer (some ⟨w.heap.size + 6, 0, none⟩), .pointer (some ⟨w.heap.size + 4, 0, none⟩), .pointer (some ⟨w.heap.size + 3, 0, none⟩)]) ∧ (v2.setCell ⟨w.heap.size + 1, 1, none⟩ (.slice ra2 (rs.length + 1) rc2)).cell? ⟨Y, 1, none⟩ = some (.int .i64 a) ∧ (v2.setCell ⟨w.heap.size + 1, 1, none⟩ (.slice ra2 (rs.length + 1) rc2)).cell? ⟨Y, 3, none⟩ = some (.int .i64 q)) := hide (by
              obtain ⟨q0, q1, q2, q3⟩ := HS2.out
              have hY := HYE.out
              exact ⟨cell_same q0 (Below.heap_setCell v2 ⟨w.heap.size + 1, 1, none⟩ _ (w.heap.size + 3) (fun e => by have h7 : w.heap.size + 3 = w.heap.size + 1 := e; omega)), cell_same q1 (Below.heap_setCell v2 ⟨w.heap.size + 1, 1, none⟩ _ (w.heap.size + 5) (fun e => by have h7 : w.heap.size + 5 = w.heap.size + 1 := e; omega)), cell_same q2 (Below.heap_setCell v2 ⟨w.heap.size + 1, 1, none⟩ _ Y (fun e => by have h7 : Y = w.heap.size + 1 := e; omega)), cell_same q3 (Below.heap_setCell v2 ⟨w.heap.size + 1, 1, none⟩ _ Y (fun e => by have h7 : Y = w.heap.size + 1 := e; omega))⟩)
            go_simp
            clear f4 k4
            refine hK.out _ _ HS3.out (fun _ => ?_)
            clear hK K
            refine wpAnyH_done (by kernel_rfl) ?_ _
            go_wp2_with fail
            exact ⟨⟨k + 1, rs ++ [⟨(a : Int) == 1, (sg : Int)⟩], stg, la1, lc1, ys1, D2, ra2, rc2, by omega, by go_num, hide (HLT2.out sg stg rfl), HN2⟩, by simp [intOf]; omega⟩
      · have hopb : (op == 4) = false := beq_eq_false_iff_ne.2 hop
        have HLT2 : Hid (layTo (waysX X) (firstS gn ns) ns (k + 1) = (rs, st)) := hide (by
          have := HSTEP.out
          simp only [isReg, hopb] at this
          exact this)
        have HNB := hide (hnet.out.below (below_alloc wr (.cells #[.int .i64 op, .int .i64 a, .int .i64 bb, .int .i64 nx] 48)))
        clear HSTEP HRG hlt0 hnet HRK
        go_wp2_with fail
        exact ⟨⟨k + 1, rs, st, la, lc, ys, D1, ra, rc, by omega, by go_num, HLT2, HNB⟩, by simp [intOf]; omega⟩
    · have HKL : Hid (k = ns.length) := hide (by omega)
      obtain rfl : k = ns.length := HKL.out
      have k11 := (HNW.out.below hnet.out.low).c2
      have HRG := hide (lay_regs HHR.out HHW.out ns.length (Nat.le_refl _))
      rw [hlt0.out] at HRG
      have HST0 := hide HRG.out.ok
      have hrl : rs.length ≤ 20000 := by have h1 := HRG.out.len; have h2 := regsN_le ns ns.length; simp only at h1; omega
      clear HRG HL0
      go_wp2_with fail
      clear k11
      go_loopw [12, 57] (fun _ i wx => ∃ (k2 : Nat) (os' : List Int) (st' : LSt) (la : Option Addr) (lc : Nat) (ys : List Wy) (D1 : DataW Unit) (oa : Option Addr) (oc : Nat), k2 ≤ os.length ∧ i = .int .i64 k2 ∧ Hid (foldTo (lookF (waysX X) (firstS gn ns) ns.length) os st k2 = (os', st')) ∧ Hid (LayOk gn ns st' ∧ os'.length = k2) ∧ Hid (LNet w.heap.size P (firstS gn ns) ns.length wa wc X SA SC gn w wx rs os' st' la lc ys D1 ra rc oa oc)) (fun _ i _ => os.length - (intOf i).toNat)
      case atStart => exact ⟨0, [], st, la, lc, ys, D1, none, 0, Nat.zero_le _, rfl, hide rfl, hide ⟨HST0.out, rfl⟩, hnet⟩
      case round =>
        clear hnet
        obtain ⟨k2, os', st', la, lc, ys, D1, oa, oc, hk2, rfl, hfo, hok, hnet⟩ := hrel
        by_cases hlt2 : k2 < os.length
        · have hki2 : (k2 : Int) < (os.length : Int) := by omega
          have HST := hide hok.out.1
          have hol : os'.length ≤ 20000 := by have := hok.out.2; omega
          have hoq := inR_iff.1 (HHO.out k2 hlt2)
          obtain ⟨ob, ooff, hoa, hoc⟩ : ∃ ob ooff, s.oa = some ⟨ob, ooff, none⟩ ∧ wr.cell? ⟨ob, ooff + k2, none⟩ = some (.int .i64 (outAt os k2)) := by
            rcases (HNW.out.below hnet.out.low).outs with hz | ⟨ob, ooff, g1, g2, g3⟩
            · have := congrArg List.length hz; simp only [intsC, List.length_map, List.length_nil] at this; omega
            · exact ⟨ob, ooff, g1, g3 k2 _ (by simp [intsC, outAt, hlt2])⟩
          have HFO2 : Hid (∀ sg stg, lookF (waysX X) (firstS gn ns) ns.length (outAt os k2).toNat st' = (sg, stg) → foldTo (lookF (waysX X) (firstS gn ns) ns.length) os st (k2 + 1) = (os' ++ [(sg : Int)], stg)) := hide fun sg stg h => by
            have := hfo.out
            simp only [foldTo]; rw [this]; simp only [h]
          generalize outAt os k2 = ov at *
          have hov0 := hoq.1
          have hov1 := hoq.2
          clear hoq
          obtain ⟨q, rfl⟩ := Int.eq_ofNat_of_zero_le hov0
          rw [Int.toNat_natCast] at HFO2
          have HLK := hide (look_ok HHR.out HHW.out ns.length q st' (by omega) (by omega) HST.out)
          have HOL := hide hok.out.2
          have HOA := hide hoa
          rw [HOA.out]
          clear hoa hfo hok hov0
          go_wp2_with fail
          clear hoc
          have HN0 := hide (hnet.out.below (Below.refl _ wr).drew)
          have HSW : Hid (∀ W' : World, LEnv w.heap.size P (firstS gn ns) ns.length wa wc X SA SC W' → W'.cell? ⟨w.heap.size + 3, 0, none⟩ = some (.pointer (some ⟨w.heap.size + 1, 0, none⟩)) ∧ W'.cell? ⟨w.heap.size + 5, 0, none⟩ = some (.func (.func 36) #[] #[.pointer (some ⟨w.heap.size, 0, none⟩), .pointer (some ⟨w.heap.size + 6, 0, none⟩), .pointer (some ⟨w.heap.size + 4, 0, none⟩), .pointer (some ⟨w.heap.size + 3, 0, none⟩)])) := hide fun W' h1 => ⟨by rw [blk_cell h1.nb]; rfl, by rw [blk_cell h1.lk]; rfl⟩
          refine wp_region_held_drew (S := fun W' => W'.cell? ⟨w.heap.size + 3, 0, none⟩ = some (.pointer (some ⟨w.heap.size + 1, 0, none⟩)) ∧ W'.cell? ⟨w.heap.size + 5, 0, none⟩ = some (.func (.func 36) #[] #[.pointer (some ⟨w.heap.size, 0, none⟩), .pointer (some ⟨w.heap.size + 6, 0, none⟩), .pointer (some ⟨w.heap.size + 4, 0, none⟩), .pointer (some ⟨w.heap.size + 3, 0, none⟩)])) (by kernel_rfl) (HSW.out _ HN0.out.env) (fun _ => ?_)
          clear hnet
          generalize wr.drew = v0 at *
          refine wpAnyH_take (i := 0) (oi := ⟨some 61, _, _, _, _, _⟩) (v := (.pointer (some ⟨w.heap.size + 1, 0, none⟩))) rfl (by kernel_rfl) (by kernel_rfl) (by kernel_rfl) (fun _ _ _ h => h) (Or.inl ⟨by rfl, fun W hS => by (obtain ⟨s0, s1⟩ := hS; go_simp)⟩) (HSW.out _ HN0.out.env) ?_
          simp only [Act.put, List.setIfInBounds_toArray, List.set_cons_zero, List.set_cons_succ]
          refine wpAnyH_take (i := 1) (oi := ⟨some 62, _, _, _, _, _⟩) (v := (.pointer (some ⟨w.heap.size + 1, 0, none⟩))) rfl (by kernel_rfl) (by kernel_rfl) (by kernel_rfl) (fun _ _ _ h => h) (Or.inl ⟨by rfl, fun W hS => by (obtain ⟨s0, s1⟩ := hS; go_simp)⟩) (HSW.out _ HN0.out.env) ?_
          simp only [Act.put, List.setIfInBounds_toArray, List.set_cons_zero, List.set_cons_succ]
          refine wpAnyH_take (i := 5) (oi := ⟨some 66, _, _, _, _, _⟩) (v := (.func (.func 36) #[] #[.pointer (some ⟨w.heap.size, 0, none⟩), .pointer (some ⟨w.heap.size + 6, 0, none⟩), .pointer (some ⟨w.heap.size + 4, 0, none⟩), .pointer (some ⟨w.heap.size + 3, 0, none⟩)])) rfl (by kernel_rfl) (by kernel_rfl) (by kernel_rfl) (fun _ _ _ h => h) (Or.inl ⟨by rfl, fun W hS => by (obtain ⟨s0, s1⟩ := hS; go_simp)⟩) (HSW.out _ HN0.out.env) ?_
          simp only [Act.put, List.setIfInBounds_toArray, List.set_cons_zero, List.set_cons_succ]
          refine wpAnyH_take (i := 6) (oi := ⟨some 67, _, _, _, _, _⟩) (v := (.int .i64 q)) rfl (by kernel_rfl) (by kernel_rfl) (by kernel_rfl) (fun _ _ _ h => h) (Or.inl ⟨by rfl, fun W hS => by (obtain ⟨s0, s1⟩ := hS; go_simp)⟩) (HSW.out _ HN0.out.env) ?_
          simp only [Act.put, List.setIfInBounds_toArray, List.set_cons_zero, List.set_cons_succ]
          refine wpAnyH_take (i := 2) (oi := ⟨some 63, _, _, _, _, _⟩) (v := (.pointer (some ⟨w.heap.size + 1, 0, none⟩))) rfl (by kernel_rfl) (by kernel_rfl) (by kernel_rfl) (fun _ _ _ h => h) (Or.inl ⟨by rfl, fun W hS => by (obtain ⟨s0, s1⟩ := hS; go_simp)⟩) (HSW.out _ HN0.out.env) ?_
          simp only [Act.put, List.setIfInBounds_toArray, List.set_cons_zero, List.set_cons_succ]
          refine wpAnyH_take (i := 3) (oi := ⟨some 64, _, _, _, _, _⟩) (v := (.pointer (some ⟨w.heap.size + 1, 3, none⟩))) rfl (by kernel_rfl) (by kernel_rfl) (by kernel_rfl) (fun _ _ _ h => h) (Or.inl ⟨by rfl, fun W hS => by (obtain ⟨s0, s1⟩ := hS; go_simp)⟩) (HSW.out _ HN0.out.env) ?_
          simp only [Act.put, List.setIfInBounds_toArray, List.set_cons_zero, List.set_cons_succ]
          refine wpAnyH_ready (rs := [4, 7]) (by kernel_rfl) (by simp) ?_
          refine AllReadyH.cons rfl (fun K hK => ?_) (AllReadyH.cons rfl (fun K hK => ?_) AllReadyH.nil)
          · skip
            have k1 := blk_cell HN0.out.lay.nt 3
            have k1 : _ = some (Value.slice oa os'.length oc) := k1
            go_simp
            clear k1
            refine hK.out _ _ (HSW.out _ HN0.out.env) (fun _ => ?_)
            clear hK K
            refine wpAnyH_ready (rs := [7]) (by kernel_rfl) (by simp) ?_
            refine AllReadyH.cons rfl (fun K hK => ?_) AllReadyH.nil
            go_simp
            refine (look_all HHR.out HHW.out hn2 hf4 ns.length q st' _ la lc ys D1 (by omega) (by omega) HN0.out.env HN0.out.lay HST.out).mono ?_
            intro e v1 hd
            obtain ⟨la1, lc1, ys1, D2, rfl, hn1, hkl1⟩ := HN0.out.look hd
            have HN1 := hide hn1
            clear hn1 hkl1 hd HN0
            generalize hrg : lookF (waysX X) (firstS gn ns) ns.length q st' = rg at *
            obtain ⟨sg, stg⟩ := rg
            simp only at HN1
            refine hK.out _ _ (HSW.out _ HN1.out.env) (fun _ => ?_)
            clear hK K
            refine wpAnyH_ready (rs := [8]) (by kernel_rfl) (by simp) ?_
            refine AllReadyH.cons rfl (fun K hK => ?_) AllReadyH.nil
            go_simp
            have HBA := hide (below_alloc v1 (.cells #[.int .i64 (sg : Int)] 3))
            have HNA := hide (HN1.out.below HBA.out)
            refine hK.out _ _ (HSW.out _ HNA.out.env) (fun _ => ?_)
            clear hK K
            refine wpAnyH_ready (rs := [9]) (by kernel_rfl) (by simp) ?_
            refine AllReadyH.cons rfl (fun K hK => ?_) AllReadyH.nil
            obtain ⟨oa2, oc2, v2, happ, hn2', hold⟩ := HN1.out.pushO (sg : Int) (by omega)
            have HN2 := hide hn2'
            have hRA := HN1.out.outs.new
            have hES := HN1.out.env.size
            have hnb2 : v2.heap[w.heap.size + 3]? = _ := (hold (w.heap.size + 3) (by omega) fun e => by have := hRA _ e; omega).trans HN1.out.env.nb
            have hlk2 : v2.heap[w.heap.size + 5]? = _ := (hold (w.heap.size + 5) (by omega) fun e => by have := hRA _ e; omega).trans HN1.out.env.lk
            have hnt2 : v2.heap[w.heap.size + 1]? = _ := (hold (w.heap.size + 1) (by omega) fun e => by have := hRA _ e; omega).trans HN1.out.lay.nt
            have HNT2 := hide hnt2
            have HS2 : Hid (v2.cell? ⟨w.heap.size + 3, 0, none⟩ = some (.pointer (some ⟨w.heap.size + 1, 0, none⟩)) ∧ v2.cell? ⟨w.heap.size + 5, 0, none⟩ = some (.func (.func 36) #[] #[.pointer (some ⟨w.heap.size, 0, none⟩), .pointer (some ⟨w.heap.size + 6, 0, none⟩), .pointer (some ⟨w.heap.size + 4, 0, none⟩), .pointer (some ⟨w.heap.size + 3, 0, none⟩)])) := hide ⟨by rw [blk_cell hnb2]; rfl, by rw [blk_cell hlk2]; rfl⟩
            clear hn2' hold hRA hES hnb2 hlk2 hnt2
            refine (if_pos (by kernel_rfl)).mpr ?_
            refine wp_append_run happ _ _ rfl rfl rfl ?_
            simp only [Act.put, List.getElem_toArray, List.getElem_cons_succ, List.getElem_cons_zero, List.setIfInBounds_toArray, List.set_cons_zero, List.set_cons_succ]
            refine hK.out _ _ HS2.out (fun _ => ?_)
            clear hK K happ
            refine wpAnyH_take (i := 10) (oi := ⟨some 71, _, _, _, _, _⟩) (v := (.pointer (some ⟨w.heap.size + 1, 0, none⟩))) rfl (by kernel_rfl) (by kernel_rfl) (by kernel_rfl) (fun _ _ _ h => h) (Or.inl ⟨by rfl, fun W hS => by (obtain ⟨s0, s1⟩ := hS; go_simp)⟩) HS2.out ?_
            simp only [Act.put, List.setIfInBounds_toArray, List.set_cons_zero, List.set_cons_succ]
            refine wpAnyH_take (i := 11) (oi := ⟨some 72, _, _, _, _, _⟩) (v := (.pointer (some ⟨w.heap.size + 1, 3, none⟩))) rfl (by kernel_rfl) (by kernel_rfl) (by kernel_rfl) (fun _ _ _ h => h) (Or.inl ⟨by rfl, fun W hS => by (obtain ⟨s0, s1⟩ := hS; go_simp)⟩) HS2.out ?_
            simp only [Act.put, List.setIfInBounds_toArray, List.set_cons_zero, List.set_cons_succ]
            refine wpAnyH_ready (rs := [12]) (by kernel_rfl) (by simp) ?_
            refine AllReadyH.cons rfl (fun K hK => ?_) AllReadyH.nil
            have f4 : v2.frozen? ⟨w.heap.size + 1, 3, none⟩ = false := blk_frozen HNT2.out 3
            have k4 : v2.cell? ⟨w.heap.size + 1, 3, none⟩ = some (.slice oa os'.length oc) := by rw [blk_cell HNT2.out]; rfl
            have HS3 : Hid ((v2.setCell ⟨w.heap.size + 1, 3, none⟩ (.slice oa2 (os'.length + 1) oc2)).cell? ⟨w.heap.size + 3, 0, none⟩ = some (.pointer (some ⟨w.heap.size + 1, 0, none⟩)) ∧ (v2.setCell ⟨w.heap.size + 1, 3, none⟩ (.slice oa2 (os'.length + 1) oc2)).cell? ⟨w.heap.size + 5, 0, none⟩ = some (.func (.func 36) #[] #[.pointer (some ⟨w.heap.size, 0, none⟩), .pointer (some ⟨w.heap.size + 6, 0, none⟩), .pointer (some ⟨w.heap.size + 4, 0, none⟩), .pointer (some ⟨w.heap.size + 3, 0, none⟩)])) := hide (by
              obtain ⟨q0, q1⟩ := HS2.out
              exact ⟨cell_same q0 (Below.heap_setCell v2 ⟨w.heap.size + 1, 3, none⟩ _ (w.heap.size + 3) (fun e => by have h7 : w.heap.size + 3 = w.heap.size + 1 := e; omega)), cell_same q1 (Below.heap_setCell v2 ⟨w.heap.size + 1, 3, none⟩ _ (w.heap.size + 5) (fun e => by have h7 : w.heap.size + 5 = w.heap.size + 1 := e; omega))⟩)
            go_simp
            clear f4 k4
            refine hK.out _ _ HS3.out (fun _ => ?_)
            clear hK K
            refine wpAnyH_done (by kernel_rfl) ?_ _
            go_wp2_with fail
            exact ⟨⟨k2 + 1, os' ++ [(sg : Int)], stg, la1, lc1, ys1, D2, oa2, oc2, by omega, by go_num, hide (HFO2.out sg stg rfl), hide ⟨HLK.out.ok, by rw [List.length_append]; have := HOL.out; simp; omega⟩, HN2⟩, by simp [intOf]; omega⟩
          · skip
            go_simp
            refine (look_all HHR.out HHW.out hn2 hf4 ns.length q st' _ la lc ys D1 (by omega) (by omega) HN0.out.env HN0.out.lay HST.out).mono ?_
            intro e v1 hd
            obtain ⟨la1, lc1, ys1, D2, rfl, hn1, hkl1⟩ := HN0.out.look hd
            have HN1 := hide hn1
            clear hn1 hkl1 hd HN0
            generalize hrg : lookF (waysX X) (firstS gn ns) ns.length q st' = rg at *
            obtain ⟨sg, stg⟩ := rg
            simp only at HN1
            refine hK.out _ _ (HSW.out _ HN1.out.env) (fun _ => ?_)
            clear hK K
            refine wpAnyH_ready (rs := [4, 8]) (by kernel_rfl) (by simp) ?_
            refine AllReadyH.cons rfl (fun K hK => ?_) (AllReadyH.cons rfl (fun K hK => ?_) AllReadyH.nil)
            · skip
              have k1 := blk_cell HN1.out.lay.nt 3
              have k1 : _ = some (Value.slice oa os'.length oc) := k1
              go_simp
              clear k1
              refine hK.out _ _ (HSW.out _ HN1.out.env) (fun _ => ?_)
              clear hK K
              refine wpAnyH_ready (rs := [8]) (by kernel_rfl) (by simp) ?_
              refine AllReadyH.cons rfl (fun K hK => ?_) AllReadyH.nil
              go_simp
              have HBA := hide (below_alloc v1 (.cells #[.int .i64 (sg : Int)] 3))
              have HNA := hide (HN1.out.below HBA.out)
              refine hK.out _ _ (HSW.out _ HNA.out.env) (fun _ => ?_)
              clear hK K
              refine wpAnyH_ready (rs := [9]) (by kernel_rfl) (by simp) ?_
              refine AllReadyH.cons rfl (fun K hK => ?_) AllReadyH.nil
              obtain ⟨oa2, oc2, v2, happ, hn2', hold⟩ := HN1.out.pushO (sg : Int) (by omega)
              have HN2 := hide hn2'
              have hRA := HN1.out.outs.new
              have hES := HN1.out.env.size
              have hnb2 : v2.heap[w.heap.size + 3]? = _ := (hold (w.heap.size + 3) (by omega) fun e => by have := hRA _ e; omega).trans HN1.out.env.nb
              have hlk2 : v2.heap[w.heap.size + 5]? = _ := (hold (w.heap.size + 5) (by omega) fun e => by have := hRA _ e; omega).trans HN1.out.env.lk
              have hnt2 : v2.heap[w.heap.size + 1]? = _ := (hold (w.heap.size + 1) (by omega) fun e => by have := hRA _ e; omega).trans HN1.out.lay.nt
              have HNT2 := hide hnt2
              have HS2 : Hid (v2.cell? ⟨w.heap.size + 3, 0, none⟩ = some (.pointer (some ⟨w.heap.size + 1, 0, none⟩)) ∧ v2.cell? ⟨w.heap.size + 5, 0, none⟩ = some (.func (.func 36) #[] #[.pointer (some ⟨w.heap.size, 0, none⟩), .pointer (some ⟨w.heap.size + 6, 0, none⟩), .pointer (some ⟨w.heap.size + 4, 0, none⟩), .pointer (some ⟨w.heap.size + 3, 0, none⟩)])) := hide ⟨by rw [blk_cell hnb2]; rfl, by rw [blk_cell hlk2]; rfl⟩
              clear hn2' hold hRA hES hnb2 hlk2 hnt2
              refine (if_pos (by kernel_rfl)).mpr ?_
              refine wp_append_run happ _ _ rfl rfl rfl ?_
              simp only [Act.put, List.getElem_toArray, List.getElem_cons_succ, List.getElem_cons_zero, List.setIfInBounds_toArray, List.set_cons_zero, List.set_cons_succ]
              refine hK.out _ _ HS2.out (fun _ => ?_)
              clear hK K happ
              refine wpAnyH_take (i := 10) (oi := ⟨some 71, _, _, _, _, _⟩) (v := (.pointer (some ⟨w.heap.size + 1, 0, none⟩))) rfl (by kernel_rfl) (by kernel_rfl) (by kernel_rfl) (fun _ _ _ h => h) (Or.inl ⟨by rfl, fun W hS => by (obtain ⟨s0, s1⟩ := hS; go_simp)⟩) HS2.out ?_
              simp only [Act.put, List.setIfInBounds_toArray, List.set_cons_zero, List.set_cons_succ]
              refine wpAnyH_take (i := 11) (oi := ⟨some 72, _, _, _, _, _⟩) (v := (.pointer (some ⟨w.heap.size + 1, 3, none⟩))) rfl (by kernel_rfl) (by kernel_rfl) (by kernel_rfl) (fun _ _ _ h => h) (Or.inl ⟨by rfl, fun W hS => by (obtain ⟨s0, s1⟩ := hS; go_simp)⟩) HS2.out ?_
              simp only [Act.put, List.setIfInBounds_toArray, List.set_cons_zero, List.set_cons_succ]
              refine wpAnyH_ready (rs := [12]) (by kernel_rfl) (by simp) ?_
              refine AllReadyH.cons rfl (fun K hK => ?_) AllReadyH.nil
              have f4 : v2.frozen? ⟨w.heap.size + 1, 3, none⟩ = false := blk_frozen HNT2.out 3
              have k4 : v2.cell? ⟨w.heap.size + 1, 3, none⟩ = some (.slice oa os'.length oc) := by rw [blk_cell HNT2.out]; rfl
              have HS3 : Hid ((v2.setCell ⟨w.heap.size + 1, 3, none⟩ (.slice oa2 (os'.length + 1) oc2)).cell? ⟨w.heap.size + 3, 0, none⟩ = some (.pointer (some ⟨w.heap.size + 1, 0, none⟩)) ∧ (v2.setCell ⟨w.heap.size + 1, 3, none⟩ (.slice oa2 (os'.length + 1) oc2)).cell? ⟨w.heap.size + 5, 0, none⟩ = some (.func (.func 36) #[] #[.pointer (some ⟨w.heap.size, 0, none⟩), .pointer (some ⟨w.heap.size + 6, 0, none⟩), .pointer (some ⟨w.heap.size + 4, 0, none⟩), .pointer (some ⟨w.heap.size + 3, 0, none⟩)])) := hide (by
                obtain ⟨q0, q1⟩ := HS2.out
                exact ⟨cell_same q0 (Below.heap_setCell v2 ⟨w.heap.size + 1, 3, none⟩ _ (w.heap.size + 3) (fun e => by have h7 : w.heap.size + 3 = w.heap.size + 1 := e; omega)), cell_same q1 (Below.heap_setCell v2 ⟨w.heap.size + 1, 3, none⟩ _ (w.heap.size + 5) (fun e => by have h7 : w.heap.size + 5 = w.heap.size + 1 := e; omega))⟩)
              go_simp
              clear f4 k4
              refine hK.out _ _ HS3.out (fun _ => ?_)
              clear hK K
              refine wpAnyH_done (by kernel_rfl) ?_ _
              go_wp2_with fail
              exact ⟨⟨k2 + 1, os' ++ [(sg : Int)], stg, la1, lc1, ys1, D2, oa2, oc2, by omega, by go_num, hide (HFO2.out sg stg rfl), hide ⟨HLK.out.ok, by rw [List.length_append]; have := HOL.out; simp; omega⟩, HN2⟩, by simp [intOf]; omega⟩
            · skip
              go_simp
              have HBA := hide (below_alloc v1 (.cells #[.int .i64 (sg : Int)] 3))
              have HNA := hide (HN1.out.below HBA.out)
              refine hK.out _ _ (HSW.out _ HNA.out.env) (fun _ => ?_)
              clear hK K
              refine wpAnyH_ready (rs := [4]) (by kernel_rfl) (by simp) ?_
              refine AllReadyH.cons rfl (fun K hK => ?_) AllReadyH.nil
              have k1 := blk_cell HNA.out.lay.nt 3
              have k1 : _ = some (Value.slice oa os'.length oc) := k1
              go_simp
              clear k1
              refine hK.out _ _ (HSW.out _ HNA.out.env) (fun _ => ?_)
              clear hK K
              refine wpAnyH_ready (rs := [9]) (by kernel_rfl) (by simp) ?_
              refine AllReadyH.cons rfl (fun K hK => ?_) AllReadyH.nil
              obtain ⟨oa2, oc2, v2, happ, hn2', hold⟩ := HN1.out.pushO (sg : Int) (by omega)
              have HN2 := hide hn2'
              have hRA := HN1.out.outs.new
              have hES := HN1.out.env.size
              have hnb2 : v2.heap[w.heap.size + 3]? = _ := (hold (w.heap.size + 3) (by omega) fun e => by have := hRA _ e; omega).trans HN1.out.env.nb
              have hlk2 : v2.heap[w.heap.size + 5]? = _ := (hold (w.heap.size + 5) (by omega) fun e => by have := hRA _ e; omega).trans HN1.out.env.lk
              have hnt2 : v2.heap[w.heap.size + 1]? = _ := (hold (w.heap.size + 1) (by omega) fun e => by have := hRA _ e; omega).trans HN1.out.lay.nt
              have HNT2 := hide hnt2
              have HS2 : Hid (v2.cell? ⟨w.heap.size + 3, 0, none⟩ = some (.pointer (some ⟨w.heap.size + 1, 0, none⟩)) ∧ v2.cell? ⟨w.heap.size + 5, 0, none⟩ = some (.func (.func 36) #[] #[.pointer (some ⟨w.heap.size, 0, none⟩), .pointer (some ⟨w.heap.size + 6, 0, none⟩), .pointer (some ⟨w.heap.size + 4, 0, none⟩), .pointer (some ⟨w.heap.size + 3, 0, none⟩)])) := hide ⟨by rw [blk_cell hnb2]; rfl, by rw [blk_cell hlk2]; rfl⟩
              clear hn2' hold hRA hES hnb2 hlk2 hnt2
              refine (if_pos (by kernel_rfl)).mpr ?_
              refine wp_append_run happ _ _ rfl rfl rfl ?_
              simp only [Act.put, List.getElem_toArray, List.getElem_cons_succ, List.getElem_cons_zero, List.setIfInBounds_toArray, List.set_cons_zero, List.set_cons_succ]
              refine hK.out _ _ HS2.out (fun _ => ?_)
              clear hK K happ
              refine wpAnyH_take (i := 10) (oi := ⟨some 71, _, _, _, _, _⟩) (v := (.pointer (some ⟨w.heap.size + 1, 0, none⟩))) rfl (by kernel_rfl) (by kernel_rfl) (by kernel_rfl) (fun _ _ _ h => h) (Or.inl ⟨by rfl, fun W hS => by (obtain ⟨s0, s1⟩ := hS; go_simp)⟩) HS2.out ?_
              simp only [Act.put, List.setIfInBounds_toArray, List.set_cons_zero, List.set_cons_succ]
              refine wpAnyH_take (i := 11) (oi := ⟨some 72, _, _, _, _, _⟩) (v := (.pointer (some ⟨w.heap.size + 1, 3, none⟩))) rfl (by kernel_rfl) (by kernel_rfl) (by kernel_rfl) (fun _ _ _ h => h) (Or.inl ⟨by rfl, fun W hS => by (obtain ⟨s0, s1⟩ := hS; go_simp)⟩) HS2.out ?_
              simp only [Act.put, List.setIfInBounds_toArray, List.set_cons_zero, List.set_cons_succ]
              refine wpAnyH_ready (rs := [12]) (by kernel_rfl) (by simp) ?_
              refine AllReadyH.cons rfl (fun K hK => ?_) AllReadyH.nil
              have f4 : v2.frozen? ⟨w.heap.size + 1, 3, none⟩ = false := blk_frozen HNT2.out 3
              have k4 : v2.cell? ⟨w.heap.size + 1, 3, none⟩ = some (.slice oa os'.length oc) := by rw [blk_cell HNT2.out]; rfl
              have HS3 : Hid ((v2.setCell ⟨w.heap.size + 1, 3, none⟩ (.slice oa2 (os'.length + 1) oc2)).cell? ⟨w.heap.size + 3, 0, none⟩ = some (.pointer (some ⟨w.heap.size + 1, 0, none⟩)) ∧ (v2.setCell ⟨w.heap.size + 1, 3, none⟩ (.slice oa2 (os'.length + 1) oc2)).cell? ⟨w.heap.size + 5, 0, none⟩ = some (.func (.func 36) #[] #[.pointer (some ⟨w.heap.size, 0, none⟩), .pointer (some ⟨w.heap.size + 6, 0, none⟩), .pointer (some ⟨w.heap.size + 4, 0, none⟩), .pointer (some ⟨w.heap.size + 3, 0, none⟩)])) := hide (by
                obtain ⟨q0, q1⟩ := HS2.out
                exact ⟨cell_same q0 (Below.heap_setCell v2 ⟨w.heap.size + 1, 3, none⟩ _ (w.heap.size + 3) (fun e => by have h7 : w.heap.size + 3 = w.heap.size + 1 := e; omega)), cell_same q1 (Below.heap_setCell v2 ⟨w.heap.size + 1, 3, none⟩ _ (w.heap.size + 5) (fun e => by have h7 : w.heap.size + 5 = w.heap.size + 1 := e; omega))⟩)
              go_simp
              clear f4 k4
              refine hK.out _ _ HS3.out (fun _ => ?_)
              clear hK K
              refine wpAnyH_done (by kernel_rfl) ?_ _
              go_wp2_with fail
              exact ⟨⟨k2 + 1, os' ++ [(sg : Int)], stg, la1, lc1, ys1, D2, oa2, oc2, by omega, by go_num, hide (HFO2.out sg stg rfl), hide ⟨HLK.out.ok, by rw [List.length_append]; have := HOL.out; simp; omega⟩, HN2⟩, by simp [intOf]; omega⟩
        · have HK2 : Hid (k2 = os.length) := hide (by omega)
          obtain rfl : k2 = os.length := HK2.out
          have hnbc : wr.cell? ⟨w.heap.size + 3, 0, none⟩ = some (.pointer (some ⟨w.heap.size + 1, 0, none⟩)) := by rw [blk_cell hnet.out.env.nb]; rfl
          go_wp2_with fail
          go_ret
          have e1 : layRs (waysX X) (firstS gn ns) ns = rs := by unfold layRs; rw [hlt0.out]
          have e2 : layLs (waysX X) (firstS gn ns) ns os = st'.L := by unfold layLs; rw [hlt0.out]; simp only; rw [hfo.out]
          have e3 : layOs (waysX X) (firstS gn ns) ns os = os' := by unfold layOs; rw [hlt0.out]; simp only; rw [hfo.out]
          rw [e1, e2, e3]
          have h := hnet.out
          have hyl : ys.length = st'.L.length := by rw [← h.lay.ls, List.length_map]
          refine ⟨w.heap.size + 1, ra, la, oa, rc, lc, oc, ys, rfl, by omega, h.lay.nt, h.lay.ls, h.regs.lies fun b hb => ?_, h.lay.row.lies fun b hb => ?_, fun y hy => (h.lay.ins y hy).imp fun b _ hb => ?_, h.outs.lies fun b hb => ?_, h.low⟩
          · have := h.regs.new b hb; unfold FromB; omega
          · have := h.lay.row.new b hb; unfold FromB; omega
          · have := hb.1; unfold FromB; omega
          · have := h.outs.new b hb; unfold FromB; omega
end Go.Proofs.Ytacgepdmhdcdkaa
