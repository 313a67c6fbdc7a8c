/-
  CONTRACTS of a plant's out, Step, and of New.
-/
import Derived.Test.YtiimnnancblbkaaDoorSc6
import Derived.Test.YtiimnnancblbkaaDoorCheck
set_option linter.unusedSimpArgs false
set_option linter.unusedVariables false
namespace Go.Proofs.YtiimnnancblbkaaDoor
open Go.RowKit

theorem Mine.lt {e size B : Nat} {w : World} {v : Value} {n : Nat} {xs : List Value} (h : Mine e size B w v n xs) {b : Nat} (hb : v.ownBlock = some b) : b < w.heap.size := by
  rcases h.own.2 with ⟨rfl, _⟩ | ⟨g, cap, cur, rfl, _, hg, _⟩
  · cases hb
  · simp [Value.ownBlock] at hb; subst hb; exact blk_lt hg
theorem outS_snoc (vs : Vs) : ∀ (l : List De) (d : De), outS vs (l ++ [d]) = outS vs l ++ (if d.way = 2 then [(getA vs d.name ty0).2] else [])
  | [], d => by by_cases h : d.way = 2 <;> simp [outS, h]
  | e :: l, d => by by_cases h : e.way = 2 <;> simp [outS, outS_snoc vs l d, h]
theorem outS_len (vs : Vs) : ∀ l : List De, (outS vs l).length ≤ l.length
  | [] => by simp [outS]
  | d :: l => by have := outS_len vs l; simp only [outS]; split <;> (simp; omega)
/-- a new row of numbers -/
def Row (N : Nat) (w : World) (e : Ending) (l : List Int) : Prop := ∃ (ao : Option Addr) (cap : Nat), e = .returned (.slice ao l.length cap) ∧ Lies (FromB N) w ao (intsC l)

set_option maxRecDepth 100000 in
set_option maxHeartbeats 12800000 in
theorem sout_at (ds : List De) (S : Nat → Prop) (w : World) (P V B : Nat) (bv : Value) (da : Option Addr) (dc : Nat) (vs : Vs) (ks : Ks) (hp : Plt w P V B (.slice da ds.length dc) bv vs ks) (hd : IsDes S w ds (.slice da ds.length dc)) (hl : ds.length ≤ 1000) :
    Calls Tryd.prog 15 #[.pointer (some ⟨P, 0, none⟩)] w fun e w' => Row w.heap.size w' e (outS vs ds) ∧ Below w.heap.size w w' := by
  have HD := hide hd
  have HP := hide hp
  have p0 : w.cell? ⟨P, 0, none⟩ = some (.slice da ds.length dc) := by rw [blk_cell hp.me]; rfl
  clear hd hp
  go_enter Tryd.func15, Tryd.ntmps15
  go_wp2_with fail
  clear p0
  go_loopw [3, 5, 12] (fun v _ i wr => ∃ j : Nat, j ≤ ds.length ∧ i = .int .i64 j ∧ Hid (Below w.heap.size w wr) ∧ ∃ (ao : Option Addr) (cap : Nat), v = .slice ao (outS vs (ds.take j)).length cap ∧ Hid (Mine 3 1 w.heap.size wr (.slice ao (outS vs (ds.take j)).length cap) (outS vs (ds.take j)).length (intsC (outS vs (ds.take j))))) (fun _ _ i _ => ds.length - (intOf i).toNat)
  case atStart => exact ⟨0, Nat.zero_le _, rfl, hide (Below.refl _ _), none, 0, rfl, hide (Mine.none _)⟩
  case round =>
    obtain ⟨j, hj, rfl, hwr, ao, cap, rfl, hm⟩ := hrel
    by_cases hlt : j < ds.length
    · have hji : (j : Int) < (ds.length : Int) := by omega
      obtain ⟨b, cap', hv, hSb⟩ := de_addr HD.out (by omega)
      obtain ⟨rfl, rfl⟩ : da = some ⟨b, 0, none⟩ ∧ dc = cap' := by cases hv; exact ⟨rfl, rfl⟩
      have HDW : Hid (IsDes S wr ds (.slice (some ⟨b, 0, none⟩) ds.length dc)) := IsRow.same HD.out fun c h1 h2 => hwr.out.block c h2
      have r0 : wr.cell? ⟨b, j * 4, none⟩ = some (.string ds[j].name) := de_cell HDW.out rfl hlt (k := 0) rfl (by decide)
      have r1 : wr.cell? ⟨b, j * 4 + 1, none⟩ = some (.int .i64 ds[j].way) := de_cell HDW.out rfl hlt (k := 1) rfl (by decide)
      have r2 : wr.cell? ⟨b, j * 4 + 2, none⟩ = some (.int .i64 ds[j].ty) := de_cell HDW.out rfl hlt (k := 2) rfl (by decide)
      have r3 : wr.cell? ⟨b, j * 4 + 3, none⟩ = some (.int .i64 ds[j].init) := de_cell HDW.out rfl hlt (k := 3) rfl (by decide)
      have HTK : Hid (outS vs (ds.take (j + 1)) = outS vs (ds.take j) ++ (if ds[j].way = 2 then [(getA vs ds[j].name ty0).2] else [])) := by
        show _ = _
        rw [← outS_snoc, List.take_append_getElem hlt]
      have hol : (outS vs (ds.take j)).length ≤ 1000 := by have := outS_len vs (ds.take j); rw [List.length_take] at this; omega
      generalize outS vs (ds.take j) = ol at *
      generalize ds[j] = d at *
      obtain ⟨nm, way, ty, init⟩ := d
      simp only at r0 r1 r2 r3 HTK
      clear hv
      by_cases hw : way = 2
      · rw [if_pos hw] at HTK
        subst hw
        have r1 : wr.cell? ⟨b, j * 4 + 1, none⟩ = some (.int .i64 2) := r1
        have HO := hide (below_alloc wr (.cells #[.string nm, .int .i64 2, .int .i64 ty, .int .i64 init] 32))
        have HN := hide (blk_new wr (.cells #[.string nm, .int .i64 2, .int .i64 ty, .int .i64 init] 32))
        have HMW := hide (hm.out.below HO.out)
        go_wp2_with fail
        clear r0 r1 r2 r3
        have HOD : Hid (Below w.heap.size w (wr.alloc (.cells #[.string nm, .int .i64 2, .int .i64 ty, .int .i64 init] 32)).drew) := hide (Below.drew (Below.step hwr.out HO.out))
        have HND : Hid ((wr.alloc (.cells #[.string nm, .int .i64 2, .int .i64 ty, .int .i64 init] 32)).drew.heap[wr.heap.size]? = some (.cells #[.string nm, .int .i64 2, .int .i64 ty, .int .i64 init] 32 (0, 0))) := HN.out
        have HMD : Hid (Mine 3 1 w.heap.size (wr.alloc (.cells #[.string nm, .int .i64 2, .int .i64 ty, .int .i64 init] 32)).drew (.slice ao ol.length cap) ol.length (intsC ol)) := HMW.out.same fun _ _ _ => rfl
        have HML : Hid (∀ b, (Value.slice ao ol.length cap).ownBlock = some b → b < wr.heap.size) := fun b hb => hm.out.lt hb
        have HSW : Hid (∀ W : World, Below w.heap.size w W → W.heap[wr.heap.size]? = some (.cells #[.string nm, .int .i64 2, .int .i64 ty, .int .i64 init] 32 (0, 0)) → W.cell? ⟨P, 2, none⟩ = some (.map (some V)) ∧ W.cell? ⟨wr.heap.size, 0, none⟩ = some (.string nm) ∧ (Instr.lookup 51 (.map (some V)) (.string nm) false).run Tryd.prog W = .ok (tyV (getA vs nm ty0)) W) := fun W hb h => ⟨by rw [blk_cell (HP.out.of hb).me]; rfl, by rw [blk_cell h]; rfl, look_ty (HP.out.of hb).vals nm⟩
        clear HMW HO HN hm
        generalize getA vs nm ty0 = r at *
        obtain ⟨rk, rn⟩ := r
        simp only [tyV] at *
        have hf1 := sfld1
        refine wp_region_held_drew (S := fun W => W.cell? ⟨P, 2, none⟩ = some (.map (some V)) ∧ W.cell? ⟨wr.heap.size, 0, none⟩ = some (.string nm) ∧ (Instr.lookup 51 (.map (some V)) (.string nm) false).run Tryd.prog W = .ok (.agg #[.int .i64 rk, .int .i64 rn]) W) (by kernel_rfl) (HSW.out _ HOD.out HND.out) (fun _ => ?_)
        generalize (wr.alloc (.cells #[.string nm, .int .i64 2, .int .i64 ty, .int .i64 init] 32)).drew = x1 at *
        refine wpAnyH_take (i := 0) (oi := ⟨some 19, _, _, _, _, _⟩) (v := (.slice ao ol.length cap)) rfl (by kernel_rfl) (by kernel_rfl) (by kernel_rfl) (fun _ _ _ h => h) (Or.inl ⟨by rfl, fun W hS => by (obtain ⟨s0, s1, s2⟩ := hS; go_simp)⟩) (HSW.out _ HOD.out HND.out) ?_
        simp only [Act.put, List.setIfInBounds_toArray, List.set_cons_zero, List.set_cons_succ]
        refine wpAnyH_take (i := 1) (oi := ⟨some 20, _, _, _, _, _⟩) (v := (.pointer (some ⟨P, 0, none⟩))) rfl (by kernel_rfl) (by kernel_rfl) (by kernel_rfl) (fun _ _ _ h => h) (Or.inl ⟨by rfl, fun W hS => by (obtain ⟨s0, s1, s2⟩ := hS; go_simp)⟩) (HSW.out _ HOD.out HND.out) ?_
        simp only [Act.put, List.setIfInBounds_toArray, List.set_cons_zero, List.set_cons_succ]
        refine wpAnyH_take (i := 2) (oi := ⟨some 21, _, _, _, _, _⟩) (v := (.pointer (some ⟨P, 0, none⟩))) rfl (by kernel_rfl) (by kernel_rfl) (by kernel_rfl) (fun _ _ _ h => h) (Or.inl ⟨by rfl, fun W hS => by (obtain ⟨s0, s1, s2⟩ := hS; go_simp)⟩) (HSW.out _ HOD.out HND.out) ?_
        simp only [Act.put, List.setIfInBounds_toArray, List.set_cons_zero, List.set_cons_succ]
        refine wpAnyH_take (i := 3) (oi := ⟨some 22, _, _, _, _, _⟩) (v := (.pointer (some ⟨P, 2, none⟩))) rfl (by kernel_rfl) (by kernel_rfl) (by kernel_rfl) (fun _ _ _ h => h) (Or.inl ⟨by rfl, fun W hS => by (obtain ⟨s0, s1, s2⟩ := hS; go_simp)⟩) (HSW.out _ HOD.out HND.out) ?_
        simp only [Act.put, List.setIfInBounds_toArray, List.set_cons_zero, List.set_cons_succ]
        refine wpAnyH_take (i := 4) (oi := ⟨some 23, _, _, _, _, _⟩) (v := (.map (some V))) rfl (by kernel_rfl) (by kernel_rfl) (by kernel_rfl) (fun _ _ _ h => h) (Or.inl ⟨by rfl, fun W hS => by (obtain ⟨s0, s1, s2⟩ := hS; go_simp)⟩) (HSW.out _ HOD.out HND.out) ?_
        simp only [Act.put, List.setIfInBounds_toArray, List.set_cons_zero, List.set_cons_succ]
        refine wpAnyH_take (i := 5) (oi := ⟨some 24, _, _, _, _, _⟩) (v := (.pointer (some ⟨wr.heap.size, 0, none⟩))) rfl (by kernel_rfl) (by kernel_rfl) (by kernel_rfl) (fun _ _ _ h => h) (Or.inl ⟨by rfl, fun W hS => by (obtain ⟨s0, s1, s2⟩ := hS; go_simp)⟩) (HSW.out _ HOD.out HND.out) ?_
        simp only [Act.put, List.setIfInBounds_toArray, List.set_cons_zero, List.set_cons_succ]
        refine wpAnyH_take (i := 6) (oi := ⟨some 25, _, _, _, _, _⟩) (v := (.string nm)) rfl (by kernel_rfl) (by kernel_rfl) (by kernel_rfl) (fun _ _ _ h => h) (Or.inl ⟨by rfl, fun W hS => by (obtain ⟨s0, s1, s2⟩ := hS; go_simp)⟩) (HSW.out _ HOD.out HND.out) ?_
        simp only [Act.put, List.setIfInBounds_toArray, List.set_cons_zero, List.set_cons_succ]
        refine wpAnyH_take (i := 7) (oi := ⟨some 26, _, _, _, _, _⟩) (v := (.agg #[.int .i64 rk, .int .i64 rn])) rfl (by kernel_rfl) (by kernel_rfl) (by kernel_rfl) (fun _ _ _ h => h) (Or.inl ⟨by rfl, fun W hS => by (obtain ⟨s0, s1, s2⟩ := hS; go_simp)⟩) (HSW.out _ HOD.out HND.out) ?_
        simp only [Act.put, List.setIfInBounds_toArray, List.set_cons_zero, List.set_cons_succ]
        refine wpAnyH_take (i := 8) (oi := ⟨some 27, _, _, _, _, _⟩) (v := (.int .i64 rn)) rfl (by kernel_rfl) (by kernel_rfl) (by kernel_rfl) (fun _ _ _ h => h) (Or.inl ⟨by rfl, fun W hS => by (obtain ⟨s0, s1, s2⟩ := hS; go_simp)⟩) (HSW.out _ HOD.out HND.out) ?_
        simp only [Act.put, List.setIfInBounds_toArray, List.set_cons_zero, List.set_cons_succ]
        refine wpAnyH_ready (rs := [9]) (by kernel_rfl) (by simp) ?_
        refine AllReadyH.cons rfl (fun K hK => ?_) AllReadyH.nil
        go_simp
        have hb2 := below_alloc x1 (.cells #[.int .i64 rn] 3)
        have HB2 := hide (Below.step HOD.out hb2)
        have HN2 := hide (Below.blk hb2 HND.out)
        have HM2 := hide (HMD.out.below hb2)
        have HA2 := hide (blk_new x1 (.cells #[.int .i64 rn] 3))
        clear hb2
        refine hK.out _ _ (HSW.out _ HB2.out HN2.out) (fun _ => ?_)
        clear hK K
        generalize x1.alloc (.cells #[.int .i64 rn] 3) = x2 at *
        obtain ⟨ao', cap', x3, happ, hm3, hg3, hnb3⟩ := app_in (c := 1) (n' := ol.length + 1) (l := ol) (new := [rn]) (ao := some ⟨x1.heap.size, 0, none⟩) HM2.out rfl rfl rfl (Lies.blk (cs := intsC [rn]) (S := AnyB) HA2.out trivial) HB2.out.size (by omega)
        have HM4 := hide hm3
        have HB4 := hide (Below.grownOn HB2.out hg3 (fun c hc => HM2.out.new c hc) HB2.out.size)
        have HN4 := hide ((hg3.block wr.heap.size (blk_lt HN2.out) (fun e => by have := HML.out _ e.symm; omega)).trans HN2.out)
        clear hm3 hg3 hnb3
        refine wpAnyH_ready (rs := [10]) (by kernel_rfl) (by simp) ?_
        refine AllReadyH.cons rfl (fun K hK => ?_) AllReadyH.nil
        refine (if_pos (by kernel_rfl)).mpr ?_
        refine wp_append_run happ _ _ rfl rfl rfl ?_
        simp only [Act.put, List.setIfInBounds_toArray, List.set_cons_zero, List.set_cons_succ, List.getElem_toArray, List.getElem_cons_succ, List.getElem_cons_zero]
        refine hK.out _ _ (HSW.out _ HB4.out HN4.out) (fun _ => ?_)
        clear hK K happ
        refine wpAnyH_take (i := 11) (oi := ⟨some 3, _, _, _, _, _⟩) (v := (.slice ao' (ol.length + 1) cap')) rfl (by kernel_rfl) (by kernel_rfl) (by kernel_rfl) (fun _ _ _ h => h) (Or.inl ⟨by rfl, fun W hS => by (obtain ⟨s0, s1, s2⟩ := hS; go_simp)⟩) (HSW.out _ HB4.out HN4.out) ?_
        simp only [Act.put, List.setIfInBounds_toArray, List.set_cons_zero, List.set_cons_succ]
        refine wpAnyH_done (by kernel_rfl) ?_ _
        go_wp2_with fail
        refine ⟨⟨j + 1, by omega, by go_num, HB4, ao', cap', ?_, ?_⟩, by simp [intOf]; omega⟩
        · rw [HTK.out]; simp
        · rw [HTK.out]; simpa using HM4
      · rw [if_neg hw] at HTK
        have hwi : ((way : Int) == 2) = false := by simp; omega
        have HO := hide (below_alloc wr (.cells #[.string nm, .int .i64 way, .int .i64 ty, .int .i64 init] 32))
        go_wp2_with fail
        refine ⟨⟨j + 1, by omega, by go_num, hide (Below.step hwr.out HO.out), ao, cap, ?_, ?_⟩, by simp [intOf]; omega⟩
        · rw [HTK.out]; simp
        · rw [HTK.out]; simpa using hide (hm.out.below HO.out)
    · have HJ : Hid (j = ds.length) := (by omega : j = ds.length)
      have HE : Hid (outS vs (ds.take j) = outS vs ds) := by show _ = _; rw [HJ.out, List.take_length]
      rw [HE.out] at hm
      rw [HE.out]
      go_wp2_with fail
      go_ret
      exact ⟨⟨ao, cap, rfl, hm.out.lies fun b hb => hm.out.new b hb⟩, hwr.out⟩

/-- a row that is there from somewhere on is there from anywhere ahead of it on -/
theorem Row.from {N M : Nat} {w : World} {e : Ending} {l : List Int} (h : Row N w e l) (hm : M ≤ N) : Row M w e l := by
  obtain ⟨ao, cap, rfl, hl⟩ := h
  exact ⟨ao, cap, rfl, hl.imp fun b _ hb => Nat.le_trans hm hb⟩

set_option maxRecDepth 100000 in
set_option maxHeartbeats 3200000 in
theorem sstep_at (ds : List De) (body : List St) (gl : List Int) (S Sg : Nat → Prop) (w : World) (P V B : Nat) (gv : Value) (da ba : Option Addr) (dc bc : Nat) (vs : Vs) (ks : Ks) (K : ByteArray → Nat) (hp : Plt w P V B (.slice da ds.length dc) (.slice ba body.length bc) vs ks) (hd : IsDes S w ds (.slice da ds.length dc)) (hs : IsSts S w body (.slice ba body.length bc)) (hS : ∀ c, S c → c < w.heap.size ∧ c ≠ V ∧ c ≠ B) (hg : Giv Sg w gv gl) (hSg : ∀ c, Sg c → c ≠ V ∧ c ≠ B) (hk : KOK K ks) (hf : FitL K body) (hq : QmL body) (hbl : body.length ≤ 1000000) (hl : ds.length ≤ 1000) :
    Calls Tryd.prog 9 #[.pointer (some ⟨P, 0, none⟩), gv] w fun e w' => Row w.heap.size w' e (outS (stepS (ds, body) gl (vs, ks)).1 ds) ∧ Plt w' P V B (.slice da ds.length dc) (.slice ba body.length bc) (stepS (ds, body) gl (vs, ks)).1 (stepS (ds, body) gl (vs, ks)).2 ∧ KM V B w w' := by
  have HTK := hide (stake_at ds gl S Sg w P V B (.slice ba body.length bc) gv da dc vs ks hp hd hS hg hSg hl)
  have HD := hide hd
  have HST := hide hs
  have HS := hide hS
  have HK := hide hk
  have HF := hide hf
  have HQ := hide hq
  have HE : Hid (stepS (ds, body) gl (vs, ks) = doL body (takeS ds gl vs, ks)) := rfl
  rw [HE.out]
  generalize takeS ds gl vs = vs1 at *
  clear hp hd hs hS hg hSg hk hf hq
  go_enter Tryd.func9, Tryd.ntmps9
  go_wp2_with fail
  refine HTK.out.mono ?_
  rintro e w1 ⟨rfl, h1, h2⟩
  have HP1 := hide h1
  have HK1 := hide h2
  clear h1 h2
  have p1 : w1.cell? ⟨P, 1, none⟩ = some (.slice ba body.length bc) := by rw [blk_cell HP1.out.me]; rfl
  have HS1 : Hid (∀ c, S c → c < w1.heap.size ∧ c ≠ V ∧ c ≠ B) := fun c h => ⟨Nat.lt_of_lt_of_le (HS.out c h).1 HK1.out.size, (HS.out c h).2⟩
  have HDO := hide (do_all (depL body) body (Nat.le_refl _) HQ.out S w1 _ P V B (.slice da ds.length dc) (.slice ba body.length bc) vs1 ks K HP1.out (HST.out.same fun c h1 h2 => HK1.out.block c (HS.out c h1).1 (HS.out c h1).2.1 (HS.out c h1).2.2) HS1.out HK.out HF.out hbl)
  go_wp2_with fail
  refine HDO.out.mono ?_
  rintro e w2 ⟨rfl, h1, h2⟩
  have HP2 := hide h1
  have HK2 := hide (HK1.out.trans h2)
  clear h1 h2 p1
  have HOU := hide (sout_at ds S w2 P V B (.slice ba body.length bc) da dc (doL body (vs1, ks)).1 (doL body (vs1, ks)).2 HP2.out (IsRow.same HD.out fun c h1 h2 => HK2.out.block c (HS.out c h1).1 (HS.out c h1).2.1 (HS.out c h1).2.2) hl)
  go_wp2_with fail
  refine HOU.out.mono ?_
  rintro e w3 ⟨hr, hb⟩
  have HP3 := hide (HP2.out.of hb)
  have HK3 := hide (HK2.out.trans (KM.of hb))
  obtain ⟨ao, cap, rfl, hlie⟩ := hr
  have HLI := hide (Lies.imp (T := FromB w.heap.size) hlie fun b _ hb => Nat.le_trans HK2.out.size hb)
  clear hb hlie
  go_wp2_with fail
  go_ret
  exact ⟨⟨ao, cap, rfl, HLI.out⟩, HP3.out, HK3.out⟩

theorem mk_ty (w : World) : (Instr.makeMap 51 none).run Tryd.prog w = .ok (.map (some w.heap.size)) (w.alloc (.map #[] 0)) := by
  simp [Instr.makeMap, go_sem]
theorem mk_bk (w : World) : (Instr.makeMap 52 none).run Tryd.prog w = .ok (.map (some w.heap.size)) (w.alloc (.map #[] 0)) := by
  simp [Instr.makeMap, go_sem]
theorem newS_take : ∀ (l : List De) (i : Nat) (q : Vs × Ks) (h : i < l.length), newS (l.take (i + 1)) q = declS l[i] (newS (l.take i) q)
  | x :: l, 0, q, _ => by simp [newS]
  | x :: l, i + 1, q, h => by
    have := newS_take l i (declS x q) (by simpa using h)
    simp only [List.take_succ_cons, newS, this, List.getElem_cons_succ]
/-- a plant that was made -/
structure Made (w w' : World) (P V B : Nat) (dv bv : Value) (q : Vs × Ks) : Prop where
  at_ : Plt w' P V B dv bv q.1 q.2
  below : Below w.heap.size w w'
  pN : w.heap.size ≤ P
  vN : w.heap.size ≤ V
  bN : w.heap.size ≤ B

set_option maxRecDepth 100000 in
set_option maxHeartbeats 6400000 in
theorem new_at (ds : List De) (body : List St) (S : Nat → Prop) (w : World) (da ba : Option Addr) (dc bc : Nat) (hd : IsDes S w ds (.slice da ds.length dc)) (hs : IsSts S w body (.slice ba body.length bc)) (hl : ds.length ≤ 20) (hd8 : depL body ≤ 8) (hll : body.length ≤ 1000000) (hsm : SmL body) (hok : checkC (ds, body) = .ok ()) :
    Calls Tryd.prog 7 #[.agg #[.slice da ds.length dc, .slice ba body.length bc]] w fun e w' => ∃ P V B, e = .returned (.tuple #[.pointer (some ⟨P, 0, none⟩), .nilIface]) ∧ Made w w' P V B (.slice da ds.length dc) (.slice ba body.length bc) (newS ds ([], [])) := by
  have hb0 := below_alloc w (.cells #[.slice da ds.length dc, .slice ba body.length bc] 27)
  have HN0 := hide (blk_new w (.cells #[.slice da ds.length dc, .slice ba body.length bc] 27))
  have HCK := hide (check_at (ds, body) (by simp only; omega) hd8 hll hsm S (w.alloc (.cells #[.slice da ds.length dc, .slice ba body.length bc] 27)) _ _ (IsRow.same hd fun c _ h => hb0.block c h) (hs.same fun c _ h => hb0.block c h))
  rw [hok] at HCK
  have HD := hide hd
  have HB0 := hide hb0
  clear hd hs hsm hok hb0 hd8 hll
  go_enter Tryd.func7, Tryd.ntmps7
  go_wp2_with fail
  refine HCK.out.mono ?_
  rintro e w1 ⟨hb1, hr1⟩
  have he : e = .returned .nilIface := hr1
  subst he
  have HB1 := hide (Below.step HB0.out hb1)
  have HN1 := hide (Below.blk hb1 HN0.out)
  clear hb1 hr1
  have hm1 := mk_ty
  have hm2 := mk_bk
  have n0 : w1.cell? ⟨w.heap.size, 0, none⟩ = some (.slice da ds.length dc) := by rw [blk_cell HN1.out]; rfl
  have n1 : w1.cell? ⟨w.heap.size, 1, none⟩ = some (.slice ba body.length bc) := by rw [blk_cell HN1.out]; rfl
  have ha := below_alloc w1 (.map #[] 0)
  have hb := below_alloc (w1.alloc (.map #[] 0)) (.map #[] 0)
  have hc := below_alloc ((w1.alloc (.map #[] 0)).alloc (.map #[] 0)) (.cells #[.slice da ds.length dc, .slice ba body.length bc, .map (some w1.heap.size), .map (some (w1.heap.size + 1))] 54)
  have z1 : (w1.alloc (.map #[] 0)).heap.size = w1.heap.size + 1 := by simp
  have z2 : ((w1.alloc (.map #[] 0)).alloc (.map #[] 0)).heap.size = w1.heap.size + 1 + 1 := by simp
  have e1 := Below.blk hc (Below.blk hb (blk_new w1 (.map #[] 0)))
  have e2 := Below.blk hc (blk_new (w1.alloc (.map #[] 0)) (.map #[] 0))
  have e3 := blk_new ((w1.alloc (.map #[] 0)).alloc (.map #[] 0)) (.cells #[.slice da ds.length dc, .slice ba body.length bc, .map (some w1.heap.size), .map (some (w1.heap.size + 1))] 54)
  rw [z1] at e2
  rw [z2] at e3
  have HPL : Hid (Plt (((w1.alloc (.map #[] 0)).alloc (.map #[] 0)).alloc (.cells #[.slice da ds.length dc, .slice ba body.length bc, .map (some w1.heap.size), .map (some (w1.heap.size + 1))] 54)) (w1.heap.size + 1 + 1) w1.heap.size (w1.heap.size + 1) (.slice da ds.length dc) (.slice ba body.length bc) [] []) := ⟨e3, e1, e2, by omega⟩
  have HB3 : Hid (Below w.heap.size w (((w1.alloc (.map #[] 0)).alloc (.map #[] 0)).alloc (.cells #[.slice da ds.length dc, .slice ba body.length bc, .map (some w1.heap.size), .map (some (w1.heap.size + 1))] 54))) := Below.step HB1.out (Below.step ha (Below.step hb hc))
  have HN3 := hide (Below.blk (Below.step ha (Below.step hb hc)) HN1.out)
  have n3 : (((w1.alloc (.map #[] 0)).alloc (.map #[] 0)).alloc (.cells #[.slice da ds.length dc, .slice ba body.length bc, .map (some w1.heap.size), .map (some (w1.heap.size + 1))] 54)).cell? ⟨w.heap.size, 0, none⟩ = some (.slice da ds.length dc) := by rw [blk_cell HN3.out]; rfl
  have HZ : Hid (w.heap.size ≤ w1.heap.size ∧ w.heap.size < w1.heap.size) := ⟨HB1.out.size, blk_lt HN1.out⟩
  clear ha hb hc e1 e2 e3 z1 z2
  go_wp2_with fail
  clear n0 n1 n3 hm1 hm2
  generalize (((w1.alloc (.map #[] 0)).alloc (.map #[] 0)).alloc (.cells #[.slice da ds.length dc, .slice ba body.length bc, .map (some w1.heap.size), .map (some (w1.heap.size + 1))] 54)) = w3 at *
  generalize w1.heap.size = V at *
  have HST : Hid (V < w3.heap.size ∧ V + 1 < w3.heap.size ∧ V + 1 + 1 < w3.heap.size) := ⟨blk_lt (show w3.heap[V]? = some _ from HPL.out.vals), blk_lt (show w3.heap[V + 1]? = some _ from HPL.out.blks), blk_lt HPL.out.me⟩
  go_loopw [7, 21] (fun _ i wr => ∃ j : Nat, j ≤ ds.length ∧ i = .int .i64 j ∧ Hid (Plt wr (V + 1 + 1) V (V + 1) (.slice da ds.length dc) (.slice ba body.length bc) (newS (ds.take j) ([], [])).1 (newS (ds.take j) ([], [])).2) ∧ Hid (KM V (V + 1) w3 wr)) (fun _ i _ => ds.length - (intOf i).toNat)
  case atStart => exact ⟨0, Nat.zero_le _, rfl, HPL, hide (KM.refl _ _ _)⟩
  case round =>
    obtain ⟨j, hj, rfl, hpl, hkm⟩ := hrel
    have HBR : Hid (Below w.heap.size w wr) := HB3.out.trans (hkm.out.below HB3.out.size HZ.out.1 (by have := HZ.out.1; omega))
    by_cases hlt : j < ds.length
    · have hji : (j : Int) < (ds.length : Int) := by omega
      obtain ⟨b, cap', hv, hSb⟩ := de_addr HD.out (by omega)
      obtain ⟨rfl, rfl⟩ : da = some ⟨b, 0, none⟩ ∧ dc = cap' := by cases hv; exact ⟨rfl, rfl⟩
      have HDW : Hid (IsDes S wr ds (.slice (some ⟨b, 0, none⟩) ds.length dc)) := IsRow.same HD.out fun c h1 h2 => HBR.out.block c h2
      have r0 : wr.cell? ⟨b, j * 4, none⟩ = some (.string ds[j].name) := de_cell HDW.out rfl hlt (k := 0) rfl (by decide)
      have r1 : wr.cell? ⟨b, j * 4 + 1, none⟩ = some (.int .i64 ds[j].way) := de_cell HDW.out rfl hlt (k := 1) rfl (by decide)
      have r2 : wr.cell? ⟨b, j * 4 + 2, none⟩ = some (.int .i64 ds[j].ty) := de_cell HDW.out rfl hlt (k := 2) rfl (by decide)
      have r3 : wr.cell? ⟨b, j * 4 + 3, none⟩ = some (.int .i64 ds[j].init) := de_cell HDW.out rfl hlt (k := 3) rfl (by decide)
      have HTK := hide (newS_take ds j ([], []) hlt)
      generalize newS (ds.take j) ([], []) = q at *
      generalize ds[j] = d at *
      have HO := hide (below_alloc wr (.cells #[.string d.name, .int .i64 d.way, .int .i64 d.ty, .int .i64 d.init] 32))
      have HDE := hide (declare_at d (wr.alloc (.cells #[.string d.name, .int .i64 d.way, .int .i64 d.ty, .int .i64 d.init] 32)) (V + 1 + 1) V (V + 1) (.slice (some ⟨b, 0, none⟩) ds.length dc) (.slice ba body.length bc) q.1 q.2 (hpl.out.of HO.out))
      obtain ⟨nm, way, ty, init⟩ := d
      simp only at r0 r1 r2 r3
      clear hv
      go_wp2_with fail
      refine HDE.out.mono ?_
      rintro e w5 ⟨rfl, h1, h2⟩
      have HP5 := hide h1
      have HK5 := hide (hkm.out.trans ((KM.of HO.out).trans h2))
      clear h1 h2 r0 r1 r2 r3
      go_wp2_with fail
      refine ⟨⟨j + 1, by omega, by go_num, ?_, HK5⟩, by simp [intOf]; omega⟩
      rw [HTK.out]
      exact HP5
    · have HJ : Hid (j = ds.length) := (by omega : j = ds.length)
      have HE : Hid (newS (ds.take j) ([], []) = newS ds ([], [])) := by show _ = _; rw [HJ.out, List.take_length]
      rw [HE.out] at hpl
      go_wp2_with fail
      go_ret2
      exact ⟨V + 1 + 1, V, V + 1, rfl, hpl.out, HBR.out, by have := HZ.out.1; omega, HZ.out.1, by have := HZ.out.1; omega⟩
end Go.Proofs.YtiimnnancblbkaaDoor
