/-
 CONTRACT of body of the reference's checker.
-/
import Derived.Test.YtalolaikhloopaaGreatDoorTk
import Derived.Test.YtalolaikhloopaaGreatDoorRChk
import Derived.Test.YtalolaikhloopaaGreatDoorRParts
namespace Go.Proofs.YtalolaikhloopaaGreatDoor
open Go.RowKit
set_option linter.unusedSimpArgs false
set_option linter.unusedVariables false

theorem Ck.bind_assoc {α β γ : Type} (r : Ck α) (f : α → Ck β) (g : β → Ck γ) : (r.bind f).bind g = r.bind fun a => (f a).bind g := by cases r <;> rfl
theorem IsSts.past {S : Nat → Prop} {C : Nat} {w w' : World} {l : List St} {v : Value} (h : IsSts S w l v) (hk : Kept C w w') (hS : ∀ b, S b → b ≠ C) : IsSts S w' l v := h.same fun b h1 h2 => hk.block b h2 (hS b h1)
theorem IsExs.past {S : Nat → Prop} {C : Nat} {w w' : World} {l : List Ex} {v : Value} (h : IsExs S w l v) (hk : Kept C w w') (hS : ∀ b, S b → b ≠ C) : IsExs S w' l v := h.same fun b h1 h2 => hk.block b h2 (hS b h1)
theorem stsC_drop2 (f : Find) (l : List St) (j : Nat) (h : j < l.length) : stsC f (l.drop j) = (stC f l[j]).bind fun _ => stsC f (l.drop (j + 1)) := by rw [List.drop_eq_getElem_cons h, stsC]
theorem argsC_drop2 (f : Find) (l : List Ex) (j : Nat) (h : j < l.length) : argsC f (l.drop j) = (wantC f l[j] 1).bind fun _ => argsC f (l.drop (j + 1)) := by rw [List.drop_eq_getElem_cons h, argsC]
theorem bind_args_nil (f : Find) (r : Ck Unit) : (r.bind fun _ => argsC f []) = r := by cases r <;> simp only [Ck.bind, argsC]
theorem goodL_mem : ∀ {l : List St}, GoodL l → ∀ s ∈ l, GoodSt s
 | s :: l, h, t, ht => by
  simp only [GoodL] at h
  rcases List.mem_cons.1 ht with e | e
  ·rw [e]; exact h.1
  ·exact goodL_mem h.2 t e

def BR (l : List St) : Prop := ∀ (S : Nat → Prop) (w : World) (C M : Nat) (ds : List De) (v : Value) (r : Ck Unit), Cst w C M ds r → IsSts S w l v → (∀ b, S b → b ≠ C) → GoodL l → (∀ d ∈ ds, 1 ≤ d.ty ∧ d.ty ≤ 5) →
 Calls Tryz.prog 75 #[.pointer (some ⟨C, 0, none⟩), v] w (Dn w C M ds (r.bind fun _ => stsC (findC ds) l))

theorem Cst.lt {w : World} {C M : Nat} {ds : List De} : ∀ {r : Ck Unit}, Cst w C M ds r → C < w.heap.size
 | .ok _, h => blk_lt (Cc.me h)
 | .bad _ _, h => blk_lt (Cc.me h)
theorem Cst.me' {w : World} {C M : Nat} {ds : List De} : ∀ {r : Ck Unit}, Cst w C M ds r → ∃ _ : w.heap[M]? = some (.map (entsD 0 ds).toArray ds.length), w.cell? ⟨C, 0, none⟩ = some (.map (some M))
 | .ok _, h => ⟨Cc.map h, by rw [blk_cell (Cc.me h)]; rfl⟩
 | .bad _ _, h => ⟨Cc.map h, by rw [blk_cell (Cc.me h)]; rfl⟩
theorem width_args {dt : Nat} (h : 1 ≤ dt ∧ dt ≤ 5) (hw : widthN dt ≠ 0) : (argsN dt).1 = 0 := by
 rcases (show dt = 1 ∨ dt = 2 ∨ dt = 3 ∨ dt = 4 ∨ dt = 5 by omega) with rfl | rfl | rfl | rfl | rfl
 ·rfl
 ·rfl
 ·exact absurd rfl hw
 ·exact absurd rfl hw
 ·exact absurd rfl hw

set_option maxRecDepth 100000 in
set_option maxHeartbeats 12800000 in
theorem cbody_at (l : List St) (hll : l.length ≤ 1000000) (hsm : ∀ s ∈ l, (argS s).length ≤ 1000000) (ih : ∀ s ∈ l, BR (thenS s) ∧ BR (elseS s)) : BR l := by
 intro S w C M ds v r hr hx hS hg hds
 obtain ⟨cs1, hrow, hall⟩ := hx
 obtain ⟨ao, cap, rfl⟩ := hrow.val
 have HCLT : Hid (C < w.heap.size) := hide hr.lt
 have HROW := hide hrow
 have HALL := hide hall
 have HSM := hide hsm
 have IH := hide ih
 have HSS := hide hS
 have HGL := hide (goodL_mem hg)
 have HDS := hide hds
 have HR0 := hide hr
 clear hr hrow hall hsm ih hS hg hds
 go_enter Tryz.func75, Tryz.ntmps75
 go_wp2_with fail
 go_loopw [12] (fun i wr => ∃ j : Nat, j ≤ l.length ∧ i = .int .i64 j ∧ Hid (∃ r1, Cst wr C M ds r1 ∧ (r.bind fun _ => stsC (findC ds) l) = r1.bind fun _ => stsC (findC ds) (l.drop j)) ∧ Hid (Kept C w wr)) (fun i _ => l.length - (intOf i).toNat)
 case atStart => exact ⟨0, Nat.zero_le _, rfl, hide ⟨r, HR0.out, by simp⟩, hide (Kept.refl _ _)⟩
 case round =>
  obtain ⟨j, hj, rfl, hrj, hkw⟩ := hrel
  obtain ⟨rj, hcj, hej⟩ := hrj.out
  have HCR := hide hcj
  have HEJ := hide hej
  clear hcj hej hrj
  by_cases hlt : j < l.length
  ·have hji : (j : Int) < (l.length : Int) := by omega
   obtain ⟨g, cap', hv, hSg⟩ := qrow_addr HROW.out (by omega)
   obtain ⟨rfl, rfl⟩ : ao = some ⟨g, 0, none⟩ ∧ cap = cap' := by cases hv; exact ⟨rfl, rfl⟩
   obtain ⟨c, hc, hst⟩ := qstl_get HALL.out j hlt
   have HGC : Hid (g ≠ C) := hide (HSS.out g hSg)
   have HCELL : Hid (∀ k u, c[k]? = some u → k < 8 → wr.cell? ⟨g, j * 8 + k, none⟩ = some u) := hide (fun k u hk h8 => by
    have h0 : w.cell? ⟨g, j * 8 + k, none⟩ = some u := qrow_cell HROW.out rfl (by rw [qflat_nth 8 cs1 (qstl_eight HALL.out) j c hc k h8]; exact hk)
    exact hkw.out.cell h0 HGC.out)
   have HSD := hide (stsC_drop2 (findC ds) l j hlt)
   have HMEM := hide (List.getElem_mem hlt)
   have HXM0 := hide (HSM.out _ HMEM.out)
   have HGS := hide (HGL.out _ HMEM.out)
   have HIH := hide (IH.out _ HMEM.out)
   generalize hst0 : l[j] = st at *
   have HST := hide (IsSt.same (w' := wr) (fun b h1 h2 => hkw.out.block b h2 (HSS.out b h1)) st c hst)
   clear hv hc hst hst0 HMEM
   cases st with
   | set p nm x =>
    have hst := HST.out
    simp only [IsSt] at hst
    obtain ⟨a, rfl, hxa⟩ := hst
    obtain ⟨X, rfl⟩ := hxa.ptr
    have HXA := hide hxa
    have hgs := HGS.out
    simp only [GoodSt] at hgs
    have HG : Hid (True ∧ GoodEx x ∧ True) := hide ⟨trivial, hgs.2.1, trivial⟩
    clear hxa hgs HST
    have r0 : wr.cell? ⟨g, j * 8, none⟩ = some (.int .i64 1) := HCELL.out 0 _ rfl (by decide)
    have r1 : wr.cell? ⟨g, j * 8 + 1, none⟩ = some (.int .i64 p) := HCELL.out 1 _ rfl (by decide)
    have r2 : wr.cell? ⟨g, j * 8 + 2, none⟩ = some (.string nm) := HCELL.out 2 _ rfl (by decide)
    have r3 : wr.cell? ⟨g, j * 8 + 3, none⟩ = some (.pointer (some ⟨X, 0, none⟩)) := HCELL.out 3 _ rfl (by decide)
    have r4 : wr.cell? ⟨g, j * 8 + 4, none⟩ = some (.slice none 0 0) := HCELL.out 4 _ rfl (by decide)
    have r5 : wr.cell? ⟨g, j * 8 + 5, none⟩ = some (.int .i64 0) := HCELL.out 5 _ rfl (by decide)
    have r6 : wr.cell? ⟨g, j * 8 + 6, none⟩ = some (.slice none 0 0) := HCELL.out 6 _ rfl (by decide)
    have r7 : wr.cell? ⟨g, j * 8 + 7, none⟩ = some (.slice none 0 0) := HCELL.out 7 _ rfl (by decide)
    have HBt := hide (below_alloc wr (.cells #[.int .i64 1, .int .i64 p, .string nm, .pointer (some ⟨X, 0, none⟩), .slice none 0 0, .int .i64 0, .slice none 0 0, .slice none 0 0] 117))
    have HNt := hide (blk_new wr (.cells #[.int .i64 1, .int .i64 p, .string nm, .pointer (some ⟨X, 0, none⟩), .slice none 0 0, .int .i64 0, .slice none 0 0, .slice none 0 0] 117))
    have HCt := hide (HCR.out.below HBt.out)
    obtain ⟨dd, hdd⟩ : ∃ q, q = gotD ds nm := ⟨_, rfl⟩
    have HDD := hide hdd
    have HLK : Hid (∀ W : World, W.heap[M]? = some (.map (entsD 0 ds).toArray ds.length) → (Instr.lookup 142 (.map (some M)) (.string nm) true).run Tryz.prog W = .ok (.tuple #[deV dd.1, .bool dd.2]) W) := hide fun W hW => by rw [hdd]; exact lookD hW nm
    clear hdd
    obtain ⟨⟨dn, dw, dt, di⟩, dok⟩ := dd
    go_wp2_with fail
    have HTC : Hid (wr.heap.size ≠ C) := hide (by have := HCLT.out; have := hkw.out.size; omega)
    generalize wr.alloc (.cells #[.int .i64 1, .int .i64 p, .string nm, .pointer (some ⟨X, 0, none⟩), .slice none 0 0, .int .i64 0, .slice none 0 0, .slice none 0 0] 117) = wq at *
    generalize hTe : wr.heap.size = T at HNt HTC ⊢
    have HTW : Hid (wr.heap.size ≤ T) := hide (by omega)
    clear hTe
    obtain ⟨mm, hmm⟩ := HCt.out.me'
    have HS : Hid (wq.drew.cell? ⟨C, 0, none⟩ = some (.map (some M)) ∧ wq.drew.cell? ⟨T, 2, none⟩ = some (.string nm) ∧ wq.drew.heap[M]? = some (.map (entsD 0 ds).toArray ds.length)) := hide ⟨hmm, by show wq.cell? _ = _; rw [blk_cell HNt.out]; rfl, mm⟩
    clear mm hmm
    refine wp_region_held_drew (S := fun W => W.cell? ⟨C, 0, none⟩ = some (.map (some M)) ∧ W.cell? ⟨T, 2, none⟩ = some (.string nm) ∧ W.heap[M]? = some (.map (entsD 0 ds).toArray ds.length)) (by kernel_rfl) HS.out (fun _ => ?_)
    refine tkA 0 17 (.pointer (some ⟨C, 0, none⟩)) rfl (by kernel_rfl) (fun _ _ _ h => h) rfl (fun W hS => by go_simp) HS.out ?_
    simp only [pu]
    refine tkA 1 18 (.pointer (some ⟨C, 0, none⟩)) rfl (by kernel_rfl) (fun _ _ _ h => h) rfl (fun W hS => by go_simp) HS.out ?_
    simp only [pu]
    refine tkA 2 19 (.pointer (some ⟨C, 0, none⟩)) rfl (by kernel_rfl) (fun _ _ _ h => h) rfl (fun W hS => by go_simp) HS.out ?_
    simp only [pu]
    refine tkA 3 20 (.map (some M)) rfl (by kernel_rfl) (fun _ _ _ h => h) rfl (fun W hS => by (have h0 := hS.1; go_simp)) HS.out ?_
    simp only [pu]
    refine tkA 4 21 (.pointer (some ⟨T, 2, none⟩)) rfl (by kernel_rfl) (fun _ _ _ h => h) rfl (fun W hS => by go_simp) HS.out ?_
    simp only [pu]
    refine tkA 5 22 (.string nm) rfl (by kernel_rfl) (fun _ _ _ h => h) rfl (fun W hS => by (have h0 := hS.2.1; go_simp)) HS.out ?_
    simp only [pu]
    refine tkA 6 23 (.tuple #[.agg #[.string dn, .int .i64 dw, .int .i64 dt, .int .i64 di], .bool dok]) rfl (by kernel_rfl) (fun _ _ _ h => h) rfl (fun W hS => by (have h0 := HLK.out W hS.2.2; go_simp)) HS.out ?_
    simp only [pu]
    refine tkA 7 16 (.tuple #[.agg #[.string dn, .int .i64 dw, .int .i64 dt, .int .i64 di], .bool dok]) rfl (by kernel_rfl) (fun _ _ _ h => h) rfl (fun W hS => by go_simp) HS.out ?_
    simp only [pu]
    refine tkA 8 24 (.agg #[.string dn, .int .i64 dw, .int .i64 dt, .int .i64 di]) rfl (by kernel_rfl) (fun _ _ _ h => h) rfl (fun W hS => by go_simp) HS.out ?_
    simp only [pu]
    refine tkA 9 25 (.bool dok) rfl (by kernel_rfl) (fun _ _ _ h => h) rfl (fun W hS => by go_simp) HS.out ?_
    simp only [pu]
    refine wpAnyH_ready (rs := [10]) (by kernel_rfl) (by simp) ?_
    refine AllReadyH.cons rfl (fun K hK => ?_) AllReadyH.nil
    go_simp
    have HBa := hide (below_alloc wq (.cells #[.string ⟨#[]⟩, .int .i64 0, .int .i64 0, .int .i64 0] 60))
    have HSa : Hid ((wq.alloc (.cells #[.string ⟨#[]⟩, .int .i64 0, .int .i64 0, .int .i64 0] 60)).drew.cell? ⟨C, 0, none⟩ = some (.map (some M)) ∧ (wq.alloc (.cells #[.string ⟨#[]⟩, .int .i64 0, .int .i64 0, .int .i64 0] 60)).drew.cell? ⟨T, 2, none⟩ = some (.string nm) ∧ (wq.alloc (.cells #[.string ⟨#[]⟩, .int .i64 0, .int .i64 0, .int .i64 0] 60)).drew.heap[M]? = some (.map (entsD 0 ds).toArray ds.length)) := hide ⟨(HBa.out.cell (cell_lt (w := wq) HS.out.1)).trans HS.out.1, (HBa.out.cell (cell_lt (w := wq) HS.out.2.1)).trans HS.out.2.1, Below.blk HBa.out HS.out.2.2⟩
    refine hK.out _ _ HSa.out (fun _ => ?_)
    clear hK K
    have HNa : Hid ((wq.alloc (.cells #[.string ⟨#[]⟩, .int .i64 0, .int .i64 0, .int .i64 0] 60)).drew.heap[wq.heap.size]? = some (.cells #[.string ⟨#[]⟩, .int .i64 0, .int .i64 0, .int .i64 0] 60 (0, 0))) := hide (blk_new wq _)
    have HBb : Hid (Below wq.heap.size wq (wq.alloc (.cells #[.string ⟨#[]⟩, .int .i64 0, .int .i64 0, .int .i64 0] 60)).drew) := hide HBa.out.drew
    have HNE : Hid (wq.heap.size ≠ C ∧ wq.heap.size ≠ T ∧ wq.heap.size ≠ M) := hide ⟨by have := cell_lt (w := wq) HS.out.1; intro e; rw [← e] at this; exact Nat.lt_irrefl _ this, by have := blk_lt HNt.out; intro e; rw [← e] at this; exact Nat.lt_irrefl _ this, by have := blk_lt (w := wq) HS.out.2.2; intro e; rw [← e] at this; exact Nat.lt_irrefl _ this⟩
    generalize (wq.alloc (.cells #[.string ⟨#[]⟩, .int .i64 0, .int .i64 0, .int .i64 0] 60)).drew = wa at *
    generalize hD : wq.heap.size = D at HNa HNE ⊢
    have z0 : wa.cell? ⟨D, 0, none⟩ = some (.string ⟨#[]⟩) := by rw [blk_cell HNa.out]; rfl
    have z1 : wa.cell? ⟨D, 1, none⟩ = some (.int .i64 0) := by rw [blk_cell HNa.out]; rfl
    have z2 : wa.cell? ⟨D, 2, none⟩ = some (.int .i64 0) := by rw [blk_cell HNa.out]; rfl
    have z3 : wa.cell? ⟨D, 3, none⟩ = some (.int .i64 0) := by rw [blk_cell HNa.out]; rfl
    have zf : ∀ i, wa.frozen? ⟨D, i, none⟩ = false := blk_frozen HNa.out
    refine wpAnyH_ready (rs := [11]) (by kernel_rfl) (by simp) ?_
    refine AllReadyH.cons rfl (fun K hK => ?_) AllReadyH.nil
    go_simp
    have hoth : ∀ b, b ≠ D → ((((wa.setCell ⟨D, 0, none⟩ (.string dn)).setCell ⟨D, 1, none⟩ (.int .i64 dw)).setCell ⟨D, 2, none⟩ (.int .i64 dt)).setCell ⟨D, 3, none⟩ (.int .i64 di)).heap[b]? = wa.heap[b]? := fun b hb => (set_other _ 3 _ hb).trans ((set_other _ 2 _ hb).trans ((set_other _ 1 _ hb).trans (set_other _ 0 _ hb)))
    have HSb : Hid (((((wa.setCell ⟨D, 0, none⟩ (.string dn)).setCell ⟨D, 1, none⟩ (.int .i64 dw)).setCell ⟨D, 2, none⟩ (.int .i64 dt)).setCell ⟨D, 3, none⟩ (.int .i64 di)).cell? ⟨C, 0, none⟩ = some (.map (some M)) ∧ ((((wa.setCell ⟨D, 0, none⟩ (.string dn)).setCell ⟨D, 1, none⟩ (.int .i64 dw)).setCell ⟨D, 2, none⟩ (.int .i64 dt)).setCell ⟨D, 3, none⟩ (.int .i64 di)).cell? ⟨T, 2, none⟩ = some (.string nm) ∧ ((((wa.setCell ⟨D, 0, none⟩ (.string dn)).setCell ⟨D, 1, none⟩ (.int .i64 dw)).setCell ⟨D, 2, none⟩ (.int .i64 dt)).setCell ⟨D, 3, none⟩ (.int .i64 di)).heap[M]? = some (.map (entsD 0 ds).toArray ds.length)) := hide ⟨(World.cell?_of_block (hoth C (Ne.symm HNE.out.1))).trans HSa.out.1, (World.cell?_of_block (hoth T (Ne.symm HNE.out.2.1))).trans HSa.out.2.1, (hoth M (Ne.symm HNE.out.2.2)).trans HSa.out.2.2⟩
    have HND : Hid (((((wa.setCell ⟨D, 0, none⟩ (.string dn)).setCell ⟨D, 1, none⟩ (.int .i64 dw)).setCell ⟨D, 2, none⟩ (.int .i64 dt)).setCell ⟨D, 3, none⟩ (.int .i64 di)).heap[D]? = some (.cells #[.string dn, .int .i64 dw, .int .i64 dt, .int .i64 di] 60 (0, 0))) := hide (by rw [blk_set (blk_set (blk_set (blk_set HNa.out 0 _) 1 _) 2 _) 3 _]; simp only [List.setIfInBounds_toArray, List.set_cons_zero, List.set_cons_succ])
    have HBd : Hid (Below wq.heap.size wq ((((wa.setCell ⟨D, 0, none⟩ (.string dn)).setCell ⟨D, 1, none⟩ (.int .i64 dw)).setCell ⟨D, 2, none⟩ (.int .i64 dt)).setCell ⟨D, 3, none⟩ (.int .i64 di))) := hide ((((HBb.out.setCell (by rw [hD]; exact Nat.le_refl _) _).setCell (by rw [hD]; exact Nat.le_refl _) _).setCell (by rw [hD]; exact Nat.le_refl _) _).setCell (by rw [hD]; exact Nat.le_refl _) _)
    refine hK.out _ _ HSb.out (fun _ => ?_)
    clear hK K z0 z1 z2 z3 zf hoth
    generalize (((wa.setCell ⟨D, 0, none⟩ (.string dn)).setCell ⟨D, 1, none⟩ (.int .i64 dw)).setCell ⟨D, 2, none⟩ (.int .i64 dt)).setCell ⟨D, 3, none⟩ (.int .i64 di) = wd at *
    refine tkA 12 7 (.bool dok) rfl (by kernel_rfl) (fun _ _ _ h => h) rfl (fun W hS => by go_simp) HSb.out ?_
    simp only [pu]
    refine wpAnyH_done (by kernel_rfl) ?_ _
    have HCd := hide (HCt.out.below HBd.out)
    have HTd := hide (Below.blk HBd.out HNt.out)
    have HBw : Hid (Below wr.heap.size wr wd) := hide (Below.step HBt.out HBd.out)
    have HDC : Hid (D ≠ C) := hide HNE.out.1
    clear HS HSa HSb HNa HBa HBb HNE hD HNt HCt HLK HBt HBd
    have t0 : wd.cell? ⟨T, 0, none⟩ = some (.int .i64 1) := by rw [blk_cell HTd.out]; rfl
    have t1 : wd.cell? ⟨T, 1, none⟩ = some (.int .i64 p) := by rw [blk_cell HTd.out]; rfl
    have d1 : wd.cell? ⟨D, 1, none⟩ = some (.int .i64 dw) := by rw [blk_cell HND.out]; rfl
    have d2 : wd.cell? ⟨D, 2, none⟩ = some (.int .i64 dt) := by rw [blk_cell HND.out]; rfl
    have t4d : wd.cell? ⟨T, 4, none⟩ = some (.slice none 0 0) := by rw [blk_cell HTd.out]; rfl
    have t5d : wd.cell? ⟨T, 5, none⟩ = some (.int .i64 0) := by rw [blk_cell HTd.out]; rfl
    have HNW := HND
    have HKd : Hid (Kept C wr wd) := hide (Kept.of HBw.out)
    clear r0 r1 r2 r3 r4 r5 r6 r7
    cases dok with
    | false =>
     have HF : Hid (findC ds nm = none) := hide (got_none HDD.out).1
     clear d1 d2 t4d t5d
     go_wp2_with fail
     refine (cfails_at 7 p HCd.out).mono ?_
     rintro e w4 ⟨rfl, hc4, hk4⟩
     have HC4 := hide hc4
     have HK4 : Hid (Kept C wr w4) := hide (HKd.out.trans hk4)
     have HT4 := hide (hk4.blk HTd.out HTC.out)
     have HN4 := hide (hk4.blk HNW.out HDC.out)
     clear hc4 hk4
     clear t0 t1
     have s0 : w4.cell? ⟨T, 0, none⟩ = some (.int .i64 1) := by rw [blk_cell HT4.out]; rfl
     have s3 : w4.cell? ⟨T, 3, none⟩ = some (.pointer (some ⟨X, 0, none⟩)) := by rw [blk_cell HT4.out]; rfl
     have e2 : w4.cell? ⟨D, 2, none⟩ = some (.int .i64 dt) := by rw [blk_cell HN4.out]; rfl
     go_wp2_with fail
     refine (cmust_at x dt S w4 C M ds _ _ HC4.out (HXA.out.past HK4.out HSS.out) HSS.out HG.out.2.1).mono ?_
     rintro e w5 ⟨rfl, hc5, hk5⟩
     have HC5 := hide hc5
     have HK5 : Hid (Kept C wr w5) := hide (HK4.out.trans hk5)
     have HT5 := hide (hk5.blk HT4.out HTC.out)
     clear hc5 hk5 s0 s3 e2
     obtain ⟨xs, hxs⟩ : ∃ xs : List Ex, xs = [] := ⟨_, rfl⟩
     have HXM : Hid (xs.length ≤ 1000000) := hide (by rw [hxs]; simp)
     have HXS : Hid (∀ W, Kept C wr W → IsExs S W xs (.slice none xs.length 0)) := hide fun W _ => by rw [hxs]; exact IsExs.nil S W
     have HGXS : Hid (∀ y ∈ xs, GoodEx y) := hide (by rw [hxs]; intro y hy; cases hy)
     have HQ0 : Hid (Ck.bind ((rj.bind fun _ => (.bad 7 p : Ck Unit)).bind fun _ => wantC (findC ds) x dt) (fun _ => argsC (findC ds) xs) = rj.bind fun _ => stC (findC ds) (.set p nm x)) := hide (by rw [hxs]; cases rj <;> simp only [Ck.bind, stC, setC, declC, HF.out, argsC])
     have HT9 : Hid (w5.heap[T]? = some (.cells #[.int .i64 1, .int .i64 p, .string nm, .pointer (some ⟨X, 0, none⟩), .slice none xs.length 0, .int .i64 0, .slice none 0 0, .slice none 0 0] 117 (0, 0))) := hide (by rw [hxs]; exact HT5.out)
     clear hxs
     have HTL := hide (HT9.out)
     have HKL := hide (HK5.out)
     have t4 : w5.cell? ⟨T, 4, none⟩ = some (.slice none xs.length 0) := by rw [blk_cell HTL.out]; rfl
     have HRL : Hid (∃ r1, Cst w5 C M ds r1 ∧ r1.bind (fun _ => argsC (findC ds) xs) = rj.bind fun _ => stC (findC ds) (.set p nm x)) := hide ⟨_, HC5.out, HQ0.out⟩
     generalize w5 = wL at *
     go_wp2_with fail
     go_loopw [115] (fun i wk => ∃ k : Nat, k ≤ xs.length ∧ i = .int .i64 k ∧ Hid (∃ r1, Cst wk C M ds r1 ∧ r1.bind (fun _ => argsC (findC ds) (xs.drop k)) = rj.bind fun _ => stC (findC ds) (.set p nm x)) ∧ Hid (Kept C wL wk)) (fun i _ => xs.length - (intOf i).toNat)
     case atStart => exact ⟨0, Nat.zero_le _, rfl, HRL, hide (Kept.refl _ _)⟩
     case round =>
      obtain ⟨k, hk, rfl, hrk, hkk⟩ := hrel
      obtain ⟨r1, hc1, he1⟩ := hrk.out
      have HR1 := hide hc1
      have HE1 := hide he1
      clear hc1 he1
      have hxm : xs.length ≤ 1000000 := HXM.out
      by_cases hlk : k < xs.length
      ·have hki : (k : Int) < (xs.length : Int) := by omega
       have HKA := hide (HKL.out.trans hkk.out)
       obtain ⟨vs, hrow, hall⟩ := HXS.out _ HKA.out
       obtain ⟨gx, cx, hvx, hSg⟩ := qrow_addr hrow (by omega)
       exact absurd hvx (by simp)
      ·have HJK : Hid (k = xs.length) := (by omega : k = xs.length)
       have HRE : Hid (∃ r2, Cst _ C M ds r2 ∧ (r.bind fun _ => stsC (findC ds) l) = r2.bind fun _ => stsC (findC ds) (l.drop (j + 1))) := hide ⟨r1, HR1.out, by
        have h1 := HE1.out
        rw [HJK.out, List.drop_length] at h1
        have h2 : r1 = rj.bind fun _ => stC (findC ds) (.set p nm x) := by rw [← h1]; cases r1 <;> rfl
        rw [HEJ.out, HSD.out, h2, Ck.bind_assoc]⟩
       have HKE := hide (hkw.out.trans (HKL.out.trans hkk.out))
       go_wp2_with fail
       first
        | exact ⟨⟨j + 1, by omega, by go_num, HRE, HKE⟩, by simp [intOf]; omega⟩
        | (refine ⟨?_, by simp [intOf]; omega⟩; (repeat apply Exists.intro); exact ⟨⟨j + 1, by omega, by go_num, HRE, HKE⟩, rfl⟩)
    | true =>
     have HF : Hid (findC ds nm = some ⟨dn, dw, dt, di⟩) := hide (got_yes HDD.out)
     have HWI := hide (fun n => rwidth_at dt (wd.drewN n))
     by_cases hw0 : widthN dt = 0
     ·rw [hw0] at HWI
      have HW0 := hide hw0
      clear hw0
      go_wp2_with fail
      go_quiet ((go_at_call 102; exact Calls.quiet_of_same (HWI.out _)))
      have HBq := hide (show Below wd.heap.size wd (wd.drewN nq) from ⟨rfl, rfl, rfl, Nat.le_refl _, fun _ _ => rfl⟩)
      have HCq := hide (HCd.out.below HBq.out)
      have HTq := hide (Below.blk HBq.out HTd.out)
      have HKq := hide (HKd.out.trans (Kept.of (R := C) HBq.out))
      have HNW := hide (Below.blk HBq.out HND.out)
      have q1 : (wd.drewN nq).cell? ⟨T, 1, none⟩ = some (.int .i64 p) := t1
      generalize wd.drewN nq = wx at *
      clear t0 t1 d1 d2 t4d t5d
      go_wp2_with fail
      refine (cfails_at 1 p HCq.out).mono ?_
      rintro e w4 ⟨rfl, hc4, hk4⟩
      have HC4 := hide hc4
      have HK4 : Hid (Kept C wr w4) := hide (HKq.out.trans hk4)
      have HT4 := hide (hk4.blk HTq.out HTC.out)
      have HN4 := hide (hk4.blk HNW.out HDC.out)
      clear hc4 hk4
      clear q1
      have s0 : w4.cell? ⟨T, 0, none⟩ = some (.int .i64 1) := by rw [blk_cell HT4.out]; rfl
      have s3 : w4.cell? ⟨T, 3, none⟩ = some (.pointer (some ⟨X, 0, none⟩)) := by rw [blk_cell HT4.out]; rfl
      have e2 : w4.cell? ⟨D, 2, none⟩ = some (.int .i64 dt) := by rw [blk_cell HN4.out]; rfl
      go_wp2_with fail
      refine (cmust_at x dt S w4 C M ds _ _ HC4.out (HXA.out.past HK4.out HSS.out) HSS.out HG.out.2.1).mono ?_
      rintro e w5 ⟨rfl, hc5, hk5⟩
      have HC5 := hide hc5
      have HK5 : Hid (Kept C wr w5) := hide (HK4.out.trans hk5)
      have HT5 := hide (hk5.blk HT4.out HTC.out)
      clear hc5 hk5 s0 s3 e2
      obtain ⟨xs, hxs⟩ : ∃ xs : List Ex, xs = [] := ⟨_, rfl⟩
      have HXM : Hid (xs.length ≤ 1000000) := hide (by rw [hxs]; simp)
      have HXS : Hid (∀ W, Kept C wr W → IsExs S W xs (.slice none xs.length 0)) := hide fun W _ => by rw [hxs]; exact IsExs.nil S W
      have HGXS : Hid (∀ y ∈ xs, GoodEx y) := hide (by rw [hxs]; intro y hy; cases hy)
      have HQ0 : Hid (Ck.bind ((rj.bind fun _ => (.bad 1 p : Ck Unit)).bind fun _ => wantC (findC ds) x dt) (fun _ => argsC (findC ds) xs) = rj.bind fun _ => stC (findC ds) (.set p nm x)) := hide (by rw [hxs]; cases rj <;> simp only [Ck.bind, stC, setC, declC, HF.out, HW0.out, if_true, argsC])
      have HT9 : Hid (w5.heap[T]? = some (.cells #[.int .i64 1, .int .i64 p, .string nm, .pointer (some ⟨X, 0, none⟩), .slice none xs.length 0, .int .i64 0, .slice none 0 0, .slice none 0 0] 117 (0, 0))) := hide (by rw [hxs]; exact HT5.out)
      clear hxs
      have HTL := hide (HT9.out)
      have HKL := hide (HK5.out)
      have t4 : w5.cell? ⟨T, 4, none⟩ = some (.slice none xs.length 0) := by rw [blk_cell HTL.out]; rfl
      have HRL : Hid (∃ r1, Cst w5 C M ds r1 ∧ r1.bind (fun _ => argsC (findC ds) xs) = rj.bind fun _ => stC (findC ds) (.set p nm x)) := hide ⟨_, HC5.out, HQ0.out⟩
      generalize w5 = wL at *
      go_wp2_with fail
      go_loopw [115] (fun i wk => ∃ k : Nat, k ≤ xs.length ∧ i = .int .i64 k ∧ Hid (∃ r1, Cst wk C M ds r1 ∧ r1.bind (fun _ => argsC (findC ds) (xs.drop k)) = rj.bind fun _ => stC (findC ds) (.set p nm x)) ∧ Hid (Kept C wL wk)) (fun i _ => xs.length - (intOf i).toNat)
      case atStart => exact ⟨0, Nat.zero_le _, rfl, HRL, hide (Kept.refl _ _)⟩
      case round =>
       obtain ⟨k, hk, rfl, hrk, hkk⟩ := hrel
       obtain ⟨r1, hc1, he1⟩ := hrk.out
       have HR1 := hide hc1
       have HE1 := hide he1
       clear hc1 he1
       have hxm : xs.length ≤ 1000000 := HXM.out
       by_cases hlk : k < xs.length
       ·have hki : (k : Int) < (xs.length : Int) := by omega
        have HKA := hide (HKL.out.trans hkk.out)
        obtain ⟨vs, hrow, hall⟩ := HXS.out _ HKA.out
        obtain ⟨gx, cx, hvx, hSg⟩ := qrow_addr hrow (by omega)
        exact absurd hvx (by simp)
       ·have HJK : Hid (k = xs.length) := (by omega : k = xs.length)
        have HRE : Hid (∃ r2, Cst _ C M ds r2 ∧ (r.bind fun _ => stsC (findC ds) l) = r2.bind fun _ => stsC (findC ds) (l.drop (j + 1))) := hide ⟨r1, HR1.out, by
         have h1 := HE1.out
         rw [HJK.out, List.drop_length] at h1
         have h2 : r1 = rj.bind fun _ => stC (findC ds) (.set p nm x) := by rw [← h1]; cases r1 <;> rfl
         rw [HEJ.out, HSD.out, h2, Ck.bind_assoc]⟩
        have HKE := hide (hkw.out.trans (HKL.out.trans hkk.out))
        go_wp2_with fail
        first
         | exact ⟨⟨j + 1, by omega, by go_num, HRE, HKE⟩, by simp [intOf]; omega⟩
         | (refine ⟨?_, by simp [intOf]; omega⟩; (repeat apply Exists.intro); exact ⟨⟨j + 1, by omega, by go_num, HRE, HKE⟩, rfl⟩)
     ·have HW0 := hide hw0
      have hwi : (0 : Int) < ((widthN dt : Nat) : Int) := by omega
      have hwn : 0 < widthN dt := by omega
      generalize widthN dt = wt at HWI hwi hwn
      clear hw0
      go_wp2_with fail
      go_quiet ((go_at_call 102; exact Calls.quiet_of_same (HWI.out _)))
      have HBq := hide (show Below wd.heap.size wd (wd.drewN nq) from ⟨rfl, rfl, rfl, Nat.le_refl _, fun _ _ => rfl⟩)
      have HCq := hide (HCd.out.below HBq.out)
      have HTq := hide (Below.blk HBq.out HTd.out)
      have HKq := hide (HKd.out.trans (Kept.of (R := C) HBq.out))
      have HNW := hide (Below.blk HBq.out HND.out)
      have q0 : (wd.drewN nq).cell? ⟨T, 0, none⟩ = some (.int .i64 1) := t0
      have q1 : (wd.drewN nq).cell? ⟨T, 1, none⟩ = some (.int .i64 p) := t1
      have f1 : (wd.drewN nq).cell? ⟨D, 1, none⟩ = some (.int .i64 dw) := d1
      generalize wd.drewN nq = wx at *
      clear t0 t1 d1 d2 t4d t5d HWI
      by_cases hin : dw = 1
      ·subst hin
       go_wp2_with fail
       refine (cfails_at 6 p HCq.out).mono ?_
       rintro e w4 ⟨rfl, hc4, hk4⟩
       have HC4 := hide hc4
       have HK4 : Hid (Kept C wr w4) := hide (HKq.out.trans hk4)
       have HT4 := hide (hk4.blk HTq.out HTC.out)
       have HN4 := hide (hk4.blk HNW.out HDC.out)
       clear hc4 hk4
       clear q0 q1 f1
       have s0 : w4.cell? ⟨T, 0, none⟩ = some (.int .i64 1) := by rw [blk_cell HT4.out]; rfl
       have s3 : w4.cell? ⟨T, 3, none⟩ = some (.pointer (some ⟨X, 0, none⟩)) := by rw [blk_cell HT4.out]; rfl
       have e2 : w4.cell? ⟨D, 2, none⟩ = some (.int .i64 dt) := by rw [blk_cell HN4.out]; rfl
       go_wp2_with fail
       refine (cmust_at x dt S w4 C M ds _ _ HC4.out (HXA.out.past HK4.out HSS.out) HSS.out HG.out.2.1).mono ?_
       rintro e w5 ⟨rfl, hc5, hk5⟩
       have HC5 := hide hc5
       have HK5 : Hid (Kept C wr w5) := hide (HK4.out.trans hk5)
       have HT5 := hide (hk5.blk HT4.out HTC.out)
       clear hc5 hk5 s0 s3 e2
       obtain ⟨xs, hxs⟩ : ∃ xs : List Ex, xs = [] := ⟨_, rfl⟩
       have HXM : Hid (xs.length ≤ 1000000) := hide (by rw [hxs]; simp)
       have HXS : Hid (∀ W, Kept C wr W → IsExs S W xs (.slice none xs.length 0)) := hide fun W _ => by rw [hxs]; exact IsExs.nil S W
       have HGXS : Hid (∀ y ∈ xs, GoodEx y) := hide (by rw [hxs]; intro y hy; cases hy)
       have HQ0 : Hid (Ck.bind ((rj.bind fun _ => (.bad 6 p : Ck Unit)).bind fun _ => wantC (findC ds) x dt) (fun _ => argsC (findC ds) xs) = rj.bind fun _ => stC (findC ds) (.set p nm x)) := hide (by rw [hxs]; cases rj <;> simp only [Ck.bind, stC, setC, declC, HF.out, HW0.out, if_true, if_false, argsC])
       have HT9 : Hid (w5.heap[T]? = some (.cells #[.int .i64 1, .int .i64 p, .string nm, .pointer (some ⟨X, 0, none⟩), .slice none xs.length 0, .int .i64 0, .slice none 0 0, .slice none 0 0] 117 (0, 0))) := hide (by rw [hxs]; exact HT5.out)
       clear hxs
       have HTL := hide (HT9.out)
       have HKL := hide (HK5.out)
       have t4 : w5.cell? ⟨T, 4, none⟩ = some (.slice none xs.length 0) := by rw [blk_cell HTL.out]; rfl
       have HRL : Hid (∃ r1, Cst w5 C M ds r1 ∧ r1.bind (fun _ => argsC (findC ds) xs) = rj.bind fun _ => stC (findC ds) (.set p nm x)) := hide ⟨_, HC5.out, HQ0.out⟩
       generalize w5 = wL at *
       go_wp2_with fail
       go_loopw [115] (fun i wk => ∃ k : Nat, k ≤ xs.length ∧ i = .int .i64 k ∧ Hid (∃ r1, Cst wk C M ds r1 ∧ r1.bind (fun _ => argsC (findC ds) (xs.drop k)) = rj.bind fun _ => stC (findC ds) (.set p nm x)) ∧ Hid (Kept C wL wk)) (fun i _ => xs.length - (intOf i).toNat)
       case atStart => exact ⟨0, Nat.zero_le _, rfl, HRL, hide (Kept.refl _ _)⟩
       case round =>
        obtain ⟨k, hk, rfl, hrk, hkk⟩ := hrel
        obtain ⟨r1, hc1, he1⟩ := hrk.out
        have HR1 := hide hc1
        have HE1 := hide he1
        clear hc1 he1
        have hxm : xs.length ≤ 1000000 := HXM.out
        by_cases hlk : k < xs.length
        ·have hki : (k : Int) < (xs.length : Int) := by omega
         have HKA := hide (HKL.out.trans hkk.out)
         obtain ⟨vs, hrow, hall⟩ := HXS.out _ HKA.out
         obtain ⟨gx, cx, hvx, hSg⟩ := qrow_addr hrow (by omega)
         exact absurd hvx (by simp)
        ·have HJK : Hid (k = xs.length) := (by omega : k = xs.length)
         have HRE : Hid (∃ r2, Cst _ C M ds r2 ∧ (r.bind fun _ => stsC (findC ds) l) = r2.bind fun _ => stsC (findC ds) (l.drop (j + 1))) := hide ⟨r1, HR1.out, by
          have h1 := HE1.out
          rw [HJK.out, List.drop_length] at h1
          have h2 : r1 = rj.bind fun _ => stC (findC ds) (.set p nm x) := by rw [← h1]; cases r1 <;> rfl
          rw [HEJ.out, HSD.out, h2, Ck.bind_assoc]⟩
         have HKE := hide (hkw.out.trans (HKL.out.trans hkk.out))
         go_wp2_with fail
         first
          | exact ⟨⟨j + 1, by omega, by go_num, HRE, HKE⟩, by simp [intOf]; omega⟩
          | (refine ⟨?_, by simp [intOf]; omega⟩; (repeat apply Exists.intro); exact ⟨⟨j + 1, by omega, by go_num, HRE, HKE⟩, rfl⟩)
      ·have hini : ((dw : Int) == 1) = false := by rw [beq_eq_false_iff_ne]; omega
       have HIN := hide hin
       clear hin
       go_wp2_with fail
       go_quiet (fail)
       have HBr := hide (show Below wx.heap.size wx (wx.drewN nq) from ⟨rfl, rfl, rfl, Nat.le_refl _, fun _ _ => rfl⟩)
       have HCr := hide (HCq.out.below HBr.out)
       have HTr := hide (Below.blk HBr.out HTq.out)
       have HKr := hide (HKq.out.trans (Kept.of (R := C) HBr.out))
       have HNr := hide (Below.blk HBr.out HNW.out)
       generalize wx.drewN nq = wy at *
       clear q0 q1 f1
       have s0 : wy.cell? ⟨T, 0, none⟩ = some (.int .i64 1) := by rw [blk_cell HTr.out]; rfl
       have s3 : wy.cell? ⟨T, 3, none⟩ = some (.pointer (some ⟨X, 0, none⟩)) := by rw [blk_cell HTr.out]; rfl
       have e2 : wy.cell? ⟨D, 2, none⟩ = some (.int .i64 dt) := by rw [blk_cell HNr.out]; rfl
       go_wp2_with fail
       refine (cmust_at x dt S wy C M ds _ _ HCr.out (HXA.out.past HKr.out HSS.out) HSS.out HG.out.2.1).mono ?_
       rintro e w5 ⟨rfl, hc5, hk5⟩
       have HC5 := hide hc5
       have HK5 : Hid (Kept C wr w5) := hide (HKr.out.trans hk5)
       have HT5 := hide (hk5.blk HTr.out HTC.out)
       clear hc5 hk5 s0 s3 e2
       obtain ⟨xs, hxs⟩ : ∃ xs : List Ex, xs = [] := ⟨_, rfl⟩
       have HXM : Hid (xs.length ≤ 1000000) := hide (by rw [hxs]; simp)
       have HXS : Hid (∀ W, Kept C wr W → IsExs S W xs (.slice none xs.length 0)) := hide fun W _ => by rw [hxs]; exact IsExs.nil S W
       have HGXS : Hid (∀ y ∈ xs, GoodEx y) := hide (by rw [hxs]; intro y hy; cases hy)
       have HQ0 : Hid (Ck.bind ((rj).bind fun _ => wantC (findC ds) x dt) (fun _ => argsC (findC ds) xs) = rj.bind fun _ => stC (findC ds) (.set p nm x)) := hide (by rw [hxs]; rw [bind_args_nil]; cases rj <;> simp only [Ck.bind, stC, setC, declC, HF.out, HW0.out, HIN.out, if_false])
       have HT9 : Hid (w5.heap[T]? = some (.cells #[.int .i64 1, .int .i64 p, .string nm, .pointer (some ⟨X, 0, none⟩), .slice none xs.length 0, .int .i64 0, .slice none 0 0, .slice none 0 0] 117 (0, 0))) := hide (by rw [hxs]; exact HT5.out)
       clear hxs
       have HTL := hide (HT9.out)
       have HKL := hide (HK5.out)
       have t4 : w5.cell? ⟨T, 4, none⟩ = some (.slice none xs.length 0) := by rw [blk_cell HTL.out]; rfl
       have HRL : Hid (∃ r1, Cst w5 C M ds r1 ∧ r1.bind (fun _ => argsC (findC ds) xs) = rj.bind fun _ => stC (findC ds) (.set p nm x)) := hide ⟨_, HC5.out, HQ0.out⟩
       generalize w5 = wL at *
       go_wp2_with fail
       go_loopw [115] (fun i wk => ∃ k : Nat, k ≤ xs.length ∧ i = .int .i64 k ∧ Hid (∃ r1, Cst wk C M ds r1 ∧ r1.bind (fun _ => argsC (findC ds) (xs.drop k)) = rj.bind fun _ => stC (findC ds) (.set p nm x)) ∧ Hid (Kept C wL wk)) (fun i _ => xs.length - (intOf i).toNat)
       case atStart => exact ⟨0, Nat.zero_le _, rfl, HRL, hide (Kept.refl _ _)⟩
       case round =>
        obtain ⟨k, hk, rfl, hrk, hkk⟩ := hrel
        obtain ⟨r1, hc1, he1⟩ := hrk.out
        have HR1 := hide hc1
        have HE1 := hide he1
        clear hc1 he1
        have hxm : xs.length ≤ 1000000 := HXM.out
        by_cases hlk : k < xs.length
        ·have hki : (k : Int) < (xs.length : Int) := by omega
         have HKA := hide (HKL.out.trans hkk.out)
         obtain ⟨vs, hrow, hall⟩ := HXS.out _ HKA.out
         obtain ⟨gx, cx, hvx, hSg⟩ := qrow_addr hrow (by omega)
         exact absurd hvx (by simp)
        ·have HJK : Hid (k = xs.length) := (by omega : k = xs.length)
         have HRE : Hid (∃ r2, Cst _ C M ds r2 ∧ (r.bind fun _ => stsC (findC ds) l) = r2.bind fun _ => stsC (findC ds) (l.drop (j + 1))) := hide ⟨r1, HR1.out, by
          have h1 := HE1.out
          rw [HJK.out, List.drop_length] at h1
          have h2 : r1 = rj.bind fun _ => stC (findC ds) (.set p nm x) := by rw [← h1]; cases r1 <;> rfl
          rw [HEJ.out, HSD.out, h2, Ck.bind_assoc]⟩
         have HKE := hide (hkw.out.trans (HKL.out.trans hkk.out))
         go_wp2_with fail
         first
          | exact ⟨⟨j + 1, by omega, by go_num, HRE, HKE⟩, by simp [intOf]; omega⟩
          | (refine ⟨?_, by simp [intOf]; omega⟩; (repeat apply Exists.intro); exact ⟨⟨j + 1, by omega, by go_num, HRE, HKE⟩, rfl⟩)
   | call p nm xs nn =>
    have hst := HST.out
    simp only [IsSt] at hst
    obtain ⟨a, rfl, hxa⟩ := hst
    obtain ⟨xo, xc, rfl⟩ := (show ∃ (x : Option Addr) (c : Nat), a = .slice x xs.length c from by obtain ⟨vs, hr, _⟩ := hxa; exact hr.val)
    have HXS : Hid (∀ W, Kept C wr W → IsExs S W xs (.slice xo xs.length xc)) := hide fun W hk => hxa.past hk HSS.out
    have hgs := HGS.out
    simp only [GoodSt] at hgs
    have HGXS : Hid (∀ y ∈ xs, GoodEx y) := hide fun y hy => (hgs.2.1 y hy).1
    have HXM : Hid (xs.length ≤ 1000000) := HXM0
    clear hxa hgs HST
    have r0 : wr.cell? ⟨g, j * 8, none⟩ = some (.int .i64 3) := HCELL.out 0 _ rfl (by decide)
    have r1 : wr.cell? ⟨g, j * 8 + 1, none⟩ = some (.int .i64 p) := HCELL.out 1 _ rfl (by decide)
    have r2 : wr.cell? ⟨g, j * 8 + 2, none⟩ = some (.string nm) := HCELL.out 2 _ rfl (by decide)
    have r3 : wr.cell? ⟨g, j * 8 + 3, none⟩ = some (.pointer none) := HCELL.out 3 _ rfl (by decide)
    have r4 : wr.cell? ⟨g, j * 8 + 4, none⟩ = some (.slice xo xs.length xc) := HCELL.out 4 _ rfl (by decide)
    have r5 : wr.cell? ⟨g, j * 8 + 5, none⟩ = some (.int .i64 nn) := HCELL.out 5 _ rfl (by decide)
    have r6 : wr.cell? ⟨g, j * 8 + 6, none⟩ = some (.slice none 0 0) := HCELL.out 6 _ rfl (by decide)
    have r7 : wr.cell? ⟨g, j * 8 + 7, none⟩ = some (.slice none 0 0) := HCELL.out 7 _ rfl (by decide)
    have HBt := hide (below_alloc wr (.cells #[.int .i64 3, .int .i64 p, .string nm, .pointer none, .slice xo xs.length xc, .int .i64 nn, .slice none 0 0, .slice none 0 0] 117))
    have HNt := hide (blk_new wr (.cells #[.int .i64 3, .int .i64 p, .string nm, .pointer none, .slice xo xs.length xc, .int .i64 nn, .slice none 0 0, .slice none 0 0] 117))
    have HCt := hide (HCR.out.below HBt.out)
    obtain ⟨dd, hdd⟩ : ∃ q, q = gotD ds nm := ⟨_, rfl⟩
    have HDD := hide hdd
    have HLK : Hid (∀ W : World, W.heap[M]? = some (.map (entsD 0 ds).toArray ds.length) → (Instr.lookup 142 (.map (some M)) (.string nm) true).run Tryz.prog W = .ok (.tuple #[deV dd.1, .bool dd.2]) W) := hide fun W hW => by rw [hdd]; exact lookD hW nm
    clear hdd
    obtain ⟨⟨dn, dw, dt, di⟩, dok⟩ := dd
    go_wp2_with fail
    have HTC : Hid (wr.heap.size ≠ C) := hide (by have := HCLT.out; have := hkw.out.size; omega)
    generalize wr.alloc (.cells #[.int .i64 3, .int .i64 p, .string nm, .pointer none, .slice xo xs.length xc, .int .i64 nn, .slice none 0 0, .slice none 0 0] 117) = wq at *
    generalize hTe : wr.heap.size = T at HNt HTC ⊢
    have HTW : Hid (wr.heap.size ≤ T) := hide (by omega)
    clear hTe
    obtain ⟨mm, hmm⟩ := HCt.out.me'
    have HS : Hid (wq.drew.cell? ⟨C, 0, none⟩ = some (.map (some M)) ∧ wq.drew.cell? ⟨T, 2, none⟩ = some (.string nm) ∧ wq.drew.heap[M]? = some (.map (entsD 0 ds).toArray ds.length)) := hide ⟨hmm, by show wq.cell? _ = _; rw [blk_cell HNt.out]; rfl, mm⟩
    clear mm hmm
    refine wp_region_held_drew (S := fun W => W.cell? ⟨C, 0, none⟩ = some (.map (some M)) ∧ W.cell? ⟨T, 2, none⟩ = some (.string nm) ∧ W.heap[M]? = some (.map (entsD 0 ds).toArray ds.length)) (by kernel_rfl) HS.out (fun _ => ?_)
    refine tkA 0 17 (.pointer (some ⟨C, 0, none⟩)) rfl (by kernel_rfl) (fun _ _ _ h => h) rfl (fun W hS => by go_simp) HS.out ?_
    simp only [pu]
    refine tkA 1 18 (.pointer (some ⟨C, 0, none⟩)) rfl (by kernel_rfl) (fun _ _ _ h => h) rfl (fun W hS => by go_simp) HS.out ?_
    simp only [pu]
    refine tkA 2 19 (.pointer (some ⟨C, 0, none⟩)) rfl (by kernel_rfl) (fun _ _ _ h => h) rfl (fun W hS => by go_simp) HS.out ?_
    simp only [pu]
    refine tkA 3 20 (.map (some M)) rfl (by kernel_rfl) (fun _ _ _ h => h) rfl (fun W hS => by (have h0 := hS.1; go_simp)) HS.out ?_
    simp only [pu]
    refine tkA 4 21 (.pointer (some ⟨T, 2, none⟩)) rfl (by kernel_rfl) (fun _ _ _ h => h) rfl (fun W hS => by go_simp) HS.out ?_
    simp only [pu]
    refine tkA 5 22 (.string nm) rfl (by kernel_rfl) (fun _ _ _ h => h) rfl (fun W hS => by (have h0 := hS.2.1; go_simp)) HS.out ?_
    simp only [pu]
    refine tkA 6 23 (.tuple #[.agg #[.string dn, .int .i64 dw, .int .i64 dt, .int .i64 di], .bool dok]) rfl (by kernel_rfl) (fun _ _ _ h => h) rfl (fun W hS => by (have h0 := HLK.out W hS.2.2; go_simp)) HS.out ?_
    simp only [pu]
    refine tkA 7 16 (.tuple #[.agg #[.string dn, .int .i64 dw, .int .i64 dt, .int .i64 di], .bool dok]) rfl (by kernel_rfl) (fun _ _ _ h => h) rfl (fun W hS => by go_simp) HS.out ?_
    simp only [pu]
    refine tkA 8 24 (.agg #[.string dn, .int .i64 dw, .int .i64 dt, .int .i64 di]) rfl (by kernel_rfl) (fun _ _ _ h => h) rfl (fun W hS => by go_simp) HS.out ?_
    simp only [pu]
    refine tkA 9 25 (.bool dok) rfl (by kernel_rfl) (fun _ _ _ h => h) rfl (fun W hS => by go_simp) HS.out ?_
    simp only [pu]
    refine wpAnyH_ready (rs := [10]) (by kernel_rfl) (by simp) ?_
    refine AllReadyH.cons rfl (fun K hK => ?_) AllReadyH.nil
    go_simp
    have HBa := hide (below_alloc wq (.cells #[.string ⟨#[]⟩, .int .i64 0, .int .i64 0, .int .i64 0] 60))
    have HSa : Hid ((wq.alloc (.cells #[.string ⟨#[]⟩, .int .i64 0, .int .i64 0, .int .i64 0] 60)).drew.cell? ⟨C, 0, none⟩ = some (.map (some M)) ∧ (wq.alloc (.cells #[.string ⟨#[]⟩, .int .i64 0, .int .i64 0, .int .i64 0] 60)).drew.cell? ⟨T, 2, none⟩ = some (.string nm) ∧ (wq.alloc (.cells #[.string ⟨#[]⟩, .int .i64 0, .int .i64 0, .int .i64 0] 60)).drew.heap[M]? = some (.map (entsD 0 ds).toArray ds.length)) := hide ⟨(HBa.out.cell (cell_lt (w := wq) HS.out.1)).trans HS.out.1, (HBa.out.cell (cell_lt (w := wq) HS.out.2.1)).trans HS.out.2.1, Below.blk HBa.out HS.out.2.2⟩
    refine hK.out _ _ HSa.out (fun _ => ?_)
    clear hK K
    have HNa : Hid ((wq.alloc (.cells #[.string ⟨#[]⟩, .int .i64 0, .int .i64 0, .int .i64 0] 60)).drew.heap[wq.heap.size]? = some (.cells #[.string ⟨#[]⟩, .int .i64 0, .int .i64 0, .int .i64 0] 60 (0, 0))) := hide (blk_new wq _)
    have HBb : Hid (Below wq.heap.size wq (wq.alloc (.cells #[.string ⟨#[]⟩, .int .i64 0, .int .i64 0, .int .i64 0] 60)).drew) := hide HBa.out.drew
    have HNE : Hid (wq.heap.size ≠ C ∧ wq.heap.size ≠ T ∧ wq.heap.size ≠ M) := hide ⟨by have := cell_lt (w := wq) HS.out.1; intro e; rw [← e] at this; exact Nat.lt_irrefl _ this, by have := blk_lt HNt.out; intro e; rw [← e] at this; exact Nat.lt_irrefl _ this, by have := blk_lt (w := wq) HS.out.2.2; intro e; rw [← e] at this; exact Nat.lt_irrefl _ this⟩
    generalize (wq.alloc (.cells #[.string ⟨#[]⟩, .int .i64 0, .int .i64 0, .int .i64 0] 60)).drew = wa at *
    generalize hD : wq.heap.size = D at HNa HNE ⊢
    have z0 : wa.cell? ⟨D, 0, none⟩ = some (.string ⟨#[]⟩) := by rw [blk_cell HNa.out]; rfl
    have z1 : wa.cell? ⟨D, 1, none⟩ = some (.int .i64 0) := by rw [blk_cell HNa.out]; rfl
    have z2 : wa.cell? ⟨D, 2, none⟩ = some (.int .i64 0) := by rw [blk_cell HNa.out]; rfl
    have z3 : wa.cell? ⟨D, 3, none⟩ = some (.int .i64 0) := by rw [blk_cell HNa.out]; rfl
    have zf : ∀ i, wa.frozen? ⟨D, i, none⟩ = false := blk_frozen HNa.out
    refine wpAnyH_ready (rs := [11]) (by kernel_rfl) (by simp) ?_
    refine AllReadyH.cons rfl (fun K hK => ?_) AllReadyH.nil
    go_simp
    have hoth : ∀ b, b ≠ D → ((((wa.setCell ⟨D, 0, none⟩ (.string dn)).setCell ⟨D, 1, none⟩ (.int .i64 dw)).setCell ⟨D, 2, none⟩ (.int .i64 dt)).setCell ⟨D, 3, none⟩ (.int .i64 di)).heap[b]? = wa.heap[b]? := fun b hb => (set_other _ 3 _ hb).trans ((set_other _ 2 _ hb).trans ((set_other _ 1 _ hb).trans (set_other _ 0 _ hb)))
    have HSb : Hid (((((wa.setCell ⟨D, 0, none⟩ (.string dn)).setCell ⟨D, 1, none⟩ (.int .i64 dw)).setCell ⟨D, 2, none⟩ (.int .i64 dt)).setCell ⟨D, 3, none⟩ (.int .i64 di)).cell? ⟨C, 0, none⟩ = some (.map (some M)) ∧ ((((wa.setCell ⟨D, 0, none⟩ (.string dn)).setCell ⟨D, 1, none⟩ (.int .i64 dw)).setCell ⟨D, 2, none⟩ (.int .i64 dt)).setCell ⟨D, 3, none⟩ (.int .i64 di)).cell? ⟨T, 2, none⟩ = some (.string nm) ∧ ((((wa.setCell ⟨D, 0, none⟩ (.string dn)).setCell ⟨D, 1, none⟩ (.int .i64 dw)).setCell ⟨D, 2, none⟩ (.int .i64 dt)).setCell ⟨D, 3, none⟩ (.int .i64 di)).heap[M]? = some (.map (entsD 0 ds).toArray ds.length)) := hide ⟨(World.cell?_of_block (hoth C (Ne.symm HNE.out.1))).trans HSa.out.1, (World.cell?_of_block (hoth T (Ne.symm HNE.out.2.1))).trans HSa.out.2.1, (hoth M (Ne.symm HNE.out.2.2)).trans HSa.out.2.2⟩
    have HND : Hid (((((wa.setCell ⟨D, 0, none⟩ (.string dn)).setCell ⟨D, 1, none⟩ (.int .i64 dw)).setCell ⟨D, 2, none⟩ (.int .i64 dt)).setCell ⟨D, 3, none⟩ (.int .i64 di)).heap[D]? = some (.cells #[.string dn, .int .i64 dw, .int .i64 dt, .int .i64 di] 60 (0, 0))) := hide (by rw [blk_set (blk_set (blk_set (blk_set HNa.out 0 _) 1 _) 2 _) 3 _]; simp only [List.setIfInBounds_toArray, List.set_cons_zero, List.set_cons_succ])
    have HBd : Hid (Below wq.heap.size wq ((((wa.setCell ⟨D, 0, none⟩ (.string dn)).setCell ⟨D, 1, none⟩ (.int .i64 dw)).setCell ⟨D, 2, none⟩ (.int .i64 dt)).setCell ⟨D, 3, none⟩ (.int .i64 di))) := hide ((((HBb.out.setCell (by rw [hD]; exact Nat.le_refl _) _).setCell (by rw [hD]; exact Nat.le_refl _) _).setCell (by rw [hD]; exact Nat.le_refl _) _).setCell (by rw [hD]; exact Nat.le_refl _) _)
    refine hK.out _ _ HSb.out (fun _ => ?_)
    clear hK K z0 z1 z2 z3 zf hoth
    generalize (((wa.setCell ⟨D, 0, none⟩ (.string dn)).setCell ⟨D, 1, none⟩ (.int .i64 dw)).setCell ⟨D, 2, none⟩ (.int .i64 dt)).setCell ⟨D, 3, none⟩ (.int .i64 di) = wd at *
    refine tkA 12 7 (.bool dok) rfl (by kernel_rfl) (fun _ _ _ h => h) rfl (fun W hS => by go_simp) HSb.out ?_
    simp only [pu]
    refine wpAnyH_done (by kernel_rfl) ?_ _
    have HCd := hide (HCt.out.below HBd.out)
    have HTd := hide (Below.blk HBd.out HNt.out)
    have HBw : Hid (Below wr.heap.size wr wd) := hide (Below.step HBt.out HBd.out)
    have HDC : Hid (D ≠ C) := hide HNE.out.1
    clear HS HSa HSb HNa HBa HBb HNE hD HNt HCt HLK HBt HBd
    have t0 : wd.cell? ⟨T, 0, none⟩ = some (.int .i64 3) := by rw [blk_cell HTd.out]; rfl
    have t1 : wd.cell? ⟨T, 1, none⟩ = some (.int .i64 p) := by rw [blk_cell HTd.out]; rfl
    have d1 : wd.cell? ⟨D, 1, none⟩ = some (.int .i64 dw) := by rw [blk_cell HND.out]; rfl
    have d2 : wd.cell? ⟨D, 2, none⟩ = some (.int .i64 dt) := by rw [blk_cell HND.out]; rfl
    have t4d : wd.cell? ⟨T, 4, none⟩ = some (.slice xo xs.length xc) := by rw [blk_cell HTd.out]; rfl
    have t5d : wd.cell? ⟨T, 5, none⟩ = some (.int .i64 nn) := by rw [blk_cell HTd.out]; rfl
    have HNW := HND
    have HKd : Hid (Kept C wr wd) := hide (Kept.of HBw.out)
    clear r0 r1 r2 r3 r4 r5 r6 r7
    cases dok with
    | false =>
     have HF : Hid (findC ds nm = none) := hide (got_none HDD.out).1
     clear d1 d2 t4d t5d
     go_wp2_with fail
     refine (cfails_at 7 p HCd.out).mono ?_
     rintro e w4 ⟨rfl, hc4, hk4⟩
     have HC4 := hide hc4
     have HK4 : Hid (Kept C wr w4) := hide (HKd.out.trans hk4)
     have HT4 := hide (hk4.blk HTd.out HTC.out)
     have HN4 := hide (hk4.blk HNW.out HDC.out)
     clear hc4 hk4
     clear t0 t1
     have s0 : w4.cell? ⟨T, 0, none⟩ = some (.int .i64 3) := by rw [blk_cell HT4.out]; rfl
     have HQ0 : Hid (Ck.bind (rj.bind fun _ => (.bad 7 p : Ck Unit)) (fun _ => argsC (findC ds) xs) = rj.bind fun _ => stC (findC ds) (.call p nm xs nn)) := hide (by cases rj <;> simp only [Ck.bind, stC, callC, declC, HF.out])
     have HTL := hide (HT4.out)
     have HKL := hide (HK4.out)
     have t4 : w4.cell? ⟨T, 4, none⟩ = some (.slice xo xs.length xc) := by rw [blk_cell HTL.out]; rfl
     have HRL : Hid (∃ r1, Cst w4 C M ds r1 ∧ r1.bind (fun _ => argsC (findC ds) xs) = rj.bind fun _ => stC (findC ds) (.call p nm xs nn)) := hide ⟨_, HC4.out, HQ0.out⟩
     generalize w4 = wL at *
     go_wp2_with fail
     clear s0
     go_loopw [115] (fun i wk => ∃ k : Nat, k ≤ xs.length ∧ i = .int .i64 k ∧ Hid (∃ r1, Cst wk C M ds r1 ∧ r1.bind (fun _ => argsC (findC ds) (xs.drop k)) = rj.bind fun _ => stC (findC ds) (.call p nm xs nn)) ∧ Hid (Kept C wL wk)) (fun i _ => xs.length - (intOf i).toNat)
     case atStart => exact ⟨0, Nat.zero_le _, rfl, HRL, hide (Kept.refl _ _)⟩
     case round =>
      obtain ⟨k, hk, rfl, hrk, hkk⟩ := hrel
      obtain ⟨r1, hc1, he1⟩ := hrk.out
      have HR1 := hide hc1
      have HE1 := hide he1
      clear hc1 he1
      have hxm : xs.length ≤ 1000000 := HXM.out
      by_cases hlk : k < xs.length
      ·have hki : (k : Int) < (xs.length : Int) := by omega
       have HKA := hide (HKL.out.trans hkk.out)
       obtain ⟨vs, hrow, hall⟩ := HXS.out _ HKA.out
       obtain ⟨gx, cx, hvx, hSg⟩ := qrow_addr hrow (by omega)
       obtain ⟨rfl, rfl⟩ : xo = some ⟨gx, 0, none⟩ ∧ xc = cx := by cases hvx; exact ⟨rfl, rfl⟩
       obtain ⟨bx, hbx, hex⟩ := qexs_get hall k hlk
       have rx := qrow_cell hrow rfl hbx
       have HAD := hide (argsC_drop2 (findC ds) xs k hlk)
       have HGX := hide (HGXS.out _ (List.getElem_mem hlk))
       have HEX := hide hex
       generalize xs[k] = xk at *
       obtain ⟨PX, rfl⟩ := hex.ptr
       clear hvx hrow hall hbx hex
       go_wp2_with fail
       refine (cmust_at xk 1 S _ C M ds _ r1 HR1.out HEX.out HSS.out HGX.out).mono ?_
       rintro e wm ⟨rfl, hcm, hkm⟩
       have HRM : Hid (∃ r2, Cst wm C M ds r2 ∧ r2.bind (fun _ => argsC (findC ds) (xs.drop (k + 1))) = rj.bind fun _ => stC (findC ds) (.call p nm xs nn)) := hide ⟨_, hcm, by rw [← HE1.out, HAD.out, Ck.bind_assoc]⟩
       have HKM := hide (hkk.out.trans hkm)
       clear hcm hkm rx
       go_wp2_with fail
       first
        | exact ⟨⟨k + 1, by omega, by go_num, HRM, HKM⟩, by simp [intOf]; omega⟩
        | (refine ⟨?_, by simp [intOf]; omega⟩; (repeat apply Exists.intro); exact ⟨⟨k + 1, by omega, by go_num, HRM, HKM⟩, rfl⟩)
      ·have HJK : Hid (k = xs.length) := (by omega : k = xs.length)
       have HRE : Hid (∃ r2, Cst _ C M ds r2 ∧ (r.bind fun _ => stsC (findC ds) l) = r2.bind fun _ => stsC (findC ds) (l.drop (j + 1))) := hide ⟨r1, HR1.out, by
        have h1 := HE1.out
        rw [HJK.out, List.drop_length] at h1
        have h2 : r1 = rj.bind fun _ => stC (findC ds) (.call p nm xs nn) := by rw [← h1]; cases r1 <;> rfl
        rw [HEJ.out, HSD.out, h2, Ck.bind_assoc]⟩
       have HKE := hide (hkw.out.trans (HKL.out.trans hkk.out))
       go_wp2_with fail
       first
        | exact ⟨⟨j + 1, by omega, by go_num, HRE, HKE⟩, by simp [intOf]; omega⟩
        | (refine ⟨?_, by simp [intOf]; omega⟩; (repeat apply Exists.intro); exact ⟨⟨j + 1, by omega, by go_num, HRE, HKE⟩, rfl⟩)
    | true =>
     have HF : Hid (findC ds nm = some ⟨dn, dw, dt, di⟩) := hide (got_yes HDD.out)
     have HTY : Hid (1 ≤ dt ∧ dt ≤ 5) := hide (HDS.out ⟨dn, dw, dt, di⟩ (List.mem_of_find?_eq_some HF.out))
     have HWI := hide (fun n => rwidth_at dt (wd.drewN n))
     by_cases hw0 : widthN dt = 0
     ·have h345 : dt = 3 ∨ dt = 4 ∨ dt = 5 := by
       have := HTY.out
       rcases (show dt = 1 ∨ dt = 2 ∨ dt = 3 ∨ dt = 4 ∨ dt = 5 by omega) with rfl | rfl | h
       ·exact absurd hw0 (by decide)
       ·exact absurd hw0 (by decide)
       ·exact h
      rw [hw0] at HWI
      clear hw0
      go_wp2_with fail
      go_quiet ((go_at_call 102; exact Calls.quiet_of_same (HWI.out _)))
      have HBq := hide (show Below wd.heap.size wd (wd.drewN nq) from ⟨rfl, rfl, rfl, Nat.le_refl _, fun _ _ => rfl⟩)
      have HCq := hide (HCd.out.below HBq.out)
      have HTq := hide (Below.blk HBq.out HTd.out)
      have HKq := hide (HKd.out.trans (Kept.of (R := C) HBq.out))
      have HNW := hide (Below.blk HBq.out HND.out)
      have q0 : (wd.drewN nq).cell? ⟨T, 0, none⟩ = some (.int .i64 3) := t0
      have q1 : (wd.drewN nq).cell? ⟨T, 1, none⟩ = some (.int .i64 p) := t1
      have q4 : (wd.drewN nq).cell? ⟨T, 4, none⟩ = some (.slice xo xs.length xc) := t4d
      have q5 : (wd.drewN nq).cell? ⟨T, 5, none⟩ = some (.int .i64 nn) := t5d
      have f2 : (wd.drewN nq).cell? ⟨D, 2, none⟩ = some (.int .i64 dt) := d2
      generalize wd.drewN nq = wx at *
      clear t0 t1 d1 d2 t4d t5d HWI
      rcases h345 with hdt | hdt | hdt
      ·have HDT := hide hdt
       have hix : ∀ (w : World), (Instr.index 226 (.agg #[.int .i64 0, .int .i64 0, .int .i64 0, .int .i64 1, .int .i64 2, .int .i64 1]) (.int .i64 dt)).run Tryz.prog w = .ok (.int .i64 1) w := fun _ => by rw [hdt]; kernel_rfl
       have hd5 : ((dt : Int) == 5) = false := by rw [hdt]; rfl
       clear hdt
       by_cases hlen : xs.length = 1
       ·have hli : ((xs.length : Int) != 1) = false := by simp; omega
        have HLN := hide hlen
        clear hlen
        by_cases hn0 : nn = 0
        ·have hni : ((nn : Int) != 0) = false := by simp; omega
         have HNN := hide hn0
         clear hn0
         go_wp2_with fail
         go_quiet (fail)
         have HBr := hide (show Below wx.heap.size wx (wx.drewN nq) from ⟨rfl, rfl, rfl, Nat.le_refl _, fun _ _ => rfl⟩)
         have HCr := hide (HCq.out.below HBr.out)
         have HTr := hide (Below.blk HBr.out HTq.out)
         have HKr := hide (HKq.out.trans (Kept.of (R := C) HBr.out))
         have HNW := hide (Below.blk HBr.out HNW.out)
         have u1 : (wx.drewN nq).cell? ⟨T, 1, none⟩ = some (.int .i64 p) := q1
         generalize wx.drewN nq = wy at *
         clear q0 q1 q4 q5 f2 hli hd5 hix hni
         have s0 : wy.cell? ⟨T, 0, none⟩ = some (.int .i64 3) := by rw [blk_cell HTr.out]; rfl
         have HQ0 : Hid (Ck.bind (rj) (fun _ => argsC (findC ds) xs) = rj.bind fun _ => stC (findC ds) (.call p nm xs nn)) := hide (by cases rj <;> simp only [Ck.bind, stC, callC, declC, HF.out] <;> rw [if_neg (by rw [HDT.out]; decide), if_neg (by rw [HDT.out]; have := HLN.out; have := HNN.out; simp [argsN]; omega)])
         have HTL := hide (HTr.out)
         have HKL := hide (HKr.out)
         have t4 : wy.cell? ⟨T, 4, none⟩ = some (.slice xo xs.length xc) := by rw [blk_cell HTL.out]; rfl
         have HRL : Hid (∃ r1, Cst wy C M ds r1 ∧ r1.bind (fun _ => argsC (findC ds) xs) = rj.bind fun _ => stC (findC ds) (.call p nm xs nn)) := hide ⟨_, HCr.out, HQ0.out⟩
         generalize wy = wL at *
         go_wp2_with fail
         clear s0
         go_loopw [115] (fun i wk => ∃ k : Nat, k ≤ xs.length ∧ i = .int .i64 k ∧ Hid (∃ r1, Cst wk C M ds r1 ∧ r1.bind (fun _ => argsC (findC ds) (xs.drop k)) = rj.bind fun _ => stC (findC ds) (.call p nm xs nn)) ∧ Hid (Kept C wL wk)) (fun i _ => xs.length - (intOf i).toNat)
         case atStart => exact ⟨0, Nat.zero_le _, rfl, HRL, hide (Kept.refl _ _)⟩
         case round =>
          obtain ⟨k, hk, rfl, hrk, hkk⟩ := hrel
          obtain ⟨r1, hc1, he1⟩ := hrk.out
          have HR1 := hide hc1
          have HE1 := hide he1
          clear hc1 he1
          have hxm : xs.length ≤ 1000000 := HXM.out
          by_cases hlk : k < xs.length
          ·have hki : (k : Int) < (xs.length : Int) := by omega
           have HKA := hide (HKL.out.trans hkk.out)
           obtain ⟨vs, hrow, hall⟩ := HXS.out _ HKA.out
           obtain ⟨gx, cx, hvx, hSg⟩ := qrow_addr hrow (by omega)
           obtain ⟨rfl, rfl⟩ : xo = some ⟨gx, 0, none⟩ ∧ xc = cx := by cases hvx; exact ⟨rfl, rfl⟩
           obtain ⟨bx, hbx, hex⟩ := qexs_get hall k hlk
           have rx := qrow_cell hrow rfl hbx
           have HAD := hide (argsC_drop2 (findC ds) xs k hlk)
           have HGX := hide (HGXS.out _ (List.getElem_mem hlk))
           have HEX := hide hex
           generalize xs[k] = xk at *
           obtain ⟨PX, rfl⟩ := hex.ptr
           clear hvx hrow hall hbx hex
           go_wp2_with fail
           refine (cmust_at xk 1 S _ C M ds _ r1 HR1.out HEX.out HSS.out HGX.out).mono ?_
           rintro e wm ⟨rfl, hcm, hkm⟩
           have HRM : Hid (∃ r2, Cst wm C M ds r2 ∧ r2.bind (fun _ => argsC (findC ds) (xs.drop (k + 1))) = rj.bind fun _ => stC (findC ds) (.call p nm xs nn)) := hide ⟨_, hcm, by rw [← HE1.out, HAD.out, Ck.bind_assoc]⟩
           have HKM := hide (hkk.out.trans hkm)
           clear hcm hkm rx
           go_wp2_with fail
           first
            | exact ⟨⟨k + 1, by omega, by go_num, HRM, HKM⟩, by simp [intOf]; omega⟩
            | (refine ⟨?_, by simp [intOf]; omega⟩; (repeat apply Exists.intro); exact ⟨⟨k + 1, by omega, by go_num, HRM, HKM⟩, rfl⟩)
          ·have HJK : Hid (k = xs.length) := (by omega : k = xs.length)
           have HRE : Hid (∃ r2, Cst _ C M ds r2 ∧ (r.bind fun _ => stsC (findC ds) l) = r2.bind fun _ => stsC (findC ds) (l.drop (j + 1))) := hide ⟨r1, HR1.out, by
            have h1 := HE1.out
            rw [HJK.out, List.drop_length] at h1
            have h2 : r1 = rj.bind fun _ => stC (findC ds) (.call p nm xs nn) := by rw [← h1]; cases r1 <;> rfl
            rw [HEJ.out, HSD.out, h2, Ck.bind_assoc]⟩
           have HKE := hide (hkw.out.trans (HKL.out.trans hkk.out))
           go_wp2_with fail
           first
            | exact ⟨⟨j + 1, by omega, by go_num, HRE, HKE⟩, by simp [intOf]; omega⟩
            | (refine ⟨?_, by simp [intOf]; omega⟩; (repeat apply Exists.intro); exact ⟨⟨j + 1, by omega, by go_num, HRE, HKE⟩, rfl⟩)
        ·have hni : ((nn : Int) != 0) = true := by simp; omega
         have HNN := hide hn0
         clear hn0
         go_wp2_with fail
         go_quiet (fail)
         have HBr := hide (show Below wx.heap.size wx (wx.drewN nq) from ⟨rfl, rfl, rfl, Nat.le_refl _, fun _ _ => rfl⟩)
         have HCr := hide (HCq.out.below HBr.out)
         have HTr := hide (Below.blk HBr.out HTq.out)
         have HKr := hide (HKq.out.trans (Kept.of (R := C) HBr.out))
         have HNW := hide (Below.blk HBr.out HNW.out)
         have u1 : (wx.drewN nq).cell? ⟨T, 1, none⟩ = some (.int .i64 p) := q1
         generalize wx.drewN nq = wy at *
         clear q0 q1 q4 q5 f2 hli hd5 hix hni
         have s0 : wy.cell? ⟨T, 0, none⟩ = some (.int .i64 3) := by rw [blk_cell HTr.out]; rfl
         have HQ0 : Hid (Ck.bind (rj) (fun _ => argsC (findC ds) xs) = rj.bind fun _ => stC (findC ds) (.call p nm xs nn)) := hide (by cases rj <;> simp only [Ck.bind, stC, callC, declC, HF.out] <;> rw [if_neg (by rw [HDT.out]; decide), if_neg (by rw [HDT.out]; have := HLN.out; simp [argsN]; omega)])
         have HTL := hide (HTr.out)
         have HKL := hide (HKr.out)
         have t4 : wy.cell? ⟨T, 4, none⟩ = some (.slice xo xs.length xc) := by rw [blk_cell HTL.out]; rfl
         have HRL : Hid (∃ r1, Cst wy C M ds r1 ∧ r1.bind (fun _ => argsC (findC ds) xs) = rj.bind fun _ => stC (findC ds) (.call p nm xs nn)) := hide ⟨_, HCr.out, HQ0.out⟩
         generalize wy = wL at *
         go_wp2_with fail
         clear s0
         go_loopw [115] (fun i wk => ∃ k : Nat, k ≤ xs.length ∧ i = .int .i64 k ∧ Hid (∃ r1, Cst wk C M ds r1 ∧ r1.bind (fun _ => argsC (findC ds) (xs.drop k)) = rj.bind fun _ => stC (findC ds) (.call p nm xs nn)) ∧ Hid (Kept C wL wk)) (fun i _ => xs.length - (intOf i).toNat)
         case atStart => exact ⟨0, Nat.zero_le _, rfl, HRL, hide (Kept.refl _ _)⟩
         case round =>
          obtain ⟨k, hk, rfl, hrk, hkk⟩ := hrel
          obtain ⟨r1, hc1, he1⟩ := hrk.out
          have HR1 := hide hc1
          have HE1 := hide he1
          clear hc1 he1
          have hxm : xs.length ≤ 1000000 := HXM.out
          by_cases hlk : k < xs.length
          ·have hki : (k : Int) < (xs.length : Int) := by omega
           have HKA := hide (HKL.out.trans hkk.out)
           obtain ⟨vs, hrow, hall⟩ := HXS.out _ HKA.out
           obtain ⟨gx, cx, hvx, hSg⟩ := qrow_addr hrow (by omega)
           obtain ⟨rfl, rfl⟩ : xo = some ⟨gx, 0, none⟩ ∧ xc = cx := by cases hvx; exact ⟨rfl, rfl⟩
           obtain ⟨bx, hbx, hex⟩ := qexs_get hall k hlk
           have rx := qrow_cell hrow rfl hbx
           have HAD := hide (argsC_drop2 (findC ds) xs k hlk)
           have HGX := hide (HGXS.out _ (List.getElem_mem hlk))
           have HEX := hide hex
           generalize xs[k] = xk at *
           obtain ⟨PX, rfl⟩ := hex.ptr
           clear hvx hrow hall hbx hex
           go_wp2_with fail
           refine (cmust_at xk 1 S _ C M ds _ r1 HR1.out HEX.out HSS.out HGX.out).mono ?_
           rintro e wm ⟨rfl, hcm, hkm⟩
           have HRM : Hid (∃ r2, Cst wm C M ds r2 ∧ r2.bind (fun _ => argsC (findC ds) (xs.drop (k + 1))) = rj.bind fun _ => stC (findC ds) (.call p nm xs nn)) := hide ⟨_, hcm, by rw [← HE1.out, HAD.out, Ck.bind_assoc]⟩
           have HKM := hide (hkk.out.trans hkm)
           clear hcm hkm rx
           go_wp2_with fail
           first
            | exact ⟨⟨k + 1, by omega, by go_num, HRM, HKM⟩, by simp [intOf]; omega⟩
            | (refine ⟨?_, by simp [intOf]; omega⟩; (repeat apply Exists.intro); exact ⟨⟨k + 1, by omega, by go_num, HRM, HKM⟩, rfl⟩)
          ·have HJK : Hid (k = xs.length) := (by omega : k = xs.length)
           have HRE : Hid (∃ r2, Cst _ C M ds r2 ∧ (r.bind fun _ => stsC (findC ds) l) = r2.bind fun _ => stsC (findC ds) (l.drop (j + 1))) := hide ⟨r1, HR1.out, by
            have h1 := HE1.out
            rw [HJK.out, List.drop_length] at h1
            have h2 : r1 = rj.bind fun _ => stC (findC ds) (.call p nm xs nn) := by rw [← h1]; cases r1 <;> rfl
            rw [HEJ.out, HSD.out, h2, Ck.bind_assoc]⟩
           have HKE := hide (hkw.out.trans (HKL.out.trans hkk.out))
           go_wp2_with fail
           first
            | exact ⟨⟨j + 1, by omega, by go_num, HRE, HKE⟩, by simp [intOf]; omega⟩
            | (refine ⟨?_, by simp [intOf]; omega⟩; (repeat apply Exists.intro); exact ⟨⟨j + 1, by omega, by go_num, HRE, HKE⟩, rfl⟩)
       ·have hli : ((xs.length : Int) != 1) = true := by simp; omega
        have HLN := hide hlen
        clear hlen
        go_wp2_with fail
        go_quiet (fail)
        have HBr := hide (show Below wx.heap.size wx (wx.drewN nq) from ⟨rfl, rfl, rfl, Nat.le_refl _, fun _ _ => rfl⟩)
        have HCr := hide (HCq.out.below HBr.out)
        have HTr := hide (Below.blk HBr.out HTq.out)
        have HKr := hide (HKq.out.trans (Kept.of (R := C) HBr.out))
        have HNW := hide (Below.blk HBr.out HNW.out)
        have u1 : (wx.drewN nq).cell? ⟨T, 1, none⟩ = some (.int .i64 p) := q1
        generalize wx.drewN nq = wy at *
        clear q0 q1 q4 q5 f2 hli hd5 hix 
        go_wp2_with fail
        refine (cfails_at 2 p HCr.out).mono ?_
        rintro e w4 ⟨rfl, hc4, hk4⟩
        have HC4 := hide hc4
        have HK4 : Hid (Kept C wr w4) := hide (HKr.out.trans hk4)
        have HT4 := hide (hk4.blk HTr.out HTC.out)
        have HN4 := hide (hk4.blk HNW.out HDC.out)
        clear hc4 hk4
        clear u1
        have s0 : w4.cell? ⟨T, 0, none⟩ = some (.int .i64 3) := by rw [blk_cell HT4.out]; rfl
        have HQ0 : Hid (Ck.bind (rj.bind fun _ => (.bad 2 p : Ck Unit)) (fun _ => argsC (findC ds) xs) = rj.bind fun _ => stC (findC ds) (.call p nm xs nn)) := hide (by cases rj <;> simp only [Ck.bind, stC, callC, declC, HF.out] <;> rw [if_neg (by rw [HDT.out]; decide), if_pos (by rw [HDT.out]; have := HLN.out; simp [argsN]; omega)])
        have HTL := hide (HT4.out)
        have HKL := hide (HK4.out)
        have t4 : w4.cell? ⟨T, 4, none⟩ = some (.slice xo xs.length xc) := by rw [blk_cell HTL.out]; rfl
        have HRL : Hid (∃ r1, Cst w4 C M ds r1 ∧ r1.bind (fun _ => argsC (findC ds) xs) = rj.bind fun _ => stC (findC ds) (.call p nm xs nn)) := hide ⟨_, HC4.out, HQ0.out⟩
        generalize w4 = wL at *
        go_wp2_with fail
        clear s0
        go_loopw [115] (fun i wk => ∃ k : Nat, k ≤ xs.length ∧ i = .int .i64 k ∧ Hid (∃ r1, Cst wk C M ds r1 ∧ r1.bind (fun _ => argsC (findC ds) (xs.drop k)) = rj.bind fun _ => stC (findC ds) (.call p nm xs nn)) ∧ Hid (Kept C wL wk)) (fun i _ => xs.length - (intOf i).toNat)
        case atStart => exact ⟨0, Nat.zero_le _, rfl, HRL, hide (Kept.refl _ _)⟩
        case round =>
         obtain ⟨k, hk, rfl, hrk, hkk⟩ := hrel
         obtain ⟨r1, hc1, he1⟩ := hrk.out
         have HR1 := hide hc1
         have HE1 := hide he1
         clear hc1 he1
         have hxm : xs.length ≤ 1000000 := HXM.out
         by_cases hlk : k < xs.length
         ·have hki : (k : Int) < (xs.length : Int) := by omega
          have HKA := hide (HKL.out.trans hkk.out)
          obtain ⟨vs, hrow, hall⟩ := HXS.out _ HKA.out
          obtain ⟨gx, cx, hvx, hSg⟩ := qrow_addr hrow (by omega)
          obtain ⟨rfl, rfl⟩ : xo = some ⟨gx, 0, none⟩ ∧ xc = cx := by cases hvx; exact ⟨rfl, rfl⟩
          obtain ⟨bx, hbx, hex⟩ := qexs_get hall k hlk
          have rx := qrow_cell hrow rfl hbx
          have HAD := hide (argsC_drop2 (findC ds) xs k hlk)
          have HGX := hide (HGXS.out _ (List.getElem_mem hlk))
          have HEX := hide hex
          generalize xs[k] = xk at *
          obtain ⟨PX, rfl⟩ := hex.ptr
          clear hvx hrow hall hbx hex
          go_wp2_with fail
          refine (cmust_at xk 1 S _ C M ds _ r1 HR1.out HEX.out HSS.out HGX.out).mono ?_
          rintro e wm ⟨rfl, hcm, hkm⟩
          have HRM : Hid (∃ r2, Cst wm C M ds r2 ∧ r2.bind (fun _ => argsC (findC ds) (xs.drop (k + 1))) = rj.bind fun _ => stC (findC ds) (.call p nm xs nn)) := hide ⟨_, hcm, by rw [← HE1.out, HAD.out, Ck.bind_assoc]⟩
          have HKM := hide (hkk.out.trans hkm)
          clear hcm hkm rx
          go_wp2_with fail
          first
           | exact ⟨⟨k + 1, by omega, by go_num, HRM, HKM⟩, by simp [intOf]; omega⟩
           | (refine ⟨?_, by simp [intOf]; omega⟩; (repeat apply Exists.intro); exact ⟨⟨k + 1, by omega, by go_num, HRM, HKM⟩, rfl⟩)
         ·have HJK : Hid (k = xs.length) := (by omega : k = xs.length)
          have HRE : Hid (∃ r2, Cst _ C M ds r2 ∧ (r.bind fun _ => stsC (findC ds) l) = r2.bind fun _ => stsC (findC ds) (l.drop (j + 1))) := hide ⟨r1, HR1.out, by
           have h1 := HE1.out
           rw [HJK.out, List.drop_length] at h1
           have h2 : r1 = rj.bind fun _ => stC (findC ds) (.call p nm xs nn) := by rw [← h1]; cases r1 <;> rfl
           rw [HEJ.out, HSD.out, h2, Ck.bind_assoc]⟩
          have HKE := hide (hkw.out.trans (HKL.out.trans hkk.out))
          go_wp2_with fail
          first
           | exact ⟨⟨j + 1, by omega, by go_num, HRE, HKE⟩, by simp [intOf]; omega⟩
           | (refine ⟨?_, by simp [intOf]; omega⟩; (repeat apply Exists.intro); exact ⟨⟨j + 1, by omega, by go_num, HRE, HKE⟩, rfl⟩)
      ·have HDT := hide hdt
       have hix : ∀ (w : World), (Instr.index 226 (.agg #[.int .i64 0, .int .i64 0, .int .i64 0, .int .i64 1, .int .i64 2, .int .i64 1]) (.int .i64 dt)).run Tryz.prog w = .ok (.int .i64 2) w := fun _ => by rw [hdt]; kernel_rfl
       have hd5 : ((dt : Int) == 5) = false := by rw [hdt]; rfl
       clear hdt
       by_cases hlen : xs.length = 2
       ·have hli : ((xs.length : Int) != 2) = false := by simp; omega
        have HLN := hide hlen
        clear hlen
        by_cases hn0 : nn = 0
        ·have hni : ((nn : Int) != 0) = false := by simp; omega
         have HNN := hide hn0
         clear hn0
         go_wp2_with fail
         go_quiet (fail)
         have HBr := hide (show Below wx.heap.size wx (wx.drewN nq) from ⟨rfl, rfl, rfl, Nat.le_refl _, fun _ _ => rfl⟩)
         have HCr := hide (HCq.out.below HBr.out)
         have HTr := hide (Below.blk HBr.out HTq.out)
         have HKr := hide (HKq.out.trans (Kept.of (R := C) HBr.out))
         have HNW := hide (Below.blk HBr.out HNW.out)
         have u1 : (wx.drewN nq).cell? ⟨T, 1, none⟩ = some (.int .i64 p) := q1
         generalize wx.drewN nq = wy at *
         clear q0 q1 q4 q5 f2 hli hd5 hix hni
         have s0 : wy.cell? ⟨T, 0, none⟩ = some (.int .i64 3) := by rw [blk_cell HTr.out]; rfl
         have HQ0 : Hid (Ck.bind (rj) (fun _ => argsC (findC ds) xs) = rj.bind fun _ => stC (findC ds) (.call p nm xs nn)) := hide (by cases rj <;> simp only [Ck.bind, stC, callC, declC, HF.out] <;> rw [if_neg (by rw [HDT.out]; decide), if_neg (by rw [HDT.out]; have := HLN.out; have := HNN.out; simp [argsN]; omega)])
         have HTL := hide (HTr.out)
         have HKL := hide (HKr.out)
         have t4 : wy.cell? ⟨T, 4, none⟩ = some (.slice xo xs.length xc) := by rw [blk_cell HTL.out]; rfl
         have HRL : Hid (∃ r1, Cst wy C M ds r1 ∧ r1.bind (fun _ => argsC (findC ds) xs) = rj.bind fun _ => stC (findC ds) (.call p nm xs nn)) := hide ⟨_, HCr.out, HQ0.out⟩
         generalize wy = wL at *
         go_wp2_with fail
         clear s0
         go_loopw [115] (fun i wk => ∃ k : Nat, k ≤ xs.length ∧ i = .int .i64 k ∧ Hid (∃ r1, Cst wk C M ds r1 ∧ r1.bind (fun _ => argsC (findC ds) (xs.drop k)) = rj.bind fun _ => stC (findC ds) (.call p nm xs nn)) ∧ Hid (Kept C wL wk)) (fun i _ => xs.length - (intOf i).toNat)
         case atStart => exact ⟨0, Nat.zero_le _, rfl, HRL, hide (Kept.refl _ _)⟩
         case round =>
          obtain ⟨k, hk, rfl, hrk, hkk⟩ := hrel
          obtain ⟨r1, hc1, he1⟩ := hrk.out
          have HR1 := hide hc1
          have HE1 := hide he1
          clear hc1 he1
          have hxm : xs.length ≤ 1000000 := HXM.out
          by_cases hlk : k < xs.length
          ·have hki : (k : Int) < (xs.length : Int) := by omega
           have HKA := hide (HKL.out.trans hkk.out)
           obtain ⟨vs, hrow, hall⟩ := HXS.out _ HKA.out
           obtain ⟨gx, cx, hvx, hSg⟩ := qrow_addr hrow (by omega)
           obtain ⟨rfl, rfl⟩ : xo = some ⟨gx, 0, none⟩ ∧ xc = cx := by cases hvx; exact ⟨rfl, rfl⟩
           obtain ⟨bx, hbx, hex⟩ := qexs_get hall k hlk
           have rx := qrow_cell hrow rfl hbx
           have HAD := hide (argsC_drop2 (findC ds) xs k hlk)
           have HGX := hide (HGXS.out _ (List.getElem_mem hlk))
           have HEX := hide hex
           generalize xs[k] = xk at *
           obtain ⟨PX, rfl⟩ := hex.ptr
           clear hvx hrow hall hbx hex
           go_wp2_with fail
           refine (cmust_at xk 1 S _ C M ds _ r1 HR1.out HEX.out HSS.out HGX.out).mono ?_
           rintro e wm ⟨rfl, hcm, hkm⟩
           have HRM : Hid (∃ r2, Cst wm C M ds r2 ∧ r2.bind (fun _ => argsC (findC ds) (xs.drop (k + 1))) = rj.bind fun _ => stC (findC ds) (.call p nm xs nn)) := hide ⟨_, hcm, by rw [← HE1.out, HAD.out, Ck.bind_assoc]⟩
           have HKM := hide (hkk.out.trans hkm)
           clear hcm hkm rx
           go_wp2_with fail
           first
            | exact ⟨⟨k + 1, by omega, by go_num, HRM, HKM⟩, by simp [intOf]; omega⟩
            | (refine ⟨?_, by simp [intOf]; omega⟩; (repeat apply Exists.intro); exact ⟨⟨k + 1, by omega, by go_num, HRM, HKM⟩, rfl⟩)
          ·have HJK : Hid (k = xs.length) := (by omega : k = xs.length)
           have HRE : Hid (∃ r2, Cst _ C M ds r2 ∧ (r.bind fun _ => stsC (findC ds) l) = r2.bind fun _ => stsC (findC ds) (l.drop (j + 1))) := hide ⟨r1, HR1.out, by
            have h1 := HE1.out
            rw [HJK.out, List.drop_length] at h1
            have h2 : r1 = rj.bind fun _ => stC (findC ds) (.call p nm xs nn) := by rw [← h1]; cases r1 <;> rfl
            rw [HEJ.out, HSD.out, h2, Ck.bind_assoc]⟩
           have HKE := hide (hkw.out.trans (HKL.out.trans hkk.out))
           go_wp2_with fail
           first
            | exact ⟨⟨j + 1, by omega, by go_num, HRE, HKE⟩, by simp [intOf]; omega⟩
            | (refine ⟨?_, by simp [intOf]; omega⟩; (repeat apply Exists.intro); exact ⟨⟨j + 1, by omega, by go_num, HRE, HKE⟩, rfl⟩)
        ·have hni : ((nn : Int) != 0) = true := by simp; omega
         have HNN := hide hn0
         clear hn0
         go_wp2_with fail
         go_quiet (fail)
         have HBr := hide (show Below wx.heap.size wx (wx.drewN nq) from ⟨rfl, rfl, rfl, Nat.le_refl _, fun _ _ => rfl⟩)
         have HCr := hide (HCq.out.below HBr.out)
         have HTr := hide (Below.blk HBr.out HTq.out)
         have HKr := hide (HKq.out.trans (Kept.of (R := C) HBr.out))
         have HNW := hide (Below.blk HBr.out HNW.out)
         have u1 : (wx.drewN nq).cell? ⟨T, 1, none⟩ = some (.int .i64 p) := q1
         generalize wx.drewN nq = wy at *
         clear q0 q1 q4 q5 f2 hli hd5 hix hni
         have s0 : wy.cell? ⟨T, 0, none⟩ = some (.int .i64 3) := by rw [blk_cell HTr.out]; rfl
         have HQ0 : Hid (Ck.bind (rj) (fun _ => argsC (findC ds) xs) = rj.bind fun _ => stC (findC ds) (.call p nm xs nn)) := hide (by cases rj <;> simp only [Ck.bind, stC, callC, declC, HF.out] <;> rw [if_neg (by rw [HDT.out]; decide), if_neg (by rw [HDT.out]; have := HLN.out; simp [argsN]; omega)])
         have HTL := hide (HTr.out)
         have HKL := hide (HKr.out)
         have t4 : wy.cell? ⟨T, 4, none⟩ = some (.slice xo xs.length xc) := by rw [blk_cell HTL.out]; rfl
         have HRL : Hid (∃ r1, Cst wy C M ds r1 ∧ r1.bind (fun _ => argsC (findC ds) xs) = rj.bind fun _ => stC (findC ds) (.call p nm xs nn)) := hide ⟨_, HCr.out, HQ0.out⟩
         generalize wy = wL at *
         go_wp2_with fail
         clear s0
         go_loopw [115] (fun i wk => ∃ k : Nat, k ≤ xs.length ∧ i = .int .i64 k ∧ Hid (∃ r1, Cst wk C M ds r1 ∧ r1.bind (fun _ => argsC (findC ds) (xs.drop k)) = rj.bind fun _ => stC (findC ds) (.call p nm xs nn)) ∧ Hid (Kept C wL wk)) (fun i _ => xs.length - (intOf i).toNat)
         case atStart => exact ⟨0, Nat.zero_le _, rfl, HRL, hide (Kept.refl _ _)⟩
         case round =>
          obtain ⟨k, hk, rfl, hrk, hkk⟩ := hrel
          obtain ⟨r1, hc1, he1⟩ := hrk.out
          have HR1 := hide hc1
          have HE1 := hide he1
          clear hc1 he1
          have hxm : xs.length ≤ 1000000 := HXM.out
          by_cases hlk : k < xs.length
          ·have hki : (k : Int) < (xs.length : Int) := by omega
           have HKA := hide (HKL.out.trans hkk.out)
           obtain ⟨vs, hrow, hall⟩ := HXS.out _ HKA.out
           obtain ⟨gx, cx, hvx, hSg⟩ := qrow_addr hrow (by omega)
           obtain ⟨rfl, rfl⟩ : xo = some ⟨gx, 0, none⟩ ∧ xc = cx := by cases hvx; exact ⟨rfl, rfl⟩
           obtain ⟨bx, hbx, hex⟩ := qexs_get hall k hlk
           have rx := qrow_cell hrow rfl hbx
           have HAD := hide (argsC_drop2 (findC ds) xs k hlk)
           have HGX := hide (HGXS.out _ (List.getElem_mem hlk))
           have HEX := hide hex
           generalize xs[k] = xk at *
           obtain ⟨PX, rfl⟩ := hex.ptr
           clear hvx hrow hall hbx hex
           go_wp2_with fail
           refine (cmust_at xk 1 S _ C M ds _ r1 HR1.out HEX.out HSS.out HGX.out).mono ?_
           rintro e wm ⟨rfl, hcm, hkm⟩
           have HRM : Hid (∃ r2, Cst wm C M ds r2 ∧ r2.bind (fun _ => argsC (findC ds) (xs.drop (k + 1))) = rj.bind fun _ => stC (findC ds) (.call p nm xs nn)) := hide ⟨_, hcm, by rw [← HE1.out, HAD.out, Ck.bind_assoc]⟩
           have HKM := hide (hkk.out.trans hkm)
           clear hcm hkm rx
           go_wp2_with fail
           first
            | exact ⟨⟨k + 1, by omega, by go_num, HRM, HKM⟩, by simp [intOf]; omega⟩
            | (refine ⟨?_, by simp [intOf]; omega⟩; (repeat apply Exists.intro); exact ⟨⟨k + 1, by omega, by go_num, HRM, HKM⟩, rfl⟩)
          ·have HJK : Hid (k = xs.length) := (by omega : k = xs.length)
           have HRE : Hid (∃ r2, Cst _ C M ds r2 ∧ (r.bind fun _ => stsC (findC ds) l) = r2.bind fun _ => stsC (findC ds) (l.drop (j + 1))) := hide ⟨r1, HR1.out, by
            have h1 := HE1.out
            rw [HJK.out, List.drop_length] at h1
            have h2 : r1 = rj.bind fun _ => stC (findC ds) (.call p nm xs nn) := by rw [← h1]; cases r1 <;> rfl
            rw [HEJ.out, HSD.out, h2, Ck.bind_assoc]⟩
           have HKE := hide (hkw.out.trans (HKL.out.trans hkk.out))
           go_wp2_with fail
           first
            | exact ⟨⟨j + 1, by omega, by go_num, HRE, HKE⟩, by simp [intOf]; omega⟩
            | (refine ⟨?_, by simp [intOf]; omega⟩; (repeat apply Exists.intro); exact ⟨⟨j + 1, by omega, by go_num, HRE, HKE⟩, rfl⟩)
       ·have hli : ((xs.length : Int) != 2) = true := by simp; omega
        have HLN := hide hlen
        clear hlen
        go_wp2_with fail
        go_quiet (fail)
        have HBr := hide (show Below wx.heap.size wx (wx.drewN nq) from ⟨rfl, rfl, rfl, Nat.le_refl _, fun _ _ => rfl⟩)
        have HCr := hide (HCq.out.below HBr.out)
        have HTr := hide (Below.blk HBr.out HTq.out)
        have HKr := hide (HKq.out.trans (Kept.of (R := C) HBr.out))
        have HNW := hide (Below.blk HBr.out HNW.out)
        have u1 : (wx.drewN nq).cell? ⟨T, 1, none⟩ = some (.int .i64 p) := q1
        generalize wx.drewN nq = wy at *
        clear q0 q1 q4 q5 f2 hli hd5 hix 
        go_wp2_with fail
        refine (cfails_at 2 p HCr.out).mono ?_
        rintro e w4 ⟨rfl, hc4, hk4⟩
        have HC4 := hide hc4
        have HK4 : Hid (Kept C wr w4) := hide (HKr.out.trans hk4)
        have HT4 := hide (hk4.blk HTr.out HTC.out)
        have HN4 := hide (hk4.blk HNW.out HDC.out)
        clear hc4 hk4
        clear u1
        have s0 : w4.cell? ⟨T, 0, none⟩ = some (.int .i64 3) := by rw [blk_cell HT4.out]; rfl
        have HQ0 : Hid (Ck.bind (rj.bind fun _ => (.bad 2 p : Ck Unit)) (fun _ => argsC (findC ds) xs) = rj.bind fun _ => stC (findC ds) (.call p nm xs nn)) := hide (by cases rj <;> simp only [Ck.bind, stC, callC, declC, HF.out] <;> rw [if_neg (by rw [HDT.out]; decide), if_pos (by rw [HDT.out]; have := HLN.out; simp [argsN]; omega)])
        have HTL := hide (HT4.out)
        have HKL := hide (HK4.out)
        have t4 : w4.cell? ⟨T, 4, none⟩ = some (.slice xo xs.length xc) := by rw [blk_cell HTL.out]; rfl
        have HRL : Hid (∃ r1, Cst w4 C M ds r1 ∧ r1.bind (fun _ => argsC (findC ds) xs) = rj.bind fun _ => stC (findC ds) (.call p nm xs nn)) := hide ⟨_, HC4.out, HQ0.out⟩
        generalize w4 = wL at *
        go_wp2_with fail
        clear s0
        go_loopw [115] (fun i wk => ∃ k : Nat, k ≤ xs.length ∧ i = .int .i64 k ∧ Hid (∃ r1, Cst wk C M ds r1 ∧ r1.bind (fun _ => argsC (findC ds) (xs.drop k)) = rj.bind fun _ => stC (findC ds) (.call p nm xs nn)) ∧ Hid (Kept C wL wk)) (fun i _ => xs.length - (intOf i).toNat)
        case atStart => exact ⟨0, Nat.zero_le _, rfl, HRL, hide (Kept.refl _ _)⟩
        case round =>
         obtain ⟨k, hk, rfl, hrk, hkk⟩ := hrel
         obtain ⟨r1, hc1, he1⟩ := hrk.out
         have HR1 := hide hc1
         have HE1 := hide he1
         clear hc1 he1
         have hxm : xs.length ≤ 1000000 := HXM.out
         by_cases hlk : k < xs.length
         ·have hki : (k : Int) < (xs.length : Int) := by omega
          have HKA := hide (HKL.out.trans hkk.out)
          obtain ⟨vs, hrow, hall⟩ := HXS.out _ HKA.out
          obtain ⟨gx, cx, hvx, hSg⟩ := qrow_addr hrow (by omega)
          obtain ⟨rfl, rfl⟩ : xo = some ⟨gx, 0, none⟩ ∧ xc = cx := by cases hvx; exact ⟨rfl, rfl⟩
          obtain ⟨bx, hbx, hex⟩ := qexs_get hall k hlk
          have rx := qrow_cell hrow rfl hbx
          have HAD := hide (argsC_drop2 (findC ds) xs k hlk)
          have HGX := hide (HGXS.out _ (List.getElem_mem hlk))
          have HEX := hide hex
          generalize xs[k] = xk at *
          obtain ⟨PX, rfl⟩ := hex.ptr
          clear hvx hrow hall hbx hex
          go_wp2_with fail
          refine (cmust_at xk 1 S _ C M ds _ r1 HR1.out HEX.out HSS.out HGX.out).mono ?_
          rintro e wm ⟨rfl, hcm, hkm⟩
          have HRM : Hid (∃ r2, Cst wm C M ds r2 ∧ r2.bind (fun _ => argsC (findC ds) (xs.drop (k + 1))) = rj.bind fun _ => stC (findC ds) (.call p nm xs nn)) := hide ⟨_, hcm, by rw [← HE1.out, HAD.out, Ck.bind_assoc]⟩
          have HKM := hide (hkk.out.trans hkm)
          clear hcm hkm rx
          go_wp2_with fail
          first
           | exact ⟨⟨k + 1, by omega, by go_num, HRM, HKM⟩, by simp [intOf]; omega⟩
           | (refine ⟨?_, by simp [intOf]; omega⟩; (repeat apply Exists.intro); exact ⟨⟨k + 1, by omega, by go_num, HRM, HKM⟩, rfl⟩)
         ·have HJK : Hid (k = xs.length) := (by omega : k = xs.length)
          have HRE : Hid (∃ r2, Cst _ C M ds r2 ∧ (r.bind fun _ => stsC (findC ds) l) = r2.bind fun _ => stsC (findC ds) (l.drop (j + 1))) := hide ⟨r1, HR1.out, by
           have h1 := HE1.out
           rw [HJK.out, List.drop_length] at h1
           have h2 : r1 = rj.bind fun _ => stC (findC ds) (.call p nm xs nn) := by rw [← h1]; cases r1 <;> rfl
           rw [HEJ.out, HSD.out, h2, Ck.bind_assoc]⟩
          have HKE := hide (hkw.out.trans (HKL.out.trans hkk.out))
          go_wp2_with fail
          first
           | exact ⟨⟨j + 1, by omega, by go_num, HRE, HKE⟩, by simp [intOf]; omega⟩
           | (refine ⟨?_, by simp [intOf]; omega⟩; (repeat apply Exists.intro); exact ⟨⟨j + 1, by omega, by go_num, HRE, HKE⟩, rfl⟩)
      ·have HDT := hide hdt
       have hix : ∀ (w : World), (Instr.index 226 (.agg #[.int .i64 0, .int .i64 0, .int .i64 0, .int .i64 1, .int .i64 2, .int .i64 1]) (.int .i64 dt)).run Tryz.prog w = .ok (.int .i64 1) w := fun _ => by rw [hdt]; kernel_rfl
       have hd5 : ((dt : Int) == 5) = true := by rw [hdt]; rfl
       clear hdt
       by_cases hlen : xs.length = 1
       ·have hli : ((xs.length : Int) != 1) = false := by simp; omega
        have HLN := hide hlen
        clear hlen
        by_cases hn0 : nn = 0
        ·have hni : ((nn : Int) != 0) = false := by simp; omega
         have HNN := hide hn0
         clear hn0
         go_wp2_with fail
         go_quiet (fail)
         have HBr := hide (show Below wx.heap.size wx (wx.drewN nq) from ⟨rfl, rfl, rfl, Nat.le_refl _, fun _ _ => rfl⟩)
         have HCr := hide (HCq.out.below HBr.out)
         have HTr := hide (Below.blk HBr.out HTq.out)
         have HKr := hide (HKq.out.trans (Kept.of (R := C) HBr.out))
         have HNW := hide (Below.blk HBr.out HNW.out)
         have u1 : (wx.drewN nq).cell? ⟨T, 1, none⟩ = some (.int .i64 p) := q1
         generalize wx.drewN nq = wy at *
         clear q0 q1 q4 q5 f2 hli hd5 hix hni
         have s0 : wy.cell? ⟨T, 0, none⟩ = some (.int .i64 3) := by rw [blk_cell HTr.out]; rfl
         have HQ0 : Hid (Ck.bind (rj) (fun _ => argsC (findC ds) xs) = rj.bind fun _ => stC (findC ds) (.call p nm xs nn)) := hide (by cases rj <;> simp only [Ck.bind, stC, callC, declC, HF.out] <;> rw [if_neg (by rw [HDT.out]; decide), if_neg (by rw [HDT.out]; have := HLN.out; have := HNN.out; simp [argsN]; omega)])
         have HTL := hide (HTr.out)
         have HKL := hide (HKr.out)
         have t4 : wy.cell? ⟨T, 4, none⟩ = some (.slice xo xs.length xc) := by rw [blk_cell HTL.out]; rfl
         have HRL : Hid (∃ r1, Cst wy C M ds r1 ∧ r1.bind (fun _ => argsC (findC ds) xs) = rj.bind fun _ => stC (findC ds) (.call p nm xs nn)) := hide ⟨_, HCr.out, HQ0.out⟩
         generalize wy = wL at *
         go_wp2_with fail
         clear s0
         go_loopw [115] (fun i wk => ∃ k : Nat, k ≤ xs.length ∧ i = .int .i64 k ∧ Hid (∃ r1, Cst wk C M ds r1 ∧ r1.bind (fun _ => argsC (findC ds) (xs.drop k)) = rj.bind fun _ => stC (findC ds) (.call p nm xs nn)) ∧ Hid (Kept C wL wk)) (fun i _ => xs.length - (intOf i).toNat)
         case atStart => exact ⟨0, Nat.zero_le _, rfl, HRL, hide (Kept.refl _ _)⟩
         case round =>
          obtain ⟨k, hk, rfl, hrk, hkk⟩ := hrel
          obtain ⟨r1, hc1, he1⟩ := hrk.out
          have HR1 := hide hc1
          have HE1 := hide he1
          clear hc1 he1
          have hxm : xs.length ≤ 1000000 := HXM.out
          by_cases hlk : k < xs.length
          ·have hki : (k : Int) < (xs.length : Int) := by omega
           have HKA := hide (HKL.out.trans hkk.out)
           obtain ⟨vs, hrow, hall⟩ := HXS.out _ HKA.out
           obtain ⟨gx, cx, hvx, hSg⟩ := qrow_addr hrow (by omega)
           obtain ⟨rfl, rfl⟩ : xo = some ⟨gx, 0, none⟩ ∧ xc = cx := by cases hvx; exact ⟨rfl, rfl⟩
           obtain ⟨bx, hbx, hex⟩ := qexs_get hall k hlk
           have rx := qrow_cell hrow rfl hbx
           have HAD := hide (argsC_drop2 (findC ds) xs k hlk)
           have HGX := hide (HGXS.out _ (List.getElem_mem hlk))
           have HEX := hide hex
           generalize xs[k] = xk at *
           obtain ⟨PX, rfl⟩ := hex.ptr
           clear hvx hrow hall hbx hex
           go_wp2_with fail
           refine (cmust_at xk 1 S _ C M ds _ r1 HR1.out HEX.out HSS.out HGX.out).mono ?_
           rintro e wm ⟨rfl, hcm, hkm⟩
           have HRM : Hid (∃ r2, Cst wm C M ds r2 ∧ r2.bind (fun _ => argsC (findC ds) (xs.drop (k + 1))) = rj.bind fun _ => stC (findC ds) (.call p nm xs nn)) := hide ⟨_, hcm, by rw [← HE1.out, HAD.out, Ck.bind_assoc]⟩
           have HKM := hide (hkk.out.trans hkm)
           clear hcm hkm rx
           go_wp2_with fail
           first
            | exact ⟨⟨k + 1, by omega, by go_num, HRM, HKM⟩, by simp [intOf]; omega⟩
            | (refine ⟨?_, by simp [intOf]; omega⟩; (repeat apply Exists.intro); exact ⟨⟨k + 1, by omega, by go_num, HRM, HKM⟩, rfl⟩)
          ·have HJK : Hid (k = xs.length) := (by omega : k = xs.length)
           have HRE : Hid (∃ r2, Cst _ C M ds r2 ∧ (r.bind fun _ => stsC (findC ds) l) = r2.bind fun _ => stsC (findC ds) (l.drop (j + 1))) := hide ⟨r1, HR1.out, by
            have h1 := HE1.out
            rw [HJK.out, List.drop_length] at h1
            have h2 : r1 = rj.bind fun _ => stC (findC ds) (.call p nm xs nn) := by rw [← h1]; cases r1 <;> rfl
            rw [HEJ.out, HSD.out, h2, Ck.bind_assoc]⟩
           have HKE := hide (hkw.out.trans (HKL.out.trans hkk.out))
           go_wp2_with fail
           first
            | exact ⟨⟨j + 1, by omega, by go_num, HRE, HKE⟩, by simp [intOf]; omega⟩
            | (refine ⟨?_, by simp [intOf]; omega⟩; (repeat apply Exists.intro); exact ⟨⟨j + 1, by omega, by go_num, HRE, HKE⟩, rfl⟩)
        ·have hni : ((nn : Int) != 0) = true := by simp; omega
         have HNN := hide hn0
         clear hn0
         go_wp2_with fail
         go_quiet (fail)
         have HBr := hide (show Below wx.heap.size wx (wx.drewN nq) from ⟨rfl, rfl, rfl, Nat.le_refl _, fun _ _ => rfl⟩)
         have HCr := hide (HCq.out.below HBr.out)
         have HTr := hide (Below.blk HBr.out HTq.out)
         have HKr := hide (HKq.out.trans (Kept.of (R := C) HBr.out))
         have HNW := hide (Below.blk HBr.out HNW.out)
         have u1 : (wx.drewN nq).cell? ⟨T, 1, none⟩ = some (.int .i64 p) := q1
         generalize wx.drewN nq = wy at *
         clear q0 q1 q4 q5 f2 hli hd5 hix hni
         go_wp2_with fail
         refine (cfails_at 2 p HCr.out).mono ?_
         rintro e w4 ⟨rfl, hc4, hk4⟩
         have HC4 := hide hc4
         have HK4 : Hid (Kept C wr w4) := hide (HKr.out.trans hk4)
         have HT4 := hide (hk4.blk HTr.out HTC.out)
         have HN4 := hide (hk4.blk HNW.out HDC.out)
         clear hc4 hk4
         clear u1
         have s0 : w4.cell? ⟨T, 0, none⟩ = some (.int .i64 3) := by rw [blk_cell HT4.out]; rfl
         have HQ0 : Hid (Ck.bind (rj.bind fun _ => (.bad 2 p : Ck Unit)) (fun _ => argsC (findC ds) xs) = rj.bind fun _ => stC (findC ds) (.call p nm xs nn)) := hide (by cases rj <;> simp only [Ck.bind, stC, callC, declC, HF.out] <;> rw [if_neg (by rw [HDT.out]; decide), if_pos (by rw [HDT.out]; have := HNN.out; simp [argsN]; omega)])
         have HTL := hide (HT4.out)
         have HKL := hide (HK4.out)
         have t4 : w4.cell? ⟨T, 4, none⟩ = some (.slice xo xs.length xc) := by rw [blk_cell HTL.out]; rfl
         have HRL : Hid (∃ r1, Cst w4 C M ds r1 ∧ r1.bind (fun _ => argsC (findC ds) xs) = rj.bind fun _ => stC (findC ds) (.call p nm xs nn)) := hide ⟨_, HC4.out, HQ0.out⟩
         generalize w4 = wL at *
         go_wp2_with fail
         clear s0
         go_loopw [115] (fun i wk => ∃ k : Nat, k ≤ xs.length ∧ i = .int .i64 k ∧ Hid (∃ r1, Cst wk C M ds r1 ∧ r1.bind (fun _ => argsC (findC ds) (xs.drop k)) = rj.bind fun _ => stC (findC ds) (.call p nm xs nn)) ∧ Hid (Kept C wL wk)) (fun i _ => xs.length - (intOf i).toNat)
         case atStart => exact ⟨0, Nat.zero_le _, rfl, HRL, hide (Kept.refl _ _)⟩
         case round =>
          obtain ⟨k, hk, rfl, hrk, hkk⟩ := hrel
          obtain ⟨r1, hc1, he1⟩ := hrk.out
          have HR1 := hide hc1
          have HE1 := hide he1
          clear hc1 he1
          have hxm : xs.length ≤ 1000000 := HXM.out
          by_cases hlk : k < xs.length
          ·have hki : (k : Int) < (xs.length : Int) := by omega
           have HKA := hide (HKL.out.trans hkk.out)
           obtain ⟨vs, hrow, hall⟩ := HXS.out _ HKA.out
           obtain ⟨gx, cx, hvx, hSg⟩ := qrow_addr hrow (by omega)
           obtain ⟨rfl, rfl⟩ : xo = some ⟨gx, 0, none⟩ ∧ xc = cx := by cases hvx; exact ⟨rfl, rfl⟩
           obtain ⟨bx, hbx, hex⟩ := qexs_get hall k hlk
           have rx := qrow_cell hrow rfl hbx
           have HAD := hide (argsC_drop2 (findC ds) xs k hlk)
           have HGX := hide (HGXS.out _ (List.getElem_mem hlk))
           have HEX := hide hex
           generalize xs[k] = xk at *
           obtain ⟨PX, rfl⟩ := hex.ptr
           clear hvx hrow hall hbx hex
           go_wp2_with fail
           refine (cmust_at xk 1 S _ C M ds _ r1 HR1.out HEX.out HSS.out HGX.out).mono ?_
           rintro e wm ⟨rfl, hcm, hkm⟩
           have HRM : Hid (∃ r2, Cst wm C M ds r2 ∧ r2.bind (fun _ => argsC (findC ds) (xs.drop (k + 1))) = rj.bind fun _ => stC (findC ds) (.call p nm xs nn)) := hide ⟨_, hcm, by rw [← HE1.out, HAD.out, Ck.bind_assoc]⟩
           have HKM := hide (hkk.out.trans hkm)
           clear hcm hkm rx
           go_wp2_with fail
           first
            | exact ⟨⟨k + 1, by omega, by go_num, HRM, HKM⟩, by simp [intOf]; omega⟩
            | (refine ⟨?_, by simp [intOf]; omega⟩; (repeat apply Exists.intro); exact ⟨⟨k + 1, by omega, by go_num, HRM, HKM⟩, rfl⟩)
          ·have HJK : Hid (k = xs.length) := (by omega : k = xs.length)
           have HRE : Hid (∃ r2, Cst _ C M ds r2 ∧ (r.bind fun _ => stsC (findC ds) l) = r2.bind fun _ => stsC (findC ds) (l.drop (j + 1))) := hide ⟨r1, HR1.out, by
            have h1 := HE1.out
            rw [HJK.out, List.drop_length] at h1
            have h2 : r1 = rj.bind fun _ => stC (findC ds) (.call p nm xs nn) := by rw [← h1]; cases r1 <;> rfl
            rw [HEJ.out, HSD.out, h2, Ck.bind_assoc]⟩
           have HKE := hide (hkw.out.trans (HKL.out.trans hkk.out))
           go_wp2_with fail
           first
            | exact ⟨⟨j + 1, by omega, by go_num, HRE, HKE⟩, by simp [intOf]; omega⟩
            | (refine ⟨?_, by simp [intOf]; omega⟩; (repeat apply Exists.intro); exact ⟨⟨j + 1, by omega, by go_num, HRE, HKE⟩, rfl⟩)
       ·have hli : ((xs.length : Int) != 1) = true := by simp; omega
        have HLN := hide hlen
        clear hlen
        go_wp2_with fail
        go_quiet (fail)
        have HBr := hide (show Below wx.heap.size wx (wx.drewN nq) from ⟨rfl, rfl, rfl, Nat.le_refl _, fun _ _ => rfl⟩)
        have HCr := hide (HCq.out.below HBr.out)
        have HTr := hide (Below.blk HBr.out HTq.out)
        have HKr := hide (HKq.out.trans (Kept.of (R := C) HBr.out))
        have HNW := hide (Below.blk HBr.out HNW.out)
        have u1 : (wx.drewN nq).cell? ⟨T, 1, none⟩ = some (.int .i64 p) := q1
        generalize wx.drewN nq = wy at *
        clear q0 q1 q4 q5 f2 hli hd5 hix 
        go_wp2_with fail
        refine (cfails_at 2 p HCr.out).mono ?_
        rintro e w4 ⟨rfl, hc4, hk4⟩
        have HC4 := hide hc4
        have HK4 : Hid (Kept C wr w4) := hide (HKr.out.trans hk4)
        have HT4 := hide (hk4.blk HTr.out HTC.out)
        have HN4 := hide (hk4.blk HNW.out HDC.out)
        clear hc4 hk4
        clear u1
        have s0 : w4.cell? ⟨T, 0, none⟩ = some (.int .i64 3) := by rw [blk_cell HT4.out]; rfl
        have HQ0 : Hid (Ck.bind (rj.bind fun _ => (.bad 2 p : Ck Unit)) (fun _ => argsC (findC ds) xs) = rj.bind fun _ => stC (findC ds) (.call p nm xs nn)) := hide (by cases rj <;> simp only [Ck.bind, stC, callC, declC, HF.out] <;> rw [if_neg (by rw [HDT.out]; decide), if_pos (by rw [HDT.out]; have := HLN.out; simp [argsN]; omega)])
        have HTL := hide (HT4.out)
        have HKL := hide (HK4.out)
        have t4 : w4.cell? ⟨T, 4, none⟩ = some (.slice xo xs.length xc) := by rw [blk_cell HTL.out]; rfl
        have HRL : Hid (∃ r1, Cst w4 C M ds r1 ∧ r1.bind (fun _ => argsC (findC ds) xs) = rj.bind fun _ => stC (findC ds) (.call p nm xs nn)) := hide ⟨_, HC4.out, HQ0.out⟩
        generalize w4 = wL at *
        go_wp2_with fail
        clear s0
        go_loopw [115] (fun i wk => ∃ k : Nat, k ≤ xs.length ∧ i = .int .i64 k ∧ Hid (∃ r1, Cst wk C M ds r1 ∧ r1.bind (fun _ => argsC (findC ds) (xs.drop k)) = rj.bind fun _ => stC (findC ds) (.call p nm xs nn)) ∧ Hid (Kept C wL wk)) (fun i _ => xs.length - (intOf i).toNat)
        case atStart => exact ⟨0, Nat.zero_le _, rfl, HRL, hide (Kept.refl _ _)⟩
        case round =>
         obtain ⟨k, hk, rfl, hrk, hkk⟩ := hrel
         obtain ⟨r1, hc1, he1⟩ := hrk.out
         have HR1 := hide hc1
         have HE1 := hide he1
         clear hc1 he1
         have hxm : xs.length ≤ 1000000 := HXM.out
         by_cases hlk : k < xs.length
         ·have hki : (k : Int) < (xs.length : Int) := by omega
          have HKA := hide (HKL.out.trans hkk.out)
          obtain ⟨vs, hrow, hall⟩ := HXS.out _ HKA.out
          obtain ⟨gx, cx, hvx, hSg⟩ := qrow_addr hrow (by omega)
          obtain ⟨rfl, rfl⟩ : xo = some ⟨gx, 0, none⟩ ∧ xc = cx := by cases hvx; exact ⟨rfl, rfl⟩
          obtain ⟨bx, hbx, hex⟩ := qexs_get hall k hlk
          have rx := qrow_cell hrow rfl hbx
          have HAD := hide (argsC_drop2 (findC ds) xs k hlk)
          have HGX := hide (HGXS.out _ (List.getElem_mem hlk))
          have HEX := hide hex
          generalize xs[k] = xk at *
          obtain ⟨PX, rfl⟩ := hex.ptr
          clear hvx hrow hall hbx hex
          go_wp2_with fail
          refine (cmust_at xk 1 S _ C M ds _ r1 HR1.out HEX.out HSS.out HGX.out).mono ?_
          rintro e wm ⟨rfl, hcm, hkm⟩
          have HRM : Hid (∃ r2, Cst wm C M ds r2 ∧ r2.bind (fun _ => argsC (findC ds) (xs.drop (k + 1))) = rj.bind fun _ => stC (findC ds) (.call p nm xs nn)) := hide ⟨_, hcm, by rw [← HE1.out, HAD.out, Ck.bind_assoc]⟩
          have HKM := hide (hkk.out.trans hkm)
          clear hcm hkm rx
          go_wp2_with fail
          first
           | exact ⟨⟨k + 1, by omega, by go_num, HRM, HKM⟩, by simp [intOf]; omega⟩
           | (refine ⟨?_, by simp [intOf]; omega⟩; (repeat apply Exists.intro); exact ⟨⟨k + 1, by omega, by go_num, HRM, HKM⟩, rfl⟩)
         ·have HJK : Hid (k = xs.length) := (by omega : k = xs.length)
          have HRE : Hid (∃ r2, Cst _ C M ds r2 ∧ (r.bind fun _ => stsC (findC ds) l) = r2.bind fun _ => stsC (findC ds) (l.drop (j + 1))) := hide ⟨r1, HR1.out, by
           have h1 := HE1.out
           rw [HJK.out, List.drop_length] at h1
           have h2 : r1 = rj.bind fun _ => stC (findC ds) (.call p nm xs nn) := by rw [← h1]; cases r1 <;> rfl
           rw [HEJ.out, HSD.out, h2, Ck.bind_assoc]⟩
          have HKE := hide (hkw.out.trans (HKL.out.trans hkk.out))
          go_wp2_with fail
          first
           | exact ⟨⟨j + 1, by omega, by go_num, HRE, HKE⟩, by simp [intOf]; omega⟩
           | (refine ⟨?_, by simp [intOf]; omega⟩; (repeat apply Exists.intro); exact ⟨⟨j + 1, by omega, by go_num, HRE, HKE⟩, rfl⟩)
     ·have HW0 := hide hw0
      have hwi : (0 : Int) < ((widthN dt : Nat) : Int) := by omega
      have hwn : 0 < widthN dt := by omega
      generalize widthN dt = wt at HWI hwi hwn
      clear hw0
      go_wp2_with fail
      go_quiet ((go_at_call 102; exact Calls.quiet_of_same (HWI.out _)))
      have HBq := hide (show Below wd.heap.size wd (wd.drewN nq) from ⟨rfl, rfl, rfl, Nat.le_refl _, fun _ _ => rfl⟩)
      have HCq := hide (HCd.out.below HBq.out)
      have HTq := hide (Below.blk HBq.out HTd.out)
      have HKq := hide (HKd.out.trans (Kept.of (R := C) HBq.out))
      have HNW := hide (Below.blk HBq.out HND.out)
      have q1 : (wd.drewN nq).cell? ⟨T, 1, none⟩ = some (.int .i64 p) := t1
      generalize wd.drewN nq = wx at *
      clear t0 t1 d1 d2 t4d t5d HWI
      go_wp2_with fail
      clear hwi hwn
      refine (cfails_at 1 p HCq.out).mono ?_
      rintro e w4 ⟨rfl, hc4, hk4⟩
      have HC4 := hide hc4
      have HK4 : Hid (Kept C wr w4) := hide (HKq.out.trans hk4)
      have HT4 := hide (hk4.blk HTq.out HTC.out)
      have HN4 := hide (hk4.blk HNW.out HDC.out)
      clear hc4 hk4
      clear q1
      have s0 : w4.cell? ⟨T, 0, none⟩ = some (.int .i64 3) := by rw [blk_cell HT4.out]; rfl
      have HQ0 : Hid (Ck.bind (rj.bind fun _ => (.bad 1 p : Ck Unit)) (fun _ => argsC (findC ds) xs) = rj.bind fun _ => stC (findC ds) (.call p nm xs nn)) := hide (by cases rj <;> simp only [Ck.bind, stC, callC, declC, HF.out] <;> rw [if_pos (width_args HTY.out HW0.out)])
      have HTL := hide (HT4.out)
      have HKL := hide (HK4.out)
      have t4 : w4.cell? ⟨T, 4, none⟩ = some (.slice xo xs.length xc) := by rw [blk_cell HTL.out]; rfl
      have HRL : Hid (∃ r1, Cst w4 C M ds r1 ∧ r1.bind (fun _ => argsC (findC ds) xs) = rj.bind fun _ => stC (findC ds) (.call p nm xs nn)) := hide ⟨_, HC4.out, HQ0.out⟩
      generalize w4 = wL at *
      go_wp2_with fail
      clear s0
      go_loopw [115] (fun i wk => ∃ k : Nat, k ≤ xs.length ∧ i = .int .i64 k ∧ Hid (∃ r1, Cst wk C M ds r1 ∧ r1.bind (fun _ => argsC (findC ds) (xs.drop k)) = rj.bind fun _ => stC (findC ds) (.call p nm xs nn)) ∧ Hid (Kept C wL wk)) (fun i _ => xs.length - (intOf i).toNat)
      case atStart => exact ⟨0, Nat.zero_le _, rfl, HRL, hide (Kept.refl _ _)⟩
      case round =>
       obtain ⟨k, hk, rfl, hrk, hkk⟩ := hrel
       obtain ⟨r1, hc1, he1⟩ := hrk.out
       have HR1 := hide hc1
       have HE1 := hide he1
       clear hc1 he1
       have hxm : xs.length ≤ 1000000 := HXM.out
       by_cases hlk : k < xs.length
       ·have hki : (k : Int) < (xs.length : Int) := by omega
        have HKA := hide (HKL.out.trans hkk.out)
        obtain ⟨vs, hrow, hall⟩ := HXS.out _ HKA.out
        obtain ⟨gx, cx, hvx, hSg⟩ := qrow_addr hrow (by omega)
        obtain ⟨rfl, rfl⟩ : xo = some ⟨gx, 0, none⟩ ∧ xc = cx := by cases hvx; exact ⟨rfl, rfl⟩
        obtain ⟨bx, hbx, hex⟩ := qexs_get hall k hlk
        have rx := qrow_cell hrow rfl hbx
        have HAD := hide (argsC_drop2 (findC ds) xs k hlk)
        have HGX := hide (HGXS.out _ (List.getElem_mem hlk))
        have HEX := hide hex
        generalize xs[k] = xk at *
        obtain ⟨PX, rfl⟩ := hex.ptr
        clear hvx hrow hall hbx hex
        go_wp2_with fail
        refine (cmust_at xk 1 S _ C M ds _ r1 HR1.out HEX.out HSS.out HGX.out).mono ?_
        rintro e wm ⟨rfl, hcm, hkm⟩
        have HRM : Hid (∃ r2, Cst wm C M ds r2 ∧ r2.bind (fun _ => argsC (findC ds) (xs.drop (k + 1))) = rj.bind fun _ => stC (findC ds) (.call p nm xs nn)) := hide ⟨_, hcm, by rw [← HE1.out, HAD.out, Ck.bind_assoc]⟩
        have HKM := hide (hkk.out.trans hkm)
        clear hcm hkm rx
        go_wp2_with fail
        first
         | exact ⟨⟨k + 1, by omega, by go_num, HRM, HKM⟩, by simp [intOf]; omega⟩
         | (refine ⟨?_, by simp [intOf]; omega⟩; (repeat apply Exists.intro); exact ⟨⟨k + 1, by omega, by go_num, HRM, HKM⟩, rfl⟩)
       ·have HJK : Hid (k = xs.length) := (by omega : k = xs.length)
        have HRE : Hid (∃ r2, Cst _ C M ds r2 ∧ (r.bind fun _ => stsC (findC ds) l) = r2.bind fun _ => stsC (findC ds) (l.drop (j + 1))) := hide ⟨r1, HR1.out, by
         have h1 := HE1.out
         rw [HJK.out, List.drop_length] at h1
         have h2 : r1 = rj.bind fun _ => stC (findC ds) (.call p nm xs nn) := by rw [← h1]; cases r1 <;> rfl
         rw [HEJ.out, HSD.out, h2, Ck.bind_assoc]⟩
        have HKE := hide (hkw.out.trans (HKL.out.trans hkk.out))
        go_wp2_with fail
        first
         | exact ⟨⟨j + 1, by omega, by go_num, HRE, HKE⟩, by simp [intOf]; omega⟩
         | (refine ⟨?_, by simp [intOf]; omega⟩; (repeat apply Exists.intro); exact ⟨⟨j + 1, by omega, by go_num, HRE, HKE⟩, rfl⟩)
   | cond p x th el =>
    have hst := HST.out
    simp only [IsSt] at hst
    obtain ⟨a, t, u, cs, es, rfl, hxa, h1, h2, h3, h4⟩ := hst
    obtain ⟨X, rfl⟩ := hxa.ptr
    obtain ⟨ta, tc, rfl⟩ := h1.val
    obtain ⟨ua, uc, rfl⟩ := h3.val
    have HXA := hide hxa
    have HTH : Hid (IsSts S wr th (.slice ta th.length tc)) := hide ⟨cs, h1, h2⟩
    have HEL : Hid (IsSts S wr el (.slice ua el.length uc)) := hide ⟨es, h3, h4⟩
    have hgs := HGS.out
    simp only [GoodSt] at hgs
    have HG := hide hgs
    clear hxa h1 h2 h3 h4 hgs HST
    have r0 : wr.cell? ⟨g, j * 8, none⟩ = some (.int .i64 2) := HCELL.out 0 _ rfl (by decide)
    have r1 : wr.cell? ⟨g, j * 8 + 1, none⟩ = some (.int .i64 p) := HCELL.out 1 _ rfl (by decide)
    have r2 : wr.cell? ⟨g, j * 8 + 2, none⟩ = some (.string ⟨#[]⟩) := HCELL.out 2 _ rfl (by decide)
    have r3 : wr.cell? ⟨g, j * 8 + 3, none⟩ = some (.pointer (some ⟨X, 0, none⟩)) := HCELL.out 3 _ rfl (by decide)
    have r4 : wr.cell? ⟨g, j * 8 + 4, none⟩ = some (.slice none 0 0) := HCELL.out 4 _ rfl (by decide)
    have r5 : wr.cell? ⟨g, j * 8 + 5, none⟩ = some (.int .i64 0) := HCELL.out 5 _ rfl (by decide)
    have r6 : wr.cell? ⟨g, j * 8 + 6, none⟩ = some (.slice ta th.length tc) := HCELL.out 6 _ rfl (by decide)
    have r7 : wr.cell? ⟨g, j * 8 + 7, none⟩ = some (.slice ua el.length uc) := HCELL.out 7 _ rfl (by decide)
    have HBt := hide (below_alloc wr (.cells #[.int .i64 2, .int .i64 p, .string ⟨#[]⟩, .pointer (some ⟨X, 0, none⟩), .slice none 0 0, .int .i64 0, .slice ta th.length tc, .slice ua el.length uc] 117))
    have HNt := hide (blk_new wr (.cells #[.int .i64 2, .int .i64 p, .string ⟨#[]⟩, .pointer (some ⟨X, 0, none⟩), .slice none 0 0, .int .i64 0, .slice ta th.length tc, .slice ua el.length uc] 117))
    have HCt := hide (HCR.out.below HBt.out)
    obtain ⟨dd, hdd⟩ : ∃ q, q = gotD ds ⟨#[]⟩ := ⟨_, rfl⟩
    have HDD := hide hdd
    have HLK : Hid (∀ W : World, W.heap[M]? = some (.map (entsD 0 ds).toArray ds.length) → (Instr.lookup 142 (.map (some M)) (.string ⟨#[]⟩) true).run Tryz.prog W = .ok (.tuple #[deV dd.1, .bool dd.2]) W) := hide fun W hW => by rw [hdd]; exact lookD hW ⟨#[]⟩
    clear hdd
    obtain ⟨⟨dn, dw, dt, di⟩, dok⟩ := dd
    go_wp2_with fail
    have HTC : Hid (wr.heap.size ≠ C) := hide (by have := HCLT.out; have := hkw.out.size; omega)
    generalize wr.alloc (.cells #[.int .i64 2, .int .i64 p, .string ⟨#[]⟩, .pointer (some ⟨X, 0, none⟩), .slice none 0 0, .int .i64 0, .slice ta th.length tc, .slice ua el.length uc] 117) = wq at *
    generalize hTe : wr.heap.size = T at HNt HTC ⊢
    have HTW : Hid (wr.heap.size ≤ T) := hide (by omega)
    clear hTe
    obtain ⟨mm, hmm⟩ := HCt.out.me'
    have HS : Hid (wq.drew.cell? ⟨C, 0, none⟩ = some (.map (some M)) ∧ wq.drew.cell? ⟨T, 2, none⟩ = some (.string ⟨#[]⟩) ∧ wq.drew.heap[M]? = some (.map (entsD 0 ds).toArray ds.length)) := hide ⟨hmm, by show wq.cell? _ = _; rw [blk_cell HNt.out]; rfl, mm⟩
    clear mm hmm
    refine wp_region_held_drew (S := fun W => W.cell? ⟨C, 0, none⟩ = some (.map (some M)) ∧ W.cell? ⟨T, 2, none⟩ = some (.string ⟨#[]⟩) ∧ W.heap[M]? = some (.map (entsD 0 ds).toArray ds.length)) (by kernel_rfl) HS.out (fun _ => ?_)
    refine tkA 0 17 (.pointer (some ⟨C, 0, none⟩)) rfl (by kernel_rfl) (fun _ _ _ h => h) rfl (fun W hS => by go_simp) HS.out ?_
    simp only [pu]
    refine tkA 1 18 (.pointer (some ⟨C, 0, none⟩)) rfl (by kernel_rfl) (fun _ _ _ h => h) rfl (fun W hS => by go_simp) HS.out ?_
    simp only [pu]
    refine tkA 2 19 (.pointer (some ⟨C, 0, none⟩)) rfl (by kernel_rfl) (fun _ _ _ h => h) rfl (fun W hS => by go_simp) HS.out ?_
    simp only [pu]
    refine tkA 3 20 (.map (some M)) rfl (by kernel_rfl) (fun _ _ _ h => h) rfl (fun W hS => by (have h0 := hS.1; go_simp)) HS.out ?_
    simp only [pu]
    refine tkA 4 21 (.pointer (some ⟨T, 2, none⟩)) rfl (by kernel_rfl) (fun _ _ _ h => h) rfl (fun W hS => by go_simp) HS.out ?_
    simp only [pu]
    refine tkA 5 22 (.string ⟨#[]⟩) rfl (by kernel_rfl) (fun _ _ _ h => h) rfl (fun W hS => by (have h0 := hS.2.1; go_simp)) HS.out ?_
    simp only [pu]
    refine tkA 6 23 (.tuple #[.agg #[.string dn, .int .i64 dw, .int .i64 dt, .int .i64 di], .bool dok]) rfl (by kernel_rfl) (fun _ _ _ h => h) rfl (fun W hS => by (have h0 := HLK.out W hS.2.2; go_simp)) HS.out ?_
    simp only [pu]
    refine tkA 7 16 (.tuple #[.agg #[.string dn, .int .i64 dw, .int .i64 dt, .int .i64 di], .bool dok]) rfl (by kernel_rfl) (fun _ _ _ h => h) rfl (fun W hS => by go_simp) HS.out ?_
    simp only [pu]
    refine tkA 8 24 (.agg #[.string dn, .int .i64 dw, .int .i64 dt, .int .i64 di]) rfl (by kernel_rfl) (fun _ _ _ h => h) rfl (fun W hS => by go_simp) HS.out ?_
    simp only [pu]
    refine tkA 9 25 (.bool dok) rfl (by kernel_rfl) (fun _ _ _ h => h) rfl (fun W hS => by go_simp) HS.out ?_
    simp only [pu]
    refine wpAnyH_ready (rs := [10]) (by kernel_rfl) (by simp) ?_
    refine AllReadyH.cons rfl (fun K hK => ?_) AllReadyH.nil
    go_simp
    have HBa := hide (below_alloc wq (.cells #[.string ⟨#[]⟩, .int .i64 0, .int .i64 0, .int .i64 0] 60))
    have HSa : Hid ((wq.alloc (.cells #[.string ⟨#[]⟩, .int .i64 0, .int .i64 0, .int .i64 0] 60)).drew.cell? ⟨C, 0, none⟩ = some (.map (some M)) ∧ (wq.alloc (.cells #[.string ⟨#[]⟩, .int .i64 0, .int .i64 0, .int .i64 0] 60)).drew.cell? ⟨T, 2, none⟩ = some (.string ⟨#[]⟩) ∧ (wq.alloc (.cells #[.string ⟨#[]⟩, .int .i64 0, .int .i64 0, .int .i64 0] 60)).drew.heap[M]? = some (.map (entsD 0 ds).toArray ds.length)) := hide ⟨(HBa.out.cell (cell_lt (w := wq) HS.out.1)).trans HS.out.1, (HBa.out.cell (cell_lt (w := wq) HS.out.2.1)).trans HS.out.2.1, Below.blk HBa.out HS.out.2.2⟩
    refine hK.out _ _ HSa.out (fun _ => ?_)
    clear hK K
    have HNa : Hid ((wq.alloc (.cells #[.string ⟨#[]⟩, .int .i64 0, .int .i64 0, .int .i64 0] 60)).drew.heap[wq.heap.size]? = some (.cells #[.string ⟨#[]⟩, .int .i64 0, .int .i64 0, .int .i64 0] 60 (0, 0))) := hide (blk_new wq _)
    have HBb : Hid (Below wq.heap.size wq (wq.alloc (.cells #[.string ⟨#[]⟩, .int .i64 0, .int .i64 0, .int .i64 0] 60)).drew) := hide HBa.out.drew
    have HNE : Hid (wq.heap.size ≠ C ∧ wq.heap.size ≠ T ∧ wq.heap.size ≠ M) := hide ⟨by have := cell_lt (w := wq) HS.out.1; intro e; rw [← e] at this; exact Nat.lt_irrefl _ this, by have := blk_lt HNt.out; intro e; rw [← e] at this; exact Nat.lt_irrefl _ this, by have := blk_lt (w := wq) HS.out.2.2; intro e; rw [← e] at this; exact Nat.lt_irrefl _ this⟩
    generalize (wq.alloc (.cells #[.string ⟨#[]⟩, .int .i64 0, .int .i64 0, .int .i64 0] 60)).drew = wa at *
    generalize hD : wq.heap.size = D at HNa HNE ⊢
    have z0 : wa.cell? ⟨D, 0, none⟩ = some (.string ⟨#[]⟩) := by rw [blk_cell HNa.out]; rfl
    have z1 : wa.cell? ⟨D, 1, none⟩ = some (.int .i64 0) := by rw [blk_cell HNa.out]; rfl
    have z2 : wa.cell? ⟨D, 2, none⟩ = some (.int .i64 0) := by rw [blk_cell HNa.out]; rfl
    have z3 : wa.cell? ⟨D, 3, none⟩ = some (.int .i64 0) := by rw [blk_cell HNa.out]; rfl
    have zf : ∀ i, wa.frozen? ⟨D, i, none⟩ = false := blk_frozen HNa.out
    refine wpAnyH_ready (rs := [11]) (by kernel_rfl) (by simp) ?_
    refine AllReadyH.cons rfl (fun K hK => ?_) AllReadyH.nil
    go_simp
    have hoth : ∀ b, b ≠ D → ((((wa.setCell ⟨D, 0, none⟩ (.string dn)).setCell ⟨D, 1, none⟩ (.int .i64 dw)).setCell ⟨D, 2, none⟩ (.int .i64 dt)).setCell ⟨D, 3, none⟩ (.int .i64 di)).heap[b]? = wa.heap[b]? := fun b hb => (set_other _ 3 _ hb).trans ((set_other _ 2 _ hb).trans ((set_other _ 1 _ hb).trans (set_other _ 0 _ hb)))
    have HSb : Hid (((((wa.setCell ⟨D, 0, none⟩ (.string dn)).setCell ⟨D, 1, none⟩ (.int .i64 dw)).setCell ⟨D, 2, none⟩ (.int .i64 dt)).setCell ⟨D, 3, none⟩ (.int .i64 di)).cell? ⟨C, 0, none⟩ = some (.map (some M)) ∧ ((((wa.setCell ⟨D, 0, none⟩ (.string dn)).setCell ⟨D, 1, none⟩ (.int .i64 dw)).setCell ⟨D, 2, none⟩ (.int .i64 dt)).setCell ⟨D, 3, none⟩ (.int .i64 di)).cell? ⟨T, 2, none⟩ = some (.string ⟨#[]⟩) ∧ ((((wa.setCell ⟨D, 0, none⟩ (.string dn)).setCell ⟨D, 1, none⟩ (.int .i64 dw)).setCell ⟨D, 2, none⟩ (.int .i64 dt)).setCell ⟨D, 3, none⟩ (.int .i64 di)).heap[M]? = some (.map (entsD 0 ds).toArray ds.length)) := hide ⟨(World.cell?_of_block (hoth C (Ne.symm HNE.out.1))).trans HSa.out.1, (World.cell?_of_block (hoth T (Ne.symm HNE.out.2.1))).trans HSa.out.2.1, (hoth M (Ne.symm HNE.out.2.2)).trans HSa.out.2.2⟩
    have HND : Hid (((((wa.setCell ⟨D, 0, none⟩ (.string dn)).setCell ⟨D, 1, none⟩ (.int .i64 dw)).setCell ⟨D, 2, none⟩ (.int .i64 dt)).setCell ⟨D, 3, none⟩ (.int .i64 di)).heap[D]? = some (.cells #[.string dn, .int .i64 dw, .int .i64 dt, .int .i64 di] 60 (0, 0))) := hide (by rw [blk_set (blk_set (blk_set (blk_set HNa.out 0 _) 1 _) 2 _) 3 _]; simp only [List.setIfInBounds_toArray, List.set_cons_zero, List.set_cons_succ])
    have HBd : Hid (Below wq.heap.size wq ((((wa.setCell ⟨D, 0, none⟩ (.string dn)).setCell ⟨D, 1, none⟩ (.int .i64 dw)).setCell ⟨D, 2, none⟩ (.int .i64 dt)).setCell ⟨D, 3, none⟩ (.int .i64 di))) := hide ((((HBb.out.setCell (by rw [hD]; exact Nat.le_refl _) _).setCell (by rw [hD]; exact Nat.le_refl _) _).setCell (by rw [hD]; exact Nat.le_refl _) _).setCell (by rw [hD]; exact Nat.le_refl _) _)
    refine hK.out _ _ HSb.out (fun _ => ?_)
    clear hK K z0 z1 z2 z3 zf hoth
    generalize (((wa.setCell ⟨D, 0, none⟩ (.string dn)).setCell ⟨D, 1, none⟩ (.int .i64 dw)).setCell ⟨D, 2, none⟩ (.int .i64 dt)).setCell ⟨D, 3, none⟩ (.int .i64 di) = wd at *
    refine tkA 12 7 (.bool dok) rfl (by kernel_rfl) (fun _ _ _ h => h) rfl (fun W hS => by go_simp) HSb.out ?_
    simp only [pu]
    refine wpAnyH_done (by kernel_rfl) ?_ _
    have HCd := hide (HCt.out.below HBd.out)
    have HTd := hide (Below.blk HBd.out HNt.out)
    have HBw : Hid (Below wr.heap.size wr wd) := hide (Below.step HBt.out HBd.out)
    have HDC : Hid (D ≠ C) := hide HNE.out.1
    clear HS HSa HSb HNa HBa HBb HNE hD HNt HCt HLK HBt HBd
    have t0 : wd.cell? ⟨T, 0, none⟩ = some (.int .i64 2) := by rw [blk_cell HTd.out]; rfl
    have t3 : wd.cell? ⟨T, 3, none⟩ = some (.pointer (some ⟨X, 0, none⟩)) := by rw [blk_cell HTd.out]; rfl
    clear HDD HND HDC r0 r1 r2 r3 r4 r5 r6 r7
    go_wp2_with fail
    refine (cmust_at x 1 S wd C M ds _ rj HCd.out (HXA.out.below HBw.out) HSS.out HG.out.1.1).mono ?_
    rintro e w1 ⟨rfl, hc1, hk1⟩
    have HC1 := hide hc1
    have HK1 : Hid (Kept C wr w1) := hide ((Kept.of (R := C) HBw.out).trans hk1)
    have HT1 := hide (hk1.blk HTd.out HTC.out)
    clear hc1 hk1 t0 t3
    have t6 : w1.cell? ⟨T, 6, none⟩ = some (.slice ta th.length tc) := by rw [blk_cell HT1.out]; rfl
    go_wp2_with fail
    refine (HIH.out.1 S w1 C M ds _ _ HC1.out (HTH.out.past HK1.out HSS.out) HSS.out HG.out.2.1 HDS.out).mono ?_
    rintro e w2 ⟨rfl, hc2, hk2⟩
    have HC2 := hide hc2
    have HK2 : Hid (Kept C wr w2) := hide (HK1.out.trans hk2)
    have HT2 := hide (hk2.blk HT1.out HTC.out)
    clear hc2 hk2 t6
    have t7 : w2.cell? ⟨T, 7, none⟩ = some (.slice ua el.length uc) := by rw [blk_cell HT2.out]; rfl
    go_wp2_with fail
    refine (HIH.out.2 S w2 C M ds _ _ HC2.out (HEL.out.past HK2.out HSS.out) HSS.out HG.out.2.2 HDS.out).mono ?_
    rintro e w3 ⟨rfl, hc3, hk3⟩
    have HRE : Hid (∃ r2, Cst w3 C M ds r2 ∧ (r.bind fun _ => stsC (findC ds) l) = r2.bind fun _ => stsC (findC ds) (l.drop (j + 1))) := hide ⟨_, hc3, by rw [HEJ.out, HSD.out]; simp only [stC, thenS, elseS, Ck.bind_assoc]⟩
    have HKE := hide (hkw.out.trans (HK2.out.trans hk3))
    clear hc3 hk3 t7
    go_wp2_with fail
    exact ⟨⟨j + 1, by omega, by go_num, HRE, HKE⟩, by simp [intOf]; omega⟩
  ·have HJ : Hid (j = l.length) := (by omega : j = l.length)
   go_wp2_with fail
   go_end0
   refine ⟨rfl, ?_, hkw.out⟩
   have h := HEJ.out
   rw [HJ.out, List.drop_length] at h
   rw [h]
   have h2 : (rj.bind fun _ => stsC (findC ds) []) = rj := by cases rj <;> simp only [Ck.bind, stsC]
   rw [h2]
   exact HCR.out
end Go.Proofs.YtalolaikhloopaaGreatDoor
