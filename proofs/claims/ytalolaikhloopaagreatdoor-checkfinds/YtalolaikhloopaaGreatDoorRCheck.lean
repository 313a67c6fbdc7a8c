/-
 CONTRACT of Check of the reference: it is what check.Check is.
-/
import Derived.Test.YtalolaikhloopaaGreatDoorTk
import Derived.Test.YtalolaikhloopaaGreatDoorRChkB
import Derived.Test.YtalolaikhloopaaGreatDoorJWant
import Derived.Test.YtalolaikhloopaaGreatDoorJRound
namespace Go.Proofs.YtalolaikhloopaaGreatDoor
open Go.RowKit
set_option linter.unusedSimpArgs false
set_option linter.unusedVariables false

theorem bodyNone : BR [] := cbody_at [] (by simp) (fun s h => by cases h) (fun s h => by cases h)
theorem cbody_all : ∀ (n : Nat) (l : List St), depL l ≤ n → l.length ≤ 1000000 → QmL l → BR l := by
 intro n
 induction n with
 | zero =>
  intro l hd hll hg
  refine cbody_at l hll (fun s hm => ?_) (fun s hm => ?_)
  ·have h := qmL_mem hg s hm
   cases s with
   | set => simp [argS]
   | call p s l n => simp only [QmS] at h; exact h
   | cond => simp [argS]
  ·cases s with
   | set => exact ⟨bodyNone, bodyNone⟩
   | call => exact ⟨bodyNone, bodyNone⟩
   | cond p x th el =>
    exfalso
    have : ∀ (l : List St), St.cond p x th el ∈ l → 1 ≤ depL l := by
     intro l
     induction l with
     | nil => intro h; cases h
     | cons s l ih =>
      intro h
      simp only [depL]
      rcases List.mem_cons.1 h with e | e
      ·rw [← e]; simp only [depS]; omega
      ·have := ih e; omega
    have := this l hm
    omega
 | succ n ih =>
  intro l hd hll hg
  refine cbody_at l hll (fun s hm => ?_) (fun s hm => ?_)
  ·have h := qmL_mem hg s hm
   cases s with
   | set => simp [argS]
   | call p s l n => simp only [QmS] at h; exact h
   | cond => simp [argS]
  ·cases s with
   | set => exact ⟨bodyNone, bodyNone⟩
   | call => exact ⟨bodyNone, bodyNone⟩
   | cond p x th el =>
    have hdep : ∀ (l : List St), St.cond p x th el ∈ l → 1 + max (depL th) (depL el) ≤ depL l := by
     intro l
     induction l with
     | nil => intro h; cases h
     | cons s l ih =>
      intro h
      simp only [depL]
      rcases List.mem_cons.1 h with e | e
      ·rw [← e]; simp only [depS]; omega
      ·have := ih e; omega
    have h1 := hdep l hm
    have h2 := qmL_mem hg _ hm
    simp only [QmS] at h2
    exact ⟨ih th (by omega) h2.2.2.1 h2.1, ih el (by omega) h2.2.2.2 h2.2.1⟩

theorem insD_any {W : World} {M : Nat} {es : Array MapEntry} {c : Nat} (h0 : W.heap[M]? = some (.map es c)) (k : ByteArray) (v : Value) (hf : Instr.findNow .string (.string k) es.toList 0 = some none) :
  (Instr.mapUpdate 142 (.map (some M)) (.string k) v).run Tryz.prog W = .ok () (putObj W M (.map (es.push ⟨.string k, v, c⟩) (c + 1))) := by
 have h1 := key_ok' false k
 have h2 : (getObj M).run Tryz.prog W = .ok (.map es c) W := by simp only [getObj, Sem.run, h0]
 have h3 : ∀ o, (setObj M o).run Tryz.prog W = .ok () (putObj W M o) := fun o => by simp only [setObj, Sem.run, h0, putObj]
 simp [Instr.mapUpdate, go_sem, Instr.findKey, h1, hf, h2, h3]
def outC (r : Ck Unit) : Int × Int := match r with | .ok _ => (0, -1) | .bad e p => (e, p)
theorem Cst.out {w : World} {C M : Nat} {ds : List De} : ∀ {r : Ck Unit}, Cst w C M ds r → Cc w C M ds (outC r).1 (outC r).2
 | .ok _, h => h
 | .bad _ _, h => h
theorem any_find (l : List De) (s : ByteArray) : (l.any fun e => e.name.toList == s.toList) = (findC l s).isSome := by
 unfold findC
 induction l with
 | nil => rfl
 | cons d l ih =>
  simp only [List.any_cons, List.find?_cons]
  cases hc : (d.name.toList == s.toList) with
  | true => rfl
  | false => simpa using ih

set_option maxRecDepth 100000 in
set_option maxHeartbeats 12800000 in
theorem rcheck_at (p : List De × List St) (hl : p.1.length ≤ 30) (hds : ∀ d ∈ p.1, 1 ≤ d.ty ∧ d.ty ≤ 5) (hgl : GoodL p.2) (hbr : BR p.2) (S : Nat → Prop) (w : World) (va vb : Value) (hd : IsDes S w p.1 va) (hs : IsSts S w p.2 vb) (hv : RVars w) (h14 : 12 ≤ w.heap.size) :
  Calls Tryz.prog 26 #[.agg #[va, vb]] w fun e w' => e = .returned (.agg #[.int .i64 (outC (checkC p)).1, .int .i64 (outC (checkC p)).2]) ∧ Below w.heap.size w w' := by
 obtain ⟨ds, bs⟩ := p
 simp only at hl hds hgl hbr hd hs
 obtain ⟨ao, ac, rfl⟩ := hd.val
 obtain ⟨bo, bc, rfl⟩ := (show ∃ (x : Option Addr) (k : Nat), vb = .slice x bs.length k from by obtain ⟨cs, hr, _⟩ := hs; exact hr.val)
 have HD := hide hd
 have HSB : Hid (IsSts (fun b => b < w.heap.size) w bs (.slice bo bs.length bc)) := hide (hs.imp fun b hb _ => hb)
 have HDS := hide hds
 have HGL := hide hgl
 have HBR := hide hbr
 have HV := hide hv
 have hmm := @run_makeMap Tryz.prog
 have g0 : w.cell? ⟨0, 0, none⟩ = some (.int .i64 0) := by rw [blk_cell hv.fine]; rfl
 have g1 : w.cell? ⟨0, 1, none⟩ = some (.int .i64 (-1)) := by rw [blk_cell hv.fine]; rfl
 have HCK : Hid (checkC (ds, bs) = match dupC 0 [] ds with | some i => .bad 9 i | none => stsC (findC ds) bs) := hide rfl
 generalize checkC (ds, bs) = ck at *
 clear hd hs hds hgl hbr hv
 go_enter Tryz.func26, Tryz.ntmps26
 have hb2 := Below.step (below_alloc w (.cells #[.slice ao ds.length ac, .slice bo bs.length bc] 25)) (Below.step (below_alloc _ (.cells #[.int .i64 0, .int .i64 0] 28)) (below_alloc _ (.map #[] 0)))
 have k0 : (((w.alloc (.cells #[.slice ao ds.length ac, .slice bo bs.length bc] 25)).alloc (.cells #[.int .i64 0, .int .i64 0] 28)).alloc (.map #[] 0)).cell? ⟨0, 0, none⟩ = some (.int .i64 0) := (hb2.cell (cell_lt g0)).trans g0
 have k1 : (((w.alloc (.cells #[.slice ao ds.length ac, .slice bo bs.length bc] 25)).alloc (.cells #[.int .i64 0, .int .i64 0] 28)).alloc (.map #[] 0)).cell? ⟨0, 1, none⟩ = some (.int .i64 (-1)) := (hb2.cell (cell_lt g1)).trans g1
 have HB3 : Hid (Below w.heap.size w ((((w.alloc (.cells #[.slice ao ds.length ac, .slice bo bs.length bc] 25)).alloc (.cells #[.int .i64 0, .int .i64 0] 28)).alloc (.map #[] 0)).alloc (.cells #[.map (some (w.heap.size + 1 + 1)), .int .i64 0, .int .i64 (-1)] 144))) := hide (Below.step hb2 (below_alloc _ _))
 have HP3 : Hid (((((w.alloc (.cells #[.slice ao ds.length ac, .slice bo bs.length bc] 25)).alloc (.cells #[.int .i64 0, .int .i64 0] 28)).alloc (.map #[] 0)).alloc (.cells #[.map (some (w.heap.size + 1 + 1)), .int .i64 0, .int .i64 (-1)] 144)).heap[w.heap.size]? = some (.cells #[.slice ao ds.length ac, .slice bo bs.length bc] 25 (0, 0))) := hide (Below.blk (below_alloc _ _) (Below.blk (below_alloc _ _) (Below.blk (below_alloc _ _) (blk_new w _))))
 have HF3 : Hid (((((w.alloc (.cells #[.slice ao ds.length ac, .slice bo bs.length bc] 25)).alloc (.cells #[.int .i64 0, .int .i64 0] 28)).alloc (.map #[] 0)).alloc (.cells #[.map (some (w.heap.size + 1 + 1)), .int .i64 0, .int .i64 (-1)] 144)).heap[w.heap.size + 1]? = some (.cells #[.int .i64 0, .int .i64 0] 28 (0, 0))) := hide (Below.blk (below_alloc _ _) (Below.blk (below_alloc _ _) (blk_new2 w _ _)))
 have HM3 : Hid (((((w.alloc (.cells #[.slice ao ds.length ac, .slice bo bs.length bc] 25)).alloc (.cells #[.int .i64 0, .int .i64 0] 28)).alloc (.map #[] 0)).alloc (.cells #[.map (some (w.heap.size + 1 + 1)), .int .i64 0, .int .i64 (-1)] 144)).heap[w.heap.size + 1 + 1]? = some (.map #[] 0)) := hide (Below.blk (below_alloc _ _) (by have h := blk_new ((w.alloc (.cells #[.slice ao ds.length ac, .slice bo bs.length bc] 25)).alloc (.cells #[.int .i64 0, .int .i64 0] 28)) (.map #[] 0); have e : ((w.alloc (.cells #[.slice ao ds.length ac, .slice bo bs.length bc] 25)).alloc (.cells #[.int .i64 0, .int .i64 0] 28)).heap.size = w.heap.size + 1 + 1 := (by simp); rw [e] at h; exact h))
 have HC3 : Hid (((((w.alloc (.cells #[.slice ao ds.length ac, .slice bo bs.length bc] 25)).alloc (.cells #[.int .i64 0, .int .i64 0] 28)).alloc (.map #[] 0)).alloc (.cells #[.map (some (w.heap.size + 1 + 1)), .int .i64 0, .int .i64 (-1)] 144)).heap[w.heap.size + 1 + 1 + 1]? = some (.cells #[.map (some (w.heap.size + 1 + 1)), .int .i64 0, .int .i64 (-1)] 144 (0, 0))) := hide (by have h := blk_new (((w.alloc (.cells #[.slice ao ds.length ac, .slice bo bs.length bc] 25)).alloc (.cells #[.int .i64 0, .int .i64 0] 28)).alloc (.map #[] 0)) (.cells #[.map (some (w.heap.size + 1 + 1)), .int .i64 0, .int .i64 (-1)] 144); have e : (((w.alloc (.cells #[.slice ao ds.length ac, .slice bo bs.length bc] 25)).alloc (.cells #[.int .i64 0, .int .i64 0] 28)).alloc (.map #[] 0)).heap.size = w.heap.size + 1 + 1 + 1 := (by simp); rw [e] at h; exact h)
 clear hb2
 go_wp2_with fail
 generalize ((((w.alloc (.cells #[.slice ao ds.length ac, .slice bo bs.length bc] 25)).alloc (.cells #[.int .i64 0, .int .i64 0] 28)).alloc (.map #[] 0)).alloc (.cells #[.map (some (w.heap.size + 1 + 1)), .int .i64 0, .int .i64 (-1)] 144)) = w0 at *
 have HCC : Hid (Cc w0 (w.heap.size + 1 + 1 + 1) (w.heap.size + 1 + 1) [] 0 (-1)) := hide ⟨HC3.out, HM3.out, by omega, HV.out.below HB3.out⟩
 clear HM3 HC3 hmm k0 k1 g0 g1
 obtain ⟨P, hP⟩ : ∃ P, P = w.heap.size := ⟨_, rfl⟩
 obtain ⟨F, hF⟩ : ∃ F, F = w.heap.size + 1 := ⟨_, rfl⟩
 obtain ⟨M, hM⟩ : ∃ M, M = w.heap.size + 1 + 1 := ⟨_, rfl⟩
 obtain ⟨C, hC⟩ : ∃ C, C = w.heap.size + 1 + 1 + 1 := ⟨_, rfl⟩
 rw [← hC, ← hM] at HCC
 rw [← hF] at HF3
 rw [← hP] at HP3
 rw [← hC, ← hM, ← hF, ← hP]
 have HORD : Hid (w.heap.size ≤ P ∧ w.heap.size ≤ F ∧ w.heap.size ≤ M ∧ w.heap.size ≤ C ∧ F ≠ M ∧ F ≠ C ∧ P ≠ M ∧ P ≠ C ∧ M ≠ C ∧ P ≠ F) := hide (by omega)
 clear hP hF hM hC
 go_loopw [15] (fun i wr => ∃ j : Nat, j ≤ ds.length ∧ i = .int .i64 j ∧ Hid (Below w.heap.size w wr) ∧ Hid (dupC 0 [] ds = dupC j (ds.take j) (ds.drop j)) ∧ Hid (Cc wr C M (ds.take j) 0 (-1)) ∧ Hid (wr.heap[P]? = some (.cells #[.slice ao ds.length ac, .slice bo bs.length bc] 25 (0, 0))) ∧ Hid (wr.heap[F]? = some (.cells #[.int .i64 0, .int .i64 0] 28 (0, 0)))) (fun i _ => ds.length - (intOf i).toNat)
 case atStart => exact ⟨0, Nat.zero_le _, rfl, HB3, hide (by simp), HCC, HP3, HF3⟩
 case round =>
  obtain ⟨j, hj, rfl, hb, hdup, hcc, hp, hf⟩ := hrel
  by_cases hlt : j < ds.length
  ·have hji : (j : Int) < (ds.length : Int) := by omega
   obtain ⟨g, cap', hv, hSg⟩ := de_addr HD.out (by omega)
   obtain ⟨rfl, rfl⟩ : ao = some ⟨g, 0, none⟩ ∧ ac = cap' := by cases hv; exact ⟨rfl, rfl⟩
   have HDW : Hid (IsDes S wr ds (.slice (some ⟨g, 0, none⟩) ds.length ac)) := hide (IsRow.same HD.out fun c h1 h2 => hb.out.block c h2)
   have r0 : wr.cell? ⟨g, j * 4, none⟩ = some (.string ds[j].name) := de_cell HDW.out rfl hlt (k := 0) rfl (by decide)
   have r1 : wr.cell? ⟨g, j * 4 + 1, none⟩ = some (.int .i64 ds[j].way) := de_cell HDW.out rfl hlt (k := 1) rfl (by decide)
   have r2 : wr.cell? ⟨g, j * 4 + 2, none⟩ = some (.int .i64 ds[j].ty) := de_cell HDW.out rfl hlt (k := 2) rfl (by decide)
   have r3 : wr.cell? ⟨g, j * 4 + 3, none⟩ = some (.int .i64 ds[j].init) := de_cell HDW.out rfl hlt (k := 3) rfl (by decide)
   have HST := hide (dup_step hlt)
   have HTK := hide (List.take_succ_eq_append_getElem hlt)
   have HLE : Hid ((ds.take j).length = j) := hide (by simp; omega)
   have HAF := hide (any_find (ds.take j) ds[j].name)
   generalize ds[j] = d at *
   obtain ⟨nm, way, ty, init⟩ := d
   simp only at r0 r1 r2 r3
   have HAF' : Hid (((ds.take j).any fun e => e.name.toList == nm.toList) = (findC (ds.take j) nm).isSome) := HAF
   clear HAF hv
   have HBt := hide (below_alloc wr (.cells #[.string nm, .int .i64 way, .int .i64 ty, .int .i64 init] 60))
   have HNt := hide (blk_new wr (.cells #[.string nm, .int .i64 way, .int .i64 ty, .int .i64 init] 60))
   have HCt := hide (hcc.out.below HBt.out)
   obtain ⟨dd, hdd⟩ : ∃ q, q = gotD (ds.take j) nm := ⟨_, rfl⟩
   have HDD := hide hdd
   have HLK : Hid (∀ W : World, W.heap[M]? = some (.map (entsD 0 (ds.take j)).toArray (ds.take j).length) → (Instr.lookup 142 (.map (some M)) (.string nm) true).run Tryz.prog W = .ok (.tuple #[deV dd.1, .bool dd.2]) W) := hide fun W hW => by rw [hdd]; exact lookD hW nm
   clear hdd
   obtain ⟨⟨dn, dw, dt, di⟩, dok⟩ := dd
   go_wp2_with fail
   have HTW : Hid (w.heap.size ≤ wr.heap.size) := hide hb.out.size
   have HTN : Hid (wr.heap.size ≠ C ∧ wr.heap.size ≠ M ∧ wr.heap.size ≠ P ∧ wr.heap.size ≠ F) := hide (by have := blk_lt hcc.out.me; have := blk_lt hcc.out.map; have := blk_lt hp.out; have := blk_lt hf.out; omega)
   generalize wr.alloc (.cells #[.string nm, .int .i64 way, .int .i64 ty, .int .i64 init] 60) = wq at *
   generalize wr.heap.size = T at HNt HTW HTN ⊢
   have HS : Hid (wq.drew.cell? ⟨C, 0, none⟩ = some (.map (some M)) ∧ wq.drew.cell? ⟨T, 0, none⟩ = some (.string nm) ∧ wq.drew.heap[M]? = some (.map (entsD 0 (ds.take j)).toArray (ds.take j).length)) := hide ⟨by show wq.cell? _ = _; rw [blk_cell HCt.out.me]; rfl, by show wq.cell? _ = _; rw [blk_cell HNt.out]; rfl, HCt.out.map⟩
   refine wp_region_held_drew (S := fun W => W.cell? ⟨C, 0, none⟩ = some (.map (some M)) ∧ W.cell? ⟨T, 0, none⟩ = some (.string nm) ∧ W.heap[M]? = some (.map (entsD 0 (ds.take j)).toArray (ds.take j).length)) (by kernel_rfl) HS.out (fun _ => ?_)
   refine tkA 0 21 (.pointer (some ⟨C, 0, none⟩)) rfl (by kernel_rfl) (fun _ _ _ h => h) rfl (fun W hS => by go_simp) HS.out ?_
   simp only [pu]
   refine tkA 1 22 (.pointer (some ⟨C, 0, none⟩)) rfl (by kernel_rfl) (fun _ _ _ h => h) rfl (fun W hS => by go_simp) HS.out ?_
   simp only [pu]
   refine tkA 2 23 (.pointer (some ⟨C, 0, none⟩)) rfl (by kernel_rfl) (fun _ _ _ h => h) rfl (fun W hS => by go_simp) HS.out ?_
   simp only [pu]
   refine tkA 3 24 (.map (some M)) rfl (by kernel_rfl) (fun _ _ _ h => h) rfl (fun W hS => by (have h0 := hS.1; go_simp)) HS.out ?_
   simp only [pu]
   refine tkA 4 25 (.pointer (some ⟨T, 0, none⟩)) rfl (by kernel_rfl) (fun _ _ _ h => h) rfl (fun W hS => by go_simp) HS.out ?_
   simp only [pu]
   refine tkA 5 26 (.string nm) rfl (by kernel_rfl) (fun _ _ _ h => h) rfl (fun W hS => by (have h0 := hS.2.1; go_simp)) HS.out ?_
   simp only [pu]
   refine tkA 6 27 (.tuple #[.agg #[.string dn, .int .i64 dw, .int .i64 dt, .int .i64 di], .bool dok]) rfl (by kernel_rfl) (fun _ _ _ h => h) rfl (fun W hS => by (have h0 := HLK.out W hS.2.2; go_simp)) HS.out ?_
   simp only [pu]
   refine tkA 7 20 (.tuple #[.agg #[.string dn, .int .i64 dw, .int .i64 dt, .int .i64 di], .bool dok]) rfl (by kernel_rfl) (fun _ _ _ h => h) rfl (fun W hS => by go_simp) HS.out ?_
   simp only [pu]
   refine tkA 8 28 (.agg #[.string dn, .int .i64 dw, .int .i64 dt, .int .i64 di]) rfl (by kernel_rfl) (fun _ _ _ h => h) rfl (fun W hS => by go_simp) HS.out ?_
   simp only [pu]
   refine tkA 9 29 (.bool dok) rfl (by kernel_rfl) (fun _ _ _ h => h) rfl (fun W hS => by go_simp) HS.out ?_
   simp only [pu]
   refine wpAnyH_ready (rs := [10]) (by kernel_rfl) (by simp) ?_
   refine AllReadyH.cons rfl (fun K hK => ?_) AllReadyH.nil
   go_simp
   have HBa := hide (below_alloc wq (.cells #[.string ⟨#[]⟩, .int .i64 0, .int .i64 0, .int .i64 0] 60))
   have HSa : Hid ((wq.alloc (.cells #[.string ⟨#[]⟩, .int .i64 0, .int .i64 0, .int .i64 0] 60)).drew.cell? ⟨C, 0, none⟩ = some (.map (some M)) ∧ (wq.alloc (.cells #[.string ⟨#[]⟩, .int .i64 0, .int .i64 0, .int .i64 0] 60)).drew.cell? ⟨T, 0, none⟩ = some (.string nm) ∧ (wq.alloc (.cells #[.string ⟨#[]⟩, .int .i64 0, .int .i64 0, .int .i64 0] 60)).drew.heap[M]? = some (.map (entsD 0 (ds.take j)).toArray (ds.take j).length)) := hide ⟨(HBa.out.cell (cell_lt (w := wq) HS.out.1)).trans HS.out.1, (HBa.out.cell (cell_lt (w := wq) HS.out.2.1)).trans HS.out.2.1, Below.blk HBa.out HS.out.2.2⟩
   refine hK.out _ _ HSa.out (fun _ => ?_)
   clear hK K
   have HNa : Hid ((wq.alloc (.cells #[.string ⟨#[]⟩, .int .i64 0, .int .i64 0, .int .i64 0] 60)).drew.heap[wq.heap.size]? = some (.cells #[.string ⟨#[]⟩, .int .i64 0, .int .i64 0, .int .i64 0] 60 (0, 0))) := hide (blk_new wq _)
   have HBb : Hid (Below wq.heap.size wq (wq.alloc (.cells #[.string ⟨#[]⟩, .int .i64 0, .int .i64 0, .int .i64 0] 60)).drew) := hide HBa.out.drew
   have HNE : Hid (wq.heap.size ≠ C ∧ wq.heap.size ≠ T ∧ wq.heap.size ≠ M) := hide ⟨by have := cell_lt (w := wq) HS.out.1; intro e; rw [← e] at this; exact Nat.lt_irrefl _ this, by have := blk_lt HNt.out; intro e; rw [← e] at this; exact Nat.lt_irrefl _ this, by have := blk_lt (w := wq) HS.out.2.2; intro e; rw [← e] at this; exact Nat.lt_irrefl _ this⟩
   generalize (wq.alloc (.cells #[.string ⟨#[]⟩, .int .i64 0, .int .i64 0, .int .i64 0] 60)).drew = wa at *
   generalize hD : wq.heap.size = D at HNa HNE ⊢
   have z0 : wa.cell? ⟨D, 0, none⟩ = some (.string ⟨#[]⟩) := by rw [blk_cell HNa.out]; rfl
   have z1 : wa.cell? ⟨D, 1, none⟩ = some (.int .i64 0) := by rw [blk_cell HNa.out]; rfl
   have z2 : wa.cell? ⟨D, 2, none⟩ = some (.int .i64 0) := by rw [blk_cell HNa.out]; rfl
   have z3 : wa.cell? ⟨D, 3, none⟩ = some (.int .i64 0) := by rw [blk_cell HNa.out]; rfl
   have zf : ∀ i, wa.frozen? ⟨D, i, none⟩ = false := blk_frozen HNa.out
   refine wpAnyH_ready (rs := [11]) (by kernel_rfl) (by simp) ?_
   refine AllReadyH.cons rfl (fun K hK => ?_) AllReadyH.nil
   go_simp
   have hoth : ∀ b, b ≠ D → ((((wa.setCell ⟨D, 0, none⟩ (.string dn)).setCell ⟨D, 1, none⟩ (.int .i64 dw)).setCell ⟨D, 2, none⟩ (.int .i64 dt)).setCell ⟨D, 3, none⟩ (.int .i64 di)).heap[b]? = wa.heap[b]? := fun b hb => (set_other _ 3 _ hb).trans ((set_other _ 2 _ hb).trans ((set_other _ 1 _ hb).trans (set_other _ 0 _ hb)))
   have HSb : Hid (((((wa.setCell ⟨D, 0, none⟩ (.string dn)).setCell ⟨D, 1, none⟩ (.int .i64 dw)).setCell ⟨D, 2, none⟩ (.int .i64 dt)).setCell ⟨D, 3, none⟩ (.int .i64 di)).cell? ⟨C, 0, none⟩ = some (.map (some M)) ∧ ((((wa.setCell ⟨D, 0, none⟩ (.string dn)).setCell ⟨D, 1, none⟩ (.int .i64 dw)).setCell ⟨D, 2, none⟩ (.int .i64 dt)).setCell ⟨D, 3, none⟩ (.int .i64 di)).cell? ⟨T, 0, none⟩ = some (.string nm) ∧ ((((wa.setCell ⟨D, 0, none⟩ (.string dn)).setCell ⟨D, 1, none⟩ (.int .i64 dw)).setCell ⟨D, 2, none⟩ (.int .i64 dt)).setCell ⟨D, 3, none⟩ (.int .i64 di)).heap[M]? = some (.map (entsD 0 (ds.take j)).toArray (ds.take j).length)) := hide ⟨(World.cell?_of_block (hoth C (Ne.symm HNE.out.1))).trans HSa.out.1, (World.cell?_of_block (hoth T (Ne.symm HNE.out.2.1))).trans HSa.out.2.1, (hoth M (Ne.symm HNE.out.2.2)).trans HSa.out.2.2⟩
   have HBd : Hid (Below wq.heap.size wq ((((wa.setCell ⟨D, 0, none⟩ (.string dn)).setCell ⟨D, 1, none⟩ (.int .i64 dw)).setCell ⟨D, 2, none⟩ (.int .i64 dt)).setCell ⟨D, 3, none⟩ (.int .i64 di))) := hide ((((HBb.out.setCell (by rw [hD]; exact Nat.le_refl _) _).setCell (by rw [hD]; exact Nat.le_refl _) _).setCell (by rw [hD]; exact Nat.le_refl _) _).setCell (by rw [hD]; exact Nat.le_refl _) _)
   refine hK.out _ _ HSb.out (fun _ => ?_)
   clear hK K z0 z1 z2 z3 zf hoth
   generalize (((wa.setCell ⟨D, 0, none⟩ (.string dn)).setCell ⟨D, 1, none⟩ (.int .i64 dw)).setCell ⟨D, 2, none⟩ (.int .i64 dt)).setCell ⟨D, 3, none⟩ (.int .i64 di) = wd at *
   refine tkA 12 7 (.bool dok) rfl (by kernel_rfl) (fun _ _ _ h => h) rfl (fun W hS => by go_simp) HSb.out ?_
   simp only [pu]
   refine wpAnyH_done (by kernel_rfl) ?_ _
   have HCd := hide (HCt.out.below HBd.out)
   have HTd := hide (Below.blk HBd.out HNt.out)
   have HBr : Hid (Below wr.heap.size wr wd) := hide (Below.step HBt.out HBd.out)
   have HBw : Hid (Below w.heap.size w wd) := hide (Below.step hb.out HBr.out)
   have HPd := hide (Below.blk HBr.out hp.out)
   have HFd := hide (Below.blk HBr.out hf.out)
   clear HS HSa HSb HNa HBa HBb HNE hD HNt HCt HLK HBt HBd r0 r1 r2 r3
   cases dok with
   | true =>
    have HFI : Hid (findC (ds.take j) nm = some ⟨dn, dw, dt, di⟩) := hide (got_yes HDD.out)
    have HCE : Hid (ck = .bad 9 j) := hide (by rw [HCK.out, hdup.out, HST.out]; simp only [HAF'.out, HFI.out, Option.isSome_some, if_true])
    have f0 : wd.cell? ⟨F, 0, none⟩ = some (.int .i64 0) := by rw [blk_cell HFd.out]; rfl
    have f1 : wd.cell? ⟨F, 1, none⟩ = some (.int .i64 0) := by rw [blk_cell HFd.out]; rfl
    have ff : ∀ i, wd.frozen? ⟨F, i, none⟩ = false := blk_frozen HFd.out
    go_wp2_with fail
    refine bodyPost_ret (v := .agg #[.int .i64 9, .int .i64 j]) (by simp [results, Tryz.results26, go_sem, f0, f1]) rfl ?_
    rw [HCE.out]
    exact ⟨rfl, (HBw.out.setCell HORD.out.2.1 _).setCell HORD.out.2.1 _⟩
   | false =>
    have HFI : Hid (findC (ds.take j) nm = none) := hide (got_none HDD.out).1
    have HNI : Hid (dupC 0 [] ds = dupC (j + 1) (ds.take (j + 1)) (ds.drop (j + 1))) := hide (by rw [hdup.out, HST.out]; simp only [HAF'.out, HFI.out, Option.isSome_none, Bool.false_eq_true, if_false])
    have HFN := hide ((find_entsD nm (ds.take j) 0 0).1 HFI.out)
    go_wp2_with fail
    have HS8 : Hid (wd.drew.cell? ⟨C, 0, none⟩ = some (.map (some M)) ∧ wd.drew.cell? ⟨T, 0, none⟩ = some (.string nm) ∧ wd.drew.cell? ⟨T, 1, none⟩ = some (.int .i64 way) ∧ wd.drew.cell? ⟨T, 2, none⟩ = some (.int .i64 ty) ∧ wd.drew.cell? ⟨T, 3, none⟩ = some (.int .i64 init)) := hide ⟨by show wd.cell? _ = _; rw [blk_cell HCd.out.me]; rfl, by show wd.cell? _ = _; rw [blk_cell HTd.out]; rfl, by show wd.cell? _ = _; rw [blk_cell HTd.out]; rfl, by show wd.cell? _ = _; rw [blk_cell HTd.out]; rfl, by show wd.cell? _ = _; rw [blk_cell HTd.out]; rfl⟩
    refine wp_region_held_drew (S := fun W => W.cell? ⟨C, 0, none⟩ = some (.map (some M)) ∧ W.cell? ⟨T, 0, none⟩ = some (.string nm) ∧ W.cell? ⟨T, 1, none⟩ = some (.int .i64 way) ∧ W.cell? ⟨T, 2, none⟩ = some (.int .i64 ty) ∧ W.cell? ⟨T, 3, none⟩ = some (.int .i64 init)) (by kernel_rfl) HS8.out (fun _ => ?_)
    refine tkA 0 33 (.pointer (some ⟨C, 0, none⟩)) rfl (by kernel_rfl) (fun _ _ _ h => h) rfl (fun W hS => by go_simp) HS8.out ?_
    simp only [pu]
    refine tkA 1 34 (.pointer (some ⟨C, 0, none⟩)) rfl (by kernel_rfl) (fun _ _ _ h => h) rfl (fun W hS => by go_simp) HS8.out ?_
    simp only [pu]
    refine tkA 2 35 (.pointer (some ⟨C, 0, none⟩)) rfl (by kernel_rfl) (fun _ _ _ h => h) rfl (fun W hS => by go_simp) HS8.out ?_
    simp only [pu]
    refine tkA 3 36 (.map (some M)) rfl (by kernel_rfl) (fun _ _ _ h => h) rfl (fun W hS => by (have h0 := hS.1; go_simp)) HS8.out ?_
    simp only [pu]
    refine tkA 4 37 (.pointer (some ⟨T, 0, none⟩)) rfl (by kernel_rfl) (fun _ _ _ h => h) rfl (fun W hS => by go_simp) HS8.out ?_
    simp only [pu]
    refine tkA 5 38 (.string nm) rfl (by kernel_rfl) (fun _ _ _ h => h) rfl (fun W hS => by (have h0 := hS.2.1; go_simp)) HS8.out ?_
    simp only [pu]
    refine tkA 6 39 (.agg #[.string nm, .int .i64 way, .int .i64 ty, .int .i64 init]) rfl (by kernel_rfl) (fun _ _ _ h => h) rfl (fun W hS => by (obtain ⟨h0, h1, h2, h3, h4⟩ := hS; go_simp)) HS8.out ?_
    simp only [pu]
    have hin := insD_any (W := wd.drew) HCd.out.map nm (.agg #[.string nm, .int .i64 way, .int .i64 ty, .int .i64 init]) HFN.out
    have hin' := insD_any (W := wd) HCd.out.map nm (.agg #[.string nm, .int .i64 way, .int .i64 ty, .int .i64 init]) HFN.out
    refine wpAnyH_ready (rs := [7]) (by kernel_rfl) (by simp) ?_
    refine AllReadyH.cons rfl (fun K hK => ?_) AllReadyH.nil
    go_simp
    have hoth : ∀ b, b ≠ M → (putObj wd.drew M (.map ((entsD 0 (ds.take j) ++ [(⟨.string nm, .agg #[.string nm, .int .i64 way, .int .i64 ty, .int .i64 init], j⟩ : MapEntry)]).toArray) (j + 1))).heap[b]? = wd.heap[b]? := fun b hb => putObj_other hb
    have HS9 : Hid ((putObj wd.drew M (.map ((entsD 0 (ds.take j) ++ [(⟨.string nm, .agg #[.string nm, .int .i64 way, .int .i64 ty, .int .i64 init], j⟩ : MapEntry)]).toArray) (j + 1))).cell? ⟨C, 0, none⟩ = some (.map (some M)) ∧ (putObj wd.drew M (.map ((entsD 0 (ds.take j) ++ [(⟨.string nm, .agg #[.string nm, .int .i64 way, .int .i64 ty, .int .i64 init], j⟩ : MapEntry)]).toArray) (j + 1))).cell? ⟨T, 0, none⟩ = some (.string nm) ∧ (putObj wd.drew M (.map ((entsD 0 (ds.take j) ++ [(⟨.string nm, .agg #[.string nm, .int .i64 way, .int .i64 ty, .int .i64 init], j⟩ : MapEntry)]).toArray) (j + 1))).cell? ⟨T, 1, none⟩ = some (.int .i64 way) ∧ (putObj wd.drew M (.map ((entsD 0 (ds.take j) ++ [(⟨.string nm, .agg #[.string nm, .int .i64 way, .int .i64 ty, .int .i64 init], j⟩ : MapEntry)]).toArray) (j + 1))).cell? ⟨T, 2, none⟩ = some (.int .i64 ty) ∧ (putObj wd.drew M (.map ((entsD 0 (ds.take j) ++ [(⟨.string nm, .agg #[.string nm, .int .i64 way, .int .i64 ty, .int .i64 init], j⟩ : MapEntry)]).toArray) (j + 1))).cell? ⟨T, 3, none⟩ = some (.int .i64 init)) := hide (by
     have hc := World.cell?_of_block (w := wd) (w' := putObj wd.drew M (.map ((entsD 0 (ds.take j) ++ [(⟨.string nm, .agg #[.string nm, .int .i64 way, .int .i64 ty, .int .i64 init], j⟩ : MapEntry)]).toArray) (j + 1))) (a := ⟨C, 0, none⟩) (hoth C (Ne.symm HORD.out.2.2.2.2.2.2.2.2.1))
     have ht := fun i => World.cell?_of_block (w := wd) (w' := putObj wd.drew M (.map ((entsD 0 (ds.take j) ++ [(⟨.string nm, .agg #[.string nm, .int .i64 way, .int .i64 ty, .int .i64 init], j⟩ : MapEntry)]).toArray) (j + 1))) (a := ⟨T, i, none⟩) (hoth T HTN.out.2.1)
     exact ⟨hc.trans HS8.out.1, (ht 0).trans HS8.out.2.1, (ht 1).trans HS8.out.2.2.1, (ht 2).trans HS8.out.2.2.2.1, (ht 3).trans HS8.out.2.2.2.2⟩)
    refine hK.out _ (putObj wd.drew M (.map ((entsD 0 (ds.take j) ++ [(⟨.string nm, .agg #[.string nm, .int .i64 way, .int .i64 ty, .int .i64 init], j⟩ : MapEntry)]).toArray) (j + 1))) HS9.out (fun _ => ?_)
    clear hK K hin hin'
    refine wpAnyH_done (by kernel_rfl) ?_ _
    have HCX : Hid (Cc (putObj wd.drew M (.map ((entsD 0 (ds.take j) ++ [(⟨.string nm, .agg #[.string nm, .int .i64 way, .int .i64 ty, .int .i64 init], j⟩ : MapEntry)]).toArray) (j + 1))) C M (ds.take (j + 1)) 0 (-1)) := hide (by
     refine ⟨(hoth C (Ne.symm HORD.out.2.2.2.2.2.2.2.2.1)).trans HCd.out.me, ?_, HCd.out.big, HCd.out.vars.of fun b o hb ho => (hoth b (by have := HORD.out.2.2.1; omega)).trans ho⟩
     rw [putObj_same (show M < wd.drew.heap.size from blk_lt HCd.out.map), HTK.out, entsD_snoc, List.length_append, HLE.out]
     simp)
    have HBX : Hid (Below w.heap.size w (putObj wd.drew M (.map ((entsD 0 (ds.take j) ++ [(⟨.string nm, .agg #[.string nm, .int .i64 way, .int .i64 ty, .int .i64 init], j⟩ : MapEntry)]).toArray) (j + 1)))) := hide (putObj_below HBw.out.drew HORD.out.2.2.1)
    have HPX := hide ((hoth P HORD.out.2.2.2.2.2.2.1).trans HPd.out)
    have HFX := hide ((hoth F HORD.out.2.2.2.2.1).trans HFd.out)
    clear hoth HS9 HS8
    generalize putObj wd.drew M (.map ((entsD 0 (ds.take j) ++ [(⟨.string nm, .agg #[.string nm, .int .i64 way, .int .i64 ty, .int .i64 init], j⟩ : MapEntry)]).toArray) (j + 1)) = wz at *
    go_wp2_with fail
    exact ⟨⟨j + 1, by omega, by go_num, HBX, HNI, HCX, HPX, HFX⟩, by simp [intOf]; omega⟩
  ·have HJ : Hid (j = ds.length) := (by omega : j = ds.length)
   have HCE : Hid (ck = stsC (findC ds) bs) := hide (by rw [HCK.out, hdup.out, HJ.out, List.drop_length, dupC])
   have HCF : Hid (Cc wr C M ds 0 (-1)) := hide (by have := hcc.out; rw [HJ.out, List.take_length] at this; exact this)
   have p1 : wr.cell? ⟨P, 1, none⟩ = some (.slice bo bs.length bc) := by rw [blk_cell hp.out]; rfl
   clear hcc hdup
   go_wp2_with fail
   refine (HBR.out (fun b => b < w.heap.size) wr C M ds _ (.ok ()) HCF.out (HSB.out.same fun c _ h => hb.out.block c h) (fun b hb' => by have := HORD.out.2.2.2.1; have hb' : b < w.heap.size := hb'; omega) HGL.out HDS.out).mono ?_
   rintro e w5 ⟨rfl, hc5, hk5⟩
   have h5 := Cst.out hc5
   have HF5 := hide (hk5.blk hf.out HORD.out.2.2.2.2.2.1)
   have HB5 : Hid (Below w.heap.size w w5) := hide ⟨hk5.os.trans hb.out.os, hk5.tape.trans hb.out.tape, hk5.output.trans hb.out.output, Nat.le_trans hb.out.size hk5.size, fun b hb' => (hk5.block b (Nat.lt_of_lt_of_le hb' hb.out.size) (by have := HORD.out.2.2.2.1; omega)).trans (hb.out.block b hb')⟩
   have HEQ : Hid ((Ck.bind (.ok ()) fun _ => stsC (findC ds) bs) = ck) := hide (by rw [HCE.out]; rfl)
   rw [HEQ.out] at h5
   obtain ⟨oa, hoa⟩ : ∃ a, (outC ck).1 = a := ⟨_, rfl⟩
   obtain ⟨ob, hob⟩ : ∃ b, (outC ck).2 = b := ⟨_, rfl⟩
   rw [hoa, hob] at h5
   have HOA := hide hoa
   have HOB := hide hob
   clear hoa hob
   have c1 : w5.cell? ⟨C, 1, none⟩ = some (.int .i64 oa) := by rw [blk_cell h5.me]; rfl
   have c2 : w5.cell? ⟨C, 2, none⟩ = some (.int .i64 ob) := by rw [blk_cell h5.me]; rfl
   have f0 : w5.cell? ⟨F, 0, none⟩ = some (.int .i64 0) := by rw [blk_cell HF5.out]; rfl
   have f1 : w5.cell? ⟨F, 1, none⟩ = some (.int .i64 0) := by rw [blk_cell HF5.out]; rfl
   have ff : ∀ i, w5.frozen? ⟨F, i, none⟩ = false := blk_frozen HF5.out
   have HFC : Hid (F ≠ C) := hide HORD.out.2.2.2.2.2.1
   clear h5 hc5 hk5 p1
   go_wp2_with fail
   refine bodyPost_ret (v := .agg #[.int .i64 oa, .int .i64 ob]) (by simp [results, Tryz.results26, go_sem, f0, f1]) rfl ?_
   rw [HOA.out, HOB.out]
   exact ⟨rfl, (HB5.out.setCell HORD.out.2.1 _).setCell HORD.out.2.1 _⟩
end Go.Proofs.YtalolaikhloopaaGreatDoor
