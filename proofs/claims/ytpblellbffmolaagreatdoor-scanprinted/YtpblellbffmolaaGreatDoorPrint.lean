/-
  CONTRACT of Print.
-/
import Derived.Test.YtpblellbffmolaaGreatDoorJWIf
import Derived.Test.YtpblellbffmolaaGreatDoorDecls
set_option linter.unusedSimpArgs false
set_option linter.unusedVariables false
namespace Go.Proofs.YtpblellbffmolaaGreatDoor
open Go.RowKit

theorem de_flat : ∀ (l : List De), l.flatMap deCells = (l.map deCells).flatten
  | [] => rfl
  | d :: l => by simp [List.flatMap_cons, de_flat l]
theorem IsDes.cell {S : Nat → Prop} {w : World} {l : List De} {v : Value} (h : IsDes S w l v) {g cap m : Nat} (hv : v = .slice (some ⟨g, 0, none⟩) m cap) {j : Nat} (hj : j < l.length) {k : Nat} {u : Value} (hk : (deCells l[j])[k]? = some u) (h4 : k < 4) : w.cell? ⟨g, j * 4 + k, none⟩ = some u := by
  refine IsRow.cell h hv ?_
  rw [de_flat, flat_at 4 (l.map deCells) (by intro c hc; obtain ⟨d, _, rfl⟩ := List.mem_map.1 hc; rfl) j (deCells l[j]) (by simp [hj]) k h4]
  exact hk
theorem linesT_take : ∀ (l : List De) (i : Nat) (h : i < l.length), linesT (l.take (i + 1)) = linesT (l.take i) ++ lineT l[i]
  | x :: l, 0, _ => by simp [linesT]
  | x :: l, i + 1, h => by
    have := linesT_take l i (by simpa using h)
    simp only [List.take_succ_cons, linesT, this, List.getElem_cons_succ]
    simp
theorem line_len {d : De} (hg : GoodD d) : (lineT d).length ≤ 40 := by
  have h1 := (head_len hg).1
  have h2 : (valP d.ty d.init).length ≤ 5 := val_len (by rcases hg.form with h | h <;> omega)
  unfold lineT
  simp only [List.length_append, List.length_cons, List.length_nil]
  split
  · simp only [List.length_nil]; omega
  · simp only [List.length_append, List.length_cons, List.length_nil]; omega
theorem lines_len : ∀ (l : List De), (∀ d ∈ l, GoodD d) → (linesT l).length ≤ 40 * l.length
  | [], _ => by simp [linesT]
  | d :: l, h => by
    have h1 := line_len (h d (by simp))
    have h2 := lines_len l fun x hx => h x (by simp [hx])
    simp only [linesT, List.length_append, List.length_cons]; omega
theorem args_len : ∀ (l : List Ex), (∀ x ∈ l, GoodX x) → (argsT l).length ≤ 14 * (argsK l).length
  | [], _ => by simp [argsT]
  | x :: l, h => by
    have h1 := text_len x 1 (h x (by simp)).good
    have h2 := args_len l fun y hy => h y (by simp [hy])
    simp only [argsT, argsK, List.length_append, List.length_cons, List.length_nil]; omega
mutual
theorem st_len : ∀ (s : St), GoodSt s → ∀ (left : List UInt8), left.length + 2 * depS s ≤ 20 → (stT s left).length ≤ 300 * (stK s).length
  | .set _ n x, hg, left, hl => by
    simp only [GoodSt] at hg
    have h1 := text_len x 1 hg.2.good
    have h2 := hg.1.2.1
    simp only [depS] at hl
    simp only [stT, stK, List.length_append, List.length_cons, List.length_nil, sz_list]; omega
  | .call _ n l k, hg, left, hl => by
    simp only [GoodSt] at hg
    have h1 := args_len l hg.2.1
    have h2 := hg.1.2.1
    have h3 := dec_len hg.2.2
    simp only [depS] at hl
    simp only [stT, stK, List.length_append, List.length_cons, List.length_nil, sz_list]; omega
  | .cond _ x th [], hg, left, hl => by
    simp only [GoodSt] at hg
    have h1 := text_len x 1 hg.1.good
    simp only [depS] at hl
    have h2 := sts_len th hg.2.1 (left ++ [32, 32]) (by simp; omega)
    simp only [stT, stK, List.length_append, List.length_cons, List.length_nil]; omega
  | .cond _ x th (s :: el), hg, left, hl => by
    simp only [GoodSt] at hg
    have h1 := text_len x 1 hg.1.good
    simp only [depS] at hl
    have h2 := sts_len th hg.2.1 (left ++ [32, 32]) (by simp; omega)
    have h3 := sts_len (s :: el) hg.2.2 (left ++ [32, 32]) (by simp; omega)
    simp only [stT, stK, List.length_append, List.length_cons, List.length_nil]; omega
theorem sts_len : ∀ (l : List St), GoodL l → ∀ (left : List UInt8), left.length + 2 * depL l ≤ 20 → (stsT l left).length ≤ 300 * (stsK l).length
  | [], _, _, _ => by simp [stsT]
  | s :: l, hg, left, hl => by
    simp only [GoodL] at hg
    simp only [depL] at hl
    have h1 := st_len s hg.1 left (by omega)
    have h2 := sts_len l hg.2 left (by omega)
    simp only [stsT, stsK, List.length_append]; omega
end
theorem print_len {p : List De × List St} (hg : GoodPr p) : (printT p).length ≤ 1000 + 300 * (printK p).length := by
  have h1 := lines_len p.1 hg.decls
  have h2 := sts_len p.2 hg.body [32, 32] (by have := hg.deep; simp; omega)
  have h3 := hg.many
  simp only [printT, printK, List.length_append, List.length_cons, List.length_nil]; omega

set_option maxRecDepth 100000 in
set_option maxHeartbeats 6400000 in
theorem print_at (p : List De × List St) (hg : GoodPr p) (hlen : (printT p).length ≤ 1000000) (S : Nat → Prop) (w : World) (a c : Value) (hd : IsDes S w p.1 a) (hs : IsSts S w p.2 c) (hS : ∀ c, S c → c < w.heap.size) (hv : Vars w) (ht : Tab w) (h14 : 8 ≤ w.heap.size) :
    Calls Tryz.prog 13 #[.agg #[a, c]] w fun e w' => e = .returned (.string ⟨(printT p).toArray⟩) ∧ Below w.heap.size w w' := by
  obtain ⟨ds, bd⟩ := p
  simp only at hd hs
  obtain ⟨aa, ac, rfl⟩ := hd.val
  obtain ⟨ca, cc, rfl⟩ := sts_val hs
  have HD := hide hd
  have HS := hide hs
  have HSS := hide hS
  have HV := hide hv
  have HT := hide ht
  have HG := hide hg
  have HP : Hid (printT (ds, bd) = linesT ds ++ [98, 101, 103, 105, 110, 10] ++ stsT bd [32, 32] ++ [101, 110, 100, 10]) := rfl
  have hlen2 := hlen
  rw [HP.out] at hlen2
  simp only [List.length_append, List.length_cons, List.length_nil] at hlen2
  have HL := hide hlen2
  have hdl : ds.length ≤ 20 := hg.many
  have HO := hide (below_alloc w (.cells #[.slice aa ds.length ac, .slice ca bd.length cc] 28))
  have HN := hide (blk_new w (.cells #[.slice aa ds.length ac, .slice ca bd.length cc] 28))
  have HSZ : (w.alloc (.cells #[.slice aa ds.length ac, .slice ca bd.length cc] 28)).heap.size = w.heap.size + 1 := by simp
  have HF := Lib.fresh_isBuilder 64 5 (w.alloc (.cells #[.slice aa ds.length ac, .slice ca bd.length cc] 28))
  rw [HSZ] at HF
  have HO2 := below_alloc (w.alloc (.cells #[.slice aa ds.length ac, .slice ca bd.length cc] 28)) (.cells #[.pointer none, .slice none 0 0] 64)
  have HN2 := hide (Below.blk HO2 HN.out)
  have HB2 := hide (Below.step HO.out HO2)
  have HF2 := hide HF
  have HBW2 : Hid (w.heap.size + 1 ≤ ((w.alloc (.cells #[.slice aa ds.length ac, .slice ca bd.length cc] 28)).alloc (.cells #[.pointer none, .slice none 0 0] 64)).heap.size) := by show _ ≤ _; simp
  clear hd hs hS hv ht hg hlen hlen2 HF HO2 HSZ HN HO
  go_enter Tryz.func13, Tryz.ntmps13
  go_wp2_with fail
  generalize ((w.alloc (.cells #[.slice aa ds.length ac, .slice ca bd.length cc] 28)).alloc (.cells #[.pointer none, .slice none 0 0] 64)) = w2 at *
  go_loopw [5, 9] (fun _ i wr => ∃ j : Nat, j ≤ ds.length ∧ i = .int .i64 j ∧ Hid (Lib.IsBuilder 64 5 (w.heap.size + 1) (w.heap.size + 1) (Lib.byteCells (linesT (ds.take j))) wr) ∧ Hid (Wrote (w.heap.size + 1) w2 wr)) (fun _ i _ => ds.length - (intOf i).toNat)
  case atStart => exact ⟨0, Nat.zero_le _, rfl, HF2, hide (Wrote.refl _ w2)⟩
  case round =>
    obtain ⟨j, hj, rfl, hbr, hwr⟩ := hrel
    have HBA := hide (HB2.out.trans (hwr.out.below.mono (Nat.le_succ _)))
    have HBW := hide (Nat.le_trans HBW2.out hwr.out.size)
    have HVW := hide (HV.out.below HBA.out)
    have HTW := hide (HT.out.below HBA.out h14)
    have HW14 := hide (show 8 ≤ wr.heap.size by have := HBW.out; omega)
    by_cases hlt : j < ds.length
    · have hji : (j : Int) < (ds.length : Int) := by omega
      obtain ⟨g, cap', hv, hSg⟩ := IsRow.addr HD.out (by omega)
      obtain ⟨rfl, rfl⟩ : aa = some ⟨g, 0, none⟩ ∧ ac = cap' := by cases hv; exact ⟨rfl, rfl⟩
      have HDW : Hid (IsDes S wr ds (.slice (some ⟨g, 0, none⟩) ds.length ac)) := IsRow.same HD.out fun c h1 h2 => HBA.out.block c (HSS.out c h1)
      have HTJ := hide (linesT_take ds j hlt)
      have HTL := hide (show (linesT (ds.take (j + 1))).length ≤ (linesT ds).length from by
        have e := List.take_append_drop (j + 1) ds
        have h2 : ∀ (a b : List De), linesT (a ++ b) = linesT a ++ linesT b := by
          intro a b
          induction a with
          | nil => rfl
          | cons d l ih => simp only [List.cons_append, linesT, ih, List.append_assoc]
        have h3 := congrArg (fun l => (linesT l).length) e
        simp only [h2, List.length_append] at h3
        omega)
      have r0 : wr.cell? ⟨g, j * 4, none⟩ = some (.string ds[j].name) := HDW.out.cell rfl hlt (k := 0) rfl (by decide)
      have r1 : wr.cell? ⟨g, j * 4 + 1, none⟩ = some (.int .i64 ds[j].way) := HDW.out.cell rfl hlt (k := 1) rfl (by decide)
      have r2 : wr.cell? ⟨g, j * 4 + 2, none⟩ = some (.int .i64 ds[j].ty) := HDW.out.cell rfl hlt (k := 2) rfl (by decide)
      have r3 : wr.cell? ⟨g, j * 4 + 3, none⟩ = some (.int .i64 ds[j].init) := HDW.out.cell rfl hlt (k := 3) rfl (by decide)
      have HGD := hide (HG.out.decls ds[j] (List.getElem_mem hlt))
      generalize ds[j] = d at *
      obtain ⟨nm, way, ty, init⟩ := d
      simp only at r0 r1 r2 r3
      have HO := hide (below_alloc wr (.cells #[.string nm, .int .i64 way, .int .i64 ty, .int .i64 init] 56))
      have HLN := hide (line_at ⟨nm, way, ty, init⟩ HGD.out (wr.alloc (.cells #[.string nm, .int .i64 way, .int .i64 ty, .int .i64 init] 56)) (HVW.out.below HO.out) (HTW.out.below HO.out HW14.out) (Nat.le_trans HW14.out HO.out.size))
      clear hv
      go_wp2_with fail
      refine HLN.out.mono ?_
      rintro e w3 ⟨rfl, h3⟩
      have HB3 := hide (isBuilder_below hbr.out (Below.step HO.out h3))
      have HW3 := hide (hwr.out.trans (Wrote.of (Below.step HO.out h3) HBW.out))
      have HBW3 := hide (Nat.le_trans HBW2.out HW3.out.size)
      clear h3
      go_wp2_with fail
      refine (writes_at _ HB3.out (by rw [str_sz]; have := HTL.out; rw [HTJ.out, List.length_append] at this; have := HL.out; omega) HBW3.out).mono ?_
      rintro e w4 ⟨rfl, h4, h5⟩
      have HB4 := hide h4
      have HW4 := hide (HW3.out.trans h5)
      clear h4 h5
      go_wp2_with fail
      refine ⟨⟨j + 1, by omega, by go_num, hide ?_, HW4⟩, by simp [intOf]; omega⟩
      rw [HTJ.out]
      exact HB4.out
    · have HJ : Hid (j = ds.length) := (by omega : j = ds.length)
      have HBE := hide (show Lib.IsBuilder 64 5 (w.heap.size + 1) (w.heap.size + 1) (Lib.byteCells (linesT ds)) wr by have := hbr.out; rw [HJ.out, List.take_length] at this; exact this)
      go_wp2_with fail
      refine (writes_at _ HBE.out (by have := HL.out; show _ + 6 ≤ _; omega) HBW.out).mono ?_
      rintro e w3 ⟨rfl, h4, h5⟩
      have HB3 := hide h4
      have HW3 := hide (hwr.out.trans h5)
      have HBW3 := hide (Nat.le_trans HBW2.out HW3.out.size)
      have HBA3 := hide (HB2.out.trans (HW3.out.below.mono (Nat.le_succ _)))
      have HN3 := hide ((HW3.out.block w.heap.size (Nat.lt_succ_self _)).trans HN2.out)
      clear h4 h5
      have c1 : w3.cell? ⟨w.heap.size, 1, none⟩ = some (.slice ca bd.length cc) := by rw [blk_cell HN3.out]; rfl
      go_wp2_with fail
      refine (ws_all 8 bd HG.out.deep HG.out.body S w3 _ (w.heap.size + 1) (w.heap.size + 1) [32, 32] _ (HS.out.same fun c h1 _ => HBA3.out.block c (HSS.out c h1)) (fun c h => Nat.lt_succ_of_lt (HSS.out c h)) HB3.out HBW3.out (HT.out.below HBA3.out h14) (Nat.le_succ_of_le h14) (by have := HL.out; rw [List.length_append]; show _ + 6 + _ ≤ _; omega)).mono ?_
      rintro e w4 ⟨rfl, h4, h5⟩
      have HB4 := hide h4
      have HW4 := hide (HW3.out.trans h5)
      have HBW4 := hide (Nat.le_trans HBW2.out HW4.out.size)
      clear h4 h5 c1
      go_wp2_with fail
      refine (writes_at _ HB4.out (by have := HL.out; rw [List.length_append, List.length_append]; show _ + 6 + _ + 4 ≤ _; omega) HBW4.out).mono ?_
      rintro e w5 ⟨rfl, h4, h5⟩
      have HB5 := hide h4
      have HW5 := hide (HW4.out.trans h5)
      have HBW5 := hide (Nat.le_trans HBW2.out HW5.out.size)
      clear h4 h5
      go_wp2_with fail
      refine (Tryz.Builder_String_any (w.heap.size + 1) (w.heap.size + 1) _ w5 HB5.out HBW5.out).mono ?_
      rintro e w6 ⟨rfl, h6⟩
      have HBA6 := hide ((HB2.out.trans (HW5.out.below.mono (Nat.le_succ _))).trans (h6.mono (Nat.le_succ _)))
      clear h6
      go_wp2_with fail
      go_ret
      rw [HP.out]
      refine ⟨?_, HBA6.out⟩
      show Ending.returned (.string ⟨(linesT ds ++ 98 :: 101 :: 103 :: 105 :: 110 :: 10 :: (stsT bd [32, 32] ++ [101, 110, 100, 10])).toArray⟩) = _
      simp
end Go.Proofs.YtpblellbffmolaaGreatDoor
