/-
 THE WALK of CheckFinds.
-/
import Derived.Test.YtalolaikhloopaaGreatDoorTk
import Derived.Test.YtalolaikhloopaaGreatDoorRCheck
import Derived.Test.YtalolaikhloopaaGreatDoorCheck
import Derived.Test.YtalolaikhloopaaGreatDoorEnvU
namespace Go.Proofs.YtalolaikhloopaaGreatDoor
open Go.RowKit
set_option linter.unusedSimpArgs false
set_option linter.unusedVariables false

theorem ikey_ok (b : Bool) (n : Nat) (k : Int) (w : World) : (Instr.checkKey b (n + 1) 3 (.int .i64 k)).run Tryz.prog w = .ok () w := by
 unfold Instr.checkKey
 simp [go_sem]
theorem ikey_ok' (b : Bool) (k : Int) (w : World) : (Instr.checkKey b 10000 3 (.int .i64 k)).run Tryz.prog w = .ok () w := ikey_ok b 9999 k w
theorem iins_now (W : World) (es : Array MapEntry) (c : Nat) (k : Int) (v : Value) (hf : Instr.findNow (.int .i64) (.int .i64 k) es.toList 0 = some none) :
  (Instr.mapUpdate 51 (.map (some W.heap.size)) (.int .i64 k) v).run Tryz.prog (W.alloc (.map es c)) = .ok () (W.alloc (.map (es.push ⟨.int .i64 k, v, c⟩) (c + 1))) := by
 have h0 : (W.alloc (.map es c)).heap[W.heap.size]? = some (.map es c) := blk_new W _
 have h1 := ikey_ok' false k
 have h2 : (getObj W.heap.size).run Tryz.prog (W.alloc (.map es c)) = .ok (.map es c) (W.alloc (.map es c)) := by simp only [getObj, Sem.run, h0]
 have h3 : ∀ o, (setObj W.heap.size o).run Tryz.prog (W.alloc (.map es c)) = .ok () { (W.alloc (.map es c)) with heap := (W.alloc (.map es c)).heap.setIfInBounds W.heap.size o } := fun o => by simp only [setObj, Sem.run, h0]
 simp [Instr.mapUpdate, go_sem, Instr.findKey, h1, hf, h2, h3]
 unfold World.alloc
 simp only [set_last]
theorem iput (W : World) : (Instr.mapUpdate 51 (.map (some W.heap.size)) (.int .i64 3) (.int .i64 1)).run Tryz.prog (W.alloc (.map #[] 0)) = .ok () (W.alloc (.map #[⟨.int .i64 3, .int .i64 1, 0⟩] 1)) ∧
  (Instr.mapUpdate 51 (.map (some W.heap.size)) (.int .i64 4) (.int .i64 2)).run Tryz.prog (W.alloc (.map #[⟨.int .i64 3, .int .i64 1, 0⟩] 1)) = .ok () (W.alloc (.map #[⟨.int .i64 3, .int .i64 1, 0⟩, ⟨.int .i64 4, .int .i64 2, 1⟩] 2)) ∧
  (Instr.mapUpdate 51 (.map (some W.heap.size)) (.int .i64 5) (.int .i64 1)).run Tryz.prog (W.alloc (.map #[⟨.int .i64 3, .int .i64 1, 0⟩, ⟨.int .i64 4, .int .i64 2, 1⟩] 2)) = .ok () (W.alloc (.map #[⟨.int .i64 3, .int .i64 1, 0⟩, ⟨.int .i64 4, .int .i64 2, 1⟩, ⟨.int .i64 5, .int .i64 1, 2⟩] 3)) :=
 ⟨iins_now W _ 0 _ _ rfl, iins_now W _ 1 _ _ rfl, iins_now W _ 2 _ _ rfl⟩
theorem ifind (k : Int) (W : World) : (Instr.lookup 51 (.map (some W.heap.size)) (.int .i64 k) false).run Tryz.prog (W.alloc (.map #[⟨.int .i64 3, .int .i64 1, 0⟩, ⟨.int .i64 4, .int .i64 2, 1⟩, ⟨.int .i64 5, .int .i64 1, 2⟩] 3)) = .ok (.int .i64 (argsI k).1) (W.alloc (.map #[⟨.int .i64 3, .int .i64 1, 0⟩, ⟨.int .i64 4, .int .i64 2, 1⟩, ⟨.int .i64 5, .int .i64 1, 2⟩] 3)) := by
 have h0 : (W.alloc (.map #[⟨.int .i64 3, .int .i64 1, 0⟩, ⟨.int .i64 4, .int .i64 2, 1⟩, ⟨.int .i64 5, .int .i64 1, 2⟩] 3)).heap[W.heap.size]? = some (.map #[⟨.int .i64 3, .int .i64 1, 0⟩, ⟨.int .i64 4, .int .i64 2, 1⟩, ⟨.int .i64 5, .int .i64 1, 2⟩] 3) := blk_new W _
 have h1 := fun b => ikey_ok' b k
 have h2 : (getObj W.heap.size).run Tryz.prog (W.alloc (.map #[⟨.int .i64 3, .int .i64 1, 0⟩, ⟨.int .i64 4, .int .i64 2, 1⟩, ⟨.int .i64 5, .int .i64 1, 2⟩] 3)) = .ok (.map #[⟨.int .i64 3, .int .i64 1, 0⟩, ⟨.int .i64 4, .int .i64 2, 1⟩, ⟨.int .i64 5, .int .i64 1, 2⟩] 3) (W.alloc (.map #[⟨.int .i64 3, .int .i64 1, 0⟩, ⟨.int .i64 4, .int .i64 2, 1⟩, ⟨.int .i64 5, .int .i64 1, 2⟩] 3)) := by simp only [getObj, Sem.run, h0]
 rcases (show k = 3 ∨ k = 4 ∨ k = 5 ∨ (k ≠ 3 ∧ k ≠ 4 ∧ k ≠ 5) by omega) with rfl | rfl | rfl | ⟨h3, h4, h5⟩
 ·simp [Instr.lookup, go_sem, Instr.findKey, h1, h2, Instr.findNow, Instr.sameNow, argsI]
 ·simp [Instr.lookup, go_sem, Instr.findKey, h1, h2, Instr.findNow, Instr.sameNow, argsI]
 ·simp [Instr.lookup, go_sem, Instr.findKey, h1, h2, Instr.findNow, Instr.sameNow, argsI]
 ·have a3 : (k == 3) = false := by rw [beq_eq_false_iff_ne]; exact h3
  have a4 : (k == 4) = false := by rw [beq_eq_false_iff_ne]; exact h4
  have a5 : (k == 5) = false := by rw [beq_eq_false_iff_ne]; exact h5
  simp [Instr.lookup, go_sem, Instr.findKey, h1, h2, Instr.findNow, Instr.sameNow, argsI, h3, h4, h5, a3, a4, a5]

def TrueB (w : World) : Ending → World → Prop := fun e w' => e = .returned (.bool true) ∧ Below w.heap.size w w'
set_option maxRecDepth 100000 in
set_option maxHeartbeats 3200000 in
theorem finds_long (s name : ByteArray) (kind : Int) (w : World) (h : 1500 < s.size) : Calls Tryz.prog 5 #[.string s, .int .i64 kind, .string name] w (TrueB w) := by
 have hi : (1500 : Int) < (s.size : Int) := by omega
 go_enter Tryz.func5, Tryz.ntmps5
 go_wp2_with fail
 go_ret
 exact ⟨rfl, Below.refl _ _⟩
set_option maxRecDepth 100000 in
set_option maxHeartbeats 3200000 in
theorem finds_long2 (s name : ByteArray) (kind : Int) (w : World) (h : ¬ 1500 < s.size) (h2 : 20 < name.size) : Calls Tryz.prog 5 #[.string s, .int .i64 kind, .string name] w (TrueB w) := by
 have hi : ¬ (1500 : Int) < (s.size : Int) := by omega
 have hi2 : (20 : Int) < (name.size : Int) := by omega
 go_enter Tryz.func5, Tryz.ntmps5
 go_wp2_with fail
 go_ret
 exact ⟨rfl, Below.refl _ _⟩

/-- what is known of a program that was read -/
theorem good_p {s : ByteArray} (hs : s.size ≤ 1500) (p : List De × List St) (k : Nat) (h : parse2 s = .ok p k) : p.1.length ≤ 20 ∧ depL p.2 ≤ 8 ∧ p.2.length ≤ 1000000 ∧ SmL p.2 ∧ (∀ d ∈ p.1, 1 ≤ d.ty ∧ d.ty ≤ 5) ∧ GoodL p.2 ∧ BR p.2 := by
 obtain ⟨g1, g2⟩ := parse_inv (by omega) h
 have h1 : (stsK p.2).length ≤ (printK p).length := by simp only [printK, List.length_append]; omega
 have h2 := qstsK_ge p.2
 refine ⟨g1.many, g1.deep, by omega, sm_sts p.2 (by omega), fun d hd => ?_, g1.body, cbody_all _ p.2 (Nat.le_refl _) (by omega) (qm_sts p.2 (by omega))⟩
 rcases (g1.decls d hd).form with q | q
 ·omega
 ·omega

set_option maxRecDepth 100000 in
set_option maxHeartbeats 12800000 in
theorem finds_a (s name : ByteArray) (kind : Int) (w : World) (h1 : ¬ 1500 < s.size) (h2 : ¬ 20 < name.size) (henv : Env w) (hk : kind = 3) : Calls Tryz.prog 5 #[.string s, .int .i64 kind, .string name] w (TrueB w) := by
 have hi : ¬ (1500 : Int) < (s.size : Int) := by omega
 have hi2 : ¬ (20 : Int) < (name.size : Int) := by omega
 have HE := hide henv
 have HSZ : Hid (s.size ≤ 1500) := hide (by omega)
 have HCF := hide (cfield_at kind name w)
 have HRF := hide (rfield_at kind name w)
 have HAR := hide (cargs_at kind w)
 have hmm := @run_makeMap Tryz.prog
 obtain ⟨i1, i2, i3⟩ := iput w
 have i4 := ifind kind w
 have hne := flt_ne
 have HA2 : Hid ((argsI kind).2 = true) := hide (by rw [hk]; rfl)
 generalize fieldI kind name.toList = fk at *
 have hk3 : (kind == 3) = true := by rw [hk]; rfl
 clear h1 h2 henv hk
 go_enter Tryz.func5, Tryz.ntmps5
 go_wp2_with fail
 refine HCF.out.mono ?_
 rintro e w1 ⟨rfl, hw1⟩
 obtain rfl : w = w1 := hw1.symm
 go_wp2_with fail
 refine HRF.out.mono ?_
 rintro e w2 ⟨rfl, hw2⟩
 obtain rfl : w = w2 := hw2.symm
 go_wp2_with fail
 refine HAR.out.mono ?_
 rintro e w3 ⟨rfl, hw3⟩
 obtain rfl : w = w3 := hw3.symm
 rw [HA2.out]
 generalize (argsI kind).1 = am at *
 go_wp2_with fail
 have HBm := hide (below_alloc w (.map #[⟨.int .i64 3, .int .i64 1, 0⟩, ⟨.int .i64 4, .int .i64 2, 1⟩, ⟨.int .i64 5, .int .i64 1, 2⟩] 3))
 have HEm := hide (HE.out.below HBm.out)
 generalize w.alloc (.map #[⟨.int .i64 3, .int .i64 1, 0⟩, ⟨.int .i64 4, .int .i64 2, 1⟩, ⟨.int .i64 5, .int .i64 1, 2⟩] 3) = wm at *
 clear i1 i2 i3 i4 hmm
 have HRP := hide (rparse_at s wm (by have := HSZ.out; omega) HEm.out.rvars HEm.out.big)
 have HPP := hide (fun W (h : Env W) => parse_at s W (by have := HSZ.out; omega) h.vars h.big)
 have HGP := hide (fun p k h => good_p HSZ.out p k h)
 cases hp : parse2 s with
 | out =>
  rw [hp] at HRP
  refine HRP.out.mono ?_
  rintro e w1 ⟨_, h⟩
  exact h.elim
 | bad er q =>
  rw [hp] at HRP HPP
  clear hp HGP
  refine HRP.out.mono ?_
  rintro e w1 ⟨hb1, he⟩
  have he : e = .returned (.tuple #[.agg #[.slice none 0 0, .slice none 0 0], .agg #[.int .i64 er, .int .i64 q]]) := he
  subst he
  have hb2 := Below.step (below_alloc w1 (.cells #[.slice none 0 0, .slice none 0 0] 25)) (below_alloc _ (.cells #[.int .i64 er, .int .i64 q] 28))
  have HB2 := hide (Below.step HBm.out (Below.step hb1 hb2))
  have HF2 : Hid (((w1.alloc (.cells #[.slice none 0 0, .slice none 0 0] 25)).alloc (.cells #[.int .i64 er, .int .i64 q] 28)).heap[w1.heap.size + 1]? = some (.cells #[.int .i64 er, .int .i64 q] 28 (0, 0))) := hide (blk_new2 w1 _ _)
  have HE2 := hide (HE.out.below HB2.out)
  clear hb1 hb2
  go_wp2_with fail
  generalize (w1.alloc (.cells #[.slice none 0 0, .slice none 0 0] 25)).alloc (.cells #[.int .i64 er, .int .i64 q] 28) = w2 at *
  generalize w1.heap.size = P at *
  refine (HPP.out w2 HE2.out).mono ?_
  rintro e w3 ⟨hb3, A, he, hA⟩
  subst he
  have hb4 := below_alloc w3 (.cells #[.slice none 0 0, .slice none 0 0] 25)
  have HB4 := hide (Below.step HB2.out (Below.step hb3 hb4))
  have HF4 := hide (Below.blk (Below.step hb3 hb4) HF2.out)
  have HE4 := hide (HE.out.below HB4.out)
  have HER := hide (err_at HE4.out.hdl A q er (Below.blk hb4 hA))
  have f0 : (w3.alloc (.cells #[.slice none 0 0, .slice none 0 0] 25)).cell? ⟨P + 1, 0, none⟩ = some (.int .i64 er) := by rw [blk_cell HF4.out]; rfl
  have f1 : (w3.alloc (.cells #[.slice none 0 0, .slice none 0 0] 25)).cell? ⟨P + 1, 1, none⟩ = some (.int .i64 q) := by rw [blk_cell HF4.out]; rfl
  have g0 : (w3.alloc (.cells #[.slice none 0 0, .slice none 0 0] 25)).cell? ⟨0, 0, none⟩ = some (.int .i64 0) := by rw [blk_cell HE4.out.rvars.fine]; rfl
  have g1 : (w3.alloc (.cells #[.slice none 0 0, .slice none 0 0] 25)).cell? ⟨0, 1, none⟩ = some (.int .i64 (-1)) := by rw [blk_cell HE4.out.rvars.fine]; rfl
  have hq1 : (!(er == 0 && (q : Int) == -1)) = true := by
   have : ((q : Int) == -1) = false := by rw [beq_eq_false_iff_ne]; omega
   rw [this, Bool.and_false]; rfl
  clear hb3 hb4 hA
  go_wp2_with fail
  generalize w3.alloc (.cells #[.slice none 0 0, .slice none 0 0] 25) = w4 at *
  refine (HER.out w4 (Below.refl _ _)).mono ?_
  rintro e w5 ⟨rfl, hb5⟩
  have HB5 := hide (Below.step HB4.out hb5)
  clear hb5
  go_wp2_with fail
  go_ret
  exact ⟨rfl, HB5.out⟩
 | ok p k =>
  rw [hp] at HRP HPP
  obtain ⟨n1, n2, n3, n4, n5, n6, n7⟩ := HGP.out p k hp
  have HCK := hide (fun S W a c hd hs => check_at p (by omega) n2 n3 n4 S W a c hd hs)
  have HRK := hide (fun S W a c hd hs (h : Env W) => rcheck_at p (by omega) n5 n6 n7 S W a c hd hs h.rvars h.big)
  clear hp HGP n1 n2 n3 n4 n5 n6 n7
  refine HRP.out.mono ?_
  rintro e w1 ⟨hb1, v1, he, hv1⟩
  subst he
  obtain ⟨da, dc, ba, bc, rfl, hd1, hs1⟩ := prRep_2 hv1
  have hb2 := Below.step (below_alloc w1 (.cells #[.slice da p.1.length dc, .slice ba p.2.length bc] 25)) (below_alloc _ (.cells #[.int .i64 0, .int .i64 (-1)] 28))
  have HB2 := hide (Below.step HBm.out (Below.step hb1 hb2))
  have HP2 := hide (Below.blk (below_alloc (w1.alloc (.cells #[.slice da p.1.length dc, .slice ba p.2.length bc] 25)) (.cells #[.int .i64 0, .int .i64 (-1)] 28)) (blk_new w1 (.cells #[.slice da p.1.length dc, .slice ba p.2.length bc] 25)))
  have HF2 : Hid (((w1.alloc (.cells #[.slice da p.1.length dc, .slice ba p.2.length bc] 25)).alloc (.cells #[.int .i64 0, .int .i64 (-1)] 28)).heap[w1.heap.size + 1]? = some (.cells #[.int .i64 0, .int .i64 (-1)] 28 (0, 0))) := hide (blk_new2 w1 _ _)
  have HD2 : Hid (IsDes (From wm.heap.size) ((w1.alloc (.cells #[.slice da p.1.length dc, .slice ba p.2.length bc] 25)).alloc (.cells #[.int .i64 0, .int .i64 (-1)] 28)) p.1 (.slice da p.1.length dc)) := hide (IsRow.same hd1 fun c _ h => hb2.block c h)
  have HS2 : Hid (IsSts (From wm.heap.size) ((w1.alloc (.cells #[.slice da p.1.length dc, .slice ba p.2.length bc] 25)).alloc (.cells #[.int .i64 0, .int .i64 (-1)] 28)) p.2 (.slice ba p.2.length bc)) := hide (hs1.same fun c _ h => hb2.block c h)
  have HE2 := hide (HE.out.below HB2.out)
  clear hb1 hb2 hd1 hs1 hv1
  go_wp2_with fail
  generalize (w1.alloc (.cells #[.slice da p.1.length dc, .slice ba p.2.length bc] 25)).alloc (.cells #[.int .i64 0, .int .i64 (-1)] 28) = w2 at *
  generalize w1.heap.size = P at *
  refine (HPP.out w2 HE2.out).mono ?_
  rintro e w3 ⟨hb3, v3, he, hv3⟩
  subst he
  obtain ⟨da2, dc2, ba2, bc2, rfl, hd3, hs3⟩ := prRep_2 hv3
  have hb4 := below_alloc w3 (.cells #[.slice da2 p.1.length dc2, .slice ba2 p.2.length bc2] 25)
  have hb24 := Below.step hb3 hb4
  have HB4 := hide (Below.step HB2.out hb24)
  have HQ4 := hide (blk_new w3 (.cells #[.slice da2 p.1.length dc2, .slice ba2 p.2.length bc2] 25))
  have HP4 := hide (Below.blk hb24 HP2.out)
  have HF4 := hide (Below.blk hb24 HF2.out)
  have HD4 : Hid (IsDes (From wm.heap.size) (w3.alloc (.cells #[.slice da2 p.1.length dc2, .slice ba2 p.2.length bc2] 25)) p.1 (.slice da p.1.length dc)) := hide (IsRow.same HD2.out fun c _ h => hb24.block c h)
  have HS4 : Hid (IsSts (From wm.heap.size) (w3.alloc (.cells #[.slice da2 p.1.length dc2, .slice ba2 p.2.length bc2] 25)) p.2 (.slice ba p.2.length bc)) := hide (HS2.out.same fun c _ h => hb24.block c h)
  have HD4' : Hid (IsDes (From w2.heap.size) (w3.alloc (.cells #[.slice da2 p.1.length dc2, .slice ba2 p.2.length bc2] 25)) p.1 (.slice da2 p.1.length dc2)) := hide (IsRow.same hd3 fun c _ h => hb4.block c h)
  have HS4' : Hid (IsSts (From w2.heap.size) (w3.alloc (.cells #[.slice da2 p.1.length dc2, .slice ba2 p.2.length bc2] 25)) p.2 (.slice ba2 p.2.length bc2)) := hide (hs3.same fun c _ h => hb4.block c h)
  have HE4 := hide (HE.out.below HB4.out)
  have f0 : (w3.alloc (.cells #[.slice da2 p.1.length dc2, .slice ba2 p.2.length bc2] 25)).cell? ⟨P + 1, 0, none⟩ = some (.int .i64 0) := by rw [blk_cell HF4.out]; rfl
  have f1 : (w3.alloc (.cells #[.slice da2 p.1.length dc2, .slice ba2 p.2.length bc2] 25)).cell? ⟨P + 1, 1, none⟩ = some (.int .i64 (-1)) := by rw [blk_cell HF4.out]; rfl
  have g0 : (w3.alloc (.cells #[.slice da2 p.1.length dc2, .slice ba2 p.2.length bc2] 25)).cell? ⟨0, 0, none⟩ = some (.int .i64 0) := by rw [blk_cell HE4.out.rvars.fine]; rfl
  have g1 : (w3.alloc (.cells #[.slice da2 p.1.length dc2, .slice ba2 p.2.length bc2] 25)).cell? ⟨0, 1, none⟩ = some (.int .i64 (-1)) := by rw [blk_cell HE4.out.rvars.fine]; rfl
  clear hb3 hb4 hb24 hd3 hs3 hv3 HD2 HS2 HP2 HF2
  go_wp2_with fail
  generalize w3.alloc (.cells #[.slice da2 p.1.length dc2, .slice ba2 p.2.length bc2] 25) = w4 at *
  generalize w3.heap.size = Q at *
  clear f0 f1 g0 g1
  have HSW : Hid (∀ W, Below w4.heap.size w4 W → (W.cell? ⟨P, 0, none⟩ = some (.slice da p.1.length dc) ∧ W.cell? ⟨P, 1, none⟩ = some (.slice ba p.2.length bc) ∧ W.cell? ⟨Q, 0, none⟩ = some (.slice da2 p.1.length dc2) ∧ W.cell? ⟨Q, 1, none⟩ = some (.slice ba2 p.2.length bc2))) := hide fun W hb => ⟨by rw [blk_cell (Below.blk hb HP4.out)]; rfl, by rw [blk_cell (Below.blk hb HP4.out)]; rfl, by rw [blk_cell (Below.blk hb HQ4.out)]; rfl, by rw [blk_cell (Below.blk hb HQ4.out)]; rfl⟩
  have HBD := hide (show Below w4.heap.size w4 w4.drew from (Below.refl _ _).drew)
  refine wp_region_held_drew (S := fun W => W.cell? ⟨P, 0, none⟩ = some (.slice da p.1.length dc) ∧ W.cell? ⟨P, 1, none⟩ = some (.slice ba p.2.length bc) ∧ W.cell? ⟨Q, 0, none⟩ = some (.slice da2 p.1.length dc2) ∧ W.cell? ⟨Q, 1, none⟩ = some (.slice ba2 p.2.length bc2)) (by kernel_rfl) (HSW.out _ HBD.out) (fun _ => ?_)
  refine tkA 0 79 (.agg #[.slice da2 p.1.length dc2, .slice ba2 p.2.length bc2]) rfl (by kernel_rfl) (fun _ _ _ h => h) rfl (fun W hS => by (obtain ⟨s0, s1, s2, s3⟩ := hS; go_simp)) (HSW.out _ HBD.out) ?_
  simp only [pu]
  refine tkA 2 81 (.agg #[.slice da p.1.length dc, .slice ba p.2.length bc]) rfl (by kernel_rfl) (fun _ _ _ h => h) rfl (fun W hS => by (obtain ⟨s0, s1, s2, s3⟩ := hS; go_simp)) (HSW.out _ HBD.out) ?_
  simp only [pu]
  refine wpAnyH_ready (rs := [1]) (by kernel_rfl) (by simp) ?_
  refine AllReadyH.cons rfl (fun K hK => ?_) AllReadyH.nil
  go_simp
  refine (HCK.out (From w2.heap.size) w4.drew _ _ (IsRow.same HD4'.out fun c _ h => HBD.out.block c h) (HS4'.out.same fun c _ h => HBD.out.block c h)).mono ?_
  rintro e w5 ⟨hb5, h5⟩
  have HB45 : Hid (Below w4.heap.size w4 w5) := hide (Below.step HBD.out hb5)
  have HEE : Hid (∃ ev, e = .returned ev ∧ ErrOK w5 ev (outC (checkC p)).1 (outC (checkC p)).2) := hide (by
   cases hc : checkC p with
   | ok u => rw [hc] at h5; exact ⟨_, h5, err_nil w5⟩
   | bad er q =>
    rw [hc] at h5
    obtain ⟨A, he, hA⟩ := h5
    exact ⟨_, he, err_at (HE.out.below (Below.step HB4.out HB45.out)).hdl A q er hA⟩)
  obtain ⟨ev, he, hev⟩ := HEE.out
  subst he
  have HEV := hide hev
  clear hb5 h5 hev HEE
  refine hK.out _ _ (HSW.out _ HB45.out) (fun _ => ?_)
  clear hK K
  refine wpAnyH_ready (rs := [3]) (by kernel_rfl) (by simp) ?_
  refine AllReadyH.cons rfl (fun K hK => ?_) AllReadyH.nil
  go_simp
  refine (HRK.out (From wm.heap.size) w5 _ _ (IsRow.same HD4.out fun c _ h => HB45.out.block c h) (HS4.out.same fun c _ h => HB45.out.block c h) (HE.out.below (Below.step HB4.out HB45.out))).mono ?_
  rintro e w6 ⟨rfl, hb6⟩
  have HB46 : Hid (Below w4.heap.size w4 w6) := hide (Below.step HB45.out hb6)
  have HEW := hide (HEV.out.below hb6)
  clear hb6
  refine hK.out _ _ (HSW.out _ HB46.out) (fun _ => ?_)
  clear hK K
  refine wpAnyH_ready (rs := [4]) (by kernel_rfl) (by simp) ?_
  refine AllReadyH.cons rfl (fun K hK => ?_) AllReadyH.nil
  go_simp
  refine (HEW.out w6 (Below.refl _ _)).mono ?_
  rintro e w7 ⟨rfl, hb7⟩
  have HB47 : Hid (Below w4.heap.size w4 w7) := hide (Below.step HB46.out hb7)
  clear hb7
  refine hK.out _ _ (HSW.out _ HB47.out) (fun _ => ?_)
  clear hK K
  refine tkA 5 6 (.bool true) rfl (by kernel_rfl) (fun _ _ _ h => h) rfl (fun W hS => by go_simp) (HSW.out _ HB47.out) ?_
  simp only [pu]
  refine wpAnyH_done (by kernel_rfl) ?_ _
  go_wp2_with fail
  go_ret
  exact ⟨rfl, Below.step HB4.out HB47.out⟩

set_option maxRecDepth 100000 in
set_option maxHeartbeats 12800000 in
theorem finds_b (s name : ByteArray) (kind : Int) (w : World) (h1 : ¬ 1500 < s.size) (h2 : ¬ 20 < name.size) (henv : Env w) (hk : kind = 4) : Calls Tryz.prog 5 #[.string s, .int .i64 kind, .string name] w (TrueB w) := by
 have hi : ¬ (1500 : Int) < (s.size : Int) := by omega
 have hi2 : ¬ (20 : Int) < (name.size : Int) := by omega
 have HE := hide henv
 have HSZ : Hid (s.size ≤ 1500) := hide (by omega)
 have HCF := hide (cfield_at kind name w)
 have HRF := hide (rfield_at kind name w)
 have HAR := hide (cargs_at kind w)
 have hmm := @run_makeMap Tryz.prog
 obtain ⟨i1, i2, i3⟩ := iput w
 have i4 := ifind kind w
 have hne := flt_ne
 have HA2 : Hid ((argsI kind).2 = true) := hide (by rw [hk]; rfl)
 generalize fieldI kind name.toList = fk at *
 have hk3 : (kind == 3) = false := by rw [hk]; rfl
 have hk4 : (kind == 4) = true := by rw [hk]; rfl
 clear h1 h2 henv hk
 go_enter Tryz.func5, Tryz.ntmps5
 go_wp2_with fail
 refine HCF.out.mono ?_
 rintro e w1 ⟨rfl, hw1⟩
 obtain rfl : w = w1 := hw1.symm
 go_wp2_with fail
 refine HRF.out.mono ?_
 rintro e w2 ⟨rfl, hw2⟩
 obtain rfl : w = w2 := hw2.symm
 go_wp2_with fail
 refine HAR.out.mono ?_
 rintro e w3 ⟨rfl, hw3⟩
 obtain rfl : w = w3 := hw3.symm
 rw [HA2.out]
 generalize (argsI kind).1 = am at *
 go_wp2_with fail
 have HBm := hide (below_alloc w (.map #[⟨.int .i64 3, .int .i64 1, 0⟩, ⟨.int .i64 4, .int .i64 2, 1⟩, ⟨.int .i64 5, .int .i64 1, 2⟩] 3))
 have HEm := hide (HE.out.below HBm.out)
 generalize w.alloc (.map #[⟨.int .i64 3, .int .i64 1, 0⟩, ⟨.int .i64 4, .int .i64 2, 1⟩, ⟨.int .i64 5, .int .i64 1, 2⟩] 3) = wm at *
 clear i1 i2 i3 i4 hmm
 have HRP := hide (rparse_at s wm (by have := HSZ.out; omega) HEm.out.rvars HEm.out.big)
 have HPP := hide (fun W (h : Env W) => parse_at s W (by have := HSZ.out; omega) h.vars h.big)
 have HGP := hide (fun p k h => good_p HSZ.out p k h)
 cases hp : parse2 s with
 | out =>
  rw [hp] at HRP
  refine HRP.out.mono ?_
  rintro e w1 ⟨_, h⟩
  exact h.elim
 | bad er q =>
  rw [hp] at HRP HPP
  clear hp HGP
  refine HRP.out.mono ?_
  rintro e w1 ⟨hb1, he⟩
  have he : e = .returned (.tuple #[.agg #[.slice none 0 0, .slice none 0 0], .agg #[.int .i64 er, .int .i64 q]]) := he
  subst he
  have hb2 := Below.step (below_alloc w1 (.cells #[.slice none 0 0, .slice none 0 0] 25)) (below_alloc _ (.cells #[.int .i64 er, .int .i64 q] 28))
  have HB2 := hide (Below.step HBm.out (Below.step hb1 hb2))
  have HF2 : Hid (((w1.alloc (.cells #[.slice none 0 0, .slice none 0 0] 25)).alloc (.cells #[.int .i64 er, .int .i64 q] 28)).heap[w1.heap.size + 1]? = some (.cells #[.int .i64 er, .int .i64 q] 28 (0, 0))) := hide (blk_new2 w1 _ _)
  have HE2 := hide (HE.out.below HB2.out)
  clear hb1 hb2
  go_wp2_with fail
  generalize (w1.alloc (.cells #[.slice none 0 0, .slice none 0 0] 25)).alloc (.cells #[.int .i64 er, .int .i64 q] 28) = w2 at *
  generalize w1.heap.size = P at *
  refine (HPP.out w2 HE2.out).mono ?_
  rintro e w3 ⟨hb3, A, he, hA⟩
  subst he
  have hb4 := below_alloc w3 (.cells #[.slice none 0 0, .slice none 0 0] 25)
  have HB4 := hide (Below.step HB2.out (Below.step hb3 hb4))
  have HF4 := hide (Below.blk (Below.step hb3 hb4) HF2.out)
  have HE4 := hide (HE.out.below HB4.out)
  have HER := hide (err_at HE4.out.hdl A q er (Below.blk hb4 hA))
  have f0 : (w3.alloc (.cells #[.slice none 0 0, .slice none 0 0] 25)).cell? ⟨P + 1, 0, none⟩ = some (.int .i64 er) := by rw [blk_cell HF4.out]; rfl
  have f1 : (w3.alloc (.cells #[.slice none 0 0, .slice none 0 0] 25)).cell? ⟨P + 1, 1, none⟩ = some (.int .i64 q) := by rw [blk_cell HF4.out]; rfl
  have g0 : (w3.alloc (.cells #[.slice none 0 0, .slice none 0 0] 25)).cell? ⟨0, 0, none⟩ = some (.int .i64 0) := by rw [blk_cell HE4.out.rvars.fine]; rfl
  have g1 : (w3.alloc (.cells #[.slice none 0 0, .slice none 0 0] 25)).cell? ⟨0, 1, none⟩ = some (.int .i64 (-1)) := by rw [blk_cell HE4.out.rvars.fine]; rfl
  have hq1 : (!(er == 0 && (q : Int) == -1)) = true := by
   have : ((q : Int) == -1) = false := by rw [beq_eq_false_iff_ne]; omega
   rw [this, Bool.and_false]; rfl
  clear hb3 hb4 hA
  go_wp2_with fail
  generalize w3.alloc (.cells #[.slice none 0 0, .slice none 0 0] 25) = w4 at *
  refine (HER.out w4 (Below.refl _ _)).mono ?_
  rintro e w5 ⟨rfl, hb5⟩
  have HB5 := hide (Below.step HB4.out hb5)
  clear hb5
  go_wp2_with fail
  go_ret
  exact ⟨rfl, HB5.out⟩
 | ok p k =>
  rw [hp] at HRP HPP
  obtain ⟨n1, n2, n3, n4, n5, n6, n7⟩ := HGP.out p k hp
  have HCK := hide (fun S W a c hd hs => check_at p (by omega) n2 n3 n4 S W a c hd hs)
  have HRK := hide (fun S W a c hd hs (h : Env W) => rcheck_at p (by omega) n5 n6 n7 S W a c hd hs h.rvars h.big)
  clear hp HGP n1 n2 n3 n4 n5 n6 n7
  refine HRP.out.mono ?_
  rintro e w1 ⟨hb1, v1, he, hv1⟩
  subst he
  obtain ⟨da, dc, ba, bc, rfl, hd1, hs1⟩ := prRep_2 hv1
  have hb2 := Below.step (below_alloc w1 (.cells #[.slice da p.1.length dc, .slice ba p.2.length bc] 25)) (below_alloc _ (.cells #[.int .i64 0, .int .i64 (-1)] 28))
  have HB2 := hide (Below.step HBm.out (Below.step hb1 hb2))
  have HP2 := hide (Below.blk (below_alloc (w1.alloc (.cells #[.slice da p.1.length dc, .slice ba p.2.length bc] 25)) (.cells #[.int .i64 0, .int .i64 (-1)] 28)) (blk_new w1 (.cells #[.slice da p.1.length dc, .slice ba p.2.length bc] 25)))
  have HF2 : Hid (((w1.alloc (.cells #[.slice da p.1.length dc, .slice ba p.2.length bc] 25)).alloc (.cells #[.int .i64 0, .int .i64 (-1)] 28)).heap[w1.heap.size + 1]? = some (.cells #[.int .i64 0, .int .i64 (-1)] 28 (0, 0))) := hide (blk_new2 w1 _ _)
  have HD2 : Hid (IsDes (From wm.heap.size) ((w1.alloc (.cells #[.slice da p.1.length dc, .slice ba p.2.length bc] 25)).alloc (.cells #[.int .i64 0, .int .i64 (-1)] 28)) p.1 (.slice da p.1.length dc)) := hide (IsRow.same hd1 fun c _ h => hb2.block c h)
  have HS2 : Hid (IsSts (From wm.heap.size) ((w1.alloc (.cells #[.slice da p.1.length dc, .slice ba p.2.length bc] 25)).alloc (.cells #[.int .i64 0, .int .i64 (-1)] 28)) p.2 (.slice ba p.2.length bc)) := hide (hs1.same fun c _ h => hb2.block c h)
  have HE2 := hide (HE.out.below HB2.out)
  clear hb1 hb2 hd1 hs1 hv1
  go_wp2_with fail
  generalize (w1.alloc (.cells #[.slice da p.1.length dc, .slice ba p.2.length bc] 25)).alloc (.cells #[.int .i64 0, .int .i64 (-1)] 28) = w2 at *
  generalize w1.heap.size = P at *
  refine (HPP.out w2 HE2.out).mono ?_
  rintro e w3 ⟨hb3, v3, he, hv3⟩
  subst he
  obtain ⟨da2, dc2, ba2, bc2, rfl, hd3, hs3⟩ := prRep_2 hv3
  have hb4 := below_alloc w3 (.cells #[.slice da2 p.1.length dc2, .slice ba2 p.2.length bc2] 25)
  have hb24 := Below.step hb3 hb4
  have HB4 := hide (Below.step HB2.out hb24)
  have HQ4 := hide (blk_new w3 (.cells #[.slice da2 p.1.length dc2, .slice ba2 p.2.length bc2] 25))
  have HP4 := hide (Below.blk hb24 HP2.out)
  have HF4 := hide (Below.blk hb24 HF2.out)
  have HD4 : Hid (IsDes (From wm.heap.size) (w3.alloc (.cells #[.slice da2 p.1.length dc2, .slice ba2 p.2.length bc2] 25)) p.1 (.slice da p.1.length dc)) := hide (IsRow.same HD2.out fun c _ h => hb24.block c h)
  have HS4 : Hid (IsSts (From wm.heap.size) (w3.alloc (.cells #[.slice da2 p.1.length dc2, .slice ba2 p.2.length bc2] 25)) p.2 (.slice ba p.2.length bc)) := hide (HS2.out.same fun c _ h => hb24.block c h)
  have HD4' : Hid (IsDes (From w2.heap.size) (w3.alloc (.cells #[.slice da2 p.1.length dc2, .slice ba2 p.2.length bc2] 25)) p.1 (.slice da2 p.1.length dc2)) := hide (IsRow.same hd3 fun c _ h => hb4.block c h)
  have HS4' : Hid (IsSts (From w2.heap.size) (w3.alloc (.cells #[.slice da2 p.1.length dc2, .slice ba2 p.2.length bc2] 25)) p.2 (.slice ba2 p.2.length bc2)) := hide (hs3.same fun c _ h => hb4.block c h)
  have HE4 := hide (HE.out.below HB4.out)
  have f0 : (w3.alloc (.cells #[.slice da2 p.1.length dc2, .slice ba2 p.2.length bc2] 25)).cell? ⟨P + 1, 0, none⟩ = some (.int .i64 0) := by rw [blk_cell HF4.out]; rfl
  have f1 : (w3.alloc (.cells #[.slice da2 p.1.length dc2, .slice ba2 p.2.length bc2] 25)).cell? ⟨P + 1, 1, none⟩ = some (.int .i64 (-1)) := by rw [blk_cell HF4.out]; rfl
  have g0 : (w3.alloc (.cells #[.slice da2 p.1.length dc2, .slice ba2 p.2.length bc2] 25)).cell? ⟨0, 0, none⟩ = some (.int .i64 0) := by rw [blk_cell HE4.out.rvars.fine]; rfl
  have g1 : (w3.alloc (.cells #[.slice da2 p.1.length dc2, .slice ba2 p.2.length bc2] 25)).cell? ⟨0, 1, none⟩ = some (.int .i64 (-1)) := by rw [blk_cell HE4.out.rvars.fine]; rfl
  clear hb3 hb4 hb24 hd3 hs3 hv3 HD2 HS2 HP2 HF2
  go_wp2_with fail
  generalize w3.alloc (.cells #[.slice da2 p.1.length dc2, .slice ba2 p.2.length bc2] 25) = w4 at *
  generalize w3.heap.size = Q at *
  clear f0 f1 g0 g1
  have HSW : Hid (∀ W, Below w4.heap.size w4 W → (W.cell? ⟨P, 0, none⟩ = some (.slice da p.1.length dc) ∧ W.cell? ⟨P, 1, none⟩ = some (.slice ba p.2.length bc) ∧ W.cell? ⟨Q, 0, none⟩ = some (.slice da2 p.1.length dc2) ∧ W.cell? ⟨Q, 1, none⟩ = some (.slice ba2 p.2.length bc2))) := hide fun W hb => ⟨by rw [blk_cell (Below.blk hb HP4.out)]; rfl, by rw [blk_cell (Below.blk hb HP4.out)]; rfl, by rw [blk_cell (Below.blk hb HQ4.out)]; rfl, by rw [blk_cell (Below.blk hb HQ4.out)]; rfl⟩
  have HBD := hide (show Below w4.heap.size w4 w4.drew from (Below.refl _ _).drew)
  refine wp_region_held_drew (S := fun W => W.cell? ⟨P, 0, none⟩ = some (.slice da p.1.length dc) ∧ W.cell? ⟨P, 1, none⟩ = some (.slice ba p.2.length bc) ∧ W.cell? ⟨Q, 0, none⟩ = some (.slice da2 p.1.length dc2) ∧ W.cell? ⟨Q, 1, none⟩ = some (.slice ba2 p.2.length bc2)) (by kernel_rfl) (HSW.out _ HBD.out) (fun _ => ?_)
  refine tkA 0 79 (.agg #[.slice da2 p.1.length dc2, .slice ba2 p.2.length bc2]) rfl (by kernel_rfl) (fun _ _ _ h => h) rfl (fun W hS => by (obtain ⟨s0, s1, s2, s3⟩ := hS; go_simp)) (HSW.out _ HBD.out) ?_
  simp only [pu]
  refine tkA 2 81 (.agg #[.slice da p.1.length dc, .slice ba p.2.length bc]) rfl (by kernel_rfl) (fun _ _ _ h => h) rfl (fun W hS => by (obtain ⟨s0, s1, s2, s3⟩ := hS; go_simp)) (HSW.out _ HBD.out) ?_
  simp only [pu]
  refine wpAnyH_ready (rs := [1]) (by kernel_rfl) (by simp) ?_
  refine AllReadyH.cons rfl (fun K hK => ?_) AllReadyH.nil
  go_simp
  refine (HCK.out (From w2.heap.size) w4.drew _ _ (IsRow.same HD4'.out fun c _ h => HBD.out.block c h) (HS4'.out.same fun c _ h => HBD.out.block c h)).mono ?_
  rintro e w5 ⟨hb5, h5⟩
  have HB45 : Hid (Below w4.heap.size w4 w5) := hide (Below.step HBD.out hb5)
  have HEE : Hid (∃ ev, e = .returned ev ∧ ErrOK w5 ev (outC (checkC p)).1 (outC (checkC p)).2) := hide (by
   cases hc : checkC p with
   | ok u => rw [hc] at h5; exact ⟨_, h5, err_nil w5⟩
   | bad er q =>
    rw [hc] at h5
    obtain ⟨A, he, hA⟩ := h5
    exact ⟨_, he, err_at (HE.out.below (Below.step HB4.out HB45.out)).hdl A q er hA⟩)
  obtain ⟨ev, he, hev⟩ := HEE.out
  subst he
  have HEV := hide hev
  clear hb5 h5 hev HEE
  refine hK.out _ _ (HSW.out _ HB45.out) (fun _ => ?_)
  clear hK K
  refine wpAnyH_ready (rs := [3]) (by kernel_rfl) (by simp) ?_
  refine AllReadyH.cons rfl (fun K hK => ?_) AllReadyH.nil
  go_simp
  refine (HRK.out (From wm.heap.size) w5 _ _ (IsRow.same HD4.out fun c _ h => HB45.out.block c h) (HS4.out.same fun c _ h => HB45.out.block c h) (HE.out.below (Below.step HB4.out HB45.out))).mono ?_
  rintro e w6 ⟨rfl, hb6⟩
  have HB46 : Hid (Below w4.heap.size w4 w6) := hide (Below.step HB45.out hb6)
  have HEW := hide (HEV.out.below hb6)
  clear hb6
  refine hK.out _ _ (HSW.out _ HB46.out) (fun _ => ?_)
  clear hK K
  refine wpAnyH_ready (rs := [4]) (by kernel_rfl) (by simp) ?_
  refine AllReadyH.cons rfl (fun K hK => ?_) AllReadyH.nil
  go_simp
  refine (HEW.out w6 (Below.refl _ _)).mono ?_
  rintro e w7 ⟨rfl, hb7⟩
  have HB47 : Hid (Below w4.heap.size w4 w7) := hide (Below.step HB46.out hb7)
  clear hb7
  refine hK.out _ _ (HSW.out _ HB47.out) (fun _ => ?_)
  clear hK K
  refine tkA 5 6 (.bool true) rfl (by kernel_rfl) (fun _ _ _ h => h) rfl (fun W hS => by go_simp) (HSW.out _ HB47.out) ?_
  simp only [pu]
  refine wpAnyH_done (by kernel_rfl) ?_ _
  go_wp2_with fail
  go_ret
  exact ⟨rfl, Below.step HB4.out HB47.out⟩

set_option maxRecDepth 100000 in
set_option maxHeartbeats 12800000 in
theorem finds_c (s name : ByteArray) (kind : Int) (w : World) (h1 : ¬ 1500 < s.size) (h2 : ¬ 20 < name.size) (henv : Env w) (hk : kind ≠ 3) (hk2 : kind ≠ 4) : Calls Tryz.prog 5 #[.string s, .int .i64 kind, .string name] w (TrueB w) := by
 have hi : ¬ (1500 : Int) < (s.size : Int) := by omega
 have hi2 : ¬ (20 : Int) < (name.size : Int) := by omega
 have HE := hide henv
 have HSZ : Hid (s.size ≤ 1500) := hide (by omega)
 have HCF := hide (cfield_at kind name w)
 have HRF := hide (rfield_at kind name w)
 have HAR := hide (cargs_at kind w)
 have hmm := @run_makeMap Tryz.prog
 obtain ⟨i1, i2, i3⟩ := iput w
 have i4 := ifind kind w
 have hne := flt_ne
 have HA2 : Hid ((argsI kind).2 = false) := hide (by simp only [argsI, if_neg hk, if_neg hk2]; split <;> rfl)
 generalize fieldI kind name.toList = fk at *
 have hk3 : (kind == 3) = false := by rw [beq_eq_false_iff_ne]; exact hk
 have hk4 : (kind == 4) = false := by rw [beq_eq_false_iff_ne]; exact hk2
 clear h1 h2 henv hk hk2
 go_enter Tryz.func5, Tryz.ntmps5
 go_wp2_with fail
 refine HCF.out.mono ?_
 rintro e w1 ⟨rfl, hw1⟩
 obtain rfl : w = w1 := hw1.symm
 go_wp2_with fail
 refine HRF.out.mono ?_
 rintro e w2 ⟨rfl, hw2⟩
 obtain rfl : w = w2 := hw2.symm
 go_wp2_with fail
 refine HAR.out.mono ?_
 rintro e w3 ⟨rfl, hw3⟩
 obtain rfl : w = w3 := hw3.symm
 rw [HA2.out]
 generalize (argsI kind).1 = am at *
 go_wp2_with fail
 have HBm := hide (below_alloc w (.map #[⟨.int .i64 3, .int .i64 1, 0⟩, ⟨.int .i64 4, .int .i64 2, 1⟩, ⟨.int .i64 5, .int .i64 1, 2⟩] 3))
 have HEm := hide (HE.out.below HBm.out)
 generalize w.alloc (.map #[⟨.int .i64 3, .int .i64 1, 0⟩, ⟨.int .i64 4, .int .i64 2, 1⟩, ⟨.int .i64 5, .int .i64 1, 2⟩] 3) = wm at *
 clear i1 i2 i3 i4 hmm
 have HRP := hide (rparse_at s wm (by have := HSZ.out; omega) HEm.out.rvars HEm.out.big)
 have HPP := hide (fun W (h : Env W) => parse_at s W (by have := HSZ.out; omega) h.vars h.big)
 have HGP := hide (fun p k h => good_p HSZ.out p k h)
 cases hp : parse2 s with
 | out =>
  rw [hp] at HRP
  refine HRP.out.mono ?_
  rintro e w1 ⟨_, h⟩
  exact h.elim
 | bad er q =>
  rw [hp] at HRP HPP
  clear hp HGP
  refine HRP.out.mono ?_
  rintro e w1 ⟨hb1, he⟩
  have he : e = .returned (.tuple #[.agg #[.slice none 0 0, .slice none 0 0], .agg #[.int .i64 er, .int .i64 q]]) := he
  subst he
  have hb2 := Below.step (below_alloc w1 (.cells #[.slice none 0 0, .slice none 0 0] 25)) (below_alloc _ (.cells #[.int .i64 er, .int .i64 q] 28))
  have HB2 := hide (Below.step HBm.out (Below.step hb1 hb2))
  have HF2 : Hid (((w1.alloc (.cells #[.slice none 0 0, .slice none 0 0] 25)).alloc (.cells #[.int .i64 er, .int .i64 q] 28)).heap[w1.heap.size + 1]? = some (.cells #[.int .i64 er, .int .i64 q] 28 (0, 0))) := hide (blk_new2 w1 _ _)
  have HE2 := hide (HE.out.below HB2.out)
  clear hb1 hb2
  go_wp2_with fail
  generalize (w1.alloc (.cells #[.slice none 0 0, .slice none 0 0] 25)).alloc (.cells #[.int .i64 er, .int .i64 q] 28) = w2 at *
  generalize w1.heap.size = P at *
  refine (HPP.out w2 HE2.out).mono ?_
  rintro e w3 ⟨hb3, A, he, hA⟩
  subst he
  have hb4 := below_alloc w3 (.cells #[.slice none 0 0, .slice none 0 0] 25)
  have HB4 := hide (Below.step HB2.out (Below.step hb3 hb4))
  have HF4 := hide (Below.blk (Below.step hb3 hb4) HF2.out)
  have HE4 := hide (HE.out.below HB4.out)
  have HER := hide (err_at HE4.out.hdl A q er (Below.blk hb4 hA))
  have f0 : (w3.alloc (.cells #[.slice none 0 0, .slice none 0 0] 25)).cell? ⟨P + 1, 0, none⟩ = some (.int .i64 er) := by rw [blk_cell HF4.out]; rfl
  have f1 : (w3.alloc (.cells #[.slice none 0 0, .slice none 0 0] 25)).cell? ⟨P + 1, 1, none⟩ = some (.int .i64 q) := by rw [blk_cell HF4.out]; rfl
  have g0 : (w3.alloc (.cells #[.slice none 0 0, .slice none 0 0] 25)).cell? ⟨0, 0, none⟩ = some (.int .i64 0) := by rw [blk_cell HE4.out.rvars.fine]; rfl
  have g1 : (w3.alloc (.cells #[.slice none 0 0, .slice none 0 0] 25)).cell? ⟨0, 1, none⟩ = some (.int .i64 (-1)) := by rw [blk_cell HE4.out.rvars.fine]; rfl
  have hq1 : (!(er == 0 && (q : Int) == -1)) = true := by
   have : ((q : Int) == -1) = false := by rw [beq_eq_false_iff_ne]; omega
   rw [this, Bool.and_false]; rfl
  clear hb3 hb4 hA
  go_wp2_with fail
  generalize w3.alloc (.cells #[.slice none 0 0, .slice none 0 0] 25) = w4 at *
  refine (HER.out w4 (Below.refl _ _)).mono ?_
  rintro e w5 ⟨rfl, hb5⟩
  have HB5 := hide (Below.step HB4.out hb5)
  clear hb5
  go_wp2_with fail
  go_ret
  exact ⟨rfl, HB5.out⟩
 | ok p k =>
  rw [hp] at HRP HPP
  obtain ⟨n1, n2, n3, n4, n5, n6, n7⟩ := HGP.out p k hp
  have HCK := hide (fun S W a c hd hs => check_at p (by omega) n2 n3 n4 S W a c hd hs)
  have HRK := hide (fun S W a c hd hs (h : Env W) => rcheck_at p (by omega) n5 n6 n7 S W a c hd hs h.rvars h.big)
  clear hp HGP n1 n2 n3 n4 n5 n6 n7
  refine HRP.out.mono ?_
  rintro e w1 ⟨hb1, v1, he, hv1⟩
  subst he
  obtain ⟨da, dc, ba, bc, rfl, hd1, hs1⟩ := prRep_2 hv1
  have hb2 := Below.step (below_alloc w1 (.cells #[.slice da p.1.length dc, .slice ba p.2.length bc] 25)) (below_alloc _ (.cells #[.int .i64 0, .int .i64 (-1)] 28))
  have HB2 := hide (Below.step HBm.out (Below.step hb1 hb2))
  have HP2 := hide (Below.blk (below_alloc (w1.alloc (.cells #[.slice da p.1.length dc, .slice ba p.2.length bc] 25)) (.cells #[.int .i64 0, .int .i64 (-1)] 28)) (blk_new w1 (.cells #[.slice da p.1.length dc, .slice ba p.2.length bc] 25)))
  have HF2 : Hid (((w1.alloc (.cells #[.slice da p.1.length dc, .slice ba p.2.length bc] 25)).alloc (.cells #[.int .i64 0, .int .i64 (-1)] 28)).heap[w1.heap.size + 1]? = some (.cells #[.int .i64 0, .int .i64 (-1)] 28 (0, 0))) := hide (blk_new2 w1 _ _)
  have HD2 : Hid (IsDes (From wm.heap.size) ((w1.alloc (.cells #[.slice da p.1.length dc, .slice ba p.2.length bc] 25)).alloc (.cells #[.int .i64 0, .int .i64 (-1)] 28)) p.1 (.slice da p.1.length dc)) := hide (IsRow.same hd1 fun c _ h => hb2.block c h)
  have HS2 : Hid (IsSts (From wm.heap.size) ((w1.alloc (.cells #[.slice da p.1.length dc, .slice ba p.2.length bc] 25)).alloc (.cells #[.int .i64 0, .int .i64 (-1)] 28)) p.2 (.slice ba p.2.length bc)) := hide (hs1.same fun c _ h => hb2.block c h)
  have HE2 := hide (HE.out.below HB2.out)
  clear hb1 hb2 hd1 hs1 hv1
  go_wp2_with fail
  generalize (w1.alloc (.cells #[.slice da p.1.length dc, .slice ba p.2.length bc] 25)).alloc (.cells #[.int .i64 0, .int .i64 (-1)] 28) = w2 at *
  generalize w1.heap.size = P at *
  refine (HPP.out w2 HE2.out).mono ?_
  rintro e w3 ⟨hb3, v3, he, hv3⟩
  subst he
  obtain ⟨da2, dc2, ba2, bc2, rfl, hd3, hs3⟩ := prRep_2 hv3
  have hb4 := below_alloc w3 (.cells #[.slice da2 p.1.length dc2, .slice ba2 p.2.length bc2] 25)
  have hb24 := Below.step hb3 hb4
  have HB4 := hide (Below.step HB2.out hb24)
  have HQ4 := hide (blk_new w3 (.cells #[.slice da2 p.1.length dc2, .slice ba2 p.2.length bc2] 25))
  have HP4 := hide (Below.blk hb24 HP2.out)
  have HF4 := hide (Below.blk hb24 HF2.out)
  have HD4 : Hid (IsDes (From wm.heap.size) (w3.alloc (.cells #[.slice da2 p.1.length dc2, .slice ba2 p.2.length bc2] 25)) p.1 (.slice da p.1.length dc)) := hide (IsRow.same HD2.out fun c _ h => hb24.block c h)
  have HS4 : Hid (IsSts (From wm.heap.size) (w3.alloc (.cells #[.slice da2 p.1.length dc2, .slice ba2 p.2.length bc2] 25)) p.2 (.slice ba p.2.length bc)) := hide (HS2.out.same fun c _ h => hb24.block c h)
  have HD4' : Hid (IsDes (From w2.heap.size) (w3.alloc (.cells #[.slice da2 p.1.length dc2, .slice ba2 p.2.length bc2] 25)) p.1 (.slice da2 p.1.length dc2)) := hide (IsRow.same hd3 fun c _ h => hb4.block c h)
  have HS4' : Hid (IsSts (From w2.heap.size) (w3.alloc (.cells #[.slice da2 p.1.length dc2, .slice ba2 p.2.length bc2] 25)) p.2 (.slice ba2 p.2.length bc2)) := hide (hs3.same fun c _ h => hb4.block c h)
  have HE4 := hide (HE.out.below HB4.out)
  have f0 : (w3.alloc (.cells #[.slice da2 p.1.length dc2, .slice ba2 p.2.length bc2] 25)).cell? ⟨P + 1, 0, none⟩ = some (.int .i64 0) := by rw [blk_cell HF4.out]; rfl
  have f1 : (w3.alloc (.cells #[.slice da2 p.1.length dc2, .slice ba2 p.2.length bc2] 25)).cell? ⟨P + 1, 1, none⟩ = some (.int .i64 (-1)) := by rw [blk_cell HF4.out]; rfl
  have g0 : (w3.alloc (.cells #[.slice da2 p.1.length dc2, .slice ba2 p.2.length bc2] 25)).cell? ⟨0, 0, none⟩ = some (.int .i64 0) := by rw [blk_cell HE4.out.rvars.fine]; rfl
  have g1 : (w3.alloc (.cells #[.slice da2 p.1.length dc2, .slice ba2 p.2.length bc2] 25)).cell? ⟨0, 1, none⟩ = some (.int .i64 (-1)) := by rw [blk_cell HE4.out.rvars.fine]; rfl
  clear hb3 hb4 hb24 hd3 hs3 hv3 HD2 HS2 HP2 HF2
  go_wp2_with fail
  generalize w3.alloc (.cells #[.slice da2 p.1.length dc2, .slice ba2 p.2.length bc2] 25) = w4 at *
  generalize w3.heap.size = Q at *
  clear f0 f1 g0 g1
  have HSW : Hid (∀ W, Below w4.heap.size w4 W → (W.cell? ⟨P, 0, none⟩ = some (.slice da p.1.length dc) ∧ W.cell? ⟨P, 1, none⟩ = some (.slice ba p.2.length bc) ∧ W.cell? ⟨Q, 0, none⟩ = some (.slice da2 p.1.length dc2) ∧ W.cell? ⟨Q, 1, none⟩ = some (.slice ba2 p.2.length bc2))) := hide fun W hb => ⟨by rw [blk_cell (Below.blk hb HP4.out)]; rfl, by rw [blk_cell (Below.blk hb HP4.out)]; rfl, by rw [blk_cell (Below.blk hb HQ4.out)]; rfl, by rw [blk_cell (Below.blk hb HQ4.out)]; rfl⟩
  have HBD := hide (show Below w4.heap.size w4 w4.drew from (Below.refl _ _).drew)
  refine wp_region_held_drew (S := fun W => W.cell? ⟨P, 0, none⟩ = some (.slice da p.1.length dc) ∧ W.cell? ⟨P, 1, none⟩ = some (.slice ba p.2.length bc) ∧ W.cell? ⟨Q, 0, none⟩ = some (.slice da2 p.1.length dc2) ∧ W.cell? ⟨Q, 1, none⟩ = some (.slice ba2 p.2.length bc2)) (by kernel_rfl) (HSW.out _ HBD.out) (fun _ => ?_)
  refine tkA 0 79 (.agg #[.slice da2 p.1.length dc2, .slice ba2 p.2.length bc2]) rfl (by kernel_rfl) (fun _ _ _ h => h) rfl (fun W hS => by (obtain ⟨s0, s1, s2, s3⟩ := hS; go_simp)) (HSW.out _ HBD.out) ?_
  simp only [pu]
  refine tkA 2 81 (.agg #[.slice da p.1.length dc, .slice ba p.2.length bc]) rfl (by kernel_rfl) (fun _ _ _ h => h) rfl (fun W hS => by (obtain ⟨s0, s1, s2, s3⟩ := hS; go_simp)) (HSW.out _ HBD.out) ?_
  simp only [pu]
  refine wpAnyH_ready (rs := [1]) (by kernel_rfl) (by simp) ?_
  refine AllReadyH.cons rfl (fun K hK => ?_) AllReadyH.nil
  go_simp
  refine (HCK.out (From w2.heap.size) w4.drew _ _ (IsRow.same HD4'.out fun c _ h => HBD.out.block c h) (HS4'.out.same fun c _ h => HBD.out.block c h)).mono ?_
  rintro e w5 ⟨hb5, h5⟩
  have HB45 : Hid (Below w4.heap.size w4 w5) := hide (Below.step HBD.out hb5)
  have HEE : Hid (∃ ev, e = .returned ev ∧ ErrOK w5 ev (outC (checkC p)).1 (outC (checkC p)).2) := hide (by
   cases hc : checkC p with
   | ok u => rw [hc] at h5; exact ⟨_, h5, err_nil w5⟩
   | bad er q =>
    rw [hc] at h5
    obtain ⟨A, he, hA⟩ := h5
    exact ⟨_, he, err_at (HE.out.below (Below.step HB4.out HB45.out)).hdl A q er hA⟩)
  obtain ⟨ev, he, hev⟩ := HEE.out
  subst he
  have HEV := hide hev
  clear hb5 h5 hev HEE
  refine hK.out _ _ (HSW.out _ HB45.out) (fun _ => ?_)
  clear hK K
  refine wpAnyH_ready (rs := [3]) (by kernel_rfl) (by simp) ?_
  refine AllReadyH.cons rfl (fun K hK => ?_) AllReadyH.nil
  go_simp
  refine (HRK.out (From wm.heap.size) w5 _ _ (IsRow.same HD4.out fun c _ h => HB45.out.block c h) (HS4.out.same fun c _ h => HB45.out.block c h) (HE.out.below (Below.step HB4.out HB45.out))).mono ?_
  rintro e w6 ⟨rfl, hb6⟩
  have HB46 : Hid (Below w4.heap.size w4 w6) := hide (Below.step HB45.out hb6)
  have HEW := hide (HEV.out.below hb6)
  clear hb6
  refine hK.out _ _ (HSW.out _ HB46.out) (fun _ => ?_)
  clear hK K
  refine wpAnyH_ready (rs := [4]) (by kernel_rfl) (by simp) ?_
  refine AllReadyH.cons rfl (fun K hK => ?_) AllReadyH.nil
  go_simp
  refine (HEW.out w6 (Below.refl _ _)).mono ?_
  rintro e w7 ⟨rfl, hb7⟩
  have HB47 : Hid (Below w4.heap.size w4 w7) := hide (Below.step HB46.out hb7)
  clear hb7
  refine hK.out _ _ (HSW.out _ HB47.out) (fun _ => ?_)
  clear hK K
  refine tkA 5 6 (.bool true) rfl (by kernel_rfl) (fun _ _ _ h => h) rfl (fun W hS => by go_simp) (HSW.out _ HB47.out) ?_
  simp only [pu]
  refine wpAnyH_done (by kernel_rfl) ?_ _
  go_wp2_with fail
  go_ret
  exact ⟨rfl, Below.step HB4.out HB47.out⟩

theorem finds_at (s name : ByteArray) (kind : Int) (w : World) (henv : Env w) : Calls Tryz.prog 5 #[.string s, .int .i64 kind, .string name] w (TrueB w) := by
 by_cases h1 : 1500 < s.size
 ·exact finds_long s name kind w h1
 ·by_cases h2 : 20 < name.size
  ·exact finds_long2 s name kind w h1 h2
  ·by_cases h3 : kind = 3
   ·exact finds_a s name kind w h1 h2 henv h3
   ·by_cases h4 : kind = 4
    ·exact finds_b s name kind w h1 h2 henv h4
    ·exact finds_c s name kind w h1 h2 henv h3 h4
end Go.Proofs.YtalolaikhloopaaGreatDoor
