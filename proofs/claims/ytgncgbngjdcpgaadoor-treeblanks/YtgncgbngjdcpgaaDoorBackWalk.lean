/-
  THE WALK of TreeBack.
-/
import Derived.Test.YtgncgbngjdcpgaaDoorParsed
set_option linter.unusedSimpArgs false
set_option linter.unusedVariables false
namespace Go.Proofs.YtgncgbngjdcpgaaDoor
open Go.RowKit

theorem copied {N : Nat} {w w' : World} {p : List De × List St} {a c : Value} (hd : IsDes (From N) w p.1 a) (hs : IsSts (From N) w p.2 c) (hb : Below w.heap.size w w') : IsDes (fun b => From N b ∧ b < w.heap.size) w' p.1 a ∧ IsSts (fun b => From N b ∧ b < w.heap.size) w' p.2 c :=
  ⟨IsRow.same hd.lt fun c h1 h2 => hb.block c h2, (hs.imp (S' := fun b => From N b ∧ b < w.heap.size) fun b h1 h2 => ⟨h2, h1⟩).same fun c h1 h2 => hb.block c h2⟩

set_option maxRecDepth 100000 in
set_option maxHeartbeats 6400000 in
theorem back_at (s : ByteArray) (w : World) (hv : Vars w) (ht : Tab w) (h14 : 6 ≤ w.heap.size) :
    Calls Tryd.prog 3 #[.string s] w fun e w' => e = .returned (.bool true) ∧ Below w.heap.size w w' := by
  have HV := hide hv
  have HT := hide ht
  clear hv ht
  by_cases hbig : 500 < s.size
  · have hbi : (500 : Int) < (s.size : Int) := by omega
    go_enter Tryd.func3, Tryd.ntmps3
    go_wp2_with fail
    go_ret
    exact ⟨rfl, Below.refl _ _⟩
  · have hbi : (s.size : Int) ≤ 500 := by omega
    have hs5 : s.size ≤ 500 := by omega
    go_enter Tryd.func3, Tryd.ntmps3
    go_wp2_with fail
    refine (parsed_at w HV.out HT.out h14).mono ?_
    rintro e w1 ⟨rfl, hb1⟩
    have HB1 := hide hb1
    have HV1 := hide (HV.out.below hb1)
    have HT1 := hide (HT.out.below hb1 h14)
    have H141 := hide (Nat.le_trans h14 hb1.size)
    clear hb1
    go_wp2_with fail
    refine (parse_at s w1 (by omega) HV1.out H141.out).mono ?_
    rintro e w2 ⟨hb2, h2⟩
    have HB2 := hide (Below.step HB1.out hb2)
    have HV2 := hide (HV1.out.below hb2)
    have HT2 := hide (HT1.out.below hb2 H141.out)
    have H142 := hide (Nat.le_trans H141.out hb2.size)
    clear hb2
    cases hp : parse2 s with
    | out => rw [hp] at h2; exact h2.elim
    | bad er q =>
      rw [hp] at h2
      obtain ⟨A, rfl, hA⟩ := h2
      clear hA hp
      go_wp2_with fail
      go_ret
      exact ⟨rfl, Below.step HB2.out (below_alloc _ _)⟩
    | ok p k =>
      rw [hp] at h2
      obtain ⟨v, rfl, h2⟩ := h2
      obtain ⟨aa, ac, ba, bc, rfl, hd, hs⟩ := prRep_parts h2
      obtain ⟨hg, hkl⟩ := parse_inv (by omega) hp
      obtain ⟨b', k', her, hback⟩ := round_print hs5 hp
      have hlen := print_len hg
      have HG := hide hg
      have HLN := hide (show (printT p).length ≤ 1000000 by omega)
      have HE := hide her
      have HBK := hide hback
      have HO := hide (below_alloc w2 (.cells #[.slice aa p.1.length ac, .slice ba p.2.length bc] 26))
      have HN := hide (blk_new w2 (.cells #[.slice aa p.1.length ac, .slice ba p.2.length bc] 26))
      have HC := hide (copied hd hs HO.out)
      clear h2 hd hs hg hkl her hback hlen hp
      have HV3 := hide (HV2.out.below HO.out)
      have HT3 := hide (HT2.out.below HO.out H142.out)
      have H143 := hide (Nat.le_trans H142.out HO.out.size)
      have HPR := hide (print_at p HG.out HLN.out _ (w2.alloc (.cells #[.slice aa p.1.length ac, .slice ba p.2.length bc] 26)) _ _ HC.out.1 HC.out.2 (fun c h => Nat.lt_of_lt_of_le h.2 HO.out.size) HV3.out HT3.out H143.out)
      go_wp2_with fail
      generalize (w2.alloc (.cells #[.slice aa p.1.length ac, .slice ba p.2.length bc] 26)) = w3 at *
      refine HPR.out.mono ?_
      rintro e w4 ⟨rfl, hb4⟩
      have HB4 := hide (Below.step HB2.out (Below.step HO.out hb4))
      have HN4 := hide (Below.blk hb4 HN.out)
      have HV4 := hide (HV3.out.below hb4)
      have HT4 := hide (HT3.out.below hb4 H143.out)
      have H144 := hide (Nat.le_trans H143.out hb4.size)
      have HC4 := hide (IsRow.same HC.out.1 (fun c h1 h2 => hb4.block c h2))
      have HPA := hide (HBK.out ▸ parse_at ⟨(printT p).toArray⟩ w4 (by rw [str_sz]; exact HLN.out) HV4.out H144.out)
      clear hb4
      go_wp2_with fail
      refine HPA.out.mono ?_
      rintro e w5 ⟨hb5, h5⟩
      obtain ⟨v, rfl, h5⟩ := h5
      obtain ⟨ca, cc, da, dc, rfl, hd, hs⟩ := prRep_parts h5
      simp only at hd hs
      have HB5 := hide (Below.step HB4.out hb5)
      have HN5 := hide (Below.blk hb5 HN4.out)
      have HV5 := hide (HV4.out.below hb5)
      have HT5 := hide (HT4.out.below hb5 H144.out)
      have H145 := hide (Nat.le_trans H144.out hb5.size)
      have HC5 := hide (IsRow.same HC4.out (fun c h1 h2 => hb5.block c h2))
      have HLE : Hid (b'.length = p.2.length) := by show _ = _; have := congrArg List.length HE.out; rw [erL_length, erL_length] at this; exact this
      have HTE : Hid (printT (p.1, b') = printT p) := printT_er HE.out
      have HGB : Hid (GoodPr (p.1, b')) := (parse_inv (by rw [str_sz]; exact HLN.out) HBK.out).1
      have HO6 := hide (below_alloc w5 (.cells #[.slice ca p.1.length cc, .slice da b'.length dc] 26))
      have HN6 := hide (blk_new w5 (.cells #[.slice ca p.1.length cc, .slice da b'.length dc] 26))
      have HC6 := hide (copied (p := (p.1, b')) hd hs HO6.out)
      have HNP := hide (show w2.heap.size < w5.heap.size from blk_lt HN5.out)
      have HNQ := hide (Below.blk HO6.out HN5.out)
      have HC7 := hide (IsRow.same HC5.out (fun c h1 h2 => HO6.out.block c h2))
      clear hb5 h5 hd hs
      have HPR2 := hide (HTE.out ▸ print_at (p.1, b') HGB.out (by rw [HTE.out]; exact HLN.out) _ (w5.alloc (.cells #[.slice ca p.1.length cc, .slice da b'.length dc] 26)) _ _ HC6.out.1 HC6.out.2 (fun c h => Nat.lt_of_lt_of_le h.2 HO6.out.size) (HV5.out.below HO6.out) (HT5.out.below HO6.out H145.out) (Nat.le_trans H145.out HO6.out.size))
      simp only at HPR2 HC6
      generalize hq : printT p = q at *
      clear hq
      go_wp2_with fail
      generalize (w5.alloc (.cells #[.slice ca p.1.length cc, .slice da b'.length dc] 26)) = w6 at *
      refine HPR2.out.mono ?_
      rintro e w7 ⟨rfl, hb7⟩
      have HB7 := hide (Below.step (Below.step HB5.out HO6.out) hb7)
      have HX1 := hide (Below.blk hb7 HN6.out)
      have HX2 := hide (Below.blk hb7 HNQ.out)
      have e0 : w7.cell? ⟨w5.heap.size, 0, none⟩ = some (.slice ca p.1.length cc) := by rw [blk_cell HX1.out]; rfl
      have e1 : w7.cell? ⟨w5.heap.size, 1, none⟩ = some (.slice da b'.length dc) := by rw [blk_cell HX1.out]; rfl
      have f0 : w7.cell? ⟨w2.heap.size, 0, none⟩ = some (.slice aa p.1.length ac) := by rw [blk_cell HX2.out]; rfl
      have f1 : w7.cell? ⟨w2.heap.size, 1, none⟩ = some (.slice ba p.2.length bc) := by rw [blk_cell HX2.out]; rfl
      have HEQ := hide (equal_at p.1 HG.out.many _ _ w7 _ _ (IsRow.same HC6.out.1 (fun c h1 h2 => hb7.block c h2)) (IsRow.same HC7.out (fun c h1 h2 => hb7.block c h2)))
      clear hb7
      go_wp2_with fail
      refine HEQ.out.mono ?_
      rintro e w8 ⟨rfl, hb8⟩
      have HB8 := hide (Below.step HB7.out hb8)
      have g1 : w8.cell? ⟨w5.heap.size, 1, none⟩ = some (.slice da b'.length dc) := (hb8.cell (cell_lt e1)).trans e1
      have g2 : w8.cell? ⟨w2.heap.size, 1, none⟩ = some (.slice ba p.2.length bc) := (hb8.cell (cell_lt f1)).trans f1
      clear hb8 e0 e1 f0 f1
      have hle : b'.length = p.2.length := HLE.out
      rw [hle] at g1
      go_wp2_with fail
      go_ret
      exact ⟨rfl, HB8.out⟩
end Go.Proofs.YtgncgbngjdcpgaaDoor
