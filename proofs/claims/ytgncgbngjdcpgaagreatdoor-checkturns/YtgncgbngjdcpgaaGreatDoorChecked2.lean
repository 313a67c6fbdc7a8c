/-
  CONTRACT of checked: the law's own fact.
-/
import Derived.Test.YtgncgbngjdcpgaaGreatDoorCheck
import Derived.Test.YtgncgbngjdcpgaaGreatDoorAs
import Derived.Test.YtgncgbngjdcpgaaGreatDoorWhole
set_option linter.unusedSimpArgs false
set_option linter.unusedVariables false
namespace Go.Proofs.YtgncgbngjdcpgaaGreatDoor
open Go.RowKit

def s1 : List UInt8 := [105, 110, 32, 97, 58, 32, 98, 111, 111, 108, 59, 32, 111, 117, 116, 32, 113, 58, 32, 98, 111, 111, 108, 59, 32, 101, 100, 103, 101, 32, 101, 59, 32, 98, 101, 103, 105, 110, 32, 101, 40, 97, 41, 59, 32, 113, 32, 58, 61, 32, 101, 46, 113, 59, 32, 101, 110, 100]
def s2 : List UInt8 := [105, 110, 32, 97, 58, 32, 98, 111, 111, 108, 59, 32, 98, 101, 103, 105, 110, 32, 97, 32, 58, 61, 32, 116, 114, 117, 101, 59, 32, 101, 110, 100]
def p1 : List De × List St := ([⟨⟨#[97]⟩, 1, 1, 0⟩, ⟨⟨#[113]⟩, 2, 1, 0⟩, ⟨⟨#[101]⟩, 3, 5, 0⟩], [.call 39 ⟨#[101]⟩ [.name 41 ⟨#[97]⟩] 0, .set 45 ⟨#[113]⟩ (.field 50 ⟨#[101]⟩ ⟨#[113]⟩)])
def p2 : List De × List St := ([⟨⟨#[97]⟩, 1, 1, 0⟩], [.set 18 ⟨#[97]⟩ (.num 23 1 1)])
theorem par1 : parse2 ⟨s1.toArray⟩ = .ok p1 26 := by kernel_rfl
theorem par2 : parse2 ⟨s2.toArray⟩ = .ok p2 11 := by kernel_rfl
theorem chk1 : checkC p1 = .ok () := by kernel_rfl
theorem chk2 : checkC p2 = .bad 6 18 := by kernel_rfl
theorem prRep_two {N : Nat} {w : World} {v : Value} {p : List De × List St} (h : PrRep N w v p) : ∃ (aa : Option Addr) (ac : Nat) (ba : Option Addr) (bc : Nat), v = .agg #[.slice aa p.1.length ac, .slice ba p.2.length bc] ∧ IsDes (From N) w p.1 (.slice aa p.1.length ac) ∧ IsSts (From N) w p.2 (.slice ba p.2.length bc) := by
  obtain ⟨a, b, rfl, h1, h2⟩ := h
  obtain ⟨aa, ac, rfl⟩ := h1.val
  obtain ⟨ba, bc, rfl⟩ := (show ∃ (x : Option Addr) (k : Nat), b = .slice x p.2.length k from by obtain ⟨cs, hr, _⟩ := h2; exact hr.val)
  exact ⟨aa, ac, ba, bc, rfl, h1, h2⟩
/-- the listed handle -/
abbrev Hdl (w : World) : Prop := w.cell? ⟨3, 0, none⟩ = some (.iface 201 (.agg #[.pointer (some ⟨14, 32, none⟩)]))
theorem Hdl.below {w w' : World} (h : Hdl w) (hb : Below w.heap.size w w') : Hdl w' := (hb.cell (cell_lt h)).trans h

set_option maxRecDepth 100000 in
set_option maxHeartbeats 6400000 in
theorem checked_at (w : World) (hv : Vars w) (hh : Hdl w) (h14 : 8 ≤ w.heap.size) :
    Calls Tryz.prog 25 #[] w fun e w' => e = .returned (.bool true) ∧ Below w.heap.size w w' := by
  have HP1 := hide (par1 ▸ parse_at ⟨s1.toArray⟩ w (by decide) hv h14)
  have HP2 := hide fun (W : World) (hb : Below w.heap.size w W) => par2 ▸ parse_at ⟨s2.toArray⟩ W (by decide) (hv.below hb) (Nat.le_trans h14 hb.size)
  rw [show (⟨s1.toArray⟩ : ByteArray) = ⟨#[105, 110, 32, 97, 58, 32, 98, 111, 111, 108, 59, 32, 111, 117, 116, 32, 113, 58, 32, 98, 111, 111, 108, 59, 32, 101, 100, 103, 101, 32, 101, 59, 32, 98, 101, 103, 105, 110, 32, 101, 40, 97, 41, 59, 32, 113, 32, 58, 61, 32, 101, 46, 113, 59, 32, 101, 110, 100]⟩ from rfl] at HP1
  rw [show (⟨s2.toArray⟩ : ByteArray) = ⟨#[105, 110, 32, 97, 58, 32, 98, 111, 111, 108, 59, 32, 98, 101, 103, 105, 110, 32, 97, 32, 58, 61, 32, 116, 114, 117, 101, 59, 32, 101, 110, 100]⟩ from rfl] at HP2
  have HC1 := hide fun (S : Nat → Prop) (W : World) (a c : Value) hd hs => chk1 ▸ check_at p1 (by decide) (by decide) (by decide) (sm_sts _ (by decide)) S W a c hd hs
  have HC2 := hide fun (S : Nat → Prop) (W : World) (a c : Value) hd hs => chk2 ▸ check_at p2 (by decide) (by decide) (by decide) (sm_sts _ (by decide)) S W a c hd hs
  have HH := hide hh
  clear hv hh
  generalize p1 = p1 at *
  generalize p2 = p2 at *
  go_enter Tryz.func25, Tryz.ntmps25
  go_wp2_with fail
  refine HP1.out.mono ?_
  rintro e w1 ⟨hb1, h1⟩
  obtain ⟨v, rfl, h1⟩ := h1
  obtain ⟨aa, ac, ba, bc, rfl, hd, hs⟩ := prRep_two h1
  have HO := hide (below_alloc w1 (.cells #[.slice aa p1.1.length ac, .slice ba p1.2.length bc] 25))
  have HN := hide (blk_new w1 (.cells #[.slice aa p1.1.length ac, .slice ba p1.2.length bc] 25))
  have HB := hide (Below.step hb1 HO.out)
  have HLW := hide hb1.size
  have HCC := hide (HC1.out _ (w1.alloc (.cells #[.slice aa p1.1.length ac, .slice ba p1.2.length bc] 25)) _ _ (IsRow.same hd fun c _ h => HO.out.block c h) (hs.same fun c _ h => HO.out.block c h))
  clear hb1 h1 hd hs HP1 HC1
  go_wp2_with fail
  generalize (w1.alloc (.cells #[.slice aa p1.1.length ac, .slice ba p1.2.length bc] 25)) = w2 at *
  refine HCC.out.mono ?_
  rintro e w3 ⟨hb3, h3⟩
  have h3 : e = .returned .nilIface := h3
  subst h3
  have HB3 := hide (Below.step HB.out hb3)
  have HN3 := hide (Below.blk hb3 HN.out)
  clear hb3
  go_wp2_with fail
  refine (HP2.out w3 HB3.out).mono ?_
  rintro e w4 ⟨hb4, h4⟩
  obtain ⟨v, rfl, h4⟩ := h4
  obtain ⟨ca, cc, da, dc, rfl, hd, hs⟩ := prRep_two h4
  have HB4 := hide (Below.step HB3.out hb4)
  have HN4 := hide (Below.blk hb4 HN3.out)
  have HD := hide (hd.imp (S' := fun b => From w3.heap.size b ∧ b < w4.heap.size) fun b h1 h2 => ⟨h2, h1⟩)
  have HS := hide (hs.imp (S' := fun b => From w3.heap.size b ∧ b < w4.heap.size) fun b h1 h2 => ⟨h2, h1⟩)
  have HLT := hide (blk_lt HN3.out)
  clear hb4 h4 hd hs
  have c0 : w4.cell? ⟨w1.heap.size, 0, none⟩ = some (.slice aa p1.1.length ac) := by rw [blk_cell HN4.out]; rfl
  have c1 : w4.cell? ⟨w1.heap.size, 1, none⟩ = some (.slice ba p1.2.length bc) := by rw [blk_cell HN4.out]; rfl
  have cf : ∀ i, w4.frozen? ⟨w1.heap.size, i, none⟩ = false := blk_frozen HN4.out
  have HB5 : Hid (Below w.heap.size w ((w4.setCell ⟨w1.heap.size, 0, none⟩ (.slice ca p2.1.length cc)).setCell ⟨w1.heap.size, 1, none⟩ (.slice da p2.2.length dc))) := hide ((HB4.out.setCell HLW.out _).setCell HLW.out _)
  have hkeep : ∀ b, (From w3.heap.size b ∧ b < w4.heap.size) → b < w4.heap.size → ((w4.setCell ⟨w1.heap.size, 0, none⟩ (.slice ca p2.1.length cc)).setCell ⟨w1.heap.size, 1, none⟩ (.slice da p2.2.length dc)).heap[b]? = w4.heap[b]? := fun b h1 _ => by
    have h2 : w3.heap.size ≤ b := h1.1
    have := HLT.out
    rw [set_other _ 1 _ (by omega), set_other _ 0 _ (by omega)]
  have HC5 := hide (HC2.out _ ((w4.setCell ⟨w1.heap.size, 0, none⟩ (.slice ca p2.1.length cc)).setCell ⟨w1.heap.size, 1, none⟩ (.slice da p2.2.length dc)) _ _ (IsRow.same HD.out hkeep) (HS.out.same hkeep))
  clear hkeep
  go_wp2_with fail
  generalize ((w4.setCell ⟨w1.heap.size, 0, none⟩ (.slice ca p2.1.length cc)).setCell ⟨w1.heap.size, 1, none⟩ (.slice da p2.2.length dc)) = w5 at *
  refine HC5.out.mono ?_
  rintro e w6 ⟨hb6, h6⟩
  obtain ⟨A, rfl, hA⟩ := h6
  have HB6 := hide (Below.step HB5.out hb6)
  have HTE := hide (tell_at A _ 6 w6 (HH.out.below HB6.out) hA)
  clear hb6 hA c0 c1 cf
  go_wp2_with fail
  refine HTE.out.mono ?_
  rintro e w7 ⟨rfl, hb7⟩
  have HB7 := hide (Below.step HB6.out hb7)
  clear hb7
  go_wp2_with fail
  go_ret
  exact ⟨rfl, HB7.out⟩
end Go.Proofs.YtgncgbngjdcpgaaGreatDoor
