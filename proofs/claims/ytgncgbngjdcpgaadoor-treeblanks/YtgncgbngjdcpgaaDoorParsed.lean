/-
  CONTRACT of parsed: the law's own fact.
-/
import Derived.Test.YtgncgbngjdcpgaaDoorEqual
import Derived.Test.YtgncgbngjdcpgaaDoorRound
set_option linter.unusedSimpArgs false
set_option linter.unusedVariables false
namespace Go.Proofs.YtgncgbngjdcpgaaDoor
open Go.RowKit

def s0 : List UInt8 := [105, 110, 32, 97, 58, 98, 111, 111, 108, 59, 118, 97, 114, 32, 110, 58, 98, 121, 116, 101, 61, 53, 59, 116, 105, 109, 101, 114, 32, 116, 59, 98, 101, 103, 105, 110, 32, 105, 102, 32, 110, 111, 116, 40, 97, 32, 111, 114, 32, 116, 46, 113, 41, 116, 104, 101, 110, 32, 110, 58, 61, 110, 43, 49, 59, 101, 108, 115, 105, 102, 32, 97, 32, 116, 104, 101, 110, 32, 116, 40, 97, 44, 51, 41, 59, 101, 110, 100, 59, 101, 110, 100]
def t0 : List UInt8 := [105, 110, 32, 97, 58, 32, 98, 111, 111, 108, 59, 10, 118, 97, 114, 32, 110, 58, 32, 98, 121, 116, 101, 32, 61, 32, 53, 59, 10, 116, 105, 109, 101, 114, 32, 116, 59, 10, 98, 101, 103, 105, 110, 10, 32, 32, 105, 102, 32, 110, 111, 116, 32, 40, 97, 32, 111, 114, 32, 116, 46, 113, 41, 32, 116, 104, 101, 110, 10, 32, 32, 32, 32, 110, 32, 58, 61, 32, 110, 32, 43, 32, 49, 59, 10, 32, 32, 101, 108, 115, 101, 10, 32, 32, 32, 32, 105, 102, 32, 97, 32, 116, 104, 101, 110, 10, 32, 32, 32, 32, 32, 32, 116, 40, 97, 44, 32, 51, 41, 59, 10, 32, 32, 32, 32, 101, 110, 100, 59, 10, 32, 32, 101, 110, 100, 59, 10, 101, 110, 100, 10]
def p0 : List De × List St := ([⟨⟨#[97]⟩, 1, 1, 0⟩, ⟨⟨#[110]⟩, 3, 2, 5⟩, ⟨⟨#[116]⟩, 3, 3, 0⟩],
  [.cond 37 (.not 40 (.bin 44 ⟨#[111, 114]⟩ (.name 44 ⟨#[97]⟩) (.field 49 ⟨#[116]⟩ ⟨#[113]⟩))) [.set 58 ⟨#[110]⟩ (.bin 61 ⟨#[43]⟩ (.name 61 ⟨#[110]⟩) (.num 63 1 2))] [.cond 65 (.name 71 ⟨#[97]⟩) [.call 78 ⟨#[116]⟩ [.name 80 ⟨#[97]⟩] 3] []]])
theorem par0 : parse2 ⟨s0.toArray⟩ = .ok p0 45 := by kernel_rfl
theorem prt0 : printT p0 = t0 := by kernel_rfl

theorem prRep_parts {N : Nat} {w : World} {v : Value} {p : List De × List St} (h : PrRep N w v p) : ∃ (aa : Option Addr) (ac : Nat) (ba : Option Addr) (bc : Nat), v = .agg #[.slice aa p.1.length ac, .slice ba p.2.length bc] ∧ IsDes (From N) w p.1 (.slice aa p.1.length ac) ∧ IsSts (From N) w p.2 (.slice ba p.2.length bc) := by
  obtain ⟨a, b, rfl, h1, h2⟩ := h
  obtain ⟨aa, ac, rfl⟩ := h1.val
  obtain ⟨ba, bc, rfl⟩ := sts_val h2
  exact ⟨aa, ac, ba, bc, rfl, h1, h2⟩
theorem IsDes.lt {S : Nat → Prop} {w : World} {l : List De} {v : Value} (h : IsDes S w l v) : IsDes (fun b => S b ∧ b < w.heap.size) w l v := IsRow.imp h fun b h1 h2 => ⟨h2, h1⟩

set_option maxRecDepth 100000 in
set_option maxHeartbeats 3200000 in
theorem parsed_at (w : World) (hv : Vars w) (ht : Tab w) (h14 : 6 ≤ w.heap.size) :
    Calls Tryd.prog 5 #[] w fun e w' => e = .returned (.bool true) ∧ Below w.heap.size w w' := by
  have HP := hide (par0 ▸ parse_at ⟨s0.toArray⟩ w (by decide) hv h14)
  have HV := hide hv
  have HT := hide ht
  have hS0 : (⟨s0.toArray⟩ : ByteArray) = ⟨#[105, 110, 32, 97, 58, 98, 111, 111, 108, 59, 118, 97, 114, 32, 110, 58, 98, 121, 116, 101, 61, 53, 59, 116, 105, 109, 101, 114, 32, 116, 59, 98, 101, 103, 105, 110, 32, 105, 102, 32, 110, 111, 116, 40, 97, 32, 111, 114, 32, 116, 46, 113, 41, 116, 104, 101, 110, 32, 110, 58, 61, 110, 43, 49, 59, 101, 108, 115, 105, 102, 32, 97, 32, 116, 104, 101, 110, 32, 116, 40, 97, 44, 51, 41, 59, 101, 110, 100, 59, 101, 110, 100]⟩ := rfl
  rw [hS0] at HP
  have HG := hide (parse_inv (by decide) par0).1
  have HLN : Hid ((printT p0).length ≤ 1000000) := by show _ ≤ _; rw [prt0]; decide
  have HPP := hide prt0
  clear hv ht hS0
  generalize hp : p0 = p at *
  clear hp
  go_enter Tryd.func5, Tryd.ntmps5
  go_wp2_with fail
  refine HP.out.mono ?_
  rintro e w1 ⟨hb1, h1⟩
  obtain ⟨v, rfl, h1⟩ := h1
  obtain ⟨aa, ac, ba, bc, rfl, hd, hs⟩ := prRep_parts h1
  have HB1 := hide hb1
  have HD := hide hd.lt
  have HS := hide (hs.imp (S' := fun b => From w.heap.size b ∧ b < w1.heap.size) fun b h1 h2 => ⟨h2, h1⟩)
  clear hb1 h1 hd hs
  have HO := hide (below_alloc w1 (.cells #[.slice aa p.1.length ac, .slice ba p.2.length bc] 26))
  have HPR := hide (print_at p HG.out HLN.out _ (w1.alloc (.cells #[.slice aa p.1.length ac, .slice ba p.2.length bc] 26)) _ _ (IsRow.same HD.out fun c h1 h2 => HO.out.block c h2) (HS.out.same fun c h1 h2 => HO.out.block c h2) (fun c h => Nat.lt_of_lt_of_le h.2 HO.out.size) ((HV.out.below HB1.out).below HO.out) ((HT.out.below HB1.out h14).below HO.out (Nat.le_trans h14 HB1.out.size)) (Nat.le_trans h14 (Nat.le_trans HB1.out.size HO.out.size)))
  go_wp2_with fail
  refine HPR.out.mono ?_
  rintro e w2 ⟨rfl, hb2⟩
  have HB2 := hide (Below.step HB1.out (Below.step HO.out hb2))
  clear hb2
  rw [HPP.out]
  have hq : (t0 == t0) = true := by simp
  go_wp2_with fail
  go_ret
  exact ⟨rfl, HB2.out⟩
end Go.Proofs.YtgncgbngjdcpgaaDoor
