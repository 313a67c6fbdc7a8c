/-
  CONTRACT of writeIf, out of those of the statements that lie in it.
-/
import Derived.Test.YtgncgbngjdcpgaaDoorLine
import Derived.Test.YtgncgbngjdcpgaaDoorAct
set_option linter.unusedSimpArgs false
set_option linter.unusedVariables false
namespace Go.Proofs.YtgncgbngjdcpgaaDoor
open Go.RowKit

def WS (l : List St) : Prop := ∀ (S : Nat → Prop) (w : World) (v : Value) (B b : Nat) (left acc : List UInt8), IsSts S w l v → (∀ c, S c → c < B) → Lib.IsBuilder 47 5 B b (Lib.byteCells acc) w → B ≤ w.heap.size → Tab w → 6 ≤ B → acc.length + (stsT l left).length ≤ 1000000 →
  Calls Tryd.prog 14 #[.pointer (some ⟨b, 0, none⟩), v, .string ⟨left.toArray⟩] w fun e w' => e = .returned (.tuple #[]) ∧ Lib.IsBuilder 47 5 B b (Lib.byteCells (acc ++ stsT l left)) w' ∧ Wrote B w w'

def elT (el : List St) (left : List UInt8) : List UInt8 := match el with | [] => [] | _ :: _ => left ++ [101, 108, 115, 101, 10] ++ stsT el (left ++ [32, 32])
def ifT (x : Ex) (th el : List St) (left : List UInt8) : List UInt8 := ([105, 102, 32] ++ textP x 1 ++ [32, 116, 104, 101, 110, 10]) ++ stsT th (left ++ [32, 32]) ++ elT el left ++ (left ++ [101, 110, 100, 59, 10])
theorem cond_T (p : Nat) (x : Ex) (th el : List St) (left : List UInt8) : stT (.cond p x th el) left = left ++ ifT x th el left := by
  cases el with
  | nil => simp only [stT, ifT, elT]; simp
  | cons s l => simp only [stT, ifT, elT]; simp
theorem sts_val {S : Nat → Prop} {w : World} {l : List St} {v : Value} (h : IsSts S w l v) : ∃ (a : Option Addr) (cap : Nat), v = .slice a l.length cap := by
  obtain ⟨cs, h1, _⟩ := h
  exact h1.val

set_option maxRecDepth 100000 in
set_option maxHeartbeats 6400000 in
theorem if_at (p : Nat) (x : Ex) (th el : List St) (hx : GoodX x) (iht : WS th) (ihe : WS el) (S : Nat → Prop) (w : World) (a t u : Value) (B b : Nat) (left acc : List UInt8) (hxa : IsEx S w x a) (hth : IsSts S w th t) (hel : IsSts S w el u) (hS : ∀ c, S c → c < B) (hb : Lib.IsBuilder 47 5 B b (Lib.byteCells acc) w) (hBw : B ≤ w.heap.size) (ht : Tab w) (h14 : 6 ≤ B) (hlen : acc.length + (ifT x th el left).length ≤ 1000000) :
    Calls Tryd.prog 28 #[.pointer (some ⟨b, 0, none⟩), .agg #[.int .i64 2, .int .i64 p, .string ⟨#[]⟩, a, .slice none 0 0, .int .i64 0, t, u], .string ⟨left.toArray⟩] w fun e w' => e = .returned (.tuple #[]) ∧ Lib.IsBuilder 47 5 B b (Lib.byteCells (acc ++ ifT x th el left)) w' ∧ Wrote B w w' := by
  obtain ⟨X, rfl⟩ := hxa.ptr
  obtain ⟨ta, tc, rfl⟩ := sts_val hth
  obtain ⟨ua, uc, rfl⟩ := sts_val hel
  have HO := hide (below_alloc w (.cells #[.int .i64 2, .int .i64 p, .string ⟨#[]⟩, .pointer (some ⟨X, 0, none⟩), .slice none 0 0, .int .i64 0, .slice ta th.length tc, .slice ua el.length uc] 72))
  have HN := hide (blk_new w (.cells #[.int .i64 2, .int .i64 p, .string ⟨#[]⟩, .pointer (some ⟨X, 0, none⟩), .slice none 0 0, .int .i64 0, .slice ta th.length tc, .slice ua el.length uc] 72))
  have HXA := hide hxa
  have HTH := hide hth
  have HEL := hide hel
  have HS := hide hS
  have HB0 := hide (isBuilder_below hb HO.out)
  have HT := hide ht
  have HGX := hide hx
  have IHT := hide iht
  have IHE := hide ihe
  have HIF : Hid (ifT x th el left = ([105, 102, 32] ++ textP x 1 ++ [32, 116, 104, 101, 110, 10]) ++ stsT th (left ++ [32, 32]) ++ elT el left ++ (left ++ [101, 110, 100, 59, 10])) := rfl
  have hlen2 := hlen
  rw [HIF.out] at hlen2
  simp only [List.length_append, List.length_cons, List.length_nil] at hlen2
  have HQ : Hid ((textP x 1).length ≤ 1000000) := hide (by omega)
  have HL := hide hlen2
  have hleft : left.length ≤ 1000000 := by omega
  clear hxa hth hel hS hb ht hx iht ihe hlen hlen2
  have HTX := hide fun w' S' v hx' hS' ht' h14' => text_at x HGX.out.good S' w' v hx' hS' ht' h14' HQ.out
  generalize hq : textP x 1 = q at *
  have k1 := cat_run [105, 102, 32] q (by have := HL.out; simp; omega)
  have k2 := cat_run ([105, 102, 32] ++ q) [32, 116, 104, 101, 110, 10] (by have := HL.out; simp; omega)
  have k3 := cat_run left [32, 32] (by have := HL.out; simp; omega)
  have k4 := cat_run left [101, 108, 115, 101, 10] (by simp; have := HL.out; omega)
  have k5 := cat_run left [101, 110, 100, 59, 10] (by have := HL.out; simp; omega)
  simp only [List.append_assoc, List.cons_append, List.nil_append] at k1 k2
  have HQQ : Hid (textP x 1 = q) := hq
  clear hq
  go_enter Tryd.func28, Tryd.ntmps28
  go_wp2_with fail
  generalize (w.alloc (.cells #[.int .i64 2, .int .i64 p, .string ⟨#[]⟩, .pointer (some ⟨X, 0, none⟩), .slice none 0 0, .int .i64 0, .slice ta th.length tc, .slice ua el.length uc] 72)) = w0 at *
  have HBW0 := hide (Nat.le_trans hBw HO.out.size)
  have HW0 := hide (Wrote.of HO.out hBw)
  refine (HTX.out w0 S _ (HXA.out.below HO.out) (fun c h => Nat.lt_of_lt_of_le (HS.out c h) HBW0.out) (HT.out.below HW0.out.below h14) (Nat.le_trans h14 HBW0.out)).mono ?_
  rintro e w1 ⟨rfl, h1⟩
  have HB1 := hide (isBuilder_below HB0.out h1)
  have HW1 := hide (HW0.out.trans (Wrote.of h1 HBW0.out))
  have HN1 := hide (Below.blk h1 HN.out)
  have HBW1 := hide (Nat.le_trans HBW0.out h1.size)
  clear h1
  go_wp2_with fail
  refine (writes_at _ HB1.out (by rw [str_sz]; have := HL.out; simp; omega) HBW1.out).mono ?_
  rintro e w2 ⟨rfl, h2, h3⟩
  have HB2 := hide h2
  have HW2 := hide (HW1.out.trans h3)
  have HN2 := hide (h3.rest _ _ _ _ HN1.out (by decide) (by decide))
  have HBW2 := hide (Nat.le_trans HBW1.out h3.size)
  clear h2 h3
  have c6 : w2.cell? ⟨w.heap.size, 6, none⟩ = some (.slice ta th.length tc) := by rw [blk_cell HN2.out]; rfl
  go_wp2_with fail
  refine (IHT.out S w2 _ B b _ _ (HTH.out.same fun c h1 _ => HW2.out.block c (HS.out c h1)) HS.out HB2.out HBW2.out (HT.out.below HW2.out.below h14) h14 (by have := HL.out; simp only [List.length_append, List.length_cons, List.length_nil]; omega)).mono ?_
  rintro e w3 ⟨rfl, h2, h3⟩
  have HB3 := hide h2
  have HW3 := hide (HW2.out.trans h3)
  have HN3 := hide (h3.rest _ _ _ _ HN2.out (by decide) (by decide))
  have HBW3 := hide (Nat.le_trans HBW2.out h3.size)
  clear h2 h3 c6
  have c7 : w3.cell? ⟨w.heap.size, 7, none⟩ = some (.slice ua el.length uc) := by rw [blk_cell HN3.out]; rfl
  cases el with
  | nil =>
    have HE0 : Hid (elT [] left = []) := rfl
    go_wp2_with fail
    refine (writes_at _ HB3.out (by rw [str_sz]; have := HL.out; simp; omega) HBW3.out).mono ?_
    rintro e w4 ⟨rfl, h2, h3⟩
    have HB4 := hide h2
    have HW4 := hide (HW3.out.trans h3)
    clear h2 h3
    go_wp2_with fail
    go_end0
    refine ⟨rfl, ?_, HW4.out⟩
    have := HB4.out
    rw [HIF.out, HE0.out]
    simpa using this
  | cons s el =>
    have HE0 : Hid (elT (s :: el) left = left ++ [101, 108, 115, 101, 10] ++ stsT (s :: el) (left ++ [32, 32])) := rfl
    have hpos : (0 : Int) < ((s :: el).length : Int) := by simp
    have HLE := hide (HE0.out ▸ HL.out)
    generalize hee : s :: el = ee at *
    have HEE : Hid (s :: el = ee) := hee
    clear hee
    generalize ee.length = ne at *
    go_wp2_with fail
    refine (writes_at _ HB3.out (by rw [str_sz]; have := HLE.out; simp at this ⊢; omega) HBW3.out).mono ?_
    rintro e w4 ⟨rfl, h2, h3⟩
    have HB4 := hide h2
    have HW4 := hide (HW3.out.trans h3)
    have HN4 := hide (h3.rest _ _ _ _ HN3.out (by decide) (by decide))
    have HBW4 := hide (Nat.le_trans HBW3.out h3.size)
    clear h2 h3 c7
    have d7 : w4.cell? ⟨w.heap.size, 7, none⟩ = some (.slice ua ne uc) := by rw [blk_cell HN4.out]; rfl
    go_wp2_with fail
    refine (IHE.out S w4 _ B b _ _ (HEL.out.same fun c h1 _ => HW4.out.block c (HS.out c h1)) HS.out HB4.out HBW4.out (HT.out.below HW4.out.below h14) h14 (by have := HLE.out; simp at this ⊢; omega)).mono ?_
    rintro e w5 ⟨rfl, h2, h3⟩
    have HB5 := hide h2
    have HW5 := hide (HW4.out.trans h3)
    have HBW5 := hide (Nat.le_trans HBW4.out h3.size)
    clear h2 h3 d7
    go_wp2_with fail
    refine (writes_at _ HB5.out (by rw [str_sz]; have := HLE.out; simp at this ⊢; omega) HBW5.out).mono ?_
    rintro e w6 ⟨rfl, h2, h3⟩
    have HB6 := hide h2
    have HW6 := hide (HW5.out.trans h3)
    clear h2 h3
    go_wp2_with fail
    go_end0
    refine ⟨rfl, ?_, HW6.out⟩
    have := HB6.out
    rw [HEE.out, HIF.out, HE0.out]
    simpa using this
end Go.Proofs.YtgncgbngjdcpgaaDoor
