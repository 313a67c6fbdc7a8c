/-
  CONTRACT of writeIf, out of those of the statements that lie in it.
  CONTRACT of writeStmts.
-/
import Derived.Test.YtpblellbffmolaaGreatDoorLine
import Derived.Test.YtpblellbffmolaaGreatDoorJStm
set_option linter.unusedSimpArgs false
set_option linter.unusedVariables false
namespace Go.Proofs.YtpblellbffmolaaGreatDoor
open Go.RowKit

def WS (l : List St) : Prop := ∀ (S : Nat → Prop) (w : World) (v : Value) (B b : Nat) (left acc : List UInt8), IsSts S w l v → (∀ c, S c → c < B) → Lib.IsBuilder 64 5 B b (Lib.byteCells acc) w → B ≤ w.heap.size → Tab w → 8 ≤ B → acc.length + (stsT l left).length ≤ 1000000 →
  Calls Tryz.prog 24 #[.pointer (some ⟨b, 0, none⟩), v, .string ⟨left.toArray⟩] w fun e w' => e = .returned (.tuple #[]) ∧ Lib.IsBuilder 64 5 B b (Lib.byteCells (acc ++ stsT l left)) w' ∧ Wrote B w w'

def elT (el : List St) (left : List UInt8) : List UInt8 := match el with | [] => [] | _ :: _ => left ++ [101, 108, 115, 101, 10] ++ stsT el (left ++ [32, 32])
def ifT (x : Ex) (th el : List St) (left : List UInt8) : List UInt8 := ([105, 102, 32] ++ textP x 1 ++ [32, 116, 104, 101, 110, 10]) ++ stsT th (left ++ [32, 32]) ++ elT el left ++ (left ++ [101, 110, 100, 59, 10])
theorem cond_T (p : Nat) (x : Ex) (th el : List St) (left : List UInt8) : stT (.cond p x th el) left = left ++ ifT x th el left := by
  cases el with
  | nil => simp only [stT, ifT, elT]; simp
  | cons s l => simp only [stT, ifT, elT]; simp
theorem sts_val {S : Nat → Prop} {w : World} {l : List St} {v : Value} (h : IsSts S w l v) : ∃ (a : Option Addr) (cap : Nat), v = .slice a l.length cap := by
  obtain ⟨cs, h1, _⟩ := h
  exact h1.val

set_option maxRecDepth 100000 in
set_option maxHeartbeats 6400000 in
theorem if_at (p : Nat) (x : Ex) (th el : List St) (hx : GoodX x) (iht : WS th) (ihe : WS el) (S : Nat → Prop) (w : World) (a t u : Value) (B b : Nat) (left acc : List UInt8) (hxa : IsEx S w x a) (hth : IsSts S w th t) (hel : IsSts S w el u) (hS : ∀ c, S c → c < B) (hb : Lib.IsBuilder 64 5 B b (Lib.byteCells acc) w) (hBw : B ≤ w.heap.size) (ht : Tab w) (h14 : 8 ≤ B) (hlen : acc.length + (ifT x th el left).length ≤ 1000000) :
    Calls Tryz.prog 49 #[.pointer (some ⟨b, 0, none⟩), .agg #[.int .i64 2, .int .i64 p, .string ⟨#[]⟩, a, .slice none 0 0, .int .i64 0, t, u], .string ⟨left.toArray⟩] w fun e w' => e = .returned (.tuple #[]) ∧ Lib.IsBuilder 64 5 B b (Lib.byteCells (acc ++ ifT x th el left)) w' ∧ Wrote B w w' := by
  obtain ⟨X, rfl⟩ := hxa.ptr
  obtain ⟨ta, tc, rfl⟩ := sts_val hth
  obtain ⟨ua, uc, rfl⟩ := sts_val hel
  have HO := hide (below_alloc w (.cells #[.int .i64 2, .int .i64 p, .string ⟨#[]⟩, .pointer (some ⟨X, 0, none⟩), .slice none 0 0, .int .i64 0, .slice ta th.length tc, .slice ua el.length uc] 99))
  have HN := hide (blk_new w (.cells #[.int .i64 2, .int .i64 p, .string ⟨#[]⟩, .pointer (some ⟨X, 0, none⟩), .slice none 0 0, .int .i64 0, .slice ta th.length tc, .slice ua el.length uc] 99))
  have HXA := hide hxa
  have HTH := hide hth
  have HEL := hide hel
  have HS := hide hS
  have HB0 := hide (isBuilder_below hb HO.out)
  have HT := hide ht
  have HGX := hide hx
  have IHT := hide iht
  have IHE := hide ihe
  have HIF : Hid (ifT x th el left = ([105, 102, 32] ++ textP x 1 ++ [32, 116, 104, 101, 110, 10]) ++ stsT th (left ++ [32, 32]) ++ elT el left ++ (left ++ [101, 110, 100, 59, 10])) := rfl
  have hlen2 := hlen
  rw [HIF.out] at hlen2
  simp only [List.length_append, List.length_cons, List.length_nil] at hlen2
  have HQ : Hid ((textP x 1).length ≤ 1000000) := hide (by omega)
  have HL := hide hlen2
  have hleft : left.length ≤ 1000000 := by omega
  clear hxa hth hel hS hb ht hx iht ihe hlen hlen2
  have HTX := hide fun w' S' v hx' hS' ht' h14' => text_at x HGX.out.good S' w' v hx' hS' ht' h14' HQ.out
  generalize hq : textP x 1 = q at *
  have k1 := cat_run [105, 102, 32] q (by have := HL.out; simp; omega)
  have k2 := cat_run ([105, 102, 32] ++ q) [32, 116, 104, 101, 110, 10] (by have := HL.out; simp; omega)
  have k3 := cat_run left [32, 32] (by have := HL.out; simp; omega)
  have k4 := cat_run left [101, 108, 115, 101, 10] (by simp; have := HL.out; omega)
  have k5 := cat_run left [101, 110, 100, 59, 10] (by have := HL.out; simp; omega)
  simp only [List.append_assoc, List.cons_append, List.nil_append] at k1 k2
  have HQQ : Hid (textP x 1 = q) := hq
  clear hq
  go_enter Tryz.func49, Tryz.ntmps49
  go_wp2_with fail
  generalize (w.alloc (.cells #[.int .i64 2, .int .i64 p, .string ⟨#[]⟩, .pointer (some ⟨X, 0, none⟩), .slice none 0 0, .int .i64 0, .slice ta th.length tc, .slice ua el.length uc] 99)) = w0 at *
  have HBW0 := hide (Nat.le_trans hBw HO.out.size)
  have HW0 := hide (Wrote.of HO.out hBw)
  refine (HTX.out w0 S _ (HXA.out.below HO.out) (fun c h => Nat.lt_of_lt_of_le (HS.out c h) HBW0.out) (HT.out.below HW0.out.below h14) (Nat.le_trans h14 HBW0.out)).mono ?_
  rintro e w1 ⟨rfl, h1⟩
  have HB1 := hide (isBuilder_below HB0.out h1)
  have HW1 := hide (HW0.out.trans (Wrote.of h1 HBW0.out))
  have HN1 := hide (Below.blk h1 HN.out)
  have HBW1 := hide (Nat.le_trans HBW0.out h1.size)
  clear h1
  go_wp2_with fail
  refine (writes_at _ HB1.out (by rw [str_sz]; have := HL.out; simp; omega) HBW1.out).mono ?_
  rintro e w2 ⟨rfl, h2, h3⟩
  have HB2 := hide h2
  have HW2 := hide (HW1.out.trans h3)
  have HN2 := hide (h3.rest _ _ _ _ HN1.out (by decide) (by decide))
  have HBW2 := hide (Nat.le_trans HBW1.out h3.size)
  clear h2 h3
  have c6 : w2.cell? ⟨w.heap.size, 6, none⟩ = some (.slice ta th.length tc) := by rw [blk_cell HN2.out]; rfl
  go_wp2_with fail
  refine (IHT.out S w2 _ B b _ _ (HTH.out.same fun c h1 _ => HW2.out.block c (HS.out c h1)) HS.out HB2.out HBW2.out (HT.out.below HW2.out.below h14) h14 (by have := HL.out; simp only [List.length_append, List.length_cons, List.length_nil]; omega)).mono ?_
  rintro e w3 ⟨rfl, h2, h3⟩
  have HB3 := hide h2
  have HW3 := hide (HW2.out.trans h3)
  have HN3 := hide (h3.rest _ _ _ _ HN2.out (by decide) (by decide))
  have HBW3 := hide (Nat.le_trans HBW2.out h3.size)
  clear h2 h3 c6
  have c7 : w3.cell? ⟨w.heap.size, 7, none⟩ = some (.slice ua el.length uc) := by rw [blk_cell HN3.out]; rfl
  cases el with
  | nil =>
    have HE0 : Hid (elT [] left = []) := rfl
    go_wp2_with fail
    refine (writes_at _ HB3.out (by rw [str_sz]; have := HL.out; simp; omega) HBW3.out).mono ?_
    rintro e w4 ⟨rfl, h2, h3⟩
    have HB4 := hide h2
    have HW4 := hide (HW3.out.trans h3)
    clear h2 h3
    go_wp2_with fail
    go_end0
    refine ⟨rfl, ?_, HW4.out⟩
    have := HB4.out
    rw [HIF.out, HE0.out]
    simpa using this
  | cons s el =>
    have HE0 : Hid (elT (s :: el) left = left ++ [101, 108, 115, 101, 10] ++ stsT (s :: el) (left ++ [32, 32])) := rfl
    have hpos : (0 : Int) < ((s :: el).length : Int) := by simp
    have HLE := hide (HE0.out ▸ HL.out)
    generalize hee : s :: el = ee at *
    have HEE : Hid (s :: el = ee) := hee
    clear hee
    generalize ee.length = ne at *
    go_wp2_with fail
    refine (writes_at _ HB3.out (by rw [str_sz]; have := HLE.out; simp at this ⊢; omega) HBW3.out).mono ?_
    rintro e w4 ⟨rfl, h2, h3⟩
    have HB4 := hide h2
    have HW4 := hide (HW3.out.trans h3)
    have HN4 := hide (h3.rest _ _ _ _ HN3.out (by decide) (by decide))
    have HBW4 := hide (Nat.le_trans HBW3.out h3.size)
    clear h2 h3 c7
    have d7 : w4.cell? ⟨w.heap.size, 7, none⟩ = some (.slice ua ne uc) := by rw [blk_cell HN4.out]; rfl
    go_wp2_with fail
    refine (IHE.out S w4 _ B b _ _ (HEL.out.same fun c h1 _ => HW4.out.block c (HS.out c h1)) HS.out HB4.out HBW4.out (HT.out.below HW4.out.below h14) h14 (by have := HLE.out; simp at this ⊢; omega)).mono ?_
    rintro e w5 ⟨rfl, h2, h3⟩
    have HB5 := hide h2
    have HW5 := hide (HW4.out.trans h3)
    have HBW5 := hide (Nat.le_trans HBW4.out h3.size)
    clear h2 h3 d7
    go_wp2_with fail
    refine (writes_at _ HB5.out (by rw [str_sz]; have := HLE.out; simp at this ⊢; omega) HBW5.out).mono ?_
    rintro e w6 ⟨rfl, h2, h3⟩
    have HB6 := hide h2
    have HW6 := hide (HW5.out.trans h3)
    clear h2 h3
    go_wp2_with fail
    go_end0
    refine ⟨rfl, ?_, HW6.out⟩
    have := HB6.out
    rw [HEE.out, HIF.out, HE0.out]
    simpa using this
end Go.Proofs.YtpblellbffmolaaGreatDoor
set_option linter.unusedSimpArgs false
set_option linter.unusedVariables false
namespace Go.Proofs.YtpblellbffmolaaGreatDoor
open Go.RowKit

theorem IsStL.get {S : Nat → Prop} {w : World} : ∀ {l : List St} {cs : List (List Value)}, IsStL S w l cs → ∀ i (h : i < l.length), ∃ c, cs[i]? = some c ∧ IsSt S w l[i] c
  | s :: l, c :: cs, h, 0, _ => by simp only [IsStL] at h; exact ⟨c, rfl, h.1⟩
  | s :: l, c :: cs, h, i + 1, hi => by
    simp only [IsStL] at h
    obtain ⟨d, hd, hs⟩ := IsStL.get h.2 i (by simpa using hi)
    exact ⟨d, by simpa using hd, by simpa using hs⟩
  | _ :: _, [], h, _, _ => by simp only [IsStL] at h
theorem IsStL.eight {S : Nat → Prop} {w : World} : ∀ {l : List St} {cs : List (List Value)}, IsStL S w l cs → ∀ c ∈ cs, c.length = 8
  | [], [], _, c, hc => by simp at hc
  | s :: l, d :: cs, h, c, hc => by
    simp only [IsStL] at h
    rcases List.mem_cons.1 hc with e | e
    · rw [e]; exact (IsSt.form s d h.1).1
    · exact IsStL.eight h.2 c e
  | [], _ :: _, h, _, _ => by simp only [IsStL] at h
  | _ :: _, [], h, _, _ => by simp only [IsStL] at h
theorem flat_at {α : Type} (m : Nat) : ∀ (cs : List (List α)), (∀ c ∈ cs, c.length = m) → ∀ (i : Nat) (c : List α), cs[i]? = some c → ∀ k, k < m → cs.flatten[i * m + k]? = c[k]?
  | [], _, i, c, h, _, _ => by simp at h
  | d :: cs, h8, 0, c, h, k, hk => by
    simp at h; subst h
    rw [List.flatten_cons, List.getElem?_append_left (by rw [h8 d (by simp)]; omega)]
    simp
  | d :: cs, h8, i + 1, c, h, k, hk => by
    have hd := h8 d (by simp)
    have e : (i + 1) * m + k = d.length + (i * m + k) := by rw [hd, Nat.add_mul]; omega
    rw [List.flatten_cons, e, List.getElem?_append_right (by omega), Nat.add_sub_cancel_left]
    exact flat_at m cs (fun c hc => h8 c (by simp [hc])) i c (by simpa using h) k hk
theorem stsT_take (left : List UInt8) : ∀ (l : List St) (i : Nat) (h : i < l.length), stsT (l.take (i + 1)) left = stsT (l.take i) left ++ stT l[i] left
  | x :: l, 0, _ => by simp [stsT]
  | x :: l, i + 1, h => by
    have := stsT_take left l i (by simpa using h)
    simp only [List.take_succ_cons, stsT, this, List.getElem_cons_succ]
    simp
theorem stsT_len_take (left : List UInt8) : ∀ (l : List St) (i : Nat), (stsT (l.take i) left).length ≤ (stsT l left).length
  | [], i => by simp
  | x :: l, 0 => by simp [stsT]
  | x :: l, i + 1 => by
    have := stsT_len_take left l i
    simp only [List.take_succ_cons, stsT, List.length_append]; omega
theorem stT_pos (s : St) (left : List UInt8) : left.length + 1 ≤ (stT s left).length := by
  cases s with
  | set p n x => simp only [stT, List.length_append, List.length_cons, List.length_nil]; omega
  | call p n l k => simp only [stT, List.length_append, List.length_cons, List.length_nil]; omega
  | cond p x th el => rw [cond_T]; simp only [ifT, List.length_append, List.length_cons, List.length_nil]; omega
theorem stsT_ge (left : List UInt8) : ∀ l : List St, l.length ≤ (stsT l left).length
  | [] => by simp
  | s :: l => by have := stsT_ge left l; have := stT_pos s left; simp only [stsT, List.length_append, List.length_cons]; omega
theorem goodL_mem : ∀ {l : List St}, GoodL l → ∀ s ∈ l, GoodSt s
  | s :: l, h, t, ht => by
    simp only [GoodL] at h
    rcases List.mem_cons.1 ht with e | e
    · rw [e]; exact h.1
    · exact goodL_mem h.2 t e

set_option maxRecDepth 100000 in
set_option maxHeartbeats 6400000 in
theorem sts_at (l : List St) (hg : GoodL l) (ih : ∀ p x th el, St.cond p x th el ∈ l → WS th ∧ WS el) : WS l := by
  intro S w v B b left acc hx hS hb hBw ht h14 hlen
  obtain ⟨cs, hrow, hall⟩ := hx
  obtain ⟨ao, cap, rfl⟩ := hrow.val
  have HROW := hide hrow
  have HALL := hide hall
  have HS := hide hS
  have HB0 := hide hb
  have HT := hide ht
  have HG := hide (goodL_mem hg)
  have IH := hide ih
  have HL := hide hlen
  have hll : l.length ≤ 1000000 := by have := stsT_ge left l; omega
  clear hrow hall hS hb ht hg ih hlen
  go_enter Tryz.func24, Tryz.ntmps24
  go_wp2_with fail
  go_loopw [7, 10] (fun _ i wr => ∃ j : Nat, j ≤ l.length ∧ i = .int .i64 j ∧ Hid (Lib.IsBuilder 64 5 B b (Lib.byteCells (acc ++ stsT (l.take j) left)) wr) ∧ Hid (Wrote B w wr)) (fun _ i _ => l.length - (intOf i).toNat)
  case atStart => exact ⟨0, Nat.zero_le _, rfl, hide (by simpa [stsT] using HB0.out), hide (Wrote.refl B w)⟩
  case round =>
    obtain ⟨j, hj, rfl, hbr, hwr⟩ := hrel
    by_cases hlt : j < l.length
    · have hji : (j : Int) < (l.length : Int) := by omega
      obtain ⟨g, cap', hv, hSg⟩ := HROW.out.addr (by omega)
      obtain ⟨rfl, rfl⟩ : ao = some ⟨g, 0, none⟩ ∧ cap = cap' := by cases hv; exact ⟨rfl, rfl⟩
      obtain ⟨c, hc, hst⟩ := HALL.out.get j hlt
      have hgB := HS.out g hSg
      have HCELL : Hid (∀ k u, c[k]? = some u → k < 8 → wr.cell? ⟨g, j * 8 + k, none⟩ = some u) := fun k u hk h8 => (hwr.out.cell (a := ⟨g, j * 8 + k, none⟩) hgB).trans (HROW.out.cell rfl (by rw [flat_at 8 cs HALL.out.eight j c hc k h8]; exact hk))
      have HTJ := hide (stsT_take left l j hlt)
      have HTL := hide (stsT_len_take left l (j + 1))
      have HTW := hide (HT.out.below hwr.out.below h14)
      have HBW := hide (Nat.le_trans hBw hwr.out.size)
      have HMEM := hide (List.getElem_mem hlt)
      generalize l[j] = s at *
      have HST := hide (IsSt.same (w' := wr) (fun c h1 _ => hwr.out.block c (HS.out c h1)) s c hst)
      have HGS := hide (HG.out s HMEM.out)
      have hjl : j ≤ 1000000 := by omega
      have HPOS := hide (stT_pos s left)
      clear hv hc hst
      cases s with
      | set p nm x =>
        have hst := HST.out
        simp only [IsSt] at hst
        obtain ⟨a, rfl, hxa⟩ := hst
        obtain ⟨X, rfl⟩ := hxa.ptr
        have r0 : wr.cell? ⟨g, j * 8, none⟩ = some (.int .i64 1) := HCELL.out 0 _ rfl (by decide)
        have r1 : wr.cell? ⟨g, j * 8 + 1, none⟩ = some (.int .i64 p) := HCELL.out 1 _ rfl (by decide)
        have r2 : wr.cell? ⟨g, j * 8 + 2, none⟩ = some (.string nm) := HCELL.out 2 _ rfl (by decide)
        have r3 : wr.cell? ⟨g, j * 8 + 3, none⟩ = some (.pointer (some ⟨X, 0, none⟩)) := HCELL.out 3 _ rfl (by decide)
        have r4 : wr.cell? ⟨g, j * 8 + 4, none⟩ = some (.slice none 0 0) := HCELL.out 4 _ rfl (by decide)
        have r5 : wr.cell? ⟨g, j * 8 + 5, none⟩ = some (.int .i64 0) := HCELL.out 5 _ rfl (by decide)
        have r6 : wr.cell? ⟨g, j * 8 + 6, none⟩ = some (.slice none 0 0) := HCELL.out 6 _ rfl (by decide)
        have r7 : wr.cell? ⟨g, j * 8 + 7, none⟩ = some (.slice none 0 0) := HCELL.out 7 _ rfl (by decide)
        go_wp2_with fail
        have HO := hide (below_alloc wr (.cells #[.int .i64 1, .int .i64 p, .string nm, .pointer (some ⟨X, 0, none⟩), .slice none 0 0, .int .i64 0, .slice none 0 0, .slice none 0 0] 99))
        have HN := hide (blk_new wr (.cells #[.int .i64 1, .int .i64 p, .string nm, .pointer (some ⟨X, 0, none⟩), .slice none 0 0, .int .i64 0, .slice none 0 0, .slice none 0 0] 99))
        generalize (wr.alloc (.cells #[.int .i64 1, .int .i64 p, .string nm, .pointer (some ⟨X, 0, none⟩), .slice none 0 0, .int .i64 0, .slice none 0 0, .slice none 0 0] 99)) = w2 at *
        refine (writes_at _ (isBuilder_below hbr.out HO.out) (by rw [str_sz]; have := HL.out; have := HTL.out; rw [HTJ.out] at this; simp only [List.length_append] at this ⊢; have := HPOS.out; omega) (Nat.le_trans HBW.out HO.out.size)).mono ?_
        rintro e w3 ⟨rfl, h1, h2⟩
        have HB3 := hide h1
        have HW3 := hide (hwr.out.trans ((Wrote.of HO.out HBW.out).trans h2))
        have HN3 := hide (h2.rest _ _ _ _ HN.out (by decide) (by decide))
        have HBW3 := hide (Nat.le_trans hBw HW3.out.size)
        have HTW3 := hide (HT.out.below HW3.out.below h14)
        clear h1 h2
        have HGX := HGS.out
        simp only [GoodSt] at HGX
        have HX3 : Hid (IsEx S w3 x (.pointer (some ⟨X, 0, none⟩))) := hxa.same fun c h1 _ => by
          rw [HW3.out.block c (HS.out c h1), hwr.out.block c (HS.out c h1)]
        have hTE : stT (.set p nm x) left = left ++ (nm.data.toList ++ [32, 58, 61, 32] ++ textP x 1 ++ [59, 10]) := by simp only [stT]
        have HTE := hide hTE
        have HLT : Hid (acc.length + (stsT (l.take j) left).length + (left.length + (nm.size + 4 + (textP x 1).length + 2)) ≤ 1000000) := hide (by
          have := HL.out; have := HTL.out; rw [HTJ.out, hTE] at this; simp only [List.length_append, List.length_cons, List.length_nil, sz_list] at this; omega)
        have HTX := hide fun w' hx' hS' ht' h14' => text_at x HGX.2.good S w' (.pointer (some ⟨X, 0, none⟩)) hx' hS' ht' h14' (by have := HLT.out; omega)
        have c0 : w3.cell? ⟨wr.heap.size, 0, none⟩ = some (.int .i64 1) := by rw [blk_cell HN3.out]; rfl
        have c2 : w3.cell? ⟨wr.heap.size, 2, none⟩ = some (.string ⟨nm.data.toList.toArray⟩) := by rw [blk_cell HN3.out]; rfl
        have c3 : w3.cell? ⟨wr.heap.size, 3, none⟩ = some (.pointer (some ⟨X, 0, none⟩)) := by rw [blk_cell HN3.out]; rfl
        have hnm : nm.data.toList.length = nm.size := sz_list nm
        have HNM : Hid (nm = ⟨nm.data.toList.toArray⟩) := rfl
        clear hTE HGX hxa r0 r1 r2 r3 r4 r5 r6 r7
        generalize textP x 1 = q at *
        generalize nm.data.toList = m at *
        have k1 := cat_run m [32, 58, 61, 32] (by have := HLT.out; simp; omega)
        have k2 := cat_run (m ++ [32, 58, 61, 32]) q (by have := HLT.out; simp; omega)
        have k3 := cat_run (m ++ [32, 58, 61, 32] ++ q) [59, 10] (by have := HLT.out; simp; omega)
        simp only [List.append_assoc, List.cons_append, List.nil_append] at k2 k3
        go_wp2_with fail
        go_region_held3 (fun w' => w'.cell? ⟨wr.heap.size, 2, none⟩ = some (.string ⟨m.toArray⟩) ∧ w'.cell? ⟨wr.heap.size, 3, none⟩ = some (.pointer (some ⟨X, 0, none⟩))) (first | exact ⟨d2, d3⟩ | go_keep) ((first | (go_at_call 47; refine (HTX.out w3.drew (HX3.out.below ((Below.refl w3.heap.size w3).drew)) (fun c h => Nat.lt_of_lt_of_le (HS.out c h) HBW3.out) HTW3.out (Nat.le_trans h14 HBW3.out)).mono ?_; rintro e w4 ⟨rfl, h4⟩; have H4 := hide (Below.step ((Below.refl w3.heap.size w3).drew) h4); have d2 : w4.cell? ⟨wr.heap.size, 2, none⟩ = some (.string ⟨m.toArray⟩) := (H4.out.cell (cell_lt c2)).trans c2; have d3 : w4.cell? ⟨wr.heap.size, 3, none⟩ = some (.pointer (some ⟨X, 0, none⟩)) := (H4.out.cell (cell_lt c3)).trans c3; have HB4 := hide (isBuilder_below HB3.out H4.out); clear h4) | (go_at_call 22; refine (writes_at _ HB4.out (by rw [str_sz]; have := HLT.out; simp; omega) (Nat.le_trans HBW3.out H4.out.size)).mono ?_; rintro e w5 ⟨rfl, h5, h6⟩; have H5 := hide h5; have H6 := hide h6; have HN4 := hide (Below.blk H4.out HN3.out); have HN5 := hide (h6.rest _ _ _ _ HN4.out (by decide) (by decide)); have d2 : w5.cell? ⟨wr.heap.size, 2, none⟩ = some (.string ⟨m.toArray⟩) := (by rw [blk_cell HN5.out]; show some (Value.string nm) = _; rw [← HNM.out]); have d3 : w5.cell? ⟨wr.heap.size, 3, none⟩ = some (.pointer (some ⟨X, 0, none⟩)) := (by rw [blk_cell HN5.out]; rfl); clear h5 h6)))
        go_wp2_with fail
        refine ⟨⟨j + 1, by omega, by go_num, hide ?_, hide (HW3.out.trans ((Wrote.of H4.out HBW3.out).trans H6.out))⟩, by simp [intOf]; omega⟩
        have := H5.out
        rw [HTJ.out, HTE.out]
        simpa using this
      | call p nm xs n =>
        have hst := HST.out
        simp only [IsSt] at hst
        obtain ⟨a, rfl, hxa⟩ := hst
        obtain ⟨aa, ac, rfl⟩ := (show ∃ (x : Option Addr) (c : Nat), a = .slice x xs.length c from by obtain ⟨vs, hr, _⟩ := hxa; exact hr.val)
        have r0 : wr.cell? ⟨g, j * 8, none⟩ = some (.int .i64 3) := HCELL.out 0 _ rfl (by decide)
        have r1 : wr.cell? ⟨g, j * 8 + 1, none⟩ = some (.int .i64 p) := HCELL.out 1 _ rfl (by decide)
        have r2 : wr.cell? ⟨g, j * 8 + 2, none⟩ = some (.string nm) := HCELL.out 2 _ rfl (by decide)
        have r3 : wr.cell? ⟨g, j * 8 + 3, none⟩ = some (.pointer none) := HCELL.out 3 _ rfl (by decide)
        have r4 : wr.cell? ⟨g, j * 8 + 4, none⟩ = some (.slice aa xs.length ac) := HCELL.out 4 _ rfl (by decide)
        have r5 : wr.cell? ⟨g, j * 8 + 5, none⟩ = some (.int .i64 n) := HCELL.out 5 _ rfl (by decide)
        have r6 : wr.cell? ⟨g, j * 8 + 6, none⟩ = some (.slice none 0 0) := HCELL.out 6 _ rfl (by decide)
        have r7 : wr.cell? ⟨g, j * 8 + 7, none⟩ = some (.slice none 0 0) := HCELL.out 7 _ rfl (by decide)
        go_wp2_with fail
        have HO := hide (below_alloc wr (.cells #[.int .i64 3, .int .i64 p, .string nm, .pointer none, .slice aa xs.length ac, .int .i64 n, .slice none 0 0, .slice none 0 0] 99))
        have HN := hide (blk_new wr (.cells #[.int .i64 3, .int .i64 p, .string nm, .pointer none, .slice aa xs.length ac, .int .i64 n, .slice none 0 0, .slice none 0 0] 99))
        generalize (wr.alloc (.cells #[.int .i64 3, .int .i64 p, .string nm, .pointer none, .slice aa xs.length ac, .int .i64 n, .slice none 0 0, .slice none 0 0] 99)) = w2 at *
        refine (writes_at _ (isBuilder_below hbr.out HO.out) (by rw [str_sz]; have := HL.out; have := HTL.out; rw [HTJ.out] at this; simp only [List.length_append] at this ⊢; have := HPOS.out; omega) (Nat.le_trans HBW.out HO.out.size)).mono ?_
        rintro e w3 ⟨rfl, h1, h2⟩
        have HB3 := hide h1
        have HW3 := hide (hwr.out.trans ((Wrote.of HO.out HBW.out).trans h2))
        have HN3 := hide (h2.rest _ _ _ _ HN.out (by decide) (by decide))
        have HBW3 := hide (Nat.le_trans hBw HW3.out.size)
        have HTW3 := hide (HT.out.below HW3.out.below h14)
        clear h1 h2
        have HGX := HGS.out
        simp only [GoodSt] at HGX
        have HX3 : Hid (IsExs S w3 xs (.slice aa xs.length ac)) := hxa.same fun c h1 _ => by
          rw [HW3.out.block c (HS.out c h1), hwr.out.block c (HS.out c h1)]
        have hTE : stT (.call p nm xs n) left = left ++ (nm.data.toList ++ [40] ++ argsT xs ++ (Lib.decDigits n ++ [41, 59, 10])) := by simp only [stT]
        have HTE := hide hTE
        have HLT : Hid (acc.length + (stsT (l.take j) left).length + (left.length + (nm.size + 1 + (argsT xs).length + ((Lib.decDigits n).length + 3))) ≤ 1000000) := hide (by
          have := HL.out; have := HTL.out; rw [HTJ.out, hTE] at this; simp only [List.length_append, List.length_cons, List.length_nil, sz_list] at this; omega)
        have HCA := hide (call_at p nm xs n HGX.1.2.1 HGX.2.1 HGX.2.2 S w3 _ B b _ HX3.out HS.out HB3.out HBW3.out HTW3.out h14 (by have := HLT.out; simp only [List.length_append]; omega))
        have c0 : w3.cell? ⟨wr.heap.size, 0, none⟩ = some (.int .i64 3) := by rw [blk_cell HN3.out]; rfl
        have c1 : w3.cell? ⟨wr.heap.size, 1, none⟩ = some (.int .i64 p) := by rw [blk_cell HN3.out]; rfl
        have c2 : w3.cell? ⟨wr.heap.size, 2, none⟩ = some (.string nm) := by rw [blk_cell HN3.out]; rfl
        have c3 : w3.cell? ⟨wr.heap.size, 3, none⟩ = some (.pointer none) := by rw [blk_cell HN3.out]; rfl
        have c4 : w3.cell? ⟨wr.heap.size, 4, none⟩ = some (.slice aa xs.length ac) := by rw [blk_cell HN3.out]; rfl
        have c5 : w3.cell? ⟨wr.heap.size, 5, none⟩ = some (.int .i64 n) := by rw [blk_cell HN3.out]; rfl
        have c6 : w3.cell? ⟨wr.heap.size, 6, none⟩ = some (.slice none 0 0) := by rw [blk_cell HN3.out]; rfl
        have c7 : w3.cell? ⟨wr.heap.size, 7, none⟩ = some (.slice none 0 0) := by rw [blk_cell HN3.out]; rfl
        clear hTE HGX hxa r0 r1 r2 r3 r4 r5 r6 r7
        go_wp2_with fail
        refine HCA.out.mono ?_
        rintro e w4 ⟨rfl, h4, h5⟩
        have HB4 := hide h4
        have HW4 := hide (HW3.out.trans h5)
        clear h4 h5 c0 c1 c2 c3 c4 c5 c6 c7
        go_wp2_with fail
        refine ⟨⟨j + 1, by omega, by go_num, hide ?_, HW4⟩, by simp [intOf]; omega⟩
        have := HB4.out
        rw [HTJ.out, HTE.out]
        simpa using this
      | cond p x th el =>
        have hst := HST.out
        simp only [IsSt] at hst
        obtain ⟨a, t, u, cs1, ds1, rfl, hxa, ht1, ht2, he1, he2⟩ := hst
        have hth : IsSts S wr th t := ⟨cs1, ht1, ht2⟩
        have hel : IsSts S wr el u := ⟨ds1, he1, he2⟩
        clear ht1 ht2 he1 he2
        obtain ⟨X, rfl⟩ := hxa.ptr
        obtain ⟨ta, tc, rfl⟩ := sts_val hth
        obtain ⟨ua, uc, rfl⟩ := sts_val hel
        have r0 : wr.cell? ⟨g, j * 8, none⟩ = some (.int .i64 2) := HCELL.out 0 _ rfl (by decide)
        have r1 : wr.cell? ⟨g, j * 8 + 1, none⟩ = some (.int .i64 p) := HCELL.out 1 _ rfl (by decide)
        have r2 : wr.cell? ⟨g, j * 8 + 2, none⟩ = some (.string ⟨#[]⟩) := HCELL.out 2 _ rfl (by decide)
        have r3 : wr.cell? ⟨g, j * 8 + 3, none⟩ = some (.pointer (some ⟨X, 0, none⟩)) := HCELL.out 3 _ rfl (by decide)
        have r4 : wr.cell? ⟨g, j * 8 + 4, none⟩ = some (.slice none 0 0) := HCELL.out 4 _ rfl (by decide)
        have r5 : wr.cell? ⟨g, j * 8 + 5, none⟩ = some (.int .i64 0) := HCELL.out 5 _ rfl (by decide)
        have r6 : wr.cell? ⟨g, j * 8 + 6, none⟩ = some (.slice ta th.length tc) := HCELL.out 6 _ rfl (by decide)
        have r7 : wr.cell? ⟨g, j * 8 + 7, none⟩ = some (.slice ua el.length uc) := HCELL.out 7 _ rfl (by decide)
        go_wp2_with fail
        have HO := hide (below_alloc wr (.cells #[.int .i64 2, .int .i64 p, .string ⟨#[]⟩, .pointer (some ⟨X, 0, none⟩), .slice none 0 0, .int .i64 0, .slice ta th.length tc, .slice ua el.length uc] 99))
        have HN := hide (blk_new wr (.cells #[.int .i64 2, .int .i64 p, .string ⟨#[]⟩, .pointer (some ⟨X, 0, none⟩), .slice none 0 0, .int .i64 0, .slice ta th.length tc, .slice ua el.length uc] 99))
        generalize (wr.alloc (.cells #[.int .i64 2, .int .i64 p, .string ⟨#[]⟩, .pointer (some ⟨X, 0, none⟩), .slice none 0 0, .int .i64 0, .slice ta th.length tc, .slice ua el.length uc] 99)) = w2 at *
        refine (writes_at _ (isBuilder_below hbr.out HO.out) (by rw [str_sz]; have := HL.out; have := HTL.out; rw [HTJ.out] at this; simp only [List.length_append] at this ⊢; have := HPOS.out; omega) (Nat.le_trans HBW.out HO.out.size)).mono ?_
        rintro e w3 ⟨rfl, h1, h2⟩
        have HB3 := hide h1
        have HW3 := hide (hwr.out.trans ((Wrote.of HO.out HBW.out).trans h2))
        have HN3 := hide (h2.rest _ _ _ _ HN.out (by decide) (by decide))
        have HBW3 := hide (Nat.le_trans hBw HW3.out.size)
        have HTW3 := hide (HT.out.below HW3.out.below h14)
        clear h1 h2
        have HGX := HGS.out
        simp only [GoodSt] at HGX
        have hcarry : ∀ c, S c → c < wr.heap.size → w3.heap[c]? = wr.heap[c]? := fun c h1 _ => by
          rw [HW3.out.block c (HS.out c h1), hwr.out.block c (HS.out c h1)]
        have HTE := hide (cond_T p x th el left)
        have HLT : Hid (acc.length + (stsT (l.take j) left).length + (left.length + (ifT x th el left).length) ≤ 1000000) := hide (by
          have := HL.out; have := HTL.out; rw [HTJ.out, HTE.out] at this; simp only [List.length_append] at this; omega)
        obtain ⟨ih1, ih2⟩ := IH.out p x th el HMEM.out
        have HCA := hide (if_at p x th el HGX.1 ih1 ih2 S w3 _ _ _ B b left _ (hxa.same hcarry) (hth.same hcarry) (hel.same hcarry) HS.out HB3.out HBW3.out HTW3.out h14 (by have := HLT.out; simp only [List.length_append]; omega))
        have c0 : w3.cell? ⟨wr.heap.size, 0, none⟩ = some (.int .i64 2) := by rw [blk_cell HN3.out]; rfl
        have c1 : w3.cell? ⟨wr.heap.size, 1, none⟩ = some (.int .i64 p) := by rw [blk_cell HN3.out]; rfl
        have c2 : w3.cell? ⟨wr.heap.size, 2, none⟩ = some (.string ⟨#[]⟩) := by rw [blk_cell HN3.out]; rfl
        have c3 : w3.cell? ⟨wr.heap.size, 3, none⟩ = some (.pointer (some ⟨X, 0, none⟩)) := by rw [blk_cell HN3.out]; rfl
        have c4 : w3.cell? ⟨wr.heap.size, 4, none⟩ = some (.slice none 0 0) := by rw [blk_cell HN3.out]; rfl
        have c5 : w3.cell? ⟨wr.heap.size, 5, none⟩ = some (.int .i64 0) := by rw [blk_cell HN3.out]; rfl
        have c6 : w3.cell? ⟨wr.heap.size, 6, none⟩ = some (.slice ta th.length tc) := by rw [blk_cell HN3.out]; rfl
        have c7 : w3.cell? ⟨wr.heap.size, 7, none⟩ = some (.slice ua el.length uc) := by rw [blk_cell HN3.out]; rfl
        clear HGX hxa hth hel hcarry ih1 ih2 r0 r1 r2 r3 r4 r5 r6 r7
        go_wp2_with fail
        refine HCA.out.mono ?_
        rintro e w4 ⟨rfl, h4, h5⟩
        have HB4 := hide h4
        have HW4 := hide (HW3.out.trans h5)
        clear h4 h5 c0 c1 c2 c3 c4 c5 c6 c7
        go_wp2_with fail
        refine ⟨⟨j + 1, by omega, by go_num, hide ?_, HW4⟩, by simp [intOf]; omega⟩
        have := HB4.out
        rw [HTJ.out, HTE.out]
        simpa using this
    · have HJ : Hid (j = l.length) := (by omega : j = l.length)
      go_wp2_with fail
      go_end0
      refine ⟨rfl, ?_, hwr.out⟩
      have := hbr.out
      rw [HJ.out, List.take_length] at this
      exact this

theorem ws_all : ∀ (n : Nat) (l : List St), depL l ≤ n → GoodL l → WS l := by
  intro n
  induction n with
  | zero =>
    intro l hd hg
    refine sts_at l hg fun p x th el hm => ?_
    exfalso
    have : ∀ (l : List St), St.cond p x th el ∈ l → 1 ≤ depL l := by
      intro l
      induction l with
      | nil => intro h; cases h
      | cons s l ih =>
        intro h
        simp only [depL]
        rcases List.mem_cons.1 h with e | e
        · rw [← e]; simp only [depS]; omega
        · have := ih e; omega
    have := this l hm
    omega
  | succ n ih =>
    intro l hd hg
    refine sts_at l hg fun p x th el hm => ?_
    have hdep : ∀ (l : List St), St.cond p x th el ∈ l → 1 + max (depL th) (depL el) ≤ depL l := by
      intro l
      induction l with
      | nil => intro h; cases h
      | cons s l ih =>
        intro h
        simp only [depL]
        rcases List.mem_cons.1 h with e | e
        · rw [← e]; simp only [depS]; omega
        · have := ih e; omega
    have h1 := hdep l hm
    have h2 := goodL_mem hg _ hm
    simp only [GoodSt] at h2
    exact ⟨ih th (by omega) h2.2.1, ih el (by omega) h2.2.2⟩
end Go.Proofs.YtpblellbffmolaaGreatDoor
