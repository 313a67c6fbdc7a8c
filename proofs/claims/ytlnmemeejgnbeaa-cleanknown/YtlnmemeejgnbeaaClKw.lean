/-
  THE LAW CleanKnown, its walk.
-/
import Derived.Test.YtlnmemeejgnbeaaClKp
import Derived.Test.YtlnmemeejgnbeaaClBld
set_option linter.unusedSimpArgs false
set_option linter.unusedVariables false
namespace Go.Proofs.Ytlnmemeejgnbeaa
open Go.RowKit

def pickN (a n : Int) : Int := wrap64 ((IntKind.u64.wrap a).tmod n)
theorem pickN_in (a : Int) {n : Int} (h0 : 0 < n) (h1 : n ≤ 100000) : 0 ≤ pickN a n ∧ pickN a n < n := by
  unfold pickN
  have l2 : 0 ≤ IntKind.u64.wrap a := by rw [IntKind.wrap_u64]; omega
  rw [Int.tmod_eq_emod_of_nonneg l2]
  have l0 := Int.emod_nonneg (IntKind.u64.wrap a) (show n ≠ 0 by omega)
  have l1 := Int.emod_lt_of_pos (IntKind.u64.wrap a) h0
  have : wrap64 (IntKind.u64.wrap a % n) = IntKind.u64.wrap a % n := by
    unfold wrap64
    omega
  rw [this]
  omega
set_option maxRecDepth 100000 in
set_option maxHeartbeats 1600000 in
theorem pick_at (a n : Int) (h0 : 0 < n) (h1 : n ≤ 100000) (w : World) : Calls Try.prog 6 #[.int .i64 a, .int .i64 n] w fun e w' => e = .returned (.int .i64 (pickN a n)) ∧ w' = w := by
  have e : IntKind.u64.wrap n = n := by rw [IntKind.wrap_u64]; omega
  have hne : n ≠ 0 := by omega
  go_enter Try.func6, Try.ntmps6
  go_wp2_with fail
  go_ret
  exact ⟨rfl, rfl⟩

theorem equal_is {S T : Nat → Prop} (l m : List Bool) (n k : Nat) (hln : l.length = n) (hmk : m.length = k) (ao bo : Option Addr) (ac bc : Nat) (w : World) (hl : Lies S w ao (bitsC l)) (hm : Lies T w bo (bitsC m)) (hn : n ≤ 100000) (he : l = m) :
    Calls Try.prog 11 #[.slice ao n ac, .slice bo k bc] w fun e w' => e = .returned (.bool true) ∧ Below w.heap.size w w' := by
  subst hln hmk
  exact equal_at l m ao bo ac bc w hl hm (by omega) (by rw [← he]; omega) he
theorem outs_len (v : List Bool) (os : List Int) : (outs v os).length = os.length := by simp [outs]
/-- all nodes are Zero, One, or gates -/
def GK (ms : List Nd) : Prop := Shut ms ∧ ∀ (given : Int) (many j : Nat), j < ms.length → rightN given many j (ndAt ms j) = true
def z2 : List Nd := [⟨1, 0, 0, 0⟩, ⟨2, 0, 0, 0⟩]
theorem gk0 : GK z2 := by
  constructor
  · intro i hi
    have : i = 0 ∨ i = 1 := by simp [z2] at hi; omega
    rcases this with rfl | rfl <;> decide
  · intro given many j hj
    have : j = 0 ∨ j = 1 := by simp [z2] at hj; omega
    rcases this with rfl | rfl <;> rfl
theorem GK.snoc {ms : List Nd} (h : GK ms) {x : Nd} (ho : x.op = 5 ∨ x.op = 6 ∨ x.op = 7 ∨ x.op = 8) (ha : 0 ≤ x.a ∧ x.a < ms.length) (hb : 0 ≤ x.b ∧ x.b < ms.length) : GK (ms ++ [x]) := by
  have hr : ∀ (given : Int) (many : Nat), rightN given many ms.length x = true := fun given many => by
    obtain ⟨op, a, b, nx⟩ := x
    have i1 : inR a ms.length = true := inR_iff.2 ha
    have i2 : inR b ms.length = true := inR_iff.2 hb
    rcases ho with e | e | e | e <;> simp only at e <;> subst e <;> simp [rightN, i1, i2]
  constructor
  · intro i hi
    by_cases hl : i < ms.length
    · rw [ndAt_left hl]; exact h.1 i hl
    · obtain rfl : i = ms.length := by simp at hi; omega
      rw [ndAt_last]
      rcases ho with e | e | e | e <;> rw [e] <;> decide
  · intro given many j hj
    by_cases hl : j < ms.length
    · rw [ndAt_left hl]; exact h.2 given many j hl
    · obtain rfl : j = ms.length := by simp at hj; omega
      rw [ndAt_last]; exact hr given many
/-- outs that are there -/
def OK (mo : List Int) (n : Nat) : Prop := ∀ i, i < mo.length → inR (outAt mo i) n = true
theorem OK.snoc {mo : List Int} {n : Nat} (h : OK mo n) {v : Int} (hv : 0 ≤ v ∧ v < n) : OK (mo ++ [v]) n := by
  intro i hi
  by_cases hl : i < mo.length
  · have : outAt (mo ++ [v]) i = outAt mo i := by unfold outAt; rw [List.getElem?_append_left hl]
    rw [this]; exact h i hl
  · obtain rfl : i = mo.length := by simp at hi; omega
    have : outAt (mo ++ [v]) mo.length = v := by simp [outAt]
    rw [this]; exact inR_iff.2 hv
theorem opFour (q : Int) (h : 0 ≤ q ∧ q < 4) : q = 0 ∨ q = 1 ∨ q = 2 ∨ q = 3 := by omega

set_option maxRecDepth 100000 in
set_option maxHeartbeats 12800000 in
theorem ck_long (ls : List Nd) (ol : List Int) (la oa : Option Addr) (lc oc : Nat) (w : World) (h1 : (60 : Int) < (ls.length : Int)) :
    Calls Try.prog 3 #[.slice la ls.length lc, .slice oa ol.length oc] w fun e w' => e = .returned (.bool true) ∧ Below w.heap.size w w' := by
  have h1b : decide ((60 : Int) < (ls.length : Int)) = true := by simpa using h1
  go_enter Try.func3, Try.ntmps3
  go_wp2_with fail
  go_ret
  exact ⟨rfl, Below.refl _ _⟩

set_option maxRecDepth 100000 in
set_option maxHeartbeats 12800000 in
theorem ck_many (ls : List Nd) (ol : List Int) (la oa : Option Addr) (lc oc : Nat) (w : World) (h1 : ¬ (60 : Int) < (ls.length : Int)) (h2 : (20 : Int) < (ol.length : Int)) :
    Calls Try.prog 3 #[.slice la ls.length lc, .slice oa ol.length oc] w fun e w' => e = .returned (.bool true) ∧ Below w.heap.size w w' := by
  have h1b : decide ((60 : Int) < (ls.length : Int)) = false := by simpa using h1
  have h2b : decide ((20 : Int) < (ol.length : Int)) = true := by simpa using h2
  go_enter Try.func3, Try.ntmps3
  go_wp2_with fail
  go_ret
  exact ⟨rfl, Below.refl _ _⟩

set_option maxRecDepth 100000 in
set_option maxHeartbeats 12800000 in
theorem ck_main (ls : List Nd) (ol : List Int) (la oa : Option Addr) (lc oc : Nat) (w : World) (hl : Lies AnyB w la (ndsC ls)) (ho : Lies AnyB w oa (intsC ol)) (h1 : ¬ (60 : Int) < (ls.length : Int)) (h2 : ¬ (20 : Int) < (ol.length : Int)) :
    Calls Try.prog 3 #[.slice la ls.length lc, .slice oa ol.length oc] w fun e w' => e = .returned (.bool true) ∧ Below w.heap.size w w' := by
  have h1b : decide ((60 : Int) < (ls.length : Int)) = false := by simpa using h1
  have h2b : decide ((20 : Int) < (ol.length : Int)) = false := by simpa using h2
  have HL := hide hl
  have HO := hide ho
  clear hl ho
  go_enter Try.func3, Try.ntmps3
  go_wp2_with fail
  refine (cleaned_at _).mono ?_
  rintro e w1 ⟨rfl, hb⟩
  have HB1 := hide hb
  have HL1 := hide ((HL.out.imp (T := fun b => b < w.heap.size) fun b hb _ => hb).below hb)
  have HO1 := hide ((HO.out.imp (T := fun b => b < w.heap.size) fun b hb _ => hb).below hb)
  clear hb HL HO
  have HBL0 : Hid (Bld w1.heap.size w1 ((w1.alloc (.cells #[.int .i64 1, .int .i64 0, .int .i64 0, .int .i64 0, .int .i64 2, .int .i64 0, .int .i64 0, .int .i64 0] 26)).alloc (.cells #[.int .i64 0, .slice (some ⟨w1.heap.size, 0, none⟩) 2 2, .slice none 0 0] 28)) (w1.heap.size + 1) 0 (some ⟨w1.heap.size, 0, none⟩) 2 none 0 z2 []) := hide (by
    have e1 : (w1.alloc (.cells #[.int .i64 1, .int .i64 0, .int .i64 0, .int .i64 0, .int .i64 2, .int .i64 0, .int .i64 0, .int .i64 0] 26)).heap.size = w1.heap.size + 1 := by simp
    have b1 := Below.blk (below_alloc (w1.alloc (.cells #[.int .i64 1, .int .i64 0, .int .i64 0, .int .i64 0, .int .i64 2, .int .i64 0, .int .i64 0, .int .i64 0] 26)) (.cells #[.int .i64 0, .slice (some ⟨w1.heap.size, 0, none⟩) 2 2, .slice none 0 0] 28)) (blk_new w1 (.cells #[.int .i64 1, .int .i64 0, .int .i64 0, .int .i64 0, .int .i64 2, .int .i64 0, .int .i64 0, .int .i64 0] 26))
    refine ⟨Below.step (below_alloc _ _) (below_alloc _ _), new_at' _ _ e1, ?_, Mine.none _, ?_, ?_, ?_, by omega, by simp; omega⟩
    · exact ⟨⟨rfl, .inr ⟨w1.heap.size, 2, _, rfl, Nat.zero_le _, b1, Nat.le_refl _, by decide, rfl, rfl⟩⟩, fun b hb => by simp [Value.ownBlock] at hb; omega⟩
    · intro b hb; simp [Value.ownBlock] at hb; omega
    · intro b hb; cases hb
    · intro b hb h; cases h)
  go_wp2_with fail
  generalize ((w1.alloc (.cells #[.int .i64 1, .int .i64 0, .int .i64 0, .int .i64 0, .int .i64 2, .int .i64 0, .int .i64 0, .int .i64 0] 26)).alloc (.cells #[.int .i64 0, .slice (some ⟨w1.heap.size, 0, none⟩) 2 2, .slice none 0 0] 28)) = w2 at *
  go_loopw [6, 7] (fun i _ wr => ∃ p na nc ms, p ≤ ls.length ∧ i = .int .i64 (p : Nat) ∧ ms.length = p + 2 ∧ Hid (GK ms) ∧ Hid (Bld w1.heap.size w1 wr (w1.heap.size + 1) 0 na nc none 0 ms [])) (fun i _ _ => ls.length - (intOf i).toNat)
  case atStart => exact ⟨0, _, _, z2, Nat.zero_le _, rfl, rfl, hide gk0, HBL0⟩
  case round =>
    obtain ⟨p, na, nc, ms, hp, rfl, hml, HGK, hbl⟩ := hrel
    have HML := hide hml
    have hm0 : (0 : Int) < (ms.length : Int) := by omega
    have hm100 : (ms.length : Int) ≤ 100000 := by omega
    clear hml
    by_cases hlt : p < ls.length
    · have hpi : (p : Int) < (ls.length : Int) := by omega
      have HZ1 : Hid (w.heap.size ≤ w1.heap.size) := hide HB1.out.size
      obtain ⟨b, off, ha, hbw, hbl1, n0, n1, n2, n3⟩ := (HL1.out.same fun b hb hl => hbl.out.below.block b hl).nodes hlt
      have HA : Hid (la = some ⟨b, off, none⟩) := hide ha
      have HLOW : Hid (b < w1.heap.size) := hide (Nat.lt_of_lt_of_le hbw HZ1.out)
      have c1 : wr.cell? ⟨w1.heap.size + 1, 1, none⟩ = some (.slice na ms.length nc) := by rw [blk_cell hbl.out.me]; rfl
      generalize ndAt ls p = x at n0 n1 n2 n3
      obtain ⟨xo, xa, xb, xn⟩ := x
      simp only at n0 n1 n2 n3
      have HPA := hide (pickN_in xa (n := ms.length) hm0 hm100)
      have HPB := hide (pickN_in xb (n := ms.length) hm0 hm100)
      have hq4 := opFour _ (pickN_in xo (n := 4) (by omega) (by omega))
      have HPK := hide fun W => pick_at xo 4 (by omega) (by omega) W
      have HPKa := hide fun W => pick_at xa ms.length hm0 hm100 W
      have HPKb := hide fun W => pick_at xb ms.length hm0 hm100 W
      generalize pickN xo 4 = q at *
      generalize pickN xa ms.length = pa at *
      generalize pickN xb ms.length = pb at *
      rw [HA.out]
      clear ha hbl1 hbw hm0 hm100
      rcases hq4 with rfl | rfl | rfl | rfl
      · have c1x := c1
        go_wp2_with fail
        clear c1 c1x
        have HSW : Hid (∀ W, Below wr.heap.size wr W → (fun W : World => W.cell? ⟨b, off + p * 4, none⟩ = some (.int .i64 xo) ∧ W.cell? ⟨b, off + p * 4 + 1, none⟩ = some (.int .i64 xa) ∧ W.cell? ⟨b, off + p * 4 + 2, none⟩ = some (.int .i64 xb)) W) := hide fun W hb => ⟨bcell hb n0, bcell hb n1, bcell hb n2⟩
        have HBd : Hid (Below wr.heap.size wr wr.drew) := hide (Below.refl _ _).drew
        refine wp_region_held_drew (S := (fun W : World => W.cell? ⟨b, off + p * 4, none⟩ = some (.int .i64 xo) ∧ W.cell? ⟨b, off + p * 4 + 1, none⟩ = some (.int .i64 xa) ∧ W.cell? ⟨b, off + p * 4 + 2, none⟩ = some (.int .i64 xb))) (by kernel_rfl) (HSW.out _ HBd.out) (fun _ => ?_)
        have HBLd := hide (hbl.out.more HBd.out)
        generalize hwd : wr.drew = wd at *
        clear hwd
        have HBa := hide (below_alloc wd (.cells #[.int .i64 5, .int .i64 pa, .int .i64 pb, .int .i64 0] 26))
        have HEa := hide (blk_new wd (.cells #[.int .i64 5, .int .i64 pa, .int .i64 pb, .int .i64 0] 26))
        obtain ⟨na', nc', w3, happ, hm, hg, hnb⟩ := app_nd (c := 1) (n' := ms.length + 1) (HBLd.out.nodes.below HBa.out) rfl (new := [(⟨5, pa, pb, 0⟩ : Nd)]) (m := 1) rfl rfl (Lies.blk (cs := ndsC [(⟨5, pa, pb, 0⟩ : Nd)]) HEa.out trivial) (Nat.le_trans HBLd.out.hB HBa.out.size) (by have := HML.out; omega)
        have hgw : wd.grownBy w3 (Value.slice na ms.length nc).ownBlock := ⟨hg.os.trans HBa.out.os, hg.tape.trans HBa.out.tape, hg.output.trans HBa.out.output, Nat.le_trans HBa.out.size hg.size, fun k hk hne => (hg.block k (Nat.lt_of_lt_of_le hk HBa.out.size) hne).trans (HBa.out.block k hk)⟩
        have HNEW := hide (HBLd.out.addN (new := [(⟨5, pa, pb, 0⟩ : Nd)]) (by rw [List.length_append]; rfl) hm hgw (fun b hb => (hnb b hb).imp id (fun h => Nat.le_trans HBa.out.size h)))
        have hML := blk_lt HBLd.out.me
        have hM3 : w3.heap[w1.heap.size + 1]? = wd.heap[w1.heap.size + 1]? := hgw.block _ hML fun e => HBLd.out.dn _ e.symm rfl
        have c0 : wd.cell? ⟨w1.heap.size + 1, 1, none⟩ = some (.slice na ms.length nc) := by rw [blk_cell HBLd.out.me]; rfl
        have c0a := cell_alloc c0 (.cells #[.int .i64 5, .int .i64 pa, .int .i64 pb, .int .i64 0] 26)
        have c3 : w3.cell? ⟨w1.heap.size + 1, 1, none⟩ = some (.slice na ms.length nc) := by rw [blk_cell (hM3.trans HBLd.out.me)]; rfl
        have fz := blk_frozen (hM3.trans HBLd.out.me) 1
        have HS1 := hide (HSW.out _ HBd.out)
        have HSa := hide (HSW.out _ (Below.step HBd.out HBa.out))
        have keep : ∀ (a : Addr) (v : Value), a.block < w1.heap.size → wd.cell? a = some v → w3.cell? a = some v := fun a v hl hc => (World.cell?_of_block (hgw.block a.block (cell_lt hc) fun e => by have := HBLd.out.nodes.new _ e.symm; omega)).trans hc
        have HSb : Hid ((fun W : World => W.cell? ⟨b, off + p * 4, none⟩ = some (.int .i64 xo) ∧ W.cell? ⟨b, off + p * 4 + 1, none⟩ = some (.int .i64 xa) ∧ W.cell? ⟨b, off + p * 4 + 2, none⟩ = some (.int .i64 xb)) w3) := hide ⟨keep _ _ HLOW.out (HSW.out _ HBd.out).1, keep _ _ HLOW.out (HSW.out _ HBd.out).2.1, keep _ _ HLOW.out (HSW.out _ HBd.out).2.2⟩
        have HSc : Hid ((fun W : World => W.cell? ⟨b, off + p * 4, none⟩ = some (.int .i64 xo) ∧ W.cell? ⟨b, off + p * 4 + 1, none⟩ = some (.int .i64 xa) ∧ W.cell? ⟨b, off + p * 4 + 2, none⟩ = some (.int .i64 xb)) (w3.setCell ⟨w1.heap.size + 1, 1, none⟩ (.slice na' (ms.length + 1) nc'))) := hide (by
          have st : ∀ (a : Addr) (v : Value), a.block < w1.heap.size → w3.cell? a = some v → (w3.setCell ⟨w1.heap.size + 1, 1, none⟩ (.slice na' (ms.length + 1) nc')).cell? a = some v := fun a v hl hc => (World.cell?_of_block (Below.heap_setCell _ _ _ _ (by show a.block ≠ w1.heap.size + 1; omega))).trans hc
          exact ⟨st _ _ HLOW.out HSb.out.1, st _ _ HLOW.out HSb.out.2.1, st _ _ HLOW.out HSb.out.2.2⟩)
        clear hm hg hnb hgw hM3 keep hML
        refine wpAnyH_take (i := 0) (oi := ⟨some 38, _, _, _, _, _⟩) (v := .pointer (some ⟨w1.heap.size + 1, 1, none⟩)) rfl (by kernel_rfl) (by kernel_rfl) (by kernel_rfl) (fun _ _ _ h => h) (Or.inl ⟨by rfl, fun W hS => by (obtain ⟨s0, s1, s2⟩ := hS; go_simp)⟩) HS1.out ?_
        simp only [Act.put, List.setIfInBounds_toArray, List.set_cons_zero, List.set_cons_succ]
        refine wpAnyH_take (i := 2) (oi := ⟨some 40, _, _, _, _, _⟩) (v := .agg #[.int .i64 5, .int .i64 6, .int .i64 7, .int .i64 8]) rfl (by kernel_rfl) (by kernel_rfl) (by kernel_rfl) (fun _ _ _ h => h) (Or.inl ⟨by rfl, fun W hS => by (obtain ⟨s0, s1, s2⟩ := hS; go_simp)⟩) HS1.out ?_
        simp only [Act.put, List.setIfInBounds_toArray, List.set_cons_zero, List.set_cons_succ]
        refine wpAnyH_take (i := 3) (oi := ⟨some 41, _, _, _, _, _⟩) (v := .slice (some ⟨b, off, none⟩) ls.length lc) rfl (by kernel_rfl) (by kernel_rfl) (by kernel_rfl) (fun _ _ _ h => h) (Or.inl ⟨by rfl, fun W hS => by (obtain ⟨s0, s1, s2⟩ := hS; go_simp)⟩) HS1.out ?_
        simp only [Act.put, List.setIfInBounds_toArray, List.set_cons_zero, List.set_cons_succ]
        refine wpAnyH_take (i := 4) (oi := ⟨some 42, _, _, _, _, _⟩) (v := .int .i64 p) rfl (by kernel_rfl) (by kernel_rfl) (by kernel_rfl) (fun _ _ _ h => h) (Or.inl ⟨by rfl, fun W hS => by (obtain ⟨s0, s1, s2⟩ := hS; go_simp)⟩) HS1.out ?_
        simp only [Act.put, List.setIfInBounds_toArray, List.set_cons_zero, List.set_cons_succ]
        refine wpAnyH_take (i := 5) (oi := ⟨some 43, _, _, _, _, _⟩) (v := .pointer (some ⟨b, off + p * 4, none⟩)) rfl (by kernel_rfl) (by kernel_rfl) (by kernel_rfl) (fun _ _ _ h => h) (Or.inl ⟨by rfl, fun W hS => by (obtain ⟨s0, s1, s2⟩ := hS; go_simp)⟩) HS1.out ?_
        simp only [Act.put, List.setIfInBounds_toArray, List.set_cons_zero, List.set_cons_succ]
        refine wpAnyH_take (i := 6) (oi := ⟨some 44, _, _, _, _, _⟩) (v := .pointer (some ⟨b, off + p * 4, none⟩)) rfl (by kernel_rfl) (by kernel_rfl) (by kernel_rfl) (fun _ _ _ h => h) (Or.inl ⟨by rfl, fun W hS => by (obtain ⟨s0, s1, s2⟩ := hS; go_simp)⟩) HS1.out ?_
        simp only [Act.put, List.setIfInBounds_toArray, List.set_cons_zero, List.set_cons_succ]
        refine wpAnyH_take (i := 7) (oi := ⟨some 45, _, _, _, _, _⟩) (v := .int .i64 xo) rfl (by kernel_rfl) (by kernel_rfl) (by kernel_rfl) (fun _ _ _ h => h) (Or.inl ⟨by rfl, fun W hS => by (obtain ⟨s0, s1, s2⟩ := hS; go_simp)⟩) HS1.out ?_
        simp only [Act.put, List.setIfInBounds_toArray, List.set_cons_zero, List.set_cons_succ]
        refine wpAnyH_take (i := 10) (oi := ⟨some 48, _, _, _, _, _⟩) (v := .slice (some ⟨b, off, none⟩) ls.length lc) rfl (by kernel_rfl) (by kernel_rfl) (by kernel_rfl) (fun _ _ _ h => h) (Or.inl ⟨by rfl, fun W hS => by (obtain ⟨s0, s1, s2⟩ := hS; go_simp)⟩) HS1.out ?_
        simp only [Act.put, List.setIfInBounds_toArray, List.set_cons_zero, List.set_cons_succ]
        refine wpAnyH_take (i := 11) (oi := ⟨some 49, _, _, _, _, _⟩) (v := .int .i64 p) rfl (by kernel_rfl) (by kernel_rfl) (by kernel_rfl) (fun _ _ _ h => h) (Or.inl ⟨by rfl, fun W hS => by (obtain ⟨s0, s1, s2⟩ := hS; go_simp)⟩) HS1.out ?_
        simp only [Act.put, List.setIfInBounds_toArray, List.set_cons_zero, List.set_cons_succ]
        refine wpAnyH_take (i := 12) (oi := ⟨some 50, _, _, _, _, _⟩) (v := .pointer (some ⟨b, off + p * 4, none⟩)) rfl (by kernel_rfl) (by kernel_rfl) (by kernel_rfl) (fun _ _ _ h => h) (Or.inl ⟨by rfl, fun W hS => by (obtain ⟨s0, s1, s2⟩ := hS; go_simp)⟩) HS1.out ?_
        simp only [Act.put, List.setIfInBounds_toArray, List.set_cons_zero, List.set_cons_succ]
        refine wpAnyH_take (i := 13) (oi := ⟨some 51, _, _, _, _, _⟩) (v := .pointer (some ⟨b, off + p * 4 + 1, none⟩)) rfl (by kernel_rfl) (by kernel_rfl) (by kernel_rfl) (fun _ _ _ h => h) (Or.inl ⟨by rfl, fun W hS => by (obtain ⟨s0, s1, s2⟩ := hS; go_simp)⟩) HS1.out ?_
        simp only [Act.put, List.setIfInBounds_toArray, List.set_cons_zero, List.set_cons_succ]
        refine wpAnyH_take (i := 14) (oi := ⟨some 52, _, _, _, _, _⟩) (v := .int .i64 xa) rfl (by kernel_rfl) (by kernel_rfl) (by kernel_rfl) (fun _ _ _ h => h) (Or.inl ⟨by rfl, fun W hS => by (obtain ⟨s0, s1, s2⟩ := hS; go_simp)⟩) HS1.out ?_
        simp only [Act.put, List.setIfInBounds_toArray, List.set_cons_zero, List.set_cons_succ]
        refine wpAnyH_take (i := 15) (oi := ⟨some 53, _, _, _, _, _⟩) (v := .int .i64 ms.length) rfl (by kernel_rfl) (by kernel_rfl) (by kernel_rfl) (fun _ _ _ h => h) (Or.inl ⟨by rfl, fun W hS => by (obtain ⟨s0, s1, s2⟩ := hS; go_simp)⟩) HS1.out ?_
        simp only [Act.put, List.setIfInBounds_toArray, List.set_cons_zero, List.set_cons_succ]
        refine wpAnyH_take (i := 17) (oi := ⟨some 55, _, _, _, _, _⟩) (v := .slice (some ⟨b, off, none⟩) ls.length lc) rfl (by kernel_rfl) (by kernel_rfl) (by kernel_rfl) (fun _ _ _ h => h) (Or.inl ⟨by rfl, fun W hS => by (obtain ⟨s0, s1, s2⟩ := hS; go_simp)⟩) HS1.out ?_
        simp only [Act.put, List.setIfInBounds_toArray, List.set_cons_zero, List.set_cons_succ]
        refine wpAnyH_take (i := 18) (oi := ⟨some 56, _, _, _, _, _⟩) (v := .int .i64 p) rfl (by kernel_rfl) (by kernel_rfl) (by kernel_rfl) (fun _ _ _ h => h) (Or.inl ⟨by rfl, fun W hS => by (obtain ⟨s0, s1, s2⟩ := hS; go_simp)⟩) HS1.out ?_
        simp only [Act.put, List.setIfInBounds_toArray, List.set_cons_zero, List.set_cons_succ]
        refine wpAnyH_take (i := 19) (oi := ⟨some 57, _, _, _, _, _⟩) (v := .pointer (some ⟨b, off + p * 4, none⟩)) rfl (by kernel_rfl) (by kernel_rfl) (by kernel_rfl) (fun _ _ _ h => h) (Or.inl ⟨by rfl, fun W hS => by (obtain ⟨s0, s1, s2⟩ := hS; go_simp)⟩) HS1.out ?_
        simp only [Act.put, List.setIfInBounds_toArray, List.set_cons_zero, List.set_cons_succ]
        refine wpAnyH_take (i := 20) (oi := ⟨some 58, _, _, _, _, _⟩) (v := .pointer (some ⟨b, off + p * 4 + 2, none⟩)) rfl (by kernel_rfl) (by kernel_rfl) (by kernel_rfl) (fun _ _ _ h => h) (Or.inl ⟨by rfl, fun W hS => by (obtain ⟨s0, s1, s2⟩ := hS; go_simp)⟩) HS1.out ?_
        simp only [Act.put, List.setIfInBounds_toArray, List.set_cons_zero, List.set_cons_succ]
        refine wpAnyH_take (i := 21) (oi := ⟨some 59, _, _, _, _, _⟩) (v := .int .i64 xb) rfl (by kernel_rfl) (by kernel_rfl) (by kernel_rfl) (fun _ _ _ h => h) (Or.inl ⟨by rfl, fun W hS => by (obtain ⟨s0, s1, s2⟩ := hS; go_simp)⟩) HS1.out ?_
        simp only [Act.put, List.setIfInBounds_toArray, List.set_cons_zero, List.set_cons_succ]
        refine wpAnyH_take (i := 22) (oi := ⟨some 60, _, _, _, _, _⟩) (v := .int .i64 ms.length) rfl (by kernel_rfl) (by kernel_rfl) (by kernel_rfl) (fun _ _ _ h => h) (Or.inl ⟨by rfl, fun W hS => by (obtain ⟨s0, s1, s2⟩ := hS; go_simp)⟩) HS1.out ?_
        simp only [Act.put, List.setIfInBounds_toArray, List.set_cons_zero, List.set_cons_succ]
        refine wpAnyH_ready (rs := [1, 8]) (by kernel_rfl) (by simp) ?_
        refine AllReadyH.cons rfl (fun K hK => ?_) (AllReadyH.cons rfl (fun K hK => ?_) AllReadyH.nil)
        · go_simp
          refine hK.out _ _ HS1.out (fun _ => ?_)
          clear hK K
          refine wpAnyH_ready (rs := [8]) (by kernel_rfl) (by simp) ?_
          refine AllReadyH.cons rfl (fun K hK => ?_) AllReadyH.nil
          go_simp
          refine (HPK.out _).mono ?_
          rintro e w' ⟨rfl, rfl⟩
          refine hK.out _ _ HS1.out (fun _ => ?_)
          clear hK K
          refine wpAnyH_take (i := 9) (oi := ⟨some 47, _, _, _, _, _⟩) (v := .int .i64 5) rfl (by kernel_rfl) (by kernel_rfl) (by kernel_rfl) (fun _ _ _ h => h) (Or.inl ⟨by rfl, fun W hS => by (obtain ⟨s0, s1, s2⟩ := hS; go_simp; try rfl)⟩) HS1.out ?_
          simp only [Act.put, List.setIfInBounds_toArray, List.set_cons_zero, List.set_cons_succ]
          refine wpAnyH_ready (rs := [16]) (by kernel_rfl) (by simp) ?_
          refine AllReadyH.cons rfl (fun K hK => ?_) AllReadyH.nil
          go_simp
          refine (HPKa.out _).mono ?_
          rintro e w' ⟨rfl, rfl⟩
          refine hK.out _ _ HS1.out (fun _ => ?_)
          clear hK K
          refine wpAnyH_ready (rs := [23]) (by kernel_rfl) (by simp) ?_
          refine AllReadyH.cons rfl (fun K hK => ?_) AllReadyH.nil
          go_simp
          refine (HPKb.out _).mono ?_
          rintro e w' ⟨rfl, rfl⟩
          refine hK.out _ _ HS1.out (fun _ => ?_)
          clear hK K
          refine wpAnyH_take (i := 24) (oi := ⟨some 62, _, _, _, _, _⟩) (v := .agg #[.int .i64 5, .int .i64 pa, .int .i64 pb, .int .i64 0]) rfl (by kernel_rfl) (by kernel_rfl) (by kernel_rfl) (fun _ _ _ h => h) (Or.inl ⟨by rfl, fun W hS => by (obtain ⟨s0, s1, s2⟩ := hS; go_simp)⟩) HS1.out ?_
          simp only [Act.put, List.setIfInBounds_toArray, List.set_cons_zero, List.set_cons_succ]
          refine wpAnyH_ready (rs := [25]) (by kernel_rfl) (by simp) ?_
          refine AllReadyH.cons rfl (fun K hK => ?_) AllReadyH.nil
          go_simp
          refine hK.out _ _ HSa.out (fun _ => ?_)
          clear hK K
          refine wpAnyH_ready (rs := [26]) (by kernel_rfl) (by simp) ?_
          refine AllReadyH.cons rfl (fun K hK => ?_) AllReadyH.nil
          refine (if_pos (by kernel_rfl)).mpr ?_
          refine wp_append_run happ _ _ rfl rfl rfl ?_
          simp only [Act.put, List.setIfInBounds_toArray, List.set_cons_zero, List.set_cons_succ, List.getElem_toArray, List.getElem_cons_succ, List.getElem_cons_zero]
          refine hK.out _ _ HSb.out (fun _ => ?_)
          clear hK K happ
          refine wpAnyH_take (i := 27) (oi := ⟨some 65, _, _, _, _, _⟩) (v := .pointer (some ⟨w1.heap.size + 1, 1, none⟩)) rfl (by kernel_rfl) (by kernel_rfl) (by kernel_rfl) (fun _ _ _ h => h) (Or.inl ⟨by rfl, fun W hS => by (obtain ⟨s0, s1, s2⟩ := hS; go_simp)⟩) HSb.out ?_
          simp only [Act.put, List.setIfInBounds_toArray, List.set_cons_zero, List.set_cons_succ]
          refine wpAnyH_ready (rs := [28]) (by kernel_rfl) (by simp) ?_
          refine AllReadyH.cons rfl (fun K hK => ?_) AllReadyH.nil
          go_simp
          refine hK.out _ _ HSc.out (fun _ => ?_)
          clear hK K
          refine wpAnyH_done (by kernel_rfl) ?_ _
          clear c0 c0a c3 fz
          go_wp2_with fail
          exact ⟨⟨p + 1, na', nc', ms ++ [(⟨5, pa, pb, 0⟩ : Nd)], by omega, by go_num, by have := HML.out; simp only [List.length_append, List.length_cons, List.length_nil]; omega, hide (HGK.out.snoc (.inl rfl) HPA.out HPB.out), HNEW⟩, by simp [intOf]; omega⟩
        · go_simp
          refine (HPK.out _).mono ?_
          rintro e w' ⟨rfl, rfl⟩
          refine hK.out _ _ HS1.out (fun _ => ?_)
          clear hK K
          refine wpAnyH_take (i := 9) (oi := ⟨some 47, _, _, _, _, _⟩) (v := .int .i64 5) rfl (by kernel_rfl) (by kernel_rfl) (by kernel_rfl) (fun _ _ _ h => h) (Or.inl ⟨by rfl, fun W hS => by (obtain ⟨s0, s1, s2⟩ := hS; go_simp; try rfl)⟩) HS1.out ?_
          simp only [Act.put, List.setIfInBounds_toArray, List.set_cons_zero, List.set_cons_succ]
          refine wpAnyH_ready (rs := [1, 16]) (by kernel_rfl) (by simp) ?_
          refine AllReadyH.cons rfl (fun K hK => ?_) (AllReadyH.cons rfl (fun K hK => ?_) AllReadyH.nil)
          · go_simp
            refine hK.out _ _ HS1.out (fun _ => ?_)
            clear hK K
            refine wpAnyH_ready (rs := [16]) (by kernel_rfl) (by simp) ?_
            refine AllReadyH.cons rfl (fun K hK => ?_) AllReadyH.nil
            go_simp
            refine (HPKa.out _).mono ?_
            rintro e w' ⟨rfl, rfl⟩
            refine hK.out _ _ HS1.out (fun _ => ?_)
            clear hK K
            refine wpAnyH_ready (rs := [23]) (by kernel_rfl) (by simp) ?_
            refine AllReadyH.cons rfl (fun K hK => ?_) AllReadyH.nil
            go_simp
            refine (HPKb.out _).mono ?_
            rintro e w' ⟨rfl, rfl⟩
            refine hK.out _ _ HS1.out (fun _ => ?_)
            clear hK K
            refine wpAnyH_take (i := 24) (oi := ⟨some 62, _, _, _, _, _⟩) (v := .agg #[.int .i64 5, .int .i64 pa, .int .i64 pb, .int .i64 0]) rfl (by kernel_rfl) (by kernel_rfl) (by kernel_rfl) (fun _ _ _ h => h) (Or.inl ⟨by rfl, fun W hS => by (obtain ⟨s0, s1, s2⟩ := hS; go_simp)⟩) HS1.out ?_
            simp only [Act.put, List.setIfInBounds_toArray, List.set_cons_zero, List.set_cons_succ]
            refine wpAnyH_ready (rs := [25]) (by kernel_rfl) (by simp) ?_
            refine AllReadyH.cons rfl (fun K hK => ?_) AllReadyH.nil
            go_simp
            refine hK.out _ _ HSa.out (fun _ => ?_)
            clear hK K
            refine wpAnyH_ready (rs := [26]) (by kernel_rfl) (by simp) ?_
            refine AllReadyH.cons rfl (fun K hK => ?_) AllReadyH.nil
            refine (if_pos (by kernel_rfl)).mpr ?_
            refine wp_append_run happ _ _ rfl rfl rfl ?_
            simp only [Act.put, List.setIfInBounds_toArray, List.set_cons_zero, List.set_cons_succ, List.getElem_toArray, List.getElem_cons_succ, List.getElem_cons_zero]
            refine hK.out _ _ HSb.out (fun _ => ?_)
            clear hK K happ
            refine wpAnyH_take (i := 27) (oi := ⟨some 65, _, _, _, _, _⟩) (v := .pointer (some ⟨w1.heap.size + 1, 1, none⟩)) rfl (by kernel_rfl) (by kernel_rfl) (by kernel_rfl) (fun _ _ _ h => h) (Or.inl ⟨by rfl, fun W hS => by (obtain ⟨s0, s1, s2⟩ := hS; go_simp)⟩) HSb.out ?_
            simp only [Act.put, List.setIfInBounds_toArray, List.set_cons_zero, List.set_cons_succ]
            refine wpAnyH_ready (rs := [28]) (by kernel_rfl) (by simp) ?_
            refine AllReadyH.cons rfl (fun K hK => ?_) AllReadyH.nil
            go_simp
            refine hK.out _ _ HSc.out (fun _ => ?_)
            clear hK K
            refine wpAnyH_done (by kernel_rfl) ?_ _
            clear c0 c0a c3 fz
            go_wp2_with fail
            exact ⟨⟨p + 1, na', nc', ms ++ [(⟨5, pa, pb, 0⟩ : Nd)], by omega, by go_num, by have := HML.out; simp only [List.length_append, List.length_cons, List.length_nil]; omega, hide (HGK.out.snoc (.inl rfl) HPA.out HPB.out), HNEW⟩, by simp [intOf]; omega⟩
          · go_simp
            refine (HPKa.out _).mono ?_
            rintro e w' ⟨rfl, rfl⟩
            refine hK.out _ _ HS1.out (fun _ => ?_)
            clear hK K
            refine wpAnyH_ready (rs := [1, 23]) (by kernel_rfl) (by simp) ?_
            refine AllReadyH.cons rfl (fun K hK => ?_) (AllReadyH.cons rfl (fun K hK => ?_) AllReadyH.nil)
            · go_simp
              refine hK.out _ _ HS1.out (fun _ => ?_)
              clear hK K
              refine wpAnyH_ready (rs := [23]) (by kernel_rfl) (by simp) ?_
              refine AllReadyH.cons rfl (fun K hK => ?_) AllReadyH.nil
              go_simp
              refine (HPKb.out _).mono ?_
              rintro e w' ⟨rfl, rfl⟩
              refine hK.out _ _ HS1.out (fun _ => ?_)
              clear hK K
              refine wpAnyH_take (i := 24) (oi := ⟨some 62, _, _, _, _, _⟩) (v := .agg #[.int .i64 5, .int .i64 pa, .int .i64 pb, .int .i64 0]) rfl (by kernel_rfl) (by kernel_rfl) (by kernel_rfl) (fun _ _ _ h => h) (Or.inl ⟨by rfl, fun W hS => by (obtain ⟨s0, s1, s2⟩ := hS; go_simp)⟩) HS1.out ?_
              simp only [Act.put, List.setIfInBounds_toArray, List.set_cons_zero, List.set_cons_succ]
              refine wpAnyH_ready (rs := [25]) (by kernel_rfl) (by simp) ?_
              refine AllReadyH.cons rfl (fun K hK => ?_) AllReadyH.nil
              go_simp
              refine hK.out _ _ HSa.out (fun _ => ?_)
              clear hK K
              refine wpAnyH_ready (rs := [26]) (by kernel_rfl) (by simp) ?_
              refine AllReadyH.cons rfl (fun K hK => ?_) AllReadyH.nil
              refine (if_pos (by kernel_rfl)).mpr ?_
              refine wp_append_run happ _ _ rfl rfl rfl ?_
              simp only [Act.put, List.setIfInBounds_toArray, List.set_cons_zero, List.set_cons_succ, List.getElem_toArray, List.getElem_cons_succ, List.getElem_cons_zero]
              refine hK.out _ _ HSb.out (fun _ => ?_)
              clear hK K happ
              refine wpAnyH_take (i := 27) (oi := ⟨some 65, _, _, _, _, _⟩) (v := .pointer (some ⟨w1.heap.size + 1, 1, none⟩)) rfl (by kernel_rfl) (by kernel_rfl) (by kernel_rfl) (fun _ _ _ h => h) (Or.inl ⟨by rfl, fun W hS => by (obtain ⟨s0, s1, s2⟩ := hS; go_simp)⟩) HSb.out ?_
              simp only [Act.put, List.setIfInBounds_toArray, List.set_cons_zero, List.set_cons_succ]
              refine wpAnyH_ready (rs := [28]) (by kernel_rfl) (by simp) ?_
              refine AllReadyH.cons rfl (fun K hK => ?_) AllReadyH.nil
              go_simp
              refine hK.out _ _ HSc.out (fun _ => ?_)
              clear hK K
              refine wpAnyH_done (by kernel_rfl) ?_ _
              clear c0 c0a c3 fz
              go_wp2_with fail
              exact ⟨⟨p + 1, na', nc', ms ++ [(⟨5, pa, pb, 0⟩ : Nd)], by omega, by go_num, by have := HML.out; simp only [List.length_append, List.length_cons, List.length_nil]; omega, hide (HGK.out.snoc (.inl rfl) HPA.out HPB.out), HNEW⟩, by simp [intOf]; omega⟩
            · go_simp
              refine (HPKb.out _).mono ?_
              rintro e w' ⟨rfl, rfl⟩
              refine hK.out _ _ HS1.out (fun _ => ?_)
              clear hK K
              refine wpAnyH_take (i := 24) (oi := ⟨some 62, _, _, _, _, _⟩) (v := .agg #[.int .i64 5, .int .i64 pa, .int .i64 pb, .int .i64 0]) rfl (by kernel_rfl) (by kernel_rfl) (by kernel_rfl) (fun _ _ _ h => h) (Or.inl ⟨by rfl, fun W hS => by (obtain ⟨s0, s1, s2⟩ := hS; go_simp)⟩) HS1.out ?_
              simp only [Act.put, List.setIfInBounds_toArray, List.set_cons_zero, List.set_cons_succ]
              refine wpAnyH_ready (rs := [1, 25]) (by kernel_rfl) (by simp) ?_
              refine AllReadyH.cons rfl (fun K hK => ?_) (AllReadyH.cons rfl (fun K hK => ?_) AllReadyH.nil)
              · go_simp
                refine hK.out _ _ HS1.out (fun _ => ?_)
                clear hK K
                refine wpAnyH_ready (rs := [25]) (by kernel_rfl) (by simp) ?_
                refine AllReadyH.cons rfl (fun K hK => ?_) AllReadyH.nil
                go_simp
                refine hK.out _ _ HSa.out (fun _ => ?_)
                clear hK K
                refine wpAnyH_ready (rs := [26]) (by kernel_rfl) (by simp) ?_
                refine AllReadyH.cons rfl (fun K hK => ?_) AllReadyH.nil
                refine (if_pos (by kernel_rfl)).mpr ?_
                refine wp_append_run happ _ _ rfl rfl rfl ?_
                simp only [Act.put, List.setIfInBounds_toArray, List.set_cons_zero, List.set_cons_succ, List.getElem_toArray, List.getElem_cons_succ, List.getElem_cons_zero]
                refine hK.out _ _ HSb.out (fun _ => ?_)
                clear hK K happ
                refine wpAnyH_take (i := 27) (oi := ⟨some 65, _, _, _, _, _⟩) (v := .pointer (some ⟨w1.heap.size + 1, 1, none⟩)) rfl (by kernel_rfl) (by kernel_rfl) (by kernel_rfl) (fun _ _ _ h => h) (Or.inl ⟨by rfl, fun W hS => by (obtain ⟨s0, s1, s2⟩ := hS; go_simp)⟩) HSb.out ?_
                simp only [Act.put, List.setIfInBounds_toArray, List.set_cons_zero, List.set_cons_succ]
                refine wpAnyH_ready (rs := [28]) (by kernel_rfl) (by simp) ?_
                refine AllReadyH.cons rfl (fun K hK => ?_) AllReadyH.nil
                go_simp
                refine hK.out _ _ HSc.out (fun _ => ?_)
                clear hK K
                refine wpAnyH_done (by kernel_rfl) ?_ _
                clear c0 c0a c3 fz
                go_wp2_with fail
                exact ⟨⟨p + 1, na', nc', ms ++ [(⟨5, pa, pb, 0⟩ : Nd)], by omega, by go_num, by have := HML.out; simp only [List.length_append, List.length_cons, List.length_nil]; omega, hide (HGK.out.snoc (.inl rfl) HPA.out HPB.out), HNEW⟩, by simp [intOf]; omega⟩
              · go_simp
                refine hK.out _ _ HSa.out (fun _ => ?_)
                clear hK K
                refine wpAnyH_ready (rs := [1]) (by kernel_rfl) (by simp) ?_
                refine AllReadyH.cons rfl (fun K hK => ?_) AllReadyH.nil
                go_simp
                refine hK.out _ _ HSa.out (fun _ => ?_)
                clear hK K
                refine wpAnyH_ready (rs := [26]) (by kernel_rfl) (by simp) ?_
                refine AllReadyH.cons rfl (fun K hK => ?_) AllReadyH.nil
                refine (if_pos (by kernel_rfl)).mpr ?_
                refine wp_append_run happ _ _ rfl rfl rfl ?_
                simp only [Act.put, List.setIfInBounds_toArray, List.set_cons_zero, List.set_cons_succ, List.getElem_toArray, List.getElem_cons_succ, List.getElem_cons_zero]
                refine hK.out _ _ HSb.out (fun _ => ?_)
                clear hK K happ
                refine wpAnyH_take (i := 27) (oi := ⟨some 65, _, _, _, _, _⟩) (v := .pointer (some ⟨w1.heap.size + 1, 1, none⟩)) rfl (by kernel_rfl) (by kernel_rfl) (by kernel_rfl) (fun _ _ _ h => h) (Or.inl ⟨by rfl, fun W hS => by (obtain ⟨s0, s1, s2⟩ := hS; go_simp)⟩) HSb.out ?_
                simp only [Act.put, List.setIfInBounds_toArray, List.set_cons_zero, List.set_cons_succ]
                refine wpAnyH_ready (rs := [28]) (by kernel_rfl) (by simp) ?_
                refine AllReadyH.cons rfl (fun K hK => ?_) AllReadyH.nil
                go_simp
                refine hK.out _ _ HSc.out (fun _ => ?_)
                clear hK K
                refine wpAnyH_done (by kernel_rfl) ?_ _
                clear c0 c0a c3 fz
                go_wp2_with fail
                exact ⟨⟨p + 1, na', nc', ms ++ [(⟨5, pa, pb, 0⟩ : Nd)], by omega, by go_num, by have := HML.out; simp only [List.length_append, List.length_cons, List.length_nil]; omega, hide (HGK.out.snoc (.inl rfl) HPA.out HPB.out), HNEW⟩, by simp [intOf]; omega⟩
      · have c1x := c1
        go_wp2_with fail
        clear c1 c1x
        have HSW : Hid (∀ W, Below wr.heap.size wr W → (fun W : World => W.cell? ⟨b, off + p * 4, none⟩ = some (.int .i64 xo) ∧ W.cell? ⟨b, off + p * 4 + 1, none⟩ = some (.int .i64 xa) ∧ W.cell? ⟨b, off + p * 4 + 2, none⟩ = some (.int .i64 xb)) W) := hide fun W hb => ⟨bcell hb n0, bcell hb n1, bcell hb n2⟩
        have HBd : Hid (Below wr.heap.size wr wr.drew) := hide (Below.refl _ _).drew
        refine wp_region_held_drew (S := (fun W : World => W.cell? ⟨b, off + p * 4, none⟩ = some (.int .i64 xo) ∧ W.cell? ⟨b, off + p * 4 + 1, none⟩ = some (.int .i64 xa) ∧ W.cell? ⟨b, off + p * 4 + 2, none⟩ = some (.int .i64 xb))) (by kernel_rfl) (HSW.out _ HBd.out) (fun _ => ?_)
        have HBLd := hide (hbl.out.more HBd.out)
        generalize hwd : wr.drew = wd at *
        clear hwd
        have HBa := hide (below_alloc wd (.cells #[.int .i64 6, .int .i64 pa, .int .i64 pb, .int .i64 0] 26))
        have HEa := hide (blk_new wd (.cells #[.int .i64 6, .int .i64 pa, .int .i64 pb, .int .i64 0] 26))
        obtain ⟨na', nc', w3, happ, hm, hg, hnb⟩ := app_nd (c := 1) (n' := ms.length + 1) (HBLd.out.nodes.below HBa.out) rfl (new := [(⟨6, pa, pb, 0⟩ : Nd)]) (m := 1) rfl rfl (Lies.blk (cs := ndsC [(⟨6, pa, pb, 0⟩ : Nd)]) HEa.out trivial) (Nat.le_trans HBLd.out.hB HBa.out.size) (by have := HML.out; omega)
        have hgw : wd.grownBy w3 (Value.slice na ms.length nc).ownBlock := ⟨hg.os.trans HBa.out.os, hg.tape.trans HBa.out.tape, hg.output.trans HBa.out.output, Nat.le_trans HBa.out.size hg.size, fun k hk hne => (hg.block k (Nat.lt_of_lt_of_le hk HBa.out.size) hne).trans (HBa.out.block k hk)⟩
        have HNEW := hide (HBLd.out.addN (new := [(⟨6, pa, pb, 0⟩ : Nd)]) (by rw [List.length_append]; rfl) hm hgw (fun b hb => (hnb b hb).imp id (fun h => Nat.le_trans HBa.out.size h)))
        have hML := blk_lt HBLd.out.me
        have hM3 : w3.heap[w1.heap.size + 1]? = wd.heap[w1.heap.size + 1]? := hgw.block _ hML fun e => HBLd.out.dn _ e.symm rfl
        have c0 : wd.cell? ⟨w1.heap.size + 1, 1, none⟩ = some (.slice na ms.length nc) := by rw [blk_cell HBLd.out.me]; rfl
        have c0a := cell_alloc c0 (.cells #[.int .i64 6, .int .i64 pa, .int .i64 pb, .int .i64 0] 26)
        have c3 : w3.cell? ⟨w1.heap.size + 1, 1, none⟩ = some (.slice na ms.length nc) := by rw [blk_cell (hM3.trans HBLd.out.me)]; rfl
        have fz := blk_frozen (hM3.trans HBLd.out.me) 1
        have HS1 := hide (HSW.out _ HBd.out)
        have HSa := hide (HSW.out _ (Below.step HBd.out HBa.out))
        have keep : ∀ (a : Addr) (v : Value), a.block < w1.heap.size → wd.cell? a = some v → w3.cell? a = some v := fun a v hl hc => (World.cell?_of_block (hgw.block a.block (cell_lt hc) fun e => by have := HBLd.out.nodes.new _ e.symm; omega)).trans hc
        have HSb : Hid ((fun W : World => W.cell? ⟨b, off + p * 4, none⟩ = some (.int .i64 xo) ∧ W.cell? ⟨b, off + p * 4 + 1, none⟩ = some (.int .i64 xa) ∧ W.cell? ⟨b, off + p * 4 + 2, none⟩ = some (.int .i64 xb)) w3) := hide ⟨keep _ _ HLOW.out (HSW.out _ HBd.out).1, keep _ _ HLOW.out (HSW.out _ HBd.out).2.1, keep _ _ HLOW.out (HSW.out _ HBd.out).2.2⟩
        have HSc : Hid ((fun W : World => W.cell? ⟨b, off + p * 4, none⟩ = some (.int .i64 xo) ∧ W.cell? ⟨b, off + p * 4 + 1, none⟩ = some (.int .i64 xa) ∧ W.cell? ⟨b, off + p * 4 + 2, none⟩ = some (.int .i64 xb)) (w3.setCell ⟨w1.heap.size + 1, 1, none⟩ (.slice na' (ms.length + 1) nc'))) := hide (by
          have st : ∀ (a : Addr) (v : Value), a.block < w1.heap.size → w3.cell? a = some v → (w3.setCell ⟨w1.heap.size + 1, 1, none⟩ (.slice na' (ms.length + 1) nc')).cell? a = some v := fun a v hl hc => (World.cell?_of_block (Below.heap_setCell _ _ _ _ (by show a.block ≠ w1.heap.size + 1; omega))).trans hc
          exact ⟨st _ _ HLOW.out HSb.out.1, st _ _ HLOW.out HSb.out.2.1, st _ _ HLOW.out HSb.out.2.2⟩)
        clear hm hg hnb hgw hM3 keep hML
        refine wpAnyH_take (i := 0) (oi := ⟨some 38, _, _, _, _, _⟩) (v := .pointer (some ⟨w1.heap.size + 1, 1, none⟩)) rfl (by kernel_rfl) (by kernel_rfl) (by kernel_rfl) (fun _ _ _ h => h) (Or.inl ⟨by rfl, fun W hS => by (obtain ⟨s0, s1, s2⟩ := hS; go_simp)⟩) HS1.out ?_
        simp only [Act.put, List.setIfInBounds_toArray, List.set_cons_zero, List.set_cons_succ]
        refine wpAnyH_take (i := 2) (oi := ⟨some 40, _, _, _, _, _⟩) (v := .agg #[.int .i64 5, .int .i64 6, .int .i64 7, .int .i64 8]) rfl (by kernel_rfl) (by kernel_rfl) (by kernel_rfl) (fun _ _ _ h => h) (Or.inl ⟨by rfl, fun W hS => by (obtain ⟨s0, s1, s2⟩ := hS; go_simp)⟩) HS1.out ?_
        simp only [Act.put, List.setIfInBounds_toArray, List.set_cons_zero, List.set_cons_succ]
        refine wpAnyH_take (i := 3) (oi := ⟨some 41, _, _, _, _, _⟩) (v := .slice (some ⟨b, off, none⟩) ls.length lc) rfl (by kernel_rfl) (by kernel_rfl) (by kernel_rfl) (fun _ _ _ h => h) (Or.inl ⟨by rfl, fun W hS => by (obtain ⟨s0, s1, s2⟩ := hS; go_simp)⟩) HS1.out ?_
        simp only [Act.put, List.setIfInBounds_toArray, List.set_cons_zero, List.set_cons_succ]
        refine wpAnyH_take (i := 4) (oi := ⟨some 42, _, _, _, _, _⟩) (v := .int .i64 p) rfl (by kernel_rfl) (by kernel_rfl) (by kernel_rfl) (fun _ _ _ h => h) (Or.inl ⟨by rfl, fun W hS => by (obtain ⟨s0, s1, s2⟩ := hS; go_simp)⟩) HS1.out ?_
        simp only [Act.put, List.setIfInBounds_toArray, List.set_cons_zero, List.set_cons_succ]
        refine wpAnyH_take (i := 5) (oi := ⟨some 43, _, _, _, _, _⟩) (v := .pointer (some ⟨b, off + p * 4, none⟩)) rfl (by kernel_rfl) (by kernel_rfl) (by kernel_rfl) (fun _ _ _ h => h) (Or.inl ⟨by rfl, fun W hS => by (obtain ⟨s0, s1, s2⟩ := hS; go_simp)⟩) HS1.out ?_
        simp only [Act.put, List.setIfInBounds_toArray, List.set_cons_zero, List.set_cons_succ]
        refine wpAnyH_take (i := 6) (oi := ⟨some 44, _, _, _, _, _⟩) (v := .pointer (some ⟨b, off + p * 4, none⟩)) rfl (by kernel_rfl) (by kernel_rfl) (by kernel_rfl) (fun _ _ _ h => h) (Or.inl ⟨by rfl, fun W hS => by (obtain ⟨s0, s1, s2⟩ := hS; go_simp)⟩) HS1.out ?_
        simp only [Act.put, List.setIfInBounds_toArray, List.set_cons_zero, List.set_cons_succ]
        refine wpAnyH_take (i := 7) (oi := ⟨some 45, _, _, _, _, _⟩) (v := .int .i64 xo) rfl (by kernel_rfl) (by kernel_rfl) (by kernel_rfl) (fun _ _ _ h => h) (Or.inl ⟨by rfl, fun W hS => by (obtain ⟨s0, s1, s2⟩ := hS; go_simp)⟩) HS1.out ?_
        simp only [Act.put, List.setIfInBounds_toArray, List.set_cons_zero, List.set_cons_succ]
        refine wpAnyH_take (i := 10) (oi := ⟨some 48, _, _, _, _, _⟩) (v := .slice (some ⟨b, off, none⟩) ls.length lc) rfl (by kernel_rfl) (by kernel_rfl) (by kernel_rfl) (fun _ _ _ h => h) (Or.inl ⟨by rfl, fun W hS => by (obtain ⟨s0, s1, s2⟩ := hS; go_simp)⟩) HS1.out ?_
        simp only [Act.put, List.setIfInBounds_toArray, List.set_cons_zero, List.set_cons_succ]
        refine wpAnyH_take (i := 11) (oi := ⟨some 49, _, _, _, _, _⟩) (v := .int .i64 p) rfl (by kernel_rfl) (by kernel_rfl) (by kernel_rfl) (fun _ _ _ h => h) (Or.inl ⟨by rfl, fun W hS => by (obtain ⟨s0, s1, s2⟩ := hS; go_simp)⟩) HS1.out ?_
        simp only [Act.put, List.setIfInBounds_toArray, List.set_cons_zero, List.set_cons_succ]
        refine wpAnyH_take (i := 12) (oi := ⟨some 50, _, _, _, _, _⟩) (v := .pointer (some ⟨b, off + p * 4, none⟩)) rfl (by kernel_rfl) (by kernel_rfl) (by kernel_rfl) (fun _ _ _ h => h) (Or.inl ⟨by rfl, fun W hS => by (obtain ⟨s0, s1, s2⟩ := hS; go_simp)⟩) HS1.out ?_
        simp only [Act.put, List.setIfInBounds_toArray, List.set_cons_zero, List.set_cons_succ]
        refine wpAnyH_take (i := 13) (oi := ⟨some 51, _, _, _, _, _⟩) (v := .pointer (some ⟨b, off + p * 4 + 1, none⟩)) rfl (by kernel_rfl) (by kernel_rfl) (by kernel_rfl) (fun _ _ _ h => h) (Or.inl ⟨by rfl, fun W hS => by (obtain ⟨s0, s1, s2⟩ := hS; go_simp)⟩) HS1.out ?_
        simp only [Act.put, List.setIfInBounds_toArray, List.set_cons_zero, List.set_cons_succ]
        refine wpAnyH_take (i := 14) (oi := ⟨some 52, _, _, _, _, _⟩) (v := .int .i64 xa) rfl (by kernel_rfl) (by kernel_rfl) (by kernel_rfl) (fun _ _ _ h => h) (Or.inl ⟨by rfl, fun W hS => by (obtain ⟨s0, s1, s2⟩ := hS; go_simp)⟩) HS1.out ?_
        simp only [Act.put, List.setIfInBounds_toArray, List.set_cons_zero, List.set_cons_succ]
        refine wpAnyH_take (i := 15) (oi := ⟨some 53, _, _, _, _, _⟩) (v := .int .i64 ms.length) rfl (by kernel_rfl) (by kernel_rfl) (by kernel_rfl) (fun _ _ _ h => h) (Or.inl ⟨by rfl, fun W hS => by (obtain ⟨s0, s1, s2⟩ := hS; go_simp)⟩) HS1.out ?_
        simp only [Act.put, List.setIfInBounds_toArray, List.set_cons_zero, List.set_cons_succ]
        refine wpAnyH_take (i := 17) (oi := ⟨some 55, _, _, _, _, _⟩) (v := .slice (some ⟨b, off, none⟩) ls.length lc) rfl (by kernel_rfl) (by kernel_rfl) (by kernel_rfl) (fun _ _ _ h => h) (Or.inl ⟨by rfl, fun W hS => by (obtain ⟨s0, s1, s2⟩ := hS; go_simp)⟩) HS1.out ?_
        simp only [Act.put, List.setIfInBounds_toArray, List.set_cons_zero, List.set_cons_succ]
        refine wpAnyH_take (i := 18) (oi := ⟨some 56, _, _, _, _, _⟩) (v := .int .i64 p) rfl (by kernel_rfl) (by kernel_rfl) (by kernel_rfl) (fun _ _ _ h => h) (Or.inl ⟨by rfl, fun W hS => by (obtain ⟨s0, s1, s2⟩ := hS; go_simp)⟩) HS1.out ?_
        simp only [Act.put, List.setIfInBounds_toArray, List.set_cons_zero, List.set_cons_succ]
        refine wpAnyH_take (i := 19) (oi := ⟨some 57, _, _, _, _, _⟩) (v := .pointer (some ⟨b, off + p * 4, none⟩)) rfl (by kernel_rfl) (by kernel_rfl) (by kernel_rfl) (fun _ _ _ h => h) (Or.inl ⟨by rfl, fun W hS => by (obtain ⟨s0, s1, s2⟩ := hS; go_simp)⟩) HS1.out ?_
        simp only [Act.put, List.setIfInBounds_toArray, List.set_cons_zero, List.set_cons_succ]
        refine wpAnyH_take (i := 20) (oi := ⟨some 58, _, _, _, _, _⟩) (v := .pointer (some ⟨b, off + p * 4 + 2, none⟩)) rfl (by kernel_rfl) (by kernel_rfl) (by kernel_rfl) (fun _ _ _ h => h) (Or.inl ⟨by rfl, fun W hS => by (obtain ⟨s0, s1, s2⟩ := hS; go_simp)⟩) HS1.out ?_
        simp only [Act.put, List.setIfInBounds_toArray, List.set_cons_zero, List.set_cons_succ]
        refine wpAnyH_take (i := 21) (oi := ⟨some 59, _, _, _, _, _⟩) (v := .int .i64 xb) rfl (by kernel_rfl) (by kernel_rfl) (by kernel_rfl) (fun _ _ _ h => h) (Or.inl ⟨by rfl, fun W hS => by (obtain ⟨s0, s1, s2⟩ := hS; go_simp)⟩) HS1.out ?_
        simp only [Act.put, List.setIfInBounds_toArray, List.set_cons_zero, List.set_cons_succ]
        refine wpAnyH_take (i := 22) (oi := ⟨some 60, _, _, _, _, _⟩) (v := .int .i64 ms.length) rfl (by kernel_rfl) (by kernel_rfl) (by kernel_rfl) (fun _ _ _ h => h) (Or.inl ⟨by rfl, fun W hS => by (obtain ⟨s0, s1, s2⟩ := hS; go_simp)⟩) HS1.out ?_
        simp only [Act.put, List.setIfInBounds_toArray, List.set_cons_zero, List.set_cons_succ]
        refine wpAnyH_ready (rs := [1, 8]) (by kernel_rfl) (by simp) ?_
        refine AllReadyH.cons rfl (fun K hK => ?_) (AllReadyH.cons rfl (fun K hK => ?_) AllReadyH.nil)
        · go_simp
          refine hK.out _ _ HS1.out (fun _ => ?_)
          clear hK K
          refine wpAnyH_ready (rs := [8]) (by kernel_rfl) (by simp) ?_
          refine AllReadyH.cons rfl (fun K hK => ?_) AllReadyH.nil
          go_simp
          refine (HPK.out _).mono ?_
          rintro e w' ⟨rfl, rfl⟩
          refine hK.out _ _ HS1.out (fun _ => ?_)
          clear hK K
          refine wpAnyH_take (i := 9) (oi := ⟨some 47, _, _, _, _, _⟩) (v := .int .i64 6) rfl (by kernel_rfl) (by kernel_rfl) (by kernel_rfl) (fun _ _ _ h => h) (Or.inl ⟨by rfl, fun W hS => by (obtain ⟨s0, s1, s2⟩ := hS; go_simp; try rfl)⟩) HS1.out ?_
          simp only [Act.put, List.setIfInBounds_toArray, List.set_cons_zero, List.set_cons_succ]
          refine wpAnyH_ready (rs := [16]) (by kernel_rfl) (by simp) ?_
          refine AllReadyH.cons rfl (fun K hK => ?_) AllReadyH.nil
          go_simp
          refine (HPKa.out _).mono ?_
          rintro e w' ⟨rfl, rfl⟩
          refine hK.out _ _ HS1.out (fun _ => ?_)
          clear hK K
          refine wpAnyH_ready (rs := [23]) (by kernel_rfl) (by simp) ?_
          refine AllReadyH.cons rfl (fun K hK => ?_) AllReadyH.nil
          go_simp
          refine (HPKb.out _).mono ?_
          rintro e w' ⟨rfl, rfl⟩
          refine hK.out _ _ HS1.out (fun _ => ?_)
          clear hK K
          refine wpAnyH_take (i := 24) (oi := ⟨some 62, _, _, _, _, _⟩) (v := .agg #[.int .i64 6, .int .i64 pa, .int .i64 pb, .int .i64 0]) rfl (by kernel_rfl) (by kernel_rfl) (by kernel_rfl) (fun _ _ _ h => h) (Or.inl ⟨by rfl, fun W hS => by (obtain ⟨s0, s1, s2⟩ := hS; go_simp)⟩) HS1.out ?_
          simp only [Act.put, List.setIfInBounds_toArray, List.set_cons_zero, List.set_cons_succ]
          refine wpAnyH_ready (rs := [25]) (by kernel_rfl) (by simp) ?_
          refine AllReadyH.cons rfl (fun K hK => ?_) AllReadyH.nil
          go_simp
          refine hK.out _ _ HSa.out (fun _ => ?_)
          clear hK K
          refine wpAnyH_ready (rs := [26]) (by kernel_rfl) (by simp) ?_
          refine AllReadyH.cons rfl (fun K hK => ?_) AllReadyH.nil
          refine (if_pos (by kernel_rfl)).mpr ?_
          refine wp_append_run happ _ _ rfl rfl rfl ?_
          simp only [Act.put, List.setIfInBounds_toArray, List.set_cons_zero, List.set_cons_succ, List.getElem_toArray, List.getElem_cons_succ, List.getElem_cons_zero]
          refine hK.out _ _ HSb.out (fun _ => ?_)
          clear hK K happ
          refine wpAnyH_take (i := 27) (oi := ⟨some 65, _, _, _, _, _⟩) (v := .pointer (some ⟨w1.heap.size + 1, 1, none⟩)) rfl (by kernel_rfl) (by kernel_rfl) (by kernel_rfl) (fun _ _ _ h => h) (Or.inl ⟨by rfl, fun W hS => by (obtain ⟨s0, s1, s2⟩ := hS; go_simp)⟩) HSb.out ?_
          simp only [Act.put, List.setIfInBounds_toArray, List.set_cons_zero, List.set_cons_succ]
          refine wpAnyH_ready (rs := [28]) (by kernel_rfl) (by simp) ?_
          refine AllReadyH.cons rfl (fun K hK => ?_) AllReadyH.nil
          go_simp
          refine hK.out _ _ HSc.out (fun _ => ?_)
          clear hK K
          refine wpAnyH_done (by kernel_rfl) ?_ _
          clear c0 c0a c3 fz
          go_wp2_with fail
          exact ⟨⟨p + 1, na', nc', ms ++ [(⟨6, pa, pb, 0⟩ : Nd)], by omega, by go_num, by have := HML.out; simp only [List.length_append, List.length_cons, List.length_nil]; omega, hide (HGK.out.snoc (.inr (.inl rfl)) HPA.out HPB.out), HNEW⟩, by simp [intOf]; omega⟩
        · go_simp
          refine (HPK.out _).mono ?_
          rintro e w' ⟨rfl, rfl⟩
          refine hK.out _ _ HS1.out (fun _ => ?_)
          clear hK K
          refine wpAnyH_take (i := 9) (oi := ⟨some 47, _, _, _, _, _⟩) (v := .int .i64 6) rfl (by kernel_rfl) (by kernel_rfl) (by kernel_rfl) (fun _ _ _ h => h) (Or.inl ⟨by rfl, fun W hS => by (obtain ⟨s0, s1, s2⟩ := hS; go_simp; try rfl)⟩) HS1.out ?_
          simp only [Act.put, List.setIfInBounds_toArray, List.set_cons_zero, List.set_cons_succ]
          refine wpAnyH_ready (rs := [1, 16]) (by kernel_rfl) (by simp) ?_
          refine AllReadyH.cons rfl (fun K hK => ?_) (AllReadyH.cons rfl (fun K hK => ?_) AllReadyH.nil)
          · go_simp
            refine hK.out _ _ HS1.out (fun _ => ?_)
            clear hK K
            refine wpAnyH_ready (rs := [16]) (by kernel_rfl) (by simp) ?_
            refine AllReadyH.cons rfl (fun K hK => ?_) AllReadyH.nil
            go_simp
            refine (HPKa.out _).mono ?_
            rintro e w' ⟨rfl, rfl⟩
            refine hK.out _ _ HS1.out (fun _ => ?_)
            clear hK K
            refine wpAnyH_ready (rs := [23]) (by kernel_rfl) (by simp) ?_
            refine AllReadyH.cons rfl (fun K hK => ?_) AllReadyH.nil
            go_simp
            refine (HPKb.out _).mono ?_
            rintro e w' ⟨rfl, rfl⟩
            refine hK.out _ _ HS1.out (fun _ => ?_)
            clear hK K
            refine wpAnyH_take (i := 24) (oi := ⟨some 62, _, _, _, _, _⟩) (v := .agg #[.int .i64 6, .int .i64 pa, .int .i64 pb, .int .i64 0]) rfl (by kernel_rfl) (by kernel_rfl) (by kernel_rfl) (fun _ _ _ h => h) (Or.inl ⟨by rfl, fun W hS => by (obtain ⟨s0, s1, s2⟩ := hS; go_simp)⟩) HS1.out ?_
            simp only [Act.put, List.setIfInBounds_toArray, List.set_cons_zero, List.set_cons_succ]
            refine wpAnyH_ready (rs := [25]) (by kernel_rfl) (by simp) ?_
            refine AllReadyH.cons rfl (fun K hK => ?_) AllReadyH.nil
            go_simp
            refine hK.out _ _ HSa.out (fun _ => ?_)
            clear hK K
            refine wpAnyH_ready (rs := [26]) (by kernel_rfl) (by simp) ?_
            refine AllReadyH.cons rfl (fun K hK => ?_) AllReadyH.nil
            refine (if_pos (by kernel_rfl)).mpr ?_
            refine wp_append_run happ _ _ rfl rfl rfl ?_
            simp only [Act.put, List.setIfInBounds_toArray, List.set_cons_zero, List.set_cons_succ, List.getElem_toArray, List.getElem_cons_succ, List.getElem_cons_zero]
            refine hK.out _ _ HSb.out (fun _ => ?_)
            clear hK K happ
            refine wpAnyH_take (i := 27) (oi := ⟨some 65, _, _, _, _, _⟩) (v := .pointer (some ⟨w1.heap.size + 1, 1, none⟩)) rfl (by kernel_rfl) (by kernel_rfl) (by kernel_rfl) (fun _ _ _ h => h) (Or.inl ⟨by rfl, fun W hS => by (obtain ⟨s0, s1, s2⟩ := hS; go_simp)⟩) HSb.out ?_
            simp only [Act.put, List.setIfInBounds_toArray, List.set_cons_zero, List.set_cons_succ]
            refine wpAnyH_ready (rs := [28]) (by kernel_rfl) (by simp) ?_
            refine AllReadyH.cons rfl (fun K hK => ?_) AllReadyH.nil
            go_simp
            refine hK.out _ _ HSc.out (fun _ => ?_)
            clear hK K
            refine wpAnyH_done (by kernel_rfl) ?_ _
            clear c0 c0a c3 fz
            go_wp2_with fail
            exact ⟨⟨p + 1, na', nc', ms ++ [(⟨6, pa, pb, 0⟩ : Nd)], by omega, by go_num, by have := HML.out; simp only [List.length_append, List.length_cons, List.length_nil]; omega, hide (HGK.out.snoc (.inr (.inl rfl)) HPA.out HPB.out), HNEW⟩, by simp [intOf]; omega⟩
          · go_simp
            refine (HPKa.out _).mono ?_
            rintro e w' ⟨rfl, rfl⟩
            refine hK.out _ _ HS1.out (fun _ => ?_)
            clear hK K
            refine wpAnyH_ready (rs := [1, 23]) (by kernel_rfl) (by simp) ?_
            refine AllReadyH.cons rfl (fun K hK => ?_) (AllReadyH.cons rfl (fun K hK => ?_) AllReadyH.nil)
            · go_simp
              refine hK.out _ _ HS1.out (fun _ => ?_)
              clear hK K
              refine wpAnyH_ready (rs := [23]) (by kernel_rfl) (by simp) ?_
              refine AllReadyH.cons rfl (fun K hK => ?_) AllReadyH.nil
              go_simp
              refine (HPKb.out _).mono ?_
              rintro e w' ⟨rfl, rfl⟩
              refine hK.out _ _ HS1.out (fun _ => ?_)
              clear hK K
              refine wpAnyH_take (i := 24) (oi := ⟨some 62, _, _, _, _, _⟩) (v := .agg #[.int .i64 6, .int .i64 pa, .int .i64 pb, .int .i64 0]) rfl (by kernel_rfl) (by kernel_rfl) (by kernel_rfl) (fun _ _ _ h => h) (Or.inl ⟨by rfl, fun W hS => by (obtain ⟨s0, s1, s2⟩ := hS; go_simp)⟩) HS1.out ?_
              simp only [Act.put, List.setIfInBounds_toArray, List.set_cons_zero, List.set_cons_succ]
              refine wpAnyH_ready (rs := [25]) (by kernel_rfl) (by simp) ?_
              refine AllReadyH.cons rfl (fun K hK => ?_) AllReadyH.nil
              go_simp
              refine hK.out _ _ HSa.out (fun _ => ?_)
              clear hK K
              refine wpAnyH_ready (rs := [26]) (by kernel_rfl) (by simp) ?_
              refine AllReadyH.cons rfl (fun K hK => ?_) AllReadyH.nil
              refine (if_pos (by kernel_rfl)).mpr ?_
              refine wp_append_run happ _ _ rfl rfl rfl ?_
              simp only [Act.put, List.setIfInBounds_toArray, List.set_cons_zero, List.set_cons_succ, List.getElem_toArray, List.getElem_cons_succ, List.getElem_cons_zero]
              refine hK.out _ _ HSb.out (fun _ => ?_)
              clear hK K happ
              refine wpAnyH_take (i := 27) (oi := ⟨some 65, _, _, _, _, _⟩) (v := .pointer (some ⟨w1.heap.size + 1, 1, none⟩)) rfl (by kernel_rfl) (by kernel_rfl) (by kernel_rfl) (fun _ _ _ h => h) (Or.inl ⟨by rfl, fun W hS => by (obtain ⟨s0, s1, s2⟩ := hS; go_simp)⟩) HSb.out ?_
              simp only [Act.put, List.setIfInBounds_toArray, List.set_cons_zero, List.set_cons_succ]
              refine wpAnyH_ready (rs := [28]) (by kernel_rfl) (by simp) ?_
              refine AllReadyH.cons rfl (fun K hK => ?_) AllReadyH.nil
              go_simp
              refine hK.out _ _ HSc.out (fun _ => ?_)
              clear hK K
              refine wpAnyH_done (by kernel_rfl) ?_ _
              clear c0 c0a c3 fz
              go_wp2_with fail
              exact ⟨⟨p + 1, na', nc', ms ++ [(⟨6, pa, pb, 0⟩ : Nd)], by omega, by go_num, by have := HML.out; simp only [List.length_append, List.length_cons, List.length_nil]; omega, hide (HGK.out.snoc (.inr (.inl rfl)) HPA.out HPB.out), HNEW⟩, by simp [intOf]; omega⟩
            · go_simp
              refine (HPKb.out _).mono ?_
              rintro e w' ⟨rfl, rfl⟩
              refine hK.out _ _ HS1.out (fun _ => ?_)
              clear hK K
              refine wpAnyH_take (i := 24) (oi := ⟨some 62, _, _, _, _, _⟩) (v := .agg #[.int .i64 6, .int .i64 pa, .int .i64 pb, .int .i64 0]) rfl (by kernel_rfl) (by kernel_rfl) (by kernel_rfl) (fun _ _ _ h => h) (Or.inl ⟨by rfl, fun W hS => by (obtain ⟨s0, s1, s2⟩ := hS; go_simp)⟩) HS1.out ?_
              simp only [Act.put, List.setIfInBounds_toArray, List.set_cons_zero, List.set_cons_succ]
              refine wpAnyH_ready (rs := [1, 25]) (by kernel_rfl) (by simp) ?_
              refine AllReadyH.cons rfl (fun K hK => ?_) (AllReadyH.cons rfl (fun K hK => ?_) AllReadyH.nil)
              · go_simp
                refine hK.out _ _ HS1.out (fun _ => ?_)
                clear hK K
                refine wpAnyH_ready (rs := [25]) (by kernel_rfl) (by simp) ?_
                refine AllReadyH.cons rfl (fun K hK => ?_) AllReadyH.nil
                go_simp
                refine hK.out _ _ HSa.out (fun _ => ?_)
                clear hK K
                refine wpAnyH_ready (rs := [26]) (by kernel_rfl) (by simp) ?_
                refine AllReadyH.cons rfl (fun K hK => ?_) AllReadyH.nil
                refine (if_pos (by kernel_rfl)).mpr ?_
                refine wp_append_run happ _ _ rfl rfl rfl ?_
                simp only [Act.put, List.setIfInBounds_toArray, List.set_cons_zero, List.set_cons_succ, List.getElem_toArray, List.getElem_cons_succ, List.getElem_cons_zero]
                refine hK.out _ _ HSb.out (fun _ => ?_)
                clear hK K happ
                refine wpAnyH_take (i := 27) (oi := ⟨some 65, _, _, _, _, _⟩) (v := .pointer (some ⟨w1.heap.size + 1, 1, none⟩)) rfl (by kernel_rfl) (by kernel_rfl) (by kernel_rfl) (fun _ _ _ h => h) (Or.inl ⟨by rfl, fun W hS => by (obtain ⟨s0, s1, s2⟩ := hS; go_simp)⟩) HSb.out ?_
                simp only [Act.put, List.setIfInBounds_toArray, List.set_cons_zero, List.set_cons_succ]
                refine wpAnyH_ready (rs := [28]) (by kernel_rfl) (by simp) ?_
                refine AllReadyH.cons rfl (fun K hK => ?_) AllReadyH.nil
                go_simp
                refine hK.out _ _ HSc.out (fun _ => ?_)
                clear hK K
                refine wpAnyH_done (by kernel_rfl) ?_ _
                clear c0 c0a c3 fz
                go_wp2_with fail
                exact ⟨⟨p + 1, na', nc', ms ++ [(⟨6, pa, pb, 0⟩ : Nd)], by omega, by go_num, by have := HML.out; simp only [List.length_append, List.length_cons, List.length_nil]; omega, hide (HGK.out.snoc (.inr (.inl rfl)) HPA.out HPB.out), HNEW⟩, by simp [intOf]; omega⟩
              · go_simp
                refine hK.out _ _ HSa.out (fun _ => ?_)
                clear hK K
                refine wpAnyH_ready (rs := [1]) (by kernel_rfl) (by simp) ?_
                refine AllReadyH.cons rfl (fun K hK => ?_) AllReadyH.nil
                go_simp
                refine hK.out _ _ HSa.out (fun _ => ?_)
                clear hK K
                refine wpAnyH_ready (rs := [26]) (by kernel_rfl) (by simp) ?_
                refine AllReadyH.cons rfl (fun K hK => ?_) AllReadyH.nil
                refine (if_pos (by kernel_rfl)).mpr ?_
                refine wp_append_run happ _ _ rfl rfl rfl ?_
                simp only [Act.put, List.setIfInBounds_toArray, List.set_cons_zero, List.set_cons_succ, List.getElem_toArray, List.getElem_cons_succ, List.getElem_cons_zero]
                refine hK.out _ _ HSb.out (fun _ => ?_)
                clear hK K happ
                refine wpAnyH_take (i := 27) (oi := ⟨some 65, _, _, _, _, _⟩) (v := .pointer (some ⟨w1.heap.size + 1, 1, none⟩)) rfl (by kernel_rfl) (by kernel_rfl) (by kernel_rfl) (fun _ _ _ h => h) (Or.inl ⟨by rfl, fun W hS => by (obtain ⟨s0, s1, s2⟩ := hS; go_simp)⟩) HSb.out ?_
                simp only [Act.put, List.setIfInBounds_toArray, List.set_cons_zero, List.set_cons_succ]
                refine wpAnyH_ready (rs := [28]) (by kernel_rfl) (by simp) ?_
                refine AllReadyH.cons rfl (fun K hK => ?_) AllReadyH.nil
                go_simp
                refine hK.out _ _ HSc.out (fun _ => ?_)
                clear hK K
                refine wpAnyH_done (by kernel_rfl) ?_ _
                clear c0 c0a c3 fz
                go_wp2_with fail
                exact ⟨⟨p + 1, na', nc', ms ++ [(⟨6, pa, pb, 0⟩ : Nd)], by omega, by go_num, by have := HML.out; simp only [List.length_append, List.length_cons, List.length_nil]; omega, hide (HGK.out.snoc (.inr (.inl rfl)) HPA.out HPB.out), HNEW⟩, by simp [intOf]; omega⟩
      · have c1x := c1
        go_wp2_with fail
        clear c1 c1x
        have HSW : Hid (∀ W, Below wr.heap.size wr W → (fun W : World => W.cell? ⟨b, off + p * 4, none⟩ = some (.int .i64 xo) ∧ W.cell? ⟨b, off + p * 4 + 1, none⟩ = some (.int .i64 xa) ∧ W.cell? ⟨b, off + p * 4 + 2, none⟩ = some (.int .i64 xb)) W) := hide fun W hb => ⟨bcell hb n0, bcell hb n1, bcell hb n2⟩
        have HBd : Hid (Below wr.heap.size wr wr.drew) := hide (Below.refl _ _).drew
        refine wp_region_held_drew (S := (fun W : World => W.cell? ⟨b, off + p * 4, none⟩ = some (.int .i64 xo) ∧ W.cell? ⟨b, off + p * 4 + 1, none⟩ = some (.int .i64 xa) ∧ W.cell? ⟨b, off + p * 4 + 2, none⟩ = some (.int .i64 xb))) (by kernel_rfl) (HSW.out _ HBd.out) (fun _ => ?_)
        have HBLd := hide (hbl.out.more HBd.out)
        generalize hwd : wr.drew = wd at *
        clear hwd
        have HBa := hide (below_alloc wd (.cells #[.int .i64 7, .int .i64 pa, .int .i64 pb, .int .i64 0] 26))
        have HEa := hide (blk_new wd (.cells #[.int .i64 7, .int .i64 pa, .int .i64 pb, .int .i64 0] 26))
        obtain ⟨na', nc', w3, happ, hm, hg, hnb⟩ := app_nd (c := 1) (n' := ms.length + 1) (HBLd.out.nodes.below HBa.out) rfl (new := [(⟨7, pa, pb, 0⟩ : Nd)]) (m := 1) rfl rfl (Lies.blk (cs := ndsC [(⟨7, pa, pb, 0⟩ : Nd)]) HEa.out trivial) (Nat.le_trans HBLd.out.hB HBa.out.size) (by have := HML.out; omega)
        have hgw : wd.grownBy w3 (Value.slice na ms.length nc).ownBlock := ⟨hg.os.trans HBa.out.os, hg.tape.trans HBa.out.tape, hg.output.trans HBa.out.output, Nat.le_trans HBa.out.size hg.size, fun k hk hne => (hg.block k (Nat.lt_of_lt_of_le hk HBa.out.size) hne).trans (HBa.out.block k hk)⟩
        have HNEW := hide (HBLd.out.addN (new := [(⟨7, pa, pb, 0⟩ : Nd)]) (by rw [List.length_append]; rfl) hm hgw (fun b hb => (hnb b hb).imp id (fun h => Nat.le_trans HBa.out.size h)))
        have hML := blk_lt HBLd.out.me
        have hM3 : w3.heap[w1.heap.size + 1]? = wd.heap[w1.heap.size + 1]? := hgw.block _ hML fun e => HBLd.out.dn _ e.symm rfl
        have c0 : wd.cell? ⟨w1.heap.size + 1, 1, none⟩ = some (.slice na ms.length nc) := by rw [blk_cell HBLd.out.me]; rfl
        have c0a := cell_alloc c0 (.cells #[.int .i64 7, .int .i64 pa, .int .i64 pb, .int .i64 0] 26)
        have c3 : w3.cell? ⟨w1.heap.size + 1, 1, none⟩ = some (.slice na ms.length nc) := by rw [blk_cell (hM3.trans HBLd.out.me)]; rfl
        have fz := blk_frozen (hM3.trans HBLd.out.me) 1
        have HS1 := hide (HSW.out _ HBd.out)
        have HSa := hide (HSW.out _ (Below.step HBd.out HBa.out))
        have keep : ∀ (a : Addr) (v : Value), a.block < w1.heap.size → wd.cell? a = some v → w3.cell? a = some v := fun a v hl hc => (World.cell?_of_block (hgw.block a.block (cell_lt hc) fun e => by have := HBLd.out.nodes.new _ e.symm; omega)).trans hc
        have HSb : Hid ((fun W : World => W.cell? ⟨b, off + p * 4, none⟩ = some (.int .i64 xo) ∧ W.cell? ⟨b, off + p * 4 + 1, none⟩ = some (.int .i64 xa) ∧ W.cell? ⟨b, off + p * 4 + 2, none⟩ = some (.int .i64 xb)) w3) := hide ⟨keep _ _ HLOW.out (HSW.out _ HBd.out).1, keep _ _ HLOW.out (HSW.out _ HBd.out).2.1, keep _ _ HLOW.out (HSW.out _ HBd.out).2.2⟩
        have HSc : Hid ((fun W : World => W.cell? ⟨b, off + p * 4, none⟩ = some (.int .i64 xo) ∧ W.cell? ⟨b, off + p * 4 + 1, none⟩ = some (.int .i64 xa) ∧ W.cell? ⟨b, off + p * 4 + 2, none⟩ = some (.int .i64 xb)) (w3.setCell ⟨w1.heap.size + 1, 1, none⟩ (.slice na' (ms.length + 1) nc'))) := hide (by
          have st : ∀ (a : Addr) (v : Value), a.block < w1.heap.size → w3.cell? a = some v → (w3.setCell ⟨w1.heap.size + 1, 1, none⟩ (.slice na' (ms.length + 1) nc')).cell? a = some v := fun a v hl hc => (World.cell?_of_block (Below.heap_setCell _ _ _ _ (by show a.block ≠ w1.heap.size + 1; omega))).trans hc
          exact ⟨st _ _ HLOW.out HSb.out.1, st _ _ HLOW.out HSb.out.2.1, st _ _ HLOW.out HSb.out.2.2⟩)
        clear hm hg hnb hgw hM3 keep hML
        refine wpAnyH_take (i := 0) (oi := ⟨some 38, _, _, _, _, _⟩) (v := .pointer (some ⟨w1.heap.size + 1, 1, none⟩)) rfl (by kernel_rfl) (by kernel_rfl) (by kernel_rfl) (fun _ _ _ h => h) (Or.inl ⟨by rfl, fun W hS => by (obtain ⟨s0, s1, s2⟩ := hS; go_simp)⟩) HS1.out ?_
        simp only [Act.put, List.setIfInBounds_toArray, List.set_cons_zero, List.set_cons_succ]
        refine wpAnyH_take (i := 2) (oi := ⟨some 40, _, _, _, _, _⟩) (v := .agg #[.int .i64 5, .int .i64 6, .int .i64 7, .int .i64 8]) rfl (by kernel_rfl) (by kernel_rfl) (by kernel_rfl) (fun _ _ _ h => h) (Or.inl ⟨by rfl, fun W hS => by (obtain ⟨s0, s1, s2⟩ := hS; go_simp)⟩) HS1.out ?_
        simp only [Act.put, List.setIfInBounds_toArray, List.set_cons_zero, List.set_cons_succ]
        refine wpAnyH_take (i := 3) (oi := ⟨some 41, _, _, _, _, _⟩) (v := .slice (some ⟨b, off, none⟩) ls.length lc) rfl (by kernel_rfl) (by kernel_rfl) (by kernel_rfl) (fun _ _ _ h => h) (Or.inl ⟨by rfl, fun W hS => by (obtain ⟨s0, s1, s2⟩ := hS; go_simp)⟩) HS1.out ?_
        simp only [Act.put, List.setIfInBounds_toArray, List.set_cons_zero, List.set_cons_succ]
        refine wpAnyH_take (i := 4) (oi := ⟨some 42, _, _, _, _, _⟩) (v := .int .i64 p) rfl (by kernel_rfl) (by kernel_rfl) (by kernel_rfl) (fun _ _ _ h => h) (Or.inl ⟨by rfl, fun W hS => by (obtain ⟨s0, s1, s2⟩ := hS; go_simp)⟩) HS1.out ?_
        simp only [Act.put, List.setIfInBounds_toArray, List.set_cons_zero, List.set_cons_succ]
        refine wpAnyH_take (i := 5) (oi := ⟨some 43, _, _, _, _, _⟩) (v := .pointer (some ⟨b, off + p * 4, none⟩)) rfl (by kernel_rfl) (by kernel_rfl) (by kernel_rfl) (fun _ _ _ h => h) (Or.inl ⟨by rfl, fun W hS => by (obtain ⟨s0, s1, s2⟩ := hS; go_simp)⟩) HS1.out ?_
        simp only [Act.put, List.setIfInBounds_toArray, List.set_cons_zero, List.set_cons_succ]
        refine wpAnyH_take (i := 6) (oi := ⟨some 44, _, _, _, _, _⟩) (v := .pointer (some ⟨b, off + p * 4, none⟩)) rfl (by kernel_rfl) (by kernel_rfl) (by kernel_rfl) (fun _ _ _ h => h) (Or.inl ⟨by rfl, fun W hS => by (obtain ⟨s0, s1, s2⟩ := hS; go_simp)⟩) HS1.out ?_
        simp only [Act.put, List.setIfInBounds_toArray, List.set_cons_zero, List.set_cons_succ]
        refine wpAnyH_take (i := 7) (oi := ⟨some 45, _, _, _, _, _⟩) (v := .int .i64 xo) rfl (by kernel_rfl) (by kernel_rfl) (by kernel_rfl) (fun _ _ _ h => h) (Or.inl ⟨by rfl, fun W hS => by (obtain ⟨s0, s1, s2⟩ := hS; go_simp)⟩) HS1.out ?_
        simp only [Act.put, List.setIfInBounds_toArray, List.set_cons_zero, List.set_cons_succ]
        refine wpAnyH_take (i := 10) (oi := ⟨some 48, _, _, _, _, _⟩) (v := .slice (some ⟨b, off, none⟩) ls.length lc) rfl (by kernel_rfl) (by kernel_rfl) (by kernel_rfl) (fun _ _ _ h => h) (Or.inl ⟨by rfl, fun W hS => by (obtain ⟨s0, s1, s2⟩ := hS; go_simp)⟩) HS1.out ?_
        simp only [Act.put, List.setIfInBounds_toArray, List.set_cons_zero, List.set_cons_succ]
        refine wpAnyH_take (i := 11) (oi := ⟨some 49, _, _, _, _, _⟩) (v := .int .i64 p) rfl (by kernel_rfl) (by kernel_rfl) (by kernel_rfl) (fun _ _ _ h => h) (Or.inl ⟨by rfl, fun W hS => by (obtain ⟨s0, s1, s2⟩ := hS; go_simp)⟩) HS1.out ?_
        simp only [Act.put, List.setIfInBounds_toArray, List.set_cons_zero, List.set_cons_succ]
        refine wpAnyH_take (i := 12) (oi := ⟨some 50, _, _, _, _, _⟩) (v := .pointer (some ⟨b, off + p * 4, none⟩)) rfl (by kernel_rfl) (by kernel_rfl) (by kernel_rfl) (fun _ _ _ h => h) (Or.inl ⟨by rfl, fun W hS => by (obtain ⟨s0, s1, s2⟩ := hS; go_simp)⟩) HS1.out ?_
        simp only [Act.put, List.setIfInBounds_toArray, List.set_cons_zero, List.set_cons_succ]
        refine wpAnyH_take (i := 13) (oi := ⟨some 51, _, _, _, _, _⟩) (v := .pointer (some ⟨b, off + p * 4 + 1, none⟩)) rfl (by kernel_rfl) (by kernel_rfl) (by kernel_rfl) (fun _ _ _ h => h) (Or.inl ⟨by rfl, fun W hS => by (obtain ⟨s0, s1, s2⟩ := hS; go_simp)⟩) HS1.out ?_
        simp only [Act.put, List.setIfInBounds_toArray, List.set_cons_zero, List.set_cons_succ]
        refine wpAnyH_take (i := 14) (oi := ⟨some 52, _, _, _, _, _⟩) (v := .int .i64 xa) rfl (by kernel_rfl) (by kernel_rfl) (by kernel_rfl) (fun _ _ _ h => h) (Or.inl ⟨by rfl, fun W hS => by (obtain ⟨s0, s1, s2⟩ := hS; go_simp)⟩) HS1.out ?_
        simp only [Act.put, List.setIfInBounds_toArray, List.set_cons_zero, List.set_cons_succ]
        refine wpAnyH_take (i := 15) (oi := ⟨some 53, _, _, _, _, _⟩) (v := .int .i64 ms.length) rfl (by kernel_rfl) (by kernel_rfl) (by kernel_rfl) (fun _ _ _ h => h) (Or.inl ⟨by rfl, fun W hS => by (obtain ⟨s0, s1, s2⟩ := hS; go_simp)⟩) HS1.out ?_
        simp only [Act.put, List.setIfInBounds_toArray, List.set_cons_zero, List.set_cons_succ]
        refine wpAnyH_take (i := 17) (oi := ⟨some 55, _, _, _, _, _⟩) (v := .slice (some ⟨b, off, none⟩) ls.length lc) rfl (by kernel_rfl) (by kernel_rfl) (by kernel_rfl) (fun _ _ _ h => h) (Or.inl ⟨by rfl, fun W hS => by (obtain ⟨s0, s1, s2⟩ := hS; go_simp)⟩) HS1.out ?_
        simp only [Act.put, List.setIfInBounds_toArray, List.set_cons_zero, List.set_cons_succ]
        refine wpAnyH_take (i := 18) (oi := ⟨some 56, _, _, _, _, _⟩) (v := .int .i64 p) rfl (by kernel_rfl) (by kernel_rfl) (by kernel_rfl) (fun _ _ _ h => h) (Or.inl ⟨by rfl, fun W hS => by (obtain ⟨s0, s1, s2⟩ := hS; go_simp)⟩) HS1.out ?_
        simp only [Act.put, List.setIfInBounds_toArray, List.set_cons_zero, List.set_cons_succ]
        refine wpAnyH_take (i := 19) (oi := ⟨some 57, _, _, _, _, _⟩) (v := .pointer (some ⟨b, off + p * 4, none⟩)) rfl (by kernel_rfl) (by kernel_rfl) (by kernel_rfl) (fun _ _ _ h => h) (Or.inl ⟨by rfl, fun W hS => by (obtain ⟨s0, s1, s2⟩ := hS; go_simp)⟩) HS1.out ?_
        simp only [Act.put, List.setIfInBounds_toArray, List.set_cons_zero, List.set_cons_succ]
        refine wpAnyH_take (i := 20) (oi := ⟨some 58, _, _, _, _, _⟩) (v := .pointer (some ⟨b, off + p * 4 + 2, none⟩)) rfl (by kernel_rfl) (by kernel_rfl) (by kernel_rfl) (fun _ _ _ h => h) (Or.inl ⟨by rfl, fun W hS => by (obtain ⟨s0, s1, s2⟩ := hS; go_simp)⟩) HS1.out ?_
        simp only [Act.put, List.setIfInBounds_toArray, List.set_cons_zero, List.set_cons_succ]
        refine wpAnyH_take (i := 21) (oi := ⟨some 59, _, _, _, _, _⟩) (v := .int .i64 xb) rfl (by kernel_rfl) (by kernel_rfl) (by kernel_rfl) (fun _ _ _ h => h) (Or.inl ⟨by rfl, fun W hS => by (obtain ⟨s0, s1, s2⟩ := hS; go_simp)⟩) HS1.out ?_
        simp only [Act.put, List.setIfInBounds_toArray, List.set_cons_zero, List.set_cons_succ]
        refine wpAnyH_take (i := 22) (oi := ⟨some 60, _, _, _, _, _⟩) (v := .int .i64 ms.length) rfl (by kernel_rfl) (by kernel_rfl) (by kernel_rfl) (fun _ _ _ h => h) (Or.inl ⟨by rfl, fun W hS => by (obtain ⟨s0, s1, s2⟩ := hS; go_simp)⟩) HS1.out ?_
        simp only [Act.put, List.setIfInBounds_toArray, List.set_cons_zero, List.set_cons_succ]
        refine wpAnyH_ready (rs := [1, 8]) (by kernel_rfl) (by simp) ?_
        refine AllReadyH.cons rfl (fun K hK => ?_) (AllReadyH.cons rfl (fun K hK => ?_) AllReadyH.nil)
        · go_simp
          refine hK.out _ _ HS1.out (fun _ => ?_)
          clear hK K
          refine wpAnyH_ready (rs := [8]) (by kernel_rfl) (by simp) ?_
          refine AllReadyH.cons rfl (fun K hK => ?_) AllReadyH.nil
          go_simp
          refine (HPK.out _).mono ?_
          rintro e w' ⟨rfl, rfl⟩
          refine hK.out _ _ HS1.out (fun _ => ?_)
          clear hK K
          refine wpAnyH_take (i := 9) (oi := ⟨some 47, _, _, _, _, _⟩) (v := .int .i64 7) rfl (by kernel_rfl) (by kernel_rfl) (by kernel_rfl) (fun _ _ _ h => h) (Or.inl ⟨by rfl, fun W hS => by (obtain ⟨s0, s1, s2⟩ := hS; go_simp; try rfl)⟩) HS1.out ?_
          simp only [Act.put, List.setIfInBounds_toArray, List.set_cons_zero, List.set_cons_succ]
          refine wpAnyH_ready (rs := [16]) (by kernel_rfl) (by simp) ?_
          refine AllReadyH.cons rfl (fun K hK => ?_) AllReadyH.nil
          go_simp
          refine (HPKa.out _).mono ?_
          rintro e w' ⟨rfl, rfl⟩
          refine hK.out _ _ HS1.out (fun _ => ?_)
          clear hK K
          refine wpAnyH_ready (rs := [23]) (by kernel_rfl) (by simp) ?_
          refine AllReadyH.cons rfl (fun K hK => ?_) AllReadyH.nil
          go_simp
          refine (HPKb.out _).mono ?_
          rintro e w' ⟨rfl, rfl⟩
          refine hK.out _ _ HS1.out (fun _ => ?_)
          clear hK K
          refine wpAnyH_take (i := 24) (oi := ⟨some 62, _, _, _, _, _⟩) (v := .agg #[.int .i64 7, .int .i64 pa, .int .i64 pb, .int .i64 0]) rfl (by kernel_rfl) (by kernel_rfl) (by kernel_rfl) (fun _ _ _ h => h) (Or.inl ⟨by rfl, fun W hS => by (obtain ⟨s0, s1, s2⟩ := hS; go_simp)⟩) HS1.out ?_
          simp only [Act.put, List.setIfInBounds_toArray, List.set_cons_zero, List.set_cons_succ]
          refine wpAnyH_ready (rs := [25]) (by kernel_rfl) (by simp) ?_
          refine AllReadyH.cons rfl (fun K hK => ?_) AllReadyH.nil
          go_simp
          refine hK.out _ _ HSa.out (fun _ => ?_)
          clear hK K
          refine wpAnyH_ready (rs := [26]) (by kernel_rfl) (by simp) ?_
          refine AllReadyH.cons rfl (fun K hK => ?_) AllReadyH.nil
          refine (if_pos (by kernel_rfl)).mpr ?_
          refine wp_append_run happ _ _ rfl rfl rfl ?_
          simp only [Act.put, List.setIfInBounds_toArray, List.set_cons_zero, List.set_cons_succ, List.getElem_toArray, List.getElem_cons_succ, List.getElem_cons_zero]
          refine hK.out _ _ HSb.out (fun _ => ?_)
          clear hK K happ
          refine wpAnyH_take (i := 27) (oi := ⟨some 65, _, _, _, _, _⟩) (v := .pointer (some ⟨w1.heap.size + 1, 1, none⟩)) rfl (by kernel_rfl) (by kernel_rfl) (by kernel_rfl) (fun _ _ _ h => h) (Or.inl ⟨by rfl, fun W hS => by (obtain ⟨s0, s1, s2⟩ := hS; go_simp)⟩) HSb.out ?_
          simp only [Act.put, List.setIfInBounds_toArray, List.set_cons_zero, List.set_cons_succ]
          refine wpAnyH_ready (rs := [28]) (by kernel_rfl) (by simp) ?_
          refine AllReadyH.cons rfl (fun K hK => ?_) AllReadyH.nil
          go_simp
          refine hK.out _ _ HSc.out (fun _ => ?_)
          clear hK K
          refine wpAnyH_done (by kernel_rfl) ?_ _
          clear c0 c0a c3 fz
          go_wp2_with fail
          exact ⟨⟨p + 1, na', nc', ms ++ [(⟨7, pa, pb, 0⟩ : Nd)], by omega, by go_num, by have := HML.out; simp only [List.length_append, List.length_cons, List.length_nil]; omega, hide (HGK.out.snoc (.inr (.inr (.inl rfl))) HPA.out HPB.out), HNEW⟩, by simp [intOf]; omega⟩
        · go_simp
          refine (HPK.out _).mono ?_
          rintro e w' ⟨rfl, rfl⟩
          refine hK.out _ _ HS1.out (fun _ => ?_)
          clear hK K
          refine wpAnyH_take (i := 9) (oi := ⟨some 47, _, _, _, _, _⟩) (v := .int .i64 7) rfl (by kernel_rfl) (by kernel_rfl) (by kernel_rfl) (fun _ _ _ h => h) (Or.inl ⟨by rfl, fun W hS => by (obtain ⟨s0, s1, s2⟩ := hS; go_simp; try rfl)⟩) HS1.out ?_
          simp only [Act.put, List.setIfInBounds_toArray, List.set_cons_zero, List.set_cons_succ]
          refine wpAnyH_ready (rs := [1, 16]) (by kernel_rfl) (by simp) ?_
          refine AllReadyH.cons rfl (fun K hK => ?_) (AllReadyH.cons rfl (fun K hK => ?_) AllReadyH.nil)
          · go_simp
            refine hK.out _ _ HS1.out (fun _ => ?_)
            clear hK K
            refine wpAnyH_ready (rs := [16]) (by kernel_rfl) (by simp) ?_
            refine AllReadyH.cons rfl (fun K hK => ?_) AllReadyH.nil
            go_simp
            refine (HPKa.out _).mono ?_
            rintro e w' ⟨rfl, rfl⟩
            refine hK.out _ _ HS1.out (fun _ => ?_)
            clear hK K
            refine wpAnyH_ready (rs := [23]) (by kernel_rfl) (by simp) ?_
            refine AllReadyH.cons rfl (fun K hK => ?_) AllReadyH.nil
            go_simp
            refine (HPKb.out _).mono ?_
            rintro e w' ⟨rfl, rfl⟩
            refine hK.out _ _ HS1.out (fun _ => ?_)
            clear hK K
            refine wpAnyH_take (i := 24) (oi := ⟨some 62, _, _, _, _, _⟩) (v := .agg #[.int .i64 7, .int .i64 pa, .int .i64 pb, .int .i64 0]) rfl (by kernel_rfl) (by kernel_rfl) (by kernel_rfl) (fun _ _ _ h => h) (Or.inl ⟨by rfl, fun W hS => by (obtain ⟨s0, s1, s2⟩ := hS; go_simp)⟩) HS1.out ?_
            simp only [Act.put, List.setIfInBounds_toArray, List.set_cons_zero, List.set_cons_succ]
            refine wpAnyH_ready (rs := [25]) (by kernel_rfl) (by simp) ?_
            refine AllReadyH.cons rfl (fun K hK => ?_) AllReadyH.nil
            go_simp
            refine hK.out _ _ HSa.out (fun _ => ?_)
            clear hK K
            refine wpAnyH_ready (rs := [26]) (by kernel_rfl) (by simp) ?_
            refine AllReadyH.cons rfl (fun K hK => ?_) AllReadyH.nil
            refine (if_pos (by kernel_rfl)).mpr ?_
            refine wp_append_run happ _ _ rfl rfl rfl ?_
            simp only [Act.put, List.setIfInBounds_toArray, List.set_cons_zero, List.set_cons_succ, List.getElem_toArray, List.getElem_cons_succ, List.getElem_cons_zero]
            refine hK.out _ _ HSb.out (fun _ => ?_)
            clear hK K happ
            refine wpAnyH_take (i := 27) (oi := ⟨some 65, _, _, _, _, _⟩) (v := .pointer (some ⟨w1.heap.size + 1, 1, none⟩)) rfl (by kernel_rfl) (by kernel_rfl) (by kernel_rfl) (fun _ _ _ h => h) (Or.inl ⟨by rfl, fun W hS => by (obtain ⟨s0, s1, s2⟩ := hS; go_simp)⟩) HSb.out ?_
            simp only [Act.put, List.setIfInBounds_toArray, List.set_cons_zero, List.set_cons_succ]
            refine wpAnyH_ready (rs := [28]) (by kernel_rfl) (by simp) ?_
            refine AllReadyH.cons rfl (fun K hK => ?_) AllReadyH.nil
            go_simp
            refine hK.out _ _ HSc.out (fun _ => ?_)
            clear hK K
            refine wpAnyH_done (by kernel_rfl) ?_ _
            clear c0 c0a c3 fz
            go_wp2_with fail
            exact ⟨⟨p + 1, na', nc', ms ++ [(⟨7, pa, pb, 0⟩ : Nd)], by omega, by go_num, by have := HML.out; simp only [List.length_append, List.length_cons, List.length_nil]; omega, hide (HGK.out.snoc (.inr (.inr (.inl rfl))) HPA.out HPB.out), HNEW⟩, by simp [intOf]; omega⟩
          · go_simp
            refine (HPKa.out _).mono ?_
            rintro e w' ⟨rfl, rfl⟩
            refine hK.out _ _ HS1.out (fun _ => ?_)
            clear hK K
            refine wpAnyH_ready (rs := [1, 23]) (by kernel_rfl) (by simp) ?_
            refine AllReadyH.cons rfl (fun K hK => ?_) (AllReadyH.cons rfl (fun K hK => ?_) AllReadyH.nil)
            · go_simp
              refine hK.out _ _ HS1.out (fun _ => ?_)
              clear hK K
              refine wpAnyH_ready (rs := [23]) (by kernel_rfl) (by simp) ?_
              refine AllReadyH.cons rfl (fun K hK => ?_) AllReadyH.nil
              go_simp
              refine (HPKb.out _).mono ?_
              rintro e w' ⟨rfl, rfl⟩
              refine hK.out _ _ HS1.out (fun _ => ?_)
              clear hK K
              refine wpAnyH_take (i := 24) (oi := ⟨some 62, _, _, _, _, _⟩) (v := .agg #[.int .i64 7, .int .i64 pa, .int .i64 pb, .int .i64 0]) rfl (by kernel_rfl) (by kernel_rfl) (by kernel_rfl) (fun _ _ _ h => h) (Or.inl ⟨by rfl, fun W hS => by (obtain ⟨s0, s1, s2⟩ := hS; go_simp)⟩) HS1.out ?_
              simp only [Act.put, List.setIfInBounds_toArray, List.set_cons_zero, List.set_cons_succ]
              refine wpAnyH_ready (rs := [25]) (by kernel_rfl) (by simp) ?_
              refine AllReadyH.cons rfl (fun K hK => ?_) AllReadyH.nil
              go_simp
              refine hK.out _ _ HSa.out (fun _ => ?_)
              clear hK K
              refine wpAnyH_ready (rs := [26]) (by kernel_rfl) (by simp) ?_
              refine AllReadyH.cons rfl (fun K hK => ?_) AllReadyH.nil
              refine (if_pos (by kernel_rfl)).mpr ?_
              refine wp_append_run happ _ _ rfl rfl rfl ?_
              simp only [Act.put, List.setIfInBounds_toArray, List.set_cons_zero, List.set_cons_succ, List.getElem_toArray, List.getElem_cons_succ, List.getElem_cons_zero]
              refine hK.out _ _ HSb.out (fun _ => ?_)
              clear hK K happ
              refine wpAnyH_take (i := 27) (oi := ⟨some 65, _, _, _, _, _⟩) (v := .pointer (some ⟨w1.heap.size + 1, 1, none⟩)) rfl (by kernel_rfl) (by kernel_rfl) (by kernel_rfl) (fun _ _ _ h => h) (Or.inl ⟨by rfl, fun W hS => by (obtain ⟨s0, s1, s2⟩ := hS; go_simp)⟩) HSb.out ?_
              simp only [Act.put, List.setIfInBounds_toArray, List.set_cons_zero, List.set_cons_succ]
              refine wpAnyH_ready (rs := [28]) (by kernel_rfl) (by simp) ?_
              refine AllReadyH.cons rfl (fun K hK => ?_) AllReadyH.nil
              go_simp
              refine hK.out _ _ HSc.out (fun _ => ?_)
              clear hK K
              refine wpAnyH_done (by kernel_rfl) ?_ _
              clear c0 c0a c3 fz
              go_wp2_with fail
              exact ⟨⟨p + 1, na', nc', ms ++ [(⟨7, pa, pb, 0⟩ : Nd)], by omega, by go_num, by have := HML.out; simp only [List.length_append, List.length_cons, List.length_nil]; omega, hide (HGK.out.snoc (.inr (.inr (.inl rfl))) HPA.out HPB.out), HNEW⟩, by simp [intOf]; omega⟩
            · go_simp
              refine (HPKb.out _).mono ?_
              rintro e w' ⟨rfl, rfl⟩
              refine hK.out _ _ HS1.out (fun _ => ?_)
              clear hK K
              refine wpAnyH_take (i := 24) (oi := ⟨some 62, _, _, _, _, _⟩) (v := .agg #[.int .i64 7, .int .i64 pa, .int .i64 pb, .int .i64 0]) rfl (by kernel_rfl) (by kernel_rfl) (by kernel_rfl) (fun _ _ _ h => h) (Or.inl ⟨by rfl, fun W hS => by (obtain ⟨s0, s1, s2⟩ := hS; go_simp)⟩) HS1.out ?_
              simp only [Act.put, List.setIfInBounds_toArray, List.set_cons_zero, List.set_cons_succ]
              refine wpAnyH_ready (rs := [1, 25]) (by kernel_rfl) (by simp) ?_
              refine AllReadyH.cons rfl (fun K hK => ?_) (AllReadyH.cons rfl (fun K hK => ?_) AllReadyH.nil)
              · go_simp
                refine hK.out _ _ HS1.out (fun _ => ?_)
                clear hK K
                refine wpAnyH_ready (rs := [25]) (by kernel_rfl) (by simp) ?_
                refine AllReadyH.cons rfl (fun K hK => ?_) AllReadyH.nil
                go_simp
                refine hK.out _ _ HSa.out (fun _ => ?_)
                clear hK K
                refine wpAnyH_ready (rs := [26]) (by kernel_rfl) (by simp) ?_
                refine AllReadyH.cons rfl (fun K hK => ?_) AllReadyH.nil
                refine (if_pos (by kernel_rfl)).mpr ?_
                refine wp_append_run happ _ _ rfl rfl rfl ?_
                simp only [Act.put, List.setIfInBounds_toArray, List.set_cons_zero, List.set_cons_succ, List.getElem_toArray, List.getElem_cons_succ, List.getElem_cons_zero]
                refine hK.out _ _ HSb.out (fun _ => ?_)
                clear hK K happ
                refine wpAnyH_take (i := 27) (oi := ⟨some 65, _, _, _, _, _⟩) (v := .pointer (some ⟨w1.heap.size + 1, 1, none⟩)) rfl (by kernel_rfl) (by kernel_rfl) (by kernel_rfl) (fun _ _ _ h => h) (Or.inl ⟨by rfl, fun W hS => by (obtain ⟨s0, s1, s2⟩ := hS; go_simp)⟩) HSb.out ?_
                simp only [Act.put, List.setIfInBounds_toArray, List.set_cons_zero, List.set_cons_succ]
                refine wpAnyH_ready (rs := [28]) (by kernel_rfl) (by simp) ?_
                refine AllReadyH.cons rfl (fun K hK => ?_) AllReadyH.nil
                go_simp
                refine hK.out _ _ HSc.out (fun _ => ?_)
                clear hK K
                refine wpAnyH_done (by kernel_rfl) ?_ _
                clear c0 c0a c3 fz
                go_wp2_with fail
                exact ⟨⟨p + 1, na', nc', ms ++ [(⟨7, pa, pb, 0⟩ : Nd)], by omega, by go_num, by have := HML.out; simp only [List.length_append, List.length_cons, List.length_nil]; omega, hide (HGK.out.snoc (.inr (.inr (.inl rfl))) HPA.out HPB.out), HNEW⟩, by simp [intOf]; omega⟩
              · go_simp
                refine hK.out _ _ HSa.out (fun _ => ?_)
                clear hK K
                refine wpAnyH_ready (rs := [1]) (by kernel_rfl) (by simp) ?_
                refine AllReadyH.cons rfl (fun K hK => ?_) AllReadyH.nil
                go_simp
                refine hK.out _ _ HSa.out (fun _ => ?_)
                clear hK K
                refine wpAnyH_ready (rs := [26]) (by kernel_rfl) (by simp) ?_
                refine AllReadyH.cons rfl (fun K hK => ?_) AllReadyH.nil
                refine (if_pos (by kernel_rfl)).mpr ?_
                refine wp_append_run happ _ _ rfl rfl rfl ?_
                simp only [Act.put, List.setIfInBounds_toArray, List.set_cons_zero, List.set_cons_succ, List.getElem_toArray, List.getElem_cons_succ, List.getElem_cons_zero]
                refine hK.out _ _ HSb.out (fun _ => ?_)
                clear hK K happ
                refine wpAnyH_take (i := 27) (oi := ⟨some 65, _, _, _, _, _⟩) (v := .pointer (some ⟨w1.heap.size + 1, 1, none⟩)) rfl (by kernel_rfl) (by kernel_rfl) (by kernel_rfl) (fun _ _ _ h => h) (Or.inl ⟨by rfl, fun W hS => by (obtain ⟨s0, s1, s2⟩ := hS; go_simp)⟩) HSb.out ?_
                simp only [Act.put, List.setIfInBounds_toArray, List.set_cons_zero, List.set_cons_succ]
                refine wpAnyH_ready (rs := [28]) (by kernel_rfl) (by simp) ?_
                refine AllReadyH.cons rfl (fun K hK => ?_) AllReadyH.nil
                go_simp
                refine hK.out _ _ HSc.out (fun _ => ?_)
                clear hK K
                refine wpAnyH_done (by kernel_rfl) ?_ _
                clear c0 c0a c3 fz
                go_wp2_with fail
                exact ⟨⟨p + 1, na', nc', ms ++ [(⟨7, pa, pb, 0⟩ : Nd)], by omega, by go_num, by have := HML.out; simp only [List.length_append, List.length_cons, List.length_nil]; omega, hide (HGK.out.snoc (.inr (.inr (.inl rfl))) HPA.out HPB.out), HNEW⟩, by simp [intOf]; omega⟩
      · have c1x := c1
        go_wp2_with fail
        clear c1 c1x
        have HSW : Hid (∀ W, Below wr.heap.size wr W → (fun W : World => W.cell? ⟨b, off + p * 4, none⟩ = some (.int .i64 xo) ∧ W.cell? ⟨b, off + p * 4 + 1, none⟩ = some (.int .i64 xa) ∧ W.cell? ⟨b, off + p * 4 + 2, none⟩ = some (.int .i64 xb)) W) := hide fun W hb => ⟨bcell hb n0, bcell hb n1, bcell hb n2⟩
        have HBd : Hid (Below wr.heap.size wr wr.drew) := hide (Below.refl _ _).drew
        refine wp_region_held_drew (S := (fun W : World => W.cell? ⟨b, off + p * 4, none⟩ = some (.int .i64 xo) ∧ W.cell? ⟨b, off + p * 4 + 1, none⟩ = some (.int .i64 xa) ∧ W.cell? ⟨b, off + p * 4 + 2, none⟩ = some (.int .i64 xb))) (by kernel_rfl) (HSW.out _ HBd.out) (fun _ => ?_)
        have HBLd := hide (hbl.out.more HBd.out)
        generalize hwd : wr.drew = wd at *
        clear hwd
        have HBa := hide (below_alloc wd (.cells #[.int .i64 8, .int .i64 pa, .int .i64 pb, .int .i64 0] 26))
        have HEa := hide (blk_new wd (.cells #[.int .i64 8, .int .i64 pa, .int .i64 pb, .int .i64 0] 26))
        obtain ⟨na', nc', w3, happ, hm, hg, hnb⟩ := app_nd (c := 1) (n' := ms.length + 1) (HBLd.out.nodes.below HBa.out) rfl (new := [(⟨8, pa, pb, 0⟩ : Nd)]) (m := 1) rfl rfl (Lies.blk (cs := ndsC [(⟨8, pa, pb, 0⟩ : Nd)]) HEa.out trivial) (Nat.le_trans HBLd.out.hB HBa.out.size) (by have := HML.out; omega)
        have hgw : wd.grownBy w3 (Value.slice na ms.length nc).ownBlock := ⟨hg.os.trans HBa.out.os, hg.tape.trans HBa.out.tape, hg.output.trans HBa.out.output, Nat.le_trans HBa.out.size hg.size, fun k hk hne => (hg.block k (Nat.lt_of_lt_of_le hk HBa.out.size) hne).trans (HBa.out.block k hk)⟩
        have HNEW := hide (HBLd.out.addN (new := [(⟨8, pa, pb, 0⟩ : Nd)]) (by rw [List.length_append]; rfl) hm hgw (fun b hb => (hnb b hb).imp id (fun h => Nat.le_trans HBa.out.size h)))
        have hML := blk_lt HBLd.out.me
        have hM3 : w3.heap[w1.heap.size + 1]? = wd.heap[w1.heap.size + 1]? := hgw.block _ hML fun e => HBLd.out.dn _ e.symm rfl
        have c0 : wd.cell? ⟨w1.heap.size + 1, 1, none⟩ = some (.slice na ms.length nc) := by rw [blk_cell HBLd.out.me]; rfl
        have c0a := cell_alloc c0 (.cells #[.int .i64 8, .int .i64 pa, .int .i64 pb, .int .i64 0] 26)
        have c3 : w3.cell? ⟨w1.heap.size + 1, 1, none⟩ = some (.slice na ms.length nc) := by rw [blk_cell (hM3.trans HBLd.out.me)]; rfl
        have fz := blk_frozen (hM3.trans HBLd.out.me) 1
        have HS1 := hide (HSW.out _ HBd.out)
        have HSa := hide (HSW.out _ (Below.step HBd.out HBa.out))
        have keep : ∀ (a : Addr) (v : Value), a.block < w1.heap.size → wd.cell? a = some v → w3.cell? a = some v := fun a v hl hc => (World.cell?_of_block (hgw.block a.block (cell_lt hc) fun e => by have := HBLd.out.nodes.new _ e.symm; omega)).trans hc
        have HSb : Hid ((fun W : World => W.cell? ⟨b, off + p * 4, none⟩ = some (.int .i64 xo) ∧ W.cell? ⟨b, off + p * 4 + 1, none⟩ = some (.int .i64 xa) ∧ W.cell? ⟨b, off + p * 4 + 2, none⟩ = some (.int .i64 xb)) w3) := hide ⟨keep _ _ HLOW.out (HSW.out _ HBd.out).1, keep _ _ HLOW.out (HSW.out _ HBd.out).2.1, keep _ _ HLOW.out (HSW.out _ HBd.out).2.2⟩
        have HSc : Hid ((fun W : World => W.cell? ⟨b, off + p * 4, none⟩ = some (.int .i64 xo) ∧ W.cell? ⟨b, off + p * 4 + 1, none⟩ = some (.int .i64 xa) ∧ W.cell? ⟨b, off + p * 4 + 2, none⟩ = some (.int .i64 xb)) (w3.setCell ⟨w1.heap.size + 1, 1, none⟩ (.slice na' (ms.length + 1) nc'))) := hide (by
          have st : ∀ (a : Addr) (v : Value), a.block < w1.heap.size → w3.cell? a = some v → (w3.setCell ⟨w1.heap.size + 1, 1, none⟩ (.slice na' (ms.length + 1) nc')).cell? a = some v := fun a v hl hc => (World.cell?_of_block (Below.heap_setCell _ _ _ _ (by show a.block ≠ w1.heap.size + 1; omega))).trans hc
          exact ⟨st _ _ HLOW.out HSb.out.1, st _ _ HLOW.out HSb.out.2.1, st _ _ HLOW.out HSb.out.2.2⟩)
        clear hm hg hnb hgw hM3 keep hML
        refine wpAnyH_take (i := 0) (oi := ⟨some 38, _, _, _, _, _⟩) (v := .pointer (some ⟨w1.heap.size + 1, 1, none⟩)) rfl (by kernel_rfl) (by kernel_rfl) (by kernel_rfl) (fun _ _ _ h => h) (Or.inl ⟨by rfl, fun W hS => by (obtain ⟨s0, s1, s2⟩ := hS; go_simp)⟩) HS1.out ?_
        simp only [Act.put, List.setIfInBounds_toArray, List.set_cons_zero, List.set_cons_succ]
        refine wpAnyH_take (i := 2) (oi := ⟨some 40, _, _, _, _, _⟩) (v := .agg #[.int .i64 5, .int .i64 6, .int .i64 7, .int .i64 8]) rfl (by kernel_rfl) (by kernel_rfl) (by kernel_rfl) (fun _ _ _ h => h) (Or.inl ⟨by rfl, fun W hS => by (obtain ⟨s0, s1, s2⟩ := hS; go_simp)⟩) HS1.out ?_
        simp only [Act.put, List.setIfInBounds_toArray, List.set_cons_zero, List.set_cons_succ]
        refine wpAnyH_take (i := 3) (oi := ⟨some 41, _, _, _, _, _⟩) (v := .slice (some ⟨b, off, none⟩) ls.length lc) rfl (by kernel_rfl) (by kernel_rfl) (by kernel_rfl) (fun _ _ _ h => h) (Or.inl ⟨by rfl, fun W hS => by (obtain ⟨s0, s1, s2⟩ := hS; go_simp)⟩) HS1.out ?_
        simp only [Act.put, List.setIfInBounds_toArray, List.set_cons_zero, List.set_cons_succ]
        refine wpAnyH_take (i := 4) (oi := ⟨some 42, _, _, _, _, _⟩) (v := .int .i64 p) rfl (by kernel_rfl) (by kernel_rfl) (by kernel_rfl) (fun _ _ _ h => h) (Or.inl ⟨by rfl, fun W hS => by (obtain ⟨s0, s1, s2⟩ := hS; go_simp)⟩) HS1.out ?_
        simp only [Act.put, List.setIfInBounds_toArray, List.set_cons_zero, List.set_cons_succ]
        refine wpAnyH_take (i := 5) (oi := ⟨some 43, _, _, _, _, _⟩) (v := .pointer (some ⟨b, off + p * 4, none⟩)) rfl (by kernel_rfl) (by kernel_rfl) (by kernel_rfl) (fun _ _ _ h => h) (Or.inl ⟨by rfl, fun W hS => by (obtain ⟨s0, s1, s2⟩ := hS; go_simp)⟩) HS1.out ?_
        simp only [Act.put, List.setIfInBounds_toArray, List.set_cons_zero, List.set_cons_succ]
        refine wpAnyH_take (i := 6) (oi := ⟨some 44, _, _, _, _, _⟩) (v := .pointer (some ⟨b, off + p * 4, none⟩)) rfl (by kernel_rfl) (by kernel_rfl) (by kernel_rfl) (fun _ _ _ h => h) (Or.inl ⟨by rfl, fun W hS => by (obtain ⟨s0, s1, s2⟩ := hS; go_simp)⟩) HS1.out ?_
        simp only [Act.put, List.setIfInBounds_toArray, List.set_cons_zero, List.set_cons_succ]
        refine wpAnyH_take (i := 7) (oi := ⟨some 45, _, _, _, _, _⟩) (v := .int .i64 xo) rfl (by kernel_rfl) (by kernel_rfl) (by kernel_rfl) (fun _ _ _ h => h) (Or.inl ⟨by rfl, fun W hS => by (obtain ⟨s0, s1, s2⟩ := hS; go_simp)⟩) HS1.out ?_
        simp only [Act.put, List.setIfInBounds_toArray, List.set_cons_zero, List.set_cons_succ]
        refine wpAnyH_take (i := 10) (oi := ⟨some 48, _, _, _, _, _⟩) (v := .slice (some ⟨b, off, none⟩) ls.length lc) rfl (by kernel_rfl) (by kernel_rfl) (by kernel_rfl) (fun _ _ _ h => h) (Or.inl ⟨by rfl, fun W hS => by (obtain ⟨s0, s1, s2⟩ := hS; go_simp)⟩) HS1.out ?_
        simp only [Act.put, List.setIfInBounds_toArray, List.set_cons_zero, List.set_cons_succ]
        refine wpAnyH_take (i := 11) (oi := ⟨some 49, _, _, _, _, _⟩) (v := .int .i64 p) rfl (by kernel_rfl) (by kernel_rfl) (by kernel_rfl) (fun _ _ _ h => h) (Or.inl ⟨by rfl, fun W hS => by (obtain ⟨s0, s1, s2⟩ := hS; go_simp)⟩) HS1.out ?_
        simp only [Act.put, List.setIfInBounds_toArray, List.set_cons_zero, List.set_cons_succ]
        refine wpAnyH_take (i := 12) (oi := ⟨some 50, _, _, _, _, _⟩) (v := .pointer (some ⟨b, off + p * 4, none⟩)) rfl (by kernel_rfl) (by kernel_rfl) (by kernel_rfl) (fun _ _ _ h => h) (Or.inl ⟨by rfl, fun W hS => by (obtain ⟨s0, s1, s2⟩ := hS; go_simp)⟩) HS1.out ?_
        simp only [Act.put, List.setIfInBounds_toArray, List.set_cons_zero, List.set_cons_succ]
        refine wpAnyH_take (i := 13) (oi := ⟨some 51, _, _, _, _, _⟩) (v := .pointer (some ⟨b, off + p * 4 + 1, none⟩)) rfl (by kernel_rfl) (by kernel_rfl) (by kernel_rfl) (fun _ _ _ h => h) (Or.inl ⟨by rfl, fun W hS => by (obtain ⟨s0, s1, s2⟩ := hS; go_simp)⟩) HS1.out ?_
        simp only [Act.put, List.setIfInBounds_toArray, List.set_cons_zero, List.set_cons_succ]
        refine wpAnyH_take (i := 14) (oi := ⟨some 52, _, _, _, _, _⟩) (v := .int .i64 xa) rfl (by kernel_rfl) (by kernel_rfl) (by kernel_rfl) (fun _ _ _ h => h) (Or.inl ⟨by rfl, fun W hS => by (obtain ⟨s0, s1, s2⟩ := hS; go_simp)⟩) HS1.out ?_
        simp only [Act.put, List.setIfInBounds_toArray, List.set_cons_zero, List.set_cons_succ]
        refine wpAnyH_take (i := 15) (oi := ⟨some 53, _, _, _, _, _⟩) (v := .int .i64 ms.length) rfl (by kernel_rfl) (by kernel_rfl) (by kernel_rfl) (fun _ _ _ h => h) (Or.inl ⟨by rfl, fun W hS => by (obtain ⟨s0, s1, s2⟩ := hS; go_simp)⟩) HS1.out ?_
        simp only [Act.put, List.setIfInBounds_toArray, List.set_cons_zero, List.set_cons_succ]
        refine wpAnyH_take (i := 17) (oi := ⟨some 55, _, _, _, _, _⟩) (v := .slice (some ⟨b, off, none⟩) ls.length lc) rfl (by kernel_rfl) (by kernel_rfl) (by kernel_rfl) (fun _ _ _ h => h) (Or.inl ⟨by rfl, fun W hS => by (obtain ⟨s0, s1, s2⟩ := hS; go_simp)⟩) HS1.out ?_
        simp only [Act.put, List.setIfInBounds_toArray, List.set_cons_zero, List.set_cons_succ]
        refine wpAnyH_take (i := 18) (oi := ⟨some 56, _, _, _, _, _⟩) (v := .int .i64 p) rfl (by kernel_rfl) (by kernel_rfl) (by kernel_rfl) (fun _ _ _ h => h) (Or.inl ⟨by rfl, fun W hS => by (obtain ⟨s0, s1, s2⟩ := hS; go_simp)⟩) HS1.out ?_
        simp only [Act.put, List.setIfInBounds_toArray, List.set_cons_zero, List.set_cons_succ]
        refine wpAnyH_take (i := 19) (oi := ⟨some 57, _, _, _, _, _⟩) (v := .pointer (some ⟨b, off + p * 4, none⟩)) rfl (by kernel_rfl) (by kernel_rfl) (by kernel_rfl) (fun _ _ _ h => h) (Or.inl ⟨by rfl, fun W hS => by (obtain ⟨s0, s1, s2⟩ := hS; go_simp)⟩) HS1.out ?_
        simp only [Act.put, List.setIfInBounds_toArray, List.set_cons_zero, List.set_cons_succ]
        refine wpAnyH_take (i := 20) (oi := ⟨some 58, _, _, _, _, _⟩) (v := .pointer (some ⟨b, off + p * 4 + 2, none⟩)) rfl (by kernel_rfl) (by kernel_rfl) (by kernel_rfl) (fun _ _ _ h => h) (Or.inl ⟨by rfl, fun W hS => by (obtain ⟨s0, s1, s2⟩ := hS; go_simp)⟩) HS1.out ?_
        simp only [Act.put, List.setIfInBounds_toArray, List.set_cons_zero, List.set_cons_succ]
        refine wpAnyH_take (i := 21) (oi := ⟨some 59, _, _, _, _, _⟩) (v := .int .i64 xb) rfl (by kernel_rfl) (by kernel_rfl) (by kernel_rfl) (fun _ _ _ h => h) (Or.inl ⟨by rfl, fun W hS => by (obtain ⟨s0, s1, s2⟩ := hS; go_simp)⟩) HS1.out ?_
        simp only [Act.put, List.setIfInBounds_toArray, List.set_cons_zero, List.set_cons_succ]
        refine wpAnyH_take (i := 22) (oi := ⟨some 60, _, _, _, _, _⟩) (v := .int .i64 ms.length) rfl (by kernel_rfl) (by kernel_rfl) (by kernel_rfl) (fun _ _ _ h => h) (Or.inl ⟨by rfl, fun W hS => by (obtain ⟨s0, s1, s2⟩ := hS; go_simp)⟩) HS1.out ?_
        simp only [Act.put, List.setIfInBounds_toArray, List.set_cons_zero, List.set_cons_succ]
        refine wpAnyH_ready (rs := [1, 8]) (by kernel_rfl) (by simp) ?_
        refine AllReadyH.cons rfl (fun K hK => ?_) (AllReadyH.cons rfl (fun K hK => ?_) AllReadyH.nil)
        · go_simp
          refine hK.out _ _ HS1.out (fun _ => ?_)
          clear hK K
          refine wpAnyH_ready (rs := [8]) (by kernel_rfl) (by simp) ?_
          refine AllReadyH.cons rfl (fun K hK => ?_) AllReadyH.nil
          go_simp
          refine (HPK.out _).mono ?_
          rintro e w' ⟨rfl, rfl⟩
          refine hK.out _ _ HS1.out (fun _ => ?_)
          clear hK K
          refine wpAnyH_take (i := 9) (oi := ⟨some 47, _, _, _, _, _⟩) (v := .int .i64 8) rfl (by kernel_rfl) (by kernel_rfl) (by kernel_rfl) (fun _ _ _ h => h) (Or.inl ⟨by rfl, fun W hS => by (obtain ⟨s0, s1, s2⟩ := hS; go_simp; try rfl)⟩) HS1.out ?_
          simp only [Act.put, List.setIfInBounds_toArray, List.set_cons_zero, List.set_cons_succ]
          refine wpAnyH_ready (rs := [16]) (by kernel_rfl) (by simp) ?_
          refine AllReadyH.cons rfl (fun K hK => ?_) AllReadyH.nil
          go_simp
          refine (HPKa.out _).mono ?_
          rintro e w' ⟨rfl, rfl⟩
          refine hK.out _ _ HS1.out (fun _ => ?_)
          clear hK K
          refine wpAnyH_ready (rs := [23]) (by kernel_rfl) (by simp) ?_
          refine AllReadyH.cons rfl (fun K hK => ?_) AllReadyH.nil
          go_simp
          refine (HPKb.out _).mono ?_
          rintro e w' ⟨rfl, rfl⟩
          refine hK.out _ _ HS1.out (fun _ => ?_)
          clear hK K
          refine wpAnyH_take (i := 24) (oi := ⟨some 62, _, _, _, _, _⟩) (v := .agg #[.int .i64 8, .int .i64 pa, .int .i64 pb, .int .i64 0]) rfl (by kernel_rfl) (by kernel_rfl) (by kernel_rfl) (fun _ _ _ h => h) (Or.inl ⟨by rfl, fun W hS => by (obtain ⟨s0, s1, s2⟩ := hS; go_simp)⟩) HS1.out ?_
          simp only [Act.put, List.setIfInBounds_toArray, List.set_cons_zero, List.set_cons_succ]
          refine wpAnyH_ready (rs := [25]) (by kernel_rfl) (by simp) ?_
          refine AllReadyH.cons rfl (fun K hK => ?_) AllReadyH.nil
          go_simp
          refine hK.out _ _ HSa.out (fun _ => ?_)
          clear hK K
          refine wpAnyH_ready (rs := [26]) (by kernel_rfl) (by simp) ?_
          refine AllReadyH.cons rfl (fun K hK => ?_) AllReadyH.nil
          refine (if_pos (by kernel_rfl)).mpr ?_
          refine wp_append_run happ _ _ rfl rfl rfl ?_
          simp only [Act.put, List.setIfInBounds_toArray, List.set_cons_zero, List.set_cons_succ, List.getElem_toArray, List.getElem_cons_succ, List.getElem_cons_zero]
          refine hK.out _ _ HSb.out (fun _ => ?_)
          clear hK K happ
          refine wpAnyH_take (i := 27) (oi := ⟨some 65, _, _, _, _, _⟩) (v := .pointer (some ⟨w1.heap.size + 1, 1, none⟩)) rfl (by kernel_rfl) (by kernel_rfl) (by kernel_rfl) (fun _ _ _ h => h) (Or.inl ⟨by rfl, fun W hS => by (obtain ⟨s0, s1, s2⟩ := hS; go_simp)⟩) HSb.out ?_
          simp only [Act.put, List.setIfInBounds_toArray, List.set_cons_zero, List.set_cons_succ]
          refine wpAnyH_ready (rs := [28]) (by kernel_rfl) (by simp) ?_
          refine AllReadyH.cons rfl (fun K hK => ?_) AllReadyH.nil
          go_simp
          refine hK.out _ _ HSc.out (fun _ => ?_)
          clear hK K
          refine wpAnyH_done (by kernel_rfl) ?_ _
          clear c0 c0a c3 fz
          go_wp2_with fail
          exact ⟨⟨p + 1, na', nc', ms ++ [(⟨8, pa, pb, 0⟩ : Nd)], by omega, by go_num, by have := HML.out; simp only [List.length_append, List.length_cons, List.length_nil]; omega, hide (HGK.out.snoc (.inr (.inr (.inr rfl))) HPA.out HPB.out), HNEW⟩, by simp [intOf]; omega⟩
        · go_simp
          refine (HPK.out _).mono ?_
          rintro e w' ⟨rfl, rfl⟩
          refine hK.out _ _ HS1.out (fun _ => ?_)
          clear hK K
          refine wpAnyH_take (i := 9) (oi := ⟨some 47, _, _, _, _, _⟩) (v := .int .i64 8) rfl (by kernel_rfl) (by kernel_rfl) (by kernel_rfl) (fun _ _ _ h => h) (Or.inl ⟨by rfl, fun W hS => by (obtain ⟨s0, s1, s2⟩ := hS; go_simp; try rfl)⟩) HS1.out ?_
          simp only [Act.put, List.setIfInBounds_toArray, List.set_cons_zero, List.set_cons_succ]
          refine wpAnyH_ready (rs := [1, 16]) (by kernel_rfl) (by simp) ?_
          refine AllReadyH.cons rfl (fun K hK => ?_) (AllReadyH.cons rfl (fun K hK => ?_) AllReadyH.nil)
          · go_simp
            refine hK.out _ _ HS1.out (fun _ => ?_)
            clear hK K
            refine wpAnyH_ready (rs := [16]) (by kernel_rfl) (by simp) ?_
            refine AllReadyH.cons rfl (fun K hK => ?_) AllReadyH.nil
            go_simp
            refine (HPKa.out _).mono ?_
            rintro e w' ⟨rfl, rfl⟩
            refine hK.out _ _ HS1.out (fun _ => ?_)
            clear hK K
            refine wpAnyH_ready (rs := [23]) (by kernel_rfl) (by simp) ?_
            refine AllReadyH.cons rfl (fun K hK => ?_) AllReadyH.nil
            go_simp
            refine (HPKb.out _).mono ?_
            rintro e w' ⟨rfl, rfl⟩
            refine hK.out _ _ HS1.out (fun _ => ?_)
            clear hK K
            refine wpAnyH_take (i := 24) (oi := ⟨some 62, _, _, _, _, _⟩) (v := .agg #[.int .i64 8, .int .i64 pa, .int .i64 pb, .int .i64 0]) rfl (by kernel_rfl) (by kernel_rfl) (by kernel_rfl) (fun _ _ _ h => h) (Or.inl ⟨by rfl, fun W hS => by (obtain ⟨s0, s1, s2⟩ := hS; go_simp)⟩) HS1.out ?_
            simp only [Act.put, List.setIfInBounds_toArray, List.set_cons_zero, List.set_cons_succ]
            refine wpAnyH_ready (rs := [25]) (by kernel_rfl) (by simp) ?_
            refine AllReadyH.cons rfl (fun K hK => ?_) AllReadyH.nil
            go_simp
            refine hK.out _ _ HSa.out (fun _ => ?_)
            clear hK K
            refine wpAnyH_ready (rs := [26]) (by kernel_rfl) (by simp) ?_
            refine AllReadyH.cons rfl (fun K hK => ?_) AllReadyH.nil
            refine (if_pos (by kernel_rfl)).mpr ?_
            refine wp_append_run happ _ _ rfl rfl rfl ?_
            simp only [Act.put, List.setIfInBounds_toArray, List.set_cons_zero, List.set_cons_succ, List.getElem_toArray, List.getElem_cons_succ, List.getElem_cons_zero]
            refine hK.out _ _ HSb.out (fun _ => ?_)
            clear hK K happ
            refine wpAnyH_take (i := 27) (oi := ⟨some 65, _, _, _, _, _⟩) (v := .pointer (some ⟨w1.heap.size + 1, 1, none⟩)) rfl (by kernel_rfl) (by kernel_rfl) (by kernel_rfl) (fun _ _ _ h => h) (Or.inl ⟨by rfl, fun W hS => by (obtain ⟨s0, s1, s2⟩ := hS; go_simp)⟩) HSb.out ?_
            simp only [Act.put, List.setIfInBounds_toArray, List.set_cons_zero, List.set_cons_succ]
            refine wpAnyH_ready (rs := [28]) (by kernel_rfl) (by simp) ?_
            refine AllReadyH.cons rfl (fun K hK => ?_) AllReadyH.nil
            go_simp
            refine hK.out _ _ HSc.out (fun _ => ?_)
            clear hK K
            refine wpAnyH_done (by kernel_rfl) ?_ _
            clear c0 c0a c3 fz
            go_wp2_with fail
            exact ⟨⟨p + 1, na', nc', ms ++ [(⟨8, pa, pb, 0⟩ : Nd)], by omega, by go_num, by have := HML.out; simp only [List.length_append, List.length_cons, List.length_nil]; omega, hide (HGK.out.snoc (.inr (.inr (.inr rfl))) HPA.out HPB.out), HNEW⟩, by simp [intOf]; omega⟩
          · go_simp
            refine (HPKa.out _).mono ?_
            rintro e w' ⟨rfl, rfl⟩
            refine hK.out _ _ HS1.out (fun _ => ?_)
            clear hK K
            refine wpAnyH_ready (rs := [1, 23]) (by kernel_rfl) (by simp) ?_
            refine AllReadyH.cons rfl (fun K hK => ?_) (AllReadyH.cons rfl (fun K hK => ?_) AllReadyH.nil)
            · go_simp
              refine hK.out _ _ HS1.out (fun _ => ?_)
              clear hK K
              refine wpAnyH_ready (rs := [23]) (by kernel_rfl) (by simp) ?_
              refine AllReadyH.cons rfl (fun K hK => ?_) AllReadyH.nil
              go_simp
              refine (HPKb.out _).mono ?_
              rintro e w' ⟨rfl, rfl⟩
              refine hK.out _ _ HS1.out (fun _ => ?_)
              clear hK K
              refine wpAnyH_take (i := 24) (oi := ⟨some 62, _, _, _, _, _⟩) (v := .agg #[.int .i64 8, .int .i64 pa, .int .i64 pb, .int .i64 0]) rfl (by kernel_rfl) (by kernel_rfl) (by kernel_rfl) (fun _ _ _ h => h) (Or.inl ⟨by rfl, fun W hS => by (obtain ⟨s0, s1, s2⟩ := hS; go_simp)⟩) HS1.out ?_
              simp only [Act.put, List.setIfInBounds_toArray, List.set_cons_zero, List.set_cons_succ]
              refine wpAnyH_ready (rs := [25]) (by kernel_rfl) (by simp) ?_
              refine AllReadyH.cons rfl (fun K hK => ?_) AllReadyH.nil
              go_simp
              refine hK.out _ _ HSa.out (fun _ => ?_)
              clear hK K
              refine wpAnyH_ready (rs := [26]) (by kernel_rfl) (by simp) ?_
              refine AllReadyH.cons rfl (fun K hK => ?_) AllReadyH.nil
              refine (if_pos (by kernel_rfl)).mpr ?_
              refine wp_append_run happ _ _ rfl rfl rfl ?_
              simp only [Act.put, List.setIfInBounds_toArray, List.set_cons_zero, List.set_cons_succ, List.getElem_toArray, List.getElem_cons_succ, List.getElem_cons_zero]
              refine hK.out _ _ HSb.out (fun _ => ?_)
              clear hK K happ
              refine wpAnyH_take (i := 27) (oi := ⟨some 65, _, _, _, _, _⟩) (v := .pointer (some ⟨w1.heap.size + 1, 1, none⟩)) rfl (by kernel_rfl) (by kernel_rfl) (by kernel_rfl) (fun _ _ _ h => h) (Or.inl ⟨by rfl, fun W hS => by (obtain ⟨s0, s1, s2⟩ := hS; go_simp)⟩) HSb.out ?_
              simp only [Act.put, List.setIfInBounds_toArray, List.set_cons_zero, List.set_cons_succ]
              refine wpAnyH_ready (rs := [28]) (by kernel_rfl) (by simp) ?_
              refine AllReadyH.cons rfl (fun K hK => ?_) AllReadyH.nil
              go_simp
              refine hK.out _ _ HSc.out (fun _ => ?_)
              clear hK K
              refine wpAnyH_done (by kernel_rfl) ?_ _
              clear c0 c0a c3 fz
              go_wp2_with fail
              exact ⟨⟨p + 1, na', nc', ms ++ [(⟨8, pa, pb, 0⟩ : Nd)], by omega, by go_num, by have := HML.out; simp only [List.length_append, List.length_cons, List.length_nil]; omega, hide (HGK.out.snoc (.inr (.inr (.inr rfl))) HPA.out HPB.out), HNEW⟩, by simp [intOf]; omega⟩
            · go_simp
              refine (HPKb.out _).mono ?_
              rintro e w' ⟨rfl, rfl⟩
              refine hK.out _ _ HS1.out (fun _ => ?_)
              clear hK K
              refine wpAnyH_take (i := 24) (oi := ⟨some 62, _, _, _, _, _⟩) (v := .agg #[.int .i64 8, .int .i64 pa, .int .i64 pb, .int .i64 0]) rfl (by kernel_rfl) (by kernel_rfl) (by kernel_rfl) (fun _ _ _ h => h) (Or.inl ⟨by rfl, fun W hS => by (obtain ⟨s0, s1, s2⟩ := hS; go_simp)⟩) HS1.out ?_
              simp only [Act.put, List.setIfInBounds_toArray, List.set_cons_zero, List.set_cons_succ]
              refine wpAnyH_ready (rs := [1, 25]) (by kernel_rfl) (by simp) ?_
              refine AllReadyH.cons rfl (fun K hK => ?_) (AllReadyH.cons rfl (fun K hK => ?_) AllReadyH.nil)
              · go_simp
                refine hK.out _ _ HS1.out (fun _ => ?_)
                clear hK K
                refine wpAnyH_ready (rs := [25]) (by kernel_rfl) (by simp) ?_
                refine AllReadyH.cons rfl (fun K hK => ?_) AllReadyH.nil
                go_simp
                refine hK.out _ _ HSa.out (fun _ => ?_)
                clear hK K
                refine wpAnyH_ready (rs := [26]) (by kernel_rfl) (by simp) ?_
                refine AllReadyH.cons rfl (fun K hK => ?_) AllReadyH.nil
                refine (if_pos (by kernel_rfl)).mpr ?_
                refine wp_append_run happ _ _ rfl rfl rfl ?_
                simp only [Act.put, List.setIfInBounds_toArray, List.set_cons_zero, List.set_cons_succ, List.getElem_toArray, List.getElem_cons_succ, List.getElem_cons_zero]
                refine hK.out _ _ HSb.out (fun _ => ?_)
                clear hK K happ
                refine wpAnyH_take (i := 27) (oi := ⟨some 65, _, _, _, _, _⟩) (v := .pointer (some ⟨w1.heap.size + 1, 1, none⟩)) rfl (by kernel_rfl) (by kernel_rfl) (by kernel_rfl) (fun _ _ _ h => h) (Or.inl ⟨by rfl, fun W hS => by (obtain ⟨s0, s1, s2⟩ := hS; go_simp)⟩) HSb.out ?_
                simp only [Act.put, List.setIfInBounds_toArray, List.set_cons_zero, List.set_cons_succ]
                refine wpAnyH_ready (rs := [28]) (by kernel_rfl) (by simp) ?_
                refine AllReadyH.cons rfl (fun K hK => ?_) AllReadyH.nil
                go_simp
                refine hK.out _ _ HSc.out (fun _ => ?_)
                clear hK K
                refine wpAnyH_done (by kernel_rfl) ?_ _
                clear c0 c0a c3 fz
                go_wp2_with fail
                exact ⟨⟨p + 1, na', nc', ms ++ [(⟨8, pa, pb, 0⟩ : Nd)], by omega, by go_num, by have := HML.out; simp only [List.length_append, List.length_cons, List.length_nil]; omega, hide (HGK.out.snoc (.inr (.inr (.inr rfl))) HPA.out HPB.out), HNEW⟩, by simp [intOf]; omega⟩
              · go_simp
                refine hK.out _ _ HSa.out (fun _ => ?_)
                clear hK K
                refine wpAnyH_ready (rs := [1]) (by kernel_rfl) (by simp) ?_
                refine AllReadyH.cons rfl (fun K hK => ?_) AllReadyH.nil
                go_simp
                refine hK.out _ _ HSa.out (fun _ => ?_)
                clear hK K
                refine wpAnyH_ready (rs := [26]) (by kernel_rfl) (by simp) ?_
                refine AllReadyH.cons rfl (fun K hK => ?_) AllReadyH.nil
                refine (if_pos (by kernel_rfl)).mpr ?_
                refine wp_append_run happ _ _ rfl rfl rfl ?_
                simp only [Act.put, List.setIfInBounds_toArray, List.set_cons_zero, List.set_cons_succ, List.getElem_toArray, List.getElem_cons_succ, List.getElem_cons_zero]
                refine hK.out _ _ HSb.out (fun _ => ?_)
                clear hK K happ
                refine wpAnyH_take (i := 27) (oi := ⟨some 65, _, _, _, _, _⟩) (v := .pointer (some ⟨w1.heap.size + 1, 1, none⟩)) rfl (by kernel_rfl) (by kernel_rfl) (by kernel_rfl) (fun _ _ _ h => h) (Or.inl ⟨by rfl, fun W hS => by (obtain ⟨s0, s1, s2⟩ := hS; go_simp)⟩) HSb.out ?_
                simp only [Act.put, List.setIfInBounds_toArray, List.set_cons_zero, List.set_cons_succ]
                refine wpAnyH_ready (rs := [28]) (by kernel_rfl) (by simp) ?_
                refine AllReadyH.cons rfl (fun K hK => ?_) AllReadyH.nil
                go_simp
                refine hK.out _ _ HSc.out (fun _ => ?_)
                clear hK K
                refine wpAnyH_done (by kernel_rfl) ?_ _
                clear c0 c0a c3 fz
                go_wp2_with fail
                exact ⟨⟨p + 1, na', nc', ms ++ [(⟨8, pa, pb, 0⟩ : Nd)], by omega, by go_num, by have := HML.out; simp only [List.length_append, List.length_cons, List.length_nil]; omega, hide (HGK.out.snoc (.inr (.inr (.inr rfl))) HPA.out HPB.out), HNEW⟩, by simp [intOf]; omega⟩
    · have hpi : ¬ (p : Int) < (ls.length : Int) := by omega
      have HGKz := hide HGK.out
      go_wp2_with fail
      go_loopw [8] (fun i wr => ∃ j oa1 oc1 mo, j ≤ ol.length ∧ i = .int .i64 (j : Nat) ∧ mo.length = j ∧ Hid (OK mo ms.length) ∧ Hid (Bld w1.heap.size w1 wr (w1.heap.size + 1) 0 na nc oa1 oc1 ms mo)) (fun i _ => ol.length - (intOf i).toNat)
      case atStart => exact ⟨0, none, 0, [], Nat.zero_le _, rfl, rfl, hide fun i hi => absurd hi (Nat.not_lt_zero _), hbl⟩
      case round =>
        obtain ⟨j, oa1, oc1, mo, hj, rfl, hmo, HOK, hbl⟩ := hrel
        have HMO := hide hmo
        clear hmo
        by_cases hlj : j < ol.length
        · have hji : (j : Int) < (ol.length : Int) := by omega
          have HZ1 : Hid (w.heap.size ≤ w1.heap.size) := hide HB1.out.size
          obtain ⟨bo, oo, ha, hbw, hbl1, co⟩ := (HO1.out.same fun b hb hl => hbl.out.below.block b hl).ints hlj
          have HA : Hid (oa = some ⟨bo, oo, none⟩) := hide ha
          have HLOW : Hid (bo < w1.heap.size) := hide (Nat.lt_of_lt_of_le hbw HZ1.out)
          generalize outAt ol j = xo at co
          have HPV := hide (pickN_in xo (n := ms.length) hm0 hm100)
          have HPK := hide fun W => pick_at xo ms.length hm0 hm100 W
          generalize pickN xo ms.length = pv at *
          rw [HA.out]
          clear ha hbl1 hbw hm0 hm100
          go_wp2_with fail
          have HSW : Hid (∀ W, Bld w1.heap.size w1 W (w1.heap.size + 1) 0 na nc oa1 oc1 ms mo → Below wr.heap.size wr W → (fun W : World => W.cell? ⟨w1.heap.size + 1, 1, none⟩ = some (.slice na ms.length nc) ∧ W.cell? ⟨bo, oo + j, none⟩ = some (.int .i64 xo)) W) := hide fun W h1 hb => ⟨by rw [blk_cell h1.me]; rfl, bcell hb co⟩
          have HBd : Hid (Below wr.heap.size wr wr.drew) := hide (Below.refl _ _).drew
          have HBLd := hide (hbl.out.more HBd.out)
          refine wp_region_held_drew (S := (fun W : World => W.cell? ⟨w1.heap.size + 1, 1, none⟩ = some (.slice na ms.length nc) ∧ W.cell? ⟨bo, oo + j, none⟩ = some (.int .i64 xo))) (by kernel_rfl) (HSW.out _ HBLd.out HBd.out) (fun _ => ?_)
          generalize hwd : wr.drew = wd at *
          clear hwd
          have HBa := hide (below_alloc wd (.cells #[.int .i64 pv] 3))
          have HEa := hide (blk_new wd (.cells #[.int .i64 pv] 3))
          obtain ⟨oa', oc', w3, happ, hm, hg, hnb⟩ := app_in (c := 1) (n' := mo.length + 1) (HBLd.out.outs.below HBa.out) rfl (new := [pv]) (m := 1) rfl rfl (Lies.blk (cs := intsC [pv]) HEa.out trivial) (Nat.le_trans HBLd.out.hB HBa.out.size) (by have := HMO.out; omega)
          have hgw : wd.grownBy w3 (Value.slice oa1 mo.length oc1).ownBlock := ⟨hg.os.trans HBa.out.os, hg.tape.trans HBa.out.tape, hg.output.trans HBa.out.output, Nat.le_trans HBa.out.size hg.size, fun k hk hne => (hg.block k (Nat.lt_of_lt_of_le hk HBa.out.size) hne).trans (HBa.out.block k hk)⟩
          have HNEW := hide (HBLd.out.addO (new := [pv]) (by rw [List.length_append]; rfl) hm hgw (fun b hb => (hnb b hb).imp id (fun h => Nat.le_trans HBa.out.size h)))
          have hML := blk_lt HBLd.out.me
          have hM3 : w3.heap[w1.heap.size + 1]? = wd.heap[w1.heap.size + 1]? := hgw.block _ hML fun e => HBLd.out.dq _ e.symm rfl
          have c0 : wd.cell? ⟨w1.heap.size + 1, 2, none⟩ = some (.slice oa1 mo.length oc1) := by rw [blk_cell HBLd.out.me]; rfl
          have c0a := cell_alloc c0 (.cells #[.int .i64 pv] 3)
          have c3 : w3.cell? ⟨w1.heap.size + 1, 2, none⟩ = some (.slice oa1 mo.length oc1) := by rw [blk_cell (hM3.trans HBLd.out.me)]; rfl
          have fz := blk_frozen (hM3.trans HBLd.out.me) 2
          have HS1 := hide (HSW.out _ HBLd.out HBd.out)
          have HSa := hide (HSW.out _ (HBLd.out.more HBa.out) (Below.step HBd.out HBa.out))
          have keep : ∀ (a : Addr) (v : Value), a.block < w1.heap.size → wd.cell? a = some v → w3.cell? a = some v := fun a v hl hc => (World.cell?_of_block (hgw.block a.block (cell_lt hc) fun e => by have := HBLd.out.outs.new _ e.symm; omega)).trans hc
          have HSb : Hid ((fun W : World => W.cell? ⟨w1.heap.size + 1, 1, none⟩ = some (.slice na ms.length nc) ∧ W.cell? ⟨bo, oo + j, none⟩ = some (.int .i64 xo)) w3) := hide ⟨by rw [blk_cell (hM3.trans HBLd.out.me)]; rfl, keep _ _ HLOW.out HS1.out.2⟩
          have HSc : Hid ((fun W : World => W.cell? ⟨w1.heap.size + 1, 1, none⟩ = some (.slice na ms.length nc) ∧ W.cell? ⟨bo, oo + j, none⟩ = some (.int .i64 xo)) (w3.setCell ⟨w1.heap.size + 1, 2, none⟩ (.slice oa' (mo.length + 1) oc'))) := hide (by
            have st : ∀ (a : Addr) (v : Value), a.block < w1.heap.size → w3.cell? a = some v → (w3.setCell ⟨w1.heap.size + 1, 2, none⟩ (.slice oa' (mo.length + 1) oc')).cell? a = some v := fun a v hl hc => (World.cell?_of_block (Below.heap_setCell _ _ _ _ (by show a.block ≠ w1.heap.size + 1; omega))).trans hc
            exact ⟨by rw [blk_cell HNEW.out.me]; rfl, st _ _ HLOW.out HSb.out.2⟩)
          clear hm hg hnb hgw hM3 keep hML
          refine wpAnyH_take (i := 0) (oi := ⟨some 72, _, _, _, _, _⟩) (v := .pointer (some ⟨w1.heap.size + 1, 2, none⟩)) rfl (by kernel_rfl) (by kernel_rfl) (by kernel_rfl) (fun _ _ _ h => h) (Or.inl ⟨by rfl, fun W hS => by (obtain ⟨s0, s1⟩ := hS; go_simp)⟩) HS1.out ?_
          simp only [Act.put, List.setIfInBounds_toArray, List.set_cons_zero, List.set_cons_succ]
          refine wpAnyH_take (i := 2) (oi := ⟨some 74, _, _, _, _, _⟩) (v := .slice (some ⟨bo, oo, none⟩) ol.length oc) rfl (by kernel_rfl) (by kernel_rfl) (by kernel_rfl) (fun _ _ _ h => h) (Or.inl ⟨by rfl, fun W hS => by (obtain ⟨s0, s1⟩ := hS; go_simp)⟩) HS1.out ?_
          simp only [Act.put, List.setIfInBounds_toArray, List.set_cons_zero, List.set_cons_succ]
          refine wpAnyH_take (i := 3) (oi := ⟨some 75, _, _, _, _, _⟩) (v := .int .i64 j) rfl (by kernel_rfl) (by kernel_rfl) (by kernel_rfl) (fun _ _ _ h => h) (Or.inl ⟨by rfl, fun W hS => by (obtain ⟨s0, s1⟩ := hS; go_simp)⟩) HS1.out ?_
          simp only [Act.put, List.setIfInBounds_toArray, List.set_cons_zero, List.set_cons_succ]
          refine wpAnyH_take (i := 4) (oi := ⟨some 76, _, _, _, _, _⟩) (v := .pointer (some ⟨bo, oo + j, none⟩)) rfl (by kernel_rfl) (by kernel_rfl) (by kernel_rfl) (fun _ _ _ h => h) (Or.inl ⟨by rfl, fun W hS => by (obtain ⟨s0, s1⟩ := hS; go_simp)⟩) HS1.out ?_
          simp only [Act.put, List.setIfInBounds_toArray, List.set_cons_zero, List.set_cons_succ]
          refine wpAnyH_take (i := 5) (oi := ⟨some 77, _, _, _, _, _⟩) (v := .int .i64 xo) rfl (by kernel_rfl) (by kernel_rfl) (by kernel_rfl) (fun _ _ _ h => h) (Or.inl ⟨by rfl, fun W hS => by (obtain ⟨s0, s1⟩ := hS; go_simp)⟩) HS1.out ?_
          simp only [Act.put, List.setIfInBounds_toArray, List.set_cons_zero, List.set_cons_succ]
          refine wpAnyH_take (i := 6) (oi := ⟨some 78, _, _, _, _, _⟩) (v := .pointer (some ⟨w1.heap.size + 1, 1, none⟩)) rfl (by kernel_rfl) (by kernel_rfl) (by kernel_rfl) (fun _ _ _ h => h) (Or.inl ⟨by rfl, fun W hS => by (obtain ⟨s0, s1⟩ := hS; go_simp)⟩) HS1.out ?_
          simp only [Act.put, List.setIfInBounds_toArray, List.set_cons_zero, List.set_cons_succ]
          refine wpAnyH_take (i := 7) (oi := ⟨some 79, _, _, _, _, _⟩) (v := .slice na ms.length nc) rfl (by kernel_rfl) (by kernel_rfl) (by kernel_rfl) (fun _ _ _ h => h) (Or.inl ⟨by rfl, fun W hS => by (obtain ⟨s0, s1⟩ := hS; go_simp)⟩) HS1.out ?_
          simp only [Act.put, List.setIfInBounds_toArray, List.set_cons_zero, List.set_cons_succ]
          refine wpAnyH_take (i := 8) (oi := ⟨some 80, _, _, _, _, _⟩) (v := .int .i64 ms.length) rfl (by kernel_rfl) (by kernel_rfl) (by kernel_rfl) (fun _ _ _ h => h) (Or.inl ⟨by rfl, fun W hS => by (obtain ⟨s0, s1⟩ := hS; go_simp)⟩) HS1.out ?_
          simp only [Act.put, List.setIfInBounds_toArray, List.set_cons_zero, List.set_cons_succ]
          refine wpAnyH_ready (rs := [1, 9]) (by kernel_rfl) (by simp) ?_
          refine AllReadyH.cons rfl (fun K hK => ?_) (AllReadyH.cons rfl (fun K hK => ?_) AllReadyH.nil)
          · go_simp
            refine hK.out _ _ HS1.out (fun _ => ?_)
            clear hK K
            refine wpAnyH_ready (rs := [9]) (by kernel_rfl) (by simp) ?_
            refine AllReadyH.cons rfl (fun K hK => ?_) AllReadyH.nil
            go_simp
            refine (HPK.out _).mono ?_
            rintro e w' ⟨rfl, rfl⟩
            refine hK.out _ _ HS1.out (fun _ => ?_)
            clear hK K
            refine wpAnyH_ready (rs := [10]) (by kernel_rfl) (by simp) ?_
            refine AllReadyH.cons rfl (fun K hK => ?_) AllReadyH.nil
            go_simp
            refine hK.out _ _ HSa.out (fun _ => ?_)
            clear hK K
            refine wpAnyH_ready (rs := [11]) (by kernel_rfl) (by simp) ?_
            refine AllReadyH.cons rfl (fun K hK => ?_) AllReadyH.nil
            refine (if_pos (by kernel_rfl)).mpr ?_
            refine wp_append_run happ _ _ rfl rfl rfl ?_
            simp only [Act.put, List.setIfInBounds_toArray, List.set_cons_zero, List.set_cons_succ, List.getElem_toArray, List.getElem_cons_succ, List.getElem_cons_zero]
            refine hK.out _ _ HSb.out (fun _ => ?_)
            clear hK K happ
            refine wpAnyH_take (i := 12) (oi := ⟨some 84, _, _, _, _, _⟩) (v := .pointer (some ⟨w1.heap.size + 1, 2, none⟩)) rfl (by kernel_rfl) (by kernel_rfl) (by kernel_rfl) (fun _ _ _ h => h) (Or.inl ⟨by rfl, fun W hS => by (obtain ⟨s0, s1⟩ := hS; go_simp)⟩) HSb.out ?_
            simp only [Act.put, List.setIfInBounds_toArray, List.set_cons_zero, List.set_cons_succ]
            refine wpAnyH_ready (rs := [13]) (by kernel_rfl) (by simp) ?_
            refine AllReadyH.cons rfl (fun K hK => ?_) AllReadyH.nil
            go_simp
            refine hK.out _ _ HSc.out (fun _ => ?_)
            clear hK K
            refine wpAnyH_done (by kernel_rfl) ?_ _
            clear c0 c0a c3 fz
            go_wp2_with fail
            exact ⟨⟨j + 1, oa', oc', mo ++ [pv], by omega, by go_num, by have := HMO.out; simp only [List.length_append, List.length_cons, List.length_nil]; omega, hide (HOK.out.snoc HPV.out), HNEW⟩, by simp [intOf]; omega⟩
          · go_simp
            refine (HPK.out _).mono ?_
            rintro e w' ⟨rfl, rfl⟩
            refine hK.out _ _ HS1.out (fun _ => ?_)
            clear hK K
            refine wpAnyH_ready (rs := [1, 10]) (by kernel_rfl) (by simp) ?_
            refine AllReadyH.cons rfl (fun K hK => ?_) (AllReadyH.cons rfl (fun K hK => ?_) AllReadyH.nil)
            · go_simp
              refine hK.out _ _ HS1.out (fun _ => ?_)
              clear hK K
              refine wpAnyH_ready (rs := [10]) (by kernel_rfl) (by simp) ?_
              refine AllReadyH.cons rfl (fun K hK => ?_) AllReadyH.nil
              go_simp
              refine hK.out _ _ HSa.out (fun _ => ?_)
              clear hK K
              refine wpAnyH_ready (rs := [11]) (by kernel_rfl) (by simp) ?_
              refine AllReadyH.cons rfl (fun K hK => ?_) AllReadyH.nil
              refine (if_pos (by kernel_rfl)).mpr ?_
              refine wp_append_run happ _ _ rfl rfl rfl ?_
              simp only [Act.put, List.setIfInBounds_toArray, List.set_cons_zero, List.set_cons_succ, List.getElem_toArray, List.getElem_cons_succ, List.getElem_cons_zero]
              refine hK.out _ _ HSb.out (fun _ => ?_)
              clear hK K happ
              refine wpAnyH_take (i := 12) (oi := ⟨some 84, _, _, _, _, _⟩) (v := .pointer (some ⟨w1.heap.size + 1, 2, none⟩)) rfl (by kernel_rfl) (by kernel_rfl) (by kernel_rfl) (fun _ _ _ h => h) (Or.inl ⟨by rfl, fun W hS => by (obtain ⟨s0, s1⟩ := hS; go_simp)⟩) HSb.out ?_
              simp only [Act.put, List.setIfInBounds_toArray, List.set_cons_zero, List.set_cons_succ]
              refine wpAnyH_ready (rs := [13]) (by kernel_rfl) (by simp) ?_
              refine AllReadyH.cons rfl (fun K hK => ?_) AllReadyH.nil
              go_simp
              refine hK.out _ _ HSc.out (fun _ => ?_)
              clear hK K
              refine wpAnyH_done (by kernel_rfl) ?_ _
              clear c0 c0a c3 fz
              go_wp2_with fail
              exact ⟨⟨j + 1, oa', oc', mo ++ [pv], by omega, by go_num, by have := HMO.out; simp only [List.length_append, List.length_cons, List.length_nil]; omega, hide (HOK.out.snoc HPV.out), HNEW⟩, by simp [intOf]; omega⟩
            · go_simp
              refine hK.out _ _ HSa.out (fun _ => ?_)
              clear hK K
              refine wpAnyH_ready (rs := [1]) (by kernel_rfl) (by simp) ?_
              refine AllReadyH.cons rfl (fun K hK => ?_) AllReadyH.nil
              go_simp
              refine hK.out _ _ HSa.out (fun _ => ?_)
              clear hK K
              refine wpAnyH_ready (rs := [11]) (by kernel_rfl) (by simp) ?_
              refine AllReadyH.cons rfl (fun K hK => ?_) AllReadyH.nil
              refine (if_pos (by kernel_rfl)).mpr ?_
              refine wp_append_run happ _ _ rfl rfl rfl ?_
              simp only [Act.put, List.setIfInBounds_toArray, List.set_cons_zero, List.set_cons_succ, List.getElem_toArray, List.getElem_cons_succ, List.getElem_cons_zero]
              refine hK.out _ _ HSb.out (fun _ => ?_)
              clear hK K happ
              refine wpAnyH_take (i := 12) (oi := ⟨some 84, _, _, _, _, _⟩) (v := .pointer (some ⟨w1.heap.size + 1, 2, none⟩)) rfl (by kernel_rfl) (by kernel_rfl) (by kernel_rfl) (fun _ _ _ h => h) (Or.inl ⟨by rfl, fun W hS => by (obtain ⟨s0, s1⟩ := hS; go_simp)⟩) HSb.out ?_
              simp only [Act.put, List.setIfInBounds_toArray, List.set_cons_zero, List.set_cons_succ]
              refine wpAnyH_ready (rs := [13]) (by kernel_rfl) (by simp) ?_
              refine AllReadyH.cons rfl (fun K hK => ?_) AllReadyH.nil
              go_simp
              refine hK.out _ _ HSc.out (fun _ => ?_)
              clear hK K
              refine wpAnyH_done (by kernel_rfl) ?_ _
              clear c0 c0a c3 fz
              go_wp2_with fail
              exact ⟨⟨j + 1, oa', oc', mo ++ [pv], by omega, by go_num, by have := HMO.out; simp only [List.length_append, List.length_cons, List.length_nil]; omega, hide (HOK.out.snoc HPV.out), HNEW⟩, by simp [intOf]; omega⟩
        · have hji : ¬ (j : Int) < (ol.length : Int) := by omega
          have HR : Hid (RightP 0 ms mo) := hide ⟨by decide, by decide, by have := HML.out; omega, by have := HMO.out; omega, fun i hi => HGKz.out.2 0 ms.length i hi, HOK.out⟩
          have HN : Hid (NetAt ⟨w1.heap.size + 1, na, nc, oa1, oc1⟩ AnyB wr 0 ms mo) := hide ⟨hbl.out.me, hbl.out.nodes.lies fun _ _ => trivial, hbl.out.outs.lies fun _ _ => trivial⟩
          have HBW : Hid (Below w.heap.size w wr) := hide (HB1.out.trans (hbl.out.below.mono HB1.out.size))
          have HCK := hide (clean_known HR.out HGKz.out.1)
          have HCR := hide (clean_right HR.out)
          have HCO := hide (clean_outs ms mo)
          have HFO := hide (first_outs HR.out [])
          go_wp2_with fail
          refine (clean_at HN.out HR.out).mono ?_
          rintro e w3 ⟨⟨sp, rfl, hs⟩, hb⟩
          have HS3 := hide hs
          have HN3 := hide (HN.out.below hb)
          have HB3 := hide (Below.step HBW.out hb)
          clear hs hb hbl HN HBW
          generalize cleanNs ms mo = l2 at *
          generalize cleanOs ms mo = o2 at *
          go_wp2_with fail
          refine (Gates_at HS3.out (by have := HCR.out.n1; omega)).mono ?_
          rintro e w4 ⟨rfl, hb⟩
          rw [HCK.out]
          have HS4 := hide (HS3.out.below hb)
          have HN4 := hide (HN3.out.below hb)
          have HB4 := hide (Below.step HB3.out hb)
          clear hb HS3 HN3 HB3
          have HRA := hide (Right_at HS4.out HCR.out.n1 HCR.out.o1)
          rw [rightP_iff.2 HCR.out] at HRA
          go_wp2_with fail
          refine HRA.out.mono ?_
          rintro e w5 ⟨rfl, hb⟩
          have HS5 := hide (HS4.out.below hb)
          have HN5 := hide (HN4.out.below hb)
          have HB5 := hide (Below.step HB4.out hb)
          clear hb HS4 HN4 HB4 HRA
          go_wp2_with fail
          refine (new_at HN5.out HR.out).mono ?_
          rintro e w6 ⟨⟨sa, rfl, hsa⟩, hb⟩
          have HSA := hide hsa
          have HS6 := hide (HS5.out.below hb)
          have HB6 := hide (Below.step HB5.out hb)
          have HZ6 : Hid (w.heap.size ≤ w5.heap.size) := hide HB5.out.size
          clear hb hsa HS5 HN5 HB5
          go_wp2_with fail
          refine (new_at HS6.out HCR.out).mono ?_
          rintro e w7 ⟨⟨sb, rfl, hsb⟩, hb⟩
          have HSB := hide hsb
          have HSA7 := hide (HSA.out.below hb)
          have HB7 := hide (Below.step HB6.out hb)
          have HZ7 : Hid (w.heap.size ≤ w6.heap.size) := hide HB6.out.size
          clear hb hsb HS6 HB6 HSA
          go_wp2_with fail
          refine (step_at (g := []) HSA7.out HR.out none 0 (.inl rfl) (by decide)).mono ?_
          rintro e w8 ⟨⟨O1, rfl, hO1, hr1⟩, hsa, hk⟩
          have HRO := hide hr1
          have HSB8 := hide (HSB.out.other hk (.inl HSA7.out.hin.2))
          have HHA : Hid (w.heap.size ≤ sa.h) := hide (Nat.le_trans HZ6.out HSA7.out.hin.1)
          have HB8 := hide (Below.keptOn HB7.out hk HHA.out HB7.out.size)
          have HO1 : Hid (O1 ≠ sb.h) := hide (by have := HSB.out.hin.2; omega)
          clear hr1 hsa hk hO1 HSA7 HSB HB7
          go_wp2_with fail
          refine (step_at (g := []) HSB8.out HCR.out none 0 (.inl rfl) (by decide)).mono ?_
          rintro e w9 ⟨⟨O2, rfl, hO2, hr2⟩, hsb, hk⟩
          have HRO2 := hide hr2
          have HRO9 := hide (hk.blk HRO.out HO1.out)
          have HB9 := hide (Below.keptOn HB8.out hk (Nat.le_trans HZ7.out HSB8.out.hin.1) HB8.out.size)
          clear hr2 hsb hk hO2 HSB8 HB8 HRO
          go_wp2_with fail
          refine (equal_is _ _ mo.length o2.length (outs_len _ _) (outs_len _ _) _ _ _ _ w9 (Lies.blk (S := AnyB) HRO9.out trivial) (Lies.blk (S := AnyB) HRO2.out trivial) (by have := HMO.out; omega) HFO.out).mono ?_
          rintro e w10 ⟨rfl, hb⟩
          have HB10 := hide (Below.step HB9.out hb)
          clear hb
          go_wp2_with fail
          go_ret
          exact ⟨rfl, HB10.out⟩

end Go.Proofs.Ytlnmemeejgnbeaa
