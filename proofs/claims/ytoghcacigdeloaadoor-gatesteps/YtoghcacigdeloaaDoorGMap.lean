/-
  REGISTERS IN A MAP: what is told of it; CONTRACT of the reference's First.
-/
import Derived.Test.YtoghcacigdeloaaDoorGApp
import Derived.Test.YtoghcacigdeloaaDoorGTwP
import Derived.Maps.RangeWalk
import Derived.Maps.OwnSet
import Derived.Maps.Ext
set_option linter.unusedSimpArgs false
set_option linter.unusedVariables false
namespace Go.Proofs.YtoghcacigdeloaaDoor
open Go.RowKit Go.Maps

theorem Below.keptOn {B R : Nat} {w0 w w' : World} (h : Below B w0 w) (hk : Kept R w w') (hR : B ≤ R) (hB : B ≤ w.heap.size) : Below B w0 w' :=
  ⟨hk.os.trans h.os, hk.tape.trans h.tape, hk.output.trans h.output, Nat.le_trans h.size hk.size, fun k hl => (hk.block k (Nat.lt_of_lt_of_le hl hB) (by omega)).trans (h.block k hl)⟩
theorem Below.grownOn {B : Nat} {w0 w w' : World} {row : Option Nat} (h : Below B w0 w) (hk : w.grownBy w' row) (hR : ∀ b, row = some b → B ≤ b) (hB : B ≤ w.heap.size) : Below B w0 w' :=
  ⟨hk.os.trans h.os, hk.tape.trans h.tape, hk.output.trans h.output, Nat.le_trans h.size hk.size, fun k hl => (hk.block k (Nat.lt_of_lt_of_le hl hB) (fun e => by have := hR k e.symm; omega)).trans (h.block k hl)⟩

theorem law3 : Keyed Tryd.prog 3 := int_keyed Tryd.underlying3
/-- a map of the registers among the first k nodes -/
structure RegD (ns : List Nd) (held : List Bool) (k : Nat) (D : DataW Unit) : Prop where
  only : ∀ x : Lit, Maps.has D x = true → ∃ i : Nat, x = .int .i64 (i : Int) ∧ i < k ∧ isReg (ndAt ns i) = true
  all : ∀ i : Nat, i < k → isReg (ndAt ns i) = true → Maps.has D (.int .i64 (i : Int)) = true ∧ ∀ z, D.atKey (.int .i64 (i : Int)) z = .lit (.bool (bit held i))
theorem RegD.skip {ns : List Nd} {held : List Bool} {k : Nat} {D : DataW Unit} (h : RegD ns held k D) (hk : isReg (ndAt ns k) = false) : RegD ns held (k + 1) D := by
  refine ⟨fun x hx => ?_, fun i hi hr => ?_⟩
  · obtain ⟨i, h1, h2, h3⟩ := h.only x hx
    exact ⟨i, h1, by omega, h3⟩
  · by_cases e : i = k
    · subst e; rw [hk] at hr; cases hr
    · exact h.all i (by omega) hr
theorem RegD.put {ns : List Nd} {held : List Bool} {k : Nat} {D : DataW Unit} (h : RegD ns held k D) (hm : IsMap D) (hk : isReg (ndAt ns k) = true) (b : Bool) (hb : bit held k = b) : RegD ns held (k + 1) (D.put (.int .i64 (k : Int)) (.lit (.bool b))) := by
  refine ⟨fun x hx => ?_, fun i hi hr => ?_⟩
  · by_cases e : x = .int .i64 (k : Int)
    · exact ⟨k, e, by omega, hk⟩
    · rw [has_put_other e] at hx
      obtain ⟨i, h1, h2, h3⟩ := h.only x hx
      exact ⟨i, h1, by omega, h3⟩
  · by_cases e : i = k
    · subst e
      have hkl : WideAt.IsKeyLit (.int .i64 (i : Int)) := trivial
      exact ⟨has_put_same hm hkl _, fun z => by rw [atKey_put_same hm hkl, hb]⟩
    · have hne : (Lit.int .i64 (i : Int)) ≠ .int .i64 (k : Int) := fun h => by injection h with h1 h2; omega
      obtain ⟨h1, h2⟩ := h.all i (by omega) hr
      exact ⟨by rw [has_put_other hne]; exact h1, fun z => by rw [atKey_put_other hne]; exact h2 z⟩
theorem RegD.empty (ns : List Nd) (held : List Bool) : RegD ns held 0 (.map []) := ⟨fun x hx => by simp [Maps.has_eq] at hx, fun i hi => absurd hi (Nat.not_lt_zero _)⟩
theorem plainElem_bool_inv {P : Program} {e : TypeId} (he : P.underlying e = some .bool) {v : Value} {z : DataW Unit × List MemPlace} (h : plainElem P e v = some z) : ∃ b, v = .bool b ∧ z = (.lit (.bool b), []) := by
  unfold plainElem at h
  rw [he] at h
  cases v <;> simp at h
  exact ⟨_, rfl, h.symm⟩
theorem zero4 (w : World) : (zeroValue 4).run Tryd.prog w = .ok (.bool false) w := by kernel_rfl
theorem wf_nat {k : Nat} (h : k ≤ 1000000) : (Lit.int .i64 (k : Int)).wf = true := WalkArith.wf_i64 (by omega)
/-- what is looked up -/
theorem RegD.look {ns : List Nd} {held : List Bool} {n B m : Nat} {D : DataW Unit} {w : World} (h : RegD ns held n D) (hown : w.ownsMap Tryd.prog 3 (plainElem Tryd.prog 4) B m D) {k : Nat} (hk : k < n) (hr : isReg (ndAt ns k) = true) (h6 : k ≤ 1000000) :
    (Instr.lookup 43 (.map (some B)) (.int .i64 (k : Int)) false).run Tryd.prog w = .ok (.bool (bit held k)) w := by
  obtain ⟨v, ps, hrun, hv⟩ := hown.lookup law3 Tryd.underlying43 (zero4 w) (plainElem_bool Tryd.underlying4 false) (keyOf_int_mk Tryd.underlying3 (wf_nat h6))
  obtain ⟨b, rfl, hb⟩ := plainElem_bool_inv Tryd.underlying4 hv
  rw [(h.all k hk hr).2] at hb
  simp only [Prod.mk.injEq, DataW.lit.injEq, Lit.bool.injEq] at hb
  rw [hb.1]; exact hrun

set_option maxRecDepth 100000 in
set_option maxHeartbeats 3200000 in
theorem rfirst_at {S : Nat → Prop} (given : Int) (ns : List Nd) (m : Nat) (na oa : Option Addr) (nc oc : Nat) (w : World) (hn : Lies S w na (ndsC ns)) (h60 : (ns.length : Int) ≤ 60) :
    Calls Tryd.prog 10 #[.agg #[.int .i64 given, .slice na ns.length nc, .slice oa m oc]] w fun e w' => (∃ (B : Nat) (D : DataW Unit), e = .returned (.map (some B)) ∧ w.heap.size ≤ B ∧ w'.ownsMap Tryd.prog 3 (plainElem Tryd.prog 4) B ns.length D ∧ RegD ns (first ns) ns.length D) ∧ Below w.heap.size w w' := by
  have hmm := @run_makeMap Tryd.prog
  have HB0 : Hid (Below w.heap.size w ((w.alloc (.cells #[.int .i64 given, .slice na ns.length nc, .slice oa m oc] 29)).alloc (.map #[] 0))) := hide ((below_alloc _ _).alloc (by simp) _)
  have HN := hide hn
  have HO0 : Hid (((w.alloc (.cells #[.int .i64 given, .slice na ns.length nc, .slice oa m oc] 29)).alloc (.map #[] 0)).ownsMap Tryd.prog 3 (plainElem Tryd.prog 4) (w.heap.size + 1) 0 (.map [] : DataW Unit)) := hide (by
    have h := World.ownsMap_made (w.alloc (.cells #[.int .i64 given, .slice na ns.length nc, .slice oa m oc] 29)) Tryd.prog 3 (plainElem (H := Unit) Tryd.prog 4)
    rwa [show (w.alloc (.cells #[.int .i64 given, .slice na ns.length nc, .slice oa m oc] 29)).heap.size = w.heap.size + 1 by simp] at h)
  clear hn
  go_enter Tryd.func10, Tryd.ntmps10
  go_wp2_with fail
  clear hmm
  go_loopw [4, 5, 10] (fun _ _ i wr => ∃ (k : Nat) (D : DataW Unit), k ≤ ns.length ∧ i = .int .i64 k ∧ Hid (wr.ownsMap Tryd.prog 3 (plainElem Tryd.prog 4) (w.heap.size + 1) k D) ∧ Hid (RegD ns (first ns) k D) ∧ Hid (Below w.heap.size w wr)) (fun _ _ i _ => ns.length - (intOf i).toNat)
  case atStart => exact ⟨0, .map [], Nat.zero_le _, rfl, HO0, hide (RegD.empty _ _), HB0⟩
  case round =>
    obtain ⟨k, D, hk, rfl, hown, hrd, hb⟩ := hrel
    by_cases hlt : k < ns.length
    · have hki : (k : Int) < (ns.length : Int) := by omega
      obtain ⟨b, off, ha, _, hbl, n0, n1, n2, n3⟩ := (HN.out.below hb.out).nodes hlt
      have HA := hide ha
      rw [HA.out]
      have HFB := hide (first_bit (ns := ns) hlt)
      clear ha hbl
      generalize hnd : ndAt ns k = x at n0 n1 n2 n3 HFB
      have HND := hide hnd
      clear hnd
      obtain ⟨op, a, bb, nx⟩ := x
      simp only at n0 n1 n2 n3
      have HB1 : Hid (Below wr.heap.size wr (wr.alloc (.cells #[.int .i64 op, .int .i64 a, .int .i64 bb, .int .i64 nx] 31))) := hide (below_alloc _ _)
      have HO1 : Hid ((wr.alloc (.cells #[.int .i64 op, .int .i64 a, .int .i64 bb, .int .i64 nx] 31)).ownsMap Tryd.prog 3 (plainElem Tryd.prog 4) (w.heap.size + 1) k D) := hide (hown.out.alloc _)
      have HKL : Hid (keyOf Tryd.prog 3 (.int .i64 (k : Int)) = some (.int .i64 (k : Int))) := hide (keyOf_int_mk Tryd.underlying3 (wf_nat (by omega)))
      have HBW := hide (Below.step hb.out HB1.out)
      by_cases hop : op = 4
      · subst hop
        have HV : Hid (bit (first ns) k = (a == 1)) := hide (by rw [HFB.out]; rfl)
        have HRG : Hid (isReg (ndAt ns k) = true) := hide (by rw [HND.out]; rfl)
        go_wp2_with (first | (at_mapUpdate; refine wpList_mapUpdate_own _ rfl _ _ _ 43 rfl 3 4 law3 Tryd.underlying43 _ (w.heap.size + 1) k D rfl HO1.out (by unfold maxLen; omega) _ _ _ rfl rfl HKL.out _ [] (plainElem_bool Tryd.underlying4 _) ?_; intro w1 hown1 hg1; go_frame) | go_in)
        exact ⟨⟨k + 1, _, by omega, by go_num, hide hown1, hide (hrd.out.put hown.out.isMap HRG.out _ HV.out), hide (HBW.out.grown hg1 HBW.out.size (fun j hj => by cases hj; exact Nat.le_succ _))⟩, by simp [intOf]; omega⟩
      · have hopb : (op == 4) = false := beq_eq_false_iff_ne.2 hop
        have HRG : Hid (isReg (ndAt ns k) = false) := hide (by rw [HND.out]; simp [isReg, hop])
        go_wp2_with fail
        exact ⟨⟨k + 1, D, by omega, by go_num, hide (HO1.out.mono (by omega)), hide (hrd.out.skip HRG.out), HBW⟩, by simp [intOf]; omega⟩
    · have HJ : Hid (k = ns.length) := hide (by omega)
      go_wp2_with fail
      go_ret
      refine ⟨⟨_, D, rfl, Nat.le_succ _, ?_, ?_⟩, hb.out⟩
      · have := hown.out; rwa [HJ.out] at this
      · have := hrd.out; rwa [HJ.out] at this
end Go.Proofs.YtoghcacigdeloaaDoor
