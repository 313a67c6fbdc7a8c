/-
  CONTRACT of the reference's Step.
-/
import Derived.Test.YtoghcacigdeloaaDoorGMap
set_option linter.unusedSimpArgs false
set_option linter.unusedVariables false
namespace Go.Proofs.YtoghcacigdeloaaDoor
open Go.RowKit Go.Maps

/-- the step of a range over a map of bools -/
theorem next_ib {P : Program} (w : World) {ops : Array Oper} {rest : List Oper} {o : Oper} {a : Act} {Q : Exit → Act → World → Prop} (hg : o.guard = none) (it : Operand) (hop : o.op = Op.next it false) (k : TypeId) (K : Keyed P k) (hk : P.underlying k = some (.int .i64)) (R : Value → Option (DataW Unit × List MemPlace))
    (b r n : Nat) (D : DataW Unit) (left : Lit → Bool) (cnt : Nat) (hit : a.eval it = .pointer (some ⟨r, 0, none⟩)) (h : w.ranges P k R b r n D left cnt)
    (hDone : cnt = 0 → (∀ kl, left kl = false) → wpList P ops Q rest (a.put o.dst (.tuple #[.bool false])) w)
    (hMore : ∀ (x : Int) (c : Value) (w' : World) (cnt' : Nat), (Lit.int .i64 x).wf = true → left (.int .i64 x) = true → Maps.has D (.int .i64 x) = true → w'.ranges P k R b r n D (fun z => left z && !z.sameKey (.int .i64 x)) cnt' → cnt' < cnt →
      w.grownBy w' (some r) → w'.heap.size = w.heap.size → (Instr.entry (.pointer (some ⟨r, 0, none⟩))).run P w' = .ok (.tuple #[.int .i64 x, c]) w' → wpList P ops Q rest (a.put o.dst (.tuple #[.bool true, .int .i64 x, c])) w') :
    wpList P ops Q (o :: rest) a w :=
  wpList_next_ranges w hg it hop k K R (Value.int .i64) (fun c : Value => c) (fun key kl hkey => by obtain ⟨x, rfl, _⟩ := Maps.keyOf_int_inv hk hkey; exact ⟨x, rfl⟩) (fun v y _ => ⟨v, rfl⟩)
    b r n D left cnt hit h hDone (fun x c kl y w' cnt' hkey hlk hv hat hrg hlt hgr hsz hen => by
      obtain ⟨x', ex, rfl, hwx⟩ := Maps.keyOf_int_inv hk hkey
      cases ex
      exact hMore x c w' cnt' hwx hlk (has_true_of_atKey hat) hrg hlt hgr hsz hen)
/-- what is held next, of the keys that have come -/
structure NextL (ns : List Nd) (v : List Bool) (D0 D : DataW Unit) (left : Lit → Bool) : Prop where
  only : ∀ x : Lit, Maps.has D x = true → Maps.has D0 x = true
  all : ∀ x : Lit, Maps.has D0 x = true → left x = false → Maps.has D x = true ∧ ∀ i : Nat, x = .int .i64 (i : Int) → ∀ z, D.atKey x z = .lit (.bool (bit v (ndAt ns i).next.toNat))
theorem NextL.start (ns : List Nd) (v : List Bool) (D0 : DataW Unit) : NextL ns v D0 (.map []) (Maps.has D0) := ⟨fun x hx => by simp [Maps.has_eq] at hx, fun x h1 h2 => by rw [h1] at h2; cases h2⟩
theorem NextL.step {ns : List Nd} {v : List Bool} {D0 D : DataW Unit} {left : Lit → Bool} (h : NextL ns v D0 D left) (hm : IsMap D) {i : Nat} (hD : Maps.has D0 (.int .i64 (i : Int)) = true) (b : Bool) (hb : bit v (ndAt ns i).next.toNat = b) : NextL ns v D0 (D.put (.int .i64 (i : Int)) (.lit (.bool b))) (fun z => left z && !z.sameKey (.int .i64 (i : Int))) := by
  have hkl : WideAt.IsKeyLit (.int .i64 (i : Int)) := trivial
  refine ⟨fun x hx => ?_, fun x h1 h2 => ?_⟩
  · by_cases e : x = .int .i64 (i : Int)
    · rw [e]; exact hD
    · rw [has_put_other e] at hx
      exact h.only x hx
  · by_cases e : x = .int .i64 (i : Int)
    · subst e
      refine ⟨has_put_same hm hkl _, fun j hj z => ?_⟩
      have : j = i := by injection hj with _ h2; omega
      subst this
      rw [atKey_put_same hm hkl, hb]
    · have hl : left x = false := by
        rw [sameKey_ne e] at h2
        simpa using h2
      obtain ⟨a1, a2⟩ := h.all x h1 hl
      exact ⟨by rw [has_put_other e]; exact a1, fun j hj z => by rw [atKey_put_other e]; exact a2 j hj z⟩
theorem NextL.done {ns : List Nd} {v held : List Bool} {D0 D : DataW Unit} {left : Lit → Bool} (h : NextL ns v D0 D left) (hl : ∀ k, left k = false) (h0 : RegD ns held ns.length D0) (hlen : held.length = ns.length) : RegD ns (heldNext v held ns) ns.length D := by
  refine ⟨fun x hx => h0.only x (h.only x hx), fun i hi hr => ?_⟩
  obtain ⟨a1, a2⟩ := h.all (.int .i64 (i : Int)) (h0.all i hi hr).1 (hl _)
  refine ⟨a1, fun z => ?_⟩
  rw [a2 i rfl z, next_bit (by omega) hi]
  simp [nextOf, hr]

theorem rightN_opA {given : Int} {many i : Nat} {x : Nd} (h : rightN given many i x = true) : x.op = 1 ∨ x.op = 2 ∨ x.op = 3 ∨ x.op = 4 ∨ x.op = 5 ∨ x.op = 6 ∨ x.op = 7 ∨ x.op = 8 := by
  simp only [rightN] at h
  by_cases h1 : x.op = 1; · omega
  by_cases h2 : x.op = 2; · omega
  by_cases h3 : x.op = 3; · omega
  by_cases h4 : x.op = 4; · omega
  by_cases h5 : x.op = 5; · omega
  by_cases h6 : x.op = 6; · omega
  by_cases h7 : x.op = 7; · omega
  by_cases h8 : x.op = 8; · omega
  simp [h1, h2, h3, h4, h5, h6, h7, h8] at h

set_option maxRecDepth 100000 in
set_option maxHeartbeats 6400000 in
theorem rstep_at {S T : Nat → Prop} (given : Int) (ns : List Nd) (os : List Int) (na oa ga : Option Addr) (nc oc gc : Nat) (held g : List Bool) (B : Nat) (D : DataW Unit) (w : World) (hn : Lies S w na (ndsC ns)) (ho : Lies T w oa (intsC os)) (hg : Lies AnyB w ga (bitsC g)) (hr : RightP given ns os) (h60 : (ns.length : Int) ≤ 60) (h30 : (os.length : Int) ≤ 30) (hgl : (g.length : Int) ≤ 2000)
    (hown : w.ownsMap Tryd.prog 3 (plainElem Tryd.prog 4) B ns.length D) (hrd : RegD ns held ns.length D) (hlen : held.length = ns.length) :
    Calls Tryd.prog 11 #[.agg #[.int .i64 given, .slice na ns.length nc, .slice oa os.length oc], .map (some B), .slice ga g.length gc] w fun e w' => (∃ (ao : Option Addr) (ac B' : Nat) (D' : DataW Unit), e = .returned (.tuple #[.slice ao os.length ac, .map (some B')]) ∧ Lies (FromB w.heap.size) w' ao (bitsC (outs (vals g held ns) os)) ∧ w.heap.size ≤ B' ∧ w'.ownsMap Tryd.prog 3 (plainElem Tryd.prog 4) B' ns.length D' ∧ RegD ns (heldNext (vals g held ns) held ns) ns.length D') ∧ Below w.heap.size w w' := by
  have HB0 : Hid (Below w.heap.size w (w.alloc (.cells #[.int .i64 given, .slice na ns.length nc, .slice oa os.length oc] 29))) := hide (below_alloc _ _)
  have HP0 := hide (blk_new w (.cells #[.int .i64 given, .slice na ns.length nc, .slice oa os.length oc] 29))
  have HN := hide hn
  have HO := hide ho
  have HG := hide hg
  have HR := hide hr
  have HOW := hide hown
  have HRD := hide hrd
  have HLE := hide hlen
  clear hn ho hg hr hown hrd hlen
  have hmm := @run_makeMap Tryd.prog
  go_enter Tryd.func11, Tryd.ntmps11
  go_wp2_with fail
  generalize w.alloc (.cells #[.int .i64 given, .slice na ns.length nc, .slice oa os.length oc] 29) = w1 at *
  have hw1 : w.heap.size < w1.heap.size := blk_lt HP0.out
  go_loopw [8, 9, 10, 11, 20] (fun v _ _ _ i wr => ∃ (k : Nat) (va : Option Addr) (vc : Nat), k ≤ ns.length ∧ i = .int .i64 k ∧ v = .slice va k vc ∧ Hid (Mine 4 1 w1.heap.size wr (.slice va k vc) k (bitsC (valsTo g held ns k))) ∧ Hid (Below w1.heap.size w1 wr)) (fun _ _ _ _ i _ => ns.length - (intOf i).toNat)
  case atStart => exact ⟨0, none, 0, Nat.zero_le _, rfl, rfl, hide (Mine.none _), hide (Below.refl _ _)⟩
  case round =>
    obtain ⟨k, va, vc, hk, rfl, rfl, hmv, hb⟩ := hrel
    have HBW := hide (Below.step HB0.out hb.out)
    by_cases hlt : k < ns.length
    · have hki : (k : Int) < (ns.length : Int) := by omega
      obtain ⟨b, off, ha, _, hbl, n0, n1, n2, n3⟩ := (HN.out.below HBW.out).nodes hlt
      have HA := hide ha
      rw [HA.out]
      have HRN := hide (HR.out.nodes k hlt)
      have HVS : Hid (∀ r : Bool, valN g (valsTo g held ns k) (bit held k) (ndAt ns k) = r → valsTo g held ns (k + 1) = valsTo g held ns k ++ [r]) := hide fun r hr => by simp only [valsTo, hr]
      have HOr : Hid (wr.ownsMap Tryd.prog 3 (plainElem Tryd.prog 4) B ns.length D) := hide (HOW.out.kept ⟨HBW.out.os, HBW.out.tape, HBW.out.output, HBW.out.size, fun i hi _ => HBW.out.block i hi⟩ (row := none) (by simp))
      clear ha hbl
      generalize hnd : ndAt ns k = x at n0 n1 n2 n3 HRN
      have HND := hide hnd
      clear hnd
      obtain ⟨op, a, bb, nx⟩ := x
      simp only at n0 n1 n2 n3
      have hop : op = 1 ∨ op = 2 ∨ op = 3 ∨ op = 4 ∨ op = 5 ∨ op = 6 ∨ op = 7 ∨ op = 8 := rightN_opA HRN.out
      have HLV : Hid ((valsTo g held ns k).length = k) := hide (valsTo_len _ _ _ _)
      rcases hop with rfl | rfl | rfl | rfl | rfl | rfl | rfl | rfl
      · have HVV := hide (HVS.out (false) (by rw [HND.out]; rfl))
        have HTx : Hid (Below wr.heap.size wr (wr.alloc (.cells #[.int .i64 1, .int .i64 a, .int .i64 bb, .int .i64 nx] 31))) := hide (below_alloc _ _)
        have HTy : Hid (Below (wr.alloc (.cells #[.int .i64 1, .int .i64 a, .int .i64 bb, .int .i64 nx] 31)).heap.size (wr.alloc (.cells #[.int .i64 1, .int .i64 a, .int .i64 bb, .int .i64 nx] 31)) ((wr.alloc (.cells #[.int .i64 1, .int .i64 a, .int .i64 bb, .int .i64 nx] 31)).alloc (.cells #[.bool (false)] 4))) := hide (below_alloc _ _)
        have HEy : Hid (((wr.alloc (.cells #[.int .i64 1, .int .i64 a, .int .i64 bb, .int .i64 nx] 31)).alloc (.cells #[.bool (false)] 4)).heap[wr.heap.size + 1]? = some (.cells #[.bool (false)] 4 (0, 0))) := hide (by have h := blk_new (wr.alloc (.cells #[.int .i64 1, .int .i64 a, .int .i64 bb, .int .i64 nx] 31)) (.cells #[.bool (false)] 4); rwa [show (wr.alloc (.cells #[.int .i64 1, .int .i64 a, .int .i64 bb, .int .i64 nx] 31)).heap.size = wr.heap.size + 1 by simp] at h)
        obtain ⟨va2, vc2, y, happ, hm, hg, hnb⟩ := app_bo (c := 1) (n' := k + 1) ((hmv.out.below HTx.out).below HTy.out) HLV.out (new := [false]) (m := 1) rfl rfl (Lies.blk (S := AnyB) (cs := bitsC [false]) HEy.out trivial) (Nat.le_trans hb.out.size (Below.step HTx.out HTy.out).size) (by omega)
        have HM := hide hm
        have HBY := hide (Below.grownOn (Below.step hb.out (Below.step HTx.out HTy.out)) hg (fun b hb => hmv.out.new b hb) (Nat.le_trans hb.out.size (Below.step HTx.out HTy.out).size))
        clear hm hg hnb
        go_wp2_with (at_builtin; (refine wpl_append_run happ rfl _ _ rfl rfl rfl ?_))
        exact ⟨⟨k + 1, va2, vc2, by omega, by go_num, rfl, hide (by rw [HVV.out]; exact HM.out), HBY⟩, by simp [intOf]; omega⟩
      · have HVV := hide (HVS.out (true) (by rw [HND.out]; rfl))
        have HTx : Hid (Below wr.heap.size wr (wr.alloc (.cells #[.int .i64 2, .int .i64 a, .int .i64 bb, .int .i64 nx] 31))) := hide (below_alloc _ _)
        have HTy : Hid (Below (wr.alloc (.cells #[.int .i64 2, .int .i64 a, .int .i64 bb, .int .i64 nx] 31)).heap.size (wr.alloc (.cells #[.int .i64 2, .int .i64 a, .int .i64 bb, .int .i64 nx] 31)) ((wr.alloc (.cells #[.int .i64 2, .int .i64 a, .int .i64 bb, .int .i64 nx] 31)).alloc (.cells #[.bool (true)] 4))) := hide (below_alloc _ _)
        have HEy : Hid (((wr.alloc (.cells #[.int .i64 2, .int .i64 a, .int .i64 bb, .int .i64 nx] 31)).alloc (.cells #[.bool (true)] 4)).heap[wr.heap.size + 1]? = some (.cells #[.bool (true)] 4 (0, 0))) := hide (by have h := blk_new (wr.alloc (.cells #[.int .i64 2, .int .i64 a, .int .i64 bb, .int .i64 nx] 31)) (.cells #[.bool (true)] 4); rwa [show (wr.alloc (.cells #[.int .i64 2, .int .i64 a, .int .i64 bb, .int .i64 nx] 31)).heap.size = wr.heap.size + 1 by simp] at h)
        obtain ⟨va2, vc2, y, happ, hm, hg, hnb⟩ := app_bo (c := 1) (n' := k + 1) ((hmv.out.below HTx.out).below HTy.out) HLV.out (new := [true]) (m := 1) rfl rfl (Lies.blk (S := AnyB) (cs := bitsC [true]) HEy.out trivial) (Nat.le_trans hb.out.size (Below.step HTx.out HTy.out).size) (by omega)
        have HM := hide hm
        have HBY := hide (Below.grownOn (Below.step hb.out (Below.step HTx.out HTy.out)) hg (fun b hb => hmv.out.new b hb) (Nat.le_trans hb.out.size (Below.step HTx.out HTy.out).size))
        clear hm hg hnb
        go_wp2_with (at_builtin; (refine wpl_append_run happ rfl _ _ rfl rfl rfl ?_))
        exact ⟨⟨k + 1, va2, vc2, by omega, by go_num, rfl, hide (by rw [HVV.out]; exact HM.out), HBY⟩, by simp [intOf]; omega⟩
      · obtain ⟨ha0, ha1⟩ := inR_iff.1 (show inR a given = true from HRN.out)
        obtain ⟨an, rfl⟩ := Int.eq_ofNat_of_zero_le ha0
        by_cases hag : an < g.length
        · have hagi : (an : Int) < (g.length : Int) := by omega
          obtain ⟨gb, goff, hga, _, _, gcell⟩ := (HG.out.below HBW.out).bits hag
          have HGA := hide hga
          rw [HGA.out]
          clear hga
          have gca := fun o => cell_alloc gcell o
          have HVV := hide (HVS.out (bit g an) (by rw [HND.out]; simp [valN]))
          have HTx : Hid (Below wr.heap.size wr (wr.alloc (.cells #[.int .i64 3, .int .i64 (an : Int), .int .i64 bb, .int .i64 nx] 31))) := hide (below_alloc _ _)
          have HTy : Hid (Below (wr.alloc (.cells #[.int .i64 3, .int .i64 (an : Int), .int .i64 bb, .int .i64 nx] 31)).heap.size (wr.alloc (.cells #[.int .i64 3, .int .i64 (an : Int), .int .i64 bb, .int .i64 nx] 31)) ((wr.alloc (.cells #[.int .i64 3, .int .i64 (an : Int), .int .i64 bb, .int .i64 nx] 31)).alloc (.cells #[.bool (bit g an)] 4))) := hide (below_alloc _ _)
          have HEy : Hid (((wr.alloc (.cells #[.int .i64 3, .int .i64 (an : Int), .int .i64 bb, .int .i64 nx] 31)).alloc (.cells #[.bool (bit g an)] 4)).heap[wr.heap.size + 1]? = some (.cells #[.bool (bit g an)] 4 (0, 0))) := hide (by have h := blk_new (wr.alloc (.cells #[.int .i64 3, .int .i64 (an : Int), .int .i64 bb, .int .i64 nx] 31)) (.cells #[.bool (bit g an)] 4); rwa [show (wr.alloc (.cells #[.int .i64 3, .int .i64 (an : Int), .int .i64 bb, .int .i64 nx] 31)).heap.size = wr.heap.size + 1 by simp] at h)
          obtain ⟨va2, vc2, y, happ, hm, hg, hnb⟩ := app_bo (c := 1) (n' := k + 1) ((hmv.out.below HTx.out).below HTy.out) HLV.out (new := [bit g an]) (m := 1) rfl rfl (Lies.blk (S := AnyB) (cs := bitsC [bit g an]) HEy.out trivial) (Nat.le_trans hb.out.size (Below.step HTx.out HTy.out).size) (by omega)
          have HM := hide hm
          have HBY := hide (Below.grownOn (Below.step hb.out (Below.step HTx.out HTy.out)) hg (fun b hb => hmv.out.new b hb) (Nat.le_trans hb.out.size (Below.step HTx.out HTy.out).size))
          clear hm hg hnb
          go_wp2_with (at_builtin; (refine wpl_append_run happ rfl _ _ rfl rfl rfl ?_))
          exact ⟨⟨k + 1, va2, vc2, by omega, by go_num, rfl, hide (by rw [HVV.out]; exact HM.out), HBY⟩, by simp [intOf]; omega⟩
        · have hagi : ¬ (an : Int) < (g.length : Int) := by omega
          have hagb : decide ((an : Int) < (g.length : Int)) = false := by simp; omega
          have HVV := hide (HVS.out (false) (by rw [HND.out]; simp [valN, bit, List.getElem?_eq_none (show g.length ≤ an by omega)]))
          have HTx : Hid (Below wr.heap.size wr (wr.alloc (.cells #[.int .i64 3, .int .i64 (an : Int), .int .i64 bb, .int .i64 nx] 31))) := hide (below_alloc _ _)
          have HTy : Hid (Below (wr.alloc (.cells #[.int .i64 3, .int .i64 (an : Int), .int .i64 bb, .int .i64 nx] 31)).heap.size (wr.alloc (.cells #[.int .i64 3, .int .i64 (an : Int), .int .i64 bb, .int .i64 nx] 31)) ((wr.alloc (.cells #[.int .i64 3, .int .i64 (an : Int), .int .i64 bb, .int .i64 nx] 31)).alloc (.cells #[.bool (false)] 4))) := hide (below_alloc _ _)
          have HEy : Hid (((wr.alloc (.cells #[.int .i64 3, .int .i64 (an : Int), .int .i64 bb, .int .i64 nx] 31)).alloc (.cells #[.bool (false)] 4)).heap[wr.heap.size + 1]? = some (.cells #[.bool (false)] 4 (0, 0))) := hide (by have h := blk_new (wr.alloc (.cells #[.int .i64 3, .int .i64 (an : Int), .int .i64 bb, .int .i64 nx] 31)) (.cells #[.bool (false)] 4); rwa [show (wr.alloc (.cells #[.int .i64 3, .int .i64 (an : Int), .int .i64 bb, .int .i64 nx] 31)).heap.size = wr.heap.size + 1 by simp] at h)
          obtain ⟨va2, vc2, y, happ, hm, hg, hnb⟩ := app_bo (c := 1) (n' := k + 1) ((hmv.out.below HTx.out).below HTy.out) HLV.out (new := [false]) (m := 1) rfl rfl (Lies.blk (S := AnyB) (cs := bitsC [false]) HEy.out trivial) (Nat.le_trans hb.out.size (Below.step HTx.out HTy.out).size) (by omega)
          have HM := hide hm
          have HBY := hide (Below.grownOn (Below.step hb.out (Below.step HTx.out HTy.out)) hg (fun b hb => hmv.out.new b hb) (Nat.le_trans hb.out.size (Below.step HTx.out HTy.out).size))
          clear hm hg hnb
          go_wp2_with (at_builtin; (refine wpl_append_run happ rfl _ _ rfl rfl rfl ?_))
          exact ⟨⟨k + 1, va2, vc2, by omega, by go_num, rfl, hide (by rw [HVV.out]; exact HM.out), HBY⟩, by simp [intOf]; omega⟩
      · have hlk := HRD.out.look (HOr.out.alloc (.cells #[.int .i64 4, .int .i64 a, .int .i64 bb, .int .i64 nx] 31)) hlt (by rw [HND.out]; rfl) (by omega)
        have HVV := hide (HVS.out (bit held k) (by rw [HND.out]; rfl))
        have HTx : Hid (Below wr.heap.size wr (wr.alloc (.cells #[.int .i64 4, .int .i64 a, .int .i64 bb, .int .i64 nx] 31))) := hide (below_alloc _ _)
        have HTy : Hid (Below (wr.alloc (.cells #[.int .i64 4, .int .i64 a, .int .i64 bb, .int .i64 nx] 31)).heap.size (wr.alloc (.cells #[.int .i64 4, .int .i64 a, .int .i64 bb, .int .i64 nx] 31)) ((wr.alloc (.cells #[.int .i64 4, .int .i64 a, .int .i64 bb, .int .i64 nx] 31)).alloc (.cells #[.bool (bit held k)] 4))) := hide (below_alloc _ _)
        have HEy : Hid (((wr.alloc (.cells #[.int .i64 4, .int .i64 a, .int .i64 bb, .int .i64 nx] 31)).alloc (.cells #[.bool (bit held k)] 4)).heap[wr.heap.size + 1]? = some (.cells #[.bool (bit held k)] 4 (0, 0))) := hide (by have h := blk_new (wr.alloc (.cells #[.int .i64 4, .int .i64 a, .int .i64 bb, .int .i64 nx] 31)) (.cells #[.bool (bit held k)] 4); rwa [show (wr.alloc (.cells #[.int .i64 4, .int .i64 a, .int .i64 bb, .int .i64 nx] 31)).heap.size = wr.heap.size + 1 by simp] at h)
        obtain ⟨va2, vc2, y, happ, hm, hg, hnb⟩ := app_bo (c := 1) (n' := k + 1) ((hmv.out.below HTx.out).below HTy.out) HLV.out (new := [bit held k]) (m := 1) rfl rfl (Lies.blk (S := AnyB) (cs := bitsC [bit held k]) HEy.out trivial) (Nat.le_trans hb.out.size (Below.step HTx.out HTy.out).size) (by omega)
        have HM := hide hm
        have HBY := hide (Below.grownOn (Below.step hb.out (Below.step HTx.out HTy.out)) hg (fun b hb => hmv.out.new b hb) (Nat.le_trans hb.out.size (Below.step HTx.out HTy.out).size))
        clear hm hg hnb
        go_wp2_with (at_builtin; (refine wpl_append_run happ rfl _ _ rfl rfl rfl ?_))
        exact ⟨⟨k + 1, va2, vc2, by omega, by go_num, rfl, hide (by rw [HVV.out]; exact HM.out), HBY⟩, by simp [intOf]; omega⟩
      · obtain ⟨⟨ha0, ha1⟩, hb0, hb1⟩ : (0 ≤ a ∧ a < (k : Int)) ∧ 0 ≤ bb ∧ bb < (k : Int) := by
          have h := HRN.out
          simp [rightN, inR] at h
          omega
        obtain ⟨an, rfl⟩ := Int.eq_ofNat_of_zero_le ha0
        obtain ⟨bn, rfl⟩ := Int.eq_ofNat_of_zero_le hb0
        obtain ⟨vb, vo, hva, _, _, fa⟩ := (hmv.out.lies (S := AnyB) fun _ _ => trivial).bits (i := an) (by rw [HLV.out]; omega)
        obtain ⟨vb', vo', hva', _, _, fb⟩ := (hmv.out.lies (S := AnyB) fun _ _ => trivial).bits (i := bn) (by rw [HLV.out]; omega)
        rw [hva] at hva'
        cases hva'
        subst hva
        have faa := fun o => cell_alloc fa o
        have fba := fun o => cell_alloc fb o
        cases hva : bit (valsTo g held ns k) an with
        | true =>
          rw [hva] at fa faa
          have HVV := hide (HVS.out (bit (valsTo g held ns k) bn) (by rw [HND.out]; simp [valN, hva]))
          have HTx : Hid (Below wr.heap.size wr (wr.alloc (.cells #[.int .i64 5, .int .i64 (an : Int), .int .i64 (bn : Int), .int .i64 nx] 31))) := hide (below_alloc _ _)
          have HTy : Hid (Below (wr.alloc (.cells #[.int .i64 5, .int .i64 (an : Int), .int .i64 (bn : Int), .int .i64 nx] 31)).heap.size (wr.alloc (.cells #[.int .i64 5, .int .i64 (an : Int), .int .i64 (bn : Int), .int .i64 nx] 31)) ((wr.alloc (.cells #[.int .i64 5, .int .i64 (an : Int), .int .i64 (bn : Int), .int .i64 nx] 31)).alloc (.cells #[.bool (bit (valsTo g held ns k) bn)] 4))) := hide (below_alloc _ _)
          have HEy : Hid (((wr.alloc (.cells #[.int .i64 5, .int .i64 (an : Int), .int .i64 (bn : Int), .int .i64 nx] 31)).alloc (.cells #[.bool (bit (valsTo g held ns k) bn)] 4)).heap[wr.heap.size + 1]? = some (.cells #[.bool (bit (valsTo g held ns k) bn)] 4 (0, 0))) := hide (by have h := blk_new (wr.alloc (.cells #[.int .i64 5, .int .i64 (an : Int), .int .i64 (bn : Int), .int .i64 nx] 31)) (.cells #[.bool (bit (valsTo g held ns k) bn)] 4); rwa [show (wr.alloc (.cells #[.int .i64 5, .int .i64 (an : Int), .int .i64 (bn : Int), .int .i64 nx] 31)).heap.size = wr.heap.size + 1 by simp] at h)
          obtain ⟨va2, vc2, y, happ, hm, hg, hnb⟩ := app_bo (c := 1) (n' := k + 1) ((hmv.out.below HTx.out).below HTy.out) HLV.out (new := [bit (valsTo g held ns k) bn]) (m := 1) rfl rfl (Lies.blk (S := AnyB) (cs := bitsC [bit (valsTo g held ns k) bn]) HEy.out trivial) (Nat.le_trans hb.out.size (Below.step HTx.out HTy.out).size) (by omega)
          have HM := hide hm
          have HBY := hide (Below.grownOn (Below.step hb.out (Below.step HTx.out HTy.out)) hg (fun b hb => hmv.out.new b hb) (Nat.le_trans hb.out.size (Below.step HTx.out HTy.out).size))
          clear hm hg hnb
          go_wp2_with (at_builtin; (refine wpl_append_run happ rfl _ _ rfl rfl rfl ?_))
          exact ⟨⟨k + 1, va2, vc2, by omega, by go_num, rfl, hide (by rw [HVV.out]; exact HM.out), HBY⟩, by simp [intOf]; omega⟩
        | false =>
          rw [hva] at fa faa
          have HVV := hide (HVS.out (false) (by rw [HND.out]; simp [valN, hva]))
          have HTx : Hid (Below wr.heap.size wr (wr.alloc (.cells #[.int .i64 5, .int .i64 (an : Int), .int .i64 (bn : Int), .int .i64 nx] 31))) := hide (below_alloc _ _)
          have HTy : Hid (Below (wr.alloc (.cells #[.int .i64 5, .int .i64 (an : Int), .int .i64 (bn : Int), .int .i64 nx] 31)).heap.size (wr.alloc (.cells #[.int .i64 5, .int .i64 (an : Int), .int .i64 (bn : Int), .int .i64 nx] 31)) ((wr.alloc (.cells #[.int .i64 5, .int .i64 (an : Int), .int .i64 (bn : Int), .int .i64 nx] 31)).alloc (.cells #[.bool (false)] 4))) := hide (below_alloc _ _)
          have HEy : Hid (((wr.alloc (.cells #[.int .i64 5, .int .i64 (an : Int), .int .i64 (bn : Int), .int .i64 nx] 31)).alloc (.cells #[.bool (false)] 4)).heap[wr.heap.size + 1]? = some (.cells #[.bool (false)] 4 (0, 0))) := hide (by have h := blk_new (wr.alloc (.cells #[.int .i64 5, .int .i64 (an : Int), .int .i64 (bn : Int), .int .i64 nx] 31)) (.cells #[.bool (false)] 4); rwa [show (wr.alloc (.cells #[.int .i64 5, .int .i64 (an : Int), .int .i64 (bn : Int), .int .i64 nx] 31)).heap.size = wr.heap.size + 1 by simp] at h)
          obtain ⟨va2, vc2, y, happ, hm, hg, hnb⟩ := app_bo (c := 1) (n' := k + 1) ((hmv.out.below HTx.out).below HTy.out) HLV.out (new := [false]) (m := 1) rfl rfl (Lies.blk (S := AnyB) (cs := bitsC [false]) HEy.out trivial) (Nat.le_trans hb.out.size (Below.step HTx.out HTy.out).size) (by omega)
          have HM := hide hm
          have HBY := hide (Below.grownOn (Below.step hb.out (Below.step HTx.out HTy.out)) hg (fun b hb => hmv.out.new b hb) (Nat.le_trans hb.out.size (Below.step HTx.out HTy.out).size))
          clear hm hg hnb
          go_wp2_with (at_builtin; (refine wpl_append_run happ rfl _ _ rfl rfl rfl ?_))
          exact ⟨⟨k + 1, va2, vc2, by omega, by go_num, rfl, hide (by rw [HVV.out]; exact HM.out), HBY⟩, by simp [intOf]; omega⟩
      · obtain ⟨⟨ha0, ha1⟩, hb0, hb1⟩ : (0 ≤ a ∧ a < (k : Int)) ∧ 0 ≤ bb ∧ bb < (k : Int) := by
          have h := HRN.out
          simp [rightN, inR] at h
          omega
        obtain ⟨an, rfl⟩ := Int.eq_ofNat_of_zero_le ha0
        obtain ⟨bn, rfl⟩ := Int.eq_ofNat_of_zero_le hb0
        obtain ⟨vb, vo, hva, _, _, fa⟩ := (hmv.out.lies (S := AnyB) fun _ _ => trivial).bits (i := an) (by rw [HLV.out]; omega)
        obtain ⟨vb', vo', hva', _, _, fb⟩ := (hmv.out.lies (S := AnyB) fun _ _ => trivial).bits (i := bn) (by rw [HLV.out]; omega)
        rw [hva] at hva'
        cases hva'
        subst hva
        have faa := fun o => cell_alloc fa o
        have fba := fun o => cell_alloc fb o
        cases hva : bit (valsTo g held ns k) an with
        | true =>
          rw [hva] at fa faa
          have HVV := hide (HVS.out (true) (by rw [HND.out]; simp [valN, hva]))
          have HTx : Hid (Below wr.heap.size wr (wr.alloc (.cells #[.int .i64 6, .int .i64 (an : Int), .int .i64 (bn : Int), .int .i64 nx] 31))) := hide (below_alloc _ _)
          have HTy : Hid (Below (wr.alloc (.cells #[.int .i64 6, .int .i64 (an : Int), .int .i64 (bn : Int), .int .i64 nx] 31)).heap.size (wr.alloc (.cells #[.int .i64 6, .int .i64 (an : Int), .int .i64 (bn : Int), .int .i64 nx] 31)) ((wr.alloc (.cells #[.int .i64 6, .int .i64 (an : Int), .int .i64 (bn : Int), .int .i64 nx] 31)).alloc (.cells #[.bool (true)] 4))) := hide (below_alloc _ _)
          have HEy : Hid (((wr.alloc (.cells #[.int .i64 6, .int .i64 (an : Int), .int .i64 (bn : Int), .int .i64 nx] 31)).alloc (.cells #[.bool (true)] 4)).heap[wr.heap.size + 1]? = some (.cells #[.bool (true)] 4 (0, 0))) := hide (by have h := blk_new (wr.alloc (.cells #[.int .i64 6, .int .i64 (an : Int), .int .i64 (bn : Int), .int .i64 nx] 31)) (.cells #[.bool (true)] 4); rwa [show (wr.alloc (.cells #[.int .i64 6, .int .i64 (an : Int), .int .i64 (bn : Int), .int .i64 nx] 31)).heap.size = wr.heap.size + 1 by simp] at h)
          obtain ⟨va2, vc2, y, happ, hm, hg, hnb⟩ := app_bo (c := 1) (n' := k + 1) ((hmv.out.below HTx.out).below HTy.out) HLV.out (new := [true]) (m := 1) rfl rfl (Lies.blk (S := AnyB) (cs := bitsC [true]) HEy.out trivial) (Nat.le_trans hb.out.size (Below.step HTx.out HTy.out).size) (by omega)
          have HM := hide hm
          have HBY := hide (Below.grownOn (Below.step hb.out (Below.step HTx.out HTy.out)) hg (fun b hb => hmv.out.new b hb) (Nat.le_trans hb.out.size (Below.step HTx.out HTy.out).size))
          clear hm hg hnb
          go_wp2_with (at_builtin; (refine wpl_append_run happ rfl _ _ rfl rfl rfl ?_))
          exact ⟨⟨k + 1, va2, vc2, by omega, by go_num, rfl, hide (by rw [HVV.out]; exact HM.out), HBY⟩, by simp [intOf]; omega⟩
        | false =>
          rw [hva] at fa faa
          have HVV := hide (HVS.out (bit (valsTo g held ns k) bn) (by rw [HND.out]; simp [valN, hva]))
          have HTx : Hid (Below wr.heap.size wr (wr.alloc (.cells #[.int .i64 6, .int .i64 (an : Int), .int .i64 (bn : Int), .int .i64 nx] 31))) := hide (below_alloc _ _)
          have HTy : Hid (Below (wr.alloc (.cells #[.int .i64 6, .int .i64 (an : Int), .int .i64 (bn : Int), .int .i64 nx] 31)).heap.size (wr.alloc (.cells #[.int .i64 6, .int .i64 (an : Int), .int .i64 (bn : Int), .int .i64 nx] 31)) ((wr.alloc (.cells #[.int .i64 6, .int .i64 (an : Int), .int .i64 (bn : Int), .int .i64 nx] 31)).alloc (.cells #[.bool (bit (valsTo g held ns k) bn)] 4))) := hide (below_alloc _ _)
          have HEy : Hid (((wr.alloc (.cells #[.int .i64 6, .int .i64 (an : Int), .int .i64 (bn : Int), .int .i64 nx] 31)).alloc (.cells #[.bool (bit (valsTo g held ns k) bn)] 4)).heap[wr.heap.size + 1]? = some (.cells #[.bool (bit (valsTo g held ns k) bn)] 4 (0, 0))) := hide (by have h := blk_new (wr.alloc (.cells #[.int .i64 6, .int .i64 (an : Int), .int .i64 (bn : Int), .int .i64 nx] 31)) (.cells #[.bool (bit (valsTo g held ns k) bn)] 4); rwa [show (wr.alloc (.cells #[.int .i64 6, .int .i64 (an : Int), .int .i64 (bn : Int), .int .i64 nx] 31)).heap.size = wr.heap.size + 1 by simp] at h)
          obtain ⟨va2, vc2, y, happ, hm, hg, hnb⟩ := app_bo (c := 1) (n' := k + 1) ((hmv.out.below HTx.out).below HTy.out) HLV.out (new := [bit (valsTo g held ns k) bn]) (m := 1) rfl rfl (Lies.blk (S := AnyB) (cs := bitsC [bit (valsTo g held ns k) bn]) HEy.out trivial) (Nat.le_trans hb.out.size (Below.step HTx.out HTy.out).size) (by omega)
          have HM := hide hm
          have HBY := hide (Below.grownOn (Below.step hb.out (Below.step HTx.out HTy.out)) hg (fun b hb => hmv.out.new b hb) (Nat.le_trans hb.out.size (Below.step HTx.out HTy.out).size))
          clear hm hg hnb
          go_wp2_with (at_builtin; (refine wpl_append_run happ rfl _ _ rfl rfl rfl ?_))
          exact ⟨⟨k + 1, va2, vc2, by omega, by go_num, rfl, hide (by rw [HVV.out]; exact HM.out), HBY⟩, by simp [intOf]; omega⟩
      · obtain ⟨⟨ha0, ha1⟩, hb0, hb1⟩ : (0 ≤ a ∧ a < (k : Int)) ∧ 0 ≤ bb ∧ bb < (k : Int) := by
          have h := HRN.out
          simp [rightN, inR] at h
          omega
        obtain ⟨an, rfl⟩ := Int.eq_ofNat_of_zero_le ha0
        obtain ⟨bn, rfl⟩ := Int.eq_ofNat_of_zero_le hb0
        obtain ⟨vb, vo, hva, _, _, fa⟩ := (hmv.out.lies (S := AnyB) fun _ _ => trivial).bits (i := an) (by rw [HLV.out]; omega)
        obtain ⟨vb', vo', hva', _, _, fb⟩ := (hmv.out.lies (S := AnyB) fun _ _ => trivial).bits (i := bn) (by rw [HLV.out]; omega)
        rw [hva] at hva'
        cases hva'
        subst hva
        have faa := fun o => cell_alloc fa o
        have fba := fun o => cell_alloc fb o
        have HVV := hide (HVS.out (bit (valsTo g held ns k) an != bit (valsTo g held ns k) bn) (by rw [HND.out]; simp [valN]))
        have HTx : Hid (Below wr.heap.size wr (wr.alloc (.cells #[.int .i64 7, .int .i64 (an : Int), .int .i64 (bn : Int), .int .i64 nx] 31)).drew) := hide (below_alloc _ _).drew
        have HTy : Hid (Below (wr.alloc (.cells #[.int .i64 7, .int .i64 (an : Int), .int .i64 (bn : Int), .int .i64 nx] 31)).drew.heap.size (wr.alloc (.cells #[.int .i64 7, .int .i64 (an : Int), .int .i64 (bn : Int), .int .i64 nx] 31)).drew ((wr.alloc (.cells #[.int .i64 7, .int .i64 (an : Int), .int .i64 (bn : Int), .int .i64 nx] 31)).drew.alloc (.cells #[.bool (bit (valsTo g held ns k) an != bit (valsTo g held ns k) bn)] 4))) := hide (below_alloc _ _)
        have HEy : Hid (((wr.alloc (.cells #[.int .i64 7, .int .i64 (an : Int), .int .i64 (bn : Int), .int .i64 nx] 31)).drew.alloc (.cells #[.bool (bit (valsTo g held ns k) an != bit (valsTo g held ns k) bn)] 4)).heap[wr.heap.size + 1]? = some (.cells #[.bool (bit (valsTo g held ns k) an != bit (valsTo g held ns k) bn)] 4 (0, 0))) := hide (by have h := blk_new (wr.alloc (.cells #[.int .i64 7, .int .i64 (an : Int), .int .i64 (bn : Int), .int .i64 nx] 31)).drew (.cells #[.bool (bit (valsTo g held ns k) an != bit (valsTo g held ns k) bn)] 4); rwa [show (wr.alloc (.cells #[.int .i64 7, .int .i64 (an : Int), .int .i64 (bn : Int), .int .i64 nx] 31)).drew.heap.size = wr.heap.size + 1 by simp] at h)
        obtain ⟨va2, vc2, y, happ, hm, hg, hnb⟩ := app_bo (c := 1) (n' := k + 1) ((hmv.out.below HTx.out).below HTy.out) HLV.out (new := [bit (valsTo g held ns k) an != bit (valsTo g held ns k) bn]) (m := 1) rfl rfl (Lies.blk (S := AnyB) (cs := bitsC [bit (valsTo g held ns k) an != bit (valsTo g held ns k) bn]) HEy.out trivial) (Nat.le_trans hb.out.size (Below.step HTx.out HTy.out).size) (by omega)
        have HM := hide hm
        have HBY := hide (Below.grownOn (Below.step hb.out (Below.step HTx.out HTy.out)) hg (fun b hb => hmv.out.new b hb) (Nat.le_trans hb.out.size (Below.step HTx.out HTy.out).size))
        clear hm hg hnb
        go_wp2_with fail
        go_region
        go_wp2_with (at_builtin; (refine wpl_append_run happ rfl _ _ rfl rfl rfl ?_))
        exact ⟨⟨k + 1, va2, vc2, by omega, by go_num, rfl, hide (by rw [HVV.out]; exact HM.out), HBY⟩, by simp [intOf]; omega⟩
      · obtain ⟨ha0, ha1⟩ := inR_iff.1 (show inR a k = true from HRN.out)
        obtain ⟨an, rfl⟩ := Int.eq_ofNat_of_zero_le ha0
        obtain ⟨vb, vo, hva, _, _, fa⟩ := (hmv.out.lies (S := AnyB) fun _ _ => trivial).bits (i := an) (by rw [HLV.out]; omega)
        subst hva
        have faa := fun o => cell_alloc fa o
        have HVV := hide (HVS.out (!bit (valsTo g held ns k) an) (by rw [HND.out]; simp [valN]))
        have HTx : Hid (Below wr.heap.size wr (wr.alloc (.cells #[.int .i64 8, .int .i64 (an : Int), .int .i64 bb, .int .i64 nx] 31))) := hide (below_alloc _ _)
        have HTy : Hid (Below (wr.alloc (.cells #[.int .i64 8, .int .i64 (an : Int), .int .i64 bb, .int .i64 nx] 31)).heap.size (wr.alloc (.cells #[.int .i64 8, .int .i64 (an : Int), .int .i64 bb, .int .i64 nx] 31)) ((wr.alloc (.cells #[.int .i64 8, .int .i64 (an : Int), .int .i64 bb, .int .i64 nx] 31)).alloc (.cells #[.bool (!bit (valsTo g held ns k) an)] 4))) := hide (below_alloc _ _)
        have HEy : Hid (((wr.alloc (.cells #[.int .i64 8, .int .i64 (an : Int), .int .i64 bb, .int .i64 nx] 31)).alloc (.cells #[.bool (!bit (valsTo g held ns k) an)] 4)).heap[wr.heap.size + 1]? = some (.cells #[.bool (!bit (valsTo g held ns k) an)] 4 (0, 0))) := hide (by have h := blk_new (wr.alloc (.cells #[.int .i64 8, .int .i64 (an : Int), .int .i64 bb, .int .i64 nx] 31)) (.cells #[.bool (!bit (valsTo g held ns k) an)] 4); rwa [show (wr.alloc (.cells #[.int .i64 8, .int .i64 (an : Int), .int .i64 bb, .int .i64 nx] 31)).heap.size = wr.heap.size + 1 by simp] at h)
        obtain ⟨va2, vc2, y, happ, hm, hg, hnb⟩ := app_bo (c := 1) (n' := k + 1) ((hmv.out.below HTx.out).below HTy.out) HLV.out (new := [!bit (valsTo g held ns k) an]) (m := 1) rfl rfl (Lies.blk (S := AnyB) (cs := bitsC [!bit (valsTo g held ns k) an]) HEy.out trivial) (Nat.le_trans hb.out.size (Below.step HTx.out HTy.out).size) (by omega)
        have HM := hide hm
        have HBY := hide (Below.grownOn (Below.step hb.out (Below.step HTx.out HTy.out)) hg (fun b hb => hmv.out.new b hb) (Nat.le_trans hb.out.size (Below.step HTx.out HTy.out).size))
        clear hm hg hnb
        go_wp2_with (at_builtin; (refine wpl_append_run happ rfl _ _ rfl rfl rfl ?_))
        exact ⟨⟨k + 1, va2, vc2, by omega, by go_num, rfl, hide (by rw [HVV.out]; exact HM.out), HBY⟩, by simp [intOf]; omega⟩
    · have HJ : Hid (k = ns.length) := hide (by omega)
      have HMV : Hid (Mine 4 1 w1.heap.size wr (.slice va ns.length vc) ns.length (bitsC (vals g held ns))) := hide (by have := hmv.out; rw [HJ.out] at this; exact this)
      have HVL : Hid ((vals g held ns).length = ns.length) := hide (valsTo_len _ _ _ _)
      have HOr : Hid (wr.ownsMap Tryd.prog 3 (plainElem Tryd.prog 4) B ns.length D) := hide (HOW.out.kept ⟨HBW.out.os, HBW.out.tape, HBW.out.output, HBW.out.size, fun i hi _ => HBW.out.block i hi⟩ (row := none) (by simp))
      have hkn : k = ns.length := HJ.out
      subst hkn
      generalize hVE : vals g held ns = v at *
      have HVE := hide hVE
      clear hVE
      have e1 : (wr.alloc (.map #[] 0)).heap.size = wr.heap.size + 1 := by simp
      clear hmv
      rename World => wf
      go_wp2_with (first | (at_range; refine wpList_range_own _ rfl _ 43 rfl 3 4 law3 Tryd.underlying43 _ B ns.length D rfl (HOr.out.alloc _) ?_; intro w0 hrg0 hg0 hs0) | go_in)
      try go_frame
      rw [e1] at hrg0 hs0
      try rw [e1]
      have HBX : Hid (Below wf.heap.size wf w0) := hide (((Below.refl _ _).alloc (Nat.le_refl _) _).grown hg0 (by simp) (fun j hj => by cases hj))
      have HM0 : Hid (w0.ownsMap Tryd.prog 3 (plainElem Tryd.prog 4) wf.heap.size (Maps.size D - Maps.size D) (.map [] : DataW Unit)) := hide (((World.ownsMap_made _ _ _ _).kept hg0 (by simp)).mono (Nat.zero_le _))
      have HG0 := hide hrg0
      have HSD : Hid (Maps.size D ≤ ns.length) := hide HOr.out.size_le
      have HBl : Hid (B < wf.heap.size) := hide HOr.out.lt
      clear hrg0 hg0 hs0 hmm e1
      go_loopw [13] (fun _ wr => ∃ (left : Lit → Bool) (cnt : Nat) (Dout : DataW Unit), Hid (wr.ranges Tryd.prog 3 (plainElem Tryd.prog 4) B (wf.heap.size + 1) ns.length D left cnt) ∧ cnt ≤ Maps.size D ∧ Hid (wr.ownsMap Tryd.prog 3 (plainElem Tryd.prog 4) wf.heap.size (Maps.size D - cnt) Dout) ∧ Hid (NextL ns v D Dout left) ∧ Hid (Below wf.heap.size wf wr)) (fun _ wr => wr.rangeLeft B (wf.heap.size + 1))
      case atStart => exact ⟨_, _, .map [], HG0, Nat.le_refl _, HM0, hide (NextL.start ns v D), HBX⟩
      case round =>
        obtain ⟨left, cnt, Dout, hrg, hcs, hout, hnl, hnx⟩ := hrel
        go_wp2_with (first | (at_next; refine next_ib _ rfl _ rfl 3 law3 Tryd.underlying3 (plainElem Tryd.prog 4) B (wf.heap.size + 1) ns.length _ _ _ rfl hrg.out ?_ ?_) | go_in)
        · intro hc0 hl0
          have HRF : Hid (RegD ns (heldNext v held ns) ns.length Dout) := hide (hnl.out.done hl0 HRD.out HLE.out)
          have HOF : Hid (wr.ownsMap Tryd.prog 3 (plainElem Tryd.prog 4) wf.heap.size ns.length Dout) := hide (hout.out.mono (by have := HSD.out; omega))
          have HBF := hide (Below.step hb.out hnx.out)
          have HMF := hide (HMV.out.below hnx.out)
          have m2 : wr.cell? ⟨w.heap.size, 2, none⟩ = some (.slice oa os.length oc) := by rw [blk_cell (Below.blk HBF.out HP0.out)]; rfl
          clear hl0 hrg hout hnl
          rename World => wq
          go_wp2_with fail
          clear m2
          go_loopw [14, 16, 123] (fun ov _ i wr => ∃ (p : Nat) (qa : Option Addr) (qc : Nat), p ≤ os.length ∧ i = .int .i64 p ∧ ov = .slice qa p qc ∧ Hid (Mine 4 1 wq.heap.size wr (.slice qa p qc) p (bitsC (outs v (os.take p)))) ∧ Hid (Below wq.heap.size wq wr)) (fun _ _ i _ => os.length - (intOf i).toNat)
          case atStart => exact ⟨0, none, 0, Nat.zero_le _, rfl, rfl, hide (Mine.none _), hide (Below.refl _ _)⟩
          case round =>
            obtain ⟨p, qa, qc, hp, rfl, rfl, hmq, hbq⟩ := hrel
            by_cases hlt : p < os.length
            · have hpi : (p : Int) < (os.length : Int) := by omega
              obtain ⟨b, off, ha, _, _, n0⟩ := (((HO.out.below HB0.out).below HBF.out).below hbq.out).ints hlt
              have HX := inR_iff.1 (HR.out.outs p hlt)
              obtain ⟨on, hon⟩ := Int.eq_ofNat_of_zero_le HX.1
              rw [hon] at n0
              have hol : on < ns.length := by omega
              have hoi : (on : Int) < (ns.length : Int) := by omega
              obtain ⟨vb, vo, hva, _, _, fv⟩ := ((HMF.out.below hbq.out).lies (S := AnyB) fun _ _ => trivial).bits (i := on) (by rw [HVL.out]; omega)
              have HA := hide ha
              have HVA := hide hva
              rw [HA.out, HVA.out]
              have HOT : Hid (outs v (os.take (p + 1)) = outs v (os.take p) ++ [bit v on]) := hide (by
                rw [List.take_succ_eq_append_getElem hlt]
                have e : os[p] = outAt os p := by unfold outAt; rw [List.getElem?_eq_getElem hlt]; rfl
                simp [outs, e, hon])
              have HLV : Hid ((outs v (os.take p)).length = p) := hide (by simp [outs]; omega)
              have HTy : Hid (Below wr.heap.size wr (wr.alloc (.cells #[.bool (bit v on)] 4))) := hide (below_alloc _ _)
              have HEy := hide (blk_new wr (.cells #[.bool (bit v on)] 4))
              obtain ⟨qa2, qc2, y, happ, hm, hg, hnb⟩ := app_bo (c := 1) (n' := p + 1) (hmq.out.below HTy.out) HLV.out (new := [bit v on]) (m := 1) rfl rfl (Lies.blk (S := AnyB) (cs := bitsC [bit v on]) HEy.out trivial) (Nat.le_trans hbq.out.size HTy.out.size) (by omega)
              have HM := hide hm
              have HBY := hide (Below.grownOn (Below.step hbq.out HTy.out) hg (fun b hb => hmq.out.new b hb) (Nat.le_trans hbq.out.size HTy.out.size))
              clear hm hg hnb ha hva hon HX
              go_wp2_with (at_builtin; (refine wpl_append_run happ rfl _ _ rfl rfl rfl ?_))
              exact ⟨⟨p + 1, qa2, qc2, by omega, by go_num, rfl, hide (by rw [HOT.out]; exact HM.out), HBY⟩, by simp [intOf]; omega⟩
            · have hpn : p = os.length := by omega
              subst hpn
              have HLQ : Hid (Lies (FromB w.heap.size) wr qa (bitsC (outs v os))) := hide (by have h := hmq.out.lies (S := FromB w.heap.size) fun b hb => Nat.le_trans (Below.step HB0.out HBF.out).size (hmq.out.new b hb); rwa [List.take_length] at h)
              go_wp2_with fail
              go_ret2
              refine ⟨⟨qa, qc, wf.heap.size, Dout, rfl, ?_, HBW.out.size, ?_, ?_⟩, Below.step HB0.out (Below.step HBF.out hbq.out)⟩
              · rw [HVE.out]; exact HLQ.out
              · exact HOF.out.kept ⟨hbq.out.os, hbq.out.tape, hbq.out.output, hbq.out.size, fun i hi _ => hbq.out.block i hi⟩ (row := none) (by simp)
              · rw [HVE.out]; exact HRF.out
        · intro x c w' cnt' hwx hlk hhas hrg1 hlt hg1 hs1 hen
          obtain ⟨i, hxi, hi, hreg⟩ := HRD.out.only _ hhas
          injection hxi with _ hxi
          subst hxi
          have HRG1 := hide hrg1
          have HAT := hide hhas
          have HG1 := hide hg1
          have HLK := hide hlk
          have HLT := hide hlt
          clear hrg1 hhas hg1 hlk hlt
          have HBF := hide (Below.step hb.out hnx.out)
          have HB1 : Hid (Below wf.heap.size wf w') := hide (hnx.out.grown HG1.out hnx.out.size (fun j hj => by cases hj; exact Nat.le_succ _))
          have HBG := hide (Below.step hb.out HB1.out)
          obtain ⟨b, off, ha, _, hbl, n0, n1, n2, n3⟩ := ((HN.out.below HB0.out).below HBG.out).nodes hi
          have HX := HR.out.nodes i hi
          have h4 : (ndAt ns i).op = 4 := by simpa [isReg] using hreg
          simp [rightN, h4, inR] at HX
          obtain ⟨nn, hnn⟩ := Int.eq_ofNat_of_zero_le HX.2.1
          have hnl2 : nn < ns.length := by omega
          rw [hnn] at n3
          have HNN : Hid (bit v (ndAt ns i).next.toNat = bit v nn) := hide (by rw [hnn]; rfl)
          obtain ⟨vb, vo, hva, _, _, fv⟩ := ((HMV.out.below HB1.out).lies (S := AnyB) fun _ _ => trivial).bits (i := nn) (by rw [HVL.out]; omega)
          have hii : (i : Int) < (ns.length : Int) := by omega
          have hni : (nn : Int) < (ns.length : Int) := by omega
          have m1 : w'.cell? ⟨w.heap.size, 1, none⟩ = some (.slice na ns.length nc) := by rw [blk_cell (Below.blk HBG.out HP0.out)]; rfl
          have HA := hide ha
          have HVA := hide hva
          rw [HA.out] at m1
          rw [HVA.out]
          have hout1 : Hid (w'.ownsMap Tryd.prog 3 (plainElem Tryd.prog 4) wf.heap.size (Maps.size D - cnt) Dout) := hide (hout.out.kept HG1.out (fun e => by have := Option.some.inj e; omega))
          clear ha hva hbl n0 n1 n2 hnn h4 HX hreg
          go_wp2_with (first | (at_mapUpdate; refine wpList_mapUpdate_own _ rfl _ _ _ 43 rfl 3 4 law3 Tryd.underlying43 _ wf.heap.size _ _ rfl hout1.out (by unfold maxLen; have := HSD.out; omega) _ _ _ rfl rfl (keyOf_int_mk Tryd.underlying3 hwx) _ [] (plainElem_bool Tryd.underlying4 _) ?_; intro w2 hout2 hg2; go_frame) | go_in)
          have hrg2 := HRG1.out.kept hg2 (fun e => by have := Option.some.inj e; have := HBl.out; omega) (fun e => by have := Option.some.inj e; omega)
          refine ⟨⟨⟨_, cnt', hide hrg2, by have := HLT.out; omega, _, hide (hout2.mono (by have := HLT.out; omega)), hide (hnl.out.step hout.out.isMap HAT.out _ HNN.out), hide (HB1.out.grown hg2 HB1.out.size (fun j hj => by cases hj; exact Nat.le_refl _))⟩, HVA.out.symm⟩, ?_⟩
          rw [hrg2.left_eq, hrg.out.left_eq]
          exact HLT.out
end Go.Proofs.YtoghcacigdeloaaDoor
