/-
  THE LAW GateJoins, its walk.
-/
import Derived.Test.YtoghcacigdeloaaGBes
set_option linter.unusedSimpArgs false
set_option linter.unusedVariables false
namespace Go.Proofs.Ytoghcacigdeloaa
open Go.RowKit

theorem cut_to (ao : Option Addr) (n cap k : Nat) (hk : k ≤ cap) (w : World) : (Instr.slice 38 (.slice ao n cap) none (some (.int .i64 k)) none).run Try.prog w = .ok (.slice ao k cap) w := by
  obtain ⟨i, hi, _⟩ := info_bo
  have ht : Try.prog.underlying 38 = some (.slice 4) := by kernel_rfl
  have h1 : (k : Int) ≤ (cap : Int) := by omega
  have h2 : ¬ cap < k := by omega
  cases ao <;> simp [h2, Instr.slice, run_underlying ht, Instr.sliceBounds, Instr.sliceBound, asIntOf, h1, sizeOf, typeInfo, hi, Addr.add]
theorem Mine.cut {B : Nat} {w : World} {ao : Option Addr} {n cap k : Nat} {l : List Bool} (h : Mine 4 1 B w (.slice ao n cap) n (bitsC l)) (hl : l.length = n) (hk : k ≤ n) : Mine 4 1 B w (.slice ao k cap) k (bitsC (l.take k)) := by
  refine ⟨⟨by simp [bitsC]; omega, ?_⟩, fun b hb => h.new b (by cases ao <;> simp_all [Value.ownBlock])⟩
  rcases h.own.2 with ⟨h1, h2⟩ | ⟨g, c, cur, h1, h2, h3, h4, h5, h6, h7⟩
  · cases h1
    obtain rfl : k = 0 := by omega
    exact .inl ⟨rfl, rfl⟩
  · cases h1
    refine .inr ⟨g, cap, cur, rfl, h2, h3, by omega, h5, h6, ?_⟩
    have : cur.toList.take (k * 1) = (cur.toList.take (n * 1)).take (k * 1) := by rw [List.take_take]; congr 1; omega
    rw [this, h7]
    simp [bitsC]
theorem SimAt.onto {s : SimP} {w w' : World} {lo hi : Nat} {ns : List Nd} {os : List Int} {held : List Bool} {row : Option Nat} (h : SimAt s w lo hi ns os held) (hg : w.grownBy w' row) (hr : ∀ b, row = some b → hi ≤ b) : SimAt s w' lo hi ns os held := by
  have key : ∀ b, b < hi → b < w.heap.size → w'.heap[b]? = w.heap[b]? := fun b hb hl => hg.block b hl (fun e => by have := hr b e.symm; omega)
  exact ⟨(key _ h.pin.2.1 (blk_lt h.me)).trans h.me, h.nodes.same fun b hS hl => key b hS.2.1 hl, h.outs.same fun b hS hl => key b hS.2.1 hl, (key _ h.hin.2 (blk_lt h.hold)).trans h.hold, h.len, h.pin, h.hin⟩
theorem wpl_append_at {P : Program} {ops : Array Oper} {rest : List Oper} {o : Oper} {a : Act} {w w' : World} {Q : Exit → Act → World → Prop} {v x v' : Value} {t : TypeId} (w0 : World) (hw : w = w0) (hr : (Builtin.append_ #[t, t] o.type #[v, x]).run P w0 = .ok v' w') (hgd : o.guard = none) (so xo : Operand) (ho : o.op = .call { callee := .builtin .append, args := #[so, xo], argTypes := #[t, t] }) (hs : a.eval so = v) (hx : a.eval xo = x) (h : wpList P ops Q rest (a.put o.dst v') w') : wpList P ops Q (o :: rest) a w := by
  subst hw
  exact wpl_append_run hr hgd so xo ho hs hx h
theorem Mine.cap {B : Nat} {w : World} {ao : Option Addr} {n cap : Nat} {xs : List Value} {e size : Nat} (h : Mine e size B w (.slice ao n cap) n xs) : n ≤ cap := by
  rcases h.own.2 with ⟨h1, h2⟩ | ⟨g, c, cur, h1, h2, h3, h4, h5, h6, h7⟩
  · cases h1; omega
  · cases h1; exact h4

set_option maxRecDepth 100000 in
set_option maxHeartbeats 6400000 in
theorem jn_bigA (given given2 : Int) (ns ms : List Nd) (os mo : List Int) (na oa ma pa ga ha : Option Addr) (nc oc mc pc gc hc : Nat) (A A2 : Nat → Option Addr) (C C2 : Nat → Nat) (gs hs : List (List Bool)) (w : World) (hs1 : smallP given ns.length os.length = false) :
    Calls Try.prog 4 #[.agg #[.int .i64 given, .slice na ns.length nc, .slice oa os.length oc], .agg #[.int .i64 given2, .slice ma ms.length mc, .slice pa mo.length pc], .slice ga gs.length gc, .slice ha hs.length hc] w fun e w' => e = .returned (.bool true) ∧ Below w.heap.size w w' := by
  have HB1 : Hid (Below w.heap.size w ((w.alloc (.cells #[.int .i64 given, .slice na ns.length nc, .slice oa os.length oc] 25)).alloc (.cells #[.int .i64 given2, .slice ma ms.length mc, .slice pa mo.length pc] 25))) := hide ((below_alloc _ _).alloc (by simp) _)
  have c00 : ((w.alloc (.cells #[.int .i64 given, .slice na ns.length nc, .slice oa os.length oc] 25)).alloc (.cells #[.int .i64 given2, .slice ma ms.length mc, .slice pa mo.length pc] 25)).cell? ⟨w.heap.size, 0, none⟩ = some (.int .i64 given) := by go_simp
  have c01 : ((w.alloc (.cells #[.int .i64 given, .slice na ns.length nc, .slice oa os.length oc] 25)).alloc (.cells #[.int .i64 given2, .slice ma ms.length mc, .slice pa mo.length pc] 25)).cell? ⟨w.heap.size, 1, none⟩ = some (.slice na ns.length nc) := by go_simp
  have c02 : ((w.alloc (.cells #[.int .i64 given, .slice na ns.length nc, .slice oa os.length oc] 25)).alloc (.cells #[.int .i64 given2, .slice ma ms.length mc, .slice pa mo.length pc] 25)).cell? ⟨w.heap.size, 2, none⟩ = some (.slice oa os.length oc) := by go_simp
  go_enter Try.func4, Try.ntmps4
  go_wp2_with fail
  refine (small_at given na oa ns.length nc os.length oc _).mono ?_
  rintro e w2 ⟨rfl, hb⟩
  rw [hs1]
  have HB2 := hide (Below.step HB1.out hb)
  clear hb hs1 HB1 c00 c01 c02
  go_wp2_with fail
  go_ret
  exact ⟨rfl, HB2.out⟩

set_option maxRecDepth 100000 in
set_option maxHeartbeats 6400000 in
theorem jn_bigB (given given2 : Int) (ns ms : List Nd) (os mo : List Int) (na oa ma pa ga ha : Option Addr) (nc oc mc pc gc hc : Nat) (A A2 : Nat → Option Addr) (C C2 : Nat → Nat) (gs hs : List (List Bool)) (w : World) (hn : Lies AnyB w na (ndsC ns)) (ho : Lies AnyB w oa (intsC os)) (hm : Lies AnyB w ma (ndsC ms)) (hp : Lies AnyB w pa (intsC mo)) (hs1 : smallP given ns.length os.length = true) (hs2 : smallP given2 ms.length mo.length = false) :
    Calls Try.prog 4 #[.agg #[.int .i64 given, .slice na ns.length nc, .slice oa os.length oc], .agg #[.int .i64 given2, .slice ma ms.length mc, .slice pa mo.length pc], .slice ga gs.length gc, .slice ha hs.length hc] w fun e w' => e = .returned (.bool true) ∧ Below w.heap.size w w' := by
  have HNA : Hid (NetAt ⟨w.heap.size, na, nc, oa, oc⟩ AnyB ((w.alloc (.cells #[.int .i64 given, .slice na ns.length nc, .slice oa os.length oc] 25)).alloc (.cells #[.int .i64 given2, .slice ma ms.length mc, .slice pa mo.length pc] 25)) given ns os ∧ NetAt ⟨w.heap.size + 1, ma, mc, pa, pc⟩ AnyB ((w.alloc (.cells #[.int .i64 given, .slice na ns.length nc, .slice oa os.length oc] 25)).alloc (.cells #[.int .i64 given2, .slice ma ms.length mc, .slice pa mo.length pc] 25)) given2 ms mo) := hide (by
    have b1 := blk_new w (.cells #[.int .i64 given, .slice na ns.length nc, .slice oa os.length oc] 25)
    have l1 := below_alloc w (.cells #[.int .i64 given, .slice na ns.length nc, .slice oa os.length oc] 25)
    generalize hw1 : w.alloc (.cells #[.int .i64 given, .slice na ns.length nc, .slice oa os.length oc] 25) = w1 at *
    have z1 : w1.heap.size = w.heap.size + 1 := by rw [← hw1]; simp
    have b2 := blk_new w1 (.cells #[.int .i64 given2, .slice ma ms.length mc, .slice pa mo.length pc] 25)
    have l2 := below_alloc w1 (.cells #[.int .i64 given2, .slice ma ms.length mc, .slice pa mo.length pc] 25)
    rw [z1] at b2
    exact ⟨⟨Below.blk l2 b1, (hn.below l1).below l2, (ho.below l1).below l2⟩, ⟨b2, (hm.below l1).below l2, (hp.below l1).below l2⟩⟩)
  clear hn ho hm hp
  have HB1 : Hid (Below w.heap.size w ((w.alloc (.cells #[.int .i64 given, .slice na ns.length nc, .slice oa os.length oc] 25)).alloc (.cells #[.int .i64 given2, .slice ma ms.length mc, .slice pa mo.length pc] 25))) := hide ((below_alloc _ _).alloc (by simp) _)
  have c00 : ((w.alloc (.cells #[.int .i64 given, .slice na ns.length nc, .slice oa os.length oc] 25)).alloc (.cells #[.int .i64 given2, .slice ma ms.length mc, .slice pa mo.length pc] 25)).cell? ⟨w.heap.size, 0, none⟩ = some (.int .i64 given) := by go_simp
  have c01 : ((w.alloc (.cells #[.int .i64 given, .slice na ns.length nc, .slice oa os.length oc] 25)).alloc (.cells #[.int .i64 given2, .slice ma ms.length mc, .slice pa mo.length pc] 25)).cell? ⟨w.heap.size, 1, none⟩ = some (.slice na ns.length nc) := by go_simp
  have c02 : ((w.alloc (.cells #[.int .i64 given, .slice na ns.length nc, .slice oa os.length oc] 25)).alloc (.cells #[.int .i64 given2, .slice ma ms.length mc, .slice pa mo.length pc] 25)).cell? ⟨w.heap.size, 2, none⟩ = some (.slice oa os.length oc) := by go_simp
  go_enter Try.func4, Try.ntmps4
  go_wp2_with fail
  refine (small_at given na oa ns.length nc os.length oc _).mono ?_
  rintro e w2 ⟨rfl, hb⟩
  rw [hs1]
  have HB2 := hide (Below.step HB1.out hb)
  have HN2 := hide (HNA.out.1.below hb)
  have HM2 := hide (HNA.out.2.below hb)
  have d0 : w2.cell? ⟨w.heap.size + 1, 0, none⟩ = some (.int .i64 given2) := HM2.out.c0
  have d1 : w2.cell? ⟨w.heap.size + 1, 1, none⟩ = some (.slice ma ms.length mc) := HM2.out.c1
  have d2 : w2.cell? ⟨w.heap.size + 1, 2, none⟩ = some (.slice pa mo.length pc) := HM2.out.c2
  clear hb hs1 HB1 c00 c01 c02 HNA
  go_wp2_with fail
  refine (small_at given2 ma pa ms.length mc mo.length pc _).mono ?_
  rintro e w3 ⟨rfl, hb⟩
  rw [hs2]
  have HB3 := hide (Below.step HB2.out hb)
  have HN3 := hide (HN2.out.below hb)
  have HM3 := hide (HM2.out.below hb)
  clear hb hs2 HB2 d0 d1 d2 HN2 HM2
  go_wp2_with fail
  go_ret
  exact ⟨rfl, HB3.out⟩

set_option maxRecDepth 100000 in
set_option maxHeartbeats 6400000 in
theorem jn_longA (given given2 : Int) (ns ms : List Nd) (os mo : List Int) (na oa ma pa ga ha : Option Addr) (nc oc mc pc gc hc : Nat) (A A2 : Nat → Option Addr) (C C2 : Nat → Nat) (gs hs : List (List Bool)) (w : World) (hn : Lies AnyB w na (ndsC ns)) (ho : Lies AnyB w oa (intsC os)) (hm : Lies AnyB w ma (ndsC ms)) (hp : Lies AnyB w pa (intsC mo)) (hs1 : smallP given ns.length os.length = true) (hs2 : smallP given2 ms.length mo.length = true) (h20 : (20 : Int) < (gs.length : Int)) :
    Calls Try.prog 4 #[.agg #[.int .i64 given, .slice na ns.length nc, .slice oa os.length oc], .agg #[.int .i64 given2, .slice ma ms.length mc, .slice pa mo.length pc], .slice ga gs.length gc, .slice ha hs.length hc] w fun e w' => e = .returned (.bool true) ∧ Below w.heap.size w w' := by
  have HNA : Hid (NetAt ⟨w.heap.size, na, nc, oa, oc⟩ AnyB ((w.alloc (.cells #[.int .i64 given, .slice na ns.length nc, .slice oa os.length oc] 25)).alloc (.cells #[.int .i64 given2, .slice ma ms.length mc, .slice pa mo.length pc] 25)) given ns os ∧ NetAt ⟨w.heap.size + 1, ma, mc, pa, pc⟩ AnyB ((w.alloc (.cells #[.int .i64 given, .slice na ns.length nc, .slice oa os.length oc] 25)).alloc (.cells #[.int .i64 given2, .slice ma ms.length mc, .slice pa mo.length pc] 25)) given2 ms mo) := hide (by
    have b1 := blk_new w (.cells #[.int .i64 given, .slice na ns.length nc, .slice oa os.length oc] 25)
    have l1 := below_alloc w (.cells #[.int .i64 given, .slice na ns.length nc, .slice oa os.length oc] 25)
    generalize hw1 : w.alloc (.cells #[.int .i64 given, .slice na ns.length nc, .slice oa os.length oc] 25) = w1 at *
    have z1 : w1.heap.size = w.heap.size + 1 := by rw [← hw1]; simp
    have b2 := blk_new w1 (.cells #[.int .i64 given2, .slice ma ms.length mc, .slice pa mo.length pc] 25)
    have l2 := below_alloc w1 (.cells #[.int .i64 given2, .slice ma ms.length mc, .slice pa mo.length pc] 25)
    rw [z1] at b2
    exact ⟨⟨Below.blk l2 b1, (hn.below l1).below l2, (ho.below l1).below l2⟩, ⟨b2, (hm.below l1).below l2, (hp.below l1).below l2⟩⟩)
  clear hn ho hm hp
  have HB1 : Hid (Below w.heap.size w ((w.alloc (.cells #[.int .i64 given, .slice na ns.length nc, .slice oa os.length oc] 25)).alloc (.cells #[.int .i64 given2, .slice ma ms.length mc, .slice pa mo.length pc] 25))) := hide ((below_alloc _ _).alloc (by simp) _)
  have c00 : ((w.alloc (.cells #[.int .i64 given, .slice na ns.length nc, .slice oa os.length oc] 25)).alloc (.cells #[.int .i64 given2, .slice ma ms.length mc, .slice pa mo.length pc] 25)).cell? ⟨w.heap.size, 0, none⟩ = some (.int .i64 given) := by go_simp
  have c01 : ((w.alloc (.cells #[.int .i64 given, .slice na ns.length nc, .slice oa os.length oc] 25)).alloc (.cells #[.int .i64 given2, .slice ma ms.length mc, .slice pa mo.length pc] 25)).cell? ⟨w.heap.size, 1, none⟩ = some (.slice na ns.length nc) := by go_simp
  have c02 : ((w.alloc (.cells #[.int .i64 given, .slice na ns.length nc, .slice oa os.length oc] 25)).alloc (.cells #[.int .i64 given2, .slice ma ms.length mc, .slice pa mo.length pc] 25)).cell? ⟨w.heap.size, 2, none⟩ = some (.slice oa os.length oc) := by go_simp
  go_enter Try.func4, Try.ntmps4
  go_wp2_with fail
  refine (small_at given na oa ns.length nc os.length oc _).mono ?_
  rintro e w2 ⟨rfl, hb⟩
  rw [hs1]
  have HB2 := hide (Below.step HB1.out hb)
  have HN2 := hide (HNA.out.1.below hb)
  have HM2 := hide (HNA.out.2.below hb)
  have d0 : w2.cell? ⟨w.heap.size + 1, 0, none⟩ = some (.int .i64 given2) := HM2.out.c0
  have d1 : w2.cell? ⟨w.heap.size + 1, 1, none⟩ = some (.slice ma ms.length mc) := HM2.out.c1
  have d2 : w2.cell? ⟨w.heap.size + 1, 2, none⟩ = some (.slice pa mo.length pc) := HM2.out.c2
  clear hb hs1 HB1 c00 c01 c02 HNA
  go_wp2_with fail
  refine (small_at given2 ma pa ms.length mc mo.length pc _).mono ?_
  rintro e w3 ⟨rfl, hb⟩
  rw [hs2]
  have HB3 := hide (Below.step HB2.out hb)
  have HN3 := hide (HN2.out.below hb)
  have HM3 := hide (HM2.out.below hb)
  clear hb hs2 HB2 d0 d1 d2 HN2 HM2
  go_wp2_with fail
  go_ret
  exact ⟨rfl, HB3.out⟩

set_option maxRecDepth 100000 in
set_option maxHeartbeats 6400000 in
theorem jn_longB (given given2 : Int) (ns ms : List Nd) (os mo : List Int) (na oa ma pa ga ha : Option Addr) (nc oc mc pc gc hc : Nat) (A A2 : Nat → Option Addr) (C C2 : Nat → Nat) (gs hs : List (List Bool)) (w : World) (hn : Lies AnyB w na (ndsC ns)) (ho : Lies AnyB w oa (intsC os)) (hm : Lies AnyB w ma (ndsC ms)) (hp : Lies AnyB w pa (intsC mo)) (hs1 : smallP given ns.length os.length = true) (hs2 : smallP given2 ms.length mo.length = true) (h20 : (gs.length : Int) ≤ 20) (h21 : (20 : Int) < (hs.length : Int)) :
    Calls Try.prog 4 #[.agg #[.int .i64 given, .slice na ns.length nc, .slice oa os.length oc], .agg #[.int .i64 given2, .slice ma ms.length mc, .slice pa mo.length pc], .slice ga gs.length gc, .slice ha hs.length hc] w fun e w' => e = .returned (.bool true) ∧ Below w.heap.size w w' := by
  have HNA : Hid (NetAt ⟨w.heap.size, na, nc, oa, oc⟩ AnyB ((w.alloc (.cells #[.int .i64 given, .slice na ns.length nc, .slice oa os.length oc] 25)).alloc (.cells #[.int .i64 given2, .slice ma ms.length mc, .slice pa mo.length pc] 25)) given ns os ∧ NetAt ⟨w.heap.size + 1, ma, mc, pa, pc⟩ AnyB ((w.alloc (.cells #[.int .i64 given, .slice na ns.length nc, .slice oa os.length oc] 25)).alloc (.cells #[.int .i64 given2, .slice ma ms.length mc, .slice pa mo.length pc] 25)) given2 ms mo) := hide (by
    have b1 := blk_new w (.cells #[.int .i64 given, .slice na ns.length nc, .slice oa os.length oc] 25)
    have l1 := below_alloc w (.cells #[.int .i64 given, .slice na ns.length nc, .slice oa os.length oc] 25)
    generalize hw1 : w.alloc (.cells #[.int .i64 given, .slice na ns.length nc, .slice oa os.length oc] 25) = w1 at *
    have z1 : w1.heap.size = w.heap.size + 1 := by rw [← hw1]; simp
    have b2 := blk_new w1 (.cells #[.int .i64 given2, .slice ma ms.length mc, .slice pa mo.length pc] 25)
    have l2 := below_alloc w1 (.cells #[.int .i64 given2, .slice ma ms.length mc, .slice pa mo.length pc] 25)
    rw [z1] at b2
    exact ⟨⟨Below.blk l2 b1, (hn.below l1).below l2, (ho.below l1).below l2⟩, ⟨b2, (hm.below l1).below l2, (hp.below l1).below l2⟩⟩)
  clear hn ho hm hp
  have HB1 : Hid (Below w.heap.size w ((w.alloc (.cells #[.int .i64 given, .slice na ns.length nc, .slice oa os.length oc] 25)).alloc (.cells #[.int .i64 given2, .slice ma ms.length mc, .slice pa mo.length pc] 25))) := hide ((below_alloc _ _).alloc (by simp) _)
  have c00 : ((w.alloc (.cells #[.int .i64 given, .slice na ns.length nc, .slice oa os.length oc] 25)).alloc (.cells #[.int .i64 given2, .slice ma ms.length mc, .slice pa mo.length pc] 25)).cell? ⟨w.heap.size, 0, none⟩ = some (.int .i64 given) := by go_simp
  have c01 : ((w.alloc (.cells #[.int .i64 given, .slice na ns.length nc, .slice oa os.length oc] 25)).alloc (.cells #[.int .i64 given2, .slice ma ms.length mc, .slice pa mo.length pc] 25)).cell? ⟨w.heap.size, 1, none⟩ = some (.slice na ns.length nc) := by go_simp
  have c02 : ((w.alloc (.cells #[.int .i64 given, .slice na ns.length nc, .slice oa os.length oc] 25)).alloc (.cells #[.int .i64 given2, .slice ma ms.length mc, .slice pa mo.length pc] 25)).cell? ⟨w.heap.size, 2, none⟩ = some (.slice oa os.length oc) := by go_simp
  go_enter Try.func4, Try.ntmps4
  go_wp2_with fail
  refine (small_at given na oa ns.length nc os.length oc _).mono ?_
  rintro e w2 ⟨rfl, hb⟩
  rw [hs1]
  have HB2 := hide (Below.step HB1.out hb)
  have HN2 := hide (HNA.out.1.below hb)
  have HM2 := hide (HNA.out.2.below hb)
  have d0 : w2.cell? ⟨w.heap.size + 1, 0, none⟩ = some (.int .i64 given2) := HM2.out.c0
  have d1 : w2.cell? ⟨w.heap.size + 1, 1, none⟩ = some (.slice ma ms.length mc) := HM2.out.c1
  have d2 : w2.cell? ⟨w.heap.size + 1, 2, none⟩ = some (.slice pa mo.length pc) := HM2.out.c2
  clear hb hs1 HB1 c00 c01 c02 HNA
  go_wp2_with fail
  refine (small_at given2 ma pa ms.length mc mo.length pc _).mono ?_
  rintro e w3 ⟨rfl, hb⟩
  rw [hs2]
  have HB3 := hide (Below.step HB2.out hb)
  have HN3 := hide (HN2.out.below hb)
  have HM3 := hide (HM2.out.below hb)
  clear hb hs2 HB2 d0 d1 d2 HN2 HM2
  go_wp2_with fail
  go_ret
  exact ⟨rfl, HB3.out⟩

set_option maxRecDepth 100000 in
set_option maxHeartbeats 6400000 in
theorem jn_wrongA (given given2 : Int) (ns ms : List Nd) (os mo : List Int) (na oa ma pa ga ha : Option Addr) (nc oc mc pc gc hc : Nat) (A A2 : Nat → Option Addr) (C C2 : Nat → Nat) (gs hs : List (List Bool)) (w : World) (hn : Lies AnyB w na (ndsC ns)) (ho : Lies AnyB w oa (intsC os)) (hm : Lies AnyB w ma (ndsC ms)) (hp : Lies AnyB w pa (intsC mo)) (hs1 : smallP given ns.length os.length = true) (hs2 : smallP given2 ms.length mo.length = true) (h20 : (gs.length : Int) ≤ 20) (h21 : (hs.length : Int) ≤ 20) (hr1 : rightP given ns os = false) :
    Calls Try.prog 4 #[.agg #[.int .i64 given, .slice na ns.length nc, .slice oa os.length oc], .agg #[.int .i64 given2, .slice ma ms.length mc, .slice pa mo.length pc], .slice ga gs.length gc, .slice ha hs.length hc] w fun e w' => e = .returned (.bool true) ∧ Below w.heap.size w w' := by
  have h60 : ns.length ≤ 60 ∧ os.length ≤ 30 ∧ given ≤ 200 := by simp [smallP] at hs1; omega
  have h61 : ms.length ≤ 60 ∧ mo.length ≤ 30 ∧ given2 ≤ 200 := by simp [smallP] at hs2; omega
  have H60 := hide h60
  have H61 := hide h61
  clear h60 h61
  have HNA : Hid (NetAt ⟨w.heap.size, na, nc, oa, oc⟩ AnyB ((w.alloc (.cells #[.int .i64 given, .slice na ns.length nc, .slice oa os.length oc] 25)).alloc (.cells #[.int .i64 given2, .slice ma ms.length mc, .slice pa mo.length pc] 25)) given ns os ∧ NetAt ⟨w.heap.size + 1, ma, mc, pa, pc⟩ AnyB ((w.alloc (.cells #[.int .i64 given, .slice na ns.length nc, .slice oa os.length oc] 25)).alloc (.cells #[.int .i64 given2, .slice ma ms.length mc, .slice pa mo.length pc] 25)) given2 ms mo) := hide (by
    have b1 := blk_new w (.cells #[.int .i64 given, .slice na ns.length nc, .slice oa os.length oc] 25)
    have l1 := below_alloc w (.cells #[.int .i64 given, .slice na ns.length nc, .slice oa os.length oc] 25)
    generalize hw1 : w.alloc (.cells #[.int .i64 given, .slice na ns.length nc, .slice oa os.length oc] 25) = w1 at *
    have z1 : w1.heap.size = w.heap.size + 1 := by rw [← hw1]; simp
    have b2 := blk_new w1 (.cells #[.int .i64 given2, .slice ma ms.length mc, .slice pa mo.length pc] 25)
    have l2 := below_alloc w1 (.cells #[.int .i64 given2, .slice ma ms.length mc, .slice pa mo.length pc] 25)
    rw [z1] at b2
    exact ⟨⟨Below.blk l2 b1, (hn.below l1).below l2, (ho.below l1).below l2⟩, ⟨b2, (hm.below l1).below l2, (hp.below l1).below l2⟩⟩)
  clear hn ho hm hp
  have HB1 : Hid (Below w.heap.size w ((w.alloc (.cells #[.int .i64 given, .slice na ns.length nc, .slice oa os.length oc] 25)).alloc (.cells #[.int .i64 given2, .slice ma ms.length mc, .slice pa mo.length pc] 25))) := hide ((below_alloc _ _).alloc (by simp) _)
  have c00 : ((w.alloc (.cells #[.int .i64 given, .slice na ns.length nc, .slice oa os.length oc] 25)).alloc (.cells #[.int .i64 given2, .slice ma ms.length mc, .slice pa mo.length pc] 25)).cell? ⟨w.heap.size, 0, none⟩ = some (.int .i64 given) := by go_simp
  have c01 : ((w.alloc (.cells #[.int .i64 given, .slice na ns.length nc, .slice oa os.length oc] 25)).alloc (.cells #[.int .i64 given2, .slice ma ms.length mc, .slice pa mo.length pc] 25)).cell? ⟨w.heap.size, 1, none⟩ = some (.slice na ns.length nc) := by go_simp
  have c02 : ((w.alloc (.cells #[.int .i64 given, .slice na ns.length nc, .slice oa os.length oc] 25)).alloc (.cells #[.int .i64 given2, .slice ma ms.length mc, .slice pa mo.length pc] 25)).cell? ⟨w.heap.size, 2, none⟩ = some (.slice oa os.length oc) := by go_simp
  go_enter Try.func4, Try.ntmps4
  go_wp2_with fail
  refine (small_at given na oa ns.length nc os.length oc _).mono ?_
  rintro e w2 ⟨rfl, hb⟩
  rw [hs1]
  have HB2 := hide (Below.step HB1.out hb)
  have HN2 := hide (HNA.out.1.below hb)
  have HM2 := hide (HNA.out.2.below hb)
  have d0 : w2.cell? ⟨w.heap.size + 1, 0, none⟩ = some (.int .i64 given2) := HM2.out.c0
  have d1 : w2.cell? ⟨w.heap.size + 1, 1, none⟩ = some (.slice ma ms.length mc) := HM2.out.c1
  have d2 : w2.cell? ⟨w.heap.size + 1, 2, none⟩ = some (.slice pa mo.length pc) := HM2.out.c2
  clear hb hs1 HB1 c00 c01 c02 HNA
  go_wp2_with fail
  refine (small_at given2 ma pa ms.length mc mo.length pc _).mono ?_
  rintro e w3 ⟨rfl, hb⟩
  rw [hs2]
  have HB3 := hide (Below.step HB2.out hb)
  have HN3 := hide (HN2.out.below hb)
  have HM3 := hide (HM2.out.below hb)
  clear hb hs2 HB2 d0 d1 d2 HN2 HM2
  go_wp2_with fail
  refine (netted_at _).mono ?_
  rintro e w4 ⟨rfl, hb⟩
  have HB4 := hide (Below.step HB3.out hb)
  have HN4 := hide (HN3.out.below hb)
  have HM4 := hide (HM3.out.below hb)
  clear hb HB3 HN3 HM3
  go_wp2_with fail
  refine (Right_at HN4.out (by have := H60.out; omega) (by have := H60.out; omega)).mono ?_
  rintro e w5 ⟨rfl, hb⟩
  rw [hr1]
  have HB5 := hide (Below.step HB4.out hb)
  have HN5 := hide (HN4.out.below hb)
  have HM5 := hide (HM4.out.below hb)
  clear hb HB4 HN4 HM4 hr1
  go_wp2_with fail
  go_ret
  exact ⟨rfl, HB5.out⟩

set_option maxRecDepth 100000 in
set_option maxHeartbeats 6400000 in
theorem jn_wrongB (given given2 : Int) (ns ms : List Nd) (os mo : List Int) (na oa ma pa ga ha : Option Addr) (nc oc mc pc gc hc : Nat) (A A2 : Nat → Option Addr) (C C2 : Nat → Nat) (gs hs : List (List Bool)) (w : World) (hn : Lies AnyB w na (ndsC ns)) (ho : Lies AnyB w oa (intsC os)) (hm : Lies AnyB w ma (ndsC ms)) (hp : Lies AnyB w pa (intsC mo)) (hs1 : smallP given ns.length os.length = true) (hs2 : smallP given2 ms.length mo.length = true) (h20 : (gs.length : Int) ≤ 20) (h21 : (hs.length : Int) ≤ 20) (hr1 : rightP given ns os = true) (hr2 : rightP given2 ms mo = false) :
    Calls Try.prog 4 #[.agg #[.int .i64 given, .slice na ns.length nc, .slice oa os.length oc], .agg #[.int .i64 given2, .slice ma ms.length mc, .slice pa mo.length pc], .slice ga gs.length gc, .slice ha hs.length hc] w fun e w' => e = .returned (.bool true) ∧ Below w.heap.size w w' := by
  have h60 : ns.length ≤ 60 ∧ os.length ≤ 30 ∧ given ≤ 200 := by simp [smallP] at hs1; omega
  have h61 : ms.length ≤ 60 ∧ mo.length ≤ 30 ∧ given2 ≤ 200 := by simp [smallP] at hs2; omega
  have H60 := hide h60
  have H61 := hide h61
  clear h60 h61
  have HNA : Hid (NetAt ⟨w.heap.size, na, nc, oa, oc⟩ AnyB ((w.alloc (.cells #[.int .i64 given, .slice na ns.length nc, .slice oa os.length oc] 25)).alloc (.cells #[.int .i64 given2, .slice ma ms.length mc, .slice pa mo.length pc] 25)) given ns os ∧ NetAt ⟨w.heap.size + 1, ma, mc, pa, pc⟩ AnyB ((w.alloc (.cells #[.int .i64 given, .slice na ns.length nc, .slice oa os.length oc] 25)).alloc (.cells #[.int .i64 given2, .slice ma ms.length mc, .slice pa mo.length pc] 25)) given2 ms mo) := hide (by
    have b1 := blk_new w (.cells #[.int .i64 given, .slice na ns.length nc, .slice oa os.length oc] 25)
    have l1 := below_alloc w (.cells #[.int .i64 given, .slice na ns.length nc, .slice oa os.length oc] 25)
    generalize hw1 : w.alloc (.cells #[.int .i64 given, .slice na ns.length nc, .slice oa os.length oc] 25) = w1 at *
    have z1 : w1.heap.size = w.heap.size + 1 := by rw [← hw1]; simp
    have b2 := blk_new w1 (.cells #[.int .i64 given2, .slice ma ms.length mc, .slice pa mo.length pc] 25)
    have l2 := below_alloc w1 (.cells #[.int .i64 given2, .slice ma ms.length mc, .slice pa mo.length pc] 25)
    rw [z1] at b2
    exact ⟨⟨Below.blk l2 b1, (hn.below l1).below l2, (ho.below l1).below l2⟩, ⟨b2, (hm.below l1).below l2, (hp.below l1).below l2⟩⟩)
  clear hn ho hm hp
  have HB1 : Hid (Below w.heap.size w ((w.alloc (.cells #[.int .i64 given, .slice na ns.length nc, .slice oa os.length oc] 25)).alloc (.cells #[.int .i64 given2, .slice ma ms.length mc, .slice pa mo.length pc] 25))) := hide ((below_alloc _ _).alloc (by simp) _)
  have c00 : ((w.alloc (.cells #[.int .i64 given, .slice na ns.length nc, .slice oa os.length oc] 25)).alloc (.cells #[.int .i64 given2, .slice ma ms.length mc, .slice pa mo.length pc] 25)).cell? ⟨w.heap.size, 0, none⟩ = some (.int .i64 given) := by go_simp
  have c01 : ((w.alloc (.cells #[.int .i64 given, .slice na ns.length nc, .slice oa os.length oc] 25)).alloc (.cells #[.int .i64 given2, .slice ma ms.length mc, .slice pa mo.length pc] 25)).cell? ⟨w.heap.size, 1, none⟩ = some (.slice na ns.length nc) := by go_simp
  have c02 : ((w.alloc (.cells #[.int .i64 given, .slice na ns.length nc, .slice oa os.length oc] 25)).alloc (.cells #[.int .i64 given2, .slice ma ms.length mc, .slice pa mo.length pc] 25)).cell? ⟨w.heap.size, 2, none⟩ = some (.slice oa os.length oc) := by go_simp
  go_enter Try.func4, Try.ntmps4
  go_wp2_with fail
  refine (small_at given na oa ns.length nc os.length oc _).mono ?_
  rintro e w2 ⟨rfl, hb⟩
  rw [hs1]
  have HB2 := hide (Below.step HB1.out hb)
  have HN2 := hide (HNA.out.1.below hb)
  have HM2 := hide (HNA.out.2.below hb)
  have d0 : w2.cell? ⟨w.heap.size + 1, 0, none⟩ = some (.int .i64 given2) := HM2.out.c0
  have d1 : w2.cell? ⟨w.heap.size + 1, 1, none⟩ = some (.slice ma ms.length mc) := HM2.out.c1
  have d2 : w2.cell? ⟨w.heap.size + 1, 2, none⟩ = some (.slice pa mo.length pc) := HM2.out.c2
  clear hb hs1 HB1 c00 c01 c02 HNA
  go_wp2_with fail
  refine (small_at given2 ma pa ms.length mc mo.length pc _).mono ?_
  rintro e w3 ⟨rfl, hb⟩
  rw [hs2]
  have HB3 := hide (Below.step HB2.out hb)
  have HN3 := hide (HN2.out.below hb)
  have HM3 := hide (HM2.out.below hb)
  clear hb hs2 HB2 d0 d1 d2 HN2 HM2
  go_wp2_with fail
  refine (netted_at _).mono ?_
  rintro e w4 ⟨rfl, hb⟩
  have HB4 := hide (Below.step HB3.out hb)
  have HN4 := hide (HN3.out.below hb)
  have HM4 := hide (HM3.out.below hb)
  clear hb HB3 HN3 HM3
  go_wp2_with fail
  refine (Right_at HN4.out (by have := H60.out; omega) (by have := H60.out; omega)).mono ?_
  rintro e w5 ⟨rfl, hb⟩
  rw [hr1]
  have HB5 := hide (Below.step HB4.out hb)
  have HN5 := hide (HN4.out.below hb)
  have HM5 := hide (HM4.out.below hb)
  clear hb HB4 HN4 HM4 hr1
  go_wp2_with fail
  refine (Right_at HM5.out (by have := H61.out; omega) (by have := H61.out; omega)).mono ?_
  rintro e w6 ⟨rfl, hb⟩
  rw [hr2]
  have HB6 := hide (Below.step HB5.out hb)
  have HN6 := hide (HN5.out.below hb)
  have HM6 := hide (HM5.out.below hb)
  clear hb HB5 HN5 HM5 hr2
  go_wp2_with fail
  go_ret
  exact ⟨rfl, HB6.out⟩

set_option maxRecDepth 100000 in
set_option maxHeartbeats 6400000 in
theorem jn_right_at (given given2 : Int) (ns ms : List Nd) (os mo : List Int) (na oa ma pa ga ha : Option Addr) (nc oc mc pc gc hc : Nat) (A A2 : Nat → Option Addr) (C C2 : Nat → Nat) (gs hs : List (List Bool)) (w : World) (hn : Lies AnyB w na (ndsC ns)) (ho : Lies AnyB w oa (intsC os)) (hm : Lies AnyB w ma (ndsC ms)) (hp : Lies AnyB w pa (intsC mo)) (hs1 : smallP given ns.length os.length = true) (hs2 : smallP given2 ms.length mo.length = true) (h20 : (gs.length : Int) ≤ 20) (h21 : (hs.length : Int) ≤ 20) (hgr : Grid w ga A C gs) (hhr : Grid w ha A2 C2 hs) (hr1 : rightP given ns os = true) (hr2 : rightP given2 ms mo = true) :
    Calls Try.prog 4 #[.agg #[.int .i64 given, .slice na ns.length nc, .slice oa os.length oc], .agg #[.int .i64 given2, .slice ma ms.length mc, .slice pa mo.length pc], .slice ga gs.length gc, .slice ha hs.length hc] w fun e w' => e = .returned (.bool true) ∧ Below w.heap.size w w' := by
  have HR1 := hide (rightP_iff.1 hr1)
  have HR2 := hide (rightP_iff.1 hr2)
  have HGR := hide hgr
  have HHR := hide hhr
  clear hgr hhr
  have h60 : ns.length ≤ 60 ∧ os.length ≤ 30 ∧ given ≤ 200 := by simp [smallP] at hs1; omega
  have h61 : ms.length ≤ 60 ∧ mo.length ≤ 30 ∧ given2 ≤ 200 := by simp [smallP] at hs2; omega
  have H60 := hide h60
  have H61 := hide h61
  clear h60 h61
  have HNA : Hid (NetAt ⟨w.heap.size, na, nc, oa, oc⟩ AnyB ((w.alloc (.cells #[.int .i64 given, .slice na ns.length nc, .slice oa os.length oc] 25)).alloc (.cells #[.int .i64 given2, .slice ma ms.length mc, .slice pa mo.length pc] 25)) given ns os ∧ NetAt ⟨w.heap.size + 1, ma, mc, pa, pc⟩ AnyB ((w.alloc (.cells #[.int .i64 given, .slice na ns.length nc, .slice oa os.length oc] 25)).alloc (.cells #[.int .i64 given2, .slice ma ms.length mc, .slice pa mo.length pc] 25)) given2 ms mo) := hide (by
    have b1 := blk_new w (.cells #[.int .i64 given, .slice na ns.length nc, .slice oa os.length oc] 25)
    have l1 := below_alloc w (.cells #[.int .i64 given, .slice na ns.length nc, .slice oa os.length oc] 25)
    generalize hw1 : w.alloc (.cells #[.int .i64 given, .slice na ns.length nc, .slice oa os.length oc] 25) = w1 at *
    have z1 : w1.heap.size = w.heap.size + 1 := by rw [← hw1]; simp
    have b2 := blk_new w1 (.cells #[.int .i64 given2, .slice ma ms.length mc, .slice pa mo.length pc] 25)
    have l2 := below_alloc w1 (.cells #[.int .i64 given2, .slice ma ms.length mc, .slice pa mo.length pc] 25)
    rw [z1] at b2
    exact ⟨⟨Below.blk l2 b1, (hn.below l1).below l2, (ho.below l1).below l2⟩, ⟨b2, (hm.below l1).below l2, (hp.below l1).below l2⟩⟩)
  clear hn ho hm hp
  have HB1 : Hid (Below w.heap.size w ((w.alloc (.cells #[.int .i64 given, .slice na ns.length nc, .slice oa os.length oc] 25)).alloc (.cells #[.int .i64 given2, .slice ma ms.length mc, .slice pa mo.length pc] 25))) := hide ((below_alloc _ _).alloc (by simp) _)
  have c00 : ((w.alloc (.cells #[.int .i64 given, .slice na ns.length nc, .slice oa os.length oc] 25)).alloc (.cells #[.int .i64 given2, .slice ma ms.length mc, .slice pa mo.length pc] 25)).cell? ⟨w.heap.size, 0, none⟩ = some (.int .i64 given) := by go_simp
  have c01 : ((w.alloc (.cells #[.int .i64 given, .slice na ns.length nc, .slice oa os.length oc] 25)).alloc (.cells #[.int .i64 given2, .slice ma ms.length mc, .slice pa mo.length pc] 25)).cell? ⟨w.heap.size, 1, none⟩ = some (.slice na ns.length nc) := by go_simp
  have c02 : ((w.alloc (.cells #[.int .i64 given, .slice na ns.length nc, .slice oa os.length oc] 25)).alloc (.cells #[.int .i64 given2, .slice ma ms.length mc, .slice pa mo.length pc] 25)).cell? ⟨w.heap.size, 2, none⟩ = some (.slice oa os.length oc) := by go_simp
  go_enter Try.func4, Try.ntmps4
  go_wp2_with fail
  refine (small_at given na oa ns.length nc os.length oc _).mono ?_
  rintro e w2 ⟨rfl, hb⟩
  rw [hs1]
  have HB2 := hide (Below.step HB1.out hb)
  have HN2 := hide (HNA.out.1.below hb)
  have HM2 := hide (HNA.out.2.below hb)
  have d0 : w2.cell? ⟨w.heap.size + 1, 0, none⟩ = some (.int .i64 given2) := HM2.out.c0
  have d1 : w2.cell? ⟨w.heap.size + 1, 1, none⟩ = some (.slice ma ms.length mc) := HM2.out.c1
  have d2 : w2.cell? ⟨w.heap.size + 1, 2, none⟩ = some (.slice pa mo.length pc) := HM2.out.c2
  clear hb hs1 HB1 c00 c01 c02 HNA
  go_wp2_with fail
  refine (small_at given2 ma pa ms.length mc mo.length pc _).mono ?_
  rintro e w3 ⟨rfl, hb⟩
  rw [hs2]
  have HB3 := hide (Below.step HB2.out hb)
  have HN3 := hide (HN2.out.below hb)
  have HM3 := hide (HM2.out.below hb)
  clear hb hs2 HB2 d0 d1 d2 HN2 HM2
  go_wp2_with fail
  refine (netted_at _).mono ?_
  rintro e w4 ⟨rfl, hb⟩
  have HB4 := hide (Below.step HB3.out hb)
  have HN4 := hide (HN3.out.below hb)
  have HM4 := hide (HM3.out.below hb)
  clear hb HB3 HN3 HM3
  go_wp2_with fail
  refine (Right_at HN4.out (by have := H60.out; omega) (by have := H60.out; omega)).mono ?_
  rintro e w5 ⟨rfl, hb⟩
  rw [hr1]
  have HB5 := hide (Below.step HB4.out hb)
  have HN5 := hide (HN4.out.below hb)
  have HM5 := hide (HM4.out.below hb)
  clear hb HB4 HN4 HM4 hr1
  go_wp2_with fail
  refine (Right_at HM5.out (by have := H61.out; omega) (by have := H61.out; omega)).mono ?_
  rintro e w6 ⟨rfl, hb⟩
  rw [hr2]
  have HB6 := hide (Below.step HB5.out hb)
  have HN6 := hide (HN5.out.below hb)
  have HM6 := hide (HM5.out.below hb)
  clear hb HB5 HN5 HM5 hr2
  obtain ⟨g1, hg1⟩ := Int.eq_ofNat_of_zero_le HR1.out.g0
  subst hg1
  obtain ⟨g2, hg2⟩ := Int.eq_ofNat_of_zero_le HR2.out.g0
  subst hg2
  have hg1 : g1 ≤ 200 := by have := H60.out; omega
  have hg2 : g2 ≤ 200 := by have := H61.out; omega
  have hbd : Hid (g1 ≤ 200 ∧ g2 ≤ 200 ∧ ns.length ≤ 60 ∧ ms.length ≤ 60 ∧ os.length ≤ 30 ∧ mo.length ≤ 30) := hide (by have := H60.out; have := H61.out; omega)
  have HRJ : Hid (RightP ((g1 : Int) + (g2 : Int)) (jnN ns ms ns.length g1 ms.length) (jnO os mo ns.length mo.length)) := hide (jn_right HR1.out HR2.out (by have := H60.out; have := H61.out; omega))
  have HOJ : Hid (∀ gN gM hN hM hJ : List Bool, HeldJ ns ms hN hM hJ → outs (vals (jnG g1 gN gM) hJ (jnN ns ms ns.length g1 ms.length)) (jnO os mo ns.length mo.length) = outs (vals gN hN ns) os ++ outs (vals gM hM ms) mo) := hide fun gN gM hN hM hJ h => jn_outs HR1.out HR2.out h (jn_given g1 g2 gN gM)
  have HHJ : Hid (∀ gN gM hN hM hJ : List Bool, HeldJ ns ms hN hM hJ → hN.length = ns.length → hM.length = ms.length → hJ.length = (jnN ns ms ns.length g1 ms.length).length → HeldJ ns ms (heldNext (vals gN hN ns) hN ns) (heldNext (vals gM hM ms) hM ms) (heldNext (vals (jnG g1 gN gM) hJ (jnN ns ms ns.length g1 ms.length)) hJ (jnN ns ms ns.length g1 ms.length))) := hide fun gN gM hN hM hJ h l1 l2 l3 => jn_held HR1.out HR2.out h (jn_given g1 g2 gN gM) l1 l2 l3
  have HFJ : Hid (HeldJ ns ms (first ns) (first ms) (first (jnN ns ms ns.length g1 ms.length))) := hide (jn_first ns ms g1)
  have HLJ : Hid ((jnO os mo ns.length mo.length).length = os.length + mo.length) := hide (jnO_len _ _ _ _ (Nat.le_refl _))
  have a0 : w6.cell? ⟨w.heap.size, 0, none⟩ = some (.int .i64 (g1 : Int)) := HN6.out.c0
  have a1 : w6.cell? ⟨w.heap.size, 1, none⟩ = some (.slice na ns.length nc) := HN6.out.c1
  have a2 : w6.cell? ⟨w.heap.size, 2, none⟩ = some (.slice oa os.length oc) := HN6.out.c2
  have b0 : w6.cell? ⟨w.heap.size + 1, 0, none⟩ = some (.int .i64 (g2 : Int)) := HM6.out.c0
  have b1 : w6.cell? ⟨w.heap.size + 1, 1, none⟩ = some (.slice ma ms.length mc) := HM6.out.c1
  have b2 : w6.cell? ⟨w.heap.size + 1, 2, none⟩ = some (.slice pa mo.length pc) := HM6.out.c2
  go_wp2_with fail
  refine (beside_at g1 g2 ns ms os mo na oa ma pa nc oc mc pc w6 HN6.out.nodes HN6.out.outs HM6.out.nodes HM6.out.outs HR1.out HR2.out hbd.out).mono ?_
  rintro e w7 ⟨⟨ja, qa, jc, qc, rfl, hj, hq⟩, hb⟩
  generalize jnN ns ms ns.length g1 ms.length = J at *
  generalize jnO os mo ns.length mo.length = JO at *
  have HTn := hide (below_alloc w7 (.cells #[.int .i64 ((g1 : Int) + (g2 : Int)), .slice ja J.length jc, .slice qa JO.length qc] 25))
  have HJ8 : Hid (NetAt ⟨w7.heap.size, ja, jc, qa, qc⟩ AnyB (w7.alloc (.cells #[.int .i64 ((g1 : Int) + (g2 : Int)), .slice ja J.length jc, .slice qa JO.length qc] 25)) ((g1 : Int) + (g2 : Int)) J JO) := hide ⟨blk_new _ _, hj.below HTn.out, hq.below HTn.out⟩
  have HB8 := hide (Below.step (Below.step HB6.out hb) HTn.out)
  have HN8 := hide ((HN6.out.below hb).below HTn.out)
  have HM8 := hide ((HM6.out.below hb).below HTn.out)
  clear hj hq hb HB6 HN6 HM6 a0 a1 a2 b0 b1 b2 HTn
  go_wp2_with fail
  generalize (w7.alloc (.cells #[.int .i64 ((g1 : Int) + (g2 : Int)), .slice ja J.length jc, .slice qa JO.length qc] 25)) = w8 at *
  refine (new_at HN8.out HR1.out).mono ?_
  rintro e wA ⟨⟨sa, rfl, hsa⟩, hb⟩
  have HSA := hide hsa
  have HMA := hide (HM8.out.below hb)
  have HJA := hide (HJ8.out.below hb)
  have HBA := hide hb
  clear hsa hb
  go_wp2_with fail
  refine (new_at HMA.out HR2.out).mono ?_
  rintro e wB ⟨⟨sb, rfl, hsb⟩, hb⟩
  have HSB := hide hsb
  have HSA2 := hide (HSA.out.below hb)
  have HJB := hide (HJA.out.below hb)
  have HBB := hide (Below.step HBA.out hb)
  have HZB := hide hb.size
  clear hsb hb HSA HMA HJA HBA
  go_wp2_with fail
  refine (new_at HJB.out HRJ.out).mono ?_
  rintro e wC ⟨⟨sc, rfl, hsc⟩, hb⟩
  have HZ := hide hsc
  have HX := hide (HSA2.out.below hb)
  have HY := hide (HSB.out.below hb)
  have HWB := hide (Below.step HBB.out hb)
  have HZC := hide hb.size
  clear hsc hb HSA2 HSB HJB HBB
  have HGr8 := hide (HGR.out.below HB8.out)
  have HHr8 := hide (HHR.out.below HB8.out)
  have HW0 : Hid (∀ W, Below w8.heap.size w8 W → Below w.heap.size w W) := hide fun W hb => Below.step HB8.out hb
  have HNn : Hid (∀ W, Below w8.heap.size w8 W → W.cell? ⟨w.heap.size, 0, none⟩ = some (.int .i64 (g1 : Int))) := hide fun W hb => (HN8.out.below hb).c0
  have hn1 : ∀ w, (binOp .neq 33 .nilIface .nilIface).run Try.prog w = .ok (.bool false) w := fun w => by kernel_rfl
  go_wp2_with fail
  clear hn1
  go_loopw [16, 17, 18, 19] (fun i _ _ _ wx => ∃ (p : Nat) (hN hM hJ : List Bool), p ≤ gs.length ∧ i = .int .i64 p ∧ Hid (SimAt sa wx w8.heap.size wA.heap.size ns os hN) ∧ Hid (SimAt sb wx wA.heap.size wB.heap.size ms mo hM) ∧ Hid (SimAt sc wx wB.heap.size wC.heap.size J JO hJ) ∧ Hid (HeldJ ns ms hN hM hJ) ∧ Hid (Below w8.heap.size w8 wx) ∧ Hid (wC.heap.size ≤ wx.heap.size)) (fun i _ _ _ _ => gs.length - (intOf i).toNat)
  case atStart => exact ⟨0, first ns, first ms, first J, Nat.zero_le _, rfl, HX, HY, HZ, HFJ, HWB, hide (Nat.le_refl _)⟩
  case round =>
    obtain ⟨p, hN, hM, hJ, hp, rfl, hsa, hsb, hsc, hhj, hbw, hzz⟩ := hrel
    by_cases hlt : p < gs.length
    · have hpi : (p : Int) < (gs.length : Int) := by omega
      by_cases hlt2 : p < hs.length
      · have hpi2 : (p : Int) < (hs.length : Int) := by omega
        obtain ⟨⟨gb, goff, hga, hgc⟩, _⟩ := (HGr8.out.below hbw.out) p hlt
        obtain ⟨⟨kb, koff, hka, hkc⟩, _⟩ := (HHr8.out.below hbw.out) p hlt2
        have HGC : Hid (∀ W, Below w8.heap.size w8 W → W.cell? ⟨gb, goff + p, none⟩ = some (.slice (A p) (rowAt gs p).length (C p)) ∧ Lies AnyB W (A p) (bitsC (rowAt gs p))) := hide (by
          intro W hb
          obtain ⟨⟨gb', goff', hga', hgc'⟩, hrow'⟩ := (HGr8.out.below hb) p hlt
          rw [hga] at hga'
          cases hga'
          exact ⟨hgc', hrow'⟩)
        have HKC : Hid (∀ W, Below w8.heap.size w8 W → W.cell? ⟨kb, koff + p, none⟩ = some (.slice (A2 p) (rowAt hs p).length (C2 p)) ∧ Lies AnyB W (A2 p) (bitsC (rowAt hs p))) := hide (by
          intro W hb
          obtain ⟨⟨gb', goff', hga', hgc'⟩, hrow'⟩ := (HHr8.out.below hb) p hlt2
          rw [hka] at hga'
          cases hga'
          exact ⟨hgc', hrow'⟩)
        subst hga
        subst hka
        generalize rowAt gs p = g at hgc HGC
        generalize rowAt hs p = k at hkc HKC
        by_cases h300 : (300 : Int) < (g.length : Int)
        · go_wp2_with fail
          go_ret
          exact ⟨rfl, HW0.out _ hbw.out⟩
        · by_cases h301 : (300 : Int) < (k.length : Int)
          · go_wp2_with fail
            go_ret
            exact ⟨rfl, HW0.out _ hbw.out⟩
          · have h3 : (g.length : Int) ≤ 300 := by omega
            have h4 : (k.length : Int) ≤ 300 := by omega
            go_wp2_with fail
            clear hgc hkc
            have HSW : Hid (∀ W, Below w8.heap.size w8 W → W.cell? ⟨gb, goff + p, none⟩ = some (.slice (A p) g.length (C p)) ∧ W.cell? ⟨kb, koff + p, none⟩ = some (.slice (A2 p) k.length (C2 p)) ∧ W.cell? ⟨w.heap.size, 0, none⟩ = some (.int .i64 (g1 : Int))) := hide fun W hb => ⟨(HGC.out W hb).1, (HKC.out W hb).1, HNn.out W hb⟩
            have hA1 := hsa.out.hin
            have hB1 := hsb.out.hin
            have hC1 := hsc.out.hin
            have z2 := HZB.out
            have z3 := HZC.out
            have z4 := hzz.out
            have HIN : Hid (w8.heap.size ≤ sa.h ∧ sa.h < wA.heap.size ∧ wA.heap.size ≤ sb.h ∧ sb.h < wB.heap.size ∧ wB.heap.size ≤ sc.h ∧ sc.h < wC.heap.size ∧ w8.heap.size ≤ sb.h ∧ w8.heap.size ≤ sc.h) := hide (by omega)
            clear hA1 hB1 hC1 z2 z3 z4
            have HT1 : Hid (Below wr.heap.size wr wr.drew) := hide (Below.refl _ _).drew
            have HBY1 : Hid (Below w8.heap.size w8 wr.drew) := hide (Below.step hbw.out HT1.out)
            refine wp_region_held_drew (S := fun W => W.cell? ⟨gb, goff + p, none⟩ = some (.slice (A p) g.length (C p)) ∧ W.cell? ⟨kb, koff + p, none⟩ = some (.slice (A2 p) k.length (C2 p)) ∧ W.cell? ⟨w.heap.size, 0, none⟩ = some (.int .i64 (g1 : Int))) (by kernel_rfl) (HSW.out _ HBY1.out) (fun _ => ?_)
            generalize wr.drew = y1 at *
            refine wpAnyH_take (i := 1) (oi := ⟨some 98, _, _, _, _, _⟩) (v := (.slice (some ⟨gb, goff, none⟩) gs.length gc)) rfl (by kernel_rfl) (by kernel_rfl) (by kernel_rfl) (fun _ _ _ h => h) (Or.inl ⟨by rfl, fun W hS => by (obtain ⟨s0, s1, s2⟩ := hS; go_simp)⟩) (HSW.out _ HBY1.out) ?_
            simp only [Act.put, List.setIfInBounds_toArray, List.set_cons_zero, List.set_cons_succ]
            refine wpAnyH_take (i := 2) (oi := ⟨some 99, _, _, _, _, _⟩) (v := (.int .i64 p)) rfl (by kernel_rfl) (by kernel_rfl) (by kernel_rfl) (fun _ _ _ h => h) (Or.inl ⟨by rfl, fun W hS => by (obtain ⟨s0, s1, s2⟩ := hS; go_simp)⟩) (HSW.out _ HBY1.out) ?_
            simp only [Act.put, List.setIfInBounds_toArray, List.set_cons_zero, List.set_cons_succ]
            refine wpAnyH_take (i := 3) (oi := ⟨some 100, _, _, _, _, _⟩) (v := (.pointer (some ⟨gb, goff + p, none⟩))) rfl (by kernel_rfl) (by kernel_rfl) (by kernel_rfl) (fun _ _ _ h => h) (Or.inl ⟨by rfl, fun W hS => by (obtain ⟨s0, s1, s2⟩ := hS; go_simp)⟩) (HSW.out _ HBY1.out) ?_
            simp only [Act.put, List.setIfInBounds_toArray, List.set_cons_zero, List.set_cons_succ]
            refine wpAnyH_take (i := 4) (oi := ⟨some 101, _, _, _, _, _⟩) (v := (.slice (A p) g.length (C p))) rfl (by kernel_rfl) (by kernel_rfl) (by kernel_rfl) (fun _ _ _ h => h) (Or.inl ⟨by rfl, fun W hS => by (obtain ⟨s0, s1, s2⟩ := hS; go_simp)⟩) (HSW.out _ HBY1.out) ?_
            simp only [Act.put, List.setIfInBounds_toArray, List.set_cons_zero, List.set_cons_succ]
            refine wpAnyH_take (i := 6) (oi := ⟨some 103, _, _, _, _, _⟩) (v := (.pointer (some ⟨w.heap.size, 0, none⟩))) rfl (by kernel_rfl) (by kernel_rfl) (by kernel_rfl) (fun _ _ _ h => h) (Or.inl ⟨by rfl, fun W hS => by (obtain ⟨s0, s1, s2⟩ := hS; go_simp)⟩) (HSW.out _ HBY1.out) ?_
            simp only [Act.put, List.setIfInBounds_toArray, List.set_cons_zero, List.set_cons_succ]
            refine wpAnyH_take (i := 7) (oi := ⟨some 104, _, _, _, _, _⟩) (v := (.int .i64 (g1 : Int))) rfl (by kernel_rfl) (by kernel_rfl) (by kernel_rfl) (fun _ _ _ h => h) (Or.inl ⟨by rfl, fun W hS => by (obtain ⟨s0, s1, s2⟩ := hS; go_simp)⟩) (HSW.out _ HBY1.out) ?_
            simp only [Act.put, List.setIfInBounds_toArray, List.set_cons_zero, List.set_cons_succ]
            refine wpAnyH_take (i := 9) (oi := ⟨some 106, _, _, _, _, _⟩) (v := (.pointer (some ⟨w.heap.size, 0, none⟩))) rfl (by kernel_rfl) (by kernel_rfl) (by kernel_rfl) (fun _ _ _ h => h) (Or.inl ⟨by rfl, fun W hS => by (obtain ⟨s0, s1, s2⟩ := hS; go_simp)⟩) (HSW.out _ HBY1.out) ?_
            simp only [Act.put, List.setIfInBounds_toArray, List.set_cons_zero, List.set_cons_succ]
            refine wpAnyH_take (i := 10) (oi := ⟨some 107, _, _, _, _, _⟩) (v := (.int .i64 (g1 : Int))) rfl (by kernel_rfl) (by kernel_rfl) (by kernel_rfl) (fun _ _ _ h => h) (Or.inl ⟨by rfl, fun W hS => by (obtain ⟨s0, s1, s2⟩ := hS; go_simp)⟩) (HSW.out _ HBY1.out) ?_
            simp only [Act.put, List.setIfInBounds_toArray, List.set_cons_zero, List.set_cons_succ]
            refine wpAnyH_ready (rs := [0]) (by kernel_rfl) (by simp) ?_
            refine AllReadyH.cons rfl (fun K hK => ?_) AllReadyH.nil
            go_simp
            have HT2 : Hid (Below y1.heap.size y1 (y1.alloc (.cells #[] 4))) := hide (below_alloc _ _)
            have HE2 := hide (blk_new y1 (.cells #[] 4))
            have HBY2 : Hid (Below w8.heap.size w8 (y1.alloc (.cells #[] 4))) := hide (Below.step HBY1.out HT2.out)
            refine hK.out _ _ (HSW.out _ HBY2.out) (fun _ => ?_)
            clear hK K
            generalize y1.alloc (.cells #[] 4) = y2 at *
            obtain ⟨a6, c6, y3, happ, hm, hg, hnb⟩ := app_bo (c := C p) (n' := g.length) (Mine.empty (size := 1) HE2.out) (l := []) rfl (new := g) rfl (by omega) (HGC.out _ HBY2.out).2 (Nat.le_of_lt (blk_lt HE2.out)) (by omega)
            have HT3 : Hid (Below y1.heap.size y1 y3) := hide (Below.grownOn HT2.out hg (fun b hb => by simp [Value.ownBlock] at hb; omega) HT2.out.size)
            have HM3 := hide hm
            have HBY3 : Hid (Below w8.heap.size w8 y3) := hide (Below.step HBY1.out HT3.out)
            clear hm hg hnb
            refine wpAnyH_ready (rs := [5]) (by kernel_rfl) (by simp) ?_
            refine AllReadyH.cons rfl (fun K hK => ?_) AllReadyH.nil
            refine (if_pos (by kernel_rfl)).mpr ?_
            refine wp_append_run happ _ _ rfl rfl rfl ?_
            simp only [Act.put, List.getElem_toArray, List.getElem_cons_succ, List.getElem_cons_zero, List.setIfInBounds_toArray, List.set_cons_zero, List.set_cons_succ]
            refine hK.out _ _ (HSW.out _ HBY3.out) (fun _ => ?_)
            clear hK K
            clear happ
            obtain ⟨a7, c7, y4, happ, hm, hg, hc71, hc72⟩ := app_zero (k := g1) (n' := g.length + g1) HM3.out rfl rfl HT3.out.size (by omega)
            have HT4 : Hid (Below y1.heap.size y1 y4) := hide (Below.grownOn HT3.out hg (fun b hb => HM3.out.new b hb) HT3.out.size)
            have HM4 := hide hm
            have HBY4 : Hid (Below w8.heap.size w8 y4) := hide (Below.step HBY1.out HT4.out)
            have hcut := fun W => cut_to a7 (g.length + g1) c7 g1 (by omega) W
            clear hm hg hc71 hc72
            refine wpAnyH_ready (rs := [8]) (by kernel_rfl) (by simp) ?_
            refine AllReadyH.cons rfl (fun K hK => ?_) AllReadyH.nil
            refine (if_pos (by kernel_rfl)).mpr ?_
            refine wp_append_run2 happ _ _ rfl rfl rfl ?_
            simp only [Act.put, List.getElem_toArray, List.getElem_cons_succ, List.getElem_cons_zero, List.setIfInBounds_toArray, List.set_cons_zero, List.set_cons_succ]
            refine hK.out _ _ (HSW.out _ HBY4.out) (fun _ => ?_)
            clear hK K
            clear happ HT2 HE2 HBY2 HT3 HM3 HBY3
            refine wpAnyH_take (i := 11) (oi := ⟨some 108, _, _, _, _, _⟩) (v := (.slice a7 g1 c7)) rfl (by kernel_rfl) (by kernel_rfl) (by kernel_rfl) (fun _ _ _ h => h) (Or.inl ⟨by rfl, fun W hS => by (obtain ⟨s0, s1, s2⟩ := hS; go_simp)⟩) (HSW.out _ HBY4.out) ?_
            simp only [Act.put, List.setIfInBounds_toArray, List.set_cons_zero, List.set_cons_succ]
            refine wpAnyH_take (i := 12) (oi := ⟨some 17, _, _, _, _, _⟩) (v := (.slice a7 g1 c7)) rfl (by kernel_rfl) (by kernel_rfl) (by kernel_rfl) (fun _ _ _ h => h) (Or.inl ⟨by rfl, fun W hS => by (obtain ⟨s0, s1, s2⟩ := hS; go_simp)⟩) (HSW.out _ HBY4.out) ?_
            simp only [Act.put, List.setIfInBounds_toArray, List.set_cons_zero, List.set_cons_succ]
            refine wpAnyH_done (by kernel_rfl) ?_ _
            clear hcut
            have HF4 : Hid (Mine 4 1 y1.heap.size y4 (.slice a7 g1 c7) g1 (bitsC ((g ++ List.replicate g1 false).take g1))) := hide (by have h := HM4.out.cut (k := g1) (by simp) (by omega); rw [List.nil_append] at h; exact h)
            have HSA4 := hide ((hsa.out.below HT1.out).below HT4.out)
            have HSB4 := hide ((hsb.out.below HT1.out).below HT4.out)
            have HSC4 := hide ((hsc.out.below HT1.out).below HT4.out)
            have HLEN : Hid (((g ++ List.replicate g1 false).take g1).length = g1) := hide (by simp)
            have HZ1 : Hid (wC.heap.size ≤ y1.heap.size) := hide (Nat.le_trans hzz.out HT1.out.size)
            have HZ4 : Hid (wC.heap.size ≤ y4.heap.size) := hide (Nat.le_trans HZ1.out HT4.out.size)
            generalize hFF : (g ++ List.replicate g1 false).take g1 = ff at *
            have HFF := hide hFF
            clear hFF HM4
            go_wp2_with fail
            have HT5 : Hid (Below y4.heap.size y4 y4.drew) := hide (Below.refl _ _).drew
            have HBY5 : Hid (Below w8.heap.size w8 y4.drew) := hide (Below.step HBY4.out HT5.out)
            have HSA5 := hide (HSA4.out.below HT5.out)
            have HSB5 := hide (HSB4.out.below HT5.out)
            have HSC5 := hide (HSC4.out.below HT5.out)
            have HF5 := hide (HF4.out.below HT5.out)
            have HZ5 : Hid (wC.heap.size ≤ y4.drew.heap.size) := hide (Nat.le_trans HZ4.out HT5.out.size)
            have HY5 : Hid (y1.heap.size ≤ y4.drew.heap.size) := hide (Nat.le_trans HT4.out.size HT5.out.size)
            clear HSA4 HSB4 HSC4 HF4 HBY4 HT4
            refine wp_region_held_drew (S := fun W => W.cell? ⟨gb, goff + p, none⟩ = some (.slice (A p) g.length (C p)) ∧ W.cell? ⟨kb, koff + p, none⟩ = some (.slice (A2 p) k.length (C2 p)) ∧ W.cell? ⟨w.heap.size, 0, none⟩ = some (.int .i64 (g1 : Int))) (by kernel_rfl) (HSW.out _ HBY5.out) (fun _ => ?_)
            generalize y4.drew = y5 at *
            refine wpAnyH_take (i := 0) (oi := ⟨some 109, _, _, _, _, _⟩) (v := (.pointer (some ⟨sa.p, 0, none⟩))) rfl (by kernel_rfl) (by kernel_rfl) (by kernel_rfl) (fun _ _ _ h => h) (Or.inl ⟨by rfl, fun W hS => by (obtain ⟨s0, s1, s2⟩ := hS; go_simp)⟩) (HSW.out _ HBY5.out) ?_
            simp only [Act.put, List.setIfInBounds_toArray, List.set_cons_zero, List.set_cons_succ]
            refine wpAnyH_take (i := 1) (oi := ⟨some 110, _, _, _, _, _⟩) (v := (.slice (some ⟨gb, goff, none⟩) gs.length gc)) rfl (by kernel_rfl) (by kernel_rfl) (by kernel_rfl) (fun _ _ _ h => h) (Or.inl ⟨by rfl, fun W hS => by (obtain ⟨s0, s1, s2⟩ := hS; go_simp)⟩) (HSW.out _ HBY5.out) ?_
            simp only [Act.put, List.setIfInBounds_toArray, List.set_cons_zero, List.set_cons_succ]
            refine wpAnyH_take (i := 2) (oi := ⟨some 111, _, _, _, _, _⟩) (v := (.int .i64 p)) rfl (by kernel_rfl) (by kernel_rfl) (by kernel_rfl) (fun _ _ _ h => h) (Or.inl ⟨by rfl, fun W hS => by (obtain ⟨s0, s1, s2⟩ := hS; go_simp)⟩) (HSW.out _ HBY5.out) ?_
            simp only [Act.put, List.setIfInBounds_toArray, List.set_cons_zero, List.set_cons_succ]
            refine wpAnyH_take (i := 3) (oi := ⟨some 112, _, _, _, _, _⟩) (v := (.pointer (some ⟨gb, goff + p, none⟩))) rfl (by kernel_rfl) (by kernel_rfl) (by kernel_rfl) (fun _ _ _ h => h) (Or.inl ⟨by rfl, fun W hS => by (obtain ⟨s0, s1, s2⟩ := hS; go_simp)⟩) (HSW.out _ HBY5.out) ?_
            simp only [Act.put, List.setIfInBounds_toArray, List.set_cons_zero, List.set_cons_succ]
            refine wpAnyH_take (i := 4) (oi := ⟨some 113, _, _, _, _, _⟩) (v := (.slice (A p) g.length (C p))) rfl (by kernel_rfl) (by kernel_rfl) (by kernel_rfl) (fun _ _ _ h => h) (Or.inl ⟨by rfl, fun W hS => by (obtain ⟨s0, s1, s2⟩ := hS; go_simp)⟩) (HSW.out _ HBY5.out) ?_
            simp only [Act.put, List.setIfInBounds_toArray, List.set_cons_zero, List.set_cons_succ]
            refine wpAnyH_take (i := 6) (oi := ⟨some 115, _, _, _, _, _⟩) (v := (.pointer (some ⟨sb.p, 0, none⟩))) rfl (by kernel_rfl) (by kernel_rfl) (by kernel_rfl) (fun _ _ _ h => h) (Or.inl ⟨by rfl, fun W hS => by (obtain ⟨s0, s1, s2⟩ := hS; go_simp)⟩) (HSW.out _ HBY5.out) ?_
            simp only [Act.put, List.setIfInBounds_toArray, List.set_cons_zero, List.set_cons_succ]
            refine wpAnyH_take (i := 7) (oi := ⟨some 116, _, _, _, _, _⟩) (v := (.slice (some ⟨kb, koff, none⟩) hs.length hc)) rfl (by kernel_rfl) (by kernel_rfl) (by kernel_rfl) (fun _ _ _ h => h) (Or.inl ⟨by rfl, fun W hS => by (obtain ⟨s0, s1, s2⟩ := hS; go_simp)⟩) (HSW.out _ HBY5.out) ?_
            simp only [Act.put, List.setIfInBounds_toArray, List.set_cons_zero, List.set_cons_succ]
            refine wpAnyH_take (i := 8) (oi := ⟨some 117, _, _, _, _, _⟩) (v := (.int .i64 p)) rfl (by kernel_rfl) (by kernel_rfl) (by kernel_rfl) (fun _ _ _ h => h) (Or.inl ⟨by rfl, fun W hS => by (obtain ⟨s0, s1, s2⟩ := hS; go_simp)⟩) (HSW.out _ HBY5.out) ?_
            simp only [Act.put, List.setIfInBounds_toArray, List.set_cons_zero, List.set_cons_succ]
            refine wpAnyH_take (i := 9) (oi := ⟨some 118, _, _, _, _, _⟩) (v := (.pointer (some ⟨kb, koff + p, none⟩))) rfl (by kernel_rfl) (by kernel_rfl) (by kernel_rfl) (fun _ _ _ h => h) (Or.inl ⟨by rfl, fun W hS => by (obtain ⟨s0, s1, s2⟩ := hS; go_simp)⟩) (HSW.out _ HBY5.out) ?_
            simp only [Act.put, List.setIfInBounds_toArray, List.set_cons_zero, List.set_cons_succ]
            refine wpAnyH_take (i := 10) (oi := ⟨some 119, _, _, _, _, _⟩) (v := (.slice (A2 p) k.length (C2 p))) rfl (by kernel_rfl) (by kernel_rfl) (by kernel_rfl) (fun _ _ _ h => h) (Or.inl ⟨by rfl, fun W hS => by (obtain ⟨s0, s1, s2⟩ := hS; go_simp)⟩) (HSW.out _ HBY5.out) ?_
            simp only [Act.put, List.setIfInBounds_toArray, List.set_cons_zero, List.set_cons_succ]
            refine wpAnyH_ready (rs := [5]) (by kernel_rfl) (by simp) ?_
            refine AllReadyH.cons rfl (fun K hK => ?_) AllReadyH.nil
            go_simp
            refine (step_is HSA5.out HR1.out g.length rfl (A p) (C p) (HGC.out _ HBY5.out).2 (by omega)).mono ?_
            rintro e y6 ⟨⟨O, rfl, hO, hro⟩, hsa1, hk⟩
            obtain ⟨i1, i2, i3, i4, i5, i6, i7, i8⟩ := HIN.out
            have HOC : Hid (wC.heap.size ≤ O) := hide (Nat.le_trans HZ5.out hO)
            have HO5 : Hid (y5.heap.size ≤ O) := hide hO
            have HFL : Hid (∀ b, (Value.slice a7 g1 c7).ownBlock = some b → b < y5.heap.size) := hide fun b hb => HF5.out.lt hb
            have HY56 : Hid (y5.heap.size ≤ y6.heap.size) := hide hk.size
            have HSA6 := hide hsa1
            have HSB6 := hide (HSB5.out.other hk (.inl i2))
            have HSC6 := hide (HSC5.out.other hk (.inl (by omega)))
            have HBY6 := hide (Below.keptOn HBY5.out hk i1 HBY5.out.size)
            have HRO6 := hide hro
            have HF6 := hide (HF5.out.same fun b hb hl => hk.block b hl (by have h1 : y1.heap.size ≤ b := HF5.out.new b hb; have := HZ1.out; omega))
            have HZ6 : Hid (wC.heap.size ≤ y6.heap.size) := hide (Nat.le_trans HZ5.out hk.size)
            have HY6 : Hid (y1.heap.size ≤ y6.heap.size) := hide (Nat.le_trans HY5.out hk.size)
            clear hO hro hsa1 hk HSA5 HSB5 HSC5 HBY5 HF5 HZ5 i1 i2 i3 i4 i5 i6 i7 i8
            refine hK.out _ _ (HSW.out _ HBY6.out) (fun _ => ?_)
            clear hK K
            refine wpAnyH_ready (rs := [11]) (by kernel_rfl) (by simp) ?_
            refine AllReadyH.cons rfl (fun K hK => ?_) AllReadyH.nil
            go_simp
            refine (step_is HSB6.out HR2.out k.length rfl (A2 p) (C2 p) (HKC.out _ HBY6.out).2 (by omega)).mono ?_
            rintro e y7 ⟨⟨O2, rfl, hO, hro⟩, hsb1, hk⟩
            obtain ⟨i1, i2, i3, i4, i5, i6, i7, i8⟩ := HIN.out
            have j1 := HOC.out
            have HOC2 : Hid (wC.heap.size ≤ O2) := hide (Nat.le_trans HZ6.out hO)
            have HP5 : Hid (y5.heap.size ≤ O2) := hide (Nat.le_trans HY56.out hO)
            have HSB7 := hide hsb1
            have HSA7 := hide (HSA6.out.other hk (.inr i3))
            have HSC7 := hide (HSC6.out.other hk (.inl (by omega)))
            have HBY7 := hide (Below.keptOn HBY6.out hk i7 HBY6.out.size)
            have HRO7 := hide (hk.blk HRO6.out (by omega))
            have HRP7 := hide hro
            have HF7 := hide (HF6.out.same fun b hb hl => hk.block b hl (by have h1 : y1.heap.size ≤ b := HF6.out.new b hb; have := HZ1.out; omega))
            have HZ7 : Hid (wC.heap.size ≤ y7.heap.size) := hide (Nat.le_trans HZ6.out hk.size)
            have HY7 : Hid (y1.heap.size ≤ y7.heap.size) := hide (Nat.le_trans HY6.out hk.size)
            clear hO hro hsb1 hk HSA6 HSB6 HSC6 HBY6 HF6 HZ6 HRO6 i1 i2 i3 i4 i5 i6 i7 i8 j1
            refine hK.out _ _ (HSW.out _ HBY7.out) (fun _ => ?_)
            clear hK K
            refine wpAnyH_take (i := 12) (oi := ⟨some 18, _, _, _, _, _⟩) (v := (.slice (some ⟨O, 0, none⟩) os.length os.length)) rfl (by kernel_rfl) (by kernel_rfl) (by kernel_rfl) (fun _ _ _ h => h) (Or.inl ⟨by rfl, fun W hS => by (obtain ⟨s0, s1, s2⟩ := hS; go_simp)⟩) (HSW.out _ HBY7.out) ?_
            simp only [Act.put, List.setIfInBounds_toArray, List.set_cons_zero, List.set_cons_succ]
            refine wpAnyH_take (i := 13) (oi := ⟨some 19, _, _, _, _, _⟩) (v := (.slice (some ⟨O2, 0, none⟩) mo.length mo.length)) rfl (by kernel_rfl) (by kernel_rfl) (by kernel_rfl) (fun _ _ _ h => h) (Or.inl ⟨by rfl, fun W hS => by (obtain ⟨s0, s1, s2⟩ := hS; go_simp)⟩) (HSW.out _ HBY7.out) ?_
            simp only [Act.put, List.setIfInBounds_toArray, List.set_cons_zero, List.set_cons_succ]
            refine wpAnyH_done (by kernel_rfl) ?_ _
            have e7 : y7.cell? ⟨kb, koff + p, none⟩ = some (.slice (A2 p) k.length (C2 p)) := (HKC.out _ HBY7.out).1
            obtain ⟨a8, c8, y8, happ, hm, hg, hnb⟩ := app_bo (c := C2 p) (n' := g1 + k.length) HF7.out HLEN.out (new := k) rfl rfl (HKC.out _ HBY7.out).2 HY7.out (by omega)
            have HM8 := hide hm
            have HG8 := hide hg
            have HF7n := hide HF7.out.new
            clear hm hg hnb
            go_wp2_with (at_builtin; (refine wpl_append_run happ rfl _ _ rfl rfl rfl ?_))
            clear happ e7
            have HSA8 := hide (HSA7.out.onto HG8.out (fun b hb => by have h1 : y1.heap.size ≤ b := HF7n.out b hb; have := HZ1.out; have := HIN.out; omega))
            have HSB8 := hide (HSB7.out.onto HG8.out (fun b hb => by have h1 : y1.heap.size ≤ b := HF7n.out b hb; have := HZ1.out; have := HIN.out; omega))
            have HSC8 := hide (HSC7.out.onto HG8.out (fun b hb => by have h1 : y1.heap.size ≤ b := HF7n.out b hb; have := HZ1.out; omega))
            have HBY8 := hide (Below.grownOn HBY7.out HG8.out (fun b hb => by have h1 : y1.heap.size ≤ b := HF7n.out b hb; have := HBY1.out.size; omega) HBY7.out.size)
            have HRO8 := hide ((HG8.out.block O (blk_lt HRO7.out) (fun e => by have h1 := HFL.out O e.symm; have := HO5.out; omega)).trans HRO7.out)
            have HRP8 := hide ((HG8.out.block O2 (blk_lt HRP7.out) (fun e => by have h1 := HFL.out O2 e.symm; have := HP5.out; omega)).trans HRP7.out)
            have HZ8 : Hid (wC.heap.size ≤ y8.heap.size) := hide (Nat.le_trans HZ7.out HG8.out.size)
            clear HSA7 HSB7 HSC7 HBY7 HRO7 HRP7 HF7 HF7n HG8 HZ7 HY7
            refine (step_is (g := ff ++ k) HSC8.out HRJ.out (g1 + k.length) (by rw [List.length_append, HLEN.out]) a8 c8 (HM8.out.lies fun _ _ => trivial) (by omega)).mono ?_
            rintro e y9 ⟨⟨O3, rfl, hO, hro⟩, hsc1, hk⟩
            have HGJ : Hid (ff ++ k = jnG g1 g k) := hide (by rw [← HFF.out]; rfl)
            rw [HGJ.out, HOJ.out g k hN hM hJ hhj.out] at hro
            rw [HGJ.out] at hsc1
            obtain ⟨i1, i2, i3, i4, i5, i6, i7, i8⟩ := HIN.out
            have j1 := HOC.out
            have j2 := HOC2.out
            have HSC9 := hide hsc1
            have HSA9 := hide (HSA8.out.other hk (.inr (by omega)))
            have HSB9 := hide (HSB8.out.other hk (.inr i5))
            have HBY9 := hide (Below.keptOn HBY8.out hk i8 HBY8.out.size)
            have HRO9 := hide (hk.blk HRO8.out (by omega))
            have HRP9 := hide (hk.blk HRP8.out (by omega))
            have HRQ9 := hide hro
            have HZ9 : Hid (wC.heap.size ≤ y9.heap.size) := hide (Nat.le_trans HZ8.out hk.size)
            clear hO hro hsc1 hk HSA8 HSB8 HSC8 HBY8 HRO8 HRP8 HZ8 HM8 i1 i2 i3 i4 i5 i6 i7 i8 j1 j2
            have HT10 := hide (below_alloc y9 (.cells #[] 4))
            have HE10 := hide (blk_new y9 (.cells #[] 4))
            have hos30 : os.length ≤ 30 := H60.out.2.1
            have hmo30 : mo.length ≤ 30 := H61.out.2.1
            obtain ⟨b1, d1, y11, happ, hm, hg, hnb⟩ := app_bo (c := os.length) (n' := os.length) (Mine.empty (size := 1) HE10.out) (l := []) rfl (new := outs (vals g hN ns) os) (outs_len _ _) (by omega) (Lies.blk (S := AnyB) (Below.blk HT10.out HRO9.out) trivial) (Nat.le_of_lt (blk_lt HE10.out)) (by omega)
            have HT11 : Hid (Below y9.heap.size y9 y11) := hide (Below.grownOn HT10.out hg (fun b hb => by simp [Value.ownBlock] at hb; omega) HT10.out.size)
            have HM11 := hide hm
            clear hm hg hnb
            obtain ⟨b2, d2, y12, happ2, hm, hg, hnb⟩ := app_bo (c := mo.length) (n' := os.length + mo.length) HM11.out (outs_len _ _) (new := outs (vals k hM ms) mo) (outs_len _ _) rfl (Lies.blk (S := AnyB) (Below.blk HT11.out HRP9.out) trivial) HT11.out.size (by omega)
            have HT12 : Hid (Below y9.heap.size y9 y12) := hide (Below.grownOn HT11.out hg (fun b hb => HM11.out.new b hb) HT11.out.size)
            have HM12 := hide hm
            clear hm hg hnb HM11 HT11
            go_wp2_with (at_builtin; (first | (refine wpl_append_at (y9.alloc (.cells #[] 4)) rfl happ rfl _ _ rfl rfl rfl ?_) | (refine wpl_append_at y11 rfl happ2 rfl _ _ rfl rfl rfl ?_)))
            clear happ happ2
            refine (equal_is (outs (vals g hN ns) os ++ outs (vals k hM ms) mo) _ JO.length (os.length + mo.length) (by rw [List.length_append, outs_len, outs_len, HLJ.out]) (by simp [outs_len]) _ _ _ _ y12 (Lies.blk (S := AnyB) (Below.blk HT12.out HRQ9.out) trivial) (HM12.out.lies (S := AnyB) fun _ _ => trivial) (by rw [HLJ.out]; omega) rfl).mono ?_
            rintro e y13 ⟨rfl, hb⟩
            have HT13 := hide (Below.step HT12.out hb)
            have HSA := hide (HSA9.out.below HT13.out)
            have HSB := hide (HSB9.out.below HT13.out)
            have HSC := hide (HSC9.out.below HT13.out)
            have HBY := hide (Below.step HBY9.out HT13.out)
            have HZY : Hid (wC.heap.size ≤ y13.heap.size) := hide (Nat.le_trans HZ9.out HT13.out.size)
            have HHN := hide (HHJ.out g k hN hM hJ hhj.out hsa.out.len hsb.out.len hsc.out.len)
            clear hb HT10 HE10 HT12 HM12 HSA9 HSB9 HSC9 HBY9 HRO9 HRP9 HRQ9 HZ9
            go_wp2_with fail
            exact ⟨⟨p + 1, _, _, _, by omega, by go_num, HSA, HSB, HSC, HHN, HBY, HZY⟩, by simp [intOf]; omega⟩
      · go_wp2_with fail
        go_ret
        exact ⟨rfl, HW0.out _ hbw.out⟩
    · go_wp2_with fail
      go_ret
      exact ⟨rfl, HW0.out _ hbw.out⟩

end Go.Proofs.Ytoghcacigdeloaa
