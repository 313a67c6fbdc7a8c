/-
  CONTRACT of where.
-/
import Derived.Test.YtlnmemeejgnbeaaClF
import Derived.Lib.QuietBelow
set_option linter.unusedSimpArgs false
set_option linter.unusedVariables false
namespace Go.Proofs.Ytlnmemeejgnbeaa
open Go.RowKit

/-- four boxes -/
abbrev box4 (w : World) (P : Nat) (that is far : Int) : World := (((w.alloc (.cells #[.pointer (some ⟨P, 0, none⟩)] 50)).alloc (.cells #[.int .i64 that] 3)).alloc (.cells #[.int .i64 is] 3)).alloc (.cells #[.int .i64 far] 3)
structure Box4 (W : World) (B P : Nat) (that is far : Int) : Prop where
  b0 : W.cell? ⟨B, 0, none⟩ = some (.pointer (some ⟨P, 0, none⟩))
  b1 : W.cell? ⟨B + 1, 0, none⟩ = some (.int .i64 that)
  b2 : W.cell? ⟨B + 2, 0, none⟩ = some (.int .i64 is)
  b3 : W.cell? ⟨B + 3, 0, none⟩ = some (.int .i64 far)
theorem bcell {w w' : World} (h : Below w.heap.size w w') {a : Addr} {v : Value} (hc : w.cell? a = some v) : w'.cell? a = some v :=
  (World.cell?_of_block (w := w) (h.block a.block (cell_lt hc))).trans hc
theorem Box4.below {W W' : World} {B P : Nat} {that is far : Int} (h : Box4 W B P that is far) (hb : Below W.heap.size W W') : Box4 W' B P that is far :=
  ⟨bcell hb h.b0, bcell hb h.b1, bcell hb h.b2, bcell hb h.b3⟩
theorem below4 (w : World) (P : Nat) (that is far : Int) : Below w.heap.size w (box4 w P that is far) :=
  ((((Below.refl _ _).alloc (Nat.le_refl _) _).alloc (by simp) _).alloc (by simp; omega) _).alloc (by simp; omega) _
theorem isBox4 (w : World) (P : Nat) (that is far : Int) : Box4 (box4 w P that is far) w.heap.size P that is far := by
  have e1 : (w.alloc (.cells #[.pointer (some ⟨P, 0, none⟩)] 50)).heap.size = w.heap.size + 1 := by simp
  have e2 : ((w.alloc (.cells #[.pointer (some ⟨P, 0, none⟩)] 50)).alloc (.cells #[.int .i64 that] 3)).heap.size = w.heap.size + 2 := by simp
  have e3 : (((w.alloc (.cells #[.pointer (some ⟨P, 0, none⟩)] 50)).alloc (.cells #[.int .i64 that] 3)).alloc (.cells #[.int .i64 is] 3)).heap.size = w.heap.size + 3 := by simp
  refine ⟨?_, ?_, ?_, ?_⟩
  · refine cell_alloc (cell_alloc (cell_alloc ?_ _) _) _
    rw [blk_cell (blk_new _ _)]; rfl
  · rw [← e1]
    refine cell_alloc (cell_alloc ?_ _) _
    rw [blk_cell (blk_new _ _)]; rfl
  · rw [← e2]
    refine cell_alloc ?_ _
    rw [blk_cell (blk_new _ _)]; rfl
  · rw [← e3, blk_cell (blk_new _ _)]; rfl

/-- nodes of a maker read such as are ahead of them -/
def Ahead (ms : List Nd) : Prop := 2 ≤ ms.length ∧ ∀ k, k < ms.length → ((ndAt ms k).op = 8 → 0 ≤ (ndAt ms k).a ∧ (ndAt ms k).a < k) ∧ (isTwo (ndAt ms k).op = true → (0 ≤ (ndAt ms k).a ∧ (ndAt ms k).a < k) ∧ (0 ≤ (ndAt ms k).b ∧ (ndAt ms k).b < k))
def In (ms : List Nd) (a : Int) : Prop := 0 ≤ a ∧ a < ms.length
theorem Ahead.one {ms : List Nd} (h : Ahead ms) {a : Int} (ha : In ms a) (ho : (mAt ms a).op = 8) : In ms (mAt ms a).a := by
  obtain ⟨k, rfl⟩ := Int.eq_ofNat_of_zero_le ha.1
  have := (h.2 k (by have := ha.2; omega)).1 (by simpa [mAt] using ho)
  have h2 := ha.2
  exact ⟨by simpa [mAt] using this.1, by simp only [mAt, Int.toNat_natCast]; omega⟩
theorem Ahead.twoA {ms : List Nd} (h : Ahead ms) {a : Int} (ha : In ms a) (ho : isTwo (mAt ms a).op = true) : In ms (mAt ms a).a ∧ In ms (mAt ms a).b := by
  obtain ⟨k, rfl⟩ := Int.eq_ofNat_of_zero_le ha.1
  have := (h.2 k (by have := ha.2; omega)).2 (by simpa [mAt] using ho)
  have h2 := ha.2
  exact ⟨⟨by simpa [mAt] using this.1.1, by simp only [mAt, Int.toNat_natCast]; omega⟩, ⟨by simpa [mAt] using this.2.1, by simp only [mAt, Int.toNat_natCast]; omega⟩⟩
theorem In.small {ms : List Nd} (h : Ahead ms) {a : Int} (ha : 0 ≤ a ∧ a ≤ 1) : In ms a := ⟨ha.1, by have := h.1; omega⟩
theorem turn_small {a : Int} (ha : 0 ≤ a ∧ a ≤ 1) : 0 ≤ turnK a ∧ turnK a ≤ 1 := by unfold turnK; split <;> omega
theorem other_in {ms : List Nd} (h : Ahead ms) {a : Int} (ha : In ms a) (hr : (otherM ms a).2 = true) : In ms (otherM ms a).1 := by
  unfold otherM at *
  by_cases hle : a ≤ 1
  · rw [if_pos hle]; exact In.small h (turn_small ⟨ha.1, hle⟩)
  · rw [if_neg hle] at *
    exact h.one ha (by simpa using hr)
theorem free_in {ms : List Nd} (h : Ahead ms) {op a b : Int} (ha : In ms a) (hb : In ms b) (hr : (freeM ms op a b).2 = true) : In ms (freeM ms op a b).1 := by
  have hi := idle_le op
  have ht : In ms (turnK (idle op)) := In.small h (turn_small hi)
  unfold freeM at *
  by_cases c1 : a = idle op
  · rw [if_pos c1]; exact hb
  rw [if_neg c1] at *
  by_cases c2 : b = idle op
  · rw [if_pos c2]; exact ha
  rw [if_neg c2] at *
  by_cases c3 : oppM ms a b = true
  · rw [if_pos c3]; exact ht
  rw [if_neg c3] at *
  by_cases c4 : op = 7
  · rw [if_pos c4] at *
    unfold freeX at *
    by_cases d1 : a = b
    · rw [if_pos d1]; exact In.small h ⟨by decide, by decide⟩
    rw [if_neg d1] at *
    by_cases d2 : a = 1
    · rw [if_pos d2] at *; exact other_in h hb hr
    rw [if_neg d2] at *
    by_cases d3 : b = 1
    · rw [if_pos d3] at *; exact other_in h ha hr
    rw [if_neg d3] at *
    cases hr
  rw [if_neg c4] at *
  by_cases c5 : a = turnK (idle op)
  · rw [if_pos c5]; exact ht
  rw [if_neg c5] at *
  by_cases c6 : b = turnK (idle op)
  · rw [if_pos c6]; exact ht
  rw [if_neg c6] at *
  exact ha
theorem where_in {ms : List Nd} (h : Ahead ms) {is : Int} (hi : 0 ≤ is ∧ is ≤ 1) (that : Int) : ∀ (f : Nat) {node : Int}, In ms node → In ms (whereM ms f node that is)
  | 0, node, hn => by
    unfold whereM
    split
    · exact In.small h hi
    split
    · exact In.small h (turn_small hi)
    · exact hn
  | f + 1, node, hn => by
    unfold whereM
    split
    · exact In.small h hi
    split
    · exact In.small h (turn_small hi)
    split
    · rename_i ho
      unfold seenM
      split
      · rename_i hs; exact other_in h (where_in h hi that f (h.one hn ho)) hs
      · exact hn
    split
    · rename_i ho
      unfold seenM
      split
      · rename_i hs; exact free_in h (where_in h hi that f (h.twoA hn ho).1) (where_in h hi that f (h.twoA hn ho).2) hs
      · exact hn
    · exact hn

def WhereOK (P nc : Nat) (na : Option Addr) (ms : List Nd) (that is : Int) (f : Nat) : Prop := ∀ (node : Int) (w : World), In ms node → RowAt w P na nc ms →
  Calls Try.prog 42 #[.pointer (some ⟨P, 0, none⟩), .int .i64 node, .int .i64 that, .int .i64 is, .int .i64 f] w fun e w' => e = .returned (.int .i64 (whereM ms f node that is)) ∧ Below w.heap.size w w'

set_option maxRecDepth 100000 in
set_option maxHeartbeats 1600000 in
theorem there_at {P nc : Nat} {na : Option Addr} {ms : List Nd} {that is : Int} {f : Nat} (hf : f ≤ 10) (h : WhereOK P nc na ms that is f) (B : Nat) (node : Int) (w : World) (hn : In ms node) (hr : RowAt w P na nc ms) (hb : Box4 w B P that is (f + 1 : Nat)) :
    Calls Try.prog 48 #[.int .i64 node, .pointer (some ⟨B, 0, none⟩), .pointer (some ⟨B + 1, 0, none⟩), .pointer (some ⟨B + 2, 0, none⟩), .pointer (some ⟨B + 3, 0, none⟩)] w fun e w' => e = .returned (.int .i64 (whereM ms f node that is)) ∧ Below w.heap.size w w' := by
  obtain ⟨b0, b1, b2, b3⟩ := hb
  have H := hide h
  have HN := hide hn
  have HR := hide hr
  clear h hn hr
  have hw : ((f + 1 : Nat) : Int) - 1 = (f : Int) := by omega
  go_enter Try.func48, Try.ntmps48
  go_wp2_with fail
  refine (H.out _ _ HN.out HR.out).mono ?_
  rintro e w' ⟨rfl, hb⟩
  go_wp2_with fail
  go_ret
  exact ⟨rfl, hb⟩

abbrev WhereIs (P : Nat) (node that is far : Int) (w : World) (r : Int) : Prop :=
  Calls Try.prog 42 #[.pointer (some ⟨P, 0, none⟩), .int .i64 node, .int .i64 that, .int .i64 is, .int .i64 far] w fun e w' => e = .returned (.int .i64 r) ∧ Below w.heap.size w w'

set_option maxRecDepth 100000 in
set_option maxHeartbeats 1600000 in
theorem where_1 {P : Nat} (node that is far : Int) (w : World) (e1 : (node == that) = true) : WhereIs P node that is far w is := by
  go_enter Try.func42, Try.ntmps42
  go_wp2_with fail
  go_ret
  exact ⟨rfl, below4 _ _ _ _ _⟩

set_option maxRecDepth 100000 in
set_option maxHeartbeats 1600000 in
theorem where_2 {P nc : Nat} {na : Option Addr} {ms : List Nd} (node that is far : Int) (w : World) (hr : RowAt w P na nc ms) (hn : In ms node) (ht : In ms that) (hi : 0 ≤ is ∧ is ≤ 1) (e1 : (node == that) = false) (e2 : oppM ms node that = true) : WhereIs P node that is far w (turnK is) := by
  have HR := hide (hr.below (below4 w P that is far))
  have HO := hide fun W hr => opp_at (P := P) (nc := nc) (na := na) (ms := ms) node that W hr hn.1 hn.2 ht.1 ht.2
  rw [e2] at HO
  have HT := hide fun W => turned_at is ⟨hi.1, by omega⟩ W
  have HX := hide (isBox4 w P that is far)
  have HB0 := hide (below4 w P that is far)
  clear hr hn ht
  go_enter Try.func42, Try.ntmps42
  go_wp2_with fail
  refine (HO.out _ HR.out).mono ?_
  rintro e w' ⟨rfl, hb⟩
  have HB := hide (Below.step HB0.out hb)
  obtain ⟨b0, b1, b2, b3⟩ := HX.out.below hb
  clear hb HO HR HX HB0
  go_wp2_with fail
  refine (HT.out _).mono ?_
  rintro e w' ⟨rfl, rfl⟩
  go_wp2_with fail
  go_ret
  exact ⟨rfl, HB.out⟩

set_option maxRecDepth 100000 in
set_option maxHeartbeats 1600000 in
theorem where_3 {P nc : Nat} {na : Option Addr} {ms : List Nd} (node that is : Int) (w : World) (hr : RowAt w P na nc ms) (hn : In ms node) (ht : In ms that) (e1 : (node == that) = false) (e2 : oppM ms node that = false) : WhereIs P node that is 0 w node := by
  have HR := hide (hr.below (below4 w P that is 0))
  have HO := hide fun W hr => opp_at (P := P) (nc := nc) (na := na) (ms := ms) node that W hr hn.1 hn.2 ht.1 ht.2
  rw [e2] at HO
  have HX := hide (isBox4 w P that is 0)
  have HB0 := hide (below4 w P that is 0)
  clear hr hn ht
  go_enter Try.func42, Try.ntmps42
  go_wp2_with fail
  refine (HO.out _ HR.out).mono ?_
  rintro e w' ⟨rfl, hb⟩
  have HB := hide (Below.step HB0.out hb)
  obtain ⟨b0, b1, b2, b3⟩ := HX.out.below hb
  clear hb HO HR HX HB0
  go_wp2_with fail
  go_ret
  exact ⟨rfl, HB.out⟩

/-- the last ways: a node that reads, or none -/
abbrev WhereGo (P nc : Nat) (na : Option Addr) (ms : List Nd) (node that is : Int) (f : Nat) (w : World) (x : Nd) (r : Int) : Prop :=
  RowAt w P na nc ms → In ms node → In ms that → f ≤ 10 → WhereOK P nc na ms that is f → Ahead ms → (0 ≤ is ∧ is ≤ 1) → mAt ms node = x → (node == that) = false → oppM ms node that = false → WhereIs P node that is (f + 1 : Nat) w r
theorem drewN_b (w : World) (n : Nat) : Below w.heap.size w (w.drewN n) := ⟨rfl, rfl, rfl, Nat.le_refl _, fun _ _ => rfl⟩

set_option maxRecDepth 100000 in
set_option maxHeartbeats 3200000 in
theorem where_4 {P nc : Nat} {na : Option Addr} {ms : List Nd} (node that is : Int) (f : Nat) (w : World) (a b nx : Int) (r : Int × Bool) (hoth : otherM ms (whereM ms f a that is) = r) : WhereGo P nc na ms node that is f w ⟨8, a, b, nx⟩ (seenM r node) := by
  intro hr hn ht hf hw had hi hx e1 e2
  have hia : In ms a := by have := had.one hn (by rw [hx]); rwa [hx] at this
  have HR := hide (hr.below (below4 w P that is (f + 1 : Nat)))
  have HO := hide fun W hr => opp_at (P := P) (nc := nc) (na := na) (ms := ms) node that W hr hn.1 hn.2 ht.1 ht.2
  rw [e2] at HO
  have HX := hide (isBox4 w P that is (f + 1 : Nat))
  have HB0 := hide (below4 w P that is (f + 1 : Nat))
  have hiw := where_in had hi that f hia
  have HOT := hide fun W hr => other_at (P := P) (nc := nc) (na := na) (ms := ms) (whereM ms f a that is) W hr hiw.1 hiw.2
  rw [hoth] at HOT
  have HTH := hide fun B W hr hb => there_at (P := P) (nc := nc) (na := na) (ms := ms) hf hw B a W hia hr hb
  obtain ⟨k, rfl⟩ := Int.eq_ofNat_of_zero_le hn.1
  have hk : k < ms.length := by have := hn.2; omega
  have hki : (k : Int) < (ms.length : Int) := hn.2
  have hxk : ndAt ms k = ⟨8, a, b, nx⟩ := by rw [← hx]; simp [mAt]
  generalize whereM ms f a that is = q at *
  have hmf : ∀ (fn : Fn) (first cap : Array Value) (w : World), (Instr.makeFunc fn first cap).run Try.prog w = .ok (.func fn first cap) w := fun _ _ _ _ => rfl
  have hfz : (((f + 1 : Nat) : Int) == 0) = false := by simp; omega
  clear hr hn ht hw hia hiw hoth hx
  obtain ⟨rk, rb⟩ := r
  go_enter Try.func42, Try.ntmps42
  go_wp2_with fail
  refine (HO.out _ HR.out).mono ?_
  rintro e w1 ⟨rfl, hb⟩
  have HB := hide (Below.step HB0.out hb)
  have HX1 := hide (HX.out.below hb)
  have HR1 := hide (HR.out.below hb)
  obtain ⟨b0, b1, b2, b3⟩ := HX1.out
  obtain ⟨bb, off, rfl, _, hbl, n0, n1, n2, n3⟩ := HR1.out.row.nodes hk
  rw [hxk] at n0 n1 n2 n3
  simp only at n0 n1 n2 n3
  have hd := HR1.out.hd
  clear hb HO HR HX HB0
  generalize hnn : ms.length = n at *
  go_wp2_with fail
  have HBx := hide (below_alloc w1 (.cells #[.int .i64 8, .int .i64 a, .int .i64 b, .int .i64 nx] 26))
  have x1 : (w1.alloc (.cells #[.int .i64 8, .int .i64 a, .int .i64 b, .int .i64 nx] 26)).cell? ⟨w1.heap.size, 1, none⟩ = some (.int .i64 a) := by rw [blk_cell (blk_new _ _)]; rfl
  have HB2 := hide (Below.step HB.out HBx.out)
  have HX2 := hide (HX1.out.below HBx.out)
  have HR2 := hide (HR1.out.below HBx.out)
  clear b0 b1 b2 b3 n0 n1 n2 n3 hd HX1 HR1 HBx HB
  generalize w1.alloc (.cells #[.int .i64 8, .int .i64 a, .int .i64 b, .int .i64 nx] 26) = w2 at *
  have q0 := cell_regrown HX2.out.b0
  have q1 := cell_regrown x1
  have HCX : Hid (∀ d os, Calls Try.prog 48 #[.int .i64 a, .pointer (some ⟨w.heap.size, 0, none⟩), .pointer (some ⟨w.heap.size + 1, 0, none⟩), .pointer (some ⟨w.heap.size + 2, 0, none⟩), .pointer (some ⟨w.heap.size + 3, 0, none⟩)] (Sort.grow (redrawn w2 d) os) fun e w'' => e = .returned (.int .i64 q) ∧ ∃ p : Regrown, w'' = Sort.grow (redrawn w2 p.d) p.os) :=
    fun d os => Calls.regrown_of (HTH.out _ _ (HR2.out.below (below_regrown w2 d os)) (HX2.out.below (below_regrown w2 d os)))
  have HCO : Hid (∀ d os, Calls Try.prog 45 #[.pointer (some ⟨P, 0, none⟩), .int .i64 q] (Sort.grow (redrawn w2 d) os) fun e w'' => e = .returned (.tuple #[.int .i64 rk, .bool rb]) ∧ ∃ p : Regrown, w'' = Sort.grow (redrawn w2 p.d) p.os) :=
    fun d os => Calls.regrown_of (HOT.out _ (HR2.out.below (below_regrown w2 d os)))
  refine wp_region_quiet_below (by kernel_rfl) (by kernel_rfl) ?_
  repeat (quiet_step (first | with_reducible exact HCX.out _ _ | with_reducible exact HCO.out _ _))
  refine wpQuiet_nil ?_
  intro _ hw'
  obtain ⟨⟨dq, osq⟩, hw''⟩ := hw'
  subst hw''
  have HB4 := hide (HB2.out.trans ((below_regrown w2 dq osq).mono HB2.out.size))
  clear q0 q1 x1 HCX HCO
  cases rb
  · go_wp2_with fail
    go_ret
    exact ⟨rfl, HB4.out⟩
  · go_wp2_with fail
    go_ret
    exact ⟨rfl, HB4.out⟩
/-- two are read -/
theorem two5 : isTwo 5 = true := rfl
theorem two6 : isTwo 6 = true := rfl
theorem two7 : isTwo 7 = true := rfl

set_option maxRecDepth 100000 in
set_option maxHeartbeats 3200000 in
theorem where_5 {P nc : Nat} {na : Option Addr} {ms : List Nd} (node that is : Int) (f : Nat) (w : World) (a b nx : Int) (r : Int × Bool) (hoth : freeM ms 5 (whereM ms f a that is) (whereM ms f b that is) = r) : WhereGo P nc na ms node that is f w ⟨5, a, b, nx⟩ (seenM r node) := by
  intro hr hn ht hf hw had hi hx e1 e2
  have hiab : In ms a ∧ In ms b := by have := had.twoA hn (by rw [hx]; rfl); rwa [hx] at this
  obtain ⟨hia, hib⟩ := hiab
  have HR := hide (hr.below (below4 w P that is (f + 1 : Nat)))
  have HO := hide fun W hr => opp_at (P := P) (nc := nc) (na := na) (ms := ms) node that W hr hn.1 hn.2 ht.1 ht.2
  rw [e2] at HO
  have HX := hide (isBox4 w P that is (f + 1 : Nat))
  have HB0 := hide (below4 w P that is (f + 1 : Nat))
  have hiw := where_in had hi that f hia
  have hiv := where_in had hi that f hib
  have HOT := hide fun W hr => free_at (P := P) (nc := nc) (na := na) (ms := ms) 5 (whereM ms f a that is) (whereM ms f b that is) W hr hiw.1 hiw.2 hiv.1 hiv.2
  rw [hoth] at HOT
  have HTH := hide fun B W hr hb => there_at (P := P) (nc := nc) (na := na) (ms := ms) hf hw B a W hia hr hb
  have HTI := hide fun B W hr hb => there_at (P := P) (nc := nc) (na := na) (ms := ms) hf hw B b W hib hr hb
  obtain ⟨k, rfl⟩ := Int.eq_ofNat_of_zero_le hn.1
  have hk : k < ms.length := by have := hn.2; omega
  have hki : (k : Int) < (ms.length : Int) := hn.2
  have hxk : ndAt ms k = ⟨5, a, b, nx⟩ := by rw [← hx]; simp [mAt]
  generalize whereM ms f a that is = q at *
  generalize whereM ms f b that is = qb at *
  have hmf : ∀ (fn : Fn) (first cap : Array Value) (w : World), (Instr.makeFunc fn first cap).run Try.prog w = .ok (.func fn first cap) w := fun _ _ _ _ => rfl
  have hfz : (((f + 1 : Nat) : Int) == 0) = false := by simp; omega
  clear hr hn ht hw hia hiw hib hiv hoth hx
  obtain ⟨rk, rb⟩ := r
  go_enter Try.func42, Try.ntmps42
  go_wp2_with fail
  refine (HO.out _ HR.out).mono ?_
  rintro e w1 ⟨rfl, hb⟩
  have HB := hide (Below.step HB0.out hb)
  have HX1 := hide (HX.out.below hb)
  have HR1 := hide (HR.out.below hb)
  obtain ⟨b0, b1, b2, b3⟩ := HX1.out
  obtain ⟨bb, off, rfl, _, hbl, n0, n1, n2, n3⟩ := HR1.out.row.nodes hk
  rw [hxk] at n0 n1 n2 n3
  simp only at n0 n1 n2 n3
  have hd := HR1.out.hd
  clear hb HO HR HX HB0
  generalize hnn : ms.length = n at *
  go_wp2_with fail
  have HBx := hide (below_alloc w1 (.cells #[.int .i64 5, .int .i64 a, .int .i64 b, .int .i64 nx] 26))
  have x0 : (w1.alloc (.cells #[.int .i64 5, .int .i64 a, .int .i64 b, .int .i64 nx] 26)).cell? ⟨w1.heap.size, 0, none⟩ = some (.int .i64 5) := by rw [blk_cell (blk_new _ _)]; rfl
  have x1 : (w1.alloc (.cells #[.int .i64 5, .int .i64 a, .int .i64 b, .int .i64 nx] 26)).cell? ⟨w1.heap.size, 1, none⟩ = some (.int .i64 a) := by rw [blk_cell (blk_new _ _)]; rfl
  have x2 : (w1.alloc (.cells #[.int .i64 5, .int .i64 a, .int .i64 b, .int .i64 nx] 26)).cell? ⟨w1.heap.size, 2, none⟩ = some (.int .i64 b) := by rw [blk_cell (blk_new _ _)]; rfl
  have HB2 := hide (Below.step HB.out HBx.out)
  have HX2 := hide (HX1.out.below HBx.out)
  have HR2 := hide (HR1.out.below HBx.out)
  clear b0 b1 b2 b3 n0 n1 n2 n3 hd HX1 HR1 HBx HB
  generalize w1.alloc (.cells #[.int .i64 5, .int .i64 a, .int .i64 b, .int .i64 nx] 26) = w2 at *
  have q0 := cell_regrown HX2.out.b0
  have q1 := cell_regrown x1
  have q2 := cell_regrown x0
  have q3 := cell_regrown x2
  have HCX : Hid (∀ d os, Calls Try.prog 48 #[.int .i64 a, .pointer (some ⟨w.heap.size, 0, none⟩), .pointer (some ⟨w.heap.size + 1, 0, none⟩), .pointer (some ⟨w.heap.size + 2, 0, none⟩), .pointer (some ⟨w.heap.size + 3, 0, none⟩)] (Sort.grow (redrawn w2 d) os) fun e w'' => e = .returned (.int .i64 q) ∧ ∃ p : Regrown, w'' = Sort.grow (redrawn w2 p.d) p.os) :=
    fun d os => Calls.regrown_of (HTH.out _ _ (HR2.out.below (below_regrown w2 d os)) (HX2.out.below (below_regrown w2 d os)))
  have HCY : Hid (∀ d os, Calls Try.prog 48 #[.int .i64 b, .pointer (some ⟨w.heap.size, 0, none⟩), .pointer (some ⟨w.heap.size + 1, 0, none⟩), .pointer (some ⟨w.heap.size + 2, 0, none⟩), .pointer (some ⟨w.heap.size + 3, 0, none⟩)] (Sort.grow (redrawn w2 d) os) fun e w'' => e = .returned (.int .i64 qb) ∧ ∃ p : Regrown, w'' = Sort.grow (redrawn w2 p.d) p.os) :=
    fun d os => Calls.regrown_of (HTI.out _ _ (HR2.out.below (below_regrown w2 d os)) (HX2.out.below (below_regrown w2 d os)))
  have HCO : Hid (∀ d os, Calls Try.prog 41 #[.pointer (some ⟨P, 0, none⟩), .int .i64 5, .int .i64 q, .int .i64 qb] (Sort.grow (redrawn w2 d) os) fun e w'' => e = .returned (.tuple #[.int .i64 rk, .bool rb]) ∧ ∃ p : Regrown, w'' = Sort.grow (redrawn w2 p.d) p.os) :=
    fun d os => Calls.regrown_of (HOT.out _ (HR2.out.below (below_regrown w2 d os)))
  refine wp_region_quiet_below (by kernel_rfl) (by kernel_rfl) ?_
  repeat (quiet_step (first | with_reducible exact HCX.out _ _ | with_reducible exact HCY.out _ _ | with_reducible exact HCO.out _ _))
  refine wpQuiet_nil ?_
  intro _ hw'
  obtain ⟨⟨dq, osq⟩, hw''⟩ := hw'
  subst hw''
  have HB4 := hide (HB2.out.trans ((below_regrown w2 dq osq).mono HB2.out.size))
  clear q0 q1 q2 q3 x0 x1 x2 HCX HCY HCO
  cases rb
  · go_wp2_with fail
    go_ret
    exact ⟨rfl, HB4.out⟩
  · go_wp2_with fail
    go_ret
    exact ⟨rfl, HB4.out⟩
set_option maxRecDepth 100000 in
set_option maxHeartbeats 3200000 in
theorem where_6 {P nc : Nat} {na : Option Addr} {ms : List Nd} (node that is : Int) (f : Nat) (w : World) (a b nx : Int) (r : Int × Bool) (hoth : freeM ms 6 (whereM ms f a that is) (whereM ms f b that is) = r) : WhereGo P nc na ms node that is f w ⟨6, a, b, nx⟩ (seenM r node) := by
  intro hr hn ht hf hw had hi hx e1 e2
  have hiab : In ms a ∧ In ms b := by have := had.twoA hn (by rw [hx]; rfl); rwa [hx] at this
  obtain ⟨hia, hib⟩ := hiab
  have HR := hide (hr.below (below4 w P that is (f + 1 : Nat)))
  have HO := hide fun W hr => opp_at (P := P) (nc := nc) (na := na) (ms := ms) node that W hr hn.1 hn.2 ht.1 ht.2
  rw [e2] at HO
  have HX := hide (isBox4 w P that is (f + 1 : Nat))
  have HB0 := hide (below4 w P that is (f + 1 : Nat))
  have hiw := where_in had hi that f hia
  have hiv := where_in had hi that f hib
  have HOT := hide fun W hr => free_at (P := P) (nc := nc) (na := na) (ms := ms) 6 (whereM ms f a that is) (whereM ms f b that is) W hr hiw.1 hiw.2 hiv.1 hiv.2
  rw [hoth] at HOT
  have HTH := hide fun B W hr hb => there_at (P := P) (nc := nc) (na := na) (ms := ms) hf hw B a W hia hr hb
  have HTI := hide fun B W hr hb => there_at (P := P) (nc := nc) (na := na) (ms := ms) hf hw B b W hib hr hb
  obtain ⟨k, rfl⟩ := Int.eq_ofNat_of_zero_le hn.1
  have hk : k < ms.length := by have := hn.2; omega
  have hki : (k : Int) < (ms.length : Int) := hn.2
  have hxk : ndAt ms k = ⟨6, a, b, nx⟩ := by rw [← hx]; simp [mAt]
  generalize whereM ms f a that is = q at *
  generalize whereM ms f b that is = qb at *
  have hmf : ∀ (fn : Fn) (first cap : Array Value) (w : World), (Instr.makeFunc fn first cap).run Try.prog w = .ok (.func fn first cap) w := fun _ _ _ _ => rfl
  have hfz : (((f + 1 : Nat) : Int) == 0) = false := by simp; omega
  clear hr hn ht hw hia hiw hib hiv hoth hx
  obtain ⟨rk, rb⟩ := r
  go_enter Try.func42, Try.ntmps42
  go_wp2_with fail
  refine (HO.out _ HR.out).mono ?_
  rintro e w1 ⟨rfl, hb⟩
  have HB := hide (Below.step HB0.out hb)
  have HX1 := hide (HX.out.below hb)
  have HR1 := hide (HR.out.below hb)
  obtain ⟨b0, b1, b2, b3⟩ := HX1.out
  obtain ⟨bb, off, rfl, _, hbl, n0, n1, n2, n3⟩ := HR1.out.row.nodes hk
  rw [hxk] at n0 n1 n2 n3
  simp only at n0 n1 n2 n3
  have hd := HR1.out.hd
  clear hb HO HR HX HB0
  generalize hnn : ms.length = n at *
  go_wp2_with fail
  have HBx := hide (below_alloc w1 (.cells #[.int .i64 6, .int .i64 a, .int .i64 b, .int .i64 nx] 26))
  have x0 : (w1.alloc (.cells #[.int .i64 6, .int .i64 a, .int .i64 b, .int .i64 nx] 26)).cell? ⟨w1.heap.size, 0, none⟩ = some (.int .i64 6) := by rw [blk_cell (blk_new _ _)]; rfl
  have x1 : (w1.alloc (.cells #[.int .i64 6, .int .i64 a, .int .i64 b, .int .i64 nx] 26)).cell? ⟨w1.heap.size, 1, none⟩ = some (.int .i64 a) := by rw [blk_cell (blk_new _ _)]; rfl
  have x2 : (w1.alloc (.cells #[.int .i64 6, .int .i64 a, .int .i64 b, .int .i64 nx] 26)).cell? ⟨w1.heap.size, 2, none⟩ = some (.int .i64 b) := by rw [blk_cell (blk_new _ _)]; rfl
  have HB2 := hide (Below.step HB.out HBx.out)
  have HX2 := hide (HX1.out.below HBx.out)
  have HR2 := hide (HR1.out.below HBx.out)
  clear b0 b1 b2 b3 n0 n1 n2 n3 hd HX1 HR1 HBx HB
  generalize w1.alloc (.cells #[.int .i64 6, .int .i64 a, .int .i64 b, .int .i64 nx] 26) = w2 at *
  have q0 := cell_regrown HX2.out.b0
  have q1 := cell_regrown x1
  have q2 := cell_regrown x0
  have q3 := cell_regrown x2
  have HCX : Hid (∀ d os, Calls Try.prog 48 #[.int .i64 a, .pointer (some ⟨w.heap.size, 0, none⟩), .pointer (some ⟨w.heap.size + 1, 0, none⟩), .pointer (some ⟨w.heap.size + 2, 0, none⟩), .pointer (some ⟨w.heap.size + 3, 0, none⟩)] (Sort.grow (redrawn w2 d) os) fun e w'' => e = .returned (.int .i64 q) ∧ ∃ p : Regrown, w'' = Sort.grow (redrawn w2 p.d) p.os) :=
    fun d os => Calls.regrown_of (HTH.out _ _ (HR2.out.below (below_regrown w2 d os)) (HX2.out.below (below_regrown w2 d os)))
  have HCY : Hid (∀ d os, Calls Try.prog 48 #[.int .i64 b, .pointer (some ⟨w.heap.size, 0, none⟩), .pointer (some ⟨w.heap.size + 1, 0, none⟩), .pointer (some ⟨w.heap.size + 2, 0, none⟩), .pointer (some ⟨w.heap.size + 3, 0, none⟩)] (Sort.grow (redrawn w2 d) os) fun e w'' => e = .returned (.int .i64 qb) ∧ ∃ p : Regrown, w'' = Sort.grow (redrawn w2 p.d) p.os) :=
    fun d os => Calls.regrown_of (HTI.out _ _ (HR2.out.below (below_regrown w2 d os)) (HX2.out.below (below_regrown w2 d os)))
  have HCO : Hid (∀ d os, Calls Try.prog 41 #[.pointer (some ⟨P, 0, none⟩), .int .i64 6, .int .i64 q, .int .i64 qb] (Sort.grow (redrawn w2 d) os) fun e w'' => e = .returned (.tuple #[.int .i64 rk, .bool rb]) ∧ ∃ p : Regrown, w'' = Sort.grow (redrawn w2 p.d) p.os) :=
    fun d os => Calls.regrown_of (HOT.out _ (HR2.out.below (below_regrown w2 d os)))
  refine wp_region_quiet_below (by kernel_rfl) (by kernel_rfl) ?_
  repeat (quiet_step (first | with_reducible exact HCX.out _ _ | with_reducible exact HCY.out _ _ | with_reducible exact HCO.out _ _))
  refine wpQuiet_nil ?_
  intro _ hw'
  obtain ⟨⟨dq, osq⟩, hw''⟩ := hw'
  subst hw''
  have HB4 := hide (HB2.out.trans ((below_regrown w2 dq osq).mono HB2.out.size))
  clear q0 q1 q2 q3 x0 x1 x2 HCX HCY HCO
  cases rb
  · go_wp2_with fail
    go_ret
    exact ⟨rfl, HB4.out⟩
  · go_wp2_with fail
    go_ret
    exact ⟨rfl, HB4.out⟩
set_option maxRecDepth 100000 in
set_option maxHeartbeats 3200000 in
theorem where_7 {P nc : Nat} {na : Option Addr} {ms : List Nd} (node that is : Int) (f : Nat) (w : World) (a b nx : Int) (r : Int × Bool) (hoth : freeM ms 7 (whereM ms f a that is) (whereM ms f b that is) = r) : WhereGo P nc na ms node that is f w ⟨7, a, b, nx⟩ (seenM r node) := by
  intro hr hn ht hf hw had hi hx e1 e2
  have hiab : In ms a ∧ In ms b := by have := had.twoA hn (by rw [hx]; rfl); rwa [hx] at this
  obtain ⟨hia, hib⟩ := hiab
  have HR := hide (hr.below (below4 w P that is (f + 1 : Nat)))
  have HO := hide fun W hr => opp_at (P := P) (nc := nc) (na := na) (ms := ms) node that W hr hn.1 hn.2 ht.1 ht.2
  rw [e2] at HO
  have HX := hide (isBox4 w P that is (f + 1 : Nat))
  have HB0 := hide (below4 w P that is (f + 1 : Nat))
  have hiw := where_in had hi that f hia
  have hiv := where_in had hi that f hib
  have HOT := hide fun W hr => free_at (P := P) (nc := nc) (na := na) (ms := ms) 7 (whereM ms f a that is) (whereM ms f b that is) W hr hiw.1 hiw.2 hiv.1 hiv.2
  rw [hoth] at HOT
  have HTH := hide fun B W hr hb => there_at (P := P) (nc := nc) (na := na) (ms := ms) hf hw B a W hia hr hb
  have HTI := hide fun B W hr hb => there_at (P := P) (nc := nc) (na := na) (ms := ms) hf hw B b W hib hr hb
  obtain ⟨k, rfl⟩ := Int.eq_ofNat_of_zero_le hn.1
  have hk : k < ms.length := by have := hn.2; omega
  have hki : (k : Int) < (ms.length : Int) := hn.2
  have hxk : ndAt ms k = ⟨7, a, b, nx⟩ := by rw [← hx]; simp [mAt]
  generalize whereM ms f a that is = q at *
  generalize whereM ms f b that is = qb at *
  have hmf : ∀ (fn : Fn) (first cap : Array Value) (w : World), (Instr.makeFunc fn first cap).run Try.prog w = .ok (.func fn first cap) w := fun _ _ _ _ => rfl
  have hfz : (((f + 1 : Nat) : Int) == 0) = false := by simp; omega
  clear hr hn ht hw hia hiw hib hiv hoth hx
  obtain ⟨rk, rb⟩ := r
  go_enter Try.func42, Try.ntmps42
  go_wp2_with fail
  refine (HO.out _ HR.out).mono ?_
  rintro e w1 ⟨rfl, hb⟩
  have HB := hide (Below.step HB0.out hb)
  have HX1 := hide (HX.out.below hb)
  have HR1 := hide (HR.out.below hb)
  obtain ⟨b0, b1, b2, b3⟩ := HX1.out
  obtain ⟨bb, off, rfl, _, hbl, n0, n1, n2, n3⟩ := HR1.out.row.nodes hk
  rw [hxk] at n0 n1 n2 n3
  simp only at n0 n1 n2 n3
  have hd := HR1.out.hd
  clear hb HO HR HX HB0
  generalize hnn : ms.length = n at *
  go_wp2_with fail
  have HBx := hide (below_alloc w1 (.cells #[.int .i64 7, .int .i64 a, .int .i64 b, .int .i64 nx] 26))
  have x0 : (w1.alloc (.cells #[.int .i64 7, .int .i64 a, .int .i64 b, .int .i64 nx] 26)).cell? ⟨w1.heap.size, 0, none⟩ = some (.int .i64 7) := by rw [blk_cell (blk_new _ _)]; rfl
  have x1 : (w1.alloc (.cells #[.int .i64 7, .int .i64 a, .int .i64 b, .int .i64 nx] 26)).cell? ⟨w1.heap.size, 1, none⟩ = some (.int .i64 a) := by rw [blk_cell (blk_new _ _)]; rfl
  have x2 : (w1.alloc (.cells #[.int .i64 7, .int .i64 a, .int .i64 b, .int .i64 nx] 26)).cell? ⟨w1.heap.size, 2, none⟩ = some (.int .i64 b) := by rw [blk_cell (blk_new _ _)]; rfl
  have HB2 := hide (Below.step HB.out HBx.out)
  have HX2 := hide (HX1.out.below HBx.out)
  have HR2 := hide (HR1.out.below HBx.out)
  clear b0 b1 b2 b3 n0 n1 n2 n3 hd HX1 HR1 HBx HB
  generalize w1.alloc (.cells #[.int .i64 7, .int .i64 a, .int .i64 b, .int .i64 nx] 26) = w2 at *
  have q0 := cell_regrown HX2.out.b0
  have q1 := cell_regrown x1
  have q2 := cell_regrown x0
  have q3 := cell_regrown x2
  have HCX : Hid (∀ d os, Calls Try.prog 48 #[.int .i64 a, .pointer (some ⟨w.heap.size, 0, none⟩), .pointer (some ⟨w.heap.size + 1, 0, none⟩), .pointer (some ⟨w.heap.size + 2, 0, none⟩), .pointer (some ⟨w.heap.size + 3, 0, none⟩)] (Sort.grow (redrawn w2 d) os) fun e w'' => e = .returned (.int .i64 q) ∧ ∃ p : Regrown, w'' = Sort.grow (redrawn w2 p.d) p.os) :=
    fun d os => Calls.regrown_of (HTH.out _ _ (HR2.out.below (below_regrown w2 d os)) (HX2.out.below (below_regrown w2 d os)))
  have HCY : Hid (∀ d os, Calls Try.prog 48 #[.int .i64 b, .pointer (some ⟨w.heap.size, 0, none⟩), .pointer (some ⟨w.heap.size + 1, 0, none⟩), .pointer (some ⟨w.heap.size + 2, 0, none⟩), .pointer (some ⟨w.heap.size + 3, 0, none⟩)] (Sort.grow (redrawn w2 d) os) fun e w'' => e = .returned (.int .i64 qb) ∧ ∃ p : Regrown, w'' = Sort.grow (redrawn w2 p.d) p.os) :=
    fun d os => Calls.regrown_of (HTI.out _ _ (HR2.out.below (below_regrown w2 d os)) (HX2.out.below (below_regrown w2 d os)))
  have HCO : Hid (∀ d os, Calls Try.prog 41 #[.pointer (some ⟨P, 0, none⟩), .int .i64 7, .int .i64 q, .int .i64 qb] (Sort.grow (redrawn w2 d) os) fun e w'' => e = .returned (.tuple #[.int .i64 rk, .bool rb]) ∧ ∃ p : Regrown, w'' = Sort.grow (redrawn w2 p.d) p.os) :=
    fun d os => Calls.regrown_of (HOT.out _ (HR2.out.below (below_regrown w2 d os)))
  refine wp_region_quiet_below (by kernel_rfl) (by kernel_rfl) ?_
  repeat (quiet_step (first | with_reducible exact HCX.out _ _ | with_reducible exact HCY.out _ _ | with_reducible exact HCO.out _ _))
  refine wpQuiet_nil ?_
  intro _ hw'
  obtain ⟨⟨dq, osq⟩, hw''⟩ := hw'
  subst hw''
  have HB4 := hide (HB2.out.trans ((below_regrown w2 dq osq).mono HB2.out.size))
  clear q0 q1 q2 q3 x0 x1 x2 HCX HCY HCO
  cases rb
  · go_wp2_with fail
    go_ret
    exact ⟨rfl, HB4.out⟩
  · go_wp2_with fail
    go_ret
    exact ⟨rfl, HB4.out⟩
set_option maxRecDepth 100000 in
set_option maxHeartbeats 3200000 in
theorem where_n {P nc : Nat} {na : Option Addr} {ms : List Nd} (node that is : Int) (f : Nat) (w : World) (op a b nx : Int) (g8 : (op == 8) = false) (g5 : (op == 5) = false) (g6 : (op == 6) = false) (g7 : (op == 7) = false) : WhereGo P nc na ms node that is f w ⟨op, a, b, nx⟩ node := by
  intro hr hn ht hf hw had hi hx e1 e2
  have HR := hide (hr.below (below4 w P that is (f + 1 : Nat)))
  have HO := hide fun W hr => opp_at (P := P) (nc := nc) (na := na) (ms := ms) node that W hr hn.1 hn.2 ht.1 ht.2
  rw [e2] at HO
  have HX := hide (isBox4 w P that is (f + 1 : Nat))
  have HB0 := hide (below4 w P that is (f + 1 : Nat))
  obtain ⟨k, rfl⟩ := Int.eq_ofNat_of_zero_le hn.1
  have hk : k < ms.length := by have := hn.2; omega
  have hki : (k : Int) < (ms.length : Int) := hn.2
  have hxk : ndAt ms k = ⟨op, a, b, nx⟩ := by rw [← hx]; simp [mAt]
  have hmf : ∀ (fn : Fn) (first cap : Array Value) (w : World), (Instr.makeFunc fn first cap).run Try.prog w = .ok (.func fn first cap) w := fun _ _ _ _ => rfl
  have hfz : (((f + 1 : Nat) : Int) == 0) = false := by simp; omega
  clear hr hn ht hw hx
  go_enter Try.func42, Try.ntmps42
  go_wp2_with fail
  refine (HO.out _ HR.out).mono ?_
  rintro e w1 ⟨rfl, hb⟩
  have HB := hide (Below.step HB0.out hb)
  have HX1 := hide (HX.out.below hb)
  have HR1 := hide (HR.out.below hb)
  obtain ⟨b0, b1, b2, b3⟩ := HX1.out
  obtain ⟨bb, off, rfl, _, hbl, n0, n1, n2, n3⟩ := HR1.out.row.nodes hk
  rw [hxk] at n0 n1 n2 n3
  simp only at n0 n1 n2 n3
  have hd := HR1.out.hd
  clear hb HO HR HX HB0
  generalize hnn : ms.length = n at *
  go_wp2_with fail
  go_ret
  exact ⟨rfl, (Below.step HB.out (below_alloc _ _))⟩

theorem where_all {P nc : Nat} {na : Option Addr} {ms : List Nd} {that is : Int} (had : Ahead ms) (ht : In ms that) (hi : 0 ≤ is ∧ is ≤ 1) : ∀ (f : Nat), f ≤ 10 → WhereOK P nc na ms that is f
  | 0, _ => by
    intro node w hn hr
    by_cases c1 : node = that
    · rw [show whereM ms 0 node that is = is by unfold whereM; rw [if_pos c1]]
      exact where_1 node that is _ w (by simp [c1])
    · cases c2 : oppM ms node that
      · rw [show whereM ms 0 node that is = node by unfold whereM; rw [if_neg c1, if_neg (by simp [c2])]]
        exact where_3 node that is w hr hn ht (by simp [c1]) c2
      · rw [show whereM ms 0 node that is = turnK is by unfold whereM; rw [if_neg c1, if_pos c2]]
        exact where_2 node that is _ w hr hn ht hi (by simp [c1]) c2
  | f + 1, hf => by
    intro node w hn hr
    have IH := where_all (P := P) (nc := nc) (na := na) had ht hi f (by omega)
    by_cases c1 : node = that
    · rw [show whereM ms (f + 1) node that is = is by unfold whereM; rw [if_pos c1]]
      exact where_1 node that is _ w (by simp [c1])
    have d1 : (node == that) = false := by simp [c1]
    cases c2 : oppM ms node that
    · unfold whereM
      rw [if_neg c1, if_neg (by simp [c2])]
      generalize hx : mAt ms node = x
      obtain ⟨op, a, b, nx⟩ := x
      simp only
      by_cases c8 : op = 8
      · subst c8
        rw [if_pos rfl]
        exact where_4 node that is f w a b nx _ rfl hr hn ht (by omega) IH had hi hx d1 c2
      rw [if_neg c8]
      by_cases c5 : op = 5
      · subst c5
        rw [if_pos two5]
        exact where_5 node that is f w a b nx _ rfl hr hn ht (by omega) IH had hi hx d1 c2
      by_cases c6 : op = 6
      · subst c6
        rw [if_pos two6]
        exact where_6 node that is f w a b nx _ rfl hr hn ht (by omega) IH had hi hx d1 c2
      by_cases c7 : op = 7
      · subst c7
        rw [if_pos two7]
        exact where_7 node that is f w a b nx _ rfl hr hn ht (by omega) IH had hi hx d1 c2
      rw [if_neg (by simp [isTwo, c5, c6, c7])]
      exact where_n node that is f w op a b nx (by simp [c8]) (by simp [c5]) (by simp [c6]) (by simp [c7]) hr hn ht (by omega) IH had hi hx d1 c2
    · rw [show whereM ms (f + 1) node that is = turnK is by unfold whereM; rw [if_neg c1, if_pos c2]]
      exact where_2 node that is _ w hr hn ht hi d1 c2
end Go.Proofs.Ytlnmemeejgnbeaa
