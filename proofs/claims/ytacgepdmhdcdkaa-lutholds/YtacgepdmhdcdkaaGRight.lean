/-
  MEMORY: a net of gates, and what goes through it.
  CONTRACTS of below, of the closure in right, of right.
  CONTRACTS of right, Right, Gates.
-/
import Derived.Test.YtacgepdmhdcdkaaMM
import Derived.Test.YtacgepdmhdcdkaaLMem
import Derived.Deep.RegionHeld3
namespace Go.Proofs.Ytacgepdmhdcdkaa
open Go.RowKit

/-- a net in memory -/
structure NetP where
  p : Nat
  na : Option Addr
  nc : Nat
  oa : Option Addr
  oc : Nat
structure NetAt (s : NetP) (S : Nat → Prop) (w : World) (given : Int) (ns : List Nd) (os : List Int) : Prop where
  me : w.heap[s.p]? = some (.cells #[.int .i64 given, .slice s.na ns.length s.nc, .slice s.oa os.length s.oc] 51 (0, 0))
  nodes : Lies S w s.na (ndsC ns)
  outs : Lies S w s.oa (intsC os)
theorem NetAt.below {s : NetP} {S : Nat → Prop} {w w' : World} {given : Int} {ns : List Nd} {os : List Int} (h : NetAt s S w given ns os) (hb : Below w.heap.size w w') : NetAt s S w' given ns os :=
  ⟨Below.blk hb h.me, h.nodes.below hb, h.outs.below hb⟩
theorem NetAt.lt {s : NetP} {S : Nat → Prop} {w : World} {given : Int} {ns : List Nd} {os : List Int} (h : NetAt s S w given ns os) : s.p < w.heap.size := blk_lt h.me
theorem NetAt.kept {s : NetP} {S : Nat → Prop} {w w' : World} {given : Int} {ns : List Nd} {os : List Int} {R : Nat} (h : NetAt s S w given ns os) (hb : Kept R w w') (hp : s.p ≠ R) (hS : ¬ S R) : NetAt s S w' given ns os :=
  ⟨hb.blk h.me hp, h.nodes.same fun b hs hl => hb.block b hl fun e => hS (e ▸ hs), h.outs.same fun b hs hl => hb.block b hl fun e => hS (e ▸ hs)⟩
theorem NetAt.c0 {s : NetP} {S : Nat → Prop} {w : World} {given : Int} {ns : List Nd} {os : List Int} (h : NetAt s S w given ns os) : w.cell? ⟨s.p, 0, none⟩ = some (.int .i64 given) := by rw [blk_cell h.me]; rfl
theorem NetAt.c1 {s : NetP} {S : Nat → Prop} {w : World} {given : Int} {ns : List Nd} {os : List Int} (h : NetAt s S w given ns os) : w.cell? ⟨s.p, 1, none⟩ = some (.slice s.na ns.length s.nc) := by rw [blk_cell h.me]; rfl
theorem NetAt.c2 {s : NetP} {S : Nat → Prop} {w : World} {given : Int} {ns : List Nd} {os : List Int} (h : NetAt s S w given ns os) : w.cell? ⟨s.p, 2, none⟩ = some (.slice s.oa os.length s.oc) := by rw [blk_cell h.me]; rfl

end Go.Proofs.Ytacgepdmhdcdkaa
set_option linter.unusedSimpArgs false
set_option linter.unusedVariables false
namespace Go.Proofs.Ytacgepdmhdcdkaa
open Go.RowKit

set_option maxRecDepth 100000 in
set_option maxHeartbeats 1600000 in
theorem below_at (k m : Int) (w : World) : Calls Try.prog 32 #[.int .i64 k, .int .i64 m] w fun e w' => e = .returned (.bool (inR k m)) ∧ w' = w := by
  by_cases h0 : 0 ≤ k
  · go_enter Try.func32, Try.ntmps32
    go_wp2
    go_ret
    exact ⟨ret_bool (by simp [inR, h0]), rfl⟩
  · have h1 : k < 0 := by omega
    go_enter Try.func32, Try.ntmps32
    go_wp2
    go_ret
    exact ⟨ret_bool (by simp [inR]; omega), rfl⟩

set_option maxRecDepth 100000 in
set_option maxHeartbeats 1600000 in
theorem aheadR_at (k m : Int) (P : Nat) (w : World) (hp : w.cell? ⟨P, 0, none⟩ = some (.int .i64 m)) : Calls Try.prog 38 #[.int .i64 k, .pointer (some ⟨P, 0, none⟩)] w fun e w' => e = .returned (.bool (inR k m)) ∧ w' = w := by
  go_enter Try.func38, Try.ntmps38
  go_wp2_with fail
  refine (below_at _ _ _).mono ?_
  rintro e w' ⟨rfl, rfl⟩
  go_wp2_with fail
  go_ret
  exact ⟨rfl, rfl⟩

theorem below_is (k m : Int) (r : Bool) (h : inR k m = r) (w : World) : Calls Try.prog 32 #[.int .i64 k, .int .i64 m] w fun e w' => e = .returned (.bool r) ∧ w' = w := h ▸ below_at k m w

/-- right, at a node of which the op is known -/
abbrev RightAt (P i n nc b off : Nat) (ao : Value) (given op a bb nx : Int) (w : World) (r : Bool) : Prop :=
  (i : Int) < (n : Int) → w.cell? ⟨P, 0, none⟩ = some (.int .i64 given) → w.cell? ⟨P, 1, none⟩ = some (.slice (some ⟨b, off, none⟩) n nc) → 
  w.cell? ⟨b, off + i * 4, none⟩ = some (.int .i64 op) → w.cell? ⟨b, off + i * 4 + 1, none⟩ = some (.int .i64 a) → w.cell? ⟨b, off + i * 4 + 2, none⟩ = some (.int .i64 bb) → w.cell? ⟨b, off + i * 4 + 3, none⟩ = some (.int .i64 nx) →
  Calls Try.prog 31 #[.pointer (some ⟨P, 0, none⟩), .int .i64 i] w fun e w' => e = .returned (.bool r) ∧ Below w.heap.size w w'

set_option maxRecDepth 100000 in
set_option maxHeartbeats 1600000 in
theorem right_1 (P i n nc b off : Nat) (ao : Value) (given a bb nx : Int) (w : World) : RightAt P i n nc b off ao given 1 a bb nx w true := by
  intro hin h0 h1 n0 n1 n2 n3
  have hPl := cell_lt h0
  have hbl := cell_lt n0
  simp only at hPl hbl
  have h0 := fun o o' => cell_alloc (cell_alloc h0 o) o'
  have h1a := fun o => cell_alloc h1 o
  have h1 := fun o o' => cell_alloc (cell_alloc h1 o) o'
  have n0 := fun o => cell_alloc n0 o
  have n1 := fun o => cell_alloc n1 o
  have n2 := fun o => cell_alloc n2 o
  have n3 := fun o => cell_alloc n3 o
  have hmf : ∀ (fn : Fn) (first cap : Array Value) (w : World), (Instr.makeFunc fn first cap).run Try.prog w = .ok (.func fn first cap) w := fun _ _ _ _ => rfl
  go_enter Try.func31, Try.ntmps31
  go_wp2_with fail
  go_region
  go_wp2_with fail
  go_ret
  exact ⟨rfl, (((Below.refl _ _).alloc (Nat.le_refl _) _).alloc (by simp) _).drew⟩

set_option maxRecDepth 100000 in
set_option maxHeartbeats 1600000 in
theorem right_2 (P i n nc b off : Nat) (ao : Value) (given a bb nx : Int) (w : World) : RightAt P i n nc b off ao given 2 a bb nx w true := by
  intro hin h0 h1 n0 n1 n2 n3
  have hPl := cell_lt h0
  have hbl := cell_lt n0
  simp only at hPl hbl
  have h0 := fun o o' => cell_alloc (cell_alloc h0 o) o'
  have h1a := fun o => cell_alloc h1 o
  have h1 := fun o o' => cell_alloc (cell_alloc h1 o) o'
  have n0 := fun o => cell_alloc n0 o
  have n1 := fun o => cell_alloc n1 o
  have n2 := fun o => cell_alloc n2 o
  have n3 := fun o => cell_alloc n3 o
  have hmf : ∀ (fn : Fn) (first cap : Array Value) (w : World), (Instr.makeFunc fn first cap).run Try.prog w = .ok (.func fn first cap) w := fun _ _ _ _ => rfl
  go_enter Try.func31, Try.ntmps31
  go_wp2_with fail
  go_region
  go_wp2_with fail
  go_ret
  exact ⟨rfl, (((Below.refl _ _).alloc (Nat.le_refl _) _).alloc (by simp) _).drew⟩

set_option maxRecDepth 100000 in
set_option maxHeartbeats 1600000 in
theorem right_3 (P i n nc b off : Nat) (ao : Value) (given a bb nx : Int) (w : World) : RightAt P i n nc b off ao given 3 a bb nx w (inR a given) := by
  intro hin h0 h1 n0 n1 n2 n3
  have hPl := cell_lt h0
  have hbl := cell_lt n0
  simp only at hPl hbl
  have h0 := fun o o' => cell_alloc (cell_alloc h0 o) o'
  have h1a := fun o => cell_alloc h1 o
  have h1 := fun o o' => cell_alloc (cell_alloc h1 o) o'
  have n0 := fun o => cell_alloc n0 o
  have n1 := fun o => cell_alloc n1 o
  have n2 := fun o => cell_alloc n2 o
  have n3 := fun o => cell_alloc n3 o
  have hmf : ∀ (fn : Fn) (first cap : Array Value) (w : World), (Instr.makeFunc fn first cap).run Try.prog w = .ok (.func fn first cap) w := fun _ _ _ _ => rfl
  go_enter Try.func31, Try.ntmps31
  go_wp2_with fail
  go_region
  go_wp2_with fail
  have HB : Hid (Below w.heap.size w (((w.alloc (.cells #[.int .i64 i] 3)).alloc (.cells #[.int .i64 3, .int .i64 a, .int .i64 bb, .int .i64 nx] 48)).drew)) := hide ((((Below.refl _ _).alloc (Nat.le_refl _) _).alloc (by simp) _).drew)
  have f0 : (((w.alloc (.cells #[.int .i64 i] 3)).alloc (.cells #[.int .i64 3, .int .i64 a, .int .i64 bb, .int .i64 nx] 48)).drew).cell? ⟨P, 0, none⟩ = some (.int .i64 given) := h0 _ _
  have f1 : (((w.alloc (.cells #[.int .i64 i] 3)).alloc (.cells #[.int .i64 3, .int .i64 a, .int .i64 bb, .int .i64 nx] 48)).drew).cell? ⟨P, 1, none⟩ = some (.slice (some ⟨b, off, none⟩) n nc) := h1 _ _
  have x1 : (((w.alloc (.cells #[.int .i64 i] 3)).alloc (.cells #[.int .i64 3, .int .i64 a, .int .i64 bb, .int .i64 nx] 48)).drew).cell? ⟨w.heap.size + 1, 1, none⟩ = some (.int .i64 a) := by go_simp
  have x3 : (((w.alloc (.cells #[.int .i64 i] 3)).alloc (.cells #[.int .i64 3, .int .i64 a, .int .i64 bb, .int .i64 nx] 48)).drew).cell? ⟨w.heap.size + 1, 3, none⟩ = some (.int .i64 nx) := by go_simp
  generalize (((w.alloc (.cells #[.int .i64 i] 3)).alloc (.cells #[.int .i64 3, .int .i64 a, .int .i64 bb, .int .i64 nx] 48)).drew) = W at *
  clear h0 h1 h1a n0 n1 n2 n3
  go_quiet ((go_at_call 32; exact Calls.quiet_of_same (below_at _ _ _)))
  go_wp2_with fail
  go_ret
  exact ⟨rfl, Below.drewNs HB.out _⟩

set_option maxRecDepth 100000 in
set_option maxHeartbeats 1600000 in
theorem right_4t (P i n nc b off : Nat) (ao : Value) (given a bb nx : Int) (w : World) (hq : inR a 2 = true) : RightAt P i n nc b off ao given 4 a bb nx w (inR nx n) := by
  intro hin h0 h1 n0 n1 n2 n3
  have hPl := cell_lt h0
  have hbl := cell_lt n0
  simp only at hPl hbl
  have h0 := fun o o' => cell_alloc (cell_alloc h0 o) o'
  have h1a := fun o => cell_alloc h1 o
  have h1 := fun o o' => cell_alloc (cell_alloc h1 o) o'
  have n0 := fun o => cell_alloc n0 o
  have n1 := fun o => cell_alloc n1 o
  have n2 := fun o => cell_alloc n2 o
  have n3 := fun o => cell_alloc n3 o
  have hmf : ∀ (fn : Fn) (first cap : Array Value) (w : World), (Instr.makeFunc fn first cap).run Try.prog w = .ok (.func fn first cap) w := fun _ _ _ _ => rfl
  go_enter Try.func31, Try.ntmps31
  go_wp2_with fail
  go_region
  go_wp2_with fail
  have HB : Hid (Below w.heap.size w (((w.alloc (.cells #[.int .i64 i] 3)).alloc (.cells #[.int .i64 4, .int .i64 a, .int .i64 bb, .int .i64 nx] 48)).drew)) := hide ((((Below.refl _ _).alloc (Nat.le_refl _) _).alloc (by simp) _).drew)
  have f0 : (((w.alloc (.cells #[.int .i64 i] 3)).alloc (.cells #[.int .i64 4, .int .i64 a, .int .i64 bb, .int .i64 nx] 48)).drew).cell? ⟨P, 0, none⟩ = some (.int .i64 given) := h0 _ _
  have f1 : (((w.alloc (.cells #[.int .i64 i] 3)).alloc (.cells #[.int .i64 4, .int .i64 a, .int .i64 bb, .int .i64 nx] 48)).drew).cell? ⟨P, 1, none⟩ = some (.slice (some ⟨b, off, none⟩) n nc) := h1 _ _
  have x1 : (((w.alloc (.cells #[.int .i64 i] 3)).alloc (.cells #[.int .i64 4, .int .i64 a, .int .i64 bb, .int .i64 nx] 48)).drew).cell? ⟨w.heap.size + 1, 1, none⟩ = some (.int .i64 a) := by go_simp
  have x3 : (((w.alloc (.cells #[.int .i64 i] 3)).alloc (.cells #[.int .i64 4, .int .i64 a, .int .i64 bb, .int .i64 nx] 48)).drew).cell? ⟨w.heap.size + 1, 3, none⟩ = some (.int .i64 nx) := by go_simp
  generalize (((w.alloc (.cells #[.int .i64 i] 3)).alloc (.cells #[.int .i64 4, .int .i64 a, .int .i64 bb, .int .i64 nx] 48)).drew) = W at *
  clear h0 h1 h1a n0 n1 n2 n3
  go_quiet ((go_at_call 32; exact Calls.quiet_of_same (below_at _ _ _)))
  go_wp2_with fail
  go_ret
  exact ⟨rfl, Below.drewNs HB.out _⟩

set_option maxRecDepth 100000 in
set_option maxHeartbeats 1600000 in
theorem right_4f (P i n nc b off : Nat) (ao : Value) (given a bb nx : Int) (w : World) (hq : inR a 2 = false) : RightAt P i n nc b off ao given 4 a bb nx w false := by
  intro hin h0 h1 n0 n1 n2 n3
  have hPl := cell_lt h0
  have hbl := cell_lt n0
  simp only at hPl hbl
  have h0 := fun o o' => cell_alloc (cell_alloc h0 o) o'
  have h1a := fun o => cell_alloc h1 o
  have h1 := fun o o' => cell_alloc (cell_alloc h1 o) o'
  have n0 := fun o => cell_alloc n0 o
  have n1 := fun o => cell_alloc n1 o
  have n2 := fun o => cell_alloc n2 o
  have n3 := fun o => cell_alloc n3 o
  have hmf : ∀ (fn : Fn) (first cap : Array Value) (w : World), (Instr.makeFunc fn first cap).run Try.prog w = .ok (.func fn first cap) w := fun _ _ _ _ => rfl
  go_enter Try.func31, Try.ntmps31
  go_wp2_with fail
  go_region
  go_wp2_with fail
  have HB : Hid (Below w.heap.size w (((w.alloc (.cells #[.int .i64 i] 3)).alloc (.cells #[.int .i64 4, .int .i64 a, .int .i64 bb, .int .i64 nx] 48)).drew)) := hide ((((Below.refl _ _).alloc (Nat.le_refl _) _).alloc (by simp) _).drew)
  have f0 : (((w.alloc (.cells #[.int .i64 i] 3)).alloc (.cells #[.int .i64 4, .int .i64 a, .int .i64 bb, .int .i64 nx] 48)).drew).cell? ⟨P, 0, none⟩ = some (.int .i64 given) := h0 _ _
  have f1 : (((w.alloc (.cells #[.int .i64 i] 3)).alloc (.cells #[.int .i64 4, .int .i64 a, .int .i64 bb, .int .i64 nx] 48)).drew).cell? ⟨P, 1, none⟩ = some (.slice (some ⟨b, off, none⟩) n nc) := h1 _ _
  have x1 : (((w.alloc (.cells #[.int .i64 i] 3)).alloc (.cells #[.int .i64 4, .int .i64 a, .int .i64 bb, .int .i64 nx] 48)).drew).cell? ⟨w.heap.size + 1, 1, none⟩ = some (.int .i64 a) := by go_simp
  have x3 : (((w.alloc (.cells #[.int .i64 i] 3)).alloc (.cells #[.int .i64 4, .int .i64 a, .int .i64 bb, .int .i64 nx] 48)).drew).cell? ⟨w.heap.size + 1, 3, none⟩ = some (.int .i64 nx) := by go_simp
  generalize (((w.alloc (.cells #[.int .i64 i] 3)).alloc (.cells #[.int .i64 4, .int .i64 a, .int .i64 bb, .int .i64 nx] 48)).drew) = W at *
  clear h0 h1 h1a n0 n1 n2 n3
  go_quiet ((go_at_call 32; exact Calls.quiet_of_same (below_is _ _ false hq _)))
  go_wp2_with fail
  go_ret
  exact ⟨rfl, Below.drewNs HB.out _⟩

set_option maxRecDepth 100000 in
set_option maxHeartbeats 1600000 in
theorem right_5t (P i n nc b off : Nat) (ao : Value) (given a bb nx : Int) (w : World) (hq : inR a i = true) : RightAt P i n nc b off ao given 5 a bb nx w (inR bb i) := by
  intro hin h0 h1 n0 n1 n2 n3
  have hPl := cell_lt h0
  have hbl := cell_lt n0
  simp only at hPl hbl
  have h0 := fun o o' => cell_alloc (cell_alloc h0 o) o'
  have h1a := fun o => cell_alloc h1 o
  have h1 := fun o o' => cell_alloc (cell_alloc h1 o) o'
  have n0 := fun o => cell_alloc n0 o
  have n1 := fun o => cell_alloc n1 o
  have n2 := fun o => cell_alloc n2 o
  have n3 := fun o => cell_alloc n3 o
  have hmf : ∀ (fn : Fn) (first cap : Array Value) (w : World), (Instr.makeFunc fn first cap).run Try.prog w = .ok (.func fn first cap) w := fun _ _ _ _ => rfl
  go_enter Try.func31, Try.ntmps31
  go_wp2_with fail
  go_region
  go_wp2_with fail
  refine (aheadR_at _ i w.heap.size _ (by go_simp)).mono ?_
  rintro e w' ⟨rfl, rfl⟩
  rw [hq]
  go_wp2_with fail
  refine (aheadR_at _ i w.heap.size _ (by go_simp)).mono ?_
  rintro e w' ⟨rfl, rfl⟩
  go_wp2_with fail
  go_ret
  exact ⟨rfl, (((Below.refl _ _).alloc (Nat.le_refl _) _).alloc (by simp) _).drew⟩

set_option maxRecDepth 100000 in
set_option maxHeartbeats 1600000 in
theorem right_5f (P i n nc b off : Nat) (ao : Value) (given a bb nx : Int) (w : World) (hq : inR a i = false) : RightAt P i n nc b off ao given 5 a bb nx w false := by
  intro hin h0 h1 n0 n1 n2 n3
  have hPl := cell_lt h0
  have hbl := cell_lt n0
  simp only at hPl hbl
  have h0 := fun o o' => cell_alloc (cell_alloc h0 o) o'
  have h1a := fun o => cell_alloc h1 o
  have h1 := fun o o' => cell_alloc (cell_alloc h1 o) o'
  have n0 := fun o => cell_alloc n0 o
  have n1 := fun o => cell_alloc n1 o
  have n2 := fun o => cell_alloc n2 o
  have n3 := fun o => cell_alloc n3 o
  have hmf : ∀ (fn : Fn) (first cap : Array Value) (w : World), (Instr.makeFunc fn first cap).run Try.prog w = .ok (.func fn first cap) w := fun _ _ _ _ => rfl
  go_enter Try.func31, Try.ntmps31
  go_wp2_with fail
  go_region
  go_wp2_with fail
  refine (aheadR_at _ i w.heap.size _ (by go_simp)).mono ?_
  rintro e w' ⟨rfl, rfl⟩
  rw [hq]
  go_wp2_with fail
  go_ret
  exact ⟨rfl, (((Below.refl _ _).alloc (Nat.le_refl _) _).alloc (by simp) _).drew⟩

set_option maxRecDepth 100000 in
set_option maxHeartbeats 1600000 in
theorem right_6t (P i n nc b off : Nat) (ao : Value) (given a bb nx : Int) (w : World) (hq : inR a i = true) : RightAt P i n nc b off ao given 6 a bb nx w (inR bb i) := by
  intro hin h0 h1 n0 n1 n2 n3
  have hPl := cell_lt h0
  have hbl := cell_lt n0
  simp only at hPl hbl
  have h0 := fun o o' => cell_alloc (cell_alloc h0 o) o'
  have h1a := fun o => cell_alloc h1 o
  have h1 := fun o o' => cell_alloc (cell_alloc h1 o) o'
  have n0 := fun o => cell_alloc n0 o
  have n1 := fun o => cell_alloc n1 o
  have n2 := fun o => cell_alloc n2 o
  have n3 := fun o => cell_alloc n3 o
  have hmf : ∀ (fn : Fn) (first cap : Array Value) (w : World), (Instr.makeFunc fn first cap).run Try.prog w = .ok (.func fn first cap) w := fun _ _ _ _ => rfl
  go_enter Try.func31, Try.ntmps31
  go_wp2_with fail
  go_region
  go_wp2_with fail
  refine (aheadR_at _ i w.heap.size _ (by go_simp)).mono ?_
  rintro e w' ⟨rfl, rfl⟩
  rw [hq]
  go_wp2_with fail
  refine (aheadR_at _ i w.heap.size _ (by go_simp)).mono ?_
  rintro e w' ⟨rfl, rfl⟩
  go_wp2_with fail
  go_ret
  exact ⟨rfl, (((Below.refl _ _).alloc (Nat.le_refl _) _).alloc (by simp) _).drew⟩

set_option maxRecDepth 100000 in
set_option maxHeartbeats 1600000 in
theorem right_6f (P i n nc b off : Nat) (ao : Value) (given a bb nx : Int) (w : World) (hq : inR a i = false) : RightAt P i n nc b off ao given 6 a bb nx w false := by
  intro hin h0 h1 n0 n1 n2 n3
  have hPl := cell_lt h0
  have hbl := cell_lt n0
  simp only at hPl hbl
  have h0 := fun o o' => cell_alloc (cell_alloc h0 o) o'
  have h1a := fun o => cell_alloc h1 o
  have h1 := fun o o' => cell_alloc (cell_alloc h1 o) o'
  have n0 := fun o => cell_alloc n0 o
  have n1 := fun o => cell_alloc n1 o
  have n2 := fun o => cell_alloc n2 o
  have n3 := fun o => cell_alloc n3 o
  have hmf : ∀ (fn : Fn) (first cap : Array Value) (w : World), (Instr.makeFunc fn first cap).run Try.prog w = .ok (.func fn first cap) w := fun _ _ _ _ => rfl
  go_enter Try.func31, Try.ntmps31
  go_wp2_with fail
  go_region
  go_wp2_with fail
  refine (aheadR_at _ i w.heap.size _ (by go_simp)).mono ?_
  rintro e w' ⟨rfl, rfl⟩
  rw [hq]
  go_wp2_with fail
  go_ret
  exact ⟨rfl, (((Below.refl _ _).alloc (Nat.le_refl _) _).alloc (by simp) _).drew⟩

set_option maxRecDepth 100000 in
set_option maxHeartbeats 1600000 in
theorem right_7t (P i n nc b off : Nat) (ao : Value) (given a bb nx : Int) (w : World) (hq : inR a i = true) : RightAt P i n nc b off ao given 7 a bb nx w (inR bb i) := by
  intro hin h0 h1 n0 n1 n2 n3
  have hPl := cell_lt h0
  have hbl := cell_lt n0
  simp only at hPl hbl
  have h0 := fun o o' => cell_alloc (cell_alloc h0 o) o'
  have h1a := fun o => cell_alloc h1 o
  have h1 := fun o o' => cell_alloc (cell_alloc h1 o) o'
  have n0 := fun o => cell_alloc n0 o
  have n1 := fun o => cell_alloc n1 o
  have n2 := fun o => cell_alloc n2 o
  have n3 := fun o => cell_alloc n3 o
  have hmf : ∀ (fn : Fn) (first cap : Array Value) (w : World), (Instr.makeFunc fn first cap).run Try.prog w = .ok (.func fn first cap) w := fun _ _ _ _ => rfl
  go_enter Try.func31, Try.ntmps31
  go_wp2_with fail
  go_region
  go_wp2_with fail
  refine (aheadR_at _ i w.heap.size _ (by go_simp)).mono ?_
  rintro e w' ⟨rfl, rfl⟩
  rw [hq]
  go_wp2_with fail
  refine (aheadR_at _ i w.heap.size _ (by go_simp)).mono ?_
  rintro e w' ⟨rfl, rfl⟩
  go_wp2_with fail
  go_ret
  exact ⟨rfl, (((Below.refl _ _).alloc (Nat.le_refl _) _).alloc (by simp) _).drew⟩

set_option maxRecDepth 100000 in
set_option maxHeartbeats 1600000 in
theorem right_7f (P i n nc b off : Nat) (ao : Value) (given a bb nx : Int) (w : World) (hq : inR a i = false) : RightAt P i n nc b off ao given 7 a bb nx w false := by
  intro hin h0 h1 n0 n1 n2 n3
  have hPl := cell_lt h0
  have hbl := cell_lt n0
  simp only at hPl hbl
  have h0 := fun o o' => cell_alloc (cell_alloc h0 o) o'
  have h1a := fun o => cell_alloc h1 o
  have h1 := fun o o' => cell_alloc (cell_alloc h1 o) o'
  have n0 := fun o => cell_alloc n0 o
  have n1 := fun o => cell_alloc n1 o
  have n2 := fun o => cell_alloc n2 o
  have n3 := fun o => cell_alloc n3 o
  have hmf : ∀ (fn : Fn) (first cap : Array Value) (w : World), (Instr.makeFunc fn first cap).run Try.prog w = .ok (.func fn first cap) w := fun _ _ _ _ => rfl
  go_enter Try.func31, Try.ntmps31
  go_wp2_with fail
  go_region
  go_wp2_with fail
  refine (aheadR_at _ i w.heap.size _ (by go_simp)).mono ?_
  rintro e w' ⟨rfl, rfl⟩
  rw [hq]
  go_wp2_with fail
  go_ret
  exact ⟨rfl, (((Below.refl _ _).alloc (Nat.le_refl _) _).alloc (by simp) _).drew⟩

set_option maxRecDepth 100000 in
set_option maxHeartbeats 1600000 in
theorem right_8 (P i n nc b off : Nat) (ao : Value) (given a bb nx : Int) (w : World) : RightAt P i n nc b off ao given 8 a bb nx w (inR a i) := by
  intro hin h0 h1 n0 n1 n2 n3
  have hPl := cell_lt h0
  have hbl := cell_lt n0
  simp only at hPl hbl
  have h0 := fun o o' => cell_alloc (cell_alloc h0 o) o'
  have h1a := fun o => cell_alloc h1 o
  have h1 := fun o o' => cell_alloc (cell_alloc h1 o) o'
  have n0 := fun o => cell_alloc n0 o
  have n1 := fun o => cell_alloc n1 o
  have n2 := fun o => cell_alloc n2 o
  have n3 := fun o => cell_alloc n3 o
  have hmf : ∀ (fn : Fn) (first cap : Array Value) (w : World), (Instr.makeFunc fn first cap).run Try.prog w = .ok (.func fn first cap) w := fun _ _ _ _ => rfl
  go_enter Try.func31, Try.ntmps31
  go_wp2_with fail
  go_region
  go_wp2_with fail
  refine (aheadR_at _ i w.heap.size _ (by go_simp)).mono ?_
  rintro e w' ⟨rfl, rfl⟩
  go_wp2_with fail
  go_ret
  exact ⟨rfl, (((Below.refl _ _).alloc (Nat.le_refl _) _).alloc (by simp) _).drew⟩

set_option maxRecDepth 100000 in
set_option maxHeartbeats 1600000 in
theorem right_no (P i n nc b off : Nat) (ao : Value) (given op a bb nx : Int) (w : World) (hop : ∀ k : Int, 1 ≤ k → k ≤ 8 → (op == k) = false) : RightAt P i n nc b off ao given op a bb nx w false := by
  intro hin h0 h1 n0 n1 n2 n3
  have hPl := cell_lt h0
  have hbl := cell_lt n0
  simp only at hPl hbl
  have h0 := fun o o' => cell_alloc (cell_alloc h0 o) o'
  have h1a := fun o => cell_alloc h1 o
  have h1 := fun o o' => cell_alloc (cell_alloc h1 o) o'
  have n0 := fun o => cell_alloc n0 o
  have n1 := fun o => cell_alloc n1 o
  have n2 := fun o => cell_alloc n2 o
  have n3 := fun o => cell_alloc n3 o
  have hmf : ∀ (fn : Fn) (first cap : Array Value) (w : World), (Instr.makeFunc fn first cap).run Try.prog w = .ok (.func fn first cap) w := fun _ _ _ _ => rfl
  have q1 := hop 1 (by decide) (by decide)
  have q2 := hop 2 (by decide) (by decide)
  have q3 := hop 3 (by decide) (by decide)
  have q4 := hop 4 (by decide) (by decide)
  have q5 := hop 5 (by decide) (by decide)
  have q6 := hop 6 (by decide) (by decide)
  have q7 := hop 7 (by decide) (by decide)
  have q8 := hop 8 (by decide) (by decide)
  clear hop
  go_enter Try.func31, Try.ntmps31
  go_wp2_with fail
  go_region
  go_wp2_with fail
  go_ret
  exact ⟨rfl, (((Below.refl _ _).alloc (Nat.le_refl _) _).alloc (by simp) _).drew⟩
end Go.Proofs.Ytacgepdmhdcdkaa
set_option linter.unusedSimpArgs false
set_option linter.unusedVariables false
namespace Go.Proofs.Ytacgepdmhdcdkaa
open Go.RowKit

theorem right_any {s : NetP} {S : Nat → Prop} {w : World} {given : Int} {ns : List Nd} {os : List Int} (h : NetAt s S w given ns os) (i : Nat) (hi : i < ns.length) :
    Calls Try.prog 31 #[.pointer (some ⟨s.p, 0, none⟩), .int .i64 i] w fun e w' => e = .returned (.bool (rightN given ns.length i (ndAt ns i))) ∧ Below w.heap.size w w' := by
  obtain ⟨b, off, ha, _, _, n0, n1, n2, n3⟩ := h.nodes.nodes hi
  have c0 := h.c0
  have c1 := h.c1
  rw [ha] at c1
  have hii : (i : Int) < (ns.length : Int) := by omega
  generalize ndAt ns i = x at *
  obtain ⟨op, a, bb, nx⟩ := x
  simp only at n0 n1 n2 n3
  by_cases h1 : op = 1
  · subst h1; exact right_1 _ _ _ _ _ _ .nilIface _ _ _ _ _ hii c0 c1 n0 n1 n2 n3
  by_cases h2 : op = 2
  · subst h2; exact right_2 _ _ _ _ _ _ .nilIface _ _ _ _ _ hii c0 c1 n0 n1 n2 n3
  by_cases h3 : op = 3
  · subst h3; exact right_3 _ _ _ _ _ _ .nilIface _ _ _ _ _ hii c0 c1 n0 n1 n2 n3
  by_cases h4 : op = 4
  · subst h4
    cases hq : inR a 2 with
    | true => have := right_4t _ _ _ _ _ _ .nilIface _ _ _ _ _ hq hii c0 c1 n0 n1 n2 n3; simpa [rightN, hq] using this
    | false => have := right_4f _ _ _ _ _ _ .nilIface _ _ _ _ _ hq hii c0 c1 n0 n1 n2 n3; simpa [rightN, hq] using this
  by_cases h5 : op = 5
  · subst h5
    cases hq : inR a i with
    | true => have := right_5t _ _ _ _ _ _ .nilIface _ _ _ _ _ hq hii c0 c1 n0 n1 n2 n3; simpa [rightN, hq] using this
    | false => have := right_5f _ _ _ _ _ _ .nilIface _ _ _ _ _ hq hii c0 c1 n0 n1 n2 n3; simpa [rightN, hq] using this
  by_cases h6 : op = 6
  · subst h6
    cases hq : inR a i with
    | true => have := right_6t _ _ _ _ _ _ .nilIface _ _ _ _ _ hq hii c0 c1 n0 n1 n2 n3; simpa [rightN, hq] using this
    | false => have := right_6f _ _ _ _ _ _ .nilIface _ _ _ _ _ hq hii c0 c1 n0 n1 n2 n3; simpa [rightN, hq] using this
  by_cases h7 : op = 7
  · subst h7
    cases hq : inR a i with
    | true => have := right_7t _ _ _ _ _ _ .nilIface _ _ _ _ _ hq hii c0 c1 n0 n1 n2 n3; simpa [rightN, hq] using this
    | false => have := right_7f _ _ _ _ _ _ .nilIface _ _ _ _ _ hq hii c0 c1 n0 n1 n2 n3; simpa [rightN, hq] using this
  by_cases h8 : op = 8
  · subst h8; exact right_8 _ _ _ _ _ _ .nilIface _ _ _ _ _ hii c0 c1 n0 n1 n2 n3
  · have hn : rightN given ns.length i ⟨op, a, bb, nx⟩ = false := by simp [rightN, h1, h2, h3, h4, h5, h6, h7, h8]
    rw [hn]
    refine right_no _ _ _ _ _ _ .nilIface _ _ _ _ _ _ ?_ hii c0 c1 n0 n1 n2 n3
    intro k k1 k8
    rw [beq_eq_false_iff_ne]
    omega

set_option maxRecDepth 100000 in
set_option maxHeartbeats 3200000 in
theorem Right_off {s : NetP} {S : Nat → Prop} {w : World} {given : Int} {ns : List Nd} {os : List Int} (h : NetAt s S w given ns os) (hn : (ns.length : Int) ≤ 20000) (ho : (os.length : Int) ≤ 20000) (hg : given < 0 ∨ 20000 < given) :
    Calls Try.prog 23 #[.pointer (some ⟨s.p, 0, none⟩)] w fun e w' => e = .returned (.bool false) ∧ Below w.heap.size w w' := by
  have c0 := h.c0
  have c1 := h.c1
  have c2 := h.c2
  clear h
  rcases hg with hg | hg
  · go_enter Try.func23, Try.ntmps23
    go_wp2_with fail
    go_ret
    exact ⟨rfl, Below.refl _ _⟩
  · have hg2 : ¬ given < 0 := by omega
    go_enter Try.func23, Try.ntmps23
    go_wp2_with fail
    go_ret
    exact ⟨rfl, Below.refl _ _⟩

set_option maxRecDepth 100000 in
set_option maxHeartbeats 3200000 in
theorem Right_on {s : NetP} {S : Nat → Prop} {w : World} {given : Int} {ns : List Nd} {os : List Int} (h : NetAt s S w given ns os) (hn : (ns.length : Int) ≤ 20000) (ho : (os.length : Int) ≤ 20000) (hg0 : 0 ≤ given) (hg1 : given ≤ 20000) :
    Calls Try.prog 23 #[.pointer (some ⟨s.p, 0, none⟩)] w fun e w' => e = .returned (.bool (nodesTo given ns ns.length && outsTo ns.length os os.length)) ∧ Below w.heap.size w w' := by
  have c0 := h.c0
  have c1 := h.c1
  have c2 := h.c2
  have H := hide h
  clear h
  go_enter Try.func23, Try.ntmps23
  go_wp2_with fail
  go_loopw [3, 43] (fun _ i wr => ∃ k : Nat, k ≤ ns.length ∧ i = .int .i64 k ∧ Hid (Below w.heap.size w wr) ∧ Hid (nodesTo given ns k = true)) (fun _ i _ => ns.length - (intOf i).toNat)
  case atStart => exact ⟨0, Nat.zero_le _, rfl, hide (Below.refl _ _), hide rfl⟩
  case round =>
    obtain ⟨k, hk, rfl, hb, hno⟩ := hrel
    by_cases hlt : k < ns.length
    · have hki : (k : Int) < (ns.length : Int) := by omega
      have HC := hide (right_any (H.out.below hb.out) k hlt)
      cases hr : rightN given ns.length k (ndAt ns k) with
      | true =>
        rw [hr] at HC
        have HT : Hid (nodesTo given ns (k + 1) = true) := hide (by simp only [nodesTo, hr, hno.out]; rfl)
        clear hr
        go_wp2_with fail
        refine HC.out.mono ?_
        rintro e w4 ⟨rfl, hb4⟩
        have HB4 := hide (Below.step hb.out hb4)
        clear hb4
        go_wp2_with fail
        exact ⟨⟨k + 1, by omega, by go_num, HB4, HT⟩, by simp [intOf]; omega⟩
      | false =>
        rw [hr] at HC
        have HT : Hid ((nodesTo given ns ns.length && outsTo ns.length os os.length) = false) := hide (by
          cases hq : nodesTo given ns ns.length with
          | false => rfl
          | true => rw [nodesTo_at hq k hlt] at hr; cases hr)
        clear hr
        go_wp2_with fail
        refine HC.out.mono ?_
        rintro e w4 ⟨rfl, hb4⟩
        have HB4 := hide (Below.step hb.out hb4)
        clear hb4
        go_wp2_with fail
        go_ret
        exact ⟨ret_bool HT.out.symm, HB4.out⟩
    · have HJ : Hid (nodesTo given ns ns.length = true) := hide (by have e : k = ns.length := by omega
                                                                    have := hno.out
                                                                    rwa [e] at this)
      have HR := hide (H.out.below hb.out)
      have c0 := HR.out.c0
      have c1 := HR.out.c1
      have c2 := HR.out.c2
      go_wp2_with fail
      clear hno
      go_loop [5, 56] (fun _ i => ∃ k : Nat, k ≤ os.length ∧ i = .int .i64 k ∧ Hid (outsTo ns.length os k = true)) (fun _ i => os.length - (intOf i).toNat)
      case atStart => exact ⟨0, Nat.zero_le _, rfl, hide rfl⟩
      case round =>
        obtain ⟨q, hq, rfl, hno⟩ := hrel
        by_cases hlt2 : q < os.length
        · have hki : (q : Int) < (os.length : Int) := by omega
          obtain ⟨b, off, ha, _, _, n0⟩ := HR.out.outs.ints hlt2
          have HA := hide ha
          rw [ha] at c2
          rw [HA.out]
          clear ha
          cases hr : inR (outAt os q) ns.length with
          | true =>
            have HT : Hid (outsTo ns.length os (q + 1) = true) := hide (by simp only [outsTo, hr, hno.out]; rfl)
            have HC := hide (below_is _ _ _ hr wr)
            clear hr
            go_wp2_with fail
            refine HC.out.mono ?_
            rintro e w5 ⟨rfl, rfl⟩
            go_wp2_with fail
            exact ⟨⟨q + 1, by omega, by go_num, HT⟩, by simp [intOf]; omega⟩
          | false =>
            have HT : Hid ((nodesTo given ns ns.length && outsTo ns.length os os.length) = false) := hide (by
              cases hq : outsTo ns.length os os.length with
              | false => exact Bool.and_false _
              | true => rw [outsTo_at hq q hlt2] at hr; cases hr)
            have HC := hide (below_is _ _ _ hr wr)
            clear hr
            go_wp2_with fail
            refine HC.out.mono ?_
            rintro e w5 ⟨rfl, rfl⟩
            go_wp2_with fail
            go_ret
            exact ⟨ret_bool HT.out.symm, hb.out⟩
        · have HT : Hid ((nodesTo given ns ns.length && outsTo ns.length os os.length) = true) := hide (by
            have e : q = os.length := by omega
            have := hno.out
            rw [e] at this
            rw [HJ.out, this]; rfl)
          go_wp2_with fail
          go_ret
          exact ⟨ret_bool HT.out.symm, hb.out⟩

theorem Right_at {s : NetP} {S : Nat → Prop} {w : World} {given : Int} {ns : List Nd} {os : List Int} (h : NetAt s S w given ns os) (hn : ns.length ≤ 20000) (ho : os.length ≤ 20000) :
    Calls Try.prog 23 #[.pointer (some ⟨s.p, 0, none⟩)] w fun e w' => e = .returned (.bool (rightP given ns os)) ∧ Below w.heap.size w w' := by
  by_cases hg : 0 ≤ given ∧ given ≤ 20000
  · have := Right_on h (by omega) (by omega) hg.1 hg.2
    simpa [rightP, sizesR, hg, hn, ho] using this
  · have := Right_off h (by omega) (by omega) (by omega)
    have e : rightP given ns os = false := by
      cases hq : rightP given ns os with
      | false => rfl
      | true => have := rightP_iff.1 hq; exact absurd ⟨this.g0, this.g1⟩ hg
    rw [e]; exact this

end Go.Proofs.Ytacgepdmhdcdkaa
