/-
  CONTRACT of Right.
-/
import Derived.Test.YtacgepdmhdcdkaaLRight
import Derived.Deep.RegionHeld3
set_option linter.unusedSimpArgs false
set_option linter.unusedVariables false
namespace Go.Proofs.Ytacgepdmhdcdkaa
open Go.RowKit

theorem Below.step' {a b c : World} (h : Below a.heap.size a b) (k : Below b.heap.size b c) : Below a.heap.size a c := Below.step h k
theorem run_max4 {P : Program} (ts : Array TypeId) (t : TypeId) (x y z u : Int) (w : World) : (Builtin.max_ ts t #[.int .i64 x, .int .i64 y, .int .i64 z, .int .i64 u]).run P w = .ok (.int .i64 (max (max (max x y) z) u)) w := by
  have e : ∀ a b : Int, (if b > a then b else a) = max a b := fun a b => by split <;> omega
  simp [Builtin.max_, Builtin.max2, e]

set_option maxRecDepth 100000 in
set_option maxHeartbeats 3200000 in
theorem LRight_off {s : NetQ} {S : Nat → Prop} {w : World} {given : Int} {rs : List Rg} {ls : List Lt} {os : List Int} (h : NetT s S w given rs ls os) (hr : (rs.length : Int) ≤ 20000) (hn : (ls.length : Int) ≤ 20000) (ho : (os.length : Int) ≤ 20000) (hg : given < 0 ∨ 20000 < given) :
    Calls Try.prog 7 #[.pointer (some ⟨s.p, 0, none⟩)] w fun e w' => e = .returned (.bool false) ∧ Below w.heap.size w w' := by
  have hpl := blk_lt h.me
  have c0 := fun o => cell_alloc h.c0 o
  have c1 := fun o => cell_alloc h.c1 o
  have c2 := fun o => cell_alloc h.c2 o
  have c3 := fun o => cell_alloc h.c3 o
  have HB := hide (below_alloc w (.cells #[.pointer (some ⟨s.p, 0, none⟩)] 35))
  clear h
  rcases hg with hg | hg
  · go_enter Try.func7, Try.ntmps7
    go_wp2_with fail
    go_quiet (fail)
    go_wp2_with fail
    go_ret
    exact ⟨rfl, Below.drewNs HB.out _⟩
  · have hg2 : ¬ given < 0 := by omega
    have hmx := fun W => run_max4 (P := Try.prog) #[3, 3, 3, 3] 3 given rs.length ls.length os.length W
    have hm : 20000 < max (max (max given (rs.length : Int)) (ls.length : Int)) (os.length : Int) := by omega
    generalize max (max (max given (rs.length : Int)) (ls.length : Int)) (os.length : Int) = M at *
    have HS : Hid ((w.alloc (.cells #[.pointer (some ⟨s.p, 0, none⟩)] 35)).drew.cell? ⟨w.heap.size, 0, none⟩ = some (.pointer (some ⟨s.p, 0, none⟩)) ∧ (w.alloc (.cells #[.pointer (some ⟨s.p, 0, none⟩)] 35)).drew.cell? ⟨s.p, 0, none⟩ = some (.int .i64 given) ∧ (w.alloc (.cells #[.pointer (some ⟨s.p, 0, none⟩)] 35)).drew.cell? ⟨s.p, 1, none⟩ = some (.slice s.ra rs.length s.rc) ∧ (w.alloc (.cells #[.pointer (some ⟨s.p, 0, none⟩)] 35)).drew.cell? ⟨s.p, 2, none⟩ = some (.slice s.la ls.length s.lc) ∧ (w.alloc (.cells #[.pointer (some ⟨s.p, 0, none⟩)] 35)).drew.cell? ⟨s.p, 3, none⟩ = some (.slice s.oa os.length s.oc)) := hide ⟨by go_simp, c0 _, c1 _, c2 _, c3 _⟩
    have HBD := hide HB.out.drew
    clear c0 c1 c2 c3 HB
    go_enter Try.func7, Try.ntmps7
    go_wp2_with fail
    refine wp_region_held_drew (S := fun W => W.cell? ⟨w.heap.size, 0, none⟩ = some (.pointer (some ⟨s.p, 0, none⟩)) ∧ W.cell? ⟨s.p, 0, none⟩ = some (.int .i64 given) ∧ W.cell? ⟨s.p, 1, none⟩ = some (.slice s.ra rs.length s.rc) ∧ W.cell? ⟨s.p, 2, none⟩ = some (.slice s.la ls.length s.lc) ∧ W.cell? ⟨s.p, 3, none⟩ = some (.slice s.oa os.length s.oc)) (by kernel_rfl) HS.out (fun _ => ?_)
    generalize (w.alloc (.cells #[.pointer (some ⟨s.p, 0, none⟩)] 35)).drew = wd at *
    refine wpAnyH_take (i := 0) (oi := ⟨some 10, _, _, _, _, _⟩) (v := (.pointer (some ⟨s.p, 0, none⟩))) rfl (by kernel_rfl) (by kernel_rfl) (by kernel_rfl) (fun _ _ _ h => h) (Or.inl ⟨by rfl, fun W hS => by (obtain ⟨s0, s1, s2, s3, s4⟩ := hS; go_simp)⟩) HS.out ?_
    simp only [Act.put, List.setIfInBounds_toArray, List.set_cons_zero, List.set_cons_succ]
    refine wpAnyH_take (i := 1) (oi := ⟨some 11, _, _, _, _, _⟩) (v := (.bool false)) rfl (by kernel_rfl) (by kernel_rfl) (by kernel_rfl) (fun _ _ _ h => h) (Or.inl ⟨by rfl, fun W hS => by (obtain ⟨s0, s1, s2, s3, s4⟩ := hS; go_simp)⟩) HS.out ?_
    simp only [Act.put, List.setIfInBounds_toArray, List.set_cons_zero, List.set_cons_succ]
    refine wpAnyH_take (i := 2) (oi := ⟨some 12, _, _, _, _, _⟩) (v := (.bool false)) rfl (by kernel_rfl) (by kernel_rfl) (by kernel_rfl) (fun _ _ _ h => h) (Or.inl ⟨by rfl, fun W hS => by (obtain ⟨s0, s1, s2, s3, s4⟩ := hS; go_simp)⟩) HS.out ?_
    simp only [Act.put, List.setIfInBounds_toArray, List.set_cons_zero, List.set_cons_succ]
    refine wpAnyH_take (i := 3) (oi := ⟨some 13, _, _, _, _, _⟩) (v := (.pointer (some ⟨s.p, 0, none⟩))) rfl (by kernel_rfl) (by kernel_rfl) (by kernel_rfl) (fun _ _ _ h => h) (Or.inl ⟨by rfl, fun W hS => by (obtain ⟨s0, s1, s2, s3, s4⟩ := hS; go_simp)⟩) HS.out ?_
    simp only [Act.put, List.setIfInBounds_toArray, List.set_cons_zero, List.set_cons_succ]
    refine wpAnyH_take (i := 4) (oi := ⟨some 14, _, _, _, _, _⟩) (v := (.pointer (some ⟨s.p, 0, none⟩))) rfl (by kernel_rfl) (by kernel_rfl) (by kernel_rfl) (fun _ _ _ h => h) (Or.inl ⟨by rfl, fun W hS => by (obtain ⟨s0, s1, s2, s3, s4⟩ := hS; go_simp)⟩) HS.out ?_
    simp only [Act.put, List.setIfInBounds_toArray, List.set_cons_zero, List.set_cons_succ]
    refine wpAnyH_take (i := 5) (oi := ⟨some 15, _, _, _, _, _⟩) (v := (.pointer (some ⟨s.p, 0, none⟩))) rfl (by kernel_rfl) (by kernel_rfl) (by kernel_rfl) (fun _ _ _ h => h) (Or.inl ⟨by rfl, fun W hS => by (obtain ⟨s0, s1, s2, s3, s4⟩ := hS; go_simp)⟩) HS.out ?_
    simp only [Act.put, List.setIfInBounds_toArray, List.set_cons_zero, List.set_cons_succ]
    refine wpAnyH_take (i := 6) (oi := ⟨some 16, _, _, _, _, _⟩) (v := (.int .i64 given)) rfl (by kernel_rfl) (by kernel_rfl) (by kernel_rfl) (fun _ _ _ h => h) (Or.inl ⟨by rfl, fun W hS => by (obtain ⟨s0, s1, s2, s3, s4⟩ := hS; go_simp)⟩) HS.out ?_
    simp only [Act.put, List.setIfInBounds_toArray, List.set_cons_zero, List.set_cons_succ]
    refine wpAnyH_take (i := 7) (oi := ⟨some 17, _, _, _, _, _⟩) (v := (.bool false)) rfl (by kernel_rfl) (by kernel_rfl) (by kernel_rfl) (fun _ _ _ h => h) (Or.inl ⟨by rfl, fun W hS => by (obtain ⟨s0, s1, s2, s3, s4⟩ := hS; go_simp)⟩) HS.out ?_
    simp only [Act.put, List.setIfInBounds_toArray, List.set_cons_zero, List.set_cons_succ]
    refine wpAnyH_take (i := 8) (oi := ⟨some 18, _, _, _, _, _⟩) (v := (.bool false)) rfl (by kernel_rfl) (by kernel_rfl) (by kernel_rfl) (fun _ _ _ h => h) (Or.inl ⟨by rfl, fun W hS => by (obtain ⟨s0, s1, s2, s3, s4⟩ := hS; go_simp)⟩) HS.out ?_
    simp only [Act.put, List.setIfInBounds_toArray, List.set_cons_zero, List.set_cons_succ]
    refine wpAnyH_take (i := 9) (oi := ⟨some 19, _, _, _, _, _⟩) (v := (.bool false)) rfl (by kernel_rfl) (by kernel_rfl) (by kernel_rfl) (fun _ _ _ h => h) (Or.inl ⟨by rfl, fun W hS => by (obtain ⟨s0, s1, s2, s3, s4⟩ := hS; go_simp)⟩) HS.out ?_
    simp only [Act.put, List.setIfInBounds_toArray, List.set_cons_zero, List.set_cons_succ]
    refine wpAnyH_take (i := 10) (oi := ⟨some 20, _, _, _, _, _⟩) (v := (.pointer (some ⟨s.p, 0, none⟩))) rfl (by kernel_rfl) (by kernel_rfl) (by kernel_rfl) (fun _ _ _ h => h) (Or.inl ⟨by rfl, fun W hS => by (obtain ⟨s0, s1, s2, s3, s4⟩ := hS; go_simp)⟩) HS.out ?_
    simp only [Act.put, List.setIfInBounds_toArray, List.set_cons_zero, List.set_cons_succ]
    refine wpAnyH_take (i := 11) (oi := ⟨some 21, _, _, _, _, _⟩) (v := (.pointer (some ⟨s.p, 0, none⟩))) rfl (by kernel_rfl) (by kernel_rfl) (by kernel_rfl) (fun _ _ _ h => h) (Or.inl ⟨by rfl, fun W hS => by (obtain ⟨s0, s1, s2, s3, s4⟩ := hS; go_simp)⟩) HS.out ?_
    simp only [Act.put, List.setIfInBounds_toArray, List.set_cons_zero, List.set_cons_succ]
    refine wpAnyH_take (i := 12) (oi := ⟨some 22, _, _, _, _, _⟩) (v := (.pointer (some ⟨s.p, 0, none⟩))) rfl (by kernel_rfl) (by kernel_rfl) (by kernel_rfl) (fun _ _ _ h => h) (Or.inl ⟨by rfl, fun W hS => by (obtain ⟨s0, s1, s2, s3, s4⟩ := hS; go_simp)⟩) HS.out ?_
    simp only [Act.put, List.setIfInBounds_toArray, List.set_cons_zero, List.set_cons_succ]
    refine wpAnyH_take (i := 13) (oi := ⟨some 23, _, _, _, _, _⟩) (v := (.int .i64 given)) rfl (by kernel_rfl) (by kernel_rfl) (by kernel_rfl) (fun _ _ _ h => h) (Or.inl ⟨by rfl, fun W hS => by (obtain ⟨s0, s1, s2, s3, s4⟩ := hS; go_simp)⟩) HS.out ?_
    simp only [Act.put, List.setIfInBounds_toArray, List.set_cons_zero, List.set_cons_succ]
    refine wpAnyH_take (i := 14) (oi := ⟨some 24, _, _, _, _, _⟩) (v := (.pointer (some ⟨s.p, 0, none⟩))) rfl (by kernel_rfl) (by kernel_rfl) (by kernel_rfl) (fun _ _ _ h => h) (Or.inl ⟨by rfl, fun W hS => by (obtain ⟨s0, s1, s2, s3, s4⟩ := hS; go_simp)⟩) HS.out ?_
    simp only [Act.put, List.setIfInBounds_toArray, List.set_cons_zero, List.set_cons_succ]
    refine wpAnyH_take (i := 15) (oi := ⟨some 25, _, _, _, _, _⟩) (v := (.pointer (some ⟨s.p, 0, none⟩))) rfl (by kernel_rfl) (by kernel_rfl) (by kernel_rfl) (fun _ _ _ h => h) (Or.inl ⟨by rfl, fun W hS => by (obtain ⟨s0, s1, s2, s3, s4⟩ := hS; go_simp)⟩) HS.out ?_
    simp only [Act.put, List.setIfInBounds_toArray, List.set_cons_zero, List.set_cons_succ]
    refine wpAnyH_take (i := 16) (oi := ⟨some 26, _, _, _, _, _⟩) (v := (.pointer (some ⟨s.p, 1, none⟩))) rfl (by kernel_rfl) (by kernel_rfl) (by kernel_rfl) (fun _ _ _ h => h) (Or.inl ⟨by rfl, fun W hS => by (obtain ⟨s0, s1, s2, s3, s4⟩ := hS; go_simp)⟩) HS.out ?_
    simp only [Act.put, List.setIfInBounds_toArray, List.set_cons_zero, List.set_cons_succ]
    refine wpAnyH_take (i := 17) (oi := ⟨some 27, _, _, _, _, _⟩) (v := (.slice s.ra rs.length s.rc)) rfl (by kernel_rfl) (by kernel_rfl) (by kernel_rfl) (fun _ _ _ h => h) (Or.inl ⟨by rfl, fun W hS => by (obtain ⟨s0, s1, s2, s3, s4⟩ := hS; go_simp)⟩) HS.out ?_
    simp only [Act.put, List.setIfInBounds_toArray, List.set_cons_zero, List.set_cons_succ]
    refine wpAnyH_take (i := 18) (oi := ⟨some 28, _, _, _, _, _⟩) (v := (.int .i64 rs.length)) rfl (by kernel_rfl) (by kernel_rfl) (by kernel_rfl) (fun _ _ _ h => h) (Or.inl ⟨by rfl, fun W hS => by (obtain ⟨s0, s1, s2, s3, s4⟩ := hS; go_simp)⟩) HS.out ?_
    simp only [Act.put, List.setIfInBounds_toArray, List.set_cons_zero, List.set_cons_succ]
    refine wpAnyH_take (i := 19) (oi := ⟨some 29, _, _, _, _, _⟩) (v := (.pointer (some ⟨s.p, 0, none⟩))) rfl (by kernel_rfl) (by kernel_rfl) (by kernel_rfl) (fun _ _ _ h => h) (Or.inl ⟨by rfl, fun W hS => by (obtain ⟨s0, s1, s2, s3, s4⟩ := hS; go_simp)⟩) HS.out ?_
    simp only [Act.put, List.setIfInBounds_toArray, List.set_cons_zero, List.set_cons_succ]
    refine wpAnyH_take (i := 20) (oi := ⟨some 30, _, _, _, _, _⟩) (v := (.pointer (some ⟨s.p, 0, none⟩))) rfl (by kernel_rfl) (by kernel_rfl) (by kernel_rfl) (fun _ _ _ h => h) (Or.inl ⟨by rfl, fun W hS => by (obtain ⟨s0, s1, s2, s3, s4⟩ := hS; go_simp)⟩) HS.out ?_
    simp only [Act.put, List.setIfInBounds_toArray, List.set_cons_zero, List.set_cons_succ]
    refine wpAnyH_take (i := 21) (oi := ⟨some 31, _, _, _, _, _⟩) (v := (.pointer (some ⟨s.p, 2, none⟩))) rfl (by kernel_rfl) (by kernel_rfl) (by kernel_rfl) (fun _ _ _ h => h) (Or.inl ⟨by rfl, fun W hS => by (obtain ⟨s0, s1, s2, s3, s4⟩ := hS; go_simp)⟩) HS.out ?_
    simp only [Act.put, List.setIfInBounds_toArray, List.set_cons_zero, List.set_cons_succ]
    refine wpAnyH_take (i := 22) (oi := ⟨some 32, _, _, _, _, _⟩) (v := (.slice s.la ls.length s.lc)) rfl (by kernel_rfl) (by kernel_rfl) (by kernel_rfl) (fun _ _ _ h => h) (Or.inl ⟨by rfl, fun W hS => by (obtain ⟨s0, s1, s2, s3, s4⟩ := hS; go_simp)⟩) HS.out ?_
    simp only [Act.put, List.setIfInBounds_toArray, List.set_cons_zero, List.set_cons_succ]
    refine wpAnyH_take (i := 23) (oi := ⟨some 33, _, _, _, _, _⟩) (v := (.int .i64 ls.length)) rfl (by kernel_rfl) (by kernel_rfl) (by kernel_rfl) (fun _ _ _ h => h) (Or.inl ⟨by rfl, fun W hS => by (obtain ⟨s0, s1, s2, s3, s4⟩ := hS; go_simp)⟩) HS.out ?_
    simp only [Act.put, List.setIfInBounds_toArray, List.set_cons_zero, List.set_cons_succ]
    refine wpAnyH_take (i := 24) (oi := ⟨some 34, _, _, _, _, _⟩) (v := (.pointer (some ⟨s.p, 0, none⟩))) rfl (by kernel_rfl) (by kernel_rfl) (by kernel_rfl) (fun _ _ _ h => h) (Or.inl ⟨by rfl, fun W hS => by (obtain ⟨s0, s1, s2, s3, s4⟩ := hS; go_simp)⟩) HS.out ?_
    simp only [Act.put, List.setIfInBounds_toArray, List.set_cons_zero, List.set_cons_succ]
    refine wpAnyH_take (i := 25) (oi := ⟨some 35, _, _, _, _, _⟩) (v := (.pointer (some ⟨s.p, 0, none⟩))) rfl (by kernel_rfl) (by kernel_rfl) (by kernel_rfl) (fun _ _ _ h => h) (Or.inl ⟨by rfl, fun W hS => by (obtain ⟨s0, s1, s2, s3, s4⟩ := hS; go_simp)⟩) HS.out ?_
    simp only [Act.put, List.setIfInBounds_toArray, List.set_cons_zero, List.set_cons_succ]
    refine wpAnyH_take (i := 26) (oi := ⟨some 36, _, _, _, _, _⟩) (v := (.pointer (some ⟨s.p, 3, none⟩))) rfl (by kernel_rfl) (by kernel_rfl) (by kernel_rfl) (fun _ _ _ h => h) (Or.inl ⟨by rfl, fun W hS => by (obtain ⟨s0, s1, s2, s3, s4⟩ := hS; go_simp)⟩) HS.out ?_
    simp only [Act.put, List.setIfInBounds_toArray, List.set_cons_zero, List.set_cons_succ]
    refine wpAnyH_take (i := 27) (oi := ⟨some 37, _, _, _, _, _⟩) (v := (.slice s.oa os.length s.oc)) rfl (by kernel_rfl) (by kernel_rfl) (by kernel_rfl) (fun _ _ _ h => h) (Or.inl ⟨by rfl, fun W hS => by (obtain ⟨s0, s1, s2, s3, s4⟩ := hS; go_simp)⟩) HS.out ?_
    simp only [Act.put, List.setIfInBounds_toArray, List.set_cons_zero, List.set_cons_succ]
    refine wpAnyH_take (i := 28) (oi := ⟨some 38, _, _, _, _, _⟩) (v := (.int .i64 os.length)) rfl (by kernel_rfl) (by kernel_rfl) (by kernel_rfl) (fun _ _ _ h => h) (Or.inl ⟨by rfl, fun W hS => by (obtain ⟨s0, s1, s2, s3, s4⟩ := hS; go_simp)⟩) HS.out ?_
    simp only [Act.put, List.setIfInBounds_toArray, List.set_cons_zero, List.set_cons_succ]
    refine wpAnyH_ready (rs := [29]) (by kernel_rfl) (by simp) ?_
    refine AllReadyH.cons rfl (fun K hK => ?_) AllReadyH.nil
    go_simp
    refine hK.out _ _ HS.out (fun _ => ?_)
    clear hK K
    refine wpAnyH_take (i := 30) (oi := ⟨some 40, _, _, _, _, _⟩) (v := (.bool true)) rfl (by kernel_rfl) (by kernel_rfl) (by kernel_rfl) (fun _ _ _ h => h) (Or.inl ⟨by rfl, fun W hS => by (obtain ⟨s0, s1, s2, s3, s4⟩ := hS; go_simp)⟩) HS.out ?_
    simp only [Act.put, List.setIfInBounds_toArray, List.set_cons_zero, List.set_cons_succ]
    refine wpAnyH_take (i := 31) (oi := ⟨some 41, _, _, _, _, _⟩) (v := (.bool true)) rfl (by kernel_rfl) (by kernel_rfl) (by kernel_rfl) (fun _ _ _ h => h) (Or.inl ⟨by rfl, fun W hS => by (obtain ⟨s0, s1, s2, s3, s4⟩ := hS; go_simp)⟩) HS.out ?_
    simp only [Act.put, List.setIfInBounds_toArray, List.set_cons_zero, List.set_cons_succ]
    refine wpAnyH_done (by kernel_rfl) ?_ _
    go_wp2_with fail
    go_ret
    exact ⟨rfl, HBD.out⟩

set_option maxRecDepth 100000 in
set_option maxHeartbeats 6400000 in
theorem LRight_on {s : NetQ} {S : Nat → Prop} {w : World} {gn : Nat} {rs : List Rg} {ls : List Lt} {os : List Int} (h : NetT s S w gn rs ls os) (hr : (rs.length : Int) ≤ 20000) (hn : (ls.length : Int) ≤ 20000) (ho : (os.length : Int) ≤ 20000) (hg : (gn : Int) ≤ 20000) :
    Calls Try.prog 7 #[.pointer (some ⟨s.p, 0, none⟩)] w fun e w' => e = .returned (.bool (bodyT (gn + rs.length) rs ls os)) ∧ Below w.heap.size w w' := by
  have hpl := blk_lt h.me
  have H := hide h
  have HB := hide (below_alloc w (.cells #[.pointer (some ⟨s.p, 0, none⟩)] 35))
  have hg2 : ¬ (gn : Int) < 0 := by omega
  have hmx := fun W => run_max4 (P := Try.prog) #[3, 3, 3, 3] 3 gn rs.length ls.length os.length W
  have hm : ¬ 20000 < max (max (max (gn : Int) (rs.length : Int)) (ls.length : Int)) (os.length : Int) := by omega
  generalize max (max (max (gn : Int) (rs.length : Int)) (ls.length : Int)) (os.length : Int) = M at *
  have hmf : ∀ (fn : Fn) (first cap : Array Value) (w : World), (Instr.makeFunc fn first cap).run Try.prog w = .ok (.func fn first cap) w := fun _ _ _ _ => rfl
  have HBD := hide HB.out.drew
  have HX : Hid ((w.alloc (.cells #[.pointer (some ⟨s.p, 0, none⟩)] 35)).drew.cell? ⟨w.heap.size, 0, none⟩ = some (.pointer (some ⟨s.p, 0, none⟩))) := hide (by go_simp)
  have HS := hide (And.intro HX.out (And.intro (h.below HBD.out).c0 (And.intro (h.below HBD.out).c1 (And.intro (h.below HBD.out).c2 (h.below HBD.out).c3))))
  clear h HB
  go_enter Try.func7, Try.ntmps7
  go_wp2_with fail
  refine wp_region_held_drew (S := fun W => W.cell? ⟨w.heap.size, 0, none⟩ = some (.pointer (some ⟨s.p, 0, none⟩)) ∧ W.cell? ⟨s.p, 0, none⟩ = some (.int .i64 gn) ∧ W.cell? ⟨s.p, 1, none⟩ = some (.slice s.ra rs.length s.rc) ∧ W.cell? ⟨s.p, 2, none⟩ = some (.slice s.la ls.length s.lc) ∧ W.cell? ⟨s.p, 3, none⟩ = some (.slice s.oa os.length s.oc)) (by kernel_rfl) HS.out (fun _ => ?_)
  generalize (w.alloc (.cells #[.pointer (some ⟨s.p, 0, none⟩)] 35)).drew = wd at *
  refine wpAnyH_take (i := 0) (oi := ⟨some 10, _, _, _, _, _⟩) (v := (.pointer (some ⟨s.p, 0, none⟩))) rfl (by kernel_rfl) (by kernel_rfl) (by kernel_rfl) (fun _ _ _ h => h) (Or.inl ⟨by rfl, fun W hS => by (obtain ⟨s0, s1, s2, s3, s4⟩ := hS; go_simp)⟩) HS.out ?_
  simp only [Act.put, List.setIfInBounds_toArray, List.set_cons_zero, List.set_cons_succ]
  refine wpAnyH_take (i := 1) (oi := ⟨some 11, _, _, _, _, _⟩) (v := (.bool false)) rfl (by kernel_rfl) (by kernel_rfl) (by kernel_rfl) (fun _ _ _ h => h) (Or.inl ⟨by rfl, fun W hS => by (obtain ⟨s0, s1, s2, s3, s4⟩ := hS; go_simp)⟩) HS.out ?_
  simp only [Act.put, List.setIfInBounds_toArray, List.set_cons_zero, List.set_cons_succ]
  refine wpAnyH_take (i := 2) (oi := ⟨some 12, _, _, _, _, _⟩) (v := (.bool false)) rfl (by kernel_rfl) (by kernel_rfl) (by kernel_rfl) (fun _ _ _ h => h) (Or.inl ⟨by rfl, fun W hS => by (obtain ⟨s0, s1, s2, s3, s4⟩ := hS; go_simp)⟩) HS.out ?_
  simp only [Act.put, List.setIfInBounds_toArray, List.set_cons_zero, List.set_cons_succ]
  refine wpAnyH_take (i := 3) (oi := ⟨some 13, _, _, _, _, _⟩) (v := (.pointer (some ⟨s.p, 0, none⟩))) rfl (by kernel_rfl) (by kernel_rfl) (by kernel_rfl) (fun _ _ _ h => h) (Or.inl ⟨by rfl, fun W hS => by (obtain ⟨s0, s1, s2, s3, s4⟩ := hS; go_simp)⟩) HS.out ?_
  simp only [Act.put, List.setIfInBounds_toArray, List.set_cons_zero, List.set_cons_succ]
  refine wpAnyH_take (i := 4) (oi := ⟨some 14, _, _, _, _, _⟩) (v := (.pointer (some ⟨s.p, 0, none⟩))) rfl (by kernel_rfl) (by kernel_rfl) (by kernel_rfl) (fun _ _ _ h => h) (Or.inl ⟨by rfl, fun W hS => by (obtain ⟨s0, s1, s2, s3, s4⟩ := hS; go_simp)⟩) HS.out ?_
  simp only [Act.put, List.setIfInBounds_toArray, List.set_cons_zero, List.set_cons_succ]
  refine wpAnyH_take (i := 5) (oi := ⟨some 15, _, _, _, _, _⟩) (v := (.pointer (some ⟨s.p, 0, none⟩))) rfl (by kernel_rfl) (by kernel_rfl) (by kernel_rfl) (fun _ _ _ h => h) (Or.inl ⟨by rfl, fun W hS => by (obtain ⟨s0, s1, s2, s3, s4⟩ := hS; go_simp)⟩) HS.out ?_
  simp only [Act.put, List.setIfInBounds_toArray, List.set_cons_zero, List.set_cons_succ]
  refine wpAnyH_take (i := 6) (oi := ⟨some 16, _, _, _, _, _⟩) (v := (.int .i64 gn)) rfl (by kernel_rfl) (by kernel_rfl) (by kernel_rfl) (fun _ _ _ h => h) (Or.inl ⟨by rfl, fun W hS => by (obtain ⟨s0, s1, s2, s3, s4⟩ := hS; go_simp)⟩) HS.out ?_
  simp only [Act.put, List.setIfInBounds_toArray, List.set_cons_zero, List.set_cons_succ]
  refine wpAnyH_take (i := 7) (oi := ⟨some 17, _, _, _, _, _⟩) (v := (.bool false)) rfl (by kernel_rfl) (by kernel_rfl) (by kernel_rfl) (fun _ _ _ h => h) (Or.inl ⟨by rfl, fun W hS => by (obtain ⟨s0, s1, s2, s3, s4⟩ := hS; go_simp)⟩) HS.out ?_
  simp only [Act.put, List.setIfInBounds_toArray, List.set_cons_zero, List.set_cons_succ]
  refine wpAnyH_take (i := 8) (oi := ⟨some 18, _, _, _, _, _⟩) (v := (.bool false)) rfl (by kernel_rfl) (by kernel_rfl) (by kernel_rfl) (fun _ _ _ h => h) (Or.inl ⟨by rfl, fun W hS => by (obtain ⟨s0, s1, s2, s3, s4⟩ := hS; go_simp)⟩) HS.out ?_
  simp only [Act.put, List.setIfInBounds_toArray, List.set_cons_zero, List.set_cons_succ]
  refine wpAnyH_take (i := 9) (oi := ⟨some 19, _, _, _, _, _⟩) (v := (.bool false)) rfl (by kernel_rfl) (by kernel_rfl) (by kernel_rfl) (fun _ _ _ h => h) (Or.inl ⟨by rfl, fun W hS => by (obtain ⟨s0, s1, s2, s3, s4⟩ := hS; go_simp)⟩) HS.out ?_
  simp only [Act.put, List.setIfInBounds_toArray, List.set_cons_zero, List.set_cons_succ]
  refine wpAnyH_take (i := 10) (oi := ⟨some 20, _, _, _, _, _⟩) (v := (.pointer (some ⟨s.p, 0, none⟩))) rfl (by kernel_rfl) (by kernel_rfl) (by kernel_rfl) (fun _ _ _ h => h) (Or.inl ⟨by rfl, fun W hS => by (obtain ⟨s0, s1, s2, s3, s4⟩ := hS; go_simp)⟩) HS.out ?_
  simp only [Act.put, List.setIfInBounds_toArray, List.set_cons_zero, List.set_cons_succ]
  refine wpAnyH_take (i := 11) (oi := ⟨some 21, _, _, _, _, _⟩) (v := (.pointer (some ⟨s.p, 0, none⟩))) rfl (by kernel_rfl) (by kernel_rfl) (by kernel_rfl) (fun _ _ _ h => h) (Or.inl ⟨by rfl, fun W hS => by (obtain ⟨s0, s1, s2, s3, s4⟩ := hS; go_simp)⟩) HS.out ?_
  simp only [Act.put, List.setIfInBounds_toArray, List.set_cons_zero, List.set_cons_succ]
  refine wpAnyH_take (i := 12) (oi := ⟨some 22, _, _, _, _, _⟩) (v := (.pointer (some ⟨s.p, 0, none⟩))) rfl (by kernel_rfl) (by kernel_rfl) (by kernel_rfl) (fun _ _ _ h => h) (Or.inl ⟨by rfl, fun W hS => by (obtain ⟨s0, s1, s2, s3, s4⟩ := hS; go_simp)⟩) HS.out ?_
  simp only [Act.put, List.setIfInBounds_toArray, List.set_cons_zero, List.set_cons_succ]
  refine wpAnyH_take (i := 13) (oi := ⟨some 23, _, _, _, _, _⟩) (v := (.int .i64 gn)) rfl (by kernel_rfl) (by kernel_rfl) (by kernel_rfl) (fun _ _ _ h => h) (Or.inl ⟨by rfl, fun W hS => by (obtain ⟨s0, s1, s2, s3, s4⟩ := hS; go_simp)⟩) HS.out ?_
  simp only [Act.put, List.setIfInBounds_toArray, List.set_cons_zero, List.set_cons_succ]
  refine wpAnyH_take (i := 14) (oi := ⟨some 24, _, _, _, _, _⟩) (v := (.pointer (some ⟨s.p, 0, none⟩))) rfl (by kernel_rfl) (by kernel_rfl) (by kernel_rfl) (fun _ _ _ h => h) (Or.inl ⟨by rfl, fun W hS => by (obtain ⟨s0, s1, s2, s3, s4⟩ := hS; go_simp)⟩) HS.out ?_
  simp only [Act.put, List.setIfInBounds_toArray, List.set_cons_zero, List.set_cons_succ]
  refine wpAnyH_take (i := 15) (oi := ⟨some 25, _, _, _, _, _⟩) (v := (.pointer (some ⟨s.p, 0, none⟩))) rfl (by kernel_rfl) (by kernel_rfl) (by kernel_rfl) (fun _ _ _ h => h) (Or.inl ⟨by rfl, fun W hS => by (obtain ⟨s0, s1, s2, s3, s4⟩ := hS; go_simp)⟩) HS.out ?_
  simp only [Act.put, List.setIfInBounds_toArray, List.set_cons_zero, List.set_cons_succ]
  refine wpAnyH_take (i := 16) (oi := ⟨some 26, _, _, _, _, _⟩) (v := (.pointer (some ⟨s.p, 1, none⟩))) rfl (by kernel_rfl) (by kernel_rfl) (by kernel_rfl) (fun _ _ _ h => h) (Or.inl ⟨by rfl, fun W hS => by (obtain ⟨s0, s1, s2, s3, s4⟩ := hS; go_simp)⟩) HS.out ?_
  simp only [Act.put, List.setIfInBounds_toArray, List.set_cons_zero, List.set_cons_succ]
  refine wpAnyH_take (i := 17) (oi := ⟨some 27, _, _, _, _, _⟩) (v := (.slice s.ra rs.length s.rc)) rfl (by kernel_rfl) (by kernel_rfl) (by kernel_rfl) (fun _ _ _ h => h) (Or.inl ⟨by rfl, fun W hS => by (obtain ⟨s0, s1, s2, s3, s4⟩ := hS; go_simp)⟩) HS.out ?_
  simp only [Act.put, List.setIfInBounds_toArray, List.set_cons_zero, List.set_cons_succ]
  refine wpAnyH_take (i := 18) (oi := ⟨some 28, _, _, _, _, _⟩) (v := (.int .i64 rs.length)) rfl (by kernel_rfl) (by kernel_rfl) (by kernel_rfl) (fun _ _ _ h => h) (Or.inl ⟨by rfl, fun W hS => by (obtain ⟨s0, s1, s2, s3, s4⟩ := hS; go_simp)⟩) HS.out ?_
  simp only [Act.put, List.setIfInBounds_toArray, List.set_cons_zero, List.set_cons_succ]
  refine wpAnyH_take (i := 19) (oi := ⟨some 29, _, _, _, _, _⟩) (v := (.pointer (some ⟨s.p, 0, none⟩))) rfl (by kernel_rfl) (by kernel_rfl) (by kernel_rfl) (fun _ _ _ h => h) (Or.inl ⟨by rfl, fun W hS => by (obtain ⟨s0, s1, s2, s3, s4⟩ := hS; go_simp)⟩) HS.out ?_
  simp only [Act.put, List.setIfInBounds_toArray, List.set_cons_zero, List.set_cons_succ]
  refine wpAnyH_take (i := 20) (oi := ⟨some 30, _, _, _, _, _⟩) (v := (.pointer (some ⟨s.p, 0, none⟩))) rfl (by kernel_rfl) (by kernel_rfl) (by kernel_rfl) (fun _ _ _ h => h) (Or.inl ⟨by rfl, fun W hS => by (obtain ⟨s0, s1, s2, s3, s4⟩ := hS; go_simp)⟩) HS.out ?_
  simp only [Act.put, List.setIfInBounds_toArray, List.set_cons_zero, List.set_cons_succ]
  refine wpAnyH_take (i := 21) (oi := ⟨some 31, _, _, _, _, _⟩) (v := (.pointer (some ⟨s.p, 2, none⟩))) rfl (by kernel_rfl) (by kernel_rfl) (by kernel_rfl) (fun _ _ _ h => h) (Or.inl ⟨by rfl, fun W hS => by (obtain ⟨s0, s1, s2, s3, s4⟩ := hS; go_simp)⟩) HS.out ?_
  simp only [Act.put, List.setIfInBounds_toArray, List.set_cons_zero, List.set_cons_succ]
  refine wpAnyH_take (i := 22) (oi := ⟨some 32, _, _, _, _, _⟩) (v := (.slice s.la ls.length s.lc)) rfl (by kernel_rfl) (by kernel_rfl) (by kernel_rfl) (fun _ _ _ h => h) (Or.inl ⟨by rfl, fun W hS => by (obtain ⟨s0, s1, s2, s3, s4⟩ := hS; go_simp)⟩) HS.out ?_
  simp only [Act.put, List.setIfInBounds_toArray, List.set_cons_zero, List.set_cons_succ]
  refine wpAnyH_take (i := 23) (oi := ⟨some 33, _, _, _, _, _⟩) (v := (.int .i64 ls.length)) rfl (by kernel_rfl) (by kernel_rfl) (by kernel_rfl) (fun _ _ _ h => h) (Or.inl ⟨by rfl, fun W hS => by (obtain ⟨s0, s1, s2, s3, s4⟩ := hS; go_simp)⟩) HS.out ?_
  simp only [Act.put, List.setIfInBounds_toArray, List.set_cons_zero, List.set_cons_succ]
  refine wpAnyH_take (i := 24) (oi := ⟨some 34, _, _, _, _, _⟩) (v := (.pointer (some ⟨s.p, 0, none⟩))) rfl (by kernel_rfl) (by kernel_rfl) (by kernel_rfl) (fun _ _ _ h => h) (Or.inl ⟨by rfl, fun W hS => by (obtain ⟨s0, s1, s2, s3, s4⟩ := hS; go_simp)⟩) HS.out ?_
  simp only [Act.put, List.setIfInBounds_toArray, List.set_cons_zero, List.set_cons_succ]
  refine wpAnyH_take (i := 25) (oi := ⟨some 35, _, _, _, _, _⟩) (v := (.pointer (some ⟨s.p, 0, none⟩))) rfl (by kernel_rfl) (by kernel_rfl) (by kernel_rfl) (fun _ _ _ h => h) (Or.inl ⟨by rfl, fun W hS => by (obtain ⟨s0, s1, s2, s3, s4⟩ := hS; go_simp)⟩) HS.out ?_
  simp only [Act.put, List.setIfInBounds_toArray, List.set_cons_zero, List.set_cons_succ]
  refine wpAnyH_take (i := 26) (oi := ⟨some 36, _, _, _, _, _⟩) (v := (.pointer (some ⟨s.p, 3, none⟩))) rfl (by kernel_rfl) (by kernel_rfl) (by kernel_rfl) (fun _ _ _ h => h) (Or.inl ⟨by rfl, fun W hS => by (obtain ⟨s0, s1, s2, s3, s4⟩ := hS; go_simp)⟩) HS.out ?_
  simp only [Act.put, List.setIfInBounds_toArray, List.set_cons_zero, List.set_cons_succ]
  refine wpAnyH_take (i := 27) (oi := ⟨some 37, _, _, _, _, _⟩) (v := (.slice s.oa os.length s.oc)) rfl (by kernel_rfl) (by kernel_rfl) (by kernel_rfl) (fun _ _ _ h => h) (Or.inl ⟨by rfl, fun W hS => by (obtain ⟨s0, s1, s2, s3, s4⟩ := hS; go_simp)⟩) HS.out ?_
  simp only [Act.put, List.setIfInBounds_toArray, List.set_cons_zero, List.set_cons_succ]
  refine wpAnyH_take (i := 28) (oi := ⟨some 38, _, _, _, _, _⟩) (v := (.int .i64 os.length)) rfl (by kernel_rfl) (by kernel_rfl) (by kernel_rfl) (fun _ _ _ h => h) (Or.inl ⟨by rfl, fun W hS => by (obtain ⟨s0, s1, s2, s3, s4⟩ := hS; go_simp)⟩) HS.out ?_
  simp only [Act.put, List.setIfInBounds_toArray, List.set_cons_zero, List.set_cons_succ]
  refine wpAnyH_ready (rs := [29]) (by kernel_rfl) (by simp) ?_
  refine AllReadyH.cons rfl (fun K hK => ?_) AllReadyH.nil
  go_simp
  refine hK.out _ _ HS.out (fun _ => ?_)
  clear hK K
  refine wpAnyH_take (i := 30) (oi := ⟨some 40, _, _, _, _, _⟩) (v := (.bool false)) rfl (by kernel_rfl) (by kernel_rfl) (by kernel_rfl) (fun _ _ _ h => h) (Or.inl ⟨by rfl, fun W hS => by (obtain ⟨s0, s1, s2, s3, s4⟩ := hS; go_simp)⟩) HS.out ?_
  simp only [Act.put, List.setIfInBounds_toArray, List.set_cons_zero, List.set_cons_succ]
  refine wpAnyH_take (i := 31) (oi := ⟨some 41, _, _, _, _, _⟩) (v := (.bool false)) rfl (by kernel_rfl) (by kernel_rfl) (by kernel_rfl) (fun _ _ _ h => h) (Or.inl ⟨by rfl, fun W hS => by (obtain ⟨s0, s1, s2, s3, s4⟩ := hS; go_simp)⟩) HS.out ?_
  simp only [Act.put, List.setIfInBounds_toArray, List.set_cons_zero, List.set_cons_succ]
  refine wpAnyH_done (by kernel_rfl) ?_ _
  clear hmx hm HS
  -- what the walk may ask of any later world
  have HW : Hid (∀ W, Below wd.heap.size wd W → W.cell? ⟨w.heap.size, 0, none⟩ = some (.pointer (some ⟨s.p, 0, none⟩)) ∧ NetT s S W gn rs ls os) := hide fun W hb => ⟨(hb.cell (cell_lt HX.out)).trans HX.out, (H.out.below HBD.out).below hb⟩
  have HTH : Hid (∀ W, Below wd.heap.size wd W → ∀ k : Int, Calls Try.prog 16 #[.int .i64 k, .pointer (some ⟨w.heap.size, 0, none⟩)] W fun e w' => e = .returned (.bool (inR k (gn + rs.length + ls.length : Nat))) ∧ ∃ m, w' = W.drewN m) := hide fun W hb k => lthere_at w.heap.size s.p gn _ _ s.ra s.la rs.length s.rc ls.length s.lc k W (HW.out W hb).1 (HW.out W hb).2.c0 (HW.out W hb).2.c1 (HW.out W hb).2.c2 rfl rfl (by omega)
  have HFI : Hid (∀ (W : World) (n : Nat), Below wd.heap.size wd (W.drewN n) → Calls Try.prog 18 #[.pointer (some ⟨s.p, 0, none⟩)] (W.drewN n) fun e w' => e = .returned (.int .i64 (gn + rs.length : Nat)) ∧ ∃ m, w' = (W.drewN n).drewN m) := hide fun W n hb => lfirst_at s.p gn _ s.ra rs.length s.rc _ (HW.out _ hb).2.c0 (HW.out _ hb).2.c1 rfl (by omega)
  have hBB := HBD.out
  have HBD0 : Hid (Below wd.heap.size wd wd) := hide (Below.refl _ _)
  clear hBB
  have c2 := (HW.out _ HBD0.out).2.c2
  have cx := HX.out
  go_wp2_with fail
  clear c2 cx
  go_loopw [4, 5, 48] (fun _ _ i wr => ∃ k : Nat, k ≤ ls.length ∧ i = .int .i64 k ∧ Hid (Below wd.heap.size wd wr) ∧ Hid (lutsTo (gn + rs.length) ls k = true)) (fun _ _ i _ => ls.length - (intOf i).toNat)
  case atStart => exact ⟨0, Nat.zero_le _, rfl, HBD0, hide rfl⟩
  case round =>
    obtain ⟨k, hk, rfl, hb, hno⟩ := hrel
    by_cases hlt : k < ls.length
    · have hki : (k : Int) < (ls.length : Int) := by omega
      obtain ⟨b, off, ha, _, hbl, n0, n1⟩ := (HW.out _ hb.out).2.luts.row.pair hlt
      have hins := (HW.out _ hb.out).2.luts.ins k hlt
      simp only [lutF, lutG] at n0 n1
      have HA := hide ha
      rw [HA.out]
      have cx := (HW.out _ hb.out).1
      have hxl := cell_lt cx
      simp only at hxl
      have HB1 : Hid (Below wr.heap.size wr (wr.alloc (.cells #[.slice (s.A k) (ltAt ls k).ins.length (s.C k), .int .i64 (ltAt ls k).table] 44))) := hide (below_alloc _ _)
      have HN1 := hide (blk_new wr (.cells #[.slice (s.A k) (ltAt ls k).ins.length (s.C k), .int .i64 (ltAt ls k).table] 44))
      have cx1 := (HW.out _ (Below.step hb.out HB1.out)).1
      have HBS := hide (Below.step hb.out HB1.out)
      generalize hW1 : wr.alloc (.cells #[.slice (s.A k) (ltAt ls k).ins.length (s.C k), .int .i64 (ltAt ls k).table] 44) = W1 at *
      have HW1 := hide hW1
      clear hW1
      have HCF : Hid (∀ d o, Calls Try.prog 18 #[.pointer (some ⟨s.p, 0, none⟩)] (Sort.grow (redrawn W1 d) o) fun e w'' => e = .returned (.int .i64 (gn + rs.length : Nat)) ∧ ∃ p : Regrown, w'' = Sort.grow (redrawn W1 p.d) p.os) := hide fun d o => Calls.regrown_of (by
        have hbb : Below wd.heap.size wd (Sort.grow (redrawn W1 d) o) := Below.step HBS.out (below_regrown W1 d o)
        refine (lfirst_at s.p gn _ s.ra rs.length s.rc _ (HW.out _ hbb).2.c0 (HW.out _ hbb).2.c1 rfl (by omega)).mono ?_
        rintro e w' ⟨rfl, m, rfl⟩
        exact ⟨rfl, Below.drewNs (Below.refl _ _) m⟩)
      have HCR : Hid (∀ d o (a : Int), a = (gn + rs.length + k : Nat) → Calls Try.prog 19 #[.agg #[.slice (s.A k) (ltAt ls k).ins.length (s.C k), .int .i64 (ltAt ls k).table], .int .i64 a] (Sort.grow (redrawn W1 d) o) fun e w'' => e = .returned (.bool (rightL (gn + rs.length + k) (ltAt ls k))) ∧ ∃ p : Regrown, w'' = Sort.grow (redrawn W1 p.d) p.os) := hide fun d o a ha2 => Calls.regrown_of (by
        subst ha2
        exact lright_at (s.A k) (ltAt ls k) (s.C k) (gn + rs.length + k) _ (hins.below (Below.step HB1.out (below_regrown W1 d o))))
      have q0 := cell_regrown cx1
      have q1 := cell_regrown (show W1.cell? ⟨wr.heap.size, 0, none⟩ = some (.slice (s.A k) (ltAt ls k).ins.length (s.C k)) by rw [blk_cell HN1.out]; rfl)
      have q2 := cell_regrown (show W1.cell? ⟨wr.heap.size, 1, none⟩ = some (.int .i64 (ltAt ls k).table) by rw [blk_cell HN1.out]; rfl)
      have HT1 : Hid (lutsTo (gn + rs.length) ls (k + 1) = rightL (gn + rs.length + k) (ltAt ls k)) := hide (by simp only [lutsTo, hno.out]; rfl)
      have HT2 : Hid (rightL (gn + rs.length + k) (ltAt ls k) = false → bodyT (gn + rs.length) rs ls os = false) := hide fun hf => by
        cases hq : lutsTo (gn + rs.length) ls ls.length with
        | false => simp [bodyT, hq]
        | true => rw [lutsTo_at hq k hlt] at hf; cases hf
      clear ha hbl cx hins cx1 HBD0 HX H HFI hmf
      have HBF : Hid (∀ d o, Below wd.heap.size wd (Sort.grow (redrawn W1 d) o)) := hide fun d o => Below.step HBS.out (below_regrown W1 d o)
      cases hr : rightL (gn + rs.length + k) (ltAt ls k) with
      | true =>
        rw [hr] at HCR HT1
        clear hr HT2
        go_wp2_with fail
        try rw [HW1.out]
        refine wp_region_quiet_below (by kernel_rfl) (by kernel_rfl) ?_
        repeat (quiet_step (first | (with_reducible exact HCF.out _ _) | ((with_reducible refine HCR.out _ _ _ ?_); exact wrap_id (by omega) (by omega) (by omega))))
        refine wpQuiet_nil ?_
        intro _ hw'
        obtain ⟨⟨dq, osq⟩, hw''⟩ := hw'
        subst hw''
        have HBG := hide (HBF.out dq osq)
        clear q0 q1 q2 n0 n1 HCF HCR HBF
        go_wp2_with fail
        exact ⟨⟨k + 1, by omega, by go_num, HBG, HT1⟩, by simp [intOf]; omega⟩
      | false =>
        have HTF := hide (HT2.out hr)
        rw [hr] at HCR
        clear hr HT2 HT1
        go_wp2_with fail
        try rw [HW1.out]
        refine wp_region_quiet_below (by kernel_rfl) (by kernel_rfl) ?_
        repeat (quiet_step (first | (with_reducible exact HCF.out _ _) | ((with_reducible refine HCR.out _ _ _ ?_); exact wrap_id (by omega) (by omega) (by omega))))
        refine wpQuiet_nil ?_
        intro _ hw'
        obtain ⟨⟨dq, osq⟩, hw''⟩ := hw'
        subst hw''
        have HBG := hide (HBF.out dq osq)
        clear q0 q1 q2 n0 n1 HCF HCR HBF
        go_wp2_with fail
        go_ret
        exact ⟨ret_bool HTF.out.symm, Below.step' HBD.out HBG.out⟩
    · have HJ : Hid (lutsTo (gn + rs.length) ls ls.length = true) := hide (by
        have e : k = ls.length := by omega
        have := hno.out
        rwa [e] at this)
      have c1 := (HW.out _ hb.out).2.c1
      have cx := (HW.out _ hb.out).1
      clear hno HBD0 HX H HFI
      go_wp2_with fail
      clear c1 cx
      rename World => we
      have HBE := hide hb.out
      go_loopw [7, 66] (fun _ i wr => ∃ k : Nat, k ≤ rs.length ∧ i = .int .i64 k ∧ Hid (Below wd.heap.size wd wr) ∧ Hid (regsTo (gn + rs.length + ls.length) rs k = true)) (fun _ i _ => rs.length - (intOf i).toNat)
      case atStart => exact ⟨0, Nat.zero_le _, rfl, HBE, hide rfl⟩
      case round =>
        clear hb
        obtain ⟨k, hk, rfl, hb, hno⟩ := hrel
        by_cases hlt : k < rs.length
        · have hki : (k : Int) < (rs.length : Int) := by omega
          obtain ⟨b, off, ha, _, hbl, n0, n1⟩ := (HW.out _ hb.out).2.regs.pair hlt
          simp only [rgF, rgG] at n0 n1
          have HA := hide ha
          rw [HA.out]
          have HB1 : Hid (Below wr.heap.size wr (wr.alloc (.cells #[.bool (rgAt rs k).init, .int .i64 (rgAt rs k).next] 59))) := hide (below_alloc _ _)
          have HBS := hide (Below.step hb.out HB1.out)
          have HC := hide (HTH.out _ HBS.out (rgAt rs k).next)
          have HT1 : Hid (regsTo (gn + rs.length + ls.length) rs (k + 1) = inR (rgAt rs k).next (gn + rs.length + ls.length : Nat)) := hide (by simp only [regsTo, hno.out]; rfl)
          have HT2 : Hid (inR (rgAt rs k).next (gn + rs.length + ls.length : Nat) = false → bodyT (gn + rs.length) rs ls os = false) := hide fun hf => by
            cases hq : regsTo (gn + rs.length + ls.length) rs rs.length with
            | false => simp [bodyT, hq]
            | true => rw [regsTo_at hq k hlt] at hf; cases hf
          have x1 : (wr.alloc (.cells #[.bool (rgAt rs k).init, .int .i64 (rgAt rs k).next] 59)).cell? ⟨wr.heap.size, 1, none⟩ = some (.int .i64 (rgAt rs k).next) := by rw [blk_cell (blk_new _ _)]; rfl
          clear ha hbl
          cases hr : inR (rgAt rs k).next (gn + rs.length + ls.length : Nat) with
          | true =>
            rw [hr] at HC HT1
            clear hr HT2
            go_wp2_with fail
            refine HC.out.mono ?_
            rintro e w4 ⟨rfl, m, rfl⟩
            have HBG := hide (Below.drewNs HBS.out m)
            go_wp2_with fail
            exact ⟨⟨k + 1, by omega, by go_num, HBG, HT1⟩, by simp [intOf]; omega⟩
          | false =>
            have HTF := hide (HT2.out hr)
            rw [hr] at HC
            clear hr HT2 HT1
            go_wp2_with fail
            refine HC.out.mono ?_
            rintro e w4 ⟨rfl, m, rfl⟩
            have HBG := hide (Below.drewNs HBS.out m)
            go_wp2_with fail
            go_ret
            exact ⟨ret_bool HTF.out.symm, Below.step' HBD.out HBG.out⟩
        · have HJ2 : Hid (regsTo (gn + rs.length + ls.length) rs rs.length = true) := hide (by
            have e : k = rs.length := by omega
            have := hno.out
            rwa [e] at this)
          have c3 := (HW.out _ hb.out).2.c3
          have cx := (HW.out _ hb.out).1
          clear hno HBE
          go_wp2_with fail
          clear c3 cx
          have HBE := hide hb.out
          clear hb
          rename World => wz
          go_loopw [9, 81] (fun _ i wr => ∃ k : Nat, k ≤ os.length ∧ i = .int .i64 k ∧ Hid (Below wd.heap.size wd wr) ∧ Hid (outsTo (gn + rs.length + ls.length) os k = true)) (fun _ i _ => os.length - (intOf i).toNat)
          case atStart => exact ⟨0, Nat.zero_le _, rfl, HBE, hide rfl⟩
          case round =>
            clear HBE
            obtain ⟨k, hk, rfl, hb, hno⟩ := hrel
            by_cases hlt : k < os.length
            · have hki : (k : Int) < (os.length : Int) := by omega
              obtain ⟨b, off, ha, _, hbl, n0⟩ := (HW.out _ hb.out).2.outs.ints hlt
              have HA := hide ha
              rw [HA.out]
              have HC := hide (HTH.out _ hb.out (outAt os k))
              have HT1 : Hid (outsTo (gn + rs.length + ls.length) os (k + 1) = inR (outAt os k) (gn + rs.length + ls.length : Nat)) := hide (by simp only [outsTo, hno.out]; rfl)
              have HT2 : Hid (inR (outAt os k) (gn + rs.length + ls.length : Nat) = false → bodyT (gn + rs.length) rs ls os = false) := hide fun hf => by
                cases hq : outsTo (gn + rs.length + ls.length) os os.length with
                | false => simp [bodyT, hq]
                | true => rw [outsTo_at hq k hlt] at hf; cases hf
              clear ha hbl
              cases hr : inR (outAt os k) (gn + rs.length + ls.length : Nat) with
              | true =>
                rw [hr] at HC HT1
                clear hr HT2
                go_wp2_with fail
                refine HC.out.mono ?_
                rintro e w4 ⟨rfl, m, rfl⟩
                have HBG := hide (Below.drewNs hb.out m)
                go_wp2_with fail
                exact ⟨⟨k + 1, by omega, by go_num, HBG, HT1⟩, by simp [intOf]; omega⟩
              | false =>
                have HTF := hide (HT2.out hr)
                rw [hr] at HC
                clear hr HT2 HT1
                go_wp2_with fail
                refine HC.out.mono ?_
                rintro e w4 ⟨rfl, m, rfl⟩
                have HBG := hide (Below.drewNs hb.out m)
                go_wp2_with fail
                go_ret
                exact ⟨ret_bool HTF.out.symm, Below.step' HBD.out HBG.out⟩
            · have HJ3 : Hid (bodyT (gn + rs.length) rs ls os = true) := hide (by
                have e : k = os.length := by omega
                have := hno.out
                rw [e] at this
                simp only [bodyT, HJ.out, HJ2.out, this]; rfl)
              go_wp2_with fail
              go_ret
              exact ⟨ret_bool HJ3.out.symm, Below.step' HBD.out hb.out⟩

theorem LRight_at {s : NetQ} {S : Nat → Prop} {w : World} {given : Int} {rs : List Rg} {ls : List Lt} {os : List Int} (h : NetT s S w given rs ls os) (hr : rs.length ≤ 20000) (hn : ls.length ≤ 20000) (ho : os.length ≤ 20000) :
    Calls Try.prog 7 #[.pointer (some ⟨s.p, 0, none⟩)] w fun e w' => e = .returned (.bool (rightT given rs ls os)) ∧ Below w.heap.size w w' := by
  by_cases hg : 0 ≤ given ∧ given ≤ 20000
  · obtain ⟨gn, rfl⟩ := Int.eq_ofNat_of_zero_le hg.1
    have := LRight_on h (by omega) (by omega) (by omega) hg.2
    have e : rightT gn rs ls os = bodyT (gn + rs.length) rs ls os := by
      have h1 := hg.2
      simp [rightT, sizesT, hr, hn, ho]
      intro; omega
    rw [e]; exact this
  · have := LRight_off h (by omega) (by omega) (by omega) (by omega)
    have e : rightT given rs ls os = false := by
      cases hq : rightT given rs ls os with
      | false => rfl
      | true =>
        obtain ⟨n, rfl⟩ := rightT_nat hq
        have := rightT_iff.1 hq
        exact absurd ⟨Int.natCast_nonneg _, by have := this.g1; omega⟩ hg
    rw [e]; exact this
end Go.Proofs.Ytacgepdmhdcdkaa
