/-
  CONTRACTS of check's catch, caught, and Check.
-/
import Derived.Defers
import Derived.Recover
import Derived.Test.YtiimnnancblbkaaDoorJWant
import Derived.Test.YtiimnnancblbkaaDoorJCatch
import Derived.Test.YtiimnnancblbkaaDoorJStm
set_option linter.unusedSimpArgs false
set_option linter.unusedVariables false
namespace Go.Proofs.YtiimnnancblbkaaDoor
open Go.RowKit

set_option maxRecDepth 100000 in
set_option maxHeartbeats 3200000 in
theorem caught_thrown (E A : Nat) (w : World) (u : Value) (hc : w.cell? ⟨E, 0, none⟩ = some u) (hz : w.frozen? ⟨E, 0, none⟩ = false) :
    CallsD Tryd.prog 35 #[.pointer (some ⟨E, 0, none⟩)] (.panicking [{ v := .iface 78 (.pointer (some ⟨A, 0, none⟩)), recovered := false }]) w fun e u' w' =>
      e = .returned (.tuple #[]) ∧ u' = .panicking [{ v := .iface 78 (.pointer (some ⟨A, 0, none⟩)), recovered := true }] ∧ w' = w.setCell ⟨E, 0, none⟩ (.iface 78 (.pointer (some ⟨A, 0, none⟩))) := by
  have hta := assert_at
  have hnot : ∀ (x : Bool) (w : World), (Op.unary .not (.bool x)).run Tryd.prog w = .ok (.bool (!x)) w := fun _ _ => rfl
  refine callsD_of_wpS Tryd.func35 rfl fun c₀ cs hu => ?_
  apply wpS_seq
  apply wpS_region
  simp [wpOpsS, go_sem, recoverD, hu, Tryd.ntmps35, Exit.thenS]
  have hst : (#[Value.pointer (some ⟨E, 0, none⟩)] ++ ((Array.replicate 16 undef).setIfInBounds 3 (.iface 78 (.pointer (some ⟨A, 0, none⟩)))).setIfInBounds 0 (.iface 78 (.pointer (some ⟨A, 0, none⟩)))) = #[.pointer (some ⟨E, 0, none⟩), .iface 78 (.pointer (some ⟨A, 0, none⟩)), undef, undef, .iface 78 (.pointer (some ⟨A, 0, none⟩)), undef, undef, undef, undef, undef, undef, undef, undef, undef, undef, undef, undef] := rfl
  rw [hst]
  clear hst
  refine wpS_of_wp ?_
  have hq1 : ∀ (t : TypeId) (x : Value) (w : World), (binOp .eql 20 (.iface t x) .nilIface).run Tryd.prog w = .ok (.bool false) w := fun _ _ _ => rfl
  have hq2 : ∀ (w : World), (binOp .eql 20 .nilIface .nilIface).run Tryd.prog w = .ok (.bool true) w := fun _ => rfl
  go_wp2_with fail
  simp [bodyPostS, results, Tryd.results35]

set_option maxRecDepth 100000 in
set_option maxHeartbeats 3200000 in
theorem caught_idle (E : Nat) (w : World) :
    CallsD Tryd.prog 35 #[.pointer (some ⟨E, 0, none⟩)] .returning w fun e u' w' => e = .returned (.tuple #[]) ∧ u' = .returning ∧ w' = w := by
  refine callsD_of_wpS Tryd.func35 rfl fun c₀ cs hu => ?_
  apply wpS_seq
  apply wpS_region
  simp [wpOpsS, go_sem, recoverD, hu, Tryd.ntmps35, Exit.thenS]
  have hst : (#[Value.pointer (some ⟨E, 0, none⟩)] ++ ((Array.replicate 16 undef).setIfInBounds 3 (.nilIface)).setIfInBounds 0 (.nilIface)) = #[.pointer (some ⟨E, 0, none⟩), .nilIface, undef, undef, .nilIface, undef, undef, undef, undef, undef, undef, undef, undef, undef, undef, undef, undef] := rfl
  rw [hst]
  clear hst
  refine wpS_of_wp ?_
  have hq1 : ∀ (t : TypeId) (x : Value) (w : World), (binOp .eql 20 (.iface t x) .nilIface).run Tryd.prog w = .ok (.bool false) w := fun _ _ _ => rfl
  have hq2 : ∀ (w : World), (binOp .eql 20 .nilIface .nilIface).run Tryd.prog w = .ok (.bool true) w := fun _ => rfl
  go_wp2_with fail
  cases c₀
  simp_all [bodyPostS, results, Tryd.results35]

theorem store_fn (W : World) (F : Fn) (cs : Array Value) (T : TypeId) : (store ⟨W.heap.size, 0, none⟩ (.func F #[] cs)).run Tryd.prog (W.alloc (.cells #[.nilFunc] T)) = .ok () (W.alloc (.cells #[.func F #[] cs] T)) := by
  rw [run_store _ _ _ _ _ rfl]
  have e : (W.alloc (.cells #[.nilFunc] T)).setCell ⟨W.heap.size, 0, none⟩ (.func F #[] cs) = W.alloc (.cells #[.func F #[] cs] T) := by
    unfold World.setCell World.alloc
    simp only [World.mk.injEq, and_true, true_and]
    apply Array.ext
    · simp
    · intro i h1 h2
      simp only [Array.size_modify, Array.size_push] at h1
      rw [Array.getElem_modify]
      by_cases hi : W.heap.size = i
      · subst hi; simp
      · rw [if_neg hi, Array.getElem_push, Array.getElem_push]
        split
        · rfl
        · omega
  simp [e]

set_option maxRecDepth 100000 in
set_option maxHeartbeats 6400000 in
theorem check1_at (p : List De × List St) (hl : p.1.length ≤ 30) (hd8 : depL p.2 ≤ 8) (hll : p.2.length ≤ 1000000) (hsm : SmL p.2) (S : Nat → Prop) (w : World) (P : Nat) (aa ba : Option Addr) (ac bc : Nat) (hP : w.heap[P]? = some (.cells #[.slice aa p.1.length ac, .slice ba p.2.length bc] 27 (0, 0))) (hd : IsDes S w p.1 (.slice aa p.1.length ac)) (hs : IsSts S w p.2 (.slice ba p.2.length bc)) :
    Calls Tryd.prog 19 #[.pointer (some ⟨P, 0, none⟩)] w (Cks w NoRep (checkC p)) := by
  have HFI := hide (finder_at p.1 hl S w _ hd)
  have HS := hide hs
  have HP := hide hP
  have HE : Hid (checkC p = match dupC 0 [] p.1 with | some i => .bad 9 i | none => stsC (findC p.1) p.2) := rfl
  have c0 : w.cell? ⟨P, 0, none⟩ = some (.slice aa p.1.length ac) := by rw [blk_cell hP]; rfl
  have HLS := hide (ls_all 8 p.2 hd8 hll hsm)
  clear hd hs hP hsm
  go_enter Tryd.func19, Tryd.ntmps19
  go_wp2_with fail
  refine HFI.out.mono ?_
  rintro e w1 ⟨hb1, h1⟩
  cases hdu : dupC 0 [] p.1 with
  | some i =>
    rw [hdu] at h1
    obtain ⟨A, rfl, hA⟩ := h1
    have HA := hide hA
    have HB1 := hide hb1
    have HR : Hid (checkC p = .bad 9 i) := hide (by rw [HE.out, hdu])
    clear hA hb1 hdu c0
    go_wp2_with fail
    exact ⟨rfl, Cks.bad HR.out HB1.out HA.out⟩
  | none =>
    rw [hdu] at h1
    obtain ⟨LV, rfl, hF⟩ := h1
    have HR : Hid (checkC p = stsC (findC p.1) p.2) := hide (by rw [HE.out, hdu])
    obtain ⟨F, cs, rfl⟩ := hF.fn
    have hb2 := below_alloc w1 (.cells #[.func F #[] cs] 67)
    have HB2 := hide (Below.step hb1 hb2)
    have HF2 := hide (hF.below hb2)
    have HN2 := hide (blk_new w1 (.cells #[.func F #[] cs] 67))
    have HP2 := hide (Below.blk HB2.out HP.out)
    have HS2 := hide (HS.out.same fun c _ h => HB2.out.block c h)
    clear hb1 hb2 hdu hF c0
    have hsf := store_fn w1 F cs 67
    have n0 : (w1.alloc (.cells #[.func F #[] cs] 67)).cell? ⟨w1.heap.size, 0, none⟩ = some (.func F #[] cs) := by rw [blk_cell HN2.out]; rfl
    have c1 : (w1.alloc (.cells #[.func F #[] cs] 67)).cell? ⟨P, 1, none⟩ = some (.slice ba p.2.length bc) := by rw [blk_cell HP2.out]; rfl
    go_wp2_with fail
    refine (HLS.out S _ _ _ p.1 hl HF2.out HS2.out).mono ?_
    rintro e w6 h6
    rcases h6.cases with ⟨er, q, A, hr, rfl, hA, hb6⟩ | ⟨u6, v6, hr, rfl, hv, hb6⟩
    · have HR6 := hide hr
      have HA := hide hA
      have HB6 := hide (Below.step HB2.out hb6)
      clear h6 hr hA hb6 n0 c1
      go_wp2_with fail
      exact ⟨rfl, Cks.bad (HR.out.trans HR6.out) HB6.out HA.out⟩
    · have hv : v6 = .tuple #[] := hv
      subst hv
      have HR6 := hide hr
      have HB6 := hide (Below.step HB2.out hb6)
      clear h6 hr hb6 n0 c1
      go_wp2_with fail
      go_end0
      exact Cks.ok (HR.out.trans HR6.out) HB6.out rfl

/-- what Check comes to -/
def Chkd (w : World) (r : Ck Unit) (e : Ending) (w' : World) : Prop := Below w.heap.size w w' ∧ match r with | .bad er p => ∃ A : Nat, e = .returned (.iface 78 (.pointer (some ⟨A, 0, none⟩))) ∧ w'.heap[A]? = some (.cells #[.int .i64 er, .int .i64 p] 107 (0, 0)) | .ok _ => e = .returned .nilIface

set_option maxRecDepth 100000 in
set_option maxHeartbeats 6400000 in
theorem caught_at (r : Ck Unit) (w : World) (P : Nat) (h : ∀ W, Below w.heap.size w W → Calls Tryd.prog 19 #[.pointer (some ⟨P, 0, none⟩)] W (Cks W NoRep r)) :
    Calls Tryd.prog 18 #[.func (.func 19) #[] #[.pointer (some ⟨P, 0, none⟩)]] w (Chkd w r) := by
  have hmf : ∀ (fn : Fn) (first cap : Array Value) (w : World), (Instr.makeFunc fn first cap).run Tryd.prog w = .ok (.func fn first cap) w := fun _ _ _ _ => rfl
  have HB := hide (below_alloc w (.cells #[.nilIface] 35))
  have HE := hide (blk_new w (.cells #[.nilIface] 35))
  have HC := hide (h _ HB.out)
  clear h
  go_enter_defers Tryd.func18, Tryd.ntmps18
  go_wp2_with fail
  generalize (w.alloc (.cells #[.nilIface] 35)) = w1 at *
  refine HC.out.mono ?_
  rintro e w2 h2
  rcases h2.cases with ⟨er, q, A, hr, rfl, hA, hb2⟩ | ⟨u, v, hr, rfl, hv, hb2⟩
  · have HR := hide hr
    have HA := hide hA
    have HE2 := hide (Below.blk hb2 HE.out)
    have HB2 := hide (Below.step HB.out hb2)
    clear h2 hr hA hb2
    go_wp2_with fail
    have hAE : A ≠ w.heap.size := fun e => by have h1 := HA.out; rw [e, HE2.out] at h1; cases h1
    refine leaves_cons (f := 35) (args := #[.pointer (some ⟨w.heap.size, 0, none⟩)]) (by simp) (by simp [go_sem]) ?_
    refine (caught_thrown w.heap.size A w2 .nilIface (by rw [blk_cell HE2.out]; rfl) (blk_frozen HE2.out 0)).mono ?_
    rintro e u' w'' ⟨rfl, rfl, rfl⟩
    have c2 : (w2.setCell ⟨w.heap.size, 0, none⟩ (.iface 78 (.pointer (some ⟨A, 0, none⟩)))).cell? ⟨w.heap.size, 0, none⟩ = some (.iface 78 (.pointer (some ⟨A, 0, none⟩))) := by rw [blk_cell (blk_set HE2.out 0 _)]; rfl
    refine ⟨.iface 78 (.pointer (some ⟨A, 0, none⟩)), by simp [results, Tryd.results18, go_sem, c2], ?_⟩
    rw [HR.out]
    exact ⟨HB2.out.setCell (Nat.le_refl _) _, A, rfl, (set_other _ 0 _ hAE).trans HA.out⟩
  · have hv : v = .tuple #[] := hv
    subst hv
    have HR := hide hr
    have HE2 := hide (Below.blk hb2 HE.out)
    have HB2 := hide (Below.step HB.out hb2)
    clear h2 hr hb2
    have x0 : w2.cell? ⟨w.heap.size, 0, none⟩ = some .nilIface := by rw [blk_cell HE2.out]; rfl
    have xf : ∀ i, w2.frozen? ⟨w.heap.size, i, none⟩ = false := blk_frozen HE2.out
    go_wp2_with fail
    refine leaves_cons (f := 35) (args := #[.pointer (some ⟨w.heap.size, 0, none⟩)]) (by simp) (by simp [go_sem]) ?_
    refine (caught_idle w.heap.size _).mono ?_
    rintro e u' w8 ⟨rfl, rfl, rfl⟩
    refine ⟨.nilIface, by simp [results, Tryd.results18, go_sem, x0], ?_⟩
    rw [HR.out]
    exact ⟨HB2.out.setCell (Nat.le_refl _) _, rfl⟩

set_option maxRecDepth 100000 in
set_option maxHeartbeats 6400000 in
theorem check_at (p : List De × List St) (hl : p.1.length ≤ 30) (hd8 : depL p.2 ≤ 8) (hll : p.2.length ≤ 1000000) (hsm : SmL p.2) (S : Nat → Prop) (w : World) (a c : Value) (hd : IsDes S w p.1 a) (hs : IsSts S w p.2 c) :
    Calls Tryd.prog 11 #[.agg #[a, c]] w (Chkd w (checkC p)) := by
  have hmf : ∀ (fn : Fn) (first cap : Array Value) (w : World), (Instr.makeFunc fn first cap).run Tryd.prog w = .ok (.func fn first cap) w := fun _ _ _ _ => rfl
  obtain ⟨aa, ac, rfl⟩ := hd.val
  obtain ⟨ba, bc, rfl⟩ := (show ∃ (x : Option Addr) (k : Nat), c = .slice x p.2.length k from by obtain ⟨cs, hr, _⟩ := hs; exact hr.val)
  have hb := below_alloc w (.cells #[.slice aa p.1.length ac, .slice ba p.2.length bc] 27)
  have HB := hide hb
  have HCA := hide (caught_at (checkC p) (w.alloc (.cells #[.slice aa p.1.length ac, .slice ba p.2.length bc] 27)) w.heap.size fun W hbW => check1_at p hl hd8 hll hsm S W w.heap.size aa ba ac bc (Below.blk hbW (blk_new w _)) (IsRow.same hd fun c _ h => (Below.step hb hbW).block c h) (hs.same fun c _ h => (Below.step hb hbW).block c h))
  clear hd hs hsm hb
  generalize checkC p = r at *
  go_enter Tryd.func11, Tryd.ntmps11
  go_wp2_with fail
  refine HCA.out.mono ?_
  rintro e w2 ⟨hb2, h2⟩
  have HB2 := hide (Below.step HB.out hb2)
  clear hb2
  cases r with
  | bad er q =>
    obtain ⟨A, rfl, hA⟩ := h2
    have HA := hide hA
    clear hA
    go_wp2_with fail
    go_ret
    exact ⟨HB2.out, A, rfl, HA.out⟩
  | ok u =>
    have h2 : e = .returned .nilIface := h2
    subst h2
    go_wp2_with fail
    go_ret
    exact ⟨HB2.out, rfl⟩
end Go.Proofs.YtiimnnancblbkaaDoor
