/-
  CONTRACT of whole (of declarations) and of Decls: all of a text is read; what was thrown on the way is its error.
-/
import Derived.Test.YtlbgdoajaplabaaGreatDoorWhole
namespace Go.Proofs.YtlbgdoajaplabaaGreatDoor
open Go.RowKit
set_option linter.unusedSimpArgs false
set_option linter.unusedVariables false

def decls2 (s : ByteArray) : Res (List De) := (tokens s).bind fun ts _ => wholeP ts (declsP ts (fuel2 ts) 0 [])
theorem declsA_out (ts : List Tok) : declsP ts (fuel2 ts) 0 [] ≠ .out := fun e => prog_out ts (by simp only [progP, e, Res.bind])

/-- what Decls comes to -/
def DParsed (w : World) (r : Res (List De)) (e : Ending) (w' : World) : Prop :=
  Below w.heap.size w w' ∧ match r with
  | .out => False
  | .bad er p => ∃ A : Nat, e = .returned (.tuple #[.slice none 0 0, .iface 93 (.pointer (some ⟨A, 0, none⟩))]) ∧ w'.heap[A]? = some (.cells #[.int .i64 er, .int .i64 p] 102 (0, 0))
  | .ok l _ => ∃ v : Value, e = .returned (.tuple #[v, .nilIface]) ∧ IsDes (From w.heap.size) w' l v

set_option maxRecDepth 100000 in
set_option maxHeartbeats 3200000 in
theorem catchD_thrown (E A : Nat) (w : World) (u : Value) (hc : w.cell? ⟨E, 0, none⟩ = some u) (hz : w.frozen? ⟨E, 0, none⟩ = false) :
    CallsD Tryz.prog 64 #[.pointer (some ⟨E, 0, none⟩)] (.panicking [{ v := .iface 93 (.pointer (some ⟨A, 0, none⟩)), recovered := false }]) w fun e u' w' =>
      e = .returned (.tuple #[]) ∧ u' = .panicking [{ v := .iface 93 (.pointer (some ⟨A, 0, none⟩)), recovered := true }] ∧ w' = w.setCell ⟨E, 0, none⟩ (.iface 93 (.pointer (some ⟨A, 0, none⟩))) := by
  have hta := assert_at
  have hnot : ∀ (x : Bool) (w : World), (Op.unary .not (.bool x)).run Tryz.prog w = .ok (.bool (!x)) w := fun _ _ => rfl
  refine callsD_of_wpS Tryz.func64 rfl fun c₀ cs hu => ?_
  apply wpS_seq
  apply wpS_region
  simp [wpOpsS, go_sem, recoverD, hu, Tryz.ntmps64, Exit.thenS]
  have hst : (#[Value.pointer (some ⟨E, 0, none⟩)] ++ ((Array.replicate 16 undef).setIfInBounds 3 (.iface 93 (.pointer (some ⟨A, 0, none⟩)))).setIfInBounds 0 (.iface 93 (.pointer (some ⟨A, 0, none⟩)))) = #[.pointer (some ⟨E, 0, none⟩), .iface 93 (.pointer (some ⟨A, 0, none⟩)), undef, undef, .iface 93 (.pointer (some ⟨A, 0, none⟩)), undef, undef, undef, undef, undef, undef, undef, undef, undef, undef, undef, undef] := rfl
  rw [hst]
  clear hst
  refine wpS_of_wp ?_
  have hq1 : ∀ (t : TypeId) (x : Value) (w : World), (binOp .eql 20 (.iface t x) .nilIface).run Tryz.prog w = .ok (.bool false) w := fun _ _ _ => rfl
  have hq2 : ∀ (w : World), (binOp .eql 20 .nilIface .nilIface).run Tryz.prog w = .ok (.bool true) w := fun _ => rfl
  go_wp2_with fail
  simp [bodyPostS, results, Tryz.results64]

set_option maxRecDepth 100000 in
set_option maxHeartbeats 3200000 in
theorem catchD_idle (E : Nat) (w : World) :
    CallsD Tryz.prog 64 #[.pointer (some ⟨E, 0, none⟩)] .returning w fun e u' w' => e = .returned (.tuple #[]) ∧ u' = .returning ∧ w' = w := by
  refine callsD_of_wpS Tryz.func64 rfl fun c₀ cs hu => ?_
  apply wpS_seq
  apply wpS_region
  simp [wpOpsS, go_sem, recoverD, hu, Tryz.ntmps64, Exit.thenS]
  have hst : (#[Value.pointer (some ⟨E, 0, none⟩)] ++ ((Array.replicate 16 undef).setIfInBounds 3 (.nilIface)).setIfInBounds 0 (.nilIface)) = #[.pointer (some ⟨E, 0, none⟩), .nilIface, undef, undef, .nilIface, undef, undef, undef, undef, undef, undef, undef, undef, undef, undef, undef, undef] := rfl
  rw [hst]
  clear hst
  refine wpS_of_wp ?_
  have hq1 : ∀ (t : TypeId) (x : Value) (w : World), (binOp .eql 20 (.iface t x) .nilIface).run Tryz.prog w = .ok (.bool false) w := fun _ _ _ => rfl
  have hq2 : ∀ (w : World), (binOp .eql 20 .nilIface .nilIface).run Tryz.prog w = .ok (.bool true) w := fun _ => rfl
  go_wp2_with fail
  cases c₀
  simp_all [bodyPostS, results, Tryz.results64]
set_option maxRecDepth 100000 in
set_option maxHeartbeats 3200000 in
theorem doorD_thrown {w wX : World} {E A p : Nat} {er : Int} {r : Res (List De)} (tmps : Array Value) (h4 : tmps[4]? = some (.slice none 0 0)) (h5 : tmps[5]? = some (.pointer (some ⟨E, 0, none⟩))) (hr : r = .bad er p)
    (hE : wX.heap[E]? = some (.cells #[.nilIface] 32 (0, 0))) (hA : wX.heap[A]? = some (.cells #[.int .i64 er, .int .i64 p] 102 (0, 0))) (hle : w.heap.size ≤ E) (hb : Below w.heap.size w wX) :
    bodyPostD Tryz.prog Tryz.f35 (DParsed w r) (.panic [{ v := .iface 93 (.pointer (some ⟨A, 0, none⟩)), recovered := false }]) { tmps := tmps, defers := [{ target := .fn (.func 64) #[.pointer (some ⟨E, 0, none⟩)], args := #[] }] } wX := by
  have hAE : A ≠ E := fun e => by rw [e, hE] at hA; cases hA
  refine leaves_cons (f := 64) (args := #[.pointer (some ⟨E, 0, none⟩)]) (by simp) (by simp [go_sem]) ?_
  refine (catchD_thrown E A wX .nilIface (by rw [blk_cell hE]; rfl) (blk_frozen hE 0)).mono ?_
  rintro e u' w'' ⟨rfl, rfl, rfl⟩
  have c2 : (wX.setCell ⟨E, 0, none⟩ (.iface 93 (.pointer (some ⟨A, 0, none⟩)))).cell? ⟨E, 0, none⟩ = some (.iface 93 (.pointer (some ⟨A, 0, none⟩))) := by rw [blk_cell (blk_set hE 0 _)]; rfl
  refine ⟨.tuple #[.slice none 0 0, .iface 93 (.pointer (some ⟨A, 0, none⟩))], by simp [results, Tryz.results35, go_sem, h4, h5, c2], ?_⟩
  subst hr
  exact ⟨hb.setCell hle _, A, rfl, (set_other _ 0 _ hAE).trans hA⟩

set_option maxRecDepth 100000 in
set_option maxHeartbeats 6400000 in
theorem wholeD_at (s : ByteArray) (w : World) (hs : s.size ≤ 1000000) (hv : Vars w) (h14 : 12 ≤ w.heap.size) :
    Calls Tryz.prog 35 #[.string s, .func (.func 36) #[] #[]] w (DParsed w (decls2 s)) := by
  have hmf : ∀ (fn : Fn) (first cap : Array Value) (w : World), (Instr.makeFunc fn first cap).run Tryz.prog w = .ok (.func fn first cap) w := fun _ _ _ _ => rfl
  have q0 := fld0
  have HV := hide hv
  clear hv
  go_enter_defers Tryz.func35, Tryz.ntmps35
  go_wp2_with fail
  have HB2 := hide (below_alloc w (.cells #[.nilIface] 32))
  have HE2 := hide (blk_new w (.cells #[.nilIface] 32))
  have HWE := hide (Nat.le_refl w.heap.size)
  generalize hE : w.heap.size = E at HE2 ⊢
  generalize (w.alloc (.cells #[.nilIface] 32)) = w2 at *
  refine (tokens_at s w2 hs (HV.out.below HB2.out)).mono ?_
  rintro e w3 ⟨hb3, h3⟩
  have HB3 := hide (Below.step HB2.out hb3)
  have HE3 := hide (Below.blk hb3 HE2.out)
  have HV3 := hide (HV.out.below HB3.out)
  have HEQ := hide hE
  clear hb3 hE
  cases ht : tokens s with
  | out => rw [ht] at h3; exact h3.elim
  | bad er p =>
    rw [ht] at h3
    obtain ⟨A, rfl, hA⟩ := h3
    have HA := hide hA
    have HT := hide ht
    clear hA ht
    go_wp2_with fail
    exact doorD_thrown _ rfl rfl (by unfold decls2; rw [HT.out]; rfl) HE3.out HA.out (by rw [HEQ.out]; exact Nat.le_refl _) HB3.out
  | ok ts kx =>
    rw [ht] at h3
    obtain ⟨hfit, hpos, T, cap, rfl, hT, hrow⟩ := h3
    have HT := hide ht
    have HFIT := hide hfit
    have HROW := hide hrow
    have HPOS := hide hpos
    have HTT := hide hT
    clear ht hfit hpos hT hrow
    have HTL := hide (HROW.out.lt HPOS.out)
    have HB4 := hide (below_alloc w3 (.cells #[.slice (some ⟨T, 0, none⟩) ts.length cap, .int .i64 0] 98))
    have HD4 : Hid (Rd (w3.alloc (.cells #[.slice (some ⟨T, 0, none⟩) ts.length cap, .int .i64 0] 98)) w3.heap.size T cap ts 0) := ⟨blk_new w3 _, HROW.out.kept (R := w3.heap.size) (Kept.of HB4.out) (by have := HTL.out; omega), (by have := HTL.out; omega), (by have := HB3.out.size; omega), HV3.out.below HB4.out, HPOS.out, HFIT.out⟩
    have HBX := hide (Below.step HB3.out HB4.out)
    have HE4 := hide (Below.blk HB4.out HE3.out)
    have HER := hide (show E ≠ w3.heap.size by have := blk_lt HE3.out; omega)
    have HWR := hide (show w.heap.size ≤ w3.heap.size from HB3.out.size)
    go_wp2_with fail
    generalize (w3.alloc (.cells #[.slice (some ⟨T, 0, none⟩) ts.length cap, .int .i64 0] 98)) = w4 at *
    generalize w3.heap.size = R at *
    refine (decls_at (fuel2 ts) HD4.out (declsA_out ts)).mono ?_
    rintro e w5 h5
    rcases h5.cases with ⟨er5, p5, A5, hr5, rfl, hA5, hk5⟩ | ⟨a5, k5, v5, hr5, rfl, hv5, hd5, hk5⟩
    · have Hr5 := hide hr5
      have HA5 := hide hA5
      have HB5 := hide (kept_below HBX.out hk5 HWR.out HBX.out.size)
      have HE5 := hide (hk5.blk HE4.out HER.out)
      clear h5 hr5 hA5 hk5
      go_wp2_with fail
      exact doorD_thrown _ rfl rfl (by unfold decls2; rw [HT.out]; simp only [Res.bind, wholeP, Hr5.out]) HE5.out HA5.out (by rw [HEQ.out]; exact Nat.le_refl _) HB5.out
    · obtain ⟨aa, ac, rfl⟩ := hv5.val
      have Hr5 := hide hr5
      have HB5 := hide (kept_below HBX.out hk5 HWR.out HBX.out.size)
      have HE5 := hide (hk5.blk HE4.out HER.out)
      have HD5 := hide hd5
      have HDA := hide hv5
      clear h5 hr5 hd5 hk5 hv5
      go_wp2_with fail
      refine (now_at HD5.out).mono ?_
      rintro e w7 ⟨rfl, hb7⟩
      have HB57 := hide hb7
      have HD7 := hide (HD5.out.below hb7)
      have HB7 := hide (Below.step HB5.out HB57.out)
      have HE7 := hide (Below.blk HB57.out HE5.out)
      clear hb7
      by_cases hk : (tk ts k5).kind = 0
      · have HK := hide hk
        have hki : ((tk ts k5).kind : Int) = 0 := by omega
        have x0 : w7.cell? ⟨E, 0, none⟩ = some .nilIface := by rw [blk_cell HE7.out]; rfl
        have xf : ∀ i, w7.frozen? ⟨E, i, none⟩ = false := blk_frozen HE7.out
        rw [hki]
        go_wp2_with fail
        refine leaves_cons (f := 64) (args := #[.pointer (some ⟨E, 0, none⟩)]) (by simp) (by simp [go_sem]) ?_
        refine (catchD_idle E _).mono ?_
        rintro e u' w8 ⟨rfl, rfl, rfl⟩
        refine ⟨.tuple #[.slice aa a5.length ac, .nilIface], by simp [results, Tryz.results35, go_sem, x0], ?_⟩
        have hp : decls2 s = .ok a5 k5 := by unfold decls2; rw [HT.out]; simp only [Res.bind, wholeP, Hr5.out, if_pos HK.out]
        have keep : ∀ b, From w4.heap.size b → b < w5.heap.size → (w7.setCell ⟨E, 0, none⟩ .nilIface).heap[b]? = w5.heap[b]? := fun b h1 h2 => by
          have h4 : w4.heap.size ≤ b := h1
          have hE := blk_lt HE4.out
          rw [set_other _ 0 _ (by omega)]
          exact HB57.out.block b h2
        have low : ∀ {W : World} b, b < W.heap.size → From w4.heap.size b → From w.heap.size b := fun b _ h => Nat.le_trans HBX.out.size h
        refine ⟨HB7.out.setCell (by rw [HEQ.out]; exact Nat.le_refl _) _, ?_⟩
        rw [hp]
        exact ⟨_, rfl, (IsRow.same HDA.out keep).imp low⟩
      · have HK := hide hk
        have hki : (((tk ts k5).kind : Int) != 0) = true := by simp; omega
        go_wp2_with fail
        refine (wrong_at 3 HD7.out).mono ?_
        rintro e w8 ⟨A, rfl, hA, hb8⟩
        have HA8 := hide hA
        have HB8 := hide (Below.step HB7.out hb8)
        have HE8 := hide (Below.blk hb8 HE7.out)
        clear hA hb8
        go_wp2_with fail
        exact doorD_thrown _ rfl rfl (by unfold decls2; rw [HT.out]; simp only [Res.bind, wholeP, Hr5.out, if_neg HK.out]) HE8.out HA8.out (by rw [HEQ.out]; exact Nat.le_refl _) HB8.out

set_option maxRecDepth 100000 in
set_option maxHeartbeats 3200000 in
theorem tdecls_at (s : ByteArray) (w : World) (hs : s.size ≤ 1000000) (hv : Vars w) (h14 : 12 ≤ w.heap.size) :
    Calls Tryz.prog 14 #[.string s] w (DParsed w (decls2 s)) := by
  have HV := hide hv
  clear hv
  go_enter Tryz.func14, Tryz.ntmps14
  go_wp2_with fail
  refine (wholeD_at s w hs HV.out h14).mono ?_
  rintro e w2 ⟨hb2, h2⟩
  have HB2 := hide hb2
  clear hb2
  cases hp : decls2 s with
  | out => rw [hp] at h2; exact h2.elim
  | bad er p =>
    rw [hp] at h2
    obtain ⟨A, rfl, hA⟩ := h2
    have HA := hide hA
    have HP := hide hp
    clear hA hp
    go_wp2_with fail
    go_ret2
    refine ⟨HB2.out, ?_⟩
    rw [HP.out]
    exact ⟨A, rfl, HA.out⟩
  | ok p k =>
    rw [hp] at h2
    obtain ⟨v, rfl, hda⟩ := h2
    obtain ⟨aa, ac, rfl⟩ := hda.val
    have HDA := hide hda
    have HP := hide hp
    clear hda hp
    go_wp2_with fail
    go_ret2
    refine ⟨HB2.out, ?_⟩
    rw [HP.out]
    exact ⟨_, rfl, HDA.out⟩
end Go.Proofs.YtlbgdoajaplabaaGreatDoor
