/-
  CONTRACT of whole (of programs) and of Parse: all of a text is read; what was thrown on the way is its error.
-/
import Derived.Test.YtiimnnancblbkaaDoorJCatch
namespace Go.Proofs.YtiimnnancblbkaaDoor
open Go.RowKit

def fuel2 (ts : List Tok) : Nat := 20 * ts.length + 100
def parse2 (s : ByteArray) : Res (List De × List St) := (tokens s).bind fun ts _ => wholeP ts (progP ts (fuel2 ts))

/-- what Parse comes to -/
def Parsed (w : World) (r : Res (List De × List St)) (e : Ending) (w' : World) : Prop :=
  Below w.heap.size w w' ∧ match r with
  | .out => False
  | .bad er p => ∃ A : Nat, e = .returned (.tuple #[.agg #[.slice none 0 0, .slice none 0 0], .iface 78 (.pointer (some ⟨A, 0, none⟩))]) ∧ w'.heap[A]? = some (.cells #[.int .i64 er, .int .i64 p] 107 (0, 0))
  | .ok p _ => ∃ v : Value, e = .returned (.tuple #[v, .nilIface]) ∧ PrRep w.heap.size w' v p

theorem prog_out (ts : List Tok) : progP ts (fuel2 ts) ≠ .out := by
  intro h
  unfold progP at h
  have hd : ∀ (f k : Nat) (acc : List De), ts.length - k < f → declsP ts f k acc ≠ .out := by
    intro f
    induction f with
    | zero => intro k acc h; omega
    | succ f ih =>
      intro k acc hf h
      unfold declsP at h
      split at h
      · rename_i hc
        have hk : k < ts.length := by
          by_cases hk : ts.length ≤ k
          · rw [tx_past hk, way_nil, blk_nil] at hc; simp at hc
          · omega
        rcases bind_out h with e | ⟨a, k1, e1, e2⟩
        · unfold declP at e
          rcases bind_out e with e | ⟨a, k1, e1, e2⟩
          · exact nameP_out e
          split at e2
          · rcases bind_out e2 with e | ⟨b, k2, e3, e4⟩
            · exact wantP_out e
            · cases e4
          · rcases bind_out e2 with e | ⟨b, k2, e3, e4⟩
            · exact wantP_out e
            rcases bind_out e4 with e | ⟨c, k3, e5, e6⟩
            · unfold kindP at e
              split at e
              · cases e
              · rcases bind_out e with e | ⟨x, q, e7, e8⟩
                · exact wantP_out e
                · cases e8
            split at e6
            · rcases bind_out e6 with e | ⟨x, q, e7, e8⟩
              · unfold firstP at e
                split at e
                · split at e
                  · exact byteP_out e
                  · split at e
                    · cases e
                    · rcases bind_out e with e | ⟨z, q3, e11, e12⟩
                      · exact wantP_out e
                      · cases e12
                · cases e
              · rcases bind_out e8 with e | ⟨y, q2, e9, e10⟩
                · exact wantP_out e
                · cases e10
            · rcases bind_out e6 with e | ⟨y, q2, e9, e10⟩
              · exact wantP_out e
              · cases e10
        · have := declP_ok e1
          split at e2
          · cases e2
          · exact ih _ _ (by omega) e2
      · cases h
  rcases bind_out h with e | ⟨a, k1, e1, e2⟩
  · exact hd _ _ _ (by unfold fuel2; omega) e
  rcases bind_out e2 with e | ⟨b, k2, e3, e4⟩
  · exact wantP_out e
  rcases bind_out e4 with e | ⟨c, k3, e5, e6⟩
  · exact (st_out _).1 _ _ _ (by unfold fuel2; omega) e
  rcases bind_out e6 with e | ⟨d, k4, e7, e8⟩
  · exact wantP_out e
  · cases e8

theorem kept_below {B R : Nat} {w w4 w5 : World} (h : Below B w w4) (hk : Kept R w4 w5) (hR : B ≤ R) (h4 : B ≤ w4.heap.size) : Below B w w5 :=
  h.trans ⟨hk.os, hk.tape, hk.output, hk.size, fun b hb => hk.block b (Nat.lt_of_lt_of_le hb h4) (by omega)⟩

set_option maxRecDepth 100000 in
set_option maxHeartbeats 3200000 in
theorem door_thrown {w wX : World} {S E A p : Nat} {er : Int} {r : Res (List De × List St)} (tmps : Array Value) (h4 : tmps[4]? = some (.pointer (some ⟨S, 0, none⟩))) (h5 : tmps[5]? = some (.pointer (some ⟨E, 0, none⟩))) (hr : r = .bad er p)
    (hS : wX.heap[S]? = some (.cells #[.slice none 0 0, .slice none 0 0] 27 (0, 0))) (hE : wX.heap[E]? = some (.cells #[.nilIface] 35 (0, 0))) (hA : wX.heap[A]? = some (.cells #[.int .i64 er, .int .i64 p] 107 (0, 0))) (hSE : S ≠ E) (hle : w.heap.size ≤ E) (hb : Below w.heap.size w wX) :
    bodyPostD Tryd.prog Tryd.f16 (Parsed w r) (.panic [{ v := .iface 78 (.pointer (some ⟨A, 0, none⟩)), recovered := false }]) { tmps := tmps, defers := [{ target := .fn (.func 28) #[.pointer (some ⟨E, 0, none⟩)], args := #[] }] } wX := by
  have hAE : A ≠ E := fun e => by rw [e, hE] at hA; cases hA
  refine leaves_cons (f := 28) (args := #[.pointer (some ⟨E, 0, none⟩)]) (by simp) (by simp [go_sem]) ?_
  refine (catch_thrown E A wX .nilIface (by rw [blk_cell hE]; rfl) (blk_frozen hE 0)).mono ?_
  rintro e u' w'' ⟨rfl, rfl, rfl⟩
  have c0 : (wX.setCell ⟨E, 0, none⟩ (.iface 78 (.pointer (some ⟨A, 0, none⟩)))).cell? ⟨S, 0, none⟩ = some (.slice none 0 0) := by rw [blk_cell ((set_other _ 0 _ hSE).trans hS)]; rfl
  have c1 : (wX.setCell ⟨E, 0, none⟩ (.iface 78 (.pointer (some ⟨A, 0, none⟩)))).cell? ⟨S, 1, none⟩ = some (.slice none 0 0) := by rw [blk_cell ((set_other _ 0 _ hSE).trans hS)]; rfl
  have c2 : (wX.setCell ⟨E, 0, none⟩ (.iface 78 (.pointer (some ⟨A, 0, none⟩)))).cell? ⟨E, 0, none⟩ = some (.iface 78 (.pointer (some ⟨A, 0, none⟩))) := by rw [blk_cell (blk_set hE 0 _)]; rfl
  refine ⟨.tuple #[.agg #[.slice none 0 0, .slice none 0 0], .iface 78 (.pointer (some ⟨A, 0, none⟩))], by simp [results, Tryd.results16, go_sem, h4, h5, c0, c1, c2], ?_⟩
  subst hr
  exact ⟨hb.setCell hle _, A, rfl, (set_other _ 0 _ hAE).trans hA⟩

set_option maxRecDepth 100000 in
set_option maxHeartbeats 6400000 in
theorem whole_at (s : ByteArray) (w : World) (hs : s.size ≤ 1000000) (hv : Vars w) (h14 : 5 ≤ w.heap.size) :
    Calls Tryd.prog 16 #[.string s, .func (.func 17) #[] #[]] w (Parsed w (parse2 s)) := by
  have hmf : ∀ (fn : Fn) (first cap : Array Value) (w : World), (Instr.makeFunc fn first cap).run Tryd.prog w = .ok (.func fn first cap) w := fun _ _ _ _ => rfl
  have q0 := fld0
  have HV := hide hv
  clear hv
  go_enter_defers Tryd.func16, Tryd.ntmps16
  go_wp2_with fail
  have HB2 := hide (Below.step (below_alloc w (.cells #[.slice none 0 0, .slice none 0 0] 27)) (below_alloc _ (.cells #[.nilIface] 35)))
  have HS2 := hide (Below.blk (below_alloc (w.alloc (.cells #[.slice none 0 0, .slice none 0 0] 27)) (.cells #[.nilIface] 35)) (blk_new w (.cells #[.slice none 0 0, .slice none 0 0] 27)))
  have HE2 : Hid (((w.alloc (.cells #[.slice none 0 0, .slice none 0 0] 27)).alloc (.cells #[.nilIface] 35)).heap[w.heap.size + 1]? = some (.cells #[.nilIface] 35 (0, 0))) := blk_new2 w _ _
  have HSE := hide (show w.heap.size ≠ w.heap.size + 1 by omega)
  have HWE := hide (show w.heap.size ≤ w.heap.size + 1 by omega)
  generalize ((w.alloc (.cells #[.slice none 0 0, .slice none 0 0] 27)).alloc (.cells #[.nilIface] 35)) = w2 at *
  generalize w.heap.size + 1 = E at *
  refine (tokens_at s w2 hs (HV.out.below HB2.out)).mono ?_
  rintro e w3 ⟨hb3, h3⟩
  have HB3 := hide (Below.step HB2.out hb3)
  have HS3 := hide (Below.blk hb3 HS2.out)
  have HE3 := hide (Below.blk hb3 HE2.out)
  have HV3 := hide (HV.out.below HB3.out)
  have HL23 := hide hb3.size
  clear hb3
  cases ht : tokens s with
  | out => rw [ht] at h3; exact h3.elim
  | bad er p =>
    rw [ht] at h3
    obtain ⟨A, rfl, hA⟩ := h3
    have HA := hide hA
    have HT := hide ht
    clear hA ht
    go_wp2_with fail
    exact door_thrown _ rfl rfl (by unfold parse2; rw [HT.out]; rfl) HS3.out HE3.out HA.out HSE.out HWE.out HB3.out
  | ok ts kx =>
    rw [ht] at h3
    obtain ⟨hfit, hpos, T, cap, rfl, hT, hrow⟩ := h3
    have HT := hide ht
    have HFIT := hide hfit
    have HROW := hide hrow
    have HPOS := hide hpos
    have HTT := hide hT
    clear ht hfit hpos hT hrow
    have HTL := hide (HROW.out.lt HPOS.out)
    have HB4 := hide (below_alloc w3 (.cells #[.slice (some ⟨T, 0, none⟩) ts.length cap, .int .i64 0] 83))
    have HD4 : Hid (Rd (w3.alloc (.cells #[.slice (some ⟨T, 0, none⟩) ts.length cap, .int .i64 0] 83)) w3.heap.size T cap ts 0) := ⟨blk_new w3 _, HROW.out.kept (R := w3.heap.size) (Kept.of HB4.out) (by have := HTL.out; omega), (by have := HTL.out; omega), (by have := HB3.out.size; omega), HV3.out.below HB4.out, HPOS.out, HFIT.out⟩
    have HBX := hide (Below.step HB3.out HB4.out)
    have HS4 := hide (Below.blk HB4.out HS3.out)
    have HE4 := hide (Below.blk HB4.out HE3.out)
    have HSR := hide (show w.heap.size ≠ w3.heap.size by have := blk_lt HS3.out; omega)
    have HER := hide (show E ≠ w3.heap.size by have := blk_lt HE3.out; omega)
    have HWR := hide (show w.heap.size ≤ w3.heap.size from HB3.out.size)
    go_wp2_with fail
    generalize (w3.alloc (.cells #[.slice (some ⟨T, 0, none⟩) ts.length cap, .int .i64 0] 83)) = w4 at *
    generalize w3.heap.size = R at *
    refine (program_at (fuel2 ts) HD4.out (prog_out ts)).mono ?_
    rintro e w5 h5
    rcases h5.cases with ⟨er5, p5, A5, hr5, rfl, hA5, hk5⟩ | ⟨a5, k5, v5, hr5, rfl, hv5, hd5, hk5⟩
    · have Hr5 := hide hr5
      have HA5 := hide hA5
      have HB5 := hide (kept_below HBX.out hk5 HWR.out HBX.out.size)
      have HS5 := hide (hk5.blk HS4.out HSR.out)
      have HE5 := hide (hk5.blk HE4.out HER.out)
      clear h5 hr5 hA5 hk5
      go_wp2_with fail
      exact door_thrown _ rfl rfl (by unfold parse2; rw [HT.out]; simp only [Res.bind, wholeP, Hr5.out]) HS5.out HE5.out HA5.out HSE.out HWE.out HB5.out
    · obtain ⟨a, b, rfl, hda, hsb⟩ := hv5
      obtain ⟨aa, ac, rfl⟩ := hda.val
      obtain ⟨ba, bc, rfl⟩ := (show ∃ (x : Option Addr) (c : Nat), b = .slice x a5.2.length c from by obtain ⟨cs, hr, _⟩ := hsb; exact hr.val)
      have Hr5 := hide hr5
      have HB5 := hide (kept_below HBX.out hk5 HWR.out HBX.out.size)
      have HS5 := hide (hk5.blk HS4.out HSR.out)
      have HE5 := hide (hk5.blk HE4.out HER.out)
      have HD5 := hide hd5
      have HDA := hide hda
      have HSB := hide hsb
      clear h5 hr5 hd5 hk5 hda hsb
      have HB6 := hide (below_alloc w5 (.cells #[.slice aa a5.1.length ac, .slice ba a5.2.length bc] 27))
      have HN6 := hide (blk_new w5 (.cells #[.slice aa a5.1.length ac, .slice ba a5.2.length bc] 27))
      have HD6 := hide (HD5.out.below HB6.out)
      have HNW := hide (blk_lt HS5.out)
      have HNE := hide (blk_lt HE5.out)
      go_wp2_with fail
      generalize (w5.alloc (.cells #[.slice aa a5.1.length ac, .slice ba a5.2.length bc] 27)) = w6 at *
      refine (now_at HD6.out).mono ?_
      rintro e w7 ⟨rfl, hb7⟩
      have HB57 := hide (Below.step HB6.out hb7)
      have HD7 := hide (HD6.out.below hb7)
      have HN7 := hide (Below.blk hb7 HN6.out)
      have HB7 := hide (Below.step HB5.out HB57.out)
      have HS7 := hide (Below.blk HB57.out HS5.out)
      have HE7 := hide (Below.blk HB57.out HE5.out)
      clear hb7
      by_cases hk : (tk ts k5).kind = 0
      · have HK := hide hk
        have hki : ((tk ts k5).kind : Int) = 0 := by omega
        have n0 : w7.cell? ⟨w5.heap.size, 0, none⟩ = some (.slice aa a5.1.length ac) := by rw [blk_cell HN7.out]; rfl
        have n1 : w7.cell? ⟨w5.heap.size, 1, none⟩ = some (.slice ba a5.2.length bc) := by rw [blk_cell HN7.out]; rfl
        have s0 : w7.cell? ⟨w.heap.size, 0, none⟩ = some (.slice none 0 0) := by rw [blk_cell HS7.out]; rfl
        have s1 : w7.cell? ⟨w.heap.size, 1, none⟩ = some (.slice none 0 0) := by rw [blk_cell HS7.out]; rfl
        have sf : ∀ i, w7.frozen? ⟨w.heap.size, i, none⟩ = false := blk_frozen HS7.out
        have x0 : w7.cell? ⟨E, 0, none⟩ = some .nilIface := by rw [blk_cell HE7.out]; rfl
        have xf : ∀ i, w7.frozen? ⟨E, i, none⟩ = false := blk_frozen HE7.out
        have hne1 : ¬ w.heap.size = E := HSE.out
        have hne2 : ¬ E = w.heap.size := fun e => HSE.out e.symm
        rw [hki]
        go_wp2_with fail
        refine leaves_cons (f := 28) (args := #[.pointer (some ⟨E, 0, none⟩)]) (by simp) (by simp [go_sem]) ?_
        refine (catch_idle E _).mono ?_
        rintro e u' w8 ⟨rfl, rfl, rfl⟩
        refine ⟨.tuple #[.agg #[.slice aa a5.1.length ac, .slice ba a5.2.length bc], .nilIface], by simp [results, Tryd.results16, go_sem, s0, s1, x0], ?_⟩
        have hp : parse2 s = .ok a5 k5 := by unfold parse2; rw [HT.out]; simp only [Res.bind, wholeP, Hr5.out, if_pos HK.out]
        have keep : ∀ b, From w4.heap.size b → b < w5.heap.size → (((w7.setCell ⟨w.heap.size, 0, none⟩ (.slice aa a5.1.length ac)).setCell ⟨w.heap.size, 1, none⟩ (.slice ba a5.2.length bc)).setCell ⟨E, 0, none⟩ .nilIface).heap[b]? = w5.heap[b]? := fun b h1 h2 => by
          have h4 : w4.heap.size ≤ b := h1
          have hS := blk_lt HS4.out
          have hE := blk_lt HE4.out
          rw [set_other _ 0 _ (by omega), set_other _ 1 _ (by omega), set_other _ 0 _ (by omega)]
          exact HB57.out.block b h2
        have low : ∀ {W : World} b, b < W.heap.size → From w4.heap.size b → From w.heap.size b := fun b _ h => Nat.le_trans HBX.out.size h
        refine ⟨((HB7.out.setCell (Nat.le_refl _) _).setCell (Nat.le_refl _) _).setCell HWE.out _, ?_⟩
        rw [hp]
        exact ⟨_, rfl, _, _, rfl, (HDA.out.same keep).imp low, (HSB.out.same keep).imp low⟩
      · have HK := hide hk
        have hki : (((tk ts k5).kind : Int) != 0) = true := by simp; omega
        go_wp2_with fail
        refine (wrong_at 3 HD7.out).mono ?_
        rintro e w8 ⟨A, rfl, hA, hb8⟩
        have HA8 := hide hA
        have HB8 := hide (Below.step HB7.out hb8)
        have HS8 := hide (Below.blk hb8 HS7.out)
        have HE8 := hide (Below.blk hb8 HE7.out)
        clear hA hb8
        go_wp2_with fail
        exact door_thrown _ rfl rfl (by unfold parse2; rw [HT.out]; simp only [Res.bind, wholeP, Hr5.out, if_neg HK.out]) HS8.out HE8.out HA8.out HSE.out HWE.out HB8.out

set_option maxRecDepth 100000 in
set_option maxHeartbeats 3200000 in
theorem parse_at (s : ByteArray) (w : World) (hs : s.size ≤ 1000000) (hv : Vars w) (h14 : 5 ≤ w.heap.size) :
    Calls Tryd.prog 10 #[.string s] w (Parsed w (parse2 s)) := by
  have HV := hide hv
  clear hv
  go_enter Tryd.func10, Tryd.ntmps10
  go_wp2_with fail
  have HN1 := hide (blk_new w (.cells #[.slice none 0 0, .slice none 0 0] 27))
  have HB1 := hide (below_alloc w (.cells #[.slice none 0 0, .slice none 0 0] 27))
  have HL1 := hide (blk_lt HN1.out)
  generalize (w.alloc (.cells #[.slice none 0 0, .slice none 0 0] 27)) = w1 at *
  refine (whole_at s w1 hs (HV.out.below HB1.out) (by have := HB1.out.size; omega)).mono ?_
  rintro e w2 ⟨hb2, h2⟩
  have HB2 := hide (Below.step HB1.out hb2)
  have HN2 := hide (Below.blk hb2 HN1.out)
  have s0 : w2.cell? ⟨w.heap.size, 0, none⟩ = some (.slice none 0 0) := by rw [blk_cell HN2.out]; rfl
  have s1 : w2.cell? ⟨w.heap.size, 1, none⟩ = some (.slice none 0 0) := by rw [blk_cell HN2.out]; rfl
  have sf : ∀ i, w2.frozen? ⟨w.heap.size, i, none⟩ = false := blk_frozen HN2.out
  clear hb2
  cases hp : parse2 s with
  | out => rw [hp] at h2; exact h2.elim
  | bad er p =>
    rw [hp] at h2
    obtain ⟨A, rfl, hA⟩ := h2
    have HA := hide hA
    have HP := hide hp
    have HAS := hide (show A ≠ w.heap.size from fun e => by rw [e, HN2.out] at hA; cases hA)
    clear hA hp
    go_wp2_with fail
    refine bodyPost_ret (v := .tuple #[.agg #[.slice none 0 0, .slice none 0 0], .iface 78 (.pointer (some ⟨A, 0, none⟩))]) (by simp [results, Tryd.results10, go_sem, s0, s1]) rfl ?_
    refine ⟨(HB2.out.setCell (Nat.le_refl _) _).setCell (Nat.le_refl _) _, ?_⟩
    rw [HP.out]
    exact ⟨A, rfl, (set_other _ 1 _ HAS.out).trans ((set_other _ 0 _ HAS.out).trans HA.out)⟩
  | ok p k =>
    rw [hp] at h2
    obtain ⟨v, rfl, a, b, rfl, hda, hsb⟩ := h2
    obtain ⟨aa, ac, rfl⟩ := hda.val
    obtain ⟨ba, bc, rfl⟩ := (show ∃ (x : Option Addr) (c : Nat), b = .slice x p.2.length c from by obtain ⟨cs, hr, _⟩ := hsb; exact hr.val)
    have HDA := hide hda
    have HSB := hide hsb
    have HP := hide hp
    clear hda hsb hp
    go_wp2_with fail
    refine bodyPost_ret (v := .tuple #[.agg #[.slice aa p.1.length ac, .slice ba p.2.length bc], .nilIface]) (by simp [results, Tryd.results10, go_sem, s0, s1]) rfl ?_
    refine ⟨(HB2.out.setCell (Nat.le_refl _) _).setCell (Nat.le_refl _) _, ?_⟩
    have keep : ∀ b, From w1.heap.size b → b < w2.heap.size → ((w2.setCell ⟨w.heap.size, 0, none⟩ (.slice aa p.1.length ac)).setCell ⟨w.heap.size, 1, none⟩ (.slice ba p.2.length bc)).heap[b]? = w2.heap[b]? := fun b h1 _ => by
      have h4 : w1.heap.size ≤ b := h1
      have hS := HL1.out
      rw [set_other _ 1 _ (by omega), set_other _ 0 _ (by omega)]
    have low : ∀ {W : World} b, b < W.heap.size → From w1.heap.size b → From w.heap.size b := fun b _ h => Nat.le_trans HB1.out.size h
    rw [HP.out]
    exact ⟨_, rfl, _, _, rfl, (HDA.out.same keep).imp low, (HSB.out.same keep).imp low⟩
end Go.Proofs.YtiimnnancblbkaaDoor
