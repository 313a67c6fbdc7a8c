/-
  CONTRACT of Parse of the reference.
-/
import Derived.Test.YtlbgdoajaplabaaGreatDoorRTok
import Derived.Test.YtlbgdoajaplabaaGreatDoorWhole
namespace Go.Proofs.YtlbgdoajaplabaaGreatDoor
open Go.RowKit
set_option linter.unusedSimpArgs false
set_option linter.unusedVariables false

/-- what cutting a text into tokens comes to, said once more -/
def RCut (w : World) (r : Res (List Tok)) (e : Ending) (w' : World) : Prop :=
  Below w.heap.size w w' ∧ match r with
  | .out => False
  | .bad er p => e = .returned (.tuple #[.slice none 0 0, .agg #[.int .i64 er, .int .i64 p]])
  | .ok ts _ => ∃ T cap : Nat, e = .returned (.tuple #[.slice (some ⟨T, 0, none⟩) ts.length cap, .agg #[.int .i64 0, .int .i64 (-1)]]) ∧ RRow w' T ts ∧ w.heap.size ≤ T ∧ ts.length ≤ cap ∧ FitR ts
/-- what Parse of the reference comes to -/
def RParsed (w : World) (r : Res (List De × List St)) (e : Ending) (w' : World) : Prop :=
  Below w.heap.size w w' ∧ match r with
  | .out => False
  | .bad er p => e = .returned (.tuple #[.agg #[.slice none 0 0, .slice none 0 0], .agg #[.int .i64 er, .int .i64 p]])
  | .ok p _ => ∃ v : Value, e = .returned (.tuple #[v, .agg #[.int .i64 0, .int .i64 (-1)]]) ∧ PrRep w.heap.size w' v p

def r3Q (ts : List Tok) (F : Nat) : Res (List St) := (mustR ts [98, 101, 103, 105, 110] (declsP ts F 0 []).un).bind fun _ k => bodyP ts F 0 k []
theorem prog_split (ts : List Tok) (F : Nat) :
    (∃ er p, mustR ts [101, 110, 100] (r3Q ts F).un = .bad er p ∧ progP ts F = .bad er p) ∨ (∃ ds k1 b k3 k4, declsP ts F 0 [] = .ok ds k1 ∧ r3Q ts F = .ok b k3 ∧ mustR ts [101, 110, 100] (r3Q ts F).un = .ok () k4 ∧ progP ts F = .ok (ds, b) k4) ∨ progP ts F = .out := by
  rw [← prog_same]
  unfold progR r3Q mustR
  cases h1 : declsP ts F 0 [] with
  | out => exact .inr (.inr rfl)
  | bad er p => exact .inl ⟨er, p, rfl, rfl⟩
  | ok ds k1 =>
    simp only [Res.un, Res.bind_ok]
    cases h2 : wantP ts [98, 101, 103, 105, 110] k1 with
    | out => exact .inr (.inr rfl)
    | bad er p => exact .inl ⟨er, p, rfl, rfl⟩
    | ok u k2 =>
      simp only [Res.bind_ok]
      cases h3 : bodyP ts F 0 k2 [] with
      | out => exact .inr (.inr rfl)
      | bad er p => exact .inl ⟨er, p, rfl, rfl⟩
      | ok b k3 =>
        simp only [Res.un, Res.bind_ok]
        cases h4 : wantP ts [101, 110, 100] k3 with
        | out => exact .inr (.inr rfl)
        | bad er p => exact .inl ⟨er, p, rfl, rfl⟩
        | ok u k4 => exact .inr (.inl ⟨ds, k1, b, k3, k4, rfl, rfl, rfl, rfl⟩)

theorem toks_ne (s : ByteArray) : ∀ (f i : Nat) (acc ts : List Tok) (k : Nat), toks s f i acc = .ok ts k → 0 < ts.length
  | 0, _, _, _, _, h => by simp only [toks] at h; cases h
  | f + 1, i, acc, ts, k, h => by
    unfold toks at h
    split at h
    · split at h
      · cases h
      · split at h
        · cases h
        · exact toks_ne s f _ _ ts k h
    · cases h
      simp
theorem cell_set {w : World} {a : Addr} {u : Value} (h : w.cell? a = some u) {B i : Nat} {v : Value} (hn : a.block ≠ B) : (w.setCell ⟨B, i, none⟩ v).cell? a = some u :=
  (World.cell?_of_block (w := w) (set_other w i v hn)).trans h

set_option maxRecDepth 100000 in
set_option maxHeartbeats 6400000 in
theorem rparse_of (s : ByteArray) (w : World) (hs : s.size ≤ 1000000) (hv : RVars w) (h14 : 12 ≤ w.heap.size)
    (htok : ∀ W, RVars W → Calls Tryz.prog 15 #[.string s] W (RCut W (tokens s))) :
    Calls Tryz.prog 4 #[.string s] w (RParsed w (parse2 s)) := by
  have HV := hide hv
  have HT := hide htok
  have HPA : Hid (parse2 s = (tokens s).bind fun ts _ => wholeP ts (progP ts (fuel2 ts))) := hide rfl
  have HNE : Hid (∀ ts k, tokens s = .ok ts k → 0 < ts.length) := hide fun ts k e => toks_ne s _ _ _ ts k e
  have he := flt_eq
  have hb0 := Below.step (below_alloc w (.cells #[.slice none 0 0, .slice none 0 0] 25)) (below_alloc _ (.cells #[.int .i64 0, .int .i64 0] 28))
  have HB0 := hide hb0
  have HP0 := hide (Below.blk (below_alloc (w.alloc (.cells #[.slice none 0 0, .slice none 0 0] 25)) (.cells #[.int .i64 0, .int .i64 0] 28)) (blk_new w (.cells #[.slice none 0 0, .slice none 0 0] 25)))
  have HF0 : Hid (((w.alloc (.cells #[.slice none 0 0, .slice none 0 0] 25)).alloc (.cells #[.int .i64 0, .int .i64 0] 28)).heap[w.heap.size + 1]? = some (.cells #[.int .i64 0, .int .i64 0] 28 (0, 0))) := hide (by
    have := blk_new (w.alloc (.cells #[.slice none 0 0, .slice none 0 0] 25)) (.cells #[.int .i64 0, .int .i64 0] 28)
    simpa using this)
  generalize parse2 s = whole at *
  generalize tokens s = tks at *
  clear hv htok hb0
  go_enter Tryz.func4, Tryz.ntmps4
  go_wp2_with fail
  generalize (w.alloc (.cells #[.slice none 0 0, .slice none 0 0] 25)).alloc (.cells #[.int .i64 0, .int .i64 0] 28) = w0 at *
  refine (HT.out w0 (HV.out.below HB0.out)).mono ?_
  rintro e w1 ⟨hb1, h1⟩
  have HB1 := hide (Below.step HB0.out hb1)
  have HP1 := hide (Below.blk hb1 HP0.out)
  have HF1 := hide (Below.blk hb1 HF0.out)
  have facts : ∀ o : Obj, (w1.alloc o).cell? ⟨0, 0, none⟩ = some (.int .i64 0) ∧ (w1.alloc o).cell? ⟨0, 1, none⟩ = some (.int .i64 (-1)) ∧ (w1.alloc o).cell? ⟨w.heap.size, 0, none⟩ = some (.slice none 0 0) ∧ (w1.alloc o).cell? ⟨w.heap.size, 1, none⟩ = some (.slice none 0 0) ∧ (w1.alloc o).cell? ⟨w.heap.size + 1, 0, none⟩ = some (.int .i64 0) ∧ (w1.alloc o).cell? ⟨w.heap.size + 1, 1, none⟩ = some (.int .i64 0) ∧ (∀ i, (w1.alloc o).frozen? ⟨w.heap.size, i, none⟩ = false) ∧ (∀ i, (w1.alloc o).frozen? ⟨w.heap.size + 1, i, none⟩ = false) := fun o => by
    have hb := below_alloc w1 o
    have hf := (HV.out.below (Below.step HB1.out hb)).fine
    have hp := Below.blk hb HP1.out
    have hq := Below.blk hb HF1.out
    exact ⟨by rw [blk_cell hf]; rfl, by rw [blk_cell hf]; rfl, by rw [blk_cell hp]; rfl, by rw [blk_cell hp]; rfl, by rw [blk_cell hq]; rfl, by rw [blk_cell hq]; rfl, blk_frozen hp, blk_frozen hq⟩
  cases tks with
  | out => exact h1.elim
  | bad er q =>
    have h1 : e = .returned (.tuple #[.slice none 0 0, .agg #[.int .i64 er, .int .i64 q]]) := h1
    subst h1
    have HW : Hid (whole = .bad er q) := HPA
    have hq1 : (er == 0 && (q : Int) == -1) = false := by
      have : ((q : Int) == -1) = false := by rw [beq_eq_false_iff_ne]; omega
      rw [this, Bool.and_false]
    obtain ⟨g0, g1, p0, p1, q0, q1, pf, qf⟩ := facts (.cells #[.int .i64 er, .int .i64 q] 28)
    have hb2 := below_alloc w1 (.cells #[.int .i64 er, .int .i64 q] 28)
    have HB2 := hide (Below.step HB1.out hb2)
    have hn2 := blk_new w1 (.cells #[.int .i64 er, .int .i64 q] 28)
    have n0 : (w1.alloc (.cells #[.int .i64 er, .int .i64 q] 28)).cell? ⟨w1.heap.size, 0, none⟩ = some (.int .i64 er) := by rw [blk_cell hn2]; rfl
    have n1 : (w1.alloc (.cells #[.int .i64 er, .int .i64 q] 28)).cell? ⟨w1.heap.size, 1, none⟩ = some (.int .i64 q) := by rw [blk_cell hn2]; rfl
    have hsz1 : w1.heap.size ≠ w.heap.size ∧ w1.heap.size ≠ w.heap.size + 1 := by have := blk_lt HF1.out; omega
    have hz1 := hsz1.1
    have hz2 := hsz1.2
    clear hb1 HPA facts hb2 hn2 hsz1
    generalize hw2 : w1.alloc (.cells #[.int .i64 er, .int .i64 q] 28) = w2 at *
    have n0d : w2.drew.cell? ⟨w1.heap.size, 0, none⟩ = some (.int .i64 er) := n0
    have n1d : w2.drew.cell? ⟨w1.heap.size, 1, none⟩ = some (.int .i64 q) := n1
    have p0d : w2.drew.cell? ⟨w.heap.size, 0, none⟩ = some (.slice none 0 0) := p0
    have p1d : w2.drew.cell? ⟨w.heap.size, 1, none⟩ = some (.slice none 0 0) := p1
    have pfd : ∀ i, w2.drew.frozen? ⟨w.heap.size, i, none⟩ = false := pf
    go_wp2_with fail
    clear hw2
    generalize w1.heap.size = X at *
    generalize hP : w.heap.size = P at *
    refine wp_region_held_drew (S := fun w' => w'.cell? ⟨X, 0, none⟩ = some (.int .i64 er) ∧ w'.cell? ⟨X, 1, none⟩ = some (.int .i64 q)) (by kernel_rfl) ⟨n0d, n1d⟩ (fun _ => ?_)
    refine wpAnyH_take (i := 0) (oi := ⟨some 16, _, _, _, _, _⟩) (v := .agg #[.slice none 0 0, .slice none 0 0]) rfl (by kernel_rfl) (by kernel_rfl) (by kernel_rfl) (fun _ _ _ h => h) (Or.inl ⟨by rfl, fun W hS => by (obtain ⟨s0, s1⟩ := hS; go_simp)⟩) ⟨n0d, n1d⟩ ?_
    simp only [Act.put, List.setIfInBounds_toArray, List.set_cons_zero, List.set_cons_succ]
    refine wpAnyH_take (i := 1) (oi := ⟨some 17, _, _, _, _, _⟩) (v := .agg #[.int .i64 er, .int .i64 q]) rfl (by kernel_rfl) (by kernel_rfl) (by kernel_rfl) (fun _ _ _ h => h) (Or.inl ⟨by rfl, fun W hS => by (obtain ⟨s0, s1⟩ := hS; go_simp)⟩) ⟨n0d, n1d⟩ ?_
    simp only [Act.put, List.setIfInBounds_toArray, List.set_cons_zero, List.set_cons_succ]
    refine wpAnyH_ready (rs := [2]) (by kernel_rfl) (by simp) ?_
    refine AllReadyH.cons rfl (fun K hK => ?_) AllReadyH.nil
    go_simp
    have n0e : ((w2.drew.setCell ⟨P, 0, none⟩ (.slice none 0 0)).setCell ⟨P, 1, none⟩ (.slice none 0 0)).cell? ⟨X, 0, none⟩ = some (.int .i64 er) := cell_set (cell_set n0d hz1) hz1
    have n1e : ((w2.drew.setCell ⟨P, 0, none⟩ (.slice none 0 0)).setCell ⟨P, 1, none⟩ (.slice none 0 0)).cell? ⟨X, 1, none⟩ = some (.int .i64 q) := cell_set (cell_set n1d hz1) hz1
    refine hK.out _ _ ⟨n0e, n1e⟩ (fun _ => ?_)
    clear hK K
    have q0e : ((w2.drew.setCell ⟨P, 0, none⟩ (.slice none 0 0)).setCell ⟨P, 1, none⟩ (.slice none 0 0)).cell? ⟨P + 1, 0, none⟩ = some (.int .i64 0) := cell_set (cell_set q0 (by show P + 1 ≠ P; omega)) (by show P + 1 ≠ P; omega)
    have q1e : ((w2.drew.setCell ⟨P, 0, none⟩ (.slice none 0 0)).setCell ⟨P, 1, none⟩ (.slice none 0 0)).cell? ⟨P + 1, 1, none⟩ = some (.int .i64 0) := cell_set (cell_set q1 (by show P + 1 ≠ P; omega)) (by show P + 1 ≠ P; omega)
    refine wpAnyH_ready (rs := [3]) (by kernel_rfl) (by simp) ?_
    refine AllReadyH.cons rfl (fun K hK => ?_) AllReadyH.nil
    go_simp
    have z0 : ((((w2.drew.setCell ⟨P, 0, none⟩ (.slice none 0 0)).setCell ⟨P, 1, none⟩ (.slice none 0 0)).setCell ⟨P + 1, 0, none⟩ (.int .i64 er)).setCell ⟨P + 1, 1, none⟩ (.int .i64 q)).cell? ⟨X, 0, none⟩ = some (.int .i64 er) := cell_set (cell_set n0e hz2) hz2
    have z1 : ((((w2.drew.setCell ⟨P, 0, none⟩ (.slice none 0 0)).setCell ⟨P, 1, none⟩ (.slice none 0 0)).setCell ⟨P + 1, 0, none⟩ (.int .i64 er)).setCell ⟨P + 1, 1, none⟩ (.int .i64 q)).cell? ⟨X, 1, none⟩ = some (.int .i64 q) := cell_set (cell_set n1e hz2) hz2
    refine hK.out _ _ ⟨z0, z1⟩ (fun _ => ?_)
    clear hK K
    refine wpAnyH_done (by kernel_rfl) ?_ _
    go_wp2_with fail
    have hne : P ≠ P + 1 := by omega
    refine bodyPost_ret (v := .tuple #[.agg #[.slice none 0 0, .slice none 0 0], .agg #[.int .i64 er, .int .i64 q]]) (by simp [results, Tryz.results4, go_sem, p0, p1, q0, q1, hne]) rfl ?_
    rw [HW.out]
    refine ⟨?_, rfl⟩
    rw [hP]
    exact ((((HB2.out.drew.setCell (Nat.le_refl _) _).setCell (Nat.le_refl _) _).setCell (by show P ≤ P + 1; omega) _).setCell (by show P ≤ P + 1; omega) _)
  | ok ts u =>
    obtain ⟨T, cap, rfl, hrow, hT, hcap, hfit⟩ := h1
    have HW : Hid (whole = wholeP ts (progP ts (fuel2 ts))) := HPA
    obtain ⟨g0, g1, p0, p1, q0, q1, pf, qf⟩ := facts (.cells #[.int .i64 0, .int .i64 (-1)] 28)
    have hb2 := below_alloc w1 (.cells #[.int .i64 0, .int .i64 (-1)] 28)
    have HB2 := hide (Below.step HB1.out hb2)
    have HP2 := hide (Below.blk hb2 HP1.out)
    have HF2 := hide (Below.blk hb2 HF1.out)
    have HROW : Hid (RRow (w1.alloc (.cells #[.int .i64 0, .int .i64 (-1)] 28)) T ts) := hide fun i hi => ⟨cell_alloc (hrow i hi).1 _, cell_alloc (hrow i hi).2.1 _, cell_alloc (hrow i hi).2.2 _⟩
    have HFIT := hide hfit
    have hpos : 0 < ts.length := HNE.out ts u rfl
    have hT0 := cell_lt (hrow 0 hpos).1
    have hn2 := blk_new w1 (.cells #[.int .i64 0, .int .i64 (-1)] 28)
    have n0 : (w1.alloc (.cells #[.int .i64 0, .int .i64 (-1)] 28)).cell? ⟨w1.heap.size, 0, none⟩ = some (.int .i64 0) := by rw [blk_cell hn2]; rfl
    have n1 : (w1.alloc (.cells #[.int .i64 0, .int .i64 (-1)] 28)).cell? ⟨w1.heap.size, 1, none⟩ = some (.int .i64 (-1)) := by rw [blk_cell hn2]; rfl
    have hTw : T < w1.heap.size := hT0
    have hPw := blk_lt HF1.out
    have hs2 : Hid ((w1.alloc (.cells #[.int .i64 0, .int .i64 (-1)] 28)).heap.size = w1.heap.size + 1) := hide (by simp)
    clear hb1 HPA facts hb2 hrow hfit hn2
    generalize hw2 : w1.alloc (.cells #[.int .i64 0, .int .i64 (-1)] 28) = w2 at *
    have hb3 := Below.step (below_alloc w2 (.cells #[.slice (some ⟨T, 0, none⟩) ts.length cap, .int .i64 0, .int .i64 (-1)] 49)) (below_alloc _ (.cells #[.slice none 0 0, .slice none 0 0] 25))
    have HB3 := hide (Below.step HB2.out hb3)
    have HP3 := hide (Below.blk hb3 HP2.out)
    have HF3 := hide (Below.blk hb3 HF2.out)
    have hm3 := Below.blk (below_alloc (w2.alloc (.cells #[.slice (some ⟨T, 0, none⟩) ts.length cap, .int .i64 0, .int .i64 (-1)] 49)) (.cells #[.slice none 0 0, .slice none 0 0] 25)) (blk_new w2 (.cells #[.slice (some ⟨T, 0, none⟩) ts.length cap, .int .i64 0, .int .i64 (-1)] 49))
    have HR3 : Hid (Rr ((w2.alloc (.cells #[.slice (some ⟨T, 0, none⟩) ts.length cap, .int .i64 0, .int .i64 (-1)] 49)).alloc (.cells #[.slice none 0 0, .slice none 0 0] 25)) w2.heap.size T ts 0 0 (-1)) := hide ⟨⟨ts.length, cap, by omega, hcap, by simpa using hm3⟩, fun i hi => ⟨cell_alloc (cell_alloc (HROW.out i hi).1 _) _, cell_alloc (cell_alloc (HROW.out i hi).2.1 _) _, cell_alloc (cell_alloc (HROW.out i hi).2.2 _) _⟩, by have := hs2.out; omega, by have := hs2.out; omega, HV.out.below HB3.out, hpos, HFIT.out⟩
    have HV3 : Hid (((w2.alloc (.cells #[.slice (some ⟨T, 0, none⟩) ts.length cap, .int .i64 0, .int .i64 (-1)] 49)).alloc (.cells #[.slice none 0 0, .slice none 0 0] 25)).heap[w2.heap.size + 1]? = some (.cells #[.slice none 0 0, .slice none 0 0] 25 (0, 0))) := hide (by
      have := blk_new (w2.alloc (.cells #[.slice (some ⟨T, 0, none⟩) ts.length cap, .int .i64 0, .int .i64 (-1)] 49)) (.cells #[.slice none 0 0, .slice none 0 0] 25)
      simpa using this)
    have HSZ3 : Hid (((w2.alloc (.cells #[.slice (some ⟨T, 0, none⟩) ts.length cap, .int .i64 0, .int .i64 (-1)] 49)).alloc (.cells #[.slice none 0 0, .slice none 0 0] 25)).heap.size = w2.heap.size + 2) := hide (by simp)
    have HPW : Hid (w.heap.size + 1 < w2.heap.size ∧ T < w2.heap.size) := hide (by have := hs2.out; omega)
    have HO := hide (prog_out ts)
    have HSP := hide (prog_split ts (fuel2 ts))
    have HO1 : Hid (declsP ts (fuel2 ts) 0 [] ≠ .out) := hide fun e => prog_out ts (by simp only [progP, e, Res.bind])
    have HO3 : Hid (r3Q ts (fuel2 ts) ≠ .out) := hide (by
      rcases prog_split ts (fuel2 ts) with ⟨er, p, h1, h2⟩ | ⟨ds, k1, b, k3, k4, h1, h2, h3, h4⟩ | h1
      · intro e; rw [e] at h1; cases h1
      · rw [h2]; intro e; cases e
      · exact absurd h1 (prog_out ts))
    generalize fuel2 ts = F at *
    clear hb3 hm3
    go_wp2_with fail
    clear hw2 n0 n1 g0 g1 p0 p1 q0 q1 pf qf HP2 HF2 HB2 HROW hs2 hT0 hTw hPw
    generalize (w2.alloc (.cells #[.slice (some ⟨T, 0, none⟩) ts.length cap, .int .i64 0, .int .i64 (-1)] 49)).alloc (.cells #[.slice none 0 0, .slice none 0 0] 25) = w3 at *
    generalize w2.heap.size = R at *
    have hpw := HPW.out
    have hsz3 := HSZ3.out
    refine (rdecls_at F HR3.out HO1.out).mono ?_
    rintro e w4 ⟨hk4, hs4, v4, rfl, ⟨da, dn, dc, rfl⟩, hp4⟩
    have hv4 := hk4.blk HV3.out (show R + 1 ≠ R by omega)
    have HS5 : Hid (Rst (w4.setCell ⟨R + 1, 0, none⟩ (.slice da dn dc)) R T ts (declsP ts F 0 []).un) := hide (hs4.set (S := R + 1) 0 _ (by omega) (by omega) (by omega))
    have HV5 : Hid ((w4.setCell ⟨R + 1, 0, none⟩ (.slice da dn dc)).heap[R + 1]? = some (.cells #[.slice da dn dc, .slice none 0 0] 25 (0, 0))) := hide (by rw [blk_set hv4 0 _]; rfl)
    have HK5 : Hid (Kept2 R (R + 1) w3 (w4.setCell ⟨R + 1, 0, none⟩ (.slice da dn dc))) := hide (((Kept2.refl R (R + 1) w3).kept hk4).set 0 _)
    have HD5 : Hid (∀ ds k1, declsP ts F 0 [] = .ok ds k1 → IsDes (From (R + 2)) (w4.setCell ⟨R + 1, 0, none⟩ (.slice da dn dc)) ds (.slice da dn dc)) := hide fun ds k1 e => (IsRow.imp (hp4 ds k1 e) fun b _ h => by have h : w3.heap.size ≤ b := h; show R + 2 ≤ b; omega).same fun b h1 h2 => set_other _ 0 _ (by have h1 : R + 2 ≤ b := h1; omega)
    have y0 : w4.cell? ⟨R + 1, 0, none⟩ = some (.slice none 0 0) := by rw [blk_cell hv4]; rfl
    have yf0 : w4.frozen? ⟨R + 1, 0, none⟩ = false := blk_frozen hv4 0
    clear hk4 hs4 hp4 hv4
    go_wp2_with fail
    generalize w4.setCell ⟨R + 1, 0, none⟩ (.slice da dn dc) = w5 at *
    refine (rneed_at [98, 101, 103, 105, 110] (by decide) HS5.out).mono ?_
    rintro e w6 ⟨rfl, hs6, hk6⟩
    have HS6 := hide hs6
    have HV6 := hide (hk6.blk HV5.out (show R + 1 ≠ R by omega))
    have HK6 := hide (HK5.out.kept hk6)
    have HD6 : Hid (∀ ds k1, declsP ts F 0 [] = .ok ds k1 → IsDes (From (R + 2)) w6 ds (.slice da dn dc)) := hide fun ds k1 e => IsRow.same (HD5.out ds k1 e) fun b h1 h2 => hk6.block b h2 (by have h1 : R + 2 ≤ b := h1; omega)
    clear hs6 hk6 y0 yf0
    go_wp2_with fail
    refine (rbody_any (deep := 0) F (rbody_at F) HS6.out (by omega) HO3.out).mono ?_
    rintro e w7 ⟨hk7, hs7, v7, rfl, ⟨ba, bn, bc, rfl⟩, hp7⟩
    have hv7 := hk7.blk HV6.out (show R + 1 ≠ R by omega)
    have hz6 : R + 2 ≤ w6.heap.size := by have := HK6.out.size; omega
    have HS8 : Hid (Rst (w7.setCell ⟨R + 1, 1, none⟩ (.slice ba bn bc)) R T ts (r3Q ts F).un) := hide (hs7.set (S := R + 1) 1 _ (by omega) (by omega) (by omega))
    have HV8 : Hid ((w7.setCell ⟨R + 1, 1, none⟩ (.slice ba bn bc)).heap[R + 1]? = some (.cells #[.slice da dn dc, .slice ba bn bc] 25 (0, 0))) := hide (by rw [blk_set hv7 1 _]; rfl)
    have HK8 : Hid (Kept2 R (R + 1) w3 (w7.setCell ⟨R + 1, 1, none⟩ (.slice ba bn bc))) := hide ((HK6.out.kept hk7).set 1 _)
    have HD8 : Hid (∀ ds k1, declsP ts F 0 [] = .ok ds k1 → IsDes (From (R + 2)) (w7.setCell ⟨R + 1, 1, none⟩ (.slice ba bn bc)) ds (.slice da dn dc)) := hide fun ds k1 e => IsRow.same (IsRow.same (HD6.out ds k1 e) fun b h1 h2 => hk7.block b h2 (by have h1 : R + 2 ≤ b := h1; omega)) fun b h1 h2 => set_other _ 1 _ (by have h1 : R + 2 ≤ b := h1; omega)
    have HE8 : Hid (∀ b k3, r3Q ts F = .ok b k3 → IsSts (From (R + 2)) (w7.setCell ⟨R + 1, 1, none⟩ (.slice ba bn bc)) b (.slice ba bn bc)) := hide fun b k3 e => ((hp7 b k3 e).imp fun c _ h => by have h : w6.heap.size ≤ c := h; show R + 2 ≤ c; omega).same fun c h1 h2 => set_other _ 1 _ (by have h1 : R + 2 ≤ c := h1; omega)
    have y1 : w7.cell? ⟨R + 1, 1, none⟩ = some (.slice none 0 0) := by rw [blk_cell hv7]; rfl
    have yf1 : w7.frozen? ⟨R + 1, 1, none⟩ = false := blk_frozen hv7 1
    clear hk7 hs7 hp7 hv7 HV6 HK6 HD6 HS6 HV5 HK5 HD5 HS5
    go_wp2_with fail
    generalize w7.setCell ⟨R + 1, 1, none⟩ (.slice ba bn bc) = w8 at *
    refine (rneed_at [101, 110, 100] (by decide) HS8.out).mono ?_
    rintro e w9 ⟨rfl, hs9, hk9⟩
    have HS9 := hide hs9
    have HV9 := hide (hk9.blk HV8.out (show R + 1 ≠ R by omega))
    have HK9 := hide (HK8.out.kept hk9)
    have HD9 : Hid (∀ ds k1, declsP ts F 0 [] = .ok ds k1 → IsDes (From (R + 2)) w9 ds (.slice da dn dc)) := hide fun ds k1 e => IsRow.same (HD8.out ds k1 e) fun b h1 h2 => hk9.block b h2 (by have h1 : R + 2 ≤ b := h1; omega)
    have HE9 : Hid (∀ b k3, r3Q ts F = .ok b k3 → IsSts (From (R + 2)) w9 b (.slice ba bn bc)) := hide fun b k3 e => (HE8.out b k3 e).same fun c h1 h2 => hk9.block c h2 (by have h1 : R + 2 ≤ c := h1; omega)
    have HP9 := hide ((HK9.out.block w.heap.size (by omega) (by omega) (by omega)).trans HP3.out)
    have HF9 := hide ((HK9.out.block (w.heap.size + 1) (by omega) (by omega) (by omega)).trans HF3.out)
    have HB9 : Hid (Below w.heap.size w w9) := hide ⟨HK9.out.os.trans HB3.out.os, HK9.out.tape.trans HB3.out.tape, HK9.out.output.trans HB3.out.output, Nat.le_trans HB3.out.size HK9.out.size, fun b hb => (HK9.out.block b (Nat.lt_of_lt_of_le hb HB3.out.size) (by omega) (by omega)).trans (HB3.out.block b hb)⟩
    clear hs9 hk9 HS8 HV8 HK8 HD8 HE8 y1 yf1
    rcases HSP.out with ⟨er, q, hr4, hpr⟩ | ⟨ds, k1, b, k3, k4, hr1, hr3, hr4, hpr⟩ | hpr
    · rw [hr4] at HS9
      have HW2 : Hid (whole = .bad er q) := hide (by rw [HW.out, hpr]; rfl)
      obtain ⟨kk, hkk⟩ := HS9.out
      obtain ⟨n, c, h0, _, _, r0, c0, _, _, _, hm⟩ := hkk.cells
      have hend := rk_end hkk.fit kk
      clear hm hkk
      cases hkd : ((tk ts kk).kind == 0) with
      | true =>
        have hk4 : (((rk (tk ts kk) : Nat) : Int) != 4) = false := by rw [bne, hend, hkd]; rfl
        clear hend hkd
        go_wp2_with fail
        have HSA := HS9
        have HBA := HB9
        have HPA := HP9
        have HFA := HF9
        generalize w9 = wA at HSA HBA HPA HFA ⊢
        refine (rok_bad HSA.out).mono ?_
        rintro e wB ⟨rfl, hbB⟩
        have HBB := hide (Below.step HBA.out hbB)
        have HPB := hide (Below.blk hbB HPA.out)
        have HFB := hide (Below.blk hbB HFA.out)
        obtain ⟨kb, hkb⟩ := Rst.below hbB HSA.out
        obtain ⟨nb, cb, _, _, _, _, _, _, _, _, hmb⟩ := hkb.cells
        have n0d : wB.drew.cell? ⟨R, 1, none⟩ = some (.int .i64 er) := by
          have : wB.cell? ⟨R, 1, none⟩ = some (.int .i64 er) := by rw [blk_cell hmb]; rfl
          exact this
        have n1d : wB.drew.cell? ⟨R, 2, none⟩ = some (.int .i64 q) := by
          have : wB.cell? ⟨R, 2, none⟩ = some (.int .i64 q) := by rw [blk_cell hmb]; rfl
          exact this
        have p0 : wB.cell? ⟨w.heap.size, 0, none⟩ = some (.slice none 0 0) := by rw [blk_cell HPB.out]; rfl
        have p1 : wB.cell? ⟨w.heap.size, 1, none⟩ = some (.slice none 0 0) := by rw [blk_cell HPB.out]; rfl
        have q0 : wB.cell? ⟨w.heap.size + 1, 0, none⟩ = some (.int .i64 0) := by rw [blk_cell HFB.out]; rfl
        have q1 : wB.cell? ⟨w.heap.size + 1, 1, none⟩ = some (.int .i64 0) := by rw [blk_cell HFB.out]; rfl
        have pf : ∀ i, wB.frozen? ⟨w.heap.size, i, none⟩ = false := blk_frozen HPB.out
        have qf : ∀ i, wB.frozen? ⟨w.heap.size + 1, i, none⟩ = false := blk_frozen HFB.out
        have hz1 : R ≠ w.heap.size := by omega
        have hz2 : R ≠ w.heap.size + 1 := by omega
        clear hbB hkb hmb
        go_wp2_with fail
        generalize hP : w.heap.size = P at *
        refine wp_region_held_drew (S := fun w' => w'.cell? ⟨R, 1, none⟩ = some (.int .i64 er) ∧ w'.cell? ⟨R, 2, none⟩ = some (.int .i64 q)) (by kernel_rfl) ⟨n0d, n1d⟩ (fun _ => ?_)
        refine wpAnyH_take (i := 0) (oi := ⟨some 45, _, _, _, _, _⟩) (v := .agg #[.slice none 0 0, .slice none 0 0]) rfl (by kernel_rfl) (by kernel_rfl) (by kernel_rfl) (fun _ _ _ h => h) (Or.inl ⟨by rfl, fun W hS => by (obtain ⟨s0, s1⟩ := hS; go_simp)⟩) ⟨n0d, n1d⟩ ?_
        simp only [Act.put, List.setIfInBounds_toArray, List.set_cons_zero, List.set_cons_succ]
        refine wpAnyH_take (i := 1) (oi := ⟨some 46, _, _, _, _, _⟩) (v := .pointer (some ⟨R, 0, none⟩)) rfl (by kernel_rfl) (by kernel_rfl) (by kernel_rfl) (fun _ _ _ h => h) (Or.inl ⟨by rfl, fun W hS => by (obtain ⟨s0, s1⟩ := hS; go_simp)⟩) ⟨n0d, n1d⟩ ?_
        simp only [Act.put, List.setIfInBounds_toArray, List.set_cons_zero, List.set_cons_succ]
        refine wpAnyH_take (i := 2) (oi := ⟨some 47, _, _, _, _, _⟩) (v := .pointer (some ⟨R, 0, none⟩)) rfl (by kernel_rfl) (by kernel_rfl) (by kernel_rfl) (fun _ _ _ h => h) (Or.inl ⟨by rfl, fun W hS => by (obtain ⟨s0, s1⟩ := hS; go_simp)⟩) ⟨n0d, n1d⟩ ?_
        simp only [Act.put, List.setIfInBounds_toArray, List.set_cons_zero, List.set_cons_succ]
        refine wpAnyH_take (i := 3) (oi := ⟨some 48, _, _, _, _, _⟩) (v := .pointer (some ⟨R, 1, none⟩)) rfl (by kernel_rfl) (by kernel_rfl) (by kernel_rfl) (fun _ _ _ h => h) (Or.inl ⟨by rfl, fun W hS => by (obtain ⟨s0, s1⟩ := hS; go_simp)⟩) ⟨n0d, n1d⟩ ?_
        simp only [Act.put, List.setIfInBounds_toArray, List.set_cons_zero, List.set_cons_succ]
        refine wpAnyH_take (i := 4) (oi := ⟨some 49, _, _, _, _, _⟩) (v := .agg #[.int .i64 er, .int .i64 q]) rfl (by kernel_rfl) (by kernel_rfl) (by kernel_rfl) (fun _ _ _ h => h) (Or.inl ⟨by rfl, fun W hS => by (obtain ⟨s0, s1⟩ := hS; go_simp)⟩) ⟨n0d, n1d⟩ ?_
        simp only [Act.put, List.setIfInBounds_toArray, List.set_cons_zero, List.set_cons_succ]
        have p0d : wB.drew.cell? ⟨P, 0, none⟩ = some (.slice none 0 0) := p0
        have p1d : wB.drew.cell? ⟨P, 1, none⟩ = some (.slice none 0 0) := p1
        have pfd : ∀ i, wB.drew.frozen? ⟨P, i, none⟩ = false := pf
        refine wpAnyH_ready (rs := [5]) (by kernel_rfl) (by simp) ?_
        refine AllReadyH.cons rfl (fun K hK => ?_) AllReadyH.nil
        go_simp
        have n0e : ((wB.drew.setCell ⟨P, 0, none⟩ (.slice none 0 0)).setCell ⟨P, 1, none⟩ (.slice none 0 0)).cell? ⟨R, 1, none⟩ = some (.int .i64 er) := cell_set (cell_set n0d hz1) hz1
        have n1e : ((wB.drew.setCell ⟨P, 0, none⟩ (.slice none 0 0)).setCell ⟨P, 1, none⟩ (.slice none 0 0)).cell? ⟨R, 2, none⟩ = some (.int .i64 q) := cell_set (cell_set n1d hz1) hz1
        refine hK.out _ _ ⟨n0e, n1e⟩ (fun _ => ?_)
        clear hK K
        have q0e : ((wB.drew.setCell ⟨P, 0, none⟩ (.slice none 0 0)).setCell ⟨P, 1, none⟩ (.slice none 0 0)).cell? ⟨P + 1, 0, none⟩ = some (.int .i64 0) := cell_set (cell_set q0 (by show P + 1 ≠ P; omega)) (by show P + 1 ≠ P; omega)
        have q1e : ((wB.drew.setCell ⟨P, 0, none⟩ (.slice none 0 0)).setCell ⟨P, 1, none⟩ (.slice none 0 0)).cell? ⟨P + 1, 1, none⟩ = some (.int .i64 0) := cell_set (cell_set q1 (by show P + 1 ≠ P; omega)) (by show P + 1 ≠ P; omega)
        refine wpAnyH_ready (rs := [6]) (by kernel_rfl) (by simp) ?_
        refine AllReadyH.cons rfl (fun K hK => ?_) AllReadyH.nil
        go_simp
        have z0 : ((((wB.drew.setCell ⟨P, 0, none⟩ (.slice none 0 0)).setCell ⟨P, 1, none⟩ (.slice none 0 0)).setCell ⟨P + 1, 0, none⟩ (.int .i64 er)).setCell ⟨P + 1, 1, none⟩ (.int .i64 q)).cell? ⟨R, 1, none⟩ = some (.int .i64 er) := cell_set (cell_set n0e hz2) hz2
        have z1 : ((((wB.drew.setCell ⟨P, 0, none⟩ (.slice none 0 0)).setCell ⟨P, 1, none⟩ (.slice none 0 0)).setCell ⟨P + 1, 0, none⟩ (.int .i64 er)).setCell ⟨P + 1, 1, none⟩ (.int .i64 q)).cell? ⟨R, 2, none⟩ = some (.int .i64 q) := cell_set (cell_set n1e hz2) hz2
        refine hK.out _ _ ⟨z0, z1⟩ (fun _ => ?_)
        clear hK K
        refine wpAnyH_done (by kernel_rfl) ?_ _
        go_wp2_with fail
        have hne : P ≠ P + 1 := by omega
        refine bodyPost_ret (v := .tuple #[.agg #[.slice none 0 0, .slice none 0 0], .agg #[.int .i64 er, .int .i64 q]]) (by simp [results, Tryz.results4, go_sem, p0, p1, q0, q1, hne]) rfl ?_
        rw [HW2.out]
        refine ⟨?_, rfl⟩
        rw [hP]
        exact ((((HBB.out.drew.setCell (Nat.le_refl _) _).setCell (Nat.le_refl _) _).setCell (by show P ≤ P + 1; omega) _).setCell (by show P ≤ P + 1; omega) _)
      | false =>
        have hk4 : (((rk (tk ts kk) : Nat) : Int) != 4) = true := by rw [bne, hend, hkd]; rfl
        clear hend hkd
        go_wp2_with fail
        refine (rfails_bad 3 (r := .bad er q) HS9.out rfl).mono ?_
        rintro e wA ⟨rfl, hbA⟩
        have HSA := hide (Rst.below hbA HS9.out)
        have HBA := hide (Below.step HB9.out hbA)
        have HPA := hide (Below.blk hbA HP9.out)
        have HFA := hide (Below.blk hbA HF9.out)
        clear hbA r0 c0
        go_wp2_with fail
        refine (rok_bad HSA.out).mono ?_
        rintro e wB ⟨rfl, hbB⟩
        have HBB := hide (Below.step HBA.out hbB)
        have HPB := hide (Below.blk hbB HPA.out)
        have HFB := hide (Below.blk hbB HFA.out)
        obtain ⟨kb, hkb⟩ := Rst.below hbB HSA.out
        obtain ⟨nb, cb, _, _, _, _, _, _, _, _, hmb⟩ := hkb.cells
        have n0d : wB.drew.cell? ⟨R, 1, none⟩ = some (.int .i64 er) := by
          have : wB.cell? ⟨R, 1, none⟩ = some (.int .i64 er) := by rw [blk_cell hmb]; rfl
          exact this
        have n1d : wB.drew.cell? ⟨R, 2, none⟩ = some (.int .i64 q) := by
          have : wB.cell? ⟨R, 2, none⟩ = some (.int .i64 q) := by rw [blk_cell hmb]; rfl
          exact this
        have p0 : wB.cell? ⟨w.heap.size, 0, none⟩ = some (.slice none 0 0) := by rw [blk_cell HPB.out]; rfl
        have p1 : wB.cell? ⟨w.heap.size, 1, none⟩ = some (.slice none 0 0) := by rw [blk_cell HPB.out]; rfl
        have q0 : wB.cell? ⟨w.heap.size + 1, 0, none⟩ = some (.int .i64 0) := by rw [blk_cell HFB.out]; rfl
        have q1 : wB.cell? ⟨w.heap.size + 1, 1, none⟩ = some (.int .i64 0) := by rw [blk_cell HFB.out]; rfl
        have pf : ∀ i, wB.frozen? ⟨w.heap.size, i, none⟩ = false := blk_frozen HPB.out
        have qf : ∀ i, wB.frozen? ⟨w.heap.size + 1, i, none⟩ = false := blk_frozen HFB.out
        have hz1 : R ≠ w.heap.size := by omega
        have hz2 : R ≠ w.heap.size + 1 := by omega
        clear hbB hkb hmb
        go_wp2_with fail
        generalize hP : w.heap.size = P at *
        refine wp_region_held_drew (S := fun w' => w'.cell? ⟨R, 1, none⟩ = some (.int .i64 er) ∧ w'.cell? ⟨R, 2, none⟩ = some (.int .i64 q)) (by kernel_rfl) ⟨n0d, n1d⟩ (fun _ => ?_)
        refine wpAnyH_take (i := 0) (oi := ⟨some 45, _, _, _, _, _⟩) (v := .agg #[.slice none 0 0, .slice none 0 0]) rfl (by kernel_rfl) (by kernel_rfl) (by kernel_rfl) (fun _ _ _ h => h) (Or.inl ⟨by rfl, fun W hS => by (obtain ⟨s0, s1⟩ := hS; go_simp)⟩) ⟨n0d, n1d⟩ ?_
        simp only [Act.put, List.setIfInBounds_toArray, List.set_cons_zero, List.set_cons_succ]
        refine wpAnyH_take (i := 1) (oi := ⟨some 46, _, _, _, _, _⟩) (v := .pointer (some ⟨R, 0, none⟩)) rfl (by kernel_rfl) (by kernel_rfl) (by kernel_rfl) (fun _ _ _ h => h) (Or.inl ⟨by rfl, fun W hS => by (obtain ⟨s0, s1⟩ := hS; go_simp)⟩) ⟨n0d, n1d⟩ ?_
        simp only [Act.put, List.setIfInBounds_toArray, List.set_cons_zero, List.set_cons_succ]
        refine wpAnyH_take (i := 2) (oi := ⟨some 47, _, _, _, _, _⟩) (v := .pointer (some ⟨R, 0, none⟩)) rfl (by kernel_rfl) (by kernel_rfl) (by kernel_rfl) (fun _ _ _ h => h) (Or.inl ⟨by rfl, fun W hS => by (obtain ⟨s0, s1⟩ := hS; go_simp)⟩) ⟨n0d, n1d⟩ ?_
        simp only [Act.put, List.setIfInBounds_toArray, List.set_cons_zero, List.set_cons_succ]
        refine wpAnyH_take (i := 3) (oi := ⟨some 48, _, _, _, _, _⟩) (v := .pointer (some ⟨R, 1, none⟩)) rfl (by kernel_rfl) (by kernel_rfl) (by kernel_rfl) (fun _ _ _ h => h) (Or.inl ⟨by rfl, fun W hS => by (obtain ⟨s0, s1⟩ := hS; go_simp)⟩) ⟨n0d, n1d⟩ ?_
        simp only [Act.put, List.setIfInBounds_toArray, List.set_cons_zero, List.set_cons_succ]
        refine wpAnyH_take (i := 4) (oi := ⟨some 49, _, _, _, _, _⟩) (v := .agg #[.int .i64 er, .int .i64 q]) rfl (by kernel_rfl) (by kernel_rfl) (by kernel_rfl) (fun _ _ _ h => h) (Or.inl ⟨by rfl, fun W hS => by (obtain ⟨s0, s1⟩ := hS; go_simp)⟩) ⟨n0d, n1d⟩ ?_
        simp only [Act.put, List.setIfInBounds_toArray, List.set_cons_zero, List.set_cons_succ]
        have p0d : wB.drew.cell? ⟨P, 0, none⟩ = some (.slice none 0 0) := p0
        have p1d : wB.drew.cell? ⟨P, 1, none⟩ = some (.slice none 0 0) := p1
        have pfd : ∀ i, wB.drew.frozen? ⟨P, i, none⟩ = false := pf
        refine wpAnyH_ready (rs := [5]) (by kernel_rfl) (by simp) ?_
        refine AllReadyH.cons rfl (fun K hK => ?_) AllReadyH.nil
        go_simp
        have n0e : ((wB.drew.setCell ⟨P, 0, none⟩ (.slice none 0 0)).setCell ⟨P, 1, none⟩ (.slice none 0 0)).cell? ⟨R, 1, none⟩ = some (.int .i64 er) := cell_set (cell_set n0d hz1) hz1
        have n1e : ((wB.drew.setCell ⟨P, 0, none⟩ (.slice none 0 0)).setCell ⟨P, 1, none⟩ (.slice none 0 0)).cell? ⟨R, 2, none⟩ = some (.int .i64 q) := cell_set (cell_set n1d hz1) hz1
        refine hK.out _ _ ⟨n0e, n1e⟩ (fun _ => ?_)
        clear hK K
        have q0e : ((wB.drew.setCell ⟨P, 0, none⟩ (.slice none 0 0)).setCell ⟨P, 1, none⟩ (.slice none 0 0)).cell? ⟨P + 1, 0, none⟩ = some (.int .i64 0) := cell_set (cell_set q0 (by show P + 1 ≠ P; omega)) (by show P + 1 ≠ P; omega)
        have q1e : ((wB.drew.setCell ⟨P, 0, none⟩ (.slice none 0 0)).setCell ⟨P, 1, none⟩ (.slice none 0 0)).cell? ⟨P + 1, 1, none⟩ = some (.int .i64 0) := cell_set (cell_set q1 (by show P + 1 ≠ P; omega)) (by show P + 1 ≠ P; omega)
        refine wpAnyH_ready (rs := [6]) (by kernel_rfl) (by simp) ?_
        refine AllReadyH.cons rfl (fun K hK => ?_) AllReadyH.nil
        go_simp
        have z0 : ((((wB.drew.setCell ⟨P, 0, none⟩ (.slice none 0 0)).setCell ⟨P, 1, none⟩ (.slice none 0 0)).setCell ⟨P + 1, 0, none⟩ (.int .i64 er)).setCell ⟨P + 1, 1, none⟩ (.int .i64 q)).cell? ⟨R, 1, none⟩ = some (.int .i64 er) := cell_set (cell_set n0e hz2) hz2
        have z1 : ((((wB.drew.setCell ⟨P, 0, none⟩ (.slice none 0 0)).setCell ⟨P, 1, none⟩ (.slice none 0 0)).setCell ⟨P + 1, 0, none⟩ (.int .i64 er)).setCell ⟨P + 1, 1, none⟩ (.int .i64 q)).cell? ⟨R, 2, none⟩ = some (.int .i64 q) := cell_set (cell_set n1e hz2) hz2
        refine hK.out _ _ ⟨z0, z1⟩ (fun _ => ?_)
        clear hK K
        refine wpAnyH_done (by kernel_rfl) ?_ _
        go_wp2_with fail
        have hne : P ≠ P + 1 := by omega
        refine bodyPost_ret (v := .tuple #[.agg #[.slice none 0 0, .slice none 0 0], .agg #[.int .i64 er, .int .i64 q]]) (by simp [results, Tryz.results4, go_sem, p0, p1, q0, q1, hne]) rfl ?_
        rw [HW2.out]
        refine ⟨?_, rfl⟩
        rw [hP]
        exact ((((HBB.out.drew.setCell (Nat.le_refl _) _).setCell (Nat.le_refl _) _).setCell (by show P ≤ P + 1; omega) _).setCell (by show P ≤ P + 1; omega) _)
    · rw [hr4] at HS9
      obtain ⟨n, c, h0, _, _, r0, c0, _, _, _, _⟩ := HS9.out.good.cells
      have hend := rk_end HFIT.out k4
      cases hkd : ((tk ts k4).kind == 0) with
      | false =>
        have hk4 : (((rk (tk ts k4) : Nat) : Int) != 4) = true := by rw [bne, hend, hkd]; rfl
        have HW2 : Hid (whole = .bad 3 (tk ts k4).pos) := hide (by
          have hkn : ¬ (tk ts k4).kind = 0 := by simpa using hkd
          rw [HW.out, hpr]
          simp only [wholeP, Res.bind_ok, if_neg hkn])
        clear hend hkd
        go_wp2_with fail
        refine (rfails_good 3 HS9.out.good).mono ?_
        rintro e wA ⟨rfl, hdA, hkA⟩
        have HSA : Hid (Rst wA R T ts (.bad 3 (tk ts k4).pos)) := hide ⟨k4, hdA⟩
        have HPA := hide (hkA.blk HP9.out (show w.heap.size ≠ R by omega))
        have HFA := hide (hkA.blk HF9.out (show w.heap.size + 1 ≠ R by omega))
        have HBA : Hid (Below w.heap.size w wA) := hide ⟨hkA.os.trans HB9.out.os, hkA.tape.trans HB9.out.tape, hkA.output.trans HB9.out.output, Nat.le_trans HB9.out.size hkA.size, fun b hb => (hkA.block b (Nat.lt_of_lt_of_le hb HB9.out.size) (by omega)).trans (HB9.out.block b hb)⟩
        clear hdA hkA r0 c0
        generalize (tk ts k4).pos = pz at *
        go_wp2_with fail
        refine (rok_bad HSA.out).mono ?_
        rintro e wB ⟨rfl, hbB⟩
        have HBB := hide (Below.step HBA.out hbB)
        have HPB := hide (Below.blk hbB HPA.out)
        have HFB := hide (Below.blk hbB HFA.out)
        obtain ⟨kb, hkb⟩ := Rst.below hbB HSA.out
        obtain ⟨nb, cb, _, _, _, _, _, _, _, _, hmb⟩ := hkb.cells
        have n0d : wB.drew.cell? ⟨R, 1, none⟩ = some (.int .i64 3) := by
          have : wB.cell? ⟨R, 1, none⟩ = some (.int .i64 3) := by rw [blk_cell hmb]; rfl
          exact this
        have n1d : wB.drew.cell? ⟨R, 2, none⟩ = some (.int .i64 pz) := by
          have : wB.cell? ⟨R, 2, none⟩ = some (.int .i64 pz) := by rw [blk_cell hmb]; rfl
          exact this
        have p0 : wB.cell? ⟨w.heap.size, 0, none⟩ = some (.slice none 0 0) := by rw [blk_cell HPB.out]; rfl
        have p1 : wB.cell? ⟨w.heap.size, 1, none⟩ = some (.slice none 0 0) := by rw [blk_cell HPB.out]; rfl
        have q0 : wB.cell? ⟨w.heap.size + 1, 0, none⟩ = some (.int .i64 0) := by rw [blk_cell HFB.out]; rfl
        have q1 : wB.cell? ⟨w.heap.size + 1, 1, none⟩ = some (.int .i64 0) := by rw [blk_cell HFB.out]; rfl
        have pf : ∀ i, wB.frozen? ⟨w.heap.size, i, none⟩ = false := blk_frozen HPB.out
        have qf : ∀ i, wB.frozen? ⟨w.heap.size + 1, i, none⟩ = false := blk_frozen HFB.out
        have hz1 : R ≠ w.heap.size := by omega
        have hz2 : R ≠ w.heap.size + 1 := by omega
        clear hbB hkb hmb
        go_wp2_with fail
        generalize hP : w.heap.size = P at *
        refine wp_region_held_drew (S := fun w' => w'.cell? ⟨R, 1, none⟩ = some (.int .i64 3) ∧ w'.cell? ⟨R, 2, none⟩ = some (.int .i64 pz)) (by kernel_rfl) ⟨n0d, n1d⟩ (fun _ => ?_)
        refine wpAnyH_take (i := 0) (oi := ⟨some 45, _, _, _, _, _⟩) (v := .agg #[.slice none 0 0, .slice none 0 0]) rfl (by kernel_rfl) (by kernel_rfl) (by kernel_rfl) (fun _ _ _ h => h) (Or.inl ⟨by rfl, fun W hS => by (obtain ⟨s0, s1⟩ := hS; go_simp)⟩) ⟨n0d, n1d⟩ ?_
        simp only [Act.put, List.setIfInBounds_toArray, List.set_cons_zero, List.set_cons_succ]
        refine wpAnyH_take (i := 1) (oi := ⟨some 46, _, _, _, _, _⟩) (v := .pointer (some ⟨R, 0, none⟩)) rfl (by kernel_rfl) (by kernel_rfl) (by kernel_rfl) (fun _ _ _ h => h) (Or.inl ⟨by rfl, fun W hS => by (obtain ⟨s0, s1⟩ := hS; go_simp)⟩) ⟨n0d, n1d⟩ ?_
        simp only [Act.put, List.setIfInBounds_toArray, List.set_cons_zero, List.set_cons_succ]
        refine wpAnyH_take (i := 2) (oi := ⟨some 47, _, _, _, _, _⟩) (v := .pointer (some ⟨R, 0, none⟩)) rfl (by kernel_rfl) (by kernel_rfl) (by kernel_rfl) (fun _ _ _ h => h) (Or.inl ⟨by rfl, fun W hS => by (obtain ⟨s0, s1⟩ := hS; go_simp)⟩) ⟨n0d, n1d⟩ ?_
        simp only [Act.put, List.setIfInBounds_toArray, List.set_cons_zero, List.set_cons_succ]
        refine wpAnyH_take (i := 3) (oi := ⟨some 48, _, _, _, _, _⟩) (v := .pointer (some ⟨R, 1, none⟩)) rfl (by kernel_rfl) (by kernel_rfl) (by kernel_rfl) (fun _ _ _ h => h) (Or.inl ⟨by rfl, fun W hS => by (obtain ⟨s0, s1⟩ := hS; go_simp)⟩) ⟨n0d, n1d⟩ ?_
        simp only [Act.put, List.setIfInBounds_toArray, List.set_cons_zero, List.set_cons_succ]
        refine wpAnyH_take (i := 4) (oi := ⟨some 49, _, _, _, _, _⟩) (v := .agg #[.int .i64 3, .int .i64 pz]) rfl (by kernel_rfl) (by kernel_rfl) (by kernel_rfl) (fun _ _ _ h => h) (Or.inl ⟨by rfl, fun W hS => by (obtain ⟨s0, s1⟩ := hS; go_simp)⟩) ⟨n0d, n1d⟩ ?_
        simp only [Act.put, List.setIfInBounds_toArray, List.set_cons_zero, List.set_cons_succ]
        have p0d : wB.drew.cell? ⟨P, 0, none⟩ = some (.slice none 0 0) := p0
        have p1d : wB.drew.cell? ⟨P, 1, none⟩ = some (.slice none 0 0) := p1
        have pfd : ∀ i, wB.drew.frozen? ⟨P, i, none⟩ = false := pf
        refine wpAnyH_ready (rs := [5]) (by kernel_rfl) (by simp) ?_
        refine AllReadyH.cons rfl (fun K hK => ?_) AllReadyH.nil
        go_simp
        have n0e : ((wB.drew.setCell ⟨P, 0, none⟩ (.slice none 0 0)).setCell ⟨P, 1, none⟩ (.slice none 0 0)).cell? ⟨R, 1, none⟩ = some (.int .i64 3) := cell_set (cell_set n0d hz1) hz1
        have n1e : ((wB.drew.setCell ⟨P, 0, none⟩ (.slice none 0 0)).setCell ⟨P, 1, none⟩ (.slice none 0 0)).cell? ⟨R, 2, none⟩ = some (.int .i64 pz) := cell_set (cell_set n1d hz1) hz1
        refine hK.out _ _ ⟨n0e, n1e⟩ (fun _ => ?_)
        clear hK K
        have q0e : ((wB.drew.setCell ⟨P, 0, none⟩ (.slice none 0 0)).setCell ⟨P, 1, none⟩ (.slice none 0 0)).cell? ⟨P + 1, 0, none⟩ = some (.int .i64 0) := cell_set (cell_set q0 (by show P + 1 ≠ P; omega)) (by show P + 1 ≠ P; omega)
        have q1e : ((wB.drew.setCell ⟨P, 0, none⟩ (.slice none 0 0)).setCell ⟨P, 1, none⟩ (.slice none 0 0)).cell? ⟨P + 1, 1, none⟩ = some (.int .i64 0) := cell_set (cell_set q1 (by show P + 1 ≠ P; omega)) (by show P + 1 ≠ P; omega)
        refine wpAnyH_ready (rs := [6]) (by kernel_rfl) (by simp) ?_
        refine AllReadyH.cons rfl (fun K hK => ?_) AllReadyH.nil
        go_simp
        have z0 : ((((wB.drew.setCell ⟨P, 0, none⟩ (.slice none 0 0)).setCell ⟨P, 1, none⟩ (.slice none 0 0)).setCell ⟨P + 1, 0, none⟩ (.int .i64 3)).setCell ⟨P + 1, 1, none⟩ (.int .i64 pz)).cell? ⟨R, 1, none⟩ = some (.int .i64 3) := cell_set (cell_set n0e hz2) hz2
        have z1 : ((((wB.drew.setCell ⟨P, 0, none⟩ (.slice none 0 0)).setCell ⟨P, 1, none⟩ (.slice none 0 0)).setCell ⟨P + 1, 0, none⟩ (.int .i64 3)).setCell ⟨P + 1, 1, none⟩ (.int .i64 pz)).cell? ⟨R, 2, none⟩ = some (.int .i64 pz) := cell_set (cell_set n1e hz2) hz2
        refine hK.out _ _ ⟨z0, z1⟩ (fun _ => ?_)
        clear hK K
        refine wpAnyH_done (by kernel_rfl) ?_ _
        go_wp2_with fail
        have hne : P ≠ P + 1 := by omega
        refine bodyPost_ret (v := .tuple #[.agg #[.slice none 0 0, .slice none 0 0], .agg #[.int .i64 3, .int .i64 pz]]) (by simp [results, Tryz.results4, go_sem, p0, p1, q0, q1, hne]) rfl ?_
        rw [HW2.out]
        refine ⟨?_, rfl⟩
        rw [hP]
        exact ((((HBB.out.drew.setCell (Nat.le_refl _) _).setCell (Nat.le_refl _) _).setCell (by show P ≤ P + 1; omega) _).setCell (by show P ≤ P + 1; omega) _)
      | true =>
        have hk4 : (((rk (tk ts k4) : Nat) : Int) != 4) = false := by rw [bne, hend, hkd]; rfl
        have HW2 : Hid (whole = .ok (ds, b) k4) := hide (by
          have hkn : (tk ts k4).kind = 0 := by simpa using hkd
          rw [HW.out, hpr]
          simp only [wholeP, Res.bind_ok, if_pos hkn])
        clear hend hkd
        go_wp2_with fail
        refine (rok_good HS9.out.good).mono ?_
        rintro e wB ⟨rfl, hbB⟩
        have HBB := hide (Below.step HB9.out hbB)
        have HPB := hide (Below.blk hbB HP9.out)
        have HFB := hide (Below.blk hbB HF9.out)
        have HVB := hide (Below.blk hbB HV9.out)
        have HDB := hide (IsRow.same (HD9.out ds k1 hr1) fun b _ h2 => hbB.block b h2)
        have HEB := hide ((HE9.out b k3 hr3).same fun b _ h2 => hbB.block b h2)
        clear hbB r0 c0
        have gf := (HV.out.below HBB.out.drew).fine
        have g0 : wB.drew.cell? ⟨0, 0, none⟩ = some (.int .i64 0) := by rw [blk_cell gf]; rfl
        have g1 : wB.drew.cell? ⟨0, 1, none⟩ = some (.int .i64 (-1)) := by rw [blk_cell gf]; rfl
        have v0 : wB.drew.cell? ⟨R + 1, 0, none⟩ = some (.slice da dn dc) := by
          have : wB.cell? ⟨R + 1, 0, none⟩ = some (.slice da dn dc) := by rw [blk_cell HVB.out]; rfl
          exact this
        have v1 : wB.drew.cell? ⟨R + 1, 1, none⟩ = some (.slice ba bn bc) := by
          have : wB.cell? ⟨R + 1, 1, none⟩ = some (.slice ba bn bc) := by rw [blk_cell HVB.out]; rfl
          exact this
        have p0 : wB.cell? ⟨w.heap.size, 0, none⟩ = some (.slice none 0 0) := by rw [blk_cell HPB.out]; rfl
        have p1 : wB.cell? ⟨w.heap.size, 1, none⟩ = some (.slice none 0 0) := by rw [blk_cell HPB.out]; rfl
        have q0 : wB.cell? ⟨w.heap.size + 1, 0, none⟩ = some (.int .i64 0) := by rw [blk_cell HFB.out]; rfl
        have q1 : wB.cell? ⟨w.heap.size + 1, 1, none⟩ = some (.int .i64 0) := by rw [blk_cell HFB.out]; rfl
        have pf : ∀ i, wB.frozen? ⟨w.heap.size, i, none⟩ = false := blk_frozen HPB.out
        have qf : ∀ i, wB.frozen? ⟨w.heap.size + 1, i, none⟩ = false := blk_frozen HFB.out
        have hv1 : R + 1 ≠ w.heap.size := by omega
        have hv2 : R + 1 ≠ w.heap.size + 1 := by omega
        have hg1 : 0 ≠ w.heap.size := by omega
        have hg2 : 0 ≠ w.heap.size + 1 := by omega
        clear gf
        go_wp2_with fail
        generalize hP : w.heap.size = P at *
        refine wp_region_held_drew (S := fun w' => w'.cell? ⟨R + 1, 0, none⟩ = some (.slice da dn dc) ∧ w'.cell? ⟨R + 1, 1, none⟩ = some (.slice ba bn bc) ∧ w'.cell? ⟨0, 0, none⟩ = some (.int .i64 0) ∧ w'.cell? ⟨0, 1, none⟩ = some (.int .i64 (-1))) (by kernel_rfl) ⟨v0, v1, g0, g1⟩ (fun _ => ?_)
        refine wpAnyH_take (i := 0) (oi := ⟨some 50, _, _, _, _, _⟩) (v := .agg #[.slice da dn dc, .slice ba bn bc]) rfl (by kernel_rfl) (by kernel_rfl) (by kernel_rfl) (fun _ _ _ h => h) (Or.inl ⟨by rfl, fun W hS => by (obtain ⟨s0, s1, s2, s3⟩ := hS; go_simp)⟩) ⟨v0, v1, g0, g1⟩ ?_
        simp only [Act.put, List.setIfInBounds_toArray, List.set_cons_zero, List.set_cons_succ]
        refine wpAnyH_take (i := 1) (oi := ⟨some 51, _, _, _, _, _⟩) (v := .agg #[.int .i64 0, .int .i64 (-1)]) rfl (by kernel_rfl) (by kernel_rfl) (by kernel_rfl) (fun _ _ _ h => h) (Or.inl ⟨by rfl, fun W hS => by (obtain ⟨s0, s1, s2, s3⟩ := hS; go_simp)⟩) ⟨v0, v1, g0, g1⟩ ?_
        simp only [Act.put, List.setIfInBounds_toArray, List.set_cons_zero, List.set_cons_succ]
        have p0d : wB.drew.cell? ⟨P, 0, none⟩ = some (.slice none 0 0) := p0
        have p1d : wB.drew.cell? ⟨P, 1, none⟩ = some (.slice none 0 0) := p1
        have pfd : ∀ i, wB.drew.frozen? ⟨P, i, none⟩ = false := pf
        refine wpAnyH_ready (rs := [2]) (by kernel_rfl) (by simp) ?_
        refine AllReadyH.cons rfl (fun K hK => ?_) AllReadyH.nil
        go_simp
        have SA : ((wB.drew.setCell ⟨P, 0, none⟩ (.slice da dn dc)).setCell ⟨P, 1, none⟩ (.slice ba bn bc)).cell? ⟨R + 1, 0, none⟩ = some (.slice da dn dc) ∧ ((wB.drew.setCell ⟨P, 0, none⟩ (.slice da dn dc)).setCell ⟨P, 1, none⟩ (.slice ba bn bc)).cell? ⟨R + 1, 1, none⟩ = some (.slice ba bn bc) ∧ ((wB.drew.setCell ⟨P, 0, none⟩ (.slice da dn dc)).setCell ⟨P, 1, none⟩ (.slice ba bn bc)).cell? ⟨0, 0, none⟩ = some (.int .i64 0) ∧ ((wB.drew.setCell ⟨P, 0, none⟩ (.slice da dn dc)).setCell ⟨P, 1, none⟩ (.slice ba bn bc)).cell? ⟨0, 1, none⟩ = some (.int .i64 (-1)) := ⟨cell_set (cell_set v0 hv1) hv1, cell_set (cell_set v1 hv1) hv1, cell_set (cell_set g0 hg1) hg1, cell_set (cell_set g1 hg1) hg1⟩
        refine hK.out _ _ SA (fun _ => ?_)
        clear hK K
        have q0e : ((wB.drew.setCell ⟨P, 0, none⟩ (.slice da dn dc)).setCell ⟨P, 1, none⟩ (.slice ba bn bc)).cell? ⟨P + 1, 0, none⟩ = some (.int .i64 0) := cell_set (cell_set q0 (by show P + 1 ≠ P; omega)) (by show P + 1 ≠ P; omega)
        have q1e : ((wB.drew.setCell ⟨P, 0, none⟩ (.slice da dn dc)).setCell ⟨P, 1, none⟩ (.slice ba bn bc)).cell? ⟨P + 1, 1, none⟩ = some (.int .i64 0) := cell_set (cell_set q1 (by show P + 1 ≠ P; omega)) (by show P + 1 ≠ P; omega)
        refine wpAnyH_ready (rs := [3]) (by kernel_rfl) (by simp) ?_
        refine AllReadyH.cons rfl (fun K hK => ?_) AllReadyH.nil
        go_simp
        refine hK.out _ _ ⟨cell_set (cell_set SA.1 hv2) hv2, cell_set (cell_set SA.2.1 hv2) hv2, cell_set (cell_set SA.2.2.1 hg2) hg2, cell_set (cell_set SA.2.2.2 hg2) hg2⟩ (fun _ => ?_)
        clear hK K
        refine wpAnyH_done (by kernel_rfl) ?_ _
        go_wp2_with fail
        have hne : P ≠ P + 1 := by omega
        refine bodyPost_ret (v := .tuple #[.agg #[.slice da dn dc, .slice ba bn bc], .agg #[.int .i64 0, .int .i64 (-1)]]) (by simp [results, Tryz.results4, go_sem, p0, p1, q0, q1, hne]) rfl ?_
        rw [HW2.out]
        have far : ∀ c, From (R + 2) c → c < wB.heap.size → ((((wB.drew.setCell ⟨P, 0, none⟩ (.slice da dn dc)).setCell ⟨P, 1, none⟩ (.slice ba bn bc)).setCell ⟨P + 1, 0, none⟩ (.int .i64 0)).setCell ⟨P + 1, 1, none⟩ (.int .i64 (-1))).heap[c]? = wB.heap[c]? := fun c h1 h2 => by
          have h1 : R + 2 ≤ c := h1
          exact (set_other _ 1 _ (by omega)).trans ((set_other _ 0 _ (by omega)).trans ((set_other _ 1 _ (by omega)).trans (set_other _ 0 _ (by omega))))
        have low : ∀ c, c < ((((wB.drew.setCell ⟨P, 0, none⟩ (.slice da dn dc)).setCell ⟨P, 1, none⟩ (.slice ba bn bc)).setCell ⟨P + 1, 0, none⟩ (.int .i64 0)).setCell ⟨P + 1, 1, none⟩ (.int .i64 (-1))).heap.size → From (R + 2) c → From P c := fun c _ h => by have h : R + 2 ≤ c := h; show P ≤ c; omega
        refine ⟨?_, _, rfl, _, _, rfl, ?_, ?_⟩
        · rw [hP]
          exact ((((HBB.out.drew.setCell (Nat.le_refl _) _).setCell (Nat.le_refl _) _).setCell (by show P ≤ P + 1; omega) _).setCell (by show P ≤ P + 1; omega) _)
        · rw [hP]
          exact (IsRow.same HDB.out far).imp low
        · rw [hP]
          exact (HEB.out.same far).imp low
    · exact absurd hpr HO.out
end Go.Proofs.YtlbgdoajaplabaaGreatDoor
