/-
  A MAKER IN MEMORY, and CONTRACT of node.
-/
import Derived.Test.YtlnmemeejgnbeaaClW
import Derived.Test.YtlnmemeejgnbeaaGApp
set_option linter.unusedSimpArgs false
set_option linter.unusedVariables false
namespace Go.Proofs.Ytlnmemeejgnbeaa
open Go.RowKit

def blkOf (na : Option Addr) : Option Nat := na.map (·.block)
theorem own_blk (na : Option Addr) (n c : Nat) : (Value.slice na n c).ownBlock = blkOf na := by cases na <;> rfl
structure MkAt (B P M : Nat) (na : Option Addr) (nc : Nat) (w : World) (ms : List Nd) : Prop where
  me : w.heap[P]? = some (.cells #[.slice na ms.length nc, .map (some M)] 63 (0, 0))
  own : Mine 26 4 B w (.slice na ms.length nc) ms.length (ndsC ms)
  map : MapN w M ms
  bP : B ≤ P
  bM : B ≤ M
theorem MkAt.row {B P M : Nat} {na : Option Addr} {nc : Nat} {w : World} {ms : List Nd} (h : MkAt B P M na nc w ms) : RowAt w P na nc ms :=
  ⟨by rw [blk_cell h.me]; rfl, h.own.lies fun _ _ => trivial⟩
/-- nothing turns but the maker's three blocks -/
structure MKeep (P M : Nat) (og : Option Nat) (w w' : World) : Prop where
  os : w'.os = w.os
  tape : w'.tape = w.tape
  output : w'.output = w.output
  size : w.heap.size ≤ w'.heap.size
  block : ∀ k, k < w.heap.size → k ≠ P → k ≠ M → og ≠ some k → w'.heap[k]? = w.heap[k]?
/-- a step of a maker -/
structure MStep (P M : Nat) (na : Option Addr) (w : World) (na' : Option Addr) (w' : World) : Prop where
  keep : MKeep P M (blkOf na) w w'
  new : ∀ b, blkOf na' = some b → blkOf na = some b ∨ w.heap.size ≤ b
theorem MStep.of {P M : Nat} {na : Option Addr} {w w' : World} (h : Below w.heap.size w w') : MStep P M na w na w' :=
  ⟨⟨h.os, h.tape, h.output, h.size, fun k hk _ _ _ => h.block k hk⟩, fun b hb => .inl hb⟩
theorem MStep.trans {P M : Nat} {na nb nc : Option Addr} {a b c : World} (h : MStep P M na a nb b) (k : MStep P M nb b nc c) : MStep P M na a nc c := by
  refine ⟨⟨k.keep.os.trans h.keep.os, k.keep.tape.trans h.keep.tape, k.keep.output.trans h.keep.output, Nat.le_trans h.keep.size k.keep.size, fun i hi h1 h2 h3 => ?_⟩, fun b hb => ?_⟩
  · refine (k.keep.block i (Nat.lt_of_lt_of_le hi h.keep.size) h1 h2 fun e => ?_).trans (h.keep.block i hi h1 h2 h3)
    rcases h.new i e with e' | e'
    · exact h3 e'
    · omega
  · rcases k.new b hb with e | e
    · exact h.new b e
    · exact .inr (Nat.le_trans h.keep.size e)
theorem MStep.below {B P M : Nat} {na na' : Option Addr} {nc : Nat} {w w' : World} {ms : List Nd} (h : MStep P M na w na' w') (hm : MkAt B P M na nc w ms) {N : Nat} (hN : N ≤ B) (hw : N ≤ w.heap.size) : Below N w w' :=
  ⟨h.keep.os, h.keep.tape, h.keep.output, Nat.le_trans (Nat.le_refl _) h.keep.size, fun k hk => h.keep.block k (by omega) (by have := hm.bP; omega) (by have := hm.bM; omega) (fun e => by have := hm.own.new k (by rw [own_blk]; exact e); omega)⟩
theorem MkAt.lt {B P M : Nat} {na : Option Addr} {nc : Nat} {w : World} {ms : List Nd} (h : MkAt B P M na nc w ms) : P < w.heap.size := blk_lt h.me
theorem MkAt.ltM {B P M : Nat} {na : Option Addr} {nc : Nat} {w : World} {ms : List Nd} (h : MkAt B P M na nc w ms) : M < w.heap.size := blk_lt h.map
theorem MkAt.pm {B P M : Nat} {na : Option Addr} {nc : Nat} {w : World} {ms : List Nd} (h : MkAt B P M na nc w ms) : P ≠ M := fun e => by
  have h1 := h.me; have h2 : w.heap[M]? = _ := h.map; rw [e, h2] at h1; cases h1
/-- the row's own block -/
theorem MkAt.grid {B P M : Nat} {na : Option Addr} {nc : Nat} {w : World} {ms : List Nd} (h : MkAt B P M na nc w ms) {g : Nat} (hg : blkOf na = some g) : B ≤ g ∧ g ≠ P ∧ g ≠ M ∧ g < w.heap.size ∧ ∃ cur, w.heap[g]? = some (.cells cur 26 (0, 0)) := by
  rcases h.own.own.2 with ⟨h0, _⟩ | ⟨g', cap, cur, hv, _, hg', _⟩
  · injection h0 with e1; rw [e1] at hg; cases hg
  · injection hv with e1; subst e1
    have : g' = g := by simpa [blkOf] using hg
    subst this
    refine ⟨h.own.new _ (by rw [own_blk]; exact hg), fun e => ?_, fun e => ?_, blk_lt hg', cur, hg'⟩
    · have h1 := h.me; rw [← e, hg'] at h1; cases h1
    · have h1 : w.heap[M]? = _ := h.map; rw [← e, hg'] at h1; cases h1
/-- another block is none of the maker's -/
theorem MkAt.apart {B P M : Nat} {na : Option Addr} {nc : Nat} {w : World} {ms : List Nd} (h : MkAt B P M na nc w ms) {k : Nat} {c : Array Value} {t : TypeId} {z : Nat × Nat} (hk : w.heap[k]? = some (.cells c t z)) (h1 : t ≠ 63) (h2 : t ≠ 26) : k ≠ P ∧ k ≠ M ∧ blkOf na ≠ some k := by
  refine ⟨fun e => ?_, fun e => ?_, fun e => ?_⟩
  · have := h.me; rw [← e, hk] at this; cases this; exact h1 rfl
  · have h1 : w.heap[M]? = _ := h.map; rw [← e, hk] at h1; cases h1
  · obtain ⟨_, _, _, _, cur, hc⟩ := h.grid e
    rw [hk] at hc; cases hc; exact h2 rfl
theorem MStep.blk {B P M : Nat} {na na' : Option Addr} {nc : Nat} {w w' : World} {ms : List Nd} (h : MStep P M na w na' w') (hm : MkAt B P M na nc w ms) {k : Nat} {c : Array Value} {t : TypeId} {z : Nat × Nat} (hk : w.heap[k]? = some (.cells c t z)) (h1 : t ≠ 63) (h2 : t ≠ 26) : w'.heap[k]? = some (.cells c t z) :=
  have a := hm.apart hk h1 h2
  (h.keep.block k (blk_lt hk) a.1 a.2.1 a.2.2).trans hk
theorem MkAt.more {B P M : Nat} {na : Option Addr} {nc : Nat} {w w' : World} {ms : List Nd} (h : MkAt B P M na nc w ms) (hb : Below w.heap.size w w') : MkAt B P M na nc w' ms :=
  ⟨Below.blk hb h.me, h.own.below hb, Below.blk hb h.map, h.bP, h.bM⟩
/-- of a step: the maker as it is then -/
def Now (B P M : Nat) (na : Option Addr) (w w' : World) (ms : List Nd) : Prop := ∃ na' nc', MkAt B P M na' nc' w' ms ∧ MStep P M na w na' w'

theorem find_none {l : List Nd} {x : Nd} : ∀ {k : Nat}, findN l x k = none → ∀ y ∈ l, y ≠ x := by
  induction l with
  | nil => intro k _ y hy; cases hy
  | cons z l ih =>
    intro k h y hy
    unfold findN at h
    split at h
    · cases h
    · rename_i hz
      rcases List.mem_cons.1 hy with rfl | hy
      · exact fun e => hz (eqN_iff.2 e)
      · exact ih h y hy

set_option maxRecDepth 100000 in
set_option maxHeartbeats 1600000 in
theorem node_old {B P M nc : Nat} {na : Option Addr} {ms : List Nd} (x : Nd) (k : Nat) (hf : findN ms x 0 = some k) (w : World) (h : MkAt B P M na nc w ms) :
    Calls Try.prog 26 #[.pointer (some ⟨P, 0, none⟩), ndV x] w fun e w' => e = .returned (.int .i64 k) ∧ Now B P M na w w' ms := by
  have HB := hide ((below_alloc w (.cells #[.int .i64 x.op, .int .i64 x.a, .int .i64 x.b, .int .i64 x.next] 26)).drew)
  have lk := look_nd (h.more HB.out).map x
  rw [hf] at lk
  have c1 : w.cell? ⟨P, 1, none⟩ = some (.map (some M)) := by rw [blk_cell h.me]; rfl
  have c1a := fun o => cell_alloc c1 o
  have H := hide h
  clear h hf
  obtain ⟨op, a, b, nx⟩ := x
  simp only [ndV] at lk
  unfold ndV
  simp only at HB
  go_enter Try.func26, Try.ntmps26
  go_wp2_with fail
  go_region
  go_wp2_with fail
  go_ret
  exact ⟨rfl, na, nc, H.out.more HB.out, MStep.of HB.out⟩

set_option maxRecDepth 100000 in
set_option maxHeartbeats 1600000 in
theorem node_new {B P M nc : Nat} {na : Option Addr} {ms : List Nd} (x : Nd) (hf : findN ms x 0 = none) (hn : ms.length ≤ 90000) (w : World) (hBw : B ≤ w.heap.size) (h : MkAt B P M na nc w ms) :
    Calls Try.prog 26 #[.pointer (some ⟨P, 0, none⟩), ndV x] w fun e w' => e = .returned (.int .i64 ms.length) ∧ Now B P M na w w' (ms ++ [x]) := by
  have HB := hide ((below_alloc w (.cells #[.int .i64 x.op, .int .i64 x.a, .int .i64 x.b, .int .i64 x.next] 26)).drew)
  have HX := hide (blk_new w (.cells #[.int .i64 x.op, .int .i64 x.a, .int .i64 x.b, .int .i64 x.next] 26))
  have lk := look_nd (h.more HB.out).map x
  rw [hf] at lk
  have c1 : w.cell? ⟨P, 1, none⟩ = some (.map (some M)) := by rw [blk_cell h.me]; rfl
  have c1a := fun o => cell_alloc c1 o
  have c0 : w.cell? ⟨P, 0, none⟩ = some (.slice na ms.length nc) := by rw [blk_cell h.me]; rfl
  have c0a := fun o => cell_alloc c0 o
  have H := hide h
  have HF := hide hf
  clear h hf
  obtain ⟨op, a, b, nx⟩ := x
  simp only [ndV] at lk
  unfold ndV
  simp only at HB HX
  go_enter Try.func26, Try.ntmps26
  go_wp2_with fail
  go_region
  go_wp2_with fail
  have HS : Hid (∀ W : World, W.heap[w.heap.size]? = some (.cells #[.int .i64 op, .int .i64 a, .int .i64 b, .int .i64 nx] 26 (0, 0)) → (fun W : World => W.cell? ⟨w.heap.size, 0, none⟩ = some (.int .i64 op) ∧ W.cell? ⟨w.heap.size, 1, none⟩ = some (.int .i64 a) ∧ W.cell? ⟨w.heap.size, 2, none⟩ = some (.int .i64 b) ∧ W.cell? ⟨w.heap.size, 3, none⟩ = some (.int .i64 nx)) W) := hide fun W h0 => by
    refine ⟨?_, ?_, ?_, ?_⟩ <;> (rw [blk_cell h0]; rfl)
  have HX1 : Hid ((w.alloc (.cells #[.int .i64 op, .int .i64 a, .int .i64 b, .int .i64 nx] 26)).drew.drew.heap[w.heap.size]? = some (.cells #[.int .i64 op, .int .i64 a, .int .i64 b, .int .i64 nx] 26 (0, 0))) := hide HX.out
  have HBB : Hid (Below w.heap.size w (w.alloc (.cells #[.int .i64 op, .int .i64 a, .int .i64 b, .int .i64 nx] 26)).drew.drew) := hide HB.out.drew
  have HS1 := hide (HS.out _ HX1.out)
  clear c1 c1a c0 c0a lk HX HB
  refine wp_region_held_drew (S := (fun W : World => W.cell? ⟨w.heap.size, 0, none⟩ = some (.int .i64 op) ∧ W.cell? ⟨w.heap.size, 1, none⟩ = some (.int .i64 a) ∧ W.cell? ⟨w.heap.size, 2, none⟩ = some (.int .i64 b) ∧ W.cell? ⟨w.heap.size, 3, none⟩ = some (.int .i64 nx))) (by kernel_rfl) HS1.out (fun _ => ?_)
  generalize (w.alloc (.cells #[.int .i64 op, .int .i64 a, .int .i64 b, .int .i64 nx] 26)).drew.drew = w1 at *
  have H1 := hide (H.out.more HBB.out)
  have hXl := blk_lt HX1.out
  have hPl := H1.out.lt
  have hsw : w.heap.size ≤ w1.heap.size := HBB.out.size
  have c0 : w1.cell? ⟨P, 0, none⟩ = some (.slice na ms.length nc) := by rw [blk_cell H1.out.me]; rfl
  have HB2 := hide (below_alloc w1 (.cells #[.int .i64 op, .int .i64 a, .int .i64 b, .int .i64 nx] 26))
  have HE := hide (blk_new w1 (.cells #[.int .i64 op, .int .i64 a, .int .i64 b, .int .i64 nx] 26))
  have HXa : Hid ((w1.alloc (.cells #[.int .i64 op, .int .i64 a, .int .i64 b, .int .i64 nx] 26)).heap[w.heap.size]? = some (.cells #[.int .i64 op, .int .i64 a, .int .i64 b, .int .i64 nx] 26 (0, 0))) := hide (Below.blk HB2.out HX1.out)
  have HPa : Hid ((w1.alloc (.cells #[.int .i64 op, .int .i64 a, .int .i64 b, .int .i64 nx] 26)).heap[P]? = some (.cells #[.slice na ms.length nc, .map (some M)] 63 (0, 0))) := hide (Below.blk HB2.out H1.out.me)
  have c0a : (w1.alloc (.cells #[.int .i64 op, .int .i64 a, .int .i64 b, .int .i64 nx] 26)).cell? ⟨P, 0, none⟩ = some (.slice na ms.length nc) := by rw [blk_cell HPa.out]; rfl
  have HSa := hide (HS.out _ HXa.out)
  obtain ⟨na', nc', w2, happ, hm, hg, hnb⟩ := app_nd (c := 1) (n' := ms.length + 1) (H1.out.own.below HB2.out) rfl (new := [⟨op, a, b, nx⟩]) (m := 1) rfl rfl (Lies.blk (cs := ndsC [⟨op, a, b, nx⟩]) HE.out trivial) (by have := HB2.out.size; omega) (by omega)
  have HG := hide hg
  have hsa : w1.heap.size ≤ (w1.alloc (.cells #[.int .i64 op, .int .i64 a, .int .i64 b, .int .i64 nx] 26)).heap.size := HB2.out.size
  have hne1 : ∀ k, k = P ∨ k = M → some k ≠ (Value.slice na ms.length nc).ownBlock := fun k hk e => by
    rw [own_blk] at e
    have := H1.out.grid e.symm
    omega
  have hneX : some w.heap.size ≠ (Value.slice na ms.length nc).ownBlock := fun e => by
    rw [own_blk] at e
    have := H.out.grid e.symm
    omega
  have HPb : Hid (w2.heap[P]? = some (.cells #[.slice na ms.length nc, .map (some M)] 63 (0, 0))) := hide ((HG.out.block P (by omega) (hne1 P (.inl rfl))).trans HPa.out)
  have HXb : Hid (w2.heap[w.heap.size]? = some (.cells #[.int .i64 op, .int .i64 a, .int .i64 b, .int .i64 nx] 26 (0, 0))) := hide ((HG.out.block _ (blk_lt HXa.out) hneX).trans HXa.out)
  have HMb : Hid (MapN w2 M ms) := hide ((HG.out.block M (by have := H1.out.ltM; omega) (hne1 M (.inr rfl))).trans (Below.blk HB2.out H1.out.map))
  have HSb := hide (HS.out _ HXb.out)
  have HW12 : Hid (MKeep P M (blkOf na) w1 w2) := hide ⟨HG.out.os.trans HB2.out.os, HG.out.tape.trans HB2.out.tape, HG.out.output.trans HB2.out.output, Nat.le_trans hsa HG.out.size, fun k hk _ _ h3 => (HG.out.block k (by omega) (by rw [own_blk]; exact fun e => h3 e.symm)).trans (HB2.out.block k hk)⟩
  have HNW : Hid (∀ b, blkOf na' = some b → blkOf na = some b ∨ w1.heap.size ≤ b) := hide fun b hb => (hnb b (by rw [own_blk]; exact hb)).imp (fun e => by rw [own_blk] at e; exact e) (fun e => by omega)
  have hPX : P ≠ w.heap.size := fun e => by have := H.out.lt; omega
  have HX3 : Hid ((w2.setCell ⟨P, 0, none⟩ (.slice na' (ms.length + 1) nc')).heap[w.heap.size]? = some (.cells #[.int .i64 op, .int .i64 a, .int .i64 b, .int .i64 nx] 26 (0, 0))) := hide ((Below.heap_setCell w2 ⟨P, 0, none⟩ _ _ (Ne.symm hPX)).trans HXb.out)
  have HP3 : Hid ((w2.setCell ⟨P, 0, none⟩ (.slice na' (ms.length + 1) nc')).heap[P]? = some (.cells #[.slice na' (ms.length + 1) nc', .map (some M)] 63 (0, 0))) := hide (blk_set HPb.out 0 _)
  have HM3 : Hid (MapN (w2.setCell ⟨P, 0, none⟩ (.slice na' (ms.length + 1) nc')) M ms) := hide ((Below.heap_setCell w2 ⟨P, 0, none⟩ _ _ (Ne.symm H1.out.pm)).trans HMb.out)
  have HO3 : Hid (Mine 26 4 B (w2.setCell ⟨P, 0, none⟩ (.slice na' (ms.length + 1) nc')) (.slice na' (ms.length + 1) nc') (ms.length + 1) (ndsC (ms ++ [⟨op, a, b, nx⟩]))) := hide (hm.same fun k hk hl => Below.heap_setCell w2 ⟨P, 0, none⟩ _ k (fun e => by
    rw [own_blk] at hk
    have e' : k = P := e
    subst e'
    rcases HNW.out k hk with e1 | e1
    · exact (H1.out.grid e1).2.1 rfl
    · omega))
  have fz : w2.frozen? ⟨P, 0, none⟩ = false := blk_frozen HPb.out 0
  have hc2 : w2.cell? ⟨P, 0, none⟩ = some (.slice na ms.length nc) := by rw [blk_cell HPb.out]; rfl
  have HS3 := hide (HS.out _ HX3.out)
  clear hm hg hnb HE HB2 HPa HXa hne1 hneX HG
  refine wpAnyH_take (i := 0) (oi := ⟨some 23, _, _, _, _, _⟩) (v := .pointer (some ⟨P, 0, none⟩)) rfl (by kernel_rfl) (by kernel_rfl) (by kernel_rfl) (fun _ _ _ h => h) (Or.inl ⟨by rfl, fun W hS => by (obtain ⟨s0, s1, s2, s3⟩ := hS; go_simp)⟩) HS1.out ?_
  simp only [Act.put, List.setIfInBounds_toArray, List.set_cons_zero, List.set_cons_succ]
  refine wpAnyH_take (i := 1) (oi := ⟨some 24, _, _, _, _, _⟩) (v := .pointer (some ⟨P, 0, none⟩)) rfl (by kernel_rfl) (by kernel_rfl) (by kernel_rfl) (fun _ _ _ h => h) (Or.inl ⟨by rfl, fun W hS => by (obtain ⟨s0, s1, s2, s3⟩ := hS; go_simp)⟩) HS1.out ?_
  simp only [Act.put, List.setIfInBounds_toArray, List.set_cons_zero, List.set_cons_succ]
  refine wpAnyH_take (i := 2) (oi := ⟨some 25, _, _, _, _, _⟩) (v := .pointer (some ⟨P, 0, none⟩)) rfl (by kernel_rfl) (by kernel_rfl) (by kernel_rfl) (fun _ _ _ h => h) (Or.inl ⟨by rfl, fun W hS => by (obtain ⟨s0, s1, s2, s3⟩ := hS; go_simp)⟩) HS1.out ?_
  simp only [Act.put, List.setIfInBounds_toArray, List.set_cons_zero, List.set_cons_succ]
  refine wpAnyH_take (i := 3) (oi := ⟨some 26, _, _, _, _, _⟩) (v := .pointer (some ⟨P, 0, none⟩)) rfl (by kernel_rfl) (by kernel_rfl) (by kernel_rfl) (fun _ _ _ h => h) (Or.inl ⟨by rfl, fun W hS => by (obtain ⟨s0, s1, s2, s3⟩ := hS; go_simp)⟩) HS1.out ?_
  simp only [Act.put, List.setIfInBounds_toArray, List.set_cons_zero, List.set_cons_succ]
  refine wpAnyH_take (i := 5) (oi := ⟨some 28, _, _, _, _, _⟩) (v := .agg #[.int .i64 op, .int .i64 a, .int .i64 b, .int .i64 nx]) rfl (by kernel_rfl) (by kernel_rfl) (by kernel_rfl) (fun _ _ _ h => h) (Or.inl ⟨by rfl, fun W hS => by (obtain ⟨s0, s1, s2, s3⟩ := hS; go_simp)⟩) HS1.out ?_
  simp only [Act.put, List.setIfInBounds_toArray, List.set_cons_zero, List.set_cons_succ]
  refine wpAnyH_ready (rs := [4, 6]) (by kernel_rfl) (by simp) ?_
  refine AllReadyH.cons rfl (fun K hK => ?_) (AllReadyH.cons rfl (fun K hK => ?_) AllReadyH.nil)
  · go_simp
    refine hK.out _ _ HS1.out (fun _ => ?_)
    clear hK K
    refine wpAnyH_ready (rs := [6]) (by kernel_rfl) (by simp) ?_
    refine AllReadyH.cons rfl (fun K hK => ?_) AllReadyH.nil
    go_simp
    refine hK.out _ _ HSa.out (fun _ => ?_)
    clear hK K
    refine wpAnyH_ready (rs := [7]) (by kernel_rfl) (by simp) ?_
    refine AllReadyH.cons rfl (fun K hK => ?_) AllReadyH.nil
    refine (if_pos (by kernel_rfl)).mpr ?_
    refine wp_append_run happ _ _ rfl rfl rfl ?_
    simp only [Act.put, List.setIfInBounds_toArray, List.set_cons_zero, List.set_cons_succ, List.getElem_toArray, List.getElem_cons_succ, List.getElem_cons_zero]
    refine hK.out _ _ HSb.out (fun _ => ?_)
    clear hK K happ
    refine wpAnyH_take (i := 8) (oi := ⟨some 31, _, _, _, _, _⟩) (v := .pointer (some ⟨P, 0, none⟩)) rfl (by kernel_rfl) (by kernel_rfl) (by kernel_rfl) (fun _ _ _ h => h) (Or.inl ⟨by rfl, fun W hS => by (obtain ⟨s0, s1, s2, s3⟩ := hS; go_simp)⟩) HSb.out ?_
    simp only [Act.put, List.setIfInBounds_toArray, List.set_cons_zero, List.set_cons_succ]
    refine wpAnyH_take (i := 9) (oi := ⟨some 32, _, _, _, _, _⟩) (v := .pointer (some ⟨P, 0, none⟩)) rfl (by kernel_rfl) (by kernel_rfl) (by kernel_rfl) (fun _ _ _ h => h) (Or.inl ⟨by rfl, fun W hS => by (obtain ⟨s0, s1, s2, s3⟩ := hS; go_simp)⟩) HSb.out ?_
    simp only [Act.put, List.setIfInBounds_toArray, List.set_cons_zero, List.set_cons_succ]
    refine wpAnyH_ready (rs := [10]) (by kernel_rfl) (by simp) ?_
    refine AllReadyH.cons rfl (fun K hK => ?_) AllReadyH.nil
    go_simp
    refine hK.out _ _ HS3.out (fun _ => ?_)
    clear hK K
    refine wpAnyH_done (by kernel_rfl) ?_ _
    have up := upd_nd (w := (w2.setCell ⟨P, 0, none⟩ (.slice na' (ms.length + 1) nc')).drew) HM3.out ⟨op, a, b, nx⟩ HF.out
    have d1 : (w2.setCell ⟨P, 0, none⟩ (.slice na' (ms.length + 1) nc')).drew.cell? ⟨P, 1, none⟩ = some (.map (some M)) := (blk_cell HP3.out 1).trans rfl
    obtain ⟨s0, s1, s2, s3⟩ := HS3.out
    have HFIN : Hid (Now B P M na w (putObj (w2.setCell ⟨P, 0, none⟩ (.slice na' (ms.length + 1) nc')).drew M (.map (mesN 0 (ms ++ [(⟨op, a, b, nx⟩ : Nd)])).toArray (ms.length + 1))) (ms ++ [(⟨op, a, b, nx⟩ : Nd)])) := hide (by
      have hlen : (ms ++ [(⟨op, a, b, nx⟩ : Nd)]).length = ms.length + 1 := by simp
      have hML := H1.out.ltM
      have hM2 : M < w2.heap.size := Nat.lt_of_lt_of_le hML HW12.out.size
      have hps : (w2.setCell ⟨P, 0, none⟩ (.slice na' (ms.length + 1) nc')).heap.size = w2.heap.size := by simp [World.setCell]
      refine ⟨na', nc', ⟨?_, ?_, ?_, H.out.bP, H.out.bM⟩, ⟨⟨?_, ?_, ?_, ?_, ?_⟩, ?_⟩⟩
      · rw [hlen]; exact (putObj_other H1.out.pm).trans HP3.out
      · rw [hlen]
        refine HO3.out.same fun k hk hl => putObj_other (fun e => ?_)
        subst e
        rw [own_blk] at hk
        rcases HNW.out k hk with e1 | e1
        · exact (H1.out.grid e1).2.2.1 rfl
        · omega
      · unfold MapN
        rw [hlen]
        exact putObj_same (w := (w2.setCell ⟨P, 0, none⟩ (.slice na' (ms.length + 1) nc')).drew) (by show M < (w2.setCell ⟨P, 0, none⟩ (.slice na' (ms.length + 1) nc')).heap.size; omega)
      · exact HW12.out.os.trans HBB.out.os
      · exact HW12.out.tape.trans HBB.out.tape
      · exact HW12.out.output.trans HBB.out.output
      · have h1 := HW12.out.size
        show w.heap.size ≤ ((w2.setCell ⟨P, 0, none⟩ (.slice na' (ms.length + 1) nc')).heap.setIfInBounds M _).size
        rw [Array.size_setIfInBounds, hps]; omega
      · intro k hk h1 h2 h3
        refine (putObj_other h2).trans ?_
        refine (Below.heap_setCell w2 ⟨P, 0, none⟩ _ k (by exact h1)).trans ?_
        exact (HW12.out.block k (by omega) h1 h2 h3).trans (HBB.out.block k hk)
      · intro b hb
        exact (HNW.out b hb).imp id (fun e => by omega))
    simp only [ndV] at up
    go_wp2_with fail
    go_region
    go_wp2_with fail
    go_ret
    exact ⟨rfl, HFIN.out⟩
  · go_simp
    refine hK.out _ _ HSa.out (fun _ => ?_)
    clear hK K
    refine wpAnyH_ready (rs := [4]) (by kernel_rfl) (by simp) ?_
    refine AllReadyH.cons rfl (fun K hK => ?_) AllReadyH.nil
    go_simp
    refine hK.out _ _ HSa.out (fun _ => ?_)
    clear hK K
    refine wpAnyH_ready (rs := [7]) (by kernel_rfl) (by simp) ?_
    refine AllReadyH.cons rfl (fun K hK => ?_) AllReadyH.nil
    refine (if_pos (by kernel_rfl)).mpr ?_
    refine wp_append_run happ _ _ rfl rfl rfl ?_
    simp only [Act.put, List.setIfInBounds_toArray, List.set_cons_zero, List.set_cons_succ, List.getElem_toArray, List.getElem_cons_succ, List.getElem_cons_zero]
    refine hK.out _ _ HSb.out (fun _ => ?_)
    clear hK K happ
    refine wpAnyH_take (i := 8) (oi := ⟨some 31, _, _, _, _, _⟩) (v := .pointer (some ⟨P, 0, none⟩)) rfl (by kernel_rfl) (by kernel_rfl) (by kernel_rfl) (fun _ _ _ h => h) (Or.inl ⟨by rfl, fun W hS => by (obtain ⟨s0, s1, s2, s3⟩ := hS; go_simp)⟩) HSb.out ?_
    simp only [Act.put, List.setIfInBounds_toArray, List.set_cons_zero, List.set_cons_succ]
    refine wpAnyH_take (i := 9) (oi := ⟨some 32, _, _, _, _, _⟩) (v := .pointer (some ⟨P, 0, none⟩)) rfl (by kernel_rfl) (by kernel_rfl) (by kernel_rfl) (fun _ _ _ h => h) (Or.inl ⟨by rfl, fun W hS => by (obtain ⟨s0, s1, s2, s3⟩ := hS; go_simp)⟩) HSb.out ?_
    simp only [Act.put, List.setIfInBounds_toArray, List.set_cons_zero, List.set_cons_succ]
    refine wpAnyH_ready (rs := [10]) (by kernel_rfl) (by simp) ?_
    refine AllReadyH.cons rfl (fun K hK => ?_) AllReadyH.nil
    go_simp
    refine hK.out _ _ HS3.out (fun _ => ?_)
    clear hK K
    refine wpAnyH_done (by kernel_rfl) ?_ _
    have up := upd_nd (w := (w2.setCell ⟨P, 0, none⟩ (.slice na' (ms.length + 1) nc')).drew) HM3.out ⟨op, a, b, nx⟩ HF.out
    have d1 : (w2.setCell ⟨P, 0, none⟩ (.slice na' (ms.length + 1) nc')).drew.cell? ⟨P, 1, none⟩ = some (.map (some M)) := (blk_cell HP3.out 1).trans rfl
    obtain ⟨s0, s1, s2, s3⟩ := HS3.out
    have HFIN : Hid (Now B P M na w (putObj (w2.setCell ⟨P, 0, none⟩ (.slice na' (ms.length + 1) nc')).drew M (.map (mesN 0 (ms ++ [(⟨op, a, b, nx⟩ : Nd)])).toArray (ms.length + 1))) (ms ++ [(⟨op, a, b, nx⟩ : Nd)])) := hide (by
      have hlen : (ms ++ [(⟨op, a, b, nx⟩ : Nd)]).length = ms.length + 1 := by simp
      have hML := H1.out.ltM
      have hM2 : M < w2.heap.size := Nat.lt_of_lt_of_le hML HW12.out.size
      have hps : (w2.setCell ⟨P, 0, none⟩ (.slice na' (ms.length + 1) nc')).heap.size = w2.heap.size := by simp [World.setCell]
      refine ⟨na', nc', ⟨?_, ?_, ?_, H.out.bP, H.out.bM⟩, ⟨⟨?_, ?_, ?_, ?_, ?_⟩, ?_⟩⟩
      · rw [hlen]; exact (putObj_other H1.out.pm).trans HP3.out
      · rw [hlen]
        refine HO3.out.same fun k hk hl => putObj_other (fun e => ?_)
        subst e
        rw [own_blk] at hk
        rcases HNW.out k hk with e1 | e1
        · exact (H1.out.grid e1).2.2.1 rfl
        · omega
      · unfold MapN
        rw [hlen]
        exact putObj_same (w := (w2.setCell ⟨P, 0, none⟩ (.slice na' (ms.length + 1) nc')).drew) (by show M < (w2.setCell ⟨P, 0, none⟩ (.slice na' (ms.length + 1) nc')).heap.size; omega)
      · exact HW12.out.os.trans HBB.out.os
      · exact HW12.out.tape.trans HBB.out.tape
      · exact HW12.out.output.trans HBB.out.output
      · have h1 := HW12.out.size
        show w.heap.size ≤ ((w2.setCell ⟨P, 0, none⟩ (.slice na' (ms.length + 1) nc')).heap.setIfInBounds M _).size
        rw [Array.size_setIfInBounds, hps]; omega
      · intro k hk h1 h2 h3
        refine (putObj_other h2).trans ?_
        refine (Below.heap_setCell w2 ⟨P, 0, none⟩ _ k (by exact h1)).trans ?_
        exact (HW12.out.block k (by omega) h1 h2 h3).trans (HBB.out.block k hk)
      · intro b hb
        exact (HNW.out b hb).imp id (fun e => by omega))
    simp only [ndV] at up
    go_wp2_with fail
    go_region
    go_wp2_with fail
    go_ret
    exact ⟨rfl, HFIN.out⟩

theorem node_at {B P M nc : Nat} {na : Option Addr} {ms : List Nd} (x : Nd) (hn : ms.length ≤ 90000) (w : World) (hBw : B ≤ w.heap.size) (h : MkAt B P M na nc w ms) :
    Calls Try.prog 26 #[.pointer (some ⟨P, 0, none⟩), ndV x] w fun e w' => e = .returned (.int .i64 (nodeM ms x).1) ∧ Now B P M na w w' (nodeM ms x).2 := by
  unfold nodeM
  cases hf : findN ms x 0 with
  | none => exact node_new x hf hn w hBw h
  | some k => exact node_old x k hf w h
end Go.Proofs.Ytlnmemeejgnbeaa
