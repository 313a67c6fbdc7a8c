/-
  ROWS OF ROWS in memory.
-/
import Derived.Test.YtlnmemeejgnbeaaClNow
import Derived.Test.YtlnmemeejgnbeaaGApp
set_option linter.unusedSimpArgs false
set_option linter.unusedVariables false
namespace Go.Proofs.Ytlnmemeejgnbeaa
open Go.RowKit

def blkR (na : Option Addr) : Option Nat := na.map (·.block)
theorem own_blkR (na : Option Addr) (n c : Nat) : (Value.slice na n c).ownBlock = blkR na := by cases na <;> rfl
structure Rw where
  na : Option Addr
  nc : Nat
  l : List Int
def rwC (rs : List Rw) : List Value := rs.map fun r => .slice r.na r.l.length r.nc
structure RdsAt (B : Nat) (w : World) (RB : Nat) (rs : List Rw) : Prop where
  outer : w.heap[RB]? = some (.cells (rwC rs).toArray 23 (0, 0))
  inner : ∀ (j : Nat) (r : Rw), rs[j]? = some r → Mine 3 1 B w (.slice r.na r.l.length r.nc) r.l.length (intsC r.l)
  apart : ∀ (i j : Nat) (r s : Rw), rs[i]? = some r → rs[j]? = some s → i ≠ j → ∀ g, blkR r.na = some g → blkR s.na ≠ some g
theorem RdsAt.below {B : Nat} {w w' : World} {RB : Nat} {rs : List Rw} (h : RdsAt B w RB rs) (hb : Below w.heap.size w w') : RdsAt B w' RB rs :=
  ⟨Below.blk hb h.outer, fun j r hj => (h.inner j r hj).below hb, h.apart⟩
theorem Mine.int_grid {B : Nat} {w : World} {r : Rw} (h : Mine 3 1 B w (.slice r.na r.l.length r.nc) r.l.length (intsC r.l)) {g : Nat} (hg : blkR r.na = some g) : B ≤ g ∧ g < w.heap.size ∧ ∃ cur, w.heap[g]? = some (.cells cur 3 (0, 0)) := by
  rcases h.own.2 with ⟨h0, _⟩ | ⟨g', cap, cur, hv, _, hg', _⟩
  · injection h0 with e1; rw [e1] at hg; cases hg
  · injection hv with e1
    rw [e1] at hg
    have : g' = g := by simpa [blkR] using hg
    subst this
    exact ⟨h.new _ (by rw [own_blkR, e1]; rfl), blk_lt hg', cur, hg'⟩
theorem Below.keep2 {N : Nat} {w w' : World} (h : Below N w w') {k : Nat} (hk : k < N) : w'.heap[k]? = w.heap[k]? := h.block k hk
theorem rwC_set (rs : List Rw) (j : Nat) (r : Rw) : (rwC rs).toArray.setIfInBounds j (.slice r.na r.l.length r.nc) = (rwC (rs.set j r)).toArray := by
  simp [rwC, List.map_set]

theorem RdsAt.push {B : Nat} {w : World} {RB : Nat} {rs : List Rw} (h : RdsAt B w RB rs) {j : Nat} {r : Rw} (hj : rs[j]? = some r) (hl : r.l.length + 1 ≤ 100000) (hB : B ≤ w.heap.size) (i : Nat) :
    ∃ na' nc' w2, (Builtin.append_ #[23, 23] 23 #[.slice r.na r.l.length r.nc, .slice (some ⟨w.heap.size, 0, none⟩) 1 1]).run Try.prog (w.alloc (.cells #[.int .i64 i] 3)) = .ok (.slice na' (r.l.length + 1) nc') w2 ∧
      w2.heap[RB]? = some (.cells (rwC rs).toArray 23 (0, 0)) ∧
      RdsAt B (w2.setCell ⟨RB, j, none⟩ (.slice na' (r.l.length + 1) nc')) RB (rs.set j ⟨na', nc', r.l ++ [(i : Int)]⟩) ∧
      (∀ N, N ≤ B → N ≤ RB → Below N w (w2.setCell ⟨RB, j, none⟩ (.slice na' (r.l.length + 1) nc'))) ∧
      (∀ (k : Nat) (c : Array Value) (t : TypeId) (z : Nat × Nat), w.heap[k]? = some (.cells c t z) → t ≠ 3 → w2.heap[k]? = some (.cells c t z)) := by
  have hb := below_alloc w (.cells #[.int .i64 i] 3)
  have hs1 : w.heap.size ≤ (w.alloc (.cells #[.int .i64 i] 3)).heap.size := hb.size
  have hm0 := h.inner j r hj
  obtain ⟨na', nc', w2, happ, hm, hg, hnb⟩ := app_in (c := 1) (n' := r.l.length + 1) (hm0.below hb) rfl (new := [(i : Int)]) (m := 1) rfl rfl (Lies.blk (cs := intsC [(i : Int)]) (blk_new w (.cells #[.int .i64 i] 3)) trivial) (by omega) hl
  have keep : ∀ k, k < w.heap.size → blkR r.na ≠ some k → w2.heap[k]? = w.heap[k]? := fun k hk hne =>
    (hg.block k (by omega) (by rw [own_blkR]; exact fun e => hne e.symm)).trans (hb.block k hk)
  have typ : ∀ (k : Nat) (c : Array Value) (t : TypeId) (z : Nat × Nat), w.heap[k]? = some (.cells c t z) → t ≠ 3 → w2.heap[k]? = some (.cells c t z) := fun k c t z hk ht =>
    (keep k (blk_lt hk) fun e => by
      obtain ⟨_, _, cur, hc⟩ := hm0.int_grid e
      rw [hk] at hc; cases hc; exact ht rfl).trans hk
  have hRB := typ _ _ _ _ h.outer (by decide)
  have hsz : w.heap.size ≤ w2.heap.size := Nat.le_trans hs1 hg.size
  refine ⟨na', nc', w2, happ, hRB, ⟨?_, ?_, ?_⟩, ?_, typ⟩
  · rw [blk_set hRB]
    have := rwC_set rs j ⟨na', nc', r.l ++ [(i : Int)]⟩
    simp only [List.length_append, List.length_cons, List.length_nil] at this
    rw [show (0 + 1 : Nat) = 1 from rfl] at this
    rw [this]
  · intro k s hk
    by_cases e : k = j
    · subst e
      have hjl : k < rs.length := by
        rcases Nat.lt_or_ge k rs.length with h' | h'
        · exact h'
        · rw [List.getElem?_eq_none h'] at hj; cases hj
      rw [List.getElem?_set_self hjl] at hk
      cases hk
      have : (r.l ++ [(i : Int)]).length = r.l.length + 1 := by simp
      rw [this]
      refine hm.same fun g hg1 hl1 => Below.heap_setCell w2 ⟨RB, k, none⟩ _ g (fun e => ?_)
      have e' : g = RB := e
      subst e'
      rw [own_blkR] at hg1
      have := hm.own.2
      rcases this with ⟨h0, _⟩ | ⟨g', cap, cur, hv, _, hg', _⟩
      · injection h0 with e1; rw [e1] at hg1; cases hg1
      · injection hv with e1
        rw [e1] at hg1
        have : g' = g := by simpa [blkR] using hg1
        subst this
        rw [hRB] at hg'; cases hg'
    · rw [List.getElem?_set_ne (fun e' => e e'.symm)] at hk
      refine (h.inner k s hk).same fun g hg1 hl1 => ?_
      rw [own_blkR] at hg1
      refine (Below.heap_setCell w2 ⟨RB, j, none⟩ _ g (fun e' => ?_)).trans (keep g hl1 fun e' => h.apart k j s r hk hj e g hg1 e')
      have e'' : g = RB := e'
      subst e''
      obtain ⟨_, _, cur, hc⟩ := (h.inner k s hk).int_grid hg1
      rw [h.outer] at hc; cases hc
  · intro a b x y ha hb' hne g hgx hgy
    have new : ∀ g, blkR na' = some g → blkR r.na = some g ∨ w.heap.size ≤ g := fun g hg' => (hnb g (by rw [own_blkR]; exact hg')).imp (fun e => by rw [own_blkR] at e; exact e) (fun e => by omega)
    by_cases ea : a = j
    · subst ea
      rw [List.getElem?_set_self (by
        rcases Nat.lt_or_ge a rs.length with h' | h'
        · exact h'
        · rw [List.getElem?_eq_none h'] at hj; cases hj)] at ha
      cases ha
      rw [List.getElem?_set_ne hne] at hb'
      rcases new g hgx with e | e
      · exact h.apart a b r y hj hb' hne g e hgy
      · have := (h.inner b y hb').int_grid hgy; omega
    · rw [List.getElem?_set_ne (fun e' => ea e'.symm)] at ha
      by_cases eb : b = j
      · subst eb
        rw [List.getElem?_set_self (by
          rcases Nat.lt_or_ge b rs.length with h' | h'
          · exact h'
          · rw [List.getElem?_eq_none h'] at hj; cases hj)] at hb'
        cases hb'
        rcases new g hgy with e | e
        · exact h.apart a b x r ha hj hne g hgx e
        · have := (h.inner a x ha).int_grid hgx; omega
      · rw [List.getElem?_set_ne (fun e' => eb e'.symm)] at hb'
        exact h.apart a b x y ha hb' hne g hgx hgy
  · intro N h1 h2
    refine ⟨hg.os.trans hb.os, hg.tape.trans hb.tape, hg.output.trans hb.output, ?_, fun k hk => ?_⟩
    · simp only [World.setCell, Array.size_modify]; omega
    · refine (Below.heap_setCell w2 ⟨RB, j, none⟩ _ k (fun e => by have e' : k = RB := e; omega)).trans (keep k (by omega) fun e => ?_)
      have := hm0.int_grid e
      omega
end Go.Proofs.Ytlnmemeejgnbeaa
