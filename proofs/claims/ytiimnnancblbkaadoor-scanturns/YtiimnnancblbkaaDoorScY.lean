/-
  CONTRACT of turned: statements whose asks are turned.
-/
import Derived.Test.YtiimnnancblbkaaDoorScX
set_option linter.unusedSimpArgs false
set_option linter.unusedVariables false
namespace Go.Proofs.YtiimnnancblbkaaDoor
open Go.RowKit

/-- a row of turned statements under way: none of what they hold lies in the row itself -/
def GrowT (S : Nat → Prop) (N : Nat) (w : World) (l : List St) (v : Value) : Prop := ∃ cs : List (List Value), IsRow (From N) w 48 8 v l.length cs.flatten ∧ IsStL (fun b => (S b ∨ N ≤ b) ∧ some b ≠ v.ownBlock) w l cs
theorem GrowT.nil (S : Nat → Prop) (N : Nat) (w : World) : GrowT S N w [] (.slice none 0 0) := ⟨[], IsRow.nil .., by simp only [IsStL]⟩
theorem GrowT.same {S : Nat → Prop} {N : Nat} {w w' : World} {l : List St} {v : Value} (h : GrowT S N w l v) (hb : ∀ b, b < w.heap.size → w'.heap[b]? = w.heap[b]?) : GrowT S N w' l v := by
  obtain ⟨cs, h1, h2⟩ := h
  exact ⟨cs, h1.same fun b _ => hb b, IsStL.same (fun b _ => hb b) l cs h2⟩
theorem GrowT.done {S : Nat → Prop} {N : Nat} {w : World} {l : List St} {v : Value} (h : GrowT S N w l v) : IsSts (fun b => S b ∨ N ≤ b) w l v := by
  obtain ⟨cs, h1, h2⟩ := h
  exact ⟨cs, h1.imp fun b _ h => .inr h, IsStL.imp (fun b _ h => h.1) l cs h2⟩
theorem GrowT.val {S : Nat → Prop} {N : Nat} {w : World} {l : List St} {v : Value} (h : GrowT S N w l v) : ∃ (a : Option Addr) (cap : Nat), v = .slice a l.length cap := by
  obtain ⟨cs, h1, h2⟩ := h
  exact h1.val
theorem growT_snoc {S : Nat → Prop} {N : Nat} {w w1 : World} {l : List St} {s : St} {c : List Value} {v v' : Value} {cs : List (List Value)} (o : Obj) (hN : N ≤ w.heap.size)
    (hrow : IsRow (From N) w 48 8 v l.length cs.flatten) (hall : IsStL (fun b => (S b ∨ N ≤ b) ∧ some b ≠ v.ownBlock) w l cs) (hs : IsSt (fun b => (S b ∨ N ≤ b) ∧ some b ≠ v.ownBlock) w s c)
    (hown : w1.ownsRow 0 48 8 v' (l.length + 1) (cs.flatten ++ c)) (hg : (w.alloc o).grownBy w1 v.ownBlock) (hb : v'.ownBlock = v.ownBlock ∨ v'.ownBlock = some (w.heap.size + 1)) :
    GrowT S N w1 (l ++ [s]) v' := by
  have hsz : w.heap.size ≤ (w.alloc o).heap.size := by simp
  have hall2 := IsStL.snoc hs l cs hall
  have carry : ∀ b, ((S b ∨ N ≤ b) ∧ some b ≠ v.ownBlock) → b < w.heap.size → w1.heap[b]? = w.heap[b]? := fun b h1 h2 => (hg.block b (Nat.lt_of_lt_of_le h2 hsz) h1.2).trans (Below.heap_alloc w o b h2)
  have hall3 : IsStL (fun b => ((S b ∨ N ≤ b) ∧ some b ≠ v.ownBlock) ∧ some b ≠ v'.ownBlock) w (l ++ [s]) (cs ++ [c]) := IsStL.imp (fun b h1 h2 => ⟨h2, fun e => by
    rcases hb with hb | hb
    · exact h2.2 (e.trans hb)
    · rw [hb] at e
      simp only [Option.some.injEq] at e
      omega⟩) _ _ hall2
  have hall4 := IsStL.same (w' := w1) (fun b h1 h2 => carry b h1.1 h2) _ _ hall3
  refine ⟨cs ++ [c], ⟨?_, fun b hb' => ?_⟩, IsStL.imp (fun b _ h => ⟨h.1.1, h.2⟩) _ _ hall4⟩
  · simpa using hown
  · show N ≤ b
    rcases hb with e | e
    · exact hrow.2 b (by rw [← e]; exact hb')
    · rw [e] at hb'
      simp only [Option.some.injEq] at hb'
      omega
theorem turnL_take (l : List St) (j : Nat) (h : j < l.length) : turnL (l.take (j + 1)) = turnL (l.take j) ++ [turnS l[j]] := by
  rw [List.take_succ_eq_append_getElem h, turnL_app]
  simp only [turnL]

/-- what turned comes to -/
def TurnOK (l : List St) : Prop := ∀ (S : Nat → Prop) (w : World) (v : Value), IsSts S w l v → (∀ c, S c → c < w.heap.size) → l.length ≤ 1000000 →
  Calls Tryd.prog 6 #[v] w fun e w' => ∃ (a : Option Addr) (cap : Nat), e = .returned (.slice a l.length cap) ∧ IsSts (fun b => S b ∨ w.heap.size ≤ b) w' (turnL l) (.slice a l.length cap) ∧ Below w.heap.size w w'

set_option maxRecDepth 100000 in
set_option maxHeartbeats 12800000 in
theorem turned_at (l : List St) (ih : ∀ p x th el, St.cond p x th el ∈ l → (TurnOK th ∧ th.length ≤ 1000000) ∧ (TurnOK el ∧ el.length ≤ 1000000)) : TurnOK l := by
  intro S w v hx hS hll
  obtain ⟨i0, hi, hz0, hz1, hz2⟩ := info_st
  obtain ⟨cs, hrow, hall⟩ := hx
  obtain ⟨ao, cap, rfl⟩ := hrow.val
  have HROW := hide hrow
  have HALL := hide hall
  have HS := hide hS
  have IH := hide ih
  clear hrow hall hS ih
  go_enter Tryd.func6, Tryd.ntmps6
  go_wp2_with fail
  go_loopw [3, 4, 5] (fun v i _ wr => ∃ j : Nat, j ≤ l.length ∧ i = .int .i64 j ∧ Hid (GrowT S w.heap.size wr (turnL (l.take j)) v) ∧ Hid (Below w.heap.size w wr)) (fun _ i _ _ => l.length - (intOf i).toNat)
  case atStart => exact ⟨0, Nat.zero_le _, rfl, hide (by simpa [turnL] using GrowT.nil S w.heap.size w), hide (Below.refl _ _)⟩
  case round =>
    obtain ⟨j, hj, rfl, hy, hwr⟩ := hrel
    have HLJ : Hid ((turnL (l.take j)).length = j) := by show _ = _; rw [turnL_len, List.length_take]; omega
    obtain ⟨va, vc, hv⟩ := hy.out.val
    rw [HLJ.out] at hv
    subst hv
    by_cases hlt : j < l.length
    · have hji : (j : Int) < (l.length : Int) := by omega
      obtain ⟨g, cap', hv, hSg⟩ := HROW.out.addr (by omega)
      obtain ⟨rfl, rfl⟩ : ao = some ⟨g, 0, none⟩ ∧ cap = cap' := by cases hv; exact ⟨rfl, rfl⟩
      obtain ⟨c, hc, hst⟩ := HALL.out.get j hlt
      have hgB := HS.out g hSg
      have HCELL : Hid (∀ k u, c[k]? = some u → k < 8 → wr.cell? ⟨g, j * 8 + k, none⟩ = some u) := fun k u hk h8 => (World.cell?_of_block (a := ⟨g, j * 8 + k, none⟩) (hwr.out.block g hgB)).trans (HROW.out.cell rfl (by rw [flat_at 8 cs HALL.out.eight j c hc k h8]; exact hk))
      have HTJ := hide (turnL_take l j hlt)
      have HMEM := hide (List.getElem_mem hlt)
      generalize l[j] = s at *
      have HST := hide (IsSt.same (w' := wr) (fun c h1 _ => hwr.out.block c (HS.out c h1)) s c hst)
      have hjl : j ≤ 1000000 := by omega
      have HVB : Hid (∀ b, (Value.slice va j vc).ownBlock = some b → w.heap.size ≤ b ∧ b < wr.heap.size) := by
        obtain ⟨cs', hr, _⟩ := hy.out
        exact fun b hb => ⟨hr.2 b hb, (hr.1.lt b hb).2⟩
      clear hv hc hst hgB
      cases s with
      | set p nm x =>
        have hst := HST.out
        simp only [IsSt] at hst
        obtain ⟨a, rfl, hxa⟩ := hst
        obtain ⟨X, rfl⟩ := hxa.ptr
        clear hxa
        have r0 : wr.cell? ⟨g, j * 8, none⟩ = some (.int .i64 1) := HCELL.out 0 _ rfl (by decide)
        have r1 : wr.cell? ⟨g, j * 8 + 1, none⟩ = some (.int .i64 p) := HCELL.out 1 _ rfl (by decide)
        have r2 : wr.cell? ⟨g, j * 8 + 2, none⟩ = some (.string nm) := HCELL.out 2 _ rfl (by decide)
        have r3 : wr.cell? ⟨g, j * 8 + 3, none⟩ = some (.pointer (some ⟨X, 0, none⟩)) := HCELL.out 3 _ rfl (by decide)
        have r4 : wr.cell? ⟨g, j * 8 + 4, none⟩ = some (.slice none 0 0) := HCELL.out 4 _ rfl (by decide)
        have r5 : wr.cell? ⟨g, j * 8 + 5, none⟩ = some (.int .i64 0) := HCELL.out 5 _ rfl (by decide)
        have r6 : wr.cell? ⟨g, j * 8 + 6, none⟩ = some (.slice none 0 0) := HCELL.out 6 _ rfl (by decide)
        have r7 : wr.cell? ⟨g, j * 8 + 7, none⟩ = some (.slice none 0 0) := HCELL.out 7 _ rfl (by decide)
        have HO := hide (below_alloc wr (.cells #[.int .i64 1, .int .i64 p, .string nm, .pointer (some ⟨X, 0, none⟩), .slice none 0 0, .int .i64 0, .slice none 0 0, .slice none 0 0] 48))
        have HN := hide (blk_new wr (.cells #[.int .i64 1, .int .i64 p, .string nm, .pointer (some ⟨X, 0, none⟩), .slice none 0 0, .int .i64 0, .slice none 0 0, .slice none 0 0] 48))
        have HSN : Hid (IsSt (fun b => (S b ∨ w.heap.size ≤ b) ∧ some b ≠ (Value.slice va j vc).ownBlock) (wr.alloc (.cells #[.int .i64 1, .int .i64 p, .string nm, .pointer (some ⟨X, 0, none⟩), .slice none 0 0, .int .i64 0, .slice none 0 0, .slice none 0 0] 48)) (turnS (.set p nm x)) [.int .i64 1, .int .i64 p, .string nm, .pointer (some ⟨X, 0, none⟩), .slice none 0 0, .int .i64 0, .slice none 0 0, .slice none 0 0]) := IsSt.imp (fun b _ h => ⟨.inl h, fun e => by have := HVB.out b e.symm; have := HS.out b h; omega⟩) _ _ (IsSt.same (w' := wr.alloc (.cells #[.int .i64 1, .int .i64 p, .string nm, .pointer (some ⟨X, 0, none⟩), .slice none 0 0, .int .i64 0, .slice none 0 0, .slice none 0 0] 48)) (fun c h1 h2 => HO.out.block c h2) (turnS (.set p nm x)) _ (by simp only [turnS]; exact HST.out))
        clear HCELL HST
        have HY1 := hide (hy.out.same fun b h => HO.out.block b h)
        have m0 : ∀ k u, [.int .i64 1, .int .i64 p, .string nm, .pointer (some ⟨X, 0, none⟩), .slice none 0 0, .int .i64 0, .slice none 0 0, .slice none 0 0][k]? = some u → (wr.alloc (.cells #[.int .i64 1, .int .i64 p, .string nm, .pointer (some ⟨X, 0, none⟩), .slice none 0 0, .int .i64 0, .slice none 0 0, .slice none 0 0] 48)).cell? ⟨wr.heap.size, k, none⟩ = some u := fun k u hk => by rw [blk_cell HN.out]; simpa using hk
        have n0 : (wr.alloc (.cells #[.int .i64 1, .int .i64 p, .string nm, .pointer (some ⟨X, 0, none⟩), .slice none 0 0, .int .i64 0, .slice none 0 0, .slice none 0 0] 48)).cell? ⟨wr.heap.size, 0, none⟩ = some (.int .i64 1) := m0 0 _ rfl
        have n1 : (wr.alloc (.cells #[.int .i64 1, .int .i64 p, .string nm, .pointer (some ⟨X, 0, none⟩), .slice none 0 0, .int .i64 0, .slice none 0 0, .slice none 0 0] 48)).cell? ⟨wr.heap.size, 1, none⟩ = some (.int .i64 p) := m0 1 _ rfl
        have n2 : (wr.alloc (.cells #[.int .i64 1, .int .i64 p, .string nm, .pointer (some ⟨X, 0, none⟩), .slice none 0 0, .int .i64 0, .slice none 0 0, .slice none 0 0] 48)).cell? ⟨wr.heap.size, 2, none⟩ = some (.string nm) := m0 2 _ rfl
        have n3 : (wr.alloc (.cells #[.int .i64 1, .int .i64 p, .string nm, .pointer (some ⟨X, 0, none⟩), .slice none 0 0, .int .i64 0, .slice none 0 0, .slice none 0 0] 48)).cell? ⟨wr.heap.size, 3, none⟩ = some (.pointer (some ⟨X, 0, none⟩)) := m0 3 _ rfl
        have n4 : (wr.alloc (.cells #[.int .i64 1, .int .i64 p, .string nm, .pointer (some ⟨X, 0, none⟩), .slice none 0 0, .int .i64 0, .slice none 0 0, .slice none 0 0] 48)).cell? ⟨wr.heap.size, 4, none⟩ = some (.slice none 0 0) := m0 4 _ rfl
        have n5 : (wr.alloc (.cells #[.int .i64 1, .int .i64 p, .string nm, .pointer (some ⟨X, 0, none⟩), .slice none 0 0, .int .i64 0, .slice none 0 0, .slice none 0 0] 48)).cell? ⟨wr.heap.size, 5, none⟩ = some (.int .i64 0) := m0 5 _ rfl
        have n6 : (wr.alloc (.cells #[.int .i64 1, .int .i64 p, .string nm, .pointer (some ⟨X, 0, none⟩), .slice none 0 0, .int .i64 0, .slice none 0 0, .slice none 0 0] 48)).cell? ⟨wr.heap.size, 6, none⟩ = some (.slice none 0 0) := m0 6 _ rfl
        have n7 : (wr.alloc (.cells #[.int .i64 1, .int .i64 p, .string nm, .pointer (some ⟨X, 0, none⟩), .slice none 0 0, .int .i64 0, .slice none 0 0, .slice none 0 0] 48)).cell? ⟨wr.heap.size, 7, none⟩ = some (.slice none 0 0) := m0 7 _ rfl
        clear m0
        obtain ⟨cs2, hrow2, hall2⟩ := HY1.out
        rw [HLJ.out] at hrow2
        have HROW2 := hide hrow2
        have HALL2 := hide hall2
        clear hrow2 hall2
        have HOWN := hide ((HROW2.out.1).alloc (.cells #[.int .i64 1, .int .i64 p, .string nm, .pointer (some ⟨X, 0, none⟩), .slice none 0 0, .int .i64 0, .slice none 0 0, .slice none 0 0] 48))
        go_wp2_with (at_builtin; (refine append_new rfl (.tmp 34) (.tmp 36) 25 rfl 48 i0 (.agg #[.int .i64 0, .int .i64 0, .string ⟨#[]⟩, .pointer none, .slice none 0 0, .int .i64 0, .slice none 0 0, .slice none 0 0]) 8 120 Tryd.underlying25 hi hz0 hz1 hz2 rfl (by decide) _ j cs2.flatten rfl HOWN.out ⟨wr.heap.size + 1, 0, none⟩ 1 [.int .i64 1, .int .i64 p, .string nm, .pointer (some ⟨X, 0, none⟩), .slice none 0 0, .int .i64 0, .slice none 0 0, .slice none 0 0] rfl rfl ?c1 ?c2 ?c3 (by decide) ?_))
        case c1 => have h := row_new (wr.alloc (.cells #[.int .i64 1, .int .i64 p, .string nm, .pointer (some ⟨X, 0, none⟩), .slice none 0 0, .int .i64 0, .slice none 0 0, .slice none 0 0] 48)) 48 [.int .i64 1, .int .i64 p, .string nm, .pointer (some ⟨X, 0, none⟩), .slice none 0 0, .int .i64 0, .slice none 0 0, .slice none 0 0]; rw [show (wr.alloc (.cells #[.int .i64 1, .int .i64 p, .string nm, .pointer (some ⟨X, 0, none⟩), .slice none 0 0, .int .i64 0, .slice none 0 0, .slice none 0 0] 48)).heap.size = wr.heap.size + 1 by simp] at h; exact h
        case c2 => simp [Value.oneCell']
        case c3 => omega
        · intro v7 w7 hown7 hg7 hb7
          have HE7 := hide (growT_snoc (l := turnL (l.take j)) (.cells #[.int .i64 1, .int .i64 p, .string nm, .pointer (some ⟨X, 0, none⟩), .slice none 0 0, .int .i64 0, .slice none 0 0, .slice none 0 0] 48) (Nat.le_trans hwr.out.size HO.out.size) (by rw [HLJ.out]; exact HROW2.out) HALL2.out HSN.out (by rw [HLJ.out]; exact hown7) hg7 (by rw [show (wr.alloc (.cells #[.int .i64 1, .int .i64 p, .string nm, .pointer (some ⟨X, 0, none⟩), .slice none 0 0, .int .i64 0, .slice none 0 0, .slice none 0 0] 48)).heap.size = wr.heap.size + 1 by simp]; exact hb7))
          rw [← HTJ.out] at HE7
          have HB7 : Hid (Below w.heap.size w w7) := Below.grownOn ((hwr.out.trans (HO.out.mono hwr.out.size)).alloc (Nat.le_trans hwr.out.size HO.out.size) _) hg7 (fun b hb => (HVB.out b hb).1) (by have := hwr.out.size; have := HO.out.size; simp; omega)
          clear hown7 hg7 hb7 n0 n1 n2 n3 n4 n5 n6 n7
          go_wp2_with fail
          exact ⟨⟨j + 1, by omega, by go_num, HE7, HB7⟩, by simp [intOf]; omega⟩
      | call p nm xs n =>
        have hst := HST.out
        simp only [IsSt] at hst
        obtain ⟨a, rfl, hxa⟩ := hst
        obtain ⟨xa, xc, rfl⟩ : ∃ (p : Option Addr) (q : Nat), a = .slice p xs.length q := by obtain ⟨vs, hr, _⟩ := hxa; exact hr.val
        clear hxa
        have r0 : wr.cell? ⟨g, j * 8, none⟩ = some (.int .i64 3) := HCELL.out 0 _ rfl (by decide)
        have r1 : wr.cell? ⟨g, j * 8 + 1, none⟩ = some (.int .i64 p) := HCELL.out 1 _ rfl (by decide)
        have r2 : wr.cell? ⟨g, j * 8 + 2, none⟩ = some (.string nm) := HCELL.out 2 _ rfl (by decide)
        have r3 : wr.cell? ⟨g, j * 8 + 3, none⟩ = some (.pointer none) := HCELL.out 3 _ rfl (by decide)
        have r4 : wr.cell? ⟨g, j * 8 + 4, none⟩ = some (.slice xa xs.length xc) := HCELL.out 4 _ rfl (by decide)
        have r5 : wr.cell? ⟨g, j * 8 + 5, none⟩ = some (.int .i64 n) := HCELL.out 5 _ rfl (by decide)
        have r6 : wr.cell? ⟨g, j * 8 + 6, none⟩ = some (.slice none 0 0) := HCELL.out 6 _ rfl (by decide)
        have r7 : wr.cell? ⟨g, j * 8 + 7, none⟩ = some (.slice none 0 0) := HCELL.out 7 _ rfl (by decide)
        have HO := hide (below_alloc wr (.cells #[.int .i64 3, .int .i64 p, .string nm, .pointer none, .slice xa xs.length xc, .int .i64 n, .slice none 0 0, .slice none 0 0] 48))
        have HN := hide (blk_new wr (.cells #[.int .i64 3, .int .i64 p, .string nm, .pointer none, .slice xa xs.length xc, .int .i64 n, .slice none 0 0, .slice none 0 0] 48))
        have HSN : Hid (IsSt (fun b => (S b ∨ w.heap.size ≤ b) ∧ some b ≠ (Value.slice va j vc).ownBlock) (wr.alloc (.cells #[.int .i64 3, .int .i64 p, .string nm, .pointer none, .slice xa xs.length xc, .int .i64 n, .slice none 0 0, .slice none 0 0] 48)) (turnS (.call p nm xs n)) [.int .i64 3, .int .i64 p, .string nm, .pointer none, .slice xa xs.length xc, .int .i64 n, .slice none 0 0, .slice none 0 0]) := IsSt.imp (fun b _ h => ⟨.inl h, fun e => by have := HVB.out b e.symm; have := HS.out b h; omega⟩) _ _ (IsSt.same (w' := wr.alloc (.cells #[.int .i64 3, .int .i64 p, .string nm, .pointer none, .slice xa xs.length xc, .int .i64 n, .slice none 0 0, .slice none 0 0] 48)) (fun c h1 h2 => HO.out.block c h2) (turnS (.call p nm xs n)) _ (by simp only [turnS]; exact HST.out))
        clear HCELL HST
        have HY1 := hide (hy.out.same fun b h => HO.out.block b h)
        have m0 : ∀ k u, [.int .i64 3, .int .i64 p, .string nm, .pointer none, .slice xa xs.length xc, .int .i64 n, .slice none 0 0, .slice none 0 0][k]? = some u → (wr.alloc (.cells #[.int .i64 3, .int .i64 p, .string nm, .pointer none, .slice xa xs.length xc, .int .i64 n, .slice none 0 0, .slice none 0 0] 48)).cell? ⟨wr.heap.size, k, none⟩ = some u := fun k u hk => by rw [blk_cell HN.out]; simpa using hk
        have n0 : (wr.alloc (.cells #[.int .i64 3, .int .i64 p, .string nm, .pointer none, .slice xa xs.length xc, .int .i64 n, .slice none 0 0, .slice none 0 0] 48)).cell? ⟨wr.heap.size, 0, none⟩ = some (.int .i64 3) := m0 0 _ rfl
        have n1 : (wr.alloc (.cells #[.int .i64 3, .int .i64 p, .string nm, .pointer none, .slice xa xs.length xc, .int .i64 n, .slice none 0 0, .slice none 0 0] 48)).cell? ⟨wr.heap.size, 1, none⟩ = some (.int .i64 p) := m0 1 _ rfl
        have n2 : (wr.alloc (.cells #[.int .i64 3, .int .i64 p, .string nm, .pointer none, .slice xa xs.length xc, .int .i64 n, .slice none 0 0, .slice none 0 0] 48)).cell? ⟨wr.heap.size, 2, none⟩ = some (.string nm) := m0 2 _ rfl
        have n3 : (wr.alloc (.cells #[.int .i64 3, .int .i64 p, .string nm, .pointer none, .slice xa xs.length xc, .int .i64 n, .slice none 0 0, .slice none 0 0] 48)).cell? ⟨wr.heap.size, 3, none⟩ = some (.pointer none) := m0 3 _ rfl
        have n4 : (wr.alloc (.cells #[.int .i64 3, .int .i64 p, .string nm, .pointer none, .slice xa xs.length xc, .int .i64 n, .slice none 0 0, .slice none 0 0] 48)).cell? ⟨wr.heap.size, 4, none⟩ = some (.slice xa xs.length xc) := m0 4 _ rfl
        have n5 : (wr.alloc (.cells #[.int .i64 3, .int .i64 p, .string nm, .pointer none, .slice xa xs.length xc, .int .i64 n, .slice none 0 0, .slice none 0 0] 48)).cell? ⟨wr.heap.size, 5, none⟩ = some (.int .i64 n) := m0 5 _ rfl
        have n6 : (wr.alloc (.cells #[.int .i64 3, .int .i64 p, .string nm, .pointer none, .slice xa xs.length xc, .int .i64 n, .slice none 0 0, .slice none 0 0] 48)).cell? ⟨wr.heap.size, 6, none⟩ = some (.slice none 0 0) := m0 6 _ rfl
        have n7 : (wr.alloc (.cells #[.int .i64 3, .int .i64 p, .string nm, .pointer none, .slice xa xs.length xc, .int .i64 n, .slice none 0 0, .slice none 0 0] 48)).cell? ⟨wr.heap.size, 7, none⟩ = some (.slice none 0 0) := m0 7 _ rfl
        clear m0
        obtain ⟨cs2, hrow2, hall2⟩ := HY1.out
        rw [HLJ.out] at hrow2
        have HROW2 := hide hrow2
        have HALL2 := hide hall2
        clear hrow2 hall2
        have HOWN := hide ((HROW2.out.1).alloc (.cells #[.int .i64 3, .int .i64 p, .string nm, .pointer none, .slice xa xs.length xc, .int .i64 n, .slice none 0 0, .slice none 0 0] 48))
        go_wp2_with (at_builtin; (refine append_new rfl (.tmp 34) (.tmp 36) 25 rfl 48 i0 (.agg #[.int .i64 0, .int .i64 0, .string ⟨#[]⟩, .pointer none, .slice none 0 0, .int .i64 0, .slice none 0 0, .slice none 0 0]) 8 120 Tryd.underlying25 hi hz0 hz1 hz2 rfl (by decide) _ j cs2.flatten rfl HOWN.out ⟨wr.heap.size + 1, 0, none⟩ 1 [.int .i64 3, .int .i64 p, .string nm, .pointer none, .slice xa xs.length xc, .int .i64 n, .slice none 0 0, .slice none 0 0] rfl rfl ?c1 ?c2 ?c3 (by decide) ?_))
        case c1 => have h := row_new (wr.alloc (.cells #[.int .i64 3, .int .i64 p, .string nm, .pointer none, .slice xa xs.length xc, .int .i64 n, .slice none 0 0, .slice none 0 0] 48)) 48 [.int .i64 3, .int .i64 p, .string nm, .pointer none, .slice xa xs.length xc, .int .i64 n, .slice none 0 0, .slice none 0 0]; rw [show (wr.alloc (.cells #[.int .i64 3, .int .i64 p, .string nm, .pointer none, .slice xa xs.length xc, .int .i64 n, .slice none 0 0, .slice none 0 0] 48)).heap.size = wr.heap.size + 1 by simp] at h; exact h
        case c2 => simp [Value.oneCell']
        case c3 => omega
        · intro v7 w7 hown7 hg7 hb7
          have HE7 := hide (growT_snoc (l := turnL (l.take j)) (.cells #[.int .i64 3, .int .i64 p, .string nm, .pointer none, .slice xa xs.length xc, .int .i64 n, .slice none 0 0, .slice none 0 0] 48) (Nat.le_trans hwr.out.size HO.out.size) (by rw [HLJ.out]; exact HROW2.out) HALL2.out HSN.out (by rw [HLJ.out]; exact hown7) hg7 (by rw [show (wr.alloc (.cells #[.int .i64 3, .int .i64 p, .string nm, .pointer none, .slice xa xs.length xc, .int .i64 n, .slice none 0 0, .slice none 0 0] 48)).heap.size = wr.heap.size + 1 by simp]; exact hb7))
          rw [← HTJ.out] at HE7
          have HB7 : Hid (Below w.heap.size w w7) := Below.grownOn ((hwr.out.trans (HO.out.mono hwr.out.size)).alloc (Nat.le_trans hwr.out.size HO.out.size) _) hg7 (fun b hb => (HVB.out b hb).1) (by have := hwr.out.size; have := HO.out.size; simp; omega)
          clear hown7 hg7 hb7 n0 n1 n2 n3 n4 n5 n6 n7
          go_wp2_with fail
          exact ⟨⟨j + 1, by omega, by go_num, HE7, HB7⟩, by simp [intOf]; omega⟩
      | cond p x th el =>
        have hst := HST.out
        simp only [IsSt] at hst
        obtain ⟨a, t, u, tcs, ucs, rfl, hxa, hr1, hl1, hr2, hl2⟩ := hst
        obtain ⟨X, rfl⟩ := hxa.ptr
        obtain ⟨ta, tc, rfl⟩ := hr1.val
        obtain ⟨ua, uc, rfl⟩ := hr2.val
        have HXA := hide hxa
        have HTH : Hid (IsSts S wr th (.slice ta th.length tc)) := ⟨tcs, hr1, hl1⟩
        have HEL : Hid (IsSts S wr el (.slice ua el.length uc)) := ⟨ucs, hr2, hl2⟩
        obtain ⟨⟨ok1, le1⟩, ok2, le2⟩ := IH.out p x th el HMEM.out
        have OK1 := hide ok1
        have OK2 := hide ok2
        clear hxa hr1 hl1 hr2 hl2 ok1 ok2
        have r0 : wr.cell? ⟨g, j * 8, none⟩ = some (.int .i64 2) := HCELL.out 0 _ rfl (by decide)
        have r1 : wr.cell? ⟨g, j * 8 + 1, none⟩ = some (.int .i64 p) := HCELL.out 1 _ rfl (by decide)
        have r2 : wr.cell? ⟨g, j * 8 + 2, none⟩ = some (.string ⟨#[]⟩) := HCELL.out 2 _ rfl (by decide)
        have r3 : wr.cell? ⟨g, j * 8 + 3, none⟩ = some (.pointer (some ⟨X, 0, none⟩)) := HCELL.out 3 _ rfl (by decide)
        have r4 : wr.cell? ⟨g, j * 8 + 4, none⟩ = some (.slice none 0 0) := HCELL.out 4 _ rfl (by decide)
        have r5 : wr.cell? ⟨g, j * 8 + 5, none⟩ = some (.int .i64 0) := HCELL.out 5 _ rfl (by decide)
        have r6 : wr.cell? ⟨g, j * 8 + 6, none⟩ = some (.slice ta th.length tc) := HCELL.out 6 _ rfl (by decide)
        have r7 : wr.cell? ⟨g, j * 8 + 7, none⟩ = some (.slice ua el.length uc) := HCELL.out 7 _ rfl (by decide)
        have HX1 : Hid (Below wr.heap.size wr ((wr.alloc (.cells #[.int .i64 2, .int .i64 p, .string ⟨#[]⟩, .pointer (some ⟨wr.heap.size + 1, 0, none⟩), .slice none 0 0, .int .i64 0, .slice ta th.length tc, .slice ua el.length uc] 48)).alloc (.cells #[.int .i64 4, .int .i64 p, .int .i64 0, .int .i64 0, .string ⟨#[]⟩, .string ⟨#[]⟩, .string ⟨#[]⟩, .pointer (some ⟨X, 0, none⟩), .pointer none] 50))) := Below.step (below_alloc wr (.cells #[.int .i64 2, .int .i64 p, .string ⟨#[]⟩, .pointer (some ⟨wr.heap.size + 1, 0, none⟩), .slice none 0 0, .int .i64 0, .slice ta th.length tc, .slice ua el.length uc] 48)) (below_alloc _ _)
        have HSZ : Hid ((wr.alloc (.cells #[.int .i64 2, .int .i64 p, .string ⟨#[]⟩, .pointer (some ⟨wr.heap.size + 1, 0, none⟩), .slice none 0 0, .int .i64 0, .slice ta th.length tc, .slice ua el.length uc] 48)).heap.size = wr.heap.size + 1) := by show _ = _; simp
        have HN1 : Hid (((wr.alloc (.cells #[.int .i64 2, .int .i64 p, .string ⟨#[]⟩, .pointer (some ⟨wr.heap.size + 1, 0, none⟩), .slice none 0 0, .int .i64 0, .slice ta th.length tc, .slice ua el.length uc] 48)).alloc (.cells #[.int .i64 4, .int .i64 p, .int .i64 0, .int .i64 0, .string ⟨#[]⟩, .string ⟨#[]⟩, .string ⟨#[]⟩, .pointer (some ⟨X, 0, none⟩), .pointer none] 50)).heap[wr.heap.size]? = some (.cells #[.int .i64 2, .int .i64 p, .string ⟨#[]⟩, .pointer (some ⟨wr.heap.size + 1, 0, none⟩), .slice none 0 0, .int .i64 0, .slice ta th.length tc, .slice ua el.length uc] 48 (0, 0))) := (Below.heap_alloc (wr.alloc (.cells #[.int .i64 2, .int .i64 p, .string ⟨#[]⟩, .pointer (some ⟨wr.heap.size + 1, 0, none⟩), .slice none 0 0, .int .i64 0, .slice ta th.length tc, .slice ua el.length uc] 48)) _ wr.heap.size (by rw [HSZ.out]; omega)).trans (blk_new wr _)
        have HE1 : Hid (((wr.alloc (.cells #[.int .i64 2, .int .i64 p, .string ⟨#[]⟩, .pointer (some ⟨wr.heap.size + 1, 0, none⟩), .slice none 0 0, .int .i64 0, .slice ta th.length tc, .slice ua el.length uc] 48)).alloc (.cells #[.int .i64 4, .int .i64 p, .int .i64 0, .int .i64 0, .string ⟨#[]⟩, .string ⟨#[]⟩, .string ⟨#[]⟩, .pointer (some ⟨X, 0, none⟩), .pointer none] 50)).heap[wr.heap.size + 1]? = some (.cells #[.int .i64 4, .int .i64 p, .int .i64 0, .int .i64 0, .string ⟨#[]⟩, .string ⟨#[]⟩, .string ⟨#[]⟩, .pointer (some ⟨X, 0, none⟩), .pointer none] 50 (0, 0))) := by
          show _ = _
          have := blk_new (wr.alloc (.cells #[.int .i64 2, .int .i64 p, .string ⟨#[]⟩, .pointer (some ⟨wr.heap.size + 1, 0, none⟩), .slice none 0 0, .int .i64 0, .slice ta th.length tc, .slice ua el.length uc] 48)) (.cells #[.int .i64 4, .int .i64 p, .int .i64 0, .int .i64 0, .string ⟨#[]⟩, .string ⟨#[]⟩, .string ⟨#[]⟩, .pointer (some ⟨X, 0, none⟩), .pointer none] 50)
          rw [HSZ.out] at this
          exact this
        clear HCELL HST
        go_wp2_with fail
        clear r0 r1 r2 r3 r4 r5 r6 r7
        generalize ((wr.alloc (.cells #[.int .i64 2, .int .i64 p, .string ⟨#[]⟩, .pointer (some ⟨wr.heap.size + 1, 0, none⟩), .slice none 0 0, .int .i64 0, .slice ta th.length tc, .slice ua el.length uc] 48)).alloc (.cells #[.int .i64 4, .int .i64 p, .int .i64 0, .int .i64 0, .string ⟨#[]⟩, .string ⟨#[]⟩, .string ⟨#[]⟩, .pointer (some ⟨X, 0, none⟩), .pointer none] 50)) = x0 at *
        clear HSZ
        go_cut [3, 4, 5] from 26 to 33 (fun v i pt wx => v = .slice va j vc ∧ i = .int .i64 j ∧ pt = .pointer (some ⟨wr.heap.size, 0, none⟩) ∧ ∃ (ea fa : Option Addr) (ec fc : Nat), Hid (wx.heap[wr.heap.size]? = some (.cells #[.int .i64 2, .int .i64 p, .string ⟨#[]⟩, .pointer (some ⟨wr.heap.size + 1, 0, none⟩), .slice none 0 0, .int .i64 0, .slice ea el.length ec, .slice fa th.length fc] 48 (0, 0))) ∧ Hid (wx.heap[wr.heap.size + 1]? = some (.cells #[.int .i64 4, .int .i64 p, .int .i64 0, .int .i64 0, .string ⟨#[]⟩, .string ⟨#[]⟩, .string ⟨#[]⟩, .pointer (some ⟨X, 0, none⟩), .pointer none] 50 (0, 0))) ∧ Hid (Below wr.heap.size wr wx) ∧ Hid (IsSts (fun b => S b ∨ wr.heap.size < b) wx (turnL el) (.slice ea el.length ec)) ∧ Hid (IsSts (fun b => S b ∨ wr.heap.size < b) wx (turnL th) (.slice fa th.length fc)))
        case first =>
          refine wp_region_held_drew (S := fun _ => True) (by kernel_rfl) trivial (fun _ => ?_)
          have HXD : Hid (Below wr.heap.size wr x0.drew) := HX1.out.drew
          have HND : Hid (x0.drew.heap[wr.heap.size]? = some (.cells #[.int .i64 2, .int .i64 p, .string ⟨#[]⟩, .pointer (some ⟨wr.heap.size + 1, 0, none⟩), .slice none 0 0, .int .i64 0, .slice ta th.length tc, .slice ua el.length uc] 48 (0, 0))) := HN1.out
          have HED : Hid (x0.drew.heap[wr.heap.size + 1]? = some (.cells #[.int .i64 4, .int .i64 p, .int .i64 0, .int .i64 0, .string ⟨#[]⟩, .string ⟨#[]⟩, .string ⟨#[]⟩, .pointer (some ⟨X, 0, none⟩), .pointer none] 50 (0, 0))) := HE1.out
          generalize x0.drew = x1 at *
          clear HX1 HN1 HE1
          have HTH1 : Hid (IsSts S x1 th (.slice ta th.length tc)) := HTH.out.same fun b h1 h2 => HXD.out.block b h2
          have HEL1 : Hid (IsSts S x1 el (.slice ua el.length uc)) := HEL.out.same fun b h1 h2 => HXD.out.block b h2
          have HSL : Hid (∀ c, S c → c < wr.heap.size) := fun c h => Nat.lt_of_lt_of_le (HS.out c h) hwr.out.size
          have HZ1 : Hid (wr.heap.size + 1 < x1.heap.size) := blk_lt HED.out
          refine wpAnyH_take (i := 0) (oi := ⟨some 26, _, _, _, _, _⟩) (v := (.pointer (some ⟨wr.heap.size, 7, none⟩))) rfl (by kernel_rfl) (by kernel_rfl) (by kernel_rfl) (fun _ _ _ h => h) (Or.inl ⟨by rfl, fun W hS => by (have s0 := hS; go_simp)⟩) trivial ?_
          simp only [Act.put, List.setIfInBounds_toArray, List.set_cons_zero, List.set_cons_succ]
          refine wpAnyH_take (i := 3) (oi := ⟨some 29, _, _, _, _, _⟩) (v := (.pointer (some ⟨wr.heap.size, 6, none⟩))) rfl (by kernel_rfl) (by kernel_rfl) (by kernel_rfl) (fun _ _ _ h => h) (Or.inl ⟨by rfl, fun W hS => by (have s0 := hS; go_simp)⟩) trivial ?_
          simp only [Act.put, List.setIfInBounds_toArray, List.set_cons_zero, List.set_cons_succ]
          have HQx1 : Hid (Below x1.heap.size x1 x1) := Below.refl _ _
          refine wpAnyH_ready (rs := [1, 4]) (by kernel_rfl) (by simp) ?_
          refine AllReadyH.cons rfl (fun K hK => ?_) (AllReadyH.cons rfl (fun K hK => ?_) AllReadyH.nil)
          · have q7 : x1.cell? ⟨wr.heap.size, 7, none⟩ = some (.slice ua el.length uc) := by rw [blk_cell (Below.blk HQx1.out HND.out)]; rfl
            go_simp
            refine hK.out _ _ trivial (fun _ => ?_)
            clear hK K q7
            refine wpAnyH_ready (rs := [2, 4]) (by kernel_rfl) (by simp) ?_
            refine AllReadyH.cons rfl (fun K hK => ?_) (AllReadyH.cons rfl (fun K hK => ?_) AllReadyH.nil)
            · go_simp
              refine ((OK2.out S x1 (.slice ua el.length uc) (HEL1.out.same fun b h1 h2 => HQx1.out.block b h2) (fun c h => Nat.lt_of_lt_of_le (HSL.out c h) (Nat.le_trans (by have := HZ1.out; omega) HQx1.out.size)) le2)).mono ?_
              rintro e x2 ⟨ea, ec, rfl, hres, hb⟩
              have HRel : Hid (IsSts (fun b => S b ∨ x1.heap.size ≤ b) x2 _ _) := hres.imp fun b _ h => h.elim .inl fun h => .inr (Nat.le_trans HQx1.out.size h)
              have HQx2 : Hid (Below x1.heap.size x1 x2) := Below.step HQx1.out hb
              have HBx2 := hide hb
              clear hres hb
              refine hK.out _ _ trivial (fun _ => ?_)
              clear hK K
              refine wpAnyH_ready (rs := [4]) (by kernel_rfl) (by simp) ?_
              refine AllReadyH.cons rfl (fun K hK => ?_) AllReadyH.nil
              have q6 : x2.cell? ⟨wr.heap.size, 6, none⟩ = some (.slice ta th.length tc) := by rw [blk_cell (Below.blk HQx2.out HND.out)]; rfl
              go_simp
              refine hK.out _ _ trivial (fun _ => ?_)
              clear hK K q6
              refine wpAnyH_take (i := 6) (oi := ⟨some 32, _, _, _, _, _⟩) (v := (.pointer (some ⟨wr.heap.size, 6, none⟩))) rfl (by kernel_rfl) (by kernel_rfl) (by kernel_rfl) (fun _ _ _ h => h) (Or.inl ⟨by rfl, fun W hS => by (have s0 := hS; go_simp)⟩) trivial ?_
              simp only [Act.put, List.setIfInBounds_toArray, List.set_cons_zero, List.set_cons_succ]
              refine wpAnyH_ready (rs := [5]) (by kernel_rfl) (by simp) ?_
              refine AllReadyH.cons rfl (fun K hK => ?_) AllReadyH.nil
              go_simp
              refine ((OK1.out S x2 (.slice ta th.length tc) (HTH1.out.same fun b h1 h2 => HQx2.out.block b h2) (fun c h => Nat.lt_of_lt_of_le (HSL.out c h) (Nat.le_trans (by have := HZ1.out; omega) HQx2.out.size)) le1)).mono ?_
              rintro e x3 ⟨fa, fc, rfl, hres, hb⟩
              have HRth : Hid (IsSts (fun b => S b ∨ x1.heap.size ≤ b) x3 _ _) := hres.imp fun b _ h => h.elim .inl fun h => .inr (Nat.le_trans HQx2.out.size h)
              have HQx3 : Hid (Below x1.heap.size x1 x3) := Below.step HQx2.out hb
              have HBx3 := hide hb
              clear hres hb
              refine hK.out _ _ trivial (fun _ => ?_)
              clear hK K
              refine wpAnyH_ready (rs := [7]) (by kernel_rfl) (by simp) ?_
              refine AllReadyH.cons rfl (fun K hK => ?_) AllReadyH.nil
              have hz0 := blk_frozen (Below.blk HQx3.out HND.out) 6
              have hz7 := blk_frozen (Below.blk HQx3.out HND.out) 7
              have HC3 := hide (Below.blk HQx3.out HND.out)
              have HE3 := hide (Below.blk HQx3.out HED.out)
              have c6 : x3.cell? ⟨wr.heap.size, 6, none⟩ = some (.slice ta th.length tc) := by rw [blk_cell HC3.out]; rfl
              go_simp
              refine hK.out _ _ trivial (fun _ => ?_)
              clear hK K c6
              have HC4 : Hid ((x3.setCell ⟨wr.heap.size, 6, none⟩ (.slice ea el.length ec)).heap[wr.heap.size]? = _) := blk_set HC3.out 6 (.slice ea el.length ec)
              have HO4 : Hid (∀ b, b ≠ wr.heap.size → (x3.setCell ⟨wr.heap.size, 6, none⟩ (.slice ea el.length ec)).heap[b]? = x3.heap[b]?) := fun b hb => set_other _ 6 _ hb
              have HS4 : Hid ((x3.setCell ⟨wr.heap.size, 6, none⟩ (.slice ea el.length ec)).heap.size = x3.heap.size) := by show _ = _; simp [World.setCell]
              have HB4 : Hid (Below wr.heap.size wr (x3.setCell ⟨wr.heap.size, 6, none⟩ (.slice ea el.length ec))) := (Below.step HXD.out HQx3.out).setCell (Nat.le_refl _) _
              generalize x3.setCell ⟨wr.heap.size, 6, none⟩ (.slice ea el.length ec) = x4 at *
              refine wpAnyH_take (i := 8) (oi := ⟨some 33, _, _, _, _, _⟩) (v := (.pointer (some ⟨wr.heap.size, 7, none⟩))) rfl (by kernel_rfl) (by kernel_rfl) (by kernel_rfl) (fun _ _ _ h => h) (Or.inl ⟨by rfl, fun W hS => by (have s0 := hS; go_simp)⟩) trivial ?_
              simp only [Act.put, List.setIfInBounds_toArray, List.set_cons_zero, List.set_cons_succ]
              refine wpAnyH_ready (rs := [9]) (by kernel_rfl) (by simp) ?_
              refine AllReadyH.cons rfl (fun K hK => ?_) AllReadyH.nil
              have hz1 := blk_frozen HC4.out 7
              have c7 : x4.cell? ⟨wr.heap.size, 7, none⟩ = some (.slice ua el.length uc) := by rw [blk_cell HC4.out]; rfl
              go_simp
              refine hK.out _ _ trivial (fun _ => ?_)
              clear hK K c7
              have HC5 : Hid ((x4.setCell ⟨wr.heap.size, 7, none⟩ (.slice fa th.length fc)).heap[wr.heap.size]? = _) := blk_set HC4.out 7 (.slice fa th.length fc)
              have HO5 : Hid (∀ b, b ≠ wr.heap.size → (x4.setCell ⟨wr.heap.size, 7, none⟩ (.slice fa th.length fc)).heap[b]? = x3.heap[b]?) := fun b hb => (set_other _ 7 _ hb).trans (HO4.out b hb)
              have HB5 : Hid (Below wr.heap.size wr (x4.setCell ⟨wr.heap.size, 7, none⟩ (.slice fa th.length fc))) := HB4.out.setCell (Nat.le_refl _) _
              generalize x4.setCell ⟨wr.heap.size, 7, none⟩ (.slice fa th.length fc) = x5 at *
              refine wpAnyH_done (by kernel_rfl) ?_ _
              go_wp2_with fail
              go_meet
              case rel => exact ⟨rfl, rfl, rfl, ea, fa, ec, fc, hide HC5.out, hide ((HO5.out _ (by omega)).trans HE3.out), HB5, hide ((((HRel.out.same fun b h1 h2 => HBx3.out.block b h2).imp fun b _ h => h.elim .inl fun h => .inr (by have := HZ1.out; omega)).same fun b h1 h2 => HO5.out b (h1.elim (fun h => by have := HSL.out b h; omega) fun h => by omega))), hide ((HRth.out.imp fun b _ h => h.elim .inl fun h => .inr (by have := HZ1.out; omega)).same fun b h1 h2 => HO5.out b (h1.elim (fun h => by have := HSL.out b h; omega) fun h => by omega))⟩
            · have q6 : x1.cell? ⟨wr.heap.size, 6, none⟩ = some (.slice ta th.length tc) := by rw [blk_cell (Below.blk HQx1.out HND.out)]; rfl
              go_simp
              refine hK.out _ _ trivial (fun _ => ?_)
              clear hK K q6
              refine wpAnyH_ready (rs := [2]) (by kernel_rfl) (by simp) ?_
              refine AllReadyH.cons rfl (fun K hK => ?_) AllReadyH.nil
              go_simp
              refine ((OK2.out S x1 (.slice ua el.length uc) (HEL1.out.same fun b h1 h2 => HQx1.out.block b h2) (fun c h => Nat.lt_of_lt_of_le (HSL.out c h) (Nat.le_trans (by have := HZ1.out; omega) HQx1.out.size)) le2)).mono ?_
              rintro e x2 ⟨ea, ec, rfl, hres, hb⟩
              have HRel : Hid (IsSts (fun b => S b ∨ x1.heap.size ≤ b) x2 _ _) := hres.imp fun b _ h => h.elim .inl fun h => .inr (Nat.le_trans HQx1.out.size h)
              have HQx2 : Hid (Below x1.heap.size x1 x2) := Below.step HQx1.out hb
              have HBx2 := hide hb
              clear hres hb
              refine hK.out _ _ trivial (fun _ => ?_)
              clear hK K
              refine wpAnyH_take (i := 6) (oi := ⟨some 32, _, _, _, _, _⟩) (v := (.pointer (some ⟨wr.heap.size, 6, none⟩))) rfl (by kernel_rfl) (by kernel_rfl) (by kernel_rfl) (fun _ _ _ h => h) (Or.inl ⟨by rfl, fun W hS => by (have s0 := hS; go_simp)⟩) trivial ?_
              simp only [Act.put, List.setIfInBounds_toArray, List.set_cons_zero, List.set_cons_succ]
              refine wpAnyH_ready (rs := [5]) (by kernel_rfl) (by simp) ?_
              refine AllReadyH.cons rfl (fun K hK => ?_) AllReadyH.nil
              go_simp
              refine ((OK1.out S x2 (.slice ta th.length tc) (HTH1.out.same fun b h1 h2 => HQx2.out.block b h2) (fun c h => Nat.lt_of_lt_of_le (HSL.out c h) (Nat.le_trans (by have := HZ1.out; omega) HQx2.out.size)) le1)).mono ?_
              rintro e x3 ⟨fa, fc, rfl, hres, hb⟩
              have HRth : Hid (IsSts (fun b => S b ∨ x1.heap.size ≤ b) x3 _ _) := hres.imp fun b _ h => h.elim .inl fun h => .inr (Nat.le_trans HQx2.out.size h)
              have HQx3 : Hid (Below x1.heap.size x1 x3) := Below.step HQx2.out hb
              have HBx3 := hide hb
              clear hres hb
              refine hK.out _ _ trivial (fun _ => ?_)
              clear hK K
              refine wpAnyH_ready (rs := [7]) (by kernel_rfl) (by simp) ?_
              refine AllReadyH.cons rfl (fun K hK => ?_) AllReadyH.nil
              have hz0 := blk_frozen (Below.blk HQx3.out HND.out) 6
              have hz7 := blk_frozen (Below.blk HQx3.out HND.out) 7
              have HC3 := hide (Below.blk HQx3.out HND.out)
              have HE3 := hide (Below.blk HQx3.out HED.out)
              have c6 : x3.cell? ⟨wr.heap.size, 6, none⟩ = some (.slice ta th.length tc) := by rw [blk_cell HC3.out]; rfl
              go_simp
              refine hK.out _ _ trivial (fun _ => ?_)
              clear hK K c6
              have HC4 : Hid ((x3.setCell ⟨wr.heap.size, 6, none⟩ (.slice ea el.length ec)).heap[wr.heap.size]? = _) := blk_set HC3.out 6 (.slice ea el.length ec)
              have HO4 : Hid (∀ b, b ≠ wr.heap.size → (x3.setCell ⟨wr.heap.size, 6, none⟩ (.slice ea el.length ec)).heap[b]? = x3.heap[b]?) := fun b hb => set_other _ 6 _ hb
              have HS4 : Hid ((x3.setCell ⟨wr.heap.size, 6, none⟩ (.slice ea el.length ec)).heap.size = x3.heap.size) := by show _ = _; simp [World.setCell]
              have HB4 : Hid (Below wr.heap.size wr (x3.setCell ⟨wr.heap.size, 6, none⟩ (.slice ea el.length ec))) := (Below.step HXD.out HQx3.out).setCell (Nat.le_refl _) _
              generalize x3.setCell ⟨wr.heap.size, 6, none⟩ (.slice ea el.length ec) = x4 at *
              refine wpAnyH_take (i := 8) (oi := ⟨some 33, _, _, _, _, _⟩) (v := (.pointer (some ⟨wr.heap.size, 7, none⟩))) rfl (by kernel_rfl) (by kernel_rfl) (by kernel_rfl) (fun _ _ _ h => h) (Or.inl ⟨by rfl, fun W hS => by (have s0 := hS; go_simp)⟩) trivial ?_
              simp only [Act.put, List.setIfInBounds_toArray, List.set_cons_zero, List.set_cons_succ]
              refine wpAnyH_ready (rs := [9]) (by kernel_rfl) (by simp) ?_
              refine AllReadyH.cons rfl (fun K hK => ?_) AllReadyH.nil
              have hz1 := blk_frozen HC4.out 7
              have c7 : x4.cell? ⟨wr.heap.size, 7, none⟩ = some (.slice ua el.length uc) := by rw [blk_cell HC4.out]; rfl
              go_simp
              refine hK.out _ _ trivial (fun _ => ?_)
              clear hK K c7
              have HC5 : Hid ((x4.setCell ⟨wr.heap.size, 7, none⟩ (.slice fa th.length fc)).heap[wr.heap.size]? = _) := blk_set HC4.out 7 (.slice fa th.length fc)
              have HO5 : Hid (∀ b, b ≠ wr.heap.size → (x4.setCell ⟨wr.heap.size, 7, none⟩ (.slice fa th.length fc)).heap[b]? = x3.heap[b]?) := fun b hb => (set_other _ 7 _ hb).trans (HO4.out b hb)
              have HB5 : Hid (Below wr.heap.size wr (x4.setCell ⟨wr.heap.size, 7, none⟩ (.slice fa th.length fc))) := HB4.out.setCell (Nat.le_refl _) _
              generalize x4.setCell ⟨wr.heap.size, 7, none⟩ (.slice fa th.length fc) = x5 at *
              refine wpAnyH_done (by kernel_rfl) ?_ _
              go_wp2_with fail
              go_meet
              case rel => exact ⟨rfl, rfl, rfl, ea, fa, ec, fc, hide HC5.out, hide ((HO5.out _ (by omega)).trans HE3.out), HB5, hide ((((HRel.out.same fun b h1 h2 => HBx3.out.block b h2).imp fun b _ h => h.elim .inl fun h => .inr (by have := HZ1.out; omega)).same fun b h1 h2 => HO5.out b (h1.elim (fun h => by have := HSL.out b h; omega) fun h => by omega))), hide ((HRth.out.imp fun b _ h => h.elim .inl fun h => .inr (by have := HZ1.out; omega)).same fun b h1 h2 => HO5.out b (h1.elim (fun h => by have := HSL.out b h; omega) fun h => by omega))⟩
          · have q6 : x1.cell? ⟨wr.heap.size, 6, none⟩ = some (.slice ta th.length tc) := by rw [blk_cell (Below.blk HQx1.out HND.out)]; rfl
            go_simp
            refine hK.out _ _ trivial (fun _ => ?_)
            clear hK K q6
            refine wpAnyH_ready (rs := [1]) (by kernel_rfl) (by simp) ?_
            refine AllReadyH.cons rfl (fun K hK => ?_) AllReadyH.nil
            have q7 : x1.cell? ⟨wr.heap.size, 7, none⟩ = some (.slice ua el.length uc) := by rw [blk_cell (Below.blk HQx1.out HND.out)]; rfl
            go_simp
            refine hK.out _ _ trivial (fun _ => ?_)
            clear hK K q7
            refine wpAnyH_ready (rs := [2]) (by kernel_rfl) (by simp) ?_
            refine AllReadyH.cons rfl (fun K hK => ?_) AllReadyH.nil
            go_simp
            refine ((OK2.out S x1 (.slice ua el.length uc) (HEL1.out.same fun b h1 h2 => HQx1.out.block b h2) (fun c h => Nat.lt_of_lt_of_le (HSL.out c h) (Nat.le_trans (by have := HZ1.out; omega) HQx1.out.size)) le2)).mono ?_
            rintro e x2 ⟨ea, ec, rfl, hres, hb⟩
            have HRel : Hid (IsSts (fun b => S b ∨ x1.heap.size ≤ b) x2 _ _) := hres.imp fun b _ h => h.elim .inl fun h => .inr (Nat.le_trans HQx1.out.size h)
            have HQx2 : Hid (Below x1.heap.size x1 x2) := Below.step HQx1.out hb
            have HBx2 := hide hb
            clear hres hb
            refine hK.out _ _ trivial (fun _ => ?_)
            clear hK K
            refine wpAnyH_take (i := 6) (oi := ⟨some 32, _, _, _, _, _⟩) (v := (.pointer (some ⟨wr.heap.size, 6, none⟩))) rfl (by kernel_rfl) (by kernel_rfl) (by kernel_rfl) (fun _ _ _ h => h) (Or.inl ⟨by rfl, fun W hS => by (have s0 := hS; go_simp)⟩) trivial ?_
            simp only [Act.put, List.setIfInBounds_toArray, List.set_cons_zero, List.set_cons_succ]
            refine wpAnyH_ready (rs := [5]) (by kernel_rfl) (by simp) ?_
            refine AllReadyH.cons rfl (fun K hK => ?_) AllReadyH.nil
            go_simp
            refine ((OK1.out S x2 (.slice ta th.length tc) (HTH1.out.same fun b h1 h2 => HQx2.out.block b h2) (fun c h => Nat.lt_of_lt_of_le (HSL.out c h) (Nat.le_trans (by have := HZ1.out; omega) HQx2.out.size)) le1)).mono ?_
            rintro e x3 ⟨fa, fc, rfl, hres, hb⟩
            have HRth : Hid (IsSts (fun b => S b ∨ x1.heap.size ≤ b) x3 _ _) := hres.imp fun b _ h => h.elim .inl fun h => .inr (Nat.le_trans HQx2.out.size h)
            have HQx3 : Hid (Below x1.heap.size x1 x3) := Below.step HQx2.out hb
            have HBx3 := hide hb
            clear hres hb
            refine hK.out _ _ trivial (fun _ => ?_)
            clear hK K
            refine wpAnyH_ready (rs := [7]) (by kernel_rfl) (by simp) ?_
            refine AllReadyH.cons rfl (fun K hK => ?_) AllReadyH.nil
            have hz0 := blk_frozen (Below.blk HQx3.out HND.out) 6
            have hz7 := blk_frozen (Below.blk HQx3.out HND.out) 7
            have HC3 := hide (Below.blk HQx3.out HND.out)
            have HE3 := hide (Below.blk HQx3.out HED.out)
            have c6 : x3.cell? ⟨wr.heap.size, 6, none⟩ = some (.slice ta th.length tc) := by rw [blk_cell HC3.out]; rfl
            go_simp
            refine hK.out _ _ trivial (fun _ => ?_)
            clear hK K c6
            have HC4 : Hid ((x3.setCell ⟨wr.heap.size, 6, none⟩ (.slice ea el.length ec)).heap[wr.heap.size]? = _) := blk_set HC3.out 6 (.slice ea el.length ec)
            have HO4 : Hid (∀ b, b ≠ wr.heap.size → (x3.setCell ⟨wr.heap.size, 6, none⟩ (.slice ea el.length ec)).heap[b]? = x3.heap[b]?) := fun b hb => set_other _ 6 _ hb
            have HS4 : Hid ((x3.setCell ⟨wr.heap.size, 6, none⟩ (.slice ea el.length ec)).heap.size = x3.heap.size) := by show _ = _; simp [World.setCell]
            have HB4 : Hid (Below wr.heap.size wr (x3.setCell ⟨wr.heap.size, 6, none⟩ (.slice ea el.length ec))) := (Below.step HXD.out HQx3.out).setCell (Nat.le_refl _) _
            generalize x3.setCell ⟨wr.heap.size, 6, none⟩ (.slice ea el.length ec) = x4 at *
            refine wpAnyH_take (i := 8) (oi := ⟨some 33, _, _, _, _, _⟩) (v := (.pointer (some ⟨wr.heap.size, 7, none⟩))) rfl (by kernel_rfl) (by kernel_rfl) (by kernel_rfl) (fun _ _ _ h => h) (Or.inl ⟨by rfl, fun W hS => by (have s0 := hS; go_simp)⟩) trivial ?_
            simp only [Act.put, List.setIfInBounds_toArray, List.set_cons_zero, List.set_cons_succ]
            refine wpAnyH_ready (rs := [9]) (by kernel_rfl) (by simp) ?_
            refine AllReadyH.cons rfl (fun K hK => ?_) AllReadyH.nil
            have hz1 := blk_frozen HC4.out 7
            have c7 : x4.cell? ⟨wr.heap.size, 7, none⟩ = some (.slice ua el.length uc) := by rw [blk_cell HC4.out]; rfl
            go_simp
            refine hK.out _ _ trivial (fun _ => ?_)
            clear hK K c7
            have HC5 : Hid ((x4.setCell ⟨wr.heap.size, 7, none⟩ (.slice fa th.length fc)).heap[wr.heap.size]? = _) := blk_set HC4.out 7 (.slice fa th.length fc)
            have HO5 : Hid (∀ b, b ≠ wr.heap.size → (x4.setCell ⟨wr.heap.size, 7, none⟩ (.slice fa th.length fc)).heap[b]? = x3.heap[b]?) := fun b hb => (set_other _ 7 _ hb).trans (HO4.out b hb)
            have HB5 : Hid (Below wr.heap.size wr (x4.setCell ⟨wr.heap.size, 7, none⟩ (.slice fa th.length fc))) := HB4.out.setCell (Nat.le_refl _) _
            generalize x4.setCell ⟨wr.heap.size, 7, none⟩ (.slice fa th.length fc) = x5 at *
            refine wpAnyH_done (by kernel_rfl) ?_ _
            go_wp2_with fail
            go_meet
            case rel => exact ⟨rfl, rfl, rfl, ea, fa, ec, fc, hide HC5.out, hide ((HO5.out _ (by omega)).trans HE3.out), HB5, hide ((((HRel.out.same fun b h1 h2 => HBx3.out.block b h2).imp fun b _ h => h.elim .inl fun h => .inr (by have := HZ1.out; omega)).same fun b h1 h2 => HO5.out b (h1.elim (fun h => by have := HSL.out b h; omega) fun h => by omega))), hide ((HRth.out.imp fun b _ h => h.elim .inl fun h => .inr (by have := HZ1.out; omega)).same fun b h1 h2 => HO5.out b (h1.elim (fun h => by have := HSL.out b h; omega) fun h => by omega))⟩
        case rest =>
          obtain ⟨rfl, rfl, rfl, ea, fa, ec, fc, HN, HEX, HO, HRE, HRT⟩ := hcut
          clear HX1 HN1 HE1
          have HSN : Hid (IsSt (fun b => (S b ∨ w.heap.size ≤ b) ∧ some b ≠ (Value.slice va j vc).ownBlock) wc (turnS (.cond p x th el)) [.int .i64 2, .int .i64 p, .string ⟨#[]⟩, .pointer (some ⟨wr.heap.size + 1, 0, none⟩), .slice none 0 0, .int .i64 0, .slice ea el.length ec, .slice fa th.length fc]) := by
            have hi : ∀ b, (S b ∨ wr.heap.size < b) → (S b ∨ w.heap.size ≤ b) ∧ some b ≠ (Value.slice va j vc).ownBlock := fun b h => by
              have h1 := hwr.out.size
              refine ⟨h.elim .inl fun h => .inr (by omega), fun e => ?_⟩
              have h2 := HVB.out b e.symm
              rcases h with h | h
              · have := HS.out b h; omega
              · omega
            obtain ⟨c1, k1, k2⟩ := HRE.out.imp fun b _ h => hi b h
            obtain ⟨c2, k3, k4⟩ := HRT.out.imp fun b _ h => hi b h
            simp only [turnS, IsSt, turnL_len]
            rw [turnL_len] at k1 k3
            refine ⟨_, _, _, c1, c2, rfl, ?_, k1, k2, k3, k4⟩
            simp only [IsEx]
            refine ⟨wr.heap.size + 1, _, rfl, hi _ (.inr (by omega)), HEX.out, ?_⟩
            exact (HXA.out.same (w' := wc) fun b h1 h2 => HO.out.block b h2).imp fun b _ h => hi b (.inl h)
          clear HRE HRT HEX HXA HTH HEL OK1 OK2
          generalize wc = x1 at *
          have HY1 := hide (hy.out.same fun b h => HO.out.block b h)
          have m0 : ∀ k u, [.int .i64 2, .int .i64 p, .string ⟨#[]⟩, .pointer (some ⟨wr.heap.size + 1, 0, none⟩), .slice none 0 0, .int .i64 0, .slice ea el.length ec, .slice fa th.length fc][k]? = some u → x1.cell? ⟨wr.heap.size, k, none⟩ = some u := fun k u hk => by rw [blk_cell HN.out]; simpa using hk
          have n0 : x1.cell? ⟨wr.heap.size, 0, none⟩ = some (.int .i64 2) := m0 0 _ rfl
          have n1 : x1.cell? ⟨wr.heap.size, 1, none⟩ = some (.int .i64 p) := m0 1 _ rfl
          have n2 : x1.cell? ⟨wr.heap.size, 2, none⟩ = some (.string ⟨#[]⟩) := m0 2 _ rfl
          have n3 : x1.cell? ⟨wr.heap.size, 3, none⟩ = some (.pointer (some ⟨wr.heap.size + 1, 0, none⟩)) := m0 3 _ rfl
          have n4 : x1.cell? ⟨wr.heap.size, 4, none⟩ = some (.slice none 0 0) := m0 4 _ rfl
          have n5 : x1.cell? ⟨wr.heap.size, 5, none⟩ = some (.int .i64 0) := m0 5 _ rfl
          have n6 : x1.cell? ⟨wr.heap.size, 6, none⟩ = some (.slice ea el.length ec) := m0 6 _ rfl
          have n7 : x1.cell? ⟨wr.heap.size, 7, none⟩ = some (.slice fa th.length fc) := m0 7 _ rfl
          clear m0
          obtain ⟨cs2, hrow2, hall2⟩ := HY1.out
          rw [HLJ.out] at hrow2
          have HROW2 := hide hrow2
          have HALL2 := hide hall2
          clear hrow2 hall2
          have HOWN := hide ((HROW2.out.1).alloc (.cells #[.int .i64 2, .int .i64 p, .string ⟨#[]⟩, .pointer (some ⟨wr.heap.size + 1, 0, none⟩), .slice none 0 0, .int .i64 0, .slice ea el.length ec, .slice fa th.length fc] 48))
          go_wp2_with (at_builtin; (refine append_new rfl (.tmp 34) (.tmp 36) 25 rfl 48 i0 (.agg #[.int .i64 0, .int .i64 0, .string ⟨#[]⟩, .pointer none, .slice none 0 0, .int .i64 0, .slice none 0 0, .slice none 0 0]) 8 120 Tryd.underlying25 hi hz0 hz1 hz2 rfl (by decide) _ j cs2.flatten rfl HOWN.out ⟨x1.heap.size, 0, none⟩ 1 [.int .i64 2, .int .i64 p, .string ⟨#[]⟩, .pointer (some ⟨wr.heap.size + 1, 0, none⟩), .slice none 0 0, .int .i64 0, .slice ea el.length ec, .slice fa th.length fc] rfl rfl ?c1 ?c2 ?c3 (by decide) ?_))
          case c1 => exact row_new _ _ _
          case c2 => simp [Value.oneCell']
          case c3 => omega
          · intro v7 w7 hown7 hg7 hb7
            have HE7 := hide (growT_snoc (l := turnL (l.take j)) (.cells #[.int .i64 2, .int .i64 p, .string ⟨#[]⟩, .pointer (some ⟨wr.heap.size + 1, 0, none⟩), .slice none 0 0, .int .i64 0, .slice ea el.length ec, .slice fa th.length fc] 48) (Nat.le_trans hwr.out.size HO.out.size) (by rw [HLJ.out]; exact HROW2.out) HALL2.out HSN.out (by rw [HLJ.out]; exact hown7) hg7 hb7)
            rw [← HTJ.out] at HE7
            have HB7 : Hid (Below w.heap.size w w7) := Below.grownOn ((hwr.out.trans (HO.out.mono hwr.out.size)).alloc (Nat.le_trans hwr.out.size HO.out.size) _) hg7 (fun b hb => (HVB.out b hb).1) (by have := hwr.out.size; have := HO.out.size; simp; omega)
            clear hown7 hg7 hb7 n0 n1 n2 n3 n4 n5 n6 n7
            go_wp2_with fail
            exact ⟨⟨j + 1, by omega, by go_num, HE7, HB7⟩, by simp [intOf]; omega⟩
    · have hji : ¬ (j : Int) < (l.length : Int) := by omega
      have hjl : j = l.length := by omega
      subst hjl
      have HD := hide hy.out.done
      rw [List.take_length] at HD
      go_wp2_with fail
      go_ret
      exact ⟨va, vc, rfl, HD.out, hwr.out⟩
theorem turned_all : ∀ (n : Nat) (l : List St), depL l ≤ n → SmL l → TurnOK l := by
  intro n
  induction n with
  | zero =>
    intro l h hs
    refine turned_at l fun p x th el hm => ?_
    have := sdep_mem p x th el l hm
    omega
  | succ n ih =>
    intro l h hs
    refine turned_at l fun p x th el hm => ?_
    have hd := sdep_mem p x th el l hm
    have hsm := smL_mem hs _ hm
    simp only [SmS] at hsm
    exact ⟨⟨ih th (by omega) hsm.1, hsm.2.2.1⟩, ih el (by omega) hsm.2.1, hsm.2.2.2⟩
end Go.Proofs.YtiimnnancblbkaaDoor
