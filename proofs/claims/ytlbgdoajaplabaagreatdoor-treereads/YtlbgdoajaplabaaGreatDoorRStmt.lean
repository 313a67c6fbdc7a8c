/-
  CONTRACTS of stmt of the reference's reader: what sets a name.
-/
import Derived.Test.YtlbgdoajaplabaaGreatDoorRTwo
import Derived.Test.YtlbgdoajaplabaaGreatDoorJStm
namespace Go.Proofs.YtlbgdoajaplabaaGreatDoor
open Go.RowKit
set_option linter.unusedSimpArgs false
set_option linter.unusedVariables false

theorem un_must2 {α β : Type} (ts : List Tok) (s : List UInt8) (r : Res α) (g : α → β) : (r.bind fun x k => (wantP ts s k).bind fun _ k2 => .ok (g x) k2).un = mustR ts s r.un := by
  cases r with
  | out => rfl
  | bad => rfl
  | ok x k =>
    show ((wantP ts s k).bind fun _ k2 => Res.ok (g x) k2).un = wantP ts s k
    unfold wantP
    split <;> rfl
theorem must2_inv {α β : Type} {ts : List Tok} {s : List UInt8} {r : Res α} {g : α → β} {b : β} {k : Nat} (h : (r.bind fun x k => (wantP ts s k).bind fun _ k2 => .ok (g x) k2) = .ok b k) : ∃ x k1, r = .ok x k1 ∧ b = g x := by
  cases r with
  | out => cases h
  | bad => cases h
  | ok x k' =>
    have h : ((wantP ts s k').bind fun _ k2 => Res.ok (g x) k2) = .ok b k := h
    unfold wantP at h
    split at h
    · injection h with h1 h2
      exact ⟨x, k', rfl, h1.symm⟩
    · cases h
/-- eight cells -/
def isS (v : Value) : Prop := ∃ c : List Value, v = .agg c.toArray ∧ c.length = 8 ∧ ∀ u ∈ c, u.oneCell' = true
def RStRep (w : World) (w' : World) (v : Value) (s : St) : Prop := ∃ c : List Value, v = .agg c.toArray ∧ IsSt (From w.heap.size) w' s c
abbrev stObj (code : Int) (pos : Nat) (name : ByteArray) (x a : Value) (n : Int) (t u : Value) : Obj := .cells #[.int .i64 code, .int .i64 pos, .string name, x, a, .int .i64 n, t, u] 68 (0, 0)

abbrev stZero (pos : Nat) : Obj := stObj 0 pos ⟨#[]⟩ (.pointer none) (.slice none 0 0) 0 (.slice none 0 0) (.slice none 0 0)
/-- where a statement begins: the answer's block, and the local one -/
theorem st_start (w : World) (pos : Nat) : ∃ w1, Hid (w1 = (w.alloc (.cells #[.int .i64 0, .int .i64 0, .string ⟨#[]⟩, .pointer none, .slice none 0 0, .int .i64 0, .slice none 0 0, .slice none 0 0] 68)).alloc (.cells #[.int .i64 0, .int .i64 pos, .string ⟨#[]⟩, .pointer none, .slice none 0 0, .int .i64 0, .slice none 0 0, .slice none 0 0] 68)) ∧
    Hid (Below w.heap.size w w1) ∧ Hid (w1.heap[w.heap.size]? = some (stZero 0)) ∧ Hid (w1.heap[w.heap.size + 1]? = some (stZero pos)) := by
  refine ⟨_, hide rfl, hide (Below.step (below_alloc w _) (below_alloc _ _)), hide ?_, hide ?_⟩
  · exact Below.blk (below_alloc _ _) (blk_new w _)
  · have := blk_new (w.alloc (.cells #[.int .i64 0, .int .i64 0, .string ⟨#[]⟩, .pointer none, .slice none 0 0, .int .i64 0, .slice none 0 0, .slice none 0 0] 68)) (stZero pos)
    simpa using this

theorem st_cells {w : World} {B : Nat} {code : Int} {pos : Nat} {name : ByteArray} {x a : Value} {n : Int} {t u : Value} (h : w.heap[B]? = some (stObj code pos name x a n t u)) :
    w.cell? ⟨B, 0, none⟩ = some (.int .i64 code) ∧ w.cell? ⟨B, 1, none⟩ = some (.int .i64 pos) ∧ w.cell? ⟨B, 2, none⟩ = some (.string name) ∧ w.cell? ⟨B, 3, none⟩ = some x ∧ w.cell? ⟨B, 4, none⟩ = some a ∧ w.cell? ⟨B, 5, none⟩ = some (.int .i64 n) ∧ w.cell? ⟨B, 6, none⟩ = some t ∧ w.cell? ⟨B, 7, none⟩ = some u :=
  ⟨by rw [blk_cell h]; rfl, by rw [blk_cell h]; rfl, by rw [blk_cell h]; rfl, by rw [blk_cell h]; rfl, by rw [blk_cell h]; rfl, by rw [blk_cell h]; rfl, by rw [blk_cell h]; rfl, by rw [blk_cell h]; rfl⟩
theorem Rst.put8 {w : World} {R T : Nat} {ts : List Tok} {r : Res Unit} (h : Rst w R T ts r) {Q : Nat} (a0 a1 a2 a3 a4 a5 a6 a7 : Value) (hR : Q ≠ R) (hT : Q ≠ T) (hg : 12 ≤ Q) :
    Rst ((((((((w.setCell ⟨Q, 0, none⟩ a0).setCell ⟨Q, 1, none⟩ a1).setCell ⟨Q, 2, none⟩ a2).setCell ⟨Q, 3, none⟩ a3).setCell ⟨Q, 4, none⟩ a4).setCell ⟨Q, 5, none⟩ a5).setCell ⟨Q, 6, none⟩ a6).setCell ⟨Q, 7, none⟩ a7) R T ts r :=
  (((((((h.set 0 _ hR hT hg).set 1 _ hR hT hg).set 2 _ hR hT hg).set 3 _ hR hT hg).set 4 _ hR hT hg).set 5 _ hR hT hg).set 6 _ hR hT hg).set 7 _ hR hT hg
/-- a statement is returned: its eight cells are written into the answer's block -/
theorem st_ret {w w8 : World} {R T : Nat} {ts : List Tok} {Q : Nat} {whole : Res St} {c0 c1 c2 c3 c4 c5 c6 c7 : Value} (hk : Kept R w w8) (hs : Rst w8 R T ts whole.un) (hQ : w.heap.size ≤ Q) (hR : Q ≠ R) (hT : Q ≠ T) (hg : 12 ≤ Q)
    (h1 : ∀ u ∈ [c0, c1, c2, c3, c4, c5, c6, c7], u.oneCell' = true) (hst : ∀ a k', whole = .ok a k' → IsSt (fun b => w.heap.size ≤ b ∧ b ≠ Q) w8 a [c0, c1, c2, c3, c4, c5, c6, c7]) :
    Rfs w R T ts (RStRep w) isS whole (.returned (.agg #[c0, c1, c2, c3, c4, c5, c6, c7])) ((((((((w8.setCell ⟨Q, 0, none⟩ c0).setCell ⟨Q, 1, none⟩ c1).setCell ⟨Q, 2, none⟩ c2).setCell ⟨Q, 3, none⟩ c3).setCell ⟨Q, 4, none⟩ c4).setCell ⟨Q, 5, none⟩ c5).setCell ⟨Q, 6, none⟩ c6).setCell ⟨Q, 7, none⟩ c7) := by
  refine ⟨Kept.put8 hk _ _ _ _ _ _ _ _ hQ, hs.put8 _ _ _ _ _ _ _ _ hR hT hg, _, rfl, ⟨[c0, c1, c2, c3, c4, c5, c6, c7], rfl, rfl, h1⟩, fun a k' e => ⟨[c0, c1, c2, c3, c4, c5, c6, c7], rfl, ?_⟩⟩
  exact IsSt.imp (fun b _ h => h.1) a _ (IsSt.same (fun b h1 _ => put8_other _ _ _ _ _ _ _ _ _ h1.2) a _ (hst a k' e))

set_option maxRecDepth 100000 in
set_option maxHeartbeats 3200000 in
theorem rstmt_set (f : Nat) {w : World} {R T : Nat} {ts : List Tok} {deep k k1 : Nat} {s : ByteArray} (h : Rr w R T ts k 0 (-1)) (hi : (tx ts k == [105, 102]) = false) (hr : nameP ts k = .ok s k1) (hq : (tx ts k1 == [58, 61]) = true) (hout : actP ts f k ≠ .out) :
    Calls Tryz.prog 44 #[.pointer (some ⟨R, 0, none⟩), .int .i64 deep] w (Rfs w R T ts (RStRep w) isS (actP ts f k)) := by
  have HW : Hid (actP ts f k = (twoP ts f 1 0 (k1 + 1)).bind fun x k2 => (wantP ts [59] k2).bind fun _ k3 => .ok (.set (tk ts k).pos s x) k3) := hide (by simp only [actP, hr, Res.bind_ok, hq, if_true])
  have HO : Hid (twoP ts f 1 0 (k1 + 1) ≠ .out) := hide fun e => hout (by rw [HW.out, e]; rfl)
  have HR := hide h
  have HI := hide hi
  have HQ := hide hq
  have HNR := hide hr
  have hlt := h.Rlt
  have htl := h.Tlt
  have hbig := h.big
  generalize actP ts f k = whole at *
  obtain ⟨n, c, h0, _, _, r0, c0, c1, c2, _, _⟩ := h.cells
  obtain ⟨w1, HW1, HA, HZ, HT⟩ := st_start w (tk ts k).pos
  clear h hi hq hr hout
  go_enter Tryz.func44, Tryz.ntmps44
  go_wp2_with fail
  rw [← HW1.out]
  clear HW1
  generalize (tk ts k).pos = pos at *
  generalize hBB : w.heap.size + 1 = B at *
  refine (rno_at (r := .ok () k) [105, 102] (by decide) (HR.out.below HA.out) HI.out).mono ?_
  rintro e w2 ⟨rfl, hd2, hk2⟩
  have HD2 := hide hd2.good
  have HK2 := hide (Kept.trans (Kept.of HA.out) hk2)
  have HT2 := hide (hk2.blk HT.out (show B ≠ R by omega))
  have HZ2 := hide (hk2.blk HZ.out (show w.heap.size ≠ R by omega))
  clear hd2 hk2
  go_wp2_with fail
  refine (rname_at HD2.out).mono ?_
  rintro e w3 ⟨hk3, hs3, v3, rfl, hv3, hp3⟩
  have hp3 := hp3 s k1 HNR.out
  have hp3 : v3 = .string s := hp3
  subst hp3
  rw [HNR.out] at hs3
  have HD3 := hide hs3.good
  have HK3 := hide (HK2.out.trans hk3)
  have ht3 := hk3.blk HT2.out (show B ≠ R by omega)
  have HT3 := hide ht3
  have HZ3 := hide (hk3.blk HZ2.out (show w.heap.size ≠ R by omega))
  have x2 : w3.cell? ⟨B, 2, none⟩ = some (.string ⟨#[]⟩) := by rw [blk_cell ht3]; rfl
  have xf2 : w3.frozen? ⟨B, 2, none⟩ = false := blk_frozen ht3 2
  clear hk3 hs3 ht3 hv3
  go_wp2_with fail
  have HT4 := hide (blk_set HT3.out 2 (.string s))
  have HZ4 := hide ((set_other w3 2 (.string s) (show w.heap.size ≠ B by omega)).trans HZ3.out)
  have HD4 := hide (Rst.set (r := .ok () k1) HD3.out (S := B) 2 (.string s) (by omega) (by omega) (by omega))
  have HK4 := hide (HK3.out.new (S := B) 2 (.string s) (by omega))
  generalize w3.setCell ⟨B, 2, none⟩ (.string s) = w4 at *
  refine (ryes_at [58, 61] (by decide) HD4.out.good HQ.out).mono ?_
  rintro e w5 ⟨rfl, hd5, hk5⟩
  have HD5 := hide hd5
  have HK5 := hide (HK4.out.trans hk5)
  have HT5 := hide (hk5.blk HT4.out (show B ≠ R by omega))
  have HZ5 := hide (hk5.blk HZ4.out (show w.heap.size ≠ R by omega))
  clear hd5 hk5
  go_wp2_with fail
  refine (rexpr_at f HD5.out HO.out).mono ?_
  rintro e w6 ⟨hk6, hs6, v6, rfl, ⟨o6, rfl⟩, hp6⟩
  have HS6 := hide hs6
  have HP6 := hide hp6
  have HK6 := hide (HK5.out.trans hk6)
  have ht6 := hk6.blk HT5.out (show B ≠ R by omega)
  have HT6 := hide ht6
  have HZ6 := hide (hk6.blk HZ5.out (show w.heap.size ≠ R by omega))
  have x0 : w6.cell? ⟨B, 0, none⟩ = some (.int .i64 0) := by rw [blk_cell ht6]; rfl
  have x3 : w6.cell? ⟨B, 3, none⟩ = some (.pointer none) := by rw [blk_cell ht6]; rfl
  have xf0 : w6.frozen? ⟨B, 0, none⟩ = false := blk_frozen ht6 0
  have xf3 : w6.frozen? ⟨B, 3, none⟩ = false := blk_frozen ht6 3
  clear hk6 hs6 hp6 ht6
  go_wp2_with fail
  have HT7 : Hid (((w6.setCell ⟨B, 0, none⟩ (.int .i64 1)).setCell ⟨B, 3, none⟩ (.pointer o6)).heap[B]? = some (stObj 1 pos s (.pointer o6) (.slice none 0 0) 0 (.slice none 0 0) (.slice none 0 0))) := hide (by rw [blk_set (blk_set HT6.out 0 _) 3 _]; rfl)
  have HZ7 := hide ((set_other (w6.setCell ⟨B, 0, none⟩ (.int .i64 1)) 3 (.pointer o6) (show w.heap.size ≠ B by omega)).trans ((set_other w6 0 (.int .i64 1) (show w.heap.size ≠ B by omega)).trans HZ6.out))
  have HS7 := hide ((HS6.out.set (S := B) 0 (.int .i64 1) (by omega) (by omega) (by omega)).set (S := B) 3 (.pointer o6) (by omega) (by omega) (by omega))
  have HK7 := hide ((HK6.out.new (S := B) 0 (.int .i64 1) (by omega)).new (S := B) 3 (.pointer o6) (by omega))
  have HX7 : Hid (∀ b, b ≠ B → ((w6.setCell ⟨B, 0, none⟩ (.int .i64 1)).setCell ⟨B, 3, none⟩ (.pointer o6)).heap[b]? = w6.heap[b]?) := hide fun b hb => (set_other _ 3 _ hb).trans (set_other _ 0 _ hb)
  have HZS : Hid (w6.heap.size ≤ ((w6.setCell ⟨B, 0, none⟩ (.int .i64 1)).setCell ⟨B, 3, none⟩ (.pointer o6)).heap.size) := hide (by simp [World.setCell])
  generalize (w6.setCell ⟨B, 0, none⟩ (.int .i64 1)).setCell ⟨B, 3, none⟩ (.pointer o6) = w7 at *
  refine (rneed_at [59] (by decide) HS7.out).mono ?_
  rintro e w8 ⟨rfl, hs8, hk8⟩
  have HS8 := hide hs8
  have HK8 := hide (HK7.out.trans hk8)
  have HX8 : Hid (∀ b, b ≠ B → b ≠ R → b < w6.heap.size → w8.heap[b]? = w6.heap[b]?) := hide fun b h1 h2 h3 => (hk8.block b (Nat.lt_of_lt_of_le h3 HZS.out) h2).trans (HX7.out b h1)
  have hz8 := hk8.blk HZ7.out (show w.heap.size ≠ R by omega)
  obtain ⟨b0, b1, b2, b3, b4, b5, b6, b7⟩ := st_cells (hk8.blk HT7.out (show B ≠ R by omega))
  obtain ⟨z0, z1, z2, z3, z4, z5, z6, z7⟩ := st_cells hz8
  have zf := blk_frozen hz8
  clear hs8 hk8 hz8
  have HB5 := hide (blk_lt HT5.out)
  generalize hQQ : w.heap.size = Q at *
  go_wp2_with fail
  refine bodyPost_ret (v := .agg #[.int .i64 1, .int .i64 pos, .string s, .pointer o6, .slice none 0 0, .int .i64 0, .slice none 0 0, .slice none 0 0]) (by simp [results, Tryz.results44, go_sem, z0, z1, z2, z3, z4, z5, z6, z7]) rfl ?_
  refine st_ret HK8.out ?_ (by omega) (by omega) (by omega) (by omega) (by simp [Value.oneCell']) fun a k' e => ?_
  · rw [HW.out, un_must2]
    exact HS8.out
  · obtain ⟨x, k2, hx, rfl⟩ := must2_inv (HW.out.symm.trans e)
    simp only [IsSt]
    refine ⟨_, rfl, ?_⟩
    have hb5 := HB5.out
    refine IsEx.imp (fun b _ h => ?_) (IsEx.same (fun b h1 h2 => HX8.out b ?_ ?_ h2) (HP6.out x k2 hx))
    · have h : w5.heap.size ≤ b := h
      exact ⟨by omega, by omega⟩
    · have h1 : w5.heap.size ≤ b := h1
      omega
    · have h1 : w5.heap.size ≤ b := h1
      omega
end Go.Proofs.YtlbgdoajaplabaaGreatDoor
