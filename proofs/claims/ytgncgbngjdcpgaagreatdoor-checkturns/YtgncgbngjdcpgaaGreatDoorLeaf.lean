/-
  CONTRACTS of the reader's smallest steps: now, wrong, take, took, want.
-/
import Derived.Test.YtgncgbngjdcpgaaGreatDoorMem
namespace Go.Proofs.YtgncgbngjdcpgaaGreatDoor
open Go.RowKit

set_option maxRecDepth 100000 in
set_option maxHeartbeats 1600000 in
theorem now_cells (R T n cap : Nat) (k : Nat) (a : Int) (s : ByteArray) (p : Int) (w : World) (hn : (k : Int) < (n : Int))
    (h0 : w.cell? ⟨R, 0, none⟩ = some (.slice (some ⟨T, 0, none⟩) n cap)) (h1 : w.cell? ⟨R, 1, none⟩ = some (.int .i64 k))
    (c0 : w.cell? ⟨T, k * 3, none⟩ = some (.int .i64 a)) (c1 : w.cell? ⟨T, k * 3 + 1, none⟩ = some (.string s)) (c2 : w.cell? ⟨T, k * 3 + 2, none⟩ = some (.int .i64 p)) :
    Calls Tryz.prog 81 #[.pointer (some ⟨R, 0, none⟩)] w fun e w' => e = .returned (.agg #[.int .i64 a, .string s, .int .i64 p]) ∧ Below w.heap.size w w' := by
  have h0 := fun o => cell_alloc h0 o
  have h1 := fun o => cell_alloc h1 o
  have c0 := fun o => cell_alloc c0 o
  have c1 := fun o => cell_alloc c1 o
  have c2 := fun o => cell_alloc c2 o
  go_enter Tryz.func81, Tryz.ntmps81
  go_wp2
  go_region
  go_wp2
  refine bodyPost_ret (v := .agg #[.int .i64 a, .string s, .int .i64 p]) (by simp [results, Tryz.results81, go_sem]) rfl ⟨rfl, ?_⟩
  exact ((Below.refl _ _).alloc (Nat.le_refl _) _).drew

theorem now_at {w : World} {R T cap : Nat} {ts : List Tok} {k : Nat} (h : Rd w R T cap ts k) :
    Calls Tryz.prog 81 #[.pointer (some ⟨R, 0, none⟩)] w fun e w' => e = .returned (.agg #[.int .i64 (tk ts k).kind, .string (tk ts k).text, .int .i64 (tk ts k).pos]) ∧ Below w.heap.size w w' := by
  have hr := h.row k h.lt
  exact now_cells R T ts.length cap k _ _ _ w (by have := h.lt; omega) (by rw [blk_cell h.me]; rfl) (by rw [blk_cell h.me]; rfl) hr.1 hr.2.1 hr.2.2

set_option maxRecDepth 100000 in
set_option maxHeartbeats 1600000 in
theorem wrong_at (er : Int) {w : World} {R T cap : Nat} {ts : List Tok} {k : Nat} (h : Rd w R T cap ts k) :
    Calls Tryz.prog 82 #[.pointer (some ⟨R, 0, none⟩), .int .i64 er] w fun e w' => ∃ A : Nat, e = .returned (.pointer (some ⟨A, 0, none⟩)) ∧ w'.heap[A]? = some (.cells #[.int .i64 er, .int .i64 (tk ts k).pos] 148 (0, 0)) ∧ Below w.heap.size w w' := by
  have q2 := fld2
  have HR : Hid (Rd w R T cap ts k) := h
  generalize hp : (tk ts k).pos = p at *
  have HP : Hid ((tk ts k).pos = p) := hp
  clear h hp
  go_enter Tryz.func82, Tryz.ntmps82
  go_wp2_with fail
  refine (now_at HR.out).mono ?_
  rintro e w' ⟨rfl, hb⟩
  rw [HP.out]
  go_wp2_with fail
  go_ret
  exact ⟨_, rfl, blk_new _ _, Below.step hb (below_alloc _ _)⟩

set_option maxRecDepth 100000 in
set_option maxHeartbeats 1600000 in
theorem take_at {w : World} {R T cap : Nat} {ts : List Tok} {k : Nat} (h : Rd w R T cap ts k) (hl : k + 1 < ts.length) :
    Calls Tryz.prog 130 #[.pointer (some ⟨R, 0, none⟩)] w fun e w' => e = .returned (.agg #[.int .i64 (tk ts k).kind, .string (tk ts k).text, .int .i64 (tk ts k).pos]) ∧ Rd w' R T cap ts (k + 1) ∧ Kept R w w' := by
  have hlen := h.fit.len
  have HR : Hid (Rd w R T cap ts k) := h
  have HL : Hid (k + 1 < ts.length) := hl
  have hk8 : k < 800 := by omega
  generalize hp : tk ts k = t at *
  have HP : Hid (tk ts k = t) := hp
  clear h hp hl hlen
  go_enter Tryz.func130, Tryz.ntmps130
  go_wp2_with fail
  have HB := hide (below_alloc w (.cells #[.int .i64 0, .string { data := #[] }, .int .i64 0] 102))
  have HN := hide (blk_new w (.cells #[.int .i64 0, .string { data := #[] }, .int .i64 0] 102))
  have hRS : R < w.heap.size := HR.out.Rlt
  have hTS : T < w.heap.size := HR.out.Tlt
  have hbig : 8 ≤ R := HR.out.big
  refine (now_at (HR.out.below HB.out)).mono ?_
  rintro e w1 ⟨rfl, hb⟩
  rw [HP.out]
  have HD := hide (HR.out.below (Below.step HB.out hb))
  have HK := hide (Kept.of (R := R) (Below.step HB.out hb))
  have HS := hide (Below.blk hb HN.out)
  have hsz : w.heap.size < w1.heap.size := blk_lt HS.out
  have r1 := fun o => cell_alloc (w := w1) (a := ⟨R, 1, none⟩) (by rw [blk_cell HD.out.me]; rfl) o
  have r2 : ∀ o, (w1.alloc o).frozen? ⟨R, 1, none⟩ = false := fun o => blk_frozen (Below.blk (below_alloc w1 o) HD.out.me) 1
  have s0 := fun o => cell_alloc (w := w1) (a := ⟨w.heap.size, 0, none⟩) (by rw [blk_cell HS.out]; rfl) o
  have s1 := fun o => cell_alloc (w := w1) (a := ⟨w.heap.size, 1, none⟩) (by rw [blk_cell HS.out]; rfl) o
  have s2 := fun o => cell_alloc (w := w1) (a := ⟨w.heap.size, 2, none⟩) (by rw [blk_cell HS.out]; rfl) o
  have sf : ∀ o i, (w1.alloc o).frozen? ⟨w.heap.size, i, none⟩ = false := fun o i => blk_frozen (Below.blk (below_alloc w1 o) HS.out) i
  clear hb
  generalize hSS : w.heap.size = S at *
  have HS0 : Hid (w.heap.size ≤ S) := Nat.le_of_eq hSS
  clear hSS
  have hne1 : ¬ S = R := by omega
  have hne2 : ¬ R = S := by omega
  have hne3 : ¬ S = w1.heap.size := by omega
  have hne4 : ¬ R = w1.heap.size := by omega
  have HT := hide hTS
  have hne5 : ¬ S = T := by omega
  go_wp2_with fail
  refine bodyPost_ret (v := .agg #[.int .i64 t.kind, .string t.text, .int .i64 t.pos]) (by simp [results, Tryz.results130, go_sem, s0, s1, s2]) rfl ⟨rfl, ?_, ?_⟩
  · exact (((((HD.out.below (below_alloc _ _)).step HL.out).other 0 _ hne1 hne5 (by omega)).other 1 _ hne1 hne5 (by omega)).other 2 _ hne1 hne5 (by omega))
  · have hS : w.heap.size ≤ S := HS0.out
    exact (((HK.out.alloc _).step 1 _).new 0 _ hS).new 1 _ hS |>.new 2 _ hS
end Go.Proofs.YtgncgbngjdcpgaaGreatDoor
