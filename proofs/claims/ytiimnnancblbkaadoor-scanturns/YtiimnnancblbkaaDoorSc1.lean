/-
  CONTRACTS of a plant's blocks: bit, timer, counter, edge, field.
-/
import Derived.Test.YtiimnnancblbkaaDoorSc0
set_option linter.unusedSimpArgs false
set_option linter.unusedVariables false
namespace Go.Proofs.YtiimnnancblbkaaDoor
open Go.RowKit

theorem below2 (w : World) (a b : Obj) : Below w.heap.size w ((w.alloc a).alloc b) := Below.step (below_alloc w a) (below_alloc _ b)
theorem below3 (w : World) (a b c : Obj) : Below w.heap.size w (((w.alloc a).alloc b).alloc c) := Below.step (below2 w a b) (below_alloc _ c)

set_option maxRecDepth 100000 in
set_option maxHeartbeats 1600000 in
theorem sbit_at (b : Bool) (w : World) : Calls Tryd.prog 62 #[.bool b] w fun e w' => e = .returned (.int .i64 (bitN b)) ∧ w' = w := by
  cases b <;>
  · go_enter Tryd.func62, Tryd.ntmps62
    go_wp2
    go_ret
    exact ⟨rfl, rfl⟩

set_option maxRecDepth 100000 in
set_option maxHeartbeats 1600000 in
theorem timer_at (b : Bk) (a : Bool) (n : Nat) (h0 : 0 ≤ b.n) (h1 : b.n ≤ 255) (w : World) : Calls Tryd.prog 45 #[bkV b, .bool a, .int .i64 n] w fun e w' => e = .returned (bkV (timerS b a n)) ∧ Below w.heap.size w w' := by
  obtain ⟨k, c, sw, q⟩ := b
  simp only at h0 h1
  cases a with
  | false =>
    have HE : Hid (timerS ⟨k, c, sw, q⟩ false n = ⟨k, 0, sw, false⟩) := by show _ = _; (simp [timerS, counterS, edgeS, *]) <;> omega
    rw [HE.out]
    simp only [bkV]
    go_enter Tryd.func45, Tryd.ntmps45
    go_wp2_with fail
    refine bodyPost_ret (v := .agg #[.int .i64 k, .int .i64 (0), .bool sw, .bool false]) (by simp [results, Tryd.results45, go_sem]) rfl ⟨rfl, below2 _ _ _⟩
  | true =>
    by_cases hlt : c < (n : Int)
    · by_cases hge : (n : Int) ≤ c + 1
      · skip
        have HE : Hid (timerS ⟨k, c, sw, q⟩ true n = ⟨k, c + 1, sw, true⟩) := by show _ = _; (simp [timerS, counterS, edgeS, *]) <;> omega
        rw [HE.out]
        simp only [bkV]
        go_enter Tryd.func45, Tryd.ntmps45
        go_wp2_with fail
        refine bodyPost_ret (v := .agg #[.int .i64 k, .int .i64 (c + 1), .bool sw, .bool true]) (by simp [results, Tryd.results45, go_sem]) rfl ⟨rfl, below2 _ _ _⟩
      · skip
        have HE : Hid (timerS ⟨k, c, sw, q⟩ true n = ⟨k, c + 1, sw, false⟩) := by show _ = _; (simp [timerS, counterS, edgeS, *]) <;> omega
        rw [HE.out]
        simp only [bkV]
        go_enter Tryd.func45, Tryd.ntmps45
        go_wp2_with fail
        refine bodyPost_ret (v := .agg #[.int .i64 k, .int .i64 (c + 1), .bool sw, .bool false]) (by simp [results, Tryd.results45, go_sem]) rfl ⟨rfl, below2 _ _ _⟩
    · have hle : (n : Int) ≤ c := by omega
      have HE : Hid (timerS ⟨k, c, sw, q⟩ true n = ⟨k, c, sw, true⟩) := by show _ = _; (simp [timerS, counterS, edgeS, *]) <;> omega
      rw [HE.out]
      simp only [bkV]
      go_enter Tryd.func45, Tryd.ntmps45
      go_wp2_with fail
      refine bodyPost_ret (v := .agg #[.int .i64 k, .int .i64 (c), .bool sw, .bool true]) (by simp [results, Tryd.results45, go_sem]) rfl ⟨rfl, below2 _ _ _⟩

set_option maxRecDepth 100000 in
set_option maxHeartbeats 1600000 in
theorem edge_at (b : Bk) (a : Bool) (w : World) : Calls Tryd.prog 47 #[bkV b, .bool a] w fun e w' => e = .returned (bkV (edgeS b a)) ∧ Below w.heap.size w w' := by
  obtain ⟨k, c, sw, q⟩ := b
  cases a with
  | false =>
    have HE : Hid (edgeS ⟨k, c, sw, q⟩ false = ⟨k, c, false, false⟩) := by show _ = _; (simp [timerS, counterS, edgeS, *]) <;> omega
    rw [HE.out]
    simp only [bkV]
    go_enter Tryd.func47, Tryd.ntmps47
    go_wp2_with fail
    refine bodyPost_ret (v := .agg #[.int .i64 k, .int .i64 (c), .bool false, .bool false]) (by simp [results, Tryd.results47, go_sem]) rfl ⟨rfl, below2 _ _ _⟩
  | true =>
    cases sw with
    | false =>
      have HE : Hid (edgeS ⟨k, c, false, q⟩ true = ⟨k, c, true, true⟩) := by show _ = _; (simp [timerS, counterS, edgeS, *]) <;> omega
      rw [HE.out]
      simp only [bkV]
      go_enter Tryd.func47, Tryd.ntmps47
      go_wp2_with fail
      refine bodyPost_ret (v := .agg #[.int .i64 k, .int .i64 (c), .bool true, .bool true]) (by simp [results, Tryd.results47, go_sem]) rfl ⟨rfl, below2 _ _ _⟩
    | true =>
      have HE : Hid (edgeS ⟨k, c, true, q⟩ true = ⟨k, c, true, false⟩) := by show _ = _; (simp [timerS, counterS, edgeS, *]) <;> omega
      rw [HE.out]
      simp only [bkV]
      go_enter Tryd.func47, Tryd.ntmps47
      go_wp2_with fail
      refine bodyPost_ret (v := .agg #[.int .i64 k, .int .i64 (c), .bool true, .bool false]) (by simp [results, Tryd.results47, go_sem]) rfl ⟨rfl, below2 _ _ _⟩

set_option maxRecDepth 100000 in
set_option maxHeartbeats 3200000 in
theorem counter_at (b : Bk) (up again : Bool) (n : Nat) (h0 : 0 ≤ b.n) (h1 : b.n ≤ 255) (w : World) : Calls Tryd.prog 46 #[bkV b, .bool up, .bool again, .int .i64 n] w fun e w' => e = .returned (bkV (counterS b up again n)) ∧ Below w.heap.size w w' := by
  obtain ⟨k, c, sw, q⟩ := b
  simp only at h0 h1
  cases again with
  | true =>
    by_cases hge : (n : Int) ≤ 0
    · skip
      have HE : Hid (counterS ⟨k, c, sw, q⟩ up true n = ⟨k, 0, up, true⟩) := by show _ = _; (simp [timerS, counterS, edgeS, *]) <;> omega
      rw [HE.out]
      simp only [bkV]
      go_enter Tryd.func46, Tryd.ntmps46
      go_wp2_with fail
      refine bodyPost_ret (v := .agg #[.int .i64 k, .int .i64 (0), .bool up, .bool true]) (by (simp [results, Tryd.results46, go_sem]) <;> omega) rfl ⟨rfl, below2 _ _ _⟩
    · skip
      have HE : Hid (counterS ⟨k, c, sw, q⟩ up true n = ⟨k, 0, up, false⟩) := by show _ = _; (simp [timerS, counterS, edgeS, *]) <;> omega
      rw [HE.out]
      simp only [bkV]
      go_enter Tryd.func46, Tryd.ntmps46
      go_wp2_with fail
      refine bodyPost_ret (v := .agg #[.int .i64 k, .int .i64 (0), .bool up, .bool false]) (by (simp [results, Tryd.results46, go_sem]) <;> omega) rfl ⟨rfl, below2 _ _ _⟩
  | false =>
    cases up with
    | false =>
      by_cases hge : (n : Int) ≤ c
      · skip
        have HE : Hid (counterS ⟨k, c, sw, q⟩ false false n = ⟨k, c, false, true⟩) := by show _ = _; (simp [timerS, counterS, edgeS, *]) <;> omega
        rw [HE.out]
        simp only [bkV]
        go_enter Tryd.func46, Tryd.ntmps46
        go_wp2_with fail
        refine bodyPost_ret (v := .agg #[.int .i64 k, .int .i64 (c), .bool false, .bool true]) (by (simp [results, Tryd.results46, go_sem]) <;> omega) rfl ⟨rfl, below2 _ _ _⟩
      · skip
        have HE : Hid (counterS ⟨k, c, sw, q⟩ false false n = ⟨k, c, false, false⟩) := by show _ = _; (simp [timerS, counterS, edgeS, *]) <;> omega
        rw [HE.out]
        simp only [bkV]
        go_enter Tryd.func46, Tryd.ntmps46
        go_wp2_with fail
        refine bodyPost_ret (v := .agg #[.int .i64 k, .int .i64 (c), .bool false, .bool false]) (by (simp [results, Tryd.results46, go_sem]) <;> omega) rfl ⟨rfl, below2 _ _ _⟩
    | true =>
      cases sw with
      | true =>
        by_cases hge : (n : Int) ≤ c
        · skip
          have HE : Hid (counterS ⟨k, c, true, q⟩ true false n = ⟨k, c, true, true⟩) := by show _ = _; (simp [timerS, counterS, edgeS, *]) <;> omega
          rw [HE.out]
          simp only [bkV]
          go_enter Tryd.func46, Tryd.ntmps46
          go_wp2_with fail
          refine bodyPost_ret (v := .agg #[.int .i64 k, .int .i64 (c), .bool true, .bool true]) (by (simp [results, Tryd.results46, go_sem]) <;> omega) rfl ⟨rfl, below2 _ _ _⟩
        · skip
          have HE : Hid (counterS ⟨k, c, true, q⟩ true false n = ⟨k, c, true, false⟩) := by show _ = _; (simp [timerS, counterS, edgeS, *]) <;> omega
          rw [HE.out]
          simp only [bkV]
          go_enter Tryd.func46, Tryd.ntmps46
          go_wp2_with fail
          refine bodyPost_ret (v := .agg #[.int .i64 k, .int .i64 (c), .bool true, .bool false]) (by (simp [results, Tryd.results46, go_sem]) <;> omega) rfl ⟨rfl, below2 _ _ _⟩
      | false =>
        by_cases hlt : c < 255
        · skip
          by_cases hge : (n : Int) ≤ c + 1
          · skip
            have HE : Hid (counterS ⟨k, c, false, q⟩ true false n = ⟨k, c + 1, true, true⟩) := by show _ = _; (simp [timerS, counterS, edgeS, *]) <;> omega
            rw [HE.out]
            simp only [bkV]
            go_enter Tryd.func46, Tryd.ntmps46
            go_wp2_with fail
            refine bodyPost_ret (v := .agg #[.int .i64 k, .int .i64 (c + 1), .bool true, .bool true]) (by (simp [results, Tryd.results46, go_sem]) <;> omega) rfl ⟨rfl, below2 _ _ _⟩
          · skip
            have HE : Hid (counterS ⟨k, c, false, q⟩ true false n = ⟨k, c + 1, true, false⟩) := by show _ = _; (simp [timerS, counterS, edgeS, *]) <;> omega
            rw [HE.out]
            simp only [bkV]
            go_enter Tryd.func46, Tryd.ntmps46
            go_wp2_with fail
            refine bodyPost_ret (v := .agg #[.int .i64 k, .int .i64 (c + 1), .bool true, .bool false]) (by (simp [results, Tryd.results46, go_sem]) <;> omega) rfl ⟨rfl, below2 _ _ _⟩
        · skip
          by_cases hge : (n : Int) ≤ c
          · skip
            have HE : Hid (counterS ⟨k, c, false, q⟩ true false n = ⟨k, c, true, true⟩) := by show _ = _; (simp [timerS, counterS, edgeS, *]) <;> omega
            rw [HE.out]
            simp only [bkV]
            go_enter Tryd.func46, Tryd.ntmps46
            go_wp2_with fail
            refine bodyPost_ret (v := .agg #[.int .i64 k, .int .i64 (c), .bool true, .bool true]) (by (simp [results, Tryd.results46, go_sem]) <;> omega) rfl ⟨rfl, below2 _ _ _⟩
          · skip
            have HE : Hid (counterS ⟨k, c, false, q⟩ true false n = ⟨k, c, true, false⟩) := by show _ = _; (simp [timerS, counterS, edgeS, *]) <;> omega
            rw [HE.out]
            simp only [bkV]
            go_enter Tryd.func46, Tryd.ntmps46
            go_wp2_with fail
            refine bodyPost_ret (v := .agg #[.int .i64 k, .int .i64 (c), .bool true, .bool false]) (by (simp [results, Tryd.results46, go_sem]) <;> omega) rfl ⟨rfl, below2 _ _ _⟩

set_option maxRecDepth 100000 in
set_option maxHeartbeats 3200000 in
theorem sfield_at (b : Bk) (f : ByteArray) (w : World) : Calls Tryd.prog 41 #[bkV b, .string f] w fun e w' => e = .returned (tyV (fieldS b f)) ∧ Below w.heap.size w w' := by
  obtain ⟨k, c, sw, q⟩ := b
  have HF := hide (fun W => fieldK_at k f W)
  have HFD : Hid (fieldS ⟨k, c, sw, q⟩ f = (fieldN k f.toList, if fieldN k f.toList = 1 then bitN q else if fieldN k f.toList = 2 then c else 0)) := rfl
  have HB := hide (fun W => sbit_at q W)
  rw [HFD.out]
  generalize fieldN k f.toList = m at *
  simp only [bkV, tyV]
  clear HFD
  by_cases h1 : m = 1
  · subst h1
    rw [if_pos rfl]
    go_enter Tryd.func41, Tryd.ntmps41
    go_wp2_with fail
    refine (HF.out _).mono ?_
    rintro e w1 ⟨rfl, rfl⟩
    go_wp2_with fail
    refine (HB.out _).mono ?_
    rintro e w1 ⟨rfl, rfl⟩
    go_wp2_with fail
    refine bodyPost_ret (v := .agg #[.int .i64 (1 : Nat), .int .i64 (bitN q)]) (by simp [results, Tryd.results41, go_sem]) rfl ⟨rfl, below3 _ _ _ _⟩
  · rw [if_neg h1]
    have h1i : ((m : Int) == 1) = false := by simp; omega
    by_cases h2 : m = 2
    · subst h2
      rw [if_pos rfl]
      clear h1 h1i
      go_enter Tryd.func41, Tryd.ntmps41
      go_wp2_with fail
      refine (HF.out _).mono ?_
      rintro e w1 ⟨rfl, rfl⟩
      go_wp2_with fail
      refine bodyPost_ret (v := .agg #[.int .i64 (2 : Nat), .int .i64 c]) (by simp [results, Tryd.results41, go_sem]) rfl ⟨rfl, below3 _ _ _ _⟩
    · rw [if_neg h2]
      have h2i : ((m : Int) == 2) = false := by simp; omega
      clear h1 h2
      go_enter Tryd.func41, Tryd.ntmps41
      go_wp2_with fail
      refine (HF.out _).mono ?_
      rintro e w1 ⟨rfl, rfl⟩
      go_wp2_with fail
      refine bodyPost_ret (v := .agg #[.int .i64 m, .int .i64 0]) (by simp [results, Tryd.results41, go_sem]) rfl ⟨rfl, below3 _ _ _ _⟩
end Go.Proofs.YtiimnnancblbkaaDoor
