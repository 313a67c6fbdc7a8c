/-
  CONTRACTS of netted and small; append of so many zeros.
-/
import Derived.Test.YtoghcacigdeloaaGNew
import Derived.Test.YtoghcacigdeloaaGTwP
set_option linter.unusedSimpArgs false
set_option linter.unusedVariables false
namespace Go.Proofs.Ytoghcacigdeloaa
open Go.RowKit

theorem zeroCells_one (z : Value) (k : Nat) (hz : z.cells = #[z]) : Builtin.zeroCells z.cells k = (List.replicate k z).toArray := by
  rw [hz]
  apply Array.ext
  · simp [Builtin.zeroCells]
  · intro i h1 h2
    simp [Builtin.zeroCells, Nat.mod_one]

theorem run_append_own_zeros {P : Program} (w : World) (base : Nat) (t tn ty e : TypeId) (i : TypeInfo) (z : Value) (bytes : Nat) (kq kn : IntKind) (ht : P.underlying t = some (.slice e)) (htn : P.underlying tn = some (.int kn)) (hi : P.info? e = some i) (hz : i.zero = some z)
    (hsize : i.size = 1) (hby : i.bytes = bytes) (hzs : z.cells = #[z]) (h1 : z.oneCell' = true)
    (v : Value) (n : Nat) (xs : List Value) (hown : w.ownsRow base e 1 v n xs) (k : Nat) (hk : 0 < k)
    (h63 : n + k ≤ maxLen) (hbytes : (n + k) * bytes ≤ 140737488355328) (hbase : base ≤ w.heap.size) :
    ∃ v' w', (Builtin.append_ #[t, tn] ty #[v, .int kq k]).run P w = .ok v' w' ∧ w'.ownsRow base e 1 v' (n + k) (xs ++ List.replicate k z) ∧ w.grownBy w' v.ownBlock := by
  subst hby
  have hsmall : n + k ≤ 9223372036854775807 := by simp only [maxLen] at h63; omega
  have hlen : (xs ++ List.replicate k z).length = (n + k) * 1 := by rw [List.length_append, hown.1, List.length_replicate]; omega
  have hw : IntKind.i64.wrap (k : Int) = k := by rw [IntKind.wrap_i64]; omega
  have hneg : ¬ ((k : Int) < 0) := by omega
  have hk0 : k ≠ 0 := by omega
  have h48i : ¬ (281474976710656 < (k : Int) * (i.bytes : Int)) := by
    have : k * i.bytes ≤ (n + k) * i.bytes := Nat.mul_le_mul_right _ (by omega)
    rw [← Int.natCast_mul]
    omega
  have h63' : ¬ (9223372036854775807 < ((n : Int) + (k : Int))) := by omega
  have hzc : ∀ m, Builtin.zeroCells #[z] m = (List.replicate m z).toArray := fun m => by rw [← hzs]; exact zeroCells_one z m hzs
  have grown : ∀ (old : Nat), old < n + k → ∀ (row : Option Nat),
      (w.drew.alloc (.cells (xs.toArray ++ (List.replicate k z).toArray ++ (List.replicate (grownCap w (n + k) old e - (n + k)) z).toArray) e)).ownsRow base e 1
        (.slice (some ⟨w.heap.size, 0, none⟩) (n + k) (grownCap w (n + k) old e)) (n + k) (xs ++ List.replicate k z) ∧
      w.grownBy (w.drew.alloc (.cells (xs.toArray ++ (List.replicate k z).toArray ++ (List.replicate (grownCap w (n + k) old e - (n + k)) z).toArray) e)) row := by
    intro old ho row
    have hge := grownCap_ge w (n + k) old e
    have hcm : grownCap w (n + k) old e ≤ maxLen := grownCap_le_maxLen w (n + k) old e h63
    have hx1 := hown.1
    refine ⟨⟨hlen, .inr ⟨w.heap.size, _, _, rfl, hbase, heap_alloc_new w.drew _, hge, hcm, ?_, ?_⟩⟩, ⟨rfl, rfl, rfl, by simp, fun j hj _ => Below.heap_alloc w.drew _ j hj⟩⟩
    · simp; omega
    · simp only [Array.toList_append, List.append_assoc]
      rw [← List.append_assoc, ← hlen]
      exact List.take_left
  rcases hown.2 with ⟨rfl, rfl⟩ | ⟨g, cap, cur, rfl, hbg, hg, hnc, hcm, hcs, htake⟩
  · have hx : xs = [] := List.eq_nil_of_length_eq_zero (by simpa using hown.1)
    subst hx
    have hgr := grown 0 (by omega) (Value.ownBlock (.slice none 0 0))
    have hfit : ¬ (281474976710656 < Builtin.nextslicecap k 0 * i.bytes) := by rw [nextslicecap_zero hk]; simp only [Nat.zero_add] at hbytes; omega
    have h63n : ¬ (9223372036854775807 < (k : Int)) := by omega
    simp only [Nat.zero_add] at hgr ⊢
    refine ⟨_, _, ?_, hgr.1, hgr.2⟩
    simp [Builtin.append_, run_underlying ht, run_underlying htn, sizeOf, typeInfo, zeroValue, hi, hz, hsize, hzs, hzc, asInt, asIntOf, hw, hneg, hk0, h63n, hfit, h48i, Question.forced, run_firstCells_none, newRow, grownCap]
  · by_cases hroom : n + k ≤ cap
    · have hst := run_storeCells_at P g (n * 1) e (List.replicate k z) 0 cur w hg (by simp; omega) (fun v hv => by rw [List.eq_of_mem_replicate hv]; exact h1)
      simp only [Nat.add_zero, Nat.mul_one] at hst
      have hxl : xs.length = n := by simpa using hown.1
      refine ⟨.slice (some ⟨g, 0, none⟩) (n + k) cap, _, ?_, ⟨hlen, .inr ⟨g, cap, _, rfl, hbg, setRow_heap w g cur (cur.toList.take n ++ List.replicate k z ++ cur.toList.drop (n + (List.replicate k z).length)).toArray e _ hg, hroom, hcm, ?_, ?_⟩⟩, ⟨rfl, rfl, rfl, by simp, fun k _ hk => setRow_other w g k _ (fun e => hk (by simp [Value.ownBlock, e]))⟩⟩
      · simp [Builtin.append_, run_underlying ht, run_underlying htn, sizeOf, typeInfo, zeroValue, hi, hz, hsize, hzs, hzc, asInt, asIntOf, hw, hneg, hk0, h48i, hroom, Addr.add_lit]
        simpa using congrArg (fun r => r.andThen fun _ w => Result.ok (Value.slice (some ⟨g, 0, none⟩) (n + k) cap) w) hst
      · simp; omega
      · have ht' : cur.toList.take n = xs := by simpa using htake
        rw [ht', ← hlen]
        exact List.take_left
    · have holds : ∀ j u, xs[j]? = some u → w.cell? ((⟨g, 0, none⟩ : Addr).add j) = some u := hown.cells (g := g) rfl
      have hgr := grown cap (by omega) (Value.ownBlock (.slice (some ⟨g, 0, none⟩) n cap))
      have hfit := growslice_fits (need := n + k) (old := cap) (by omega) hbytes
      have hfit' : ¬ (281474976710656 < Builtin.nextslicecap (n + k) cap * i.bytes) := by omega
      have hfo := run_firstCells_some (P := P) w.drew 1 n ⟨g, 0, none⟩ n cap xs hown.1 (by simpa using holds)
      refine ⟨_, _, ?_, hgr.1, hgr.2⟩
      simp [Builtin.append_, run_underlying ht, run_underlying htn, sizeOf, typeInfo, zeroValue, hi, hz, hsize, hzs, hzc, asInt, asIntOf, hw, hneg, hk0, hroom, h63', hfit', h48i, Question.forced, hfo, newRow, grownCap]

theorem app_none {P : Program} (w : World) (t tn ty e : TypeId) (i : TypeInfo) (kq kn : IntKind) (ht : P.underlying t = some (.slice e)) (htn : P.underlying tn = some (.int kn)) (hi : P.info? e = some i) (base : Option Addr) (n cap : Nat) (hle : n ≤ cap) :
    (Builtin.append_ #[t, tn] ty #[.slice base n cap, .int kq 0]).run P w = .ok (.slice base n cap) w := by
  have hw : IntKind.i64.wrap 0 = 0 := by rw [IntKind.wrap_i64]; decide
  cases base <;> simp [Builtin.append_, run_underlying ht, run_underlying htn, sizeOf, typeInfo, hi, Builtin.lenOf, hle, asInt, asIntOf, hw, storeCells, Builtin.zeroCells]

theorem app_zero {B : Nat} {w : World} {v : Value} {l : List Bool} {n k n' : Nat} (h : Mine 4 1 B w v n (bitsC l)) (hn : l.length = n) (hn' : n' = n + k) (hB : B ≤ w.heap.size) (hbig : n' ≤ 100000) :
    ∃ ao' cap' w', (Builtin.append_ #[38, 3] 38 #[v, .int .i64 k]).run Try.prog w = .ok (.slice ao' n' cap') w' ∧ Mine 4 1 B w' (.slice ao' n' cap') n' (bitsC (l ++ List.replicate k false)) ∧ w.grownBy w' v.ownBlock ∧ n' ≤ cap' ∧ cap' ≤ maxLen := by
  obtain ⟨i, hi, hz, hs, hby⟩ := info_bo
  subst hn hn'
  have hrep : bitsC (l ++ List.replicate k false) = bitsC l ++ List.replicate k (Value.bool false) := by simp [bitsC]
  have hv : ∃ ao cap, v = .slice ao l.length cap ∧ l.length ≤ cap ∧ cap ≤ maxLen := by
    rcases h.own.2 with ⟨h1, h2⟩ | ⟨g, cap, cur, h1, _, _, h2, h3, _⟩
    · rw [h2]; exact ⟨none, 0, h1, Nat.le_refl _, Nat.zero_le _⟩
    · exact ⟨_, cap, h1, h2, h3⟩
  obtain ⟨ao, cap, rfl, hc1, hc2⟩ := hv
  rcases Nat.eq_zero_or_pos k with rfl | hk
  · refine ⟨ao, cap, w, app_none (P := Try.prog) w 38 3 38 4 i .i64 .i64 (by kernel_rfl) (by kernel_rfl) hi ao l.length cap hc1, by simpa using h, ⟨rfl, rfl, rfl, Nat.le_refl _, fun _ _ _ => rfl⟩, hc1, hc2⟩
  · have hown : w.ownsRow B 4 1 (.slice ao l.length cap) l.length (bitsC l) := ⟨h.own.1, h.own.2.imp id fun ⟨g, cap, cur, a, b, c, d⟩ => ⟨g, cap, cur, a, h.new g (by rw [a]; rfl), c, d⟩⟩
    obtain ⟨v', w', hr, h2, h3⟩ := run_append_own_zeros (P := Try.prog) w B 38 3 38 4 i _ 1 .i64 .i64 (by kernel_rfl) (by kernel_rfl) hi hz hs hby rfl rfl _ l.length _ hown k hk (by simp only [maxLen]; omega) (by omega) hB
    rcases h2.2 with ⟨rfl, h0⟩ | ⟨g', cap', cur', rfl, hge, q1, q2, q3, q4⟩
    · omega
    · exact ⟨_, cap', w', hr, ⟨⟨by rw [hrep]; exact h2.1, .inr ⟨g', cap', cur', rfl, Nat.zero_le _, q1, q2, q3, by rw [hrep]; exact q4⟩⟩, fun b hb => by simp [Value.ownBlock] at hb; subst hb; exact hge⟩, h3, q2, q3⟩

theorem Below.keptOn {B R : Nat} {w0 w w' : World} (h : Below B w0 w) (hk : Kept R w w') (hR : B ≤ R) (hB : B ≤ w.heap.size) : Below B w0 w' :=
  ⟨hk.os.trans h.os, hk.tape.trans h.tape, hk.output.trans h.output, Nat.le_trans h.size hk.size, fun k hl => (hk.block k (Nat.lt_of_lt_of_le hl hB) (by omega)).trans (h.block k hl)⟩
theorem Below.grownOn {B : Nat} {w0 w w' : World} {row : Option Nat} (h : Below B w0 w) (hk : w.grownBy w' row) (hR : ∀ b, row = some b → B ≤ b) (hB : B ≤ w.heap.size) : Below B w0 w' :=
  ⟨hk.os.trans h.os, hk.tape.trans h.tape, hk.output.trans h.output, Nat.le_trans h.size hk.size, fun k hl => (hk.block k (Nat.lt_of_lt_of_le hl hB) (fun e => by have := hR k e.symm; omega)).trans (h.block k hl)⟩

def nnN : List Nd := [⟨4, 0, 0, 1⟩, ⟨8, 0, 0, 0⟩]

set_option maxRecDepth 100000 in
set_option maxHeartbeats 3200000 in
theorem netted_at (w : World) : Calls Try.prog 6 #[] w fun e w' => e = .returned (.bool true) ∧ Below w.heap.size w w' := by
  have HN : Hid (NetAt ⟨w.heap.size + 2, some ⟨w.heap.size, 0, none⟩, 2, some ⟨w.heap.size + 1, 0, none⟩, 1⟩ AnyB (((w.alloc (.cells #[.int .i64 4, .int .i64 0, .int .i64 0, .int .i64 1, .int .i64 8, .int .i64 0, .int .i64 0, .int .i64 0] 30)).alloc (.cells #[.int .i64 0] 3)).alloc (.cells #[.int .i64 0, .slice (some ⟨w.heap.size, 0, none⟩) 2 2, .slice (some ⟨w.heap.size + 1, 0, none⟩) 1 1] 25)) 0 nnN [0]) := hide (by
    have b1 := blk_new w (.cells #[.int .i64 4, .int .i64 0, .int .i64 0, .int .i64 1, .int .i64 8, .int .i64 0, .int .i64 0, .int .i64 0] 30)
    generalize hw1 : w.alloc (.cells #[.int .i64 4, .int .i64 0, .int .i64 0, .int .i64 1, .int .i64 8, .int .i64 0, .int .i64 0, .int .i64 0] 30) = w1 at *
    have z1 : w1.heap.size = w.heap.size + 1 := by rw [← hw1]; simp
    have b2 := blk_new w1 (.cells #[.int .i64 0] 3)
    have h2 := below_alloc w1 (.cells #[.int .i64 0] 3)
    generalize hw2 : w1.alloc (.cells #[.int .i64 0] 3) = w2 at *
    have z2 : w2.heap.size = w.heap.size + 2 := by rw [← hw2]; simp; omega
    have b3 := blk_new w2 (.cells #[.int .i64 0, .slice (some ⟨w.heap.size, 0, none⟩) 2 2, .slice (some ⟨w.heap.size + 1, 0, none⟩) 1 1] 25)
    have h3 := below_alloc w2 (.cells #[.int .i64 0, .slice (some ⟨w.heap.size, 0, none⟩) 2 2, .slice (some ⟨w.heap.size + 1, 0, none⟩) 1 1] 25)
    rw [z2] at b3
    rw [z1] at b2
    exact ⟨b3, Lies.blk (cs := ndsC nnN) (Below.blk h3 (Below.blk h2 b1)) trivial, Lies.blk (cs := intsC [0]) (Below.blk h3 b2) trivial⟩)
  have HB : Hid (Below w.heap.size w (((w.alloc (.cells #[.int .i64 4, .int .i64 0, .int .i64 0, .int .i64 1, .int .i64 8, .int .i64 0, .int .i64 0, .int .i64 0] 30)).alloc (.cells #[.int .i64 0] 3)).alloc (.cells #[.int .i64 0, .slice (some ⟨w.heap.size, 0, none⟩) 2 2, .slice (some ⟨w.heap.size + 1, 0, none⟩) 1 1] 25))) := hide (((below_alloc _ _).alloc (by simp) _).alloc (by simp; omega) _)
  have HR : Hid (RightP 0 nnN [0]) := hide (rightP_iff.1 (by decide))
  go_enter Try.func6, Try.ntmps6
  go_wp2_with fail
  generalize (((w.alloc (.cells #[.int .i64 4, .int .i64 0, .int .i64 0, .int .i64 1, .int .i64 8, .int .i64 0, .int .i64 0, .int .i64 0] 30)).alloc (.cells #[.int .i64 0] 3)).alloc (.cells #[.int .i64 0, .slice (some ⟨w.heap.size, 0, none⟩) 2 2, .slice (some ⟨w.heap.size + 1, 0, none⟩) 1 1] 25)) = w1 at *
  refine (new_at HN.out HR.out).mono ?_
  rintro e w2 ⟨⟨sp, rfl, hs⟩, hb⟩
  have HS := hide hs
  have HN2 := hide (HN.out.below hb)
  have HB2 := hide (Below.step HB.out hb)
  have HZ : Hid (w.heap.size ≤ w1.heap.size) := hide HB.out.size
  clear hs hb HN HB
  go_wp2_with fail
  refine (Gates_at HN2.out (by decide)).mono ?_
  rintro e w3 ⟨rfl, hb⟩
  have HS3 := hide (HS.out.below hb)
  have HB3 := hide (Below.step HB2.out hb)
  clear hb HS HB2 HN2
  rw [show gatesTo nnN nnN.length = 1 from rfl]
  go_wp2_with fail
  refine (step_at (g := []) HS3.out HR.out none 0 (.inl rfl) (by decide)).mono ?_
  rintro e w4 ⟨⟨O, rfl, hO, hrow⟩, hs, hk⟩
  have HS4 := hide hs
  have HHI : Hid (w.heap.size ≤ sp.h) := hide (Nat.le_trans HZ.out HS3.out.hin.1)
  have HB4 := hide (Below.keptOn HB3.out hk HHI.out HB3.out.size)
  have c0 : w4.cell? ⟨O, 0, none⟩ = some (.bool false) := by rw [blk_cell hrow]; rfl
  clear hs hk hO hrow HS3 HB3
  go_wp2_with fail
  refine (step_at (g := []) HS4.out HR.out none 0 (.inl rfl) (by decide)).mono ?_
  rintro e w5 ⟨⟨O2, rfl, hO, hrow⟩, hs, hk⟩
  have HS5 := hide hs
  have HB5 := hide (Below.keptOn HB4.out hk HHI.out HB4.out.size)
  have c1 : w5.cell? ⟨O2, 0, none⟩ = some (.bool true) := by rw [blk_cell hrow]; rfl
  clear hs hk hO hrow HS4 HB4 c0
  go_wp2_with fail
  refine (step_at (g := []) HS5.out HR.out none 0 (.inl rfl) (by decide)).mono ?_
  rintro e w6 ⟨⟨O3, rfl, hO, hrow⟩, hs, hk⟩
  have HB6 := hide (Below.keptOn HB5.out hk HHI.out HB5.out.size)
  have c2 : w6.cell? ⟨O3, 0, none⟩ = some (.bool false) := by rw [blk_cell hrow]; rfl
  clear hs hk hO hrow HS5 HB5 c1
  go_wp2_with fail
  go_ret
  exact ⟨rfl, HB6.out⟩

def smallP (given : Int) (n m : Nat) : Bool := decide ((n : Int) ≤ 60) && (decide ((m : Int) ≤ 30) && decide (given ≤ 200))
set_option maxRecDepth 100000 in
set_option maxHeartbeats 3200000 in
theorem small_at (given : Int) (na oa : Option Addr) (n nc m oc : Nat) (w : World) : Calls Try.prog 5 #[.agg #[.int .i64 given, .slice na n nc, .slice oa m oc]] w fun e w' => e = .returned (.bool (smallP given n m)) ∧ Below w.heap.size w w' := by
  by_cases h1 : (n : Int) ≤ 60
  · by_cases h2 : (m : Int) ≤ 30
    · have hd : smallP given n m = decide (given ≤ 200) := by simp [smallP, h1, h2]
      rw [hd]
      have h1b : decide ((n : Int) ≤ 60) = true := by simpa using h1
      have h2b : decide ((m : Int) ≤ 30) = true := by simpa using h2
      clear hd
      go_enter Try.func5, Try.ntmps5
      go_wp2_with fail
      go_ret
      exact ⟨rfl, below_alloc _ _⟩
    · have hd : smallP given n m = false := by simp [smallP, h2]
      rw [hd]
      have h1b : decide ((n : Int) ≤ 60) = true := by simpa using h1
      have h2b : decide ((m : Int) ≤ 30) = false := by simpa using h2
      clear hd
      go_enter Try.func5, Try.ntmps5
      go_wp2_with fail
      go_ret
      exact ⟨rfl, below_alloc _ _⟩
  · have hd : smallP given n m = false := by simp [smallP, h1]
    rw [hd]
    have h1b : decide ((n : Int) ≤ 60) = false := by simpa using h1
    clear hd
    go_enter Try.func5, Try.ntmps5
    go_wp2_with fail
    go_ret
    exact ⟨rfl, below_alloc _ _⟩
end Go.Proofs.Ytoghcacigdeloaa
