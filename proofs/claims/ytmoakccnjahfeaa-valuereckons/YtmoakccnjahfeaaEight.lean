/-
  A LAW for 'append(s, make([]T, k)...)' where s is the call's own row (elements of one cell), with room or without; and the CONTRACT of the closure 'eight' of rungworkkeep.ValueLists.
-/
import Derived.Test.YtmoakccnjahfeaaRec
import Derived.Laws.AppendOwnNone
namespace Go.Proofs.Ytmoakccnjahfeaa
open Go.RowKit

theorem zeroCells_one (z : Value) (k : Nat) (hz : z.cells = #[z]) : Builtin.zeroCells z.cells k = (List.replicate k z).toArray := by
  rw [hz]
  apply Array.ext
  · simp [Builtin.zeroCells]
  · intro i h1 h2
    simp [Builtin.zeroCells, Nat.mod_one]

theorem run_append_own_zeros {P : Program} (w : World) (base : Nat) (t tn ty e : TypeId) (i : TypeInfo) (z : Value) (bytes : Nat) (kq kn : IntKind) (ht : P.underlying t = some (.slice e)) (htn : P.underlying tn = some (.int kn)) (hi : P.info? e = some i) (hz : i.zero = some z)
    (hsize : i.size = 1) (hby : i.bytes = bytes) (hzs : z.cells = #[z]) (h1 : z.oneCell' = true)
    (v : Value) (n : Nat) (xs : List Value) (hown : w.ownsRow base e 1 v n xs) (k : Nat) (hk : 0 < k)
    (h63 : n + k ≤ maxLen) (hbytes : (n + k) * bytes ≤ 140737488355328) (hbase : base ≤ w.heap.size) :
    ∃ v' w', (Builtin.append_ #[t, tn] ty #[v, .int kq k]).run P w = .ok v' w' ∧ w'.ownsRow base e 1 v' (n + k) (xs ++ List.replicate k z) ∧ w.grownBy w' v.ownBlock := by
  subst hby
  have hsmall : n + k ≤ 9223372036854775807 := by simp only [maxLen] at h63; omega
  have hlen : (xs ++ List.replicate k z).length = (n + k) * 1 := by rw [List.length_append, hown.1, List.length_replicate]; omega
  have hw : IntKind.i64.wrap (k : Int) = k := by rw [IntKind.wrap_i64]; omega
  have hneg : ¬ ((k : Int) < 0) := by omega
  have hk0 : k ≠ 0 := by omega
  have h48i : ¬ (281474976710656 < (k : Int) * (i.bytes : Int)) := by
    have : k * i.bytes ≤ (n + k) * i.bytes := Nat.mul_le_mul_right _ (by omega)
    rw [← Int.natCast_mul]
    omega
  have h63' : ¬ (9223372036854775807 < ((n : Int) + (k : Int))) := by omega
  have hzc : ∀ m, Builtin.zeroCells #[z] m = (List.replicate m z).toArray := fun m => by rw [← hzs]; exact zeroCells_one z m hzs
  have grown : ∀ (old : Nat), old < n + k → ∀ (row : Option Nat),
      (w.drew.alloc (.cells (xs.toArray ++ (List.replicate k z).toArray ++ (List.replicate (grownCap w (n + k) old e - (n + k)) z).toArray) e)).ownsRow base e 1
        (.slice (some ⟨w.heap.size, 0, none⟩) (n + k) (grownCap w (n + k) old e)) (n + k) (xs ++ List.replicate k z) ∧
      w.grownBy (w.drew.alloc (.cells (xs.toArray ++ (List.replicate k z).toArray ++ (List.replicate (grownCap w (n + k) old e - (n + k)) z).toArray) e)) row := by
    intro old ho row
    have hge := grownCap_ge w (n + k) old e
    have hcm : grownCap w (n + k) old e ≤ maxLen := grownCap_le_maxLen w (n + k) old e h63
    have hx1 := hown.1
    refine ⟨⟨hlen, .inr ⟨w.heap.size, _, _, rfl, hbase, heap_alloc_new w.drew _, hge, hcm, ?_, ?_⟩⟩, ⟨rfl, rfl, rfl, by simp, fun j hj _ => Below.heap_alloc w.drew _ j hj⟩⟩
    · simp; omega
    · simp only [Array.toList_append, List.append_assoc]
      rw [← List.append_assoc, ← hlen]
      exact List.take_left
  rcases hown.2 with ⟨rfl, rfl⟩ | ⟨g, cap, cur, rfl, hbg, hg, hnc, hcm, hcs, htake⟩
  · have hx : xs = [] := List.eq_nil_of_length_eq_zero (by simpa using hown.1)
    subst hx
    have hgr := grown 0 (by omega) (Value.ownBlock (.slice none 0 0))
    have hfit : ¬ (281474976710656 < Builtin.nextslicecap k 0 * i.bytes) := by rw [nextslicecap_zero hk]; simp only [Nat.zero_add] at hbytes; omega
    have h63n : ¬ (9223372036854775807 < (k : Int)) := by omega
    simp only [Nat.zero_add] at hgr ⊢
    refine ⟨_, _, ?_, hgr.1, hgr.2⟩
    simp [Builtin.append_, run_underlying ht, run_underlying htn, sizeOf, typeInfo, zeroValue, hi, hz, hsize, hzs, hzc, asInt, asIntOf, hw, hneg, hk0, h63n, hfit, h48i, Question.forced, run_firstCells_none, newRow, grownCap]
  · by_cases hroom : n + k ≤ cap
    · have hst := run_storeCells_at P g (n * 1) e (List.replicate k z) 0 cur w hg (by simp; omega) (fun v hv => by rw [List.eq_of_mem_replicate hv]; exact h1)
      simp only [Nat.add_zero, Nat.mul_one] at hst
      have hxl : xs.length = n := by simpa using hown.1
      refine ⟨.slice (some ⟨g, 0, none⟩) (n + k) cap, _, ?_, ⟨hlen, .inr ⟨g, cap, _, rfl, hbg, setRow_heap w g cur (cur.toList.take n ++ List.replicate k z ++ cur.toList.drop (n + (List.replicate k z).length)).toArray e _ hg, hroom, hcm, ?_, ?_⟩⟩, ⟨rfl, rfl, rfl, by simp, fun k _ hk => setRow_other w g k _ (fun e => hk (by simp [Value.ownBlock, e]))⟩⟩
      · simp [Builtin.append_, run_underlying ht, run_underlying htn, sizeOf, typeInfo, zeroValue, hi, hz, hsize, hzs, hzc, asInt, asIntOf, hw, hneg, hk0, h48i, hroom, Addr.add_lit]
        simpa using congrArg (fun r => r.andThen fun _ w => Result.ok (Value.slice (some ⟨g, 0, none⟩) (n + k) cap) w) hst
      · simp; omega
      · have ht' : cur.toList.take n = xs := by simpa using htake
        rw [ht', ← hlen]
        exact List.take_left
    · have holds : ∀ j u, xs[j]? = some u → w.cell? ((⟨g, 0, none⟩ : Addr).add j) = some u := hown.cells (g := g) rfl
      have hgr := grown cap (by omega) (Value.ownBlock (.slice (some ⟨g, 0, none⟩) n cap))
      have hfit := growslice_fits (need := n + k) (old := cap) (by omega) hbytes
      have hfit' : ¬ (281474976710656 < Builtin.nextslicecap (n + k) cap * i.bytes) := by omega
      have hfo := run_firstCells_some (P := P) w.drew 1 n ⟨g, 0, none⟩ n cap xs hown.1 (by simpa using holds)
      refine ⟨_, _, ?_, hgr.1, hgr.2⟩
      simp [Builtin.append_, run_underlying ht, run_underlying htn, sizeOf, typeInfo, zeroValue, hi, hz, hsize, hzs, hzc, asInt, asIntOf, hw, hneg, hk0, hroom, h63', hfit', h48i, Question.forced, hfo, newRow, grownCap]

theorem wpList_append_own_zeros {P : Program} {w : World} {ops : Array Oper} {rest : List Oper} {o : Oper} {a : Act} {Q : Exit → Act → World → Prop} (hgd : o.guard = none) (s x : Operand) (t tn : TypeId)
    (ho : o.op = .call { callee := .builtin .append, args := #[s, x], argTypes := #[t, tn] })
    (base : Nat) (e : TypeId) (i : TypeInfo) (z : Value) (bytes : Nat) (kq kn : IntKind) (ht : P.underlying t = some (.slice e)) (htn : P.underlying tn = some (.int kn)) (hi : P.info? e = some i) (hz : i.zero = some z)
    (hsize : i.size = 1) (hby : i.bytes = bytes) (hzs : z.cells = #[z]) (h1 : z.oneCell' = true)
    (v : Value) (n : Nat) (xs : List Value) (hs : a.eval s = v) (hown : w.ownsRow base e 1 v n xs) (k : Nat) (hx : a.eval x = .int kq k) (hk : 0 < k)
    (h63 : n + k ≤ maxLen) (hbytes : (n + k) * bytes ≤ 140737488355328) (hbase : base ≤ w.heap.size)
    (h : ∀ v' w', w'.ownsRow base e 1 v' (n + k) (xs ++ List.replicate k z) → w.grownBy w' v.ownBlock → wpList P ops Q rest (a.put o.dst v') w') : wpList P ops Q (o :: rest) a w := by
  refine wpList_plain hgd fun K hK => ?_
  obtain ⟨v', w', hr, h2, h3⟩ := run_append_own_zeros (P := P) w base t tn o.type e i z bytes kq kn ht htn hi hz hsize hby hzs h1 v n xs hown k hk h63 hbytes hbase
  unfold Oper.wp execOp
  simp only [ho, resolve, invoke, builtin, Sem.run_bind, Sem.run_pure, Result.andThen_ok, List.map_toArray, List.map_cons, List.map_nil, hs, hx, hr]
  exact hK _ _ (h v' w' h2 h3)

def eightL (l : List Bool) : List Bool := (l ++ List.replicate 8 false).take 8
theorem eightL_len (l : List Bool) : (eightL l).length = 8 := by simp [eightL]

theorem cell_lt {w : World} {a : Addr} {v : Value} (h : w.cell? a = some v) : a.block < w.heap.size := by
  by_cases hlt : a.block < w.heap.size
  · exact hlt
  · exfalso
    have : w.heap[a.block]? = none := by simp; omega
    simp [World.cell?, this] at h

theorem slice8 {w : World} {base n : Nat} {v : Value} {l : List Bool} (h : w.ownsRow base 4 1 v (n + 8) (l.map Value.bool ++ List.replicate 8 (Value.bool false))) (hn : l.length = n) :
    ∃ g cap, v = .slice (some ⟨g, 0, none⟩) (n + 8) cap ∧ n + 8 ≤ cap ∧ cap ≤ maxLen ∧ IsBits w (.slice (some ⟨g, 0, none⟩) 8 cap) (eightL l) := by
  have h' := h
  obtain ⟨h1, h2⟩ := h
  rcases h2 with ⟨_, hz⟩ | ⟨g, cap, cur, rfl, hb, hg, hnc, hm, hs, ht⟩
  · omega
  · refine ⟨g, cap, rfl, hnc, hm, .inr ⟨g, 0, cap, by rw [eightL_len], by rw [eightL_len]; omega, hm, fun i hi => ?_⟩⟩
    rw [eightL_len] at hi
    have e := h'.cellAt (g := g) (cap := cap) i (by omega)
    rw [Nat.zero_add, e]
    have e2 : l.map Value.bool ++ List.replicate 8 (Value.bool false) = (l ++ List.replicate 8 false).map Value.bool := by simp
    rw [e2, List.getElem?_map]
    unfold eightL
    rw [List.getElem?_take, if_pos hi, List.getElem?_eq_getElem (by simp; omega)]
    simp

set_option maxHeartbeats 1600000 in
theorem eight_some (l : List Bool) (b off cap : Nat) (w : World) (hl : l.length ≤ 20) (hc : ∀ i, i < l.length → w.cell? ⟨b, off + i, none⟩ = some (.bool (l[i]?.getD false))) :
    Calls Try.prog 25 #[.slice (some ⟨b, off, none⟩) l.length cap] w fun e w' => ∃ g cap, e = .returned (.slice (some ⟨g, 0, none⟩) 8 cap) ∧ IsBits w' (.slice (some ⟨g, 0, none⟩) 8 cap) (eightL l) ∧ Below w.heap.size w w' := by
  obtain ⟨i0, hi, hz0, hz1, hz2⟩ := info_parts Try.info4
  have hown0 : (w.alloc (.cells #[] 4)).ownsRow w.heap.size 4 1 (.slice (some ⟨w.heap.size, 0, none⟩) 0 0) 0 [] := World.ownsRow_lit w #[] 0 (Nat.le_refl _) (by simp [maxLen]) rfl
  have hnews : ∀ j u, (l.map Value.bool)[j]? = some u → (w.alloc (.cells #[] 4)).cell? ((⟨b, off, none⟩ : Addr).add j) = some u := by
    intro j u hj
    have hjl : j < l.length := by
      rcases Nat.lt_or_ge j l.length with h | h
      · exact h
      · rw [List.getElem?_eq_none (by simpa using h)] at hj; cases hj
    have h1 := hc j hjl
    have h2 := cell_lt h1
    rw [Addr.add_lit, World.cell?_alloc_past _ _ _ h2, h1]
    simp [hjl] at hj ⊢
    exact hj
  clear hc
  go_enter Try.func25, Try.ntmps25
  go_wp2_with (first
    | (at_builtin; (refine wpList_append_own _ rfl (.tmp 3) (.tmp 4) 22 rfl w.heap.size 4 i0 (.bool false) 1 1 Try.underlying22 hi hz0 hz1 hz2 rfl (by decide) _ _ _ rfl hown0 ⟨b, off, none⟩ l.length cap (l.map Value.bool) rfl (by simp) hnews ?c2 ?c3 ?c4 ?c5 ?_)))
  case c2 => intro u hu; simp at hu; rcases hu with ⟨_, rfl⟩ | ⟨_, rfl⟩ <;> rfl
  case c3 => unfold maxLen; omega
  case c4 => omega
  case c5 => simp
  intro v1 w1 hown1 hgrow1 _
  have hb1 : Below w.heap.size w w1 := ((Below.refl w.heap.size w).alloc (Nat.le_refl _) _).grown hgrow1 (by simp) (fun j hj => by simp [Value.ownBlock] at hj; omega)
  have hs1 : w.heap.size ≤ w1.heap.size := hb1.size
  clear hown0 hnews hgrow1
  go_wp2_with (first
    | (at_builtin; (refine wpList_append_own_zeros rfl (.tmp 5) (.const (.int .i64 8)) 22 3 rfl w.heap.size 4 i0 (.bool false) 1 .i64 .i64 Try.underlying22 Try.underlying3 hi hz0 hz1 hz2 rfl rfl _ _ _ rfl hown1 8 rfl (by decide) ?c6 ?c7 ?c8 ?_)))
  case c6 => unfold maxLen; omega
  case c7 => omega
  case c8 => exact hs1
  intro v2 w2 hown2 hgrow2
  obtain ⟨g, cap2, rfl, hn8, hm8, hI⟩ := slice8 hown2 rfl
  have hb2 : Below w.heap.size w w2 := hb1.grown hgrow2 hs1 (fun j hj => (hown1.lt j hj).1)
  have HI : Hid (IsBits w2 (.slice (some ⟨g, 0, none⟩) 8 cap2) (eightL l)) := hI
  clear hI hown1 hown2 hgrow2 hs1 hb1
  have h8 : (8 : Int) ≤ (cap2 : Int) := by omega
  go_wp2_with fail
  go_ret
  exact ⟨g, cap2, rfl, HI.out, hb2⟩


set_option maxHeartbeats 1600000 in
theorem eight_nil (w : World) :
    Calls Try.prog 25 #[.slice none 0 0] w fun e w' => ∃ g cap, e = .returned (.slice (some ⟨g, 0, none⟩) 8 cap) ∧ IsBits w' (.slice (some ⟨g, 0, none⟩) 8 cap) (eightL []) ∧ Below w.heap.size w w' := by
  obtain ⟨i0, hi, hz0, hz1, hz2⟩ := info_parts Try.info4
  have hown0 : (w.alloc (.cells #[] 4)).ownsRow w.heap.size 4 1 (.slice (some ⟨w.heap.size, 0, none⟩) 0 0) 0 (([] : List Bool).map Value.bool) := World.ownsRow_lit w #[] 0 (Nat.le_refl _) (by simp [maxLen]) rfl
  have HO : Hid ((w.alloc (.cells #[] 4)).ownsRow w.heap.size 4 1 (.slice (some ⟨w.heap.size, 0, none⟩) 0 0) 0 (([] : List Bool).map Value.bool)) := hown0
  clear hown0
  go_enter Try.func25, Try.ntmps25
  go_wp2_with (first
    | (at_builtin; (refine wpList_append_own_none rfl (.tmp 3) (.tmp 4) 22 rfl w.heap.size 4 i0 1 Try.underlying22 hi _ _ _ rfl HO.out rfl ?_))
    | (at_builtin; (refine wpList_append_own_zeros rfl (.tmp 5) (.const (.int .i64 8)) 22 3 rfl w.heap.size 4 i0 (.bool false) 1 .i64 .i64 Try.underlying22 Try.underlying3 hi hz0 hz1 hz2 rfl rfl _ _ _ rfl HO.out 8 rfl (by decide) (by simp [maxLen]) (by omega) (by simp) ?_)))
  intro v2 w2 hown2 hgrow2
  obtain ⟨g, cap2, rfl, hn8, hm8, hI⟩ := slice8 (l := []) (n := 0) hown2 rfl
  have hb2 : Below w.heap.size w w2 := ((Below.refl w.heap.size w).alloc (Nat.le_refl _) _).grown hgrow2 (by simp) (fun j hj => by simp [Value.ownBlock] at hj; omega)
  have HI : Hid (IsBits w2 (.slice (some ⟨g, 0, none⟩) 8 cap2) (eightL [])) := hI
  clear hI hown2 hgrow2 HO
  have h8 : (8 : Int) ≤ (cap2 : Int) := by omega
  go_wp2_with fail
  go_ret
  exact ⟨g, cap2, rfl, HI.out, hb2⟩

set_option maxHeartbeats 1600000 in
theorem eight_empty (x : Addr) (cap : Nat) (w : World) :
    Calls Try.prog 25 #[.slice (some x) 0 cap] w fun e w' => ∃ g cap, e = .returned (.slice (some ⟨g, 0, none⟩) 8 cap) ∧ IsBits w' (.slice (some ⟨g, 0, none⟩) 8 cap) (eightL []) ∧ Below w.heap.size w w' := by
  obtain ⟨i0, hi, hz0, hz1, hz2⟩ := info_parts Try.info4
  have hown0 : (w.alloc (.cells #[] 4)).ownsRow w.heap.size 4 1 (.slice (some ⟨w.heap.size, 0, none⟩) 0 0) 0 [] := World.ownsRow_lit w #[] 0 (Nat.le_refl _) (by simp [maxLen]) rfl
  go_enter Try.func25, Try.ntmps25
  go_wp2_with (first
    | (at_builtin; (refine wpList_append_own _ rfl (.tmp 3) (.tmp 4) 22 rfl w.heap.size 4 i0 (.bool false) 1 1 Try.underlying22 hi hz0 hz1 hz2 rfl (by decide) _ _ _ rfl hown0 x 0 cap [] rfl rfl ?c1 ?c2 ?c3 ?c4 ?c5 ?_)))
  case c1 => intro j u hu; simp at hu
  case c2 => intro u hu; simp at hu
  case c3 => simp [maxLen]
  case c4 => omega
  case c5 => simp
  intro v1 w1 hown1 hgrow1 _
  have hb1 : Below w.heap.size w w1 := ((Below.refl w.heap.size w).alloc (Nat.le_refl _) _).grown hgrow1 (by simp) (fun j hj => by simp [Value.ownBlock] at hj; omega)
  have hs1 : w.heap.size ≤ w1.heap.size := hb1.size
  have hown1' : w1.ownsRow w.heap.size 4 1 v1 0 (([] : List Bool).map Value.bool) := by simpa using hown1
  clear hown0 hgrow1 hown1
  go_wp2_with (first
    | (at_builtin; (refine wpList_append_own_zeros rfl (.tmp 5) (.const (.int .i64 8)) 22 3 rfl w.heap.size 4 i0 (.bool false) 1 .i64 .i64 Try.underlying22 Try.underlying3 hi hz0 hz1 hz2 rfl rfl _ _ _ rfl hown1' 8 rfl (by decide) (by simp [maxLen]) (by omega) hs1 ?_)))
  intro v2 w2 hown2 hgrow2
  obtain ⟨g, cap2, rfl, hn8, hm8, hI⟩ := slice8 (l := []) (n := 0) hown2 rfl
  have hb2 : Below w.heap.size w w2 := hb1.grown hgrow2 hs1 (fun j hj => (hown1'.lt j hj).1)
  have HI : Hid (IsBits w2 (.slice (some ⟨g, 0, none⟩) 8 cap2) (eightL [])) := hI
  clear hI hown1' hown2 hgrow2 hs1 hb1
  have h8 : (8 : Int) ≤ (cap2 : Int) := by omega
  go_wp2_with fail
  go_ret
  exact ⟨g, cap2, rfl, HI.out, hb2⟩

theorem eight_any (l : List Bool) (v : Value) (w : World) (h : IsBits w v l) (hl : l.length ≤ 20) :
    Calls Try.prog 25 #[v] w fun e w' => ∃ g cap, e = .returned (.slice (some ⟨g, 0, none⟩) 8 cap) ∧ IsBits w' (.slice (some ⟨g, 0, none⟩) 8 cap) (eightL l) ∧ Below w.heap.size w w' := by
  rcases h with ⟨rfl | ⟨x, cap, rfl⟩, rfl⟩ | ⟨b, off, cap, rfl, _, _, hc⟩
  · exact eight_nil w
  · exact eight_empty x cap w
  · exact eight_some l b off cap w hl hc

theorem IsBits.below {w w' : World} {v : Value} {l : List Bool} (h : IsBits w v l) (hb : Below w.heap.size w w') : IsBits w' v l := by
  rcases h with h | ⟨b, off, cap, rfl, h1, h2, hc⟩
  · exact .inl h
  · refine .inr ⟨b, off, cap, rfl, h1, h2, fun i hi => ?_⟩
    have := hc i hi
    rw [hb.cell (p := ⟨b, off + i, none⟩) (cell_lt this)]
    exact this
end Go.Proofs.Ytmoakccnjahfeaa
