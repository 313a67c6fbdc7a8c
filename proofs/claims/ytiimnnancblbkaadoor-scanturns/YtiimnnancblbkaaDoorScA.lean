/-
  ROWS of numbers: where they lie; append onto a row of the call's own.
-/
import Derived.Laws.AppendOwnNone
import Derived.Deep.Upon
import Derived.Test.YtiimnnancblbkaaDoorJMem
set_option linter.unusedSimpArgs false
set_option linter.unusedVariables false
namespace Go.Proofs.YtiimnnancblbkaaDoor
open Go.RowKit

def outAt (os : List Int) (i : Nat) : Int := os[i]?.getD 0
theorem wp_append_run {P : Program} {o : Oper} {a : Act} {w w' : World} {K : Act → World → Prop} {Q : Exit → Act → World → Prop} {v x v' : Value} {t : TypeId} (hr : (Builtin.append_ #[t, t] o.type #[v, x]).run P w = .ok v' w') (so xo : Operand) (ho : o.op = .call { callee := .builtin .append, args := #[so, xo], argTypes := #[t, t] }) (hs : a.eval so = v) (hx : a.eval xo = x) (h : K (a.put o.dst v') w') : Oper.wp P o a w K Q := by
  unfold Oper.wp execOp
  simp only [ho, resolve, invoke, builtin, Sem.run_bind, Sem.run_pure, Result.andThen_ok, List.map_toArray, List.map_cons, List.map_nil, hs, hx, hr]
  exact h
theorem wpl_append_run {P : Program} {ops : Array Oper} {rest : List Oper} {o : Oper} {a : Act} {w w' : World} {Q : Exit → Act → World → Prop} {v x v' : Value} {t : TypeId} (hr : (Builtin.append_ #[t, t] o.type #[v, x]).run P w = .ok v' w') (hgd : o.guard = none) (so xo : Operand) (ho : o.op = .call { callee := .builtin .append, args := #[so, xo], argTypes := #[t, t] }) (hs : a.eval so = v) (hx : a.eval xo = x) (h : wpList P ops Q rest (a.put o.dst v') w') : wpList P ops Q (o :: rest) a w := by
  refine wpList_plain hgd fun K hK => ?_
  exact wp_append_run hr so xo ho hs hx (hK _ _ h)
theorem add0 (b j : Nat) : (⟨b, 0, none⟩ : Addr).add j = ⟨b, j, none⟩ := by
  unfold Addr.add
  split <;> simp_all
/-- cells that lie behind an address, in a block of which S holds -/
def Lies (S : Nat → Prop) (w : World) (ao : Option Addr) (cs : List Value) : Prop :=
  cs = [] ∨ ∃ b off, ao = some ⟨b, off, none⟩ ∧ S b ∧ ∀ i u, cs[i]? = some u → w.cell? ⟨b, off + i, none⟩ = some u
def AnyB (_ : Nat) : Prop := True
def FromB (B k : Nat) : Prop := B ≤ k
theorem Lies.same {S : Nat → Prop} {w w' : World} {ao : Option Addr} {cs : List Value} (h : Lies S w ao cs) (hb : ∀ b, S b → b < w.heap.size → w'.heap[b]? = w.heap[b]?) : Lies S w' ao cs := by
  rcases h with h | ⟨b, off, h1, h2, h3⟩
  · exact .inl h
  · exact .inr ⟨b, off, h1, h2, fun i u hu => (World.cell?_of_block (w := w) (hb b h2 (cell_lt (h3 i u hu)))).trans (h3 i u hu)⟩
theorem Lies.below {S : Nat → Prop} {w w' : World} {ao : Option Addr} {cs : List Value} (h : Lies S w ao cs) (hb : Below w.heap.size w w') : Lies S w' ao cs := h.same fun b _ hl => hb.block b hl
theorem Lies.imp {S T : Nat → Prop} {w : World} {ao : Option Addr} {cs : List Value} (h : Lies S w ao cs) (hb : ∀ b, b < w.heap.size → S b → T b) : Lies T w ao cs := by
  rcases h with h | ⟨b, off, h1, h2, h3⟩
  · exact .inl h
  · rcases cs with _ | ⟨c, cs⟩
    · exact .inl rfl
    · exact .inr ⟨b, off, h1, hb b (cell_lt (h3 0 c rfl)) h2, h3⟩
theorem Lies.any {S : Nat → Prop} {w : World} {ao : Option Addr} {cs : List Value} (h : Lies S w ao cs) : Lies AnyB w ao cs := h.imp fun _ _ _ => trivial
def intsC (os : List Int) : List Value := os.map (Value.int .i64)
theorem Lies.ints {S : Nat → Prop} {w : World} {ao : Option Addr} {os : List Int} (h : Lies S w ao (intsC os)) {i : Nat} (hi : i < os.length) : ∃ b off, ao = some ⟨b, off, none⟩ ∧ S b ∧ b < w.heap.size ∧ w.cell? ⟨b, off + i, none⟩ = some (.int .i64 (outAt os i)) := by
  rcases h with h | ⟨b, off, h1, h2, h3⟩
  · have := congrArg List.length h
    simp [intsC] at this
    subst this
    exact absurd hi (Nat.not_lt_zero _)
  · have c0 := h3 i (.int .i64 (outAt os i)) (by simp [intsC, outAt, hi])
    exact ⟨b, off, h1, h2, cell_lt c0, c0⟩
/-- a whole block is such cells -/
theorem Lies.blk {S : Nat → Prop} {w : World} {b : Nat} {cs : List Value} {t : TypeId} {z : Nat × Nat} (h : w.heap[b]? = some (.cells cs.toArray t z)) (hS : S b) : Lies S w (some ⟨b, 0, none⟩) cs :=
  .inr ⟨b, 0, rfl, hS, fun i u hu => by rw [Nat.zero_add, blk_cell h]; simpa using hu⟩
theorem app_own {P : Program} {w : World} (t ty e : TypeId) (i : TypeInfo) (z : Value) (size bytes : Nat) (ht : P.underlying t = some (.slice e)) (hi : P.info? e = some i) (hz : i.zero = some z)
    (hsize : i.size = size) (hby : i.bytes = bytes) (hzs : z.cells.size = size) (hsz : 0 < size)
    (v : Value) (n : Nat) (xs : List Value) (hown : w.ownsRow 0 e size v n xs)
    (ao : Option Addr) (m c : Nat) (news : List Value) (hl : news.length = m * size) (hnews : Lies AnyB w ao news) (h1 : ∀ u ∈ news, u.oneCell' = true)
    (h63 : n + m ≤ 1000000) (hb9 : bytes ≤ 1000) :
    ∃ ao' cap' w', (Builtin.append_ #[t, t] ty #[v, .slice ao m c]).run P w = .ok (.slice ao' (n + m) cap') w' ∧ w'.ownsRow 0 e size (.slice ao' (n + m) cap') (n + m) (xs ++ news) ∧ w.grownBy w' v.ownBlock ∧ (∀ b, (Value.slice ao' (n + m) cap').ownBlock = some b → v.ownBlock = some b ∨ w.heap.size ≤ b) := by
  have hlen : n + m ≤ maxLen := by simp only [maxLen]; omega
  have hbytes : (n + m) * bytes ≤ 140737488355328 := Nat.le_trans (Nat.mul_le_mul h63 hb9) (by decide)
  rcases hnews with hnews | ⟨b, off, rfl, _, hnews⟩
  · subst hnews
    have hm0 : m = 0 := by
      rcases Nat.eq_zero_or_pos m with h | h
      · exact h
      · have := Nat.mul_pos h hsz; simp at hl; omega
    subst hm0
    have hsrc : Src P i.size t (.slice ao 0 c) 0 [] w := by
      cases ao with
      | none => exact Src.ofNil w ht c
      | some a => exact Src.ofSlice w ht a 0 c [] (by simp) (by simp) (by simp)
    rcases hown.2 with ⟨rfl, rfl⟩ | ⟨g, cap, cur, rfl, hbg, hg, hnc, hcm, hcs, htake⟩
    · exact ⟨none, 0, w, run_append_nothing w t t ty e i ht hi none 0 0 (Nat.le_refl _) _ hsrc, by simpa using hown, ⟨rfl, rfl, rfl, Nat.le_refl _, fun _ _ _ => rfl⟩, fun b hb => by cases hb⟩
    · exact ⟨some ⟨g, 0, none⟩, cap, w, run_append_nothing w t t ty e i ht hi _ n cap hnc _ hsrc, by simpa using hown, ⟨rfl, rfl, rfl, Nat.le_refl _, fun _ _ _ => rfl⟩, fun b hb => .inl hb⟩
  · have hnews' : ∀ j u, news[j]? = some u → w.cell? ((⟨b, off, none⟩ : Addr).add j) = some u := fun j u hu => by rw [Addr.add_lit]; exact hnews j u hu
    rcases hown.2 with ⟨rfl, rfl⟩ | ⟨g, cap, cur, rfl, hbg, hg, hnc, hcm, hcs, htake⟩
    · have hxs : xs = [] := List.eq_nil_of_length_eq_zero (by have := hown.1; simpa using this)
      subst hxs
      obtain ⟨v', w', hr, h2, h3, h4⟩ := run_append_own (P := P) w w.heap.size t ty e i z size bytes ht hi hz hsize hby hzs hsz _ 0 [] (World.ownsRow_nil w _ e size) ⟨b, off, none⟩ m c news hl hnews' h1 hlen hbytes (Nat.le_refl _)
      have h2' : w'.ownsRow 0 e size v' (0 + m) ([] ++ news) := ⟨h2.1, h2.2.imp id fun ⟨g, cap, cur, a, b, c, d⟩ => ⟨g, cap, cur, a, Nat.zero_le _, c, d⟩⟩
      rcases h2.2 with ⟨rfl, h0⟩ | ⟨g', cap', cur', rfl, hge, _⟩
      · obtain rfl : m = 0 := by omega
        exact ⟨none, 0, w', hr, h2', h3, fun b hb => by cases hb⟩
      · exact ⟨_, cap', w', hr, h2', h3, fun b hb => .inr (by simp [Value.ownBlock] at hb; subst hb; exact hge)⟩
    · obtain ⟨v', w', hr, h2, h3, h4⟩ := run_append_own (P := P) w 0 t ty e i z size bytes ht hi hz hsize hby hzs hsz _ n xs hown ⟨b, off, none⟩ m c news hl hnews' h1 hlen hbytes (Nat.zero_le _)
      have hnew : v'.ownBlock = some g ∨ v'.ownBlock = some w.heap.size := by
        subst hsize
        subst hby
        by_cases hroom : n + m ≤ cap
        · have hfit : n * i.size + news.length ≤ cur.size := by rw [hcs, hl, ← Nat.add_mul]; exact Nat.mul_le_mul_right i.size hroom
          have hq := run_append_room (P := P) w t ty e i ht hi g n cap cur hg ⟨b, off, none⟩ m c news hl hnews' h1 hroom hfit
          rw [hq] at hr
          cases hr
          exact .inl rfl
        · have holds : ∀ j u, xs[j]? = some u → w.cell? ((⟨g, 0, none⟩ : Addr).add j) = some u := hown.cells (g := g) rfl
          have hq := run_append_grow (P := P) w t ty e i z ht hi hz ⟨g, 0, none⟩ n cap xs hown.1 holds ⟨b, off, none⟩ m c news hl hnews' (by omega) (by simp only [maxLen] at hlen; omega) (growslice_fits (by omega) hbytes)
          rw [hq] at hr
          cases hr
          exact .inr rfl
      rcases h2.2 with ⟨rfl, _⟩ | ⟨g', cap', cur', rfl, _⟩
      · rcases hnew with h | h <;> simp [Value.ownBlock] at h
      · refine ⟨_, cap', w', hr, h2, h3, fun b hb => ?_⟩
        rw [hb] at hnew
        rcases hnew with h | h
        · cases h; exact .inl rfl
        · cases h; exact .inr (Nat.le_refl _)
/-- a row of the call's own: its blocks are from B on -/
structure Mine (e size B : Nat) (w : World) (v : Value) (n : Nat) (xs : List Value) : Prop where
  own : w.ownsRow 0 e size v n xs
  new : ∀ b, v.ownBlock = some b → B ≤ b
theorem Mine.same {e size B : Nat} {w w' : World} {v : Value} {n : Nat} {xs : List Value} (h : Mine e size B w v n xs) (hb : ∀ b, v.ownBlock = some b → b < w.heap.size → w'.heap[b]? = w.heap[b]?) : Mine e size B w' v n xs := by
  refine ⟨⟨h.own.1, ?_⟩, h.new⟩
  rcases h.own.2 with h0 | ⟨g, cap, cur, rfl, hbg, hg, hr⟩
  · exact .inl h0
  · exact .inr ⟨g, cap, cur, rfl, hbg, (hb g rfl (blk_lt hg)).trans hg, hr⟩
theorem Mine.below {e size B : Nat} {w w' : World} {v : Value} {n : Nat} {xs : List Value} (h : Mine e size B w v n xs) (hb : Below w.heap.size w w') : Mine e size B w' v n xs := h.same fun b _ hl => hb.block b hl
theorem Mine.lies {e size B : Nat} {w : World} {ao : Option Addr} {n m cap : Nat} {xs : List Value} (h : Mine e size B w (.slice ao m cap) n xs) {S : Nat → Prop} (hS : ∀ b, (Value.slice ao m cap).ownBlock = some b → S b) : Lies S w ao xs := by
  rcases h.own.2 with ⟨h0, h1⟩ | ⟨g, cap, cur, hv, hbg, hg, hr⟩
  · left
    have := h.own.1
    rw [h1] at this
    exact List.eq_nil_of_length_eq_zero (by simpa using this)
  · cases hv
    right
    refine ⟨g, 0, rfl, hS g rfl, fun i u hu => ?_⟩
    have := h.own.cells (g := g) rfl i u hu
    rwa [Addr.add_lit] at this
theorem Mine.empty {e size : Nat} {w : World} {o : Nat} (h : w.heap[o]? = some (.cells #[] e (0, 0))) : Mine e size o w (.slice (some ⟨o, 0, none⟩) 0 0) 0 [] :=
  ⟨⟨by simp, .inr ⟨o, 0, #[], rfl, Nat.zero_le _, h, Nat.le_refl _, by decide, by simp, by simp⟩⟩, fun b hb => by simp [Value.ownBlock] at hb; omega⟩
theorem Mine.none {e size B : Nat} (w : World) : Mine e size B w (.slice .none 0 0) 0 [] := ⟨World.ownsRow_nil w 0 e size, fun b hb => by cases hb⟩
theorem Mine.from {e size B C : Nat} {w : World} {v : Value} {n : Nat} {xs : List Value} (h : Mine e size B w v n xs) (hc : C ≤ B) : Mine e size C w v n xs := ⟨h.own, fun b hb => Nat.le_trans hc (h.new b hb)⟩
theorem info_of {P : Program} {t : TypeId} {z : Value} {s b : Nat} (h : (P.info? t).map (fun i => (i.zero, i.size, i.bytes)) = some (some z, s, b)) : ∃ i : TypeInfo, P.info? t = some i ∧ i.zero = some z ∧ i.size = s ∧ i.bytes = b := by
  cases hi : P.info? t with
  | none => rw [hi] at h; cases h
  | some i =>
    rw [hi] at h
    simp only [Option.map_some, Option.some.injEq, Prod.mk.injEq] at h
    exact ⟨i, rfl, h.1, h.2.1, h.2.2⟩
theorem info_in : ∃ i : TypeInfo, Tryd.prog.info? 3 = some i ∧ i.zero = some (.int .i64 0) ∧ i.size = 1 ∧ i.bytes = 8 := info_of (by kernel_rfl)
theorem ints_one (os : List Int) : ∀ u ∈ intsC os, u.oneCell' = true := by
  intro u hu
  obtain ⟨d, _, rfl⟩ := List.mem_map.1 hu
  rfl
theorem intsC_app (a b : List Int) : intsC (a ++ b) = intsC a ++ intsC b := List.map_append
/-- what an append comes to -/
def Apped (t e size B : Nat) (w : World) (v : Value) (m : Nat) (ao : Option Addr) (c n' : Nat) (xs : List Value) : Prop :=
  ∃ ao' cap' w', (Builtin.append_ #[t, t] t #[v, .slice ao m c]).run Tryd.prog w = .ok (.slice ao' n' cap') w' ∧ Mine e size B w' (.slice ao' n' cap') n' xs ∧ w.grownBy w' v.ownBlock ∧ (∀ b, (Value.slice ao' n' cap').ownBlock = some b → v.ownBlock = some b ∨ w.heap.size ≤ b)
theorem app_in {B : Nat} {w : World} {v : Value} {l new : List Int} {n m n' c : Nat} {ao : Option Addr} (h : Mine 3 1 B w v n (intsC l)) (hn : l.length = n) (hm : new.length = m) (hn' : n' = n + m) (hnew : Lies AnyB w ao (intsC new)) (hB : B ≤ w.heap.size) (hbig : n' ≤ 100000) :
    Apped 38 3 1 B w v m ao c n' (intsC (l ++ new)) := by
  obtain ⟨i, hi, hz, hs, hby⟩ := info_in
  subst hn hm hn'
  obtain ⟨ao', cap', w', hr, h2, h3, h4⟩ := app_own (P := Tryd.prog) (w := w) 38 38 3 i _ 1 8 (by kernel_rfl) hi hz hs hby rfl (by decide) v l.length _ h.own ao new.length c (intsC new) (by simp [intsC]) hnew (ints_one new) (by omega) (by decide)
  exact ⟨ao', cap', w', hr, ⟨by rw [intsC_app]; exact h2, fun b hb => (h4 b hb).elim (h.new b) (Nat.le_trans hB)⟩, h3, h4⟩
theorem eql_nil {P : Program} (w : World) (t e : TypeId) (a : Option Addr) (n c : Nat) (h : P.underlying t = some (.slice e)) : (binOp .eql t (.slice a n c) (.slice none 0 0)).run P w = .ok (.bool a.isNone) w := by
  simp only [binOp]
  simp [Op.equal, Op.maxDepth, Lib.run_equalIn_slice_nil w 9999 t e a n c 0 0 h]
theorem zeroCells_one (z : Value) (k : Nat) (hz : z.cells = #[z]) : Builtin.zeroCells z.cells k = (List.replicate k z).toArray := by
  rw [hz]
  apply Array.ext
  · simp [Builtin.zeroCells]
  · intro i h1 h2
    simp [Builtin.zeroCells, Nat.mod_one]
theorem run_append_own_zeros {P : Program} (w : World) (base : Nat) (t tn ty e : TypeId) (i : TypeInfo) (z : Value) (bytes : Nat) (kq kn : IntKind) (ht : P.underlying t = some (.slice e)) (htn : P.underlying tn = some (.int kn)) (hi : P.info? e = some i) (hz : i.zero = some z)
    (hsize : i.size = 1) (hby : i.bytes = bytes) (hzs : z.cells = #[z]) (h1 : z.oneCell' = true)
    (v : Value) (n : Nat) (xs : List Value) (hown : w.ownsRow base e 1 v n xs) (k : Nat) (hk : 0 < k)
    (h63 : n + k ≤ maxLen) (hbytes : (n + k) * bytes ≤ 140737488355328) (hbase : base ≤ w.heap.size) :
    ∃ v' w', (Builtin.append_ #[t, tn] ty #[v, .int kq k]).run P w = .ok v' w' ∧ w'.ownsRow base e 1 v' (n + k) (xs ++ List.replicate k z) ∧ w.grownBy w' v.ownBlock := by
  subst hby
  have hsmall : n + k ≤ 9223372036854775807 := by simp only [maxLen] at h63; omega
  have hlen : (xs ++ List.replicate k z).length = (n + k) * 1 := by rw [List.length_append, hown.1, List.length_replicate]; omega
  have hw : IntKind.i64.wrap (k : Int) = k := by rw [IntKind.wrap_i64]; omega
  have hneg : ¬ ((k : Int) < 0) := by omega
  have hk0 : k ≠ 0 := by omega
  have h48i : ¬ (281474976710656 < (k : Int) * (i.bytes : Int)) := by
    have : k * i.bytes ≤ (n + k) * i.bytes := Nat.mul_le_mul_right _ (by omega)
    rw [← Int.natCast_mul]
    omega
  have h63' : ¬ (9223372036854775807 < ((n : Int) + (k : Int))) := by omega
  have hzc : ∀ m, Builtin.zeroCells #[z] m = (List.replicate m z).toArray := fun m => by rw [← hzs]; exact zeroCells_one z m hzs
  have grown : ∀ (old : Nat), old < n + k → ∀ (row : Option Nat),
      (w.drew.alloc (.cells (xs.toArray ++ (List.replicate k z).toArray ++ (List.replicate (grownCap w (n + k) old e - (n + k)) z).toArray) e)).ownsRow base e 1
        (.slice (some ⟨w.heap.size, 0, none⟩) (n + k) (grownCap w (n + k) old e)) (n + k) (xs ++ List.replicate k z) ∧
      w.grownBy (w.drew.alloc (.cells (xs.toArray ++ (List.replicate k z).toArray ++ (List.replicate (grownCap w (n + k) old e - (n + k)) z).toArray) e)) row := by
    intro old ho row
    have hge := grownCap_ge w (n + k) old e
    have hcm : grownCap w (n + k) old e ≤ maxLen := grownCap_le_maxLen w (n + k) old e h63
    have hx1 := hown.1
    refine ⟨⟨hlen, .inr ⟨w.heap.size, _, _, rfl, hbase, heap_alloc_new w.drew _, hge, hcm, ?_, ?_⟩⟩, ⟨rfl, rfl, rfl, by simp, fun j hj _ => Below.heap_alloc w.drew _ j hj⟩⟩
    · simp; omega
    · simp only [Array.toList_append, List.append_assoc]
      rw [← List.append_assoc, ← hlen]
      exact List.take_left
  rcases hown.2 with ⟨rfl, rfl⟩ | ⟨g, cap, cur, rfl, hbg, hg, hnc, hcm, hcs, htake⟩
  · have hx : xs = [] := List.eq_nil_of_length_eq_zero (by simpa using hown.1)
    subst hx
    have hgr := grown 0 (by omega) (Value.ownBlock (.slice none 0 0))
    have hfit : ¬ (281474976710656 < Builtin.nextslicecap k 0 * i.bytes) := by rw [nextslicecap_zero hk]; simp only [Nat.zero_add] at hbytes; omega
    have h63n : ¬ (9223372036854775807 < (k : Int)) := by omega
    simp only [Nat.zero_add] at hgr ⊢
    refine ⟨_, _, ?_, hgr.1, hgr.2⟩
    simp [Builtin.append_, run_underlying ht, run_underlying htn, sizeOf, typeInfo, zeroValue, hi, hz, hsize, hzs, hzc, asInt, asIntOf, hw, hneg, hk0, h63n, hfit, h48i, Question.forced, run_firstCells_none, newRow, grownCap]
  · by_cases hroom : n + k ≤ cap
    · have hst := run_storeCells_at P g (n * 1) e (List.replicate k z) 0 cur w hg (by simp; omega) (fun v hv => by rw [List.eq_of_mem_replicate hv]; exact h1)
      simp only [Nat.add_zero, Nat.mul_one] at hst
      have hxl : xs.length = n := by simpa using hown.1
      refine ⟨.slice (some ⟨g, 0, none⟩) (n + k) cap, _, ?_, ⟨hlen, .inr ⟨g, cap, _, rfl, hbg, setRow_heap w g cur (cur.toList.take n ++ List.replicate k z ++ cur.toList.drop (n + (List.replicate k z).length)).toArray e _ hg, hroom, hcm, ?_, ?_⟩⟩, ⟨rfl, rfl, rfl, by simp, fun k _ hk => setRow_other w g k _ (fun e => hk (by simp [Value.ownBlock, e]))⟩⟩
      · simp [Builtin.append_, run_underlying ht, run_underlying htn, sizeOf, typeInfo, zeroValue, hi, hz, hsize, hzs, hzc, asInt, asIntOf, hw, hneg, hk0, h48i, hroom, Addr.add_lit]
        simpa using congrArg (fun r => r.andThen fun _ w => Result.ok (Value.slice (some ⟨g, 0, none⟩) (n + k) cap) w) hst
      · simp; omega
      · have ht' : cur.toList.take n = xs := by simpa using htake
        rw [ht', ← hlen]
        exact List.take_left
    · have holds : ∀ j u, xs[j]? = some u → w.cell? ((⟨g, 0, none⟩ : Addr).add j) = some u := hown.cells (g := g) rfl
      have hgr := grown cap (by omega) (Value.ownBlock (.slice (some ⟨g, 0, none⟩) n cap))
      have hfit := growslice_fits (need := n + k) (old := cap) (by omega) hbytes
      have hfit' : ¬ (281474976710656 < Builtin.nextslicecap (n + k) cap * i.bytes) := by omega
      have hfo := run_firstCells_some (P := P) w.drew 1 n ⟨g, 0, none⟩ n cap xs hown.1 (by simpa using holds)
      refine ⟨_, _, ?_, hgr.1, hgr.2⟩
      simp [Builtin.append_, run_underlying ht, run_underlying htn, sizeOf, typeInfo, zeroValue, hi, hz, hsize, hzs, hzc, asInt, asIntOf, hw, hneg, hk0, hroom, h63', hfit', h48i, Question.forced, hfo, newRow, grownCap]
theorem app_none {P : Program} (w : World) (t tn ty e : TypeId) (i : TypeInfo) (kq kn : IntKind) (ht : P.underlying t = some (.slice e)) (htn : P.underlying tn = some (.int kn)) (hi : P.info? e = some i) (base : Option Addr) (n cap : Nat) (hle : n ≤ cap) :
    (Builtin.append_ #[t, tn] ty #[.slice base n cap, .int kq 0]).run P w = .ok (.slice base n cap) w := by
  have hw : IntKind.i64.wrap 0 = 0 := by rw [IntKind.wrap_i64]; decide
  cases base <;> simp [Builtin.append_, run_underlying ht, run_underlying htn, sizeOf, typeInfo, hi, Builtin.lenOf, hle, asInt, asIntOf, hw, storeCells, Builtin.zeroCells]
theorem app_zero {B : Nat} {w : World} {v : Value} {l : List Int} {n k n' : Nat} (h : Mine 3 1 B w v n (intsC l)) (hn : l.length = n) (hn' : n' = n + k) (hB : B ≤ w.heap.size) (hbig : n' ≤ 100000) :
    ∃ ao' cap' w', (Builtin.append_ #[38, 3] 38 #[v, .int .i64 k]).run Tryd.prog w = .ok (.slice ao' n' cap') w' ∧ Mine 3 1 B w' (.slice ao' n' cap') n' (intsC (l ++ List.replicate k 0)) ∧ w.grownBy w' v.ownBlock ∧ n' ≤ cap' ∧ cap' ≤ maxLen := by
  obtain ⟨i, hi, hz, hs, hby⟩ := info_in
  subst hn hn'
  have hrep : intsC (l ++ List.replicate k 0) = intsC l ++ List.replicate k (Value.int .i64 0) := by simp [intsC]
  have hv : ∃ ao cap, v = .slice ao l.length cap ∧ l.length ≤ cap ∧ cap ≤ maxLen := by
    rcases h.own.2 with ⟨h1, h2⟩ | ⟨g, cap, cur, h1, _, _, h2, h3, _⟩
    · rw [h2]; exact ⟨none, 0, h1, Nat.le_refl _, Nat.zero_le _⟩
    · exact ⟨_, cap, h1, h2, h3⟩
  obtain ⟨ao, cap, rfl, hc1, hc2⟩ := hv
  rcases Nat.eq_zero_or_pos k with rfl | hk
  · refine ⟨ao, cap, w, app_none (P := Tryd.prog) w 38 3 38 3 i .i64 .i64 (by kernel_rfl) (by kernel_rfl) hi ao l.length cap hc1, by simpa using h, ⟨rfl, rfl, rfl, Nat.le_refl _, fun _ _ _ => rfl⟩, hc1, hc2⟩
  · have hown : w.ownsRow B 3 1 (.slice ao l.length cap) l.length (intsC l) := ⟨h.own.1, h.own.2.imp id fun ⟨g, cap, cur, a, b, c, d⟩ => ⟨g, cap, cur, a, h.new g (by rw [a]; rfl), c, d⟩⟩
    obtain ⟨v', w', hr, h2, h3⟩ := run_append_own_zeros (P := Tryd.prog) w B 38 3 38 3 i _ 8 .i64 .i64 (by kernel_rfl) (by kernel_rfl) hi hz hs hby rfl rfl _ l.length _ hown k hk (by simp only [maxLen]; omega) (by omega) hB
    rcases h2.2 with ⟨rfl, h0⟩ | ⟨g', cap', cur', rfl, hge, q1, q2, q3, q4⟩
    · omega
    · exact ⟨_, cap', w', hr, ⟨⟨by rw [hrep]; exact h2.1, .inr ⟨g', cap', cur', rfl, Nat.zero_le _, q1, q2, q3, by rw [hrep]; exact q4⟩⟩, fun b hb => by simp [Value.ownBlock] at hb; subst hb; exact hge⟩, h3, q2, q3⟩
theorem Below.grownOn {B : Nat} {w0 w w' : World} {row : Option Nat} (h : Below B w0 w) (hk : w.grownBy w' row) (hR : ∀ b, row = some b → B ≤ b) (hB : B ≤ w.heap.size) : Below B w0 w' :=
  ⟨hk.os.trans h.os, hk.tape.trans h.tape, hk.output.trans h.output, Nat.le_trans h.size hk.size, fun k hl => (hk.block k (Nat.lt_of_lt_of_le hl hB) (fun e => by have := hR k e.symm; omega)).trans (h.block k hl)⟩
theorem wp_append_run2 {P : Program} {o : Oper} {a : Act} {w w' : World} {K : Act → World → Prop} {Q : Exit → Act → World → Prop} {v x v' : Value} {t u : TypeId} (hr : (Builtin.append_ #[t, u] o.type #[v, x]).run P w = .ok v' w') (so xo : Operand) (ho : o.op = .call { callee := .builtin .append, args := #[so, xo], argTypes := #[t, u] }) (hs : a.eval so = v) (hx : a.eval xo = x) (h : K (a.put o.dst v') w') : Oper.wp P o a w K Q := by
  unfold Oper.wp execOp
  simp only [ho, resolve, invoke, builtin, Sem.run_bind, Sem.run_pure, Result.andThen_ok, List.map_toArray, List.map_cons, List.map_nil, hs, hx, hr]
  exact h
end Go.Proofs.YtiimnnancblbkaaDoor
