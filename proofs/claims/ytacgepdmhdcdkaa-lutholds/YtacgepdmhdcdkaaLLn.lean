/-
  MEMORY: what lay works on: a packer's ways, the net that grows, the map of what is laid.
  CONTRACTS of lay's closures: ahead, look. (Written by mkllk.py.)
  MEMORY: a table that lay makes, while those that it looks at are laid.
-/
import Derived.Test.YtacgepdmhdcdkaaLNa
import Derived.Maps.RangeWalk
import Derived.Maps.OwnSet
import Derived.Maps.Ext
set_option linter.unusedSimpArgs false
set_option linter.unusedVariables false
namespace Go.Proofs.Ytacgepdmhdcdkaa
open Go.RowKit Go.Maps

theorem lawM : Keyed Try.prog 3 := int_keyed Try.underlying3
/-- the key of what is laid -/
def keyM (c : Nat) : Int := if c < 2 then -1 - (c : Int) else (c : Int) - 2
theorem keyM_inj {c d : Nat} (h : keyM c = keyM d) : c = d := by
  unfold keyM at h
  split at h <;> split at h <;> omega
structure MpD (M : List (Nat × Nat)) (D : DataW Unit) : Prop where
  has : ∀ c, Maps.has D (.int .i64 (keyM c)) = (findM M c).isSome
  at' : ∀ c s, findM M c = some s → ∀ z, D.atKey (.int .i64 (keyM c)) z = .lit (.int .i64 (s : Int))
theorem MpD.empty : MpD [] (.map []) := ⟨fun c => rfl, fun c s h => by cases h⟩
theorem MpD.put {M : List (Nat × Nat)} {D : DataW Unit} (h : MpD M D) (hm : IsMap D) (c s : Nat) (hc : findM M c = none) : MpD (M ++ [(c, s)]) (D.put (.int .i64 (keyM c)) (.lit (.int .i64 (s : Int)))) := by
  have hkl : WideAt.IsKeyLit (.int .i64 (keyM c)) := trivial
  refine ⟨fun d => ?_, fun d r hd z => ?_⟩
  · rw [findM_app M c d s hc]
    by_cases e : d = c
    · subst e; rw [has_put_same hm hkl, if_pos rfl]; rfl
    · have hne : (Lit.int .i64 (keyM d)) ≠ .int .i64 (keyM c) := fun h => by injection h with h1 h2; exact e (keyM_inj h2)
      rw [has_put_other hne, if_neg e]; exact h.has d
  · rw [findM_app M c d s hc] at hd
    by_cases e : d = c
    · subst e
      rw [if_pos rfl] at hd
      cases hd
      exact atKey_put_same hm hkl _ _
    · have hne : (Lit.int .i64 (keyM d)) ≠ .int .i64 (keyM c) := fun h => by injection h with h1 h2; exact e (keyM_inj h2)
      rw [if_neg e] at hd
      rw [atKey_put_other hne]; exact h.at' d r hd z

theorem plainElem_int_invM {P : Program} {e : TypeId} (he : P.underlying e = some (.int .i64)) {v : Value} {z : DataW Unit × List MemPlace} (h : plainElem P e v = some z) : ∃ b, v = .int .i64 b ∧ z = (.lit (.int .i64 b), []) := by
  unfold plainElem at h
  rw [he] at h
  cases v <;> simp at h
  rename_i k b
  obtain ⟨⟨rfl, h1⟩, h2⟩ := h
  exact ⟨_, rfl, h2.symm⟩
theorem zeroM (w : World) : (zeroValue 3).run Try.prog w = .ok (.int .i64 0) w := by kernel_rfl
theorem wf_keyM {c : Nat} (h : c ≤ 1000000) : (Lit.int .i64 (keyM c)).wf = true := WalkArith.wf_i64 (by unfold keyM; split <;> omega)
theorem wf_natM {k : Nat} (h : k ≤ 1000000) : (Lit.int .i64 (k : Int)).wf = true := WalkArith.wf_i64 (by omega)
abbrev MapI (w : World) (b n : Nat) (D : DataW Unit) : Prop := w.ownsMap Try.prog 3 (plainElem Try.prog 3) b n D
/-- 'v, ok := m[k]' -/
theorem MpD.look {M : List (Nat × Nat)} {D : DataW Unit} {w : World} {b n : Nat} (h : MpD M D) (hown : MapI w b n D) (c : Nat) (h6 : c ≤ 1000000) :
    ∃ v, (Instr.lookup 78 (.map (some b)) (.int .i64 (keyM c)) true).run Try.prog w = .ok (.tuple #[v, .bool (findM M c).isSome]) w := by
  obtain ⟨v, ps, hrun, _⟩ := hown.look_ok lawM Try.underlying78 (zeroM w) (plainElem_int Try.underlying3 (wf_natM (k := 0) (by omega))) (keyOf_int_mk Try.underlying3 (wf_keyM h6))
  rw [h.has] at hrun
  exact ⟨v, hrun⟩
/-- 'm[k]', of what is there -/
theorem MpD.get {M : List (Nat × Nat)} {D : DataW Unit} {w : World} {b n : Nat} (h : MpD M D) (hown : MapI w b n D) (c s : Nat) (h6 : c ≤ 1000000) (hf : findM M c = some s) :
    (Instr.lookup 78 (.map (some b)) (.int .i64 (keyM c)) false).run Try.prog w = .ok (.int .i64 (s : Int)) w := by
  obtain ⟨v, ps, hrun, hv⟩ := hown.lookup lawM Try.underlying78 (zeroM w) (plainElem_int Try.underlying3 (wf_natM (k := 0) (by omega))) (keyOf_int_mk Try.underlying3 (wf_keyM h6))
  obtain ⟨x, rfl, hb⟩ := plainElem_int_invM Try.underlying3 hv
  rw [h.at' c s hf] at hb
  simp only [Prod.mk.injEq, DataW.lit.injEq, Lit.int.injEq] at hb
  rw [hb.1.2]; exact hrun

/-- the environment of lay's closures: E is the first of their seven blocks -/
structure LEnv (E P first n : Nat) (wa : Option Addr) (wc : Nat) (X : Nat → List Wy) (SA : Nat → Option Addr) (SC : Nat → Nat) (W : World) : Prop where
  hP : P < E
  p0 : W.cell? ⟨P, 0, none⟩ = some (.int .i64 first)
  p2 : W.cell? ⟨P, 2, none⟩ = some (.slice wa n wc)
  row : Lies (fun b => b < E) W wa (rowsC X SA SC n)
  each : ∀ j, j < n → Lies (fun b => b < E) W (SA j) (wyC (X j)) ∧ ∀ x ∈ X j, Lies (fun b => b < E) W x.a (intsC x.l.ins)
  pb : W.heap[E]? = some (.cells #[.pointer (some ⟨P, 0, none⟩)] 65 (0, 0))
  nb : W.heap[E + 3]? = some (.cells #[.pointer (some ⟨E + 1, 0, none⟩)] 35 (0, 0))
  mb : W.heap[E + 4]? = some (.cells #[.map (some (E + 2))] 78 (0, 0))
  lk : W.heap[E + 5]? = some (.cells #[.func (.func 36) #[] #[.pointer (some ⟨E, 0, none⟩), .pointer (some ⟨E + 6, 0, none⟩), .pointer (some ⟨E + 4, 0, none⟩), .pointer (some ⟨E + 3, 0, none⟩)]] 79 (0, 0))
  ah : W.heap[E + 6]? = some (.cells #[.func (.func 35) #[] #[.pointer (some ⟨E, 0, none⟩), .pointer (some ⟨E + 5, 0, none⟩)]] 79 (0, 0))
/-- what look turns: the net, the map, the row of tables -/
abbrev LTurns (E : Nat) (v : Value) (b : Nat) : Prop := b = E + 1 ∨ b = E + 2 ∨ v.ownBlock = some b
abbrev KL (E : Nat) (v : Value) := KeptQ (LTurns E v)
theorem cell_same {w w' : World} {a : Addr} {v : Value} (hc : w.cell? a = some v) (h : w'.heap[a.block]? = w.heap[a.block]?) : w'.cell? a = some v := (World.cell?_of_block h).trans hc
theorem LEnv.keep {E P first n : Nat} {wa : Option Addr} {wc : Nat} {X : Nat → List Wy} {SA : Nat → Option Addr} {SC : Nat → Nat} {W W' : World} (h : LEnv E P first n wa wc X SA SC W) (hk : ∀ b, b < E + 7 → b ≠ E + 1 → b ≠ E + 2 → W'.heap[b]? = W.heap[b]?) : LEnv E P first n wa wc X SA SC W' := by
  have hs : ∀ b, b < E → b < W.heap.size → W'.heap[b]? = W.heap[b]? := fun b hb _ => hk b (by omega) (by omega) (by omega)
  have hP := h.hP
  exact ⟨h.hP, cell_same h.p0 (hk P (by omega) (by omega) (by omega)), cell_same h.p2 (hk P (by omega) (by omega) (by omega)), h.row.same hs, fun j hj => ⟨(h.each j hj).1.same hs, fun x hx => ((h.each j hj).2 x hx).same hs⟩,
    (hk _ (by omega) (by omega) (by omega)).trans h.pb, (hk _ (by omega) (by omega) (by omega)).trans h.nb, (hk _ (by omega) (by omega) (by omega)).trans h.mb, (hk _ (by omega) (by omega) (by omega)).trans h.lk, (hk _ (by omega) (by omega) (by omega)).trans h.ah⟩
theorem LEnv.size {E P first n : Nat} {wa : Option Addr} {wc : Nat} {X : Nat → List Wy} {SA : Nat → Option Addr} {SC : Nat → Nat} {W : World} (h : LEnv E P first n wa wc X SA SC W) : E + 7 ≤ W.heap.size := blk_lt h.ah
theorem LEnv.below {E P first n : Nat} {wa : Option Addr} {wc : Nat} {X : Nat → List Wy} {SA : Nat → Option Addr} {SC : Nat → Nat} {W W' : World} (h : LEnv E P first n wa wc X SA SC W) (hb : Below W.heap.size W W') : LEnv E P first n wa wc X SA SC W' :=
  h.keep fun b hl _ _ => hb.block b (Nat.lt_of_lt_of_le hl h.size)
theorem LEnv.kl {E P first n : Nat} {wa : Option Addr} {wc : Nat} {X : Nat → List Wy} {SA : Nat → Option Addr} {SC : Nat → Nat} {W W' : World} {v : Value} (h : LEnv E P first n wa wc X SA SC W) (hk : KL E v W W') (hv : ∀ b, v.ownBlock = some b → E + 7 ≤ b) : LEnv E P first n wa wc X SA SC W' :=
  h.keep fun b hl h1 h2 => hk.block b (Nat.lt_of_lt_of_le hl h.size) fun e => by
    rcases e with e | e | e
    · exact h1 e
    · exact h2 e
    · have := hv b e; omega

/-- the rest of the net that grows -/
structure NV where
  gv : Int
  ra : Option Addr
  rn : Nat
  rc : Nat
  oa : Option Addr
  on : Nat
  oc : Nat
structure LayM (E : Nat) (nv : NV) (W : World) (st : LSt) (la : Option Addr) (lc : Nat) (ys : List Wy) (D : DataW Unit) : Prop where
  nt : W.heap[E + 1]? = some (.cells #[.int .i64 nv.gv, .slice nv.ra nv.rn nv.rc, .slice la st.L.length lc, .slice nv.oa nv.on nv.oc] 26 (0, 0))
  ls : ys.map (·.l) = st.L
  row : Mine 44 2 (E + 7) W (.slice la st.L.length lc) st.L.length (wyC ys)
  ins : ∀ y ∈ ys, Lies (fun b => E + 7 ≤ b ∧ (Value.slice la st.L.length lc).ownBlock ≠ some b) W y.a (intsC y.l.ins)
  map : MapI W (E + 2) st.M.length D
  mp : MpD st.M D
theorem LayM.same {E : Nat} {nv : NV} {W W' : World} {st : LSt} {la : Option Addr} {lc : Nat} {ys : List Wy} {D : DataW Unit} (h : LayM E nv W st la lc ys D) (hg : W'.os = W.os) (hb : ∀ b, b < W.heap.size → E + 1 ≤ b → b = E + 1 ∨ b = E + 2 ∨ E + 7 ≤ b → W'.heap[b]? = W.heap[b]?) (hm : MapI W' (E + 2) st.M.length D) : LayM E nv W' st la lc ys D :=
  ⟨(hb _ (blk_lt h.nt) (by omega) (by omega)).trans h.nt, h.ls, h.row.same fun b hb2 hl => hb b hl (by have := h.row.new b hb2; omega) (by have := h.row.new b hb2; omega), fun y hy => (h.ins y hy).same fun b hb2 hl => hb b hl (by omega) (.inr (.inr hb2.1)), hm, h.mp⟩
theorem MapI.below {w w' : World} {b n : Nat} {D : DataW Unit} (h : MapI w b n D) (hb : Below w.heap.size w w') : MapI w' b n D :=
  World.ownsMap.kept h (row := none) ⟨hb.os, hb.tape, hb.output, hb.size, fun k hk _ => hb.block k hk⟩ (by simp)
theorem LayM.below {E : Nat} {nv : NV} {W W' : World} {st : LSt} {la : Option Addr} {lc : Nat} {ys : List Wy} {D : DataW Unit} (h : LayM E nv W st la lc ys D) (hb : Below W.heap.size W W') : LayM E nv W' st la lc ys D :=
  h.same hb.os (fun b hl _ _ => hb.block b hl) (h.map.below hb)
/-- what look answers, and leaves -/
def LookD (E : Nat) (nv : NV) (la : Option Addr) (n0 lc : Nat) (ys : List Wy) (r : Nat × LSt) (w : World) (e : Ending) (w' : World) : Prop :=
  ∃ la' lc' ys' D', e = .returned (.int .i64 (r.1 : Int)) ∧ LayM E nv w' r.2 la' lc' ys' D' ∧ KL E (.slice la n0 lc) w w' ∧ (∀ b, (Value.slice la' r.2.L.length lc').ownBlock = some b → (Value.slice la n0 lc).ownBlock = some b ∨ w.heap.size ≤ b) ∧
    ∀ c, c < w.heap.size → (∀ y ∈ ys, Lies (fun k => k ≠ c) w y.a (intsC y.l.ins)) → ∀ y ∈ ys', Lies (fun k => k ≠ c) w' y.a (intsC y.l.ins)
/-- behind new memory alone -/
theorem LookD.behind {E : Nat} {nv : NV} {la : Option Addr} {n0 lc : Nat} {ys : List Wy} {r : Nat × LSt} {w0 w w' : World} {e : Ending} (h : LookD E nv la n0 lc ys r w e w') (hb : Below w0.heap.size w0 w) : LookD E nv la n0 lc ys r w0 e w' := by
  obtain ⟨la', lc', ys', D', h1, h2, h3, h4, h5⟩ := h
  exact ⟨la', lc', ys', D', h1, h2, (KeptQ.of hb).trans h3, fun b hb2 => (h4 b hb2).imp id (Nat.le_trans hb.size), fun c hc hy => h5 c (Nat.lt_of_lt_of_le hc hb.size) fun y hm => (hy y hm).below hb⟩
end Go.Proofs.Ytacgepdmhdcdkaa
set_option linter.unusedSimpArgs false
set_option linter.unusedVariables false
namespace Go.Proofs.Ytacgepdmhdcdkaa
open Go.RowKit Go.Maps

set_option maxRecDepth 100000 in
set_option maxHeartbeats 3200000 in
theorem ahead_low {E P first n : Nat} {wa : Option Addr} {wc : Nat} {X : Nat → List Wy} {SA : Nat → Option Addr} {SC : Nat → Nat} {W : World} (h : LEnv E P first n wa wc X SA SC W) (s : Nat) (hs : s < first) :
    Calls Try.prog 35 #[.int .i64 s, .pointer (some ⟨E, 0, none⟩), .pointer (some ⟨E + 5, 0, none⟩)] W fun e w' => e = .returned (.int .i64 s) ∧ Below W.heap.size W w' := by
  have c0 : W.cell? ⟨E, 0, none⟩ = some (.pointer (some ⟨P, 0, none⟩)) := by rw [blk_cell h.pb]; rfl
  have c1 := h.p0
  have hsi : (s : Int) < (first : Int) := by omega
  clear h
  go_enter Try.func35, Try.ntmps35
  go_wp2_with fail
  go_ret
  exact ⟨rfl, Below.refl _ _⟩

set_option maxRecDepth 100000 in
set_option maxHeartbeats 3200000 in
theorem ahead_high {E P first n : Nat} {wa : Option Addr} {wc : Nat} {X : Nat → List Wy} {SA : Nat → Option Addr} {SC : Nat → Nat} {nv : NV} {W : World} {st : LSt} {la : Option Addr} {lc : Nat} {ys : List Wy} {D : DataW Unit} {r : Nat × LSt} (h : LEnv E P first n wa wc X SA SC W) (hl : LayM E nv W st la lc ys D) (s q : Nat) (hs : s = first + q) (hb : s ≤ 1000000)
    (HL : Hid (∀ W' : World, Below W.heap.size W W' → Calls Try.prog 36 #[.int .i64 q, .pointer (some ⟨E, 0, none⟩), .pointer (some ⟨E + 6, 0, none⟩), .pointer (some ⟨E + 4, 0, none⟩), .pointer (some ⟨E + 3, 0, none⟩)] W' fun e w' => LookD E nv la st.L.length lc ys r W' e w')) :
    Calls Try.prog 35 #[.int .i64 s, .pointer (some ⟨E, 0, none⟩), .pointer (some ⟨E + 5, 0, none⟩)] W fun e w' => LookD E nv la st.L.length lc ys r W e w' := by
  have HH := hide h
  have HLM := hide hl
  have c0 : W.cell? ⟨E, 0, none⟩ = some (.pointer (some ⟨P, 0, none⟩)) := by rw [blk_cell h.pb]; rfl
  have c1 := h.p0
  have hsi : ¬ (s : Int) < (first : Int) := by omega
  have hsq : (s : Int) - (first : Int) = (q : Int) := by omega
  have hwq : IntKind.i64.wrap (q : Int) = (q : Int) := IntWalk.i64_in _ (by omega)
  have HSW : Hid (∀ W', LEnv E P first n wa wc X SA SC W' → W'.cell? ⟨E + 5, 0, none⟩ = some (.func (.func 36) #[] #[.pointer (some ⟨E, 0, none⟩), .pointer (some ⟨E + 6, 0, none⟩), .pointer (some ⟨E + 4, 0, none⟩), .pointer (some ⟨E + 3, 0, none⟩)]) ∧ W'.cell? ⟨E, 0, none⟩ = some (.pointer (some ⟨P, 0, none⟩)) ∧ W'.cell? ⟨P, 0, none⟩ = some (.int .i64 first)) := hide fun W' hW => ⟨by rw [blk_cell hW.lk]; rfl, by rw [blk_cell hW.pb]; rfl, hW.p0⟩
  clear h hl hs
  go_enter Try.func35, Try.ntmps35
  go_wp2_with fail
  clear c0 c1 hsi
  have HW0 := hide (HH.out.below (Below.refl _ _).drew)
  have HWB : Hid (Below W.heap.size W W.drew) := hide (Below.refl _ _).drew
  refine wp_region_held_drew (S := fun W => W.cell? ⟨E + 5, 0, none⟩ = some (.func (.func 36) #[] #[.pointer (some ⟨E, 0, none⟩), .pointer (some ⟨E + 6, 0, none⟩), .pointer (some ⟨E + 4, 0, none⟩), .pointer (some ⟨E + 3, 0, none⟩)]) ∧ W.cell? ⟨E, 0, none⟩ = some (.pointer (some ⟨P, 0, none⟩)) ∧ W.cell? ⟨P, 0, none⟩ = some (.int .i64 first)) (by kernel_rfl) (HSW.out _ HW0.out) (fun _ => ?_)
  generalize W.drew = W0 at *
  refine wpAnyH_take (i := 0) (oi := ⟨some 12, _, _, _, _, _⟩) (v := (.func (.func 36) #[] #[.pointer (some ⟨E, 0, none⟩), .pointer (some ⟨E + 6, 0, none⟩), .pointer (some ⟨E + 4, 0, none⟩), .pointer (some ⟨E + 3, 0, none⟩)])) rfl (by kernel_rfl) (by kernel_rfl) (by kernel_rfl) (fun _ _ _ h => h) (Or.inl ⟨by rfl, fun W hS => by (obtain ⟨s0, s1, s2⟩ := hS; go_simp)⟩) (HSW.out _ HW0.out) ?_
  simp only [Act.put, List.setIfInBounds_toArray, List.set_cons_zero, List.set_cons_succ]
  refine wpAnyH_take (i := 1) (oi := ⟨some 13, _, _, _, _, _⟩) (v := (.int .i64 s)) rfl (by kernel_rfl) (by kernel_rfl) (by kernel_rfl) (fun _ _ _ h => h) (Or.inl ⟨by rfl, fun W hS => by (obtain ⟨s0, s1, s2⟩ := hS; go_simp)⟩) (HSW.out _ HW0.out) ?_
  simp only [Act.put, List.setIfInBounds_toArray, List.set_cons_zero, List.set_cons_succ]
  refine wpAnyH_take (i := 2) (oi := ⟨some 14, _, _, _, _, _⟩) (v := (.pointer (some ⟨P, 0, none⟩))) rfl (by kernel_rfl) (by kernel_rfl) (by kernel_rfl) (fun _ _ _ h => h) (Or.inl ⟨by rfl, fun W hS => by (obtain ⟨s0, s1, s2⟩ := hS; go_simp)⟩) (HSW.out _ HW0.out) ?_
  simp only [Act.put, List.setIfInBounds_toArray, List.set_cons_zero, List.set_cons_succ]
  refine wpAnyH_take (i := 3) (oi := ⟨some 15, _, _, _, _, _⟩) (v := (.pointer (some ⟨P, 0, none⟩))) rfl (by kernel_rfl) (by kernel_rfl) (by kernel_rfl) (fun _ _ _ h => h) (Or.inl ⟨by rfl, fun W hS => by (obtain ⟨s0, s1, s2⟩ := hS; go_simp)⟩) (HSW.out _ HW0.out) ?_
  simp only [Act.put, List.setIfInBounds_toArray, List.set_cons_zero, List.set_cons_succ]
  refine wpAnyH_take (i := 4) (oi := ⟨some 16, _, _, _, _, _⟩) (v := (.pointer (some ⟨P, 0, none⟩))) rfl (by kernel_rfl) (by kernel_rfl) (by kernel_rfl) (fun _ _ _ h => h) (Or.inl ⟨by rfl, fun W hS => by (obtain ⟨s0, s1, s2⟩ := hS; go_simp)⟩) (HSW.out _ HW0.out) ?_
  simp only [Act.put, List.setIfInBounds_toArray, List.set_cons_zero, List.set_cons_succ]
  refine wpAnyH_take (i := 5) (oi := ⟨some 17, _, _, _, _, _⟩) (v := (.int .i64 first)) rfl (by kernel_rfl) (by kernel_rfl) (by kernel_rfl) (fun _ _ _ h => h) (Or.inl ⟨by rfl, fun W hS => by (obtain ⟨s0, s1, s2⟩ := hS; go_simp)⟩) (HSW.out _ HW0.out) ?_
  simp only [Act.put, List.setIfInBounds_toArray, List.set_cons_zero, List.set_cons_succ]
  refine wpAnyH_take (i := 6) (oi := ⟨some 18, _, _, _, _, _⟩) (v := (.int .i64 q)) rfl (by kernel_rfl) (by kernel_rfl) (by kernel_rfl) (fun _ _ _ h => h) (Or.inl ⟨by rfl, fun W hS => by (obtain ⟨s0, s1, s2⟩ := hS; go_simp)⟩) (HSW.out _ HW0.out) ?_
  simp only [Act.put, List.setIfInBounds_toArray, List.set_cons_zero, List.set_cons_succ]
  refine wpAnyH_ready (rs := [7]) (by kernel_rfl) (by simp) ?_
  refine AllReadyH.cons rfl (fun K hK => ?_) AllReadyH.nil
  go_simp
  refine (HL.out _ HWB.out).mono ?_
  intro e w2 hd
  have HD := hide (hd.behind HWB.out)
  obtain ⟨la', lc', ys', D', rfl, hlm, hkl, hown⟩ := hd
  have HE2 := hide (HW0.out.kl hkl fun b hb => HLM.out.row.new b hb)
  clear hlm hkl hown HL
  refine hK.out _ _ (HSW.out _ HE2.out) (fun _ => ?_)
  clear hK K
  refine wpAnyH_ready (rs := [8]) (by kernel_rfl) (by simp) ?_
  refine AllReadyH.cons rfl (fun K hK => ?_) AllReadyH.nil
  go_simp
  refine hK.out _ _ (HSW.out _ HE2.out) (fun _ => ?_)
  clear hK K
  refine wpAnyH_done (by kernel_rfl) ?_ _
  go_wp2_with fail
  go_ret
  exact HD.out

theorem aheadF_low {W : Nat → List Lt} {first f s : Nat} {st : LSt} (h : s < first) : aheadF W first f s st = (s, st) := if_pos h
theorem aheadF_high {W : Nat → List Lt} {first f s : Nat} {st : LSt} (h : ¬ s < first) : aheadF W first f s st = lookF W first f (s - first) st := if_neg h
theorem LookD.stay {E : Nat} {nv : NV} {W w' : World} {st : LSt} {la : Option Addr} {lc : Nat} {ys : List Wy} {D : DataW Unit} (hl : LayM E nv W st la lc ys D) (s : Nat) (hb : Below W.heap.size W w') : LookD E nv la st.L.length lc ys (s, st) W (.returned (.int .i64 (s : Int))) w' :=
  ⟨la, lc, ys, D, rfl, hl.below hb, KeptQ.of hb, fun b hb => .inl hb, fun c _ hy y hm => (hy y hm).below hb⟩
theorem ahead_at {E P first n : Nat} {wa : Option Addr} {wc : Nat} {X : Nat → List Wy} {SA : Nat → Option Addr} {SC : Nat → Nat} {nv : NV} {W : World} {st : LSt} {la : Option Addr} {lc : Nat} {ys : List Wy} {D : DataW Unit} {V : Nat → List Lt} {f : Nat} (h : LEnv E P first n wa wc X SA SC W) (hl : LayM E nv W st la lc ys D) (s : Nat) (hb : s ≤ 1000000)
    (HL : Hid (∀ q, s = first + q → ∀ W' : World, Below W.heap.size W W' → Calls Try.prog 36 #[.int .i64 q, .pointer (some ⟨E, 0, none⟩), .pointer (some ⟨E + 6, 0, none⟩), .pointer (some ⟨E + 4, 0, none⟩), .pointer (some ⟨E + 3, 0, none⟩)] W' fun e w' => LookD E nv la st.L.length lc ys (lookF V first f q st) W' e w')) :
    Calls Try.prog 35 #[.int .i64 s, .pointer (some ⟨E, 0, none⟩), .pointer (some ⟨E + 5, 0, none⟩)] W fun e w' => LookD E nv la st.L.length lc ys (aheadF V first f s st) W e w' := by
  by_cases hs : s < first
  · rw [aheadF_low hs]
    refine (ahead_low h s hs).mono ?_
    rintro e w' ⟨rfl, hb⟩
    exact LookD.stay hl s hb
  · rw [aheadF_high hs]
    exact ahead_high h hl s (s - first) (by omega) hb (hide (HL.out (s - first) (by omega)))
/-- the first way of a node, where it lies -/
theorem LEnv.way {E P first n : Nat} {wa : Option Addr} {wc : Nat} {X : Nat → List Wy} {SA : Nat → Option Addr} {SC : Nat → Nat} {W : World} (h : LEnv E P first n wa wc X SA SC W) {node : Nat} (hn : node < n) {x : Wy} {xs : List Wy} (hX : X node = x :: xs) : ∃ wb woff b off, wa = some ⟨wb, woff, none⟩ ∧ SA node = some ⟨b, off, none⟩ ∧ wb < E ∧ b < E ∧ W.cell? ⟨wb, woff + node, none⟩ = some (.slice (some ⟨b, off, none⟩) (X node).length (SC node)) ∧ W.cell? ⟨b, off, none⟩ = some (.slice x.a x.l.ins.length x.c) ∧ W.cell? ⟨b, off + 1, none⟩ = some (.int .i64 x.l.table) := by
  rcases h.row with hl | ⟨wb, woff, h1, h2, h3⟩
  · have := congrArg List.length hl
    rw [rowsC_len] at this
    simp at this; omega
  · have hc := h3 node (.slice (SA node) (X node).length (SC node)) (by unfold rowsC; simp [hn])
    rcases (h.each node hn).1 with hl | ⟨b, off, g1, g2, g3⟩
    · rw [hX, wyC_cons] at hl; cases hl
    · refine ⟨wb, woff, b, off, h1, g1, h2, g2, by rw [← g1]; exact hc, ?_, ?_⟩
      · exact g3 0 _ (by rw [hX]; rfl)
      · exact g3 1 _ (by rw [hX]; rfl)

set_option maxRecDepth 100000 in
set_option maxHeartbeats 3200000 in
theorem look_was {E P first n : Nat} {wa : Option Addr} {wc : Nat} {X : Nat → List Wy} {SA : Nat → Option Addr} {SC : Nat → Nat} {nv : NV} {W : World} {st : LSt} {la : Option Addr} {lc : Nat} {ys : List Wy} {D : DataW Unit} (h : LEnv E P first n wa wc X SA SC W) (hl : LayM E nv W st la lc ys D) (node : Nat) (hn : node < n) (hn6 : n ≤ 100000) (x : Wy) (xs : List Wy) (hX : X node = x :: xs) (hsm : sameL x.l = false) (ht : 0 ≤ x.l.table ∧ (x.l.ins.length = 0 → x.l.table < 2)) (s : Nat) (hf : findM st.M (codeM x.l node) = some s) :
    Calls Try.prog 36 #[.int .i64 node, .pointer (some ⟨E, 0, none⟩), .pointer (some ⟨E + 6, 0, none⟩), .pointer (some ⟨E + 4, 0, none⟩), .pointer (some ⟨E + 3, 0, none⟩)] W fun e w' => LookD E nv la st.L.length lc ys (s, st) W e w' := by
  obtain ⟨wb, woff, xb, xoff, rfl, hsa, hwE, hxE, c2, c3, c4⟩ := h.way hn hX
  have c0 : W.cell? ⟨E, 0, none⟩ = some (.pointer (some ⟨P, 0, none⟩)) := by rw [blk_cell h.pb]; rfl
  have c1 := h.p2
  have hni : (node : Int) < (n : Int) := by omega
  have hx0 : 0 < (X node).length := by rw [hX]; simp
  have HB1 := hide (below_alloc W (.cells #[.slice x.a x.l.ins.length x.c, .int .i64 x.l.table] 44))
  have HE1 := hide (h.below HB1.out)
  have HL1 := hide (hl.below HB1.out)
  have HN1 := hide (blk_new W (.cells #[.slice x.a x.l.ins.length x.c, .int .i64 x.l.table] 44))
  have HS := hide (same_at x.l x.a x.c (W.alloc (.cells #[.slice x.a x.l.ins.length x.c, .int .i64 x.l.table] 44)))
  have HH := hide h
  have HLM := hide hl
  clear h hl
  go_enter Try.func36, Try.ntmps36
  go_wp2_with fail
  clear c0 c1 c2 c3 c4
  rw [hsm] at HS
  generalize W.alloc (.cells #[.slice x.a x.l.ins.length x.c, .int .i64 x.l.table] 44) = W1 at *
  refine HS.out.mono ?_
  rintro e W2 ⟨rfl, hb2⟩
  have HB2 := hide (Below.step HB1.out hb2)
  have HE2 := hide (HE1.out.below hb2)
  have HL2 := hide (HL1.out.below hb2)
  have HN2 := hide (Below.blk hb2 HN1.out)
  clear hb2 HE1 HL1 HN1 HB1 HS
  have y0 : W2.cell? ⟨W.heap.size, 0, none⟩ = some (.slice x.a x.l.ins.length x.c) := by rw [blk_cell HN2.out]; rfl
  have y1 : W2.cell? ⟨W.heap.size, 1, none⟩ = some (.int .i64 x.l.table) := by rw [blk_cell HN2.out]; rfl
  have mb : W2.cell? ⟨E + 4, 0, none⟩ = some (.map (some (E + 2))) := by rw [blk_cell HE2.out.mb]; rfl
  have HFIN := hide (LookD.stay HLM.out s HB2.out)
  have hc6 : codeM x.l node ≤ 1000000 := by unfold codeM; split <;> omega
  obtain ⟨v, hlk⟩ := HL2.out.mp.look HL2.out.map (codeM x.l node) hc6
  have hgt := HL2.out.mp.get HL2.out.map (codeM x.l node) s hc6 hf
  rw [hf] at hlk
  by_cases h0 : x.l.ins.length = 0
  · have hq : ((x.l.ins.length : Int) == 0) = true := by simp [h0]
    have hk : keyM (codeM x.l node) = -1 - x.l.table := by
      have := ht.2 h0
      unfold codeM keyM; rw [if_pos h0, if_pos (by omega)]; omega
    have hkw : IntKind.i64.wrap (-1 - x.l.table) = -1 - x.l.table := IntWalk.i64_in _ (by have := ht.2 h0; omega)
    rw [hk] at hlk hgt
    go_wp2_with fail
    go_ret
    exact HFIN.out
  · have hq : ((x.l.ins.length : Int) == 0) = false := beq_eq_false_iff_ne.2 (by omega)
    have hk : keyM (codeM x.l node) = (node : Int) := by
      unfold codeM keyM; rw [if_neg h0, if_neg (by omega)]; omega
    rw [hk] at hlk hgt
    go_wp2_with fail
    go_ret
    exact HFIN.out

set_option maxRecDepth 100000 in
set_option maxHeartbeats 3200000 in
theorem look_same {E P first n : Nat} {wa : Option Addr} {wc : Nat} {X : Nat → List Wy} {SA : Nat → Option Addr} {SC : Nat → Nat} {nv : NV} {W : World} {st : LSt} {la : Option Addr} {lc : Nat} {ys : List Wy} {D : DataW Unit} (h : LEnv E P first n wa wc X SA SC W) (hl : LayM E nv W st la lc ys D) (node : Nat) (hn : node < n) (hn6 : n ≤ 100000) (x : Wy) (xs : List Wy) (hX : X node = x :: xs) (hsm : sameL x.l = true) (q0 : Nat) (hq0 : x.l.ins = [(q0 : Int)]) (r : Nat × LSt)
    (HA : Hid (∀ W' : World, Below W.heap.size W W' → Calls Try.prog 35 #[.int .i64 q0, .pointer (some ⟨E, 0, none⟩), .pointer (some ⟨E + 5, 0, none⟩)] W' fun e w' => LookD E nv la st.L.length lc ys r W' e w')) :
    Calls Try.prog 36 #[.int .i64 node, .pointer (some ⟨E, 0, none⟩), .pointer (some ⟨E + 6, 0, none⟩), .pointer (some ⟨E + 4, 0, none⟩), .pointer (some ⟨E + 3, 0, none⟩)] W fun e w' => LookD E nv la st.L.length lc ys r W e w' := by
  have hil : 0 < x.l.ins.length := by rw [hq0]; simp
  obtain ⟨ib, ioff, hia, hib, hic⟩ : ∃ ib ioff, x.a = some ⟨ib, ioff, none⟩ ∧ ib < E ∧ W.cell? ⟨ib, ioff, none⟩ = some (.int .i64 (q0 : Int)) := by
    rcases (h.each node hn).2 x (by rw [hX]; exact List.mem_cons_self ..) with hz | ⟨ib, ioff, g1, g2, g3⟩
    · rw [hq0] at hz; cases hz
    · exact ⟨ib, ioff, g1, g2, g3 0 _ (by rw [hq0]; rfl)⟩
  have HEB := hide h.size
  have HSW : Hid (∀ W', LEnv E P first n wa wc X SA SC W' → W'.heap[W.heap.size]? = some (.cells #[.slice x.a x.l.ins.length x.c, .int .i64 x.l.table] 44 (0, 0)) → W'.cell? ⟨E + 6, 0, none⟩ = some (.func (.func 35) #[] #[.pointer (some ⟨E, 0, none⟩), .pointer (some ⟨E + 5, 0, none⟩)]) ∧ W'.cell? ⟨W.heap.size, 0, none⟩ = some (.slice (some ⟨ib, ioff, none⟩) x.l.ins.length x.c) ∧ W'.cell? ⟨ib, ioff, none⟩ = some (.int .i64 q0)) := hide fun W' hW hN => by
    refine ⟨by rw [blk_cell hW.ah]; rfl, by rw [blk_cell hN, hia]; rfl, ?_⟩
    rcases (hW.each node hn).2 x (by rw [hX]; exact List.mem_cons_self ..) with hz | ⟨jb, joff, g1, g2, g3⟩
    · rw [hq0] at hz; cases hz
    · rw [hia] at g1; cases g1
      exact g3 0 _ (by rw [hq0]; rfl)
  clear hia hib hic hq0
  obtain ⟨wb, woff, xb, xoff, rfl, hsa, hwE, hxE, c2, c3, c4⟩ := h.way hn hX
  have c0 : W.cell? ⟨E, 0, none⟩ = some (.pointer (some ⟨P, 0, none⟩)) := by rw [blk_cell h.pb]; rfl
  have c1 := h.p2
  have hni : (node : Int) < (n : Int) := by omega
  have hx0 : 0 < (X node).length := by rw [hX]; simp
  have HB1 := hide (below_alloc W (.cells #[.slice x.a x.l.ins.length x.c, .int .i64 x.l.table] 44))
  have HE1 := hide (h.below HB1.out)
  have HL1 := hide (hl.below HB1.out)
  have HN1 := hide (blk_new W (.cells #[.slice x.a x.l.ins.length x.c, .int .i64 x.l.table] 44))
  have HS := hide (same_at x.l x.a x.c (W.alloc (.cells #[.slice x.a x.l.ins.length x.c, .int .i64 x.l.table] 44)))
  have HH := hide h
  have HLM := hide hl
  clear h hl
  go_enter Try.func36, Try.ntmps36
  go_wp2_with fail
  clear c0 c1 c2 c3 c4
  rw [hsm] at HS
  generalize W.alloc (.cells #[.slice x.a x.l.ins.length x.c, .int .i64 x.l.table] 44) = W1 at *
  refine HS.out.mono ?_
  rintro e W2 ⟨rfl, hb2⟩
  have HB2 := hide (Below.step HB1.out hb2)
  have HE2 := hide (HE1.out.below hb2)
  have HL2 := hide (HL1.out.below hb2)
  have HN2 := hide (Below.blk hb2 HN1.out)
  clear hb2 HE1 HL1 HN1 HB1 HS
  have HE3 := hide (HE2.out.below (Below.refl _ _).drew)
  have HB3 := hide (Below.step HB2.out (Below.refl _ W2).drew)
  have HN3 := hide (Below.blk (Below.refl _ W2).drew HN2.out)
  have HL3 := hide (HL2.out.below (Below.refl _ _).drew)
  clear HB2 HE2 HL2 HN2
  go_wp2_with fail
  refine wp_region_held_drew (S := fun W' => W'.cell? ⟨E + 6, 0, none⟩ = some (.func (.func 35) #[] #[.pointer (some ⟨E, 0, none⟩), .pointer (some ⟨E + 5, 0, none⟩)]) ∧ W'.cell? ⟨W.heap.size, 0, none⟩ = some (.slice (some ⟨ib, ioff, none⟩) x.l.ins.length x.c) ∧ W'.cell? ⟨ib, ioff, none⟩ = some (.int .i64 q0)) (by kernel_rfl) (HSW.out _ HE3.out HN3.out) (fun _ => ?_)
  generalize W2.drew = W3 at *
  refine wpAnyH_take (i := 0) (oi := ⟨some 27, _, _, _, _, _⟩) (v := (.func (.func 35) #[] #[.pointer (some ⟨E, 0, none⟩), .pointer (some ⟨E + 5, 0, none⟩)])) rfl (by kernel_rfl) (by kernel_rfl) (by kernel_rfl) (fun _ _ _ h => h) (Or.inl ⟨by rfl, fun W hS => by (obtain ⟨s0, s1, s2⟩ := hS; go_simp)⟩) (HSW.out _ HE3.out HN3.out) ?_
  simp only [Act.put, List.setIfInBounds_toArray, List.set_cons_zero, List.set_cons_succ]
  refine wpAnyH_take (i := 1) (oi := ⟨some 28, _, _, _, _, _⟩) (v := (.pointer (some ⟨W.heap.size, 0, none⟩))) rfl (by kernel_rfl) (by kernel_rfl) (by kernel_rfl) (fun _ _ _ h => h) (Or.inl ⟨by rfl, fun W hS => by (obtain ⟨s0, s1, s2⟩ := hS; go_simp)⟩) (HSW.out _ HE3.out HN3.out) ?_
  simp only [Act.put, List.setIfInBounds_toArray, List.set_cons_zero, List.set_cons_succ]
  refine wpAnyH_take (i := 2) (oi := ⟨some 29, _, _, _, _, _⟩) (v := (.slice (some ⟨ib, ioff, none⟩) x.l.ins.length x.c)) rfl (by kernel_rfl) (by kernel_rfl) (by kernel_rfl) (fun _ _ _ h => h) (Or.inl ⟨by rfl, fun W hS => by (obtain ⟨s0, s1, s2⟩ := hS; go_simp)⟩) (HSW.out _ HE3.out HN3.out) ?_
  simp only [Act.put, List.setIfInBounds_toArray, List.set_cons_zero, List.set_cons_succ]
  refine wpAnyH_take (i := 3) (oi := ⟨some 30, _, _, _, _, _⟩) (v := (.pointer (some ⟨ib, ioff, none⟩))) rfl (by kernel_rfl) (by kernel_rfl) (by kernel_rfl) (fun _ _ _ h => h) (Or.inl ⟨by rfl, fun W hS => by (obtain ⟨s0, s1, s2⟩ := hS; go_simp)⟩) (HSW.out _ HE3.out HN3.out) ?_
  simp only [Act.put, List.setIfInBounds_toArray, List.set_cons_zero, List.set_cons_succ]
  refine wpAnyH_take (i := 4) (oi := ⟨some 31, _, _, _, _, _⟩) (v := (.int .i64 q0)) rfl (by kernel_rfl) (by kernel_rfl) (by kernel_rfl) (fun _ _ _ h => h) (Or.inl ⟨by rfl, fun W hS => by (obtain ⟨s0, s1, s2⟩ := hS; go_simp)⟩) (HSW.out _ HE3.out HN3.out) ?_
  simp only [Act.put, List.setIfInBounds_toArray, List.set_cons_zero, List.set_cons_succ]
  refine wpAnyH_ready (rs := [5]) (by kernel_rfl) (by simp) ?_
  refine AllReadyH.cons rfl (fun K hK => ?_) AllReadyH.nil
  go_simp
  refine (HA.out _ HB3.out).mono ?_
  intro e w2 hd
  have HD := hide (hd.behind HB3.out)
  obtain ⟨la', lc', ys', D', rfl, hlm, hkl, hown⟩ := hd
  have HE4 := hide (HE3.out.kl hkl fun b hb => HLM.out.row.new b hb)
  have HN4 : Hid (w2.heap[W.heap.size]? = some (.cells #[.slice x.a x.l.ins.length x.c, .int .i64 x.l.table] 44 (0, 0))) := hide (hkl.blk HN3.out fun e => by
    rcases e with e | e | e
    · have := HEB.out; omega
    · have := HEB.out; omega
    · have := HLM.out.row.own.lt _ e; omega)
  clear hlm hkl hown HA
  refine hK.out _ _ (HSW.out _ HE4.out HN4.out) (fun _ => ?_)
  clear hK K
  refine wpAnyH_ready (rs := [6]) (by kernel_rfl) (by simp) ?_
  refine AllReadyH.cons rfl (fun K hK => ?_) AllReadyH.nil
  go_simp
  refine hK.out _ _ (HSW.out _ HE4.out HN4.out) (fun _ => ?_)
  clear hK K
  refine wpAnyH_done (by kernel_rfl) ?_ _
  go_wp2_with fail
  go_ret
  exact HD.out
end Go.Proofs.Ytacgepdmhdcdkaa
set_option linter.unusedSimpArgs false
set_option linter.unusedVariables false
namespace Go.Proofs.Ytacgepdmhdcdkaa
open Go.RowKit Go.Maps

structure NewAt (E : Nat) (nv : NV) (W : World) (v0 : Value) (ys0 : List Wy) (x : Wy) (LB : Nat) (l : List Int) (st : LSt) (wr : World) (la : Option Addr) (lc : Nat) (ys : List Wy) (D : DataW Unit) (ia : Option Addr) (ic : Nat) : Prop where
  lay : LayM E nv wr st la lc ys D
  kl : KL E v0 W wr
  own : ∀ b, (Value.slice la st.L.length lc).ownBlock = some b → (v0.ownBlock = some b ∨ W.heap.size ≤ b) ∧ b ≠ W.heap.size ∧ b ≠ LB
  box : wr.heap[W.heap.size]? = some (.cells #[.slice x.a x.l.ins.length x.c, .int .i64 x.l.table] 44 (0, 0))
  me : wr.heap[LB]? = some (.cells #[.slice ia l.length ic, .int .i64 x.l.table] 44 (0, 0))
  mine : Mine 3 1 (LB + 1) wr (.slice ia l.length ic) l.length (intsC l)
  inn : ∀ b, b = LB ∨ (Value.slice ia l.length ic).ownBlock = some b → ∀ y ∈ ys, Lies (fun k => k ≠ b) wr y.a (intsC y.l.ins)
  sep : ∀ b, (Value.slice la st.L.length lc).ownBlock = some b → (Value.slice ia l.length ic).ownBlock ≠ some b
  lb : W.heap.size < LB
  eb : E + 7 ≤ W.heap.size
  old : ∀ c, c < W.heap.size → (∀ y ∈ ys0, Lies (fun k => k ≠ c) W y.a (intsC y.l.ins)) → ∀ y ∈ ys, Lies (fun k => k ≠ c) wr y.a (intsC y.l.ins)
theorem NewAt.below {E : Nat} {nv : NV} {W : World} {v0 : Value} {ys0 : List Wy} {x : Wy} {LB : Nat} {l : List Int} {st : LSt} {wr w' : World} {la : Option Addr} {lc : Nat} {ys : List Wy} {D : DataW Unit} {ia : Option Addr} {ic : Nat} (h : NewAt E nv W v0 ys0 x LB l st wr la lc ys D ia ic) (hb : Below wr.heap.size wr w') : NewAt E nv W v0 ys0 x LB l st w' la lc ys D ia ic :=
  ⟨h.lay.below hb, h.kl.below hb, h.own, Below.blk hb h.box, Below.blk hb h.me, h.mine.below hb, fun b hb2 y hy => (h.inn b hb2 y hy).below hb, h.sep, h.lb, h.eb, fun c hc h0 y hy => (h.old c hc h0 y hy).below hb⟩
/-- one more look -/
theorem NewAt.look {E : Nat} {nv : NV} {W : World} {v0 : Value} {ys0 : List Wy} {x : Wy} {LB : Nat} {l : List Int} {st : LSt} {wr w' : World} {la : Option Addr} {lc : Nat} {ys : List Wy} {D : DataW Unit} {ia : Option Addr} {ic : Nat} {r : Nat × LSt} {e : Ending} (h : NewAt E nv W v0 ys0 x LB l st wr la lc ys D ia ic) (hd : LookD E nv la st.L.length lc ys r wr e w') :
    ∃ la' lc' ys' D', e = .returned (.int .i64 (r.1 : Int)) ∧ NewAt E nv W v0 ys0 x LB l r.2 w' la' lc' ys' D' ia ic ∧ KL E (.slice la st.L.length lc) wr w' := by
  obtain ⟨la', lc', ys', D', rfl, h1, h2, h3, h4⟩ := hd
  have hme := blk_lt h.me
  have hlb := h.lb
  have heb := h.eb
  have hno : ∀ b, W.heap.size ≤ b → (Value.slice la st.L.length lc).ownBlock ≠ some b → ¬ LTurns E (.slice la st.L.length lc) b := fun b hb hn e => by
    rcases e with e | e | e
    · omega
    · omega
    · exact hn e
  have hia : ∀ b, (Value.slice ia l.length ic).ownBlock = some b → LB < b ∧ b < wr.heap.size := fun b hb => ⟨h.mine.new b hb, (h.mine.own.lt b hb).2⟩
  refine ⟨la', lc', ys', D', rfl, ⟨h1, ⟨h2.os.trans h.kl.os, h2.tape.trans h.kl.tape, h2.output.trans h.kl.output, Nat.le_trans h.kl.size h2.size, fun k hk hn => ?_⟩, fun b hb => ?_, h2.blk h.box (hno _ (Nat.le_refl _) fun e => (h.own _ e).2.1 rfl), h2.blk h.me (hno _ (by omega) fun e => (h.own _ e).2.2 rfl), h.mine.same fun b hb hl => h2.block b hl (hno b (by have := hia b hb; omega) fun e => h.sep b e hb), fun b hb => h4 b (hb.elim (fun e => by omega) fun e => (hia b e).2) (h.inn b hb), fun b hb hi => ?_, h.lb, h.eb, fun c hc h0 => h4 c (Nat.lt_of_lt_of_le hc h.kl.size) (h.old c hc h0)⟩, h2⟩
  · refine (h2.block k (Nat.lt_of_lt_of_le hk h.kl.size) fun e => hn ?_).trans (h.kl.block k hk hn)
    rcases e with e | e | e
    · exact .inl e
    · exact .inr (.inl e)
    · rcases (h.own k e).1 with e2 | e2
      · exact .inr (.inr e2)
      · omega
  · rcases h3 b hb with e | e
    · exact h.own b e
    · have := h.kl.size
      exact ⟨.inr (by omega), by omega, by omega⟩
  · rcases h3 b hb with e | e
    · exact h.sep b e hi
    · have := hia b hi; omega
/-- blocks other than one and new ones -/
theorem LayM.grown {E : Nat} {nv : NV} {W W' : World} {st : LSt} {la : Option Addr} {lc : Nat} {ys : List Wy} {D : DataW Unit} (h : LayM E nv W st la lc ys D) {v : Value} (hg : W.grownBy W' v.ownBlock) (hv : ∀ b, v.ownBlock = some b → E + 7 ≤ b ∧ (Value.slice la st.L.length lc).ownBlock ≠ some b ∧ ∀ y ∈ ys, Lies (fun k => k ≠ b) W y.a (intsC y.l.ins)) : LayM E nv W' st la lc ys D := by
  have hno : ∀ b, b < W.heap.size → (∀ c, v.ownBlock = some c → b ≠ c) → W'.heap[b]? = W.heap[b]? := fun b hb hc => hg.block b hb fun e => hc b e.symm rfl
  refine ⟨(hno _ (blk_lt h.nt) fun c hc => by have := hv c hc; omega).trans h.nt, h.ls, h.row.same fun b hb hl => hno b hl fun c hc e => by subst e; exact (hv b hc).2.1 hb, fun y hy => ?_, World.ownsMap.kept h.map hg (fun e => by have := hv _ e.symm; omega), h.mp⟩
  cases ho : v.ownBlock with
  | none => exact (h.ins y hy).same fun b hb hl => hno b hl fun c hc => by rw [ho] at hc; cases hc
  | some c =>
    rcases h.ins y hy with h0 | ⟨b, off, h1, h2, h3⟩
    · exact .inl h0
    · rcases (hv c ho).2.2 y hy with g0 | ⟨b', off', g1, g2, g3⟩
      · exact .inl g0
      · rw [h1] at g1; cases g1
        exact .inr ⟨b, off, h1, h2, fun i u hu => cell_same (h3 i u hu) (hno b (cell_lt (h3 i u hu)) fun d hd => by rw [ho] at hd; cases hd; exact g2)⟩
theorem LEnv.new {E P first n : Nat} {wa : Option Addr} {wc : Nat} {X : Nat → List Wy} {SA : Nat → Option Addr} {SC : Nat → Nat} {nv : NV} {W : World} {v0 : Value} {ys0 : List Wy} {x : Wy} {LB : Nat} {l : List Int} {st : LSt} {wr : World} {la : Option Addr} {lc : Nat} {ys : List Wy} {D : DataW Unit} {ia : Option Addr} {ic : Nat} (he : LEnv E P first n wa wc X SA SC W) (h : NewAt E nv W v0 ys0 x LB l st wr la lc ys D ia ic) (hv : ∀ b, v0.ownBlock = some b → E + 7 ≤ b) : LEnv E P first n wa wc X SA SC wr := he.kl h.kl hv
theorem grown_setCell {W w w' : World} {E : Nat} {v0 : Value} (h : KL E v0 W w) (b i : Nat) (u : Value) (hb : W.heap.size ≤ b) : KL E v0 W (w.setCell ⟨b, i, none⟩ u) :=
  ⟨(Kept.set w i u).os.trans h.os, (Kept.set w i u).tape.trans h.tape, (Kept.set w i u).output.trans h.output, Nat.le_trans h.size (Kept.set (R := b) w i u).size, fun k hk hn => ((Kept.set (R := b) w i u).block k (Nat.lt_of_lt_of_le hk h.size) (by omega)).trans (h.block k hk hn)⟩
/-- one more signal of the table that is made -/
theorem NewAt.push {E : Nat} {nv : NV} {W : World} {v0 : Value} {ys0 : List Wy} {x : Wy} {LB : Nat} {l : List Int} {st : LSt} {wr : World} {la : Option Addr} {lc : Nat} {ys : List Wy} {D : DataW Unit} {ia : Option Addr} {ic : Nat} (h : NewAt E nv W v0 ys0 x LB l st wr la lc ys D ia ic) (s : Int) (hl : l.length ≤ 10) :
    ∃ ia' ic' w2, (Builtin.append_ #[24, 24] 24 #[.slice ia l.length ic, .slice (some ⟨wr.heap.size, 0, none⟩) 1 1]).run Try.prog (wr.alloc (.cells #[.int .i64 s] 3)) = .ok (.slice ia' (l.length + 1) ic') w2 ∧ NewAt E nv W v0 ys0 x LB (l ++ [s]) st (w2.setCell ⟨LB, 0, none⟩ (.slice ia' (l.length + 1) ic')) la lc ys D ia' ic' ∧ (∀ b, b ≤ LB → w2.heap[b]? = wr.heap[b]?) := by
  have hb1 := below_alloc wr (.cells #[.int .i64 s] 3)
  have h1 := h.below hb1
  have hme := blk_lt h.me
  have hlb := h.lb
  have heb := h.eb
  have hsz : (wr.alloc (.cells #[.int .i64 s] 3)).heap.size = wr.heap.size + 1 := by simp
  obtain ⟨ia', ic', w2, hr, hm, hg, hnb⟩ := app_in (c := 1) (ao := some ⟨wr.heap.size, 0, none⟩) h1.mine rfl (show [s].length = 1 from rfl) rfl (Lies.blk (S := AnyB) (cs := intsC [s]) (blk_new wr _) trivial) (by omega) (by omega)
  have hia : ∀ b, (Value.slice ia l.length ic).ownBlock = some b → LB < b ∧ b < wr.heap.size := fun b hb => ⟨h.mine.new b hb, (h.mine.own.lt b hb).2⟩
  have hold : ∀ b, b ≤ LB → w2.heap[b]? = wr.heap[b]? := fun b hb => (hg.block b (by omega) fun e => by have := hia b e.symm; omega).trans (hb1.block b (by omega))
  have hset : ∀ b, b ≠ LB → (w2.setCell ⟨LB, 0, none⟩ (.slice ia' (l.length + 1) ic')).heap[b]? = w2.heap[b]? := fun b hb => Below.heap_setCell w2 ⟨LB, 0, none⟩ _ b hb
  have hme2 := (hold LB (Nat.le_refl _)).trans h.me
  have hlay2 : LayM E nv w2 st la lc ys D := h1.lay.grown hg fun b hb => ⟨by have := hia b hb; omega, fun e => h.sep b e hb, fun y hy => h1.inn b (.inr hb) y hy⟩
  have hnot : ∀ b, (Value.slice ia' (l.length + 1) ic').ownBlock = some b → (Value.slice ia l.length ic).ownBlock = some b ∨ wr.heap.size < b := fun b hb => (hnb b hb).imp id fun e => by omega
  have hkl2 : KL E v0 W w2 := ⟨hg.os.trans h1.kl.os, hg.tape.trans h1.kl.tape, hg.output.trans h1.kl.output, Nat.le_trans h1.kl.size hg.size, fun k hk hn => (hold k (by omega)).trans (h.kl.block k hk hn)⟩
  have hlay3 : LayM E nv (w2.setCell ⟨LB, 0, none⟩ (.slice ia' (l.length + 1) ic')) st la lc ys D := by
    refine ⟨(hset _ (by omega)).trans hlay2.nt, hlay2.ls, hlay2.row.same fun b hb _ => hset b fun e => (h.own b hb).2.2 e, fun y hy => ?_, World.ownsMap.setCell hlay2.map (by show E + 2 ≠ LB; omega) _, hlay2.mp⟩
    rcases hlay2.ins y hy with h0 | ⟨b, off, g1, g2, g3⟩
    · exact .inl h0
    · rcases h1.inn LB (.inl rfl) y hy with h0 | ⟨b', off', e1, e2, e3⟩
      · exact .inl h0
      · rw [g1] at e1; cases e1
        exact .inr ⟨_, _, g1, g2, fun i u hu => cell_same (g3 i u hu) (hset _ e2)⟩
  have hlow : ∀ y ∈ ys, ∀ {c : Nat}, Lies (fun k => k ≠ c) (wr.alloc (.cells #[.int .i64 s] 3)) y.a (intsC y.l.ins) → Lies (fun k => k ≠ c) (w2.setCell ⟨LB, 0, none⟩ (.slice ia' (l.length + 1) ic')) y.a (intsC y.l.ins) := fun y hy {c} hc => by
    rcases hc with h0 | ⟨b', off', e1, e2, e3⟩
    · exact .inl h0
    · rcases hlay3.ins y hy with h0 | ⟨b, off, g1, g2, g3⟩
      · exact .inl h0
      · rw [g1] at e1; cases e1
        exact .inr ⟨_, _, g1, e2, g3⟩
  refine ⟨ia', ic', w2, hr, ⟨hlay3, grown_setCell (w' := w2) hkl2 LB 0 _ (by omega), h.own, (hset _ (by omega)).trans ((hold _ (by omega)).trans h.box), by rw [blk_set hme2]; simp, ?_, fun b hb y hy => ?_, fun b hb hi => ?_, h.lb, h.eb, fun c hc h0 y hy => hlow y hy (h1.old c hc h0 y hy)⟩, hold⟩
  · rw [List.length_append]
    exact hm.same fun b hb hl => hset b fun e => by
      subst e
      rcases hnot b hb with e | e
      · have := hia b e; omega
      · omega
  · have hb1b : (wr.alloc (.cells #[.int .i64 s] 3)).heap.size = wr.heap.size + 1 := hsz
    have hfree : ∀ c, c ≤ LB ∨ wr.heap.size ≤ c ∨ (Value.slice ia l.length ic).ownBlock = some c → True := fun _ _ => trivial
    rcases hb with e | hb
    · exact hlow y hy (h1.inn b (.inl e) y hy)
    · rw [List.length_append] at hb
      rcases hnot b hb with e | e
      · exact hlow y hy (h1.inn b (.inr e) y hy)
      · refine hlow y hy ((h.lay.ins y hy).imp (T := fun k => k < wr.heap.size) (fun k hk _ => hk) |>.below hb1 |>.imp fun k _ hk => by omega)
  · rw [List.length_append] at hi
    rcases hnot b hi with e | e
    · exact h.sep b hb e
    · have := (h.lay.row.own.lt b hb).2; omega
/-- a table is begun -/
theorem NewAt.start {E : Nat} {nv : NV} {W W2 : World} {x : Wy} {st : LSt} {la : Option Addr} {lc : Nat} {ys : List Wy} {D : DataW Unit} (hl : LayM E nv W st la lc ys D) (heb : E + 7 ≤ W.heap.size) (hb : Below W.heap.size W W2) (hbox : W2.heap[W.heap.size]? = some (.cells #[.slice x.a x.l.ins.length x.c, .int .i64 x.l.table] 44 (0, 0))) :
    NewAt E nv W (.slice la st.L.length lc) ys x W2.heap.size [] st (W2.alloc (.cells #[.slice none 0 0, .int .i64 x.l.table] 44)) la lc ys D none 0 := by
  have hb3 := below_alloc W2 (.cells #[.slice none 0 0, .int .i64 x.l.table] 44)
  have hbs := Below.step hb hb3
  have hlt := blk_lt hbox
  refine ⟨hl.below hbs, KeptQ.of hbs, fun b hb2 => ?_, Below.blk hb3 hbox, blk_new W2 _, Mine.none _, fun b hb2 y hy => ?_, fun b _ hi => (by cases hi), hlt, heb, fun c hc h0 y hy => (h0 y hy).below hbs⟩
  · have := (hl.row.own.lt b hb2).2
    exact ⟨.inl hb2, by omega, by omega⟩
  · rcases hb2 with e | e
    · subst e
      exact (((hl.ins y hy).imp (T := fun k => k < W.heap.size) fun k hk _ => hk).below hbs).imp fun k _ hk => by omega
    · cases e
/-- its signal is noted -/
theorem NewAt.put {E : Nat} {nv : NV} {W : World} {v0 : Value} {ys0 : List Wy} {x : Wy} {LB : Nat} {l : List Int} {st : LSt} {wr : World} {la : Option Addr} {lc : Nat} {ys : List Wy} {D : DataW Unit} {ia : Option Addr} {ic : Nat} (h : NewAt E nv W v0 ys0 x LB l st wr la lc ys D ia ic) (c s : Nat) (hc6 : c ≤ 1000000) (hs6 : s ≤ 1000000) (hm : st.M.length ≤ 1000000) (hf : findM st.M c = none) :
    ∃ w', (Instr.mapUpdate 78 (.map (some (E + 2))) (.int .i64 (keyM c)) (.int .i64 (s : Int))).run Try.prog wr = .ok () w' ∧ NewAt E nv W v0 ys0 x LB l ⟨st.L, st.M ++ [(c, s)]⟩ w' la lc ys (D.put (.int .i64 (keyM c)) (.lit (.int .i64 (s : Int)))) ia ic := by
  obtain ⟨w', hrun, hown, hturn⟩ := h.lay.map.store lawM Try.underlying78 (by unfold maxLen; omega) (keyOf_int_mk Try.underlying3 (wf_keyM hc6)) (plainElem_int Try.underlying3 (wf_natM hs6))
  have hg := hturn.grown
  have heb := h.eb
  have hlb := h.lb
  have hno : ∀ b, b < wr.heap.size → b ≠ E + 2 → w'.heap[b]? = wr.heap[b]? := fun b hb hn => hg.block b hb fun e => hn (by cases e; rfl)
  have hia : ∀ b, (Value.slice ia l.length ic).ownBlock = some b → LB < b ∧ b < wr.heap.size := fun b hb => ⟨h.mine.new b hb, (h.mine.own.lt b hb).2⟩
  have hlies : ∀ y ∈ ys, ∀ {T : Nat → Prop}, Lies T wr y.a (intsC y.l.ins) → Lies T w' y.a (intsC y.l.ins) := fun y hy T ht => by
    rcases ht with h0 | ⟨b, off, g1, g2, g3⟩
    · exact .inl h0
    · rcases h.lay.ins y hy with h0 | ⟨b', off', e1, e2, e3⟩
      · exact .inl h0
      · rw [g1] at e1; cases e1
        exact .inr ⟨_, _, g1, g2, fun i u hu => cell_same (g3 i u hu) (hno _ (cell_lt (g3 i u hu)) (fun e => by have h7 := e2.1; rw [show b = E + 2 from e] at h7; omega))⟩
  refine ⟨w', hrun, ⟨⟨(hno _ (blk_lt h.lay.nt) (by omega)).trans h.lay.nt, h.lay.ls, h.lay.row.same fun b hb hl => hno b hl (by have := h.lay.row.new b hb; omega), fun y hy => hlies y hy (h.lay.ins y hy), by rw [List.length_append]; exact hown, h.lay.mp.put h.lay.map.isMap c s hf⟩, ⟨hg.os.trans h.kl.os, hg.tape.trans h.kl.tape, hg.output.trans h.kl.output, Nat.le_trans h.kl.size hg.size, fun k hk hn => (hno k (Nat.lt_of_lt_of_le hk h.kl.size) fun e => hn (.inr (.inl e))).trans (h.kl.block k hk hn)⟩, h.own, (hno _ (blk_lt h.box) (by omega)).trans h.box, (hno _ (blk_lt h.me) (by omega)).trans h.me, h.mine.same fun b hb hl => hno b hl (by have := hia b hb; omega), fun b hb y hy => hlies y hy (h.inn b hb y hy), h.sep, h.lb, h.eb, fun c hc h0 y hy => hlies y hy (h.old c hc h0 y hy)⟩⟩
/-- it is laid -/
theorem NewAt.done {E : Nat} {nv : NV} {W : World} {v0 : Value} {ys0 : List Wy} {x : Wy} {LB : Nat} {l : List Int} {st : LSt} {wr : World} {la : Option Addr} {lc : Nat} {ys : List Wy} {D : DataW Unit} {ia : Option Addr} {ic : Nat} (h : NewAt E nv W v0 ys0 x LB l st wr la lc ys D ia ic) (hn : st.L.length ≤ 50000) (hv : ∀ b, v0.ownBlock = some b → E + 7 ≤ b) :
    ∃ la' lc' w2, (Builtin.append_ #[23, 23] 23 #[.slice la st.L.length lc, .slice (some ⟨wr.heap.size, 0, none⟩) 1 1]).run Try.prog (wr.alloc (.cells #[.slice ia l.length ic, .int .i64 x.l.table] 44)) = .ok (.slice la' (st.L.length + 1) lc') w2 ∧ LayM E nv (w2.setCell ⟨E + 1, 2, none⟩ (.slice la' (st.L.length + 1) lc')) ⟨st.L ++ [⟨l, x.l.table⟩], st.M⟩ la' lc' (ys ++ [⟨ia, ic, ⟨l, x.l.table⟩⟩]) D ∧ KL E v0 W (w2.setCell ⟨E + 1, 2, none⟩ (.slice la' (st.L.length + 1) lc')) ∧
      (∀ b, (Value.slice la' (st.L.length + 1) lc').ownBlock = some b → v0.ownBlock = some b ∨ W.heap.size ≤ b) ∧ (∀ b, b ≤ LB → (Value.slice la st.L.length lc).ownBlock ≠ some b → w2.heap[b]? = wr.heap[b]?) ∧
      ∀ c, c < W.heap.size → (∀ y ∈ ys, Lies (fun k => k ≠ c) wr y.a (intsC y.l.ins)) → ∀ y ∈ ys ++ [⟨ia, ic, ⟨l, x.l.table⟩⟩], Lies (fun k => k ≠ c) (w2.setCell ⟨E + 1, 2, none⟩ (.slice la' (st.L.length + 1) lc')) y.a (intsC y.l.ins) := by
  have hb1 := below_alloc wr (.cells #[.slice ia l.length ic, .int .i64 x.l.table] 44)
  have h1 := h.below hb1
  have hme := blk_lt h.me
  have hlb := h.lb
  have heb := h.eb
  have hnt := blk_lt h.lay.nt
  have hsz : (wr.alloc (.cells #[.slice ia l.length ic, .int .i64 x.l.table] 44)).heap.size = wr.heap.size + 1 := by simp
  have hyl : ys.length = st.L.length := by rw [← h.lay.ls, List.length_map]
  obtain ⟨la', lc', w2, hr, hm, hg, hnb⟩ := app_wy (c := 1) (ao := some ⟨wr.heap.size, 0, none⟩) (new := [⟨ia, ic, ⟨l, x.l.table⟩⟩]) h1.lay.row hyl (m := 1) rfl rfl (Lies.blk (S := AnyB) (cs := wyC [⟨ia, ic, ⟨l, x.l.table⟩⟩]) (blk_new wr _) trivial) (by omega) (by omega)
  have hla : ∀ b, (Value.slice la st.L.length lc).ownBlock = some b → E + 7 ≤ b ∧ b < wr.heap.size := fun b hb => ⟨h.lay.row.new b hb, (h.lay.row.own.lt b hb).2⟩
  have hia : ∀ b, (Value.slice ia l.length ic).ownBlock = some b → LB < b ∧ b < wr.heap.size := fun b hb => ⟨h.mine.new b hb, (h.mine.own.lt b hb).2⟩
  have hold : ∀ b, b < wr.heap.size → (Value.slice la st.L.length lc).ownBlock ≠ some b → w2.heap[b]? = wr.heap[b]? := fun b hb hn => (hg.block b (by omega) fun e => hn e.symm).trans (hb1.block b hb)
  have hset : ∀ b, b ≠ E + 1 → (w2.setCell ⟨E + 1, 2, none⟩ (.slice la' (st.L.length + 1) lc')).heap[b]? = w2.heap[b]? := fun b hb => Below.heap_setCell w2 ⟨E + 1, 2, none⟩ _ b hb
  have hnew : ∀ b, (Value.slice la' (st.L.length + 1) lc').ownBlock = some b → (Value.slice la st.L.length lc).ownBlock = some b ∨ wr.heap.size < b := fun b hb => (hnb b hb).imp id fun e => by omega
  have hmap2 : MapI w2 (E + 2) st.M.length D := World.ownsMap.kept h1.lay.map hg fun e => by have := hla _ e.symm; omega
  have hnt2 : w2.heap[E + 1]? = _ := (hold (E + 1) hnt fun e => by have := hla _ e; omega).trans h.lay.nt
  have hrowI : ∀ y ∈ ys, ∀ {T : Nat → Prop}, Lies T wr y.a (intsC y.l.ins) → Lies T (w2.setCell ⟨E + 1, 2, none⟩ (.slice la' (st.L.length + 1) lc')) y.a (intsC y.l.ins) := fun y hy T ht => by
    rcases ht with h0 | ⟨b, off, g1, g2, g3⟩
    · exact .inl h0
    · rcases h.lay.ins y hy with h0 | ⟨b', off', e1, e2, e3⟩
      · exact .inl h0
      · rw [g1] at e1; cases e1
        exact .inr ⟨_, _, g1, g2, fun i u hu => cell_same (g3 i u hu) ((hset _ (fun e => by have h7 := e2.1; rw [show b = E + 1 from e] at h7; omega)).trans (hold _ (cell_lt (g3 i u hu)) e2.2))⟩
  have hmineL : Lies (fun k => LB < k ∧ (Value.slice la st.L.length lc).ownBlock ≠ some k) wr ia (intsC l) := h.mine.lies fun b hb => ⟨(hia b hb).1, fun e => h.sep b e hb⟩
  have hiaL : ∀ {T : Nat → Prop}, (∀ k, LB < k → k < wr.heap.size → (Value.slice la st.L.length lc).ownBlock ≠ some k → T k) → Lies T (w2.setCell ⟨E + 1, 2, none⟩ (.slice la' (st.L.length + 1) lc')) ia (intsC l) := fun {T} hT => by
    rcases hmineL with h0 | ⟨b, off, g1, g2, g3⟩
    · exact .inl h0
    · by_cases hz : l = []
      · subst hz; exact .inl rfl
      · obtain ⟨u, t, hlt⟩ : ∃ u t, intsC l = u :: t := by
          cases l with
          | nil => exact absurd rfl hz
          | cons a t => exact ⟨_, _, rfl⟩
        have hbl : b < wr.heap.size := cell_lt (g3 0 u (by rw [hlt]; rfl))
        exact .inr ⟨b, off, g1, hT b g2.1 hbl g2.2, fun i u hu => cell_same (g3 i u hu) ((hset b (by have := g2.1; omega)).trans (hold b hbl g2.2))⟩
  have hlow : ∀ k, k < wr.heap.size → (Value.slice la st.L.length lc).ownBlock ≠ some k → (Value.slice la' (st.L.length + 1) lc').ownBlock ≠ some k := fun k hk hn e => by
    rcases hnew k e with e | e
    · exact hn e
    · omega
  refine ⟨la', lc', w2, hr, ⟨?_, by rw [List.map_append, h.lay.ls]; rfl, ?_, fun y hy => ?_, World.ownsMap.setCell hmap2 (by show E + 2 ≠ E + 1; omega) _, h.lay.mp⟩, ⟨(Kept.set (R := E + 1) w2 2 _).os.trans (hg.os.trans h1.kl.os), (Kept.set (R := E + 1) w2 2 _).tape.trans (hg.tape.trans h1.kl.tape), (Kept.set (R := E + 1) w2 2 _).output.trans (hg.output.trans h1.kl.output), Nat.le_trans h1.kl.size (Nat.le_trans hg.size (Kept.set (R := E + 1) w2 2 _).size), fun k hk hn2 => ?_⟩, fun b hb => ?_, fun b hb hn2 => hold b (by omega) hn2, fun c hc hy y hym => ?_⟩
  · rw [blk_set hnt2]
    simp
  · rw [List.length_append]
    exact hm.same fun b hb hl => hset b fun e => by
      rcases hnew b hb with e2 | e2
      · have := hla b e2; omega
      · omega
  · rw [List.length_append]
    rcases List.mem_append.1 hy with hy | hy
    · refine hrowI y hy ((h.lay.ins y hy).imp fun k hk hs => ⟨hs.1, hlow k hk hs.2⟩)
    · rw [List.mem_singleton.1 hy]
      exact hiaL fun k h1 h2 h3 => ⟨by omega, hlow k h2 h3⟩
  · refine (hset k fun e => hn2 (.inl e)).trans ((hold k (Nat.lt_of_lt_of_le hk h.kl.size) fun e => ?_).trans (h.kl.block k hk hn2))
    rcases (h.own k e).1 with e2 | e2
    · exact hn2 (.inr (.inr e2))
    · omega
  · rcases hnew b hb with e | e
    · exact (h.own b e).1
    · have := h.kl.size; exact .inr (by omega)
  · rcases List.mem_append.1 hym with hm2 | hm2
    · exact hrowI y hm2 (hy y hm2)
    · rw [List.mem_singleton.1 hm2]
      exact hiaL fun k h1 _ _ => by omega
end Go.Proofs.Ytacgepdmhdcdkaa
