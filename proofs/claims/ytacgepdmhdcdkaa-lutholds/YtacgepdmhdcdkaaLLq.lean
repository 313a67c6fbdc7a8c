/-
  CONTRACT of look, whole: by fuel.
  MEMORY: the net that lay makes: its registers, its tables, its outputs.
-/
import Derived.Test.YtacgepdmhdcdkaaLLo
set_option linter.unusedSimpArgs false
set_option linter.unusedVariables false
namespace Go.Proofs.Ytacgepdmhdcdkaa
open Go.RowKit Go.Maps

theorem ahead_ok {gn : Nat} {ns : List Nd} {V : Nat → List Lt} {D : List Int} (hr : ∀ j, j < ns.length → rightN gn ns.length j (ndAt ns j) = true) (hw : ∀ j, j < ns.length → NodeW gn ns V D j (V j)) {f node s : Nat} (hf : node < f + 1) (hn : node < ns.length) (hs : s < firstS gn ns + node) {st : LSt} (hst : LayOk gn ns st) :
    LookOk gn ns (node + 1) st (fun g held => sigP gn ns g held s) (aheadF V (firstS gn ns) f s st) := by
  unfold aheadF
  by_cases hl : s < firstS gn ns
  · rw [if_pos hl]
    exact ⟨fun _ _ => rfl, hst, ⟨[], by simp⟩, by show s < _; omega, fun g held => lookL_low _ g held hl⟩
  · rw [if_neg hl]
    have hq := look_ok hr hw f (s - firstS gn ns) st (by omega) (by omega) hst
    refine ⟨fun c hc => hq.keep c (by omega), hq.ok, hq.ext, hq.lt, fun g held => ?_⟩
    rw [hq.val]
    have := sigP_node (gn := gn) (ns := ns) (g := g) (held := held) (s - firstS gn ns)
    rw [← this]
    congr 1
    omega
theorem fold_ok {gn : Nat} {ns : List Nd} {V : Nat → List Lt} {D : List Int} (hr : ∀ j, j < ns.length → rightN gn ns.length j (ndAt ns j) = true) (hw : ∀ j, j < ns.length → NodeW gn ns V D j (V j)) {f node : Nat} (hf : node < f + 1) (hn : node < ns.length) {st : LSt} (hst : LayOk gn ns st) (ins : List Int) (hi : ∀ x ∈ ins, 0 ≤ x ∧ x < ((firstS gn ns + node : Nat) : Int)) :
    ∀ k, k ≤ ins.length → (∀ c, node + 1 < c → findM (foldTo (aheadF V (firstS gn ns) f) ins st k).2.M c = findM st.M c) ∧ LayOk gn ns (foldTo (aheadF V (firstS gn ns) f) ins st k).2 ∧ (foldTo (aheadF V (firstS gn ns) f) ins st k).1.length = k
  | 0, _ => ⟨fun _ _ => rfl, hst, rfl⟩
  | k + 1, hk => by
    obtain ⟨h0, h1, h3⟩ := fold_ok hr hw hf hn hst ins hi k (by omega)
    have hm : outAt ins k ∈ ins := by
      have : outAt ins k = ins[k] := by simp [outAt, show k < ins.length by omega]
      rw [this]; exact List.getElem_mem _
    have hx := hi _ hm
    have ha := ahead_ok hr hw (s := (outAt ins k).toNat) hf hn (by omega) h1
    simp only [foldTo]
    exact ⟨fun c hc => (ha.keep c hc).trans (h0 c hc), ha.ok, by simp [h3]⟩

theorem gates_le (ns : List Nd) (k : Nat) : gatesTo ns k ≤ k := by
  induction k with
  | zero => exact Nat.le_refl _
  | succ k ih => simp only [gatesTo]; split <;> omega
set_option maxHeartbeats 1600000 in
theorem look_all {E P gn : Nat} {ns : List Nd} {wa : Option Addr} {wc : Nat} {X : Nat → List Wy} {SA : Nat → Option Addr} {SC : Nat → Nat} {nv : NV} {D0 : List Int} (hr : ∀ j, j < ns.length → rightN gn ns.length j (ndAt ns j) = true) (hw : ∀ j, j < ns.length → NodeW gn ns (waysX X) D0 j (waysX X j)) (hn2 : ns.length ≤ 20000) (hf4 : firstS gn ns ≤ 50000) :
    ∀ (f node : Nat) (st : LSt) (W : World) (la : Option Addr) (lc : Nat) (ys : List Wy) (D : DataW Unit), node < f → node < ns.length → LEnv E P (firstS gn ns) ns.length wa wc X SA SC W → LayM E nv W st la lc ys D → LayOk gn ns st →
      Calls Try.prog 36 #[.int .i64 node, .pointer (some ⟨E, 0, none⟩), .pointer (some ⟨E + 6, 0, none⟩), .pointer (some ⟨E + 4, 0, none⟩), .pointer (some ⟨E + 3, 0, none⟩)] W fun e w' => LookD E nv la st.L.length lc ys (lookF (waysX X) (firstS gn ns) f node st) W e w'
  | 0, node, st, W, la, lc, ys, D, hf, _, _, _, _ => absurd hf (Nat.not_lt_zero _)
  | f + 1, node, st, W, la, lc, ys, D, hf, hn, he, hl, hst => by
    have ih := look_all (E := E) (P := P) (wa := wa) (wc := wc) (SA := SA) (SC := SC) (nv := nv) hr hw hn2 hf4 f
    obtain ⟨z, zs, hz, hwz, _⟩ := ways_keep hr ns.length (Nat.le_refl _) (fun j hj => hw j hj) node hn
    have hwa : wayA (waysX X) node = z := by unfold wayA; rw [hz]; rfl
    obtain ⟨x, xs, hX, rfl⟩ : ∃ x xs, X node = x :: xs ∧ x.l = z := by
      cases hx : X node with
      | nil => unfold waysX at hz; rw [hx] at hz; cases hz
      | cons x xs => unfold waysX at hz; rw [hx] at hz; injection hz with h1 h2; exact ⟨x, xs, rfl, h1⟩
    have hah : ∀ s, s < firstS gn ns + node → ∀ (st : LSt) (W' : World) (la : Option Addr) (lc : Nat) (ys : List Wy) (D : DataW Unit), LEnv E P (firstS gn ns) ns.length wa wc X SA SC W' → LayM E nv W' st la lc ys D → LayOk gn ns st → Calls Try.prog 35 #[.int .i64 s, .pointer (some ⟨E, 0, none⟩), .pointer (some ⟨E + 5, 0, none⟩)] W' fun e w' => LookD E nv la st.L.length lc ys (aheadF (waysX X) (firstS gn ns) f s st) W' e w' := fun s hs st W' la lc ys D he hl hst =>
      ahead_at he hl s (by omega) (hide fun q hq W'' hb => ih q st W'' la lc ys D (by omega) (by omega) (he.below hb) (hl.below hb) hst)
    rw [lookF_succ, hwa]
    have hins : ∀ q ∈ x.l.ins, 0 ≤ q ∧ q < ((firstS gn ns + node : Nat) : Int) := fun q hq => ⟨hwz.way.pos q hq, hwz.sig q hq⟩
    have ht : 0 ≤ x.l.table ∧ (x.l.ins.length = 0 → x.l.table < 2) := ⟨hwz.way.t0, fun h0 => by have h := hwz.way.t1; rw [h0] at h; exact h⟩
    cases hsm : sameL x.l with
    | true =>
      rw [if_pos rfl]
      obtain ⟨h1, h2⟩ : x.l.ins.length = 1 ∧ x.l.table = 2 := by
        unfold sameL at hsm
        simp at hsm
        exact hsm
      obtain ⟨q, hq⟩ : ∃ q, x.l.ins = [q] := List.length_eq_one_iff.1 h1
      have hqi := hins q (by rw [hq]; simp)
      obtain ⟨q0, rfl⟩ := Int.eq_ofNat_of_zero_le hqi.1
      have ho : outAt x.l.ins 0 = (q0 : Int) := by rw [hq]; rfl
      rw [ho, Int.toNat_natCast]
      exact look_same he hl node hn (by omega) x xs hX hsm q0 hq _ (hide fun W' hb => hah q0 (by omega) st W' la lc ys D (he.below hb) (hl.below hb) hst)
    | false =>
      rw [if_neg (by simp)]
      cases hfm : findM st.M (codeM x.l node) with
      | some s => exact look_was he hl node hn (by omega) x xs hX hsm ht s hfm
      | none =>
        have hfold := fold_ok hr hw hf hn hst x.l.ins hins
        have hHF : Hid (∀ k, k ≤ x.l.ins.length → (foldTo (aheadF (waysX X) (firstS gn ns) f) x.l.ins st k).2.L.length ≤ 50000 ∧ (foldTo (aheadF (waysX X) (firstS gn ns) f) x.l.ins st k).2.M.length ≤ 50000 ∧ (foldTo (aheadF (waysX X) (firstS gn ns) f) x.l.ins st k).1.length = k) := hide fun k hk => by
          obtain ⟨_, h1, h2⟩ := hfold k hk
          have h3 := h1.few
          have h4 := h1.len
          have h5 := gates_le ns ns.length
          exact ⟨by omega, by omega, h2⟩
        have hHA : Hid (∀ k, k < x.l.ins.length → ∀ (W' : World) (la' : Option Addr) (lc' : Nat) (ys' : List Wy) (D' : DataW Unit), LEnv E P (firstS gn ns) ns.length wa wc X SA SC W' → LayM E nv W' (foldTo (aheadF (waysX X) (firstS gn ns) f) x.l.ins st k).2 la' lc' ys' D' → Calls Try.prog 35 #[.int .i64 (outAt x.l.ins k), .pointer (some ⟨E, 0, none⟩), .pointer (some ⟨E + 5, 0, none⟩)] W' fun e w' => LookD E nv la' (foldTo (aheadF (waysX X) (firstS gn ns) f) x.l.ins st k).2.L.length lc' ys' (aheadF (waysX X) (firstS gn ns) f (outAt x.l.ins k).toNat (foldTo (aheadF (waysX X) (firstS gn ns) f) x.l.ins st k).2) W' e w') := hide fun k hk W' la' lc' ys' D' he' hl' => by
          have hm : outAt x.l.ins k ∈ x.l.ins := by
            have : outAt x.l.ins k = x.l.ins[k] := by simp [outAt, hk]
            rw [this]; exact List.getElem_mem _
          have hq := hins _ hm
          obtain ⟨_, h1, _⟩ := hfold k (by omega)
          have h := hah (outAt x.l.ins k).toNat (by omega) _ W' la' lc' ys' D' he' hl' h1
          rw [show (((outAt x.l.ins k).toNat : Nat) : Int) = outAt x.l.ins k by omega] at h
          exact h
        have hcn : findM (foldTo (aheadF (waysX X) (firstS gn ns) f) x.l.ins st x.l.ins.length).2.M (codeM x.l node) = none := by
          by_cases h0 : x.l.ins.length = 0
          · rw [h0]; exact hfm
          · have hc : codeM x.l node = node + 2 := if_neg h0
            rw [hc] at hfm ⊢
            rw [(hfold _ (Nat.le_refl _)).1 _ (by omega)]; exact hfm
        by_cases h0 : x.l.ins.length = 0
        · exact look_new0 he hl node hn (by omega) x xs hX hsm h0 ht hfm (aheadF (waysX X) (firstS gn ns) f) hHF (hide hcn) _ (hide fun l stk h => by rw [h]) (by omega) (by omega) hHA
        · exact look_new1 he hl node hn (by omega) x xs hX hsm h0 ht hfm (aheadF (waysX X) (firstS gn ns) f) hHF (hide hcn) _ (hide fun l stk h => by rw [h]) (by omega) hwz.way.n4 hHA
end Go.Proofs.Ytacgepdmhdcdkaa
set_option linter.unusedSimpArgs false
set_option linter.unusedVariables false
namespace Go.Proofs.Ytacgepdmhdcdkaa
open Go.RowKit Go.Maps

theorem info_rgQ : ∃ i : TypeInfo, Try.prog.info? 59 = some i ∧ i.zero = some (.agg #[.bool false, .int .i64 0]) ∧ i.size = 2 ∧ i.bytes = 16 := info_of (by kernel_rfl)
theorem rgAt_oldQ (rs : List Rg) (r : Rg) (i : Nat) (h : i < rs.length) : rgAt (rs ++ [r]) i = rgAt rs i := by unfold rgAt; rw [List.getElem?_append_left h]
theorem rgAt_newQ (rs : List Rg) (r : Rg) : rgAt (rs ++ [r]) rs.length = r := by unfold rgAt; simp
theorem rgsC_snocQ (rs : List Rg) (r : Rg) : rgsC (rs ++ [r]) = rgsC rs ++ [.bool r.init, .int .i64 r.next] := by
  unfold rgsC
  rw [List.length_append]
  show pairC _ _ (rs.length + 1) = _
  simp only [pairC]
  congr 1
  · exact pairC_congr fun i hi => ⟨by simp only [rgF, rgAt_oldQ rs r i hi], by simp only [rgG, rgAt_oldQ rs r i hi]⟩
  · simp only [rgF, rgG, rgAt_newQ]

structure LNet (E P first n : Nat) (wa : Option Addr) (wc : Nat) (X : Nat → List Wy) (SA : Nat → Option Addr) (SC : Nat → Nat) (gv : Int) (w0 wr : World) (rs : List Rg) (os : List Int) (st : LSt) (la : Option Addr) (lc : Nat) (ys : List Wy) (D : DataW Unit) (ra : Option Addr) (rc : Nat) (oa : Option Addr) (oc : Nat) : Prop where
  env : LEnv E P first n wa wc X SA SC wr
  lay : LayM E ⟨gv, ra, rs.length, rc, oa, os.length, oc⟩ wr st la lc ys D
  regs : Mine 59 2 (E + 7) wr (.slice ra rs.length rc) rs.length (rgsC rs)
  outs : Mine 3 1 (E + 7) wr (.slice oa os.length oc) os.length (intsC os)
  sepR : ∀ b, (Value.slice la st.L.length lc).ownBlock = some b → (Value.slice ra rs.length rc).ownBlock ≠ some b
  sepO : ∀ b, (Value.slice la st.L.length lc).ownBlock = some b → (Value.slice oa os.length oc).ownBlock ≠ some b
  sepQ : ∀ b, (Value.slice ra rs.length rc).ownBlock = some b → (Value.slice oa os.length oc).ownBlock ≠ some b
  inn : ∀ b, (Value.slice ra rs.length rc).ownBlock = some b ∨ (Value.slice oa os.length oc).ownBlock = some b → ∀ y ∈ ys, Lies (fun k => k ≠ b) wr y.a (intsC y.l.ins)
  low : Below E w0 wr
section
variable {E P first n : Nat} {wa : Option Addr} {wc : Nat} {X : Nat → List Wy} {SA : Nat → Option Addr} {SC : Nat → Nat} {gv : Int} {w0 wr w' : World} {rs : List Rg} {os : List Int} {st : LSt} {la : Option Addr} {lc : Nat} {ys : List Wy} {D : DataW Unit} {ra : Option Addr} {rc : Nat} {oa : Option Addr} {oc : Nat}
theorem LNet.below (h : LNet E P first n wa wc X SA SC gv w0 wr rs os st la lc ys D ra rc oa oc) (hb : Below wr.heap.size wr w') : LNet E P first n wa wc X SA SC gv w0 w' rs os st la lc ys D ra rc oa oc := by
  have hE := h.env.size
  exact ⟨h.env.below hb, h.lay.below hb, h.regs.below hb, h.outs.below hb, h.sepR, h.sepO, h.sepQ, fun b hb2 y hy => (h.inn b hb2 y hy).below hb, ⟨hb.os.trans h.low.os, hb.tape.trans h.low.tape, hb.output.trans h.low.output, Nat.le_trans h.low.size hb.size, fun k hk => (hb.block k (by omega)).trans (h.low.block k hk)⟩⟩
theorem LNet.look {r : Nat × LSt} {e : Ending} (h : LNet E P first n wa wc X SA SC gv w0 wr rs os st la lc ys D ra rc oa oc) (hd : LookD E ⟨gv, ra, rs.length, rc, oa, os.length, oc⟩ la st.L.length lc ys r wr e w') :
    ∃ la' lc' ys' D', e = .returned (.int .i64 (r.1 : Int)) ∧ LNet E P first n wa wc X SA SC gv w0 w' rs os r.2 la' lc' ys' D' ra rc oa oc ∧ KL E (.slice la st.L.length lc) wr w' := by
  obtain ⟨la', lc', ys', D', rfl, h1, h2, h3, h4⟩ := hd
  have hE := h.env.size
  have hR : ∀ b, (Value.slice ra rs.length rc).ownBlock = some b → E + 7 ≤ b ∧ b < wr.heap.size := fun b hb => ⟨h.regs.new b hb, (h.regs.own.lt b hb).2⟩
  have hO : ∀ b, (Value.slice oa os.length oc).ownBlock = some b → E + 7 ≤ b ∧ b < wr.heap.size := fun b hb => ⟨h.outs.new b hb, (h.outs.own.lt b hb).2⟩
  have hno : ∀ b, E + 7 ≤ b → (Value.slice la st.L.length lc).ownBlock ≠ some b → ¬ LTurns E (.slice la st.L.length lc) b := fun b hb hn e => by
    rcases e with e | e | e
    · omega
    · omega
    · exact hn e
  refine ⟨la', lc', ys', D', rfl, ⟨h.env.kl h2 h.lay.row.new, h1, h.regs.same fun b hb hl => h2.block b hl (hno b (hR b hb).1 fun e => h.sepR b e hb), h.outs.same fun b hb hl => h2.block b hl (hno b (hO b hb).1 fun e => h.sepO b e hb), fun b hb hi => ?_, fun b hb hi => ?_, h.sepQ, fun b hb => h4 b (hb.elim (fun e => (hR b e).2) fun e => (hO b e).2) (h.inn b hb), ⟨h2.os.trans h.low.os, h2.tape.trans h.low.tape, h2.output.trans h.low.output, Nat.le_trans h.low.size h2.size, fun k hk => (h2.block k (by omega) fun e => ?_).trans (h.low.block k hk)⟩⟩, h2⟩
  · rcases h3 b hb with e | e
    · exact h.sepR b e hi
    · have := hR b hi; omega
  · rcases h3 b hb with e | e
    · exact h.sepO b e hi
    · have := hO b hi; omega
  · rcases e with e | e | e
    · omega
    · omega
    · have := h.lay.row.new k e; omega
theorem LNet.pushR (h : LNet E P first n wa wc X SA SC gv w0 wr rs os st la lc ys D ra rc oa oc) (r : Rg) (hbig : rs.length ≤ 50000) :
    ∃ ra' rc' w2, (Builtin.append_ #[22, 22] 22 #[.slice ra rs.length rc, .slice (some ⟨wr.heap.size, 0, none⟩) 1 1]).run Try.prog (wr.alloc (.cells #[.bool r.init, .int .i64 r.next] 59)) = .ok (.slice ra' (rs.length + 1) rc') w2 ∧ LNet E P first n wa wc X SA SC gv w0 (w2.setCell ⟨E + 1, 1, none⟩ (.slice ra' (rs.length + 1) rc')) (rs ++ [r]) os st la lc ys D ra' rc' oa oc ∧ ∀ b, b < wr.heap.size → (Value.slice ra rs.length rc).ownBlock ≠ some b → w2.heap[b]? = wr.heap[b]? := by
  have hb1 := below_alloc wr (.cells #[.bool r.init, .int .i64 r.next] 59)
  have hE := h.env.size
  have hsz : (wr.alloc (.cells #[.bool r.init, .int .i64 r.next] 59)).heap.size = wr.heap.size + 1 := by simp
  have h1 := h.below hb1
  obtain ⟨i, hi, hz, hs, hby⟩ := info_rgQ
  obtain ⟨ra', rc', w2, hr, hm, hg, hnb⟩ := app_own (P := Try.prog) (w := wr.alloc (.cells #[.bool r.init, .int .i64 r.next] 59)) 22 22 59 i _ 2 16 (by kernel_rfl) hi hz hs hby rfl (by decide) (.slice ra rs.length rc) rs.length _ h1.regs.own (some ⟨wr.heap.size, 0, none⟩) 1 1 [.bool r.init, .int .i64 r.next] rfl (Lies.blk (S := AnyB) (cs := [.bool r.init, .int .i64 r.next]) (blk_new wr _) trivial) (by intro u hu; simp at hu; rcases hu with rfl | rfl <;> rfl) (by omega) (by decide)
  have hMe : ∀ b, (Value.slice ra rs.length rc).ownBlock = some b → E + 7 ≤ b ∧ b < wr.heap.size := fun b hb => ⟨h.regs.new b hb, (h.regs.own.lt b hb).2⟩
  have hOt : ∀ b, (Value.slice oa os.length oc).ownBlock = some b → E + 7 ≤ b ∧ b < wr.heap.size := fun b hb => ⟨h.outs.new b hb, (h.outs.own.lt b hb).2⟩
  have hLa : ∀ b, (Value.slice la st.L.length lc).ownBlock = some b → E + 7 ≤ b ∧ b < wr.heap.size := fun b hb => ⟨h.lay.row.new b hb, (h.lay.row.own.lt b hb).2⟩
  have hold : ∀ b, b < wr.heap.size → (Value.slice ra rs.length rc).ownBlock ≠ some b → w2.heap[b]? = wr.heap[b]? := fun b hb hn => (hg.block b (by omega) fun e => hn e.symm).trans (hb1.block b hb)
  have hset : ∀ b, b ≠ E + 1 → (w2.setCell ⟨E + 1, 1, none⟩ (.slice ra' (rs.length + 1) rc')).heap[b]? = w2.heap[b]? := fun b hb => Below.heap_setCell w2 ⟨E + 1, 1, none⟩ _ b hb
  have hall : ∀ b, b < wr.heap.size → (Value.slice ra rs.length rc).ownBlock ≠ some b → b ≠ E + 1 → (w2.setCell ⟨E + 1, 1, none⟩ (.slice ra' (rs.length + 1) rc')).heap[b]? = wr.heap[b]? := fun b hb hn he => (hset b he).trans (hold b hb hn)
  have hnot : ∀ b, (Value.slice ra' (rs.length + 1) rc').ownBlock = some b → (Value.slice ra rs.length rc).ownBlock = some b ∨ wr.heap.size < b := fun b hb => (hnb b hb).imp id fun e => by omega
  have hnt2 := (hold (E + 1) (blk_lt h.lay.nt) fun e => by have := hMe _ e; omega).trans h.lay.nt
  have hrowI : ∀ y ∈ ys, ∀ {T : Nat → Prop}, Lies T wr y.a (intsC y.l.ins) → Lies T (w2.setCell ⟨E + 1, 1, none⟩ (.slice ra' (rs.length + 1) rc')) y.a (intsC y.l.ins) := fun y hy T ht => by
    rcases ht with h0 | ⟨b, off, g1, g2, g3⟩
    · exact .inl h0
    · rcases h.lay.ins y hy with h0 | ⟨b', off', e1, e2, e3⟩
      · exact .inl h0
      · rw [g1] at e1; cases e1
        cases ho : (Value.slice ra rs.length rc).ownBlock with
        | none => exact .inr ⟨_, _, g1, g2, fun i u hu => cell_same (g3 i u hu) (hall _ (cell_lt (g3 i u hu)) (fun e => by rw [ho] at e; cases e) (fun e => by have h7 := e2.1; rw [show b = E + 1 from e] at h7; omega))⟩
        | some c =>
          rcases h.inn c (.inl ho) y hy with h0 | ⟨b2, off2, f1, f2, f3⟩
          · exact .inl h0
          · rw [g1] at f1; cases f1
            exact .inr ⟨_, _, g1, g2, fun i u hu => cell_same (g3 i u hu) (hall _ (cell_lt (g3 i u hu)) (fun e => by rw [ho] at e; cases e; exact f2 rfl) (fun e => by have h7 := e2.1; rw [show b = E + 1 from e] at h7; omega))⟩
  refine ⟨ra', rc', w2, hr, ⟨h.env.keep fun b hb h1 h2 => hall b (by omega) (fun e => by have := hMe b e; omega) h1, ⟨?_, h.lay.ls, h.lay.row.same fun b hb hl => hall b hl (h.sepR b hb) (by have := hLa b hb; omega), fun y hy => hrowI y hy (h.lay.ins y hy), World.ownsMap.setCell (World.ownsMap.kept h1.lay.map hg fun e => by have := hMe _ e.symm; omega) (by show E + 2 ≠ E + 1; omega) _, h.lay.mp⟩, ?_, ?_, fun b hb hi => ?_, fun b hb hi => ?_, fun b hb hi => ?_, fun b hb y hy => ?_, ⟨?_, ?_, ?_, ?_, fun k hk => ?_⟩⟩, hold⟩
  · rw [blk_set hnt2]
    simp
  · rw [List.length_append, rgsC_snocQ]; exact Mine.same ⟨hm, fun b hb => (hnot b hb).elim (fun e => (hMe b e).1) fun e => by omega⟩ fun b hb _ => hset b fun e => by rcases hnot b hb with e2 | e2; (have := hMe b e2; omega); omega
  · exact h.outs.same fun b hb hl => hall b hl (fun e => h.sepQ b e hb) (by have := hOt b hb; omega)
  · rw [List.length_append] at hi; rcases hnot b hi with e | e; (exact h.sepR b hb e); (have := hLa b hb; omega)
  · exact h.sepO b hb hi
  · rw [List.length_append] at hb; rcases hnot b hb with e | e; (exact h.sepQ b e hi); (have := hOt b hi; omega)
  · rw [List.length_append] at hb
    have hnewb : wr.heap.size < b → Lies (fun k => k ≠ b) (w2.setCell ⟨E + 1, 1, none⟩ (.slice ra' (rs.length + 1) rc')) y.a (intsC y.l.ins) := fun e => hrowI y hy (((h.lay.ins y hy).imp (T := fun k => k < wr.heap.size) fun k hk _ => hk).imp fun k _ hk => by omega)
    rcases hb with hb | hb
    · rcases hnot b hb with e | e; (exact hrowI y hy (h.inn b (.inl e) y hy)); (exact hnewb e)
    · exact hrowI y hy (h.inn b (.inr hb) y hy)
  · exact (Kept.set (R := E + 1) w2 1 _).os.trans (hg.os.trans h1.low.os)
  · exact (Kept.set (R := E + 1) w2 1 _).tape.trans (hg.tape.trans h1.low.tape)
  · exact (Kept.set (R := E + 1) w2 1 _).output.trans (hg.output.trans h1.low.output)
  · exact Nat.le_trans h1.low.size (Nat.le_trans hg.size (Kept.set (R := E + 1) w2 1 _).size)
  · exact (hall k (by omega) (fun e => by have := hMe k e; omega) (by omega)).trans (h.low.block k hk)
theorem LNet.pushO (h : LNet E P first n wa wc X SA SC gv w0 wr rs os st la lc ys D ra rc oa oc) (r : Int) (hbig : os.length ≤ 50000) :
    ∃ oa' oc' w2, (Builtin.append_ #[24, 24] 24 #[.slice oa os.length oc, .slice (some ⟨wr.heap.size, 0, none⟩) 1 1]).run Try.prog (wr.alloc (.cells #[.int .i64 r] 3)) = .ok (.slice oa' (os.length + 1) oc') w2 ∧ LNet E P first n wa wc X SA SC gv w0 (w2.setCell ⟨E + 1, 3, none⟩ (.slice oa' (os.length + 1) oc')) rs (os ++ [r]) st la lc ys D ra rc oa' oc' ∧ ∀ b, b < wr.heap.size → (Value.slice oa os.length oc).ownBlock ≠ some b → w2.heap[b]? = wr.heap[b]? := by
  have hb1 := below_alloc wr (.cells #[.int .i64 r] 3)
  have hE := h.env.size
  have hsz : (wr.alloc (.cells #[.int .i64 r] 3)).heap.size = wr.heap.size + 1 := by simp
  have h1 := h.below hb1
  obtain ⟨i, hi, hz, hs, hby⟩ := info_in
  obtain ⟨oa', oc', w2, hr, hm, hg, hnb⟩ := app_own (P := Try.prog) (w := wr.alloc (.cells #[.int .i64 r] 3)) 24 24 3 i _ 1 8 (by kernel_rfl) hi hz hs hby rfl (by decide) (.slice oa os.length oc) os.length _ h1.outs.own (some ⟨wr.heap.size, 0, none⟩) 1 1 [.int .i64 r] rfl (Lies.blk (S := AnyB) (cs := [.int .i64 r]) (blk_new wr _) trivial) (by intro u hu; simp at hu; subst hu; rfl) (by omega) (by decide)
  have hMe : ∀ b, (Value.slice oa os.length oc).ownBlock = some b → E + 7 ≤ b ∧ b < wr.heap.size := fun b hb => ⟨h.outs.new b hb, (h.outs.own.lt b hb).2⟩
  have hOt : ∀ b, (Value.slice ra rs.length rc).ownBlock = some b → E + 7 ≤ b ∧ b < wr.heap.size := fun b hb => ⟨h.regs.new b hb, (h.regs.own.lt b hb).2⟩
  have hLa : ∀ b, (Value.slice la st.L.length lc).ownBlock = some b → E + 7 ≤ b ∧ b < wr.heap.size := fun b hb => ⟨h.lay.row.new b hb, (h.lay.row.own.lt b hb).2⟩
  have hold : ∀ b, b < wr.heap.size → (Value.slice oa os.length oc).ownBlock ≠ some b → w2.heap[b]? = wr.heap[b]? := fun b hb hn => (hg.block b (by omega) fun e => hn e.symm).trans (hb1.block b hb)
  have hset : ∀ b, b ≠ E + 1 → (w2.setCell ⟨E + 1, 3, none⟩ (.slice oa' (os.length + 1) oc')).heap[b]? = w2.heap[b]? := fun b hb => Below.heap_setCell w2 ⟨E + 1, 3, none⟩ _ b hb
  have hall : ∀ b, b < wr.heap.size → (Value.slice oa os.length oc).ownBlock ≠ some b → b ≠ E + 1 → (w2.setCell ⟨E + 1, 3, none⟩ (.slice oa' (os.length + 1) oc')).heap[b]? = wr.heap[b]? := fun b hb hn he => (hset b he).trans (hold b hb hn)
  have hnot : ∀ b, (Value.slice oa' (os.length + 1) oc').ownBlock = some b → (Value.slice oa os.length oc).ownBlock = some b ∨ wr.heap.size < b := fun b hb => (hnb b hb).imp id fun e => by omega
  have hnt2 := (hold (E + 1) (blk_lt h.lay.nt) fun e => by have := hMe _ e; omega).trans h.lay.nt
  have hrowI : ∀ y ∈ ys, ∀ {T : Nat → Prop}, Lies T wr y.a (intsC y.l.ins) → Lies T (w2.setCell ⟨E + 1, 3, none⟩ (.slice oa' (os.length + 1) oc')) y.a (intsC y.l.ins) := fun y hy T ht => by
    rcases ht with h0 | ⟨b, off, g1, g2, g3⟩
    · exact .inl h0
    · rcases h.lay.ins y hy with h0 | ⟨b', off', e1, e2, e3⟩
      · exact .inl h0
      · rw [g1] at e1; cases e1
        cases ho : (Value.slice oa os.length oc).ownBlock with
        | none => exact .inr ⟨_, _, g1, g2, fun i u hu => cell_same (g3 i u hu) (hall _ (cell_lt (g3 i u hu)) (fun e => by rw [ho] at e; cases e) (fun e => by have h7 := e2.1; rw [show b = E + 1 from e] at h7; omega))⟩
        | some c =>
          rcases h.inn c (.inr ho) y hy with h0 | ⟨b2, off2, f1, f2, f3⟩
          · exact .inl h0
          · rw [g1] at f1; cases f1
            exact .inr ⟨_, _, g1, g2, fun i u hu => cell_same (g3 i u hu) (hall _ (cell_lt (g3 i u hu)) (fun e => by rw [ho] at e; cases e; exact f2 rfl) (fun e => by have h7 := e2.1; rw [show b = E + 1 from e] at h7; omega))⟩
  refine ⟨oa', oc', w2, hr, ⟨h.env.keep fun b hb h1 h2 => hall b (by omega) (fun e => by have := hMe b e; omega) h1, ⟨?_, h.lay.ls, h.lay.row.same fun b hb hl => hall b hl (h.sepO b hb) (by have := hLa b hb; omega), fun y hy => hrowI y hy (h.lay.ins y hy), World.ownsMap.setCell (World.ownsMap.kept h1.lay.map hg fun e => by have := hMe _ e.symm; omega) (by show E + 2 ≠ E + 1; omega) _, h.lay.mp⟩, ?_, ?_, fun b hb hi => ?_, fun b hb hi => ?_, fun b hb hi => ?_, fun b hb y hy => ?_, ⟨?_, ?_, ?_, ?_, fun k hk => ?_⟩⟩, hold⟩
  · rw [blk_set hnt2]
    simp
  · exact h.regs.same fun b hb hl => hall b hl (fun e => h.sepQ b hb e) (by have := hOt b hb; omega)
  · rw [List.length_append, intsC_app]; exact Mine.same ⟨hm, fun b hb => (hnot b hb).elim (fun e => (hMe b e).1) fun e => by omega⟩ fun b hb _ => hset b fun e => by rcases hnot b hb with e2 | e2; (have := hMe b e2; omega); omega
  · exact h.sepR b hb hi
  · rw [List.length_append] at hi; rcases hnot b hi with e | e; (exact h.sepO b hb e); (have := hLa b hb; omega)
  · rw [List.length_append] at hi; rcases hnot b hi with e | e; (exact h.sepQ b hb e); (have := hOt b hb; omega)
  · rw [List.length_append] at hb
    have hnewb : wr.heap.size < b → Lies (fun k => k ≠ b) (w2.setCell ⟨E + 1, 3, none⟩ (.slice oa' (os.length + 1) oc')) y.a (intsC y.l.ins) := fun e => hrowI y hy (((h.lay.ins y hy).imp (T := fun k => k < wr.heap.size) fun k hk _ => hk).imp fun k _ hk => by omega)
    rcases hb with hb | hb
    · exact hrowI y hy (h.inn b (.inl hb) y hy)
    · rcases hnot b hb with e | e; (exact hrowI y hy (h.inn b (.inr e) y hy)); (exact hnewb e)
  · exact (Kept.set (R := E + 1) w2 3 _).os.trans (hg.os.trans h1.low.os)
  · exact (Kept.set (R := E + 1) w2 3 _).tape.trans (hg.tape.trans h1.low.tape)
  · exact (Kept.set (R := E + 1) w2 3 _).output.trans (hg.output.trans h1.low.output)
  · exact Nat.le_trans h1.low.size (Nat.le_trans hg.size (Kept.set (R := E + 1) w2 3 _).size)
  · exact (hall k (by omega) (fun e => by have := hMe k e; omega) (by omega)).trans (h.low.block k hk)
end
end Go.Proofs.Ytacgepdmhdcdkaa
