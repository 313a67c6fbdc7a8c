/-
  append, onto a row of the call's own, of what lies anywhere; CONTRACTS of slices.Clone.
-/
import Derived.Test.YtacgepdmhdcdkaaMM
set_option linter.unusedSimpArgs false
set_option linter.unusedVariables false
namespace Go.Proofs.Ytacgepdmhdcdkaa
open Go.RowKit

theorem app_own {P : Program} {w : World} (t ty e : TypeId) (i : TypeInfo) (z : Value) (size bytes : Nat) (ht : P.underlying t = some (.slice e)) (hi : P.info? e = some i) (hz : i.zero = some z)
    (hsize : i.size = size) (hby : i.bytes = bytes) (hzs : z.cells.size = size) (hsz : 0 < size)
    (v : Value) (n : Nat) (xs : List Value) (hown : w.ownsRow 0 e size v n xs)
    (ao : Option Addr) (m c : Nat) (news : List Value) (hl : news.length = m * size) (hnews : Lies AnyB w ao news) (h1 : ∀ u ∈ news, u.oneCell' = true)
    (h63 : n + m ≤ 1000000) (hb9 : bytes ≤ 1000) :
    ∃ ao' cap' w', (Builtin.append_ #[t, t] ty #[v, .slice ao m c]).run P w = .ok (.slice ao' (n + m) cap') w' ∧ w'.ownsRow 0 e size (.slice ao' (n + m) cap') (n + m) (xs ++ news) ∧ w.grownBy w' v.ownBlock ∧ (∀ b, (Value.slice ao' (n + m) cap').ownBlock = some b → v.ownBlock = some b ∨ w.heap.size ≤ b) := by
  have hlen : n + m ≤ maxLen := by simp only [maxLen]; omega
  have hbytes : (n + m) * bytes ≤ 140737488355328 := Nat.le_trans (Nat.mul_le_mul h63 hb9) (by decide)
  rcases hnews with hnews | ⟨b, off, rfl, _, hnews⟩
  · subst hnews
    have hm0 : m = 0 := by
      rcases Nat.eq_zero_or_pos m with h | h
      · exact h
      · have := Nat.mul_pos h hsz; simp at hl; omega
    subst hm0
    have hsrc : Src P i.size t (.slice ao 0 c) 0 [] w := by
      cases ao with
      | none => exact Src.ofNil w ht c
      | some a => exact Src.ofSlice w ht a 0 c [] (by simp) (by simp) (by simp)
    rcases hown.2 with ⟨rfl, rfl⟩ | ⟨g, cap, cur, rfl, hbg, hg, hnc, hcm, hcs, htake⟩
    · exact ⟨none, 0, w, run_append_nothing w t t ty e i ht hi none 0 0 (Nat.le_refl _) _ hsrc, by simpa using hown, ⟨rfl, rfl, rfl, Nat.le_refl _, fun _ _ _ => rfl⟩, fun b hb => by cases hb⟩
    · exact ⟨some ⟨g, 0, none⟩, cap, w, run_append_nothing w t t ty e i ht hi _ n cap hnc _ hsrc, by simpa using hown, ⟨rfl, rfl, rfl, Nat.le_refl _, fun _ _ _ => rfl⟩, fun b hb => .inl hb⟩
  · have hnews' : ∀ j u, news[j]? = some u → w.cell? ((⟨b, off, none⟩ : Addr).add j) = some u := fun j u hu => by rw [Addr.add_lit]; exact hnews j u hu
    rcases hown.2 with ⟨rfl, rfl⟩ | ⟨g, cap, cur, rfl, hbg, hg, hnc, hcm, hcs, htake⟩
    · have hxs : xs = [] := List.eq_nil_of_length_eq_zero (by have := hown.1; simpa using this)
      subst hxs
      obtain ⟨v', w', hr, h2, h3, h4⟩ := run_append_own (P := P) w w.heap.size t ty e i z size bytes ht hi hz hsize hby hzs hsz _ 0 [] (World.ownsRow_nil w _ e size) ⟨b, off, none⟩ m c news hl hnews' h1 hlen hbytes (Nat.le_refl _)
      have h2' : w'.ownsRow 0 e size v' (0 + m) ([] ++ news) := ⟨h2.1, h2.2.imp id fun ⟨g, cap, cur, a, b, c, d⟩ => ⟨g, cap, cur, a, Nat.zero_le _, c, d⟩⟩
      rcases h2.2 with ⟨rfl, h0⟩ | ⟨g', cap', cur', rfl, hge, _⟩
      · obtain rfl : m = 0 := by omega
        exact ⟨none, 0, w', hr, h2', h3, fun b hb => by cases hb⟩
      · exact ⟨_, cap', w', hr, h2', h3, fun b hb => .inr (by simp [Value.ownBlock] at hb; subst hb; exact hge)⟩
    · obtain ⟨v', w', hr, h2, h3, h4⟩ := run_append_own (P := P) w 0 t ty e i z size bytes ht hi hz hsize hby hzs hsz _ n xs hown ⟨b, off, none⟩ m c news hl hnews' h1 hlen hbytes (Nat.zero_le _)
      have hnew : v'.ownBlock = some g ∨ v'.ownBlock = some w.heap.size := by
        subst hsize
        subst hby
        by_cases hroom : n + m ≤ cap
        · have hfit : n * i.size + news.length ≤ cur.size := by rw [hcs, hl, ← Nat.add_mul]; exact Nat.mul_le_mul_right i.size hroom
          have hq := run_append_room (P := P) w t ty e i ht hi g n cap cur hg ⟨b, off, none⟩ m c news hl hnews' h1 hroom hfit
          rw [hq] at hr
          cases hr
          exact .inl rfl
        · have holds : ∀ j u, xs[j]? = some u → w.cell? ((⟨g, 0, none⟩ : Addr).add j) = some u := hown.cells (g := g) rfl
          have hq := run_append_grow (P := P) w t ty e i z ht hi hz ⟨g, 0, none⟩ n cap xs hown.1 holds ⟨b, off, none⟩ m c news hl hnews' (by omega) (by simp only [maxLen] at hlen; omega) (growslice_fits (by omega) hbytes)
          rw [hq] at hr
          cases hr
          exact .inr rfl
      rcases h2.2 with ⟨rfl, _⟩ | ⟨g', cap', cur', rfl, _⟩
      · rcases hnew with h | h <;> simp [Value.ownBlock] at h
      · refine ⟨_, cap', w', hr, h2, h3, fun b hb => ?_⟩
        rw [hb] at hnew
        rcases hnew with h | h
        · cases h; exact .inl rfl
        · cases h; exact .inr (Nat.le_refl _)

/-- a row of the call's own: its blocks are from B on -/
structure Mine (e size B : Nat) (w : World) (v : Value) (n : Nat) (xs : List Value) : Prop where
  own : w.ownsRow 0 e size v n xs
  new : ∀ b, v.ownBlock = some b → B ≤ b
theorem Mine.same {e size B : Nat} {w w' : World} {v : Value} {n : Nat} {xs : List Value} (h : Mine e size B w v n xs) (hb : ∀ b, v.ownBlock = some b → b < w.heap.size → w'.heap[b]? = w.heap[b]?) : Mine e size B w' v n xs := by
  refine ⟨⟨h.own.1, ?_⟩, h.new⟩
  rcases h.own.2 with h0 | ⟨g, cap, cur, rfl, hbg, hg, hr⟩
  · exact .inl h0
  · exact .inr ⟨g, cap, cur, rfl, hbg, (hb g rfl (blk_lt hg)).trans hg, hr⟩
theorem Mine.below {e size B : Nat} {w w' : World} {v : Value} {n : Nat} {xs : List Value} (h : Mine e size B w v n xs) (hb : Below w.heap.size w w') : Mine e size B w' v n xs := h.same fun b _ hl => hb.block b hl
theorem Mine.lies {e size B : Nat} {w : World} {ao : Option Addr} {n m cap : Nat} {xs : List Value} (h : Mine e size B w (.slice ao m cap) n xs) {S : Nat → Prop} (hS : ∀ b, (Value.slice ao m cap).ownBlock = some b → S b) : Lies S w ao xs := by
  rcases h.own.2 with ⟨h0, h1⟩ | ⟨g, cap, cur, hv, hbg, hg, hr⟩
  · left
    have := h.own.1
    rw [h1] at this
    exact List.eq_nil_of_length_eq_zero (by simpa using this)
  · cases hv
    right
    refine ⟨g, 0, rfl, hS g rfl, fun i u hu => ?_⟩
    have := h.own.cells (g := g) rfl i u hu
    rwa [Addr.add_lit] at this
theorem Mine.empty {e size : Nat} {w : World} {o : Nat} (h : w.heap[o]? = some (.cells #[] e (0, 0))) : Mine e size o w (.slice (some ⟨o, 0, none⟩) 0 0) 0 [] :=
  ⟨⟨by simp, .inr ⟨o, 0, #[], rfl, Nat.zero_le _, h, Nat.le_refl _, by decide, by simp, by simp⟩⟩, fun b hb => by simp [Value.ownBlock] at hb; omega⟩
theorem Mine.none {e size B : Nat} (w : World) : Mine e size B w (.slice .none 0 0) 0 [] := ⟨World.ownsRow_nil w 0 e size, fun b hb => by cases hb⟩
theorem Mine.from {e size B C : Nat} {w : World} {v : Value} {n : Nat} {xs : List Value} (h : Mine e size B w v n xs) (hc : C ≤ B) : Mine e size C w v n xs := ⟨h.own, fun b hb => Nat.le_trans hc (h.new b hb)⟩

theorem info_of {P : Program} {t : TypeId} {z : Value} {s b : Nat} (h : (P.info? t).map (fun i => (i.zero, i.size, i.bytes)) = some (some z, s, b)) : ∃ i : TypeInfo, P.info? t = some i ∧ i.zero = some z ∧ i.size = s ∧ i.bytes = b := by
  cases hi : P.info? t with
  | none => rw [hi] at h; cases h
  | some i =>
    rw [hi] at h
    simp only [Option.map_some, Option.some.injEq, Prod.mk.injEq] at h
    exact ⟨i, rfl, h.1, h.2.1, h.2.2⟩
theorem info_in : ∃ i : TypeInfo, Try.prog.info? 3 = some i ∧ i.zero = some (.int .i64 0) ∧ i.size = 1 ∧ i.bytes = 8 := info_of (by kernel_rfl)
theorem info_bo : ∃ i : TypeInfo, Try.prog.info? 4 = some i ∧ i.zero = some (.bool false) ∧ i.size = 1 ∧ i.bytes = 1 := info_of (by kernel_rfl)

theorem nds_one (ns : List Nd) : ∀ u ∈ ndsC ns, u.oneCell' = true := by
  intro u hu
  obtain ⟨d, _, h⟩ := List.mem_flatMap.1 hu
  simp [ndCells] at h
  rcases h with rfl | rfl | rfl | rfl <;> rfl
theorem ints_one (os : List Int) : ∀ u ∈ intsC os, u.oneCell' = true := by
  intro u hu
  obtain ⟨d, _, rfl⟩ := List.mem_map.1 hu
  rfl
theorem bits_one (os : List Bool) : ∀ u ∈ bitsC os, u.oneCell' = true := by
  intro u hu
  obtain ⟨d, _, rfl⟩ := List.mem_map.1 hu
  rfl
theorem ndsC_app (a b : List Nd) : ndsC (a ++ b) = ndsC a ++ ndsC b := List.flatMap_append
theorem intsC_app (a b : List Int) : intsC (a ++ b) = intsC a ++ intsC b := List.map_append
theorem bitsC_app (a b : List Bool) : bitsC (a ++ b) = bitsC a ++ bitsC b := List.map_append

/-- what an append comes to -/
def Apped (t e size B : Nat) (w : World) (v : Value) (m : Nat) (ao : Option Addr) (c n' : Nat) (xs : List Value) : Prop :=
  ∃ ao' cap' w', (Builtin.append_ #[t, t] t #[v, .slice ao m c]).run Try.prog w = .ok (.slice ao' n' cap') w' ∧ Mine e size B w' (.slice ao' n' cap') n' xs ∧ w.grownBy w' v.ownBlock ∧ (∀ b, (Value.slice ao' n' cap').ownBlock = some b → v.ownBlock = some b ∨ w.heap.size ≤ b)

theorem app_in {B : Nat} {w : World} {v : Value} {l new : List Int} {n m n' c : Nat} {ao : Option Addr} (h : Mine 3 1 B w v n (intsC l)) (hn : l.length = n) (hm : new.length = m) (hn' : n' = n + m) (hnew : Lies AnyB w ao (intsC new)) (hB : B ≤ w.heap.size) (hbig : n' ≤ 100000) :
    Apped 24 3 1 B w v m ao c n' (intsC (l ++ new)) := by
  obtain ⟨i, hi, hz, hs, hby⟩ := info_in
  subst hn hm hn'
  obtain ⟨ao', cap', w', hr, h2, h3, h4⟩ := app_own (P := Try.prog) (w := w) 24 24 3 i _ 1 8 (by kernel_rfl) hi hz hs hby rfl (by decide) v l.length _ h.own ao new.length c (intsC new) (by simp [intsC]) hnew (ints_one new) (by omega) (by decide)
  exact ⟨ao', cap', w', hr, ⟨by rw [intsC_app]; exact h2, fun b hb => (h4 b hb).elim (h.new b) (Nat.le_trans hB)⟩, h3, h4⟩
theorem app_bo {B : Nat} {w : World} {v : Value} {l new : List Bool} {n m n' c : Nat} {ao : Option Addr} (h : Mine 4 1 B w v n (bitsC l)) (hn : l.length = n) (hm : new.length = m) (hn' : n' = n + m) (hnew : Lies AnyB w ao (bitsC new)) (hB : B ≤ w.heap.size) (hbig : n' ≤ 100000) :
    Apped 36 4 1 B w v m ao c n' (bitsC (l ++ new)) := by
  obtain ⟨i, hi, hz, hs, hby⟩ := info_bo
  subst hn hm hn'
  obtain ⟨ao', cap', w', hr, h2, h3, h4⟩ := app_own (P := Try.prog) (w := w) 36 36 4 i _ 1 1 (by kernel_rfl) hi hz hs hby rfl (by decide) v l.length _ h.own ao new.length c (bitsC new) (by simp [bitsC]) hnew (bits_one new) (by omega) (by decide)
  exact ⟨ao', cap', w', hr, ⟨by rw [bitsC_app]; exact h2, fun b hb => (h4 b hb).elim (h.new b) (Nat.le_trans hB)⟩, h3, h4⟩

theorem eql_nil {P : Program} (w : World) (t e : TypeId) (a : Option Addr) (n c : Nat) (h : P.underlying t = some (.slice e)) : (binOp .eql t (.slice a n c) (.slice none 0 0)).run P w = .ok (.bool a.isNone) w := by
  simp only [binOp]
  simp [Op.equal, Op.maxDepth, Lib.run_equalIn_slice_nil w 9999 t e a n c 0 0 h]

set_option maxRecDepth 100000 in
set_option maxHeartbeats 1600000 in
theorem cloneI_at {S : Nat → Prop} (ns : List Int) (ao : Option Addr) (cap : Nat) (w : World) (h : Lies S w ao (intsC ns)) (hn : ns.length ≤ 20000) :
    Calls Try.prog 28 #[.slice ao ns.length cap] w fun e w' => (∃ ao' cap', e = .returned (.slice ao' ns.length cap') ∧ Lies (FromB w.heap.size) w' ao' (intsC ns)) ∧ Below w.heap.size w w' := by
  cases ao with
  | none =>
    have h0 : ns.length = 0 := by
      rcases h with h | ⟨b, off, h1, _⟩
      · have := congrArg List.length h
        simpa [intsC] using this
      · cases h1
    obtain rfl : ns = [] := List.eq_nil_of_length_eq_zero h0
    have hnl := fun w => eql_nil (P := Try.prog) w 24 3 none 0 cap (by kernel_rfl)
    go_enter Try.func28, Try.ntmps28
    go_wp2_with fail
    go_ret
    exact ⟨⟨_, _, rfl, .inl rfl⟩, Below.refl _ _⟩
  | some a =>
    have HB := hide (below_alloc w (.cells #[] 3))
    have HN := hide (blk_new w (.cells #[] 3))
    obtain ⟨ao', cap', w2, happ, hm, hg, hnb⟩ := app_in (c := cap) (n' := ns.length) (Mine.empty HN.out (size := 1)) (l := []) rfl (new := ns) rfl (by omega) (h.any.below HB.out) (by simp) (by omega)
    have HM := hide hm
    have HG := hide hg
    clear hm hg hnb h
    have hnl := fun w => eql_nil (P := Try.prog) w 24 3 (some a) ns.length cap (by kernel_rfl)
    go_enter Try.func28, Try.ntmps28
    go_wp2_with (at_builtin; (refine wpl_append_run happ rfl _ _ rfl rfl rfl ?_))
    go_ret
    refine ⟨⟨ao', cap', rfl, HM.out.lies fun b hb => HM.out.new b hb⟩, ?_⟩
    exact ⟨HG.out.os.trans HB.out.os, HG.out.tape.trans HB.out.tape, HG.out.output.trans HB.out.output, Nat.le_trans HB.out.size HG.out.size, fun k hk => (HG.out.block k (Nat.lt_of_lt_of_le hk HB.out.size) (fun e => by simp [Value.ownBlock] at e; omega)).trans (HB.out.block k hk)⟩

theorem made_bits (n : Nat) : madeCells #[Value.bool false] n = (bitsC (List.replicate n false)).toArray := by
  apply Array.ext_getElem?
  intro j
  by_cases hj : j < n
  · simp [madeCells, hj, Nat.mod_one, bitsC]
  · simp [madeCells, hj, bitsC]
theorem mk_bits (n : Nat) (hn : n ≤ 20000) (w : World) : (Instr.makeSlice 36 (.int .i64 n) (.int .i64 n)).run Try.prog w = .ok (.slice (some ⟨w.heap.size, 0, none⟩) n n) (w.alloc (.cells (bitsC (List.replicate n false)).toArray 4)) := by
  obtain ⟨i, hi, hz, hs, hby⟩ := info_bo
  have h := run_make (P := Try.prog) w 36 4 i _ (by kernel_rfl) hi hz .i64 .i64 n n (by omega) (Int.le_refl _) (by rw [hby]; omega) (by omega)
  rw [Int.toNat_natCast, hs, Nat.mul_one] at h
  rw [show (Value.bool false).cells = #[Value.bool false] from rfl, made_bits] at h
  exact h
end Go.Proofs.Ytacgepdmhdcdkaa
