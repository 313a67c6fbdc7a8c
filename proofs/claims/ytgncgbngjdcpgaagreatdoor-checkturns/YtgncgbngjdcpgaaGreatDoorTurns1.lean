/-
  append of several; the parts of a row.
-/
import Derived.Test.YtgncgbngjdcpgaaGreatDoorTurns0
import Derived.Test.YtgncgbngjdcpgaaGreatDoorChk2
set_option linter.unusedSimpArgs false
set_option linter.unusedVariables false
namespace Go.Proofs.YtgncgbngjdcpgaaGreatDoor
open Go.RowKit

theorem app_many {P : Program} {w : World} (t ty e : TypeId) (i : TypeInfo) (z : Value) (size bytes : Nat) (ht : P.underlying t = some (.slice e)) (hi : P.info? e = some i) (hz : i.zero = some z)
    (hsize : i.size = size) (hby : i.bytes = bytes) (hzs : z.cells.size = size) (hsz : 0 < size)
    (g n cap : Nat) (xs : List Value) (hown : w.ownsRow 0 e size (.slice (some ⟨g, 0, none⟩) n cap) n xs)
    (ad : Addr) (m c : Nat) (news : List Value) (hl : news.length = m * size) (hnews : ∀ j u, news[j]? = some u → w.cell? (ad.add j) = some u) (h1 : ∀ u ∈ news, u.oneCell' = true)
    (h63 : n + m ≤ 1000000) (hb9 : bytes ≤ 1000) :
    ∃ g' cap' w', (Builtin.append_ #[t, t] ty #[.slice (some ⟨g, 0, none⟩) n cap, .slice (some ad) m c]).run P w = .ok (.slice (some ⟨g', 0, none⟩) (n + m) cap') w' ∧ w'.ownsRow 0 e size (.slice (some ⟨g', 0, none⟩) (n + m) cap') (n + m) (xs ++ news) ∧ w.grownBy w' (some g) ∧ (g' = g ∨ g' = w.heap.size) := by
  have hlen : n + m ≤ maxLen := by simp only [maxLen]; omega
  have hbytes : (n + m) * bytes ≤ 140737488355328 := Nat.le_trans (Nat.mul_le_mul h63 hb9) (by decide)
  obtain ⟨v', w', hr, h2, h3, h4⟩ := run_append_own (P := P) w 0 t ty e i z size bytes ht hi hz hsize hby hzs hsz _ n xs hown ad m c news hl hnews h1 hlen hbytes (Nat.zero_le _)
  have hnew : v'.ownBlock = some g ∨ v'.ownBlock = some w.heap.size := by
    subst hsize
    subst hby
    rcases hown.2 with ⟨h, _⟩ | ⟨g, cap, cur, he, hbg, hg, hnc, hcm, hcs, htake⟩
    · cases h
    · cases he
      by_cases hroom : n + m ≤ cap
      · have hfit : n * i.size + news.length ≤ cur.size := by rw [hcs, hl, ← Nat.add_mul]; exact Nat.mul_le_mul_right i.size hroom
        have hq := run_append_room (P := P) w t ty e i ht hi g n cap cur hg ad m c news hl hnews h1 hroom hfit
        rw [hq] at hr
        cases hr
        exact .inl rfl
      · have holds : ∀ j u, xs[j]? = some u → w.cell? ((⟨g, 0, none⟩ : Addr).add j) = some u := hown.cells (g := g) rfl
        have hq := run_append_grow (P := P) w t ty e i z ht hi hz ⟨g, 0, none⟩ n cap xs hown.1 holds ad m c news hl hnews (by omega) (by simp only [maxLen] at hlen; omega) (growslice_fits (by omega) hbytes)
        rw [hq] at hr
        cases hr
        exact .inr rfl
  rcases h2.2 with ⟨rfl, _⟩ | ⟨g', cap', cur, rfl, _⟩
  · rcases hnew with h | h <;> simp [Value.ownBlock] at h
  · refine ⟨g', cap', w', hr, h2, h3, ?_⟩
    rcases hnew with h | h <;> simp [Value.ownBlock] at h
    · exact .inl h
    · exact .inr h
theorem wp_append_run {P : Program} {o : Oper} {a : Act} {w w' : World} {K : Act → World → Prop} {Q : Exit → Act → World → Prop} {v x v' : Value} {t : TypeId} (hr : (Builtin.append_ #[t, t] o.type #[v, x]).run P w = .ok v' w') (so xo : Operand) (ho : o.op = .call { callee := .builtin .append, args := #[so, xo], argTypes := #[t, t] }) (hs : a.eval so = v) (hx : a.eval xo = x) (h : K (a.put o.dst v') w') : Oper.wp P o a w K Q := by
  unfold Oper.wp execOp
  simp only [ho, resolve, invoke, builtin, Sem.run_bind, Sem.run_pure, Result.andThen_ok, List.map_toArray, List.map_cons, List.map_nil, hs, hx, hr]
  exact h
theorem wpl_append_run {P : Program} {ops : Array Oper} {rest : List Oper} {o : Oper} {a : Act} {w w' : World} {Q : Exit → Act → World → Prop} {v x v' : Value} {t : TypeId} (hr : (Builtin.append_ #[t, t] o.type #[v, x]).run P w = .ok v' w') (hgd : o.guard = none) (so xo : Operand) (ho : o.op = .call { callee := .builtin .append, args := #[so, xo], argTypes := #[t, t] }) (hs : a.eval so = v) (hx : a.eval xo = x) (h : wpList P ops Q rest (a.put o.dst v') w') : wpList P ops Q (o :: rest) a w := by
  refine wpList_plain hgd fun K hK => ?_
  exact wp_append_run hr so xo ho hs hx (hK _ _ h)
theorem add0 (b j : Nat) : (⟨b, 0, none⟩ : Addr).add j = ⟨b, j, none⟩ := by
  unfold Addr.add
  split <;> simp_all
theorem conv_one {w : World} {b : Nat} (j : Nat) (hj : j < 26) (h : w.heap[b]? = some (.cells #[.int .u8 (97 + (j : Int))] 5 (0, 0))) : (convert 62 9 (.slice (some ⟨b, 0, none⟩) 1 1)).run Tryz.prog w = .ok (.string ⟨#[UInt8.ofNat (97 + j)]⟩) w := by
  refine run_convert_bytes_back (P := Tryz.prog) w 62 9 5 ⟨b, 0, none⟩ 1 [UInt8.ofNat (97 + j)] (by kernel_rfl) (by kernel_rfl) (by kernel_rfl) ?_
  intro k hk
  have hk0 : k = 0 := by simp at hk; exact hk
  subst hk0
  rw [add0, blk_cell h]
  have e : (UInt8.ofNat (97 + j)).toNat = 97 + j := by simp [UInt8.toNat_ofNat]; omega
  show some (Value.int .u8 (97 + (j : Int))) = some (Value.int .u8 (((UInt8.ofNat (97 + j)).toNat : Nat) : Int))
  rw [e]
  congr 2
theorem flat4len : ∀ (cs : List De), (cs.flatMap deCells).length = cs.length * 4
  | [] => rfl
  | d :: cs => by
    have h : (deCells d).length = 4 := rfl
    have e : (d :: cs).length = cs.length + 1 := rfl
    rw [List.flatMap_cons, List.length_append, flat4len cs, h, e]
    omega
theorem flat_one (cs : List De) : ∀ u ∈ cs.flatMap deCells, u.oneCell' = true := by
  intro u hu
  obtain ⟨d, _, h⟩ := List.mem_flatMap.1 hu
  simp [deCells] at h
  rcases h with rfl | rfl | rfl | rfl <;> rfl
theorem des_part {S : Nat → Prop} {w : World} {l : List De} {g cap : Nat} (h : IsDes S w l (.slice (some ⟨g, 0, none⟩) l.length cap)) (k : Nat) {m : List De} (hm : ∃ r, l.drop k = m ++ r) (hk : k ≤ l.length) : ∀ j u, (m.flatMap deCells)[j]? = some u → w.cell? ((⟨g, k * 4, none⟩ : Addr).add j) = some u := by
  intro j u hj
  obtain ⟨r, hm⟩ := hm
  have h1 : (l.flatMap deCells)[k * 4 + j]? = some u := by
    have e : l = l.take k ++ (m ++ r) := by rw [← hm, List.take_append_drop]
    rw [e, List.flatMap_append, List.flatMap_append, List.getElem?_append_right (by rw [flat4len, List.length_take]; omega), flat4len, List.length_take, Nat.min_eq_left hk, Nat.add_sub_cancel_left, List.getElem?_append_left (by
      rcases Nat.lt_or_ge j (m.flatMap deCells).length with h | h
      · exact h
      · rw [List.getElem?_eq_none h] at hj; cases hj)]
    exact hj
  have := h.1.cells (g := g) rfl (k * 4 + j) u h1
  unfold Addr.add at this ⊢
  split at this <;> split <;> simp_all
theorem des_cap {S : Nat → Prop} {w : World} {l : List De} {g cap : Nat} (h : IsDes S w l (.slice (some ⟨g, 0, none⟩) l.length cap)) : l.length ≤ cap ∧ cap ≤ maxLen := by
  rcases h.1.2 with ⟨h, _⟩ | ⟨g', cap', cur, he, _, _, h1, h2, _⟩
  · cases h
  · cases he; exact ⟨h1, h2⟩
theorem slice_from (g n ac k : Nat) (hk : k < n) (hc : n ≤ ac) (hm : ac ≤ maxLen) (W : World) : (Instr.slice 22 (.slice (some ⟨g, 0, none⟩) n ac) (some (.int .i64 k)) none none).run Tryz.prog W = .ok (.slice (some ⟨g, k * 4, none⟩) (n - k) (ac - k)) W := by
  have h1 : (k : Int) ≤ (n : Int) := by omega
  have h2 : ¬ ac = k := by omega
  go_simp
theorem slice_to (g n ac k : Nat) (hk : k < n) (hc : n ≤ ac) (hm : ac ≤ maxLen) (W : World) : (Instr.slice 22 (.slice (some ⟨g, 0, none⟩) n ac) none (some (.int .i64 k)) none).run Tryz.prog W = .ok (.slice (some ⟨g, 0, none⟩) k ac) W := by
  have h1 : (k : Int) ≤ (ac : Int) := by omega
  have h2 : ¬ ac = 0 := by omega
  go_simp
theorem des_app {B g n1 cap m c n' : Nat} {w0 w : World} {l1 new : List De} {ad : Addr} (hb : Below B w0 w) (hB : B ≤ w.heap.size) (hown : IsDes (From B) w l1 (.slice (some ⟨g, 0, none⟩) n1 cap)) (hn1 : l1.length = n1) (hm : new.length = m) (hn' : n' = n1 + m)
    (hnews : ∀ j u, (new.flatMap deCells)[j]? = some u → w.cell? (ad.add j) = some u) (hbig : n' ≤ 1000) :
    ∃ g' cap' w', (Builtin.append_ #[22, 22] 22 #[.slice (some ⟨g, 0, none⟩) n1 cap, .slice (some ad) m c]).run Tryz.prog w = .ok (.slice (some ⟨g', 0, none⟩) n' cap') w' ∧ Below B w0 w' ∧ B ≤ w'.heap.size ∧ IsDes (From B) w' (l1 ++ new) (.slice (some ⟨g', 0, none⟩) n' cap') ∧ n' ≤ cap' ∧ cap' ≤ maxLen := by
  obtain ⟨i, hi, hz, hs, hby⟩ := info_de
  subst hn1 hm hn'
  obtain ⟨g', cap', w', hr, h2, h3, h4⟩ := app_many (P := Tryz.prog) (w := w) 22 22 60 i _ 4 40 (by kernel_rfl) hi hz hs hby rfl (by decide) g l1.length cap _ hown.1 ad new.length c (new.flatMap deCells) (flat4len new) hnews (flat_one new) (by omega) (by decide)
  have hg : B ≤ g := hown.2 g rfl
  refine ⟨g', cap', w', hr, ⟨h3.os.trans hb.os, h3.tape.trans hb.tape, h3.output.trans hb.output, Nat.le_trans hb.size h3.size, fun k hk => (h3.block k (Nat.lt_of_lt_of_le hk hB) (fun e => by cases e; omega)).trans (hb.block k hk)⟩, Nat.le_trans hB h3.size, ⟨?_, ?_⟩, ?_⟩
  · rw [List.length_append, List.flatMap_append]; exact h2
  · intro b hb'
    simp [Value.ownBlock] at hb'
    subst hb'
    show B ≤ g'
    rcases h4 with h | h <;> omega
  · rcases h2.2 with ⟨h, _⟩ | ⟨g2, cap2, cur, he, _, _, q1, q2, _⟩
    · cases h
    · cases he; exact ⟨q1, q2⟩
theorem des_last {S : Nat → Prop} {w : World} {l : List De} {d : De} {g n cap : Nat} (h : IsDes S w (l ++ [d]) (.slice (some ⟨g, 0, none⟩) n cap)) (nm : ByteArray) : w.frozen? ⟨g, l.length * 4, none⟩ = false ∧ IsDes S (w.setCell ⟨g, l.length * 4, none⟩ (.string nm)) (l ++ [{ d with name := nm }]) (.slice (some ⟨g, 0, none⟩) n cap) := by
  rcases h.1.2 with ⟨h, _⟩ | ⟨g', cap', cur, he, hb, hg, h1, h2, h3, h4⟩
  · cases h
  · have hn : n = (l ++ [d]).length := by cases he; rfl
    have hgg : g' = g := by cases he; rfl
    have hcc : cap' = cap := by cases he; rfl
    subst hgg hcc
    refine ⟨blk_frozen hg _, ⟨⟨by rw [flat4len], .inr ⟨g', cap', cur.setIfInBounds (l.length * 4) (.string nm), by rw [hn]; simp, hb, blk_set hg _ _, by simpa using h1, h2, by simpa using h3, ?_⟩⟩, fun b hb' => h.2 b hb'⟩⟩
    have e1 : (l ++ [{ d with name := nm }]).length = (l ++ [d]).length := by simp
    rw [e1, Array.toList_setIfInBounds, List.take_set, h4, List.flatMap_append, List.flatMap_append, List.set_append_right (l.length * 4) _ (by rw [flat4len]; exact Nat.le_refl _), flat4len, Nat.sub_self]
    rfl
end Go.Proofs.YtgncgbngjdcpgaaGreatDoor
