/-
  ROWS that are built behind a world: bytes, numbers. CONTRACTS of written, first.
-/
import Derived.Test.YtndpehjbepfbkaaGreatDoorIPlain
import Derived.Test.YtndpehjbepfbkaaGreatDoorLMem
import Derived.Lib.SlBytesRow
set_option linter.unusedSimpArgs false
set_option linter.unusedVariables false
namespace Go.Proofs.YtndpehjbepfbkaaGreatDoor
open Go.RowKit

/-- a row that is built behind a world -/
structure Row (e size : Nat) (w0 wr : World) (va : Option Addr) (vc k : Nat) (cs : List Value) : Prop where
  below : Below w0.heap.size w0 wr
  mine : Mine e size w0.heap.size wr (.slice va k vc) k cs
theorem Row.none (e size : Nat) (w : World) : Row e size w w .none 0 0 [] := ⟨Below.refl _ _, Mine.none _⟩
theorem Row.more {e size : Nat} {w0 wr wy : World} {va : Option Addr} {vc k : Nat} {cs : List Value} (h : Row e size w0 wr va vc k cs) (hb : Below wr.heap.size wr wy) : Row e size w0 wy va vc k cs := ⟨Below.step h.below hb, h.mine.below hb⟩
theorem Row.lies {e size : Nat} {w0 wr : World} {va : Option Addr} {vc k : Nat} {cs : List Value} (h : Row e size w0 wr va vc k cs) : Lies (FromB w0.heap.size) wr va cs := h.mine.lies fun b hb => h.mine.new b hb
theorem Row.app {e size : Nat} {w0 wr wy : World} {va : Option Addr} {vc k : Nat} {cs : List Value} (h : Row e size w0 wr va vc k cs) (hb : Below wr.heap.size wr wy) {t : TypeId} {z : Value} {by0 : Nat} (hi : ∃ i : TypeInfo, Tryz.prog.info? e = some i ∧ i.zero = some z ∧ i.size = size ∧ i.bytes = by0) (hs0 : 0 < size) (hby : by0 ≤ 1000) (hz : z.cells.size = size) (ht : Tryz.prog.underlying t = some (.slice e)) (new : List Value) (ao : Option Addr) (c m n' : Nat) (hnew : Lies AnyB wy ao new) (hm : new.length = m * size) (h1 : ∀ u ∈ new, u.oneCell' = true) (hn : n' = k + m) (hbig : n' ≤ 1000000) :
    ∃ va' vc' w2, (Builtin.append_ #[t, t] t #[.slice va k vc, .slice ao m c]).run Tryz.prog wy = .ok (.slice va' n' vc') w2 ∧ Row e size w0 w2 va' vc' n' (cs ++ new) := by
  obtain ⟨i, hi, hzz, hs, hb2⟩ := hi
  subst hn
  have h2 := h.more hb
  obtain ⟨va', vc', w2, hr, hmm, hg, hnb⟩ := app_own (P := Tryz.prog) (w := wy) t t e i z size by0 ht hi hzz hs hb2 hz hs0 (.slice va k vc) k _ h2.mine.own ao m c new hm hnew h1 hbig hby
  exact ⟨va', vc', w2, hr, Below.grownW h2.below hg fun b hb => h2.mine.new b hb, hmm, fun b hb => (hnb b hb).elim (h2.mine.new b) (Nat.le_trans h2.below.size)⟩

/-! bytes -/
def byC (l : List UInt8) : List Value := l.map fun c => .int .u8 (c.toNat : Int)
theorem byC_one (l : List UInt8) : ∀ u ∈ byC l, u.oneCell' = true := by
  intro u hu
  obtain ⟨d, _, rfl⟩ := List.mem_map.1 hu
  rfl
theorem byC_app (a b : List UInt8) : byC (a ++ b) = byC a ++ byC b := List.map_append
theorem byC_len (l : List UInt8) : (byC l).length = l.length := List.length_map _
theorem info_by : ∃ i : TypeInfo, Tryz.prog.info? 5 = some i ∧ i.zero = some (.int .u8 0) ∧ i.size = 1 ∧ i.bytes = 1 := info_of (by kernel_rfl)
/-- a row of bytes that is built behind a world -/
structure RowB (w0 wr : World) (va : Option Addr) (vc k : Nat) (l : List UInt8) : Prop where
  row : Row 5 1 w0 wr va vc k (byC l)
  len : l.length = k
theorem RowB.none (w : World) : RowB w w .none 0 0 [] := ⟨Row.none _ _ w, rfl⟩
theorem RowB.more {w0 wr wy : World} {va : Option Addr} {vc k : Nat} {l : List UInt8} (h : RowB w0 wr va vc k l) (hb : Below wr.heap.size wr wy) : RowB w0 wy va vc k l := ⟨h.row.more hb, h.len⟩
theorem RowB.one {w0 wr : World} {va : Option Addr} {vc k : Nat} {l : List UInt8} (h : RowB w0 wr va vc k l) (b : UInt8) (v : Int) (hv : v = (b.toNat : Int)) (hbig : k < 1000000) :
    ∃ va' vc' w2, (Builtin.append_ #[78, 78] 78 #[.slice va k vc, .slice (some ⟨wr.heap.size, 0, .none⟩) 1 1]).run Tryz.prog (wr.alloc (.cells #[.int .u8 v] 5)) = .ok (.slice va' (k + 1) vc') w2 ∧ RowB w0 w2 va' vc' (k + 1) (l ++ [b]) := by
  subst hv
  obtain ⟨va', vc', w2, hr, hrow⟩ := h.row.app (wy := wr.alloc (.cells #[.int .u8 (b.toNat : Int)] 5)) (t := 78) (below_alloc wr _) info_by (by decide) (by decide) rfl (by kernel_rfl) (byC [b]) (some ⟨wr.heap.size, 0, .none⟩) 1 1 (k + 1) (Lies.blk (cs := byC [b]) (blk_new wr (.cells #[.int .u8 (b.toNat : Int)] 5)) trivial) rfl (byC_one _) rfl (by omega)
  exact ⟨va', vc', w2, hr, by rw [byC_app]; exact hrow, by rw [List.length_append, h.len]; rfl⟩
/-- a row of bytes as a text -/
theorem RowB.text {w0 wr : World} {va : Option Addr} {vc k : Nat} {l : List UInt8} (h : RowB w0 wr va vc k l) (hk : 0 < k) : (convert 78 9 (.slice va k vc)).run Tryz.prog wr = .ok (.string ⟨l.toArray⟩) wr := by
  obtain ⟨h, rfl⟩ := h
  rcases h.lies with h0 | ⟨b, off, rfl, _, hc⟩
  · have := congrArg List.length h0
    rw [byC_len] at this
    have : l.length = 0 := this
    omega
  · have hB : Lib.Bytes wr b off ⟨l.toArray⟩ := fun i hi => by
      have hi2 : i < l.length := by simpa [ByteArray.size] using hi
      have := hc i (.int .u8 ((l[i]).toNat : Int)) (by simp [byC, hi2])
      rw [this]; rfl
    have := Lib.run_convert_whole (P := Tryz.prog) wr 78 5 9 (by kernel_rfl) (by kernel_rfl) (by kernel_rfl) b off ⟨l.toArray⟩ hB vc
    exact this

/-! numbers -/
theorem info_i1 : ∃ i : TypeInfo, Tryz.prog.info? 3 = some i ∧ i.zero = some (.int .i64 0) ∧ i.size = 1 ∧ i.bytes = 8 := info_in
structure RowI (w0 wr : World) (va : Option Addr) (vc k : Nat) (l : List Int) : Prop where
  row : Row 3 1 w0 wr va vc k (intsC l)
  len : l.length = k
theorem RowI.none (w : World) : RowI w w .none 0 0 [] := ⟨Row.none _ _ w, rfl⟩
theorem RowI.more {w0 wr wy : World} {va : Option Addr} {vc k : Nat} {l : List Int} (h : RowI w0 wr va vc k l) (hb : Below wr.heap.size wr wy) : RowI w0 wy va vc k l := ⟨h.row.more hb, h.len⟩
theorem intsC_len (l : List Int) : (intsC l).length = l.length := List.length_map _
theorem RowI.app {w0 wr wy : World} {va : Option Addr} {vc k : Nat} {l : List Int} (h : RowI w0 wr va vc k l) (hb : Below wr.heap.size wr wy) (new : List Int) (ao : Option Addr) (c m n' : Nat) (hnew : Lies AnyB wy ao (intsC new)) (hm : new.length = m) (hn : n' = k + m) (hbig : n' ≤ 1000000) :
    ∃ va' vc' w2, (Builtin.append_ #[22, 22] 22 #[.slice va k vc, .slice ao m c]).run Tryz.prog wy = .ok (.slice va' n' vc') w2 ∧ RowI w0 w2 va' vc' n' (l ++ new) := by
  obtain ⟨va', vc', w2, hr, hrow⟩ := h.row.app (t := 22) hb info_in (by decide) (by decide) rfl (by kernel_rfl) (intsC new) ao c m n' hnew (by rw [intsC_len]; omega) (ints_one new) hn hbig
  exact ⟨va', vc', w2, hr, by rw [intsC_app]; exact hrow, by rw [List.length_append, h.len, hm, hn]⟩

theorem byte_of (k : Nat) (h : k < 256) : ((UInt8.ofNat k).toNat : Int) = (k : Int) := by
  have : (UInt8.ofNat k).toNat = k := by simp; omega
  rw [this]

/-- what f bytes more than one have room for -/
def capF (f : Nat) : Nat := 2 ^ (7 * (f + 1))
theorem capF_zero {m : Nat} (h : m < capF 0) : m < 128 := h
theorem capF_three {n : Nat} (h : n < 268435456) : n < capF 3 := h
theorem capF_div {f m : Nat} (h : m < capF (f + 1)) : m / 128 < capF f := by
  unfold capF at *
  rw [show 7 * (f + 1 + 1) = 7 * (f + 1) + 7 by omega, Nat.pow_add] at h
  exact Nat.div_lt_of_lt_mul (by omega)
theorem capF_big {f m : Nat} (h : m < capF f) (hf : f ≤ 3) : m < 268435456 := Nat.lt_of_lt_of_le h (by
  unfold capF
  exact Nat.pow_le_pow_right (n := 2) (by decide) (show 7 * (f + 1) ≤ 28 by omega))

set_option maxRecDepth 100000 in
set_option maxHeartbeats 3200000 in
theorem written_at (w0 w : World) (va : Option Addr) (vc k : Nat) (l : List UInt8) (n : Int) (k' : Nat) (h : RowB w0 w va vc k l) (h0 : 0 ≤ n) (h1 : n < 268435456) (hk : k ≤ 900000) (hk' : k' = k + (codeP n).length) :
    Calls Tryz.prog 64 #[.slice va k vc, .int .i64 n] w fun e w' => ∃ va' vc', e = .returned (.slice va' k' vc') ∧ RowB w0 w' va' vc' k' (l ++ codeP n) := by
  subst hk'
  obtain ⟨n, rfl⟩ := Int.eq_ofNat_of_zero_le h0
  have hlen := h.len
  have HC : Hid (codeP (n : Int) = codeF 3 n) := hide (by simp [codeP])
  rw [HC.out]
  have HH := hide h
  have hl4 := codeF_len2 3 n
  have H1 : Hid (n < capF 3) := hide (capF_three (by omega))
  have HG : Hid (l.length = k) := hide hlen
  clear h hlen h0 h1 HC
  have HL4 := hide hl4
  clear hl4
  go_enter Tryz.func64, Tryz.ntmps64
  go_wp2_with fail
  go_loopw [0, 1] (fun v i wr => ∃ (f m q : Nat) (va' : Option Addr) (vc' : Nat) (l' : List UInt8), i = .int .i64 m ∧ v = .slice va' q vc' ∧ q < k + 4 ∧ k ≤ q ∧ Hid (RowB w0 wr va' vc' q l') ∧ Hid (l' ++ codeF f m = l ++ codeF 3 n) ∧ Hid (m < capF f) ∧ Hid (q + f = k + 3)) (fun _ i _ => (intOf i).toNat)
  case atStart => exact ⟨3, n, k, va, vc, l, rfl, rfl, by omega, Nat.le_refl _, HH, hide rfl, H1, hide rfl⟩
  case round =>
    obtain ⟨f, m, q, va', vc', l', rfl, rfl, hq, hkq, hrb, heq, hm, hqf⟩ := hrel
    by_cases h128 : (128 : Int) ≤ (m : Int)
    · have HF : Hid (∃ f', f = f' + 1) := hide (by
        rcases f with _ | f
        · have := capF_zero hm.out
          omega
        · exact ⟨f, rfl⟩)
      obtain ⟨f, rfl⟩ := HF.out
      clear HF
      have hmod : m % 128 + 128 < 256 := by omega
      obtain ⟨va2, vc2, w2, happ, hrb2⟩ := hrb.out.one (UInt8.ofNat (m % 128 + 128)) ((m : Int) % 128 + 128) (by rw [byte_of _ hmod]; omega) (by omega)
      have HRB2 := hide hrb2
      have HEQ : Hid ((l' ++ [UInt8.ofNat (m % 128 + 128)]) ++ codeF f (m / 128) = l ++ codeF 3 n) := hide (by
        rw [← heq.out, List.append_assoc]
        rw [show codeF (f + 1) m = UInt8.ofNat (m % 128 + 128) :: codeF f (m / 128) by rw [codeF, if_neg (by omega)]]; rfl)
      have HM : Hid (m / 128 < capF f) := hide (capF_div hm.out)
      have HQF : Hid (q + 1 + f = k + 3) := hide (by have := hqf.out; omega)
      have hq2 : q + 1 < k + 4 := by have := hqf.out; omega
      have HDV : Hid (wrap64 ((m : Int) / 128) = ((m / 128 : Nat) : Int)) := hide (by
        have hb : m < 1000000000 := by
          have h2 := hqf.out
          have := capF_big hm.out (by omega)
          omega
        show wrap64 ((m : Int) / 128) = _
        unfold wrap64
        omega)
      clear hrb hrb2 heq hm hqf hmod
      generalize UInt8.ofNat (m % 128 + 128) = bb at *
      go_wp2_with (at_builtin; (refine wpl_append_run happ rfl _ _ rfl rfl rfl ?_))
      rw [HDV.out]
      exact ⟨⟨f, m / 128, q + 1, va2, vc2, _, rfl, rfl, hq2, by omega, HRB2, HEQ, HM, HQF⟩, by simp [intOf]; omega⟩
    · have hml : m < 256 := by omega
      obtain ⟨va2, vc2, w2, happ, hrb2⟩ := hrb.out.one (UInt8.ofNat m) (m : Int) (by rw [byte_of _ hml]) (by omega)
      have HRB2 := hide hrb2
      have HEQ : Hid (l' ++ [UInt8.ofNat m] = l ++ codeF 3 n) := hide (by rw [← heq.out, codeF_small _ _ (by omega)])
      have HQL : Hid (q + 1 = k + (codeF 3 n).length) := hide (by
        have h1 := congrArg List.length HEQ.out
        simp only [List.length_append] at h1
        rw [hrb.out.len, HG.out] at h1
        exact h1)
      clear hrb hrb2 heq hm hqf
      generalize UInt8.ofNat m = bb at *
      go_wp2_with (at_builtin; (refine wpl_append_run happ rfl _ _ rfl rfl rfl ?_))
      go_ret
      rw [← HQL.out, ← HEQ.out]
      exact ⟨va2, vc2, rfl, HRB2.out⟩

set_option maxRecDepth 100000 in
set_option maxHeartbeats 3200000 in
theorem ifirst_at (r : Rg) (w : World) : Calls Tryz.prog 82 #[.agg #[.bool r.init, .int .i64 r.next]] w fun e w' => e = .returned (.int .i64 (if r.init then 1 else 0)) ∧ Below w.heap.size w w' := by
  obtain ⟨i, nx⟩ := r
  have HB := hide (below_alloc w (.cells #[.bool i, .int .i64 nx] 106))
  cases i
  all_goals
    go_enter Tryz.func82, Tryz.ntmps82
    go_wp2_with fail
    go_ret
    exact ⟨rfl, HB.out⟩
end Go.Proofs.YtndpehjbepfbkaaGreatDoor
