/-
  MEMORY: rows of tables and of registers; a net of tables, and what goes through it.
-/
import Derived.Test.YtacgepdmhdcdkaaMA
import Derived.Test.YtacgepdmhdcdkaaLPlain
import Derived.Lib.QuietBelow
set_option linter.unusedSimpArgs false
set_option linter.unusedVariables false
namespace Go.Proofs.Ytacgepdmhdcdkaa
open Go.RowKit

theorem Below.drewNs {n : Nat} {w w' : World} (h : Below n w w') (k : Nat) : Below n w (w'.drewN k) := ⟨h.os, h.tape, h.output, h.size, h.block⟩

theorem wrap_id {x y : Int} (e : x = y) (h0 : -9000000000 ≤ y) (h1 : y ≤ 9000000000) : IntKind.i64.wrap x = y := by
  subst e; simp [IntKind.wrap, IntKind.bits, IntKind.signed]; omega
/-- cells, two and two -/
def pairC (f g : Nat → Value) : Nat → List Value
  | 0 => []
  | n + 1 => pairC f g n ++ [f n, g n]
theorem pairC_len (f g : Nat → Value) (n : Nat) : (pairC f g n).length = n * 2 := by
  induction n with
  | zero => rfl
  | succ n ih => simp only [pairC, List.length_append, ih, List.length_cons, List.length_nil]; omega
theorem pairC_f (f g : Nat → Value) : ∀ (n i : Nat), i < n → (pairC f g n)[i * 2]? = some (f i)
  | 0, i, h => absurd h (Nat.not_lt_zero _)
  | n + 1, i, h => by
    simp only [pairC]
    by_cases e : i = n
    · subst e; rw [List.getElem?_append_right (by rw [pairC_len]; exact Nat.le_refl _), pairC_len, Nat.sub_self]; rfl
    · rw [List.getElem?_append_left (by rw [pairC_len]; omega)]; exact pairC_f f g n i (by omega)
theorem pairC_g (f g : Nat → Value) : ∀ (n i : Nat), i < n → (pairC f g n)[i * 2 + 1]? = some (g i)
  | 0, i, h => absurd h (Nat.not_lt_zero _)
  | n + 1, i, h => by
    simp only [pairC]
    by_cases e : i = n
    · subst e; rw [List.getElem?_append_right (by rw [pairC_len]; omega), pairC_len, show i * 2 + 1 - i * 2 = 1 by omega]; rfl
    · rw [List.getElem?_append_left (by rw [pairC_len]; omega)]; exact pairC_g f g n i (by omega)
theorem pairC_congr {f g f' g' : Nat → Value} {n : Nat} (h : ∀ i, i < n → f i = f' i ∧ g i = g' i) : pairC f g n = pairC f' g' n := by
  induction n with
  | zero => rfl
  | succ n ih =>
    simp only [pairC]
    rw [ih fun i hi => h i (by omega), (h n (by omega)).1, (h n (by omega)).2]
theorem pairC_set (f g : Nat → Value) (n i : Nat) (v : Value) (h : i < n) : (pairC f g n).set (i * 2) v = pairC (fun j => if j = i then v else f j) g n := by
  induction n with
  | zero => exact absurd h (Nat.not_lt_zero _)
  | succ n ih =>
    simp only [pairC]
    by_cases e : i = n
    · subst e
      rw [List.set_append_right _ _ (by rw [pairC_len]; exact Nat.le_refl _), pairC_len, Nat.sub_self, if_pos rfl]
      congr 1
      exact pairC_congr fun j hj => ⟨by rw [if_neg (by omega)], rfl⟩
    · rw [List.set_append_left _ _ (by rw [pairC_len]; omega), ih (by omega), if_neg (fun h => e h.symm)]
theorem pairC_add (f g : Nat → Value) (n : Nat) : ∀ m, pairC f g (n + m) = pairC f g n ++ pairC (fun i => f (n + i)) (fun i => g (n + i)) m
  | 0 => by simp [pairC]
  | m + 1 => by
    rw [← Nat.add_assoc]
    simp only [pairC]
    rw [pairC_add f g n m, List.append_assoc]
theorem pairC_one {f g : Nat → Value} (hf : ∀ i, (f i).oneCell' = true) (hg : ∀ i, (g i).oneCell' = true) : ∀ n, ∀ u ∈ pairC f g n, u.oneCell' = true
  | 0, u, hu => absurd hu (by simp [pairC])
  | n + 1, u, hu => by
    simp only [pairC, List.mem_append, List.mem_cons, List.not_mem_nil, or_false] at hu
    rcases hu with hu | rfl | rfl
    · exact pairC_one hf hg n u hu
    · exact hf n
    · exact hg n
theorem Lies.pair {S : Nat → Prop} {w : World} {ao : Option Addr} {f g : Nat → Value} {n : Nat} (h : Lies S w ao (pairC f g n)) {i : Nat} (hi : i < n) : ∃ b off, ao = some ⟨b, off, none⟩ ∧ S b ∧ b < w.heap.size ∧ w.cell? ⟨b, off + i * 2, none⟩ = some (f i) ∧ w.cell? ⟨b, off + i * 2 + 1, none⟩ = some (g i) := by
  rcases h with h | ⟨b, off, h1, h2, h3⟩
  · have := congrArg List.length h
    rw [pairC_len] at this
    simp at this
    omega
  · have c0 := h3 _ _ (pairC_f f g n i hi)
    have c1 := h3 _ _ (pairC_g f g n i hi)
    exact ⟨b, off, h1, h2, cell_lt c0, c0, by rw [Nat.add_assoc]; exact c1⟩

def lutF (A : Nat → Option Addr) (C : Nat → Nat) (ls : List Lt) (i : Nat) : Value := .slice (A i) (ltAt ls i).ins.length (C i)
def lutG (ls : List Lt) (i : Nat) : Value := .int .i64 (ltAt ls i).table
def rgF (rs : List Rg) (i : Nat) : Value := .bool (rgAt rs i).init
def rgG (rs : List Rg) (i : Nat) : Value := .int .i64 (rgAt rs i).next
def lutsC (A : Nat → Option Addr) (C : Nat → Nat) (ls : List Lt) : List Value := pairC (lutF A C ls) (lutG ls) ls.length
def rgsC (rs : List Rg) : List Value := pairC (rgF rs) (rgG rs) rs.length
theorem lutsC_one (A : Nat → Option Addr) (C : Nat → Nat) (ls : List Lt) : ∀ u ∈ lutsC A C ls, u.oneCell' = true := pairC_one (fun _ => rfl) (fun _ => rfl) _
theorem rgsC_one (rs : List Rg) : ∀ u ∈ rgsC rs, u.oneCell' = true := pairC_one (fun _ => rfl) (fun _ => rfl) _
/-- a row of tables, with the rows of their signals -/
structure LutsAt (S : Nat → Prop) (w : World) (ao : Option Addr) (A : Nat → Option Addr) (C : Nat → Nat) (ls : List Lt) : Prop where
  row : Lies S w ao (lutsC A C ls)
  ins : ∀ i, i < ls.length → Lies S w (A i) (intsC (ltAt ls i).ins)
theorem LutsAt.same {S : Nat → Prop} {w w' : World} {ao : Option Addr} {A : Nat → Option Addr} {C : Nat → Nat} {ls : List Lt} (h : LutsAt S w ao A C ls) (hb : ∀ b, S b → b < w.heap.size → w'.heap[b]? = w.heap[b]?) : LutsAt S w' ao A C ls := ⟨h.row.same hb, fun i hi => (h.ins i hi).same hb⟩
theorem LutsAt.below {S : Nat → Prop} {w w' : World} {ao : Option Addr} {A : Nat → Option Addr} {C : Nat → Nat} {ls : List Lt} (h : LutsAt S w ao A C ls) (hb : Below w.heap.size w w') : LutsAt S w' ao A C ls := h.same fun b _ hl => hb.block b hl
theorem LutsAt.imp {S T : Nat → Prop} {w : World} {ao : Option Addr} {A : Nat → Option Addr} {C : Nat → Nat} {ls : List Lt} (h : LutsAt S w ao A C ls) (hb : ∀ b, b < w.heap.size → S b → T b) : LutsAt T w ao A C ls := ⟨h.row.imp hb, fun i hi => (h.ins i hi).imp hb⟩

/-- a net of tables in memory -/
structure NetQ where
  p : Nat
  ra : Option Addr
  rc : Nat
  la : Option Addr
  lc : Nat
  oa : Option Addr
  oc : Nat
  A : Nat → Option Addr
  C : Nat → Nat
structure NetT (s : NetQ) (S : Nat → Prop) (w : World) (given : Int) (rs : List Rg) (ls : List Lt) (os : List Int) : Prop where
  me : w.heap[s.p]? = some (.cells #[.int .i64 given, .slice s.ra rs.length s.rc, .slice s.la ls.length s.lc, .slice s.oa os.length s.oc] 26 (0, 0))
  regs : Lies S w s.ra (rgsC rs)
  luts : LutsAt S w s.la s.A s.C ls
  outs : Lies S w s.oa (intsC os)
theorem NetT.below {s : NetQ} {S : Nat → Prop} {w w' : World} {given : Int} {rs : List Rg} {ls : List Lt} {os : List Int} (h : NetT s S w given rs ls os) (hb : Below w.heap.size w w') : NetT s S w' given rs ls os :=
  ⟨Below.blk hb h.me, h.regs.below hb, h.luts.below hb, h.outs.below hb⟩
theorem NetT.kept {s : NetQ} {S : Nat → Prop} {w w' : World} {given : Int} {rs : List Rg} {ls : List Lt} {os : List Int} {R : Nat} (h : NetT s S w given rs ls os) (hb : Kept R w w') (hp : s.p ≠ R) (hS : ¬ S R) : NetT s S w' given rs ls os :=
  ⟨hb.blk h.me hp, h.regs.same fun b hs hl => hb.block b hl fun e => hS (e ▸ hs), h.luts.same fun b hs hl => hb.block b hl fun e => hS (e ▸ hs), h.outs.same fun b hs hl => hb.block b hl fun e => hS (e ▸ hs)⟩
theorem NetT.imp {s : NetQ} {S T : Nat → Prop} {w : World} {given : Int} {rs : List Rg} {ls : List Lt} {os : List Int} (h : NetT s S w given rs ls os) (hb : ∀ b, b < w.heap.size → S b → T b) : NetT s T w given rs ls os := ⟨h.me, h.regs.imp hb, h.luts.imp hb, h.outs.imp hb⟩
theorem NetT.c0 {s : NetQ} {S : Nat → Prop} {w : World} {given : Int} {rs : List Rg} {ls : List Lt} {os : List Int} (h : NetT s S w given rs ls os) : w.cell? ⟨s.p, 0, none⟩ = some (.int .i64 given) := by rw [blk_cell h.me]; rfl
theorem NetT.c1 {s : NetQ} {S : Nat → Prop} {w : World} {given : Int} {rs : List Rg} {ls : List Lt} {os : List Int} (h : NetT s S w given rs ls os) : w.cell? ⟨s.p, 1, none⟩ = some (.slice s.ra rs.length s.rc) := by rw [blk_cell h.me]; rfl
theorem NetT.c2 {s : NetQ} {S : Nat → Prop} {w : World} {given : Int} {rs : List Rg} {ls : List Lt} {os : List Int} (h : NetT s S w given rs ls os) : w.cell? ⟨s.p, 2, none⟩ = some (.slice s.la ls.length s.lc) := by rw [blk_cell h.me]; rfl
theorem NetT.c3 {s : NetQ} {S : Nat → Prop} {w : World} {given : Int} {rs : List Rg} {ls : List Lt} {os : List Int} (h : NetT s S w given rs ls os) : w.cell? ⟨s.p, 3, none⟩ = some (.slice s.oa os.length s.oc) := by rw [blk_cell h.me]; rfl

/-- what goes through a net of tables, in memory: all that it leads to lies in blocks of which S holds -/
structure SimT (s : NetQ) (S : Nat → Prop) (w : World) (given : Int) (rs : List Rg) (ls : List Lt) (os : List Int) (held : List Bool) : Prop where
  me : ∃ ha hc, w.heap[s.p]? = some (.cells #[.int .i64 given, .slice s.ra rs.length s.rc, .slice s.la ls.length s.lc, .slice s.oa os.length s.oc, .slice ha rs.length hc] 57 (0, 0)) ∧ Lies S w ha (bitsC held)
  regs : Lies S w s.ra (rgsC rs)
  luts : LutsAt S w s.la s.A s.C ls
  outs : Lies S w s.oa (intsC os)
  len : held.length = rs.length
  own : ¬ S s.p
theorem SimT.below {s : NetQ} {S : Nat → Prop} {w w' : World} {given : Int} {rs : List Rg} {ls : List Lt} {os : List Int} {held : List Bool} (h : SimT s S w given rs ls os held) (hb : Below w.heap.size w w') : SimT s S w' given rs ls os held := by
  obtain ⟨ha, hc, h1, h2⟩ := h.me
  exact ⟨⟨ha, hc, Below.blk hb h1, h2.below hb⟩, h.regs.below hb, h.luts.below hb, h.outs.below hb, h.len, h.own⟩
theorem SimT.other {s : NetQ} {S : Nat → Prop} {w w' : World} {given : Int} {rs : List Rg} {ls : List Lt} {os : List Int} {held : List Bool} {R : Nat} (h : SimT s S w given rs ls os held) (hb : Kept R w w') (hp : s.p ≠ R) (hS : ¬ S R) : SimT s S w' given rs ls os held := by
  obtain ⟨ha, hc, h1, h2⟩ := h.me
  have hk : ∀ b, S b → b < w.heap.size → w'.heap[b]? = w.heap[b]? := fun b hs hl => hb.block b hl fun e => hS (e ▸ hs)
  exact ⟨⟨ha, hc, hb.blk h1 hp, h2.same hk⟩, h.regs.same hk, h.luts.same hk, h.outs.same hk, h.len, h.own⟩
theorem SimT.imp {s : NetQ} {S T : Nat → Prop} {w : World} {given : Int} {rs : List Rg} {ls : List Lt} {os : List Int} {held : List Bool} (h : SimT s S w given rs ls os held) (hb : ∀ b, b < w.heap.size → S b → T b) (ho : ¬ T s.p) : SimT s T w given rs ls os held := by
  obtain ⟨ha, hc, h1, h2⟩ := h.me
  exact ⟨⟨ha, hc, h1, h2.imp hb⟩, h.regs.imp hb, h.luts.imp hb, h.outs.imp hb, h.len, ho⟩
theorem SimT.lt {s : NetQ} {S : Nat → Prop} {w : World} {given : Int} {rs : List Rg} {ls : List Lt} {os : List Int} {held : List Bool} (h : SimT s S w given rs ls os held) : s.p < w.heap.size := by
  obtain ⟨ha, hc, h1, h2⟩ := h.me
  exact blk_lt h1
/-- it holds others now -/
theorem SimT.turned {s : NetQ} {S : Nat → Prop} {w : World} {given : Int} {rs : List Rg} {ls : List Lt} {os : List Int} {held held' : List Bool} (h : SimT s S w given rs ls os held) {ha : Option Addr} {hc : Nat} (hh : Lies S w ha (bitsC held')) (hl : held'.length = rs.length) : SimT s S (w.setCell ⟨s.p, 4, none⟩ (.slice ha rs.length hc)) given rs ls os held' := by
  obtain ⟨ha0, hc0, h1, h2⟩ := h.me
  have hk : ∀ b, S b → b < w.heap.size → (w.setCell ⟨s.p, 4, none⟩ (.slice ha rs.length hc)).heap[b]? = w.heap[b]? := fun b hs _ => Below.heap_setCell w ⟨s.p, 4, none⟩ _ b fun e => h.own (show S s.p from (show b = s.p from e) ▸ hs)
  refine ⟨⟨ha, hc, ?_, hh.same hk⟩, h.regs.same hk, h.luts.same hk, h.outs.same hk, hl, h.own⟩
  rw [blk_set h1]; rfl

theorem info_lt : ∃ i : TypeInfo, Try.prog.info? 44 = some i ∧ i.zero = some (.agg #[.slice none 0 0, .int .i64 0]) ∧ i.size = 2 ∧ i.bytes = 32 := info_of (by kernel_rfl)
theorem info_rg : ∃ i : TypeInfo, Try.prog.info? 59 = some i ∧ i.zero = some (.agg #[.bool false, .int .i64 0]) ∧ i.size = 2 ∧ i.bytes = 16 := info_of (by kernel_rfl)
/-- what an append of pairs of cells comes to -/
theorem app_pr {B : Nat} {w : World} {v : Value} {l new : List Value} {n m n' c : Nat} {ao : Option Addr} (t e : TypeId) {z : Value} {by0 : Nat} (hi : ∃ i : TypeInfo, Try.prog.info? e = some i ∧ i.zero = some z ∧ i.size = 2 ∧ i.bytes = by0) (hby : by0 ≤ 1000) (hz : z.cells.size = 2) (ht : Try.prog.underlying t = some (.slice e))
    (h : Mine e 2 B w v n l) (hm : new.length = m * 2) (hn' : n' = n + m) (hnew : Lies AnyB w ao new) (h1 : ∀ u ∈ new, u.oneCell' = true) (hB : B ≤ w.heap.size) (hbig : n' ≤ 100000) :
    Apped t e 2 B w v m ao c n' (l ++ new) := by
  obtain ⟨i, hi, hzz, hs, hb⟩ := hi
  subst hn'
  obtain ⟨ao', cap', w', hr, h2, h3, h4⟩ := app_own (P := Try.prog) (w := w) t t e i z 2 by0 ht hi hzz hs hb hz (by decide) v n _ h.own ao m c new hm hnew h1 (by omega) hby
  exact ⟨ao', cap', w', hr, ⟨h2, fun b hb => (h4 b hb).elim (h.new b) (Nat.le_trans hB)⟩, h3, h4⟩

theorem grown_below {w w1 w2 : World} {o : Nat} (hb : Below w.heap.size w w1) (hg : w1.grownBy w2 (Value.slice (some ⟨o, 0, none⟩) 0 0).ownBlock) (ho : w.heap.size ≤ o) : Below w.heap.size w w2 :=
  ⟨hg.os.trans hb.os, hg.tape.trans hb.tape, hg.output.trans hb.output, Nat.le_trans hb.size hg.size, fun k hk => (hg.block k (Nat.lt_of_lt_of_le hk hb.size) (fun e => by simp [Value.ownBlock] at e; omega)).trans (hb.block k hk)⟩

set_option maxRecDepth 100000 in
set_option maxHeartbeats 1600000 in
theorem cloneR_at {S : Nat → Prop} (n : Nat) (cs : List Value) (hcl : cs.length = n * 2) (hc1 : ∀ u ∈ cs, u.oneCell' = true) (ao : Option Addr) (cap : Nat) (w : World) (h : Lies S w ao cs) (hn : n ≤ 20000) :
    Calls Try.prog 26 #[.slice ao n cap] w fun e w' => (∃ ao' cap', e = .returned (.slice ao' n cap') ∧ Lies (FromB w.heap.size) w' ao' cs) ∧ Below w.heap.size w w' := by
  cases ao with
  | none =>
    have h0 : n = 0 := by
      rcases h with h | ⟨b, off, h1, _⟩
      · subst h; simp at hcl; omega
      · cases h1
    subst h0
    obtain rfl : cs = [] := List.eq_nil_of_length_eq_zero (by simpa using hcl)
    have hnl := fun w => eql_nil (P := Try.prog) w 22 59 none 0 cap (by kernel_rfl)
    go_enter Try.func26, Try.ntmps26
    go_wp2_with fail
    go_ret
    exact ⟨⟨_, _, rfl, .inl rfl⟩, Below.refl _ _⟩
  | some a =>
    have HB := hide (below_alloc w (.cells #[] 59))
    have HN := hide (blk_new w (.cells #[] 59))
    obtain ⟨ao', cap', w2, happ, hm, hg, hnb⟩ := app_pr (c := cap) (n' := n) 22 59 info_rg (by decide) rfl (by kernel_rfl) (Mine.empty HN.out (size := 2)) hcl (by omega) (h.any.below HB.out) hc1 (by simp) (by omega)
    have HM := hide hm
    have HG := hide hg
    clear hm hg hnb h
    have hnl := fun w => eql_nil (P := Try.prog) w 22 59 (some a) n cap (by kernel_rfl)
    go_enter Try.func26, Try.ntmps26
    go_wp2_with (at_builtin; (refine wpl_append_run happ rfl _ _ rfl rfl rfl ?_))
    go_ret
    refine ⟨⟨ao', cap', rfl, HM.out.lies fun b hb => HM.out.new b hb⟩, grown_below HB.out HG.out (Nat.le_refl _)⟩

set_option maxRecDepth 100000 in
set_option maxHeartbeats 1600000 in
theorem cloneL_at {S : Nat → Prop} (n : Nat) (cs : List Value) (hcl : cs.length = n * 2) (hc1 : ∀ u ∈ cs, u.oneCell' = true) (ao : Option Addr) (cap : Nat) (w : World) (h : Lies S w ao cs) (hn : n ≤ 20000) :
    Calls Try.prog 27 #[.slice ao n cap] w fun e w' => (∃ ao' cap', e = .returned (.slice ao' n cap') ∧ (cs = [] ∨ ∃ g cur, ao' = some ⟨g, 0, none⟩ ∧ w.heap.size ≤ g ∧ w'.heap[g]? = some (.cells cur 44 (0, 0)) ∧ cur.toList.take (n * 2) = cs)) ∧ Below w.heap.size w w' := by
  cases ao with
  | none =>
    have h0 : n = 0 := by
      rcases h with h | ⟨b, off, h1, _⟩
      · subst h; simp at hcl; omega
      · cases h1
    subst h0
    obtain rfl : cs = [] := List.eq_nil_of_length_eq_zero (by simpa using hcl)
    have hnl := fun w => eql_nil (P := Try.prog) w 23 44 none 0 cap (by kernel_rfl)
    go_enter Try.func27, Try.ntmps27
    go_wp2_with fail
    go_ret
    exact ⟨⟨_, _, rfl, .inl (by simp)⟩, Below.refl _ _⟩
  | some a =>
    have HB := hide (below_alloc w (.cells #[] 44))
    have HN := hide (blk_new w (.cells #[] 44))
    obtain ⟨ao', cap', w2, happ, hm, hg, hnb⟩ := app_pr (c := cap) (n' := n) 23 44 info_lt (by decide) rfl (by kernel_rfl) (Mine.empty HN.out (size := 2)) hcl (by omega) (h.any.below HB.out) hc1 (by simp) (by omega)
    have HM := hide hm
    have HG := hide hg
    clear hm hg hnb h
    have hnl := fun w => eql_nil (P := Try.prog) w 23 44 (some a) n cap (by kernel_rfl)
    go_enter Try.func27, Try.ntmps27
    go_wp2_with (at_builtin; (refine wpl_append_run happ rfl _ _ rfl rfl rfl ?_))
    go_ret
    refine ⟨⟨ao', cap', rfl, ?_⟩, grown_below HB.out HG.out (Nat.le_refl _)⟩
    rcases HM.out.own.2 with ⟨h0, h1⟩ | ⟨g, cap2, cur, hv, hbg, hg2, hr1, hr2, hr3, hr4⟩
    · left
      have := HM.out.own.1
      rw [h1] at this
      simpa using this
    · right
      cases hv
      refine ⟨g, cur, rfl, HM.out.new g rfl, hg2, ?_⟩
      simpa using hr4
end Go.Proofs.Ytacgepdmhdcdkaa
