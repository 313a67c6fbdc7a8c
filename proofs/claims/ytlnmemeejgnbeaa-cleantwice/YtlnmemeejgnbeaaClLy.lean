/-
  CONTRACT of lay.
-/
import Derived.Test.YtlnmemeejgnbeaaClNe
import Derived.Deep.DeepCutAuto
set_option linter.unusedSimpArgs false
set_option linter.unusedVariables false
namespace Go.Proofs.Ytlnmemeejgnbeaa
open Go.RowKit

/-- the numbers of the first k -/
def numL (nd : List Bool) (k : Nat) : List Int := (List.range k).map fun i => (cntTo nd i : Int)
theorem numL_len (nd : List Bool) (k : Nat) : (numL nd k).length = k := by simp [numL]
theorem numL_next (nd : List Bool) (k : Nat) : numL nd (k + 1) = numL nd k ++ [(cntTo nd k : Int)] := by simp [numL, List.range_succ]
theorem numL_at (nd : List Bool) (k i : Nat) (h : i < k) : outAt (numL nd k) i = (cntTo nd i : Int) := by simp [numL, outAt, h]
theorem cntTo_le (nd : List Bool) : ∀ k, cntTo nd k ≤ k
  | 0 => Nat.le_refl _
  | k + 1 => by
    have := cntTo_le nd k
    simp only [cntTo]
    split <;> omega
theorem newTo_len (m : Mk) (nd : List Bool) : ∀ k, (newTo m nd k).length = cntTo nd k
  | 0 => rfl
  | k + 1 => by
    simp only [newTo, cntTo, List.length_append, newTo_len m nd k]
    split <;> simp
theorem newTo_no (m : Mk) (nd : List Bool) (k : Nat) (h : bit nd k = false) : newTo m nd (k + 1) = newTo m nd k := by simp [newTo, h]
theorem newTo_yes (m : Mk) (nd : List Bool) (k : Nat) (h : bit nd k = true) : newTo m nd (k + 1) = newTo m nd k ++ [reN nd m.st (ndAt m.ms k)] := by simp [newTo, h]
def OpIs (op : Int) : Prop := op = 1 ∨ op = 2 ∨ op = 3 ∨ op = 4 ∨ op = 5 ∨ op = 6 ∨ op = 7 ∨ op = 8
theorem Below.blkX {N : Nat} {w w' : World} (h : Below N w w') {b : Nat} {o : Obj} (hc : w.heap[b]? = some o) (hb : b < N) : w'.heap[b]? = some o := (h.block b hb).trans hc
theorem mk_nds0 (c : Nat) (hc : c ≤ 90000) (w : World) : (Instr.makeSlice 22 (.int .i64 0) (.int .i64 c)).run Try.prog w = .ok (.slice (some ⟨w.heap.size, 0, none⟩) 0 c) (w.alloc (.cells (madeCells #[.int .i64 0, .int .i64 0, .int .i64 0, .int .i64 0] (c * 4)) 26)) := by
  obtain ⟨i, hi, hz, hs, hby⟩ := info_nd
  have h := run_make (P := Try.prog) w 22 26 i _ (by kernel_rfl) hi hz .i64 .i64 0 c (Int.le_refl _) (by omega) (by rw [hby]; omega) (by omega)
  rw [Int.toNat_natCast, hs] at h
  exact h
theorem mine0 {w : World} {g c : Nat} {cur : Array Value} (h : w.heap[g]? = some (.cells cur 26 (0, 0))) (hs : cur.size = c * 4) (hc : c ≤ 90000) : Mine 26 4 g w (.slice (some ⟨g, 0, none⟩) 0 c) 0 (ndsC []) :=
  ⟨⟨rfl, .inr ⟨g, c, cur, rfl, Nat.zero_le _, h, Nat.zero_le _, by simp only [maxLen]; omega, hs, by simp [ndsC]⟩⟩, fun b hb => by simp [Value.ownBlock] at hb; omega⟩
/-- numbers so far -/
structure Nmg (w : World) (NU : Nat) (nd : List Bool) (n k : Nat) (wr : World) : Prop where
  kept : Kept NU w wr
  row : wr.heap[NU]? = some (.cells (intsC (numL nd k ++ List.replicate (n - k) 0)).toArray 3 (0, 0))
/-- a net, so far -/
structure Lyg (w : World) (NP OB : Nat) (given : Int) (l : List Nd) (ol : List Int) (wr : World) (na : Option Addr) (nc : Nat) : Prop where
  below : Below w.heap.size w wr
  me : wr.heap[NP]? = some (.cells #[.int .i64 given, .slice na l.length nc, .slice (some ⟨OB, 0, none⟩) ol.length ol.length] 28 (0, 0))
  own : Mine 26 4 w.heap.size wr (.slice na l.length nc) l.length (ndsC l)
  outs : wr.heap[OB]? = some (.cells (intsC ol).toArray 3 (0, 0))
  hi : w.heap.size ≤ NP ∧ w.heap.size ≤ OB
theorem Lyg.more {w : World} {NP OB : Nat} {given : Int} {l : List Nd} {ol : List Int} {wr wr1 : World} {na : Option Addr} {nc : Nat} (h : Lyg w NP OB given l ol wr na nc) (hb : Below wr.heap.size wr wr1) : Lyg w NP OB given l ol wr1 na nc :=
  ⟨h.below.trans (hb.mono h.below.size), Below.blk hb h.me, h.own.below hb, Below.blk hb h.outs, h.hi⟩
/-- laid at first -/
def Laid0 (w : World) (given : Int) (n : Nat) (v : Value) (wx : World) : Prop := ∃ NP OB na nc, v = .pointer (some ⟨NP, 0, none⟩) ∧ Lyg w NP OB given [] (List.replicate n 0) wx na nc
theorem mine_grid {B : Nat} {w : World} {na : Option Addr} {n nc : Nat} {xs : List Value} (h : Mine 26 4 B w (.slice na n nc) n xs) {g : Nat} (hg : blkOf na = some g) : B ≤ g ∧ g < w.heap.size ∧ ∃ cur, w.heap[g]? = some (.cells cur 26 (0, 0)) := by
  rcases h.own.2 with ⟨h0, _⟩ | ⟨g', cap, cur, hv, _, hg', _⟩
  · injection h0 with e1; rw [e1] at hg; cases hg
  · injection hv with e1
    rw [e1] at hg
    have : g' = g := by simpa [blkOf] using hg
    subst this
    exact ⟨h.new _ (by rw [own_blk, e1]; rfl), blk_lt hg', cur, hg'⟩
/-- one more node -/
theorem Lyg.push {w : World} {NP OB : Nat} {given : Int} {l : List Nd} {ol : List Int} {wr : World} {na : Option Addr} {nc : Nat} (h : Lyg w NP OB given l ol wr na nc) (y : Nd) (hl : l.length ≤ 90000) :
    ∃ na' nc' w2, (Builtin.append_ #[22, 22] 22 #[.slice na l.length nc, .slice (some ⟨wr.heap.size, 0, none⟩) 1 1]).run Try.prog (wr.alloc (.cells #[.int .i64 y.op, .int .i64 y.a, .int .i64 y.b, .int .i64 y.next] 26)) = .ok (.slice na' (l.length + 1) nc') w2 ∧
      w2.heap[NP]? = some (.cells #[.int .i64 given, .slice na l.length nc, .slice (some ⟨OB, 0, none⟩) ol.length ol.length] 28 (0, 0)) ∧
      Lyg w NP OB given (l ++ [y]) ol (w2.setCell ⟨NP, 1, none⟩ (.slice na' (l.length + 1) nc')) na' nc' ∧
      (∀ X, X < wr.heap.size → (∃ c, wr.heap[X]? = some (.cells c 26 (0, 0))) → blkOf na ≠ some X → w2.heap[X]? = wr.heap[X]? ∧ (w2.setCell ⟨NP, 1, none⟩ (.slice na' (l.length + 1) nc')).heap[X]? = wr.heap[X]?) := by
  have hb := below_alloc wr (.cells #[.int .i64 y.op, .int .i64 y.a, .int .i64 y.b, .int .i64 y.next] 26)
  have hs1 : wr.heap.size ≤ (wr.alloc (.cells #[.int .i64 y.op, .int .i64 y.a, .int .i64 y.b, .int .i64 y.next] 26)).heap.size := hb.size
  have hws := h.below.size
  obtain ⟨na', nc', w2, happ, hm, hg, hnb⟩ := app_nd (c := 1) (n' := l.length + 1) (h.own.below hb) rfl (new := [y]) (m := 1) rfl rfl (Lies.blk (cs := ndsC [y]) (by rw [show (ndsC [y]).toArray = #[.int .i64 y.op, .int .i64 y.a, .int .i64 y.b, .int .i64 y.next] from rfl]; exact blk_new wr _) trivial) (by omega) (by omega)
  have keep : ∀ k, k < wr.heap.size → blkOf na ≠ some k → w2.heap[k]? = wr.heap[k]? := fun k hk hne =>
    (hg.block k (by omega) (by rw [own_blk]; exact fun e => hne e.symm)).trans (hb.block k hk)
  have nNP : blkOf na ≠ some NP := fun e => by
    obtain ⟨_, _, cur, hc⟩ := mine_grid h.own e
    rw [h.me] at hc; cases hc
  have nOB : blkOf na ≠ some OB := fun e => by
    obtain ⟨_, _, cur, hc⟩ := mine_grid h.own e
    rw [h.outs] at hc; cases hc
  have neOB : OB ≠ NP := fun e => by
    have := h.outs
    rw [e, h.me] at this
    have h1 := Option.some.inj this
    injection h1 with _ e2 _
    exact absurd e2 (by decide)
  have hNP := (keep NP (blk_lt h.me) nNP).trans h.me
  have hOB := (keep OB (blk_lt h.outs) nOB).trans h.outs
  have hsz : wr.heap.size ≤ w2.heap.size := Nat.le_trans hs1 hg.size
  have new : ∀ g, blkOf na' = some g → blkOf na = some g ∨ wr.heap.size ≤ g := fun g hg' => (hnb g (by rw [own_blk]; exact hg')).imp (fun e => by rw [own_blk] at e; exact e) (fun e => by omega)
  refine ⟨na', nc', w2, happ, hNP, ⟨?_, ?_, ?_, ?_, h.hi⟩, ?_⟩
  · refine ⟨hg.os.trans (hb.os.trans h.below.os), hg.tape.trans (hb.tape.trans h.below.tape), hg.output.trans (hb.output.trans h.below.output), ?_, fun k hk => ?_⟩
    · simp only [World.setCell, Array.size_modify]; omega
    · refine (Below.heap_setCell w2 ⟨NP, 1, none⟩ _ k (fun e => by have e' : k = NP := e; have := h.hi.1; omega)).trans ((keep k (by omega) fun e => ?_).trans (h.below.block k hk))
      have := mine_grid h.own e
      omega
  · rw [blk_set hNP, List.length_append]; rfl
  · rw [List.length_append]
    refine hm.same fun g hg1 hl1 => Below.heap_setCell w2 ⟨NP, 1, none⟩ _ g (fun e => ?_)
    have e' : g = NP := e
    subst e'
    rw [own_blk] at hg1
    rcases new g hg1 with e1 | e1
    · exact nNP e1
    · have := blk_lt h.me; omega
  · exact (Below.heap_setCell w2 ⟨NP, 1, none⟩ _ OB neOB).trans hOB
  · intro X hX hXN hne
    have h1 := keep X hX hne
    refine ⟨h1, (Below.heap_setCell w2 ⟨NP, 1, none⟩ _ X (fun e => ?_)).trans h1⟩
    have e' : X = NP := e
    subst e'
    obtain ⟨c, hc⟩ := hXN
    rw [h.me] at hc; cases hc

theorem Lyg.base {w0 w : World} {NP OB : Nat} {given : Int} {l : List Nd} {ol : List Int} {wr : World} {na : Option Addr} {nc : Nat} (h : Lyg w NP OB given l ol wr na nc) (hb : Below w0.heap.size w0 w) : Lyg w0 NP OB given l ol wr na nc :=
  ⟨hb.trans (h.below.mono hb.size), h.me, h.own.from hb.size, h.outs, Nat.le_trans hb.size h.hi.1, Nat.le_trans hb.size h.hi.2⟩
theorem Lyg.ne {w : World} {NP OB : Nat} {given : Int} {l : List Nd} {ol : List Int} {wr : World} {na : Option Addr} {nc : Nat} (h : Lyg w NP OB given l ol wr na nc) : NP ≠ OB ∧ blkOf na ≠ some OB ∧ ∀ g, blkOf na = some g → g < wr.heap.size := by
  refine ⟨fun e => ?_, fun e => ?_, fun g hg => (mine_grid h.own hg).2.1⟩
  · have := h.outs
    rw [← e, h.me] at this
    have h1 := Option.some.inj this
    injection h1 with _ e2 _
    exact absurd e2 (by decide)
  · obtain ⟨_, _, cur, hc⟩ := mine_grid h.own e
    rw [h.outs] at hc
    have h1 := Option.some.inj hc
    injection h1 with _ e2 _
    exact absurd e2 (by decide)
theorem Lyg.out {w : World} {NP OB : Nat} {given : Int} {l : List Nd} {ol : List Int} {wr : World} {na : Option Addr} {nc : Nat} (h : Lyg w NP OB given l ol wr na nc) (k : Nat) (v : Int) : Lyg w NP OB given l (ol.set k v) (wr.setCell ⟨OB, k, none⟩ (.int .i64 v)) na nc := by
  obtain ⟨n1, n2, _⟩ := h.ne
  have hk : Kept OB wr (wr.setCell ⟨OB, k, none⟩ (.int .i64 v)) := Kept.set _ _ _
  refine ⟨Below.toKept h.below hk h.hi.2 h.below.size, ?_, ?_, ?_, h.hi⟩
  · rw [List.length_set]; exact hk.blk h.me n1
  · exact h.own.same fun g hg hl => hk.block g hl fun e => by
      rw [own_blk, e] at hg
      exact n2 hg
  · rw [blk_set h.outs, ints_set]
def outL (m : Mk) (nd : List Bool) (os : List Int) (k : Nat) : List Int := (os.take k).map (fun o => numP nd (kAt m.st o)) ++ List.replicate (os.length - k) 0
theorem outL_zero (m : Mk) (nd : List Bool) (os : List Int) : outL m nd os 0 = List.replicate os.length 0 := by simp [outL]
theorem outL_len (m : Mk) (nd : List Bool) (os : List Int) (k : Nat) (h : k ≤ os.length) : (outL m nd os k).length = os.length := by simp [outL]; omega
theorem outL_set (m : Mk) (nd : List Bool) (os : List Int) (k : Nat) (h : k < os.length) : (outL m nd os k).set k (numP nd (kAt m.st (outAt os k))) = outL m nd os (k + 1) := by
  unfold outL
  rw [rowI_set _ _ _ _ (by simp; omega) h, List.take_succ_eq_append_getElem h, List.map_append]
  have : outAt os k = os[k] := by simp [outAt, h]
  rw [this]; rfl
theorem outL_all (m : Mk) (nd : List Bool) (os : List Int) : outL m nd os os.length = os.map fun o => numP nd (kAt m.st o) := by simp [outL]
theorem laid0_a (w : World) (given : Int) (c n : Nat) (hc : c ≤ 90000) : Laid0 w given n (.pointer (some ⟨w.heap.size + 1 + 1, 0, none⟩)) ((((w.alloc (.cells (madeCells #[.int .i64 0, .int .i64 0, .int .i64 0, .int .i64 0] (c * 4)) 26)).alloc (.cells (intsC (List.replicate n 0)).toArray 3)).alloc (.cells #[.int .i64 given, .slice (some ⟨w.heap.size, 0, none⟩) 0 c, .slice (some ⟨w.heap.size + 1, 0, none⟩) n n] 28)).drew) := by
  have e1 : (w.alloc (.cells (madeCells #[.int .i64 0, .int .i64 0, .int .i64 0, .int .i64 0] (c * 4)) 26)).heap.size = w.heap.size + 1 := by simp
  have e2 : ((w.alloc (.cells (madeCells #[.int .i64 0, .int .i64 0, .int .i64 0, .int .i64 0] (c * 4)) 26)).alloc (.cells (intsC (List.replicate n 0)).toArray 3)).heap.size = w.heap.size + 1 + 1 := by simp
  refine ⟨_, w.heap.size + 1, some ⟨w.heap.size, 0, none⟩, c, rfl, ⟨(Below.step (Below.step (below_alloc _ _) (below_alloc _ _)) (below_alloc _ _)).drew, ?_, ?_, ?_, by omega, by omega⟩⟩
  · rw [List.length_replicate]; exact new_at' _ _ e2
  · exact mine0 (Below.blk (below_alloc _ _) (Below.blk (below_alloc _ _) (blk_new _ _))) (size_madeCells _ _) hc
  · exact Below.blk (below_alloc _ _) (new_at' _ _ e1)
theorem laid0_b (w : World) (given : Int) (c n : Nat) (hc : c ≤ 90000) : Laid0 w given n (.pointer (some ⟨w.heap.size + 1 + 1, 0, none⟩)) ((((w.alloc (.cells (intsC (List.replicate n 0)).toArray 3)).alloc (.cells (madeCells #[.int .i64 0, .int .i64 0, .int .i64 0, .int .i64 0] (c * 4)) 26)).alloc (.cells #[.int .i64 given, .slice (some ⟨w.heap.size + 1, 0, none⟩) 0 c, .slice (some ⟨w.heap.size, 0, none⟩) n n] 28)).drew) := by
  have e1 : (w.alloc (.cells (intsC (List.replicate n 0)).toArray 3)).heap.size = w.heap.size + 1 := by simp
  have e2 : ((w.alloc (.cells (intsC (List.replicate n 0)).toArray 3)).alloc (.cells (madeCells #[.int .i64 0, .int .i64 0, .int .i64 0, .int .i64 0] (c * 4)) 26)).heap.size = w.heap.size + 1 + 1 := by simp
  refine ⟨_, w.heap.size, some ⟨w.heap.size + 1, 0, none⟩, c, rfl, ⟨(Below.step (Below.step (below_alloc _ _) (below_alloc _ _)) (below_alloc _ _)).drew, ?_, ?_, ?_, by omega, by omega⟩⟩
  · rw [List.length_replicate]; exact new_at' _ _ e2
  · exact Mine.from (B := w.heap.size + 1) (mine0 (Below.blk (below_alloc _ _) (new_at' _ _ e1)) (size_madeCells _ _) hc) (by omega)
  · exact Below.blk (below_alloc _ _) (Below.blk (below_alloc _ _) (blk_new _ _))

set_option maxRecDepth 100000 in
set_option maxHeartbeats 25600000 in
theorem lay_at {s : NetP} {T : Nat → Prop} {P SB nc : Nat} {na : Option Addr} {m : Mk} {given : Int} {ns : List Nd} {os : List Int} (w : World) (hnet : NetAt s T w given ns os) (hrow : RowAt w P na nc m.ms) (hst : w.heap[SB]? = some (.cells (intsC m.st).toArray 3 (0, 0))) (hd : MkDone m) (hin : ∀ i, i < os.length → ∃ q : Nat, q < m.st.length ∧ outAt os i = q) (ho : os.length ≤ 20000) (hops : ∀ k, k < m.ms.length → OpIs (ndAt m.ms k).op) :
    Calls Try.prog 19 #[.pointer (some ⟨P, 0, none⟩), .pointer (some ⟨s.p, 0, none⟩), .slice (some ⟨SB, 0, none⟩) m.st.length m.st.length] w fun e w' => (∃ NP OB na' nc', e = .returned (.pointer (some ⟨NP, 0, none⟩)) ∧ Lyg w NP OB given (newNs m os) (newOs m os) w' na' nc') ∧ Below w.heap.size w w' := by
  have hn : (m.ms.length : Int) ≤ 90000 := by have := hd.few; omega
  have ho2 : (os.length : Int) ≤ 20000 := by omega
  have HNET := hide hnet
  have HROW := hide hrow
  have HST := hide hst
  have HD := hide hd
  have HIN := hide hin
  have HOP := hide hops
  have c2 := hnet.c2
  have p0 := hrow.hd
  have hmk := fun W => mk_ints m.ms.length (by omega) W
  clear hnet hrow hst hd hin
  go_enter Try.func19, Try.ntmps19
  go_wp2_with fail
  refine (needed_at (T := T) (oc := s.oc) w HROW.out HST.out HNET.out.outs HD.out HIN.out ho).mono ?_
  rintro e w1 ⟨⟨NB, rfl, hNB, hnd⟩, hb⟩
  have HB1 := hide hb
  have HND := hide hnd
  have HNET1 := hide (HNET.out.below hb)
  have HROW1 := hide (HROW.out.below hb)
  have HST1 := hide (Below.blk hb HST.out)
  have HNDL : Hid ((needP m os).length = m.ms.length) := hide (noteTo_keeps m os os.length)
  have HNETME := hide (HNET.out.below hb).me
  clear hnd hNB hb c2 p0 HNET HROW HST
  generalize hnd : needP m os = nd at *
  have HNDE := hide hnd
  clear hnd
  have p0 := HROW1.out.hd
  have hp0 := cell_lt p0
  simp only at hp0
  have p0a := fun o => cell_alloc p0 o
  have HB2 := hide (below_alloc w1 (.cells (intsC (List.replicate m.ms.length 0)).toArray 3))
  have HNU := hide (blk_new w1 (.cells (intsC (List.replicate m.ms.length 0)).toArray 3))
  go_wp2_with fail
  clear p0 p0a hp0
  have HC0 : Hid (Nmg (w1.alloc (.cells (intsC (List.replicate m.ms.length 0)).toArray 3)) w1.heap.size nd m.ms.length 0 (w1.alloc (.cells (intsC (List.replicate m.ms.length 0)).toArray 3))) := hide ⟨Kept.refl _ _, HNU.out⟩
  have HND2 := hide (Below.blk HB2.out HND.out)
  have HNET2 := hide (HNET1.out.below HB2.out)
  have HROW2 := hide (HROW1.out.below HB2.out)
  have HST2 := hide (Below.blk HB2.out HST1.out)
  have hs1 : w1.heap.size < (w1.alloc (.cells (intsC (List.replicate m.ms.length 0)).toArray 3)).heap.size := blk_lt HNU.out
  have HS1 := hide hs1
  have HLOW : Hid (NB < w1.heap.size ∧ SB < w1.heap.size ∧ P < w1.heap.size ∧ s.p < w1.heap.size) := hide ⟨blk_lt HND.out, blk_lt HST1.out, cell_lt HROW1.out.hd, HNET1.out.lt⟩
  have HROWL := hide ((HROW1.out.row.imp (T := fun b => b < w1.heap.size) fun b hb _ => hb).below HB2.out)
  have HOUTL := hide ((HNET1.out.outs.imp (T := fun b => b < w1.heap.size) fun b hb _ => hb).below HB2.out)
  clear HND HNET1 HROW1 HST1 HNU hs1 HNET2
  have HNME : Hid ((w1.alloc (.cells (intsC (List.replicate m.ms.length 0)).toArray 3)).heap[s.p]? = _) := hide (Below.blk HB2.out HNETME.out)
  generalize w1.alloc (.cells (intsC (List.replicate m.ms.length 0)).toArray 3) = w2 at *
  go_loopw [9, 10, 34] (fun c _ i wr => ∃ k : Nat, k ≤ m.ms.length ∧ i = .int .i64 k ∧ c = .int .i64 (cntTo nd k : Nat) ∧ Hid (Nmg w2 w1.heap.size nd m.ms.length k wr)) (fun _ _ i _ => m.ms.length - (intOf i).toNat)
  case atStart => exact ⟨0, Nat.zero_le _, rfl, rfl, HC0⟩
  case round =>
    obtain ⟨k, hk, rfl, rfl, hc⟩ := hrel
    have hck := cntTo_le nd k
    by_cases hlt : k < m.ms.length
    · have hki : (k : Int) < (m.ms.length : Int) := by omega
      have fz := blk_frozen hc.out.row k
      have c0 := ints_cellN hc.out.row (show k < _ by rw [List.length_append, numL_len, List.length_replicate]; omega)
      have HK1 : Hid (Kept w1.heap.size wr (wr.setCell ⟨w1.heap.size, k, none⟩ (.int .i64 (cntTo nd k : Nat)))) := hide (Kept.set _ _ _)
      have HR1 : Hid ((wr.setCell ⟨w1.heap.size, k, none⟩ (.int .i64 (cntTo nd k : Nat))).heap[w1.heap.size]? = some (.cells (intsC (numL nd (k + 1) ++ List.replicate (m.ms.length - (k + 1)) 0)).toArray 3 (0, 0))) := hide (by
        rw [blk_set hc.out.row, ints_set, rowI_set _ _ _ _ (numL_len nd k) hlt, numL_next])
      have HN1 : Hid (Nmg w2 w1.heap.size nd m.ms.length (k + 1) (wr.setCell ⟨w1.heap.size, k, none⟩ (.int .i64 (cntTo nd k : Nat)))) := hide ⟨hc.out.kept.trans HK1.out, HR1.out⟩
      have b1 := bits_cellN (HN1.out.kept.blk HND2.out (by have := HLOW.out; omega)) (show k < nd.length by rw [HNDL.out]; exact hlt)
      cases hbk : bit nd k
      · rw [hbk] at b1
        have HCN : Hid (cntTo nd (k + 1) = cntTo nd k) := hide (by simp [cntTo, hbk])
        clear hbk
        go_wp2_with fail
        exact ⟨⟨k + 1, by omega, by go_num, by rw [HCN.out], HN1⟩, by simp [intOf]; omega⟩
      · rw [hbk] at b1
        have HCN : Hid (cntTo nd (k + 1) = cntTo nd k + 1) := hide (by simp [cntTo, hbk])
        clear hbk
        go_wp2_with fail
        exact ⟨⟨k + 1, by omega, by go_num, by rw [HCN.out]; go_num, HN1⟩, by simp [intOf]; omega⟩
    · have hki : ¬ (k : Int) < (m.ms.length : Int) := by omega
      obtain rfl : k = m.ms.length := by omega
      have HK := hide hc.out.kept
      have hnu := hc.out.row
      rw [Nat.sub_self, List.replicate_zero, List.append_nil] at hnu
      have HNU := hide hnu
      have HND3 := hide (HK.out.blk HND2.out (by have := HLOW.out; omega))
      have HST3 := hide (HK.out.blk HST2.out (by have := HLOW.out; omega))
      have HNM3 := hide (HK.out.blk HNME.out (by have := HLOW.out; omega))
      have HP3 := hide (HK.out.cell HROW2.out.hd (by have := HLOW.out; show P ≠ _; omega))
      have HROW3 := hide (HROWL.out.same fun b hb hl => HK.out.block b hl (by omega))
      have HOUT3 := hide (HOUTL.out.same fun b hb hl => HK.out.block b hl (by omega))
      have HB3 : Hid (Below w.heap.size w wr) := hide (Below.toKept (HB1.out.trans (HB2.out.mono HB1.out.size)) HK.out HB1.out.size (by have := HB1.out.size; have := HB2.out.size; omega))
      clear hc hnu HND2 HST2 HNME HROW2 HROWL HOUTL HC0 hmk
      go_wp2_with fail
      generalize wr = w3 at *
      have n0 : w3.cell? ⟨s.p, 0, none⟩ = some (.int .i64 given) := by rw [blk_cell HNM3.out]; rfl
      have n2 : w3.cell? ⟨s.p, 2, none⟩ = some (.slice s.oa os.length s.oc) := by rw [blk_cell HNM3.out]; rfl
      have HNS : Hid (s.p < w3.heap.size) := hide (blk_lt HNM3.out)
      have hmn := fun W => mk_nds0 (cntTo nd m.ms.length) (by omega) W
      have hmi := fun W => mk_ints os.length (by omega) W
      go_cut [11] from 48 to 62 (fun v wx => Laid0 w3 given os.length v wx)
      case first =>
        have n0a := fun o => cell_alloc n0 o
        have n2a := fun o => cell_alloc n2 o
        have n0b := fun o o' => cell_alloc (cell_alloc n0 o) o'
        have n2b := fun o o' => cell_alloc (cell_alloc n2 o) o'
        have hpl : s.p < w3.heap.size := HNS.out
        go_region
        all_goals go_wp2_with fail
        all_goals go_meet
        case rel => first | exact laid0_a w3 given _ _ (by omega) | exact laid0_b w3 given _ _ (by omega) | trace_state
        case rel => first | exact laid0_a w3 given _ _ (by omega) | exact laid0_b w3 given _ _ (by omega) | trace_state
      case rest =>
        obtain ⟨NP, OB, na4, nc4, rfl, hly⟩ := hcut
        have HLY : Hid (Lyg w3 NP OB given (newTo m nd 0) (List.replicate os.length 0) wc na4 nc4) := hide hly
        have p0 := bcell hly.below HP3.out
        clear hly hmn hmi n0 n2
        go_wp2_with fail
        clear p0
        go_loopw [12, 13, 67] (fun _ _ i wz => ∃ k na5 nc5, k ≤ m.ms.length ∧ i = .int .i64 (k : Nat) ∧ Hid (Lyg w3 NP OB given (newTo m nd k) (List.replicate os.length 0) wz na5 nc5)) (fun _ _ i _ => m.ms.length - (intOf i).toNat)
        case atStart => exact ⟨0, na4, nc4, Nat.zero_le _, rfl, HLY⟩
        case round =>
          obtain ⟨k, na5, nc5, hk, rfl, hc⟩ := hrel
          by_cases hlt : k < m.ms.length
          · have hki : (k : Int) < (m.ms.length : Int) := by omega
            have HNDr := hide (Below.blk hc.out.below HND3.out)
            have HSTr := hide (Below.blk hc.out.below HST3.out)
            have HNUr := hide (Below.blk hc.out.below HNU.out)
            obtain ⟨b, off, ha, _, hbl, m0, m1, m2, m3⟩ := (HROW3.out.below hc.out.below).nodes hlt
            have HA : Hid (na = some ⟨b, off, none⟩) := hide ha
            have HAH := hide (HD.out.ahead.2 k hlt)
            have HREG := hide (HD.out.regs k hlt)
            have HOPS := hide (HOP.out k hlt)
            have b1 := bits_cellN HNDr.out (show k < nd.length by rw [HNDL.out]; exact hlt)
            have b1a := fun o => cell_alloc b1 o
            rw [HA.out]
            clear ha
            cases hbk : bit nd k
            · rw [hbk] at b1 b1a
              have HNO := hide (newTo_no m nd k hbk)
              clear hbk
              generalize ndAt m.ms k = x at m0 m1 m2 m3 HAH HREG HOPS
              obtain ⟨op, xa, xb, xn⟩ := x
              simp only at m0 m1 m2 m3
              go_wp2_with fail
              exact ⟨⟨k + 1, na5, nc5, by omega, by go_num, by rw [HNO.out]; exact hide (hc.out.more (below_alloc _ _))⟩, by simp [intOf]; omega⟩
            · rw [hbk] at b1 b1a
              have HBK := hide hbk
              clear hbk
              generalize hnd6 : ndAt m.ms k = x at m0 m1 m2 m3 HAH HREG HOPS
              have HND6 := hide hnd6
              clear hnd6
              obtain ⟨op, xa, xb, xn⟩ := x
              simp only at m0 m1 m2 m3
              rcases HOPS.out with e | e | e | e | e | e | e | e <;> simp only at e <;> subst e
              · have HRE : Hid (reN nd m.st ⟨1, xa, xb, xn⟩ = ⟨1, xa, xb, xn⟩) := hide rfl
                go_wp2_with fail
                have HLW : Hid (Lyg w3 NP OB given (newTo m nd k) (List.replicate os.length 0) (wr.alloc (.cells #[.int .i64 1, .int .i64 xa, .int .i64 xb, .int .i64 xn] 26)).drew na5 nc5) := hide (hc.out.more (by first | exact (below_alloc _ _).drew | exact (below_alloc _ _).drew.drew))
                have HXW : Hid ((wr.alloc (.cells #[.int .i64 1, .int .i64 xa, .int .i64 xb, .int .i64 xn] 26)).drew.heap[wr.heap.size]? = some (.cells #[.int .i64 1, .int .i64 xa, .int .i64 xb, .int .i64 xn] 26 (0, 0))) := hide (blk_new wr (.cells #[.int .i64 1, .int .i64 xa, .int .i64 xb, .int .i64 xn] 26))
                have HXl : Hid (wr.heap.size < (wr.alloc (.cells #[.int .i64 1, .int .i64 xa, .int .i64 xb, .int .i64 xn] 26)).drew.heap.size) := hide (blk_lt HXW.out)
                have HS : Hid (∀ W : World, W.heap[wr.heap.size]? = some (.cells #[.int .i64 1, .int .i64 xa, .int .i64 xb, .int .i64 xn] 26 (0, 0)) → (fun W : World => W.cell? ⟨wr.heap.size, 0, none⟩ = some (.int .i64 1) ∧ W.cell? ⟨wr.heap.size, 1, none⟩ = some (.int .i64 xa) ∧ W.cell? ⟨wr.heap.size, 2, none⟩ = some (.int .i64 xb) ∧ W.cell? ⟨wr.heap.size, 3, none⟩ = some (.int .i64 xn)) W) := hide fun W h0 => by
                  refine ⟨?_, ?_, ?_, ?_⟩ <;> (rw [blk_cell h0]; rfl)
                have HS1 := hide (HS.out _ HXW.out)
                have HGX : Hid (blkOf na5 ≠ some wr.heap.size) := hide fun e => by have := hc.out.ne.2.2 _ e; omega
                refine wp_region_held_drew (S := (fun W : World => W.cell? ⟨wr.heap.size, 0, none⟩ = some (.int .i64 1) ∧ W.cell? ⟨wr.heap.size, 1, none⟩ = some (.int .i64 xa) ∧ W.cell? ⟨wr.heap.size, 2, none⟩ = some (.int .i64 xb) ∧ W.cell? ⟨wr.heap.size, 3, none⟩ = some (.int .i64 xn))) (by kernel_rfl) HS1.out (fun _ => ?_)
                generalize (wr.alloc (.cells #[.int .i64 1, .int .i64 xa, .int .i64 xb, .int .i64 xn] 26)).drew = w6 at *
                obtain ⟨na', nc', w7, happ, hNP, hly, hX⟩ := HLW.out.push (⟨1, xa, xb, xn⟩ : Nd) (by rw [newTo_len]; have := cntTo_le nd k; omega)
                simp only at happ
                have HLN := hide hly
                have HX7 := hide (hX wr.heap.size HXl.out ⟨_, HXW.out⟩ HGX.out)
                have HXb := hide (HX7.out.1.trans HXW.out)
                have HXc := hide (HX7.out.2.trans HXW.out)
                have HXa := hide (Below.blk (below_alloc w6 (.cells #[.int .i64 1, .int .i64 xa, .int .i64 xb, .int .i64 xn] 26)) HXW.out)
                have HSa := hide (HS.out _ HXa.out)
                have HSb := hide (HS.out _ HXb.out)
                have HSc := hide (HS.out _ HXc.out)
                have c0 : w6.cell? ⟨NP, 1, none⟩ = some (.slice na5 (newTo m nd k).length nc5) := by rw [blk_cell HLW.out.me]; rfl
                have c0a := cell_alloc c0 (.cells #[.int .i64 1, .int .i64 xa, .int .i64 xb, .int .i64 xn] 26)
                have fz := blk_frozen hNP 1
                have c2 : w7.cell? ⟨NP, 1, none⟩ = some (.slice na5 (newTo m nd k).length nc5) := by rw [blk_cell hNP]; rfl
                clear hly hX hNP
                refine wpAnyH_take (i := 0) (oi := ⟨some 114, _, _, _, _, _⟩) (v := .pointer (some ⟨NP, 0, none⟩)) rfl (by kernel_rfl) (by kernel_rfl) (by kernel_rfl) (fun _ _ _ h => h) (Or.inl ⟨by rfl, fun W hS => by (obtain ⟨s0, s1, s2, s3⟩ := hS; go_simp)⟩) HS1.out ?_
                simp only [Act.put, List.setIfInBounds_toArray, List.set_cons_zero, List.set_cons_succ]
                refine wpAnyH_take (i := 1) (oi := ⟨some 115, _, _, _, _, _⟩) (v := .pointer (some ⟨NP, 0, none⟩)) rfl (by kernel_rfl) (by kernel_rfl) (by kernel_rfl) (fun _ _ _ h => h) (Or.inl ⟨by rfl, fun W hS => by (obtain ⟨s0, s1, s2, s3⟩ := hS; go_simp)⟩) HS1.out ?_
                simp only [Act.put, List.setIfInBounds_toArray, List.set_cons_zero, List.set_cons_succ]
                refine wpAnyH_take (i := 2) (oi := ⟨some 116, _, _, _, _, _⟩) (v := .pointer (some ⟨NP, 0, none⟩)) rfl (by kernel_rfl) (by kernel_rfl) (by kernel_rfl) (fun _ _ _ h => h) (Or.inl ⟨by rfl, fun W hS => by (obtain ⟨s0, s1, s2, s3⟩ := hS; go_simp)⟩) HS1.out ?_
                simp only [Act.put, List.setIfInBounds_toArray, List.set_cons_zero, List.set_cons_succ]
                refine wpAnyH_take (i := 3) (oi := ⟨some 117, _, _, _, _, _⟩) (v := .pointer (some ⟨NP, 1, none⟩)) rfl (by kernel_rfl) (by kernel_rfl) (by kernel_rfl) (fun _ _ _ h => h) (Or.inl ⟨by rfl, fun W hS => by (obtain ⟨s0, s1, s2, s3⟩ := hS; go_simp)⟩) HS1.out ?_
                simp only [Act.put, List.setIfInBounds_toArray, List.set_cons_zero, List.set_cons_succ]
                refine wpAnyH_take (i := 5) (oi := ⟨some 119, _, _, _, _, _⟩) (v := .agg #[.int .i64 1, .int .i64 xa, .int .i64 xb, .int .i64 xn]) rfl (by kernel_rfl) (by kernel_rfl) (by kernel_rfl) (fun _ _ _ h => h) (Or.inl ⟨by rfl, fun W hS => by (obtain ⟨s0, s1, s2, s3⟩ := hS; go_simp)⟩) HS1.out ?_
                simp only [Act.put, List.setIfInBounds_toArray, List.set_cons_zero, List.set_cons_succ]
                refine wpAnyH_ready (rs := [4, 6]) (by kernel_rfl) (by simp) ?_
                refine AllReadyH.cons rfl (fun K hK => ?_) (AllReadyH.cons rfl (fun K hK => ?_) AllReadyH.nil)
                · go_simp
                  refine hK.out _ _ HS1.out (fun _ => ?_)
                  clear hK K
                  refine wpAnyH_ready (rs := [6]) (by kernel_rfl) (by simp) ?_
                  refine AllReadyH.cons rfl (fun K hK => ?_) AllReadyH.nil
                  go_simp
                  refine hK.out _ _ HSa.out (fun _ => ?_)
                  clear hK K
                  refine wpAnyH_ready (rs := [7]) (by kernel_rfl) (by simp) ?_
                  refine AllReadyH.cons rfl (fun K hK => ?_) AllReadyH.nil
                  refine (if_pos (by kernel_rfl)).mpr ?_
                  refine wp_append_run happ _ _ rfl rfl rfl ?_
                  simp only [Act.put, List.setIfInBounds_toArray, List.set_cons_zero, List.set_cons_succ, List.getElem_toArray, List.getElem_cons_succ, List.getElem_cons_zero]
                  refine hK.out _ _ HSb.out (fun _ => ?_)
                  clear hK K happ
                  refine wpAnyH_take (i := 8) (oi := ⟨some 122, _, _, _, _, _⟩) (v := .pointer (some ⟨NP, 0, none⟩)) rfl (by kernel_rfl) (by kernel_rfl) (by kernel_rfl) (fun _ _ _ h => h) (Or.inl ⟨by rfl, fun W hS => by (obtain ⟨s0, s1, s2, s3⟩ := hS; go_simp)⟩) HSb.out ?_
                  simp only [Act.put, List.setIfInBounds_toArray, List.set_cons_zero, List.set_cons_succ]
                  refine wpAnyH_take (i := 9) (oi := ⟨some 123, _, _, _, _, _⟩) (v := .pointer (some ⟨NP, 1, none⟩)) rfl (by kernel_rfl) (by kernel_rfl) (by kernel_rfl) (fun _ _ _ h => h) (Or.inl ⟨by rfl, fun W hS => by (obtain ⟨s0, s1, s2, s3⟩ := hS; go_simp)⟩) HSb.out ?_
                  simp only [Act.put, List.setIfInBounds_toArray, List.set_cons_zero, List.set_cons_succ]
                  refine wpAnyH_ready (rs := [10]) (by kernel_rfl) (by simp) ?_
                  refine AllReadyH.cons rfl (fun K hK => ?_) AllReadyH.nil
                  go_simp
                  refine hK.out _ _ HSc.out (fun _ => ?_)
                  clear hK K
                  refine wpAnyH_done (by kernel_rfl) ?_ _
                  clear c0 c0a fz c2
                  go_wp2_with fail
                  have HYS := hide (newTo_yes m nd k HBK.out)
                  exact ⟨⟨k + 1, na', nc', by omega, by go_num, by rw [HYS.out, HND6.out, HRE.out]; exact HLN⟩, by simp [intOf]; omega⟩
                · go_simp
                  refine hK.out _ _ HSa.out (fun _ => ?_)
                  clear hK K
                  refine wpAnyH_ready (rs := [4]) (by kernel_rfl) (by simp) ?_
                  refine AllReadyH.cons rfl (fun K hK => ?_) AllReadyH.nil
                  go_simp
                  refine hK.out _ _ HSa.out (fun _ => ?_)
                  clear hK K
                  refine wpAnyH_ready (rs := [7]) (by kernel_rfl) (by simp) ?_
                  refine AllReadyH.cons rfl (fun K hK => ?_) AllReadyH.nil
                  refine (if_pos (by kernel_rfl)).mpr ?_
                  refine wp_append_run happ _ _ rfl rfl rfl ?_
                  simp only [Act.put, List.setIfInBounds_toArray, List.set_cons_zero, List.set_cons_succ, List.getElem_toArray, List.getElem_cons_succ, List.getElem_cons_zero]
                  refine hK.out _ _ HSb.out (fun _ => ?_)
                  clear hK K happ
                  refine wpAnyH_take (i := 8) (oi := ⟨some 122, _, _, _, _, _⟩) (v := .pointer (some ⟨NP, 0, none⟩)) rfl (by kernel_rfl) (by kernel_rfl) (by kernel_rfl) (fun _ _ _ h => h) (Or.inl ⟨by rfl, fun W hS => by (obtain ⟨s0, s1, s2, s3⟩ := hS; go_simp)⟩) HSb.out ?_
                  simp only [Act.put, List.setIfInBounds_toArray, List.set_cons_zero, List.set_cons_succ]
                  refine wpAnyH_take (i := 9) (oi := ⟨some 123, _, _, _, _, _⟩) (v := .pointer (some ⟨NP, 1, none⟩)) rfl (by kernel_rfl) (by kernel_rfl) (by kernel_rfl) (fun _ _ _ h => h) (Or.inl ⟨by rfl, fun W hS => by (obtain ⟨s0, s1, s2, s3⟩ := hS; go_simp)⟩) HSb.out ?_
                  simp only [Act.put, List.setIfInBounds_toArray, List.set_cons_zero, List.set_cons_succ]
                  refine wpAnyH_ready (rs := [10]) (by kernel_rfl) (by simp) ?_
                  refine AllReadyH.cons rfl (fun K hK => ?_) AllReadyH.nil
                  go_simp
                  refine hK.out _ _ HSc.out (fun _ => ?_)
                  clear hK K
                  refine wpAnyH_done (by kernel_rfl) ?_ _
                  clear c0 c0a fz c2
                  go_wp2_with fail
                  have HYS := hide (newTo_yes m nd k HBK.out)
                  exact ⟨⟨k + 1, na', nc', by omega, by go_num, by rw [HYS.out, HND6.out, HRE.out]; exact HLN⟩, by simp [intOf]; omega⟩
              · have HRE : Hid (reN nd m.st ⟨2, xa, xb, xn⟩ = ⟨2, xa, xb, xn⟩) := hide rfl
                go_wp2_with fail
                have HLW : Hid (Lyg w3 NP OB given (newTo m nd k) (List.replicate os.length 0) (wr.alloc (.cells #[.int .i64 2, .int .i64 xa, .int .i64 xb, .int .i64 xn] 26)).drew na5 nc5) := hide (hc.out.more (by first | exact (below_alloc _ _).drew | exact (below_alloc _ _).drew.drew))
                have HXW : Hid ((wr.alloc (.cells #[.int .i64 2, .int .i64 xa, .int .i64 xb, .int .i64 xn] 26)).drew.heap[wr.heap.size]? = some (.cells #[.int .i64 2, .int .i64 xa, .int .i64 xb, .int .i64 xn] 26 (0, 0))) := hide (blk_new wr (.cells #[.int .i64 2, .int .i64 xa, .int .i64 xb, .int .i64 xn] 26))
                have HXl : Hid (wr.heap.size < (wr.alloc (.cells #[.int .i64 2, .int .i64 xa, .int .i64 xb, .int .i64 xn] 26)).drew.heap.size) := hide (blk_lt HXW.out)
                have HS : Hid (∀ W : World, W.heap[wr.heap.size]? = some (.cells #[.int .i64 2, .int .i64 xa, .int .i64 xb, .int .i64 xn] 26 (0, 0)) → (fun W : World => W.cell? ⟨wr.heap.size, 0, none⟩ = some (.int .i64 2) ∧ W.cell? ⟨wr.heap.size, 1, none⟩ = some (.int .i64 xa) ∧ W.cell? ⟨wr.heap.size, 2, none⟩ = some (.int .i64 xb) ∧ W.cell? ⟨wr.heap.size, 3, none⟩ = some (.int .i64 xn)) W) := hide fun W h0 => by
                  refine ⟨?_, ?_, ?_, ?_⟩ <;> (rw [blk_cell h0]; rfl)
                have HS1 := hide (HS.out _ HXW.out)
                have HGX : Hid (blkOf na5 ≠ some wr.heap.size) := hide fun e => by have := hc.out.ne.2.2 _ e; omega
                refine wp_region_held_drew (S := (fun W : World => W.cell? ⟨wr.heap.size, 0, none⟩ = some (.int .i64 2) ∧ W.cell? ⟨wr.heap.size, 1, none⟩ = some (.int .i64 xa) ∧ W.cell? ⟨wr.heap.size, 2, none⟩ = some (.int .i64 xb) ∧ W.cell? ⟨wr.heap.size, 3, none⟩ = some (.int .i64 xn))) (by kernel_rfl) HS1.out (fun _ => ?_)
                generalize (wr.alloc (.cells #[.int .i64 2, .int .i64 xa, .int .i64 xb, .int .i64 xn] 26)).drew = w6 at *
                obtain ⟨na', nc', w7, happ, hNP, hly, hX⟩ := HLW.out.push (⟨2, xa, xb, xn⟩ : Nd) (by rw [newTo_len]; have := cntTo_le nd k; omega)
                simp only at happ
                have HLN := hide hly
                have HX7 := hide (hX wr.heap.size HXl.out ⟨_, HXW.out⟩ HGX.out)
                have HXb := hide (HX7.out.1.trans HXW.out)
                have HXc := hide (HX7.out.2.trans HXW.out)
                have HXa := hide (Below.blk (below_alloc w6 (.cells #[.int .i64 2, .int .i64 xa, .int .i64 xb, .int .i64 xn] 26)) HXW.out)
                have HSa := hide (HS.out _ HXa.out)
                have HSb := hide (HS.out _ HXb.out)
                have HSc := hide (HS.out _ HXc.out)
                have c0 : w6.cell? ⟨NP, 1, none⟩ = some (.slice na5 (newTo m nd k).length nc5) := by rw [blk_cell HLW.out.me]; rfl
                have c0a := cell_alloc c0 (.cells #[.int .i64 2, .int .i64 xa, .int .i64 xb, .int .i64 xn] 26)
                have fz := blk_frozen hNP 1
                have c2 : w7.cell? ⟨NP, 1, none⟩ = some (.slice na5 (newTo m nd k).length nc5) := by rw [blk_cell hNP]; rfl
                clear hly hX hNP
                refine wpAnyH_take (i := 0) (oi := ⟨some 114, _, _, _, _, _⟩) (v := .pointer (some ⟨NP, 0, none⟩)) rfl (by kernel_rfl) (by kernel_rfl) (by kernel_rfl) (fun _ _ _ h => h) (Or.inl ⟨by rfl, fun W hS => by (obtain ⟨s0, s1, s2, s3⟩ := hS; go_simp)⟩) HS1.out ?_
                simp only [Act.put, List.setIfInBounds_toArray, List.set_cons_zero, List.set_cons_succ]
                refine wpAnyH_take (i := 1) (oi := ⟨some 115, _, _, _, _, _⟩) (v := .pointer (some ⟨NP, 0, none⟩)) rfl (by kernel_rfl) (by kernel_rfl) (by kernel_rfl) (fun _ _ _ h => h) (Or.inl ⟨by rfl, fun W hS => by (obtain ⟨s0, s1, s2, s3⟩ := hS; go_simp)⟩) HS1.out ?_
                simp only [Act.put, List.setIfInBounds_toArray, List.set_cons_zero, List.set_cons_succ]
                refine wpAnyH_take (i := 2) (oi := ⟨some 116, _, _, _, _, _⟩) (v := .pointer (some ⟨NP, 0, none⟩)) rfl (by kernel_rfl) (by kernel_rfl) (by kernel_rfl) (fun _ _ _ h => h) (Or.inl ⟨by rfl, fun W hS => by (obtain ⟨s0, s1, s2, s3⟩ := hS; go_simp)⟩) HS1.out ?_
                simp only [Act.put, List.setIfInBounds_toArray, List.set_cons_zero, List.set_cons_succ]
                refine wpAnyH_take (i := 3) (oi := ⟨some 117, _, _, _, _, _⟩) (v := .pointer (some ⟨NP, 1, none⟩)) rfl (by kernel_rfl) (by kernel_rfl) (by kernel_rfl) (fun _ _ _ h => h) (Or.inl ⟨by rfl, fun W hS => by (obtain ⟨s0, s1, s2, s3⟩ := hS; go_simp)⟩) HS1.out ?_
                simp only [Act.put, List.setIfInBounds_toArray, List.set_cons_zero, List.set_cons_succ]
                refine wpAnyH_take (i := 5) (oi := ⟨some 119, _, _, _, _, _⟩) (v := .agg #[.int .i64 2, .int .i64 xa, .int .i64 xb, .int .i64 xn]) rfl (by kernel_rfl) (by kernel_rfl) (by kernel_rfl) (fun _ _ _ h => h) (Or.inl ⟨by rfl, fun W hS => by (obtain ⟨s0, s1, s2, s3⟩ := hS; go_simp)⟩) HS1.out ?_
                simp only [Act.put, List.setIfInBounds_toArray, List.set_cons_zero, List.set_cons_succ]
                refine wpAnyH_ready (rs := [4, 6]) (by kernel_rfl) (by simp) ?_
                refine AllReadyH.cons rfl (fun K hK => ?_) (AllReadyH.cons rfl (fun K hK => ?_) AllReadyH.nil)
                · go_simp
                  refine hK.out _ _ HS1.out (fun _ => ?_)
                  clear hK K
                  refine wpAnyH_ready (rs := [6]) (by kernel_rfl) (by simp) ?_
                  refine AllReadyH.cons rfl (fun K hK => ?_) AllReadyH.nil
                  go_simp
                  refine hK.out _ _ HSa.out (fun _ => ?_)
                  clear hK K
                  refine wpAnyH_ready (rs := [7]) (by kernel_rfl) (by simp) ?_
                  refine AllReadyH.cons rfl (fun K hK => ?_) AllReadyH.nil
                  refine (if_pos (by kernel_rfl)).mpr ?_
                  refine wp_append_run happ _ _ rfl rfl rfl ?_
                  simp only [Act.put, List.setIfInBounds_toArray, List.set_cons_zero, List.set_cons_succ, List.getElem_toArray, List.getElem_cons_succ, List.getElem_cons_zero]
                  refine hK.out _ _ HSb.out (fun _ => ?_)
                  clear hK K happ
                  refine wpAnyH_take (i := 8) (oi := ⟨some 122, _, _, _, _, _⟩) (v := .pointer (some ⟨NP, 0, none⟩)) rfl (by kernel_rfl) (by kernel_rfl) (by kernel_rfl) (fun _ _ _ h => h) (Or.inl ⟨by rfl, fun W hS => by (obtain ⟨s0, s1, s2, s3⟩ := hS; go_simp)⟩) HSb.out ?_
                  simp only [Act.put, List.setIfInBounds_toArray, List.set_cons_zero, List.set_cons_succ]
                  refine wpAnyH_take (i := 9) (oi := ⟨some 123, _, _, _, _, _⟩) (v := .pointer (some ⟨NP, 1, none⟩)) rfl (by kernel_rfl) (by kernel_rfl) (by kernel_rfl) (fun _ _ _ h => h) (Or.inl ⟨by rfl, fun W hS => by (obtain ⟨s0, s1, s2, s3⟩ := hS; go_simp)⟩) HSb.out ?_
                  simp only [Act.put, List.setIfInBounds_toArray, List.set_cons_zero, List.set_cons_succ]
                  refine wpAnyH_ready (rs := [10]) (by kernel_rfl) (by simp) ?_
                  refine AllReadyH.cons rfl (fun K hK => ?_) AllReadyH.nil
                  go_simp
                  refine hK.out _ _ HSc.out (fun _ => ?_)
                  clear hK K
                  refine wpAnyH_done (by kernel_rfl) ?_ _
                  clear c0 c0a fz c2
                  go_wp2_with fail
                  have HYS := hide (newTo_yes m nd k HBK.out)
                  exact ⟨⟨k + 1, na', nc', by omega, by go_num, by rw [HYS.out, HND6.out, HRE.out]; exact HLN⟩, by simp [intOf]; omega⟩
                · go_simp
                  refine hK.out _ _ HSa.out (fun _ => ?_)
                  clear hK K
                  refine wpAnyH_ready (rs := [4]) (by kernel_rfl) (by simp) ?_
                  refine AllReadyH.cons rfl (fun K hK => ?_) AllReadyH.nil
                  go_simp
                  refine hK.out _ _ HSa.out (fun _ => ?_)
                  clear hK K
                  refine wpAnyH_ready (rs := [7]) (by kernel_rfl) (by simp) ?_
                  refine AllReadyH.cons rfl (fun K hK => ?_) AllReadyH.nil
                  refine (if_pos (by kernel_rfl)).mpr ?_
                  refine wp_append_run happ _ _ rfl rfl rfl ?_
                  simp only [Act.put, List.setIfInBounds_toArray, List.set_cons_zero, List.set_cons_succ, List.getElem_toArray, List.getElem_cons_succ, List.getElem_cons_zero]
                  refine hK.out _ _ HSb.out (fun _ => ?_)
                  clear hK K happ
                  refine wpAnyH_take (i := 8) (oi := ⟨some 122, _, _, _, _, _⟩) (v := .pointer (some ⟨NP, 0, none⟩)) rfl (by kernel_rfl) (by kernel_rfl) (by kernel_rfl) (fun _ _ _ h => h) (Or.inl ⟨by rfl, fun W hS => by (obtain ⟨s0, s1, s2, s3⟩ := hS; go_simp)⟩) HSb.out ?_
                  simp only [Act.put, List.setIfInBounds_toArray, List.set_cons_zero, List.set_cons_succ]
                  refine wpAnyH_take (i := 9) (oi := ⟨some 123, _, _, _, _, _⟩) (v := .pointer (some ⟨NP, 1, none⟩)) rfl (by kernel_rfl) (by kernel_rfl) (by kernel_rfl) (fun _ _ _ h => h) (Or.inl ⟨by rfl, fun W hS => by (obtain ⟨s0, s1, s2, s3⟩ := hS; go_simp)⟩) HSb.out ?_
                  simp only [Act.put, List.setIfInBounds_toArray, List.set_cons_zero, List.set_cons_succ]
                  refine wpAnyH_ready (rs := [10]) (by kernel_rfl) (by simp) ?_
                  refine AllReadyH.cons rfl (fun K hK => ?_) AllReadyH.nil
                  go_simp
                  refine hK.out _ _ HSc.out (fun _ => ?_)
                  clear hK K
                  refine wpAnyH_done (by kernel_rfl) ?_ _
                  clear c0 c0a fz c2
                  go_wp2_with fail
                  have HYS := hide (newTo_yes m nd k HBK.out)
                  exact ⟨⟨k + 1, na', nc', by omega, by go_num, by rw [HYS.out, HND6.out, HRE.out]; exact HLN⟩, by simp [intOf]; omega⟩
              · have HRE : Hid (reN nd m.st ⟨3, xa, xb, xn⟩ = ⟨3, xa, xb, xn⟩) := hide rfl
                go_wp2_with fail
                have HLW : Hid (Lyg w3 NP OB given (newTo m nd k) (List.replicate os.length 0) (wr.alloc (.cells #[.int .i64 3, .int .i64 xa, .int .i64 xb, .int .i64 xn] 26)).drew na5 nc5) := hide (hc.out.more (by first | exact (below_alloc _ _).drew | exact (below_alloc _ _).drew.drew))
                have HXW : Hid ((wr.alloc (.cells #[.int .i64 3, .int .i64 xa, .int .i64 xb, .int .i64 xn] 26)).drew.heap[wr.heap.size]? = some (.cells #[.int .i64 3, .int .i64 xa, .int .i64 xb, .int .i64 xn] 26 (0, 0))) := hide (blk_new wr (.cells #[.int .i64 3, .int .i64 xa, .int .i64 xb, .int .i64 xn] 26))
                have HXl : Hid (wr.heap.size < (wr.alloc (.cells #[.int .i64 3, .int .i64 xa, .int .i64 xb, .int .i64 xn] 26)).drew.heap.size) := hide (blk_lt HXW.out)
                have HS : Hid (∀ W : World, W.heap[wr.heap.size]? = some (.cells #[.int .i64 3, .int .i64 xa, .int .i64 xb, .int .i64 xn] 26 (0, 0)) → (fun W : World => W.cell? ⟨wr.heap.size, 0, none⟩ = some (.int .i64 3) ∧ W.cell? ⟨wr.heap.size, 1, none⟩ = some (.int .i64 xa) ∧ W.cell? ⟨wr.heap.size, 2, none⟩ = some (.int .i64 xb) ∧ W.cell? ⟨wr.heap.size, 3, none⟩ = some (.int .i64 xn)) W) := hide fun W h0 => by
                  refine ⟨?_, ?_, ?_, ?_⟩ <;> (rw [blk_cell h0]; rfl)
                have HS1 := hide (HS.out _ HXW.out)
                have HGX : Hid (blkOf na5 ≠ some wr.heap.size) := hide fun e => by have := hc.out.ne.2.2 _ e; omega
                refine wp_region_held_drew (S := (fun W : World => W.cell? ⟨wr.heap.size, 0, none⟩ = some (.int .i64 3) ∧ W.cell? ⟨wr.heap.size, 1, none⟩ = some (.int .i64 xa) ∧ W.cell? ⟨wr.heap.size, 2, none⟩ = some (.int .i64 xb) ∧ W.cell? ⟨wr.heap.size, 3, none⟩ = some (.int .i64 xn))) (by kernel_rfl) HS1.out (fun _ => ?_)
                generalize (wr.alloc (.cells #[.int .i64 3, .int .i64 xa, .int .i64 xb, .int .i64 xn] 26)).drew = w6 at *
                obtain ⟨na', nc', w7, happ, hNP, hly, hX⟩ := HLW.out.push (⟨3, xa, xb, xn⟩ : Nd) (by rw [newTo_len]; have := cntTo_le nd k; omega)
                simp only at happ
                have HLN := hide hly
                have HX7 := hide (hX wr.heap.size HXl.out ⟨_, HXW.out⟩ HGX.out)
                have HXb := hide (HX7.out.1.trans HXW.out)
                have HXc := hide (HX7.out.2.trans HXW.out)
                have HXa := hide (Below.blk (below_alloc w6 (.cells #[.int .i64 3, .int .i64 xa, .int .i64 xb, .int .i64 xn] 26)) HXW.out)
                have HSa := hide (HS.out _ HXa.out)
                have HSb := hide (HS.out _ HXb.out)
                have HSc := hide (HS.out _ HXc.out)
                have c0 : w6.cell? ⟨NP, 1, none⟩ = some (.slice na5 (newTo m nd k).length nc5) := by rw [blk_cell HLW.out.me]; rfl
                have c0a := cell_alloc c0 (.cells #[.int .i64 3, .int .i64 xa, .int .i64 xb, .int .i64 xn] 26)
                have fz := blk_frozen hNP 1
                have c2 : w7.cell? ⟨NP, 1, none⟩ = some (.slice na5 (newTo m nd k).length nc5) := by rw [blk_cell hNP]; rfl
                clear hly hX hNP
                refine wpAnyH_take (i := 0) (oi := ⟨some 114, _, _, _, _, _⟩) (v := .pointer (some ⟨NP, 0, none⟩)) rfl (by kernel_rfl) (by kernel_rfl) (by kernel_rfl) (fun _ _ _ h => h) (Or.inl ⟨by rfl, fun W hS => by (obtain ⟨s0, s1, s2, s3⟩ := hS; go_simp)⟩) HS1.out ?_
                simp only [Act.put, List.setIfInBounds_toArray, List.set_cons_zero, List.set_cons_succ]
                refine wpAnyH_take (i := 1) (oi := ⟨some 115, _, _, _, _, _⟩) (v := .pointer (some ⟨NP, 0, none⟩)) rfl (by kernel_rfl) (by kernel_rfl) (by kernel_rfl) (fun _ _ _ h => h) (Or.inl ⟨by rfl, fun W hS => by (obtain ⟨s0, s1, s2, s3⟩ := hS; go_simp)⟩) HS1.out ?_
                simp only [Act.put, List.setIfInBounds_toArray, List.set_cons_zero, List.set_cons_succ]
                refine wpAnyH_take (i := 2) (oi := ⟨some 116, _, _, _, _, _⟩) (v := .pointer (some ⟨NP, 0, none⟩)) rfl (by kernel_rfl) (by kernel_rfl) (by kernel_rfl) (fun _ _ _ h => h) (Or.inl ⟨by rfl, fun W hS => by (obtain ⟨s0, s1, s2, s3⟩ := hS; go_simp)⟩) HS1.out ?_
                simp only [Act.put, List.setIfInBounds_toArray, List.set_cons_zero, List.set_cons_succ]
                refine wpAnyH_take (i := 3) (oi := ⟨some 117, _, _, _, _, _⟩) (v := .pointer (some ⟨NP, 1, none⟩)) rfl (by kernel_rfl) (by kernel_rfl) (by kernel_rfl) (fun _ _ _ h => h) (Or.inl ⟨by rfl, fun W hS => by (obtain ⟨s0, s1, s2, s3⟩ := hS; go_simp)⟩) HS1.out ?_
                simp only [Act.put, List.setIfInBounds_toArray, List.set_cons_zero, List.set_cons_succ]
                refine wpAnyH_take (i := 5) (oi := ⟨some 119, _, _, _, _, _⟩) (v := .agg #[.int .i64 3, .int .i64 xa, .int .i64 xb, .int .i64 xn]) rfl (by kernel_rfl) (by kernel_rfl) (by kernel_rfl) (fun _ _ _ h => h) (Or.inl ⟨by rfl, fun W hS => by (obtain ⟨s0, s1, s2, s3⟩ := hS; go_simp)⟩) HS1.out ?_
                simp only [Act.put, List.setIfInBounds_toArray, List.set_cons_zero, List.set_cons_succ]
                refine wpAnyH_ready (rs := [4, 6]) (by kernel_rfl) (by simp) ?_
                refine AllReadyH.cons rfl (fun K hK => ?_) (AllReadyH.cons rfl (fun K hK => ?_) AllReadyH.nil)
                · go_simp
                  refine hK.out _ _ HS1.out (fun _ => ?_)
                  clear hK K
                  refine wpAnyH_ready (rs := [6]) (by kernel_rfl) (by simp) ?_
                  refine AllReadyH.cons rfl (fun K hK => ?_) AllReadyH.nil
                  go_simp
                  refine hK.out _ _ HSa.out (fun _ => ?_)
                  clear hK K
                  refine wpAnyH_ready (rs := [7]) (by kernel_rfl) (by simp) ?_
                  refine AllReadyH.cons rfl (fun K hK => ?_) AllReadyH.nil
                  refine (if_pos (by kernel_rfl)).mpr ?_
                  refine wp_append_run happ _ _ rfl rfl rfl ?_
                  simp only [Act.put, List.setIfInBounds_toArray, List.set_cons_zero, List.set_cons_succ, List.getElem_toArray, List.getElem_cons_succ, List.getElem_cons_zero]
                  refine hK.out _ _ HSb.out (fun _ => ?_)
                  clear hK K happ
                  refine wpAnyH_take (i := 8) (oi := ⟨some 122, _, _, _, _, _⟩) (v := .pointer (some ⟨NP, 0, none⟩)) rfl (by kernel_rfl) (by kernel_rfl) (by kernel_rfl) (fun _ _ _ h => h) (Or.inl ⟨by rfl, fun W hS => by (obtain ⟨s0, s1, s2, s3⟩ := hS; go_simp)⟩) HSb.out ?_
                  simp only [Act.put, List.setIfInBounds_toArray, List.set_cons_zero, List.set_cons_succ]
                  refine wpAnyH_take (i := 9) (oi := ⟨some 123, _, _, _, _, _⟩) (v := .pointer (some ⟨NP, 1, none⟩)) rfl (by kernel_rfl) (by kernel_rfl) (by kernel_rfl) (fun _ _ _ h => h) (Or.inl ⟨by rfl, fun W hS => by (obtain ⟨s0, s1, s2, s3⟩ := hS; go_simp)⟩) HSb.out ?_
                  simp only [Act.put, List.setIfInBounds_toArray, List.set_cons_zero, List.set_cons_succ]
                  refine wpAnyH_ready (rs := [10]) (by kernel_rfl) (by simp) ?_
                  refine AllReadyH.cons rfl (fun K hK => ?_) AllReadyH.nil
                  go_simp
                  refine hK.out _ _ HSc.out (fun _ => ?_)
                  clear hK K
                  refine wpAnyH_done (by kernel_rfl) ?_ _
                  clear c0 c0a fz c2
                  go_wp2_with fail
                  have HYS := hide (newTo_yes m nd k HBK.out)
                  exact ⟨⟨k + 1, na', nc', by omega, by go_num, by rw [HYS.out, HND6.out, HRE.out]; exact HLN⟩, by simp [intOf]; omega⟩
                · go_simp
                  refine hK.out _ _ HSa.out (fun _ => ?_)
                  clear hK K
                  refine wpAnyH_ready (rs := [4]) (by kernel_rfl) (by simp) ?_
                  refine AllReadyH.cons rfl (fun K hK => ?_) AllReadyH.nil
                  go_simp
                  refine hK.out _ _ HSa.out (fun _ => ?_)
                  clear hK K
                  refine wpAnyH_ready (rs := [7]) (by kernel_rfl) (by simp) ?_
                  refine AllReadyH.cons rfl (fun K hK => ?_) AllReadyH.nil
                  refine (if_pos (by kernel_rfl)).mpr ?_
                  refine wp_append_run happ _ _ rfl rfl rfl ?_
                  simp only [Act.put, List.setIfInBounds_toArray, List.set_cons_zero, List.set_cons_succ, List.getElem_toArray, List.getElem_cons_succ, List.getElem_cons_zero]
                  refine hK.out _ _ HSb.out (fun _ => ?_)
                  clear hK K happ
                  refine wpAnyH_take (i := 8) (oi := ⟨some 122, _, _, _, _, _⟩) (v := .pointer (some ⟨NP, 0, none⟩)) rfl (by kernel_rfl) (by kernel_rfl) (by kernel_rfl) (fun _ _ _ h => h) (Or.inl ⟨by rfl, fun W hS => by (obtain ⟨s0, s1, s2, s3⟩ := hS; go_simp)⟩) HSb.out ?_
                  simp only [Act.put, List.setIfInBounds_toArray, List.set_cons_zero, List.set_cons_succ]
                  refine wpAnyH_take (i := 9) (oi := ⟨some 123, _, _, _, _, _⟩) (v := .pointer (some ⟨NP, 1, none⟩)) rfl (by kernel_rfl) (by kernel_rfl) (by kernel_rfl) (fun _ _ _ h => h) (Or.inl ⟨by rfl, fun W hS => by (obtain ⟨s0, s1, s2, s3⟩ := hS; go_simp)⟩) HSb.out ?_
                  simp only [Act.put, List.setIfInBounds_toArray, List.set_cons_zero, List.set_cons_succ]
                  refine wpAnyH_ready (rs := [10]) (by kernel_rfl) (by simp) ?_
                  refine AllReadyH.cons rfl (fun K hK => ?_) AllReadyH.nil
                  go_simp
                  refine hK.out _ _ HSc.out (fun _ => ?_)
                  clear hK K
                  refine wpAnyH_done (by kernel_rfl) ?_ _
                  clear c0 c0a fz c2
                  go_wp2_with fail
                  have HYS := hide (newTo_yes m nd k HBK.out)
                  exact ⟨⟨k + 1, na', nc', by omega, by go_num, by rw [HYS.out, HND6.out, HRE.out]; exact HLN⟩, by simp [intOf]; omega⟩
              · obtain ⟨q, rfl, hq⟩ := HREG.out rfl
                have hqi : (q : Int) < (m.st.length : Int) := by omega
                have hu := HD.out.all q hq
                obtain ⟨u, hue⟩ := Int.eq_ofNat_of_zero_le hu.1
                have hul : u < m.ms.length := by have := hu.2; omega
                have hui : (u : Int) < (m.ms.length : Int) := by omega
                have cs := ints_cellN HSTr.out hq
                rw [hue] at cs
                have cn := ints_cellN HNUr.out (show u < _ by rw [numL_len]; exact hul)
                rw [numL_at _ _ _ hul] at cn
                have csa := fun o => cell_alloc cs o
                have cna := fun o => cell_alloc cn o
                have HRE : Hid (reN nd m.st ⟨4, xa, xb, (q : Int)⟩ = ⟨4, xa, xb, (cntTo nd u : Nat)⟩) := hide (by simp [reN, numP, kAt_n, hue])
                clear hu hue
                go_wp2_with fail
                have HLW : Hid (Lyg w3 NP OB given (newTo m nd k) (List.replicate os.length 0) (wr.alloc (.cells #[.int .i64 4, .int .i64 xa, .int .i64 xb, .int .i64 (cntTo nd u : Nat)] 26)).drew na5 nc5) := hide (hc.out.more (by first | exact (below_alloc _ _).drew | exact (below_alloc _ _).drew.drew))
                have HXW : Hid ((wr.alloc (.cells #[.int .i64 4, .int .i64 xa, .int .i64 xb, .int .i64 (cntTo nd u : Nat)] 26)).drew.heap[wr.heap.size]? = some (.cells #[.int .i64 4, .int .i64 xa, .int .i64 xb, .int .i64 (cntTo nd u : Nat)] 26 (0, 0))) := hide (blk_new wr (.cells #[.int .i64 4, .int .i64 xa, .int .i64 xb, .int .i64 (cntTo nd u : Nat)] 26))
                have HXl : Hid (wr.heap.size < (wr.alloc (.cells #[.int .i64 4, .int .i64 xa, .int .i64 xb, .int .i64 (cntTo nd u : Nat)] 26)).drew.heap.size) := hide (blk_lt HXW.out)
                have HS : Hid (∀ W : World, W.heap[wr.heap.size]? = some (.cells #[.int .i64 4, .int .i64 xa, .int .i64 xb, .int .i64 (cntTo nd u : Nat)] 26 (0, 0)) → (fun W : World => W.cell? ⟨wr.heap.size, 0, none⟩ = some (.int .i64 4) ∧ W.cell? ⟨wr.heap.size, 1, none⟩ = some (.int .i64 xa) ∧ W.cell? ⟨wr.heap.size, 2, none⟩ = some (.int .i64 xb) ∧ W.cell? ⟨wr.heap.size, 3, none⟩ = some (.int .i64 (cntTo nd u : Nat))) W) := hide fun W h0 => by
                  refine ⟨?_, ?_, ?_, ?_⟩ <;> (rw [blk_cell h0]; rfl)
                have HS1 := hide (HS.out _ HXW.out)
                have HGX : Hid (blkOf na5 ≠ some wr.heap.size) := hide fun e => by have := hc.out.ne.2.2 _ e; omega
                refine wp_region_held_drew (S := (fun W : World => W.cell? ⟨wr.heap.size, 0, none⟩ = some (.int .i64 4) ∧ W.cell? ⟨wr.heap.size, 1, none⟩ = some (.int .i64 xa) ∧ W.cell? ⟨wr.heap.size, 2, none⟩ = some (.int .i64 xb) ∧ W.cell? ⟨wr.heap.size, 3, none⟩ = some (.int .i64 (cntTo nd u : Nat)))) (by kernel_rfl) HS1.out (fun _ => ?_)
                generalize (wr.alloc (.cells #[.int .i64 4, .int .i64 xa, .int .i64 xb, .int .i64 (cntTo nd u : Nat)] 26)).drew = w6 at *
                obtain ⟨na', nc', w7, happ, hNP, hly, hX⟩ := HLW.out.push (⟨4, xa, xb, (cntTo nd u : Nat)⟩ : Nd) (by rw [newTo_len]; have := cntTo_le nd k; omega)
                simp only at happ
                have HLN := hide hly
                have HX7 := hide (hX wr.heap.size HXl.out ⟨_, HXW.out⟩ HGX.out)
                have HXb := hide (HX7.out.1.trans HXW.out)
                have HXc := hide (HX7.out.2.trans HXW.out)
                have HXa := hide (Below.blk (below_alloc w6 (.cells #[.int .i64 4, .int .i64 xa, .int .i64 xb, .int .i64 (cntTo nd u : Nat)] 26)) HXW.out)
                have HSa := hide (HS.out _ HXa.out)
                have HSb := hide (HS.out _ HXb.out)
                have HSc := hide (HS.out _ HXc.out)
                have c0 : w6.cell? ⟨NP, 1, none⟩ = some (.slice na5 (newTo m nd k).length nc5) := by rw [blk_cell HLW.out.me]; rfl
                have c0a := cell_alloc c0 (.cells #[.int .i64 4, .int .i64 xa, .int .i64 xb, .int .i64 (cntTo nd u : Nat)] 26)
                have fz := blk_frozen hNP 1
                have c2 : w7.cell? ⟨NP, 1, none⟩ = some (.slice na5 (newTo m nd k).length nc5) := by rw [blk_cell hNP]; rfl
                clear hly hX hNP
                refine wpAnyH_take (i := 0) (oi := ⟨some 114, _, _, _, _, _⟩) (v := .pointer (some ⟨NP, 0, none⟩)) rfl (by kernel_rfl) (by kernel_rfl) (by kernel_rfl) (fun _ _ _ h => h) (Or.inl ⟨by rfl, fun W hS => by (obtain ⟨s0, s1, s2, s3⟩ := hS; go_simp)⟩) HS1.out ?_
                simp only [Act.put, List.setIfInBounds_toArray, List.set_cons_zero, List.set_cons_succ]
                refine wpAnyH_take (i := 1) (oi := ⟨some 115, _, _, _, _, _⟩) (v := .pointer (some ⟨NP, 0, none⟩)) rfl (by kernel_rfl) (by kernel_rfl) (by kernel_rfl) (fun _ _ _ h => h) (Or.inl ⟨by rfl, fun W hS => by (obtain ⟨s0, s1, s2, s3⟩ := hS; go_simp)⟩) HS1.out ?_
                simp only [Act.put, List.setIfInBounds_toArray, List.set_cons_zero, List.set_cons_succ]
                refine wpAnyH_take (i := 2) (oi := ⟨some 116, _, _, _, _, _⟩) (v := .pointer (some ⟨NP, 0, none⟩)) rfl (by kernel_rfl) (by kernel_rfl) (by kernel_rfl) (fun _ _ _ h => h) (Or.inl ⟨by rfl, fun W hS => by (obtain ⟨s0, s1, s2, s3⟩ := hS; go_simp)⟩) HS1.out ?_
                simp only [Act.put, List.setIfInBounds_toArray, List.set_cons_zero, List.set_cons_succ]
                refine wpAnyH_take (i := 3) (oi := ⟨some 117, _, _, _, _, _⟩) (v := .pointer (some ⟨NP, 1, none⟩)) rfl (by kernel_rfl) (by kernel_rfl) (by kernel_rfl) (fun _ _ _ h => h) (Or.inl ⟨by rfl, fun W hS => by (obtain ⟨s0, s1, s2, s3⟩ := hS; go_simp)⟩) HS1.out ?_
                simp only [Act.put, List.setIfInBounds_toArray, List.set_cons_zero, List.set_cons_succ]
                refine wpAnyH_take (i := 5) (oi := ⟨some 119, _, _, _, _, _⟩) (v := .agg #[.int .i64 4, .int .i64 xa, .int .i64 xb, .int .i64 (cntTo nd u : Nat)]) rfl (by kernel_rfl) (by kernel_rfl) (by kernel_rfl) (fun _ _ _ h => h) (Or.inl ⟨by rfl, fun W hS => by (obtain ⟨s0, s1, s2, s3⟩ := hS; go_simp)⟩) HS1.out ?_
                simp only [Act.put, List.setIfInBounds_toArray, List.set_cons_zero, List.set_cons_succ]
                refine wpAnyH_ready (rs := [4, 6]) (by kernel_rfl) (by simp) ?_
                refine AllReadyH.cons rfl (fun K hK => ?_) (AllReadyH.cons rfl (fun K hK => ?_) AllReadyH.nil)
                · go_simp
                  refine hK.out _ _ HS1.out (fun _ => ?_)
                  clear hK K
                  refine wpAnyH_ready (rs := [6]) (by kernel_rfl) (by simp) ?_
                  refine AllReadyH.cons rfl (fun K hK => ?_) AllReadyH.nil
                  go_simp
                  refine hK.out _ _ HSa.out (fun _ => ?_)
                  clear hK K
                  refine wpAnyH_ready (rs := [7]) (by kernel_rfl) (by simp) ?_
                  refine AllReadyH.cons rfl (fun K hK => ?_) AllReadyH.nil
                  refine (if_pos (by kernel_rfl)).mpr ?_
                  refine wp_append_run happ _ _ rfl rfl rfl ?_
                  simp only [Act.put, List.setIfInBounds_toArray, List.set_cons_zero, List.set_cons_succ, List.getElem_toArray, List.getElem_cons_succ, List.getElem_cons_zero]
                  refine hK.out _ _ HSb.out (fun _ => ?_)
                  clear hK K happ
                  refine wpAnyH_take (i := 8) (oi := ⟨some 122, _, _, _, _, _⟩) (v := .pointer (some ⟨NP, 0, none⟩)) rfl (by kernel_rfl) (by kernel_rfl) (by kernel_rfl) (fun _ _ _ h => h) (Or.inl ⟨by rfl, fun W hS => by (obtain ⟨s0, s1, s2, s3⟩ := hS; go_simp)⟩) HSb.out ?_
                  simp only [Act.put, List.setIfInBounds_toArray, List.set_cons_zero, List.set_cons_succ]
                  refine wpAnyH_take (i := 9) (oi := ⟨some 123, _, _, _, _, _⟩) (v := .pointer (some ⟨NP, 1, none⟩)) rfl (by kernel_rfl) (by kernel_rfl) (by kernel_rfl) (fun _ _ _ h => h) (Or.inl ⟨by rfl, fun W hS => by (obtain ⟨s0, s1, s2, s3⟩ := hS; go_simp)⟩) HSb.out ?_
                  simp only [Act.put, List.setIfInBounds_toArray, List.set_cons_zero, List.set_cons_succ]
                  refine wpAnyH_ready (rs := [10]) (by kernel_rfl) (by simp) ?_
                  refine AllReadyH.cons rfl (fun K hK => ?_) AllReadyH.nil
                  go_simp
                  refine hK.out _ _ HSc.out (fun _ => ?_)
                  clear hK K
                  refine wpAnyH_done (by kernel_rfl) ?_ _
                  clear c0 c0a fz c2
                  go_wp2_with fail
                  have HYS := hide (newTo_yes m nd k HBK.out)
                  exact ⟨⟨k + 1, na', nc', by omega, by go_num, by rw [HYS.out, HND6.out, HRE.out]; exact HLN⟩, by simp [intOf]; omega⟩
                · go_simp
                  refine hK.out _ _ HSa.out (fun _ => ?_)
                  clear hK K
                  refine wpAnyH_ready (rs := [4]) (by kernel_rfl) (by simp) ?_
                  refine AllReadyH.cons rfl (fun K hK => ?_) AllReadyH.nil
                  go_simp
                  refine hK.out _ _ HSa.out (fun _ => ?_)
                  clear hK K
                  refine wpAnyH_ready (rs := [7]) (by kernel_rfl) (by simp) ?_
                  refine AllReadyH.cons rfl (fun K hK => ?_) AllReadyH.nil
                  refine (if_pos (by kernel_rfl)).mpr ?_
                  refine wp_append_run happ _ _ rfl rfl rfl ?_
                  simp only [Act.put, List.setIfInBounds_toArray, List.set_cons_zero, List.set_cons_succ, List.getElem_toArray, List.getElem_cons_succ, List.getElem_cons_zero]
                  refine hK.out _ _ HSb.out (fun _ => ?_)
                  clear hK K happ
                  refine wpAnyH_take (i := 8) (oi := ⟨some 122, _, _, _, _, _⟩) (v := .pointer (some ⟨NP, 0, none⟩)) rfl (by kernel_rfl) (by kernel_rfl) (by kernel_rfl) (fun _ _ _ h => h) (Or.inl ⟨by rfl, fun W hS => by (obtain ⟨s0, s1, s2, s3⟩ := hS; go_simp)⟩) HSb.out ?_
                  simp only [Act.put, List.setIfInBounds_toArray, List.set_cons_zero, List.set_cons_succ]
                  refine wpAnyH_take (i := 9) (oi := ⟨some 123, _, _, _, _, _⟩) (v := .pointer (some ⟨NP, 1, none⟩)) rfl (by kernel_rfl) (by kernel_rfl) (by kernel_rfl) (fun _ _ _ h => h) (Or.inl ⟨by rfl, fun W hS => by (obtain ⟨s0, s1, s2, s3⟩ := hS; go_simp)⟩) HSb.out ?_
                  simp only [Act.put, List.setIfInBounds_toArray, List.set_cons_zero, List.set_cons_succ]
                  refine wpAnyH_ready (rs := [10]) (by kernel_rfl) (by simp) ?_
                  refine AllReadyH.cons rfl (fun K hK => ?_) AllReadyH.nil
                  go_simp
                  refine hK.out _ _ HSc.out (fun _ => ?_)
                  clear hK K
                  refine wpAnyH_done (by kernel_rfl) ?_ _
                  clear c0 c0a fz c2
                  go_wp2_with fail
                  have HYS := hide (newTo_yes m nd k HBK.out)
                  exact ⟨⟨k + 1, na', nc', by omega, by go_num, by rw [HYS.out, HND6.out, HRE.out]; exact HLN⟩, by simp [intOf]; omega⟩
              · obtain ⟨u, rfl⟩ := Int.eq_ofNat_of_zero_le (HAH.out.2 rfl).1.1
                obtain ⟨v, rfl⟩ := Int.eq_ofNat_of_zero_le (HAH.out.2 rfl).2.1
                have hul : u < m.ms.length := by have h5 : (u : Int) < k := (HAH.out.2 rfl).1.2; omega
                have hvl : v < m.ms.length := by have h5 : (v : Int) < k := (HAH.out.2 rfl).2.2; omega
                have hui : (u : Int) < (m.ms.length : Int) := by omega
                have hvi : (v : Int) < (m.ms.length : Int) := by omega
                have cn := ints_cellN HNUr.out (show u < _ by rw [numL_len]; exact hul)
                rw [numL_at _ _ _ hul] at cn
                have cm := ints_cellN HNUr.out (show v < _ by rw [numL_len]; exact hvl)
                rw [numL_at _ _ _ hvl] at cm
                have cna := fun o => cell_alloc cn o
                have cma := fun o => cell_alloc cm o
                have HRE : Hid (reN nd m.st ⟨5, (u : Int), (v : Int), xn⟩ = ⟨5, (cntTo nd u : Nat), (cntTo nd v : Nat), xn⟩) := hide (by simp [reN, numP])
                go_wp2_with fail
                go_region
                all_goals go_wp2_with fail
                have HLW : Hid (Lyg w3 NP OB given (newTo m nd k) (List.replicate os.length 0) (wr.alloc (.cells #[.int .i64 5, .int .i64 (cntTo nd u : Nat), .int .i64 (cntTo nd v : Nat), .int .i64 xn] 26)).drew.drew na5 nc5) := hide (hc.out.more (by first | exact (below_alloc _ _).drew | exact (below_alloc _ _).drew.drew))
                have HXW : Hid ((wr.alloc (.cells #[.int .i64 5, .int .i64 (cntTo nd u : Nat), .int .i64 (cntTo nd v : Nat), .int .i64 xn] 26)).drew.drew.heap[wr.heap.size]? = some (.cells #[.int .i64 5, .int .i64 (cntTo nd u : Nat), .int .i64 (cntTo nd v : Nat), .int .i64 xn] 26 (0, 0))) := hide (blk_new wr (.cells #[.int .i64 5, .int .i64 (cntTo nd u : Nat), .int .i64 (cntTo nd v : Nat), .int .i64 xn] 26))
                have HXl : Hid (wr.heap.size < (wr.alloc (.cells #[.int .i64 5, .int .i64 (cntTo nd u : Nat), .int .i64 (cntTo nd v : Nat), .int .i64 xn] 26)).drew.drew.heap.size) := hide (blk_lt HXW.out)
                have HS : Hid (∀ W : World, W.heap[wr.heap.size]? = some (.cells #[.int .i64 5, .int .i64 (cntTo nd u : Nat), .int .i64 (cntTo nd v : Nat), .int .i64 xn] 26 (0, 0)) → (fun W : World => W.cell? ⟨wr.heap.size, 0, none⟩ = some (.int .i64 5) ∧ W.cell? ⟨wr.heap.size, 1, none⟩ = some (.int .i64 (cntTo nd u : Nat)) ∧ W.cell? ⟨wr.heap.size, 2, none⟩ = some (.int .i64 (cntTo nd v : Nat)) ∧ W.cell? ⟨wr.heap.size, 3, none⟩ = some (.int .i64 xn)) W) := hide fun W h0 => by
                  refine ⟨?_, ?_, ?_, ?_⟩ <;> (rw [blk_cell h0]; rfl)
                have HS1 := hide (HS.out _ HXW.out)
                have HGX : Hid (blkOf na5 ≠ some wr.heap.size) := hide fun e => by have := hc.out.ne.2.2 _ e; omega
                refine wp_region_held_drew (S := (fun W : World => W.cell? ⟨wr.heap.size, 0, none⟩ = some (.int .i64 5) ∧ W.cell? ⟨wr.heap.size, 1, none⟩ = some (.int .i64 (cntTo nd u : Nat)) ∧ W.cell? ⟨wr.heap.size, 2, none⟩ = some (.int .i64 (cntTo nd v : Nat)) ∧ W.cell? ⟨wr.heap.size, 3, none⟩ = some (.int .i64 xn))) (by kernel_rfl) HS1.out (fun _ => ?_)
                generalize (wr.alloc (.cells #[.int .i64 5, .int .i64 (cntTo nd u : Nat), .int .i64 (cntTo nd v : Nat), .int .i64 xn] 26)).drew.drew = w6 at *
                obtain ⟨na', nc', w7, happ, hNP, hly, hX⟩ := HLW.out.push (⟨5, (cntTo nd u : Nat), (cntTo nd v : Nat), xn⟩ : Nd) (by rw [newTo_len]; have := cntTo_le nd k; omega)
                simp only at happ
                have HLN := hide hly
                have HX7 := hide (hX wr.heap.size HXl.out ⟨_, HXW.out⟩ HGX.out)
                have HXb := hide (HX7.out.1.trans HXW.out)
                have HXc := hide (HX7.out.2.trans HXW.out)
                have HXa := hide (Below.blk (below_alloc w6 (.cells #[.int .i64 5, .int .i64 (cntTo nd u : Nat), .int .i64 (cntTo nd v : Nat), .int .i64 xn] 26)) HXW.out)
                have HSa := hide (HS.out _ HXa.out)
                have HSb := hide (HS.out _ HXb.out)
                have HSc := hide (HS.out _ HXc.out)
                have c0 : w6.cell? ⟨NP, 1, none⟩ = some (.slice na5 (newTo m nd k).length nc5) := by rw [blk_cell HLW.out.me]; rfl
                have c0a := cell_alloc c0 (.cells #[.int .i64 5, .int .i64 (cntTo nd u : Nat), .int .i64 (cntTo nd v : Nat), .int .i64 xn] 26)
                have fz := blk_frozen hNP 1
                have c2 : w7.cell? ⟨NP, 1, none⟩ = some (.slice na5 (newTo m nd k).length nc5) := by rw [blk_cell hNP]; rfl
                clear hly hX hNP
                refine wpAnyH_take (i := 0) (oi := ⟨some 114, _, _, _, _, _⟩) (v := .pointer (some ⟨NP, 0, none⟩)) rfl (by kernel_rfl) (by kernel_rfl) (by kernel_rfl) (fun _ _ _ h => h) (Or.inl ⟨by rfl, fun W hS => by (obtain ⟨s0, s1, s2, s3⟩ := hS; go_simp)⟩) HS1.out ?_
                simp only [Act.put, List.setIfInBounds_toArray, List.set_cons_zero, List.set_cons_succ]
                refine wpAnyH_take (i := 1) (oi := ⟨some 115, _, _, _, _, _⟩) (v := .pointer (some ⟨NP, 0, none⟩)) rfl (by kernel_rfl) (by kernel_rfl) (by kernel_rfl) (fun _ _ _ h => h) (Or.inl ⟨by rfl, fun W hS => by (obtain ⟨s0, s1, s2, s3⟩ := hS; go_simp)⟩) HS1.out ?_
                simp only [Act.put, List.setIfInBounds_toArray, List.set_cons_zero, List.set_cons_succ]
                refine wpAnyH_take (i := 2) (oi := ⟨some 116, _, _, _, _, _⟩) (v := .pointer (some ⟨NP, 0, none⟩)) rfl (by kernel_rfl) (by kernel_rfl) (by kernel_rfl) (fun _ _ _ h => h) (Or.inl ⟨by rfl, fun W hS => by (obtain ⟨s0, s1, s2, s3⟩ := hS; go_simp)⟩) HS1.out ?_
                simp only [Act.put, List.setIfInBounds_toArray, List.set_cons_zero, List.set_cons_succ]
                refine wpAnyH_take (i := 3) (oi := ⟨some 117, _, _, _, _, _⟩) (v := .pointer (some ⟨NP, 1, none⟩)) rfl (by kernel_rfl) (by kernel_rfl) (by kernel_rfl) (fun _ _ _ h => h) (Or.inl ⟨by rfl, fun W hS => by (obtain ⟨s0, s1, s2, s3⟩ := hS; go_simp)⟩) HS1.out ?_
                simp only [Act.put, List.setIfInBounds_toArray, List.set_cons_zero, List.set_cons_succ]
                refine wpAnyH_take (i := 5) (oi := ⟨some 119, _, _, _, _, _⟩) (v := .agg #[.int .i64 5, .int .i64 (cntTo nd u : Nat), .int .i64 (cntTo nd v : Nat), .int .i64 xn]) rfl (by kernel_rfl) (by kernel_rfl) (by kernel_rfl) (fun _ _ _ h => h) (Or.inl ⟨by rfl, fun W hS => by (obtain ⟨s0, s1, s2, s3⟩ := hS; go_simp)⟩) HS1.out ?_
                simp only [Act.put, List.setIfInBounds_toArray, List.set_cons_zero, List.set_cons_succ]
                refine wpAnyH_ready (rs := [4, 6]) (by kernel_rfl) (by simp) ?_
                refine AllReadyH.cons rfl (fun K hK => ?_) (AllReadyH.cons rfl (fun K hK => ?_) AllReadyH.nil)
                · go_simp
                  refine hK.out _ _ HS1.out (fun _ => ?_)
                  clear hK K
                  refine wpAnyH_ready (rs := [6]) (by kernel_rfl) (by simp) ?_
                  refine AllReadyH.cons rfl (fun K hK => ?_) AllReadyH.nil
                  go_simp
                  refine hK.out _ _ HSa.out (fun _ => ?_)
                  clear hK K
                  refine wpAnyH_ready (rs := [7]) (by kernel_rfl) (by simp) ?_
                  refine AllReadyH.cons rfl (fun K hK => ?_) AllReadyH.nil
                  refine (if_pos (by kernel_rfl)).mpr ?_
                  refine wp_append_run happ _ _ rfl rfl rfl ?_
                  simp only [Act.put, List.setIfInBounds_toArray, List.set_cons_zero, List.set_cons_succ, List.getElem_toArray, List.getElem_cons_succ, List.getElem_cons_zero]
                  refine hK.out _ _ HSb.out (fun _ => ?_)
                  clear hK K happ
                  refine wpAnyH_take (i := 8) (oi := ⟨some 122, _, _, _, _, _⟩) (v := .pointer (some ⟨NP, 0, none⟩)) rfl (by kernel_rfl) (by kernel_rfl) (by kernel_rfl) (fun _ _ _ h => h) (Or.inl ⟨by rfl, fun W hS => by (obtain ⟨s0, s1, s2, s3⟩ := hS; go_simp)⟩) HSb.out ?_
                  simp only [Act.put, List.setIfInBounds_toArray, List.set_cons_zero, List.set_cons_succ]
                  refine wpAnyH_take (i := 9) (oi := ⟨some 123, _, _, _, _, _⟩) (v := .pointer (some ⟨NP, 1, none⟩)) rfl (by kernel_rfl) (by kernel_rfl) (by kernel_rfl) (fun _ _ _ h => h) (Or.inl ⟨by rfl, fun W hS => by (obtain ⟨s0, s1, s2, s3⟩ := hS; go_simp)⟩) HSb.out ?_
                  simp only [Act.put, List.setIfInBounds_toArray, List.set_cons_zero, List.set_cons_succ]
                  refine wpAnyH_ready (rs := [10]) (by kernel_rfl) (by simp) ?_
                  refine AllReadyH.cons rfl (fun K hK => ?_) AllReadyH.nil
                  go_simp
                  refine hK.out _ _ HSc.out (fun _ => ?_)
                  clear hK K
                  refine wpAnyH_done (by kernel_rfl) ?_ _
                  clear c0 c0a fz c2
                  go_wp2_with fail
                  have HYS := hide (newTo_yes m nd k HBK.out)
                  exact ⟨⟨k + 1, na', nc', by omega, by go_num, by rw [HYS.out, HND6.out, HRE.out]; exact HLN⟩, by simp [intOf]; omega⟩
                · go_simp
                  refine hK.out _ _ HSa.out (fun _ => ?_)
                  clear hK K
                  refine wpAnyH_ready (rs := [4]) (by kernel_rfl) (by simp) ?_
                  refine AllReadyH.cons rfl (fun K hK => ?_) AllReadyH.nil
                  go_simp
                  refine hK.out _ _ HSa.out (fun _ => ?_)
                  clear hK K
                  refine wpAnyH_ready (rs := [7]) (by kernel_rfl) (by simp) ?_
                  refine AllReadyH.cons rfl (fun K hK => ?_) AllReadyH.nil
                  refine (if_pos (by kernel_rfl)).mpr ?_
                  refine wp_append_run happ _ _ rfl rfl rfl ?_
                  simp only [Act.put, List.setIfInBounds_toArray, List.set_cons_zero, List.set_cons_succ, List.getElem_toArray, List.getElem_cons_succ, List.getElem_cons_zero]
                  refine hK.out _ _ HSb.out (fun _ => ?_)
                  clear hK K happ
                  refine wpAnyH_take (i := 8) (oi := ⟨some 122, _, _, _, _, _⟩) (v := .pointer (some ⟨NP, 0, none⟩)) rfl (by kernel_rfl) (by kernel_rfl) (by kernel_rfl) (fun _ _ _ h => h) (Or.inl ⟨by rfl, fun W hS => by (obtain ⟨s0, s1, s2, s3⟩ := hS; go_simp)⟩) HSb.out ?_
                  simp only [Act.put, List.setIfInBounds_toArray, List.set_cons_zero, List.set_cons_succ]
                  refine wpAnyH_take (i := 9) (oi := ⟨some 123, _, _, _, _, _⟩) (v := .pointer (some ⟨NP, 1, none⟩)) rfl (by kernel_rfl) (by kernel_rfl) (by kernel_rfl) (fun _ _ _ h => h) (Or.inl ⟨by rfl, fun W hS => by (obtain ⟨s0, s1, s2, s3⟩ := hS; go_simp)⟩) HSb.out ?_
                  simp only [Act.put, List.setIfInBounds_toArray, List.set_cons_zero, List.set_cons_succ]
                  refine wpAnyH_ready (rs := [10]) (by kernel_rfl) (by simp) ?_
                  refine AllReadyH.cons rfl (fun K hK => ?_) AllReadyH.nil
                  go_simp
                  refine hK.out _ _ HSc.out (fun _ => ?_)
                  clear hK K
                  refine wpAnyH_done (by kernel_rfl) ?_ _
                  clear c0 c0a fz c2
                  go_wp2_with fail
                  have HYS := hide (newTo_yes m nd k HBK.out)
                  exact ⟨⟨k + 1, na', nc', by omega, by go_num, by rw [HYS.out, HND6.out, HRE.out]; exact HLN⟩, by simp [intOf]; omega⟩
              · obtain ⟨u, rfl⟩ := Int.eq_ofNat_of_zero_le (HAH.out.2 rfl).1.1
                obtain ⟨v, rfl⟩ := Int.eq_ofNat_of_zero_le (HAH.out.2 rfl).2.1
                have hul : u < m.ms.length := by have h5 : (u : Int) < k := (HAH.out.2 rfl).1.2; omega
                have hvl : v < m.ms.length := by have h5 : (v : Int) < k := (HAH.out.2 rfl).2.2; omega
                have hui : (u : Int) < (m.ms.length : Int) := by omega
                have hvi : (v : Int) < (m.ms.length : Int) := by omega
                have cn := ints_cellN HNUr.out (show u < _ by rw [numL_len]; exact hul)
                rw [numL_at _ _ _ hul] at cn
                have cm := ints_cellN HNUr.out (show v < _ by rw [numL_len]; exact hvl)
                rw [numL_at _ _ _ hvl] at cm
                have cna := fun o => cell_alloc cn o
                have cma := fun o => cell_alloc cm o
                have HRE : Hid (reN nd m.st ⟨6, (u : Int), (v : Int), xn⟩ = ⟨6, (cntTo nd u : Nat), (cntTo nd v : Nat), xn⟩) := hide (by simp [reN, numP])
                go_wp2_with fail
                go_region
                all_goals go_wp2_with fail
                have HLW : Hid (Lyg w3 NP OB given (newTo m nd k) (List.replicate os.length 0) (wr.alloc (.cells #[.int .i64 6, .int .i64 (cntTo nd u : Nat), .int .i64 (cntTo nd v : Nat), .int .i64 xn] 26)).drew.drew na5 nc5) := hide (hc.out.more (by first | exact (below_alloc _ _).drew | exact (below_alloc _ _).drew.drew))
                have HXW : Hid ((wr.alloc (.cells #[.int .i64 6, .int .i64 (cntTo nd u : Nat), .int .i64 (cntTo nd v : Nat), .int .i64 xn] 26)).drew.drew.heap[wr.heap.size]? = some (.cells #[.int .i64 6, .int .i64 (cntTo nd u : Nat), .int .i64 (cntTo nd v : Nat), .int .i64 xn] 26 (0, 0))) := hide (blk_new wr (.cells #[.int .i64 6, .int .i64 (cntTo nd u : Nat), .int .i64 (cntTo nd v : Nat), .int .i64 xn] 26))
                have HXl : Hid (wr.heap.size < (wr.alloc (.cells #[.int .i64 6, .int .i64 (cntTo nd u : Nat), .int .i64 (cntTo nd v : Nat), .int .i64 xn] 26)).drew.drew.heap.size) := hide (blk_lt HXW.out)
                have HS : Hid (∀ W : World, W.heap[wr.heap.size]? = some (.cells #[.int .i64 6, .int .i64 (cntTo nd u : Nat), .int .i64 (cntTo nd v : Nat), .int .i64 xn] 26 (0, 0)) → (fun W : World => W.cell? ⟨wr.heap.size, 0, none⟩ = some (.int .i64 6) ∧ W.cell? ⟨wr.heap.size, 1, none⟩ = some (.int .i64 (cntTo nd u : Nat)) ∧ W.cell? ⟨wr.heap.size, 2, none⟩ = some (.int .i64 (cntTo nd v : Nat)) ∧ W.cell? ⟨wr.heap.size, 3, none⟩ = some (.int .i64 xn)) W) := hide fun W h0 => by
                  refine ⟨?_, ?_, ?_, ?_⟩ <;> (rw [blk_cell h0]; rfl)
                have HS1 := hide (HS.out _ HXW.out)
                have HGX : Hid (blkOf na5 ≠ some wr.heap.size) := hide fun e => by have := hc.out.ne.2.2 _ e; omega
                refine wp_region_held_drew (S := (fun W : World => W.cell? ⟨wr.heap.size, 0, none⟩ = some (.int .i64 6) ∧ W.cell? ⟨wr.heap.size, 1, none⟩ = some (.int .i64 (cntTo nd u : Nat)) ∧ W.cell? ⟨wr.heap.size, 2, none⟩ = some (.int .i64 (cntTo nd v : Nat)) ∧ W.cell? ⟨wr.heap.size, 3, none⟩ = some (.int .i64 xn))) (by kernel_rfl) HS1.out (fun _ => ?_)
                generalize (wr.alloc (.cells #[.int .i64 6, .int .i64 (cntTo nd u : Nat), .int .i64 (cntTo nd v : Nat), .int .i64 xn] 26)).drew.drew = w6 at *
                obtain ⟨na', nc', w7, happ, hNP, hly, hX⟩ := HLW.out.push (⟨6, (cntTo nd u : Nat), (cntTo nd v : Nat), xn⟩ : Nd) (by rw [newTo_len]; have := cntTo_le nd k; omega)
                simp only at happ
                have HLN := hide hly
                have HX7 := hide (hX wr.heap.size HXl.out ⟨_, HXW.out⟩ HGX.out)
                have HXb := hide (HX7.out.1.trans HXW.out)
                have HXc := hide (HX7.out.2.trans HXW.out)
                have HXa := hide (Below.blk (below_alloc w6 (.cells #[.int .i64 6, .int .i64 (cntTo nd u : Nat), .int .i64 (cntTo nd v : Nat), .int .i64 xn] 26)) HXW.out)
                have HSa := hide (HS.out _ HXa.out)
                have HSb := hide (HS.out _ HXb.out)
                have HSc := hide (HS.out _ HXc.out)
                have c0 : w6.cell? ⟨NP, 1, none⟩ = some (.slice na5 (newTo m nd k).length nc5) := by rw [blk_cell HLW.out.me]; rfl
                have c0a := cell_alloc c0 (.cells #[.int .i64 6, .int .i64 (cntTo nd u : Nat), .int .i64 (cntTo nd v : Nat), .int .i64 xn] 26)
                have fz := blk_frozen hNP 1
                have c2 : w7.cell? ⟨NP, 1, none⟩ = some (.slice na5 (newTo m nd k).length nc5) := by rw [blk_cell hNP]; rfl
                clear hly hX hNP
                refine wpAnyH_take (i := 0) (oi := ⟨some 114, _, _, _, _, _⟩) (v := .pointer (some ⟨NP, 0, none⟩)) rfl (by kernel_rfl) (by kernel_rfl) (by kernel_rfl) (fun _ _ _ h => h) (Or.inl ⟨by rfl, fun W hS => by (obtain ⟨s0, s1, s2, s3⟩ := hS; go_simp)⟩) HS1.out ?_
                simp only [Act.put, List.setIfInBounds_toArray, List.set_cons_zero, List.set_cons_succ]
                refine wpAnyH_take (i := 1) (oi := ⟨some 115, _, _, _, _, _⟩) (v := .pointer (some ⟨NP, 0, none⟩)) rfl (by kernel_rfl) (by kernel_rfl) (by kernel_rfl) (fun _ _ _ h => h) (Or.inl ⟨by rfl, fun W hS => by (obtain ⟨s0, s1, s2, s3⟩ := hS; go_simp)⟩) HS1.out ?_
                simp only [Act.put, List.setIfInBounds_toArray, List.set_cons_zero, List.set_cons_succ]
                refine wpAnyH_take (i := 2) (oi := ⟨some 116, _, _, _, _, _⟩) (v := .pointer (some ⟨NP, 0, none⟩)) rfl (by kernel_rfl) (by kernel_rfl) (by kernel_rfl) (fun _ _ _ h => h) (Or.inl ⟨by rfl, fun W hS => by (obtain ⟨s0, s1, s2, s3⟩ := hS; go_simp)⟩) HS1.out ?_
                simp only [Act.put, List.setIfInBounds_toArray, List.set_cons_zero, List.set_cons_succ]
                refine wpAnyH_take (i := 3) (oi := ⟨some 117, _, _, _, _, _⟩) (v := .pointer (some ⟨NP, 1, none⟩)) rfl (by kernel_rfl) (by kernel_rfl) (by kernel_rfl) (fun _ _ _ h => h) (Or.inl ⟨by rfl, fun W hS => by (obtain ⟨s0, s1, s2, s3⟩ := hS; go_simp)⟩) HS1.out ?_
                simp only [Act.put, List.setIfInBounds_toArray, List.set_cons_zero, List.set_cons_succ]
                refine wpAnyH_take (i := 5) (oi := ⟨some 119, _, _, _, _, _⟩) (v := .agg #[.int .i64 6, .int .i64 (cntTo nd u : Nat), .int .i64 (cntTo nd v : Nat), .int .i64 xn]) rfl (by kernel_rfl) (by kernel_rfl) (by kernel_rfl) (fun _ _ _ h => h) (Or.inl ⟨by rfl, fun W hS => by (obtain ⟨s0, s1, s2, s3⟩ := hS; go_simp)⟩) HS1.out ?_
                simp only [Act.put, List.setIfInBounds_toArray, List.set_cons_zero, List.set_cons_succ]
                refine wpAnyH_ready (rs := [4, 6]) (by kernel_rfl) (by simp) ?_
                refine AllReadyH.cons rfl (fun K hK => ?_) (AllReadyH.cons rfl (fun K hK => ?_) AllReadyH.nil)
                · go_simp
                  refine hK.out _ _ HS1.out (fun _ => ?_)
                  clear hK K
                  refine wpAnyH_ready (rs := [6]) (by kernel_rfl) (by simp) ?_
                  refine AllReadyH.cons rfl (fun K hK => ?_) AllReadyH.nil
                  go_simp
                  refine hK.out _ _ HSa.out (fun _ => ?_)
                  clear hK K
                  refine wpAnyH_ready (rs := [7]) (by kernel_rfl) (by simp) ?_
                  refine AllReadyH.cons rfl (fun K hK => ?_) AllReadyH.nil
                  refine (if_pos (by kernel_rfl)).mpr ?_
                  refine wp_append_run happ _ _ rfl rfl rfl ?_
                  simp only [Act.put, List.setIfInBounds_toArray, List.set_cons_zero, List.set_cons_succ, List.getElem_toArray, List.getElem_cons_succ, List.getElem_cons_zero]
                  refine hK.out _ _ HSb.out (fun _ => ?_)
                  clear hK K happ
                  refine wpAnyH_take (i := 8) (oi := ⟨some 122, _, _, _, _, _⟩) (v := .pointer (some ⟨NP, 0, none⟩)) rfl (by kernel_rfl) (by kernel_rfl) (by kernel_rfl) (fun _ _ _ h => h) (Or.inl ⟨by rfl, fun W hS => by (obtain ⟨s0, s1, s2, s3⟩ := hS; go_simp)⟩) HSb.out ?_
                  simp only [Act.put, List.setIfInBounds_toArray, List.set_cons_zero, List.set_cons_succ]
                  refine wpAnyH_take (i := 9) (oi := ⟨some 123, _, _, _, _, _⟩) (v := .pointer (some ⟨NP, 1, none⟩)) rfl (by kernel_rfl) (by kernel_rfl) (by kernel_rfl) (fun _ _ _ h => h) (Or.inl ⟨by rfl, fun W hS => by (obtain ⟨s0, s1, s2, s3⟩ := hS; go_simp)⟩) HSb.out ?_
                  simp only [Act.put, List.setIfInBounds_toArray, List.set_cons_zero, List.set_cons_succ]
                  refine wpAnyH_ready (rs := [10]) (by kernel_rfl) (by simp) ?_
                  refine AllReadyH.cons rfl (fun K hK => ?_) AllReadyH.nil
                  go_simp
                  refine hK.out _ _ HSc.out (fun _ => ?_)
                  clear hK K
                  refine wpAnyH_done (by kernel_rfl) ?_ _
                  clear c0 c0a fz c2
                  go_wp2_with fail
                  have HYS := hide (newTo_yes m nd k HBK.out)
                  exact ⟨⟨k + 1, na', nc', by omega, by go_num, by rw [HYS.out, HND6.out, HRE.out]; exact HLN⟩, by simp [intOf]; omega⟩
                · go_simp
                  refine hK.out _ _ HSa.out (fun _ => ?_)
                  clear hK K
                  refine wpAnyH_ready (rs := [4]) (by kernel_rfl) (by simp) ?_
                  refine AllReadyH.cons rfl (fun K hK => ?_) AllReadyH.nil
                  go_simp
                  refine hK.out _ _ HSa.out (fun _ => ?_)
                  clear hK K
                  refine wpAnyH_ready (rs := [7]) (by kernel_rfl) (by simp) ?_
                  refine AllReadyH.cons rfl (fun K hK => ?_) AllReadyH.nil
                  refine (if_pos (by kernel_rfl)).mpr ?_
                  refine wp_append_run happ _ _ rfl rfl rfl ?_
                  simp only [Act.put, List.setIfInBounds_toArray, List.set_cons_zero, List.set_cons_succ, List.getElem_toArray, List.getElem_cons_succ, List.getElem_cons_zero]
                  refine hK.out _ _ HSb.out (fun _ => ?_)
                  clear hK K happ
                  refine wpAnyH_take (i := 8) (oi := ⟨some 122, _, _, _, _, _⟩) (v := .pointer (some ⟨NP, 0, none⟩)) rfl (by kernel_rfl) (by kernel_rfl) (by kernel_rfl) (fun _ _ _ h => h) (Or.inl ⟨by rfl, fun W hS => by (obtain ⟨s0, s1, s2, s3⟩ := hS; go_simp)⟩) HSb.out ?_
                  simp only [Act.put, List.setIfInBounds_toArray, List.set_cons_zero, List.set_cons_succ]
                  refine wpAnyH_take (i := 9) (oi := ⟨some 123, _, _, _, _, _⟩) (v := .pointer (some ⟨NP, 1, none⟩)) rfl (by kernel_rfl) (by kernel_rfl) (by kernel_rfl) (fun _ _ _ h => h) (Or.inl ⟨by rfl, fun W hS => by (obtain ⟨s0, s1, s2, s3⟩ := hS; go_simp)⟩) HSb.out ?_
                  simp only [Act.put, List.setIfInBounds_toArray, List.set_cons_zero, List.set_cons_succ]
                  refine wpAnyH_ready (rs := [10]) (by kernel_rfl) (by simp) ?_
                  refine AllReadyH.cons rfl (fun K hK => ?_) AllReadyH.nil
                  go_simp
                  refine hK.out _ _ HSc.out (fun _ => ?_)
                  clear hK K
                  refine wpAnyH_done (by kernel_rfl) ?_ _
                  clear c0 c0a fz c2
                  go_wp2_with fail
                  have HYS := hide (newTo_yes m nd k HBK.out)
                  exact ⟨⟨k + 1, na', nc', by omega, by go_num, by rw [HYS.out, HND6.out, HRE.out]; exact HLN⟩, by simp [intOf]; omega⟩
              · obtain ⟨u, rfl⟩ := Int.eq_ofNat_of_zero_le (HAH.out.2 rfl).1.1
                obtain ⟨v, rfl⟩ := Int.eq_ofNat_of_zero_le (HAH.out.2 rfl).2.1
                have hul : u < m.ms.length := by have h5 : (u : Int) < k := (HAH.out.2 rfl).1.2; omega
                have hvl : v < m.ms.length := by have h5 : (v : Int) < k := (HAH.out.2 rfl).2.2; omega
                have hui : (u : Int) < (m.ms.length : Int) := by omega
                have hvi : (v : Int) < (m.ms.length : Int) := by omega
                have cn := ints_cellN HNUr.out (show u < _ by rw [numL_len]; exact hul)
                rw [numL_at _ _ _ hul] at cn
                have cm := ints_cellN HNUr.out (show v < _ by rw [numL_len]; exact hvl)
                rw [numL_at _ _ _ hvl] at cm
                have cna := fun o => cell_alloc cn o
                have cma := fun o => cell_alloc cm o
                have HRE : Hid (reN nd m.st ⟨7, (u : Int), (v : Int), xn⟩ = ⟨7, (cntTo nd u : Nat), (cntTo nd v : Nat), xn⟩) := hide (by simp [reN, numP])
                go_wp2_with fail
                go_region
                all_goals go_wp2_with fail
                have HLW : Hid (Lyg w3 NP OB given (newTo m nd k) (List.replicate os.length 0) (wr.alloc (.cells #[.int .i64 7, .int .i64 (cntTo nd u : Nat), .int .i64 (cntTo nd v : Nat), .int .i64 xn] 26)).drew.drew na5 nc5) := hide (hc.out.more (by first | exact (below_alloc _ _).drew | exact (below_alloc _ _).drew.drew))
                have HXW : Hid ((wr.alloc (.cells #[.int .i64 7, .int .i64 (cntTo nd u : Nat), .int .i64 (cntTo nd v : Nat), .int .i64 xn] 26)).drew.drew.heap[wr.heap.size]? = some (.cells #[.int .i64 7, .int .i64 (cntTo nd u : Nat), .int .i64 (cntTo nd v : Nat), .int .i64 xn] 26 (0, 0))) := hide (blk_new wr (.cells #[.int .i64 7, .int .i64 (cntTo nd u : Nat), .int .i64 (cntTo nd v : Nat), .int .i64 xn] 26))
                have HXl : Hid (wr.heap.size < (wr.alloc (.cells #[.int .i64 7, .int .i64 (cntTo nd u : Nat), .int .i64 (cntTo nd v : Nat), .int .i64 xn] 26)).drew.drew.heap.size) := hide (blk_lt HXW.out)
                have HS : Hid (∀ W : World, W.heap[wr.heap.size]? = some (.cells #[.int .i64 7, .int .i64 (cntTo nd u : Nat), .int .i64 (cntTo nd v : Nat), .int .i64 xn] 26 (0, 0)) → (fun W : World => W.cell? ⟨wr.heap.size, 0, none⟩ = some (.int .i64 7) ∧ W.cell? ⟨wr.heap.size, 1, none⟩ = some (.int .i64 (cntTo nd u : Nat)) ∧ W.cell? ⟨wr.heap.size, 2, none⟩ = some (.int .i64 (cntTo nd v : Nat)) ∧ W.cell? ⟨wr.heap.size, 3, none⟩ = some (.int .i64 xn)) W) := hide fun W h0 => by
                  refine ⟨?_, ?_, ?_, ?_⟩ <;> (rw [blk_cell h0]; rfl)
                have HS1 := hide (HS.out _ HXW.out)
                have HGX : Hid (blkOf na5 ≠ some wr.heap.size) := hide fun e => by have := hc.out.ne.2.2 _ e; omega
                refine wp_region_held_drew (S := (fun W : World => W.cell? ⟨wr.heap.size, 0, none⟩ = some (.int .i64 7) ∧ W.cell? ⟨wr.heap.size, 1, none⟩ = some (.int .i64 (cntTo nd u : Nat)) ∧ W.cell? ⟨wr.heap.size, 2, none⟩ = some (.int .i64 (cntTo nd v : Nat)) ∧ W.cell? ⟨wr.heap.size, 3, none⟩ = some (.int .i64 xn))) (by kernel_rfl) HS1.out (fun _ => ?_)
                generalize (wr.alloc (.cells #[.int .i64 7, .int .i64 (cntTo nd u : Nat), .int .i64 (cntTo nd v : Nat), .int .i64 xn] 26)).drew.drew = w6 at *
                obtain ⟨na', nc', w7, happ, hNP, hly, hX⟩ := HLW.out.push (⟨7, (cntTo nd u : Nat), (cntTo nd v : Nat), xn⟩ : Nd) (by rw [newTo_len]; have := cntTo_le nd k; omega)
                simp only at happ
                have HLN := hide hly
                have HX7 := hide (hX wr.heap.size HXl.out ⟨_, HXW.out⟩ HGX.out)
                have HXb := hide (HX7.out.1.trans HXW.out)
                have HXc := hide (HX7.out.2.trans HXW.out)
                have HXa := hide (Below.blk (below_alloc w6 (.cells #[.int .i64 7, .int .i64 (cntTo nd u : Nat), .int .i64 (cntTo nd v : Nat), .int .i64 xn] 26)) HXW.out)
                have HSa := hide (HS.out _ HXa.out)
                have HSb := hide (HS.out _ HXb.out)
                have HSc := hide (HS.out _ HXc.out)
                have c0 : w6.cell? ⟨NP, 1, none⟩ = some (.slice na5 (newTo m nd k).length nc5) := by rw [blk_cell HLW.out.me]; rfl
                have c0a := cell_alloc c0 (.cells #[.int .i64 7, .int .i64 (cntTo nd u : Nat), .int .i64 (cntTo nd v : Nat), .int .i64 xn] 26)
                have fz := blk_frozen hNP 1
                have c2 : w7.cell? ⟨NP, 1, none⟩ = some (.slice na5 (newTo m nd k).length nc5) := by rw [blk_cell hNP]; rfl
                clear hly hX hNP
                refine wpAnyH_take (i := 0) (oi := ⟨some 114, _, _, _, _, _⟩) (v := .pointer (some ⟨NP, 0, none⟩)) rfl (by kernel_rfl) (by kernel_rfl) (by kernel_rfl) (fun _ _ _ h => h) (Or.inl ⟨by rfl, fun W hS => by (obtain ⟨s0, s1, s2, s3⟩ := hS; go_simp)⟩) HS1.out ?_
                simp only [Act.put, List.setIfInBounds_toArray, List.set_cons_zero, List.set_cons_succ]
                refine wpAnyH_take (i := 1) (oi := ⟨some 115, _, _, _, _, _⟩) (v := .pointer (some ⟨NP, 0, none⟩)) rfl (by kernel_rfl) (by kernel_rfl) (by kernel_rfl) (fun _ _ _ h => h) (Or.inl ⟨by rfl, fun W hS => by (obtain ⟨s0, s1, s2, s3⟩ := hS; go_simp)⟩) HS1.out ?_
                simp only [Act.put, List.setIfInBounds_toArray, List.set_cons_zero, List.set_cons_succ]
                refine wpAnyH_take (i := 2) (oi := ⟨some 116, _, _, _, _, _⟩) (v := .pointer (some ⟨NP, 0, none⟩)) rfl (by kernel_rfl) (by kernel_rfl) (by kernel_rfl) (fun _ _ _ h => h) (Or.inl ⟨by rfl, fun W hS => by (obtain ⟨s0, s1, s2, s3⟩ := hS; go_simp)⟩) HS1.out ?_
                simp only [Act.put, List.setIfInBounds_toArray, List.set_cons_zero, List.set_cons_succ]
                refine wpAnyH_take (i := 3) (oi := ⟨some 117, _, _, _, _, _⟩) (v := .pointer (some ⟨NP, 1, none⟩)) rfl (by kernel_rfl) (by kernel_rfl) (by kernel_rfl) (fun _ _ _ h => h) (Or.inl ⟨by rfl, fun W hS => by (obtain ⟨s0, s1, s2, s3⟩ := hS; go_simp)⟩) HS1.out ?_
                simp only [Act.put, List.setIfInBounds_toArray, List.set_cons_zero, List.set_cons_succ]
                refine wpAnyH_take (i := 5) (oi := ⟨some 119, _, _, _, _, _⟩) (v := .agg #[.int .i64 7, .int .i64 (cntTo nd u : Nat), .int .i64 (cntTo nd v : Nat), .int .i64 xn]) rfl (by kernel_rfl) (by kernel_rfl) (by kernel_rfl) (fun _ _ _ h => h) (Or.inl ⟨by rfl, fun W hS => by (obtain ⟨s0, s1, s2, s3⟩ := hS; go_simp)⟩) HS1.out ?_
                simp only [Act.put, List.setIfInBounds_toArray, List.set_cons_zero, List.set_cons_succ]
                refine wpAnyH_ready (rs := [4, 6]) (by kernel_rfl) (by simp) ?_
                refine AllReadyH.cons rfl (fun K hK => ?_) (AllReadyH.cons rfl (fun K hK => ?_) AllReadyH.nil)
                · go_simp
                  refine hK.out _ _ HS1.out (fun _ => ?_)
                  clear hK K
                  refine wpAnyH_ready (rs := [6]) (by kernel_rfl) (by simp) ?_
                  refine AllReadyH.cons rfl (fun K hK => ?_) AllReadyH.nil
                  go_simp
                  refine hK.out _ _ HSa.out (fun _ => ?_)
                  clear hK K
                  refine wpAnyH_ready (rs := [7]) (by kernel_rfl) (by simp) ?_
                  refine AllReadyH.cons rfl (fun K hK => ?_) AllReadyH.nil
                  refine (if_pos (by kernel_rfl)).mpr ?_
                  refine wp_append_run happ _ _ rfl rfl rfl ?_
                  simp only [Act.put, List.setIfInBounds_toArray, List.set_cons_zero, List.set_cons_succ, List.getElem_toArray, List.getElem_cons_succ, List.getElem_cons_zero]
                  refine hK.out _ _ HSb.out (fun _ => ?_)
                  clear hK K happ
                  refine wpAnyH_take (i := 8) (oi := ⟨some 122, _, _, _, _, _⟩) (v := .pointer (some ⟨NP, 0, none⟩)) rfl (by kernel_rfl) (by kernel_rfl) (by kernel_rfl) (fun _ _ _ h => h) (Or.inl ⟨by rfl, fun W hS => by (obtain ⟨s0, s1, s2, s3⟩ := hS; go_simp)⟩) HSb.out ?_
                  simp only [Act.put, List.setIfInBounds_toArray, List.set_cons_zero, List.set_cons_succ]
                  refine wpAnyH_take (i := 9) (oi := ⟨some 123, _, _, _, _, _⟩) (v := .pointer (some ⟨NP, 1, none⟩)) rfl (by kernel_rfl) (by kernel_rfl) (by kernel_rfl) (fun _ _ _ h => h) (Or.inl ⟨by rfl, fun W hS => by (obtain ⟨s0, s1, s2, s3⟩ := hS; go_simp)⟩) HSb.out ?_
                  simp only [Act.put, List.setIfInBounds_toArray, List.set_cons_zero, List.set_cons_succ]
                  refine wpAnyH_ready (rs := [10]) (by kernel_rfl) (by simp) ?_
                  refine AllReadyH.cons rfl (fun K hK => ?_) AllReadyH.nil
                  go_simp
                  refine hK.out _ _ HSc.out (fun _ => ?_)
                  clear hK K
                  refine wpAnyH_done (by kernel_rfl) ?_ _
                  clear c0 c0a fz c2
                  go_wp2_with fail
                  have HYS := hide (newTo_yes m nd k HBK.out)
                  exact ⟨⟨k + 1, na', nc', by omega, by go_num, by rw [HYS.out, HND6.out, HRE.out]; exact HLN⟩, by simp [intOf]; omega⟩
                · go_simp
                  refine hK.out _ _ HSa.out (fun _ => ?_)
                  clear hK K
                  refine wpAnyH_ready (rs := [4]) (by kernel_rfl) (by simp) ?_
                  refine AllReadyH.cons rfl (fun K hK => ?_) AllReadyH.nil
                  go_simp
                  refine hK.out _ _ HSa.out (fun _ => ?_)
                  clear hK K
                  refine wpAnyH_ready (rs := [7]) (by kernel_rfl) (by simp) ?_
                  refine AllReadyH.cons rfl (fun K hK => ?_) AllReadyH.nil
                  refine (if_pos (by kernel_rfl)).mpr ?_
                  refine wp_append_run happ _ _ rfl rfl rfl ?_
                  simp only [Act.put, List.setIfInBounds_toArray, List.set_cons_zero, List.set_cons_succ, List.getElem_toArray, List.getElem_cons_succ, List.getElem_cons_zero]
                  refine hK.out _ _ HSb.out (fun _ => ?_)
                  clear hK K happ
                  refine wpAnyH_take (i := 8) (oi := ⟨some 122, _, _, _, _, _⟩) (v := .pointer (some ⟨NP, 0, none⟩)) rfl (by kernel_rfl) (by kernel_rfl) (by kernel_rfl) (fun _ _ _ h => h) (Or.inl ⟨by rfl, fun W hS => by (obtain ⟨s0, s1, s2, s3⟩ := hS; go_simp)⟩) HSb.out ?_
                  simp only [Act.put, List.setIfInBounds_toArray, List.set_cons_zero, List.set_cons_succ]
                  refine wpAnyH_take (i := 9) (oi := ⟨some 123, _, _, _, _, _⟩) (v := .pointer (some ⟨NP, 1, none⟩)) rfl (by kernel_rfl) (by kernel_rfl) (by kernel_rfl) (fun _ _ _ h => h) (Or.inl ⟨by rfl, fun W hS => by (obtain ⟨s0, s1, s2, s3⟩ := hS; go_simp)⟩) HSb.out ?_
                  simp only [Act.put, List.setIfInBounds_toArray, List.set_cons_zero, List.set_cons_succ]
                  refine wpAnyH_ready (rs := [10]) (by kernel_rfl) (by simp) ?_
                  refine AllReadyH.cons rfl (fun K hK => ?_) AllReadyH.nil
                  go_simp
                  refine hK.out _ _ HSc.out (fun _ => ?_)
                  clear hK K
                  refine wpAnyH_done (by kernel_rfl) ?_ _
                  clear c0 c0a fz c2
                  go_wp2_with fail
                  have HYS := hide (newTo_yes m nd k HBK.out)
                  exact ⟨⟨k + 1, na', nc', by omega, by go_num, by rw [HYS.out, HND6.out, HRE.out]; exact HLN⟩, by simp [intOf]; omega⟩
              · obtain ⟨u, rfl⟩ := Int.eq_ofNat_of_zero_le (HAH.out.1 rfl).1
                have hul : u < m.ms.length := by have h5 : (u : Int) < k := (HAH.out.1 rfl).2; omega
                have hui : (u : Int) < (m.ms.length : Int) := by omega
                have cn := ints_cellN HNUr.out (show u < _ by rw [numL_len]; exact hul)
                rw [numL_at _ _ _ hul] at cn
                have cna := fun o => cell_alloc cn o
                have HRE : Hid (reN nd m.st ⟨8, (u : Int), xb, xn⟩ = ⟨8, (cntTo nd u : Nat), xb, xn⟩) := hide (by simp [reN, numP])
                go_wp2_with fail
                have HLW : Hid (Lyg w3 NP OB given (newTo m nd k) (List.replicate os.length 0) (wr.alloc (.cells #[.int .i64 8, .int .i64 (cntTo nd u : Nat), .int .i64 xb, .int .i64 xn] 26)).drew na5 nc5) := hide (hc.out.more (by first | exact (below_alloc _ _).drew | exact (below_alloc _ _).drew.drew))
                have HXW : Hid ((wr.alloc (.cells #[.int .i64 8, .int .i64 (cntTo nd u : Nat), .int .i64 xb, .int .i64 xn] 26)).drew.heap[wr.heap.size]? = some (.cells #[.int .i64 8, .int .i64 (cntTo nd u : Nat), .int .i64 xb, .int .i64 xn] 26 (0, 0))) := hide (blk_new wr (.cells #[.int .i64 8, .int .i64 (cntTo nd u : Nat), .int .i64 xb, .int .i64 xn] 26))
                have HXl : Hid (wr.heap.size < (wr.alloc (.cells #[.int .i64 8, .int .i64 (cntTo nd u : Nat), .int .i64 xb, .int .i64 xn] 26)).drew.heap.size) := hide (blk_lt HXW.out)
                have HS : Hid (∀ W : World, W.heap[wr.heap.size]? = some (.cells #[.int .i64 8, .int .i64 (cntTo nd u : Nat), .int .i64 xb, .int .i64 xn] 26 (0, 0)) → (fun W : World => W.cell? ⟨wr.heap.size, 0, none⟩ = some (.int .i64 8) ∧ W.cell? ⟨wr.heap.size, 1, none⟩ = some (.int .i64 (cntTo nd u : Nat)) ∧ W.cell? ⟨wr.heap.size, 2, none⟩ = some (.int .i64 xb) ∧ W.cell? ⟨wr.heap.size, 3, none⟩ = some (.int .i64 xn)) W) := hide fun W h0 => by
                  refine ⟨?_, ?_, ?_, ?_⟩ <;> (rw [blk_cell h0]; rfl)
                have HS1 := hide (HS.out _ HXW.out)
                have HGX : Hid (blkOf na5 ≠ some wr.heap.size) := hide fun e => by have := hc.out.ne.2.2 _ e; omega
                refine wp_region_held_drew (S := (fun W : World => W.cell? ⟨wr.heap.size, 0, none⟩ = some (.int .i64 8) ∧ W.cell? ⟨wr.heap.size, 1, none⟩ = some (.int .i64 (cntTo nd u : Nat)) ∧ W.cell? ⟨wr.heap.size, 2, none⟩ = some (.int .i64 xb) ∧ W.cell? ⟨wr.heap.size, 3, none⟩ = some (.int .i64 xn))) (by kernel_rfl) HS1.out (fun _ => ?_)
                generalize (wr.alloc (.cells #[.int .i64 8, .int .i64 (cntTo nd u : Nat), .int .i64 xb, .int .i64 xn] 26)).drew = w6 at *
                obtain ⟨na', nc', w7, happ, hNP, hly, hX⟩ := HLW.out.push (⟨8, (cntTo nd u : Nat), xb, xn⟩ : Nd) (by rw [newTo_len]; have := cntTo_le nd k; omega)
                simp only at happ
                have HLN := hide hly
                have HX7 := hide (hX wr.heap.size HXl.out ⟨_, HXW.out⟩ HGX.out)
                have HXb := hide (HX7.out.1.trans HXW.out)
                have HXc := hide (HX7.out.2.trans HXW.out)
                have HXa := hide (Below.blk (below_alloc w6 (.cells #[.int .i64 8, .int .i64 (cntTo nd u : Nat), .int .i64 xb, .int .i64 xn] 26)) HXW.out)
                have HSa := hide (HS.out _ HXa.out)
                have HSb := hide (HS.out _ HXb.out)
                have HSc := hide (HS.out _ HXc.out)
                have c0 : w6.cell? ⟨NP, 1, none⟩ = some (.slice na5 (newTo m nd k).length nc5) := by rw [blk_cell HLW.out.me]; rfl
                have c0a := cell_alloc c0 (.cells #[.int .i64 8, .int .i64 (cntTo nd u : Nat), .int .i64 xb, .int .i64 xn] 26)
                have fz := blk_frozen hNP 1
                have c2 : w7.cell? ⟨NP, 1, none⟩ = some (.slice na5 (newTo m nd k).length nc5) := by rw [blk_cell hNP]; rfl
                clear hly hX hNP
                refine wpAnyH_take (i := 0) (oi := ⟨some 114, _, _, _, _, _⟩) (v := .pointer (some ⟨NP, 0, none⟩)) rfl (by kernel_rfl) (by kernel_rfl) (by kernel_rfl) (fun _ _ _ h => h) (Or.inl ⟨by rfl, fun W hS => by (obtain ⟨s0, s1, s2, s3⟩ := hS; go_simp)⟩) HS1.out ?_
                simp only [Act.put, List.setIfInBounds_toArray, List.set_cons_zero, List.set_cons_succ]
                refine wpAnyH_take (i := 1) (oi := ⟨some 115, _, _, _, _, _⟩) (v := .pointer (some ⟨NP, 0, none⟩)) rfl (by kernel_rfl) (by kernel_rfl) (by kernel_rfl) (fun _ _ _ h => h) (Or.inl ⟨by rfl, fun W hS => by (obtain ⟨s0, s1, s2, s3⟩ := hS; go_simp)⟩) HS1.out ?_
                simp only [Act.put, List.setIfInBounds_toArray, List.set_cons_zero, List.set_cons_succ]
                refine wpAnyH_take (i := 2) (oi := ⟨some 116, _, _, _, _, _⟩) (v := .pointer (some ⟨NP, 0, none⟩)) rfl (by kernel_rfl) (by kernel_rfl) (by kernel_rfl) (fun _ _ _ h => h) (Or.inl ⟨by rfl, fun W hS => by (obtain ⟨s0, s1, s2, s3⟩ := hS; go_simp)⟩) HS1.out ?_
                simp only [Act.put, List.setIfInBounds_toArray, List.set_cons_zero, List.set_cons_succ]
                refine wpAnyH_take (i := 3) (oi := ⟨some 117, _, _, _, _, _⟩) (v := .pointer (some ⟨NP, 1, none⟩)) rfl (by kernel_rfl) (by kernel_rfl) (by kernel_rfl) (fun _ _ _ h => h) (Or.inl ⟨by rfl, fun W hS => by (obtain ⟨s0, s1, s2, s3⟩ := hS; go_simp)⟩) HS1.out ?_
                simp only [Act.put, List.setIfInBounds_toArray, List.set_cons_zero, List.set_cons_succ]
                refine wpAnyH_take (i := 5) (oi := ⟨some 119, _, _, _, _, _⟩) (v := .agg #[.int .i64 8, .int .i64 (cntTo nd u : Nat), .int .i64 xb, .int .i64 xn]) rfl (by kernel_rfl) (by kernel_rfl) (by kernel_rfl) (fun _ _ _ h => h) (Or.inl ⟨by rfl, fun W hS => by (obtain ⟨s0, s1, s2, s3⟩ := hS; go_simp)⟩) HS1.out ?_
                simp only [Act.put, List.setIfInBounds_toArray, List.set_cons_zero, List.set_cons_succ]
                refine wpAnyH_ready (rs := [4, 6]) (by kernel_rfl) (by simp) ?_
                refine AllReadyH.cons rfl (fun K hK => ?_) (AllReadyH.cons rfl (fun K hK => ?_) AllReadyH.nil)
                · go_simp
                  refine hK.out _ _ HS1.out (fun _ => ?_)
                  clear hK K
                  refine wpAnyH_ready (rs := [6]) (by kernel_rfl) (by simp) ?_
                  refine AllReadyH.cons rfl (fun K hK => ?_) AllReadyH.nil
                  go_simp
                  refine hK.out _ _ HSa.out (fun _ => ?_)
                  clear hK K
                  refine wpAnyH_ready (rs := [7]) (by kernel_rfl) (by simp) ?_
                  refine AllReadyH.cons rfl (fun K hK => ?_) AllReadyH.nil
                  refine (if_pos (by kernel_rfl)).mpr ?_
                  refine wp_append_run happ _ _ rfl rfl rfl ?_
                  simp only [Act.put, List.setIfInBounds_toArray, List.set_cons_zero, List.set_cons_succ, List.getElem_toArray, List.getElem_cons_succ, List.getElem_cons_zero]
                  refine hK.out _ _ HSb.out (fun _ => ?_)
                  clear hK K happ
                  refine wpAnyH_take (i := 8) (oi := ⟨some 122, _, _, _, _, _⟩) (v := .pointer (some ⟨NP, 0, none⟩)) rfl (by kernel_rfl) (by kernel_rfl) (by kernel_rfl) (fun _ _ _ h => h) (Or.inl ⟨by rfl, fun W hS => by (obtain ⟨s0, s1, s2, s3⟩ := hS; go_simp)⟩) HSb.out ?_
                  simp only [Act.put, List.setIfInBounds_toArray, List.set_cons_zero, List.set_cons_succ]
                  refine wpAnyH_take (i := 9) (oi := ⟨some 123, _, _, _, _, _⟩) (v := .pointer (some ⟨NP, 1, none⟩)) rfl (by kernel_rfl) (by kernel_rfl) (by kernel_rfl) (fun _ _ _ h => h) (Or.inl ⟨by rfl, fun W hS => by (obtain ⟨s0, s1, s2, s3⟩ := hS; go_simp)⟩) HSb.out ?_
                  simp only [Act.put, List.setIfInBounds_toArray, List.set_cons_zero, List.set_cons_succ]
                  refine wpAnyH_ready (rs := [10]) (by kernel_rfl) (by simp) ?_
                  refine AllReadyH.cons rfl (fun K hK => ?_) AllReadyH.nil
                  go_simp
                  refine hK.out _ _ HSc.out (fun _ => ?_)
                  clear hK K
                  refine wpAnyH_done (by kernel_rfl) ?_ _
                  clear c0 c0a fz c2
                  go_wp2_with fail
                  have HYS := hide (newTo_yes m nd k HBK.out)
                  exact ⟨⟨k + 1, na', nc', by omega, by go_num, by rw [HYS.out, HND6.out, HRE.out]; exact HLN⟩, by simp [intOf]; omega⟩
                · go_simp
                  refine hK.out _ _ HSa.out (fun _ => ?_)
                  clear hK K
                  refine wpAnyH_ready (rs := [4]) (by kernel_rfl) (by simp) ?_
                  refine AllReadyH.cons rfl (fun K hK => ?_) AllReadyH.nil
                  go_simp
                  refine hK.out _ _ HSa.out (fun _ => ?_)
                  clear hK K
                  refine wpAnyH_ready (rs := [7]) (by kernel_rfl) (by simp) ?_
                  refine AllReadyH.cons rfl (fun K hK => ?_) AllReadyH.nil
                  refine (if_pos (by kernel_rfl)).mpr ?_
                  refine wp_append_run happ _ _ rfl rfl rfl ?_
                  simp only [Act.put, List.setIfInBounds_toArray, List.set_cons_zero, List.set_cons_succ, List.getElem_toArray, List.getElem_cons_succ, List.getElem_cons_zero]
                  refine hK.out _ _ HSb.out (fun _ => ?_)
                  clear hK K happ
                  refine wpAnyH_take (i := 8) (oi := ⟨some 122, _, _, _, _, _⟩) (v := .pointer (some ⟨NP, 0, none⟩)) rfl (by kernel_rfl) (by kernel_rfl) (by kernel_rfl) (fun _ _ _ h => h) (Or.inl ⟨by rfl, fun W hS => by (obtain ⟨s0, s1, s2, s3⟩ := hS; go_simp)⟩) HSb.out ?_
                  simp only [Act.put, List.setIfInBounds_toArray, List.set_cons_zero, List.set_cons_succ]
                  refine wpAnyH_take (i := 9) (oi := ⟨some 123, _, _, _, _, _⟩) (v := .pointer (some ⟨NP, 1, none⟩)) rfl (by kernel_rfl) (by kernel_rfl) (by kernel_rfl) (fun _ _ _ h => h) (Or.inl ⟨by rfl, fun W hS => by (obtain ⟨s0, s1, s2, s3⟩ := hS; go_simp)⟩) HSb.out ?_
                  simp only [Act.put, List.setIfInBounds_toArray, List.set_cons_zero, List.set_cons_succ]
                  refine wpAnyH_ready (rs := [10]) (by kernel_rfl) (by simp) ?_
                  refine AllReadyH.cons rfl (fun K hK => ?_) AllReadyH.nil
                  go_simp
                  refine hK.out _ _ HSc.out (fun _ => ?_)
                  clear hK K
                  refine wpAnyH_done (by kernel_rfl) ?_ _
                  clear c0 c0a fz c2
                  go_wp2_with fail
                  have HYS := hide (newTo_yes m nd k HBK.out)
                  exact ⟨⟨k + 1, na', nc', by omega, by go_num, by rw [HYS.out, HND6.out, HRE.out]; exact HLN⟩, by simp [intOf]; omega⟩
          · have hki : ¬ (k : Int) < (m.ms.length : Int) := by omega
            obtain rfl : k = m.ms.length := by omega
            have HLZ : Hid (Lyg w3 NP OB given (newTo m nd m.ms.length) (outL m nd os 0) wr na5 nc5) := hide (by rw [outL_zero]; exact hc.out)
            have n2 : wr.cell? ⟨s.p, 2, none⟩ = some (.slice s.oa os.length s.oc) := by rw [blk_cell (Below.blk hc.out.below HNM3.out)]; rfl
            clear hc
            go_wp2_with fail
            clear n2
            go_loopw [14, 15, 130] (fun _ _ i wz => ∃ j : Nat, j ≤ os.length ∧ i = .int .i64 j ∧ Hid (Lyg w3 NP OB given (newTo m nd m.ms.length) (outL m nd os j) wz na5 nc5)) (fun _ _ i _ => os.length - (intOf i).toNat)
            case atStart => exact ⟨0, Nat.zero_le _, rfl, HLZ⟩
            case round =>
              obtain ⟨j, hj, rfl, hd⟩ := hrel
              by_cases hlj : j < os.length
              · have hji : (j : Int) < (os.length : Int) := by omega
                obtain ⟨q, hq, hqe⟩ := HIN.out j hlj
                obtain ⟨bo, oo, ha, _, _, co⟩ := (HOUT3.out.below hd.out.below).ints hlj
                rw [hqe] at co
                have HA : Hid (s.oa = some ⟨bo, oo, none⟩) := hide ha
                have hqi : (q : Int) < (m.st.length : Int) := by omega
                have hu := HD.out.all q hq
                obtain ⟨u, hue⟩ := Int.eq_ofNat_of_zero_le hu.1
                have hul : u < m.ms.length := by have := hu.2; omega
                have hui : (u : Int) < (m.ms.length : Int) := by omega
                have cs := ints_cellN (Below.blk hd.out.below HST3.out) hq
                rw [hue] at cs
                have cn := ints_cellN (Below.blk hd.out.below HNU.out) (show u < _ by rw [numL_len]; exact hul)
                rw [numL_at _ _ _ hul] at cn
                have HOL := hide (outL_len m nd os j hj)
                have cb := ints_cellN hd.out.outs (show j < _ by rw [HOL.out]; exact hlj)
                have fz := blk_frozen hd.out.outs j
                have c2 : wr.cell? ⟨NP, 2, none⟩ = some (.slice (some ⟨OB, 0, none⟩) (outL m nd os j).length (outL m nd os j).length) := by rw [blk_cell hd.out.me]; rfl
                rw [HOL.out] at c2
                have HNX := hide (outL_set m nd os j hlj)
                rw [hqe, kAt_n, hue, numP, Int.toNat_natCast] at HNX
                have HLN := hide (hd.out.out j (cntTo nd u : Nat))
                rw [HNX.out] at HLN
                rw [HA.out]
                clear ha hu hue hqe
                go_wp2_with fail
                go_region
                all_goals go_wp2_with fail
                all_goals exact ⟨⟨j + 1, by omega, by go_num, hide (HLN.out.more (Below.refl _ _).drew)⟩, by simp [intOf]; omega⟩
              · have hji : ¬ (j : Int) < (os.length : Int) := by omega
                obtain rfl : j = os.length := by omega
                have hz := hd.out
                rw [outL_all] at hz
                go_wp2_with fail
                go_ret
                have hb9 := HB3.out.trans (hz.below.mono HB3.out.size)
                unfold newNs newOs
                rw [HNDE.out]
                exact ⟨⟨NP, rfl, OB, na5, nc5, hz.base HB3.out⟩, hb9⟩
end Go.Proofs.Ytlnmemeejgnbeaa
