/-
  CONTRACTS of a device's read and Load.
-/
import Derived.Laws.RangeAny
import Derived.Lib.OthersKept
import Derived.Test.YtndpehjbepfbkaaGreatDoorDSv
set_option linter.unusedSimpArgs false
set_option linter.unusedVariables false
namespace Go.Proofs.YtndpehjbepfbkaaGreatDoor
open Go.RowKit

def okB (c : UInt8) : Bool := c == 48 || c == 49
def bitB (c : UInt8) : Bool := c == 49
def readB (l : List UInt8) : List Bool := l.map bitB
theorem readB_snoc (l : List UInt8) (k : Nat) (h : k < l.length) : readB (l.take (k + 1)) = readB (l.take k) ++ [bitB l[k]] := by
  show (l.take (k + 1)).map bitB = _
  rw [← take_one h, List.map_append]; rfl
theorem all_snoc (l : List UInt8) (k : Nat) (h : k < l.length) : (l.take (k + 1)).all okB = ((l.take k).all okB && okB l[k]) := by
  rw [← take_one h, List.all_append]
  simp only [List.all_cons, List.all_nil, Bool.and_true]
theorem all_no {l : List UInt8} {k : Nat} (h : (l.take k).all okB = false) : l.all okB = false := by
  rw [Bool.eq_false_iff] at h ⊢
  intro hl
  apply h
  rw [List.all_eq_true] at hl ⊢
  intro x hx
  exact hl x (List.mem_of_mem_take hx)
theorem KeptS.iterAt {S : Nat → Prop} {w : World} {k : Nat} {s : ByteArray} {p : Nat} (hS : S k) : KeptS S w (w.iterAt k s p) :=
  ⟨rfl, rfl, rfl, by rw [Lib.iterAt_size]; exact Nat.le_refl _, fun i hi hn => Lib.iterAt_other w k i s p (fun e => hn (e ▸ hS))⟩
/-- what next tells of a string's letter -/
theorem next_at (l : List UInt8) (k : Nat) (hk : k < l.length) (K : Nat) (w : World) (hit : w.heap[K]? = some (.stringIter ⟨l.toArray⟩ k)) :
    ∃ (r : Nat) (d : Nat), 1 ≤ d ∧ (∀ ty, (Instr.next (.pointer (some ⟨K, 0, none⟩)) true ty).run Tryz.prog w = .ok (.tuple #[.bool true, .int .i64 k, .int .i32 r]) (w.iterAt K ⟨l.toArray⟩ (k + d))) ∧ ((l[k] = 48 ∧ r = 48 ∧ d = 1) ∨ (l[k] = 49 ∧ r = 49 ∧ d = 1) ∨ (okB l[k] = false ∧ r ≠ 48 ∧ r ≠ 49)) := by
  have hs : k < (⟨l.toArray⟩ : ByteArray).size := by rw [str_size]; exact hk
  have hg : ((⟨l.toArray⟩ : ByteArray)[k]'hs) = l[k] := by
    show (l.toArray)[k]'_ = l[k]
    simp
  by_cases ha : l[k].toNat < 128
  · refine ⟨l[k].toNat, 1, Nat.le_refl _, fun ty => ?_, ?_⟩
    · have := Lib.run_next_ascii_at (P := Tryz.prog) w K ⟨l.toArray⟩ k ty hit hs (by rw [hg]; exact ha)
      rw [hg] at this
      exact this
    · by_cases h8 : l[k] = 48
      · exact .inl ⟨h8, by rw [h8]; rfl, rfl⟩
      · by_cases h9 : l[k] = 49
        · exact .inr (.inl ⟨h9, by rw [h9]; rfl, rfl⟩)
        · refine .inr (.inr ⟨by simp [okB, h8, h9], fun e => h8 (UInt8.toNat_inj.1 e), fun e => h9 (UInt8.toNat_inj.1 e)⟩)
  · have hd := decode_high ⟨l.toArray⟩ k hs (by rw [hg]; omega)
    refine ⟨_, _, hd.2, fun ty => Lib.run_next_any_at (P := Tryz.prog) w K ⟨l.toArray⟩ k ty hit hs, .inr (.inr ⟨?_, by omega, by omega⟩)⟩
    have h8 : l[k] ≠ 48 := fun e => by rw [e] at ha; exact ha (by decide)
    have h9 : l[k] ≠ 49 := fun e => by rw [e] at ha; exact ha (by decide)
    simp [okB, h8, h9]

/-- what read comes to -/
def ReadD (l : List UInt8) (B : Nat) (e : Ending) (w' : World) : Prop :=
  (l.all okB = true ∧ ∃ va vc, e = .returned (.tuple #[.slice va l.length vc, .bool true]) ∧ Lies (FromB B) w' va (bitsC (readB l))) ∨ (l.all okB = false ∧ e = .returned (.tuple #[.slice none 0 0, .bool false]))

set_option maxRecDepth 100000 in
set_option maxHeartbeats 6400000 in
theorem dread_at (l : List UInt8) (w : World) (hl : l.length ≤ 100000) :
    Calls Tryz.prog 33 #[.string ⟨l.toArray⟩] w fun e w' => ReadD l w.heap.size e w' ∧ Below w.heap.size w w' := by
  have hsz : (⟨l.toArray⟩ : ByteArray).size = l.length := str_size l
  have HB0 : Hid (Below w.heap.size w (w.iter ⟨l.toArray⟩ 0)) := hide (below_alloc w _)
  have HIT := hide (World.iter_heap w ⟨l.toArray⟩ 0)
  have HWL : Hid (w.heap.size < (w.iter ⟨l.toArray⟩ 0).heap.size) := hide (blk_lt HIT.out)
  go_enter Tryz.func33, Tryz.ntmps33
  go_wp2_with fail
  generalize w.iter ⟨l.toArray⟩ 0 = w0 at *
  go_loopw [2] (fun v wr => ∃ (k : Nat) (va : Option Addr) (vc : Nat), k ≤ l.length ∧ v = .slice va k vc ∧ Hid ((l.take k).all okB = true) ∧ Hid (RowS (· = w.heap.size) 4 1 w0 wr va vc k (bitsC (readB (l.take k)))) ∧ Hid (wr.heap[w.heap.size]? = some (.stringIter ⟨l.toArray⟩ k))) (fun _ wr => l.length - wr.iterPos w.heap.size)
  case atStart => exact ⟨0, none, 0, Nat.zero_le _, rfl, hide rfl, hide (RowS.none _ _ _ _), HIT⟩
  case round =>
    obtain ⟨k, va, vc, hk, rfl, hok, hrow, hit⟩ := hrel
    have HBW : Hid (∀ W, KeptS (· = w.heap.size) w0 W → Below w.heap.size w W) := hide fun W hW => ⟨hW.os.trans HB0.out.os, hW.tape.trans HB0.out.tape, hW.output.trans HB0.out.output, Nat.le_trans HB0.out.size hW.size, fun x hx => (hW.block x (Nat.lt_of_lt_of_le hx HB0.out.size) (by omega)).trans (HB0.out.block x hx)⟩
    by_cases hlt : k < l.length
    · obtain ⟨r, d, hd1, hnx, hcase⟩ := next_at l k hlt w.heap.size wr hit.out
      have hkp : KeptS (· = w.heap.size) wr (wr.iterAt w.heap.size ⟨l.toArray⟩ (k + d)) := KeptS.iterAt rfl
      have HROW2 := hide (hrow.out.more hkp (fun x hx => by subst hx; exact HWL.out))
      have HIT2 := hide (Lib.iterAt_heap wr w.heap.size ⟨l.toArray⟩ k (k + d) hit.out)
      have HPOS : Hid (wr.iterPos w.heap.size = k) := hide (by simp [World.iterPos, hit.out])
      have HRS := hide (readB_snoc l k hlt)
      have HAS := hide (all_snoc l k hlt)
      rw [hok.out, Bool.true_and] at HAS
      generalize wr.iterAt w.heap.size ⟨l.toArray⟩ (k + d) = w1 at *
      have HW1L : Hid (w.heap.size < w1.heap.size) := hide (blk_lt HIT2.out)
      have HGO : ∀ b : Bool, bitB l[k] = b → okB l[k] = true → d = 1 → ∃ va' vc' w2, (Builtin.append_ #[47, 47] 47 #[.slice va k vc, .slice (some ⟨w1.heap.size, 0, none⟩) 1 1]).run Tryz.prog (w1.alloc (.cells #[.bool b] 4)) = .ok (.slice va' (k + 1) vc') w2 ∧ Hid (RowS (· = w.heap.size) 4 1 w0 w2 va' vc' (k + 1) (bitsC (readB (l.take (k + 1))))) ∧ Hid (w2.heap[w.heap.size]? = some (.stringIter ⟨l.toArray⟩ (k + 1))) ∧ Hid ((l.take (k + 1)).all okB = true) := fun b hb ho hd => by
        subst hd
        obtain ⟨va', vc', w2, happ, hrow', _, hgr⟩ := (HROW2.out.more (KeptS.of (below_alloc w1 (.cells #[.bool b] 4))) (fun x hx => by subst hx; exact HWL.out)).app (t := 47) info_bo (by decide) (by decide) rfl (by kernel_rfl) (fun x hx => by subst hx; exact HWL.out) (bitsC [b]) (some ⟨w1.heap.size, 0, none⟩) 1 1 (k + 1) (Lies.blk (cs := bitsC [b]) (blk_new w1 (.cells #[.bool b] 4)) trivial) rfl (bits_one _) rfl (by omega)
        refine ⟨va', vc', w2, happ, hide ?_, hide ?_, hide (HAS.out.trans ho)⟩
        · rw [HRS.out, hb, bitsC_app]; exact hrow'
        · exact ((hgr.block w.heap.size (by simp; have := HW1L.out; omega) (fun e => by have := HROW2.out.mine.new _ e.symm; have := HWL.out; omega)).trans ((below_alloc w1 _).block _ HW1L.out)).trans HIT2.out
      have HNO : Hid (okB l[k] = false → l.all okB = false) := hide fun h => all_no (HAS.out.trans h)
      clear hrow hit HRS
      generalize l[k] = c at *
      rcases hcase with ⟨rfl, rfl, hd⟩ | ⟨rfl, rfl, hd⟩ | ⟨hno, hr8, hr9⟩
      · obtain ⟨va', vc', w2, happ, hrow', hit', hok'⟩ := HGO false rfl rfl hd
        clear HGO
        go_wp2_with (at_builtin; (refine wpl_append_run happ rfl _ _ rfl rfl rfl ?_))
        refine ⟨⟨k + 1, va', vc', by omega, rfl, hok', hrow', hit'⟩, ?_⟩
        rw [HPOS.out]
        simp only [World.iterPos, hit'.out]
        omega
      · obtain ⟨va', vc', w2, happ, hrow', hit', hok'⟩ := HGO true rfl rfl hd
        clear HGO
        go_wp2_with (at_builtin; (refine wpl_append_run happ rfl _ _ rfl rfl rfl ?_))
        refine ⟨⟨k + 1, va', vc', by omega, rfl, hok', hrow', hit'⟩, ?_⟩
        rw [HPOS.out]
        simp only [World.iterPos, hit'.out]
        omega
      · have HN := hide (HNO.out hno)
        have e1 : ((r : Int) != 48) = true := by simp; omega
        have e2 : ((r : Int) != 49) = true := by simp; omega
        clear HGO
        go_wp2_with fail
        go_ret2
        exact ⟨.inr ⟨HN.out, rfl⟩, HBW.out _ HROW2.out.kept⟩
    · have hkl : k = l.length := by omega
      have hnx : ∀ ty, (Instr.next (.pointer (some ⟨w.heap.size, 0, none⟩)) true ty).run Tryz.prog wr = _ := fun ty => Lib.run_next_end_at wr w.heap.size ⟨l.toArray⟩ k ty hit.out (by rw [hsz]; exact hlt)
      subst hkl
      have HOK : Hid (l.all okB = true) := hide (by have := hok.out; rwa [List.take_of_length_le (Nat.le_refl _)] at this)
      have HROW : Hid (RowS (· = w.heap.size) 4 1 w0 wr va vc l.length (bitsC (readB l))) := hide (by have := hrow.out; rwa [List.take_of_length_le (Nat.le_refl _)] at this)
      have HZ := hide HB0.out.size
      go_wp2_with fail
      go_ret2
      exact ⟨.inl ⟨HOK.out, va, vc, rfl, HROW.out.lies.imp fun b _ hb => Nat.le_trans HZ.out hb⟩, HBW.out _ HROW.out.kept⟩
/-- what Load comes to -/
def LoadD (l : List UInt8) (n : Nat) : Int := if l.all okB = true then (if l.length = n then 0 else 1) else 3
/-- what is held behind Load -/
def heldB (l : List UInt8) (held : List Bool) (e : Int) : List Bool := if e = 0 then readB l else held
/-- an error, or none -/
def errV (e : Int) : Value := if e = 0 then .nilIface else .iface 25 (.int .i64 e)

set_option maxRecDepth 100000 in
set_option maxHeartbeats 6400000 in
theorem dload_at {D : Nat} {s : NetQ} {S : Nat → Prop} {w : World} {gn : Nat} {rs : List Rg} {ls : List Lt} {os : List Int} {held : List Bool} {ins outs : List Int} (h : DevAt D s S w gn rs ls os held ins outs) (l : List UInt8) (hl : l.length ≤ 10000) (hn : rs.length ≤ 20000) (hS : ∀ b, w.heap.size ≤ b → S b) :
    Calls Tryz.prog 12 #[.pointer (some ⟨D, 0, none⟩), .string ⟨l.toArray⟩] w fun e w' => e = .returned (errV (LoadD l rs.length)) ∧ DevAt D s S w' gn rs ls os (heldB l held (LoadD l rs.length)) ins outs ∧ Kept s.p w w' := by
  have HRD := hide (dread_at l w (by omega))
  have HS := hide hS
  have HD := hide h
  have hpe : ∀ (a : Addr) (w : World), (binOp .eql 28 (.pointer (some a)) (.pointer none)).run Tryz.prog w = .ok (.bool false) w := fun _ _ => rfl
  clear h hS
  go_enter Tryz.func12, Tryz.ntmps12
  go_wp2_with fail
  refine HRD.out.mono ?_
  rintro e w1 ⟨hc, hb⟩
  have HB := hide hb
  have HD1 := hide (HD.out.below hb)
  have m0 : w1.cell? ⟨D, 0, none⟩ = some (.pointer (some ⟨s.p, 0, none⟩)) := by
    obtain ⟨ia, ic, oa, oc, h1, h2, h3⟩ := HD1.out.me
    rw [blk_cell h1]; rfl
  clear hb HRD
  rcases hc with ⟨hok, va, vc, rfl, hlies⟩ | ⟨hno, rfl⟩
  · have HL := hide hlies
    by_cases hln : l.length = rs.length
    · have HE : Hid (LoadD l rs.length = 0) := hide (by unfold LoadD; rw [if_pos hok, if_pos hln])
      have HP := hide (put_at HD1.out.sim (readB l) va l.length vc hln (by simp [readB]) HL.out hn (fun b hb => HS.out b (Nat.le_trans HB.out.size hb)))
      clear hok hln hlies
      go_wp2_with fail
      refine HP.out.mono ?_
      rintro e w2 ⟨rfl, hsim, hk⟩
      have HD2 := hide (HD1.out.turned hk hsim)
      have HK := hide ((Kept.of (R := s.p) HB.out).trans hk)
      clear hsim hk HP
      go_wp2_with fail
      go_ret
      try rw [HE.out]
      exact ⟨rfl, HD2.out, HK.out⟩
    · have HE : Hid (LoadD l rs.length = 1) := hide (by unfold LoadD; rw [if_pos hok, if_neg hln])
      have HP := hide (put_no HD1.out.sim va l.length vc hln)
      clear hok hln hlies
      go_wp2_with fail
      refine HP.out.mono ?_
      rintro e w2 ⟨rfl, hb2⟩
      have HB2 := hide hb2
      clear hb2 HP
      go_wp2_with fail
      go_ret
      try rw [HE.out]
      exact ⟨rfl, HD1.out.below HB2.out, (Kept.of HB.out).below HB2.out⟩
  · have HE : Hid (LoadD l rs.length = 3) := hide (by unfold LoadD; rw [if_neg (by simp [hno])])
    clear hno
    go_wp2_with fail
    go_ret
    try rw [HE.out]
    exact ⟨rfl, HD1.out, Kept.of HB.out⟩
end Go.Proofs.YtndpehjbepfbkaaGreatDoor
