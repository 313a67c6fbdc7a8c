/-
  CONTRACTS of strings.Builder's WriteRune at 0 and 1, and of a device's Save.
-/
import Derived.Lib.Builder
import Derived.Lib.UnsafeStr
import Derived.Laws.Externs
import Derived.Test.YtndpehjbepfbkaaGreatDoorDNw
import Derived.Test.YtndpehjbepfbkaaGreatDoorIKs
import Derived.Test.YtndpehjbepfbkaaGreatDoorShelf
set_option linter.unusedSimpArgs false
set_option linter.unusedVariables false
namespace Go.Proofs.YtndpehjbepfbkaaGreatDoor
open Go.RowKit

theorem info_bld : ∃ j, Tryz.prog.info? 80 = some j ∧ j.size = 2 := Option.map_eq_some_iff.1 (by kernel_rfl : (Tryz.prog.info? 80).map (·.size) = some 2)

set_option maxRecDepth 100000 in
set_option maxHeartbeats 1600000 in
theorem copy_used (b : Nat) (w : World) (h0 : w.cell? ⟨b, 0, none⟩ = some (.pointer (some ⟨b, 0, none⟩))) :
    Calls Tryz.prog 49 #[.pointer (some ⟨b, 0, none⟩)] w fun e w' => e = .returned (.tuple #[]) ∧ w' = w := by
  obtain ⟨j, hj, _⟩ := info_bld
  go_enter Tryz.func49, Tryz.ntmps49
  go_wp2
  rw [Lib.run_neq_ptr_same w _ Tryz.underlying77 hj]
  go_wp2
  go_end0
  exact ⟨rfl, rfl⟩

set_option maxRecDepth 100000 in
set_option maxHeartbeats 1600000 in
theorem copy_fresh (b : Nat) (w : World) (h0 : w.cell? ⟨b, 0, none⟩ = some (.pointer none)) (hsh : w.shape? b = some (80, 2)) (hfz : w.frozen? ⟨b, 0, none⟩ = false) :
    Calls Tryz.prog 49 #[.pointer (some ⟨b, 0, none⟩)] w fun e w' => e = .returned (.tuple #[]) ∧ w' = w.setCell ⟨b, 0, none⟩ (.pointer (some ⟨b, 0, none⟩)) := by
  obtain ⟨j, hj, hjs⟩ := info_bld
  go_enter Tryz.func49, Tryz.ntmps49
  go_wp2
  rw [Lib.run_to_unsafe w ⟨b, 0, none⟩ Tryz.underlying77 Tryz.underlying139 hj (by rw [hjs]; decide) hsh (Nat.zero_lt_succ 1)]
  simp only [Result.andThen]
  rw [Oper.upon_value]
  go_wp2
  rw [run_callFunc_extern Tryz.func75 (by kernel_rfl) (by kernel_rfl) (by kernel_rfl) (e := Extern.AbiNoEscape.same) (by kernel_rfl)]
  rw [Lib.run_noEscape]
  simp only [Result.andThen]
  rw [Oper.upon_value]
  go_wp2
  rw [Lib.run_from_unsafe w ⟨b, 0, none⟩ Tryz.underlying139 Tryz.underlying77 hj hsh (by kernel_rfl)]
  simp only [Result.andThen]
  rw [Oper.upon_value]
  go_wp2
  go_end0
  exact ⟨rfl, rfl⟩

/-- a builder's block -/
def BldAt (b : Nat) (w : World) (va : Option Addr) (vc k : Nat) : Prop :=
  ∃ p : Value, (p = .pointer none ∨ p = .pointer (some ⟨b, 0, none⟩)) ∧ w.heap[b]? = some (.cells #[p, .slice va k vc] 80 (0, 0))
theorem BldAt.cell {b : Nat} {w : World} {va : Option Addr} {vc k : Nat} (h : BldAt b w va vc k) : w.cell? ⟨b, 1, none⟩ = some (.slice va k vc) := by
  obtain ⟨p, _, h⟩ := h
  rw [blk_cell h]; rfl
theorem BldAt.frozen {b : Nat} {w : World} {va : Option Addr} {vc k : Nat} (h : BldAt b w va vc k) : w.frozen? ⟨b, 1, none⟩ = false := by
  obtain ⟨p, _, h⟩ := h
  exact blk_frozen h 1
theorem BldAt.set {b : Nat} {w : World} {va va' : Option Addr} {vc k vc' k' : Nat} (h : BldAt b w va vc k) : BldAt b (w.setCell ⟨b, 1, none⟩ (.slice va' k' vc')) va' vc' k' := by
  obtain ⟨p, hp, h⟩ := h
  exact ⟨p, hp, by rw [blk_set h]; rfl⟩
theorem BldAt.same {b : Nat} {w w' : World} {va : Option Addr} {vc k : Nat} (h : BldAt b w va vc k) (e : w'.heap[b]? = w.heap[b]?) : BldAt b w' va vc k := by
  obtain ⟨p, hp, h⟩ := h
  exact ⟨p, hp, e.trans h⟩

theorem bcopy_at (b : Nat) (w : World) (va : Option Addr) (vc k : Nat) (h : BldAt b w va vc k) :
    Calls Tryz.prog 49 #[.pointer (some ⟨b, 0, none⟩)] w fun e w' => e = .returned (.tuple #[]) ∧ BldAt b w' va vc k ∧ KeptS (· = b) w w' := by
  obtain ⟨p, hp, h⟩ := h
  rcases hp with rfl | rfl
  · refine (copy_fresh b w (by rw [blk_cell h]; rfl) (by simp [World.shape?, h]) (blk_frozen h 0)).mono ?_
    rintro e w' ⟨rfl, rfl⟩
    exact ⟨rfl, ⟨_, .inr rfl, by rw [blk_set h]; rfl⟩, (KeptS.refl _ _).set b 0 _ rfl⟩
  · refine (copy_used b w (by rw [blk_cell h]; rfl)).mono ?_
    rintro e w' ⟨rfl, rfl⟩
    exact ⟨rfl, ⟨_, .inr rfl, h⟩, KeptS.refl _ _⟩

/-- the letter of a bit -/
def letB (b : Bool) : UInt8 := if b then 49 else 48
def saveB (l : List Bool) : List UInt8 := l.map letB

set_option maxRecDepth 100000 in
set_option maxHeartbeats 1600000 in
theorem letter_at (b : Bool) (w : World) : Calls Tryz.prog 31 #[.bool b] w fun e w' => e = .returned (.int .i32 ((letB b).toNat : Int)) ∧ w' = w := by
  cases b
  all_goals
    go_enter Tryz.func31, Tryz.ntmps31
    go_wp2_with fail
    go_ret
    exact ⟨rfl, rfl⟩

set_option maxRecDepth 100000 in
set_option maxHeartbeats 3200000 in
theorem arune_at {b : Nat} {w0 w : World} {va : Option Addr} {vc k : Nat} {l : List UInt8} (h : RowS (· = b) 5 1 w0 w va vc k (byC l)) (hb : b < w0.heap.size) (hk : k ≤ 900000) (c : Bool) :
    Calls Tryz.prog 50 #[.slice va k vc, .int .i32 ((letB c).toNat : Int)] w fun e w' => ∃ va' vc', e = .returned (.slice va' (k + 1) vc') ∧ RowS (· = b) 5 1 w0 w' va' vc' (k + 1) (byC (l ++ [letB c])) ∧ w'.heap[b]? = w.heap[b]? := by
  have hlt : b < w.heap.size := Nat.lt_of_lt_of_le hb h.kept.size
  have hno : (Value.slice va k vc).ownBlock ≠ some b := fun e => by have := h.mine.new b e; omega
  obtain ⟨va', vc', w2, happ, hrow, _, hgr⟩ := (h.more (KeptS.of (below_alloc w (.cells #[.int .u8 ((letB c).toNat : Int)] 5))) (fun x hx => by subst hx; exact hb)).app (t := 78) info_by (by decide) (by decide) rfl (by kernel_rfl) (fun x hx => by subst hx; exact hb) (byC [letB c]) (some ⟨w.heap.size, 0, none⟩) 1 1 (k + 1) (Lies.blk (cs := byC [letB c]) (blk_new w (.cells #[.int .u8 ((letB c).toNat : Int)] 5)) trivial) rfl (byC_one _) rfl (by omega)
  rw [← byC_app] at hrow
  have HROW := hide hrow
  have HE : Hid (w2.heap[b]? = w.heap[b]?) := hide ((hgr.block b (by simp; omega) (fun e => hno e.symm)).trans ((below_alloc w _).block b hlt))
  clear hrow hgr h
  cases c
  all_goals
    simp only [show ((letB false).toNat : Int) = 48 from rfl, show ((letB true).toNat : Int) = 49 from rfl] at happ ⊢
    go_enter Tryz.func50, Tryz.ntmps50
    go_wp2_with (at_builtin; (refine wpl_append_run happ rfl _ _ rfl rfl rfl ?_))
    go_ret
    exact ⟨va', vc', rfl, HROW.out, HE.out⟩

set_option maxRecDepth 100000 in
set_option maxHeartbeats 3200000 in
theorem wrune_at {b : Nat} {w0 w : World} {va : Option Addr} {vc k : Nat} {l : List UInt8} (h : RowS (· = b) 5 1 w0 w va vc k (byC l)) (hbl : BldAt b w va vc k) (hb : b < w0.heap.size) (hk : k ≤ 900000) (c : Bool) :
    Calls Tryz.prog 30 #[.pointer (some ⟨b, 0, none⟩), .int .i32 ((letB c).toNat : Int)] w fun e w' => e = .returned (.tuple #[.int .i64 1, .nilIface]) ∧ ∃ va' vc', RowS (· = b) 5 1 w0 w' va' vc' (k + 1) (byC (l ++ [letB c])) ∧ BldAt b w' va' vc' (k + 1) := by
  have HC := hide (bcopy_at b w va vc k hbl)
  have H := hide h
  have HX : Hid (((letB c).toNat : Int) = ((letB c).toNat : Int)) := hide rfl
  clear h hbl
  generalize hcv : ((letB c).toNat : Int) = cv at *
  have HCV := hide hcv
  clear hcv HX
  go_enter Tryz.func30, Tryz.ntmps30
  go_wp2_with fail
  refine HC.out.mono ?_
  rintro e w1 ⟨rfl, hbl, hk1⟩
  have H1 := hide (H.out.more hk1 (fun x hx => by subst hx; exact hb))
  have HB1 := hide hbl
  have m1 := hbl.cell
  clear hbl hk1 HC
  have HA := hide (arune_at H1.out hb hk c)
  rw [HCV.out] at HA
  go_wp2_with fail
  refine HA.out.mono ?_
  rintro e w2 ⟨va', vc', rfl, hrow, he⟩
  have HB2 := hide (HB1.out.same he)
  have m2 := HB2.out.cell
  have z2 := HB2.out.frozen
  have HROW := hide hrow
  have HE : Hid ((w2.setCell ⟨b, 1, none⟩ (.slice va' (k + 1) vc')).cell? ⟨b, 1, none⟩ = some (.slice va' (k + 1) vc')) := hide (BldAt.cell (HB2.out.set (k' := k + 1)))
  clear hrow he m1 HA
  go_wp2_with fail
  go_ret2
  have hbl := Nat.lt_of_lt_of_le hb HROW.out.kept.size
  refine ⟨by show Ending.returned (.tuple #[.int .i64 ((k : Int) + 1 - (k : Int)), .nilIface]) = _; rw [show (k : Int) + 1 - (k : Int) = 1 by omega], va', vc', HROW.out.more (KeptS.refl _ _ |>.set b 1 _ rfl) (fun x hx => by subst hx; exact hb), HB2.out.set⟩
theorem saveB_snoc (l : List Bool) (k : Nat) (h : k < l.length) : saveB (l.take (k + 1)) = saveB (l.take k) ++ [letB (bit l k)] := by
  have e : l[k] = bit l k := by simp [bit, h]
  rw [← take_one h, e]
  simp [saveB]
theorem byC_byteCells (l : List UInt8) : byC l = Lib.byteCells l := rfl

set_option maxRecDepth 100000 in
set_option maxHeartbeats 6400000 in
theorem dsave_at {D : Nat} {s : NetQ} {S : Nat → Prop} {w : World} {gn : Nat} {rs : List Rg} {ls : List Lt} {os : List Int} {held : List Bool} {ins outs : List Int} (h : DevAt D s S w gn rs ls os held ins outs) (hn : rs.length ≤ 20000) :
    Calls Tryz.prog 10 #[.pointer (some ⟨D, 0, none⟩)] w fun e w' => e = .returned (.string ⟨(saveB held).toArray⟩) ∧ Below w.heap.size w w' := by
  have HBA := hide (below_alloc w (.cells #[.pointer none, .slice none 0 0] 80))
  have HNA := hide (blk_new w (.cells #[.pointer none, .slice none 0 0] 80))
  have HD1 := hide (h.below HBA.out)
  have HRG := hide (lregs_at HD1.out.sim hn)
  have HLEN := hide h.sim.len
  have m0 : (w.alloc (.cells #[.pointer none, .slice none 0 0] 80)).cell? ⟨D, 0, none⟩ = some (.pointer (some ⟨s.p, 0, none⟩)) := by
    obtain ⟨ia, ic, oa, oc, h1, h2, h3⟩ := HD1.out.me
    rw [blk_cell h1]; rfl
  have hpe : ∀ (a : Addr) (w : World), (binOp .eql 28 (.pointer (some a)) (.pointer none)).run Tryz.prog w = .ok (.bool false) w := fun _ _ => rfl
  clear h
  go_enter Tryz.func10, Tryz.ntmps10
  go_wp2_with fail
  refine HRG.out.mono ?_
  rintro e w2 ⟨⟨ra, rc, rfl, hl⟩, hb⟩
  have HL : Hid (Lies (fun x => x < w2.heap.size ∧ x ≠ w.heap.size) w2 ra (bitsC held)) := hide (hl.imp fun x hx hf => ⟨hx, by have : (w.alloc (.cells #[.pointer none, .slice none 0 0] 80)).heap.size ≤ x := hf; simp at this; omega⟩)
  have HB2 := hide (Below.step HBA.out hb)
  have HBL : Hid (BldAt w.heap.size w2 none 0 0) := hide ⟨_, .inl rfl, Below.blk hb HNA.out⟩
  have hwl : w.heap.size < w2.heap.size := blk_lt (Below.blk hb HNA.out)
  have HWL := hide hwl
  clear hl hb HRG m0 hpe HD1
  go_wp2_with fail
  go_loopw [14] (fun i wr => ∃ (k : Nat) (va : Option Addr) (vc : Nat), k ≤ rs.length ∧ i = .int .i64 k ∧ Hid (RowS (· = w.heap.size) 5 1 w2 wr va vc k (byC (saveB (held.take k)))) ∧ Hid (BldAt w.heap.size wr va vc k)) (fun i _ => rs.length - (intOf i).toNat)
  case atStart => exact ⟨0, none, 0, Nat.zero_le _, rfl, hide (RowS.none _ _ _ _), HBL⟩
  case round =>
    obtain ⟨k, va, vc, hk, rfl, hrow, hbl⟩ := hrel
    by_cases hlt : k < rs.length
    · have hki : (k : Int) < (rs.length : Int) := by omega
      obtain ⟨b, off, ha, _, _, q0⟩ := (HL.out.same (w' := wr) fun x hx hxl => hrow.out.kept.block x hxl (fun e => hx.2 e)).bits (i := k) (by rw [HLEN.out]; exact hlt)
      have HA := hide ha
      rw [HA.out]
      have HSN := hide (saveB_snoc held k (by rw [HLEN.out]; exact hlt))
      generalize bit held k = c at *
      have HLT := hide (letter_at c wr)
      have HWR := hide (wrune_at hrow.out hbl.out HWL.out (by omega) c)
      generalize hcv : ((letB c).toNat : Int) = cv at *
      clear ha hcv
      go_wp2_with fail
      refine HLT.out.mono ?_
      rintro e w3 ⟨rfl, rfl⟩
      clear HLT q0
      go_wp2_with fail
      refine HWR.out.mono ?_
      rintro e w4 ⟨rfl, va', vc', hrow', hbl'⟩
      rw [← HSN.out] at hrow'
      have HR' := hide hrow'
      have HB' := hide hbl'
      clear hrow' hbl' HWR hrow hbl
      go_wp2_with fail
      exact ⟨⟨k + 1, va', vc', by omega, by go_num, HR', HB'⟩, by simp [intOf]; omega⟩
    · have HTK : Hid (held.take k = held) := hide (List.take_of_length_le (by rw [HLEN.out]; omega))
      have hbw : Below w.heap.size w wr := ⟨hrow.out.kept.os.trans HB2.out.os, hrow.out.kept.tape.trans HB2.out.tape, hrow.out.kept.output.trans HB2.out.output, Nat.le_trans HB2.out.size hrow.out.kept.size, fun x hx => (hrow.out.kept.block x (by omega) (by omega)).trans (HB2.out.block x hx)⟩
      have HBW := hide hbw
      have HIB : Hid (Lib.IsBuilder 80 5 w.heap.size w.heap.size (Lib.byteCells (saveB held)) wr) := hide (by
        obtain ⟨p, hp, hblk⟩ := hbl.out
        have hr := hrow.out
        rw [HTK.out, byC_byteCells] at hr
        have hown := hr.mine.own
        have hl2 : (Lib.byteCells (saveB held)).length = k := by have := hown.1; simpa using this
        have hbt : ∀ q, Lib.BuilderAt 80 5 w.heap.size w.heap.size q (Lib.byteCells (saveB held)) wr ↔ wr.heap[w.heap.size]? = some (.cells #[q, .slice va k vc] 80 (0, 0)) ∨ Lib.BuilderAt 80 5 w.heap.size w.heap.size q (Lib.byteCells (saveB held)) wr := fun q => by
          constructor
          · exact .inr
          · rintro (h | h)
            · refine ⟨Nat.le_refl _, _, h, ?_, fun e => by have := hr.mine.new _ e; omega⟩
              rw [hl2]
              exact ⟨hown.1, hown.2.imp id fun ⟨g, cap, cur, e, _, rest⟩ => ⟨g, cap, cur, e, by have := hr.mine.new g (by rw [e]; rfl); omega, rest⟩⟩
            · exact h
        rcases hp with rfl | rfl
        · exact .inl ((hbt _).2 (.inl hblk))
        · exact .inr ((hbt _).2 (.inl hblk)))
      clear hbw hrow hbl
      go_wp2_with fail
      refine (Tryz.Builder_String_any w.heap.size w.heap.size (saveB held) wr HIB.out HBW.out.size).mono ?_
      rintro e w5 ⟨rfl, hb5⟩
      have HB5 := hide (HBW.out.trans hb5)
      clear hb5
      go_wp2_with fail
      go_ret
      exact ⟨rfl, HB5.out⟩
end Go.Proofs.YtndpehjbepfbkaaGreatDoor
