/-
  CONTRACTS of finder, of the look that it makes, and of decl.
-/
import Derived.Test.YtgncgbngjdcpgaaGreatDoorFind
set_option linter.unusedSimpArgs false
set_option linter.unusedVariables false
namespace Go.Proofs.YtgncgbngjdcpgaaGreatDoor
open Go.RowKit

/-- a look for names -/
def Fd (w : World) (LV : Value) (ds : List De) : Prop := ∃ (P1 P3 M g cap : Nat) (ao : Option Addr) (S : Nat → Prop), LV = .func (.func 102) #[] #[.pointer (some ⟨P3, 0, none⟩), .pointer (some ⟨P1, 0, none⟩)] ∧ w.heap[P3]? = some (.cells #[.map (some M)] 132 (0, 0)) ∧ w.heap[M]? = some (.map (ents 0 ds).toArray ds.length) ∧ w.heap[P1]? = some (.cells #[.slice ao ds.length cap] 22 (0, 0)) ∧ IsDes S w ds (.slice ao ds.length cap)
theorem Fd.below {w w' : World} {LV : Value} {ds : List De} (h : Fd w LV ds) (hb : Below w.heap.size w w') : Fd w' LV ds := by
  obtain ⟨P1, P3, M, g, cap, ao, S, e, h1, h2, h3, h4⟩ := h
  exact ⟨P1, P3, M, g, cap, ao, S, e, Below.blk hb h1, Below.blk hb h2, Below.blk hb h3, IsRow.same h4 fun c _ h => hb.block c h⟩

theorem de_cell {S : Nat → Prop} {w : World} {l : List De} {v : Value} (h : IsDes S w l v) {g cap m : Nat} (hv : v = .slice (some ⟨g, 0, none⟩) m cap) {j : Nat} (hj : j < l.length) {k : Nat} {u : Value} (hk : (deCells l[j])[k]? = some u) (h4 : k < 4) : w.cell? ⟨g, j * 4 + k, none⟩ = some u := by
  have flat4 : ∀ (cs : List De) (i k : Nat) (hi : i < cs.length), k < 4 → (cs.flatMap deCells)[i * 4 + k]? = (deCells cs[i])[k]? := by
    intro cs
    induction cs with
    | nil => intro i k hi; simp at hi
    | cons d cs ih =>
      intro i k hi hk
      have hd : (deCells d).length = 4 := rfl
      rw [List.flatMap_cons]
      cases i with
      | zero => rw [List.getElem?_append_left (by omega)]; simp
      | succ i =>
        rw [show (i + 1) * 4 + k = (deCells d).length + (i * 4 + k) by rw [hd]; omega, List.getElem?_append_right (by omega), Nat.add_sub_cancel_left, ih i k (by simpa using hi) hk]
        simp
  subst hv
  have := h.1.cells (g := g) rfl (j * 4 + k) u (by rw [flat4 l j k hj h4]; exact hk)
  unfold Addr.add at this
  split at this
  · rename_i e; rw [e]; exact this
  · simpa using this
theorem de_addr {S : Nat → Prop} {w : World} {l : List De} {v : Value} (h : IsDes S w l v) (hn : 0 < l.length) : ∃ g cap : Nat, v = .slice (some ⟨g, 0, none⟩) l.length cap ∧ S g := by
  rcases h.1.2 with ⟨rfl, h0⟩ | ⟨g, cap, cur, rfl, _⟩
  · omega
  · exact ⟨g, cap, rfl, h.2 g rfl⟩

theorem dup_step {ds : List De} {j : Nat} (h : j < ds.length) : dupC j (ds.take j) (ds.drop j) = if (ds.take j).any (fun e => e.name.toList == ds[j].name.toList) then some j else dupC (j + 1) (ds.take (j + 1)) (ds.drop (j + 1)) := by
  rw [List.drop_eq_getElem_cons h, dupC, List.take_succ_eq_append_getElem h]
theorem any_idx (l : List De) (s : List UInt8) : (l.any fun e => e.name.toList == s) = true ↔ ∃ k, (l.findIdx? fun e => e.name.toList == s) = some k := by
  constructor
  · intro h
    cases hf : l.findIdx? fun e => e.name.toList == s with
    | some k => exact ⟨k, rfl⟩
    | none =>
      rw [List.findIdx?_eq_none_iff] at hf
      obtain ⟨x, hx, hp⟩ := List.any_eq_true.1 h
      rw [hf x hx] at hp; cases hp
  · rintro ⟨k, hk⟩
    obtain ⟨hlt, hp, _⟩ := List.findIdx?_eq_some_iff_getElem.1 hk
    exact List.any_eq_true.2 ⟨_, List.getElem_mem hlt, hp⟩

/-- what finder comes to -/
def Found (w : World) (ds : List De) (r : Option Nat) (e : Ending) (w' : World) : Prop := Below w.heap.size w w' ∧ match r with | some i => Thrown 9 i e w' | none => ∃ LV, e = .returned LV ∧ Fd w' LV ds

set_option maxRecDepth 100000 in
set_option maxHeartbeats 6400000 in
theorem finder_at (ds : List De) (hl : ds.length ≤ 30) (S : Nat → Prop) (w : World) (v : Value) (hd : IsDes S w ds v) :
    Calls Tryz.prog 63 #[v] w (Found w ds (dupC 0 [] ds)) := by
  obtain ⟨ao, cap, rfl⟩ := hd.val
  have HD := hide hd
  have HB3 : Hid (Below w.heap.size w (((w.alloc (.cells #[.slice ao ds.length cap] 22)).alloc (.map #[] 0)).alloc (.cells #[.map (some (w.heap.size + 1))] 132))) := hide (((below_alloc w _).alloc (by simp) _).alloc (by simp; omega) _)
  have HP1 : Hid ((((w.alloc (.cells #[.slice ao ds.length cap] 22)).alloc (.map #[] 0)).alloc (.cells #[.map (some (w.heap.size + 1))] 132)).heap[w.heap.size]? = some (.cells #[.slice ao ds.length cap] 22 (0, 0))) := hide (Below.blk (below_alloc _ _) (Below.blk (below_alloc _ _) (blk_new w _)))
  have HM : Hid ((((w.alloc (.cells #[.slice ao ds.length cap] 22)).alloc (.map #[] 0)).alloc (.cells #[.map (some (w.heap.size + 1))] 132)).heap[w.heap.size + 1]? = some (.map (ents 0 []).toArray 0)) := hide (Below.blk (below_alloc _ _) (by have h := blk_new (w.alloc (.cells #[.slice ao ds.length cap] 22)) (.map #[] 0); rw [show (w.alloc (.cells #[.slice ao ds.length cap] 22)).heap.size = w.heap.size + 1 by simp] at h; exact h))
  have HP3 : Hid ((((w.alloc (.cells #[.slice ao ds.length cap] 22)).alloc (.map #[] 0)).alloc (.cells #[.map (some (w.heap.size + 1))] 132)).heap[w.heap.size + 1 + 1]? = some (.cells #[.map (some (w.heap.size + 1))] 132 (0, 0))) := hide (by
    have h := blk_new ((w.alloc (.cells #[.slice ao ds.length cap] 22)).alloc (.map #[] 0)) (.cells #[.map (some (w.heap.size + 1))] 132)
    have e : ((w.alloc (.cells #[.slice ao ds.length cap] 22)).alloc (.map #[] 0)).heap.size = w.heap.size + 1 + 1 := by simp
    rw [e] at h
    exact h)
  have hmm := @run_makeMap Tryz.prog
  clear hd
  go_enter Tryz.func63, Tryz.ntmps63
  go_wp2_with fail
  generalize (((w.alloc (.cells #[.slice ao ds.length cap] 22)).alloc (.map #[] 0)).alloc (.cells #[.map (some (w.heap.size + 1))] 132)) = w0 at *
  generalize hM : w.heap.size + 1 = M at *
  have HWM : Hid (w.heap.size < M) := hide (by omega)
  clear hM hmm
  go_loopw [5, 11] (fun _ i wr => ∃ j : Nat, j ≤ ds.length ∧ i = .int .i64 j ∧ Hid (Below w.heap.size w wr) ∧ Hid (dupC 0 [] ds = dupC j (ds.take j) (ds.drop j)) ∧ Hid (wr.heap[w.heap.size]? = some (.cells #[.slice ao ds.length cap] 22 (0, 0))) ∧ Hid (wr.heap[M]? = some (.map (ents 0 (ds.take j)).toArray j)) ∧ Hid (wr.heap[M + 1]? = some (.cells #[.map (some M)] 132 (0, 0)))) (fun _ i _ => ds.length - (intOf i).toNat)
  case atStart => exact ⟨0, Nat.zero_le _, rfl, HB3, hide (by simp), HP1, HM, HP3⟩
  case round =>
    obtain ⟨j, hj, rfl, hb, hdup, hp1, hm, hp3⟩ := hrel
    by_cases hlt : j < ds.length
    · have hji : (j : Int) < (ds.length : Int) := by omega
      obtain ⟨g, cap', hv, hSg⟩ := de_addr HD.out (by omega)
      obtain ⟨rfl, rfl⟩ : ao = some ⟨g, 0, none⟩ ∧ cap = cap' := by cases hv; exact ⟨rfl, rfl⟩
      have HDW : Hid (IsDes S wr ds (.slice (some ⟨g, 0, none⟩) ds.length cap)) := hide (IsRow.same HD.out fun c h1 h2 => hb.out.block c h2)
      have r0 : wr.cell? ⟨g, j * 4, none⟩ = some (.string ds[j].name) := de_cell HDW.out rfl hlt (k := 0) rfl (by decide)
      have r1 : wr.cell? ⟨g, j * 4 + 1, none⟩ = some (.int .i64 ds[j].way) := de_cell HDW.out rfl hlt (k := 1) rfl (by decide)
      have r2 : wr.cell? ⟨g, j * 4 + 2, none⟩ = some (.int .i64 ds[j].ty) := de_cell HDW.out rfl hlt (k := 2) rfl (by decide)
      have r3 : wr.cell? ⟨g, j * 4 + 3, none⟩ = some (.int .i64 ds[j].init) := de_cell HDW.out rfl hlt (k := 3) rfl (by decide)
      have HST := hide (dup_step hlt)
      have HTK := hide (List.take_succ_eq_append_getElem hlt)
      generalize ds[j] = d at *
      obtain ⟨nm, way, ty, init⟩ := d
      simp only at r0 r1 r2 r3
      have HO := hide (below_alloc wr (.cells #[.string nm, .int .i64 way, .int .i64 ty, .int .i64 init] 60))
      have HN := hide (blk_new wr (.cells #[.string nm, .int .i64 way, .int .i64 ty, .int .i64 init] 60))
      have HM1 := hide (Below.blk HO.out hm.out)
      have HP31 := hide (Below.blk HO.out hp3.out)
      have HP11 := hide (Below.blk HO.out hp1.out)
      have HLE : Hid ((ds.take j).length = j) := hide (by simp; omega)
      have HFE := hide (find_ents nm (ds.take j) 0 0)
      have HBO := hide (Below.step hb.out HO.out)
      have c3 : (wr.alloc (.cells #[.string nm, .int .i64 way, .int .i64 ty, .int .i64 init] 60)).cell? ⟨M + 1, 0, none⟩ = some (.map (some M)) := by rw [blk_cell HP31.out]; rfl
      clear hv
      cases hf : (ds.take j).findIdx? fun e => e.name.toList == nm.toList with
      | some k =>
        have HF : Hid (Instr.findNow .string (.string nm) (ents 0 (ds.take j)).toArray.toList 0 = some (some (0 + k, .int .i64 ((0 + k : Nat) : Int)))) := hide (by have := HFE.out; rw [hf] at this; exact this)
        have hlk := look_yes HM1.out nm _ _ HF.out
        have HDU : Hid (dupC 0 [] ds = some j) := hide (by rw [hdup.out, HST.out, if_pos ((any_idx _ _).2 ⟨k, hf⟩)])
        clear hf
        rw [HDU.out]
        go_wp2_with fail
        refine (throw_at 9 j _).mono ?_
        rintro e w4 ⟨⟨A, rfl, hA⟩, hb4⟩
        have HA := hide hA
        have HB4 := hide (Below.step HBO.out hb4)
        clear hA hb4
        go_wp2_with fail
        exact ⟨rfl, HB4.out, A, rfl, HA.out⟩
      | none =>
        have HF : Hid (Instr.findNow .string (.string nm) (ents 0 (ds.take j)).toArray.toList 0 = some none) := hide (by have := HFE.out; rw [hf] at this; exact this)
        have hlk := look_no HM1.out nm HF.out
        have hin := ins_any HM1.out nm (.int .i64 j) HF.out
        have HNA : Hid (¬ ((ds.take j).any fun e => e.name.toList == nm.toList) = true) := hide (fun h => by obtain ⟨k, hk⟩ := (any_idx _ _).1 h; rw [hf] at hk; cases hk)
        have HML := hide (blk_lt HM1.out)
        clear hf
        have c0 : (wr.alloc (.cells #[.string nm, .int .i64 way, .int .i64 ty, .int .i64 init] 60)).cell? ⟨wr.heap.size, 0, none⟩ = some (.string nm) := by rw [blk_cell HN.out]; rfl
        go_wp2_with fail
        refine ⟨⟨j + 1, by omega, by go_num, hide (putObj_below HBO.out (Nat.le_of_lt HWM.out)), hide (by rw [hdup.out, HST.out, if_neg HNA.out]), hide ((putObj_other (by have := HWM.out; omega)).trans HP11.out), hide ?_, hide ((putObj_other (by omega)).trans HP31.out)⟩, by simp [intOf]; omega⟩
        rw [putObj_same HML.out, HTK.out, ents_snoc, HLE.out]
        simp
    · have HJ : Hid (j = ds.length) := (by omega : j = ds.length)
      have HDU : Hid (dupC 0 [] ds = none) := hide (by rw [hdup.out, HJ.out, List.drop_length, dupC])
      go_wp2_with fail
      go_ret
      show Found w ds (dupC 0 [] ds) _ _
      rw [HDU.out]
      refine ⟨hb.out, _, rfl, w.heap.size, M + 1, M, 0, cap, ao, S, rfl, hp3.out, ?_, hp1.out, IsRow.same HD.out fun c h1 h2 => hb.out.block c h2⟩
      have := hm.out
      rw [HJ.out, List.take_length] at this
      exact this
end Go.Proofs.YtgncgbngjdcpgaaGreatDoor
