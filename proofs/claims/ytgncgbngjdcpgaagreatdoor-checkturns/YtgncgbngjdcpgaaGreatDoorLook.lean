/-
  CONTRACTS of the look for a name, and of decl.
-/
import Derived.Test.YtgncgbngjdcpgaaGreatDoorFinder
set_option linter.unusedSimpArgs false
set_option linter.unusedVariables false
namespace Go.Proofs.YtgncgbngjdcpgaaGreatDoor
open Go.RowKit

abbrev deV (d : De) : Value := .agg #[.string d.name, .int .i64 d.way, .int .i64 d.ty, .int .i64 d.init]
theorem idx_some {l : List De} {s : ByteArray} {i : Nat} (h : (l.findIdx? fun d => d.name.toList == s.toList) = some i) : ∃ hi : i < l.length, findC l s = some l[i] := by
  obtain ⟨hi, hp, hn⟩ := List.findIdx?_eq_some_iff_getElem.1 h
  refine ⟨hi, ?_⟩
  unfold findC
  rw [List.find?_eq_some_iff_getElem]
  exact ⟨hp, i, hi, rfl, fun j hj => by simpa using hn j hj⟩
theorem idx_none {l : List De} {s : ByteArray} (h : (l.findIdx? fun d => d.name.toList == s.toList) = none) : findC l s = none := by
  unfold findC
  rw [List.findIdx?_eq_none_iff] at h
  rw [List.find?_eq_none]
  intro x hx
  rw [h x hx]
  simp

set_option maxRecDepth 100000 in
set_option maxHeartbeats 3200000 in
theorem find1_yes (nm s : ByteArray) (way ty init i n : Nat) (P1 P3 M g cap : Nat) (w : World) (hp3 : w.heap[P3]? = some (.cells #[.map (some M)] 132 (0, 0))) (hp1 : w.heap[P1]? = some (.cells #[.slice (some ⟨g, 0, none⟩) n cap] 22 (0, 0))) (hi : i < n) (hn : n ≤ 30)
    (hlk : ∀ W : World, Below w.heap.size w W → (Instr.lookup 132 (.map (some M)) (.string s) true).run Tryz.prog W = .ok (.tuple #[.int .i64 i, .bool true]) W)
    (r0 : w.cell? ⟨g, i * 4, none⟩ = some (.string nm)) (r1 : w.cell? ⟨g, i * 4 + 1, none⟩ = some (.int .i64 way)) (r2 : w.cell? ⟨g, i * 4 + 2, none⟩ = some (.int .i64 ty)) (r3 : w.cell? ⟨g, i * 4 + 3, none⟩ = some (.int .i64 init)) :
    Calls Tryz.prog 102 #[.string s, .pointer (some ⟨P3, 0, none⟩), .pointer (some ⟨P1, 0, none⟩)] w fun e w' => e = .returned (.tuple #[.agg #[.string nm, .int .i64 way, .int .i64 ty, .int .i64 init], .bool true]) ∧ Below w.heap.size w w' := by
  have hb := below_alloc w (.cells #[.string ⟨#[]⟩, .int .i64 0, .int .i64 0, .int .i64 0] 60)
  have c3 : (w.alloc (.cells #[.string ⟨#[]⟩, .int .i64 0, .int .i64 0, .int .i64 0] 60)).cell? ⟨P3, 0, none⟩ = some (.map (some M)) := by rw [blk_cell (Below.blk hb hp3)]; rfl
  have c1 : (w.alloc (.cells #[.string ⟨#[]⟩, .int .i64 0, .int .i64 0, .int .i64 0] 60)).cell? ⟨P1, 0, none⟩ = some (.slice (some ⟨g, 0, none⟩) n cap) := by rw [blk_cell (Below.blk hb hp1)]; rfl
  have q0 := fun o => cell_alloc r0 o
  have q1 := fun o => cell_alloc r1 o
  have q2 := fun o => cell_alloc r2 o
  have q3 := fun o => cell_alloc r3 o
  have hl := hlk _ hb
  have hii : (i : Int) < (n : Int) := by omega
  have HBD := hide hb
  clear hlk hp3 hp1 hb r0 r1 r2 r3
  go_enter Tryz.func102, Tryz.ntmps102
  go_wp2_with fail
  refine bodyPost_ret (v := .tuple #[.agg #[.string nm, .int .i64 way, .int .i64 ty, .int .i64 init], .bool true]) (by simp [results, Tryz.results102, go_sem]) rfl ⟨rfl, ?_⟩
  exact below_alloc w _

set_option maxRecDepth 100000 in
set_option maxHeartbeats 3200000 in
theorem find1_no (s : ByteArray) (P1 P3 M : Nat) (w : World) (hp3 : w.heap[P3]? = some (.cells #[.map (some M)] 132 (0, 0)))
    (hlk : ∀ W : World, Below w.heap.size w W → (Instr.lookup 132 (.map (some M)) (.string s) true).run Tryz.prog W = .ok (.tuple #[.int .i64 0, .bool false]) W) :
    Calls Tryz.prog 102 #[.string s, .pointer (some ⟨P3, 0, none⟩), .pointer (some ⟨P1, 0, none⟩)] w fun e w' => e = .returned (.tuple #[.agg #[.string ⟨#[]⟩, .int .i64 0, .int .i64 0, .int .i64 0], .bool false]) ∧ Below w.heap.size w w' := by
  have hb := below_alloc w (.cells #[.string ⟨#[]⟩, .int .i64 0, .int .i64 0, .int .i64 0] 60)
  have c3 : (w.alloc (.cells #[.string ⟨#[]⟩, .int .i64 0, .int .i64 0, .int .i64 0] 60)).cell? ⟨P3, 0, none⟩ = some (.map (some M)) := by rw [blk_cell (Below.blk hb hp3)]; rfl
  have hl := hlk _ hb
  clear hlk hp3 hb
  go_enter Tryz.func102, Tryz.ntmps102
  go_wp2_with fail
  refine bodyPost_ret (v := .tuple #[.agg #[.string ⟨#[]⟩, .int .i64 0, .int .i64 0, .int .i64 0], .bool false]) (by simp [results, Tryz.results102, go_sem]) rfl ⟨rfl, ?_⟩
  exact below_alloc w _

/-- what a look for a name answers -/
def Looked (o : Option De) (e : Ending) : Prop := match o with | some d => e = .returned (.tuple #[deV d, .bool true]) | none => e = .returned (.tuple #[.agg #[.string ⟨#[]⟩, .int .i64 0, .int .i64 0, .int .i64 0], .bool false])
theorem find1_at {w : World} {LV : Value} {ds : List De} (hl : ds.length ≤ 30) (h : Fd w LV ds) (s : ByteArray) : ∃ P1 P3 : Nat, LV = .func (.func 102) #[] #[.pointer (some ⟨P3, 0, none⟩), .pointer (some ⟨P1, 0, none⟩)] ∧
    ∀ W : World, Below w.heap.size w W → Calls Tryz.prog 102 #[.string s, .pointer (some ⟨P3, 0, none⟩), .pointer (some ⟨P1, 0, none⟩)] W fun e w' => Looked (findC ds s) e ∧ Below W.heap.size W w' := by
  obtain ⟨P1, P3, M, g0, cap, ao, S, e, h1, h2, h3, h4⟩ := h
  refine ⟨P1, P3, e, fun W hb => ?_⟩
  have k1 := Below.blk hb h1
  have k2 := Below.blk hb h2
  have k3 := Below.blk hb h3
  have k4 : IsDes S W ds (.slice ao ds.length cap) := IsRow.same h4 fun c _ h => hb.block c h
  have hfe := find_ents s ds 0 0
  cases hf : ds.findIdx? fun d => d.name.toList == s.toList with
  | none =>
    rw [hf] at hfe
    rw [idx_none hf]
    exact find1_no s P1 P3 M W k1 fun W' hb' => look_no (Below.blk hb' k2) s (by simpa using hfe)
  | some i =>
    rw [hf] at hfe
    obtain ⟨hi, hfc⟩ := idx_some hf
    rw [hfc]
    obtain ⟨g, cap', hv, _⟩ := de_addr k4 (by omega)
    obtain ⟨rfl, rfl⟩ : ao = some ⟨g, 0, none⟩ ∧ cap = cap' := by cases hv; exact ⟨rfl, rfl⟩
    refine find1_yes ds[i].name s ds[i].way ds[i].ty ds[i].init i ds.length P1 P3 M g cap W k1 k3 hi hl (fun W' hb' => ?_) (de_cell k4 rfl hi (k := 0) rfl (by decide)) (de_cell k4 rfl hi (k := 1) rfl (by decide)) (de_cell k4 rfl hi (k := 2) rfl (by decide)) (de_cell k4 rfl hi (k := 3) rfl (by decide))
    have := look_yes (Below.blk hb' k2) s _ _ (by simpa using hfe)
    simpa using this

/-- what a call of check's comes to -/
def Cks {α : Type} (w : World) (rep : Value → α → Prop) (r : Ck α) (e : Ending) (w' : World) : Prop := Below w.heap.size w w' ∧ match r with | .bad er p => Thrown er p e w' | .ok a => ∃ v, e = .returned v ∧ rep v a
theorem Cks.cases {α : Type} {w : World} {rep : Value → α → Prop} {r : Ck α} {e : Ending} {w' : World} (h : Cks w rep r e w') :
    (∃ (er : Int) (p A : Nat), r = .bad er p ∧ e = .panicked [{ v := .iface 140 (.pointer (some ⟨A, 0, none⟩)), recovered := false }] ∧ w'.heap[A]? = some (.cells #[.int .i64 er, .int .i64 p] 148 (0, 0)) ∧ Below w.heap.size w w') ∨
    ∃ (a : α) (v : Value), r = .ok a ∧ e = .returned v ∧ rep v a ∧ Below w.heap.size w w' := by
  obtain ⟨hb, h⟩ := h
  cases r with
  | bad er p => obtain ⟨A, he, hA⟩ := h; exact .inl ⟨er, p, A, rfl, he, hA, hb⟩
  | ok a => obtain ⟨v, he, hv⟩ := h; exact .inr ⟨a, v, rfl, he, hv, hb⟩
theorem Cks.bad {α : Type} {w : World} {rep : Value → α → Prop} {r : Ck α} {w' : World} {er : Int} {p A : Nat} (hr : r = .bad er p) (hb : Below w.heap.size w w') (hA : w'.heap[A]? = some (.cells #[.int .i64 er, .int .i64 p] 148 (0, 0))) :
    Cks w rep r (.panicked [{ v := .iface 140 (.pointer (some ⟨A, 0, none⟩)), recovered := false }]) w' := by
  subst hr; exact ⟨hb, A, rfl, hA⟩
theorem Cks.ok {α : Type} {w : World} {rep : Value → α → Prop} {r : Ck α} {w' : World} {a : α} {v : Value} (hr : r = .ok a) (hb : Below w.heap.size w w') (hv : rep v a) : Cks w rep r (.returned v) w' := by
  subst hr; exact ⟨hb, v, rfl, hv⟩

/-- a looker -/
abbrev lkV (LV : Value) : Value := .agg #[LV]

set_option maxRecDepth 100000 in
set_option maxHeartbeats 6400000 in
theorem ldecl_at {w : World} {LV : Value} {ds : List De} (hl : ds.length ≤ 30) (h : Fd w LV ds) (s : ByteArray) (p : Nat) :
    Calls Tryz.prog 134 #[lkV LV, .string s, .int .i64 p] w (Cks w (fun v d => v = deV d) (declC (findC ds) s p)) := by
  obtain ⟨P1, P3, rfl, hfi⟩ := find1_at hl h s
  have HF := hide hfi
  have HD : Hid (declC (findC ds) s p = match findC ds s with | none => .bad 7 p | some d => .ok d) := rfl
  clear hfi h
  have HB2 : Hid (Below w.heap.size w ((w.alloc (.cells #[(.func (.func 102) #[] #[.pointer (some ⟨P3, 0, none⟩), .pointer (some ⟨P1, 0, none⟩)])] 122)).alloc (.cells #[.string ⟨#[]⟩, .int .i64 0, .int .i64 0, .int .i64 0] 60))) := hide ((below_alloc w _).alloc (by simp) _)
  have HN2 : Hid (((w.alloc (.cells #[(.func (.func 102) #[] #[.pointer (some ⟨P3, 0, none⟩), .pointer (some ⟨P1, 0, none⟩)])] 122)).alloc (.cells #[.string ⟨#[]⟩, .int .i64 0, .int .i64 0, .int .i64 0] 60)).heap[w.heap.size + 1]? = some (.cells #[.string ⟨#[]⟩, .int .i64 0, .int .i64 0, .int .i64 0] 60 (0, 0))) := hide (by
    have h := blk_new (w.alloc (.cells #[(.func (.func 102) #[] #[.pointer (some ⟨P3, 0, none⟩), .pointer (some ⟨P1, 0, none⟩)])] 122)) (.cells #[.string ⟨#[]⟩, .int .i64 0, .int .i64 0, .int .i64 0] 60)
    rw [show (w.alloc (.cells #[(.func (.func 102) #[] #[.pointer (some ⟨P3, 0, none⟩), .pointer (some ⟨P1, 0, none⟩)])] 122)).heap.size = w.heap.size + 1 by simp] at h
    exact h)
  go_enter Tryz.func134, Tryz.ntmps134
  go_wp2_with fail
  generalize ((w.alloc (.cells #[(.func (.func 102) #[] #[.pointer (some ⟨P3, 0, none⟩), .pointer (some ⟨P1, 0, none⟩)])] 122)).alloc (.cells #[.string ⟨#[]⟩, .int .i64 0, .int .i64 0, .int .i64 0] 60)) = w2 at *
  refine (HF.out w2 HB2.out).mono ?_
  rintro e w3 ⟨hlk, hb3⟩
  have HB3 := hide (Below.step HB2.out hb3)
  have HN3 := hide (Below.blk hb3 HN2.out)
  clear hb3
  cases hf : findC ds s with
  | none =>
    rw [hf] at hlk
    have hlk : e = _ := hlk
    subst hlk
    have HR : Hid (declC (findC ds) s p = .bad 7 p) := hide (by rw [HD.out, hf])
    clear hf
    go_wp2_with fail
    refine (throw_at 7 p _).mono ?_
    rintro e w4 ⟨⟨A, rfl, hA⟩, hb4⟩
    have HA := hide hA
    have HB4 := hide (Below.step (Below.step HB3.out (below_alloc _ _)) hb4)
    clear hA hb4
    go_wp2_with fail
    exact ⟨rfl, Cks.bad HR.out HB4.out HA.out⟩
  | some d =>
    rw [hf] at hlk
    have hlk : e = _ := hlk
    subst hlk
    have HR : Hid (declC (findC ds) s p = .ok d) := hide (by rw [HD.out, hf])
    obtain ⟨nm, way, ty, init⟩ := d
    clear hf
    have HB4 := hide (below_alloc w3 (.cells #[.string nm, .int .i64 way, .int .i64 ty, .int .i64 init] 60))
    have HN4 := hide (Below.blk HB4.out HN3.out)
    have HLT := hide (blk_lt HN3.out)
    have hne : ¬ w.heap.size + 1 = w3.heap.size := by have := HLT.out; omega
    have hne2 : ¬ w3.heap.size = w.heap.size + 1 := by have := HLT.out; omega
    have e0 : (w3.alloc (.cells #[.string nm, .int .i64 way, .int .i64 ty, .int .i64 init] 60)).cell? ⟨w.heap.size + 1, 0, none⟩ = some (.string ⟨#[]⟩) := by rw [blk_cell HN4.out]; rfl
    have e1 : (w3.alloc (.cells #[.string nm, .int .i64 way, .int .i64 ty, .int .i64 init] 60)).cell? ⟨w.heap.size + 1, 1, none⟩ = some (.int .i64 0) := by rw [blk_cell HN4.out]; rfl
    have e2 : (w3.alloc (.cells #[.string nm, .int .i64 way, .int .i64 ty, .int .i64 init] 60)).cell? ⟨w.heap.size + 1, 2, none⟩ = some (.int .i64 0) := by rw [blk_cell HN4.out]; rfl
    have e3 : (w3.alloc (.cells #[.string nm, .int .i64 way, .int .i64 ty, .int .i64 init] 60)).cell? ⟨w.heap.size + 1, 3, none⟩ = some (.int .i64 0) := by rw [blk_cell HN4.out]; rfl
    have ef : ∀ i, (w3.alloc (.cells #[.string nm, .int .i64 way, .int .i64 ty, .int .i64 init] 60)).frozen? ⟨w.heap.size + 1, i, none⟩ = false := blk_frozen HN4.out
    go_wp2_with fail
    refine bodyPost_ret (v := .agg #[.string nm, .int .i64 way, .int .i64 ty, .int .i64 init]) (by simp [results, Tryz.results134, go_sem, e0, e1, e2, e3]) rfl (Cks.ok HR.out ?_ rfl)
    exact ((((Below.step HB3.out HB4.out).setCell (Nat.le_succ _) _).setCell (Nat.le_succ _) _).setCell (Nat.le_succ _) _).setCell (Nat.le_succ _) _
end Go.Proofs.YtgncgbngjdcpgaaGreatDoor
