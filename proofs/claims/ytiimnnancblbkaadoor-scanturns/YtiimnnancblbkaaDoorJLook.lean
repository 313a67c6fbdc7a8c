/-
  CONTRACTS of the look for a name, and of decl.
  CONTRACTS of name, field, two and kind: of which type an expression is.
  CONTRACTS of field and two.
  CONTRACT of kind.
-/
import Derived.Test.YtiimnnancblbkaaDoorJChk
import Derived.Deep.RegionHeld3
set_option linter.unusedSimpArgs false
set_option linter.unusedVariables false
namespace Go.Proofs.YtiimnnancblbkaaDoor
open Go.RowKit

abbrev deV (d : De) : Value := .agg #[.string d.name, .int .i64 d.way, .int .i64 d.ty, .int .i64 d.init]
theorem idx_some {l : List De} {s : ByteArray} {i : Nat} (h : (l.findIdx? fun d => d.name.toList == s.toList) = some i) : ∃ hi : i < l.length, findC l s = some l[i] := by
  obtain ⟨hi, hp, hn⟩ := List.findIdx?_eq_some_iff_getElem.1 h
  refine ⟨hi, ?_⟩
  unfold findC
  rw [List.find?_eq_some_iff_getElem]
  exact ⟨hp, i, hi, rfl, fun j hj => by simpa using hn j hj⟩
theorem idx_none {l : List De} {s : ByteArray} (h : (l.findIdx? fun d => d.name.toList == s.toList) = none) : findC l s = none := by
  unfold findC
  rw [List.findIdx?_eq_none_iff] at h
  rw [List.find?_eq_none]
  intro x hx
  rw [h x hx]
  simp

set_option maxRecDepth 100000 in
set_option maxHeartbeats 3200000 in
theorem find1_yes (nm s : ByteArray) (way ty init i n : Nat) (P1 P3 M g cap : Nat) (w : World) (hp3 : w.heap[P3]? = some (.cells #[.map (some M)] 92 (0, 0))) (hp1 : w.heap[P1]? = some (.cells #[.slice (some ⟨g, 0, none⟩) n cap] 24 (0, 0))) (hi : i < n) (hn : n ≤ 30)
    (hlk : ∀ W : World, Below w.heap.size w W → (Instr.lookup 92 (.map (some M)) (.string s) true).run Tryd.prog W = .ok (.tuple #[.int .i64 i, .bool true]) W)
    (r0 : w.cell? ⟨g, i * 4, none⟩ = some (.string nm)) (r1 : w.cell? ⟨g, i * 4 + 1, none⟩ = some (.int .i64 way)) (r2 : w.cell? ⟨g, i * 4 + 2, none⟩ = some (.int .i64 ty)) (r3 : w.cell? ⟨g, i * 4 + 3, none⟩ = some (.int .i64 init)) :
    Calls Tryd.prog 37 #[.string s, .pointer (some ⟨P3, 0, none⟩), .pointer (some ⟨P1, 0, none⟩)] w fun e w' => e = .returned (.tuple #[.agg #[.string nm, .int .i64 way, .int .i64 ty, .int .i64 init], .bool true]) ∧ Below w.heap.size w w' := by
  have hb := below_alloc w (.cells #[.string ⟨#[]⟩, .int .i64 0, .int .i64 0, .int .i64 0] 32)
  have c3 : (w.alloc (.cells #[.string ⟨#[]⟩, .int .i64 0, .int .i64 0, .int .i64 0] 32)).cell? ⟨P3, 0, none⟩ = some (.map (some M)) := by rw [blk_cell (Below.blk hb hp3)]; rfl
  have c1 : (w.alloc (.cells #[.string ⟨#[]⟩, .int .i64 0, .int .i64 0, .int .i64 0] 32)).cell? ⟨P1, 0, none⟩ = some (.slice (some ⟨g, 0, none⟩) n cap) := by rw [blk_cell (Below.blk hb hp1)]; rfl
  have q0 := fun o => cell_alloc r0 o
  have q1 := fun o => cell_alloc r1 o
  have q2 := fun o => cell_alloc r2 o
  have q3 := fun o => cell_alloc r3 o
  have hl := hlk _ hb
  have hii : (i : Int) < (n : Int) := by omega
  have HBD := hide hb
  clear hlk hp3 hp1 hb r0 r1 r2 r3
  go_enter Tryd.func37, Tryd.ntmps37
  go_wp2_with fail
  refine bodyPost_ret (v := .tuple #[.agg #[.string nm, .int .i64 way, .int .i64 ty, .int .i64 init], .bool true]) (by simp [results, Tryd.results37, go_sem]) rfl ⟨rfl, ?_⟩
  exact below_alloc w _

set_option maxRecDepth 100000 in
set_option maxHeartbeats 3200000 in
theorem find1_no (s : ByteArray) (P1 P3 M : Nat) (w : World) (hp3 : w.heap[P3]? = some (.cells #[.map (some M)] 92 (0, 0)))
    (hlk : ∀ W : World, Below w.heap.size w W → (Instr.lookup 92 (.map (some M)) (.string s) true).run Tryd.prog W = .ok (.tuple #[.int .i64 0, .bool false]) W) :
    Calls Tryd.prog 37 #[.string s, .pointer (some ⟨P3, 0, none⟩), .pointer (some ⟨P1, 0, none⟩)] w fun e w' => e = .returned (.tuple #[.agg #[.string ⟨#[]⟩, .int .i64 0, .int .i64 0, .int .i64 0], .bool false]) ∧ Below w.heap.size w w' := by
  have hb := below_alloc w (.cells #[.string ⟨#[]⟩, .int .i64 0, .int .i64 0, .int .i64 0] 32)
  have c3 : (w.alloc (.cells #[.string ⟨#[]⟩, .int .i64 0, .int .i64 0, .int .i64 0] 32)).cell? ⟨P3, 0, none⟩ = some (.map (some M)) := by rw [blk_cell (Below.blk hb hp3)]; rfl
  have hl := hlk _ hb
  clear hlk hp3 hb
  go_enter Tryd.func37, Tryd.ntmps37
  go_wp2_with fail
  refine bodyPost_ret (v := .tuple #[.agg #[.string ⟨#[]⟩, .int .i64 0, .int .i64 0, .int .i64 0], .bool false]) (by simp [results, Tryd.results37, go_sem]) rfl ⟨rfl, ?_⟩
  exact below_alloc w _

/-- what a look for a name answers -/
def Looked (o : Option De) (e : Ending) : Prop := match o with | some d => e = .returned (.tuple #[deV d, .bool true]) | none => e = .returned (.tuple #[.agg #[.string ⟨#[]⟩, .int .i64 0, .int .i64 0, .int .i64 0], .bool false])
theorem find1_at {w : World} {LV : Value} {ds : List De} (hl : ds.length ≤ 30) (h : Fd w LV ds) (s : ByteArray) : ∃ P1 P3 : Nat, LV = .func (.func 37) #[] #[.pointer (some ⟨P3, 0, none⟩), .pointer (some ⟨P1, 0, none⟩)] ∧
    ∀ W : World, Below w.heap.size w W → Calls Tryd.prog 37 #[.string s, .pointer (some ⟨P3, 0, none⟩), .pointer (some ⟨P1, 0, none⟩)] W fun e w' => Looked (findC ds s) e ∧ Below W.heap.size W w' := by
  obtain ⟨P1, P3, M, g0, cap, ao, S, e, h1, h2, h3, h4⟩ := h
  refine ⟨P1, P3, e, fun W hb => ?_⟩
  have k1 := Below.blk hb h1
  have k2 := Below.blk hb h2
  have k3 := Below.blk hb h3
  have k4 : IsDes S W ds (.slice ao ds.length cap) := IsRow.same h4 fun c _ h => hb.block c h
  have hfe := find_ents s ds 0 0
  cases hf : ds.findIdx? fun d => d.name.toList == s.toList with
  | none =>
    rw [hf] at hfe
    rw [idx_none hf]
    exact find1_no s P1 P3 M W k1 fun W' hb' => look_no (Below.blk hb' k2) s (by simpa using hfe)
  | some i =>
    rw [hf] at hfe
    obtain ⟨hi, hfc⟩ := idx_some hf
    rw [hfc]
    obtain ⟨g, cap', hv, _⟩ := de_addr k4 (by omega)
    obtain ⟨rfl, rfl⟩ : ao = some ⟨g, 0, none⟩ ∧ cap = cap' := by cases hv; exact ⟨rfl, rfl⟩
    refine find1_yes ds[i].name s ds[i].way ds[i].ty ds[i].init i ds.length P1 P3 M g cap W k1 k3 hi hl (fun W' hb' => ?_) (de_cell k4 rfl hi (k := 0) rfl (by decide)) (de_cell k4 rfl hi (k := 1) rfl (by decide)) (de_cell k4 rfl hi (k := 2) rfl (by decide)) (de_cell k4 rfl hi (k := 3) rfl (by decide))
    have := look_yes (Below.blk hb' k2) s _ _ (by simpa using hfe)
    simpa using this

/-- what a call of check's comes to -/
def Cks {α : Type} (w : World) (rep : Value → α → Prop) (r : Ck α) (e : Ending) (w' : World) : Prop := Below w.heap.size w w' ∧ match r with | .bad er p => Thrown er p e w' | .ok a => ∃ v, e = .returned v ∧ rep v a
theorem Cks.cases {α : Type} {w : World} {rep : Value → α → Prop} {r : Ck α} {e : Ending} {w' : World} (h : Cks w rep r e w') :
    (∃ (er : Int) (p A : Nat), r = .bad er p ∧ e = .panicked [{ v := .iface 78 (.pointer (some ⟨A, 0, none⟩)), recovered := false }] ∧ w'.heap[A]? = some (.cells #[.int .i64 er, .int .i64 p] 107 (0, 0)) ∧ Below w.heap.size w w') ∨
    ∃ (a : α) (v : Value), r = .ok a ∧ e = .returned v ∧ rep v a ∧ Below w.heap.size w w' := by
  obtain ⟨hb, h⟩ := h
  cases r with
  | bad er p => obtain ⟨A, he, hA⟩ := h; exact .inl ⟨er, p, A, rfl, he, hA, hb⟩
  | ok a => obtain ⟨v, he, hv⟩ := h; exact .inr ⟨a, v, rfl, he, hv, hb⟩
theorem Cks.bad {α : Type} {w : World} {rep : Value → α → Prop} {r : Ck α} {w' : World} {er : Int} {p A : Nat} (hr : r = .bad er p) (hb : Below w.heap.size w w') (hA : w'.heap[A]? = some (.cells #[.int .i64 er, .int .i64 p] 107 (0, 0))) :
    Cks w rep r (.panicked [{ v := .iface 78 (.pointer (some ⟨A, 0, none⟩)), recovered := false }]) w' := by
  subst hr; exact ⟨hb, A, rfl, hA⟩
theorem Cks.ok {α : Type} {w : World} {rep : Value → α → Prop} {r : Ck α} {w' : World} {a : α} {v : Value} (hr : r = .ok a) (hb : Below w.heap.size w w') (hv : rep v a) : Cks w rep r (.returned v) w' := by
  subst hr; exact ⟨hb, v, rfl, hv⟩

/-- a looker -/
abbrev lkV (LV : Value) : Value := .agg #[LV]

set_option maxRecDepth 100000 in
set_option maxHeartbeats 6400000 in
theorem ldecl_at {w : World} {LV : Value} {ds : List De} (hl : ds.length ≤ 30) (h : Fd w LV ds) (s : ByteArray) (p : Nat) :
    Calls Tryd.prog 58 #[lkV LV, .string s, .int .i64 p] w (Cks w (fun v d => v = deV d) (declC (findC ds) s p)) := by
  obtain ⟨P1, P3, rfl, hfi⟩ := find1_at hl h s
  have HF := hide hfi
  have HD : Hid (declC (findC ds) s p = match findC ds s with | none => .bad 7 p | some d => .ok d) := rfl
  clear hfi h
  have HB2 : Hid (Below w.heap.size w ((w.alloc (.cells #[(.func (.func 37) #[] #[.pointer (some ⟨P3, 0, none⟩), .pointer (some ⟨P1, 0, none⟩)])] 67)).alloc (.cells #[.string ⟨#[]⟩, .int .i64 0, .int .i64 0, .int .i64 0] 32))) := hide ((below_alloc w _).alloc (by simp) _)
  have HN2 : Hid (((w.alloc (.cells #[(.func (.func 37) #[] #[.pointer (some ⟨P3, 0, none⟩), .pointer (some ⟨P1, 0, none⟩)])] 67)).alloc (.cells #[.string ⟨#[]⟩, .int .i64 0, .int .i64 0, .int .i64 0] 32)).heap[w.heap.size + 1]? = some (.cells #[.string ⟨#[]⟩, .int .i64 0, .int .i64 0, .int .i64 0] 32 (0, 0))) := hide (by
    have h := blk_new (w.alloc (.cells #[(.func (.func 37) #[] #[.pointer (some ⟨P3, 0, none⟩), .pointer (some ⟨P1, 0, none⟩)])] 67)) (.cells #[.string ⟨#[]⟩, .int .i64 0, .int .i64 0, .int .i64 0] 32)
    rw [show (w.alloc (.cells #[(.func (.func 37) #[] #[.pointer (some ⟨P3, 0, none⟩), .pointer (some ⟨P1, 0, none⟩)])] 67)).heap.size = w.heap.size + 1 by simp] at h
    exact h)
  go_enter Tryd.func58, Tryd.ntmps58
  go_wp2_with fail
  generalize ((w.alloc (.cells #[(.func (.func 37) #[] #[.pointer (some ⟨P3, 0, none⟩), .pointer (some ⟨P1, 0, none⟩)])] 67)).alloc (.cells #[.string ⟨#[]⟩, .int .i64 0, .int .i64 0, .int .i64 0] 32)) = w2 at *
  refine (HF.out w2 HB2.out).mono ?_
  rintro e w3 ⟨hlk, hb3⟩
  have HB3 := hide (Below.step HB2.out hb3)
  have HN3 := hide (Below.blk hb3 HN2.out)
  clear hb3
  cases hf : findC ds s with
  | none =>
    rw [hf] at hlk
    have hlk : e = _ := hlk
    subst hlk
    have HR : Hid (declC (findC ds) s p = .bad 7 p) := hide (by rw [HD.out, hf])
    clear hf
    go_wp2_with fail
    refine (throw_at 7 p _).mono ?_
    rintro e w4 ⟨⟨A, rfl, hA⟩, hb4⟩
    have HA := hide hA
    have HB4 := hide (Below.step (Below.step HB3.out (below_alloc _ _)) hb4)
    clear hA hb4
    go_wp2_with fail
    exact ⟨rfl, Cks.bad HR.out HB4.out HA.out⟩
  | some d =>
    rw [hf] at hlk
    have hlk : e = _ := hlk
    subst hlk
    have HR : Hid (declC (findC ds) s p = .ok d) := hide (by rw [HD.out, hf])
    obtain ⟨nm, way, ty, init⟩ := d
    clear hf
    have HB4 := hide (below_alloc w3 (.cells #[.string nm, .int .i64 way, .int .i64 ty, .int .i64 init] 32))
    have HN4 := hide (Below.blk HB4.out HN3.out)
    have HLT := hide (blk_lt HN3.out)
    have hne : ¬ w.heap.size + 1 = w3.heap.size := by have := HLT.out; omega
    have hne2 : ¬ w3.heap.size = w.heap.size + 1 := by have := HLT.out; omega
    have e0 : (w3.alloc (.cells #[.string nm, .int .i64 way, .int .i64 ty, .int .i64 init] 32)).cell? ⟨w.heap.size + 1, 0, none⟩ = some (.string ⟨#[]⟩) := by rw [blk_cell HN4.out]; rfl
    have e1 : (w3.alloc (.cells #[.string nm, .int .i64 way, .int .i64 ty, .int .i64 init] 32)).cell? ⟨w.heap.size + 1, 1, none⟩ = some (.int .i64 0) := by rw [blk_cell HN4.out]; rfl
    have e2 : (w3.alloc (.cells #[.string nm, .int .i64 way, .int .i64 ty, .int .i64 init] 32)).cell? ⟨w.heap.size + 1, 2, none⟩ = some (.int .i64 0) := by rw [blk_cell HN4.out]; rfl
    have e3 : (w3.alloc (.cells #[.string nm, .int .i64 way, .int .i64 ty, .int .i64 init] 32)).cell? ⟨w.heap.size + 1, 3, none⟩ = some (.int .i64 0) := by rw [blk_cell HN4.out]; rfl
    have ef : ∀ i, (w3.alloc (.cells #[.string nm, .int .i64 way, .int .i64 ty, .int .i64 init] 32)).frozen? ⟨w.heap.size + 1, i, none⟩ = false := blk_frozen HN4.out
    go_wp2_with fail
    refine bodyPost_ret (v := .agg #[.string nm, .int .i64 way, .int .i64 ty, .int .i64 init]) (by simp [results, Tryd.results58, go_sem, e0, e1, e2, e3]) rfl (Cks.ok HR.out ?_ rfl)
    exact ((((Below.step HB3.out HB4.out).setCell (Nat.le_succ _) _).setCell (Nat.le_succ _) _).setCell (Nat.le_succ _) _).setCell (Nat.le_succ _) _
end Go.Proofs.YtiimnnancblbkaaDoor
set_option linter.unusedSimpArgs false
set_option linter.unusedVariables false
namespace Go.Proofs.YtiimnnancblbkaaDoor
open Go.RowKit

abbrev TyRep : Value → Nat → Prop := fun v t => v = .int .i64 (t : Nat)
theorem Fd.fn {w : World} {LV : Value} {ds : List De} (h : Fd w LV ds) : ∃ F cs, LV = .func F #[] cs := by
  obtain ⟨P1, P3, M, g0, cap, ao, S, e, _⟩ := h
  exact ⟨_, _, e⟩
/-- the facts that a look at an expression reads -/
def Rdx (B X a b c : Nat) (va vb vc LV : Value) (W : World) : Prop := W.cell? ⟨B, 0, none⟩ = some LV ∧ W.cell? ⟨X, a, none⟩ = some va ∧ W.cell? ⟨X, b, none⟩ = some vb ∧ W.cell? ⟨X, c, none⟩ = some vc
theorem Rdx.below {B X a b c : Nat} {va vb vc LV : Value} {W W' : World} (h : Rdx B X a b c va vb vc LV W) (hb : Below W.heap.size W W') : Rdx B X a b c va vb vc LV W' :=
  ⟨(hb.cell (cell_lt h.1)).trans h.1, (hb.cell (cell_lt h.2.1)).trans h.2.1, (hb.cell (cell_lt h.2.2.1)).trans h.2.2.1, (hb.cell (cell_lt h.2.2.2)).trans h.2.2.2⟩

set_option maxRecDepth 100000 in
set_option maxHeartbeats 6400000 in
theorem lname_bad {w : World} {LV : Value} {ds : List De} (hl : ds.length ≤ 30) (h : Fd w LV ds) (s : ByteArray) (p : Nat) (X : Nat) (hX : w.heap[X]? = some (.cells #[.int .i64 2, .int .i64 p, .int .i64 0, .int .i64 0, .string s, .string ⟨#[]⟩, .string ⟨#[]⟩, .pointer none, .pointer none] 50 (0, 0))) (er : Int) (q : Nat) (hdc : declC (findC ds) s p = .bad er q) :
    Calls Tryd.prog 75 #[lkV LV, .pointer (some ⟨X, 0, none⟩)] w (Cks w TyRep (kindC (findC ds) (.name p s))) := by
  have HR : Hid (kindC (findC ds) (.name p s) = .bad er q) := hide (by simp only [kindC, hdc, Ck.bind])
  have HB := hide (below_alloc w (.cells #[LV] 67))
  have HN := hide (blk_new w (.cells #[LV] 67))
  have HX1 := hide (Below.blk HB.out hX)
  have HF1 := hide (h.below HB.out)
  obtain ⟨F, cs, rfl⟩ := h.fn
  clear h hX
  go_enter Tryd.func75, Tryd.ntmps75
  go_wp2_with fail
  generalize (w.alloc (.cells #[.func F #[] cs] 67)) = w1 at *
  have HS : Hid (Rdx w.heap.size X 4 1 1 (.string s) (.int .i64 p) (.int .i64 p) (.func F #[] cs) w1) := hide ⟨by rw [blk_cell HN.out]; rfl, by rw [blk_cell HX1.out]; rfl, by rw [blk_cell HX1.out]; rfl, by rw [blk_cell HX1.out]; rfl⟩
  have HBD := hide (show Below w1.heap.size w1 w1.drew from (Below.refl _ _).drew)
  have HLD : Hid (∀ W, Below w1.heap.size w1 W → Calls Tryd.prog 58 #[.agg #[.func F #[] cs], .string s, .int .i64 p] W fun e w' => Thrown er q e w' ∧ Below W.heap.size W w') := hide (fun W hb => (ldecl_at hl (HF1.out.below hb) s p).mono fun e w' h => by
    have h2 := h.2
    rw [hdc] at h2
    exact ⟨h2, h.1⟩)
  clear hdc
  refine wp_region_held_drew (S := Rdx w.heap.size X 4 1 1 (.string s) (.int .i64 p) (.int .i64 p) (.func F #[] cs)) (by kernel_rfl) (HS.out.below HBD.out) (fun _ => ?_)
  refine wpAnyH_take (i := 0) (oi := ⟨some 6, _, _, _, _, _⟩) (v := .agg #[.func F #[] cs]) rfl (by kernel_rfl) (by kernel_rfl) (by kernel_rfl) (fun _ _ _ h => h) (Or.inl ⟨by rfl, fun W hS => by obtain ⟨s0, s1, s2, s3⟩ := hS; go_simp⟩) (HS.out.below HBD.out) ?_
  simp only [Act.put, List.setIfInBounds_toArray, List.set_cons_zero, List.set_cons_succ]
  refine wpAnyH_take (i := 1) (oi := ⟨some 7, _, _, _, _, _⟩) (v := (.pointer (some ⟨X, 0, none⟩))) rfl (by kernel_rfl) (by kernel_rfl) (by kernel_rfl) (fun _ _ _ h => h) (Or.inl ⟨by rfl, fun W hS => by obtain ⟨s0, s1, s2, s3⟩ := hS; go_simp⟩) (HS.out.below HBD.out) ?_
  simp only [Act.put, List.setIfInBounds_toArray, List.set_cons_zero, List.set_cons_succ]
  refine wpAnyH_take (i := 2) (oi := ⟨some 8, _, _, _, _, _⟩) (v := (.pointer (some ⟨X, 0, none⟩))) rfl (by kernel_rfl) (by kernel_rfl) (by kernel_rfl) (fun _ _ _ h => h) (Or.inl ⟨by rfl, fun W hS => by obtain ⟨s0, s1, s2, s3⟩ := hS; go_simp⟩) (HS.out.below HBD.out) ?_
  simp only [Act.put, List.setIfInBounds_toArray, List.set_cons_zero, List.set_cons_succ]
  refine wpAnyH_take (i := 3) (oi := ⟨some 9, _, _, _, _, _⟩) (v := .pointer (some ⟨X, 4, none⟩)) rfl (by kernel_rfl) (by kernel_rfl) (by kernel_rfl) (fun _ _ _ h => h) (Or.inl ⟨by rfl, fun W hS => by obtain ⟨s0, s1, s2, s3⟩ := hS; go_simp⟩) (HS.out.below HBD.out) ?_
  simp only [Act.put, List.setIfInBounds_toArray, List.set_cons_zero, List.set_cons_succ]
  refine wpAnyH_take (i := 4) (oi := ⟨some 10, _, _, _, _, _⟩) (v := .string s) rfl (by kernel_rfl) (by kernel_rfl) (by kernel_rfl) (fun _ _ _ h => h) (Or.inl ⟨by rfl, fun W hS => by obtain ⟨s0, s1, s2, s3⟩ := hS; go_simp⟩) (HS.out.below HBD.out) ?_
  simp only [Act.put, List.setIfInBounds_toArray, List.set_cons_zero, List.set_cons_succ]
  refine wpAnyH_take (i := 5) (oi := ⟨some 11, _, _, _, _, _⟩) (v := (.pointer (some ⟨X, 0, none⟩))) rfl (by kernel_rfl) (by kernel_rfl) (by kernel_rfl) (fun _ _ _ h => h) (Or.inl ⟨by rfl, fun W hS => by obtain ⟨s0, s1, s2, s3⟩ := hS; go_simp⟩) (HS.out.below HBD.out) ?_
  simp only [Act.put, List.setIfInBounds_toArray, List.set_cons_zero, List.set_cons_succ]
  refine wpAnyH_take (i := 6) (oi := ⟨some 12, _, _, _, _, _⟩) (v := (.pointer (some ⟨X, 0, none⟩))) rfl (by kernel_rfl) (by kernel_rfl) (by kernel_rfl) (fun _ _ _ h => h) (Or.inl ⟨by rfl, fun W hS => by obtain ⟨s0, s1, s2, s3⟩ := hS; go_simp⟩) (HS.out.below HBD.out) ?_
  simp only [Act.put, List.setIfInBounds_toArray, List.set_cons_zero, List.set_cons_succ]
  refine wpAnyH_take (i := 7) (oi := ⟨some 13, _, _, _, _, _⟩) (v := .pointer (some ⟨X, 1, none⟩)) rfl (by kernel_rfl) (by kernel_rfl) (by kernel_rfl) (fun _ _ _ h => h) (Or.inl ⟨by rfl, fun W hS => by obtain ⟨s0, s1, s2, s3⟩ := hS; go_simp⟩) (HS.out.below HBD.out) ?_
  simp only [Act.put, List.setIfInBounds_toArray, List.set_cons_zero, List.set_cons_succ]
  refine wpAnyH_take (i := 8) (oi := ⟨some 14, _, _, _, _, _⟩) (v := .int .i64 p) rfl (by kernel_rfl) (by kernel_rfl) (by kernel_rfl) (fun _ _ _ h => h) (Or.inl ⟨by rfl, fun W hS => by obtain ⟨s0, s1, s2, s3⟩ := hS; go_simp⟩) (HS.out.below HBD.out) ?_
  simp only [Act.put, List.setIfInBounds_toArray, List.set_cons_zero, List.set_cons_succ]
  refine wpAnyH_ready (rs := [9, 10]) (by kernel_rfl) (by simp) ?_
  refine AllReadyH.cons rfl (fun K hK => ?_) (AllReadyH.cons rfl (fun K hK => ?_) AllReadyH.nil)
  · go_simp
    refine (HLD.out _ HBD.out).mono ?_
    rintro e w3 ⟨⟨A, rfl, hA⟩, hb3⟩
    exact ⟨rfl, Cks.bad HR.out (Below.step HB.out (Below.step HBD.out hb3)) hA⟩
  · go_simp
    have HBE : Hid (Below w1.heap.size w1 (w1.alloc (.cells #[.string ⟨#[]⟩, .int .i64 0, .int .i64 0, .int .i64 0] 32)).drew) := hide ((below_alloc w1 _).drew)
    refine hK.out _ _ (HS.out.below HBE.out) (fun _ => ?_)
    clear hK K
    refine wpAnyH_ready (rs := [9]) (by kernel_rfl) (by simp) ?_
    refine AllReadyH.cons rfl (fun K hK => ?_) AllReadyH.nil
    go_simp
    refine (HLD.out _ HBE.out).mono ?_
    rintro e w3 ⟨⟨A, rfl, hA⟩, hb3⟩
    exact ⟨rfl, Cks.bad HR.out (Below.step HB.out (Below.step HBE.out hb3)) hA⟩

set_option maxRecDepth 100000 in
set_option maxHeartbeats 6400000 in
theorem lname_ok {w : World} {LV : Value} {ds : List De} (hl : ds.length ≤ 30) (h : Fd w LV ds) (s : ByteArray) (p : Nat) (X : Nat) (hX : w.heap[X]? = some (.cells #[.int .i64 2, .int .i64 p, .int .i64 0, .int .i64 0, .string s, .string ⟨#[]⟩, .string ⟨#[]⟩, .pointer none, .pointer none] 50 (0, 0))) (nm : ByteArray) (way ty init : Nat) (hdc : declC (findC ds) s p = .ok ⟨nm, way, ty, init⟩) :
    Calls Tryd.prog 75 #[lkV LV, .pointer (some ⟨X, 0, none⟩)] w (Cks w TyRep (kindC (findC ds) (.name p s))) := by
  have HR : Hid (kindC (findC ds) (.name p s) = if widthN ty = 0 then .bad 1 p else .ok ty) := hide (by simp only [kindC, hdc, Ck.bind])
  have HB := hide (below_alloc w (.cells #[LV] 67))
  have HN := hide (blk_new w (.cells #[LV] 67))
  have HX1 := hide (Below.blk HB.out hX)
  have HF1 := hide (h.below HB.out)
  obtain ⟨F, cs, rfl⟩ := h.fn
  clear h hX
  go_enter Tryd.func75, Tryd.ntmps75
  go_wp2_with fail
  generalize (w.alloc (.cells #[.func F #[] cs] 67)) = w1 at *
  have HS : Hid (Rdx w.heap.size X 4 1 1 (.string s) (.int .i64 p) (.int .i64 p) (.func F #[] cs) w1) := hide ⟨by rw [blk_cell HN.out]; rfl, by rw [blk_cell HX1.out]; rfl, by rw [blk_cell HX1.out]; rfl, by rw [blk_cell HX1.out]; rfl⟩
  have HBD := hide (show Below w1.heap.size w1 w1.drew from (Below.refl _ _).drew)
  have HLD : Hid (∀ W, Below w1.heap.size w1 W → Calls Tryd.prog 58 #[.agg #[.func F #[] cs], .string s, .int .i64 p] W fun e w' => e = .returned (.agg #[.string nm, .int .i64 way, .int .i64 ty, .int .i64 init]) ∧ Below W.heap.size W w') := hide (fun W hb => (ldecl_at hl (HF1.out.below hb) s p).mono fun e w' h => by
    have h2 := h.2
    rw [hdc] at h2
    obtain ⟨v, rfl, rfl⟩ := h2
    exact ⟨rfl, h.1⟩)
  have HWI := hide fun W => width_at ty W
  have HC1 := hide fun (W : World) (hb : Below w1.heap.size w1 W) => (HS.out.below hb).2.2.1
  clear hdc
  refine wp_region_held_drew (S := Rdx w.heap.size X 4 1 1 (.string s) (.int .i64 p) (.int .i64 p) (.func F #[] cs)) (by kernel_rfl) (HS.out.below HBD.out) (fun _ => ?_)
  refine wpAnyH_take (i := 0) (oi := ⟨some 6, _, _, _, _, _⟩) (v := .agg #[.func F #[] cs]) rfl (by kernel_rfl) (by kernel_rfl) (by kernel_rfl) (fun _ _ _ h => h) (Or.inl ⟨by rfl, fun W hS => by obtain ⟨s0, s1, s2, s3⟩ := hS; go_simp⟩) (HS.out.below HBD.out) ?_
  simp only [Act.put, List.setIfInBounds_toArray, List.set_cons_zero, List.set_cons_succ]
  refine wpAnyH_take (i := 1) (oi := ⟨some 7, _, _, _, _, _⟩) (v := (.pointer (some ⟨X, 0, none⟩))) rfl (by kernel_rfl) (by kernel_rfl) (by kernel_rfl) (fun _ _ _ h => h) (Or.inl ⟨by rfl, fun W hS => by obtain ⟨s0, s1, s2, s3⟩ := hS; go_simp⟩) (HS.out.below HBD.out) ?_
  simp only [Act.put, List.setIfInBounds_toArray, List.set_cons_zero, List.set_cons_succ]
  refine wpAnyH_take (i := 2) (oi := ⟨some 8, _, _, _, _, _⟩) (v := (.pointer (some ⟨X, 0, none⟩))) rfl (by kernel_rfl) (by kernel_rfl) (by kernel_rfl) (fun _ _ _ h => h) (Or.inl ⟨by rfl, fun W hS => by obtain ⟨s0, s1, s2, s3⟩ := hS; go_simp⟩) (HS.out.below HBD.out) ?_
  simp only [Act.put, List.setIfInBounds_toArray, List.set_cons_zero, List.set_cons_succ]
  refine wpAnyH_take (i := 3) (oi := ⟨some 9, _, _, _, _, _⟩) (v := .pointer (some ⟨X, 4, none⟩)) rfl (by kernel_rfl) (by kernel_rfl) (by kernel_rfl) (fun _ _ _ h => h) (Or.inl ⟨by rfl, fun W hS => by obtain ⟨s0, s1, s2, s3⟩ := hS; go_simp⟩) (HS.out.below HBD.out) ?_
  simp only [Act.put, List.setIfInBounds_toArray, List.set_cons_zero, List.set_cons_succ]
  refine wpAnyH_take (i := 4) (oi := ⟨some 10, _, _, _, _, _⟩) (v := .string s) rfl (by kernel_rfl) (by kernel_rfl) (by kernel_rfl) (fun _ _ _ h => h) (Or.inl ⟨by rfl, fun W hS => by obtain ⟨s0, s1, s2, s3⟩ := hS; go_simp⟩) (HS.out.below HBD.out) ?_
  simp only [Act.put, List.setIfInBounds_toArray, List.set_cons_zero, List.set_cons_succ]
  refine wpAnyH_take (i := 5) (oi := ⟨some 11, _, _, _, _, _⟩) (v := (.pointer (some ⟨X, 0, none⟩))) rfl (by kernel_rfl) (by kernel_rfl) (by kernel_rfl) (fun _ _ _ h => h) (Or.inl ⟨by rfl, fun W hS => by obtain ⟨s0, s1, s2, s3⟩ := hS; go_simp⟩) (HS.out.below HBD.out) ?_
  simp only [Act.put, List.setIfInBounds_toArray, List.set_cons_zero, List.set_cons_succ]
  refine wpAnyH_take (i := 6) (oi := ⟨some 12, _, _, _, _, _⟩) (v := (.pointer (some ⟨X, 0, none⟩))) rfl (by kernel_rfl) (by kernel_rfl) (by kernel_rfl) (fun _ _ _ h => h) (Or.inl ⟨by rfl, fun W hS => by obtain ⟨s0, s1, s2, s3⟩ := hS; go_simp⟩) (HS.out.below HBD.out) ?_
  simp only [Act.put, List.setIfInBounds_toArray, List.set_cons_zero, List.set_cons_succ]
  refine wpAnyH_take (i := 7) (oi := ⟨some 13, _, _, _, _, _⟩) (v := .pointer (some ⟨X, 1, none⟩)) rfl (by kernel_rfl) (by kernel_rfl) (by kernel_rfl) (fun _ _ _ h => h) (Or.inl ⟨by rfl, fun W hS => by obtain ⟨s0, s1, s2, s3⟩ := hS; go_simp⟩) (HS.out.below HBD.out) ?_
  simp only [Act.put, List.setIfInBounds_toArray, List.set_cons_zero, List.set_cons_succ]
  refine wpAnyH_take (i := 8) (oi := ⟨some 14, _, _, _, _, _⟩) (v := .int .i64 p) rfl (by kernel_rfl) (by kernel_rfl) (by kernel_rfl) (fun _ _ _ h => h) (Or.inl ⟨by rfl, fun W hS => by obtain ⟨s0, s1, s2, s3⟩ := hS; go_simp⟩) (HS.out.below HBD.out) ?_
  simp only [Act.put, List.setIfInBounds_toArray, List.set_cons_zero, List.set_cons_succ]
  refine wpAnyH_ready (rs := [9, 10]) (by kernel_rfl) (by simp) ?_
  refine AllReadyH.cons rfl (fun K hK => ?_) (AllReadyH.cons rfl (fun K hK => ?_) AllReadyH.nil)
  · go_simp
    refine (HLD.out _ HBD.out).mono ?_
    rintro e w3 ⟨rfl, hb3⟩
    have HB3 := hide (Below.step HBD.out hb3)
    clear hb3
    refine hK.out _ _ (HS.out.below HB3.out) (fun _ => ?_)
    clear hK K
    refine wpAnyH_ready (rs := [10]) (by kernel_rfl) (by simp) ?_
    refine AllReadyH.cons rfl (fun K hK => ?_) AllReadyH.nil
    go_simp
    refine hK.out _ _ (HS.out.below (Below.step HB3.out (below_alloc _ _))) (fun _ => ?_)
    clear hK K
    refine wpAnyH_ready (rs := [11]) (by kernel_rfl) (by simp) ?_
    refine AllReadyH.cons rfl (fun K hK => ?_) AllReadyH.nil
    go_simp
    have HB5 := hide (Below.step HB3.out (below_alloc w3 (.cells #[.string nm, .int .i64 way, .int .i64 ty, .int .i64 init] 32)))
    have HN5 := hide (blk_new w3 (.cells #[.string nm, .int .i64 way, .int .i64 ty, .int .i64 init] 32))
    refine hK.out _ _ (HS.out.below HB5.out) (fun _ => ?_)
    clear hK K
    refine wpAnyH_done (by kernel_rfl) ?_ _
    generalize (w3.alloc (.cells #[.string nm, .int .i64 way, .int .i64 ty, .int .i64 init] 32)) = W5 at *
    have f2 : W5.cell? ⟨w3.heap.size, 2, none⟩ = some (.int .i64 ty) := by rw [blk_cell HN5.out]; rfl
    have f1 : W5.cell? ⟨X, 1, none⟩ = some (.int .i64 p) := HC1.out W5 HB5.out
    go_wp2_with fail
    refine (HWI.out W5).mono ?_
    rintro e w6 ⟨rfl, rfl⟩
    by_cases hw0 : widthN ty = 0
    · have HR2 : Hid (kindC (findC ds) (.name p s) = .bad 1 p) := hide (by rw [HR.out, if_pos hw0])
      rw [hw0]
      go_wp2_with fail
      refine (throw_at 1 p _).mono ?_
      rintro e w7 ⟨⟨A, rfl, hA⟩, hb7⟩
      have HA := hide hA
      have HB7 := hide (Below.step HB.out (Below.step HB5.out hb7))
      clear hA hb7
      go_wp2_with fail
      exact ⟨rfl, Cks.bad HR2.out HB7.out HA.out⟩
    · have HR2 : Hid (kindC (findC ds) (.name p s) = .ok ty) := hide (by rw [HR.out, if_neg hw0])
      have hwi : (((widthN ty : Nat) : Int) == 0) = false := by simp; omega
      generalize widthN ty = wd at *
      go_wp2_with fail
      go_ret
      exact Cks.ok HR2.out (Below.step HB.out HB5.out) rfl
  · go_simp
    have HBE : Hid (Below w1.heap.size w1 (w1.alloc (.cells #[.string ⟨#[]⟩, .int .i64 0, .int .i64 0, .int .i64 0] 32)).drew) := hide ((below_alloc w1 _).drew)
    refine hK.out _ _ (HS.out.below HBE.out) (fun _ => ?_)
    clear hK K
    refine wpAnyH_ready (rs := [9]) (by kernel_rfl) (by simp) ?_
    refine AllReadyH.cons rfl (fun K hK => ?_) AllReadyH.nil
    go_simp
    refine (HLD.out _ HBE.out).mono ?_
    rintro e w3 ⟨rfl, hb3⟩
    have HB3 := hide (Below.step HBE.out hb3)
    have HN3 := hide (Below.blk hb3 (show (w1.alloc (.cells #[.string ⟨#[]⟩, .int .i64 0, .int .i64 0, .int .i64 0] 32)).drew.heap[w1.heap.size]? = some (.cells #[.string ⟨#[]⟩, .int .i64 0, .int .i64 0, .int .i64 0] 32 (0, 0)) from blk_new w1 _))
    clear hb3
    refine hK.out _ _ (HS.out.below HB3.out) (fun _ => ?_)
    clear hK K
    have e0 : w3.cell? ⟨w1.heap.size, 0, none⟩ = some (.string ⟨#[]⟩) := by rw [blk_cell HN3.out]; rfl
    have e1 : w3.cell? ⟨w1.heap.size, 1, none⟩ = some (.int .i64 0) := by rw [blk_cell HN3.out]; rfl
    have e2 : w3.cell? ⟨w1.heap.size, 2, none⟩ = some (.int .i64 0) := by rw [blk_cell HN3.out]; rfl
    have e3 : w3.cell? ⟨w1.heap.size, 3, none⟩ = some (.int .i64 0) := by rw [blk_cell HN3.out]; rfl
    have ef : ∀ i, w3.frozen? ⟨w1.heap.size, i, none⟩ = false := blk_frozen HN3.out
    refine wpAnyH_ready (rs := [11]) (by kernel_rfl) (by simp) ?_
    refine AllReadyH.cons rfl (fun K hK => ?_) AllReadyH.nil
    go_simp
    have HB5 : Hid (Below w1.heap.size w1 ((((w3.setCell ⟨w1.heap.size, 0, none⟩ (.string nm)).setCell ⟨w1.heap.size, 1, none⟩ (.int .i64 way)).setCell ⟨w1.heap.size, 2, none⟩ (.int .i64 ty)).setCell ⟨w1.heap.size, 3, none⟩ (.int .i64 init))) := hide ((((HB3.out.setCell (Nat.le_refl _) _).setCell (Nat.le_refl _) _).setCell (Nat.le_refl _) _).setCell (Nat.le_refl _) _)
    have HN5 : Hid (((((w3.setCell ⟨w1.heap.size, 0, none⟩ (.string nm)).setCell ⟨w1.heap.size, 1, none⟩ (.int .i64 way)).setCell ⟨w1.heap.size, 2, none⟩ (.int .i64 ty)).setCell ⟨w1.heap.size, 3, none⟩ (.int .i64 init)).heap[w1.heap.size]? = some (.cells #[.string nm, .int .i64 way, .int .i64 ty, .int .i64 init] 32 (0, 0))) := hide (by
      rw [blk_set (blk_set (blk_set (blk_set HN3.out 0 (.string nm)) 1 (.int .i64 way)) 2 (.int .i64 ty)) 3 (.int .i64 init)]
      rfl)
    refine hK.out _ _ (HS.out.below HB5.out) (fun _ => ?_)
    clear hK K e0 e1 e2 e3 ef
    refine wpAnyH_done (by kernel_rfl) ?_ _
    generalize ((((w3.setCell ⟨w1.heap.size, 0, none⟩ (.string nm)).setCell ⟨w1.heap.size, 1, none⟩ (.int .i64 way)).setCell ⟨w1.heap.size, 2, none⟩ (.int .i64 ty)).setCell ⟨w1.heap.size, 3, none⟩ (.int .i64 init)) = W5 at *
    have f2 : W5.cell? ⟨w1.heap.size, 2, none⟩ = some (.int .i64 ty) := by rw [blk_cell HN5.out]; rfl
    have f1 : W5.cell? ⟨X, 1, none⟩ = some (.int .i64 p) := HC1.out W5 HB5.out
    go_wp2_with fail
    refine (HWI.out W5).mono ?_
    rintro e w6 ⟨rfl, rfl⟩
    by_cases hw0 : widthN ty = 0
    · have HR2 : Hid (kindC (findC ds) (.name p s) = .bad 1 p) := hide (by rw [HR.out, if_pos hw0])
      rw [hw0]
      go_wp2_with fail
      refine (throw_at 1 p _).mono ?_
      rintro e w7 ⟨⟨A, rfl, hA⟩, hb7⟩
      have HA := hide hA
      have HB7 := hide (Below.step HB.out (Below.step HB5.out hb7))
      clear hA hb7
      go_wp2_with fail
      exact ⟨rfl, Cks.bad HR2.out HB7.out HA.out⟩
    · have HR2 : Hid (kindC (findC ds) (.name p s) = .ok ty) := hide (by rw [HR.out, if_neg hw0])
      have hwi : (((widthN ty : Nat) : Int) == 0) = false := by simp; omega
      generalize widthN ty = wd at *
      go_wp2_with fail
      go_ret
      exact Cks.ok HR2.out (Below.step HB.out HB5.out) rfl
end Go.Proofs.YtiimnnancblbkaaDoor
set_option linter.unusedSimpArgs false
set_option linter.unusedVariables false
namespace Go.Proofs.YtiimnnancblbkaaDoor
open Go.RowKit

set_option maxRecDepth 100000 in
set_option maxHeartbeats 6400000 in
theorem lfield_bad {w : World} {LV : Value} {ds : List De} (hl : ds.length ≤ 30) (h : Fd w LV ds) (s g : ByteArray) (p : Nat) (X : Nat) (hX : w.heap[X]? = some (.cells #[.int .i64 3, .int .i64 p, .int .i64 0, .int .i64 0, .string s, .string g, .string ⟨#[]⟩, .pointer none, .pointer none] 50 (0, 0))) (er : Int) (q : Nat) (hdc : declC (findC ds) s p = .bad er q) :
    Calls Tryd.prog 76 #[lkV LV, .pointer (some ⟨X, 0, none⟩)] w (Cks w TyRep (kindC (findC ds) (.field p s g))) := by
  have HR : Hid (kindC (findC ds) (.field p s g) = .bad er q) := hide (by simp only [kindC, hdc, Ck.bind])
  have HB := hide (below_alloc w (.cells #[LV] 67))
  have HN := hide (blk_new w (.cells #[LV] 67))
  have HX1 := hide (Below.blk HB.out hX)
  have HF1 := hide (h.below HB.out)
  obtain ⟨F, cs, rfl⟩ := h.fn
  clear h hX
  go_enter Tryd.func76, Tryd.ntmps76
  go_wp2_with fail
  generalize (w.alloc (.cells #[.func F #[] cs] 67)) = w1 at *
  have HS : Hid (Rdx w.heap.size X 4 1 5 (.string s) (.int .i64 p) (.string g) (.func F #[] cs) w1) := hide ⟨by rw [blk_cell HN.out]; rfl, by rw [blk_cell HX1.out]; rfl, by rw [blk_cell HX1.out]; rfl, by rw [blk_cell HX1.out]; rfl⟩
  have HBD := hide (show Below w1.heap.size w1 w1.drew from (Below.refl _ _).drew)
  have HLD : Hid (∀ W, Below w1.heap.size w1 W → Calls Tryd.prog 58 #[.agg #[.func F #[] cs], .string s, .int .i64 p] W fun e w' => Thrown er q e w' ∧ Below W.heap.size W w') := hide (fun W hb => (ldecl_at hl (HF1.out.below hb) s p).mono fun e w' h => by
    have h2 := h.2
    rw [hdc] at h2
    exact ⟨h2, h.1⟩)
  clear hdc
  refine wp_region_held_drew (S := Rdx w.heap.size X 4 1 5 (.string s) (.int .i64 p) (.string g) (.func F #[] cs)) (by kernel_rfl) (HS.out.below HBD.out) (fun _ => ?_)
  refine wpAnyH_take (i := 0) (oi := ⟨some 6, _, _, _, _, _⟩) (v := .agg #[.func F #[] cs]) rfl (by kernel_rfl) (by kernel_rfl) (by kernel_rfl) (fun _ _ _ h => h) (Or.inl ⟨by rfl, fun W hS => by obtain ⟨s0, s1, s2, s3⟩ := hS; go_simp⟩) (HS.out.below HBD.out) ?_
  simp only [Act.put, List.setIfInBounds_toArray, List.set_cons_zero, List.set_cons_succ]
  refine wpAnyH_take (i := 1) (oi := ⟨some 7, _, _, _, _, _⟩) (v := (.pointer (some ⟨X, 0, none⟩))) rfl (by kernel_rfl) (by kernel_rfl) (by kernel_rfl) (fun _ _ _ h => h) (Or.inl ⟨by rfl, fun W hS => by obtain ⟨s0, s1, s2, s3⟩ := hS; go_simp⟩) (HS.out.below HBD.out) ?_
  simp only [Act.put, List.setIfInBounds_toArray, List.set_cons_zero, List.set_cons_succ]
  refine wpAnyH_take (i := 2) (oi := ⟨some 8, _, _, _, _, _⟩) (v := (.pointer (some ⟨X, 0, none⟩))) rfl (by kernel_rfl) (by kernel_rfl) (by kernel_rfl) (fun _ _ _ h => h) (Or.inl ⟨by rfl, fun W hS => by obtain ⟨s0, s1, s2, s3⟩ := hS; go_simp⟩) (HS.out.below HBD.out) ?_
  simp only [Act.put, List.setIfInBounds_toArray, List.set_cons_zero, List.set_cons_succ]
  refine wpAnyH_take (i := 3) (oi := ⟨some 9, _, _, _, _, _⟩) (v := .pointer (some ⟨X, 4, none⟩)) rfl (by kernel_rfl) (by kernel_rfl) (by kernel_rfl) (fun _ _ _ h => h) (Or.inl ⟨by rfl, fun W hS => by obtain ⟨s0, s1, s2, s3⟩ := hS; go_simp⟩) (HS.out.below HBD.out) ?_
  simp only [Act.put, List.setIfInBounds_toArray, List.set_cons_zero, List.set_cons_succ]
  refine wpAnyH_take (i := 4) (oi := ⟨some 10, _, _, _, _, _⟩) (v := .string s) rfl (by kernel_rfl) (by kernel_rfl) (by kernel_rfl) (fun _ _ _ h => h) (Or.inl ⟨by rfl, fun W hS => by obtain ⟨s0, s1, s2, s3⟩ := hS; go_simp⟩) (HS.out.below HBD.out) ?_
  simp only [Act.put, List.setIfInBounds_toArray, List.set_cons_zero, List.set_cons_succ]
  refine wpAnyH_take (i := 5) (oi := ⟨some 11, _, _, _, _, _⟩) (v := (.pointer (some ⟨X, 0, none⟩))) rfl (by kernel_rfl) (by kernel_rfl) (by kernel_rfl) (fun _ _ _ h => h) (Or.inl ⟨by rfl, fun W hS => by obtain ⟨s0, s1, s2, s3⟩ := hS; go_simp⟩) (HS.out.below HBD.out) ?_
  simp only [Act.put, List.setIfInBounds_toArray, List.set_cons_zero, List.set_cons_succ]
  refine wpAnyH_take (i := 6) (oi := ⟨some 12, _, _, _, _, _⟩) (v := (.pointer (some ⟨X, 0, none⟩))) rfl (by kernel_rfl) (by kernel_rfl) (by kernel_rfl) (fun _ _ _ h => h) (Or.inl ⟨by rfl, fun W hS => by obtain ⟨s0, s1, s2, s3⟩ := hS; go_simp⟩) (HS.out.below HBD.out) ?_
  simp only [Act.put, List.setIfInBounds_toArray, List.set_cons_zero, List.set_cons_succ]
  refine wpAnyH_take (i := 7) (oi := ⟨some 13, _, _, _, _, _⟩) (v := .pointer (some ⟨X, 1, none⟩)) rfl (by kernel_rfl) (by kernel_rfl) (by kernel_rfl) (fun _ _ _ h => h) (Or.inl ⟨by rfl, fun W hS => by obtain ⟨s0, s1, s2, s3⟩ := hS; go_simp⟩) (HS.out.below HBD.out) ?_
  simp only [Act.put, List.setIfInBounds_toArray, List.set_cons_zero, List.set_cons_succ]
  refine wpAnyH_take (i := 8) (oi := ⟨some 14, _, _, _, _, _⟩) (v := .int .i64 p) rfl (by kernel_rfl) (by kernel_rfl) (by kernel_rfl) (fun _ _ _ h => h) (Or.inl ⟨by rfl, fun W hS => by obtain ⟨s0, s1, s2, s3⟩ := hS; go_simp⟩) (HS.out.below HBD.out) ?_
  simp only [Act.put, List.setIfInBounds_toArray, List.set_cons_zero, List.set_cons_succ]
  refine wpAnyH_take (i := 11) (oi := ⟨some 17, _, _, _, _, _⟩) (v := (.pointer (some ⟨X, 0, none⟩))) rfl (by kernel_rfl) (by kernel_rfl) (by kernel_rfl) (fun _ _ _ h => h) (Or.inl ⟨by rfl, fun W hS => by obtain ⟨s0, s1, s2, s3⟩ := hS; go_simp⟩) (HS.out.below HBD.out) ?_
  simp only [Act.put, List.setIfInBounds_toArray, List.set_cons_zero, List.set_cons_succ]
  refine wpAnyH_take (i := 12) (oi := ⟨some 18, _, _, _, _, _⟩) (v := (.pointer (some ⟨X, 0, none⟩))) rfl (by kernel_rfl) (by kernel_rfl) (by kernel_rfl) (fun _ _ _ h => h) (Or.inl ⟨by rfl, fun W hS => by obtain ⟨s0, s1, s2, s3⟩ := hS; go_simp⟩) (HS.out.below HBD.out) ?_
  simp only [Act.put, List.setIfInBounds_toArray, List.set_cons_zero, List.set_cons_succ]
  refine wpAnyH_take (i := 13) (oi := ⟨some 19, _, _, _, _, _⟩) (v := .pointer (some ⟨X, 5, none⟩)) rfl (by kernel_rfl) (by kernel_rfl) (by kernel_rfl) (fun _ _ _ h => h) (Or.inl ⟨by rfl, fun W hS => by obtain ⟨s0, s1, s2, s3⟩ := hS; go_simp⟩) (HS.out.below HBD.out) ?_
  simp only [Act.put, List.setIfInBounds_toArray, List.set_cons_zero, List.set_cons_succ]
  refine wpAnyH_take (i := 14) (oi := ⟨some 20, _, _, _, _, _⟩) (v := .string g) rfl (by kernel_rfl) (by kernel_rfl) (by kernel_rfl) (fun _ _ _ h => h) (Or.inl ⟨by rfl, fun W hS => by obtain ⟨s0, s1, s2, s3⟩ := hS; go_simp⟩) (HS.out.below HBD.out) ?_
  simp only [Act.put, List.setIfInBounds_toArray, List.set_cons_zero, List.set_cons_succ]
  refine wpAnyH_ready (rs := [9]) (by kernel_rfl) (by simp) ?_
  refine AllReadyH.cons rfl (fun K hK => ?_) AllReadyH.nil
  go_simp
  refine (HLD.out _ HBD.out).mono ?_
  rintro e w3 ⟨⟨A, rfl, hA⟩, hb3⟩
  exact ⟨rfl, Cks.bad HR.out (Below.step HB.out (Below.step HBD.out hb3)) hA⟩

theorem fld_ty (a b c d : Value) (w : World) : (Instr.field 32 (.agg #[a, b, c, d]) 2).run Tryd.prog w = .ok c w := by kernel_rfl
set_option maxRecDepth 100000 in
set_option maxHeartbeats 6400000 in
theorem lfield_ok {w : World} {LV : Value} {ds : List De} (hl : ds.length ≤ 30) (h : Fd w LV ds) (s g : ByteArray) (p : Nat) (X : Nat) (hX : w.heap[X]? = some (.cells #[.int .i64 3, .int .i64 p, .int .i64 0, .int .i64 0, .string s, .string g, .string ⟨#[]⟩, .pointer none, .pointer none] 50 (0, 0))) (nm : ByteArray) (way ty init : Nat) (hdc : declC (findC ds) s p = .ok ⟨nm, way, ty, init⟩) :
    Calls Tryd.prog 76 #[lkV LV, .pointer (some ⟨X, 0, none⟩)] w (Cks w TyRep (kindC (findC ds) (.field p s g))) := by
  have HR : Hid (kindC (findC ds) (.field p s g) = if fieldN ty g.toList = 0 then .bad 5 p else .ok (fieldN ty g.toList)) := hide (by simp only [kindC, hdc, Ck.bind])
  have hft := fld_ty
  have HB := hide (below_alloc w (.cells #[LV] 67))
  have HN := hide (blk_new w (.cells #[LV] 67))
  have HX1 := hide (Below.blk HB.out hX)
  have HF1 := hide (h.below HB.out)
  obtain ⟨F, cs, rfl⟩ := h.fn
  clear h hX
  go_enter Tryd.func76, Tryd.ntmps76
  go_wp2_with fail
  generalize (w.alloc (.cells #[.func F #[] cs] 67)) = w1 at *
  have HS : Hid (Rdx w.heap.size X 4 1 5 (.string s) (.int .i64 p) (.string g) (.func F #[] cs) w1) := hide ⟨by rw [blk_cell HN.out]; rfl, by rw [blk_cell HX1.out]; rfl, by rw [blk_cell HX1.out]; rfl, by rw [blk_cell HX1.out]; rfl⟩
  have HBD := hide (show Below w1.heap.size w1 w1.drew from (Below.refl _ _).drew)
  have HLD : Hid (∀ W, Below w1.heap.size w1 W → Calls Tryd.prog 58 #[.agg #[.func F #[] cs], .string s, .int .i64 p] W fun e w' => e = .returned (.agg #[.string nm, .int .i64 way, .int .i64 ty, .int .i64 init]) ∧ Below W.heap.size W w') := hide (fun W hb => (ldecl_at hl (HF1.out.below hb) s p).mono fun e w' h => by
    have h2 := h.2
    rw [hdc] at h2
    obtain ⟨v, rfl, rfl⟩ := h2
    exact ⟨rfl, h.1⟩)
  have HFK := hide fun W => fieldK_at ty g W
  have HC1 := hide fun (W : World) (hb : Below w1.heap.size w1 W) => (HS.out.below hb).2.2.1
  clear hdc
  refine wp_region_held_drew (S := Rdx w.heap.size X 4 1 5 (.string s) (.int .i64 p) (.string g) (.func F #[] cs)) (by kernel_rfl) (HS.out.below HBD.out) (fun _ => ?_)
  refine wpAnyH_take (i := 0) (oi := ⟨some 6, _, _, _, _, _⟩) (v := .agg #[.func F #[] cs]) rfl (by kernel_rfl) (by kernel_rfl) (by kernel_rfl) (fun _ _ _ h => h) (Or.inl ⟨by rfl, fun W hS => by obtain ⟨s0, s1, s2, s3⟩ := hS; go_simp⟩) (HS.out.below HBD.out) ?_
  simp only [Act.put, List.setIfInBounds_toArray, List.set_cons_zero, List.set_cons_succ]
  refine wpAnyH_take (i := 1) (oi := ⟨some 7, _, _, _, _, _⟩) (v := (.pointer (some ⟨X, 0, none⟩))) rfl (by kernel_rfl) (by kernel_rfl) (by kernel_rfl) (fun _ _ _ h => h) (Or.inl ⟨by rfl, fun W hS => by obtain ⟨s0, s1, s2, s3⟩ := hS; go_simp⟩) (HS.out.below HBD.out) ?_
  simp only [Act.put, List.setIfInBounds_toArray, List.set_cons_zero, List.set_cons_succ]
  refine wpAnyH_take (i := 2) (oi := ⟨some 8, _, _, _, _, _⟩) (v := (.pointer (some ⟨X, 0, none⟩))) rfl (by kernel_rfl) (by kernel_rfl) (by kernel_rfl) (fun _ _ _ h => h) (Or.inl ⟨by rfl, fun W hS => by obtain ⟨s0, s1, s2, s3⟩ := hS; go_simp⟩) (HS.out.below HBD.out) ?_
  simp only [Act.put, List.setIfInBounds_toArray, List.set_cons_zero, List.set_cons_succ]
  refine wpAnyH_take (i := 3) (oi := ⟨some 9, _, _, _, _, _⟩) (v := .pointer (some ⟨X, 4, none⟩)) rfl (by kernel_rfl) (by kernel_rfl) (by kernel_rfl) (fun _ _ _ h => h) (Or.inl ⟨by rfl, fun W hS => by obtain ⟨s0, s1, s2, s3⟩ := hS; go_simp⟩) (HS.out.below HBD.out) ?_
  simp only [Act.put, List.setIfInBounds_toArray, List.set_cons_zero, List.set_cons_succ]
  refine wpAnyH_take (i := 4) (oi := ⟨some 10, _, _, _, _, _⟩) (v := .string s) rfl (by kernel_rfl) (by kernel_rfl) (by kernel_rfl) (fun _ _ _ h => h) (Or.inl ⟨by rfl, fun W hS => by obtain ⟨s0, s1, s2, s3⟩ := hS; go_simp⟩) (HS.out.below HBD.out) ?_
  simp only [Act.put, List.setIfInBounds_toArray, List.set_cons_zero, List.set_cons_succ]
  refine wpAnyH_take (i := 5) (oi := ⟨some 11, _, _, _, _, _⟩) (v := (.pointer (some ⟨X, 0, none⟩))) rfl (by kernel_rfl) (by kernel_rfl) (by kernel_rfl) (fun _ _ _ h => h) (Or.inl ⟨by rfl, fun W hS => by obtain ⟨s0, s1, s2, s3⟩ := hS; go_simp⟩) (HS.out.below HBD.out) ?_
  simp only [Act.put, List.setIfInBounds_toArray, List.set_cons_zero, List.set_cons_succ]
  refine wpAnyH_take (i := 6) (oi := ⟨some 12, _, _, _, _, _⟩) (v := (.pointer (some ⟨X, 0, none⟩))) rfl (by kernel_rfl) (by kernel_rfl) (by kernel_rfl) (fun _ _ _ h => h) (Or.inl ⟨by rfl, fun W hS => by obtain ⟨s0, s1, s2, s3⟩ := hS; go_simp⟩) (HS.out.below HBD.out) ?_
  simp only [Act.put, List.setIfInBounds_toArray, List.set_cons_zero, List.set_cons_succ]
  refine wpAnyH_take (i := 7) (oi := ⟨some 13, _, _, _, _, _⟩) (v := .pointer (some ⟨X, 1, none⟩)) rfl (by kernel_rfl) (by kernel_rfl) (by kernel_rfl) (fun _ _ _ h => h) (Or.inl ⟨by rfl, fun W hS => by obtain ⟨s0, s1, s2, s3⟩ := hS; go_simp⟩) (HS.out.below HBD.out) ?_
  simp only [Act.put, List.setIfInBounds_toArray, List.set_cons_zero, List.set_cons_succ]
  refine wpAnyH_take (i := 8) (oi := ⟨some 14, _, _, _, _, _⟩) (v := .int .i64 p) rfl (by kernel_rfl) (by kernel_rfl) (by kernel_rfl) (fun _ _ _ h => h) (Or.inl ⟨by rfl, fun W hS => by obtain ⟨s0, s1, s2, s3⟩ := hS; go_simp⟩) (HS.out.below HBD.out) ?_
  simp only [Act.put, List.setIfInBounds_toArray, List.set_cons_zero, List.set_cons_succ]
  refine wpAnyH_take (i := 11) (oi := ⟨some 17, _, _, _, _, _⟩) (v := (.pointer (some ⟨X, 0, none⟩))) rfl (by kernel_rfl) (by kernel_rfl) (by kernel_rfl) (fun _ _ _ h => h) (Or.inl ⟨by rfl, fun W hS => by obtain ⟨s0, s1, s2, s3⟩ := hS; go_simp⟩) (HS.out.below HBD.out) ?_
  simp only [Act.put, List.setIfInBounds_toArray, List.set_cons_zero, List.set_cons_succ]
  refine wpAnyH_take (i := 12) (oi := ⟨some 18, _, _, _, _, _⟩) (v := (.pointer (some ⟨X, 0, none⟩))) rfl (by kernel_rfl) (by kernel_rfl) (by kernel_rfl) (fun _ _ _ h => h) (Or.inl ⟨by rfl, fun W hS => by obtain ⟨s0, s1, s2, s3⟩ := hS; go_simp⟩) (HS.out.below HBD.out) ?_
  simp only [Act.put, List.setIfInBounds_toArray, List.set_cons_zero, List.set_cons_succ]
  refine wpAnyH_take (i := 13) (oi := ⟨some 19, _, _, _, _, _⟩) (v := .pointer (some ⟨X, 5, none⟩)) rfl (by kernel_rfl) (by kernel_rfl) (by kernel_rfl) (fun _ _ _ h => h) (Or.inl ⟨by rfl, fun W hS => by obtain ⟨s0, s1, s2, s3⟩ := hS; go_simp⟩) (HS.out.below HBD.out) ?_
  simp only [Act.put, List.setIfInBounds_toArray, List.set_cons_zero, List.set_cons_succ]
  refine wpAnyH_take (i := 14) (oi := ⟨some 20, _, _, _, _, _⟩) (v := .string g) rfl (by kernel_rfl) (by kernel_rfl) (by kernel_rfl) (fun _ _ _ h => h) (Or.inl ⟨by rfl, fun W hS => by obtain ⟨s0, s1, s2, s3⟩ := hS; go_simp⟩) (HS.out.below HBD.out) ?_
  simp only [Act.put, List.setIfInBounds_toArray, List.set_cons_zero, List.set_cons_succ]
  refine wpAnyH_ready (rs := [9]) (by kernel_rfl) (by simp) ?_
  refine AllReadyH.cons rfl (fun K hK => ?_) AllReadyH.nil
  go_simp
  refine (HLD.out _ HBD.out).mono ?_
  rintro e w3 ⟨rfl, hb3⟩
  have HB3 := hide (Below.step HBD.out hb3)
  clear hb3
  refine hK.out _ _ (HS.out.below HB3.out) (fun _ => ?_)
  clear hK K
  refine wpAnyH_take (i := 10) (oi := ⟨some 16, _, _, _, _, _⟩) (v := .int .i64 ty) rfl (by kernel_rfl) (by kernel_rfl) (by kernel_rfl) (fun _ _ _ h => h) (Or.inl ⟨by rfl, fun W hS => by obtain ⟨s0, s1, s2, s3⟩ := hS; go_simp⟩) (HS.out.below HB3.out) ?_
  simp only [Act.put, List.setIfInBounds_toArray, List.set_cons_zero, List.set_cons_succ]
  refine wpAnyH_ready (rs := [15]) (by kernel_rfl) (by simp) ?_
  refine AllReadyH.cons rfl (fun K hK => ?_) AllReadyH.nil
  go_simp
  refine (HFK.out _).mono ?_
  rintro e w4 ⟨rfl, rfl⟩
  refine hK.out _ _ (HS.out.below HB3.out) (fun _ => ?_)
  clear hK K
  refine wpAnyH_take (i := 16) (oi := ⟨some 5, _, _, _, _, _⟩) (v := .int .i64 (fieldN ty g.toList : Nat)) rfl (by kernel_rfl) (by kernel_rfl) (by kernel_rfl) (fun _ _ _ h => h) (Or.inl ⟨by rfl, fun W hS => by obtain ⟨s0, s1, s2, s3⟩ := hS; go_simp⟩) (HS.out.below HB3.out) ?_
  simp only [Act.put, List.setIfInBounds_toArray, List.set_cons_zero, List.set_cons_succ]
  refine wpAnyH_done (by kernel_rfl) ?_ _
  have f1 := HC1.out _ HB3.out
  by_cases hw0 : fieldN ty g.toList = 0
  · have HR2 : Hid (kindC (findC ds) (.field p s g) = .bad 5 p) := hide (by rw [HR.out, if_pos hw0])
    rw [hw0]
    go_wp2_with fail
    refine (throw_at 5 p _).mono ?_
    rintro e w7 ⟨⟨A, rfl, hA⟩, hb7⟩
    have HA := hide hA
    have HB7 := hide (Below.step HB.out (Below.step HB3.out hb7))
    clear hA hb7
    go_wp2_with fail
    exact ⟨rfl, Cks.bad HR2.out HB7.out HA.out⟩
  · have HR2 : Hid (kindC (findC ds) (.field p s g) = .ok (fieldN ty g.toList)) := hide (by rw [HR.out, if_neg hw0])
    have hwi : (((fieldN ty g.toList : Nat) : Int) == 0) = false := by simp; omega
    generalize fieldN ty g.toList = wd at *
    go_wp2_with fail
    go_ret
    exact Cks.ok HR2.out (Below.step HB.out HB3.out) rfl

def KindOK (x : Ex) : Prop := ∀ (S : Nat → Prop) (w : World) (v LV : Value) (ds : List De), ds.length ≤ 30 → Fd w LV ds → IsEx S w x v →
  Calls Tryd.prog 60 #[lkV LV, v] w (Cks w TyRep (kindC (findC ds) x))

set_option maxRecDepth 100000 in
set_option maxHeartbeats 6400000 in
theorem ltwo_at {w : World} {LV : Value} {ds : List De} (hl : ds.length ≤ 30) (h : Fd w LV ds) (op : ByteArray) (x y : Ex) (p : Nat) (S : Nat → Prop) (X Q U : Nat) (hX : w.heap[X]? = some (.cells #[.int .i64 5, .int .i64 p, .int .i64 0, .int .i64 0, .string ⟨#[]⟩, .string ⟨#[]⟩, .string op, .pointer (some ⟨Q, 0, none⟩), .pointer (some ⟨U, 0, none⟩)] 50 (0, 0))) (hx : IsEx S w x (.pointer (some ⟨Q, 0, none⟩))) (hy : IsEx S w y (.pointer (some ⟨U, 0, none⟩))) (ihx : KindOK x) (ihy : KindOK y) :
    Calls Tryd.prog 77 #[lkV LV, .pointer (some ⟨X, 0, none⟩)] w (Cks w TyRep (kindC (findC ds) (.bin p op x y))) := by
  have HR : Hid (kindC (findC ds) (.bin p op x y) = (kindC (findC ds) x).bind fun a => (kindC (findC ds) y).bind fun b => if resN op.toList a b = 0 then .bad 1 p else .ok (resN op.toList a b)) := rfl
  have HXX := hide hx
  have HYY := hide hy
  have HB := hide (below_alloc w (.cells #[LV] 67))
  have HN := hide (blk_new w (.cells #[LV] 67))
  have HX1 := hide (Below.blk HB.out hX)
  have HF1 := hide (h.below HB.out)
  obtain ⟨F, cs, rfl⟩ := h.fn
  clear h hX
  go_enter Tryd.func77, Tryd.ntmps77
  go_wp2_with fail
  generalize (w.alloc (.cells #[.func F #[] cs] 67)) = w1 at *
  have HS : Hid (Rdx w.heap.size X 7 8 8 (.pointer (some ⟨Q, 0, none⟩)) (.pointer (some ⟨U, 0, none⟩)) (.pointer (some ⟨U, 0, none⟩)) (.func F #[] cs) w1) := hide ⟨by rw [blk_cell HN.out]; rfl, by rw [blk_cell HX1.out]; rfl, by rw [blk_cell HX1.out]; rfl, by rw [blk_cell HX1.out]; rfl⟩
  have HBD := hide (show Below w1.heap.size w1 w1.drew from (Below.refl _ _).drew)
  have HKX : Hid (∀ W, Below w1.heap.size w1 W → Calls Tryd.prog 60 #[.agg #[.func F #[] cs], .pointer (some ⟨Q, 0, none⟩)] W (Cks W TyRep (kindC (findC ds) x))) := hide (fun W hb => ihx S W _ _ ds hl (HF1.out.below hb) ((HXX.out.below HB.out).below hb))
  have HKY : Hid (∀ W, Below w1.heap.size w1 W → Calls Tryd.prog 60 #[.agg #[.func F #[] cs], .pointer (some ⟨U, 0, none⟩)] W (Cks W TyRep (kindC (findC ds) y))) := hide (fun W hb => ihy S W _ _ ds hl (HF1.out.below hb) ((HYY.out.below HB.out).below hb))
  have HXB := hide fun (W : World) (hb : Below w1.heap.size w1 W) => Below.blk hb HX1.out
  clear hx hy ihx ihy
  refine wp_region_held_drew (S := Rdx w.heap.size X 7 8 8 (.pointer (some ⟨Q, 0, none⟩)) (.pointer (some ⟨U, 0, none⟩)) (.pointer (some ⟨U, 0, none⟩)) (.func F #[] cs)) (by kernel_rfl) (HS.out.below HBD.out) (fun _ => ?_)
  refine wpAnyH_take (i := 0) (oi := ⟨some 8, _, _, _, _, _⟩) (v := .agg #[.func F #[] cs]) rfl (by kernel_rfl) (by kernel_rfl) (by kernel_rfl) (fun _ _ _ h => h) (Or.inl ⟨by rfl, fun W hS => by obtain ⟨s0, s1, s2, s3⟩ := hS; go_simp⟩) (HS.out.below HBD.out) ?_
  simp only [Act.put, List.setIfInBounds_toArray, List.set_cons_zero, List.set_cons_succ]
  refine wpAnyH_take (i := 1) (oi := ⟨some 9, _, _, _, _, _⟩) (v := (.pointer (some ⟨X, 0, none⟩))) rfl (by kernel_rfl) (by kernel_rfl) (by kernel_rfl) (fun _ _ _ h => h) (Or.inl ⟨by rfl, fun W hS => by obtain ⟨s0, s1, s2, s3⟩ := hS; go_simp⟩) (HS.out.below HBD.out) ?_
  simp only [Act.put, List.setIfInBounds_toArray, List.set_cons_zero, List.set_cons_succ]
  refine wpAnyH_take (i := 2) (oi := ⟨some 10, _, _, _, _, _⟩) (v := (.pointer (some ⟨X, 0, none⟩))) rfl (by kernel_rfl) (by kernel_rfl) (by kernel_rfl) (fun _ _ _ h => h) (Or.inl ⟨by rfl, fun W hS => by obtain ⟨s0, s1, s2, s3⟩ := hS; go_simp⟩) (HS.out.below HBD.out) ?_
  simp only [Act.put, List.setIfInBounds_toArray, List.set_cons_zero, List.set_cons_succ]
  refine wpAnyH_take (i := 3) (oi := ⟨some 11, _, _, _, _, _⟩) (v := .pointer (some ⟨X, 7, none⟩)) rfl (by kernel_rfl) (by kernel_rfl) (by kernel_rfl) (fun _ _ _ h => h) (Or.inl ⟨by rfl, fun W hS => by obtain ⟨s0, s1, s2, s3⟩ := hS; go_simp⟩) (HS.out.below HBD.out) ?_
  simp only [Act.put, List.setIfInBounds_toArray, List.set_cons_zero, List.set_cons_succ]
  refine wpAnyH_take (i := 4) (oi := ⟨some 12, _, _, _, _, _⟩) (v := .pointer (some ⟨Q, 0, none⟩)) rfl (by kernel_rfl) (by kernel_rfl) (by kernel_rfl) (fun _ _ _ h => h) (Or.inl ⟨by rfl, fun W hS => by obtain ⟨s0, s1, s2, s3⟩ := hS; go_simp⟩) (HS.out.below HBD.out) ?_
  simp only [Act.put, List.setIfInBounds_toArray, List.set_cons_zero, List.set_cons_succ]
  refine wpAnyH_take (i := 6) (oi := ⟨some 14, _, _, _, _, _⟩) (v := .agg #[.func F #[] cs]) rfl (by kernel_rfl) (by kernel_rfl) (by kernel_rfl) (fun _ _ _ h => h) (Or.inl ⟨by rfl, fun W hS => by obtain ⟨s0, s1, s2, s3⟩ := hS; go_simp⟩) (HS.out.below HBD.out) ?_
  simp only [Act.put, List.setIfInBounds_toArray, List.set_cons_zero, List.set_cons_succ]
  refine wpAnyH_take (i := 7) (oi := ⟨some 15, _, _, _, _, _⟩) (v := (.pointer (some ⟨X, 0, none⟩))) rfl (by kernel_rfl) (by kernel_rfl) (by kernel_rfl) (fun _ _ _ h => h) (Or.inl ⟨by rfl, fun W hS => by obtain ⟨s0, s1, s2, s3⟩ := hS; go_simp⟩) (HS.out.below HBD.out) ?_
  simp only [Act.put, List.setIfInBounds_toArray, List.set_cons_zero, List.set_cons_succ]
  refine wpAnyH_take (i := 8) (oi := ⟨some 16, _, _, _, _, _⟩) (v := (.pointer (some ⟨X, 0, none⟩))) rfl (by kernel_rfl) (by kernel_rfl) (by kernel_rfl) (fun _ _ _ h => h) (Or.inl ⟨by rfl, fun W hS => by obtain ⟨s0, s1, s2, s3⟩ := hS; go_simp⟩) (HS.out.below HBD.out) ?_
  simp only [Act.put, List.setIfInBounds_toArray, List.set_cons_zero, List.set_cons_succ]
  refine wpAnyH_take (i := 9) (oi := ⟨some 17, _, _, _, _, _⟩) (v := .pointer (some ⟨X, 8, none⟩)) rfl (by kernel_rfl) (by kernel_rfl) (by kernel_rfl) (fun _ _ _ h => h) (Or.inl ⟨by rfl, fun W hS => by obtain ⟨s0, s1, s2, s3⟩ := hS; go_simp⟩) (HS.out.below HBD.out) ?_
  simp only [Act.put, List.setIfInBounds_toArray, List.set_cons_zero, List.set_cons_succ]
  refine wpAnyH_take (i := 10) (oi := ⟨some 18, _, _, _, _, _⟩) (v := .pointer (some ⟨U, 0, none⟩)) rfl (by kernel_rfl) (by kernel_rfl) (by kernel_rfl) (fun _ _ _ h => h) (Or.inl ⟨by rfl, fun W hS => by obtain ⟨s0, s1, s2, s3⟩ := hS; go_simp⟩) (HS.out.below HBD.out) ?_
  simp only [Act.put, List.setIfInBounds_toArray, List.set_cons_zero, List.set_cons_succ]
  refine wpAnyH_ready (rs := [5]) (by kernel_rfl) (by simp) ?_
  refine AllReadyH.cons rfl (fun K hK => ?_) AllReadyH.nil
  go_simp
  refine (HKX.out _ HBD.out).mono ?_
  rintro e w3 h3
  rcases h3.cases with ⟨er, q, A, hr, rfl, hA, hb3⟩ | ⟨a, v, hr, rfl, hv, hb3⟩
  · exact ⟨rfl, Cks.bad (by rw [HR.out, hr]; rfl) (Below.step HB.out (Below.step HBD.out hb3)) hA⟩
  have hv : v = .int .i64 (a : Nat) := hv
  subst hv
  have HR3 := hide hr
  have HB3 := hide (Below.step HBD.out hb3)
  clear h3 hr hb3
  refine hK.out _ _ (HS.out.below HB3.out) (fun _ => ?_)
  clear hK K
  refine wpAnyH_ready (rs := [11]) (by kernel_rfl) (by simp) ?_
  refine AllReadyH.cons rfl (fun K hK => ?_) AllReadyH.nil
  go_simp
  refine (HKY.out _ HB3.out).mono ?_
  rintro e w6 h6
  rcases h6.cases with ⟨er, q, A, hr, rfl, hA, hb6⟩ | ⟨b, v, hr, rfl, hv, hb6⟩
  · exact ⟨rfl, Cks.bad (by rw [HR.out, HR3.out]; simp only [Ck.bind, hr]) (Below.step HB.out (Below.step HB3.out hb6)) hA⟩
  have hv : v = .int .i64 (b : Nat) := hv
  subst hv
  have HR6 := hide hr
  have HB6 := hide (Below.step HB3.out hb6)
  clear h6 hr hb6
  refine hK.out _ _ (HS.out.below HB6.out) (fun _ => ?_)
  clear hK K
  refine wpAnyH_take (i := 12) (oi := ⟨some 5, _, _, _, _, _⟩) (v := .int .i64 (a : Nat)) rfl (by kernel_rfl) (by kernel_rfl) (by kernel_rfl) (fun _ _ _ h => h) (Or.inl ⟨by rfl, fun W hS => by obtain ⟨s0, s1, s2, s3⟩ := hS; go_simp⟩) (HS.out.below HB6.out) ?_
  simp only [Act.put, List.setIfInBounds_toArray, List.set_cons_zero, List.set_cons_succ]
  refine wpAnyH_take (i := 13) (oi := ⟨some 6, _, _, _, _, _⟩) (v := .int .i64 (b : Nat)) rfl (by kernel_rfl) (by kernel_rfl) (by kernel_rfl) (fun _ _ _ h => h) (Or.inl ⟨by rfl, fun W hS => by obtain ⟨s0, s1, s2, s3⟩ := hS; go_simp⟩) (HS.out.below HB6.out) ?_
  simp only [Act.put, List.setIfInBounds_toArray, List.set_cons_zero, List.set_cons_succ]
  refine wpAnyH_done (by kernel_rfl) ?_ _
  have HX6 := hide (HXB.out _ HB6.out)
  have f1 : w6.cell? ⟨X, 1, none⟩ = some (.int .i64 p) := by rw [blk_cell HX6.out]; rfl
  have f6 : w6.cell? ⟨X, 6, none⟩ = some (.string op) := by rw [blk_cell HX6.out]; rfl
  have HRS := hide (result_at op a b w6)
  go_wp2_with fail
  refine HRS.out.mono ?_
  rintro e w7 ⟨rfl, rfl⟩
  by_cases hw0 : resN op.toList a b = 0
  · have HR2 : Hid (kindC (findC ds) (.bin p op x y) = .bad 1 p) := hide (by rw [HR.out, HR3.out]; simp only [Ck.bind, HR6.out, if_pos hw0])
    rw [hw0]
    go_wp2_with fail
    refine (throw_at 1 p _).mono ?_
    rintro e w8 ⟨⟨A, rfl, hA⟩, hb7⟩
    have HA := hide hA
    have HB7 := hide (Below.step HB.out (Below.step HB6.out hb7))
    clear hA hb7
    go_wp2_with fail
    exact ⟨rfl, Cks.bad HR2.out HB7.out HA.out⟩
  · have HR2 : Hid (kindC (findC ds) (.bin p op x y) = .ok (resN op.toList a b)) := hide (by rw [HR.out, HR3.out]; simp only [Ck.bind, HR6.out, if_neg hw0])
    have hwi : (((resN op.toList a b : Nat) : Int) == 0) = false := by simp; omega
    generalize resN op.toList a b = wd at *
    go_wp2_with fail
    go_ret
    exact Cks.ok HR2.out (Below.step HB.out HB6.out) rfl
end Go.Proofs.YtiimnnancblbkaaDoor
set_option linter.unusedSimpArgs false
set_option linter.unusedVariables false
namespace Go.Proofs.YtiimnnancblbkaaDoor
open Go.RowKit

set_option maxRecDepth 100000 in
set_option maxHeartbeats 6400000 in
theorem kind_num (p n ty : Nat) : KindOK (.num p n ty) := by
  intro S w v LV ds hl h hx
  obtain ⟨X, rfl, hSX, hX⟩ := hx
  have HB := hide (below_alloc w (.cells #[LV] 67))
  have HN := hide (blk_new w (.cells #[LV] 67))
  have HX1 := hide (Below.blk HB.out hX)
  have HF1 := hide (h.below HB.out)
  have hq : ∀ (A : Addr) (w : World), (binOp .eql 45 (.pointer (some A)) (.pointer none)).run Tryd.prog w = .ok (.bool false) w := fun _ _ => rfl
  obtain ⟨F, cs, rfl⟩ := h.fn
  clear h hX
  go_enter Tryd.func60, Tryd.ntmps60
  have x0 : (w.alloc (.cells #[.func F #[] cs] 67)).cell? ⟨X, 0, none⟩ = some (.int .i64 1) := by rw [blk_cell HX1.out]; rfl
  have x3 : (w.alloc (.cells #[.func F #[] cs] 67)).cell? ⟨w.heap.size, 0, none⟩ = some (.func F #[] cs) := by rw [blk_cell HN.out]; rfl
  have x2 : (w.alloc (.cells #[.func F #[] cs] 67)).cell? ⟨X, 3, none⟩ = some (.int .i64 ty) := by rw [blk_cell HX1.out]; rfl
  go_wp2_with fail
  go_ret
  exact Cks.ok rfl HB.out rfl

theorem lname_at {w : World} {LV : Value} {ds : List De} (hl : ds.length ≤ 30) (h : Fd w LV ds) (p : Nat) (s : ByteArray) (X : Nat) (hX : w.heap[X]? = some (.cells #[.int .i64 2, .int .i64 p, .int .i64 0, .int .i64 0, .string s, .string ⟨#[]⟩, .string ⟨#[]⟩, .pointer none, .pointer none] 50 (0, 0))) :
    Calls Tryd.prog 75 #[lkV LV, .pointer (some ⟨X, 0, none⟩)] w (Cks w TyRep (kindC (findC ds) (.name p s))) := by
  cases hdc : declC (findC ds) s p with
  | bad er q => exact lname_bad hl h s p X hX er q hdc
  | ok d => exact lname_ok hl h s p X hX d.name d.way d.ty d.init hdc

set_option maxRecDepth 100000 in
set_option maxHeartbeats 6400000 in
theorem kind_name (p : Nat) (s : ByteArray) : KindOK (.name p s) := by
  intro S w v LV ds hl h hx
  obtain ⟨X, rfl, hSX, hX⟩ := hx
  have HB := hide (below_alloc w (.cells #[LV] 67))
  have HN := hide (blk_new w (.cells #[LV] 67))
  have HX1 := hide (Below.blk HB.out hX)
  have HF1 := hide (h.below HB.out)
  have hq : ∀ (A : Addr) (w : World), (binOp .eql 45 (.pointer (some A)) (.pointer none)).run Tryd.prog w = .ok (.bool false) w := fun _ _ => rfl
  obtain ⟨F, cs, rfl⟩ := h.fn
  clear h hX
  have HC := hide (lname_at hl HF1.out p s X HX1.out)
  go_enter Tryd.func60, Tryd.ntmps60
  have x0 : (w.alloc (.cells #[.func F #[] cs] 67)).cell? ⟨X, 0, none⟩ = some (.int .i64 2) := by rw [blk_cell HX1.out]; rfl
  have x3 : (w.alloc (.cells #[.func F #[] cs] 67)).cell? ⟨w.heap.size, 0, none⟩ = some (.func F #[] cs) := by rw [blk_cell HN.out]; rfl
  go_wp2_with fail
  refine HC.out.mono ?_
  rintro e w3 h3
  rcases h3.cases with ⟨er, q, A, hr, rfl, hA, hb3⟩ | ⟨a, v, hr, rfl, hv, hb3⟩
  · have HR := hide hr
    have HA := hide hA
    have HB3 := hide (Below.step HB.out hb3)
    clear h3 hr hA hb3
    go_wp2_with fail
    exact ⟨rfl, Cks.bad (HR.out) HB3.out HA.out⟩
  · have hv : v = .int .i64 (a : Nat) := hv
    subst hv
    have HR := hide hr
    have HB3 := hide (Below.step HB.out hb3)
    clear h3 hr hb3
    go_wp2_with fail
    go_ret
    exact Cks.ok (HR.out) HB3.out rfl

theorem lfield_at {w : World} {LV : Value} {ds : List De} (hl : ds.length ≤ 30) (h : Fd w LV ds) (p : Nat) (s g : ByteArray) (X : Nat) (hX : w.heap[X]? = some (.cells #[.int .i64 3, .int .i64 p, .int .i64 0, .int .i64 0, .string s, .string g, .string ⟨#[]⟩, .pointer none, .pointer none] 50 (0, 0))) :
    Calls Tryd.prog 76 #[lkV LV, .pointer (some ⟨X, 0, none⟩)] w (Cks w TyRep (kindC (findC ds) (.field p s g))) := by
  cases hdc : declC (findC ds) s p with
  | bad er q => exact lfield_bad hl h s g p X hX er q hdc
  | ok d => exact lfield_ok hl h s g p X hX d.name d.way d.ty d.init hdc

set_option maxRecDepth 100000 in
set_option maxHeartbeats 6400000 in
theorem kind_field (p : Nat) (s g : ByteArray) : KindOK (.field p s g) := by
  intro S w v LV ds hl h hx
  obtain ⟨X, rfl, hSX, hX⟩ := hx
  have HB := hide (below_alloc w (.cells #[LV] 67))
  have HN := hide (blk_new w (.cells #[LV] 67))
  have HX1 := hide (Below.blk HB.out hX)
  have HF1 := hide (h.below HB.out)
  have hq : ∀ (A : Addr) (w : World), (binOp .eql 45 (.pointer (some A)) (.pointer none)).run Tryd.prog w = .ok (.bool false) w := fun _ _ => rfl
  obtain ⟨F, cs, rfl⟩ := h.fn
  clear h hX
  have HC := hide (lfield_at hl HF1.out p s g X HX1.out)
  go_enter Tryd.func60, Tryd.ntmps60
  have x0 : (w.alloc (.cells #[.func F #[] cs] 67)).cell? ⟨X, 0, none⟩ = some (.int .i64 3) := by rw [blk_cell HX1.out]; rfl
  have x3 : (w.alloc (.cells #[.func F #[] cs] 67)).cell? ⟨w.heap.size, 0, none⟩ = some (.func F #[] cs) := by rw [blk_cell HN.out]; rfl
  go_wp2_with fail
  refine HC.out.mono ?_
  rintro e w3 h3
  rcases h3.cases with ⟨er, q, A, hr, rfl, hA, hb3⟩ | ⟨a, v, hr, rfl, hv, hb3⟩
  · have HR := hide hr
    have HA := hide hA
    have HB3 := hide (Below.step HB.out hb3)
    clear h3 hr hA hb3
    go_wp2_with fail
    exact ⟨rfl, Cks.bad (HR.out) HB3.out HA.out⟩
  · have hv : v = .int .i64 (a : Nat) := hv
    subst hv
    have HR := hide hr
    have HB3 := hide (Below.step HB.out hb3)
    clear h3 hr hb3
    go_wp2_with fail
    go_ret
    exact Cks.ok (HR.out) HB3.out rfl

set_option maxRecDepth 100000 in
set_option maxHeartbeats 6400000 in
theorem kind_not (p : Nat) (x : Ex) (ih : KindOK x) : KindOK (.not p x) := by
  intro S w v LV ds hl h hx
  obtain ⟨X, a, rfl, hSX, hX, hxa⟩ := hx
  obtain ⟨Q, rfl⟩ := hxa.ptr
  have HXA := hide hxa
  have HB := hide (below_alloc w (.cells #[LV] 67))
  have HN := hide (blk_new w (.cells #[LV] 67))
  have HX1 := hide (Below.blk HB.out hX)
  have HF1 := hide (h.below HB.out)
  have hq : ∀ (A : Addr) (w : World), (binOp .eql 45 (.pointer (some A)) (.pointer none)).run Tryd.prog w = .ok (.bool false) w := fun _ _ => rfl
  obtain ⟨F, cs, rfl⟩ := h.fn
  clear h hX
  have HC : Hid (∀ W, Below (w.alloc (.cells #[.func F #[] cs] 67)).heap.size (w.alloc (.cells #[.func F #[] cs] 67)) W → Calls Tryd.prog 60 #[.agg #[.func F #[] cs], .pointer (some ⟨Q, 0, none⟩)] W (Cks W TyRep (kindC (findC ds) x))) := hide (fun W hb => ih S W _ _ ds hl (HF1.out.below hb) ((HXA.out.below HB.out).below hb))
  clear ih hxa
  go_enter Tryd.func60, Tryd.ntmps60
  have x0 : (w.alloc (.cells #[.func F #[] cs] 67)).cell? ⟨X, 0, none⟩ = some (.int .i64 4) := by rw [blk_cell HX1.out]; rfl
  have x3 : (w.alloc (.cells #[.func F #[] cs] 67)).cell? ⟨w.heap.size, 0, none⟩ = some (.func F #[] cs) := by rw [blk_cell HN.out]; rfl
  go_wp2_with fail
  generalize (w.alloc (.cells #[.func F #[] cs] 67)) = w1 at *
  have HS : Hid (Rdx w.heap.size X 7 7 7 (.pointer (some ⟨Q, 0, none⟩)) (.pointer (some ⟨Q, 0, none⟩)) (.pointer (some ⟨Q, 0, none⟩)) (.func F #[] cs) w1) := hide ⟨by rw [blk_cell HN.out]; rfl, by rw [blk_cell HX1.out]; rfl, by rw [blk_cell HX1.out]; rfl, by rw [blk_cell HX1.out]; rfl⟩
  have HBD := hide (show Below w1.heap.size w1 w1.drew from (Below.refl _ _).drew)
  refine wp_region_held_drew (S := Rdx w.heap.size X 7 7 7 (.pointer (some ⟨Q, 0, none⟩)) (.pointer (some ⟨Q, 0, none⟩)) (.pointer (some ⟨Q, 0, none⟩)) (.func F #[] cs)) (by kernel_rfl) (HS.out.below HBD.out) (fun _ => ?_)
  refine wpAnyH_take (i := 0) (oi := ⟨some 29, _, _, _, _, _⟩) (v := .agg #[.func F #[] cs]) rfl (by kernel_rfl) (by kernel_rfl) (by kernel_rfl) (fun _ _ _ h => h) (Or.inl ⟨by rfl, fun W hS => by obtain ⟨s0, s1, s2, s3⟩ := hS; go_simp⟩) (HS.out.below HBD.out) ?_
  simp only [Act.put, List.setIfInBounds_toArray, List.set_cons_zero, List.set_cons_succ]
  refine wpAnyH_take (i := 1) (oi := ⟨some 30, _, _, _, _, _⟩) (v := (.pointer (some ⟨X, 0, none⟩))) rfl (by kernel_rfl) (by kernel_rfl) (by kernel_rfl) (fun _ _ _ h => h) (Or.inl ⟨by rfl, fun W hS => by obtain ⟨s0, s1, s2, s3⟩ := hS; go_simp⟩) (HS.out.below HBD.out) ?_
  simp only [Act.put, List.setIfInBounds_toArray, List.set_cons_zero, List.set_cons_succ]
  refine wpAnyH_take (i := 2) (oi := ⟨some 31, _, _, _, _, _⟩) (v := (.pointer (some ⟨X, 0, none⟩))) rfl (by kernel_rfl) (by kernel_rfl) (by kernel_rfl) (fun _ _ _ h => h) (Or.inl ⟨by rfl, fun W hS => by obtain ⟨s0, s1, s2, s3⟩ := hS; go_simp⟩) (HS.out.below HBD.out) ?_
  simp only [Act.put, List.setIfInBounds_toArray, List.set_cons_zero, List.set_cons_succ]
  refine wpAnyH_take (i := 3) (oi := ⟨some 32, _, _, _, _, _⟩) (v := .pointer (some ⟨X, 7, none⟩)) rfl (by kernel_rfl) (by kernel_rfl) (by kernel_rfl) (fun _ _ _ h => h) (Or.inl ⟨by rfl, fun W hS => by obtain ⟨s0, s1, s2, s3⟩ := hS; go_simp⟩) (HS.out.below HBD.out) ?_
  simp only [Act.put, List.setIfInBounds_toArray, List.set_cons_zero, List.set_cons_succ]
  refine wpAnyH_take (i := 4) (oi := ⟨some 33, _, _, _, _, _⟩) (v := .pointer (some ⟨Q, 0, none⟩)) rfl (by kernel_rfl) (by kernel_rfl) (by kernel_rfl) (fun _ _ _ h => h) (Or.inl ⟨by rfl, fun W hS => by obtain ⟨s0, s1, s2, s3⟩ := hS; go_simp⟩) (HS.out.below HBD.out) ?_
  simp only [Act.put, List.setIfInBounds_toArray, List.set_cons_zero, List.set_cons_succ]
  refine wpAnyH_ready (rs := [5]) (by kernel_rfl) (by simp) ?_
  refine AllReadyH.cons rfl (fun K hK => ?_) AllReadyH.nil
  go_simp
  refine (HC.out _ HBD.out).mono ?_
  rintro e w3 h3
  rcases h3.cases with ⟨er, q, A, hr, rfl, hA, hb3⟩ | ⟨a, v, hr, rfl, hv, hb3⟩
  · exact ⟨rfl, Cks.bad (show kindC (findC ds) x = _ from hr) (Below.step HB.out (Below.step HBD.out hb3)) hA⟩
  have hv : v = .int .i64 (a : Nat) := hv
  subst hv
  have HR3 := hide hr
  have HB3 := hide (Below.step HBD.out hb3)
  clear h3 hr hb3
  refine hK.out _ _ (HS.out.below HB3.out) (fun _ => ?_)
  clear hK K
  refine wpAnyH_take (i := 6) (oi := ⟨some 4, _, _, _, _, _⟩) (v := .int .i64 (a : Nat)) rfl (by kernel_rfl) (by kernel_rfl) (by kernel_rfl) (fun _ _ _ h => h) (Or.inl ⟨by rfl, fun W hS => by obtain ⟨s0, s1, s2, s3⟩ := hS; go_simp⟩) (HS.out.below HB3.out) ?_
  simp only [Act.put, List.setIfInBounds_toArray, List.set_cons_zero, List.set_cons_succ]
  refine wpAnyH_done (by kernel_rfl) ?_ _
  go_wp2_with fail
  go_ret
  exact Cks.ok (show kindC (findC ds) x = _ from HR3.out) (Below.step HB.out HB3.out) rfl

set_option maxRecDepth 100000 in
set_option maxHeartbeats 6400000 in
theorem kind_bin (p : Nat) (op : ByteArray) (x y : Ex) (ihx : KindOK x) (ihy : KindOK y) : KindOK (.bin p op x y) := by
  intro S w v LV ds hl h hx
  obtain ⟨X, a, c, rfl, hSX, hX, hxa, hyc⟩ := hx
  obtain ⟨Q, rfl⟩ := hxa.ptr
  obtain ⟨U, rfl⟩ := hyc.ptr
  have HXA := hide hxa
  have HYC := hide hyc
  have HB := hide (below_alloc w (.cells #[LV] 67))
  have HN := hide (blk_new w (.cells #[LV] 67))
  have HX1 := hide (Below.blk HB.out hX)
  have HF1 := hide (h.below HB.out)
  have hq : ∀ (A : Addr) (w : World), (binOp .eql 45 (.pointer (some A)) (.pointer none)).run Tryd.prog w = .ok (.bool false) w := fun _ _ => rfl
  obtain ⟨F, cs, rfl⟩ := h.fn
  clear h hX
  have HC := hide (ltwo_at hl HF1.out op x y p S X Q U HX1.out (HXA.out.below HB.out) (HYC.out.below HB.out) ihx ihy)
  clear hxa hyc ihx ihy
  go_enter Tryd.func60, Tryd.ntmps60
  have x0 : (w.alloc (.cells #[.func F #[] cs] 67)).cell? ⟨X, 0, none⟩ = some (.int .i64 5) := by rw [blk_cell HX1.out]; rfl
  have x3 : (w.alloc (.cells #[.func F #[] cs] 67)).cell? ⟨w.heap.size, 0, none⟩ = some (.func F #[] cs) := by rw [blk_cell HN.out]; rfl
  go_wp2_with fail
  refine HC.out.mono ?_
  rintro e w3 h3
  rcases h3.cases with ⟨er, q, A, hr, rfl, hA, hb3⟩ | ⟨a, v, hr, rfl, hv, hb3⟩
  · have HR := hide hr
    have HA := hide hA
    have HB3 := hide (Below.step HB.out hb3)
    clear h3 hr hA hb3
    go_wp2_with fail
    exact ⟨rfl, Cks.bad (HR.out) HB3.out HA.out⟩
  · have hv : v = .int .i64 (a : Nat) := hv
    subst hv
    have HR := hide hr
    have HB3 := hide (Below.step HB.out hb3)
    clear h3 hr hb3
    go_wp2_with fail
    go_ret
    exact Cks.ok (HR.out) HB3.out rfl

theorem kind_all : ∀ (x : Ex), KindOK x
  | .num p n ty => kind_num p n ty
  | .name p s => kind_name p s
  | .field p s g => kind_field p s g
  | .not p x => kind_not p x (kind_all x)
  | .bin p op x y => kind_bin p op x y (kind_all x) (kind_all y)
end Go.Proofs.YtiimnnancblbkaaDoor
