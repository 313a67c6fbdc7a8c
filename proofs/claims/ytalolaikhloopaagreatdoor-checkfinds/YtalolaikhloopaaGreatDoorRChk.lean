/-
 CONTRACTS of fails, kind, must of the reference's checker, which notes what was wrong first: what it notes is what the looker throws.
-/
import Derived.Test.YtalolaikhloopaaGreatDoorTk
import Derived.Test.YtalolaikhloopaaGreatDoorRRes
import Derived.Test.YtalolaikhloopaaGreatDoorRField
import Derived.Test.YtalolaikhloopaaGreatDoorJLook
import Derived.Test.YtalolaikhloopaaGreatDoorJPrt
namespace Go.Proofs.YtalolaikhloopaaGreatDoor
open Go.RowKit
set_option linter.unusedSimpArgs false
set_option linter.unusedVariables false

def Ck.un {α : Type} : Ck α → Ck Unit | .bad e p => .bad e p | .ok _ => .ok ()
def valK : Ck Nat → Nat | .bad _ _ => 0 | .ok n => n
theorem Ck.bind_ok (u : Unit) {β : Type} (f : Unit → Ck β) : Ck.bind (.ok u) f = f () := rfl
theorem field_IN (ty : Nat) (s : List UInt8) : fieldI (ty : Int) s = (fieldN ty s : Nat) := by
 unfold fieldI fieldN argsN
 rcases fieldK_split s with ⟨c1, c2, c3⟩ | ⟨c1, c2, c3⟩ | ⟨c1, c2, c3⟩ | ⟨c1, c2, c3⟩ <;> simp only [c1, c2, c3, if_true, if_false, Bool.false_eq_true, false_and, true_and, false_or, or_false]
 ·rcases (show ty = 3 ∨ ty = 4 ∨ ty = 5 ∨ (ty ≠ 3 ∧ ty ≠ 4 ∧ ty ≠ 5) by omega) with rfl | rfl | rfl | ⟨h3, h4, h5⟩
  ·rfl
  ·rfl
  ·rfl
  ·simp only [h3, h4, h5, if_false]
   rw [if_neg (by omega)]
   rfl
 ·by_cases h : ty = 3
  ·subst h; rfl
  ·rw [if_neg (by omega), if_neg h]; rfl
 ·by_cases h : ty = 4
  ·subst h; rfl
  ·rw [if_neg (by omega), if_neg h]; rfl
 ·rfl

/-- what lies in the map of names -/
def entsD : Nat → List De → List MapEntry
 | _, [] => []
 | i, d :: l => ⟨.string d.name, deV d, i⟩ :: entsD (i + 1) l
theorem entsD_snoc : ∀ (i : Nat) (l : List De) (d : De), entsD i (l ++ [d]) = entsD i l ++ [⟨.string d.name, deV d, i + l.length⟩]
 | i, [], d => rfl
 | i, e :: l, d => by
  simp only [List.cons_append, entsD, entsD_snoc (i + 1) l d, List.length_cons]
  rw [show i + 1 + l.length = i + (l.length + 1) by omega]
theorem find_entsD (s : ByteArray) : ∀ (l : List De) (i j : Nat), (findC l s = none → Instr.findNow .string (.string s) (entsD i l) j = some none) ∧ (∀ d, findC l s = some d → ∃ n, Instr.findNow .string (.string s) (entsD i l) j = some (some (n, deV d)))
 | [], i, j => ⟨fun _ => rfl, fun d h => by cases h⟩
 | d :: l, i, j => by
  have e : (s == d.name) = (d.name.toList == s.toList) := by
   rw [beq_toListBytes]
   rw [Bool.eq_iff_iff, beq_iff_eq, beq_iff_eq]; exact eq_comm
  have ih := find_entsD s l (i + 1) (j + 1)
  unfold findC at ih ⊢
  simp only [entsD, Instr.findNow, Instr.sameNow, e, List.find?_cons]
  cases hc : (d.name.toList == s.toList) with
  | true =>
   refine ⟨fun h => (by cases h), fun d' h => ?_⟩
   cases h
   exact ⟨j, by simp⟩
  | false =>
   simp only [Bool.false_eq_true, if_false]
   exact ih
theorem lookD_yes {W : World} {M : Nat} {es : Array MapEntry} {c : Nat} (h0 : W.heap[M]? = some (.map es c)) (k : ByteArray) (n : Nat) (v : Value) (hf : Instr.findNow .string (.string k) es.toList 0 = some (some (n, v))) :
  (Instr.lookup 142 (.map (some M)) (.string k) true).run Tryz.prog W = .ok (.tuple #[v, .bool true]) W := by
 have h1 := fun b => key_ok' b k
 have h2 : (getObj M).run Tryz.prog W = .ok (.map es c) W := by simp only [getObj, Sem.run, h0]
 simp [Instr.lookup, go_sem, Instr.findKey, h1, h2, hf]
theorem lookD_no {W : World} {M : Nat} {es : Array MapEntry} {c : Nat} (h0 : W.heap[M]? = some (.map es c)) (k : ByteArray) (hf : Instr.findNow .string (.string k) es.toList 0 = some none) :
  (Instr.lookup 142 (.map (some M)) (.string k) true).run Tryz.prog W = .ok (.tuple #[.agg #[.string ⟨#[]⟩, .int .i64 0, .int .i64 0, .int .i64 0], .bool false]) W := by
 have h1 := fun b => key_ok' b k
 have h2 : (getObj M).run Tryz.prog W = .ok (.map es c) W := by simp only [getObj, Sem.run, h0]
 simp [Instr.lookup, go_sem, Instr.findKey, h1, h2, hf]
/-- what is looked up: what is declared, or nothing -/
def gotD (ds : List De) (s : ByteArray) : De × Bool := match findC ds s with | some d => (d, true) | none => (⟨⟨#[]⟩, 0, 0, 0⟩, false)
theorem lookD {W : World} {M : Nat} {ds : List De} (h0 : W.heap[M]? = some (.map (entsD 0 ds).toArray ds.length)) (k : ByteArray) :
  (Instr.lookup 142 (.map (some M)) (.string k) true).run Tryz.prog W = .ok (.tuple #[deV (gotD ds k).1, .bool (gotD ds k).2]) W := by
 have h := find_entsD k ds 0 0
 unfold gotD
 cases hf : findC ds k with
 | none => exact lookD_no h0 k (h.1 hf)
 | some d =>
  obtain ⟨n, hn⟩ := h.2 d hf
  exact lookD_yes h0 k n (deV d) hn

/-- the checker -/
structure Cc (w : World) (C M : Nat) (ds : List De) (er pl : Int) : Prop where
 me : w.heap[C]? = some (.cells #[.map (some M), .int .i64 er, .int .i64 pl] 144 (0, 0))
 map : w.heap[M]? = some (.map (entsD 0 ds).toArray ds.length)
 big : 12 ≤ C
 vars : RVars w
theorem Cc.ne {w : World} {C M : Nat} {ds : List De} {er pl : Int} (h : Cc w C M ds er pl) : M ≠ C := fun e => by
 have h1 := h.map
 rw [e, h.me] at h1
 cases h1
theorem Cc.below {w w' : World} {C M : Nat} {ds : List De} {er pl : Int} (h : Cc w C M ds er pl) (hb : Below w.heap.size w w') : Cc w' C M ds er pl := ⟨Below.blk hb h.me, Below.blk hb h.map, h.big, h.vars.below hb⟩
theorem Cc.set {w : World} {C M : Nat} {ds : List De} {er pl : Int} (h : Cc w C M ds er pl) (a b : Int) : Cc ((w.setCell ⟨C, 1, none⟩ (.int .i64 a)).setCell ⟨C, 2, none⟩ (.int .i64 b)) C M ds a b :=
 ⟨by rw [blk_set (blk_set h.me 1 _) 2 _]; rfl, (set_other _ 2 _ h.ne).trans ((set_other _ 1 _ h.ne).trans h.map), h.big, (h.vars.kept_of (Kept.set w 1 _) h.big).kept_of (Kept.set _ 2 _) h.big⟩
/-- what it notes, by what was found -/
def Cst (w : World) (C M : Nat) (ds : List De) : Ck Unit → Prop
 | .ok _ => Cc w C M ds 0 (-1)
 | .bad e p => Cc w C M ds e p
theorem Cst.below {w w' : World} {C M : Nat} {ds : List De} : ∀ {r : Ck Unit}, Cst w C M ds r → Below w.heap.size w w' → Cst w' C M ds r
 | .ok _, h, hb => Cc.below h hb
 | .bad _ _, h, hb => Cc.below h hb
theorem IsEx.past {S : Nat → Prop} {C : Nat} {w w' : World} {x : Ex} {v : Value} (h : IsEx S w x v) (hk : Kept C w w') (hS : ∀ b, S b → b ≠ C) : IsEx S w' x v := h.same fun b h1 h2 => hk.block b h2 (hS b h1)
theorem flt_ne (a b c d : Int) (w : World) : (binOp .neq 28 (.agg #[.int .i64 a, .int .i64 b]) (.agg #[.int .i64 c, .int .i64 d])).run Tryz.prog w = .ok (.bool (!(a == c && b == d))) w := by
 have h := flt_eq a b c d w
 have : (binOp .neq 28 (.agg #[.int .i64 a, .int .i64 b]) (.agg #[.int .i64 c, .int .i64 d])).run Tryz.prog w = if a = c then (if b = d then .ok (.bool false) w else .ok (.bool true) w) else .ok (.bool true) w := by
  go_simp
 rw [this]
 by_cases h1 : a = c <;> by_cases h2 : b = d <;> simp [h1, h2]

abbrev Dn (w : World) (C M : Nat) (ds : List De) (r : Ck Unit) : Ending → World → Prop := fun e w' => e = .returned (.tuple #[]) ∧ Cst w' C M ds r ∧ Kept C w w'

set_option maxRecDepth 100000 in
set_option maxHeartbeats 3200000 in
theorem cfails_good (er : Int) (p : Nat) {w : World} {C M : Nat} {ds : List De} (h : Cc w C M ds 0 (-1)) :
  Calls Tryz.prog 138 #[.pointer (some ⟨C, 0, none⟩), .int .i64 er, .int .i64 p] w (Dn w C M ds (.bad er p)) := by
 have he := flt_eq
 have c1 : w.cell? ⟨C, 1, none⟩ = some (.int .i64 0) := by rw [blk_cell h.me]; rfl
 have c2 : w.cell? ⟨C, 2, none⟩ = some (.int .i64 (-1)) := by rw [blk_cell h.me]; rfl
 have cf : ∀ i, w.frozen? ⟨C, i, none⟩ = false := blk_frozen h.me
 have g0 : w.cell? ⟨0, 0, none⟩ = some (.int .i64 0) := by rw [blk_cell h.vars.fine]; rfl
 have g1 : w.cell? ⟨0, 1, none⟩ = some (.int .i64 (-1)) := by rw [blk_cell h.vars.fine]; rfl
 have HC := hide h
 clear h
 go_enter Tryz.func138, Tryz.ntmps138
 go_wp2_with fail
 go_region
 go_wp2_with fail
 go_end0
 exact ⟨rfl, (HC.out.below ((Below.refl _ _).drew)).set er p, ((Kept.of (R := C) ((Below.refl w.heap.size w).drew)).step 1 _).step 2 _⟩

set_option maxRecDepth 100000 in
set_option maxHeartbeats 3200000 in
theorem cfails_bad (er : Int) (p : Nat) (e0 : Int) (p0 : Nat) {w : World} {C M : Nat} {ds : List De} (h : Cc w C M ds e0 p0) :
  Calls Tryz.prog 138 #[.pointer (some ⟨C, 0, none⟩), .int .i64 er, .int .i64 p] w (Dn w C M ds (.bad e0 p0)) := by
 have he := flt_eq
 have hq : (e0 == 0 && (p0 : Int) == -1) = false := by
  have : ((p0 : Int) == -1) = false := by rw [beq_eq_false_iff_ne]; omega
  rw [this, Bool.and_false]
 have c1 : w.cell? ⟨C, 1, none⟩ = some (.int .i64 e0) := by rw [blk_cell h.me]; rfl
 have c2 : w.cell? ⟨C, 2, none⟩ = some (.int .i64 p0) := by rw [blk_cell h.me]; rfl
 have g0 : w.cell? ⟨0, 0, none⟩ = some (.int .i64 0) := by rw [blk_cell h.vars.fine]; rfl
 have g1 : w.cell? ⟨0, 1, none⟩ = some (.int .i64 (-1)) := by rw [blk_cell h.vars.fine]; rfl
 have HC := hide h
 clear h
 go_enter Tryz.func138, Tryz.ntmps138
 go_wp2_with fail
 go_region
 go_wp2_with fail
 go_end0
 exact ⟨rfl, HC.out.below ((Below.refl _ _).drew), Kept.of ((Below.refl w.heap.size w).drew)⟩

theorem cfails_at (er : Int) (p : Nat) {w : World} {C M : Nat} {ds : List De} : ∀ {r : Ck Unit}, Cst w C M ds r →
  Calls Tryz.prog 138 #[.pointer (some ⟨C, 0, none⟩), .int .i64 er, .int .i64 p] w (Dn w C M ds (r.bind fun _ => .bad er p))
 | .ok _, h => cfails_good er p h
 | .bad e0 p0, h => cfails_bad er p e0 p0 h

/-- what a look at an expression comes to -/
def KR (x : Ex) : Prop := ∀ (S : Nat → Prop) (w : World) (C M : Nat) (ds : List De) (v : Value) (r : Ck Unit), Cst w C M ds r → IsEx S w x v → (∀ b, S b → b ≠ C) → GoodEx x →
 Calls Tryz.prog 193 #[.pointer (some ⟨C, 0, none⟩), v] w fun e w' => e = .returned (.int .i64 (valK (r.bind fun _ => kindC (findC ds) x) : Nat)) ∧ Cst w' C M ds (r.bind fun _ => (kindC (findC ds) x).un) ∧ Kept C w w'
/-- the same where nothing was wrong yet -/
def KG (x : Ex) : Prop := ∀ (S : Nat → Prop) (w : World) (C M : Nat) (ds : List De) (v : Value), Cc w C M ds 0 (-1) → IsEx S w x v → (∀ b, S b → b ≠ C) → GoodEx x →
 Calls Tryz.prog 193 #[.pointer (some ⟨C, 0, none⟩), v] w fun e w' => e = .returned (.int .i64 (valK (kindC (findC ds) x) : Nat)) ∧ Cst w' C M ds (kindC (findC ds) x).un ∧ Kept C w w'

set_option maxRecDepth 100000 in
set_option maxHeartbeats 3200000 in
theorem ckind_bad (e0 : Int) (p0 : Nat) {w : World} {C M : Nat} {ds : List De} (h : Cc w C M ds e0 p0) (v : Value) :
  Calls Tryz.prog 193 #[.pointer (some ⟨C, 0, none⟩), v] w fun e w' => e = .returned (.int .i64 0) ∧ Cst w' C M ds (.bad e0 p0) ∧ Kept C w w' := by
 have he := flt_ne
 have hq : (!(e0 == 0 && (p0 : Int) == -1)) = true := by
  have : ((p0 : Int) == -1) = false := by rw [beq_eq_false_iff_ne]; omega
  rw [this, Bool.and_false]; rfl
 have c1 : w.cell? ⟨C, 1, none⟩ = some (.int .i64 e0) := by rw [blk_cell h.me]; rfl
 have c2 : w.cell? ⟨C, 2, none⟩ = some (.int .i64 p0) := by rw [blk_cell h.me]; rfl
 have g0 : w.cell? ⟨0, 0, none⟩ = some (.int .i64 0) := by rw [blk_cell h.vars.fine]; rfl
 have g1 : w.cell? ⟨0, 1, none⟩ = some (.int .i64 (-1)) := by rw [blk_cell h.vars.fine]; rfl
 have HC := hide h
 clear h
 go_enter Tryz.func193, Tryz.ntmps193
 go_wp2_with fail
 go_region
 go_wp2_with fail
 go_ret
 exact ⟨rfl, HC.out.below ((Below.refl _ _).drew), Kept.of ((Below.refl w.heap.size w).drew)⟩
theorem kr_of {x : Ex} (h : KG x) : KR x := by
 intro S w C M ds v r hr hx hS hg
 cases r with
 | ok u => exact h S w C M ds v hr hx hS hg
 | bad e0 p0 => exact ckind_bad e0 p0 hr v

set_option maxRecDepth 100000 in
set_option maxHeartbeats 6400000 in
theorem ckind_num (p n ty : Nat) : KG (.num p n ty) := by
 intro S w C M ds v h hx hS hg
 obtain ⟨X, rfl, hSX, hX⟩ := hx
 have hfn := flt_ne
 have c1 : w.cell? ⟨C, 1, none⟩ = some (.int .i64 0) := by rw [blk_cell h.me]; rfl
 have c2 : w.cell? ⟨C, 2, none⟩ = some (.int .i64 (-1)) := by rw [blk_cell h.me]; rfl
 have g0 : w.cell? ⟨0, 0, none⟩ = some (.int .i64 0) := by rw [blk_cell h.vars.fine]; rfl
 have g1 : w.cell? ⟨0, 1, none⟩ = some (.int .i64 (-1)) := by rw [blk_cell h.vars.fine]; rfl
 have HC0 := hide h
 have HX0 := hide hX
 obtain ⟨dd, hdd⟩ : ∃ q, q = gotD ds ⟨#[]⟩ := ⟨_, rfl⟩
 have HDD := hide hdd
 have HLK : Hid (∀ W : World, W.heap[M]? = some (.map (entsD 0 ds).toArray ds.length) → (Instr.lookup 142 (.map (some M)) (.string ⟨#[]⟩) true).run Tryz.prog W = .ok (.tuple #[deV dd.1, .bool dd.2]) W) := hide fun W hW => by rw [hdd]; exact lookD hW ⟨#[]⟩
 clear h hX hdd
 obtain ⟨⟨dn, dw, dt, di⟩, dok⟩ := dd
 go_enter Tryz.func193, Tryz.ntmps193
 go_wp2_with fail
 go_region
 clear c1 c2 g0 g1
 go_wp2_with fail
 have HB1 := hide (show Below w.heap.size w w.drew.drew from ((Below.refl _ _).drew).drew)
 have HC1 := hide (HC0.out.below HB1.out)
 have HX1 := hide (Below.blk HB1.out HX0.out)
 generalize hww : w.drew = wq at *
 clear hww
 have HS : Hid (wq.drew.cell? ⟨C, 0, none⟩ = some (.map (some M)) ∧ wq.drew.cell? ⟨X, 4, none⟩ = some (.string ⟨#[]⟩) ∧ wq.drew.heap[M]? = some (.map (entsD 0 ds).toArray ds.length)) := hide ⟨by rw [blk_cell HC1.out.me]; rfl, by rw [blk_cell HX1.out]; rfl, HC1.out.map⟩
 refine wp_region_held_drew (S := fun W => W.cell? ⟨C, 0, none⟩ = some (.map (some M)) ∧ W.cell? ⟨X, 4, none⟩ = some (.string ⟨#[]⟩) ∧ W.heap[M]? = some (.map (entsD 0 ds).toArray ds.length)) (by kernel_rfl) HS.out (fun _ => ?_)
 refine tkA 0 17 (.pointer (some ⟨C, 0, none⟩)) rfl (by kernel_rfl) (fun _ _ _ h => h) rfl (fun W hS => by go_simp) HS.out ?_
 simp only [pu]
 refine tkA 1 18 (.pointer (some ⟨C, 0, none⟩)) rfl (by kernel_rfl) (fun _ _ _ h => h) rfl (fun W hS => by go_simp) HS.out ?_
 simp only [pu]
 refine tkA 2 19 (.pointer (some ⟨C, 0, none⟩)) rfl (by kernel_rfl) (fun _ _ _ h => h) rfl (fun W hS => by go_simp) HS.out ?_
 simp only [pu]
 refine tkA 3 20 (.map (some M)) rfl (by kernel_rfl) (fun _ _ _ h => h) rfl (fun W hS => by (have h0 := hS.1; go_simp)) HS.out ?_
 simp only [pu]
 refine tkA 4 21 (.pointer (some ⟨X, 0, none⟩)) rfl (by kernel_rfl) (fun _ _ _ h => h) rfl (fun W hS => by go_simp) HS.out ?_
 simp only [pu]
 refine tkA 5 22 (.pointer (some ⟨X, 0, none⟩)) rfl (by kernel_rfl) (fun _ _ _ h => h) rfl (fun W hS => by go_simp) HS.out ?_
 simp only [pu]
 refine tkA 6 23 (.pointer (some ⟨X, 4, none⟩)) rfl (by kernel_rfl) (fun _ _ _ h => h) rfl (fun W hS => by go_simp) HS.out ?_
 simp only [pu]
 refine tkA 7 24 (.string ⟨#[]⟩) rfl (by kernel_rfl) (fun _ _ _ h => h) rfl (fun W hS => by (have h0 := hS.2.1; go_simp)) HS.out ?_
 simp only [pu]
 refine tkA 8 25 (.tuple #[.agg #[.string dn, .int .i64 dw, .int .i64 dt, .int .i64 di], .bool dok]) rfl (by kernel_rfl) (fun _ _ _ h => h) rfl (fun W hS => by (have h0 := HLK.out W hS.2.2; go_simp)) HS.out ?_
 simp only [pu]
 refine tkA 9 16 (.tuple #[.agg #[.string dn, .int .i64 dw, .int .i64 dt, .int .i64 di], .bool dok]) rfl (by kernel_rfl) (fun _ _ _ h => h) rfl (fun W hS => by go_simp) HS.out ?_
 simp only [pu]
 refine tkA 10 26 (.agg #[.string dn, .int .i64 dw, .int .i64 dt, .int .i64 di]) rfl (by kernel_rfl) (fun _ _ _ h => h) rfl (fun W hS => by go_simp) HS.out ?_
 simp only [pu]
 refine tkA 11 27 (.bool dok) rfl (by kernel_rfl) (fun _ _ _ h => h) rfl (fun W hS => by go_simp) HS.out ?_
 simp only [pu]
 refine wpAnyH_ready (rs := [12]) (by kernel_rfl) (by simp) ?_
 refine AllReadyH.cons rfl (fun K hK => ?_) AllReadyH.nil
 go_simp
 have HBa := hide (below_alloc wq (.cells #[.string ⟨#[]⟩, .int .i64 0, .int .i64 0, .int .i64 0] 60))
 have HSa : Hid ((wq.alloc (.cells #[.string ⟨#[]⟩, .int .i64 0, .int .i64 0, .int .i64 0] 60)).drew.cell? ⟨C, 0, none⟩ = some (.map (some M)) ∧ (wq.alloc (.cells #[.string ⟨#[]⟩, .int .i64 0, .int .i64 0, .int .i64 0] 60)).drew.cell? ⟨X, 4, none⟩ = some (.string ⟨#[]⟩) ∧ (wq.alloc (.cells #[.string ⟨#[]⟩, .int .i64 0, .int .i64 0, .int .i64 0] 60)).drew.heap[M]? = some (.map (entsD 0 ds).toArray ds.length)) := hide ⟨(HBa.out.cell (cell_lt (w := wq) HS.out.1)).trans HS.out.1, (HBa.out.cell (cell_lt (w := wq) HS.out.2.1)).trans HS.out.2.1, Below.blk HBa.out HS.out.2.2⟩
 refine hK.out _ _ HSa.out (fun _ => ?_)
 clear hK K
 have HNa : Hid ((wq.alloc (.cells #[.string ⟨#[]⟩, .int .i64 0, .int .i64 0, .int .i64 0] 60)).drew.heap[wq.heap.size]? = some (.cells #[.string ⟨#[]⟩, .int .i64 0, .int .i64 0, .int .i64 0] 60 (0, 0))) := hide (blk_new wq _)
 have HBb : Hid (Below wq.heap.size wq (wq.alloc (.cells #[.string ⟨#[]⟩, .int .i64 0, .int .i64 0, .int .i64 0] 60)).drew) := hide HBa.out.drew
 have HNE : Hid (wq.heap.size ≠ C ∧ wq.heap.size ≠ X ∧ wq.heap.size ≠ M) := hide ⟨by have := blk_lt HC1.out.me; intro e; rw [← e] at this; exact Nat.lt_irrefl _ this, by have := blk_lt HX1.out; intro e; rw [← e] at this; exact Nat.lt_irrefl _ this, by have := blk_lt HC1.out.map; intro e; rw [← e] at this; exact Nat.lt_irrefl _ this⟩
 generalize (wq.alloc (.cells #[.string ⟨#[]⟩, .int .i64 0, .int .i64 0, .int .i64 0] 60)).drew = wa at *
 generalize hD : wq.heap.size = D at HNa HNE ⊢
 have z0 : wa.cell? ⟨D, 0, none⟩ = some (.string ⟨#[]⟩) := by rw [blk_cell HNa.out]; rfl
 have z1 : wa.cell? ⟨D, 1, none⟩ = some (.int .i64 0) := by rw [blk_cell HNa.out]; rfl
 have z2 : wa.cell? ⟨D, 2, none⟩ = some (.int .i64 0) := by rw [blk_cell HNa.out]; rfl
 have z3 : wa.cell? ⟨D, 3, none⟩ = some (.int .i64 0) := by rw [blk_cell HNa.out]; rfl
 have zf : ∀ i, wa.frozen? ⟨D, i, none⟩ = false := blk_frozen HNa.out
 refine wpAnyH_ready (rs := [13]) (by kernel_rfl) (by simp) ?_
 refine AllReadyH.cons rfl (fun K hK => ?_) AllReadyH.nil
 go_simp
 have hoth : ∀ b, b ≠ D → ((((wa.setCell ⟨D, 0, none⟩ (.string dn)).setCell ⟨D, 1, none⟩ (.int .i64 dw)).setCell ⟨D, 2, none⟩ (.int .i64 dt)).setCell ⟨D, 3, none⟩ (.int .i64 di)).heap[b]? = wa.heap[b]? := fun b hb => (set_other _ 3 _ hb).trans ((set_other _ 2 _ hb).trans ((set_other _ 1 _ hb).trans (set_other _ 0 _ hb)))
 have HSb : Hid (((((wa.setCell ⟨D, 0, none⟩ (.string dn)).setCell ⟨D, 1, none⟩ (.int .i64 dw)).setCell ⟨D, 2, none⟩ (.int .i64 dt)).setCell ⟨D, 3, none⟩ (.int .i64 di)).cell? ⟨C, 0, none⟩ = some (.map (some M)) ∧ ((((wa.setCell ⟨D, 0, none⟩ (.string dn)).setCell ⟨D, 1, none⟩ (.int .i64 dw)).setCell ⟨D, 2, none⟩ (.int .i64 dt)).setCell ⟨D, 3, none⟩ (.int .i64 di)).cell? ⟨X, 4, none⟩ = some (.string ⟨#[]⟩) ∧ ((((wa.setCell ⟨D, 0, none⟩ (.string dn)).setCell ⟨D, 1, none⟩ (.int .i64 dw)).setCell ⟨D, 2, none⟩ (.int .i64 dt)).setCell ⟨D, 3, none⟩ (.int .i64 di)).heap[M]? = some (.map (entsD 0 ds).toArray ds.length)) := hide ⟨(World.cell?_of_block (hoth C (Ne.symm HNE.out.1))).trans HSa.out.1, (World.cell?_of_block (hoth X (Ne.symm HNE.out.2.1))).trans HSa.out.2.1, (hoth M (Ne.symm HNE.out.2.2)).trans HSa.out.2.2⟩
 have HND : Hid (((((wa.setCell ⟨D, 0, none⟩ (.string dn)).setCell ⟨D, 1, none⟩ (.int .i64 dw)).setCell ⟨D, 2, none⟩ (.int .i64 dt)).setCell ⟨D, 3, none⟩ (.int .i64 di)).heap[D]? = some (.cells #[.string dn, .int .i64 dw, .int .i64 dt, .int .i64 di] 60 (0, 0))) := hide (by rw [blk_set (blk_set (blk_set (blk_set HNa.out 0 _) 1 _) 2 _) 3 _]; simp only [List.setIfInBounds_toArray, List.set_cons_zero, List.set_cons_succ])
 have HBd : Hid (Below wq.heap.size wq ((((wa.setCell ⟨D, 0, none⟩ (.string dn)).setCell ⟨D, 1, none⟩ (.int .i64 dw)).setCell ⟨D, 2, none⟩ (.int .i64 dt)).setCell ⟨D, 3, none⟩ (.int .i64 di))) := hide ((((HBb.out.setCell (by rw [hD]; exact Nat.le_refl _) _).setCell (by rw [hD]; exact Nat.le_refl _) _).setCell (by rw [hD]; exact Nat.le_refl _) _).setCell (by rw [hD]; exact Nat.le_refl _) _)
 refine hK.out _ _ HSb.out (fun _ => ?_)
 clear hK K z0 z1 z2 z3 zf hoth
 generalize (((wa.setCell ⟨D, 0, none⟩ (.string dn)).setCell ⟨D, 1, none⟩ (.int .i64 dw)).setCell ⟨D, 2, none⟩ (.int .i64 dt)).setCell ⟨D, 3, none⟩ (.int .i64 di) = wd at *
 refine tkA 14 6 (.bool dok) rfl (by kernel_rfl) (fun _ _ _ h => h) rfl (fun W hS => by go_simp) HSb.out ?_
 simp only [pu]
 refine wpAnyH_done (by kernel_rfl) ?_ _
 have HBe : Hid (Below wq.drew.heap.size wq.drew wd) := hide ⟨HBd.out.os, HBd.out.tape, HBd.out.output, HBd.out.size, HBd.out.block⟩
 have HCd := hide (HC1.out.below HBe.out)
 have HXd := hide (Below.blk HBe.out HX1.out)
 have HBw : Hid (Below w.heap.size w wd) := hide (Below.step HB1.out HBe.out)
 clear HBd HBe
 have HDX : Hid (D ≠ C) := hide HNE.out.1
 have x0 : wd.cell? ⟨X, 0, none⟩ = some (.int .i64 1) := by rw [blk_cell HXd.out]; rfl
 clear HS HSa HSb HNa HBa HBb HNE hD HX1 HC1 HC0 HX0 HLK
 have x3 : wd.cell? ⟨X, 3, none⟩ = some (.int .i64 ty) := by rw [blk_cell HXd.out]; rfl
 go_wp2_with fail
 go_ret
 exact ⟨rfl, HCd.out, Kept.of HBw.out⟩

set_option maxRecDepth 100000 in
set_option maxHeartbeats 6400000 in
theorem ckind_not (p : Nat) (x : Ex) (ih : KG x) : KG (.not p x) := by
 intro S w C M ds v h hx hS hg
 obtain ⟨X, a, rfl, hSX, hX, hxa⟩ := hx
 obtain ⟨Q, rfl⟩ := hxa.ptr
 have HXA := hide hxa
 have IH := hide ih
 have HSS := hide hS
 have hg : GoodEx x := hg
 clear hxa ih hS
 have hfn := flt_ne
 have c1 : w.cell? ⟨C, 1, none⟩ = some (.int .i64 0) := by rw [blk_cell h.me]; rfl
 have c2 : w.cell? ⟨C, 2, none⟩ = some (.int .i64 (-1)) := by rw [blk_cell h.me]; rfl
 have g0 : w.cell? ⟨0, 0, none⟩ = some (.int .i64 0) := by rw [blk_cell h.vars.fine]; rfl
 have g1 : w.cell? ⟨0, 1, none⟩ = some (.int .i64 (-1)) := by rw [blk_cell h.vars.fine]; rfl
 have HC0 := hide h
 have HX0 := hide hX
 obtain ⟨dd, hdd⟩ : ∃ q, q = gotD ds ⟨#[]⟩ := ⟨_, rfl⟩
 have HDD := hide hdd
 have HLK : Hid (∀ W : World, W.heap[M]? = some (.map (entsD 0 ds).toArray ds.length) → (Instr.lookup 142 (.map (some M)) (.string ⟨#[]⟩) true).run Tryz.prog W = .ok (.tuple #[deV dd.1, .bool dd.2]) W) := hide fun W hW => by rw [hdd]; exact lookD hW ⟨#[]⟩
 clear h hX hdd
 obtain ⟨⟨dn, dw, dt, di⟩, dok⟩ := dd
 go_enter Tryz.func193, Tryz.ntmps193
 go_wp2_with fail
 go_region
 clear c1 c2 g0 g1
 go_wp2_with fail
 have HB1 := hide (show Below w.heap.size w w.drew.drew from ((Below.refl _ _).drew).drew)
 have HC1 := hide (HC0.out.below HB1.out)
 have HX1 := hide (Below.blk HB1.out HX0.out)
 generalize hww : w.drew = wq at *
 clear hww
 have HS : Hid (wq.drew.cell? ⟨C, 0, none⟩ = some (.map (some M)) ∧ wq.drew.cell? ⟨X, 4, none⟩ = some (.string ⟨#[]⟩) ∧ wq.drew.heap[M]? = some (.map (entsD 0 ds).toArray ds.length)) := hide ⟨by rw [blk_cell HC1.out.me]; rfl, by rw [blk_cell HX1.out]; rfl, HC1.out.map⟩
 refine wp_region_held_drew (S := fun W => W.cell? ⟨C, 0, none⟩ = some (.map (some M)) ∧ W.cell? ⟨X, 4, none⟩ = some (.string ⟨#[]⟩) ∧ W.heap[M]? = some (.map (entsD 0 ds).toArray ds.length)) (by kernel_rfl) HS.out (fun _ => ?_)
 refine tkA 0 17 (.pointer (some ⟨C, 0, none⟩)) rfl (by kernel_rfl) (fun _ _ _ h => h) rfl (fun W hS => by go_simp) HS.out ?_
 simp only [pu]
 refine tkA 1 18 (.pointer (some ⟨C, 0, none⟩)) rfl (by kernel_rfl) (fun _ _ _ h => h) rfl (fun W hS => by go_simp) HS.out ?_
 simp only [pu]
 refine tkA 2 19 (.pointer (some ⟨C, 0, none⟩)) rfl (by kernel_rfl) (fun _ _ _ h => h) rfl (fun W hS => by go_simp) HS.out ?_
 simp only [pu]
 refine tkA 3 20 (.map (some M)) rfl (by kernel_rfl) (fun _ _ _ h => h) rfl (fun W hS => by (have h0 := hS.1; go_simp)) HS.out ?_
 simp only [pu]
 refine tkA 4 21 (.pointer (some ⟨X, 0, none⟩)) rfl (by kernel_rfl) (fun _ _ _ h => h) rfl (fun W hS => by go_simp) HS.out ?_
 simp only [pu]
 refine tkA 5 22 (.pointer (some ⟨X, 0, none⟩)) rfl (by kernel_rfl) (fun _ _ _ h => h) rfl (fun W hS => by go_simp) HS.out ?_
 simp only [pu]
 refine tkA 6 23 (.pointer (some ⟨X, 4, none⟩)) rfl (by kernel_rfl) (fun _ _ _ h => h) rfl (fun W hS => by go_simp) HS.out ?_
 simp only [pu]
 refine tkA 7 24 (.string ⟨#[]⟩) rfl (by kernel_rfl) (fun _ _ _ h => h) rfl (fun W hS => by (have h0 := hS.2.1; go_simp)) HS.out ?_
 simp only [pu]
 refine tkA 8 25 (.tuple #[.agg #[.string dn, .int .i64 dw, .int .i64 dt, .int .i64 di], .bool dok]) rfl (by kernel_rfl) (fun _ _ _ h => h) rfl (fun W hS => by (have h0 := HLK.out W hS.2.2; go_simp)) HS.out ?_
 simp only [pu]
 refine tkA 9 16 (.tuple #[.agg #[.string dn, .int .i64 dw, .int .i64 dt, .int .i64 di], .bool dok]) rfl (by kernel_rfl) (fun _ _ _ h => h) rfl (fun W hS => by go_simp) HS.out ?_
 simp only [pu]
 refine tkA 10 26 (.agg #[.string dn, .int .i64 dw, .int .i64 dt, .int .i64 di]) rfl (by kernel_rfl) (fun _ _ _ h => h) rfl (fun W hS => by go_simp) HS.out ?_
 simp only [pu]
 refine tkA 11 27 (.bool dok) rfl (by kernel_rfl) (fun _ _ _ h => h) rfl (fun W hS => by go_simp) HS.out ?_
 simp only [pu]
 refine wpAnyH_ready (rs := [12]) (by kernel_rfl) (by simp) ?_
 refine AllReadyH.cons rfl (fun K hK => ?_) AllReadyH.nil
 go_simp
 have HBa := hide (below_alloc wq (.cells #[.string ⟨#[]⟩, .int .i64 0, .int .i64 0, .int .i64 0] 60))
 have HSa : Hid ((wq.alloc (.cells #[.string ⟨#[]⟩, .int .i64 0, .int .i64 0, .int .i64 0] 60)).drew.cell? ⟨C, 0, none⟩ = some (.map (some M)) ∧ (wq.alloc (.cells #[.string ⟨#[]⟩, .int .i64 0, .int .i64 0, .int .i64 0] 60)).drew.cell? ⟨X, 4, none⟩ = some (.string ⟨#[]⟩) ∧ (wq.alloc (.cells #[.string ⟨#[]⟩, .int .i64 0, .int .i64 0, .int .i64 0] 60)).drew.heap[M]? = some (.map (entsD 0 ds).toArray ds.length)) := hide ⟨(HBa.out.cell (cell_lt (w := wq) HS.out.1)).trans HS.out.1, (HBa.out.cell (cell_lt (w := wq) HS.out.2.1)).trans HS.out.2.1, Below.blk HBa.out HS.out.2.2⟩
 refine hK.out _ _ HSa.out (fun _ => ?_)
 clear hK K
 have HNa : Hid ((wq.alloc (.cells #[.string ⟨#[]⟩, .int .i64 0, .int .i64 0, .int .i64 0] 60)).drew.heap[wq.heap.size]? = some (.cells #[.string ⟨#[]⟩, .int .i64 0, .int .i64 0, .int .i64 0] 60 (0, 0))) := hide (blk_new wq _)
 have HBb : Hid (Below wq.heap.size wq (wq.alloc (.cells #[.string ⟨#[]⟩, .int .i64 0, .int .i64 0, .int .i64 0] 60)).drew) := hide HBa.out.drew
 have HNE : Hid (wq.heap.size ≠ C ∧ wq.heap.size ≠ X ∧ wq.heap.size ≠ M) := hide ⟨by have := blk_lt HC1.out.me; intro e; rw [← e] at this; exact Nat.lt_irrefl _ this, by have := blk_lt HX1.out; intro e; rw [← e] at this; exact Nat.lt_irrefl _ this, by have := blk_lt HC1.out.map; intro e; rw [← e] at this; exact Nat.lt_irrefl _ this⟩
 generalize (wq.alloc (.cells #[.string ⟨#[]⟩, .int .i64 0, .int .i64 0, .int .i64 0] 60)).drew = wa at *
 generalize hD : wq.heap.size = D at HNa HNE ⊢
 have z0 : wa.cell? ⟨D, 0, none⟩ = some (.string ⟨#[]⟩) := by rw [blk_cell HNa.out]; rfl
 have z1 : wa.cell? ⟨D, 1, none⟩ = some (.int .i64 0) := by rw [blk_cell HNa.out]; rfl
 have z2 : wa.cell? ⟨D, 2, none⟩ = some (.int .i64 0) := by rw [blk_cell HNa.out]; rfl
 have z3 : wa.cell? ⟨D, 3, none⟩ = some (.int .i64 0) := by rw [blk_cell HNa.out]; rfl
 have zf : ∀ i, wa.frozen? ⟨D, i, none⟩ = false := blk_frozen HNa.out
 refine wpAnyH_ready (rs := [13]) (by kernel_rfl) (by simp) ?_
 refine AllReadyH.cons rfl (fun K hK => ?_) AllReadyH.nil
 go_simp
 have hoth : ∀ b, b ≠ D → ((((wa.setCell ⟨D, 0, none⟩ (.string dn)).setCell ⟨D, 1, none⟩ (.int .i64 dw)).setCell ⟨D, 2, none⟩ (.int .i64 dt)).setCell ⟨D, 3, none⟩ (.int .i64 di)).heap[b]? = wa.heap[b]? := fun b hb => (set_other _ 3 _ hb).trans ((set_other _ 2 _ hb).trans ((set_other _ 1 _ hb).trans (set_other _ 0 _ hb)))
 have HSb : Hid (((((wa.setCell ⟨D, 0, none⟩ (.string dn)).setCell ⟨D, 1, none⟩ (.int .i64 dw)).setCell ⟨D, 2, none⟩ (.int .i64 dt)).setCell ⟨D, 3, none⟩ (.int .i64 di)).cell? ⟨C, 0, none⟩ = some (.map (some M)) ∧ ((((wa.setCell ⟨D, 0, none⟩ (.string dn)).setCell ⟨D, 1, none⟩ (.int .i64 dw)).setCell ⟨D, 2, none⟩ (.int .i64 dt)).setCell ⟨D, 3, none⟩ (.int .i64 di)).cell? ⟨X, 4, none⟩ = some (.string ⟨#[]⟩) ∧ ((((wa.setCell ⟨D, 0, none⟩ (.string dn)).setCell ⟨D, 1, none⟩ (.int .i64 dw)).setCell ⟨D, 2, none⟩ (.int .i64 dt)).setCell ⟨D, 3, none⟩ (.int .i64 di)).heap[M]? = some (.map (entsD 0 ds).toArray ds.length)) := hide ⟨(World.cell?_of_block (hoth C (Ne.symm HNE.out.1))).trans HSa.out.1, (World.cell?_of_block (hoth X (Ne.symm HNE.out.2.1))).trans HSa.out.2.1, (hoth M (Ne.symm HNE.out.2.2)).trans HSa.out.2.2⟩
 have HND : Hid (((((wa.setCell ⟨D, 0, none⟩ (.string dn)).setCell ⟨D, 1, none⟩ (.int .i64 dw)).setCell ⟨D, 2, none⟩ (.int .i64 dt)).setCell ⟨D, 3, none⟩ (.int .i64 di)).heap[D]? = some (.cells #[.string dn, .int .i64 dw, .int .i64 dt, .int .i64 di] 60 (0, 0))) := hide (by rw [blk_set (blk_set (blk_set (blk_set HNa.out 0 _) 1 _) 2 _) 3 _]; simp only [List.setIfInBounds_toArray, List.set_cons_zero, List.set_cons_succ])
 have HBd : Hid (Below wq.heap.size wq ((((wa.setCell ⟨D, 0, none⟩ (.string dn)).setCell ⟨D, 1, none⟩ (.int .i64 dw)).setCell ⟨D, 2, none⟩ (.int .i64 dt)).setCell ⟨D, 3, none⟩ (.int .i64 di))) := hide ((((HBb.out.setCell (by rw [hD]; exact Nat.le_refl _) _).setCell (by rw [hD]; exact Nat.le_refl _) _).setCell (by rw [hD]; exact Nat.le_refl _) _).setCell (by rw [hD]; exact Nat.le_refl _) _)
 refine hK.out _ _ HSb.out (fun _ => ?_)
 clear hK K z0 z1 z2 z3 zf hoth
 generalize (((wa.setCell ⟨D, 0, none⟩ (.string dn)).setCell ⟨D, 1, none⟩ (.int .i64 dw)).setCell ⟨D, 2, none⟩ (.int .i64 dt)).setCell ⟨D, 3, none⟩ (.int .i64 di) = wd at *
 refine tkA 14 6 (.bool dok) rfl (by kernel_rfl) (fun _ _ _ h => h) rfl (fun W hS => by go_simp) HSb.out ?_
 simp only [pu]
 refine wpAnyH_done (by kernel_rfl) ?_ _
 have HBe : Hid (Below wq.drew.heap.size wq.drew wd) := hide ⟨HBd.out.os, HBd.out.tape, HBd.out.output, HBd.out.size, HBd.out.block⟩
 have HCd := hide (HC1.out.below HBe.out)
 have HXd := hide (Below.blk HBe.out HX1.out)
 have HBw : Hid (Below w.heap.size w wd) := hide (Below.step HB1.out HBe.out)
 clear HBd HBe
 have HDX : Hid (D ≠ C) := hide HNE.out.1
 have x0 : wd.cell? ⟨X, 0, none⟩ = some (.int .i64 4) := by rw [blk_cell HXd.out]; rfl
 clear HS HSa HSb HNa HBa HBb HNE hD HX1 HC1 HC0 HX0 HLK
 have x7 : wd.cell? ⟨X, 7, none⟩ = some (.pointer (some ⟨Q, 0, none⟩)) := by rw [blk_cell HXd.out]; rfl
 go_wp2_with fail
 refine (IH.out S wd C M ds _ HCd.out (HXA.out.below HBw.out) HSS.out hg).mono ?_
 rintro e w3 ⟨rfl, hc3, hk3⟩
 have H3 := hide hc3
 have HK3 := hide ((Kept.of (R := C) HBw.out).trans hk3)
 clear hc3 hk3
 go_wp2_with fail
 go_ret
 exact ⟨rfl, H3.out, HK3.out⟩

theorem got_none {ds : List De} {s : ByteArray} {dn : ByteArray} {dw dt di : Nat} (h : ((⟨dn, dw, dt, di⟩ : De), false) = gotD ds s) : findC ds s = none ∧ dt = 0 := by
 unfold gotD at h
 cases hf : findC ds s with
 | none => rw [hf] at h; cases h; exact ⟨rfl, rfl⟩
 | some d => rw [hf] at h; cases h
theorem got_yes {ds : List De} {s : ByteArray} {dn : ByteArray} {dw dt di : Nat} (h : ((⟨dn, dw, dt, di⟩ : De), true) = gotD ds s) : findC ds s = some ⟨dn, dw, dt, di⟩ := by
 unfold gotD at h
 cases hf : findC ds s with
 | none => rw [hf] at h; cases h
 | some d => rw [hf] at h; cases h; rfl

set_option maxRecDepth 100000 in
set_option maxHeartbeats 6400000 in
theorem ckind_name (p : Nat) (s : ByteArray) : KG (.name p s) := by
 intro S w C M ds v h hx hS hg
 obtain ⟨X, rfl, hSX, hX⟩ := hx
 have HXC := hide (hS X hSX)
 have hfn := flt_ne
 have c1 : w.cell? ⟨C, 1, none⟩ = some (.int .i64 0) := by rw [blk_cell h.me]; rfl
 have c2 : w.cell? ⟨C, 2, none⟩ = some (.int .i64 (-1)) := by rw [blk_cell h.me]; rfl
 have g0 : w.cell? ⟨0, 0, none⟩ = some (.int .i64 0) := by rw [blk_cell h.vars.fine]; rfl
 have g1 : w.cell? ⟨0, 1, none⟩ = some (.int .i64 (-1)) := by rw [blk_cell h.vars.fine]; rfl
 have HC0 := hide h
 have HX0 := hide hX
 obtain ⟨dd, hdd⟩ : ∃ q, q = gotD ds s := ⟨_, rfl⟩
 have HDD := hide hdd
 have HLK : Hid (∀ W : World, W.heap[M]? = some (.map (entsD 0 ds).toArray ds.length) → (Instr.lookup 142 (.map (some M)) (.string s) true).run Tryz.prog W = .ok (.tuple #[deV dd.1, .bool dd.2]) W) := hide fun W hW => by rw [hdd]; exact lookD hW s
 clear h hX hdd
 obtain ⟨⟨dn, dw, dt, di⟩, dok⟩ := dd
 go_enter Tryz.func193, Tryz.ntmps193
 go_wp2_with fail
 go_region
 clear c1 c2 g0 g1
 go_wp2_with fail
 have HB1 := hide (show Below w.heap.size w w.drew.drew from ((Below.refl _ _).drew).drew)
 have HC1 := hide (HC0.out.below HB1.out)
 have HX1 := hide (Below.blk HB1.out HX0.out)
 generalize hww : w.drew = wq at *
 clear hww
 have HS : Hid (wq.drew.cell? ⟨C, 0, none⟩ = some (.map (some M)) ∧ wq.drew.cell? ⟨X, 4, none⟩ = some (.string s) ∧ wq.drew.heap[M]? = some (.map (entsD 0 ds).toArray ds.length)) := hide ⟨by rw [blk_cell HC1.out.me]; rfl, by rw [blk_cell HX1.out]; rfl, HC1.out.map⟩
 refine wp_region_held_drew (S := fun W => W.cell? ⟨C, 0, none⟩ = some (.map (some M)) ∧ W.cell? ⟨X, 4, none⟩ = some (.string s) ∧ W.heap[M]? = some (.map (entsD 0 ds).toArray ds.length)) (by kernel_rfl) HS.out (fun _ => ?_)
 refine tkA 0 17 (.pointer (some ⟨C, 0, none⟩)) rfl (by kernel_rfl) (fun _ _ _ h => h) rfl (fun W hS => by go_simp) HS.out ?_
 simp only [pu]
 refine tkA 1 18 (.pointer (some ⟨C, 0, none⟩)) rfl (by kernel_rfl) (fun _ _ _ h => h) rfl (fun W hS => by go_simp) HS.out ?_
 simp only [pu]
 refine tkA 2 19 (.pointer (some ⟨C, 0, none⟩)) rfl (by kernel_rfl) (fun _ _ _ h => h) rfl (fun W hS => by go_simp) HS.out ?_
 simp only [pu]
 refine tkA 3 20 (.map (some M)) rfl (by kernel_rfl) (fun _ _ _ h => h) rfl (fun W hS => by (have h0 := hS.1; go_simp)) HS.out ?_
 simp only [pu]
 refine tkA 4 21 (.pointer (some ⟨X, 0, none⟩)) rfl (by kernel_rfl) (fun _ _ _ h => h) rfl (fun W hS => by go_simp) HS.out ?_
 simp only [pu]
 refine tkA 5 22 (.pointer (some ⟨X, 0, none⟩)) rfl (by kernel_rfl) (fun _ _ _ h => h) rfl (fun W hS => by go_simp) HS.out ?_
 simp only [pu]
 refine tkA 6 23 (.pointer (some ⟨X, 4, none⟩)) rfl (by kernel_rfl) (fun _ _ _ h => h) rfl (fun W hS => by go_simp) HS.out ?_
 simp only [pu]
 refine tkA 7 24 (.string s) rfl (by kernel_rfl) (fun _ _ _ h => h) rfl (fun W hS => by (have h0 := hS.2.1; go_simp)) HS.out ?_
 simp only [pu]
 refine tkA 8 25 (.tuple #[.agg #[.string dn, .int .i64 dw, .int .i64 dt, .int .i64 di], .bool dok]) rfl (by kernel_rfl) (fun _ _ _ h => h) rfl (fun W hS => by (have h0 := HLK.out W hS.2.2; go_simp)) HS.out ?_
 simp only [pu]
 refine tkA 9 16 (.tuple #[.agg #[.string dn, .int .i64 dw, .int .i64 dt, .int .i64 di], .bool dok]) rfl (by kernel_rfl) (fun _ _ _ h => h) rfl (fun W hS => by go_simp) HS.out ?_
 simp only [pu]
 refine tkA 10 26 (.agg #[.string dn, .int .i64 dw, .int .i64 dt, .int .i64 di]) rfl (by kernel_rfl) (fun _ _ _ h => h) rfl (fun W hS => by go_simp) HS.out ?_
 simp only [pu]
 refine tkA 11 27 (.bool dok) rfl (by kernel_rfl) (fun _ _ _ h => h) rfl (fun W hS => by go_simp) HS.out ?_
 simp only [pu]
 refine wpAnyH_ready (rs := [12]) (by kernel_rfl) (by simp) ?_
 refine AllReadyH.cons rfl (fun K hK => ?_) AllReadyH.nil
 go_simp
 have HBa := hide (below_alloc wq (.cells #[.string ⟨#[]⟩, .int .i64 0, .int .i64 0, .int .i64 0] 60))
 have HSa : Hid ((wq.alloc (.cells #[.string ⟨#[]⟩, .int .i64 0, .int .i64 0, .int .i64 0] 60)).drew.cell? ⟨C, 0, none⟩ = some (.map (some M)) ∧ (wq.alloc (.cells #[.string ⟨#[]⟩, .int .i64 0, .int .i64 0, .int .i64 0] 60)).drew.cell? ⟨X, 4, none⟩ = some (.string s) ∧ (wq.alloc (.cells #[.string ⟨#[]⟩, .int .i64 0, .int .i64 0, .int .i64 0] 60)).drew.heap[M]? = some (.map (entsD 0 ds).toArray ds.length)) := hide ⟨(HBa.out.cell (cell_lt (w := wq) HS.out.1)).trans HS.out.1, (HBa.out.cell (cell_lt (w := wq) HS.out.2.1)).trans HS.out.2.1, Below.blk HBa.out HS.out.2.2⟩
 refine hK.out _ _ HSa.out (fun _ => ?_)
 clear hK K
 have HNa : Hid ((wq.alloc (.cells #[.string ⟨#[]⟩, .int .i64 0, .int .i64 0, .int .i64 0] 60)).drew.heap[wq.heap.size]? = some (.cells #[.string ⟨#[]⟩, .int .i64 0, .int .i64 0, .int .i64 0] 60 (0, 0))) := hide (blk_new wq _)
 have HBb : Hid (Below wq.heap.size wq (wq.alloc (.cells #[.string ⟨#[]⟩, .int .i64 0, .int .i64 0, .int .i64 0] 60)).drew) := hide HBa.out.drew
 have HNE : Hid (wq.heap.size ≠ C ∧ wq.heap.size ≠ X ∧ wq.heap.size ≠ M) := hide ⟨by have := blk_lt HC1.out.me; intro e; rw [← e] at this; exact Nat.lt_irrefl _ this, by have := blk_lt HX1.out; intro e; rw [← e] at this; exact Nat.lt_irrefl _ this, by have := blk_lt HC1.out.map; intro e; rw [← e] at this; exact Nat.lt_irrefl _ this⟩
 generalize (wq.alloc (.cells #[.string ⟨#[]⟩, .int .i64 0, .int .i64 0, .int .i64 0] 60)).drew = wa at *
 generalize hD : wq.heap.size = D at HNa HNE ⊢
 have z0 : wa.cell? ⟨D, 0, none⟩ = some (.string ⟨#[]⟩) := by rw [blk_cell HNa.out]; rfl
 have z1 : wa.cell? ⟨D, 1, none⟩ = some (.int .i64 0) := by rw [blk_cell HNa.out]; rfl
 have z2 : wa.cell? ⟨D, 2, none⟩ = some (.int .i64 0) := by rw [blk_cell HNa.out]; rfl
 have z3 : wa.cell? ⟨D, 3, none⟩ = some (.int .i64 0) := by rw [blk_cell HNa.out]; rfl
 have zf : ∀ i, wa.frozen? ⟨D, i, none⟩ = false := blk_frozen HNa.out
 refine wpAnyH_ready (rs := [13]) (by kernel_rfl) (by simp) ?_
 refine AllReadyH.cons rfl (fun K hK => ?_) AllReadyH.nil
 go_simp
 have hoth : ∀ b, b ≠ D → ((((wa.setCell ⟨D, 0, none⟩ (.string dn)).setCell ⟨D, 1, none⟩ (.int .i64 dw)).setCell ⟨D, 2, none⟩ (.int .i64 dt)).setCell ⟨D, 3, none⟩ (.int .i64 di)).heap[b]? = wa.heap[b]? := fun b hb => (set_other _ 3 _ hb).trans ((set_other _ 2 _ hb).trans ((set_other _ 1 _ hb).trans (set_other _ 0 _ hb)))
 have HSb : Hid (((((wa.setCell ⟨D, 0, none⟩ (.string dn)).setCell ⟨D, 1, none⟩ (.int .i64 dw)).setCell ⟨D, 2, none⟩ (.int .i64 dt)).setCell ⟨D, 3, none⟩ (.int .i64 di)).cell? ⟨C, 0, none⟩ = some (.map (some M)) ∧ ((((wa.setCell ⟨D, 0, none⟩ (.string dn)).setCell ⟨D, 1, none⟩ (.int .i64 dw)).setCell ⟨D, 2, none⟩ (.int .i64 dt)).setCell ⟨D, 3, none⟩ (.int .i64 di)).cell? ⟨X, 4, none⟩ = some (.string s) ∧ ((((wa.setCell ⟨D, 0, none⟩ (.string dn)).setCell ⟨D, 1, none⟩ (.int .i64 dw)).setCell ⟨D, 2, none⟩ (.int .i64 dt)).setCell ⟨D, 3, none⟩ (.int .i64 di)).heap[M]? = some (.map (entsD 0 ds).toArray ds.length)) := hide ⟨(World.cell?_of_block (hoth C (Ne.symm HNE.out.1))).trans HSa.out.1, (World.cell?_of_block (hoth X (Ne.symm HNE.out.2.1))).trans HSa.out.2.1, (hoth M (Ne.symm HNE.out.2.2)).trans HSa.out.2.2⟩
 have HND : Hid (((((wa.setCell ⟨D, 0, none⟩ (.string dn)).setCell ⟨D, 1, none⟩ (.int .i64 dw)).setCell ⟨D, 2, none⟩ (.int .i64 dt)).setCell ⟨D, 3, none⟩ (.int .i64 di)).heap[D]? = some (.cells #[.string dn, .int .i64 dw, .int .i64 dt, .int .i64 di] 60 (0, 0))) := hide (by rw [blk_set (blk_set (blk_set (blk_set HNa.out 0 _) 1 _) 2 _) 3 _]; simp only [List.setIfInBounds_toArray, List.set_cons_zero, List.set_cons_succ])
 have HBd : Hid (Below wq.heap.size wq ((((wa.setCell ⟨D, 0, none⟩ (.string dn)).setCell ⟨D, 1, none⟩ (.int .i64 dw)).setCell ⟨D, 2, none⟩ (.int .i64 dt)).setCell ⟨D, 3, none⟩ (.int .i64 di))) := hide ((((HBb.out.setCell (by rw [hD]; exact Nat.le_refl _) _).setCell (by rw [hD]; exact Nat.le_refl _) _).setCell (by rw [hD]; exact Nat.le_refl _) _).setCell (by rw [hD]; exact Nat.le_refl _) _)
 refine hK.out _ _ HSb.out (fun _ => ?_)
 clear hK K z0 z1 z2 z3 zf hoth
 generalize (((wa.setCell ⟨D, 0, none⟩ (.string dn)).setCell ⟨D, 1, none⟩ (.int .i64 dw)).setCell ⟨D, 2, none⟩ (.int .i64 dt)).setCell ⟨D, 3, none⟩ (.int .i64 di) = wd at *
 refine tkA 14 6 (.bool dok) rfl (by kernel_rfl) (fun _ _ _ h => h) rfl (fun W hS => by go_simp) HSb.out ?_
 simp only [pu]
 refine wpAnyH_done (by kernel_rfl) ?_ _
 have HBe : Hid (Below wq.drew.heap.size wq.drew wd) := hide ⟨HBd.out.os, HBd.out.tape, HBd.out.output, HBd.out.size, HBd.out.block⟩
 have HCd := hide (HC1.out.below HBe.out)
 have HXd := hide (Below.blk HBe.out HX1.out)
 have HBw : Hid (Below w.heap.size w wd) := hide (Below.step HB1.out HBe.out)
 clear HBd HBe
 have HDX : Hid (D ≠ C) := hide HNE.out.1
 have x0 : wd.cell? ⟨X, 0, none⟩ = some (.int .i64 2) := by rw [blk_cell HXd.out]; rfl
 clear HS HSa HSb HNa HBa HBb HNE hD HX1 HC1 HC0 HX0 HLK
 have x1 : wd.cell? ⟨X, 1, none⟩ = some (.int .i64 p) := by rw [blk_cell HXd.out]; rfl
 have d2 : wd.cell? ⟨D, 2, none⟩ = some (.int .i64 dt) := by rw [blk_cell HND.out]; rfl
 cases dok with
 | false =>
  have HE : Hid (kindC (findC ds) (.name p s) = .bad 7 p ∧ dt = 0) := hide (by obtain ⟨h1, h2⟩ := got_none HDD.out; exact ⟨by simp only [kindC, declC, h1, Ck.bind], h2⟩)
  have hdt := HE.out.2
  subst hdt
  clear HDD
  go_wp2_with fail
  refine (cfails_good 7 p HCd.out).mono ?_
  rintro e w3 ⟨rfl, hc3, hk3⟩
  have H3 : Hid (Cc w3 C M ds 7 p) := hide hc3
  have HK3 := hide ((Kept.of (R := C) HBw.out).trans hk3)
  have hX3 := hk3.blk HXd.out HXC.out
  have y0 : w3.cell? ⟨X, 0, none⟩ = some (.int .i64 2) := by rw [blk_cell hX3]; rfl
  have y1 : w3.cell? ⟨X, 1, none⟩ = some (.int .i64 p) := by rw [blk_cell hX3]; rfl
  have y5 : w3.cell? ⟨X, 5, none⟩ = some (.string ⟨#[]⟩) := by rw [blk_cell hX3]; rfl
  have e2 : w3.cell? ⟨D, 2, none⟩ = some (.int .i64 0) := by rw [blk_cell (hk3.blk HND.out HDX.out)]; rfl
  clear hc3 hk3 hX3 x0 x1 d2 HXd HND HCd
  go_wp2_with fail
  refine (show Calls Tryz.prog 102 #[.int .i64 0] w3 (fun e w' => e = .returned (.int .i64 0) ∧ w' = w3) from rwidth_at 0 w3).mono ?_
  rintro e wz ⟨rfl, hwz⟩
  subst hwz
  have H3W := H3
  have HK3W := HK3
  go_wp2_with fail
  refine (cfails_bad 1 p 7 p H3W.out).mono ?_
  rintro e w4 ⟨rfl, hc4, hk4⟩
  have H4 := hide hc4
  have HK4 := hide (HK3W.out.trans hk4)
  clear hc4 hk4
  go_wp2_with fail
  go_ret
  rw [HE.out.1]
  exact ⟨rfl, H4.out, HK4.out⟩
 | true =>
  have HE : Hid (findC ds s = some ⟨dn, dw, dt, di⟩) := hide (got_yes HDD.out)
  have y5 : wd.cell? ⟨X, 5, none⟩ = some (.string ⟨#[]⟩) := by rw [blk_cell HXd.out]; rfl
  clear HDD
  go_wp2_with fail
  by_cases hw : widthN dt = 0
  ·have HW := hide (rwidth_at dt wd)
   rw [hw] at HW
   have HR : Hid (kindC (findC ds) (.name p s) = .bad 1 p) := hide (by simp only [kindC, declC, HE.out, Ck.bind, hw, if_true])
   clear hw
   refine HW.out.mono ?_
   rintro e wz ⟨rfl, hwz⟩
   subst hwz
   go_wp2_with fail
   refine (cfails_good 1 p HCd.out).mono ?_
   rintro e w4 ⟨rfl, hc4, hk4⟩
   have H4 := hide hc4
   have HK4 := hide ((Kept.of (R := C) HBw.out).trans hk4)
   clear hc4 hk4
   go_wp2_with fail
   go_ret
   rw [HR.out]
   exact ⟨rfl, H4.out, HK4.out⟩
  ·have HR : Hid (kindC (findC ds) (.name p s) = .ok dt) := hide (by simp only [kindC, declC, HE.out, Ck.bind, hw, if_false])
   have hd0 : ((dt : Int) == 0) = false := by
    rw [beq_eq_false_iff_ne]
    intro e
    have : dt = 0 := by omega
    rw [this] at hw
    exact hw rfl
   have HW := hide (rwidth_at dt wd)
   have hwi : (((widthN dt : Nat) : Int) == 0) = false := by rw [beq_eq_false_iff_ne]; omega
   generalize widthN dt = wt at *
   refine HW.out.mono ?_
   rintro e wz ⟨rfl, hwz⟩
   subst hwz
   go_wp2_with fail
   go_ret
   rw [HR.out]
   exact ⟨rfl, HCd.out, Kept.of HBw.out⟩

set_option maxRecDepth 100000 in
set_option maxHeartbeats 6400000 in
theorem ckind_field (p : Nat) (s g : ByteArray) : KG (.field p s g) := by
 intro S w C M ds v h hx hS hg
 obtain ⟨X, rfl, hSX, hX⟩ := hx
 have HXC := hide (hS X hSX)
 have hfn := flt_ne
 have c1 : w.cell? ⟨C, 1, none⟩ = some (.int .i64 0) := by rw [blk_cell h.me]; rfl
 have c2 : w.cell? ⟨C, 2, none⟩ = some (.int .i64 (-1)) := by rw [blk_cell h.me]; rfl
 have g0 : w.cell? ⟨0, 0, none⟩ = some (.int .i64 0) := by rw [blk_cell h.vars.fine]; rfl
 have g1 : w.cell? ⟨0, 1, none⟩ = some (.int .i64 (-1)) := by rw [blk_cell h.vars.fine]; rfl
 have HC0 := hide h
 have HX0 := hide hX
 obtain ⟨dd, hdd⟩ : ∃ q, q = gotD ds s := ⟨_, rfl⟩
 have HDD := hide hdd
 have HLK : Hid (∀ W : World, W.heap[M]? = some (.map (entsD 0 ds).toArray ds.length) → (Instr.lookup 142 (.map (some M)) (.string s) true).run Tryz.prog W = .ok (.tuple #[deV dd.1, .bool dd.2]) W) := hide fun W hW => by rw [hdd]; exact lookD hW s
 clear h hX hdd
 obtain ⟨⟨dn, dw, dt, di⟩, dok⟩ := dd
 go_enter Tryz.func193, Tryz.ntmps193
 go_wp2_with fail
 go_region
 clear c1 c2 g0 g1
 go_wp2_with fail
 have HB1 := hide (show Below w.heap.size w w.drew.drew from ((Below.refl _ _).drew).drew)
 have HC1 := hide (HC0.out.below HB1.out)
 have HX1 := hide (Below.blk HB1.out HX0.out)
 generalize hww : w.drew = wq at *
 clear hww
 have HS : Hid (wq.drew.cell? ⟨C, 0, none⟩ = some (.map (some M)) ∧ wq.drew.cell? ⟨X, 4, none⟩ = some (.string s) ∧ wq.drew.heap[M]? = some (.map (entsD 0 ds).toArray ds.length)) := hide ⟨by rw [blk_cell HC1.out.me]; rfl, by rw [blk_cell HX1.out]; rfl, HC1.out.map⟩
 refine wp_region_held_drew (S := fun W => W.cell? ⟨C, 0, none⟩ = some (.map (some M)) ∧ W.cell? ⟨X, 4, none⟩ = some (.string s) ∧ W.heap[M]? = some (.map (entsD 0 ds).toArray ds.length)) (by kernel_rfl) HS.out (fun _ => ?_)
 refine tkA 0 17 (.pointer (some ⟨C, 0, none⟩)) rfl (by kernel_rfl) (fun _ _ _ h => h) rfl (fun W hS => by go_simp) HS.out ?_
 simp only [pu]
 refine tkA 1 18 (.pointer (some ⟨C, 0, none⟩)) rfl (by kernel_rfl) (fun _ _ _ h => h) rfl (fun W hS => by go_simp) HS.out ?_
 simp only [pu]
 refine tkA 2 19 (.pointer (some ⟨C, 0, none⟩)) rfl (by kernel_rfl) (fun _ _ _ h => h) rfl (fun W hS => by go_simp) HS.out ?_
 simp only [pu]
 refine tkA 3 20 (.map (some M)) rfl (by kernel_rfl) (fun _ _ _ h => h) rfl (fun W hS => by (have h0 := hS.1; go_simp)) HS.out ?_
 simp only [pu]
 refine tkA 4 21 (.pointer (some ⟨X, 0, none⟩)) rfl (by kernel_rfl) (fun _ _ _ h => h) rfl (fun W hS => by go_simp) HS.out ?_
 simp only [pu]
 refine tkA 5 22 (.pointer (some ⟨X, 0, none⟩)) rfl (by kernel_rfl) (fun _ _ _ h => h) rfl (fun W hS => by go_simp) HS.out ?_
 simp only [pu]
 refine tkA 6 23 (.pointer (some ⟨X, 4, none⟩)) rfl (by kernel_rfl) (fun _ _ _ h => h) rfl (fun W hS => by go_simp) HS.out ?_
 simp only [pu]
 refine tkA 7 24 (.string s) rfl (by kernel_rfl) (fun _ _ _ h => h) rfl (fun W hS => by (have h0 := hS.2.1; go_simp)) HS.out ?_
 simp only [pu]
 refine tkA 8 25 (.tuple #[.agg #[.string dn, .int .i64 dw, .int .i64 dt, .int .i64 di], .bool dok]) rfl (by kernel_rfl) (fun _ _ _ h => h) rfl (fun W hS => by (have h0 := HLK.out W hS.2.2; go_simp)) HS.out ?_
 simp only [pu]
 refine tkA 9 16 (.tuple #[.agg #[.string dn, .int .i64 dw, .int .i64 dt, .int .i64 di], .bool dok]) rfl (by kernel_rfl) (fun _ _ _ h => h) rfl (fun W hS => by go_simp) HS.out ?_
 simp only [pu]
 refine tkA 10 26 (.agg #[.string dn, .int .i64 dw, .int .i64 dt, .int .i64 di]) rfl (by kernel_rfl) (fun _ _ _ h => h) rfl (fun W hS => by go_simp) HS.out ?_
 simp only [pu]
 refine tkA 11 27 (.bool dok) rfl (by kernel_rfl) (fun _ _ _ h => h) rfl (fun W hS => by go_simp) HS.out ?_
 simp only [pu]
 refine wpAnyH_ready (rs := [12]) (by kernel_rfl) (by simp) ?_
 refine AllReadyH.cons rfl (fun K hK => ?_) AllReadyH.nil
 go_simp
 have HBa := hide (below_alloc wq (.cells #[.string ⟨#[]⟩, .int .i64 0, .int .i64 0, .int .i64 0] 60))
 have HSa : Hid ((wq.alloc (.cells #[.string ⟨#[]⟩, .int .i64 0, .int .i64 0, .int .i64 0] 60)).drew.cell? ⟨C, 0, none⟩ = some (.map (some M)) ∧ (wq.alloc (.cells #[.string ⟨#[]⟩, .int .i64 0, .int .i64 0, .int .i64 0] 60)).drew.cell? ⟨X, 4, none⟩ = some (.string s) ∧ (wq.alloc (.cells #[.string ⟨#[]⟩, .int .i64 0, .int .i64 0, .int .i64 0] 60)).drew.heap[M]? = some (.map (entsD 0 ds).toArray ds.length)) := hide ⟨(HBa.out.cell (cell_lt (w := wq) HS.out.1)).trans HS.out.1, (HBa.out.cell (cell_lt (w := wq) HS.out.2.1)).trans HS.out.2.1, Below.blk HBa.out HS.out.2.2⟩
 refine hK.out _ _ HSa.out (fun _ => ?_)
 clear hK K
 have HNa : Hid ((wq.alloc (.cells #[.string ⟨#[]⟩, .int .i64 0, .int .i64 0, .int .i64 0] 60)).drew.heap[wq.heap.size]? = some (.cells #[.string ⟨#[]⟩, .int .i64 0, .int .i64 0, .int .i64 0] 60 (0, 0))) := hide (blk_new wq _)
 have HBb : Hid (Below wq.heap.size wq (wq.alloc (.cells #[.string ⟨#[]⟩, .int .i64 0, .int .i64 0, .int .i64 0] 60)).drew) := hide HBa.out.drew
 have HNE : Hid (wq.heap.size ≠ C ∧ wq.heap.size ≠ X ∧ wq.heap.size ≠ M) := hide ⟨by have := blk_lt HC1.out.me; intro e; rw [← e] at this; exact Nat.lt_irrefl _ this, by have := blk_lt HX1.out; intro e; rw [← e] at this; exact Nat.lt_irrefl _ this, by have := blk_lt HC1.out.map; intro e; rw [← e] at this; exact Nat.lt_irrefl _ this⟩
 generalize (wq.alloc (.cells #[.string ⟨#[]⟩, .int .i64 0, .int .i64 0, .int .i64 0] 60)).drew = wa at *
 generalize hD : wq.heap.size = D at HNa HNE ⊢
 have z0 : wa.cell? ⟨D, 0, none⟩ = some (.string ⟨#[]⟩) := by rw [blk_cell HNa.out]; rfl
 have z1 : wa.cell? ⟨D, 1, none⟩ = some (.int .i64 0) := by rw [blk_cell HNa.out]; rfl
 have z2 : wa.cell? ⟨D, 2, none⟩ = some (.int .i64 0) := by rw [blk_cell HNa.out]; rfl
 have z3 : wa.cell? ⟨D, 3, none⟩ = some (.int .i64 0) := by rw [blk_cell HNa.out]; rfl
 have zf : ∀ i, wa.frozen? ⟨D, i, none⟩ = false := blk_frozen HNa.out
 refine wpAnyH_ready (rs := [13]) (by kernel_rfl) (by simp) ?_
 refine AllReadyH.cons rfl (fun K hK => ?_) AllReadyH.nil
 go_simp
 have hoth : ∀ b, b ≠ D → ((((wa.setCell ⟨D, 0, none⟩ (.string dn)).setCell ⟨D, 1, none⟩ (.int .i64 dw)).setCell ⟨D, 2, none⟩ (.int .i64 dt)).setCell ⟨D, 3, none⟩ (.int .i64 di)).heap[b]? = wa.heap[b]? := fun b hb => (set_other _ 3 _ hb).trans ((set_other _ 2 _ hb).trans ((set_other _ 1 _ hb).trans (set_other _ 0 _ hb)))
 have HSb : Hid (((((wa.setCell ⟨D, 0, none⟩ (.string dn)).setCell ⟨D, 1, none⟩ (.int .i64 dw)).setCell ⟨D, 2, none⟩ (.int .i64 dt)).setCell ⟨D, 3, none⟩ (.int .i64 di)).cell? ⟨C, 0, none⟩ = some (.map (some M)) ∧ ((((wa.setCell ⟨D, 0, none⟩ (.string dn)).setCell ⟨D, 1, none⟩ (.int .i64 dw)).setCell ⟨D, 2, none⟩ (.int .i64 dt)).setCell ⟨D, 3, none⟩ (.int .i64 di)).cell? ⟨X, 4, none⟩ = some (.string s) ∧ ((((wa.setCell ⟨D, 0, none⟩ (.string dn)).setCell ⟨D, 1, none⟩ (.int .i64 dw)).setCell ⟨D, 2, none⟩ (.int .i64 dt)).setCell ⟨D, 3, none⟩ (.int .i64 di)).heap[M]? = some (.map (entsD 0 ds).toArray ds.length)) := hide ⟨(World.cell?_of_block (hoth C (Ne.symm HNE.out.1))).trans HSa.out.1, (World.cell?_of_block (hoth X (Ne.symm HNE.out.2.1))).trans HSa.out.2.1, (hoth M (Ne.symm HNE.out.2.2)).trans HSa.out.2.2⟩
 have HND : Hid (((((wa.setCell ⟨D, 0, none⟩ (.string dn)).setCell ⟨D, 1, none⟩ (.int .i64 dw)).setCell ⟨D, 2, none⟩ (.int .i64 dt)).setCell ⟨D, 3, none⟩ (.int .i64 di)).heap[D]? = some (.cells #[.string dn, .int .i64 dw, .int .i64 dt, .int .i64 di] 60 (0, 0))) := hide (by rw [blk_set (blk_set (blk_set (blk_set HNa.out 0 _) 1 _) 2 _) 3 _]; simp only [List.setIfInBounds_toArray, List.set_cons_zero, List.set_cons_succ])
 have HBd : Hid (Below wq.heap.size wq ((((wa.setCell ⟨D, 0, none⟩ (.string dn)).setCell ⟨D, 1, none⟩ (.int .i64 dw)).setCell ⟨D, 2, none⟩ (.int .i64 dt)).setCell ⟨D, 3, none⟩ (.int .i64 di))) := hide ((((HBb.out.setCell (by rw [hD]; exact Nat.le_refl _) _).setCell (by rw [hD]; exact Nat.le_refl _) _).setCell (by rw [hD]; exact Nat.le_refl _) _).setCell (by rw [hD]; exact Nat.le_refl _) _)
 refine hK.out _ _ HSb.out (fun _ => ?_)
 clear hK K z0 z1 z2 z3 zf hoth
 generalize (((wa.setCell ⟨D, 0, none⟩ (.string dn)).setCell ⟨D, 1, none⟩ (.int .i64 dw)).setCell ⟨D, 2, none⟩ (.int .i64 dt)).setCell ⟨D, 3, none⟩ (.int .i64 di) = wd at *
 refine tkA 14 6 (.bool dok) rfl (by kernel_rfl) (fun _ _ _ h => h) rfl (fun W hS => by go_simp) HSb.out ?_
 simp only [pu]
 refine wpAnyH_done (by kernel_rfl) ?_ _
 have HBe : Hid (Below wq.drew.heap.size wq.drew wd) := hide ⟨HBd.out.os, HBd.out.tape, HBd.out.output, HBd.out.size, HBd.out.block⟩
 have HCd := hide (HC1.out.below HBe.out)
 have HXd := hide (Below.blk HBe.out HX1.out)
 have HBw : Hid (Below w.heap.size w wd) := hide (Below.step HB1.out HBe.out)
 clear HBd HBe
 have HDX : Hid (D ≠ C) := hide HNE.out.1
 have x0 : wd.cell? ⟨X, 0, none⟩ = some (.int .i64 3) := by rw [blk_cell HXd.out]; rfl
 clear HS HSa HSb HNa HBa HBb HNE hD HX1 HC1 HC0 HX0 HLK
 have x1 : wd.cell? ⟨X, 1, none⟩ = some (.int .i64 p) := by rw [blk_cell HXd.out]; rfl
 have d2 : wd.cell? ⟨D, 2, none⟩ = some (.int .i64 dt) := by rw [blk_cell HND.out]; rfl
 cases dok with
 | false =>
  have HE : Hid (kindC (findC ds) (.field p s g) = .bad 7 p ∧ dt = 0) := hide (by obtain ⟨h1, h2⟩ := got_none HDD.out; exact ⟨by simp only [kindC, declC, h1, Ck.bind], h2⟩)
  have hdt := HE.out.2
  subst hdt
  clear HDD
  go_wp2_with fail
  refine (cfails_good 7 p HCd.out).mono ?_
  rintro e w3 ⟨rfl, hc3, hk3⟩
  have H3 : Hid (Cc w3 C M ds 7 p) := hide hc3
  have HK3 := hide ((Kept.of (R := C) HBw.out).trans hk3)
  have hX3 := hk3.blk HXd.out HXC.out
  have y0 : w3.cell? ⟨X, 0, none⟩ = some (.int .i64 3) := by rw [blk_cell hX3]; rfl
  have y1 : w3.cell? ⟨X, 1, none⟩ = some (.int .i64 p) := by rw [blk_cell hX3]; rfl
  have y5 : w3.cell? ⟨X, 5, none⟩ = some (.string g) := by rw [blk_cell hX3]; rfl
  have e2 : w3.cell? ⟨D, 2, none⟩ = some (.int .i64 0) := by rw [blk_cell (hk3.blk HND.out HDX.out)]; rfl
  clear hc3 hk3 hX3 x0 x1 d2 HXd HND HCd
  go_wp2_with fail
  have HFL := hide (fun n => rfield_at 0 g (w3.drewN n))
  rw [show fieldI 0 g.toList = 0 by have := field_IN 0 g.toList; rw [show ((0 : Nat) : Int) = 0 from rfl] at this; rw [this]; unfold fieldN argsN; simp] at HFL
  go_quiet ((go_at_call 23; exact Calls.quiet_of_same (HFL.out _)))
  have H3W := hide (H3.out.below (show Below w3.heap.size w3 (w3.drewN nq) from ⟨rfl, rfl, rfl, Nat.le_refl _, fun _ _ => rfl⟩))
  have HK3W := hide (HK3.out.trans (Kept.of (show Below w3.heap.size w3 (w3.drewN nq) from ⟨rfl, rfl, rfl, Nat.le_refl _, fun _ _ => rfl⟩)))
  have z1 : (w3.drewN nq).cell? ⟨X, 1, none⟩ = some (.int .i64 p) := y1
  generalize w3.drewN nq = w3q at *
  clear y0 y1 y5 e2
  go_wp2_with fail
  refine (cfails_bad 5 p 7 p H3W.out).mono ?_
  rintro e w4 ⟨rfl, hc4, hk4⟩
  have H4 := hide hc4
  have HK4 := hide (HK3W.out.trans hk4)
  clear hc4 hk4
  go_wp2_with fail
  go_ret
  rw [HE.out.1]
  exact ⟨rfl, H4.out, HK4.out⟩
 | true =>
  have HE : Hid (findC ds s = some ⟨dn, dw, dt, di⟩) := hide (got_yes HDD.out)
  have y5 : wd.cell? ⟨X, 5, none⟩ = some (.string g) := by rw [blk_cell HXd.out]; rfl
  clear HDD
  go_wp2_with fail
  have HFL := hide (fun n => rfield_at (dt : Int) g (wd.drewN n))
  rw [field_IN dt g.toList] at HFL
  by_cases hf : fieldN dt g.toList = 0
  ·have HR : Hid (kindC (findC ds) (.field p s g) = .bad 5 p) := hide (by simp only [kindC, declC, HE.out, Ck.bind, hf, if_true])
   rw [hf] at HFL
   clear hf
   go_quiet ((go_at_call 23; exact Calls.quiet_of_same (HFL.out _)))
   have H3W := hide (HCd.out.below (show Below wd.heap.size wd (wd.drewN nq) from ⟨rfl, rfl, rfl, Nat.le_refl _, fun _ _ => rfl⟩))
   have HK3W := hide ((Kept.of (R := C) HBw.out).trans (Kept.of (show Below wd.heap.size wd (wd.drewN nq) from ⟨rfl, rfl, rfl, Nat.le_refl _, fun _ _ => rfl⟩)))
   have z1 : (wd.drewN nq).cell? ⟨X, 1, none⟩ = some (.int .i64 p) := x1
   generalize wd.drewN nq = wdq at *
   clear x0 x1 d2 y5
   go_wp2_with fail
   refine (cfails_good 5 p H3W.out).mono ?_
   rintro e w4 ⟨rfl, hc4, hk4⟩
   have H4 := hide hc4
   have HK4 := hide (HK3W.out.trans hk4)
   clear hc4 hk4
   go_wp2_with fail
   go_ret
   rw [HR.out]
   exact ⟨rfl, H4.out, HK4.out⟩
  ·have HR : Hid (kindC (findC ds) (.field p s g) = .ok (fieldN dt g.toList)) := hide (by simp only [kindC, declC, HE.out, Ck.bind, hf, if_false])
   have hd0 : (((fieldN dt g.toList : Nat) : Int) == 0) = false := by rw [beq_eq_false_iff_ne]; omega
   generalize fieldN dt g.toList = fk at *
   go_quiet ((go_at_call 23; exact Calls.quiet_of_same (HFL.out _)))
   have H3W := hide (HCd.out.below (show Below wd.heap.size wd (wd.drewN nq) from ⟨rfl, rfl, rfl, Nat.le_refl _, fun _ _ => rfl⟩))
   have HK3W := hide ((Kept.of (R := C) HBw.out).trans (Kept.of (show Below wd.heap.size wd (wd.drewN nq) from ⟨rfl, rfl, rfl, Nat.le_refl _, fun _ _ => rfl⟩)))
   go_wp2_with fail
   go_ret
   rw [HR.out]
   exact ⟨rfl, H3W.out, HK3W.out⟩

theorem Cst.rv {w : World} {C M : Nat} {ds : List De} : ∀ {r : Ck Unit}, Cst w C M ds r → RVars w
 | .ok _, h => Cc.vars h
 | .bad _ _, h => Cc.vars h
theorem resN_zero (op : List UInt8) (a : Nat) : resN op a 0 = 0 := by
 unfold resN
 by_cases h : a = 0
 ·subst h; rw [if_pos (.inr rfl)]
 ·rw [if_pos (.inl h)]
theorem bin_eq (f : Find) (p : Nat) (op : ByteArray) (x y : Ex) :
  (resN op.toList (valK (kindC f x)) (valK ((kindC f x).un.bind fun _ => kindC f y)) = 0 → valK (kindC f (.bin p op x y)) = 0 ∧ (kindC f (.bin p op x y)).un = ((kindC f x).un.bind fun _ => (kindC f y).un).bind fun _ => .bad 1 p) ∧
  (resN op.toList (valK (kindC f x)) (valK ((kindC f x).un.bind fun _ => kindC f y)) ≠ 0 → kindC f (.bin p op x y) = .ok (resN op.toList (valK (kindC f x)) (valK ((kindC f x).un.bind fun _ => kindC f y))) ∧ ((kindC f x).un.bind fun _ => (kindC f y).un) = .ok ()) := by
 cases hx : kindC f x with
 | bad e q => exact ⟨fun _ => ⟨by simp only [kindC, hx, Ck.bind, valK], by simp only [kindC, hx, Ck.bind, Ck.un]⟩, fun h => absurd (resN_zero _ _) h⟩
 | ok a =>
  cases hy : kindC f y with
  | bad e q => exact ⟨fun _ => ⟨by simp only [kindC, hx, hy, Ck.bind, valK], by simp only [kindC, hx, hy, Ck.bind, Ck.un]⟩, fun h => absurd (resN_zero _ _) h⟩
  | ok b =>
   refine ⟨fun h => ?_, fun h => ?_⟩
   ·simp only [valK, Ck.un, Ck.bind] at h
    exact ⟨by simp only [kindC, hx, hy, Ck.bind, h, if_true, valK], by simp only [kindC, hx, hy, Ck.bind, h, if_true, Ck.un]⟩
   ·simp only [valK, Ck.un, Ck.bind] at h ⊢
    exact ⟨by simp only [kindC, hx, hy, Ck.bind, h, if_false], trivial⟩
theorem ex_pos {S : Nat → Prop} {w : World} : ∀ {x : Ex} {v : Value}, IsEx S w x v → ∃ X : Nat, v = .pointer (some ⟨X, 0, none⟩) ∧ S X ∧ w.cell? ⟨X, 1, none⟩ = some (.int .i64 (posE x : Nat))
 | .num .., _, ⟨X, e, hs, h⟩ => ⟨X, e, hs, by rw [blk_cell h]; rfl⟩
 | .name .., _, ⟨X, e, hs, h⟩ => ⟨X, e, hs, by rw [blk_cell h]; rfl⟩
 | .field .., _, ⟨X, e, hs, h⟩ => ⟨X, e, hs, by rw [blk_cell h]; rfl⟩
 | .not .., _, ⟨X, _, e, hs, h, _⟩ => ⟨X, e, hs, by rw [blk_cell h]; rfl⟩
 | .bin .., _, ⟨X, _, _, e, hs, h, _⟩ => ⟨X, e, hs, by rw [blk_cell h]; rfl⟩

set_option maxRecDepth 100000 in
set_option maxHeartbeats 6400000 in
theorem ckind_bin (p : Nat) (op : ByteArray) (x y : Ex) (i1 : KG x) (i2 : KG y) : KG (.bin p op x y) := by
 intro S w C M ds v h hx hS hg
 obtain ⟨X, a, b, rfl, hSX, hX, hxa, hya⟩ := hx
 obtain ⟨Q1, rfl⟩ := hxa.ptr
 obtain ⟨Q2, rfl⟩ := hya.ptr
 have HXA := hide hxa
 have HYA := hide hya
 have I1 := hide i1
 have I2 := hide (kr_of i2)
 have HXC := hide (hS X hSX)
 have HSS := hide hS
 have HLV : Hid (1 ≤ levelN op.toList) := hide hg.1
 have HG1 : Hid (GoodEx x) := hide hg.2.1
 have HG2 : Hid (GoodEx y) := hide hg.2.2
 clear hxa hya i1 i2 hS hg
 have hfn := flt_ne
 have c1 : w.cell? ⟨C, 1, none⟩ = some (.int .i64 0) := by rw [blk_cell h.me]; rfl
 have c2 : w.cell? ⟨C, 2, none⟩ = some (.int .i64 (-1)) := by rw [blk_cell h.me]; rfl
 have g0 : w.cell? ⟨0, 0, none⟩ = some (.int .i64 0) := by rw [blk_cell h.vars.fine]; rfl
 have g1 : w.cell? ⟨0, 1, none⟩ = some (.int .i64 (-1)) := by rw [blk_cell h.vars.fine]; rfl
 have HC0 := hide h
 have HX0 := hide hX
 obtain ⟨dd, hdd⟩ : ∃ q, q = gotD ds ⟨#[]⟩ := ⟨_, rfl⟩
 have HDD := hide hdd
 have HLK : Hid (∀ W : World, W.heap[M]? = some (.map (entsD 0 ds).toArray ds.length) → (Instr.lookup 142 (.map (some M)) (.string ⟨#[]⟩) true).run Tryz.prog W = .ok (.tuple #[deV dd.1, .bool dd.2]) W) := hide fun W hW => by rw [hdd]; exact lookD hW ⟨#[]⟩
 clear h hX hdd
 obtain ⟨⟨dn, dw, dt, di⟩, dok⟩ := dd
 go_enter Tryz.func193, Tryz.ntmps193
 go_wp2_with fail
 go_region
 clear c1 c2 g0 g1
 go_wp2_with fail
 have HB1 := hide (show Below w.heap.size w w.drew.drew from ((Below.refl _ _).drew).drew)
 have HC1 := hide (HC0.out.below HB1.out)
 have HX1 := hide (Below.blk HB1.out HX0.out)
 generalize hww : w.drew = wq at *
 clear hww
 have HS : Hid (wq.drew.cell? ⟨C, 0, none⟩ = some (.map (some M)) ∧ wq.drew.cell? ⟨X, 4, none⟩ = some (.string ⟨#[]⟩) ∧ wq.drew.heap[M]? = some (.map (entsD 0 ds).toArray ds.length)) := hide ⟨by rw [blk_cell HC1.out.me]; rfl, by rw [blk_cell HX1.out]; rfl, HC1.out.map⟩
 refine wp_region_held_drew (S := fun W => W.cell? ⟨C, 0, none⟩ = some (.map (some M)) ∧ W.cell? ⟨X, 4, none⟩ = some (.string ⟨#[]⟩) ∧ W.heap[M]? = some (.map (entsD 0 ds).toArray ds.length)) (by kernel_rfl) HS.out (fun _ => ?_)
 refine tkA 0 17 (.pointer (some ⟨C, 0, none⟩)) rfl (by kernel_rfl) (fun _ _ _ h => h) rfl (fun W hS => by go_simp) HS.out ?_
 simp only [pu]
 refine tkA 1 18 (.pointer (some ⟨C, 0, none⟩)) rfl (by kernel_rfl) (fun _ _ _ h => h) rfl (fun W hS => by go_simp) HS.out ?_
 simp only [pu]
 refine tkA 2 19 (.pointer (some ⟨C, 0, none⟩)) rfl (by kernel_rfl) (fun _ _ _ h => h) rfl (fun W hS => by go_simp) HS.out ?_
 simp only [pu]
 refine tkA 3 20 (.map (some M)) rfl (by kernel_rfl) (fun _ _ _ h => h) rfl (fun W hS => by (have h0 := hS.1; go_simp)) HS.out ?_
 simp only [pu]
 refine tkA 4 21 (.pointer (some ⟨X, 0, none⟩)) rfl (by kernel_rfl) (fun _ _ _ h => h) rfl (fun W hS => by go_simp) HS.out ?_
 simp only [pu]
 refine tkA 5 22 (.pointer (some ⟨X, 0, none⟩)) rfl (by kernel_rfl) (fun _ _ _ h => h) rfl (fun W hS => by go_simp) HS.out ?_
 simp only [pu]
 refine tkA 6 23 (.pointer (some ⟨X, 4, none⟩)) rfl (by kernel_rfl) (fun _ _ _ h => h) rfl (fun W hS => by go_simp) HS.out ?_
 simp only [pu]
 refine tkA 7 24 (.string ⟨#[]⟩) rfl (by kernel_rfl) (fun _ _ _ h => h) rfl (fun W hS => by (have h0 := hS.2.1; go_simp)) HS.out ?_
 simp only [pu]
 refine tkA 8 25 (.tuple #[.agg #[.string dn, .int .i64 dw, .int .i64 dt, .int .i64 di], .bool dok]) rfl (by kernel_rfl) (fun _ _ _ h => h) rfl (fun W hS => by (have h0 := HLK.out W hS.2.2; go_simp)) HS.out ?_
 simp only [pu]
 refine tkA 9 16 (.tuple #[.agg #[.string dn, .int .i64 dw, .int .i64 dt, .int .i64 di], .bool dok]) rfl (by kernel_rfl) (fun _ _ _ h => h) rfl (fun W hS => by go_simp) HS.out ?_
 simp only [pu]
 refine tkA 10 26 (.agg #[.string dn, .int .i64 dw, .int .i64 dt, .int .i64 di]) rfl (by kernel_rfl) (fun _ _ _ h => h) rfl (fun W hS => by go_simp) HS.out ?_
 simp only [pu]
 refine tkA 11 27 (.bool dok) rfl (by kernel_rfl) (fun _ _ _ h => h) rfl (fun W hS => by go_simp) HS.out ?_
 simp only [pu]
 refine wpAnyH_ready (rs := [12]) (by kernel_rfl) (by simp) ?_
 refine AllReadyH.cons rfl (fun K hK => ?_) AllReadyH.nil
 go_simp
 have HBa := hide (below_alloc wq (.cells #[.string ⟨#[]⟩, .int .i64 0, .int .i64 0, .int .i64 0] 60))
 have HSa : Hid ((wq.alloc (.cells #[.string ⟨#[]⟩, .int .i64 0, .int .i64 0, .int .i64 0] 60)).drew.cell? ⟨C, 0, none⟩ = some (.map (some M)) ∧ (wq.alloc (.cells #[.string ⟨#[]⟩, .int .i64 0, .int .i64 0, .int .i64 0] 60)).drew.cell? ⟨X, 4, none⟩ = some (.string ⟨#[]⟩) ∧ (wq.alloc (.cells #[.string ⟨#[]⟩, .int .i64 0, .int .i64 0, .int .i64 0] 60)).drew.heap[M]? = some (.map (entsD 0 ds).toArray ds.length)) := hide ⟨(HBa.out.cell (cell_lt (w := wq) HS.out.1)).trans HS.out.1, (HBa.out.cell (cell_lt (w := wq) HS.out.2.1)).trans HS.out.2.1, Below.blk HBa.out HS.out.2.2⟩
 refine hK.out _ _ HSa.out (fun _ => ?_)
 clear hK K
 have HNa : Hid ((wq.alloc (.cells #[.string ⟨#[]⟩, .int .i64 0, .int .i64 0, .int .i64 0] 60)).drew.heap[wq.heap.size]? = some (.cells #[.string ⟨#[]⟩, .int .i64 0, .int .i64 0, .int .i64 0] 60 (0, 0))) := hide (blk_new wq _)
 have HBb : Hid (Below wq.heap.size wq (wq.alloc (.cells #[.string ⟨#[]⟩, .int .i64 0, .int .i64 0, .int .i64 0] 60)).drew) := hide HBa.out.drew
 have HNE : Hid (wq.heap.size ≠ C ∧ wq.heap.size ≠ X ∧ wq.heap.size ≠ M) := hide ⟨by have := blk_lt HC1.out.me; intro e; rw [← e] at this; exact Nat.lt_irrefl _ this, by have := blk_lt HX1.out; intro e; rw [← e] at this; exact Nat.lt_irrefl _ this, by have := blk_lt HC1.out.map; intro e; rw [← e] at this; exact Nat.lt_irrefl _ this⟩
 generalize (wq.alloc (.cells #[.string ⟨#[]⟩, .int .i64 0, .int .i64 0, .int .i64 0] 60)).drew = wa at *
 generalize hD : wq.heap.size = D at HNa HNE ⊢
 have z0 : wa.cell? ⟨D, 0, none⟩ = some (.string ⟨#[]⟩) := by rw [blk_cell HNa.out]; rfl
 have z1 : wa.cell? ⟨D, 1, none⟩ = some (.int .i64 0) := by rw [blk_cell HNa.out]; rfl
 have z2 : wa.cell? ⟨D, 2, none⟩ = some (.int .i64 0) := by rw [blk_cell HNa.out]; rfl
 have z3 : wa.cell? ⟨D, 3, none⟩ = some (.int .i64 0) := by rw [blk_cell HNa.out]; rfl
 have zf : ∀ i, wa.frozen? ⟨D, i, none⟩ = false := blk_frozen HNa.out
 refine wpAnyH_ready (rs := [13]) (by kernel_rfl) (by simp) ?_
 refine AllReadyH.cons rfl (fun K hK => ?_) AllReadyH.nil
 go_simp
 have hoth : ∀ b, b ≠ D → ((((wa.setCell ⟨D, 0, none⟩ (.string dn)).setCell ⟨D, 1, none⟩ (.int .i64 dw)).setCell ⟨D, 2, none⟩ (.int .i64 dt)).setCell ⟨D, 3, none⟩ (.int .i64 di)).heap[b]? = wa.heap[b]? := fun b hb => (set_other _ 3 _ hb).trans ((set_other _ 2 _ hb).trans ((set_other _ 1 _ hb).trans (set_other _ 0 _ hb)))
 have HSb : Hid (((((wa.setCell ⟨D, 0, none⟩ (.string dn)).setCell ⟨D, 1, none⟩ (.int .i64 dw)).setCell ⟨D, 2, none⟩ (.int .i64 dt)).setCell ⟨D, 3, none⟩ (.int .i64 di)).cell? ⟨C, 0, none⟩ = some (.map (some M)) ∧ ((((wa.setCell ⟨D, 0, none⟩ (.string dn)).setCell ⟨D, 1, none⟩ (.int .i64 dw)).setCell ⟨D, 2, none⟩ (.int .i64 dt)).setCell ⟨D, 3, none⟩ (.int .i64 di)).cell? ⟨X, 4, none⟩ = some (.string ⟨#[]⟩) ∧ ((((wa.setCell ⟨D, 0, none⟩ (.string dn)).setCell ⟨D, 1, none⟩ (.int .i64 dw)).setCell ⟨D, 2, none⟩ (.int .i64 dt)).setCell ⟨D, 3, none⟩ (.int .i64 di)).heap[M]? = some (.map (entsD 0 ds).toArray ds.length)) := hide ⟨(World.cell?_of_block (hoth C (Ne.symm HNE.out.1))).trans HSa.out.1, (World.cell?_of_block (hoth X (Ne.symm HNE.out.2.1))).trans HSa.out.2.1, (hoth M (Ne.symm HNE.out.2.2)).trans HSa.out.2.2⟩
 have HND : Hid (((((wa.setCell ⟨D, 0, none⟩ (.string dn)).setCell ⟨D, 1, none⟩ (.int .i64 dw)).setCell ⟨D, 2, none⟩ (.int .i64 dt)).setCell ⟨D, 3, none⟩ (.int .i64 di)).heap[D]? = some (.cells #[.string dn, .int .i64 dw, .int .i64 dt, .int .i64 di] 60 (0, 0))) := hide (by rw [blk_set (blk_set (blk_set (blk_set HNa.out 0 _) 1 _) 2 _) 3 _]; simp only [List.setIfInBounds_toArray, List.set_cons_zero, List.set_cons_succ])
 have HBd : Hid (Below wq.heap.size wq ((((wa.setCell ⟨D, 0, none⟩ (.string dn)).setCell ⟨D, 1, none⟩ (.int .i64 dw)).setCell ⟨D, 2, none⟩ (.int .i64 dt)).setCell ⟨D, 3, none⟩ (.int .i64 di))) := hide ((((HBb.out.setCell (by rw [hD]; exact Nat.le_refl _) _).setCell (by rw [hD]; exact Nat.le_refl _) _).setCell (by rw [hD]; exact Nat.le_refl _) _).setCell (by rw [hD]; exact Nat.le_refl _) _)
 refine hK.out _ _ HSb.out (fun _ => ?_)
 clear hK K z0 z1 z2 z3 zf hoth
 generalize (((wa.setCell ⟨D, 0, none⟩ (.string dn)).setCell ⟨D, 1, none⟩ (.int .i64 dw)).setCell ⟨D, 2, none⟩ (.int .i64 dt)).setCell ⟨D, 3, none⟩ (.int .i64 di) = wd at *
 refine tkA 14 6 (.bool dok) rfl (by kernel_rfl) (fun _ _ _ h => h) rfl (fun W hS => by go_simp) HSb.out ?_
 simp only [pu]
 refine wpAnyH_done (by kernel_rfl) ?_ _
 have HBe : Hid (Below wq.drew.heap.size wq.drew wd) := hide ⟨HBd.out.os, HBd.out.tape, HBd.out.output, HBd.out.size, HBd.out.block⟩
 have HCd := hide (HC1.out.below HBe.out)
 have HXd := hide (Below.blk HBe.out HX1.out)
 have HBw : Hid (Below w.heap.size w wd) := hide (Below.step HB1.out HBe.out)
 clear HBd HBe
 have HDX : Hid (D ≠ C) := hide HNE.out.1
 have x0 : wd.cell? ⟨X, 0, none⟩ = some (.int .i64 5) := by rw [blk_cell HXd.out]; rfl
 clear HS HSa HSb HNa HBa HBb HNE hD HX1 HC1 HC0 HX0 HLK
 have HXW : Hid (∀ W, Kept C wd W → W.heap[X]? = wd.heap[X]?) := hide fun W hk => hk.block X (blk_lt HXd.out) HXC.out
 have HSW : Hid (∀ W, Kept C wd W → (W.cell? ⟨X, 6, none⟩ = some (.string op) ∧ W.cell? ⟨X, 7, none⟩ = some (.pointer (some ⟨Q1, 0, none⟩)) ∧ W.cell? ⟨X, 8, none⟩ = some (.pointer (some ⟨Q2, 0, none⟩)))) := hide fun W hk => by
  have hb := (HXW.out W hk).trans HXd.out
  exact ⟨by rw [blk_cell hb]; rfl, by rw [blk_cell hb]; rfl, by rw [blk_cell hb]; rfl⟩
 have HBD := hide (show Below wd.heap.size wd wd.drew from (Below.refl _ _).drew)
 go_wp2_with fail
 refine wp_region_held_drew (S := fun W => W.cell? ⟨X, 6, none⟩ = some (.string op) ∧ W.cell? ⟨X, 7, none⟩ = some (.pointer (some ⟨Q1, 0, none⟩)) ∧ W.cell? ⟨X, 8, none⟩ = some (.pointer (some ⟨Q2, 0, none⟩))) (by kernel_rfl) (HSW.out _ (Kept.of HBD.out)) (fun _ => ?_)
 refine tkA 0 48 (.pointer (some ⟨X, 0, none⟩)) rfl (by kernel_rfl) (fun _ _ _ h => h) rfl (fun W hS => by go_simp) (HSW.out _ (Kept.of HBD.out)) ?_
 simp only [pu]
 refine tkA 1 49 (.pointer (some ⟨X, 0, none⟩)) rfl (by kernel_rfl) (fun _ _ _ h => h) rfl (fun W hS => by go_simp) (HSW.out _ (Kept.of HBD.out)) ?_
 simp only [pu]
 refine tkA 2 50 (.pointer (some ⟨X, 6, none⟩)) rfl (by kernel_rfl) (fun _ _ _ h => h) rfl (fun W hS => by go_simp) (HSW.out _ (Kept.of HBD.out)) ?_
 simp only [pu]
 refine tkA 3 51 (.string op) rfl (by kernel_rfl) (fun _ _ _ h => h) rfl (fun W hS => by (have h0 := hS.1; go_simp)) (HSW.out _ (Kept.of HBD.out)) ?_
 simp only [pu]
 refine tkA 4 52 (.pointer (some ⟨C, 0, none⟩)) rfl (by kernel_rfl) (fun _ _ _ h => h) rfl (fun W hS => by go_simp) (HSW.out _ (Kept.of HBD.out)) ?_
 simp only [pu]
 refine tkA 5 53 (.pointer (some ⟨X, 0, none⟩)) rfl (by kernel_rfl) (fun _ _ _ h => h) rfl (fun W hS => by go_simp) (HSW.out _ (Kept.of HBD.out)) ?_
 simp only [pu]
 refine tkA 6 54 (.pointer (some ⟨X, 0, none⟩)) rfl (by kernel_rfl) (fun _ _ _ h => h) rfl (fun W hS => by go_simp) (HSW.out _ (Kept.of HBD.out)) ?_
 simp only [pu]
 refine tkA 7 55 (.pointer (some ⟨X, 7, none⟩)) rfl (by kernel_rfl) (fun _ _ _ h => h) rfl (fun W hS => by go_simp) (HSW.out _ (Kept.of HBD.out)) ?_
 simp only [pu]
 refine tkA 8 56 (.pointer (some ⟨Q1, 0, none⟩)) rfl (by kernel_rfl) (fun _ _ _ h => h) rfl (fun W hS => by (have h0 := hS.2.1; go_simp)) (HSW.out _ (Kept.of HBD.out)) ?_
 simp only [pu]
 refine tkA 10 58 (.pointer (some ⟨C, 0, none⟩)) rfl (by kernel_rfl) (fun _ _ _ h => h) rfl (fun W hS => by go_simp) (HSW.out _ (Kept.of HBD.out)) ?_
 simp only [pu]
 refine tkA 11 59 (.pointer (some ⟨X, 0, none⟩)) rfl (by kernel_rfl) (fun _ _ _ h => h) rfl (fun W hS => by go_simp) (HSW.out _ (Kept.of HBD.out)) ?_
 simp only [pu]
 refine tkA 12 60 (.pointer (some ⟨X, 0, none⟩)) rfl (by kernel_rfl) (fun _ _ _ h => h) rfl (fun W hS => by go_simp) (HSW.out _ (Kept.of HBD.out)) ?_
 simp only [pu]
 refine tkA 13 61 (.pointer (some ⟨X, 8, none⟩)) rfl (by kernel_rfl) (fun _ _ _ h => h) rfl (fun W hS => by go_simp) (HSW.out _ (Kept.of HBD.out)) ?_
 simp only [pu]
 refine tkA 14 62 (.pointer (some ⟨Q2, 0, none⟩)) rfl (by kernel_rfl) (fun _ _ _ h => h) rfl (fun W hS => by (have h0 := hS.2.2; go_simp)) (HSW.out _ (Kept.of HBD.out)) ?_
 simp only [pu]
 refine wpAnyH_ready (rs := [9]) (by kernel_rfl) (by simp) ?_
 refine AllReadyH.cons rfl (fun K hK => ?_) AllReadyH.nil
 go_simp
 refine (I1.out S wd.drew C M ds _ (HCd.out.below HBD.out) (HXA.out.below (Below.step HBw.out HBD.out)) HSS.out HG1.out).mono ?_
 rintro e w3 ⟨rfl, hc3, hk3⟩
 have H3 := hide hc3
 have HK3 : Hid (Kept C wd w3) := hide ((Kept.of (R := C) HBD.out).trans hk3)
 clear hc3 hk3
 refine hK.out _ _ (HSW.out _ HK3.out) (fun _ => ?_)
 clear hK K
 refine wpAnyH_ready (rs := [15]) (by kernel_rfl) (by simp) ?_
 refine AllReadyH.cons rfl (fun K hK => ?_) AllReadyH.nil
 go_simp
 refine (I2.out S w3 C M ds _ _ H3.out ((HYA.out.below HBw.out).past HK3.out HSS.out) HSS.out HG2.out).mono ?_
 rintro e w4 ⟨rfl, hc4, hk4⟩
 have H4 := hide hc4
 have HK4 : Hid (Kept C wd w4) := hide (HK3.out.trans hk4)
 clear hc4 hk4 H3
 refine hK.out _ _ (HSW.out _ HK4.out) (fun _ => ?_)
 clear hK K
 refine wpAnyH_ready (rs := [16]) (by kernel_rfl) (by simp) ?_
 refine AllReadyH.cons rfl (fun K hK => ?_) AllReadyH.nil
 go_simp
 refine (rresult_at op HLV.out _ _ w4 (H4.out.rv)).mono ?_
 rintro e w5 ⟨rfl, hb5⟩
 have H5 := hide (H4.out.below hb5)
 have HK5 : Hid (Kept C wd w5) := hide (HK4.out.trans (Kept.of hb5))
 clear hb5 H4 HK3 HK4
 refine hK.out _ _ (HSW.out _ HK5.out) (fun _ => ?_)
 clear hK K
 have HEQ := hide (bin_eq (findC ds) p op x y)
 have x15 : w5.cell? ⟨X, 1, none⟩ = some (.int .i64 p) := by rw [blk_cell ((HXW.out _ HK5.out).trans HXd.out)]; rfl
 generalize hn : resN op.toList (valK (kindC (findC ds) x)) (valK ((kindC (findC ds) x).un.bind fun _ => kindC (findC ds) y)) = n at *
 generalize ((kindC (findC ds) x).un.bind fun _ => (kindC (findC ds) y).un) = r12 at *
 clear hn
 refine tkA 17 7 (.int .i64 (n : Nat)) rfl (by kernel_rfl) (fun _ _ _ h => h) rfl (fun W hS => by go_simp) (HSW.out _ HK5.out) ?_
 simp only [pu]
 refine wpAnyH_done (by kernel_rfl) ?_ _
 by_cases h0 : n = 0
 ·subst h0
  obtain ⟨e1, e2⟩ := HEQ.out.1 rfl
  have HE1 := hide e1
  have HE2 := hide e2
  clear e1 e2 x0
  go_wp2_with fail
  refine (cfails_at 1 p H5.out).mono ?_
  rintro e w6 ⟨rfl, hc6, hk6⟩
  have H6 := hide hc6
  have HK6 := hide ((Kept.of (R := C) HBw.out).trans (HK5.out.trans hk6))
  clear hc6 hk6
  go_wp2_with fail
  go_ret
  rw [HE1.out, HE2.out]
  exact ⟨rfl, H6.out, HK6.out⟩
 ·have hni : ((n : Int) == 0) = false := by rw [beq_eq_false_iff_ne]; omega
  obtain ⟨e1, e2⟩ := HEQ.out.2 h0
  have HE1 := hide e1
  have HE2 := hide e2
  clear e1 e2 x0 x15
  go_wp2_with fail
  go_ret
  rw [HE1.out]
  rw [HE2.out] at H5
  exact ⟨rfl, H5.out, (Kept.of (R := C) HBw.out).trans HK5.out⟩

theorem ckind_all : ∀ x : Ex, KG x
 | .num p n ty => ckind_num p n ty
 | .name p s => ckind_name p s
 | .field p s g => ckind_field p s g
 | .not p x => ckind_not p x (ckind_all x)
 | .bin p op x y => ckind_bin p op x y (ckind_all x) (ckind_all y)
theorem want_eq (f : Find) (x : Ex) (ty : Nat) (r : Ck Unit) : (valK (r.bind fun _ => kindC f x) = ty → (r.bind fun _ => wantC f x ty) = (r.bind fun _ => (kindC f x).un)) ∧ (valK (r.bind fun _ => kindC f x) ≠ ty → (r.bind fun _ => wantC f x ty) = ((r.bind fun _ => (kindC f x).un).bind fun _ => .bad 1 (posE x))) := by
 cases r with
 | bad e p => exact ⟨fun _ => rfl, fun _ => rfl⟩
 | ok u =>
  simp only [Ck.bind, wantC]
  cases kindC f x with
  | bad e p => exact ⟨fun _ => rfl, fun _ => rfl⟩
  | ok t =>
   simp only [valK, Ck.un, Ck.bind]
   exact ⟨fun h => by rw [if_pos h], fun h => by rw [if_neg h]⟩

set_option maxRecDepth 100000 in
set_option maxHeartbeats 3200000 in
theorem cmust_at (x : Ex) (ty : Nat) (S : Nat → Prop) (w : World) (C M : Nat) (ds : List De) (v : Value) (r : Ck Unit) (hr : Cst w C M ds r) (hx : IsEx S w x v) (hS : ∀ b, S b → b ≠ C) (hg : GoodEx x) :
  Calls Tryz.prog 137 #[.pointer (some ⟨C, 0, none⟩), v, .int .i64 ty] w (Dn w C M ds (r.bind fun _ => wantC (findC ds) x ty)) := by
 have HK := hide (kr_of (ckind_all x) S w C M ds v r hr hx hS hg)
 have HEQ := hide (want_eq (findC ds) x ty r)
 obtain ⟨X, rfl, hSX, hp⟩ := ex_pos hx
 have HXC := hide (hS X hSX)
 have HP := hide hp
 clear hr hx hS hg hp
 generalize (r.bind fun _ => wantC (findC ds) x ty) = rw1 at *
 generalize valK (r.bind fun _ => kindC (findC ds) x) = k at *
 generalize (r.bind fun _ => (kindC (findC ds) x).un) = r1 at *
 go_enter Tryz.func137, Tryz.ntmps137
 go_wp2_with fail
 refine HK.out.mono ?_
 rintro e w1 ⟨rfl, hc1, hk1⟩
 have H1 := hide hc1
 have HK1 := hide hk1
 by_cases h : k = ty
 ·subst h
  have HE := hide (HEQ.out.1 rfl)
  clear hc1 hk1
  go_wp2_with fail
  go_end0
  rw [HE.out]
  exact ⟨rfl, H1.out, HK1.out⟩
 ·have hi : ((k : Int) != (ty : Int)) = true := by simp; omega
  have HE := hide (HEQ.out.2 h)
  have x1 : w1.cell? ⟨X, 1, none⟩ = some (.int .i64 (posE x : Nat)) := hk1.cell HP.out HXC.out
  clear hc1 hk1
  go_wp2_with fail
  refine (cfails_at 1 (posE x) H1.out).mono ?_
  rintro e w2 ⟨rfl, hc2, hk2⟩
  have H2 := hide hc2
  have HK2 := hide (HK1.out.trans hk2)
  clear hc2 hk2
  go_wp2_with fail
  go_end0
  rw [HE.out]
  exact ⟨rfl, H2.out, HK2.out⟩

end Go.Proofs.YtalolaikhloopaaGreatDoor
