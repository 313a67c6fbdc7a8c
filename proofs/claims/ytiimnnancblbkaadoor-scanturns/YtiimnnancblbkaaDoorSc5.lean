/-
  CONTRACT of a plant's do.
-/
import Derived.Test.YtiimnnancblbkaaDoorSc4
import Derived.Test.YtiimnnancblbkaaDoorRow
set_option linter.unusedSimpArgs false
set_option linter.unusedVariables false
namespace Go.Proofs.YtiimnnancblbkaaDoor
open Go.RowKit

theorem getA_put {α : Type} (s t : ByteArray) (a z : α) : ∀ l : List (ByteArray × α), getA (putA l s a) t z = if t == s then a else getA l t z
  | [] => by simp [putA, getA]
  | (k, b) :: l => by
    by_cases h : (s == k) = true
    · have e : s = k := bb_eq h
      subst e
      simp only [putA, bb_refl, if_true, getA]
      split <;> rfl
    · have h' : (s == k) = false := by simpa using h
      simp only [putA, h', Bool.false_eq_true, if_false, getA, getA_put s t a z l]
      by_cases h2 : (t == k) = true
      · have e2 : t = k := bb_eq h2
        subst e2
        have : (t == s) = false := by
          cases h3 : (t == s) with
          | false => rfl
          | true => have e3 := bb_eq h3; subst e3; rw [bb_refl] at h'; cases h'
        simp [h2, this]
      · have h2' : (t == k) = false := by simpa using h2
        simp [h2']
/-- the blocks are of their kinds, and have not counted far -/
def KOK (K : ByteArray → Nat) (ks : Ks) : Prop := ∀ s, (getA ks s bk0).kind = K s ∧ 0 ≤ (getA ks s bk0).n ∧ (getA ks s bk0).n ≤ 255
theorem call_kind (vs : Vs) (ks : Ks) (b : Bk) (l : List Ex) (n : Nat) (hn : n ≤ 255) (h0 : 0 ≤ b.n) (h1 : b.n ≤ 255) : (callS vs ks b l n).kind = b.kind ∧ 0 ≤ (callS vs ks b l n).n ∧ (callS vs ks b l n).n ≤ 255 := by
  obtain ⟨A, R, e⟩ : ∃ A R : Bool, callS vs ks b l n = if b.kind = 3 then timerS b A n else if b.kind = 4 then counterS b A R n else if b.kind = 5 then edgeS b A else b := ⟨_, _, rfl⟩
  rw [e]
  obtain ⟨k, m, sw, q⟩ := b
  simp only at h0 h1
  split
  · cases A with
    | false => exact ⟨rfl, by simp [timerS], by simp [timerS]⟩
    | true =>
      by_cases h : m < (n : Int)
      · simp only [timerS, h, if_true]; exact ⟨trivial, by omega, by omega⟩
      · simp only [timerS, h, if_true, if_false]; exact ⟨trivial, h0, h1⟩
  · split
    · cases R with
      | true => exact ⟨rfl, by simp [counterS], by simp [counterS]⟩
      | false =>
        by_cases h : (A && !sw && decide (m < 255)) = true
        · simp only [counterS, h, if_true, Bool.false_eq_true, if_false]
          simp only [Bool.and_eq_true, decide_eq_true_eq] at h
          exact ⟨trivial, by omega, by omega⟩
        · simp only [counterS, h, Bool.false_eq_true, if_false]; exact ⟨trivial, h0, h1⟩
    · split
      · exact ⟨rfl, h0, h1⟩
      · exact ⟨rfl, h0, h1⟩
theorem KOK.put {K : ByteArray → Nat} {ks : Ks} (h : KOK K ks) (vs : Vs) (s : ByteArray) (l : List Ex) (n : Nat) (hn : n ≤ 255) : KOK K (putA ks s (callS vs ks (getA ks s bk0) l n)) := fun t => by
  rw [getA_put]
  obtain ⟨h1, h2, h3⟩ := h s
  obtain ⟨e1, e2, e3⟩ := call_kind vs ks (getA ks s bk0) l n hn h2 h3
  split
  · rename_i e
    have := bb_eq e
    subst this
    exact ⟨e1.trans h1, e2, e3⟩
  · exact h t
mutual
/-- what is called is called with enough -/
def FitS (K : ByteArray → Nat) : St → Prop
  | .set .. => True
  | .call _ s l n => l ≠ [] ∧ (K s = 4 → 2 ≤ l.length) ∧ l.length ≤ 1000000 ∧ n ≤ 255
  | .cond _ _ th el => FitL K th ∧ FitL K el
def FitL (K : ByteArray → Nat) : List St → Prop
  | [] => True
  | s :: l => FitS K s ∧ FitL K l
end
theorem fitL_mem {K : ByteArray → Nat} : ∀ {l : List St}, FitL K l → ∀ s ∈ l, FitS K s
  | s :: l, h, t, ht => by
    simp only [FitL] at h
    rcases List.mem_cons.1 ht with e | e
    · rw [e]; exact h.1
    · exact fitL_mem h.2 t e
mutual
theorem kok_st {K : ByteArray → Nat} : ∀ (s : St) (q : Vs × Ks), FitS K s → KOK K q.2 → KOK K (doS s q).2
  | .set .., q, _, h => by simp only [doS]; exact h
  | .call _ s l n, q, hf, h => by simp only [FitS] at hf; simp only [doS]; exact h.put q.1 s l n hf.2.2.2
  | .cond _ x th el, q, hf, h => by
    simp only [FitS] at hf
    simp only [doS]
    split
    · exact kok_sts th q hf.1 h
    · exact kok_sts el q hf.2 h
theorem kok_sts {K : ByteArray → Nat} : ∀ (l : List St) (q : Vs × Ks), FitL K l → KOK K q.2 → KOK K (doL l q).2
  | [], q, _, h => by simp only [doL]; exact h
  | s :: l, q, hf, h => by
    simp only [FitL] at hf
    simp only [doL]
    exact kok_sts l _ hf.2 (kok_st s q hf.1 h)
end
theorem doL_take : ∀ (l : List St) (i : Nat) (q : Vs × Ks) (h : i < l.length), doL (l.take (i + 1)) q = doS l[i] (doL (l.take i) q)
  | x :: l, 0, q, _ => by simp [doL]
  | x :: l, i + 1, q, h => by
    have := doL_take l i (doS x q) (by simpa using h)
    simp only [List.take_succ_cons, doL, this, List.getElem_cons_succ]
theorem fit_take {K : ByteArray → Nat} : ∀ (l : List St) (i : Nat), FitL K l → FitL K (l.take i)
  | [], i, _ => by simp [FitL]
  | x :: l, 0, _ => by simp [FitL]
  | x :: l, i + 1, h => by
    simp only [FitL] at h
    simp only [List.take_succ_cons, FitL]
    exact ⟨h.1, fit_take l i h.2⟩
theorem sdep_mem (p : Nat) (x : Ex) (th el : List St) : ∀ (l : List St), St.cond p x th el ∈ l → 1 + max (depL th) (depL el) ≤ depL l := by
  intro l
  induction l with
  | nil => intro h; cases h
  | cons s l ih =>
    intro h
    simp only [depL]
    rcases List.mem_cons.1 h with e | e
    · rw [← e]; simp only [depS]; omega
    · have := ih e; omega

/-- what do comes to -/
def DoOK (l : List St) : Prop := ∀ (S : Nat → Prop) (w : World) (v : Value) (P V B : Nat) (dv bv : Value) (vs : Vs) (ks : Ks) (K : ByteArray → Nat), Plt w P V B dv bv vs ks → IsSts S w l v → (∀ c, S c → c < w.heap.size ∧ c ≠ V ∧ c ≠ B) → KOK K ks → FitL K l → l.length ≤ 1000000 →
  Calls Tryd.prog 14 #[.pointer (some ⟨P, 0, none⟩), v] w fun e w' => e = .returned (.tuple #[]) ∧ Plt w' P V B dv bv (doL l (vs, ks)).1 (doL l (vs, ks)).2 ∧ KM V B w w'

set_option maxRecDepth 100000 in
set_option maxHeartbeats 12800000 in
theorem do_at (l : List St) (ih : ∀ p x th el, St.cond p x th el ∈ l → (DoOK th ∧ th.length ≤ 1000000) ∧ (DoOK el ∧ el.length ≤ 1000000)) : DoOK l := by
  intro S w v P V B dv bv vs ks K hp hx hS hk hf hll
  obtain ⟨cs, hrow, hall⟩ := hx
  obtain ⟨ao, cap, rfl⟩ := hrow.val
  have HROW := hide hrow
  have HALL := hide hall
  have HS := hide hS
  have HF := hide hf
  have IH := hide ih
  have HPL : Hid (V < w.heap.size ∧ B < w.heap.size) := ⟨blk_lt (show w.heap[V]? = some _ from hp.vals), blk_lt (show w.heap[B]? = some _ from hp.blks)⟩
  have HK0 : Hid (∃ q : Vs × Ks, doL (l.take 0) (vs, ks) = q ∧ Plt w P V B dv bv q.1 q.2 ∧ KOK K q.2) := ⟨(vs, ks), by simp [doL], hp, hk⟩
  clear hrow hall hS ih hp hk hf
  go_enter Tryd.func14, Tryd.ntmps14
  go_wp2_with fail
  go_loopw [5, 8] (fun _ i wr => ∃ j : Nat, j ≤ l.length ∧ i = .int .i64 j ∧ Hid (∃ q : Vs × Ks, doL (l.take j) (vs, ks) = q ∧ Plt wr P V B dv bv q.1 q.2 ∧ KOK K q.2) ∧ Hid (KM V B w wr)) (fun _ i _ => l.length - (intOf i).toNat)
  case atStart => exact ⟨0, Nat.zero_le _, rfl, HK0, hide (KM.refl _ _ _)⟩
  case round =>
    obtain ⟨j, hj, rfl, hq, hwr⟩ := hrel
    obtain ⟨q, hq1, hp, hk⟩ := hq.out
    have HQ1 := hide hq1
    have HP := hide hp
    have HK := hide hk
    clear hq hq1 hp hk
    by_cases hlt : j < l.length
    · have hji : (j : Int) < (l.length : Int) := by omega
      obtain ⟨g, cap', hv, hSg⟩ := HROW.out.addr (by omega)
      obtain ⟨rfl, rfl⟩ : ao = some ⟨g, 0, none⟩ ∧ cap = cap' := by cases hv; exact ⟨rfl, rfl⟩
      obtain ⟨c, hc, hst⟩ := HALL.out.get j hlt
      have hgB := HS.out g hSg
      have HCELL : Hid (∀ k u, c[k]? = some u → k < 8 → wr.cell? ⟨g, j * 8 + k, none⟩ = some u) := fun k u hk h8 => (World.cell?_of_block (a := ⟨g, j * 8 + k, none⟩) (hwr.out.block g hgB.1 hgB.2.1 hgB.2.2)).trans (HROW.out.cell rfl (by rw [flat_at 8 cs HALL.out.eight j c hc k h8]; exact hk))
      have HTJ := hide (doL_take l j (vs, ks) hlt)
      rw [HQ1.out] at HTJ
      have HMEM := hide (List.getElem_mem hlt)
      generalize l[j] = s at *
      have HST := hide (IsSt.same (w' := wr) (fun c h1 _ => hwr.out.block c (HS.out c h1).1 (HS.out c h1).2.1 (HS.out c h1).2.2) s c hst)
      have HFS := hide (fitL_mem HF.out s HMEM.out)
      have hjl : j ≤ 1000000 := by omega
      have HKN := hide (kok_st s q HFS.out HK.out)
      have HSR : Hid (∀ c, S c → c < wr.heap.size ∧ c ≠ V ∧ c ≠ B) := fun c h => ⟨Nat.lt_of_lt_of_le (HS.out c h).1 hwr.out.size, (HS.out c h).2⟩
      obtain ⟨vj, kj⟩ := q
      simp only at HP HK
      have HNV : Hid (wr.heap.size ≠ V ∧ wr.heap.size ≠ B) := by have h1 := HPL.out; have h2 := hwr.out.size; exact ⟨by omega, by omega⟩
      clear hv hc hst hgB
      cases s with
      | set p nm x =>
        have hst := HST.out
        simp only [IsSt] at hst
        obtain ⟨a, rfl, hxa⟩ := hst
        obtain ⟨X, rfl⟩ := hxa.ptr
        have HXA := hide hxa
        have HNW : Hid (doL (l.take (j + 1)) (vs, ks) = (putA vj nm ((getA vj nm ty0).1, (numS vj kj x).2), kj)) := by show _ = _; rw [HTJ.out]; simp only [doS]
        have r0 : wr.cell? ⟨g, j * 8, none⟩ = some (.int .i64 1) := HCELL.out 0 _ rfl (by decide)
        have r1 : wr.cell? ⟨g, j * 8 + 1, none⟩ = some (.int .i64 p) := HCELL.out 1 _ rfl (by decide)
        have r2 : wr.cell? ⟨g, j * 8 + 2, none⟩ = some (.string nm) := HCELL.out 2 _ rfl (by decide)
        have r3 : wr.cell? ⟨g, j * 8 + 3, none⟩ = some (.pointer (some ⟨X, 0, none⟩)) := HCELL.out 3 _ rfl (by decide)
        have r4 : wr.cell? ⟨g, j * 8 + 4, none⟩ = some (.slice none 0 0) := HCELL.out 4 _ rfl (by decide)
        have r5 : wr.cell? ⟨g, j * 8 + 5, none⟩ = some (.int .i64 0) := HCELL.out 5 _ rfl (by decide)
        have r6 : wr.cell? ⟨g, j * 8 + 6, none⟩ = some (.slice none 0 0) := HCELL.out 6 _ rfl (by decide)
        have r7 : wr.cell? ⟨g, j * 8 + 7, none⟩ = some (.slice none 0 0) := HCELL.out 7 _ rfl (by decide)
        have HO := hide (below_alloc wr (.cells #[.int .i64 1, .int .i64 p, .string nm, .pointer (some ⟨X, 0, none⟩), .slice none 0 0, .int .i64 0, .slice none 0 0, .slice none 0 0] 48))
        have HN := hide (blk_new wr (.cells #[.int .i64 1, .int .i64 p, .string nm, .pointer (some ⟨X, 0, none⟩), .slice none 0 0, .int .i64 0, .slice none 0 0, .slice none 0 0] 48))
        clear HCELL HST hxa
        go_wp2_with fail
        clear r0 r1 r2 r3 r4 r5 r6 r7
        have HOD : Hid (Below wr.heap.size wr (wr.alloc (.cells #[.int .i64 1, .int .i64 p, .string nm, .pointer (some ⟨X, 0, none⟩), .slice none 0 0, .int .i64 0, .slice none 0 0, .slice none 0 0] 48)).drew) := hide (Below.drew HO.out)
        have HND : Hid ((wr.alloc (.cells #[.int .i64 1, .int .i64 p, .string nm, .pointer (some ⟨X, 0, none⟩), .slice none 0 0, .int .i64 0, .slice none 0 0, .slice none 0 0] 48)).drew.heap[wr.heap.size]? = some (.cells #[.int .i64 1, .int .i64 p, .string nm, .pointer (some ⟨X, 0, none⟩), .slice none 0 0, .int .i64 0, .slice none 0 0, .slice none 0 0] 48 (0, 0))) := HN.out
        have HSW : Hid (∀ W : World, W.heap[wr.heap.size]? = some (.cells #[.int .i64 1, .int .i64 p, .string nm, .pointer (some ⟨X, 0, none⟩), .slice none 0 0, .int .i64 0, .slice none 0 0, .slice none 0 0] 48 (0, 0)) → W.cell? ⟨wr.heap.size, 2, none⟩ = some (.string nm) ∧ W.cell? ⟨wr.heap.size, 3, none⟩ = some (.pointer (some ⟨X, 0, none⟩))) := fun W h => ⟨by rw [blk_cell h]; rfl, by rw [blk_cell h]; rfl⟩
        have HNUM := hide (num_all x S (wr.alloc (.cells #[.int .i64 1, .int .i64 p, .string nm, .pointer (some ⟨X, 0, none⟩), .slice none 0 0, .int .i64 0, .slice none 0 0, .slice none 0 0] 48)).drew (.pointer (some ⟨X, 0, none⟩)) P V B dv bv vj kj (HP.out.of HOD.out) (HXA.out.same fun c h1 _ => HOD.out.block c (HSR.out c h1).1) (fun c h => Nat.lt_of_lt_of_le (HSR.out c h).1 HOD.out.size))
        generalize numS vj kj x = r at *
        obtain ⟨rk, rn⟩ := r
        simp only [tyV] at HNUM
        have hf1 := sfld1
        refine wp_region_held_drew (S := fun W => W.cell? ⟨wr.heap.size, 2, none⟩ = some (.string nm) ∧ W.cell? ⟨wr.heap.size, 3, none⟩ = some (.pointer (some ⟨X, 0, none⟩))) (by kernel_rfl) (HSW.out _ HND.out) (fun _ => ?_)
        generalize (wr.alloc (.cells #[.int .i64 1, .int .i64 p, .string nm, .pointer (some ⟨X, 0, none⟩), .slice none 0 0, .int .i64 0, .slice none 0 0, .slice none 0 0] 48)).drew = x1 at *
        refine wpAnyH_take (i := 0) (oi := ⟨some 16, _, _, _, _, _⟩) (v := (.pointer (some ⟨P, 0, none⟩))) rfl (by kernel_rfl) (by kernel_rfl) (by kernel_rfl) (fun _ _ _ h => h) (Or.inl ⟨by rfl, fun W hS => by (obtain ⟨s0, s1⟩ := hS; go_simp)⟩) (HSW.out _ HND.out) ?_
        simp only [Act.put, List.setIfInBounds_toArray, List.set_cons_zero, List.set_cons_succ]
        refine wpAnyH_take (i := 1) (oi := ⟨some 17, _, _, _, _, _⟩) (v := (.pointer (some ⟨wr.heap.size, 2, none⟩))) rfl (by kernel_rfl) (by kernel_rfl) (by kernel_rfl) (fun _ _ _ h => h) (Or.inl ⟨by rfl, fun W hS => by (obtain ⟨s0, s1⟩ := hS; go_simp)⟩) (HSW.out _ HND.out) ?_
        simp only [Act.put, List.setIfInBounds_toArray, List.set_cons_zero, List.set_cons_succ]
        refine wpAnyH_take (i := 2) (oi := ⟨some 18, _, _, _, _, _⟩) (v := (.string nm)) rfl (by kernel_rfl) (by kernel_rfl) (by kernel_rfl) (fun _ _ _ h => h) (Or.inl ⟨by rfl, fun W hS => by (obtain ⟨s0, s1⟩ := hS; go_simp)⟩) (HSW.out _ HND.out) ?_
        simp only [Act.put, List.setIfInBounds_toArray, List.set_cons_zero, List.set_cons_succ]
        refine wpAnyH_take (i := 3) (oi := ⟨some 19, _, _, _, _, _⟩) (v := (.pointer (some ⟨P, 0, none⟩))) rfl (by kernel_rfl) (by kernel_rfl) (by kernel_rfl) (fun _ _ _ h => h) (Or.inl ⟨by rfl, fun W hS => by (obtain ⟨s0, s1⟩ := hS; go_simp)⟩) (HSW.out _ HND.out) ?_
        simp only [Act.put, List.setIfInBounds_toArray, List.set_cons_zero, List.set_cons_succ]
        refine wpAnyH_take (i := 4) (oi := ⟨some 20, _, _, _, _, _⟩) (v := (.pointer (some ⟨wr.heap.size, 3, none⟩))) rfl (by kernel_rfl) (by kernel_rfl) (by kernel_rfl) (fun _ _ _ h => h) (Or.inl ⟨by rfl, fun W hS => by (obtain ⟨s0, s1⟩ := hS; go_simp)⟩) (HSW.out _ HND.out) ?_
        simp only [Act.put, List.setIfInBounds_toArray, List.set_cons_zero, List.set_cons_succ]
        refine wpAnyH_take (i := 5) (oi := ⟨some 21, _, _, _, _, _⟩) (v := (.pointer (some ⟨X, 0, none⟩))) rfl (by kernel_rfl) (by kernel_rfl) (by kernel_rfl) (fun _ _ _ h => h) (Or.inl ⟨by rfl, fun W hS => by (obtain ⟨s0, s1⟩ := hS; go_simp)⟩) (HSW.out _ HND.out) ?_
        simp only [Act.put, List.setIfInBounds_toArray, List.set_cons_zero, List.set_cons_succ]
        refine wpAnyH_ready (rs := [6]) (by kernel_rfl) (by simp) ?_
        refine AllReadyH.cons rfl (fun K hK => ?_) AllReadyH.nil
        go_simp
        refine HNUM.out.mono ?_
        rintro e x2 ⟨rfl, hb2⟩
        have HB7 := hide hb2
        have HN7 := hide (Below.blk hb2 HND.out)
        clear hb2
        refine hK.out _ _ (HSW.out _ HN7.out) (fun _ => ?_)
        clear hK K
        refine wpAnyH_take (i := 7) (oi := ⟨some 23, _, _, _, _, _⟩) (v := (.int .i64 rn)) rfl (by kernel_rfl) (by kernel_rfl) (by kernel_rfl) (fun _ _ _ h => h) (Or.inl ⟨by rfl, fun W hS => by (obtain ⟨s0, s1⟩ := hS; go_simp)⟩) (HSW.out _ HN7.out) ?_
        simp only [Act.put, List.setIfInBounds_toArray, List.set_cons_zero, List.set_cons_succ]
        refine wpAnyH_ready (rs := [8]) (by kernel_rfl) (by simp) ?_
        refine AllReadyH.cons rfl (fun K hK => ?_) AllReadyH.nil
        go_simp
        refine (sset_at nm rn x2 P V B dv bv vj kj (HP.out.of (HOD.out.trans (HB7.out.mono HOD.out.size)))).mono ?_
        rintro e x3 ⟨rfl, h8, h9⟩
        have HP8 := hide h8
        have HKM8 := hide h9
        have HN8 := hide (h9.blk HN7.out HNV.out.1 HNV.out.2)
        clear h8 h9
        refine hK.out _ _ (HSW.out _ HN8.out) (fun _ => ?_)
        clear hK K
        refine wpAnyH_done (by kernel_rfl) ?_ _
        go_wp2_with fail
        refine ⟨⟨j + 1, by omega, by go_num, hide ⟨_, HNW.out, HP8.out, ?_⟩, hide (hwr.out.trans ((KM.of (Below.trans HOD.out (HB7.out.mono HOD.out.size))).trans HKM8.out))⟩, by simp [intOf]; omega⟩
        exact HK.out
      | call p nm xs n =>
        have hst := HST.out
        simp only [IsSt] at hst
        obtain ⟨a, rfl, hxa⟩ := hst
        have hfs := HFS.out
        simp only [FitS] at hfs
        obtain ⟨x0, xr, rfl⟩ : ∃ x0 xr, xs = x0 :: xr := by cases xs with | nil => exact absurd rfl hfs.1 | cons y r => exact ⟨y, r, rfl⟩
        obtain ⟨aa, ac, rfl⟩ := (show ∃ (y : Option Addr) (c : Nat), a = .slice y (x0 :: xr).length c from by obtain ⟨us, hr, _⟩ := hxa; exact hr.val)
        have HNW : Hid (doL (l.take (j + 1)) (vs, ks) = (vj, putA kj nm (callS vj kj (getA kj nm bk0) (x0 :: xr) n))) := by show _ = _; rw [HTJ.out]; simp only [doS]
        simp only [doS] at HKN
        have r0 : wr.cell? ⟨g, j * 8, none⟩ = some (.int .i64 3) := HCELL.out 0 _ rfl (by decide)
        have r1 : wr.cell? ⟨g, j * 8 + 1, none⟩ = some (.int .i64 p) := HCELL.out 1 _ rfl (by decide)
        have r2 : wr.cell? ⟨g, j * 8 + 2, none⟩ = some (.string nm) := HCELL.out 2 _ rfl (by decide)
        have r3 : wr.cell? ⟨g, j * 8 + 3, none⟩ = some (.pointer none) := HCELL.out 3 _ rfl (by decide)
        have r4 : wr.cell? ⟨g, j * 8 + 4, none⟩ = some (.slice aa (x0 :: xr).length ac) := HCELL.out 4 _ rfl (by decide)
        have r5 : wr.cell? ⟨g, j * 8 + 5, none⟩ = some (.int .i64 n) := HCELL.out 5 _ rfl (by decide)
        have r6 : wr.cell? ⟨g, j * 8 + 6, none⟩ = some (.slice none 0 0) := HCELL.out 6 _ rfl (by decide)
        have r7 : wr.cell? ⟨g, j * 8 + 7, none⟩ = some (.slice none 0 0) := HCELL.out 7 _ rfl (by decide)
        have HO := hide (below_alloc wr (.cells #[.int .i64 3, .int .i64 p, .string nm, .pointer none, .slice aa (x0 :: xr).length ac, .int .i64 n, .slice none 0 0, .slice none 0 0] 48))
        have hkk := HK.out nm
        have HCA := hide (scall_at p nm x0 xr n S (wr.alloc (.cells #[.int .i64 3, .int .i64 p, .string nm, .pointer none, .slice aa (x0 :: xr).length ac, .int .i64 n, .slice none 0 0, .slice none 0 0] 48)) (.slice aa (x0 :: xr).length ac) P V B dv bv vj kj (HP.out.of HO.out) (hxa.same fun c h1 _ => HO.out.block c (HSR.out c h1).1) (fun c h => Nat.lt_of_lt_of_le (HSR.out c h).1 HO.out.size) (fun h4 => by
          have := hfs.2.1 (hkk.1.symm.trans h4)
          intro e; subst e; simp at this) hkk.2.1 hkk.2.2 (by have := hfs.2.2.1; simp at this; omega))
        clear HCELL HST hxa hfs hkk
        generalize putA kj nm (callS vj kj (getA kj nm bk0) (x0 :: xr) n) = k2 at *
        go_wp2_with fail
        refine HCA.out.mono ?_
        rintro e w4 ⟨rfl, h4, h5⟩
        have HP4 := hide h4
        have HK4 := hide h5
        clear h4 h5 r0 r1 r2 r3 r4 r5 r6 r7
        go_wp2_with fail
        exact ⟨⟨j + 1, by omega, by go_num, hide ⟨_, HNW.out, HP4.out, HKN.out⟩, hide (hwr.out.trans ((KM.of HO.out).trans HK4.out))⟩, by simp [intOf]; omega⟩
      | cond p x th el =>
        have hst := HST.out
        simp only [IsSt] at hst
        obtain ⟨a, t, u, cs1, ds1, rfl, hxa, ht1, ht2, he1, he2⟩ := hst
        have hth : IsSts S wr th t := ⟨cs1, ht1, ht2⟩
        have hel : IsSts S wr el u := ⟨ds1, he1, he2⟩
        clear ht1 ht2 he1 he2
        obtain ⟨X, rfl⟩ := hxa.ptr
        obtain ⟨ta, tc, rfl⟩ := sts_val hth
        obtain ⟨ua, uc, rfl⟩ := sts_val hel
        have hfs := HFS.out
        simp only [FitS] at hfs
        obtain ⟨⟨ih1, hl1⟩, ⟨ih2, hl2⟩⟩ := IH.out p x th el HMEM.out
        have r0 : wr.cell? ⟨g, j * 8, none⟩ = some (.int .i64 2) := HCELL.out 0 _ rfl (by decide)
        have r1 : wr.cell? ⟨g, j * 8 + 1, none⟩ = some (.int .i64 p) := HCELL.out 1 _ rfl (by decide)
        have r2 : wr.cell? ⟨g, j * 8 + 2, none⟩ = some (.string ⟨#[]⟩) := HCELL.out 2 _ rfl (by decide)
        have r3 : wr.cell? ⟨g, j * 8 + 3, none⟩ = some (.pointer (some ⟨X, 0, none⟩)) := HCELL.out 3 _ rfl (by decide)
        have r4 : wr.cell? ⟨g, j * 8 + 4, none⟩ = some (.slice none 0 0) := HCELL.out 4 _ rfl (by decide)
        have r5 : wr.cell? ⟨g, j * 8 + 5, none⟩ = some (.int .i64 0) := HCELL.out 5 _ rfl (by decide)
        have r6 : wr.cell? ⟨g, j * 8 + 6, none⟩ = some (.slice ta th.length tc) := HCELL.out 6 _ rfl (by decide)
        have r7 : wr.cell? ⟨g, j * 8 + 7, none⟩ = some (.slice ua el.length uc) := HCELL.out 7 _ rfl (by decide)
        have HO := hide (below_alloc wr (.cells #[.int .i64 2, .int .i64 p, .string ⟨#[]⟩, .pointer (some ⟨X, 0, none⟩), .slice none 0 0, .int .i64 0, .slice ta th.length tc, .slice ua el.length uc] 48))
        have HN := hide (blk_new wr (.cells #[.int .i64 2, .int .i64 p, .string ⟨#[]⟩, .pointer (some ⟨X, 0, none⟩), .slice none 0 0, .int .i64 0, .slice ta th.length tc, .slice ua el.length uc] 48))
        have HHO := hide (sholds_at x S (wr.alloc (.cells #[.int .i64 2, .int .i64 p, .string ⟨#[]⟩, .pointer (some ⟨X, 0, none⟩), .slice none 0 0, .int .i64 0, .slice ta th.length tc, .slice ua el.length uc] 48)) (.pointer (some ⟨X, 0, none⟩)) P V B dv bv vj kj (HP.out.of HO.out) (hxa.same fun c h1 _ => HO.out.block c (HSR.out c h1).1) (fun c h => Nat.lt_of_lt_of_le (HSR.out c h).1 HO.out.size))
        have HD1 : Hid (∀ W, Below wr.heap.size wr W → Calls Tryd.prog 14 #[.pointer (some ⟨P, 0, none⟩), .slice ta th.length tc] W fun e w' => e = .returned (.tuple #[]) ∧ Plt w' P V B dv bv (doL th (vj, kj)).1 (doL th (vj, kj)).2 ∧ KM V B W w') := fun W hb => ih1 S W _ P V B dv bv vj kj K (HP.out.of hb) (hth.same fun c h1 _ => hb.block c (HSR.out c h1).1) (fun c h => ⟨Nat.lt_of_lt_of_le (HSR.out c h).1 hb.size, (HSR.out c h).2⟩) HK.out hfs.1 hl1
        have HD2 : Hid (∀ W, Below wr.heap.size wr W → Calls Tryd.prog 14 #[.pointer (some ⟨P, 0, none⟩), .slice ua el.length uc] W fun e w' => e = .returned (.tuple #[]) ∧ Plt w' P V B dv bv (doL el (vj, kj)).1 (doL el (vj, kj)).2 ∧ KM V B W w') := fun W hb => ih2 S W _ P V B dv bv vj kj K (HP.out.of hb) (hel.same fun c h1 _ => hb.block c (HSR.out c h1).1) (fun c h => ⟨Nat.lt_of_lt_of_le (HSR.out c h).1 hb.size, (HSR.out c h).2⟩) HK.out hfs.2 hl2
        have HNW : Hid (doL (l.take (j + 1)) (vs, ks) = if holdsS vj kj x then doL th (vj, kj) else doL el (vj, kj)) := by show _ = _; rw [HTJ.out]; simp only [doS]
        simp only [doS] at HKN
        clear HCELL HST hxa hfs hth hel ih1 ih2
        cases hh : holdsS vj kj x with
        | true =>
          rw [hh] at HHO HNW HKN
          simp only [if_true] at HNW HKN
          generalize doL th (vj, kj) = q2 at *
          go_wp2_with fail
          refine HHO.out.mono ?_
          rintro e w4 ⟨rfl, h4⟩
          have HB4 := hide (HO.out.trans (h4.mono HO.out.size))
          have HN4 := hide (Below.blk h4 HN.out)
          clear h4 r0 r1 r2 r3 r4 r5 r6 r7
          have c6 : w4.cell? ⟨wr.heap.size, 6, none⟩ = some (.slice ta th.length tc) := by rw [blk_cell HN4.out]; rfl
          go_wp2_with fail
          refine (HD1.out w4 HB4.out).mono ?_
          rintro e w5 ⟨rfl, h5, h6⟩
          have HP5 := hide h5
          have HK5 := hide h6
          clear h5 h6 c6
          go_wp2_with fail
          exact ⟨⟨j + 1, by omega, by go_num, hide ⟨_, HNW.out, HP5.out, HKN.out⟩, hide (hwr.out.trans ((KM.of HB4.out).trans HK5.out))⟩, by simp [intOf]; omega⟩
        | false =>
          rw [hh] at HHO HNW HKN
          simp only [Bool.false_eq_true, if_false] at HNW HKN
          generalize doL el (vj, kj) = q2 at *
          go_wp2_with fail
          refine HHO.out.mono ?_
          rintro e w4 ⟨rfl, h4⟩
          have HB4 := hide (HO.out.trans (h4.mono HO.out.size))
          have HN4 := hide (Below.blk h4 HN.out)
          clear h4 r0 r1 r2 r3 r4 r5 r6 r7
          have c7 : w4.cell? ⟨wr.heap.size, 7, none⟩ = some (.slice ua el.length uc) := by rw [blk_cell HN4.out]; rfl
          go_wp2_with fail
          refine (HD2.out w4 HB4.out).mono ?_
          rintro e w5 ⟨rfl, h5, h6⟩
          have HP5 := hide h5
          have HK5 := hide h6
          clear h5 h6 c7
          go_wp2_with fail
          exact ⟨⟨j + 1, by omega, by go_num, hide ⟨_, HNW.out, HP5.out, HKN.out⟩, hide (hwr.out.trans ((KM.of HB4.out).trans HK5.out))⟩, by simp [intOf]; omega⟩
    · have HJ : Hid (j = l.length) := (by omega : j = l.length)
      have HE : Hid (doL l (vs, ks) = q) := by show _ = _; rw [← HQ1.out, HJ.out, List.take_length]
      go_wp2_with fail
      go_end0
      rw [HE.out]
      exact ⟨rfl, HP.out, hwr.out⟩

mutual
/-- rows of a size that is met -/
def QmS : St → Prop
  | .set .. => True
  | .call _ _ l _ => l.length ≤ 1000000
  | .cond _ _ th el => QmL th ∧ QmL el ∧ th.length ≤ 1000000 ∧ el.length ≤ 1000000
def QmL : List St → Prop
  | [] => True
  | s :: l => QmS s ∧ QmL l
end
theorem qargsK_ge : ∀ l : List Ex, l.length ≤ (argsK l).length
  | [] => by simp
  | x :: l => by have := qargsK_ge l; simp only [argsK, List.length_append, List.length_cons, List.length_nil]; omega
theorem qstsK_ge : ∀ l : List St, l.length ≤ (stsK l).length
  | [] => by simp
  | s :: l => by have := qstsK_ge l; have := stK_pos s; simp only [stsK, List.length_append, List.length_cons]; omega
mutual
theorem qm_st : ∀ s : St, (stK s).length ≤ 1000000 → QmS s
  | .set .., _ => by simp only [QmS]
  | .call _ _ l _, h => by
    simp only [stK, List.length_append, List.length_cons, List.length_nil] at h
    have := qargsK_ge l
    simp only [QmS]; omega
  | .cond _ _ th [], h => by
    simp only [stK, List.length_append, List.length_cons, List.length_nil] at h
    have := qstsK_ge th
    have h1 := qm_sts th (by omega)
    simp only [QmS, QmL, List.length_nil]
    exact ⟨h1, trivial, by omega, by omega⟩
  | .cond _ _ th (e :: el), h => by
    simp only [stK, List.length_append, List.length_cons, List.length_nil] at h
    have := qstsK_ge th
    have := qstsK_ge (e :: el)
    have h1 := qm_sts th (by omega)
    have h2 := qm_sts (e :: el) (by omega)
    simp only [QmS]
    exact ⟨h1, h2, by omega, by omega⟩
theorem qm_sts : ∀ l : List St, (stsK l).length ≤ 1000000 → QmL l
  | [], _ => by simp only [QmL]
  | s :: l, h => by
    simp only [stsK, List.length_append] at h
    simp only [QmL]
    exact ⟨qm_st s (by omega), qm_sts l (by omega)⟩
end
theorem qmL_mem : ∀ {l : List St}, QmL l → ∀ s ∈ l, QmS s
  | s :: l, h, t, ht => by
    simp only [QmL] at h
    rcases List.mem_cons.1 ht with e | e
    · rw [e]; exact h.1
    · exact qmL_mem h.2 t e
theorem do_all : ∀ (n : Nat) (l : List St), depL l ≤ n → QmL l → DoOK l := by
  intro n
  induction n with
  | zero =>
    intro l hd hq
    refine do_at l fun p x th el hm => ?_
    have := sdep_mem p x th el l hm
    omega
  | succ n ih =>
    intro l hd hq
    refine do_at l fun p x th el hm => ?_
    have h1 := sdep_mem p x th el l hm
    have h2 := qmL_mem hq _ hm
    simp only [QmS] at h2
    exact ⟨⟨ih th (by omega) h2.1, h2.2.2.1⟩, ⟨ih el (by omega) h2.2.1, h2.2.2.2⟩⟩
end Go.Proofs.YtiimnnancblbkaaDoor
