/-
  CONTRACT of node, whatever it is.
-/
import Derived.Test.YtacgepdmhdcdkaaLNo
set_option linter.unusedSimpArgs false
set_option linter.unusedVariables false
namespace Go.Proofs.Ytacgepdmhdcdkaa
open Go.RowKit

theorem behI_top (D ins : List Int) (m : Int) (hm : 0 ≤ m) (h : ∀ s, outAt D s ≤ m) : ∀ k, behI D ins k ≤ m
  | 0 => hm
  | k + 1 => by
    have h1 := behI_top D ins m hm h k
    have h2 := h (outAt ins k).toNat
    simp only [behI]; omega
theorem deepI_le {D : List Int} {l : Lt} {m : Int} (hm : 0 ≤ m) (h : ∀ s, outAt D s ≤ m) : deepI D l ≤ m + 1 := by
  have := behI_top D l.ins m hm h l.ins.length
  unfold deepI; split <;> omega
theorem behI_same {D D' ins : List Int} {s : Nat} (hD : ∀ q, q ≠ s → outAt D' q = outAt D q) (h : ∀ q ∈ ins, 0 ≤ q ∧ q ≠ (s : Int)) : ∀ k, k ≤ ins.length → behI D' ins k = behI D ins k
  | 0, _ => rfl
  | k + 1, hk => by
    have hm : outAt ins k ∈ ins := by
      have : outAt ins k = ins[k] := by simp [outAt, show k < ins.length by omega]
      rw [this]; exact List.getElem_mem _
    have hq := h _ hm
    simp only [behI]
    rw [behI_same hD h k (by omega), hD _ (by omega)]
theorem deepI_same {D D' : List Int} {l : Lt} {s : Nat} (hD : ∀ q, q ≠ s → outAt D' q = outAt D q) (h : ∀ q ∈ l.ins, 0 ≤ q ∧ q ≠ (s : Int)) : deepI D' l = deepI D l := by
  unfold deepI
  rw [behI_same hD h l.ins.length (Nat.le_refl _)]

theorem GateW.keep {sig s : Nat} {D D' : List Int} {op : Int} {xs ys l : List Lt} (h : GateW sig D op xs ys l) (hs : sig < s) (hD : ∀ q, q ≠ s → outAt D' q = outAt D q) (hz : ∀ x ∈ l, ∀ q ∈ x.ins, 0 ≤ q ∧ q < (s : Int)) : GateW sig D' op xs ys l := by
  rcases h with h | ⟨z, zs, e, h1, h2, h3, h4⟩
  · exact .inl h
  · refine .inr ⟨z, zs, e, h1, h2, h3, ?_⟩
    rw [hD _ (by omega), deepI_same hD (fun q hq => by have := hz z (by rw [e]; exact List.mem_cons_self ..) q hq; omega)]
    exact h4
theorem NodeW.keep {gn : Nat} {ns : List Nd} {W W' : Nat → List Lt} {D D' : List Int} {j i : Nat} {l : List Lt} (h : NodeW gn ns W D j l) (hr : rightN gn ns.length j (ndAt ns j) = true) (hji : j < i) (hW : ∀ q, q < j → W' q = W q) (hD : ∀ q, q ≠ firstS gn ns + i → outAt D' q = outAt D q) (hz : ∀ x ∈ l, ∀ q ∈ x.ins, 0 ≤ q ∧ q < ((firstS gn ns + i : Nat) : Int)) : NodeW gn ns W' D' j l := by
  rcases h with h | h | h | h | ⟨ho, h⟩ | ⟨ho, h⟩
  · exact .inl h
  · exact .inr (.inl h)
  · exact .inr (.inr (.inl h))
  · exact .inr (.inr (.inr (.inl h)))
  · have := rightN_not hr ho
    refine .inr (.inr (.inr (.inr (.inl ⟨ho, ?_⟩))))
    rw [hW _ (by omega)]; exact h.keep (by omega) hD hz
  · have := rightN_gate hr ho
    refine .inr (.inr (.inr (.inr (.inr ⟨ho, ?_⟩))))
    rw [hW _ (by omega), hW _ (by omega)]; exact h.keep (by omega) hD hz
theorem NodeW.here {gn : Nat} {ns : List Nd} {W W' : Nat → List Lt} {D : List Int} {j : Nat} {l : List Lt} (h : NodeW gn ns W D j l) (hr : rightN gn ns.length j (ndAt ns j) = true) (hW : ∀ q, q < j → W' q = W q) : NodeW gn ns W' D j l := by
  rcases h with h | h | h | h | ⟨ho, h⟩ | ⟨ho, h⟩
  · exact .inl h
  · exact .inr (.inl h)
  · exact .inr (.inr (.inl h))
  · exact .inr (.inr (.inr (.inl h)))
  · have := rightN_not hr ho
    refine .inr (.inr (.inr (.inr (.inl ⟨ho, ?_⟩))))
    rw [hW _ (by omega)]; exact h
  · have := rightN_gate hr ho
    refine .inr (.inr (.inr (.inr (.inr ⟨ho, ?_⟩))))
    rw [hW _ (by omega), hW _ (by omega)]; exact h

/-- the ways of the first i nodes -/
abbrev waysX (X : Nat → List Wy) (j : Nat) : List Lt := (X j).map (·.l)
structure PkOk (gn : Nat) (ns : List Nd) (i : Nat) (X : Nat → List Wy) (D : List Int) : Prop where
  node : ∀ j, j < i → NodeW gn ns (waysX X) D j (waysX X j)
  few : ∀ j, j < i → (X j).length ≤ 5 ∧ (isGate (ndAt ns j) = false → (X j).length = 1)
  len : D.length = firstS gn ns + ns.length
  top : ∀ s, outAt D s ≤ i
theorem PkOk.ways {gn : Nat} {ns : List Nd} {i : Nat} {X : Nat → List Wy} {D : List Int} (h : PkOk gn ns i X D) (hr : ∀ j, j < ns.length → rightN gn ns.length j (ndAt ns j) = true) (hi : i ≤ ns.length) {j : Nat} (hj : j < i) {x : Lt} (hx : x ∈ waysX X j) : Way x ∧ ∀ q ∈ x.ins, 0 ≤ q ∧ q < ((firstS gn ns + j + 1 : Nat) : Int) := by
  obtain ⟨z, zs, e, h1, h2⟩ := ways_keep hr i hi h.node j hj
  rw [e] at hx
  rcases List.mem_cons.1 hx with rfl | hx
  · exact ⟨h1.way, fun q hq => ⟨h1.way.pos q hq, by have := h1.sig q hq; omega⟩⟩
  · exact ⟨(h2 x hx).way, fun q hq => ⟨(h2 x hx).way.pos q hq, by have := (h2 x hx).sig q hq; omega⟩⟩
/-- no gate reads two gates -/
def Narrow (ns : List Nd) : Prop := ∀ j, j < ns.length → ((ndAt ns j).op = 5 ∨ (ndAt ns j).op = 6 ∨ (ndAt ns j).op = 7) → isGate (ndAt ns (ndAt ns j).a.toNat) = false ∨ isGate (ndAt ns (ndAt ns j).b.toNat) = false
theorem PkOk.more {gn : Nat} {ns : List Nd} {i P Dg : Nat} {wa : Option Addr} {wc : Nat} {X : Nat → List Wy} {D : List Int} {w w' : World} {e : Ending} (h : PkOk gn ns i X D) (hr : ∀ j, j < ns.length → rightN gn ns.length j (ndAt ns j) = true) (hi : i < ns.length)
    {xs : List Wy} {D' : List Int} (hN : NodeW gn ns (waysX X) D' i (xs.map (·.l))) (hl : D'.length = D.length) (hD : ∀ s, s ≠ firstS gn ns + i → outAt D' s = outAt D s) (ht : outAt D' (firstS gn ns + i) ≤ i + 1) (h5 : xs.length ≤ 5) (h1 : isGate (ndAt ns i) = false → xs.length = 1) :
    PkOk gn ns (i + 1) (fun j => if j = i then xs else X j) D' := by
  have hW : ∀ q, q < i → waysX (fun j => if j = i then xs else X j) q = waysX X q := fun q hq => by unfold waysX; simp only [show q ≠ i by omega, ↓reduceIte]
  refine ⟨fun j hj => ?_, fun j hj => ?_, hl.trans h.len, fun s => ?_⟩
  · by_cases e : j = i
    · subst e
      have : waysX (fun q => if q = j then xs else X q) j = xs.map (·.l) := by unfold waysX; simp only [↓reduceIte]
      rw [this]
      exact hN.here (hr j hi) hW
    · rw [hW j (by omega)]
      exact (h.node j (by omega)).keep (hr j (by omega)) (by omega : j < i) (fun q hq => hW q (by omega)) hD fun x hx q hq => by
        have := (h.ways hr (by omega) (by omega : j < i) hx).2 q hq; omega
  · by_cases e : j = i
    · subst e; simp only [↓reduceIte]; exact ⟨h5, h1⟩
    · simp only [if_neg e]; exact h.few j (by omega)
  · by_cases e : s = firstS gn ns + i
    · rw [e]; omega
    · rw [hD s e]; have := h.top s; omega

theorem rightN_op {given : Int} {many i : Nat} {x : Nd} (h : rightN given many i x = true) : x.op = 1 ∨ x.op = 2 ∨ x.op = 3 ∨ x.op = 4 ∨ (x.op = 5 ∨ x.op = 6 ∨ x.op = 7) ∨ x.op = 8 := by
  unfold rightN at h
  by_cases h1 : x.op = 1; exact .inl h1
  by_cases h2 : x.op = 2; exact .inr (.inl h2)
  by_cases h3 : x.op = 3; exact .inr (.inr (.inl h3))
  by_cases h4 : x.op = 4; exact .inr (.inr (.inr (.inl h4)))
  by_cases h5 : x.op = 5; exact .inr (.inr (.inr (.inr (.inl (.inl h5)))))
  by_cases h6 : x.op = 6; exact .inr (.inr (.inr (.inr (.inl (.inr (.inl h6))))))
  by_cases h7 : x.op = 7; exact .inr (.inr (.inr (.inr (.inl (.inr (.inr h7))))))
  by_cases h8 : x.op = 8; exact .inr (.inr (.inr (.inr (.inr h8))))
  simp [h1, h2, h3, h4, h5, h6, h7, h8] at h
/-- one way alone, as node tells it -/
theorem one_out {gn : Nat} {ns : List Nd} {i P Dg : Nat} {wa : Option Addr} {wc : Nat} {X : Nat → List Wy} {D : List Int} {w w' : World} {e : Ending} {l : Lt} (h : OneWay w l e w') (hk : KeptP P Dg w w')
    (hP : w'.heap[P]? = some (.cells #[.int .i64 (firstS gn ns), .int .i64 (gn + regsN ns (i + 1) : Nat), .slice wa i wc, .slice (some ⟨Dg, 0, none⟩) D.length D.length] 68 (0, 0))) (hD : w'.heap[Dg]? = some (.cells (intsC D).toArray 3 (0, 0))) (hN : NodeW gn ns (waysX X) D i [l]) : NodeOut gn ns i P Dg wa wc X D w e w' := by
  obtain ⟨x, g, rfl, rfl, h1, h2⟩ := h
  refine ⟨[x], _, _, D, rfl, h1, fun y hy => ?_, hN, rfl, fun _ _ => rfl, .inl rfl, hP, hD, hk, by simp, fun _ => rfl⟩
  rw [List.mem_singleton.1 hy]; exact h2
theorem PkOk.narrow {gn : Nat} {ns : List Nd} {i : Nat} {X : Nat → List Wy} {D : List Int} (h : PkOk gn ns i X D) (hnar : Narrow ns) (hi : i < ns.length) (ho : (ndAt ns i).op = 5 ∨ (ndAt ns i).op = 6 ∨ (ndAt ns i).op = 7) {a b : Nat} (ha : (ndAt ns i).a = a) (hb : (ndAt ns i).b = b) (hai : a < i) (hbi : b < i) : (X a).length * (X b).length ≤ 19 := by
  have h1 := hnar i hi ho
  rw [ha, hb] at h1
  simp only [Int.toNat_natCast] at h1
  have ha5 := (h.few a hai).1
  have hb5 := (h.few b hbi).1
  rcases h1 with h1 | h1
  · rw [(h.few a hai).2 h1]; omega
  · rw [(h.few b hbi).2 h1]; omega
theorem node_at {B P Dg : Nat} {w : World} {gn : Nat} {ns : List Nd} {i : Nat} {wa : Option Addr} {wc : Nat} {X : Nat → List Wy} {SA : Nat → Option Addr} {SC : Nat → Nat} {D : List Int} (h : PkAt B P Dg w (firstS gn ns) (gn + regsN ns i) i wa wc X SA SC D) (hk : PkOk gn ns i X D) (hr : ∀ j, j < ns.length → rightN gn ns.length j (ndAt ns j) = true) (hi : i < ns.length) (hnar : Narrow ns) (hb : D.length ≤ 100000) :
    Calls Try.prog 24 #[.pointer (some ⟨P, 0, none⟩), .agg #[.int .i64 (ndAt ns i).op, .int .i64 (ndAt ns i).a, .int .i64 (ndAt ns i).b, .int .i64 (ndAt ns i).next]] w fun e w' => NodeOut gn ns i P Dg wa wc X D w e w' := by
  have hR := hr i hi
  have hPl := blk_lt h.me
  have hDl := blk_lt h.deep
  have hlen := hk.len
  have hrm := regsN_mono ns (show i ≤ ns.length by omega)
  have hreg : isReg (ndAt ns i) = false → gn + regsN ns (i + 1) = gn + regsN ns i := fun e => by simp [regsN, e]
  have hwy : ∀ j, j < i → ∀ x ∈ X j, Way x.l ∧ ∀ q ∈ x.l.ins, 0 ≤ q ∧ q < ((firstS gn ns + i : Nat) : Int) := fun j hj x hx => by
    have := hk.ways hr (by omega) hj (List.mem_map.2 ⟨x, hx, rfl⟩)
    exact ⟨this.1, fun q hq => by have := this.2 q hq; omega⟩
  have hw2 : ∀ j, j < i → ∀ x ∈ X j, Way x.l ∧ ∀ q ∈ x.l.ins, 0 ≤ q ∧ q < D.length := fun j hj x hx => ⟨(hwy j hj x hx).1, fun q hq => by have := (hwy j hj x hx).2 q hq; omega⟩
  have h1 : ∀ j, j < i → ∃ k < (X j).length, (wyAt (X j) k).l.ins.length ≤ 1 := fun j hj => wy_one' (node_one (hk.node j hj))
  have hDM : ∀ s, outAt D s ≤ 100000 := fun s => by have := hk.top s; omega
  have hfi : firstS gn ns + i < D.length := by omega
  have hsame : isReg (ndAt ns i) = false → ∀ {w' : World}, Below w.heap.size w w' → w'.heap[P]? = some (.cells #[.int .i64 (firstS gn ns), .int .i64 (gn + regsN ns (i + 1) : Nat), .slice wa i wc, .slice (some ⟨Dg, 0, none⟩) D.length D.length] 68 (0, 0)) := fun e w' hw => by
    rw [hreg e]; exact Below.blk hw h.me
  rcases rightN_op hR with ho | ho | ho | ho | ho | ho
  · rw [ho]
    refine (node_known P _ _ _ 1 (.inl rfl) w).mono ?_
    rintro e w' ⟨h2, hb2⟩
    exact one_out h2 (KeptQ.of hb2) (hsame (by simp [isReg, ho]) hb2) (Below.blk hb2 h.deep) (.inl ⟨ho, rfl⟩)
  · rw [ho]
    refine (node_known P _ _ _ 2 (.inr rfl) w).mono ?_
    rintro e w' ⟨h2, hb2⟩
    exact one_out h2 (KeptQ.of hb2) (hsame (by simp [isReg, ho]) hb2) (Below.blk hb2 h.deep) (.inr (.inl ⟨ho, rfl⟩))
  · rw [ho]
    refine (node_in P _ _ _ w).mono ?_
    rintro e w' ⟨h2, hb2⟩
    exact one_out h2 (KeptQ.of hb2) (hsame (by simp [isReg, ho]) hb2) (Below.blk hb2 h.deep) (.inr (.inr (.inl ⟨ho, rfl⟩)))
  · rw [ho]
    have hfr : gn + regsN ns i ≤ 100000 := by have : firstS gn ns = gn + regsN ns ns.length := rfl; omega
    refine (node_reg h hfr _ _ _).mono ?_
    rintro e w' ⟨h2, hk2, hP2, hD2⟩
    have hre : gn + regsN ns (i + 1) = gn + regsN ns i + 1 := by simp [regsN, isReg, ho]; omega
    exact one_out h2 hk2 (by rw [hre]; exact hP2) (hD2.trans h.deep) (.inr (.inr (.inr (.inl ⟨ho, rfl⟩))))
  · have hg := rightN_gate hR ho
    obtain ⟨a, ha⟩ : ∃ a : Nat, (ndAt ns i).a = a := ⟨(ndAt ns i).a.toNat, by omega⟩
    obtain ⟨b, hbb⟩ : ∃ b : Nat, (ndAt ns i).b = b := ⟨(ndAt ns i).b.toNat, by omega⟩
    have hai : a < i := by omega
    have hbi : b < i := by omega
    have hng := hk.narrow hnar hi ho ha hbb hai hbi
    have hnr : isReg (ndAt ns i) = false := by rcases ho with ho | ho | ho <;> simp [isReg, ho]
    have hgt : isGate (ndAt ns i) = true := by rcases ho with ho | ho | ho <;> simp [isGate, ho]
    rw [ha, hbb]
    refine (node_bin h _ a b _ ho hai hbi hw2 h1 hng hfi hb hDM).mono ?_
    rintro e w' ⟨w1, hb1, hgo⟩
    refine gate_out (h.below hb1) hb1 hPl hDl (hreg hnr).symm hfi hgo (fun x hx => (hwy a hai x hx).2) (fun x hx => (hwy b hbi x hx).2) (fun D' l hG => ?_) hgt
    refine .inr (.inr (.inr (.inr (.inr ⟨ho, ?_⟩))))
    rw [ha, hbb]; exact hG
  · have hg := rightN_not hR ho
    obtain ⟨a, ha⟩ : ∃ a : Nat, (ndAt ns i).a = a := ⟨(ndAt ns i).a.toNat, by omega⟩
    have hai : a < i := by omega
    have hng : (X a).length ≤ 19 := by have := (hk.few a hai).1; omega
    have hnr : isReg (ndAt ns i) = false := by simp [isReg, ho]
    have hgt : isGate (ndAt ns i) = true := by simp [isGate, ho]
    rw [ha, ho]
    refine (node_not h 8 a _ _ rfl hai hw2 h1 hng hfi hb hDM).mono ?_
    rintro e w' ⟨w1, hb1, hgo⟩
    refine gate_out (h.below hb1) hb1 hPl hDl (hreg hnr).symm hfi hgo (fun x hx => (hwy a hai x hx).2) (fun x hx q hq => by rw [List.mem_singleton.1 hx] at hq; cases hq) (fun D' l hG => ?_) hgt
    refine .inr (.inr (.inr (.inr (.inl ⟨ho, ?_⟩))))
    rw [ha]; exact hG
end Go.Proofs.Ytacgepdmhdcdkaa
