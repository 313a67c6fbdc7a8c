/-
  PACKING, plain: the ways of nodes; every way lets out what its node is.
  LAYING, plain: the net of the tables that are needed; each node is laid once at most.
  THE NET THAT IS LAID, plain: it may be, lets out what the gates do, keeps what they keep, and has as few tables.
-/
import Derived.Test.YtacgepdmhdcdkaaLPkR
import Derived.Test.YtacgepdmhdcdkaaLCp
set_option linter.unusedSimpArgs false
set_option linter.unusedVariables false
namespace Go.Proofs.Ytacgepdmhdcdkaa

/-- how many registers there are among the first k nodes -/
def regsN (ns : List Nd) : Nat → Nat
  | 0 => 0
  | k + 1 => regsN ns k + (if isReg (ndAt ns k) then 1 else 0)
/-- the first node's signal -/
def firstS (gn : Nat) (ns : List Nd) : Nat := gn + regsN ns ns.length
/-- what the registers hold, in order -/
def packH (held : List Bool) (ns : List Nd) : Nat → List Bool
  | 0 => []
  | k + 1 => packH held ns k ++ (if isReg (ndAt ns k) then [bit held k] else [])
theorem packH_len (held : List Bool) (ns : List Nd) (k : Nat) : (packH held ns k).length = regsN ns k := by
  induction k with
  | zero => rfl
  | succ k ih =>
    simp only [packH, regsN, List.length_append, ih]
    split <;> simp
theorem regsN_mono (ns : List Nd) {a b : Nat} (h : a ≤ b) : regsN ns a ≤ regsN ns b := by
  induction b with
  | zero => have : a = 0 := by omega
            subst this; exact Nat.le_refl _
  | succ b ih =>
    by_cases e : a = b + 1
    · subst e; exact Nat.le_refl _
    · have := ih (by omega); simp only [regsN]; omega
theorem regsN_lt (ns : List Nd) {j k : Nat} (h : j < k) (hr : isReg (ndAt ns j) = true) : regsN ns j < regsN ns k := by
  have h1 := regsN_mono ns (show j + 1 ≤ k by omega)
  have h2 : regsN ns (j + 1) = regsN ns j + 1 := by simp [regsN, hr]
  omega
theorem regsN_le (ns : List Nd) (k : Nat) : regsN ns k ≤ k := by
  induction k with
  | zero => exact Nat.le_refl _
  | succ k ih => simp only [regsN]; split <;> omega
theorem packH_at (held : List Bool) (ns : List Nd) {j k : Nat} (h : j < k) (hr : isReg (ndAt ns j) = true) : bit (packH held ns k) (regsN ns j) = bit held j := by
  induction k with
  | zero => exact absurd h (Nat.not_lt_zero _)
  | succ k ih =>
    simp only [packH]
    by_cases e : j = k
    · subst e
      rw [if_pos hr]
      unfold bit
      rw [List.getElem?_append_right (by rw [packH_len]; exact Nat.le_refl _), packH_len, Nat.sub_self]; rfl
    · rw [bit_append_left (by rw [packH_len]; exact regsN_lt ns (by omega) hr)]
      exact ih (by omega)

/-- what a signal of the packer's is -/
def sigP (gn : Nat) (ns : List Nd) (g held : List Bool) (s : Nat) : Bool := sigL gn g (packH held ns ns.length) (vals g held ns) s
theorem sigP_given {gn : Nat} {ns : List Nd} {g held : List Bool} {s : Nat} (h : s < gn) : sigP gn ns g held s = bit g s := by
  unfold sigP sigL; rw [if_pos h]
theorem sigP_reg {gn : Nat} {ns : List Nd} {g held : List Bool} {j : Nat} (h : j < ns.length) (hr : isReg (ndAt ns j) = true) : sigP gn ns g held (gn + regsN ns j) = bit held j := by
  unfold sigP sigL
  rw [if_neg (by omega), show gn + regsN ns j - gn = regsN ns j by omega, if_pos (by rw [packH_len]; exact regsN_lt ns h hr)]
  exact packH_at held ns h hr
theorem sigP_node {gn : Nat} {ns : List Nd} {g held : List Bool} (j : Nat) : sigP gn ns g held (firstS gn ns + j) = bit (vals g held ns) j := by
  unfold sigP sigL firstS
  rw [if_neg (by omega), packH_len, if_neg (by omega)]
  congr 1
  omega

/-- the ways of a gate, by those of what it reads -/
def GateW (sig : Nat) (D : List Int) (op : Int) (xs ys l : List Lt) : Prop :=
  (∃ x, l = [x] ∧ freeL x = true ∧ ∃ a ∈ xs, ∃ b ∈ ys, Joined2 op a b x) ∨
  (∃ z zs, l = z :: (zs ++ [⟨[(sig : Int)], 2⟩]) ∧ zs.length ≤ 3 ∧ (∀ x ∈ z :: zs, ∃ a ∈ xs, ∃ b ∈ ys, Joined2 op a b x) ∧ freeL z = false ∧ outAt D sig = deepI D z)
/-- the ways of a node -/
def NodeW (gn : Nat) (ns : List Nd) (W : Nat → List Lt) (D : List Int) (j : Nat) (l : List Lt) : Prop :=
  ((ndAt ns j).op = 1 ∧ l = [⟨[], 0⟩]) ∨ ((ndAt ns j).op = 2 ∧ l = [⟨[], 1⟩]) ∨ ((ndAt ns j).op = 3 ∧ l = [⟨[(ndAt ns j).a], 2⟩]) ∨
  ((ndAt ns j).op = 4 ∧ l = [⟨[((gn + regsN ns j : Nat) : Int)], 2⟩]) ∨
  ((ndAt ns j).op = 8 ∧ GateW (firstS gn ns + j) D 8 (W (ndAt ns j).a.toNat) [⟨[], 0⟩] l) ∨
  (((ndAt ns j).op = 5 ∨ (ndAt ns j).op = 6 ∨ (ndAt ns j).op = 7) ∧ GateW (firstS gn ns + j) D (ndAt ns j).op (W (ndAt ns j).a.toNat) (W (ndAt ns j).b.toNat) l)

/-- what every way of a node keeps -/
structure WayP (gn : Nat) (ns : List Nd) (j m : Nat) (l : Lt) : Prop where
  way : Way l
  sig : ∀ x ∈ l.ins, x < ((firstS gn ns + m : Nat) : Int)
  sem : ∀ g held, bitL (sigP gn ns g held) l = bit (vals g held ns) j

theorem bitL_none (look : Nat → Bool) (t : Int) : bitL look ⟨[], t⟩ = (t % 2 == 1) := by simp [bitL, idxTo]
theorem bitL_plain (look : Nat → Bool) (s : Nat) : bitL look ⟨[(s : Int)], 2⟩ = look s := by
  simp only [bitL, idxTo, outAt, List.length_cons, List.length_nil]
  simp
  cases look s <;> rfl
theorem vals_at (g held : List Bool) (ns : List Nd) : ∀ (k j : Nat), j < k → bit (valsTo g held ns k) j = valN g (valsTo g held ns j) (bit held j) (ndAt ns j)
  | 0, j, h => absurd h (Nat.not_lt_zero _)
  | k + 1, j, h => by
    simp only [valsTo]
    by_cases e : j = k
    · subst e
      unfold bit
      rw [List.getElem?_append_right (by rw [valsTo_len]; exact Nat.le_refl _), valsTo_len, Nat.sub_self]; rfl
    · rw [bit_append_left (by rw [valsTo_len]; omega)]
      exact vals_at g held ns k j (by omega)
theorem vals_pre (g held : List Bool) (ns : List Nd) {j n a : Nat} (h : a < j) (hn : j ≤ n) : bit (valsTo g held ns j) a = bit (valsTo g held ns n) a := by
  rw [vals_at g held ns j a h, vals_at g held ns n a (by omega)]
theorem plain_way {s : Nat} : Way ⟨[(s : Int)], 2⟩ := ⟨(by show 1 ≤ 4; decide), (by show (0 : Int) ≤ 2; decide), by show (2 : Int) < ((pow4 1 : Nat) : Int); decide, fun x hx => by simp at hx; omega⟩
theorem known_way {t : Int} (h : t = 0 ∨ t = 1) : Way ⟨[], t⟩ := ⟨(by show 0 ≤ 4; decide), by show 0 ≤ t; omega, by show t < ((pow4 0 : Nat) : Int); rw [show ((pow4 0 : Nat) : Int) = 2 from rfl]; omega, fun x hx => by cases hx⟩
theorem rightN_gate {given : Int} {many i : Nat} {x : Nd} (h : rightN given many i x = true) (ho : x.op = 5 ∨ x.op = 6 ∨ x.op = 7) : (0 ≤ x.a ∧ x.a < i) ∧ (0 ≤ x.b ∧ x.b < i) := by
  unfold rightN at h
  rcases ho with e | e | e <;> simp [e, inR] at h <;> omega
theorem rightN_not {given : Int} {many i : Nat} {x : Nd} (h : rightN given many i x = true) (ho : x.op = 8) : 0 ≤ x.a ∧ x.a < i := by
  unfold rightN at h
  simp [ho, inR] at h; omega
theorem rightN_in {given : Int} {many i : Nat} {x : Nd} (h : rightN given many i x = true) (ho : x.op = 3) : 0 ≤ x.a ∧ x.a < given := by
  unfold rightN at h
  simp [ho, inR] at h; omega
theorem rightN_reg {given : Int} {many i : Nat} {x : Nd} (h : rightN given many i x = true) (ho : x.op = 4) : (0 ≤ x.a ∧ x.a < 2) ∧ (0 ≤ x.next ∧ x.next < many) := by
  unfold rightN at h
  simp [ho, inR] at h; omega

/-- what ways keep that are joined -/
theorem gateW_keeps {gn : Nat} {ns : List Nd} {D : List Int} {j : Nat} {op : Int} {xs ys l : List Lt} (fx fy : List Bool → List Bool → Bool) (h : GateW (firstS gn ns + j) D op xs ys l)
    (hx : ∀ a ∈ xs, (∀ x ∈ a.ins, x < ((firstS gn ns + j : Nat) : Int)) ∧ ∀ g held, bitL (sigP gn ns g held) a = fx g held)
    (hy : ∀ a ∈ ys, (∀ x ∈ a.ins, x < ((firstS gn ns + j : Nat) : Int)) ∧ ∀ g held, bitL (sigP gn ns g held) a = fy g held)
    (hv : ∀ g held, bit (vals g held ns) j = gatedP op (fx g held) (fy g held)) :
    ∃ z zs, l = z :: zs ∧ WayP gn ns j j z ∧ ∀ x ∈ zs, WayP gn ns j (j + 1) x := by
  have key : ∀ x, (∃ a ∈ xs, ∃ b ∈ ys, Joined2 op a b x) → WayP gn ns j j x := fun x ⟨a, ha, b, hb, hj⟩ => by
    refine ⟨hj.way, fun q hq => ?_, fun g held => ?_⟩
    · rcases hj.sub q hq with h | h
      · exact (hx a ha).1 q h
      · exact (hy b hb).1 q h
    · rw [hj.sem, (hx a ha).2, (hy b hb).2, hv]
  have more : ∀ x, WayP gn ns j j x → WayP gn ns j (j + 1) x := fun x hx => ⟨hx.way, fun q hq => by have := hx.sig q hq; omega, hx.sem⟩
  rcases h with ⟨x, rfl, _, hj⟩ | ⟨z, zs, rfl, _, hj, _, _⟩
  · exact ⟨x, [], rfl, key x hj, fun x hx => by cases hx⟩
  · refine ⟨z, _, rfl, key z (hj z (List.mem_cons_self ..)), fun x hx => ?_⟩
    rcases List.mem_append.1 hx with hx | hx
    · exact more x (key x (hj x (List.mem_cons_of_mem _ hx)))
    · rw [List.mem_singleton.1 hx]
      exact ⟨plain_way, fun q hq => by simp at hq; omega, fun g held => by rw [bitL_plain, sigP_node]⟩

/-- EVERY WAY LETS OUT WHAT ITS NODE IS -/
theorem ways_keep {gn : Nat} {ns : List Nd} {W : Nat → List Lt} {D : List Int} (hr : ∀ j, j < ns.length → rightN gn ns.length j (ndAt ns j) = true) : ∀ i, i ≤ ns.length → (∀ j, j < i → NodeW gn ns W D j (W j)) → ∀ j, j < i → ∃ z zs, W j = z :: zs ∧ WayP gn ns j j z ∧ ∀ x ∈ zs, WayP gn ns j (j + 1) x
  | 0, _, _, j, hj => absurd hj (Nat.not_lt_zero _)
  | i + 1, hi, hw, j, hj => by
    have ih := ways_keep hr i (by omega) (fun q hq => hw q (by omega))
    by_cases e : j = i
    · subst e
      have hR := hr j (by omega)
      have hvv : ∀ g held, bit (vals g held ns) j = valN g (valsTo g held ns j) (bit held j) (ndAt ns j) := fun g held => vals_at g held ns ns.length j (by omega)
      have hsub : ∀ q, q < j → ∀ a ∈ W q, (∀ x ∈ a.ins, x < ((firstS gn ns + j : Nat) : Int)) ∧ ∀ g held, bitL (sigP gn ns g held) a = bit (valsTo g held ns j) q := fun q hq a ha => by
        obtain ⟨z, zs, e1, h1, h2⟩ := ih q hq
        rw [e1] at ha
        have hwp : WayP gn ns q (q + 1) a := by
          rcases List.mem_cons.1 ha with rfl | ha
          · exact ⟨h1.way, fun x hx => by have := h1.sig x hx; omega, h1.sem⟩
          · exact h2 a ha
        exact ⟨fun x hx => by have := hwp.sig x hx; omega, fun g held => by rw [hwp.sem]; exact (vals_pre g held ns hq (by omega)).symm⟩
      rcases hw j (by omega) with ⟨ho, hl⟩ | ⟨ho, hl⟩ | ⟨ho, hl⟩ | ⟨ho, hl⟩ | ⟨ho, hg⟩ | ⟨ho, hg⟩
      · exact ⟨_, [], hl, ⟨known_way (.inl rfl), (fun x hx => by cases hx), fun g held => by rw [hvv, bitL_none]; simp [valN, ho]⟩, fun x hx => by cases hx⟩
      · exact ⟨_, [], hl, ⟨known_way (.inr rfl), (fun x hx => by cases hx), fun g held => by rw [hvv, bitL_none]; simp [valN, ho]⟩, fun x hx => by cases hx⟩
      · obtain ⟨h0, h1⟩ := rightN_in hR ho
        obtain ⟨q, hq⟩ := Int.eq_ofNat_of_zero_le h0
        rw [hq] at hl
        refine ⟨_, [], hl, ⟨plain_way, fun x hx => by simp at hx; unfold firstS; omega, fun g held => ?_⟩, fun x hx => by cases hx⟩
        rw [bitL_plain, sigP_given (by omega), hvv]
        simp [valN, ho, hq]
      · have hre : isReg (ndAt ns j) = true := by simp [isReg, ho]
        refine ⟨_, [], hl, ⟨plain_way, fun x hx => ?_, fun g held => ?_⟩, fun x hx => by cases hx⟩
        · have := regsN_lt ns (show j < ns.length by omega) hre
          simp at hx; unfold firstS; omega
        · rw [bitL_plain, sigP_reg (by omega) hre, hvv]
          simp [valN, ho]
      · obtain ⟨h0, h1⟩ := rightN_not hR ho
        refine gateW_keeps (fun g held => bit (valsTo g held ns j) (ndAt ns j).a.toNat) (fun _ _ => false) hg (hsub _ (by omega)) (fun a ha => ?_) (fun g held => ?_)
        · rw [List.mem_singleton.1 ha]
          exact ⟨(fun x hx => by cases hx), fun g held => by rw [bitL_none]; rfl⟩
        · rw [hvv]; simp [valN, ho, gatedP]
      · obtain ⟨⟨h0, h1⟩, h2, h3⟩ := rightN_gate hR ho
        refine gateW_keeps (fun g held => bit (valsTo g held ns j) (ndAt ns j).a.toNat) (fun g held => bit (valsTo g held ns j) (ndAt ns j).b.toNat) hg (hsub _ (by omega)) (hsub _ (by omega)) (fun g held => ?_)
        rw [hvv]
        rcases ho with ho | ho | ho <;> simp [valN, ho, gatedP]
    · exact ih j (by omega)
end Go.Proofs.Ytacgepdmhdcdkaa
set_option linter.unusedSimpArgs false
set_option linter.unusedVariables false
namespace Go.Proofs.Ytacgepdmhdcdkaa

/-- tables that are laid, and whose signals they are -/
structure LSt where
  L : List Lt
  M : List (Nat × Nat)
def findM (M : List (Nat × Nat)) (c : Nat) : Option Nat := (M.find? fun p => p.1 == c).map (·.2)
def wayA (W : Nat → List Lt) (node : Nat) : Lt := (W node)[0]?.getD ⟨[], 0⟩
/-- as what a node is laid: what is known is 0 or 1 -/
def codeM (l : Lt) (node : Nat) : Nat := if l.ins.length = 0 then l.table.toNat else node + 2
/-- a list of signals, one behind the other -/
def foldTo (g : Nat → LSt → Nat × LSt) (ins : List Int) (st : LSt) : Nat → List Int × LSt
  | 0 => ([], st)
  | k + 1 => ((foldTo g ins st k).1 ++ [((g (outAt ins k).toNat (foldTo g ins st k).2).1 : Int)], (g (outAt ins k).toNat (foldTo g ins st k).2).2)
def lookF (W : Nat → List Lt) (first : Nat) : Nat → Nat → LSt → Nat × LSt
  | 0, _, st => (0, st)
  | f + 1, node, st =>
    if sameL (wayA W node) then (if (outAt (wayA W node).ins 0).toNat < first then ((outAt (wayA W node).ins 0).toNat, st) else lookF W first f ((outAt (wayA W node).ins 0).toNat - first) st)
    else match findM st.M (codeM (wayA W node) node) with
      | some s => (s, st)
      | none =>
        (first + (foldTo (fun s st => if s < first then (s, st) else lookF W first f (s - first) st) (wayA W node).ins st (wayA W node).ins.length).2.L.length,
         ⟨(foldTo (fun s st => if s < first then (s, st) else lookF W first f (s - first) st) (wayA W node).ins st (wayA W node).ins.length).2.L ++ [⟨(foldTo (fun s st => if s < first then (s, st) else lookF W first f (s - first) st) (wayA W node).ins st (wayA W node).ins.length).1, (wayA W node).table⟩],
          (foldTo (fun s st => if s < first then (s, st) else lookF W first f (s - first) st) (wayA W node).ins st (wayA W node).ins.length).2.M ++ [(codeM (wayA W node) node, first + (foldTo (fun s st => if s < first then (s, st) else lookF W first f (s - first) st) (wayA W node).ins st (wayA W node).ins.length).2.L.length)]⟩)
def aheadF (W : Nat → List Lt) (first f : Nat) (s : Nat) (st : LSt) : Nat × LSt := if s < first then (s, st) else lookF W first f (s - first) st
theorem lookF_succ (W : Nat → List Lt) (first f node : Nat) (st : LSt) : lookF W first (f + 1) node st =
    if sameL (wayA W node) then aheadF W first f (outAt (wayA W node).ins 0).toNat st
    else match findM st.M (codeM (wayA W node) node) with
      | some s => (s, st)
      | none =>
        (first + (foldTo (aheadF W first f) (wayA W node).ins st (wayA W node).ins.length).2.L.length,
         ⟨(foldTo (aheadF W first f) (wayA W node).ins st (wayA W node).ins.length).2.L ++ [⟨(foldTo (aheadF W first f) (wayA W node).ins st (wayA W node).ins.length).1, (wayA W node).table⟩],
          (foldTo (aheadF W first f) (wayA W node).ins st (wayA W node).ins.length).2.M ++ [(codeM (wayA W node) node, first + (foldTo (aheadF W first f) (wayA W node).ins st (wayA W node).ins.length).2.L.length)]⟩) := rfl

/-! tables behind tables turn nothing -/
theorem ltAt_app {L X : List Lt} {i : Nat} (h : i < L.length) : ltAt (L ++ X) i = ltAt L i := by
  unfold ltAt; rw [List.getElem?_append_left h]
theorem tabsTo_app (gn : Nat) (g h : List Bool) (L X : List Lt) : ∀ k, k ≤ L.length → tabsTo gn g h (L ++ X) k = tabsTo gn g h L k
  | 0, _ => rfl
  | k + 1, hk => by simp only [tabsTo]; rw [tabsTo_app gn g h L X k (by omega), ltAt_app (by omega)]
theorem tabs_pre (gn : Nat) (g h : List Bool) (L : List Lt) : ∀ (n k i : Nat), i < k → k ≤ n → bit (tabsTo gn g h L n) i = bit (tabsTo gn g h L k) i
  | 0, k, i, h1, h2 => by omega
  | n + 1, k, i, h1, h2 => by
    by_cases e : k = n + 1
    · subst e; rfl
    · simp only [tabsTo]
      rw [bit_append_left (by rw [tabsTo_len]; omega)]
      exact tabs_pre gn g h L n k i h1 (by omega)
theorem sigL_pre (gn : Nat) (g h : List Bool) (L : List Lt) {n k s : Nat} (hs : s < gn + h.length + k) (hk : k ≤ n) : sigL gn g h (tabsTo gn g h L n) s = sigL gn g h (tabsTo gn g h L k) s := by
  unfold sigL
  split
  · rfl
  · split
    · rfl
    · exact tabs_pre gn g h L n k _ (by omega) hk
theorem lookL_app (gn : Nat) (g h : List Bool) (L X : List Lt) {s : Nat} (hs : s < gn + h.length + L.length) : lookL gn g h (L ++ X) s = lookL gn g h L s := by
  unfold lookL
  rw [sigL_pre gn g h (L ++ X) (n := (L ++ X).length) (k := L.length) hs (by simp), tabsTo_app gn g h L X L.length (Nat.le_refl _)]
theorem lookL_last (gn : Nat) (g h : List Bool) (L : List Lt) (l : Lt) : lookL gn g h (L ++ [l]) (gn + h.length + L.length) = bitL (lookL gn g h L) l := by
  unfold lookL
  rw [List.length_append]
  show sigL gn g h (tabsTo gn g h (L ++ [l]) (L.length + 1)) _ = _
  simp only [tabsTo]
  rw [tabsTo_app gn g h L [l] L.length (Nat.le_refl _)]
  have e : ltAt (L ++ [l]) L.length = l := by unfold ltAt; rw [List.getElem?_append_right (Nat.le_refl _), Nat.sub_self]; rfl
  rw [e]
  have hs : sigL gn g h (tabsTo gn g h L L.length ++ [bitL (sigL gn g h (tabsTo gn g h L L.length)) l]) (gn + h.length + L.length) = bitL (sigL gn g h (tabsTo gn g h L L.length)) l := by
    unfold sigL
    rw [if_neg (by omega), if_neg (by omega)]
    unfold bit
    rw [List.getElem?_append_right (by rw [tabsTo_len]; omega), tabsTo_len]
    have : gn + h.length + L.length - gn - h.length - L.length = 0 := by omega
    rw [this]; rfl
  exact hs

/-- what is laid keeps -/
structure LayOk (gn : Nat) (ns : List Nd) (st : LSt) : Prop where
  tab : ∀ i, i < st.L.length → RightL (firstS gn ns + i) (ltAt st.L i)
  low : ∀ c s, findM st.M c = some s → s < firstS gn ns + st.L.length
  known : ∀ c s, c < 2 → findM st.M c = some s → ∀ g held, lookL gn g (packH held ns ns.length) st.L s = (c == 1)
  node : ∀ q s, findM st.M (q + 2) = some s → q < ns.length ∧ isGate (ndAt ns q) = true ∧ ∀ g held, lookL gn g (packH held ns ns.length) st.L s = bit (vals g held ns) q
  len : st.M.length = st.L.length
  nodup : (st.M.map (·.1)).Nodup
  code : ∀ p ∈ st.M, p.1 < 2 ∨ (p.1 - 2 < ns.length ∧ isGate (ndAt ns (p.1 - 2)) = true)
theorem packH_all (gn : Nat) (held : List Bool) (ns : List Nd) : gn + (packH held ns ns.length).length = firstS gn ns := by rw [packH_len]; rfl
theorem findM_none {M : List (Nat × Nat)} {c : Nat} (h : findM M c = none) : c ∉ M.map (·.1) := by
  intro hm
  obtain ⟨p, hp, rfl⟩ := List.mem_map.1 hm
  unfold findM at h
  rw [Option.map_eq_none_iff, List.find?_eq_none] at h
  exact h p hp (by simp)
theorem findM_app (M : List (Nat × Nat)) (c d s : Nat) (hc : findM M c = none) : findM (M ++ [(c, s)]) d = if d = c then some s else findM M d := by
  unfold findM at *
  rw [List.find?_append]
  by_cases e : d = c
  · subst e
    rw [if_pos rfl]
    rw [Option.map_eq_none_iff] at hc
    rw [hc]; simp
  · rw [if_neg e]
    have : [(c, s)].find? (fun p => p.1 == d) = none := by simp; omega
    rw [this]; simp
/-- what look answers, and leaves -/
structure LookOk (gn : Nat) (ns : List Nd) (m : Nat) (st : LSt) (v : List Bool → List Bool → Bool) (r : Nat × LSt) : Prop where
  keep : ∀ c, m < c → findM r.2.M c = findM st.M c
  ok : LayOk gn ns r.2
  ext : ∃ X, r.2.L = st.L ++ X
  lt : r.1 < firstS gn ns + r.2.L.length
  val : ∀ g held, lookL gn g (packH held ns ns.length) r.2.L r.1 = v g held
theorem LayOk.old {gn : Nat} {ns : List Nd} {st : LSt} (h : LayOk gn ns st) (X : List Lt) (s : Nat) (hs : s < firstS gn ns + st.L.length) (g held : List Bool) : lookL gn g (packH held ns ns.length) (st.L ++ X) s = lookL gn g (packH held ns ns.length) st.L s :=
  lookL_app gn g _ st.L X (by rw [packH_all]; exact hs)
theorem lookL_low {gn : Nat} {ns : List Nd} (L : List Lt) (g held : List Bool) {s : Nat} (h : s < firstS gn ns) : lookL gn g (packH held ns ns.length) L s = sigP gn ns g held s := by
  unfold lookL sigP sigL
  split
  · rfl
  · rw [if_pos (by rw [packH_len]; unfold firstS at h; omega), if_pos (by rw [packH_len]; unfold firstS at h; omega)]

theorem idx_two {f g : Nat → Bool} {a b : List Int} : ∀ k, (∀ i, i < k → f (outAt a i).toNat = g (outAt b i).toNat) → idxTo f a k = idxTo g b k
  | 0, _ => rfl
  | k + 1, h => by simp only [idxTo]; rw [idx_two k fun i hi => h i (by omega), h k (by omega)]
theorem bitL_two {f g : Nat → Bool} {l m : Lt} (hl : l.ins.length = m.ins.length) (ht : l.table = m.table) (h : ∀ i, i < l.ins.length → f (outAt l.ins i).toNat = g (outAt m.ins i).toNat) : bitL f l = bitL g m := by
  simp only [bitL]; rw [← hl, ht, idx_two _ h]
/-- what has a table of its own is a gate -/
theorem gate_of {gn : Nat} {ns : List Nd} {W : Nat → List Lt} {D : List Int} {j : Nat} {l zs : List Lt} {z : Lt} (h : NodeW gn ns W D j l) (hl : l = z :: zs) (h0 : ¬ z.ins.length = 0) (hs : ¬ sameL z = true) : isGate (ndAt ns j) = true := by
  subst hl
  rcases h with ⟨ho, h⟩ | ⟨ho, h⟩ | ⟨ho, h⟩ | ⟨ho, h⟩ | ⟨ho, h⟩ | ⟨ho, h⟩
  · exfalso; simp at h; exact h0 (by rw [h.1]; rfl)
  · exfalso; simp at h; exact h0 (by rw [h.1]; rfl)
  · exfalso; simp at h; exact hs (by rw [h.1]; simp [sameL])
  · exfalso; simp at h; exact hs (by rw [h.1]; simp [sameL])
  · simp [isGate, ho]
  · rcases ho with ho | ho | ho <;> simp [isGate, ho]

/-- EVERY NODE THAT IS LOOKED AT IS LAID, AND LETS OUT WHAT IT IS -/
theorem look_ok {gn : Nat} {ns : List Nd} {W : Nat → List Lt} {D : List Int} (hr : ∀ j, j < ns.length → rightN gn ns.length j (ndAt ns j) = true) (hw : ∀ j, j < ns.length → NodeW gn ns W D j (W j)) :
    ∀ f node st, node < f → node < ns.length → LayOk gn ns st → LookOk gn ns (node + 2) st (fun g held => bit (vals g held ns) node) (lookF W (firstS gn ns) f node st)
  | 0, node, st, h, _, _ => absurd h (Nat.not_lt_zero _)
  | f + 1, node, st, hf, hn, hst => by
    have ih := look_ok hr hw f
    obtain ⟨z, zs, hz, hwz, _⟩ := ways_keep hr ns.length (Nat.le_refl _) (fun j hj => hw j hj) node hn
    have hwa : wayA W node = z := by unfold wayA; rw [hz]; rfl
    have hah : ∀ x st, 0 ≤ x → x < ((firstS gn ns + node : Nat) : Int) → LayOk gn ns st → LookOk gn ns (node + 1) st (fun g held => sigP gn ns g held x.toNat) (aheadF W (firstS gn ns) f x.toNat st) := fun x st h0 h1 hst => by
      unfold aheadF
      by_cases hl : x.toNat < firstS gn ns
      · rw [if_pos hl]
        exact ⟨fun _ _ => rfl, hst, ⟨[], by simp⟩, by omega, fun g held => lookL_low _ g held hl⟩
      · rw [if_neg hl]
        have hq := ih (x.toNat - firstS gn ns) st (by omega) (by omega) hst
        refine ⟨fun c hc => hq.keep c (by omega), hq.ok, hq.ext, hq.lt, fun g held => ?_⟩
        rw [hq.val]
        have := sigP_node (gn := gn) (ns := ns) (g := g) (held := held) (x.toNat - firstS gn ns)
        rw [← this]
        congr 1
        omega
    rw [lookF_succ, hwa]
    by_cases hsm : sameL z = true
    · rw [if_pos hsm]
      obtain ⟨h1, h2⟩ : z.ins.length = 1 ∧ z.table = 2 := by
        unfold sameL at hsm
        simp at hsm
        exact hsm
      obtain ⟨x, hx⟩ : ∃ x, z.ins = [x] := List.length_eq_one_iff.1 h1
      have hx0 := hwz.way.pos x (by rw [hx]; simp)
      have hx1 := hwz.sig x (by rw [hx]; simp)
      have ho : outAt z.ins 0 = x := by rw [hx]; rfl
      rw [ho]
      have h := hah x st hx0 hx1 hst
      refine ⟨fun c hc => h.keep c (by omega), h.ok, h.ext, h.lt, fun g held => ?_⟩
      rw [h.val, ← hwz.sem g held]
      obtain ⟨q, rfl⟩ := Int.eq_ofNat_of_zero_le hx0
      have : z = ⟨[(q : Int)], 2⟩ := by cases z; simp_all
      rw [this, bitL_plain, Int.toNat_natCast]
    · rw [if_neg hsm]
      cases hfm : findM st.M (codeM z node) with
      | some s =>
        show LookOk gn ns _ st _ (s, st)
        refine ⟨fun _ _ => rfl, hst, ⟨[], by simp⟩, hst.low _ _ hfm, fun g held => ?_⟩
        by_cases h0 : z.ins.length = 0
        · have hc : codeM z node = z.table.toNat := if_pos h0
          rw [hc] at hfm
          have ht := hwz.way.t1
          rw [h0] at ht
          have ht2 : z.table < 2 := ht
          have ht0 := hwz.way.t0
          rw [hst.known _ _ (by omega) hfm, ← hwz.sem g held]
          obtain ⟨ins, t⟩ := z
          obtain rfl : ins = [] := List.eq_nil_of_length_eq_zero h0
          rw [bitL_none]
          have : t = 0 ∨ t = 1 := by
            simp only at ht2 ht0; omega
          rcases this with rfl | rfl <;> rfl
        · have hc : codeM z node = node + 2 := if_neg h0
          rw [hc] at hfm
          exact (hst.node _ _ hfm).2.2 g held
      | none =>
        have hfold : ∀ k, k ≤ z.ins.length → ((∀ c, node + 1 < c → findM (foldTo (aheadF W (firstS gn ns) f) z.ins st k).2.M c = findM st.M c) ∧ LayOk gn ns (foldTo (aheadF W (firstS gn ns) f) z.ins st k).2 ∧ (∃ X, (foldTo (aheadF W (firstS gn ns) f) z.ins st k).2.L = st.L ++ X) ∧ (foldTo (aheadF W (firstS gn ns) f) z.ins st k).1.length = k ∧ ∀ i, i < k → ∃ q : Nat, outAt (foldTo (aheadF W (firstS gn ns) f) z.ins st k).1 i = (q : Int) ∧ q < firstS gn ns + (foldTo (aheadF W (firstS gn ns) f) z.ins st k).2.L.length ∧ ∀ g held, lookL gn g (packH held ns ns.length) (foldTo (aheadF W (firstS gn ns) f) z.ins st k).2.L q = sigP gn ns g held (outAt z.ins i).toNat) := by
          intro k
          induction k with
          | zero => intro _; exact ⟨fun _ _ => rfl, hst, ⟨[], by simp [foldTo]⟩, rfl, fun i hi => absurd hi (Nat.not_lt_zero _)⟩
          | succ k ihk =>
            intro hk
            obtain ⟨h0, h1, ⟨X, h2⟩, h3, h4⟩ := ihk (by omega)
            have hm : outAt z.ins k ∈ z.ins := by
              have : outAt z.ins k = z.ins[k] := by simp [outAt, show k < z.ins.length by omega]
              rw [this]; exact List.getElem_mem _
            have ha := hah (outAt z.ins k) (foldTo (aheadF W (firstS gn ns) f) z.ins st k).2 (hwz.way.pos _ hm) (hwz.sig _ hm) h1
            obtain ⟨Y, hY⟩ := ha.ext
            simp only [foldTo]
            refine ⟨fun c hc => (ha.keep c hc).trans (h0 c hc), ha.ok, ⟨X ++ Y, by rw [hY, h2, List.append_assoc]⟩, by simp [h3], fun i hi => ?_⟩
            by_cases e : i = k
            · subst e
              refine ⟨_, ?_, ha.lt, ha.val⟩
              unfold outAt
              rw [List.getElem?_append_right (by omega), h3, Nat.sub_self]; rfl
            · obtain ⟨q, hq1, hq2, hq3⟩ := h4 i (by omega)
              refine ⟨q, ?_, by rw [hY, List.length_append]; omega, fun g held => ?_⟩
              · rw [← hq1]; unfold outAt; rw [List.getElem?_append_left (by omega)]
              · rw [hY, h1.old Y q hq2, hq3]
        obtain ⟨hkp, h1, ⟨X, h2⟩, h3, h4⟩ := hfold z.ins.length (Nat.le_refl _)
        have hz0 : z.ins.length = 0 → (foldTo (aheadF W (firstS gn ns) f) z.ins st z.ins.length).2 = st := fun e => by rw [e]; rfl
        show LookOk gn ns _ st _ (_, _)
        generalize foldTo (aheadF W (firstS gn ns) f) z.ins st z.ins.length = F at *
        obtain ⟨ins', st'⟩ := F
        simp only at hkp h1 h2 h3 h4 hz0
        have hcn : findM st'.M (codeM z node) = none := by
          by_cases h0 : z.ins.length = 0
          · rw [hz0 h0]; exact hfm
          · have hc : codeM z node = node + 2 := if_neg h0
            rw [hc] at hfm ⊢
            rw [hkp _ (by omega)]; exact hfm
        have hval : ∀ g held, lookL gn g (packH held ns ns.length) (st'.L ++ [⟨ins', z.table⟩]) (firstS gn ns + st'.L.length) = bit (vals g held ns) node := fun g held => by
          have h := lookL_last gn g (packH held ns ns.length) st'.L ⟨ins', z.table⟩
          rw [packH_all] at h
          rw [h, ← hwz.sem g held]
          exact bitL_two (l := ⟨ins', z.table⟩) (m := z) h3 rfl fun i hi => by
            obtain ⟨q, hq1, _, hq3⟩ := h4 i (by rw [← h3]; exact hi)
            show lookL gn g _ st'.L (outAt ins' i).toNat = _
            rw [hq1, Int.toNat_natCast, hq3]
        have hold : ∀ s, s < firstS gn ns + st'.L.length → ∀ g held, lookL gn g (packH held ns ns.length) (st'.L ++ [⟨ins', z.table⟩]) s = lookL gn g (packH held ns ns.length) st'.L s := fun s hs g held => h1.old _ s hs g held
        refine ⟨fun c hc => ?_, ⟨fun i hi => ?_, fun c s hc => ?_, fun c s hc2 hc => ?_, fun q s hc => ?_, ?_, ?_, fun p hp => ?_⟩, ⟨X ++ [⟨ins', z.table⟩], by show st'.L ++ _ = _; rw [h2, List.append_assoc]⟩, by show firstS gn ns + st'.L.length < firstS gn ns + (st'.L ++ [_]).length; simp, hval⟩
        · show findM (st'.M ++ [(codeM z node, _)]) c = _
          rw [findM_app _ _ _ _ hcn]
          have hle : codeM z node ≤ node + 2 := by
            unfold codeM
            split
            · rename_i h0
              have ht := hwz.way.t1
              rw [h0] at ht
              have ht2 : z.table < 2 := ht
              omega
            · exact Nat.le_refl _
          rw [if_neg (by omega)]
          exact hkp c (by omega)
        · have hi' : i < st'.L.length + 1 := by simpa using hi
          show RightL _ (ltAt (st'.L ++ [_]) i)
          by_cases e : i < st'.L.length
          · rw [ltAt_app e]; exact h1.tab i e
          · obtain rfl : i = st'.L.length := by omega
            have e2 : ltAt (st'.L ++ [⟨ins', z.table⟩]) st'.L.length = ⟨ins', z.table⟩ := by unfold ltAt; rw [List.getElem?_append_right (Nat.le_refl _), Nat.sub_self]; rfl
            rw [e2]
            exact ⟨by show ins'.length ≤ 4; rw [h3]; exact hwz.way.n4, hwz.way.t0, by show z.table < ((pow4 ins'.length : Nat) : Int); rw [h3]; exact hwz.way.t1, fun i hi => by
              obtain ⟨q, hq1, hq2, _⟩ := h4 i (by rw [← h3]; exact hi)
              show inR (outAt ins' i) _ = true
              rw [hq1, inR_iff]; omega⟩
        · have hc' : findM (st'.M ++ [(codeM z node, firstS gn ns + st'.L.length)]) c = some s := hc
          rw [findM_app _ _ _ _ hcn] at hc'
          show s < firstS gn ns + (st'.L ++ [_]).length
          rw [List.length_append]
          split at hc'
          · cases hc'; simp
          · have := h1.low _ _ hc'; simp; omega
        · intro g held
          have hc' : findM (st'.M ++ [(codeM z node, firstS gn ns + st'.L.length)]) c = some s := hc
          rw [findM_app _ _ _ _ hcn] at hc'
          show lookL gn g _ (st'.L ++ [_]) s = _
          split at hc'
          · rename_i e
            cases hc'
            rw [hval]
            by_cases h0 : z.ins.length = 0
            · have hc : codeM z node = z.table.toNat := if_pos h0
              have ht := hwz.way.t1
              rw [h0] at ht
              have ht2 : z.table < 2 := ht
              have ht0 := hwz.way.t0
              rw [e, hc, ← hwz.sem g held]
              obtain ⟨ins, t⟩ := z
              obtain rfl : ins = [] := List.eq_nil_of_length_eq_zero h0
              rw [bitL_none]
              have : t = 0 ∨ t = 1 := by
                simp only at ht2 ht0; omega
              rcases this with rfl | rfl <;> rfl
            · have hc : codeM z node = node + 2 := if_neg h0
              omega
          · rw [hold s (h1.low _ _ hc'), h1.known c s hc2 hc']
        · have hc' : findM (st'.M ++ [(codeM z node, firstS gn ns + st'.L.length)]) (q + 2) = some s := hc
          rw [findM_app _ _ _ _ hcn] at hc'
          split at hc'
          · rename_i e
            cases hc'
            by_cases h0 : z.ins.length = 0
            · have hc : codeM z node = z.table.toNat := if_pos h0
              have ht := hwz.way.t1
              rw [h0] at ht
              have ht2 : z.table < 2 := ht
              omega
            · have hc : codeM z node = node + 2 := if_neg h0
              obtain rfl : q = node := by omega
              exact ⟨hn, gate_of (hw q hn) hz h0 hsm, hval⟩
          · obtain ⟨a, b, c⟩ := h1.node q s hc'
            exact ⟨a, b, fun g held => by show lookL gn g _ (st'.L ++ [_]) s = _; rw [hold s (h1.low _ _ hc'), c]⟩
        · show (st'.M ++ [_]).length = (st'.L ++ [_]).length
          simp [h1.len]
        · show ((st'.M ++ [(codeM z node, firstS gn ns + st'.L.length)]).map (·.1)).Nodup
          rw [List.map_append, List.nodup_append]
          refine ⟨h1.nodup, by simp, fun a ha b hb => ?_⟩
          simp at hb
          subst hb
          intro e
          exact findM_none hcn (e ▸ ha)
        · have hp' : p ∈ st'.M ++ [(codeM z node, firstS gn ns + st'.L.length)] := hp
          rcases List.mem_append.1 hp' with hp' | hp'
          · exact h1.code p hp'
          · rw [List.mem_singleton.1 hp']
            by_cases h0 : z.ins.length = 0
            · have hc : codeM z node = z.table.toNat := if_pos h0
              have ht := hwz.way.t1
              rw [h0] at ht
              have ht2 : z.table < 2 := ht
              left; show codeM z node < 2; omega
            · have hc : codeM z node = node + 2 := if_neg h0
              right
              show codeM z node - 2 < ns.length ∧ isGate (ndAt ns (codeM z node - 2)) = true
              rw [hc]
              exact ⟨by omega, gate_of (hw node hn) hz h0 hsm⟩
end Go.Proofs.Ytacgepdmhdcdkaa
set_option linter.unusedSimpArgs false
set_option linter.unusedVariables false
namespace Go.Proofs.Ytacgepdmhdcdkaa

theorem nodup_count (p : Nat → Bool) (cnt : Nat → Nat) (hs : ∀ k, cnt (k + 1) = cnt k + (if p k then 1 else 0)) : ∀ (n : Nat) (l : List Nat), l.Nodup → (∀ x ∈ l, x < n ∧ p x = true) → l.length ≤ cnt n
  | 0, l, _, h => by
    cases l with
    | nil => exact Nat.zero_le _
    | cons x l => exact absurd (h x (List.mem_cons_self ..)).1 (Nat.not_lt_zero _)
  | n + 1, l, hd, h => by
    rw [hs]
    by_cases hm : n ∈ l
    · have ih := nodup_count p cnt hs n (l.erase n) (hd.erase n) (fun x hx => by
        have h1 := h x (List.mem_of_mem_erase hx)
        have h2 : x ≠ n := fun e => by subst e; exact (List.Nodup.not_mem_erase hd) hx
        exact ⟨by omega, h1.2⟩)
      rw [List.length_erase_of_mem hm] at ih
      rw [if_pos (h n hm).2]
      have := List.length_pos_of_mem hm
      omega
    · have ih := nodup_count p cnt hs n l hd (fun x hx => by
        have h1 := h x hx
        have h2 : x ≠ n := fun e => by subst e; exact hm hx
        exact ⟨by omega, h1.2⟩)
      omega
def pC (ns : List Nd) (x : Nat) : Bool := decide (x < 2) || isGate (ndAt ns (x - 2))
def cntC (ns : List Nd) : Nat → Nat
  | 0 => 0
  | k + 1 => cntC ns k + (if pC ns k then 1 else 0)
theorem cntC_gates (ns : List Nd) (k : Nat) : cntC ns (k + 2) = gatesTo ns k + 2 := by
  induction k with
  | zero => rfl
  | succ k ih =>
    have e : pC ns (k + 2) = isGate (ndAt ns k) := by simp [pC]; intro h; omega
    have h : cntC ns (k + 1 + 2) = cntC ns (k + 2) + (if pC ns (k + 2) then 1 else 0) := rfl
    rw [h, ih, e]
    simp only [gatesTo]
    omega
theorem LayOk.few {gn : Nat} {ns : List Nd} {st : LSt} (h : LayOk gn ns st) : st.L.length ≤ gatesTo ns ns.length + 2 := by
  have := nodup_count (pC ns) (cntC ns) (fun _ => rfl) (ns.length + 2) (st.M.map (·.1)) h.nodup (fun x hx => by
    obtain ⟨p, hp, rfl⟩ := List.mem_map.1 hx
    rcases h.code p hp with hc | ⟨h1, h2⟩
    · exact ⟨by omega, by simp [pC, hc]⟩
    · exact ⟨by omega, by simp [pC, h2]⟩)
  rw [cntC_gates, List.length_map, h.len] at this
  exact this
theorem layOk_none (gn : Nat) (ns : List Nd) : LayOk gn ns ⟨[], []⟩ :=
  ⟨fun i hi => absurd hi (Nat.not_lt_zero _), fun c s h => (by cases h), fun c s _ h => (by cases h), fun q s h => (by cases h), rfl, List.nodup_nil, fun p hp => (by cases hp)⟩

/-- registers of tables, one behind the other -/
def layTo (W : Nat → List Lt) (first : Nat) (ns : List Nd) : Nat → List Rg × LSt
  | 0 => ([], ⟨[], []⟩)
  | k + 1 => if isReg (ndAt ns k) then ((layTo W first ns k).1 ++ [⟨(ndAt ns k).a == 1, ((lookF W first ns.length (ndAt ns k).next.toNat (layTo W first ns k).2).1 : Nat)⟩], (lookF W first ns.length (ndAt ns k).next.toNat (layTo W first ns k).2).2) else layTo W first ns k
def layRs (W : Nat → List Lt) (first : Nat) (ns : List Nd) : List Rg := (layTo W first ns ns.length).1
def layOs (W : Nat → List Lt) (first : Nat) (ns : List Nd) (os : List Int) : List Int := (foldTo (lookF W first ns.length) os (layTo W first ns ns.length).2 os.length).1
def layLs (W : Nat → List Lt) (first : Nat) (ns : List Nd) (os : List Int) : List Lt := (foldTo (lookF W first ns.length) os (layTo W first ns ns.length).2 os.length).2.L

theorem rgAt_left {l m : List Rg} {i : Nat} (h : i < l.length) : rgAt (l ++ m) i = rgAt l i := by unfold rgAt; rw [List.getElem?_append_left h]
theorem rgAt_last {l : List Rg} {x : Rg} {i : Nat} (h : i = l.length) : rgAt (l ++ [x]) i = x := by subst h; unfold rgAt; rw [List.getElem?_append_right (Nat.le_refl _), Nat.sub_self]; rfl
/-- the number of a register's node -/
structure RegsOk (gn : Nat) (ns : List Nd) (k : Nat) (rs : List Rg) (st : LSt) : Prop where
  ok : LayOk gn ns st
  len : rs.length = regsN ns k
  at' : ∀ j, j < k → isReg (ndAt ns j) = true → (rgAt rs (regsN ns j)).init = ((ndAt ns j).a == 1) ∧ ∃ q : Nat, (rgAt rs (regsN ns j)).next = (q : Int) ∧ q < firstS gn ns + st.L.length ∧ ∀ g held, lookL gn g (packH held ns ns.length) st.L q = bit (vals g held ns) (ndAt ns j).next.toNat
theorem lay_regs {gn : Nat} {ns : List Nd} {W : Nat → List Lt} {D : List Int} (hr : ∀ j, j < ns.length → rightN gn ns.length j (ndAt ns j) = true) (hw : ∀ j, j < ns.length → NodeW gn ns W D j (W j)) : ∀ k, k ≤ ns.length → RegsOk gn ns k (layTo W (firstS gn ns) ns k).1 (layTo W (firstS gn ns) ns k).2
  | 0, _ => ⟨layOk_none gn ns, rfl, fun j hj => absurd hj (Nat.not_lt_zero _)⟩
  | k + 1, hk => by
    have ih := lay_regs hr hw k (by omega)
    simp only [layTo]
    by_cases hre : isReg (ndAt ns k) = true
    · rw [if_pos hre]
      have ho : (ndAt ns k).op = 4 := by simpa [isReg] using hre
      obtain ⟨_, h0, h1⟩ := rightN_reg (hr k (by omega)) ho
      have hl := look_ok hr hw ns.length (ndAt ns k).next.toNat (layTo W (firstS gn ns) ns k).2 (by omega) (by omega) ih.ok
      obtain ⟨X, hX⟩ := hl.ext
      refine ⟨hl.ok, by simp [ih.len, regsN, hre], fun j hj hrj => ?_⟩
      by_cases e : j = k
      · subst e
        show (rgAt (_ ++ [_]) _).init = _ ∧ _
        rw [rgAt_last ih.len.symm]
        exact ⟨rfl, _, rfl, hl.lt, hl.val⟩
      · have hlt : regsN ns j < (layTo W (firstS gn ns) ns k).1.length := by rw [ih.len]; exact regsN_lt ns (by omega) hrj
        show (rgAt (_ ++ [_]) _).init = _ ∧ _
        rw [rgAt_left hlt]
        obtain ⟨a, q, h1, h2, h3⟩ := ih.at' j (by omega) hrj
        exact ⟨a, q, h1, by show q < firstS gn ns + (lookF W (firstS gn ns) ns.length (ndAt ns k).next.toNat (layTo W (firstS gn ns) ns k).2).2.L.length; rw [hX, List.length_append]; omega, fun g held => by
          show lookL gn g _ (lookF W (firstS gn ns) ns.length (ndAt ns k).next.toNat (layTo W (firstS gn ns) ns k).2).2.L q = _
          rw [hX, ih.ok.old X q h2, h3]⟩
    · rw [if_neg hre]
      exact ⟨ih.ok, by simp [ih.len, regsN, hre], fun j hj hrj => ih.at' j (by
        rcases Nat.lt_or_ge j k with h | h
        · exact h
        · have : j = k := by omega
          subst this; exact absurd hrj hre) hrj⟩
/-- which node the i-th register is -/
theorem reg_of (ns : List Nd) : ∀ (k i : Nat), i < regsN ns k → ∃ j, j < k ∧ isReg (ndAt ns j) = true ∧ regsN ns j = i
  | 0, i, h => absurd h (Nat.not_lt_zero _)
  | k + 1, i, h => by
    simp only [regsN] at h
    by_cases hi : i < regsN ns k
    · obtain ⟨j, h1, h2, h3⟩ := reg_of ns k i hi
      exact ⟨j, by omega, h2, h3⟩
    · by_cases hre : isReg (ndAt ns k) = true
      · rw [if_pos hre] at h
        exact ⟨k, by omega, hre, by omega⟩
      · rw [if_neg hre] at h; omega

/-- what the net keeps that is laid -/
structure PackOk (gn : Nat) (ns : List Nd) (os : List Int) (rs : List Rg) (ls : List Lt) (os' : List Int) : Prop where
  right : ns.length ≤ 19998 → gn ≤ 20000 → os.length ≤ 20000 → RightT gn rs ls os'
  regs : rs.length = regsN ns ns.length
  outn : os'.length = os.length
  few : ls.length ≤ gatesTo ns ns.length + 2
  init : initL rs = packH (first ns) ns ns.length
  outs : ∀ g held, outsL (lookL gn g (packH held ns ns.length) ls) os' = outs (vals g held ns) os
  next : ∀ g held, held.length = ns.length → nextL (lookL gn g (packH held ns ns.length) ls) rs = packH (heldNext (vals g held ns) held ns) ns ns.length
theorem bit_first (ns : List Nd) {j : Nat} (h : j < ns.length) : bit (first ns) j = firstOf (ndAt ns j) := by
  unfold first firstTo bit
  rw [getElem?_mapRange _ _ _ h]; simp [h]
theorem bit_next (v held : List Bool) (ns : List Nd) {j : Nat} (h : j < held.length) (hj : j < ns.length) : bit (heldNext v held ns) j = nextOf v (ndAt ns j) (bit held j) := by
  unfold heldNext heldTo bit
  rw [getElem?_mapRange _ _ _ h]; simp [hj, bit]
theorem row_ext {a b : List Bool} (hl : a.length = b.length) (h : ∀ i, i < a.length → bit a i = bit b i) : a = b := by
  apply List.ext_getElem hl
  intro i h1 h2
  have := h i h1
  simpa [bit, h1, h2] using this
theorem pack_ok {gn : Nat} {ns : List Nd} {os : List Int} {W : Nat → List Lt} {D : List Int} (hr : ∀ j, j < ns.length → rightN gn ns.length j (ndAt ns j) = true) (ho : ∀ i, i < os.length → inR (outAt os i) ns.length = true) (hw : ∀ j, j < ns.length → NodeW gn ns W D j (W j)) : PackOk gn ns os (layRs W (firstS gn ns) ns) (layLs W (firstS gn ns) ns os) (layOs W (firstS gn ns) ns os) := by
  have hR := lay_regs hr hw ns.length (Nat.le_refl _)
  have hfold : ∀ k, k ≤ os.length → (LayOk gn ns (foldTo (lookF W (firstS gn ns) ns.length) os (layTo W (firstS gn ns) ns ns.length).2 k).2 ∧ (∃ X, (foldTo (lookF W (firstS gn ns) ns.length) os (layTo W (firstS gn ns) ns ns.length).2 k).2.L = (layTo W (firstS gn ns) ns ns.length).2.L ++ X) ∧ (foldTo (lookF W (firstS gn ns) ns.length) os (layTo W (firstS gn ns) ns ns.length).2 k).1.length = k ∧ ∀ i, i < k → ∃ q : Nat, outAt (foldTo (lookF W (firstS gn ns) ns.length) os (layTo W (firstS gn ns) ns ns.length).2 k).1 i = (q : Int) ∧ q < firstS gn ns + (foldTo (lookF W (firstS gn ns) ns.length) os (layTo W (firstS gn ns) ns ns.length).2 k).2.L.length ∧ ∀ g held, lookL gn g (packH held ns ns.length) (foldTo (lookF W (firstS gn ns) ns.length) os (layTo W (firstS gn ns) ns ns.length).2 k).2.L q = bit (vals g held ns) (outAt os i).toNat) := by
    intro k
    induction k with
    | zero => intro _; exact ⟨hR.ok, ⟨[], by simp [foldTo]⟩, rfl, fun i hi => absurd hi (Nat.not_lt_zero _)⟩
    | succ k ihk =>
      intro hk
      obtain ⟨h1, ⟨X, h2⟩, h3, h4⟩ := ihk (by omega)
      have hir := inR_iff.1 (ho k (by omega))
      have ha := look_ok hr hw ns.length (outAt os k).toNat (foldTo (lookF W (firstS gn ns) ns.length) os (layTo W (firstS gn ns) ns ns.length).2 k).2 (by omega) (by omega) h1
      obtain ⟨Y, hY⟩ := ha.ext
      simp only [foldTo]
      refine ⟨ha.ok, ⟨X ++ Y, by rw [hY, h2, List.append_assoc]⟩, by simp [h3], fun i hi => ?_⟩
      by_cases e : i = k
      · subst e
        refine ⟨_, ?_, ha.lt, ha.val⟩
        unfold outAt
        rw [List.getElem?_append_right (by omega), h3, Nat.sub_self]; rfl
      · obtain ⟨q, hq1, hq2, hq3⟩ := h4 i (by omega)
        refine ⟨q, ?_, by rw [hY, List.length_append]; omega, fun g held => ?_⟩
        · rw [← hq1]; unfold outAt; rw [List.getElem?_append_left (by omega)]
        · rw [hY, h1.old Y q hq2, hq3]
  obtain ⟨h1, ⟨X, h2⟩, h3, h4⟩ := hfold os.length (Nat.le_refl _)
  have hlr : (layRs W (firstS gn ns) ns).length = regsN ns ns.length := hR.len
  have hgr := gatesTo_le ns ns.length
  have hrn := regsN_le ns ns.length
  have hfew := h1.few
  have hfs : firstS gn ns = gn + (layRs W (firstS gn ns) ns).length := by rw [hlr]; rfl
  have hreg : ∀ i, i < regsN ns ns.length → ∃ j, j < ns.length ∧ isReg (ndAt ns j) = true ∧ regsN ns j = i ∧ (rgAt (layRs W (firstS gn ns) ns) i).init = ((ndAt ns j).a == 1) ∧ ∃ q : Nat, (rgAt (layRs W (firstS gn ns) ns) i).next = (q : Int) ∧ q < firstS gn ns + (layLs W (firstS gn ns) ns os).length ∧ ∀ g held, lookL gn g (packH held ns ns.length) (layLs W (firstS gn ns) ns os) q = bit (vals g held ns) (ndAt ns j).next.toNat := fun i hi => by
    obtain ⟨j, hj, hre, rfl⟩ := reg_of ns ns.length i hi
    obtain ⟨a, q, b, c, d⟩ := hR.at' j hj hre
    refine ⟨j, hj, hre, rfl, a, q, b, ?_, fun g held => ?_⟩
    · show q < firstS gn ns + (foldTo (lookF W (firstS gn ns) ns.length) os (layTo W (firstS gn ns) ns ns.length).2 os.length).2.L.length
      rw [h2, List.length_append]; omega
    · show lookL gn g _ (foldTo (lookF W (firstS gn ns) ns.length) os (layTo W (firstS gn ns) ns ns.length).2 os.length).2.L q = _
      rw [h2, hR.ok.old X q c, d]
  refine ⟨fun hn hg hos => ⟨hg, by omega, by show (foldTo _ _ _ _).2.L.length ≤ _; omega, by show (foldTo _ _ _ _).1.length ≤ _; omega, fun i hi => ?_, fun i hi => ?_, fun i hi => ?_⟩, hlr, h3, hfew, ?_, fun g held => ?_, fun g held hh => ?_⟩
  · rw [rightL_iff, ← hfs]; exact h1.tab i hi
  · obtain ⟨j, _, _, _, _, q, hq1, hq2, _⟩ := hreg i (by rw [← hlr]; exact hi)
    rw [hq1, inR_iff, ← hfs]; omega
  · have hi' : i < os.length := by rw [← h3]; exact hi
    obtain ⟨q, hq1, hq2, _⟩ := h4 i hi'
    show inR (outAt (foldTo _ _ _ _).1 i) _ = true
    rw [hq1, inR_iff, ← hfs]
    exact ⟨by omega, by show (q : Int) < ((firstS gn ns + (foldTo (lookF W (firstS gn ns) ns.length) os (layTo W (firstS gn ns) ns ns.length).2 os.length).2.L.length : Nat) : Int); omega⟩
  · refine row_ext (by rw [initL_len, packH_len, hlr]) fun i hi => ?_
    rw [initL_len, hlr] at hi
    obtain ⟨j, hj, hre, rfl, a, _⟩ := hreg i hi
    rw [packH_at _ ns hj hre, bit_first ns hj]
    have ho4 : (ndAt ns j).op == 4 := hre
    unfold initL bit
    rw [getElem?_mapRange _ _ _ (by rw [hlr]; exact regsN_lt ns hj hre)]
    show (rgAt _ _).init = _
    rw [a, firstOf, ho4, Bool.true_and]
  · unfold outsL outs
    have hlo : (layOs W (firstS gn ns) ns os).length = os.length := h3
    apply List.ext_getElem
    · simp [hlo]
    · intro i hi1 hi2
      have hi : i < os.length := by simpa using hi2
      obtain ⟨q, hq1, hq2, hq3⟩ := h4 i hi
      have e : outAt (layOs W (firstS gn ns) ns os) i = (q : Int) := hq1
      have e2 : os[i] = outAt os i := by simp [outAt, hi]
      simp only [List.getElem_map, List.getElem_range]
      rw [e, Int.toNat_natCast, e2]
      exact hq3 g held
  · refine row_ext (by rw [nextL_len, packH_len, hlr]) fun i hi => ?_
    rw [nextL_len, hlr] at hi
    obtain ⟨j, hj, hre, rfl, _, q, hq1, _, hq3⟩ := hreg i hi
    rw [packH_at _ ns hj hre, bit_next _ _ ns (by omega) hj]
    unfold nextL
    have e : bit ((List.range (layRs W (firstS gn ns) ns).length).map fun i => lookL gn g (packH held ns ns.length) (layLs W (firstS gn ns) ns os) (rgAt (layRs W (firstS gn ns) ns) i).next.toNat) (regsN ns j) = lookL gn g (packH held ns ns.length) (layLs W (firstS gn ns) ns os) (rgAt (layRs W (firstS gn ns) ns) (regsN ns j)).next.toNat := by
      unfold bit
      rw [getElem?_mapRange _ _ _ (by rw [hlr]; exact regsN_lt ns hj hre)]; rfl
    rw [e, hq1, Int.toNat_natCast, hq3, nextOf, if_pos hre]
end Go.Proofs.Ytacgepdmhdcdkaa
