/-
  PLAIN: what is made does the same.
-/
import Derived.Test.YtlnmemeejgnbeaaClS
set_option linter.unusedSimpArgs false
set_option linter.unusedVariables false
namespace Go.Proofs.Ytlnmemeejgnbeaa

/-- what made nodes are, in a cycle: registers by what they are at first and whose they were -/
def mvTo (g : List Bool) (rv : Int → Int → Bool) (ms : List Nd) : Nat → List Bool
  | 0 => []
  | k + 1 => mvTo g rv ms k ++ [valN g (mvTo g rv ms k) (rv (ndAt ms k).a (ndAt ms k).next) (ndAt ms k)]
def mV (g : List Bool) (rv : Int → Int → Bool) (ms : List Nd) (a : Int) : Bool := bit (mvTo g rv ms ms.length) a.toNat
theorem mvTo_len (g : List Bool) (rv : Int → Int → Bool) (ms : List Nd) : ∀ k, (mvTo g rv ms k).length = k
  | 0 => rfl
  | k + 1 => by simp [mvTo, mvTo_len g rv ms k]
theorem bit_left {l m : List Bool} {i : Nat} (h : i < l.length) : bit (l ++ m) i = bit l i := bit_append_left h
theorem bit_last {l : List Bool} {b : Bool} {i : Nat} (h : l.length = i) : bit (l ++ [b]) i = b := by subst h; simp [bit]
theorem mvTo_at (g : List Bool) (rv : Int → Int → Bool) (ms : List Nd) {i : Nat} : ∀ {k : Nat}, i < k → bit (mvTo g rv ms k) i = valN g (mvTo g rv ms i) (rv (ndAt ms i).a (ndAt ms i).next) (ndAt ms i)
  | 0, h => absurd h (Nat.not_lt_zero _)
  | k + 1, h => by
    rw [mvTo]
    by_cases e : i = k
    · subst e; rw [bit_last (mvTo_len _ _ _ _)]
    · rw [bit_left (by rw [mvTo_len]; omega)]
      exact mvTo_at g rv ms (by omega)
theorem mvTo_same (g : List Bool) (rv : Int → Int → Bool) (ms : List Nd) {i k n : Nat} (h : i < k) (hn : i < n) : bit (mvTo g rv ms k) i = bit (mvTo g rv ms n) i := by
  rw [mvTo_at _ _ _ h, mvTo_at _ _ _ hn]
theorem mvTo_snoc (g : List Bool) (rv : Int → Int → Bool) (ms : List Nd) (x : Nd) : ∀ k, k ≤ ms.length → mvTo g rv (ms ++ [x]) k = mvTo g rv ms k
  | 0, _ => rfl
  | k + 1, h => by
    rw [mvTo, mvTo, mvTo_snoc g rv ms x k (by omega), ndAt_left (by omega)]
section
variable {g : List Bool} {rv : Int → Int → Bool} {ms : List Nd}
theorem mV_nat {k : Nat} (h : k < ms.length) : mV g rv ms (k : Int) = valN g (mvTo g rv ms k) (rv (ndAt ms k).a (ndAt ms k).next) (ndAt ms k) := by
  unfold mV
  rw [Int.toNat_natCast]
  exact mvTo_at _ _ _ h
theorem mV_bit {k i : Nat} (hi : i < k) (hk : k ≤ ms.length) : bit (mvTo g rv ms k) i = mV g rv ms (i : Int) := by
  unfold mV
  rw [Int.toNat_natCast]
  exact mvTo_same _ _ _ hi (by omega)
/-- Zero and One come first -/
def Base (ms : List Nd) : Prop := ndAt ms 0 = ⟨1, 0, 0, 0⟩ ∧ ndAt ms 1 = ⟨2, 0, 0, 0⟩
theorem mV_const (hb : Base ms) (ha : Ahead ms) {a : Int} (h : 0 ≤ a ∧ a ≤ 1) : mV g rv ms a = decide (a = 1) := by
  have h2 := ha.1
  have : a = 0 ∨ a = 1 := by omega
  rcases this with rfl | rfl
  · rw [show (0 : Int) = ((0 : Nat) : Int) from rfl, mV_nat (by omega), hb.1]; rfl
  · rw [show (1 : Int) = ((1 : Nat) : Int) from rfl, mV_nat (by omega), hb.2]; rfl
theorem mV_1 (hb : Base ms) (ha : Ahead ms) : mV g rv ms 1 = true := by rw [mV_const hb ha (a := 1) ⟨by decide, by decide⟩]; rfl
theorem mV_0 (hb : Base ms) (ha : Ahead ms) : mV g rv ms 0 = false := by rw [mV_const hb ha (a := 0) ⟨by decide, by decide⟩]; rfl
def opB (op : Int) (x y : Bool) : Bool := if op = 5 then x && y else if op = 6 then x || y else x != y
theorem mV_not (ha : Ahead ms) {a : Int} (hi : In ms a) (h8 : (mAt ms a).op = 8) : mV g rv ms a = !mV g rv ms (mAt ms a).a := by
  obtain ⟨k, rfl⟩ := Int.eq_ofNat_of_zero_le hi.1
  have hk : k < ms.length := by have := hi.2; omega
  have e : mAt ms (k : Int) = ndAt ms k := by simp [mAt]
  rw [e] at h8 ⊢
  have hr := (ha.2 k hk).1 h8
  rw [mV_nat hk]
  generalize ndAt ms k = x at *
  obtain ⟨op, xa, xb, xn⟩ := x
  simp only at *
  subst h8
  obtain ⟨i, rfl⟩ := Int.eq_ofNat_of_zero_le hr.1
  show (!bit (mvTo g rv ms k) ((i : Int).toNat)) = _
  rw [Int.toNat_natCast, mV_bit (by omega) (by omega)]
theorem mV_two (ha : Ahead ms) {a : Int} (hi : In ms a) (h2 : isTwo (mAt ms a).op = true) : mV g rv ms a = opB (mAt ms a).op (mV g rv ms (mAt ms a).a) (mV g rv ms (mAt ms a).b) := by
  obtain ⟨k, rfl⟩ := Int.eq_ofNat_of_zero_le hi.1
  have hk : k < ms.length := by have := hi.2; omega
  have e : mAt ms (k : Int) = ndAt ms k := by simp [mAt]
  rw [e] at h2 ⊢
  have hr := (ha.2 k hk).2 h2
  rw [mV_nat hk]
  generalize ndAt ms k = x at *
  obtain ⟨op, xa, xb, xn⟩ := x
  simp only at *
  obtain ⟨i, rfl⟩ := Int.eq_ofNat_of_zero_le hr.1.1
  obtain ⟨j, rfl⟩ := Int.eq_ofNat_of_zero_le hr.2.1
  rw [← mV_bit (g := g) (rv := rv) (show i < k by omega) (by omega), ← mV_bit (g := g) (rv := rv) (show j < k by omega) (by omega)]
  rcases two_cases h2 with e | e | e <;> subst e <;> simp [valN, opB]
theorem other_sem (hb : Base ms) (ha : Ahead ms) {a : Int} (hi : In ms a) (h : (otherM ms a).2 = true) : mV g rv ms (otherM ms a).1 = !mV g rv ms a := by
  unfold otherM at *
  by_cases hle : a ≤ 1
  · rw [if_pos hle]
    have hs : 0 ≤ a ∧ a ≤ 1 := ⟨hi.1, hle⟩
    simp only
    rw [mV_const hb ha (turn_small hs), mV_const hb ha hs]
    have : a = 0 ∨ a = 1 := by omega
    rcases this with rfl | rfl <;> rfl
  · rw [if_neg hle] at *
    have h8 : (mAt ms a).op = 8 := by simpa using h
    rw [mV_not ha hi h8]
    simp
theorem opp_sem (ha : Ahead ms) {a b : Int} (hi : In ms a) (hj : In ms b) (h : oppM ms a b = true) : mV g rv ms a = !mV g rv ms b := by
  unfold oppM at h
  simp only [Bool.or_eq_true, Bool.and_eq_true, beq_iff_eq] at h
  rcases h with ⟨h1, h2⟩ | ⟨h1, h2⟩
  · rw [mV_not ha hi h1, h2]
  · rw [mV_not ha hj h1, h2]; simp
theorem free_sem (hb : Base ms) (ha : Ahead ms) {op a b : Int} (ho : isTwo op = true) (hi : In ms a) (hj : In ms b) (h : (freeM ms op a b).2 = true) : mV g rv ms (freeM ms op a b).1 = opB op (mV g rv ms a) (mV g rv ms b) := by
  have hid := idle_le op
  have cI := mV_const (g := g) (rv := rv) hb ha hid
  have cF := mV_const (g := g) (rv := rv) hb ha (turn_small hid)
  unfold freeM at *
  by_cases c1 : a = idle op
  · rw [if_pos c1]
    subst c1
    rw [cI]
    rcases two_cases ho with e | e | e <;> subst e <;> simp [opB, idle]
  rw [if_neg c1] at *
  by_cases c2 : b = idle op
  · rw [if_pos c2]
    subst c2
    rw [cI]
    rcases two_cases ho with e | e | e <;> subst e <;> simp [opB, idle]
  rw [if_neg c2] at *
  by_cases c3 : oppM ms a b = true
  · rw [if_pos c3]
    simp only
    rw [cF, opp_sem ha hi hj c3]
    generalize mV g rv ms b = y
    rcases two_cases ho with e | e | e <;> subst e <;> cases y <;> rfl
  rw [if_neg c3] at *
  by_cases c4 : op = 7
  · rw [if_pos c4] at *
    subst c4
    have o7 : ∀ x y, opB 7 x y = (x != y) := fun _ _ => rfl
    rw [o7]
    unfold freeX at *
    by_cases d1 : a = b
    · rw [if_pos d1, d1]
      simp only
      rw [mV_0 hb ha]
      simp
    rw [if_neg d1] at *
    by_cases d2 : a = 1
    · rw [if_pos d2] at *
      rw [other_sem hb ha hj h, d2, mV_1 hb ha]
      generalize mV g rv ms b = y
      cases y <;> rfl
    rw [if_neg d2] at *
    by_cases d3 : b = 1
    · rw [if_pos d3] at *
      rw [other_sem hb ha hi h, d3, mV_1 hb ha]
      generalize mV g rv ms a = y
      cases y <;> rfl
    rw [if_neg d3] at *
    cases h
  rw [if_neg c4] at *
  by_cases c5 : a = turnK (idle op)
  · rw [if_pos c5]
    subst c5
    simp only
    rw [cF]
    rcases two_cases ho with e | e | e <;> subst e
    · simp [opB, idle, turnK]
    · simp [opB, idle, turnK]
    · contradiction
  rw [if_neg c5] at *
  by_cases c6 : b = turnK (idle op)
  · rw [if_pos c6]
    subst c6
    simp only
    rw [cF]
    rcases two_cases ho with e | e | e <;> subst e
    · simp [opB, idle, turnK]
    · simp [opB, idle, turnK]
    · contradiction
  rw [if_neg c6] at *
  have e : a = b := by simpa using h
  subst e
  simp only
  rcases two_cases ho with e | e | e <;> subst e
  · simp [opB]
  · simp [opB]
  · contradiction
theorem where_sem (hb : Base ms) (ha : Ahead ms) {is that : Int} (hs : 0 ≤ is ∧ is ≤ 1) (ht : In ms that) (hv : mV g rv ms that = decide (is = 1)) : ∀ (f : Nat) {node : Int}, In ms node → mV g rv ms (whereM ms f node that is) = mV g rv ms node
  | 0, node, hn => by
    unfold whereM
    split
    · rename_i e; rw [e, hv, mV_const hb ha hs]
    split
    · rename_i e
      rw [opp_sem ha hn ht e, hv, mV_const hb ha (turn_small hs)]
      have : is = 0 ∨ is = 1 := by omega
      rcases this with rfl | rfl <;> rfl
    · rfl
  | f + 1, node, hn => by
    unfold whereM
    split
    · rename_i e; rw [e, hv, mV_const hb ha hs]
    split
    · rename_i e
      rw [opp_sem ha hn ht e, hv, mV_const hb ha (turn_small hs)]
      have : is = 0 ∨ is = 1 := by omega
      rcases this with rfl | rfl <;> rfl
    split
    · rename_i h8
      unfold seenM
      split
      · rename_i ho
        rw [other_sem hb ha (where_in ha hs that f (ha.one hn h8)) ho, where_sem hb ha hs ht hv f (ha.one hn h8), mV_not ha hn h8]
      · rfl
    split
    · rename_i h2
      unfold seenM
      split
      · rename_i ho
        rw [free_sem hb ha h2 (where_in ha hs that f (ha.twoA hn h2).1) (where_in ha hs that f (ha.twoA hn h2).2) ho, where_sem hb ha hs ht hv f (ha.twoA hn h2).1, where_sem hb ha hs ht hv f (ha.twoA hn h2).2, mV_two ha hn h2]
      · rfl
    · rfl
/-- what a request comes to -/
def valR (g : List Bool) (rv : Int → Int → Bool) (ms : List Nd) : Rq → Bool
  | .num k => mV g rv ms k
  | .req x => valN g (mvTo g rv ms ms.length) (rv x.a x.next) x
theorem two_sem {op a b : Int} (ho : isTwo op = true) (hi : In ms a) (hj : In ms b) : valR g rv ms (twoR op a b) = opB op (mV g rv ms a) (mV g rv ms b) := by
  have h : valR g rv ms (twoR op a b) = opB op (mV g rv ms (min a b)) (mV g rv ms (max a b)) := by
    rcases two_cases ho with e | e | e <;> subst e <;> rfl
  rw [h]
  rcases Int.le_total a b with e | e
  · rw [Int.min_eq_left e, Int.max_eq_right e]
  · rw [Int.min_eq_right e, Int.max_eq_left e]
    generalize mV g rv ms a = x
    generalize mV g rv ms b = y
    rcases two_cases ho with e | e | e <;> subst e <;> cases x <;> cases y <;> rfl
theorem not_sem (hb : Base ms) (ha : Ahead ms) {a : Int} (hi : In ms a) : valR g rv ms (notR ms a) = !mV g rv ms a := by
  unfold notR
  split
  · rename_i h; exact other_sem hb ha hi h
  · rfl
theorem join_sem (hb : Base ms) (ha : Ahead ms) {op : Int} (ho : op = 5 ∨ op = 6) : ∀ (f : Nat) {a b : Int}, In ms a → In ms b → a.toNat + b.toNat < f → valR g rv ms (joinR ms f op a b) = opB op (mV g rv ms a) (mV g rv ms b)
  | 0, a, b, _, _, h => absurd h (Nat.not_lt_zero _)
  | f + 1, a, b, hi, hj, h => by
    have h2 : isTwo op = true := by rcases ho with e | e <;> subst e <;> rfl
    have h7 : op ≠ 7 := by rcases ho with e | e <;> subst e <;> decide
    have hid := idle_le op
    have key : ∀ (x y : Int), In ms x → In ms y → opB op (mV g rv ms x) (mV g rv ms (whereM ms 3 y x (idle op))) = opB op (mV g rv ms x) (mV g rv ms y) := by
      intro x y hx hy
      by_cases hv : mV g rv ms x = decide (idle op = 1)
      · rw [where_sem hb ha hid hx hv 3 hy]
      · generalize mV g rv ms (whereM ms 3 y x (idle op)) = p
        generalize mV g rv ms x = q at *
        rcases ho with e | e <;> subst e <;> cases q <;> simp [idle] at hv <;> simp [opB]
    have comm : ∀ p q, opB op p q = opB op q p := by
      intro p q
      rcases ho with e | e <;> subst e <;> cases p <;> cases q <;> rfl
    rw [joinR]
    split
    · rename_i hf; exact free_sem hb ha h2 hi hj hf
    · rename_i hf
      have hno := free_no hi hj h7 (by simpa using hf)
      split
      · split
        · exact two_sem h2 hi hj
        · rename_i c2
          have hl := where_le ha hid b 3 hi
          have hw := where_in ha hid b 3 hi
          rw [join_sem hb ha ho f hw hj (by have := hw.1; omega), comm, key b a hj hi, comm]
      · rename_i c1
        have hl := where_le ha hid a 3 hj
        have hw := where_in ha hid a 3 hj
        rw [join_sem hb ha ho f hi hw (by have := hw.1; omega), key a b hi hj]
theorem xor_sem (hb : Base ms) (ha : Ahead ms) : ∀ (f : Nat) {a b : Int}, In ms a → In ms b → a.toNat + b.toNat < f → valR g rv ms (xorR ms f a b) = (mV g rv ms a != mV g rv ms b)
  | 0, a, b, _, _, h => absurd h (Nat.not_lt_zero _)
  | f + 1, a, b, hi, hj, h => by
    rw [xorR]
    split
    · rename_i hf; exact free_sem hb ha rfl hi hj hf
    split
    · rename_i e
      rw [not_sem hb ha hj, e, mV_1 hb ha]
      generalize mV g rv ms b = y
      cases y <;> rfl
    split
    · rename_i e
      rw [not_sem hb ha hi, e, mV_1 hb ha]
      generalize mV g rv ms a = y
      cases y <;> rfl
    split
    · rename_i e
      have la : (mAt ms a).a < a := by
        obtain ⟨k, rfl⟩ := Int.eq_ofNat_of_zero_le hi.1
        have e' : mAt ms (k : Int) = ndAt ms k := by simp [mAt]
        have := (ha.2 k (by have := hi.2; omega)).1 (by rw [← e']; exact e.1)
        rw [e']; omega
      have lb : (mAt ms b).a < b := by
        obtain ⟨k, rfl⟩ := Int.eq_ofNat_of_zero_le hj.1
        have e' : mAt ms (k : Int) = ndAt ms k := by simp [mAt]
        have := (ha.2 k (by have := hj.2; omega)).1 (by rw [← e']; exact e.2)
        rw [e']; omega
      have h1 := ha.one hi e.1
      have h2 := ha.one hj e.2
      rw [xor_sem hb ha f h1 h2 (by have := h1.1; have := h2.1; omega), mV_not ha hi e.1, mV_not ha hj e.2]
      generalize mV g rv ms (mAt ms a).a = x
      generalize mV g rv ms (mAt ms b).a = y
      cases x <;> cases y <;> rfl
    · exact two_sem rfl hi hj
theorem anew_sem (hb : Base ms) (ha : Ahead ms) {st : List Int} {given : Int} {n k : Nat} {x : Nd} {v : List Bool} (hx : rightN given n k x = true) (h1 : x.op ≠ 1) (h2 : x.op ≠ 2) (hv : ∀ i, i < k → In ms (outAt st i) ∧ mV g rv ms (outAt st i) = bit v i) : valR g rv ms (anewR ms st x) = valN g v (rv x.a x.next) x := by
  obtain ⟨op, a, b, nx⟩ := x
  rcases right_cases hx with c | c | c | c | c | c
  · exact absurd c h1
  · exact absurd c h2
  · obtain ⟨rfl, _⟩ := c; rfl
  · obtain ⟨rfl, _⟩ := c; rfl
  · obtain ⟨c1, c2, _, _, c3, c4, i, j, e1, e2, hi, hj⟩ := c
    simp only at c1 c2 c3 c4 e1 e2
    subst e1 e2
    have ei := hv i hi
    have ej := hv j hj
    rcases two_cases c1 with e | e | e
    · subst e
      show valR g rv ms (joinR ms (joinFuel (kAt st (i : Int)) (kAt st (j : Int))) 5 (kAt st (i : Int)) (kAt st (j : Int))) = _
      rw [kAt_nat, kAt_nat, join_sem hb ha (.inl rfl) _ ei.1 ej.1 (by unfold joinFuel; omega), ei.2, ej.2]
      simp [valN, opB]
    · subst e
      show valR g rv ms (joinR ms (joinFuel (kAt st (i : Int)) (kAt st (j : Int))) 6 (kAt st (i : Int)) (kAt st (j : Int))) = _
      rw [kAt_nat, kAt_nat, join_sem hb ha (.inr rfl) _ ei.1 ej.1 (by unfold joinFuel; omega), ei.2, ej.2]
      simp [valN, opB]
    · subst e
      show valR g rv ms (xorR ms (joinFuel (kAt st (i : Int)) (kAt st (j : Int))) (kAt st (i : Int)) (kAt st (j : Int))) = _
      rw [kAt_nat, kAt_nat, xor_sem hb ha _ ei.1 ej.1 (by unfold joinFuel; omega), ei.2, ej.2]
      simp [valN]
  · obtain ⟨c8, i, e1, hi⟩ := c
    simp only at c8 e1
    subst c8 e1
    show valR g rv ms (notR ms (kAt st (i : Int))) = _
    have ei := hv i hi
    rw [kAt_nat, not_sem hb ha ei.1, ei.2]
    simp [valN]
end
theorem mV_snoc (g : List Bool) (rv : Int → Int → Bool) (ms : List Nd) (x : Nd) {a : Int} (h : In ms a) : mV g rv (ms ++ [x]) a = mV g rv ms a := by
  obtain ⟨k, rfl⟩ := Int.eq_ofNat_of_zero_le h.1
  have hk : k < ms.length := by have := h.2; omega
  unfold mV
  rw [Int.toNat_natCast, mvTo_same g rv (ms ++ [x]) (show k < (ms ++ [x]).length by simp; omega) hk, mvTo_snoc g rv ms x _ (Nat.le_refl _)]
theorem Base.snoc {ms : List Nd} (h : Base ms) (hl : 2 ≤ ms.length) (x : Nd) : Base (ms ++ [x]) := ⟨by rw [ndAt_left (by omega)]; exact h.1, by rw [ndAt_left (by omega)]; exact h.2⟩
theorem val_reads (g : List Bool) {v w : List Bool} (h : Bool) {x : Nd} {k : Nat} (h8 : x.op = 8 → 0 ≤ x.a ∧ x.a < k) (h2 : isTwo x.op = true → (0 ≤ x.a ∧ x.a < k) ∧ (0 ≤ x.b ∧ x.b < k)) (e : ∀ i, i < k → bit v i = bit w i) : valN g v h x = valN g w h x := by
  obtain ⟨op, a, b, nx⟩ := x
  simp only at h8 h2
  unfold valN
  simp only
  by_cases c2 : isTwo op = true
  · obtain ⟨⟨a0, a1⟩, b0, b1⟩ := h2 c2
    rw [e a.toNat (by omega), e b.toNat (by omega)]
  · simp only [isTwo, Bool.or_eq_true, beq_iff_eq, not_or] at c2
    by_cases c8 : op = 8
    · have := h8 c8
      rw [e a.toNat (by omega)]
      simp [c2.1, c2.2.1, c2.2.2]
    · simp [c2.1, c2.2.1, c2.2.2, c8]
theorem done_sem {g : List Bool} {rv : Int → Int → Bool} {ms : List Nd} (hb : Base ms) (ha : Ahead ms) {r : Rq} (hr : RqOK ms r) : Base (doneR ms r).2 ∧ mV g rv (doneR ms r).2 (doneR ms r).1 = valR g rv ms r ∧ ∀ a, In ms a → mV g rv (doneR ms r).2 a = mV g rv ms a := by
  cases r with
  | num k => exact ⟨hb, rfl, fun _ _ => rfl⟩
  | req x =>
    cases hf : findN ms x 0 with
    | none =>
      rw [done_none hf]
      refine ⟨hb.snoc ha.1 x, ?_, fun a h => mV_snoc _ _ _ _ h⟩
      simp only
      rw [mV_nat (by simp), ndAt_last, mvTo_snoc g rv ms x _ (Nat.le_refl _)]
      first | done | rfl
    | some k =>
      have hk := find_lt hf
      rw [done_some hf]
      refine ⟨hb, ?_, fun _ _ => rfl⟩
      simp only
      have hx : ndAt ms k = x := by simpa using hk.2.2
      have hl : k < ms.length := by omega
      rw [mV_nat hl, hx]
      have hah := ha.2 k hl
      rw [hx] at hah
      exact val_reads g _ hah.1 hah.2 fun i hi => mvTo_same _ _ _ hi (by omega)
end Go.Proofs.Ytlnmemeejgnbeaa
