/-
  PLAIN: what is read goes forward, and there is always an answer.
-/
import Derived.Test.YtgncgbngjdcpgaaGreatDoorSyn
namespace Go.Proofs.YtgncgbngjdcpgaaGreatDoor

theorem bind_ok {α β : Type} {r : Res α} {f : α → Nat → Res β} {b : β} {k' : Nat} (h : r.bind f = .ok b k') : ∃ a k, r = .ok a k ∧ f a k = .ok b k' := by
  cases r with
  | out => cases h
  | bad e p => cases h
  | ok a k => exact ⟨a, k, rfl, h⟩
theorem bind_out {α β : Type} {r : Res α} {f : α → Nat → Res β} (h : r.bind f = .out) : r = .out ∨ ∃ a k, r = .ok a k ∧ f a k = .out := by
  cases r with
  | out => exact .inl rfl
  | bad e p => cases h
  | ok a k => exact .inr ⟨a, k, rfl, h⟩

section
variable {ts : List Tok}

theorem nameP_ok {k k' : Nat} {s : ByteArray} (h : nameP ts k = .ok s k') : k' = k + 1 := by
  unfold nameP at h
  split at h
  · split at h
    · cases h; rfl
    · cases h
  · cases h
theorem byteP_ok {k k' n : Nat} (h : byteP ts k = .ok n k') : k' = k + 1 := by
  unfold byteP at h
  split at h
  · split at h
    · cases h; rfl
    · cases h
  · cases h
theorem wantP_ok {s : List UInt8} {k k' : Nat} {u : Unit} (h : wantP ts s k = .ok u k') : k' = k + 1 := by
  unfold wantP at h
  split at h
  · cases h; rfl
  · cases h
theorem nameP_out {k : Nat} : nameP ts k ≠ .out := by
  unfold nameP; split
  · split <;> intro h <;> cases h
  · intro h; cases h
theorem byteP_out {k : Nat} : byteP ts k ≠ .out := by
  unfold byteP; split
  · split <;> intro h <;> cases h
  · intro h; cases h
theorem wantP_out {s : List UInt8} {k : Nat} : wantP ts s k ≠ .out := by
  unfold wantP; split <;> intro h <;> cases h

theorem ex_mono (f : Nat) : (∀ lv deep k x k', twoP ts f lv deep k = .ok x k' → k < k') ∧ (∀ lv deep p y k x k', loopP ts f lv deep p y k = .ok x k' → k ≤ k') ∧ (∀ deep k x k', oneP ts f deep k = .ok x k' → k < k') := by
  induction f with
  | zero => exact ⟨fun _ _ _ _ _ h => by simp [twoP] at h, fun _ _ _ _ _ _ _ h => by simp [loopP] at h, fun _ _ _ _ h => by simp [oneP] at h⟩
  | succ f ih =>
    obtain ⟨h2, hl, h1⟩ := ih
    refine ⟨fun lv deep k x k' h => ?_, fun lv deep p y k x k' h => ?_, fun deep k x k' h => ?_⟩
    · unfold twoP at h
      split at h
      · exact h1 _ _ _ _ h
      · obtain ⟨a, k1, e1, e2⟩ := bind_ok h
        exact Nat.lt_of_lt_of_le (h2 _ _ _ _ _ e1) (hl _ _ _ _ _ _ _ e2)
    · unfold loopP at h
      split at h
      · obtain ⟨a, k1, e1, e2⟩ := bind_ok h
        have := h2 _ _ _ _ _ e1
        have := hl _ _ _ _ _ _ _ e2
        omega
      · cases h; exact Nat.le_refl _
    · unfold oneP at h
      split at h
      · cases h
      split at h
      · obtain ⟨a, k1, e1, e2⟩ := bind_ok h
        have := h1 _ _ _ _ e1
        cases e2; omega
      split at h
      · obtain ⟨a, k1, e1, e2⟩ := bind_ok h
        obtain ⟨b, k2, e3, e4⟩ := bind_ok e2
        have := h2 _ _ _ _ _ e1
        have := wantP_ok e3
        cases e4; omega
      split at h
      · cases h; omega
      split at h
      · cases h; omega
      split at h
      · obtain ⟨a, k1, e1, e2⟩ := bind_ok h
        have := byteP_ok e1
        cases e2; omega
      · obtain ⟨a, k1, e1, e2⟩ := bind_ok h
        have := nameP_ok e1
        split at e2
        · obtain ⟨b, k2, e3, e4⟩ := bind_ok e2
          have := nameP_ok e3
          cases e4; omega
        · cases e2; omega

theorem two_lt {f lv deep k : Nat} {x : Ex} {k' : Nat} (h : twoP ts f lv deep k = .ok x k') : k < k' := (ex_mono f).1 _ _ _ _ _ h

theorem tk_past {k : Nat} (h : ts.length ≤ k) : tk ts k = ⟨0, ⟨#[]⟩, 0⟩ := by simp [tk, h]
theorem tx_past {k : Nat} (h : ts.length ≤ k) : tx ts k = [] := by unfold tx; rw [tk_past h, ByteArray.toList_eq]

theorem ex_out (f : Nat) : (∀ lv deep k, 1 ≤ lv → lv ≤ 6 → 10 * (ts.length - k) + (6 - lv) + 12 < f → twoP ts f lv deep k ≠ .out) ∧ (∀ lv deep p y k, 1 ≤ lv → lv ≤ 5 → 10 * (ts.length - k) + 9 < f → loopP ts f lv deep p y k ≠ .out) ∧ (∀ deep k, 10 * (ts.length - k) + 11 < f → oneP ts f deep k ≠ .out) := by
  induction f with
  | zero => exact ⟨fun _ _ _ _ _ h => by omega, fun _ _ _ _ _ _ _ h => by omega, fun _ _ h => by omega⟩
  | succ f ih =>
    obtain ⟨h2, hl, h1⟩ := ih
    refine ⟨fun lv deep k hl1 hl6 hf h => ?_, fun lv deep p y k hl1 hl5 hf h => ?_, fun deep k hf h => ?_⟩
    · unfold twoP at h
      split at h
      · exact h1 _ _ (by omega) h
      · rcases bind_out h with e | ⟨a, k1, e1, e2⟩
        · exact h2 _ _ _ (by omega) (by omega) (by omega) e
        · have := two_lt e1
          exact hl _ _ _ _ _ hl1 (by omega) (by omega) e2
    · unfold loopP at h
      split at h
      · rename_i hlv
        have hk : k < ts.length := by
          by_cases hk : ts.length ≤ k
          · rw [tx_past hk] at hlv; simp [levelN] at hlv; omega
          · omega
        rcases bind_out h with e | ⟨a, k1, e1, e2⟩
        · exact h2 _ _ _ (by omega) (by omega) (by omega) e
        · have := two_lt e1
          exact hl _ _ _ _ _ hl1 hl5 (by omega) e2
      · cases h
    · unfold oneP at h
      split at h
      · cases h
      have hlt : ∀ s : List UInt8, s ≠ [] → (tx ts k == s) = true → k < ts.length := fun s hs he => by
        by_cases hk : ts.length ≤ k
        · rw [tx_past hk, beq_iff_eq] at he; exact absurd he.symm hs
        · omega
      split at h
      · rename_i he
        have := hlt _ (by decide) he
        rcases bind_out h with e | ⟨a, k1, e1, e2⟩
        · exact h1 _ _ (by omega) e
        · cases e2
      split at h
      · rename_i he
        have := hlt _ (by decide) he
        rcases bind_out h with e | ⟨a, k1, e1, e2⟩
        · exact h2 _ _ _ (by omega) (by omega) (by omega) e
        · rcases bind_out e2 with e | ⟨b, k2, e3, e4⟩
          · exact wantP_out e
          · cases e4
      split at h
      · cases h
      split at h
      · cases h
      split at h
      · rcases bind_out h with e | ⟨a, k1, e1, e2⟩
        · exact byteP_out e
        · cases e2
      · rcases bind_out h with e | ⟨a, k1, e1, e2⟩
        · exact nameP_out e
        · split at e2
          · rcases bind_out e2 with e | ⟨b, k2, e3, e4⟩
            · exact nameP_out e
            · cases e4
          · cases e2
end
end Go.Proofs.YtgncgbngjdcpgaaGreatDoor
