/-
  PLAIN: statements go forward.
-/
import Derived.Test.YtgncgbngjdcpgaaGreatDoorGrow
namespace Go.Proofs.YtgncgbngjdcpgaaGreatDoor
section
variable {ts : List Tok}
theorem args_lt : ∀ (f : Nat) {k k' : Nat} {acc : List Ex} {r : List Ex × Nat}, argsP ts f k acc = .ok r k' → k < k'
  | 0, _, _, _, _, h => by simp [argsP] at h
  | f + 1, k, k', acc, r, h => by
    unfold argsP at h
    split at h
    · obtain ⟨a, k1, e1, e2⟩ := bind_ok h
      have := byteP_ok e1
      cases e2; omega
    · obtain ⟨a, k1, e1, e2⟩ := bind_ok h
      have := two_lt e1
      split at e2
      · have := args_lt f e2
        omega
      · cases e2; omega
theorem act_lt {f k k' : Nat} {s : St} (h : actP ts f k = .ok s k') : k < k' := by
  unfold actP at h
  obtain ⟨a, k1, e1, e2⟩ := bind_ok h
  have := nameP_ok e1
  split at e2
  · obtain ⟨b, k2, e3, e4⟩ := bind_ok e2
    obtain ⟨c, k3, e5, e6⟩ := bind_ok e4
    have := two_lt e3
    have := wantP_ok e5
    cases e6; omega
  · obtain ⟨b, k2, e3, e4⟩ := bind_ok e2
    obtain ⟨c, k3, e5, e6⟩ := bind_ok e4
    obtain ⟨d, k4, e7, e8⟩ := bind_ok e6
    obtain ⟨u, k5, e9, e10⟩ := bind_ok e8
    have := wantP_ok e3
    have := args_lt f e5
    have := wantP_ok e7
    have := wantP_ok e9
    cases e10; omega
theorem st_mono (f : Nat) : (∀ deep k acc l k', stmtsP ts f deep k acc = .ok l k' → k ≤ k') ∧ (∀ deep k s k', branchP ts f deep k = .ok s k' → k < k') := by
  induction f with
  | zero => exact ⟨fun _ _ _ _ _ h => by simp [stmtsP] at h, fun _ _ _ _ h => by simp [branchP] at h⟩
  | succ f ih =>
    obtain ⟨h1, h2⟩ := ih
    refine ⟨fun deep k acc l k' h => ?_, fun deep k s k' h => ?_⟩
    · unfold stmtsP at h
      split at h
      · obtain ⟨a, k1, e1, e2⟩ := bind_ok h
        have := h2 _ _ _ _ e1
        have := h1 _ _ _ _ _ e2
        omega
      · split at h
        · obtain ⟨a, k1, e1, e2⟩ := bind_ok h
          have := act_lt e1
          have := h1 _ _ _ _ _ e2
          omega
        · cases h; exact Nat.le_refl _
    · unfold branchP at h
      split at h
      · cases h
      · obtain ⟨a, k1, e1, e2⟩ := bind_ok h
        obtain ⟨b, k2, e3, e4⟩ := bind_ok e2
        obtain ⟨c, k3, e5, e6⟩ := bind_ok e4
        have := two_lt e1
        have := wantP_ok e3
        have := h1 _ _ _ _ _ e5
        split at e6
        · obtain ⟨d, k4, e7, e8⟩ := bind_ok e6
          have := h2 _ _ _ _ e7
          cases e8; omega
        · obtain ⟨d, k4, e7, e8⟩ := bind_ok e6
          obtain ⟨u, k5, e9, e10⟩ := bind_ok e8
          obtain ⟨v, k6, e11, e12⟩ := bind_ok e10
          have := wantP_ok e9
          have := wantP_ok e11
          have h7 : k3 ≤ k4 := by
            split at e7
            · have := h1 _ _ _ _ _ e7; omega
            · cases e7; exact Nat.le_refl _
          cases e12; omega
theorem branch_lt {f deep k k' : Nat} {s : St} (h : branchP ts f deep k = .ok s k') : k < k' := (st_mono f).2 _ _ _ _ h

theorem args_out : ∀ (f : Nat) {k : Nat} {acc : List Ex}, 11 * (ts.length - k) + 30 < f → argsP ts f k acc ≠ .out
  | 0, _, _, h => by omega
  | f + 1, k, acc, hf => by
    intro h
    unfold argsP at h
    split at h
    · rcases bind_out h with e | ⟨a, k1, e1, e2⟩
      · exact byteP_out e
      · cases e2
    · rcases bind_out h with e | ⟨a, k1, e1, e2⟩
      · exact (ex_out f).1 1 0 k (by omega) (by omega) (by omega) e
      · have := two_lt e1
        split at e2
        · rename_i hc
          have hk1 : k1 < ts.length := by
            by_cases hk : ts.length ≤ k1
            · rw [tx_past hk] at hc; simp at hc
            · omega
          exact args_out f (by omega) e2
        · cases e2
theorem act_out {f k : Nat} (hf : 11 * (ts.length - k) + 30 < f) : actP ts f k ≠ .out := by
  intro h
  unfold actP at h
  rcases bind_out h with e | ⟨a, k1, e1, e2⟩
  · exact nameP_out e
  have := nameP_ok e1
  split at e2
  · rcases bind_out e2 with e | ⟨b, k2, e3, e4⟩
    · exact (ex_out f).1 1 0 _ (by omega) (by omega) (by omega) e
    · rcases bind_out e4 with e | ⟨c, k3, e5, e6⟩
      · exact wantP_out e
      · cases e6
  · rcases bind_out e2 with e | ⟨b, k2, e3, e4⟩
    · exact wantP_out e
    · have := wantP_ok e3
      rcases bind_out e4 with e | ⟨c, k3, e5, e6⟩
      · exact args_out f (by omega) e
      · rcases bind_out e6 with e | ⟨d, k4, e7, e8⟩
        · exact wantP_out e
        · rcases bind_out e8 with e | ⟨u, k5, e9, e10⟩
          · exact wantP_out e
          · cases e10
theorem st_out (f : Nat) : (∀ deep k acc, 12 * (ts.length - k) + 40 < f → stmtsP ts f deep k acc ≠ .out) ∧ (∀ deep k, k < ts.length → 12 * (ts.length - k) + 39 < f → branchP ts f deep k ≠ .out) := by
  induction f with
  | zero => exact ⟨fun _ _ _ h => by omega, fun _ _ _ h => by omega⟩
  | succ f ih =>
    obtain ⟨h1, h2⟩ := ih
    refine ⟨fun deep k acc hf h => ?_, fun deep k hk hf h => ?_⟩
    · unfold stmtsP at h
      split at h
      · rename_i hc
        have hk : k < ts.length := by
          by_cases hk : ts.length ≤ k
          · rw [tx_past hk] at hc; simp at hc
          · omega
        rcases bind_out h with e | ⟨a, k1, e1, e2⟩
        · exact h2 _ _ hk (by omega) e
        · have := branch_lt e1
          exact h1 _ _ _ (by omega) e2
      · split at h
        · rename_i hc
          have hk : k < ts.length := by
            by_cases hk : ts.length ≤ k
            · rw [tk_past hk] at hc; simp [isNm] at hc
            · omega
          rcases bind_out h with e | ⟨a, k1, e1, e2⟩
          · exact act_out (by omega) e
          · have := act_lt e1
            exact h1 _ _ _ (by omega) e2
        · cases h
    · unfold branchP at h
      split at h
      · cases h
      · rcases bind_out h with e | ⟨a, k1, e1, e2⟩
        · exact (ex_out f).1 1 0 _ (by omega) (by omega) (by omega) e
        have := two_lt e1
        rcases bind_out e2 with e | ⟨b, k2, e3, e4⟩
        · exact wantP_out e
        have := wantP_ok e3
        rcases bind_out e4 with e | ⟨c, k3, e5, e6⟩
        · exact h1 _ _ _ (by omega) e
        have := (st_mono f).1 _ _ _ _ _ e5
        split at e6
        · rename_i hc
          have hk3 : k3 < ts.length := by
            by_cases hk : ts.length ≤ k3
            · rw [tx_past hk] at hc; simp at hc
            · omega
          rcases bind_out e6 with e | ⟨d, k4, e7, e8⟩
          · exact h2 _ _ hk3 (by omega) e
          · cases e8
        · rcases bind_out e6 with e | ⟨d, k4, e7, e8⟩
          · split at e
            · exact h1 _ _ _ (by omega) e
            · cases e
          · rcases bind_out e8 with e | ⟨u, k5, e9, e10⟩
            · exact wantP_out e
            · rcases bind_out e10 with e | ⟨v, k6, e11, e12⟩
              · exact wantP_out e
              · cases e12
end
end Go.Proofs.YtgncgbngjdcpgaaGreatDoor
