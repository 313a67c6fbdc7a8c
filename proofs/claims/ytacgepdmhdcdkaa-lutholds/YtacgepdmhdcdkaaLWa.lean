/-
  A ROW of ways that grows.
-/
import Derived.Test.YtacgepdmhdcdkaaLWc
set_option linter.unusedSimpArgs false
set_option linter.unusedVariables false
namespace Go.Proofs.Ytacgepdmhdcdkaa
open Go.RowKit

theorem wy_one (ws : List Wy) : ∀ u ∈ wyC ws, u.oneCell' = true := by
  intro u hu
  simp only [wyC, List.mem_flatMap] at hu
  obtain ⟨x, _, hx⟩ := hu
  simp only [List.mem_cons, List.not_mem_nil, or_false] at hx
  rcases hx with rfl | rfl <;> rfl
theorem app_wy {B : Nat} {w : World} {v : Value} {l new : List Wy} {n m n' c : Nat} {ao : Option Addr} (h : Mine 44 2 B w v n (wyC l)) (hn : l.length = n) (hm : new.length = m) (hn' : n' = n + m) (hnew : Lies AnyB w ao (wyC new)) (hB : B ≤ w.heap.size) (hbig : n' ≤ 100000) :
    Apped 23 44 2 B w v m ao c n' (wyC (l ++ new)) := by
  obtain ⟨i, hi, hz, hs, hby⟩ := info_lt
  subst hn hm hn'
  obtain ⟨ao', cap', w', hr, h2, h3, h4⟩ := app_own (P := Try.prog) (w := w) 23 23 44 i _ 2 32 (by kernel_rfl) hi hz hs hby rfl (by decide) v l.length _ h.own ao new.length c (wyC new) (wyC_len new) hnew (wy_one new) (by omega) (by decide)
  exact ⟨ao', cap', w', hr, ⟨by rw [wyC_append]; exact h2, fun b hb => (h4 b hb).elim (h.new b) (Nat.le_trans hB)⟩, h3, h4⟩
end Go.Proofs.Ytacgepdmhdcdkaa
