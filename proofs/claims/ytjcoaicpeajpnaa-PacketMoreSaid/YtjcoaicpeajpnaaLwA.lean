/- What the laws' walks share: sizes as they come in; large. -/
import Derived.Test.YtjcoaicpeajpnaaPkX3
namespace Go.Proofs.Ytjcoaicpeajpnaa
open Go.RowKit Pk

/-- A slice of numbers as it comes in reads as a list. -/
theorem rowInts {w : World} {a : Option Addr} {len cap : Nat} {zs : List Int}
    (h : (a = none ∧ len = 0 ∧ cap = 0 ∧ zs = []) ∨
      ∃ x, a = some x ∧ len ≤ cap ∧ cap ≤ maxLen ∧ zs.length = cap ∧ (∀ i, i < zs.length → w.cell? (x.add i) = some (.int .i64 (zs.getD i 0))) ∧ ∀ n ∈ zs, (Lit.int .i64 n).wf = true) :
    Ints w a len (zs.take len) ∧ len ≤ cap ∧ cap ≤ 9223372036854775807 := by
  rcases h with ⟨rfl, rfl, rfl, rfl⟩ | ⟨x, rfl, h1, h2, h3, h4, _⟩
  · exact ⟨Ints.nil_ _ _, Nat.le_refl _, by omega⟩
  · unfold maxLen at h2
    refine ⟨⟨by rw [List.length_take]; omega, fun k hk => ?_⟩, h1, h2⟩
    obtain ⟨b, off, sp⟩ := x
    have h0 := h4 0 (by omega)
    have hsp : sp = none := by
      cases sp with
      | none => rfl
      | some q =>
        rw [show Addr.add ⟨b, off, some q⟩ 0 = ⟨b, off, some q⟩ by simp [Addr.add]] at h0
        unfold World.cell? at h0
        split at h0 <;> simp at h0
    subst hsp
    have hc := h4 k (by omega)
    rw [Addr.add_lit] at hc
    refine ⟨b, off, rfl, World.block_lt_of_cell? _ _ hc, ?_⟩
    rw [hc]
    simp [At, List.getD, hk]

theorem lw_large' (A B C : Option Addr) (n m k : Nat) (ca cb cc : Nat) (w : World) (hl : n ≤ 9223372036854775807) (hl' : m ≤ 9223372036854775807) (hl'' : k ≤ 9223372036854775807) :
    Calls Try.prog 15 #[.slice A n ca, .slice B m cb, .slice C k cc] w fun e w' => e = .returned (.bool (decide (40 < n ∨ 40 < m ∨ 40 < k))) ∧ w = w' := by
  go_enter Try.func15, Try.ntmps15
  go_wp2
  all_goals go_ret
  all_goals exact ⟨ret_bool (by first | (rw [Bool.eq_iff_iff]; simp; omega) | (simp; omega)), rfl⟩
end Go.Proofs.Ytjcoaicpeajpnaa
