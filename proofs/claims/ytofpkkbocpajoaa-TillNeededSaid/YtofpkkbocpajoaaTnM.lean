/- TillNeeded: the call. -/
import Derived.Test.YtofpkkbocpajoaaTnC
import Derived.Test.YtofpkkbocpajoaaEvLw
namespace Go.Proofs.Ytofpkkbocpajoaa.Ev
set_option linter.unusedVariables false
open Go Go.Proofs Go.RowKit
theorem needed_walk (z : Nat → Nat) (h : z 0 ≤ 255 ∧ z 1 ≤ 65535) (w : World) : Calls Try.prog 9 #[.agg #[.int .u8 (z 0), .int .u16 (z 1)]] w fun e w' => e = .returned (.bool true) ∧ Below w.heap.size w w' :=
  lawC Try.func9 n9 b9 k9 r9 (args := .cons (ordV (z 0) (z 1)) .nil) (by simp [L.length]) (by simp [ordV, L.pur, V.pur]) (needed_run _ _ (by omega) (by omega)) (vs := [.agg #[.int .u8 (z 0), .int .u16 (z 1)]]) (fun g => ⟨_, _, rfl, by unfold ordV; rw [V.rel]; exact ⟨[.int .u8 (z 0), .int .u16 (z 1)], rfl, _, _, rfl, rfl, _, _, rfl, rfl, rfl⟩, rfl⟩) w
end Go.Proofs.Ytofpkkbocpajoaa.Ev
