/- TillLacks: the call. -/
import Derived.Test.YtofpkkbocpajoaaTlL
import Derived.Test.YtofpkkbocpajoaaEvLw
namespace Go.Proofs.Ytofpkkbocpajoaa.Ev
set_option linter.unusedVariables false
open Go Go.Proofs Go.RowKit
theorem lacks_walk (s : ByteArray) (b : Int) (hs : s.size < 9223372036854775808) (w : World) : Calls Try.prog 3 #[.string s, .int .i64 b] w fun e w' => e = .returned (.bool true) ∧ Below w.heap.size w w' :=
  lawC Try.func3 n3 b3 k3 r3 (args := .cons (.s (ofS s)) (.cons (I b) .nil)) (by simp [L.length]) (by simp [L.pur, V.pur, I_pur]) (lacks_run _ b (by rw [ofS_len]; exact hs)) (vs := [.string s, .int .i64 b]) (fun g => ⟨_, _, rfl, ofS_rel g s, _, _, rfl, I_rel, rfl⟩) w
end Go.Proofs.Ytofpkkbocpajoaa.Ev
