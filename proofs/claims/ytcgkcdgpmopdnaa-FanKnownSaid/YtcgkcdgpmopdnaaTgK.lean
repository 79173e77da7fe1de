/- The completions of a fan of seven kinds: those begun fans that have none are told at once, after each was tried by itself. -/
import Derived.Test.YtcgkcdgpmopdnaaTfW
import Derived.Test.YtcgkcdgpmopdnaaEvPd
namespace Go.Proofs.Ytcgkcdgpmopdnaa.Ev
set_option linter.unusedVariables false
set_option linter.unusedSimpArgs false
set_option maxRecDepth 100000
open Go Go.Proofs Go.RowKit
noncomputable def q88 : IC := i88.q
noncomputable def res88 : List RV := i88.r
noncomputable def c88c : Code := match Try.f88.body with | some c => c | none => .skip
theorem b88 : Try.f88.body = some c88c := by kernel_rfl
theorem k88 : compC Try.prog drops Try.f88.ntmps c88c = some q88 := by kernel_rfl
theorem r88 : compRVs Try.prog Try.f88.results.toList = some res88 := by kernel_rfl
theorem n88 : (Try.f88.name == "runtime.NumGoroutine") = false := by kernel_rfl
def dead0 : List (List Int) := [[1, 3, 1, 0, 0, 3, 0, 0, 0, 0, 0, 0, 0, 0, 0, 0],
  [7, 5, 0, 0, 0, 0, 0, 5, 7, 0, 0, 0, 0, 0, 0, 0],
  [1, 6, 1, 2, 0, 0, 2, 0, 6, 0, 0, 0, 0, 0, 0, 0],
  [5, 1, 6, 1, 0, 0, 5, 0, 0, 6, 0, 0, 0, 0, 0, 0],
  [2, 5, 1, 2, 1, 0, 0, 5, 0, 0, 0, 0, 0, 0, 0, 0],
  [6, 2, 3, 0, 2, 0, 3, 6, 0, 0, 0, 0, 0, 0, 0, 0],
  [2, 4, 6, 2, 0, 0, 4, 0, 0, 6, 0, 0, 0, 0, 0, 0],
  [4, 5, 1, 0, 1, 4, 0, 5, 0, 0, 0, 0, 0, 0, 0, 0],
  [3, 7, 2, 0, 3, 2, 0, 0, 0, 7, 0, 0, 0, 0, 0, 0],
  [2, 4, 5, 2, 0, 0, 4, 0, 5, 0, 0, 0, 0, 0, 0, 0],
  [2, 7, 5, 2, 0, 0, 0, 0, 5, 7, 0, 0, 0, 0, 0, 0],
  [3, 4, 7, 0, 3, 0, 4, 0, 0, 0, 7, 0, 0, 0, 0, 0],
  [7, 2, 6, 1, 2, 1, 0, 0, 7, 6, 0, 0, 0, 0, 0, 0],
  [5, 6, 2, 0, 0, 2, 5, 0, 6, 0, 0, 0, 0, 0, 0, 0],
  [5, 7, 1, 3, 1, 0, 5, 3, 0, 7, 0, 0, 0, 0, 0, 0],
  [7, 1, 3, 1, 4, 0, 3, 0, 7, 4, 0, 0, 0, 0, 0, 0],
  [3, 5, 7, 1, 3, 1, 0, 5, 0, 0, 7, 0, 0, 0, 0, 0],
  [7, 2, 4, 1, 2, 1, 0, 4, 7, 0, 0, 0, 0, 0, 0, 0],
  [5, 6, 4, 0, 0, 0, 5, 4, 6, 0, 0, 0, 0, 0, 0, 0],
  [5, 1, 7, 1, 4, 0, 5, 0, 0, 4, 7, 0, 0, 0, 0, 0],
  [4, 1, 7, 1, 3, 4, 0, 0, 3, 0, 7, 0, 0, 0, 0, 0],
  [3, 4, 5, 6, 3, 0, 4, 0, 5, 0, 6, 0, 0, 0, 0, 0],
  [1, 7, 1, 6, 0, 0, 0, 0, 0, 7, 6, 0, 0, 0, 0, 0],
  [7, 4, 1, 3, 1, 0, 4, 3, 7, 0, 0, 0, 0, 0, 0, 0],
  [5, 2, 6, 3, 2, 0, 5, 3, 0, 6, 0, 0, 0, 0, 0, 0],
  [3, 4, 6, 1, 3, 1, 4, 0, 0, 6, 0, 0, 0, 0, 0, 0],
  [2, 3, 6, 2, 5, 3, 0, 0, 0, 6, 5, 0, 0, 0, 0, 0],
  [7, 3, 1, 2, 1, 3, 2, 0, 7, 0, 0, 0, 0, 0, 0, 0],
  [4, 1, 6, 1, 3, 4, 0, 0, 3, 6, 0, 0, 0, 0, 0, 0],
  [2, 7, 4, 2, 5, 0, 0, 4, 0, 7, 5, 0, 0, 0, 0, 0],
  [2, 3, 7, 2, 1, 3, 1, 0, 0, 0, 7, 0, 0, 0, 0, 0],
  [1, 4, 1, 6, 7, 2, 4, 0, 2, 0, 6, 0, 7, 0, 0, 0],
  [6, 1, 5, 1, 7, 4, 0, 6, 5, 0, 4, 0, 7, 0, 0, 0],
  [5, 3, 6, 4, 2, 3, 5, 2, 4, 6, 0, 0, 0, 0, 0, 0],
  [5, 1, 7, 1, 3, 0, 5, 0, 3, 0, 7, 0, 0, 0, 0, 0],
  [3, 7, 4, 6, 3, 5, 0, 4, 0, 7, 6, 5, 0, 0, 0, 0],
  [2, 4, 7, 2, 3, 5, 4, 0, 3, 0, 7, 5, 0, 0, 0, 0],
  [1, 5, 1, 7, 3, 6, 0, 5, 3, 0, 0, 7, 6, 0, 0, 0]]
def dead1 : List (List Int) := [[3, 1, 0, 1, 3, 0, 0, 0, 0, 0, 0, 0, 0, 0, 0, 0],
  [4, 7, 0, 0, 0, 4, 0, 0, 0, 7, 0, 0, 0, 0, 0, 0],
  [7, 1, 2, 1, 0, 2, 0, 0, 7, 0, 0, 0, 0, 0, 0, 0],
  [6, 1, 3, 1, 0, 0, 3, 6, 0, 0, 0, 0, 0, 0, 0, 0],
  [2, 5, 7, 2, 0, 0, 0, 5, 0, 0, 7, 0, 0, 0, 0, 0],
  [3, 7, 5, 0, 3, 0, 0, 0, 5, 7, 0, 0, 0, 0, 0, 0],
  [2, 3, 4, 2, 0, 3, 0, 4, 0, 0, 0, 0, 0, 0, 0, 0],
  [2, 5, 3, 2, 0, 0, 3, 5, 0, 0, 0, 0, 0, 0, 0, 0],
  [3, 6, 4, 0, 3, 0, 0, 4, 6, 0, 0, 0, 0, 0, 0, 0],
  [2, 3, 5, 2, 0, 3, 0, 0, 5, 0, 0, 0, 0, 0, 0, 0],
  [2, 7, 3, 2, 0, 0, 3, 0, 0, 7, 0, 0, 0, 0, 0, 0],
  [3, 4, 2, 0, 3, 2, 4, 0, 0, 0, 0, 0, 0, 0, 0, 0],
  [6, 2, 5, 0, 2, 0, 0, 6, 5, 0, 0, 0, 0, 0, 0, 0],
  [1, 6, 1, 5, 0, 0, 0, 0, 6, 5, 0, 0, 0, 0, 0, 0],
  [5, 2, 7, 4, 2, 0, 5, 0, 4, 0, 7, 0, 0, 0, 0, 0],
  [5, 3, 7, 0, 0, 3, 5, 0, 0, 0, 7, 0, 0, 0, 0, 0],
  [2, 3, 1, 2, 1, 3, 0, 0, 0, 0, 0, 0, 0, 0, 0, 0],
  [7, 1, 4, 1, 5, 0, 0, 4, 7, 0, 5, 0, 0, 0, 0, 0],
  [5, 6, 1, 3, 1, 0, 5, 3, 6, 0, 0, 0, 0, 0, 0, 0],
  [5, 1, 7, 1, 2, 0, 5, 2, 0, 0, 7, 0, 0, 0, 0, 0],
  [3, 7, 4, 2, 3, 0, 2, 4, 0, 7, 0, 0, 0, 0, 0, 0],
  [2, 5, 6, 2, 1, 0, 1, 5, 0, 6, 0, 0, 0, 0, 0, 0],
  [1, 6, 1, 3, 7, 0, 0, 3, 6, 0, 0, 0, 7, 0, 0, 0],
  [7, 1, 3, 1, 2, 0, 3, 2, 7, 0, 0, 0, 0, 0, 0, 0],
  [5, 2, 6, 1, 2, 1, 5, 0, 0, 6, 0, 0, 0, 0, 0, 0],
  [2, 7, 4, 2, 1, 0, 1, 4, 0, 7, 0, 0, 0, 0, 0, 0],
  [1, 6, 1, 3, 4, 0, 0, 3, 6, 4, 0, 0, 0, 0, 0, 0],
  [6, 1, 5, 1, 4, 0, 0, 6, 5, 4, 0, 0, 0, 0, 0, 0],
  [4, 1, 6, 1, 2, 4, 0, 2, 0, 6, 0, 0, 0, 0, 0, 0],
  [2, 6, 7, 2, 1, 3, 1, 0, 6, 3, 7, 0, 0, 0, 0, 0],
  [2, 3, 6, 2, 1, 3, 1, 0, 0, 6, 0, 0, 0, 0, 0, 0],
  [1, 4, 1, 6, 3, 0, 4, 0, 3, 0, 6, 0, 0, 0, 0, 0],
  [5, 7, 4, 6, 0, 0, 5, 4, 0, 7, 6, 0, 0, 0, 0, 0],
  [5, 2, 4, 7, 2, 3, 5, 4, 0, 3, 0, 7, 0, 0, 0, 0],
  [4, 6, 3, 5, 2, 4, 3, 2, 6, 5, 0, 0, 0, 0, 0, 0],
  [3, 4, 5, 7, 3, 1, 4, 1, 5, 0, 0, 7, 0, 0, 0, 0],
  [2, 3, 6, 2, 7, 3, 1, 0, 1, 6, 0, 0, 7, 0, 0, 0],
  [1, 5, 1, 6, 7, 3, 0, 5, 0, 3, 6, 0, 7, 0, 0, 0]]
def dead2 : List (List Int) := [[1, 2, 1, 0, 2, 0, 0, 0, 0, 0, 0, 0, 0, 0, 0, 0],
  [6, 4, 0, 0, 0, 0, 4, 6, 0, 0, 0, 0, 0, 0, 0, 0],
  [1, 5, 1, 2, 0, 0, 2, 5, 0, 0, 0, 0, 0, 0, 0, 0],
  [5, 1, 4, 1, 0, 0, 5, 4, 0, 0, 0, 0, 0, 0, 0, 0],
  [6, 1, 2, 1, 0, 2, 0, 6, 0, 0, 0, 0, 0, 0, 0, 0],
  [7, 2, 3, 0, 2, 0, 3, 0, 7, 0, 0, 0, 0, 0, 0, 0],
  [2, 6, 4, 2, 0, 0, 0, 4, 6, 0, 0, 0, 0, 0, 0, 0],
  [7, 3, 4, 0, 0, 3, 0, 4, 7, 0, 0, 0, 0, 0, 0, 0],
  [1, 4, 1, 7, 0, 0, 4, 0, 0, 0, 0, 7, 0, 0, 0, 0],
  [5, 3, 1, 0, 1, 3, 5, 0, 0, 0, 0, 0, 0, 0, 0, 0],
  [4, 1, 3, 1, 0, 4, 3, 0, 0, 0, 0, 0, 0, 0, 0, 0],
  [4, 6, 7, 0, 0, 4, 0, 0, 6, 0, 7, 0, 0, 0, 0, 0],
  [7, 4, 2, 0, 0, 2, 4, 0, 7, 0, 0, 0, 0, 0, 0, 0],
  [5, 6, 7, 0, 0, 0, 5, 0, 6, 0, 7, 0, 0, 0, 0, 0],
  [7, 1, 6, 1, 0, 0, 0, 0, 7, 6, 0, 0, 0, 0, 0, 0],
  [7, 3, 1, 5, 1, 3, 0, 0, 7, 5, 0, 0, 0, 0, 0, 0],
  [3, 6, 2, 0, 3, 2, 0, 0, 6, 0, 0, 0, 0, 0, 0, 0],
  [1, 4, 1, 6, 2, 0, 4, 2, 0, 0, 6, 0, 0, 0, 0, 0],
  [5, 3, 4, 0, 0, 3, 5, 4, 0, 0, 0, 0, 0, 0, 0, 0],
  [4, 5, 6, 2, 0, 4, 2, 5, 0, 6, 0, 0, 0, 0, 0, 0],
  [3, 7, 4, 1, 3, 1, 0, 4, 0, 7, 0, 0, 0, 0, 0, 0],
  [2, 4, 7, 2, 6, 0, 4, 0, 0, 0, 7, 6, 0, 0, 0, 0],
  [1, 4, 1, 5, 3, 0, 4, 0, 3, 5, 0, 0, 0, 0, 0, 0],
  [5, 7, 1, 6, 1, 0, 5, 0, 0, 7, 6, 0, 0, 0, 0, 0],
  [4, 6, 3, 7, 0, 4, 3, 0, 6, 0, 0, 7, 0, 0, 0, 0],
  [2, 6, 7, 2, 4, 0, 0, 0, 6, 4, 7, 0, 0, 0, 0, 0],
  [1, 4, 1, 5, 2, 0, 4, 2, 0, 5, 0, 0, 0, 0, 0, 0],
  [4, 6, 1, 3, 1, 4, 0, 3, 6, 0, 0, 0, 0, 0, 0, 0],
  [3, 6, 7, 5, 3, 0, 0, 0, 6, 5, 7, 0, 0, 0, 0, 0],
  [2, 5, 6, 2, 7, 0, 0, 5, 0, 6, 0, 0, 7, 0, 0, 0],
  [1, 5, 1, 6, 4, 0, 0, 5, 0, 4, 6, 0, 0, 0, 0, 0],
  [1, 4, 1, 5, 7, 0, 4, 0, 0, 5, 0, 0, 7, 0, 0, 0],
  [5, 7, 4, 1, 3, 1, 5, 4, 3, 7, 0, 0, 0, 0, 0, 0],
  [5, 2, 4, 1, 2, 1, 5, 4, 0, 0, 0, 0, 0, 0, 0, 0],
  [4, 6, 1, 7, 1, 4, 2, 0, 6, 2, 0, 7, 0, 0, 0, 0],
  [3, 4, 5, 1, 3, 1, 4, 0, 5, 0, 0, 0, 0, 0, 0, 0],
  [1, 6, 1, 7, 5, 0, 0, 0, 6, 0, 5, 7, 0, 0, 0, 0]]
def dead3 : List (List Int) := [[4, 2, 0, 0, 2, 4, 0, 0, 0, 0, 0, 0, 0, 0, 0, 0],
  [6, 3, 0, 0, 0, 3, 0, 6, 0, 0, 0, 0, 0, 0, 0, 0],
  [6, 7, 0, 0, 0, 0, 0, 6, 0, 7, 0, 0, 0, 0, 0, 0],
  [2, 6, 1, 2, 1, 0, 0, 0, 6, 0, 0, 0, 0, 0, 0, 0],
  [2, 7, 1, 2, 1, 0, 0, 0, 0, 7, 0, 0, 0, 0, 0, 0],
  [4, 1, 5, 1, 0, 4, 0, 0, 5, 0, 0, 0, 0, 0, 0, 0],
  [3, 5, 6, 0, 3, 0, 0, 5, 0, 6, 0, 0, 0, 0, 0, 0],
  [1, 4, 1, 3, 0, 0, 4, 3, 0, 0, 0, 0, 0, 0, 0, 0],
  [1, 7, 1, 3, 0, 0, 0, 3, 0, 7, 0, 0, 0, 0, 0, 0],
  [3, 5, 2, 0, 3, 2, 0, 5, 0, 0, 0, 0, 0, 0, 0, 0],
  [5, 1, 2, 1, 0, 2, 5, 0, 0, 0, 0, 0, 0, 0, 0, 0],
  [1, 7, 1, 4, 0, 0, 0, 0, 4, 7, 0, 0, 0, 0, 0, 0],
  [2, 4, 1, 2, 1, 0, 4, 0, 0, 0, 0, 0, 0, 0, 0, 0],
  [6, 1, 7, 1, 0, 0, 0, 6, 0, 0, 7, 0, 0, 0, 0, 0],
  [7, 4, 6, 0, 0, 0, 4, 0, 7, 6, 0, 0, 0, 0, 0, 0],
  [1, 7, 1, 2, 3, 0, 2, 0, 3, 7, 0, 0, 0, 0, 0, 0],
  [4, 5, 7, 0, 0, 4, 0, 5, 0, 0, 7, 0, 0, 0, 0, 0],
  [1, 5, 1, 7, 4, 0, 0, 5, 0, 4, 0, 7, 0, 0, 0, 0],
  [6, 2, 7, 1, 2, 1, 0, 6, 0, 0, 7, 0, 0, 0, 0, 0],
  [5, 2, 6, 7, 2, 0, 5, 0, 0, 6, 0, 7, 0, 0, 0, 0],
  [4, 5, 3, 0, 0, 4, 3, 5, 0, 0, 0, 0, 0, 0, 0, 0],
  [3, 6, 7, 2, 3, 0, 2, 0, 6, 0, 7, 0, 0, 0, 0, 0],
  [2, 3, 7, 2, 4, 3, 0, 0, 0, 4, 7, 0, 0, 0, 0, 0],
  [7, 4, 1, 6, 1, 0, 4, 0, 7, 0, 6, 0, 0, 0, 0, 0],
  [5, 2, 7, 1, 2, 1, 5, 0, 0, 0, 7, 0, 0, 0, 0, 0],
  [4, 1, 7, 1, 2, 4, 0, 2, 0, 0, 7, 0, 0, 0, 0, 0],
  [2, 6, 3, 2, 4, 0, 3, 0, 6, 4, 0, 0, 0, 0, 0, 0],
  [7, 3, 1, 6, 1, 3, 2, 0, 7, 2, 6, 0, 0, 0, 0, 0],
  [4, 6, 1, 2, 1, 4, 2, 0, 6, 0, 0, 0, 0, 0, 0, 0],
  [3, 6, 7, 1, 3, 1, 2, 0, 6, 2, 7, 0, 0, 0, 0, 0],
  [2, 3, 7, 2, 6, 3, 1, 0, 1, 0, 7, 6, 0, 0, 0, 0],
  [1, 5, 1, 4, 7, 0, 0, 5, 4, 0, 0, 0, 7, 0, 0, 0],
  [7, 1, 3, 1, 5, 0, 3, 0, 7, 0, 5, 0, 0, 0, 0, 0],
  [5, 7, 2, 4, 0, 2, 5, 0, 4, 7, 0, 0, 0, 0, 0, 0],
  [5, 1, 7, 1, 6, 3, 5, 0, 0, 3, 7, 6, 0, 0, 0, 0],
  [4, 6, 1, 5, 1, 4, 0, 0, 6, 5, 0, 0, 0, 0, 0, 0],
  [2, 6, 3, 2, 7, 5, 3, 0, 6, 0, 0, 5, 7, 0, 0, 0],
  [1, 6, 1, 7, 2, 3, 0, 2, 6, 3, 0, 7, 0, 0, 0, 0]]
def dead : List (List Int) := dead0 ++ (dead1 ++ (dead2 ++ dead3))
def deadB (xs : List Int) : Bool := dead.any fun ys => decide (xs = ys)
theorem rdI_get : ∀ {l : L} {xs : List Int}, rdI l = some xs → l.length = xs.length ∧ ∀ j, j < xs.length → asI (l.get j) = some (At xs j)
  | .nil, xs, h => by rw [rdI_nil] at h; cases h; exact ⟨rfl, fun j hj => by simp at hj⟩
  | .cons v l, xs, h => by
    rw [rdI_cons] at h
    split at h
    · rename_i z zs h1 h2
      cases h
      obtain ⟨i1, i2⟩ := rdI_get h2
      refine ⟨by show l.length + 1 = _; rw [i1]; rfl, fun j hj => ?_⟩
      cases j with
      | zero => exact h1
      | succ j => exact i2 j (by simpa using hj)
    · cases h
theorem p_ren' {ps : List (Pos × Nat)} {g : Sig} {j : Nat} {q : Pos} {off : Nat} {u : Value} (hj : j < 1000) (h : ps[j]? = some (q, off)) (hr : (V.p q off).rel g u) : (V.p (tp (255 + j)) 0).rel (ren ps g) u := by
  rw [V.rel] at hr ⊢
  obtain ⟨r, base, tot, h1, h2⟩ := hr
  exact ⟨r, base + off, tot, by rw [ren_at hj h, h1]; rfl, by rw [h2]; simp⟩
theorem y_ren {ps : List (Pos × Nat)} {g : Sig} {j : Nat} {q : Pos} {u : Value} (hj : j < 1000) (h : ps[j]? = some (q, 0)) (hr : (V.yl q).rel g u) : (V.yl (tp (255 + j))).rel (ren ps g) u := by
  rw [V.rel] at hr ⊢
  obtain ⟨r, h1, h2⟩ := hr
  exact ⟨r, by rw [ren_at hj h, h1]; rfl, h2⟩
/-- A fan as it is kept, in memory; and a yield's record, of which nothing is read. -/
theorem Ins.fan {h : Hp} {a p : Pos} {off : Nat} {b c : Blk} {k : Int} {w : Bool} {xs : List Int} (hne : a ≠ p) (ha : h.get a = some b) (hp : h.get p = some c) (hs : off + 18 ≤ b.size) (hx : xs.length = 16) (hl : rdA (b.getL off 18) = some (k, w, xs)) :
    Ins [(a, off), (p, 0)] [blkL b.el (ld k w xs), blkL c.el .nil] h := by
  have hcell : ∀ j, j < 18 → (b.getL off 18).get j = b.cell (off + j) := fun j hj => getL_get _ _ _ _ hj
  refine ⟨rfl, by simp, fun i j q r hq hr e => ?_, by simp [blkL], fun j q b0 hq hb0 => ?_⟩
  · match i, j with
    | 0, 0 => rfl
    | 1, 1 => rfl
    | 0, 1 => simp at hq hr; subst hq hr; exact absurd e hne
    | 1, 0 => simp at hq hr; subst hq hr; exact absurd e.symm hne
    | i + 2, _ => simp at hq
    | 0, j + 2 => simp at hr
    | 1, j + 2 => simp at hr
  · match j with
    | 0 =>
      simp at hq hb0
      subst hq hb0
      refine ⟨b, ha, rfl, by rw [blkL_size, ld_len, hx]; exact hs, fun i hi g g' u hu => ?_⟩
      rw [blkL_size, ld_len, hx] at hi
      rw [blkL_cell _ _ _ (by rw [ld_len, hx]; exact hi)]
      rw [← hcell i (by omega)] at hu
      revert hl hu
      generalize b.getL off 18 = l
      intro hl hu
      unfold rdA at hl
      split at hl
      · rename_i v0 w0 l0
        split at hl
        · rename_i k0 xs0 h1 h2
          cases hl
          match i, hi with
          | 0, _ => exact I_any h1 g g' u hu
          | 1, _ => exact V.pur_rel rfl hu
          | i + 2, hi =>
            rw [Nat.add_comm i 2, ld_2 _ _ _ (by omega)]
            exact I_any ((rdI_get h2).2 i (by omega)) g g' u hu
        · cases hl
      · cases hl
    | 1 =>
      simp at hq hb0
      subst hq hb0
      exact ⟨c, hp, rfl, Nat.zero_le _, fun i hi => by simp [blkL, L.length] at hi⟩
    | j + 2 => simp at hq
/-- A begun fan without a completion yields nothing. -/
noncomputable def s88 (args : L) (_ : Nat) (h : Hp) (n : Nat) : Res := match args with
  | .cons (.yl p) (.cons (.p a off) .nil) => (match h.get a, h.get p with
    | some b, some _ => (match rdA (b.getL off 18) with
      | some (k, w, xs) => if (w && (decide (k = 7) && (decide (a ≠ p) && (Nat.ble (off + 18) b.size && deadB xs)))) = true then .ok (.tu .nil) h n else .no
      | none => .no)
    | _, _ => .no)
  | _ => .no
theorem s88_mo : SMo s88 := fun args lim h n => by
  unfold s88
  split
  · split
    · split
      · split
        · exact Nat.le_refl n
        · trivial
      · trivial
    · trivial
  · trivial
noncomputable def yd (xs : List Int) (el el' : Nat) : Bool := finX (.tu .nil) res88 ((kC q88 nK).f (EK 60) 258 (bind (.cons (.yl (tp 256)) (.cons (.p (tp 255) 0) .nil)) 0 .lf) (hp0 [blkL el (ld 7 true xs), blkL el' .nil] 255) 258)
end Go.Proofs.Ytcgkcdgpmopdnaa.Ev
