/- The till's numbered order as an argument: its two cells. -/
import Derived.Test.YtkdbgkibifigiaaRows
import Derived.WalkKit
import Derived.ProofKit
import Derived.OpenShut
import Derived.WideShapes
namespace Go.Proofs.Ytkdbgkibifigiaa
open Go.RowKit Go.ChangeShapes Go.WideShapes

theorem open_aggI {P : Program} {w : World} {r : Reach} {base : Nat} {t : TypeId} {v : Value} (ts : List TypeId) (ks : List IntKind)
    (hagg : (∃ fs, P.underlying t = some (.struct fs)) ∨ (∃ n e, P.underlying t = some (.array n e)))
    (hct : P.cellTypes P.depth t = some ts) (hC : P.cellsOf t = ts.length) (hlen : ks.length = ts.length)
    (hk : ∀ i, i < ts.length → ∃ u k, ts[i]? = some u ∧ ks[i]? = some k ∧ P.underlying u = some (.int k))
    (h : Value.okWide P w r base t v) :
    ∃ f : Nat → Int, v = .agg (ks.mapIdx fun i k => Value.int k (f i)).toArray ∧ ∀ (i : Nat) (k : IntKind), ks[i]? = some k → k.has (f i) := by
  have h' : ∃ cs, v = .agg cs ∧ cs.size = P.cellsOf t ∧ Row.okWide P w r base t cs := by
    rcases hagg with ⟨fs, e⟩ | ⟨n, e, e'⟩
    · simpa only [Value.okWide, e] using h
    · simpa only [Value.okWide, e'] using h
  obtain ⟨cs, rfl, hsz, ts', hts, _, hcell⟩ := h'
  rw [hct] at hts
  cases hts
  have hone : ∀ i, i < ts.length → ∃ k n, ks[i]? = some k ∧ cs[i]? = some (.int k n) ∧ k.has n := by
    intro i hi
    obtain ⟨u, k, h1, h2, h3⟩ := hk i hi
    have h4 : cs[i]? = some (cs[i]'(by omega)) := Array.getElem?_eq_getElem (by omega)
    obtain ⟨u', h5, h6⟩ := hcell i _ h4
    rw [Nat.mod_eq_of_lt hi, h1] at h5
    cases h5
    generalize cs[i]'(by omega) = x at *
    simp only [Cell.okWide, h3, Cell.ok] at h6
    cases x <;> simp_all
  refine ⟨fun i => match cs[i]? with | some (.int _ n) => n | _ => 0, ?_, fun i k hik => ?_⟩
  · congr 1
    apply Array.ext_getElem?
    intro i
    by_cases hi : i < ts.length
    · obtain ⟨k, n, h1, h2, h3⟩ := hone i hi
      simp [h1, h2]
    · rw [Array.getElem?_eq_none (by omega), Array.getElem?_eq_none (by simp; omega)]
  · obtain ⟨k', n, h1, h2, h3⟩ := hone i (by rw [← hlen]; exact (List.getElem?_eq_some_iff.1 hik).1)
    rw [h1] at hik
    cases hik
    simpa [h2] using h3
theorem has_u8 {n : Int} (h : IntKind.u8.has n) : 0 ≤ n ∧ n ≤ 255 := by
  have h1 : IntKind.u8.min = 0 := by decide
  have h2 : IntKind.u8.max = 255 := by decide
  unfold IntKind.has at h
  rw [h1, h2] at h
  exact h
theorem has_u16 {n : Int} (h : IntKind.u16.has n) : 0 ≤ n ∧ n ≤ 65535 := by
  have h1 : IntKind.u16.min = 0 := by decide
  have h2 : IntKind.u16.max = 65535 := by decide
  unfold IntKind.has at h
  rw [h1, h2] at h
  exact h
set_option maxRecDepth 100000 in
theorem open_ord {w : World} {r : Reach} {base : Nat} {v : Value} (h : Value.okWide Try.prog w r base 52 v) :
    ∃ z : Nat → Nat, (z 0 ≤ 255 ∧ z 1 ≤ 65535) ∧ v = .agg #[.int .u8 (z 0), .int .u16 (z 1)] := by
  obtain ⟨f, rfl, hf⟩ := open_aggI [5, 50] [.u8, .u16] (.inl ⟨_, Try.underlying52⟩) (by kernel_rfl) (by kernel_rfl) rfl
    (fun i hi => match i, hi with | 0, _ => ⟨5, .u8, rfl, rfl, Try.underlying5⟩ | 1, _ => ⟨50, .u16, rfl, rfl, Try.underlying50⟩) h
  have h0 := has_u8 (hf 0 .u8 rfl)
  have h1 := has_u16 (hf 1 .u16 rfl)
  refine ⟨fun i => (f i).toNat, ⟨by show (f 0).toNat ≤ 255; omega, by show (f 1).toNat ≤ 65535; omega⟩, ?_⟩
  have e0 : ((f 0).toNat : Int) = f 0 := by omega
  have e1 : ((f 1).toNat : Int) = f 1 := by omega
  simp [e0, e1]
end Go.Proofs.Ytkdbgkibifigiaa
