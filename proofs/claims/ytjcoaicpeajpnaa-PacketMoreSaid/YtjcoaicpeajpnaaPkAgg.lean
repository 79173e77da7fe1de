/- An argument that is a struct or an array of integers: its cells. -/
import Derived.Test.YtjcoaicpeajpnaaRows
import Derived.WalkKit
import Derived.ProofKit
import Derived.OpenShut
import Derived.WideShapes
namespace Go.Proofs.Ytjcoaicpeajpnaa
open Go.RowKit Go.ChangeShapes Go.WideShapes

theorem open_aggI {P : Program} {w : World} {r : Reach} {base : Nat} {t : TypeId} {v : Value} (ts : List TypeId) (ks : List IntKind)
    (hagg : (∃ fs, P.underlying t = some (.struct fs)) ∨ (∃ n e, P.underlying t = some (.array n e)))
    (hct : P.cellTypes P.depth t = some ts) (hC : P.cellsOf t = ts.length) (hlen : ks.length = ts.length)
    (hk : ∀ i, i < ts.length → ∃ u k, ts[i]? = some u ∧ ks[i]? = some k ∧ P.underlying u = some (.int k))
    (h : Value.okWide P w r base t v) :
    ∃ f : Nat → Int, v = .agg (ks.mapIdx fun i k => Value.int k (f i)).toArray ∧ ∀ (i : Nat) (k : IntKind), ks[i]? = some k → k.has (f i) := by
  have h' : ∃ cs, v = .agg cs ∧ cs.size = P.cellsOf t ∧ Row.okWide P w r base t cs := by
    rcases hagg with ⟨fs, e⟩ | ⟨n, e, e'⟩
    · simpa only [Value.okWide, e] using h
    · simpa only [Value.okWide, e'] using h
  obtain ⟨cs, rfl, hsz, ts', hts, _, hcell⟩ := h'
  rw [hct] at hts
  cases hts
  have hone : ∀ i, i < ts.length → ∃ k n, ks[i]? = some k ∧ cs[i]? = some (.int k n) ∧ k.has n := by
    intro i hi
    obtain ⟨u, k, h1, h2, h3⟩ := hk i hi
    have h4 : cs[i]? = some (cs[i]'(by omega)) := Array.getElem?_eq_getElem (by omega)
    obtain ⟨u', h5, h6⟩ := hcell i _ h4
    rw [Nat.mod_eq_of_lt hi, h1] at h5
    cases h5
    generalize cs[i]'(by omega) = x at *
    simp only [Cell.okWide, h3, Cell.ok] at h6
    cases x <;> simp_all
  refine ⟨fun i => match cs[i]? with | some (.int _ n) => n | _ => 0, ?_, fun i k hik => ?_⟩
  · congr 1
    apply Array.ext_getElem?
    intro i
    by_cases hi : i < ts.length
    · obtain ⟨k, n, h1, h2, h3⟩ := hone i hi
      simp [h1, h2]
    · rw [Array.getElem?_eq_none (by omega), Array.getElem?_eq_none (by simp; omega)]
  · obtain ⟨k', n, h1, h2, h3⟩ := hone i (by rw [← hlen]; exact (List.getElem?_eq_some_iff.1 hik).1)
    rw [h1] at hik
    cases hik
    simpa [h2] using h3
theorem has_u8 {n : Int} (h : IntKind.u8.has n) : 0 ≤ n ∧ n ≤ 255 := by
  have h1 : IntKind.u8.min = 0 := by decide
  have h2 : IntKind.u8.max = 255 := by decide
  unfold IntKind.has at h
  rw [h1, h2] at h
  exact h
theorem wf_u8 {a : Int} (w0 : (Lit.int .u8 a).wf = true) : ∃ p : Nat, a = p ∧ p ≤ 255 := by
  simp [Lit.wf] at w0
  have h1 : IntKind.u8.min = 0 := by decide
  have h2 : IntKind.u8.max = 255 := by decide
  rw [h1, h2] at w0
  exact ⟨a.toNat, by omega, by omega⟩
theorem wf_u16 {a : Int} (w0 : (Lit.int .u16 a).wf = true) : ∃ p : Nat, a = p ∧ p ≤ 65535 := by
  simp [Lit.wf] at w0
  have h1 : IntKind.u16.min = 0 := by decide
  have h2 : IntKind.u16.max = 65535 := by decide
  rw [h1, h2] at w0
  exact ⟨a.toNat, by omega, by omega⟩
set_option maxRecDepth 100000 in
/-- The shelf's nine bytes. -/
theorem open_shelf {w : World} {r : Reach} {base : Nat} {v : Value} (h : Value.okWide Try.prog w r base 53 v) :
    ∃ z : Nat → Nat, (∀ i, z i ≤ 255) ∧ v = .agg #[.int .u8 (z 0), .int .u8 (z 1), .int .u8 (z 2), .int .u8 (z 3), .int .u8 (z 4), .int .u8 (z 5), .int .u8 (z 6), .int .u8 (z 7), .int .u8 (z 8)] := by
  obtain ⟨f, rfl, hf⟩ := open_aggI (List.replicate 9 5) (List.replicate 9 .u8) (.inl ⟨_, Try.underlying53⟩) (by kernel_rfl) (by kernel_rfl) rfl
    (fun i hi => ⟨5, .u8, by rw [List.length_replicate] at hi; rw [List.getElem?_replicate, if_pos hi], by rw [List.length_replicate] at hi; rw [List.getElem?_replicate, if_pos hi], Try.underlying5⟩) h
  have h1 : ∀ i, i < 9 → 0 ≤ f i ∧ f i ≤ 255 := fun i hi => has_u8 (hf i .u8 (by rw [List.getElem?_replicate, if_pos hi]))
  have h2 : ∀ i, i < 9 → f i = ((f i).toNat : Int) := fun i hi => by have := h1 i hi; omega
  refine ⟨fun i => if i < 9 then (f i).toNat else 0, fun i => ?_, ?_⟩
  · by_cases hi : i < 9
    · have := h1 i hi; simp only [if_pos hi]; omega
    · simp [hi]
  · simp [List.replicate, ← h2]
    try rfl
set_option maxRecDepth 100000 in
/-- Four bytes. -/
theorem open_arr4 {w : World} {r : Reach} {base : Nat} {v : Value} (h : Value.okWide Try.prog w r base 51 v) :
    ∃ z : Nat → Nat, (∀ i, z i ≤ 255) ∧ v = .agg #[.int .u8 (z 0), .int .u8 (z 1), .int .u8 (z 2), .int .u8 (z 3)] := by
  obtain ⟨f, rfl, hf⟩ := open_aggI (List.replicate 4 5) (List.replicate 4 .u8) (.inr ⟨_, _, Try.underlying51⟩) (by kernel_rfl) (by kernel_rfl) rfl
    (fun i hi => ⟨5, .u8, by rw [List.length_replicate] at hi; rw [List.getElem?_replicate, if_pos hi], by rw [List.length_replicate] at hi; rw [List.getElem?_replicate, if_pos hi], Try.underlying5⟩) h
  have h1 : ∀ i, i < 4 → 0 ≤ f i ∧ f i ≤ 255 := fun i hi => has_u8 (hf i .u8 (by rw [List.getElem?_replicate, if_pos hi]))
  have h2 : ∀ i, i < 4 → f i = ((f i).toNat : Int) := fun i hi => by have := h1 i hi; omega
  refine ⟨fun i => if i < 4 then (f i).toNat else 0, fun i => ?_, ?_⟩
  · by_cases hi : i < 4
    · have := h1 i hi; simp only [if_pos hi]; omega
    · simp [hi]
  · simp [List.replicate, ← h2]
    try rfl
end Go.Proofs.Ytjcoaicpeajpnaa
