/- The answers true, and the tables out of a row's condition. -/
import Derived.Test.YtjhgingmbklhaaaEvS
import Derived.Lib.LaidTab
import Derived.LaidHandle
import Derived.LaidMore
import Derived.MakeChecks
namespace Go.Proofs.Ytjhgingmbklhaaa.Ev
set_option linter.unusedVariables false
open Go Go.RowKit

/-- The evaluator's answer is true, and the blocks can be counted. -/
noncomputable def okR (r : Res) : Bool := Res.rec false (fun v _ n => onB v (fun b => and b (Nat.blt n 9223372036854775808)) false) r
theorem okR_ok {r : Res} (h : okR r = true) : ∃ h' n', r = .ok (.b true) h' n' ∧ n' < 9223372036854775808 := by
  cases r with
  | no => cases h
  | ok v h' n' =>
    have hh : onB v (fun b => and b (Nat.blt n' 9223372036854775808)) false = true := h
    clear h
    cases v <;> simp [onB, V.asB] at hh
    obtain ⟨e1, e2⟩ := hh
    exact ⟨h', n', by rw [e1], e2⟩
theorem ranB {P : Program} (hP : P.follows .mixedOrders = true) {l : List (Nat × FnI)} (hl : Listed P l) {d f : Nat} {args : L} (hr : okR (evF (FT.of l) d f args (gK + 1) .lf (gK + 1)) = true) {vs : List Value}
    (ha : ∀ g, args.rel g vs) (w : World) : Calls P f ⟨vs⟩ w fun e w' => e = .returned (.bool true) ∧ Below w.heap.size w w' := by
  obtain ⟨h', n', h1, h2⟩ := okR_ok hr
  exact ran hP hl h1 h2 ha (fun g x hx => by simpa [V.rel] using hx) w
theorem ranTB {P : Program} (hP : P.follows .mixedOrders = true) {l : List (Nat × FnI)} (hl : Listed P l) (tabs : List (Nat × TypeId × L)) {d f : Nat} {args : L} (hr : okR (evF (FT.of l) d f args (gK + 1) (tabH tabs) (gK + 1)) = true) {vs : List Value}
    (ha : ∀ g, args.rel g vs) (w : World) (hw : Holds w tabs) : Calls P f ⟨vs⟩ w fun e w' => e = .returned (.bool true) ∧ Below w.heap.size w w' := by
  obtain ⟨h', n', h1, h2⟩ := okR_ok hr
  exact ranT hP hl tabs h1 h2 ha (fun g x hx => by simpa [V.rel] using hx) w hw

/-- A table of numbers. -/
def kL (k : IntKind) : List Int → L
  | [] => .nil
  | z :: r => .cons (.i k z) (kL k r)
theorem kL_rel (g : Sig) (k : IntKind) : ∀ zs : List Int, (kL k zs).rel g (zs.map fun z => Value.int k z)
  | [] => rfl
  | z :: r => ⟨.int k z, _, rfl, rfl, kL_rel g k r⟩
theorem kL_allC (k : IntKind) : ∀ zs : List Int, (kL k zs).allC = true
  | [] => rfl
  | z :: r => by show ((V.i k z).isC && (kL k r).allC) = true; rw [kL_allC k r]; rfl
theorem kL_length (k : IntKind) : ∀ zs : List Int, (kL k zs).length = zs.length
  | [] => rfl
  | z :: r => by show (kL k r).length + 1 = _; rw [kL_length k r]; rfl

/-- A listed table's block. -/
theorem laid_tab {P : Program} {w : World} {name : String} {k : IntKind} {zs : List Int} {g : Nat} {t e : TypeId} {n : Nat}
    (hg : P.globalNamed name = some g) (hty : (P.globals[g]?).map (·.type) = some t) (ht : P.underlying t = some (.array n e)) (he : P.underlying e = some (.int k)) (hce : P.cellsOf e = 1) (hct : P.cellsOf t = n) (hz : 0 < zs.length) :
    ∀ (l : List (String × DataW Unit)) (ps : List MemPlace), DataW.LaidVars P w l ps → (∀ b off, MemPlace.cell b off ∈ ps → ∃ c u, w.heap[b]? = some (.cells c u (0, 0))) → (name, Lib.tabData k zs) ∈ l →
    ∃ el, w.heap[g]? = some (.cells (⟨zs.map fun z => Value.int k z⟩ : Array Value) el (0, 0))
  | [], _, _, _, hm => by cases hm
  | (n', d') :: r, ps, h, hf, hm => by
    obtain ⟨g', t', cs, fuel, p, q, h1, h2, h3, h4, h5, rfl⟩ := h
    rcases List.mem_cons.1 hm with e0 | e0
    · cases e0
      obtain rfl := Option.some.inj (hg.symm.trans h1)
      obtain rfl := Option.some.inj (hty.symm.trans h2)
      have hcs := Lib.cells_of_tab ht he hce hct h4
      have hsz : 0 < cs.size := by rw [← Array.length_toList, hcs]; simpa using hz
      obtain ⟨c, u, hcu⟩ := hf g 0 (by
        refine List.mem_append_left _ (List.mem_append_left _ ?_)
        unfold MemPlace.row
        exact List.mem_map.2 ⟨0, List.mem_range.2 hsz, rfl⟩)
      refine ⟨u, ?_⟩
      have hv := h3
      simp only [World.var?, hg, Option.bind_some, hcu, Option.some.injEq] at hv
      rw [hcu, ← hcs, hv]
    · exact laid_tab hg hty ht he hce hct hz r q h5 (fun b off hb => hf b off (List.mem_append_right _ hb)) e0

theorem holds_tab {P : Program} {w : World} {laid : List (String × DataW Unit)} (hp : (laid.all fun x => x.2.handleName?.isNone) = true) (h : laidMetH P laid w) {name : String} {k : IntKind} {zs : List Int} {g : Nat} {t e : TypeId} {n : Nat}
    (hg : P.globalNamed name = some g) (hty : (P.globals[g]?).map (·.type) = some t) (ht : P.underlying t = some (.array n e)) (he : P.underlying e = some (.int k)) (hce : P.cellsOf e = 1) (hct : P.cellsOf t = n) (hz : 0 < zs.length) (hm : (name, Lib.tabData k zs) ∈ laid)
    (hgk : g < gK) (hmax : zs.length ≤ maxSize) : ∃ el, Holds w [(g, el, kL k zs)] := by
  rw [MakeChecks.laidMetH_plain _ _ _ hp] at h
  obtain ⟨ps, h1, _, h3⟩ := h
  obtain ⟨el, h4⟩ := laid_tab hg hty ht he hce hct hz laid ps h1 (fun b off hb => (h3 b off hb).1) hm
  exact ⟨el, ⟨hgk, kL_allC k zs, by rw [kL_length]; exact hmax, _, h4, fun g' => kL_rel g' k zs⟩, trivial⟩
end Go.Proofs.Ytjhgingmbklhaaa.Ev
