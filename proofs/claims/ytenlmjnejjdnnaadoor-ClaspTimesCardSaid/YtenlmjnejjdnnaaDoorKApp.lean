/- Append of a whole slice of numbers, nil and empty ones let in, at a step of a region that draws its order. -/
import Derived.Test.YtenlmjnejjdnnaaDoorKMem
import Derived.Deep.RegionLaw
namespace Go.Proofs.YtenlmjnejjdnnaaDoor
open Go.RowKit

theorem run_appR {w : World} (ty : TypeId) (base : Nat) (v : Value) (xs : List Int) (hown : OwnI w base v xs) (hbase : base ≤ w.heap.size)
    (A : Option Addr) (m c : Nat) (ys : List Int) (hI : Ints w A m ys) (hlen : xs.length + m ≤ 1000000000) :
    ∃ v' w', (Builtin.append_ #[22, 22] ty #[v, .slice A m c]).run Tryd.prog w = .ok v' w' ∧ OwnI w' base v' (xs ++ ys) ∧ ∀ w0, Below base w0 w → Below base w0 w' := by
  obtain ⟨i0, hi, hz0, hz1, hz2⟩ := info_parts Tryd.info_int
  rcases A with _ | ad
  · have hm : m = 0 := by
      rcases Nat.eq_zero_or_pos m with h | h
      · exact h
      · obtain ⟨b, off, e, _⟩ := hI.at_ h
        cases e
    subst hm
    have hy : ys = [] := List.eq_nil_of_length_eq_zero hI.len
    subst hy
    refine ⟨v, w, ?_, by rw [List.append_nil]; exact hown, fun w0 h => h⟩
    rcases hown.2 with ⟨rfl, h0⟩ | ⟨g, cap, cur, rfl, _, _, hnc, _⟩
    · simp [Builtin.append_, run_underlying Tryd.underlying22, sizeOf, typeInfo, hi, Builtin.lenOf, Builtin.firstCells]
    · simp [Builtin.append_, run_underlying Tryd.underlying22, sizeOf, typeInfo, hi, Builtin.lenOf, Builtin.firstCells, hnc, storeCells]
  · have hnews : ∀ j u, (ys.map (Value.int .i64))[j]? = some u → w.cell? (ad.add j) = some u := by
      intro j u hj
      have hjm : j < m := by
        have := (List.getElem?_eq_some_iff.1 hj).1
        rw [← hI.len]; simpa using this
      obtain ⟨b, off, e, _, hc⟩ := hI.at_ hjm
      cases e
      rw [Addr.add_lit, hc, ← hj]
      have : j < ys.length := by rw [hI.len]; exact hjm
      simp [At, this]
    obtain ⟨v', w', hrun, h2, h3, _⟩ := run_append_own_at (P := Tryd.prog) w base 22 ty 3 i0 (.int .i64 0) 1 8 Tryd.underlying22 hi hz0 hz1 hz2 rfl (by decide) v xs.length _ hown ad m c (ys.map (Value.int .i64)) (by simp [hI.len]) hnews (by intro u hu; obtain ⟨x, _, rfl⟩ := List.mem_map.1 hu; rfl) (by unfold maxLen; omega) (by omega) hbase
    refine ⟨v', w', hrun, ?_, fun w0 h => h.grown h3 hbase (fun j hj => (World.ownsRow.lt hown j hj).1)⟩
    unfold OwnI
    rw [List.length_append, List.map_append, hI.len]
    exact h2

theorem step_appR {w : World} {ops : Array Oper} {o : Oper} {a : Act} {K : Act → World → Prop} {Q : Exit → Act → World → Prop} {E : Prop} (hgd : o.guard = none) (s x : Operand)
    (ho : o.op = .call { callee := .builtin .append, args := #[s, x], argTypes := #[22, 22] })
    (base : Nat) (v : Value) (xs : List Int) (hs : a.eval s = v) (hown : OwnI w base v xs) (hbase : base ≤ w.heap.size)
    (A : Option Addr) (m c : Nat) (ys : List Int) (hx : a.eval x = .slice A m c) (hI : Ints w A m ys) (hlen : xs.length + m ≤ 1000000000)
    (h : ∀ v' w', OwnI w' base v' (xs ++ ys) → (∀ w0, Below base w0 w → Below base w0 w') → K (a.put o.dst v') w') :
    if Region.wanted o (yielded ops a.tmps) = true then Oper.wp Tryd.prog o a w K Q else E := by
  have hw : Region.wanted o (yielded ops a.tmps) = true := by simp [Region.wanted, hgd]
  rw [if_pos hw]
  obtain ⟨v', w', hrun, h2, h3⟩ := run_appR o.type base v xs hown hbase A m c ys hI hlen
  unfold Oper.wp execOp
  simp only [ho, resolve, invoke, builtin, Sem.run_bind, Sem.run_pure, Result.andThen_ok, List.map_toArray, List.map_cons, List.map_nil, hs, hx, hrun]
  exact h v' w' h2 h3
end Go.Proofs.YtenlmjnejjdnnaaDoor
