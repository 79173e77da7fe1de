/- slices.Clone of a slice of numbers that is not nil: a row of the call's own. -/
import Derived.Test.YtjcoaicpeajpnaaRfD
namespace Go.Proofs.Ytjcoaicpeajpnaa
open Go.RowKit

theorem wpList_appS {w : World} {ops : Array Oper} {rest : List Oper} {o : Oper} {a : Act} {Q : Exit → Act → World → Prop} (hgd : o.guard = none) (s x : Operand)
    (ho : o.op = .call { callee := .builtin .append, args := #[s, x], argTypes := #[22, 22] })
    (base : Nat) (v : Value) (xs : List Int) (hs : a.eval s = v) (hown : OwnI w base v xs) (hbase : base ≤ w.heap.size)
    (b off m c : Nat) (ys : List Int) (hx : a.eval x = .slice (some ⟨b, off, none⟩) m c) (hI : Ints w (some ⟨b, off, none⟩) m ys) (hlen : xs.length + m ≤ 1000000000)
    (h : ∀ v' w', OwnI w' base v' (xs ++ ys) → (∀ w0, Below base w0 w → Below base w0 w') → wpList Try.prog ops Q rest (a.put o.dst v') w') :
    wpList Try.prog ops Q (o :: rest) a w := by
  obtain ⟨i0, hi, hz0, hz1, hz2⟩ := info_parts Try.info_int
  refine wpList_append_own_at _ hgd s x 22 ho base 3 i0 (.int .i64 0) 1 8 Try.underlying22 hi hz0 hz1 hz2 rfl (by decide) v xs.length _ hs hown ⟨b, off, none⟩ m c (ys.map (Value.int .i64)) hx (by rw [List.length_map, hI.len, Nat.mul_one]) ?_ ?_ (by unfold maxLen; omega) (by omega) (by first | omega | (simp; omega)) ?_
  · intro j u hj
    have hjm : j < m := by
      have := (List.getElem?_eq_some_iff.1 hj).1
      rw [← hI.len]; simpa using this
    obtain ⟨b', off', e, _, hc⟩ := hI.at_ hjm
    cases e
    rw [Addr.add_lit, hc, ← hj]
    have : j < ys.length := by rw [hI.len]; exact hjm
    simp [At, this]
  · intro u hu
    obtain ⟨y, _, rfl⟩ := List.mem_map.1 hu
    rfl
  · intro v' w' hown' hgrow _ _
    refine h v' w' ?_ ?_
    · unfold OwnI
      rw [List.length_append, List.map_append, hI.len]
      exact hown'
    · intro w0 h0
      exact h0.grown hgrow hbase (fun j hj => (World.ownsRow.lt hown j hj).1)

set_option maxHeartbeats 1000000 in
theorem sl_CloneI (b off n c : Nat) (xs : List Int) (w : World) (hx : Ints w (some ⟨b, off, none⟩) n xs) (hl : n ≤ 1000000) :
    Calls Try.prog 54 #[.slice (some ⟨b, off, none⟩) n c] w fun e w' => ∃ v, e = .returned v ∧ OwnI w' w.heap.size v xs ∧ Below w.heap.size w w' := by
  have q22 : ∀ (w : World) (a : Option Addr) (n c n' c' : Nat), (binOp .eql 22 (.slice a n c) (.slice none n' c')).run Try.prog w = .ok (.bool a.isNone) w := fun w a n c n' c' => Lib.run_eql_slice_nil w _ _ a n c n' c' Try.underlying22
  have hb0 := (Below.refl w.heap.size w).alloc (Nat.le_refl _) (.cells #[] 3)
  have hown0 : OwnI (w.alloc (.cells #[] 3)) w.heap.size (.slice (some ⟨w.heap.size, 0, none⟩) 0 0) [] := World.ownsRow_made w #[] 0 (Nat.le_refl _) (Nat.zero_le _) rfl
  go_enter Try.func54, Try.ntmps54
  go_wp2_with (at_builtin; refine wpList_appS rfl _ _ rfl w.heap.size _ [] (by rfl) hown0 (by simp) b off n c xs (by rfl) (hx.below hb0) (by simp; omega) ?_; intro v' w' hown' hb')
  go_ret
  exact ⟨v', rfl, by simpa using hown', hb' _ hb0⟩
end Go.Proofs.Ytjcoaicpeajpnaa
