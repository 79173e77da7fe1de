/- Clasp's statements: lists compared; what is large; the examples. -/
import Derived.Test.YtenlmjnejjdnnaaDoorRcB
import Derived.Test.YtenlmjnejjdnnaaDoorKwIr
namespace Go.Proofs.YtenlmjnejjdnnaaDoor
open Go.RowKit Cl

theorem lc_list (v : Value) (w : World) : Calls Tryd.prog 48 #[v] w fun e w' => e = .returned v ∧ w = w' := by
  go_enter Tryd.func48, Tryd.ntmps48
  go_wp2
  go_ret
  exact ⟨rfl, rfl⟩

set_option maxHeartbeats 400000 in
theorem lc_same (A B : Option Addr) (n m : Nat) (xs ys : List Int) (ca cb : Nat) (w : World) (hx : Ints w A n xs) (hy : Ints w B m ys)
    (hl : n ≤ 1000000000) (hl' : m ≤ 1000000000) :
    Calls Tryd.prog 20 #[.slice A n ca, .slice B m cb] w fun e w' => e = .returned (.bool (decide (xs = ys))) ∧ ∃ j, w' = w.drewN j := by
  by_cases h : n = m
  · subst h
    go_enter Tryd.func20, Tryd.ntmps20
    go_wp2
    go_loopw [5] (fun i wr => ∃ k j : Nat, k ≤ n ∧ i = .int .i64 k ∧ wr = w.drewN j ∧ (∀ q, q < k → At xs q = At ys q)) (fun i _ => n - (intOf i).toNat)
    case atStart => exact ⟨0, 0, by omega, rfl, rfl, fun q hq => by omega⟩
    case round =>
      obtain ⟨k, j, hk, rfl, rfl, hq⟩ := hrel
      have HQ := Lib.hid hq; clear hq
      by_cases hlt : k < n
      · obtain ⟨b, off, rfl, hb, hc⟩ := hx.at_ hlt
        obtain ⟨b', off', rfl, hb', hc'⟩ := hy.at_ hlt
        have hki : (0 : Int) ≤ (k : Int) := by omega
        have hkn : (k : Int) < n := by omega
        by_cases he : At xs k = At ys k
        · have hbb : (At xs k != At ys k) = false := by simp [he]
          have He := Lib.hid he; clear he
          go_wp2
          go_quiet (fail)
          go_wp2
          refine ⟨⟨k + 1, _, by omega, by go_num, rfl, fun q hq => ?_⟩, by simp [intOf]; omega⟩
          rcases Nat.lt_or_ge q k with h | h
          · exact HQ.out q h
          · obtain rfl : q = k := by omega
            exact He.out
        · have hbb : (At xs k != At ys k) = true := by simp [he]
          have He := Lib.hid he; clear he
          go_wp2
          go_quiet (fail)
          go_wp2
          go_ret
          refine ⟨ret_bool (Eq.symm ?_), _, World.drewN_drewN _ _ _⟩
          simp only [decide_eq_false_iff_not]
          rintro rfl
          exact He.out rfl
      · obtain rfl : k = n := by omega
        go_wp2
        go_ret
        refine ⟨ret_bool (Eq.symm ?_), _, rfl⟩
        simp only [decide_eq_true_eq]
        exact At_ext (by rw [hx.len, hy.len]) (fun q hq => HQ.out q (by rw [hx.len] at hq; exact hq))
  · have hb : ((n : Int) != m) = true := by simp; omega
    go_enter Tryd.func20, Tryd.ntmps20
    go_wp2
    go_ret
    refine ⟨ret_bool (Eq.symm ?_), 0, rfl⟩
    simp only [decide_eq_false_iff_not]
    rintro rfl
    exact h (by rw [← hx.len, hy.len])


theorem same_refl {w : World} {A B : Option Addr} {n ca cb : Nat} {xs : List Int} (hx : Ints w A n xs) (hy : Ints w B n xs) (hl : n ≤ 1000000000) :
    Calls Tryd.prog 20 #[.slice A n ca, .slice B n cb] w fun e w' => e = .returned (.bool true) ∧ Below w.heap.size w w' := by
  refine (lc_same A B n n xs xs ca cb w hx hy hl hl).mono ?_
  rintro e w' ⟨rfl, j, rfl⟩
  exact ⟨by simp, bdrewN (Below.refl _ _) j⟩

theorem lc_large (A B C : Option Addr) (n m k : Nat) (ca cb cc : Nat) (w : World) (hl : n ≤ 9223372036854775807) (hl' : m ≤ 9223372036854775807) (hl'' : k ≤ 9223372036854775807) :
    Calls Tryd.prog 14 #[.slice A n ca, .slice B m cb, .slice C k cc] w fun e w' => e = .returned (.bool (decide (60 < n ∨ 60 < m ∨ 1200 < k))) ∧ w = w' := by
  go_enter Tryd.func14, Tryd.ntmps14
  go_wp2
  all_goals go_ret
  all_goals exact ⟨ret_bool (by first | (rw [Bool.eq_iff_iff]; simp; omega) | (simp; omega)), rfl⟩

/-- The table that bits.TrailingZeros reads stands. -/
def HasTab (w : World) : Prop := ∃ el, Ev.Holds w [(1, el, Ev.kL .u8 Ev.zs64)]
theorem HasTab.below {w w' : World} (h : HasTab w) (b : Below w.heap.size w w') : HasTab w' := by
  obtain ⟨el, h⟩ := h
  exact ⟨el, h.below b fun x hx => by simp at hx; subst hx; exact h.lt⟩
theorem lc_works (w : World) (h : HasTab w) : Calls Tryd.prog 15 #[] w fun e w' => e = .returned (.bool true) ∧ Below w.heap.size w w' := by
  obtain ⟨el, h⟩ := h
  exact Ev.works_walk w el h
theorem rowInts {w : World} {a : Option Addr} {len cap : Nat} {zs : List Int}
    (h : (a = none ∧ len = 0 ∧ cap = 0 ∧ zs = []) ∨
      ∃ x, a = some x ∧ len ≤ cap ∧ cap ≤ maxLen ∧ zs.length = cap ∧ (∀ i, i < zs.length → w.cell? (x.add i) = some (.int .i64 (zs.getD i 0))) ∧ ∀ n ∈ zs, (Lit.int .i64 n).wf = true) :
    Ints w a len (zs.take len) ∧ len ≤ cap ∧ cap ≤ 9223372036854775807 := by
  rcases h with ⟨rfl, rfl, rfl, rfl⟩ | ⟨x, rfl, h1, h2, h3, h4, _⟩
  · exact ⟨Ints.nil_ _ _, Nat.le_refl _, by omega⟩
  · unfold maxLen at h2
    refine ⟨⟨by rw [List.length_take]; omega, fun k hk => ?_⟩, h1, h2⟩
    obtain ⟨b, off, sp⟩ := x
    have h0 := h4 0 (by omega)
    have hsp : sp = none := by
      cases sp with
      | none => rfl
      | some q =>
        rw [show Addr.add ⟨b, off, some q⟩ 0 = ⟨b, off, some q⟩ by simp [Addr.add]] at h0
        unfold World.cell? at h0
        split at h0 <;> simp at h0
    subst hsp
    have hc := h4 k (by omega)
    rw [Addr.add_lit] at hc
    refine ⟨b, off, rfl, World.block_lt_of_cell? _ _ hc, ?_⟩
    rw [hc]
    simp [At, List.getD, hk]
end Go.Proofs.YtenlmjnejjdnnaaDoor
