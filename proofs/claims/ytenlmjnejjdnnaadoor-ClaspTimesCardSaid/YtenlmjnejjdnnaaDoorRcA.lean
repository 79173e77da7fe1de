/- Clasp's reference: positions checked, rings moved. -/
import Derived.Test.YtenlmjnejjdnnaaDoorClE
import Derived.Test.YtenlmjnejjdnnaaDoorKApp
namespace Go.Proofs.YtenlmjnejjdnnaaDoor
open Go.RowKit Cl

set_option maxHeartbeats 400000 in
theorem rc_Check (A : Option Addr) (n : Nat) (xs : List Int) (ca : Nat) (w : World) (hx : Ints w A n xs) (hl : n ≤ 9223372036854775807) :
    Calls Tryd.prog 22 #[.slice A n ca] w fun e w' => e = .returned (.int .i64 (pchk xs)) ∧ w = w' := by
  have hxl := Lib.hid hx.len
  by_cases h0 : n = 0
  · subst h0
    have hb0 : (((0 : Nat) : Int) == 0) = true := rfl
    go_enter Tryd.func22, Tryd.ntmps22
    go_wp2
    go_ret
    exact ⟨ret_int (by rw [pchk, if_pos hxl.out]), rfl⟩
  by_cases h5 : 16 < n
  · have hb0 : ((n : Int) == 0) = false := by simp; omega
    go_enter Tryd.func22, Tryd.ntmps22
    go_wp2
    go_ret
    exact ⟨ret_int (by rw [pchk, if_neg (by rw [hxl.out]; exact h0), if_pos (by rw [hxl.out]; exact h5)]), rfl⟩
  have h5' : n ≤ 16 := by omega
  have hb0 : ((n : Int) == 0) = false := by simp; omega
  clear h5
  go_enter Tryd.func22, Tryd.ntmps22
  go_wp2
  go_loop [3] (fun i => ∃ k : Nat, k ≤ n ∧ i = .int .i64 k ∧ Hid (okTo xs k)) (fun i => n - (intOf i).toNat)
  case atStart => exact ⟨0, by omega, rfl, fun j hj => by omega⟩
  case round =>
    obtain ⟨k, hk, rfl, hz⟩ := hrel
    by_cases hlt : k < n
    · obtain ⟨b, off, rfl, hb, hc⟩ := hx.at_ hlt
      have hki : (0 : Int) ≤ (k : Int) := by omega
      have hkn : (k : Int) < n := by omega
      by_cases h1 : At xs k = 0
      · have e1 : (At xs k != 0) = false := by simp [h1]
        have h1' := Lib.hid h1; clear h1
        go_wp2
        go_round
        case rel => exact ⟨k + 1, by omega, by go_num, okTo_succ hz.out (.inl h1'.out)⟩
        case measure => simp [intOf]; omega
      by_cases h2 : At xs k = 1
      · have e1 : (At xs k != 0) = true := by simp [h2]
        have e2 : (At xs k != 1) = false := by simp [h2]
        have h2' := Lib.hid h2; clear h2 h1
        go_wp2
        go_round
        case rel => exact ⟨k + 1, by omega, by go_num, okTo_succ hz.out (.inr h2'.out)⟩
        case measure => simp [intOf]; omega
      · have e1 : (At xs k != 0) = true := by simp [h1]
        have e2 : (At xs k != 1) = true := by simp [h2]
        have h3 := Lib.hid (show ¬ (At xs k = 0 ∨ At xs k = 1) by omega); clear h1 h2
        go_wp2
        go_ret
        exact ⟨ret_int (by rw [pchk_hit hxl.out h0 h5' hlt h3.out]), rfl⟩
    · obtain rfl : k = n := by omega
      go_wp2
      go_ret
      exact ⟨ret_int (by rw [pchk_pass hxl.out h0 h5' hz.out]), rfl⟩

/-- Ahead of a place all is as it must be for a ring. -/
def canTo (xs : List Int) (r k : Nat) : Prop := ∀ i, i < k → bit (onL xs) i = decide (i + 1 = r)
theorem canTo_succ {xs : List Int} {r k : Nat} (h : canTo xs r k) (h1 : bit (onL xs) k = decide (k + 1 = r)) : canTo xs r (k + 1) := fun i hi => by
  rcases Nat.lt_or_ge i k with h2 | h2
  · exact h i h2
  · obtain rfl : i = k := by omega
    exact h1
theorem canTo_bad {xs : List Int} {r k : Nat} (hk : k < r) (h1 : bit (onL xs) k ≠ decide (k + 1 = r)) : can (onL xs) r = false := by
  rw [Bool.eq_false_iff]
  intro e
  simp only [can, decide_eq_true_eq] at e
  exact h1 (e k hk)
theorem canTo_end {xs : List Int} {r : Nat} (h : canTo xs r r) : can (onL xs) r = true := by
  simp only [can, decide_eq_true_eq]
  exact h
set_option maxHeartbeats 400000 in
theorem rc_can (A : Option Addr) (n : Nat) (xs : List Int) (ca : Nat) (r : Nat) (w : World) (hx : Ints w A n xs) (hl : n ≤ 9223372036854775807) (hr : r ≤ n) :
    Calls Tryd.prog 51 #[.slice A n ca, .int .i64 r] w fun e w' => e = .returned (.bool (can (onL xs) r)) ∧ w = w' := by
  have hr0 : (0 : Int) ≤ (r : Int) := by omega
  have hr1 : (r : Int) ≤ 9223372036854775807 := by omega
  go_enter Tryd.func51, Tryd.ntmps51
  go_wp2
  go_loop [5] (fun i => ∃ k : Nat, k ≤ r ∧ i = .int .i64 k ∧ Hid (canTo xs r k)) (fun i => r - (intOf i).toNat)
  case atStart => exact ⟨0, by omega, rfl, fun j hj => by omega⟩
  case round =>
    obtain ⟨k, hk, rfl, hz⟩ := hrel
    by_cases hlt : k < r
    · obtain ⟨b, off, rfl, hb, hc⟩ := hx.at_ (k := k) (by omega)
      have hki : (0 : Int) ≤ (k : Int) := by omega
      have hkn : (k : Int) < r := by omega
      have hkm : (k : Int) < n := by omega
      have e1 : (At xs k == 1) = bit (onL xs) k := by rw [bit_onL]; rfl
      by_cases h2 : k + 1 = r
      · have e2 : ((k : Int) == (r : Int) - 1) = true := by simp; omega
        rcases Bool.eq_false_or_eq_true (bit (onL xs) k) with hbit | hbit
        · rw [hbit] at e1
          have hbit := Lib.hid hbit
          have h2 := Lib.hid h2
          go_wp2
          go_round
          case rel => exact ⟨k + 1, by omega, by go_num, canTo_succ hz.out (by rw [hbit.out]; simpa using h2.out)⟩
          case measure => simp [intOf]; omega
        · rw [hbit] at e1
          have hbit := Lib.hid hbit
          have h2 := Lib.hid h2
          go_wp2
          go_ret
          exact ⟨ret_bool (by rw [canTo_bad hlt (by rw [hbit.out]; have := h2.out; simp [this])]), rfl⟩
      · have e2 : ((k : Int) == (r : Int) - 1) = false := by simp; omega
        rcases Bool.eq_false_or_eq_true (bit (onL xs) k) with hbit | hbit
        · rw [hbit] at e1
          have hbit := Lib.hid hbit
          have h2 := Lib.hid h2
          go_wp2
          go_ret
          exact ⟨ret_bool (by rw [canTo_bad hlt (by rw [hbit.out]; have := h2.out; simp [this])]), rfl⟩
        · rw [hbit] at e1
          have hbit := Lib.hid hbit
          have h2 := Lib.hid h2
          go_wp2
          go_round
          case rel => exact ⟨k + 1, by omega, by go_num, canTo_succ hz.out (by rw [hbit.out]; simpa using h2.out)⟩
          case measure => simp [intOf]; omega
    · obtain rfl : k = r := by omega
      go_wp2
      go_ret
      exact ⟨ret_bool (by rw [canTo_end hz.out]), rfl⟩

/-- A slice of its own, numbers in it. -/
theorem OwnI.whole {w : World} {base : Nat} {v : Value} {xs : List Int} (h : OwnI w base v xs) (hne : xs ≠ []) :
    ∃ g c cur, v = .slice (some ⟨g, 0, none⟩) xs.length c ∧ base ≤ g ∧ Whole w g 3 cur ∧ xs.length ≤ c ∧ cur.size = c ∧ ∀ k, k < xs.length → cur[k]? = some (.int .i64 (At xs k)) := by
  rcases h.2 with ⟨_, hn⟩ | ⟨g, cap, cur, rfl, hg, hh, hnc, hcm, hsz, htake⟩
  · exact absurd (List.eq_nil_of_length_eq_zero hn) hne
  · refine ⟨g, cap, cur, rfl, hg, hh, hnc, by simpa using hsz, fun k hk => ?_⟩
    have hc := h.cells (g := g) rfl k (.int .i64 (At xs k)) (by simp [At, List.getElem?_eq_getElem hk])
    rw [Addr.add_lit, Nat.zero_add] at hc
    exact (Whole.cell (t := 3) hh k).symm.trans hc
theorem ints_set {w : World} {g : Nat} {cur : Array Value} {xs : List Int} (hW : Whole w g 3 cur) (hs : xs.length ≤ cur.size) (h : ∀ k, k < xs.length → cur[k]? = some (.int .i64 (At xs k))) {k : Nat} (hk : k < xs.length) (y : Int) :
    Ints (w.setCell ⟨g, k, none⟩ (.int .i64 y)) (some ⟨g, 0, none⟩) xs.length (xs.set k y) := by
  have hW2 := hW.set_ k (.int .i64 y)
  refine ⟨by simp, fun j hj => ⟨g, 0, rfl, hW2.lt, ?_⟩⟩
  rw [Nat.zero_add, hW2.cell]
  by_cases e : j = k
  · subst e
    rw [Array.getElem?_setIfInBounds, if_pos rfl, if_pos (by omega)]
    simp [At, hk]
  · rw [Array.getElem?_setIfInBounds_ne (by omega), h j hj]
    simp [At, List.getElem?_set, e, Ne.symm e]

theorem il_onL {xs : List Int} {n : Nat} (hl : xs.length = n) (h : okTo xs n) : il (onL xs) = xs := by
  refine At_ext (by simp [il, onL]) fun k hk => ?_
  have hk' : k < xs.length := by simpa [il, onL] using hk
  rw [At_il _ _ (by rw [onL_len]; exact hk'), bit_onL]
  rcases h k (by omega) with e | e <;> rw [e] <;> rfl
theorem il_flip {xs : List Int} {n k : Nat} (hl : xs.length = n) (h : okTo xs n) (hk : k < n) : xs.set k (1 - At xs k) = il (flip (onL xs) k) := by
  refine At_ext (by simp [il, flip_len, onL_len]) fun j hj => ?_
  have hj' : j < xs.length := by simpa using hj
  rw [At_il _ _ (by rw [flip_len, onL_len]; exact hj'), bit_flip _ _ _ (by rw [onL_len]; omega)]
  by_cases e : j = k
  · subst e
    rw [if_pos rfl, bit_onL]
    have : At (xs.set j (1 - At xs j)) j = 1 - At xs j := by simp [At, hj']
    rw [this]
    rcases h j (by omega) with e | e <;> rw [e] <;> rfl
  · rw [if_neg e, bit_onL]
    have : At (xs.set k (1 - At xs k)) j = At xs j := by simp [At, List.getElem?_set, Ne.symm e]
    rw [this]
    rcases h j (by omega) with e | e <;> rw [e] <;> rfl

theorem wpList_appS {w : World} {ops : Array Oper} {rest : List Oper} {o : Oper} {a : Act} {Q : Exit → Act → World → Prop} (hgd : o.guard = none) (s x : Operand)
    (ho : o.op = .call { callee := .builtin .append, args := #[s, x], argTypes := #[22, 22] })
    (base : Nat) (v : Value) (xs : List Int) (hs : a.eval s = v) (hown : OwnI w base v xs) (hbase : base ≤ w.heap.size)
    (A : Option Addr) (m c : Nat) (ys : List Int) (hx : a.eval x = .slice A m c) (hI : Ints w A m ys) (hlen : xs.length + m ≤ 1000000000)
    (h : ∀ v' w', OwnI w' base v' (xs ++ ys) → (∀ w0, Below base w0 w → Below base w0 w') → wpList Tryd.prog ops Q rest (a.put o.dst v') w') :
    wpList Tryd.prog ops Q (o :: rest) a w := by
  refine wpList_plain hgd fun K hK => ?_
  obtain ⟨v', w', hrun, h2, h3⟩ := run_appR o.type base v xs hown hbase A m c ys hI hlen
  unfold Oper.wp execOp
  simp only [ho, resolve, invoke, builtin, Sem.run_bind, Sem.run_pure, Result.andThen_ok, List.map_toArray, List.map_cons, List.map_nil, hs, hx, hrun]
  exact hK _ _ (h v' w' h2 h3)

set_option maxRecDepth 100000 in
set_option maxHeartbeats 1000000 in
theorem rc_moved (A : Option Addr) (n : Nat) (xs : List Int) (ca : Nat) (k : Nat) (w : World) (hx : Ints w A n xs) (hl : n ≤ 16) (h01 : okTo xs n) (hk : k < n) :
    Calls Tryd.prog 55 #[.slice A n ca, .int .i64 k] w fun e w' => ∃ A' c, e = .returned (.slice A' n c) ∧ Ints w' A' n (il (flip (onL xs) k)) ∧ Below w.heap.size w w' := by
  have hb0 := (Below.refl w.heap.size w).alloc (Nat.le_refl _) (.cells #[] 3)
  have hown0 : OwnI (w.alloc (.cells #[] 3)) w.heap.size (.slice (some ⟨w.heap.size, 0, none⟩) 0 0) [] := World.ownsRow_made w #[] 0 (Nat.le_refl _) (Nat.zero_le _) rfl
  have hki : (0 : Int) ≤ (k : Int) := by omega
  have hkn : (k : Int) < n := by omega
  have hv1 : 0 ≤ At xs k := by rcases h01 k hk with e | e <;> omega
  have hv2 : At xs k ≤ 1 := by rcases h01 k hk with e | e <;> omega
  have hf := il_flip hx.len h01 hk
  have hxl := hx.len
  go_enter Tryd.func55, Tryd.ntmps55
  go_wp2_with (at_builtin; refine wpList_appS rfl _ _ rfl w.heap.size _ [] (by rfl) hown0 (by simp) A n ca xs (by rfl) (hx.below hb0) (by simp; omega) ?_; intro v' w' hown' hb'; obtain ⟨g, c, cur, rfl, hg, hW, hc1, hc2, hc3⟩ := OwnI.whole (xs := xs) (by simpa using hown') (by intro e; rw [e] at hxl; simp at hxl; omega); have c1 := (hW.cell k).trans (hc3 k (by omega)); have f1 := hW.frozen k; have hr := Lib.hid (ints_set hW (by omega) hc3 (k := k) (by omega) (1 - At xs k)); rw [hxl])
  have hr := hr.out
  rw [hxl, hf] at hr
  have hbb := (hb' _ hb0).setCell (p := ⟨g, k, none⟩) hg (.int .i64 (1 - At xs k))
  go_ret
  exact ⟨_, _, rfl, hr, hbb⟩
end Go.Proofs.YtenlmjnejjdnnaaDoor
