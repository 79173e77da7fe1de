/- slices.Sort at few numbers in a row that the call has made itself; slices.Index, slices.Contains at numbers that are not negative. -/
import Derived.Test.YtjcoaicpeajpnaaPkMem
import Derived.Deep.RegionWith
import Derived.Deep.QuietTactic
import Derived.BigQuiet
namespace Go.Proofs.Ytjcoaicpeajpnaa
open Go.RowKit

theorem cmp_isNaN (x : Int) (w : World) : Calls Try.prog 114 #[.int .i64 x] w fun e w' => e = .returned (.bool false) ∧ w' = w := by
  go_enter Try.func114, Try.ntmps114
  go_wp2_with fail
  go_ret
  exact ⟨ret_bool (by simp), rfl⟩

theorem cmp_Less (x y : Int) (w : World) : Calls Try.prog 103 #[.int .i64 x, .int .i64 y] w fun e w' => e = .returned (.bool (decide (x < y))) ∧ w' = w := by
  go_enter Try.func103, Try.ntmps103
  go_wp2_with fail
  refine (cmp_isNaN x w).mono ?_; rintro e w' ⟨rfl, rfl⟩
  go_wp2_with fail
  go_ret
  exact ⟨ret_bool rfl, rfl⟩

/-! ### lists in order -/
theorem At_set {zs : List Int} {i k : Nat} {v : Int} (hi : i < zs.length) : At (zs.set i v) k = if k = i then v else At zs k := by
  by_cases e : k = i
  · subst e; simp [At, hi]
  · rw [if_neg e]; simp [At, List.getElem?_set_ne (Ne.symm e)]
/-- The exchange of two neighbours. -/
def swp (zs : List Int) (j : Nat) : List Int := (zs.set j (At zs (j - 1))).set (j - 1) (At zs j)
theorem swp_len (zs : List Int) (j : Nat) : (swp zs j).length = zs.length := by simp [swp]
theorem swp_At {zs : List Int} {j k : Nat} (h1 : 1 ≤ j) (hj : j < zs.length) : At (swp zs j) k = if k = j - 1 then At zs j else if k = j then At zs (j - 1) else At zs k := by
  rw [swp, At_set (by simp; omega), At_set hj]
theorem swp_perm {zs : List Int} {j : Nat} (h1 : 1 ≤ j) (hj : j < zs.length) : (swp zs j).Perm zs := by
  have h := List.set_set_perm (i := j) (j := j - 1) hj (show j - 1 < zs.length by omega)
  have e1 : At zs (j - 1) = zs[j - 1]'(by omega) := by simp [At, List.getElem?_eq_getElem (show j - 1 < zs.length by omega)]
  have e2 : At zs j = zs[j] := by simp [At, List.getElem?_eq_getElem hj]
  rw [swp, e1, e2]
  exact h
/-- In order up to i, but for the place j, which is not greater than those behind it. -/
def Okj (zs : List Int) (i j : Nat) : Prop := ∀ a b, a < b → b ≤ i → b ≠ j → At zs a ≤ At zs b
def Ord (zs : List Int) (i : Nat) : Prop := ∀ a b, a < b → b < i → At zs a ≤ At zs b
theorem Okj.start {zs : List Int} {i : Nat} (h : Ord zs i) : Okj zs i i := fun a b h1 h2 h3 => h a b h1 (by omega)
theorem Okj.stop {zs : List Int} {i j : Nat} (h : Okj zs i j) (hj : j = 0 ∨ At zs (j - 1) ≤ At zs j) : Ord zs (i + 1) := by
  intro a b h1 h2
  by_cases e : b = j
  · subst e
    rcases hj with rfl | hj
    · omega
    · by_cases e : a = b - 1
      · subst e; exact hj
      · exact Int.le_trans (h a (b - 1) (by omega) (by omega) (by omega)) hj
  · exact h a b h1 (by omega) e
theorem Okj.swp {zs : List Int} {i j : Nat} (h : Okj zs i j) (h1 : 1 ≤ j) (hji : j ≤ i) (hj : j < zs.length) (hlt : At zs j < At zs (j - 1)) : Okj (swp zs j) i (j - 1) := by
  intro a b hab hbi hb
  rw [swp_At h1 hj, swp_At h1 hj]
  rw [if_neg hb]
  by_cases e : b = j
  · subst e
    rw [if_pos rfl]
    by_cases e2 : a = b - 1
    · rw [if_pos e2]; omega
    · rw [if_neg e2, if_neg (by omega)]
      exact h a (b - 1) (by omega) (by omega) (by omega)
  · rw [if_neg e]
    by_cases e2 : a = j - 1
    · rw [if_pos e2]; exact h j b (by omega) hbi e
    · rw [if_neg e2]
      by_cases e3 : a = j
      · rw [if_pos e3]; exact h (j - 1) b (by omega) hbi e
      · rw [if_neg e3]; exact h a b hab hbi e

theorem OwnI.slice {w : World} {base g n cap : Nat} {xs : List Int} (h : OwnI w base (.slice (some ⟨g, 0, none⟩) n cap) xs) : xs.length = n := by
  rcases h.2 with ⟨e, _⟩ | ⟨g', cap', cur, e, _⟩
  · cases e
  · cases e; rfl
theorem OwnI.cell {w : World} {base g n cap : Nat} {xs : List Int} (h : OwnI w base (.slice (some ⟨g, 0, none⟩) n cap) xs) {k : Nat} (hk : k < n) : w.cell? ⟨g, k, none⟩ = some (.int .i64 (At xs k)) := by
  have hl := h.slice
  subst hl
  have hu : w.ownsRow base 3 1 (.slice (some ⟨g, 0, none⟩) xs.length cap) xs.length (xs.map (Value.int .i64)) := h
  rw [hu.cellAt k (by omega)]
  simp [At, List.getElem?_eq_getElem hk]
theorem OwnI.frozen {w : World} {base g n cap : Nat} {xs : List Int} (h : OwnI w base (.slice (some ⟨g, 0, none⟩) n cap) xs) (k : Nat) : w.frozen? ⟨g, k, none⟩ = false := by
  have hl := h.slice
  subst hl
  have hu : w.ownsRow base 3 1 (.slice (some ⟨g, 0, none⟩) xs.length cap) xs.length (xs.map (Value.int .i64)) := h
  exact hu.frozenAt k
theorem OwnI.stored {w : World} {base g n cap : Nat} {xs : List Int} (h : OwnI w base (.slice (some ⟨g, 0, none⟩) n cap) xs) (k : Nat) (u : Int) : OwnI (w.setCell ⟨g, k, none⟩ (.int .i64 u)) base (.slice (some ⟨g, 0, none⟩) n cap) (xs.set k u) := by
  have hl := h.slice
  subst hl
  have hu : w.ownsRow base 3 1 (.slice (some ⟨g, 0, none⟩) xs.length cap) xs.length (xs.map (Value.int .i64)) := h
  have := (hu.stored k (.int .i64 u)).1
  unfold OwnI
  rw [List.length_set, List.map_set]
  exact this
theorem OwnI.lt {w : World} {base g n cap : Nat} {xs : List Int} (h : OwnI w base (.slice (some ⟨g, 0, none⟩) n cap) xs) : base ≤ g ∧ g < w.heap.size := World.ownsRow.lt h g rfl
theorem OwnI.drewN {w : World} {base : Nat} {v : Value} {xs : List Int} (h : OwnI w base v xs) (k : Nat) : OwnI (w.drewN k) base v xs := h

set_option maxRecDepth 100000 in
set_option maxHeartbeats 2000000 in
theorem sl_insertionSort (base g n cap : Nat) (xs : List Int) (w : World) (hown : OwnI w base (.slice (some ⟨g, 0, none⟩) n cap) xs) (hn : n ≤ 1000) :
    Calls Try.prog 97 #[.slice (some ⟨g, 0, none⟩) n cap, .int .i64 0, .int .i64 n] w fun e w' => e = .returned (.tuple #[]) ∧ ∃ zs, OwnI w' base (.slice (some ⟨g, 0, none⟩) n cap) zs ∧ zs.Perm xs ∧ Ord zs n ∧ Below base w w' := by
  have hL := fun (x y : Int) W => cmp_Less x y W
  go_enter Try.func97, Try.ntmps97
  go_wp2_with fail
  go_loopw [6] (fun v wr => ∃ (i : Nat) (zs : List Int), 1 ≤ i ∧ i ≤ n + 1 ∧ v = .int .i64 i ∧ OwnI wr base (.slice (some ⟨g, 0, none⟩) n cap) zs ∧ Hid (zs.Perm xs ∧ Ord zs i) ∧ Below base w wr) (fun v _ => n + 1 - (intOf v).toNat)
  case atStart => exact ⟨1, xs, by omega, by omega, rfl, hown, ⟨List.Perm.refl _, fun a b h1 h2 => by omega⟩, Below.refl _ _⟩
  case round =>
    obtain ⟨i, zs, hi1, hi2, rfl, hown, hz, hb⟩ := hrel
    by_cases hlt : i < n
    · have hin : (i : Int) < n := by omega
      go_wp2_with fail
      go_loopw [7] (fun v wr => ∃ (j : Nat) (zs : List Int), j ≤ i ∧ v = .int .i64 j ∧ OwnI wr base (.slice (some ⟨g, 0, none⟩) n cap) zs ∧ Hid (zs.Perm xs ∧ Okj zs i j) ∧ Below base w wr) (fun v _ => (intOf v).toNat)
      case atStart => exact ⟨i, zs, by omega, rfl, hown, ⟨hz.out.1, Okj.start hz.out.2⟩, hb⟩
      case round =>
        obtain ⟨j, zs, hji, rfl, hown, hz, hb⟩ := hrel
        have hll := hown.slice
        have hg := hown.lt
        by_cases hj0 : j = 0
        · have zb : decide (0 < j) = false := decide_eq_false (by omega)
          have hz := Lib.hid (And.intro hz.out.1 (Okj.stop hz.out.2 (.inl hj0)))
          clear hj0
          go_wp2_with fail
          go_quiet (first | (go_at_call 103; refine Calls.quiet_of_same (cmp_Less _ _ _)))
          go_wp2
          refine ⟨⟨i + 1, zs, by omega, by omega, by go_num, hown, hz.out, bdrewN hb _⟩, by simp [intOf]; omega⟩
        · have z1 : (0 : Int) < (j : Int) := by omega
          have z7 : 0 < j := by omega
          have z2 : (j : Int) < n := by omega
          have z3 : (0 : Int) ≤ (j : Int) - 1 := by omega
          have z4 : (j : Int) - 1 < n := by omega
          have z5 : (0 : Int) ≤ (j : Int) := by omega
          have z6 : ((j : Int) - 1).toNat = j - 1 := by omega
          have c1 := hown.cell (k := j) (by omega)
          have c2 := hown.cell (k := j - 1) (by omega)
          have c3 := hown.frozen j
          have c4 := hown.frozen (j - 1)
          by_cases hr : At zs j < At zs (j - 1)
          · have hok := Lib.hid (Okj.swp hz.out.2 (by omega) hji (by omega) hr)
            have hpm := Lib.hid ((swp_perm (zs := zs) (j := j) (by omega) (by omega)).trans hz.out.1)
            have hr' : decide (At zs j < At zs (j - 1)) = true := decide_eq_true hr
            clear hr
            go_wp2_with fail
            go_quiet (first | (go_at_call 103; refine Calls.quiet_of_same (cmp_Less _ _ _)))
            go_wp2_with fail
            have hown2 := hown.drewN nq
            have hb2 := bdrewN hb nq
            have c5 := hown2.cell (k := j) (by omega)
            have c6 := hown2.cell (k := j - 1) (by omega)
            have c7 := hown2.frozen j
            have c8 := hown2.frozen (j - 1)
            clear hown hb c1 c2 c3 c4
            generalize wr.drewN nq = wq at *
            have s1 := ((hown2.stored j (At zs (j - 1))).stored (j - 1) (At zs j))
            have s1 := Lib.hid s1
            go_region
            all_goals go_wp2
            refine ⟨⟨j - 1, swp zs j, by omega, by congr 1; omega, by unfold swp; exact s1.out.drewN 1, ⟨hpm.out, hok.out⟩, bdrewN ((hb2.setCell hg.1 _).setCell hg.1 _) 1⟩, by simp [intOf]; omega⟩
          · have hz := Lib.hid (And.intro hz.out.1 (Okj.stop hz.out.2 (.inr (by omega))))
            have hr' : decide (At zs j < At zs (j - 1)) = false := decide_eq_false hr
            clear hr
            go_wp2_with fail
            go_quiet (first | (go_at_call 103; refine Calls.quiet_of_same (cmp_Less _ _ _)))
            go_wp2
            refine ⟨⟨i + 1, zs, by omega, by omega, by go_num, hown, hz.out, bdrewN hb _⟩, by simp [intOf]; omega⟩
    · go_wp2_with fail
      go_end0
      have hz := hz.out
      exact ⟨rfl, zs, hown, hz.1, fun a b h1 h2 => hz.2 a b h1 (by omega), hb⟩

set_option maxRecDepth 100000 in
set_option maxHeartbeats 2000000 in
theorem sl_pdqsort (base g n cap : Nat) (l : Int) (xs : List Int) (w : World) (hown : OwnI w base (.slice (some ⟨g, 0, none⟩) n cap) xs) (hn : n ≤ 12) :
    Calls Try.prog 88 #[.slice (some ⟨g, 0, none⟩) n cap, .int .i64 0, .int .i64 n, .int .i64 l] w fun e w' => e = .returned (.tuple #[]) ∧ ∃ zs, OwnI w' base (.slice (some ⟨g, 0, none⟩) n cap) zs ∧ zs.Perm xs ∧ Ord zs n ∧ Below base w w' := by
  have hn' : (n : Int) ≤ 12 := by omega
  have hI := sl_insertionSort base g n cap xs w hown (by omega)
  go_enter Try.func88, Try.ntmps88
  go_wp2_with fail
  go_loopw [1, 2] (fun v1 v2 wr => v1 = .int .i64 0 ∧ v2 = .int .i64 n ∧ wr = w) (fun _ _ _ => 0)
  case atStart => exact ⟨rfl, rfl, rfl⟩
  case round =>
    obtain ⟨rfl, rfl, rfl⟩ := hrel
    go_wp2_with fail
    refine hI.mono ?_; rintro e w' ⟨rfl, hz⟩
    go_wp2_with fail
    refine bodyPost_ret (results_none rfl _ _ _) rfl ?_
    exact ⟨rfl, hz⟩
set_option maxRecDepth 100000 in
theorem sl_Len64 (n : Nat) (w : World) (hn : n ≤ 12) : Calls Try.prog 107 #[.int .u64 n] w fun e w' => (∃ l : Int, e = .returned (.int .i64 l)) ∧ w' = w := by
  have h : n = 0 ∨ n = 1 ∨ n = 2 ∨ n = 3 ∨ n = 4 ∨ n = 5 ∨ n = 6 ∨ n = 7 ∨ n = 8 ∨ n = 9 ∨ n = 10 ∨ n = 11 ∨ n = 12 := by omega
  rcases h with rfl | rfl | rfl | rfl | rfl | rfl | rfl | rfl | rfl | rfl | rfl | rfl | rfl
  all_goals (
    go_enter Try.func107, Try.ntmps107
    go_wp2_with fail
    go_ret
    exact ⟨⟨_, rfl⟩, rfl⟩)
theorem sl_Len (n : Nat) (w : World) (hn : n ≤ 12) : Calls Try.prog 89 #[.int .u64 n] w fun e w' => (∃ l : Int, e = .returned (.int .i64 l)) ∧ w' = w := by
  go_enter Try.func89, Try.ntmps89
  go_wp2_with fail
  refine (sl_Len64 n w hn).mono ?_; rintro e w' ⟨⟨l, rfl⟩, rfl⟩
  go_wp2_with fail
  go_ret
  exact ⟨⟨_, rfl⟩, rfl⟩
theorem sl_Sort (base g n cap : Nat) (xs : List Int) (w : World) (hown : OwnI w base (.slice (some ⟨g, 0, none⟩) n cap) xs) (hn : n ≤ 12) :
    Calls Try.prog 57 #[.slice (some ⟨g, 0, none⟩) n cap] w fun e w' => e = .returned (.tuple #[]) ∧ ∃ zs, OwnI w' base (.slice (some ⟨g, 0, none⟩) n cap) zs ∧ zs.Perm xs ∧ Ord zs n ∧ Below base w w' := by
  go_enter Try.func57, Try.ntmps57
  go_wp2_with fail
  refine (sl_Len n w hn).mono ?_; rintro e w' ⟨⟨l, rfl⟩, rfl⟩
  go_wp2_with fail
  refine (sl_pdqsort base g n cap l xs w' hown hn).mono ?_; rintro e w' ⟨rfl, hz⟩
  go_wp2_with fail
  go_end0
  exact ⟨rfl, hz⟩

/-- Whether a number is among the first k. -/
def hasTo (xs : List Int) (x : Int) (k : Nat) : Bool := (xs.take k).contains x
set_option maxRecDepth 100000 in
set_option maxHeartbeats 1000000 in
theorem sl_Index (A : Option Addr) (n : Nat) (xs : List Int) (ca : Nat) (x : Int) (w : World) (hx : Ints w A n xs) (hl : n ≤ 1000000) :
    Calls Try.prog 87 #[.slice A n ca, .int .i64 x] w fun e w' => ∃ i : Int, e = .returned (.int .i64 i) ∧ decide (0 ≤ i) = xs.contains x ∧ -1 ≤ i ∧ i ≤ 1000000 ∧ w' = w := by
  have hlen := hx.len
  go_enter Try.func87, Try.ntmps87
  go_wp2_with fail
  go_loopw [8] (fun i wr => ∃ k : Nat, k ≤ n ∧ i = .int .i64 k ∧ wr = w ∧ Hid (∀ j, j < k → At xs j ≠ x)) (fun i _ => n - (intOf i).toNat)
  case atStart => exact ⟨0, by omega, rfl, rfl, fun j h => by omega⟩
  case round =>
    obtain ⟨k, hk, rfl, rfl, hno⟩ := hrel
    by_cases hlt : k < n
    · obtain ⟨b, off, rfl, hb, hcl⟩ := hx.at_ hlt
      have hi0 : (0 : Int) ≤ (k : Int) := by omega
      have hi1 : (k : Int) < n := by omega
      by_cases hr : At xs k = x
      · have hm := Lib.hid (show xs.contains x = true by
          rw [List.contains_iff_mem, ← hr, At, List.getElem?_eq_getElem (by omega)]; exact List.getElem_mem _)
        have hr2 : (x == At xs k) = true := by rw [hr]; simp
        clear hr
        go_wp2_with fail
        go_ret
        exact ⟨_, rfl, by rw [hm.out]; simp, by omega, by omega, rfl⟩
      · have hr2 : (x == At xs k) = false := by rw [beq_eq_false_iff_ne]; exact Ne.symm hr
        have hno := Lib.hid (show ∀ j, j < k + 1 → At xs j ≠ x from fun j hj => by
          by_cases e : j = k
          · subst e; exact hr
          · exact hno.out j (by omega))
        clear hr
        go_wp2_with fail
        exact ⟨⟨k + 1, by omega, by go_num, trivial, hno.out⟩, by simp [intOf]; omega⟩
    · obtain rfl : k = n := by omega
      have he := Lib.hid (show xs.contains x = false by
        rw [Bool.eq_false_iff]
        intro h
        rw [List.contains_iff_mem] at h
        obtain ⟨j, hj, e⟩ := List.getElem_of_mem h
        refine hno.out j (by omega) ?_
        rw [At, List.getElem?_eq_getElem hj]; exact e)
      go_wp2_with fail
      go_ret
      exact ⟨-1, rfl, by rw [he.out]; rfl, by omega, by omega, rfl⟩
set_option maxHeartbeats 1000000 in
theorem sl_Contains (A : Option Addr) (n : Nat) (xs : List Int) (ca : Nat) (x : Int) (w : World) (hx : Ints w A n xs) (hl : n ≤ 1000000) :
    Calls Try.prog 56 #[.slice A n ca, .int .i64 x] w fun e w' => e = .returned (.bool (xs.contains x)) ∧ w' = w := by
  go_enter Try.func56, Try.ntmps56
  go_wp2_with fail
  refine (sl_Index A n xs ca x w hx hl).mono ?_; rintro e w' ⟨i, rfl, hi, h1, h2, rfl⟩
  have hi := Lib.hid hi
  go_wp2_with fail
  go_ret
  exact ⟨ret_bool (by simp), rfl⟩
end Go.Proofs.Ytjcoaicpeajpnaa
