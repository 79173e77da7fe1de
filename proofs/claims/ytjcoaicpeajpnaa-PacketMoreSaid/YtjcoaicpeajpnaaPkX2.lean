/- works(): the examples that end each statement. -/
import Derived.Test.YtjcoaicpeajpnaaPkX1
namespace Go.Proofs.Ytjcoaicpeajpnaa
open Go.RowKit Pk

theorem newInts (W : World) (xs : List Int) : Ints (W.alloc (.cells (xs.map (Value.int .i64)).toArray 3)) (some ⟨W.heap.size, 0, none⟩) xs.length xs :=
  ⟨rfl, fun k hk => ⟨W.heap.size, 0, rfl, by simp, by
    rw [Nat.zero_add, (Whole.new W 3 _).cell k]
    simp [At, hk]⟩⟩
theorem newInts1 (W : World) (o : Obj) (xs : List Int) : Ints ((W.alloc o).alloc (.cells (xs.map (Value.int .i64)).toArray 3)) (some ⟨W.heap.size + 1, 0, none⟩) xs.length xs := by
  have := newInts (W.alloc o) xs
  simpa using this
theorem bal1 {W w' : World} {o : Obj} (h : Below (W.heap.size + 1) (W.alloc o) w') : Below W.heap.size W w' :=
  ((Below.refl _ _).alloc (Nat.le_refl _) o).trans (h.mono (by omega))
theorem bal2 {W w' : World} {o o' : Obj} (h : Below (W.heap.size + 2) ((W.alloc o).alloc o') w') : Below W.heap.size W w' :=
  (((Below.refl _ _).alloc (Nat.le_refl _) o).alloc (by simp) o').trans (h.mono (by omega))

theorem k1 (W : World) : Calls Try.prog 28 #[.slice (some ⟨W.heap.size, 0, none⟩) 2 2] (W.alloc (.cells #[.int .i64 3, .int .i64 5] 3)) fun e w' => ∃ A c, e = .returned (.tuple #[.slice A 4 c, .int .i64 0]) ∧ Ints w' A 4 [1, 2, 4, 7] ∧ Below W.heap.size W w' := by
  refine (pk_Gaps _ 2 [3, 5] 2  _ (newInts W [3, 5]) (by decide)).mono ?_
  rintro e w1 ⟨A1, c1, rfl, hI, hb⟩
  rw [x1] at hI
  exact ⟨A1, c1, by rw [x1, x1e]; rfl, hI, bal1 (by simpa using hb)⟩

theorem k2 (W : World) : Calls Try.prog 30 #[.slice (some ⟨W.heap.size, 0, none⟩) 3 3] (W.alloc (.cells #[.int .i64 6, .int .i64 10, .int .i64 15] 3)) fun e w' => e = .returned (.tuple #[.int .i64 29, .int .i64 0]) ∧ Below W.heap.size W w' := by
  refine (pk_Greatest _ 3 [6, 10, 15] 3  _ (newInts W [6, 10, 15]) (by decide)).mono ?_
  rintro e w1 ⟨rfl, hb⟩
  exact ⟨by rw [x2, x2e], bal1 (by simpa using hb)⟩

theorem k3 (W : World) : Calls Try.prog 24 #[.slice (some ⟨W.heap.size, 0, none⟩) 3 3, .int .i64 0] (W.alloc (.cells #[.int .i64 6, .int .i64 10, .int .i64 15] 3)) fun e w' => ∃ A c, e = .returned (.tuple #[.slice A 6 c, .int .i64 0]) ∧ Ints w' A 6 [0, 25, 20, 15, 10, 35] ∧ Below W.heap.size W w' := by
  refine (pk_Remainders _ 3 [6, 10, 15] 3 0 _ (newInts W [6, 10, 15]) (by decide)).mono ?_
  rintro e w1 ⟨A1, c1, rfl, hI, hb⟩
  rw [x3] at hI
  exact ⟨A1, c1, by rw [x3, x3e]; rfl, hI, bal1 (by simpa using hb)⟩

theorem k4 (W : World) : Calls Try.prog 17 #[.slice (some ⟨W.heap.size, 0, none⟩) 3 3, .int .i64 31] (W.alloc (.cells #[.int .i64 6, .int .i64 10, .int .i64 15] 3)) fun e w' => e = .returned (.tuple #[.bool true, .int .i64 0]) ∧ Below W.heap.size W w' := by
  refine (pk_Can _ 3 [6, 10, 15] 3 31 _ (newInts W [6, 10, 15]) (by decide)).mono ?_
  rintro e w1 ⟨rfl, hb⟩
  exact ⟨by rw [x4, x4e], bal1 (by simpa using hb)⟩

theorem k5 (W : World) : Calls Try.prog 21 #[.slice (some ⟨W.heap.size, 0, none⟩) 3 3, .int .i64 29] (W.alloc (.cells #[.int .i64 6, .int .i64 10, .int .i64 15] 3)) fun e w' => e = .returned (.tuple #[.int .i64 5, .int .i64 35, .int .i64 0]) ∧ Below W.heap.size W w' := by
  refine (pk_Why _ 3 [6, 10, 15] 3 29 _ (newInts W [6, 10, 15]) (by decide)).mono ?_
  rintro e w1 ⟨rfl, hb⟩
  exact ⟨by rw [x5r, x5m, x5e], bal1 (by simpa using hb)⟩

theorem k6 (W : World) : Calls Try.prog 19 #[.slice (some ⟨W.heap.size, 0, none⟩) 3 3, .int .i64 8] (W.alloc (.cells #[.int .i64 1, .int .i64 4, .int .i64 6] 3)) fun e w' => ∃ A c, e = .returned (.tuple #[.slice A 3 c, .int .i64 0]) ∧ Ints w' A 3 [0, 2, 0] ∧ Below W.heap.size W w' := by
  refine (pk_Make _ 3 [1, 4, 6] 3 8 _ (newInts W [1, 4, 6]) (by decide)).mono ?_
  rintro e w1 ⟨A1, c1, rfl, hI, hb⟩
  rw [x6] at hI
  exact ⟨A1, c1, by rw [x6, x6e]; rfl, hI, bal1 (by simpa using hb)⟩

theorem k7 (W : World) : Calls Try.prog 34 #[.slice (some ⟨W.heap.size, 0, none⟩) 4 4] (W.alloc (.cells #[.int .i64 3, .int .i64 5, .int .i64 6, .int .i64 8] 3)) fun e w' => ∃ A c, e = .returned (.tuple #[.slice A 2 c, .int .i64 0]) ∧ Ints w' A 2 [0, 1] ∧ Below W.heap.size W w' := by
  refine (pk_Needed _ 4 [3, 5, 6, 8] 4  _ (newInts W [3, 5, 6, 8]) (by decide) (by decide) (by decide)).mono ?_
  rintro e w1 ⟨A1, c1, rfl, hI, hb⟩
  rw [x7] at hI
  exact ⟨A1, c1, by rw [x7, x7e]; rfl, hI, bal1 (by simpa using hb)⟩

theorem k8 (W : World) : Calls Try.prog 32 #[.slice (some ⟨W.heap.size, 0, none⟩) 3 3] (W.alloc (.cells #[.int .i64 3, .int .i64 4, .int .i64 5] 3)) fun e w' => e = .returned (.tuple #[.bool false, .int .i64 0]) ∧ Below W.heap.size W w' := by
  refine (pk_Even _ 3 [3, 4, 5] 3  _ (newInts W [3, 4, 5]) (by decide)).mono ?_
  rintro e w1 ⟨rfl, hb⟩
  exact ⟨by rw [x8, x8e], bal1 (by simpa using hb)⟩

theorem k9 (W : World) : Calls Try.prog 36 #[.slice (some ⟨W.heap.size, 0, none⟩) 2 2, .slice (some ⟨W.heap.size + 1, 0, none⟩) 2 2, .int .i64 11] ((W.alloc (.cells #[.int .i64 2, .int .i64 5] 3)).alloc (.cells #[.int .i64 3, .int .i64 2] 3)) fun e w' => ∃ A c, e = .returned (.tuple #[.slice A 2 c, .int .i64 0]) ∧ Ints w' A 2 [3, 1] ∧ Below W.heap.size W w' := by
  refine (pk_Fill _ _ 2 2 [2, 5] [3, 2] 2 2 11 _ ((newInts W [2, 5]).below ((Below.refl _ _).alloc (Nat.le_refl _) _)) (newInts1 W _ [3, 2]) (by decide) (by decide)).mono ?_
  rintro e w1 ⟨A1, c1, rfl, hI, hb⟩
  rw [x9] at hI
  exact ⟨A1, c1, by rw [x9, x9e]; rfl, hI, bal2 (by simpa using hb)⟩

theorem k10 (W : World) : Calls Try.prog 40 #[.slice (some ⟨W.heap.size, 0, none⟩) 2 2, .slice (some ⟨W.heap.size + 1, 0, none⟩) 2 2, .int .i64 10] ((W.alloc (.cells #[.int .i64 2, .int .i64 5] 3)).alloc (.cells #[.int .i64 5, .int .i64 2] 3)) fun e w' => e = .returned (.tuple #[.int .i64 2, .int .i64 0]) ∧ Below W.heap.size W w' := by
  refine (pk_Ways _ _ 2 2 [2, 5] [5, 2] 2 2 10 _ ((newInts W [2, 5]).below ((Below.refl _ _).alloc (Nat.le_refl _) _)) (newInts1 W _ [5, 2]) (by decide) (by decide)).mono ?_
  rintro e w1 ⟨rfl, hb⟩
  exact ⟨by rw [x10, x10e], bal2 (by simpa using hb)⟩

theorem k11 (W : World) : Calls Try.prog 46 #[.slice (some ⟨W.heap.size, 0, none⟩) 2 2, .slice (some ⟨W.heap.size + 1, 0, none⟩) 2 2, .int .i64 10, .int .i64 0] ((W.alloc (.cells #[.int .i64 2, .int .i64 5] 3)).alloc (.cells #[.int .i64 5, .int .i64 2] 3)) fun e w' => e = .returned (.tuple #[.int .i64 0, .int .i64 5, .int .i64 0]) ∧ Below W.heap.size W w' := by
  refine (pk_Span _ _ 2 2 [2, 5] [5, 2] 2 2 10 0 _ ((newInts W [2, 5]).below ((Below.refl _ _).alloc (Nat.le_refl _) _)) (newInts1 W _ [5, 2]) (by decide) (by decide)).mono ?_
  rintro e w1 ⟨rfl, hb⟩
  exact ⟨by rw [x11a, x11b, x11e], bal2 (by simpa using hb)⟩

theorem k12 (W : World) : Calls Try.prog 42 #[.slice (some ⟨W.heap.size, 0, none⟩) 2 2, .slice (some ⟨W.heap.size + 1, 0, none⟩) 2 2] ((W.alloc (.cells #[.int .i64 2, .int .i64 5] 3)).alloc (.cells #[.int .i64 1, .int .i64 1] 3)) fun e w' => ∃ A c, e = .returned (.tuple #[.slice A 4 c, .int .i64 0]) ∧ Ints w' A 4 [0, 2, 5, 7] ∧ Below W.heap.size W w' := by
  refine (pk_Totals _ _ 2 2 [2, 5] [1, 1] 2 2  _ ((newInts W [2, 5]).below ((Below.refl _ _).alloc (Nat.le_refl _) _)) (newInts1 W _ [1, 1]) (by decide) (by decide)).mono ?_
  rintro e w1 ⟨A1, c1, rfl, hI, hb⟩
  rw [x12] at hI
  exact ⟨A1, c1, by rw [x12, x12e]; rfl, hI, bal2 (by simpa using hb)⟩

theorem k13 (W : World) : Calls Try.prog 44 #[.slice (some ⟨W.heap.size, 0, none⟩) 2 2, .slice (some ⟨W.heap.size + 1, 0, none⟩) 2 2, .int .i64 3] ((W.alloc (.cells #[.int .i64 2, .int .i64 5] 3)).alloc (.cells #[.int .i64 1, .int .i64 1] 3)) fun e w' => e = .returned (.tuple #[.int .i64 5, .int .i64 0]) ∧ Below W.heap.size W w' := by
  refine (pk_Least _ _ 2 2 [2, 5] [1, 1] 2 2 3 _ ((newInts W [2, 5]).below ((Below.refl _ _).alloc (Nat.le_refl _) _)) (newInts1 W _ [1, 1]) (by decide) (by decide)).mono ?_
  rintro e w1 ⟨rfl, hb⟩
  exact ⟨by rw [x13, x13e], bal2 (by simpa using hb)⟩

theorem k14 (W : World) : Calls Try.prog 36 #[.slice (some ⟨W.heap.size, 0, none⟩) 2 2, .slice (some ⟨W.heap.size + 1, 0, none⟩) 2 2, .int .i64 13] ((W.alloc (.cells #[.int .i64 2, .int .i64 5] 3)).alloc (.cells #[.int .i64 3, .int .i64 2] 3)) fun e w' => ∃ A c, e = .returned (.tuple #[.slice A 0 c, .int .i64 12]) ∧ Ints w' A 0 [] ∧ Below W.heap.size W w' := by
  refine (pk_Fill _ _ 2 2 [2, 5] [3, 2] 2 2 13 _ ((newInts W [2, 5]).below ((Below.refl _ _).alloc (Nat.le_refl _) _)) (newInts1 W _ [3, 2]) (by decide) (by decide)).mono ?_
  rintro e w1 ⟨A1, c1, rfl, hI, hb⟩
  rw [x14] at hI
  exact ⟨A1, c1, by rw [x14, x14e]; rfl, hI, bal2 (by simpa using hb)⟩

end Go.Proofs.Ytjcoaicpeajpnaa
