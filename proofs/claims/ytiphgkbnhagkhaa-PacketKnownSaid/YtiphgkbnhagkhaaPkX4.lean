/- The examples of the chapter: the calls. -/
import Derived.Test.YtiphgkbnhagkhaaPkX3
namespace Go.Proofs.Ytiphgkbnhagkhaa
open Go.RowKit Pk
theorem p0_greV : greV [3, 5] = 7 := by decide +kernel
theorem p0_greE : greE [3, 5] = 0 := by decide +kernel
theorem p0 (W : World) : Calls Try.prog 30 #[.slice (some ⟨W.heap.size, 0, none⟩) 2 2] (W.alloc (.cells #[.int .i64 3, .int .i64 5] 3)) fun e w' => e = .returned (.tuple #[.int .i64 7, .int .i64 0]) ∧ Below W.heap.size W w' := by
  refine (pk_Greatest _ 2 [3, 5] 2  _ (newInts W [3, 5]) (by decide)).mono ?_
  rintro e w1 ⟨rfl, hb⟩
  exact ⟨by rw [p0_greV, p0_greE], bal1 (by simpa using hb)⟩
theorem p1_evnV : evnV [3, 5] = true := by decide +kernel
theorem p1_gapE : gapE [3, 5] = 0 := by decide +kernel
theorem p1 (W : World) : Calls Try.prog 32 #[.slice (some ⟨W.heap.size, 0, none⟩) 2 2] (W.alloc (.cells #[.int .i64 3, .int .i64 5] 3)) fun e w' => e = .returned (.tuple #[.bool true, .int .i64 0]) ∧ Below W.heap.size W w' := by
  refine (pk_Even _ 2 [3, 5] 2  _ (newInts W [3, 5]) (by decide)).mono ?_
  rintro e w1 ⟨rfl, hb⟩
  exact ⟨by rw [p1_evnV, p1_gapE], bal1 (by simpa using hb)⟩
theorem p2_gapV : gapV [4, 6] = [] := by decide +kernel
theorem p2_gapE : gapE [4, 6] = 15 := by decide +kernel
theorem p2 (W : World) : Calls Try.prog 28 #[.slice (some ⟨W.heap.size, 0, none⟩) 2 2] (W.alloc (.cells #[.int .i64 4, .int .i64 6] 3)) fun e w' => ∃ A c, e = .returned (.tuple #[.slice A 0 c, .int .i64 15]) ∧ Ints w' A 0 [] ∧ Below W.heap.size W w' := by
  refine (pk_Gaps _ 2 [4, 6] 2  _ (newInts W [4, 6]) (by decide)).mono ?_
  rintro e w1 ⟨A1, c1, rfl, hI, hb⟩
  rw [p2_gapV] at hI
  exact ⟨A1, c1, by rw [p2_gapV, p2_gapE]; rfl, hI, bal1 (by simpa using hb)⟩
theorem p3_gapV : gapV [1, 9] = [] := by decide +kernel
theorem p3_gapE : gapE [1, 9] = 0 := by decide +kernel
theorem p3 (W : World) : Calls Try.prog 28 #[.slice (some ⟨W.heap.size, 0, none⟩) 2 2] (W.alloc (.cells #[.int .i64 1, .int .i64 9] 3)) fun e w' => ∃ A c, e = .returned (.tuple #[.slice A 0 c, .int .i64 0]) ∧ Ints w' A 0 [] ∧ Below W.heap.size W w' := by
  refine (pk_Gaps _ 2 [1, 9] 2  _ (newInts W [1, 9]) (by decide)).mono ?_
  rintro e w1 ⟨A1, c1, rfl, hI, hb⟩
  rw [p3_gapV] at hI
  exact ⟨A1, c1, by rw [p3_gapV, p3_gapE]; rfl, hI, bal1 (by simpa using hb)⟩
theorem p4_greV : greV [1, 9] = 0 := by decide +kernel
theorem p4_greE : greE [1, 9] = 12 := by decide +kernel
theorem p4 (W : World) : Calls Try.prog 30 #[.slice (some ⟨W.heap.size, 0, none⟩) 2 2] (W.alloc (.cells #[.int .i64 1, .int .i64 9] 3)) fun e w' => e = .returned (.tuple #[.int .i64 0, .int .i64 12]) ∧ Below W.heap.size W w' := by
  refine (pk_Greatest _ 2 [1, 9] 2  _ (newInts W [1, 9]) (by decide)).mono ?_
  rintro e w1 ⟨rfl, hb⟩
  exact ⟨by rw [p4_greV, p4_greE], bal1 (by simpa using hb)⟩
theorem p5_whyR : whyR [4, 6] 7 = 3 := by decide +kernel
theorem p5_whyM : whyM [4, 6] 7 = (-1) := by decide +kernel
theorem p5_whyE : whyE [4, 6] 7 = 0 := by decide +kernel
theorem p5 (W : World) : Calls Try.prog 21 #[.slice (some ⟨W.heap.size, 0, none⟩) 2 2, .int .i64 7] (W.alloc (.cells #[.int .i64 4, .int .i64 6] 3)) fun e w' => e = .returned (.tuple #[.int .i64 3, .int .i64 (-1), .int .i64 0]) ∧ Below W.heap.size W w' := by
  refine (pk_Why _ 2 [4, 6] 2 7 _ (newInts W [4, 6]) (by decide)).mono ?_
  rintro e w1 ⟨rfl, hb⟩
  exact ⟨by rw [p5_whyR, p5_whyM, p5_whyE], bal1 (by simpa using hb)⟩
theorem p6_whyR : whyR [6, 10, 15] 25 = 0 := by decide +kernel
theorem p6_whyM : whyM [6, 10, 15] 25 = 0 := by decide +kernel
theorem p6_whyE : whyE [6, 10, 15] 25 = 13 := by decide +kernel
theorem p6 (W : World) : Calls Try.prog 21 #[.slice (some ⟨W.heap.size, 0, none⟩) 3 3, .int .i64 25] (W.alloc (.cells #[.int .i64 6, .int .i64 10, .int .i64 15] 3)) fun e w' => e = .returned (.tuple #[.int .i64 0, .int .i64 0, .int .i64 13]) ∧ Below W.heap.size W w' := by
  refine (pk_Why _ 3 [6, 10, 15] 3 25 _ (newInts W [6, 10, 15]) (by decide)).mono ?_
  rintro e w1 ⟨rfl, hb⟩
  exact ⟨by rw [p6_whyR, p6_whyM, p6_whyE], bal1 (by simpa using hb)⟩
theorem p7_makL : makL [6, 10, 15] 31 = [1, 1, 1] := by decide +kernel
theorem p7_makE : makE [6, 10, 15] 31 = 0 := by decide +kernel
theorem p7 (W : World) : Calls Try.prog 19 #[.slice (some ⟨W.heap.size, 0, none⟩) 3 3, .int .i64 31] (W.alloc (.cells #[.int .i64 6, .int .i64 10, .int .i64 15] 3)) fun e w' => ∃ A c, e = .returned (.tuple #[.slice A 3 c, .int .i64 0]) ∧ Ints w' A 3 [1, 1, 1] ∧ Below W.heap.size W w' := by
  refine (pk_Make _ 3 [6, 10, 15] 3 31 _ (newInts W [6, 10, 15]) (by decide)).mono ?_
  rintro e w1 ⟨A1, c1, rfl, hI, hb⟩
  rw [p7_makL] at hI
  exact ⟨A1, c1, by rw [p7_makL, p7_makE]; rfl, hI, bal1 (by simpa using hb)⟩
theorem p8_makL : makL [3, 5] 15 = [0, 3] := by decide +kernel
theorem p8_makE : makE [3, 5] 15 = 0 := by decide +kernel
theorem p8 (W : World) : Calls Try.prog 19 #[.slice (some ⟨W.heap.size, 0, none⟩) 2 2, .int .i64 15] (W.alloc (.cells #[.int .i64 3, .int .i64 5] 3)) fun e w' => ∃ A c, e = .returned (.tuple #[.slice A 2 c, .int .i64 0]) ∧ Ints w' A 2 [0, 3] ∧ Below W.heap.size W w' := by
  refine (pk_Make _ 2 [3, 5] 2 15 _ (newInts W [3, 5]) (by decide)).mono ?_
  rintro e w1 ⟨A1, c1, rfl, hI, hb⟩
  rw [p8_makL] at hI
  exact ⟨A1, c1, by rw [p8_makL, p8_makE]; rfl, hI, bal1 (by simpa using hb)⟩
theorem p9_filL : filL [2, 5] [3, 2] 10 = [0, 2] := by decide +kernel
theorem p9_filE : filE [2, 5] [3, 2] 10 = 0 := by decide +kernel
theorem p9 (W : World) : Calls Try.prog 36 #[.slice (some ⟨W.heap.size, 0, none⟩) 2 2, .slice (some ⟨W.heap.size + 1, 0, none⟩) 2 2, .int .i64 10] ((W.alloc (.cells #[.int .i64 2, .int .i64 5] 3)).alloc (.cells #[.int .i64 3, .int .i64 2] 3)) fun e w' => ∃ A c, e = .returned (.tuple #[.slice A 2 c, .int .i64 0]) ∧ Ints w' A 2 [0, 2] ∧ Below W.heap.size W w' := by
  refine (pk_Fill _ _ 2 2 [2, 5] [3, 2] 2 2 10 _ ((newInts W [2, 5]).below ((Below.refl _ _).alloc (Nat.le_refl _) _)) (newInts1 W _ [3, 2]) (by decide) (by decide)).mono ?_
  rintro e w1 ⟨A1, c1, rfl, hI, hb⟩
  rw [p9_filL] at hI
  exact ⟨A1, c1, by rw [p9_filL, p9_filE]; rfl, hI, bal2 (by simpa using hb)⟩
theorem p10_filL : filL [2, 5] [3, 2] 15 = [] := by decide +kernel
theorem p10_filE : filE [2, 5] [3, 2] 15 = 12 := by decide +kernel
theorem p10 (W : World) : Calls Try.prog 36 #[.slice (some ⟨W.heap.size, 0, none⟩) 2 2, .slice (some ⟨W.heap.size + 1, 0, none⟩) 2 2, .int .i64 15] ((W.alloc (.cells #[.int .i64 2, .int .i64 5] 3)).alloc (.cells #[.int .i64 3, .int .i64 2] 3)) fun e w' => ∃ A c, e = .returned (.tuple #[.slice A 0 c, .int .i64 12]) ∧ Ints w' A 0 [] ∧ Below W.heap.size W w' := by
  refine (pk_Fill _ _ 2 2 [2, 5] [3, 2] 2 2 15 _ ((newInts W [2, 5]).below ((Below.refl _ _).alloc (Nat.le_refl _) _)) (newInts1 W _ [3, 2]) (by decide) (by decide)).mono ?_
  rintro e w1 ⟨A1, c1, rfl, hI, hb⟩
  rw [p10_filL] at hI
  exact ⟨A1, c1, by rw [p10_filL, p10_filE]; rfl, hI, bal2 (by simpa using hb)⟩
theorem p11_leaV : leaV [2, 5] [1, 1] 8 = 0 := by decide +kernel
theorem p11_leaE : leaE [2, 5] [1, 1] 8 = 12 := by decide +kernel
theorem p11 (W : World) : Calls Try.prog 44 #[.slice (some ⟨W.heap.size, 0, none⟩) 2 2, .slice (some ⟨W.heap.size + 1, 0, none⟩) 2 2, .int .i64 8] ((W.alloc (.cells #[.int .i64 2, .int .i64 5] 3)).alloc (.cells #[.int .i64 1, .int .i64 1] 3)) fun e w' => e = .returned (.tuple #[.int .i64 0, .int .i64 12]) ∧ Below W.heap.size W w' := by
  refine (pk_Least _ _ 2 2 [2, 5] [1, 1] 2 2 8 _ ((newInts W [2, 5]).below ((Below.refl _ _).alloc (Nat.le_refl _) _)) (newInts1 W _ [1, 1]) (by decide) (by decide)).mono ?_
  rintro e w1 ⟨rfl, hb⟩
  exact ⟨by rw [p11_leaV, p11_leaE], bal2 (by simpa using hb)⟩
theorem q7 (W : World) (A : Option Addr) (c : Nat) (hI : Ints W A 3 [1, 1, 1]) : Calls Try.prog 23 #[.slice A 3 c, .slice (some ⟨W.heap.size, 0, none⟩) 3 3] (W.alloc (.cells #[.int .i64 1, .int .i64 1, .int .i64 1] 3)) fun e w' => e = .returned (.bool true) ∧ Below W.heap.size W w' := by
  refine (lw_same A _ 3 3 [1, 1, 1] [1, 1, 1] c 3 _ (hI.below ((Below.refl _ _).alloc (Nat.le_refl _) _)) (newInts W [1, 1, 1]) (by decide) (by decide)).mono ?_
  rintro e w1 ⟨rfl, j, rfl⟩
  exact ⟨by simp, bdrewN ((Below.refl _ _).alloc (Nat.le_refl _) _) j⟩
theorem q8 (W : World) (A : Option Addr) (c : Nat) (hI : Ints W A 2 [0, 3]) : Calls Try.prog 23 #[.slice A 2 c, .slice (some ⟨W.heap.size, 0, none⟩) 2 2] (W.alloc (.cells #[.int .i64 0, .int .i64 3] 3)) fun e w' => e = .returned (.bool true) ∧ Below W.heap.size W w' := by
  refine (lw_same A _ 2 2 [0, 3] [0, 3] c 2 _ (hI.below ((Below.refl _ _).alloc (Nat.le_refl _) _)) (newInts W [0, 3]) (by decide) (by decide)).mono ?_
  rintro e w1 ⟨rfl, j, rfl⟩
  exact ⟨by simp, bdrewN ((Below.refl _ _).alloc (Nat.le_refl _) _) j⟩
theorem q9 (W : World) (A : Option Addr) (c : Nat) (hI : Ints W A 2 [0, 2]) : Calls Try.prog 23 #[.slice A 2 c, .slice (some ⟨W.heap.size, 0, none⟩) 2 2] (W.alloc (.cells #[.int .i64 0, .int .i64 2] 3)) fun e w' => e = .returned (.bool true) ∧ Below W.heap.size W w' := by
  refine (lw_same A _ 2 2 [0, 2] [0, 2] c 2 _ (hI.below ((Below.refl _ _).alloc (Nat.le_refl _) _)) (newInts W [0, 2]) (by decide) (by decide)).mono ?_
  rintro e w1 ⟨rfl, j, rfl⟩
  exact ⟨by simp, bdrewN ((Below.refl _ _).alloc (Nat.le_refl _) _) j⟩
theorem r0 (W : World) : Calls Try.prog 26 #[.slice none 0 0] W fun e w' => e = .returned (.int .i64 4) ∧ W = w' := by
  have h := pk_Check none 0 [] 0 W (Ints.nil_ _ _) (by decide)
  rw [show chk [] = 4 by decide +kernel] at h
  exact h
theorem r1 (W : World) : Calls Try.prog 26 #[.slice (some ⟨W.heap.size, 0, none⟩) 2 2] (W.alloc (.cells #[.int .i64 5, .int .i64 5] 3)) fun e w' => e = .returned (.int .i64 7) ∧ Below W.heap.size W w' := by
  refine (pk_Check _ 2 [5, 5] 2 _ (newInts W [5, 5]) (by decide)).mono ?_
  rintro e w1 ⟨rfl, rfl⟩
  exact ⟨by rw [show chk [5, 5] = 7 by decide +kernel], (Below.refl _ _).alloc (Nat.le_refl _) _⟩
theorem r2 (W : World) : Calls Try.prog 26 #[.slice (some ⟨W.heap.size, 0, none⟩) 1 1] (W.alloc (.cells #[.int .i64 31] 3)) fun e w' => e = .returned (.int .i64 1) ∧ Below W.heap.size W w' := by
  refine (pk_Check _ 1 [31] 1 _ (newInts W [31]) (by decide)).mono ?_
  rintro e w1 ⟨rfl, rfl⟩
  exact ⟨by rw [show chk [31] = 1 by decide +kernel], (Below.refl _ _).alloc (Nat.le_refl _) _⟩
set_option maxRecDepth 100000 in
set_option maxHeartbeats 4000000 in
theorem lw_Known (w : World) : Calls Try.prog 14 #[] w fun e w' => e = .returned (.bool true) ∧ Below w.heap.size w w' := by
  go_enter Try.func14, Try.ntmps14
  go_wp2_with fail
  refine (lw_list _ _).mono ?_; rintro e w' ⟨rfl, rfl⟩
  go_wp2_with fail
  refine (p0 _).mono ?_; rintro e w0 ⟨rfl, hb0⟩
  have HB := hb0
  go_wp2_with fail
  refine (lw_list _ _).mono ?_; rintro e w' ⟨rfl, rfl⟩
  go_wp2_with fail
  refine (p1 _).mono ?_; rintro e w1 ⟨rfl, hb1⟩
  replace HB := HB.trans (hb1.mono HB.size)
  clear hb1
  go_wp2_with fail
  refine (lw_list _ _).mono ?_; rintro e w' ⟨rfl, rfl⟩
  go_wp2_with fail
  refine (p2 _).mono ?_; rintro e w2 ⟨A2, c2, rfl, hI2, hb2⟩
  replace HB := HB.trans (hb2.mono HB.size)
  clear hb2
  go_wp2_with fail
  refine (lw_list _ _).mono ?_; rintro e w' ⟨rfl, rfl⟩
  go_wp2_with fail
  refine (p3 _).mono ?_; rintro e w3 ⟨A3, c3, rfl, hI3, hb3⟩
  replace HB := HB.trans (hb3.mono HB.size)
  clear hb3
  go_wp2_with fail
  refine (lw_list _ _).mono ?_; rintro e w' ⟨rfl, rfl⟩
  go_wp2_with fail
  refine (p4 _).mono ?_; rintro e w4 ⟨rfl, hb4⟩
  replace HB := HB.trans (hb4.mono HB.size)
  clear hb4
  go_wp2_with fail
  refine (lw_list _ _).mono ?_; rintro e w' ⟨rfl, rfl⟩
  go_wp2_with fail
  refine (p5 _).mono ?_; rintro e w5 ⟨rfl, hb5⟩
  replace HB := HB.trans (hb5.mono HB.size)
  clear hb5
  go_wp2_with fail
  refine (lw_list _ _).mono ?_; rintro e w' ⟨rfl, rfl⟩
  go_wp2_with fail
  refine (p6 _).mono ?_; rintro e w6 ⟨rfl, hb6⟩
  replace HB := HB.trans (hb6.mono HB.size)
  clear hb6
  go_wp2_with fail
  refine (lw_list _ _).mono ?_; rintro e w' ⟨rfl, rfl⟩
  go_wp2_with fail
  refine (p7 _).mono ?_; rintro e w7 ⟨A7, c7, rfl, hI7, hb7⟩
  replace HB := HB.trans (hb7.mono HB.size)
  clear hb7
  go_wp2_with fail
  refine (lw_list _ _).mono ?_; rintro e w' ⟨rfl, rfl⟩
  go_wp2_with fail
  refine (p8 _).mono ?_; rintro e w8 ⟨A8, c8, rfl, hI8, hb8⟩
  replace hI7 := hI7.below hb8
  replace HB := HB.trans (hb8.mono HB.size)
  clear hb8
  go_wp2_with fail
  refine (lw_list _ _).mono ?_; rintro e w' ⟨rfl, rfl⟩
  go_wp2_with fail
  refine (lw_list _ _).mono ?_; rintro e w' ⟨rfl, rfl⟩
  go_wp2_with fail
  refine (p9 _).mono ?_; rintro e w9 ⟨A9, c9, rfl, hI9, hb9⟩
  replace hI7 := hI7.below hb9
  replace hI8 := hI8.below hb9
  replace HB := HB.trans (hb9.mono HB.size)
  clear hb9
  go_wp2_with fail
  refine (lw_list _ _).mono ?_; rintro e w' ⟨rfl, rfl⟩
  go_wp2_with fail
  refine (lw_list _ _).mono ?_; rintro e w' ⟨rfl, rfl⟩
  go_wp2_with fail
  refine (p10 _).mono ?_; rintro e w10 ⟨A10, c10, rfl, hI10, hb10⟩
  replace hI7 := hI7.below hb10
  replace hI8 := hI8.below hb10
  replace hI9 := hI9.below hb10
  replace HB := HB.trans (hb10.mono HB.size)
  clear hb10
  go_wp2_with fail
  refine (lw_list _ _).mono ?_; rintro e w' ⟨rfl, rfl⟩
  go_wp2_with fail
  refine (lw_list _ _).mono ?_; rintro e w' ⟨rfl, rfl⟩
  go_wp2_with fail
  refine (p11 _).mono ?_; rintro e w11 ⟨rfl, hb11⟩
  replace hI7 := hI7.below hb11
  replace hI8 := hI8.below hb11
  replace hI9 := hI9.below hb11
  replace HB := HB.trans (hb11.mono HB.size)
  clear hb11
  go_wp2_with fail
  refine (lw_list _ _).mono ?_; rintro e w' ⟨rfl, rfl⟩
  go_wp2_with fail
  refine (q7 _ _ _ hI7).mono ?_; rintro e v7 ⟨rfl, hb7⟩
  replace hI8 := hI8.below hb7
  replace hI9 := hI9.below hb7
  replace HB := HB.trans (hb7.mono HB.size)
  clear hb7
  go_wp2_with fail
  refine (lw_list _ _).mono ?_; rintro e w' ⟨rfl, rfl⟩
  go_wp2_with fail
  refine (q8 _ _ _ hI8).mono ?_; rintro e v8 ⟨rfl, hb8⟩
  replace hI9 := hI9.below hb8
  replace HB := HB.trans (hb8.mono HB.size)
  clear hb8
  go_wp2_with fail
  refine (lw_list _ _).mono ?_; rintro e w' ⟨rfl, rfl⟩
  go_wp2_with fail
  refine (q9 _ _ _ hI9).mono ?_; rintro e v9 ⟨rfl, hb9⟩
  replace HB := HB.trans (hb9.mono HB.size)
  clear hb9
  go_wp2_with fail
  refine (r0 _).mono ?_; rintro e w' ⟨rfl, rfl⟩
  go_wp2_with fail
  refine (lw_list _ _).mono ?_; rintro e w' ⟨rfl, rfl⟩
  go_wp2_with fail
  refine (r1 _).mono ?_; rintro e v1 ⟨rfl, hb1⟩
  replace HB := HB.trans (hb1.mono HB.size)
  clear hb1
  go_wp2_with fail
  refine (lw_list _ _).mono ?_; rintro e w' ⟨rfl, rfl⟩
  go_wp2_with fail
  refine (r2 _).mono ?_; rintro e v2 ⟨rfl, hb2⟩
  replace HB := HB.trans (hb2.mono HB.size)
  clear hb2
  go_wp2_with fail
  refine (lw_works _).mono ?_; rintro e v3 ⟨rfl, hb3⟩
  replace HB := HB.trans (hb3.mono HB.size)
  clear hb3
  go_wp2_with fail
  go_ret
  exact ⟨rfl, HB⟩
end Go.Proofs.Ytiphgkbnhagkhaa
