/- works() returns true. -/
import Derived.Test.YtjcoaicpeajpnaaPkX2
namespace Go.Proofs.Ytjcoaicpeajpnaa
open Go.RowKit Pk
theorem s1 (W : World) (A : Option Addr) (c : Nat) (hI : Ints W A 4 [1, 2, 4, 7]) : Calls Try.prog 23 #[.slice A 4 c, .slice (some ⟨W.heap.size, 0, none⟩) 4 4] (W.alloc (.cells #[.int .i64 1, .int .i64 2, .int .i64 4, .int .i64 7] 3)) fun e w' => e = .returned (.bool true) ∧ Below W.heap.size W w' := by
  refine (lw_same A _ 4 4 [1, 2, 4, 7] [1, 2, 4, 7] c 4 _ (hI.below ((Below.refl _ _).alloc (Nat.le_refl _) _)) (newInts W [1, 2, 4, 7]) (by decide) (by decide)).mono ?_
  rintro e w1 ⟨rfl, j, rfl⟩
  exact ⟨by simp, bdrewN ((Below.refl _ _).alloc (Nat.le_refl _) _) j⟩
theorem s3 (W : World) (A : Option Addr) (c : Nat) (hI : Ints W A 6 [0, 25, 20, 15, 10, 35]) : Calls Try.prog 23 #[.slice A 6 c, .slice (some ⟨W.heap.size, 0, none⟩) 6 6] (W.alloc (.cells #[.int .i64 0, .int .i64 25, .int .i64 20, .int .i64 15, .int .i64 10, .int .i64 35] 3)) fun e w' => e = .returned (.bool true) ∧ Below W.heap.size W w' := by
  refine (lw_same A _ 6 6 [0, 25, 20, 15, 10, 35] [0, 25, 20, 15, 10, 35] c 6 _ (hI.below ((Below.refl _ _).alloc (Nat.le_refl _) _)) (newInts W [0, 25, 20, 15, 10, 35]) (by decide) (by decide)).mono ?_
  rintro e w1 ⟨rfl, j, rfl⟩
  exact ⟨by simp, bdrewN ((Below.refl _ _).alloc (Nat.le_refl _) _) j⟩
theorem s6 (W : World) (A : Option Addr) (c : Nat) (hI : Ints W A 3 [0, 2, 0]) : Calls Try.prog 23 #[.slice A 3 c, .slice (some ⟨W.heap.size, 0, none⟩) 3 3] (W.alloc (.cells #[.int .i64 0, .int .i64 2, .int .i64 0] 3)) fun e w' => e = .returned (.bool true) ∧ Below W.heap.size W w' := by
  refine (lw_same A _ 3 3 [0, 2, 0] [0, 2, 0] c 3 _ (hI.below ((Below.refl _ _).alloc (Nat.le_refl _) _)) (newInts W [0, 2, 0]) (by decide) (by decide)).mono ?_
  rintro e w1 ⟨rfl, j, rfl⟩
  exact ⟨by simp, bdrewN ((Below.refl _ _).alloc (Nat.le_refl _) _) j⟩
theorem s7 (W : World) (A : Option Addr) (c : Nat) (hI : Ints W A 2 [0, 1]) : Calls Try.prog 23 #[.slice A 2 c, .slice (some ⟨W.heap.size, 0, none⟩) 2 2] (W.alloc (.cells #[.int .i64 0, .int .i64 1] 3)) fun e w' => e = .returned (.bool true) ∧ Below W.heap.size W w' := by
  refine (lw_same A _ 2 2 [0, 1] [0, 1] c 2 _ (hI.below ((Below.refl _ _).alloc (Nat.le_refl _) _)) (newInts W [0, 1]) (by decide) (by decide)).mono ?_
  rintro e w1 ⟨rfl, j, rfl⟩
  exact ⟨by simp, bdrewN ((Below.refl _ _).alloc (Nat.le_refl _) _) j⟩
theorem s9 (W : World) (A : Option Addr) (c : Nat) (hI : Ints W A 2 [3, 1]) : Calls Try.prog 23 #[.slice A 2 c, .slice (some ⟨W.heap.size, 0, none⟩) 2 2] (W.alloc (.cells #[.int .i64 3, .int .i64 1] 3)) fun e w' => e = .returned (.bool true) ∧ Below W.heap.size W w' := by
  refine (lw_same A _ 2 2 [3, 1] [3, 1] c 2 _ (hI.below ((Below.refl _ _).alloc (Nat.le_refl _) _)) (newInts W [3, 1]) (by decide) (by decide)).mono ?_
  rintro e w1 ⟨rfl, j, rfl⟩
  exact ⟨by simp, bdrewN ((Below.refl _ _).alloc (Nat.le_refl _) _) j⟩
theorem s12 (W : World) (A : Option Addr) (c : Nat) (hI : Ints W A 4 [0, 2, 5, 7]) : Calls Try.prog 23 #[.slice A 4 c, .slice (some ⟨W.heap.size, 0, none⟩) 4 4] (W.alloc (.cells #[.int .i64 0, .int .i64 2, .int .i64 5, .int .i64 7] 3)) fun e w' => e = .returned (.bool true) ∧ Below W.heap.size W w' := by
  refine (lw_same A _ 4 4 [0, 2, 5, 7] [0, 2, 5, 7] c 4 _ (hI.below ((Below.refl _ _).alloc (Nat.le_refl _) _)) (newInts W [0, 2, 5, 7]) (by decide) (by decide)).mono ?_
  rintro e w1 ⟨rfl, j, rfl⟩
  exact ⟨by simp, bdrewN ((Below.refl _ _).alloc (Nat.le_refl _) _) j⟩
set_option maxRecDepth 100000 in
set_option maxHeartbeats 4000000 in
theorem lw_works (w : World) : Calls Try.prog 16 #[] w fun e w' => e = .returned (.bool true) ∧ Below w.heap.size w w' := by
  go_enter Try.func16, Try.ntmps16
  go_wp2_with fail
  refine (lw_list _ _).mono ?_; rintro e w' ⟨rfl, rfl⟩
  go_wp2_with fail
  refine (k1 _).mono ?_; rintro e w1 ⟨A1, c1, rfl, hI1, hb1⟩
  have HB := hb1
  go_wp2_with fail
  refine (lw_list _ _).mono ?_; rintro e w' ⟨rfl, rfl⟩
  go_wp2_with fail
  refine (k2 _).mono ?_; rintro e w2 ⟨rfl, hb2⟩
  replace hI1 := hI1.below hb2
  replace HB := HB.trans (hb2.mono HB.size)
  clear hb2
  go_wp2_with fail
  refine (lw_list _ _).mono ?_; rintro e w' ⟨rfl, rfl⟩
  go_wp2_with fail
  refine (k3 _).mono ?_; rintro e w3 ⟨A3, c3, rfl, hI3, hb3⟩
  replace hI1 := hI1.below hb3
  replace HB := HB.trans (hb3.mono HB.size)
  clear hb3
  go_wp2_with fail
  refine (lw_list _ _).mono ?_; rintro e w' ⟨rfl, rfl⟩
  go_wp2_with fail
  refine (k4 _).mono ?_; rintro e w4 ⟨rfl, hb4⟩
  replace hI1 := hI1.below hb4
  replace hI3 := hI3.below hb4
  replace HB := HB.trans (hb4.mono HB.size)
  clear hb4
  go_wp2_with fail
  refine (lw_list _ _).mono ?_; rintro e w' ⟨rfl, rfl⟩
  go_wp2_with fail
  refine (k5 _).mono ?_; rintro e w5 ⟨rfl, hb5⟩
  replace hI1 := hI1.below hb5
  replace hI3 := hI3.below hb5
  replace HB := HB.trans (hb5.mono HB.size)
  clear hb5
  go_wp2_with fail
  refine (lw_list _ _).mono ?_; rintro e w' ⟨rfl, rfl⟩
  go_wp2_with fail
  refine (k6 _).mono ?_; rintro e w6 ⟨A6, c6, rfl, hI6, hb6⟩
  replace hI1 := hI1.below hb6
  replace hI3 := hI3.below hb6
  replace HB := HB.trans (hb6.mono HB.size)
  clear hb6
  go_wp2_with fail
  refine (lw_list _ _).mono ?_; rintro e w' ⟨rfl, rfl⟩
  go_wp2_with fail
  refine (k7 _).mono ?_; rintro e w7 ⟨A7, c7, rfl, hI7, hb7⟩
  replace hI1 := hI1.below hb7
  replace hI3 := hI3.below hb7
  replace hI6 := hI6.below hb7
  replace HB := HB.trans (hb7.mono HB.size)
  clear hb7
  go_wp2_with fail
  refine (lw_list _ _).mono ?_; rintro e w' ⟨rfl, rfl⟩
  go_wp2_with fail
  refine (k8 _).mono ?_; rintro e w8 ⟨rfl, hb8⟩
  replace hI1 := hI1.below hb8
  replace hI3 := hI3.below hb8
  replace hI6 := hI6.below hb8
  replace hI7 := hI7.below hb8
  replace HB := HB.trans (hb8.mono HB.size)
  clear hb8
  go_wp2_with fail
  refine (lw_list _ _).mono ?_; rintro e w' ⟨rfl, rfl⟩
  go_wp2_with fail
  refine (lw_list _ _).mono ?_; rintro e w' ⟨rfl, rfl⟩
  go_wp2_with fail
  refine (k9 _).mono ?_; rintro e w9 ⟨A9, c9, rfl, hI9, hb9⟩
  replace hI1 := hI1.below hb9
  replace hI3 := hI3.below hb9
  replace hI6 := hI6.below hb9
  replace hI7 := hI7.below hb9
  replace HB := HB.trans (hb9.mono HB.size)
  clear hb9
  go_wp2_with fail
  refine (lw_list _ _).mono ?_; rintro e w' ⟨rfl, rfl⟩
  go_wp2_with fail
  refine (lw_list _ _).mono ?_; rintro e w' ⟨rfl, rfl⟩
  go_wp2_with fail
  refine (k10 _).mono ?_; rintro e w10 ⟨rfl, hb10⟩
  replace hI1 := hI1.below hb10
  replace hI3 := hI3.below hb10
  replace hI6 := hI6.below hb10
  replace hI7 := hI7.below hb10
  replace hI9 := hI9.below hb10
  replace HB := HB.trans (hb10.mono HB.size)
  clear hb10
  go_wp2_with fail
  refine (lw_list _ _).mono ?_; rintro e w' ⟨rfl, rfl⟩
  go_wp2_with fail
  refine (lw_list _ _).mono ?_; rintro e w' ⟨rfl, rfl⟩
  go_wp2_with fail
  refine (k11 _).mono ?_; rintro e w11 ⟨rfl, hb11⟩
  replace hI1 := hI1.below hb11
  replace hI3 := hI3.below hb11
  replace hI6 := hI6.below hb11
  replace hI7 := hI7.below hb11
  replace hI9 := hI9.below hb11
  replace HB := HB.trans (hb11.mono HB.size)
  clear hb11
  go_wp2_with fail
  refine (lw_list _ _).mono ?_; rintro e w' ⟨rfl, rfl⟩
  go_wp2_with fail
  refine (lw_list _ _).mono ?_; rintro e w' ⟨rfl, rfl⟩
  go_wp2_with fail
  refine (k12 _).mono ?_; rintro e w12 ⟨A12, c12, rfl, hI12, hb12⟩
  replace hI1 := hI1.below hb12
  replace hI3 := hI3.below hb12
  replace hI6 := hI6.below hb12
  replace hI7 := hI7.below hb12
  replace hI9 := hI9.below hb12
  replace HB := HB.trans (hb12.mono HB.size)
  clear hb12
  go_wp2_with fail
  refine (lw_list _ _).mono ?_; rintro e w' ⟨rfl, rfl⟩
  go_wp2_with fail
  refine (lw_list _ _).mono ?_; rintro e w' ⟨rfl, rfl⟩
  go_wp2_with fail
  refine (k13 _).mono ?_; rintro e w13 ⟨rfl, hb13⟩
  replace hI1 := hI1.below hb13
  replace hI3 := hI3.below hb13
  replace hI6 := hI6.below hb13
  replace hI7 := hI7.below hb13
  replace hI9 := hI9.below hb13
  replace hI12 := hI12.below hb13
  replace HB := HB.trans (hb13.mono HB.size)
  clear hb13
  go_wp2_with fail
  refine (lw_list _ _).mono ?_; rintro e w' ⟨rfl, rfl⟩
  go_wp2_with fail
  refine (lw_list _ _).mono ?_; rintro e w' ⟨rfl, rfl⟩
  go_wp2_with fail
  refine (k14 _).mono ?_; rintro e w14 ⟨A14, c14, rfl, hI14, hb14⟩
  replace hI1 := hI1.below hb14
  replace hI3 := hI3.below hb14
  replace hI6 := hI6.below hb14
  replace hI7 := hI7.below hb14
  replace hI9 := hI9.below hb14
  replace hI12 := hI12.below hb14
  replace HB := HB.trans (hb14.mono HB.size)
  clear hb14
  go_wp2_with fail
  refine (lw_list _ _).mono ?_; rintro e w' ⟨rfl, rfl⟩
  go_wp2_with fail
  refine (s1 _ _ _ hI1).mono ?_; rintro e v1 ⟨rfl, hb1⟩
  replace hI3 := hI3.below hb1
  replace hI6 := hI6.below hb1
  replace hI7 := hI7.below hb1
  replace hI9 := hI9.below hb1
  replace hI12 := hI12.below hb1
  replace HB := HB.trans (hb1.mono HB.size)
  clear hb1
  go_wp2_with fail
  refine (lw_list _ _).mono ?_; rintro e w' ⟨rfl, rfl⟩
  go_wp2_with fail
  refine (s3 _ _ _ hI3).mono ?_; rintro e v3 ⟨rfl, hb3⟩
  replace hI6 := hI6.below hb3
  replace hI7 := hI7.below hb3
  replace hI9 := hI9.below hb3
  replace hI12 := hI12.below hb3
  replace HB := HB.trans (hb3.mono HB.size)
  clear hb3
  go_wp2_with fail
  refine (lw_list _ _).mono ?_; rintro e w' ⟨rfl, rfl⟩
  go_wp2_with fail
  refine (s6 _ _ _ hI6).mono ?_; rintro e v6 ⟨rfl, hb6⟩
  replace hI7 := hI7.below hb6
  replace hI9 := hI9.below hb6
  replace hI12 := hI12.below hb6
  replace HB := HB.trans (hb6.mono HB.size)
  clear hb6
  go_wp2_with fail
  refine (lw_list _ _).mono ?_; rintro e w' ⟨rfl, rfl⟩
  go_wp2_with fail
  refine (s7 _ _ _ hI7).mono ?_; rintro e v7 ⟨rfl, hb7⟩
  replace hI9 := hI9.below hb7
  replace hI12 := hI12.below hb7
  replace HB := HB.trans (hb7.mono HB.size)
  clear hb7
  go_wp2_with fail
  refine (lw_list _ _).mono ?_; rintro e w' ⟨rfl, rfl⟩
  go_wp2_with fail
  refine (s9 _ _ _ hI9).mono ?_; rintro e v9 ⟨rfl, hb9⟩
  replace hI12 := hI12.below hb9
  replace HB := HB.trans (hb9.mono HB.size)
  clear hb9
  go_wp2_with fail
  refine (lw_list _ _).mono ?_; rintro e w' ⟨rfl, rfl⟩
  go_wp2_with fail
  refine (s12 _ _ _ hI12).mono ?_; rintro e v12 ⟨rfl, hb12⟩
  replace HB := HB.trans (hb12.mono HB.size)
  clear hb12
  go_wp2_with fail
  go_ret
  exact ⟨rfl, HB⟩
end Go.Proofs.Ytjcoaicpeajpnaa
