/- The walk of PacketRemainders. -/
import Derived.Test.YtjcoaicpeajpnaaLwGaps
import Derived.Test.YtjcoaicpeajpnaaLwShelf
import Derived.Test.YtjcoaicpeajpnaaSyT
namespace Go.Proofs.Ytjcoaicpeajpnaa
open Go.RowKit Pk

def finTo (f : Nat → Int) : Nat → Bool
  | 0 => true
  | k + 1 => finTo f k && decide (0 ≤ f k)
theorem finTo_all {f : Nat → Int} : ∀ {k : Nat}, (∀ i, i < k → 0 ≤ f i) → finTo f k = true
  | 0, _ => rfl
  | k + 1, h => by rw [finTo, finTo_all (fun i hi => h i (by omega)), decide_eq_true (h k (by omega))]; rfl
theorem finTo_at {f : Nat → Int} : ∀ {k : Nat}, finTo f k = true → ∀ i, i < k → 0 ≤ f i
  | 0, _, i, h => by omega
  | k + 1, h, i, hi => by
    rw [finTo, Bool.and_eq_true, decide_eq_true_eq] at h
    by_cases e : i = k
    · subst e; exact h.2
    · exact finTo_at h.1 i (by omega)
theorem fin_common {ps : List Nat} {s : Nat} (hsP : s ∈ ps) (hp : ∀ x ∈ ps, 0 < x ∧ x ≤ 30) : finTo (fm ps s) s = !decide (1 < G ps) := by
  by_cases hg : 1 < G ps
  · obtain ⟨h1, h2⟩ := fm_inf hsP hp hg
    rw [decide_eq_true hg, Bool.not_true, Bool.eq_false_iff]
    intro h
    have := finTo_at h 1 h1
    omega
  · rw [decide_eq_false hg]
    exact finTo_all fun i hi => fm_fin hsP hp hg hi

/-- Where the search for the smallest number with a remainder stands. -/
def Srch (ps : List Nat) (s r x : Nat) (v : Int) : Prop :=
  (v = -1 ∧ x % s = r ∧ ∀ y, y < x → y % s = r → rB ps y = false) ∨ (v = fmF 2001 ps s r ∧ 0 ≤ v)
theorem Srch.miss {ps : List Nat} {s r x : Nat} (h : Srch ps s r x (-1)) (hb : rB ps x = false) : Srch ps s r (x + s) (-1) := by
  rcases h with ⟨_, h1, h2⟩ | ⟨_, h⟩
  · refine .inl ⟨rfl, by rw [Nat.add_mod_right]; exact h1, fun y hy he => ?_⟩
    rcases Nat.lt_trichotomy y x with h | h | h
    · exact h2 y h he
    · rw [h]; exact hb
    · have := mod_gap h1 he h; omega
  · omega
theorem Srch.hit {ps : List Nat} {s r x : Nat} (h : Srch ps s r x (-1)) (hx : x < 2001) (hb : rB ps x = true) : Srch ps s r (x + s) (x : Int) := by
  rcases h with ⟨_, h1, h2⟩ | ⟨_, h⟩
  · exact .inr ⟨(fmF_hit hx h1 hb h2).symm, by omega⟩
  · omega
theorem Srch.stop {ps : List Nat} {s r x : Nat} {v : Int} (h : Srch ps s r x v) (hx : 2001 ≤ x ∨ 0 ≤ v) : v = fmF 2001 ps s r := by
  rcases h with ⟨h0, h1, h2⟩ | ⟨h, _⟩
  · rcases hx with hx | hx
    · rw [fmF_none fun y hy he => h2 y (by omega) he]; exact h0
    · omega
  · exact h
theorem Srch.cases_ {ps : List Nat} {s r x : Nat} {v : Int} (h : Srch ps s r x v) : v = -1 ∨ ∃ y : Nat, v = y := by
  rcases h with ⟨h0, _, _⟩ | ⟨_, h⟩
  · exact .inl h0
  · exact .inr ⟨v.toNat, by omega⟩

theorem fmL_len (ps : List Nat) (s : Nat) : (fmL ps s).length = s := by simp [fmL]
theorem fmL_at {ps : List Nat} {s r : Nat} (h : r < s) : At (fmL ps s) r = fm ps s r := by simp [At, fmL, h]

theorem gap_inf {ps : List Nat} (hc : chk (ps.map Int.ofNat) = 0) (hg : 1 < G ps) : gapE (ps.map Int.ofNat) = 15 ∧ gapV (ps.map Int.ofNat) = [] ∧ greE (ps.map Int.ofNat) = 15 ∧ greV (ps.map Int.ofNat) = 0 := by
  have h1 : gapE (ps.map Int.ofNat) = 15 := by rw [gapE, if_pos hc, natL_map, if_pos hg]
  have h2 : gapV (ps.map Int.ofNat) = [] := by rw [gapV, h1]; rfl
  have h3 : greE (ps.map Int.ofNat) = 15 := by rw [greE, h1]; rfl
  exact ⟨h1, h2, h3, by rw [greV, h3]; rfl⟩
theorem gap_fin {ps : List Nat} (hc : chk (ps.map Int.ofNat) = 0) (hg : ¬ 1 < G ps) : gapE (ps.map Int.ofNat) = 0 ∧ gapV (ps.map Int.ofNat) = gapL ps 1001 := by
  have h1 : gapE (ps.map Int.ofNat) = 0 := by rw [gapE, if_pos hc, natL_map, if_neg hg]
  exact ⟨h1, by rw [gapV, if_pos h1, natL_map]⟩
theorem gre_none {ps : List Nat} (hc : chk (ps.map Int.ofNat) = 0) (hg : ¬ 1 < G ps) (h0 : (gapL ps 1001).length = 0) : greE (ps.map Int.ofNat) = 12 ∧ greV (ps.map Int.ofNat) = 0 := by
  obtain ⟨h1, h2⟩ := gap_fin hc hg
  have h3 : greE (ps.map Int.ofNat) = 12 := by rw [greE, if_pos h1, h2, if_pos h0]
  exact ⟨h3, by rw [greV, h3]; rfl⟩
theorem gre_some {ps : List Nat} (hc : chk (ps.map Int.ofNat) = 0) (hg : ¬ 1 < G ps) (h0 : (gapL ps 1001).length ≠ 0) : greE (ps.map Int.ofNat) = 0 ∧ greV (ps.map Int.ofNat) = At (gapL ps 1001) ((gapL ps 1001).length - 1) := by
  obtain ⟨h1, h2⟩ := gap_fin hc hg
  have h3 : greE (ps.map Int.ofNat) = 0 := by rw [greE, if_pos h1, h2, if_neg h0]
  exact ⟨h3, by rw [greV, if_pos h3, h2]⟩

set_option maxRecDepth 100000 in
set_option maxHeartbeats 40000000 in
theorem lw_PacketRemainders (z : Nat → Nat) (hz : ∀ i, z i ≤ 255) (p q : Nat) (hp : p ≤ 255) (hq : q ≤ 65535) (w : World) :
    Calls Try.prog 8 #[.agg (shA z), .int .u8 p, .int .u16 q] w fun e w' => e = .returned (.bool true) ∧ Below w.heap.size w w' := by
  have kM := fun W => lw_made z hz 30 1 (by omega) (by omega) (by omega) W
  have HB := (Below.refl w.heap.size w).alloc (Nat.le_refl _) (.cells (shA z) 53)
  simp only [shA] at kM HB ⊢
  go_enter Try.func8, Try.ntmps8
  go_wp2_with fail
  refine (kM _).mono ?_; rintro e w1 ⟨A, c, B, d, n, ps, cs, rfl, HN, _, hS, _, hnc, hcm, d1⟩
  replace HB := HB.trans (d1.mono HB.size)
  clear kM d1
  obtain ⟨k, ek, lk⟩ : ∃ k : Nat, ((p : Nat) : Int) % (n : Int) = (k : Int) ∧ k < n := ⟨p % n, by simp, Nat.mod_lt _ (by have := hS.2.1; omega)⟩
  obtain ⟨m, em, lm⟩ : ∃ m : Nat, ((q : Nat) : Int) % 1001 = (m : Int) ∧ m ≤ 1000 := ⟨q % 1001, by simp, Nat.le_of_lt_succ (Nat.mod_lt _ (by omega))⟩
  have hn1 := hS.2.1
  have hn4 := hS.2.2.1
  have hchk := hS.chk (by omega)
  have hp30 : ∀ x ∈ ps, 0 < x ∧ x ≤ 30 := fun x hx => by have := hS.2.2.2.2 x hx; omega
  have hsP : NAt ps k ∈ ps := NAt_mem (by rw [hS.1]; exact lk)
  have hs := hp30 _ hsP
  have HX := HN.ints
  obtain ⟨b0, o0, rfl, hb0, hc0⟩ := HN.at_ lk
  have z1 : (0 : Int) ≤ (k : Int) := by omega
  have z2 : (k : Int) < n := by omega
  have z3 : (0 : Int) < (n : Int) := by omega
  obtain ⟨s, es⟩ : ∃ s, NAt ps k = s := ⟨_, rfl⟩
  have kR := pk_Remainders (some ⟨b0, o0, none⟩) n (ps.map Int.ofNat) c k w1 HX (by omega)
  have hl : (ps.map Int.ofNat).length = n := by rw [List.length_map]; exact hS.1
  have er : remE (ps.map Int.ofNat) k = 0 := by rw [remE, if_pos hchk, hl, isIx, decide_eq_true z1, decide_eq_true z2]; rfl
  have el : remL (ps.map Int.ofNat) k = fmL ps s := by rw [remL, if_pos er, natL_map, Int.toNat_natCast, es]
  rw [er, el] at kR
  rw [es] at hc0 hs hsP
  clear er el lk
  go_wp2_with fail
  simp only [ek, em]
  clear ek em
  refine kR.mono ?_; rintro e w2 ⟨Al, cl, rfl, HL, d1⟩
  rw [fmL_len] at HL ⊢
  have kC := fun N W (h : Nats W (some ⟨b0, o0, none⟩) n ps) (hN : N ≤ 20000) => lw_reach (some ⟨b0, o0, none⟩) n ps c N W h (fun x hx => by have := hp30 x hx; omega) (by omega) hN
  replace HX := HX.below d1; replace HN := HN.below d1; replace HB := HB.trans (d1.mono HB.size)
  clear d1 kR hc0 hb0
  go_wp2_with fail
  refine (kC 2000 _ HN (by omega)).mono ?_; rintro e w3 ⟨c3, rfl, HR, d1⟩
  replace HX := HX.below d1; replace HN := HN.below d1; replace HL := HL.below d1; replace HB := HB.trans (d1.mono HB.size)
  clear d1 kC
  have hfl := fun r => fm_le (r := r) hsP hp30
  go_wp2_with fail
  go_loopw [15, 16, 17, 67] (fun v1 v2 v3 q wr => ∃ r : Nat, r ≤ s ∧ q = .int .i64 r ∧ v1 = .int .i64 (sumI (fm ps s) r) ∧ v2 = .int .i64 (topI (fm ps s) s r) ∧ v3 = .bool (finTo (fm ps s) r) ∧ wr = w3) (fun _ _ _ q _ => s - (intOf q).toNat)
  case atStart => exact ⟨0, by omega, rfl, rfl, rfl, rfl, rfl⟩
  case round =>
    obtain ⟨r, hr, rfl, rfl, rfl, rfl, rfl⟩ := hrel
    by_cases hlt : r < s
    · obtain ⟨bl, ol, rfl, hbl, hcl⟩ := HL.at_ hlt
      rw [fmL_at hlt] at hcl
      have y1 : (0 : Int) ≤ (r : Int) := by omega
      have y2 : (r : Int) < s := by omega
      have y3 : (0 : Int) < (s : Int) := by omega
      have hf := hfl r
      have hsum := sumI_bound (f := fm ps s) (B := 900) (fun i => by have := hfl i; omega) r
      have htop1 := topI_low (fm ps s) s r
      have htop2 := topI_le (f := fm ps s) (s := s) (B := 900) (by omega) (k := r) (fun i _ => by have := hfl i; omega)
      have hne := Lib.hid (show ∀ v x, Srch ps s r x v → (2001 ≤ x ∨ 0 ≤ v) → v = fm ps s r from fun v x h h' => (h.stop h').trans (fmF_late hsP hp30 (by omega)))
      have hS1 := Lib.hid (show sumI (fm ps s) (r + 1) = sumI (fm ps s) r + fm ps s r from rfl)
      have hT1 := Lib.hid (show topI (fm ps s) s (r + 1) = max (topI (fm ps s) s r) (fm ps s r - s) from rfl)
      have hF1 := Lib.hid (show finTo (fm ps s) (r + 1) = (finTo (fm ps s) r && decide (0 ≤ fm ps s r)) from rfl)
      have hsrch := Lib.hid (show Srch ps s r r (-1) from .inl ⟨rfl, Nat.mod_eq_of_lt hlt, fun y hy he => by rw [Nat.mod_eq_of_lt (by omega)] at he; omega⟩)
      have hfit : sumI (fm ps s) r ≤ 27000 ∧ -27000 ≤ sumI (fm ps s) r := by omega
      clear hsum
      generalize fm ps s r = f at *
      generalize sumI (fm ps s) r = sm at *
      generalize topI (fm ps s) s r = tp at *
      generalize finTo (fm ps s) r = fin at *
      go_wp2_with fail
      go_loopw [20, 21] (fun v x w' => ∃ (a : Int) (y : Nat), v = .int .i64 a ∧ x = .int .i64 y ∧ Hid (Srch ps s r y a) ∧ y ≤ 2031 ∧ w' = wr) (fun _ x _ => 2032 - (intOf x).toNat)
      case atStart => exact ⟨-1, r, rfl, rfl, hsrch.out, by omega, rfl⟩
      case round =>
        obtain ⟨a, y, rfl, rfl, hst, hy, rfl⟩ := hrel
        by_cases hy2 : y < 2001
        · have x1 : (0 : Int) ≤ (y : Int) := by omega
          have x2 : (y : Int) < 2001 := by omega
          rcases hst.out.cases_ with rfl | ⟨e, rfl⟩
          · obtain ⟨bq, oq, eq0, hbq, hcq⟩ := HR.at_ (k := y) (by omega)
            cases eq0
            rw [Nat.zero_add] at hcq
            cases hb : rB ps y with
            | false =>
              have hnx := Lib.hid (hst.out.miss hb)
              rw [hb] at hcq
              clear hb
              go_wp2_with fail
              exact ⟨⟨-1, y + s, rfl, by go_num, hnx.out, by omega, trivial⟩, by simp [intOf]; omega⟩
            | true =>
              have hnx := Lib.hid (hst.out.hit hy2 hb)
              rw [hb] at hcq
              clear hb
              go_wp2_with fail
              exact ⟨⟨y, y + s, rfl, by go_num, hnx.out, by omega, trivial⟩, by simp [intOf]; omega⟩
          · have x3 : ¬ (e : Int) < 0 := by omega
            have hef := hne.out _ _ hst.out (.inr (by omega))
            clear hst hne hsrch
            subst hef
            cases fin
            all_goals (
              go_wp2_with fail
              exact ⟨⟨r + 1, by omega, by go_num, by rw [hS1.out], by rw [hT1.out]; congr 1; split <;> omega, by rw [hF1.out]; simp, trivial⟩, by simp [intOf]; omega⟩)
        · have hef := hne.out _ _ hst.out (.inl (by omega))
          clear hst hne hsrch
          subst hef
          have x2 : ¬ (y : Int) < 2001 := by omega
          cases fin
          all_goals (
            go_wp2_with fail
            exact ⟨⟨r + 1, by omega, by go_num, by rw [hS1.out], by rw [hT1.out]; congr 1; split <;> omega, by rw [hF1.out]; simp, trivial⟩, by simp [intOf]; omega⟩)
    · obtain rfl : s = r := by omega
      clear HL hfl
      have hN0 : chkN (ps.map Int.ofNat) m = 0 := by rw [chkN, if_pos hchk, tot, if_neg (by omega)]
      have e0 : canV (ps.map Int.ofNat) m = rB ps m := by rw [canV, if_pos hN0, natL_map, Int.toNat_natCast]
      have kC := fun W (h : Ints W (some ⟨b0, o0, none⟩) n (ps.map Int.ofNat)) => pk_Can (some ⟨b0, o0, none⟩) n _ c m W h (by omega)
      have kW := fun W (h : Ints W (some ⟨b0, o0, none⟩) n (ps.map Int.ofNat)) => pk_Why (some ⟨b0, o0, none⟩) n _ c m W h (by omega)
      have kG := fun W (h : Ints W (some ⟨b0, o0, none⟩) n (ps.map Int.ofNat)) => pk_Gaps (some ⟨b0, o0, none⟩) n _ c W h (by omega)
      have kT := fun W (h : Ints W (some ⟨b0, o0, none⟩) n (ps.map Int.ofNat)) => pk_Greatest (some ⟨b0, o0, none⟩) n _ c W h (by omega)
      have kD := fun W (h : Nats W (some ⟨b0, o0, none⟩) n ps) => lw_common (some ⟨b0, o0, none⟩) n _ c W h (by omega) (by omega) (fun x hx => by have := hp30 x hx; omega)
      have hfc := fin_common hsP hp30
      rw [e0, hN0] at kC
      obtain ⟨s0, es0⟩ : ∃ x, NAt ps 0 = x := ⟨_, rfl⟩
      have hsP0 : s0 ∈ ps := by rw [← es0]; exact NAt_mem (by rw [hS.1]; omega)
      have hs0 := hp30 _ hsP0
      have hm0 : (0 : Int) ≤ (m : Int) := by omega
      have hm1 : (m : Int) < 2001 := by omega
      have hsw := Lib.hid trivial
      clear hsw
      by_cases hg : 1 < G ps
      · obtain ⟨g1, g2, g3, g4⟩ := gap_inf hchk hg
        simp only [g1, g2, g3, g4] at kG kT
        rw [decide_eq_true hg] at kD hfc
        clear hg g1 g2 g3 g4
        cases hm : rB ps m with
        | true =>
          have w1 : whyE (ps.map Int.ofNat) m = 13 := by rw [whyE, if_pos hN0, natL_map, Int.toNat_natCast, hm]; rfl
          have w2 : whyR (ps.map Int.ofNat) m = 0 := by rw [whyR, w1]; rfl
          have w3 : whyM (ps.map Int.ofNat) m = 0 := by rw [whyM, w1]; rfl
          rw [w1, w2, w3] at kW
          rw [hm] at kC
          clear w1 w2 w3
          go_wp2_with fail
          refine (kC _ HX).mono ?_; rintro e w4 ⟨rfl, d1⟩
          replace HX := HX.below d1; replace HN := HN.below d1; replace HR := HR.below d1; replace HB := HB.trans (d1.mono HB.size); clear d1
          go_wp2_with fail
          refine (kW _ HX).mono ?_; rintro e w5 ⟨rfl, d1⟩
          replace HX := HX.below d1; replace HN := HN.below d1; replace HR := HR.below d1; replace HB := HB.trans (d1.mono HB.size); clear d1
          obtain ⟨bq, oq, eq0, hbq, hcq⟩ := HR.at_ (k := m) (by omega)
          cases eq0
          rw [Nat.zero_add, hm] at hcq
          clear hm
          go_wp2_with fail
          refine (kG _ HX).mono ?_; rintro e w6 ⟨Ag, cg, rfl, HG, d1⟩
          replace HX := HX.below d1; replace HN := HN.below d1; replace HB := HB.trans (d1.mono HB.size); clear d1
          go_wp2_with fail
          refine (kT _ HX).mono ?_; rintro e w7 ⟨rfl, d1⟩
          replace HN := HN.below d1; replace HB := HB.trans (d1.mono HB.size); clear d1
          go_wp2_with fail
          refine (kD _ HN).mono ?_; rintro e w8 ⟨rfl, d1⟩
          replace HB := HB.trans (d1.mono HB.size); clear d1
          go_wp2_with fail
          refine (lw_works _).mono ?_; rintro e w9 ⟨rfl, d1⟩
          replace HB := HB.trans (d1.mono HB.size); clear d1
          go_wp2_with fail
          go_ret
          exact ⟨rfl, HB⟩
        | false =>
          have w1 : whyE (ps.map Int.ofNat) m = 0 := by rw [whyE, if_pos hN0, natL_map, Int.toNat_natCast, hm]; rfl
          have w2 : whyR (ps.map Int.ofNat) m = ((m % s0 : Nat) : Int) := by rw [whyR, if_pos w1, natL_map, Int.toNat_natCast, es0]
          have w3 : whyM (ps.map Int.ofNat) m = fm ps s0 (m % s0) := by rw [whyM, if_pos w1, natL_map, Int.toNat_natCast, es0]
          have hbad := (not_congr (fm_rB (n := m) hsP0 hp30)).1 (by rw [hm]; simp)
          have hfm := fm_le (r := m % s0) hsP0 hp30
          have lr := Nat.mod_lt m hs0.1
          have er : (m : Int) % (s0 : Int) = ((m % s0 : Nat) : Int) := by simp
          have hlate := fmF_late (N := 2001) (r := m % s0) hsP0 hp30 (by omega)
          have hmr : m % s0 ≤ m := Nat.mod_le m s0
          have hmm := Nat.mod_mod m s0
          rw [w1, w2, w3] at kW
          rw [hm] at kC
          generalize m % s0 = r0 at *
          generalize fm ps s0 r0 = f0 at *
          clear w1 w2 w3
          obtain ⟨b1, o1, eq1, hb1, hc1⟩ := HN.at_ (k := 0) (by omega)
          cases eq1
          go_wp2_with fail
          refine (kC _ HX).mono ?_; rintro e w4 ⟨rfl, d1⟩
          replace HX := HX.below d1; replace HN := HN.below d1; replace HR := HR.below d1; replace HB := HB.trans (d1.mono HB.size); clear d1
          go_wp2_with fail
          refine (kW _ HX).mono ?_; rintro e w5 ⟨rfl, d1⟩
          replace HX := HX.below d1; replace HN := HN.below d1; replace HR := HR.below d1; replace HB := HB.trans (d1.mono HB.size); clear d1
          obtain ⟨bq, oq, eq0, hbq, hcq⟩ := HR.at_ (k := m) (by omega)
          cases eq0
          obtain ⟨b1, o1, eq1, hb1, hc1⟩ := HN.at_ (k := 0) (by omega)
          cases eq1
          rw [Nat.zero_add, hm] at hcq
          rw [Nat.add_zero, es0] at hc1
          have v1 : (0 : Int) < (s0 : Int) := by omega
          clear hm
          go_wp2_with fail
          simp only [er]
          have er := Lib.hid er
          go_loopw [26, 27] (fun v x wr => ∃ (a : Int) (y : Nat), v = .int .i64 a ∧ x = .int .i64 y ∧ Hid (Srch ps s0 r0 y a) ∧ y ≤ 2031 ∧ wr = w5) (fun _ x _ => 2032 - (intOf x).toNat)
          case atStart => exact ⟨-1, r0, rfl, rfl, .inl ⟨rfl, hmm, fun y hy he => by rw [Nat.mod_eq_of_lt (by omega)] at he; omega⟩, by omega, rfl⟩
          case round =>
            obtain ⟨a, y, rfl, rfl, hst, hy, rfl⟩ := hrel
            have x1 : (0 : Int) ≤ (y : Int) := by omega
            by_cases hgo : y < 2001 ∧ a = -1
            · obtain ⟨hy2, rfl⟩ := hgo
              have x2 : (y : Int) < 2001 := by omega
              obtain ⟨bz, oz, eq2, hbz, hcz⟩ := HR.at_ (k := y) (by omega)
              cases eq2
              rw [Nat.zero_add] at hcz
              cases hb : rB ps y with
              | false =>
                have hnx := Lib.hid (hst.out.miss hb)
                rw [hb] at hcz
                clear hb
                go_wp2_with fail
                exact ⟨⟨-1, y + s0, rfl, by go_num, hnx.out, by omega, trivial⟩, by simp [intOf]; omega⟩
              | true =>
                have hnx := Lib.hid (hst.out.hit hy2 hb)
                rw [hb] at hcz
                clear hb
                go_wp2_with fail
                exact ⟨⟨y, y + s0, rfl, by go_num, hnx.out, by omega, trivial⟩, by simp [intOf]; omega⟩
            · have hca := hst.out.cases_
              have hef : a = f0 := (hst.out.stop (by rcases hca with h | ⟨e, h⟩; exact .inl (by omega); exact .inr (by omega))).trans hlate
              clear hst hlate hmm
              subst hef
              have er := er.out
              rcases hca with rfl | ⟨e, rfl⟩
              · have x2 : ¬ (y : Int) < 2001 := by omega
                clear hgo
                go_wp2_with fail
                refine (kG _ HX).mono ?_; rintro e w6 ⟨Ag, cg, rfl, HG, d1⟩
                replace HX := HX.below d1; replace HN := HN.below d1; replace HB := HB.trans (d1.mono HB.size); clear d1
                go_wp2_with fail
                refine (kT _ HX).mono ?_; rintro e w7 ⟨rfl, d1⟩
                replace HN := HN.below d1; replace HB := HB.trans (d1.mono HB.size); clear d1
                go_wp2_with fail
                refine (kD _ HN).mono ?_; rintro e w8 ⟨rfl, d1⟩
                replace HB := HB.trans (d1.mono HB.size); clear d1
                go_wp2_with fail
                refine (lw_works _).mono ?_; rintro e w9 ⟨rfl, d1⟩
                replace HB := HB.trans (d1.mono HB.size); clear d1
                go_wp2_with fail
                go_ret
                exact ⟨rfl, HB⟩
              · have x3 : ¬ (e : Int) < 0 := by omega
                have x4 : (0 : Int) ≤ (e : Int) := by omega
                have x5 : ¬ (e : Int) ≤ (m : Int) := by omega
                clear hgo hbad
                by_cases hy2 : (y : Int) < 2001
                · go_wp2_with fail
                  refine (kG _ HX).mono ?_; rintro e w6 ⟨Ag, cg, rfl, HG, d1⟩
                  replace HX := HX.below d1; replace HN := HN.below d1; replace HB := HB.trans (d1.mono HB.size); clear d1
                  go_wp2_with fail
                  refine (kT _ HX).mono ?_; rintro e w7 ⟨rfl, d1⟩
                  replace HN := HN.below d1; replace HB := HB.trans (d1.mono HB.size); clear d1
                  go_wp2_with fail
                  refine (kD _ HN).mono ?_; rintro e w8 ⟨rfl, d1⟩
                  replace HB := HB.trans (d1.mono HB.size); clear d1
                  go_wp2_with fail
                  refine (lw_works _).mono ?_; rintro e w9 ⟨rfl, d1⟩
                  replace HB := HB.trans (d1.mono HB.size); clear d1
                  go_wp2_with fail
                  go_ret
                  exact ⟨rfl, HB⟩
                · go_wp2_with fail
                  refine (kG _ HX).mono ?_; rintro e w6 ⟨Ag, cg, rfl, HG, d1⟩
                  replace HX := HX.below d1; replace HN := HN.below d1; replace HB := HB.trans (d1.mono HB.size); clear d1
                  go_wp2_with fail
                  refine (kT _ HX).mono ?_; rintro e w7 ⟨rfl, d1⟩
                  replace HN := HN.below d1; replace HB := HB.trans (d1.mono HB.size); clear d1
                  go_wp2_with fail
                  refine (kD _ HN).mono ?_; rintro e w8 ⟨rfl, d1⟩
                  replace HB := HB.trans (d1.mono HB.size); clear d1
                  go_wp2_with fail
                  refine (lw_works _).mono ?_; rintro e w9 ⟨rfl, d1⟩
                  replace HB := HB.trans (d1.mono HB.size); clear d1
                  go_wp2_with fail
                  go_ret
                  exact ⟨rfl, HB⟩
      · obtain ⟨g1, g2⟩ := gap_fin hchk hg
        have q1 := rem_count (N := 1001) hsP hp30 hg (by omega)
        obtain ⟨q2, q3⟩ := rem_top (N := 1001) hsP hp30 hg (by omega)
        have hsum := sumI_bound (f := fm ps s) (B := 900) (fun i => by have := fm_le (r := i) hsP hp30; omega) s
        have hpr : (s : Int) * ((s : Int) - 1) ≤ 870 ∧ 0 ≤ (s : Int) * ((s : Int) - 1) := by
          have h1 := Int.mul_le_mul (show (s : Int) ≤ 30 by omega) (show (s : Int) - 1 ≤ 29 by omega) (by omega) (by omega)
          have h2 := Int.mul_nonneg (show (0 : Int) ≤ s by omega) (show (0 : Int) ≤ (s : Int) - 1 by omega)
          omega
        rw [decide_eq_false hg] at kD hfc
        by_cases h0 : (gapL ps 1001).length = 0
        · obtain ⟨g3, g4⟩ := gre_none hchk hg h0
          have q2 := q2 h0
          simp only [g1, g2, g3, g4] at kG kT
          rw [h0] at q1
          obtain ⟨Q, hQ⟩ : ∃ Q : Int, (s : Int) * ((s : Int) - 1) = 2 * Q := ⟨sumI (fm ps s) s, by omega⟩
          have eQ : ((s : Int) * ((s : Int) - 1)).tdiv 2 = Q := by rw [hQ]; exact Int.mul_tdiv_cancel_left Q (by omega)
          have eS : sumI (fm ps s) s = Q := by omega
          clear hg g1 g2 g3 g4 q1 q3 hsum
          cases hm : rB ps m with
          | true =>
            have w1 : whyE (ps.map Int.ofNat) m = 13 := by rw [whyE, if_pos hN0, natL_map, Int.toNat_natCast, hm]; rfl
            have w2 : whyR (ps.map Int.ofNat) m = 0 := by rw [whyR, w1]; rfl
            have w3 : whyM (ps.map Int.ofNat) m = 0 := by rw [whyM, w1]; rfl
            rw [w1, w2, w3] at kW
            rw [hm] at kC
            clear w1 w2 w3
            go_wp2_with fail
            refine (kC _ HX).mono ?_; rintro e w4 ⟨rfl, d1⟩
            replace HX := HX.below d1; replace HN := HN.below d1; replace HR := HR.below d1; replace HB := HB.trans (d1.mono HB.size); clear d1
            go_wp2_with fail
            refine (kW _ HX).mono ?_; rintro e w5 ⟨rfl, d1⟩
            replace HX := HX.below d1; replace HN := HN.below d1; replace HR := HR.below d1; replace HB := HB.trans (d1.mono HB.size); clear d1
            obtain ⟨bq, oq, eq0, hbq, hcq⟩ := HR.at_ (k := m) (by omega)
            cases eq0
            rw [Nat.zero_add, hm] at hcq
            clear hm
            go_wp2_with fail
            refine (kG _ HX).mono ?_; rintro e w6 ⟨Ag, cg, rfl, HG, d1⟩
            replace HX := HX.below d1; replace HN := HN.below d1; replace HB := HB.trans (d1.mono HB.size); clear d1
            rw [h0]
            go_wp2_with fail
            refine (kT _ HX).mono ?_; rintro e w7 ⟨rfl, d1⟩
            replace HN := HN.below d1; replace HB := HB.trans (d1.mono HB.size); clear d1
            go_wp2_with fail
            refine (kD _ HN).mono ?_; rintro e w8 ⟨rfl, d1⟩
            replace HB := HB.trans (d1.mono HB.size); clear d1
            go_wp2_with fail
            refine (lw_works _).mono ?_; rintro e w9 ⟨rfl, d1⟩
            replace HB := HB.trans (d1.mono HB.size); clear d1
            go_wp2_with fail
            go_ret
            exact ⟨rfl, HB⟩
          | false =>
            have w1 : whyE (ps.map Int.ofNat) m = 0 := by rw [whyE, if_pos hN0, natL_map, Int.toNat_natCast, hm]; rfl
            have w2 : whyR (ps.map Int.ofNat) m = ((m % s0 : Nat) : Int) := by rw [whyR, if_pos w1, natL_map, Int.toNat_natCast, es0]
            have w3 : whyM (ps.map Int.ofNat) m = fm ps s0 (m % s0) := by rw [whyM, if_pos w1, natL_map, Int.toNat_natCast, es0]
            have hbad := (not_congr (fm_rB (n := m) hsP0 hp30)).1 (by rw [hm]; simp)
            have hfm := fm_le (r := m % s0) hsP0 hp30
            have lr := Nat.mod_lt m hs0.1
            have er : (m : Int) % (s0 : Int) = ((m % s0 : Nat) : Int) := by simp
            have hlate := fmF_late (N := 2001) (r := m % s0) hsP0 hp30 (by omega)
            have hmr : m % s0 ≤ m := Nat.mod_le m s0
            have hmm := Nat.mod_mod m s0
            rw [w1, w2, w3] at kW
            rw [hm] at kC
            generalize m % s0 = r0 at *
            generalize fm ps s0 r0 = f0 at *
            clear w1 w2 w3
            obtain ⟨b1, o1, eq1, hb1, hc1⟩ := HN.at_ (k := 0) (by omega)
            cases eq1
            go_wp2_with fail
            refine (kC _ HX).mono ?_; rintro e w4 ⟨rfl, d1⟩
            replace HX := HX.below d1; replace HN := HN.below d1; replace HR := HR.below d1; replace HB := HB.trans (d1.mono HB.size); clear d1
            go_wp2_with fail
            refine (kW _ HX).mono ?_; rintro e w5 ⟨rfl, d1⟩
            replace HX := HX.below d1; replace HN := HN.below d1; replace HR := HR.below d1; replace HB := HB.trans (d1.mono HB.size); clear d1
            obtain ⟨bq, oq, eq0, hbq, hcq⟩ := HR.at_ (k := m) (by omega)
            cases eq0
            obtain ⟨b1, o1, eq1, hb1, hc1⟩ := HN.at_ (k := 0) (by omega)
            cases eq1
            rw [Nat.zero_add, hm] at hcq
            rw [Nat.add_zero, es0] at hc1
            have v1 : (0 : Int) < (s0 : Int) := by omega
            clear hm
            go_wp2_with fail
            simp only [er]
            have er := Lib.hid er
            go_loopw [26, 27] (fun v x wr => ∃ (a : Int) (y : Nat), v = .int .i64 a ∧ x = .int .i64 y ∧ Hid (Srch ps s0 r0 y a) ∧ y ≤ 2031 ∧ wr = w5) (fun _ x _ => 2032 - (intOf x).toNat)
            case atStart => exact ⟨-1, r0, rfl, rfl, .inl ⟨rfl, hmm, fun y hy he => by rw [Nat.mod_eq_of_lt (by omega)] at he; omega⟩, by omega, rfl⟩
            case round =>
              obtain ⟨a, y, rfl, rfl, hst, hy, rfl⟩ := hrel
              have x1 : (0 : Int) ≤ (y : Int) := by omega
              by_cases hgo : y < 2001 ∧ a = -1
              · obtain ⟨hy2, rfl⟩ := hgo
                have x2 : (y : Int) < 2001 := by omega
                obtain ⟨bz, oz, eq2, hbz, hcz⟩ := HR.at_ (k := y) (by omega)
                cases eq2
                rw [Nat.zero_add] at hcz
                cases hb : rB ps y with
                | false =>
                  have hnx := Lib.hid (hst.out.miss hb)
                  rw [hb] at hcz
                  clear hb
                  go_wp2_with fail
                  exact ⟨⟨-1, y + s0, rfl, by go_num, hnx.out, by omega, trivial⟩, by simp [intOf]; omega⟩
                | true =>
                  have hnx := Lib.hid (hst.out.hit hy2 hb)
                  rw [hb] at hcz
                  clear hb
                  go_wp2_with fail
                  exact ⟨⟨y, y + s0, rfl, by go_num, hnx.out, by omega, trivial⟩, by simp [intOf]; omega⟩
              · have hca := hst.out.cases_
                have hef : a = f0 := (hst.out.stop (by rcases hca with h | ⟨e, h⟩; exact .inl (by omega); exact .inr (by omega))).trans hlate
                clear hst hlate hmm
                subst hef
                have er := er.out
                rcases hca with rfl | ⟨e, rfl⟩
                · have x2 : ¬ (y : Int) < 2001 := by omega
                  clear hgo
                  go_wp2_with fail
                  refine (kG _ HX).mono ?_; rintro e w6 ⟨Ag, cg, rfl, HG, d1⟩
                  replace HX := HX.below d1; replace HN := HN.below d1; replace HB := HB.trans (d1.mono HB.size); clear d1
                  rw [h0]
                  go_wp2_with fail
                  refine (kT _ HX).mono ?_; rintro e w7 ⟨rfl, d1⟩
                  replace HN := HN.below d1; replace HB := HB.trans (d1.mono HB.size); clear d1
                  go_wp2_with fail
                  refine (kD _ HN).mono ?_; rintro e w8 ⟨rfl, d1⟩
                  replace HB := HB.trans (d1.mono HB.size); clear d1
                  go_wp2_with fail
                  refine (lw_works _).mono ?_; rintro e w9 ⟨rfl, d1⟩
                  replace HB := HB.trans (d1.mono HB.size); clear d1
                  go_wp2_with fail
                  go_ret
                  exact ⟨rfl, HB⟩
                · have x3 : ¬ (e : Int) < 0 := by omega
                  have x4 : (0 : Int) ≤ (e : Int) := by omega
                  have x5 : ¬ (e : Int) ≤ (m : Int) := by omega
                  clear hgo hbad
                  by_cases hy2 : (y : Int) < 2001
                  · go_wp2_with fail
                    refine (kG _ HX).mono ?_; rintro e w6 ⟨Ag, cg, rfl, HG, d1⟩
                    replace HX := HX.below d1; replace HN := HN.below d1; replace HB := HB.trans (d1.mono HB.size); clear d1
                    rw [h0]
                    go_wp2_with fail
                    refine (kT _ HX).mono ?_; rintro e w7 ⟨rfl, d1⟩
                    replace HN := HN.below d1; replace HB := HB.trans (d1.mono HB.size); clear d1
                    go_wp2_with fail
                    refine (kD _ HN).mono ?_; rintro e w8 ⟨rfl, d1⟩
                    replace HB := HB.trans (d1.mono HB.size); clear d1
                    go_wp2_with fail
                    refine (lw_works _).mono ?_; rintro e w9 ⟨rfl, d1⟩
                    replace HB := HB.trans (d1.mono HB.size); clear d1
                    go_wp2_with fail
                    go_ret
                    exact ⟨rfl, HB⟩
                  · go_wp2_with fail
                    refine (kG _ HX).mono ?_; rintro e w6 ⟨Ag, cg, rfl, HG, d1⟩
                    replace HX := HX.below d1; replace HN := HN.below d1; replace HB := HB.trans (d1.mono HB.size); clear d1
                    rw [h0]
                    go_wp2_with fail
                    refine (kT _ HX).mono ?_; rintro e w7 ⟨rfl, d1⟩
                    replace HN := HN.below d1; replace HB := HB.trans (d1.mono HB.size); clear d1
                    go_wp2_with fail
                    refine (kD _ HN).mono ?_; rintro e w8 ⟨rfl, d1⟩
                    replace HB := HB.trans (d1.mono HB.size); clear d1
                    go_wp2_with fail
                    refine (lw_works _).mono ?_; rintro e w9 ⟨rfl, d1⟩
                    replace HB := HB.trans (d1.mono HB.size); clear d1
                    go_wp2_with fail
                    go_ret
                    exact ⟨rfl, HB⟩
        · obtain ⟨g3, g4⟩ := gre_some hchk hg h0
          obtain ⟨q3, q4, q5, q6⟩ := q3 h0
          rw [q3] at g4
          simp only [g1, g2, g3, g4] at kG kT
          obtain ⟨L, eL⟩ : ∃ L, (gapL ps 1001).length = L := ⟨_, rfl⟩
          have hLle := gapL_len ps 1001
          rw [eL] at q1 q4 h0 hLle
          obtain ⟨M, eM⟩ : ∃ M : Int, (s : Int) * (L : Int) = M := ⟨_, rfl⟩
          rw [eM] at q1
          obtain ⟨Q, hQ⟩ : ∃ Q : Int, (s : Int) * ((s : Int) - 1) = 2 * Q := ⟨sumI (fm ps s) s - M, by omega⟩
          have eQ : ((s : Int) * ((s : Int) - 1)).tdiv 2 = Q := by rw [hQ]; exact Int.mul_tdiv_cancel_left Q (by omega)
          have eS : M = sumI (fm ps s) s - Q := by omega
          clear hg g1 g2 g3 g4 q1 q2 q3
          cases hm : rB ps m with
          | true =>
            have w1 : whyE (ps.map Int.ofNat) m = 13 := by rw [whyE, if_pos hN0, natL_map, Int.toNat_natCast, hm]; rfl
            have w2 : whyR (ps.map Int.ofNat) m = 0 := by rw [whyR, w1]; rfl
            have w3 : whyM (ps.map Int.ofNat) m = 0 := by rw [whyM, w1]; rfl
            rw [w1, w2, w3] at kW
            rw [hm] at kC
            clear w1 w2 w3
            go_wp2_with fail
            refine (kC _ HX).mono ?_; rintro e w4 ⟨rfl, d1⟩
            replace HX := HX.below d1; replace HN := HN.below d1; replace HR := HR.below d1; replace HB := HB.trans (d1.mono HB.size); clear d1
            go_wp2_with fail
            refine (kW _ HX).mono ?_; rintro e w5 ⟨rfl, d1⟩
            replace HX := HX.below d1; replace HN := HN.below d1; replace HR := HR.below d1; replace HB := HB.trans (d1.mono HB.size); clear d1
            obtain ⟨bq, oq, eq0, hbq, hcq⟩ := HR.at_ (k := m) (by omega)
            cases eq0
            rw [Nat.zero_add, hm] at hcq
            clear hm
            go_wp2_with fail
            refine (kG _ HX).mono ?_; rintro e w6 ⟨Ag, cg, rfl, HG, d1⟩
            replace HX := HX.below d1; replace HN := HN.below d1; replace HB := HB.trans (d1.mono HB.size); clear d1
            rw [eL]
            go_wp2_with fail
            refine (kT _ HX).mono ?_; rintro e w7 ⟨rfl, d1⟩
            replace HN := HN.below d1; replace HB := HB.trans (d1.mono HB.size); clear d1
            go_wp2_with fail
            refine (kD _ HN).mono ?_; rintro e w8 ⟨rfl, d1⟩
            replace HB := HB.trans (d1.mono HB.size); clear d1
            go_wp2_with fail
            refine (lw_works _).mono ?_; rintro e w9 ⟨rfl, d1⟩
            replace HB := HB.trans (d1.mono HB.size); clear d1
            go_wp2_with fail
            go_ret
            exact ⟨rfl, HB⟩
          | false =>
            have w1 : whyE (ps.map Int.ofNat) m = 0 := by rw [whyE, if_pos hN0, natL_map, Int.toNat_natCast, hm]; rfl
            have w2 : whyR (ps.map Int.ofNat) m = ((m % s0 : Nat) : Int) := by rw [whyR, if_pos w1, natL_map, Int.toNat_natCast, es0]
            have w3 : whyM (ps.map Int.ofNat) m = fm ps s0 (m % s0) := by rw [whyM, if_pos w1, natL_map, Int.toNat_natCast, es0]
            have hbad := (not_congr (fm_rB (n := m) hsP0 hp30)).1 (by rw [hm]; simp)
            have hfm := fm_le (r := m % s0) hsP0 hp30
            have lr := Nat.mod_lt m hs0.1
            have er : (m : Int) % (s0 : Int) = ((m % s0 : Nat) : Int) := by simp
            have hlate := fmF_late (N := 2001) (r := m % s0) hsP0 hp30 (by omega)
            have hmr : m % s0 ≤ m := Nat.mod_le m s0
            have hmm := Nat.mod_mod m s0
            rw [w1, w2, w3] at kW
            rw [hm] at kC
            generalize m % s0 = r0 at *
            generalize fm ps s0 r0 = f0 at *
            clear w1 w2 w3
            obtain ⟨b1, o1, eq1, hb1, hc1⟩ := HN.at_ (k := 0) (by omega)
            cases eq1
            go_wp2_with fail
            refine (kC _ HX).mono ?_; rintro e w4 ⟨rfl, d1⟩
            replace HX := HX.below d1; replace HN := HN.below d1; replace HR := HR.below d1; replace HB := HB.trans (d1.mono HB.size); clear d1
            go_wp2_with fail
            refine (kW _ HX).mono ?_; rintro e w5 ⟨rfl, d1⟩
            replace HX := HX.below d1; replace HN := HN.below d1; replace HR := HR.below d1; replace HB := HB.trans (d1.mono HB.size); clear d1
            obtain ⟨bq, oq, eq0, hbq, hcq⟩ := HR.at_ (k := m) (by omega)
            cases eq0
            obtain ⟨b1, o1, eq1, hb1, hc1⟩ := HN.at_ (k := 0) (by omega)
            cases eq1
            rw [Nat.zero_add, hm] at hcq
            rw [Nat.add_zero, es0] at hc1
            have v1 : (0 : Int) < (s0 : Int) := by omega
            clear hm
            go_wp2_with fail
            simp only [er]
            have er := Lib.hid er
            go_loopw [26, 27] (fun v x wr => ∃ (a : Int) (y : Nat), v = .int .i64 a ∧ x = .int .i64 y ∧ Hid (Srch ps s0 r0 y a) ∧ y ≤ 2031 ∧ wr = w5) (fun _ x _ => 2032 - (intOf x).toNat)
            case atStart => exact ⟨-1, r0, rfl, rfl, .inl ⟨rfl, hmm, fun y hy he => by rw [Nat.mod_eq_of_lt (by omega)] at he; omega⟩, by omega, rfl⟩
            case round =>
              obtain ⟨a, y, rfl, rfl, hst, hy, rfl⟩ := hrel
              have x1 : (0 : Int) ≤ (y : Int) := by omega
              by_cases hgo : y < 2001 ∧ a = -1
              · obtain ⟨hy2, rfl⟩ := hgo
                have x2 : (y : Int) < 2001 := by omega
                obtain ⟨bz, oz, eq2, hbz, hcz⟩ := HR.at_ (k := y) (by omega)
                cases eq2
                rw [Nat.zero_add] at hcz
                cases hb : rB ps y with
                | false =>
                  have hnx := Lib.hid (hst.out.miss hb)
                  rw [hb] at hcz
                  clear hb
                  go_wp2_with fail
                  exact ⟨⟨-1, y + s0, rfl, by go_num, hnx.out, by omega, trivial⟩, by simp [intOf]; omega⟩
                | true =>
                  have hnx := Lib.hid (hst.out.hit hy2 hb)
                  rw [hb] at hcz
                  clear hb
                  go_wp2_with fail
                  exact ⟨⟨y, y + s0, rfl, by go_num, hnx.out, by omega, trivial⟩, by simp [intOf]; omega⟩
              · have hca := hst.out.cases_
                have hef : a = f0 := (hst.out.stop (by rcases hca with h | ⟨e, h⟩; exact .inl (by omega); exact .inr (by omega))).trans hlate
                clear hst hlate hmm
                subst hef
                have er := er.out
                rcases hca with rfl | ⟨e, rfl⟩
                · have x2 : ¬ (y : Int) < 2001 := by omega
                  clear hgo
                  go_wp2_with fail
                  refine (kG _ HX).mono ?_; rintro e w6 ⟨Ag, cg, rfl, HG, d1⟩
                  replace HX := HX.below d1; replace HN := HN.below d1; replace HB := HB.trans (d1.mono HB.size); clear d1
                  rw [eL]
                  go_wp2_with fail
                  refine (kT _ HX).mono ?_; rintro e w7 ⟨rfl, d1⟩
                  replace HN := HN.below d1; replace HB := HB.trans (d1.mono HB.size); clear d1
                  go_wp2_with fail
                  refine (kD _ HN).mono ?_; rintro e w8 ⟨rfl, d1⟩
                  replace HB := HB.trans (d1.mono HB.size); clear d1
                  go_wp2_with fail
                  refine (lw_works _).mono ?_; rintro e w9 ⟨rfl, d1⟩
                  replace HB := HB.trans (d1.mono HB.size); clear d1
                  go_wp2_with fail
                  go_ret
                  exact ⟨rfl, HB⟩
                · have x3 : ¬ (e : Int) < 0 := by omega
                  have x4 : (0 : Int) ≤ (e : Int) := by omega
                  have x5 : ¬ (e : Int) ≤ (m : Int) := by omega
                  clear hgo hbad
                  by_cases hy2 : (y : Int) < 2001
                  · go_wp2_with fail
                    refine (kG _ HX).mono ?_; rintro e w6 ⟨Ag, cg, rfl, HG, d1⟩
                    replace HX := HX.below d1; replace HN := HN.below d1; replace HB := HB.trans (d1.mono HB.size); clear d1
                    rw [eL]
                    go_wp2_with fail
                    refine (kT _ HX).mono ?_; rintro e w7 ⟨rfl, d1⟩
                    replace HN := HN.below d1; replace HB := HB.trans (d1.mono HB.size); clear d1
                    go_wp2_with fail
                    refine (kD _ HN).mono ?_; rintro e w8 ⟨rfl, d1⟩
                    replace HB := HB.trans (d1.mono HB.size); clear d1
                    go_wp2_with fail
                    refine (lw_works _).mono ?_; rintro e w9 ⟨rfl, d1⟩
                    replace HB := HB.trans (d1.mono HB.size); clear d1
                    go_wp2_with fail
                    go_ret
                    exact ⟨rfl, HB⟩
                  · go_wp2_with fail
                    refine (kG _ HX).mono ?_; rintro e w6 ⟨Ag, cg, rfl, HG, d1⟩
                    replace HX := HX.below d1; replace HN := HN.below d1; replace HB := HB.trans (d1.mono HB.size); clear d1
                    rw [eL]
                    go_wp2_with fail
                    refine (kT _ HX).mono ?_; rintro e w7 ⟨rfl, d1⟩
                    replace HN := HN.below d1; replace HB := HB.trans (d1.mono HB.size); clear d1
                    go_wp2_with fail
                    refine (kD _ HN).mono ?_; rintro e w8 ⟨rfl, d1⟩
                    replace HB := HB.trans (d1.mono HB.size); clear d1
                    go_wp2_with fail
                    refine (lw_works _).mono ?_; rintro e w9 ⟨rfl, d1⟩
                    replace HB := HB.trans (d1.mono HB.size); clear d1
                    go_wp2_with fail
                    go_ret
                    exact ⟨rfl, HB⟩
end Go.Proofs.Ytjcoaicpeajpnaa
