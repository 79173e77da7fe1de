/- The walk of PacketScaled. -/
import Derived.Test.YtjcoaicpeajpnaaSyX
import Derived.Test.YtjcoaicpeajpnaaSyL
namespace Go.Proofs.Ytjcoaicpeajpnaa
open Go.RowKit Pk

theorem scl_sizes {ps : List Nat} {n d : Nat} (h : Sizes ps n 10) (h1 : 1 ≤ d) (h2 : d ≤ 3) : Sizes (ps.map (d * ·)) n 30 := by
  have hat : ∀ k, k < n → NAt (ps.map (d * ·)) k = d * NAt ps k := fun k hk => by
    have : k < ps.length := by rw [h.1]; exact hk
    simp [NAt, List.getElem?_eq_getElem this]
  refine ⟨by rw [List.length_map]; exact h.1, h.2.1, h.2.2.1, fun a b hab hb => ?_, fun s hs => ?_⟩
  · rw [hat a (by omega), hat b hb]
    exact Nat.mul_lt_mul_of_pos_left (h.2.2.2.1 a b hab hb) h1
  · obtain ⟨b, hb, rfl⟩ := List.mem_map.1 hs
    have := h.2.2.2.2 b hb
    have h3 := Nat.mul_le_mul h2 this.2
    have h4 := Nat.mul_le_mul h1 this.1
    omega
theorem mak_two {xs : List Int} {k : Int} (h : chkN xs k = 0) : makE xs k = 0 ∨ makE xs k = 12 := by
  rw [makE, if_pos h, bfE]; split
  · exact .inl rfl
  · exact .inr rfl
theorem mak_len (xs : List Int) (k : Int) : (makL xs k).length ≤ xs.length := by
  rw [makL]; split
  · rw [List.length_map, bfL]; split
    · simp [bestF, natL]
    · simp
  · simp
def wdL (ps : List Nat) (d i : Nat) : List Int := ((ps.take i).map (d * ·)).map Int.ofNat
theorem wdL_succ {ps : List Nat} {d i : Nat} (h : i < ps.length) : wdL ps d (i + 1) = wdL ps d i ++ [((d * NAt ps i : Nat) : Int)] := by
  rw [wdL, take_snoc ps h]; simp [wdL]
theorem wdL_len {ps : List Nat} {d i : Nat} (h : i ≤ ps.length) : (wdL ps d i).length = i := by
  simp [wdL]; omega

set_option maxRecDepth 100000 in
set_option maxHeartbeats 40000000 in
theorem lw_PacketScaled (z : Nat → Nat) (hz : ∀ i, z i ≤ 255) (N q : Nat) (hN : N ≤ 255) (hq : q ≤ 255) (w : World) :
    Calls Try.prog 13 #[.agg (shA z), .int .u8 N, .int .u8 q] w fun e w' => e = .returned (.bool true) ∧ Below w.heap.size w w' := by
  have kM := fun W => lw_made z hz 10 1 (by omega) (by omega) (by omega) W
  have HB := (Below.refl w.heap.size w).alloc (Nat.le_refl _) (.cells (shA z) 53)
  simp only [shA] at kM HB ⊢
  obtain ⟨t, et, lt⟩ : ∃ t : Nat, ((q : Nat) : Int) % 2 = (t : Int) ∧ t < 2 := ⟨q % 2, by simp, Nat.mod_lt _ (by omega)⟩
  obtain ⟨d, ed⟩ : ∃ d : Nat, d = 2 + t := ⟨_, rfl⟩
  have edi : (2 : Int) + (t : Int) = (d : Int) := by omega
  have hd2 : 2 ≤ d := by omega
  have hd3 : d ≤ 3 := by omega
  clear ed lt
  go_enter Try.func13, Try.ntmps13
  go_wp2_with fail
  refine (kM _).mono ?_; rintro e w1 ⟨A, c, B, dd, n, ps, cs, rfl, HN, _, hS, _, hnc, hcm, d1⟩
  replace HB := HB.trans (d1.mono HB.size)
  clear kM d1
  have hn1 := hS.2.1
  have hn4 := hS.2.2.1
  have hl : ps.length = n := hS.1
  have HX := HN.ints
  obtain ⟨b0, o0, rfl, hb0, hc0⟩ := HN.at_ (k := 0) (by omega)
  clear hb0 hc0
  go_wp2_with fail
  simp only [et]
  clear et edi
  go_loopw [10, 39] (fun v i wr => ∃ x : Nat, x ≤ n ∧ i = .int .i64 x ∧ OwnI wr w1.heap.size v (wdL ps d x) ∧ Below w1.heap.size w1 wr) (fun _ i _ => n - (intOf i).toNat)
  case atStart => exact ⟨0, by omega, rfl, OwnI.nil_ _ _, Below.refl _ _⟩
  case round =>
    obtain ⟨x, hx, rfl, hown, hw⟩ := hrel
    have hsz := hw.size
    by_cases hlt : x < n
    · have HN' := HN.below hw
      obtain ⟨bx, ox, eqx, hbx, hcx⟩ := HN'.at_ hlt
      cases eqx
      have hsx := hS.at_ hlt
      have hwl := wdL_len (ps := ps) (d := d) (i := x) (by omega)
      have hsu := Lib.hid (wdL_succ (ps := ps) (d := d) (i := x) (by omega))
      have x1 : (0 : Int) ≤ (x : Int) := by omega
      have x2 : (x : Int) < n := by omega
      have hD : d * NAt ps x ≤ 30 := by have := Nat.mul_le_mul hd3 hsx.2; omega
      have eD : (d : Int) * ((NAt ps x : Nat) : Int) = ((d * NAt ps x : Nat) : Int) := (Int.natCast_mul d (NAt ps x)).symm
      generalize d * NAt ps x = D at *
      generalize NAt ps x = s at *
      have hwl := Lib.hid hwl
      go_wp2_with (at_builtin; refine wpList_appI rfl _ _ rfl w1.heap.size _ (wdL ps d x) D (by rfl) hown hsz (by rw [hwl.out]; omega) (by rfl) ?_; intro v' w' hown' hb')
      exact ⟨⟨x + 1, by omega, by go_num, by rw [hsu.out]; exact hown', hb' _ hw⟩, by simp [intOf]; omega⟩
    · obtain rfl : n = x := by omega
      have eW : wdL ps d n = (ps.map (d * ·)).map Int.ofNat := by rw [wdL, List.take_of_length_le (by omega)]
      have hWS := scl_sizes hS (show 1 ≤ d by omega) hd3
      obtain ⟨A9, c9, rfl, HI9⟩ := hown.form
      rw [eW] at HI9
      have el9 : (wdL ps d n).length = n := wdL_len (by omega)
      have el9' : ((ps.map (d * ·)).map Int.ofNat).length = n := by rw [← eW]; exact el9
      rw [el9'] at HI9
      rw [el9]
      obtain ⟨b9, o9, rfl, hb9, hc9⟩ := HI9.at_ (k := 0) (by omega)
      clear hb9 hc9
      have HN9 := HI9.nats fun k hk => by rw [At_map]; omega
      rw [natL_map] at HN9
      replace HX := HX.below hw; replace HN := HN.below hw; replace HB := HB.trans (hw.mono HB.size)
      clear hown hw hsz el9 el9'
      have hchk := hS.chk (by omega)
      have hchk9 := hWS.chk (by omega)
      have hp10 : ∀ x ∈ ps, 0 < x ∧ d * x ≤ 30 := fun x hx => by
        have := hS.2.2.2.2 x hx; have h3 := Nat.mul_le_mul hd3 this.2; omega
      have hpos : ∀ s ∈ ps, 0 < s := fun s hs => (hp10 s hs).1
      have hdN : d * N ≤ 765 := by have := Nat.mul_le_mul hd3 hN; omega
      obtain ⟨k1, k2⟩ := mak_scl (n := N) (show 0 < d by omega) hchk hchk9 (by omega)
      have hN0 : chkN (ps.map Int.ofNat) N = 0 := by rw [chkN, if_pos hchk, tot, if_neg (by omega)]
      have hme := mak_two hN0
      have hml := mak_len (ps.map Int.ofNat) N
      rw [List.length_map, hl] at hml
      have kA := fun W (h : Ints W (some ⟨b0, o0, none⟩) n (ps.map Int.ofNat)) => pk_Make (some ⟨b0, o0, none⟩) n _ c N W h (by omega)
      have kB := fun W (h : Ints W (some ⟨b9, o9, none⟩) n ((ps.map (d * ·)).map Int.ofNat)) => pk_Make (some ⟨b9, o9, none⟩) n _ c9 ((d * N : Nat) : Int) W h (by omega)
      rw [k1, k2] at kB
      have hN1 : chkN ((ps.map (d * ·)).map Int.ofNat) ((d * N + 1 : Nat) : Int) = 0 := by rw [chkN, if_pos hchk9, tot, if_neg (by omega)]
      have hcan : canV ((ps.map (d * ·)).map Int.ofNat) ((d * N + 1 : Nat) : Int) = false := by
        rw [canV, if_pos hN1, natL_map, Int.toNat_natCast]
        refine rB_odd (by omega) hpos fun h => ?_
        have := (Nat.dvd_add_right (Nat.dvd_mul_right d N)).1 h
        have := Nat.le_of_dvd (by omega) this
        omega
      have kC := fun W (h : Ints W (some ⟨b9, o9, none⟩) n ((ps.map (d * ·)).map Int.ofNat)) => pk_Can (some ⟨b9, o9, none⟩) n _ c9 ((d * N + 1 : Nat) : Int) W h (by omega)
      rw [hN1, hcan] at kC
      have kR := fun W (h : Ints W (some ⟨b0, o0, none⟩) n (ps.map Int.ofNat)) => pk_Remainders (some ⟨b0, o0, none⟩) n _ c 0 W h (by omega)
      have kS := fun W (h : Ints W (some ⟨b9, o9, none⟩) n ((ps.map (d * ·)).map Int.ofNat)) => pk_Remainders (some ⟨b9, o9, none⟩) n _ c9 0 W h (by omega)
      obtain ⟨s, es⟩ : ∃ s, NAt ps 0 = s := ⟨_, rfl⟩
      have es9 : NAt (ps.map (d * ·)) 0 = d * s := by
        have : 0 < ps.length := by omega
        simp [← es, NAt, List.getElem?_eq_getElem this]
      have hsP : s ∈ ps := by rw [← es]; exact NAt_mem (by omega)
      have hs := hp10 _ hsP
      have hs10 := (hS.2.2.2.2 s hsP).2
      have r1 : remE (ps.map Int.ofNat) 0 = 0 := by rw [remE, if_pos hchk, List.length_map, hl, isIx, decide_eq_true (by omega), decide_eq_true (by omega)]; rfl
      have r2 : remL (ps.map Int.ofNat) 0 = fmL ps s := by rw [remL, if_pos r1, natL_map]; show fmL ps (NAt ps 0) = _; rw [es]
      have r3 : remE ((ps.map (d * ·)).map Int.ofNat) 0 = 0 := by rw [remE, if_pos hchk9, List.length_map, List.length_map, hl, isIx, decide_eq_true (by omega), decide_eq_true (by omega)]; rfl
      have r4 : remL ((ps.map (d * ·)).map Int.ofNat) 0 = fmL (ps.map (d * ·)) (d * s) := by rw [remL, if_pos r3, natL_map]; show fmL _ (NAt (ps.map (d * ·)) 0) = _; rw [es9]
      rw [r1, r2] at kR
      rw [r3, r4] at kS
      have hgg := G_scl (by intro h; rw [h] at hl; simp at hl; omega) hd2 hpos
      obtain ⟨g1, g2, _, _⟩ := gap_inf hchk9 hgg
      have kG := fun W (h : Ints W (some ⟨b9, o9, none⟩) n ((ps.map (d * ·)).map Int.ofNat)) => pk_Gaps (some ⟨b9, o9, none⟩) n _ c9 W h (by omega)
      simp only [g1, g2] at kG
      have ev := fun qq => fm_even (q := qq) (show 0 < d by omega) hp10 hsP
      have od := fun r h => fm_odd (r := r) (show 0 < d by omega) hp10 hsP h
      have hfl := fun r => fm_le (r := r) hsP (fun x hx => ⟨(hp10 x hx).1, Nat.le_trans (Nat.le_mul_of_pos_left x (by omega)) (hp10 x hx).2⟩)
      have eM : (d : Int) * (N : Int) = ((d * N : Nat) : Int) := (Int.natCast_mul d N).symm
      clear r1 r2 r3 r4 hgg g1 g2 k1 k2 hN0 hN1 hcan eW hWS
      generalize ps.map (d * ·) = qs at *
      generalize makL (ps.map Int.ofNat) N = ml at *
      generalize makE (ps.map Int.ofNat) N = me at *
      generalize d * N = DN at *
      rcases hme with rfl | rfl
      all_goals (
        go_wp2_with fail
        refine (kA _ HX).mono ?_; rintro e w2 ⟨A2, c2, rfl, HA, d1⟩
        replace HX := HX.below d1; replace HN := HN.below d1; replace HI9 := HI9.below d1; replace HN9 := HN9.below d1; replace HB := HB.trans (d1.mono HB.size); clear d1
        go_wp2_with fail
        refine (kB _ HI9).mono ?_; rintro e w3 ⟨A3, c3, rfl, HC, d1⟩
        replace HA := HA.below d1; replace HX := HX.below d1; replace HN := HN.below d1; replace HI9 := HI9.below d1; replace HN9 := HN9.below d1; replace HB := HB.trans (d1.mono HB.size); clear d1
        generalize ml.length = L at *
        go_wp2_with fail
        refine (same_refl HA HC (by omega)).mono ?_; rintro e w4 ⟨rfl, d1⟩
        replace HX := HX.below d1; replace HN := HN.below d1; replace HI9 := HI9.below d1; replace HN9 := HN9.below d1; replace HB := HB.trans (d1.mono HB.size); clear d1
        clear HA HC
        go_wp2_with fail
        refine (kC _ HI9).mono ?_; rintro e w5 ⟨rfl, d1⟩
        replace HX := HX.below d1; replace HN := HN.below d1; replace HI9 := HI9.below d1; replace HN9 := HN9.below d1; replace HB := HB.trans (d1.mono HB.size); clear d1
        go_wp2_with fail
        refine (kR _ HX).mono ?_; rintro e w6 ⟨A6, c6, rfl, HL, d1⟩
        rw [fmL_len] at HL ⊢
        replace HX := HX.below d1; replace HN := HN.below d1; replace HI9 := HI9.below d1; replace HN9 := HN9.below d1; replace HB := HB.trans (d1.mono HB.size); clear d1
        go_wp2_with fail
        refine (kS _ HI9).mono ?_; rintro e w7 ⟨A7, c7, rfl, HM, d1⟩
        rw [fmL_len] at HM ⊢
        replace HL := HL.below d1; replace HN := HN.below d1; replace HI9 := HI9.below d1; replace HN9 := HN9.below d1; replace HB := HB.trans (d1.mono HB.size); clear d1
        obtain ⟨bx, ox, eq1, hbx, hcx⟩ := HN.at_ (k := 0) (by omega)
        cases eq1
        obtain ⟨by', oy, eq2, hby, hcy⟩ := HN9.at_ (k := 0) (by omega)
        cases eq2
        rw [Nat.add_zero, es] at hcx
        rw [Nat.add_zero, es9] at hcy
        clear HN HN9 hbx hby
        obtain ⟨D, eD⟩ : ∃ D, d * s = D := ⟨_, rfl⟩
        rw [eD] at hcy HM od ev ⊢
        have hD30 : D ≤ 30 := by rw [← eD]; exact hs.2
        have eDs := Lib.hid eD
        clear eD es es9
        go_wp2_with fail
        have ev := Lib.hid ev
        have od := Lib.hid od
        have hfl := Lib.hid hfl
        clear kA kB kC kR kS hp10 hpos hchk hchk9 HX hcx hcy hdN eM
        go_loopw [131] (fun i wr => ∃ r : Nat, r ≤ D ∧ i = .int .i64 r ∧ wr = w7) (fun i _ => D - (intOf i).toNat)
        case atStart => exact ⟨0, by omega, rfl, rfl⟩
        case round =>
          obtain ⟨r, hr, rfl, rfl⟩ := hrel
          by_cases hlt : r < D
          · obtain ⟨bm, om, rfl, hbm, hcm⟩ := HM.at_ hlt
            rw [fmL_at hlt] at hcm
            have x1 : (0 : Int) ≤ (r : Int) := by omega
            have x2 : (r : Int) < D := by omega
            have x0 : (0 : Int) < (d : Int) := by omega
            by_cases hrd : r % d = 0
            · obtain ⟨q', rfl⟩ := Nat.dvd_of_mod_eq_zero hrd
              have hqs : q' < s := Nat.lt_of_mul_lt_mul_left (a := d) (by rw [eDs.out]; exact hlt)
              obtain ⟨bl, ol, rfl, hbl, hcl⟩ := HL.at_ hqs
              rw [fmL_at hqs] at hcl
              rw [ev.out q'] at hcm
              have hf := hfl.out q'
              have y1 : ((d * q' : Nat) : Int) % (d : Int) = 0 := by simp
              have y2 : ((d * q' : Nat) : Int).tdiv (d : Int) = (q' : Int) := by rw [Int.natCast_mul]; exact Int.mul_tdiv_cancel_left _ (by omega)
              have y3 : ((d * q' : Nat) : Int) / (d : Int) = (q' : Int) := by rw [Int.natCast_mul]; exact Int.mul_ediv_cancel_left _ (by omega)
              have y4 : (0 : Int) ≤ (q' : Int) := by omega
              have y5 : (q' : Int) < s := by omega
              have yw : wrap64 (q' : Int) = (q' : Int) := by unfold wrap64; omega
              generalize fm ps s q' = f at *
              generalize d * q' = r at *
              by_cases hf0 : f < 0
              · rw [if_pos hf0] at hcm
                have hf1 : f = -1 := by omega
                subst hf1
                clear hf0 hrd y2 hqs hs10
                go_wp2_with fail
                exact ⟨⟨r + 1, by omega, by go_num, trivial⟩, by simp [intOf]; omega⟩
              · rw [if_neg hf0] at hcm
                have hf1 : (0 : Int) ≤ f := by omega
                have y6 : (d : Int) * f ≤ 2700 := by
                  have := Int.mul_le_mul (show (d : Int) ≤ 3 by omega) hf.2 hf1 (by omega); omega
                have y7 : (0 : Int) ≤ (d : Int) * f := Int.mul_nonneg (by omega) hf1
                clear hrd y2 hqs hs10
                go_wp2_with fail
                exact ⟨⟨r + 1, by omega, by go_num, trivial⟩, by simp [intOf]; omega⟩
            · rw [od.out r hrd] at hcm
              obtain ⟨t', et', lt'⟩ : ∃ t' : Nat, (r : Int) % (d : Int) = (t' : Int) ∧ 0 < t' := ⟨r % d, by simp, by omega⟩
              have y1 : (0 : Int) < (t' : Int) := by omega
              have y2 : ((t' : Int) == 0) = false := by rw [beq_eq_false_iff_ne]; omega
              clear hrd
              go_wp2_with fail
              exact ⟨⟨r + 1, by omega, by go_num, trivial⟩, by simp [intOf]; omega⟩
          · go_wp2_with fail
            refine (kG _ HI9).mono ?_; rintro e w8 ⟨A8, c8, rfl, HG, d1⟩
            replace HB := HB.trans (d1.mono HB.size); clear d1
            go_wp2_with fail
            refine (lw_works _).mono ?_; rintro e w9 ⟨rfl, d1⟩
            replace HB := HB.trans (d1.mono HB.size); clear d1
            go_wp2_with fail
            go_ret
            exact ⟨rfl, HB⟩)
end Go.Proofs.Ytjcoaicpeajpnaa
