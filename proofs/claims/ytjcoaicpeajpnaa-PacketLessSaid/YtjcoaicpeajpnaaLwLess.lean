/- The walk of PacketLess. -/
import Derived.Test.YtjcoaicpeajpnaaLwGaps
import Derived.Test.YtjcoaicpeajpnaaSyL
import Derived.Test.YtjcoaicpeajpnaaLwRem
import Derived.Test.YtjcoaicpeajpnaaLwReach
import Derived.Deep.RegionLaw
namespace Go.Proofs.Ytjcoaicpeajpnaa
open Go.RowKit Pk

set_option maxRecDepth 100000 in
set_option maxHeartbeats 1000000 in
theorem sl_EqualB (A B : Option Addr) (n : Nat) (f : Nat → Bool) (ca cb : Nat) (w : World) (hx : Bools w A n f) (hy : Bools w B n f) (hl : n ≤ 1000000) :
    Calls Try.prog 59 #[.slice A n ca, .slice B n cb] w fun e w' => e = .returned (.bool true) ∧ Below w.heap.size w w' := by
  go_enter Try.func59, Try.ntmps59
  go_wp2_with fail
  go_loopw [13] (fun i wr => ∃ k : Nat, k ≤ n ∧ i = .int .i64 k ∧ Below w.heap.size w wr) (fun i _ => n - (intOf i).toNat)
  case atStart => exact ⟨0, by omega, rfl, Below.refl _ _⟩
  case round =>
    obtain ⟨k, hk, rfl, hb⟩ := hrel
    by_cases hlt : k < n
    · obtain ⟨b1, o1, rfl, hb1, hc1⟩ := (hx.below hb).at_ hlt
      obtain ⟨b2, o2, rfl, hb2, hc2⟩ := (hy.below hb).at_ hlt
      have hi0 : (0 : Int) ≤ (k : Int) := by omega
      have hi1 : (k : Int) < n := by omega
      generalize f k = v at *
      go_wp2_with fail
      cases v
      all_goals (
        go_quiet (fail)
        go_wp2
        exact ⟨⟨k + 1, by omega, by go_num, bdrewN hb _⟩, by simp [intOf]; omega⟩)
    · obtain rfl : k = n := by omega
      go_wp2_with fail
      go_ret
      exact ⟨rfl, hb⟩

set_option maxRecDepth 100000 in
set_option maxHeartbeats 40000000 in
theorem lw_PacketLess (z : Nat → Nat) (hz : ∀ i, z i ≤ 255) (w : World) :
    Calls Try.prog 12 #[.agg (shA z)] w fun e w' => e = .returned (.bool true) ∧ Below w.heap.size w w' := by
  have kM := fun W => lw_made z hz 30 1 (by omega) (by omega) (by omega) W
  have HB := (Below.refl w.heap.size w).alloc (Nat.le_refl _) (.cells (shA z) 53)
  simp only [shA] at kM HB ⊢
  go_enter Try.func12, Try.ntmps12
  go_wp2_with fail
  refine (kM _).mono ?_; rintro e w1 ⟨A, c, B, d, n, ps, cs, rfl, HN, _, hS, _, hnc, hcm, d1⟩
  replace HB := HB.trans (d1.mono HB.size)
  clear kM d1
  have hn1 := hS.2.1
  have hn4 := hS.2.2.1
  have hchk := hS.chk (by omega)
  have hp30 : ∀ x ∈ ps, 0 < x ∧ x ≤ 30 := fun x hx => by have := hS.2.2.2.2 x hx; omega
  have HX := HN.ints
  obtain ⟨b0, o0, rfl, hb0, hc0⟩ := HN.at_ (k := 0) (by omega)
  clear hb0 hc0
  have hl : (ps.map Int.ofNat).length = n := by rw [List.length_map]; exact hS.1
  have kN := pk_Needed (some ⟨b0, o0, none⟩) n (ps.map Int.ofNat) c w1 HX (by omega) hnc hcm
  have hV : nedV (ps.map Int.ofNat) = nedL ps n := by rw [nedV, if_pos hchk, natL_map, hl]
  rw [hV, hchk] at kN
  obtain ⟨m, hFS⟩ := fewL_sizes hS
  have hnl : (nedL ps n).length = m := by rw [← hFS.1, nedL, fewL, List.length_map, List.length_map]
  have hm1 := hFS.2.1
  have hm4 := hFS.2.2.1
  clear hV
  go_wp2_with fail
  refine kN.mono ?_; rintro e w2 ⟨Al, cl, rfl, HL, d1⟩
  replace HX := HX.below d1; replace HN := HN.below d1; replace HB := HB.trans (d1.mono HB.size)
  clear d1 kN
  rw [hnl] at HL ⊢
  have z0 : ((m : Int) == 0) = false := by rw [beq_eq_false_iff_ne]; omega
  have hnl := Lib.hid hnl
  go_wp2_with fail
  go_loopw [7, 8, 34] (fun v u q wr => ∃ x : Nat, x ≤ n ∧ q = .int .i64 x ∧ OwnI wr w2.heap.size v (nedL ps x) ∧ OwnI wr w2.heap.size u ((fewL ps x).map Int.ofNat) ∧ Apart v u ∧ Below w2.heap.size w2 wr) (fun _ _ q _ => n - (intOf q).toNat)
  case atStart => exact ⟨0, by omega, rfl, OwnI.nil_ _ _, OwnI.nil_ _ _, (fun g h => by simp [Value.ownBlock] at h : Apart _ _), Below.refl _ _⟩
  case round =>
    obtain ⟨x, hx, rfl, hown, hown2, hap, hw⟩ := hrel
    have hsz := hw.size
    by_cases hlt : x < n
    · have HX' := HX.below hw
      have HN' := HN.below hw
      obtain ⟨bx, ox, eqx, hbx, hcx⟩ := HN'.at_ hlt
      cases eqx
      have hsx := hS.at_ hlt
      have x1 : (0 : Int) ≤ (x : Int) := by omega
      have x2 : (x : Int) < n := by omega
      have x3 : (x : Int) ≤ c := by omega
      have x4 : (0 : Int) ≤ (x : Int) + 1 := by omega
      have x5 : (x : Int) + 1 ≤ n := by omega
      have x6 : ((x : Int) + 1).toNat = x + 1 := by omega
      have x7 : IntKind.i64.wrap ((x : Int) + 1) = (x : Int) + 1 := wrap_ok (by omega) (by omega)
      have kC := sl_CloneI b0 o0 x c ((ps.map Int.ofNat).take x) wr.drew ((HX'.take (by omega)).drewN 1) (by omega)
      have hrest := rest_eq hchk hl hlt
      rw [natL_map] at hrest
      go_wp2_with fail
      go_region_law ((first
          | (go_simp; go_at_call 54; refine kC.mono ?_; rintro e w3 ⟨v1, rfl, hown1, d1⟩)
          | (refine step_appR rfl _ _ rfl wr.heap.size _ _ (by rfl) hown1 d1.size _ _ _ ((ps.map Int.ofNat).drop (x + 1)) (by rfl) (((HX'.drewN 1).below d1).drop hnc) (by simp; omega) ?_; intro v2 w4 hown3 hb3)))
      have hw2 : Below wr.heap.size wr w4 := hb3 _ (undrew d1)
      have hf : ∃ A2 c2, v2 = .slice A2 (n - 1) c2 ∧ Ints w4 A2 (n - 1) ((ps.map Int.ofNat).take x ++ (ps.map Int.ofNat).drop (x + 1)) := by
        obtain ⟨A2, c2, e, hI⟩ := hown3.form
        have eL : ((ps.map Int.ofNat).take x ++ (ps.map Int.ofNat).drop (x + 1)).length = n - 1 := by
          rw [List.length_append, List.length_take, List.length_drop, hl]; omega
        rw [eL] at e hI
        exact ⟨A2, c2, e, hI⟩
      obtain ⟨A2, c2, rfl, hI2⟩ := hf
      have hN2 := hI2.nats fun k hk => rest_nn hchk hl hlt k (by rw [hI2.len]; exact hk)
      have hpos2 : ∀ s ∈ natL ((ps.map Int.ofNat).take x ++ (ps.map Int.ofNat).drop (x + 1)), 0 < s ∧ s ≤ 10000 := by
        intro s hs
        have e : natL ((ps.map Int.ofNat).take x ++ (ps.map Int.ofNat).drop (x + 1)) = ps.take x ++ ps.drop (x + 1) := by
          rw [← List.map_take, ← List.map_drop, ← List.map_append, natL_map]
        rw [e] at hs
        have := hp30 s (by rcases List.mem_append.1 hs with h | h; exact List.mem_of_mem_take h; exact List.mem_of_mem_drop h)
        omega
      have kR := lw_reach A2 (n - 1) _ c2 (NAt ps x) w4 hN2 hpos2 (by omega) (by omega)
      have hcx2 := (hw2.cell (p := ⟨b0, o0 + x, none⟩) hbx).trans hcx
      have y1 : (NAt ps x : Int) < (NAt ps x : Int) + 1 := by omega
      have y2 : (0 : Int) ≤ (NAt ps x : Int) := by omega
      clear hI2 hN2 hpos2 hown1 hown3 kC d1 hb3
      generalize (if c = x + 1 then some (⟨b0, o0, none⟩ : Addr) else some ⟨b0, o0 + (x + 1), none⟩) = dead
      cases hm : rB (ps.take x) (NAt ps x) with
      | true =>
        have he := Lib.hid (nedL_miss hm)
        have hf := Lib.hid (fewL_miss hm)
        rw [hm] at hrest
        generalize rB (natL ((ps.map Int.ofNat).take x ++ (ps.map Int.ofNat).drop (x + 1))) = F at *
        generalize NAt ps x = s at *
        clear hm
        go_wp2_with fail
        refine kR.mono ?_; rintro e w5 ⟨c5, rfl, hR, d5⟩
        obtain ⟨b5, o5, e5, hb5, hc5⟩ := hR.at_ (k := s) (by omega)
        cases e5
        rw [Nat.zero_add, hrest] at hc5
        have hw5 := hw2.trans (d5.mono hw2.size)
        go_wp2_with fail
        exact ⟨⟨x + 1, by omega, by go_num, by rw [he.out]; exact hown.below hw5, by rw [hf.out]; exact hown2.below hw5, hap, hw.trans (hw5.mono hsz)⟩, by simp [intOf]; omega⟩
      | false =>
        have he := Lib.hid (nedL_hit hm)
        have hf := Lib.hid (fewL_hit hm)
        have hgl := nedL_len ps x
        have hgl2 := fewL_len ps x
        rw [hm] at hrest
        generalize rB (natL ((ps.map Int.ofNat).take x ++ (ps.map Int.ofNat).drop (x + 1))) = F at *
        obtain ⟨s, es⟩ : ∃ s, NAt ps x = s := ⟨_, rfl⟩
        rw [es] at hrest hcx hcx2 kR hsx y1 y2 hf ⊢
        have es := Lib.hid es
        clear hm
        go_wp2_with fail
        refine kR.mono ?_; rintro e w5 ⟨c5, rfl, hR, d5⟩
        obtain ⟨b5, o5, e5, hb5, hc5⟩ := hR.at_ (k := s) (by omega)
        cases e5
        rw [Nat.zero_add, hrest] at hc5
        have hw5 := hw2.trans (d5.mono hw2.size)
        have ho1 := hown.below hw5
        have ho2 := hown2.below hw5
        have hw6 := hw.trans (hw5.mono hsz)
        have hsz6 := hw6.size
        clear hown hown2 hR kR
        go_wp2_with (first
          | (at_builtin; refine wpList_app2 rfl _ _ rfl w2.heap.size _ _ (nedL ps x) _ x (by rfl) ho1 ho2 hap hsz6 (by omega) (by rfl) ?_; intro v7 w7 ho3 ho4 hap2 hb7)
          | (at_builtin; refine wpList_app2 rfl _ _ rfl w2.heap.size _ _ ((fewL ps x).map Int.ofNat) _ s (by rfl) ho4 ho3 hap2.symm (hb7 _ hw6).size (by rw [List.length_map]; omega) (by rfl) ?_; intro v8 w8 ho5 ho6 hap3 hb8))
        refine ⟨⟨x + 1, by omega, by go_num, by rw [he.out]; exact ho6, by rw [hf.out, List.map_append]; exact ho5, hap3.symm, hb8 _ (hb7 _ hw6)⟩, by simp [intOf]; omega⟩
    · obtain rfl : n = x := by omega
      obtain ⟨A7, c7, rfl, HI7⟩ := hown.form
      obtain ⟨A8, c8, rfl, HI8⟩ := hown2.form
      have e8 : ((fewL ps n).map Int.ofNat).length = m := by rw [List.length_map]; exact hFS.1
      rw [hnl.out] at HI7 ⊢
      rw [e8] at HI8 ⊢
      replace HL := HL.below hw; replace HX := HX.below hw; replace HN := HN.below hw; replace HB := HB.trans (hw.mono HB.size)
      clear hown hown2 hap hw hnl e8 hsz
      have hpos : ∀ s ∈ ps, 0 < s := fun s hs => (hp30 s hs).1
      have hfp : ∀ x ∈ fewL ps n, 0 < x ∧ x ≤ 30 := fun x hx => by have := hFS.2.2.2.2 x hx; omega
      have hchk2 := hFS.chk (by omega)
      have HN8 := HI8.nats fun k hk => by rw [At_map]; omega
      rw [natL_map] at HN8
      have eR : rB (fewL ps n) = rB ps := by
        funext k; have := fewL_rB hpos k; rwa [hS.1] at this
      have eG : G (fewL ps n) = G ps := by have := fewL_G hpos; rwa [hS.1] at this
      have eg : gapL (fewL ps n) 1001 = gapL ps 1001 := by have := fewL_gap hpos 1001; rwa [hS.1] at this
      have kR1 := fun W (h : Nats W (some ⟨b0, o0, none⟩) n ps) => lw_reach (some ⟨b0, o0, none⟩) n ps c 900 W h (fun x hx => by have := hp30 x hx; omega) (by omega) (by omega)
      have kR2 := fun W (h : Nats W A8 m (fewL ps n)) => lw_reach A8 m (fewL ps n) c8 900 W h (fun x hx => by have := hfp x hx; omega) (by omega) (by omega)
      rw [eR] at kR2
      have kG1 := fun W (h : Ints W (some ⟨b0, o0, none⟩) n (ps.map Int.ofNat)) => pk_Gaps (some ⟨b0, o0, none⟩) n _ c W h (by omega)
      have kG2 := fun W (h : Ints W A8 m ((fewL ps n).map Int.ofNat)) => pk_Gaps A8 m _ c8 W h (by omega)
      by_cases hg : 1 < G ps
      · obtain ⟨g1, g2, _, _⟩ := gap_inf hchk hg
        obtain ⟨g3, g4, _, _⟩ := gap_inf hchk2 (by rw [eG]; exact hg)
        simp only [g1, g2] at kG1
        simp only [g3, g4] at kG2
        clear hg g1 g2 g3 g4 eR eG eg hS hFS
        go_wp2_with fail
        refine (same_refl HL HI7 (by omega)).mono ?_; rintro e w3 ⟨rfl, d1⟩
        replace HX := HX.below d1; replace HN := HN.below d1; replace HN8 := HN8.below d1; replace HI8 := HI8.below d1; replace HB := HB.trans (d1.mono HB.size); clear d1
        go_wp2_with fail
        refine (kR1 _ HN).mono ?_; rintro e w4 ⟨c4, rfl, HR1, d1⟩
        replace HX := HX.below d1; replace HN8 := HN8.below d1; replace HI8 := HI8.below d1; replace HB := HB.trans (d1.mono HB.size); clear d1
        go_wp2_with fail
        refine (kR2 _ HN8).mono ?_; rintro e w5 ⟨c5, rfl, HR2, d1⟩
        replace HR1 := HR1.below d1; replace HX := HX.below d1; replace HI8 := HI8.below d1; replace HB := HB.trans (d1.mono HB.size); clear d1
        go_wp2_with fail
        refine (sl_EqualB _ _ 901 (rB ps) c4 c5 _ HR1 HR2 (by omega)).mono ?_; rintro e w6 ⟨rfl, d1⟩
        replace HX := HX.below d1; replace HI8 := HI8.below d1; replace HB := HB.trans (d1.mono HB.size); clear d1
        go_wp2_with fail
        refine (kG1 _ HX).mono ?_; rintro e w7 ⟨Ag, cg, rfl, HG1, d1⟩
        replace HI8 := HI8.below d1; replace HB := HB.trans (d1.mono HB.size); clear d1
        go_wp2_with fail
        refine (kG2 _ HI8).mono ?_; rintro e w8 ⟨Ah, ch, rfl, HG2, d1⟩
        replace HG1 := HG1.below d1; replace HB := HB.trans (d1.mono HB.size); clear d1
        go_wp2_with fail
        refine (same_refl HG1 HG2 (by simp)).mono ?_; rintro e w9 ⟨rfl, d1⟩
        replace HB := HB.trans (d1.mono HB.size); clear d1
        go_wp2_with fail
        refine (lw_works _).mono ?_; rintro e w10 ⟨rfl, d1⟩
        replace HB := HB.trans (d1.mono HB.size); clear d1
        go_wp2_with fail
        go_ret
        exact ⟨rfl, HB⟩
      · obtain ⟨g1, g2⟩ := gap_fin hchk hg
        obtain ⟨g3, g4⟩ := gap_fin hchk2 (by rw [eG]; exact hg)
        rw [eg] at g4
        have hLle := gapL_len ps 1001
        simp only [g1, g2] at kG1
        simp only [g3, g4] at kG2
        clear hg g1 g2 g3 g4 eR eG eg hS hFS
        go_wp2_with fail
        refine (same_refl HL HI7 (by omega)).mono ?_; rintro e w3 ⟨rfl, d1⟩
        replace HX := HX.below d1; replace HN := HN.below d1; replace HN8 := HN8.below d1; replace HI8 := HI8.below d1; replace HB := HB.trans (d1.mono HB.size); clear d1
        go_wp2_with fail
        refine (kR1 _ HN).mono ?_; rintro e w4 ⟨c4, rfl, HR1, d1⟩
        replace HX := HX.below d1; replace HN8 := HN8.below d1; replace HI8 := HI8.below d1; replace HB := HB.trans (d1.mono HB.size); clear d1
        go_wp2_with fail
        refine (kR2 _ HN8).mono ?_; rintro e w5 ⟨c5, rfl, HR2, d1⟩
        replace HR1 := HR1.below d1; replace HX := HX.below d1; replace HI8 := HI8.below d1; replace HB := HB.trans (d1.mono HB.size); clear d1
        go_wp2_with fail
        refine (sl_EqualB _ _ 901 (rB ps) c4 c5 _ HR1 HR2 (by omega)).mono ?_; rintro e w6 ⟨rfl, d1⟩
        replace HX := HX.below d1; replace HI8 := HI8.below d1; replace HB := HB.trans (d1.mono HB.size); clear d1
        go_wp2_with fail
        refine (kG1 _ HX).mono ?_; rintro e w7 ⟨Ag, cg, rfl, HG1, d1⟩
        replace HI8 := HI8.below d1; replace HB := HB.trans (d1.mono HB.size); clear d1
        go_wp2_with fail
        refine (kG2 _ HI8).mono ?_; rintro e w8 ⟨Ah, ch, rfl, HG2, d1⟩
        replace HG1 := HG1.below d1; replace HB := HB.trans (d1.mono HB.size); clear d1
        generalize gapL ps 1001 = gl at *
        generalize gl.length = L at *
        go_wp2_with fail
        refine (same_refl HG1 HG2 (by omega)).mono ?_; rintro e w9 ⟨rfl, d1⟩
        replace HB := HB.trans (d1.mono HB.size); clear d1
        go_wp2_with fail
        refine (lw_works _).mono ?_; rintro e w10 ⟨rfl, d1⟩
        replace HB := HB.trans (d1.mono HB.size); clear d1
        go_wp2_with fail
        go_ret
        exact ⟨rfl, HB⟩
end Go.Proofs.Ytjcoaicpeajpnaa
