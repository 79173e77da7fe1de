/- Walks of the reference: Span. -/
import Derived.Test.YtiphgkbnhagkhaaRfL
import Derived.Test.YtiphgkbnhagkhaaPkWc
import Derived.Test.YtiphgkbnhagkhaaPkApp
namespace Go.Proofs.Ytiphgkbnhagkhaa
open Go.RowKit Pk

/-- The first and the last of the numbers seen, -1 without one. -/
def lo (U : List Int) : Int := U.headD (-1)
def hi (U : List Int) : Int := U.getLastD (-1)
theorem lo_neg {U : List Int} (h : ∀ u ∈ U, 0 ≤ u) : lo U < 0 ↔ U = [] := by
  cases U with
  | nil => simp [lo]
  | cons a r => have := h a (by simp); simp [lo]; omega
theorem lo_snoc {U : List Int} {x : Int} (h : U ≠ []) : lo (U ++ [x]) = lo U := by
  cases U with
  | nil => exact absurd rfl h
  | cons a r => rfl
theorem hi_snoc (U : List Int) (x : Int) : hi (U ++ [x]) = x := by simp [hi]
theorem lo_At {U : List Int} (h : U ≠ []) : lo U = At U 0 := by
  cases U with
  | nil => exact absurd rfl h
  | cons a r => simp [lo, At]
theorem hi_At {U : List Int} (h : U ≠ []) : hi U = At U (U.length - 1) := by
  rw [hi, At, ← List.getLast?_eq_getElem?, List.getLast?_eq_some_getLast h, List.getLastD_eq_getLast?, List.getLast?_eq_some_getLast h]
  simp
theorem useL_nn (l : List (Nat × Nat)) (n s N : Nat) : ∀ u ∈ useL l n s N, 0 ≤ u := by
  intro u hu
  rw [useL, List.mem_map] at hu
  obtain ⟨y, _, rfl⟩ := hu
  simp
theorem useL_stop {l : List (Nat × Nat)} {n s x : Nat} (h : n < x * s) : ∀ j, useL l n s (x + j) = useL l n s x := by
  intro j
  induction j with
  | zero => rfl
  | succ j ih =>
    rw [← Nat.add_assoc, useL_miss, ih]
    have : x * s ≤ (x + j) * s := Nat.mul_le_mul_right s (by omega)
    have e : ((x + j : Nat) : Int) * (s : Int) = (((x + j) * s : Nat) : Int) := by simp
    rw [inWays, e]
    simp only [Bool.and_eq_false_iff, decide_eq_false_iff_not]
    left; left
    omega
theorem inWays_t {l : List (Nat × Nat)} {n s x : Nat} (h : x * s ≤ n) (hm : 0 < nw l (n - x * s)) : inWays n l ((n : Int) - (x : Int) * (s : Int)) = true := by
  have e : (x : Int) * (s : Int) = ((x * s : Nat) : Int) := by simp
  rw [inWays, e, show ((n : Int) - ((x * s : Nat) : Int)).toNat = n - x * s by omega]
  simp [hm]
  omega
theorem inWays_f {l : List (Nat × Nat)} {n s x : Nat} (h : x * s ≤ n) (hm : ¬ 0 < nw l (n - x * s)) : inWays n l ((n : Int) - (x : Int) * (s : Int)) = false := by
  have e : (x : Int) * (s : Int) = ((x * s : Nat) : Int) := by simp
  rw [inWays, e, show ((n : Int) - ((x * s : Nat) : Int)).toNat = n - x * s by omega]
  simp
  omega

set_option maxRecDepth 100000 in
set_option maxHeartbeats 4000000 in
theorem rf_Span (A B : Option Addr) (n m : Nat) (xs cs : List Int) (ca cb : Nat) (q k : Int) (w : World) (hx : Ints w A n xs) (hy : Ints w B m cs) (hl : n ≤ 1000000000) (hl' : m ≤ 1000000000) :
    Calls Try.prog 47 #[.slice A n ca, .slice B m cb, .int .i64 q, .int .i64 k] w fun e w' => e = .returned (.tuple #[.int .i64 (spaA xs cs q k), .int .i64 (spaB xs cs q k), .int .i64 (spaE xs cs q k)]) ∧ Below w.heap.size w w' := by
  have hc := rf_stocked A B n m xs cs ca cb w hx hy hl hl'
  have ht := fun W => rf_total (chkS xs cs) q W
  simp only [chkO_thn] at ht
  have hi' := fun W => rf_in k 0 ((n : Int) - 1) W
  have hix : inR k 0 ((n : Int) - 1) = isIx n k := by rw [inR, isIx]; congr 1; simp; omega
  rw [hix] at hi'
  by_cases h1 : chkO xs cs q = 0
  · by_cases h2 : isIx n k = true
    · have hE0 := spaE_u (k := k) h1 (by rw [hx.len]; exact h2)
      obtain ⟨h3, h4, h5⟩ := chkO_ok h1
      obtain ⟨h6, h7, h8⟩ := chkS_ok h3
      obtain ⟨s1, s2, hN, hp⟩ := hx.sizes h6
      obtain ⟨hM, hq⟩ := hy.stock h8
      rw [h1] at ht
      rw [h2] at hi'
      simp only [isIx, Bool.and_eq_true, decide_eq_true_eq] at h2
      obtain ⟨q, rfl⟩ := Int.eq_ofNat_of_zero_le h4
      obtain ⟨k, rfl⟩ := Int.eq_ofNat_of_zero_le h2.1
      have hnm : m = n := by rw [← hx.len, ← hy.len, h7]
      subst hnm
      have hkm : k < m := by omega
      have hue : useL (zp (natL xs) (outL (natL cs) k) m) q (NAt (natL xs) k) (NAt (natL cs) k + 1) = spaU xs cs q k := by
        rw [spaU, hx.len, Int.toNat_natCast, Int.toNat_natCast]
      have hs := hp _ (NAt_mem (ps := natL xs) (k := k) (by rw [hN.len]; exact hkm))
      have hcc := hq _ (NAt_mem (ps := natL cs) (k := k) (by rw [hM.len]; exact hkm))
      have hnn := useL_nn (zp (natL xs) (outL (natL cs) k) m) q (NAt (natL xs) k) (NAt (natL cs) k + 1)
      rw [hue] at hnn
      have hout : ∀ c ∈ outL (natL cs) k, c ≤ 1001 := by
        intro c h
        rcases List.mem_or_eq_of_mem_set h with h | rfl
        · have := hq c h; omega
        · omega
      have hr1 : spaU xs cs q k = [] → spaE xs cs q k = 12 ∧ spaA xs cs q k = 0 ∧ spaB xs cs q k = 0 := by
        intro h
        have hE' : spaE xs cs q k = 12 := by rw [hE0, h]; rfl
        exact ⟨hE', by rw [spaA, if_neg (by rw [hE']; decide)], by rw [spaB, if_neg (by rw [hE']; decide)]⟩
      have hr2 : spaU xs cs q k ≠ [] → spaE xs cs q k = 0 ∧ spaA xs cs q k = lo (spaU xs cs q k) ∧ spaB xs cs q k = hi (spaU xs cs q k) := by
        intro h
        have hE' : spaE xs cs q k = 0 := by rw [hE0, if_neg (by simpa using h)]
        exact ⟨hE', by rw [spaA, if_pos hE', lo_At h], by rw [spaB, if_pos hE', hi_At h]⟩
      have hr1 := Lib.hid hr1
      have hr2 := Lib.hid hr2
      have hnn := Lib.hid hnn
      have hki : (0 : Int) ≤ (k : Int) := by omega
      have hkn : (k : Int) < m := by omega
      have HY := Lib.hid hy
      clear h1 h2 h3 h6 h7 hE0 h4 h8 hix
      obtain ⟨b', off', rfl, hb', hcl'⟩ := hM.at_ hkm
      obtain ⟨b, off, rfl, hb, hcl⟩ := hN.at_ hkm
      obtain ⟨i0, hif, hz0, hz1, hz2⟩ := info_parts Try.info_int
      have HM := Lib.hid hM
      clear hM hy hx
      go_enter Try.func47, Try.ntmps47
      go_wp2_with fail
      refine hc.mono ?_; rintro e w' ⟨rfl, j, rfl⟩
      go_wp2_with fail
      refine (ht _).mono ?_; rintro e w' ⟨rfl, rfl⟩
      go_wp2_with fail
      refine (hi' _).mono ?_; rintro e w' ⟨rfl, rfl⟩
      go_wp2_with (at_builtin; refine wpList_append_own _ rfl _ _ 22 rfl w.heap.size 3 i0 (.int .i64 0) 1 8 Try.underlying22 hif hz0 hz1 hz2 rfl (by decide) _ _ _ rfl (World.ownsRow_made (w.drewN j) #[] 0 (Nat.le_refl _) (Nat.zero_le _) rfl) ⟨b', off', none⟩ m cb ((List.range m).map fun k => Value.int .i64 (NAt (natL cs) k : Nat)) rfl ?qc1 ?qc2 ?qc3 ?qc4 ?qc5 ?qc6 ?_)
      case qc1 => simp
      case qc2 =>
        intro j u hj
        have hjn : j < m := by
          have := (List.getElem?_eq_some_iff.1 hj).1
          simpa using this
        rw [Addr.add_lit]
        refine Lib.cell?_alloc_some _ ?_
        obtain ⟨b', off', e, hb, hc⟩ := HM.out.at_ hjn
        cases e
        refine Eq.trans hc ?_
        simpa [hjn] using hj
      case qc3 => intro u hu; obtain ⟨x, _, rfl⟩ := List.mem_map.1 hu; rfl
      case qc4 => unfold maxLen; omega
      case qc5 => omega
      case qc6 => simp
      intro v' w1 hown hgrow hnil
      rcases hown.2 with ⟨rfl, h0⟩ | ⟨g, cap, ct, rfl, hg, hB, hnc, hcm, hsz, htake⟩
      · omega
      have hw1 : Below w.heap.size w w1 := undrewN (((Below.refl _ (w.drewN j)).alloc (Nat.le_refl _) _).grown hgrow (by simp) (by intro k hk; simp [Value.ownBlock] at hk; have : (w.drewN j).heap.size = w.heap.size := rfl; omega))
      have hB : Whole w1 g 3 ct := hB
      have hR : ∀ k, k < m → ct[k]? = some (.int .i64 (NAt (natL cs) k : Nat)) := fun k hk => by
        have : (ct.toList.take (m * 1))[k]? = some (.int .i64 (NAt (natL cs) k : Nat)) := by
          rw [htake]; simp [hk]
        rw [List.getElem?_take, if_pos (by omega)] at this
        simpa using this
      have hg : w.heap.size ≤ g := by simpa using hg
      clear htake hown hgrow hnil
      have c1 := (hB.cell k).trans (hR k hkm)
      have c2 := hB.frozen k
      have hw2 : Below w.heap.size w (w1.setCell ⟨g, k, none⟩ (.int .i64 0)) := hw1.setCell hg _
      have hN2 : Nats (w1.setCell ⟨g, k, none⟩ (.int .i64 0)) (some ⟨g, 0, none⟩) m (outL (natL cs) k) := by
        refine ⟨by rw [outL, List.length_set, HM.out.len], fun j hj => ⟨g, 0, rfl, ?_, ?_⟩⟩
        · have := hB.lt; simpa [World.setCell] using this
        · rw [Nat.zero_add, (hB.set_ k _).cell j]
          have hML := HM.out.len
          by_cases e : j = k
          · subst e
            have hlt : j < ct.size := by
              rcases Nat.lt_or_ge j ct.size with h | h
              · exact h
              · have := hR j hj; rw [Array.getElem?_eq_none h] at this; cases this
            simp [hlt, NAt, outL, hML, hj]
          · rw [Array.getElem?_setIfInBounds_ne (by omega), hR j hj]
            simp [NAt, outL, Ne.symm e]
      have hcn := rf_counts (some ⟨b, off, none⟩) (some ⟨g, 0, none⟩) m (natL xs) (outL (natL cs) k) ca cap q _ (hN.below hw2) hN2 (sub1000 hp) hout s2 (by omega)
      clear HM
      go_wp2_with fail
      refine hcn.mono ?_
      rintro e w3 ⟨A3, c3, rfl, hF, hw3⟩
      have hw4 : Below w.heap.size w w3 := hw2.trans (hw3.mono hw2.size)
      have d1 := (hw4.cell (p := ⟨b', off' + k, none⟩) hb').trans hcl'
      have d2 := (hw4.cell (p := ⟨b, off + k, none⟩) hb).trans hcl
      clear c1 c2 hB hR hN2 hw3 hw2 hcn
      generalize zp (natL xs) (outL (natL cs) k) m = l at *
      generalize NAt (natL xs) k = s at *
      generalize NAt (natL cs) k = c at *
      have hue := Lib.hid hue
      go_wp2_with fail
      go_loopw [12, 13, 16] (fun a z i wr => ∃ x : Nat, x ≤ c + 1 ∧ i = .int .i64 x ∧ a = .int .i64 (lo (useL l q s x)) ∧ z = .int .i64 (hi (useL l q s x)) ∧ wr = w3) (fun _ _ i _ => c + 1 - (intOf i).toNat)
      case atStart => exact ⟨0, by omega, rfl, rfl, rfl, rfl⟩
      case round =>
        obtain ⟨x, hx1, rfl, rfl, rfl, rfl⟩ := hrel
        have hnu := useL_nn l q s x
        have hls := Lib.hid (fun v => @lo_snoc (useL l q s x) v)
        have hhs := Lib.hid (hi_snoc (useL l q s x))
        have hln := lo_neg hnu
        have p1 : x * s ≤ 41 * 30 := Nat.mul_le_mul (by omega) hs.2
        have e1 : ((x : Int) * (s : Int)) = ((x * s : Nat) : Int) := by simp
        have p2 : (x : Int) * (s : Int) ≤ 1230 := by rw [e1]; omega
        have p3 : (0 : Int) ≤ (x : Int) * (s : Int) := by rw [e1]; omega
        have hxi : (0 : Int) ≤ (x : Int) := by omega
        by_cases hxc : x ≤ c
        · by_cases hps : x * s ≤ q
          · have p4 : (x : Int) * (s : Int) ≤ q := by rw [e1]; omega
            have p5 : (0 : Int) ≤ (q : Int) - (x : Int) * (s : Int) := by rw [e1]; omega
            have p6 : (q : Int) - (x : Int) * (s : Int) < (q : Int) + 1 := by rw [e1]; omega
            have p7 : ((q : Int) - (x : Int) * (s : Int)).toNat = q - x * s := by rw [e1]; omega
            obtain ⟨b3, off3, rfl, hb3, hcl3⟩ := hF.at_ (k := q - x * s) (by omega)
            rw [NAt_range _ _ (by omega)] at hcl3
            by_cases hm : 0 < nw l (q - x * s)
            · have he := useL_hit (inWays_t hps hm)
              have hm' : (0 : Int) < (nw l (q - x * s) : Int) := by omega
              have he2 := Lib.hid (show hi (useL l q s (x + 1)) = x by rw [he, hhs.out]; rfl)
              by_cases h0 : lo (useL l q s x) < 0
              · have he1 := Lib.hid (show lo (useL l q s (x + 1)) = x by rw [he, hln.1 h0]; rfl)
                clear e1 he hm hln hnu
                go_wp2_with fail
                exact ⟨⟨x + 1, by omega, by go_num, by rw [he1.out], by rw [he2.out], trivial⟩, by simp [intOf]; omega⟩
              · have he1 := Lib.hid (show lo (useL l q s (x + 1)) = lo (useL l q s x) by rw [he, hls.out _ (fun h => h0 (hln.2 h))])
                clear e1 he hm hln hnu
                go_wp2_with fail
                exact ⟨⟨x + 1, by omega, by go_num, by rw [he1.out], by rw [he2.out], trivial⟩, by simp [intOf]; omega⟩
            · have he := Lib.hid (useL_miss (inWays_f hps hm))
              have hm' : ¬ (0 : Int) < (nw l (q - x * s) : Int) := by omega
              clear e1 hm hln hnu
              go_wp2_with fail
              exact ⟨⟨x + 1, by omega, by go_num, by rw [he.out], by rw [he.out], trivial⟩, by simp [intOf]; omega⟩
          · have p4 : ¬ (x : Int) * (s : Int) ≤ q := by rw [e1]; omega
            have hst := useL_stop (l := l) (n := q) (s := s) (x := x) (by omega) (c + 1 - x)
            rw [show x + (c + 1 - x) = c + 1 by omega, hue.out] at hst
            rw [← hst] at hln hnu ⊢
            clear e1 hst
            by_cases h0 : lo (spaU xs cs q k) < 0
            · have hr := Lib.hid (hr1.out (hln.1 h0))
              clear hln
              go_wp2_with fail
              go_ret3
              exact ⟨by rw [hr.out.1, hr.out.2.1, hr.out.2.2]; rfl, hw4⟩
            · have hr := Lib.hid (hr2.out (fun h => h0 (hln.2 h)))
              clear hln
              go_wp2_with fail
              go_ret3
              exact ⟨by rw [hr.out.1, hr.out.2.1, hr.out.2.2]; rfl, hw4⟩
        · have hxc' : ¬ (x : Int) ≤ (c : Int) := by omega
          have hst : useL l q s x = spaU xs cs q k := by rw [show x = c + 1 by omega, hue.out]
          rw [hst] at hln hnu ⊢
          clear e1 hst
          by_cases h0 : lo (spaU xs cs q k) < 0
          · have hr := Lib.hid (hr1.out (hln.1 h0))
            clear hln
            go_wp2_with fail
            go_ret3
            exact ⟨by rw [hr.out.1, hr.out.2.1, hr.out.2.2]; rfl, hw4⟩
          · have hr := Lib.hid (hr2.out (fun h => h0 (hln.2 h)))
            clear hln
            go_wp2_with fail
            go_ret3
            exact ⟨by rw [hr.out.1, hr.out.2.1, hr.out.2.2]; rfl, hw4⟩
    · have hE' := spaE_2 (k := k) h1 (by rw [hx.len]; exact h2)
      have hA := Lib.hid (show spaA xs cs q k = 0 by rw [spaA, if_neg (by rw [hE']; decide)])
      have hB := Lib.hid (show spaB xs cs q k = 0 by rw [spaB, if_neg (by rw [hE']; decide)])
      have hE := Lib.hid hE'
      rw [h1] at ht
      rw [show isIx n k = false by simpa using h2] at hi'
      clear h1 h2 hE' hix
      go_enter Try.func47, Try.ntmps47
      go_wp2_with fail
      refine hc.mono ?_; rintro e w' ⟨rfl, j, rfl⟩
      go_wp2_with fail
      refine (ht _).mono ?_; rintro e w' ⟨rfl, rfl⟩
      go_wp2_with fail
      refine (hi' _).mono ?_; rintro e w' ⟨rfl, rfl⟩
      go_wp2_with fail
      go_ret3
      exact ⟨by rw [hA.out, hB.out, hE.out]; rfl, bdrewN (Below.refl _ _) _⟩
  · have hb := ne0 h1
    have hE' : spaE xs cs q k = chkO xs cs q := by rw [spaE, if_neg h1]
    have hA := Lib.hid (show spaA xs cs q k = 0 by rw [spaA, if_neg (by rw [hE']; exact h1)])
    have hB := Lib.hid (show spaB xs cs q k = 0 by rw [spaB, if_neg (by rw [hE']; exact h1)])
    have hE := Lib.hid hE'
    have hb2 : (chkO xs cs q == 0) = false := by simp [h1]
    clear h1 hE' hix
    go_enter Try.func47, Try.ntmps47
    go_wp2_with fail
    refine hc.mono ?_; rintro e w' ⟨rfl, j, rfl⟩
    go_wp2_with fail
    refine (ht _).mono ?_; rintro e w' ⟨rfl, rfl⟩
    go_wp2_with fail
    go_ret3
    exact ⟨by rw [hA.out, hB.out, hE.out]; rfl, bdrewN (Below.refl _ _) _⟩
end Go.Proofs.Ytiphgkbnhagkhaa
