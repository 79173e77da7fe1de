/- Walks of the reference: Ways, Totals, Least. -/
import Derived.Test.YtiphgkbnhagkhaaRfJ
import Derived.Test.YtiphgkbnhagkhaaRfK
import Derived.Test.YtiphgkbnhagkhaaPkWb
namespace Go.Proofs.Ytiphgkbnhagkhaa
open Go.RowKit Pk

set_option maxHeartbeats 1000000 in
theorem rf_Ways (A B : Option Addr) (n m : Nat) (xs cs : List Int) (ca cb : Nat) (k : Int) (w : World) (hx : Ints w A n xs) (hy : Ints w B m cs) (hl : n ≤ 1000000000) (hl' : m ≤ 1000000000) :
    Calls Try.prog 41 #[.slice A n ca, .slice B m cb, .int .i64 k] w fun e w' => e = .returned (.tuple #[.int .i64 (wayV xs cs k), .int .i64 (chkO xs cs k)]) ∧ Below w.heap.size w w' := by
  have hc := rf_stocked A B n m xs cs ca cb w hx hy hl hl'
  have ht := fun W => rf_total (chkS xs cs) k W
  simp only [chkO_thn] at ht
  by_cases h1 : chkO xs cs k = 0
  · obtain ⟨h2, h3, h4⟩ := chkO_ok h1
    obtain ⟨h5, h6, h7⟩ := chkS_ok h2
    obtain ⟨s1, s2, hN, hp⟩ := hx.sizes h5
    obtain ⟨hM, hq⟩ := hy.stock h7
    have hV := Lib.hid (show wayV xs cs k = (nw (zp (natL xs) (natL cs) n) k.toNat : Int) by rw [wayV, if_pos h1, hx.len])
    have hE := Lib.hid h1
    rw [h1] at ht
    obtain ⟨k, rfl⟩ := Int.eq_ofNat_of_zero_le h3
    have hnm : m = n := by rw [← hx.len, ← hy.len, h6]
    subst hnm
    clear h1 h2 h5 h6
    have hbf := fun j => rf_counts A B m (natL xs) (natL cs) ca cb k (w.drewN j) (hN.drewN j) (hM.drewN j) (sub1000 hp) (fun c h => by have := hq c h; omega) s2 (by omega)
    go_enter Try.func41, Try.ntmps41
    go_wp2_with fail
    refine hc.mono ?_; rintro e w' ⟨rfl, j, rfl⟩
    go_wp2_with fail
    refine (ht _).mono ?_; rintro e w' ⟨rfl, rfl⟩
    go_wp2_with fail
    refine (hbf j).mono ?_
    rintro e w2 ⟨A2, c2, rfl, hN2, hb2⟩
    obtain ⟨b, off, rfl, _, hcl⟩ := hN2.at_ (k := k) (by omega)
    rw [NAt_range _ _ (by omega)] at hcl
    have z1 : (k : Int) < (k : Int) + 1 := by omega
    have z2 : (0 : Int) ≤ (k : Int) := by omega
    go_wp2_with fail
    go_ret2
    rw [hV.out, hE.out]
    exact ⟨rfl, undrewN hb2⟩
  · have hb := ne0 h1
    have hV := Lib.hid (show wayV xs cs k = 0 by rw [wayV, if_neg h1])
    clear h1
    go_enter Try.func41, Try.ntmps41
    go_wp2_with fail
    refine hc.mono ?_; rintro e w' ⟨rfl, j, rfl⟩
    go_wp2_with fail
    refine (ht _).mono ?_; rintro e w' ⟨rfl, rfl⟩
    go_wp2_with fail
    go_ret2
    rw [hV.out]
    exact ⟨rfl, bdrewN (Below.refl _ _) _⟩

set_option maxRecDepth 100000 in
set_option maxHeartbeats 1000000 in
theorem rf_Totals (A B : Option Addr) (n m : Nat) (xs cs : List Int) (ca cb : Nat) (w : World) (hx : Ints w A n xs) (hy : Ints w B m cs) (hl : n ≤ 1000000000) (hl' : m ≤ 1000000000) :
    Calls Try.prog 43 #[.slice A n ca, .slice B m cb] w fun e w' => GivesE w w' e (totV xs cs) (chkS xs cs) := by
  have hc := rf_stocked A B n m xs cs ca cb w hx hy hl hl'
  by_cases h1 : chkS xs cs = 0
  · obtain ⟨h5, h6, h7⟩ := chkS_ok h1
    obtain ⟨s1, s2, hN, hp⟩ := hx.sizes h5
    obtain ⟨hM, hq⟩ := hy.stock h7
    have hV := Lib.hid (show totV xs cs = totL (zp (natL xs) (natL cs) n) 1001 by rw [totV, if_pos h1, hx.len])
    have hE := Lib.hid h1
    rw [h1] at hc
    have hnm : m = n := by rw [← hx.len, ← hy.len, h6]
    subst hnm
    clear h1 h5 h6
    have hbf := fun j => rf_counts A B m (natL xs) (natL cs) ca cb 1000 (w.drewN j) (hN.drewN j) (hM.drewN j) (sub1000 hp) (fun c h => by have := hq c h; omega) s2 (by omega)
    go_enter Try.func43, Try.ntmps43
    go_wp2_with fail
    refine hc.mono ?_; rintro e w' ⟨rfl, j, rfl⟩
    go_wp2_with fail
    refine (hbf j).mono ?_
    rintro e w1 ⟨A1, c1, rfl, hF, hb1⟩
    have hw1 : Below w.heap.size w w1 := undrewN hb1
    clear hb1
    generalize zp (natL xs) (natL cs) m = l at *
    go_wp2_with fail
    go_loopw [7, 9] (fun v i wr => ∃ x : Nat, x ≤ 1001 ∧ i = .int .i64 x ∧ OwnI wr w1.heap.size v (totL l x) ∧ Below w1.heap.size w1 wr) (fun _ i _ => 1001 - (intOf i).toNat)
    case atStart => exact ⟨0, by omega, rfl, OwnI.nil_ _ _, Below.refl _ _⟩
    case round =>
      obtain ⟨x, hx1, rfl, hown, hw⟩ := hrel
      have hsz := hw.size
      have hgl := totL_len l x
      by_cases hlt : x < 1001
      · obtain ⟨b, off, rfl, hb0, hcl⟩ := (hF.below hw).at_ hlt
        rw [NAt_range _ _ hlt] at hcl
        have hi : (x : Int) < 1001 := by omega
        have hi0 : (0 : Int) ≤ (x : Int) := by omega
        by_cases hm : 0 < nw l x
        · have he := Lib.hid (totL_hit hm)
          have hm' : (0 : Int) < (nw l x : Int) := by omega
          clear hm
          go_wp2_with (at_builtin; refine wpList_appI rfl _ _ rfl w1.heap.size _ (totL l x) x (by rfl) hown hsz (by omega) (by rfl) ?_; intro v' w' hown' hb')
          exact ⟨⟨x + 1, by omega, by go_num, by rw [he.out]; exact hown', hb' _ hw⟩, by simp [intOf]; omega⟩
        · have he := Lib.hid (totL_miss hm)
          have hm' : ¬ (0 : Int) < (nw l x : Int) := by omega
          clear hm
          go_wp2_with fail
          exact ⟨⟨x + 1, by omega, by go_num, by rw [he.out]; exact hown, hw⟩, by simp [intOf]; omega⟩
      · obtain rfl : x = 1001 := by omega
        obtain ⟨A', c', rfl, hI⟩ := hown.form
        go_wp2_with fail
        go_ret2
        unfold GivesE
        rw [hV.out, hE.out]
        exact ⟨_, _, rfl, hI, hw1.trans (hw.mono hw1.size)⟩
  · have hb := ne0 h1
    have hV := Lib.hid (show totV xs cs = [] by rw [totV, if_neg h1])
    clear h1
    go_enter Try.func43, Try.ntmps43
    go_wp2_with fail
    refine hc.mono ?_; rintro e w' ⟨rfl, j, rfl⟩
    go_wp2_with fail
    go_ret2
    rw [hV.out]
    exact GivesE.nil (bdrewN (Below.refl _ _) _)

theorem leaF_at {N : Nat} {l : List (Nat × Nat)} {k i : Nat} (hi : i < (totL l N).length) (h : (k : Int) ≤ At (totL l N) i) (hno : ∀ j, j < i → At (totL l N) j < (k : Int)) :
    leaF N l k = At (totL l N) i ∧ 0 ≤ At (totL l N) i := by
  have hg : ∀ j (hj : j < ((List.range N).filter (fun x => decide (0 < nw l x))).length), At (totL l N) j = (((List.range N).filter (fun x => decide (0 < nw l x)))[j] : Nat) := by
    intro j hj
    simp [At, totL, hj]
  rw [totL, List.length_map] at hi
  have hf : (List.range N).find? (fun x => decide (k ≤ x) && decide (0 < nw l x)) = some (((List.range N).filter (fun x => decide (0 < nw l x)))[i]) := by
    have e : (fun x => decide (k ≤ x) && decide (0 < nw l x)) = (fun x => decide (decide (0 < nw l x) = true ∧ decide (k ≤ x) = true)) := by funext x; simp [and_comm]
    rw [e, ← List.find?_filter, List.find?_eq_some_iff_getElem]
    rw [hg i hi] at h
    refine ⟨by simpa using h, i, hi, rfl, fun j hj => ?_⟩
    have h3 := hno j hj
    rw [hg j (by omega)] at h3
    simpa using h3
  rw [leaF, hf, hg i hi]
  exact ⟨rfl, by omega⟩
theorem leaF_no {N : Nat} {l : List (Nat × Nat)} {k : Nat} (hno : ∀ j, j < (totL l N).length → At (totL l N) j < (k : Int)) : leaF N l k = -1 := by
  refine leaF_none fun y h1 h2 h3 => ?_
  have hm : (y : Int) ∈ totL l N := by
    rw [totL, List.mem_map]
    exact ⟨y, List.mem_filter.2 ⟨List.mem_range.2 h2, by simpa using h3⟩, rfl⟩
  obtain ⟨j, hj, e⟩ := List.getElem_of_mem hm
  refine absurd (hno j hj) (Int.not_lt.2 ?_)
  rw [At, List.getElem?_eq_getElem hj, e]
  simpa using h1

set_option maxRecDepth 100000 in
set_option maxHeartbeats 1000000 in
theorem rf_Least (A B : Option Addr) (n m : Nat) (xs cs : List Int) (ca cb : Nat) (k : Int) (w : World) (hx : Ints w A n xs) (hy : Ints w B m cs) (hl : n ≤ 1000000000) (hl' : m ≤ 1000000000) :
    Calls Try.prog 45 #[.slice A n ca, .slice B m cb, .int .i64 k] w fun e w' => e = .returned (.tuple #[.int .i64 (leaV xs cs k), .int .i64 (leaE xs cs k)]) ∧ Below w.heap.size w w' := by
  have hc := rf_stocked A B n m xs cs ca cb w hx hy hl hl'
  have ht := fun W => rf_total (chkS xs cs) k W
  simp only [chkO_thn] at ht
  have hT := fun j => rf_Totals A B n m xs cs ca cb (w.drewN j) (hx.drewN j) (hy.drewN j) hl hl'
  by_cases h1 : chkO xs cs k = 0
  · obtain ⟨h2, h3, h4⟩ := chkO_ok h1
    obtain ⟨k, rfl⟩ := Int.eq_ofNat_of_zero_le h3
    have hV := Lib.hid (show totV xs cs = totL (zp (natL xs) (natL cs) n) 1001 by rw [totV, if_pos h2, hx.len])
    have hZ := Lib.hid (show leaZ xs cs k = leaF 1001 (zp (natL xs) (natL cs) n) k by rw [leaZ, hx.len, Int.toNat_natCast])
    have hE := Lib.hid (show leaE xs cs k = if leaZ xs cs k = -1 then 12 else 0 by rw [leaE, if_pos h1])
    rw [h1] at ht
    clear h1 h2
    have hgl := totL_len (zp (natL xs) (natL cs) n) 1001
    rw [hV.out] at hT
    generalize zp (natL xs) (natL cs) n = l at *
    have hat := Lib.hid (fun i => @leaF_at 1001 l k i)
    have hno' := Lib.hid (@leaF_no 1001 l k)
    generalize totL l 1001 = T at *
    go_enter Try.func45, Try.ntmps45
    go_wp2_with fail
    refine hc.mono ?_; rintro e w' ⟨rfl, j, rfl⟩
    go_wp2_with fail
    refine (ht _).mono ?_; rintro e w' ⟨rfl, rfl⟩
    go_wp2_with fail
    refine (hT j).mono ?_
    rintro e w1 ⟨A1, c1, rfl, hI, hb1⟩
    have hw1 : Below w.heap.size w w1 := undrewN hb1
    clear hb1
    go_wp2_with fail
    go_loopw [11] (fun v wr => ∃ x : Nat, x ≤ T.length ∧ v = .int .i64 x ∧ wr = w1 ∧ Hid (∀ y, y < x → At T y < (k : Int))) (fun v _ => T.length - (intOf v).toNat)
    case atStart => exact ⟨0, by omega, rfl, rfl, fun y h => by omega⟩
    case round =>
      obtain ⟨x, hx2, rfl, rfl, hno⟩ := hrel
      by_cases hlt : x < T.length
      · obtain ⟨b, off, rfl, hb0, hcl⟩ := hI.at_ hlt
        have hi0 : (0 : Int) ≤ (x : Int) := by omega
        have hi1 : (x : Int) < (T.length : Int) := by omega
        by_cases hm : (k : Int) ≤ At T x
        · have he := Lib.hid (hat.out x hlt hm hno.out)
          go_wp2_with fail
          go_ret2
          have e1 : leaZ xs cs k = At T x := by rw [hZ.out, he.out.1]
          have e2 : leaE xs cs k = 0 := by rw [hE.out, e1, if_neg (by have := he.out.2; omega)]
          rw [leaV, if_pos e2, e1, e2]
          exact ⟨rfl, hw1⟩
        · have hm' := Lib.hid (Int.not_le.1 hm)
          go_wp2_with fail
          refine ⟨⟨x + 1, by omega, by go_num, trivial, fun y h2 => ?_⟩, by simp [intOf]; omega⟩
          by_cases e : y = x
          · subst e; exact hm'.out
          · exact hno.out y (by omega)
      · have he := Lib.hid (hno'.out fun y h2 => hno.out y (by omega))
        have hi1 : ¬ (x : Int) < (T.length : Int) := by omega
        go_wp2_with fail
        go_ret2
        have e1 : leaZ xs cs k = -1 := by rw [hZ.out, he.out]
        have e2 : leaE xs cs k = 12 := by rw [hE.out, e1, if_pos rfl]
        rw [leaV, e2, if_neg (by decide)]
        exact ⟨rfl, hw1⟩
  · have hb := ne0 h1
    have hE' : leaE xs cs k = chkO xs cs k := by rw [leaE, if_neg h1]
    have hV := Lib.hid (show leaV xs cs k = 0 by rw [leaV, if_neg (by rw [hE']; exact h1)])
    have hE := Lib.hid hE'
    clear h1 hE'
    go_enter Try.func45, Try.ntmps45
    go_wp2_with fail
    refine hc.mono ?_; rintro e w' ⟨rfl, j, rfl⟩
    go_wp2_with fail
    refine (ht _).mono ?_; rintro e w' ⟨rfl, rfl⟩
    go_wp2_with fail
    go_ret2
    rw [hV.out, hE.out]
    exact ⟨rfl, bdrewN (Below.refl _ _) _⟩
end Go.Proofs.Ytiphgkbnhagkhaa
