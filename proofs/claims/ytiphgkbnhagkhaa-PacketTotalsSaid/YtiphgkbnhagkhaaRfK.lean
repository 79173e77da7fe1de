/- Walks of the reference: counts. -/
import Derived.Test.YtiphgkbnhagkhaaPkW4
import Derived.Deep.RegionHeld3
namespace Go.Proofs.Ytiphgkbnhagkhaa
open Go.RowKit Pk

theorem wayTo_le {f : Nat → Nat} {B s n : Nat} (hf : ∀ m, f m ≤ B) {c : Nat} : ∀ k, k ≤ c + 1 → wayTo f s n k ≤ (c + 1) * B := fun k hk =>
  Nat.le_trans (wayTo_bound hf k) (Nat.mul_le_mul_right B hk)
theorem rk_step {k j c : Nat} {f : Nat → Nat} {a b : Int} (h : a = c) : (if j = k then a else if j < k then (f j : Int) else if j = k then b else 0) = if j < k then (f j : Int) else if j = k then (c : Int) else 0 := by
  by_cases e : j = k
  · subst e; simp [h]
  · simp [e]
theorem rk_done {k j c : Nat} {f : Nat → Nat} (h : f k = c) : (if j < k then (f j : Int) else if j = k then (c : Int) else 0) = if j < k + 1 then (f j : Int) else 0 := by
  by_cases e : j = k
  · subst e; simp [h]
  · by_cases h1 : j < k
    · rw [if_pos h1, if_pos (by omega)]
    · rw [if_neg h1, if_neg e, if_neg (by omega)]

set_option maxRecDepth 100000 in
set_option maxHeartbeats 2000000 in
theorem rf_counts (A B : Option Addr) (n : Nat) (ps cs : List Nat) (ca cb last : Nat) (w : World) (hx : Nats w A n ps) (hy : Nats w B n cs) (hp : ∀ s ∈ ps, 0 < s ∧ s ≤ 1000) (hc : ∀ c ∈ cs, c ≤ 1001)
    (hl : n ≤ 5) (hl' : last ≤ 2000) :
    Calls Try.prog 79 #[.slice A n ca, .slice B n cb, .int .i64 last] w fun e w' => GivesN w w' e (last + 1) ((List.range (last + 1)).map (nw (zp ps cs n))) := by
  have hmk := fun W => mkI ((last : Int) + 1) (last + 1) (by omega) (by omega) W
  have h01 : (0 : Int) < (last : Int) + 1 := by omega
  have h0 := (Whole.new w 3 (Array.replicate (last + 1) (Value.int .i64 0))).frozen 0
  have h00 := (Whole.new w 3 (Array.replicate (last + 1) (Value.int .i64 0))).cell 0
  go_enter Try.func79, Try.ntmps79
  go_wp2_with fail
  go_loopw [7, 8] (fun v i wr => ∃ k A' c', k ≤ n ∧ i = .int .i64 (k : Nat) ∧ v = .slice A' (last + 1) c' ∧ Nats wr A' (last + 1) ((List.range (last + 1)).map (nw (zp ps cs k))) ∧ Below w.heap.size w wr) (fun _ i _ => n - (intOf i).toNat)
  case atStart =>
    refine ⟨0, _, _, by omega, rfl, rfl, (Whole.new _ _ _).nats (((Row.zero (last + 1)).set_ (i := 0) (b := 1) (by omega)).congr fun j hj => ?_) (by simp), (Below.refl _ _).alloc (Nat.le_refl _) _⟩
    rw [NAt_range _ _ hj]
    by_cases e : j = 0
    · subst e; simp [zp, nw]
    · simp [zp, nw, e]
  case round =>
    obtain ⟨k, A', c', hk, rfl, rfl, hN, hw⟩ := hrel
    by_cases hlt : k < n
    · have hs := hp _ (NAt_mem (hx.len ▸ hlt))
      have hcc := hc _ (NAt_mem (hy.len ▸ hlt))
      have hki : (0 : Int) ≤ (k : Int) := by omega
      have hkn : (k : Int) < n := by omega
      have hpr : prod1 (zp ps cs (k + 1)) ≤ 1100000000000000 := zp_prod5 (ps := ps) hc (show k + 1 ≤ n by omega) hl
      have hzp := Lib.hid (show zp ps cs (k + 1) = (NAt ps k, NAt cs k) :: zp ps cs k from rfl)
      rw [hzp.out] at hpr
      have hX := hx.at_ hlt
      have hY := hy.at_ hlt
      generalize NAt ps k = s at *
      generalize NAt cs k = c at *
      generalize zp ps cs k = r at *
      have hp1 : (c + 1) * prod1 r ≤ 1100000000000000 := hpr
      have hb0 := Lib.hid (fun j => nw_le r j)
      have hb1 := Lib.hid (fun x p (hp : p ≤ c + 1) => Nat.le_trans (wayTo_le (f := nw r) (B := prod1 r) (s := s) (n := x) (nw_le r) p hp) hp1)
      have hp2 : prod1 r ≤ 1100000000000000 := Nat.le_trans (Nat.le_mul_of_pos_left _ (by omega)) hp1
      clear hpr hp1
      go_wp2_with fail
      obtain ⟨wo, rfl⟩ : ∃ wo : World, wo = wr := ⟨_, rfl⟩
      go_loopw [10, 11] (fun v _ wr => ∃ x : Nat, x ≤ last + 1 ∧ v = .int .i64 x ∧ (∃ cs', Whole wr wo.heap.size 3 cs' ∧ Row cs' (last + 1) (fun j => if j < x then (nw ((s, c) :: r) j : Int) else 0)) ∧ Below wo.heap.size wo wr) (fun v _ _ => last + 1 - (intOf v).toNat)
      case atStart => exact ⟨0, by omega, rfl, ⟨_, Whole.new _ _ _, (Row.zero (last + 1)).congr fun j _ => by simp⟩, (Below.refl _ _).alloc (Nat.le_refl _) _⟩
      case round =>
        obtain ⟨x, hx2, rfl, ⟨cs', hB, hR⟩, hw'⟩ := hrel
        by_cases hxm : x ≤ last
        · have hxi : (0 : Int) ≤ (x : Int) := by omega
          have hxn : (x : Int) < (last : Int) + 1 := by omega
          go_wp2_with fail
          obtain ⟨w2, rfl⟩ : ∃ w2 : World, w2 = wr := ⟨_, rfl⟩
          go_loopw [11] (fun q wr => ∃ p : Nat, p ≤ c + 1 ∧ q = .int .i64 p ∧ (∃ cs', Whole wr wo.heap.size 3 cs' ∧ Row cs' (last + 1) (fun j => if j < x then (nw ((s, c) :: r) j : Int) else if j = x then (wayTo (nw r) s x p : Int) else 0)) ∧ Below wo.heap.size wo wr) (fun q _ => c + 1 - (intOf q).toNat)
          case atStart =>
            refine ⟨0, by omega, rfl, ⟨_, hB, hR.congr fun j _ => ?_⟩, hw'⟩
            by_cases e : j = x
            · subst e; simp [wayTo]
            · simp [e]
          case round =>
            obtain ⟨p, hp', rfl, ⟨cs2, hB2, hR2⟩, hw2⟩ := hrel
            have hww := hw.trans (hw2.mono hw.size)
            obtain ⟨b, off, eA, hb, hcl⟩ := hX
            obtain ⟨b', off', eB, hb', hcl'⟩ := hY
            have hcl := (hww.cell (p := ⟨b, off + k, none⟩) hb).trans hcl
            have hcl' := (hww.cell (p := ⟨b', off' + k, none⟩) hb').trans hcl'
            subst eA eB
            have c1 := (hB2.cell x).trans (hR2.2 x (by omega))
            simp only [if_neg (Nat.lt_irrefl x), if_pos] at c1
            have c2 := hB2.frozen x
            have e1 : ((p : Int) * (s : Int)) = ((p * s : Nat) : Int) := by simp
            have hps0 : p * s ≤ 1002 * 1000 := Nat.mul_le_mul (by omega) hs.2
            have hps1 : (p : Int) * (s : Int) ≤ 1002000 := by rw [e1]; omega
            have hps2 : (0 : Int) ≤ (p : Int) * (s : Int) := by rw [e1]; omega
            by_cases hpc : p ≤ c
            · by_cases hps : p * s ≤ x
              · obtain ⟨b3, off3, e3, hb3, hcl3⟩ := hN.at_ (k := x - p * s) (by omega)
                have hcl3 := (hw2.cell (p := ⟨b3, off3 + (x - p * s), none⟩) hb3).trans hcl3
                rw [NAt_range _ _ (by omega)] at hcl3
                subst e3
                have hf := hb0.out (x - p * s)
                have hu := hb1.out x p hp'
                have hu2 := hb1.out x (p + 1) (by omega)
                have hstep : wayTo (nw r) s x (p + 1) = wayTo (nw r) s x p + nw r (x - p * s) := by rw [wayTo, if_pos hps]
                have hsum : wayTo (nw r) s x p + nw r (x - p * s) ≤ 1100000000000000 := by rw [← hstep]; exact hu2
                have HST := Lib.hid hstep
                have hne : b3 ≠ wo.heap.size := by omega
                have hps3 : (p : Int) * (s : Int) ≤ x := by rw [e1]; omega
                have hps4 : (x : Int) - (p : Int) * (s : Int) < (last : Int) + 1 := by rw [e1]; omega
                have hps5 : (0 : Int) ≤ (x : Int) - (p : Int) * (s : Int) := by rw [e1]; omega
                have hps6 : ((x : Int) - (p : Int) * (s : Int)).toNat = x - p * s := by rw [e1]; omega
                clear e1 hstep hu2
                go_wp2_with fail
                go_region
                go_wp2_with fail
                refine ⟨⟨p + 1, by omega, by go_num, ⟨_, hB2.set_ x _, (hR2.set_ (by omega)).congr fun j _ => rk_step ?_⟩, (hw2.setCell (Nat.le_refl _) _).drew⟩, by simp [intOf]; omega⟩
                rw [HST.out, Int.natCast_add]
              · have hrest := Lib.hid (wayTo_stop (f := nw r) hps (c + 1 - p))
                have hps3 : ¬ (p : Int) * (s : Int) ≤ x := by rw [e1]; omega
                clear e1
                go_wp2_with fail
                refine ⟨⟨x + 1, by omega, by go_num, ⟨_, hB2, hR2.congr fun j _ => rk_done ?_⟩, hw2⟩, by simp [intOf]; omega⟩
                have := hrest.out
                rw [show p + (c + 1 - p) = c + 1 by omega] at this
                rw [nw, this]
            · have hpc' : ¬ (p : Int) ≤ c := by omega
              have hpe := Lib.hid (show p = c + 1 by omega)
              clear e1
              go_wp2_with fail
              refine ⟨⟨x + 1, by omega, by go_num, ⟨_, hB2, hR2.congr fun j _ => rk_done ?_⟩, hw2⟩, by simp [intOf]; omega⟩
              rw [hpe.out, nw]
        · have hxx : ¬ (x : Int) ≤ (last : Int) := by omega
          have hRd := hR.congr (g := fun j => (NAt ((List.range (last + 1)).map (nw ((s, c) :: r))) j : Int)) fun j hj => by rw [if_pos (by omega), NAt_range _ _ hj]
          have hNd := Lib.hid (hB.nats hRd (by simp))
          clear hR hRd hB
          go_wp2_with fail
          refine ⟨⟨k + 1, _, _, by omega, by go_num, rfl, ?_, hw.trans (hw'.mono hw.size)⟩, by simp [intOf]; omega⟩
          rw [hzp.out]
          exact hNd.out
    · obtain rfl : k = n := by omega
      go_wp2_with fail
      go_ret
      exact ⟨_, _, rfl, hN, hw⟩
end Go.Proofs.Ytiphgkbnhagkhaa
