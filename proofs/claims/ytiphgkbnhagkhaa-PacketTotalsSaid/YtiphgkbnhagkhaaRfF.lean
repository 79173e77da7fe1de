/- Walks of the reference: table. -/
import Derived.Test.YtiphgkbnhagkhaaRfE
import Derived.Test.YtiphgkbnhagkhaaPkW6
namespace Go.Proofs.Ytiphgkbnhagkhaa
open Go.RowKit Pk

/-- The rows behind i are done, and row i up to x. -/
def TabDone (N : Nat) (ps cs : List Nat) (i n m x : Nat) (F : Nat → Nat → Nat) : Prop :=
  (∀ j, i + 1 ≤ j → j ≤ n → ∀ y, y ≤ m → F j y = fewN N (dp ps cs j) y) ∧ ∀ y, y < x → F i y = fewN N (dp ps cs i) y
theorem TabDone.put {N : Nat} {ps cs : List Nat} {i n m x : Nat} {F : Nat → Nat → Nat} (h : TabDone N ps cs i n m x F) {v : Nat} (hv : v = fewN N (dp ps cs i) x) :
    TabDone N ps cs i n m (x + 1) (fun i' y => if i' = i ∧ y = x then v else F i' y) := by
  refine ⟨fun j h1 h2 y hy => ?_, fun y hy => ?_⟩
  · show (if j = i ∧ y = x then v else F j y) = _
    rw [if_neg (by omega)]; exact h.1 j h1 h2 y hy
  · show (if i = i ∧ y = x then v else F i y) = _
    by_cases e : y = x
    · subst e; rw [if_pos ⟨rfl, rfl⟩, hv]
    · rw [if_neg (by omega)]; exact h.2 y (by omega)
set_option maxRecDepth 100000 in
set_option maxHeartbeats 4000000 in
theorem rf_table (N : Nat) (hN : Hid ((N : Int) = 1048576)) (hN1 : 2000 ≤ N) (hN2 : N ≤ 2000000) (A B : Option Addr) (n : Nat) (ps cs : List Nat) (ca cb m : Nat) (w : World) (hx : Nats w A n ps) (hy : Nats w B n cs) (hp : ∀ s ∈ ps, 0 < s ∧ s ≤ 1000) (hc : ∀ c ∈ cs, c ≤ 1001)
    (hl : n ≤ 5) (hm : m ≤ 1000) :
    Calls Try.prog 92 #[.slice A n ca, .slice B n cb, .int .i64 m] w fun e w' => e = .returned (.slice (some ⟨w.heap.size, 0, none⟩) (n + 1) (n + 1)) ∧ TB w w' n m (n + 1) (fun j x => fewN N (dp ps cs j) x) := by
  have hpos := fun i => dp_pos (ps := ps) (cs := cs) (fun s h => (hp s h).1) i
  have hmk := fun W => mkI ((m : Int) + 1) (m + 1) (by omega) (by omega) W
  have hmk2 := fun W => mkII ((n : Int) + 1) (n + 1) (by omega) (by omega) W
  go_enter Try.func92, Try.ntmps92
  go_wp2_with fail
  go_loopw [8] (fun v wr => ∃ k : Nat, k ≤ n + 1 ∧ v = .int .i64 k ∧ TB w wr n m k (fun _ _ => 0) ∧ wr.heap.size = w.heap.size + 1 + k) (fun v _ => n + 1 - (intOf v).toNat)
  case atStart =>
    refine ⟨0, by omega, rfl, ⟨⟨_, Whole.new _ _ _, by simp, fun j hj => by omega, fun j _ hj => by simp [show j < n + 1 by omega]⟩, fun j hj => by omega, (Below.refl _ _).alloc (Nat.le_refl _) _⟩, by simp⟩
  case round =>
    obtain ⟨k, hk, rfl, hT, hsz⟩ := hrel
    by_cases hkn : k ≤ n
    · obtain ⟨c1, c2⟩ := hT.nilat (Nat.le_refl k) hkn
      have hm2 := Lib.hid (hT.more hkn hsz)
      have z1 : (k : Int) < (n : Int) + 1 := by omega
      have z2 : (0 : Int) ≤ (k : Int) := by omega
      have hlt : w.heap.size < wr.heap.size := by omega
      have HSZ := Lib.hid hsz; clear hsz
      go_wp2_with fail
      exact ⟨⟨k + 1, by omega, by go_num, (hm2.out.1).congr fun j _ x _ => by simp, hm2.out.2⟩, by simp [intOf]; omega⟩
    · have hke : k = n + 1 := by omega
      have hT : TB w wr n m (n + 1) (fun _ _ => 0) := hke ▸ hT
      have hkk : ¬ (k : Int) ≤ (n : Int) := by omega
      clear hke hsz
      go_wp2_with fail
      obtain ⟨wo, rfl⟩ : ∃ wo : World, wo = wr := ⟨_, rfl⟩
      go_loopw [9] (fun v wr => ∃ x : Nat, 1 ≤ x ∧ x ≤ m + 1 ∧ v = .int .i64 x ∧ TB w wr n m (n + 1) (fun j y => if j = n ∧ 0 < y ∧ y < x then N else 0)) (fun v _ => m + 1 - (intOf v).toNat)
      case atStart => exact ⟨1, by omega, by omega, rfl, hT.congr fun j _ y _ => by rw [if_neg (by omega)]⟩
      case round =>
        obtain ⟨x, hx1, hx2, rfl, hT⟩ := hrel
        by_cases hxm : x ≤ m
        · have c1 := hT.outer (show n < n + 1 by omega)
          obtain ⟨c2, c3⟩ := hT.row (show n < n + 1 by omega) hxm
          have z1 : (n : Int) < (n : Int) + 1 := by omega
          have z2 : (0 : Int) ≤ (x : Int) := by omega
          have z3 : (x : Int) < (m : Int) + 1 := by omega
          have hput := Lib.hid (hT.put (v := N) (show n < n + 1 by omega) hxm)
          go_wp2_with fail
          refine ⟨⟨x + 1, by omega, by omega, by go_num, ?_⟩, by simp [intOf]; omega⟩
          have := hput.out
          rw [hN.out] at this
          refine this.congr fun j _ y _ => ?_
          by_cases e : j = n ∧ y = x
          · rw [if_pos e, if_pos (by omega)]
          · rw [if_neg e]
            by_cases h : j = n ∧ 0 < y ∧ y < x
            · rw [if_pos h, if_pos (by omega)]
            · rw [if_neg h, if_neg (by omega)]
        · have hT2 : ∃ F, TB w wr n m (n + 1) F ∧ ∀ j, n ≤ j → j ≤ n → ∀ y, y ≤ m → F j y = fewN N (dp ps cs j) y := by
            refine ⟨_, hT, fun j h1 h2 y hy => ?_⟩
            obtain rfl : j = n := by omega
            rw [dp_end hx.len, fewN_nil]
            by_cases e : y = 0
            · subst e; rw [if_neg (by omega), if_pos rfl]
            · rw [if_pos (by omega), if_neg e]
          have hxx : ¬ (x : Int) ≤ (m : Int) := by omega
          clear hT
          go_wp2_with fail
          obtain ⟨wo, rfl⟩ : ∃ wo : World, wo = wr := ⟨_, rfl⟩
          go_loopw [10] (fun v wr => ∃ lo : Nat, lo ≤ n ∧ v = .int .i64 ((lo : Int) - 1) ∧ ∃ F, TB w wr n m (n + 1) F ∧ ∀ j, lo ≤ j → j ≤ n → ∀ y, y ≤ m → F j y = fewN N (dp ps cs j) y) (fun v _ => (intOf v + 1).toNat)
          case atStart => exact ⟨n, Nat.le_refl _, rfl, hT2⟩
          case round =>
            obtain ⟨lo, hlo, rfl, F, hT, hF⟩ := hrel
            by_cases h0 : lo = 0
            · subst h0
              go_wp2_with fail
              go_ret
              exact ⟨rfl, hT.congr fun j hj y hy => hF j (Nat.zero_le _) (by omega) y hy⟩
            · obtain ⟨i, rfl⟩ : ∃ i, lo = i + 1 := ⟨lo - 1, by omega⟩
              have hi1 : (0 : Int) ≤ (i : Int) := by omega
              have hi2 : (i : Int) < n := by omega
              have hi3 : (i : Int) < (n : Int) + 1 := by omega
              have hi4 : (i : Int) + 1 < (n : Int) + 1 := by omega
              have hi5 : (0 : Int) ≤ (i : Int) + 1 := by omega
              have e1 : (((i + 1 : Nat) : Int) - 1) = (i : Int) := by omega
              rw [e1]
              clear e1
              have hs := hp _ (NAt_mem (ps := ps) (k := i) (by rw [hx.len]; omega))
              have hcc := hc _ (NAt_mem (ps := cs) (k := i) (by rw [hy.len]; omega))
              have hdp := Lib.hid (dp_step hx.len hy.len (show i < n by omega))
              have HF := Lib.hid hF; clear hF
              generalize hgs : NAt ps i = s at *
              generalize hgc : NAt cs i = c at *
              have GS := Lib.hid hgs; have GC := Lib.hid hgc; clear hgs hgc
              go_wp2_with fail
              obtain ⟨wo, rfl⟩ : ∃ wo : World, wo = wr := ⟨_, rfl⟩
              go_loopw [11] (fun v wr => ∃ x : Nat, x ≤ m + 1 ∧ v = .int .i64 x ∧ ∃ F, TB w wr n m (n + 1) F ∧ TabDone N ps cs i n m x F) (fun v _ => m + 1 - (intOf v).toNat)
              case atStart => exact ⟨0, by omega, rfl, F, hT, HF.out, fun y hy => by omega⟩
              case round =>
                obtain ⟨x, hx2, rfl, F, hT, hF⟩ := hrel
                by_cases hxm : x ≤ m
                · obtain ⟨b, off, eA, hb, hcl⟩ := (hx.below hT.bel).at_ (k := i) (by omega)
                  obtain ⟨b', off', eB, hb', hcl'⟩ := (hy.below hT.bel).at_ (k := i) (by omega)
                  subst eA eB
                  rw [GS.out] at hcl
                  rw [GC.out] at hcl'
                  have o1 := hT.outer (show i + 1 < n + 1 by omega)
                  have o0 := hT.outer (show i < n + 1 by omega)
                  obtain ⟨r0, r0f⟩ := hT.row (show i < n + 1 by omega) hxm
                  have hxi : (0 : Int) ≤ (x : Int) := by omega
                  have hxn : (x : Int) < (m : Int) + 1 := by omega
                  go_wp2_with fail
                  obtain ⟨wo, rfl⟩ : ∃ wo : World, wo = wr := ⟨_, rfl⟩
                  go_loopw [12, 13] (fun bst q wr => ∃ p j : Nat, p ≤ c + 1 ∧ q = .int .i64 p ∧ bst = .int .i64 (upN N (dp ps cs (i + 1)) s x p : Nat) ∧ wr = wo.drewN j) (fun _ q _ => c + 1 - (intOf q).toNat)
                  case atStart => exact ⟨0, 0, by omega, rfl, by rw [upN_zero, hN.out], rfl⟩
                  case round =>
                    obtain ⟨p, j, hp1, rfl, rfl, rfl⟩ := hrel
                    have e1 : ((p : Int) * (s : Int)) = ((p * s : Nat) : Int) := by simp
                    have hps0 : p * s ≤ 1002 * 1000 := Nat.mul_le_mul (by omega) hs.2
                    have hps1 : (p : Int) * (s : Int) ≤ 1002000 := by rw [e1]; omega
                    have hps2 : (0 : Int) ≤ (p : Int) * (s : Int) := by rw [e1]; omega
                    by_cases hpc : p ≤ c
                    · by_cases hps : p * s ≤ x
                      · obtain ⟨r1, _⟩ := hT.row (show i + 1 < n + 1 by omega) (show x - p * s ≤ m by omega)
                        rw [hF.1 (i + 1) (Nat.le_refl _) (by omega) _ (by omega)] at r1
                        have hf := fewN_le (hpos (i + 1)) (N := N) (n := x - p * s) (by omega)
                        have hu := upN_le (hpos (i + 1)) hs.1 (N := N) (n := x) (by omega) p
                        have hstep := Lib.hid (upN_succ (N := N) (hpos (i + 1)) hs.1 (by omega) hps)
                        have hps3 : (p : Int) * (s : Int) ≤ x := by rw [e1]; omega
                        have hps4 : (x : Int) - (p : Int) * (s : Int) < (m : Int) + 1 := by rw [e1]; omega
                        have hps5 : (0 : Int) ≤ (x : Int) - (p : Int) * (s : Int) := by rw [e1]; omega
                        have hps6 : ((x : Int) - (p : Int) * (s : Int)).toNat = x - p * s := by rw [e1]; omega
                        clear e1
                        go_wp2_with fail
                        go_region
                        go_wp2_with fail
                        refine ⟨⟨p + 1, _, by omega, by go_num, ?_, drew1 _ _⟩, by simp [intOf]; omega⟩
                        rw [hstep.out]
                        refine congrArg (Value.int .i64) ?_
                        split <;> omega
                      · have hrest := Lib.hid (upN_rest (N := N) (l := dp ps cs (i + 1)) hps (c + 1 - p))
                        have hps3 : ¬ (p : Int) * (s : Int) ≤ x := by rw [e1]; omega
                        clear e1
                        have hv : upN N (dp ps cs (i + 1)) s x p = fewN N (dp ps cs i) x := by
                          have := hrest.out
                          rw [show p + (c + 1 - p) = c + 1 by omega] at this
                          rw [hdp.out, fewN_cons, this]
                        have HV := Lib.hid hv; clear hv
                        go_wp2_with fail
                        exact ⟨⟨x + 1, by omega, by go_num, _, (hT.put (show i < n + 1 by omega) hxm).drewN j, hF.put HV.out⟩, by simp [intOf]; omega⟩
                    · have hv : upN N (dp ps cs (i + 1)) s x p = fewN N (dp ps cs i) x := by
                        rw [hdp.out, fewN_cons, show p = c + 1 by omega]
                      have HV := Lib.hid hv
                      have hpc' : ¬ (p : Int) ≤ c := by omega
                      clear e1 hv
                      go_wp2_with fail
                      exact ⟨⟨x + 1, by omega, by go_num, _, (hT.put (show i < n + 1 by omega) hxm).drewN j, hF.put HV.out⟩, by simp [intOf]; omega⟩
                · have hxx : ¬ (x : Int) ≤ (m : Int) := by omega
                  go_wp2_with fail
                  refine ⟨⟨i, by omega, rfl, F, hT, fun j h1 h2 y hy => ?_⟩, by simp [intOf]⟩
                  by_cases e : j = i
                  · subst e; exact hF.2 y (by omega)
                  · exact hF.1 j (by omega) h2 y hy
end Go.Proofs.Ytiphgkbnhagkhaa
