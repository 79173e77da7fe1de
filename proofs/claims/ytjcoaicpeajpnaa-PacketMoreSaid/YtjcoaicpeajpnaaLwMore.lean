/- The walk of PacketMore. -/
import Derived.Test.YtjcoaicpeajpnaaSyZ
import Derived.Test.YtjcoaicpeajpnaaSyL
namespace Go.Proofs.Ytjcoaicpeajpnaa
open Go.RowKit Pk

set_option maxRecDepth 100000 in
set_option maxHeartbeats 1000000 in
theorem lw_packets (A : Option Addr) (n : Nat) (xs : List Int) (ca : Nat) (w : World) (hx : Ints w A n xs) (hl : n ≤ 1000) (hb : ∀ k, k < n → -1000000 ≤ At xs k ∧ At xs k ≤ 1000000) :
    Calls Try.prog 58 #[.slice A n ca] w fun e w' => e = .returned (.int .i64 (pkS xs n)) ∧ w' = w := by
  go_enter Try.func58, Try.ntmps58
  go_wp2_with fail
  go_loopw [3, 8] (fun v i wr => ∃ k : Nat, k ≤ n ∧ i = .int .i64 k ∧ v = .int .i64 (pkS xs k) ∧ wr = w) (fun _ i _ => n - (intOf i).toNat)
  case atStart => exact ⟨0, by omega, rfl, rfl, rfl⟩
  case round =>
    obtain ⟨k, hk, rfl, rfl, rfl⟩ := hrel
    by_cases hlt : k < n
    · obtain ⟨b, off, rfl, hbk, hcl⟩ := hx.at_ hlt
      have hi0 : (0 : Int) ≤ (k : Int) := by omega
      have hi1 : (k : Int) < n := by omega
      have hv := hb k hlt
      have hs := pkS_bound xs k
      have hst := Lib.hid (show pkS xs (k + 1) = pkS xs k + min (max (At xs k) 0) 1000 from rfl)
      generalize At xs k = v at *
      generalize pkS xs k = sm at *
      by_cases c1 : v < 0
      · have m1 : min (max v 0) 1000 = 0 := by omega
        rw [m1] at hst
        clear m1
        go_wp2_with fail
        exact ⟨⟨k + 1, by omega, by go_num, by rw [hst.out, Int.add_zero], trivial⟩, by simp [intOf]; omega⟩
      · by_cases c2 : 1000 < v
        · have m1 : min (max v 0) 1000 = 1000 := by omega
          rw [m1] at hst
          have c3 : ¬ v < 1000 := by omega
          clear m1
          go_wp2_with fail
          exact ⟨⟨k + 1, by omega, by go_num, by rw [hst.out], trivial⟩, by simp [intOf]; omega⟩
        · have m1 : min (max v 0) 1000 = v := by omega
          rw [m1] at hst
          clear m1
          go_wp2_with fail
          exact ⟨⟨k + 1, by omega, by go_num, by rw [hst.out], trivial⟩, by simp [intOf]; omega⟩
    · obtain rfl : n = k := by omega
      go_wp2_with fail
      go_ret
      exact ⟨rfl, rfl⟩

/-- The stock with more packets -/
theorem yA_at (y : Nat → Nat) {i : Nat} (h : i < 4) : (#[Value.int .u8 (y 0), .int .u8 (y 1), .int .u8 (y 2), .int .u8 (y 3)] : Array Value)[i]? = some (.int .u8 (y i)) := by
  rcases (show i = 0 ∨ i = 1 ∨ i = 2 ∨ i = 3 by omega) with rfl | rfl | rfl | rfl <;> rfl
theorem ansL_bd (l : List (Nat × Nat)) {m : Nat} (_hm : m ≤ 1000) (hp : ∀ p ∈ l, 0 < p.1) : ∀ x ∈ ansL l m, x ≤ m := by
  intro x hx
  rw [ansL] at hx
  cases hv : few l m with
  | none => rw [hv] at hx; simp at hx
  | some v =>
    rw [hv] at hx
    have h1 := bestL_sum l m v hv
    have h2 := few_le hp m v hv
    have h3 := le_sum (l := bestL l m) (y := x) (by simpa using hx)
    omega

set_option maxRecDepth 100000 in
set_option maxHeartbeats 40000000 in
theorem lw_PacketMore (z : Nat → Nat) (hz : ∀ i, z i ≤ 255) (p q : Nat) (y : Nat → Nat) (hp : p ≤ 255) (hy : ∀ i, y i ≤ 255) (hq : q ≤ 65535) (w : World) :
    Calls Try.prog 11 #[.agg (shA z), .int .u8 p, .agg #[.int .u8 (y 0), .int .u8 (y 1), .int .u8 (y 2), .int .u8 (y 3)], .int .u16 q] w fun e w' => e = .returned (.bool true) ∧ Below w.heap.size w w' := by
  have kM := fun W => lw_made z hz 30 40 (by omega) (by omega) (by omega) W
  have HB0 := (Below.refl w.heap.size w).alloc (Nat.le_refl _) (.cells (shA z) 53)
  simp only [shA] at kM HB0 ⊢
  have HB := HB0.alloc HB0.size (.cells #[.int .u8 (y 0), .int .u8 (y 1), .int .u8 (y 2), .int .u8 (y 3)] 51)
  have HY := Whole.new (w.alloc (.cells #[.int .u8 (z 0), .int .u8 (z 1), .int .u8 (z 2), .int .u8 (z 3), .int .u8 (z 4), .int .u8 (z 5), .int .u8 (z 6), .int .u8 (z 7), .int .u8 (z 8)] 53)) 51 #[.int .u8 (y 0), .int .u8 (y 1), .int .u8 (y 2), .int .u8 (y 3)]
  rw [show (w.alloc (.cells #[.int .u8 (z 0), .int .u8 (z 1), .int .u8 (z 2), .int .u8 (z 3), .int .u8 (z 4), .int .u8 (z 5), .int .u8 (z 6), .int .u8 (z 7), .int .u8 (z 8)] 53)).heap.size = w.heap.size + 1 by simp] at HY
  obtain ⟨m, em, lm⟩ : ∃ m : Nat, ((q : Nat) : Int) % 1001 = (m : Int) ∧ m ≤ 1000 := ⟨q % 1001, by simp, Nat.le_of_lt_succ (Nat.mod_lt _ (by omega))⟩
  obtain ⟨r, er, lr⟩ : ∃ r : Nat, ((p : Nat) : Int) % 30 = (r : Int) ∧ r < 30 := ⟨p % 30, by simp, Nat.mod_lt _ (by omega)⟩
  obtain ⟨x, ex⟩ : ∃ x : Nat, x = 1 + r := ⟨_, rfl⟩
  have exi : (1 : Int) + (r : Int) = (x : Int) := by omega
  have hx1 : 1 ≤ x := by omega
  have hx2 : x ≤ 30 := by omega
  clear ex lr
  go_enter Try.func11, Try.ntmps11
  go_wp2_with fail
  refine (kM _).mono ?_; rintro e w1 ⟨A, c, B, dd, n, ps, cs, rfl, HN, HC, hS, hcs, hnc, hcm, d1⟩
  have hyb := HY.lt
  replace HY := HY.below d1 hyb
  replace HB := HB.trans (d1.mono HB.size)
  clear kM d1 HB0
  have hn1 := hS.2.1
  have hn4 := hS.2.2.1
  have hl : ps.length = n := hS.1
  have hlc : cs.length = n := HC.len
  have h5 := hS.five (by omega)
  have hpos : ∀ s ∈ ps, 0 < s := fun s hs => (hS.2.2.2.2 s hs).1
  have HX := HN.ints
  obtain ⟨b0, o0, rfl, hb0, hc0⟩ := HN.at_ (k := 0) (by omega)
  obtain ⟨b1, o1, rfl, hb1, hc1⟩ := HC.at_ (k := 0) (by omega)
  clear hb0 hc0 hb1 hc1
  have hy1 := HY.lt
  have HX1 := HX
  go_wp2_with fail
  simp only [er, em]
  clear er em
  refine (sl_CloneI b0 o0 n c (ps.map Int.ofNat) w1 HX (by omega)).mono ?_; rintro e w2 ⟨v2, rfl, hown, d1⟩
  have hsz : w1.heap.size ≤ w2.heap.size := d1.size
  have hd := d1
  clear d1
  obtain ⟨A2, c2, rfl, HI2⟩ := hown.form
  have l2 : (ps.map Int.ofNat).length = n := by rw [List.length_map, hl]
  rw [l2] at HI2 hown ⊢
  have kK := sl_Contains A2 n (ps.map Int.ofNat) c2 x w2 HI2 (by omega)
  have hcl := Lib.hid (show ∃ (Aw : Option Addr) (n' cw : Nat), True from ⟨none, 0, 0, trivial⟩)
  clear hcl
  cases hct : (ps.map Int.ofNat).contains (x : Int) with
  | true =>
    rw [hct] at kK
    clear hct
    go_wp2_with fail
    refine kK.mono ?_; rintro e w3 ⟨rfl, rfl⟩
    clear hown
    replace HY := HY.below hd hy1; replace HX := HX.below hd; replace HN := HN.below hd; replace HC := HC.below hd; replace HB := HB.trans (hd.mono HB.size)
    clear hd HX1 hsz
    obtain ⟨qs, eqs⟩ : ∃ qs, qs = ps := ⟨_, rfl⟩
    have HW : Ints w3 A2 n (qs.map Int.ofNat) := by rw [eqs]; exact HI2
    have hQ : Siz5 qs n := by rw [eqs]; exact h5
    have hsub : ∀ y ∈ ps, y ∈ qs := by rw [eqs]; exact fun _ h => h
    clear HI2 eqs
    have hposq : ∀ s ∈ qs, 0 < s := fun s hs => (hQ.2.2.2.2 s hs).1
    have kA := fun W (h : Ints W (some ⟨b0, o0, none⟩) n (ps.map Int.ofNat)) => pk_Make (some ⟨b0, o0, none⟩) n _ c m W h (by omega)
    have kB := fun W (h : Ints W A2 n (qs.map Int.ofNat)) => pk_Make A2 n _ c2 m W h (by have := hQ.2.2.1; omega)
    obtain ⟨a1, a2⟩ := mak_ans h5 lm
    obtain ⟨a3, a4⟩ := mak_ans hQ lm
    rw [a1, a2] at kA
    rw [a3, a4] at kB
    have hmono := ans_more (l := ps.zip (ps.map (m / ·))) (l' := qs.zip (qs.map (m / ·))) lm (zip_pos hpos) (fun v => more_sizes h5.pair hQ.pair hsub)
    have lz1 : (ps.zip (ps.map (m / ·))).length = n := by rw [List.length_zip, List.length_map, hS.1]; simp
    have lz2 : (qs.zip (qs.map (m / ·))).length = n := by rw [List.length_zip, List.length_map, hQ.1]; simp
    rw [lz1, lz2] at hmono
    have htwo := ans_two (ps.zip (ps.map (m / ·))) m
    have hle1 := ansL_len (ps.zip (ps.map (m / ·))) m
    have hle2 := ansL_len (qs.zip (qs.map (m / ·))) m
    rw [lz1] at hle1
    rw [lz2] at hle2
    have q1 := hQ.2.2.1
    have hzA := ansL_bd (ps.zip (ps.map (m / ·))) lm (zip_pos hpos)
    have hzB := ansL_bd (qs.zip (qs.map (m / ·))) lm (zip_pos hposq)
    clear a1 a2 a3 a4 lz1 lz2 hsub hposq
    obtain ⟨za, eza⟩ : ∃ za, za = ps.zip (ps.map (m / ·)) := ⟨_, rfl⟩
    obtain ⟨zb, ezb⟩ : ∃ zb, zb = qs.zip (qs.map (m / ·)) := ⟨_, rfl⟩
    rw [← eza] at kA hmono hle1 htwo hzA
    rw [← ezb] at kB hmono hle2 hzB
    clear eza ezb
    go_wp2_with fail
    refine (kA _ HX).mono ?_; rintro e wA ⟨A6, c6, rfl, HA, d1⟩
    replace HY := HY.below d1 HY.lt; replace HX := HX.below d1; replace HN := HN.below d1; replace HC := HC.below d1; replace HW := HW.below d1; replace HB := HB.trans (d1.mono HB.size); clear d1
    go_wp2_with fail
    refine (kB _ HW).mono ?_; rintro e wB ⟨A7, c7, rfl, HD, d1⟩
    replace HY := HY.below d1 HY.lt; replace HA := HA.below d1; replace HX := HX.below d1; replace HN := HN.below d1; replace HC := HC.below d1; replace HB := HB.trans (d1.mono HB.size); clear d1
    clear kA kB HW hQ
    rcases htwo with h0 | h0
    · obtain ⟨f0, la, lb, hpk⟩ := hmono h0
      have lA : ((ansL za m).map Int.ofNat).length = n := by rw [List.length_map, la]
      have lB : ((ansL zb m).map Int.ofNat).length = n := by rw [List.length_map, lb]
      have bA : ∀ k, k < n → -1000000 ≤ At ((ansL za m).map Int.ofNat) k ∧ At ((ansL za m).map Int.ofNat) k ≤ 1000000 := fun k hk => by
        have := hzA (NAt (ansL za m) k) (NAt_mem (by omega)); rw [At_map]; omega
      have bB : ∀ k, k < n → -1000000 ≤ At ((ansL zb m).map Int.ofNat) k ∧ At ((ansL zb m).map Int.ofNat) k ≤ 1000000 := fun k hk => by
        have := hzB (NAt (ansL zb m) k) (NAt_mem (by omega)); rw [At_map]; omega
      rw [lA] at HA
      rw [lB] at HD
      simp only [List.length_map, la, lb, h0, f0]
      have kP := lw_packets A7 n _ c7 wB HD (by omega) bB
      have kQ := lw_packets A6 n _ c6 wB HA (by omega) bA
      have hpk' : ¬ pkS ((ansL za m).map Int.ofNat) n < pkS ((ansL zb m).map Int.ofNat) n := by omega
      clear bA bB lA lB la lb hmono h0 f0 hle1 hle2 hzA hzB HA HD hpk
      generalize pkS ((ansL za m).map Int.ofNat) n = S1 at *
      generalize pkS ((ansL zb m).map Int.ofNat) n = S2 at *
      go_wp2_with fail
      refine kP.mono ?_; rintro e w8 ⟨rfl, rfl⟩
      go_wp2_with fail
      refine kQ.mono ?_; rintro e w8 ⟨rfl, rfl⟩
      clear kP kQ
      go_wp2_with fail
      go_loopw [19, 20, 107] (fun u v g wr => ∃ (i : Nat) (fs : List Nat), i ≤ n ∧ g = .int .i64 i ∧ OwnI wr w8.heap.size u (fs.map Int.ofNat) ∧ OwnI wr w8.heap.size v ((List.replicate i 40).map Int.ofNat) ∧ Apart u v ∧ Hid (fs.length = i ∧ (∀ j, j < i → NAt cs j ≤ NAt fs j) ∧ ∀ f ∈ fs, f ≤ 40) ∧ Below w8.heap.size w8 wr) (fun _ _ g _ => n - (intOf g).toNat)
      case atStart => exact ⟨0, [], by omega, rfl, OwnI.nil_ _ _, OwnI.nil_ _ _, (fun g h => by simp [Value.ownBlock] at h : Apart _ _), ⟨rfl, fun j hj => by omega, by simp⟩, Below.refl _ _⟩
      case round =>
        obtain ⟨i, fs, hi, rfl, ho1, ho2, hap, hfs, hw⟩ := hrel
        have hszb := hw.size
        by_cases hlt : i < n
        · obtain ⟨bc, oc, eqc, hbc, hcc⟩ := (HC.below hw).at_ hlt
          cases eqc
          have hci := hcs _ (NAt_mem (ps := cs) (k := i) (by omega))
          have hya := ((HY.below hw HY.lt).cell i).trans (yA_at y (show i < 4 by omega))
          have hyi := hy i
          have x1 : (0 : Int) ≤ (i : Int) := by omega
          have x2 : (i : Int) < n := by omega
          have x3 : (i : Int) < 4 := by omega
          obtain ⟨t9, e9, l9⟩ : ∃ t9 : Nat, ((y i : Nat) : Int) % 9 = (t9 : Int) ∧ t9 < 9 := ⟨y i % 9, by simp, Nat.mod_lt _ (by omega)⟩
          obtain ⟨f, ef⟩ : ∃ f : Nat, f = min 40 (NAt cs i + t9) := ⟨_, rfl⟩
          have hst := Lib.hid (show (fs ++ [f]).length = i + 1 ∧ (∀ j, j < i + 1 → NAt cs j ≤ NAt (fs ++ [f]) j) ∧ ∀ g ∈ fs ++ [f], g ≤ 40 from by
            obtain ⟨q1, q2, q3⟩ := hfs.out
            refine ⟨by simp [q1], fun j hj => ?_, fun g hg => ?_⟩
            · by_cases e : j = i
              · subst e
                have e2 : NAt (fs ++ [f]) j = f := by rw [← q1]; simp [NAt]
                rw [e2]; omega
              · have e2 : NAt (fs ++ [f]) j = NAt fs j := by simp [NAt, List.getElem?_append_left (show j < fs.length by omega)]
                rw [e2]; exact q2 j (by omega)
            · rcases List.mem_append.1 hg with hg | hg
              · exact q3 g hg
              · rw [List.mem_singleton] at hg; omega)
          have hfl : (fs.map Int.ofNat).length ≤ 1000000000 := by rw [List.length_map, hfs.out.1]; omega
          have hrl : ((List.replicate i 40).map Int.ofNat).length ≤ 1000000000 := by rw [List.length_map, List.length_replicate]; omega
          have hrep : (List.replicate (i + 1) 40).map Int.ofNat = (List.replicate i 40).map Int.ofNat ++ [40] := by rw [List.replicate_succ']; simp
          have hrep := Lib.hid hrep
          generalize NAt cs i = ci at *

          have hfl := Lib.hid hfl
          have hrl := Lib.hid hrl
          by_cases c1 : ci + t9 < 40
          · have c2 : (ci : Int) + (t9 : Int) < 40 := by omega
            have ef' : (ci : Int) + (t9 : Int) = (f : Int) := by omega
            clear ef c1
            go_wp2_with (first
              | (at_builtin; refine wpList_app2 rfl _ _ rfl w8.heap.size _ _ (fs.map Int.ofNat) _ f (by rfl) ho1 ho2 hap hszb hfl.out (by rfl) ?_; intro v7 w7 ho3 ho4 hap2 hb7)
              | (at_builtin; refine wpList_app2 rfl _ _ rfl w8.heap.size _ _ ((List.replicate i 40).map Int.ofNat) _ 40 (by rfl) ho4 ho3 hap2.symm (hb7 _ hw).size hrl.out (by rfl) ?_; intro v8 w8 ho5 ho6 hap3 hb8))
            exact ⟨⟨i + 1, fs ++ [f], by omega, by go_num, by rw [List.map_append]; exact ho6, by rw [hrep.out]; exact ho5, hap3.symm, hst.out, hb8 _ (hb7 _ hw)⟩, by simp [intOf]; omega⟩
          · have c2 : ¬ (ci : Int) + (t9 : Int) < 40 := by omega
            have ef' : f = 40 := by omega
            subst ef'
            clear ef c1
            go_wp2_with (first
              | (at_builtin; refine wpList_app2 rfl _ _ rfl w8.heap.size _ _ (fs.map Int.ofNat) _ 40 (by rfl) ho1 ho2 hap hszb hfl.out (by rfl) ?_; intro v7 w7 ho3 ho4 hap2 hb7)
              | (at_builtin; refine wpList_app2 rfl _ _ rfl w8.heap.size _ _ ((List.replicate i 40).map Int.ofNat) _ 40 (by rfl) ho4 ho3 hap2.symm (hb7 _ hw).size hrl.out (by rfl) ?_; intro v8 w8 ho5 ho6 hap3 hb8))
            exact ⟨⟨i + 1, fs ++ [40], by omega, by go_num, by rw [List.map_append]; exact ho6, by rw [hrep.out]; exact ho5, hap3.symm, hst.out, hb8 _ (hb7 _ hw)⟩, by simp [intOf]; omega⟩
        · obtain rfl : n = i := by omega
          obtain ⟨A19, c19, rfl, HI19⟩ := ho1.form
          obtain ⟨A20, c20, rfl, HI20⟩ := ho2.form
          have hfs := hfs.out
          have lf : (fs.map Int.ofNat).length = n := by rw [List.length_map, hfs.1]
          have lr : ((List.replicate n 40).map Int.ofNat).length = n := by rw [List.length_map, List.length_replicate]
          rw [lf] at HI19 ⊢
          rw [lr] at HI20 ⊢
          replace HX := HX.below hw; replace HN := HN.below hw; replace HC := HC.below hw; replace HB := HB.trans (hw.mono HB.size)
          clear ho1 ho2 hap hw hszb HY lf lr
          have HCi := HC.ints
          have hcf : ∀ f ∈ fs, f ≤ 40 := hfs.2.2
          obtain ⟨s0, es0⟩ : ∃ s0, NAt ps 0 = s0 := ⟨_, rfl⟩
          have hs0 := h5.at_ (k := 0) (by omega)
          rw [es0] at hs0
          obtain ⟨a1, a2⟩ := fil_ans h5 hlc hcs lm
          obtain ⟨a3, a4⟩ := fil_ans h5 hfs.1 hcf lm
          have kF1 := fun W (h : Ints W (some ⟨b0, o0, none⟩) n (ps.map Int.ofNat)) (h' : Ints W (some ⟨b1, o1, none⟩) n (cs.map Int.ofNat)) => pk_Fill (some ⟨b0, o0, none⟩) (some ⟨b1, o1, none⟩) n n _ _ c dd m W h h' (by omega) (by omega)
          have kF2 := fun W (h : Ints W (some ⟨b0, o0, none⟩) n (ps.map Int.ofNat)) (h' : Ints W A19 n (fs.map Int.ofNat)) => pk_Fill (some ⟨b0, o0, none⟩) A19 n n _ _ c c19 m W h h' (by omega) (by omega)
          rw [a1, a2] at kF1
          rw [a3, a4] at kF2
          have hmono2 := ans_more (l := ps.zip cs) (l' := ps.zip fs) lm (zip_pos hpos) (fun v => fil_caps ps cs fs m v (by rw [hlc, hfs.1]) (fun i hi => hfs.2.1 i (by omega)))
          have lz1 : (ps.zip cs).length = n := by rw [List.length_zip, hl, hlc, Nat.min_self]
          have lz2 : (ps.zip fs).length = n := by rw [List.length_zip, hl, hfs.1, Nat.min_self]
          rw [lz1, lz2] at hmono2
          have htwo2 := ans_two (ps.zip cs) m
          have hzC := ansL_bd (ps.zip cs) lm (zip_pos hpos)
          have hzD := ansL_bd (ps.zip fs) lm (zip_pos hpos)
          obtain ⟨zc, ezc⟩ : ∃ zc, zc = ps.zip cs := ⟨_, rfl⟩
          obtain ⟨zd, ezd⟩ : ∃ zd, zd = ps.zip fs := ⟨_, rfl⟩
          rw [← ezc] at kF1 htwo2 hzC hmono2
          rw [← ezd] at kF2 hzD hmono2
          clear a1 a2 a3 a4 lz1 lz2 ezc ezd hcf hfs
          go_wp2_with fail
          refine (kF1 _ HX HCi).mono ?_; rintro e wC ⟨A8, c8, rfl, HP, d1⟩
          replace HX := HX.below d1; replace HN := HN.below d1; replace HI19 := HI19.below d1; replace HI20 := HI20.below d1; replace HB := HB.trans (d1.mono HB.size); clear d1
          go_wp2_with fail
          refine (kF2 _ HX HI19).mono ?_; rintro e wD ⟨A9, c9, rfl, HQ, d1⟩
          replace HP := HP.below d1; replace HX := HX.below d1; replace HN := HN.below d1; replace HI20 := HI20.below d1; replace HB := HB.trans (d1.mono HB.size); clear d1
          clear kF1 kF2 HCi HC HI19
          rcases htwo2 with h0 | h0
          · obtain ⟨f0, la, lb, hpk⟩ := hmono2 h0
            have lA : ((ansL zc m).map Int.ofNat).length = n := by rw [List.length_map, la]
            have lB : ((ansL zd m).map Int.ofNat).length = n := by rw [List.length_map, lb]
            have bA : ∀ k, k < n → -1000000 ≤ At ((ansL zc m).map Int.ofNat) k ∧ At ((ansL zc m).map Int.ofNat) k ≤ 1000000 := fun k hk => by
              have := hzC (NAt (ansL zc m) k) (NAt_mem (by omega)); rw [At_map]; omega
            have bB : ∀ k, k < n → -1000000 ≤ At ((ansL zd m).map Int.ofNat) k ∧ At ((ansL zd m).map Int.ofNat) k ≤ 1000000 := fun k hk => by
              have := hzD (NAt (ansL zd m) k) (NAt_mem (by omega)); rw [At_map]; omega
            rw [lA] at HP
            rw [lB] at HQ
            simp only [List.length_map, la, lb, h0, f0]
            have kP := lw_packets A9 n _ c9 wD HQ (by omega) bB
            have kQ := lw_packets A8 n _ c8 wD HP (by omega) bA
            have hpk' : ¬ pkS ((ansL zc m).map Int.ofNat) n < pkS ((ansL zd m).map Int.ofNat) n := by omega
            clear bA bB lA lB la lb hmono2 h0 f0 hzC hzD HP HQ hpk
            generalize pkS ((ansL zc m).map Int.ofNat) n = S3 at *
            generalize pkS ((ansL zd m).map Int.ofNat) n = S4 at *
            obtain ⟨k, eqK, lk1, lk2⟩ : ∃ k : Nat, ((m : Nat) : Int) % (40 * (s0 : Int) + 1) = (k : Int) ∧ k ≤ 40 * s0 ∧ k ≤ 1000 := ⟨m % (40 * s0 + 1), by simp, Nat.le_of_lt_succ (Nat.mod_lt _ (by omega)), Nat.le_trans (Nat.mod_le _ _) lm⟩
            obtain ⟨bx, ox, eqx, hbx, hcx⟩ := HN.at_ (k := 0) (by omega)
            cases eqx
            rw [Nat.add_zero, es0] at hcx
            have v1 : (0 : Int) < (n : Int) := by omega
            have v2 : (0 : Int) < 40 * (s0 : Int) + 1 := by omega
            have h40 : ∀ c ∈ List.replicate n 40, c ≤ 40 := fun c hc => by rw [List.mem_replicate] at hc; omega
            obtain ⟨a1, a2⟩ := fil_ans h5 (List.length_replicate (n := n) (a := 40)) h40 lk2
            obtain ⟨a3, a4⟩ := mak_ans h5 lk2
            obtain ⟨a5, a6⟩ := enough_ans h5 (k := k) (by rw [es0]; exact lk1)
            have erep : (ps.map fun _ => 40) = List.replicate n 40 := List.ext_getElem (by rw [List.length_map, List.length_replicate, hl]) (fun i h1 h2 => by rw [List.getElem_map, List.getElem_replicate])
            rw [erep] at a5 a6
            rw [a5] at a1
            rw [a6] at a2
            have kF3 := fun W (h : Ints W (some ⟨b0, o0, none⟩) n (ps.map Int.ofNat)) (h' : Ints W A20 n ((List.replicate n 40).map Int.ofNat)) => pk_Fill (some ⟨b0, o0, none⟩) A20 n n _ _ c c20 k W h h' (by omega) (by omega)
            have kA3 := fun W (h : Ints W (some ⟨b0, o0, none⟩) n (ps.map Int.ofNat)) => pk_Make (some ⟨b0, o0, none⟩) n _ c k W h (by omega)
            rw [a1, a2] at kF3
            rw [a3, a4] at kA3
            have hLk := ansL_len (ps.zip (ps.map (k / ·))) k
            rw [List.length_zip, List.length_map, hl, Nat.min_self] at hLk
            generalize ps.zip (ps.map (k / ·)) = zk at *
            clear a1 a2 a3 a4 a5 a6 erep h40 lk1
            go_wp2_with fail
            refine kP.mono ?_; rintro e wE ⟨rfl, rfl⟩
            go_wp2_with fail
            refine kQ.mono ?_; rintro e wE ⟨rfl, rfl⟩
            clear kP kQ
            go_wp2_with fail
            refine (kF3 _ HX HI20).mono ?_; rintro e wF ⟨A12, c12, rfl, HF3, d1⟩
            replace HX := HX.below d1; replace HB := HB.trans (d1.mono HB.size); clear d1
            go_wp2_with fail
            refine (kA3 _ HX).mono ?_; rintro e wG ⟨A13, c13, rfl, HF4, d1⟩
            replace HF3 := HF3.below d1; replace HB := HB.trans (d1.mono HB.size); clear d1
            rw [List.length_map] at HF3 HF4
            simp only [List.length_map]
            generalize (ansL zk k).map Int.ofNat = lk at *
            generalize (ansL zk k).length = Lk at *
            generalize ansE zk k = ek at *
            go_wp2_with fail
            refine (same_refl HF3 HF4 (by omega)).mono ?_; rintro e wH ⟨rfl, d1⟩
            replace HB := HB.trans (d1.mono HB.size); clear d1
            go_wp2_with fail
            refine (lw_works _).mono ?_; rintro e wI ⟨rfl, d1⟩
            replace HB := HB.trans (d1.mono HB.size); clear d1
            go_wp2_with fail
            go_ret
            exact ⟨rfl, HB⟩
          · simp only [List.length_map, h0]
            clear hmono2 h0 hzC hzD HP HQ
            obtain ⟨k, eqK, lk1, lk2⟩ : ∃ k : Nat, ((m : Nat) : Int) % (40 * (s0 : Int) + 1) = (k : Int) ∧ k ≤ 40 * s0 ∧ k ≤ 1000 := ⟨m % (40 * s0 + 1), by simp, Nat.le_of_lt_succ (Nat.mod_lt _ (by omega)), Nat.le_trans (Nat.mod_le _ _) lm⟩
            obtain ⟨bx, ox, eqx, hbx, hcx⟩ := HN.at_ (k := 0) (by omega)
            cases eqx
            rw [Nat.add_zero, es0] at hcx
            have v1 : (0 : Int) < (n : Int) := by omega
            have v2 : (0 : Int) < 40 * (s0 : Int) + 1 := by omega
            have h40 : ∀ c ∈ List.replicate n 40, c ≤ 40 := fun c hc => by rw [List.mem_replicate] at hc; omega
            obtain ⟨a1, a2⟩ := fil_ans h5 (List.length_replicate (n := n) (a := 40)) h40 lk2
            obtain ⟨a3, a4⟩ := mak_ans h5 lk2
            obtain ⟨a5, a6⟩ := enough_ans h5 (k := k) (by rw [es0]; exact lk1)
            have erep : (ps.map fun _ => 40) = List.replicate n 40 := List.ext_getElem (by rw [List.length_map, List.length_replicate, hl]) (fun i h1 h2 => by rw [List.getElem_map, List.getElem_replicate])
            rw [erep] at a5 a6
            rw [a5] at a1
            rw [a6] at a2
            have kF3 := fun W (h : Ints W (some ⟨b0, o0, none⟩) n (ps.map Int.ofNat)) (h' : Ints W A20 n ((List.replicate n 40).map Int.ofNat)) => pk_Fill (some ⟨b0, o0, none⟩) A20 n n _ _ c c20 k W h h' (by omega) (by omega)
            have kA3 := fun W (h : Ints W (some ⟨b0, o0, none⟩) n (ps.map Int.ofNat)) => pk_Make (some ⟨b0, o0, none⟩) n _ c k W h (by omega)
            rw [a1, a2] at kF3
            rw [a3, a4] at kA3
            have hLk := ansL_len (ps.zip (ps.map (k / ·))) k
            rw [List.length_zip, List.length_map, hl, Nat.min_self] at hLk
            generalize ps.zip (ps.map (k / ·)) = zk at *
            clear a1 a2 a3 a4 a5 a6 erep h40 lk1
            go_wp2_with fail
            refine (kF3 _ HX HI20).mono ?_; rintro e wF ⟨A12, c12, rfl, HF3, d1⟩
            replace HX := HX.below d1; replace HB := HB.trans (d1.mono HB.size); clear d1
            go_wp2_with fail
            refine (kA3 _ HX).mono ?_; rintro e wG ⟨A13, c13, rfl, HF4, d1⟩
            replace HF3 := HF3.below d1; replace HB := HB.trans (d1.mono HB.size); clear d1
            rw [List.length_map] at HF3 HF4
            simp only [List.length_map]
            generalize (ansL zk k).map Int.ofNat = lk at *
            generalize (ansL zk k).length = Lk at *
            generalize ansE zk k = ek at *
            go_wp2_with fail
            refine (same_refl HF3 HF4 (by omega)).mono ?_; rintro e wH ⟨rfl, d1⟩
            replace HB := HB.trans (d1.mono HB.size); clear d1
            go_wp2_with fail
            refine (lw_works _).mono ?_; rintro e wI ⟨rfl, d1⟩
            replace HB := HB.trans (d1.mono HB.size); clear d1
            go_wp2_with fail
            go_ret
            exact ⟨rfl, HB⟩
    · simp only [List.length_map, h0]
      clear hmono h0 hzA hzB HA HD
      go_wp2_with fail
      go_loopw [19, 20, 107] (fun u v g wr => ∃ (i : Nat) (fs : List Nat), i ≤ n ∧ g = .int .i64 i ∧ OwnI wr wB.heap.size u (fs.map Int.ofNat) ∧ OwnI wr wB.heap.size v ((List.replicate i 40).map Int.ofNat) ∧ Apart u v ∧ Hid (fs.length = i ∧ (∀ j, j < i → NAt cs j ≤ NAt fs j) ∧ ∀ f ∈ fs, f ≤ 40) ∧ Below wB.heap.size wB wr) (fun _ _ g _ => n - (intOf g).toNat)
      case atStart => exact ⟨0, [], by omega, rfl, OwnI.nil_ _ _, OwnI.nil_ _ _, (fun g h => by simp [Value.ownBlock] at h : Apart _ _), ⟨rfl, fun j hj => by omega, by simp⟩, Below.refl _ _⟩
      case round =>
        obtain ⟨i, fs, hi, rfl, ho1, ho2, hap, hfs, hw⟩ := hrel
        have hszb := hw.size
        by_cases hlt : i < n
        · obtain ⟨bc, oc, eqc, hbc, hcc⟩ := (HC.below hw).at_ hlt
          cases eqc
          have hci := hcs _ (NAt_mem (ps := cs) (k := i) (by omega))
          have hya := ((HY.below hw HY.lt).cell i).trans (yA_at y (show i < 4 by omega))
          have hyi := hy i
          have x1 : (0 : Int) ≤ (i : Int) := by omega
          have x2 : (i : Int) < n := by omega
          have x3 : (i : Int) < 4 := by omega
          obtain ⟨t9, e9, l9⟩ : ∃ t9 : Nat, ((y i : Nat) : Int) % 9 = (t9 : Int) ∧ t9 < 9 := ⟨y i % 9, by simp, Nat.mod_lt _ (by omega)⟩
          obtain ⟨f, ef⟩ : ∃ f : Nat, f = min 40 (NAt cs i + t9) := ⟨_, rfl⟩
          have hst := Lib.hid (show (fs ++ [f]).length = i + 1 ∧ (∀ j, j < i + 1 → NAt cs j ≤ NAt (fs ++ [f]) j) ∧ ∀ g ∈ fs ++ [f], g ≤ 40 from by
            obtain ⟨q1, q2, q3⟩ := hfs.out
            refine ⟨by simp [q1], fun j hj => ?_, fun g hg => ?_⟩
            · by_cases e : j = i
              · subst e
                have e2 : NAt (fs ++ [f]) j = f := by rw [← q1]; simp [NAt]
                rw [e2]; omega
              · have e2 : NAt (fs ++ [f]) j = NAt fs j := by simp [NAt, List.getElem?_append_left (show j < fs.length by omega)]
                rw [e2]; exact q2 j (by omega)
            · rcases List.mem_append.1 hg with hg | hg
              · exact q3 g hg
              · rw [List.mem_singleton] at hg; omega)
          have hfl : (fs.map Int.ofNat).length ≤ 1000000000 := by rw [List.length_map, hfs.out.1]; omega
          have hrl : ((List.replicate i 40).map Int.ofNat).length ≤ 1000000000 := by rw [List.length_map, List.length_replicate]; omega
          have hrep : (List.replicate (i + 1) 40).map Int.ofNat = (List.replicate i 40).map Int.ofNat ++ [40] := by rw [List.replicate_succ']; simp
          have hrep := Lib.hid hrep
          generalize NAt cs i = ci at *

          have hfl := Lib.hid hfl
          have hrl := Lib.hid hrl
          by_cases c1 : ci + t9 < 40
          · have c2 : (ci : Int) + (t9 : Int) < 40 := by omega
            have ef' : (ci : Int) + (t9 : Int) = (f : Int) := by omega
            clear ef c1
            go_wp2_with (first
              | (at_builtin; refine wpList_app2 rfl _ _ rfl wB.heap.size _ _ (fs.map Int.ofNat) _ f (by rfl) ho1 ho2 hap hszb hfl.out (by rfl) ?_; intro v7 w7 ho3 ho4 hap2 hb7)
              | (at_builtin; refine wpList_app2 rfl _ _ rfl wB.heap.size _ _ ((List.replicate i 40).map Int.ofNat) _ 40 (by rfl) ho4 ho3 hap2.symm (hb7 _ hw).size hrl.out (by rfl) ?_; intro v8 w8 ho5 ho6 hap3 hb8))
            exact ⟨⟨i + 1, fs ++ [f], by omega, by go_num, by rw [List.map_append]; exact ho6, by rw [hrep.out]; exact ho5, hap3.symm, hst.out, hb8 _ (hb7 _ hw)⟩, by simp [intOf]; omega⟩
          · have c2 : ¬ (ci : Int) + (t9 : Int) < 40 := by omega
            have ef' : f = 40 := by omega
            subst ef'
            clear ef c1
            go_wp2_with (first
              | (at_builtin; refine wpList_app2 rfl _ _ rfl wB.heap.size _ _ (fs.map Int.ofNat) _ 40 (by rfl) ho1 ho2 hap hszb hfl.out (by rfl) ?_; intro v7 w7 ho3 ho4 hap2 hb7)
              | (at_builtin; refine wpList_app2 rfl _ _ rfl wB.heap.size _ _ ((List.replicate i 40).map Int.ofNat) _ 40 (by rfl) ho4 ho3 hap2.symm (hb7 _ hw).size hrl.out (by rfl) ?_; intro v8 w8 ho5 ho6 hap3 hb8))
            exact ⟨⟨i + 1, fs ++ [40], by omega, by go_num, by rw [List.map_append]; exact ho6, by rw [hrep.out]; exact ho5, hap3.symm, hst.out, hb8 _ (hb7 _ hw)⟩, by simp [intOf]; omega⟩
        · obtain rfl : n = i := by omega
          obtain ⟨A19, c19, rfl, HI19⟩ := ho1.form
          obtain ⟨A20, c20, rfl, HI20⟩ := ho2.form
          have hfs := hfs.out
          have lf : (fs.map Int.ofNat).length = n := by rw [List.length_map, hfs.1]
          have lr : ((List.replicate n 40).map Int.ofNat).length = n := by rw [List.length_map, List.length_replicate]
          rw [lf] at HI19 ⊢
          rw [lr] at HI20 ⊢
          replace HX := HX.below hw; replace HN := HN.below hw; replace HC := HC.below hw; replace HB := HB.trans (hw.mono HB.size)
          clear ho1 ho2 hap hw hszb HY lf lr
          have HCi := HC.ints
          have hcf : ∀ f ∈ fs, f ≤ 40 := hfs.2.2
          obtain ⟨s0, es0⟩ : ∃ s0, NAt ps 0 = s0 := ⟨_, rfl⟩
          have hs0 := h5.at_ (k := 0) (by omega)
          rw [es0] at hs0
          obtain ⟨a1, a2⟩ := fil_ans h5 hlc hcs lm
          obtain ⟨a3, a4⟩ := fil_ans h5 hfs.1 hcf lm
          have kF1 := fun W (h : Ints W (some ⟨b0, o0, none⟩) n (ps.map Int.ofNat)) (h' : Ints W (some ⟨b1, o1, none⟩) n (cs.map Int.ofNat)) => pk_Fill (some ⟨b0, o0, none⟩) (some ⟨b1, o1, none⟩) n n _ _ c dd m W h h' (by omega) (by omega)
          have kF2 := fun W (h : Ints W (some ⟨b0, o0, none⟩) n (ps.map Int.ofNat)) (h' : Ints W A19 n (fs.map Int.ofNat)) => pk_Fill (some ⟨b0, o0, none⟩) A19 n n _ _ c c19 m W h h' (by omega) (by omega)
          rw [a1, a2] at kF1
          rw [a3, a4] at kF2
          have hmono2 := ans_more (l := ps.zip cs) (l' := ps.zip fs) lm (zip_pos hpos) (fun v => fil_caps ps cs fs m v (by rw [hlc, hfs.1]) (fun i hi => hfs.2.1 i (by omega)))
          have lz1 : (ps.zip cs).length = n := by rw [List.length_zip, hl, hlc, Nat.min_self]
          have lz2 : (ps.zip fs).length = n := by rw [List.length_zip, hl, hfs.1, Nat.min_self]
          rw [lz1, lz2] at hmono2
          have htwo2 := ans_two (ps.zip cs) m
          have hzC := ansL_bd (ps.zip cs) lm (zip_pos hpos)
          have hzD := ansL_bd (ps.zip fs) lm (zip_pos hpos)
          obtain ⟨zc, ezc⟩ : ∃ zc, zc = ps.zip cs := ⟨_, rfl⟩
          obtain ⟨zd, ezd⟩ : ∃ zd, zd = ps.zip fs := ⟨_, rfl⟩
          rw [← ezc] at kF1 htwo2 hzC hmono2
          rw [← ezd] at kF2 hzD hmono2
          clear a1 a2 a3 a4 lz1 lz2 ezc ezd hcf hfs
          go_wp2_with fail
          refine (kF1 _ HX HCi).mono ?_; rintro e wC ⟨A8, c8, rfl, HP, d1⟩
          replace HX := HX.below d1; replace HN := HN.below d1; replace HI19 := HI19.below d1; replace HI20 := HI20.below d1; replace HB := HB.trans (d1.mono HB.size); clear d1
          go_wp2_with fail
          refine (kF2 _ HX HI19).mono ?_; rintro e wD ⟨A9, c9, rfl, HQ, d1⟩
          replace HP := HP.below d1; replace HX := HX.below d1; replace HN := HN.below d1; replace HI20 := HI20.below d1; replace HB := HB.trans (d1.mono HB.size); clear d1
          clear kF1 kF2 HCi HC HI19
          rcases htwo2 with h0 | h0
          · obtain ⟨f0, la, lb, hpk⟩ := hmono2 h0
            have lA : ((ansL zc m).map Int.ofNat).length = n := by rw [List.length_map, la]
            have lB : ((ansL zd m).map Int.ofNat).length = n := by rw [List.length_map, lb]
            have bA : ∀ k, k < n → -1000000 ≤ At ((ansL zc m).map Int.ofNat) k ∧ At ((ansL zc m).map Int.ofNat) k ≤ 1000000 := fun k hk => by
              have := hzC (NAt (ansL zc m) k) (NAt_mem (by omega)); rw [At_map]; omega
            have bB : ∀ k, k < n → -1000000 ≤ At ((ansL zd m).map Int.ofNat) k ∧ At ((ansL zd m).map Int.ofNat) k ≤ 1000000 := fun k hk => by
              have := hzD (NAt (ansL zd m) k) (NAt_mem (by omega)); rw [At_map]; omega
            rw [lA] at HP
            rw [lB] at HQ
            simp only [List.length_map, la, lb, h0, f0]
            have kP := lw_packets A9 n _ c9 wD HQ (by omega) bB
            have kQ := lw_packets A8 n _ c8 wD HP (by omega) bA
            have hpk' : ¬ pkS ((ansL zc m).map Int.ofNat) n < pkS ((ansL zd m).map Int.ofNat) n := by omega
            clear bA bB lA lB la lb hmono2 h0 f0 hzC hzD HP HQ hpk
            generalize pkS ((ansL zc m).map Int.ofNat) n = S3 at *
            generalize pkS ((ansL zd m).map Int.ofNat) n = S4 at *
            obtain ⟨k, eqK, lk1, lk2⟩ : ∃ k : Nat, ((m : Nat) : Int) % (40 * (s0 : Int) + 1) = (k : Int) ∧ k ≤ 40 * s0 ∧ k ≤ 1000 := ⟨m % (40 * s0 + 1), by simp, Nat.le_of_lt_succ (Nat.mod_lt _ (by omega)), Nat.le_trans (Nat.mod_le _ _) lm⟩
            obtain ⟨bx, ox, eqx, hbx, hcx⟩ := HN.at_ (k := 0) (by omega)
            cases eqx
            rw [Nat.add_zero, es0] at hcx
            have v1 : (0 : Int) < (n : Int) := by omega
            have v2 : (0 : Int) < 40 * (s0 : Int) + 1 := by omega
            have h40 : ∀ c ∈ List.replicate n 40, c ≤ 40 := fun c hc => by rw [List.mem_replicate] at hc; omega
            obtain ⟨a1, a2⟩ := fil_ans h5 (List.length_replicate (n := n) (a := 40)) h40 lk2
            obtain ⟨a3, a4⟩ := mak_ans h5 lk2
            obtain ⟨a5, a6⟩ := enough_ans h5 (k := k) (by rw [es0]; exact lk1)
            have erep : (ps.map fun _ => 40) = List.replicate n 40 := List.ext_getElem (by rw [List.length_map, List.length_replicate, hl]) (fun i h1 h2 => by rw [List.getElem_map, List.getElem_replicate])
            rw [erep] at a5 a6
            rw [a5] at a1
            rw [a6] at a2
            have kF3 := fun W (h : Ints W (some ⟨b0, o0, none⟩) n (ps.map Int.ofNat)) (h' : Ints W A20 n ((List.replicate n 40).map Int.ofNat)) => pk_Fill (some ⟨b0, o0, none⟩) A20 n n _ _ c c20 k W h h' (by omega) (by omega)
            have kA3 := fun W (h : Ints W (some ⟨b0, o0, none⟩) n (ps.map Int.ofNat)) => pk_Make (some ⟨b0, o0, none⟩) n _ c k W h (by omega)
            rw [a1, a2] at kF3
            rw [a3, a4] at kA3
            have hLk := ansL_len (ps.zip (ps.map (k / ·))) k
            rw [List.length_zip, List.length_map, hl, Nat.min_self] at hLk
            generalize ps.zip (ps.map (k / ·)) = zk at *
            clear a1 a2 a3 a4 a5 a6 erep h40 lk1
            go_wp2_with fail
            refine kP.mono ?_; rintro e wE ⟨rfl, rfl⟩
            go_wp2_with fail
            refine kQ.mono ?_; rintro e wE ⟨rfl, rfl⟩
            clear kP kQ
            go_wp2_with fail
            refine (kF3 _ HX HI20).mono ?_; rintro e wF ⟨A12, c12, rfl, HF3, d1⟩
            replace HX := HX.below d1; replace HB := HB.trans (d1.mono HB.size); clear d1
            go_wp2_with fail
            refine (kA3 _ HX).mono ?_; rintro e wG ⟨A13, c13, rfl, HF4, d1⟩
            replace HF3 := HF3.below d1; replace HB := HB.trans (d1.mono HB.size); clear d1
            rw [List.length_map] at HF3 HF4
            simp only [List.length_map]
            generalize (ansL zk k).map Int.ofNat = lk at *
            generalize (ansL zk k).length = Lk at *
            generalize ansE zk k = ek at *
            go_wp2_with fail
            refine (same_refl HF3 HF4 (by omega)).mono ?_; rintro e wH ⟨rfl, d1⟩
            replace HB := HB.trans (d1.mono HB.size); clear d1
            go_wp2_with fail
            refine (lw_works _).mono ?_; rintro e wI ⟨rfl, d1⟩
            replace HB := HB.trans (d1.mono HB.size); clear d1
            go_wp2_with fail
            go_ret
            exact ⟨rfl, HB⟩
          · simp only [List.length_map, h0]
            clear hmono2 h0 hzC hzD HP HQ
            obtain ⟨k, eqK, lk1, lk2⟩ : ∃ k : Nat, ((m : Nat) : Int) % (40 * (s0 : Int) + 1) = (k : Int) ∧ k ≤ 40 * s0 ∧ k ≤ 1000 := ⟨m % (40 * s0 + 1), by simp, Nat.le_of_lt_succ (Nat.mod_lt _ (by omega)), Nat.le_trans (Nat.mod_le _ _) lm⟩
            obtain ⟨bx, ox, eqx, hbx, hcx⟩ := HN.at_ (k := 0) (by omega)
            cases eqx
            rw [Nat.add_zero, es0] at hcx
            have v1 : (0 : Int) < (n : Int) := by omega
            have v2 : (0 : Int) < 40 * (s0 : Int) + 1 := by omega
            have h40 : ∀ c ∈ List.replicate n 40, c ≤ 40 := fun c hc => by rw [List.mem_replicate] at hc; omega
            obtain ⟨a1, a2⟩ := fil_ans h5 (List.length_replicate (n := n) (a := 40)) h40 lk2
            obtain ⟨a3, a4⟩ := mak_ans h5 lk2
            obtain ⟨a5, a6⟩ := enough_ans h5 (k := k) (by rw [es0]; exact lk1)
            have erep : (ps.map fun _ => 40) = List.replicate n 40 := List.ext_getElem (by rw [List.length_map, List.length_replicate, hl]) (fun i h1 h2 => by rw [List.getElem_map, List.getElem_replicate])
            rw [erep] at a5 a6
            rw [a5] at a1
            rw [a6] at a2
            have kF3 := fun W (h : Ints W (some ⟨b0, o0, none⟩) n (ps.map Int.ofNat)) (h' : Ints W A20 n ((List.replicate n 40).map Int.ofNat)) => pk_Fill (some ⟨b0, o0, none⟩) A20 n n _ _ c c20 k W h h' (by omega) (by omega)
            have kA3 := fun W (h : Ints W (some ⟨b0, o0, none⟩) n (ps.map Int.ofNat)) => pk_Make (some ⟨b0, o0, none⟩) n _ c k W h (by omega)
            rw [a1, a2] at kF3
            rw [a3, a4] at kA3
            have hLk := ansL_len (ps.zip (ps.map (k / ·))) k
            rw [List.length_zip, List.length_map, hl, Nat.min_self] at hLk
            generalize ps.zip (ps.map (k / ·)) = zk at *
            clear a1 a2 a3 a4 a5 a6 erep h40 lk1
            go_wp2_with fail
            refine (kF3 _ HX HI20).mono ?_; rintro e wF ⟨A12, c12, rfl, HF3, d1⟩
            replace HX := HX.below d1; replace HB := HB.trans (d1.mono HB.size); clear d1
            go_wp2_with fail
            refine (kA3 _ HX).mono ?_; rintro e wG ⟨A13, c13, rfl, HF4, d1⟩
            replace HF3 := HF3.below d1; replace HB := HB.trans (d1.mono HB.size); clear d1
            rw [List.length_map] at HF3 HF4
            simp only [List.length_map]
            generalize (ansL zk k).map Int.ofNat = lk at *
            generalize (ansL zk k).length = Lk at *
            generalize ansE zk k = ek at *
            go_wp2_with fail
            refine (same_refl HF3 HF4 (by omega)).mono ?_; rintro e wH ⟨rfl, d1⟩
            replace HB := HB.trans (d1.mono HB.size); clear d1
            go_wp2_with fail
            refine (lw_works _).mono ?_; rintro e wI ⟨rfl, d1⟩
            replace HB := HB.trans (d1.mono HB.size); clear d1
            go_wp2_with fail
            go_ret
            exact ⟨rfl, HB⟩
  | false =>
    rw [hct] at kK
    go_wp2_with fail
    refine kK.mono ?_; rintro e w3 ⟨rfl, rfl⟩
    have hct' := Lib.hid hct
    clear hct
    go_wp2_with (at_builtin; refine wpList_appI rfl _ _ rfl w1.heap.size _ (ps.map Int.ofNat) x (by rfl) hown hsz (by rw [l2]; omega) (by rfl) ?_; intro v4 w4 hown4 hb4)
    obtain ⟨g, cw, rfl, hg, hnc2, _⟩ := hown4.some_ (by simp)
    have l4 : (ps.map Int.ofNat ++ [(x : Int)]).length = n + 1 := by rw [List.length_append, l2]; rfl
    rw [l4] at hown4 hnc2 ⊢
    have kS := sl_Sort w1.heap.size g (n + 1) cw _ w4 hown4 (by omega)
    have hd4 := hb4 _ hd
    clear hown HI2 hown4 hb4 hd HX1
    go_wp2_with fail
    refine kS.mono ?_; rintro e w5 ⟨rfl, zs, hown5, hp5, ho5, hb5⟩
    obtain ⟨qs, rfl, hQ, hsub⟩ := five_sorted hS hct'.out hx1 hx2 hp5 ho5
    have hd5 := hd4.trans hb5
    replace HY := HY.below hd5 hy1; replace HX := HX.below hd5; replace HN := HN.below hd5; replace HC := HC.below hd5; replace HB := HB.trans (hd5.mono HB.size)
    obtain ⟨_, _, e5, HW⟩ := hown5.form
    have lq : (qs.map Int.ofNat).length = n + 1 := by rw [List.length_map, hQ.1]
    rw [lq] at e5 HW
    cases e5
    clear hown5 hp5 ho5 hb5 hd4 hd5 hsz kS hct' lq
    obtain ⟨n', en⟩ : ∃ n', n + 1 = n' := ⟨_, rfl⟩
    rw [en] at HW hQ ⊢
    clear l4
    obtain ⟨Aw, eA⟩ : ∃ Aw : Option Addr, some ⟨g, 0, none⟩ = Aw := ⟨_, rfl⟩
    rw [eA] at HW ⊢
    clear eA
    have hposq : ∀ s ∈ qs, 0 < s := fun s hs => (hQ.2.2.2.2 s hs).1
    have kA := fun W (h : Ints W (some ⟨b0, o0, none⟩) n (ps.map Int.ofNat)) => pk_Make (some ⟨b0, o0, none⟩) n _ c m W h (by omega)
    have kB := fun W (h : Ints W Aw n' (qs.map Int.ofNat)) => pk_Make Aw n' _ cw m W h (by have := hQ.2.2.1; omega)
    obtain ⟨a1, a2⟩ := mak_ans h5 lm
    obtain ⟨a3, a4⟩ := mak_ans hQ lm
    rw [a1, a2] at kA
    rw [a3, a4] at kB
    have hmono := ans_more (l := ps.zip (ps.map (m / ·))) (l' := qs.zip (qs.map (m / ·))) lm (zip_pos hpos) (fun v => more_sizes h5.pair hQ.pair hsub)
    have lz1 : (ps.zip (ps.map (m / ·))).length = n := by rw [List.length_zip, List.length_map, hS.1]; simp
    have lz2 : (qs.zip (qs.map (m / ·))).length = n' := by rw [List.length_zip, List.length_map, hQ.1]; simp
    rw [lz1, lz2] at hmono
    have htwo := ans_two (ps.zip (ps.map (m / ·))) m
    have hle1 := ansL_len (ps.zip (ps.map (m / ·))) m
    have hle2 := ansL_len (qs.zip (qs.map (m / ·))) m
    rw [lz1] at hle1
    rw [lz2] at hle2
    have q1 := hQ.2.2.1
    have hzA := ansL_bd (ps.zip (ps.map (m / ·))) lm (zip_pos hpos)
    have hzB := ansL_bd (qs.zip (qs.map (m / ·))) lm (zip_pos hposq)
    clear a1 a2 a3 a4 lz1 lz2 hsub hposq
    obtain ⟨za, eza⟩ : ∃ za, za = ps.zip (ps.map (m / ·)) := ⟨_, rfl⟩
    obtain ⟨zb, ezb⟩ : ∃ zb, zb = qs.zip (qs.map (m / ·)) := ⟨_, rfl⟩
    rw [← eza] at kA hmono hle1 htwo hzA
    rw [← ezb] at kB hmono hle2 hzB
    clear eza ezb
    go_wp2_with fail
    refine (kA _ HX).mono ?_; rintro e wA ⟨A6, c6, rfl, HA, d1⟩
    replace HY := HY.below d1 HY.lt; replace HX := HX.below d1; replace HN := HN.below d1; replace HC := HC.below d1; replace HW := HW.below d1; replace HB := HB.trans (d1.mono HB.size); clear d1
    go_wp2_with fail
    refine (kB _ HW).mono ?_; rintro e wB ⟨A7, c7, rfl, HD, d1⟩
    replace HY := HY.below d1 HY.lt; replace HA := HA.below d1; replace HX := HX.below d1; replace HN := HN.below d1; replace HC := HC.below d1; replace HB := HB.trans (d1.mono HB.size); clear d1
    clear kA kB HW hQ
    rcases htwo with h0 | h0
    · obtain ⟨f0, la, lb, hpk⟩ := hmono h0
      have lA : ((ansL za m).map Int.ofNat).length = n := by rw [List.length_map, la]
      have lB : ((ansL zb m).map Int.ofNat).length = n' := by rw [List.length_map, lb]
      have bA : ∀ k, k < n → -1000000 ≤ At ((ansL za m).map Int.ofNat) k ∧ At ((ansL za m).map Int.ofNat) k ≤ 1000000 := fun k hk => by
        have := hzA (NAt (ansL za m) k) (NAt_mem (by omega)); rw [At_map]; omega
      have bB : ∀ k, k < n' → -1000000 ≤ At ((ansL zb m).map Int.ofNat) k ∧ At ((ansL zb m).map Int.ofNat) k ≤ 1000000 := fun k hk => by
        have := hzB (NAt (ansL zb m) k) (NAt_mem (by omega)); rw [At_map]; omega
      rw [lA] at HA
      rw [lB] at HD
      simp only [List.length_map, la, lb, h0, f0]
      have kP := lw_packets A7 n' _ c7 wB HD (by omega) bB
      have kQ := lw_packets A6 n _ c6 wB HA (by omega) bA
      have hpk' : ¬ pkS ((ansL za m).map Int.ofNat) n < pkS ((ansL zb m).map Int.ofNat) n' := by omega
      clear bA bB lA lB la lb hmono h0 f0 hle1 hle2 hzA hzB HA HD hpk
      generalize pkS ((ansL za m).map Int.ofNat) n = S1 at *
      generalize pkS ((ansL zb m).map Int.ofNat) n' = S2 at *
      go_wp2_with fail
      refine kP.mono ?_; rintro e w8 ⟨rfl, rfl⟩
      go_wp2_with fail
      refine kQ.mono ?_; rintro e w8 ⟨rfl, rfl⟩
      clear kP kQ
      go_wp2_with fail
      go_loopw [19, 20, 107] (fun u v g wr => ∃ (i : Nat) (fs : List Nat), i ≤ n ∧ g = .int .i64 i ∧ OwnI wr w8.heap.size u (fs.map Int.ofNat) ∧ OwnI wr w8.heap.size v ((List.replicate i 40).map Int.ofNat) ∧ Apart u v ∧ Hid (fs.length = i ∧ (∀ j, j < i → NAt cs j ≤ NAt fs j) ∧ ∀ f ∈ fs, f ≤ 40) ∧ Below w8.heap.size w8 wr) (fun _ _ g _ => n - (intOf g).toNat)
      case atStart => exact ⟨0, [], by omega, rfl, OwnI.nil_ _ _, OwnI.nil_ _ _, (fun g h => by simp [Value.ownBlock] at h : Apart _ _), ⟨rfl, fun j hj => by omega, by simp⟩, Below.refl _ _⟩
      case round =>
        obtain ⟨i, fs, hi, rfl, ho1, ho2, hap, hfs, hw⟩ := hrel
        have hszb := hw.size
        by_cases hlt : i < n
        · obtain ⟨bc, oc, eqc, hbc, hcc⟩ := (HC.below hw).at_ hlt
          cases eqc
          have hci := hcs _ (NAt_mem (ps := cs) (k := i) (by omega))
          have hya := ((HY.below hw HY.lt).cell i).trans (yA_at y (show i < 4 by omega))
          have hyi := hy i
          have x1 : (0 : Int) ≤ (i : Int) := by omega
          have x2 : (i : Int) < n := by omega
          have x3 : (i : Int) < 4 := by omega
          obtain ⟨t9, e9, l9⟩ : ∃ t9 : Nat, ((y i : Nat) : Int) % 9 = (t9 : Int) ∧ t9 < 9 := ⟨y i % 9, by simp, Nat.mod_lt _ (by omega)⟩
          obtain ⟨f, ef⟩ : ∃ f : Nat, f = min 40 (NAt cs i + t9) := ⟨_, rfl⟩
          have hst := Lib.hid (show (fs ++ [f]).length = i + 1 ∧ (∀ j, j < i + 1 → NAt cs j ≤ NAt (fs ++ [f]) j) ∧ ∀ g ∈ fs ++ [f], g ≤ 40 from by
            obtain ⟨q1, q2, q3⟩ := hfs.out
            refine ⟨by simp [q1], fun j hj => ?_, fun g hg => ?_⟩
            · by_cases e : j = i
              · subst e
                have e2 : NAt (fs ++ [f]) j = f := by rw [← q1]; simp [NAt]
                rw [e2]; omega
              · have e2 : NAt (fs ++ [f]) j = NAt fs j := by simp [NAt, List.getElem?_append_left (show j < fs.length by omega)]
                rw [e2]; exact q2 j (by omega)
            · rcases List.mem_append.1 hg with hg | hg
              · exact q3 g hg
              · rw [List.mem_singleton] at hg; omega)
          have hfl : (fs.map Int.ofNat).length ≤ 1000000000 := by rw [List.length_map, hfs.out.1]; omega
          have hrl : ((List.replicate i 40).map Int.ofNat).length ≤ 1000000000 := by rw [List.length_map, List.length_replicate]; omega
          have hrep : (List.replicate (i + 1) 40).map Int.ofNat = (List.replicate i 40).map Int.ofNat ++ [40] := by rw [List.replicate_succ']; simp
          have hrep := Lib.hid hrep
          generalize NAt cs i = ci at *

          have hfl := Lib.hid hfl
          have hrl := Lib.hid hrl
          by_cases c1 : ci + t9 < 40
          · have c2 : (ci : Int) + (t9 : Int) < 40 := by omega
            have ef' : (ci : Int) + (t9 : Int) = (f : Int) := by omega
            clear ef c1
            go_wp2_with (first
              | (at_builtin; refine wpList_app2 rfl _ _ rfl w8.heap.size _ _ (fs.map Int.ofNat) _ f (by rfl) ho1 ho2 hap hszb hfl.out (by rfl) ?_; intro v7 w7 ho3 ho4 hap2 hb7)
              | (at_builtin; refine wpList_app2 rfl _ _ rfl w8.heap.size _ _ ((List.replicate i 40).map Int.ofNat) _ 40 (by rfl) ho4 ho3 hap2.symm (hb7 _ hw).size hrl.out (by rfl) ?_; intro v8 w8 ho5 ho6 hap3 hb8))
            exact ⟨⟨i + 1, fs ++ [f], by omega, by go_num, by rw [List.map_append]; exact ho6, by rw [hrep.out]; exact ho5, hap3.symm, hst.out, hb8 _ (hb7 _ hw)⟩, by simp [intOf]; omega⟩
          · have c2 : ¬ (ci : Int) + (t9 : Int) < 40 := by omega
            have ef' : f = 40 := by omega
            subst ef'
            clear ef c1
            go_wp2_with (first
              | (at_builtin; refine wpList_app2 rfl _ _ rfl w8.heap.size _ _ (fs.map Int.ofNat) _ 40 (by rfl) ho1 ho2 hap hszb hfl.out (by rfl) ?_; intro v7 w7 ho3 ho4 hap2 hb7)
              | (at_builtin; refine wpList_app2 rfl _ _ rfl w8.heap.size _ _ ((List.replicate i 40).map Int.ofNat) _ 40 (by rfl) ho4 ho3 hap2.symm (hb7 _ hw).size hrl.out (by rfl) ?_; intro v8 w8 ho5 ho6 hap3 hb8))
            exact ⟨⟨i + 1, fs ++ [40], by omega, by go_num, by rw [List.map_append]; exact ho6, by rw [hrep.out]; exact ho5, hap3.symm, hst.out, hb8 _ (hb7 _ hw)⟩, by simp [intOf]; omega⟩
        · obtain rfl : n = i := by omega
          obtain ⟨A19, c19, rfl, HI19⟩ := ho1.form
          obtain ⟨A20, c20, rfl, HI20⟩ := ho2.form
          have hfs := hfs.out
          have lf : (fs.map Int.ofNat).length = n := by rw [List.length_map, hfs.1]
          have lr : ((List.replicate n 40).map Int.ofNat).length = n := by rw [List.length_map, List.length_replicate]
          rw [lf] at HI19 ⊢
          rw [lr] at HI20 ⊢
          replace HX := HX.below hw; replace HN := HN.below hw; replace HC := HC.below hw; replace HB := HB.trans (hw.mono HB.size)
          clear ho1 ho2 hap hw hszb HY lf lr
          have HCi := HC.ints
          have hcf : ∀ f ∈ fs, f ≤ 40 := hfs.2.2
          obtain ⟨s0, es0⟩ : ∃ s0, NAt ps 0 = s0 := ⟨_, rfl⟩
          have hs0 := h5.at_ (k := 0) (by omega)
          rw [es0] at hs0
          obtain ⟨a1, a2⟩ := fil_ans h5 hlc hcs lm
          obtain ⟨a3, a4⟩ := fil_ans h5 hfs.1 hcf lm
          have kF1 := fun W (h : Ints W (some ⟨b0, o0, none⟩) n (ps.map Int.ofNat)) (h' : Ints W (some ⟨b1, o1, none⟩) n (cs.map Int.ofNat)) => pk_Fill (some ⟨b0, o0, none⟩) (some ⟨b1, o1, none⟩) n n _ _ c dd m W h h' (by omega) (by omega)
          have kF2 := fun W (h : Ints W (some ⟨b0, o0, none⟩) n (ps.map Int.ofNat)) (h' : Ints W A19 n (fs.map Int.ofNat)) => pk_Fill (some ⟨b0, o0, none⟩) A19 n n _ _ c c19 m W h h' (by omega) (by omega)
          rw [a1, a2] at kF1
          rw [a3, a4] at kF2
          have hmono2 := ans_more (l := ps.zip cs) (l' := ps.zip fs) lm (zip_pos hpos) (fun v => fil_caps ps cs fs m v (by rw [hlc, hfs.1]) (fun i hi => hfs.2.1 i (by omega)))
          have lz1 : (ps.zip cs).length = n := by rw [List.length_zip, hl, hlc, Nat.min_self]
          have lz2 : (ps.zip fs).length = n := by rw [List.length_zip, hl, hfs.1, Nat.min_self]
          rw [lz1, lz2] at hmono2
          have htwo2 := ans_two (ps.zip cs) m
          have hzC := ansL_bd (ps.zip cs) lm (zip_pos hpos)
          have hzD := ansL_bd (ps.zip fs) lm (zip_pos hpos)
          obtain ⟨zc, ezc⟩ : ∃ zc, zc = ps.zip cs := ⟨_, rfl⟩
          obtain ⟨zd, ezd⟩ : ∃ zd, zd = ps.zip fs := ⟨_, rfl⟩
          rw [← ezc] at kF1 htwo2 hzC hmono2
          rw [← ezd] at kF2 hzD hmono2
          clear a1 a2 a3 a4 lz1 lz2 ezc ezd hcf hfs
          go_wp2_with fail
          refine (kF1 _ HX HCi).mono ?_; rintro e wC ⟨A8, c8, rfl, HP, d1⟩
          replace HX := HX.below d1; replace HN := HN.below d1; replace HI19 := HI19.below d1; replace HI20 := HI20.below d1; replace HB := HB.trans (d1.mono HB.size); clear d1
          go_wp2_with fail
          refine (kF2 _ HX HI19).mono ?_; rintro e wD ⟨A9, c9, rfl, HQ, d1⟩
          replace HP := HP.below d1; replace HX := HX.below d1; replace HN := HN.below d1; replace HI20 := HI20.below d1; replace HB := HB.trans (d1.mono HB.size); clear d1
          clear kF1 kF2 HCi HC HI19
          rcases htwo2 with h0 | h0
          · obtain ⟨f0, la, lb, hpk⟩ := hmono2 h0
            have lA : ((ansL zc m).map Int.ofNat).length = n := by rw [List.length_map, la]
            have lB : ((ansL zd m).map Int.ofNat).length = n := by rw [List.length_map, lb]
            have bA : ∀ k, k < n → -1000000 ≤ At ((ansL zc m).map Int.ofNat) k ∧ At ((ansL zc m).map Int.ofNat) k ≤ 1000000 := fun k hk => by
              have := hzC (NAt (ansL zc m) k) (NAt_mem (by omega)); rw [At_map]; omega
            have bB : ∀ k, k < n → -1000000 ≤ At ((ansL zd m).map Int.ofNat) k ∧ At ((ansL zd m).map Int.ofNat) k ≤ 1000000 := fun k hk => by
              have := hzD (NAt (ansL zd m) k) (NAt_mem (by omega)); rw [At_map]; omega
            rw [lA] at HP
            rw [lB] at HQ
            simp only [List.length_map, la, lb, h0, f0]
            have kP := lw_packets A9 n _ c9 wD HQ (by omega) bB
            have kQ := lw_packets A8 n _ c8 wD HP (by omega) bA
            have hpk' : ¬ pkS ((ansL zc m).map Int.ofNat) n < pkS ((ansL zd m).map Int.ofNat) n := by omega
            clear bA bB lA lB la lb hmono2 h0 f0 hzC hzD HP HQ hpk
            generalize pkS ((ansL zc m).map Int.ofNat) n = S3 at *
            generalize pkS ((ansL zd m).map Int.ofNat) n = S4 at *
            obtain ⟨k, eqK, lk1, lk2⟩ : ∃ k : Nat, ((m : Nat) : Int) % (40 * (s0 : Int) + 1) = (k : Int) ∧ k ≤ 40 * s0 ∧ k ≤ 1000 := ⟨m % (40 * s0 + 1), by simp, Nat.le_of_lt_succ (Nat.mod_lt _ (by omega)), Nat.le_trans (Nat.mod_le _ _) lm⟩
            obtain ⟨bx, ox, eqx, hbx, hcx⟩ := HN.at_ (k := 0) (by omega)
            cases eqx
            rw [Nat.add_zero, es0] at hcx
            have v1 : (0 : Int) < (n : Int) := by omega
            have v2 : (0 : Int) < 40 * (s0 : Int) + 1 := by omega
            have h40 : ∀ c ∈ List.replicate n 40, c ≤ 40 := fun c hc => by rw [List.mem_replicate] at hc; omega
            obtain ⟨a1, a2⟩ := fil_ans h5 (List.length_replicate (n := n) (a := 40)) h40 lk2
            obtain ⟨a3, a4⟩ := mak_ans h5 lk2
            obtain ⟨a5, a6⟩ := enough_ans h5 (k := k) (by rw [es0]; exact lk1)
            have erep : (ps.map fun _ => 40) = List.replicate n 40 := List.ext_getElem (by rw [List.length_map, List.length_replicate, hl]) (fun i h1 h2 => by rw [List.getElem_map, List.getElem_replicate])
            rw [erep] at a5 a6
            rw [a5] at a1
            rw [a6] at a2
            have kF3 := fun W (h : Ints W (some ⟨b0, o0, none⟩) n (ps.map Int.ofNat)) (h' : Ints W A20 n ((List.replicate n 40).map Int.ofNat)) => pk_Fill (some ⟨b0, o0, none⟩) A20 n n _ _ c c20 k W h h' (by omega) (by omega)
            have kA3 := fun W (h : Ints W (some ⟨b0, o0, none⟩) n (ps.map Int.ofNat)) => pk_Make (some ⟨b0, o0, none⟩) n _ c k W h (by omega)
            rw [a1, a2] at kF3
            rw [a3, a4] at kA3
            have hLk := ansL_len (ps.zip (ps.map (k / ·))) k
            rw [List.length_zip, List.length_map, hl, Nat.min_self] at hLk
            generalize ps.zip (ps.map (k / ·)) = zk at *
            clear a1 a2 a3 a4 a5 a6 erep h40 lk1
            go_wp2_with fail
            refine kP.mono ?_; rintro e wE ⟨rfl, rfl⟩
            go_wp2_with fail
            refine kQ.mono ?_; rintro e wE ⟨rfl, rfl⟩
            clear kP kQ
            go_wp2_with fail
            refine (kF3 _ HX HI20).mono ?_; rintro e wF ⟨A12, c12, rfl, HF3, d1⟩
            replace HX := HX.below d1; replace HB := HB.trans (d1.mono HB.size); clear d1
            go_wp2_with fail
            refine (kA3 _ HX).mono ?_; rintro e wG ⟨A13, c13, rfl, HF4, d1⟩
            replace HF3 := HF3.below d1; replace HB := HB.trans (d1.mono HB.size); clear d1
            rw [List.length_map] at HF3 HF4
            simp only [List.length_map]
            generalize (ansL zk k).map Int.ofNat = lk at *
            generalize (ansL zk k).length = Lk at *
            generalize ansE zk k = ek at *
            go_wp2_with fail
            refine (same_refl HF3 HF4 (by omega)).mono ?_; rintro e wH ⟨rfl, d1⟩
            replace HB := HB.trans (d1.mono HB.size); clear d1
            go_wp2_with fail
            refine (lw_works _).mono ?_; rintro e wI ⟨rfl, d1⟩
            replace HB := HB.trans (d1.mono HB.size); clear d1
            go_wp2_with fail
            go_ret
            exact ⟨rfl, HB⟩
          · simp only [List.length_map, h0]
            clear hmono2 h0 hzC hzD HP HQ
            obtain ⟨k, eqK, lk1, lk2⟩ : ∃ k : Nat, ((m : Nat) : Int) % (40 * (s0 : Int) + 1) = (k : Int) ∧ k ≤ 40 * s0 ∧ k ≤ 1000 := ⟨m % (40 * s0 + 1), by simp, Nat.le_of_lt_succ (Nat.mod_lt _ (by omega)), Nat.le_trans (Nat.mod_le _ _) lm⟩
            obtain ⟨bx, ox, eqx, hbx, hcx⟩ := HN.at_ (k := 0) (by omega)
            cases eqx
            rw [Nat.add_zero, es0] at hcx
            have v1 : (0 : Int) < (n : Int) := by omega
            have v2 : (0 : Int) < 40 * (s0 : Int) + 1 := by omega
            have h40 : ∀ c ∈ List.replicate n 40, c ≤ 40 := fun c hc => by rw [List.mem_replicate] at hc; omega
            obtain ⟨a1, a2⟩ := fil_ans h5 (List.length_replicate (n := n) (a := 40)) h40 lk2
            obtain ⟨a3, a4⟩ := mak_ans h5 lk2
            obtain ⟨a5, a6⟩ := enough_ans h5 (k := k) (by rw [es0]; exact lk1)
            have erep : (ps.map fun _ => 40) = List.replicate n 40 := List.ext_getElem (by rw [List.length_map, List.length_replicate, hl]) (fun i h1 h2 => by rw [List.getElem_map, List.getElem_replicate])
            rw [erep] at a5 a6
            rw [a5] at a1
            rw [a6] at a2
            have kF3 := fun W (h : Ints W (some ⟨b0, o0, none⟩) n (ps.map Int.ofNat)) (h' : Ints W A20 n ((List.replicate n 40).map Int.ofNat)) => pk_Fill (some ⟨b0, o0, none⟩) A20 n n _ _ c c20 k W h h' (by omega) (by omega)
            have kA3 := fun W (h : Ints W (some ⟨b0, o0, none⟩) n (ps.map Int.ofNat)) => pk_Make (some ⟨b0, o0, none⟩) n _ c k W h (by omega)
            rw [a1, a2] at kF3
            rw [a3, a4] at kA3
            have hLk := ansL_len (ps.zip (ps.map (k / ·))) k
            rw [List.length_zip, List.length_map, hl, Nat.min_self] at hLk
            generalize ps.zip (ps.map (k / ·)) = zk at *
            clear a1 a2 a3 a4 a5 a6 erep h40 lk1
            go_wp2_with fail
            refine (kF3 _ HX HI20).mono ?_; rintro e wF ⟨A12, c12, rfl, HF3, d1⟩
            replace HX := HX.below d1; replace HB := HB.trans (d1.mono HB.size); clear d1
            go_wp2_with fail
            refine (kA3 _ HX).mono ?_; rintro e wG ⟨A13, c13, rfl, HF4, d1⟩
            replace HF3 := HF3.below d1; replace HB := HB.trans (d1.mono HB.size); clear d1
            rw [List.length_map] at HF3 HF4
            simp only [List.length_map]
            generalize (ansL zk k).map Int.ofNat = lk at *
            generalize (ansL zk k).length = Lk at *
            generalize ansE zk k = ek at *
            go_wp2_with fail
            refine (same_refl HF3 HF4 (by omega)).mono ?_; rintro e wH ⟨rfl, d1⟩
            replace HB := HB.trans (d1.mono HB.size); clear d1
            go_wp2_with fail
            refine (lw_works _).mono ?_; rintro e wI ⟨rfl, d1⟩
            replace HB := HB.trans (d1.mono HB.size); clear d1
            go_wp2_with fail
            go_ret
            exact ⟨rfl, HB⟩
    · simp only [List.length_map, h0]
      clear hmono h0 hzA hzB HA HD
      go_wp2_with fail
      go_loopw [19, 20, 107] (fun u v g wr => ∃ (i : Nat) (fs : List Nat), i ≤ n ∧ g = .int .i64 i ∧ OwnI wr wB.heap.size u (fs.map Int.ofNat) ∧ OwnI wr wB.heap.size v ((List.replicate i 40).map Int.ofNat) ∧ Apart u v ∧ Hid (fs.length = i ∧ (∀ j, j < i → NAt cs j ≤ NAt fs j) ∧ ∀ f ∈ fs, f ≤ 40) ∧ Below wB.heap.size wB wr) (fun _ _ g _ => n - (intOf g).toNat)
      case atStart => exact ⟨0, [], by omega, rfl, OwnI.nil_ _ _, OwnI.nil_ _ _, (fun g h => by simp [Value.ownBlock] at h : Apart _ _), ⟨rfl, fun j hj => by omega, by simp⟩, Below.refl _ _⟩
      case round =>
        obtain ⟨i, fs, hi, rfl, ho1, ho2, hap, hfs, hw⟩ := hrel
        have hszb := hw.size
        by_cases hlt : i < n
        · obtain ⟨bc, oc, eqc, hbc, hcc⟩ := (HC.below hw).at_ hlt
          cases eqc
          have hci := hcs _ (NAt_mem (ps := cs) (k := i) (by omega))
          have hya := ((HY.below hw HY.lt).cell i).trans (yA_at y (show i < 4 by omega))
          have hyi := hy i
          have x1 : (0 : Int) ≤ (i : Int) := by omega
          have x2 : (i : Int) < n := by omega
          have x3 : (i : Int) < 4 := by omega
          obtain ⟨t9, e9, l9⟩ : ∃ t9 : Nat, ((y i : Nat) : Int) % 9 = (t9 : Int) ∧ t9 < 9 := ⟨y i % 9, by simp, Nat.mod_lt _ (by omega)⟩
          obtain ⟨f, ef⟩ : ∃ f : Nat, f = min 40 (NAt cs i + t9) := ⟨_, rfl⟩
          have hst := Lib.hid (show (fs ++ [f]).length = i + 1 ∧ (∀ j, j < i + 1 → NAt cs j ≤ NAt (fs ++ [f]) j) ∧ ∀ g ∈ fs ++ [f], g ≤ 40 from by
            obtain ⟨q1, q2, q3⟩ := hfs.out
            refine ⟨by simp [q1], fun j hj => ?_, fun g hg => ?_⟩
            · by_cases e : j = i
              · subst e
                have e2 : NAt (fs ++ [f]) j = f := by rw [← q1]; simp [NAt]
                rw [e2]; omega
              · have e2 : NAt (fs ++ [f]) j = NAt fs j := by simp [NAt, List.getElem?_append_left (show j < fs.length by omega)]
                rw [e2]; exact q2 j (by omega)
            · rcases List.mem_append.1 hg with hg | hg
              · exact q3 g hg
              · rw [List.mem_singleton] at hg; omega)
          have hfl : (fs.map Int.ofNat).length ≤ 1000000000 := by rw [List.length_map, hfs.out.1]; omega
          have hrl : ((List.replicate i 40).map Int.ofNat).length ≤ 1000000000 := by rw [List.length_map, List.length_replicate]; omega
          have hrep : (List.replicate (i + 1) 40).map Int.ofNat = (List.replicate i 40).map Int.ofNat ++ [40] := by rw [List.replicate_succ']; simp
          have hrep := Lib.hid hrep
          generalize NAt cs i = ci at *

          have hfl := Lib.hid hfl
          have hrl := Lib.hid hrl
          by_cases c1 : ci + t9 < 40
          · have c2 : (ci : Int) + (t9 : Int) < 40 := by omega
            have ef' : (ci : Int) + (t9 : Int) = (f : Int) := by omega
            clear ef c1
            go_wp2_with (first
              | (at_builtin; refine wpList_app2 rfl _ _ rfl wB.heap.size _ _ (fs.map Int.ofNat) _ f (by rfl) ho1 ho2 hap hszb hfl.out (by rfl) ?_; intro v7 w7 ho3 ho4 hap2 hb7)
              | (at_builtin; refine wpList_app2 rfl _ _ rfl wB.heap.size _ _ ((List.replicate i 40).map Int.ofNat) _ 40 (by rfl) ho4 ho3 hap2.symm (hb7 _ hw).size hrl.out (by rfl) ?_; intro v8 w8 ho5 ho6 hap3 hb8))
            exact ⟨⟨i + 1, fs ++ [f], by omega, by go_num, by rw [List.map_append]; exact ho6, by rw [hrep.out]; exact ho5, hap3.symm, hst.out, hb8 _ (hb7 _ hw)⟩, by simp [intOf]; omega⟩
          · have c2 : ¬ (ci : Int) + (t9 : Int) < 40 := by omega
            have ef' : f = 40 := by omega
            subst ef'
            clear ef c1
            go_wp2_with (first
              | (at_builtin; refine wpList_app2 rfl _ _ rfl wB.heap.size _ _ (fs.map Int.ofNat) _ 40 (by rfl) ho1 ho2 hap hszb hfl.out (by rfl) ?_; intro v7 w7 ho3 ho4 hap2 hb7)
              | (at_builtin; refine wpList_app2 rfl _ _ rfl wB.heap.size _ _ ((List.replicate i 40).map Int.ofNat) _ 40 (by rfl) ho4 ho3 hap2.symm (hb7 _ hw).size hrl.out (by rfl) ?_; intro v8 w8 ho5 ho6 hap3 hb8))
            exact ⟨⟨i + 1, fs ++ [40], by omega, by go_num, by rw [List.map_append]; exact ho6, by rw [hrep.out]; exact ho5, hap3.symm, hst.out, hb8 _ (hb7 _ hw)⟩, by simp [intOf]; omega⟩
        · obtain rfl : n = i := by omega
          obtain ⟨A19, c19, rfl, HI19⟩ := ho1.form
          obtain ⟨A20, c20, rfl, HI20⟩ := ho2.form
          have hfs := hfs.out
          have lf : (fs.map Int.ofNat).length = n := by rw [List.length_map, hfs.1]
          have lr : ((List.replicate n 40).map Int.ofNat).length = n := by rw [List.length_map, List.length_replicate]
          rw [lf] at HI19 ⊢
          rw [lr] at HI20 ⊢
          replace HX := HX.below hw; replace HN := HN.below hw; replace HC := HC.below hw; replace HB := HB.trans (hw.mono HB.size)
          clear ho1 ho2 hap hw hszb HY lf lr
          have HCi := HC.ints
          have hcf : ∀ f ∈ fs, f ≤ 40 := hfs.2.2
          obtain ⟨s0, es0⟩ : ∃ s0, NAt ps 0 = s0 := ⟨_, rfl⟩
          have hs0 := h5.at_ (k := 0) (by omega)
          rw [es0] at hs0
          obtain ⟨a1, a2⟩ := fil_ans h5 hlc hcs lm
          obtain ⟨a3, a4⟩ := fil_ans h5 hfs.1 hcf lm
          have kF1 := fun W (h : Ints W (some ⟨b0, o0, none⟩) n (ps.map Int.ofNat)) (h' : Ints W (some ⟨b1, o1, none⟩) n (cs.map Int.ofNat)) => pk_Fill (some ⟨b0, o0, none⟩) (some ⟨b1, o1, none⟩) n n _ _ c dd m W h h' (by omega) (by omega)
          have kF2 := fun W (h : Ints W (some ⟨b0, o0, none⟩) n (ps.map Int.ofNat)) (h' : Ints W A19 n (fs.map Int.ofNat)) => pk_Fill (some ⟨b0, o0, none⟩) A19 n n _ _ c c19 m W h h' (by omega) (by omega)
          rw [a1, a2] at kF1
          rw [a3, a4] at kF2
          have hmono2 := ans_more (l := ps.zip cs) (l' := ps.zip fs) lm (zip_pos hpos) (fun v => fil_caps ps cs fs m v (by rw [hlc, hfs.1]) (fun i hi => hfs.2.1 i (by omega)))
          have lz1 : (ps.zip cs).length = n := by rw [List.length_zip, hl, hlc, Nat.min_self]
          have lz2 : (ps.zip fs).length = n := by rw [List.length_zip, hl, hfs.1, Nat.min_self]
          rw [lz1, lz2] at hmono2
          have htwo2 := ans_two (ps.zip cs) m
          have hzC := ansL_bd (ps.zip cs) lm (zip_pos hpos)
          have hzD := ansL_bd (ps.zip fs) lm (zip_pos hpos)
          obtain ⟨zc, ezc⟩ : ∃ zc, zc = ps.zip cs := ⟨_, rfl⟩
          obtain ⟨zd, ezd⟩ : ∃ zd, zd = ps.zip fs := ⟨_, rfl⟩
          rw [← ezc] at kF1 htwo2 hzC hmono2
          rw [← ezd] at kF2 hzD hmono2
          clear a1 a2 a3 a4 lz1 lz2 ezc ezd hcf hfs
          go_wp2_with fail
          refine (kF1 _ HX HCi).mono ?_; rintro e wC ⟨A8, c8, rfl, HP, d1⟩
          replace HX := HX.below d1; replace HN := HN.below d1; replace HI19 := HI19.below d1; replace HI20 := HI20.below d1; replace HB := HB.trans (d1.mono HB.size); clear d1
          go_wp2_with fail
          refine (kF2 _ HX HI19).mono ?_; rintro e wD ⟨A9, c9, rfl, HQ, d1⟩
          replace HP := HP.below d1; replace HX := HX.below d1; replace HN := HN.below d1; replace HI20 := HI20.below d1; replace HB := HB.trans (d1.mono HB.size); clear d1
          clear kF1 kF2 HCi HC HI19
          rcases htwo2 with h0 | h0
          · obtain ⟨f0, la, lb, hpk⟩ := hmono2 h0
            have lA : ((ansL zc m).map Int.ofNat).length = n := by rw [List.length_map, la]
            have lB : ((ansL zd m).map Int.ofNat).length = n := by rw [List.length_map, lb]
            have bA : ∀ k, k < n → -1000000 ≤ At ((ansL zc m).map Int.ofNat) k ∧ At ((ansL zc m).map Int.ofNat) k ≤ 1000000 := fun k hk => by
              have := hzC (NAt (ansL zc m) k) (NAt_mem (by omega)); rw [At_map]; omega
            have bB : ∀ k, k < n → -1000000 ≤ At ((ansL zd m).map Int.ofNat) k ∧ At ((ansL zd m).map Int.ofNat) k ≤ 1000000 := fun k hk => by
              have := hzD (NAt (ansL zd m) k) (NAt_mem (by omega)); rw [At_map]; omega
            rw [lA] at HP
            rw [lB] at HQ
            simp only [List.length_map, la, lb, h0, f0]
            have kP := lw_packets A9 n _ c9 wD HQ (by omega) bB
            have kQ := lw_packets A8 n _ c8 wD HP (by omega) bA
            have hpk' : ¬ pkS ((ansL zc m).map Int.ofNat) n < pkS ((ansL zd m).map Int.ofNat) n := by omega
            clear bA bB lA lB la lb hmono2 h0 f0 hzC hzD HP HQ hpk
            generalize pkS ((ansL zc m).map Int.ofNat) n = S3 at *
            generalize pkS ((ansL zd m).map Int.ofNat) n = S4 at *
            obtain ⟨k, eqK, lk1, lk2⟩ : ∃ k : Nat, ((m : Nat) : Int) % (40 * (s0 : Int) + 1) = (k : Int) ∧ k ≤ 40 * s0 ∧ k ≤ 1000 := ⟨m % (40 * s0 + 1), by simp, Nat.le_of_lt_succ (Nat.mod_lt _ (by omega)), Nat.le_trans (Nat.mod_le _ _) lm⟩
            obtain ⟨bx, ox, eqx, hbx, hcx⟩ := HN.at_ (k := 0) (by omega)
            cases eqx
            rw [Nat.add_zero, es0] at hcx
            have v1 : (0 : Int) < (n : Int) := by omega
            have v2 : (0 : Int) < 40 * (s0 : Int) + 1 := by omega
            have h40 : ∀ c ∈ List.replicate n 40, c ≤ 40 := fun c hc => by rw [List.mem_replicate] at hc; omega
            obtain ⟨a1, a2⟩ := fil_ans h5 (List.length_replicate (n := n) (a := 40)) h40 lk2
            obtain ⟨a3, a4⟩ := mak_ans h5 lk2
            obtain ⟨a5, a6⟩ := enough_ans h5 (k := k) (by rw [es0]; exact lk1)
            have erep : (ps.map fun _ => 40) = List.replicate n 40 := List.ext_getElem (by rw [List.length_map, List.length_replicate, hl]) (fun i h1 h2 => by rw [List.getElem_map, List.getElem_replicate])
            rw [erep] at a5 a6
            rw [a5] at a1
            rw [a6] at a2
            have kF3 := fun W (h : Ints W (some ⟨b0, o0, none⟩) n (ps.map Int.ofNat)) (h' : Ints W A20 n ((List.replicate n 40).map Int.ofNat)) => pk_Fill (some ⟨b0, o0, none⟩) A20 n n _ _ c c20 k W h h' (by omega) (by omega)
            have kA3 := fun W (h : Ints W (some ⟨b0, o0, none⟩) n (ps.map Int.ofNat)) => pk_Make (some ⟨b0, o0, none⟩) n _ c k W h (by omega)
            rw [a1, a2] at kF3
            rw [a3, a4] at kA3
            have hLk := ansL_len (ps.zip (ps.map (k / ·))) k
            rw [List.length_zip, List.length_map, hl, Nat.min_self] at hLk
            generalize ps.zip (ps.map (k / ·)) = zk at *
            clear a1 a2 a3 a4 a5 a6 erep h40 lk1
            go_wp2_with fail
            refine kP.mono ?_; rintro e wE ⟨rfl, rfl⟩
            go_wp2_with fail
            refine kQ.mono ?_; rintro e wE ⟨rfl, rfl⟩
            clear kP kQ
            go_wp2_with fail
            refine (kF3 _ HX HI20).mono ?_; rintro e wF ⟨A12, c12, rfl, HF3, d1⟩
            replace HX := HX.below d1; replace HB := HB.trans (d1.mono HB.size); clear d1
            go_wp2_with fail
            refine (kA3 _ HX).mono ?_; rintro e wG ⟨A13, c13, rfl, HF4, d1⟩
            replace HF3 := HF3.below d1; replace HB := HB.trans (d1.mono HB.size); clear d1
            rw [List.length_map] at HF3 HF4
            simp only [List.length_map]
            generalize (ansL zk k).map Int.ofNat = lk at *
            generalize (ansL zk k).length = Lk at *
            generalize ansE zk k = ek at *
            go_wp2_with fail
            refine (same_refl HF3 HF4 (by omega)).mono ?_; rintro e wH ⟨rfl, d1⟩
            replace HB := HB.trans (d1.mono HB.size); clear d1
            go_wp2_with fail
            refine (lw_works _).mono ?_; rintro e wI ⟨rfl, d1⟩
            replace HB := HB.trans (d1.mono HB.size); clear d1
            go_wp2_with fail
            go_ret
            exact ⟨rfl, HB⟩
          · simp only [List.length_map, h0]
            clear hmono2 h0 hzC hzD HP HQ
            obtain ⟨k, eqK, lk1, lk2⟩ : ∃ k : Nat, ((m : Nat) : Int) % (40 * (s0 : Int) + 1) = (k : Int) ∧ k ≤ 40 * s0 ∧ k ≤ 1000 := ⟨m % (40 * s0 + 1), by simp, Nat.le_of_lt_succ (Nat.mod_lt _ (by omega)), Nat.le_trans (Nat.mod_le _ _) lm⟩
            obtain ⟨bx, ox, eqx, hbx, hcx⟩ := HN.at_ (k := 0) (by omega)
            cases eqx
            rw [Nat.add_zero, es0] at hcx
            have v1 : (0 : Int) < (n : Int) := by omega
            have v2 : (0 : Int) < 40 * (s0 : Int) + 1 := by omega
            have h40 : ∀ c ∈ List.replicate n 40, c ≤ 40 := fun c hc => by rw [List.mem_replicate] at hc; omega
            obtain ⟨a1, a2⟩ := fil_ans h5 (List.length_replicate (n := n) (a := 40)) h40 lk2
            obtain ⟨a3, a4⟩ := mak_ans h5 lk2
            obtain ⟨a5, a6⟩ := enough_ans h5 (k := k) (by rw [es0]; exact lk1)
            have erep : (ps.map fun _ => 40) = List.replicate n 40 := List.ext_getElem (by rw [List.length_map, List.length_replicate, hl]) (fun i h1 h2 => by rw [List.getElem_map, List.getElem_replicate])
            rw [erep] at a5 a6
            rw [a5] at a1
            rw [a6] at a2
            have kF3 := fun W (h : Ints W (some ⟨b0, o0, none⟩) n (ps.map Int.ofNat)) (h' : Ints W A20 n ((List.replicate n 40).map Int.ofNat)) => pk_Fill (some ⟨b0, o0, none⟩) A20 n n _ _ c c20 k W h h' (by omega) (by omega)
            have kA3 := fun W (h : Ints W (some ⟨b0, o0, none⟩) n (ps.map Int.ofNat)) => pk_Make (some ⟨b0, o0, none⟩) n _ c k W h (by omega)
            rw [a1, a2] at kF3
            rw [a3, a4] at kA3
            have hLk := ansL_len (ps.zip (ps.map (k / ·))) k
            rw [List.length_zip, List.length_map, hl, Nat.min_self] at hLk
            generalize ps.zip (ps.map (k / ·)) = zk at *
            clear a1 a2 a3 a4 a5 a6 erep h40 lk1
            go_wp2_with fail
            refine (kF3 _ HX HI20).mono ?_; rintro e wF ⟨A12, c12, rfl, HF3, d1⟩
            replace HX := HX.below d1; replace HB := HB.trans (d1.mono HB.size); clear d1
            go_wp2_with fail
            refine (kA3 _ HX).mono ?_; rintro e wG ⟨A13, c13, rfl, HF4, d1⟩
            replace HF3 := HF3.below d1; replace HB := HB.trans (d1.mono HB.size); clear d1
            rw [List.length_map] at HF3 HF4
            simp only [List.length_map]
            generalize (ansL zk k).map Int.ofNat = lk at *
            generalize (ansL zk k).length = Lk at *
            generalize ansE zk k = ek at *
            go_wp2_with fail
            refine (same_refl HF3 HF4 (by omega)).mono ?_; rintro e wH ⟨rfl, d1⟩
            replace HB := HB.trans (d1.mono HB.size); clear d1
            go_wp2_with fail
            refine (lw_works _).mono ?_; rintro e wI ⟨rfl, d1⟩
            replace HB := HB.trans (d1.mono HB.size); clear d1
            go_wp2_with fail
            go_ret
            exact ⟨rfl, HB⟩
end Go.Proofs.Ytjcoaicpeajpnaa
