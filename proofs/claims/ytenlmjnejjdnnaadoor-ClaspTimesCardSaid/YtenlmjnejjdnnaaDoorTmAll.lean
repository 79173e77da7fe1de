/- Clasp: Distance, Next, Way. -/
import Derived.Test.YtenlmjnejjdnnaaDoorClI
import Derived.Test.YtenlmjnejjdnnaaDoorClMatb
import Derived.Test.YtenlmjnejjdnnaaDoorNmB
import Derived.Test.YtenlmjnejjdnnaaDoorLcA
namespace Go.Proofs.YtenlmjnejjdnnaaDoor
open Go.RowKit Cl

theorem onE_ok {xs ys zs : List Int} (h : bothE xs ys = 0) : onE xs ys zs = onL zs := by rw [onE, if_pos h]
theorem onE_err {xs ys zs : List Int} (h : bothE xs ys ≠ 0) : onE xs ys zs = [] := by rw [onE, if_neg h]
theorem num_onE (xs ys zs : List Int) (hz : zs = xs ∨ zs = ys) : num (onE xs ys zs) < 65536 := by
  by_cases h : bothE xs ys = 0
  · rw [onE_ok h]
    obtain ⟨p1, p2, p3, p4⟩ := okPair h rfl rfl
    rcases hz with rfl | rfl
    · exact gap_num_lt rfl p2
    · exact gap_num_lt rfl (by omega)
  · rw [onE_err h]; decide

def distV (xs ys : List Int) : Int := if bothE xs ys = 0 then (gap (num (onL xs)) (num (onL ys)) : Nat) else 0

set_option maxRecDepth 100000 in
set_option maxHeartbeats 1000000 in
theorem cl_Distance (A B : Option Addr) (n m : Nat) (xs ys : List Int) (ca cb : Nat) (w : World) (hx : Ints w A n xs) (hy : Ints w B m ys) (hl : n ≤ 9223372036854775807) (hl' : m ≤ 9223372036854775807) :
    Calls Tryd.prog 29 #[.slice A n ca, .slice B m cb] w fun e w' => e = .returned (.tuple #[.int .i64 (distV xs ys), .int .i64 (bothE xs ys)]) ∧ Below w.heap.size w w' := by
  have k1 := cl_between A B n m xs ys ca cb w hx hy hl hl'
  have h1 := num_onE xs ys xs (.inl rfl)
  have h2 := num_onE xs ys ys (.inr rfl)
  have hV := Lib.hid (show distV xs ys = ((gap (num (onE xs ys xs)) (num (onE xs ys ys)) : Nat) : Int) by
    unfold distV
    by_cases h : bothE xs ys = 0
    · rw [if_pos h, onE_ok h, onE_ok h]
    · rw [if_neg h, onE_err h, onE_err h]; rfl)
  generalize (onE xs ys xs).length = N at *
  generalize num (onE xs ys xs) = a at *
  generalize num (onE xs ys ys) = b at *
  have k2 := fun W => walk_length N a b h1 h2 W
  clear h1 h2
  go_enter Tryd.func29, Tryd.ntmps29
  go_wp2_with fail
  refine k1.mono ?_; rintro e w1 ⟨rfl, b1⟩
  have hsz := b1.size
  go_wp2_with fail
  refine (k2 _).mono ?_; rintro e w2 ⟨rfl, b2⟩
  go_wp2_with fail
  go_ret2
  exact ⟨by rw [hV.out]; rfl, (b1.alloc hsz _).trans (b2.mono (by simp; omega))⟩

set_option maxRecDepth 100000 in
set_option maxHeartbeats 1000000 in
theorem cl_Next (A B : Option Addr) (n m : Nat) (xs ys : List Int) (ca cb : Nat) (w : World) (ht : HasTab w) (hx : Ints w A n xs) (hy : Ints w B m ys) (hl : n ≤ 9223372036854775807) (hl' : m ≤ 9223372036854775807) :
    Calls Tryd.prog 31 #[.slice A n ca, .slice B m cb] w fun e w' => e = .returned (.tuple #[.int .i64 (nextV xs ys), .int .i64 (nextE xs ys)]) ∧ Below w.heap.size w w' := by
  have k1 := cl_between A B n m xs ys ca cb w hx hy hl hl'
  by_cases h0 : bothE xs ys = 0
  · rw [onE_ok h0, onE_ok h0] at k1
    obtain ⟨p1, p2, p3, p4⟩ := okPair h0 rfl rfl
    have h1 : num (onL xs) < 65536 := gap_num_lt rfl p2
    have h2 : num (onL ys) < 65536 := gap_num_lt rfl (by omega)
    have k2 := fun W => walk_length (onL xs).length (num (onL xs)) (num (onL ys)) h1 h2 W
    rw [h0] at k1
    by_cases h3 : num (onL xs) = num (onL ys)
    · have hE' : nextE xs ys = 12 := by rw [nextE, if_pos h0, if_pos h3]
      have hE := Lib.hid hE'
      have hV := Lib.hid (show nextV xs ys = 0 by rw [nextV, hE']; rfl)
      rw [gap_zero.2 h3] at k2
      clear h0 h3 hE' h1 h2 p1 p2 p3 p4
      generalize (onL xs).length = N at *
      generalize num (onL xs) = a at *
      generalize num (onL ys) = b at *
      go_enter Tryd.func31, Tryd.ntmps31
      go_wp2_with fail
      refine k1.mono ?_; rintro e w1 ⟨rfl, b1⟩
      have hsz := b1.size
      go_wp2_with fail
      refine (k2 _).mono ?_; rintro e w2 ⟨rfl, b2⟩
      go_wp2_with fail
      go_ret2
      exact ⟨by rw [hV.out, hE.out]; rfl, (b1.alloc hsz _).trans (b2.mono (by simp; omega))⟩
    · have hE' : nextE xs ys = 0 := by rw [nextE, if_pos h0, if_neg h3]
      have hE := Lib.hid hE'
      have hV := Lib.hid (show nextV xs ys = ((nextN (num (onL xs)) (num (onL ys)) : Nat) : Int) by rw [nextV, if_pos hE'])
      have hpos : 0 < gap (num (onL xs)) (num (onL ys)) := Nat.pos_of_ne_zero fun e => h3 (gap_zero.1 e)
      have hg' : (((gap (num (onL xs)) (num (onL ys)) : Nat) : Int) == 0) = false := by simp; omega
      have k3 := fun W hT => walk_ring (onL xs).length (num (onL xs)) (num (onL ys)) 0 h1 h2 hpos W hT
      simp only [atN_zero] at k3
      have hH := Lib.hid hpos
      clear h0 h3 hE' h1 h2 p1 p2 p3 p4 hpos
      generalize hN : (onL xs).length = N at *
      generalize hgg : gap (num (onL xs)) (num (onL ys)) = g at *
      generalize hnn : nextN (num (onL xs)) (num (onL ys)) = K at *
      generalize ha : num (onL xs) = a at *
      generalize hb : num (onL ys) = b at *
      clear hN hgg hnn ha hb hH
      go_enter Tryd.func31, Tryd.ntmps31
      go_wp2_with fail
      refine k1.mono ?_; rintro e w1 ⟨rfl, b1⟩
      have hsz := b1.size
      have hB1 := Whole.new w1 81 (walkA N a b)
      have bb1 := b1.alloc hsz (.cells (walkA N a b) 81)
      have hs1 : (w1.alloc (.cells (walkA N a b) 81)).heap.size = w1.heap.size + 1 := by simp
      go_wp2_with fail
      refine (k2 _).mono ?_; rintro e w2 ⟨rfl, b2⟩
      have hB2 := hB1.below b2 (by simp)
      have c0 := hB2.cell 0
      have c1 := hB2.cell 1
      have c2 := hB2.cell 2
      simp at c0 c1 c2
      have bb2 := bb1.trans (b2.mono (by simp; omega))
      go_wp2_with fail
      refine (k3 _ (ht.below bb2)).mono ?_; rintro e w3 ⟨rfl, b3⟩
      go_wp2_with fail
      go_ret2
      exact ⟨by rw [hV.out, hE.out]; rfl, bb2.trans (b3.mono bb2.size)⟩
  · have hne : (bothE xs ys != 0) = true := by simp [h0]
    have hE' : nextE xs ys = bothE xs ys := by rw [nextE, if_neg h0]
    have hE := Lib.hid hE'
    have hV := Lib.hid (show nextV xs ys = 0 by rw [nextV, hE', if_neg h0])
    clear h0 hE'
    generalize (onE xs ys xs).length = N at *
    generalize num (onE xs ys xs) = a at *
    generalize num (onE xs ys ys) = b at *
    go_enter Tryd.func31, Tryd.ntmps31
    go_wp2_with fail
    refine k1.mono ?_; rintro e w1 ⟨rfl, b1⟩
    have hsz := b1.size
    go_wp2_with fail
    go_ret2
    exact ⟨by rw [hV.out, hE.out]; rfl, b1.alloc hsz _⟩

theorem rc_Distance' (A B : Option Addr) (n m : Nat) (xs ys : List Int) (ca cb : Nat) (w : World) (hx : Ints w A n xs) (hy : Ints w B m ys) (hl : n ≤ 9223372036854775807) (hl' : m ≤ 9223372036854775807) :
    Calls Tryd.prog 30 #[.slice A n ca, .slice B m cb] w fun e w' => e = .returned (.tuple #[.int .i64 (distV xs ys), .int .i64 (bothE xs ys)]) ∧ w = w' :=
  (rc_Distance A B n m xs ys ca cb w hx hy hl hl').mono fun _ _ h => h
end Go.Proofs.YtenlmjnejjdnnaaDoor

/-! Clasp: Way. -/
namespace Go.Proofs.YtenlmjnejjdnnaaDoor
open Go.RowKit Cl

set_option maxRecDepth 100000 in
set_option maxHeartbeats 4000000 in
theorem cl_Way (A B : Option Addr) (n m : Nat) (xs ys : List Int) (ca cb : Nat) (w : World) (ht : HasTab w) (hx : Ints w A n xs) (hy : Ints w B m ys) (hl : n ≤ 9223372036854775807) (hl' : m ≤ 9223372036854775807) :
    Calls Tryd.prog 33 #[.slice A n ca, .slice B m cb] w fun e w' => GivL e w w' (wayL xs ys) (wayE xs ys) := by
  have k1 := cl_between A B n m xs ys ca cb w hx hy hl hl'
  by_cases h0 : bothE xs ys = 0
  · rw [onE_ok h0, onE_ok h0] at k1
    obtain ⟨p1, p2, p3, p4⟩ := okPair h0 rfl rfl
    have h1 : num (onL xs) < 65536 := gap_num_lt rfl p2
    have h2 : num (onL ys) < 65536 := gap_num_lt rfl (by omega)
    have k2 := fun W => walk_length (onL xs).length (num (onL xs)) (num (onL ys)) h1 h2 W
    have k3 := fun i hi W hT => walk_ring (onL xs).length (num (onL xs)) (num (onL ys)) i h1 h2 hi W hT
    rw [h0] at k1
    by_cases h3 : 1000 < gap (num (onL xs)) (num (onL ys))
    · have hE' : wayE xs ys = 3 := by rw [wayE, if_pos h0, if_pos h3]
      have hE := Lib.hid hE'
      have hV := Lib.hid (show wayL xs ys = [] by rw [wayL, hE']; rfl)
      have h3' : (1000 : Int) < ((gap (num (onL xs)) (num (onL ys)) : Nat) : Int) := by omega
      clear h0 h3 hE' h1 h2 p1 p2 p3 p4 k3
      generalize (onL xs).length = N at *
      generalize hgg : gap (num (onL xs)) (num (onL ys)) = g at *
      generalize num (onL xs) = a at *
      generalize num (onL ys) = b at *
      clear hgg
      go_enter Tryd.func33, Tryd.ntmps33
      go_wp2_with fail
      refine k1.mono ?_; rintro e w1 ⟨rfl, b1⟩
      have hsz := b1.size
      go_wp2_with fail
      refine (k2 _).mono ?_; rintro e w2 ⟨rfl, b2⟩
      go_wp2_with fail
      go_ret2
      unfold GivL
      rw [hV.out, hE.out]
      exact ⟨none, 0, rfl, Ints.nil_ _ _, (b1.alloc hsz _).trans (b2.mono (by simp; omega))⟩
    · have hE' : wayE xs ys = 0 := by rw [wayE, if_pos h0, if_neg h3]
      have hE := Lib.hid hE'
      have hV := Lib.hid (show wayL xs ys = wayTo (num (onL xs)) (num (onL ys)) (gap (num (onL xs)) (num (onL ys))) by rw [wayL, if_pos hE'])
      have h3' : ¬ (1000 : Int) < ((gap (num (onL xs)) (num (onL ys)) : Nat) : Int) := by omega
      have hG1 : gap (num (onL xs)) (num (onL ys)) ≤ 1000 := by omega
      clear h0 h3 hE' h1 h2 p1 p2 p3 p4
      generalize (onL xs).length = N at *
      generalize hgg : gap (num (onL xs)) (num (onL ys)) = G at *
      generalize num (onL xs) = a at *
      generalize num (onL ys) = b at *
      clear hgg
      have K3 := Lib.hid k3
      clear k3
      go_enter Tryd.func33, Tryd.ntmps33
      go_wp2_with fail
      refine k1.mono ?_; rintro e w1 ⟨rfl, b1⟩
      have hsz := b1.size
      have hB1 := Whole.new w1 81 (walkA N a b)
      have bb1 := b1.alloc hsz (.cells (walkA N a b) 81)
      go_wp2_with fail
      refine (k2 _).mono ?_; rintro e w2 ⟨rfl, b2⟩
      have hB2 := hB1.below b2 (by simp)
      have c0 := hB2.cell 0
      have c1 := hB2.cell 1
      have c2 := hB2.cell 2
      simp at c0 c1 c2
      have bb2 := bb1.trans (b2.mono (by simp; omega))
      go_wp2_with fail
      refine (k2 _).mono ?_; rintro e w3 ⟨rfl, b3⟩
      have hB3 := hB2.below b3 hB2.lt
      have bb3 := bb2.trans (b3.mono bb2.size)
      have hmk := mkI (G : Int) G rfl (by omega) w3
      have hL0 := Whole.new w3 3 (Array.replicate G (.int .i64 0))
      have hB4 := hB3.alloc (.cells (Array.replicate G (.int .i64 0)) 3)
      have bb4 := bb3.alloc bb3.size (.cells (Array.replicate G (.int .i64 0)) 3)
      have hlt13 : w1.heap.size < w3.heap.size := hB3.lt
      clear hB1 hB2 hB3 c0 c1 c2 bb1 bb2 b1 b2 b3 k1 k2
      go_wp2_with fail
      go_loopw [27] (fun i wr => ∃ k : Nat, k ≤ G ∧ i = .int .i64 k ∧ Whole wr w1.heap.size 81 (walkA N a b) ∧ (∃ rs, Whole wr w3.heap.size 3 rs ∧ Row rs G (fun x => if x < k then ((nextN (atN a b x) b : Nat) : Int) else 0)) ∧ Below w.heap.size w wr) (fun i _ => G - (intOf i).toNat)
      case atStart => exact ⟨0, by omega, rfl, hB4, ⟨_, hL0, (Row.zero _).congr fun x _ => by simp⟩, bb4⟩
      case round =>
        obtain ⟨k, hk, rfl, hB, ⟨rs, hL, hR⟩, hw⟩ := hrel
        clear hB4 hL0 bb4 hmk bb3
        by_cases hlt : k < G
        · have k4 := K3.out k hlt wr (ht.below hw)
          have hki : (0 : Int) ≤ (k : Int) := by omega
          have hkn : (k : Int) < G := by omega
          have c0 := hB.cell 0
          have c1 := hB.cell 1
          have c2 := hB.cell 2
          simp at c0 c1 c2
          have hHR := Lib.hid (rfl : nextN (atN a b k) b = nextN (atN a b k) b)
          obtain ⟨v, hv⟩ : ∃ v, v = nextN (atN a b k) b := ⟨_, rfl⟩
          rw [← hv] at k4
          have HV := Lib.hid hv
          clear hv hHR
          go_wp2_with fail
          refine k4.mono ?_; rintro e w4 ⟨rfl, b4⟩
          have hB5 := hB.below b4 hB.lt
          have hL5 := hL.below b4 hL.lt
          have f5 := hL5.frozen k
          have c5 : w4.cell? ⟨w3.heap.size, k, none⟩ = some (.int .i64 0) := (hL5.cell k).trans ((hR.2 k hlt).trans (by simp))
          have hw5 := hw.trans (b4.mono hw.size)
          have hge : w.heap.size ≤ w3.heap.size := by omega
          go_wp2_with fail
          refine ⟨⟨k + 1, by omega, by go_num, hB5.far (by simp; omega) _, ⟨_, hL5.set_ k _, (hR.set_ hlt).congr fun x hx => ?_⟩, hw5.setCell hge _⟩, by simp [intOf]; omega⟩
          by_cases e : x = k
          · subst e; rw [if_pos rfl, if_pos (by omega), HV.out]
          · rw [if_neg e]; by_cases h : x < k
            · rw [if_pos h, if_pos (by omega)]
            · rw [if_neg h, if_neg (by omega)]
        · obtain rfl : k = G := by omega
          go_wp2_with fail
          go_ret2
          unfold GivL
          rw [hV.out, hE.out, wayTo_len]
          exact ⟨_, _, rfl, hL.ints (hR.congr fun x hx => by rw [if_pos hx, At_wayTo hx]) (wayTo_len _ _ _), hw⟩
  · have hne : (bothE xs ys != 0) = true := by simp [h0]
    have hE' : wayE xs ys = bothE xs ys := by rw [wayE, if_neg h0]
    have hE := Lib.hid hE'
    have hV := Lib.hid (show wayL xs ys = [] by rw [wayL, hE', if_neg h0])
    clear h0 hE'
    generalize (onE xs ys xs).length = N at *
    generalize num (onE xs ys xs) = a at *
    generalize num (onE xs ys ys) = b at *
    go_enter Tryd.func33, Tryd.ntmps33
    go_wp2_with fail
    refine k1.mono ?_; rintro e w1 ⟨rfl, b1⟩
    have hsz := b1.size
    go_wp2_with fail
    go_ret2
    unfold GivL
    rw [hV.out, hE.out]
    exact ⟨none, 0, rfl, Ints.nil_ _ _, b1.alloc hsz _⟩
end Go.Proofs.YtenlmjnejjdnnaaDoor

/-! Clasp: how often rings are moved, as a number. -/
namespace Go.Proofs.YtenlmjnejjdnnaaDoor
open Go.RowKit Cl

theorem step_ring {n m k : Nat} (hn : n ≤ 16) (hm : m + 1 < 2 ^ n) : (bit (pos n m) k = bit (pos n (m + 1)) k) ↔ ¬ tzN (m + 1) = k := by
  have e0 := num_pos n m (by omega)
  have e1 := num_pos n (m + 1) hm
  have hl := pos_len n m
  have h := next_spec (l := pos n m) (b := m + 1) (by omega) (by rw [hl]; exact hm) (by omega)
  rw [e0, if_pos (by omega), show nextN m (m + 1) = tzN (m + 1) by rw [nextN, if_pos (by omega)], hl] at h
  obtain ⟨h1, h2, h3⟩ := h
  have h4 : flip (pos n m) (tzN (m + 1)) = pos n (m + 1) := num_inj (by rw [flip_len, hl, pos_len]) (by rw [h3, e1])
  rw [← h4, bit_flip _ _ _ (by omega)]
  constructor
  · intro h5 h6
    rw [if_pos h6.symm, h6] at h5
    cases h7 : bit (pos n m) k <;> rw [h7] at h5 <;> cases h5
  · intro h5
    rw [if_neg fun h6 => h5 h6.symm]

/-- How often a ring is moved on so many moves. -/
def tmU (a b i k : Nat) : Nat := (List.range i).countP fun j => nextN (atN a b j) b == k
def tmD (lo i k : Nat) : Nat := (List.range i).countP fun j => tzN (lo + j + 1) == k
theorem tmU_zero (a b k : Nat) : tmU a b 0 k = 0 := rfl
theorem tmD_zero (lo k : Nat) : tmD lo 0 k = 0 := rfl
theorem tmU_succ (a b i k : Nat) : tmU a b (i + 1) k = tmU a b i k + if nextN (atN a b i) b = k then 1 else 0 := by
  simp [tmU, List.range_succ, List.countP_append, List.countP_cons]
theorem tmD_succ (lo i k : Nat) : tmD lo (i + 1) k = tmD lo i k + if tzN (lo + i + 1) = k then 1 else 0 := by
  simp [tmD, List.range_succ, List.countP_append, List.countP_cons]
theorem tmU_le (a b i k : Nat) : tmU a b i k ≤ i := by
  have := List.countP_le_length (p := fun j => nextN (atN a b j) b == k) (l := List.range i)
  simpa [tmU] using this
theorem tmD_le (lo i k : Nat) : tmD lo i k ≤ i := by
  have := List.countP_le_length (p := fun j => tzN (lo + j + 1) == k) (l := List.range i)
  simpa [tmD] using this
theorem countP_refl (p : Nat → Bool) (g : Nat) : (List.range g).countP (fun i => p (g - 1 - i)) = (List.range g).countP p := by
  have e : (List.range g).map (fun i => g - 1 - i) = (List.range g).reverse := by
    apply List.ext_getElem
    · simp
    · intro i h1 h2
      simp
  have h1 : (List.range g).countP (fun i => p (g - 1 - i)) = ((List.range g).map (fun i => g - 1 - i)).countP p := by rw [List.countP_map]; rfl
  rw [h1, e, List.countP_reverse]
theorem tm_eq (a b k : Nat) : tmU a b (gap a b) k = tmD (min a b) (gap a b) k := by
  unfold tmU tmD
  by_cases h : b < a
  · rw [← countP_refl (fun j => tzN (min a b + j + 1) == k)]
    refine List.countP_congr fun i hi => ?_
    have hi' := List.mem_range.1 hi
    have e : nextN (atN a b i) b = tzN (min a b + (gap a b - 1 - i) + 1) := by
      unfold gap at hi'
      have e1 : atN a b i = a - i := by unfold atN; rw [if_pos h]
      rw [e1, nextN, if_neg (by omega)]
      congr 1; unfold gap; omega
    simp only [e]
  · refine List.countP_congr fun i hi => ?_
    have hi' := List.mem_range.1 hi
    have e : nextN (atN a b i) b = tzN (min a b + i + 1) := by
      unfold gap at hi'
      have e1 : atN a b i = a + i := by unfold atN; rw [if_neg h]
      rw [e1, nextN, if_pos (by omega)]
      congr 1; omega
    rw [e]

/-- How often each ring is moved. -/
def tmE (xs ys : List Int) : List Int := if bothE xs ys = 0 then (List.range xs.length).map fun k => ((tmU (num (onL xs)) (num (onL ys)) (gap (num (onL xs)) (num (onL ys))) k : Nat) : Int) else []
end Go.Proofs.YtenlmjnejjdnnaaDoor

/-! Clasp: Times. -/
namespace Go.Proofs.YtenlmjnejjdnnaaDoor
open Go.RowKit Cl

theorem ring_lt {N a b i : Nat} (hN : N ≤ 16) (ha : a < 2 ^ N) (hb : b < 2 ^ N) (hi : i < gap a b) : nextN (atN a b i) b < N := by
  have hlt : atN a b i < 2 ^ N := by unfold atN; unfold gap at hi; split <;> omega
  have e := num_pos N (atN a b i) hlt
  have hne : atN a b i ≠ b := by unfold atN; unfold gap at hi; split <;> omega
  have h := (next_spec (l := pos N (atN a b i)) (b := b) (by rw [pos_len]; exact hN) (by rw [pos_len]; exact hb) (by rw [e]; exact hne)).1
  rwa [e, pos_len] at h
theorem At_tm (a b g n : Nat) {k : Nat} (hk : k < n) : At ((List.range n).map fun k => ((tmU a b g k : Nat) : Int)) k = ((tmU a b g k : Nat) : Int) := by simp [At, hk]

set_option maxRecDepth 100000 in
set_option maxHeartbeats 4000000 in
theorem cl_Times (A B : Option Addr) (n m : Nat) (xs ys : List Int) (ca cb : Nat) (w : World) (ht : HasTab w) (hx : Ints w A n xs) (hy : Ints w B m ys) (hl : n ≤ 9223372036854775807) (hl' : m ≤ 9223372036854775807) :
    Calls Tryd.prog 37 #[.slice A n ca, .slice B m cb] w fun e w' => GivL e w w' (tmE xs ys) (bothE xs ys) := by
  have k1 := cl_between A B n m xs ys ca cb w hx hy hl hl'
  by_cases h0 : bothE xs ys = 0
  · rw [onE_ok h0, onE_ok h0] at k1
    obtain ⟨p1, p2, p3, p4⟩ := okPair h0 rfl rfl
    have h1 : num (onL xs) < 65536 := gap_num_lt rfl p2
    have h2 : num (onL ys) < 65536 := gap_num_lt rfl (by omega)
    have h1' : num (onL xs) < 2 ^ xs.length := by have := num_lt (onL xs); rwa [onL_len] at this
    have h2' : num (onL ys) < 2 ^ xs.length := by have := num_lt (onL ys); rwa [onL_len, p1] at this
    have k2 := fun W => walk_length (onL xs).length (num (onL xs)) (num (onL ys)) h1 h2 W
    have k3 := fun i hi W hT => walk_ring (onL xs).length (num (onL xs)) (num (onL ys)) i h1 h2 hi W hT
    have kr := fun i hi => ring_lt (i := i) p2 h1' h2' hi
    have hE := Lib.hid h0
    have hV := Lib.hid (show tmE xs ys = (List.range xs.length).map fun k => ((tmU (num (onL xs)) (num (onL ys)) (gap (num (onL xs)) (num (onL ys))) k : Nat) : Int) by rw [tmE, if_pos h0])
    rw [h0] at k1
    rw [onL_len] at k1 k2 k3
    have hG : gap (num (onL xs)) (num (onL ys)) < 65536 := by unfold gap; omega
    clear h0 h1 h2 h1' h2' p1 p3 p4
    generalize xs.length = N at *
    generalize hgg : gap (num (onL xs)) (num (onL ys)) = G at *
    generalize num (onL xs) = a at *
    generalize num (onL ys) = b at *
    clear hgg
    have K3 := Lib.hid k3
    have KR := Lib.hid kr
    clear k3 kr
    go_enter Tryd.func37, Tryd.ntmps37
    go_wp2_with fail
    refine k1.mono ?_; rintro e w1 ⟨rfl, b1⟩
    have hsz := b1.size
    have hB1 := Whole.new w1 81 (walkA N a b)
    have bb1 := b1.alloc hsz (.cells (walkA N a b) 81)
    have hmk := fun W => mkI (N : Int) N rfl (by omega) W
    have sz1 : (w1.alloc (.cells (walkA N a b) 81)).heap.size = w1.heap.size + 1 := by simp
    have hL1 := Whole.new (w1.alloc (.cells (walkA N a b) 81)) 3 (Array.replicate N (.int .i64 0))
    rw [sz1] at hL1
    have hB2 := hB1.alloc (.cells (Array.replicate N (.int .i64 0)) 3)
    have bb2 := bb1.alloc bb1.size (.cells (Array.replicate N (.int .i64 0)) 3)
    go_wp2_with fail
    refine (k2 _).mono ?_; rintro e w2 ⟨rfl, b2⟩
    have hB3 := hB2.below b2 (by simp; omega)
    have hL3 := hL1.below b2 (by simp)
    have bb3 := bb2.trans (b2.mono (by simp; omega))
    clear hB1 hB2 hL1 bb1 bb2 b2 k1 k2 sz1
    go_wp2_with fail
    go_loopw [24] (fun i wr => ∃ k : Nat, k ≤ G ∧ i = .int .i64 k ∧ Whole wr w1.heap.size 81 (walkA N a b) ∧ (∃ rs, Whole wr (w1.heap.size + 1) 3 rs ∧ Row rs N (fun x => ((tmU a b k x : Nat) : Int))) ∧ Below w.heap.size w wr) (fun i _ => G - (intOf i).toNat)
    case atStart => exact ⟨0, by omega, rfl, hB3, ⟨_, hL3, (Row.zero _).congr fun x _ => by simp [tmU_zero]⟩, bb3⟩
    case round =>
      obtain ⟨k, hk, rfl, hB, ⟨rs, hL, hR⟩, hw⟩ := hrel
      clear hB3 hL3 hmk bb3
      by_cases hlt : k < G
      · have k4 := K3.out k hlt wr (ht.below hw)
        have hr4 := KR.out k hlt
        have hki : (0 : Int) ≤ (k : Int) := by omega
        have hkn : (k : Int) < G := by omega
        have c0 := hB.cell 0
        have c1 := hB.cell 1
        have c2 := hB.cell 2
        simp at c0 c1 c2
        obtain ⟨v, hv⟩ : ∃ v, v = nextN (atN a b k) b := ⟨_, rfl⟩
        rw [← hv] at k4 hr4
        have HV := Lib.hid hv
        clear hv
        go_wp2_with fail
        refine k4.mono ?_; rintro e w4 ⟨rfl, b4⟩
        have hB5 := hB.below b4 hB.lt
        have hL5 := hL.below b4 hL.lt
        have f5 := hL5.frozen v
        have c5 : w4.cell? ⟨w1.heap.size + 1, v, none⟩ = some (.int .i64 (tmU a b k v : Nat)) := (hL5.cell v).trans (hR.2 v hr4)
        have hw5 := hw.trans (b4.mono hw.size)
        have hv0 : (0 : Int) ≤ (v : Int) := by omega
        have hv1 : (v : Int) < (N : Int) := by omega
        have hle := tmU_le a b k v
        have hts := Lib.hid (tmU_succ a b k)
        obtain ⟨q, hq⟩ : ∃ q, q = tmU a b k v := ⟨_, rfl⟩
        rw [← hq] at c5 hle
        have HQ := Lib.hid hq
        have hq0 : (0 : Int) ≤ (q : Int) := by omega
        have hq1 : (q : Int) < 65536 := by omega
        clear hq
        go_wp2_with fail
        refine ⟨⟨k + 1, by omega, by go_num, hB5.far (by simp) _, ⟨_, hL5.set_ v _, (hR.set_ hr4).congr fun x hx => ?_⟩, hw5.setCell (show w.heap.size ≤ w1.heap.size + 1 by omega) _⟩, by simp [intOf]; omega⟩
        by_cases e : x = v
        · subst e; rw [if_pos rfl, hts.out, if_pos HV.out.symm, HQ.out]; push_cast; rfl
        · rw [if_neg e, hts.out, if_neg fun h => e (by rw [HV.out, h])]; rfl
      · obtain rfl : k = G := by omega
        go_wp2_with fail
        go_ret2
        unfold GivL
        rw [hV.out, hE.out]
        have hLen : ((List.range N).map fun x => ((tmU a b k x : Nat) : Int)).length = N := by simp
        rw [hLen]
        exact ⟨_, _, rfl, hL.ints (hR.congr fun x hx => by rw [At_tm a b k N hx]) hLen, hw⟩
  · have hne : (bothE xs ys != 0) = true := by simp [h0]
    have hV := Lib.hid (show tmE xs ys = [] by rw [tmE, if_neg h0])
    clear h0
    generalize (onE xs ys xs).length = N at *
    generalize num (onE xs ys xs) = a at *
    generalize num (onE xs ys ys) = b at *
    go_enter Tryd.func37, Tryd.ntmps37
    go_wp2_with fail
    refine k1.mono ?_; rintro e w1 ⟨rfl, b1⟩
    have hsz := b1.size
    go_wp2_with fail
    go_ret2
    unfold GivL
    rw [hV.out]
    exact ⟨none, 0, rfl, Ints.nil_ _ _, b1.alloc hsz _⟩
end Go.Proofs.YtenlmjnejjdnnaaDoor

/-! Clasp's reference: Times. -/
namespace Go.Proofs.YtenlmjnejjdnnaaDoor
open Go.RowKit Cl

def tmF (lo t k : Nat) : Nat := tmD lo (t - lo) k
theorem tmF_zero (lo k : Nat) : tmF lo lo k = 0 := by rw [tmF, Nat.sub_self]; rfl
theorem tmF_succ (lo t k : Nat) (h : lo ≤ t) : tmF lo (t + 1) k = tmF lo t k + if tzN (t + 1) = k then 1 else 0 := by
  rw [tmF, tmF, show t + 1 - lo = (t - lo) + 1 by omega, tmD_succ, show lo + (t - lo) + 1 = t + 1 by omega]
theorem tmF_le (lo t k : Nat) : tmF lo t k ≤ t := Nat.le_trans (tmD_le _ _ _) (Nat.sub_le _ _)
theorem tmF_end {a b lo hi : Nat} (h : lo = min a b ∧ hi = max a b) (k : Nat) : tmF lo hi k = tmU a b (gap a b) k := by
  rw [tm_eq, h.1, h.2, tmF]; rfl

set_option maxRecDepth 100000 in
set_option maxHeartbeats 1000000 in
theorem rc_placeAt (n m : Nat) (w : World) (hn : n ≤ 16) (hm : m < 65536) :
    Calls Tryd.prog 60 #[.int .i64 n, .int .i64 m] w fun e w' => e = .returned (.slice (some ⟨w.heap.size, 0, none⟩) n n) ∧ (∃ cs, Whole w' w.heap.size 3 cs ∧ Row cs n (At (il (pos n m)))) ∧ Below w.heap.size w w' := by
  have hmk := fun W => mkI (n : Int) n rfl (by omega) W
  have hpl := pos_len n m
  go_enter Tryd.func60, Tryd.ntmps60
  go_wp2
  go_loopw [6] (fun i wr => ∃ k : Nat, k ≤ n ∧ i = .int .i64 k ∧ (∃ cs, Whole wr w.heap.size 3 cs ∧ Row cs n (fun j => if j < k then At (il (pos n m)) j else 0)) ∧ Below w.heap.size w wr) (fun i _ => n - (intOf i).toNat)
  case atStart => exact ⟨0, by omega, rfl, ⟨_, Whole.new _ _ _, (Row.zero n).congr fun x hx => by simp⟩, (Below.refl _ _).alloc (Nat.le_refl _) _⟩
  case round =>
    obtain ⟨k, hk, rfl, ⟨cs, hB, hR⟩, hw⟩ := hrel
    by_cases hlt : k < n
    · have hki : (0 : Int) ≤ (k : Int) := by omega
      have hkn : (k : Int) < n := by omega
      have c1 := (hB.cell k).trans (hR.2 k hlt)
      have c2 := hB.frozen k
      have hbit := bit_pos n m k hlt
      have hat := At_il (pos n m) k (by omega)
      have D1 : (m : Int) / 2 ^ k = ((m / 2 ^ k : Nat) : Int) := by push_cast; rfl
      have D2 : (m : Int) / 2 ^ (k + 1) = ((m / 2 ^ (k + 1) : Nat) : Int) := by push_cast; rfl
      have A1 : m / 2 ^ k < 65536 := Nat.lt_of_le_of_lt (Nat.div_le_self _ _) hm
      have A2 : m / 2 ^ (k + 1) < 65536 := Nat.lt_of_le_of_lt (Nat.div_le_self _ _) hm
      generalize m / 2 ^ k = d1 at *
      generalize m / 2 ^ (k + 1) = d2 at *
      have hk16 : (k : Int) < 16 := by omega
      have hW : IntKind.i64.wrap ((d1 : Int) + (d2 : Int)) = ((d1 + d2 : Nat) : Int) := by rw [IntKind.wrap_i64]; omega
      have hE : ((d1 + d2) % 2 : Nat) = At (il (pos n m)) k := by
        rw [hat, hbit]
        unfold bInt
        by_cases e : d1 % 2 = d2 % 2
        · simp [e]; omega
        · simp [e]; omega
      have q1 : (((d1 : Int) + (d2 : Int))).tmod 2 = At (il (pos n m)) k := by rw [Int.tmod_eq_emod_of_nonneg (by omega), ← hE]; omega
      have q2 : (((d1 : Int) + (d2 : Int))) % 2 = At (il (pos n m)) k := by rw [← hE]; omega
      have q0 : (0 : Int) ≤ (d1 : Int) + (d2 : Int) := by omega
      have q3 : (d1 : Int) + (d2 : Int) < 131072 := by omega
      generalize hv : At (il (pos n m)) k = v at *
      have HV := Lib.hid hv
      clear hbit hat hv hE hmk hW
      go_wp2
      go_region
      go_wp2
      refine ⟨⟨k + 1, by omega, by go_num, ⟨_, hB.set_ k _, (hR.set_ hlt).congr fun j _ => ?_⟩, (hw.setCell (Nat.le_refl _) _).drew⟩, ?_⟩
      · by_cases e : j = k
        · subst e; simp [HV.out]
        · by_cases h1 : j < k
          · rw [if_neg e, if_pos h1, if_pos (by omega)]
          · rw [if_neg e, if_neg h1, if_neg (by omega)]
      · simp [intOf]; omega
    · obtain rfl : k = n := by omega
      go_wp2
      go_ret
      exact ⟨rfl, ⟨_, hB, hR.congr fun j hj => by rw [if_pos hj]⟩, hw⟩

set_option maxRecDepth 100000 in
set_option maxHeartbeats 8000000 in
theorem rc_Times (A B : Option Addr) (n m : Nat) (xs ys : List Int) (ca cb : Nat) (w : World) (hx : Ints w A n xs) (hy : Ints w B m ys) (hl : n ≤ 9223372036854775807) (hl' : m ≤ 9223372036854775807) :
    Calls Tryd.prog 38 #[.slice A n ca, .slice B m cb] w fun e w' => GivL e w w' (tmE xs ys) (bothE xs ys) := by
  have k1 := rc_both A B n m xs ys ca cb w hx hy hl hl'
  by_cases h0 : bothE xs ys = 0
  · obtain ⟨rfl, p2, p3, q3⟩ := okPair h0 hx.len hy.len
    have hxl := hx.len
    have hE := Lib.hid h0
    have hV := Lib.hid (show tmE xs ys = (List.range m).map fun k => ((tmU (num (onL xs)) (num (onL ys)) (gap (num (onL xs)) (num (onL ys))) k : Nat) : Int) by rw [tmE, if_pos h0, hxl])
    have n1 := fun W (H : Ints W A m xs) => rc_number A m xs ca W H p2 p3
    have n2 := fun W (H : Ints W B m ys) => rc_number B m ys cb W H p2 q3
    have h1 : num (onL xs) < 2 ^ m := by have := num_lt (onL xs); rwa [onL_len, hxl] at this
    have h2 : num (onL ys) < 2 ^ m := by have := num_lt (onL ys); rwa [onL_len, hy.len] at this
    have h16 := two_pow p2
    rw [h0] at k1
    have hmk := fun W => mkI (m : Int) m rfl (by omega) W
    have hL0 := Whole.new w 3 (Array.replicate m (.int .i64 0))
    have hb0 := (Below.refl w.heap.size w).alloc (Nat.le_refl _) (.cells (Array.replicate m (.int .i64 0)) 3)
    have hX0 := hx.below ((Below.refl w.heap.size w).alloc (Nat.le_refl _) (.cells (Array.replicate m (.int .i64 0)) 3))
    have hY0 := hy.below ((Below.refl w.heap.size w).alloc (Nat.le_refl _) (.cells (Array.replicate m (.int .i64 0)) 3))
    clear h0 p3 q3 hxl hl hl' hx hy
    generalize num (onL xs) = a at *
    generalize num (onL ys) = b at *
    obtain ⟨N, rfl⟩ : ∃ N, N = m := ⟨_, rfl⟩
    obtain ⟨p, hp⟩ : ∃ p, p = 2 ^ N := ⟨_, rfl⟩
    rcases Nat.lt_trichotomy a b with hab | hab | hab
    · have hab' : (a : Int) < (b : Int) := by omega
      have hT := Lib.hid (fun x => (tmF_end ⟨by omega, by omega⟩ x : tmF a b x = tmU a b (gap a b) x))
      have hlo0 : (0 : Int) ≤ (a : Int) := by omega
      have hhi0 : (0 : Int) ≤ (b : Int) := by omega
      go_enter Tryd.func38, Tryd.ntmps38
      go_wp2_with fail
      refine k1.mono ?_; rintro e w1 ⟨rfl, rfl⟩
      go_wp2_with fail
      refine (n1 _ hX0).mono ?_; rintro e w1 ⟨rfl, rfl⟩
      go_wp2_with fail
      refine (n2 _ hY0).mono ?_; rintro e w1 ⟨rfl, rfl⟩
      go_wp2_with fail
      refine (n1 _ hX0).mono ?_; rintro e w1 ⟨rfl, rfl⟩
      go_wp2_with fail
      refine (n2 _ hY0).mono ?_; rintro e w1 ⟨rfl, rfl⟩
      go_wp2_with fail
      clear k1 n1 n2 hX0 hY0 hmk
      go_loopw [10] (fun i wr => ∃ t : Nat, a ≤ t ∧ t ≤ b ∧ i = .int .i64 t ∧ (∃ rs, Whole wr w.heap.size 3 rs ∧ Row rs N (fun x => ((tmF a t x : Nat) : Int))) ∧ Below w.heap.size w wr) (fun i _ => b - (intOf i).toNat)
      case atStart => exact ⟨a, Nat.le_refl _, by omega, rfl, ⟨_, hL0, (Row.zero _).congr fun x _ => by simp [tmF_zero]⟩, hb0⟩
      case round =>
        obtain ⟨t, ht0, ht1, rfl, ⟨rs, hL, hR⟩, hw⟩ := hrel
        clear hL0 hb0
        have htt0 : (0 : Int) ≤ (t : Int) := by omega
        by_cases hlt : t < b
        · have q1 := rc_placeAt N t wr p2 (by omega)
          have q2 := fun W => rc_placeAt N (t + 1) W p2 (by omega)
          have hti : (t : Int) < (b : Int) := by omega
          have HS := Lib.hid (fun x => step_ring (n := N) (m := t) (k := x) p2 (by omega))
          have HF := Lib.hid (fun x => tmF_succ a t x ht0)
          have HL := Lib.hid (fun x => tmF_le a t x)
          have hltw := hL.lt
          go_wp2_with fail
          refine q1.mono ?_; rintro e w4 ⟨rfl, ⟨ps, hP4, hRP⟩, b4⟩
          have hL4 := hL.below b4 hltw
          have hw4 := hw.trans (b4.mono hw.size)
          have hltw4 := hP4.lt
          go_wp2_with fail
          refine (q2 w4).mono ?_; rintro e w5 ⟨rfl, ⟨qs, hQ5, hRQ⟩, b5⟩
          have hL5 := hL4.below b5 (by omega)
          have hP5 := hP4.below b5 hltw4
          have hw5 := hw4.trans (b5.mono hw4.size)
          clear hL hL4 hP4 hw hw4 b4 b5 q1 q2
          go_wp2_with fail
          go_loopw [13] (fun i wr2 => ∃ x : Nat, x ≤ N ∧ i = .int .i64 x ∧ (∃ rs, Whole wr2 w.heap.size 3 rs ∧ Row rs N (fun y => if y < x then ((tmF a (t + 1) y : Nat) : Int) else ((tmF a t y : Nat) : Int))) ∧ Whole wr2 wr.heap.size 3 ps ∧ Whole wr2 w4.heap.size 3 qs ∧ Below w.heap.size w wr2) (fun i _ => N - (intOf i).toNat)
          case atStart => exact ⟨0, by omega, rfl, ⟨_, hL5, hR.congr fun y _ => by simp⟩, hP5, hQ5, hw5⟩
          case round =>
            obtain ⟨x, hxN, rfl, ⟨rs2, hL6, hR6⟩, hP6, hQ6, hw6⟩ := hrel
            clear hL5 hP5 hQ5 hw5 hR
            have hx0 : (0 : Int) ≤ (x : Int) := by omega
            by_cases hxl : x < N
            · have hxi : (x : Int) < (N : Int) := by omega
              have c1 := (hP6.cell x).trans (hRP.2 x hxl)
              have c2 := (hQ6.cell x).trans (hRQ.2 x hxl)
              rw [At_il _ _ (by rw [pos_len]; exact hxl)] at c1 c2
              have c3 : wr.cell? ⟨w.heap.size, x, none⟩ = some (.int .i64 (tmF a t x : Nat)) := ((hL6.cell x).trans (hR6.2 x hxl)).trans (by simp)
              have f3 := hL6.frozen x
              have hs := HS.out x
              have hf := HF.out x
              have hle := HL.out x
              have hq0 : (0 : Int) ≤ (tmF a t x : Nat) := by omega
              have hq1 : ((tmF a t x : Nat) : Int) < 131072 := by omega
              by_cases hz : tzN (t + 1) = x
              · rw [if_pos hz] at hf
                have hne : (bInt (bit (pos N t) x) != bInt (bit (pos N (t + 1)) x)) = true := by
                  have : bit (pos N t) x ≠ bit (pos N (t + 1)) x := fun h => (hs.1 h) hz
                  cases h1 : bit (pos N t) x <;> cases h2 : bit (pos N (t + 1)) x <;> simp [h1, h2, bInt] at this ⊢
                have HF1 := Lib.hid hf
                clear hs hf hz hle
                generalize bInt (bit (pos N t) x) = u at *
                generalize bInt (bit (pos N (t + 1)) x) = v at *
                generalize hq : tmF a t x = q at *
                have HQ := Lib.hid hq
                clear hq
                go_wp2_with fail
                go_region
                go_wp2_with fail
                refine ⟨⟨x + 1, by omega, by go_num, ⟨_, hL6.set_ x _, (hR6.set_ hxl).congr fun y hy => ?_⟩, hP6.far (by simp; omega) _, hQ6.far (by simp; omega) _, (hw6.setCell (Nat.le_refl _) _).drew⟩, ?_⟩
                · by_cases e : y = x
                  · subst e; rw [if_pos rfl, if_pos (by omega), HF1.out]; push_cast; rfl
                  · rw [if_neg e]; by_cases h : y < x
                    · rw [if_pos h, if_pos (by omega)]
                    · rw [if_neg h, if_neg (by omega)]
                · simp [intOf]; omega
              · rw [if_neg hz] at hf
                have hne : (bInt (bit (pos N t) x) != bInt (bit (pos N (t + 1)) x)) = false := by rw [hs.2 hz]; simp
                have HF1 := Lib.hid hf
                clear hs hf hz hle
                generalize bInt (bit (pos N t) x) = u at *
                generalize bInt (bit (pos N (t + 1)) x) = v at *
                go_wp2_with fail
                go_region
                go_wp2_with fail
                refine ⟨⟨x + 1, by omega, by go_num, ⟨_, hL6, hR6.congr fun y hy => ?_⟩, hP6, hQ6, hw6.drew⟩, ?_⟩
                · by_cases e : y = x
                  · subst e; rw [if_neg (Nat.lt_irrefl y), if_pos (by omega), HF1.out]; rfl
                  · by_cases h : y < x
                    · rw [if_pos h, if_pos (by omega)]
                    · rw [if_neg h, if_neg (by omega)]
                · simp [intOf]; omega
            · obtain rfl : x = N := by omega
              go_wp2_with fail
              refine ⟨⟨t + 1, by omega, by omega, by go_num, ⟨_, hL6, hR6.congr fun y hy => by rw [if_pos hy]⟩, hw6⟩, ?_⟩
              simp [intOf]; omega
        · have e9 : b = t := by omega
          subst e9
          go_wp2_with fail
          go_ret2
          unfold GivL
          rw [hV.out, hE.out]
          have hLen : ((List.range N).map fun x => ((tmU a b (gap a b) x : Nat) : Int)).length = N := by simp
          rw [hLen]
          exact ⟨_, _, rfl, hL.ints (hR.congr fun x hx => by rw [At_tm a b (gap a b) N hx, hT.out]) hLen, hw⟩
    · subst hab
      have hT := Lib.hid (fun x => (tmF_end ⟨by omega, by omega⟩ x : tmF a a x = tmU a a (gap a a) x))
      have hlo0 : (0 : Int) ≤ (a : Int) := by omega
      have hhi0 : (0 : Int) ≤ (a : Int) := by omega
      go_enter Tryd.func38, Tryd.ntmps38
      go_wp2_with fail
      refine k1.mono ?_; rintro e w1 ⟨rfl, rfl⟩
      go_wp2_with fail
      refine (n1 _ hX0).mono ?_; rintro e w1 ⟨rfl, rfl⟩
      go_wp2_with fail
      refine (n2 _ hY0).mono ?_; rintro e w1 ⟨rfl, rfl⟩
      go_wp2_with fail
      refine (n1 _ hX0).mono ?_; rintro e w1 ⟨rfl, rfl⟩
      go_wp2_with fail
      refine (n2 _ hY0).mono ?_; rintro e w1 ⟨rfl, rfl⟩
      go_wp2_with fail
      clear k1 n1 n2 hX0 hY0 hmk
      go_loopw [10] (fun i wr => ∃ t : Nat, a ≤ t ∧ t ≤ a ∧ i = .int .i64 t ∧ (∃ rs, Whole wr w.heap.size 3 rs ∧ Row rs N (fun x => ((tmF a t x : Nat) : Int))) ∧ Below w.heap.size w wr) (fun i _ => a - (intOf i).toNat)
      case atStart => exact ⟨a, Nat.le_refl _, by omega, rfl, ⟨_, hL0, (Row.zero _).congr fun x _ => by simp [tmF_zero]⟩, hb0⟩
      case round =>
        obtain ⟨t, ht0, ht1, rfl, ⟨rs, hL, hR⟩, hw⟩ := hrel
        clear hL0 hb0
        have htt0 : (0 : Int) ≤ (t : Int) := by omega
        by_cases hlt : t < a
        · omega
        · have e9 : a = t := by omega
          subst e9
          go_wp2_with fail
          go_ret2
          unfold GivL
          rw [hV.out, hE.out]
          have hLen : ((List.range N).map fun x => ((tmU a a (gap a a) x : Nat) : Int)).length = N := by simp
          rw [hLen]
          exact ⟨_, _, rfl, hL.ints (hR.congr fun x hx => by rw [At_tm a a (gap a a) N hx, hT.out]) hLen, hw⟩
    · have hab' : (b : Int) < (a : Int) := by omega
      have hT := Lib.hid (fun x => (tmF_end ⟨by omega, by omega⟩ x : tmF b a x = tmU a b (gap a b) x))
      have hlo0 : (0 : Int) ≤ (b : Int) := by omega
      have hhi0 : (0 : Int) ≤ (a : Int) := by omega
      go_enter Tryd.func38, Tryd.ntmps38
      go_wp2_with fail
      refine k1.mono ?_; rintro e w1 ⟨rfl, rfl⟩
      go_wp2_with fail
      refine (n1 _ hX0).mono ?_; rintro e w1 ⟨rfl, rfl⟩
      go_wp2_with fail
      refine (n2 _ hY0).mono ?_; rintro e w1 ⟨rfl, rfl⟩
      go_wp2_with fail
      refine (n1 _ hX0).mono ?_; rintro e w1 ⟨rfl, rfl⟩
      go_wp2_with fail
      refine (n2 _ hY0).mono ?_; rintro e w1 ⟨rfl, rfl⟩
      go_wp2_with fail
      clear k1 n1 n2 hX0 hY0 hmk
      go_loopw [10] (fun i wr => ∃ t : Nat, b ≤ t ∧ t ≤ a ∧ i = .int .i64 t ∧ (∃ rs, Whole wr w.heap.size 3 rs ∧ Row rs N (fun x => ((tmF b t x : Nat) : Int))) ∧ Below w.heap.size w wr) (fun i _ => a - (intOf i).toNat)
      case atStart => exact ⟨b, Nat.le_refl _, by omega, rfl, ⟨_, hL0, (Row.zero _).congr fun x _ => by simp [tmF_zero]⟩, hb0⟩
      case round =>
        obtain ⟨t, ht0, ht1, rfl, ⟨rs, hL, hR⟩, hw⟩ := hrel
        clear hL0 hb0
        have htt0 : (0 : Int) ≤ (t : Int) := by omega
        by_cases hlt : t < a
        · have q1 := rc_placeAt N t wr p2 (by omega)
          have q2 := fun W => rc_placeAt N (t + 1) W p2 (by omega)
          have hti : (t : Int) < (a : Int) := by omega
          have HS := Lib.hid (fun x => step_ring (n := N) (m := t) (k := x) p2 (by omega))
          have HF := Lib.hid (fun x => tmF_succ b t x ht0)
          have HL := Lib.hid (fun x => tmF_le b t x)
          have hltw := hL.lt
          go_wp2_with fail
          refine q1.mono ?_; rintro e w4 ⟨rfl, ⟨ps, hP4, hRP⟩, b4⟩
          have hL4 := hL.below b4 hltw
          have hw4 := hw.trans (b4.mono hw.size)
          have hltw4 := hP4.lt
          go_wp2_with fail
          refine (q2 w4).mono ?_; rintro e w5 ⟨rfl, ⟨qs, hQ5, hRQ⟩, b5⟩
          have hL5 := hL4.below b5 (by omega)
          have hP5 := hP4.below b5 hltw4
          have hw5 := hw4.trans (b5.mono hw4.size)
          clear hL hL4 hP4 hw hw4 b4 b5 q1 q2
          go_wp2_with fail
          go_loopw [13] (fun i wr2 => ∃ x : Nat, x ≤ N ∧ i = .int .i64 x ∧ (∃ rs, Whole wr2 w.heap.size 3 rs ∧ Row rs N (fun y => if y < x then ((tmF b (t + 1) y : Nat) : Int) else ((tmF b t y : Nat) : Int))) ∧ Whole wr2 wr.heap.size 3 ps ∧ Whole wr2 w4.heap.size 3 qs ∧ Below w.heap.size w wr2) (fun i _ => N - (intOf i).toNat)
          case atStart => exact ⟨0, by omega, rfl, ⟨_, hL5, hR.congr fun y _ => by simp⟩, hP5, hQ5, hw5⟩
          case round =>
            obtain ⟨x, hxN, rfl, ⟨rs2, hL6, hR6⟩, hP6, hQ6, hw6⟩ := hrel
            clear hL5 hP5 hQ5 hw5 hR
            have hx0 : (0 : Int) ≤ (x : Int) := by omega
            by_cases hxl : x < N
            · have hxi : (x : Int) < (N : Int) := by omega
              have c1 := (hP6.cell x).trans (hRP.2 x hxl)
              have c2 := (hQ6.cell x).trans (hRQ.2 x hxl)
              rw [At_il _ _ (by rw [pos_len]; exact hxl)] at c1 c2
              have c3 : wr.cell? ⟨w.heap.size, x, none⟩ = some (.int .i64 (tmF b t x : Nat)) := ((hL6.cell x).trans (hR6.2 x hxl)).trans (by simp)
              have f3 := hL6.frozen x
              have hs := HS.out x
              have hf := HF.out x
              have hle := HL.out x
              have hq0 : (0 : Int) ≤ (tmF b t x : Nat) := by omega
              have hq1 : ((tmF b t x : Nat) : Int) < 131072 := by omega
              by_cases hz : tzN (t + 1) = x
              · rw [if_pos hz] at hf
                have hne : (bInt (bit (pos N t) x) != bInt (bit (pos N (t + 1)) x)) = true := by
                  have : bit (pos N t) x ≠ bit (pos N (t + 1)) x := fun h => (hs.1 h) hz
                  cases h1 : bit (pos N t) x <;> cases h2 : bit (pos N (t + 1)) x <;> simp [h1, h2, bInt] at this ⊢
                have HF1 := Lib.hid hf
                clear hs hf hz hle
                generalize bInt (bit (pos N t) x) = u at *
                generalize bInt (bit (pos N (t + 1)) x) = v at *
                generalize hq : tmF b t x = q at *
                have HQ := Lib.hid hq
                clear hq
                go_wp2_with fail
                go_region
                go_wp2_with fail
                refine ⟨⟨x + 1, by omega, by go_num, ⟨_, hL6.set_ x _, (hR6.set_ hxl).congr fun y hy => ?_⟩, hP6.far (by simp; omega) _, hQ6.far (by simp; omega) _, (hw6.setCell (Nat.le_refl _) _).drew⟩, ?_⟩
                · by_cases e : y = x
                  · subst e; rw [if_pos rfl, if_pos (by omega), HF1.out]; push_cast; rfl
                  · rw [if_neg e]; by_cases h : y < x
                    · rw [if_pos h, if_pos (by omega)]
                    · rw [if_neg h, if_neg (by omega)]
                · simp [intOf]; omega
              · rw [if_neg hz] at hf
                have hne : (bInt (bit (pos N t) x) != bInt (bit (pos N (t + 1)) x)) = false := by rw [hs.2 hz]; simp
                have HF1 := Lib.hid hf
                clear hs hf hz hle
                generalize bInt (bit (pos N t) x) = u at *
                generalize bInt (bit (pos N (t + 1)) x) = v at *
                go_wp2_with fail
                go_region
                go_wp2_with fail
                refine ⟨⟨x + 1, by omega, by go_num, ⟨_, hL6, hR6.congr fun y hy => ?_⟩, hP6, hQ6, hw6.drew⟩, ?_⟩
                · by_cases e : y = x
                  · subst e; rw [if_neg (Nat.lt_irrefl y), if_pos (by omega), HF1.out]; rfl
                  · by_cases h : y < x
                    · rw [if_pos h, if_pos (by omega)]
                    · rw [if_neg h, if_neg (by omega)]
                · simp [intOf]; omega
            · obtain rfl : x = N := by omega
              go_wp2_with fail
              refine ⟨⟨t + 1, by omega, by omega, by go_num, ⟨_, hL6, hR6.congr fun y hy => by rw [if_pos hy]⟩, hw6⟩, ?_⟩
              simp [intOf]; omega
        · have e9 : a = t := by omega
          subst e9
          go_wp2_with fail
          go_ret2
          unfold GivL
          rw [hV.out, hE.out]
          have hLen : ((List.range N).map fun x => ((tmU a b (gap a b) x : Nat) : Int)).length = N := by simp
          rw [hLen]
          exact ⟨_, _, rfl, hL.ints (hR.congr fun x hx => by rw [At_tm a b (gap a b) N hx, hT.out]) hLen, hw⟩
  · have hne : (bothE xs ys != 0) = true := by simp [h0]
    have hV := Lib.hid (show tmE xs ys = [] by rw [tmE, if_neg h0])
    clear h0
    go_enter Tryd.func38, Tryd.ntmps38
    go_wp2_with fail
    refine k1.mono ?_; rintro e w1 ⟨rfl, rfl⟩
    go_wp2_with fail
    go_ret2
    unfold GivL
    rw [hV.out]
    exact ⟨none, 0, rfl, Ints.nil_ _ _, Below.refl _ _⟩
end Go.Proofs.YtenlmjnejjdnnaaDoor

/-! Clasp: the position after some moves of a shortest way. -/
namespace Go.Proofs.YtenlmjnejjdnnaaDoor
open Go.RowKit Cl
attribute [local go_sem ↓] loadVar_walk

/-- The error of At, and its list. -/
def atE (xs ys : List Int) (v : Int) : Int := if bothE xs ys = 0 then (if 0 ≤ v ∧ v ≤ (gap (num (onL xs)) (num (onL ys)) : Nat) then 0 else 1) else bothE xs ys
def atL (xs ys : List Int) (v : Int) : List Int := if atE xs ys v = 0 then il (pos xs.length (atN (num (onL xs)) (num (onL ys)) v.toNat)) else []
theorem atN_lt {a b i : Nat} (ha : a < 65536) (hb : b < 65536) (hi : i ≤ gap a b) : atN a b i < 65536 := by unfold atN; unfold gap at hi; split <;> omega
theorem kAt (n a b i : Nat) (ha : a < 65536) (hb : b < 65536) (hi : i ≤ gap a b) (W : World) :
    Calls Tryd.prog 68 #[.agg #[.int .i64 (n : Int), .int .i64 (a : Int), .int .i64 (b : Int)], .int .i64 i] W fun e w' => e = .returned (.int .i64 (atN a b i : Nat)) ∧ Below W.heap.size W w' := walk_at n a b i ha hb hi W

set_option maxRecDepth 100000 in
set_option maxHeartbeats 4000000 in
theorem cl_At (A B : Option Addr) (n m : Nat) (xs ys : List Int) (ca cb : Nat) (v : Int) (w : World) (hx : Ints w A n xs) (hy : Ints w B m ys) (hl : n ≤ 9223372036854775807) (hl' : m ≤ 9223372036854775807) :
    Calls Tryd.prog 39 #[.slice A n ca, .slice B m cb, .int .i64 v] w fun e w' => GivL e w w' (atL xs ys v) (atE xs ys v) := by
  have k1 := cl_between A B n m xs ys ca cb w hx hy hl hl'
  by_cases h0 : bothE xs ys = 0
  · rw [onE_ok h0, onE_ok h0] at k1
    obtain ⟨p1, p2, p3, p4⟩ := okPair h0 rfl rfl
    have h1 : num (onL xs) < 65536 := gap_num_lt rfl p2
    have h2 : num (onL ys) < 65536 := gap_num_lt rfl (by omega)
    have k2 := fun W => walk_length (onL xs).length (num (onL xs)) (num (onL ys)) h1 h2 W
    rw [h0] at k1
    by_cases h3 : v < 0
    · have hE' : atE xs ys v = 1 := by rw [atE, if_pos h0, if_neg (by omega)]
      have hE := Lib.hid hE'
      have hV := Lib.hid (show atL xs ys v = [] by rw [atL, hE']; rfl)
      clear h0 hE' h1 h2 p1 p2 p3 p4 k2
      generalize (onL xs).length = N at *
      generalize num (onL xs) = a at *
      generalize num (onL ys) = b at *
      go_enter Tryd.func39, Tryd.ntmps39
      go_wp2_with fail
      refine k1.mono ?_; rintro e w1 ⟨rfl, b1⟩
      have hsz := b1.size
      go_wp2_with fail
      go_ret2
      unfold GivL
      rw [hV.out, hE.out]
      exact ⟨none, 0, rfl, Ints.nil_ _ _, b1.alloc hsz _⟩
    by_cases h4 : ((gap (num (onL xs)) (num (onL ys)) : Nat) : Int) < v
    · have hE' : atE xs ys v = 1 := by rw [atE, if_pos h0, if_neg (by omega)]
      have hE := Lib.hid hE'
      have hV := Lib.hid (show atL xs ys v = [] by rw [atL, hE']; rfl)
      clear h0 hE' h1 h2 p1 p2 p3 p4
      generalize (onL xs).length = N at *
      generalize hgg : gap (num (onL xs)) (num (onL ys)) = g at *
      generalize num (onL xs) = a at *
      generalize num (onL ys) = b at *
      clear hgg
      go_enter Tryd.func39, Tryd.ntmps39
      go_wp2_with fail
      refine k1.mono ?_; rintro e w1 ⟨rfl, b1⟩
      have hsz := b1.size
      have l0 : (loadWalk ⟨w1.heap.size, 0, none⟩).run Tryd.prog (w1.alloc (.cells #[.int .i64 (N : Int), .int .i64 (a : Int), .int .i64 (b : Int)] 81)) = .ok (.agg #[.int .i64 (N : Int), .int .i64 (a : Int), .int .i64 (b : Int)]) (w1.alloc (.cells #[.int .i64 (N : Int), .int .i64 (a : Int), .int .i64 (b : Int)] 81)) := run_loadW (Whole.new w1 _ _) rfl
      go_wp2_with fail
      refine (k2 _).mono ?_; rintro e w2 ⟨rfl, b2⟩
      go_wp2_with fail
      go_ret2
      unfold GivL
      rw [hV.out, hE.out]
      exact ⟨none, 0, rfl, Ints.nil_ _ _, (b1.alloc hsz _).trans (b2.mono (by simp; omega))⟩
    · obtain ⟨i, rfl⟩ := Int.eq_ofNat_of_zero_le (show 0 ≤ v by omega)
      have hE' : atE xs ys (i : Int) = 0 := by rw [atE, if_pos h0, if_pos (by omega)]
      have hE := Lib.hid hE'
      have hV := Lib.hid (show atL xs ys (i : Int) = il (pos xs.length (atN (num (onL xs)) (num (onL ys)) i)) by rw [atL, if_pos hE', Int.toNat_natCast])
      have hi : i ≤ gap (num (onL xs)) (num (onL ys)) := by omega
      have hN : (onL xs).length = xs.length := onL_len xs
      rw [hN] at k1 k2
      have hat := atN_lt h1 h2 hi
      have KA := Lib.hid (kAt xs.length _ _ i h1 h2 hi)
      have KN := Lib.hid (kNumbered xs.length _ _ rfl p2 hat)
      have KL := Lib.hid (kList xs.length (atN (num (onL xs)) (num (onL ys)) i))
      have hlen := Lib.hid (pos_len xs.length (atN (num (onL xs)) (num (onL ys)) i))
      clear h0 hE' h1 h2 p1 p3 p4 hN h3 hat
      generalize xs.length = N at *
      generalize atN (num (onL xs)) (num (onL ys)) i = t at *
      generalize hgg : gap (num (onL xs)) (num (onL ys)) = g at *
      generalize num (onL xs) = a at *
      generalize num (onL ys) = b at *
      clear hgg
      have hi0 : (0 : Int) ≤ (i : Int) := by omega
      have hi1 : (i : Int) ≤ (g : Int) := by omega
      clear hi h4
      go_enter Tryd.func39, Tryd.ntmps39
      go_wp2_with fail
      refine k1.mono ?_; rintro e w1 ⟨rfl, b1⟩
      have hsz := b1.size
      have l0 : (loadWalk ⟨w1.heap.size, 0, none⟩).run Tryd.prog (w1.alloc (.cells #[.int .i64 (N : Int), .int .i64 (a : Int), .int .i64 (b : Int)] 81)) = .ok (.agg #[.int .i64 (N : Int), .int .i64 (a : Int), .int .i64 (b : Int)]) (w1.alloc (.cells #[.int .i64 (N : Int), .int .i64 (a : Int), .int .i64 (b : Int)] 81)) := run_loadW (Whole.new w1 _ _) rfl
      have hB1 := Whole.new w1 81 #[.int .i64 (N : Int), .int .i64 (a : Int), .int .i64 (b : Int)]
      go_wp2_with fail
      refine (k2 _).mono ?_; rintro e w2 ⟨rfl, b2⟩
      have hS8 : PW w w1.heap.size #[.int .i64 (N : Int), .int .i64 (a : Int), .int .i64 (b : Int)] w2.drew := PW.drew (PW.below ⟨b1.alloc hsz _, hB1⟩ b2)
      have r0 : ∀ W, PW w w1.heap.size #[.int .i64 (N : Int), .int .i64 (a : Int), .int .i64 (b : Int)] W → W.cell? ⟨w1.heap.size, 0, none⟩ = some (.int .i64 (N : Int)) := fun W h => h.2.cell 0
      have r3 : ∀ W, PW w w1.heap.size #[.int .i64 (N : Int), .int .i64 (a : Int), .int .i64 (b : Int)] W → (loadWalk ⟨w1.heap.size, 0, none⟩).run Tryd.prog W = .ok (.agg #[.int .i64 (N : Int), .int .i64 (a : Int), .int .i64 (b : Int)]) W := fun W h => run_loadW h.2 rfl
      go_wp2_with fail
      go_region_held3 (fun w' => PW w w1.heap.size #[.int .i64 (N : Int), .int .i64 (a : Int), .int .i64 (b : Int)] w')
        (first
          | exact hS8
          | assumption
          | (exact PW.below hS8 (by assumption))
          | (exact PW.below (PW.below hS8 (by assumption)) (by assumption))
          | (exact PW.below (PW.below (PW.below hS8 (by assumption)) (by assumption)) (by assumption)))
        ((first
          | (go_at_call 68; refine (KA.out _).mono ?_; rintro e w4 ⟨rfl, b4⟩)
          | (go_at_call 59; refine (KN.out _).mono ?_; rintro e w5 ⟨cs5, rfl, hC5, b5⟩)
          | (go_at_call 53; refine (KL.out _ _ (by assumption)).mono ?_; rintro e w6 ⟨A', c', rfl, hI6, b6⟩)))
      go_wp2_with fail
      go_ret2
      unfold GivL
      rw [hV.out, hE.out, il_len, hlen.out]
      exact ⟨A', c', rfl, hI6, (PW.below (PW.below (PW.below hS8 b4) b5) b6).1⟩
  · have hne : (bothE xs ys != 0) = true := by simp [h0]
    have hE' : atE xs ys v = bothE xs ys := by rw [atE, if_neg h0]
    have hE := Lib.hid hE'
    have hV := Lib.hid (show atL xs ys v = [] by rw [atL, hE', if_neg h0])
    clear h0 hE'
    generalize (onE xs ys xs).length = N at *
    generalize num (onE xs ys xs) = a at *
    generalize num (onE xs ys ys) = b at *
    go_enter Tryd.func39, Tryd.ntmps39
    go_wp2_with fail
    refine k1.mono ?_; rintro e w1 ⟨rfl, b1⟩
    have hsz := b1.size
    go_wp2_with fail
    go_ret2
    unfold GivL
    rw [hV.out, hE.out]
    exact ⟨none, 0, rfl, Ints.nil_ _ _, b1.alloc hsz _⟩

set_option maxRecDepth 100000 in
set_option maxHeartbeats 4000000 in
theorem rc_At (A B : Option Addr) (n m : Nat) (xs ys : List Int) (ca cb : Nat) (v : Int) (w : World) (hx : Ints w A n xs) (hy : Ints w B m ys) (hl : n ≤ 9223372036854775807) (hl' : m ≤ 9223372036854775807) :
    Calls Tryd.prog 40 #[.slice A n ca, .slice B m cb, .int .i64 v] w fun e w' => GivL e w w' (atL xs ys v) (atE xs ys v) := by
  have k1 := rc_both A B n m xs ys ca cb w hx hy hl hl'
  by_cases h0 : bothE xs ys = 0
  · obtain ⟨rfl, p2, p3, q3⟩ := okPair h0 hx.len hy.len
    have hxl := hx.len
    have k2 := rc_distance A B m m xs ys ca cb w hx hy p2 p2 p3 q3
    have n1 := rc_number A m xs ca w hx p2 p3
    have n2 := rc_number B m ys cb w hy p2 q3
    have h1 : num (onL xs) < 65536 := gap_num_lt hxl p2
    have h2 : num (onL ys) < 65536 := gap_num_lt hy.len p2
    rw [h0] at k1
    by_cases h3 : v < 0
    · have hE' : atE xs ys v = 1 := by rw [atE, if_pos h0, if_neg (by omega)]
      have hE := Lib.hid hE'
      have hV := Lib.hid (show atL xs ys v = [] by rw [atL, hE']; rfl)
      clear h0 hE' n1 n2 hxl
      go_enter Tryd.func40, Tryd.ntmps40
      go_wp2_with fail
      refine k1.mono ?_; rintro e w1 ⟨rfl, rfl⟩
      go_wp2_with fail
      go_ret2
      unfold GivL
      rw [hV.out, hE.out]
      exact ⟨none, 0, rfl, Ints.nil_ _ _, Below.refl _ _⟩
    by_cases h4 : ((gap (num (onL xs)) (num (onL ys)) : Nat) : Int) < v
    · have hE' : atE xs ys v = 1 := by rw [atE, if_pos h0, if_neg (by omega)]
      have hE := Lib.hid hE'
      have hV := Lib.hid (show atL xs ys v = [] by rw [atL, hE']; rfl)
      clear h0 hE' n1 n2 hxl
      go_enter Tryd.func40, Tryd.ntmps40
      go_wp2_with fail
      refine k1.mono ?_; rintro e w1 ⟨rfl, rfl⟩
      go_wp2_with fail
      refine k2.mono ?_; rintro e w1 ⟨rfl, rfl⟩
      go_wp2_with fail
      go_ret2
      unfold GivL
      rw [hV.out, hE.out]
      exact ⟨none, 0, rfl, Ints.nil_ _ _, Below.refl _ _⟩
    · obtain ⟨i, rfl⟩ := Int.eq_ofNat_of_zero_le (show 0 ≤ v by omega)
      have hE' : atE xs ys (i : Int) = 0 := by rw [atE, if_pos h0, if_pos (by omega)]
      have hE := Lib.hid hE'
      have hV := Lib.hid (show atL xs ys (i : Int) = il (pos m (atN (num (onL xs)) (num (onL ys)) i)) by rw [atL, if_pos hE', Int.toNat_natCast, hxl])
      have hi : i ≤ gap (num (onL xs)) (num (onL ys)) := by omega
      have hat := atN_lt h1 h2 hi
      have kp := fun W => rc_place m _ W p2 hat
      have hlen := Lib.hid (pos_len m (atN (num (onL xs)) (num (onL ys)) i))
      have hi0 : (0 : Int) ≤ (i : Int) := by omega
      by_cases hd : num (onL ys) < num (onL xs)
      · have hv : (num (onL xs) : Int) + -(i : Int) = ((atN (num (onL xs)) (num (onL ys)) i : Nat) : Int) := by unfold atN; rw [if_pos hd]; unfold gap at hi; omega
        have hw1 : IntKind.i64.wrap ((num (onL xs) : Int) + -(i : Int)) = ((atN (num (onL xs)) (num (onL ys)) i : Nat) : Int) := by rw [hv, IntKind.wrap_i64]; omega
        have hw2 : IntKind.i64.wrap (-(i : Int)) = -(i : Int) := by rw [IntKind.wrap_i64]; unfold gap at hi; omega
        have hd' : ((num (onL ys) : Nat) : Int) < (num (onL xs) : Nat) := by omega
        clear h0 hE' h1 h2 p3 q3 h3 hat hv hd hi hxl
        generalize atN (num (onL xs)) (num (onL ys)) i = t at *
        generalize hgg : gap (num (onL xs)) (num (onL ys)) = g at *
        generalize num (onL xs) = a at *
        generalize num (onL ys) = b at *
        clear hgg
        go_enter Tryd.func40, Tryd.ntmps40
        go_wp2_with fail
        refine k1.mono ?_; rintro e w1 ⟨rfl, rfl⟩
        go_wp2_with fail
        refine k2.mono ?_; rintro e w1 ⟨rfl, rfl⟩
        go_wp2_with fail
        refine n1.mono ?_; rintro e w1 ⟨rfl, rfl⟩
        go_wp2_with fail
        refine n2.mono ?_; rintro e w1 ⟨rfl, rfl⟩
        go_wp2_with fail
        refine n1.mono ?_; rintro e w1 ⟨rfl, rfl⟩
        go_wp2_with fail
        refine (kp _).mono ?_; rintro e w1 ⟨A', c', rfl, hI, b1⟩
        go_wp2_with fail
        go_ret2
        unfold GivL
        rw [hV.out, hE.out, il_len, hlen.out]
        exact ⟨A', c', rfl, hI, b1⟩
      · have hv : (num (onL xs) : Int) + (i : Int) = ((atN (num (onL xs)) (num (onL ys)) i : Nat) : Int) := by unfold atN; rw [if_neg hd]; omega
        have hw1 : IntKind.i64.wrap ((num (onL xs) : Int) + (i : Int)) = ((atN (num (onL xs)) (num (onL ys)) i : Nat) : Int) := by rw [hv, IntKind.wrap_i64]; omega
        have hd' : ¬ ((num (onL ys) : Nat) : Int) < (num (onL xs) : Nat) := by omega
        clear h0 hE' h1 h2 p3 q3 h3 hat hv hd hi hxl
        generalize atN (num (onL xs)) (num (onL ys)) i = t at *
        generalize hgg : gap (num (onL xs)) (num (onL ys)) = g at *
        generalize num (onL xs) = a at *
        generalize num (onL ys) = b at *
        clear hgg
        go_enter Tryd.func40, Tryd.ntmps40
        go_wp2_with fail
        refine k1.mono ?_; rintro e w1 ⟨rfl, rfl⟩
        go_wp2_with fail
        refine k2.mono ?_; rintro e w1 ⟨rfl, rfl⟩
        go_wp2_with fail
        refine n1.mono ?_; rintro e w1 ⟨rfl, rfl⟩
        go_wp2_with fail
        refine n2.mono ?_; rintro e w1 ⟨rfl, rfl⟩
        go_wp2_with fail
        refine n1.mono ?_; rintro e w1 ⟨rfl, rfl⟩
        go_wp2_with fail
        refine (kp _).mono ?_; rintro e w1 ⟨A', c', rfl, hI, b1⟩
        go_wp2_with fail
        go_ret2
        unfold GivL
        rw [hV.out, hE.out, il_len, hlen.out]
        exact ⟨A', c', rfl, hI, b1⟩
  · have hne : (bothE xs ys != 0) = true := by simp [h0]
    have hne2 : (bothE xs ys == 0) = false := by simp [h0]
    have hE' : atE xs ys v = bothE xs ys := by rw [atE, if_neg h0]
    have hE := Lib.hid hE'
    have hV := Lib.hid (show atL xs ys v = [] by rw [atL, hE', if_neg h0])
    clear h0 hE'
    go_enter Tryd.func40, Tryd.ntmps40
    go_wp2_with fail
    refine k1.mono ?_; rintro e w1 ⟨rfl, rfl⟩
    go_wp2_with fail
    go_ret2
    unfold GivL
    rw [hV.out, hE.out]
    exact ⟨none, 0, rfl, Ints.nil_ _ _, Below.refl _ _⟩
end Go.Proofs.YtenlmjnejjdnnaaDoor

/-! The walk of ClaspTimes. -/
namespace Go.Proofs.YtenlmjnejjdnnaaDoor
open Go.RowKit Cl

theorem tmE_len (xs ys : List Int) : (tmE xs ys).length ≤ 16 := by
  rw [tmE]; split
  · rename_i h
    have := (okPair (xs := xs) (ys := ys) h rfl rfl).2.1
    simpa using this
  · simp
theorem atL_len (xs ys : List Int) (v : Int) : (atL xs ys v).length ≤ 16 := by
  rw [atL]; split
  · rename_i h
    rw [il_len, pos_len]
    rw [atE] at h
    split at h
    · rename_i h1; exact (okPair (xs := xs) (ys := ys) h1 rfl rfl).2.1
    · rename_i h1; exact absurd h h1
  · simp

set_option maxRecDepth 100000 in
set_option maxHeartbeats 4000000 in
theorem lc_ClaspTimes (A B : Option Addr) (n m : Nat) (xs ys : List Int) (ca cb : Nat) (v : Int) (w : World) (ht : HasTab w) (hx : Ints w A n xs) (hy : Ints w B m ys) (hca : n ≤ ca) (hca' : ca ≤ 9223372036854775807) (hcb : m ≤ cb) (hcb' : cb ≤ 9223372036854775807) :
    Calls Tryd.prog 6 #[.slice A n ca, .slice B m cb, .int .i64 v] w fun e w' => e = .returned (.bool true) ∧ Below w.heap.size w w' := by
  have hlg := lc_large A B none n m 0 ca cb 0 w (by omega) (by omega) (by omega)
  have hn0 : (0 : Int) ≤ (n : Int) := by omega
  by_cases h40 : 60 < n ∨ 60 < m
  · rw [show decide (60 < n ∨ 60 < m ∨ 1200 < 0) = true by simp; omega] at hlg
    clear h40
    go_enter Tryd.func6, Tryd.ntmps6
    go_wp2_with fail
    refine hlg.mono ?_; rintro e w' ⟨rfl, rfl⟩
    go_wp2_with fail
    refine (lc_works _ ht).mono ?_; rintro e w1 ⟨rfl, hb⟩
    go_wp2_with fail
    go_ret
    exact ⟨rfl, hb⟩
  · rw [show decide (60 < n ∨ 60 < m ∨ 1200 < 0) = false by simp; omega] at hlg
    have hg1 := tmE_len xs ys
    have hg2 := atL_len xs ys v
    by_cases h12 : 12 < n
    · have h12i : (12 : Int) < (n : Int) := by omega
      by_cases h16 : n ≤ 16
      · have h16i : (n : Int) ≤ 16 := by omega
        go_enter Tryd.func6, Tryd.ntmps6
        go_wp2_with fail
        refine hlg.mono ?_; rintro e w' ⟨rfl, rfl⟩
        go_wp2_with fail
        refine (lc_works _ ht).mono ?_; rintro e w1 ⟨rfl, hb⟩
        go_wp2_with fail
        go_ret
        exact ⟨rfl, hb⟩
      · have h16i : ¬ (n : Int) ≤ 16 := by omega
        go_enter Tryd.func6, Tryd.ntmps6
        go_wp2_with fail
        refine hlg.mono ?_; rintro e w' ⟨rfl, rfl⟩
        go_wp2_with fail
        refine (cl_Times A B n m xs ys ca cb w ht hx hy (by omega) (by omega)).mono ?_; rintro e w1 ⟨A1, c1, rfl, hI1, HB⟩
        have HX := hx.below HB
        have HY := hy.below HB
        go_wp2_with fail
        refine (rc_Times A B n m xs ys ca cb w1 HX HY (by omega) (by omega)).mono ?_; rintro e w2 ⟨A2, c2, rfl, hI2, b⟩
        replace HX := HX.below b; replace HY := HY.below b; replace hI1 := hI1.below b; replace HB := HB.trans (b.mono HB.size); clear b
        go_wp2_with fail
        refine (cl_At A B n m xs ys ca cb v w2 HX HY (by omega) (by omega)).mono ?_; rintro e w3 ⟨A3, c3, rfl, hI3, b⟩
        replace HX := HX.below b; replace HY := HY.below b; replace hI1 := hI1.below b; replace hI2 := hI2.below b; replace HB := HB.trans (b.mono HB.size); clear b
        go_wp2_with fail
        refine (rc_At A B n m xs ys ca cb v w3 HX HY (by omega) (by omega)).mono ?_; rintro e w4 ⟨A4, c4, rfl, hI4, b⟩
        replace HX := HX.below b; replace HY := HY.below b; replace hI1 := hI1.below b; replace hI2 := hI2.below b; replace hI3 := hI3.below b; replace HB := HB.trans (b.mono HB.size); clear b
        go_wp2_with fail
        refine (same_refl hI1 hI2 (by omega)).mono ?_; rintro e w5 ⟨rfl, b⟩
        replace HX := HX.below b; replace HY := HY.below b; replace hI3 := hI3.below b; replace hI4 := hI4.below b; replace HB := HB.trans (b.mono HB.size); clear b
        go_wp2_with fail
        refine (same_refl hI3 hI4 (by omega)).mono ?_; rintro e w6 ⟨rfl, b⟩
        replace HB := HB.trans (b.mono HB.size); clear b
        go_wp2_with fail
        refine (lc_works _ (ht.below HB)).mono ?_; rintro e w7 ⟨rfl, b⟩
        replace HB := HB.trans (b.mono HB.size); clear b
        go_wp2_with fail
        go_ret
        exact ⟨rfl, HB⟩
    · have h12i : ¬ (12 : Int) < (n : Int) := by omega
      go_enter Tryd.func6, Tryd.ntmps6
      go_wp2_with fail
      refine hlg.mono ?_; rintro e w' ⟨rfl, rfl⟩
      go_wp2_with fail
      refine (cl_Times A B n m xs ys ca cb w ht hx hy (by omega) (by omega)).mono ?_; rintro e w1 ⟨A1, c1, rfl, hI1, HB⟩
      have HX := hx.below HB
      have HY := hy.below HB
      go_wp2_with fail
      refine (rc_Times A B n m xs ys ca cb w1 HX HY (by omega) (by omega)).mono ?_; rintro e w2 ⟨A2, c2, rfl, hI2, b⟩
      replace HX := HX.below b; replace HY := HY.below b; replace hI1 := hI1.below b; replace HB := HB.trans (b.mono HB.size); clear b
      go_wp2_with fail
      refine (cl_At A B n m xs ys ca cb v w2 HX HY (by omega) (by omega)).mono ?_; rintro e w3 ⟨A3, c3, rfl, hI3, b⟩
      replace HX := HX.below b; replace HY := HY.below b; replace hI1 := hI1.below b; replace hI2 := hI2.below b; replace HB := HB.trans (b.mono HB.size); clear b
      go_wp2_with fail
      refine (rc_At A B n m xs ys ca cb v w3 HX HY (by omega) (by omega)).mono ?_; rintro e w4 ⟨A4, c4, rfl, hI4, b⟩
      replace HX := HX.below b; replace HY := HY.below b; replace hI1 := hI1.below b; replace hI2 := hI2.below b; replace hI3 := hI3.below b; replace HB := HB.trans (b.mono HB.size); clear b
      go_wp2_with fail
      refine (same_refl hI1 hI2 (by omega)).mono ?_; rintro e w5 ⟨rfl, b⟩
      replace HX := HX.below b; replace HY := HY.below b; replace hI3 := hI3.below b; replace hI4 := hI4.below b; replace HB := HB.trans (b.mono HB.size); clear b
      go_wp2_with fail
      refine (same_refl hI3 hI4 (by omega)).mono ?_; rintro e w6 ⟨rfl, b⟩
      replace HB := HB.trans (b.mono HB.size); clear b
      go_wp2_with fail
      refine (lc_works _ (ht.below HB)).mono ?_; rintro e w7 ⟨rfl, b⟩
      replace HB := HB.trans (b.mono HB.size); clear b
      go_wp2_with fail
      go_ret
      exact ⟨rfl, HB⟩
end Go.Proofs.YtenlmjnejjdnnaaDoor
