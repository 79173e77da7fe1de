/- Clasp: the position with a number. -/
import Derived.Test.YtenlmjnejjdnnaaDoorClF
import Derived.Test.YtenlmjnejjdnnaaDoorRcC
namespace Go.Proofs.YtenlmjnejjdnnaaDoor
open Go.RowKit Cl

theorem ret_cellO {fn : Func} {p : Tmp} (h : fn.results = #[.cell p 68]) {a : Act} {w : World} {R : Ending → World → Prop} {g : Nat} {t : TypeId} {cs : Array Value}
    (hp : a.tmps.getD p undef = .pointer (some ⟨g, 0, none⟩)) (hg : Whole w g t cs) (hs : cs.size = 17) (hd : a.defers = []) (hR : R (.returned (.agg cs)) w) : bodyPost Tryd.prog fn R .ret a w := by
  refine bodyPost_ret (v := .agg cs) ?_ hd hR
  simp only [results, h]
  have hp' : a.tmps[p]?.getD undef = .pointer (some ⟨g, 0, none⟩) := by simpa using hp
  simp [hp', asAddr, run_loadB hg hs]

theorem and_one (a : Nat) (h : a < 65536) : bits .and .i64 (a : Int) 1 = ((a % 2 : Nat) : Int) := by
  have hlt : a &&& 1 < 65536 := Nat.lt_of_le_of_lt Nat.and_le_left h
  simp only [bits]
  show IntKind.i64.wrap (((BitVec.ofInt 64 (a : Int)) &&& (BitVec.ofInt 64 ((1 : Nat) : Int))).toNat : Int) = _
  rw [BitVec.ofInt_natCast, BitVec.ofInt_natCast, BitVec.toNat_and, BitVec.toNat_ofNat, BitVec.toNat_ofNat, Nat.mod_eq_of_lt (by omega), Nat.mod_eq_of_lt (by omega), IntKind.wrap_i64, Nat.and_one_is_mod]
  omega

set_option maxRecDepth 100000 in
set_option maxHeartbeats 1000000 in
theorem cl_numbered (n m : Nat) (w : World) (hn : n ≤ 16) (hm : m < 65536) :
    Calls Tryd.prog 59 #[.int .i64 n, .int .i64 m] w fun e w' => ∃ cs, e = .returned (.agg cs) ∧ BarC cs (pos n m) ∧ Below w.heap.size w w' := by
  have hzw := Whole.new w 68 zbar
  have hbe := (Below.refl w.heap.size w).alloc (Nat.le_refl _) (.cells zbar 68)
  go_enter Tryd.func59, Tryd.ntmps59
  go_wp2_with fail
  go_loopw [10] (fun i wr => ∃ k : Nat, k ≤ n ∧ i = .int .i64 k ∧ (∃ cs, Whole wr (w.heap.size + 1) 68 cs ∧ BarP cs n (fun j => decide (j < k) && bit (pos n m) j)) ∧ Below (w.heap.size + 1) (w.alloc (.cells zbar 68)) wr) (fun i _ => n - (intOf i).toNat)
  case atStart =>
    refine ⟨0, by omega, rfl, ⟨_, by simpa using Whole.new (w.alloc (.cells zbar 68)) 68 (nbar n), (nbar_P n).congr fun j _ => by simp⟩, (Below.refl _ _).alloc (by simp) _⟩
  case round =>
    obtain ⟨k, hk, rfl, ⟨cs, hB, hP⟩, hw⟩ := hrel
    have hsz := hw.size
    have hsz0 : (w.alloc (.cells zbar 68)).heap.size = w.heap.size + 1 := by simp
    by_cases hlt : k < n
    · have f1 := hB.frozen (1 + k)
      have c1 := (hB.cell (1 + k)).trans (hP.2.2 k (by omega))
      have hki : (0 : Int) ≤ (k : Int) := by omega
      have hkn : (k : Int) < n := by omega
      have hk16 : (k : Int) < 16 := by omega
      have hbit := bit_pos n m k hlt
      have D1 : (m : Int) / 2 ^ k = ((m / 2 ^ k : Nat) : Int) := by push_cast; rfl
      have D2 : (m : Int) / 2 ^ (k + 1) = ((m / 2 ^ (k + 1) : Nat) : Int) := by push_cast; rfl
      have A1 := and_one (m / 2 ^ k) (Nat.lt_of_le_of_lt (Nat.div_le_self _ _) hm)
      have A2 := and_one (m / 2 ^ (k + 1)) (Nat.lt_of_le_of_lt (Nat.div_le_self _ _) hm)
      generalize m / 2 ^ k = d1 at *
      generalize m / 2 ^ (k + 1) = d2 at *
      generalize d1 % 2 = e1 at *
      generalize d2 % 2 = e2 at *
      have hE : ((e1 : Int) != (e2 : Int)) = bit (pos n m) k := by
        rw [hbit]; by_cases e : e1 = e2
        · subst e; simp
        · simp [e]; omega
      generalize hq : bit (pos n m) k = bb at *
      have HQ := Lib.hid hq
      clear hbe hzw hq hbit
      go_wp2_with fail
      go_region
      go_wp2_with fail
      refine ⟨⟨k + 1, by omega, by go_num, ⟨_, hB.set_ (1 + k) _, (hP.set_ (by omega)).congr fun j hj => ?_⟩, (hw.setCell (by simp) _).drew⟩, ?_⟩
      · by_cases e : j = k
        · subst e; rw [if_pos rfl, HQ.out]; simp
        · rw [if_neg e]; by_cases h : j < k
          · simp [h]; omega
          · simp [h]; omega
      · simp [intOf]; omega
    · obtain rfl : k = n := by omega
      have hz2 : Whole wr w.heap.size 68 zbar := hzw.below hw (by simp)
      have hC : BarC cs (pos k m) := hP.barC (pos_len k m) (by omega) (fun j _ => by
        by_cases h : j < k
        · simp [h]
        · simp [h, bit_out (l := pos k m) (k := j) (by rw [pos_len]; omega)])
      go_wp2_with (first | (refine wpList_loadB (by rfl) _ (by rfl) _ (by rfl) _ cs hB hC.1 ?_) | (refine wpList_storeB (by rfl) _ _ (by rfl) _ cs (by rfl) (by rfl) _ zbar hz2 rfl hC.1 hC.all ?_))
      try simp only [Exit.inBlock, Exit.then]
      refine ret_cellO rfl (g := w.heap.size) (cs := cs) rfl (hz2.setRow cs) hC.1 rfl ?_
      exact ⟨cs, rfl, hC, hbe.trans (belowSetRow (hw.mono (by omega)) (Nat.le_refl _) _)⟩
end Go.Proofs.YtenlmjnejjdnnaaDoor

/-! Clasp's reference: the position with a number. -/
namespace Go.Proofs.YtenlmjnejjdnnaaDoor
open Go.RowKit Cl

set_option maxRecDepth 100000 in
set_option maxHeartbeats 1000000 in
theorem rc_place (n m : Nat) (w : World) (hn : n ≤ 16) (hm : m < 65536) :
    Calls Tryd.prog 60 #[.int .i64 n, .int .i64 m] w fun e w' => ∃ A' c, e = .returned (.slice A' n c) ∧ Ints w' A' n (il (pos n m)) ∧ Below w.heap.size w w' := by
  have hmk := fun W => mkI (n : Int) n rfl (by omega) W
  have hpl := pos_len n m
  have hil := il_len (pos n m)
  go_enter Tryd.func60, Tryd.ntmps60
  go_wp2
  go_loopw [6] (fun i wr => ∃ k : Nat, k ≤ n ∧ i = .int .i64 k ∧ (∃ cs, Whole wr w.heap.size 3 cs ∧ Row cs n (fun j => if j < k then At (il (pos n m)) j else 0)) ∧ Below w.heap.size w wr) (fun i _ => n - (intOf i).toNat)
  case atStart => exact ⟨0, by omega, rfl, ⟨_, Whole.new _ _ _, (Row.zero n).congr fun x hx => by simp⟩, (Below.refl _ _).alloc (Nat.le_refl _) _⟩
  case round =>
    obtain ⟨k, hk, rfl, ⟨cs, hB, hR⟩, hw⟩ := hrel
    by_cases hlt : k < n
    · have hki : (0 : Int) ≤ (k : Int) := by omega
      have hkn : (k : Int) < n := by omega
      have c1 := (hB.cell k).trans (hR.2 k hlt)
      have c2 := hB.frozen k
      have hbit := bit_pos n m k hlt
      have hat := At_il (pos n m) k (by omega)
      have D1 : (m : Int) / 2 ^ k = ((m / 2 ^ k : Nat) : Int) := by push_cast; rfl
      have D2 : (m : Int) / 2 ^ (k + 1) = ((m / 2 ^ (k + 1) : Nat) : Int) := by push_cast; rfl
      have A1 : m / 2 ^ k < 65536 := Nat.lt_of_le_of_lt (Nat.div_le_self _ _) hm
      have A2 : m / 2 ^ (k + 1) < 65536 := Nat.lt_of_le_of_lt (Nat.div_le_self _ _) hm
      generalize m / 2 ^ k = d1 at *
      generalize m / 2 ^ (k + 1) = d2 at *
      have hk16 : (k : Int) < 16 := by omega
      have hW : IntKind.i64.wrap ((d1 : Int) + (d2 : Int)) = ((d1 + d2 : Nat) : Int) := by rw [IntKind.wrap_i64]; omega
      have hE : ((d1 + d2) % 2 : Nat) = At (il (pos n m)) k := by
        rw [hat, hbit]
        unfold bInt
        by_cases e : d1 % 2 = d2 % 2
        · simp [e]; omega
        · simp [e]; omega
      have q1 : (((d1 : Int) + (d2 : Int))).tmod 2 = At (il (pos n m)) k := by rw [Int.tmod_eq_emod_of_nonneg (by omega), ← hE]; omega
      have q2 : (((d1 : Int) + (d2 : Int))) % 2 = At (il (pos n m)) k := by rw [← hE]; omega
      have q0 : (0 : Int) ≤ (d1 : Int) + (d2 : Int) := by omega
      have q3 : (d1 : Int) + (d2 : Int) < 131072 := by omega
      generalize hv : At (il (pos n m)) k = v at *
      have HV := Lib.hid hv
      clear hbit hat hv hE hmk hW
      go_wp2
      go_region
      go_wp2
      refine ⟨⟨k + 1, by omega, by go_num, ⟨_, hB.set_ k _, (hR.set_ hlt).congr fun j _ => ?_⟩, (hw.setCell (Nat.le_refl _) _).drew⟩, ?_⟩
      · by_cases e : j = k
        · subst e; simp [HV.out]
        · by_cases h1 : j < k
          · rw [if_neg e, if_pos h1, if_pos (by omega)]
          · rw [if_neg e, if_neg h1, if_neg (by omega)]
      · simp [intOf]; omega
    · obtain rfl : k = n := by omega
      go_wp2
      go_ret
      exact ⟨_, _, rfl, hB.ints (hR.congr fun j hj => by rw [if_pos hj]) (by rw [hil, hpl]), hw⟩
end Go.Proofs.YtenlmjnejjdnnaaDoor

/-! Clasp: numbers and positions. -/
namespace Go.Proofs.YtenlmjnejjdnnaaDoor
open Go.RowKit Cl

theorem two_pow {n : Nat} (hn : n ≤ 16) : 2 ^ n ≤ 65536 := Nat.le_trans (Nat.pow_le_pow_right (by decide) hn) (by decide)
theorem two_pow_pos (n : Nat) : 1 ≤ 2 ^ n := Nat.one_le_two_pow

set_option maxRecDepth 100000 in
set_option maxHeartbeats 1000000 in
theorem cl_last (n p : Nat) (w : World) (hn : n ≤ 16) (hp : p = 2 ^ n) :
    Calls Tryd.prog 58 #[.int .i64 n] w fun e w' => e = .returned (.int .i64 ((p : Int) - 1)) ∧ w = w' := by
  have hP : (2 : Int) ^ n = (p : Int) := by rw [hp]; push_cast; rfl
  have h1 := two_pow hn
  have h2 := two_pow_pos n
  rw [← hp] at h1 h2
  have hn0 : (0 : Int) ≤ (n : Int) := by omega
  have hn1 : (n : Int) ≤ 16 := by omega
  have hp0 : (1 : Int) ≤ (p : Int) := by omega
  have hp1 : (p : Int) ≤ 65536 := by omega
  clear hp
  go_enter Tryd.func58, Tryd.ntmps58
  go_wp2
  go_ret
  exact ⟨rfl, rfl⟩

/-- The number that is returned. -/
def nrV (xs : List Int) : Nat := if pchk xs = 0 then num (onL xs) else 0
theorem nrV_eq (xs : List Int) : num (if pchk xs = 0 then onL xs else []) = nrV xs := by unfold nrV; split <;> rfl

set_option maxRecDepth 100000 in
set_option maxHeartbeats 1000000 in
theorem cl_Number (A : Option Addr) (n : Nat) (xs : List Int) (ca : Nat) (w : World) (hx : Ints w A n xs) (hl : n ≤ 9223372036854775807) :
    Calls Tryd.prog 23 #[.slice A n ca] w fun e w' => e = .returned (.tuple #[.int .i64 (nrV xs : Nat), .int .i64 (pchk xs)]) ∧ Below w.heap.size w w' := by
  have hlaid := cl_laid A n xs ca w hx hl
  have hV := Lib.hid (nrV_eq xs)
  generalize hL : (if pchk xs = 0 then onL xs else []) = L at *
  go_enter Tryd.func23, Tryd.ntmps23
  go_wp2_with fail
  refine hlaid.mono ?_; rintro e w1 ⟨cs, rfl, hC, b⟩
  have hn := Whole.new w1 68 zbar
  have hB := Whole.new w1 68 cs
  have hb1 := b.alloc b.size (.cells cs 68)
  go_wp2_with (first | (refine wpList_storeB (by rfl) _ _ (by rfl) _ cs (by rfl) (by rfl) _ zbar hn rfl hC.1 hC.all ?_; rw [setRow_alloc]) | (refine wpList_loadB (by rfl) _ (by rfl) _ (by rfl) _ cs hB hC.1 ?_))
  refine (bar_number cs L _ hC).mono ?_; rintro e w2 ⟨rfl, b2⟩
  go_wp2_with fail
  go_ret2
  exact ⟨by rw [hV.out]; rfl, hb1.trans (b2.mono (by have := b.size; simp; omega))⟩

set_option maxRecDepth 100000 in
set_option maxHeartbeats 1000000 in
theorem rc_Number (A : Option Addr) (n : Nat) (xs : List Int) (ca : Nat) (w : World) (hx : Ints w A n xs) (hl : n ≤ 9223372036854775807) :
    Calls Tryd.prog 24 #[.slice A n ca] w fun e w' => e = .returned (.tuple #[.int .i64 (nrV xs : Nat), .int .i64 (pchk xs)]) ∧ w = w' := by
  have hck := rc_Check A n xs ca w hx hl
  by_cases h0 : pchk xs = 0
  · obtain ⟨p1, p2, p3⟩ := pchk_ok hx.len h0
    have hV := Lib.hid (show nrV xs = num (onL xs) by rw [nrV, if_pos h0])
    rw [h0] at hck
    have H0 := Lib.hid h0; clear h0
    go_enter Tryd.func24, Tryd.ntmps24
    go_wp2_with fail
    refine hck.mono ?_; rintro e w1 ⟨rfl, rfl⟩
    go_wp2_with fail
    refine (rc_number A n xs ca w hx p2 p3).mono ?_; rintro e w1 ⟨rfl, rfl⟩
    go_wp2_with fail
    go_ret2
    exact ⟨by rw [hV.out, H0.out]; rfl, rfl⟩
  · have hne : (pchk xs != 0) = true := by simp [h0]
    have hV := Lib.hid (show nrV xs = 0 by rw [nrV, if_neg h0])
    clear h0
    go_enter Tryd.func24, Tryd.ntmps24
    go_wp2_with fail
    refine hck.mono ?_; rintro e w1 ⟨rfl, rfl⟩
    go_wp2_with fail
    go_ret2
    exact ⟨by rw [hV.out]; rfl, rfl⟩

/-- The error of Position, and its list. -/
def posE (r m : Int) : Int := if 1 ≤ r ∧ r ≤ 16 ∧ 0 ≤ m ∧ m < ((2 ^ r.toNat : Nat) : Int) then 0 else 1
def posV (r m : Int) : List Int := if posE r m = 0 then il (pos r.toNat m.toNat) else []
theorem posE_bad {r m : Int} (h : ¬ (1 ≤ r ∧ r ≤ 16 ∧ 0 ≤ m ∧ m < ((2 ^ r.toNat : Nat) : Int))) : posE r m = 1 ∧ posV r m = [] := by
  have : posE r m = 1 := by rw [posE, if_neg h]
  exact ⟨this, by rw [posV, this]; rfl⟩
theorem posE_good {r m : Int} (h : 1 ≤ r ∧ r ≤ 16 ∧ 0 ≤ m ∧ m < ((2 ^ r.toNat : Nat) : Int)) : posE r m = 0 ∧ posV r m = il (pos r.toNat m.toNat) := by
  have : posE r m = 0 := by rw [posE, if_pos h]
  exact ⟨this, by rw [posV, this]; rfl⟩

set_option maxRecDepth 100000 in
set_option maxHeartbeats 1000000 in
theorem cl_Position (r m : Int) (w : World) :
    Calls Tryd.prog 25 #[.int .i64 r, .int .i64 m] w fun e w' => GivL e w w' (posV r m) (posE r m) := by
  by_cases a1 : r < 1
  · obtain ⟨hE, hV⟩ := posE_bad (r := r) (m := m) (by omega)
    rw [hE, hV]
    go_enter Tryd.func25, Tryd.ntmps25
    go_wp2_with fail
    go_ret2
    exact ⟨none, 0, rfl, Ints.nil_ _ _, Below.refl _ _⟩
  by_cases a2 : 16 < r
  · obtain ⟨hE, hV⟩ := posE_bad (r := r) (m := m) (by omega)
    rw [hE, hV]
    go_enter Tryd.func25, Tryd.ntmps25
    go_wp2_with fail
    go_ret2
    exact ⟨none, 0, rfl, Ints.nil_ _ _, Below.refl _ _⟩
  by_cases a3 : m < 0
  · obtain ⟨hE, hV⟩ := posE_bad (r := r) (m := m) (by omega)
    rw [hE, hV]
    go_enter Tryd.func25, Tryd.ntmps25
    go_wp2_with fail
    go_ret2
    exact ⟨none, 0, rfl, Ints.nil_ _ _, Below.refl _ _⟩
  obtain ⟨n, rfl⟩ := Int.eq_ofNat_of_zero_le (show 0 ≤ r by omega)
  obtain ⟨k, rfl⟩ := Int.eq_ofNat_of_zero_le (show 0 ≤ m by omega)
  have hla := cl_last n (2 ^ n) w (by omega) rfl
  have h1 := two_pow (n := n) (by omega)
  have h2 := two_pow_pos n
  have hP : ((2 ^ ((n : Int).toNat) : Nat) : Int) = ((2 ^ n : Nat) : Int) := rfl
  by_cases a4 : 2 ^ n ≤ k
  · obtain ⟨hE, hV⟩ := posE_bad (r := (n : Int)) (m := (k : Int)) (by rw [hP]; omega)
    rw [hE, hV]
    clear hP hE hV
    generalize 2 ^ n = p at *
    go_enter Tryd.func25, Tryd.ntmps25
    go_wp2_with fail
    refine hla.mono ?_; rintro e w1 ⟨rfl, rfl⟩
    go_wp2_with fail
    go_ret2
    exact ⟨none, 0, rfl, Ints.nil_ _ _, Below.refl _ _⟩
  · obtain ⟨hE, hV⟩ := posE_good (r := (n : Int)) (m := (k : Int)) (by rw [hP]; omega)
    rw [hE, hV]
    clear hP hE hV
    have hpl := pos_len n k
    generalize 2 ^ n = p at *
    go_enter Tryd.func25, Tryd.ntmps25
    go_wp2_with fail
    refine hla.mono ?_; rintro e w1 ⟨rfl, rfl⟩
    go_wp2_with fail
    refine (cl_numbered n k w (by omega) (by omega)).mono ?_; rintro e w1 ⟨cs, rfl, hC, b1⟩
    go_wp2_with fail
    refine (bar_list cs _ w1 hC).mono ?_; rintro e w2 ⟨A', c, rfl, hI, b2⟩
    go_wp2_with fail
    go_ret2
    unfold GivL
    rw [hpl] at hI
    rw [Int.toNat_natCast, Int.toNat_natCast, il_len, hpl]
    exact ⟨A', c, by rw [← hpl]; rfl, hI, b1.trans (b2.mono b1.size)⟩

set_option maxRecDepth 100000 in
set_option maxHeartbeats 1000000 in
theorem rc_Position (r m : Int) (w : World) :
    Calls Tryd.prog 26 #[.int .i64 r, .int .i64 m] w fun e w' => GivL e w w' (posV r m) (posE r m) := by
  by_cases a1 : r < 1
  · obtain ⟨hE, hV⟩ := posE_bad (r := r) (m := m) (by omega)
    rw [hE, hV]
    go_enter Tryd.func26, Tryd.ntmps26
    go_wp2_with fail
    go_ret2
    exact ⟨none, 0, rfl, Ints.nil_ _ _, Below.refl _ _⟩
  by_cases a2 : 16 < r
  · obtain ⟨hE, hV⟩ := posE_bad (r := r) (m := m) (by omega)
    rw [hE, hV]
    go_enter Tryd.func26, Tryd.ntmps26
    go_wp2_with fail
    go_ret2
    exact ⟨none, 0, rfl, Ints.nil_ _ _, Below.refl _ _⟩
  by_cases a3 : m < 0
  · obtain ⟨hE, hV⟩ := posE_bad (r := r) (m := m) (by omega)
    rw [hE, hV]
    go_enter Tryd.func26, Tryd.ntmps26
    go_wp2_with fail
    go_ret2
    exact ⟨none, 0, rfl, Ints.nil_ _ _, Below.refl _ _⟩
  obtain ⟨n, rfl⟩ := Int.eq_ofNat_of_zero_le (show 0 ≤ r by omega)
  obtain ⟨k, rfl⟩ := Int.eq_ofNat_of_zero_le (show 0 ≤ m by omega)
  have h1 := two_pow (n := n) (by omega)
  have h2 := two_pow_pos n
  have hP : ((2 ^ ((n : Int).toNat) : Nat) : Int) = ((2 ^ n : Nat) : Int) := rfl
  have hQ : (2 : Int) ^ n = ((2 ^ n : Nat) : Int) := by push_cast; rfl
  by_cases a4 : 2 ^ n ≤ k
  · obtain ⟨hE, hV⟩ := posE_bad (r := (n : Int)) (m := (k : Int)) (by rw [hP]; omega)
    rw [hE, hV]
    clear hP hE hV
    generalize 2 ^ n = p at *
    go_enter Tryd.func26, Tryd.ntmps26
    go_wp2_with fail
    go_ret2
    exact ⟨none, 0, rfl, Ints.nil_ _ _, Below.refl _ _⟩
  · obtain ⟨hE, hV⟩ := posE_good (r := (n : Int)) (m := (k : Int)) (by rw [hP]; omega)
    rw [hE, hV]
    clear hP hE hV
    have hpl := pos_len n k
    generalize 2 ^ n = p at *
    go_enter Tryd.func26, Tryd.ntmps26
    go_wp2_with fail
    refine (rc_place n k w (by omega) (by omega)).mono ?_; rintro e w1 ⟨A', c, rfl, hI, b1⟩
    go_wp2_with fail
    go_ret2
    unfold GivL
    rw [Int.toNat_natCast, Int.toNat_natCast, il_len, hpl]
    exact ⟨A', c, rfl, hI, b1⟩
end Go.Proofs.YtenlmjnejjdnnaaDoor
