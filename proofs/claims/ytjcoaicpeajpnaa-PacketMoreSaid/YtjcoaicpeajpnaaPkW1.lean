/- Small functions of packet. -/
import Derived.Test.YtjcoaicpeajpnaaPkChk
import Derived.Test.YtjcoaicpeajpnaaPkMk
namespace Go.Proofs.Ytjcoaicpeajpnaa
open Go.RowKit Pk

/-- The error of a number. -/
def tot (n : Int) : Int := if n < 0 ∨ 1000 < n then 1 else 0
/-- The error of a stock whose length is right. -/
def stkTo (cs : List Int) : Nat → Int
  | 0 => 0
  | k + 1 => if stkTo cs k = 0 then (if At cs k < 0 ∨ 40 < At cs k then 1 else 0) else stkTo cs k
theorem stkTo_stay {xs : List Int} {k : Nat} (h : stkTo xs k ≠ 0) : ∀ j, stkTo xs (k + j) = stkTo xs k := by
  intro j
  induction j with
  | zero => rfl
  | succ j ih => rw [← Nat.add_assoc, stkTo, if_neg (by rw [ih]; exact h), ih]
theorem stkTo_hit {xs : List Int} {k n : Nat} (h0 : stkTo xs k = 0) (h : At xs k < 0 ∨ 40 < At xs k) (hk : k < n) : stkTo xs n = 1 := by
  have e : stkTo xs (k + 1) = 1 := by rw [stkTo, if_pos h0, if_pos h]
  have := stkTo_stay (xs := xs) (k := k + 1) (by rw [e]; decide) (n - (k + 1))
  rw [show k + 1 + (n - (k + 1)) = n by omega, e] at this
  exact this
theorem stkTo_pass {xs : List Int} {k : Nat} (h0 : stkTo xs k = 0) (h : ¬ (At xs k < 0 ∨ 40 < At xs k)) : stkTo xs (k + 1) = 0 := by
  rw [stkTo, if_pos h0, if_neg h]
def chkS (xs cs : List Int) : Int := if chk xs = 0 then (if cs.length = xs.length then stkTo cs cs.length else 5) else chk xs
def chkN (xs : List Int) (n : Int) : Int := if chk xs = 0 then tot n else chk xs
def chkO (xs cs : List Int) (n : Int) : Int := if chkS xs cs = 0 then tot n else chkS xs cs
def isIx (n : Nat) (k : Int) : Bool := decide (0 ≤ k) && decide (k < n)

/-- What the walks want of a number that is asked whether it is 0. -/
theorem ne0 {a : Int} (h : ¬ a = 0) : (a != 0) = true := by simp [h]

set_option maxHeartbeats 400000 in
theorem pk_checkTotal (n : Int) (w : World) :
    Calls Try.prog 90 #[.int .i64 n] w fun e w' => e = .returned (.int .i64 (tot n)) ∧ w = w' := by
  by_cases h1 : n < 0
  · go_enter Try.func90, Try.ntmps90
    go_wp2
    go_ret
    exact ⟨ret_int (by rw [tot, if_pos (.inl h1)]), rfl⟩
  by_cases h2 : 1000 < n
  · go_enter Try.func90, Try.ntmps90
    go_wp2
    go_ret
    exact ⟨ret_int (by rw [tot, if_pos (.inr h2)]), rfl⟩
  · go_enter Try.func90, Try.ntmps90
    go_wp2
    go_ret
    exact ⟨ret_int (by rw [tot, if_neg (by omega)]), rfl⟩

set_option maxHeartbeats 400000 in
theorem pk_isIndex (A : Option Addr) (n : Nat) (ca : Nat) (k : Int) (w : World) :
    Calls Try.prog 69 #[.slice A n ca, .int .i64 k] w fun e w' => e = .returned (.bool (isIx n k)) ∧ w = w' := by
  by_cases h1 : 0 ≤ k
  · go_enter Try.func69, Try.ntmps69
    go_wp2
    go_ret
    exact ⟨ret_bool (by simp [isIx, h1]), rfl⟩
  · go_enter Try.func69, Try.ntmps69
    go_wp2
    go_ret
    exact ⟨ret_bool (by simp [isIx]; omega), rfl⟩

set_option maxHeartbeats 400000 in
theorem pk_checkNumber (A : Option Addr) (n : Nat) (xs : List Int) (ca : Nat) (k : Int) (w : World) (hx : Ints w A n xs) (hl : n ≤ 1000000000) :
    Calls Try.prog 60 #[.slice A n ca, .int .i64 k] w fun e w' => e = .returned (.int .i64 (chkN xs k)) ∧ w = w' := by
  by_cases h1 : chk xs = 0
  · have hc := pk_Check A n xs ca w hx hl
    rw [h1] at hc
    have H1 := Lib.hid h1; clear h1
    go_enter Try.func60, Try.ntmps60
    go_wp2_with fail
    refine hc.mono ?_; rintro e w' ⟨rfl, rfl⟩
    go_wp2_with fail
    refine (pk_checkTotal _ _).mono ?_; rintro e w' ⟨rfl, rfl⟩
    go_wp2_with fail
    go_ret
    exact ⟨ret_int (by rw [chkN, if_pos H1.out]), rfl⟩
  · have hb := ne0 h1
    have H1 := Lib.hid h1; clear h1
    go_enter Try.func60, Try.ntmps60
    go_wp2_with fail
    refine (pk_Check A n xs ca w hx hl).mono ?_; rintro e w' ⟨rfl, rfl⟩
    go_wp2_with fail
    go_ret
    exact ⟨ret_int (by rw [chkN, if_neg H1.out]), rfl⟩

set_option maxHeartbeats 400000 in
theorem pk_checkStock (A B : Option Addr) (n m : Nat) (xs cs : List Int) (ca cb : Nat) (w : World) (hx : Ints w A n xs) (hy : Ints w B m cs) (hl : n ≤ 1000000000) (hl' : m ≤ 1000000000) :
    Calls Try.prog 80 #[.slice A n ca, .slice B m cb] w fun e w' => e = .returned (.int .i64 (chkS xs cs)) ∧ w = w' := by
  by_cases h1 : chk xs = 0
  · have hc := pk_Check A n xs ca w hx hl
    rw [h1] at hc
    have H1 := Lib.hid h1; clear h1
    by_cases hnm : m = n
    · subst hnm
      have he : chkS xs cs = stkTo cs m := by rw [chkS, if_pos H1.out, if_pos (by rw [hx.len, hy.len]), hy.len]
      have He := Lib.hid he; clear he
      go_enter Try.func80, Try.ntmps80
      go_wp2_with fail
      refine hc.mono ?_; rintro e w' ⟨rfl, rfl⟩
      go_wp2_with fail
      go_loop [20] (fun i => ∃ k : Nat, k ≤ m ∧ i = .int .i64 k ∧ Hid (stkTo cs k = 0)) (fun i => m - (intOf i).toNat)
      case atStart => exact ⟨0, by omega, rfl, rfl⟩
      case round =>
        obtain ⟨k, hk, rfl, hz⟩ := hrel
        by_cases hlt : k < m
        · obtain ⟨b, off, rfl, hb, hc⟩ := hy.at_ hlt
          have hki : (0 : Int) ≤ (k : Int) := by omega
          have hkn : (k : Int) < m := by omega
          by_cases h2 : At cs k < 0
          · go_wp2
            go_ret
            exact ⟨ret_int (by rw [He.out, stkTo_hit hz.out (.inl h2) hlt]), rfl⟩
          by_cases h3 : 40 < At cs k
          · go_wp2
            go_ret
            exact ⟨ret_int (by rw [He.out, stkTo_hit hz.out (.inr h3) hlt]), rfl⟩
          · go_wp2
            go_round
            case rel => exact ⟨k + 1, by omega, by go_num, stkTo_pass hz.out (by omega)⟩
            case measure => simp [intOf]; omega
        · obtain rfl : k = m := by omega
          go_wp2
          go_ret
          exact ⟨ret_int (by rw [He.out, hz.out]), rfl⟩
    · have he : chkS xs cs = 5 := by rw [chkS, if_pos H1.out, if_neg (by rw [hx.len, hy.len]; exact hnm)]
      have He := Lib.hid he; clear he
      have hb : ((m : Int) != n) = true := by simp; omega
      go_enter Try.func80, Try.ntmps80
      go_wp2_with fail
      refine hc.mono ?_; rintro e w' ⟨rfl, rfl⟩
      go_wp2_with fail
      go_ret
      exact ⟨ret_int (by rw [He.out]), rfl⟩
  · have hb := ne0 h1
    have H1 := Lib.hid h1; clear h1
    go_enter Try.func80, Try.ntmps80
    go_wp2_with fail
    refine (pk_Check A n xs ca w hx hl).mono ?_; rintro e w' ⟨rfl, rfl⟩
    go_wp2_with fail
    go_ret
    exact ⟨ret_int (by rw [chkS, if_neg H1.out]), rfl⟩

set_option maxHeartbeats 400000 in
theorem pk_checkOrder (A B : Option Addr) (n m : Nat) (xs cs : List Int) (ca cb : Nat) (k : Int) (w : World) (hx : Ints w A n xs) (hy : Ints w B m cs) (hl : n ≤ 1000000000) (hl' : m ≤ 1000000000) :
    Calls Try.prog 75 #[.slice A n ca, .slice B m cb, .int .i64 k] w fun e w' => e = .returned (.int .i64 (chkO xs cs k)) ∧ w = w' := by
  have hc := pk_checkStock A B n m xs cs ca cb w hx hy hl hl'
  by_cases h1 : chkS xs cs = 0
  · rw [h1] at hc
    have H1 := Lib.hid h1; clear h1
    go_enter Try.func75, Try.ntmps75
    go_wp2_with fail
    refine hc.mono ?_; rintro e w' ⟨rfl, rfl⟩
    go_wp2_with fail
    refine (pk_checkTotal _ _).mono ?_; rintro e w' ⟨rfl, rfl⟩
    go_wp2_with fail
    go_ret
    exact ⟨ret_int (by rw [chkO, if_pos H1.out]), rfl⟩
  · have hb := ne0 h1
    have H1 := Lib.hid h1; clear h1
    go_enter Try.func75, Try.ntmps75
    go_wp2_with fail
    refine hc.mono ?_; rintro e w' ⟨rfl, rfl⟩
    go_wp2_with fail
    go_ret
    exact ⟨ret_int (by rw [chkO, if_neg H1.out]), rfl⟩

/-- The closure of makeable. -/
def inTab (f : Nat → Bool) (n : Int) : Bool := decide (0 ≤ n) && decide (n ≤ 1000) && f n.toNat
set_option maxRecDepth 100000 in
set_option maxHeartbeats 400000 in
theorem pk_made (g : Nat) (cs : Array Value) (f : Nat → Bool) (n : Int) (w : World) (hB : Whole w g 89 cs) (hT : Tab cs f) :
    Calls Try.prog 91 #[.int .i64 n, .pointer (some ⟨g, 0, none⟩)] w fun e w' => e = .returned (.bool (inTab f n)) ∧ w = w' := by
  by_cases h1 : 0 ≤ n
  · obtain ⟨n, rfl⟩ := Int.eq_ofNat_of_zero_le h1
    by_cases h2 : n ≤ 1000
    · have h3 : (n : Int) < 1001 := by omega
      have hc := (hB.cell n).trans (hT.2 n (by omega))
      go_enter Try.func91, Try.ntmps91
      go_wp2
      go_ret
      exact ⟨ret_bool (by simp [inTab]; omega), rfl⟩
    · go_enter Try.func91, Try.ntmps91
      go_wp2
      go_ret
      exact ⟨ret_bool (by simp [inTab]; omega), rfl⟩
  · go_enter Try.func91, Try.ntmps91
    go_wp2
    go_ret
    exact ⟨ret_bool (by simp [inTab]; omega), rfl⟩

theorem lw_list (v : Value) (w : World) : Calls Try.prog 48 #[v] w fun e w' => e = .returned v ∧ w = w' := by
  go_enter Try.func48, Try.ntmps48
  go_wp2
  go_ret
  exact ⟨rfl, rfl⟩

set_option maxHeartbeats 400000 in
theorem lw_same (A B : Option Addr) (n m : Nat) (xs ys : List Int) (ca cb : Nat) (w : World) (hx : Ints w A n xs) (hy : Ints w B m ys)
    (hl : n ≤ 1000000000) (hl' : m ≤ 1000000000) :
    Calls Try.prog 23 #[.slice A n ca, .slice B m cb] w fun e w' => e = .returned (.bool (decide (xs = ys))) ∧ ∃ j, w' = w.drewN j := by
  by_cases h : n = m
  · subst h
    go_enter Try.func23, Try.ntmps23
    go_wp2
    go_loopw [5] (fun i wr => ∃ k j : Nat, k ≤ n ∧ i = .int .i64 k ∧ wr = w.drewN j ∧ (∀ q, q < k → At xs q = At ys q)) (fun i _ => n - (intOf i).toNat)
    case atStart => exact ⟨0, 0, by omega, rfl, rfl, fun q hq => by omega⟩
    case round =>
      obtain ⟨k, j, hk, rfl, rfl, hq⟩ := hrel
      have HQ := Lib.hid hq; clear hq
      by_cases hlt : k < n
      · obtain ⟨b, off, rfl, hb, hc⟩ := hx.at_ hlt
        obtain ⟨b', off', rfl, hb', hc'⟩ := hy.at_ hlt
        have hki : (0 : Int) ≤ (k : Int) := by omega
        have hkn : (k : Int) < n := by omega
        by_cases he : At xs k = At ys k
        · have hbb : (At xs k != At ys k) = false := by simp [he]
          have He := Lib.hid he; clear he
          go_wp2
          go_quiet (fail)
          go_wp2
          refine ⟨⟨k + 1, _, by omega, by go_num, rfl, fun q hq => ?_⟩, by simp [intOf]; omega⟩
          rcases Nat.lt_or_ge q k with h | h
          · exact HQ.out q h
          · obtain rfl : q = k := by omega
            exact He.out
        · have hbb : (At xs k != At ys k) = true := by simp [he]
          have He := Lib.hid he; clear he
          go_wp2
          go_quiet (fail)
          go_wp2
          go_ret
          refine ⟨ret_bool (Eq.symm ?_), _, World.drewN_drewN _ _ _⟩
          simp only [decide_eq_false_iff_not]
          rintro rfl
          exact He.out rfl
      · obtain rfl : k = n := by omega
        go_wp2
        go_ret
        refine ⟨ret_bool (Eq.symm ?_), _, rfl⟩
        simp only [decide_eq_true_eq]
        exact At_ext (by rw [hx.len, hy.len]) (fun q hq => HQ.out q (by rw [hx.len] at hq; exact hq))
  · have hb : ((n : Int) != m) = true := by simp; omega
    go_enter Try.func23, Try.ntmps23
    go_wp2
    go_ret
    refine ⟨ret_bool (Eq.symm ?_), 0, rfl⟩
    simp only [decide_eq_false_iff_not]
    rintro rfl
    exact h (by rw [← hx.len, hy.len])

theorem lw_large (A B C : Option Addr) (n m k : Nat) (ca cb cc : Nat) (w : World) (hl : n ≤ 1000000000) (hl' : m ≤ 1000000000) (hl'' : k ≤ 1000000000) :
    Calls Try.prog 15 #[.slice A n ca, .slice B m cb, .slice C k cc] w fun e w' => e = .returned (.bool (decide (40 < n ∨ 40 < m ∨ 40 < k))) ∧ w = w' := by
  go_enter Try.func15, Try.ntmps15
  go_wp2
  all_goals go_ret
  all_goals exact ⟨ret_bool (by first | (rw [Bool.eq_iff_iff]; simp; omega) | (simp; omega)), rfl⟩
end Go.Proofs.Ytjcoaicpeajpnaa
