/- The till: an order by its number. -/
import Derived.Test.YtkdbgkibifigiaaTcA
namespace Go.Proofs.Ytkdbgkibifigiaa.Ev
set_option linter.unusedVariables false
set_option linter.unusedSimpArgs false
set_option maxRecDepth 100000
open Go Go.Proofs

/-! Lists of bytes. -/
noncomputable def bL : List Nat → L
  | [] => .nil
  | b :: l => .cons (.i .u8 (b : Int)) (bL l)
theorem bL_len : ∀ xs, (bL xs).length = xs.length
  | [] => rfl
  | b :: l => by simp [bL, L.length, bL_len l]
theorem bL_allC : ∀ xs, (bL xs).allC = true
  | [] => rfl
  | b :: l => by simp [bL, L.allC, V.isC, bL_allC l]
theorem bL_lt : ∀ (xs : List Nat) (z k : Nat), k < xs.length → (bL (xs ++ [z])).get k = (bL xs).get k
  | [], z, k, h => by simp at h
  | b :: l, z, 0, h => rfl
  | b :: l, z, k + 1, h => bL_lt l z k (by simpa using h)
theorem bL_at : ∀ (xs : List Nat) (z : Nat), (bL (xs ++ [z])).get xs.length = .i .u8 (z : Int)
  | [], z => rfl
  | b :: l, z => bL_at l z
theorem bytesL_bL : ∀ xs : List Nat, (∀ b ∈ xs, b < 256) → bytesL (bL xs) = some xs
  | [], _ => rfl
  | b :: l, h => by
    have hb : Nat.blt b 256 = true := Nat.blt_eq.mpr (h b (by simp))
    show (Bool.rec none ((bytesL (bL l)).map (b :: ·)) (Nat.blt b 256) : Option (List Nat)) = _
    rw [hb, bytesL_bL l fun x hx => h x (by simp [hx])]
    rfl
theorem grownB_le {el : TypeId} {xs : List Nat} {z : Nat} (hm : xs.length + 1 ≤ 1000) : BlkLe (blkL el (bL (xs ++ [z]))) (grown (blkL el (bL xs)) 0 xs.length (.cons (.i .u8 (z : Int)) .nil)) := by
  obtain ⟨g1, g2, g3⟩ := grown_spec (blkL el (bL xs)) 0 xs.length (.cons (.i .u8 (z : Int)) .nil) (by simp [L.allC, V.isC]) (by simp [L.length, maxSize]; omega)
  refine ⟨.inl rfl, g1.symm, by rw [g2, blkL_size, bL_len]; simp [L.length], fun k hk => .inr ?_⟩
  rw [blkL_size, bL_len, List.length_append] at hk
  simp at hk
  rw [g3 k (by simp [L.length]; omega), blkL_cell _ _ _ (by rw [bL_len, List.length_append]; simp; omega)]
  by_cases hlt : k < xs.length
  · rw [if_pos hlt, Nat.zero_add, blkL_cell _ _ _ (by rw [bL_len]; exact hlt), bL_lt _ _ _ hlt]
  · rw [if_neg hlt]
    obtain rfl : k = xs.length := by omega
    rw [bL_at]
    simp [L.get]
noncomputable def b2sB (ob : Option Blk) (off esz len : Nat) (h : Hp) (n : Nat) : Res :=
  pv (Option.rec .bad (fun b => Bool.rec .bad (Option.rec .bad V.s (bytesL (b.getL off len))) (and (Nat.beq esz 1) (Nat.ble (Nat.add off len) b.size))) ob) h n
noncomputable def b2sV (v : V) (h : Hp) (n : Nat) : Res := match v with
  | .sl a off esz len _ => b2sB (h.get a) off esz len h n
  | .ns => .ok (.s []) h n
  | v => pv (onS v (fun a off esz len _ => Option.rec .bad (fun b => Bool.rec .bad (Option.rec .bad V.s (bytesL (b.getL off len))) (and (Nat.beq esz 1) (Nat.ble (Nat.add off len) b.size))) (h.get a)) (.s []) .bad) h n
theorem O_b2s (x : X) (F : FF) (e : Tr) (lim : Nat) (h : Hp) (n : Nat) : (O.b2s x).ev F e lim h n = b2sV (evX x e) h n := by
  show evB2s x e lim h n = _
  unfold evB2s b2sV
  cases evX x e <;> rfl
theorem b2sV_sl (a : Pos) (off esz len : Nat) (c : Option Nat) (h : Hp) (n : Nat) : b2sV (.sl a off esz len c) h n = b2sB (h.get a) off esz len h n := rfl
theorem b2sV_ns (h : Hp) (n : Nat) : b2sV .ns h n = .ok (.s []) h n := rfl
theorem b2sB_bL (el : TypeId) (xs : List Nat) (hb : ∀ b ∈ xs, b < 256) (hl : xs.length ≤ 1000) (h : Hp) (n : Nat) : b2sB (some (blkL el (bL xs))) 0 1 xs.length h n = .ok (.s xs) h n := by
  have hg : (blkL el (bL xs)).getL 0 xs.length = bL xs := by
    refine L_ext (by rw [getL_length, bL_len]) fun k hk => ?_
    rw [getL_length] at hk
    rw [getL_get _ _ _ _ hk, Nat.zero_add, blkL_cell _ _ _ (by rw [bL_len]; exact hk)]
  show pv (Bool.rec .bad (Option.rec .bad V.s (bytesL ((blkL el (bL xs)).getL 0 xs.length))) (and (Nat.beq 1 1) (Nat.ble (Nat.add 0 xs.length) (blkL el (bL xs)).size)) : V) h n = _
  rw [hg, bytesL_bL xs hb, blkL_size, bL_len, show Nat.ble (Nat.add 0 xs.length) xs.length = true from Nat.ble_eq.mpr (by show 0 + xs.length ≤ _; omega)]
  rfl

/-! The orders by their numbers. -/
def ordS : Nat → Int → Int → Int → Int → List Nat
  | 0, _, _, _, _ => []
  | m + 1, c, n, t, x => if x < wF (c - 1) n (t + 1) then 99 :: ordS m (c - 1) n (t + 1) x else 110 :: ordS m c (n - 1) (t - 1) (x - wF (c - 1) n (t + 1))
theorem w_pos_chk : ((List.range 17).all fun c => (List.range (17 - c)).all fun n => (List.range 42).all fun b => decide (0 ≤ wF c n b) && (decide (c + b < n) || decide (0 < wF c n b))) = true := by decide +kernel
theorem w_pos {c n b : Int} (h0 : 0 ≤ c) (h1 : 0 ≤ n) (h2 : c + n ≤ 16) (h3 : 0 ≤ b) (h4 : b ≤ 41) : 0 ≤ wF c n b ∧ (n ≤ c + b → 0 < wF c n b) := by
  obtain ⟨c', rfl⟩ : ∃ c' : Nat, c = c' := ⟨c.toNat, by omega⟩
  obtain ⟨n', rfl⟩ : ∃ n' : Nat, n = n' := ⟨n.toNat, by omega⟩
  obtain ⟨b', rfl⟩ : ∃ b' : Nat, b = b' := ⟨b.toNat, by omega⟩
  have h := List.all_eq_true.1 (List.all_eq_true.1 (List.all_eq_true.1 w_pos_chk c' (List.mem_range.2 (by omega))) n' (List.mem_range.2 (by omega))) b' (List.mem_range.2 (by omega))
  simp only [Bool.and_eq_true, Bool.or_eq_true, decide_eq_true_eq] at h
  exact ⟨h.1, fun h' => h.2.resolve_left (by omega)⟩
theorem wF_none {n b : Int} : wF (0 - 1) n b = 0 := by rw [wF, if_pos (.inl (by omega))]
theorem wF_step {c n t : Int} (h0 : 0 ≤ c) (h1 : 0 ≤ n) (h2 : c + n ≤ 16) (h3 : 0 ≤ t) (h4 : t ≤ 40) (h5 : 0 < c + n) : wF c n t = wF (c - 1) n (t + 1) + if 0 < n ∧ 0 < t then wF c (n - 1) (t - 1) else 0 := by
  obtain ⟨c', rfl⟩ : ∃ c' : Nat, c = c' := ⟨c.toNat, by omega⟩
  obtain ⟨n', rfl⟩ : ∃ n' : Nat, n = n' := ⟨n.toNat, by omega⟩
  obtain ⟨t', rfl⟩ : ∃ t' : Nat, t = t' := ⟨t.toNat, by omega⟩
  rw [w_rec (by omega) (by omega), wRec, if_neg (by omega), Int.zero_add]
  congr 1
  · by_cases hc : 0 < c'
    · rw [if_pos hc]
      congr 1
      omega
    · obtain rfl : c' = 0 := by omega
      rw [if_neg hc]
      exact wF_none.symm
  · by_cases hn : 0 < n' ∧ 0 < t'
    · rw [if_pos hn, if_pos (by omega)]
      congr 1 <;> omega
    · rw [if_neg hn, if_neg (by omega)]
/-- What comes after a coin. -/
theorem coin_ok {c n t x : Int} (h0 : 0 ≤ c) (h1 : 0 ≤ n) (h2 : c + n ≤ 16) (h3 : 0 ≤ t) (h4 : t + c ≤ 36) (h5 : 0 < c + n) (h6 : 0 ≤ x) (h7 : x < wF c n t) :
    (x < wF (c - 1) n (t + 1) → 0 < c) ∧ (¬ x < wF (c - 1) n (t + 1) → 0 < n ∧ 0 < t ∧ x - wF (c - 1) n (t + 1) < wF c (n - 1) (t - 1)) := by
  have hs := wF_step h0 h1 h2 h3 (by omega) h5
  constructor
  · intro h
    by_cases hc : 0 < c
    · exact hc
    · obtain rfl : c = 0 := by omega
      rw [wF_none] at h
      omega
  · intro h
    by_cases hn : 0 < n ∧ 0 < t
    · rw [if_pos hn] at hs
      exact ⟨hn.1, hn.2, by omega⟩
    · rw [if_neg hn] at hs
      omega
theorem ordS_0 : ∀ (m : Nat) (c n t : Int), c + n = m → 0 ≤ c → 0 ≤ n → c + n ≤ 16 → 0 ≤ t → t + c ≤ 36 → n ≤ c + t → ordS m c n t 0 = List.replicate c.toNat 99 ++ List.replicate n.toNat 110
  | 0, c, n, t, hm, h0, h1, _, _, _, _ => by
    obtain rfl : c = 0 := by omega
    obtain rfl : n = 0 := by omega
    rfl
  | m + 1, c, n, t, hm, h0, h1, h2, h3, h4, h5 => by
    rw [ordS]
    by_cases hc : 0 < c
    · have hp := (w_pos (c := c - 1) (n := n) (b := t + 1) (by omega) h1 (by omega) (by omega) (by omega)).2 (by omega)
      rw [if_pos hp, ordS_0 m (c - 1) n (t + 1) (by omega) (by omega) h1 (by omega) (by omega) (by omega) (by omega), show c.toNat = (c - 1).toNat + 1 by omega, List.replicate_succ]
      rfl
    · obtain rfl : c = 0 := by omega
      rw [wF_none, if_neg (by omega), Int.sub_zero, ordS_0 m 0 (n - 1) (t - 1) (by omega) (by omega) (by omega) (by omega) (by omega) (by omega) (by omega), show n.toNat = (n - 1).toNat + 1 by omega, List.replicate_succ]
      rfl
theorem ordS_lt : ∀ (m : Nat) (c n t x : Int), ∀ b ∈ ordS m c n t x, b < 256
  | 0, c, n, t, x => by simp [ordS]
  | m + 1, c, n, t, x => by
    rw [ordS]
    intro b hb
    split at hb
    · rcases List.mem_cons.1 hb with rfl | hb
      · omega
      · exact ordS_lt m _ _ _ _ b hb
    · rcases List.mem_cons.1 hb with rfl | hb
      · omega
      · exact ordS_lt m _ _ _ _ b hb
end Go.Proofs.Ytkdbgkibifigiaa.Ev
