/- The till's laws: what is in it after each customer. -/
import Derived.Test.YtkdbgkibifigiaaTyA
import Derived.Test.YtkdbgkibifigiaaTlF
namespace Go.Proofs.Ytkdbgkibifigiaa.Ev
set_option linter.unusedVariables false
set_option linter.unusedSimpArgs false
set_option maxRecDepth 100000
open Go Go.Proofs
noncomputable def q42_l0 : IC := ((IC.reg (RL.cons (some (tp 12)) none (O.bin .lss (X.t (tp 11)) (X.t (tp 10))) RL.nil)).seq ((IC.cond (X.t (tp 12)) IC.skip (IC.exit 0)).seq ((IC.block 1 ((IC.reg (RL.cons (some (tp 13)) none (O.mv (X.t (tp 11))) (RL.cons (some (tp 8)) none (O.mv (X.t (tp 13))) RL.nil))).seq (((IC.reg (RL.cons (some (tp 14)) none (O.mv (X.t (tp 0))) (RL.cons (some (tp 15)) none (O.mv (X.t (tp 8))) (RL.cons (some (tp 16)) none (O.six (X.t (tp 14)) (X.t (tp 15))) RL.nil)))).seq (IC.block 2 ((IC.reg (RL.cons (some (tp 20)) none (O.bin .eql (X.t (tp 16)) (X.c (V.i .u8 99))) (RL.cons (some (tp 19)) none (O.mv (X.t (tp 20))) RL.nil))).seq (IC.cond (X.t (tp 19)) (IC.reg (RL.cons (some (tp 21)) none (O.mv (X.t (tp 1))) (RL.cons (some (tp 22)) none (O.bin .add (X.t (tp 21)) (X.c (I 1))) (RL.cons (some (tp 1)) none (O.mv (X.t (tp 22))) RL.nil)))) (IC.reg (RL.cons (some (tp 17)) none (O.mv (X.t (tp 1))) (RL.cons (some (tp 18)) none (O.bin .sub (X.t (tp 17)) (X.c (I 1))) (RL.cons (some (tp 1)) none (O.mv (X.t (tp 18))) RL.nil)))))))).seq (((IC.reg (RL.cons (some (tp 23)) none (O.mv (X.t (tp 1))) (RL.cons (some (tp 24)) none (O.bin .lss (X.t (tp 23)) (X.c (I 0))) (RL.cons (some (tp 25)) none (O.mv (X.t (tp 24))) (RL.cons (some (tp 26)) (some ((tp 25), true)) (O.mv (X.t (tp 7))) (RL.cons (some (tp 27)) (some ((tp 25), true)) (O.bin .lss (X.t (tp 26)) (X.c (I 0))) (RL.cons (some (tp 28)) none (O.pick (X.t (tp 25)) (X.t (tp 27)) (X.c (V.b false))) RL.nil))))))).seq (IC.cond (X.t (tp 28)) (IC.reg (RL.cons (some (tp 29)) none (O.mv (X.t (tp 8))) (RL.cons (some (tp 7)) none (O.mv (X.t (tp 29))) RL.nil))) IC.skip)).seq (IC.reg (RL.cons (some (tp 30)) none (O.mv (X.t (tp 6))) (RL.cons (some (tp 31)) none (O.mv (X.t (tp 1))) (RL.cons (some (tp 32)) none (O.bsl 3 1 1 (L.cons (I 0) L.nil) (PL.cons 0 1 (X.t (tp 31)) PL.nil)) (RL.cons (some (tp 33)) none (O.app 3 1 8 (X.t (tp 30)) (X.t (tp 32))) (RL.cons (some (tp 6)) none (O.mv (X.t (tp 33))) RL.nil)))))))))).seq (IC.reg (RL.cons (some (tp 34)) none (O.bin .add (X.t (tp 11)) (X.c (I 1))) (RL.cons (some (tp 11)) none (O.mv (X.t (tp 34))) RL.nil))))))
noncomputable def q42 : IC := ((IC.reg (RL.cons (some (tp 4)) none (O.mv (X.c V.ns)) (RL.cons (some (tp 5)) none (O.mv (X.c (I 0))) RL.nil))).seq ((IC.reg (RL.cons (some (tp 6)) none (O.mv (X.c V.ns)) RL.nil)).seq ((IC.reg (RL.cons (some (tp 7)) none (O.mv (X.c (I (-1)))) RL.nil)).seq (((IC.reg (RL.cons (some (tp 9)) none (O.mv (X.t (tp 0))) (RL.cons (some (tp 10)) none (O.slen (X.t (tp 9))) (RL.cons (some (tp 11)) none (O.mv (X.c (I 0))) RL.nil)))).seq (IC.block 0 (IC.loop q42_l0))).seq ((IC.reg (RL.cons (some (tp 35)) none (O.mv (X.t (tp 6))) (RL.cons (some (tp 36)) none (O.mv (X.t (tp 7))) (RL.cons (some (tp 4)) none (O.mv (X.t (tp 35))) (RL.cons (some (tp 5)) none (O.mv (X.t (tp 36))) RL.nil))))).seq IC.ret)))))
noncomputable def res42 : List RV := [RV.tmp (tp 4), RV.tmp (tp 5)]
noncomputable def c42 : Code := match Try.f42.body with | some c => c | none => .skip
theorem b42 : Try.f42.body = some c42 := by kernel_rfl
theorem k42 : compC Try.prog drops Try.f42.ntmps c42 = some q42 := by kernel_rfl
theorem r42 : compRVs Try.prog Try.f42.results.toList = some res42 := by kernel_rfl
theorem n42 : (Try.f42.name == "runtime.NumGoroutine") = false := by kernel_rfl


theorem aft_add (bs : List Nat) (b : Int) : ∀ k : Nat, aft bs b k = b + aft bs 0 k
  | 0 => by simp [aft]
  | k + 1 => by rw [aft, aft, aft_add bs b k]; omega
theorem ndm_le (bs : List Nat) (z : Int) (hz : 0 ≤ z) : ∀ k : Nat, ndm bs k ≤ z ↔ ∀ j, j < k → 0 ≤ z + aft bs 0 (j + 1)
  | 0 => by simp [ndm, hz]
  | k + 1 => by
    rw [ndm]
    constructor
    · intro h j hj
      rcases Nat.lt_or_ge j k with h1 | h1
      · exact (ndm_le bs z hz k).1 (by omega) j h1
      · obtain rfl : j = k := by omega
        omega
    · intro h
      have h1 := (ndm_le bs z hz k).2 fun j hj => h j (by omega)
      have h2 := h k (by omega)
      omega
theorem lck_ndm {bs : List Nat} {z : Int} (hz : 0 ≤ z) : lck bs z < 0 ↔ ndm bs bs.length ≤ z := by
  have h := fstN_neg (xs := afts bs z) (afts bs z).length 0 (by simp)
  rw [List.drop_zero] at h
  unfold lck
  rw [h, ndm_le bs z hz, afts_len]
  constructor
  · intro h j hj
    have := h j (Nat.zero_le _) hj
    rw [At_afts hj, aft_add] at this
    exact this
  · intro h j _ hj
    rw [At_afts hj, aft_add]
    exact h j hj
/-- The slice after some appends. -/
noncomputable def apV (k : Nat) : V := if k = 0 then .ns else .sl (tp (254 + 2 * k)) 0 1 k none
noncomputable def apH (xs : List Int) (k : Nat) : Hp := if k = 0 then .lf else Hp.lf.put (some (blkL 3 (iL (xs.take k)))) (tp (254 + 2 * k))
/-- The first customer who lacked change so far. -/
def fiK (bs : List Nat) (b : Int) : Nat → Int
  | 0 => -1
  | k + 1 => if aft bs b (k + 1) < 0 ∧ fiK bs b k < 0 then k else fiK bs b k
theorem fi_set {bs : List Nat} {b : Int} {k : Nat} (h1 : aft bs b (k + 1) < 0) (h2 : fiK bs b k < 0) : fiK bs b (k + 1) = k := if_pos ⟨h1, h2⟩
theorem fi_old {bs : List Nat} {b : Int} {k : Nat} (h2 : ¬ fiK bs b k < 0) : fiK bs b (k + 1) = fiK bs b k := if_neg fun h => h2 h.2
theorem fi_pos {bs : List Nat} {b : Int} {k : Nat} (h1 : ¬ aft bs b (k + 1) < 0) : fiK bs b (k + 1) = fiK bs b k := if_neg fun h => h1 h.1
theorem fi_lck (bs : List Nat) (b : Int) : ∀ k : Nat, k ≤ bs.length → (fiK bs b k = -1 ∧ lck bs b = fstN ((afts bs b).drop k) k) ∨ (0 ≤ fiK bs b k ∧ lck bs b = fiK bs b k)
  | 0, _ => .inl ⟨rfl, rfl⟩
  | k + 1, h => by
    rcases fi_lck bs b k (by omega) with ⟨h1, h2⟩ | ⟨h1, h2⟩
    · rw [fstN_step (by rw [afts_len]; omega), At_afts (by omega)] at h2
      by_cases hn : aft bs b (k + 1) < 0
      · rw [if_pos hn] at h2
        have := fi_set hn (show fiK bs b k < 0 by omega)
        right; omega
      · rw [if_neg hn] at h2
        rw [fi_pos hn]
        exact .inl ⟨h1, h2⟩
    · rw [fi_old (by omega)]
      exact .inr ⟨h1, h2⟩
theorem fi_all (bs : List Nat) (b : Int) : fiK bs b bs.length = lck bs b := by
  rcases fi_lck bs b bs.length (Nat.le_refl _) with ⟨h1, h2⟩ | ⟨h1, h2⟩
  · rw [fstN_end _ _ (by rw [afts_len]; exact Nat.le_refl _)] at h2; omega
  · omega
noncomputable def o42 (bs : List Nat) (b : Int) : Out := if bs.length = 0 then .v (.tu (.cons .ns (.cons (I (-1)) .nil))) else .slE 3 1 bs.length none (iL (afts bs b)) (I (lck bs b))
noncomputable def f42 (bs : List Nat) (b : Int) : Out := if bs.length ≤ 16 ∧ -1000 ≤ b ∧ b ≤ 1000 then o42 bs b else .no
theorem o42_ok (bs : List Nat) (b : Int) : OutOK (o42 bs b) := by
  unfold o42
  split
  · simp [OutOK, V.pur, L.pur, I_pur]
  · exact ⟨iL_pur _, by rw [iL_len, afts_len]; omega, I_pur _⟩
end Go.Proofs.Ytkdbgkibifigiaa.Ev
