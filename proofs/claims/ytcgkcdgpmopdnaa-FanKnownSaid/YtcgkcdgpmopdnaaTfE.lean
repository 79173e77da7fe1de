/- The fan by the evaluator, where a kind put in and the first empty place are answered by their contracts. -/
import Derived.Test.YtcgkcdgpmopdnaaTfC
namespace Go.Proofs.Ytcgkcdgpmopdnaa.Ev
set_option linter.unusedVariables false
set_option linter.unusedSimpArgs false
open Go Go.Proofs
theorem zld_purp (K : Nat) (w : Bool) (xs : List Int) (Z P : Nat) : (putL K w xs Z P).pur = true := by
  unfold putL
  split
  · exact ld_pur _ _ _
  · exact zld_pur
noncomputable def f59 (k : Int) (w : Bool) (xs : List Int) (z p : Int) : Out := if ((0 ≤ k ∧ k ≤ 8) ∧ xs.length = 16) ∧ (1 ≤ z ∧ z ≤ 100) ∧ 0 ≤ p ∧ p < 2 * k then
  .v (.tu (.cons (.ag (putL k.toNat w xs z.toNat p.toNat)) (.cons (I (putE k.toNat w xs z.toNat p.toNat)) .nil))) else .no
theorem ok59 : SOK Try.prog 59 (spAII f59) := spAII_ok fun k w xs z p lim h n v h' n' hr => by
  unfold f59 at hr
  split at hr
  · rename_i hb
    obtain ⟨⟨⟨b1, b2⟩, b3⟩, ⟨b4, b5⟩, b6, b7⟩ := hb
    obtain ⟨K, rfl⟩ := Int.eq_ofNat_of_zero_le b1
    obtain ⟨Z, rfl⟩ := Int.eq_ofNat_of_zero_le (show 0 ≤ z by omega)
    obtain ⟨P, rfl⟩ := Int.eq_ofNat_of_zero_le b6
    have hpu : (V.tu (.cons (.ag (putL K w xs Z P)) (.cons (I (putE K w xs Z P)) .nil))).pur = true := by simp only [pur_tu, purL_cons, purL_nil, pur_ag, zld_purp, I_pur, Bool.and_self]
    exact outC Try.func59 n59 b59 k59 r59 (Ins.none h) (by simp [L.length]) (ren_nil_rel (by simp only [purL_cons, purL_nil, pur_ag, ld_pur, I_pur, Bool.and_self])) (.v (.tu (.cons (.ag (putL K w xs Z P)) (.cons (I (putE K w xs Z P)) .nil)))) hpu (run59 K w xs Z P (by omega) b3 (by omega) (by omega) (by omega)) lim n hr
  · cases hr
noncomputable def WF (G : FF) : FF := ov 59 (spAII f59) (ov 89 (spA f89) G)
theorem WF_ok (G : FF) (h : FOK Try.prog G) : FOK Try.prog (WF G) := ov_ok ok59 (ov_ok ok89 h)
theorem WF_mono (G : FF) (h : G.mono) : (WF G).mono := ov_mono (spAII_mo _) (ov_mono (spA_mo _) h)
end Go.Proofs.Ytcgkcdgpmopdnaa.Ev
