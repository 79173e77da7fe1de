/- The examples of chapter 4, evaluated, where begun fans of seven kinds without a completion are told at once. -/
import Derived.Test.YtcgkcdgpmopdnaaTgK0
import Derived.Test.YtcgkcdgpmopdnaaTgK1
import Derived.Test.YtcgkcdgpmopdnaaTgK2
import Derived.Test.YtcgkcdgpmopdnaaTgK3
namespace Go.Proofs.Ytcgkcdgpmopdnaa.Ev
set_option linter.unusedVariables false
set_option maxRecDepth 100000
open Go Go.Proofs Go.RowKit
theorem yd_all {xs : List Int} (h : deadB xs = true) (el el' : Nat) : yd xs el el' = true := by
  unfold deadB dead at h
  rw [List.any_eq_true] at h
  obtain ⟨ys, hm, e⟩ := h
  obtain rfl := of_decide_eq_true e
  simp only [List.mem_append] at hm
  rcases hm with hm | hm | hm | hm
  · exact List.all_eq_true.1 (congrFun (congrFun kd0 el) el') _ hm
  · exact List.all_eq_true.1 (congrFun (congrFun kd1 el) el') _ hm
  · exact List.all_eq_true.1 (congrFun (congrFun kd2 el) el') _ hm
  · exact List.all_eq_true.1 (congrFun (congrFun kd3 el) el') _ hm
theorem dead_len : (dead.all fun xs => decide (xs.length = 16)) = true := by decide +kernel
theorem ok88 : SOK Try.prog 88 s88 := fun args lim h n v h' n' hr => by
  unfold s88 at hr
  split at hr
  · rename_i p a off
    split at hr
    · rename_i b c ha hp
      split at hr
      · rename_i k w xs hl
        split at hr
        · rename_i hc
          cases hr
          simp only [Bool.and_eq_true, decide_eq_true_eq] at hc
          obtain ⟨hw, hk, hne, hs, hd⟩ := hc
          subst hk hw
          have hx : xs.length = 16 := by
            have hd' := hd
            unfold deadB at hd'
            rw [List.any_eq_true] at hd'
            obtain ⟨ys, hm, e⟩ := hd'
            obtain rfl := of_decide_eq_true e
            exact of_decide_eq_true (List.all_eq_true.1 dead_len _ hm)
          have I1 := Ins.fan (p := p) hne ha hp (Nat.le_of_ble_eq_true hs) hx hl
          exact outC Try.func88 n88 b88 k88 r88 I1 (args0 := .cons (.yl (tp 256)) (.cons (.p (tp 255) 0) .nil)) (by simp [L.length]) (fun g => rel_cons (fun u hu => y_ren (j := 1) (by omega) rfl hu) (rel_cons (fun u hu => p_ren' (j := 0) (by omega) rfl hu) fun _ h => L.pur_rel rfl h)) (.v (.tu .nil)) rfl
            (JQ.finX follows (EK_ok 60) (EK_mono 60) rfl (yd_all hd b.el c.el)) lim n rfl
        · cases hr
      · cases hr
    · cases hr
  · cases hr
noncomputable def WK (G : FF) : FF := ovF 88 s88 (WW G)
theorem WK_ok (G : FF) (h : FOK Try.prog G) : FOK Try.prog (WK G) := ovF_ok ok88 (WW_ok G h)
theorem WK_mono (G : FF) (h : G.mono) : (WK G).mono := ovF_mono s88_mo (WW_mono G h)
noncomputable def EN (d : Nat) : FF := EQ WK d
theorem EN_ok (d : Nat) : FOK Try.prog (EN d) := EQ_ok WK_mono WK_ok d
theorem known_eval : okR (EN 60 4 .nil (gK + 1) .lf (gK + 1)) = true := by kernel_rfl
theorem known_walk (w : World) : Calls Try.prog 4 #[] w fun e w' => e = .returned (.bool true) ∧ Below w.heap.size w w' :=
  ranBF (EN_ok 60) known_eval (vs := []) (fun _ => rfl) w
end Go.Proofs.Ytcgkcdgpmopdnaa.Ev
