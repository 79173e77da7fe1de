/- The evaluator, some functions of which are answered by their contracts. -/
import Derived.Test.YtjhgingmbklhaaaEvG3
import Derived.Test.YtjhgingmbklhaaaEvCt
namespace Go.Proofs.Ytjhgingmbklhaaa.Ev
set_option linter.unusedVariables false
open Go Go.RowKit
noncomputable def stepG (cmp : Nat → Code → Option IC) (PR : FT) (ih : FF) : FF := fun f args lim h n => Bool.rec (Bool.rec .no (evY cmp ih args lim h n) (Nat.beq f YID)) (Option.rec (motive := fun _ => Res) .no (fun fi => runF fi ih args lim h n) (PR.at (Nat.succ f))) (and (Nat.ble f 4294967294) (Nat.ble args.length 4294967294))
theorem stepG_mono (cmp : Nat → Code → Option IC) (PR : FT) {G : FF} (hM : G.mono) : (stepG cmp PR G).mono := fun f args lim h n => by
  show (Bool.rec (Bool.rec .no (evY cmp G args lim h n) (Nat.beq f YID)) (Option.rec (motive := fun _ => Res) .no (fun fi => runF fi G args lim h n) (PR.at (Nat.succ f))) (and (Nat.ble f 4294967294) (Nat.ble args.length 4294967294)) : Res).ge n
  refine ge_bool (ge_bool ge_no (evY_ge hM ..)) ?_
  cases PR.at (Nat.succ f) with
  | none => trivial
  | some fi =>
    obtain ⟨bar, drop, q, res⟩ := fi
    show (Bool.rec (runB false q res G args lim h n) (Bool.rec .no (runB drop q res G args n h n) (Nat.ble lim n)) bar : Res).ge n
    cases bar
    · exact ge_runB hM _ _ _ _ _ _ _
    · cases Nat.ble lim n
      · trivial
      · exact ge_runB hM _ _ _ _ _ _ _
theorem stepG_sound {P : Program} (hP : P.follows .mixedOrders = true) {drs : List Nat} {l : List (Nat × FnI)} (hl : Listed P l) {G : FF} (ih : FOK P G) (hM : G.mono) : FOK P (stepG (fun N c => compC P drs N c) (FT.of l) G) := by
  refine ⟨fun f args lim h n v h' n' hr => ?_, fun p args lim h n v h' n' hr => by
    have hr : (Bool.rec (Bool.rec .no (evY (fun N c => compC P drs N c) G (.cons yM (.cons (.yl p) args)) lim h n) (Nat.beq YID YID)) (Option.rec (motive := fun _ => Res) .no (fun fi => runF fi G (.cons yM (.cons (.yl p) args)) lim h n) ((FT.of l).at (Nat.succ YID))) (and (Nat.ble YID 4294967294) (Nat.ble (L.cons yM (.cons (.yl p) args)).length 4294967294)) : Res) = .ok v h' n' := hr
    rw [show Nat.ble YID 4294967294 = false by decide, show Nat.beq YID YID = true by decide] at hr
    exact evY_sound hP ih hM hr⟩
  intro vs g w ha hgk m hd hf hn
  have hr : (Bool.rec (Bool.rec .no (evY (fun N c => compC P drs N c) G args lim h n) (Nat.beq f YID)) (Option.rec (motive := fun _ => Res) .no (fun fi => runF fi G args lim h n) ((FT.of l).at (Nat.succ f))) (and (Nat.ble f 4294967294) (Nat.ble args.length 4294967294)) : Res) = .ok v h' n' := hr
  cases hb : and (Nat.ble f 4294967294) (Nat.ble args.length 4294967294)
  · rw [hb] at hr
    cases hy : Nat.beq f YID
    · rw [hy] at hr; cases hr
    · rw [hy] at hr
      exact (evY_args hr ha).elim
  · rw [hb] at hr
    simp only [Bool.and_eq_true, Nat.ble_eq] at hb
    cases hat : (FT.of l).at (Nat.succ f) with
    | none => rw [hat] at hr; cases hr
    | some fi =>
      rw [hat] at hr
      have hr : runF fi G args lim h n = .ok v h' n' := hr
      have hmem := FT.of_mem l (fun x hx => (hl x hx).1) f fi (by omega) hat
      obtain ⟨_, fn, dr, bar, drop, hfn, hcomp⟩ := hl _ hmem
      have hfn : P.funcs[f]? = some fn := hfn
      have hcomp : compF P dr bar drop fn = some fi := hcomp
      unfold compF at hcomp
      split at hcomp
      case h_2 => cases hcomp
      rename_i c hbody
      split at hcomp
      case h_2 => cases hcomp
      rename_i q res hq hres
      split at hcomp
      case isTrue => cases hcomp
      rename_i hname
      cases hcomp
      refine ⟨⟨fn, hfn, by simpa using hname, by rw [hbody]; rfl⟩, ?_⟩
      have hr : (Bool.rec (runB false q res G args lim h n) (Bool.rec .no (runB drop q res G args n h n) (Nat.ble lim n)) bar : Res) = .ok v h' n' := hr
      cases bar with
      | false => exact runB_sound hP ih hM hfn hbody hq hres false hr (fun h => by cases h) ha hgk (by omega) m hd hf hn
      | true =>
        cases hlim : Nat.ble lim n
        · rw [hlim] at hr; cases hr
        · rw [hlim] at hr
          rw [Nat.ble_eq] at hlim
          refine (runB_sound hP ih hM hfn hbody hq hres drop hr (fun _ => rfl) ha hgk (by omega) m hd hf hn).mono ?_
          rintro e w' ⟨u, g', h1, h2, h3, h4⟩
          exact ⟨u, g', h1, h2, h3, h4.weak hlim⟩
noncomputable def evGo (cmp : Nat → Code → Option IC) (PR : FT) (W : FF → FF) (d : Nat) : FF := Nat.rec (motive := fun _ => FF) F0 (fun _ ih => W (stepG cmp PR ih)) d
theorem evGo_mono (cmp : Nat → Code → Option IC) (PR : FT) {W : FF → FF} (hW : ∀ G, FF.mono G → (W G).mono) : ∀ d, (evGo cmp PR W d).mono
  | 0 => F0_mono
  | d + 1 => hW _ (stepG_mono cmp PR (evGo_mono cmp PR hW d))
theorem evGo_sound {P : Program} (hP : P.follows .mixedOrders = true) {drs : List Nat} {l : List (Nat × FnI)} (hl : Listed P l) {W : FF → FF} (hM : ∀ G, FF.mono G → (W G).mono) (hW : ∀ G, FOK P G → FOK P (W G)) : ∀ d, FOK P (evGo (fun N c => compC P drs N c) (FT.of l) W d)
  | 0 => F0_ok P
  | d + 1 => hW _ (stepG_sound hP hl (evGo_sound hP hl hM hW d) (evGo_mono _ _ hM d))
end Go.Proofs.Ytjhgingmbklhaaa.Ev
