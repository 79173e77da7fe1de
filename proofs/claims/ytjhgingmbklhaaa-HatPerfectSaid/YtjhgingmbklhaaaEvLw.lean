/- From a law's own run to the call. -/
import Derived.Test.YtjhgingmbklhaaaEvSh
namespace Go.Proofs.Ytjhgingmbklhaaa.Ev
set_option linter.unusedVariables false
open Go Go.Proofs Go.RowKit
/-- From a law's own run to the call. -/
theorem lawC {P : Program} {dr : List Nat} {F : FF} {q : IC} {f : Nat} {fn : Func} {c : Code} {res : List RV} {args : L} (hfn : P.funcs[f]? = some fn) (hnm : (fn.name == "runtime.NumGoroutine") = false) (hb : fn.body = some c) (hq : compC P dr fn.ntmps c = some q) (hres : compRVs P fn.results.toList = some res)
    (hal : args.length < 4294967296) (hp : args.pur = true) (j : JQ P dr fn.ntmps F q 256 (Kend res (Good 0 (.v (.b true)))) (bind args 0 .lf) .lf 256) {vs : List Value} (ha : ∀ g, args.rel g vs) (w : World) : Calls P f ⟨vs⟩ w fun e w' => e = .returned (.bool true) ∧ Below w.heap.size w w' := by
  have h0 : ∀ p, (Hp.get p .lf) = none := Hp.get_lf
  have hc := outC hfn hnm hb hq hres (Ins.none .lf) hal (ren_nil_rel hp) (.v (.b true)) rfl j 256 256 (v := .b true) (h' := .lf) (n' := 256) rfl
  refine (hc vs (g0 fun _ => 0) w (ha _) (g0_ok _) ⟨fun p q bp bq _ _ _ _ _ hp => (nomatch (h0 _).symm.trans hp), fun p b hp => (nomatch (h0 _).symm.trans hp)⟩ (fun p b hp => (nomatch (h0 _).symm.trans hp)) (g0_fresh _ _) (by decide)).2.mono ?_
  rintro e w' ⟨u, g', rfl, hv, _, hfr⟩
  rw [V.rel] at hv
  exact ⟨by rw [hv], hfr.os, hfr.tape, hfr.output, hfr.size, fun k hk => hfr.keep k hk fun p b base tot hp => (nomatch (h0 _).symm.trans hp)⟩
/-- A string's bytes. -/
def ofS (s : ByteArray) : List Nat := s.data.toList.map UInt8.toNat
theorem ofS_rel (g : Sig) (s : ByteArray) : (V.s (ofS s)).rel g (.string s) := by
  rw [V.rel]
  have e : (UInt8.ofNat ∘ UInt8.toNat) = id := funext fun x => UInt8.ofNat_toNat
  obtain ⟨⟨l⟩⟩ := s
  show _ = Value.string ⟨⟨(l.map UInt8.toNat).map UInt8.ofNat⟩⟩
  rw [List.map_map, e, List.map_id]
theorem ofS_len (s : ByteArray) : (ofS s).length = s.size := by
  unfold ofS
  rw [List.length_map]; rfl
end Go.Proofs.Ytjhgingmbklhaaa.Ev
