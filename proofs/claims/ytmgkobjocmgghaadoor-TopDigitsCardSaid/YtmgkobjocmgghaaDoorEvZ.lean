/- A law that first reduces its arguments: the first two pieces of its body are run at each argument, what they leave is cut down to what the rest needs, and the rest is run once for each of the few states. -/
import Derived.Test.YtmgkobjocmgghaaDoorEvX
namespace Go.Proofs.YtmgkobjocmgghaaDoor.Ev
set_option linter.unusedVariables false
open Go Go.RowKit

/-- Forget slots. -/
noncomputable def kill (e : Tr) : List Pos → Tr
  | [] => e
  | p :: ps => kill (e.set .bad p) ps
theorem EnvA.kill {N : Nat} {g : Sig} {a : Act} : ∀ (ps : List Pos) {e : Tr}, EnvA N g e a → EnvA N g (Ev.kill e ps) a
  | [], e, h => h
  | p :: ps, e, h => by
    refine EnvA.kill ps (e := e.set .bad p) ⟨h.ds, h.sz, h.glo, fun t ht => ?_⟩
    rw [Tr.get_set]
    split
    · trivial
    · exact h.rel t ht

noncomputable def tailR (q : IC) (res : List RV) (F : FF) (e : Tr) (h : Hp) (n : Nat) : Res :=
  Rs.rec (motive := fun _ => Res) .no (fun e h' n' => endF false h res e h' n') (fun _ _ _ _ => .no) (fun e h' n' => endF false h res e h' n') (evC q F n e h n)

theorem ranK {P : Program} (hP : P.follows .mixedOrders = true) {l : List (Nat × FnI)} (hl : Listed P l) (tabs : List (Nat × TypeId × L)) {d f : Nat} {fn : Func} {c0 c1 c2 : Code} {q0 q1 q2 : IC} {dr : List Nat} {res : List RV}
    (hfn : P.funcs[f]? = some fn) (hb : fn.body = some (.seq c0 (.seq c1 c2))) (k0 : compC P dr fn.ntmps c0 = some q0) (k1 : compC P dr fn.ntmps c1 = some q1) (k2 : compC P dr fn.ntmps c2 = some q2) (hres : compRVs P fn.results.toList = some res)
    {args : L} (hal : args.length < 4294967296) {e0 e1 : Tr} (ps : List Pos)
    (h0 : evC q0 (evF (FT.of l) d) (gK + 1) (bind args 0 .lf) (tabH tabs) (gK + 1) = .nor e0 (tabH tabs) (gK + 1))
    (h1 : evC q1 (evF (FT.of l) d) (gK + 1) e0 (tabH tabs) (gK + 1) = .nor e1 (tabH tabs) (gK + 1))
    (h2 : okR (tailR q2 res (evF (FT.of l) d) (kill e1 ps) (tabH tabs) (gK + 1)) = true) {vs : List Value} (ha : ∀ g, args.rel g vs) (w : World) (hw : Holds w tabs) :
    Calls P f ⟨vs⟩ w fun e w' => e = .returned (.bool true) ∧ Below w.heap.size w w' := by
  have num : ∀ k, k < gK → (tp k).num = k + 1 := fun k hk => num_posF 63 (k + 1) (by omega) (by unfold gK at hk; omega)
  have hg : ∀ k, k < gK → g0 (tabT tabs) (tp k) = some (k, 0, tabT tabs k) := fun k hk => by
    unfold g0; rw [num k hk, if_pos (by omega)]; simp
  have hF := evF_sound hP hl d
  have hM := evF_mono (FT.of l) d
  have m : Mem (g0 (tabT tabs)) (tabH tabs).get w := by
    refine ⟨fun p q bp bq r b1 t1 b2 t2 hp hq e1 e2 => ?_, fun p b hp => ?_⟩
    · obtain ⟨k, z, h1, rfl, _⟩ := tabH_get tabs hw p bp hp
      obtain ⟨k', z', h1', rfl, _⟩ := tabH_get tabs hw q bq hq
      rw [hg k h1] at e1
      rw [hg k' h1'] at e2
      cases e1; cases e2; rfl
    · obtain ⟨k, z, h1, rfl, h3, h4, h5, h6, vs, h7, h8⟩ := tabH_get tabs hw p b hp
      have hlen : vs.length = z.length := L.rel_length (h8 (fun _ => none))
      have hbs : b.size = z.length := by rw [h3]
      refine ⟨k, 0, tabT tabs k, ⟨vs⟩, hg k h1, h7, by rw [h4]; simpa using hlen, by rw [h4, hbs]; simp, by rw [hbs]; exact h6, fun j hj => ?_⟩
      obtain ⟨u, c1, c2, c3⟩ := cell_list (h8 (g0 (tabT tabs))) h5 b.el j (by rw [← hbs]; exact hj)
      refine ⟨u, by simpa using c1, c2, ?_⟩
      rw [h3]; exact c3
  have hd : Dom (tabH tabs).get (gK + 1) := fun p b hp => by
    obtain ⟨k, z, h1, rfl, _⟩ := tabH_get tabs hw p b hp
    rw [num k h1]; omega
  obtain ⟨h', n', h3, hn⟩ := okR_ok h2
  unfold tailR at h3
  have fin : ∀ (e1 : Tr) (h1 : Hp) (n1 : Nat), endF false (tabH tabs) res e1 h1 n1 = .ok (.b true) h' n' → ∀ (a' : Act) (g1 : Sig) (w' : World), EnvA fn.ntmps g1 e1 a' → Mem g1 h1.get w' → Fr (gK + 1) (gK + 1) (g0 (tabT tabs)) (tabH tabs).get w n1 g1 h1.get w' →
      a'.defers = [] ∧ ∃ u, (results fn a'.tmps).run P w' = .ok u w' ∧ (Ending.returned u = .returned (.bool true) ∧ Below w.heap.size w w') := by
    intro e1 h1 n1 he a' g1 w' hE m1 f1
    obtain ⟨hk, hv, rfl, rfl⟩ := endF_ok he
    obtain ⟨u, r1, r2⟩ := evRes_sound hE m1 hres hk
    rw [← hv] at r2
    have hu : u = .bool true := by simpa [V.rel] using r2
    refine ⟨hE.ds, u, r1, by rw [hu], f1.os, f1.tape, f1.output, f1.size, fun k hk => f1.keep k hk fun p b base tot hp hl => ?_⟩
    obtain ⟨k', z, h1, rfl, _⟩ := tabH_get tabs hw p b hp
    rw [num k' h1] at hl; omega
  refine calls_of_wp hfn hb ?_
  refine wp_seq (wp_mono (evC_sound hP hF hM c0 q0 k0 _ _ _ _ _ h0 (by simp) _ _ w (env_bind (g0_ok _) (ha _) hal fn.ntmps) m hd (g0_fresh _ _) (by show gK + 1 < _; unfold gK; omega)) ?_)
  rintro ex a1 w1 ⟨rfl, g1, hE1, m1, f1⟩
  refine wp_seq (wp_mono (evC_sound hP hF hM c1 q1 k1 _ _ _ _ _ h1 (by simp) a1 g1 w1 hE1 m1 f1.dom' (f1.fresh (g0_fresh _ _)) (by show gK + 1 < _; unfold gK; omega)) ?_)
  rintro ex a2 w2 ⟨rfl, g2, hE2, m2, f2⟩
  have f02 := f1.trans f2
  cases hx : evC q2 (evF (FT.of l) d) (gK + 1) (kill e1 ps) (tabH tabs) (gK + 1) with
  | no => rw [hx] at h3; cases h3
  | ext => rw [hx] at h3; cases h3
  | nor e3 h3' n3 =>
    rw [hx] at h3
    have hr : endF false (tabH tabs) res e3 h3' n3 = .ok (.b true) h' n' := h3
    have hnn : n3 = n' := (endF_ok hr).2.2.2.symm
    refine wp_mono (evC_sound hP hF hM c2 q2 k2 _ _ _ _ _ hx (by simp) a2 g2 w2 (hE2.kill ps) m2 f02.dom' (f02.fresh (g0_fresh _ _)) (hnn ▸ hn)) ?_
    rintro ex a' w' ⟨rfl, g3, hE3, m3, f3⟩
    exact fin e3 h3' n3 hr a' g3 w' hE3 m3 (f02.trans f3)
  | ret e3 h3' n3 =>
    rw [hx] at h3
    have hr : endF false (tabH tabs) res e3 h3' n3 = .ok (.b true) h' n' := h3
    have hnn : n3 = n' := (endF_ok hr).2.2.2.symm
    refine wp_mono (evC_sound hP hF hM c2 q2 k2 _ _ _ _ _ hx (by simp) a2 g2 w2 (hE2.kill ps) m2 f02.dom' (f02.fresh (g0_fresh _ _)) (hnn ▸ hn)) ?_
    rintro ex a' w' ⟨rfl, g3, hE3, m3, f3⟩
    exact fin e3 h3' n3 hr a' g3 w' hE3 m3 (f02.trans f3)
end Go.Proofs.YtmgkobjocmgghaaDoor.Ev
