/- Regions whose order is open: the walk through any order; and the checks. -/
import Derived.Test.YtjhgingmbklhaaaEvU
namespace Go.Proofs.Ytjhgingmbklhaaa.Ev
set_option linter.unusedVariables false
open Go
variable {Df : List Deferred}

theorem put_getD {N : Nat} {a : Act} {od : Option Nat} {d : Option Pos} (hd : compD N od = some d) (hs : N ≤ a.tmps.size) (u : Value) {t : Nat} (ht : t < 4294967296) :
    (d = some (tp t) → (a.put od u).tmps.getD t undef = u) ∧ (d ≠ some (tp t) → (a.put od u).tmps.getD t undef = a.tmps.getD t undef) := by
  cases od with
  | none => simp only [compD, Option.some.injEq] at hd; subst hd; exact ⟨fun h => by simp at h, fun _ => rfl⟩
  | some s =>
    simp only [compD] at hd
    split at hd
    · rename_i hs2
      cases hd
      refine ⟨fun h => ?_, fun h => ?_⟩
      · have : s = t := tp_inj hs2.2 ht (by simpa using h)
        subst this
        have : s < a.tmps.size := Nat.lt_of_lt_of_le hs2.1 hs
        simp [Act.put, Array.getD, this]
      · have hne : s ≠ t := fun e => h (by rw [e])
        simp [Act.put, Array.getD_eq_getD_getElem?, Array.getElem?_setIfInBounds_ne hne]
    · cases hd

section
variable {P : Program} {N : Nat} {ops : Array Oper} {D : Nat → DO} {F : FF} {lim : Nat} {e0 : Tr} {S : Hp} {v : Nat → V} {d : Nat → Dl} {ns : Nat → Nat}

theorem Inv.next (W : Worked P N ops D F lim e0 S v d ns) {g0 g g' : Sig} {w0 w w' : World} {L : Nat → Prop} {a : Act} (I : Inv N Df ops D lim e0 S v d ns g0 w0 L g a w) {i : Nat} (hi : i < ops.size) (hLi : ¬ L i) (hr : ∀ j, AN D i j → L j) {o : Oper} (ho : ops[i]? = some o)
    {u : Value} (hu : (v i).rel g' u) (hle : g.le g') (hm : Mem g' (hLf d (fun j => L j ∨ j = i) (fun p => S.get p) ops.size) w') (hf : Fr lim (ns 0) g0 (fun p => S.get p) w0 (ns ops.size) g' (hLf d (fun j => L j ∨ j = i) (fun p => S.get p) ops.size) w')
    (hfr : ∀ j, j < ops.size → ¬ L j → j ≠ i → Fresh g' (ns j) (ns (j + 1))) : Inv N Df ops D lim e0 S v d ns g0 w0 (fun j => L j ∨ j = i) g' (a.put o.dst u) w' := by
  have hcd := (W.st.comp i o ho).1
  refine ⟨?_, ?_, I.glo.mono hle, fun k hk hL t ht hdk => ?_, fun t ht hno => ?_, hm, hf, fun j hj hn => hfr j hj (fun h => hn (.inl h)) (fun h => hn (.inr h)), fun k j hL hA => ?_⟩
  · rw [put_defers]; exact I.ds
  · have := I.sz
    cases o.dst <;> simp [Act.put] <;> exact this
  · by_cases e : k = i
    · subst e
      rw [(put_getD hcd I.sz u ht).1 hdk]; exact hu
    · rw [(put_getD hcd I.sz u ht).2 (fun h => W.st.k2 k i hk hi e _ hdk h)]
      exact V.rel_mono hle _ (I.done k hk (hL.resolve_right e) t ht hdk)
  · rw [(put_getD hcd I.sz u ht).2 (hno i hi (.inr rfl))]
    exact V.rel_mono hle _ (I.old t ht fun k hk hL => hno k hk (.inl hL))
  · rcases hL with hL | rfl
    · exact .inl (I.dc k j hL hA)
    · exact .inl (hr j hA)

theorem Inv.go {ro : Option Nat} (hF : FOK P F) (W : Worked P N ops D F lim e0 S v d ns) {g0 g : Sig} {w0 w : World} {L : Nat → Prop} {a : Act} (I : Inv N Df ops D lim e0 S v d ns g0 w0 L g a w) {i : Nat} (hi : i < ops.size) (hLi : ¬ L i) (hr : ∀ j, AN D i j → L j)
    {K : Act → World → Prop} {Q : Exit → Act → World → Prop} (hK : ∀ g' a' w', Inv N Df ops D lim e0 S v d ns g0 w0 (fun j => L j ∨ j = i) g' a' w' → K a' w') : wpOpIn (fw ro) 0 P ops Q i K a w := by
  obtain ⟨o, ho⟩ : ∃ o, ops[i]? = some o := ⟨ops[i], Array.getElem?_eq_getElem hi⟩
  obtain ⟨hcd, hcg, hco⟩ := W.st.comp i o ho
  unfold wpOpIn
  simp only [ho]
  have hE := Inv.env W I hi hLi hr
  obtain ⟨b, hb, hcase⟩ := step_inv (W.step i hi) (W.c1 i hi) (W.c2 i hi) (W.c3 i hi) (W.mono i hi)
  have hle1 := W.le i (by omega) 0 (by omega)
  have hle2 := W.le ops.size (Nat.le_refl _) (i + 1) (by omega)
  have hno : (∀ p, (d i).has p → ∀ j, i < j → j < ops.size → L j → ¬ (d j).has p) := by
    intro p hp j hij hj hLj hpj
    rcases W.touch hi hp with ⟨h1, h2⟩ | ⟨b2, hb2, ⟨x, hx⟩, _⟩
    · exact hLi (W.made I.dc hi h1 h2 j j (Nat.le_refl _) hj hLj hpj)
    · exact W.later I.dc hij hj hLi hLj hpj hb2 hx
  rcases hcase with ⟨p, wn, hgd, hskip, hv, hdl, hns⟩ | ⟨hgd, limi, b', h', hev, hsub, hlim, hT, hW⟩
  · -- not wanted
    rw [hgd] at hcg
    obtain ⟨w1, w2⟩ := wanted_of hE hcg
    have hw : Region.wanted o (yielded ops a.tmps) = false := by
      rcases hskip with ⟨x, hx, hne⟩ | hx
      · rw [w1 x hx]; simpa using hne
      · exact w2 hx
    rw [if_neg (by rw [hw]; simp)]
    have heq : hLf d (fun j => L j ∨ j = i) (fun p => S.get p) ops.size = hLf d L (fun p => S.get p) ops.size := by
      funext p
      exact (hLf_add hi hLi (hno p)).2 (by rw [hdl]; exact fun h => h)
    refine ⟨fun _ _ => trivial, ?_⟩
    refine hK g _ w (Inv.next W I hi hLi hr ho (by rw [hv]; exact ⟨[], rfl, rfl⟩) (Sig.le.refl g) (by rw [heq]; exact I.mem) (by rw [heq]; exact I.fr) fun j hj hn _ => I.fresh j hj hn)
  · -- wanted
    have hw : Region.wanted o (yielded ops a.tmps) = true := by
      rcases hgd with hgd | ⟨p, wn, hgd, hx⟩
      · rw [hgd] at hcg; exact wanted_none hcg
      · rw [hgd] at hcg
        rw [(wanted_of hE hcg).1 wn hx]; simp
    rw [if_pos hw]
    have hthere : ∀ p x, b'.get p = some x → hLf d L (fun p => S.get p) ops.size p = some x := fun p x hx => W.there I.dc hi hLi hr hb (hsub p x hx)
    have hdom : Dom (fun p => b'.get p) (ns i) := fun p x hx => W.base_dom i i (Nat.le_refl _) hi b hb p x (hsub p x hx)
    refine compO_sound hF hco _ _ _ _ _ _ _ hev a g w hE.ok (I.mem.sub hthere) hdom (I.fresh i hi hLi) (W.c3 i hi) ro K Q fun u g' w' hu m' f => ?_
    have hun : ∀ p, (∃ x, b'.get p = some x ∧ h'.get p = some x) → ¬ (d i).has p → hLf d (fun j => L j ∨ j = i) (fun p => S.get p) ops.size p = h'.get p := fun p ⟨x, h1, h2⟩ hn => by
      rw [(hLf_add hi hLi (hno p)).2 hn, hthere p x h1, h2]
    have hst := draw_step (T := fun p => (d i).has p ∨ ∃ x, b'.get p = some x ∧ h'.get p = some x) (hL' := hLf d (fun j => L j ∨ j = i) (fun p => S.get p) ops.size) I.mem I.fr (fun p x hx => W.dom p x hx) hlim hle1 hle2 (I.fresh i hi hLi) m' f hthere (fun p x hx hl => (hW p x hx hl (hdom p x hx)).imp id fun h => ⟨x, hx, h⟩)
      (fun p hp => hp.elim (fun hp => (hT p hp).2.imp id fun h => h.1) fun ⟨x, h1, _⟩ => .inr ⟨x, h1⟩) (fun p hp => by
        by_cases hd : (d i).has p
        · rw [(hLf_add hi hLi (hno p)).1 hd]; exact (hT p hd).1
        · exact hun p (hp.resolve_left hd) hd) (fun p hp => (hLf_add hi hLi (hno p)).2 fun h => hp (.inl h))
      (fun p hp h1 h2 x hx => by
        rcases hLf_some _ hx with h3 | ⟨j, h3, h4, h5⟩
        · have := W.dom p x h3; omega
        · exact hLi (W.made I.dc hi h1 h2 j j (Nat.le_refl _) h3 h4 h5))
    refine hK g' _ w' (Inv.next W I hi hLi hr ho hu (f.gle (I.fresh i hi hLi)) hst.1 hst.2 fun j hj hn hne => ?_)
    intro p h1 h2
    rw [f.sig p ?_]
    · exact I.fresh j hj hn p h1 h2
    · rcases Nat.lt_or_gt_of_ne hne with e | e
      · left; have := W.le i (by omega) (j + 1) (by omega); omega
      · right; have := W.le j (by omega) (i + 1) (by omega); omega

theorem mem_ready {listed : Array Bool} {i : Nat} (h : i ∈ Region.ready .any ops listed) (hs : listed.size = ops.size) : i < ops.size ∧ listed[i]? = some false ∧ ∃ o, ops[i]? = some o ∧ ∀ e ∈ o.after.toList, Region.binds .any e = true → listed.getD e.on false = true := by
  unfold Region.ready at h
  rw [List.mem_filter] at h
  obtain ⟨h1, h2⟩ := h
  rw [List.mem_range] at h1
  rw [Bool.and_eq_true] at h2
  obtain ⟨h3, h4⟩ := h2
  have hlt : i < listed.size := by omega
  refine ⟨h1, ?_, ops[i], Array.getElem?_eq_getElem h1, ?_⟩
  · rw [Array.getElem?_eq_getElem hlt]
    have : listed.getD i true = listed[i] := by simp [Array.getD, hlt]
    rw [this] at h3
    simpa using h3
  · intro e he hb
    rw [Array.getElem?_eq_getElem h1] at h4
    simp only [Option.map_some, Option.getD_some] at h4
    rw [Array.all_eq_true'] at h4
    have := h4 e (by simpa using he)
    simpa [hb] using this

theorem ready_of {listed : Array Bool} {i : Nat} (h1 : i < ops.size) (hs : listed.size = ops.size) (h2 : listed[i]? = some false) {o : Oper} (ho : ops[i]? = some o) (h3 : ∀ e ∈ o.after.toList, Region.binds .any e = true → listed.getD e.on false = true) : i ∈ Region.ready .any ops listed := by
  unfold Region.ready
  rw [List.mem_filter, List.mem_range]
  refine ⟨h1, ?_⟩
  rw [Bool.and_eq_true]
  have hlt : i < listed.size := by omega
  refine ⟨?_, ?_⟩
  · have : listed.getD i true = listed[i] := by simp [Array.getD, hlt]
    rw [this]
    rw [Array.getElem?_eq_getElem hlt] at h2
    simp at h2
    simp [h2]
  · rw [ho]
    simp only [Option.map_some, Option.getD_some]
    rw [Array.all_eq_true']
    intro e he
    by_cases hb : Region.binds .any e = true
    · have := h3 e (by simpa using he) hb
      simp [hb, this]
    · simp at hb
      simp [hb]

theorem LS_getD {listed : Array Bool} {i : Nat} (h : listed.getD i false = true) : LS listed i := by
  unfold LS
  by_cases hlt : i < listed.size
  · rw [Array.getElem?_eq_getElem hlt]
    have : listed.getD i false = listed[i] := by simp [Array.getD, hlt]
    rw [this] at h; rw [h]
  · have : listed.getD i false = false := by simp [Array.getD, hlt]
    rw [this] at h; cases h

theorem an_done (W : Worked P N ops D F lim e0 S v d ns) {L : Nat → Prop} {i : Nat} {o : Oper} (ho : ops[i]? = some o) (hdc : ∀ i j, L i → AN D i j → L j) (h : ∀ e ∈ o.after.toList, Region.binds .any e = true → L e.on) : ∀ j, AN D i j → L j := by
  intro j hA
  obtain ⟨e, he, hb, h1 | h1⟩ := W.st.k1 i o ho j hA
  · rw [← h1]; exact h e he hb
  · exact hdc _ _ (h e he hb) h1

theorem all_listed (W : Worked P N ops D F lim e0 S v d ns) {listed : Array Bool} (hs : listed.size = ops.size) (hr : Region.ready .any ops listed = []) : ∀ k i, i ≤ k → i < ops.size → LS listed i
  | k, i, hk, hi => by
    by_cases h : listed[i]? = some true
    · exact h
    · exfalso
      have hlt : i < listed.size := by omega
      have h2 : listed[i]? = some false := by
        rw [Array.getElem?_eq_getElem hlt] at h ⊢
        cases hx : listed[i] with
        | true => rw [hx] at h; exact absurd rfl h
        | false => rfl
      obtain ⟨o, ho⟩ : ∃ o, ops[i]? = some o := ⟨ops[i], Array.getElem?_eq_getElem hi⟩
      have hm : i ∈ Region.ready .any ops listed := ready_of hi hs h2 ho fun e he hb => by
        have hlt2 := W.st.k5 i o ho e he hb
        have := all_listed W hs hr (i - 1) e.on (by omega) (by omega)
        unfold LS at this
        have hl3 : e.on < listed.size := by omega
        rw [Array.getElem?_eq_getElem hl3] at this
        simp [Array.getD, hl3]
        simpa using this
      rw [hr] at hm
      cases hm
termination_by k i => i

theorem walk_any {ro : Option Nat} (hF : FOK P F) (W : Worked P N ops D F lim e0 S v d ns) {g0 : Sig} {w0 : World} {Q : Exit → Act → World → Prop} (hQ : ∀ g a w, Inv N Df ops D lim e0 S v d ns g0 w0 (fun i => i < ops.size) g a w → Q .normal a w) :
    ∀ (fuel : Nat) (listed : Array Bool) (a : Act) (g : Sig) (w : World), listed.size = ops.size → unl listed.toList ≤ fuel → Inv N Df ops D lim e0 S v d ns g0 w0 (LS listed) g a w → wpAnyIn (fw ro) 0 P .any ops Q fuel listed a w := by
  have fin : ∀ (listed : Array Bool) (a : Act) (g : Sig) (w : World), listed.size = ops.size → (∀ i, i < ops.size → LS listed i) → Inv N Df ops D lim e0 S v d ns g0 w0 (LS listed) g a w → Q .normal a w := by
    intro listed a g w hs hall I
    have e : LS listed = fun i => i < ops.size := by
      funext i
      apply propext
      refine ⟨fun h => ?_, hall i⟩
      unfold LS at h
      have := (Array.getElem?_eq_some_iff.1 h).1
      omega
    exact hQ g a w (e ▸ I)
  intro fuel
  induction fuel with
  | zero =>
    intro listed a g w hs hu I
    have hall : ∀ i, i < ops.size → LS listed i := fun i hi => by
      have := unl_zero listed.toList (by omega) i (by simpa [hs] using hi)
      simpa [LS] using this
    refine ⟨?_, fin listed a g w hs hall I⟩
    rw [List.eq_nil_iff_forall_not_mem]
    intro i hi
    obtain ⟨h1, h2, _⟩ := mem_ready hi hs
    have := hall i h1
    unfold LS at this
    rw [this] at h2; cases h2
  | succ fuel ih =>
    intro listed a g w hs hu I
    refine ⟨fun hr => fin listed a g w hs (fun i hi => all_listed W hs hr i i (Nat.le_refl _) hi) I, fun i hi => ?_⟩
    obtain ⟨h1, h2, o, ho, h3⟩ := mem_ready hi hs
    have hLi : ¬ LS listed i := by unfold LS; rw [h2]; simp
    refine Inv.go hF W I h1 hLi (an_done W ho I.dc fun e he hb => LS_getD (h3 e he hb)) fun g' a' w' I' => ?_
    have hlt : i < listed.size := by omega
    have e : LS (listed.setIfInBounds i true) = fun j => LS listed j ∨ j = i := by
      funext j
      apply propext
      unfold LS
      by_cases hj : j = i
      · subst hj
        simp [hlt]
      · rw [Array.getElem?_setIfInBounds_ne (Ne.symm hj)]
        exact ⟨fun h => .inl h, fun h => h.resolve_right hj⟩
    refine ih _ a' g' w' (by simpa using hs) ?_ (e ▸ I')
    have := unl_set listed.toList i (by simpa using h2)
    simp only [Array.toList_setIfInBounds]
    omega
end
end Go.Proofs.Ytjhgingmbklhaaa.Ev
