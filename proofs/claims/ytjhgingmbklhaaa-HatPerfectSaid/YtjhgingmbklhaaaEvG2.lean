/- Rounds of loops over functions: what a yield comes to. -/
import Derived.Test.YtjhgingmbklhaaaEvS
import Derived.RangeFuncLeaves
namespace Go.Proofs.Ytjhgingmbklhaaa.Ev
set_option linter.unusedVariables false
open Go
/-- What is yielded goes into the round's own slots. -/
noncomputable def bindA : List Nat → L → Tr → Tr
  | t :: ps, .cons v l, e => bindA ps l (e.set v (tp t))
  | _, _, e => e
noncomputable def okPs (N : Nat) : List Nat → Bool
  | [] => true
  | t :: l => and (Nat.blt t N) (okPs N l)
theorem getD_setIf (tm : Array Value) (t s : Nat) (v : Value) (ht : t < tm.size) : (tm.setIfInBounds t v).getD s undef = if s = t then v else tm.getD s undef := by
  simp only [Array.getD_eq_getD_getElem?, Array.getElem?_setIfInBounds]
  by_cases h : s = t
  · subst h; simp [ht]
  · rw [if_neg (fun e => h e.symm), if_neg h]
theorem bindA_env {N : Nat} {g : Sig} (hN : N ≤ 4294967295) (hgk : GOK g) : ∀ (ps : List Nat) (as : L) (us : List Value) (e : Tr) (tm : Array Value), as.rel g us → okPs N ps = true → N ≤ tm.size →
    (∀ t, t < 4294967296 → (e.get (tp t)).rel g (tm.getD t undef)) →
    EnvA N g (bindA ps as e) { tmps := (ps.zip us).foldl (fun tm (x : Nat × Value) => tm.setIfInBounds x.1 x.2) tm, defers := [] }
  | [], as, us, e, tm, _, _, h1, h2 => ⟨h1, hgk, by simpa [bindA] using h2⟩
  | t :: ps, .nil, us, e, tm, ha, _, h1, h2 => by
    rw [L.rel] at ha; subst ha
    exact ⟨h1, hgk, h2⟩
  | t :: ps, .cons v l, us, e, tm, ha, ho, h1, h2 => by
    rw [L.rel] at ha
    obtain ⟨u, us', rfl, hu, hl⟩ := ha
    have ho : and (Nat.blt t N) (okPs N ps) = true := ho
    simp only [Bool.and_eq_true, Nat.blt_eq] at ho
    have := bindA_env hN hgk ps l us' (e.set v (tp t)) (tm.setIfInBounds t u) hl ho.2 (by simpa using h1) (fun s hs => by
      rw [Tr.get_set, getD_setIf _ _ _ _ (by omega)]
      by_cases h : s = t
      · subst h; rw [if_pos rfl, if_pos rfl]; exact hu
      · rw [if_neg (fun e => h (tp_inj hs (by omega) e)), if_neg h]; exact h2 s hs)
    exact this
noncomputable def withP (b : Blk) (k : Nat) : Blk := ⟨b.el, b.size, k, b.z, b.m⟩
/-- A loop's block whose state is the one that is asked for. -/
noncomputable def isL (b : Blk) (k : Nat) : Bool := and (Nat.beq b.pr k) (onB (b.m.get .h) (fun t => t) false)
theorem isL_ok {b : Blk} {k : Nat} (h : isL b k = true) : b.pr = k ∧ b.m.get .h = .b true := by
  unfold isL at h
  rw [Bool.and_eq_true, Nat.beq_eq] at h
  refine ⟨h.1, ?_⟩
  have := h.2
  cases hx : b.m.get .h <;> rw [hx] at this <;> simp [onB, V.asB] at this
  rw [this]
/-- The state of a loop is changed. -/
noncomputable def setY (p : Pos) (k k' : Nat) (h : Hp) (go : Hp → Res) : Res := match h.get p with
  | some b => (match b.z with
    | .cons (.lp ..) _ => Bool.rec .no (h.putK (some (withP b k')) p go) (isL b k)
    | _ => .no)
  | none => .no
theorem setY_ok {p : Pos} {k k' : Nat} {h : Hp} {go : Hp → Res} {v : V} {h' : Hp} {n' : Nat} (hr : setY p k k' h go = .ok v h' n') :
    ∃ b N ps x y z, h.get p = some b ∧ b.z = .cons (.lp N ps x y) z ∧ b.pr = k ∧ b.m.get .h = .b true ∧ go (h.put (some (withP b k')) p) = .ok v h' n' := by
  unfold setY at hr
  split at hr
  · rename_i b hb
    split at hr
    · rename_i N ps x y z hz
      cases hi : isL b k with
      | false => rw [hi] at hr; cases hr
      | true =>
        rw [hi] at hr
        have hr : h.putK (some (withP b k')) p go = .ok v h' n' := hr
        rw [Hp.putK_eq] at hr
        obtain ⟨h1, h2⟩ := isL_ok hi
        exact ⟨b, N, ps, x, y, z, hb, hz, h1, h2, hr⟩
    · cases hr
  · cases hr
/-- The world where a loop's state is changed. -/
theorem step_setY {lim n : Nat} {g : Sig} {h : Hp} {w : World} (m : Mem g h.get w) (hd : Dom h.get n) {p : Pos} {r : Nat} (hg : g p = some (r, 1, 0)) (hl : lim ≤ p.num) {b : Blk} (hb : h.get p = some b) {N : Nat} {ps : Array Nat} {x y : Code} {z : L} (hz : b.z = .cons (.lp N ps x y) z) (hm : b.m.get .h = .b true) (k' : Nat)
    (f : Loop → Loop) (hf : ∀ rec, (f rec).params = rec.params ∧ (f rec).assign = rec.assign ∧ (f rec).body = rec.body ∧ (f rec).tmps = rec.tmps) (hs : ∀ rec, loopSt b.pr rec → loopSt k' (f rec)) :
    ∃ rec, w.heap[r]? = some (.loop rec) ∧ loopRel g b rec ∧ Mem g (h.put (some (withP b k')) p).get (w.putObj r (.loop (f rec))) ∧ Fr lim n g h.get w n g (h.put (some (withP b k')) p).get (w.putObj r (.loop (f rec))) := by
  obtain ⟨h0, rec, h1, h2⟩ := loop_of m hb hg hm hz
  have e : (h.put (some (withP b k')) p).get = hput h.get p (some (withP b k')) := by
    funext q
    unfold hput
    rw [Hp.get_put]
  obtain ⟨N', ps', x', y', v0', a1, a2, a3, a4, a5, a6, a9, a7, a8⟩ := h2
  obtain ⟨f1, f2, f3, f4⟩ := hf rec
  refine ⟨rec, h1, ⟨N', ps', x', y', v0', a1, a2, a3, a4, a5, a6, a9, a7, a8⟩, ?_, ?_⟩
  · rw [e]
    exact mem_setLoop (b' := withP b k') m hb hg h0 (rec := f rec) ⟨N', ps', x', y', v0', a1, by rw [f1]; exact a2, by rw [f2]; exact a3, by rw [f3]; exact a4, by rw [f4]; exact a5, a6, by rw [f4]; exact a9, by rw [f4]; exact a7, hs rec a8⟩
  · rw [e]
    exact fr_setMap hd hb hl hg _ _
/-- What a round's body comes to: whether the next round may follow, and in what state the loop is left. -/
noncomputable def bodyY (p : Pos) (r : Rs) : Res := match r with
  | .nor _ h n => setY p 2 0 h fun h' => .ok (.b true) h' n
  | .ret _ h n => setY p 2 1 h fun h' => .ok (.b false) h' n
  | .ext id _ h n => setY p 2 (id + 3) h fun h' => .ok (.b false) h' n
  | .no => .no
/-- One round: what is yielded is assigned; the loop is busy; the body; the loop is ready again, or left. -/
noncomputable def roundY (qa qb : IC) (F : FF) (p : Pos) (e : Tr) (lim : Nat) (h : Hp) (n : Nat) : Res := match evC qa F lim e h n with
  | .nor e1 h1 n1 => setY p 0 2 h1 fun h2 => bodyY p (evC qb F lim e1 h2 n1)
  | _ => .no
noncomputable def evY (cmp : Nat → Code → Option IC) (F : FF) (args : L) (lim : Nat) (h : Hp) (n : Nat) : Res := match args with
  | .cons (.lp 0 _ _ _) (.cons (.yl p) as) => (match h.get p with
    | some b => (match b.z with
      | .cons (.lp N ps x y) (.cons v0 _) => (match cmp N x, cmp N y with
        | some qa, some qb => Bool.rec .no (roundY qa qb F p (bindA ps.toList as ((b.m.toT N).set v0 .h)) lim h n) (and (isL b 0) (and (Nat.ble lim p.num) (and (okPs N ps.toList) (and (Nat.beq as.length ps.toList.length) (and (Nat.ble N 4294967295) (and qa.noR qb.noR))))))
        | _, _ => .no)
      | _ => .no)
    | none => .no)
  | _ => .no
theorem roundPost_mono {P : Program} {l : Nat} {R R' : Ending → World → Prop} (h : ∀ e w, R e w → R' e w) {e : Exit} {a : Act} {w : World} (hp : roundPost P l R e a w) : roundPost P l R' e a w := by
  cases e <;> first | exact hp | (obtain ⟨v, w', h1, h2⟩ := hp; exact ⟨v, w', h1, h _ _ h2⟩)
section
variable {P : Program} (hP : P.follows .mixedOrders = true) {F : FF} (hF : FOK P F) (hM : F.mono) {dr : List Nat}
include hP hF hM
theorem bodyY_sound {N : Nat} {cb : Code} {qb : IC} (hq : compC P dr N cb = some qb) (hnr : qb.noR = true) {p : Pos} {lim : Nat} {e : Tr} {h : Hp} {n : Nat} {v : V} {h' : Hp} {n' : Nat} (hr : bodyY p (evC qb F lim e h n) = .ok v h' n')
    {a : Act} {g : Sig} {w : World} (he : EnvA N g e a) (m : Mem g h.get w) (hd : Dom h.get n) (hf : Fresh g n n') (hn : n' < 9223372036854775808) {r : Nat} (hg : g p = some (r, 1, 0)) (hl : lim ≤ p.num) (hpn : p.num < n) :
    cb.wpIn (Fence.wide.inRound r) 0 P (roundPost P r fun e w' => ∃ u g', e = .returned u ∧ v.rel g' u ∧ Mem g' h'.get w' ∧ Fr lim n g h.get w n' g' h'.get w') a w := by
  have fin : ∀ (k' : Nat) (t : Bool) (jump : Option Code) (h2 : Hp) (n2 : Nat), setY p 2 k' h2 (fun h' => .ok (.b t) h' n2) = .ok v h' n' → t = jump.isNone →
      (∀ rec : Loop, loopSt k' { rec with state := if jump.isNone then .ready else .done, pending := jump }) →
      ∀ (g2 : Sig) (w2 : World), Mem g2 h2.get w2 → Fr lim n g h.get w n2 g2 h2.get w2 →
      ∃ u w', (Instr.endRound r jump).run P w2 = .ok u w' ∧ ∃ u' g', Ending.returned u = .returned u' ∧ v.rel g' u' ∧ Mem g' h'.get w' ∧ Fr lim n g h.get w n' g' h'.get w' := by
    intro k' t jump h2 n2 hs ht hst g2 w2 m2 f2
    obtain ⟨b, N', ps, x, y, z, hb, hz, hpr, hm, hgo⟩ := setY_ok hs
    cases hgo
    have hg2 : g2 p = some (r, 1, 0) := by rw [f2.sig p (.inl hpn)]; exact hg
    obtain ⟨rec, h1, _, m3, f3⟩ := step_setY (lim := lim) (n := n') m2 f2.dom' hg2 hl hb hz hm k' (fun rec : Loop => { rec with state := if jump.isNone then .ready else .done, pending := jump }) (fun _ => ⟨rfl, rfl, rfl, rfl⟩) (fun rec _ => hst rec)
    exact ⟨_, _, run_endRound jump h1, _, g2, rfl, by rw [V.rel, ht], m3, f2.trans f3⟩
  cases hx : evC qb F lim e h n with
  | no => rw [hx] at hr; cases hr
  | nor e2 h2 n2 =>
    rw [hx] at hr
    have hr : setY p 2 0 h2 (fun h' => .ok (.b true) h' n2) = .ok v h' n' := hr
    have hnn : n2 = n' := by obtain ⟨_, _, _, _, _, _, _, _, _, _, hgo⟩ := setY_ok hr; cases hgo; rfl
    subst hnn
    refine wpIn_mono (evC_sound hP hF hM cb qb hq lim e h n _ hx (by simp) a g w he m hd hf hn (some r) (.inr hnr)) ?_
    rintro ex a' w' ⟨rfl, _, g2, he2, m2, f2⟩
    exact fin 0 true none h2 n2 hr rfl (fun rec => ⟨rfl, rfl⟩) g2 w' m2 f2
  | ext id e2 h2 n2 =>
    rw [hx] at hr
    have hr : setY p 2 (id + 3) h2 (fun h' => .ok (.b false) h' n2) = .ok v h' n' := hr
    have hnn : n2 = n' := by obtain ⟨_, _, _, _, _, _, _, _, _, _, hgo⟩ := setY_ok hr; cases hgo; rfl
    subst hnn
    refine wpIn_mono (evC_sound hP hF hM cb qb hq lim e h n _ hx (by simp) a g w he m hd hf hn (some r) (.inr hnr)) ?_
    rintro ex a' w' ⟨rfl, _, g2, he2, m2, f2⟩
    exact fin (id + 3) false (some (.exit id)) h2 n2 hr rfl (fun rec => ⟨rfl, rfl⟩) g2 w' m2 f2
  | ret e2 h2 n2 =>
    rw [hx] at hr
    have hr : setY p 2 1 h2 (fun h' => .ok (.b false) h' n2) = .ok v h' n' := hr
    have hnn : n2 = n' := by obtain ⟨_, _, _, _, _, _, _, _, _, _, hgo⟩ := setY_ok hr; cases hgo; rfl
    subst hnn
    refine wpIn_mono (evC_sound hP hF hM cb qb hq lim e h n _ hx (by simp) a g w he m hd hf hn (some r) (.inr hnr)) ?_
    rintro ex a' w' ⟨rfl, _, g2, he2, m2, f2⟩
    exact fin 1 false (some .ret) h2 n2 hr rfl (fun rec => ⟨rfl, rfl⟩) g2 w' m2 f2
theorem evY_sound {p : Pos} {args : L} {lim : Nat} {h : Hp} {n : Nat} {v : V} {h' : Hp} {n' : Nat} (hr : evY (fun N c => compC P dr N c) F (.cons yM (.cons (.yl p) args)) lim h n = .ok v h' n') : YldOK P p args lim h n v h' n' := by
  intro vs g w r hg ha hgk m hd hf hn
  unfold evY yM at hr
  split at hr
  case h_2 => cases hr
  rename_i heq
  cases heq
  split at hr
  case h_2 => cases hr
  rename_i b hb
  split at hr
  case h_2 => cases hr
  rename_i N ps x y v0 z0 hz
  split at hr
  case h_2 => cases hr
  rename_i qa qb hqa hqb
  cases hc : and (isL b 0) (and (Nat.ble lim p.num) (and (okPs N ps.toList) (and (Nat.beq args.length ps.toList.length) (and (Nat.ble N 4294967295) (and qa.noR qb.noR))))) with
  | false => rw [hc] at hr; cases hr
  | true =>
    rw [hc] at hr
    have hr : roundY qa qb F p (bindA ps.toList args ((b.m.toT N).set v0 .h)) lim h n = .ok v h' n' := hr
    simp only [Bool.and_eq_true, Nat.ble_eq, Nat.beq_eq] at hc
    obtain ⟨c1, hl, c3, c4, c5, c6, c7⟩ := hc
    obtain ⟨hpr, hm⟩ := isL_ok c1
    obtain ⟨h0, rec, h1, N', ps', x', y', v0', a1, a2, a3, a4, a5, a6, a9, a7, a8⟩ := loop_of m hb hg hm hz
    rw [hz] at a1
    cases a1
    have hpn : p.num < n := hd p b hb
    have hlen := L.rel_length ha
    have hy := run_yield (P := P) (w := w) (args := (⟨vs⟩ : Array Value)) h1 (by rw [a2]; show vs.length = ps.size; rw [hlen, c4]; simp)
    have hzip : ((rec.params.zip (⟨vs⟩ : Array Value)).foldl (fun tmps (x : Nat × Value) => tmps.setIfInBounds x.1 x.2) rec.tmps) = (ps.toList.zip vs).foldl (fun tm (x : Nat × Value) => tm.setIfInBounds x.1 x.2) rec.tmps := by
      rw [a2, ← Array.foldl_toList, Array.toList_zip]
    refine ⟨rec.fn, _, rec.assign, rec.body, hy, ?_⟩
    unfold roundY at hr
    split at hr
    case h_2 => cases hr
    rename_i e1 h1' n1 hx
    obtain ⟨b1, N1, ps1, x1, y1, z1, hb1, hz1, hpr1, hm1, hgo⟩ := setY_ok hr
    have hE := bindA_env (g := g) c5 hgk ps.toList args vs ((b.m.toT N).set v0 .h) rec.tmps ha c3 a5 (fun t ht => by
      rw [Tr.get_set]
      by_cases h0 : t = 0
      · subst h0; rw [if_pos (by rfl)]; exact a9
      · rw [if_neg (fun e => h0 (tp_inj ht (by omega) (e.trans (by rfl : Pos.h = tp 0))))]
        rcases toT_get b.m (tp t) N with e1 | e1
        · rw [e1]; trivial
        · rw [e1]; exact a7 t ht (by omega))
    have hg1 : n1 ≤ n' := by
      have hge := evC_ge hM qb lim e1 (h1'.put (some (withP b1 2)) p) n1
      cases hy2 : evC qb F lim e1 (h1'.put (some (withP b1 2)) p) n1 with
      | no => rw [hy2] at hgo; cases hgo
      | nor e2 h2 n2 => rw [hy2] at hgo hge; obtain ⟨_, _, _, _, _, _, _, _, _, _, hgo'⟩ := setY_ok (show setY p 2 0 h2 (fun h' => .ok (.b true) h' n2) = .ok v h' n' from hgo); cases hgo'; exact hge
      | ext id e2 h2 n2 => rw [hy2] at hgo hge; obtain ⟨_, _, _, _, _, _, _, _, _, _, hgo'⟩ := setY_ok (show setY p 2 (id + 3) h2 (fun h' => .ok (.b false) h' n2) = .ok v h' n' from hgo); cases hgo'; exact hge
      | ret e2 h2 n2 => rw [hy2] at hgo hge; obtain ⟨_, _, _, _, _, _, _, _, _, _, hgo'⟩ := setY_ok (show setY p 2 1 h2 (fun h' => .ok (.b false) h' n2) = .ok v h' n' from hgo); cases hgo'; exact hge
    rw [a3, a4]
    refine roundIn_of_wpIn trivial ?_
    have hz2 : (rec.params.zip (⟨vs⟩ : Array Value)).foldl (fun tmps (t, a) => tmps.setIfInBounds t a) rec.tmps = (ps.toList.zip vs).foldl (fun tm (x : Nat × Value) => tm.setIfInBounds x.1 x.2) rec.tmps := hzip
    rw [hz2]
    refine wpIn_mono (evC_sound hP hF hM x qa hqa lim _ h n _ hx (by simp) _ g w hE m hd (hf.sub (Nat.le_refl _) hg1) (by show n1 < _; omega) (some r) (.inr c6)) ?_
    rintro ex a1' w1 ⟨rfl, _, g1, he1, m1, f1⟩
    have hgp : g1 p = some (r, 1, 0) := by rw [f1.sig p (.inl hpn)]; exact hg
    obtain ⟨rec1, q1, q2, m2, f2⟩ := step_setY (lim := lim) (n := n1) m1 f1.dom' hgp hl hb1 hz1 hm1 2 (fun rec : Loop => { rec with state := .busy }) (fun _ => ⟨rfl, rfl, rfl, rfl⟩) (fun rec _ => rfl)
    have hst : rec1.state = .ready := by
      obtain ⟨_, _, _, _, _, _, _, _, _, _, _, _, _, z8⟩ := q2
      rw [hpr1] at z8
      exact z8.1
    refine ⟨_, run_beginRound q1 hst, ?_⟩
    have f12 := f1.trans f2
    refine wpIn_mono (bodyY_sound hP hF hM hqb c7 hgo he1 m2 f2.dom' (f1.fresh hf) hn hgp hl (by have := f1.le; omega)) ?_
    intro e a3 w3 hp3
    refine roundPost_mono ?_ hp3
    rintro e' w4 ⟨u, g', h5, h6, h7, h8⟩
    exact ⟨u, g', h5, h6, h7, f12.trans h8⟩
end
/-! The evaluator with yields. -/
theorem ge_setY {m : Nat} {p : Pos} {k k' : Nat} {h : Hp} {go : Hp → Res} (hg : ∀ h, (go h).ge m) : (setY p k k' h go).ge m := by
  cases hr : setY p k k' h go with
  | no => trivial
  | ok v h' n' =>
    obtain ⟨_, _, _, _, _, _, _, _, _, _, hgo⟩ := setY_ok hr
    have := hg (h.put (some (withP ‹Blk› k')) p)
    rw [hgo] at this
    exact this
theorem ge_bodyY {m : Nat} {p : Pos} : ∀ {r : Rs}, r.ge m → (bodyY p r).ge m
  | .no, _ => trivial
  | .nor .., h => ge_setY fun _ => h
  | .ext .., h => ge_setY fun _ => h
  | .ret .., h => ge_setY fun _ => h
theorem evY_ge {cmp : Nat → Code → Option IC} {F : FF} (hM : F.mono) (args : L) (lim : Nat) (h : Hp) (n : Nat) : (evY cmp F args lim h n).ge n := by
  unfold evY
  split
  · rename_i p as
    split
    · split
      · rename_i b _ _ N ps x y v0 _ _
        split
        · rename_i qa qb _ _
          refine ge_bool ge_no ?_
          unfold roundY
          have h1 := evC_ge hM qa lim (bindA ps.toList as ((b.m.toT N).set v0 .h)) h n
          split
          · rename_i e1 h1' n1 hx
            rw [hx] at h1
            exact ge_setY fun _ => ge_bodyY (Rs.ge_mono h1 (evC_ge hM qb lim _ _ _))
          · trivial
        · trivial
      · trivial
    · trivial
  · trivial
noncomputable def evG (cmp : Nat → Code → Option IC) (PR : FT) (d : Nat) : FF :=
  Nat.rec (motive := fun _ => FF) (fun _ _ _ _ _ => .no) (fun _ ih f args lim h n => Bool.rec (Bool.rec .no (evY cmp ih args lim h n) (Nat.beq f YID)) (Option.rec (motive := fun _ => Res) .no (fun fi => runF fi ih args lim h n) (PR.at (Nat.succ f))) (and (Nat.ble f 4294967294) (Nat.ble args.length 4294967294))) d
theorem evG_mono (cmp : Nat → Code → Option IC) (PR : FT) : ∀ d, (evG cmp PR d).mono
  | 0 => fun _ _ _ _ _ => trivial
  | d + 1 => fun f args lim h n => by
    have hM := evG_mono cmp PR d
    show (Bool.rec (Bool.rec .no (evY cmp (evG cmp PR d) args lim h n) (Nat.beq f YID)) (Option.rec (motive := fun _ => Res) .no (fun fi => runF fi (evG cmp PR d) args lim h n) (PR.at (Nat.succ f))) (and (Nat.ble f 4294967294) (Nat.ble args.length 4294967294)) : Res).ge n
    refine ge_bool (ge_bool ge_no (evY_ge hM ..)) ?_
    cases PR.at (Nat.succ f) with
    | none => trivial
    | some fi =>
      obtain ⟨bar, drop, q, res⟩ := fi
      show (Bool.rec (runB false q res (evG cmp PR d) args lim h n) (Bool.rec .no (runB drop q res (evG cmp PR d) args n h n) (Nat.ble lim n)) bar : Res).ge n
      cases bar
      · exact ge_runB hM _ _ _ _ _ _ _
      · cases Nat.ble lim n
        · trivial
        · exact ge_runB hM _ _ _ _ _ _ _
theorem evY_args {cmp : Nat → Code → Option IC} {F : FF} {args : L} {lim : Nat} {h : Hp} {n : Nat} {v : V} {h' : Hp} {n' : Nat} (hr : evY cmp F args lim h n = .ok v h' n') {g : Sig} {vs : List Value} (ha : args.rel g vs) : False := by
  unfold evY at hr
  split at hr
  · rw [L.rel] at ha
    obtain ⟨u, us, _, h1, _⟩ := ha
    rw [V.rel] at h1
    exact h1.1 rfl
  · cases hr
theorem evG_sound {P : Program} (hP : P.follows .mixedOrders = true) {drs : List Nat} {l : List (Nat × FnI)} (hl : Listed P l) : ∀ d, FOK P (evG (fun N c => compC P drs N c) (FT.of l) d)
  | 0 => ⟨fun f args lim h n v h' n' hr => (by cases hr), fun p args lim h n v h' n' hr => (by cases hr)⟩
  | d + 1 => by
    have ih := evG_sound hP (drs := drs) hl d
    have hM := evG_mono (fun N c => compC P drs N c) (FT.of l) d
    refine ⟨fun f args lim h n v h' n' hr => ?_, fun p args lim h n v h' n' hr => by
      have hr : (Bool.rec (Bool.rec .no (evY (fun N c => compC P drs N c) (evG (fun N c => compC P drs N c) (FT.of l) d) (.cons yM (.cons (.yl p) args)) lim h n) (Nat.beq YID YID)) (Option.rec (motive := fun _ => Res) .no (fun fi => runF fi (evG (fun N c => compC P drs N c) (FT.of l) d) (.cons yM (.cons (.yl p) args)) lim h n) ((FT.of l).at (Nat.succ YID))) (and (Nat.ble YID 4294967294) (Nat.ble (L.cons yM (.cons (.yl p) args)).length 4294967294)) : Res) = .ok v h' n' := hr
      rw [show Nat.ble YID 4294967294 = false by decide, show Nat.beq YID YID = true by decide] at hr
      exact evY_sound hP ih hM hr⟩
    intro vs g w ha hgk m hd hf hn
    have hr : (Bool.rec (Bool.rec .no (evY (fun N c => compC P drs N c) (evG (fun N c => compC P drs N c) (FT.of l) d) args lim h n) (Nat.beq f YID)) (Option.rec (motive := fun _ => Res) .no (fun fi => runF fi (evG (fun N c => compC P drs N c) (FT.of l) d) args lim h n) ((FT.of l).at (Nat.succ f))) (and (Nat.ble f 4294967294) (Nat.ble args.length 4294967294)) : Res) = .ok v h' n' := hr
    cases hb : and (Nat.ble f 4294967294) (Nat.ble args.length 4294967294)
    · rw [hb] at hr
      cases hy : Nat.beq f YID
      · rw [hy] at hr; cases hr
      · rw [hy] at hr
        exact (evY_args hr ha).elim
    · rw [hb] at hr
      simp only [Bool.and_eq_true, Nat.ble_eq] at hb
      cases hat : (FT.of l).at (Nat.succ f) with
      | none => rw [hat] at hr; cases hr
      | some fi =>
        rw [hat] at hr
        have hr : runF fi (evG (fun N c => compC P drs N c) (FT.of l) d) args lim h n = .ok v h' n' := hr
        have hmem := FT.of_mem l (fun x hx => (hl x hx).1) f fi (by omega) hat
        obtain ⟨_, fn, dr, bar, drop, hfn, hcomp⟩ := hl _ hmem
        have hfn : P.funcs[f]? = some fn := hfn
        have hcomp : compF P dr bar drop fn = some fi := hcomp
        unfold compF at hcomp
        split at hcomp
        case h_2 => cases hcomp
        rename_i c hbody
        split at hcomp
        case h_2 => cases hcomp
        rename_i q res hq hres
        split at hcomp
        case isTrue => cases hcomp
        rename_i hname
        cases hcomp
        refine ⟨⟨fn, hfn, by simpa using hname, by rw [hbody]; rfl⟩, ?_⟩
        have hr : (Bool.rec (runB false q res (evG (fun N c => compC P drs N c) (FT.of l) d) args lim h n) (Bool.rec .no (runB drop q res (evG (fun N c => compC P drs N c) (FT.of l) d) args n h n) (Nat.ble lim n)) bar : Res) = .ok v h' n' := hr
        cases bar with
        | false => exact runB_sound hP ih hM hfn hbody hq hres false hr (fun h => by cases h) ha hgk (by omega) m hd hf hn
        | true =>
          cases hlim : Nat.ble lim n
          · rw [hlim] at hr; cases hr
          · rw [hlim] at hr
            rw [Nat.ble_eq] at hlim
            refine (runB_sound hP ih hM hfn hbody hq hres drop hr (fun _ => rfl) ha hgk (by omega) m hd hf hn).mono ?_
            rintro e w' ⟨u, g', h1, h2, h3, h4⟩
            exact ⟨u, g', h1, h2, h3, h4.weak hlim⟩
end Go.Proofs.Ytjhgingmbklhaaa.Ev
