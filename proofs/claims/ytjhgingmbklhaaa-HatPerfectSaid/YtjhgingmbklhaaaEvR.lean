/- Code and functions. -/
import Derived.Test.YtjhgingmbklhaaaEvR0
import Derived.Scope
namespace Go.Proofs.Ytjhgingmbklhaaa.Ev
set_option linter.unusedVariables false
open Go

inductive IC where
  | skip | ret | exit (id : Nat) | seq (a b : IC) | cond (x : X) (a b : IC) | block (id : Nat) (b : IC) | loop (b : IC) | reg (l : RL) | draw (l : DR) | rfn (x : X) (N : Nat) (ps : Array Nat) (ca cb : Code) | nope
inductive Rs where
  | no | nor (e : Tr) (h : Hp) (n : Nat) | ext (id : Nat) (e : Tr) (h : Hp) (n : Nat) | ret (e : Tr) (h : Hp) (n : Nat)

noncomputable def rgRs (r : Rg) : Rs := Rg.rec (motive := fun _ => Rs) .no (fun e h n => .nor e h n) r
noncomputable def evSeq (ra rb : FF → Nat → Tr → Hp → Nat → Rs) (F : FF) (lim : Nat) (e : Tr) (h : Hp) (n : Nat) : Rs :=
  Rs.rec (motive := fun _ => Rs) .no (fun e h n => rb F lim e h n) (fun id e h n => .ext id e h n) (fun e h n => .ret e h n) (ra F lim e h n)
noncomputable def evCond (x : X) (ra rb : FF → Nat → Tr → Hp → Nat → Rs) (F : FF) (lim : Nat) (e : Tr) (h : Hp) (n : Nat) : Rs :=
  onB (evX x e) (fun t => Bool.rec (rb F lim e h n) (ra F lim e h n) t) .no
noncomputable def evBlock (id : Nat) (rb : FF → Nat → Tr → Hp → Nat → Rs) (F : FF) (lim : Nat) (e : Tr) (h : Hp) (n : Nat) : Rs :=
  Rs.rec (motive := fun _ => Rs) .no (fun e h n => .nor e h n) (fun i e h n => Bool.rec (.ext i e h n) (.nor e h n) (Nat.beq i id)) (fun e h n => .ret e h n) (rb F lim e h n)
noncomputable def rep (r : Tr → Hp → Nat → Rs) (k : Nat) : Tr → Hp → Nat → Rs :=
  Nat.rec (motive := fun _ => Tr → Hp → Nat → Rs) r (fun _ ih e h n => Rs.rec (motive := fun _ => Rs) .no (fun e h n => ih e h n) (fun id e h n => .ext id e h n) (fun e h n => .ret e h n) (ih e h n)) k
noncomputable def evLoop (rb : FF → Nat → Tr → Hp → Nat → Rs) (F : FF) (lim : Nat) (e : Tr) (h : Hp) (n : Nat) : Rs :=
  Rs.rec (motive := fun _ => Rs) .no (fun _ _ _ => .no) (fun id e h n => .ext id e h n) (fun e h n => .ret e h n) (rep (rb F lim) 20 e h n)
/-- Behind a loop over a function: its block is forgotten; how it was left is what comes next. -/
noncomputable def endRfn (p : Pos) (e : Tr) (r : Res) : Rs := match r with
  | .ok _ h n => (match h.get p with
    | some b => (match b.z with
      | .cons (.lp ..) _ => onB (b.m.get .h) (fun t => Bool.rec .no (h.putK none p fun h' => match b.pr with
          | 0 => .nor e h' n
          | 1 => .ret e h' n
          | 2 => .no
          | k + 3 => .ext k e h' n) t) .no
      | _ => .no)
    | none => .no)
  | .no => .no
noncomputable def evRfn (x : X) (N : Nat) (ps : Array Nat) (ca cb : Code) (F : FF) (lim : Nat) (e : Tr) (h : Hp) (n : Nat) : Rs :=
  onF (evX x e) (fun k a c => Bool.rec .no (posK 63 n fun p => fN (Nat.succ n) fun n' => h.putK (some ⟨0, 0, 0, .cons (.lp N ps ca cb) (.cons (e.get .h) .nil), (e.toB N).set (.b true) .h⟩) p fun h1 => endRfn p e (F k (a.app (.cons (.yl p) c)) lim h1 n')) (and (Nat.ble 1 n) (Nat.ble lim n))) .no
noncomputable def evC : IC → FF → Nat → Tr → Hp → Nat → Rs :=
  IC.rec (motive := fun _ => FF → Nat → Tr → Hp → Nat → Rs) (fun _ _ e h n => .nor e h n) (fun _ _ e h n => .ret e h n) (fun id _ _ e h n => .ext id e h n)
    (fun _ _ ra rb => evSeq ra rb) (fun x _ _ ra rb => evCond x ra rb) (fun id _ rb => evBlock id rb) (fun _ rb => evLoop rb) (fun l F lim e h n => rgRs (evR l F lim e h n)) (fun l F lim e h n => rgRs (evDr l F lim e h n)) (fun x N ps ca cb F lim e h n => evRfn x N ps ca cb F lim e h n) (fun _ _ _ _ _ => .no)
/-- No loop over a function. -/
noncomputable def IC.noR : IC → Bool :=
  IC.rec (motive := fun _ => Bool) true true (fun _ => true) (fun _ _ a b => and a b) (fun _ _ _ a b => and a b) (fun _ _ a => a) (fun _ a => a) (fun _ => true) (fun _ => true) (fun _ _ _ _ _ => false) true

def Rs.ge (n : Nat) : Rs → Prop
  | .no => True
  | .nor _ _ k | .ext _ _ _ k | .ret _ _ k => n ≤ k
theorem Rs.ge_mono {n m : Nat} (h : n ≤ m) : ∀ {r : Rs}, r.ge m → r.ge n
  | .no, _ => trivial
  | .nor .., e => Nat.le_trans h e
  | .ext .., e => Nat.le_trans h e
  | .ret .., e => Nat.le_trans h e
theorem ge_endRfn {m : Nat} (p : Pos) (e : Tr) : ∀ {r : Res}, r.ge m → (endRfn p e r).ge m
  | .no, _ => trivial
  | .ok _ h n, hr => by
    unfold endRfn
    dsimp only
    split
    · rename_i b _
      split
      · cases b.m.get .h <;> dsimp only [onB, V.asB] <;> try trivial
        rename_i t
        cases t
        · trivial
        · show Rs.ge m (h.putK none p fun h' => match b.pr with
            | 0 => Rs.nor e h' n
            | 1 => .ret e h' n
            | 2 => .no
            | k + 3 => .ext k e h' n)
          rw [Hp.putK_eq]
          split <;> first | exact hr | trivial
      · trivial
    · trivial
theorem ge_rgRs {n : Nat} {r : Rg} (h : r.ge n) : (rgRs r).ge n := by cases r <;> exact h
theorem ge_rep {r : Tr → Hp → Nat → Rs} (hr : ∀ e h n, (r e h n).ge n) : ∀ (k : Nat) (e : Tr) (h : Hp) (n : Nat), (rep r k e h n).ge n
  | 0, e, h, n => hr e h n
  | k + 1, e, h, n => by
    have h1 := ge_rep hr k e h n
    show (Rs.rec (motive := fun _ => Rs) .no (fun e h n => rep r k e h n) (fun id e h n => .ext id e h n) (fun e h n => .ret e h n) (rep r k e h n)).ge n
    cases he : rep r k e h n with
    | no => trivial
    | nor e1 h2 n1 => rw [he] at h1; exact Rs.ge_mono h1 (ge_rep hr k e1 h2 n1)
    | ext => rw [he] at h1; exact h1
    | ret => rw [he] at h1; exact h1
theorem evC_ge {F : FF} (hF : F.mono) : ∀ (c : IC) (lim : Nat) (e : Tr) (h : Hp) (n : Nat), (evC c F lim e h n).ge n
  | .skip, _, _, _, n => Nat.le_refl n
  | .ret, _, _, _, n => Nat.le_refl n
  | .exit _, _, _, _, n => Nat.le_refl n
  | .seq a b, lim, e, h, n => by
    have h1 := evC_ge hF a lim e h n
    show (evSeq (evC a) (evC b) F lim e h n).ge n
    unfold evSeq
    cases he : evC a F lim e h n with
    | no => trivial
    | nor e1 h2 n1 => rw [he] at h1; exact Rs.ge_mono h1 (evC_ge hF b lim e1 h2 n1)
    | ext => rw [he] at h1; exact h1
    | ret => rw [he] at h1; exact h1
  | .cond x a b, lim, e, h, n => by
    show (evCond x (evC a) (evC b) F lim e h n).ge n
    unfold evCond
    cases evX x e
    case b t => cases t <;> exact evC_ge hF _ lim e h n
    all_goals trivial
  | .block id b, lim, e, h, n => by
    have h1 := evC_ge hF b lim e h n
    show (evBlock id (evC b) F lim e h n).ge n
    unfold evBlock
    cases he : evC b F lim e h n with
    | no => trivial
    | nor => rw [he] at h1; exact h1
    | ext i e1 h2 n1 =>
      rw [he] at h1
      show (Bool.rec (.ext i e1 h2 n1) (.nor e1 h2 n1) (Nat.beq i id) : Rs).ge n
      cases Nat.beq i id <;> exact h1
    | ret => rw [he] at h1; exact h1
  | .loop b, lim, e, h, n => by
    have h1 := ge_rep (fun e h n => evC_ge hF b lim e h n) 20 e h n
    show (evLoop (evC b) F lim e h n).ge n
    unfold evLoop
    cases he : rep (evC b F lim) 20 e h n with
    | no => trivial
    | nor => trivial
    | ext => rw [he] at h1; exact h1
    | ret => rw [he] at h1; exact h1
  | .nope, _, _, _, _ => trivial
  | .rfn x N ps ca cb, lim, e, h, n => by
    show (evRfn x N ps ca cb F lim e h n).ge n
    unfold evRfn
    cases evX x e <;> dsimp only [onF, V.asF] <;> try trivial
    rename_i k a c
    cases and (Nat.ble 1 n) (Nat.ble lim n)
    · trivial
    · show Rs.ge n (posK 63 n fun p => fN (Nat.succ n) fun n' => h.putK (some ⟨0, 0, 0, .cons (.lp N ps ca cb) (.cons (e.get .h) .nil), (e.toB N).set (.b true) .h⟩) p fun h1 => endRfn p e (F k (a.app (.cons (.yl p) c)) lim h1 n'))
      rw [posK_eq, fN_eq, Hp.putK_eq]
      exact ge_endRfn _ _ (Res.ge_mono (Nat.le_succ n) (hF _ _ _ _ _))
  | .reg l, lim, e, h, n => ge_rgRs (evR_ge hF l lim e h n)
  | .draw l, lim, e, h, n => ge_rgRs (evDr_ge hF l lim e h n)

/-! From code to code. -/
def compC (P : Program) (dr : List Nat) (N : Nat) : Code → Option IC
  | .skip => some .skip
  | .ret => some .ret
  | .exit id => some (.exit id)
  | .seq a b => match compC P dr N a, compC P dr N b with
    | some a, some b => some (.seq a b)
    | _, _ => none
  | .cond x a b => match compX x, compC P dr N a, compC P dr N b with
    | some x, some a, some b => some (.cond x a b)
    | _, _, _ => none
  | .block id b => (compC P dr N b).map (.block id)
  | .loop b => (compC P dr N b).map .loop
  | .region _ ops false => match compR P N ops ops.toList with
    | some r => some (.reg r)
    | none => some .nope
  | .region _ ops true => match compDr P N dr ops with
    | some r => some (.draw r)
    | none => some .nope
  | .scope b => compC P dr N b
  | .label _ => some .skip
  | .rangeFunc o ps x y => match compX o with
    | some z => some (.rfn z N ps x y)
    | none => some .nope
  | _ => some .nope

/-- What a piece of code leaves. -/
def Post (N lim : Nat) (g : Sig) (h : Hp) (w : World) (n : Nat) (a : Act) : Rs → Exit → Act → World → Prop
  | .no, _, _, _ => False
  | .nor e' h' n', ex, a', w' => ex = .normal ∧ MkK w a w' a' ∧ ∃ g', EnvA N g' e' a' ∧ Mem g' h'.get w' ∧ Fr lim n g h.get w n' g' h'.get w'
  | .ext id e' h' n', ex, a', w' => ex = .exit id ∧ MkK w a w' a' ∧ ∃ g', EnvA N g' e' a' ∧ Mem g' h'.get w' ∧ Fr lim n g h.get w n' g' h'.get w'
  | .ret e' h' n', ex, a', w' => ex = .ret ∧ MkK w a w' a' ∧ ∃ g', EnvA N g' e' a' ∧ Mem g' h'.get w' ∧ Fr lim n g h.get w n' g' h'.get w'
def Rs.top : Rs → Nat
  | .no => 0
  | .nor _ _ k | .ext _ _ _ k | .ret _ _ k => k
theorem Post.trans {N lim : Nat} {g g1 : Sig} {h h1 : Hp} {w w1 : World} {n n1 : Nat} {a a1 : Act} (k : MkK w a w1 a1) (f : Fr lim n g h.get w n1 g1 h1.get w1) : ∀ {r : Rs} {ex : Exit} {a' : Act} {w' : World}, Post N lim g1 h1 w1 n1 a1 r ex a' w' → Post N lim g h w n a r ex a' w'
  | .nor .., _, _, _, ⟨x, k', g', y, z, f'⟩ => ⟨x, k.trans k', g', y, z, f.trans f'⟩
  | .ext .., _, _, _, ⟨x, k', g', y, z, f'⟩ => ⟨x, k.trans k', g', y, z, f.trans f'⟩
  | .ret .., _, _, _, ⟨x, k', g', y, z, f'⟩ => ⟨x, k.trans k', g', y, z, f.trans f'⟩

theorem stepR_scope {P : Program} {b : Frame} {a : Act} {k : List Item} {cs : List Frame} {w : World} {c : Code} :
    step P (lone (b.atR a (.code (.scope c) :: k)) cs w) = .next (lone (b.atR a (.code c :: .inScope c :: k)) cs w) :=
  step_lone_go (by simp [stepG, stepG.exec, Frame.atR])
theorem stepR_inScope {P : Program} {b : Frame} {a : Act} {k : List Item} {cs : List Frame} {w : World} {c : Code} :
    step P (lone (b.atR a (.inScope c :: k)) cs w) = .next (lone (b.atR a k) cs w) :=
  step_lone_go (by simp [stepG, stepG.exec, Frame.atR])
theorem wpIn_scope_straight {F : Fence} {n : Nat} {P : Program} {Q : Exit → Act → World → Prop} {a : Act} {w : World} {c : Code} (h : c.wpIn F n P (Exit.noGoto Q) a w) : (Code.scope c).wpIn F n P Q a w := by
  intro b k cs hro hb hr
  have h0 : (lone (b.atR a (.code (.scope c) :: k)) cs w).fenced P F := fenced_calm hb hr rfl
  obtain ⟨e, a₁, w₁, hq, harr⟩ := h b (.inScope c :: k) cs hro hb hr
  cases e with
  | normal => exact ⟨.normal, a₁, w₁, hq, .head h0 stepR_scope (StepsIn.trans harr (.one (fenced_calm hb hr rfl) stepR_inScope))⟩
  | exit id => exact ⟨.exit id, a₁, w₁, hq, fun k' hk => .head h0 stepR_scope (harr.1 k' (by simp [exitTo, hk])), fun hr1 hk => let ⟨k₁, h1, h2⟩ := harr.2 hr1 (by simp [exitTo, hk]); ⟨k₁, h1, .head h0 stepR_scope h2⟩⟩
  | goto l => exact hq.elim
  | ret => exact ⟨_, a₁, w₁, hq, .of_steps (.one h0 stepR_scope) harr⟩
  | panic ch => exact ⟨_, a₁, w₁, hq, .of_steps (.one h0 stepR_scope) harr⟩
  | outgrown => exact ⟨_, a₁, w₁, hq, .of_steps (.one h0 stepR_scope) harr⟩

def Sound (P : Program) (F : FF) (N : Nat) (c : Code) (q : IC) : Prop :=
  ∀ lim e h n r, evC q F lim e h n = r → r ≠ .no → ∀ (a : Act) g w, EnvA N g e a → Mem g h.get w → Dom h.get n → Fresh g n r.top → r.top < 9223372036854775808 → ∀ ro : Option Nat, (ro = none ∨ q.noR = true) → c.wpIn (fw ro) 0 P (Post N lim g h w n a r) a w

theorem endRfn_inv {p : Pos} {e : Tr} {v : V} {h : Hp} {n : Nat} {r : Rs} (hr : endRfn p e (.ok v h n) = r) (hne : r ≠ .no) :
    ∃ b N ps x y z, h.get p = some b ∧ b.z = .cons (.lp N ps x y) z ∧ b.m.get .h = .b true ∧
      ((b.pr = 0 ∧ r = .nor e (h.put none p) n) ∨ (b.pr = 1 ∧ r = .ret e (h.put none p) n) ∨ ∃ k, b.pr = k + 3 ∧ r = .ext k e (h.put none p) n) := by
  unfold endRfn at hr
  dsimp only at hr
  split at hr
  case h_2 => exact absurd hr.symm hne
  rename_i b hb
  split at hr
  case h_2 => exact absurd hr.symm hne
  rename_i N ps x y z hz
  cases hm : b.m.get .h <;> rw [hm] at hr <;> dsimp only [onB, V.asB] at hr <;> try exact absurd hr.symm hne
  rename_i t
  cases t with
  | false => exact absurd hr.symm hne
  | true =>
    have hr : (h.putK none p fun h' => match b.pr with
          | 0 => Rs.nor e h' n
          | 1 => .ret e h' n
          | 2 => .no
          | k + 3 => .ext k e h' n) = r := hr
    rw [Hp.putK_eq] at hr
    refine ⟨b, N, ps, x, y, z, hb, hz, hm, ?_⟩
    split at hr
    · rename_i h1; exact .inl ⟨h1, hr.symm⟩
    · rename_i h1; exact .inr (.inl ⟨h1, hr.symm⟩)
    · exact absurd hr.symm hne
    · rename_i k h1; exact .inr (.inr ⟨k, h1, hr.symm⟩)
theorem rfn_sound {P : Program} {F : FF} (hF : FOK P F) (hM : F.mono) {N : Nat} {o : Operand} {ps : Array Nat} {ca cb : Code} {x : X} (hx : compX o = some x) {lim : Nat} {e : Tr} {h : Hp} {n : Nat} {r : Rs} (hr : evRfn x N ps ca cb F lim e h n = r) (hne : r ≠ .no)
    {a : Act} {g : Sig} {w : World} (he : EnvA N g e a) (m : Mem g h.get w) (hd : Dom h.get n) (hf : Fresh g n r.top) (hn : r.top < 9223372036854775808) : (Code.rangeFunc o ps ca cb).wpIn (fw none) 0 P (Post N lim g h w n a r) a w := by
  have rx := he.ok o x hx
  unfold evRfn at hr
  cases hxv : evX x e <;> rw [hxv] at hr rx <;> dsimp only [onF, V.asF] at hr <;> try exact absurd hr.symm hne
  rename_i k la lc
  rw [V.rel] at rx
  obtain ⟨va, vc, hv, ra, rc⟩ := rx
  cases hb : and (Nat.ble 1 n) (Nat.ble lim n) with
  | false => rw [hb] at hr; exact absurd hr.symm hne
  | true =>
    rw [hb] at hr
    rw [Bool.and_eq_true, Nat.ble_eq, Nat.ble_eq] at hb
    obtain ⟨h1n, hln⟩ := hb
    have hr : posK 63 n (fun p => fN (Nat.succ n) fun n' => h.putK (some ⟨0, 0, 0, .cons (.lp N ps ca cb) (.cons (e.get .h) .nil), (e.toB N).set (.b true) .h⟩) p fun h1 => endRfn p e (F k (la.app (.cons (.yl p) lc)) lim h1 n')) = r := hr
    rw [posK_eq, fN_eq, Hp.putK_eq] at hr
    obtain ⟨p, hp⟩ : ∃ p, p = posF 63 n := ⟨_, rfl⟩
    rw [← hp] at hr
    obtain ⟨B, hB⟩ : ∃ B : Blk, B = ⟨0, 0, 0, .cons (.lp N ps ca cb) (.cons (e.get .h) .nil), (e.toB N).set (.b true) .h⟩ := ⟨_, rfl⟩
    rw [← hB] at hr
    have hge := hM k (la.app (.cons (.yl p) lc)) lim (h.put (some B) p) (Nat.succ n)
    cases hcall : F k (la.app (.cons (.yl p) lc)) lim (h.put (some B) p) (Nat.succ n) with
    | no => rw [hcall] at hr; exact absurd hr.symm hne
    | ok v h2 n2 =>
      rw [hcall] at hr hge
      have hge : n + 1 ≤ n2 := hge
      obtain ⟨b, N', ps', x', y', z', hb2, hz2, hm2, hgo⟩ := endRfn_inv hr hne
      have htop : r.top = n2 := by rcases hgo with ⟨_, e1⟩ | ⟨_, e1⟩ | ⟨_, _, e1⟩ <;> rw [e1] <;> rfl
      rw [htop] at hf hn
      have hnum : p.num = n := by rw [hp]; exact num_posF 63 n h1n (by omega)
      have h0 : g p = none := hf p (by omega) (by omega)
      refine wpIn_rangeFunc fun fn _ => ?_
      obtain ⟨w1, hw1⟩ : ∃ w1, w1 = w.alloc (.deferred (some [])) := ⟨_, rfl⟩
      have hsz : w1.heap.size = w.heap.size + 1 := by rw [hw1]; simp
      obtain ⟨rec, hrec⟩ : ∃ rec : Loop, rec = { state := .ready, pending := none, fn, tmps := a.tmps, params := ps, assign := ca, body := cb, defers := w.heap.size } := ⟨_, rfl⟩
      obtain ⟨W1, hW1⟩ : ∃ W1, W1 = w1.alloc (.loop rec) := ⟨_, rfl⟩
      obtain ⟨G1, hG1⟩ : ∃ G1, G1 = gput g p (w1.heap.size, 1, 0) := ⟨_, rfl⟩
      have hgl : g.le G1 := by rw [hG1]; exact gput_le _ h0
      have hyl : G1 p = some (w1.heap.size, 1, 0) := by rw [hG1]; simp [gput]
      have hL : loopRel G1 B rec := by
        rw [hB, hrec]
        refine ⟨N, ps, ca, cb, e.get .h, rfl, rfl, rfl, rfl, he.sz, ?_, V.rel_mono hgl _ (he.rel 0 (by omega)), fun t ht ht0 => ?_, rfl, rfl⟩
        · show ((e.toB N).set (.b true) .h).get .h = _
          rw [Tb.get_set, if_pos rfl]
        · show V.rel G1 (((e.toB N).set (.b true) .h).get (tp t)) _
          rw [Tb.get_set, if_neg (fun e1 => by have := tp_inj (u := 0) ht (by omega) (e1.trans rfl); omega)]
          rcases toB_get e (tp t) N with e1 | e1
          · rw [e1]; trivial
          · rw [e1]; exact V.rel_mono hgl _ (he.rel t ht)
      have m1 : Mem g h.get w1 := by rw [hw1]; exact mem_other m _
      have mW : Mem G1 (h.put (some B) p).get W1 := by rw [Hp.put_get, hW1, hG1]; exact mem_newLoop m1 h0 (by rw [hB]) (hG1 ▸ hL)
      have f1 : Fr lim n g h.get w n g h.get w1 := by rw [hw1]; exact fr_other hd _
      have fW : Fr lim n g h.get w (n + 1) G1 (h.put (some B) p).get W1 := by rw [Hp.put_get, hW1, hG1]; exact f1.trans (Fr.ofAlloc hd hnum _ _ _ _)
      have hD1 : w1.heap[w.heap.size]? = some (.deferred (some [])) := by rw [hw1]; exact World.alloc_heap_new w _
      have hDW : W1.heap[w.heap.size]? = some (.deferred (some [])) := by rw [hW1, heap_alloc_keep _ _ _ (by omega)]; exact hD1
      have hargs : (la.app (.cons (.yl p) lc)).rel G1 (va ++ (Value.func (.yield w1.heap.size) #[] #[] :: vc)) := by
        refine L.rel_app (L.rel_mono hgl _ ra) ?_
        exact ⟨_, _, rfl, ⟨_, hyl, rfl⟩, L.rel_mono hgl _ rc⟩
      obtain ⟨⟨fnc, hf1, hf2, hf3⟩, hcalls⟩ := hF.1 _ _ _ _ _ _ _ _ hcall _ G1 W1 hargs (he.glo.mono hgl) mW fW.dom' (fW.fresh hf) hn
      have hf3' : fnc.body.isNone = false := by cases hb : fnc.body <;> simp_all
      refine ⟨w1.heap.size, [{ target := .collected w.heap.size, args := #[] }], W1, { target := .fn (.func k) ⟨vc⟩, args := ⟨va⟩ ++ #[.func (.yield w1.heap.size) #[] #[]] }, W1, k,
        ⟨va ++ (Value.func (.yield w1.heap.size) #[] #[] :: vc)⟩, W1, ?_, ?_, fun _ _ => trivial, ?_, fw_depth none 0, callsIn_fw (hcalls.mono ?_)⟩
      · rw [hsz, hW1, hw1, hrec]
        exact run_enterLoop_outer (P := P) (w := w) fn a.tmps ps ca cb
      · have hc : a.eval (.const (.func (.yield w1.heap.size) #[] #[])) = .func (.yield w1.heap.size) #[] #[] := rfl
        simp [resolve, hv, hc, Deferred.ofValue]
      · simp at hf2
        simp [invoke, callFunc, hf1, hf2]
        intro hb
        rw [hb] at hf3; simp at hf3
      · rintro e' w' ⟨u, g', rfl, hu, m', f'⟩
        have hgp : g' p = some (w1.heap.size, 1, 0) := by rw [f'.sig p (.inl (by omega))]; exact hyl
        obtain ⟨_, rec', hr1, hr2⟩ := loop_of m' hb2 hgp hm2 hz2
        have hst : loopSt b.pr rec' := by obtain ⟨_, _, _, _, _, _, _, _, _, _, _, _, _, hst⟩ := hr2; exact hst
        have hbusy : rec'.state ≠ .busy := by
          rcases hgo with ⟨e1, _⟩ | ⟨e1, _⟩ | ⟨_, e1, _⟩ <;> rw [e1] at hst <;> (have := hst.1; rw [this]; simp)
        obtain ⟨w4, hw4⟩ : ∃ w4, w4 = w'.putObj w1.heap.size (.loop { rec' with state := .exhausted }) := ⟨_, rfl⟩
        have m4 : Mem g' (h2.put none p).get w4 := by rw [Hp.put_get, hw4]; exact mem_endLoop m' hb2 hgp _
        have f4 : Fr lim n g h.get w n2 g' (h2.put none p).get w4 := by
          rw [Hp.put_get, hw4]
          exact (fW.trans f').trans (fr_endLoop f'.dom' hb2 hgp (by omega) _)
        have hD4 : w4.heap[w.heap.size]? = some (.deferred (some [])) := by
          rw [hw4, World.putObj_heap_other (by omega), f'.keep _ (Array.getElem?_eq_some_iff.1 hDW).1 ?_]
          · exact hDW
          · intro q c base tot hq _ hgq
            obtain ⟨r', base', tot', cur, c1, c2, _⟩ := mW.blk q c hq
            rw [hgq] at c1
            cases c1
            exact c2.notDef _ hDW
        have hE : EnvA N g' e { a with defers := [{ target := .collected w.heap.size, args := #[] }] ++ a.defers } := by
          have hgl' := f4.gle hf
          exact ⟨he.sz, he.glo.mono hgl', fun t ht => V.rel_mono hgl' _ (he.rel t ht)⟩
        have hK : MkK w a w4 { a with defers := [{ target := .collected w.heap.size, args := #[] }] ++ a.defers } := by
          refine ⟨f4.size, fun s hs hk => ?_⟩
          have hk2 := (mk_keep (a' := a) m f4 rfl).2 s hs hk
          refine ⟨?_, fun d hdm => ?_⟩
          · show (_ :: a.defers).Nodup
            rw [List.nodup_cons]
            refine ⟨fun hin => ?_, hk.1⟩
            obtain ⟨r', k1, k2, k3⟩ := hk.2 _ hin
            have hlt := (Array.getElem?_eq_some_iff.1 k3).1
            cases k2
            omega
          · rcases List.mem_cons.1 (show d ∈ _ :: a.defers from hdm) with rfl | hdm
            · exact ⟨_, hs, rfl, hD4⟩
            · exact hk2.2 d hdm
        refine ⟨rec'.pending, w4, ?_, ?_⟩
        · rw [hw4]; exact run_endLoop hr1 hbusy
        · rcases hgo with ⟨e1, e2⟩ | ⟨e1, e2⟩ | ⟨kk, e1, e2⟩
          · rw [e1] at hst
            rw [hst.2, e2]
            exact ⟨rfl, hK, g', hE, m4, f4⟩
          · rw [e1] at hst
            rw [hst.2, e2]
            exact wpIn_ret ⟨rfl, hK, g', hE, m4, f4⟩
          · rw [e1] at hst
            rw [hst.2, e2]
            exact wpIn_exit ⟨rfl, hK, g', hE, m4, f4⟩

theorem noR_l {a b : Bool} (h : and a b = true) : a = true := by rw [Bool.and_eq_true] at h; exact h.1
theorem noR_r {a b : Bool} (h : and a b = true) : b = true := by rw [Bool.and_eq_true] at h; exact h.2
theorem evC_sound {P : Program} (hP : P.follows .mixedOrders = true) {F : FF} (hF : FOK P F) (hM : F.mono) {dr : List Nat} {N : Nat} : ∀ (c : Code) (q : IC), compC P dr N c = some q → Sound P F N c q
  | .skip, q, hc => by
    simp only [compC, Option.some.injEq] at hc; subst hc
    intro lim e h n r hr hne a g w he m hd hf hn ro hro
    subst hr
    exact wpIn_skip ⟨rfl, MkK.refl, g, he, m, Fr.refl hd⟩
  | .ret, q, hc => by
    simp only [compC, Option.some.injEq] at hc; subst hc
    intro lim e h n r hr hne a g w he m hd hf hn ro hro
    subst hr
    exact wpIn_ret ⟨rfl, MkK.refl, g, he, m, Fr.refl hd⟩
  | .exit id, q, hc => by
    simp only [compC, Option.some.injEq] at hc; subst hc
    intro lim e h n r hr hne a g w he m hd hf hn ro hro
    subst hr
    exact wpIn_exit ⟨rfl, MkK.refl, g, he, m, Fr.refl hd⟩
  | .seq a b, q, hc => by
    simp only [compC] at hc
    split at hc
    case h_2 => cases hc
    rename_i qa qb h1 h2
    cases hc
    intro lim e h n r hr hne ac g w he m hd hf hn ro hro
    have hr : evSeq (evC qa) (evC qb) F lim e h n = r := hr
    unfold evSeq at hr
    refine wpIn_seq ?_
    cases hx : evC qa F lim e h n with
    | no => rw [hx] at hr; exact absurd hr.symm hne
    | nor e1 h1' n1 =>
      rw [hx] at hr
      have hr : evC qb F lim e1 h1' n1 = r := hr
      have hg1 : n ≤ n1 := by have := evC_ge hM qa lim e h n; rw [hx] at this; exact this
      have hg2 : n1 ≤ r.top := by
        have := evC_ge hM qb lim e1 h1' n1; rw [hr] at this
        cases r <;> first | exact absurd rfl hne | exact this
      refine wpIn_mono (evC_sound hP hF hM a qa h1 lim e h n _ hx (by simp) ac g w he m hd (hf.sub (Nat.le_refl _) hg2) (Nat.lt_of_le_of_lt hg2 hn) ro (hro.imp (fun x => x) noR_l)) ?_
      rintro ex a' w' ⟨rfl, k1, g1, he1, m1, f1⟩
      exact wpIn_mono (evC_sound hP hF hM b qb h2 lim e1 h1' n1 r hr hne a' g1 w' he1 m1 f1.dom' (f1.fresh hf) hn ro (hro.imp (fun x => x) noR_r)) fun _ _ _ hp => Post.trans k1 f1 hp
    | ext id e1 h1' n1 =>
      rw [hx] at hr
      have hr : Rs.ext id e1 h1' n1 = r := hr
      subst hr
      refine wpIn_mono (evC_sound hP hF hM a qa h1 lim e h n _ hx (by simp) ac g w he m hd hf hn ro (hro.imp (fun x => x) noR_l)) ?_
      rintro ex a' w' ⟨rfl, hp⟩
      exact ⟨rfl, hp⟩
    | ret e1 h1' n1 =>
      rw [hx] at hr
      have hr : Rs.ret e1 h1' n1 = r := hr
      subst hr
      refine wpIn_mono (evC_sound hP hF hM a qa h1 lim e h n _ hx (by simp) ac g w he m hd hf hn ro (hro.imp (fun x => x) noR_l)) ?_
      rintro ex a' w' ⟨rfl, hp⟩
      exact ⟨rfl, hp⟩
  | .cond x a b, q, hc => by
    simp only [compC] at hc
    split at hc
    case h_2 => cases hc
    rename_i x' qa qb hx h1 h2
    cases hc
    intro lim e h n r hr hne ac g w he m hd hf hn ro hro
    have hr : evCond x' (evC qa) (evC qb) F lim e h n = r := hr
    unfold evCond at hr
    have rx := he.ok x x' hx
    cases hxv : evX x' e <;> rw [hxv] at hr rx <;> dsimp only [onB, V.asB] at hr
    case b t =>
      rw [V.rel] at rx
      cases t
      · exact wpIn_cond_false rx (evC_sound hP hF hM b qb h2 lim e h n r hr hne ac g w he m hd hf hn ro (hro.imp (fun x => x) noR_r))
      · exact wpIn_cond_true rx (evC_sound hP hF hM a qa h1 lim e h n r hr hne ac g w he m hd hf hn ro (hro.imp (fun x => x) noR_l))
    all_goals exact absurd hr.symm hne
  | .block id b, q, hc => by
    simp only [compC, Option.map_eq_some_iff] at hc
    obtain ⟨qb, h1, rfl⟩ := hc
    intro lim e h n r hr hne ac g w he m hd hf hn ro hro
    have hr : evBlock id (evC qb) F lim e h n = r := hr
    unfold evBlock at hr
    refine wpIn_block ?_
    cases hx : evC qb F lim e h n with
    | no => rw [hx] at hr; exact absurd hr.symm hne
    | nor e1 h1' n1 =>
      rw [hx] at hr
      have hr : Rs.nor e1 h1' n1 = r := hr
      subst hr
      refine wpIn_mono (evC_sound hP hF hM b qb h1 lim e h n _ hx (by simp) ac g w he m hd hf hn ro hro) ?_
      rintro ex a' w' ⟨rfl, hp⟩
      exact ⟨rfl, hp⟩
    | ext i e1 h1' n1 =>
      rw [hx] at hr
      have hr : (Bool.rec (.ext i e1 h1' n1) (.nor e1 h1' n1) (Nat.beq i id) : Rs) = r := hr
      cases hb : Nat.beq i id
      · rw [hb] at hr
        have hr : Rs.ext i e1 h1' n1 = r := hr
        subst hr
        refine wpIn_mono (evC_sound hP hF hM b qb h1 lim e h n _ hx (by simp) ac g w he m hd hf hn ro hro) ?_
        rintro ex a' w' ⟨rfl, hp⟩
        have : i ≠ id := by intro e; subst e; simp at hb
        show if i = id then _ else _
        rw [if_neg this]
        exact ⟨rfl, hp⟩
      · rw [hb] at hr
        have hr : Rs.nor e1 h1' n1 = r := hr
        subst hr
        refine wpIn_mono (evC_sound hP hF hM b qb h1 lim e h n _ hx (by simp) ac g w he m hd hf hn ro hro) ?_
        rintro ex a' w' ⟨rfl, hp⟩
        rw [Nat.beq_eq] at hb
        show if i = id then _ else _
        rw [if_pos hb]
        exact ⟨rfl, hp⟩
    | ret e1 h1' n1 =>
      rw [hx] at hr
      have hr : Rs.ret e1 h1' n1 = r := hr
      subst hr
      refine wpIn_mono (evC_sound hP hF hM b qb h1 lim e h n _ hx (by simp) ac g w he m hd hf hn ro hro) ?_
      rintro ex a' w' ⟨rfl, hp⟩
      exact ⟨rfl, hp⟩
  | .loop b, q, hc => by
    simp only [compC, Option.map_eq_some_iff] at hc
    obtain ⟨qb, h1, rfl⟩ := hc
    have ih := evC_sound hP hF hM b qb h1
    intro lim e h n r hr hne ac g w he m hd hf hn ro hro
    have hr : evLoop (evC qb) F lim e h n = r := hr
    unfold evLoop at hr
    intro fb k cs hro' hfb hroom
    -- at the head of the round: what some rounds lead to
    have key : ∀ (j : Nat) (e : Tr) (h : Hp) (n : Nat) (r : Rs), rep (evC qb F lim) j e h n = r → r ≠ .no → ∀ (ac : Act) (g : Sig) (w : World), EnvA N g e ac → Mem g h.get w → Dom h.get n → Fresh g n r.top → r.top < 9223372036854775808 →
        ∃ ex a' w', Post N lim g h w n ac r ex a' w' ∧ (ex = .normal → StepsIn (Machine.fenced P (fw ro)) P (lone (fb.atR ac (.code b :: .inLoop b :: k)) cs w) (lone (fb.atR a' (.code b :: .inLoop b :: k)) cs w')) ∧
          (ex ≠ .normal → ArrivesIn (Machine.fenced P (fw ro)) P (lone (fb.atR ac (.code b :: .inLoop b :: k)) cs w) fb k cs ex a' w') := by
      intro j
      induction j with
      | zero =>
        intro e h n r hr hne ac g w he m hd hf hn
        obtain ⟨ex, a', w', hp, harr⟩ := ih lim e h n r hr hne ac g w he m hd hf hn ro hro fb (.inLoop b :: k) cs hro' hfb hroom
        refine ⟨ex, a', w', hp, fun hx => ?_, fun hx => .pass (x := .inLoop b) rfl (fun _ _ => .inl hx) harr⟩
        subst hx
        exact StepsIn.trans harr (.one (fenced_calm hfb hroom rfl) stepR_inLoop)
      | succ j ihj =>
        intro e h n r hr hne ac g w he m hd hf hn
        have hr : (Rs.rec (motive := fun _ => Rs) .no (fun e h n => rep (evC qb F lim) j e h n) (fun id e h n => .ext id e h n) (fun e h n => .ret e h n) (rep (evC qb F lim) j e h n)) = r := hr
        cases hx : rep (evC qb F lim) j e h n with
        | no => rw [hx] at hr; exact absurd hr.symm hne
        | nor e1 h1' n1 =>
          rw [hx] at hr
          have hr : rep (evC qb F lim) j e1 h1' n1 = r := hr
          have hg2 : n1 ≤ r.top := by
            have := ge_rep (fun e h n => evC_ge hM qb lim e h n) j e1 h1' n1; rw [hr] at this
            cases r <;> first | exact absurd rfl hne | exact this
          obtain ⟨ex, a1, w1, ⟨hex, k1, g1, he1, m1, f1⟩, hs, _⟩ := ihj e h n _ hx (by simp) ac g w he m hd (hf.sub (Nat.le_refl _) hg2) (Nat.lt_of_le_of_lt hg2 hn)
          obtain ⟨ex2, a2, w2, hp2, hs2, ha2⟩ := ihj e1 h1' n1 r hr hne a1 g1 w1 he1 m1 f1.dom' (f1.fresh hf) hn
          exact ⟨ex2, a2, w2, Post.trans k1 f1 hp2, fun hx => (hs hex).trans (hs2 hx), fun hx => .of_steps (hs hex) (ha2 hx)⟩
        | ext id e1 h1' n1 =>
          rw [hx] at hr
          have hr : Rs.ext id e1 h1' n1 = r := hr
          subst hr
          exact ihj e h n _ hx (by simp) ac g w he m hd hf hn
        | ret e1 h1' n1 =>
          rw [hx] at hr
          have hr : Rs.ret e1 h1' n1 = r := hr
          subst hr
          exact ihj e h n _ hx (by simp) ac g w he m hd hf hn
    cases hx : rep (evC qb F lim) 20 e h n with
    | no => rw [hx] at hr; exact absurd hr.symm hne
    | nor => rw [hx] at hr; exact absurd hr.symm hne
    | ext id e1 h1' n1 =>
      rw [hx] at hr
      have hr : Rs.ext id e1 h1' n1 = r := hr
      subst hr
      obtain ⟨ex, a', w', hp, _, ha⟩ := key 20 e h n _ hx (by simp) ac g w he m hd hf hn
      refine ⟨ex, a', w', hp, .of_steps (.one (fenced_calm hfb hroom rfl) stepR_loop) (ha ?_)⟩
      rw [hp.1]; simp
    | ret e1 h1' n1 =>
      rw [hx] at hr
      have hr : Rs.ret e1 h1' n1 = r := hr
      subst hr
      obtain ⟨ex, a', w', hp, _, ha⟩ := key 20 e h n _ hx (by simp) ac g w he m hd hf hn
      refine ⟨ex, a', w', hp, .of_steps (.one (fenced_calm hfb hroom rfl) stepR_loop) (ha ?_)⟩
      rw [hp.1]; simp
  | .region id ops false, q, hc => by
    rw [compC] at hc
    split at hc
    case h_2 => cases hc; intro lim e h n r hr hne; exact absurd hr.symm hne
    rename_i rl h1
    cases hc
    intro lim e h n r hr hne ac g w he m hd hf hn ro hro
    have hr : rgRs (evR rl F lim e h n) = r := hr
    cases hx : evR rl F lim e h n with
    | no => rw [hx] at hr; exact absurd hr.symm hne
    | ok e' h' n' =>
      rw [hx] at hr
      have hr : Rs.nor e' h' n' = r := hr
      subst hr
      exact reg_sound hF hM h1 hx he m hd hf hn
  | .region id ops true, q, hc => by
    rw [compC] at hc
    split at hc
    case h_2 => cases hc; intro lim e h n r hr hne; exact absurd hr.symm hne
    rename_i rl h1
    cases hc
    intro lim e h n r hr hne ac g w he m hd hf hn ro hro
    have hr : rgRs (evDr rl F lim e h n) = r := hr
    cases hx : evDr rl F lim e h n with
    | no => rw [hx] at hr; exact absurd hr.symm hne
    | ok e' h' n' =>
      rw [hx] at hr
      have hr : Rs.nor e' h' n' = r := hr
      subst hr
      exact draw_sound hP hF hM h1 hx he m hd hf hn
  | .rangeFunc o ps x y, q, hc => by
    simp only [compC] at hc
    split at hc
    case h_2 => cases hc; intro lim e h n r hr hne; exact absurd hr.symm hne
    rename_i z hz
    cases hc
    intro lim e h n r hr hne a g w he m hd hf hn ro hro
    have hro := hro.resolve_right (fun hx => by cases (show false = true from hx))
    subst hro
    exact rfn_sound hF hM hz hr hne he m hd hf hn
  | .scope b, q, hc => by
    simp only [compC] at hc
    intro lim e h n r hr hne a g w he m hd hf hn ro hro
    refine wpIn_scope_straight (wpIn_mono (evC_sound hP hF hM b q hc lim e h n r hr hne a g w he m hd hf hn ro hro) ?_)
    intro ex a' w' hp
    cases r with
    | no => exact hp.elim
    | nor => obtain ⟨rfl, hp⟩ := hp; exact ⟨rfl, hp⟩
    | ext => obtain ⟨rfl, hp⟩ := hp; exact ⟨rfl, hp⟩
    | ret => obtain ⟨rfl, hp⟩ := hp; exact ⟨rfl, hp⟩
  | .label _, q, hc => by
    simp only [compC, Option.some.injEq] at hc; subst hc
    intro lim e h n r hr hne a g w he m hd hf hn ro hro
    subst hr
    exact wpIn_label ⟨rfl, MkK.refl, g, he, m, Fr.refl hd⟩
  | .goto _, q, hc => by
    simp only [compC, Option.some.injEq] at hc; subst hc
    intro lim e h n r hr hne; exact absurd hr.symm hne
  | .refuse _, q, hc => by
    simp only [compC, Option.some.injEq] at hc; subst hc
    intro lim e h n r hr hne; exact absurd hr.symm hne
end Go.Proofs.Ytjhgingmbklhaaa.Ev
