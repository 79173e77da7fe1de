/- The evaluator's operations that only compute, and that the model answers so. -/
import Derived.Test.YtjhgingmbklhaaaEvC
import Derived.Laws.Small
namespace Go.Proofs.Ytjhgingmbklhaaa.Ev
set_option linter.unusedVariables false
open Go

inductive X where
  | t (p : Pos) | c (v : V)
inductive XL where
  | nil | cons (x : X) (l : XL)
inductive PL where
  | nil | cons (off sz : Nat) (x : X) (l : PL)

noncomputable def evX (x : X) (e : Tr) : V := X.rec (motive := fun _ => Tr → V) (fun p e => e.get p) (fun v _ => v) x e
noncomputable def evXL (l : XL) (e : Tr) : L := XL.rec (motive := fun _ => Tr → L) (fun _ => .nil) (fun x _ ih e => .cons (evX x e) (ih e)) l e

inductive Res where
  | no | ok (v : V) (h : Hp) (n : Nat)

mutual
def ofVal : Value → Option V
  | .int k z => match k, z with
    | .i64, .ofNat a => if a < 9223372036854775808 then some (.n a) else none
    | k, z => some (.i k z)
  | .bool b => some (.b b)
  | .pointer none => some .np
  | .slice none 0 0 => some .ns
  | .nilFunc => some .nf
  | .nilIface => some .nif
  | .map none => some .nm
  | .string s => some (.s (s.data.toList.map UInt8.toNat))
  | .agg ⟨vs⟩ => (ofVals vs).map .ag
  | .tuple ⟨vs⟩ => (ofVals vs).map .tu
  | _ => none
def ofVals : List Value → Option L
  | [] => some .nil
  | v :: vs => match ofVal v, ofVals vs with
    | some x, some l => some (.cons x l)
    | _, _ => none
end
mutual
theorem ofVal_rel (g : Sig) : ∀ (u : Value) {v : V}, ofVal u = some v → v.rel g u
  | .int k z, v, h => by
    rw [ofVal.eq_def] at h
    simp only at h
    split at h
    · split at h
      · rename_i hz; cases h; rw [V.rel]; exact ⟨rfl, hz⟩
      · cases h
    · cases h; rw [V.rel]
  | .bool b, v, h => by simp [ofVal] at h; subst h; rfl
  | .pointer none, v, h => by simp [ofVal] at h; subst h; rfl
  | .pointer (some a), v, h => by simp [ofVal] at h
  | .slice none 0 0, v, h => by simp [ofVal] at h; subst h; rfl
  | .slice none 0 (c + 1), v, h => by simp [ofVal] at h
  | .slice none (n + 1) c, v, h => by simp [ofVal] at h
  | .slice (some a) n c, v, h => by simp [ofVal] at h
  | .nilFunc, v, h => by simp [ofVal] at h; subst h; rfl
  | .nilIface, v, h => by simp [ofVal] at h; subst h; rfl
  | .map none, v, h => by simp [ofVal] at h; subst h; rfl
  | .map (some r), v, h => by simp [ofVal] at h
  | .string s, v, h => by
    simp [ofVal] at h; subst h
    rw [V.rel]
    have e : (UInt8.ofNat ∘ UInt8.toNat) = id := by funext x; simp
    obtain ⟨⟨l⟩⟩ := s
    simp [e]
  | .agg ⟨vs⟩, v, h => by
    simp only [ofVal, Option.map_eq_some_iff] at h
    obtain ⟨l, hl, rfl⟩ := h
    rw [V.rel]; exact ⟨vs, rfl, ofVals_rel g vs hl⟩
  | .tuple ⟨vs⟩, v, h => by
    simp only [ofVal, Option.map_eq_some_iff] at h
    obtain ⟨l, hl, rfl⟩ := h
    rw [V.rel]; exact ⟨vs, rfl, ofVals_rel g vs hl⟩
  | .float .., v, h => by simp [ofVal] at h
  | .complex .., v, h => by simp [ofVal] at h
  | .chan _, v, h => by simp [ofVal] at h
  | .func .., v, h => by simp [ofVal] at h
  | .iface .., v, h => by simp [ofVal] at h
theorem ofVals_rel (g : Sig) : ∀ (us : List Value) {l : L}, ofVals us = some l → l.rel g us
  | [], l, h => by simp [ofVals] at h; subst h; rfl
  | u :: us, l, h => by
    rw [ofVals] at h
    split at h
    · rename_i x l' h1 h2
      cases h
      exact ⟨u, us, rfl, ofVal_rel g u h1, ofVals_rel g us h2⟩
    · cases h
end

/-- So many package-level variables have places of their own, the first ones. -/
def gK : Nat := 255
def compX : Operand → Option X
  | .tmp t => if t < 4294967296 then some (.t (posF 63 (t + 1))) else none
  | .const v => (ofVal v).map .c
  | .func f => some (.c (.fn f .nil .nil))
  | .global k => if k < gK then some (.c (.p (posF 63 (k + 1)) 0)) else none
def compXL : List Operand → Option XL
  | [] => some .nil
  | o :: l => match compX o, compXL l with
    | some x, some m => some (.cons x m)
    | _, _ => none

def GOK (g : Sig) : Prop := ∀ k, k < gK → ∃ tot, g (posF 63 (k + 1)) = some (k, 0, tot)
def EnvOK (g : Sig) (e : Tr) (ρ : Operand → Value) : Prop := ∀ o x, compX o = some x → (evX x e).rel g (ρ o)

theorem EnvOK.gok {g : Sig} {e : Tr} {ρ : Operand → Value} (h : EnvOK g e ρ) (hg : ∀ k, ρ (.global k) = .pointer (some ⟨k, 0, none⟩)) : GOK g := by
  intro k hk
  have := h (.global k) (.c (.p (posF 63 (k + 1)) 0)) (by simp [compX, hk])
  have this : V.rel g (.p (posF 63 (k + 1)) 0) (ρ (.global k)) := this
  rw [V.rel, hg k] at this
  obtain ⟨r, base, tot, h1, h2⟩ := this
  simp at h2
  obtain ⟨rfl, rfl⟩ : k = r ∧ base = 0 := ⟨h2.1, by omega⟩
  exact ⟨tot, h1⟩
theorem GOK.mono {g h : Sig} (hg : GOK g) (hl : g.le h) : GOK h := fun k hk => let ⟨tot, e⟩ := hg k hk; ⟨tot, hl _ _ e⟩
theorem GOK.rel {g : Sig} (h : GOK g) {k : Nat} (hk : k < gK) : V.rel g (.p (posF 63 (k + 1)) 0) (.pointer (some ⟨k, 0, none⟩)) := by
  obtain ⟨tot, e⟩ := h k hk
  rw [V.rel]; exact ⟨k, 0, tot, e, rfl⟩
theorem evXL_rel {g : Sig} {e : Tr} {ρ : Operand → Value} (he : EnvOK g e ρ) : ∀ (l : List Operand) {m : XL}, compXL l = some m → (evXL m e).rel g (l.map ρ)
  | [], m, h => by simp [compXL] at h; subst h; rfl
  | o :: l, m, h => by
    rw [compXL] at h
    split at h
    · rename_i x m' h1 h2
      cases h
      exact ⟨_, _, rfl, he o x h1, evXL_rel he l h2⟩
    · cases h

def NX (g : Sig) (v : V) : Next → Prop
  | .value u => v.rel g u
  | .skip => v.rel g undef
  | _ => False

def OpOK (P : Program) (o : Oper) (ev : Tr → Nat → Hp → Nat → Res) : Prop :=
  ∀ e lim h n v h' n', ev e lim h n = .ok v h' n' → ∀ (ρ : Operand → Value) g w, EnvOK g e ρ → Mem g h.get w → Dom h.get n → Fresh g n n' → n' < 9223372036854775808 →
    ∃ nx g' w', (execOp ρ o).run P w = .ok nx w' ∧ NX g' v nx ∧ Mem g' h'.get w' ∧ Fr lim n g h.get w n' g' h'.get w'

noncomputable def pv : V → Hp → Nat → Res := V.rec (motive_1 := fun _ => Hp → Nat → Res) (motive_2 := fun _ => Unit) (fun _ _ => .no) (fun x0 h n => .ok (.n x0) h n) (fun x0 x1 h n => .ok (.i x0 x1) h n) (fun x0 h n => .ok (.b x0) h n) (fun x0 x1 h n => .ok (.p x0 x1) h n) (fun h n => .ok (.np) h n) (fun x0 x1 x2 x3 x4 h n => .ok (.sl x0 x1 x2 x3 x4) h n) (fun h n => .ok (.ns) h n) (fun x0 _ h n => .ok (.ag x0) h n) (fun x0 _ h n => .ok (.tu x0) h n) (fun x0 x1 x2 _ _ h n => .ok (.fn x0 x1 x2) h n) (fun h n => .ok (.nf) h n) (fun x0 h n => .ok (.s x0) h n) (fun x0 x1 _ h n => .ok (.ifc x0 x1) h n) (fun h n => .ok (.nif) h n) (fun x0 h n => .ok (.mp x0) h n) (fun h n => .ok (.nm) h n) (fun x0 h n => .ok (.yl x0) h n) (fun _ _ _ _ _ _ => .no) () (fun _ _ _ _ => ())
theorem pv_ok {v v' : V} {h h' : Hp} {n n' : Nat} (e : pv v h n = .ok v' h' n') : v ≠ .bad ∧ v' = v ∧ h' = h ∧ n' = n := by
  cases v
  case bad => cases e
  case lp => cases e
  all_goals
    have e : Res.ok _ h n = .ok v' h' n' := e
    cases e; exact ⟨by simp, rfl, rfl, rfl⟩

theorem ok_pure {P : Program} {o : Oper} {val : Tr → V} (hp : ∀ e g (ρ : Operand → Value) w, EnvOK g e ρ → val e ≠ .bad → ∃ u, (execOp ρ o).run P w = .ok (.value u) w ∧ (val e).rel g u) :
    OpOK P o (fun e _ h n => pv (val e) h n) := by
  intro e lim h n v h' n' hr ρ g w he m hd _ _
  obtain ⟨hne, rfl, rfl, rfl⟩ := pv_ok hr
  obtain ⟨u, h1, h2⟩ := hp e g ρ w he hne
  exact ⟨.value u, g, w, h1, h2, m, Fr.refl hd⟩

section
variable {P : Program} {o : Oper}

noncomputable def evMv (x : X) (e : Tr) (_ : Nat) (h : Hp) (n : Nat) : Res := .ok (evX x e) h n
theorem ok_mv {ox : Operand} {x : X} (hx : compX ox = some x) (ho : o.op = .move ox ∨ o.op = .assign ox) : OpOK P o (evMv x) := by
  intro e lim h n v h' n' hr ρ g w he m hd _ _
  cases hr
  refine ⟨.value (ρ ox), g, w, ?_, he ox x hx, m, Fr.refl hd⟩
  rcases ho with ho | ho <;> simp [execOp, ho]

noncomputable def evPick (c a b : X) (e : Tr) (_ : Nat) (h : Hp) (n : Nat) : Res := pv (onB (evX c e) (fun t => Bool.rec (evX b e) (evX a e) t) .bad) h n
theorem ok_pick {oc oa ob : Operand} {c a b : X} (hc : compX oc = some c) (ha : compX oa = some a) (hb : compX ob = some b) (ho : o.op = .pick oc oa ob) : OpOK P o (evPick c a b) :=
  ok_pure (val := fun e => onB (evX c e) (fun t => Bool.rec (evX b e) (evX a e) t) .bad) fun e g ρ w he hne => by
    have rc := he oc c hc
    rcases onB_or (evX c e) (fun t => (Bool.rec (evX b e) (evX a e) t : V)) .bad with ⟨t, h1, h2⟩ | h2
    · rw [h2]
      rw [h1, V.rel] at rc
      cases t
      · exact ⟨ρ ob, by simp [execOp, ho, rc, asBool], he ob b hb⟩
      · exact ⟨ρ oa, by simp [execOp, ho, rc, asBool], he oa a ha⟩
    · rw [h2] at hne; exact absurd rfl hne

noncomputable def evBin (op : BinOp) (x y : X) (e : Tr) (_ : Nat) (h : Hp) (n : Nat) : Res := pv (binV op (evX x e) (evX y e)) h n
theorem ok_bin {op : BinOp} {t t' : TypeId} {ox oy : Operand} {x y : X} (hx : compX ox = some x) (hy : compX oy = some y) (ho : o.op = .binOp op t ox oy t') : OpOK P o (evBin op x y) :=
  ok_pure (val := fun e => binV op (evX x e) (evX y e)) fun e g ρ w he hne => by
    obtain ⟨u, h1, h2, h3⟩ := binV_sound P w g op t ox oy (he ox x hx) (he oy y hy) hne
    exact ⟨u, by simp [execOp, ho, h1, h2], h3⟩

noncomputable def eqbV (neg : Bool) (x y : V) : V := onB x (fun a => onB y (fun b => Bool.rec (Bool.rec (.b true) (.b false) (xor a b)) (Bool.rec (.b false) (.b true) (xor a b)) neg) .bad) .bad
noncomputable def evEqb (neg : Bool) (x y : X) (e : Tr) (_ : Nat) (h : Hp) (n : Nat) : Res := pv (eqbV neg (evX x e) (evX y e)) h n
theorem run_eqb (neg : Bool) (t : TypeId) (ht : P.underlying t = some .bool) (ox oy : Operand) (a b : Bool) (w : World) :
    (eqGuard (if neg then .neq else .eql) t ox oy (.bool a) (.bool b)).run P w = .ok () w ∧ (binOp (if neg then .neq else .eql) t (.bool a) (.bool b)).run P w = .ok (.bool (if neg then xor a b else !xor a b)) w := by
  refine ⟨by rw [eqGuard_at_bool]; rfl, ?_⟩
  cases neg
  · rw [if_neg (by simp), if_neg (by simp), run_eql_bool _ t a b ht]
    cases a <;> cases b <;> rfl
  · rw [if_pos rfl, if_pos rfl, run_neq_bool _ t a b ht]
    cases a <;> cases b <;> rfl
theorem ok_eqb {neg : Bool} {t t' : TypeId} {ox oy : Operand} {x y : X} (hx : compX ox = some x) (hy : compX oy = some y) (ht : P.underlying t = some .bool) (ho : o.op = .binOp (if neg then .neq else .eql) t ox oy t') : OpOK P o (evEqb neg x y) :=
  ok_pure (val := fun e => eqbV neg (evX x e) (evX y e)) fun e g ρ w he hne => by
    have rx := he ox x hx
    have ry := he oy y hy
    unfold eqbV at hne ⊢
    rcases onB_or (evX x e) (fun a => onB (evX y e) (fun b => (Bool.rec (Bool.rec (.b true) (.b false) (xor a b)) (Bool.rec (.b false) (.b true) (xor a b)) neg : V)) .bad) .bad with ⟨a, h1, h2⟩ | h2
    · rw [h2] at hne ⊢
      rcases onB_or (evX y e) (fun b => (Bool.rec (Bool.rec (.b true) (.b false) (xor a b)) (Bool.rec (.b false) (.b true) (xor a b)) neg : V)) .bad with ⟨b, h3, h4⟩ | h4
      · rw [h4]
        rw [h1, V.rel] at rx
        rw [h3, V.rel] at ry
        obtain ⟨r1, r2⟩ := run_eqb (P := P) neg t ht ox oy a b w
        refine ⟨_, by simp [execOp, ho, rx, ry, r1, r2]; rfl, ?_⟩
        cases neg <;> cases a <;> cases b <;> rfl
      · rw [h4] at hne; exact absurd rfl hne
    · rw [h2] at hne; exact absurd rfl hne

noncomputable def evNot (x : X) (e : Tr) (_ : Nat) (h : Hp) (n : Nat) : Res := pv (onB (evX x e) (fun t => Bool.rec (.b true) (.b false) t) .bad) h n
theorem ok_not {t : TypeId} {ox : Operand} {x : X} (hx : compX ox = some x) (ho : o.op = .unOp .not t ox) : OpOK P o (evNot x) :=
  ok_pure (val := fun e => onB (evX x e) (fun t => Bool.rec (.b true) (.b false) t) .bad) fun e g ρ w he hne => by
    have rx := he ox x hx
    rcases onB_or (evX x e) (fun t => (Bool.rec (.b true) (.b false) t : V)) .bad with ⟨a, h1, h2⟩ | h2
    · rw [h2]
      rw [h1, V.rel] at rx
      exact ⟨.bool !a, by simp [execOp, ho, rx, Op.unary], by cases a <;> rfl⟩
    · rw [h2] at hne; exact absurd rfl hne

noncomputable def evNeg (x : X) (e : Tr) (_ : Nat) (h : Hp) (n : Nat) : Res := pv (onK (evX x e) (fun k z => mkI k (k.wrap (0 - z))) .bad) h n
theorem ok_neg {t : TypeId} {ox : Operand} {x : X} (hx : compX ox = some x) (ho : o.op = .unOp .neg t ox) : OpOK P o (evNeg x) :=
  ok_pure (val := fun e => onK (evX x e) (fun k z => mkI k (k.wrap (0 - z))) .bad) fun e g ρ w he hne => by
    have rx := he ox x hx
    rcases onK_or rx (fun k z => mkI k (k.wrap (0 - z))) .bad with ⟨k, z, h1, h2⟩ | h2
    · rw [h2]
      exact ⟨.int k (k.wrap (0 - z)), by simp only [execOp, ho, h1, Op.unary, Op.intArith]; rfl, mkI_rel g _ _⟩
    · rw [h2] at hne; exact absurd rfl hne

noncomputable def evConv (k : IntKind) (x : X) (e : Tr) (_ : Nat) (h : Hp) (n : Nat) : Res := pv (onK (evX x e) (fun _ z => mkI k (k.wrap z)) .bad) h n
theorem ok_conv {s d : TypeId} {k : IntKind} {ox : Operand} {x : X} (hx : compX ox = some x) (hs : (P.underlying s).isSome = true) (hd : P.underlying d = some (.int k)) (ho : o.op = .convert s d ox) : OpOK P o (evConv k x) :=
  ok_pure (val := fun e => onK (evX x e) (fun _ z => mkI k (k.wrap z)) .bad) fun e g ρ w he hne => by
    have rx := he ox x hx
    rcases onK_or rx (fun _ z => mkI k (k.wrap z)) .bad with ⟨k', z, h1, h2⟩ | h2
    · rw [h2]
      obtain ⟨d', hd'⟩ := Option.isSome_iff_exists.mp hs
      exact ⟨.int k (k.wrap z), by simp [execOp, ho, h1, convert, run_underlying hd', run_underlying hd, Conv.intToInt], mkI_rel g _ _⟩
    · rw [h2] at hne; exact absurd rfl hne

theorem L.get_lt {g : Sig} {l : L} {vs : List Value} (hr : l.rel g vs) {i : Nat} (hne : l.get i ≠ .bad) : i < vs.length := by
  rw [L.rel_length hr]
  clear hr
  induction l using L.rec (motive_1 := fun _ => True) generalizing i with
  | nil => exact absurd rfl hne
  | cons v l _ ih => cases i with
    | zero => simp [L.length]
    | succ i => have := ih (i := i) hne; simp [L.length]; omega
  | _ => trivial

noncomputable def evExt (i : Nat) (x : X) (e : Tr) (_ : Nat) (h : Hp) (n : Nat) : Res := pv (onT (evX x e) (fun l => nthL i l) .bad) h n
theorem ok_ext {i : Nat} {ox : Operand} {x : X} (hx : compX ox = some x) (ho : o.op = .extract ox i) : OpOK P o (evExt i x) :=
  ok_pure (val := fun e => onT (evX x e) (fun l => nthL i l) .bad) fun e g ρ w he hne => by
    have rx := he ox x hx
    rcases onT_or (evX x e) (fun l => nthL i l) .bad with ⟨l, h1, h2⟩ | h2
    · rw [h2] at hne ⊢
      rw [h1, V.rel] at rx
      obtain ⟨vs, hv, hr⟩ := rx
      rw [nthL_eq] at hne ⊢
      have hlt := L.get_lt hr hne
      have hg := L.rel_get i hr
      refine ⟨vs.getD i undef, ?_, hg⟩
      simp [execOp, ho, hv, Instr.extract, List.getElem?_eq_getElem hlt, List.getD]
    · rw [h2] at hne; exact absurd rfl hne

noncomputable def evMkf (f : Nat) (a c : XL) (e : Tr) (_ : Nat) (h : Hp) (n : Nat) : Res := .ok (.fn f (evXL a e) (evXL c e)) h n
theorem ok_mkf {f : Nat} {oa oc : Array Operand} {a c : XL} (ha : compXL oa.toList = some a) (hc : compXL oc.toList = some c) (ho : o.op = .makeFunc (.func f) oa oc) : OpOK P o (evMkf f a c) := by
  intro e lim h n v h' n' hr ρ g w he m hd _ _
  cases hr
  refine ⟨.value (.func (.func f) (oa.map ρ) (oc.map ρ)), g, w, by simp [execOp, ho, Instr.makeFunc], ?_, m, Fr.refl hd⟩
  show V.rel g (.fn ..) _
  rw [V.rel]
  exact ⟨oa.toList.map ρ, oc.toList.map ρ, by simp [← Array.toList_map], evXL_rel he _ ha, evXL_rel he _ hc⟩

noncomputable def evNilck (x : X) (e : Tr) (_ : Nat) (h : Hp) (n : Nat) : Res := pv (onP (evX x e) (fun a o => .p a o) .bad) h n
theorem ok_nilck {ox : Operand} {x : X} (hx : compX ox = some x) (ho : o.op = .nilCheck ox) : OpOK P o (evNilck x) :=
  ok_pure (val := fun e => onP (evX x e) (fun a o => .p a o) .bad) fun e g ρ w he hne => by
    have rx := he ox x hx
    rcases onP_or (evX x e) (fun a o => V.p a o) .bad with ⟨a, off, h1, h2⟩ | h2
    · rw [h2]
      rw [h1] at rx
      have rx' := rx
      rw [V.rel] at rx
      obtain ⟨r, base, tot, hg, hv⟩ := rx
      exact ⟨_, by simp [execOp, ho, hv]; rfl, by rw [← hv]; exact rx'⟩
    · rw [h2] at hne; exact absurd rfl hne

/-! Addresses. -/
noncomputable def evFad (k : Nat) (x : X) (e : Tr) (_ : Nat) (h : Hp) (n : Nat) : Res := pv (onP (evX x e) (fun a o => fN (Nat.add o k) fun o => .p a o) .bad) h n
theorem ok_fad {s : TypeId} {f : Nat} {ox : Operand} {x : X} {fs : Array Field} {fd : Field} {i : TypeInfo} (hx : compX ox = some x) (hs : P.underlying s = some (.struct fs)) (hf : fs[f]? = some fd)
    (hi : P.info? fd.type = some i) (h0 : i.size ≠ 0) (ho : o.op = .fieldAddr s ox f) : OpOK P o (evFad fd.offset x) :=
  ok_pure (val := fun e => onP (evX x e) (fun a o => fN (Nat.add o fd.offset) fun o => .p a o) .bad) fun e g ρ w he hne => by
    have rx := he ox x hx
    rcases onP_or (evX x e) (fun a o => fN (Nat.add o fd.offset) fun o => V.p a o) .bad with ⟨a, off, h1, h2⟩ | h2
    · rw [h2, fN_eq]
      rw [h1, V.rel] at rx
      obtain ⟨r, base, tot, hg, hv⟩ := rx
      refine ⟨.pointer (some ⟨r, base + off + fd.offset, none⟩), ?_, ⟨r, base, tot, hg, by simp [Nat.add_assoc]⟩⟩
      simp [execOp, ho, hv, Instr.fieldAt, run_underlying hs, hf, Instr.sureAddr, fieldPlace, sizeOf, typeInfo, hi, h0, Addr.add_lit]
    · rw [h2] at hne; exact absurd rfl hne

noncomputable def evIxa (len esz : Nat) (x i : X) (e : Tr) (_ : Nat) (h : Hp) (n : Nat) : Res :=
  pv (onP (evX x e) (fun a o => onI (evX i e) (fun j => Bool.rec .bad (fN (Nat.add o (Nat.mul j esz)) fun o => .p a o) (Nat.blt j len)) .bad) .bad) h n
theorem ok_ixa {t el : TypeId} {len : Nat} {ox oi : Operand} {x i : X} {inf : TypeInfo} (hx : compX ox = some x) (hi : compX oi = some i) (ht : P.underlying t = some (.array len el)) (he' : P.info? el = some inf)
    (ho : o.op = .indexAddr t ox oi) : OpOK P o (evIxa len inf.size x i) :=
  ok_pure (val := fun e => onP (evX x e) (fun a o => onI (evX i e) (fun j => Bool.rec .bad (fN (Nat.add o (Nat.mul j inf.size)) fun o => .p a o) (Nat.blt j len)) .bad) .bad) fun e g ρ w he hne => by
    have rx := he ox x hx
    have ri := he oi i hi
    rcases onP_or (evX x e) (fun a o => onI (evX i e) (fun j => (Bool.rec .bad (fN (Nat.add o (Nat.mul j inf.size)) fun o => .p a o) (Nat.blt j len) : V)) .bad) .bad with ⟨a, off, h1, h2⟩ | h2
    · rw [h2] at hne ⊢
      rcases onI_or ri (fun j => (Bool.rec .bad (fN (Nat.add off (Nat.mul j inf.size)) fun o => .p a o) (Nat.blt j len) : V)) .bad with ⟨j, kk, h3, h4⟩ | h4
      · rw [h4] at hne ⊢
        rw [h1, V.rel] at rx
        obtain ⟨r, base, tot, hg, hv⟩ := rx
        cases hb : Nat.blt j len
        · rw [hb] at hne; exact absurd rfl hne
        · rw [Nat.blt_eq] at hb
          refine ⟨.pointer (some ⟨r, base + off + j * inf.size, none⟩), ?_, ?_⟩
          · have hh : (0 : Int) ≤ (j : Int) ∧ (j : Int) < (len : Int) := by omega
            simp [execOp, ho, hv, h3, Instr.indexAt, run_underlying ht, Instr.sureAddr, asIntOf, sizeOf, typeInfo, he', Addr.add_lit, hb]
          · show V.rel g (fN (off + j * inf.size) fun o => .p a o) _
            rw [fN_eq, V.rel]; exact ⟨r, base, tot, hg, by simp [Nat.add_assoc]⟩
      · rw [h4] at hne; exact absurd rfl hne
    · rw [h2] at hne; exact absurd rfl hne

noncomputable def evIxs (esz : Nat) (x i : X) (e : Tr) (_ : Nat) (h : Hp) (n : Nat) : Res :=
  pv (onS (evX x e) (fun a o e' l _ => onI (evX i e) (fun j => Bool.rec .bad (Bool.rec .bad (fN (Nat.add o (Nat.mul j esz)) fun o => .p a o) (Nat.beq e' esz)) (Nat.blt j l)) .bad) .bad .bad) h n
theorem ok_ixs {t el : TypeId} {ox oi : Operand} {x i : X} {inf : TypeInfo} (hx : compX ox = some x) (hi : compX oi = some i) (ht : P.underlying t = some (.slice el)) (he' : P.info? el = some inf)
    (ho : o.op = .indexAddr t ox oi) : OpOK P o (evIxs inf.size x i) :=
  ok_pure (val := fun e => onS (evX x e) (fun a o e' l _ => onI (evX i e) (fun j => Bool.rec .bad (Bool.rec .bad (fN (Nat.add o (Nat.mul j inf.size)) fun o => .p a o) (Nat.beq e' inf.size)) (Nat.blt j l)) .bad) .bad .bad) fun e g ρ w he hne => by
    have rx := he ox x hx
    have ri := he oi i hi
    rcases onS_or (evX x e) (fun a o e' l (_ : Option Nat) => onI (evX i e) (fun j => (Bool.rec .bad (Bool.rec .bad (fN (Nat.add o (Nat.mul j inf.size)) fun o => .p a o) (Nat.beq e' inf.size)) (Nat.blt j l) : V)) .bad) .bad .bad with ⟨a, off, e', l, c, h1, h2⟩ | ⟨_, h2⟩ | h2
    · rw [h2] at hne ⊢
      rcases onI_or ri (fun j => (Bool.rec .bad (Bool.rec .bad (fN (Nat.add off (Nat.mul j inf.size)) fun o => .p a o) (Nat.beq e' inf.size)) (Nat.blt j l) : V)) .bad with ⟨j, kk, h3, h4⟩ | h4
      · rw [h4] at hne ⊢
        rw [h1, V.rel] at rx
        obtain ⟨r, base, tot, c', o', hg, hv, hesz, hlc, hcm, ho', _⟩ := rx
        cases hb : Nat.blt j l
        · rw [hb] at hne; exact absurd rfl hne
        · rw [hb] at hne
          cases hz : Nat.beq e' inf.size
          · rw [hz] at hne; exact absurd rfl hne
          · rw [Nat.blt_eq] at hb
            have ho2 := ho' (by omega)
            subst ho2
            refine ⟨.pointer (some ⟨r, base + off + j * inf.size, none⟩), ?_, ?_⟩
            · simp [execOp, ho, hv, h3, Instr.indexAt, run_underlying ht, asIntOf, sizeOf, typeInfo, he', Addr.add_lit, hb]
            · show V.rel g (fN (off + j * inf.size) fun o => .p a o) _
              rw [fN_eq, V.rel]; exact ⟨r, base, tot, hg, by simp [Nat.add_assoc]⟩
      · rw [h4] at hne; exact absurd rfl hne
    · rw [h2] at hne; exact absurd rfl hne
    · rw [h2] at hne; exact absurd rfl hne

noncomputable def evLen (x : X) (e : Tr) (_ : Nat) (h : Hp) (n : Nat) : Res := pv (onS (evX x e) (fun _ _ _ l _ => .n l) (.n 0) .bad) h n
theorem ok_len {t : TypeId} {el : TypeId} {ox : Operand} {x : X} (hx : compX ox = some x) (ht : P.underlying t = some (.slice el)) (ho : o.op = .call { callee := .builtin .len, args := #[ox], argTypes := #[t] }) : OpOK P o (evLen x) :=
  ok_pure (val := fun e => onS (evX x e) (fun _ _ _ l _ => .n l) (.n 0) .bad) fun e g ρ w he hne => by
    have rx := he ox x hx
    rcases onS_or (evX x e) (fun _ _ _ l (_ : Option Nat) => V.n l) (.n 0) .bad with ⟨a, off, e', l, c, h1, h2⟩ | ⟨h1, h2⟩ | h2
    · rw [h2]
      rw [h1, V.rel] at rx
      obtain ⟨r, base, tot, c', o', hg, hv, hesz, hlc, hcm, ho', _⟩ := rx
      have hm : l < 9223372036854775808 := by unfold maxLen at hcm; omega
      exact ⟨.int .i64 l, by simp [execOp, ho, resolve, invoke, builtin, Builtin.len_, run_underlying ht, hv, goInt], rel_n g hm rfl⟩
    · rw [h2]
      rw [h1, V.rel] at rx
      exact ⟨.int .i64 0, by simp [execOp, ho, resolve, invoke, builtin, Builtin.len_, run_underlying ht, rx, goInt], rel_n g (by omega) rfl⟩
    · rw [h2] at hne; exact absurd rfl hne
end
end Go.Proofs.Ytjhgingmbklhaaa.Ev
