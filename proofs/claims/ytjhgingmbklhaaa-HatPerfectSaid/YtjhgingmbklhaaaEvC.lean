/- The evaluator's arithmetic, and that the model answers so. -/
import Derived.Test.YtjhgingmbklhaaaEvB
namespace Go.Proofs.Ytjhgingmbklhaaa.Ev
set_option linter.unusedVariables false
open Go

/-! Views of a value: closed terms, so that each is worked out once. -/
inductive NV where | no | y (a : Nat)
inductive BV where | no | y (a : Bool)
inductive PV where | no | y (a : Pos) (o : Nat)
inductive SV where | no | nil | y (a : Pos) (o e l : Nat) (c : Option Nat)
inductive LV where | no | y (l : L)
inductive KV where | no | y (k : IntKind) (z : Int)
inductive FV where | no | y (f : Nat) (a c : L)
inductive MV where | no | nil | y (a : Pos)
inductive RV' where | no | y (x : List Nat)
noncomputable def V.asN : V → NV := V.rec (motive_1 := fun _ => NV) (motive_2 := fun _ => Unit) .no (fun a => .y a) (fun _ _ => .no) (fun _ => .no) (fun _ _ => .no) .no (fun _ _ _ _ _ => .no) .no (fun _ _ => .no) (fun _ _ => .no) (fun _ _ _ _ _ => .no) .no (fun _ => .no) (fun _ _ _ => .no) .no (fun _ => .no) .no (fun _ => .no) (fun _ _ _ _ => .no) () (fun _ _ _ _ => ())
noncomputable def V.asB : V → BV := V.rec (motive_1 := fun _ => BV) (motive_2 := fun _ => Unit) .no (fun _ => .no) (fun _ _ => .no) (fun a => .y a) (fun _ _ => .no) .no (fun _ _ _ _ _ => .no) .no (fun _ _ => .no) (fun _ _ => .no) (fun _ _ _ _ _ => .no) .no (fun _ => .no) (fun _ _ _ => .no) .no (fun _ => .no) .no (fun _ => .no) (fun _ _ _ _ => .no) () (fun _ _ _ _ => ())
noncomputable def V.asP : V → PV := V.rec (motive_1 := fun _ => PV) (motive_2 := fun _ => Unit) .no (fun _ => .no) (fun _ _ => .no) (fun _ => .no) (fun a o => .y a o) .no (fun _ _ _ _ _ => .no) .no (fun _ _ => .no) (fun _ _ => .no) (fun _ _ _ _ _ => .no) .no (fun _ => .no) (fun _ _ _ => .no) .no (fun _ => .no) .no (fun _ => .no) (fun _ _ _ _ => .no) () (fun _ _ _ _ => ())
noncomputable def V.asS : V → SV := V.rec (motive_1 := fun _ => SV) (motive_2 := fun _ => Unit) .no (fun _ => .no) (fun _ _ => .no) (fun _ => .no) (fun _ _ => .no) .no (fun a o e l c => .y a o e l c) .nil (fun _ _ => .no) (fun _ _ => .no) (fun _ _ _ _ _ => .no) .no (fun _ => .no) (fun _ _ _ => .no) .no (fun _ => .no) .no (fun _ => .no) (fun _ _ _ _ => .no) () (fun _ _ _ _ => ())
noncomputable def V.asA : V → LV := V.rec (motive_1 := fun _ => LV) (motive_2 := fun _ => Unit) .no (fun _ => .no) (fun _ _ => .no) (fun _ => .no) (fun _ _ => .no) .no (fun _ _ _ _ _ => .no) .no (fun l _ => .y l) (fun _ _ => .no) (fun _ _ _ _ _ => .no) .no (fun _ => .no) (fun _ _ _ => .no) .no (fun _ => .no) .no (fun _ => .no) (fun _ _ _ _ => .no) () (fun _ _ _ _ => ())
noncomputable def V.asT : V → LV := V.rec (motive_1 := fun _ => LV) (motive_2 := fun _ => Unit) .no (fun _ => .no) (fun _ _ => .no) (fun _ => .no) (fun _ _ => .no) .no (fun _ _ _ _ _ => .no) .no (fun _ _ => .no) (fun l _ => .y l) (fun _ _ _ _ _ => .no) .no (fun _ => .no) (fun _ _ _ => .no) .no (fun _ => .no) .no (fun _ => .no) (fun _ _ _ _ => .no) () (fun _ _ _ _ => ())
noncomputable def V.asNat : V → NV := V.rec (motive_1 := fun _ => NV) (motive_2 := fun _ => Unit) .no (fun a => .y a) (fun _ i => Int.rec (motive := fun _ => NV) (fun a => .y a) (fun _ => .no) i) (fun _ => .no) (fun _ _ => .no) .no (fun _ _ _ _ _ => .no) .no (fun _ _ => .no) (fun _ _ => .no) (fun _ _ _ _ _ => .no) .no (fun _ => .no) (fun _ _ _ => .no) .no (fun _ => .no) .no (fun _ => .no) (fun _ _ _ _ => .no) () (fun _ _ _ _ => ())
noncomputable def V.asK : V → KV := V.rec (motive_1 := fun _ => KV) (motive_2 := fun _ => Unit) .no (fun a => .y .i64 (.ofNat a)) (fun k z => .y k z) (fun _ => .no) (fun _ _ => .no) .no (fun _ _ _ _ _ => .no) .no (fun _ _ => .no) (fun _ _ => .no) (fun _ _ _ _ _ => .no) .no (fun _ => .no) (fun _ _ _ => .no) .no (fun _ => .no) .no (fun _ => .no) (fun _ _ _ _ => .no) () (fun _ _ _ _ => ())
noncomputable def V.asF : V → FV := V.rec (motive_1 := fun _ => FV) (motive_2 := fun _ => Unit) .no (fun _ => .no) (fun _ _ => .no) (fun _ => .no) (fun _ _ => .no) .no (fun _ _ _ _ _ => .no) .no (fun _ _ => .no) (fun _ _ => .no) (fun f a c _ _ => .y f a c) .no (fun _ => .no) (fun _ _ _ => .no) .no (fun _ => .no) .no (fun _ => .no) (fun _ _ _ _ => .no) () (fun _ _ _ _ => ())
noncomputable def V.asY : V → MV := V.rec (motive_1 := fun _ => MV) (motive_2 := fun _ => Unit) .no (fun _ => .no) (fun _ _ => .no) (fun _ => .no) (fun _ _ => .no) .no (fun _ _ _ _ _ => .no) .no (fun _ _ => .no) (fun _ _ => .no) (fun _ _ _ _ _ => .no) .no (fun _ => .no) (fun _ _ _ => .no) .no (fun _ => .no) .no (fun a => .y a) (fun _ _ _ _ => .no) () (fun _ _ _ _ => ())
noncomputable def V.asM : V → MV := V.rec (motive_1 := fun _ => MV) (motive_2 := fun _ => Unit) .no (fun _ => .no) (fun _ _ => .no) (fun _ => .no) (fun _ _ => .no) .no (fun _ _ _ _ _ => .no) .no (fun _ _ => .no) (fun _ _ => .no) (fun _ _ _ _ _ => .no) .no (fun _ => .no) (fun _ _ _ => .no) .no (fun a => .y a) .nil (fun _ => .no) (fun _ _ _ _ => .no) () (fun _ _ _ _ => ())
noncomputable def V.asStr : V → RV' := V.rec (motive_1 := fun _ => RV') (motive_2 := fun _ => Unit) .no (fun _ => .no) (fun _ _ => .no) (fun _ => .no) (fun _ _ => .no) .no (fun _ _ _ _ _ => .no) .no (fun _ _ => .no) (fun _ _ => .no) (fun _ _ _ _ _ => .no) .no (fun x => .y x) (fun _ _ _ => .no) .no (fun _ => .no) .no (fun _ => .no) (fun _ _ _ _ => .no) () (fun _ _ _ _ => ())
noncomputable def onN {β : Type} (v : V) (f : Nat → β) (z : β) : β := NV.rec (motive := fun _ => β) z f v.asN
noncomputable def onB {β : Type} (v : V) (f : Bool → β) (z : β) : β := BV.rec (motive := fun _ => β) z f v.asB
noncomputable def onP {β : Type} (v : V) (f : Pos → Nat → β) (z : β) : β := PV.rec (motive := fun _ => β) z f v.asP
noncomputable def onS {β : Type} (v : V) (f : Pos → Nat → Nat → Nat → Option Nat → β) (y z : β) : β := SV.rec (motive := fun _ => β) z y f v.asS
noncomputable def onA {β : Type} (v : V) (f : L → β) (z : β) : β := LV.rec (motive := fun _ => β) z f v.asA
noncomputable def onT {β : Type} (v : V) (f : L → β) (z : β) : β := LV.rec (motive := fun _ => β) z f v.asT

section
variable {β : Type}
theorem onN_or (v : V) (f : Nat → β) (z : β) : (∃ a, v = .n a ∧ onN v f z = f a) ∨ onN v f z = z := by
  cases v <;> first | exact .inl ⟨_, rfl, rfl⟩ | exact .inr rfl
theorem onB_or (v : V) (f : Bool → β) (z : β) : (∃ a, v = .b a ∧ onB v f z = f a) ∨ onB v f z = z := by
  cases v <;> first | exact .inl ⟨_, rfl, rfl⟩ | exact .inr rfl
theorem onP_or (v : V) (f : Pos → Nat → β) (z : β) : (∃ a o, v = .p a o ∧ onP v f z = f a o) ∨ onP v f z = z := by
  cases v <;> first | exact .inl ⟨_, _, rfl, rfl⟩ | exact .inr rfl
theorem onS_or (v : V) (f : Pos → Nat → Nat → Nat → Option Nat → β) (y z : β) : (∃ a o e l c, v = .sl a o e l c ∧ onS v f y z = f a o e l c) ∨ (v = .ns ∧ onS v f y z = y) ∨ onS v f y z = z := by
  cases v <;> first | exact .inl ⟨_, _, _, _, _, rfl, rfl⟩ | exact .inr (.inl ⟨rfl, rfl⟩) | exact .inr (.inr rfl)
theorem onA_or (v : V) (f : L → β) (z : β) : (∃ a, v = .ag a ∧ onA v f z = f a) ∨ onA v f z = z := by
  cases v <;> first | exact .inl ⟨_, rfl, rfl⟩ | exact .inr rfl
theorem onT_or (v : V) (f : L → β) (z : β) : (∃ a, v = .tu a ∧ onT v f z = f a) ∨ onT v f z = z := by
  cases v <;> first | exact .inl ⟨_, rfl, rfl⟩ | exact .inr rfl
end

/-- A number that is not below 0, of any kind. -/
noncomputable def onI {β : Type} (v : V) (f : Nat → β) (z : β) : β := NV.rec (motive := fun _ => β) z f v.asNat
theorem onI_or {β : Type} {g : Sig} {v : V} {u : Value} (h : v.rel g u) (f : Nat → β) (z : β) : (∃ (a : Nat) (k : IntKind), u = .int k (a : Int) ∧ onI v f z = f a) ∨ onI v f z = z := by
  cases v with
  | n a => rw [V.rel] at h; exact .inl ⟨a, .i64, h.1, rfl⟩
  | i k y => rw [V.rel] at h; cases y with
    | ofNat a => exact .inl ⟨a, k, h, rfl⟩
    | negSucc a => exact .inr rfl
  | _ => exact .inr rfl

noncomputable def fN {β : Type} (n : Nat) (k : Nat → β) : β := Nat.rec (motive := fun _ => β) (k 0) (fun m _ => k (Nat.succ m)) n
theorem fN_eq {β : Type} (n : Nat) (k : Nat → β) : fN n k = k n := by cases n <;> rfl
noncomputable def fB (b : Bool) : V := Bool.rec (.b false) (.b true) b
theorem fB_eq (b : Bool) : fB b = .b b := by cases b <;> rfl

/-- An integer of a kind as a value. -/
noncomputable def mkI (k : IntKind) (z : Int) : V :=
  match k, z with
  | .i64, .ofNat a => fN a fun a => Bool.rec (.i .i64 (.ofNat a)) (.n a) (Nat.blt a 9223372036854775808)
  | k, .ofNat a => fN a fun a => .i k (.ofNat a)
  | k, .negSucc a => fN a fun a => .i k (.negSucc a)
theorem mkI_rel (g : Sig) (k : IntKind) (z : Int) : (mkI k z).rel g (.int k z) := by
  cases z with
  | ofNat a =>
    cases k
    case i64 =>
      simp only [mkI, fN_eq]
      cases h : Nat.blt a 9223372036854775808
      · simp [V.rel]
      · simp only [V.rel]
        exact ⟨rfl, by simpa [Nat.blt_eq] using h⟩
    all_goals simp [mkI, fN_eq, V.rel]
  | negSucc a => cases k <;> simp [mkI, fN_eq, V.rel]
noncomputable def onK {β : Type} (v : V) (f : IntKind → Int → β) (z : β) : β := KV.rec (motive := fun _ => β) z f v.asK
theorem onK_or {β : Type} {g : Sig} {v : V} {u : Value} (h : v.rel g u) (f : IntKind → Int → β) (z : β) : (∃ k a, u = .int k a ∧ onK v f z = f k a) ∨ onK v f z = z := by
  cases v with
  | n a => rw [V.rel] at h; exact .inl ⟨_, _, h.1, rfl⟩
  | i k y => rw [V.rel] at h; exact .inl ⟨_, _, h, rfl⟩
  | _ => exact .inr rfl

def IntKind.same (a b : IntKind) : Bool := decide (a = b)

/-- What an operation on two integers of one kind gives. -/
noncomputable def slowI (op : BinOp) (k : IntKind) (a b : Int) : V :=
  match op with
  | .add => mkI k (k.wrap (a + b))
  | .sub => mkI k (k.wrap (a - b))
  | .mul => mkI k (k.wrap (a * b))
  | .quo => if b = 0 then .bad else mkI k (k.wrap (a.tdiv b))
  | .rem => if b = 0 then .bad else mkI k (a.tmod b)
  | .and => mkI k (k.wrap (BitVec.ofInt k.bits a &&& BitVec.ofInt k.bits b).toNat)
  | .or => mkI k (k.wrap (BitVec.ofInt k.bits a ||| BitVec.ofInt k.bits b).toNat)
  | .xor => mkI k (k.wrap (BitVec.ofInt k.bits a ^^^ BitVec.ofInt k.bits b).toNat)
  | .andNot => mkI k (k.wrap (BitVec.ofInt k.bits a &&& ~~~ BitVec.ofInt k.bits b).toNat)
  | .eql => fB (a == b)
  | .neq => fB (a != b)
  | .lss => fB (decide (a < b))
  | .leq => fB (decide (a ≤ b))
  | .gtr => fB (decide (a > b))
  | .geq => fB (decide (a ≥ b))
  | .shl | .shr => .bad
noncomputable def slowB (op : BinOp) (x y : V) : V :=
  match op with
  | .shl => onK x (fun k a => onK y (fun _ b => if b < 0 then .bad else mkI k (k.wrap (a * 2 ^ (min b.toNat k.bits)))) .bad) .bad
  | .shr => onK x (fun k a => onK y (fun _ b => if b < 0 then .bad else mkI k (a.fdiv (2 ^ (min b.toNat k.bits)))) .bad) .bad
  | op => onK x (fun k a => onK y (fun k' b => if k = k' then slowI op k a b else .bad) .bad) .bad

theorem slowI_sound (P : Program) (w : World) (g : Sig) (op : BinOp) (t : TypeId) (k : IntKind) (a b : Int) (h : slowI op k a b ≠ .bad) :
    ∃ u, (binOp op t (.int k a) (.int k b)).run P w = .ok u w ∧ (slowI op k a b).rel g u := by
  cases op <;> simp only [slowI] at h ⊢
  case quo =>
    split at h
    · exact absurd rfl h
    · rename_i hb; rw [if_neg hb]; exact ⟨.int k (k.wrap (a.tdiv b)), by simp [binOp, Op.intDiv, hb], mkI_rel g _ _⟩
  case rem =>
    split at h
    · exact absurd rfl h
    · rename_i hb; rw [if_neg hb]; exact ⟨.int k (a.tmod b), by simp [binOp, Op.intDiv, hb], mkI_rel g _ _⟩
  case shl => exact absurd rfl h
  case shr => exact absurd rfl h
  case add => exact ⟨_, by simp only [binOp, ne_eq, not_true_eq_false, if_false, Op.intArith]; rfl, mkI_rel g _ _⟩
  case sub => exact ⟨_, by simp only [binOp, ne_eq, not_true_eq_false, if_false, Op.intArith]; rfl, mkI_rel g _ _⟩
  case mul => exact ⟨_, by simp only [binOp, ne_eq, not_true_eq_false, if_false, Op.intArith]; rfl, mkI_rel g _ _⟩
  case and => exact ⟨_, by simp only [binOp, ne_eq, not_true_eq_false, if_false, Op.intBits]; rfl, mkI_rel g _ _⟩
  case or => exact ⟨_, by simp only [binOp, ne_eq, not_true_eq_false, if_false, Op.intBits]; rfl, mkI_rel g _ _⟩
  case xor => exact ⟨_, by simp only [binOp, ne_eq, not_true_eq_false, if_false, Op.intBits]; rfl, mkI_rel g _ _⟩
  case andNot => exact ⟨_, by simp only [binOp, ne_eq, not_true_eq_false, if_false, Op.intBits]; rfl, mkI_rel g _ _⟩
  all_goals (rw [fB_eq]; exact ⟨_, by simp only [binOp, ne_eq, not_true_eq_false, if_false, Op.intCmp]; rfl, rfl⟩)

theorem slowB_sound (P : Program) (w : World) (g : Sig) (op : BinOp) (t : TypeId) (ox oy : Operand) {x y : V} {a b : Value} (ha : x.rel g a) (hb : y.rel g b) (h : slowB op x y ≠ .bad) :
    ∃ u, (eqGuard op t ox oy a b).run P w = .ok () w ∧ (binOp op t a b).run P w = .ok u w ∧ (slowB op x y).rel g u := by
  have key : onK x (fun k a => onK y (fun k' b => if k = k' then slowI op k a b else .bad) .bad) .bad ≠ .bad →
      ∃ u, (eqGuard op t ox oy a b).run P w = .ok () w ∧ (binOp op t a b).run P w = .ok u w ∧ (onK x (fun k a => onK y (fun k' b => if k = k' then slowI op k a b else .bad) .bad) .bad).rel g u := by
    intro h
    rcases onK_or ha (fun k a => onK y (fun k' b => if k = k' then slowI op k a b else .bad) .bad) .bad with ⟨k, z, rfl, e⟩ | e
    · rw [e] at h ⊢
      rcases onK_or hb (fun k' b => if k = k' then slowI op k z b else .bad) .bad with ⟨k', z', rfl, e'⟩ | e'
      · rw [e'] at h ⊢
        by_cases hk : k = k'
        · subst hk
          rw [if_pos rfl] at h ⊢
          obtain ⟨u, h1, h2⟩ := slowI_sound P w g op t k z z' h
          exact ⟨u, by rw [eqGuard_at_int]; rfl, h1, h2⟩
        · rw [if_neg hk] at h; exact absurd rfl h
      · rw [e'] at h; exact absurd rfl h
    · rw [e] at h; exact absurd rfl h
  cases op
  case shl =>
    simp only [slowB] at h ⊢
    rcases onK_or ha (fun k a => onK y (fun _ b => if b < 0 then .bad else mkI k (k.wrap (a * 2 ^ (min b.toNat k.bits)))) .bad) .bad with ⟨k, z, rfl, e⟩ | e
    · rw [e] at h ⊢
      rcases onK_or hb (fun _ b => if b < 0 then .bad else mkI k (k.wrap (z * 2 ^ (min b.toNat k.bits)))) .bad with ⟨k', z', rfl, e'⟩ | e'
      · rw [e'] at h ⊢
        by_cases hn : z' < 0
        · rw [if_pos hn] at h; exact absurd rfl h
        · rw [if_neg hn]
          exact ⟨_, by rw [eqGuard_at_int]; rfl, by simp only [binOp, Op.shift, if_neg hn]; rfl, mkI_rel g _ _⟩
      · rw [e'] at h; exact absurd rfl h
    · rw [e] at h; exact absurd rfl h
  case shr =>
    simp only [slowB] at h ⊢
    rcases onK_or ha (fun k a => onK y (fun _ b => if b < 0 then .bad else mkI k (a.fdiv (2 ^ (min b.toNat k.bits)))) .bad) .bad with ⟨k, z, rfl, e⟩ | e
    · rw [e] at h ⊢
      rcases onK_or hb (fun _ b => if b < 0 then .bad else mkI k (z.fdiv (2 ^ (min b.toNat k.bits)))) .bad with ⟨k', z', rfl, e'⟩ | e'
      · rw [e'] at h ⊢
        by_cases hn : z' < 0
        · rw [if_pos hn] at h; exact absurd rfl h
        · rw [if_neg hn]
          exact ⟨_, by rw [eqGuard_at_int]; rfl, by simp only [binOp, Op.shift, if_neg hn]; rfl, mkI_rel g _ _⟩
      · rw [e'] at h; exact absurd rfl h
    · rw [e] at h; exact absurd rfl h
  all_goals exact key h

/-! The quick ways: two integers of kind int, none of them below 0. -/
noncomputable def onNN (x y : V) (f : Nat → Nat → V) (s : V) : V := onN x (fun a => onN y (fun b => f a b) s) s
noncomputable def small (c : Nat) (s : V) : V := fN c fun c => Bool.rec s (.n c) (Nat.blt c 9223372036854775808)
noncomputable def bAdd (x y : V) : V := onNN x y (fun a b => small (Nat.add a b) (slowB .add x y)) (slowB .add x y)
noncomputable def bSub (x y : V) : V := onNN x y (fun a b => Bool.rec (slowB .sub x y) (fN (Nat.sub a b) V.n) (Nat.ble b a)) (slowB .sub x y)
noncomputable def bMul (x y : V) : V := onNN x y (fun a b => small (Nat.mul a b) (slowB .mul x y)) (slowB .mul x y)
noncomputable def bQuo (x y : V) : V := onNN x y (fun a b => Bool.rec (fN (Nat.div a b) V.n) .bad (Nat.beq b 0)) (slowB .quo x y)
noncomputable def bRem (x y : V) : V := onNN x y (fun a b => Bool.rec (fN (Nat.mod a b) V.n) .bad (Nat.beq b 0)) (slowB .rem x y)
noncomputable def bEq (x y : V) : V := onNN x y (fun a b => fB (Nat.beq a b)) (slowB .eql x y)
noncomputable def bNe (x y : V) : V := onNN x y (fun a b => Bool.rec (.b true) (.b false) (Nat.beq a b)) (slowB .neq x y)
noncomputable def bLt (x y : V) : V := onNN x y (fun a b => fB (Nat.blt a b)) (slowB .lss x y)
noncomputable def bLe (x y : V) : V := onNN x y (fun a b => fB (Nat.ble a b)) (slowB .leq x y)
noncomputable def bGt (x y : V) : V := onNN x y (fun a b => fB (Nat.blt b a)) (slowB .gtr x y)
noncomputable def bGe (x y : V) : V := onNN x y (fun a b => fB (Nat.ble b a)) (slowB .geq x y)
noncomputable def bShl (x y : V) : V := onNN x y (fun a b => Bool.rec (slowB .shl x y) (small (Nat.shiftLeft a b) (slowB .shl x y)) (Nat.ble b 64)) (slowB .shl x y)
noncomputable def bShr (x y : V) : V := onNN x y (fun a b => Bool.rec (slowB .shr x y) (fN (Nat.shiftRight a b) V.n) (Nat.ble b 64)) (slowB .shr x y)
noncomputable def bAnd (x y : V) : V := onNN x y (fun a b => fN (Nat.land a b) V.n) (slowB .and x y)
noncomputable def bOr (x y : V) : V := onNN x y (fun a b => small (Nat.lor a b) (slowB .or x y)) (slowB .or x y)
noncomputable def bXor (x y : V) : V := onNN x y (fun a b => small (Nat.xor a b) (slowB .xor x y)) (slowB .xor x y)
noncomputable def bAndNot (x y : V) : V := slowB .andNot x y
noncomputable def binV0 (op : BinOp) : V → V → V :=
  BinOp.rec (motive := fun _ => V → V → V) bAdd bSub bMul bQuo bRem bAnd bOr bXor bShl bShr bAndNot bEq bNe bLt bLe bGt bGe op

theorem onNN_sound (P : Program) (w : World) (g : Sig) (op : BinOp) (t : TypeId) (ox oy : Operand) {x y : V} {a b : Value} (ha : x.rel g a) (hb : y.rel g b) (f : Nat → Nat → V)
    (hf : ∀ p q : Nat, p < 9223372036854775808 → q < 9223372036854775808 → x = .n p → y = .n q → f p q ≠ .bad → f p q = slowB op x y ∨ ∃ u, (binOp op t (.int .i64 p) (.int .i64 q)).run P w = .ok u w ∧ (f p q).rel g u)
    (h : onNN x y f (slowB op x y) ≠ .bad) :
    ∃ u, (eqGuard op t ox oy a b).run P w = .ok () w ∧ (binOp op t a b).run P w = .ok u w ∧ (onNN x y f (slowB op x y)).rel g u := by
  unfold onNN at h ⊢
  rcases onN_or x (fun a => onN y (fun b => f a b) (slowB op x y)) (slowB op x y) with ⟨p, hp, e⟩ | e
  · rw [e] at h ⊢
    rcases onN_or y (fun b => f p b) (slowB op x y) with ⟨q, hq, e'⟩ | e'
    · rw [e'] at h ⊢
      have ha' := ha
      have hb' := hb
      rw [hp, V.rel] at ha'
      rw [hq, V.rel] at hb'
      rcases hf p q ha'.2 hb'.2 hp hq h with hs | ⟨u, h1, h2⟩
      · rw [hs] at h ⊢; exact slowB_sound P w g op t ox oy ha hb h
      · rw [ha'.1, hb'.1]; exact ⟨u, by rw [eqGuard_at_int]; rfl, h1, h2⟩
    · rw [e'] at h ⊢; exact slowB_sound P w g op t ox oy ha hb h
  · rw [e] at h ⊢; exact slowB_sound P w g op t ox oy ha hb h

theorem wrap_nat {c : Nat} (h : c < 9223372036854775808) : IntKind.i64.wrap (c : Int) = c := by
  rw [IntKind.wrap_i64]; omega

theorem small_or (c : Nat) (s : V) : (c < 9223372036854775808 ∧ small c s = .n c) ∨ small c s = s := by
  unfold small
  rw [fN_eq]
  cases h : Nat.blt c 9223372036854775808
  · exact .inr rfl
  · exact .inl ⟨by simpa [Nat.blt_eq] using h, rfl⟩

theorem rel_n (g : Sig) {c : Nat} {z : Int} (h : c < 9223372036854775808) (hz : z = c) : (V.n c).rel g (.int .i64 z) := by
  rw [V.rel]; exact ⟨by rw [hz], h⟩

theorem binV0_sound (P : Program) (w : World) (g : Sig) (op : BinOp) (t : TypeId) (ox oy : Operand) {x y : V} {a b : Value} (ha : x.rel g a) (hb : y.rel g b) (h : binV0 op x y ≠ .bad) :
    ∃ u, (eqGuard op t ox oy a b).run P w = .ok () w ∧ (binOp op t a b).run P w = .ok u w ∧ (binV0 op x y).rel g u := by
  cases op
  case add =>
    refine onNN_sound P w g .add t ox oy ha hb _ (fun p q hp hq _ _ _ => ?_) h
    rcases small_or (Nat.add p q) (slowB .add x y) with ⟨hc, e⟩ | e
    · rw [e]; exact .inr ⟨.int .i64 (IntKind.i64.wrap (p + q)), by simp only [binOp, ne_eq, not_true_eq_false, if_false, Op.intArith]; rfl, rel_n g hc (by have := wrap_nat hc; exact this)⟩
    · exact .inl e
  case mul =>
    refine onNN_sound P w g .mul t ox oy ha hb _ (fun p q hp hq _ _ _ => ?_) h
    rcases small_or (Nat.mul p q) (slowB .mul x y) with ⟨hc, e⟩ | e
    · rw [e]; exact .inr ⟨.int .i64 (IntKind.i64.wrap (p * q)), by simp only [binOp, ne_eq, not_true_eq_false, if_false, Op.intArith]; rfl, rel_n g hc (by have := wrap_nat hc; exact this)⟩
    · exact .inl e
  case sub =>
    refine onNN_sound P w g .sub t ox oy ha hb _ (fun p q hp hq _ _ hne => ?_) h
    cases hle : Nat.ble q p
    · exact .inl rfl
    · rw [Nat.ble_eq] at hle
      refine .inr ⟨.int .i64 (IntKind.i64.wrap (p - q)), by simp only [binOp, ne_eq, not_true_eq_false, if_false, Op.intArith]; rfl, ?_⟩
      show V.rel g (fN (p - q) V.n) _
      rw [fN_eq]
      exact rel_n g (by omega) (by rw [← wrap_nat (c := p - q) (by omega)]; congr 1; omega)
  case quo =>
    refine onNN_sound P w g .quo t ox oy ha hb _ (fun p q hp hq _ _ hne => ?_) h
    cases hz : Nat.beq q 0
    · have hq0 : q ≠ 0 := by intro e; subst e; cases hz
      refine .inr ⟨.int .i64 (IntKind.i64.wrap ((p : Int).tdiv q)), by simp only [binOp, ne_eq, not_true_eq_false, if_false, Op.intDiv, Int.natCast_eq_zero, hq0]; rfl, ?_⟩
      show V.rel g (fN (p / q) V.n) _
      rw [fN_eq]
      have hlt : p / q < 9223372036854775808 := Nat.lt_of_le_of_lt (Nat.div_le_self _ _) hp
      exact rel_n g hlt (by rw [← wrap_nat hlt]; rfl)
    · rw [hz] at hne; exact absurd rfl hne
  case rem =>
    refine onNN_sound P w g .rem t ox oy ha hb _ (fun p q hp hq _ _ hne => ?_) h
    cases hz : Nat.beq q 0
    · have hq0 : q ≠ 0 := by intro e; subst e; cases hz
      refine .inr ⟨.int .i64 ((p : Int).tmod q), by simp only [binOp, ne_eq, not_true_eq_false, if_false, Op.intDiv, Int.natCast_eq_zero, hq0]; rfl, ?_⟩
      show V.rel g (fN (p % q) V.n) _
      rw [fN_eq]
      exact rel_n g (Nat.lt_of_le_of_lt (Nat.mod_le _ _) hp) rfl
    · rw [hz] at hne; exact absurd rfl hne
  case and =>
    refine onNN_sound P w g .and t ox oy ha hb _ (fun p q hp hq _ _ hne => ?_) h
    have hlt : p &&& q < 9223372036854775808 := Nat.lt_of_le_of_lt Nat.and_le_left hp
    refine .inr ⟨_, by simp only [binOp, ne_eq, not_true_eq_false, if_false, Op.intBits]; rfl, ?_⟩
    show V.rel g (fN (p &&& q) V.n) _
    rw [fN_eq]
    refine rel_n g hlt ?_
    rw [← wrap_nat hlt]
    congr 1
    show (((BitVec.ofInt 64 (p : Int)) &&& (BitVec.ofInt 64 (q : Int))).toNat : Int) = _
    rw [BitVec.ofInt_natCast, BitVec.ofInt_natCast, BitVec.toNat_and, BitVec.toNat_ofNat, BitVec.toNat_ofNat, Nat.mod_eq_of_lt (by omega), Nat.mod_eq_of_lt (by omega)]
  case or =>
    refine onNN_sound P w g .or t ox oy ha hb _ (fun p q hp hq _ _ hne => ?_) h
    rcases small_or (Nat.lor p q) (slowB .or x y) with ⟨hc, e⟩ | e
    · rw [e]
      refine .inr ⟨_, by simp only [binOp, ne_eq, not_true_eq_false, if_false, Op.intBits]; rfl, ?_⟩
      refine rel_n g hc ?_
      rw [← wrap_nat hc]
      congr 1
      show (((BitVec.ofInt 64 (p : Int)) ||| (BitVec.ofInt 64 (q : Int))).toNat : Int) = _
      rw [BitVec.ofInt_natCast, BitVec.ofInt_natCast, BitVec.toNat_or, BitVec.toNat_ofNat, BitVec.toNat_ofNat, Nat.mod_eq_of_lt (by omega), Nat.mod_eq_of_lt (by omega)]
      rfl
    · exact .inl e
  case xor =>
    refine onNN_sound P w g .xor t ox oy ha hb _ (fun p q hp hq _ _ hne => ?_) h
    rcases small_or (Nat.xor p q) (slowB .xor x y) with ⟨hc, e⟩ | e
    · rw [e]
      refine .inr ⟨_, by simp only [binOp, ne_eq, not_true_eq_false, if_false, Op.intBits]; rfl, ?_⟩
      refine rel_n g hc ?_
      rw [← wrap_nat hc]
      congr 1
      show (((BitVec.ofInt 64 (p : Int)) ^^^ (BitVec.ofInt 64 (q : Int))).toNat : Int) = _
      rw [BitVec.ofInt_natCast, BitVec.ofInt_natCast, BitVec.toNat_xor, BitVec.toNat_ofNat, BitVec.toNat_ofNat, Nat.mod_eq_of_lt (by omega), Nat.mod_eq_of_lt (by omega)]
      rfl
    · exact .inl e
  case andNot => exact slowB_sound P w g .andNot t ox oy ha hb h
  case shl =>
    refine onNN_sound P w g .shl t ox oy ha hb _ (fun p q hp hq _ _ hne => ?_) h
    cases hq64 : Nat.ble q 64
    · exact .inl rfl
    · rw [Nat.ble_eq] at hq64
      show small _ _ = _ ∨ ∃ u, _ ∧ V.rel g (small _ _) u
      rcases small_or (Nat.shiftLeft p q) (slowB .shl x y) with ⟨hc, e⟩ | e
      · rw [e]
        refine .inr ⟨.int .i64 (IntKind.i64.wrap ((p : Int) * 2 ^ q)), ?_, rel_n g hc ?_⟩
        · have hn : ¬ ((q : Int) < 0) := by omega
          simp only [binOp, Op.shift, if_neg hn, Int.toNat_natCast, IntKind.bits, Nat.min_eq_left hq64]; rfl
        · rw [← wrap_nat hc]
          have : Nat.shiftLeft p q = p * 2 ^ q := Nat.shiftLeft_eq p q
          rw [this]; simp
      · exact .inl e
  case shr =>
    refine onNN_sound P w g .shr t ox oy ha hb _ (fun p q hp hq _ _ hne => ?_) h
    cases hq64 : Nat.ble q 64
    · exact .inl rfl
    · rw [Nat.ble_eq] at hq64
      have hsr : Nat.shiftRight p q = p / 2 ^ q := Nat.shiftRight_eq_div_pow p q
      refine .inr ⟨.int .i64 ((p : Int).fdiv (2 ^ q)), ?_, ?_⟩
      · have hn : ¬ ((q : Int) < 0) := by omega
        simp only [binOp, Op.shift, if_neg hn, Int.toNat_natCast, IntKind.bits, Nat.min_eq_left hq64]; rfl
      · show V.rel g (fN (Nat.shiftRight p q) V.n) _
        rw [fN_eq, hsr]
        refine rel_n g (Nat.lt_of_le_of_lt (Nat.div_le_self _ _) hp) ?_
        have : ((2 : Int) ^ q) = ((2 ^ q : Nat) : Int) := by simp
        rw [this]
        rw [Int.fdiv_eq_ediv_of_nonneg _ (Int.natCast_nonneg _)]
        rfl
  case eql =>
    refine onNN_sound P w g .eql t ox oy ha hb _ (fun p q hp hq _ _ hne => .inr ⟨.bool ((p : Int) == q), by simp only [binOp, ne_eq, not_true_eq_false, if_false, Op.intCmp]; rfl, ?_⟩) h
    rw [fB_eq, V.rel]; congr 1
    rw [Bool.eq_iff_iff]; simp [Nat.beq_eq]; omega
  case neq =>
    refine onNN_sound P w g .neq t ox oy ha hb _ (fun p q hp hq _ _ hne => .inr ⟨.bool ((p : Int) != q), by simp only [binOp, ne_eq, not_true_eq_false, if_false, Op.intCmp]; rfl, ?_⟩) h
    cases he : Nat.beq p q
    · rw [V.rel]; congr 1
      have : p ≠ q := by intro e; subst e; simp at he
      simp; omega
    · rw [V.rel]; congr 1
      have : p = q := by simpa [Nat.beq_eq] using he
      simp [this]
  case lss =>
    refine onNN_sound P w g .lss t ox oy ha hb _ (fun p q hp hq _ _ hne => .inr ⟨.bool (decide ((p : Int) < q)), by simp only [binOp, ne_eq, not_true_eq_false, if_false, Op.intCmp]; rfl, ?_⟩) h
    rw [fB_eq, V.rel]; congr 1
    rw [Bool.eq_iff_iff]; simp [Nat.blt_eq]
  case leq =>
    refine onNN_sound P w g .leq t ox oy ha hb _ (fun p q hp hq _ _ hne => .inr ⟨.bool (decide ((p : Int) ≤ q)), by simp only [binOp, ne_eq, not_true_eq_false, if_false, Op.intCmp]; rfl, ?_⟩) h
    rw [fB_eq, V.rel]; congr 1
    rw [Bool.eq_iff_iff]; simp [Nat.ble_eq]
  case gtr =>
    refine onNN_sound P w g .gtr t ox oy ha hb _ (fun p q hp hq _ _ hne => .inr ⟨.bool (decide ((p : Int) > q)), by simp only [binOp, ne_eq, not_true_eq_false, if_false, Op.intCmp]; rfl, ?_⟩) h
    rw [fB_eq, V.rel]; congr 1
    rw [Bool.eq_iff_iff]; simp [Nat.blt_eq]
  case geq =>
    refine onNN_sound P w g .geq t ox oy ha hb _ (fun p q hp hq _ _ hne => .inr ⟨.bool (decide ((p : Int) ≥ q)), by simp only [binOp, ne_eq, not_true_eq_false, if_false, Op.intCmp]; rfl, ?_⟩) h
    rw [fB_eq, V.rel]; congr 1
    rw [Bool.eq_iff_iff]; simp [Nat.ble_eq]

/-! Numbers without a sign: the same, quicker. -/
inductive UV where | no | y (k : IntKind) (m a : Nat)
noncomputable def uvI (k : IntKind) (m : Nat) (i : Int) : UV := Int.rec (motive := fun _ => UV) (fun a => .y k m a) (fun _ => .no) i
noncomputable def V.asU : V → UV := V.rec (motive_1 := fun _ => UV) (motive_2 := fun _ => Unit) .no (fun _ => .no) (fun k i => IntKind.rec (motive := fun _ => Int → UV) (fun _ => .no) (fun _ => .no) (fun _ => .no) (fun _ => .no) (uvI .u8 8) (uvI .u16 16) (uvI .u32 32) (uvI .u64 64) k i) (fun _ => .no) (fun _ _ => .no) .no (fun _ _ _ _ _ => .no)
    .no (fun _ _ => .no) (fun _ _ => .no) (fun _ _ _ _ _ => .no) .no (fun _ => .no) (fun _ _ _ => .no) .no (fun _ => .no) .no (fun _ => .no) (fun _ _ _ _ => .no) () (fun _ _ _ _ => ())
theorem asU_y {v : V} {k : IntKind} {m a : Nat} (h : v.asU = .y k m a) : v = .i k (.ofNat a) ∧ m = k.bits ∧ k.signed = false := by
  cases v with
  | i k' z => cases k' <;> cases z <;> first | (have h' : UV.no = .y k m a := h; cases h'; done) | (have h' : UV.y _ _ _ = UV.y k m a := h; cases h'; exact ⟨rfl, rfl, rfl⟩)
  | _ => have h' : UV.no = .y k m a := h; cases h'
noncomputable def mkU (k : IntKind) (n : Nat) : V := fN n fun n => .i k (.ofNat n)
noncomputable def uOp : BinOp → IntKind → Nat → Nat → Nat → V → V :=
  BinOp.rec (motive := fun _ => IntKind → Nat → Nat → Nat → V → V)
    (fun k w a b _ => mkU k (Nat.mod (Nat.add a b) w)) (fun k w a b _ => mkU k (Nat.mod (Nat.add a (Nat.sub w (Nat.mod b w))) w)) (fun k w a b _ => mkU k (Nat.mod (Nat.mul a b) w))
    (fun k w a b s => Bool.rec (mkU k (Nat.mod (Nat.div a b) w)) s (Nat.beq b 0)) (fun k _ a b s => Bool.rec (mkU k (Nat.mod a b)) s (Nat.beq b 0))
    (fun k w a b _ => mkU k (Nat.land (Nat.mod a w) (Nat.mod b w))) (fun k w a b _ => mkU k (Nat.lor (Nat.mod a w) (Nat.mod b w))) (fun k w a b _ => mkU k (Nat.xor (Nat.mod a w) (Nat.mod b w)))
    (fun _ _ _ _ s => s) (fun _ _ _ _ s => s) (fun k w a b _ => mkU k (Nat.land (Nat.mod a w) (Nat.sub (Nat.sub w 1) (Nat.mod b w))))
    (fun _ _ a b _ => fB (Nat.beq a b)) (fun _ _ a b _ => Bool.rec (.b true) (.b false) (Nat.beq a b)) (fun _ _ a b _ => fB (Nat.blt a b)) (fun _ _ a b _ => fB (Nat.ble a b)) (fun _ _ a b _ => fB (Nat.blt b a)) (fun _ _ a b _ => fB (Nat.ble b a))
noncomputable def midB (op : BinOp) (x y : V) : V := UV.rec (motive := fun _ => V) (slowB op x y) (fun k m a => UV.rec (motive := fun _ => V) (slowB op x y) (fun _ m' b => Bool.rec (slowB op x y) (uOp op k (Nat.pow 2 m) a b (slowB op x y)) (Nat.beq m m')) y.asU) x.asU
theorem uwrap {k : IntKind} (hk : k.signed = false) (z : Int) : k.wrap z = z % (2 ^ k.bits : Nat) := by
  unfold IntKind.wrap
  rw [hk]; simp
theorem umk {k : IntKind} (hk : k.signed = false) (n : Nat) : mkI k (n : Int) = .i k (.ofNat n) := by
  cases k <;> first | (exact absurd hk (by decide)) | exact fN_eq n fun a => V.i _ (.ofNat a)
theorem mkU_eq {k : IntKind} (hk : k.signed = false) {z : Int} {n : Nat} (h : z = n) : mkU k n = mkI k z := by
  subst h; rw [umk hk]; exact fN_eq _ _
theorem ubits (k : IntKind) (a : Nat) : (BitVec.ofInt k.bits (Int.ofNat a)).toNat = a % 2 ^ k.bits := by
  have : BitVec.ofInt k.bits (Int.ofNat a) = BitVec.ofNat k.bits a := BitVec.ofInt_natCast ..
  rw [this, BitVec.toNat_ofNat]
theorem uOp_eq (op : BinOp) {k : IntKind} (hk : k.signed = false) (a b : Nat) : uOp op k (2 ^ k.bits) a b (slowB op (.i k (.ofNat a)) (.i k (.ofNat b))) = slowB op (.i k (.ofNat a)) (.i k (.ofNat b)) := by
  have hw : 0 < 2 ^ k.bits := Nat.two_pow_pos _
  have sl : op ≠ .shl → op ≠ .shr → slowB op (.i k (.ofNat a)) (.i k (.ofNat b)) = slowI op k a b := by
    intro h1 h2
    cases op <;> first | exact absurd rfl h1 | exact absurd rfl h2 | exact if_pos rfl
  have red : ∀ x : Nat, x < 2 ^ k.bits → k.wrap (x : Int) = x := fun x hx => by
    rw [uwrap hk]; norm_cast; exact Nat.mod_eq_of_lt hx
  cases op
  case shl => rfl
  case shr => rfl
  case add => rw [sl (by simp) (by simp)]; exact mkU_eq hk (by rw [uwrap hk]; rfl)
  case sub =>
    rw [sl (by simp) (by simp)]
    refine mkU_eq hk ?_
    rw [uwrap hk]
    have h1 := Nat.mod_lt b hw
    have hb := Nat.div_add_mod b (2 ^ k.bits)
    show ((a : Int) - b) % _ = (((a + (2 ^ k.bits - b % 2 ^ k.bits)) % 2 ^ k.bits : Nat) : Int)
    generalize 2 ^ k.bits = W at *
    have e : (a : Int) - b = ((a + (W - b % W) : Nat) : Int) + (W : Int) * (-((b / W : Nat) : Int) - 1) := by
      have e2 : (W : Int) * ((b / W : Nat) : Int) = ((W * (b / W) : Nat) : Int) := by simp
      rw [Int.mul_sub, Int.mul_neg, Int.mul_one, e2]
      generalize W * (b / W) = t at *
      generalize b % W = r at *
      omega
    rw [e, Int.add_mul_emod_self_left]
    simp
  case mul => rw [sl (by simp) (by simp)]; exact mkU_eq hk (by rw [uwrap hk]; rfl)
  case quo =>
    rw [sl (by simp) (by simp)]
    show (Bool.rec (mkU k (Nat.mod (Nat.div a b) (2 ^ k.bits))) (slowI .quo k a b) (Nat.beq b 0) : V) = slowI .quo k a b
    cases hz : Nat.beq b 0
    · have hb : b ≠ 0 := by intro e; subst e; cases hz
      have hb' : ¬ (b : Int) = 0 := by omega
      show mkU k (Nat.mod (Nat.div a b) (2 ^ k.bits)) = if (b : Int) = 0 then .bad else mkI k (k.wrap ((a : Int).tdiv b))
      rw [if_neg hb']
      exact mkU_eq hk (by rw [uwrap hk]; rfl)
    · rfl
  case rem =>
    rw [sl (by simp) (by simp)]
    show (Bool.rec (mkU k (Nat.mod a b)) (slowI .rem k a b) (Nat.beq b 0) : V) = slowI .rem k a b
    cases hz : Nat.beq b 0
    · have hb : b ≠ 0 := by intro e; subst e; cases hz
      have hb' : ¬ (b : Int) = 0 := by omega
      show mkU k (Nat.mod a b) = if (b : Int) = 0 then .bad else mkI k ((a : Int).tmod b)
      rw [if_neg hb']
      exact mkU_eq hk (by rfl)
    · rfl
  case and =>
    rw [sl (by simp) (by simp)]
    refine mkU_eq hk ?_
    show k.wrap _ = _
    rw [BitVec.toNat_and]
    erw [ubits, ubits]
    exact red _ (Nat.lt_of_le_of_lt Nat.and_le_left (Nat.mod_lt _ hw))
  case or =>
    rw [sl (by simp) (by simp)]
    refine mkU_eq hk ?_
    show k.wrap _ = _
    rw [BitVec.toNat_or]
    erw [ubits, ubits]
    exact red _ (Nat.or_lt_two_pow (Nat.mod_lt _ hw) (Nat.mod_lt _ hw))
  case xor =>
    rw [sl (by simp) (by simp)]
    refine mkU_eq hk ?_
    show k.wrap _ = _
    rw [BitVec.toNat_xor]
    erw [ubits, ubits]
    exact red _ (Nat.xor_lt_two_pow (Nat.mod_lt _ hw) (Nat.mod_lt _ hw))
  case andNot =>
    rw [sl (by simp) (by simp)]
    refine mkU_eq hk ?_
    show k.wrap _ = _
    rw [BitVec.toNat_and, BitVec.toNat_not]
    erw [ubits, ubits]
    exact red _ (Nat.lt_of_le_of_lt Nat.and_le_left (Nat.mod_lt _ hw))
  case eql =>
    rw [sl (by simp) (by simp)]
    show fB _ = fB _
    congr 1
    rw [Bool.eq_iff_iff]; simp [Nat.beq_eq]; omega
  case neq =>
    rw [sl (by simp) (by simp)]
    show (Bool.rec (.b true) (.b false) (Nat.beq a b) : V) = fB _
    rw [fB_eq]
    cases he : Nat.beq a b
    · have : a ≠ b := by intro e; subst e; simp at he
      show V.b true = _; congr 1; simp; omega
    · have : a = b := by simpa [Nat.beq_eq] using he
      show V.b false = _; congr 1; simp [this]
  case lss => rw [sl (by simp) (by simp)]; show fB _ = fB _; congr 1; rw [Bool.eq_iff_iff]; simp [Nat.blt_eq]
  case leq => rw [sl (by simp) (by simp)]; show fB _ = fB _; congr 1; rw [Bool.eq_iff_iff]; simp [Nat.ble_eq]
  case gtr => rw [sl (by simp) (by simp)]; show fB _ = fB _; congr 1; rw [Bool.eq_iff_iff]; simp [Nat.blt_eq]
  case geq => rw [sl (by simp) (by simp)]; show fB _ = fB _; congr 1; rw [Bool.eq_iff_iff]; simp [Nat.ble_eq]
theorem bits_inj {k k' : IntKind} (h : k.signed = false) (h' : k'.signed = false) (e : k.bits = k'.bits) : k = k' := by
  cases k <;> cases k' <;> first | rfl | exact absurd h (by decide) | exact absurd h' (by decide) | exact absurd e (by decide)
theorem midB_eq (op : BinOp) (x y : V) : midB op x y = slowB op x y := by
  unfold midB
  cases hx : x.asU with
  | no => rfl
  | y k m a =>
    cases hy : y.asU with
    | no => rfl
    | y k' m' b =>
      obtain ⟨rfl, rfl, h1⟩ := asU_y hx
      obtain ⟨rfl, rfl, h2⟩ := asU_y hy
      show (Bool.rec (slowB op _ _) (uOp op k (2 ^ k.bits) a b (slowB op _ _)) (Nat.beq k.bits k'.bits) : V) = _
      cases he : Nat.beq k.bits k'.bits
      · rfl
      · rw [Nat.beq_eq] at he
        obtain rfl := bits_inj h1 h2 he
        exact uOp_eq op h1 a b
/-- A shift of a number without a sign. -/
noncomputable def midL (x y : V) : V := UV.rec (motive := fun _ => V) (slowB .shl x y) (fun k m a => NV.rec (motive := fun _ => V) (slowB .shl x y) (fun b => Bool.rec (slowB .shl x y) (mkU k (Nat.mod (Nat.shiftLeft a b) (Nat.pow 2 m))) (Nat.ble b m)) y.asNat) x.asU
noncomputable def midR (x y : V) : V := UV.rec (motive := fun _ => V) (slowB .shr x y) (fun k m a => NV.rec (motive := fun _ => V) (slowB .shr x y) (fun b => Bool.rec (slowB .shr x y) (mkU k (Nat.shiftRight a b)) (Nat.ble b m)) y.asNat) x.asU
theorem asNat_y {v : V} {a : Nat} (h : v.asNat = .y a) : v = .n a ∨ ∃ k, v = .i k (.ofNat a) := by
  cases v with
  | n b => have h' : NV.y b = .y a := h; cases h'; exact .inl rfl
  | i k z =>
    cases z with
    | ofNat b => have h' : NV.y b = .y a := h; cases h'; exact .inr ⟨k, rfl⟩
    | negSucc b => have h' : NV.no = .y a := h; cases h'
  | _ => have h' : NV.no = .y a := h; cases h'
theorem onK_nat {β : Type} {v : V} {a : Nat} (h : v.asNat = .y a) (f : Int → β) (z : β) : onK v (fun _ b => f b) z = f a := by
  rcases asNat_y h with rfl | ⟨k, rfl⟩ <;> rfl
theorem midL_eq (x y : V) : midL x y = slowB .shl x y := by
  unfold midL
  cases hx : x.asU with
  | no => rfl
  | y k m a =>
    cases hy : y.asNat with
    | no => rfl
    | y b =>
      obtain ⟨rfl, rfl, h1⟩ := asU_y hx
      show (Bool.rec (slowB .shl _ y) (mkU k (Nat.mod (Nat.shiftLeft a b) (2 ^ k.bits))) (Nat.ble b k.bits) : V) = _
      cases he : Nat.ble b k.bits
      · rfl
      · rw [Nat.ble_eq] at he
        have e : slowB .shl (.i k (.ofNat a)) y = onK y (fun _ b => if b < 0 then .bad else mkI k (k.wrap ((a : Int) * 2 ^ (min b.toNat k.bits)))) .bad := rfl
        rw [e, onK_nat hy fun b => if b < 0 then .bad else mkI k (k.wrap ((a : Int) * 2 ^ (min b.toNat k.bits))), if_neg (by omega)]
        refine mkU_eq h1 ?_
        rw [uwrap h1, Int.toNat_natCast, Nat.min_eq_left he, show Nat.shiftLeft a b = a * 2 ^ b from Nat.shiftLeft_eq a b]
        show _ = ((a * 2 ^ b % 2 ^ k.bits : Nat) : Int)
        simp
theorem midR_eq (x y : V) : midR x y = slowB .shr x y := by
  unfold midR
  cases hx : x.asU with
  | no => rfl
  | y k m a =>
    cases hy : y.asNat with
    | no => rfl
    | y b =>
      obtain ⟨rfl, rfl, h1⟩ := asU_y hx
      show (Bool.rec (slowB .shr _ y) (mkU k (Nat.shiftRight a b)) (Nat.ble b k.bits) : V) = _
      cases he : Nat.ble b k.bits
      · rfl
      · rw [Nat.ble_eq] at he
        have e : slowB .shr (.i k (.ofNat a)) y = onK y (fun _ b => if b < 0 then .bad else mkI k ((a : Int).fdiv (2 ^ (min b.toNat k.bits)))) .bad := rfl
        rw [e, onK_nat hy fun b => if b < 0 then .bad else mkI k ((a : Int).fdiv (2 ^ (min b.toNat k.bits))), if_neg (by omega)]
        refine mkU_eq h1 ?_
        rw [Int.toNat_natCast, Nat.min_eq_left he, show Nat.shiftRight a b = a / 2 ^ b from Nat.shiftRight_eq_div_pow a b]
        have : ((2 : Int) ^ b) = ((2 ^ b : Nat) : Int) := by simp
        rw [this, Int.fdiv_eq_ediv_of_nonneg _ (Int.natCast_nonneg _)]
        rfl

noncomputable def bAdd' (x y : V) : V := onNN x y (fun a b => small (Nat.add a b) ((midB .add x y))) ((midB .add x y))
noncomputable def bSub' (x y : V) : V := onNN x y (fun a b => Bool.rec ((midB .sub x y)) (fN (Nat.sub a b) V.n) (Nat.ble b a)) ((midB .sub x y))
noncomputable def bMul' (x y : V) : V := onNN x y (fun a b => small (Nat.mul a b) ((midB .mul x y))) ((midB .mul x y))
noncomputable def bQuo' (x y : V) : V := onNN x y (fun a b => Bool.rec (fN (Nat.div a b) V.n) .bad (Nat.beq b 0)) ((midB .quo x y))
noncomputable def bRem' (x y : V) : V := onNN x y (fun a b => Bool.rec (fN (Nat.mod a b) V.n) .bad (Nat.beq b 0)) ((midB .rem x y))
noncomputable def bEq' (x y : V) : V := onNN x y (fun a b => fB (Nat.beq a b)) ((midB .eql x y))
noncomputable def bNe' (x y : V) : V := onNN x y (fun a b => Bool.rec (.b true) (.b false) (Nat.beq a b)) ((midB .neq x y))
noncomputable def bLt' (x y : V) : V := onNN x y (fun a b => fB (Nat.blt a b)) ((midB .lss x y))
noncomputable def bLe' (x y : V) : V := onNN x y (fun a b => fB (Nat.ble a b)) ((midB .leq x y))
noncomputable def bGt' (x y : V) : V := onNN x y (fun a b => fB (Nat.blt b a)) ((midB .gtr x y))
noncomputable def bGe' (x y : V) : V := onNN x y (fun a b => fB (Nat.ble b a)) ((midB .geq x y))
noncomputable def bShl' (x y : V) : V := onNN x y (fun a b => Bool.rec ((midL x y)) (small (Nat.shiftLeft a b) ((midL x y))) (Nat.ble b 64)) ((midL x y))
noncomputable def bShr' (x y : V) : V := onNN x y (fun a b => Bool.rec ((midR x y)) (fN (Nat.shiftRight a b) V.n) (Nat.ble b 64)) ((midR x y))
noncomputable def bAnd' (x y : V) : V := onNN x y (fun a b => fN (Nat.land a b) V.n) ((midB .and x y))
noncomputable def bOr' (x y : V) : V := onNN x y (fun a b => small (Nat.lor a b) ((midB .or x y))) ((midB .or x y))
noncomputable def bXor' (x y : V) : V := onNN x y (fun a b => small (Nat.xor a b) ((midB .xor x y))) ((midB .xor x y))
noncomputable def bAndNot' (x y : V) : V := (midB .andNot x y)
noncomputable def binV (op : BinOp) : V → V → V :=
  BinOp.rec (motive := fun _ => V → V → V) bAdd' bSub' bMul' bQuo' bRem' bAnd' bOr' bXor' bShl' bShr' bAndNot' bEq' bNe' bLt' bLe' bGt' bGe' op
theorem binV_eq (op : BinOp) (x y : V) : binV op x y = binV0 op x y := by
  cases op
  case add => show bAdd' x y = bAdd x y; unfold bAdd' bAdd; simp only [midB_eq]
  case sub => show bSub' x y = bSub x y; unfold bSub' bSub; simp only [midB_eq]
  case mul => show bMul' x y = bMul x y; unfold bMul' bMul; simp only [midB_eq]
  case quo => show bQuo' x y = bQuo x y; unfold bQuo' bQuo; simp only [midB_eq]
  case rem => show bRem' x y = bRem x y; unfold bRem' bRem; simp only [midB_eq]
  case and => show bAnd' x y = bAnd x y; unfold bAnd' bAnd; simp only [midB_eq]
  case or => show bOr' x y = bOr x y; unfold bOr' bOr; simp only [midB_eq]
  case xor => show bXor' x y = bXor x y; unfold bXor' bXor; simp only [midB_eq]
  case shl => show bShl' x y = bShl x y; unfold bShl' bShl; simp only [midL_eq]
  case shr => show bShr' x y = bShr x y; unfold bShr' bShr; simp only [midR_eq]
  case andNot => show bAndNot' x y = bAndNot x y; unfold bAndNot' bAndNot; simp only [midB_eq]
  case eql => show bEq' x y = bEq x y; unfold bEq' bEq; simp only [midB_eq]
  case neq => show bNe' x y = bNe x y; unfold bNe' bNe; simp only [midB_eq]
  case lss => show bLt' x y = bLt x y; unfold bLt' bLt; simp only [midB_eq]
  case leq => show bLe' x y = bLe x y; unfold bLe' bLe; simp only [midB_eq]
  case gtr => show bGt' x y = bGt x y; unfold bGt' bGt; simp only [midB_eq]
  case geq => show bGe' x y = bGe x y; unfold bGe' bGe; simp only [midB_eq]
theorem binV_sound (P : Program) (w : World) (g : Sig) (op : BinOp) (t : TypeId) (ox oy : Operand) {x y : V} {a b : Value} (ha : x.rel g a) (hb : y.rel g b) (h : binV op x y ≠ .bad) :
    ∃ u, (eqGuard op t ox oy a b).run P w = .ok () w ∧ (binOp op t a b).run P w = .ok u w ∧ (binV op x y).rel g u := by
  rw [binV_eq] at h ⊢
  exact binV0_sound P w g op t ox oy ha hb h
end Go.Proofs.Ytjhgingmbklhaaa.Ev
