/- The evaluator's arithmetic, and that the model answers so. -/
import Derived.Test.YtkdbgkibifigiaaEvB
namespace Go.Proofs.Ytkdbgkibifigiaa.Ev
set_option linter.unusedVariables false
open Go

noncomputable def onN {β : Type} : V → (Nat → β) → β → β :=
  V.rec (motive_1 := fun _ => (Nat → β) → β → β) (motive_2 := fun _ => Unit) (fun _ z => z) (fun a f _ => f a) (fun _ _ _ z => z) (fun _ _ z => z) (fun _ _ _ z => z) (fun _ z => z) (fun _ _ _ _ _ _ z => z)
    (fun _ z => z) (fun _ _ _ z => z) (fun _ _ _ z => z) (fun _ _ _ _ _ _ z => z) (fun _ z => z) (fun _ _ z => z) (fun _ _ _ _ z => z) (fun _ z => z) (fun _ _ z => z) (fun _ z => z) () (fun _ _ _ _ => ())
noncomputable def onB {β : Type} : V → (Bool → β) → β → β :=
  V.rec (motive_1 := fun _ => (Bool → β) → β → β) (motive_2 := fun _ => Unit) (fun _ z => z) (fun _ _ z => z) (fun _ _ _ z => z) (fun x f _ => f x) (fun _ _ _ z => z) (fun _ z => z) (fun _ _ _ _ _ _ z => z)
    (fun _ z => z) (fun _ _ _ z => z) (fun _ _ _ z => z) (fun _ _ _ _ _ _ z => z) (fun _ z => z) (fun _ _ z => z) (fun _ _ _ _ z => z) (fun _ z => z) (fun _ _ z => z) (fun _ z => z) () (fun _ _ _ _ => ())
noncomputable def onP {β : Type} : V → (Pos → Nat → β) → β → β :=
  V.rec (motive_1 := fun _ => (Pos → Nat → β) → β → β) (motive_2 := fun _ => Unit) (fun _ z => z) (fun _ _ z => z) (fun _ _ _ z => z) (fun _ _ z => z) (fun a o f _ => f a o) (fun _ z => z) (fun _ _ _ _ _ _ z => z)
    (fun _ z => z) (fun _ _ _ z => z) (fun _ _ _ z => z) (fun _ _ _ _ _ _ z => z) (fun _ z => z) (fun _ _ z => z) (fun _ _ _ _ z => z) (fun _ z => z) (fun _ _ z => z) (fun _ z => z) () (fun _ _ _ _ => ())
noncomputable def onS {β : Type} : V → (Pos → Nat → Nat → Nat → Option Nat → β) → β → β → β :=
  V.rec (motive_1 := fun _ => (Pos → Nat → Nat → Nat → Option Nat → β) → β → β → β) (motive_2 := fun _ => Unit) (fun _ _ z => z) (fun _ _ _ z => z) (fun _ _ _ _ z => z) (fun _ _ _ z => z) (fun _ _ _ _ z => z) (fun _ _ z => z) (fun a o e l c f _ _ => f a o e l c)
    (fun _ y _ => y) (fun _ _ _ _ z => z) (fun _ _ _ _ z => z) (fun _ _ _ _ _ _ _ z => z) (fun _ _ z => z) (fun _ _ _ z => z) (fun _ _ _ _ _ z => z) (fun _ _ z => z) (fun _ _ _ z => z) (fun _ _ z => z) () (fun _ _ _ _ => ())
noncomputable def onA {β : Type} : V → (L → β) → β → β :=
  V.rec (motive_1 := fun _ => (L → β) → β → β) (motive_2 := fun _ => Unit) (fun _ z => z) (fun _ _ z => z) (fun _ _ _ z => z) (fun _ _ z => z) (fun _ _ _ z => z) (fun _ z => z) (fun _ _ _ _ _ _ z => z)
    (fun _ z => z) (fun l _ f _ => f l) (fun _ _ _ z => z) (fun _ _ _ _ _ _ z => z) (fun _ z => z) (fun _ _ z => z) (fun _ _ _ _ z => z) (fun _ z => z) (fun _ _ z => z) (fun _ z => z) () (fun _ _ _ _ => ())
noncomputable def onT {β : Type} : V → (L → β) → β → β :=
  V.rec (motive_1 := fun _ => (L → β) → β → β) (motive_2 := fun _ => Unit) (fun _ z => z) (fun _ _ z => z) (fun _ _ _ z => z) (fun _ _ z => z) (fun _ _ _ z => z) (fun _ z => z) (fun _ _ _ _ _ _ z => z)
    (fun _ z => z) (fun _ _ _ z => z) (fun l _ f _ => f l) (fun _ _ _ _ _ _ z => z) (fun _ z => z) (fun _ _ z => z) (fun _ _ _ _ z => z) (fun _ z => z) (fun _ _ z => z) (fun _ z => z) () (fun _ _ _ _ => ())

section
variable {β : Type}
theorem onN_or (v : V) (f : Nat → β) (z : β) : (∃ a, v = .n a ∧ onN v f z = f a) ∨ onN v f z = z := by
  cases v <;> first | exact .inl ⟨_, rfl, rfl⟩ | exact .inr rfl
theorem onB_or (v : V) (f : Bool → β) (z : β) : (∃ a, v = .b a ∧ onB v f z = f a) ∨ onB v f z = z := by
  cases v <;> first | exact .inl ⟨_, rfl, rfl⟩ | exact .inr rfl
theorem onP_or (v : V) (f : Pos → Nat → β) (z : β) : (∃ a o, v = .p a o ∧ onP v f z = f a o) ∨ onP v f z = z := by
  cases v <;> first | exact .inl ⟨_, _, rfl, rfl⟩ | exact .inr rfl
theorem onS_or (v : V) (f : Pos → Nat → Nat → Nat → Option Nat → β) (y z : β) : (∃ a o e l c, v = .sl a o e l c ∧ onS v f y z = f a o e l c) ∨ (v = .ns ∧ onS v f y z = y) ∨ onS v f y z = z := by
  cases v <;> first | exact .inl ⟨_, _, _, _, _, rfl, rfl⟩ | exact .inr (.inl ⟨rfl, rfl⟩) | exact .inr (.inr rfl)
theorem onA_or (v : V) (f : L → β) (z : β) : (∃ a, v = .ag a ∧ onA v f z = f a) ∨ onA v f z = z := by
  cases v <;> first | exact .inl ⟨_, rfl, rfl⟩ | exact .inr rfl
theorem onT_or (v : V) (f : L → β) (z : β) : (∃ a, v = .tu a ∧ onT v f z = f a) ∨ onT v f z = z := by
  cases v <;> first | exact .inl ⟨_, rfl, rfl⟩ | exact .inr rfl
end

/-- A number that is not below 0, of any kind. -/
noncomputable def onI {β : Type} : V → (Nat → β) → β → β :=
  V.rec (motive_1 := fun _ => (Nat → β) → β → β) (motive_2 := fun _ => Unit) (fun _ z => z) (fun a f _ => f a) (fun _ i f z => Int.rec f (fun _ => z) i) (fun _ _ z => z) (fun _ _ _ z => z) (fun _ z => z) (fun _ _ _ _ _ _ z => z)
    (fun _ z => z) (fun _ _ _ z => z) (fun _ _ _ z => z) (fun _ _ _ _ _ _ z => z) (fun _ z => z) (fun _ _ z => z) (fun _ _ _ _ z => z) (fun _ z => z) (fun _ _ z => z) (fun _ z => z) () (fun _ _ _ _ => ())
theorem onI_or {β : Type} {g : Sig} {v : V} {u : Value} (h : v.rel g u) (f : Nat → β) (z : β) : (∃ (a : Nat) (k : IntKind), u = .int k (a : Int) ∧ onI v f z = f a) ∨ onI v f z = z := by
  cases v with
  | n a => rw [V.rel] at h; exact .inl ⟨a, .i64, h.1, rfl⟩
  | i k y => rw [V.rel] at h; cases y with
    | ofNat a => exact .inl ⟨a, k, h, rfl⟩
    | negSucc a => exact .inr rfl
  | _ => exact .inr rfl

noncomputable def fN {β : Type} (n : Nat) (k : Nat → β) : β := Nat.rec (motive := fun _ => (Nat → β) → β) (fun k => k 0) (fun m _ k => k (Nat.succ m)) n k
theorem fN_eq {β : Type} (n : Nat) (k : Nat → β) : fN n k = k n := by cases n <;> rfl
noncomputable def fB (b : Bool) : V := Bool.rec (.b false) (.b true) b
theorem fB_eq (b : Bool) : fB b = .b b := by cases b <;> rfl

/-- An integer of a kind as a value. -/
noncomputable def mkI (k : IntKind) (z : Int) : V :=
  match k, z with
  | .i64, .ofNat a => fN a fun a => Bool.rec (.i .i64 (.ofNat a)) (.n a) (Nat.blt a 9223372036854775808)
  | k, .ofNat a => fN a fun a => .i k (.ofNat a)
  | k, .negSucc a => fN a fun a => .i k (.negSucc a)
theorem mkI_rel (g : Sig) (k : IntKind) (z : Int) : (mkI k z).rel g (.int k z) := by
  cases z with
  | ofNat a =>
    cases k
    case i64 =>
      simp only [mkI, fN_eq]
      cases h : Nat.blt a 9223372036854775808
      · simp [V.rel]
      · simp only [V.rel]
        exact ⟨rfl, by simpa [Nat.blt_eq] using h⟩
    all_goals simp [mkI, fN_eq, V.rel]
  | negSucc a => cases k <;> simp [mkI, fN_eq, V.rel]
def onK {β : Type} (v : V) (f : IntKind → Int → β) (z : β) : β :=
  match v with
  | .n a => f .i64 (.ofNat a)
  | .i k y => f k y
  | _ => z
theorem onK_or {β : Type} {g : Sig} {v : V} {u : Value} (h : v.rel g u) (f : IntKind → Int → β) (z : β) : (∃ k a, u = .int k a ∧ onK v f z = f k a) ∨ onK v f z = z := by
  cases v with
  | n a => rw [V.rel] at h; exact .inl ⟨_, _, h.1, rfl⟩
  | i k y => rw [V.rel] at h; exact .inl ⟨_, _, h, rfl⟩
  | _ => exact .inr rfl

def IntKind.same (a b : IntKind) : Bool := decide (a = b)

/-- What an operation on two integers of one kind gives. -/
noncomputable def slowI (op : BinOp) (k : IntKind) (a b : Int) : V :=
  match op with
  | .add => mkI k (k.wrap (a + b))
  | .sub => mkI k (k.wrap (a - b))
  | .mul => mkI k (k.wrap (a * b))
  | .quo => if b = 0 then .bad else mkI k (k.wrap (a.tdiv b))
  | .rem => if b = 0 then .bad else mkI k (a.tmod b)
  | .and => mkI k (k.wrap (BitVec.ofInt k.bits a &&& BitVec.ofInt k.bits b).toNat)
  | .or => mkI k (k.wrap (BitVec.ofInt k.bits a ||| BitVec.ofInt k.bits b).toNat)
  | .xor => mkI k (k.wrap (BitVec.ofInt k.bits a ^^^ BitVec.ofInt k.bits b).toNat)
  | .andNot => mkI k (k.wrap (BitVec.ofInt k.bits a &&& ~~~ BitVec.ofInt k.bits b).toNat)
  | .eql => fB (a == b)
  | .neq => fB (a != b)
  | .lss => fB (decide (a < b))
  | .leq => fB (decide (a ≤ b))
  | .gtr => fB (decide (a > b))
  | .geq => fB (decide (a ≥ b))
  | .shl | .shr => .bad
noncomputable def slowB (op : BinOp) (x y : V) : V :=
  match op with
  | .shl => onK x (fun k a => onK y (fun _ b => if b < 0 then .bad else mkI k (k.wrap (a * 2 ^ (min b.toNat k.bits)))) .bad) .bad
  | .shr => onK x (fun k a => onK y (fun _ b => if b < 0 then .bad else mkI k (a.fdiv (2 ^ (min b.toNat k.bits)))) .bad) .bad
  | op => onK x (fun k a => onK y (fun k' b => if k = k' then slowI op k a b else .bad) .bad) .bad

theorem slowI_sound (P : Program) (w : World) (g : Sig) (op : BinOp) (t : TypeId) (k : IntKind) (a b : Int) (h : slowI op k a b ≠ .bad) :
    ∃ u, (binOp op t (.int k a) (.int k b)).run P w = .ok u w ∧ (slowI op k a b).rel g u := by
  cases op <;> simp only [slowI] at h ⊢
  case quo =>
    split at h
    · exact absurd rfl h
    · rename_i hb; rw [if_neg hb]; exact ⟨.int k (k.wrap (a.tdiv b)), by simp [binOp, Op.intDiv, hb], mkI_rel g _ _⟩
  case rem =>
    split at h
    · exact absurd rfl h
    · rename_i hb; rw [if_neg hb]; exact ⟨.int k (a.tmod b), by simp [binOp, Op.intDiv, hb], mkI_rel g _ _⟩
  case shl => exact absurd rfl h
  case shr => exact absurd rfl h
  case add => exact ⟨_, by simp only [binOp, ne_eq, not_true_eq_false, if_false, Op.intArith]; rfl, mkI_rel g _ _⟩
  case sub => exact ⟨_, by simp only [binOp, ne_eq, not_true_eq_false, if_false, Op.intArith]; rfl, mkI_rel g _ _⟩
  case mul => exact ⟨_, by simp only [binOp, ne_eq, not_true_eq_false, if_false, Op.intArith]; rfl, mkI_rel g _ _⟩
  case and => exact ⟨_, by simp only [binOp, ne_eq, not_true_eq_false, if_false, Op.intBits]; rfl, mkI_rel g _ _⟩
  case or => exact ⟨_, by simp only [binOp, ne_eq, not_true_eq_false, if_false, Op.intBits]; rfl, mkI_rel g _ _⟩
  case xor => exact ⟨_, by simp only [binOp, ne_eq, not_true_eq_false, if_false, Op.intBits]; rfl, mkI_rel g _ _⟩
  case andNot => exact ⟨_, by simp only [binOp, ne_eq, not_true_eq_false, if_false, Op.intBits]; rfl, mkI_rel g _ _⟩
  all_goals (rw [fB_eq]; exact ⟨_, by simp only [binOp, ne_eq, not_true_eq_false, if_false, Op.intCmp]; rfl, rfl⟩)

theorem slowB_sound (P : Program) (w : World) (g : Sig) (op : BinOp) (t : TypeId) (ox oy : Operand) {x y : V} {a b : Value} (ha : x.rel g a) (hb : y.rel g b) (h : slowB op x y ≠ .bad) :
    ∃ u, (eqGuard op t ox oy a b).run P w = .ok () w ∧ (binOp op t a b).run P w = .ok u w ∧ (slowB op x y).rel g u := by
  have key : onK x (fun k a => onK y (fun k' b => if k = k' then slowI op k a b else .bad) .bad) .bad ≠ .bad →
      ∃ u, (eqGuard op t ox oy a b).run P w = .ok () w ∧ (binOp op t a b).run P w = .ok u w ∧ (onK x (fun k a => onK y (fun k' b => if k = k' then slowI op k a b else .bad) .bad) .bad).rel g u := by
    intro h
    rcases onK_or ha (fun k a => onK y (fun k' b => if k = k' then slowI op k a b else .bad) .bad) .bad with ⟨k, z, rfl, e⟩ | e
    · rw [e] at h ⊢
      rcases onK_or hb (fun k' b => if k = k' then slowI op k z b else .bad) .bad with ⟨k', z', rfl, e'⟩ | e'
      · rw [e'] at h ⊢
        by_cases hk : k = k'
        · subst hk
          rw [if_pos rfl] at h ⊢
          obtain ⟨u, h1, h2⟩ := slowI_sound P w g op t k z z' h
          exact ⟨u, by rw [eqGuard_at_int]; rfl, h1, h2⟩
        · rw [if_neg hk] at h; exact absurd rfl h
      · rw [e'] at h; exact absurd rfl h
    · rw [e] at h; exact absurd rfl h
  cases op
  case shl =>
    simp only [slowB] at h ⊢
    rcases onK_or ha (fun k a => onK y (fun _ b => if b < 0 then .bad else mkI k (k.wrap (a * 2 ^ (min b.toNat k.bits)))) .bad) .bad with ⟨k, z, rfl, e⟩ | e
    · rw [e] at h ⊢
      rcases onK_or hb (fun _ b => if b < 0 then .bad else mkI k (k.wrap (z * 2 ^ (min b.toNat k.bits)))) .bad with ⟨k', z', rfl, e'⟩ | e'
      · rw [e'] at h ⊢
        by_cases hn : z' < 0
        · rw [if_pos hn] at h; exact absurd rfl h
        · rw [if_neg hn]
          exact ⟨_, by rw [eqGuard_at_int]; rfl, by simp only [binOp, Op.shift, if_neg hn]; rfl, mkI_rel g _ _⟩
      · rw [e'] at h; exact absurd rfl h
    · rw [e] at h; exact absurd rfl h
  case shr =>
    simp only [slowB] at h ⊢
    rcases onK_or ha (fun k a => onK y (fun _ b => if b < 0 then .bad else mkI k (a.fdiv (2 ^ (min b.toNat k.bits)))) .bad) .bad with ⟨k, z, rfl, e⟩ | e
    · rw [e] at h ⊢
      rcases onK_or hb (fun _ b => if b < 0 then .bad else mkI k (z.fdiv (2 ^ (min b.toNat k.bits)))) .bad with ⟨k', z', rfl, e'⟩ | e'
      · rw [e'] at h ⊢
        by_cases hn : z' < 0
        · rw [if_pos hn] at h; exact absurd rfl h
        · rw [if_neg hn]
          exact ⟨_, by rw [eqGuard_at_int]; rfl, by simp only [binOp, Op.shift, if_neg hn]; rfl, mkI_rel g _ _⟩
      · rw [e'] at h; exact absurd rfl h
    · rw [e] at h; exact absurd rfl h
  all_goals exact key h

/-! The quick ways: two integers of kind int, none of them below 0. -/
noncomputable def onNN (x y : V) (f : Nat → Nat → V) (s : V) : V := onN x (fun a => onN y (fun b => f a b) s) s
noncomputable def small (c : Nat) (s : V) : V := fN c fun c => Bool.rec s (.n c) (Nat.blt c 9223372036854775808)
noncomputable def bAdd (x y : V) : V := onNN x y (fun a b => small (Nat.add a b) (slowB .add x y)) (slowB .add x y)
noncomputable def bSub (x y : V) : V := onNN x y (fun a b => Bool.rec (slowB .sub x y) (fN (Nat.sub a b) V.n) (Nat.ble b a)) (slowB .sub x y)
noncomputable def bMul (x y : V) : V := onNN x y (fun a b => small (Nat.mul a b) (slowB .mul x y)) (slowB .mul x y)
noncomputable def bQuo (x y : V) : V := onNN x y (fun a b => Bool.rec (fN (Nat.div a b) V.n) .bad (Nat.beq b 0)) (slowB .quo x y)
noncomputable def bRem (x y : V) : V := onNN x y (fun a b => Bool.rec (fN (Nat.mod a b) V.n) .bad (Nat.beq b 0)) (slowB .rem x y)
noncomputable def bEq (x y : V) : V := onNN x y (fun a b => fB (Nat.beq a b)) (slowB .eql x y)
noncomputable def bNe (x y : V) : V := onNN x y (fun a b => Bool.rec (.b true) (.b false) (Nat.beq a b)) (slowB .neq x y)
noncomputable def bLt (x y : V) : V := onNN x y (fun a b => fB (Nat.blt a b)) (slowB .lss x y)
noncomputable def bLe (x y : V) : V := onNN x y (fun a b => fB (Nat.ble a b)) (slowB .leq x y)
noncomputable def bGt (x y : V) : V := onNN x y (fun a b => fB (Nat.blt b a)) (slowB .gtr x y)
noncomputable def bGe (x y : V) : V := onNN x y (fun a b => fB (Nat.ble b a)) (slowB .geq x y)
noncomputable def bShl (x y : V) : V := onNN x y (fun a b => Bool.rec (slowB .shl x y) (small (Nat.shiftLeft a b) (slowB .shl x y)) (Nat.ble b 64)) (slowB .shl x y)
noncomputable def bShr (x y : V) : V := onNN x y (fun a b => Bool.rec (slowB .shr x y) (fN (Nat.shiftRight a b) V.n) (Nat.ble b 64)) (slowB .shr x y)
noncomputable def bAnd (x y : V) : V := onNN x y (fun a b => fN (Nat.land a b) V.n) (slowB .and x y)
noncomputable def bOr (x y : V) : V := onNN x y (fun a b => small (Nat.lor a b) (slowB .or x y)) (slowB .or x y)
noncomputable def bXor (x y : V) : V := onNN x y (fun a b => small (Nat.xor a b) (slowB .xor x y)) (slowB .xor x y)
noncomputable def bAndNot (x y : V) : V := slowB .andNot x y
noncomputable def binV (op : BinOp) : V → V → V :=
  BinOp.rec (motive := fun _ => V → V → V) bAdd bSub bMul bQuo bRem bAnd bOr bXor bShl bShr bAndNot bEq bNe bLt bLe bGt bGe op

theorem onNN_sound (P : Program) (w : World) (g : Sig) (op : BinOp) (t : TypeId) (ox oy : Operand) {x y : V} {a b : Value} (ha : x.rel g a) (hb : y.rel g b) (f : Nat → Nat → V)
    (hf : ∀ p q : Nat, p < 9223372036854775808 → q < 9223372036854775808 → x = .n p → y = .n q → f p q ≠ .bad → f p q = slowB op x y ∨ ∃ u, (binOp op t (.int .i64 p) (.int .i64 q)).run P w = .ok u w ∧ (f p q).rel g u)
    (h : onNN x y f (slowB op x y) ≠ .bad) :
    ∃ u, (eqGuard op t ox oy a b).run P w = .ok () w ∧ (binOp op t a b).run P w = .ok u w ∧ (onNN x y f (slowB op x y)).rel g u := by
  unfold onNN at h ⊢
  rcases onN_or x (fun a => onN y (fun b => f a b) (slowB op x y)) (slowB op x y) with ⟨p, hp, e⟩ | e
  · rw [e] at h ⊢
    rcases onN_or y (fun b => f p b) (slowB op x y) with ⟨q, hq, e'⟩ | e'
    · rw [e'] at h ⊢
      have ha' := ha
      have hb' := hb
      rw [hp, V.rel] at ha'
      rw [hq, V.rel] at hb'
      rcases hf p q ha'.2 hb'.2 hp hq h with hs | ⟨u, h1, h2⟩
      · rw [hs] at h ⊢; exact slowB_sound P w g op t ox oy ha hb h
      · rw [ha'.1, hb'.1]; exact ⟨u, by rw [eqGuard_at_int]; rfl, h1, h2⟩
    · rw [e'] at h ⊢; exact slowB_sound P w g op t ox oy ha hb h
  · rw [e] at h ⊢; exact slowB_sound P w g op t ox oy ha hb h

theorem wrap_nat {c : Nat} (h : c < 9223372036854775808) : IntKind.i64.wrap (c : Int) = c := by
  rw [IntKind.wrap_i64]; omega

theorem small_or (c : Nat) (s : V) : (c < 9223372036854775808 ∧ small c s = .n c) ∨ small c s = s := by
  unfold small
  rw [fN_eq]
  cases h : Nat.blt c 9223372036854775808
  · exact .inr rfl
  · exact .inl ⟨by simpa [Nat.blt_eq] using h, rfl⟩

theorem rel_n (g : Sig) {c : Nat} {z : Int} (h : c < 9223372036854775808) (hz : z = c) : (V.n c).rel g (.int .i64 z) := by
  rw [V.rel]; exact ⟨by rw [hz], h⟩

theorem binV_sound (P : Program) (w : World) (g : Sig) (op : BinOp) (t : TypeId) (ox oy : Operand) {x y : V} {a b : Value} (ha : x.rel g a) (hb : y.rel g b) (h : binV op x y ≠ .bad) :
    ∃ u, (eqGuard op t ox oy a b).run P w = .ok () w ∧ (binOp op t a b).run P w = .ok u w ∧ (binV op x y).rel g u := by
  cases op
  case add =>
    refine onNN_sound P w g .add t ox oy ha hb _ (fun p q hp hq _ _ _ => ?_) h
    rcases small_or (Nat.add p q) (slowB .add x y) with ⟨hc, e⟩ | e
    · rw [e]; exact .inr ⟨.int .i64 (IntKind.i64.wrap (p + q)), by simp only [binOp, ne_eq, not_true_eq_false, if_false, Op.intArith]; rfl, rel_n g hc (by have := wrap_nat hc; exact this)⟩
    · exact .inl e
  case mul =>
    refine onNN_sound P w g .mul t ox oy ha hb _ (fun p q hp hq _ _ _ => ?_) h
    rcases small_or (Nat.mul p q) (slowB .mul x y) with ⟨hc, e⟩ | e
    · rw [e]; exact .inr ⟨.int .i64 (IntKind.i64.wrap (p * q)), by simp only [binOp, ne_eq, not_true_eq_false, if_false, Op.intArith]; rfl, rel_n g hc (by have := wrap_nat hc; exact this)⟩
    · exact .inl e
  case sub =>
    refine onNN_sound P w g .sub t ox oy ha hb _ (fun p q hp hq _ _ hne => ?_) h
    cases hle : Nat.ble q p
    · exact .inl rfl
    · rw [Nat.ble_eq] at hle
      refine .inr ⟨.int .i64 (IntKind.i64.wrap (p - q)), by simp only [binOp, ne_eq, not_true_eq_false, if_false, Op.intArith]; rfl, ?_⟩
      show V.rel g (fN (p - q) V.n) _
      rw [fN_eq]
      exact rel_n g (by omega) (by rw [← wrap_nat (c := p - q) (by omega)]; congr 1; omega)
  case quo =>
    refine onNN_sound P w g .quo t ox oy ha hb _ (fun p q hp hq _ _ hne => ?_) h
    cases hz : Nat.beq q 0
    · have hq0 : q ≠ 0 := by intro e; subst e; cases hz
      refine .inr ⟨.int .i64 (IntKind.i64.wrap ((p : Int).tdiv q)), by simp only [binOp, ne_eq, not_true_eq_false, if_false, Op.intDiv, Int.natCast_eq_zero, hq0]; rfl, ?_⟩
      show V.rel g (fN (p / q) V.n) _
      rw [fN_eq]
      have hlt : p / q < 9223372036854775808 := Nat.lt_of_le_of_lt (Nat.div_le_self _ _) hp
      exact rel_n g hlt (by rw [← wrap_nat hlt]; rfl)
    · rw [hz] at hne; exact absurd rfl hne
  case rem =>
    refine onNN_sound P w g .rem t ox oy ha hb _ (fun p q hp hq _ _ hne => ?_) h
    cases hz : Nat.beq q 0
    · have hq0 : q ≠ 0 := by intro e; subst e; cases hz
      refine .inr ⟨.int .i64 ((p : Int).tmod q), by simp only [binOp, ne_eq, not_true_eq_false, if_false, Op.intDiv, Int.natCast_eq_zero, hq0]; rfl, ?_⟩
      show V.rel g (fN (p % q) V.n) _
      rw [fN_eq]
      exact rel_n g (Nat.lt_of_le_of_lt (Nat.mod_le _ _) hp) rfl
    · rw [hz] at hne; exact absurd rfl hne
  case and =>
    refine onNN_sound P w g .and t ox oy ha hb _ (fun p q hp hq _ _ hne => ?_) h
    have hlt : p &&& q < 9223372036854775808 := Nat.lt_of_le_of_lt Nat.and_le_left hp
    refine .inr ⟨_, by simp only [binOp, ne_eq, not_true_eq_false, if_false, Op.intBits]; rfl, ?_⟩
    show V.rel g (fN (p &&& q) V.n) _
    rw [fN_eq]
    refine rel_n g hlt ?_
    rw [← wrap_nat hlt]
    congr 1
    show (((BitVec.ofInt 64 (p : Int)) &&& (BitVec.ofInt 64 (q : Int))).toNat : Int) = _
    rw [BitVec.ofInt_natCast, BitVec.ofInt_natCast, BitVec.toNat_and, BitVec.toNat_ofNat, BitVec.toNat_ofNat, Nat.mod_eq_of_lt (by omega), Nat.mod_eq_of_lt (by omega)]
  case or =>
    refine onNN_sound P w g .or t ox oy ha hb _ (fun p q hp hq _ _ hne => ?_) h
    rcases small_or (Nat.lor p q) (slowB .or x y) with ⟨hc, e⟩ | e
    · rw [e]
      refine .inr ⟨_, by simp only [binOp, ne_eq, not_true_eq_false, if_false, Op.intBits]; rfl, ?_⟩
      refine rel_n g hc ?_
      rw [← wrap_nat hc]
      congr 1
      show (((BitVec.ofInt 64 (p : Int)) ||| (BitVec.ofInt 64 (q : Int))).toNat : Int) = _
      rw [BitVec.ofInt_natCast, BitVec.ofInt_natCast, BitVec.toNat_or, BitVec.toNat_ofNat, BitVec.toNat_ofNat, Nat.mod_eq_of_lt (by omega), Nat.mod_eq_of_lt (by omega)]
      rfl
    · exact .inl e
  case xor =>
    refine onNN_sound P w g .xor t ox oy ha hb _ (fun p q hp hq _ _ hne => ?_) h
    rcases small_or (Nat.xor p q) (slowB .xor x y) with ⟨hc, e⟩ | e
    · rw [e]
      refine .inr ⟨_, by simp only [binOp, ne_eq, not_true_eq_false, if_false, Op.intBits]; rfl, ?_⟩
      refine rel_n g hc ?_
      rw [← wrap_nat hc]
      congr 1
      show (((BitVec.ofInt 64 (p : Int)) ^^^ (BitVec.ofInt 64 (q : Int))).toNat : Int) = _
      rw [BitVec.ofInt_natCast, BitVec.ofInt_natCast, BitVec.toNat_xor, BitVec.toNat_ofNat, BitVec.toNat_ofNat, Nat.mod_eq_of_lt (by omega), Nat.mod_eq_of_lt (by omega)]
      rfl
    · exact .inl e
  case andNot => exact slowB_sound P w g .andNot t ox oy ha hb h
  case shl =>
    refine onNN_sound P w g .shl t ox oy ha hb _ (fun p q hp hq _ _ hne => ?_) h
    cases hq64 : Nat.ble q 64
    · exact .inl rfl
    · rw [Nat.ble_eq] at hq64
      show small _ _ = _ ∨ ∃ u, _ ∧ V.rel g (small _ _) u
      rcases small_or (Nat.shiftLeft p q) (slowB .shl x y) with ⟨hc, e⟩ | e
      · rw [e]
        refine .inr ⟨.int .i64 (IntKind.i64.wrap ((p : Int) * 2 ^ q)), ?_, rel_n g hc ?_⟩
        · have hn : ¬ ((q : Int) < 0) := by omega
          simp only [binOp, Op.shift, if_neg hn, Int.toNat_natCast, IntKind.bits, Nat.min_eq_left hq64]; rfl
        · rw [← wrap_nat hc]
          have : Nat.shiftLeft p q = p * 2 ^ q := Nat.shiftLeft_eq p q
          rw [this]; simp
      · exact .inl e
  case shr =>
    refine onNN_sound P w g .shr t ox oy ha hb _ (fun p q hp hq _ _ hne => ?_) h
    cases hq64 : Nat.ble q 64
    · exact .inl rfl
    · rw [Nat.ble_eq] at hq64
      have hsr : Nat.shiftRight p q = p / 2 ^ q := Nat.shiftRight_eq_div_pow p q
      refine .inr ⟨.int .i64 ((p : Int).fdiv (2 ^ q)), ?_, ?_⟩
      · have hn : ¬ ((q : Int) < 0) := by omega
        simp only [binOp, Op.shift, if_neg hn, Int.toNat_natCast, IntKind.bits, Nat.min_eq_left hq64]; rfl
      · show V.rel g (fN (Nat.shiftRight p q) V.n) _
        rw [fN_eq, hsr]
        refine rel_n g (Nat.lt_of_le_of_lt (Nat.div_le_self _ _) hp) ?_
        have : ((2 : Int) ^ q) = ((2 ^ q : Nat) : Int) := by simp
        rw [this]
        rw [Int.fdiv_eq_ediv_of_nonneg _ (Int.natCast_nonneg _)]
        rfl
  case eql =>
    refine onNN_sound P w g .eql t ox oy ha hb _ (fun p q hp hq _ _ hne => .inr ⟨.bool ((p : Int) == q), by simp only [binOp, ne_eq, not_true_eq_false, if_false, Op.intCmp]; rfl, ?_⟩) h
    rw [fB_eq, V.rel]; congr 1
    rw [Bool.eq_iff_iff]; simp [Nat.beq_eq]; omega
  case neq =>
    refine onNN_sound P w g .neq t ox oy ha hb _ (fun p q hp hq _ _ hne => .inr ⟨.bool ((p : Int) != q), by simp only [binOp, ne_eq, not_true_eq_false, if_false, Op.intCmp]; rfl, ?_⟩) h
    cases he : Nat.beq p q
    · rw [V.rel]; congr 1
      have : p ≠ q := by intro e; subst e; simp at he
      simp; omega
    · rw [V.rel]; congr 1
      have : p = q := by simpa [Nat.beq_eq] using he
      simp [this]
  case lss =>
    refine onNN_sound P w g .lss t ox oy ha hb _ (fun p q hp hq _ _ hne => .inr ⟨.bool (decide ((p : Int) < q)), by simp only [binOp, ne_eq, not_true_eq_false, if_false, Op.intCmp]; rfl, ?_⟩) h
    rw [fB_eq, V.rel]; congr 1
    rw [Bool.eq_iff_iff]; simp [Nat.blt_eq]
  case leq =>
    refine onNN_sound P w g .leq t ox oy ha hb _ (fun p q hp hq _ _ hne => .inr ⟨.bool (decide ((p : Int) ≤ q)), by simp only [binOp, ne_eq, not_true_eq_false, if_false, Op.intCmp]; rfl, ?_⟩) h
    rw [fB_eq, V.rel]; congr 1
    rw [Bool.eq_iff_iff]; simp [Nat.ble_eq]
  case gtr =>
    refine onNN_sound P w g .gtr t ox oy ha hb _ (fun p q hp hq _ _ hne => .inr ⟨.bool (decide ((p : Int) > q)), by simp only [binOp, ne_eq, not_true_eq_false, if_false, Op.intCmp]; rfl, ?_⟩) h
    rw [fB_eq, V.rel]; congr 1
    rw [Bool.eq_iff_iff]; simp [Nat.blt_eq]
  case geq =>
    refine onNN_sound P w g .geq t ox oy ha hb _ (fun p q hp hq _ _ hne => .inr ⟨.bool (decide ((p : Int) ≥ q)), by simp only [binOp, ne_eq, not_true_eq_false, if_false, Op.intCmp]; rfl, ?_⟩) h
    rw [fB_eq, V.rel]; congr 1
    rw [Bool.eq_iff_iff]; simp [Nat.ble_eq]
end Go.Proofs.Ytkdbgkibifigiaa.Ev
