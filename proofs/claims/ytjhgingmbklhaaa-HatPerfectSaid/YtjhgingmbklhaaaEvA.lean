/- An evaluator for the model's code: its values, its memory, and their plain laws. -/
import Derived.Orders
import Derived.Laws.AppendOwn
namespace Go.Proofs.Ytjhgingmbklhaaa.Ev
set_option linter.unusedVariables false
open Go

/-! Places of a tree. -/
inductive Pos where
  | h | o (p : Pos) | i (p : Pos)
  deriving DecidableEq, Repr, Inhabited

def Pos.num : Pos → Nat
  | .h => 1 | .o p => 2 * p.num | .i p => 2 * p.num + 1

theorem Pos.num_pos (p : Pos) : 1 ≤ p.num := by
  induction p <;> simp [Pos.num] <;> omega

theorem Pos.num_inj : ∀ {p q : Pos}, p.num = q.num → p = q
  | .h, .h, _ => rfl
  | .h, .o q, e => by have := q.num_pos; simp [Pos.num] at e; omega
  | .h, .i q, e => by have := q.num_pos; simp [Pos.num] at e; omega
  | .o p, .h, e => by have := p.num_pos; simp [Pos.num] at e; omega
  | .i p, .h, e => by have := p.num_pos; simp [Pos.num] at e; omega
  | .o p, .o q, e => by rw [Pos.num_inj (p := p) (q := q) (by simp [Pos.num] at e; omega)]
  | .i p, .i q, e => by rw [Pos.num_inj (p := p) (q := q) (by simp [Pos.num] at e; omega)]
  | .o p, .i q, e => by simp [Pos.num] at e; omega
  | .i p, .o q, e => by simp [Pos.num] at e; omega

/-- The place with a number (from 1 on), with fuel. -/
def posF : Nat → Nat → Pos
  | 0, _ => .h
  | f + 1, n => if n ≤ 1 then .h else if n % 2 = 0 then .o (posF f (n / 2)) else .i (posF f (n / 2))

theorem num_posF : ∀ (f n : Nat), 1 ≤ n → n < 2 ^ (f + 1) → (posF f n).num = n
  | 0, n, h1, h2 => by simp at h2; simp [posF, Pos.num]; omega
  | f + 1, n, h1, h2 => by
    rw [posF]
    split
    · simp [Pos.num]; omega
    · have ih := num_posF f (n / 2) (by omega) (by rw [Nat.pow_succ] at h2; omega)
      split <;> simp [Pos.num, ih] <;> omega

/-! Values. -/
mutual
inductive V where
  | bad
  | n (a : Nat)
  | i (k : IntKind) (z : Int)
  | b (x : Bool)
  | p (a : Pos) (off : Nat)
  | np
  | sl (a : Pos) (off esz len : Nat) (cap : Option Nat)
  | ns
  | ag (l : L)
  | tu (l : L)
  | fn (f : Nat) (a c : L)
  | nf
  | s (x : List Nat)
  | ifc (t : Nat) (v : V)
  | nif
  | mp (a : Pos)
  | nm
  | yl (a : Pos)
  | lp (N : Nat) (ps : Array Nat) (x y : Code)
inductive L where
  | nil
  | cons (v : V) (l : L)
end

instance : Inhabited V := ⟨.bad⟩
instance : Inhabited L := ⟨.nil⟩

def L.length : L → Nat
  | .nil => 0
  | .cons _ l => l.length + 1
def L.get : L → Nat → V
  | .nil, _ => .bad
  | .cons v _, 0 => v
  | .cons _ l, k + 1 => l.get k
def L.app : L → L → L
  | .nil, m => m
  | .cons v l, m => .cons v (l.app m)

/-- Where a block stands, where the part of it begins, and how many cells the block has. -/
abbrev Sig := Pos → Option (Nat × Nat × Nat)

mutual
/-- What a value stands for. 'bad' stands for anything. -/
def V.rel (g : Sig) : V → Value → Prop
  | .bad, _ => True
  | .n a, w => w = .int .i64 a ∧ a < 9223372036854775808
  | .i k z, w => w = .int k z
  | .b x, w => w = .bool x
  | .p a off, w => ∃ r base tot, g a = some (r, base, tot) ∧ w = .pointer (some ⟨r, base + off, none⟩)
  | .np, w => w = .pointer none
  | .sl a off esz len cap, w => ∃ r base tot c o', g a = some (r, base, tot) ∧ w = .slice (some ⟨r, o', none⟩) len c ∧ 0 < esz ∧ len ≤ c ∧ c ≤ maxLen ∧ (0 < c → o' = base + off) ∧
      base + off + c * esz ≤ tot ∧ (match cap with | some c' => c = c' | none => base + off + c * esz = tot)
  | .ns, w => w = .slice none 0 0
  | .ag l, w => ∃ vs, w = .agg ⟨vs⟩ ∧ l.rel g vs
  | .tu l, w => ∃ vs, w = .tuple ⟨vs⟩ ∧ l.rel g vs
  | .fn f a c, w => ∃ va vc, w = .func (.func f) ⟨va⟩ ⟨vc⟩ ∧ a.rel g va ∧ c.rel g vc
  | .nf, w => w = .nilFunc
  | .s x, w => w = .string ⟨⟨x.map UInt8.ofNat⟩⟩
  | .ifc t v, w => ∃ u, w = .iface t u ∧ v.rel g u
  | .nif, w => w = .nilIface
  | .mp a, w => ∃ r, g a = some (r, 1, 0) ∧ w = .map (some r)
  | .nm, w => w = .map none
  | .yl a, w => ∃ r, g a = some (r, 1, 0) ∧ w = .func (.yield r) #[] #[]
  | .lp N _ _ _, w => N ≠ 0 ∧ ∃ r, g (posF 63 N) = some (r, 1, 0) ∧ w = .pointer (some ⟨r, 0, none⟩)
def L.rel (g : Sig) : L → List Value → Prop
  | .nil, vs => vs = []
  | .cons v l, vs => ∃ u us, vs = u :: us ∧ v.rel g u ∧ l.rel g us
end

/-- What one map of blocks knows, the other one knows. -/
def Sig.le (g h : Sig) : Prop := ∀ a x, g a = some x → h a = some x

theorem Sig.le.refl (g : Sig) : g.le g := fun _ _ h => h
theorem Sig.le.trans {f g h : Sig} (a : f.le g) (b : g.le h) : f.le h := fun p x e => b p x (a p x e)

mutual
theorem V.rel_mono {g h : Sig} (hl : g.le h) : ∀ (v : V) {w : Value}, v.rel g w → v.rel h w
  | .bad, _, _ => by simp [V.rel]
  | .n _, _, e => by simpa [V.rel] using e
  | .i .., _, e => by simpa [V.rel] using e
  | .b _, _, e => by simpa [V.rel] using e
  | .p a off, _, e => by
    rw [V.rel] at e ⊢
    obtain ⟨r, base, tot, h1, h2⟩ := e
    exact ⟨r, base, tot, hl _ _ h1, h2⟩
  | .np, _, e => by simpa [V.rel] using e
  | .sl a off esz len cap, _, e => by
    rw [V.rel] at e ⊢
    obtain ⟨r, base, tot, c, o', h1, h2⟩ := e
    exact ⟨r, base, tot, c, o', hl _ _ h1, h2⟩
  | .ns, _, e => by simpa [V.rel] using e
  | .ag l, _, e => by
    rw [V.rel] at e ⊢
    obtain ⟨vs, h1, h2⟩ := e
    exact ⟨vs, h1, L.rel_mono hl l h2⟩
  | .tu l, _, e => by
    rw [V.rel] at e ⊢
    obtain ⟨vs, h1, h2⟩ := e
    exact ⟨vs, h1, L.rel_mono hl l h2⟩
  | .fn f a c, _, e => by
    rw [V.rel] at e ⊢
    obtain ⟨va, vc, h1, h2, h3⟩ := e
    exact ⟨va, vc, h1, L.rel_mono hl a h2, L.rel_mono hl c h3⟩
  | .nf, _, e => by simpa [V.rel] using e
  | .s _, _, e => by simpa [V.rel] using e
  | .ifc t v, _, e => by
    rw [V.rel] at e ⊢
    obtain ⟨u, h1, h2⟩ := e
    exact ⟨u, h1, V.rel_mono hl v h2⟩
  | .nif, _, e => by simpa [V.rel] using e
  | .mp a, _, e => by
    rw [V.rel] at e ⊢
    obtain ⟨r, h1, h2⟩ := e
    exact ⟨r, hl _ _ h1, h2⟩
  | .nm, _, e => by simpa [V.rel] using e
  | .yl a, _, e => by
    rw [V.rel] at e ⊢
    obtain ⟨r, h1, h2⟩ := e
    exact ⟨r, hl _ _ h1, h2⟩
  | .lp _ _ _ _, _, e => by
    rw [V.rel] at e ⊢
    obtain ⟨h0, r, h1, h2⟩ := e
    exact ⟨h0, r, hl _ _ h1, h2⟩
theorem L.rel_mono {g h : Sig} (hl : g.le h) : ∀ (l : L) {vs : List Value}, l.rel g vs → l.rel h vs
  | .nil, _, e => by simpa [L.rel] using e
  | .cons v l, _, e => by
    rw [L.rel] at e ⊢
    obtain ⟨u, us, h1, h2, h3⟩ := e
    exact ⟨u, us, h1, V.rel_mono hl v h2, L.rel_mono hl l h3⟩
end

theorem L.rel_length {g : Sig} : ∀ {l : L} {vs : List Value}, l.rel g vs → vs.length = l.length
  | .nil, _, e => by rw [L.rel] at e; subst e; rfl
  | .cons v l, _, e => by
    rw [L.rel] at e
    obtain ⟨u, us, rfl, _, h3⟩ := e
    simp [L.length, L.rel_length h3]

theorem L.rel_get {g : Sig} : ∀ {l : L} {vs : List Value} (k : Nat), l.rel g vs → (l.get k).rel g (vs.getD k undef)
  | .nil, _, k, _ => by simp [L.get, V.rel]
  | .cons v l, _, 0, e => by
    rw [L.rel] at e
    obtain ⟨u, us, rfl, h2, _⟩ := e
    simpa [L.get] using h2
  | .cons v l, _, k + 1, e => by
    rw [L.rel] at e
    obtain ⟨u, us, rfl, _, h3⟩ := e
    simpa [L.get] using L.rel_get k h3

theorem L.rel_app {g : Sig} : ∀ {l m : L} {vs us : List Value}, l.rel g vs → m.rel g us → (l.app m).rel g (vs ++ us)
  | .nil, _, _, _, e, f => by rw [L.rel] at e; subst e; simpa [L.app] using f
  | .cons v l, _, _, _, e, f => by
    rw [L.rel] at e
    obtain ⟨u, us, rfl, h2, h3⟩ := e
    exact ⟨u, _, rfl, h2, L.rel_app h3 f⟩

/-! Trees of values, by places: the cells of a block. What is done at a place is worked out once for each place. -/
inductive Tb where
  | lf | nd (l : Tb) (v : V) (r : Tb)
instance : Inhabited Tb := ⟨.lf⟩
noncomputable def Tb.vl : Tb → V := Tb.rec (motive := fun _ => V) .bad (fun _ v _ _ _ => v)
noncomputable def Tb.lt : Tb → Tb := Tb.rec (motive := fun _ => Tb) .lf (fun l _ _ _ _ => l)
noncomputable def Tb.rt : Tb → Tb := Tb.rec (motive := fun _ => Tb) .lf (fun _ _ r _ _ => r)
noncomputable def Tb.pt0 : Tb → V → Tb := Tb.rec (motive := fun _ => V → Tb) (fun x => .nd .lf x .lf) (fun l _ r _ _ x => .nd l x r)
noncomputable def Tb.ptl : Tb → Tb → Tb := Tb.rec (motive := fun _ => Tb → Tb) (fun l' => .nd l' .bad .lf) (fun _ v r _ _ l' => .nd l' v r)
noncomputable def Tb.ptr : Tb → Tb → Tb := Tb.rec (motive := fun _ => Tb → Tb) (fun r' => .nd .lf .bad r') (fun l v _ _ _ r' => .nd l v r')
noncomputable def Tb.fo : Tb → (Tb → Tb) → Tb := Tb.rec (motive := fun _ => (Tb → Tb) → Tb) (fun k => k .lf) (fun l v r _ _ k => k (.nd l v r))
structure BG where f : Tb → V
structure BP where f : Tb → V → Tb
noncomputable def Tb.gC : Pos → BG := Pos.rec (motive := fun _ => BG) ⟨fun t => t.vl⟩ (fun _ ih => ⟨fun t => ih.f t.lt⟩) (fun _ ih => ⟨fun t => ih.f t.rt⟩)
noncomputable def Tb.pC : Pos → BP := Pos.rec (motive := fun _ => BP) ⟨fun t x => t.pt0 x⟩ (fun _ ih => ⟨fun t x => (ih.f t.lt x).fo t.ptl⟩) (fun _ ih => ⟨fun t x => (ih.f t.rt x).fo t.ptr⟩)
noncomputable def Tb.get (p : Pos) (t : Tb) : V := (Tb.gC p).f t
noncomputable def Tb.set (x : V) (p : Pos) (t : Tb) : Tb := (Tb.pC p).f t x
theorem Tb.fo_eq (t : Tb) (k : Tb → Tb) : t.fo k = k t := by cases t <;> rfl
theorem Tb.set_o (x : V) (p : Pos) (t : Tb) : t.set x (.o p) = t.ptl (t.lt.set x p) := Tb.fo_eq _ _
theorem Tb.set_i (x : V) (p : Pos) (t : Tb) : t.set x (.i p) = t.ptr (t.rt.set x p) := Tb.fo_eq _ _
theorem Tb.get_lf : ∀ p, Tb.get p .lf = .bad
  | .h => rfl | .o p => Tb.get_lf p | .i p => Tb.get_lf p
theorem Tb.get_set (x : V) : ∀ (p q : Pos) (t : Tb), (t.set x p).get q = if q = p then x else t.get q
  | .h, .h, .lf => by simp; rfl
  | .h, .h, .nd l v r => by simp; rfl
  | .h, .o q, .lf => by rw [if_neg (by simp)]; rfl
  | .h, .o q, .nd l v r => by rw [if_neg (by simp)]; rfl
  | .h, .i q, .lf => by rw [if_neg (by simp)]; rfl
  | .h, .i q, .nd l v r => by rw [if_neg (by simp)]; rfl
  | .o p, .h, .lf => by rw [if_neg (by simp), Tb.set_o]; rfl
  | .o p, .h, .nd l v r => by rw [if_neg (by simp), Tb.set_o]; rfl
  | .o p, .i q, .lf => by rw [if_neg (by simp), Tb.set_o]; rfl
  | .o p, .i q, .nd l v r => by rw [if_neg (by simp), Tb.set_o]; rfl
  | .i p, .h, .lf => by rw [if_neg (by simp), Tb.set_i]; rfl
  | .i p, .h, .nd l v r => by rw [if_neg (by simp), Tb.set_i]; rfl
  | .i p, .o q, .lf => by rw [if_neg (by simp), Tb.set_i]; rfl
  | .i p, .o q, .nd l v r => by rw [if_neg (by simp), Tb.set_i]; rfl
  | .o p, .o q, .lf => by rw [Tb.set_o]; have := Tb.get_set x p q .lf; simp only [Pos.o.injEq]; exact this
  | .o p, .o q, .nd l v r => by rw [Tb.set_o]; have := Tb.get_set x p q l; simp only [Pos.o.injEq]; exact this
  | .i p, .i q, .lf => by rw [Tb.set_i]; have := Tb.get_set x p q .lf; simp only [Pos.i.injEq]; exact this
  | .i p, .i q, .nd l v r => by rw [Tb.set_i]; have := Tb.get_set x p q r; simp only [Pos.i.injEq]; exact this

/-! A place by its index. -/
noncomputable def Tb.aC : Nat → Nat → BG := Nat.rec (motive := fun _ => Nat → BG) (fun _ => ⟨fun t => t.vl⟩)
  (fun _ ih m => Bool.rec (Bool.rec ⟨fun t => (ih (Nat.div m 2)).f t.rt⟩ ⟨fun t => (ih (Nat.div m 2)).f t.lt⟩ (Nat.beq (Nat.mod m 2) 0)) ⟨fun t => t.vl⟩ (Nat.ble m 1))
noncomputable def Tb.sC : Nat → Nat → BP := Nat.rec (motive := fun _ => Nat → BP) (fun _ => ⟨fun t x => t.pt0 x⟩)
  (fun _ ih m => Bool.rec (Bool.rec ⟨fun t x => ((ih (Nat.div m 2)).f t.rt x).fo t.ptr⟩ ⟨fun t x => ((ih (Nat.div m 2)).f t.lt x).fo t.ptl⟩ (Nat.beq (Nat.mod m 2) 0)) ⟨fun t x => t.pt0 x⟩ (Nat.ble m 1))
theorem posF_cases (f m : Nat) : (m ≤ 1 ∧ Nat.ble m 1 = true ∧ posF (f + 1) m = .h) ∨ (Nat.ble m 1 = false ∧ Nat.beq (Nat.mod m 2) 0 = true ∧ posF (f + 1) m = .o (posF f (Nat.div m 2))) ∨ (Nat.ble m 1 = false ∧ Nat.beq (Nat.mod m 2) 0 = false ∧ posF (f + 1) m = .i (posF f (Nat.div m 2))) := by
  by_cases hm : m ≤ 1
  · exact .inl ⟨hm, by rw [Nat.ble_eq]; exact hm, by simp [posF, hm]⟩
  · have h1 : Nat.ble m 1 = false := by rw [← Bool.not_eq_true, Nat.ble_eq]; exact hm
    by_cases h0 : m % 2 = 0
    · exact .inr (.inl ⟨h1, by show Nat.beq (m % 2) 0 = true; rw [h0]; rfl, by rw [posF, if_neg hm, if_pos h0]; rfl⟩)
    · exact .inr (.inr ⟨h1, by show Nat.beq (m % 2) 0 = false; rw [show m % 2 = 1 by omega]; rfl, by rw [posF, if_neg hm, if_neg h0]; rfl⟩)
theorem Tb.aC_eq : ∀ (f m : Nat) (t : Tb), (Tb.aC f m).f t = t.get (posF f m)
  | 0, m, t => rfl
  | f + 1, m, t => by
    show (Bool.rec (Bool.rec ⟨fun t => (Tb.aC f (Nat.div m 2)).f t.rt⟩ ⟨fun t => (Tb.aC f (Nat.div m 2)).f t.lt⟩ (Nat.beq (Nat.mod m 2) 0)) ⟨fun t => t.vl⟩ (Nat.ble m 1) : BG).f t = _
    rcases posF_cases f m with ⟨_, h1, h2⟩ | ⟨h1, h0, h2⟩ | ⟨h1, h0, h2⟩
    · rw [h1, h2]; rfl
    · rw [h1, h0, h2]; exact Tb.aC_eq f _ t.lt
    · rw [h1, h0, h2]; exact Tb.aC_eq f _ t.rt
theorem Tb.sC_eq : ∀ (f m : Nat) (t : Tb) (x : V), (Tb.sC f m).f t x = t.set x (posF f m)
  | 0, m, t, x => rfl
  | f + 1, m, t, x => by
    show (Bool.rec (Bool.rec ⟨fun t x => ((Tb.sC f (Nat.div m 2)).f t.rt x).fo t.ptr⟩ ⟨fun t x => ((Tb.sC f (Nat.div m 2)).f t.lt x).fo t.ptl⟩ (Nat.beq (Nat.mod m 2) 0)) ⟨fun t x => t.pt0 x⟩ (Nat.ble m 1) : BP).f t x = _
    rcases posF_cases f m with ⟨_, h1, h2⟩ | ⟨h1, h0, h2⟩ | ⟨h1, h0, h2⟩
    · rw [h1, h2]; rfl
    · rw [h1, h0, h2, Tb.set_o]; show ((Tb.sC f (Nat.div m 2)).f t.lt x).fo t.ptl = _; rw [Tb.fo_eq, Tb.sC_eq f _ t.lt x]
    · rw [h1, h0, h2, Tb.set_i]; show ((Tb.sC f (Nat.div m 2)).f t.rt x).fo t.ptr = _; rw [Tb.fo_eq, Tb.sC_eq f _ t.rt x]
noncomputable def Tb.at (t : Tb) (m : Nat) : V := (Tb.aC 63 m).f t
noncomputable def Tb.setN (t : Tb) (m : Nat) (x : V) : Tb := (Tb.sC 63 m).f t x
theorem Tb.at_eq (t : Tb) (m : Nat) : t.at m = t.get (posF 63 m) := Tb.aC_eq 63 m t
theorem Tb.setN_eq (t : Tb) (m : Nat) (x : V) : t.setN m x = t.set x (posF 63 m) := Tb.sC_eq 63 m t x

/-! A frame's slots: the first of them in rows of rows of eight, all others in a tree. -/
structure N8 (α : Type) where
  (a0 a1 a2 a3 a4 a5 a6 a7 : α)
structure Sl (α : Type) where f : N8 α → α
structure Pt (α : Type) where f : N8 α → α → N8 α
noncomputable def pick8 {α : Type} (x0 x1 x2 x3 x4 x5 x6 x7 : α) (d : Nat) : α :=
  Nat.rec (motive := fun _ => α) x0 (fun d _ => Nat.rec (motive := fun _ => α) x1 (fun d _ => Nat.rec (motive := fun _ => α) x2 (fun d _ => Nat.rec (motive := fun _ => α) x3 (fun d _ => Nat.rec (motive := fun _ => α) x4 (fun d _ => Nat.rec (motive := fun _ => α) x5 (fun d _ => Nat.rec (motive := fun _ => α) x6 (fun _ _ => x7) d) d) d) d) d) d) d
noncomputable def sel (α : Type) : Nat → Sl α := pick8 ⟨fun t => t.a0⟩ ⟨fun t => t.a1⟩ ⟨fun t => t.a2⟩ ⟨fun t => t.a3⟩ ⟨fun t => t.a4⟩ ⟨fun t => t.a5⟩ ⟨fun t => t.a6⟩ ⟨fun t => t.a7⟩
noncomputable def put (α : Type) : Nat → Pt α := pick8
  ⟨fun t x => N8.rec (motive := fun _ => α → N8 α) (fun _ a1 a2 a3 a4 a5 a6 a7 x => ⟨x, a1, a2, a3, a4, a5, a6, a7⟩) t x⟩
  ⟨fun t x => N8.rec (motive := fun _ => α → N8 α) (fun a0 _ a2 a3 a4 a5 a6 a7 x => ⟨a0, x, a2, a3, a4, a5, a6, a7⟩) t x⟩
  ⟨fun t x => N8.rec (motive := fun _ => α → N8 α) (fun a0 a1 _ a3 a4 a5 a6 a7 x => ⟨a0, a1, x, a3, a4, a5, a6, a7⟩) t x⟩
  ⟨fun t x => N8.rec (motive := fun _ => α → N8 α) (fun a0 a1 a2 _ a4 a5 a6 a7 x => ⟨a0, a1, a2, x, a4, a5, a6, a7⟩) t x⟩
  ⟨fun t x => N8.rec (motive := fun _ => α → N8 α) (fun a0 a1 a2 a3 _ a5 a6 a7 x => ⟨a0, a1, a2, a3, x, a5, a6, a7⟩) t x⟩
  ⟨fun t x => N8.rec (motive := fun _ => α → N8 α) (fun a0 a1 a2 a3 a4 _ a6 a7 x => ⟨a0, a1, a2, a3, a4, x, a6, a7⟩) t x⟩
  ⟨fun t x => N8.rec (motive := fun _ => α → N8 α) (fun a0 a1 a2 a3 a4 a5 _ a7 x => ⟨a0, a1, a2, a3, a4, a5, x, a7⟩) t x⟩
  ⟨fun t x => N8.rec (motive := fun _ => α → N8 α) (fun a0 a1 a2 a3 a4 a5 a6 _ x => ⟨a0, a1, a2, a3, a4, a5, a6, x⟩) t x⟩
theorem lt8 {d : Nat} (h : d < 8) : d = 0 ∨ d = 1 ∨ d = 2 ∨ d = 3 ∨ d = 4 ∨ d = 5 ∨ d = 6 ∨ d = 7 := by omega
theorem sel_put {α : Type} {d e : Nat} (hd : d < 8) (he : e < 8) (t : N8 α) (x : α) : (sel α d).f ((put α e).f t x) = if d = e then x else (sel α d).f t := by
  obtain ⟨a0, a1, a2, a3, a4, a5, a6, a7⟩ := t
  rcases lt8 hd with rfl | rfl | rfl | rfl | rfl | rfl | rfl | rfl <;> rcases lt8 he with rfl | rfl | rfl | rfl | rfl | rfl | rfl | rfl <;> rfl
noncomputable def all8 {α : Type} (x : α) : N8 α := ⟨x, x, x, x, x, x, x, x⟩
theorem sel_all {α : Type} (x : α) {d : Nat} (hd : d < 8) : (sel α d).f (all8 x) = x := by
  rcases lt8 hd with rfl | rfl | rfl | rfl | rfl | rfl | rfl | rfl <;> rfl
abbrev E1 := N8 V
abbrev E2 := N8 E1
abbrev E3 := N8 E2
structure Tr where
  (lo m1 m2 m3 : E2) (hi : E3) (o : Tb)
noncomputable def em1 : E1 := all8 .bad
noncomputable def em2 : E2 := all8 em1
noncomputable def em3 : E3 := all8 em2
/-- No slot. -/
noncomputable def Tr.lf : Tr := ⟨em2, em2, em2, em2, em3, .lf⟩
noncomputable instance : Inhabited Tr := ⟨.lf⟩
structure G2 where f : E2 → V
structure P2 where f : E2 → V → E2
noncomputable def g2 (k : Nat) : G2 := ⟨fun t => (sel V (Nat.mod k 8)).f ((sel E1 (Nat.div k 8)).f t)⟩
noncomputable def p2 (k : Nat) : P2 := ⟨fun t x => (put E1 (Nat.div k 8)).f t ((put V (Nat.mod k 8)).f ((sel E1 (Nat.div k 8)).f t) x)⟩
theorem g2_p2 {k m : Nat} (hk : k < 64) (hm : m < 64) (t : E2) (x : V) : (g2 k).f ((p2 m).f t x) = if k = m then x else (g2 k).f t := by
  show (sel V (k % 8)).f ((sel E1 (k / 8)).f ((put E1 (m / 8)).f t ((put V (m % 8)).f ((sel E1 (m / 8)).f t) x))) = if k = m then x else (sel V (k % 8)).f ((sel E1 (k / 8)).f t)
  rw [sel_put (by omega) (by omega)]
  by_cases h1 : k / 8 = m / 8
  · rw [if_pos h1, sel_put (by omega) (by omega)]
    by_cases h2 : k % 8 = m % 8
    · rw [if_pos h2, if_pos (by omega)]
    · rw [if_neg h2, if_neg (by omega), h1]
  · rw [if_neg h1, if_neg (by omega)]
theorem g2_em {k : Nat} (hk : k < 64) : (g2 k).f em2 = .bad := by
  show (sel V (k % 8)).f ((sel E1 (k / 8)).f (all8 em1)) = _
  rw [sel_all _ (by omega)]; exact sel_all _ (by omega)
structure G3 where f : E3 → V
structure P3 where f : E3 → V → E3
noncomputable def g3 (k : Nat) : G3 := ⟨fun t => (g2 (Nat.mod k 64)).f ((sel E2 (Nat.div k 64)).f t)⟩
noncomputable def p3 (k : Nat) : P3 := ⟨fun t x => (put E2 (Nat.div k 64)).f t ((p2 (Nat.mod k 64)).f ((sel E2 (Nat.div k 64)).f t) x)⟩
theorem g3_p3 {k m : Nat} (hk : k < 512) (hm : m < 512) (t : E3) (x : V) : (g3 k).f ((p3 m).f t x) = if k = m then x else (g3 k).f t := by
  show (g2 (k % 64)).f ((sel E2 (k / 64)).f ((put E2 (m / 64)).f t ((p2 (m % 64)).f ((sel E2 (m / 64)).f t) x))) = if k = m then x else (g2 (k % 64)).f ((sel E2 (k / 64)).f t)
  rw [sel_put (by omega) (by omega)]
  by_cases h1 : k / 64 = m / 64
  · rw [if_pos h1, g2_p2 (by omega) (by omega)]
    by_cases h2 : k % 64 = m % 64
    · rw [if_pos h2, if_pos (by omega)]
    · rw [if_neg h2, if_neg (by omega), h1]
  · rw [if_neg h1, if_neg (by omega)]
theorem g3_em {k : Nat} (hk : k < 512) : (g3 k).f em3 = .bad := by
  show (g2 (k % 64)).f ((sel E2 (k / 64)).f (all8 em2)) = _
  rw [sel_all _ (by omega)]; exact g2_em (by omega)
structure TG where f : Tr → V
structure TP where f : Tr → V → Tr
/-- What is done in one of the six parts. -/
noncomputable def part6 {α : Type} (k : Nat) (x0 x1 x2 x3 x4 x5 : α) : α := Bool.rec (Bool.rec (Bool.rec (Bool.rec (Bool.rec x5 x4 (Nat.blt k 768)) x3 (Nat.blt k 256)) x2 (Nat.blt k 192)) x1 (Nat.blt k 128)) x0 (Nat.blt k 64)
theorem part6_cases {α : Type} (k : Nat) (x0 x1 x2 x3 x4 x5 : α) : (k < 64 ∧ part6 k x0 x1 x2 x3 x4 x5 = x0) ∨ (64 ≤ k ∧ k < 128 ∧ part6 k x0 x1 x2 x3 x4 x5 = x1) ∨ (128 ≤ k ∧ k < 192 ∧ part6 k x0 x1 x2 x3 x4 x5 = x2) ∨
    (192 ≤ k ∧ k < 256 ∧ part6 k x0 x1 x2 x3 x4 x5 = x3) ∨ (256 ≤ k ∧ k < 768 ∧ part6 k x0 x1 x2 x3 x4 x5 = x4) ∨ (768 ≤ k ∧ part6 k x0 x1 x2 x3 x4 x5 = x5) := by
  have ff : ∀ {m : Nat}, Nat.blt k m = false → m ≤ k := fun h => by rw [← Bool.not_eq_true, Nat.blt_eq] at h; omega
  have tt : ∀ {m : Nat}, Nat.blt k m = true → k < m := fun h => by rwa [Nat.blt_eq] at h
  unfold part6
  cases h1 : Nat.blt k 64
  · cases h2 : Nat.blt k 128
    · cases h3 : Nat.blt k 192
      · cases h4 : Nat.blt k 256
        · cases h5 : Nat.blt k 768
          · exact .inr (.inr (.inr (.inr (.inr ⟨ff h5, rfl⟩))))
          · exact .inr (.inr (.inr (.inr (.inl ⟨ff h4, tt h5, rfl⟩))))
        · exact .inr (.inr (.inr (.inl ⟨ff h3, tt h4, rfl⟩)))
      · exact .inr (.inr (.inl ⟨ff h2, tt h3, rfl⟩))
    · exact .inr (.inl ⟨ff h1, tt h2, rfl⟩)
  · exact .inl ⟨tt h1, rfl⟩
noncomputable def Tr.gC (p : Pos) : TG := part6 p.num ⟨fun t => (g2 p.num).f t.lo⟩ ⟨fun t => (g2 (p.num - 64)).f t.m1⟩ ⟨fun t => (g2 (p.num - 128)).f t.m2⟩ ⟨fun t => (g2 (p.num - 192)).f t.m3⟩ ⟨fun t => (g3 (p.num - 256)).f t.hi⟩ ⟨fun t => (Tb.gC p).f t.o⟩
noncomputable def Tr.pC (p : Pos) : TP := part6 p.num
  ⟨fun t x => Tr.rec (motive := fun _ => V → Tr) (fun lo m1 m2 m3 hi o x => ⟨(p2 p.num).f lo x, m1, m2, m3, hi, o⟩) t x⟩
  ⟨fun t x => Tr.rec (motive := fun _ => V → Tr) (fun lo m1 m2 m3 hi o x => ⟨lo, (p2 (p.num - 64)).f m1 x, m2, m3, hi, o⟩) t x⟩
  ⟨fun t x => Tr.rec (motive := fun _ => V → Tr) (fun lo m1 m2 m3 hi o x => ⟨lo, m1, (p2 (p.num - 128)).f m2 x, m3, hi, o⟩) t x⟩
  ⟨fun t x => Tr.rec (motive := fun _ => V → Tr) (fun lo m1 m2 m3 hi o x => ⟨lo, m1, m2, (p2 (p.num - 192)).f m3 x, hi, o⟩) t x⟩
  ⟨fun t x => Tr.rec (motive := fun _ => V → Tr) (fun lo m1 m2 m3 hi o x => ⟨lo, m1, m2, m3, (p3 (p.num - 256)).f hi x, o⟩) t x⟩
  ⟨fun t x => Tr.rec (motive := fun _ => V → Tr) (fun lo m1 m2 m3 hi o x => ⟨lo, m1, m2, m3, hi, (Tb.pC p).f o x⟩) t x⟩
noncomputable def Tr.get (p : Pos) (t : Tr) : V := (Tr.gC p).f t
noncomputable def Tr.set (x : V) (p : Pos) (t : Tr) : Tr := (Tr.pC p).f t x
theorem get_cases (p : Pos) : (p.num < 64 ∧ ∀ t, Tr.get p t = (g2 p.num).f t.lo) ∨ (64 ≤ p.num ∧ p.num < 128 ∧ ∀ t, Tr.get p t = (g2 (p.num - 64)).f t.m1) ∨ (128 ≤ p.num ∧ p.num < 192 ∧ ∀ t, Tr.get p t = (g2 (p.num - 128)).f t.m2) ∨
    (192 ≤ p.num ∧ p.num < 256 ∧ ∀ t, Tr.get p t = (g2 (p.num - 192)).f t.m3) ∨ (256 ≤ p.num ∧ p.num < 768 ∧ ∀ t, Tr.get p t = (g3 (p.num - 256)).f t.hi) ∨ (768 ≤ p.num ∧ ∀ t, Tr.get p t = t.o.get p) := by
  unfold Tr.get Tr.gC
  rcases part6_cases p.num (⟨fun t => (g2 p.num).f t.lo⟩ : TG) ⟨fun t => (g2 (p.num - 64)).f t.m1⟩ ⟨fun t => (g2 (p.num - 128)).f t.m2⟩ ⟨fun t => (g2 (p.num - 192)).f t.m3⟩ ⟨fun t => (g3 (p.num - 256)).f t.hi⟩ ⟨fun t => (Tb.gC p).f t.o⟩ with ⟨h, e⟩ | ⟨h, h', e⟩ | ⟨h, h', e⟩ | ⟨h, h', e⟩ | ⟨h, h', e⟩ | ⟨h, e⟩
  · exact .inl ⟨h, fun t => by rw [e]⟩
  · exact .inr (.inl ⟨h, h', fun t => by rw [e]⟩)
  · exact .inr (.inr (.inl ⟨h, h', fun t => by rw [e]⟩))
  · exact .inr (.inr (.inr (.inl ⟨h, h', fun t => by rw [e]⟩)))
  · exact .inr (.inr (.inr (.inr (.inl ⟨h, h', fun t => by rw [e]⟩))))
  · exact .inr (.inr (.inr (.inr (.inr ⟨h, fun t => by rw [e]; rfl⟩))))
theorem set_cases (p : Pos) : (p.num < 64 ∧ ∀ x t, Tr.set x p t = ⟨(p2 p.num).f t.lo x, t.m1, t.m2, t.m3, t.hi, t.o⟩) ∨ (64 ≤ p.num ∧ p.num < 128 ∧ ∀ x t, Tr.set x p t = ⟨t.lo, (p2 (p.num - 64)).f t.m1 x, t.m2, t.m3, t.hi, t.o⟩) ∨
    (128 ≤ p.num ∧ p.num < 192 ∧ ∀ x t, Tr.set x p t = ⟨t.lo, t.m1, (p2 (p.num - 128)).f t.m2 x, t.m3, t.hi, t.o⟩) ∨ (192 ≤ p.num ∧ p.num < 256 ∧ ∀ x t, Tr.set x p t = ⟨t.lo, t.m1, t.m2, (p2 (p.num - 192)).f t.m3 x, t.hi, t.o⟩) ∨
    (256 ≤ p.num ∧ p.num < 768 ∧ ∀ x t, Tr.set x p t = ⟨t.lo, t.m1, t.m2, t.m3, (p3 (p.num - 256)).f t.hi x, t.o⟩) ∨ (768 ≤ p.num ∧ ∀ x t, Tr.set x p t = ⟨t.lo, t.m1, t.m2, t.m3, t.hi, t.o.set x p⟩) := by
  unfold Tr.set Tr.pC
  generalize hx0 : (⟨fun t x => Tr.rec (motive := fun _ => V → Tr) (fun lo m1 m2 m3 hi o x => ⟨(p2 p.num).f lo x, m1, m2, m3, hi, o⟩) t x⟩ : TP) = x0
  generalize hx1 : (⟨fun t x => Tr.rec (motive := fun _ => V → Tr) (fun lo m1 m2 m3 hi o x => ⟨lo, (p2 (p.num - 64)).f m1 x, m2, m3, hi, o⟩) t x⟩ : TP) = x1
  generalize hx2 : (⟨fun t x => Tr.rec (motive := fun _ => V → Tr) (fun lo m1 m2 m3 hi o x => ⟨lo, m1, (p2 (p.num - 128)).f m2 x, m3, hi, o⟩) t x⟩ : TP) = x2
  generalize hx3 : (⟨fun t x => Tr.rec (motive := fun _ => V → Tr) (fun lo m1 m2 m3 hi o x => ⟨lo, m1, m2, (p2 (p.num - 192)).f m3 x, hi, o⟩) t x⟩ : TP) = x3
  generalize hx4 : (⟨fun t x => Tr.rec (motive := fun _ => V → Tr) (fun lo m1 m2 m3 hi o x => ⟨lo, m1, m2, m3, (p3 (p.num - 256)).f hi x, o⟩) t x⟩ : TP) = x4
  generalize hx5 : (⟨fun t x => Tr.rec (motive := fun _ => V → Tr) (fun lo m1 m2 m3 hi o x => ⟨lo, m1, m2, m3, hi, (Tb.pC p).f o x⟩) t x⟩ : TP) = x5
  rcases part6_cases p.num x0 x1 x2 x3 x4 x5 with ⟨h, e⟩ | ⟨h, h', e⟩ | ⟨h, h', e⟩ | ⟨h, h', e⟩ | ⟨h, h', e⟩ | ⟨h, e⟩
  · exact .inl ⟨h, fun x t => by rw [e, ← hx0]⟩
  · exact .inr (.inl ⟨h, h', fun x t => by rw [e, ← hx1]⟩)
  · exact .inr (.inr (.inl ⟨h, h', fun x t => by rw [e, ← hx2]⟩))
  · exact .inr (.inr (.inr (.inl ⟨h, h', fun x t => by rw [e, ← hx3]⟩)))
  · exact .inr (.inr (.inr (.inr (.inl ⟨h, h', fun x t => by rw [e, ← hx4]⟩))))
  · exact .inr (.inr (.inr (.inr (.inr ⟨h, fun x t => by rw [e, ← hx5]; rfl⟩))))
theorem Tr.get_lf (p : Pos) : Tr.get p .lf = .bad := by
  rcases get_cases p with ⟨h, e⟩ | ⟨h, h', e⟩ | ⟨h, h', e⟩ | ⟨h, h', e⟩ | ⟨h, h', e⟩ | ⟨h, e⟩ <;> rw [e]
  · exact g2_em h
  · have hk : p.num - 64 < 64 := by omega
    rw [show Tr.lf.m1 = em2 from rfl]; exact g2_em hk
  · have hk : p.num - 128 < 64 := by omega
    rw [show Tr.lf.m2 = em2 from rfl]; exact g2_em hk
  · have hk : p.num - 192 < 64 := by omega
    rw [show Tr.lf.m3 = em2 from rfl]; exact g2_em hk
  · have hk : p.num - 256 < 512 := by omega
    rw [show Tr.lf.hi = em3 from rfl]; exact g3_em hk
  · exact Tb.get_lf p
theorem Tr.get_set (x : V) (p q : Pos) (t : Tr) : (t.set x p).get q = if q = p then x else t.get q := by
  have ne : q.num ≠ p.num → ¬ q = p := fun h e => h (by rw [e])
  rcases get_cases q with ⟨h, e⟩ | ⟨h, h', e⟩ | ⟨h, h', e⟩ | ⟨h, h', e⟩ | ⟨h, h', e⟩ | ⟨h, e⟩ <;> rcases set_cases p with ⟨g, f⟩ | ⟨g, g', f⟩ | ⟨g, g', f⟩ | ⟨g, g', f⟩ | ⟨g, g', f⟩ | ⟨g, f⟩ <;> rw [e, f, e] <;> first
    | (rw [if_neg (ne (by omega))]; done)
    | (rw [g2_p2 (by omega) (by omega)]
       by_cases hq : q.num = p.num
       · rw [if_pos (by omega), if_pos (Pos.num_inj hq)]
       · rw [if_neg (by omega), if_neg (ne hq)])
    | (rw [g3_p3 (by omega) (by omega)]
       by_cases hq : q.num = p.num
       · rw [if_pos (by omega), if_pos (Pos.num_inj hq)]
       · rw [if_neg (by omega), if_neg (ne hq)])
    | exact Tb.get_set x p q t.o

/-! A frame as a tree, and back: its first slots. -/
noncomputable def Tr.toB (t : Tr) (n : Nat) : Tb := Nat.rec (motive := fun _ => Tb) .lf (fun k ih => ih.set (t.get (posF 63 (Nat.succ k))) (posF 63 (Nat.succ k))) n
noncomputable def Tb.toT (t : Tb) (n : Nat) : Tr := Nat.rec (motive := fun _ => Tr) .lf (fun k ih => ih.set (t.get (posF 63 (Nat.succ k))) (posF 63 (Nat.succ k))) n
theorem toB_get (t : Tr) (p : Pos) : ∀ n, (t.toB n).get p = .bad ∨ (t.toB n).get p = t.get p
  | 0 => .inl (Tb.get_lf p)
  | n + 1 => by
    show ((t.toB n).set (t.get (posF 63 (n + 1))) (posF 63 (n + 1))).get p = .bad ∨ ((t.toB n).set (t.get (posF 63 (n + 1))) (posF 63 (n + 1))).get p = t.get p
    rw [Tb.get_set]
    split
    · rename_i h; rw [h]; exact .inr rfl
    · exact toB_get t p n
theorem toT_get (t : Tb) (p : Pos) : ∀ n, (t.toT n).get p = .bad ∨ (t.toT n).get p = t.get p
  | 0 => .inl (Tr.get_lf p)
  | n + 1 => by
    show ((t.toT n).set (t.get (posF 63 (n + 1))) (posF 63 (n + 1))).get p = .bad ∨ ((t.toT n).set (t.get (posF 63 (n + 1))) (posF 63 (n + 1))).get p = t.get p
    rw [Tr.get_set]
    split
    · rename_i h; rw [h]; exact .inr rfl
    · exact toT_get t p n

/-! Blocks: of which type, how many cells, what a cell holds that was not written, and what was written. -/
structure Blk where
  el : TypeId
  size : Nat
  pr : Nat
  z : L
  m : Tb
instance : Inhabited Blk := ⟨⟨0, 0, 0, .nil, .lf⟩⟩

noncomputable def orZ (v z : V) : V := V.rec (motive_1 := fun _ => V) (motive_2 := fun _ => Unit) z (fun a => .n a) (fun k z => .i k z) (fun x => .b x) (fun a o => .p a o) .np
  (fun a o e l c => .sl a o e l c) .ns (fun l _ => .ag l) (fun l _ => .tu l) (fun f a c _ _ => .fn f a c) .nf (fun x => .s x) (fun t v _ => .ifc t v) .nif (fun a => .mp a) .nm (fun a => .yl a) (fun N ps x y => .lp N ps x y) () (fun _ _ _ _ => ()) v
theorem orZ_rel {g : Sig} {v z : V} {w : Value} (h : (orZ v z).rel g w) : (v = .bad ∧ z.rel g w) ∨ (v ≠ .bad ∧ v.rel g w) := by
  cases v <;> first | exact .inl ⟨rfl, h⟩ | exact .inr ⟨by simp, h⟩

noncomputable def nthL : Nat → L → V := fun i => Nat.rec (motive := fun _ => L → V)
  (fun l => L.rec (motive_1 := fun _ => Unit) (motive_2 := fun _ => V) () (fun _ => ()) (fun _ _ => ()) (fun _ => ()) (fun _ _ => ()) () (fun _ _ _ _ _ => ()) () (fun _ _ => ()) (fun _ _ => ()) (fun _ _ _ _ _ => ()) () (fun _ => ()) (fun _ _ _ => ()) () (fun _ => ()) () (fun _ => ()) (fun _ _ _ _ => ()) .bad (fun v _ _ _ => v) l)
  (fun _ ih l => L.rec (motive_1 := fun _ => Unit) (motive_2 := fun _ => V) () (fun _ => ()) (fun _ _ => ()) (fun _ => ()) (fun _ _ => ()) () (fun _ _ _ _ _ => ()) () (fun _ _ => ()) (fun _ _ => ()) (fun _ _ _ _ _ => ()) () (fun _ => ()) (fun _ _ _ => ()) () (fun _ => ()) () (fun _ => ()) (fun _ _ _ _ => ()) .bad (fun _ l _ _ => ih l) l) i
theorem nthL_eq : ∀ (i : Nat) (l : L), nthL i l = l.get i
  | 0, .nil => rfl | 0, .cons v l => rfl | i + 1, .nil => rfl
  | i + 1, .cons v l => by show nthL i l = _; rw [nthL_eq i l]; rfl

noncomputable def Blk.cell (b : Blk) (k : Nat) : V := orZ (b.m.at (Nat.succ k)) (nthL (Nat.mod k b.pr) b.z)

theorem Tb.at_lf (m : Nat) : Tb.at .lf m = .bad := by rw [Tb.at_eq, Tb.get_lf]
theorem cell_lf (el : TypeId) (size pr : Nat) (z : L) (k : Nat) : (Blk.mk el size pr z .lf).cell k = orZ .bad (nthL (Nat.mod k pr) z) := by
  unfold Blk.cell; rw [Tb.at_lf]

/-! The memory: a tree of blocks. -/
inductive Hp where
  | lf | nd (l : Hp) (v : Option Blk) (r : Hp)
instance : Inhabited Hp := ⟨.lf⟩
noncomputable def Hp.vl : Hp → Option Blk := Hp.rec (motive := fun _ => Option Blk) none (fun _ v _ _ _ => v)
noncomputable def Hp.lt : Hp → Hp := Hp.rec (motive := fun _ => Hp) .lf (fun l _ _ _ _ => l)
noncomputable def Hp.rt : Hp → Hp := Hp.rec (motive := fun _ => Hp) .lf (fun _ _ r _ _ => r)
/-- What is done at a place, worked out once for each place. -/
structure HG where f : Hp → Option Blk
structure HP where f : Hp → Option Blk → Hp
noncomputable def Hp.gC : Pos → HG := Pos.rec (motive := fun _ => HG) ⟨fun t => t.vl⟩ (fun _ ih => ⟨fun t => ih.f t.lt⟩) (fun _ ih => ⟨fun t => ih.f t.rt⟩)
noncomputable def Hp.get (p : Pos) (t : Hp) : Option Blk := (Hp.gC p).f t
noncomputable def Hp.pt0 : Hp → Option Blk → Hp := Hp.rec (motive := fun _ => Option Blk → Hp) (fun x => .nd .lf x .lf) (fun l _ r _ _ x => .nd l x r)
noncomputable def Hp.ptl : Hp → Hp → Hp := Hp.rec (motive := fun _ => Hp → Hp) (fun l' => .nd l' none .lf) (fun _ v r _ _ l' => .nd l' v r)
noncomputable def Hp.ptr : Hp → Hp → Hp := Hp.rec (motive := fun _ => Hp → Hp) (fun r' => .nd .lf none r') (fun l v _ _ _ r' => .nd l v r')
noncomputable def Hp.fo : Hp → (Hp → Hp) → Hp := Hp.rec (motive := fun _ => (Hp → Hp) → Hp) (fun k => k .lf) (fun l v r _ _ k => k (.nd l v r))
noncomputable def Hp.pC : Pos → HP := Pos.rec (motive := fun _ => HP) ⟨fun t x => t.pt0 x⟩ (fun _ ih => ⟨fun t x => (ih.f t.lt x).fo t.ptl⟩) (fun _ ih => ⟨fun t x => (ih.f t.rt x).fo t.ptr⟩)
noncomputable def Hp.put (x : Option Blk) (p : Pos) (t : Hp) : Hp := (Hp.pC p).f t x
theorem Hp.fo_eq (t : Hp) (k : Hp → Hp) : t.fo k = k t := by cases t <;> rfl
theorem Hp.put_o (x : Option Blk) (p : Pos) (t : Hp) : t.put x (.o p) = t.ptl (t.lt.put x p) := Hp.fo_eq _ _
theorem Hp.put_i (x : Option Blk) (p : Pos) (t : Hp) : t.put x (.i p) = t.ptr (t.rt.put x p) := Hp.fo_eq _ _
theorem Hp.get_lf : ∀ p, Hp.get p .lf = none
  | .h => rfl | .o p => Hp.get_lf p | .i p => Hp.get_lf p
theorem Hp.get_put (x : Option Blk) : ∀ (p q : Pos) (t : Hp), (t.put x p).get q = if q = p then x else t.get q
  | .h, .h, .lf => by simp; rfl
  | .h, .h, .nd l v r => by simp; rfl
  | .h, .o q, .lf => by rw [if_neg (by simp)]; rfl
  | .h, .o q, .nd l v r => by rw [if_neg (by simp)]; rfl
  | .h, .i q, .lf => by rw [if_neg (by simp)]; rfl
  | .h, .i q, .nd l v r => by rw [if_neg (by simp)]; rfl
  | .o p, .h, .lf => by rw [if_neg (by simp), Hp.put_o]; rfl
  | .o p, .h, .nd l v r => by rw [if_neg (by simp), Hp.put_o]; rfl
  | .o p, .i q, .lf => by rw [if_neg (by simp), Hp.put_o]; rfl
  | .o p, .i q, .nd l v r => by rw [if_neg (by simp), Hp.put_o]; rfl
  | .i p, .h, .lf => by rw [if_neg (by simp), Hp.put_i]; rfl
  | .i p, .h, .nd l v r => by rw [if_neg (by simp), Hp.put_i]; rfl
  | .i p, .o q, .lf => by rw [if_neg (by simp), Hp.put_i]; rfl
  | .i p, .o q, .nd l v r => by rw [if_neg (by simp), Hp.put_i]; rfl
  | .o p, .o q, .lf => by rw [Hp.put_o]; have := Hp.get_put x p q .lf; simp only [Pos.o.injEq]; exact this
  | .o p, .o q, .nd l v r => by rw [Hp.put_o]; have := Hp.get_put x p q l; simp only [Pos.o.injEq]; exact this
  | .i p, .i q, .lf => by rw [Hp.put_i]; have := Hp.get_put x p q .lf; simp only [Pos.i.injEq]; exact this
  | .i p, .i q, .nd l v r => by rw [Hp.put_i]; have := Hp.get_put x p q r; simp only [Pos.i.injEq]; exact this

end Go.Proofs.Ytjhgingmbklhaaa.Ev
