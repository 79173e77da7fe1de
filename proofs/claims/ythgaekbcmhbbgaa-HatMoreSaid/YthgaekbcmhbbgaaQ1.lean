/- The texts EvA, EvB, EvC, EvD, EvE. -/
import Derived.Orders
import Derived.Laws.AppendOwn
import Derived.Laws.Small
import Derived.Laws.MakeOwn
/- An evaluator for the model's code: its values, its memory, and their plain laws. -/
namespace Go.Proofs.Ythgaekbcmhbbgaa.Ev
set_option linter.unusedVariables false
open Go

/-! Places of a tree. -/
inductive Pos where
  | h | o (p : Pos) | i (p : Pos)
  deriving DecidableEq, Repr, Inhabited

def Pos.num : Pos → Nat
  | .h => 1 | .o p => 2 * p.num | .i p => 2 * p.num + 1

theorem Pos.num_pos (p : Pos) : 1 ≤ p.num := by
  induction p <;> simp [Pos.num] <;> omega

theorem Pos.num_inj : ∀ {p q : Pos}, p.num = q.num → p = q
  | .h, .h, _ => rfl
  | .h, .o q, e => by have := q.num_pos; simp [Pos.num] at e; omega
  | .h, .i q, e => by have := q.num_pos; simp [Pos.num] at e; omega
  | .o p, .h, e => by have := p.num_pos; simp [Pos.num] at e; omega
  | .i p, .h, e => by have := p.num_pos; simp [Pos.num] at e; omega
  | .o p, .o q, e => by rw [Pos.num_inj (p := p) (q := q) (by simp [Pos.num] at e; omega)]
  | .i p, .i q, e => by rw [Pos.num_inj (p := p) (q := q) (by simp [Pos.num] at e; omega)]
  | .o p, .i q, e => by simp [Pos.num] at e; omega
  | .i p, .o q, e => by simp [Pos.num] at e; omega

/-- The place with a number (from 1 on), with fuel. -/
def posF : Nat → Nat → Pos
  | 0, _ => .h
  | f + 1, n => if n ≤ 1 then .h else if n % 2 = 0 then .o (posF f (n / 2)) else .i (posF f (n / 2))

theorem num_posF : ∀ (f n : Nat), 1 ≤ n → n < 2 ^ (f + 1) → (posF f n).num = n
  | 0, n, h1, h2 => by simp at h2; simp [posF, Pos.num]; omega
  | f + 1, n, h1, h2 => by
    rw [posF]
    split
    · simp [Pos.num]; omega
    · have ih := num_posF f (n / 2) (by omega) (by rw [Nat.pow_succ] at h2; omega)
      split <;> simp [Pos.num, ih] <;> omega

/-! Values. -/
mutual
inductive V where
  | bad
  | n (a : Nat)
  | i (k : IntKind) (z : Int)
  | b (x : Bool)
  | p (a : Pos) (off : Nat)
  | np
  | sl (a : Pos) (off esz len : Nat) (cap : Option Nat)
  | ns
  | ag (l : L)
  | tu (l : L)
  | fn (f : Nat) (a c : L)
  | nf
  | s (x : List Nat)
  | ifc (t : Nat) (v : V)
  | nif
  | mp (a : Pos)
  | nm
  | yl (a : Pos)
  | lp (N : Nat) (ps : Array Nat) (x y : Code)
inductive L where
  | nil
  | cons (v : V) (l : L)
end

instance : Inhabited V := ⟨.bad⟩
instance : Inhabited L := ⟨.nil⟩

def L.length : L → Nat
  | .nil => 0
  | .cons _ l => l.length + 1
def L.get : L → Nat → V
  | .nil, _ => .bad
  | .cons v _, 0 => v
  | .cons _ l, k + 1 => l.get k
def L.app : L → L → L
  | .nil, m => m
  | .cons v l, m => .cons v (l.app m)

/-- Where a block stands, where the part of it begins, and how many cells the block has. -/
abbrev Sig := Pos → Option (Nat × Nat × Nat)

mutual
/-- What a value stands for. 'bad' stands for anything. -/
def V.rel (g : Sig) : V → Value → Prop
  | .bad, _ => True
  | .n a, w => w = .int .i64 a ∧ a < 9223372036854775808
  | .i k z, w => w = .int k z
  | .b x, w => w = .bool x
  | .p a off, w => ∃ r base tot, g a = some (r, base, tot) ∧ w = .pointer (some ⟨r, base + off, none⟩)
  | .np, w => w = .pointer none
  | .sl a off esz len cap, w => ∃ r base tot c o', g a = some (r, base, tot) ∧ w = .slice (some ⟨r, o', none⟩) len c ∧ 0 < esz ∧ len ≤ c ∧ c ≤ maxLen ∧ (0 < c → o' = base + off) ∧
      base + off + c * esz ≤ tot ∧ (match cap with | some c' => c = c' | none => base + off + c * esz = tot)
  | .ns, w => w = .slice none 0 0
  | .ag l, w => ∃ vs, w = .agg ⟨vs⟩ ∧ l.rel g vs
  | .tu l, w => ∃ vs, w = .tuple ⟨vs⟩ ∧ l.rel g vs
  | .fn f a c, w => ∃ va vc, w = .func (.func f) ⟨va⟩ ⟨vc⟩ ∧ a.rel g va ∧ c.rel g vc
  | .nf, w => w = .nilFunc
  | .s x, w => w = .string ⟨⟨x.map UInt8.ofNat⟩⟩
  | .ifc t v, w => ∃ u, w = .iface t u ∧ v.rel g u
  | .nif, w => w = .nilIface
  | .mp a, w => ∃ r, g a = some (r, 1, 0) ∧ w = .map (some r)
  | .nm, w => w = .map none
  | .yl a, w => ∃ r, g a = some (r, 1, 0) ∧ w = .func (.yield r) #[] #[]
  | .lp N _ _ _, w => N ≠ 0 ∧ ∃ r, g (posF 63 N) = some (r, 1, 0) ∧ w = .pointer (some ⟨r, 0, none⟩)
def L.rel (g : Sig) : L → List Value → Prop
  | .nil, vs => vs = []
  | .cons v l, vs => ∃ u us, vs = u :: us ∧ v.rel g u ∧ l.rel g us
end

/-- What one map of blocks knows, the other one knows. -/
def Sig.le (g h : Sig) : Prop := ∀ a x, g a = some x → h a = some x

theorem Sig.le.refl (g : Sig) : g.le g := fun _ _ h => h
theorem Sig.le.trans {f g h : Sig} (a : f.le g) (b : g.le h) : f.le h := fun p x e => b p x (a p x e)

mutual
theorem V.rel_mono {g h : Sig} (hl : g.le h) : ∀ (v : V) {w : Value}, v.rel g w → v.rel h w
  | .bad, _, _ => by simp [V.rel]
  | .n _, _, e => by simpa [V.rel] using e
  | .i .., _, e => by simpa [V.rel] using e
  | .b _, _, e => by simpa [V.rel] using e
  | .p a off, _, e => by
    rw [V.rel] at e ⊢
    obtain ⟨r, base, tot, h1, h2⟩ := e
    exact ⟨r, base, tot, hl _ _ h1, h2⟩
  | .np, _, e => by simpa [V.rel] using e
  | .sl a off esz len cap, _, e => by
    rw [V.rel] at e ⊢
    obtain ⟨r, base, tot, c, o', h1, h2⟩ := e
    exact ⟨r, base, tot, c, o', hl _ _ h1, h2⟩
  | .ns, _, e => by simpa [V.rel] using e
  | .ag l, _, e => by
    rw [V.rel] at e ⊢
    obtain ⟨vs, h1, h2⟩ := e
    exact ⟨vs, h1, L.rel_mono hl l h2⟩
  | .tu l, _, e => by
    rw [V.rel] at e ⊢
    obtain ⟨vs, h1, h2⟩ := e
    exact ⟨vs, h1, L.rel_mono hl l h2⟩
  | .fn f a c, _, e => by
    rw [V.rel] at e ⊢
    obtain ⟨va, vc, h1, h2, h3⟩ := e
    exact ⟨va, vc, h1, L.rel_mono hl a h2, L.rel_mono hl c h3⟩
  | .nf, _, e => by simpa [V.rel] using e
  | .s _, _, e => by simpa [V.rel] using e
  | .ifc t v, _, e => by
    rw [V.rel] at e ⊢
    obtain ⟨u, h1, h2⟩ := e
    exact ⟨u, h1, V.rel_mono hl v h2⟩
  | .nif, _, e => by simpa [V.rel] using e
  | .mp a, _, e => by
    rw [V.rel] at e ⊢
    obtain ⟨r, h1, h2⟩ := e
    exact ⟨r, hl _ _ h1, h2⟩
  | .nm, _, e => by simpa [V.rel] using e
  | .yl a, _, e => by
    rw [V.rel] at e ⊢
    obtain ⟨r, h1, h2⟩ := e
    exact ⟨r, hl _ _ h1, h2⟩
  | .lp _ _ _ _, _, e => by
    rw [V.rel] at e ⊢
    obtain ⟨h0, r, h1, h2⟩ := e
    exact ⟨h0, r, hl _ _ h1, h2⟩
theorem L.rel_mono {g h : Sig} (hl : g.le h) : ∀ (l : L) {vs : List Value}, l.rel g vs → l.rel h vs
  | .nil, _, e => by simpa [L.rel] using e
  | .cons v l, _, e => by
    rw [L.rel] at e ⊢
    obtain ⟨u, us, h1, h2, h3⟩ := e
    exact ⟨u, us, h1, V.rel_mono hl v h2, L.rel_mono hl l h3⟩
end

theorem L.rel_length {g : Sig} : ∀ {l : L} {vs : List Value}, l.rel g vs → vs.length = l.length
  | .nil, _, e => by rw [L.rel] at e; subst e; rfl
  | .cons v l, _, e => by
    rw [L.rel] at e
    obtain ⟨u, us, rfl, _, h3⟩ := e
    simp [L.length, L.rel_length h3]

theorem L.rel_get {g : Sig} : ∀ {l : L} {vs : List Value} (k : Nat), l.rel g vs → (l.get k).rel g (vs.getD k undef)
  | .nil, _, k, _ => by simp [L.get, V.rel]
  | .cons v l, _, 0, e => by
    rw [L.rel] at e
    obtain ⟨u, us, rfl, h2, _⟩ := e
    simpa [L.get] using h2
  | .cons v l, _, k + 1, e => by
    rw [L.rel] at e
    obtain ⟨u, us, rfl, _, h3⟩ := e
    simpa [L.get] using L.rel_get k h3

theorem L.rel_app {g : Sig} : ∀ {l m : L} {vs us : List Value}, l.rel g vs → m.rel g us → (l.app m).rel g (vs ++ us)
  | .nil, _, _, _, e, f => by rw [L.rel] at e; subst e; simpa [L.app] using f
  | .cons v l, _, _, _, e, f => by
    rw [L.rel] at e
    obtain ⟨u, us, rfl, h2, h3⟩ := e
    exact ⟨u, _, rfl, h2, L.rel_app h3 f⟩

/-! Trees of values, by places: the cells of a block. What is done at a place is worked out once for each place. -/
inductive Tb where
  | lf | nd (l : Tb) (v : V) (r : Tb)
instance : Inhabited Tb := ⟨.lf⟩
noncomputable def Tb.vl : Tb → V := Tb.rec (motive := fun _ => V) .bad (fun _ v _ _ _ => v)
noncomputable def Tb.lt : Tb → Tb := Tb.rec (motive := fun _ => Tb) .lf (fun l _ _ _ _ => l)
noncomputable def Tb.rt : Tb → Tb := Tb.rec (motive := fun _ => Tb) .lf (fun _ _ r _ _ => r)
noncomputable def Tb.pt0 : Tb → V → Tb := Tb.rec (motive := fun _ => V → Tb) (fun x => .nd .lf x .lf) (fun l _ r _ _ x => .nd l x r)
noncomputable def Tb.ptl : Tb → Tb → Tb := Tb.rec (motive := fun _ => Tb → Tb) (fun l' => .nd l' .bad .lf) (fun _ v r _ _ l' => .nd l' v r)
noncomputable def Tb.ptr : Tb → Tb → Tb := Tb.rec (motive := fun _ => Tb → Tb) (fun r' => .nd .lf .bad r') (fun l v _ _ _ r' => .nd l v r')
noncomputable def Tb.fo : Tb → (Tb → Tb) → Tb := Tb.rec (motive := fun _ => (Tb → Tb) → Tb) (fun k => k .lf) (fun l v r _ _ k => k (.nd l v r))
structure BG where f : Tb → V
structure BP where f : Tb → V → Tb
noncomputable def Tb.gC : Pos → BG := Pos.rec (motive := fun _ => BG) ⟨fun t => t.vl⟩ (fun _ ih => ⟨fun t => ih.f t.lt⟩) (fun _ ih => ⟨fun t => ih.f t.rt⟩)
noncomputable def Tb.pC : Pos → BP := Pos.rec (motive := fun _ => BP) ⟨fun t x => t.pt0 x⟩ (fun _ ih => ⟨fun t x => (ih.f t.lt x).fo t.ptl⟩) (fun _ ih => ⟨fun t x => (ih.f t.rt x).fo t.ptr⟩)
noncomputable def Tb.get (p : Pos) (t : Tb) : V := (Tb.gC p).f t
noncomputable def Tb.set (x : V) (p : Pos) (t : Tb) : Tb := (Tb.pC p).f t x
theorem Tb.fo_eq (t : Tb) (k : Tb → Tb) : t.fo k = k t := by cases t <;> rfl
theorem Tb.set_o (x : V) (p : Pos) (t : Tb) : t.set x (.o p) = t.ptl (t.lt.set x p) := Tb.fo_eq _ _
theorem Tb.set_i (x : V) (p : Pos) (t : Tb) : t.set x (.i p) = t.ptr (t.rt.set x p) := Tb.fo_eq _ _
theorem Tb.get_lf : ∀ p, Tb.get p .lf = .bad
  | .h => rfl | .o p => Tb.get_lf p | .i p => Tb.get_lf p
theorem Tb.get_set (x : V) : ∀ (p q : Pos) (t : Tb), (t.set x p).get q = if q = p then x else t.get q
  | .h, .h, .lf => by simp; rfl
  | .h, .h, .nd l v r => by simp; rfl
  | .h, .o q, .lf => by rw [if_neg (by simp)]; rfl
  | .h, .o q, .nd l v r => by rw [if_neg (by simp)]; rfl
  | .h, .i q, .lf => by rw [if_neg (by simp)]; rfl
  | .h, .i q, .nd l v r => by rw [if_neg (by simp)]; rfl
  | .o p, .h, .lf => by rw [if_neg (by simp), Tb.set_o]; rfl
  | .o p, .h, .nd l v r => by rw [if_neg (by simp), Tb.set_o]; rfl
  | .o p, .i q, .lf => by rw [if_neg (by simp), Tb.set_o]; rfl
  | .o p, .i q, .nd l v r => by rw [if_neg (by simp), Tb.set_o]; rfl
  | .i p, .h, .lf => by rw [if_neg (by simp), Tb.set_i]; rfl
  | .i p, .h, .nd l v r => by rw [if_neg (by simp), Tb.set_i]; rfl
  | .i p, .o q, .lf => by rw [if_neg (by simp), Tb.set_i]; rfl
  | .i p, .o q, .nd l v r => by rw [if_neg (by simp), Tb.set_i]; rfl
  | .o p, .o q, .lf => by rw [Tb.set_o]; have := Tb.get_set x p q .lf; simp only [Pos.o.injEq]; exact this
  | .o p, .o q, .nd l v r => by rw [Tb.set_o]; have := Tb.get_set x p q l; simp only [Pos.o.injEq]; exact this
  | .i p, .i q, .lf => by rw [Tb.set_i]; have := Tb.get_set x p q .lf; simp only [Pos.i.injEq]; exact this
  | .i p, .i q, .nd l v r => by rw [Tb.set_i]; have := Tb.get_set x p q r; simp only [Pos.i.injEq]; exact this

/-! A place by its index. -/
noncomputable def Tb.aC : Nat → Nat → BG := Nat.rec (motive := fun _ => Nat → BG) (fun _ => ⟨fun t => t.vl⟩)
  (fun _ ih m => Bool.rec (Bool.rec ⟨fun t => (ih (Nat.div m 2)).f t.rt⟩ ⟨fun t => (ih (Nat.div m 2)).f t.lt⟩ (Nat.beq (Nat.mod m 2) 0)) ⟨fun t => t.vl⟩ (Nat.ble m 1))
noncomputable def Tb.sC : Nat → Nat → BP := Nat.rec (motive := fun _ => Nat → BP) (fun _ => ⟨fun t x => t.pt0 x⟩)
  (fun _ ih m => Bool.rec (Bool.rec ⟨fun t x => ((ih (Nat.div m 2)).f t.rt x).fo t.ptr⟩ ⟨fun t x => ((ih (Nat.div m 2)).f t.lt x).fo t.ptl⟩ (Nat.beq (Nat.mod m 2) 0)) ⟨fun t x => t.pt0 x⟩ (Nat.ble m 1))
theorem posF_cases (f m : Nat) : (m ≤ 1 ∧ Nat.ble m 1 = true ∧ posF (f + 1) m = .h) ∨ (Nat.ble m 1 = false ∧ Nat.beq (Nat.mod m 2) 0 = true ∧ posF (f + 1) m = .o (posF f (Nat.div m 2))) ∨ (Nat.ble m 1 = false ∧ Nat.beq (Nat.mod m 2) 0 = false ∧ posF (f + 1) m = .i (posF f (Nat.div m 2))) := by
  by_cases hm : m ≤ 1
  · exact .inl ⟨hm, by rw [Nat.ble_eq]; exact hm, by simp [posF, hm]⟩
  · have h1 : Nat.ble m 1 = false := by rw [← Bool.not_eq_true, Nat.ble_eq]; exact hm
    by_cases h0 : m % 2 = 0
    · exact .inr (.inl ⟨h1, by show Nat.beq (m % 2) 0 = true; rw [h0]; rfl, by rw [posF, if_neg hm, if_pos h0]; rfl⟩)
    · exact .inr (.inr ⟨h1, by show Nat.beq (m % 2) 0 = false; rw [show m % 2 = 1 by omega]; rfl, by rw [posF, if_neg hm, if_neg h0]; rfl⟩)
theorem Tb.aC_eq : ∀ (f m : Nat) (t : Tb), (Tb.aC f m).f t = t.get (posF f m)
  | 0, m, t => rfl
  | f + 1, m, t => by
    show (Bool.rec (Bool.rec ⟨fun t => (Tb.aC f (Nat.div m 2)).f t.rt⟩ ⟨fun t => (Tb.aC f (Nat.div m 2)).f t.lt⟩ (Nat.beq (Nat.mod m 2) 0)) ⟨fun t => t.vl⟩ (Nat.ble m 1) : BG).f t = _
    rcases posF_cases f m with ⟨_, h1, h2⟩ | ⟨h1, h0, h2⟩ | ⟨h1, h0, h2⟩
    · rw [h1, h2]; rfl
    · rw [h1, h0, h2]; exact Tb.aC_eq f _ t.lt
    · rw [h1, h0, h2]; exact Tb.aC_eq f _ t.rt
theorem Tb.sC_eq : ∀ (f m : Nat) (t : Tb) (x : V), (Tb.sC f m).f t x = t.set x (posF f m)
  | 0, m, t, x => rfl
  | f + 1, m, t, x => by
    show (Bool.rec (Bool.rec ⟨fun t x => ((Tb.sC f (Nat.div m 2)).f t.rt x).fo t.ptr⟩ ⟨fun t x => ((Tb.sC f (Nat.div m 2)).f t.lt x).fo t.ptl⟩ (Nat.beq (Nat.mod m 2) 0)) ⟨fun t x => t.pt0 x⟩ (Nat.ble m 1) : BP).f t x = _
    rcases posF_cases f m with ⟨_, h1, h2⟩ | ⟨h1, h0, h2⟩ | ⟨h1, h0, h2⟩
    · rw [h1, h2]; rfl
    · rw [h1, h0, h2, Tb.set_o]; show ((Tb.sC f (Nat.div m 2)).f t.lt x).fo t.ptl = _; rw [Tb.fo_eq, Tb.sC_eq f _ t.lt x]
    · rw [h1, h0, h2, Tb.set_i]; show ((Tb.sC f (Nat.div m 2)).f t.rt x).fo t.ptr = _; rw [Tb.fo_eq, Tb.sC_eq f _ t.rt x]
noncomputable def Tb.at (t : Tb) (m : Nat) : V := (Tb.aC 63 m).f t
noncomputable def Tb.setN (t : Tb) (m : Nat) (x : V) : Tb := (Tb.sC 63 m).f t x
theorem Tb.at_eq (t : Tb) (m : Nat) : t.at m = t.get (posF 63 m) := Tb.aC_eq 63 m t
theorem Tb.setN_eq (t : Tb) (m : Nat) (x : V) : t.setN m x = t.set x (posF 63 m) := Tb.sC_eq 63 m t x

/-! A frame's slots: the first of them in rows of rows of eight, all others in a tree. -/
structure N8 (α : Type) where
  (a0 a1 a2 a3 a4 a5 a6 a7 : α)
structure Sl (α : Type) where f : N8 α → α
structure Pt (α : Type) where f : N8 α → α → N8 α
noncomputable def pick8 {α : Type} (x0 x1 x2 x3 x4 x5 x6 x7 : α) (d : Nat) : α :=
  Nat.rec (motive := fun _ => α) x0 (fun d _ => Nat.rec (motive := fun _ => α) x1 (fun d _ => Nat.rec (motive := fun _ => α) x2 (fun d _ => Nat.rec (motive := fun _ => α) x3 (fun d _ => Nat.rec (motive := fun _ => α) x4 (fun d _ => Nat.rec (motive := fun _ => α) x5 (fun d _ => Nat.rec (motive := fun _ => α) x6 (fun _ _ => x7) d) d) d) d) d) d) d
noncomputable def sel (α : Type) : Nat → Sl α := pick8 ⟨fun t => t.a0⟩ ⟨fun t => t.a1⟩ ⟨fun t => t.a2⟩ ⟨fun t => t.a3⟩ ⟨fun t => t.a4⟩ ⟨fun t => t.a5⟩ ⟨fun t => t.a6⟩ ⟨fun t => t.a7⟩
noncomputable def put (α : Type) : Nat → Pt α := pick8
  ⟨fun t x => N8.rec (motive := fun _ => α → N8 α) (fun _ a1 a2 a3 a4 a5 a6 a7 x => ⟨x, a1, a2, a3, a4, a5, a6, a7⟩) t x⟩
  ⟨fun t x => N8.rec (motive := fun _ => α → N8 α) (fun a0 _ a2 a3 a4 a5 a6 a7 x => ⟨a0, x, a2, a3, a4, a5, a6, a7⟩) t x⟩
  ⟨fun t x => N8.rec (motive := fun _ => α → N8 α) (fun a0 a1 _ a3 a4 a5 a6 a7 x => ⟨a0, a1, x, a3, a4, a5, a6, a7⟩) t x⟩
  ⟨fun t x => N8.rec (motive := fun _ => α → N8 α) (fun a0 a1 a2 _ a4 a5 a6 a7 x => ⟨a0, a1, a2, x, a4, a5, a6, a7⟩) t x⟩
  ⟨fun t x => N8.rec (motive := fun _ => α → N8 α) (fun a0 a1 a2 a3 _ a5 a6 a7 x => ⟨a0, a1, a2, a3, x, a5, a6, a7⟩) t x⟩
  ⟨fun t x => N8.rec (motive := fun _ => α → N8 α) (fun a0 a1 a2 a3 a4 _ a6 a7 x => ⟨a0, a1, a2, a3, a4, x, a6, a7⟩) t x⟩
  ⟨fun t x => N8.rec (motive := fun _ => α → N8 α) (fun a0 a1 a2 a3 a4 a5 _ a7 x => ⟨a0, a1, a2, a3, a4, a5, x, a7⟩) t x⟩
  ⟨fun t x => N8.rec (motive := fun _ => α → N8 α) (fun a0 a1 a2 a3 a4 a5 a6 _ x => ⟨a0, a1, a2, a3, a4, a5, a6, x⟩) t x⟩
theorem lt8 {d : Nat} (h : d < 8) : d = 0 ∨ d = 1 ∨ d = 2 ∨ d = 3 ∨ d = 4 ∨ d = 5 ∨ d = 6 ∨ d = 7 := by omega
theorem sel_put {α : Type} {d e : Nat} (hd : d < 8) (he : e < 8) (t : N8 α) (x : α) : (sel α d).f ((put α e).f t x) = if d = e then x else (sel α d).f t := by
  obtain ⟨a0, a1, a2, a3, a4, a5, a6, a7⟩ := t
  rcases lt8 hd with rfl | rfl | rfl | rfl | rfl | rfl | rfl | rfl <;> rcases lt8 he with rfl | rfl | rfl | rfl | rfl | rfl | rfl | rfl <;> rfl
noncomputable def all8 {α : Type} (x : α) : N8 α := ⟨x, x, x, x, x, x, x, x⟩
theorem sel_all {α : Type} (x : α) {d : Nat} (hd : d < 8) : (sel α d).f (all8 x) = x := by
  rcases lt8 hd with rfl | rfl | rfl | rfl | rfl | rfl | rfl | rfl <;> rfl
abbrev E1 := N8 V
abbrev E2 := N8 E1
abbrev E3 := N8 E2
structure Tr where
  (lo m1 m2 m3 : E2) (hi : E3) (o : Tb)
noncomputable def em1 : E1 := all8 .bad
noncomputable def em2 : E2 := all8 em1
noncomputable def em3 : E3 := all8 em2
/-- No slot. -/
noncomputable def Tr.lf : Tr := ⟨em2, em2, em2, em2, em3, .lf⟩
noncomputable instance : Inhabited Tr := ⟨.lf⟩
structure G2 where f : E2 → V
structure P2 where f : E2 → V → E2
noncomputable def g2 (k : Nat) : G2 := ⟨fun t => (sel V (Nat.mod k 8)).f ((sel E1 (Nat.div k 8)).f t)⟩
noncomputable def p2 (k : Nat) : P2 := ⟨fun t x => (put E1 (Nat.div k 8)).f t ((put V (Nat.mod k 8)).f ((sel E1 (Nat.div k 8)).f t) x)⟩
theorem g2_p2 {k m : Nat} (hk : k < 64) (hm : m < 64) (t : E2) (x : V) : (g2 k).f ((p2 m).f t x) = if k = m then x else (g2 k).f t := by
  show (sel V (k % 8)).f ((sel E1 (k / 8)).f ((put E1 (m / 8)).f t ((put V (m % 8)).f ((sel E1 (m / 8)).f t) x))) = if k = m then x else (sel V (k % 8)).f ((sel E1 (k / 8)).f t)
  rw [sel_put (by omega) (by omega)]
  by_cases h1 : k / 8 = m / 8
  · rw [if_pos h1, sel_put (by omega) (by omega)]
    by_cases h2 : k % 8 = m % 8
    · rw [if_pos h2, if_pos (by omega)]
    · rw [if_neg h2, if_neg (by omega), h1]
  · rw [if_neg h1, if_neg (by omega)]
theorem g2_em {k : Nat} (hk : k < 64) : (g2 k).f em2 = .bad := by
  show (sel V (k % 8)).f ((sel E1 (k / 8)).f (all8 em1)) = _
  rw [sel_all _ (by omega)]; exact sel_all _ (by omega)
structure G3 where f : E3 → V
structure P3 where f : E3 → V → E3
noncomputable def g3 (k : Nat) : G3 := ⟨fun t => (g2 (Nat.mod k 64)).f ((sel E2 (Nat.div k 64)).f t)⟩
noncomputable def p3 (k : Nat) : P3 := ⟨fun t x => (put E2 (Nat.div k 64)).f t ((p2 (Nat.mod k 64)).f ((sel E2 (Nat.div k 64)).f t) x)⟩
theorem g3_p3 {k m : Nat} (hk : k < 512) (hm : m < 512) (t : E3) (x : V) : (g3 k).f ((p3 m).f t x) = if k = m then x else (g3 k).f t := by
  show (g2 (k % 64)).f ((sel E2 (k / 64)).f ((put E2 (m / 64)).f t ((p2 (m % 64)).f ((sel E2 (m / 64)).f t) x))) = if k = m then x else (g2 (k % 64)).f ((sel E2 (k / 64)).f t)
  rw [sel_put (by omega) (by omega)]
  by_cases h1 : k / 64 = m / 64
  · rw [if_pos h1, g2_p2 (by omega) (by omega)]
    by_cases h2 : k % 64 = m % 64
    · rw [if_pos h2, if_pos (by omega)]
    · rw [if_neg h2, if_neg (by omega), h1]
  · rw [if_neg h1, if_neg (by omega)]
theorem g3_em {k : Nat} (hk : k < 512) : (g3 k).f em3 = .bad := by
  show (g2 (k % 64)).f ((sel E2 (k / 64)).f (all8 em2)) = _
  rw [sel_all _ (by omega)]; exact g2_em (by omega)
structure TG where f : Tr → V
structure TP where f : Tr → V → Tr
/-- What is done in one of the six parts. -/
noncomputable def part6 {α : Type} (k : Nat) (x0 x1 x2 x3 x4 x5 : α) : α := Bool.rec (Bool.rec (Bool.rec (Bool.rec (Bool.rec x5 x4 (Nat.blt k 768)) x3 (Nat.blt k 256)) x2 (Nat.blt k 192)) x1 (Nat.blt k 128)) x0 (Nat.blt k 64)
theorem part6_cases {α : Type} (k : Nat) (x0 x1 x2 x3 x4 x5 : α) : (k < 64 ∧ part6 k x0 x1 x2 x3 x4 x5 = x0) ∨ (64 ≤ k ∧ k < 128 ∧ part6 k x0 x1 x2 x3 x4 x5 = x1) ∨ (128 ≤ k ∧ k < 192 ∧ part6 k x0 x1 x2 x3 x4 x5 = x2) ∨
    (192 ≤ k ∧ k < 256 ∧ part6 k x0 x1 x2 x3 x4 x5 = x3) ∨ (256 ≤ k ∧ k < 768 ∧ part6 k x0 x1 x2 x3 x4 x5 = x4) ∨ (768 ≤ k ∧ part6 k x0 x1 x2 x3 x4 x5 = x5) := by
  have ff : ∀ {m : Nat}, Nat.blt k m = false → m ≤ k := fun h => by rw [← Bool.not_eq_true, Nat.blt_eq] at h; omega
  have tt : ∀ {m : Nat}, Nat.blt k m = true → k < m := fun h => by rwa [Nat.blt_eq] at h
  unfold part6
  cases h1 : Nat.blt k 64
  · cases h2 : Nat.blt k 128
    · cases h3 : Nat.blt k 192
      · cases h4 : Nat.blt k 256
        · cases h5 : Nat.blt k 768
          · exact .inr (.inr (.inr (.inr (.inr ⟨ff h5, rfl⟩))))
          · exact .inr (.inr (.inr (.inr (.inl ⟨ff h4, tt h5, rfl⟩))))
        · exact .inr (.inr (.inr (.inl ⟨ff h3, tt h4, rfl⟩)))
      · exact .inr (.inr (.inl ⟨ff h2, tt h3, rfl⟩))
    · exact .inr (.inl ⟨ff h1, tt h2, rfl⟩)
  · exact .inl ⟨tt h1, rfl⟩
noncomputable def Tr.gC (p : Pos) : TG := part6 p.num ⟨fun t => (g2 p.num).f t.lo⟩ ⟨fun t => (g2 (p.num - 64)).f t.m1⟩ ⟨fun t => (g2 (p.num - 128)).f t.m2⟩ ⟨fun t => (g2 (p.num - 192)).f t.m3⟩ ⟨fun t => (g3 (p.num - 256)).f t.hi⟩ ⟨fun t => (Tb.gC p).f t.o⟩
noncomputable def Tr.pC (p : Pos) : TP := part6 p.num
  ⟨fun t x => Tr.rec (motive := fun _ => V → Tr) (fun lo m1 m2 m3 hi o x => ⟨(p2 p.num).f lo x, m1, m2, m3, hi, o⟩) t x⟩
  ⟨fun t x => Tr.rec (motive := fun _ => V → Tr) (fun lo m1 m2 m3 hi o x => ⟨lo, (p2 (p.num - 64)).f m1 x, m2, m3, hi, o⟩) t x⟩
  ⟨fun t x => Tr.rec (motive := fun _ => V → Tr) (fun lo m1 m2 m3 hi o x => ⟨lo, m1, (p2 (p.num - 128)).f m2 x, m3, hi, o⟩) t x⟩
  ⟨fun t x => Tr.rec (motive := fun _ => V → Tr) (fun lo m1 m2 m3 hi o x => ⟨lo, m1, m2, (p2 (p.num - 192)).f m3 x, hi, o⟩) t x⟩
  ⟨fun t x => Tr.rec (motive := fun _ => V → Tr) (fun lo m1 m2 m3 hi o x => ⟨lo, m1, m2, m3, (p3 (p.num - 256)).f hi x, o⟩) t x⟩
  ⟨fun t x => Tr.rec (motive := fun _ => V → Tr) (fun lo m1 m2 m3 hi o x => ⟨lo, m1, m2, m3, hi, (Tb.pC p).f o x⟩) t x⟩
noncomputable def Tr.get (p : Pos) (t : Tr) : V := (Tr.gC p).f t
noncomputable def Tr.set (x : V) (p : Pos) (t : Tr) : Tr := (Tr.pC p).f t x
theorem get_cases (p : Pos) : (p.num < 64 ∧ ∀ t, Tr.get p t = (g2 p.num).f t.lo) ∨ (64 ≤ p.num ∧ p.num < 128 ∧ ∀ t, Tr.get p t = (g2 (p.num - 64)).f t.m1) ∨ (128 ≤ p.num ∧ p.num < 192 ∧ ∀ t, Tr.get p t = (g2 (p.num - 128)).f t.m2) ∨
    (192 ≤ p.num ∧ p.num < 256 ∧ ∀ t, Tr.get p t = (g2 (p.num - 192)).f t.m3) ∨ (256 ≤ p.num ∧ p.num < 768 ∧ ∀ t, Tr.get p t = (g3 (p.num - 256)).f t.hi) ∨ (768 ≤ p.num ∧ ∀ t, Tr.get p t = t.o.get p) := by
  unfold Tr.get Tr.gC
  rcases part6_cases p.num (⟨fun t => (g2 p.num).f t.lo⟩ : TG) ⟨fun t => (g2 (p.num - 64)).f t.m1⟩ ⟨fun t => (g2 (p.num - 128)).f t.m2⟩ ⟨fun t => (g2 (p.num - 192)).f t.m3⟩ ⟨fun t => (g3 (p.num - 256)).f t.hi⟩ ⟨fun t => (Tb.gC p).f t.o⟩ with ⟨h, e⟩ | ⟨h, h', e⟩ | ⟨h, h', e⟩ | ⟨h, h', e⟩ | ⟨h, h', e⟩ | ⟨h, e⟩
  · exact .inl ⟨h, fun t => by rw [e]⟩
  · exact .inr (.inl ⟨h, h', fun t => by rw [e]⟩)
  · exact .inr (.inr (.inl ⟨h, h', fun t => by rw [e]⟩))
  · exact .inr (.inr (.inr (.inl ⟨h, h', fun t => by rw [e]⟩)))
  · exact .inr (.inr (.inr (.inr (.inl ⟨h, h', fun t => by rw [e]⟩))))
  · exact .inr (.inr (.inr (.inr (.inr ⟨h, fun t => by rw [e]; rfl⟩))))
theorem set_cases (p : Pos) : (p.num < 64 ∧ ∀ x t, Tr.set x p t = ⟨(p2 p.num).f t.lo x, t.m1, t.m2, t.m3, t.hi, t.o⟩) ∨ (64 ≤ p.num ∧ p.num < 128 ∧ ∀ x t, Tr.set x p t = ⟨t.lo, (p2 (p.num - 64)).f t.m1 x, t.m2, t.m3, t.hi, t.o⟩) ∨
    (128 ≤ p.num ∧ p.num < 192 ∧ ∀ x t, Tr.set x p t = ⟨t.lo, t.m1, (p2 (p.num - 128)).f t.m2 x, t.m3, t.hi, t.o⟩) ∨ (192 ≤ p.num ∧ p.num < 256 ∧ ∀ x t, Tr.set x p t = ⟨t.lo, t.m1, t.m2, (p2 (p.num - 192)).f t.m3 x, t.hi, t.o⟩) ∨
    (256 ≤ p.num ∧ p.num < 768 ∧ ∀ x t, Tr.set x p t = ⟨t.lo, t.m1, t.m2, t.m3, (p3 (p.num - 256)).f t.hi x, t.o⟩) ∨ (768 ≤ p.num ∧ ∀ x t, Tr.set x p t = ⟨t.lo, t.m1, t.m2, t.m3, t.hi, t.o.set x p⟩) := by
  unfold Tr.set Tr.pC
  generalize hx0 : (⟨fun t x => Tr.rec (motive := fun _ => V → Tr) (fun lo m1 m2 m3 hi o x => ⟨(p2 p.num).f lo x, m1, m2, m3, hi, o⟩) t x⟩ : TP) = x0
  generalize hx1 : (⟨fun t x => Tr.rec (motive := fun _ => V → Tr) (fun lo m1 m2 m3 hi o x => ⟨lo, (p2 (p.num - 64)).f m1 x, m2, m3, hi, o⟩) t x⟩ : TP) = x1
  generalize hx2 : (⟨fun t x => Tr.rec (motive := fun _ => V → Tr) (fun lo m1 m2 m3 hi o x => ⟨lo, m1, (p2 (p.num - 128)).f m2 x, m3, hi, o⟩) t x⟩ : TP) = x2
  generalize hx3 : (⟨fun t x => Tr.rec (motive := fun _ => V → Tr) (fun lo m1 m2 m3 hi o x => ⟨lo, m1, m2, (p2 (p.num - 192)).f m3 x, hi, o⟩) t x⟩ : TP) = x3
  generalize hx4 : (⟨fun t x => Tr.rec (motive := fun _ => V → Tr) (fun lo m1 m2 m3 hi o x => ⟨lo, m1, m2, m3, (p3 (p.num - 256)).f hi x, o⟩) t x⟩ : TP) = x4
  generalize hx5 : (⟨fun t x => Tr.rec (motive := fun _ => V → Tr) (fun lo m1 m2 m3 hi o x => ⟨lo, m1, m2, m3, hi, (Tb.pC p).f o x⟩) t x⟩ : TP) = x5
  rcases part6_cases p.num x0 x1 x2 x3 x4 x5 with ⟨h, e⟩ | ⟨h, h', e⟩ | ⟨h, h', e⟩ | ⟨h, h', e⟩ | ⟨h, h', e⟩ | ⟨h, e⟩
  · exact .inl ⟨h, fun x t => by rw [e, ← hx0]⟩
  · exact .inr (.inl ⟨h, h', fun x t => by rw [e, ← hx1]⟩)
  · exact .inr (.inr (.inl ⟨h, h', fun x t => by rw [e, ← hx2]⟩))
  · exact .inr (.inr (.inr (.inl ⟨h, h', fun x t => by rw [e, ← hx3]⟩)))
  · exact .inr (.inr (.inr (.inr (.inl ⟨h, h', fun x t => by rw [e, ← hx4]⟩))))
  · exact .inr (.inr (.inr (.inr (.inr ⟨h, fun x t => by rw [e, ← hx5]; rfl⟩))))
theorem Tr.get_lf (p : Pos) : Tr.get p .lf = .bad := by
  rcases get_cases p with ⟨h, e⟩ | ⟨h, h', e⟩ | ⟨h, h', e⟩ | ⟨h, h', e⟩ | ⟨h, h', e⟩ | ⟨h, e⟩ <;> rw [e]
  · exact g2_em h
  · have hk : p.num - 64 < 64 := by omega
    rw [show Tr.lf.m1 = em2 from rfl]; exact g2_em hk
  · have hk : p.num - 128 < 64 := by omega
    rw [show Tr.lf.m2 = em2 from rfl]; exact g2_em hk
  · have hk : p.num - 192 < 64 := by omega
    rw [show Tr.lf.m3 = em2 from rfl]; exact g2_em hk
  · have hk : p.num - 256 < 512 := by omega
    rw [show Tr.lf.hi = em3 from rfl]; exact g3_em hk
  · exact Tb.get_lf p
theorem Tr.get_set (x : V) (p q : Pos) (t : Tr) : (t.set x p).get q = if q = p then x else t.get q := by
  have ne : q.num ≠ p.num → ¬ q = p := fun h e => h (by rw [e])
  rcases get_cases q with ⟨h, e⟩ | ⟨h, h', e⟩ | ⟨h, h', e⟩ | ⟨h, h', e⟩ | ⟨h, h', e⟩ | ⟨h, e⟩ <;> rcases set_cases p with ⟨g, f⟩ | ⟨g, g', f⟩ | ⟨g, g', f⟩ | ⟨g, g', f⟩ | ⟨g, g', f⟩ | ⟨g, f⟩ <;> rw [e, f, e] <;> first
    | (rw [if_neg (ne (by omega))]; done)
    | (rw [g2_p2 (by omega) (by omega)]
       by_cases hq : q.num = p.num
       · rw [if_pos (by omega), if_pos (Pos.num_inj hq)]
       · rw [if_neg (by omega), if_neg (ne hq)])
    | (rw [g3_p3 (by omega) (by omega)]
       by_cases hq : q.num = p.num
       · rw [if_pos (by omega), if_pos (Pos.num_inj hq)]
       · rw [if_neg (by omega), if_neg (ne hq)])
    | exact Tb.get_set x p q t.o

/-! A frame as a tree, and back: its first slots. -/
noncomputable def Tr.toB (t : Tr) (n : Nat) : Tb := Nat.rec (motive := fun _ => Tb) .lf (fun k ih => ih.set (t.get (posF 63 (Nat.succ k))) (posF 63 (Nat.succ k))) n
noncomputable def Tb.toT (t : Tb) (n : Nat) : Tr := Nat.rec (motive := fun _ => Tr) .lf (fun k ih => ih.set (t.get (posF 63 (Nat.succ k))) (posF 63 (Nat.succ k))) n
theorem toB_get (t : Tr) (p : Pos) : ∀ n, (t.toB n).get p = .bad ∨ (t.toB n).get p = t.get p
  | 0 => .inl (Tb.get_lf p)
  | n + 1 => by
    show ((t.toB n).set (t.get (posF 63 (n + 1))) (posF 63 (n + 1))).get p = .bad ∨ ((t.toB n).set (t.get (posF 63 (n + 1))) (posF 63 (n + 1))).get p = t.get p
    rw [Tb.get_set]
    split
    · rename_i h; rw [h]; exact .inr rfl
    · exact toB_get t p n
theorem toT_get (t : Tb) (p : Pos) : ∀ n, (t.toT n).get p = .bad ∨ (t.toT n).get p = t.get p
  | 0 => .inl (Tr.get_lf p)
  | n + 1 => by
    show ((t.toT n).set (t.get (posF 63 (n + 1))) (posF 63 (n + 1))).get p = .bad ∨ ((t.toT n).set (t.get (posF 63 (n + 1))) (posF 63 (n + 1))).get p = t.get p
    rw [Tr.get_set]
    split
    · rename_i h; rw [h]; exact .inr rfl
    · exact toT_get t p n

/-! Blocks: of which type, how many cells, what a cell holds that was not written, and what was written. -/
structure Blk where
  el : TypeId
  size : Nat
  pr : Nat
  z : L
  m : Tb
instance : Inhabited Blk := ⟨⟨0, 0, 0, .nil, .lf⟩⟩

noncomputable def orZ (v z : V) : V := V.rec (motive_1 := fun _ => V) (motive_2 := fun _ => Unit) z (fun a => .n a) (fun k z => .i k z) (fun x => .b x) (fun a o => .p a o) .np
  (fun a o e l c => .sl a o e l c) .ns (fun l _ => .ag l) (fun l _ => .tu l) (fun f a c _ _ => .fn f a c) .nf (fun x => .s x) (fun t v _ => .ifc t v) .nif (fun a => .mp a) .nm (fun a => .yl a) (fun N ps x y => .lp N ps x y) () (fun _ _ _ _ => ()) v
theorem orZ_rel {g : Sig} {v z : V} {w : Value} (h : (orZ v z).rel g w) : (v = .bad ∧ z.rel g w) ∨ (v ≠ .bad ∧ v.rel g w) := by
  cases v <;> first | exact .inl ⟨rfl, h⟩ | exact .inr ⟨by simp, h⟩

noncomputable def nthL : Nat → L → V := fun i => Nat.rec (motive := fun _ => L → V)
  (fun l => L.rec (motive_1 := fun _ => Unit) (motive_2 := fun _ => V) () (fun _ => ()) (fun _ _ => ()) (fun _ => ()) (fun _ _ => ()) () (fun _ _ _ _ _ => ()) () (fun _ _ => ()) (fun _ _ => ()) (fun _ _ _ _ _ => ()) () (fun _ => ()) (fun _ _ _ => ()) () (fun _ => ()) () (fun _ => ()) (fun _ _ _ _ => ()) .bad (fun v _ _ _ => v) l)
  (fun _ ih l => L.rec (motive_1 := fun _ => Unit) (motive_2 := fun _ => V) () (fun _ => ()) (fun _ _ => ()) (fun _ => ()) (fun _ _ => ()) () (fun _ _ _ _ _ => ()) () (fun _ _ => ()) (fun _ _ => ()) (fun _ _ _ _ _ => ()) () (fun _ => ()) (fun _ _ _ => ()) () (fun _ => ()) () (fun _ => ()) (fun _ _ _ _ => ()) .bad (fun _ l _ _ => ih l) l) i
theorem nthL_eq : ∀ (i : Nat) (l : L), nthL i l = l.get i
  | 0, .nil => rfl | 0, .cons v l => rfl | i + 1, .nil => rfl
  | i + 1, .cons v l => by show nthL i l = _; rw [nthL_eq i l]; rfl

noncomputable def Blk.cell (b : Blk) (k : Nat) : V := orZ (b.m.at (Nat.succ k)) (nthL (Nat.mod k b.pr) b.z)

theorem Tb.at_lf (m : Nat) : Tb.at .lf m = .bad := by rw [Tb.at_eq, Tb.get_lf]
theorem cell_lf (el : TypeId) (size pr : Nat) (z : L) (k : Nat) : (Blk.mk el size pr z .lf).cell k = orZ .bad (nthL (Nat.mod k pr) z) := by
  unfold Blk.cell; rw [Tb.at_lf]

/-! The memory: a tree of blocks. -/
inductive Hp where
  | lf | nd (l : Hp) (v : Option Blk) (r : Hp)
instance : Inhabited Hp := ⟨.lf⟩
noncomputable def Hp.vl : Hp → Option Blk := Hp.rec (motive := fun _ => Option Blk) none (fun _ v _ _ _ => v)
noncomputable def Hp.lt : Hp → Hp := Hp.rec (motive := fun _ => Hp) .lf (fun l _ _ _ _ => l)
noncomputable def Hp.rt : Hp → Hp := Hp.rec (motive := fun _ => Hp) .lf (fun _ _ r _ _ => r)
/-- What is done at a place, worked out once for each place. -/
structure HG where f : Hp → Option Blk
structure HP where f : Hp → Option Blk → Hp
noncomputable def Hp.gC : Pos → HG := Pos.rec (motive := fun _ => HG) ⟨fun t => t.vl⟩ (fun _ ih => ⟨fun t => ih.f t.lt⟩) (fun _ ih => ⟨fun t => ih.f t.rt⟩)
noncomputable def Hp.get (p : Pos) (t : Hp) : Option Blk := (Hp.gC p).f t
noncomputable def Hp.pt0 : Hp → Option Blk → Hp := Hp.rec (motive := fun _ => Option Blk → Hp) (fun x => .nd .lf x .lf) (fun l _ r _ _ x => .nd l x r)
noncomputable def Hp.ptl : Hp → Hp → Hp := Hp.rec (motive := fun _ => Hp → Hp) (fun l' => .nd l' none .lf) (fun _ v r _ _ l' => .nd l' v r)
noncomputable def Hp.ptr : Hp → Hp → Hp := Hp.rec (motive := fun _ => Hp → Hp) (fun r' => .nd .lf none r') (fun l v _ _ _ r' => .nd l v r')
noncomputable def Hp.fo : Hp → (Hp → Hp) → Hp := Hp.rec (motive := fun _ => (Hp → Hp) → Hp) (fun k => k .lf) (fun l v r _ _ k => k (.nd l v r))
noncomputable def Hp.pC : Pos → HP := Pos.rec (motive := fun _ => HP) ⟨fun t x => t.pt0 x⟩ (fun _ ih => ⟨fun t x => (ih.f t.lt x).fo t.ptl⟩) (fun _ ih => ⟨fun t x => (ih.f t.rt x).fo t.ptr⟩)
noncomputable def Hp.put (x : Option Blk) (p : Pos) (t : Hp) : Hp := (Hp.pC p).f t x
theorem Hp.fo_eq (t : Hp) (k : Hp → Hp) : t.fo k = k t := by cases t <;> rfl
theorem Hp.put_o (x : Option Blk) (p : Pos) (t : Hp) : t.put x (.o p) = t.ptl (t.lt.put x p) := Hp.fo_eq _ _
theorem Hp.put_i (x : Option Blk) (p : Pos) (t : Hp) : t.put x (.i p) = t.ptr (t.rt.put x p) := Hp.fo_eq _ _
theorem Hp.get_lf : ∀ p, Hp.get p .lf = none
  | .h => rfl | .o p => Hp.get_lf p | .i p => Hp.get_lf p
theorem Hp.get_put (x : Option Blk) : ∀ (p q : Pos) (t : Hp), (t.put x p).get q = if q = p then x else t.get q
  | .h, .h, .lf => by simp; rfl
  | .h, .h, .nd l v r => by simp; rfl
  | .h, .o q, .lf => by rw [if_neg (by simp)]; rfl
  | .h, .o q, .nd l v r => by rw [if_neg (by simp)]; rfl
  | .h, .i q, .lf => by rw [if_neg (by simp)]; rfl
  | .h, .i q, .nd l v r => by rw [if_neg (by simp)]; rfl
  | .o p, .h, .lf => by rw [if_neg (by simp), Hp.put_o]; rfl
  | .o p, .h, .nd l v r => by rw [if_neg (by simp), Hp.put_o]; rfl
  | .o p, .i q, .lf => by rw [if_neg (by simp), Hp.put_o]; rfl
  | .o p, .i q, .nd l v r => by rw [if_neg (by simp), Hp.put_o]; rfl
  | .i p, .h, .lf => by rw [if_neg (by simp), Hp.put_i]; rfl
  | .i p, .h, .nd l v r => by rw [if_neg (by simp), Hp.put_i]; rfl
  | .i p, .o q, .lf => by rw [if_neg (by simp), Hp.put_i]; rfl
  | .i p, .o q, .nd l v r => by rw [if_neg (by simp), Hp.put_i]; rfl
  | .o p, .o q, .lf => by rw [Hp.put_o]; have := Hp.get_put x p q .lf; simp only [Pos.o.injEq]; exact this
  | .o p, .o q, .nd l v r => by rw [Hp.put_o]; have := Hp.get_put x p q l; simp only [Pos.o.injEq]; exact this
  | .i p, .i q, .lf => by rw [Hp.put_i]; have := Hp.get_put x p q .lf; simp only [Pos.i.injEq]; exact this
  | .i p, .i q, .nd l v r => by rw [Hp.put_i]; have := Hp.get_put x p q r; simp only [Pos.i.injEq]; exact this

end Go.Proofs.Ythgaekbcmhbbgaa.Ev
/- What the evaluator's memory says of a world; what a step keeps; one block made, read, written. -/
namespace Go.Proofs.Ythgaekbcmhbbgaa.Ev
set_option linter.unusedVariables false
open Go

theorem heap_alloc_keep (w : World) (o : Obj) (k : Nat) (h : k < w.heap.size) : (w.alloc o).heap[k]? = w.heap[k]? := by
  simp only [World.alloc, Array.getElem?_push]
  rw [if_neg (by omega)]
theorem heap_setCell_keep (w : World) (a : Addr) (u : Value) (k : Nat) (h : k ≠ a.block) : (w.setCell a u).heap[k]? = w.heap[k]? := by
  simp only [World.setCell, Array.getElem?_modify]
  rw [if_neg (fun e => h e.symm)]

def maxSize : Nat := 1099511627776

abbrev Hm := Pos → Option Blk

/-- No cell of a row of so many is frozen. -/
def NoFz (n : Nat) (fz : Nat × Nat) : Prop := ∀ k, k < n → ¬ (fz.1 ≤ k ∧ k < fz.2)
theorem noFz0 (n : Nat) : NoFz n (0, 0) := fun k _ h => by have := h.2; simp at this
/-- A block is just a row of cells, none of them frozen. -/
def RowIs (w : World) (r : Nat) (cur : Array Value) (el : TypeId) : Prop := ∃ fz, w.heap[r]? = some (.cells cur el fz) ∧ NoFz cur.size fz
theorem RowIs.lt {w : World} {r : Nat} {cur : Array Value} {el : TypeId} (h : RowIs w r cur el) : r < w.heap.size := let ⟨_, h, _⟩ := h; (Array.getElem?_eq_some_iff.1 h).1
theorem RowIs.keep {w w' : World} {r : Nat} {cur : Array Value} {el : TypeId} (h : RowIs w r cur el) (e : w'.heap[r]? = w.heap[r]?) : RowIs w' r cur el := let ⟨fz, h, z⟩ := h; ⟨fz, e.trans h, z⟩
theorem RowIs.of {w : World} {r : Nat} {cur : Array Value} {el : TypeId} (h : w.heap[r]? = some (.cells cur el (0, 0))) : RowIs w r cur el := ⟨_, h, noFz0 _⟩

/-- An entry of a map, as a pair. -/
def entV (e : MapEntry) : Value := .tuple ⟨[e.key, e.val]⟩
/-- What the state of a loop is: the next round may begin; or it was left. -/
def loopSt (pr : Nat) (rec : Loop) : Prop := match pr with
  | 0 => rec.state = .ready ∧ rec.pending = none
  | 1 => rec.state = .done ∧ rec.pending = some .ret
  | 2 => rec.state = .busy
  | k + 3 => rec.state = .done ∧ rec.pending = some (.exit k)
/-- What is kept of a loop: its code, and what its frame knew when it began. -/
def loopRel (g : Sig) (b : Blk) (rec : Loop) : Prop := ∃ N ps x y v0, b.z = .cons (.lp N ps x y) (.cons v0 .nil) ∧ rec.params = ps ∧ rec.assign = x ∧ rec.body = y ∧ N ≤ rec.tmps.size ∧ b.m.get .h = .b true ∧ v0.rel g (rec.tmps.getD 0 undef) ∧
  (∀ t, t < 4294967296 → 0 < t → (b.m.get (posF 63 (t + 1))).rel g (rec.tmps.getD t undef)) ∧ loopSt b.pr rec
/-- What is kept of a string's iterator: the string, and the place where it stands. -/
noncomputable def itM : Tb := .nd .lf (.n 0) .lf
def itRel (b : Blk) (s : ByteArray) (pos : Nat) : Prop := ∃ bs : List Nat, b.z = .cons (.s bs) (.cons (.n pos) .nil) ∧ s = ⟨⟨bs.map UInt8.ofNat⟩⟩ ∧ b.m = itM
/-- A block is a row of cells, or a map, or a loop, or a string's iterator. -/
def RowM (w : World) (g : Sig) (r base tot : Nat) (cur : Array Value) (b : Blk) : Prop :=
  (RowIs w r cur b.el ∧ base ≤ tot) ∨ (base = 1 ∧ tot = 0 ∧ b.size = 0 ∧ ((∃ es clock, w.heap[r]? = some (.map es clock) ∧ (b.m = .lf ∨ b.z.rel g (es.toList.map entV))) ∨ (∃ rec, w.heap[r]? = some (.loop rec) ∧ (b.m = .lf ∨ loopRel g b rec)) ∨ ∃ s pos, w.heap[r]? = some (.stringIter s pos) ∧ (b.m = .lf ∨ itRel b s pos)))
theorem RowM.lt {w : World} {g : Sig} {r base tot : Nat} {cur : Array Value} {b : Blk} (h : RowM w g r base tot cur b) : r < w.heap.size := by
  rcases h with h | ⟨_, _, _, ⟨es, clock, h, _⟩ | ⟨rec, h, _⟩ | ⟨s, pos, h, _⟩⟩
  · exact h.1.lt
  · exact (Array.getElem?_eq_some_iff.1 h).1
  · exact (Array.getElem?_eq_some_iff.1 h).1
  · exact (Array.getElem?_eq_some_iff.1 h).1
theorem RowM.keep {w w' : World} {g : Sig} {r base tot : Nat} {cur : Array Value} {b : Blk} (h : RowM w g r base tot cur b) (e : w'.heap[r]? = w.heap[r]?) : RowM w' g r base tot cur b := by
  rcases h with h | ⟨a, b, c, ⟨es, clock, h, d⟩ | ⟨rec, h, d⟩ | ⟨s, pos, h, d⟩⟩
  · exact .inl ⟨h.1.keep e, h.2⟩
  · exact .inr ⟨a, b, c, .inl ⟨es, clock, e.trans h, d⟩⟩
  · exact .inr ⟨a, b, c, .inr (.inl ⟨rec, e.trans h, d⟩)⟩
  · exact .inr ⟨a, b, c, .inr (.inr ⟨s, pos, e.trans h, d⟩)⟩
theorem RowM.mono {w : World} {g g' : Sig} {r base tot : Nat} {cur : Array Value} {b : Blk} (h : RowM w g r base tot cur b) (hl : g.le g') : RowM w g' r base tot cur b := by
  rcases h with h | ⟨a, b, c, ⟨es, clock, h, d⟩ | ⟨rec, h, d⟩ | ⟨s, pos, h, d⟩⟩
  · exact .inl h
  · exact .inr ⟨a, b, c, .inl ⟨es, clock, h, d.imp id (L.rel_mono hl _)⟩⟩
  rotate_left
  · exact .inr ⟨a, b, c, .inr (.inr ⟨s, pos, h, d⟩)⟩
  · refine .inr ⟨a, b, c, .inr (.inl ⟨rec, h, d.imp id ?_⟩)⟩
    rintro ⟨N, ps, x, y, v0, h1, h2, h3, h4, h5, h8, h9, h6, h7⟩
    exact ⟨N, ps, x, y, v0, h1, h2, h3, h4, h5, h8, V.rel_mono hl _ h9, fun t ht h0 => V.rel_mono hl _ (h6 t ht h0), h7⟩
theorem RowM.row {w : World} {g : Sig} {r base tot : Nat} {cur : Array Value} {b : Blk} (h : RowM w g r base tot cur b) (hx : 0 < b.size ∨ base ≤ tot) : RowIs w r cur b.el := by
  rcases h with h | ⟨a, b, c, h⟩
  · exact h.1
  · omega
theorem RowM.cut {w : World} {g g' : Sig} {r base tot off : Nat} {cur : Array Value} {b b0 : Blk} (h : RowM w g r base tot cur b) (he : b0.el = b.el) (hs : off + b0.size ≤ b.size) (h4 : b.size = 0 ∨ base + b.size ≤ tot) (hm : b0.m = .lf) : RowM w g' r (base + off) tot cur b0 := by
  rcases h with h | ⟨a, b, c, ⟨es, clock, h, d⟩ | ⟨rec, h, d⟩ | ⟨s, pos, h, d⟩⟩
  · exact .inl ⟨by rw [he]; exact h.1, by have := h.2; omega⟩
  · exact .inr ⟨by omega, b, by omega, .inl ⟨es, clock, h, .inl hm⟩⟩
  · exact .inr ⟨by omega, b, by omega, .inr (.inl ⟨rec, h, .inl hm⟩)⟩
  · exact .inr ⟨by omega, b, by omega, .inr (.inr ⟨s, pos, h, .inl hm⟩)⟩

structure Mem (g : Sig) (h : Hm) (w : World) : Prop where
  inj : ∀ p q bp bq r b1 t1 b2 t2, h p = some bp → h q = some bq → g p = some (r, b1, t1) → g q = some (r, b2, t2) → p = q
  blk : ∀ p b, h p = some b → ∃ r base tot cur, g p = some (r, base, tot) ∧ RowM w g r base tot cur b ∧ cur.size = tot ∧ (b.size = 0 ∨ base + b.size ≤ tot) ∧ b.size ≤ maxSize ∧
    ∀ k, k < b.size → ∃ v, cur[base + k]? = some v ∧ v.oneCell' = true ∧ (b.cell k).rel g v

structure Fr (lim n : Nat) (g : Sig) (h : Hm) (w : World) (n' : Nat) (g' : Sig) (h' : Hm) (w' : World) : Prop where
  le : n ≤ n'
  os : w'.os = w.os
  tape : w'.tape = w.tape
  output : w'.output = w.output
  size : w.heap.size ≤ w'.heap.size
  keep : ∀ r, r < w.heap.size → (∀ p b base tot, h p = some b → lim ≤ p.num → g p ≠ some (r, base, tot)) → w'.heap[r]? = w.heap[r]?
  sig : ∀ p, (p.num < n ∨ n' ≤ p.num) → g' p = g p
  dom : ∀ p b, h' p = some b → (p.num < n → ∃ b', h p = some b') ∧ p.num < n'
  new : ∀ p r base tot, n ≤ p.num → p.num < n' → g' p = some (r, base, tot) → w.heap.size ≤ r ∨ ∃ q b base' tot', h q = some b ∧ lim ≤ q.num ∧ g q = some (r, base', tot')

def Fresh (g : Sig) (n n' : Nat) : Prop := ∀ p, n ≤ p.num → p.num < n' → g p = none
def Dom (h : Hm) (n : Nat) : Prop := ∀ p b, h p = some b → p.num < n

section
variable {lim n n1 n2 : Nat} {g g1 g2 : Sig} {h h1 h2 : Hm} {w w1 w2 : World}

theorem Fr.refl (hd : Dom h n) : Fr lim n g h w n g h w :=
  ⟨Nat.le_refl _, rfl, rfl, rfl, Nat.le_refl _, fun _ _ _ => rfl, fun _ _ => rfl, fun p b e => ⟨fun _ => ⟨b, e⟩, hd p b e⟩, fun _ _ _ _ a b => by omega⟩

theorem Fr.gle (f : Fr lim n g h w n1 g1 h1 w1) (hf : Fresh g n n1) : g.le g1 := by
  intro p x e
  by_cases hp : p.num < n ∨ n1 ≤ p.num
  · rw [f.sig p hp]; exact e
  · rw [hf p (by omega) (by omega)] at e; cases e

theorem Fr.fresh (f : Fr lim n g h w n1 g1 h1 w1) (hf : Fresh g n n2) : Fresh g1 n1 n2 := by
  intro p a b
  rw [f.sig p (.inr a)]
  exact hf p (by have := f.le; omega) b

theorem Fresh.sub (hf : Fresh g n n2) (a : n ≤ n1) {m : Nat} (b : m ≤ n2) : Fresh g n1 m := fun p x y => hf p (by omega) (by omega)

theorem Fr.dom' (f : Fr lim n g h w n1 g1 h1 w1) : Dom h1 n1 := fun p b e => (f.dom p b e).2

theorem Fr.trans (a : Fr lim n g h w n1 g1 h1 w1) (b : Fr lim n1 g1 h1 w1 n2 g2 h2 w2) : Fr lim n g h w n2 g2 h2 w2 where
  le := Nat.le_trans a.le b.le
  os := b.os.trans a.os
  tape := b.tape.trans a.tape
  output := b.output.trans a.output
  size := Nat.le_trans a.size b.size
  keep := by
    intro r hr hW
    rw [b.keep r (Nat.lt_of_lt_of_le hr a.size), a.keep r hr hW]
    intro p c base tot hp hl e
    by_cases hn : p.num < n
    · obtain ⟨b', hb'⟩ := (a.dom p c hp).1 hn
      rw [a.sig p (.inl hn)] at e
      exact hW p b' base tot hb' hl e
    · rcases a.new p r base tot (by omega) (a.dom p c hp).2 e with h1 | ⟨q, b', x, y, hq, hql, he⟩
      · omega
      · exact hW q b' x y hq hql he
  sig := by
    intro p hp
    have := a.le; have := b.le
    rw [b.sig p (by omega), a.sig p (by omega)]
  dom := by
    intro p c e
    refine ⟨fun hn => ?_, (b.dom p c e).2⟩
    obtain ⟨b', hb'⟩ := (b.dom p c e).1 (by have := a.le; omega)
    exact (a.dom p b' hb').1 hn
  new := by
    intro p r base tot hn hn2 e
    by_cases hp : p.num < n1
    · rw [b.sig p (.inl hp)] at e
      exact a.new p r base tot hn hp e
    · rcases b.new p r base tot (by omega) hn2 e with h1 | ⟨q, b', x, y, hq, hql, he⟩
      · exact .inl (Nat.le_trans a.size h1)
      · by_cases hqn : q.num < n
        · obtain ⟨b'', hb''⟩ := (a.dom q b' hq).1 hqn
          rw [a.sig q (.inl hqn)] at he
          exact .inr ⟨q, b'', x, y, hb'', hql, he⟩
        · exact a.new q r x y (by omega) (a.dom q b' hq).2 he

theorem Fr.weak {lim' : Nat} (a : Fr lim' n g h w n1 g1 h1 w1) (hl : lim ≤ lim') : Fr lim n g h w n1 g1 h1 w1 :=
  { a with
    keep := fun r hr hW => a.keep r hr fun p b base tot hp hlp => hW p b base tot hp (by omega)
    new := fun p r base tot x y e => (a.new p r base tot x y e).imp id fun ⟨q, b, x, y, hq, hql, he⟩ => ⟨q, b, x, y, hq, by omega, he⟩ }

theorem Fr.drew (hd : Dom h n) : Fr lim n g h w n g h w.drew :=
  ⟨Nat.le_refl _, rfl, rfl, rfl, Nat.le_refl _, fun _ _ _ => rfl, fun _ _ => rfl, fun p b e => ⟨fun _ => ⟨b, e⟩, hd p b e⟩, fun _ _ _ _ a b => by omega⟩

theorem Mem.drew (m : Mem g h w) : Mem g h w.drew := ⟨m.inj, m.blk⟩

theorem Mem.sub (m : Mem g h w) (hs : ∀ p b, h1 p = some b → h p = some b) : Mem g h1 w :=
  ⟨fun p q bp bq r b1 t1 b2 t2 hp hq => m.inj p q bp bq r b1 t1 b2 t2 (hs _ _ hp) (hs _ _ hq), fun p b hp => m.blk p b (hs _ _ hp)⟩

theorem Mem.lt (m : Mem g h w) {p : Pos} {b : Blk} (hp : h p = some b) {r base tot : Nat} (hg : g p = some (r, base, tot)) : r < w.heap.size := by
  obtain ⟨r', base', tot', cur, h1, h2, _⟩ := m.blk p b hp
  rw [hg] at h1
  cases h1
  exact h2.lt

/-! One block made. -/
def gput (g : Sig) (p : Pos) (x : Nat × Nat × Nat) : Sig := fun q => if q = p then some x else g q
def hput (h : Hm) (p : Pos) (x : Option Blk) : Hm := fun q => if q = p then x else h q

theorem gput_le {p : Pos} (x) (h0 : g p = none) : g.le (gput g p x) := by
  intro q y e
  unfold gput
  split
  · rename_i e'; rw [e', h0] at e; cases e
  · exact e

theorem fr_alloc (hd : Dom h n) {p : Pos} (hp : p.num = n) (b : Blk) (cur : Array Value) (fz : Nat × Nat := (0, 0)) :
    Fr lim n g h w (n + 1) (gput g p (w.heap.size, 0, cur.size)) (hput h p (some b)) (w.alloc (.cells cur b.el fz)) where
  le := by omega
  os := rfl
  tape := rfl
  output := rfl
  size := by simp
  keep := fun r hr _ => heap_alloc_keep w _ r hr
  sig := by
    intro q hq
    unfold gput
    rw [if_neg]
    intro e; subst e; omega
  dom := by
    intro q c e
    unfold hput at e
    split at e
    · rename_i e'; subst e'; exact ⟨fun x => by omega, by omega⟩
    · exact ⟨fun _ => ⟨c, e⟩, by have := hd q c e; omega⟩
  new := by
    intro q r base tot a b' e
    have : q = p := Pos.num_inj (by omega)
    subst this
    simp only [gput, if_pos] at e
    cases e
    exact .inl (Nat.le_refl _)

theorem mem_allocF (m : Mem g h w) {p : Pos} (h0 : g p = none) (b : Blk) (cur : Array Value) (hs : b.size ≤ cur.size) (hm : b.size ≤ maxSize)
    (hc : ∀ k, k < b.size → ∃ v, cur[k]? = some v ∧ v.oneCell' = true ∧ (b.cell k).rel g v) (fz : Nat × Nat) (hz : NoFz cur.size fz) :
    Mem (gput g p (w.heap.size, 0, cur.size)) (hput h p (some b)) (w.alloc (.cells cur b.el fz)) where
  inj := by
    intro q q' bq bq' r b1 t1 b2 t2 hq hq' e e'
    unfold hput at hq hq'
    unfold gput at e e'
    by_cases x : q = p <;> by_cases y : q' = p
    · rw [x, y]
    · rw [if_neg y] at hq' e'
      rw [if_pos x] at e
      cases e
      have := m.lt hq' e'
      omega
    · rw [if_neg x] at hq e
      rw [if_pos y] at e'
      cases e'
      have := m.lt hq e
      omega
    · rw [if_neg x] at hq e
      rw [if_neg y] at hq' e'
      exact m.inj q q' bq bq' r b1 t1 b2 t2 hq hq' e e'
  blk := by
    intro q c e
    unfold hput at e
    by_cases x : q = p
    · rw [if_pos x] at e
      cases e
      refine ⟨w.heap.size, 0, cur.size, cur, by simp [gput, x], .inl ⟨⟨fz, heap_alloc_new w _, hz⟩, Nat.zero_le _⟩, rfl, by omega, hm, ?_⟩
      intro k hk
      obtain ⟨v, h1, h2, h3⟩ := hc k hk
      exact ⟨v, by simpa using h1, h2, V.rel_mono (gput_le _ h0) _ h3⟩
    · rw [if_neg x] at e
      obtain ⟨r, base, tot, cur', h1, h2, h3, h4, h5, h6⟩ := m.blk q c e
      refine ⟨r, base, tot, cur', by simp [gput, x, h1], ?_, h3, h4, h5, ?_⟩
      · exact (h2.mono (gput_le _ h0)).keep (heap_alloc_keep w _ r (m.lt e h1))
      · intro k hk
        obtain ⟨v, h1, h2, h3⟩ := h6 k hk
        exact ⟨v, h1, h2, V.rel_mono (gput_le _ h0) _ h3⟩

theorem mem_alloc (m : Mem g h w) {p : Pos} (h0 : g p = none) (b : Blk) (cur : Array Value) (hs : b.size ≤ cur.size) (hm : b.size ≤ maxSize)
    (hc : ∀ k, k < b.size → ∃ v, cur[k]? = some v ∧ v.oneCell' = true ∧ (b.cell k).rel g v) :
    Mem (gput g p (w.heap.size, 0, cur.size)) (hput h p (some b)) (w.alloc (.cells cur b.el)) := mem_allocF m h0 b cur hs hm hc (0, 0) (noFz0 _)

/-! One cell read. -/
theorem mem_cell (m : Mem g h w) {p : Pos} {b : Blk} (hp : h p = some b) {r base tot : Nat} (hg : g p = some (r, base, tot)) {k : Nat} (hk : k < b.size) :
    ∃ v, w.cell? ⟨r, base + k, none⟩ = some v ∧ v.oneCell' = true ∧ (b.cell k).rel g v ∧ w.frozen? ⟨r, base + k, none⟩ = false := by
  obtain ⟨r', base', tot', cur, h1, h2, _, _, _, h6⟩ := m.blk p b hp
  rw [hg] at h1
  cases h1
  obtain ⟨v, h7, h8, h9⟩ := h6 k hk
  obtain ⟨⟨lo, hi⟩, h2, hz⟩ := h2.row (.inl (by omega))
  have hlt : base + k < cur.size := (Array.getElem?_eq_some_iff.1 h7).1
  have hz' := hz _ hlt
  refine ⟨v, by simp [World.cell?, h2, h7], h8, h9, ?_⟩
  simp only [World.frozen?, h2]
  simpa using hz'

/-! One cell written. -/
noncomputable def Blk.setC (b : Blk) (k : Nat) (x : V) : Blk := Blk.rec (motive := fun _ => Blk) (fun el size pr z m => ⟨el, size, pr, z, m.setN (Nat.succ k) x⟩) b
theorem setC_eq (b : Blk) (k : Nat) (x : V) : b.setC k x = { b with m := b.m.set x (posF 63 (k + 1)) } := by
  cases b; show Blk.mk _ _ _ _ (Tb.setN _ _ _) = _; rw [Tb.setN_eq]

theorem cell_setC (b : Blk) (k j : Nat) (x : V) (hk : k ≤ maxSize) (hj : j ≤ maxSize) : (b.setC k x).cell j = if j = k then orZ x (nthL (Nat.mod j b.pr) b.z) else b.cell j := by
  unfold maxSize at hk hj
  have e1 : ∀ t : Tb, t.at (j + 1) = t.get (posF 63 (j + 1)) := fun t => Tb.at_eq t (j + 1)
  simp only [Blk.cell, setC_eq, Nat.succ_eq_add_one, e1, Tb.get_set]
  by_cases he : j = k
  · subst he; simp
  · have : posF 63 (j + 1) ≠ posF 63 (k + 1) := by
      intro e
      have := congrArg Pos.num e
      rw [num_posF _ _ (by omega) (by omega), num_posF _ _ (by omega) (by omega)] at this
      omega
    rw [if_neg this, if_neg he]

theorem orZ_ne {x : V} (z : V) (hx : x ≠ .bad) : orZ x z = x := by cases x <;> first | rfl | exact absurd rfl hx

theorem heap_setCell_same (w : World) (r off : Nat) (v : Value) {cur : Array Value} {el : TypeId} {fz : Nat × Nat} (hr : w.heap[r]? = some (.cells cur el fz)) :
    (w.setCell ⟨r, off, none⟩ v).heap[r]? = some (.cells (cur.setIfInBounds off v) el fz) := by
  simp [World.setCell, Array.getElem?_modify, hr]

theorem mem_store (m : Mem g h w) {p : Pos} {b : Blk} (hp : h p = some b) {r base tot : Nat} (hg : g p = some (r, base, tot)) {k : Nat} (hk : k < b.size) {x : V} {v : Value}
    (hx : x ≠ .bad) (hv : v.oneCell' = true) (hr : x.rel g v) : Mem g (hput h p (some (b.setC k x))) (w.setCell ⟨r, base + k, none⟩ v) where
  inj := by
    intro q q' bq bq' r' b1 t1 b2 t2 hq hq' e e'
    have : ∀ {q : Pos} {c : Blk}, hput h p (some (b.setC k x)) q = some c → ∃ c', h q = some c' := by
      intro q c e
      unfold hput at e
      split at e
      · rename_i e'; subst e'; exact ⟨b, hp⟩
      · exact ⟨c, e⟩
    obtain ⟨c, hc⟩ := this hq
    obtain ⟨c', hc'⟩ := this hq'
    exact m.inj q q' c c' r' b1 t1 b2 t2 hc hc' e e'
  blk := by
    intro q c e
    unfold hput at e
    by_cases hq : q = p
    · rw [if_pos hq] at e
      cases e
      subst hq
      obtain ⟨r', base', tot', cur, h1, h2, h3, h4, h5, h6⟩ := m.blk q b hp
      rw [hg] at h1
      cases h1
      refine ⟨r, base, tot, cur.setIfInBounds (base + k) v, hg, .inl ⟨(let ⟨fz, h2, hz⟩ := h2.row (.inl (by omega)); ⟨fz, heap_setCell_same w r _ v h2, by simpa using hz⟩), by omega⟩, by simpa using h3, h4, h5, ?_⟩
      intro j hj
      have hj' : j < b.size := hj
      rw [cell_setC b k j x (by omega) (by omega)]
      by_cases hjk : j = k
      · subst hjk
        refine ⟨v, ?_, hv, ?_⟩
        · rw [Array.getElem?_setIfInBounds]; simp; omega
        · rw [if_pos rfl, orZ_ne _ hx]; exact hr
      · obtain ⟨u, h7, h8, h9⟩ := h6 j hj'
        refine ⟨u, ?_, h8, by rw [if_neg hjk]; exact h9⟩
        rw [Array.getElem?_setIfInBounds_ne (by omega)]; exact h7
    · rw [if_neg hq] at e
      obtain ⟨r', base', tot', cur, h1, h2, h3, h4, h5, h6⟩ := m.blk q c e
      refine ⟨r', base', tot', cur, h1, ?_, h3, h4, h5, h6⟩
      refine h2.keep (heap_setCell_keep w _ v r' ?_)
      intro he
      have he : r' = r := he
      subst he
      exact hq (m.inj q p c b r' base' tot' base tot e hp h1 hg)

theorem fr_store (hd : Dom h n) {p : Pos} {b : Blk} (hp : h p = some b) (hl : lim ≤ p.num) {r base tot : Nat} (hg : g p = some (r, base, tot)) (off : Nat) (v : Value) (b' : Blk) :
    Fr lim n g h w n g (hput h p (some b')) (w.setCell ⟨r, off, none⟩ v) where
  le := Nat.le_refl _
  os := rfl
  tape := rfl
  output := rfl
  size := by simp
  keep := by
    intro r' _ hW
    refine heap_setCell_keep w _ v r' fun e => ?_
    have e : r' = r := e
    subst e
    exact hW p b base tot hp hl hg
  sig := fun _ _ => rfl
  dom := by
    intro q c e
    unfold hput at e
    split at e
    · rename_i e'; subst e'; exact ⟨fun _ => ⟨b, hp⟩, hd _ _ hp⟩
    · exact ⟨fun _ => ⟨c, e⟩, hd q c e⟩
  new := fun _ _ _ _ a b => by omega

theorem hput_hput (h : Hm) (p : Pos) (x y : Option Blk) : hput (hput h p x) p y = hput h p y := by
  funext q; unfold hput; split <;> rfl
theorem hput_same (h : Hm) (p : Pos) (x : Option Blk) : hput h p x p = x := by simp [hput]
theorem hput_self {h : Hm} {p : Pos} {x : Option Blk} (e : h p = x) : hput h p x = h := by
  funext q; unfold hput; split
  · rename_i e'; rw [e', e]
  · rfl
end

/-! A map made, and changed. -/
theorem Fr.ofAlloc {lim n : Nat} {g : Sig} {h : Hm} {w : World} (hd : Dom h n) {p : Pos} (hp : p.num = n) (b : Blk) (o : Obj) (x y : Nat) :
    Fr lim n g h w (n + 1) (gput g p (w.heap.size, x, y)) (hput h p (some b)) (w.alloc o) where
  le := by omega
  os := rfl
  tape := rfl
  output := rfl
  size := by simp
  keep := fun r hr _ => heap_alloc_keep w _ r hr
  sig := by
    intro q hq
    unfold gput
    rw [if_neg]
    intro e; subst e; omega
  dom := by
    intro q c e
    unfold hput at e
    split at e
    · rename_i e'; subst e'; exact ⟨fun x => by omega, by omega⟩
    · exact ⟨fun _ => ⟨c, e⟩, by have := hd q c e; omega⟩
  new := by
    intro q r base tot a b' e
    have : q = p := Pos.num_inj (by omega)
    subst this
    simp only [gput, if_pos] at e
    cases e
    exact .inl (Nat.le_refl _)
/-- The mark of a map's block. -/
def mpM : Tb := .nd .lf .nm .lf
theorem mem_mkMap {g : Sig} {h : Hm} {w : World} (m : Mem g h w) {p : Pos} (h0 : g p = none) : Mem (gput g p (w.heap.size, 1, 0)) (hput h p (some ⟨0, 0, 1, .nil, mpM⟩)) (w.alloc (.map #[] 0)) where
  inj := by
    intro q q' bq bq' r b1 t1 b2 t2 hq hq' e e'
    unfold hput at hq hq'
    unfold gput at e e'
    by_cases x : q = p <;> by_cases y : q' = p
    · rw [x, y]
    · rw [if_neg y] at hq' e'
      rw [if_pos x] at e
      cases e
      have := m.lt hq' e'
      omega
    · rw [if_neg x] at hq e
      rw [if_pos y] at e'
      cases e'
      have := m.lt hq e
      omega
    · rw [if_neg x] at hq e
      rw [if_neg y] at hq' e'
      exact m.inj q q' bq bq' r b1 t1 b2 t2 hq hq' e e'
  blk := by
    intro q c e
    unfold hput at e
    by_cases x : q = p
    · rw [if_pos x] at e
      cases e
      exact ⟨w.heap.size, 1, 0, #[], by simp [gput, x], .inr ⟨rfl, rfl, rfl, .inl ⟨#[], 0, heap_alloc_new w _, .inr rfl⟩⟩, rfl, .inl rfl, by show 0 ≤ maxSize; unfold maxSize; omega, fun k hk => absurd hk (Nat.not_lt_zero k)⟩
    · rw [if_neg x] at e
      obtain ⟨r, base, tot, cur', h1, h2, h3, h4, h5, h6⟩ := m.blk q c e
      refine ⟨r, base, tot, cur', by simp [gput, x, h1], (h2.mono (gput_le _ h0)).keep (heap_alloc_keep w _ r (m.lt e h1)), h3, h4, h5, ?_⟩
      intro k hk
      obtain ⟨v, h1, h2, h3⟩ := h6 k hk
      exact ⟨v, h1, h2, V.rel_mono (gput_le _ h0) _ h3⟩
/-- What stands in a map. -/
theorem mem_map {g : Sig} {h : Hm} {w : World} (m : Mem g h w) {p : Pos} {b : Blk} (hp : h p = some b) {r : Nat} (hg : g p = some (r, 1, 0)) (hm : b.m.get .h = .nm) :
    b.size = 0 ∧ ∃ es clock, w.heap[r]? = some (.map es clock) ∧ b.z.rel g (es.toList.map entV) := by
  obtain ⟨r', base, tot, cur, h1, h2, _⟩ := m.blk p b hp
  rw [hg] at h1
  cases h1
  have hn : b.m ≠ .lf := fun e => by rw [e] at hm; cases hm
  rcases h2 with h2 | ⟨_, _, h3, ⟨es, clock, h4, h5⟩ | ⟨rec, h4, h5⟩ | ⟨s, pos, h4, h5⟩⟩
  · have := h2.2; omega
  · exact ⟨h3, es, clock, h4, h5.resolve_left hn⟩
  · obtain ⟨N, ps, x, y, _, _, _, _, _, _, h8, _⟩ := h5.resolve_left hn
    rw [hm] at h8; cases h8
  · obtain ⟨bs, _, _, h8⟩ := h5.resolve_left hn
    rw [h8] at hm; cases hm
theorem heap_setObj (w : World) (r r' : Nat) (o : Obj) (h : r' ≠ r) : ({ w with heap := w.heap.setIfInBounds r o } : World).heap[r']? = w.heap[r']? := by
  show (w.heap.setIfInBounds r o)[r']? = _
  simp [Array.getElem?_setIfInBounds, Ne.symm h]
theorem mem_setMap {g : Sig} {h : Hm} {w : World} (m : Mem g h w) {p : Pos} {b : Blk} (hp : h p = some b) {r : Nat} (hg : g p = some (r, 1, 0)) (hm : b.m.get .h = .nm) {z : L} {es : Array MapEntry} {clock : Nat} (hz : z.rel g (es.toList.map entV)) :
    Mem g (hput h p (some ⟨0, 0, 1, z, mpM⟩)) { w with heap := w.heap.setIfInBounds r (.map es clock) } where
  inj := by
    intro q q' bq bq' r' b1 t1 b2 t2 hq hq' e e'
    have : ∀ {q : Pos} {c : Blk}, hput h p (some ⟨0, 0, 1, z, mpM⟩) q = some c → ∃ c', h q = some c' := by
      intro q c e
      unfold hput at e
      split at e
      · rename_i e'; subst e'; exact ⟨b, hp⟩
      · exact ⟨c, e⟩
    obtain ⟨c, hc⟩ := this hq
    obtain ⟨c', hc'⟩ := this hq'
    exact m.inj q q' c c' r' b1 t1 b2 t2 hc hc' e e'
  blk := by
    intro q c e
    unfold hput at e
    have hlt := m.lt hp hg
    by_cases hq : q = p
    · rw [if_pos hq] at e
      cases e
      subst hq
      exact ⟨r, 1, 0, #[], hg, .inr ⟨rfl, rfl, rfl, .inl ⟨es, clock, by show (w.heap.setIfInBounds r _)[r]? = _; simp [hlt], .inr hz⟩⟩, rfl, .inl rfl, by show 0 ≤ maxSize; unfold maxSize; omega, fun k hk => absurd hk (Nat.not_lt_zero k)⟩
    · rw [if_neg hq] at e
      obtain ⟨r', base', tot', cur, h1, h2, h3, h4, h5, h6⟩ := m.blk q c e
      refine ⟨r', base', tot', cur, h1, ?_, h3, h4, h5, h6⟩
      refine h2.keep (heap_setObj w r r' _ ?_)
      intro he
      subst he
      exact hq (m.inj q p c b r' base' tot' 1 0 e hp h1 hg)
theorem fr_setMap {lim n : Nat} {g : Sig} {h : Hm} {w : World} (hd : Dom h n) {p : Pos} {b : Blk} (hp : h p = some b) (hl : lim ≤ p.num) {r base tot : Nat} (hg : g p = some (r, base, tot)) (o : Obj) (b' : Blk) :
    Fr lim n g h w n g (hput h p (some b')) { w with heap := w.heap.setIfInBounds r o } where
  le := Nat.le_refl _
  os := rfl
  tape := rfl
  output := rfl
  size := by simp
  keep := by
    intro r' _ hW
    refine heap_setObj w r r' o fun e => ?_
    subst e
    exact hW p b base tot hp hl hg
  sig := fun _ _ => rfl
  dom := by
    intro q c e
    unfold hput at e
    split at e
    · rename_i e'; subst e'; exact ⟨fun _ => ⟨b, hp⟩, hd _ _ hp⟩
    · exact ⟨fun _ => ⟨c, e⟩, hd q c e⟩
  new := fun _ _ _ _ a b => by omega

/-! Several cells. -/
noncomputable def Blk.setL (b : Blk) (k : Nat) : L → Blk
  | .nil => b
  | .cons x l => (b.setC k x).setL (k + 1) l
def V.isC : V → Bool
  | .bad | .ag _ | .tu _ => false
  | _ => true
def L.allC : L → Bool
  | .nil => true
  | .cons v l => v.isC && l.allC
theorem V.isC_one {g : Sig} {v : V} {u : Value} (h : v.isC = true) (hr : v.rel g u) : u.oneCell' = true ∧ v ≠ .bad := by
  cases v <;> simp [V.isC] at h <;> simp only [V.rel] at hr
  all_goals first
    | (obtain ⟨rfl, _⟩ := hr; exact ⟨rfl, by simp⟩)
    | (subst hr; exact ⟨rfl, by simp⟩)
    | (obtain ⟨_, _, _, _, rfl⟩ := hr; exact ⟨rfl, by simp⟩)
    | (obtain ⟨_, _, _, _, _, _, rfl, _⟩ := hr; exact ⟨rfl, by simp⟩)
    | (obtain ⟨_, _, rfl, _⟩ := hr; exact ⟨rfl, by simp⟩)
    | (obtain ⟨_, _, rfl⟩ := hr; exact ⟨rfl, by simp⟩)
    | (obtain ⟨_, rfl, _⟩ := hr; exact ⟨rfl, by simp⟩)

theorem setL_size (b : Blk) : ∀ (l : L) (k : Nat), (b.setL k l).size = b.size ∧ (b.setL k l).el = b.el ∧ (b.setL k l).z = b.z
  | .nil, _ => ⟨rfl, rfl, rfl⟩
  | .cons x l, k => setL_size (b.setC k x) l (k + 1)

theorem stores (P : Program) {lim n : Nat} {g : Sig} {p : Pos} {r base tot : Nat} (hg : g p = some (r, base, tot)) (hl : lim ≤ p.num) : ∀ (l : L) (vs : List Value) (k : Nat) (b : Blk) (h : Hm) (w : World) (i : Nat),
    Mem g h w → Dom h n → h p = some b → k + i + l.length ≤ b.size → l.allC = true → l.rel g vs →
    ∃ w', (storeCells ⟨r, base + k, none⟩ vs i).run P w = .ok () w' ∧ Mem g (hput h p (some (b.setL (k + i) l))) w' ∧ Fr lim n g h w n g (hput h p (some (b.setL (k + i) l))) w'
  | .nil, vs, k, b, h, w, i, m, hd, hp, _, _, hr => by
    rw [L.rel] at hr
    subst hr
    have e : hput h p (some (b.setL (k + i) .nil)) = h := hput_self hp
    rw [e]
    exact ⟨w, rfl, m, Fr.refl hd⟩
  | .cons x l, vs, k, b, h, w, i, m, hd, hp, hs, hc, hr => by
    rw [L.rel] at hr
    obtain ⟨u, us, rfl, h2, h3⟩ := hr
    simp only [L.length] at hs
    simp only [L.allC, Bool.and_eq_true] at hc
    obtain ⟨ho, hx⟩ := V.isC_one hc.1 h2
    obtain ⟨v0, c1, c2, c3, c4⟩ := mem_cell m hp hg (k := k + i) (by omega)
    have m1 := mem_store m hp hg (k := k + i) (by omega) hx ho h2
    have f1 := fr_store (lim := lim) (w := w) hd hp hl hg (base + (k + i)) u (b.setC (k + i) x)
    have hd1 : Dom (hput h p (some (b.setC (k + i) x))) n := f1.dom'
    obtain ⟨w', r1, m2, f2⟩ := stores P hg hl l us k (b.setC (k + i) x) _ _ (i + 1) m1 hd1 (hput_same _ _ _) (by show k + (i + 1) + l.length ≤ b.size; omega) hc.2 h3
    rw [hput_hput] at m2 f2
    refine ⟨w', ?_, m2, f1.trans f2⟩
    have ea : (⟨r, base + k, none⟩ : Addr).add i = ⟨r, base + (k + i), none⟩ := by rw [Addr.add_lit]; simp [Nat.add_assoc]
    simp only [storeCells, Sem.run_bind, run_store P w _ u .plain ho, ea, c1, c4, Bool.false_eq_true, if_false, Result.andThen_ok]
    exact r1

noncomputable def Blk.getL (b : Blk) (k : Nat) : Nat → L
  | 0 => .nil
  | n + 1 => .cons (b.cell k) (b.getL (k + 1) n)

theorem getL_rel {g : Sig} {h : Hm} {w : World} (m : Mem g h w) {p : Pos} {b : Blk} (hp : h p = some b) {r base tot : Nat} (hg : g p = some (r, base, tot)) :
    ∀ (n k : Nat), k + n ≤ b.size → ∃ vs : List Value, vs.length = n ∧ (b.getL k n).rel g vs ∧ (∀ v ∈ vs, v.oneCell' = true) ∧ ∀ j v, vs[j]? = some v → w.cell? ((⟨r, base + k, none⟩ : Addr).add j) = some v
  | 0, k, _ => ⟨[], rfl, rfl, by simp, by simp⟩
  | n + 1, k, hk => by
    obtain ⟨vs, h1, h2, h3, h4⟩ := getL_rel m hp hg n (k + 1) (by omega)
    obtain ⟨v, c1, c2, c3, _⟩ := mem_cell m hp hg (k := k) (by omega)
    refine ⟨v :: vs, by simp [h1], ⟨v, vs, rfl, c3, h2⟩, by simpa using ⟨c2, h3⟩, ?_⟩
    intro j u e
    cases j with
    | zero => simp at e; subst e; rw [Addr.add_zero']; exact c1
    | succ j =>
      have := h4 j u (by simpa using e)
      rw [Addr.add_lit] at this ⊢
      rw [← this]; congr 2; omega

end Go.Proofs.Ythgaekbcmhbbgaa.Ev
/- The evaluator's arithmetic, and that the model answers so. -/
namespace Go.Proofs.Ythgaekbcmhbbgaa.Ev
set_option linter.unusedVariables false
open Go

/-! Views of a value: closed terms, so that each is worked out once. -/
inductive NV where | no | y (a : Nat)
inductive BV where | no | y (a : Bool)
inductive PV where | no | y (a : Pos) (o : Nat)
inductive SV where | no | nil | y (a : Pos) (o e l : Nat) (c : Option Nat)
inductive LV where | no | y (l : L)
inductive KV where | no | y (k : IntKind) (z : Int)
inductive FV where | no | y (f : Nat) (a c : L)
inductive MV where | no | nil | y (a : Pos)
inductive RV' where | no | y (x : List Nat)
noncomputable def V.asN : V → NV := V.rec (motive_1 := fun _ => NV) (motive_2 := fun _ => Unit) .no (fun a => .y a) (fun _ _ => .no) (fun _ => .no) (fun _ _ => .no) .no (fun _ _ _ _ _ => .no) .no (fun _ _ => .no) (fun _ _ => .no) (fun _ _ _ _ _ => .no) .no (fun _ => .no) (fun _ _ _ => .no) .no (fun _ => .no) .no (fun _ => .no) (fun _ _ _ _ => .no) () (fun _ _ _ _ => ())
noncomputable def V.asB : V → BV := V.rec (motive_1 := fun _ => BV) (motive_2 := fun _ => Unit) .no (fun _ => .no) (fun _ _ => .no) (fun a => .y a) (fun _ _ => .no) .no (fun _ _ _ _ _ => .no) .no (fun _ _ => .no) (fun _ _ => .no) (fun _ _ _ _ _ => .no) .no (fun _ => .no) (fun _ _ _ => .no) .no (fun _ => .no) .no (fun _ => .no) (fun _ _ _ _ => .no) () (fun _ _ _ _ => ())
noncomputable def V.asP : V → PV := V.rec (motive_1 := fun _ => PV) (motive_2 := fun _ => Unit) .no (fun _ => .no) (fun _ _ => .no) (fun _ => .no) (fun a o => .y a o) .no (fun _ _ _ _ _ => .no) .no (fun _ _ => .no) (fun _ _ => .no) (fun _ _ _ _ _ => .no) .no (fun _ => .no) (fun _ _ _ => .no) .no (fun _ => .no) .no (fun _ => .no) (fun _ _ _ _ => .no) () (fun _ _ _ _ => ())
noncomputable def V.asS : V → SV := V.rec (motive_1 := fun _ => SV) (motive_2 := fun _ => Unit) .no (fun _ => .no) (fun _ _ => .no) (fun _ => .no) (fun _ _ => .no) .no (fun a o e l c => .y a o e l c) .nil (fun _ _ => .no) (fun _ _ => .no) (fun _ _ _ _ _ => .no) .no (fun _ => .no) (fun _ _ _ => .no) .no (fun _ => .no) .no (fun _ => .no) (fun _ _ _ _ => .no) () (fun _ _ _ _ => ())
noncomputable def V.asA : V → LV := V.rec (motive_1 := fun _ => LV) (motive_2 := fun _ => Unit) .no (fun _ => .no) (fun _ _ => .no) (fun _ => .no) (fun _ _ => .no) .no (fun _ _ _ _ _ => .no) .no (fun l _ => .y l) (fun _ _ => .no) (fun _ _ _ _ _ => .no) .no (fun _ => .no) (fun _ _ _ => .no) .no (fun _ => .no) .no (fun _ => .no) (fun _ _ _ _ => .no) () (fun _ _ _ _ => ())
noncomputable def V.asT : V → LV := V.rec (motive_1 := fun _ => LV) (motive_2 := fun _ => Unit) .no (fun _ => .no) (fun _ _ => .no) (fun _ => .no) (fun _ _ => .no) .no (fun _ _ _ _ _ => .no) .no (fun _ _ => .no) (fun l _ => .y l) (fun _ _ _ _ _ => .no) .no (fun _ => .no) (fun _ _ _ => .no) .no (fun _ => .no) .no (fun _ => .no) (fun _ _ _ _ => .no) () (fun _ _ _ _ => ())
noncomputable def V.asNat : V → NV := V.rec (motive_1 := fun _ => NV) (motive_2 := fun _ => Unit) .no (fun a => .y a) (fun _ i => Int.rec (motive := fun _ => NV) (fun a => .y a) (fun _ => .no) i) (fun _ => .no) (fun _ _ => .no) .no (fun _ _ _ _ _ => .no) .no (fun _ _ => .no) (fun _ _ => .no) (fun _ _ _ _ _ => .no) .no (fun _ => .no) (fun _ _ _ => .no) .no (fun _ => .no) .no (fun _ => .no) (fun _ _ _ _ => .no) () (fun _ _ _ _ => ())
noncomputable def V.asK : V → KV := V.rec (motive_1 := fun _ => KV) (motive_2 := fun _ => Unit) .no (fun a => .y .i64 (.ofNat a)) (fun k z => .y k z) (fun _ => .no) (fun _ _ => .no) .no (fun _ _ _ _ _ => .no) .no (fun _ _ => .no) (fun _ _ => .no) (fun _ _ _ _ _ => .no) .no (fun _ => .no) (fun _ _ _ => .no) .no (fun _ => .no) .no (fun _ => .no) (fun _ _ _ _ => .no) () (fun _ _ _ _ => ())
noncomputable def V.asF : V → FV := V.rec (motive_1 := fun _ => FV) (motive_2 := fun _ => Unit) .no (fun _ => .no) (fun _ _ => .no) (fun _ => .no) (fun _ _ => .no) .no (fun _ _ _ _ _ => .no) .no (fun _ _ => .no) (fun _ _ => .no) (fun f a c _ _ => .y f a c) .no (fun _ => .no) (fun _ _ _ => .no) .no (fun _ => .no) .no (fun _ => .no) (fun _ _ _ _ => .no) () (fun _ _ _ _ => ())
noncomputable def V.asY : V → MV := V.rec (motive_1 := fun _ => MV) (motive_2 := fun _ => Unit) .no (fun _ => .no) (fun _ _ => .no) (fun _ => .no) (fun _ _ => .no) .no (fun _ _ _ _ _ => .no) .no (fun _ _ => .no) (fun _ _ => .no) (fun _ _ _ _ _ => .no) .no (fun _ => .no) (fun _ _ _ => .no) .no (fun _ => .no) .no (fun a => .y a) (fun _ _ _ _ => .no) () (fun _ _ _ _ => ())
noncomputable def V.asM : V → MV := V.rec (motive_1 := fun _ => MV) (motive_2 := fun _ => Unit) .no (fun _ => .no) (fun _ _ => .no) (fun _ => .no) (fun _ _ => .no) .no (fun _ _ _ _ _ => .no) .no (fun _ _ => .no) (fun _ _ => .no) (fun _ _ _ _ _ => .no) .no (fun _ => .no) (fun _ _ _ => .no) .no (fun a => .y a) .nil (fun _ => .no) (fun _ _ _ _ => .no) () (fun _ _ _ _ => ())
noncomputable def V.asStr : V → RV' := V.rec (motive_1 := fun _ => RV') (motive_2 := fun _ => Unit) .no (fun _ => .no) (fun _ _ => .no) (fun _ => .no) (fun _ _ => .no) .no (fun _ _ _ _ _ => .no) .no (fun _ _ => .no) (fun _ _ => .no) (fun _ _ _ _ _ => .no) .no (fun x => .y x) (fun _ _ _ => .no) .no (fun _ => .no) .no (fun _ => .no) (fun _ _ _ _ => .no) () (fun _ _ _ _ => ())
noncomputable def onN {β : Type} (v : V) (f : Nat → β) (z : β) : β := NV.rec (motive := fun _ => β) z f v.asN
noncomputable def onB {β : Type} (v : V) (f : Bool → β) (z : β) : β := BV.rec (motive := fun _ => β) z f v.asB
noncomputable def onP {β : Type} (v : V) (f : Pos → Nat → β) (z : β) : β := PV.rec (motive := fun _ => β) z f v.asP
noncomputable def onS {β : Type} (v : V) (f : Pos → Nat → Nat → Nat → Option Nat → β) (y z : β) : β := SV.rec (motive := fun _ => β) z y f v.asS
noncomputable def onA {β : Type} (v : V) (f : L → β) (z : β) : β := LV.rec (motive := fun _ => β) z f v.asA
noncomputable def onT {β : Type} (v : V) (f : L → β) (z : β) : β := LV.rec (motive := fun _ => β) z f v.asT

section
variable {β : Type}
theorem onN_or (v : V) (f : Nat → β) (z : β) : (∃ a, v = .n a ∧ onN v f z = f a) ∨ onN v f z = z := by
  cases v <;> first | exact .inl ⟨_, rfl, rfl⟩ | exact .inr rfl
theorem onB_or (v : V) (f : Bool → β) (z : β) : (∃ a, v = .b a ∧ onB v f z = f a) ∨ onB v f z = z := by
  cases v <;> first | exact .inl ⟨_, rfl, rfl⟩ | exact .inr rfl
theorem onP_or (v : V) (f : Pos → Nat → β) (z : β) : (∃ a o, v = .p a o ∧ onP v f z = f a o) ∨ onP v f z = z := by
  cases v <;> first | exact .inl ⟨_, _, rfl, rfl⟩ | exact .inr rfl
theorem onS_or (v : V) (f : Pos → Nat → Nat → Nat → Option Nat → β) (y z : β) : (∃ a o e l c, v = .sl a o e l c ∧ onS v f y z = f a o e l c) ∨ (v = .ns ∧ onS v f y z = y) ∨ onS v f y z = z := by
  cases v <;> first | exact .inl ⟨_, _, _, _, _, rfl, rfl⟩ | exact .inr (.inl ⟨rfl, rfl⟩) | exact .inr (.inr rfl)
theorem onA_or (v : V) (f : L → β) (z : β) : (∃ a, v = .ag a ∧ onA v f z = f a) ∨ onA v f z = z := by
  cases v <;> first | exact .inl ⟨_, rfl, rfl⟩ | exact .inr rfl
theorem onT_or (v : V) (f : L → β) (z : β) : (∃ a, v = .tu a ∧ onT v f z = f a) ∨ onT v f z = z := by
  cases v <;> first | exact .inl ⟨_, rfl, rfl⟩ | exact .inr rfl
end

/-- A number that is not below 0, of any kind. -/
noncomputable def onI {β : Type} (v : V) (f : Nat → β) (z : β) : β := NV.rec (motive := fun _ => β) z f v.asNat
theorem onI_or {β : Type} {g : Sig} {v : V} {u : Value} (h : v.rel g u) (f : Nat → β) (z : β) : (∃ (a : Nat) (k : IntKind), u = .int k (a : Int) ∧ onI v f z = f a) ∨ onI v f z = z := by
  cases v with
  | n a => rw [V.rel] at h; exact .inl ⟨a, .i64, h.1, rfl⟩
  | i k y => rw [V.rel] at h; cases y with
    | ofNat a => exact .inl ⟨a, k, h, rfl⟩
    | negSucc a => exact .inr rfl
  | _ => exact .inr rfl

noncomputable def fN {β : Type} (n : Nat) (k : Nat → β) : β := Nat.rec (motive := fun _ => β) (k 0) (fun m _ => k (Nat.succ m)) n
theorem fN_eq {β : Type} (n : Nat) (k : Nat → β) : fN n k = k n := by cases n <;> rfl
noncomputable def fB (b : Bool) : V := Bool.rec (.b false) (.b true) b
theorem fB_eq (b : Bool) : fB b = .b b := by cases b <;> rfl

/-- An integer of a kind as a value. -/
noncomputable def mkI (k : IntKind) (z : Int) : V :=
  match k, z with
  | .i64, .ofNat a => fN a fun a => Bool.rec (.i .i64 (.ofNat a)) (.n a) (Nat.blt a 9223372036854775808)
  | k, .ofNat a => fN a fun a => .i k (.ofNat a)
  | k, .negSucc a => fN a fun a => .i k (.negSucc a)
theorem mkI_rel (g : Sig) (k : IntKind) (z : Int) : (mkI k z).rel g (.int k z) := by
  cases z with
  | ofNat a =>
    cases k
    case i64 =>
      simp only [mkI, fN_eq]
      cases h : Nat.blt a 9223372036854775808
      · simp [V.rel]
      · simp only [V.rel]
        exact ⟨rfl, by simpa [Nat.blt_eq] using h⟩
    all_goals simp [mkI, fN_eq, V.rel]
  | negSucc a => cases k <;> simp [mkI, fN_eq, V.rel]
noncomputable def onK {β : Type} (v : V) (f : IntKind → Int → β) (z : β) : β := KV.rec (motive := fun _ => β) z f v.asK
theorem onK_or {β : Type} {g : Sig} {v : V} {u : Value} (h : v.rel g u) (f : IntKind → Int → β) (z : β) : (∃ k a, u = .int k a ∧ onK v f z = f k a) ∨ onK v f z = z := by
  cases v with
  | n a => rw [V.rel] at h; exact .inl ⟨_, _, h.1, rfl⟩
  | i k y => rw [V.rel] at h; exact .inl ⟨_, _, h, rfl⟩
  | _ => exact .inr rfl

def IntKind.same (a b : IntKind) : Bool := decide (a = b)

/-- What an operation on two integers of one kind gives. -/
noncomputable def slowI (op : BinOp) (k : IntKind) (a b : Int) : V :=
  match op with
  | .add => mkI k (k.wrap (a + b))
  | .sub => mkI k (k.wrap (a - b))
  | .mul => mkI k (k.wrap (a * b))
  | .quo => if b = 0 then .bad else mkI k (k.wrap (a.tdiv b))
  | .rem => if b = 0 then .bad else mkI k (a.tmod b)
  | .and => mkI k (k.wrap (BitVec.ofInt k.bits a &&& BitVec.ofInt k.bits b).toNat)
  | .or => mkI k (k.wrap (BitVec.ofInt k.bits a ||| BitVec.ofInt k.bits b).toNat)
  | .xor => mkI k (k.wrap (BitVec.ofInt k.bits a ^^^ BitVec.ofInt k.bits b).toNat)
  | .andNot => mkI k (k.wrap (BitVec.ofInt k.bits a &&& ~~~ BitVec.ofInt k.bits b).toNat)
  | .eql => fB (a == b)
  | .neq => fB (a != b)
  | .lss => fB (decide (a < b))
  | .leq => fB (decide (a ≤ b))
  | .gtr => fB (decide (a > b))
  | .geq => fB (decide (a ≥ b))
  | .shl | .shr => .bad
noncomputable def slowB (op : BinOp) (x y : V) : V :=
  match op with
  | .shl => onK x (fun k a => onK y (fun _ b => if b < 0 then .bad else mkI k (k.wrap (a * 2 ^ (min b.toNat k.bits)))) .bad) .bad
  | .shr => onK x (fun k a => onK y (fun _ b => if b < 0 then .bad else mkI k (a.fdiv (2 ^ (min b.toNat k.bits)))) .bad) .bad
  | op => onK x (fun k a => onK y (fun k' b => if k = k' then slowI op k a b else .bad) .bad) .bad

theorem slowI_sound (P : Program) (w : World) (g : Sig) (op : BinOp) (t : TypeId) (k : IntKind) (a b : Int) (h : slowI op k a b ≠ .bad) :
    ∃ u, (binOp op t (.int k a) (.int k b)).run P w = .ok u w ∧ (slowI op k a b).rel g u := by
  cases op <;> simp only [slowI] at h ⊢
  case quo =>
    split at h
    · exact absurd rfl h
    · rename_i hb; rw [if_neg hb]; exact ⟨.int k (k.wrap (a.tdiv b)), by simp [binOp, Op.intDiv, hb], mkI_rel g _ _⟩
  case rem =>
    split at h
    · exact absurd rfl h
    · rename_i hb; rw [if_neg hb]; exact ⟨.int k (a.tmod b), by simp [binOp, Op.intDiv, hb], mkI_rel g _ _⟩
  case shl => exact absurd rfl h
  case shr => exact absurd rfl h
  case add => exact ⟨_, by simp only [binOp, ne_eq, not_true_eq_false, if_false, Op.intArith]; rfl, mkI_rel g _ _⟩
  case sub => exact ⟨_, by simp only [binOp, ne_eq, not_true_eq_false, if_false, Op.intArith]; rfl, mkI_rel g _ _⟩
  case mul => exact ⟨_, by simp only [binOp, ne_eq, not_true_eq_false, if_false, Op.intArith]; rfl, mkI_rel g _ _⟩
  case and => exact ⟨_, by simp only [binOp, ne_eq, not_true_eq_false, if_false, Op.intBits]; rfl, mkI_rel g _ _⟩
  case or => exact ⟨_, by simp only [binOp, ne_eq, not_true_eq_false, if_false, Op.intBits]; rfl, mkI_rel g _ _⟩
  case xor => exact ⟨_, by simp only [binOp, ne_eq, not_true_eq_false, if_false, Op.intBits]; rfl, mkI_rel g _ _⟩
  case andNot => exact ⟨_, by simp only [binOp, ne_eq, not_true_eq_false, if_false, Op.intBits]; rfl, mkI_rel g _ _⟩
  all_goals (rw [fB_eq]; exact ⟨_, by simp only [binOp, ne_eq, not_true_eq_false, if_false, Op.intCmp]; rfl, rfl⟩)

theorem slowB_sound (P : Program) (w : World) (g : Sig) (op : BinOp) (t : TypeId) (ox oy : Operand) {x y : V} {a b : Value} (ha : x.rel g a) (hb : y.rel g b) (h : slowB op x y ≠ .bad) :
    ∃ u, (eqGuard op t ox oy a b).run P w = .ok () w ∧ (binOp op t a b).run P w = .ok u w ∧ (slowB op x y).rel g u := by
  have key : onK x (fun k a => onK y (fun k' b => if k = k' then slowI op k a b else .bad) .bad) .bad ≠ .bad →
      ∃ u, (eqGuard op t ox oy a b).run P w = .ok () w ∧ (binOp op t a b).run P w = .ok u w ∧ (onK x (fun k a => onK y (fun k' b => if k = k' then slowI op k a b else .bad) .bad) .bad).rel g u := by
    intro h
    rcases onK_or ha (fun k a => onK y (fun k' b => if k = k' then slowI op k a b else .bad) .bad) .bad with ⟨k, z, rfl, e⟩ | e
    · rw [e] at h ⊢
      rcases onK_or hb (fun k' b => if k = k' then slowI op k z b else .bad) .bad with ⟨k', z', rfl, e'⟩ | e'
      · rw [e'] at h ⊢
        by_cases hk : k = k'
        · subst hk
          rw [if_pos rfl] at h ⊢
          obtain ⟨u, h1, h2⟩ := slowI_sound P w g op t k z z' h
          exact ⟨u, by rw [eqGuard_at_int]; rfl, h1, h2⟩
        · rw [if_neg hk] at h; exact absurd rfl h
      · rw [e'] at h; exact absurd rfl h
    · rw [e] at h; exact absurd rfl h
  cases op
  case shl =>
    simp only [slowB] at h ⊢
    rcases onK_or ha (fun k a => onK y (fun _ b => if b < 0 then .bad else mkI k (k.wrap (a * 2 ^ (min b.toNat k.bits)))) .bad) .bad with ⟨k, z, rfl, e⟩ | e
    · rw [e] at h ⊢
      rcases onK_or hb (fun _ b => if b < 0 then .bad else mkI k (k.wrap (z * 2 ^ (min b.toNat k.bits)))) .bad with ⟨k', z', rfl, e'⟩ | e'
      · rw [e'] at h ⊢
        by_cases hn : z' < 0
        · rw [if_pos hn] at h; exact absurd rfl h
        · rw [if_neg hn]
          exact ⟨_, by rw [eqGuard_at_int]; rfl, by simp only [binOp, Op.shift, if_neg hn]; rfl, mkI_rel g _ _⟩
      · rw [e'] at h; exact absurd rfl h
    · rw [e] at h; exact absurd rfl h
  case shr =>
    simp only [slowB] at h ⊢
    rcases onK_or ha (fun k a => onK y (fun _ b => if b < 0 then .bad else mkI k (a.fdiv (2 ^ (min b.toNat k.bits)))) .bad) .bad with ⟨k, z, rfl, e⟩ | e
    · rw [e] at h ⊢
      rcases onK_or hb (fun _ b => if b < 0 then .bad else mkI k (z.fdiv (2 ^ (min b.toNat k.bits)))) .bad with ⟨k', z', rfl, e'⟩ | e'
      · rw [e'] at h ⊢
        by_cases hn : z' < 0
        · rw [if_pos hn] at h; exact absurd rfl h
        · rw [if_neg hn]
          exact ⟨_, by rw [eqGuard_at_int]; rfl, by simp only [binOp, Op.shift, if_neg hn]; rfl, mkI_rel g _ _⟩
      · rw [e'] at h; exact absurd rfl h
    · rw [e] at h; exact absurd rfl h
  all_goals exact key h

/-! The quick ways: two integers of kind int, none of them below 0. -/
noncomputable def onNN (x y : V) (f : Nat → Nat → V) (s : V) : V := onN x (fun a => onN y (fun b => f a b) s) s
noncomputable def small (c : Nat) (s : V) : V := fN c fun c => Bool.rec s (.n c) (Nat.blt c 9223372036854775808)
noncomputable def bAdd (x y : V) : V := onNN x y (fun a b => small (Nat.add a b) (slowB .add x y)) (slowB .add x y)
noncomputable def bSub (x y : V) : V := onNN x y (fun a b => Bool.rec (slowB .sub x y) (fN (Nat.sub a b) V.n) (Nat.ble b a)) (slowB .sub x y)
noncomputable def bMul (x y : V) : V := onNN x y (fun a b => small (Nat.mul a b) (slowB .mul x y)) (slowB .mul x y)
noncomputable def bQuo (x y : V) : V := onNN x y (fun a b => Bool.rec (fN (Nat.div a b) V.n) .bad (Nat.beq b 0)) (slowB .quo x y)
noncomputable def bRem (x y : V) : V := onNN x y (fun a b => Bool.rec (fN (Nat.mod a b) V.n) .bad (Nat.beq b 0)) (slowB .rem x y)
noncomputable def bEq (x y : V) : V := onNN x y (fun a b => fB (Nat.beq a b)) (slowB .eql x y)
noncomputable def bNe (x y : V) : V := onNN x y (fun a b => Bool.rec (.b true) (.b false) (Nat.beq a b)) (slowB .neq x y)
noncomputable def bLt (x y : V) : V := onNN x y (fun a b => fB (Nat.blt a b)) (slowB .lss x y)
noncomputable def bLe (x y : V) : V := onNN x y (fun a b => fB (Nat.ble a b)) (slowB .leq x y)
noncomputable def bGt (x y : V) : V := onNN x y (fun a b => fB (Nat.blt b a)) (slowB .gtr x y)
noncomputable def bGe (x y : V) : V := onNN x y (fun a b => fB (Nat.ble b a)) (slowB .geq x y)
noncomputable def bShl (x y : V) : V := onNN x y (fun a b => Bool.rec (slowB .shl x y) (small (Nat.shiftLeft a b) (slowB .shl x y)) (Nat.ble b 64)) (slowB .shl x y)
noncomputable def bShr (x y : V) : V := onNN x y (fun a b => Bool.rec (slowB .shr x y) (fN (Nat.shiftRight a b) V.n) (Nat.ble b 64)) (slowB .shr x y)
noncomputable def bAnd (x y : V) : V := onNN x y (fun a b => fN (Nat.land a b) V.n) (slowB .and x y)
noncomputable def bOr (x y : V) : V := onNN x y (fun a b => small (Nat.lor a b) (slowB .or x y)) (slowB .or x y)
noncomputable def bXor (x y : V) : V := onNN x y (fun a b => small (Nat.xor a b) (slowB .xor x y)) (slowB .xor x y)
noncomputable def bAndNot (x y : V) : V := slowB .andNot x y
noncomputable def binV0 (op : BinOp) : V → V → V :=
  BinOp.rec (motive := fun _ => V → V → V) bAdd bSub bMul bQuo bRem bAnd bOr bXor bShl bShr bAndNot bEq bNe bLt bLe bGt bGe op

theorem onNN_sound (P : Program) (w : World) (g : Sig) (op : BinOp) (t : TypeId) (ox oy : Operand) {x y : V} {a b : Value} (ha : x.rel g a) (hb : y.rel g b) (f : Nat → Nat → V)
    (hf : ∀ p q : Nat, p < 9223372036854775808 → q < 9223372036854775808 → x = .n p → y = .n q → f p q ≠ .bad → f p q = slowB op x y ∨ ∃ u, (binOp op t (.int .i64 p) (.int .i64 q)).run P w = .ok u w ∧ (f p q).rel g u)
    (h : onNN x y f (slowB op x y) ≠ .bad) :
    ∃ u, (eqGuard op t ox oy a b).run P w = .ok () w ∧ (binOp op t a b).run P w = .ok u w ∧ (onNN x y f (slowB op x y)).rel g u := by
  unfold onNN at h ⊢
  rcases onN_or x (fun a => onN y (fun b => f a b) (slowB op x y)) (slowB op x y) with ⟨p, hp, e⟩ | e
  · rw [e] at h ⊢
    rcases onN_or y (fun b => f p b) (slowB op x y) with ⟨q, hq, e'⟩ | e'
    · rw [e'] at h ⊢
      have ha' := ha
      have hb' := hb
      rw [hp, V.rel] at ha'
      rw [hq, V.rel] at hb'
      rcases hf p q ha'.2 hb'.2 hp hq h with hs | ⟨u, h1, h2⟩
      · rw [hs] at h ⊢; exact slowB_sound P w g op t ox oy ha hb h
      · rw [ha'.1, hb'.1]; exact ⟨u, by rw [eqGuard_at_int]; rfl, h1, h2⟩
    · rw [e'] at h ⊢; exact slowB_sound P w g op t ox oy ha hb h
  · rw [e] at h ⊢; exact slowB_sound P w g op t ox oy ha hb h

theorem wrap_nat {c : Nat} (h : c < 9223372036854775808) : IntKind.i64.wrap (c : Int) = c := by
  rw [IntKind.wrap_i64]; omega

theorem small_or (c : Nat) (s : V) : (c < 9223372036854775808 ∧ small c s = .n c) ∨ small c s = s := by
  unfold small
  rw [fN_eq]
  cases h : Nat.blt c 9223372036854775808
  · exact .inr rfl
  · exact .inl ⟨by simpa [Nat.blt_eq] using h, rfl⟩

theorem rel_n (g : Sig) {c : Nat} {z : Int} (h : c < 9223372036854775808) (hz : z = c) : (V.n c).rel g (.int .i64 z) := by
  rw [V.rel]; exact ⟨by rw [hz], h⟩

theorem binV0_sound (P : Program) (w : World) (g : Sig) (op : BinOp) (t : TypeId) (ox oy : Operand) {x y : V} {a b : Value} (ha : x.rel g a) (hb : y.rel g b) (h : binV0 op x y ≠ .bad) :
    ∃ u, (eqGuard op t ox oy a b).run P w = .ok () w ∧ (binOp op t a b).run P w = .ok u w ∧ (binV0 op x y).rel g u := by
  cases op
  case add =>
    refine onNN_sound P w g .add t ox oy ha hb _ (fun p q hp hq _ _ _ => ?_) h
    rcases small_or (Nat.add p q) (slowB .add x y) with ⟨hc, e⟩ | e
    · rw [e]; exact .inr ⟨.int .i64 (IntKind.i64.wrap (p + q)), by simp only [binOp, ne_eq, not_true_eq_false, if_false, Op.intArith]; rfl, rel_n g hc (by have := wrap_nat hc; exact this)⟩
    · exact .inl e
  case mul =>
    refine onNN_sound P w g .mul t ox oy ha hb _ (fun p q hp hq _ _ _ => ?_) h
    rcases small_or (Nat.mul p q) (slowB .mul x y) with ⟨hc, e⟩ | e
    · rw [e]; exact .inr ⟨.int .i64 (IntKind.i64.wrap (p * q)), by simp only [binOp, ne_eq, not_true_eq_false, if_false, Op.intArith]; rfl, rel_n g hc (by have := wrap_nat hc; exact this)⟩
    · exact .inl e
  case sub =>
    refine onNN_sound P w g .sub t ox oy ha hb _ (fun p q hp hq _ _ hne => ?_) h
    cases hle : Nat.ble q p
    · exact .inl rfl
    · rw [Nat.ble_eq] at hle
      refine .inr ⟨.int .i64 (IntKind.i64.wrap (p - q)), by simp only [binOp, ne_eq, not_true_eq_false, if_false, Op.intArith]; rfl, ?_⟩
      show V.rel g (fN (p - q) V.n) _
      rw [fN_eq]
      exact rel_n g (by omega) (by rw [← wrap_nat (c := p - q) (by omega)]; congr 1; omega)
  case quo =>
    refine onNN_sound P w g .quo t ox oy ha hb _ (fun p q hp hq _ _ hne => ?_) h
    cases hz : Nat.beq q 0
    · have hq0 : q ≠ 0 := by intro e; subst e; cases hz
      refine .inr ⟨.int .i64 (IntKind.i64.wrap ((p : Int).tdiv q)), by simp only [binOp, ne_eq, not_true_eq_false, if_false, Op.intDiv, Int.natCast_eq_zero, hq0]; rfl, ?_⟩
      show V.rel g (fN (p / q) V.n) _
      rw [fN_eq]
      have hlt : p / q < 9223372036854775808 := Nat.lt_of_le_of_lt (Nat.div_le_self _ _) hp
      exact rel_n g hlt (by rw [← wrap_nat hlt]; rfl)
    · rw [hz] at hne; exact absurd rfl hne
  case rem =>
    refine onNN_sound P w g .rem t ox oy ha hb _ (fun p q hp hq _ _ hne => ?_) h
    cases hz : Nat.beq q 0
    · have hq0 : q ≠ 0 := by intro e; subst e; cases hz
      refine .inr ⟨.int .i64 ((p : Int).tmod q), by simp only [binOp, ne_eq, not_true_eq_false, if_false, Op.intDiv, Int.natCast_eq_zero, hq0]; rfl, ?_⟩
      show V.rel g (fN (p % q) V.n) _
      rw [fN_eq]
      exact rel_n g (Nat.lt_of_le_of_lt (Nat.mod_le _ _) hp) rfl
    · rw [hz] at hne; exact absurd rfl hne
  case and =>
    refine onNN_sound P w g .and t ox oy ha hb _ (fun p q hp hq _ _ hne => ?_) h
    have hlt : p &&& q < 9223372036854775808 := Nat.lt_of_le_of_lt Nat.and_le_left hp
    refine .inr ⟨_, by simp only [binOp, ne_eq, not_true_eq_false, if_false, Op.intBits]; rfl, ?_⟩
    show V.rel g (fN (p &&& q) V.n) _
    rw [fN_eq]
    refine rel_n g hlt ?_
    rw [← wrap_nat hlt]
    congr 1
    show (((BitVec.ofInt 64 (p : Int)) &&& (BitVec.ofInt 64 (q : Int))).toNat : Int) = _
    rw [BitVec.ofInt_natCast, BitVec.ofInt_natCast, BitVec.toNat_and, BitVec.toNat_ofNat, BitVec.toNat_ofNat, Nat.mod_eq_of_lt (by omega), Nat.mod_eq_of_lt (by omega)]
  case or =>
    refine onNN_sound P w g .or t ox oy ha hb _ (fun p q hp hq _ _ hne => ?_) h
    rcases small_or (Nat.lor p q) (slowB .or x y) with ⟨hc, e⟩ | e
    · rw [e]
      refine .inr ⟨_, by simp only [binOp, ne_eq, not_true_eq_false, if_false, Op.intBits]; rfl, ?_⟩
      refine rel_n g hc ?_
      rw [← wrap_nat hc]
      congr 1
      show (((BitVec.ofInt 64 (p : Int)) ||| (BitVec.ofInt 64 (q : Int))).toNat : Int) = _
      rw [BitVec.ofInt_natCast, BitVec.ofInt_natCast, BitVec.toNat_or, BitVec.toNat_ofNat, BitVec.toNat_ofNat, Nat.mod_eq_of_lt (by omega), Nat.mod_eq_of_lt (by omega)]
      rfl
    · exact .inl e
  case xor =>
    refine onNN_sound P w g .xor t ox oy ha hb _ (fun p q hp hq _ _ hne => ?_) h
    rcases small_or (Nat.xor p q) (slowB .xor x y) with ⟨hc, e⟩ | e
    · rw [e]
      refine .inr ⟨_, by simp only [binOp, ne_eq, not_true_eq_false, if_false, Op.intBits]; rfl, ?_⟩
      refine rel_n g hc ?_
      rw [← wrap_nat hc]
      congr 1
      show (((BitVec.ofInt 64 (p : Int)) ^^^ (BitVec.ofInt 64 (q : Int))).toNat : Int) = _
      rw [BitVec.ofInt_natCast, BitVec.ofInt_natCast, BitVec.toNat_xor, BitVec.toNat_ofNat, BitVec.toNat_ofNat, Nat.mod_eq_of_lt (by omega), Nat.mod_eq_of_lt (by omega)]
      rfl
    · exact .inl e
  case andNot => exact slowB_sound P w g .andNot t ox oy ha hb h
  case shl =>
    refine onNN_sound P w g .shl t ox oy ha hb _ (fun p q hp hq _ _ hne => ?_) h
    cases hq64 : Nat.ble q 64
    · exact .inl rfl
    · rw [Nat.ble_eq] at hq64
      show small _ _ = _ ∨ ∃ u, _ ∧ V.rel g (small _ _) u
      rcases small_or (Nat.shiftLeft p q) (slowB .shl x y) with ⟨hc, e⟩ | e
      · rw [e]
        refine .inr ⟨.int .i64 (IntKind.i64.wrap ((p : Int) * 2 ^ q)), ?_, rel_n g hc ?_⟩
        · have hn : ¬ ((q : Int) < 0) := by omega
          simp only [binOp, Op.shift, if_neg hn, Int.toNat_natCast, IntKind.bits, Nat.min_eq_left hq64]; rfl
        · rw [← wrap_nat hc]
          have : Nat.shiftLeft p q = p * 2 ^ q := Nat.shiftLeft_eq p q
          rw [this]; simp
      · exact .inl e
  case shr =>
    refine onNN_sound P w g .shr t ox oy ha hb _ (fun p q hp hq _ _ hne => ?_) h
    cases hq64 : Nat.ble q 64
    · exact .inl rfl
    · rw [Nat.ble_eq] at hq64
      have hsr : Nat.shiftRight p q = p / 2 ^ q := Nat.shiftRight_eq_div_pow p q
      refine .inr ⟨.int .i64 ((p : Int).fdiv (2 ^ q)), ?_, ?_⟩
      · have hn : ¬ ((q : Int) < 0) := by omega
        simp only [binOp, Op.shift, if_neg hn, Int.toNat_natCast, IntKind.bits, Nat.min_eq_left hq64]; rfl
      · show V.rel g (fN (Nat.shiftRight p q) V.n) _
        rw [fN_eq, hsr]
        refine rel_n g (Nat.lt_of_le_of_lt (Nat.div_le_self _ _) hp) ?_
        have : ((2 : Int) ^ q) = ((2 ^ q : Nat) : Int) := by simp
        rw [this]
        rw [Int.fdiv_eq_ediv_of_nonneg _ (Int.natCast_nonneg _)]
        rfl
  case eql =>
    refine onNN_sound P w g .eql t ox oy ha hb _ (fun p q hp hq _ _ hne => .inr ⟨.bool ((p : Int) == q), by simp only [binOp, ne_eq, not_true_eq_false, if_false, Op.intCmp]; rfl, ?_⟩) h
    rw [fB_eq, V.rel]; congr 1
    rw [Bool.eq_iff_iff]; simp [Nat.beq_eq]; omega
  case neq =>
    refine onNN_sound P w g .neq t ox oy ha hb _ (fun p q hp hq _ _ hne => .inr ⟨.bool ((p : Int) != q), by simp only [binOp, ne_eq, not_true_eq_false, if_false, Op.intCmp]; rfl, ?_⟩) h
    cases he : Nat.beq p q
    · rw [V.rel]; congr 1
      have : p ≠ q := by intro e; subst e; simp at he
      simp; omega
    · rw [V.rel]; congr 1
      have : p = q := by simpa [Nat.beq_eq] using he
      simp [this]
  case lss =>
    refine onNN_sound P w g .lss t ox oy ha hb _ (fun p q hp hq _ _ hne => .inr ⟨.bool (decide ((p : Int) < q)), by simp only [binOp, ne_eq, not_true_eq_false, if_false, Op.intCmp]; rfl, ?_⟩) h
    rw [fB_eq, V.rel]; congr 1
    rw [Bool.eq_iff_iff]; simp [Nat.blt_eq]
  case leq =>
    refine onNN_sound P w g .leq t ox oy ha hb _ (fun p q hp hq _ _ hne => .inr ⟨.bool (decide ((p : Int) ≤ q)), by simp only [binOp, ne_eq, not_true_eq_false, if_false, Op.intCmp]; rfl, ?_⟩) h
    rw [fB_eq, V.rel]; congr 1
    rw [Bool.eq_iff_iff]; simp [Nat.ble_eq]
  case gtr =>
    refine onNN_sound P w g .gtr t ox oy ha hb _ (fun p q hp hq _ _ hne => .inr ⟨.bool (decide ((p : Int) > q)), by simp only [binOp, ne_eq, not_true_eq_false, if_false, Op.intCmp]; rfl, ?_⟩) h
    rw [fB_eq, V.rel]; congr 1
    rw [Bool.eq_iff_iff]; simp [Nat.blt_eq]
  case geq =>
    refine onNN_sound P w g .geq t ox oy ha hb _ (fun p q hp hq _ _ hne => .inr ⟨.bool (decide ((p : Int) ≥ q)), by simp only [binOp, ne_eq, not_true_eq_false, if_false, Op.intCmp]; rfl, ?_⟩) h
    rw [fB_eq, V.rel]; congr 1
    rw [Bool.eq_iff_iff]; simp [Nat.ble_eq]

/-! Numbers without a sign: the same, quicker. -/
inductive UV where | no | y (k : IntKind) (m a : Nat)
noncomputable def uvI (k : IntKind) (m : Nat) (i : Int) : UV := Int.rec (motive := fun _ => UV) (fun a => .y k m a) (fun _ => .no) i
noncomputable def V.asU : V → UV := V.rec (motive_1 := fun _ => UV) (motive_2 := fun _ => Unit) .no (fun _ => .no) (fun k i => IntKind.rec (motive := fun _ => Int → UV) (fun _ => .no) (fun _ => .no) (fun _ => .no) (fun _ => .no) (uvI .u8 8) (uvI .u16 16) (uvI .u32 32) (uvI .u64 64) k i) (fun _ => .no) (fun _ _ => .no) .no (fun _ _ _ _ _ => .no)
    .no (fun _ _ => .no) (fun _ _ => .no) (fun _ _ _ _ _ => .no) .no (fun _ => .no) (fun _ _ _ => .no) .no (fun _ => .no) .no (fun _ => .no) (fun _ _ _ _ => .no) () (fun _ _ _ _ => ())
theorem asU_y {v : V} {k : IntKind} {m a : Nat} (h : v.asU = .y k m a) : v = .i k (.ofNat a) ∧ m = k.bits ∧ k.signed = false := by
  cases v with
  | i k' z => cases k' <;> cases z <;> first | (have h' : UV.no = .y k m a := h; cases h'; done) | (have h' : UV.y _ _ _ = UV.y k m a := h; cases h'; exact ⟨rfl, rfl, rfl⟩)
  | _ => have h' : UV.no = .y k m a := h; cases h'
noncomputable def mkU (k : IntKind) (n : Nat) : V := fN n fun n => .i k (.ofNat n)
noncomputable def uOp : BinOp → IntKind → Nat → Nat → Nat → V → V :=
  BinOp.rec (motive := fun _ => IntKind → Nat → Nat → Nat → V → V)
    (fun k w a b _ => mkU k (Nat.mod (Nat.add a b) w)) (fun k w a b _ => mkU k (Nat.mod (Nat.add a (Nat.sub w (Nat.mod b w))) w)) (fun k w a b _ => mkU k (Nat.mod (Nat.mul a b) w))
    (fun k w a b s => Bool.rec (mkU k (Nat.mod (Nat.div a b) w)) s (Nat.beq b 0)) (fun k _ a b s => Bool.rec (mkU k (Nat.mod a b)) s (Nat.beq b 0))
    (fun k w a b _ => mkU k (Nat.land (Nat.mod a w) (Nat.mod b w))) (fun k w a b _ => mkU k (Nat.lor (Nat.mod a w) (Nat.mod b w))) (fun k w a b _ => mkU k (Nat.xor (Nat.mod a w) (Nat.mod b w)))
    (fun _ _ _ _ s => s) (fun _ _ _ _ s => s) (fun k w a b _ => mkU k (Nat.land (Nat.mod a w) (Nat.sub (Nat.sub w 1) (Nat.mod b w))))
    (fun _ _ a b _ => fB (Nat.beq a b)) (fun _ _ a b _ => Bool.rec (.b true) (.b false) (Nat.beq a b)) (fun _ _ a b _ => fB (Nat.blt a b)) (fun _ _ a b _ => fB (Nat.ble a b)) (fun _ _ a b _ => fB (Nat.blt b a)) (fun _ _ a b _ => fB (Nat.ble b a))
noncomputable def midB (op : BinOp) (x y : V) : V := UV.rec (motive := fun _ => V) (slowB op x y) (fun k m a => UV.rec (motive := fun _ => V) (slowB op x y) (fun _ m' b => Bool.rec (slowB op x y) (uOp op k (Nat.pow 2 m) a b (slowB op x y)) (Nat.beq m m')) y.asU) x.asU
theorem uwrap {k : IntKind} (hk : k.signed = false) (z : Int) : k.wrap z = z % (2 ^ k.bits : Nat) := by
  unfold IntKind.wrap
  rw [hk]; simp
theorem umk {k : IntKind} (hk : k.signed = false) (n : Nat) : mkI k (n : Int) = .i k (.ofNat n) := by
  cases k <;> first | (exact absurd hk (by decide)) | exact fN_eq n fun a => V.i _ (.ofNat a)
theorem mkU_eq {k : IntKind} (hk : k.signed = false) {z : Int} {n : Nat} (h : z = n) : mkU k n = mkI k z := by
  subst h; rw [umk hk]; exact fN_eq _ _
theorem ubits (k : IntKind) (a : Nat) : (BitVec.ofInt k.bits (Int.ofNat a)).toNat = a % 2 ^ k.bits := by
  have : BitVec.ofInt k.bits (Int.ofNat a) = BitVec.ofNat k.bits a := BitVec.ofInt_natCast ..
  rw [this, BitVec.toNat_ofNat]
theorem uOp_eq (op : BinOp) {k : IntKind} (hk : k.signed = false) (a b : Nat) : uOp op k (2 ^ k.bits) a b (slowB op (.i k (.ofNat a)) (.i k (.ofNat b))) = slowB op (.i k (.ofNat a)) (.i k (.ofNat b)) := by
  have hw : 0 < 2 ^ k.bits := Nat.two_pow_pos _
  have sl : op ≠ .shl → op ≠ .shr → slowB op (.i k (.ofNat a)) (.i k (.ofNat b)) = slowI op k a b := by
    intro h1 h2
    cases op <;> first | exact absurd rfl h1 | exact absurd rfl h2 | exact if_pos rfl
  have red : ∀ x : Nat, x < 2 ^ k.bits → k.wrap (x : Int) = x := fun x hx => by
    rw [uwrap hk]; norm_cast; exact Nat.mod_eq_of_lt hx
  cases op
  case shl => rfl
  case shr => rfl
  case add => rw [sl (by simp) (by simp)]; exact mkU_eq hk (by rw [uwrap hk]; rfl)
  case sub =>
    rw [sl (by simp) (by simp)]
    refine mkU_eq hk ?_
    rw [uwrap hk]
    have h1 := Nat.mod_lt b hw
    have hb := Nat.div_add_mod b (2 ^ k.bits)
    show ((a : Int) - b) % _ = (((a + (2 ^ k.bits - b % 2 ^ k.bits)) % 2 ^ k.bits : Nat) : Int)
    generalize 2 ^ k.bits = W at *
    have e : (a : Int) - b = ((a + (W - b % W) : Nat) : Int) + (W : Int) * (-((b / W : Nat) : Int) - 1) := by
      have e2 : (W : Int) * ((b / W : Nat) : Int) = ((W * (b / W) : Nat) : Int) := by simp
      rw [Int.mul_sub, Int.mul_neg, Int.mul_one, e2]
      generalize W * (b / W) = t at *
      generalize b % W = r at *
      omega
    rw [e, Int.add_mul_emod_self_left]
    simp
  case mul => rw [sl (by simp) (by simp)]; exact mkU_eq hk (by rw [uwrap hk]; rfl)
  case quo =>
    rw [sl (by simp) (by simp)]
    show (Bool.rec (mkU k (Nat.mod (Nat.div a b) (2 ^ k.bits))) (slowI .quo k a b) (Nat.beq b 0) : V) = slowI .quo k a b
    cases hz : Nat.beq b 0
    · have hb : b ≠ 0 := by intro e; subst e; cases hz
      have hb' : ¬ (b : Int) = 0 := by omega
      show mkU k (Nat.mod (Nat.div a b) (2 ^ k.bits)) = if (b : Int) = 0 then .bad else mkI k (k.wrap ((a : Int).tdiv b))
      rw [if_neg hb']
      exact mkU_eq hk (by rw [uwrap hk]; rfl)
    · rfl
  case rem =>
    rw [sl (by simp) (by simp)]
    show (Bool.rec (mkU k (Nat.mod a b)) (slowI .rem k a b) (Nat.beq b 0) : V) = slowI .rem k a b
    cases hz : Nat.beq b 0
    · have hb : b ≠ 0 := by intro e; subst e; cases hz
      have hb' : ¬ (b : Int) = 0 := by omega
      show mkU k (Nat.mod a b) = if (b : Int) = 0 then .bad else mkI k ((a : Int).tmod b)
      rw [if_neg hb']
      exact mkU_eq hk (by rfl)
    · rfl
  case and =>
    rw [sl (by simp) (by simp)]
    refine mkU_eq hk ?_
    show k.wrap _ = _
    rw [BitVec.toNat_and]
    erw [ubits, ubits]
    exact red _ (Nat.lt_of_le_of_lt Nat.and_le_left (Nat.mod_lt _ hw))
  case or =>
    rw [sl (by simp) (by simp)]
    refine mkU_eq hk ?_
    show k.wrap _ = _
    rw [BitVec.toNat_or]
    erw [ubits, ubits]
    exact red _ (Nat.or_lt_two_pow (Nat.mod_lt _ hw) (Nat.mod_lt _ hw))
  case xor =>
    rw [sl (by simp) (by simp)]
    refine mkU_eq hk ?_
    show k.wrap _ = _
    rw [BitVec.toNat_xor]
    erw [ubits, ubits]
    exact red _ (Nat.xor_lt_two_pow (Nat.mod_lt _ hw) (Nat.mod_lt _ hw))
  case andNot =>
    rw [sl (by simp) (by simp)]
    refine mkU_eq hk ?_
    show k.wrap _ = _
    rw [BitVec.toNat_and, BitVec.toNat_not]
    erw [ubits, ubits]
    exact red _ (Nat.lt_of_le_of_lt Nat.and_le_left (Nat.mod_lt _ hw))
  case eql =>
    rw [sl (by simp) (by simp)]
    show fB _ = fB _
    congr 1
    rw [Bool.eq_iff_iff]; simp [Nat.beq_eq]; omega
  case neq =>
    rw [sl (by simp) (by simp)]
    show (Bool.rec (.b true) (.b false) (Nat.beq a b) : V) = fB _
    rw [fB_eq]
    cases he : Nat.beq a b
    · have : a ≠ b := by intro e; subst e; simp at he
      show V.b true = _; congr 1; simp; omega
    · have : a = b := by simpa [Nat.beq_eq] using he
      show V.b false = _; congr 1; simp [this]
  case lss => rw [sl (by simp) (by simp)]; show fB _ = fB _; congr 1; rw [Bool.eq_iff_iff]; simp [Nat.blt_eq]
  case leq => rw [sl (by simp) (by simp)]; show fB _ = fB _; congr 1; rw [Bool.eq_iff_iff]; simp [Nat.ble_eq]
  case gtr => rw [sl (by simp) (by simp)]; show fB _ = fB _; congr 1; rw [Bool.eq_iff_iff]; simp [Nat.blt_eq]
  case geq => rw [sl (by simp) (by simp)]; show fB _ = fB _; congr 1; rw [Bool.eq_iff_iff]; simp [Nat.ble_eq]
theorem bits_inj {k k' : IntKind} (h : k.signed = false) (h' : k'.signed = false) (e : k.bits = k'.bits) : k = k' := by
  cases k <;> cases k' <;> first | rfl | exact absurd h (by decide) | exact absurd h' (by decide) | exact absurd e (by decide)
theorem midB_eq (op : BinOp) (x y : V) : midB op x y = slowB op x y := by
  unfold midB
  cases hx : x.asU with
  | no => rfl
  | y k m a =>
    cases hy : y.asU with
    | no => rfl
    | y k' m' b =>
      obtain ⟨rfl, rfl, h1⟩ := asU_y hx
      obtain ⟨rfl, rfl, h2⟩ := asU_y hy
      show (Bool.rec (slowB op _ _) (uOp op k (2 ^ k.bits) a b (slowB op _ _)) (Nat.beq k.bits k'.bits) : V) = _
      cases he : Nat.beq k.bits k'.bits
      · rfl
      · rw [Nat.beq_eq] at he
        obtain rfl := bits_inj h1 h2 he
        exact uOp_eq op h1 a b
/-- A shift of a number without a sign. -/
noncomputable def midL (x y : V) : V := UV.rec (motive := fun _ => V) (slowB .shl x y) (fun k m a => NV.rec (motive := fun _ => V) (slowB .shl x y) (fun b => Bool.rec (slowB .shl x y) (mkU k (Nat.mod (Nat.shiftLeft a b) (Nat.pow 2 m))) (Nat.ble b m)) y.asNat) x.asU
noncomputable def midR (x y : V) : V := UV.rec (motive := fun _ => V) (slowB .shr x y) (fun k m a => NV.rec (motive := fun _ => V) (slowB .shr x y) (fun b => Bool.rec (slowB .shr x y) (mkU k (Nat.shiftRight a b)) (Nat.ble b m)) y.asNat) x.asU
theorem asNat_y {v : V} {a : Nat} (h : v.asNat = .y a) : v = .n a ∨ ∃ k, v = .i k (.ofNat a) := by
  cases v with
  | n b => have h' : NV.y b = .y a := h; cases h'; exact .inl rfl
  | i k z =>
    cases z with
    | ofNat b => have h' : NV.y b = .y a := h; cases h'; exact .inr ⟨k, rfl⟩
    | negSucc b => have h' : NV.no = .y a := h; cases h'
  | _ => have h' : NV.no = .y a := h; cases h'
theorem onK_nat {β : Type} {v : V} {a : Nat} (h : v.asNat = .y a) (f : Int → β) (z : β) : onK v (fun _ b => f b) z = f a := by
  rcases asNat_y h with rfl | ⟨k, rfl⟩ <;> rfl
theorem midL_eq (x y : V) : midL x y = slowB .shl x y := by
  unfold midL
  cases hx : x.asU with
  | no => rfl
  | y k m a =>
    cases hy : y.asNat with
    | no => rfl
    | y b =>
      obtain ⟨rfl, rfl, h1⟩ := asU_y hx
      show (Bool.rec (slowB .shl _ y) (mkU k (Nat.mod (Nat.shiftLeft a b) (2 ^ k.bits))) (Nat.ble b k.bits) : V) = _
      cases he : Nat.ble b k.bits
      · rfl
      · rw [Nat.ble_eq] at he
        have e : slowB .shl (.i k (.ofNat a)) y = onK y (fun _ b => if b < 0 then .bad else mkI k (k.wrap ((a : Int) * 2 ^ (min b.toNat k.bits)))) .bad := rfl
        rw [e, onK_nat hy fun b => if b < 0 then .bad else mkI k (k.wrap ((a : Int) * 2 ^ (min b.toNat k.bits))), if_neg (by omega)]
        refine mkU_eq h1 ?_
        rw [uwrap h1, Int.toNat_natCast, Nat.min_eq_left he, show Nat.shiftLeft a b = a * 2 ^ b from Nat.shiftLeft_eq a b]
        show _ = ((a * 2 ^ b % 2 ^ k.bits : Nat) : Int)
        simp
theorem midR_eq (x y : V) : midR x y = slowB .shr x y := by
  unfold midR
  cases hx : x.asU with
  | no => rfl
  | y k m a =>
    cases hy : y.asNat with
    | no => rfl
    | y b =>
      obtain ⟨rfl, rfl, h1⟩ := asU_y hx
      show (Bool.rec (slowB .shr _ y) (mkU k (Nat.shiftRight a b)) (Nat.ble b k.bits) : V) = _
      cases he : Nat.ble b k.bits
      · rfl
      · rw [Nat.ble_eq] at he
        have e : slowB .shr (.i k (.ofNat a)) y = onK y (fun _ b => if b < 0 then .bad else mkI k ((a : Int).fdiv (2 ^ (min b.toNat k.bits)))) .bad := rfl
        rw [e, onK_nat hy fun b => if b < 0 then .bad else mkI k ((a : Int).fdiv (2 ^ (min b.toNat k.bits))), if_neg (by omega)]
        refine mkU_eq h1 ?_
        rw [Int.toNat_natCast, Nat.min_eq_left he, show Nat.shiftRight a b = a / 2 ^ b from Nat.shiftRight_eq_div_pow a b]
        have : ((2 : Int) ^ b) = ((2 ^ b : Nat) : Int) := by simp
        rw [this, Int.fdiv_eq_ediv_of_nonneg _ (Int.natCast_nonneg _)]
        rfl

noncomputable def bAdd' (x y : V) : V := onNN x y (fun a b => small (Nat.add a b) ((midB .add x y))) ((midB .add x y))
noncomputable def bSub' (x y : V) : V := onNN x y (fun a b => Bool.rec ((midB .sub x y)) (fN (Nat.sub a b) V.n) (Nat.ble b a)) ((midB .sub x y))
noncomputable def bMul' (x y : V) : V := onNN x y (fun a b => small (Nat.mul a b) ((midB .mul x y))) ((midB .mul x y))
noncomputable def bQuo' (x y : V) : V := onNN x y (fun a b => Bool.rec (fN (Nat.div a b) V.n) .bad (Nat.beq b 0)) ((midB .quo x y))
noncomputable def bRem' (x y : V) : V := onNN x y (fun a b => Bool.rec (fN (Nat.mod a b) V.n) .bad (Nat.beq b 0)) ((midB .rem x y))
noncomputable def bEq' (x y : V) : V := onNN x y (fun a b => fB (Nat.beq a b)) ((midB .eql x y))
noncomputable def bNe' (x y : V) : V := onNN x y (fun a b => Bool.rec (.b true) (.b false) (Nat.beq a b)) ((midB .neq x y))
noncomputable def bLt' (x y : V) : V := onNN x y (fun a b => fB (Nat.blt a b)) ((midB .lss x y))
noncomputable def bLe' (x y : V) : V := onNN x y (fun a b => fB (Nat.ble a b)) ((midB .leq x y))
noncomputable def bGt' (x y : V) : V := onNN x y (fun a b => fB (Nat.blt b a)) ((midB .gtr x y))
noncomputable def bGe' (x y : V) : V := onNN x y (fun a b => fB (Nat.ble b a)) ((midB .geq x y))
noncomputable def bShl' (x y : V) : V := onNN x y (fun a b => Bool.rec ((midL x y)) (small (Nat.shiftLeft a b) ((midL x y))) (Nat.ble b 64)) ((midL x y))
noncomputable def bShr' (x y : V) : V := onNN x y (fun a b => Bool.rec ((midR x y)) (fN (Nat.shiftRight a b) V.n) (Nat.ble b 64)) ((midR x y))
noncomputable def bAnd' (x y : V) : V := onNN x y (fun a b => fN (Nat.land a b) V.n) ((midB .and x y))
noncomputable def bOr' (x y : V) : V := onNN x y (fun a b => small (Nat.lor a b) ((midB .or x y))) ((midB .or x y))
noncomputable def bXor' (x y : V) : V := onNN x y (fun a b => small (Nat.xor a b) ((midB .xor x y))) ((midB .xor x y))
noncomputable def bAndNot' (x y : V) : V := (midB .andNot x y)
noncomputable def binV (op : BinOp) : V → V → V :=
  BinOp.rec (motive := fun _ => V → V → V) bAdd' bSub' bMul' bQuo' bRem' bAnd' bOr' bXor' bShl' bShr' bAndNot' bEq' bNe' bLt' bLe' bGt' bGe' op
theorem binV_eq (op : BinOp) (x y : V) : binV op x y = binV0 op x y := by
  cases op
  case add => show bAdd' x y = bAdd x y; unfold bAdd' bAdd; simp only [midB_eq]
  case sub => show bSub' x y = bSub x y; unfold bSub' bSub; simp only [midB_eq]
  case mul => show bMul' x y = bMul x y; unfold bMul' bMul; simp only [midB_eq]
  case quo => show bQuo' x y = bQuo x y; unfold bQuo' bQuo; simp only [midB_eq]
  case rem => show bRem' x y = bRem x y; unfold bRem' bRem; simp only [midB_eq]
  case and => show bAnd' x y = bAnd x y; unfold bAnd' bAnd; simp only [midB_eq]
  case or => show bOr' x y = bOr x y; unfold bOr' bOr; simp only [midB_eq]
  case xor => show bXor' x y = bXor x y; unfold bXor' bXor; simp only [midB_eq]
  case shl => show bShl' x y = bShl x y; unfold bShl' bShl; simp only [midL_eq]
  case shr => show bShr' x y = bShr x y; unfold bShr' bShr; simp only [midR_eq]
  case andNot => show bAndNot' x y = bAndNot x y; unfold bAndNot' bAndNot; simp only [midB_eq]
  case eql => show bEq' x y = bEq x y; unfold bEq' bEq; simp only [midB_eq]
  case neq => show bNe' x y = bNe x y; unfold bNe' bNe; simp only [midB_eq]
  case lss => show bLt' x y = bLt x y; unfold bLt' bLt; simp only [midB_eq]
  case leq => show bLe' x y = bLe x y; unfold bLe' bLe; simp only [midB_eq]
  case gtr => show bGt' x y = bGt x y; unfold bGt' bGt; simp only [midB_eq]
  case geq => show bGe' x y = bGe x y; unfold bGe' bGe; simp only [midB_eq]
theorem binV_sound (P : Program) (w : World) (g : Sig) (op : BinOp) (t : TypeId) (ox oy : Operand) {x y : V} {a b : Value} (ha : x.rel g a) (hb : y.rel g b) (h : binV op x y ≠ .bad) :
    ∃ u, (eqGuard op t ox oy a b).run P w = .ok () w ∧ (binOp op t a b).run P w = .ok u w ∧ (binV op x y).rel g u := by
  rw [binV_eq] at h ⊢
  exact binV0_sound P w g op t ox oy ha hb h
end Go.Proofs.Ythgaekbcmhbbgaa.Ev
/- The evaluator's operations that only compute, and that the model answers so. -/
namespace Go.Proofs.Ythgaekbcmhbbgaa.Ev
set_option linter.unusedVariables false
open Go

inductive X where
  | t (p : Pos) | c (v : V)
inductive XL where
  | nil | cons (x : X) (l : XL)
inductive PL where
  | nil | cons (off sz : Nat) (x : X) (l : PL)

noncomputable def evX (x : X) (e : Tr) : V := X.rec (motive := fun _ => Tr → V) (fun p e => e.get p) (fun v _ => v) x e
noncomputable def evXL (l : XL) (e : Tr) : L := XL.rec (motive := fun _ => Tr → L) (fun _ => .nil) (fun x _ ih e => .cons (evX x e) (ih e)) l e

inductive Res where
  | no | ok (v : V) (h : Hp) (n : Nat)

mutual
def ofVal : Value → Option V
  | .int k z => match k, z with
    | .i64, .ofNat a => if a < 9223372036854775808 then some (.n a) else none
    | k, z => some (.i k z)
  | .bool b => some (.b b)
  | .pointer none => some .np
  | .slice none 0 0 => some .ns
  | .nilFunc => some .nf
  | .nilIface => some .nif
  | .map none => some .nm
  | .string s => some (.s (s.data.toList.map UInt8.toNat))
  | .agg ⟨vs⟩ => (ofVals vs).map .ag
  | .tuple ⟨vs⟩ => (ofVals vs).map .tu
  | _ => none
def ofVals : List Value → Option L
  | [] => some .nil
  | v :: vs => match ofVal v, ofVals vs with
    | some x, some l => some (.cons x l)
    | _, _ => none
end
mutual
theorem ofVal_rel (g : Sig) : ∀ (u : Value) {v : V}, ofVal u = some v → v.rel g u
  | .int k z, v, h => by
    rw [ofVal.eq_def] at h
    simp only at h
    split at h
    · split at h
      · rename_i hz; cases h; rw [V.rel]; exact ⟨rfl, hz⟩
      · cases h
    · cases h; rw [V.rel]
  | .bool b, v, h => by simp [ofVal] at h; subst h; rfl
  | .pointer none, v, h => by simp [ofVal] at h; subst h; rfl
  | .pointer (some a), v, h => by simp [ofVal] at h
  | .slice none 0 0, v, h => by simp [ofVal] at h; subst h; rfl
  | .slice none 0 (c + 1), v, h => by simp [ofVal] at h
  | .slice none (n + 1) c, v, h => by simp [ofVal] at h
  | .slice (some a) n c, v, h => by simp [ofVal] at h
  | .nilFunc, v, h => by simp [ofVal] at h; subst h; rfl
  | .nilIface, v, h => by simp [ofVal] at h; subst h; rfl
  | .map none, v, h => by simp [ofVal] at h; subst h; rfl
  | .map (some r), v, h => by simp [ofVal] at h
  | .string s, v, h => by
    simp [ofVal] at h; subst h
    rw [V.rel]
    have e : (UInt8.ofNat ∘ UInt8.toNat) = id := by funext x; simp
    obtain ⟨⟨l⟩⟩ := s
    simp [e]
  | .agg ⟨vs⟩, v, h => by
    simp only [ofVal, Option.map_eq_some_iff] at h
    obtain ⟨l, hl, rfl⟩ := h
    rw [V.rel]; exact ⟨vs, rfl, ofVals_rel g vs hl⟩
  | .tuple ⟨vs⟩, v, h => by
    simp only [ofVal, Option.map_eq_some_iff] at h
    obtain ⟨l, hl, rfl⟩ := h
    rw [V.rel]; exact ⟨vs, rfl, ofVals_rel g vs hl⟩
  | .float .., v, h => by simp [ofVal] at h
  | .complex .., v, h => by simp [ofVal] at h
  | .chan _, v, h => by simp [ofVal] at h
  | .func .., v, h => by simp [ofVal] at h
  | .iface .., v, h => by simp [ofVal] at h
theorem ofVals_rel (g : Sig) : ∀ (us : List Value) {l : L}, ofVals us = some l → l.rel g us
  | [], l, h => by simp [ofVals] at h; subst h; rfl
  | u :: us, l, h => by
    rw [ofVals] at h
    split at h
    · rename_i x l' h1 h2
      cases h
      exact ⟨u, us, rfl, ofVal_rel g u h1, ofVals_rel g us h2⟩
    · cases h
end

/-- So many package-level variables have places of their own, the first ones. -/
def gK : Nat := 255
def compX : Operand → Option X
  | .tmp t => if t < 4294967296 then some (.t (posF 63 (t + 1))) else none
  | .const v => (ofVal v).map .c
  | .func f => some (.c (.fn f .nil .nil))
  | .global k => if k < gK then some (.c (.p (posF 63 (k + 1)) 0)) else none
def compXL : List Operand → Option XL
  | [] => some .nil
  | o :: l => match compX o, compXL l with
    | some x, some m => some (.cons x m)
    | _, _ => none

def GOK (g : Sig) : Prop := ∀ k, k < gK → ∃ tot, g (posF 63 (k + 1)) = some (k, 0, tot)
def EnvOK (g : Sig) (e : Tr) (ρ : Operand → Value) : Prop := ∀ o x, compX o = some x → (evX x e).rel g (ρ o)

theorem EnvOK.gok {g : Sig} {e : Tr} {ρ : Operand → Value} (h : EnvOK g e ρ) (hg : ∀ k, ρ (.global k) = .pointer (some ⟨k, 0, none⟩)) : GOK g := by
  intro k hk
  have := h (.global k) (.c (.p (posF 63 (k + 1)) 0)) (by simp [compX, hk])
  have this : V.rel g (.p (posF 63 (k + 1)) 0) (ρ (.global k)) := this
  rw [V.rel, hg k] at this
  obtain ⟨r, base, tot, h1, h2⟩ := this
  simp at h2
  obtain ⟨rfl, rfl⟩ : k = r ∧ base = 0 := ⟨h2.1, by omega⟩
  exact ⟨tot, h1⟩
theorem GOK.mono {g h : Sig} (hg : GOK g) (hl : g.le h) : GOK h := fun k hk => let ⟨tot, e⟩ := hg k hk; ⟨tot, hl _ _ e⟩
theorem GOK.rel {g : Sig} (h : GOK g) {k : Nat} (hk : k < gK) : V.rel g (.p (posF 63 (k + 1)) 0) (.pointer (some ⟨k, 0, none⟩)) := by
  obtain ⟨tot, e⟩ := h k hk
  rw [V.rel]; exact ⟨k, 0, tot, e, rfl⟩
theorem evXL_rel {g : Sig} {e : Tr} {ρ : Operand → Value} (he : EnvOK g e ρ) : ∀ (l : List Operand) {m : XL}, compXL l = some m → (evXL m e).rel g (l.map ρ)
  | [], m, h => by simp [compXL] at h; subst h; rfl
  | o :: l, m, h => by
    rw [compXL] at h
    split at h
    · rename_i x m' h1 h2
      cases h
      exact ⟨_, _, rfl, he o x h1, evXL_rel he l h2⟩
    · cases h

def NX (g : Sig) (v : V) : Next → Prop
  | .value u => v.rel g u
  | .skip => v.rel g undef
  | _ => False

def OpOK (P : Program) (o : Oper) (ev : Tr → Nat → Hp → Nat → Res) : Prop :=
  ∀ e lim h n v h' n', ev e lim h n = .ok v h' n' → ∀ (ρ : Operand → Value) g w, EnvOK g e ρ → Mem g h.get w → Dom h.get n → Fresh g n n' → n' < 9223372036854775808 →
    ∃ nx g' w', (execOp ρ o).run P w = .ok nx w' ∧ NX g' v nx ∧ Mem g' h'.get w' ∧ Fr lim n g h.get w n' g' h'.get w'

noncomputable def pv : V → Hp → Nat → Res := V.rec (motive_1 := fun _ => Hp → Nat → Res) (motive_2 := fun _ => Unit) (fun _ _ => .no) (fun x0 h n => .ok (.n x0) h n) (fun x0 x1 h n => .ok (.i x0 x1) h n) (fun x0 h n => .ok (.b x0) h n) (fun x0 x1 h n => .ok (.p x0 x1) h n) (fun h n => .ok (.np) h n) (fun x0 x1 x2 x3 x4 h n => .ok (.sl x0 x1 x2 x3 x4) h n) (fun h n => .ok (.ns) h n) (fun x0 _ h n => .ok (.ag x0) h n) (fun x0 _ h n => .ok (.tu x0) h n) (fun x0 x1 x2 _ _ h n => .ok (.fn x0 x1 x2) h n) (fun h n => .ok (.nf) h n) (fun x0 h n => .ok (.s x0) h n) (fun x0 x1 _ h n => .ok (.ifc x0 x1) h n) (fun h n => .ok (.nif) h n) (fun x0 h n => .ok (.mp x0) h n) (fun h n => .ok (.nm) h n) (fun x0 h n => .ok (.yl x0) h n) (fun _ _ _ _ _ _ => .no) () (fun _ _ _ _ => ())
theorem pv_ok {v v' : V} {h h' : Hp} {n n' : Nat} (e : pv v h n = .ok v' h' n') : v ≠ .bad ∧ v' = v ∧ h' = h ∧ n' = n := by
  cases v
  case bad => cases e
  case lp => cases e
  all_goals
    have e : Res.ok _ h n = .ok v' h' n' := e
    cases e; exact ⟨by simp, rfl, rfl, rfl⟩

theorem ok_pure {P : Program} {o : Oper} {val : Tr → V} (hp : ∀ e g (ρ : Operand → Value) w, EnvOK g e ρ → val e ≠ .bad → ∃ u, (execOp ρ o).run P w = .ok (.value u) w ∧ (val e).rel g u) :
    OpOK P o (fun e _ h n => pv (val e) h n) := by
  intro e lim h n v h' n' hr ρ g w he m hd _ _
  obtain ⟨hne, rfl, rfl, rfl⟩ := pv_ok hr
  obtain ⟨u, h1, h2⟩ := hp e g ρ w he hne
  exact ⟨.value u, g, w, h1, h2, m, Fr.refl hd⟩

section
variable {P : Program} {o : Oper}

noncomputable def evMv (x : X) (e : Tr) (_ : Nat) (h : Hp) (n : Nat) : Res := .ok (evX x e) h n
theorem ok_mv {ox : Operand} {x : X} (hx : compX ox = some x) (ho : o.op = .move ox ∨ o.op = .assign ox) : OpOK P o (evMv x) := by
  intro e lim h n v h' n' hr ρ g w he m hd _ _
  cases hr
  refine ⟨.value (ρ ox), g, w, ?_, he ox x hx, m, Fr.refl hd⟩
  rcases ho with ho | ho <;> simp [execOp, ho]

noncomputable def evPick (c a b : X) (e : Tr) (_ : Nat) (h : Hp) (n : Nat) : Res := pv (onB (evX c e) (fun t => Bool.rec (evX b e) (evX a e) t) .bad) h n
theorem ok_pick {oc oa ob : Operand} {c a b : X} (hc : compX oc = some c) (ha : compX oa = some a) (hb : compX ob = some b) (ho : o.op = .pick oc oa ob) : OpOK P o (evPick c a b) :=
  ok_pure (val := fun e => onB (evX c e) (fun t => Bool.rec (evX b e) (evX a e) t) .bad) fun e g ρ w he hne => by
    have rc := he oc c hc
    rcases onB_or (evX c e) (fun t => (Bool.rec (evX b e) (evX a e) t : V)) .bad with ⟨t, h1, h2⟩ | h2
    · rw [h2]
      rw [h1, V.rel] at rc
      cases t
      · exact ⟨ρ ob, by simp [execOp, ho, rc, asBool], he ob b hb⟩
      · exact ⟨ρ oa, by simp [execOp, ho, rc, asBool], he oa a ha⟩
    · rw [h2] at hne; exact absurd rfl hne

noncomputable def evBin (op : BinOp) (x y : X) (e : Tr) (_ : Nat) (h : Hp) (n : Nat) : Res := pv (binV op (evX x e) (evX y e)) h n
theorem ok_bin {op : BinOp} {t t' : TypeId} {ox oy : Operand} {x y : X} (hx : compX ox = some x) (hy : compX oy = some y) (ho : o.op = .binOp op t ox oy t') : OpOK P o (evBin op x y) :=
  ok_pure (val := fun e => binV op (evX x e) (evX y e)) fun e g ρ w he hne => by
    obtain ⟨u, h1, h2, h3⟩ := binV_sound P w g op t ox oy (he ox x hx) (he oy y hy) hne
    exact ⟨u, by simp [execOp, ho, h1, h2], h3⟩

noncomputable def eqbV (neg : Bool) (x y : V) : V := onB x (fun a => onB y (fun b => Bool.rec (Bool.rec (.b true) (.b false) (xor a b)) (Bool.rec (.b false) (.b true) (xor a b)) neg) .bad) .bad
noncomputable def evEqb (neg : Bool) (x y : X) (e : Tr) (_ : Nat) (h : Hp) (n : Nat) : Res := pv (eqbV neg (evX x e) (evX y e)) h n
theorem run_eqb (neg : Bool) (t : TypeId) (ht : P.underlying t = some .bool) (ox oy : Operand) (a b : Bool) (w : World) :
    (eqGuard (if neg then .neq else .eql) t ox oy (.bool a) (.bool b)).run P w = .ok () w ∧ (binOp (if neg then .neq else .eql) t (.bool a) (.bool b)).run P w = .ok (.bool (if neg then xor a b else !xor a b)) w := by
  refine ⟨by rw [eqGuard_at_bool]; rfl, ?_⟩
  cases neg
  · rw [if_neg (by simp), if_neg (by simp), run_eql_bool _ t a b ht]
    cases a <;> cases b <;> rfl
  · rw [if_pos rfl, if_pos rfl, run_neq_bool _ t a b ht]
    cases a <;> cases b <;> rfl
theorem ok_eqb {neg : Bool} {t t' : TypeId} {ox oy : Operand} {x y : X} (hx : compX ox = some x) (hy : compX oy = some y) (ht : P.underlying t = some .bool) (ho : o.op = .binOp (if neg then .neq else .eql) t ox oy t') : OpOK P o (evEqb neg x y) :=
  ok_pure (val := fun e => eqbV neg (evX x e) (evX y e)) fun e g ρ w he hne => by
    have rx := he ox x hx
    have ry := he oy y hy
    unfold eqbV at hne ⊢
    rcases onB_or (evX x e) (fun a => onB (evX y e) (fun b => (Bool.rec (Bool.rec (.b true) (.b false) (xor a b)) (Bool.rec (.b false) (.b true) (xor a b)) neg : V)) .bad) .bad with ⟨a, h1, h2⟩ | h2
    · rw [h2] at hne ⊢
      rcases onB_or (evX y e) (fun b => (Bool.rec (Bool.rec (.b true) (.b false) (xor a b)) (Bool.rec (.b false) (.b true) (xor a b)) neg : V)) .bad with ⟨b, h3, h4⟩ | h4
      · rw [h4]
        rw [h1, V.rel] at rx
        rw [h3, V.rel] at ry
        obtain ⟨r1, r2⟩ := run_eqb (P := P) neg t ht ox oy a b w
        refine ⟨_, by simp [execOp, ho, rx, ry, r1, r2]; rfl, ?_⟩
        cases neg <;> cases a <;> cases b <;> rfl
      · rw [h4] at hne; exact absurd rfl hne
    · rw [h2] at hne; exact absurd rfl hne

noncomputable def evNot (x : X) (e : Tr) (_ : Nat) (h : Hp) (n : Nat) : Res := pv (onB (evX x e) (fun t => Bool.rec (.b true) (.b false) t) .bad) h n
theorem ok_not {t : TypeId} {ox : Operand} {x : X} (hx : compX ox = some x) (ho : o.op = .unOp .not t ox) : OpOK P o (evNot x) :=
  ok_pure (val := fun e => onB (evX x e) (fun t => Bool.rec (.b true) (.b false) t) .bad) fun e g ρ w he hne => by
    have rx := he ox x hx
    rcases onB_or (evX x e) (fun t => (Bool.rec (.b true) (.b false) t : V)) .bad with ⟨a, h1, h2⟩ | h2
    · rw [h2]
      rw [h1, V.rel] at rx
      exact ⟨.bool !a, by simp [execOp, ho, rx, Op.unary], by cases a <;> rfl⟩
    · rw [h2] at hne; exact absurd rfl hne

noncomputable def evNeg (x : X) (e : Tr) (_ : Nat) (h : Hp) (n : Nat) : Res := pv (onK (evX x e) (fun k z => mkI k (k.wrap (0 - z))) .bad) h n
theorem ok_neg {t : TypeId} {ox : Operand} {x : X} (hx : compX ox = some x) (ho : o.op = .unOp .neg t ox) : OpOK P o (evNeg x) :=
  ok_pure (val := fun e => onK (evX x e) (fun k z => mkI k (k.wrap (0 - z))) .bad) fun e g ρ w he hne => by
    have rx := he ox x hx
    rcases onK_or rx (fun k z => mkI k (k.wrap (0 - z))) .bad with ⟨k, z, h1, h2⟩ | h2
    · rw [h2]
      exact ⟨.int k (k.wrap (0 - z)), by simp only [execOp, ho, h1, Op.unary, Op.intArith]; rfl, mkI_rel g _ _⟩
    · rw [h2] at hne; exact absurd rfl hne

noncomputable def evConv (k : IntKind) (x : X) (e : Tr) (_ : Nat) (h : Hp) (n : Nat) : Res := pv (onK (evX x e) (fun _ z => mkI k (k.wrap z)) .bad) h n
theorem ok_conv {s d : TypeId} {k : IntKind} {ox : Operand} {x : X} (hx : compX ox = some x) (hs : (P.underlying s).isSome = true) (hd : P.underlying d = some (.int k)) (ho : o.op = .convert s d ox) : OpOK P o (evConv k x) :=
  ok_pure (val := fun e => onK (evX x e) (fun _ z => mkI k (k.wrap z)) .bad) fun e g ρ w he hne => by
    have rx := he ox x hx
    rcases onK_or rx (fun _ z => mkI k (k.wrap z)) .bad with ⟨k', z, h1, h2⟩ | h2
    · rw [h2]
      obtain ⟨d', hd'⟩ := Option.isSome_iff_exists.mp hs
      exact ⟨.int k (k.wrap z), by simp [execOp, ho, h1, convert, run_underlying hd', run_underlying hd, Conv.intToInt], mkI_rel g _ _⟩
    · rw [h2] at hne; exact absurd rfl hne

theorem L.get_lt {g : Sig} {l : L} {vs : List Value} (hr : l.rel g vs) {i : Nat} (hne : l.get i ≠ .bad) : i < vs.length := by
  rw [L.rel_length hr]
  clear hr
  induction l using L.rec (motive_1 := fun _ => True) generalizing i with
  | nil => exact absurd rfl hne
  | cons v l _ ih => cases i with
    | zero => simp [L.length]
    | succ i => have := ih (i := i) hne; simp [L.length]; omega
  | _ => trivial

noncomputable def evExt (i : Nat) (x : X) (e : Tr) (_ : Nat) (h : Hp) (n : Nat) : Res := pv (onT (evX x e) (fun l => nthL i l) .bad) h n
theorem ok_ext {i : Nat} {ox : Operand} {x : X} (hx : compX ox = some x) (ho : o.op = .extract ox i) : OpOK P o (evExt i x) :=
  ok_pure (val := fun e => onT (evX x e) (fun l => nthL i l) .bad) fun e g ρ w he hne => by
    have rx := he ox x hx
    rcases onT_or (evX x e) (fun l => nthL i l) .bad with ⟨l, h1, h2⟩ | h2
    · rw [h2] at hne ⊢
      rw [h1, V.rel] at rx
      obtain ⟨vs, hv, hr⟩ := rx
      rw [nthL_eq] at hne ⊢
      have hlt := L.get_lt hr hne
      have hg := L.rel_get i hr
      refine ⟨vs.getD i undef, ?_, hg⟩
      simp [execOp, ho, hv, Instr.extract, List.getElem?_eq_getElem hlt, List.getD]
    · rw [h2] at hne; exact absurd rfl hne

noncomputable def evMkf (f : Nat) (a c : XL) (e : Tr) (_ : Nat) (h : Hp) (n : Nat) : Res := .ok (.fn f (evXL a e) (evXL c e)) h n
theorem ok_mkf {f : Nat} {oa oc : Array Operand} {a c : XL} (ha : compXL oa.toList = some a) (hc : compXL oc.toList = some c) (ho : o.op = .makeFunc (.func f) oa oc) : OpOK P o (evMkf f a c) := by
  intro e lim h n v h' n' hr ρ g w he m hd _ _
  cases hr
  refine ⟨.value (.func (.func f) (oa.map ρ) (oc.map ρ)), g, w, by simp [execOp, ho, Instr.makeFunc], ?_, m, Fr.refl hd⟩
  show V.rel g (.fn ..) _
  rw [V.rel]
  exact ⟨oa.toList.map ρ, oc.toList.map ρ, by simp [← Array.toList_map], evXL_rel he _ ha, evXL_rel he _ hc⟩

noncomputable def evNilck (x : X) (e : Tr) (_ : Nat) (h : Hp) (n : Nat) : Res := pv (onP (evX x e) (fun a o => .p a o) .bad) h n
theorem ok_nilck {ox : Operand} {x : X} (hx : compX ox = some x) (ho : o.op = .nilCheck ox) : OpOK P o (evNilck x) :=
  ok_pure (val := fun e => onP (evX x e) (fun a o => .p a o) .bad) fun e g ρ w he hne => by
    have rx := he ox x hx
    rcases onP_or (evX x e) (fun a o => V.p a o) .bad with ⟨a, off, h1, h2⟩ | h2
    · rw [h2]
      rw [h1] at rx
      have rx' := rx
      rw [V.rel] at rx
      obtain ⟨r, base, tot, hg, hv⟩ := rx
      exact ⟨_, by simp [execOp, ho, hv]; rfl, by rw [← hv]; exact rx'⟩
    · rw [h2] at hne; exact absurd rfl hne

/-! Addresses. -/
noncomputable def evFad (k : Nat) (x : X) (e : Tr) (_ : Nat) (h : Hp) (n : Nat) : Res := pv (onP (evX x e) (fun a o => fN (Nat.add o k) fun o => .p a o) .bad) h n
theorem ok_fad {s : TypeId} {f : Nat} {ox : Operand} {x : X} {fs : Array Field} {fd : Field} {i : TypeInfo} (hx : compX ox = some x) (hs : P.underlying s = some (.struct fs)) (hf : fs[f]? = some fd)
    (hi : P.info? fd.type = some i) (h0 : i.size ≠ 0) (ho : o.op = .fieldAddr s ox f) : OpOK P o (evFad fd.offset x) :=
  ok_pure (val := fun e => onP (evX x e) (fun a o => fN (Nat.add o fd.offset) fun o => .p a o) .bad) fun e g ρ w he hne => by
    have rx := he ox x hx
    rcases onP_or (evX x e) (fun a o => fN (Nat.add o fd.offset) fun o => V.p a o) .bad with ⟨a, off, h1, h2⟩ | h2
    · rw [h2, fN_eq]
      rw [h1, V.rel] at rx
      obtain ⟨r, base, tot, hg, hv⟩ := rx
      refine ⟨.pointer (some ⟨r, base + off + fd.offset, none⟩), ?_, ⟨r, base, tot, hg, by simp [Nat.add_assoc]⟩⟩
      simp [execOp, ho, hv, Instr.fieldAt, run_underlying hs, hf, Instr.sureAddr, fieldPlace, sizeOf, typeInfo, hi, h0, Addr.add_lit]
    · rw [h2] at hne; exact absurd rfl hne

noncomputable def evIxa (len esz : Nat) (x i : X) (e : Tr) (_ : Nat) (h : Hp) (n : Nat) : Res :=
  pv (onP (evX x e) (fun a o => onI (evX i e) (fun j => Bool.rec .bad (fN (Nat.add o (Nat.mul j esz)) fun o => .p a o) (Nat.blt j len)) .bad) .bad) h n
theorem ok_ixa {t el : TypeId} {len : Nat} {ox oi : Operand} {x i : X} {inf : TypeInfo} (hx : compX ox = some x) (hi : compX oi = some i) (ht : P.underlying t = some (.array len el)) (he' : P.info? el = some inf)
    (ho : o.op = .indexAddr t ox oi) : OpOK P o (evIxa len inf.size x i) :=
  ok_pure (val := fun e => onP (evX x e) (fun a o => onI (evX i e) (fun j => Bool.rec .bad (fN (Nat.add o (Nat.mul j inf.size)) fun o => .p a o) (Nat.blt j len)) .bad) .bad) fun e g ρ w he hne => by
    have rx := he ox x hx
    have ri := he oi i hi
    rcases onP_or (evX x e) (fun a o => onI (evX i e) (fun j => (Bool.rec .bad (fN (Nat.add o (Nat.mul j inf.size)) fun o => .p a o) (Nat.blt j len) : V)) .bad) .bad with ⟨a, off, h1, h2⟩ | h2
    · rw [h2] at hne ⊢
      rcases onI_or ri (fun j => (Bool.rec .bad (fN (Nat.add off (Nat.mul j inf.size)) fun o => .p a o) (Nat.blt j len) : V)) .bad with ⟨j, kk, h3, h4⟩ | h4
      · rw [h4] at hne ⊢
        rw [h1, V.rel] at rx
        obtain ⟨r, base, tot, hg, hv⟩ := rx
        cases hb : Nat.blt j len
        · rw [hb] at hne; exact absurd rfl hne
        · rw [Nat.blt_eq] at hb
          refine ⟨.pointer (some ⟨r, base + off + j * inf.size, none⟩), ?_, ?_⟩
          · have hh : (0 : Int) ≤ (j : Int) ∧ (j : Int) < (len : Int) := by omega
            simp [execOp, ho, hv, h3, Instr.indexAt, run_underlying ht, Instr.sureAddr, asIntOf, sizeOf, typeInfo, he', Addr.add_lit, hb]
          · show V.rel g (fN (off + j * inf.size) fun o => .p a o) _
            rw [fN_eq, V.rel]; exact ⟨r, base, tot, hg, by simp [Nat.add_assoc]⟩
      · rw [h4] at hne; exact absurd rfl hne
    · rw [h2] at hne; exact absurd rfl hne

noncomputable def evIxs (esz : Nat) (x i : X) (e : Tr) (_ : Nat) (h : Hp) (n : Nat) : Res :=
  pv (onS (evX x e) (fun a o e' l _ => onI (evX i e) (fun j => Bool.rec .bad (Bool.rec .bad (fN (Nat.add o (Nat.mul j esz)) fun o => .p a o) (Nat.beq e' esz)) (Nat.blt j l)) .bad) .bad .bad) h n
theorem ok_ixs {t el : TypeId} {ox oi : Operand} {x i : X} {inf : TypeInfo} (hx : compX ox = some x) (hi : compX oi = some i) (ht : P.underlying t = some (.slice el)) (he' : P.info? el = some inf)
    (ho : o.op = .indexAddr t ox oi) : OpOK P o (evIxs inf.size x i) :=
  ok_pure (val := fun e => onS (evX x e) (fun a o e' l _ => onI (evX i e) (fun j => Bool.rec .bad (Bool.rec .bad (fN (Nat.add o (Nat.mul j inf.size)) fun o => .p a o) (Nat.beq e' inf.size)) (Nat.blt j l)) .bad) .bad .bad) fun e g ρ w he hne => by
    have rx := he ox x hx
    have ri := he oi i hi
    rcases onS_or (evX x e) (fun a o e' l (_ : Option Nat) => onI (evX i e) (fun j => (Bool.rec .bad (Bool.rec .bad (fN (Nat.add o (Nat.mul j inf.size)) fun o => .p a o) (Nat.beq e' inf.size)) (Nat.blt j l) : V)) .bad) .bad .bad with ⟨a, off, e', l, c, h1, h2⟩ | ⟨_, h2⟩ | h2
    · rw [h2] at hne ⊢
      rcases onI_or ri (fun j => (Bool.rec .bad (Bool.rec .bad (fN (Nat.add off (Nat.mul j inf.size)) fun o => .p a o) (Nat.beq e' inf.size)) (Nat.blt j l) : V)) .bad with ⟨j, kk, h3, h4⟩ | h4
      · rw [h4] at hne ⊢
        rw [h1, V.rel] at rx
        obtain ⟨r, base, tot, c', o', hg, hv, hesz, hlc, hcm, ho', _⟩ := rx
        cases hb : Nat.blt j l
        · rw [hb] at hne; exact absurd rfl hne
        · rw [hb] at hne
          cases hz : Nat.beq e' inf.size
          · rw [hz] at hne; exact absurd rfl hne
          · rw [Nat.blt_eq] at hb
            have ho2 := ho' (by omega)
            subst ho2
            refine ⟨.pointer (some ⟨r, base + off + j * inf.size, none⟩), ?_, ?_⟩
            · simp [execOp, ho, hv, h3, Instr.indexAt, run_underlying ht, asIntOf, sizeOf, typeInfo, he', Addr.add_lit, hb]
            · show V.rel g (fN (off + j * inf.size) fun o => .p a o) _
              rw [fN_eq, V.rel]; exact ⟨r, base, tot, hg, by simp [Nat.add_assoc]⟩
      · rw [h4] at hne; exact absurd rfl hne
    · rw [h2] at hne; exact absurd rfl hne
    · rw [h2] at hne; exact absurd rfl hne

noncomputable def evLen (x : X) (e : Tr) (_ : Nat) (h : Hp) (n : Nat) : Res := pv (onS (evX x e) (fun _ _ _ l _ => .n l) (.n 0) .bad) h n
theorem ok_len {t : TypeId} {el : TypeId} {ox : Operand} {x : X} (hx : compX ox = some x) (ht : P.underlying t = some (.slice el)) (ho : o.op = .call { callee := .builtin .len, args := #[ox], argTypes := #[t] }) : OpOK P o (evLen x) :=
  ok_pure (val := fun e => onS (evX x e) (fun _ _ _ l _ => .n l) (.n 0) .bad) fun e g ρ w he hne => by
    have rx := he ox x hx
    rcases onS_or (evX x e) (fun _ _ _ l (_ : Option Nat) => V.n l) (.n 0) .bad with ⟨a, off, e', l, c, h1, h2⟩ | ⟨h1, h2⟩ | h2
    · rw [h2]
      rw [h1, V.rel] at rx
      obtain ⟨r, base, tot, c', o', hg, hv, hesz, hlc, hcm, ho', _⟩ := rx
      have hm : l < 9223372036854775808 := by unfold maxLen at hcm; omega
      exact ⟨.int .i64 l, by simp [execOp, ho, resolve, invoke, builtin, Builtin.len_, run_underlying ht, hv, goInt], rel_n g hm rfl⟩
    · rw [h2]
      rw [h1, V.rel] at rx
      exact ⟨.int .i64 0, by simp [execOp, ho, resolve, invoke, builtin, Builtin.len_, run_underlying ht, rx, goInt], rel_n g (by omega) rfl⟩
    · rw [h2] at hne; exact absurd rfl hne
end
end Go.Proofs.Ythgaekbcmhbbgaa.Ev
/- The evaluator's operations on memory, and that the model answers so. -/
namespace Go.Proofs.Ythgaekbcmhbbgaa.Ev
set_option linter.unusedVariables false
open Go

/-! Lists of cells. -/
def V.toL : V → L
  | .ag l => l
  | v => .cons v .nil
theorem toL_rel {g : Sig} {v : V} {u : Value} (hr : v.rel g u) (hc : v.toL.allC = true) : v.toL.rel g u.cells.toList := by
  cases v with
  | ag l => rw [V.rel] at hr; obtain ⟨vs, rfl, hv⟩ := hr; exact hv
  | _ =>
    have h1 := hc
    simp [V.toL, L.allC] at h1
    have ho := (V.isC_one h1 hr).1
    have : u.cells = #[u] := by cases u <;> first | rfl | (simp [Value.oneCell'] at ho)
    rw [this]; exact ⟨u, [], rfl, hr, rfl⟩

def L.upd : L → Nat → V → L
  | .nil, _, _ => .nil
  | .cons _ l, 0, x => .cons x l
  | .cons v l, k + 1, x => .cons v (l.upd k x)
theorem upd_rel {g : Sig} {x : V} {u : Value} (hx : x.rel g u) : ∀ {l : L} {vs : List Value} (k : Nat), l.rel g vs → (l.upd k x).rel g (vs.set k u)
  | .nil, _, k, e => by rw [L.rel] at e; subst e; rfl
  | .cons v l, _, 0, e => by rw [L.rel] at e; obtain ⟨a, as, rfl, h1, h2⟩ := e; exact ⟨u, as, rfl, hx, h2⟩
  | .cons v l, _, k + 1, e => by rw [L.rel] at e; obtain ⟨a, as, rfl, h1, h2⟩ := e; exact ⟨a, _, rfl, h1, upd_rel hx k h2⟩
def L.updS (z : L) (k : Nat) : L → L
  | .nil => z
  | .cons x m => (z.upd k x).updS (k + 1) m
theorem updS_rel {g : Sig} : ∀ {m z : L} {us zs : List Value} (k j : Nat), m.rel g us → z.rel g zs →
    (z.updS (k + j) m).rel g (((us.zipIdx j).foldl (fun cs (c, i) => cs.setIfInBounds (k + i) c) (⟨zs⟩ : Array Value)).toList) ∧ (((us.zipIdx j).foldl (fun cs (c, i) => cs.setIfInBounds (k + i) c) (⟨zs⟩ : Array Value))).size = zs.length
  | .nil, z, _, zs, k, j, e, f => by rw [L.rel] at e; subst e; exact ⟨f, rfl⟩
  | .cons x m, z, _, zs, k, j, e, f => by
    rw [L.rel] at e
    obtain ⟨u, us, rfl, h1, h2⟩ := e
    have := updS_rel (m := m) (z := z.upd (k + j) x) (zs := zs.set (k + j) u) k (j + 1) h2 (upd_rel h1 (k + j) f)
    simp only [List.zipIdx_cons, List.foldl_cons, L.updS]
    have e2 : (⟨zs⟩ : Array Value).setIfInBounds (k + j) u = ⟨zs.set (k + j) u⟩ := by simp
    rw [e2]
    refine ⟨this.1, by rw [this.2]; simp⟩

def L.take : L → Nat → L
  | _, 0 => .nil
  | .nil, _ + 1 => .nil
  | .cons v l, k + 1 => .cons v (l.take k)
def L.drop : L → Nat → L
  | l, 0 => l
  | .nil, _ + 1 => .nil
  | .cons _ l, k + 1 => l.drop k
theorem take_rel {g : Sig} : ∀ {l : L} {vs : List Value} (k : Nat), l.rel g vs → (l.take k).rel g (vs.take k)
  | .nil, _, 0, e => by rw [L.rel] at e; subst e; rfl
  | .nil, _, k + 1, e => by rw [L.rel] at e; subst e; rfl
  | .cons v l, _, 0, e => by rw [L.rel] at e; obtain ⟨a, as, rfl, h1, h2⟩ := e; rfl
  | .cons v l, _, k + 1, e => by rw [L.rel] at e; obtain ⟨a, as, rfl, h1, h2⟩ := e; exact ⟨a, _, rfl, h1, take_rel k h2⟩
theorem drop_rel {g : Sig} : ∀ {l : L} {vs : List Value} (k : Nat), l.rel g vs → (l.drop k).rel g (vs.drop k)
  | .nil, _, 0, e => by rw [L.rel] at e; subst e; rfl
  | .nil, _, k + 1, e => by rw [L.rel] at e; subst e; rfl
  | .cons v l, _, 0, e => by simpa [L.drop] using e
  | .cons v l, _, k + 1, e => by rw [L.rel] at e; obtain ⟨a, as, rfl, h1, h2⟩ := e; exact drop_rel k h2

/-! Parts put into a composite. -/
def compPL (place : Nat → Option (Nat × Nat)) : List (Nat × Operand) → Option PL
  | [] => some .nil
  | (i, o) :: l => match place i, compX o, compPL place l with
    | some (off, sz), some x, some m => some (.cons off sz x m)
    | _, _, _ => none
noncomputable def evPL (e : Tr) : PL → L → Option L
  | .nil, z => some z
  | .cons off sz x l, z =>
    let m := (evX x e).toL
    if m.length = sz ∧ m.allC = true ∧ off + sz ≤ z.length then evPL e l (z.updS off m) else none
theorem evPL_rel {g : Sig} {e : Tr} {ρ : Operand → Value} (he : EnvOK g e ρ) {place : Nat → Option (Nat × Nat)} : ∀ (l : List (Nat × Operand)) {pl : PL} {z z' : L} {zs : List Value},
    compPL place l = some pl → evPL e pl z = some z' → z.rel g zs → ∃ zs', Instr.fill place ⟨zs⟩ (l.map fun (i, x) => (i, ρ x)) = some ⟨zs'⟩ ∧ z'.rel g zs'
  | [], pl, z, z', zs, h, h', hz => by
    simp [compPL] at h; subst h
    simp [evPL] at h'; subst h'
    exact ⟨zs, rfl, hz⟩
  | (i, o) :: l, pl, z, z', zs, h, h', hz => by
    rw [compPL] at h
    split at h
    · rename_i off sz x m h1 h2 h3
      cases h
      rw [evPL] at h'
      split at h'
      · rename_i hc
        obtain ⟨hc1, hc2, hc3⟩ := hc
        have rx := toL_rel (he o x h2) hc2
        have hlen : ((ρ o).cells).size = sz := by rw [← hc1, ← L.rel_length rx]; simp
        have hzl : zs.length = z.length := L.rel_length hz
        have up := updS_rel (k := off) 0 rx hz
        simp only [Nat.add_zero] at up
        obtain ⟨zs', hf, hr⟩ := evPL_rel he l (z := z.updS off (evX x e).toL) (z' := z') (zs := (((ρ o).cells.toList.zipIdx 0).foldl (fun cs (c, i) => cs.setIfInBounds (off + i) c) (⟨zs⟩ : Array Value)).toList) h3 h' up.1
        refine ⟨zs', ?_, hr⟩
        simp only [List.map_cons, Instr.fill, h1]
        rw [if_neg]
        · rw [← hf]
          congr 1
          rw [← Array.foldl_toList, Array.toList_zipIdx]
        · have : ((⟨zs⟩ : Array Value)).size = z.length := by simp [hzl]
          simp [hlen, hzl]; omega
      · cases h'
    · cases h

section
variable {P : Program} {o : Oper}

noncomputable def okL (z : Option L) (h : Hp) (n : Nat) : Res := match z with | some l => .ok (.ag l) h n | none => .no
noncomputable def evBuild (z : L) (ps : PL) (e : Tr) (_ : Nat) (h : Hp) (n : Nat) : Res := okL (evPL e ps z) h n

theorem run_mapM {α β : Type} (P : Program) (w : World) (f : α → Sem β) (k : α → β) : ∀ (l : List α), (∀ a ∈ l, (f a).run P w = .ok (k a) w) → (l.mapM f).run P w = .ok (l.map k) w
  | [], _ => by simp
  | a :: l, h => by
    have h1 := h a (by simp)
    have h2 := run_mapM P w f k l (fun b hb => h b (by simp [hb]))
    simp [List.mapM_cons, h1, h2]

theorem ok_build_struct {t : TypeId} {parts : Array (Nat × Operand)} {fs : Array Field} {ps : PL} {i : TypeInfo} {zv : Value} {z : L} (ht : P.underlying t = some (.struct fs)) (hi : P.info? t = some i) (hz : i.zero = some zv)
    (hzl : ofVals zv.cells.toList = some z) (hfs : fs.all (fun f => (P.info? f.type).isSome) = true)
    (hp : compPL (fun j => (fs[j]?).map fun f => (f.offset, ((P.info? f.type).map (·.size)).getD 0)) parts.toList = some ps) (ho : o.op = .build t parts) : OpOK P o (evBuild z ps) := by
  intro e lim h n v h' n' hr ρ g w he m hd _ _
  unfold evBuild okL at hr
  split at hr
  · rename_i l hl
    cases hr
    have zr : z.rel g zv.cells.toList := ofVals_rel g _ hzl
    obtain ⟨zs', hf, hrel⟩ := evPL_rel he parts.toList hp hl zr
    refine ⟨.value (.agg ⟨zs'⟩), g, w, ?_, ⟨zs', rfl, hrel⟩, m, Fr.refl hd⟩
    have hm : (fs.mapM fun f => (do pure (f.offset, ← sizeOf f.type) : Sem (Nat × Nat))).run P w = .ok (fs.map fun f => (f.offset, ((P.info? f.type).map (·.size)).getD 0)) w := by
      rw [Array.mapM_eq_mapM_toList, Sem.run_map, run_mapM P w _ (fun f => (f.offset, ((P.info? f.type).map (·.size)).getD 0))]
      · refine congrArg (fun x => Result.ok x w) (Array.ext' ?_); simp
      · intro f hf
        rw [Array.all_eq_true'] at hfs
        have := hfs f (by simpa using hf)
        obtain ⟨inf, hinf⟩ := Option.isSome_iff_exists.mp this
        simp [sizeOf, typeInfo, hinf]
    have hfl : Instr.fill (fun j => (fs.map fun f => (f.offset, ((P.info? f.type).map (·.size)).getD 0))[j]?) zv.cells (parts.map fun (i, x) => (i, ρ x)).toList = some ⟨zs'⟩ := by
      rw [← hf]
      congr 1
      · funext j; simp
      · simp
    simp only [execOp, ho, Instr.build, Sem.run_bind, zeroValue, typeInfo, hi, hz, run_program, Result.andThen_ok, Sem.run_pure, run_underlying ht, hm]
    rw [hfl]
    rfl
  · cases hr

theorem ok_build_array {t el : TypeId} {len : Nat} {parts : Array (Nat × Operand)} {ps : PL} {i ie : TypeInfo} {zv : Value} {z : L} (ht : P.underlying t = some (.array len el)) (hi : P.info? t = some i) (hz : i.zero = some zv)
    (hzl : ofVals zv.cells.toList = some z) (hie : P.info? el = some ie)
    (hp : compPL (fun j => some (j * ie.size, ie.size)) parts.toList = some ps) (ho : o.op = .build t parts) : OpOK P o (evBuild z ps) := by
  intro e lim h n v h' n' hr ρ g w he m hd _ _
  unfold evBuild okL at hr
  split at hr
  · rename_i l hl
    cases hr
    have zr : z.rel g zv.cells.toList := ofVals_rel g _ hzl
    obtain ⟨zs', hf, hrel⟩ := evPL_rel he parts.toList hp hl zr
    refine ⟨.value (.agg ⟨zs'⟩), g, w, ?_, ⟨zs', rfl, hrel⟩, m, Fr.refl hd⟩
    have hfl : Instr.fill (fun j => some (j * ie.size, ie.size)) zv.cells (parts.map fun (i, x) => (i, ρ x)).toList = some ⟨zs'⟩ := by
      rw [← hf]
      congr 1
      simp
    simp only [execOp, ho, Instr.build, Sem.run_bind, zeroValue, sizeOf, typeInfo, hi, hz, hie, run_program, Result.andThen_ok, Sem.run_pure, run_underlying ht]
    rw [hfl]
    rfl
  · cases hr

/-! A part of a composite. -/
def P_isAgg (P : Program) (t : TypeId) : Option Bool :=
  match P.underlying t with
  | some (.struct _) | some (.array _ _) => some true
  | some _ => some false
  | none => none
theorem run_isAgg {t : TypeId} {b : Bool} (h : P_isAgg P t = some b) (w : World) : (isAgg t).run P w = .ok b w := by
  unfold P_isAgg at h
  split at h
  · rename_i hd; cases h; simp [isAgg, run_underlying hd]
  · rename_i hd; cases h; simp [isAgg, run_underlying hd]
  · rename_i d h1 h2 hd
    cases h
    cases d <;> first | exact (h1 _ rfl).elim | exact (h2 _ _ rfl).elim | simp [isAgg, run_underlying hd]
  · cases h
noncomputable def partV (off n : Nat) (agg : Bool) (l : L) : V := Bool.rec (nthL off l) (Bool.rec .bad (.ag ((l.drop off).take n)) (Nat.ble (off + n) l.length)) agg
theorem partV_run {g : Sig} {t : TypeId} {i : TypeInfo} {agg : Bool} (hi : P.info? t = some i) (ha : P_isAgg P t = some agg) {l : L} {vs : List Value} (hr : l.rel g vs) (off : Nat) (w : World) (hne : partV off i.size agg l ≠ .bad) :
    ∃ u, (part t ⟨vs⟩ off).run P w = .ok u w ∧ (partV off i.size agg l).rel g u := by
  cases agg
  · show ∃ u, _ ∧ V.rel g (nthL off l) u
    have hne : nthL off l ≠ .bad := hne
    rw [nthL_eq] at hne ⊢
    have hlt := L.get_lt hr hne
    refine ⟨vs.getD off undef, ?_, L.rel_get off hr⟩
    simp [part, run_isAgg ha, List.getElem?_eq_getElem hlt, List.getD]
  · have hne : (Bool.rec .bad (.ag ((l.drop off).take i.size)) (Nat.ble (off + i.size) l.length) : V) ≠ .bad := hne
    cases hb : Nat.ble (off + i.size) l.length
    · rw [hb] at hne; exact absurd rfl hne
    · refine ⟨.agg ⟨(vs.drop off).take i.size⟩, ?_, ?_⟩
      · simp [part, run_isAgg ha, sizeOf, typeInfo, hi, List.extract_eq_take_drop]
      · show V.rel g (Bool.rec .bad (.ag ((l.drop off).take i.size)) (Nat.ble (off + i.size) l.length)) _
        rw [hb]
        exact ⟨_, rfl, take_rel _ (drop_rel _ hr)⟩

noncomputable def evPart (off n : Nat) (agg : Bool) (x : X) (e : Tr) (_ : Nat) (h : Hp) (n' : Nat) : Res := pv (onA (evX x e) (fun l => partV off n agg l) .bad) h n'
theorem ok_part {t : TypeId} {f : Nat} {fs : Array Field} {fd : Field} {i : TypeInfo} {agg : Bool} {ox : Operand} {x : X} (hx : compX ox = some x) (ht : P.underlying t = some (.struct fs)) (hf : fs[f]? = some fd)
    (hi : P.info? fd.type = some i) (ha : P_isAgg P fd.type = some agg) (ho : o.op = .field t ox f) : OpOK P o (evPart fd.offset i.size agg x) :=
  ok_pure (val := fun e => onA (evX x e) (fun l => partV fd.offset i.size agg l) .bad) fun e g ρ w he hne => by
    have rx := he ox x hx
    rcases onA_or (evX x e) (fun l => partV fd.offset i.size agg l) .bad with ⟨l, h1, h2⟩ | h2
    · rw [h2] at hne ⊢
      rw [h1, V.rel] at rx
      obtain ⟨vs, hv, hr⟩ := rx
      obtain ⟨u, h3, h4⟩ := partV_run hi ha hr fd.offset w hne
      exact ⟨u, by simp [execOp, ho, hv, Instr.field, run_underlying ht, hf, asAgg, h3], h4⟩
    · rw [h2] at hne; exact absurd rfl hne

noncomputable def evIdx (len esz : Nat) (agg : Bool) (x i : X) (e : Tr) (_ : Nat) (h : Hp) (n' : Nat) : Res :=
  pv (onA (evX x e) (fun l => onI (evX i e) (fun j => Bool.rec .bad (partV (j * esz) esz agg l) (Nat.blt j len)) .bad) .bad) h n'
theorem ok_idx {t el : TypeId} {len : Nat} {inf : TypeInfo} {agg : Bool} {ox oi : Operand} {x i : X} (hx : compX ox = some x) (hi : compX oi = some i) (ht : P.underlying t = some (.array len el))
    (he' : P.info? el = some inf) (ha : P_isAgg P el = some agg) (ho : o.op = .index t ox oi) : OpOK P o (evIdx len inf.size agg x i) :=
  ok_pure (val := fun e => onA (evX x e) (fun l => onI (evX i e) (fun j => Bool.rec .bad (partV (j * inf.size) inf.size agg l) (Nat.blt j len)) .bad) .bad) fun e g ρ w he hne => by
    have rx := he ox x hx
    have ri := he oi i hi
    rcases onA_or (evX x e) (fun l => onI (evX i e) (fun j => (Bool.rec .bad (partV (j * inf.size) inf.size agg l) (Nat.blt j len) : V)) .bad) .bad with ⟨l, h1, h2⟩ | h2
    · rw [h2] at hne ⊢
      rcases onI_or ri (fun j => (Bool.rec .bad (partV (j * inf.size) inf.size agg l) (Nat.blt j len) : V)) .bad with ⟨j, kk, h3, h4⟩ | h4
      · rw [h4] at hne ⊢
        rw [h1, V.rel] at rx
        obtain ⟨vs, hv, hr⟩ := rx
        cases hb : Nat.blt j len
        · rw [hb] at hne; exact absurd rfl hne
        · rw [hb] at hne
          rw [Nat.blt_eq] at hb
          have hne : partV (j * inf.size) inf.size agg l ≠ .bad := hne
          obtain ⟨u, h5, h6⟩ := partV_run he' ha hr (j * inf.size) w hne
          refine ⟨u, ?_, h6⟩
          simp [execOp, ho, hv, h3, Instr.index, run_underlying ht, asIntOf, sizeOf, typeInfo, he', hb, h5]
      · rw [h4] at hne; exact absurd rfl hne
    · rw [h2] at hne; exact absurd rfl hne
end
end Go.Proofs.Ythgaekbcmhbbgaa.Ev
