/- An evaluator for the model's code: its values, its memory, and their plain laws. -/
import Derived.Orders
import Derived.Laws.AppendOwn
namespace Go.Proofs.YtnpimbpbhbfchaaDoor.Ev
set_option linter.unusedVariables false
open Go

/-! Places of a tree. -/
inductive Pos where
  | h | o (p : Pos) | i (p : Pos)
  deriving DecidableEq, Repr, Inhabited

def Pos.num : Pos → Nat
  | .h => 1 | .o p => 2 * p.num | .i p => 2 * p.num + 1

theorem Pos.num_pos (p : Pos) : 1 ≤ p.num := by
  induction p <;> simp [Pos.num] <;> omega

theorem Pos.num_inj : ∀ {p q : Pos}, p.num = q.num → p = q
  | .h, .h, _ => rfl
  | .h, .o q, e => by have := q.num_pos; simp [Pos.num] at e; omega
  | .h, .i q, e => by have := q.num_pos; simp [Pos.num] at e; omega
  | .o p, .h, e => by have := p.num_pos; simp [Pos.num] at e; omega
  | .i p, .h, e => by have := p.num_pos; simp [Pos.num] at e; omega
  | .o p, .o q, e => by rw [Pos.num_inj (p := p) (q := q) (by simp [Pos.num] at e; omega)]
  | .i p, .i q, e => by rw [Pos.num_inj (p := p) (q := q) (by simp [Pos.num] at e; omega)]
  | .o p, .i q, e => by simp [Pos.num] at e; omega
  | .i p, .o q, e => by simp [Pos.num] at e; omega

/-- The place with a number (from 1 on), with fuel. -/
def posF : Nat → Nat → Pos
  | 0, _ => .h
  | f + 1, n => if n ≤ 1 then .h else if n % 2 = 0 then .o (posF f (n / 2)) else .i (posF f (n / 2))

theorem num_posF : ∀ (f n : Nat), 1 ≤ n → n < 2 ^ (f + 1) → (posF f n).num = n
  | 0, n, h1, h2 => by simp at h2; simp [posF, Pos.num]; omega
  | f + 1, n, h1, h2 => by
    rw [posF]
    split
    · simp [Pos.num]; omega
    · have ih := num_posF f (n / 2) (by omega) (by rw [Nat.pow_succ] at h2; omega)
      split <;> simp [Pos.num, ih] <;> omega

/-! Values. -/
mutual
inductive V where
  | bad
  | n (a : Nat)
  | i (k : IntKind) (z : Int)
  | b (x : Bool)
  | p (a : Pos) (off : Nat)
  | np
  | sl (a : Pos) (off esz len : Nat) (cap : Option Nat)
  | ns
  | ag (l : L)
  | tu (l : L)
  | fn (f : Nat) (a c : L)
  | nf
  | s (x : List Nat)
  | ifc (t : Nat) (v : V)
  | nif
  | mp (a : Pos)
  | nm
  | yl (a : Pos)
  | lp (N : Nat) (ps : Array Nat) (x y : Code)
inductive L where
  | nil
  | cons (v : V) (l : L)
end

instance : Inhabited V := ⟨.bad⟩
instance : Inhabited L := ⟨.nil⟩

def L.length : L → Nat
  | .nil => 0
  | .cons _ l => l.length + 1
def L.get : L → Nat → V
  | .nil, _ => .bad
  | .cons v _, 0 => v
  | .cons _ l, k + 1 => l.get k
def L.app : L → L → L
  | .nil, m => m
  | .cons v l, m => .cons v (l.app m)

/-- Where a block stands, where the part of it begins, and how many cells the block has. -/
abbrev Sig := Pos → Option (Nat × Nat × Nat)

mutual
/-- What a value stands for. 'bad' stands for anything. -/
def V.rel (g : Sig) : V → Value → Prop
  | .bad, _ => True
  | .n a, w => w = .int .i64 a ∧ a < 9223372036854775808
  | .i k z, w => w = .int k z
  | .b x, w => w = .bool x
  | .p a off, w => ∃ r base tot, g a = some (r, base, tot) ∧ w = .pointer (some ⟨r, base + off, none⟩)
  | .np, w => w = .pointer none
  | .sl a off esz len cap, w => ∃ r base tot c o', g a = some (r, base, tot) ∧ w = .slice (some ⟨r, o', none⟩) len c ∧ 0 < esz ∧ len ≤ c ∧ c ≤ maxLen ∧ (0 < c → o' = base + off) ∧
      base + off + c * esz ≤ tot ∧ (match cap with | some c' => c = c' | none => base + off + c * esz = tot)
  | .ns, w => w = .slice none 0 0
  | .ag l, w => ∃ vs, w = .agg ⟨vs⟩ ∧ l.rel g vs
  | .tu l, w => ∃ vs, w = .tuple ⟨vs⟩ ∧ l.rel g vs
  | .fn f a c, w => ∃ va vc, w = .func (.func f) ⟨va⟩ ⟨vc⟩ ∧ a.rel g va ∧ c.rel g vc
  | .nf, w => w = .nilFunc
  | .s x, w => w = .string ⟨⟨x.map UInt8.ofNat⟩⟩
  | .ifc t v, w => ∃ u, w = .iface t u ∧ v.rel g u
  | .nif, w => w = .nilIface
  | .mp a, w => ∃ r, g a = some (r, 1, 0) ∧ w = .map (some r)
  | .nm, w => w = .map none
  | .yl a, w => ∃ r, g a = some (r, 1, 0) ∧ w = .func (.yield r) #[] #[]
  | .lp _ _ _ _, _ => False
def L.rel (g : Sig) : L → List Value → Prop
  | .nil, vs => vs = []
  | .cons v l, vs => ∃ u us, vs = u :: us ∧ v.rel g u ∧ l.rel g us
end

/-- What one map of blocks knows, the other one knows. -/
def Sig.le (g h : Sig) : Prop := ∀ a x, g a = some x → h a = some x

theorem Sig.le.refl (g : Sig) : g.le g := fun _ _ h => h
theorem Sig.le.trans {f g h : Sig} (a : f.le g) (b : g.le h) : f.le h := fun p x e => b p x (a p x e)

mutual
theorem V.rel_mono {g h : Sig} (hl : g.le h) : ∀ (v : V) {w : Value}, v.rel g w → v.rel h w
  | .bad, _, _ => by simp [V.rel]
  | .n _, _, e => by simpa [V.rel] using e
  | .i .., _, e => by simpa [V.rel] using e
  | .b _, _, e => by simpa [V.rel] using e
  | .p a off, _, e => by
    rw [V.rel] at e ⊢
    obtain ⟨r, base, tot, h1, h2⟩ := e
    exact ⟨r, base, tot, hl _ _ h1, h2⟩
  | .np, _, e => by simpa [V.rel] using e
  | .sl a off esz len cap, _, e => by
    rw [V.rel] at e ⊢
    obtain ⟨r, base, tot, c, o', h1, h2⟩ := e
    exact ⟨r, base, tot, c, o', hl _ _ h1, h2⟩
  | .ns, _, e => by simpa [V.rel] using e
  | .ag l, _, e => by
    rw [V.rel] at e ⊢
    obtain ⟨vs, h1, h2⟩ := e
    exact ⟨vs, h1, L.rel_mono hl l h2⟩
  | .tu l, _, e => by
    rw [V.rel] at e ⊢
    obtain ⟨vs, h1, h2⟩ := e
    exact ⟨vs, h1, L.rel_mono hl l h2⟩
  | .fn f a c, _, e => by
    rw [V.rel] at e ⊢
    obtain ⟨va, vc, h1, h2, h3⟩ := e
    exact ⟨va, vc, h1, L.rel_mono hl a h2, L.rel_mono hl c h3⟩
  | .nf, _, e => by simpa [V.rel] using e
  | .s _, _, e => by simpa [V.rel] using e
  | .ifc t v, _, e => by
    rw [V.rel] at e ⊢
    obtain ⟨u, h1, h2⟩ := e
    exact ⟨u, h1, V.rel_mono hl v h2⟩
  | .nif, _, e => by simpa [V.rel] using e
  | .mp a, _, e => by
    rw [V.rel] at e ⊢
    obtain ⟨r, h1, h2⟩ := e
    exact ⟨r, hl _ _ h1, h2⟩
  | .nm, _, e => by simpa [V.rel] using e
  | .yl a, _, e => by
    rw [V.rel] at e ⊢
    obtain ⟨r, h1, h2⟩ := e
    exact ⟨r, hl _ _ h1, h2⟩
  | .lp _ _ _ _, _, e => by simp [V.rel] at e
theorem L.rel_mono {g h : Sig} (hl : g.le h) : ∀ (l : L) {vs : List Value}, l.rel g vs → l.rel h vs
  | .nil, _, e => by simpa [L.rel] using e
  | .cons v l, _, e => by
    rw [L.rel] at e ⊢
    obtain ⟨u, us, h1, h2, h3⟩ := e
    exact ⟨u, us, h1, V.rel_mono hl v h2, L.rel_mono hl l h3⟩
end

theorem L.rel_length {g : Sig} : ∀ {l : L} {vs : List Value}, l.rel g vs → vs.length = l.length
  | .nil, _, e => by rw [L.rel] at e; subst e; rfl
  | .cons v l, _, e => by
    rw [L.rel] at e
    obtain ⟨u, us, rfl, _, h3⟩ := e
    simp [L.length, L.rel_length h3]

theorem L.rel_get {g : Sig} : ∀ {l : L} {vs : List Value} (k : Nat), l.rel g vs → (l.get k).rel g (vs.getD k undef)
  | .nil, _, k, _ => by simp [L.get, V.rel]
  | .cons v l, _, 0, e => by
    rw [L.rel] at e
    obtain ⟨u, us, rfl, h2, _⟩ := e
    simpa [L.get] using h2
  | .cons v l, _, k + 1, e => by
    rw [L.rel] at e
    obtain ⟨u, us, rfl, _, h3⟩ := e
    simpa [L.get] using L.rel_get k h3

theorem L.rel_app {g : Sig} : ∀ {l m : L} {vs us : List Value}, l.rel g vs → m.rel g us → (l.app m).rel g (vs ++ us)
  | .nil, _, _, _, e, f => by rw [L.rel] at e; subst e; simpa [L.app] using f
  | .cons v l, _, _, _, e, f => by
    rw [L.rel] at e
    obtain ⟨u, us, rfl, h2, h3⟩ := e
    exact ⟨u, _, rfl, h2, L.rel_app h3 f⟩

/-! Trees of values, by places. -/
inductive Tr where
  | lf | nd (l : Tr) (v : V) (r : Tr)
instance : Inhabited Tr := ⟨.lf⟩

noncomputable def Tr.get (p : Pos) : Tr → V :=
  Pos.rec (motive := fun _ => Tr → V) (fun t => Tr.rec (motive := fun _ => V) .bad (fun _ v _ _ _ => v) t)
   (fun _ ih t => Tr.rec (motive := fun _ => V) .bad (fun l _ _ _ _ => ih l) t)
   (fun _ ih t => Tr.rec (motive := fun _ => V) .bad (fun _ _ r _ _ => ih r) t) p
noncomputable def Tr.set (x : V) (p : Pos) : Tr → Tr :=
  Pos.rec (motive := fun _ => Tr → Tr) (fun t => Tr.rec (motive := fun _ => Tr) (.nd .lf x .lf) (fun l _ r _ _ => .nd l x r) t)
   (fun _ ih t => Tr.rec (motive := fun _ => Tr) (.nd (ih .lf) .bad .lf) (fun l v r _ _ => .nd (ih l) v r) t)
   (fun _ ih t => Tr.rec (motive := fun _ => Tr) (.nd .lf .bad (ih .lf)) (fun l v r _ _ => .nd l v (ih r)) t) p

theorem Tr.get_lf : ∀ p, Tr.get p .lf = .bad
  | .h => rfl | .o _ => rfl | .i _ => rfl
theorem Tr.get_set (x : V) : ∀ (p q : Pos) (t : Tr), (t.set x p).get q = if q = p then x else t.get q
  | .h, .h, .lf => by simp; rfl
  | .h, .h, .nd l v r => by simp; rfl
  | .h, .o q, .lf => by rw [if_neg (by simp)]; exact (Tr.get_lf q)
  | .h, .o q, .nd l v r => by rw [if_neg (by simp)]; rfl
  | .h, .i q, .lf => by rw [if_neg (by simp)]; exact (Tr.get_lf q)
  | .h, .i q, .nd l v r => by rw [if_neg (by simp)]; rfl
  | .o p, .h, .lf => by rw [if_neg (by simp)]; rfl
  | .o p, .h, .nd l v r => by rw [if_neg (by simp)]; rfl
  | .o p, .i q, .lf => by rw [if_neg (by simp)]; exact (Tr.get_lf q)
  | .o p, .i q, .nd l v r => by rw [if_neg (by simp)]; rfl
  | .i p, .h, .lf => by rw [if_neg (by simp)]; rfl
  | .i p, .h, .nd l v r => by rw [if_neg (by simp)]; rfl
  | .i p, .o q, .lf => by rw [if_neg (by simp)]; exact (Tr.get_lf q)
  | .i p, .o q, .nd l v r => by rw [if_neg (by simp)]; rfl
  | .o p, .o q, .lf => by have := Tr.get_set x p q .lf; rw [Tr.get_lf] at this; simp only [Pos.o.injEq]; exact this
  | .o p, .o q, .nd l v r => by have := Tr.get_set x p q l; simp only [Pos.o.injEq]; exact this
  | .i p, .i q, .lf => by have := Tr.get_set x p q .lf; rw [Tr.get_lf] at this; simp only [Pos.i.injEq]; exact this
  | .i p, .i q, .nd l v r => by have := Tr.get_set x p q r; simp only [Pos.i.injEq]; exact this

/-! A place by its index: the tree is gone through by the number's digits. -/
noncomputable def Tr.at (t : Tr) : Nat → V :=
  Tr.rec (motive := fun _ => Nat → V) (fun _ => .bad)
    (fun _ v _ ihl ihr m => Bool.rec (Bool.rec (ihr (Nat.div m 2)) (ihl (Nat.div m 2)) (Nat.beq (Nat.mod m 2) 0)) v (Nat.ble m 1)) t
theorem Tr.at_eq : ∀ (t : Tr) (f m : Nat), 1 ≤ m → m < 2 ^ (f + 1) → t.at m = t.get (posF f m)
  | .lf, f, m, _, _ => by rw [Tr.get_lf]; rfl
  | .nd l v r, f, m, h1, h2 => by
    show (Bool.rec (Bool.rec (r.at (m / 2)) (l.at (m / 2)) (Nat.beq (m % 2) 0)) v (Nat.ble m 1) : V) = _
    by_cases hm : m ≤ 1
    · have : Nat.ble m 1 = true := by rw [Nat.ble_eq]; exact hm
      rw [this]
      cases f <;> simp [posF, hm] <;> rfl
    · have : Nat.ble m 1 = false := by rw [← Bool.not_eq_true, Nat.ble_eq]; exact hm
      rw [this]
      cases f with
      | zero => simp at h2; omega
      | succ f =>
        have hlt : m / 2 < 2 ^ (f + 1) := by rw [Nat.pow_succ] at h2; omega
        have il := Tr.at_eq l f (m / 2) (by omega) hlt
        have ir := Tr.at_eq r f (m / 2) (by omega) hlt
        by_cases h0 : m % 2 = 0
        · have e : Nat.beq (m % 2) 0 = true := by rw [h0]; rfl
          rw [e]; simp only [posF, if_neg hm, if_pos h0]; exact il
        · have e : Nat.beq (m % 2) 0 = false := by rw [show m % 2 = 1 by omega]; rfl
          rw [e]; simp only [posF, if_neg hm, if_neg h0]; exact ir

/-! Blocks: of which type, how many cells, what a cell holds that was not written, and what was written. -/
structure Blk where
  el : TypeId
  size : Nat
  pr : Nat
  z : L
  m : Tr
instance : Inhabited Blk := ⟨⟨0, 0, 0, .nil, .lf⟩⟩

noncomputable def orZ (v z : V) : V := V.rec (motive_1 := fun _ => V) (motive_2 := fun _ => Unit) z (fun a => .n a) (fun k z => .i k z) (fun x => .b x) (fun a o => .p a o) .np
  (fun a o e l c => .sl a o e l c) .ns (fun l _ => .ag l) (fun l _ => .tu l) (fun f a c _ _ => .fn f a c) .nf (fun x => .s x) (fun t v _ => .ifc t v) .nif (fun a => .mp a) .nm (fun a => .yl a) (fun N ps x y => .lp N ps x y) () (fun _ _ _ _ => ()) v
theorem orZ_rel {g : Sig} {v z : V} {w : Value} (h : (orZ v z).rel g w) : (v = .bad ∧ z.rel g w) ∨ (v ≠ .bad ∧ v.rel g w) := by
  cases v <;> first | exact .inl ⟨rfl, h⟩ | exact .inr ⟨by simp, h⟩

noncomputable def nthL : Nat → L → V := fun i => Nat.rec (motive := fun _ => L → V)
  (fun l => L.rec (motive_1 := fun _ => Unit) (motive_2 := fun _ => V) () (fun _ => ()) (fun _ _ => ()) (fun _ => ()) (fun _ _ => ()) () (fun _ _ _ _ _ => ()) () (fun _ _ => ()) (fun _ _ => ()) (fun _ _ _ _ _ => ()) () (fun _ => ()) (fun _ _ _ => ()) () (fun _ => ()) () (fun _ => ()) (fun _ _ _ _ => ()) .bad (fun v _ _ _ => v) l)
  (fun _ ih l => L.rec (motive_1 := fun _ => Unit) (motive_2 := fun _ => V) () (fun _ => ()) (fun _ _ => ()) (fun _ => ()) (fun _ _ => ()) () (fun _ _ _ _ _ => ()) () (fun _ _ => ()) (fun _ _ => ()) (fun _ _ _ _ _ => ()) () (fun _ => ()) (fun _ _ _ => ()) () (fun _ => ()) () (fun _ => ()) (fun _ _ _ _ => ()) .bad (fun _ l _ _ => ih l) l) i
theorem nthL_eq : ∀ (i : Nat) (l : L), nthL i l = l.get i
  | 0, .nil => rfl | 0, .cons v l => rfl | i + 1, .nil => rfl
  | i + 1, .cons v l => by show nthL i l = _; rw [nthL_eq i l]; rfl

noncomputable def Blk.cell (b : Blk) (k : Nat) : V := orZ (b.m.at (Nat.succ k)) (nthL (Nat.mod k b.pr) b.z)

/-! The memory: a tree of blocks. -/
inductive Hp where
  | lf | nd (l : Hp) (v : Option Blk) (r : Hp)
instance : Inhabited Hp := ⟨.lf⟩
noncomputable def Hp.vl : Hp → Option Blk := Hp.rec (motive := fun _ => Option Blk) none (fun _ v _ _ _ => v)
noncomputable def Hp.lt : Hp → Hp := Hp.rec (motive := fun _ => Hp) .lf (fun l _ _ _ _ => l)
noncomputable def Hp.rt : Hp → Hp := Hp.rec (motive := fun _ => Hp) .lf (fun _ _ r _ _ => r)
/-- What is done at a place, worked out once for each place. -/
structure HG where f : Hp → Option Blk
structure HP where f : Hp → Option Blk → Hp
noncomputable def Hp.gC : Pos → HG := Pos.rec (motive := fun _ => HG) ⟨fun t => t.vl⟩ (fun _ ih => ⟨fun t => ih.f t.lt⟩) (fun _ ih => ⟨fun t => ih.f t.rt⟩)
noncomputable def Hp.get (p : Pos) (t : Hp) : Option Blk := (Hp.gC p).f t
noncomputable def Hp.pt0 : Hp → Option Blk → Hp := Hp.rec (motive := fun _ => Option Blk → Hp) (fun x => .nd .lf x .lf) (fun l _ r _ _ x => .nd l x r)
noncomputable def Hp.ptl : Hp → Hp → Hp := Hp.rec (motive := fun _ => Hp → Hp) (fun l' => .nd l' none .lf) (fun _ v r _ _ l' => .nd l' v r)
noncomputable def Hp.ptr : Hp → Hp → Hp := Hp.rec (motive := fun _ => Hp → Hp) (fun r' => .nd .lf none r') (fun l v _ _ _ r' => .nd l v r')
noncomputable def Hp.fo : Hp → (Hp → Hp) → Hp := Hp.rec (motive := fun _ => (Hp → Hp) → Hp) (fun k => k .lf) (fun l v r _ _ k => k (.nd l v r))
noncomputable def Hp.pC : Pos → HP := Pos.rec (motive := fun _ => HP) ⟨fun t x => t.pt0 x⟩ (fun _ ih => ⟨fun t x => (ih.f t.lt x).fo t.ptl⟩) (fun _ ih => ⟨fun t x => (ih.f t.rt x).fo t.ptr⟩)
noncomputable def Hp.put (x : Option Blk) (p : Pos) (t : Hp) : Hp := (Hp.pC p).f t x
theorem Hp.fo_eq (t : Hp) (k : Hp → Hp) : t.fo k = k t := by cases t <;> rfl
theorem Hp.put_o (x : Option Blk) (p : Pos) (t : Hp) : t.put x (.o p) = t.ptl (t.lt.put x p) := Hp.fo_eq _ _
theorem Hp.put_i (x : Option Blk) (p : Pos) (t : Hp) : t.put x (.i p) = t.ptr (t.rt.put x p) := Hp.fo_eq _ _
theorem Hp.get_lf : ∀ p, Hp.get p .lf = none
  | .h => rfl | .o p => Hp.get_lf p | .i p => Hp.get_lf p
theorem Hp.get_put (x : Option Blk) : ∀ (p q : Pos) (t : Hp), (t.put x p).get q = if q = p then x else t.get q
  | .h, .h, .lf => by simp; rfl
  | .h, .h, .nd l v r => by simp; rfl
  | .h, .o q, .lf => by rw [if_neg (by simp)]; rfl
  | .h, .o q, .nd l v r => by rw [if_neg (by simp)]; rfl
  | .h, .i q, .lf => by rw [if_neg (by simp)]; rfl
  | .h, .i q, .nd l v r => by rw [if_neg (by simp)]; rfl
  | .o p, .h, .lf => by rw [if_neg (by simp), Hp.put_o]; rfl
  | .o p, .h, .nd l v r => by rw [if_neg (by simp), Hp.put_o]; rfl
  | .o p, .i q, .lf => by rw [if_neg (by simp), Hp.put_o]; rfl
  | .o p, .i q, .nd l v r => by rw [if_neg (by simp), Hp.put_o]; rfl
  | .i p, .h, .lf => by rw [if_neg (by simp), Hp.put_i]; rfl
  | .i p, .h, .nd l v r => by rw [if_neg (by simp), Hp.put_i]; rfl
  | .i p, .o q, .lf => by rw [if_neg (by simp), Hp.put_i]; rfl
  | .i p, .o q, .nd l v r => by rw [if_neg (by simp), Hp.put_i]; rfl
  | .o p, .o q, .lf => by rw [Hp.put_o]; have := Hp.get_put x p q .lf; simp only [Pos.o.injEq]; exact this
  | .o p, .o q, .nd l v r => by rw [Hp.put_o]; have := Hp.get_put x p q l; simp only [Pos.o.injEq]; exact this
  | .i p, .i q, .lf => by rw [Hp.put_i]; have := Hp.get_put x p q .lf; simp only [Pos.i.injEq]; exact this
  | .i p, .i q, .nd l v r => by rw [Hp.put_i]; have := Hp.get_put x p q r; simp only [Pos.i.injEq]; exact this

end Go.Proofs.YtnpimbpbhbfchaaDoor.Ev
