/- Regions whose order is open: what each operation does is worked out once; any order comes to the same. -/
import Derived.Test.YtjhgingmbklhaaaEvP
namespace Go.Proofs.Ytjhgingmbklhaaa.Ev
set_option linter.unusedVariables false
open Go

/-! What an operation turned in the memory. -/
inductive Dl where
  | nil | cons (p : Pos) (b : Option Blk) (l : Dl)
def Dl.has : Dl → Pos → Prop
  | .nil, _ => False
  | .cons p _ l, q => q = p ∨ l.has q
def Dl.look : Dl → Pos → Option Blk
  | .nil, _ => none
  | .cons p b l, q => if q = p then b else l.look q
noncomputable def Dl.app : Dl → Hp → Hp
  | .nil, h => h
  | .cons p b l, h => (l.app h).put b p
noncomputable def Dl.rem : Dl → Hp → Hp
  | .nil, h => h
  | .cons p _ l, h => (l.rem h).put none p
instance Dl.hasDec : ∀ (d : Dl) (p : Pos), Decidable (d.has p)
  | .nil, _ => isFalse fun h => h
  | .cons q _ l, p => match decEq p q, Dl.hasDec l p with
    | isTrue h, _ => isTrue (.inl h)
    | isFalse _, isTrue h => isTrue (.inr h)
    | isFalse h1, isFalse h2 => isFalse fun h => h.elim h1 h2
theorem app_get : ∀ (d : Dl) (h : Hp) (q : Pos), (d.app h).get q = if d.has q then d.look q else h.get q
  | .nil, h, q => by rw [if_neg (by simp [Dl.has])]; rfl
  | .cons p b l, h, q => by
    show ((l.app h).put b p).get q = _
    rw [Hp.get_put, app_get l h q]
    by_cases e : q = p
    · rw [if_pos e, if_pos (.inl e)]; show _ = if q = p then b else _; rw [if_pos e]
    · rw [if_neg e]
      by_cases e2 : l.has q
      · rw [if_pos e2, if_pos (.inr e2)]; show _ = if q = p then b else _; rw [if_neg e]
      · rw [if_neg e2, if_neg (fun h => h.elim e e2)]
theorem rem_get : ∀ (d : Dl) (h : Hp) (q : Pos), (d.rem h).get q = if d.has q then none else h.get q
  | .nil, h, q => by rw [if_neg (by simp [Dl.has])]; rfl
  | .cons p b l, h, q => by
    show ((l.rem h).put none p).get q = _
    rw [Hp.get_put, rem_get l h q]
    by_cases e : q = p
    · rw [if_pos e, if_pos (.inl e)]
    · rw [if_neg e]
      by_cases e2 : l.has q
      · rw [if_pos e2, if_pos (.inr e2)]
      · rw [if_neg e2, if_neg (fun h => h.elim e e2)]

/-- The places from one on that are new. -/
noncomputable def coll (h : Hp) : Nat → Nat → Dl
  | _, 0 => .nil
  | n, k + 1 => .cons (posF 63 n) (h.get (posF 63 n)) (coll h (n + 1) k)
theorem coll_has (h : Hp) : ∀ (k n : Nat) (p : Pos), 1 ≤ n → n + k < 9223372036854775808 → (coll h n k).has p → n ≤ p.num ∧ p.num < n + k ∧ (coll h n k).look p = h.get p
  | 0, _, _, _, _, e => e.elim
  | k + 1, n, p, h1, h2, e => by
    have hn := num_posF 63 n h1 (by omega)
    rcases e with rfl | e
    · exact ⟨by omega, by omega, by simp [coll, Dl.look]⟩
    · obtain ⟨a, b, c⟩ := coll_has h k (n + 1) p (by omega) (by omega) e
      refine ⟨by omega, by omega, ?_⟩
      show (if p = posF 63 n then _ else _) = _
      rw [if_neg (fun e => by rw [e] at a; omega), c]

/-! One operation of such a region: where its result goes, its guard, a store's address, whether its new blocks are kept, which of the operations before it (the last one first) come before it in any order, the addresses of later stores that may come before it, the slots that it reads. -/
structure DO where
  dst : Option Pos
  gd : Option (Pos × Bool)
  pu : Bool
  st : List Pos
  fr : Bool
  an : List Bool
  us : List Pos
  ts : List Pos
  o : O
  ef : Bool := false
  rd : List Pos := []
  nd : List Pos := []
  gl : List Pos := []
abbrev DR := List DO

noncomputable def baseA : List Dl → List Bool → Hp → Hp
  | d :: acc, a :: an, h => Bool.rec (baseA acc an h) (d.app (baseA acc an h)) a
  | _, _, h => h
noncomputable def baseR : List Dl → List Bool → Hp → Hp
  | d :: acc, a :: an, h => Bool.rec (d.rem (baseR acc an h)) (baseR acc an h) a
  | d :: acc, [], h => d.rem (baseR acc [] h)
  | [], _, h => h
/-- The block of a pointer, or of a slice. -/
def blkOf : V → Option (Option Pos)
  | .p a _ => some (some a)
  | .sl a _ _ _ _ => some (some a)
  | .mp a => some (some a)
  | .yl a => some (some a)
  | .nm => some none
  | .ns => some none
  | .np => some none
  | _ => none
noncomputable def baseU (e : Tr) : List Pos → Hp → Option Hp
  | [], h => some h
  | x :: us, h => match blkOf (e.get x) with
    | some (some a) => (baseU e us h).map (Hp.put none a)
    | some none => baseU e us h
    | none => none
/-- The blocks that some slots tell of. -/
noncomputable def takeB (er : Tr) (b : Hp) : List Pos → Option Hp
  | [] => some .lf
  | x :: st => match blkOf (er.get x) with
    | some (some a) => match b.get a with
      | some bl => (takeB er b st).map (Hp.put (some bl) a)
      | none => none
    | some none => takeB er b st
    | none => none
noncomputable def keysB (er : Tr) (h : Hp) (z : Dl) : List Pos → Dl
  | [] => z
  | x :: st => match blkOf (er.get x) with
    | some (some a) => .cons a (h.get a) (keysB er h z st)
    | _ => keysB er h z st
noncomputable def restr (e : Tr) : List Pos → Tr
  | [] => .lf
  | p :: ts => (restr e ts).set (e.get p) p

inductive SR where
  | no | ok (v : V) (d : Dl) (n : Nat)
/-! The blocks that values tell of, and those that these tell of. -/
noncomputable def posV (v : V) : List Pos → List Pos := V.rec (motive_1 := fun _ => List Pos → List Pos) (motive_2 := fun _ => List Pos → List Pos) (fun r => r) (fun _ r => r) (fun _ _ r => r) (fun _ r => r) (fun a _ r => a :: r) (fun r => r) (fun a _ _ _ _ r => a :: r)
    (fun r => r) (fun _ ih => ih) (fun _ ih => ih) (fun _ _ _ ia ic r => ia (ic r)) (fun r => r) (fun _ r => r) (fun _ _ ih => ih) (fun r => r) (fun a r => a :: r) (fun r => r) (fun a r => a :: r) (fun _ _ _ _ r => r) (fun r => r) (fun _ _ iv il r => iv (il r)) v
noncomputable def posT (t : Tb) : List Pos → List Pos := Tb.rec (motive := fun _ => List Pos → List Pos) (fun r => r) (fun _ v _ il ir r => il (posV v (ir r))) t
noncomputable def posB (b : Blk) (r : List Pos) : List Pos := posT b.m (posV (.ag b.z) r)
noncomputable def posS (er : Tr) (ts : List Pos) : List Pos := List.rec (motive := fun _ => List Pos) [] (fun t _ ih => posV (er.get t) ih) ts
noncomputable def rch (b : Hp) (f : Nat) : List Pos → Hp → List Pos → Hp × List Pos :=
  Nat.rec (motive := fun _ => List Pos → Hp → List Pos → Hp × List Pos) (fun _ t r => (t, r))
    (fun _ ih td t r => List.rec (motive := fun _ => Hp × List Pos) (t, r) (fun a td _ => Option.rec (Option.rec (ih td t r) (fun bl => ih (posB bl td) (t.put (some bl) a) (a :: r)) (b.get a)) (fun _ => ih td t r) (t.get a)) td) f
/-- The blocks that are there in any case. -/
noncomputable def glB (b : Hp) (lim : Nat) (gl : List Pos) : Hp := List.rec (motive := fun _ => Hp) .lf (fun a _ ih => Bool.rec ih (Option.rec ih (fun x => ih.put (some x) a) (b.get a)) (Nat.blt a.num lim)) gl
theorem glB_get (b : Hp) (lim : Nat) : ∀ (gl : List Pos) (p : Pos) (y : Blk), (glB b lim gl).get p = some y → b.get p = some y ∧ p.num < lim
  | [], p, y, h => (nomatch (Hp.get_lf p).symm.trans h)
  | a :: gl, p, y, h => by
    have h : (Bool.rec (glB b lim gl) (Option.rec (glB b lim gl) (fun x => (glB b lim gl).put (some x) a) (b.get a)) (Nat.blt a.num lim) : Hp).get p = some y := h
    cases hl : Nat.blt a.num lim with
    | false => rw [hl] at h; exact glB_get b lim gl p y h
    | true =>
      rw [hl] at h
      rw [Nat.blt_eq] at hl
      cases hb : b.get a with
      | none => rw [hb] at h; exact glB_get b lim gl p y h
      | some x =>
        rw [hb] at h
        have h : ((glB b lim gl).put (some x) a).get p = some y := h
        rw [Hp.get_put] at h
        split at h
        · rename_i e; cases h; rw [e]; exact ⟨hb, hl⟩
        · exact glB_get b lim gl p y h
def rchOK (b : Hp) (lim : Nat) (x : Hp × List Pos) : Prop := (∀ p y, x.1.get p = some y → b.get p = some y ∧ (p ∈ x.2 ∨ p.num < lim)) ∧ ∀ p ∈ x.2, ∃ y, x.1.get p = some y
theorem rch_ok (b : Hp) (lim : Nat) : ∀ (f : Nat) (td : List Pos) (t : Hp) (r : List Pos), rchOK b lim (t, r) → rchOK b lim (rch b f td t r)
  | 0, td, t, r, h => h
  | f + 1, [], t, r, h => h
  | f + 1, a :: td, t, r, h => by
    show rchOK b lim (Option.rec (Option.rec (rch b f td t r) (fun bl => rch b f (posB bl td) (t.put (some bl) a) (a :: r)) (b.get a)) (fun _ => rch b f td t r) (t.get a))
    cases hta : t.get a with
    | some _ => exact rch_ok b lim f td t r h
    | none =>
      cases hba : b.get a with
      | none => exact rch_ok b lim f td t r h
      | some bl =>
        refine rch_ok b lim f _ _ _ ⟨fun p y hp => ?_, fun p hp => ?_⟩
        · have hp : (t.put (some bl) a).get p = some y := hp
          rw [Hp.get_put] at hp
          split at hp
          · rename_i e; cases hp; exact ⟨by rw [e]; exact hba, .inl (by rw [e]; exact List.mem_cons_self ..)⟩
          · exact ⟨(h.1 p y hp).1, (h.1 p y hp).2.imp (List.mem_cons_of_mem _) id⟩
        · show ∃ y, (t.put (some bl) a).get p = some y
          rw [Hp.get_put]
          by_cases e : p = a
          · rw [if_pos e]; exact ⟨bl, rfl⟩
          · rw [if_neg e]
            exact h.2 p ((List.mem_cons.1 hp).resolve_left e)
/-! Whether blocks are the same. -/
mutual
noncomputable def eqV : V → V → Bool
  | .bad, .bad => true
  | .n a, .n b => Nat.beq a b
  | .i k z, .i k' z' => decide (k = k') && decide (z = z')
  | .b x, .b y => x == y
  | .p a o, .p a' o' => Nat.beq a.num a'.num && Nat.beq o o'
  | .np, .np => true
  | .sl a o e l c, .sl a' o' e' l' c' => Nat.beq a.num a'.num && (Nat.beq o o' && (Nat.beq e e' && (Nat.beq l l' && decide (c = c'))))
  | .ns, .ns => true
  | .ag l, .ag m => eqL l m
  | .tu l, .tu m => eqL l m
  | .nf, .nf => true
  | .s x, .s y => decide (x = y)
  | .nif, .nif => true
  | .mp a, .mp b => Nat.beq a.num b.num
  | .nm, .nm => true
  | _, _ => false
noncomputable def eqL : L → L → Bool
  | .nil, .nil => true
  | .cons v l, .cons u m => eqV v u && eqL l m
  | _, _ => false
end
mutual
theorem eqV_eq : ∀ (v u : V), eqV v u = true → v = u := fun v u h => by
  cases v <;> cases u <;> simp only [eqV, Bool.and_eq_true, Nat.beq_eq, decide_eq_true_eq, beq_iff_eq, Bool.false_eq_true, reduceCtorEq] at h
  case bad.bad => rfl
  case n.n => rw [h]
  case i.i => rw [h.1, h.2]
  case b.b => rw [h]
  case p.p => rw [Pos.num_inj h.1, h.2]
  case np.np => rfl
  case sl.sl => rw [Pos.num_inj h.1, h.2.1, h.2.2.1, h.2.2.2.1, h.2.2.2.2]
  case ns.ns => rfl
  case ag.ag => rw [eqL_eq _ _ h]
  case tu.tu => rw [eqL_eq _ _ h]
  case nf.nf => rfl
  case s.s => rw [h]
  case nif.nif => rfl
  case mp.mp => rw [Pos.num_inj h]
  case nm.nm => rfl
theorem eqL_eq : ∀ (l m : L), eqL l m = true → l = m := fun l m h => by
  cases l <;> cases m <;> simp only [eqL, Bool.and_eq_true, Bool.false_eq_true, reduceCtorEq] at h
  case nil.nil => rfl
  case cons.cons => rw [eqV_eq _ _ h.1, eqL_eq _ _ h.2]
end
noncomputable def eqTr : Tb → Tb → Bool
  | .lf, .lf => true
  | .nd l v r, .nd l' v' r' => eqV v v' && (eqTr l l' && eqTr r r')
  | _, _ => false
theorem eqTr_eq : ∀ (t u : Tb), eqTr t u = true → t = u
  | .lf, .lf, _ => rfl
  | .lf, .nd .., h => by simp [eqTr] at h
  | .nd .., .lf, h => by simp [eqTr] at h
  | .nd l v r, .nd l' v' r', h => by
    simp only [eqTr, Bool.and_eq_true] at h
    rw [eqV_eq _ _ h.1, eqTr_eq _ _ h.2.1, eqTr_eq _ _ h.2.2]
noncomputable def eqBlk (b c : Blk) : Bool := decide (b.el = c.el) && (Nat.beq b.size c.size && (Nat.beq b.pr c.pr && (eqL b.z c.z && eqTr b.m c.m)))
theorem eqBlk_eq {b c : Blk} (h : eqBlk b c = true) : b = c := by
  obtain ⟨_, _, _, _, _⟩ := b
  obtain ⟨_, _, _, _, _⟩ := c
  simp only [eqBlk, Bool.and_eq_true, Nat.beq_eq, decide_eq_true_eq] at h
  rw [h.1, h.2.1, h.2.2.1, eqL_eq _ _ h.2.2.2.1, eqTr_eq _ _ h.2.2.2.2]
/-- What was turned among some places. -/
noncomputable def keysL (t h : Hp) (z : Dl) (r : List Pos) : Dl := List.rec (motive := fun _ => Dl) z (fun a _ ih => Option.rec (.cons a (h.get a) ih) (fun x => Option.rec (.cons a (h.get a) ih) (fun y => Bool.rec (.cons a (h.get a) ih) ih (eqBlk x y)) (h.get a)) (t.get a)) r
theorem keysL_has {t h : Hp} {z : Dl} {p : Pos} : ∀ (r : List Pos), ((keysL t h z r).has p → ((keysL t h z r).look p = h.get p ∧ p ∈ r) ∨ ((keysL t h z r).look p = z.look p ∧ z.has p)) ∧ (p ∈ r → (keysL t h z r).has p ∨ ∃ x, t.get p = some x ∧ h.get p = some x)
  | [] => ⟨fun hh => .inr ⟨rfl, hh⟩, by simp⟩
  | a :: r => by
    obtain ⟨i1, i2⟩ := keysL_has (t := t) (h := h) (z := z) (p := p) r
    have put : (keysL t h z (a :: r) = .cons a (h.get a) (keysL t h z r)) ∨ (keysL t h z (a :: r) = keysL t h z r ∧ ∃ x, t.get a = some x ∧ h.get a = some x) := by
      show (Option.rec _ _ (t.get a) = Dl.cons a (h.get a) (keysL t h z r)) ∨ (Option.rec _ _ (t.get a) = keysL t h z r ∧ _)
      cases hta : t.get a with
      | none => exact .inl rfl
      | some x =>
        cases hha : h.get a with
        | none => exact .inl rfl
        | some y =>
          cases he : eqBlk x y with
          | false => exact .inl (by dsimp only; rw [he]; rfl)
          | true => exact .inr ⟨by dsimp only; rw [he]; rfl, x, rfl, by rw [eqBlk_eq he]⟩
    rcases put with e | ⟨e, x, e1, e2⟩
    · rw [e]
      refine ⟨fun hh => ?_, fun hm => ?_⟩
      · show ((if p = a then _ else _) = _ ∧ _) ∨ ((if p = a then _ else _) = _ ∧ _)
        by_cases ep : p = a
        · rw [if_pos ep]; exact .inl ⟨by rw [ep], by rw [ep]; exact List.mem_cons_self ..⟩
        · rw [if_neg ep]
          exact (i1 (hh.resolve_left ep)).imp (fun ⟨x, y⟩ => ⟨x, List.mem_cons_of_mem _ y⟩) id
      · rcases List.mem_cons.1 hm with rfl | hm
        · exact .inl (.inl rfl)
        · exact (i2 hm).imp .inr id
    · rw [e]
      refine ⟨fun hh => (i1 hh).imp (fun ⟨x, y⟩ => ⟨x, List.mem_cons_of_mem _ y⟩) id, fun hm => ?_⟩
      rcases List.mem_cons.1 hm with rfl | hm
      · exact .inr ⟨x, e1, e2⟩
      · exact i2 hm
noncomputable def efD (d : DO) (F : FF) (lim : Nat) (er : Tr) (n : Nat) (x : Hp × List Pos) : SR := match d.o.ev F er lim x.1 n with
  | .ok v h' n' => .ok v (keysL x.1 h' (if d.fr then coll h' n (n' - n) else .nil) x.2) n'
  | .no => .no
noncomputable def ndB (e : Tr) (dl : Dl) (x : Pos) : Bool := match blkOf (e.get x) with
  | some (some q) => !decide (dl.has q)
  | some none => true
  | none => false
/-- Some blocks are not to be turned. -/
noncomputable def ndC (e : Tr) (nd : List Pos) (r : SR) : SR := match nd with
  | [] => r
  | a :: nd => match r with
    | .no => .no
    | .ok v dl n => if (a :: nd).all (ndB e dl) = true then .ok v dl n else .no
noncomputable def runD (d : DO) (F : FF) (lim : Nat) (b : Hp) (er : Tr) (n : Nat) : SR :=
  match d.ef with
  | true => efD d F lim er n (rch b 100000 (posS er d.ts) (glB b lim d.gl) [])
  | false => match d.st with
    | [] => match d.o.ev F er n b n with
      | .ok v h' n' => .ok v (if d.fr then coll h' n (n' - n) else .nil) n'
      | .no => .no
    | x :: st => match takeB er b (x :: st) with
      | some b' => match d.o.ev F er lim b' n with
        | .ok v h' n' => .ok v (keysB er h' (if d.fr then coll h' n (n' - n) else .nil) (x :: st)) n'
        | .no => .no
      | none => .no
noncomputable def rdX (e : Tr) (rd : List Pos) (b : Option Hp) : Option Hp := match rd with
  | [] => b
  | a :: rd => match b with
    | some b => takeB e b (a :: rd)
    | none => none
noncomputable def baseOf (d : DO) (acc : List Dl) (e : Tr) (S : Hp) : Option Hp := if d.pu then some .lf else rdX e d.rd (baseU e d.us (baseR acc d.an (baseA acc d.an S)))
noncomputable def stepD0 (d : DO) (F : FF) (lim : Nat) (acc : List Dl) (e : Tr) (S : Hp) (n : Nat) : SR :=
  match baseOf d acc e S with
  | none => .no
  | some b =>
    let er := restr e d.ts
    match d.gd with
    | none => runD d F lim b er n
    | some (p, w) => match er.get p with
      | .b x => if x = w then runD d F lim b er n else .ok (.tu .nil) .nil n
      | .tu .nil => .ok (.tu .nil) .nil n
      | _ => .no
noncomputable def stepD (d : DO) (F : FF) (lim : Nat) (acc : List Dl) (e : Tr) (S : Hp) (n : Nat) : SR := ndC e d.nd (stepD0 d F lim acc e S n)
theorem ndC_ok {e : Tr} {nd : List Pos} {r : SR} {v : V} {dl : Dl} {n : Nat} (h : ndC e nd r = .ok v dl n) : r = .ok v dl n ∧ ∀ a ∈ nd, ∀ p, blkOf (e.get a) = some (some p) → ¬ dl.has p := by
  unfold ndC at h
  split at h
  · exact ⟨h, by simp⟩
  · rename_i a nd
    cases r with
    | no => cases h
    | ok v' dl' n1 =>
      dsimp only at h
      split at h
      · rename_i hc
        cases h
        refine ⟨rfl, fun x hx p hp => ?_⟩
        have := List.all_eq_true.1 hc x hx
        unfold ndB at this
        rw [hp] at this
        simpa using this
      · cases h
noncomputable def appAll : List Dl → Hp → Hp
  | [], h => h
  | d :: acc, h => d.app (appAll acc h)
noncomputable def evDs (F : FF) (lim : Nat) (S : Hp) : DR → List Dl → Tr → Nat → Rg
  | [], acc, e, n => .ok e (appAll acc S) n
  | d :: l, acc, e, n => match stepD d F lim acc e S n with
    | .ok v dl n' => evDs F lim S l (dl :: acc) (setD d.dst v e) n'
    | .no => .no
/-- A last operation that all others come before: it is done behind them, over all that is there. -/
def tlOf : DR → Option (DR × DO)
  | [] => none
  | [d] => if (d.pu && d.ef) = true then some ([], d) else none
  | d :: d' :: l => match tlOf (d' :: l) with
    | some x => some (d :: x.1, x.2)
    | none => none
theorem tlOf_eq : ∀ {l : DR} {x : DR × DO}, tlOf l = some x → l = x.1 ++ [x.2]
  | [], _, h => by cases h
  | [d], x, h => by
    rw [tlOf] at h
    split at h
    · cases h; rfl
    · cases h
  | d :: d' :: l, x, h => by
    rw [tlOf] at h
    split at h
    · rename_i y hy
      cases h
      rw [tlOf_eq hy]; rfl
    · cases h
theorem tlOf_last : ∀ (l : DR) {d : DO}, (d.pu && d.ef) = true → tlOf (l ++ [d]) = some (l, d)
  | [], d, h => by show (if (d.pu && d.ef) = true then some ([], d) else none) = _; rw [if_pos h]
  | [x], d, h => by
    show (match tlOf [d] with | some y => some (x :: y.1, y.2) | none => none) = _
    rw [show tlOf [d] = some ([], d) from tlOf_last [] h]
  | x :: y :: l, d, h => by
    show (match tlOf ((y :: l) ++ [d]) with | some z => some (x :: z.1, z.2) | none => none) = _
    rw [tlOf_last (y :: l) h]
noncomputable def tlR (d : DO) (F : FF) (lim : Nat) (r : Rg) : Rg := match r with
  | .no => .no
  | .ok e h n => match d.o.ev F e lim h n with
    | .ok v h' n' => .ok (setD d.dst v e) h' n'
    | .no => .no
noncomputable def evDr (l : DR) (F : FF) (lim : Nat) (e : Tr) (h : Hp) (n : Nat) : Rg := if lim ≤ n ∧ 1 ≤ n then (match tlOf l with
  | none => evDs F lim h l [] e n
  | some x => tlR x.2 F lim (evDs F lim h x.1 [] e n)) else .no

theorem stepD_ge {F : FF} (hF : F.mono) {d : DO} {lim : Nat} {acc : List Dl} {e : Tr} {S : Hp} {n : Nat} {v : V} {dl : Dl} {n' : Nat} (h : stepD d F lim acc e S n = .ok v dl n') : n ≤ n' := by
  have run : ∀ b er, runD d F lim b er n = .ok v dl n' → n ≤ n' := by
    intro b er h
    unfold runD at h
    split at h
    · unfold efD at h
      have hg := O.ev_ge (n := n) hF d.o er lim (rch b 100000 (posS er d.ts) (glB b lim d.gl) []).1
      split at h
      · rename_i h1; rw [h1] at hg; cases h; exact hg
      · cases h
    split at h
    · have hg := O.ev_ge (n := n) hF d.o er n b
      split at h
      · rename_i h1; rw [h1] at hg; cases h; exact hg
      · cases h
    · split at h
      · rename_i b' _
        have hg := O.ev_ge (n := n) hF d.o er lim b'
        split at h
        · rename_i h1; rw [h1] at hg; cases h; exact hg
        · cases h
      · cases h
  replace h := (ndC_ok h).1
  unfold stepD0 at h
  split at h
  · cases h
  · dsimp only at h
    split at h
    · exact run _ _ h
    · split at h
      · split at h
        · exact run _ _ h
        · cases h; exact Nat.le_refl _
      · cases h; exact Nat.le_refl _
      · cases h
theorem evDs_ge {F : FF} (hF : F.mono) (lim : Nat) (S : Hp) : ∀ (l : DR) (acc : List Dl) (e : Tr) (n : Nat), (evDs F lim S l acc e n).ge n
  | [], acc, e, n => Nat.le_refl n
  | d :: l, acc, e, n => by
    show (match stepD d F lim acc e S n with | .ok v dl n' => evDs F lim S l (dl :: acc) (setD d.dst v e) n' | .no => Rg.no).ge n
    cases hs : stepD d F lim acc e S n with
    | no => trivial
    | ok v dl n' =>
      have h1 := stepD_ge hF hs
      have h2 := evDs_ge hF lim S l (dl :: acc) (setD d.dst v e) n'
      show (evDs F lim S l (dl :: acc) (setD d.dst v e) n').ge n
      revert h2
      generalize evDs F lim S l (dl :: acc) (setD d.dst v e) n' = r
      cases r with
      | no => intro _; trivial
      | ok => intro h2; exact Nat.le_trans h1 h2
theorem evDr_ge {F : FF} (hF : F.mono) (l : DR) (lim : Nat) (e : Tr) (h : Hp) (n : Nat) : (evDr l F lim e h n).ge n := by
  unfold evDr
  split
  · split
    · exact evDs_ge hF lim h l [] e n
    · rename_i x hx
      have h1 := evDs_ge hF lim h x.1 [] e n
      revert h1
      generalize evDs F lim h x.1 [] e n = r
      cases r with
      | no => intro _; trivial
      | ok e1 h1 n1 =>
        intro h2
        show (match x.2.o.ev F e1 lim h1 n1 with | .ok v h' n' => Rg.ok (setD x.2.dst v e1) h' n' | .no => Rg.no).ge n
        have h3 := O.ev_ge (n := n1) hF x.2.o e1 lim h1
        revert h3
        generalize x.2.o.ev F e1 lim h1 n1 = r
        cases r with
        | no => intro _; trivial
        | ok => intro h3; exact Nat.le_trans h2 h3
  · trivial

/-- One operation among others that were done: what it turned is turned, all else stays. -/
theorem draw_step {lim n0 nN ni ni' limi : Nat} {g0 g g' : Sig} {S hL b' h' hL' : Hm} {w0 w w' : World} (m : Mem g hL w) (f0 : Fr lim n0 g0 S w0 nN g hL w) (hS : ∀ p b, S p = some b → p.num < n0) (hlim : lim ≤ limi) (h0i : n0 ≤ ni) (hiN : ni' ≤ nN)
    (hfr : Fresh g ni ni') (m' : Mem g' h' w') (f : Fr limi ni g b' w ni' g' h' w') (hsub : ∀ p b, b' p = some b → hL p = some b) {T : Pos → Prop} (hW : ∀ p b, b' p = some b → limi ≤ p.num → T p)
    (hT : ∀ p, T p → (ni ≤ p.num ∧ p.num < ni') ∨ ∃ b, b' p = some b) (hL1 : ∀ p, T p → hL' p = h' p) (hL2 : ∀ p, ¬ T p → hL' p = hL p) (hf0 : ∀ p, T p → ni ≤ p.num → p.num < ni' → ∀ b, hL p ≠ some b) :
    Mem g' hL' w' ∧ Fr lim n0 g0 S w0 nN g' hL' w' := by
  have hle := f.gle hfr
  have keepU : ∀ p b r base tot, ¬ T p → hL p = some b → g p = some (r, base, tot) → w'.heap[r]? = w.heap[r]? := by
    intro p b r base tot hn hp hg
    refine f.keep r (m.lt hp hg) fun q c x y hq hl e => ?_
    have := m.inj q p c b r x y base tot (hsub q c hq) hp e hg
    subst this
    exact hn (hW q c hq hl)
  have hg' : ∀ p b, hL p = some b → g' p = g p := by
    intro p b hp
    obtain ⟨r, base, tot, cur, h1, _⟩ := m.blk p b hp
    rw [h1]; exact hle _ _ h1
  -- a place that was turned, against one that was not
  have cross : ∀ p q bp bq r b1 t1 b2 t2, T p → ¬ T q → h' p = some bp → hL q = some bq → g' p = some (r, b1, t1) → g' q = some (r, b2, t2) → False := by
    intro p q bp bq r b1 t1 b2 t2 hp hq hhp hhq e1 e2
    rw [hg' q bq hhq] at e2
    rcases hT p hp with ⟨x, y⟩ | ⟨b, hb⟩
    · rcases f.new p r b1 t1 x y e1 with h1 | ⟨q0, b0, x0, y0, h1, h2, h3⟩
      · have := m.lt hhq e2; omega
      · have := m.inj q0 q b0 bq r x0 y0 b2 t2 (hsub _ _ h1) hhq h3 e2
        subst this
        exact hq (hW q0 b0 h1 h2)
    · have hbl := hsub p b hb
      rw [hg' p b hbl] at e1
      have := m.inj p q b bq r b1 t1 b2 t2 hbl hhq e1 e2
      subst this
      exact hq hp
  refine ⟨⟨?_, ?_⟩, ?_⟩
  · intro p q bp bq r b1 t1 b2 t2 hp hq e1 e2
    by_cases hTp : T p <;> by_cases hTq : T q
    · rw [hL1 p hTp] at hp
      rw [hL1 q hTq] at hq
      exact m'.inj p q bp bq r b1 t1 b2 t2 hp hq e1 e2
    · rw [hL1 p hTp] at hp
      rw [hL2 q hTq] at hq
      exact (cross p q bp bq r b1 t1 b2 t2 hTp hTq hp hq e1 e2).elim
    · rw [hL2 p hTp] at hp
      rw [hL1 q hTq] at hq
      exact (cross q p bq bp r b2 t2 b1 t1 hTq hTp hq hp e2 e1).elim
    · rw [hL2 p hTp] at hp
      rw [hL2 q hTq] at hq
      rw [hg' p bp hp] at e1
      rw [hg' q bq hq] at e2
      exact m.inj p q bp bq r b1 t1 b2 t2 hp hq e1 e2
  · intro p b hp
    by_cases hTp : T p
    · rw [hL1 p hTp] at hp
      exact m'.blk p b hp
    · rw [hL2 p hTp] at hp
      obtain ⟨r, base, tot, cur, h1, h2, h3, h4, h5, h6⟩ := m.blk p b hp
      refine ⟨r, base, tot, cur, hle _ _ h1, (h2.mono hle).keep (keepU p b r base tot hTp hp h1), h3, h4, h5, fun k hk => ?_⟩
      obtain ⟨v, c1, c2, c3⟩ := h6 k hk
      exact ⟨v, c1, c2, V.rel_mono hle _ c3⟩
  · have inW : ∀ q c r x y, b' q = some c → limi ≤ q.num → g q = some (r, x, y) → w0.heap.size ≤ r ∨ ∃ q b base' tot', S q = some b ∧ lim ≤ q.num ∧ g0 q = some (r, base', tot') := by
      intro q c r x y hq hl hgq
      by_cases hqn : q.num < n0
      · obtain ⟨c', hc'⟩ := (f0.dom q c (hsub q c hq)).1 hqn
        rw [f0.sig q (.inl hqn)] at hgq
        exact .inr ⟨q, c', x, y, hc', by omega, hgq⟩
      · exact f0.new q r x y (by omega) (f0.dom q c (hsub q c hq)).2 hgq
    exact {
      le := f0.le
      os := f.os.trans f0.os
      tape := f.tape.trans f0.tape
      output := f.output.trans f0.output
      size := Nat.le_trans f0.size f.size
      keep := by
        intro r hr hW0
        rw [f.keep r (Nat.lt_of_lt_of_le hr f0.size) fun q c x y hq hl e => ?_, f0.keep r hr hW0]
        rcases inW q c r x y hq hl e with h1 | ⟨q', c', x', y', h1, h2, h3⟩
        · omega
        · exact hW0 q' c' x' y' h1 h2 h3
      sig := by
        intro p hp
        have := f.le
        rw [f.sig p (by omega), f0.sig p hp]
      dom := by
        intro p b hp
        by_cases hTp : T p
        · rw [hL1 p hTp] at hp
          have hd := f.dom p b hp
          refine ⟨fun hn => ?_, by have := hd.2; omega⟩
          obtain ⟨c, hc⟩ := hd.1 (by omega)
          exact (f0.dom p c (hsub p c hc)).1 hn
        · rw [hL2 p hTp] at hp
          exact f0.dom p b hp
      new := by
        intro p r base tot h1 h2 e
        by_cases hr : ni ≤ p.num ∧ p.num < ni'
        · rcases f.new p r base tot hr.1 hr.2 e with h3 | ⟨q, c, x, y, hq, hl, hgq⟩
          · exact .inl (Nat.le_trans f0.size h3)
          · exact inW q c r x y hq hl hgq
        · rw [f.sig p (by omega)] at e
          exact f0.new p r base tot h1 h2 e }
end Go.Proofs.Ytjhgingmbklhaaa.Ev
