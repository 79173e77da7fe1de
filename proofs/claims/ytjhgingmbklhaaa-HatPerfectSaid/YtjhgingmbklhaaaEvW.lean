/- Regions whose order is open: the translation, the checks, and that the model comes to the same. -/
import Derived.Test.YtjhgingmbklhaaaEvV
namespace Go.Proofs.Ytjhgingmbklhaaa.Ev
set_option linter.unusedVariables false
open Go

/-! What comes before what, in bits. -/
def maskOf (o : Oper) (acc : List Nat) : Nat := o.after.toList.foldl (fun s e => if Region.binds .any e then s ||| 2 ^ e.on ||| acc.getD e.on 0 else s) 0
def masks : List Oper → List Nat → List Nat
  | [], acc => acc
  | o :: l, acc => masks l (acc ++ [maskOf o acc])
def stOf (o : Oper) : List Pos := match o.op with
  | .store _ (.tmp t) _ => [tp t]
  | .mapUpdate _ (.tmp t) _ _ => [tp t]
  | .call { callee := .builtin .append, args := ⟨[.tmp t, .tmp u]⟩, .. } => [tp t, tp u]
  | .call { callee := .builtin .copy, args := ⟨[.tmp t, .tmp u]⟩, .. } => [tp t, tp u]
  | _ => []
def puOf (o : Oper) : Bool := match o.op with
  | .load .. | .store .. | .lookup .. | .mapUpdate .. | .slice .. | .call { callee := .value _, .. } | .call { callee := .builtin .append, .. } | .call { callee := .builtin .copy, .. } => false
  | _ => true
def frOf (dr : List Nat) (o : Oper) : Bool := match o.op with
  | .alloc _ | .box .. | .buildSlice .. | .makeSlice .. | .makeMap .. => true
  | .call { callee := .builtin .append, .. } => true
  | .call { callee := .value (.func f), .. } => !dr.contains f
  | .call { callee := .value _, .. } => true
  | _ => false
def efOf (dr : List Nat) (o : Oper) : Bool := match o.op with
  | .call { callee := .value (.func f), .. } => dr.contains (1000000 + f)
  | .call { callee := .value _, .. } => dr.contains 2000000
  | _ => false
def tsOf (ops : Array Oper) (o : Oper) : List Pos :=
  (match o.guard with | some (j, _) => (((ops[j]?).bind (·.dst)).map tp).toList | none => []) ++ o.op.operands.toList.filterMap fun | .tmp t => some (tp t) | _ => none
def usOf (ms : List Nat) (i : Nat) : Nat → List Oper → List Pos
  | _, [] => []
  | j, o :: l => if i < j ∧ (ms.getD j 0).testBit i = false then stOf o ++ usOf ms i (j + 1) l else usOf ms i (j + 1) l
/-- The address of a load. -/
def ldOf (o : Oper) : List Pos := match o.op with
  | .load _ (.tmp t) => [tp t]
  | _ => []
/-- For a call that writes: the addresses of loads before it that may come behind it. -/
def usE (ms : List Nat) (j : Nat) : Nat → List Oper → List Pos
  | _, [] => []
  | i, o :: l => if i < j ∧ (ms.getD j 0).testBit i = false then ldOf o ++ usE ms j (i + 1) l else usE ms j (i + 1) l
/-- Operations that write, of which loads are told; 4000000: stores and append too. -/
def wrOf (dr : List Nat) (o : Oper) : Bool := efOf dr o || (dr.contains 4000000 && !(stOf o).isEmpty)
def rdOf (dr : List Nat) (ms : List Nat) (i : Nat) (r : List Pos) : Nat → List Oper → List Pos
  | _, [] => []
  | j, o :: l => if i < j ∧ (ms.getD j 0).testBit i = false ∧ wrOf dr o = true then r else rdOf dr ms i r (j + 1) l
def mkD (P : Program) (N : Nat) (dr : List Nat) (ops : Array Oper) (ms : List Nat) (i : Nat) (o : Oper) : Option DO :=
  match compD N o.dst, compG N ops o.guard, compO P o with
  | some d, some g, some q => some ⟨d, g, puOf o, stOf o, frOf dr o, (List.range i).reverse.map fun j => (ms.getD i 0).testBit j, if (dr.contains 4000000 && !(ldOf o).isEmpty) = true then [] else usOf ms i 0 ops.toList, tsOf ops o, q, efOf dr o, rdOf dr ms i (ldOf o) 0 ops.toList, if wrOf dr o = true then usE ms i 0 ops.toList else [], if efOf dr o = true then (dr.filter fun k => Nat.ble 3000000 k).map fun k => posF 63 (k - 3000000 + 1) else []⟩
  | _, _, _ => none
def mkL (P : Program) (N : Nat) (dr : List Nat) (ops : Array Oper) (ms : List Nat) : Nat → List Oper → Option (List DO)
  | _, [] => some []
  | i, o :: l => match mkD P N dr ops ms i o, mkL P N dr ops ms (i + 1) l with
    | some d, some m => some (d :: m)
    | _, _ => none

def anB (D : List DO) (i j : Nat) : Bool := Nat.blt j i && (D.getD i default).an.getD (i - 1 - j) false
def chkDr (ops : Array Oper) (D : List DO) : Bool :=
  let n := ops.size
  (List.range n).all fun i =>
    (match ops[i]? with
      | some o => (o.after.toList.all fun e => !Region.binds .any e || Nat.blt e.on i) &&
          (List.range i).all fun j => !anB D i j || o.after.toList.any fun e => Region.binds .any e && (Nat.beq e.on j || anB D e.on j)
      | none => true) &&
    ((List.range n).all fun j => Nat.beq i j || (match (D.getD i default).dst with | some p => decide ((D.getD j default).dst ≠ some p) | none => true)) &&
    ((List.range n).all fun j => Nat.beq i j || (match (D.getD j default).dst with | some p => !(D.getD i default).ts.contains p || anB D i j || anB D j i | none => true)) &&
    ((List.range n).all fun j => !Nat.blt i j || (D.getD i default).pu || (D.getD j default).st.all fun a => anB D j i || (((D.getD i default).us.contains a && (List.range n).all fun k => decide ((D.getD k default).dst ≠ some a)) || (!(D.getD i default).rd.isEmpty && (D.getD i default).rd.all fun a => (D.getD j default).nd.contains a && (List.range n).all fun k => Nat.blt k i || Nat.ble j k || decide ((D.getD k default).dst ≠ some a)))) &&
    ((List.range n).all fun j => !Nat.blt i j || (D.getD i default).pu || !(D.getD j default).ef || anB D j i || (!(D.getD i default).rd.isEmpty && (D.getD i default).rd.all fun a => (D.getD j default).nd.contains a && (List.range n).all fun k => Nat.blt k i || Nat.ble j k || decide ((D.getD k default).dst ≠ some a)))

def compDr0 (P : Program) (N : Nat) (dr : List Nat) (ops : Array Oper) : Option DR :=
  match mkL P N dr ops (masks ops.toList []) 0 ops.toList with
  | some l => if l.length = ops.size ∧ chkDr ops l = true then some l else none
  | none => none
def compDr1 (P : Program) (N : Nat) (dr : List Nat) (ops : Array Oper) : Option DR :=
  match compDr0 P N dr ops with
  | some l => some l
  | none => compDr0 P N (dr ++ [4000000]) ops
/-- The last operation comes behind all others. -/
def covB (ops : Array Oper) (m : Nat) (o : Oper) (l : DR) : Bool :=
  (o.after.toList.all fun e => !Region.binds .any e || Nat.blt e.on m) &&
  ((List.range m).all fun j => o.after.toList.any fun e => Region.binds .any e && (Nat.blt e.on m && (Nat.beq e.on j || anB l e.on j))) &&
  ((List.range m).all fun i => match ops[i]? with | some x => (match x.guard with | some (j, _) => Nat.blt j m | none => true) | none => true)
def compDrT (P : Program) (N : Nat) (dr : List Nat) (ops : Array Oper) : Option DR :=
  match ops[ops.size - 1]? with
  | some o => if efOf dr o = true then (match compDr1 P N dr ops.pop, compD N o.dst, compG N ops o.guard, compO P o with
    | some l, some d, some none, some q => if l.length + 1 = ops.size ∧ covB ops l.length o l = true then some (l ++ [⟨d, none, true, [], false, [], [], [], q, true, [], [], []⟩]) else none
    | _, _, _, _ => none) else none
  | none => none
def compDr (P : Program) (N : Nat) (dr : List Nat) (ops : Array Oper) : Option DR :=
  match compDrT P N dr ops with
  | some l => some l
  | none => match compDr1 P N dr ops with
    | some l => (match tlOf l with | none => some l | some _ => none)
    | none => none

theorem anB_iff (D : List DO) (i j : Nat) : anB D i j = true ↔ AN (fun i => D.getD i default) i j := by
  unfold anB AN bitL
  rw [Bool.and_eq_true, Nat.blt_eq]

theorem mkL_get {P : Program} {N : Nat} {dr : List Nat} {ops : Array Oper} {ms : List Nat} : ∀ (os : List Oper) (i : Nat) (l : List DO), mkL P N dr ops ms i os = some l → ∀ k o, os[k]? = some o →
    compD N o.dst = some (l.getD k default).dst ∧ compG N ops o.guard = some (l.getD k default).gd ∧ compO P o = some (l.getD k default).o
  | [], i, l, h, k, o, ho => by simp at ho
  | x :: os, i, l, h, k, o, ho => by
    rw [mkL] at h
    split at h
    case h_2 => cases h
    rename_i dd m h1 h2
    cases h
    cases k with
    | zero =>
      simp at ho
      subst ho
      unfold mkD at h1
      split at h1
      · rename_i a b c; cases h1; exact ⟨a, b, c⟩
      · cases h1
    | succ k => exact mkL_get os (i + 1) m h2 k o (by simpa using ho)

theorem chk_ok0 {P : Program} {N : Nat} {dr : List Nat} {ops : Array Oper} {l : DR} (h : compDr0 P N dr ops = some l) : DrawOK P N ops (fun i => l.getD i default) ∧ l.length = ops.size := by
  unfold compDr0 at h
  split at h
  case h_2 => cases h
  rename_i D hD
  split at h
  case isFalse => cases h
  rename_i hc
  cases h
  obtain ⟨hlen, hchk⟩ := hc
  refine ⟨?_, hlen⟩
  unfold chkDr at hchk
  dsimp only at hchk
  rw [List.all_eq_true] at hchk
  have C : ∀ i, i < ops.size → _ := fun i hi => hchk i (List.mem_range.2 hi)
  simp only [Bool.and_eq_true, List.all_eq_true, List.mem_range] at C
  refine ⟨fun i o ho => mkL_get ops.toList 0 l hD i o (by simpa using ho), fun i o ho e he hb => ?_, fun i o ho j hA => ?_, fun i j hi hj hne p hp => ?_, fun i j hi hj hne p hp hd => ?_, fun i j hij hj hpu a ha => ?_, fun i j hij hj hpu hef => ?_⟩
  · have hi : i < ops.size := (Array.getElem?_eq_some_iff.1 ho).1
    have c := (C i hi).1.1.1.1
    rw [ho] at c
    simp only [Bool.and_eq_true, List.all_eq_true] at c
    have := c.1 e he
    rw [hb] at this
    simpa [Nat.blt_eq] using this
  · have hi : i < ops.size := (Array.getElem?_eq_some_iff.1 ho).1
    have c := (C i hi).1.1.1.1
    rw [ho] at c
    simp only [Bool.and_eq_true, List.all_eq_true] at c
    have := c.2 j (List.mem_range.2 hA.1)
    rw [(anB_iff l i j).2 hA] at this
    simp only [Bool.not_true, Bool.false_or, List.any_eq_true, Bool.and_eq_true, Bool.or_eq_true] at this
    obtain ⟨e, he, hb, h1 | h1⟩ := this
    · exact ⟨e, he, hb, .inl (by simpa [Nat.beq_eq] using h1)⟩
    · exact ⟨e, he, hb, .inr ((anB_iff l _ _).1 h1)⟩
  · have c := (C i hi).1.1.1.2 j hj
    rw [hp] at c
    have hb : Nat.beq i j = false := by
      cases hx : Nat.beq i j
      · rfl
      · rw [Nat.beq_eq] at hx; exact absurd hx hne
    rw [hb] at c
    simpa using c
  · have c := (C i hi).1.1.2 j hj
    rw [hd] at c
    have hb : Nat.beq i j = false := by
      cases hx : Nat.beq i j
      · rfl
      · rw [Nat.beq_eq] at hx; exact absurd hx.symm hne
    rw [hb] at c
    simp only [Bool.false_or, Bool.or_eq_true] at c
    rcases c with (c | c) | c
    · have : (l.getD i default).ts.contains p = true := List.elem_eq_true_of_mem hp
      rw [this] at c; cases c
    · exact .inl ((anB_iff l _ _).1 c)
    · exact .inr ((anB_iff l _ _).1 c)
  · have c := (C i (by omega)).1.2 j hj
    have hb : Nat.blt i j = true := by rw [Nat.blt_eq]; exact hij
    have hpu : (l.getD i default).pu = false := hpu
    rw [hb, hpu] at c
    simp only [Bool.not_true, Bool.false_or, Bool.or_eq_true, Bool.and_eq_true, List.all_eq_true, List.mem_range, decide_eq_true_eq, Bool.not_eq_true', List.isEmpty_eq_false_iff, Nat.blt_eq, Nat.ble_eq] at c
    rcases c a ha with c | ⟨c1, c2⟩ | ⟨c1, c2⟩
    · exact .inl ((anB_iff l _ _).1 c)
    · exact .inr (.inl ⟨List.mem_of_elem_eq_true c1, c2⟩)
    · refine .inr (.inr ⟨c1, fun a ha => ⟨List.mem_of_elem_eq_true (c2 a ha).1, fun k h1 h2 => ?_⟩⟩)
      rcases (c2 a ha).2 k (by omega) with (c3 | c3) | c3
      · omega
      · omega
      · exact c3
  · have c := (C i (by omega)).2 j hj
    have hb : Nat.blt i j = true := by rw [Nat.blt_eq]; exact hij
    have hpu : (l.getD i default).pu = false := hpu
    have hef : (l.getD j default).ef = true := hef
    rw [hb, hpu, hef] at c
    simp only [Bool.not_true, Bool.false_or, Bool.or_eq_true, Bool.and_eq_true, List.all_eq_true, List.mem_range, decide_eq_true_eq, Bool.not_eq_true', List.isEmpty_eq_false_iff, Nat.blt_eq, Nat.ble_eq] at c
    rcases c with c | ⟨c1, c2⟩
    · exact .inl ((anB_iff l _ _).1 c)
    · refine .inr ⟨c1, fun a ha => ⟨List.mem_of_elem_eq_true (c2 a ha).1, fun k h1 h2 => ?_⟩⟩
      rcases (c2 a ha).2 k (by omega) with (c3 | c3) | c3
      · omega
      · omega
      · exact c3

theorem chk_ok {P : Program} {N : Nat} {dr : List Nat} {ops : Array Oper} {l : DR} (h : compDr1 P N dr ops = some l) : DrawOK P N ops (fun i => l.getD i default) ∧ l.length = ops.size := by
  unfold compDr1 at h
  split at h
  · rename_i h1; cases h; exact chk_ok0 h1
  · exact chk_ok0 h

theorem draw_sound0 {ro : Option Nat} {P : Program} (hP : P.follows .mixedOrders = true) {F : FF} (hF : FOK P F) (hM : F.mono) {N : Nat} {dr : List Nat} {id : Nat} {ops : Array Oper} {r : DR} (hr : compDr1 P N dr ops = some r)
    {lim : Nat} {e : Tr} {h : Hp} {n : Nat} {e' : Tr} {h' : Hp} {n' : Nat} (hlim : lim ≤ n ∧ 1 ≤ n) (hev : evDs F lim h r [] e n = .ok e' h' n') {a : Act} {g : Sig} {w : World} (he : EnvA N g e a) (m : Mem g h.get w) (hd : Dom h.get n) (hf : Fresh g n n') (hn : n' < 9223372036854775808) :
    (Code.region id ops true).wpIn (fw ro) 0 P (fun ex a' w' => ex = .normal ∧ MkK w a w' a' ∧ ∃ g', EnvA N g' e' a' ∧ Mem g' h'.get w' ∧ Fr lim n g h.get w n' g' h'.get w') a w := by
  obtain ⟨hok, hlen⟩ := chk_ok hr
  obtain ⟨v, d, ns, _, h0, hst, rfl, rfl, rfl⟩ := trace (F := F) (lim := lim) (S := h) (e0 := e) (l := r) r.length 0 (fun _ => .bad) (fun _ => .nil) (fun _ => n) (by omega) hev
  have h0 : ns 0 = n := h0 0 (by omega)
  rw [hlen] at hst hf hn ⊢
  have hst : ∀ i, i < ops.size → stepD (r.getD i default) F lim (accS d i) (envS e (fun i => r.getD i default) v i) h (ns i) = .ok (v i) (d i) (ns (i + 1)) := fun i hi => hst i (by omega) (by omega)
  have W : Worked P N ops (fun i => r.getD i default) F lim e h v d ns := ⟨hok, hst, fun i hi => stepD_ge hM (hst i hi), by omega, by omega, hn, fun p b hp => by rw [h0]; exact hd p b hp⟩
  refine wpIn_region_any hP (walk_any (Df := a.defers) hF W (g0 := g) (w0 := w) (fun g' a' w' I => ?_) ops.size _ a g w.drew (by simp) (by simp [unl_rep]) ?_)
  · have heq : hLf d (fun i => i < ops.size) (fun p => h.get p) ops.size = fun p => (appAll (accS d ops.size) h).get p := by
      funext p
      rw [appAll_get]
      exact hLf_congr ops.size fun j hj => ⟨fun hc => ⟨trivial, hc.2⟩, fun hc => ⟨hj, hc.2⟩⟩
    have hfr : Fr lim n g h.get w (ns ops.size) g' (appAll (accS d ops.size) h).get w' := by
      have := I.fr
      rw [h0, heq] at this
      exact this
    refine ⟨rfl, mk_keep m hfr I.ds, g', ⟨I.sz, I.glo, fun t ht => ?_⟩, heq ▸ I.mem, ?_⟩
    · by_cases hex : ∃ j, j < ops.size ∧ (r.getD j default).dst = some (tp t)
      · obtain ⟨j, hj, hdst⟩ := hex
        rw [envS_at e (fun i => r.getD i default) v ops.size j hj hdst (fun k hk hkj => hok.k2 j k hj hk (Ne.symm hkj) _ hdst)]
        exact I.done j hj hj t ht hdst
      · rw [envS_other e (fun i => r.getD i default) v ops.size (fun j hj e => hex ⟨j, hj, e⟩)]
        exact I.old t ht fun i hi _ e => hex ⟨i, hi, e⟩
    · have := I.fr
      rw [h0, heq] at this
      exact this
  · have hno : ∀ i, ¬ LS (Array.replicate ops.size false) i := by
      intro i hi
      unfold LS at hi
      rw [Array.getElem?_replicate] at hi
      split at hi <;> simp at hi
    have heq : hLf d (LS (Array.replicate ops.size false)) (fun p => h.get p) ops.size = fun p => h.get p := by
      funext p
      have : ∀ k, hLf d (LS (Array.replicate ops.size false)) (fun p => h.get p) k p = h.get p := by
        intro k
        induction k with
        | zero => rfl
        | succ k ih => rw [hLf_neg (fun hc => hno k hc.1), ih]
      exact this _
    refine ⟨rfl, he.sz, he.glo, fun i _ hL => absurd hL (hno i), fun t ht _ => he.rel t ht, by rw [heq]; exact m.drew, ?_, fun i hi _ => ?_, fun i j hL _ => absurd hL (hno i)⟩
    · rw [heq, h0]
      have hle : n ≤ ns ops.size := by have := W.le ops.size (Nat.le_refl _) 0 (by omega); omega
      exact ⟨hle, rfl, rfl, rfl, Nat.le_refl _, fun _ _ _ => rfl, fun _ _ => rfl, fun p b hp => ⟨fun _ => ⟨b, hp⟩, by have := hd p b hp; omega⟩, fun p r base tot h1 h2 hg => by rw [hf p h1 h2] at hg; cases hg⟩
    · have := W.le i (by omega) 0 (by omega)
      have := W.le ops.size (Nat.le_refl _) (i + 1) (by omega)
      exact hf.sub (by omega) (by omega)

/-- An operation that isn't the last one, without the last one. -/
theorem wpOp_pop {F : Fence} {n : Nat} {P : Program} {ops : Array Oper} {m i : Nat} (hm : ops.size = m + 1) (hi : i < m) (hg : ∀ o j b, ops[i]? = some o → o.guard = some (j, b) → j < m) {Q : Exit → Act → World → Prop} {K : Act → World → Prop} {a : Act} {w : World}
    (h : wpOpIn F n P ops.pop Q i K a w) : wpOpIn F n P ops Q i K a w := by
  have e : ∀ j, j < m → ops.pop[j]? = ops[j]? := fun j hj => by rw [Array.getElem?_pop, if_pos (by omega)]
  unfold wpOpIn at h ⊢
  rw [e i hi] at h
  cases ho : ops[i]? with
  | none => rw [ho] at h; exact h
  | some o =>
    rw [ho] at h
    dsimp only at h ⊢
    have hw : Region.wanted o (yielded ops.pop a.tmps) = Region.wanted o (yielded ops a.tmps) := by
      unfold Region.wanted
      cases hgd : o.guard with
      | none => rfl
      | some jb =>
        obtain ⟨j, b⟩ := jb
        dsimp only
        unfold yielded
        rw [e j (hg o j b ho hgd)]
    rw [hw] at h; exact h
section
variable {P : Program} {N : Nat} {D : Nat → DO} {F : FF} {lim : Nat} {e0 : Tr} {S : Hp} {v : Nat → V} {d : Nat → Dl} {ns : Nat → Nat} {Df : List Deferred}
theorem walk_tail {ro : Option Nat} (hF : FOK P F) {ops : Array Oper} {m : Nat} (hm : ops.size = m + 1) (W : Worked P N ops.pop D F lim e0 S v d ns) {ol : Oper} (hol : ops[m]? = some ol)
    (hg : ∀ i, i < m → ∀ o j b, ops[i]? = some o → o.guard = some (j, b) → j < m) (hlt : ∀ e ∈ ol.after.toList, Region.binds .any e = true → e.on < m)
    (hcov : ∀ j, j < m → ∃ e ∈ ol.after.toList, Region.binds .any e = true ∧ e.on < m ∧ (e.on = j ∨ AN D e.on j)) {g0 : Sig} {w0 : World} {Q : Exit → Act → World → Prop}
    (hQ : ∀ g a w, Inv N Df ops.pop D lim e0 S v d ns g0 w0 (fun i => i < m) g a w → ∀ K : Act → World → Prop, (∀ a w, Q .normal a w → K a w) → wpOpIn (fw ro) 0 P ops Q m K a w) :
    ∀ (fuel : Nat) (listed : Array Bool) (a : Act) (g : Sig) (w : World), listed.size = m + 1 → listed[m]? = some false → unl listed.toList ≤ fuel → Inv N Df ops.pop D lim e0 S v d ns g0 w0 (fun i => i < m ∧ LS listed i) g a w → wpAnyIn (fw ro) 0 P .any ops Q fuel listed a w := by
  have hps : ops.pop.size = m := by rw [Array.size_pop]; omega
  have hpo : ∀ j, j < m → ops.pop[j]? = ops[j]? := fun j hj => by rw [Array.getElem?_pop, if_pos (by omega)]
  intro fuel
  induction fuel with
  | zero =>
    intro listed a g w hs hl hu I
    have := unl_zero listed.toList (by omega) m (by simp; omega)
    rw [Array.getElem?_toList, hl] at this
    cases this
  | succ fuel ih =>
    intro listed a g w hs hl hu I
    have hsz : listed.size = ops.size := by omega
    refine ⟨fun hr => ?_, fun i hi => ?_⟩
    · exfalso
      have all : ∀ k i, i ≤ k → i < m → LS listed i := by
        intro k
        induction k with
        | zero =>
          intro i hk hi
          obtain rfl : i = 0 := by omega
          by_cases h : listed[0]? = some true
          · exact h
          · exfalso
            have h2 : listed[0]? = some false := by
              rw [Array.getElem?_eq_getElem (by omega)] at h ⊢
              cases hx : listed[0] with
              | true => rw [hx] at h; exact absurd rfl h
              | false => rfl
            obtain ⟨o, ho⟩ : ∃ o, ops[0]? = some o := ⟨ops[0], Array.getElem?_eq_getElem (by omega)⟩
            have hmm := ready_of (by omega : 0 < ops.size) hsz h2 ho fun e he hb => by
              have := W.st.k5 0 o (by rw [hpo 0 hi]; exact ho) e he hb
              omega
            rw [hr] at hmm; cases hmm
        | succ k ihk =>
          intro i hk hi
          by_cases h : listed[i]? = some true
          · exact h
          · exfalso
            have h2 : listed[i]? = some false := by
              rw [Array.getElem?_eq_getElem (by omega)] at h ⊢
              cases hx : listed[i] with
              | true => rw [hx] at h; exact absurd rfl h
              | false => rfl
            obtain ⟨o, ho⟩ : ∃ o, ops[i]? = some o := ⟨ops[i], Array.getElem?_eq_getElem (by omega)⟩
            have hmm := ready_of (by omega : i < ops.size) hsz h2 ho fun e he hb => by
              have hlt2 := W.st.k5 i o (by rw [hpo i hi]; exact ho) e he hb
              have := ihk e.on (by omega) (by omega)
              unfold LS at this
              simp [Array.getD, show e.on < listed.size by omega]
              rw [Array.getElem?_eq_getElem (by omega)] at this
              simpa using this
            rw [hr] at hmm; cases hmm
      have hmm := ready_of (by omega : m < ops.size) hsz hl hol fun e he hb => by
        have h1 := hlt e he hb
        have := all e.on e.on (Nat.le_refl _) h1
        unfold LS at this
        simp [Array.getD, show e.on < listed.size by omega]
        rw [Array.getElem?_eq_getElem (by omega)] at this
        simpa using this
      rw [hr] at hmm; cases hmm
    · obtain ⟨h1, h2, o, ho, h3⟩ := mem_ready hi hsz
      by_cases him : i = m
      · subst him
        obtain rfl : ol = o := Option.some.inj (hol.symm.trans ho)
        have hall : ∀ j, j < i → LS listed j := fun j hj => by
          obtain ⟨e, he, hb, hlt', h4⟩ := hcov j hj
          have hL := LS_getD (h3 e he hb)
          rcases h4 with h4 | h4
          · rw [← h4]; exact hL
          · exact (I.dc _ _ ⟨hlt', hL⟩ h4).2
        have hLe : (fun j => j < i ∧ LS listed j) = fun j => j < i := by
          funext j
          exact propext ⟨fun h => h.1, fun h => ⟨h, hall j h⟩⟩
        refine hQ g a w (hLe ▸ I) _ fun a' w' hq => wpAnyIn_done ?_ hq fuel
        rw [List.eq_nil_iff_forall_not_mem]
        intro j hj
        obtain ⟨j1, j2, _⟩ := mem_ready hj (by simpa using hsz)
        by_cases hji : j = i
        · subst hji
          rw [Array.getElem?_setIfInBounds_self_of_lt (by omega)] at j2
          cases j2
        · rw [Array.getElem?_setIfInBounds_ne (Ne.symm hji)] at j2
          have := hall j (by omega)
          unfold LS at this
          rw [this] at j2; cases j2
      · have him' : i < m := by omega
        have hLi : ¬ (i < m ∧ LS listed i) := fun h => by
          have := h.2
          unfold LS at this
          rw [h2] at this; cases this
        refine wpOp_pop hm him' (fun o j b => hg i him' o j b) (Inv.go hF W I (by omega) hLi (an_done W (by rw [hpo i him']; exact ho) I.dc fun e he hb => ⟨Nat.lt_trans (W.st.k5 i o (by rw [hpo i him']; exact ho) e he hb) him', LS_getD (h3 e he hb)⟩) fun g' a' w' I' => ?_)
        have hlts : i < listed.size := by omega
        have e : (fun j => j < m ∧ LS (listed.setIfInBounds i true) j) = fun j => (j < m ∧ LS listed j) ∨ j = i := by
          funext j
          apply propext
          unfold LS
          by_cases hj : j = i
          · subst hj
            simp [hlts, him']
          · rw [Array.getElem?_setIfInBounds_ne (Ne.symm hj)]
            exact ⟨fun h => .inl h, fun h => h.resolve_right hj⟩
        refine ih _ a' g' w' (by simpa using hs) (by rw [Array.getElem?_setIfInBounds_ne him]; exact hl) ?_ (e ▸ I')
        have := unl_set listed.toList i (by simpa using h2)
        simp only [Array.toList_setIfInBounds]
        omega
end

theorem draw_soundT {ro : Option Nat} {P : Program} (hP : P.follows .mixedOrders = true) {F : FF} (hF : FOK P F) (hM : F.mono) {N : Nat} {dr : List Nat} {id : Nat} {ops : Array Oper} {r : DR} (hr : compDr1 P N dr ops.pop = some r) {ol : Oper} {dd : Option Pos} {q : O}
    (hsz : r.length + 1 = ops.size) (hol : ops[r.length]? = some ol) (hd1 : compD N ol.dst = some dd) (hd2 : compG N ops ol.guard = some none) (hd3 : compO P ol = some q) (hcov : covB ops r.length ol r = true)
    {lim : Nat} {e : Tr} {h : Hp} {n : Nat} {e1 : Tr} {h1 : Hp} {n1 : Nat} {v1 : V} {h' : Hp} {n' : Nat} (hlim : lim ≤ n ∧ 1 ≤ n) (hev : evDs F lim h r [] e n = .ok e1 h1 n1) (hq : q.ev F e1 lim h1 n1 = .ok v1 h' n') {a : Act} {g : Sig} {w : World} (he : EnvA N g e a) (m : Mem g h.get w) (hd : Dom h.get n) (hf : Fresh g n n') (hn : n' < 9223372036854775808) :
    (Code.region id ops true).wpIn (fw ro) 0 P (fun ex a' w' => ex = .normal ∧ MkK w a w' a' ∧ ∃ g', EnvA N g' (setD dd v1 e1) a' ∧ Mem g' h'.get w' ∧ Fr lim n g h.get w n' g' h'.get w') a w := by
  obtain ⟨hok, hlen⟩ := chk_ok hr
  have hn1 : n1 ≤ n' := by
    have := O.ev_ge (n := n1) hM q e1 lim h1
    rw [hq] at this; exact this
  obtain ⟨v, d, ns, _, h0, hst, rfl, rfl, rfl⟩ := trace (F := F) (lim := lim) (S := h) (e0 := e) (l := r) r.length 0 (fun _ => .bad) (fun _ => .nil) (fun _ => n) (by omega) hev
  have h0 : ns 0 = n := h0 0 (by omega)
  rw [hlen] at hst hn1 hq hol hsz hcov ⊢
  have hst : ∀ i, i < ops.pop.size → stepD (r.getD i default) F lim (accS d i) (envS e (fun i => r.getD i default) v i) h (ns i) = .ok (v i) (d i) (ns (i + 1)) := fun i hi => hst i (by omega) (by omega)
  have W : Worked P N ops.pop (fun i => r.getD i default) F lim e h v d ns := ⟨hok, hst, fun i hi => stepD_ge hM (hst i hi), by omega, by omega, by omega, fun p b hp => by rw [h0]; exact hd p b hp⟩
  unfold covB at hcov
  simp only [Bool.and_eq_true, List.all_eq_true, List.mem_range] at hcov
  obtain ⟨⟨c1, c2⟩, c3⟩ := hcov
  have hn1' : ns 0 ≤ ns ops.pop.size := W.le ops.pop.size (Nat.le_refl _) 0 (by omega)
  refine wpIn_region_any hP (walk_tail (Df := a.defers) hF hsz.symm W hol (g0 := g) (w0 := w) (fun i hi o j b ho hgd => ?_) (fun e he hb => ?_) (fun j hj => ?_) (fun g' a' w' I K hK => ?_) ops.size _ a g w.drew (by simp; omega) (by rw [Array.getElem?_replicate, if_pos (by omega)]) (by simp [unl_rep]) ?_)
  · have := c3 i hi
    rw [ho] at this
    simp only [hgd, Nat.blt_eq] at this
    exact this
  · have := c1 e he
    rw [hb] at this
    simpa [Nat.blt_eq] using this
  · have := c2 j hj
    simp only [List.any_eq_true, Bool.and_eq_true, Bool.or_eq_true, Nat.blt_eq, Nat.beq_eq] at this
    obtain ⟨e, h1, h2, h3, h4⟩ := this
    exact ⟨e, h1, h2, h3, h4.imp (fun x => x) (anB_iff r _ _).1⟩
  · have heq : hLf d (fun i => i < ops.pop.size) (fun p => h.get p) ops.pop.size = fun p => (appAll (accS d ops.pop.size) h).get p := by
      funext p
      rw [appAll_get]
      exact hLf_congr ops.pop.size fun j hj => ⟨fun hc => ⟨trivial, hc.2⟩, fun hc => ⟨hj, hc.2⟩⟩
    have hfr : Fr lim n g h.get w (ns ops.pop.size) g' (appAll (accS d ops.pop.size) h).get w' := by
      have := I.fr
      rw [h0, heq] at this
      exact this
    have hmem : Mem g' (appAll (accS d ops.pop.size) h).get w' := heq ▸ I.mem
    have henv : EnvA N g' (envS e (fun i => r.getD i default) v ops.pop.size) a' := ⟨I.sz, I.glo, fun t ht => by
      by_cases hex : ∃ j, j < ops.pop.size ∧ (r.getD j default).dst = some (tp t)
      · obtain ⟨j, hj, hdst⟩ := hex
        rw [envS_at e (fun i => r.getD i default) v ops.pop.size j hj hdst (fun k hk hkj => hok.k2 j k hj hk (Ne.symm hkj) _ hdst)]
        exact I.done j hj hj t ht hdst
      · rw [envS_other e (fun i => r.getD i default) v ops.pop.size (fun j hj e => hex ⟨j, hj, e⟩)]
        exact I.old t ht fun i hi _ e => hex ⟨i, hi, e⟩⟩
    have hfresh : Fresh g' (ns ops.pop.size) n' := fun p p1 p2 => by
      rw [hfr.sig p (.inr p1)]
      exact hf p (by omega) p2
    unfold wpOpIn
    simp only [hol]
    rw [if_pos (wanted_none hd2)]
    refine compO_sound hF hd3 _ _ _ _ _ _ _ hq a' g' w' henv.ok hmem (fun p b hp => (hfr.dom p b hp).2) hfresh hn ro K _ fun u g2 w2 hu m2 f2 => hK _ _ ?_
    have hft := hfr.trans f2
    refine ⟨rfl, mk_keep m hft (by rw [put_defers]; exact I.ds), g2, (henv.mono (f2.gle hfresh)).put hd1 hu, m2, hft⟩
  · have hno : ∀ i, ¬ LS (Array.replicate ops.size false) i := by
      intro i hi
      unfold LS at hi
      rw [Array.getElem?_replicate] at hi
      split at hi <;> simp at hi
    have hno' : ∀ i, ¬ (i < ops.pop.size ∧ LS (Array.replicate ops.size false) i) := fun i hi => hno i hi.2
    have heq : hLf d (fun i => i < ops.pop.size ∧ LS (Array.replicate ops.size false) i) (fun p => h.get p) ops.pop.size = fun p => h.get p := by
      funext p
      have : ∀ k, hLf d (fun i => i < ops.pop.size ∧ LS (Array.replicate ops.size false) i) (fun p => h.get p) k p = h.get p := by
        intro k
        induction k with
        | zero => rfl
        | succ k ih => rw [hLf_neg (fun hc => hno' k hc.1), ih]
      exact this _
    refine ⟨rfl, he.sz, he.glo, fun i _ hL => absurd hL (hno' i), fun t ht _ => he.rel t ht, by rw [heq]; exact m.drew, ?_, fun i hi _ => ?_, fun i j hL _ => absurd hL (hno' i)⟩
    · rw [heq, h0]
      have hle : n ≤ ns ops.pop.size := by omega
      exact ⟨hle, rfl, rfl, rfl, Nat.le_refl _, fun _ _ _ => rfl, fun _ _ => rfl, fun p b hp => ⟨fun _ => ⟨b, hp⟩, by have := hd p b hp; omega⟩, fun p r base tot h1 h2 hg => by rw [hf p h1 (by omega)] at hg; cases hg⟩
    · have := W.le i (by omega) 0 (by omega)
      have := W.le ops.pop.size (Nat.le_refl _) (i + 1) (by omega)
      exact hf.sub (by omega) (by omega)

theorem draw_sound {ro : Option Nat} {P : Program} (hP : P.follows .mixedOrders = true) {F : FF} (hF : FOK P F) (hM : F.mono) {N : Nat} {dr : List Nat} {id : Nat} {ops : Array Oper} {r : DR} (hr : compDr P N dr ops = some r)
    {lim : Nat} {e : Tr} {h : Hp} {n : Nat} {e' : Tr} {h' : Hp} {n' : Nat} (hev : evDr r F lim e h n = .ok e' h' n') {a : Act} {g : Sig} {w : World} (he : EnvA N g e a) (m : Mem g h.get w) (hd : Dom h.get n) (hf : Fresh g n n') (hn : n' < 9223372036854775808) :
    (Code.region id ops true).wpIn (fw ro) 0 P (fun ex a' w' => ex = .normal ∧ MkK w a w' a' ∧ ∃ g', EnvA N g' e' a' ∧ Mem g' h'.get w' ∧ Fr lim n g h.get w n' g' h'.get w') a w := by
  unfold evDr at hev
  split at hev
  case isFalse => cases hev
  rename_i hlim
  unfold compDr at hr
  split at hr
  · rename_i l hl
    cases hr
    unfold compDrT at hl
    split at hl
    case h_2 => cases hl
    rename_i ol hol
    split at hl
    case isFalse => cases hl
    split at hl
    case h_2 => cases hl
    rename_i l0 dd q hl0 hd1 hd2 hd3
    split at hl
    case isFalse => cases hl
    rename_i hc
    cases hl
    obtain ⟨hc1, hc2⟩ := hc
    split at hev
    · rename_i ht
      have := tlOf_last l0 (d := ⟨dd, none, true, [], false, [], [], [], q, true, [], [], []⟩) rfl
      rw [ht] at this; cases this
    · rename_i x hx
      have h1 := tlOf_eq hx
      have h2 := List.append_inj' h1 rfl
      obtain ⟨h3, h4⟩ := h2
      simp only [List.cons.injEq, and_true] at h4
      rw [← h3, ← h4] at hev
      unfold tlR at hev
      split at hev
      case h_1 => cases hev
      rename_i e1 h1' n1 hev1
      split at hev
      case h_2 => cases hev
      rename_i v1 h2' n2 hq
      cases hev
      exact draw_soundT hP hF hM hl0 hc1 (by rw [show l0.length = ops.size - 1 by omega]; exact hol) hd1 hd2 hd3 hc2 hlim hev1 hq he m hd hf hn
  · split at hr
    case h_2 => cases hr
    rename_i l hl
    split at hr
    case h_2 => cases hr
    rename_i ht
    cases hr
    rw [ht] at hev
    exact draw_sound0 hP hF hM hl hlim hev he m hd hf hn
end Go.Proofs.Ytjhgingmbklhaaa.Ev
