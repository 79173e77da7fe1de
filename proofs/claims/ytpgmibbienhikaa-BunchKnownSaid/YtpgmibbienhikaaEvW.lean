/- Regions whose order is open: the translation, the checks, and that the model comes to the same. -/
import Derived.Test.YtpgmibbienhikaaEvV
namespace Go.Proofs.Ytpgmibbienhikaa.Ev
set_option linter.unusedVariables false
open Go

/-! What comes before what, in bits. -/
def maskOf (o : Oper) (acc : List Nat) : Nat := o.after.toList.foldl (fun s e => if Region.binds .any e then s ||| 2 ^ e.on ||| acc.getD e.on 0 else s) 0
def masks : List Oper → List Nat → List Nat
  | [], acc => acc
  | o :: l, acc => masks l (acc ++ [maskOf o acc])
def stOf (o : Oper) : List Pos := match o.op with
  | .store _ (.tmp t) _ => [tp t]
  | .mapUpdate _ (.tmp t) _ _ => [tp t]
  | .call { callee := .builtin .append, args := ⟨[.tmp t, .tmp u]⟩, .. } => [tp t, tp u]
  | .call { callee := .builtin .copy, args := ⟨[.tmp t, .tmp u]⟩, .. } => [tp t, tp u]
  | _ => []
def puOf (o : Oper) : Bool := match o.op with
  | .load .. | .store .. | .lookup .. | .mapUpdate .. | .slice .. | .call { callee := .value _, .. } | .call { callee := .builtin .append, .. } | .call { callee := .builtin .copy, .. } => false
  | _ => true
def frOf (dr : List Nat) (o : Oper) : Bool := match o.op with
  | .alloc _ | .box .. | .buildSlice .. | .makeSlice .. | .makeMap .. => true
  | .call { callee := .builtin .append, .. } => true
  | .call { callee := .value (.func f), .. } => !dr.contains f
  | .call { callee := .value _, .. } => true
  | _ => false
def efOf (dr : List Nat) (o : Oper) : Bool := match o.op with
  | .call { callee := .value (.func f), .. } => dr.contains (1000000 + f)
  | .call { callee := .value _, .. } => dr.contains 2000000
  | _ => false
def tsOf (ops : Array Oper) (o : Oper) : List Pos :=
  (match o.guard with | some (j, _) => (((ops[j]?).bind (·.dst)).map tp).toList | none => []) ++ o.op.operands.toList.filterMap fun | .tmp t => some (tp t) | _ => none
def usOf (ms : List Nat) (i : Nat) : Nat → List Oper → List Pos
  | _, [] => []
  | j, o :: l => if i < j ∧ (ms.getD j 0).testBit i = false then stOf o ++ usOf ms i (j + 1) l else usOf ms i (j + 1) l
/-- The address of a load. -/
def ldOf (o : Oper) : List Pos := match o.op with
  | .load _ (.tmp t) => [tp t]
  | _ => []
/-- For a call that writes: the addresses of loads before it that may come behind it. -/
def usE (ms : List Nat) (j : Nat) : Nat → List Oper → List Pos
  | _, [] => []
  | i, o :: l => if i < j ∧ (ms.getD j 0).testBit i = false then ldOf o ++ usE ms j (i + 1) l else usE ms j (i + 1) l
def rdOf (dr : List Nat) (ms : List Nat) (i : Nat) (r : List Pos) : Nat → List Oper → List Pos
  | _, [] => []
  | j, o :: l => if i < j ∧ (ms.getD j 0).testBit i = false ∧ efOf dr o = true then r else rdOf dr ms i r (j + 1) l
def mkD (P : Program) (N : Nat) (dr : List Nat) (ops : Array Oper) (ms : List Nat) (i : Nat) (o : Oper) : Option DO :=
  match compD N o.dst, compG N ops o.guard, compO P o with
  | some d, some g, some q => some ⟨d, g, puOf o, stOf o, frOf dr o, (List.range i).reverse.map fun j => (ms.getD i 0).testBit j, usOf ms i 0 ops.toList, tsOf ops o, q, efOf dr o, rdOf dr ms i (ldOf o) 0 ops.toList, if efOf dr o = true then usE ms i 0 ops.toList else [], if efOf dr o = true then (dr.filter fun k => Nat.ble 3000000 k).map fun k => posF 63 (k - 3000000 + 1) else []⟩
  | _, _, _ => none
def mkL (P : Program) (N : Nat) (dr : List Nat) (ops : Array Oper) (ms : List Nat) : Nat → List Oper → Option (List DO)
  | _, [] => some []
  | i, o :: l => match mkD P N dr ops ms i o, mkL P N dr ops ms (i + 1) l with
    | some d, some m => some (d :: m)
    | _, _ => none

def anB (D : List DO) (i j : Nat) : Bool := Nat.blt j i && (D.getD i default).an.getD (i - 1 - j) false
def chkDr (ops : Array Oper) (D : List DO) : Bool :=
  let n := ops.size
  (List.range n).all fun i =>
    (match ops[i]? with
      | some o => (o.after.toList.all fun e => !Region.binds .any e || Nat.blt e.on i) &&
          (List.range i).all fun j => !anB D i j || o.after.toList.any fun e => Region.binds .any e && (Nat.beq e.on j || anB D e.on j)
      | none => true) &&
    ((List.range n).all fun j => Nat.beq i j || (match (D.getD i default).dst with | some p => decide ((D.getD j default).dst ≠ some p) | none => true)) &&
    ((List.range n).all fun j => Nat.beq i j || (match (D.getD j default).dst with | some p => !(D.getD i default).ts.contains p || anB D i j || anB D j i | none => true)) &&
    ((List.range n).all fun j => !Nat.blt i j || (D.getD i default).pu || (D.getD j default).st.all fun a => anB D j i || ((D.getD i default).us.contains a && (List.range n).all fun k => decide ((D.getD k default).dst ≠ some a))) &&
    ((List.range n).all fun j => !Nat.blt i j || (D.getD i default).pu || !(D.getD j default).ef || anB D j i || (!(D.getD i default).rd.isEmpty && (D.getD i default).rd.all fun a => (D.getD j default).nd.contains a && (List.range n).all fun k => Nat.blt k i || Nat.ble j k || decide ((D.getD k default).dst ≠ some a)))

def compDr (P : Program) (N : Nat) (dr : List Nat) (ops : Array Oper) : Option DR :=
  match mkL P N dr ops (masks ops.toList []) 0 ops.toList with
  | some l => if l.length = ops.size ∧ chkDr ops l = true then some l else none
  | none => none

theorem anB_iff (D : List DO) (i j : Nat) : anB D i j = true ↔ AN (fun i => D.getD i default) i j := by
  unfold anB AN bitL
  rw [Bool.and_eq_true, Nat.blt_eq]

theorem mkL_get {P : Program} {N : Nat} {dr : List Nat} {ops : Array Oper} {ms : List Nat} : ∀ (os : List Oper) (i : Nat) (l : List DO), mkL P N dr ops ms i os = some l → ∀ k o, os[k]? = some o →
    compD N o.dst = some (l.getD k default).dst ∧ compG N ops o.guard = some (l.getD k default).gd ∧ compO P o = some (l.getD k default).o
  | [], i, l, h, k, o, ho => by simp at ho
  | x :: os, i, l, h, k, o, ho => by
    rw [mkL] at h
    split at h
    case h_2 => cases h
    rename_i dd m h1 h2
    cases h
    cases k with
    | zero =>
      simp at ho
      subst ho
      unfold mkD at h1
      split at h1
      · rename_i a b c; cases h1; exact ⟨a, b, c⟩
      · cases h1
    | succ k => exact mkL_get os (i + 1) m h2 k o (by simpa using ho)

theorem chk_ok {P : Program} {N : Nat} {dr : List Nat} {ops : Array Oper} {l : DR} (h : compDr P N dr ops = some l) : DrawOK P N ops (fun i => l.getD i default) ∧ l.length = ops.size := by
  unfold compDr at h
  split at h
  case h_2 => cases h
  rename_i D hD
  split at h
  case isFalse => cases h
  rename_i hc
  cases h
  obtain ⟨hlen, hchk⟩ := hc
  refine ⟨?_, hlen⟩
  unfold chkDr at hchk
  dsimp only at hchk
  rw [List.all_eq_true] at hchk
  have C : ∀ i, i < ops.size → _ := fun i hi => hchk i (List.mem_range.2 hi)
  simp only [Bool.and_eq_true, List.all_eq_true, List.mem_range] at C
  refine ⟨fun i o ho => mkL_get ops.toList 0 l hD i o (by simpa using ho), fun i o ho e he hb => ?_, fun i o ho j hA => ?_, fun i j hi hj hne p hp => ?_, fun i j hi hj hne p hp hd => ?_, fun i j hij hj hpu a ha => ?_, fun i j hij hj hpu hef => ?_⟩
  · have hi : i < ops.size := (Array.getElem?_eq_some_iff.1 ho).1
    have c := (C i hi).1.1.1.1
    rw [ho] at c
    simp only [Bool.and_eq_true, List.all_eq_true] at c
    have := c.1 e he
    rw [hb] at this
    simpa [Nat.blt_eq] using this
  · have hi : i < ops.size := (Array.getElem?_eq_some_iff.1 ho).1
    have c := (C i hi).1.1.1.1
    rw [ho] at c
    simp only [Bool.and_eq_true, List.all_eq_true] at c
    have := c.2 j (List.mem_range.2 hA.1)
    rw [(anB_iff l i j).2 hA] at this
    simp only [Bool.not_true, Bool.false_or, List.any_eq_true, Bool.and_eq_true, Bool.or_eq_true] at this
    obtain ⟨e, he, hb, h1 | h1⟩ := this
    · exact ⟨e, he, hb, .inl (by simpa [Nat.beq_eq] using h1)⟩
    · exact ⟨e, he, hb, .inr ((anB_iff l _ _).1 h1)⟩
  · have c := (C i hi).1.1.1.2 j hj
    rw [hp] at c
    have hb : Nat.beq i j = false := by
      cases hx : Nat.beq i j
      · rfl
      · rw [Nat.beq_eq] at hx; exact absurd hx hne
    rw [hb] at c
    simpa using c
  · have c := (C i hi).1.1.2 j hj
    rw [hd] at c
    have hb : Nat.beq i j = false := by
      cases hx : Nat.beq i j
      · rfl
      · rw [Nat.beq_eq] at hx; exact absurd hx.symm hne
    rw [hb] at c
    simp only [Bool.false_or, Bool.or_eq_true] at c
    rcases c with (c | c) | c
    · have : (l.getD i default).ts.contains p = true := List.elem_eq_true_of_mem hp
      rw [this] at c; cases c
    · exact .inl ((anB_iff l _ _).1 c)
    · exact .inr ((anB_iff l _ _).1 c)
  · have c := (C i (by omega)).1.2 j hj
    have hb : Nat.blt i j = true := by rw [Nat.blt_eq]; exact hij
    have hpu : (l.getD i default).pu = false := hpu
    rw [hb, hpu] at c
    simp only [Bool.not_true, Bool.false_or, Bool.or_eq_true, Bool.and_eq_true, List.all_eq_true, List.mem_range, decide_eq_true_eq] at c
    rcases c a ha with c | ⟨c1, c2⟩
    · exact .inl ((anB_iff l _ _).1 c)
    · exact .inr ⟨List.mem_of_elem_eq_true c1, c2⟩
  · have c := (C i (by omega)).2 j hj
    have hb : Nat.blt i j = true := by rw [Nat.blt_eq]; exact hij
    have hpu : (l.getD i default).pu = false := hpu
    have hef : (l.getD j default).ef = true := hef
    rw [hb, hpu, hef] at c
    simp only [Bool.not_true, Bool.false_or, Bool.or_eq_true, Bool.and_eq_true, List.all_eq_true, List.mem_range, decide_eq_true_eq, Bool.not_eq_true', List.isEmpty_eq_false_iff, Nat.blt_eq, Nat.ble_eq] at c
    rcases c with c | ⟨c1, c2⟩
    · exact .inl ((anB_iff l _ _).1 c)
    · refine .inr ⟨c1, fun a ha => ⟨List.mem_of_elem_eq_true (c2 a ha).1, fun k h1 h2 => ?_⟩⟩
      rcases (c2 a ha).2 k (by omega) with (c3 | c3) | c3
      · omega
      · omega
      · exact c3

theorem draw_sound {ro : Option Nat} {P : Program} (hP : P.follows .mixedOrders = true) {F : FF} (hF : FOK P F) (hM : F.mono) {N : Nat} {dr : List Nat} {id : Nat} {ops : Array Oper} {r : DR} (hr : compDr P N dr ops = some r)
    {lim : Nat} {e : Tr} {h : Hp} {n : Nat} {e' : Tr} {h' : Hp} {n' : Nat} (hev : evDr r F lim e h n = .ok e' h' n') {a : Act} {g : Sig} {w : World} (he : EnvA N g e a) (m : Mem g h.get w) (hd : Dom h.get n) (hf : Fresh g n n') (hn : n' < 9223372036854775808) :
    (Code.region id ops true).wpIn (fw ro) 0 P (fun ex a' w' => ex = .normal ∧ MkK w a w' a' ∧ ∃ g', EnvA N g' e' a' ∧ Mem g' h'.get w' ∧ Fr lim n g h.get w n' g' h'.get w') a w := by
  unfold evDr at hev
  split at hev
  case isFalse => cases hev
  rename_i hlim
  obtain ⟨hok, hlen⟩ := chk_ok hr
  obtain ⟨v, d, ns, _, h0, hst, rfl, rfl, rfl⟩ := trace (F := F) (lim := lim) (S := h) (e0 := e) (l := r) r.length 0 (fun _ => .bad) (fun _ => .nil) (fun _ => n) (by omega) hev
  have h0 : ns 0 = n := h0 0 (by omega)
  rw [hlen] at hst hf hn ⊢
  have hst : ∀ i, i < ops.size → stepD (r.getD i default) F lim (accS d i) (envS e (fun i => r.getD i default) v i) h (ns i) = .ok (v i) (d i) (ns (i + 1)) := fun i hi => hst i (by omega) (by omega)
  have W : Worked P N ops (fun i => r.getD i default) F lim e h v d ns := ⟨hok, hst, fun i hi => stepD_ge hM (hst i hi), by omega, by omega, hn, fun p b hp => by rw [h0]; exact hd p b hp⟩
  refine wpIn_region_any hP (walk_any (Df := a.defers) hF W (g0 := g) (w0 := w) (fun g' a' w' I => ?_) ops.size _ a g w.drew (by simp) (by simp [unl_rep]) ?_)
  · have heq : hLf d (fun i => i < ops.size) (fun p => h.get p) ops.size = fun p => (appAll (accS d ops.size) h).get p := by
      funext p
      rw [appAll_get]
      exact hLf_congr ops.size fun j hj => ⟨fun hc => ⟨trivial, hc.2⟩, fun hc => ⟨hj, hc.2⟩⟩
    have hfr : Fr lim n g h.get w (ns ops.size) g' (appAll (accS d ops.size) h).get w' := by
      have := I.fr
      rw [h0, heq] at this
      exact this
    refine ⟨rfl, mk_keep m hfr I.ds, g', ⟨I.sz, I.glo, fun t ht => ?_⟩, heq ▸ I.mem, ?_⟩
    · by_cases hex : ∃ j, j < ops.size ∧ (r.getD j default).dst = some (tp t)
      · obtain ⟨j, hj, hdst⟩ := hex
        rw [envS_at e (fun i => r.getD i default) v ops.size j hj hdst (fun k hk hkj => hok.k2 j k hj hk (Ne.symm hkj) _ hdst)]
        exact I.done j hj hj t ht hdst
      · rw [envS_other e (fun i => r.getD i default) v ops.size (fun j hj e => hex ⟨j, hj, e⟩)]
        exact I.old t ht fun i hi _ e => hex ⟨i, hi, e⟩
    · have := I.fr
      rw [h0, heq] at this
      exact this
  · have hno : ∀ i, ¬ LS (Array.replicate ops.size false) i := by
      intro i hi
      unfold LS at hi
      rw [Array.getElem?_replicate] at hi
      split at hi <;> simp at hi
    have heq : hLf d (LS (Array.replicate ops.size false)) (fun p => h.get p) ops.size = fun p => h.get p := by
      funext p
      have : ∀ k, hLf d (LS (Array.replicate ops.size false)) (fun p => h.get p) k p = h.get p := by
        intro k
        induction k with
        | zero => rfl
        | succ k ih => rw [hLf_neg (fun hc => hno k hc.1), ih]
      exact this _
    refine ⟨rfl, he.sz, he.glo, fun i _ hL => absurd hL (hno i), fun t ht _ => he.rel t ht, by rw [heq]; exact m.drew, ?_, fun i hi _ => ?_, fun i j hL _ => absurd hL (hno i)⟩
    · rw [heq, h0]
      have hle : n ≤ ns ops.size := by have := W.le ops.size (Nat.le_refl _) 0 (by omega); omega
      exact ⟨hle, rfl, rfl, rfl, Nat.le_refl _, fun _ _ _ => rfl, fun _ _ => rfl, fun p b hp => ⟨fun _ => ⟨b, hp⟩, by have := hd p b hp; omega⟩, fun p r base tot h1 h2 hg => by rw [hf p h1 h2] at hg; cases hg⟩
    · have := W.le i (by omega) 0 (by omega)
      have := W.le ops.size (Nat.le_refl _) (i + 1) (by omega)
      exact hf.sub (by omega) (by omega)
end Go.Proofs.Ytpgmibbienhikaa.Ev
