/- The evaluator's operations on strings, and copy; the model answers so. -/
import Derived.Test.YtjhgingmbklhaaaEvK
import Derived.Laws.Concat
import Derived.Laws.CopyRow
import Derived.Laws.Cover1
import Derived.Laws.IdiomStrings
import Derived.Laws.Slices
import Derived.Laws.Strings
import Derived.Laws.Strings2
namespace Go.Proofs.Ytjhgingmbklhaaa.Ev
set_option linter.unusedVariables false
open Go

noncomputable def onStr {β : Type} (v : V) (f : List Nat → β) (z : β) : β := RV'.rec (motive := fun _ => β) z f v.asStr
theorem onStr_or {β : Type} (v : V) (f : List Nat → β) (z : β) : (∃ a, v = .s a ∧ onStr v f z = f a) ∨ onStr v f z = z := by
  cases v <;> first | exact .inl ⟨_, rfl, rfl⟩ | exact .inr rfl

/-- The string of some bytes. -/
def bstr (l : List Nat) : ByteArray := ⟨⟨l.map UInt8.ofNat⟩⟩
theorem bstr_size (l : List Nat) : (bstr l).size = l.length := by simp [bstr, ByteArray.size]
theorem bstr_toList (l : List Nat) : (bstr l).toList = l.map UInt8.ofNat := by
  rw [ByteArray.toList_eq]
  rfl
theorem bstr_app (l m : List Nat) : bstr l ++ bstr m = bstr (l ++ m) := by
  apply ByteArray.ext
  simp [bstr]
theorem rel_s {g : Sig} {l : List Nat} {u : Value} (h : (V.s l).rel g u) : u = .string (bstr l) := h

noncomputable def nthS : List Nat → Nat → V :=
  List.rec (motive := fun _ => Nat → V) (fun _ => .bad) fun b _ ih j => Nat.rec (motive := fun _ => V) (fN (Nat.mod b 256) fun b => .i .u8 (.ofNat b)) (fun j _ => ih j) j
theorem nthS_eq : ∀ (l : List Nat) (j : Nat), nthS l j = match l[j]? with | some b => .i .u8 (Int.ofNat (b % 256)) | none => .bad
  | [], j => by simp; rfl
  | b :: l, 0 => by
    show fN (b % 256) (fun b => V.i .u8 (.ofNat b)) = _
    rw [fN_eq]; rfl
  | b :: l, j + 1 => by
    show nthS l j = _
    rw [nthS_eq l j]; simp

noncomputable def eqS : List Nat → List Nat → Bool :=
  List.rec (motive := fun _ => List Nat → Bool) (fun m => List.rec (motive := fun _ => Bool) true (fun _ _ _ => false) m)
    fun a _ ih m => List.rec (motive := fun _ => Bool) false (fun b l _ => Bool.rec false (ih l) (Nat.beq (Nat.mod a 256) (Nat.mod b 256))) m
theorem ofNat_eq (a b : Nat) : (UInt8.ofNat a == UInt8.ofNat b) = Nat.beq (a % 256) (b % 256) := by
  rw [Bool.eq_iff_iff, beq_iff_eq, Nat.beq_eq]
  constructor
  · intro h; have := congrArg UInt8.toNat h; simpa using this
  · intro h; apply UInt8.toNat_inj.1; simpa using h
theorem eqS_eq : ∀ (l m : List Nat), eqS l m = (l.map UInt8.ofNat == m.map UInt8.ofNat)
  | [], [] => rfl
  | [], b :: m => rfl
  | a :: l, [] => rfl
  | a :: l, b :: m => by
    show (Bool.rec false (eqS l m) (Nat.beq (a % 256) (b % 256)) : Bool) = _
    rw [eqS_eq l m, ← ofNat_eq]
    simp only [List.map_cons]
    show _ = ((UInt8.ofNat a == UInt8.ofNat b) && (l.map UInt8.ofNat == m.map UInt8.ofNat))
    cases (UInt8.ofNat a == UInt8.ofNat b) <;> rfl
noncomputable def ltS : List Nat → List Nat → Bool :=
  List.rec (motive := fun _ => List Nat → Bool) (fun m => List.rec (motive := fun _ => Bool) false (fun _ _ _ => true) m)
    fun a _ ih m => List.rec (motive := fun _ => Bool) false (fun b l _ => Bool.rec (Bool.rec false (ih l) (Nat.beq (Nat.mod a 256) (Nat.mod b 256))) true (Nat.blt (Nat.mod a 256) (Nat.mod b 256))) m
theorem ofNat_lt (a b : Nat) : decide (UInt8.ofNat a < UInt8.ofNat b) = Nat.blt (a % 256) (b % 256) := by
  rw [Bool.eq_iff_iff, decide_eq_true_eq, Nat.blt_eq, UInt8.lt_iff_toNat_lt]
  simp
theorem ltS_eq : ∀ (l m : List Nat), ltS l m = Op.bytesLess (l.map UInt8.ofNat) (m.map UInt8.ofNat)
  | [], [] => rfl
  | [], b :: m => rfl
  | a :: l, [] => rfl
  | a :: l, b :: m => by
    show (Bool.rec (Bool.rec false (ltS l m) (Nat.beq (a % 256) (b % 256))) true (Nat.blt (a % 256) (b % 256)) : Bool) = _
    rw [ltS_eq l m, ← ofNat_eq, ← ofNat_lt]
    simp only [List.map_cons, Op.bytesLess]
    cases decide (UInt8.ofNat a < UInt8.ofNat b) <;> cases (UInt8.ofNat a == UInt8.ofNat b) <;> simp

section
variable {P : Program} {o : Oper}

noncomputable def evSlen (x : X) (e : Tr) (_ : Nat) (h : Hp) (n : Nat) : Res := pv (onStr (evX x e) (fun l => small l.length .bad) .bad) h n
theorem ok_slen {t : TypeId} {ox : Operand} {x : X} (hx : compX ox = some x) (ht : P.underlying t = some .string) (ho : o.op = .call { callee := .builtin .len, args := #[ox], argTypes := #[t] }) : OpOK P o (evSlen x) :=
  ok_pure (val := fun e => onStr (evX x e) (fun l => small l.length .bad) .bad) fun e g ρ w he hne => by
    have rx := he ox x hx
    rcases onStr_or (evX x e) (fun l => small l.length .bad) .bad with ⟨l, h1, h2⟩ | h2
    · rw [h2] at hne ⊢
      rw [h1] at rx
      have hv := rel_s rx
      rcases small_or l.length .bad with ⟨hc, e1⟩ | e1
      · rw [e1]
        have hrun := run_len_string (P := P) w t o.type (bstr l) ht
        rw [bstr_size] at hrun
        refine ⟨.int .i64 l.length, ?_, rel_n g hc rfl⟩
        simp [execOp, ho, resolve, invoke, builtin, hv, hrun, goInt]
      · rw [e1] at hne; exact absurd rfl hne
    · rw [h2] at hne; exact absurd rfl hne

noncomputable def evSix (x i : X) (e : Tr) (_ : Nat) (h : Hp) (n : Nat) : Res := pv (onStr (evX x e) (fun l => onI (evX i e) (fun j => nthS l j) .bad) .bad) h n
theorem ok_six {t : TypeId} {ox oi : Operand} {x i : X} (hx : compX ox = some x) (hi : compX oi = some i) (ht : P.underlying t = some .string) (ho : o.op = .index t ox oi) : OpOK P o (evSix x i) :=
  ok_pure (val := fun e => onStr (evX x e) (fun l => onI (evX i e) (fun j => nthS l j) .bad) .bad) fun e g ρ w he hne => by
    have rx := he ox x hx
    have ri := he oi i hi
    rcases onStr_or (evX x e) (fun l => onI (evX i e) (fun j => nthS l j) .bad) .bad with ⟨l, h1, h2⟩ | h2
    · rw [h2] at hne ⊢
      rw [h1] at rx
      have hv := rel_s rx
      rcases onI_or ri (fun j => nthS l j) .bad with ⟨j, k, h3, h4⟩ | h4
      · rw [h4, nthS_eq] at hne ⊢
        have hlt : j < l.length := by
          rcases Nat.lt_or_ge j l.length with h | h
          · exact h
          · rw [List.getElem?_eq_none h] at hne; exact absurd rfl hne
        rw [List.getElem?_eq_getElem hlt]
        have hrun := run_index_string (P := P) w t (bstr l) k (j : Int) ht
        rw [dif_pos ⟨by omega, by rw [bstr_size]; omega⟩] at hrun
        refine ⟨.int .u8 (Int.ofNat (l[j] % 256)), ?_, rfl⟩
        have e2 : ((bstr l)[((j : Int)).toNat]'(by rw [bstr_size]; omega)).toNat = l[j] % 256 := by
          show (((bstr l).data[((j : Int)).toNat]'_).toNat) = _
          simp [bstr]
        rw [e2] at hrun
        simp only [execOp, ho, hv, h3, Sem.run_bind, hrun, Result.andThen_ok, Sem.run_pure]
        rfl
      · rw [h4] at hne; exact absurd rfl hne
    · rw [h2] at hne; exact absurd rfl hne

noncomputable def negB (b : Bool) : V := Bool.rec (.b true) (.b false) b
theorem negB_eq (b : Bool) : negB b = .b !b := by cases b <;> rfl
noncomputable def strV (op : BinOp) (l m : List Nat) : V :=
  match op with
  | .add => Bool.rec .bad (.s (l ++ m)) (Nat.ble (Nat.add l.length m.length) 9223372036854775807)
  | .eql => fB (eqS l m)
  | .neq => negB (eqS l m)
  | .lss => fB (ltS l m)
  | .leq => fB (or (ltS l m) (eqS l m))
  | .gtr => negB (or (ltS l m) (eqS l m))
  | .geq => negB (ltS l m)
  | _ => .bad
noncomputable def evSbi (op : BinOp) (x y : X) (e : Tr) (_ : Nat) (h : Hp) (n : Nat) : Res := pv (onStr (evX x e) (fun l => onStr (evX y e) (fun m => strV op l m) .bad) .bad) h n
theorem ok_sbi {op : BinOp} {t t' : TypeId} {ox oy : Operand} {x y : X} (hx : compX ox = some x) (hy : compX oy = some y) (ho : o.op = .binOp op t ox oy t') : OpOK P o (evSbi op x y) :=
  ok_pure (val := fun e => onStr (evX x e) (fun l => onStr (evX y e) (fun m => strV op l m) .bad) .bad) fun e g ρ w he hne => by
    have rx := he ox x hx
    have ry := he oy y hy
    rcases onStr_or (evX x e) (fun l => onStr (evX y e) (fun m => strV op l m) .bad) .bad with ⟨l, h1, h2⟩ | h2
    · rw [h2] at hne ⊢
      rw [h1] at rx
      have hv := rel_s rx
      rcases onStr_or (evX y e) (fun m => strV op l m) .bad with ⟨m, h3, h4⟩ | h4
      · rw [h4] at hne ⊢
        rw [h3] at ry
        have hu := rel_s ry
        have key : ∃ u, (binOp op t (.string (bstr l)) (.string (bstr m))).run P w = .ok u w ∧ (strV op l m).rel g u := by
          cases op
          case add =>
            simp only [strV] at hne ⊢
            cases hb : Nat.ble (Nat.add l.length m.length) 9223372036854775807
            · rw [hb] at hne; exact absurd rfl hne
            · rw [Nat.ble_eq] at hb
              refine ⟨_, by rw [binOp_string_add]; exact run_string_add_sum w (bstr l) (bstr m) (by rw [bstr_size, bstr_size]; exact hb), ?_⟩
              rw [bstr_app]; rfl
          case eql => exact ⟨_, by rw [binOp_string_eql]; rfl, by simp only [strV]; rw [fB_eq, eqS_eq, bstr_toList, bstr_toList]; rfl⟩
          case neq => exact ⟨_, by rw [binOp_string_neq]; rfl, by simp only [strV]; rw [negB_eq, eqS_eq, bstr_toList, bstr_toList]; rfl⟩
          case lss => exact ⟨_, by rw [binOp_string_lss]; rfl, by simp only [strV]; rw [fB_eq, ltS_eq, bstr_toList, bstr_toList]; rfl⟩
          case leq => exact ⟨_, by rw [binOp_string_leq]; rfl, by simp only [strV]; rw [fB_eq, ltS_eq, eqS_eq, bstr_toList, bstr_toList]; rfl⟩
          case gtr => exact ⟨_, by rw [binOp_string_gtr]; rfl, by simp only [strV]; rw [negB_eq, ltS_eq, eqS_eq, bstr_toList, bstr_toList]; rfl⟩
          case geq => exact ⟨_, by rw [binOp_string_geq]; rfl, by simp only [strV]; rw [negB_eq, ltS_eq, bstr_toList, bstr_toList]; rfl⟩
          all_goals exact absurd rfl hne
        obtain ⟨u, r1, r2⟩ := key
        exact ⟨u, by simp [execOp, ho, hv, hu, eqGuard_at_string, r1], r2⟩
      · rw [h4] at hne; exact absurd rfl hne
    · rw [h2] at hne; exact absurd rfl hne

/-- A bound, of any kind of number. -/
noncomputable def onOI (xo : Option X) (e : Tr) (d : Nat) (k : Nat → V) : V := Option.rec (k d) (fun x => onI (evX x e) k .bad) xo
theorem onOI_or {g : Sig} {e : Tr} {ρ : Operand → Value} (he : EnvOK g e ρ) {oo : Option Operand} {xo : Option X} (hx : compXO oo = some xo) (d : Nat) (k : Nat → V) :
    (∃ (a : Nat) (kd : IntKind), oo.map ρ = (oo.map fun _ => Value.int kd (a : Int)) ∧ (oo = none → a = d) ∧ onOI xo e d k = k a) ∨ onOI xo e d k = .bad := by
  cases oo with
  | none =>
    simp [compXO] at hx
    subst hx
    exact .inl ⟨d, .i64, rfl, fun _ => rfl, rfl⟩
  | some o =>
    simp only [compXO, Option.map_eq_some_iff] at hx
    obtain ⟨x, h1, rfl⟩ := hx
    rcases onI_or (he o x h1) k .bad with ⟨a, kd, h2, h3⟩ | h3
    · exact .inl ⟨a, kd, by simp [h2], by simp, h3⟩
    · exact .inr h3
theorem run_boundsK (w : World) (len : Nat) (ol oh : Option Operand) (kl kh : IntKind) (l h : Nat) (hl : ol = none → l = 0) (hh : oh = none → h = len) (c1 : l ≤ h) (c2 : h ≤ len) :
    (Instr.sliceBounds false len len (ol.map fun _ => Value.int kl (l : Int)) (oh.map fun _ => Value.int kh (h : Int)) none).run P w = .ok (l, h, len) w := by
  have s1 : ∀ (kd : IntKind) (k y : Nat) (c : BoundsCode), k ≤ y → (Instr.sliceBound (Value.int kd (k : Int)) y c).run P w = .ok k w := by
    intro kd k y c hk
    have := run_sliceBound (P := P) w kd k y c (by omega) (by omega)
    simpa using this
  cases oh with
  | none =>
    have := hh rfl
    subst this
    cases ol with
    | none => have := hl rfl; subst this; simp [Instr.sliceBounds]
    | some _ => simp [Instr.sliceBounds, s1 kl l h _ c1]
  | some _ =>
    cases ol with
    | none => have := hl rfl; subst this; simp [Instr.sliceBounds, s1 kh h len _ c2]
    | some _ => simp [Instr.sliceBounds, s1 kh h len _ c2, s1 kl l h _ c1]
noncomputable def evSsl (x : X) (xl xh : Option X) (e : Tr) (_ : Nat) (h : Hp) (n : Nat) : Res :=
  pv (onStr (evX x e) (fun l => fN l.length fun len => onOI xl e 0 fun a => onOI xh e len fun b => Bool.rec .bad (.s ((l.drop a).take (b - a))) (and (Nat.ble a b) (Nat.ble b len))) .bad) h n
theorem ok_ssl {t : TypeId} {ox : Operand} {x : X} {ol oh : Option Operand} {xl xh : Option X} (hx : compX ox = some x) (hxl : compXO ol = some xl) (hxh : compXO oh = some xh) (ht : P.underlying t = some .string)
    (ho : o.op = .slice t ox ol oh none) : OpOK P o (evSsl x xl xh) :=
  ok_pure (val := fun e => onStr (evX x e) (fun l => fN l.length fun len => onOI xl e 0 fun a => onOI xh e len fun b => Bool.rec .bad (.s ((l.drop a).take (b - a))) (and (Nat.ble a b) (Nat.ble b len))) .bad) fun e g ρ w he hne => by
    have rx := he ox x hx
    rcases onStr_or (evX x e) (fun l => fN l.length fun len => onOI xl e 0 fun a => onOI xh e len fun b => (Bool.rec .bad (.s ((l.drop a).take (b - a))) (and (Nat.ble a b) (Nat.ble b len)) : V)) .bad with ⟨l, h1, h2⟩ | h2
    · rw [h2, fN_eq] at hne ⊢
      rw [h1] at rx
      have hv := rel_s rx
      rcases onOI_or he hxl 0 (fun a => onOI xh e l.length fun b => (Bool.rec .bad (.s ((l.drop a).take (b - a))) (and (Nat.ble a b) (Nat.ble b l.length)) : V)) with ⟨a, ka, l1, l2, l3⟩ | l3
      · rw [l3] at hne ⊢
        rcases onOI_or he hxh l.length (fun b => (Bool.rec .bad (.s ((l.drop a).take (b - a))) (and (Nat.ble a b) (Nat.ble b l.length)) : V)) with ⟨b, kb, m1, m2, m3⟩ | m3
        · rw [m3] at hne ⊢
          cases hb : and (Nat.ble a b) (Nat.ble b l.length)
          · rw [hb] at hne; exact absurd rfl hne
          · simp only [Bool.and_eq_true, Nat.ble_eq] at hb
            refine ⟨.string ((bstr l).extract a b), ?_, ?_⟩
            · have hbd := run_boundsK (P := P) w l.length ol oh ka kb a b l2 m2 hb.1 hb.2
              have hrun : (Instr.slice t (.string (bstr l)) (ol.map fun _ => Value.int ka (a : Int)) (oh.map fun _ => Value.int kb (b : Int)) none).run P w = .ok (.string ((bstr l).extract a b)) w := by
                have hbd' : (Instr.sliceBounds false (bstr l).size (bstr l).size (ol.map fun _ => Value.int ka (a : Int)) (oh.map fun _ => Value.int kb (b : Int)) none).run P w = .ok (a, b, l.length) w := by rw [bstr_size]; exact hbd
                simp [Instr.slice, run_underlying ht, hbd']
              simp only [execOp, ho, hv, Option.map_none, l1, m1]
              simp [run_sliceAt_string (P := P) w t _ _ _ _ ht, hrun]
            · show Value.string _ = .string (bstr _)
              unfold bstr
              congr 1
              have := ByteArray.extract_mk (l.map UInt8.ofNat) a b
              rw [show (⟨⟨l.map UInt8.ofNat⟩⟩ : ByteArray) = ByteArray.mk (l.map UInt8.ofNat).toArray from rfl, this]
              simp [List.map_take, List.map_drop]
        · rw [m3] at hne; exact absurd rfl hne
      · rw [l3] at hne; exact absurd rfl hne
    · rw [h2] at hne; exact absurd rfl hne

/-- The bytes that cells hold. -/
noncomputable def bytesL : L → Option (List Nat)
  | .nil => some []
  | .cons v l => match v with
    | .i .u8 (.ofNat b) => Bool.rec none ((bytesL l).map (b :: ·)) (Nat.blt b 256)
    | _ => none
theorem bytesL_rel {g : Sig} : ∀ {l : L} {vs : List Value} {bs : List Nat}, bytesL l = some bs → l.rel g vs → vs = (bs.map UInt8.ofNat).map fun b => Value.int .u8 b.toNat
  | .nil, vs, bs, h, hr => by
    rw [L.rel] at hr; subst hr
    simp [bytesL] at h; subst h; rfl
  | .cons v l, vs, bs, h, hr => by
    rw [L.rel] at hr
    obtain ⟨u, us, rfl, h2, h3⟩ := hr
    unfold bytesL at h
    split at h
    · rename_i b
      cases hb : Nat.blt b 256
      · rw [hb] at h; cases h
      · rw [hb] at h
        rw [Nat.blt_eq] at hb
        have h : (bytesL l).map (b :: ·) = some bs := h
        rw [Option.map_eq_some_iff] at h
        obtain ⟨bs', h4, rfl⟩ := h
        rw [bytesL_rel h4 h3]
        rw [V.rel] at h2
        subst h2
        simp [Nat.mod_eq_of_lt hb]
    · cases h

noncomputable def onOpt {α β : Type} (o : Option α) (f : α → β) (z : β) : β := Option.rec z f o
noncomputable def evB2s (x : X) (e : Tr) (_ : Nat) (h : Hp) (n : Nat) : Res :=
  pv (onS (evX x e) (fun a off esz len _ => Option.rec .bad (fun b => Bool.rec .bad (Option.rec .bad V.s (bytesL (b.getL off len))) (and (Nat.beq esz 1) (Nat.ble (Nat.add off len) b.size))) (h.get a)) (.s []) .bad) h n
theorem ok_b2s {s d el : TypeId} {ox : Operand} {x : X} (hx : compX ox = some x) (hs : P.underlying s = some (.slice el)) (he' : P.underlying el = some (.int .u8)) (hd' : P.underlying d = some .string) (ho : o.op = .convert s d ox) : OpOK P o (evB2s x) := by
  intro e lim h n v h' n' hr ρ g w he m hd _ _
  have rx := he ox x hx
  unfold evB2s at hr
  obtain ⟨hne, hv0, hh0, hn0⟩ := pv_ok hr
  clear hr
  rw [hh0, hn0, hv0]
  clear hh0 hn0 hv0
  rcases onS_or (evX x e) (fun a off esz len (_ : Option Nat) => (Option.rec .bad (fun b => Bool.rec .bad (Option.rec .bad V.s (bytesL (b.getL off len))) (and (Nat.beq esz 1) (Nat.ble (Nat.add off len) b.size))) (h.get a) : V)) (.s []) .bad with ⟨a, off, esz, len, c, h1, h2⟩ | ⟨h1, h2⟩ | h2
  · rw [h2] at hne ⊢
    rw [h1, V.rel] at rx
    obtain ⟨r, base, tot, c', o', hg, hv, hesz, hlc, hcm, ho', _⟩ := rx
    cases hh : h.get a with
    | none => rw [hh] at hne; exact absurd rfl hne
    | some b =>
      rw [hh] at hne
      dsimp only at hne ⊢
      cases hb : and (Nat.beq esz 1) (Nat.ble (Nat.add off len) b.size)
      · rw [hb] at hne; exact absurd rfl hne
      · rw [hb] at hne
        dsimp only at hne ⊢
        simp only [Bool.and_eq_true, Nat.beq_eq, Nat.ble_eq] at hb
        obtain ⟨rfl, hb⟩ := hb
        have hb : off + len ≤ b.size := hb
        cases hy : bytesL (b.getL off len) with
        | none => rw [hy] at hne; exact absurd rfl hne
        | some bs =>
          dsimp only
          obtain ⟨vs, c1, c2, c3⟩ := getL_rel' m hh hg len off o' len hb (fun hl => ho' (by omega))
          have c4 := bytesL_rel hy c2
          refine ⟨.value (.string (bstr bs)), g, w, ?_, rfl, m, Fr.refl hd⟩
          have hl : (bs.map UInt8.ofNat).length = len := by rw [c4] at c1; simpa using c1
          have hrun := run_convert_bytes_back (P := P) w s d el ⟨r, o', none⟩ c' (bs.map UInt8.ofNat) hs he' hd' (fun j hj => c3 j _ (by
            rw [c4, List.getElem?_eq_getElem (by simpa using hj)]; simp))
          rw [hl] at hrun
          simp only [execOp, ho, hv, Sem.run_bind, hrun, Result.andThen_ok, Sem.run_pure]
          rfl
  · rw [h2] at hne ⊢
    rw [h1, V.rel] at rx
    refine ⟨.value (.string (bstr [])), g, w, ?_, rfl, m, Fr.refl hd⟩
    simp [execOp, ho, rx, run_convert_bytes_string w s d el none 0 0 hs he' hd', Conv.bytesToString]
    rfl
  · rw [h2] at hne; exact absurd rfl hne

noncomputable def byteL : List Nat → L := List.rec .nil fun b _ ih => fN (Nat.mod b 256) fun b => .cons (.i .u8 (.ofNat b)) ih
theorem byteL_len : ∀ l, (byteL l).length = l.length
  | [] => rfl
  | b :: l => by
    show (fN (b % 256) fun b => L.cons (.i .u8 (.ofNat b)) (byteL l)).length = _
    rw [fN_eq]; simp [L.length, byteL_len l]
theorem byteL_allC : ∀ l, (byteL l).allC = true
  | [] => rfl
  | b :: l => by
    show (fN (b % 256) fun b => L.cons (.i .u8 (.ofNat b)) (byteL l)).allC = _
    rw [fN_eq]; simp [L.allC, V.isC, byteL_allC l]
theorem byteL_rel (g : Sig) : ∀ l, (byteL l).rel g ((l.map UInt8.ofNat).map fun b => Value.int .u8 b.toNat)
  | [] => rfl
  | b :: l => by
    show (fN (b % 256) fun b => L.cons (.i .u8 (.ofNat b)) (byteL l)).rel g _
    rw [fN_eq]
    refine ⟨_, _, rfl, ?_, byteL_rel g l⟩
    rw [V.rel]; simp
noncomputable def evS2b (el : TypeId) (x : X) (e : Tr) (_ : Nat) (h : Hp) (n : Nat) : Res :=
  onStr (evX x e) (fun l => fN l.length fun k => Bool.rec .no (newB ⟨el, k, k, byteL l, .lf⟩ (fun p => .sl p 0 1 k none) h n) (Nat.ble k 1099511627776)) .no
theorem ok_s2b {s d el : TypeId} {ox : Operand} {x : X} (hx : compX ox = some x) (hs : P.underlying s = some .string) (he' : P.underlying el = some (.int .u8)) (hd' : P.underlying d = some (.slice el)) (ho : o.op = .convert s d ox) : OpOK P o (evS2b el x) := by
  intro e lim h n v h' n' hr ρ g w he m hd hf hn
  have rx := he ox x hx
  unfold evS2b at hr
  rcases onStr_or (evX x e) (fun l => fN l.length fun k => (Bool.rec .no (newB ⟨el, k, k, byteL l, .lf⟩ (fun p => .sl p 0 1 k none) h n) (Nat.ble k 1099511627776) : Res)) .no with ⟨l, h1, h2⟩ | h2
  · rw [h2, fN_eq] at hr
    rw [h1] at rx
    have hv := rel_s rx
    cases hb : Nat.ble l.length 1099511627776
    · rw [hb] at hr; cases hr
    · rw [hb] at hr
      have hr : newB ⟨el, l.length, l.length, byteL l, .lf⟩ (fun p => .sl p 0 1 l.length none) h n = .ok v h' n' := hr
      rw [Nat.ble_eq] at hb
      have hrun := run_bytes_of_string (P := P) w s d el (bstr l) hs hd' he'
      rw [bstr_size] at hrun
      generalize hcap : grownCap w l.length 0 el = cap at hrun
      have hge : l.length ≤ cap := by rw [← hcap]; exact grownCap_ge w _ _ _
      have hle : cap ≤ maxLen := by rw [← hcap]; exact grownCap_le_maxLen w _ _ _ (by unfold maxLen; omega)
      have hbs : (bytesRow (bstr l) cap).size = cap := by
        simp only [bytesRow, bstr_size, Array.size_append, Array.size_map, Array.size_replicate]
        have : (bstr l).data.size = l.length := bstr_size l
        omega
      rw [hbs] at hrun
      have hget : ∀ j, j < l.length → (bytesRow (bstr l) cap)[j]? = ((l.map UInt8.ofNat).map fun b => Value.int .u8 b.toNat)[j]? := by
        intro j hj
        have e1 : ((bstr l).data.map fun b => Value.int .u8 b.toNat).size = l.length := by simp [bstr]
        unfold bytesRow
        rw [Array.getElem?_append_left (by rw [e1]; exact hj)]
        simp [bstr]
      obtain ⟨p, g', hle', hg', rfl, m', f'⟩ := newB_soundF (lim := lim) hr m.drew hd hf hn (bytesRow (bstr l) cap) (by rw [hbs]; exact hge) (by show l.length ≤ _; unfold maxSize; exact hb)
        (fun j hj => by
          have hj' : j < l.length := hj
          obtain ⟨u, c1, c2, c3⟩ := cell_list (byteL_rel g l) (byteL_allC l) el j (by rw [byteL_len]; exact hj')
          rw [byteL_len] at c3
          refine ⟨u, ?_, c2, c3⟩
          rw [hget j hj', ← c1]; simp) (cap, cap + 1) (fun k hk hc => by rw [hbs] at hk; have := hc.1; simp at this; omega)
      refine ⟨.value (.slice (some ⟨w.heap.size, 0, none⟩) l.length cap), g', _, ?_, ?_, m', (Fr.drew hd).trans f'⟩
      · simp only [execOp, ho, hv, Sem.run_bind, hrun, Result.andThen_ok, Sem.run_pure]
      · refine ⟨_, _, _, cap, 0, hg', rfl, by omega, hge, hle, fun _ => rfl, ?_, ?_⟩
        · show 0 + 0 + cap * 1 ≤ (bytesRow (bstr l) cap).size
          rw [hbs]; omega
        · show 0 + 0 + cap * 1 = (bytesRow (bstr l) cap).size
          rw [hbs]; omega
  · rw [h2] at hr; cases hr

/-- copy: as many cells as the shorter one has. -/
noncomputable def evCpy (x y : X) (e : Tr) (lim : Nat) (h : Hp) (n : Nat) : Res :=
  onS (evX x e) (fun a off esz len _ => onS (evX y e) (fun a' off' esz' len' _ => Option.rec .no (fun b => Option.rec .no (fun b' => fN (Bool.rec len' len (Nat.ble len len')) fun k =>
      Bool.rec .no (h.putK (some (b.setL off (b'.getL off' k))) a fun h' => .ok (.n k) h' n)
        (and (Nat.beq esz 1) (and (Nat.beq esz' 1) (and (Nat.ble (Nat.add off k) b.size) (and (Nat.ble (Nat.add off' k) b'.size) (and ((b'.getL off' k).allC) (Nat.ble lim a.num))))))) (h.get a')) (h.get a)) (.ok (.n 0) h n) .no)
    (onS (evX y e) (fun _ _ _ _ _ => .ok (.n 0) h n) (.ok (.n 0) h n) .no) .no
theorem run_copy_two {t t' ty el : TypeId} {i : TypeInfo} (ht : P.underlying t = some (.slice el)) (hi : P.info? el = some i) (h1 : i.size = 1) (w w' : World) (A B : Option Addr) (len cap len' cap' : Nat) (cs : List Value)
    (hB : (match B with | some b => ∀ j v, cs[j]? = some v → w.cell? (b.add j) = some v | none => cs = [])) (hk : cs.length = Nat.min len' len)
    (hs : (match A with | some a => (storeCells a cs).run P w = .ok () w' | none => w' = w)) :
    (Builtin.copy_ #[t, t'] ty #[.slice A len cap, .slice B len' cap']).run P w = .ok (goInt cs.length) w' := by
  have hl : (Builtin.firstCells i.size (Nat.min len' len) (.slice B len' cap')).run P w = .ok cs.toArray w := by
    cases B with
    | none =>
      have hB : cs = [] := hB
      subst hB; simp [Builtin.firstCells]
    | some b => rw [h1]; simp [Builtin.firstCells, ← hk, run_loadCells_list (P := P) w b cs hB]
  cases A with
  | none =>
    have hs : w' = w := hs
    subst hs
    simp [Builtin.copy_, run_underlying ht, Builtin.lenOf, sizeOf, typeInfo, hi, hl, hk]
  | some a =>
    have hs : (storeCells a cs).run P w = .ok () w' := hs
    simp [Builtin.copy_, run_underlying ht, Builtin.lenOf, sizeOf, typeInfo, hi, hl, hk, hs]
theorem ok_cpy {t t' el : TypeId} {ox oy : Operand} {x y : X} {i : TypeInfo} (hx : compX ox = some x) (hy : compX oy = some y) (ht : P.underlying t = some (.slice el)) (hi : P.info? el = some i) (h1 : i.size = 1)
    (ho : o.op = .call { callee := .builtin .copy, args := #[ox, oy], argTypes := #[t, t'] }) : OpOK P o (evCpy x y) := by
  intro e lim h n v h' n' hr ρ g w he m hd hf hn
  have rx := he ox x hx
  have ry := he oy y hy
  have hex : ∀ (k : Nat) (w' : World), (Builtin.copy_ #[t, t'] o.type #[ρ ox, ρ oy]).run P w = .ok (goInt k) w' → (execOp ρ o).run P w = .ok (.value (.int .i64 k)) w' := by
    intro k w' hr
    simp [execOp, ho, resolve, invoke, builtin, hr, goInt]
  have zero : V.rel g (.n 0) (.int .i64 ((0 : Nat) : Int)) := rel_n g (by omega) rfl
  unfold evCpy at hr
  cases hvx : evX x e
  case sl a off esz len c =>
    rw [hvx] at hr rx
    rw [V.rel] at rx
    obtain ⟨r, base, tot, c1, o1, hg, hv, hesz, hlc, hcm, ho1, _⟩ := rx
    cases hvy : evX y e
    case sl a' off' esz' len' c' =>
      rw [hvy] at hr ry
      rw [V.rel] at ry
      obtain ⟨r', base', tot', c2, o2, hg', hv', hesz', hlc', hcm', ho2, _⟩ := ry
      replace hr : (Option.rec .no (fun b => Option.rec .no (fun b' => fN (Bool.rec len' len (Nat.ble len len')) fun k =>
        Bool.rec .no (h.putK (some (b.setL off (b'.getL off' k))) a fun h' => .ok (.n k) h' n)
        (and (Nat.beq esz 1) (and (Nat.beq esz' 1) (and (Nat.ble (Nat.add off k) b.size) (and (Nat.ble (Nat.add off' k) b'.size) (and ((b'.getL off' k).allC) (Nat.ble lim a.num))))))) (h.get a')) (h.get a) : Res) = .ok v h' n' := hr
      cases hh : h.get a with
      | none => rw [hh] at hr; cases hr
      | some b =>
        cases hh' : h.get a' with
        | none => rw [hh, hh'] at hr; cases hr
        | some b' =>
          rw [hh, hh'] at hr
          dsimp only at hr
          rw [fN_eq] at hr
          have hmin : (Bool.rec len' len (Nat.ble len len') : Nat) = Nat.min len' len := by
            cases hb : Nat.ble len len'
            · have : ¬ len ≤ len' := by rw [← Nat.ble_eq, hb]; simp
              show len' = _; simp [Nat.min_def]; omega
            · rw [Nat.ble_eq] at hb
              show len = _; simp [Nat.min_def]; omega
          rw [hmin] at hr
          generalize hk : Nat.min len' len = k at hr
          have hk1 : k ≤ len := by rw [← hk]; exact Nat.min_le_right _ _
          have hk2 : k ≤ len' := by rw [← hk]; exact Nat.min_le_left _ _
          cases hb : and (Nat.beq esz 1) (and (Nat.beq esz' 1) (and (Nat.ble (Nat.add off k) b.size) (and (Nat.ble (Nat.add off' k) b'.size) (and ((b'.getL off' k).allC) (Nat.ble lim a.num)))))
          · rw [hb] at hr; cases hr
          · rw [hb] at hr
            dsimp only at hr
            simp only [Bool.and_eq_true, Nat.beq_eq, Nat.ble_eq] at hb
            obtain ⟨rfl, rfl, b3, b4, b5, b6⟩ := hb
            have b3 : off + k ≤ b.size := b3
            have b4 : off' + k ≤ b'.size := b4
            rw [Hp.putK_eq] at hr
            cases hr
            obtain ⟨cs, d1, d2, d3⟩ := getL_rel' m hh' hg' k off' o2 len' b4 (fun hl => ho2 (by omega))
            obtain ⟨w', s1, s2, s3⟩ := stores P (n := n) hg b6 (b'.getL off' k) cs off b h.get w 0 m hd hh (by rw [getL_length]; omega) b5 d2
            simp only [Nat.add_zero] at s2 s3
            refine ⟨.value (.int .i64 k), g, w', hex k w' ?_, rel_n g (by unfold maxLen at hcm; omega) rfl, by rw [Hp.put_get]; exact s2, by rw [Hp.put_get]; exact s3⟩
            rw [hv, hv', ← d1]
            by_cases hk0 : k = 0
            · have hcs : cs = [] := List.eq_nil_of_length_eq_zero (by omega)
              subst hcs
              have hw : w' = w := by
                have : (storeCells (⟨r, base + off, none⟩ : Addr) ([] : List Value) 0).run P w = .ok () w := rfl
                rw [s1] at this; cases this; rfl
              subst hw
              exact run_copy_two ht hi h1 w' w' _ _ _ _ _ _ [] (by intro j v hj; simp at hj) (by rw [hk]; simpa using d1) rfl
            · have e1 := ho1 (by omega)
              subst e1
              exact run_copy_two ht hi h1 w w' _ _ _ _ _ _ cs d3 (by rw [hk]; exact d1) s1
    case ns =>
      rw [hvy] at hr ry
      replace hr : Res.ok (.n 0) h n = .ok v h' n' := hr
      cases hr
      rw [V.rel] at ry
      refine ⟨.value (.int .i64 ((0 : Nat) : Int)), g, w, hex 0 w ?_, zero, m, Fr.refl hd⟩
      rw [hv, ry]
      exact run_copy_two ht hi h1 w w _ _ _ _ _ _ [] rfl (by simp) rfl
    all_goals (rw [hvy] at hr; cases hr)
  case ns =>
    rw [hvx] at hr rx
    rw [V.rel] at rx
    replace hr : (onS (evX y e) (fun _ _ _ _ _ => Res.ok (.n 0) h n) (.ok (.n 0) h n) .no) = .ok v h' n' := hr
    cases hvy : evX y e
    case sl a' off' esz' len' c' =>
      rw [hvy] at hr ry
      rw [V.rel] at ry
      obtain ⟨r', base', tot', c2, o2, hg', hv', hesz', hlc', hcm', ho2, _⟩ := ry
      replace hr : Res.ok (.n 0) h n = .ok v h' n' := hr
      cases hr
      refine ⟨.value (.int .i64 ((0 : Nat) : Int)), g, w, hex 0 w ?_, zero, m, Fr.refl hd⟩
      rw [rx, hv']
      exact run_copy_two ht hi h1 w w _ _ _ _ _ _ [] (by intro j v hj; simp at hj) (by simp) rfl
    case ns =>
      rw [hvy] at hr ry
      replace hr : Res.ok (.n 0) h n = .ok v h' n' := hr
      cases hr
      rw [V.rel] at ry
      refine ⟨.value (.int .i64 ((0 : Nat) : Int)), g, w, hex 0 w ?_, zero, m, Fr.refl hd⟩
      rw [rx, ry]
      exact run_copy_two ht hi h1 w w _ _ _ _ _ _ [] rfl (by simp) rfl
    all_goals (rw [hvy] at hr; cases hr)
  all_goals (rw [hvx] at hr; cases hr)
end
end Go.Proofs.Ytjhgingmbklhaaa.Ev
