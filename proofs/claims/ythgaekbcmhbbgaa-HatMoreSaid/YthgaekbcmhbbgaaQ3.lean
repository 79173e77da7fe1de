/- The texts EvSt, EvMp, EvIt, EvAz, EvL, EvM. -/
import Derived.Test.YthgaekbcmhbbgaaQ2
import Derived.Laws.Concat
import Derived.Laws.CopyRow
import Derived.Laws.Cover1
import Derived.Laws.IdiomStrings
import Derived.Laws.Slices
import Derived.Laws.Strings
import Derived.Laws.Strings2
import Derived.MapKept
import Derived.CallsIn
import Derived.OrdersIn
/- The evaluator's operations on strings, and copy; the model answers so. -/
namespace Go.Proofs.Ythgaekbcmhbbgaa.Ev
set_option linter.unusedVariables false
open Go

noncomputable def onStr {β : Type} (v : V) (f : List Nat → β) (z : β) : β := RV'.rec (motive := fun _ => β) z f v.asStr
theorem onStr_or {β : Type} (v : V) (f : List Nat → β) (z : β) : (∃ a, v = .s a ∧ onStr v f z = f a) ∨ onStr v f z = z := by
  cases v <;> first | exact .inl ⟨_, rfl, rfl⟩ | exact .inr rfl

/-- The string of some bytes. -/
def bstr (l : List Nat) : ByteArray := ⟨⟨l.map UInt8.ofNat⟩⟩
theorem bstr_size (l : List Nat) : (bstr l).size = l.length := by simp [bstr, ByteArray.size]
theorem bstr_toList (l : List Nat) : (bstr l).toList = l.map UInt8.ofNat := by
  rw [ByteArray.toList_eq]
  rfl
theorem bstr_app (l m : List Nat) : bstr l ++ bstr m = bstr (l ++ m) := by
  apply ByteArray.ext
  simp [bstr]
theorem rel_s {g : Sig} {l : List Nat} {u : Value} (h : (V.s l).rel g u) : u = .string (bstr l) := h

noncomputable def nthS : List Nat → Nat → V :=
  List.rec (motive := fun _ => Nat → V) (fun _ => .bad) fun b _ ih j => Nat.rec (motive := fun _ => V) (fN (Nat.mod b 256) fun b => .i .u8 (.ofNat b)) (fun j _ => ih j) j
theorem nthS_eq : ∀ (l : List Nat) (j : Nat), nthS l j = match l[j]? with | some b => .i .u8 (Int.ofNat (b % 256)) | none => .bad
  | [], j => by simp; rfl
  | b :: l, 0 => by
    show fN (b % 256) (fun b => V.i .u8 (.ofNat b)) = _
    rw [fN_eq]; rfl
  | b :: l, j + 1 => by
    show nthS l j = _
    rw [nthS_eq l j]; simp

noncomputable def eqS : List Nat → List Nat → Bool :=
  List.rec (motive := fun _ => List Nat → Bool) (fun m => List.rec (motive := fun _ => Bool) true (fun _ _ _ => false) m)
    fun a _ ih m => List.rec (motive := fun _ => Bool) false (fun b l _ => Bool.rec false (ih l) (Nat.beq (Nat.mod a 256) (Nat.mod b 256))) m
theorem ofNat_eq (a b : Nat) : (UInt8.ofNat a == UInt8.ofNat b) = Nat.beq (a % 256) (b % 256) := by
  rw [Bool.eq_iff_iff, beq_iff_eq, Nat.beq_eq]
  constructor
  · intro h; have := congrArg UInt8.toNat h; simpa using this
  · intro h; apply UInt8.toNat_inj.1; simpa using h
theorem eqS_eq : ∀ (l m : List Nat), eqS l m = (l.map UInt8.ofNat == m.map UInt8.ofNat)
  | [], [] => rfl
  | [], b :: m => rfl
  | a :: l, [] => rfl
  | a :: l, b :: m => by
    show (Bool.rec false (eqS l m) (Nat.beq (a % 256) (b % 256)) : Bool) = _
    rw [eqS_eq l m, ← ofNat_eq]
    simp only [List.map_cons]
    show _ = ((UInt8.ofNat a == UInt8.ofNat b) && (l.map UInt8.ofNat == m.map UInt8.ofNat))
    cases (UInt8.ofNat a == UInt8.ofNat b) <;> rfl
noncomputable def ltS : List Nat → List Nat → Bool :=
  List.rec (motive := fun _ => List Nat → Bool) (fun m => List.rec (motive := fun _ => Bool) false (fun _ _ _ => true) m)
    fun a _ ih m => List.rec (motive := fun _ => Bool) false (fun b l _ => Bool.rec (Bool.rec false (ih l) (Nat.beq (Nat.mod a 256) (Nat.mod b 256))) true (Nat.blt (Nat.mod a 256) (Nat.mod b 256))) m
theorem ofNat_lt (a b : Nat) : decide (UInt8.ofNat a < UInt8.ofNat b) = Nat.blt (a % 256) (b % 256) := by
  rw [Bool.eq_iff_iff, decide_eq_true_eq, Nat.blt_eq, UInt8.lt_iff_toNat_lt]
  simp
theorem ltS_eq : ∀ (l m : List Nat), ltS l m = Op.bytesLess (l.map UInt8.ofNat) (m.map UInt8.ofNat)
  | [], [] => rfl
  | [], b :: m => rfl
  | a :: l, [] => rfl
  | a :: l, b :: m => by
    show (Bool.rec (Bool.rec false (ltS l m) (Nat.beq (a % 256) (b % 256))) true (Nat.blt (a % 256) (b % 256)) : Bool) = _
    rw [ltS_eq l m, ← ofNat_eq, ← ofNat_lt]
    simp only [List.map_cons, Op.bytesLess]
    cases decide (UInt8.ofNat a < UInt8.ofNat b) <;> cases (UInt8.ofNat a == UInt8.ofNat b) <;> simp

section
variable {P : Program} {o : Oper}

noncomputable def evSlen (x : X) (e : Tr) (_ : Nat) (h : Hp) (n : Nat) : Res := pv (onStr (evX x e) (fun l => small l.length .bad) .bad) h n
theorem ok_slen {t : TypeId} {ox : Operand} {x : X} (hx : compX ox = some x) (ht : P.underlying t = some .string) (ho : o.op = .call { callee := .builtin .len, args := #[ox], argTypes := #[t] }) : OpOK P o (evSlen x) :=
  ok_pure (val := fun e => onStr (evX x e) (fun l => small l.length .bad) .bad) fun e g ρ w he hne => by
    have rx := he ox x hx
    rcases onStr_or (evX x e) (fun l => small l.length .bad) .bad with ⟨l, h1, h2⟩ | h2
    · rw [h2] at hne ⊢
      rw [h1] at rx
      have hv := rel_s rx
      rcases small_or l.length .bad with ⟨hc, e1⟩ | e1
      · rw [e1]
        have hrun := run_len_string (P := P) w t o.type (bstr l) ht
        rw [bstr_size] at hrun
        refine ⟨.int .i64 l.length, ?_, rel_n g hc rfl⟩
        simp [execOp, ho, resolve, invoke, builtin, hv, hrun, goInt]
      · rw [e1] at hne; exact absurd rfl hne
    · rw [h2] at hne; exact absurd rfl hne

noncomputable def evSix (x i : X) (e : Tr) (_ : Nat) (h : Hp) (n : Nat) : Res := pv (onStr (evX x e) (fun l => onI (evX i e) (fun j => nthS l j) .bad) .bad) h n
theorem ok_six {t : TypeId} {ox oi : Operand} {x i : X} (hx : compX ox = some x) (hi : compX oi = some i) (ht : P.underlying t = some .string) (ho : o.op = .index t ox oi) : OpOK P o (evSix x i) :=
  ok_pure (val := fun e => onStr (evX x e) (fun l => onI (evX i e) (fun j => nthS l j) .bad) .bad) fun e g ρ w he hne => by
    have rx := he ox x hx
    have ri := he oi i hi
    rcases onStr_or (evX x e) (fun l => onI (evX i e) (fun j => nthS l j) .bad) .bad with ⟨l, h1, h2⟩ | h2
    · rw [h2] at hne ⊢
      rw [h1] at rx
      have hv := rel_s rx
      rcases onI_or ri (fun j => nthS l j) .bad with ⟨j, k, h3, h4⟩ | h4
      · rw [h4, nthS_eq] at hne ⊢
        have hlt : j < l.length := by
          rcases Nat.lt_or_ge j l.length with h | h
          · exact h
          · rw [List.getElem?_eq_none h] at hne; exact absurd rfl hne
        rw [List.getElem?_eq_getElem hlt]
        have hrun := run_index_string (P := P) w t (bstr l) k (j : Int) ht
        rw [dif_pos ⟨by omega, by rw [bstr_size]; omega⟩] at hrun
        refine ⟨.int .u8 (Int.ofNat (l[j] % 256)), ?_, rfl⟩
        have e2 : ((bstr l)[((j : Int)).toNat]'(by rw [bstr_size]; omega)).toNat = l[j] % 256 := by
          show (((bstr l).data[((j : Int)).toNat]'_).toNat) = _
          simp [bstr]
        rw [e2] at hrun
        simp only [execOp, ho, hv, h3, Sem.run_bind, hrun, Result.andThen_ok, Sem.run_pure]
        rfl
      · rw [h4] at hne; exact absurd rfl hne
    · rw [h2] at hne; exact absurd rfl hne

noncomputable def negB (b : Bool) : V := Bool.rec (.b true) (.b false) b
theorem negB_eq (b : Bool) : negB b = .b !b := by cases b <;> rfl
noncomputable def strV (op : BinOp) (l m : List Nat) : V :=
  match op with
  | .add => Bool.rec .bad (.s (l ++ m)) (Nat.ble (Nat.add l.length m.length) 9223372036854775807)
  | .eql => fB (eqS l m)
  | .neq => negB (eqS l m)
  | .lss => fB (ltS l m)
  | .leq => fB (or (ltS l m) (eqS l m))
  | .gtr => negB (or (ltS l m) (eqS l m))
  | .geq => negB (ltS l m)
  | _ => .bad
noncomputable def evSbi (op : BinOp) (x y : X) (e : Tr) (_ : Nat) (h : Hp) (n : Nat) : Res := pv (onStr (evX x e) (fun l => onStr (evX y e) (fun m => strV op l m) .bad) .bad) h n
theorem ok_sbi {op : BinOp} {t t' : TypeId} {ox oy : Operand} {x y : X} (hx : compX ox = some x) (hy : compX oy = some y) (ho : o.op = .binOp op t ox oy t') : OpOK P o (evSbi op x y) :=
  ok_pure (val := fun e => onStr (evX x e) (fun l => onStr (evX y e) (fun m => strV op l m) .bad) .bad) fun e g ρ w he hne => by
    have rx := he ox x hx
    have ry := he oy y hy
    rcases onStr_or (evX x e) (fun l => onStr (evX y e) (fun m => strV op l m) .bad) .bad with ⟨l, h1, h2⟩ | h2
    · rw [h2] at hne ⊢
      rw [h1] at rx
      have hv := rel_s rx
      rcases onStr_or (evX y e) (fun m => strV op l m) .bad with ⟨m, h3, h4⟩ | h4
      · rw [h4] at hne ⊢
        rw [h3] at ry
        have hu := rel_s ry
        have key : ∃ u, (binOp op t (.string (bstr l)) (.string (bstr m))).run P w = .ok u w ∧ (strV op l m).rel g u := by
          cases op
          case add =>
            simp only [strV] at hne ⊢
            cases hb : Nat.ble (Nat.add l.length m.length) 9223372036854775807
            · rw [hb] at hne; exact absurd rfl hne
            · rw [Nat.ble_eq] at hb
              refine ⟨_, by rw [binOp_string_add]; exact run_string_add_sum w (bstr l) (bstr m) (by rw [bstr_size, bstr_size]; exact hb), ?_⟩
              rw [bstr_app]; rfl
          case eql => exact ⟨_, by rw [binOp_string_eql]; rfl, by simp only [strV]; rw [fB_eq, eqS_eq, bstr_toList, bstr_toList]; rfl⟩
          case neq => exact ⟨_, by rw [binOp_string_neq]; rfl, by simp only [strV]; rw [negB_eq, eqS_eq, bstr_toList, bstr_toList]; rfl⟩
          case lss => exact ⟨_, by rw [binOp_string_lss]; rfl, by simp only [strV]; rw [fB_eq, ltS_eq, bstr_toList, bstr_toList]; rfl⟩
          case leq => exact ⟨_, by rw [binOp_string_leq]; rfl, by simp only [strV]; rw [fB_eq, ltS_eq, eqS_eq, bstr_toList, bstr_toList]; rfl⟩
          case gtr => exact ⟨_, by rw [binOp_string_gtr]; rfl, by simp only [strV]; rw [negB_eq, ltS_eq, eqS_eq, bstr_toList, bstr_toList]; rfl⟩
          case geq => exact ⟨_, by rw [binOp_string_geq]; rfl, by simp only [strV]; rw [negB_eq, ltS_eq, bstr_toList, bstr_toList]; rfl⟩
          all_goals exact absurd rfl hne
        obtain ⟨u, r1, r2⟩ := key
        exact ⟨u, by simp [execOp, ho, hv, hu, eqGuard_at_string, r1], r2⟩
      · rw [h4] at hne; exact absurd rfl hne
    · rw [h2] at hne; exact absurd rfl hne

/-- A bound, of any kind of number. -/
noncomputable def onOI (xo : Option X) (e : Tr) (d : Nat) (k : Nat → V) : V := Option.rec (k d) (fun x => onI (evX x e) k .bad) xo
theorem onOI_or {g : Sig} {e : Tr} {ρ : Operand → Value} (he : EnvOK g e ρ) {oo : Option Operand} {xo : Option X} (hx : compXO oo = some xo) (d : Nat) (k : Nat → V) :
    (∃ (a : Nat) (kd : IntKind), oo.map ρ = (oo.map fun _ => Value.int kd (a : Int)) ∧ (oo = none → a = d) ∧ onOI xo e d k = k a) ∨ onOI xo e d k = .bad := by
  cases oo with
  | none =>
    simp [compXO] at hx
    subst hx
    exact .inl ⟨d, .i64, rfl, fun _ => rfl, rfl⟩
  | some o =>
    simp only [compXO, Option.map_eq_some_iff] at hx
    obtain ⟨x, h1, rfl⟩ := hx
    rcases onI_or (he o x h1) k .bad with ⟨a, kd, h2, h3⟩ | h3
    · exact .inl ⟨a, kd, by simp [h2], by simp, h3⟩
    · exact .inr h3
theorem run_boundsK (w : World) (len : Nat) (ol oh : Option Operand) (kl kh : IntKind) (l h : Nat) (hl : ol = none → l = 0) (hh : oh = none → h = len) (c1 : l ≤ h) (c2 : h ≤ len) :
    (Instr.sliceBounds false len len (ol.map fun _ => Value.int kl (l : Int)) (oh.map fun _ => Value.int kh (h : Int)) none).run P w = .ok (l, h, len) w := by
  have s1 : ∀ (kd : IntKind) (k y : Nat) (c : BoundsCode), k ≤ y → (Instr.sliceBound (Value.int kd (k : Int)) y c).run P w = .ok k w := by
    intro kd k y c hk
    have := run_sliceBound (P := P) w kd k y c (by omega) (by omega)
    simpa using this
  cases oh with
  | none =>
    have := hh rfl
    subst this
    cases ol with
    | none => have := hl rfl; subst this; simp [Instr.sliceBounds]
    | some _ => simp [Instr.sliceBounds, s1 kl l h _ c1]
  | some _ =>
    cases ol with
    | none => have := hl rfl; subst this; simp [Instr.sliceBounds, s1 kh h len _ c2]
    | some _ => simp [Instr.sliceBounds, s1 kh h len _ c2, s1 kl l h _ c1]
noncomputable def evSsl (x : X) (xl xh : Option X) (e : Tr) (_ : Nat) (h : Hp) (n : Nat) : Res :=
  pv (onStr (evX x e) (fun l => fN l.length fun len => onOI xl e 0 fun a => onOI xh e len fun b => Bool.rec .bad (.s ((l.drop a).take (b - a))) (and (Nat.ble a b) (Nat.ble b len))) .bad) h n
theorem ok_ssl {t : TypeId} {ox : Operand} {x : X} {ol oh : Option Operand} {xl xh : Option X} (hx : compX ox = some x) (hxl : compXO ol = some xl) (hxh : compXO oh = some xh) (ht : P.underlying t = some .string)
    (ho : o.op = .slice t ox ol oh none) : OpOK P o (evSsl x xl xh) :=
  ok_pure (val := fun e => onStr (evX x e) (fun l => fN l.length fun len => onOI xl e 0 fun a => onOI xh e len fun b => Bool.rec .bad (.s ((l.drop a).take (b - a))) (and (Nat.ble a b) (Nat.ble b len))) .bad) fun e g ρ w he hne => by
    have rx := he ox x hx
    rcases onStr_or (evX x e) (fun l => fN l.length fun len => onOI xl e 0 fun a => onOI xh e len fun b => (Bool.rec .bad (.s ((l.drop a).take (b - a))) (and (Nat.ble a b) (Nat.ble b len)) : V)) .bad with ⟨l, h1, h2⟩ | h2
    · rw [h2, fN_eq] at hne ⊢
      rw [h1] at rx
      have hv := rel_s rx
      rcases onOI_or he hxl 0 (fun a => onOI xh e l.length fun b => (Bool.rec .bad (.s ((l.drop a).take (b - a))) (and (Nat.ble a b) (Nat.ble b l.length)) : V)) with ⟨a, ka, l1, l2, l3⟩ | l3
      · rw [l3] at hne ⊢
        rcases onOI_or he hxh l.length (fun b => (Bool.rec .bad (.s ((l.drop a).take (b - a))) (and (Nat.ble a b) (Nat.ble b l.length)) : V)) with ⟨b, kb, m1, m2, m3⟩ | m3
        · rw [m3] at hne ⊢
          cases hb : and (Nat.ble a b) (Nat.ble b l.length)
          · rw [hb] at hne; exact absurd rfl hne
          · simp only [Bool.and_eq_true, Nat.ble_eq] at hb
            refine ⟨.string ((bstr l).extract a b), ?_, ?_⟩
            · have hbd := run_boundsK (P := P) w l.length ol oh ka kb a b l2 m2 hb.1 hb.2
              have hrun : (Instr.slice t (.string (bstr l)) (ol.map fun _ => Value.int ka (a : Int)) (oh.map fun _ => Value.int kb (b : Int)) none).run P w = .ok (.string ((bstr l).extract a b)) w := by
                have hbd' : (Instr.sliceBounds false (bstr l).size (bstr l).size (ol.map fun _ => Value.int ka (a : Int)) (oh.map fun _ => Value.int kb (b : Int)) none).run P w = .ok (a, b, l.length) w := by rw [bstr_size]; exact hbd
                simp [Instr.slice, run_underlying ht, hbd']
              simp only [execOp, ho, hv, Option.map_none, l1, m1]
              simp [run_sliceAt_string (P := P) w t _ _ _ _ ht, hrun]
            · show Value.string _ = .string (bstr _)
              unfold bstr
              congr 1
              have := ByteArray.extract_mk (l.map UInt8.ofNat) a b
              rw [show (⟨⟨l.map UInt8.ofNat⟩⟩ : ByteArray) = ByteArray.mk (l.map UInt8.ofNat).toArray from rfl, this]
              simp [List.map_take, List.map_drop]
        · rw [m3] at hne; exact absurd rfl hne
      · rw [l3] at hne; exact absurd rfl hne
    · rw [h2] at hne; exact absurd rfl hne

/-- The bytes that cells hold. -/
noncomputable def bytesL : L → Option (List Nat)
  | .nil => some []
  | .cons v l => match v with
    | .i .u8 (.ofNat b) => Bool.rec none ((bytesL l).map (b :: ·)) (Nat.blt b 256)
    | _ => none
theorem bytesL_rel {g : Sig} : ∀ {l : L} {vs : List Value} {bs : List Nat}, bytesL l = some bs → l.rel g vs → vs = (bs.map UInt8.ofNat).map fun b => Value.int .u8 b.toNat
  | .nil, vs, bs, h, hr => by
    rw [L.rel] at hr; subst hr
    simp [bytesL] at h; subst h; rfl
  | .cons v l, vs, bs, h, hr => by
    rw [L.rel] at hr
    obtain ⟨u, us, rfl, h2, h3⟩ := hr
    unfold bytesL at h
    split at h
    · rename_i b
      cases hb : Nat.blt b 256
      · rw [hb] at h; cases h
      · rw [hb] at h
        rw [Nat.blt_eq] at hb
        have h : (bytesL l).map (b :: ·) = some bs := h
        rw [Option.map_eq_some_iff] at h
        obtain ⟨bs', h4, rfl⟩ := h
        rw [bytesL_rel h4 h3]
        rw [V.rel] at h2
        subst h2
        simp [Nat.mod_eq_of_lt hb]
    · cases h

noncomputable def onOpt {α β : Type} (o : Option α) (f : α → β) (z : β) : β := Option.rec z f o
noncomputable def evB2s (x : X) (e : Tr) (_ : Nat) (h : Hp) (n : Nat) : Res :=
  pv (onS (evX x e) (fun a off esz len _ => Option.rec .bad (fun b => Bool.rec .bad (Option.rec .bad V.s (bytesL (b.getL off len))) (and (Nat.beq esz 1) (Nat.ble (Nat.add off len) b.size))) (h.get a)) (.s []) .bad) h n
theorem ok_b2s {s d el : TypeId} {ox : Operand} {x : X} (hx : compX ox = some x) (hs : P.underlying s = some (.slice el)) (he' : P.underlying el = some (.int .u8)) (hd' : P.underlying d = some .string) (ho : o.op = .convert s d ox) : OpOK P o (evB2s x) := by
  intro e lim h n v h' n' hr ρ g w he m hd _ _
  have rx := he ox x hx
  unfold evB2s at hr
  obtain ⟨hne, hv0, hh0, hn0⟩ := pv_ok hr
  clear hr
  rw [hh0, hn0, hv0]
  clear hh0 hn0 hv0
  rcases onS_or (evX x e) (fun a off esz len (_ : Option Nat) => (Option.rec .bad (fun b => Bool.rec .bad (Option.rec .bad V.s (bytesL (b.getL off len))) (and (Nat.beq esz 1) (Nat.ble (Nat.add off len) b.size))) (h.get a) : V)) (.s []) .bad with ⟨a, off, esz, len, c, h1, h2⟩ | ⟨h1, h2⟩ | h2
  · rw [h2] at hne ⊢
    rw [h1, V.rel] at rx
    obtain ⟨r, base, tot, c', o', hg, hv, hesz, hlc, hcm, ho', _⟩ := rx
    cases hh : h.get a with
    | none => rw [hh] at hne; exact absurd rfl hne
    | some b =>
      rw [hh] at hne
      dsimp only at hne ⊢
      cases hb : and (Nat.beq esz 1) (Nat.ble (Nat.add off len) b.size)
      · rw [hb] at hne; exact absurd rfl hne
      · rw [hb] at hne
        dsimp only at hne ⊢
        simp only [Bool.and_eq_true, Nat.beq_eq, Nat.ble_eq] at hb
        obtain ⟨rfl, hb⟩ := hb
        have hb : off + len ≤ b.size := hb
        cases hy : bytesL (b.getL off len) with
        | none => rw [hy] at hne; exact absurd rfl hne
        | some bs =>
          dsimp only
          obtain ⟨vs, c1, c2, c3⟩ := getL_rel' m hh hg len off o' len hb (fun hl => ho' (by omega))
          have c4 := bytesL_rel hy c2
          refine ⟨.value (.string (bstr bs)), g, w, ?_, rfl, m, Fr.refl hd⟩
          have hl : (bs.map UInt8.ofNat).length = len := by rw [c4] at c1; simpa using c1
          have hrun := run_convert_bytes_back (P := P) w s d el ⟨r, o', none⟩ c' (bs.map UInt8.ofNat) hs he' hd' (fun j hj => c3 j _ (by
            rw [c4, List.getElem?_eq_getElem (by simpa using hj)]; simp))
          rw [hl] at hrun
          simp only [execOp, ho, hv, Sem.run_bind, hrun, Result.andThen_ok, Sem.run_pure]
          rfl
  · rw [h2] at hne ⊢
    rw [h1, V.rel] at rx
    refine ⟨.value (.string (bstr [])), g, w, ?_, rfl, m, Fr.refl hd⟩
    simp [execOp, ho, rx, run_convert_bytes_string w s d el none 0 0 hs he' hd', Conv.bytesToString]
    rfl
  · rw [h2] at hne; exact absurd rfl hne

noncomputable def byteL : List Nat → L := List.rec .nil fun b _ ih => fN (Nat.mod b 256) fun b => .cons (.i .u8 (.ofNat b)) ih
theorem byteL_len : ∀ l, (byteL l).length = l.length
  | [] => rfl
  | b :: l => by
    show (fN (b % 256) fun b => L.cons (.i .u8 (.ofNat b)) (byteL l)).length = _
    rw [fN_eq]; simp [L.length, byteL_len l]
theorem byteL_allC : ∀ l, (byteL l).allC = true
  | [] => rfl
  | b :: l => by
    show (fN (b % 256) fun b => L.cons (.i .u8 (.ofNat b)) (byteL l)).allC = _
    rw [fN_eq]; simp [L.allC, V.isC, byteL_allC l]
theorem byteL_rel (g : Sig) : ∀ l, (byteL l).rel g ((l.map UInt8.ofNat).map fun b => Value.int .u8 b.toNat)
  | [] => rfl
  | b :: l => by
    show (fN (b % 256) fun b => L.cons (.i .u8 (.ofNat b)) (byteL l)).rel g _
    rw [fN_eq]
    refine ⟨_, _, rfl, ?_, byteL_rel g l⟩
    rw [V.rel]; simp
noncomputable def evS2b (el : TypeId) (x : X) (e : Tr) (_ : Nat) (h : Hp) (n : Nat) : Res :=
  onStr (evX x e) (fun l => fN l.length fun k => Bool.rec .no (newB ⟨el, k, k, byteL l, .lf⟩ (fun p => .sl p 0 1 k none) h n) (Nat.ble k 1099511627776)) .no
theorem ok_s2b {s d el : TypeId} {ox : Operand} {x : X} (hx : compX ox = some x) (hs : P.underlying s = some .string) (he' : P.underlying el = some (.int .u8)) (hd' : P.underlying d = some (.slice el)) (ho : o.op = .convert s d ox) : OpOK P o (evS2b el x) := by
  intro e lim h n v h' n' hr ρ g w he m hd hf hn
  have rx := he ox x hx
  unfold evS2b at hr
  rcases onStr_or (evX x e) (fun l => fN l.length fun k => (Bool.rec .no (newB ⟨el, k, k, byteL l, .lf⟩ (fun p => .sl p 0 1 k none) h n) (Nat.ble k 1099511627776) : Res)) .no with ⟨l, h1, h2⟩ | h2
  · rw [h2, fN_eq] at hr
    rw [h1] at rx
    have hv := rel_s rx
    cases hb : Nat.ble l.length 1099511627776
    · rw [hb] at hr; cases hr
    · rw [hb] at hr
      have hr : newB ⟨el, l.length, l.length, byteL l, .lf⟩ (fun p => .sl p 0 1 l.length none) h n = .ok v h' n' := hr
      rw [Nat.ble_eq] at hb
      have hrun := run_bytes_of_string (P := P) w s d el (bstr l) hs hd' he'
      rw [bstr_size] at hrun
      generalize hcap : grownCap w l.length 0 el = cap at hrun
      have hge : l.length ≤ cap := by rw [← hcap]; exact grownCap_ge w _ _ _
      have hle : cap ≤ maxLen := by rw [← hcap]; exact grownCap_le_maxLen w _ _ _ (by unfold maxLen; omega)
      have hbs : (bytesRow (bstr l) cap).size = cap := by
        simp only [bytesRow, bstr_size, Array.size_append, Array.size_map, Array.size_replicate]
        have : (bstr l).data.size = l.length := bstr_size l
        omega
      rw [hbs] at hrun
      have hget : ∀ j, j < l.length → (bytesRow (bstr l) cap)[j]? = ((l.map UInt8.ofNat).map fun b => Value.int .u8 b.toNat)[j]? := by
        intro j hj
        have e1 : ((bstr l).data.map fun b => Value.int .u8 b.toNat).size = l.length := by simp [bstr]
        unfold bytesRow
        rw [Array.getElem?_append_left (by rw [e1]; exact hj)]
        simp [bstr]
      obtain ⟨p, g', hle', hg', rfl, m', f'⟩ := newB_soundF (lim := lim) hr m.drew hd hf hn (bytesRow (bstr l) cap) (by rw [hbs]; exact hge) (by show l.length ≤ _; unfold maxSize; exact hb)
        (fun j hj => by
          have hj' : j < l.length := hj
          obtain ⟨u, c1, c2, c3⟩ := cell_list (byteL_rel g l) (byteL_allC l) el j (by rw [byteL_len]; exact hj')
          rw [byteL_len] at c3
          refine ⟨u, ?_, c2, c3⟩
          rw [hget j hj', ← c1]; simp) (cap, cap + 1) (fun k hk hc => by rw [hbs] at hk; have := hc.1; simp at this; omega)
      refine ⟨.value (.slice (some ⟨w.heap.size, 0, none⟩) l.length cap), g', _, ?_, ?_, m', (Fr.drew hd).trans f'⟩
      · simp only [execOp, ho, hv, Sem.run_bind, hrun, Result.andThen_ok, Sem.run_pure]
      · refine ⟨_, _, _, cap, 0, hg', rfl, by omega, hge, hle, fun _ => rfl, ?_, ?_⟩
        · show 0 + 0 + cap * 1 ≤ (bytesRow (bstr l) cap).size
          rw [hbs]; omega
        · show 0 + 0 + cap * 1 = (bytesRow (bstr l) cap).size
          rw [hbs]; omega
  · rw [h2] at hr; cases hr

/-- copy: as many cells as the shorter one has. -/
noncomputable def evCpy (x y : X) (e : Tr) (lim : Nat) (h : Hp) (n : Nat) : Res :=
  onS (evX x e) (fun a off esz len _ => onS (evX y e) (fun a' off' esz' len' _ => Option.rec .no (fun b => Option.rec .no (fun b' => fN (Bool.rec len' len (Nat.ble len len')) fun k =>
      Bool.rec .no (h.putK (some (b.setL off (b'.getL off' k))) a fun h' => .ok (.n k) h' n)
        (and (Nat.beq esz 1) (and (Nat.beq esz' 1) (and (Nat.ble (Nat.add off k) b.size) (and (Nat.ble (Nat.add off' k) b'.size) (and ((b'.getL off' k).allC) (Nat.ble lim a.num))))))) (h.get a')) (h.get a)) (.ok (.n 0) h n) .no)
    (onS (evX y e) (fun _ _ _ _ _ => .ok (.n 0) h n) (.ok (.n 0) h n) .no) .no
theorem run_copy_two {t t' ty el : TypeId} {i : TypeInfo} (ht : P.underlying t = some (.slice el)) (hi : P.info? el = some i) (h1 : i.size = 1) (w w' : World) (A B : Option Addr) (len cap len' cap' : Nat) (cs : List Value)
    (hB : (match B with | some b => ∀ j v, cs[j]? = some v → w.cell? (b.add j) = some v | none => cs = [])) (hk : cs.length = Nat.min len' len)
    (hs : (match A with | some a => (storeCells a cs).run P w = .ok () w' | none => w' = w)) :
    (Builtin.copy_ #[t, t'] ty #[.slice A len cap, .slice B len' cap']).run P w = .ok (goInt cs.length) w' := by
  have hl : (Builtin.firstCells i.size (Nat.min len' len) (.slice B len' cap')).run P w = .ok cs.toArray w := by
    cases B with
    | none =>
      have hB : cs = [] := hB
      subst hB; simp [Builtin.firstCells]
    | some b => rw [h1]; simp [Builtin.firstCells, ← hk, run_loadCells_list (P := P) w b cs hB]
  cases A with
  | none =>
    have hs : w' = w := hs
    subst hs
    simp [Builtin.copy_, run_underlying ht, Builtin.lenOf, sizeOf, typeInfo, hi, hl, hk]
  | some a =>
    have hs : (storeCells a cs).run P w = .ok () w' := hs
    simp [Builtin.copy_, run_underlying ht, Builtin.lenOf, sizeOf, typeInfo, hi, hl, hk, hs]
theorem ok_cpy {t t' el : TypeId} {ox oy : Operand} {x y : X} {i : TypeInfo} (hx : compX ox = some x) (hy : compX oy = some y) (ht : P.underlying t = some (.slice el)) (hi : P.info? el = some i) (h1 : i.size = 1)
    (ho : o.op = .call { callee := .builtin .copy, args := #[ox, oy], argTypes := #[t, t'] }) : OpOK P o (evCpy x y) := by
  intro e lim h n v h' n' hr ρ g w he m hd hf hn
  have rx := he ox x hx
  have ry := he oy y hy
  have hex : ∀ (k : Nat) (w' : World), (Builtin.copy_ #[t, t'] o.type #[ρ ox, ρ oy]).run P w = .ok (goInt k) w' → (execOp ρ o).run P w = .ok (.value (.int .i64 k)) w' := by
    intro k w' hr
    simp [execOp, ho, resolve, invoke, builtin, hr, goInt]
  have zero : V.rel g (.n 0) (.int .i64 ((0 : Nat) : Int)) := rel_n g (by omega) rfl
  unfold evCpy at hr
  cases hvx : evX x e
  case sl a off esz len c =>
    rw [hvx] at hr rx
    rw [V.rel] at rx
    obtain ⟨r, base, tot, c1, o1, hg, hv, hesz, hlc, hcm, ho1, _⟩ := rx
    cases hvy : evX y e
    case sl a' off' esz' len' c' =>
      rw [hvy] at hr ry
      rw [V.rel] at ry
      obtain ⟨r', base', tot', c2, o2, hg', hv', hesz', hlc', hcm', ho2, _⟩ := ry
      replace hr : (Option.rec .no (fun b => Option.rec .no (fun b' => fN (Bool.rec len' len (Nat.ble len len')) fun k =>
        Bool.rec .no (h.putK (some (b.setL off (b'.getL off' k))) a fun h' => .ok (.n k) h' n)
        (and (Nat.beq esz 1) (and (Nat.beq esz' 1) (and (Nat.ble (Nat.add off k) b.size) (and (Nat.ble (Nat.add off' k) b'.size) (and ((b'.getL off' k).allC) (Nat.ble lim a.num))))))) (h.get a')) (h.get a) : Res) = .ok v h' n' := hr
      cases hh : h.get a with
      | none => rw [hh] at hr; cases hr
      | some b =>
        cases hh' : h.get a' with
        | none => rw [hh, hh'] at hr; cases hr
        | some b' =>
          rw [hh, hh'] at hr
          dsimp only at hr
          rw [fN_eq] at hr
          have hmin : (Bool.rec len' len (Nat.ble len len') : Nat) = Nat.min len' len := by
            cases hb : Nat.ble len len'
            · have : ¬ len ≤ len' := by rw [← Nat.ble_eq, hb]; simp
              show len' = _; simp [Nat.min_def]; omega
            · rw [Nat.ble_eq] at hb
              show len = _; simp [Nat.min_def]; omega
          rw [hmin] at hr
          generalize hk : Nat.min len' len = k at hr
          have hk1 : k ≤ len := by rw [← hk]; exact Nat.min_le_right _ _
          have hk2 : k ≤ len' := by rw [← hk]; exact Nat.min_le_left _ _
          cases hb : and (Nat.beq esz 1) (and (Nat.beq esz' 1) (and (Nat.ble (Nat.add off k) b.size) (and (Nat.ble (Nat.add off' k) b'.size) (and ((b'.getL off' k).allC) (Nat.ble lim a.num)))))
          · rw [hb] at hr; cases hr
          · rw [hb] at hr
            dsimp only at hr
            simp only [Bool.and_eq_true, Nat.beq_eq, Nat.ble_eq] at hb
            obtain ⟨rfl, rfl, b3, b4, b5, b6⟩ := hb
            have b3 : off + k ≤ b.size := b3
            have b4 : off' + k ≤ b'.size := b4
            rw [Hp.putK_eq] at hr
            cases hr
            obtain ⟨cs, d1, d2, d3⟩ := getL_rel' m hh' hg' k off' o2 len' b4 (fun hl => ho2 (by omega))
            obtain ⟨w', s1, s2, s3⟩ := stores P (n := n) hg b6 (b'.getL off' k) cs off b h.get w 0 m hd hh (by rw [getL_length]; omega) b5 d2
            simp only [Nat.add_zero] at s2 s3
            refine ⟨.value (.int .i64 k), g, w', hex k w' ?_, rel_n g (by unfold maxLen at hcm; omega) rfl, by rw [Hp.put_get]; exact s2, by rw [Hp.put_get]; exact s3⟩
            rw [hv, hv', ← d1]
            by_cases hk0 : k = 0
            · have hcs : cs = [] := List.eq_nil_of_length_eq_zero (by omega)
              subst hcs
              have hw : w' = w := by
                have : (storeCells (⟨r, base + off, none⟩ : Addr) ([] : List Value) 0).run P w = .ok () w := rfl
                rw [s1] at this; cases this; rfl
              subst hw
              exact run_copy_two ht hi h1 w' w' _ _ _ _ _ _ [] (by intro j v hj; simp at hj) (by rw [hk]; simpa using d1) rfl
            · have e1 := ho1 (by omega)
              subst e1
              exact run_copy_two ht hi h1 w w' _ _ _ _ _ _ cs d3 (by rw [hk]; exact d1) s1
    case ns =>
      rw [hvy] at hr ry
      replace hr : Res.ok (.n 0) h n = .ok v h' n' := hr
      cases hr
      rw [V.rel] at ry
      refine ⟨.value (.int .i64 ((0 : Nat) : Int)), g, w, hex 0 w ?_, zero, m, Fr.refl hd⟩
      rw [hv, ry]
      exact run_copy_two ht hi h1 w w _ _ _ _ _ _ [] rfl (by simp) rfl
    all_goals (rw [hvy] at hr; cases hr)
  case ns =>
    rw [hvx] at hr rx
    rw [V.rel] at rx
    replace hr : (onS (evX y e) (fun _ _ _ _ _ => Res.ok (.n 0) h n) (.ok (.n 0) h n) .no) = .ok v h' n' := hr
    cases hvy : evX y e
    case sl a' off' esz' len' c' =>
      rw [hvy] at hr ry
      rw [V.rel] at ry
      obtain ⟨r', base', tot', c2, o2, hg', hv', hesz', hlc', hcm', ho2, _⟩ := ry
      replace hr : Res.ok (.n 0) h n = .ok v h' n' := hr
      cases hr
      refine ⟨.value (.int .i64 ((0 : Nat) : Int)), g, w, hex 0 w ?_, zero, m, Fr.refl hd⟩
      rw [rx, hv']
      exact run_copy_two ht hi h1 w w _ _ _ _ _ _ [] (by intro j v hj; simp at hj) (by simp) rfl
    case ns =>
      rw [hvy] at hr ry
      replace hr : Res.ok (.n 0) h n = .ok v h' n' := hr
      cases hr
      rw [V.rel] at ry
      refine ⟨.value (.int .i64 ((0 : Nat) : Int)), g, w, hex 0 w ?_, zero, m, Fr.refl hd⟩
      rw [rx, ry]
      exact run_copy_two ht hi h1 w w _ _ _ _ _ _ [] rfl (by simp) rfl
    all_goals (rw [hvy] at hr; cases hr)
  all_goals (rw [hvx] at hr; cases hr)
end
end Go.Proofs.Ythgaekbcmhbbgaa.Ev
/- Maps: made, looked up, changed; the model answers so. -/
namespace Go.Proofs.Ythgaekbcmhbbgaa.Ev
set_option linter.unusedVariables false
open Go

noncomputable def onMp {β : Type} (v : V) (f : Pos → β) (y z : β) : β := MV.rec (motive := fun _ => β) z y f v.asM
theorem onMp_or {β : Type} (v : V) (f : Pos → β) (y z : β) : (∃ a, v = .mp a ∧ onMp v f y z = f a) ∨ (v = .nm ∧ onMp v f y z = y) ∨ onMp v f y z = z := by
  cases v <;> first | exact .inl ⟨_, rfl, rfl⟩ | exact .inr (.inl ⟨rfl, rfl⟩) | exact .inr (.inr rfl)

/-! Keys. -/
inductive KK where
  | int | bool | str | sh (s : Sh)
noncomputable def keqB (x y : V) : V := onB x (fun a => onB y (fun b => fB (a == b)) .bad) .bad
noncomputable def keqS (x y : V) : V := onStr x (fun a => onStr y (fun b => fB (eqS a b)) .bad) .bad
noncomputable def keq (k : KK) : V → V → V := KK.rec (motive := fun _ => V → V → V) (binV .eql) keqB keqS (fun s => eqSh s) k
def compKK (P : Program) (kt : TypeId) : Option KK := match P.underlying kt with
  | some (.int _) => some .int
  | some .bool => some .bool
  | some .string => some .str
  | some (.struct _) => (compSh P 20 kt).map .sh
  | some (.array _ _) => (compSh P 20 kt).map .sh
  | _ => none

theorem keqB_b {g : Sig} {x y : V} {a b : Value} (ha : x.rel g a) (hb : y.rel g b) {r : Bool} (h : keqB x y = .b r) : ∃ p q, a = .bool p ∧ b = .bool q ∧ r = (p == q) := by
  unfold keqB at h
  rcases onB_or x (fun a => onB y (fun b => fB (a == b)) .bad) .bad with ⟨p, hp, e⟩ | e
  · rw [e] at h
    rcases onB_or y (fun b => fB (p == b)) .bad with ⟨q, hq, e2⟩ | e2
    · rw [e2, fB_eq] at h
      cases h
      rw [hp, V.rel] at ha
      rw [hq, V.rel] at hb
      exact ⟨p, q, ha, hb, rfl⟩
    · rw [e2] at h; cases h
  · rw [e] at h; cases h
theorem bstr_beq (l m : List Nat) : (bstr l == bstr m) = eqS l m := by
  rw [eqS_eq, Bool.eq_iff_iff, MapKept.bytes_beq, beq_iff_eq]
  constructor
  · intro h
    have := congrArg ByteArray.toList h
    rwa [bstr_toList, bstr_toList] at this
  · intro h
    unfold bstr
    rw [h]
theorem keqS_b {g : Sig} {x y : V} {a b : Value} (ha : x.rel g a) (hb : y.rel g b) {r : Bool} (h : keqS x y = .b r) : ∃ p q, a = .string p ∧ b = .string q ∧ r = (p == q) := by
  unfold keqS at h
  rcases onStr_or x (fun a => onStr y (fun b => fB (eqS a b)) .bad) .bad with ⟨p, hp, e⟩ | e
  · rw [e] at h
    rcases onStr_or y (fun b => fB (eqS p b)) .bad with ⟨q, hq, e2⟩ | e2
    · rw [e2, fB_eq] at h
      cases h
      rw [hp] at ha
      rw [hq] at hb
      exact ⟨_, _, rel_s ha, rel_s hb, (bstr_beq p q).symm⟩
    · rw [e2] at h; cases h
  · rw [e] at h; cases h

section
variable {P : Program} {w : World} {g : Sig}

/-- A key can be looked for. -/
theorem checkKey_sh : ∀ (f : Nat) (t : TypeId) (sh : Sh), compSh P f t = some sh → ∀ (n : Nat) (x : V) (a : Value) (em : Bool), f ≤ n → x.rel g a → eqSh sh x x = .b true → (Instr.checkKey em n t a).run P w = .ok () w
  | 0, t, sh, h, _, _, _, _, _, _, _ => by cases h
  | f + 1, t, sh, h, n, x, a, em, hn, ha, he => by
    obtain ⟨n, rfl⟩ : ∃ d', n = d' + 1 := ⟨n - 1, by omega⟩
    rw [compSh] at h
    split at h
    · rename_i k hk
      cases h
      rw [eqSh] at he
      obtain ⟨k', p, q, rfl, _, _⟩ := binEq_ints ha ha he
      simp only [Instr.checkKey, Sem.run_bind, run_underlying hk, Result.andThen_ok, Sem.run_pure]
    · rename_i hk
      cases h
      rw [eqSh] at he
      obtain ⟨p, q, rfl, _, _⟩ := keqB_b ha ha he
      simp only [Instr.checkKey, Sem.run_bind, run_underlying hk, Result.andThen_ok, Sem.run_pure]
    · rename_i fs hk
      split at h
      · cases h
      · rw [Option.map_eq_some_iff] at h
        obtain ⟨q, hq, rfl⟩ := h
        rw [eqSh] at he
        rcases onA_or x (fun l => onA x (fun m => eqFs q l m) .bad) .bad with ⟨l, hl, e⟩ | e
        · rw [e] at he
          rw [hl] at he ha
          replace he : eqFs q l l = .b true := he
          rw [V.rel] at ha
          obtain ⟨xs, rfl, hxs⟩ := ha
          simp only [Instr.checkKey, Sem.run_bind, run_underlying hk, Result.andThen_ok]
          rw [← Array.forIn_toList]
          generalize fs.toList = L at hq
          clear hk e
          induction L generalizing q with
          | nil => simp
          | cons fl L ih =>
            rw [compFs] at hq
            split at hq
            · rename_i hname
              simp only [List.forIn_cons, Sem.run_bind, hname, ne_eq, not_true_eq_false, if_false, Sem.run_pure, Result.andThen_ok]
              exact ih q he hq
            · rename_i hname
              split at hq
              case h_2 => cases hq
              rename_i i agg sh q' h1 h2 h3 h4
              cases hq
              rw [eqFs] at he
              rcases andV_b he with ⟨e1, e2⟩ | ⟨e1, e2⟩
              · cases e2
              · obtain ⟨n1, _⟩ := eqSh_ne e1
                obtain ⟨b, b1, b2⟩ := partV_run h1 h2 hxs fl.offset w n1
                have p2 := checkKey_sh f fl.type sh h3 n _ b em (by omega) b2 e1
                simp only [List.forIn_cons, Sem.run_bind, hname, ne_eq, not_false_eq_true, if_true, Result.andThen_ok, b1, p2, Sem.run_pure]
                exact ih q' e2 h4
        · rw [e] at he; cases he
    · rename_i len el hk
      split at h
      case h_2 => cases h
      rename_i i agg sh' h1 h2 h3
      cases h
      rw [eqSh] at he
      rcases onA_or x (fun l => onA x (fun m => eqAr (eqSh sh') i.size agg l m len 0) .bad) .bad with ⟨l, hl, e⟩ | e
      · rw [e] at he
        rw [hl] at he ha
        replace he : eqAr (eqSh sh') i.size agg l l len 0 = .b true := he
        rw [V.rel] at ha
        obtain ⟨xs, rfl, hxs⟩ := ha
        simp only [Instr.checkKey, Sem.run_bind, run_underlying hk, Result.andThen_ok]
        simp only [Std.Legacy.Range.forIn_eq_forIn_range', Std.Legacy.Range.size, Nat.sub_zero, Nat.add_one_sub_one, Nat.div_one]
        clear e hk
        generalize 0 = s at he
        induction len generalizing s with
        | zero => simp
        | succ k ih =>
          rw [eqAr] at he
          rw [List.range'_succ]
          rcases andV_b he with ⟨e1, e2⟩ | ⟨e1, e2⟩
          · cases e2
          · obtain ⟨n1, _⟩ := eqSh_ne e1
            obtain ⟨b, b1, b2⟩ := partV_run h1 h2 hxs (s * i.size) w n1
            have p2 := checkKey_sh f el sh' h3 n _ b em (by omega) b2 e1
            simp only [List.forIn_cons, Sem.run_bind, sizeOf, typeInfo, run_program, h1, Result.andThen_ok, b1, p2, Sem.run_pure]
            exact ih (s + 1) e2
      · rw [e] at he; cases he
    · cases h
theorem ckeyI {kt : TypeId} {k k' : IntKind} {p : Int} {em : Bool} (hd : P.underlying kt = some (.int k)) (n : Nat) : (Instr.checkKey em (n + 1) kt (.int k' p)).run P w = .ok () w := by
  simp only [Instr.checkKey, Sem.run_bind, run_underlying hd, Result.andThen_ok, Sem.run_pure]
theorem ckeyB {kt : TypeId} {p : Bool} {em : Bool} (hd : P.underlying kt = some .bool) (n : Nat) : (Instr.checkKey em (n + 1) kt (.bool p)).run P w = .ok () w := by
  simp only [Instr.checkKey, Sem.run_bind, run_underlying hd, Result.andThen_ok, Sem.run_pure]
theorem ckeyS {kt : TypeId} {p : ByteArray} {em : Bool} (hd : P.underlying kt = some .string) (n : Nat) : (Instr.checkKey em (n + 1) kt (.string p)).run P w = .ok () w := by
  simp only [Instr.checkKey, Sem.run_bind, run_underlying hd, Result.andThen_ok, Sem.run_pure]
theorem key_check {kt : TypeId} {k : KK} (hk : compKK P kt = some k) {x : V} {a : Value} (ha : x.rel g a) (he : keq k x x = .b true) (em : Bool) : (Instr.checkKey em 10000 kt a).run P w = .ok () w := by
  unfold compKK at hk
  split at hk
  · rename_i d hd
    cases hk
    obtain ⟨k', p, q, rfl, _, _⟩ := binEq_ints ha ha he
    exact ckeyI hd 9999
  · rename_i hd
    cases hk
    obtain ⟨p, q, rfl, _, _⟩ := keqB_b ha ha he
    exact ckeyB hd 9999
  · rename_i hd
    cases hk
    obtain ⟨p, q, rfl, _, _⟩ := keqS_b ha ha he
    exact ckeyS hd 9999
  · rw [Option.map_eq_some_iff] at hk
    obtain ⟨s, hs, rfl⟩ := hk
    exact checkKey_sh 20 kt s hs 10000 x a em (by omega) ha he
  · rw [Option.map_eq_some_iff] at hk
    obtain ⟨s, hs, rfl⟩ := hk
    exact checkKey_sh 20 kt s hs 10000 x a em (by omega) ha he
  · cases hk

/-! Looking for a key. -/
noncomputable def fndI {β : Type} (k : KK) (x : V) (fo : Nat → L → β) (mi ba : β) (l : L) : Nat → β :=
  L.rec (motive_1 := fun _ => Unit) (motive_2 := fun _ => Nat → β) () (fun _ => ()) (fun _ _ => ()) (fun _ => ()) (fun _ _ => ()) () (fun _ _ _ _ _ => ()) () (fun _ _ => ()) (fun _ _ => ()) (fun _ _ _ _ _ => ()) () (fun _ => ()) (fun _ _ _ => ()) () (fun _ => ()) () (fun _ => ()) (fun _ _ _ _ => ())
    (fun _ => mi) (fun v _ _ ih i => onT v (fun kv => onB (keq k x (nthL 0 kv)) (fun t => Bool.rec (ih (Nat.succ i)) (fo i kv) t) ba) ba) l
theorem fndI_spec {β : Type} (k : KK) (x : V) (fo : Nat → L → β) (mi ba : β) : ∀ (es : List MapEntry) (l : L) (i : Nat), l.rel g (es.map entV) →
    (∃ j e kv, es[j]? = some e ∧ fndI k x fo mi ba l i = fo (i + j) kv ∧ (nthL 0 kv).rel g e.key ∧ (nthL 1 kv).rel g e.val ∧ keq k x (nthL 0 kv) = .b true ∧ ∀ m e', m < j → es[m]? = some e' → ∃ y, y.rel g e'.key ∧ keq k x y = .b false) ∨
    (fndI k x fo mi ba l i = mi ∧ ∀ e' ∈ es, ∃ y, y.rel g e'.key ∧ keq k x y = .b false) ∨ fndI k x fo mi ba l i = ba
  | [], l, i, h => by
    cases l with
    | nil => exact .inr (.inl ⟨rfl, by simp⟩)
    | cons v l => obtain ⟨_, _, e, _⟩ := h; cases e
  | e :: es, l, i, h => by
    cases l with
    | nil => cases h
    | cons v l =>
      rw [List.map_cons, L.rel] at h
      obtain ⟨u, us, heq, hv, hl⟩ := h
      cases heq
      show (∃ j e' kv, _ ∧ onT v (fun kv => onB (keq k x (nthL 0 kv)) (fun t => Bool.rec (fndI k x fo mi ba l (i + 1)) (fo i kv) t) ba) ba = _ ∧ _) ∨ (onT v (fun kv => onB (keq k x (nthL 0 kv)) (fun t => Bool.rec (fndI k x fo mi ba l (i + 1)) (fo i kv) t) ba) ba = mi ∧ _) ∨ onT v (fun kv => onB (keq k x (nthL 0 kv)) (fun t => Bool.rec (fndI k x fo mi ba l (i + 1)) (fo i kv) t) ba) ba = ba
      rcases onT_or v (fun kv => onB (keq k x (nthL 0 kv)) (fun t => (Bool.rec (fndI k x fo mi ba l (i + 1)) (fo i kv) t : β)) ba) ba with ⟨kv, hkv, e1⟩ | e1
      · rw [e1]
        rw [hkv, V.rel] at hv
        obtain ⟨vs, hvs, hr⟩ := hv
        obtain rfl : vs = [e.key, e.val] := by unfold entV at hvs; cases hvs; rfl
        have k0 : (nthL 0 kv).rel g e.key := by rw [nthL_eq]; exact L.rel_get 0 hr
        have k1 : (nthL 1 kv).rel g e.val := by rw [nthL_eq]; exact L.rel_get 1 hr
        rcases onB_or (keq k x (nthL 0 kv)) (fun t => (Bool.rec (fndI k x fo mi ba l (i + 1)) (fo i kv) t : β)) ba with ⟨t, ht, e2⟩ | e2
        · rw [e2]
          cases t with
          | true => exact .inl ⟨0, e, kv, rfl, rfl, k0, k1, ht, fun m _ hm => by omega⟩
          | false =>
            show (∃ j e' kv, _ ∧ fndI k x fo mi ba l (i + 1) = _ ∧ _) ∨ (fndI k x fo mi ba l (i + 1) = mi ∧ _) ∨ fndI k x fo mi ba l (i + 1) = ba
            rcases fndI_spec k x fo mi ba es l (i + 1) hl with ⟨j, e', kv', a1, a2, a3, a4, a5, a6⟩ | ⟨a1, a2⟩ | a1
            · refine .inl ⟨j + 1, e', kv', by simpa using a1, by rw [a2]; congr 1; omega, a3, a4, a5, fun m e'' hm hm' => ?_⟩
              cases m with
              | zero => simp at hm'; subst hm'; exact ⟨_, k0, ht⟩
              | succ m => exact a6 m e'' (by omega) (by simpa using hm')
            · refine .inr (.inl ⟨a1, fun e'' he'' => ?_⟩)
              rcases List.mem_cons.1 he'' with rfl | h'
              · exact ⟨_, k0, ht⟩
              · exact a2 e'' h'
            · exact .inr (.inr a1)
        · rw [e2]; exact .inr (.inr rfl)
      · rw [e1]; exact .inr (.inr rfl)

theorem findNow_at {d : TypeDesc} {a : Value} : ∀ (es : List MapEntry) (i j : Nat) (e : MapEntry), es[j]? = some e → Instr.sameNow d a e.key = some true → (∀ m e', m < j → es[m]? = some e' → Instr.sameNow d a e'.key = some false) → Instr.findNow d a es i = some (some (i + j, e.val))
  | [], _, _, _, h, _, _ => by simp at h
  | e0 :: es, i, 0, e, h, h1, _ => by simp at h; subst h; simp [Instr.findNow, h1]
  | e0 :: es, i, j + 1, e, h, h1, h2 => by
    have := findNow_at es (i + 1) j e (by simpa using h) h1 fun m e' hm hm' => h2 (m + 1) e' (by omega) (by simpa using hm')
    simp only [Instr.findNow, h2 0 e0 (by omega) rfl]
    rw [this]; congr 3; omega
theorem findNow_no {d : TypeDesc} {a : Value} : ∀ (es : List MapEntry) (i : Nat), (∀ e' ∈ es, Instr.sameNow d a e'.key = some false) → Instr.findNow d a es i = some none
  | [], _, _ => rfl
  | e0 :: es, i, h => by
    simp only [Instr.findNow, h e0 (by simp)]
    exact findNow_no es (i + 1) fun e' he' => h e' (by simp [he'])
theorem findAsk_at {kt : TypeId} {a : Value} : ∀ (es : List MapEntry) (i j : Nat) (e : MapEntry), es[j]? = some e → (Op.equal kt a e.key).run P w = .ok true w → (∀ m e', m < j → es[m]? = some e' → (Op.equal kt a e'.key).run P w = .ok false w) → (Instr.findAsking kt a es i).run P w = .ok (some (i + j, e.val)) w
  | [], _, _, _, h, _, _ => by simp at h
  | e0 :: es, i, 0, e, h, h1, _ => by simp at h; subst h; simp [Instr.findAsking, h1]
  | e0 :: es, i, j + 1, e, h, h1, h2 => by
    have := findAsk_at es (i + 1) j e (by simpa using h) h1 fun m e' hm hm' => h2 (m + 1) e' (by omega) (by simpa using hm')
    simp only [Instr.findAsking, Sem.run_bind, h2 0 e0 (by omega) rfl, Result.andThen_ok, Bool.false_eq_true, if_false]
    rw [this]; congr 3; omega
theorem findAsk_no {kt : TypeId} {a : Value} : ∀ (es : List MapEntry) (i : Nat), (∀ e' ∈ es, (Op.equal kt a e'.key).run P w = .ok false w) → (Instr.findAsking kt a es i).run P w = .ok none w
  | [], _, _ => rfl
  | e0 :: es, i, h => by
    simp only [Instr.findAsking, Sem.run_bind, h e0 (by simp), Result.andThen_ok, Bool.false_eq_true, if_false]
    exact findAsk_no es (i + 1) fun e' he' => h e' (by simp [he'])

theorem findNow_sh {kt : TypeId} {d : TypeDesc} (hd : P.underlying kt = some d) (hs : (∃ fs, d = .struct fs) ∨ ∃ n e, d = .array n e) (a : Value) (es : List MapEntry) {r : Option (Nat × Value)} (h : (Instr.findAsking kt a es 0).run P w = .ok r w) : (Instr.findKey kt a es).run P w = .ok r w := by
  cases es with
  | nil =>
    simp [Instr.findAsking] at h
    subst h
    simp [Instr.findKey, run_underlying hd, Instr.findNow]
  | cons e es =>
    have : Instr.findNow d a (e :: es) 0 = none := by
      rcases hs with ⟨fs, rfl⟩ | ⟨n, el, rfl⟩ <;> simp [Instr.findNow, Instr.sameNow]
    simp only [Instr.findKey, Sem.run_bind, run_underlying hd, Result.andThen_ok, this]
    exact h
/-- The model looks for a key as the evaluator does. -/
theorem key_find {kt : TypeId} {k : KK} (hk : compKK P kt = some k) {x : V} {a : Value} (ha : x.rel g a) {β : Type} (fo : Nat → L → β) (mi ba : β) {es : List MapEntry} {l : L} (hl : l.rel g (es.map entV)) :
    (∃ j e kv, es[j]? = some e ∧ fndI k x fo mi ba l 0 = fo j kv ∧ (nthL 0 kv).rel g e.key ∧ (nthL 1 kv).rel g e.val ∧ (Instr.findKey kt a es).run P w = .ok (some (j, e.val)) w) ∨
    (fndI k x fo mi ba l 0 = mi ∧ (Instr.findKey kt a es).run P w = .ok none w) ∨ fndI k x fo mi ba l 0 = ba := by
  have now : ∀ d, P.underlying kt = some d → (∀ y b r, V.rel g y b → keq k x y = .b r → Instr.sameNow d a b = some r) → _ := fun d hd hn => (show
    (∃ j e kv, es[j]? = some e ∧ fndI k x fo mi ba l 0 = fo j kv ∧ (nthL 0 kv).rel g e.key ∧ (nthL 1 kv).rel g e.val ∧ (Instr.findKey kt a es).run P w = .ok (some (j, e.val)) w) ∨
    (fndI k x fo mi ba l 0 = mi ∧ (Instr.findKey kt a es).run P w = .ok none w) ∨ fndI k x fo mi ba l 0 = ba from by
    rcases fndI_spec k x fo mi ba es l 0 hl with ⟨j, e, kv, a1, a2, a3, a4, a5, a6⟩ | ⟨a1, a2⟩ | a1
    · refine .inl ⟨j, e, kv, a1, by rw [a2, Nat.zero_add], a3, a4, MapKept.run_findKey hd ?_⟩
      have := findNow_at es 0 j e a1 (hn _ _ _ a3 a5) fun m e' hm hm' => let ⟨y, y1, y2⟩ := a6 m e' hm hm'; hn _ _ _ y1 y2
      rw [this, Nat.zero_add]
    · exact .inr (.inl ⟨a1, MapKept.run_findKey hd (findNow_no es 0 fun e' he' => let ⟨y, y1, y2⟩ := a2 e' he'; hn _ _ _ y1 y2)⟩)
    · exact .inr (.inr a1))
  have ask : ∀ d, P.underlying kt = some d → ((∃ fs, d = .struct fs) ∨ ∃ n e, d = .array n e) → (∀ y b r, V.rel g y b → keq k x y = .b r → (Op.equal kt a b).run P w = .ok r w) → _ := fun d hd hs hn => (show
    (∃ j e kv, es[j]? = some e ∧ fndI k x fo mi ba l 0 = fo j kv ∧ (nthL 0 kv).rel g e.key ∧ (nthL 1 kv).rel g e.val ∧ (Instr.findKey kt a es).run P w = .ok (some (j, e.val)) w) ∨
    (fndI k x fo mi ba l 0 = mi ∧ (Instr.findKey kt a es).run P w = .ok none w) ∨ fndI k x fo mi ba l 0 = ba from by
    rcases fndI_spec k x fo mi ba es l 0 hl with ⟨j, e, kv, a1, a2, a3, a4, a5, a6⟩ | ⟨a1, a2⟩ | a1
    · refine .inl ⟨j, e, kv, a1, by rw [a2, Nat.zero_add], a3, a4, findNow_sh hd hs a es ?_⟩
      have := findAsk_at es 0 j e a1 (hn _ _ _ a3 a5) fun m e' hm hm' => let ⟨y, y1, y2⟩ := a6 m e' hm hm'; hn _ _ _ y1 y2
      rw [this, Nat.zero_add]
    · exact .inr (.inl ⟨a1, findNow_sh hd hs a es (findAsk_no es 0 fun e' he' => let ⟨y, y1, y2⟩ := a2 e' he'; hn _ _ _ y1 y2)⟩)
    · exact .inr (.inr a1))
  unfold compKK at hk
  split at hk
  · rename_i d hd
    cases hk
    refine now _ hd fun y b r hy he => ?_
    obtain ⟨k', p, q, rfl, rfl, rfl⟩ := binEq_ints ha hy he
    simp [Instr.sameNow]
  · rename_i hd
    cases hk
    refine now _ hd fun y b r hy he => ?_
    obtain ⟨p, q, rfl, rfl, rfl⟩ := keqB_b ha hy he
    simp [Instr.sameNow]
  · rename_i hd
    cases hk
    refine now _ hd fun y b r hy he => ?_
    obtain ⟨p, q, rfl, rfl, rfl⟩ := keqS_b ha hy he
    simp [Instr.sameNow]
  · rename_i fs hd
    rw [Option.map_eq_some_iff] at hk
    obtain ⟨s, hs, rfl⟩ := hk
    exact ask _ hd (.inl ⟨_, rfl⟩) fun y b r hy he => compSh_sound 20 kt s hs 10000 (by omega) x y a b r ha hy he
  · rename_i n el hd
    rw [Option.map_eq_some_iff] at hk
    obtain ⟨s, hs, rfl⟩ := hk
    exact ask _ hd (.inr ⟨_, _, rfl⟩) fun y b r hy he => compSh_sound 20 kt s hs 10000 (by omega) x y a b r ha hy he
  · cases hk

/-! The same bits. -/
noncomputable def sameC (x y : V) : V := onStr x (fun a => onStr y (fun b => fB (eqS a b)) .bad) (onB x (fun a => onB y (fun b => fB (a == b)) .bad) (binV .eql x y))
theorem sameC_sound {x y : V} {a b : Value} (ha : x.rel g a) (hb : y.rel g b) (h : sameC x y = .b true) : a = b ∧ ∀ n, Instr.sameBits n a b = true := by
  unfold sameC at h
  rcases onStr_or x (fun a => onStr y (fun b => fB (eqS a b)) .bad) (onB x (fun a => onB y (fun b => fB (a == b)) .bad) (binV .eql x y)) with ⟨p, hp, e⟩ | e
  · have hx : keqS x y = .b true := by unfold keqS; rw [hp] at h ⊢; exact h
    obtain ⟨u, v, rfl, rfl, hr⟩ := keqS_b ha hb hx
    have : u = v := (MapKept.bytes_beq u v).1 hr.symm
    subst this
    exact ⟨rfl, fun n => by cases n <;> simp [Instr.sameBits, MapKept.bytes_beq]⟩
  · rw [e] at h
    rcases onB_or x (fun a => onB y (fun b => fB (a == b)) .bad) (binV .eql x y) with ⟨p, hp, e⟩ | e
    · have hx : keqB x y = .b true := by unfold keqB; rw [hp] at h ⊢; exact h
      obtain ⟨u, v, rfl, rfl, hr⟩ := keqB_b ha hb hx
      have : u = v := by simpa using hr.symm
      subst this
      exact ⟨rfl, fun n => by cases n <;> simp [Instr.sameBits]⟩
    · rw [e] at h
      obtain ⟨k', p, q, rfl, rfl, hr⟩ := binEq_ints ha hb h
      have : p = q := by simpa using hr.symm
      subst this
      exact ⟨rfl, fun n => by cases n <;> simp [Instr.sameBits]⟩
noncomputable def sameL (l : L) : L → V :=
  L.rec (motive_1 := fun _ => Unit) (motive_2 := fun _ => L → V) () (fun _ => ()) (fun _ _ => ()) (fun _ => ()) (fun _ _ => ()) () (fun _ _ _ _ _ => ()) () (fun _ _ => ()) (fun _ _ => ()) (fun _ _ _ _ _ => ()) () (fun _ => ()) (fun _ _ _ => ()) () (fun _ => ()) () (fun _ => ()) (fun _ _ _ _ => ())
    (fun m => L.rec (motive_1 := fun _ => Unit) (motive_2 := fun _ => V) () (fun _ => ()) (fun _ _ => ()) (fun _ => ()) (fun _ _ => ()) () (fun _ _ _ _ _ => ()) () (fun _ _ => ()) (fun _ _ => ()) (fun _ _ _ _ _ => ()) () (fun _ => ()) (fun _ _ _ => ()) () (fun _ => ()) () (fun _ => ()) (fun _ _ _ _ => ()) (.b true) (fun _ _ _ _ => .bad) m)
    (fun v _ _ ih m => L.rec (motive_1 := fun _ => Unit) (motive_2 := fun _ => V) () (fun _ => ()) (fun _ _ => ()) (fun _ => ()) (fun _ _ => ()) () (fun _ _ _ _ _ => ()) () (fun _ _ => ()) (fun _ _ => ()) (fun _ _ _ _ _ => ()) () (fun _ => ()) (fun _ _ _ => ()) () (fun _ => ()) () (fun _ => ()) (fun _ _ _ _ => ()) .bad (fun u r _ _ => andV (sameC v u) (ih r)) m) l
theorem sameL_sound : ∀ (l m : L) (us vs : List Value), l.rel g us → m.rel g vs → sameL l m = .b true → us = vs ∧ ∀ n, (us.zip vs).all (fun (x, y) => Instr.sameBits n x y) = true
  | .nil, .nil, us, vs, h1, h2, _ => by rw [L.rel] at h1 h2; subst h1 h2; simp
  | .nil, .cons v m, us, vs, h1, h2, h => by cases h
  | .cons v l, .nil, us, vs, h1, h2, h => by cases h
  | .cons v l, .cons u m, us, vs, h1, h2, h => by
    have h : andV (sameC v u) (sameL l m) = .b true := h
    rw [L.rel] at h1 h2
    obtain ⟨a, as, rfl, a1, a2⟩ := h1
    obtain ⟨b, bs, rfl, b1, b2⟩ := h2
    rcases andV_b h with ⟨_, e⟩ | ⟨e1, e2⟩
    · cases e
    · obtain ⟨rfl, c2⟩ := sameC_sound a1 b1 e1
      obtain ⟨rfl, d2⟩ := sameL_sound l m as bs a2 b2 e2
      exact ⟨rfl, fun n => by simp only [List.zip_cons_cons, List.all_cons, Bool.and_eq_true]; exact ⟨c2 n, d2 n⟩⟩
noncomputable def sameK (x y : V) : V := onA x (fun l => onA y (fun m => sameL l m) .bad) (sameC x y)
theorem sameK_sound {x y : V} {a b : Value} (ha : x.rel g a) (hb : y.rel g b) (h : sameK x y = .b true) : Instr.sameBits 10000 a b = true := by
  unfold sameK at h
  rcases onA_or x (fun l => onA y (fun m => sameL l m) .bad) (sameC x y) with ⟨l, hl, e⟩ | e
  · rw [e] at h
    rcases onA_or y (fun m => sameL l m) .bad with ⟨m, hm, e2⟩ | e2
    · rw [e2] at h
      rw [hl, V.rel] at ha
      rw [hm, V.rel] at hb
      obtain ⟨us, rfl, h1⟩ := ha
      obtain ⟨vs, rfl, h2⟩ := hb
      obtain ⟨rfl, h3⟩ := sameL_sound l m us vs h1 h2 h
      show (us.length == us.length && (us.zip us).all fun (x, y) => Instr.sameBits 9999 x y) = true
      rw [h3 9999]; simp
    · rw [e2] at h; cases h
  · rw [e] at h
    exact (sameC_sound ha hb h).2 _

/-- A place of a list is set. -/
noncomputable def setAt (v : V) (i : Nat) : L → L := Nat.rec (motive := fun _ => L → L)
  (fun l => L.rec (motive_1 := fun _ => Unit) (motive_2 := fun _ => L) () (fun _ => ()) (fun _ _ => ()) (fun _ => ()) (fun _ _ => ()) () (fun _ _ _ _ _ => ()) () (fun _ _ => ()) (fun _ _ => ()) (fun _ _ _ _ _ => ()) () (fun _ => ()) (fun _ _ _ => ()) () (fun _ => ()) () (fun _ => ()) (fun _ _ _ _ => ()) .nil (fun _ r _ _ => .cons v r) l)
  (fun _ ih l => L.rec (motive_1 := fun _ => Unit) (motive_2 := fun _ => L) () (fun _ => ()) (fun _ _ => ()) (fun _ => ()) (fun _ _ => ()) () (fun _ _ _ _ _ => ()) () (fun _ _ => ()) (fun _ _ => ()) (fun _ _ _ _ _ => ()) () (fun _ => ()) (fun _ _ _ => ()) () (fun _ => ()) () (fun _ => ()) (fun _ _ _ _ => ()) .nil (fun u r _ _ => .cons u (ih r)) l) i
theorem setAt_rel {v : V} {f : MapEntry → MapEntry} : ∀ (i : Nat) (l : L) (es : List MapEntry) (e : MapEntry), l.rel g (es.map entV) → es[i]? = some e → v.rel g (entV (f e)) → (setAt v i l).rel g ((es.modify i f).map entV)
  | _, l, [], e, _, h, _ => by simp at h
  | 0, .nil, e0 :: es, e, h, _, _ => by cases h
  | 0, .cons u l, e0 :: es, e, h, he, hv => by
    simp at he; subst he
    rw [List.map_cons, L.rel] at h
    obtain ⟨_, _, hh, _, h2⟩ := h
    cases hh
    exact ⟨entV (f e0), _, rfl, hv, h2⟩
  | i + 1, .nil, e0 :: es, e, h, _, _ => by cases h
  | i + 1, .cons u l, e0 :: es, e, h, he, hv => by
    rw [List.map_cons, L.rel] at h
    obtain ⟨_, _, hh, h1, h2⟩ := h
    cases hh
    exact ⟨entV e0, _, rfl, h1, setAt_rel i l es e h2 (by simpa using he) hv⟩
noncomputable def appL (l m : L) : L := L.rec (motive_1 := fun _ => Unit) (motive_2 := fun _ => L) () (fun _ => ()) (fun _ _ => ()) (fun _ => ()) (fun _ _ => ()) () (fun _ _ _ _ _ => ()) () (fun _ _ => ()) (fun _ _ => ()) (fun _ _ _ _ _ => ()) () (fun _ => ()) (fun _ _ _ => ()) () (fun _ => ()) () (fun _ => ()) (fun _ _ _ _ => ()) m (fun v _ _ ih => .cons v ih) l
theorem appL_rel : ∀ {l m : L} {us vs : List Value}, l.rel g us → m.rel g vs → (appL l m).rel g (us ++ vs)
  | .nil, m, us, vs, h1, h2 => by rw [L.rel] at h1; subst h1; exact h2
  | .cons v l, m, us, vs, h1, h2 => by
    rw [L.rel] at h1
    obtain ⟨u, us', rfl, h3, h4⟩ := h1
    exact ⟨u, _, rfl, h3, appL_rel h4 h2⟩
noncomputable def lenL (l : L) : Nat := L.rec (motive_1 := fun _ => Unit) (motive_2 := fun _ => Nat) () (fun _ => ()) (fun _ _ => ()) (fun _ => ()) (fun _ _ => ()) () (fun _ _ _ _ _ => ()) () (fun _ _ => ()) (fun _ _ => ()) (fun _ _ _ _ _ => ()) () (fun _ => ()) (fun _ _ _ => ()) () (fun _ => ()) () (fun _ => ()) (fun _ _ _ _ => ()) 0 (fun _ _ _ ih => Nat.succ ih) l
theorem lenL_eq : ∀ l : L, lenL l = l.length
  | .nil => rfl
  | .cons v l => by show Nat.succ (lenL l) = _; rw [lenL_eq l]; rfl

/-! The operations. -/
variable {o : Oper}
noncomputable def mark {β : Type} (m : Tb) (no yes : β) : β := Tb.rec (motive := fun _ => β) no (fun _ v _ _ _ => onMp v (fun _ => no) yes no) m
theorem mark_or {β : Type} (m : Tb) (no yes : β) : (m.get .h = .nm ∧ mark m no yes = yes) ∨ mark m no yes = no := by
  cases m with
  | lf => exact .inr rfl
  | nd l v r => cases v <;> first | exact .inl ⟨rfl, rfl⟩ | exact .inr rfl

noncomputable def evMkm (_ : Tr) (_ : Nat) (h : Hp) (n : Nat) : Res := Bool.rec .no (posK 63 n fun p => fN (Nat.succ n) fun n' => h.putK (some ⟨0, 0, 1, .nil, mpM⟩) p fun h' => .ok (.mp p) h' n') (Nat.ble 1 n)
theorem ok_mkm {t : TypeId} (ho : o.op = .makeMap t none) : OpOK P o evMkm := by
  intro e lim h n v h' n' hr ρ g w he m hd hf hn
  unfold evMkm at hr
  cases hb : Nat.ble 1 n
  · rw [hb] at hr; cases hr
  · rw [hb] at hr
    rw [Nat.ble_eq] at hb
    have hr : posK 63 n (fun p => fN (Nat.succ n) fun n' => h.putK (some ⟨0, 0, 1, .nil, mpM⟩) p fun h' => Res.ok (.mp p) h' n') = .ok v h' n' := hr
    rw [posK_eq, fN_eq, Hp.putK_eq] at hr
    cases hr
    have hpn : (posF 63 n).num = n := num_posF 63 n hb (by omega)
    have h0 : g (posF 63 n) = none := hf _ (by omega) (by omega)
    refine ⟨.value (.map (some w.heap.size)), gput g (posF 63 n) (w.heap.size, 1, 0), w.alloc (.map #[] 0), ?_, ⟨w.heap.size, by simp [gput], rfl⟩, ?_, ?_⟩
    · simp only [execOp, ho, Option.map_none, Instr.makeMap, Sem.run_bind, Sem.run_pure, Result.andThen_ok, run_newObj]; rfl
    · rw [Hp.put_get]; exact mem_mkMap m h0
    · rw [Hp.put_get]; exact Fr.ofAlloc hd hpn _ _ _ _

noncomputable def outLk (ok : Bool) (v : V) (t : Bool) : V := Bool.rec v (.tu (.cons v (.cons (.b t) .nil))) ok
noncomputable def evLkp (k : KK) (z : V) (ok : Bool) (x i : X) (e : Tr) (_ : Nat) (h : Hp) (n : Nat) : Res :=
  onB (keq k (evX i e) (evX i e)) (fun t => Bool.rec .no
    (onMp (evX x e) (fun a => Option.rec .no (fun b => mark b.m .no (fndI k (evX i e) (fun _ kv => Res.ok (outLk ok (nthL 1 kv) true) h n) (.ok (outLk ok z false) h n) .no b.z 0)) (h.get a)) (.ok (outLk ok z false) h n) .no) t) .no
def lkRes (ok : Bool) (zv : Value) : Option (Nat × Value) → Value
  | some (_, v) => if ok then .tuple #[v, .bool true] else v
  | none => if ok then .tuple #[zv, .bool false] else zv
theorem run_lookup {t key el : TypeId} (ht : P.underlying t = some (.map key el)) {zv : Value} (hz : (zeroValue el).run P w = .ok zv w) {k : KK} (hk : compKK P key = some k) {x : V} {a : Value} (ha : x.rel g a) (hs : keq k x x = .b true) (ok : Bool) {xv : Value} {es : List MapEntry}
    (hx : (xv = .map none ∧ es = []) ∨ ∃ r clock, xv = .map (some r) ∧ w.heap[r]? = some (.map ⟨es⟩ clock)) {r : Option (Nat × Value)} (hf : (Instr.findKey key a es).run P w = .ok r w) :
    (Instr.lookup t xv a ok).run P w = .ok (lkRes ok zv r) w := by
  rcases hx with ⟨rfl, rfl⟩ | ⟨rr, clock, rfl, hh⟩
  · have hc := key_check (P := P) (w := w) hk ha hs true
    simp only [Instr.lookup, Sem.run_bind, run_underlying ht, Result.andThen_ok, Sem.run_pure, Array.isEmpty_empty, hc]
    rw [hf]
    cases r with
    | none => simp only [Result.andThen_ok, Sem.run_bind, hz, Sem.run_pure]; cases ok <;> rfl
    | some p => simp only [Result.andThen_ok, Sem.run_pure]; cases ok <;> rfl
  · have hc := key_check (P := P) (w := w) hk ha hs (⟨es⟩ : Array MapEntry).isEmpty
    simp only [Instr.lookup, Sem.run_bind, run_underlying ht, Result.andThen_ok, Sem.run_pure, MapKept.run_getObj_map hh, hc]
    rw [hf]
    cases r with
    | none => simp only [Result.andThen_ok, Sem.run_bind, hz, Sem.run_pure]; cases ok <;> rfl
    | some p => simp only [Result.andThen_ok, Sem.run_pure]; cases ok <;> rfl
theorem outLk_rel {ok t : Bool} {v : V} {a : Value} (h : v.rel g a) : (outLk ok v t).rel g (if ok then .tuple #[a, .bool t] else a) := by
  cases ok
  · exact h
  · exact ⟨[a, .bool t], rfl, a, _, rfl, h, .bool t, _, rfl, rfl, rfl⟩
theorem ok_lkp {t key el : TypeId} {ok : Bool} {k : KK} {z : V} {ox oi : Operand} {x i : X} (hx : compX ox = some x) (hi : compX oi = some i) (ht : P.underlying t = some (.map key el)) (hk : compKK P key = some k)
    {inf : TypeInfo} (hinf : P.info? el = some inf) {zv : Value} (hz : inf.zero = some zv) (hzl : ofVal zv = some z) (ho : o.op = .lookup t ox oi ok) : OpOK P o (evLkp k z ok x i) := by
  intro e lim h n v h' n' hr ρ g w he m hd hf hn
  have rx := he ox x hx
  have ri := he oi i hi
  have hzr : (zeroValue el).run P w = .ok zv w := by simp only [zeroValue, typeInfo, Sem.run_bind, run_program, hinf, hz, Sem.run_pure, Result.andThen_ok]
  have zr : z.rel g zv := ofVal_rel g _ hzl
  unfold evLkp at hr
  rcases onB_or (keq k (evX i e) (evX i e)) (fun t => (Bool.rec .no
    (onMp (evX x e) (fun a => Option.rec .no (fun b => mark b.m .no (fndI k (evX i e) (fun _ kv => Res.ok (outLk ok (nthL 1 kv) true) h n) (.ok (outLk ok z false) h n) .no b.z 0)) (h.get a)) (.ok (outLk ok z false) h n) .no) t : Res)) .no with ⟨s, hs, e1⟩ | e1
  · rw [e1] at hr
    cases s
    · cases hr
    · have hr : onMp (evX x e) (fun a => (Option.rec .no (fun b => mark b.m .no (fndI k (evX i e) (fun _ kv => Res.ok (outLk ok (nthL 1 kv) true) h n) (.ok (outLk ok z false) h n) .no b.z 0)) (h.get a) : Res)) (.ok (outLk ok z false) h n) .no = .ok v h' n' := hr
      rcases onMp_or (evX x e) (fun a => (Option.rec .no (fun b => mark b.m .no (fndI k (evX i e) (fun _ kv => Res.ok (outLk ok (nthL 1 kv) true) h n) (.ok (outLk ok z false) h n) .no b.z 0)) (h.get a) : Res)) (.ok (outLk ok z false) h n) .no with ⟨a, h1, h2⟩ | ⟨h1, h2⟩ | h2
      · rw [h2] at hr
        rw [h1, V.rel] at rx
        obtain ⟨r, hg, hv⟩ := rx
        cases hh : h.get a with
        | none => rw [hh] at hr; cases hr
        | some b =>
          rw [hh] at hr
          have hr : mark b.m .no (fndI k (evX i e) (fun _ kv => Res.ok (outLk ok (nthL 1 kv) true) h n) (.ok (outLk ok z false) h n) .no b.z 0) = .ok v h' n' := hr
          rcases mark_or b.m .no (fndI k (evX i e) (fun _ kv => Res.ok (outLk ok (nthL 1 kv) true) h n) (.ok (outLk ok z false) h n) .no b.z 0) with ⟨hm, e2⟩ | e2
          · rw [e2] at hr
            obtain ⟨_, es, clock, hb, hl⟩ := mem_map m hh hg hm
            rcases key_find (P := P) (w := w) hk ri (fun _ kv => Res.ok (outLk ok (nthL 1 kv) true) h n) (.ok (outLk ok z false) h n) .no hl with ⟨j, en, kv, a1, a2, a3, a4, a5⟩ | ⟨a1, a2⟩ | a1
            · rw [a2] at hr
              cases hr
              have := run_lookup (P := P) ht hzr hk ri hs ok (.inr ⟨r, clock, hv, hb⟩) a5
              exact ⟨.value _, g, w, by simp only [execOp, ho, Sem.run_bind, this, Result.andThen_ok, Sem.run_pure]; rfl, outLk_rel a4, m, Fr.refl hd⟩
            · rw [a1] at hr
              cases hr
              have := run_lookup (P := P) ht hzr hk ri hs ok (.inr ⟨r, clock, hv, hb⟩) a2
              exact ⟨.value _, g, w, by simp only [execOp, ho, Sem.run_bind, this, Result.andThen_ok, Sem.run_pure]; rfl, outLk_rel zr, m, Fr.refl hd⟩
            · rw [a1] at hr; cases hr
          · rw [e2] at hr; cases hr
      · rw [h2] at hr
        cases hr
        rw [h1, V.rel] at rx
        have hfk : (Instr.findKey key (ρ oi) []).run P w = .ok none w := by
          rcases key_find (P := P) (w := w) hk ri (fun _ _ => 0) 1 2 (es := []) (l := .nil) rfl with ⟨j, en, kv, a1, _⟩ | ⟨_, a2⟩ | a1
          · simp at a1
          · exact a2
          · cases a1
        have := run_lookup (P := P) ht hzr hk ri hs ok (.inl ⟨rx, rfl⟩) hfk
        exact ⟨.value _, g, w, by simp only [execOp, ho, Sem.run_bind, this, Result.andThen_ok, Sem.run_pure]; rfl, outLk_rel zr, m, Fr.refl hd⟩
      · rw [h2] at hr; cases hr
  · rw [e1] at hr; cases hr

noncomputable def putM (h : Hp) (n : Nat) (a : Pos) (z : L) : Res := h.putK (some ⟨0, 0, 1, z, mpM⟩) a fun h' => .ok (.tu .nil) h' n
noncomputable def evMup (k : KK) (x i y : X) (e : Tr) (lim : Nat) (h : Hp) (n : Nat) : Res :=
  onB (keq k (evX i e) (evX i e)) (fun t => Bool.rec .no
    (onMp (evX x e) (fun a => Option.rec .no (fun b => mark b.m .no (Bool.rec .no (fndI k (evX i e) (fun j kv => onB (sameK (nthL 0 kv) (evX i e)) (fun t => Bool.rec .no (putM h n a (setAt (.tu (.cons (evX i e) (.cons (evX y e) .nil))) j b.z)) t) .no)
      (putM h n a (appL b.z (.cons (.tu (.cons (evX i e) (.cons (evX y e) .nil))) .nil))) .no b.z 0) (Nat.ble lim a.num))) (h.get a)) .no .no) t) .no
theorem ok_mup {t key el : TypeId} {k : KK} {ox oi oy : Operand} {x i y : X} (hx : compX ox = some x) (hi : compX oi = some i) (hy : compX oy = some y) (ht : P.underlying t = some (.map key el)) (hk : compKK P key = some k)
    (ho : o.op = .mapUpdate t ox oi oy) : OpOK P o (evMup k x i y) := by
  intro e lim h n v h' n' hr ρ g w he m hd hf hn
  have rx := he ox x hx
  have ri := he oi i hi
  have ry := he oy y hy
  unfold evMup at hr
  rcases onB_or (keq k (evX i e) (evX i e)) (fun t => (Bool.rec .no
    (onMp (evX x e) (fun a => Option.rec .no (fun b => mark b.m .no (Bool.rec .no (fndI k (evX i e) (fun j kv => onB (sameK (nthL 0 kv) (evX i e)) (fun t => Bool.rec .no (putM h n a (setAt (.tu (.cons (evX i e) (.cons (evX y e) .nil))) j b.z)) t) .no)
      (putM h n a (appL b.z (.cons (.tu (.cons (evX i e) (.cons (evX y e) .nil))) .nil))) .no b.z 0) (Nat.ble lim a.num))) (h.get a)) .no .no) t : Res)) .no with ⟨s, hs, e1⟩ | e1
  · rw [e1] at hr
    cases s
    · cases hr
    · have hr : onMp (evX x e) (fun a => (Option.rec .no (fun b => mark b.m .no (Bool.rec .no (fndI k (evX i e) (fun j kv => onB (sameK (nthL 0 kv) (evX i e)) (fun t => Bool.rec .no (putM h n a (setAt (.tu (.cons (evX i e) (.cons (evX y e) .nil))) j b.z)) t) .no)
        (putM h n a (appL b.z (.cons (.tu (.cons (evX i e) (.cons (evX y e) .nil))) .nil))) .no b.z 0) (Nat.ble lim a.num))) (h.get a) : Res)) .no .no = .ok v h' n' := hr
      rcases onMp_or (evX x e) (fun a => (Option.rec .no (fun b => mark b.m .no (Bool.rec .no (fndI k (evX i e) (fun j kv => onB (sameK (nthL 0 kv) (evX i e)) (fun t => Bool.rec .no (putM h n a (setAt (.tu (.cons (evX i e) (.cons (evX y e) .nil))) j b.z)) t) .no)
        (putM h n a (appL b.z (.cons (.tu (.cons (evX i e) (.cons (evX y e) .nil))) .nil))) .no b.z 0) (Nat.ble lim a.num))) (h.get a) : Res)) .no .no with ⟨a, h1, h2⟩ | ⟨h1, h2⟩ | h2
      · rw [h2] at hr
        rw [h1, V.rel] at rx
        obtain ⟨r, hg, hv⟩ := rx
        cases hh : h.get a with
        | none => rw [hh] at hr; cases hr
        | some b =>
          rw [hh] at hr
          dsimp only at hr
          rcases mark_or b.m .no (Bool.rec .no (fndI k (evX i e) (fun j kv => onB (sameK (nthL 0 kv) (evX i e)) (fun t => Bool.rec .no (putM h n a (setAt (.tu (.cons (evX i e) (.cons (evX y e) .nil))) j b.z)) t) .no)
            (putM h n a (appL b.z (.cons (.tu (.cons (evX i e) (.cons (evX y e) .nil))) .nil))) .no b.z 0) (Nat.ble lim a.num) : Res) with ⟨hm, e2⟩ | e2
          · rw [e2] at hr
            cases hlim : Nat.ble lim a.num
            · rw [hlim] at hr; cases hr
            · rw [hlim] at hr
              rw [Nat.ble_eq] at hlim
              dsimp only at hr
              obtain ⟨_, es, clock, hb, hl⟩ := mem_map m hh hg hm
              have hc := key_check (P := P) (w := w) hk ri hs false
              have hent : V.rel g (.tu (.cons (evX i e) (.cons (evX y e) .nil))) (.tuple ⟨[ρ oi, ρ oy]⟩) := ⟨_, rfl, _, _, rfl, ri, _, _, rfl, ry, rfl⟩
              rcases key_find (P := P) (w := w) hk ri (fun j kv => onB (sameK (nthL 0 kv) (evX i e)) (fun t => (Bool.rec .no (putM h n a (setAt (.tu (.cons (evX i e) (.cons (evX y e) .nil))) j b.z)) t : Res)) .no) (putM h n a (appL b.z (.cons (.tu (.cons (evX i e) (.cons (evX y e) .nil))) .nil))) .no hl with ⟨j, en, kv, a1, a2, a3, a4, a5⟩ | ⟨a1, a2⟩ | a1
              · rw [a2] at hr
                rcases onB_or (sameK (nthL 0 kv) (evX i e)) (fun t => (Bool.rec .no (putM h n a (setAt (.tu (.cons (evX i e) (.cons (evX y e) .nil))) j b.z)) t : Res)) .no with ⟨t', hk', e3⟩ | e3
                · rw [e3] at hr
                  cases t'
                  · cases hr
                  · have hr : putM h n a (setAt (.tu (.cons (evX i e) (.cons (evX y e) .nil))) j b.z) = .ok v h' n' := hr
                    unfold putM at hr
                    rw [Hp.putK_eq] at hr
                    cases hr
                    have hsb := sameK_sound a3 ri hk'
                    have hz : (setAt (.tu (.cons (evX i e) (.cons (evX y e) .nil))) j b.z).rel g ((es.modify j fun e => { e with key := ρ oi, val := ρ oy }).toList.map entV) := by
                      rw [Array.toList_modify]
                      exact setAt_rel j b.z es.toList en hl a1 hent
                    refine ⟨.skip, g, _, ?_, ⟨[], rfl, rfl⟩, by rw [Hp.put_get]; exact mem_setMap m hh hg hm (clock := clock) hz, by rw [Hp.put_get]; exact fr_setMap hd hh hlim hg _ _⟩
                    · have hget : (es[j]?).map (·.key) = some en.key := by rw [← Array.getElem?_toList, a1]; rfl
                      simp only [execOp, ho, Instr.mapUpdate, Sem.run_bind, run_underlying ht, Result.andThen_ok, hv, MapKept.run_getObj_map hb, hc, a5, hget, Option.getD_some, Instr.keyThatStays, hsb, if_true, Sem.run_pure, MapKept.run_setObj_map _ hb]
                · rw [e3] at hr; cases hr
              · rw [a1] at hr
                unfold putM at hr
                rw [Hp.putK_eq] at hr
                cases hr
                have hz : (appL b.z (.cons (.tu (.cons (evX i e) (.cons (evX y e) .nil))) .nil)).rel g ((es.push { key := ρ oi, val := ρ oy, born := clock }).toList.map entV) := by
                  rw [Array.toList_push, List.map_append]
                  exact appL_rel hl ⟨_, _, rfl, hent, rfl⟩
                refine ⟨.skip, g, _, ?_, ⟨[], rfl, rfl⟩, by rw [Hp.put_get]; exact mem_setMap m hh hg hm (clock := clock + 1) hz, by rw [Hp.put_get]; exact fr_setMap hd hh hlim hg _ _⟩
                · simp only [execOp, ho, Instr.mapUpdate, Sem.run_bind, run_underlying ht, Result.andThen_ok, hv, MapKept.run_getObj_map hb, hc, a2, Sem.run_pure, MapKept.run_setObj_map _ hb]
              · rw [a1] at hr; cases hr
          · rw [e2] at hr; cases hr
      · rw [h2] at hr; cases hr
      · rw [h2] at hr; cases hr
  · rw [e1] at hr; cases hr

noncomputable def evMln (x : X) (e : Tr) (_ : Nat) (h : Hp) (n : Nat) : Res :=
  onMp (evX x e) (fun a => Option.rec .no (fun b => mark b.m .no (pv (small (lenL b.z) .bad) h n)) (h.get a)) (.ok (.n 0) h n) .no
theorem ok_mln {t key el : TypeId} {ox : Operand} {x : X} (hx : compX ox = some x) (ht : P.underlying t = some (.map key el)) (ho : o.op = .call { callee := .builtin .len, args := #[ox], argTypes := #[t] }) : OpOK P o (evMln x) := by
  intro e lim h n v h' n' hr ρ g w he m hd hf hn
  have rx := he ox x hx
  unfold evMln at hr
  rcases onMp_or (evX x e) (fun a => (Option.rec .no (fun b => mark b.m .no (pv (small (lenL b.z) .bad) h n)) (h.get a) : Res)) (.ok (.n 0) h n) .no with ⟨a, h1, h2⟩ | ⟨h1, h2⟩ | h2
  · rw [h2] at hr
    rw [h1, V.rel] at rx
    obtain ⟨r, hg, hv⟩ := rx
    cases hh : h.get a with
    | none => rw [hh] at hr; cases hr
    | some b =>
      rw [hh] at hr
      dsimp only at hr
      rcases mark_or b.m .no (pv (small (lenL b.z) .bad) h n) with ⟨hm, e2⟩ | e2
      · rw [e2] at hr
        obtain ⟨hne, rfl, rfl, rfl⟩ := pv_ok hr
        obtain ⟨_, es, clock, hb, hl⟩ := mem_map m hh hg hm
        rcases small_or (lenL b.z) .bad with ⟨hc, e1⟩ | e1
        · rw [e1]
          have hlen : es.size = lenL b.z := by rw [lenL_eq, ← L.rel_length hl]; simp
          refine ⟨.value (.int .i64 es.size), g, w, ?_, by rw [hlen]; exact rel_n g hc rfl, m, Fr.refl hd⟩
          simp [execOp, ho, resolve, invoke, builtin, Builtin.len_, run_underlying ht, hv, goInt, MapKept.run_getObj_map hb]
        · rw [e1] at hne; exact absurd rfl hne
      · rw [e2] at hr; cases hr
  · rw [h2] at hr
    cases hr
    rw [h1, V.rel] at rx
    exact ⟨.value (.int .i64 0), g, w, by simp [execOp, ho, resolve, invoke, builtin, Builtin.len_, run_underlying ht, rx, goInt], rel_n g (by omega) rfl, m, Fr.refl hd⟩
  · rw [h2] at hr; cases hr
end
end Go.Proofs.Ythgaekbcmhbbgaa.Ev
/- Strings' iterators: made, and asked for what comes next (ASCII alone). -/
namespace Go.Proofs.Ythgaekbcmhbbgaa.Ev
set_option linter.unusedVariables false
open Go
noncomputable def itB (bs : List Nat) (pos : Nat) : Blk := ⟨0, 0, 1, .cons (.s bs) (.cons (.n pos) .nil), itM⟩
theorem itM_lf : itM ≠ .lf := fun e => by unfold itM at e; cases e
theorem mem_mkIt {g : Sig} {h : Hm} {w : World} (m : Mem g h w) {p : Pos} (h0 : g p = none) (bs : List Nat) : Mem (gput g p (w.heap.size, 1, 0)) (hput h p (some (itB bs 0))) (w.alloc (.stringIter ⟨⟨bs.map UInt8.ofNat⟩⟩ 0)) where
  inj := by
    intro q q' bq bq' r b1 t1 b2 t2 hq hq' e e'
    unfold hput at hq hq'
    unfold gput at e e'
    by_cases x : q = p <;> by_cases y : q' = p
    · rw [x, y]
    · rw [if_neg y] at hq' e'
      rw [if_pos x] at e
      cases e
      have := m.lt hq' e'
      omega
    · rw [if_neg x] at hq e
      rw [if_pos y] at e'
      cases e'
      have := m.lt hq e
      omega
    · rw [if_neg x] at hq e
      rw [if_neg y] at hq' e'
      exact m.inj q q' bq bq' r b1 t1 b2 t2 hq hq' e e'
  blk := by
    intro q c e
    unfold hput at e
    by_cases x : q = p
    · rw [if_pos x] at e
      cases e
      exact ⟨w.heap.size, 1, 0, #[], by simp [gput, x], .inr ⟨rfl, rfl, rfl, .inr (.inr ⟨_, 0, heap_alloc_new w _, .inr ⟨bs, rfl, rfl, rfl⟩⟩)⟩, rfl, .inl rfl, by show 0 ≤ maxSize; unfold maxSize; omega, fun k hk => absurd hk (Nat.not_lt_zero k)⟩
    · rw [if_neg x] at e
      obtain ⟨r, base, tot, cur', h1, h2, h3, h4, h5, h6⟩ := m.blk q c e
      refine ⟨r, base, tot, cur', by simp [gput, x, h1], (h2.mono (gput_le _ h0)).keep (heap_alloc_keep w _ r (m.lt e h1)), h3, h4, h5, ?_⟩
      intro k hk
      obtain ⟨v, h1, h2, h3⟩ := h6 k hk
      exact ⟨v, h1, h2, V.rel_mono (gput_le _ h0) _ h3⟩
theorem mem_it {g : Sig} {h : Hm} {w : World} (m : Mem g h w) {p : Pos} {b : Blk} (hp : h p = some b) {r : Nat} (hg : g p = some (r, 1, 0)) {bs : List Nat} {pos : Nat} (hz : b.z = .cons (.s bs) (.cons (.n pos) .nil)) (hm : b.m = itM) :
    w.heap[r]? = some (.stringIter ⟨⟨bs.map UInt8.ofNat⟩⟩ pos) := by
  obtain ⟨r', base, tot, cur, h1, h2, _⟩ := m.blk p b hp
  rw [hg] at h1
  cases h1
  have hn : b.m ≠ .lf := by rw [hm]; exact itM_lf
  rcases h2 with h2 | ⟨_, _, h3, ⟨es, clock, h4, h5⟩ | ⟨rec, h4, h5⟩ | ⟨s, pos', h4, h5⟩⟩
  · have := h2.2; omega
  · have h6 := h5.resolve_left hn
    rw [hz] at h6
    have ht : ∀ v ∈ es.toList.map entV, ∀ q, v ≠ .string q := fun v hv q e => by
      obtain ⟨x, _, hx⟩ := List.mem_map.1 hv
      rw [← hx] at e; unfold entV at e; cases e
    generalize es.toList.map entV = zs at h6 ht
    rw [L.rel] at h6
    obtain ⟨u, us, hzs, h7, _⟩ := h6
    rw [V.rel] at h7
    exact absurd h7 (ht u (by rw [hzs]; exact List.mem_cons_self ..) _)
  · obtain ⟨N, ps, x, y, v0, h6, _⟩ := h5.resolve_left hn
    rw [hz] at h6; cases h6
  · obtain ⟨bs', h6, h7, _⟩ := h5.resolve_left hn
    rw [hz] at h6
    cases h6
    rw [h4, h7]
theorem mem_setIt {g : Sig} {h : Hm} {w : World} (m : Mem g h w) {p : Pos} {b : Blk} (hp : h p = some b) {r : Nat} (hg : g p = some (r, 1, 0)) (bs : List Nat) (pos : Nat) :
    Mem g (hput h p (some (itB bs pos))) { w with heap := w.heap.setIfInBounds r (.stringIter ⟨⟨bs.map UInt8.ofNat⟩⟩ pos) } where
  inj := by
    intro q q' bq bq' r' b1 t1 b2 t2 hq hq' e e'
    have : ∀ {q : Pos} {c : Blk}, hput h p (some (itB bs pos)) q = some c → ∃ c', h q = some c' := by
      intro q c e
      unfold hput at e
      split at e
      · rename_i e'; subst e'; exact ⟨b, hp⟩
      · exact ⟨c, e⟩
    obtain ⟨c, hc⟩ := this hq
    obtain ⟨c', hc'⟩ := this hq'
    exact m.inj q q' c c' r' b1 t1 b2 t2 hc hc' e e'
  blk := by
    intro q c e
    unfold hput at e
    have hlt := m.lt hp hg
    by_cases hq : q = p
    · rw [if_pos hq] at e
      cases e
      subst hq
      exact ⟨r, 1, 0, #[], hg, .inr ⟨rfl, rfl, rfl, .inr (.inr ⟨_, pos, by show (w.heap.setIfInBounds r _)[r]? = _; simp [hlt], .inr ⟨bs, rfl, rfl, rfl⟩⟩)⟩, rfl, .inl rfl, by show 0 ≤ maxSize; unfold maxSize; omega, fun k hk => absurd hk (Nat.not_lt_zero k)⟩
    · rw [if_neg hq] at e
      obtain ⟨r', base', tot', cur, h1, h2, h3, h4, h5, h6⟩ := m.blk q c e
      refine ⟨r', base', tot', cur, h1, ?_, h3, h4, h5, h6⟩
      refine h2.keep (heap_setObj w r r' _ ?_)
      intro he
      subst he
      exact hq (m.inj q p c b r' base' tot' 1 0 e hp h1 hg)
section
variable {P : Program} {o : Oper}
noncomputable def evRng (x : X) (e : Tr) (_ : Nat) (h : Hp) (n : Nat) : Res := onStr (evX x e) (fun bs => Bool.rec .no (posK 63 n fun p => fN (Nat.succ n) fun n' => h.putK (some (itB bs 0)) p fun h' => .ok (.lp n #[] .skip .skip) h' n') (Nat.ble 1 n)) .no
theorem ok_rng {t : TypeId} {ox : Operand} {x : X} (hx : compX ox = some x) (ht : P.underlying t = some .string) (ho : o.op = .range t ox) : OpOK P o (evRng x) := by
  intro e lim h n v h' n' hr ρ g w he m hd hf hn
  unfold evRng at hr
  have rx := he ox x hx
  rcases onStr_or (evX x e) (fun bs => (Bool.rec .no (posK 63 n fun p => fN (Nat.succ n) fun n' => h.putK (some (itB bs 0)) p fun h' => .ok (.lp n #[] .skip .skip) h' n') (Nat.ble 1 n) : Res)) .no with ⟨bs, e1, e2⟩ | e2
  · rw [e2] at hr
    rw [e1, V.rel] at rx
    cases hb : Nat.ble 1 n
    · rw [hb] at hr; cases hr
    · rw [hb] at hr
      rw [Nat.ble_eq] at hb
      have hr : posK 63 n (fun p => fN (Nat.succ n) fun n' => h.putK (some (itB bs 0)) p fun h' => Res.ok (.lp n #[] .skip .skip) h' n') = .ok v h' n' := hr
      rw [posK_eq, fN_eq, Hp.putK_eq] at hr
      cases hr
      have hpn : (posF 63 n).num = n := num_posF 63 n hb (by omega)
      have h0 : g (posF 63 n) = none := hf _ (by omega) (by omega)
      refine ⟨.value (.pointer (some ⟨w.heap.size, 0, none⟩)), gput g (posF 63 n) (w.heap.size, 1, 0), w.alloc (.stringIter ⟨⟨bs.map UInt8.ofNat⟩⟩ 0), ?_, ⟨by omega, w.heap.size, by simp [gput], rfl⟩, ?_, ?_⟩
      · simp only [execOp, ho, rx, Instr.range, Sem.run_bind, run_underlying ht, Result.andThen_ok, Sem.run_pure, run_newObj]; rfl
      · rw [Hp.put_get]; exact mem_mkIt m h0 bs
      · rw [Hp.put_get]; exact Fr.ofAlloc hd hpn _ _ _ _
  · rw [e2] at hr; cases hr
def isIt : Tb → Bool
  | .nd .lf (.n 0) .lf => true
  | _ => false
theorem isIt_eq {m : Tb} (h : isIt m = true) : m = itM := by
  unfold isIt at h
  split at h
  · rfl
  · cases h
/-- What comes next in a string: whether there is a letter, where it stands, the letter. -/
noncomputable def evNxt (x : X) (e : Tr) (lim : Nat) (h : Hp) (n : Nat) : Res := match evX x e with
  | .lp N _ _ _ => (match h.get (posF 63 N) with
    | some b => (match b.z with
      | .cons (.s bs) (.cons (.n pos) .nil) => Bool.rec .no (match bs[pos]? with
        | none => .ok (.tu (.cons (.b false) .nil)) h n
        | some c => Bool.rec .no (fN (Nat.succ pos) fun q => h.putK (some (itB bs q)) (posF 63 N) fun h' => .ok (.tu (.cons (.b true) (.cons (.n pos) (.cons (.i .i32 (.ofNat c)) .nil)))) h' n) (Nat.blt c 128))
          (and (isIt b.m) (and (Nat.ble lim (posF 63 N).num) (Nat.blt pos 9223372036854775808)))
      | _ => .no)
    | none => .no)
  | _ => .no
theorem decode_ascii {bs : List Nat} {pos c : Nat} (h : bs[pos]? = some c) (hc : c < 128) : Utf8.decode ⟨⟨bs.map UInt8.ofNat⟩⟩ pos = (c, 1) := by
  have h0 : ((⟨⟨bs.map UInt8.ofNat⟩⟩ : ByteArray).get! (pos + 0)).toNat = c := by
    have hlt : pos < bs.length := (List.getElem?_eq_some_iff.1 h).1
    have he : bs[pos] = c := (List.getElem?_eq_some_iff.1 h).2
    simp [ByteArray.get!, hlt, he]
    omega
  unfold Utf8.decode
  simp only [h0]
  rw [if_pos (by omega)]
theorem ok_nxt {ox : Operand} {x : X} (hx : compX ox = some x) (ho : o.op = .next ox true) : OpOK P o (evNxt x) := by
  intro e lim h n v h' n' hr ρ g w he m hd hf hn
  unfold evNxt at hr
  have rx := he ox x hx
  split at hr
  case h_2 => cases hr
  rename_i N ps xa xb hv
  rw [hv, V.rel] at rx
  obtain ⟨hN, r, hg, hw⟩ := rx
  split at hr
  case h_2 => cases hr
  rename_i b hb
  split at hr
  case h_2 => cases hr
  rename_i bs pos hz
  cases hc : and (isIt b.m) (and (Nat.ble lim (posF 63 N).num) (Nat.blt pos 9223372036854775808))
  · rw [hc] at hr; cases hr
  · rw [hc] at hr
    simp only [Bool.and_eq_true, Nat.ble_eq, Nat.blt_eq] at hc
    obtain ⟨c1, c2, c3⟩ := hc
    have hit := mem_it m hb hg hz (isIt_eq c1)
    have hget : (getObj r).run P w = .ok (.stringIter ⟨⟨bs.map UInt8.ofNat⟩⟩ pos) w := by simp [getObj, Sem.run, hit]
    have hset : ∀ ob, (setObj r ob).run P w = .ok () { w with heap := w.heap.setIfInBounds r ob } := fun ob => by simp [setObj, Sem.run, hit]
    have hsz : (⟨⟨bs.map UInt8.ofNat⟩⟩ : ByteArray).size = bs.length := by simp [ByteArray.size]
    dsimp only at hr
    split at hr
    · rename_i hnone
      cases hr
      have hge : ¬ pos < bs.length := fun hl => by rw [List.getElem?_eq_getElem hl] at hnone; cases hnone
      refine ⟨.value (.tuple #[.bool false]), g, w, ?_, ⟨[.bool false], rfl, _, _, rfl, rfl, rfl⟩, m, Fr.refl hd⟩
      simp only [execOp, ho, hw, Instr.next, Sem.run_bind, hget, Result.andThen_ok, hsz, if_neg hge, Sem.run_pure]
    · rename_i c hsome
      cases hc2 : Nat.blt c 128
      · rw [hc2] at hr; cases hr
      · rw [hc2] at hr
        rw [Nat.blt_eq] at hc2
        have hr : (fN (Nat.succ pos) fun q => h.putK (some (itB bs q)) (posF 63 N) fun h' => Res.ok (.tu (.cons (.b true) (.cons (.n pos) (.cons (.i .i32 (.ofNat c)) .nil)))) h' n) = .ok v h' n' := hr
        rw [fN_eq, Hp.putK_eq] at hr
        cases hr
        have hlt : pos < bs.length := (List.getElem?_eq_some_iff.1 hsome).1
        have hdec := decode_ascii hsome hc2
        refine ⟨.value (.tuple #[.bool true, goInt pos, .int .i32 c]), g, { w with heap := w.heap.setIfInBounds r (.stringIter ⟨⟨bs.map UInt8.ofNat⟩⟩ (pos + 1)) }, ?_, ⟨[.bool true, goInt pos, .int .i32 c], rfl, _, _, rfl, rfl, _, _, rfl, ⟨rfl, c3⟩, _, _, rfl, rfl, rfl⟩, ?_, ?_⟩
        · simp only [execOp, ho, hw, Instr.next, Sem.run_bind, hget, Result.andThen_ok, hsz, if_pos hlt, hdec, hset, Sem.run_pure]
        · rw [Hp.put_get]; exact mem_setIt m hb hg bs (pos + 1)
        · rw [Hp.put_get]; exact fr_setMap hd hb c2 hg _ _
/-- A letter as a string. -/
def r2sV : V → V
  | .i _ (.ofNat c) => if c < 128 then .s [c] else .bad
  | .n c => if c < 128 then .s [c] else .bad
  | _ => .bad
noncomputable def evR2s (x : X) (e : Tr) (_ : Nat) (h : Hp) (n : Nat) : Res := pv (r2sV (evX x e)) h n
theorem encode_ascii {c : Nat} (hc : c < 128) : Utf8.encode (c : Int) = ⟨⟨[c].map UInt8.ofNat⟩⟩ := by
  have hv : Utf8.valid (c : Int) = true := by simp [Utf8.valid]; omega
  unfold Utf8.encode
  simp only [hv, if_true, Int.toNat_natCast]
  rw [if_pos (by omega)]
  rfl
theorem ok_r2s {s d : TypeId} {ox : Operand} {x : X} (hx : compX ox = some x) (hs : (P.underlying s).isSome = true) (hd : P.underlying d = some .string) (ho : o.op = .convert s d ox) : OpOK P o (evR2s x) :=
  ok_pure (val := fun e => r2sV (evX x e)) fun e g ρ w he hne => by
    have rx := he ox x hx
    obtain ⟨ts, hts⟩ := Option.isSome_iff_exists.1 hs
    have key : ∀ (k : IntKind) (c : Nat), c < 128 → ρ ox = .int k c → ∃ u, (execOp ρ o).run P w = .ok (.value u) w ∧ (V.s [c]).rel g u := fun k c hc hv =>
      ⟨.string ⟨⟨[c].map UInt8.ofNat⟩⟩, by
        have hcv : (convert s d (.int k c)).run P w = .ok (.string ⟨⟨[c].map UInt8.ofNat⟩⟩) w := by
          unfold convert
          simp only [Sem.run_bind, run_underlying hts, run_underlying hd, Result.andThen_ok]
          cases ts <;> simp only [Conv.intToString, Sem.run_pure, encode_ascii hc]
        simp only [execOp, ho, hv, Sem.run_bind, hcv, Result.andThen_ok, Sem.run_pure], rfl⟩
    revert hne
    cases hxv : evX x e <;> rw [hxv] at rx <;> intro hne <;> try exact absurd rfl hne
    case n c =>
      rw [V.rel] at rx
      have e0 : r2sV (.n c) = if c < 128 then .s [c] else .bad := rfl
      rw [e0] at hne ⊢
      by_cases hc : c < 128
      · rw [if_pos hc]; exact key _ c hc rx.1
      · rw [if_neg hc] at hne; exact absurd rfl hne
    case i k z =>
      rw [V.rel] at rx
      cases z with
      | negSucc => exact absurd rfl hne
      | ofNat c =>
        have e0 : r2sV (.i k (.ofNat c)) = if c < 128 then .s [c] else .bad := rfl
        rw [e0] at hne ⊢
        by_cases hc : c < 128
        · rw [if_pos hc]; exact key k c hc rx
        · rw [if_neg hc] at hne; exact absurd rfl hne
/-- A value as one of an interface. -/
def mkiV (t : Nat) (v : V) : V := match v with
  | .bad => .bad
  | .lp .. => .bad
  | v => .ifc t v
noncomputable def evMki (t : Nat) (x : X) (e : Tr) (_ : Nat) (h : Hp) (n : Nat) : Res := pv (mkiV t (evX x e)) h n
theorem mkiV_or (t : Nat) (v : V) : mkiV t v = .bad ∨ mkiV t v = .ifc t v := by cases v <;> first | exact .inl rfl | exact .inr rfl
theorem ok_mki {t : TypeId} {ox : Operand} {x : X} (hx : compX ox = some x) {u : _} (ht : P.underlying t = some u) (hu : ∀ a, u ≠ .interface a) (ho : o.op = .makeInterface t ox) : OpOK P o (evMki t x) :=
  ok_pure (val := fun e => mkiV t (evX x e)) fun e g ρ w he hne => by
    have rx := he ox x hx
    rcases mkiV_or t (evX x e) with h | h
    · exact absurd h hne
    · refine ⟨.iface t (ρ ox), ?_, by rw [h]; exact ⟨_, rfl, rx⟩⟩
      have hm : (Instr.makeInterface t (ρ ox)).run P w = .ok (.iface t (ρ ox)) w := by
        unfold Instr.makeInterface
        simp only [Sem.run_bind, run_underlying ht, Result.andThen_ok]
        cases u <;> first | exact absurd rfl (hu _) | rfl
      simp only [execOp, ho, Sem.run_bind, hm, Result.andThen_ok, Sem.run_pure]
/-- What an interface's value is asked for: its own type, which is no interface. -/
noncomputable def tasV (t : Nat) (z : V) (ok : Bool) (v : V) : V := match v with
  | .ifc u x => Bool.rec (Bool.rec .bad (.tu (.cons z (.cons (.b false) .nil))) ok) (Bool.rec x (.tu (.cons x (.cons (.b true) .nil))) ok) (Nat.beq u t)
  | .nif => Bool.rec .bad (.tu (.cons z (.cons (.b false) .nil))) ok
  | _ => .bad
noncomputable def evTas (t : Nat) (z : V) (ok : Bool) (x : X) (e : Tr) (_ : Nat) (h : Hp) (n : Nat) : Res := pv (tasV t z ok (evX x e)) h n
theorem ok_tas {xt t : TypeId} {ok : Bool} {ox : Operand} {x : X} (hx : compX ox = some x) {u : _} (ht : P.underlying t = some u) (hu : ∀ a, u ≠ .interface a) {inf : TypeInfo} (hinf : P.info? t = some inf) {zv : Value} (hz : inf.zero = some zv) {z : V} (hzl : ofVal zv = some z)
    (ho : o.op = .typeAssert ox xt t ok) : OpOK P o (evTas t z ok x) :=
  ok_pure (val := fun e => tasV t z ok (evX x e)) fun e g ρ w he hne => by
    have rx := he ox x hx
    have hzr : (zeroValue t).run P w = .ok zv w := by simp only [zeroValue, typeInfo, Sem.run_bind, run_program, hinf, hz, Sem.run_pure, Result.andThen_ok]
    have zr : z.rel g zv := ofVal_rel g _ hzl
    have done : ∀ {u v}, (Instr.typeAssert (ρ ox) xt t ok).run P w = .ok u w → v.rel g u → ∃ u, (execOp ρ o).run P w = .ok (.value u) w ∧ V.rel g v u := fun h1 h2 =>
      ⟨_, by simp only [execOp, ho, Sem.run_bind, h1, Result.andThen_ok, Sem.run_pure], h2⟩
    revert hne
    cases hxv : evX x e <;> rw [hxv] at rx <;> intro hne <;> try exact absurd rfl hne
    case ifc s y =>
      obtain ⟨a, ha, hy⟩ := rx
      cases hb : Nat.beq s t
      · have e0 : tasV t z ok (.ifc s y) = Bool.rec .bad (.tu (.cons z (.cons (.b false) .nil))) ok := by unfold tasV; simp only [hb]
        have hst : ¬ s = t := fun h => by rw [h, Nat.beq_refl] at hb; cases hb
        rw [e0] at hne ⊢
        cases ok with
        | false => exact absurd rfl hne
        | true =>
          refine done (u := .tuple #[zv, .bool false]) ?_ ⟨[zv, .bool false], rfl, _, _, rfl, zr, _, _, rfl, rfl, rfl⟩
          unfold Instr.typeAssert
          rw [ha]
          simp only [Sem.run_bind, run_underlying ht, Result.andThen_ok]
          cases u <;> first | exact absurd rfl (hu _) | simp [hst, hzr, Sem.run_bind, Sem.run_pure]
      · have e0 : tasV t z ok (.ifc s y) = Bool.rec y (.tu (.cons y (.cons (.b true) .nil))) ok := by unfold tasV; simp only [hb]
        have hst : s = t := Nat.eq_of_beq_eq_true hb
        rw [e0]
        cases ok with
        | false =>
          refine done (u := a) ?_ hy
          unfold Instr.typeAssert
          rw [ha]
          simp only [Sem.run_bind, run_underlying ht, Result.andThen_ok]
          cases u <;> first | exact absurd rfl (hu _) | simp [hst, Sem.run_pure]
        | true =>
          refine done (u := .tuple #[a, .bool true]) ?_ ⟨[a, .bool true], rfl, _, _, rfl, hy, _, _, rfl, rfl, rfl⟩
          unfold Instr.typeAssert
          rw [ha]
          simp only [Sem.run_bind, run_underlying ht, Result.andThen_ok]
          cases u <;> first | exact absurd rfl (hu _) | simp [hst, Sem.run_pure]
    case nif =>
      have ha : ρ ox = .nilIface := rx
      have e0 : tasV t z ok .nif = Bool.rec .bad (.tu (.cons z (.cons (.b false) .nil))) ok := rfl
      rw [e0] at hne ⊢
      cases ok with
      | false => exact absurd rfl hne
      | true =>
        refine done (u := .tuple #[zv, .bool false]) ?_ ⟨[zv, .bool false], rfl, _, _, rfl, zr, _, _, rfl, rfl, rfl⟩
        unfold Instr.typeAssert
        rw [ha]
        simp only [Sem.run_bind, run_underlying ht, Result.andThen_ok]
        cases u <;> first | exact absurd rfl (hu _) | simp [hzr, Sem.run_bind, Sem.run_pure]
/-- The smaller one of two strings. -/
noncomputable def mnsV (x y : V) : V := onStr x (fun l => onStr y (fun m => Bool.rec (.s m) (.s l) (or (ltS l m) (eqS l m))) .bad) .bad
noncomputable def evMns (x y : X) (e : Tr) (_ : Nat) (h : Hp) (n : Nat) : Res := pv (mnsV (evX x e) (evX y e)) h n
theorem ok_mns {t t' : TypeId} {ox oy : Operand} {x y : X} (hx : compX ox = some x) (hy : compX oy = some y) (ho : o.op = .call { callee := .builtin .min, args := #[ox, oy], argTypes := #[t, t'] }) : OpOK P o (evMns x y) :=
  ok_pure (val := fun e => mnsV (evX x e) (evX y e)) fun e g ρ w he hne => by
    have rx := he ox x hx
    have ry := he oy y hy
    unfold mnsV at hne ⊢
    rcases onStr_or (evX x e) (fun l => onStr (evX y e) (fun m => (Bool.rec (.s m) (.s l) (or (ltS l m) (eqS l m)) : V)) .bad) .bad with ⟨l, h1, h2⟩ | h2
    · rw [h2] at hne ⊢
      rw [h1] at rx
      have hv := rel_s rx
      rcases onStr_or (evX y e) (fun m => (Bool.rec (.s m) (.s l) (or (ltS l m) (eqS l m)) : V)) .bad with ⟨m, h3, h4⟩ | h4
      · rw [h4]
        rw [h3] at ry
        have hu := rel_s ry
        have e1 : (or (ltS l m) (eqS l m)) = (Op.bytesLess (bstr l).toList (bstr m).toList || ((bstr l).toList == (bstr m).toList)) := by rw [ltS_eq, eqS_eq, bstr_toList, bstr_toList]
        have hm : (Builtin.min2 (.string (bstr l)) (.string (bstr m))).run P w = .ok (.string (if (or (ltS l m) (eqS l m)) = true then bstr l else bstr m)) w := by
          rw [e1]
          simp [Builtin.min2, Op.stringOp, asBool, Sem.run_bind, Sem.run_pure]
        refine ⟨.string (if (or (ltS l m) (eqS l m)) = true then bstr l else bstr m), by simp [execOp, ho, resolve, invoke, builtin, Builtin.min_, hv, hu, hm], ?_⟩
        cases or (ltS l m) (eqS l m)
        · show (V.s m).rel g (.string (bstr m)); rw [← hu]; exact ry
        · show (V.s l).rel g (.string (bstr l)); rw [← hv]; exact rx
      · rw [h4] at hne; exact absurd rfl hne
    · rw [h2] at hne; exact absurd rfl hne
/-- A slice as a pointer to an array. -/
noncomputable def s2aV (k : Nat) (v : V) : V := match v with
  | .sl a off _ len _ => Bool.rec .bad (.p a off) (and (Nat.ble 1 k) (Nat.ble k len))
  | _ => .bad
noncomputable def evS2a (k : Nat) (x : X) (e : Tr) (_ : Nat) (h : Hp) (n : Nat) : Res := pv (s2aV k (evX x e)) h n
theorem ok_s2a {arr el : TypeId} {k : Nat} {ox : Operand} {x : X} (hx : compX ox = some x) (ht : P.underlying arr = some (.array k el)) (ho : o.op = .sliceToArrayPointer arr ox) : OpOK P o (evS2a k x) :=
  ok_pure (val := fun e => s2aV k (evX x e)) fun e g ρ w he hne => by
    have rx := he ox x hx
    revert hne
    cases hxv : evX x e <;> rw [hxv] at rx <;> intro hne <;> try exact absurd rfl hne
    case sl a off esz len cap =>
      rw [V.rel] at rx
      obtain ⟨r, base, tot, c, o', hg, hv, h1, h2, h3, h4, _⟩ := rx
      have e0 : s2aV k (.sl a off esz len cap) = Bool.rec .bad (.p a off) (and (Nat.ble 1 k) (Nat.ble k len)) := rfl
      rw [e0] at hne ⊢
      cases hb : and (Nat.ble 1 k) (Nat.ble k len)
      · rw [hb] at hne; exact absurd rfl hne
      · simp only [Bool.and_eq_true, Nat.ble_eq] at hb
        have ho' := h4 (by omega)
        subst ho'
        refine ⟨.pointer (some ⟨r, base + off, none⟩), ?_, ⟨r, base, tot, hg, rfl⟩⟩
        have hr : (Instr.arrayAt arr (ρ ox)).run P w = .ok (.pointer (some ⟨r, base + off, none⟩)) w := by
          unfold Instr.arrayAt
          rw [hv]
          simp only [Sem.run_bind, run_underlying ht, Result.andThen_ok]
          rw [if_neg (by omega)]
          rfl
        simp only [execOp, ho, Sem.run_bind, hr, Result.andThen_ok, Sem.run_pure]
/-- A slice's cells are made zero. -/
def repL (z : V) : Nat → L
  | 0 => .nil
  | n + 1 => .cons z (repL z n)
theorem repL_len (z : V) : ∀ n, (repL z n).length = n
  | 0 => rfl
  | n + 1 => by rw [repL, L.length, repL_len z n]
theorem repL_rel {g : Sig} {z : V} {u : Value} (h : z.rel g u) : ∀ n, (repL z n).rel g (List.replicate n u)
  | 0 => rfl
  | n + 1 => ⟨u, List.replicate n u, rfl, h, repL_rel h n⟩
noncomputable def evClr (z : V) (x : X) (e : Tr) (lim : Nat) (h : Hp) (n : Nat) : Res :=
  onS (evX x e) (fun a off esz len _ => Option.rec .no (fun b => Bool.rec .no (h.putK (some (b.setL off (repL z len))) a fun h' => .ok (.tu .nil) h' n)
    (and (Nat.beq esz 1) (and (Nat.ble (Nat.add off len) b.size) (and ((repL z len).allC) (and (Nat.ble lim a.num) (Nat.ble 1 len)))))) (h.get a)) (.ok (.tu .nil) h n) .no
theorem ok_clr {t el : TypeId} {inf : TypeInfo} {zv : Value} {z : V} {ox : Operand} {x : X} (hx : compX ox = some x) (ht : P.underlying t = some (.slice el)) (hinf : P.info? el = some inf) (hz : inf.zero = some zv) (hzl : ofVal zv = some z) (hzc : zv.cells = #[zv])
    (ho : o.op = .call { callee := .builtin .clear, args := #[ox], argTypes := #[t] }) : OpOK P o (evClr z x) := by
  intro e lim h n v h' n' hr ρ g w he m hd hf hn
  have rx := he ox x hx
  have hzr : ∀ w, (zeroValue el).run P w = .ok zv w := fun w => by simp only [zeroValue, typeInfo, Sem.run_bind, run_program, hinf, hz, Sem.run_pure, Result.andThen_ok]
  have zr : z.rel g zv := ofVal_rel g _ hzl
  have hex : ∀ (w' : World), (Builtin.clear_ #[t] o.type #[ρ ox]).run P w = .ok (.tuple #[]) w' → (execOp ρ o).run P w = .ok (.value (.tuple #[])) w' := by
    intro w' hr
    simp [execOp, ho, resolve, invoke, builtin, hr]
  unfold evClr at hr
  rcases onS_or (evX x e) (fun a off esz len _ => (Option.rec .no (fun b => Bool.rec .no (h.putK (some (b.setL off (repL z len))) a fun h' => .ok (.tu .nil) h' n)
    (and (Nat.beq esz 1) (and (Nat.ble (Nat.add off len) b.size) (and ((repL z len).allC) (and (Nat.ble lim a.num) (Nat.ble 1 len)))))) (h.get a) : Res)) (.ok (.tu .nil) h n) .no with ⟨a, off, esz, len, cap, h1, h2⟩ | ⟨h1, h2⟩ | h2
  · rw [h2] at hr
    rw [h1, V.rel] at rx
    obtain ⟨r, base, tot, c, o', hg, hv, hesz, hlc, hcm, ho1, _⟩ := rx
    cases hh : h.get a with
    | none => rw [hh] at hr; cases hr
    | some b =>
      rw [hh] at hr
      dsimp only at hr
      cases hb : and (Nat.beq esz 1) (and (Nat.ble (Nat.add off len) b.size) (and ((repL z len).allC) (and (Nat.ble lim a.num) (Nat.ble 1 len))))
      · rw [hb] at hr; cases hr
      · rw [hb] at hr
        dsimp only at hr
        simp only [Bool.and_eq_true, Nat.beq_eq, Nat.ble_eq] at hb
        obtain ⟨rfl, b2, b3, b4, b5⟩ := hb
        have b2 : off + len ≤ b.size := b2
        rw [Hp.putK_eq] at hr
        cases hr
        have e1 := ho1 (by omega)
        subst e1
        obtain ⟨w', s1, s2, s3⟩ := stores P (n := n) hg b4 (repL z len) (List.replicate len zv) off b h.get w 0 m hd hh (by rw [repL_len]; omega) b3 (repL_rel zr len)
        simp only [Nat.add_zero] at s2 s3
        refine ⟨.value (.tuple #[]), g, w', hex w' ?_, ⟨[], rfl, rfl⟩, by rw [Hp.put_get]; exact s2, by rw [Hp.put_get]; exact s3⟩
        rw [hv]
        obtain ⟨len, rfl⟩ : ∃ k, len = k + 1 := ⟨len - 1, by omega⟩
        have hzc2 : (Builtin.zeroCells zv.cells (len + 1)).toList = List.replicate (len + 1) zv := by
          rw [hzc]
          unfold Builtin.zeroCells
          apply List.ext_getElem
          · simp
          · intro i h1 h2
            simp [Nat.mod_one]
        simp only [Builtin.clear_, Sem.run_bind, run_underlying ht, Result.andThen_ok, hzr, hzc2, s1, Sem.run_pure]
        first | rfl | simp [Sem.run_bind, run_underlying ht, hzr, hzc2, s1, Sem.run_pure]
  · rw [h2] at hr
    cases hr
    rw [h1] at rx
    have hv : ρ ox = .slice none 0 0 := by simpa [V.rel] using rx
    refine ⟨.value (.tuple #[]), g, w, hex w ?_, ⟨[], rfl, rfl⟩, m, Fr.refl hd⟩
    rw [hv]
    simp only [Builtin.clear_, Sem.run_bind, run_underlying ht, Result.andThen_ok, Sem.run_pure]
    first | rfl | simp [Sem.run_bind, run_underlying ht, Sem.run_pure]
  · rw [h2] at hr; cases hr
end
end Go.Proofs.Ythgaekbcmhbbgaa.Ev
/- So many zeros appended to nil; a slice of aggregates cleared. -/
namespace Go.Proofs.Ythgaekbcmhbbgaa.Ev
set_option linter.unusedVariables false
set_option linter.unusedSimpArgs false
open Go

section
variable {P : Program} {o : Oper}

theorem run_append_zeros {t u e : TypeId} {i : TypeInfo} {z : Value} {k ka : IntKind} (ht : P.underlying t = some (.slice e)) (hu : P.underlying u = some (.int k)) (hi : P.info? e = some i) (hz : i.zero = some z)
    (ty : TypeId) (n : Nat) (w : World) (hn0 : 0 < n) (hs0 : 0 < i.size) (h63 : (n : Int) ≤ 9223372036854775807) (h48 : n * i.bytes ≤ 281474976710656) :
    (Builtin.append_ #[t, u] ty #[.slice none 0 0, .int ka n]).run P w =
      .ok (.slice (some ⟨w.heap.size, 0, none⟩) n (grownCap w n 0 e)) (w.drew.alloc (.cells (Builtin.zeroCells z.cells n ++ Builtin.zeroCells z.cells (grownCap w n 0 e - n)) e)) := by
  have hn : n ≠ 0 := by omega
  have h63' : ¬ (9223372036854775807 < (n : Int)) := by omega
  have h48' : ¬ (281474976710656 < Builtin.nextslicecap n 0 * i.bytes) := by rw [nextslicecap_zero hn0]; omega
  have hw : IntKind.i64.wrap (n : Int) = n := wrap_nat (by omega)
  have h48'' : ¬ (281474976710656 < (n : Int) * i.bytes) := by
    have : ((n * i.bytes : Nat) : Int) ≤ 281474976710656 := by omega
    push_cast at this
    omega
  have hneg : ¬ ((n : Int) < 0) := by omega
  simp [Builtin.append_, run_underlying ht, run_underlying hu, sizeOf, typeInfo, zeroValue, hi, hz, asInt, asIntOf, hw, hneg, h48'', hn, h63', h48', Question.forced, Builtin.firstCells, newRow, grownCap]
  intro h0
  have : 0 < n * i.size := Nat.mul_pos hn0 hs0
  omega

noncomputable def evApz (el esz by_ zl : Nat) (z : L) (s c : X) (e : Tr) (_ : Nat) (h : Hp) (n : Nat) : Res :=
  onS (evX s e) (fun _ _ _ _ _ => .no)
    (onI (evX c e) (fun k => Bool.rec .no (fN (Nat.mul k esz) fun s => newB ⟨el, s, zl, z, .lf⟩ (fun p => .sl p 0 esz k none) h n) (and (Nat.ble 1 k) (and (Nat.ble (Nat.mul k esz) 1099511627776) (Nat.ble (Nat.mul k by_) 140737488355328)))) .no)
    .no
theorem getElem_zeroCells {zs : Array Value} {n j : Nat} (h : j < n * zs.size) : (Builtin.zeroCells zs n)[j]? = some zs[j % zs.size]! := by
  simp [Builtin.zeroCells, h]
theorem ok_apz {t u el : TypeId} {os oc : Operand} {s c : X} {i : TypeInfo} {zv : Value} {z : L} {zl : Nat} {k : IntKind} (hs : compX os = some s) (hc : compX oc = some c) (ht : P.underlying t = some (.slice el)) (hu : P.underlying u = some (.int k)) (hi : P.info? el = some i) (hz : i.zero = some zv)
    (h0 : 0 < i.size) (hzl : ofVals zv.cells.toList = some z) (hC : z.allC = true) (hl : zl = z.length) (hsz : zl = i.size)
    (ho : o.op = .call { callee := .builtin .append, args := #[os, oc], argTypes := #[t, u] }) : OpOK P o (evApz el i.size i.bytes zl z s c) := by
  subst hl
  intro e lim h n v h' n' hr ρ g w he m hd hf hn
  have rs := he os s hs
  have rc := he oc c hc
  have hex : (execOp ρ o).run P w = ((Builtin.append_ #[t, u] o.type #[ρ os, ρ oc]).run P w).andThen fun v w' => .ok (.value v) w' := by
    simp [execOp, ho, resolve, invoke, builtin]
  unfold evApz at hr
  cases hsv : evX s e <;> rw [hsv] at hr rs <;> dsimp only [onS, V.asS] at hr
  case ns =>
    have rs' : ρ os = .slice none 0 0 := rs
    rcases onI_or rc (fun k => (Bool.rec .no (fN (Nat.mul k i.size) fun s => newB ⟨el, s, z.length, z, .lf⟩ (fun p => .sl p 0 i.size k none) h n) (and (Nat.ble 1 k) (and (Nat.ble (Nat.mul k i.size) 1099511627776) (Nat.ble (Nat.mul k i.bytes) 140737488355328))) : Res)) .no with ⟨a, ka, h1, h2⟩ | h2
    · rw [h2] at hr
      cases hb : and (Nat.ble 1 a) (and (Nat.ble (Nat.mul a i.size) 1099511627776) (Nat.ble (Nat.mul a i.bytes) 140737488355328))
      · rw [hb] at hr; cases hr
      · rw [hb] at hr
        simp only [Bool.and_eq_true, Nat.ble_eq] at hb
        obtain ⟨b1, b2, b3⟩ := hb
        have b2 : a * i.size ≤ 1099511627776 := b2
        have b3 : a * i.bytes ≤ 140737488355328 := b3
        have hr : fN (Nat.mul a i.size) (fun s => newB ⟨el, s, z.length, z, .lf⟩ (fun p => .sl p 0 i.size a none) h n) = .ok v h' n' := hr
        rw [fN_eq] at hr
        have zr : z.rel g zv.cells.toList := ofVals_rel g _ hzl
        have hzz : zv.cells.size = z.length := by have := L.rel_length zr; simpa using this
        have hbs : a ≤ a * i.size := Nat.le_mul_of_pos_right _ h0
        have hgg := grownCap_ge w a 0 el
        have hgc : grownCap w a 0 el ≤ maxLen := grownCap_le_maxLen w a 0 el (by unfold maxLen; omega)
        have hrun := run_append_zeros (P := P) (ka := ka) ht hu hi hz o.type a w (by omega) h0 (by omega) (by omega)
        rw [rs', h1, hrun] at hex
        have zlen : ∀ n, (Builtin.zeroCells zv.cells n).toList.length = n * i.size := fun n => by simp [Builtin.zeroCells, hzz, hsz]
        obtain ⟨g', nx, m', f'⟩ := newGrown (lim := lim) (el := el) (i := i) (k := a) (w := w.drew) (b := ⟨el, a * i.size, z.length, z, .lf⟩) rfl m.drew hd hf hn h0 hr (Builtin.zeroCells zv.cells a).toList (Builtin.zeroCells zv.cells (grownCap w a 0 el - a)).toList (grownCap w a 0 el) hgg hgc
          (by rw [zlen, zlen, ← Nat.add_mul]; congr 1; omega) (by rw [zlen]) b2 (fun j hj => by
            have hj : j < a * i.size := hj
            have hlt : j % z.length < z.length := Nat.mod_lt _ (by omega)
            obtain ⟨u, c1, c2, c3⟩ := cell_list zr hC el (j % z.length) hlt
            refine ⟨u, ?_, c2, ?_⟩
            · have := getElem_zeroCells (zs := zv.cells) (n := a) (j := j) (by rw [hzz, hsz]; exact hj)
              rw [Array.getElem?_toList, this, hzz, ← c1]
              have : (⟨zv.cells.toList⟩ : Array Value) = zv.cells := rfl
              rw [this, Array.getElem?_eq_getElem (by omega), getElem!_pos zv.cells _ (by omega)]
            · have e1 : (⟨el, a * i.size, z.length, z, .lf⟩ : Blk).cell j = (⟨el, z.length, z.length, z, .lf⟩ : Blk).cell (j % z.length) := by
                rw [cell_lf, cell_lf]; show orZ .bad (nthL (j % z.length) z) = orZ .bad (nthL (j % z.length % z.length) z)
                rw [Nat.mod_mod]
              rw [← e1] at c3; exact c3)
        have e1 : (⟨(Builtin.zeroCells zv.cells a).toList ++ (Builtin.zeroCells zv.cells (grownCap w a 0 el - a)).toList⟩ : Array Value) = Builtin.zeroCells zv.cells a ++ Builtin.zeroCells zv.cells (grownCap w a 0 el - a) := by apply Array.ext'; simp
        rw [e1] at m' f'
        exact ⟨_, g', _, hex, nx, m', (Fr.drew hd).trans f'⟩
    · rw [h2] at hr; cases hr
  all_goals cases hr

theorem getL_relF {g : Sig} (b : Blk) (f : Nat → Value) : ∀ n k, (∀ j, k ≤ j → j < k + n → (b.cell j).rel g (f j)) → (b.getL k n).rel g ((List.range' k n).map f)
  | 0, k, _ => rfl
  | n + 1, k, h => by
    rw [List.range'_succ, List.map_cons]
    exact ⟨f k, _, rfl, h k (Nat.le_refl _) (by omega), getL_relF b f n (k + 1) fun j h1 h2 => h j (by omega) (by omega)⟩

noncomputable def evCla (el esz zl : Nat) (z : L) (x : X) (e : Tr) (lim : Nat) (h : Hp) (n : Nat) : Res :=
  onS (evX x e) (fun a off esz' len _ => Option.rec .no (fun b => Bool.rec .no (h.putK (some (b.setL off ((⟨el, len * esz, zl, z, .lf⟩ : Blk).getL 0 (len * esz)))) a fun h' => .ok (.tu .nil) h' n)
    (and (Nat.beq esz' esz) (and (Nat.ble (Nat.add off (Nat.mul len esz)) b.size) (and (((⟨el, len * esz, zl, z, .lf⟩ : Blk).getL 0 (len * esz)).allC) (and (Nat.ble lim a.num) (Nat.ble 1 len)))))) (h.get a)) (.ok (.tu .nil) h n) .no
theorem ok_cla {t el : TypeId} {inf : TypeInfo} {zv : Value} {z : L} {zl : Nat} {ox : Operand} {x : X} (hx : compX ox = some x) (ht : P.underlying t = some (.slice el)) (hinf : P.info? el = some inf) (hz : inf.zero = some zv)
    (h0 : 0 < inf.size) (hzl : ofVals zv.cells.toList = some z) (hC : z.allC = true) (hl : zl = z.length) (hsz : zl = inf.size)
    (ho : o.op = .call { callee := .builtin .clear, args := #[ox], argTypes := #[t] }) : OpOK P o (evCla el inf.size zl z x) := by
  subst hl
  intro e lim h n v h' n' hr ρ g w he m hd hf hn
  have rx := he ox x hx
  have hzr : ∀ w, (zeroValue el).run P w = .ok zv w := fun w => by simp only [zeroValue, typeInfo, Sem.run_bind, run_program, hinf, hz, Sem.run_pure, Result.andThen_ok]
  have zr : z.rel g zv.cells.toList := ofVals_rel g _ hzl
  have hzz : zv.cells.size = z.length := by have := L.rel_length zr; simpa using this
  have hex : ∀ (w' : World), (Builtin.clear_ #[t] o.type #[ρ ox]).run P w = .ok (.tuple #[]) w' → (execOp ρ o).run P w = .ok (.value (.tuple #[])) w' := by
    intro w' hr
    simp [execOp, ho, resolve, invoke, builtin, hr]
  unfold evCla at hr
  rcases onS_or (evX x e) (fun a off esz' len _ => (Option.rec .no (fun b => Bool.rec .no (h.putK (some (b.setL off ((⟨el, len * inf.size, z.length, z, .lf⟩ : Blk).getL 0 (len * inf.size)))) a fun h' => .ok (.tu .nil) h' n)
    (and (Nat.beq esz' inf.size) (and (Nat.ble (Nat.add off (Nat.mul len inf.size)) b.size) (and (((⟨el, len * inf.size, z.length, z, .lf⟩ : Blk).getL 0 (len * inf.size)).allC) (and (Nat.ble lim a.num) (Nat.ble 1 len)))))) (h.get a) : Res)) (.ok (.tu .nil) h n) .no with ⟨a, off, esz, len, cap, h1, h2⟩ | ⟨h1, h2⟩ | h2
  · rw [h2] at hr
    rw [h1, V.rel] at rx
    obtain ⟨r, base, tot, c, o', hg, hv, hesz, hlc, hcm, ho1, _⟩ := rx
    cases hh : h.get a with
    | none => rw [hh] at hr; cases hr
    | some b =>
      rw [hh] at hr
      dsimp only at hr
      cases hb : and (Nat.beq esz inf.size) (and (Nat.ble (Nat.add off (Nat.mul len inf.size)) b.size) (and (((⟨el, len * inf.size, z.length, z, .lf⟩ : Blk).getL 0 (len * inf.size)).allC) (and (Nat.ble lim a.num) (Nat.ble 1 len))))
      · rw [hb] at hr; cases hr
      · rw [hb] at hr
        dsimp only at hr
        simp only [Bool.and_eq_true, Nat.beq_eq, Nat.ble_eq] at hb
        obtain ⟨rfl, b2, b3, b4, b5⟩ := hb
        have b2 : off + len * inf.size ≤ b.size := b2
        rw [Hp.putK_eq] at hr
        cases hr
        have e1 := ho1 (by omega)
        subst e1
        have hrel : ((⟨el, len * inf.size, z.length, z, .lf⟩ : Blk).getL 0 (len * inf.size)).rel g (Builtin.zeroCells zv.cells len).toList := by
          have e2 : (Builtin.zeroCells zv.cells len).toList = (List.range' 0 (len * inf.size)).map fun j => zv.cells[j % zv.cells.size]! := by
            simp [Builtin.zeroCells, hzz, hsz, List.range_eq_range']
          rw [e2]
          refine getL_relF _ _ _ _ fun j _ hj => ?_
          have hlt : j % z.length < z.length := Nat.mod_lt _ (by omega)
          obtain ⟨u, c1, c2, c3⟩ := cell_list zr hC el (j % z.length) hlt
          have e1 : (⟨el, len * inf.size, z.length, z, .lf⟩ : Blk).cell j = (⟨el, z.length, z.length, z, .lf⟩ : Blk).cell (j % z.length) := by
            rw [cell_lf, cell_lf]; show orZ .bad (nthL (j % z.length) z) = orZ .bad (nthL (j % z.length % z.length) z)
            rw [Nat.mod_mod]
          rw [e1, hzz]
          have e3 : zv.cells[j % z.length]! = u := by
            have : (⟨zv.cells.toList⟩ : Array Value) = zv.cells := rfl
            rw [this, Array.getElem?_eq_getElem (by omega)] at c1
            rw [getElem!_pos zv.cells _ (by omega)]
            exact Option.some.inj c1
          rw [e3]; exact c3
        obtain ⟨w', s1, s2, s3⟩ := stores P (n := n) hg b4 _ _ off b h.get w 0 m hd hh (by rw [getL_length]; omega) b3 hrel
        simp only [Nat.add_zero] at s2 s3
        refine ⟨.value (.tuple #[]), g, w', hex w' ?_, ⟨[], rfl, rfl⟩, by rw [Hp.put_get]; exact s2, by rw [Hp.put_get]; exact s3⟩
        rw [hv]
        obtain ⟨len, rfl⟩ : ∃ k, len = k + 1 := ⟨len - 1, by omega⟩
        simp only [Builtin.clear_, Sem.run_bind, run_underlying ht, Result.andThen_ok, hzr, s1, Sem.run_pure]
        first | rfl | simp [Sem.run_bind, run_underlying ht, hzr, s1, Sem.run_pure]
  · rw [h2] at hr
    cases hr
    rw [h1] at rx
    have hv : ρ ox = .slice none 0 0 := by simpa [V.rel] using rx
    refine ⟨.value (.tuple #[]), g, w, hex w ?_, ⟨[], rfl, rfl⟩, m, Fr.refl hd⟩
    rw [hv]
    simp only [Builtin.clear_, Sem.run_bind, run_underlying ht, Result.andThen_ok, Sem.run_pure]
    first | rfl | simp [Sem.run_bind, run_underlying ht, Sem.run_pure]
  · rw [h2] at hr; cases hr
end
end Go.Proofs.Ythgaekbcmhbbgaa.Ev
/- The evaluator: operations, regions, code, functions. -/
namespace Go.Proofs.Ythgaekbcmhbbgaa.Ev
set_option linter.unusedVariables false
open Go

inductive O where
  | mv (x : X) | pick (c a b : X) | bin (op : BinOp) (x y : X) | eqb (neg : Bool) (x y : X) | not (x : X) | neg (x : X) | conv (k : IntKind) (x : X) | ext (i : Nat) (x : X) | mkf (f : Nat) (a c : XL) | nilck (x : X)
  | fad (k : Nat) (x : X) | ixa (len esz : Nat) (x i : X) | ixs (esz : Nat) (x i : X) | len (x : X) | cap (x : X) | build (z : L) (ps : PL) | part (off n : Nat) (agg : Bool) (x : X) | idx (len esz : Nat) (agg : Bool) (x i : X)
  | alloc (el : TypeId) (z : L) (zl : Nat) | box (el : TypeId) (x : X) | ld (n : Nat) (agg : Bool) (x : X) | st (n : Nat) (x y : X) | bsl (el esz len : Nat) (z : L) (ps : PL) | mks (el esz by_ zl : Nat) (z : L) (xl xc : X)
  | slc (esz : Nat) (x : X) (xl xh xm : Option X) | sla (len esz : Nat) (x : X) (xl xh xm : Option X) | app (el esz by_ : Nat) (s x : X) | mm (mx : Bool) (x : X) (xs : XL)
  | eqa (neg : Bool) (sh : Sh) (x y : X) | eqn (neg : Bool) (x y : X)
  | call (f : Nat) (xs : XL) | callv (x : X) (xs : XL)
  | slen (x : X) | six (x i : X) | sbi (op : BinOp) (x y : X) | ssl (x : X) (xl xh : Option X) | b2s (x : X) | s2b (el : TypeId) (x : X) | cpy (x y : X) | mkm | lkp (k : KK) (z : V) (ok : Bool) (x i : X) | mup (k : KK) (x i y : X) | mln (x : X) | rng (x : X) | nxt (x : X) | r2s (x : X) | mki (t : Nat) (x : X) | tas (t : Nat) (z : V) (ok : Bool) (x : X) | mns (x y : X) | s2a (k : Nat) (x : X) | clr (z : V) (x : X) | slm (esz : Nat) (x xl xh : X) | apz (el esz by_ zl : Nat) (z : L) (s c : X) | cla (el esz zl : Nat) (z : L) (x : X) | nope

/-- What calls do: the function, its arguments, below which place nothing is written, the memory, the next place. -/
abbrev FF := Nat → L → Nat → Hp → Nat → Res

noncomputable def evCall (f : Nat) (xs : XL) (F : FF) (e : Tr) (lim : Nat) (h : Hp) (n : Nat) : Res := F f (evXL xs e) lim h n
noncomputable def onF {β : Type} (v : V) (f : Nat → L → L → β) (z : β) : β := FV.rec (motive := fun _ => β) z f v.asF
noncomputable def onY {β : Type} (v : V) (f : Pos → β) (z : β) : β := MV.rec (motive := fun _ => β) z z f v.asY
/-- The number under which a function table holds what yields do; the mark of their arguments. -/
def YID : Nat := 1099511627776
def yM : V := .lp 0 #[] .skip .skip
noncomputable def evCallv (x : X) (xs : XL) (F : FF) (e : Tr) (lim : Nat) (h : Hp) (n : Nat) : Res := onF (evX x e) (fun f a c => F f (a.app ((evXL xs e).app c)) lim h n) (onY (evX x e) (fun p => F YID (.cons yM (.cons (.yl p) (evXL xs e))) lim h n) .no)

noncomputable def O.ev : O → FF → Tr → Nat → Hp → Nat → Res :=
  O.rec (motive := fun _ => FF → Tr → Nat → Hp → Nat → Res)
    (fun x _ => evMv x) (fun c a b _ => evPick c a b) (fun op x y _ => evBin op x y) (fun n x y _ => evEqb n x y) (fun x _ => evNot x) (fun x _ => evNeg x) (fun k x _ => evConv k x) (fun i x _ => evExt i x) (fun f a c _ => evMkf f a c) (fun x _ => evNilck x)
    (fun k x _ => evFad k x) (fun l s x i _ => evIxa l s x i) (fun s x i _ => evIxs s x i) (fun x _ => evLen x) (fun x _ => evCap x) (fun z ps _ => evBuild z ps) (fun o n a x _ => evPart o n a x) (fun l s a x i _ => evIdx l s a x i)
    (fun el z zl _ => evAlloc el z zl) (fun el x _ => evBox el x) (fun n a x _ => evLd n a x) (fun n x y _ => evSt n x y) (fun el s l z ps _ => evBsl el s l z ps) (fun el s b zl z xl xc _ => evMks el s b zl z xl xc)
    (fun s x a b c _ => evSlc s x a b c) (fun l s x a b c _ => evSla l s x a b c) (fun el s b x y _ => evApp el s b x y) (fun m x xs _ => evMm m x xs) (fun n sh x y _ => evEqa n sh x y) (fun n x y _ => evEqn n x y)
    (fun f xs => evCall f xs) (fun x xs => evCallv x xs)
    (fun x _ => evSlen x) (fun x i _ => evSix x i) (fun op x y _ => evSbi op x y) (fun x a b _ => evSsl x a b) (fun x _ => evB2s x) (fun el x _ => evS2b el x) (fun x y _ => evCpy x y) (fun _ => evMkm) (fun k z ok x i _ => evLkp k z ok x i) (fun k x i y _ => evMup k x i y) (fun x _ => evMln x) (fun x _ => evRng x) (fun x _ => evNxt x) (fun x _ => evR2s x) (fun t x _ => evMki t x) (fun t z ok x _ => evTas t z ok x) (fun x y _ => evMns x y) (fun k x _ => evS2a k x) (fun z x _ => evClr z x) (fun s x a b _ => evSlm s x a b) (fun el s b zl z x c _ => evApz el s b zl z x c) (fun el s zl z x _ => evCla el s zl z x) (fun _ _ _ _ _ => .no)

/-- What is said of a function's calls. -/
def CallsOK (P : Program) (f : Nat) (args : L) (lim : Nat) (h : Hp) (n : Nat) (v : V) (h' : Hp) (n' : Nat) : Prop :=
  ∀ vs g w, args.rel g vs → GOK g → Mem g h.get w → Dom h.get n → Fresh g n n' → n' < 9223372036854775808 →
    (∃ fn, P.funcs[f]? = some fn ∧ (fn.name == "runtime.NumGoroutine") = false ∧ fn.body.isSome = true) ∧
    Calls P f ⟨vs⟩ w fun e w' => ∃ u g', e = .returned u ∧ v.rel g' u ∧ Mem g' h'.get w' ∧ Fr lim n g h.get w n' g' h'.get w'
/-- What is said of a yield's calls. -/
def YldOK (P : Program) (p : Pos) (args : L) (lim : Nat) (h : Hp) (n : Nat) (v : V) (h' : Hp) (n' : Nat) : Prop :=
  ∀ vs g w r, g p = some (r, 1, 0) → args.rel g vs → GOK g → Mem g h.get w → Dom h.get n → Fresh g n n' → n' < 9223372036854775808 →
    ∃ fn tmps assign body, (Instr.yield r ⟨vs⟩).run P w = .ok (.round r fn tmps assign body) w ∧ RoundIn Fence.wide 0 P r fn tmps assign body w fun e w' => ∃ u g', e = .returned u ∧ v.rel g' u ∧ Mem g' h'.get w' ∧ Fr lim n g h.get w n' g' h'.get w'
def YOK (P : Program) (F : FF) : Prop := ∀ p args lim h n v h' n', F YID (.cons yM (.cons (.yl p) args)) lim h n = .ok v h' n' → YldOK P p args lim h n v h' n'
def FOK (P : Program) (F : FF) : Prop := (∀ f args lim h n v h' n', F f args lim h n = .ok v h' n' → CallsOK P f args lim h n v h' n') ∧ YOK P F

/-- No fence; within a round of a loop, or not. -/
def fw (ro : Option Nat) : Fence := { Fence.wide with round := ro }
theorem fw_fn (ro : Option Nat) (f : FuncId) : (fw ro).fn f := trivial
theorem fw_room (ro : Option Nat) (n : Nat) : (fw ro).room n := fun _ h => by simp [fw, Fence.wide] at h
theorem fw_depth (ro : Option Nat) (n : Nat) : (fw ro).depth.isSome = true → 1 ≤ n := fun h => by simp [fw, Fence.wide] at h
theorem callsIn_fw {ro : Option Nat} {n : Nat} {P : Program} {f : FuncId} {args : Array Value} {w : World} {R : Ending → World → Prop} (h : Calls P f args w R) : CallsIn (fw ro) n P f args w R :=
  ⟨trivial, fun cs _ => (callsIn_wide (n := n).2 h).2 cs (room_wide _)⟩
theorem wpIn_none {n : Nat} {P : Program} {c : Code} {Q : Exit → Act → World → Prop} {a : Act} {w : World} (h : c.wpIn (fw none) n P Q a w) : c.wp P Q a w := wpIn_wide.1 h
theorem exec_defer {P : Program} {o : Oper} {c : Call} (hc : o.op = .defer c) {ρ : Operand → Value} {w w' : World} {nx : Next} (h : (execOp ρ o).run P w = .ok nx w') : ∃ d, nx = .defer d := by
  simp only [execOp, hc, Sem.run_bind] at h
  cases hr : (resolve ρ c o.type).run P w with
  | ok d w1 => rw [hr] at h; simp [Result.andThen] at h; exact ⟨d, h.1.symm⟩
  | halt x w1 => rw [hr] at h; simp [Result.andThen] at h

def OpWP (P : Program) (o : Oper) (ev : Tr → Nat → Hp → Nat → Res) : Prop :=
  ∀ e lim h n v h' n', ev e lim h n = .ok v h' n' → ∀ (a : Act) g w, EnvOK g e a.eval → Mem g h.get w → Dom h.get n → Fresh g n n' → n' < 9223372036854775808 →
    ∀ (ro : Option Nat) (K : Act → World → Prop) (Q : Exit → Act → World → Prop), (∀ u g' w', v.rel g' u → Mem g' h'.get w' → Fr lim n g h.get w n' g' h'.get w' → K (a.put o.dst u) w') → o.wpIn (fw ro) 0 P a w K Q

section
variable {P : Program} {o : Oper}
theorem OpOK.wp {ev : Tr → Nat → Hp → Nat → Res} (h : OpOK P o ev) : OpWP P o ev := by
  intro e lim hp n v h' n' hr a g w he m hd hf hn ro K Q hK
  obtain ⟨nx, g', w', h1, h2, h3, h4⟩ := h e lim hp n v h' n' hr a.eval g w he m hd hf hn
  refine ⟨fun _ _ => trivial, ?_⟩
  have hs : o.semAt (fw ro).round a.eval = execOp a.eval o := Oper.semAt_eq ro _ o fun c hc => by
    obtain ⟨d, rfl⟩ := exec_defer hc h1
    exact h2.elim
  rw [hs, h1]
  cases nx with
  | value u => exact hK u g' w' h2 h3 h4
  | skip => exact hK undef g' w' h2 h3 h4
  | _ => exact h2.elim

theorem wp_calls {ro : Option Nat} {f : Nat} {vs : List Value} {args : L} {lim : Nat} {h : Hp} {n : Nat} {v : V} {h' : Hp} {n' : Nat} (hc : CallsOK P f args lim h n v h' n') {a : Act} {g : Sig} {w : World} (hr : args.rel g vs) (hgk : GOK g) (m : Mem g h.get w) (hd : Dom h.get n) (hf : Fresh g n n') (hn : n' < 9223372036854775808)
    (hx : ∀ fn, P.funcs[f]? = some fn → (fn.name == "runtime.NumGoroutine") = false → fn.body.isSome = true → (execOp a.eval o).run P w = .ok (.enter f ⟨vs⟩) w)
    {K : Act → World → Prop} {Q : Exit → Act → World → Prop} (hK : ∀ u g' w', v.rel g' u → Mem g' h'.get w' → Fr lim n g h.get w n' g' h'.get w' → K (a.put o.dst u) w') : o.wpIn (fw ro) 0 P a w K Q := by
  obtain ⟨⟨fn, h1, h2, h3⟩, hcalls⟩ := hc vs g w hr hgk m hd hf hn
  have hx1 := hx fn h1 h2 h3
  refine ⟨fun _ _ => trivial, ?_⟩
  have hs : o.semAt (fw ro).round a.eval = execOp a.eval o := Oper.semAt_eq ro _ o fun c hc => by
    obtain ⟨d, hd⟩ := exec_defer hc hx1
    cases hd
  rw [hs, hx1]
  refine ⟨fw_depth ro 0, callsIn_fw (hcalls.mono fun e w' ⟨u, g', he, hr, hm, hfr⟩ => ?_)⟩
  subst he
  exact hK u g' w' hr hm hfr

theorem ok_call {F : FF} (hF : FOK P F) {f : Nat} {as : Array Operand} {ats : Array TypeId} {xs : XL} (hs : compXL as.toList = some xs) (ho : o.op = .call { callee := .value (.func f), args := as, argTypes := ats }) : OpWP P o (evCall f xs F) := by
  intro e lim h n v h' n' hr a g w he m hd hf hn ro K Q hK
  refine wp_calls (hF.1 _ _ _ _ _ _ _ _ hr) (evXL_rel he _ hs) (he.gok fun _ => rfl) m hd hf hn (fun fn h1 h2 h3 => ?_) hK
  have h3' : fn.body.isNone = false := by cases hb : fn.body <;> simp_all
  simp at h2
  simp [execOp, ho, resolve, Act.eval, Deferred.ofValue, invoke, callFunc, h1, h2, ← Array.toList_map]
  intro hb
  rw [hb] at h3; simp at h3

theorem ok_callv {F : FF} (hF : FOK P F) {ox : Operand} {as : Array Operand} {ats : Array TypeId} {x : X} {xs : XL} (hx : compX ox = some x) (hs : compXL as.toList = some xs) (ho : o.op = .call { callee := .value ox, args := as, argTypes := ats }) : OpWP P o (evCallv x xs F) := by
  intro e lim h n v h' n' hr a g w he m hd hf hn ro K Q hK
  have rx := he ox x hx
  unfold evCallv at hr
  cases hxv : evX x e <;> rw [hxv] at hr rx <;> dsimp only [onF, V.asF, onY, V.asY] at hr
  case fn f la lc =>
    rw [V.rel] at rx
    obtain ⟨va, vc, hv, ra, rc⟩ := rx
    refine wp_calls (hF.1 _ _ _ _ _ _ _ _ hr) (L.rel_app ra (L.rel_app (evXL_rel he _ hs) rc)) (he.gok fun _ => rfl) m hd hf hn (fun fn h1 h2 h3 => ?_) hK
    have h3' : fn.body.isNone = false := by cases hb : fn.body <;> simp_all
    simp at h2
    simp [execOp, ho, resolve, hv, Deferred.ofValue, invoke, callFunc, h1, h2]
    rw [if_neg (by intro hb; rw [hb] at h3; simp at h3)]
    refine congrArg (fun x => Result.ok (Next.enter f x) w) (Array.ext' ?_)
    simp
  case yl p =>
    rw [V.rel] at rx
    obtain ⟨r, hg, hv⟩ := rx
    obtain ⟨fn, tmps, ca, cb, hy, hround⟩ := hF.2 _ _ _ _ _ _ _ _ hr _ g w r hg (evXL_rel he _ hs) (he.gok fun _ => rfl) m hd hf hn
    refine ⟨fun _ _ => trivial, ?_⟩
    have hs' : o.semAt (fw ro).round a.eval = execOp a.eval o := Oper.semAt_eq ro _ o fun c hc => by rw [ho] at hc; cases hc
    have hx1 : (execOp a.eval o).run P w = .ok (.round r fn tmps ca cb) w := by
      simp [execOp, ho, resolve, hv, Deferred.ofValue, invoke]
      have e1 : (⟨List.map a.eval as.toList⟩ : Array Value) = Array.map a.eval as := Array.ext' (by simp)
      rw [e1] at hy
      exact hy
    rw [hs', hx1]
    refine ⟨fw_depth ro 0, ?_⟩
    exact RoundIn.mono hround fun e w' ⟨u, g', he', hr', hm', hfr'⟩ => by
      subst he'
      exact hK u g' w' hr' hm' hfr'
  all_goals cases hr
end
end Go.Proofs.Ythgaekbcmhbbgaa.Ev
/- The places are given out in order. -/
namespace Go.Proofs.Ythgaekbcmhbbgaa.Ev
set_option linter.unusedVariables false
open Go

def Res.ge (n : Nat) : Res → Prop
  | .no => True
  | .ok _ _ n' => n ≤ n'
theorem Res.ge_mono {n m : Nat} (h : n ≤ m) : ∀ {r : Res}, r.ge m → r.ge n
  | .no, _ => trivial
  | .ok .., e => Nat.le_trans h e
section
variable {n : Nat}
theorem ge_no : Res.ge n .no := trivial
theorem ge_ok {v : V} {h : Hp} : Res.ge n (.ok v h n) := Nat.le_refl n
theorem ge_pv (v : V) (h : Hp) : (pv v h n).ge n := by cases v <;> first | exact trivial | exact Nat.le_refl n
theorem ge_newB (b : Blk) (k : Pos → V) (h : Hp) : (newB b k h n).ge n := by
  unfold newB
  cases Nat.ble 1 n
  · trivial
  · show (posK 63 n (fun p => fN (Nat.succ n) fun n' => h.putK (some b) p fun h' => Res.ok (k p) h' n')).ge n
    rw [posK_eq, fN_eq, Hp.putK_eq]; exact Nat.le_succ n
theorem ge_onStr {v : V} {f : List Nat → Res} {z : Res} (h : ∀ a, (f a).ge n) (hz : z.ge n) : (onStr v f z).ge n := by
  show (RV'.rec (motive := fun _ => Res) z f v.asStr).ge n
  cases v.asStr
  · exact hz
  · exact h _
theorem ge_onI {v : V} {f : Nat → Res} {z : Res} (h : ∀ a, (f a).ge n) (hz : z.ge n) : (onI v f z).ge n := by
  show (NV.rec (motive := fun _ => Res) z f v.asNat).ge n
  cases v.asNat
  · exact hz
  · exact h _
theorem ge_onN {v : V} {f : Nat → Res} {z : Res} (h : ∀ a, (f a).ge n) (hz : z.ge n) : (onN v f z).ge n := by
  rcases onN_or v f z with ⟨a, _, e⟩ | e <;> rw [e]
  · exact h a
  · exact hz
theorem ge_onP {v : V} {f : Pos → Nat → Res} {z : Res} (h : ∀ a b, (f a b).ge n) (hz : z.ge n) : (onP v f z).ge n := by
  rcases onP_or v f z with ⟨a, b, _, e⟩ | e <;> rw [e]
  · exact h a b
  · exact hz
theorem ge_onS {v : V} {f : Pos → Nat → Nat → Nat → Option Nat → Res} {y z : Res} (h : ∀ a b c d e, (f a b c d e).ge n) (hy : y.ge n) (hz : z.ge n) : (onS v f y z).ge n := by
  rcases onS_or v f y z with ⟨a, b, c, d, e, _, h1⟩ | ⟨_, h1⟩ | h1 <;> rw [h1]
  · exact h a b c d e
  · exact hy
  · exact hz
theorem ge_bool {b : Bool} {x y : Res} (hx : x.ge n) (hy : y.ge n) : (Bool.rec x y b : Res).ge n := by cases b <;> assumption
theorem ge_opt {α : Type} {o : Option α} {x : Res} {f : α → Res} (hx : x.ge n) (hf : ∀ a, (f a).ge n) : (Option.rec x f o : Res).ge n := by cases o <;> first | exact hx | exact hf _
theorem ge_fN {k : Nat} {f : Nat → Res} (hf : ∀ a, (f a).ge n) : (fN k f).ge n := by rw [fN_eq]; exact hf k
theorem ge_putK {b : Option Blk} {p : Pos} {h : Hp} {f : Hp → Res} (hf : ∀ a, (f a).ge n) : (h.putK b p f).ge n := by rw [Hp.putK_eq]; exact hf _

theorem ge_onB {v : V} {f : Bool → Res} {z : Res} (h : ∀ a, (f a).ge n) (hz : z.ge n) : (onB v f z).ge n := by
  rcases onB_or v f z with ⟨a, _, e⟩ | e <;> rw [e]
  · exact h a
  · exact hz
theorem ge_onMp {v : V} {f : Pos → Res} {y z : Res} (h : ∀ a, (f a).ge n) (hy : y.ge n) (hz : z.ge n) : (onMp v f y z).ge n := by
  rcases onMp_or v f y z with ⟨a, _, h1⟩ | ⟨_, h1⟩ | h1 <;> rw [h1]
  · exact h a
  · exact hy
  · exact hz
theorem ge_mark {m : Tb} {x y : Res} (hx : x.ge n) (hy : y.ge n) : (mark m x y).ge n := by
  rcases mark_or m x y with ⟨_, e⟩ | e <;> rw [e] <;> assumption
theorem ge_fnd {k : KK} {x : V} {fo : Nat → L → Res} {mi ba : Res} (hf : ∀ a b, (fo a b).ge n) (hm : mi.ge n) (hb : ba.ge n) : ∀ (l : L) (i : Nat), (fndI k x fo mi ba l i).ge n
  | .nil, i => hm
  | .cons v l, i => by
    show (onT v (fun kv => onB (keq k x (nthL 0 kv)) (fun t => Bool.rec (fndI k x fo mi ba l (i + 1)) (fo i kv) t) ba) ba).ge n
    rcases onT_or v (fun kv => onB (keq k x (nthL 0 kv)) (fun t => (Bool.rec (fndI k x fo mi ba l (i + 1)) (fo i kv) t : Res)) ba) ba with ⟨kv, _, e⟩ | e <;> rw [e]
    · exact ge_onB (fun t => ge_bool (ge_fnd hf hm hb l (i + 1)) (hf _ _)) hb
    · exact hb

def FF.mono (F : FF) : Prop := ∀ f a lim h n, (F f a lim h n).ge n

theorem O.ev_ge {F : FF} (hF : F.mono) (o : O) (e : Tr) (lim : Nat) (h : Hp) : (o.ev F e lim h n).ge n := by
  cases o
  case mv => exact Nat.le_refl n
  case mkf => exact Nat.le_refl n
  case call => exact hF _ _ _ _ _
  case callv x xs =>
    show (evCallv x xs F e lim h n).ge n
    unfold evCallv
    cases evX x e <;> first | exact hF _ _ _ _ _ | exact trivial
  case build z ps =>
    show (evBuild z ps e lim h n).ge n
    unfold evBuild okL
    split
    · exact Nat.le_refl n
    · trivial
  case alloc => exact ge_newB _ _ _
  case box el x =>
    show (evBox el x e lim h n).ge n
    unfold evBox
    exact ge_bool ge_no (ge_fN fun _ => ge_bool ge_no (ge_newB _ _ _))
  case ld k agg x =>
    show (evLd k agg x e lim h n).ge n
    unfold evLd
    exact ge_onP (fun _ _ => ge_opt ge_no fun _ => ge_bool ge_no (ge_bool ge_ok ge_ok)) ge_no
  case st k x y =>
    show (evSt k x y e lim h n).ge n
    unfold evSt
    exact ge_onP (fun _ _ => ge_opt ge_no fun _ => ge_bool ge_no (ge_putK fun _ => ge_ok)) ge_no
  case bsl el s l z ps =>
    show (evBsl el s l z ps e lim h n).ge n
    unfold evBsl
    exact ge_opt ge_no fun _ => ge_bool ge_no (ge_newB _ _ _)
  case mks el s b zl z xl xc =>
    show (evMks el s b zl z xl xc e lim h n).ge n
    unfold evMks
    exact ge_onI (fun _ => ge_onI (fun _ => ge_bool ge_no (ge_fN fun _ => ge_newB _ _ _)) ge_no) ge_no
  case sla l s x a b c =>
    show (evSla l s x a b c e lim h n).ge n
    unfold evSla
    exact ge_onP (fun _ _ => ge_opt ge_no fun _ => ge_bool ge_no (ge_pv _ _)) ge_no
  case app el s b x y =>
    show (evApp el s b x y e lim h n).ge n
    unfold evApp
    have hs : (onS (evX x e) (fun a b c d f => Res.ok (.sl a b c d f) h n) (.ok .ns h n) .no).ge n := ge_onS (fun _ _ _ _ _ => ge_ok) ge_ok ge_no
    refine ge_onS (fun _ _ _ _ _ => ge_bool (ge_opt ge_no fun _ => ge_bool ge_no (ge_onS (fun _ _ _ _ _ => ge_opt ge_no fun _ => ge_bool ge_no ?_) (ge_newB _ _ _) ge_no)) hs) hs ge_no
    exact ge_opt (ge_bool (ge_bool ge_no (ge_fN fun _ => ge_newB _ _ _)) (ge_bool ge_no (ge_putK fun _ => ge_fN fun _ => ge_ok))) fun _ => ge_bool (ge_bool ge_no (ge_fN fun _ => ge_newB _ _ _)) (ge_bool ge_no (ge_putK fun _ => ge_fN fun _ => ge_ok))
  case nope => trivial
  case rng x =>
    show (evRng x e lim h n).ge n
    unfold evRng
    refine ge_onStr (fun _ => ge_bool ge_no ?_) ge_no
    rw [posK_eq, fN_eq, Hp.putK_eq]; exact Nat.le_succ n
  case nxt x =>
    show (evNxt x e lim h n).ge n
    unfold evNxt
    split
    · split
      · split
        · refine ge_bool ge_no ?_
          split
          · exact ge_ok
          · exact ge_bool ge_no (ge_fN fun _ => ge_putK fun _ => ge_ok)
        · exact ge_no
      · exact ge_no
    · exact ge_no
  case mkm =>
    show (evMkm e lim h n).ge n
    unfold evMkm
    refine ge_bool ge_no ?_
    rw [posK_eq, fN_eq, Hp.putK_eq]; exact Nat.le_succ n
  case lkp k z ok x i =>
    show (evLkp k z ok x i e lim h n).ge n
    unfold evLkp
    exact ge_onB (fun _ => ge_bool ge_no (ge_onMp (fun _ => ge_opt ge_no fun _ => ge_mark ge_no (ge_fnd (fun _ _ => ge_ok) ge_ok ge_no _ _)) ge_ok ge_no)) ge_no
  case mup k x i y =>
    show (evMup k x i y e lim h n).ge n
    unfold evMup
    exact ge_onB (fun _ => ge_bool ge_no (ge_onMp (fun _ => ge_opt ge_no fun _ => ge_mark ge_no (ge_bool ge_no (ge_fnd (fun _ _ => ge_onB (fun _ => ge_bool ge_no (ge_putK fun _ => ge_ok)) ge_no) (ge_putK fun _ => ge_ok) ge_no _ _))) ge_no ge_no)) ge_no
  case mln x =>
    show (evMln x e lim h n).ge n
    unfold evMln
    exact ge_onMp (fun _ => ge_opt ge_no fun _ => ge_mark ge_no (ge_pv _ _)) ge_ok ge_no
  case s2b el x =>
    show (evS2b el x e lim h n).ge n
    unfold evS2b
    exact ge_onStr (fun _ => ge_fN fun _ => ge_bool ge_no (ge_newB _ _ _)) ge_no
  case clr z x =>
    show (evClr z x e lim h n).ge n
    unfold evClr
    exact ge_onS (fun _ _ _ _ _ => ge_opt ge_no fun _ => ge_bool ge_no (ge_putK fun _ => ge_ok)) ge_ok ge_no
  case apz el s b zl z x c =>
    show (evApz el s b zl z x c e lim h n).ge n
    unfold evApz
    exact ge_onS (fun _ _ _ _ _ => ge_no) (ge_onI (fun _ => ge_bool ge_no (ge_fN fun _ => ge_newB _ _ _)) ge_no) ge_no
  case cla el s zl z x =>
    show (evCla el s zl z x e lim h n).ge n
    unfold evCla
    exact ge_onS (fun _ _ _ _ _ => ge_opt ge_no fun _ => ge_bool ge_no (ge_putK fun _ => ge_ok)) ge_ok ge_no
  case slm s x a b =>
    show (evSlm s x a b e lim h n).ge n
    unfold evSlm
    have hs : (evSlc s x (some a) (some b) none e lim h n).ge n := ge_pv _ _
    exact ge_onS (fun _ _ _ _ _ => ge_opt (ge_onN (fun _ => ge_onN (fun _ => ge_bool (ge_opt ge_no fun _ => ge_bool ge_no (ge_fN fun _ => ge_fN fun _ => ge_ok)) hs) ge_no) ge_no) fun _ => hs) hs ge_no
  case cpy x y =>
    show (evCpy x y e lim h n).ge n
    unfold evCpy
    refine ge_onS (fun _ _ _ _ _ => ge_onS (fun _ _ _ _ _ => ge_opt ge_no fun _ => ge_opt ge_no fun _ => ge_fN fun _ => ge_bool ge_no (ge_putK fun _ => ge_ok)) ge_ok ge_no) (ge_onS (fun _ _ _ _ _ => ge_ok) ge_ok ge_no) ge_no
  all_goals exact ge_pv _ _
end

/-! Regions. -/
inductive RL where
  | nil | cons (dst : Option Pos) (gd : Option (Pos × Bool)) (o : O) (l : RL)
inductive Rg where
  | no | ok (e : Tr) (h : Hp) (n : Nat)
noncomputable def putd {β : Type} (d : Option Pos) (v : V) (e : Tr) (k : Tr → β) : β := Option.rec (motive := fun _ => β) (k e) (fun p => e.setK v p k) d
noncomputable def setD (d : Option Pos) (v : V) (e : Tr) : Tr := match d with | none => e | some p => e.set v p
theorem putd_eq {β : Type} (d : Option Pos) (v : V) (e : Tr) (k : Tr → β) : putd d v e k = k (setD d v e) := by
  cases d
  · rfl
  · exact Tr.setK_eq _ _ _ _
/-- Whether a guarded operation is wanted; a value that is no bool: it isn't. -/
noncomputable def guardR (g : V) (b : Bool) (run skip z : Rg) : Rg := onB g (fun t => Bool.rec (Bool.rec run skip b) (Bool.rec skip run b) t) (onT g (fun l => L.rec (motive_1 := fun _ => Unit) (motive_2 := fun _ => Rg) () (fun _ => ()) (fun _ _ => ()) (fun _ => ()) (fun _ _ => ()) () (fun _ _ _ _ _ => ()) () (fun _ _ => ()) (fun _ _ => ()) (fun _ _ _ _ _ => ()) () (fun _ => ()) (fun _ _ _ => ()) () (fun _ => ()) () (fun _ => ()) (fun _ _ _ _ => ()) skip (fun _ _ _ _ => z) l) z)
noncomputable def runR (d : Option Pos) (o : O) (ih : FF → Nat → Tr → Hp → Nat → Rg) (F : FF) (lim : Nat) (e : Tr) (h : Hp) (n : Nat) : Rg :=
  Res.rec (motive := fun _ => Rg) .no (fun v h' n' => putd d v e fun e' => ih F lim e' h' n') (o.ev F e lim h n)
noncomputable def evR : RL → FF → Nat → Tr → Hp → Nat → Rg :=
  RL.rec (motive := fun _ => FF → Nat → Tr → Hp → Nat → Rg) (fun _ _ e h n => .ok e h n)
    (fun d g o _ ih F lim e h n => Option.rec (motive := fun _ => Rg) (runR d o ih F lim e h n)
      (fun gd => guardR (e.get gd.1) gd.2 (runR d o ih F lim e h n) (putd d (.tu .nil) e fun e' => ih F lim e' h n) .no) g)

def Rg.ge (n : Nat) : Rg → Prop
  | .no => True
  | .ok _ _ n' => n ≤ n'
theorem evR_ge {F : FF} (hF : F.mono) : ∀ (l : RL) (lim : Nat) (e : Tr) (h : Hp) (n : Nat), (evR l F lim e h n).ge n
  | .nil, _, _, _, n => Nat.le_refl n
  | .cons d g o l, lim, e, h, n => by
    have hrun : (runR d o (evR l) F lim e h n).ge n := by
      unfold runR
      cases hr : o.ev F e lim h n with
      | no => trivial
      | ok v h' n' =>
        have h1 := O.ev_ge (n := n) hF o e lim h
        rw [hr] at h1
        have h1 : n ≤ n' := h1
        show (putd d v e fun e' => evR l F lim e' h' n').ge n
        rw [putd_eq]
        have := evR_ge hF l lim (setD d v e) h' n'
        revert this
        generalize evR l F lim (setD d v e) h' n' = r
        cases r with
        | no => intro _; trivial
        | ok e2 h2 n2 => intro this; exact Nat.le_trans h1 this
    have hskip : (putd d (.tu .nil) e fun e' => evR l F lim e' h n).ge n := by rw [putd_eq]; exact evR_ge hF l lim _ h n
    cases g with
    | none => exact hrun
    | some gd =>
      show (guardR (e.get gd.1) gd.2 (runR d o (evR l) F lim e h n) (putd d (.tu .nil) e fun e' => evR l F lim e' h n) .no).ge n
      unfold guardR
      cases e.get gd.1
      case b x => cases x <;> cases gd.2 <;> first | exact hrun | exact hskip
      case tu l => cases l <;> first | exact hskip | trivial
      all_goals trivial
end Go.Proofs.Ythgaekbcmhbbgaa.Ev
