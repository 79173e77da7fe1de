/- From the model's operations to the evaluator's. -/
import Derived.Test.YtjhgingmbklhaaaEvM
namespace Go.Proofs.Ytjhgingmbklhaaa.Ev
set_option linter.unusedVariables false
open Go

def compBin (P : Program) (op : BinOp) (t : TypeId) (x y : X) : Option O :=
  match P.underlying t with
  | some (.int _) => some (.bin op x y)
  | some .bool => match op with
    | .eql => some (.eqb false x y)
    | .neq => some (.eqb true x y)
    | _ => none
  | some (.slice _) => match op with
    | .eql => some (.eqn false x y)
    | .neq => some (.eqn true x y)
    | _ => none
  | some (.struct _) => if P.eqGuardType P.depth t = false then match op, compSh P 20 t with
    | .eql, some sh => some (.eqa false sh x y)
    | .neq, some sh => some (.eqa true sh x y)
    | _, _ => none else none
  | some (.array _ _) => if P.eqGuardType P.depth t = false then match op, compSh P 20 t with
    | .eql, some sh => some (.eqa false sh x y)
    | .neq, some sh => some (.eqa true sh x y)
    | _, _ => none else none
  | _ => none

def compO0 (P : Program) (o : Oper) : Option O :=
  match o.op with
  | .move x => (compX x).map .mv
  | .assign x => (compX x).map .mv
  | .pick c a b => match compX c, compX a, compX b with
    | some c, some a, some b => some (.pick c a b)
    | _, _, _ => none
  | .binOp op t x y _ => match compX x, compX y with
    | some x, some y => compBin P op t x y
    | _, _ => none
  | .unOp .not _ x => (compX x).map .not
  | .unOp .neg _ x => (compX x).map .neg
  | .convert s d x => match (P.underlying s).isSome, P.underlying d, compX x with
    | true, some (.int k), some x => some (.conv k x)
    | _, _, _ => none
  | .extract x i => (compX x).map (.ext i)
  | .makeFunc (.func f) a c => match compXL a.toList, compXL c.toList with
    | some a, some c => some (.mkf f a c)
    | _, _ => none
  | .nilCheck x => (compX x).map .nilck
  | .fieldAddr s x f => match P.underlying s, compX x with
    | some (.struct fs), some x => match fs[f]? with
      | some fd => match P.info? fd.type with
        | some i => if i.size ≠ 0 then some (.fad fd.offset x) else none
        | none => none
      | none => none
    | _, _ => none
  | .indexAddr t x i => match compX x, compX i with
    | some x, some i => match P.underlying t with
      | some (.array len el) => match P.info? el with
        | some inf => some (.ixa len inf.size x i)
        | none => none
      | some (.slice el) => match P.info? el with
        | some inf => some (.ixs inf.size x i)
        | none => none
      | _ => none
    | _, _ => none
  | .build t parts => match P.info? t with
    | some i => match i.zero with
      | some zv => match ofVals zv.cells.toList with
        | some z => match P.underlying t with
          | some (.struct fs) => if fs.all (fun f => (P.info? f.type).isSome) = true then
              (compPL (fun j => (fs[j]?).map fun f => (f.offset, ((P.info? f.type).map (·.size)).getD 0)) parts.toList).map (.build z) else none
          | some (.array _ el) => match P.info? el with
            | some ie => (compPL (fun j => some (j * ie.size, ie.size)) parts.toList).map (.build z)
            | none => none
          | _ => none
        | none => none
      | none => none
    | none => none
  | .field t x f => match P.underlying t, compX x with
    | some (.struct fs), some x => match fs[f]? with
      | some fd => match P.info? fd.type, P_isAgg P fd.type with
        | some i, some agg => some (.part fd.offset i.size agg x)
        | _, _ => none
      | none => none
    | _, _ => none
  | .index t x i => match P.underlying t, compX x, compX i with
    | some (.array len el), some x, some i => match P.info? el, P_isAgg P el with
      | some inf, some agg => some (.idx len inf.size agg x i)
      | _, _ => none
    | _, _, _ => none
  | .alloc el => match P.info? el with
    | some i => match i.zero with
      | some zv => match ofVals zv.cells.toList with
        | some z => if z.allC = true ∧ z.length ≤ maxSize then some (.alloc el z z.length) else none
        | none => none
      | none => none
    | none => none
  | .box el x => (compX x).map (.box el)
  | .load t x => match P.info? t, P_isAgg P t, compX x with
    | some i, some agg, some x => if agg = false → i.size = 1 then some (.ld i.size agg x) else none
    | _, _, _ => none
  | .store t x y => match P.info? t, compX x, compX y with
    | some i, some x, some y => some (.st i.size x y)
    | _, _, _ => none
  | .buildSlice t len parts => match P.underlying t with
    | some (.slice el) => match P.info? el with
      | some i => match i.zero with
        | some zv => match ofVals ((Array.range (len * i.size)).map (zv.cells[· % zv.cells.size]!)).toList, compPL (fun j => some (j * i.size, i.size)) parts.toList with
          | some z, some ps => if 0 < i.size ∧ zv.cells.size = i.size ∧ len * i.size ≤ 16777216 then some (.bsl el i.size len z ps) else none
          | _, _ => none
        | none => none
      | none => none
    | _ => none
  | .makeSlice t l c => match P.underlying t with
    | some (.slice el) => match P.info? el with
      | some i => match i.zero with
        | some zv => match ofVals zv.cells.toList, compX l, compX c with
          | some z, some l, some c => if 0 < i.size ∧ z.allC = true ∧ z.length = i.size then some (.mks el i.size i.bytes z.length z l c) else none
          | _, _, _ => none
        | none => none
      | none => none
    | _ => none
  | .slice t x lo hi mx => match compX x, compXO lo, compXO hi, compXO mx with
    | some x, some lo', some hi', some mx' => if mx.isSome = true → hi.isSome = true then
        match P.underlying t with
        | some (.slice el) => match P.info? el with
          | some i => some (.slc i.size x lo' hi' mx')
          | none => none
        | some (.array len el) => match P.info? el with
          | some i => if 0 < i.size then some (.sla len i.size x lo' hi' mx') else none
          | none => none
        | _ => none
      else none
    | _, _, _, _ => none
  | .call { callee := .builtin .len, args := ⟨[x]⟩, argTypes := ⟨[t]⟩ } => match P.underlying t with
    | some (.slice _) => (compX x).map .len
    | _ => none
  | .call { callee := .builtin .cap, args := ⟨[x]⟩, argTypes := ⟨[t]⟩ } => match P.underlying t with
    | some (.slice _) => (compX x).map .cap
    | _ => none
  | .call { callee := .builtin .append, args := ⟨[s, x]⟩, argTypes := ⟨[t, t']⟩ } => if t = t' then match P.underlying t with
    | some (.slice el) => match P.info? el with
      | some i => match i.zero with
        | some zv => match compX s, compX x with
          | some s, some x => if 0 < i.size ∧ zv.cells.size = i.size then some (.app el i.size i.bytes s x) else none
          | _, _ => none
        | none => none
      | none => none
    | _ => none else none
  | .call { callee := .builtin .max, args := ⟨x :: xs⟩, argTypes := _ } => match compX x, compXL xs with
    | some x, some xs => some (.mm true x xs)
    | _, _ => none
  | .call { callee := .builtin .min, args := ⟨x :: xs⟩, argTypes := _ } => match compX x, compXL xs with
    | some x, some xs => some (.mm false x xs)
    | _, _ => none
  | .call { callee := .value (.func f), args := as, argTypes := _ } => (compXL as.toList).map (.call f)
  | .call { callee := .value x, args := as, argTypes := _ } => match compX x, compXL as.toList with
    | some x, some xs => some (.callv x xs)
    | _, _ => none
  | _ => none

theorem compO0_sound {P : Program} {F : FF} (hF : FOK P F) {o : Oper} {q : O} (h : compO0 P o = some q) : OpWP P o (q.ev F) := by
  unfold compO0 at h
  split at h
  case h_1 x ho => simp only [Option.map_eq_some_iff] at h; obtain ⟨x', hx, rfl⟩ := h; exact (ok_mv hx (.inl ho)).wp
  case h_2 x ho => simp only [Option.map_eq_some_iff] at h; obtain ⟨x', hx, rfl⟩ := h; exact (ok_mv hx (.inr ho)).wp
  case h_3 ho =>
    split at h
    · rename_i h1 h2 h3; cases h; exact (ok_pick h1 h2 h3 ho).wp
    · cases h
  case h_4 ho =>
    split at h
    · rename_i h1 h2
      unfold compBin at h
      split at h
      · cases h; exact (ok_bin h1 h2 ho).wp
      · rename_i ht
        split at h
        · cases h; exact (ok_eqb (neg := false) h1 h2 ht ho).wp
        · cases h; exact (ok_eqb (neg := true) h1 h2 ht ho).wp
        · cases h
      · rename_i ht
        split at h
        · cases h; exact (ok_eqn (neg := false) h1 h2 ht ho).wp
        · cases h; exact (ok_eqn (neg := true) h1 h2 ht ho).wp
        · cases h
      · rename_i ht
        split at h
        · rename_i hg
          split at h
          · rename_i hs; cases h; exact (ok_eqa (neg := false) h1 h2 (.inl ⟨_, ht⟩) hs hg ho).wp
          · rename_i hs; cases h; exact (ok_eqa (neg := true) h1 h2 (.inl ⟨_, ht⟩) hs hg ho).wp
          · cases h
        · cases h
      · rename_i ht
        split at h
        · rename_i hg
          split at h
          · rename_i hs; cases h; exact (ok_eqa (neg := false) h1 h2 (.inr ⟨_, _, ht⟩) hs hg ho).wp
          · rename_i hs; cases h; exact (ok_eqa (neg := true) h1 h2 (.inr ⟨_, _, ht⟩) hs hg ho).wp
          · cases h
        · cases h
      · cases h
    · cases h
  case h_5 ho => simp only [Option.map_eq_some_iff] at h; obtain ⟨x', hx, rfl⟩ := h; exact (ok_not hx ho).wp
  case h_6 ho => simp only [Option.map_eq_some_iff] at h; obtain ⟨x', hx, rfl⟩ := h; exact (ok_neg hx ho).wp
  case h_7 ho =>
    split at h
    · rename_i h1 h2 h3; cases h; exact (ok_conv h3 h1 h2 ho).wp
    · cases h
  case h_8 ho => simp only [Option.map_eq_some_iff] at h; obtain ⟨x', hx, rfl⟩ := h; exact (ok_ext hx ho).wp
  case h_9 ho =>
    split at h
    · rename_i h1 h2; cases h; exact (ok_mkf h1 h2 ho).wp
    · cases h
  case h_10 ho => simp only [Option.map_eq_some_iff] at h; obtain ⟨x', hx, rfl⟩ := h; exact (ok_nilck hx ho).wp
  case h_11 ho =>
    split at h
    · rename_i h1 h2
      split at h
      · rename_i h3
        split at h
        · rename_i h4
          split at h
          · rename_i h5; cases h; exact (ok_fad h2 h1 h3 h4 h5 ho).wp
          · cases h
        · cases h
      · cases h
    · cases h
  case h_12 ho =>
    split at h
    · rename_i h1 h2
      split at h
      · rename_i h3
        split at h
        · rename_i h4; cases h; exact (ok_ixa h1 h2 h3 h4 ho).wp
        · cases h
      · rename_i h3
        split at h
        · rename_i h4; cases h; exact (ok_ixs h1 h2 h3 h4 ho).wp
        · cases h
      · cases h
    · cases h
  case h_13 ho =>
    split at h
    · rename_i h1
      split at h
      · rename_i h2
        split at h
        · rename_i h3
          split at h
          · rename_i h4
            split at h
            · rename_i h5
              simp only [Option.map_eq_some_iff] at h; obtain ⟨ps, hp, rfl⟩ := h
              exact (ok_build_struct h4 h1 h2 h3 h5 hp ho).wp
            · cases h
          · rename_i h4
            split at h
            · rename_i h5
              simp only [Option.map_eq_some_iff] at h; obtain ⟨ps, hp, rfl⟩ := h
              exact (ok_build_array h4 h1 h2 h3 h5 hp ho).wp
            · cases h
          · cases h
        · cases h
      · cases h
    · cases h
  case h_14 ho =>
    split at h
    · rename_i h1 h2
      split at h
      · rename_i h3
        split at h
        · rename_i h4 h5; cases h; exact (ok_part h2 h1 h3 h4 h5 ho).wp
        · cases h
      · cases h
    · cases h
  case h_15 ho =>
    split at h
    · rename_i h1 h2 h3
      split at h
      · rename_i h4 h5; cases h; exact (ok_idx h2 h3 h1 h4 h5 ho).wp
      · cases h
    · cases h
  case h_16 ho =>
    split at h
    · rename_i h1
      split at h
      · rename_i h2
        split at h
        · rename_i h3
          split at h
          · rename_i h4; cases h; exact (ok_alloc h1 h2 h3 h4.1 rfl h4.2 ho).wp
          · cases h
        · cases h
      · cases h
    · cases h
  case h_17 ho => simp only [Option.map_eq_some_iff] at h; obtain ⟨x', hx, rfl⟩ := h; exact (ok_box hx ho).wp
  case h_18 ho =>
    split at h
    · rename_i h1 h2 h3
      split at h
      · rename_i h4; cases h; exact (ok_ld h3 h1 h2 h4 ho).wp
      · cases h
    · cases h
  case h_19 ho =>
    split at h
    · rename_i h1 h2 h3; cases h; exact (ok_st h2 h3 h1 ho).wp
    · cases h
  case h_20 ho =>
    split at h
    · rename_i h1
      split at h
      · rename_i h2
        split at h
        · rename_i h3
          split at h
          · rename_i h4 h5
            split at h
            · rename_i h6; cases h; exact (ok_bsl h1 h2 h3 h6.1 h6.2.1 h6.2.2 h4 h5 ho).wp
            · cases h
          · cases h
        · cases h
      · cases h
    · cases h
  case h_21 ho =>
    split at h
    · rename_i h1
      split at h
      · rename_i h2
        split at h
        · rename_i h3
          split at h
          · rename_i h4 h5 h7
            split at h
            · rename_i h6; cases h; exact (ok_mks h1 h2 h3 h6.1 h4 h6.2.1 rfl h6.2.2 h5 h7 ho).wp
            · cases h
          · cases h
        · cases h
      · cases h
    · cases h
  case h_22 ho =>
    split at h
    · rename_i h1 h2 h3 h4
      split at h
      · rename_i h5
        split at h
        · rename_i h6
          split at h
          · rename_i h7; cases h; exact (ok_slc h1 h2 h3 h4 h5 h6 h7 ho).wp
          · cases h
        · rename_i h6
          split at h
          · rename_i h7
            split at h
            · rename_i h8; cases h; exact (ok_sla h1 h2 h3 h4 h5 h6 h7 h8 ho).wp
            · cases h
          · cases h
        · cases h
      · cases h
    · cases h
  case h_23 ho =>
    split at h
    · rename_i h1; simp only [Option.map_eq_some_iff] at h; obtain ⟨x', hx, rfl⟩ := h; exact (ok_len hx h1 ho).wp
    · cases h
  case h_24 ho =>
    split at h
    · rename_i h1; simp only [Option.map_eq_some_iff] at h; obtain ⟨x', hx, rfl⟩ := h; exact (ok_cap hx h1 ho).wp
    · cases h
  case h_25 ho =>
    split at h
    · rename_i ht
      subst ht
      split at h
      · rename_i h1
        split at h
        · rename_i h2
          split at h
          · rename_i h3
            split at h
            · rename_i h4 h5
              split at h
              · rename_i h6; cases h; exact (ok_app h4 h5 h1 h2 h3 h6.1 h6.2 ho).wp
              · cases h
            · cases h
          · cases h
        · cases h
      · cases h
    · cases h
  case h_26 ho =>
    split at h
    · rename_i h1 h2; cases h; exact (ok_mm (mx := true) h1 h2 ho).wp
    · cases h
  case h_27 ho =>
    split at h
    · rename_i h1 h2; cases h; exact (ok_mm (mx := false) h1 h2 ho).wp
    · cases h
  case h_28 ho => simp only [Option.map_eq_some_iff] at h; obtain ⟨x', hx, rfl⟩ := h; exact ok_call hF hx ho
  case h_29 ho =>
    split at h
    · rename_i h1 h2; cases h; exact ok_callv hF h1 h2 ho
    · cases h
  case h_30 => cases h

/-- Strings, and copy. -/
def compS (P : Program) (o : Oper) : Option O :=
  match o.op with
  | .binOp op t x y _ => match P.underlying t, compX x, compX y with
    | some .string, some x, some y => some (.sbi op x y)
    | _, _, _ => none
  | .index t x i => match P.underlying t, compX x, compX i with
    | some .string, some x, some i => some (.six x i)
    | _, _, _ => none
  | .slice t x lo hi none => match P.underlying t, compX x, compXO lo, compXO hi with
    | some .string, some x, some lo, some hi => some (.ssl x lo hi)
    | _, _, _, _ => none
  | .convert s d x => match P.underlying s, P.underlying d, compX x with
    | some (.slice el), some .string, some x => match P.underlying el with
      | some (.int .u8) => some (.b2s x)
      | _ => none
    | some .string, some (.slice el), some x => match P.underlying el with
      | some (.int .u8) => some (.s2b el x)
      | _ => none
    | some (.int _), some .string, some x => some (.r2s x)
    | _, _, _ => none
  | .range t x => match P.underlying t, compX x with
    | some .string, some x => some (.rng x)
    | _, _ => none
  | .next x true => match compX x with
    | some x => some (.nxt x)
    | none => none
  | .call { callee := .builtin .len, args := ⟨[x]⟩, argTypes := ⟨[t]⟩ } => match P.underlying t, compX x with
    | some .string, some x => some (.slen x)
    | some (.map _ _), some x => some (.mln x)
    | _, _ => none
  | .call { callee := .builtin .copy, args := ⟨[x, y]⟩, argTypes := ⟨[t, t']⟩ } => match P.underlying t, compX x, compX y with
    | some (.slice el), some x, some y => match P.info? el with
      | some i => if i.size = 1 then some (.cpy x y) else none
      | none => none
    | _, _, _ => none
  | .makeMap t none => some .mkm
  | .lookup t x i ok => match P.underlying t, compX x, compX i with
    | some (.map key el), some x, some i => match compKK P key, P.info? el with
      | some k, some inf => match inf.zero with
        | some zv => match ofVal zv with
          | some z => some (.lkp k z ok x i)
          | none => none
        | none => none
      | _, _ => none
    | _, _, _ => none
  | .mapUpdate t x i y => match P.underlying t, compX x, compX i, compX y with
    | some (.map key _), some x, some i, some y => match compKK P key with
      | some k => some (.mup k x i y)
      | none => none
    | _, _, _, _ => none
  | _ => none
theorem compS_sound {P : Program} {F : FF} {o : Oper} {q : O} (h : compS P o = some q) : OpWP P o (q.ev F) := by
  unfold compS at h
  split at h
  case h_1 ho =>
    split at h
    · rename_i h1 h2 h3; cases h; exact (ok_sbi h2 h3 ho).wp
    · cases h
  case h_2 ho =>
    split at h
    · rename_i h1 h2 h3; cases h; exact (ok_six h2 h3 h1 ho).wp
    · cases h
  case h_3 ho =>
    split at h
    · rename_i h1 h2 h3 h4; cases h; exact (ok_ssl h2 h3 h4 h1 ho).wp
    · cases h
  case h_4 ho =>
    split at h
    · rename_i h1 h2 h3
      split at h
      · rename_i h4; cases h; exact (ok_b2s h3 h1 h4 h2 ho).wp
      · cases h
    · rename_i h1 h2 h3
      split at h
      · rename_i h4; cases h; exact (ok_s2b h3 h1 h4 h2 ho).wp
      · cases h
    · rename_i h1 h2 h3; cases h; exact (ok_r2s h3 (by rw [h1]; rfl) h2 ho).wp
    · cases h
  case h_5 ho =>
    split at h
    · rename_i h1 h2; cases h; exact (ok_rng h2 h1 ho).wp
    · cases h
  case h_6 ho =>
    split at h
    · rename_i h1; cases h; exact (ok_nxt h1 ho).wp
    · cases h
  case h_7 ho =>
    split at h
    · rename_i h1 h2; cases h; exact (ok_slen h2 h1 ho).wp
    · rename_i h1 h2; cases h; exact (ok_mln h2 h1 ho).wp
    · cases h
  case h_8 ho =>
    split at h
    · rename_i h1 h2 h3
      split at h
      · rename_i h4
        split at h
        · rename_i h5; cases h; exact (ok_cpy h2 h3 h1 h4 h5 ho).wp
        · cases h
      · cases h
    · cases h
  case h_9 ho => cases h; exact (ok_mkm ho).wp
  case h_10 ho =>
    split at h
    · rename_i h1 h2 h3
      split at h
      · rename_i h4 h5
        split at h
        · rename_i h6
          split at h
          · rename_i h7; cases h; exact (ok_lkp h2 h3 h1 h4 h5 h6 h7 ho).wp
          · cases h
        · cases h
      · cases h
    · cases h
  case h_11 ho =>
    split at h
    · rename_i h1 h2 h3 h4
      split at h
      · rename_i h5; cases h; exact (ok_mup h2 h3 h4 h1 h5 ho).wp
      · cases h
    · cases h
  case h_12 => cases h
/-- What it can't do, it answers nothing to. -/
def compO (P : Program) (o : Oper) : Option O :=
  match compO0 P o with
  | some q => some q
  | none => match compS P o with
    | some q => some q
    | none => some .nope
theorem compO_sound {P : Program} {F : FF} (hF : FOK P F) {o : Oper} {q : O} (h : compO P o = some q) : OpWP P o (q.ev F) := by
  unfold compO at h
  split at h
  · rename_i h1; cases h; exact compO0_sound hF h1
  · split at h
    · rename_i h1; cases h; exact compS_sound h1
    · cases h
      intro e lim h n v h' n' hr
      cases hr
end Go.Proofs.Ytjhgingmbklhaaa.Ev
