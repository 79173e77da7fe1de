/- The texts EvN, EvP, EvQ, EvT, EvU, EvV, EvW. -/
import Derived.Test.YthgaekbcmhbbgaaQ3
/- From the model's operations to the evaluator's. -/
namespace Go.Proofs.Ythgaekbcmhbbgaa.Ev
set_option linter.unusedVariables false
open Go

def compBin (P : Program) (op : BinOp) (t : TypeId) (x y : X) : Option O :=
  match P.underlying t with
  | some (.int _) => some (.bin op x y)
  | some .bool => match op with
    | .eql => some (.eqb false x y)
    | .neq => some (.eqb true x y)
    | _ => none
  | some (.slice _) => match op with
    | .eql => some (.eqn false x y)
    | .neq => some (.eqn true x y)
    | _ => none
  | some (.struct _) => if P.eqGuardType P.depth t = false then match op, compSh P 20 t with
    | .eql, some sh => some (.eqa false sh x y)
    | .neq, some sh => some (.eqa true sh x y)
    | _, _ => none else none
  | some (.array _ _) => if P.eqGuardType P.depth t = false then match op, compSh P 20 t with
    | .eql, some sh => some (.eqa false sh x y)
    | .neq, some sh => some (.eqa true sh x y)
    | _, _ => none else none
  | _ => none

def compO0 (P : Program) (o : Oper) : Option O :=
  match o.op with
  | .move x => (compX x).map .mv
  | .assign x => (compX x).map .mv
  | .pick c a b => match compX c, compX a, compX b with
    | some c, some a, some b => some (.pick c a b)
    | _, _, _ => none
  | .binOp op t x y _ => match compX x, compX y with
    | some x, some y => compBin P op t x y
    | _, _ => none
  | .unOp .not _ x => (compX x).map .not
  | .unOp .neg _ x => (compX x).map .neg
  | .convert s d x => match (P.underlying s).isSome, P.underlying d, compX x with
    | true, some (.int k), some x => some (.conv k x)
    | _, _, _ => none
  | .extract x i => (compX x).map (.ext i)
  | .makeFunc (.func f) a c => match compXL a.toList, compXL c.toList with
    | some a, some c => some (.mkf f a c)
    | _, _ => none
  | .nilCheck x => (compX x).map .nilck
  | .fieldAddr s x f => match P.underlying s, compX x with
    | some (.struct fs), some x => match fs[f]? with
      | some fd => match P.info? fd.type with
        | some i => if i.size ≠ 0 then some (.fad fd.offset x) else none
        | none => none
      | none => none
    | _, _ => none
  | .indexAddr t x i => match compX x, compX i with
    | some x, some i => match P.underlying t with
      | some (.array len el) => match P.info? el with
        | some inf => some (.ixa len inf.size x i)
        | none => none
      | some (.slice el) => match P.info? el with
        | some inf => some (.ixs inf.size x i)
        | none => none
      | _ => none
    | _, _ => none
  | .build t parts => match P.info? t with
    | some i => match i.zero with
      | some zv => match ofVals zv.cells.toList with
        | some z => match P.underlying t with
          | some (.struct fs) => if fs.all (fun f => (P.info? f.type).isSome) = true then
              (compPL (fun j => (fs[j]?).map fun f => (f.offset, ((P.info? f.type).map (·.size)).getD 0)) parts.toList).map (.build z) else none
          | some (.array _ el) => match P.info? el with
            | some ie => (compPL (fun j => some (j * ie.size, ie.size)) parts.toList).map (.build z)
            | none => none
          | _ => none
        | none => none
      | none => none
    | none => none
  | .field t x f => match P.underlying t, compX x with
    | some (.struct fs), some x => match fs[f]? with
      | some fd => match P.info? fd.type, P_isAgg P fd.type with
        | some i, some agg => some (.part fd.offset i.size agg x)
        | _, _ => none
      | none => none
    | _, _ => none
  | .index t x i => match P.underlying t, compX x, compX i with
    | some (.array len el), some x, some i => match P.info? el, P_isAgg P el with
      | some inf, some agg => some (.idx len inf.size agg x i)
      | _, _ => none
    | _, _, _ => none
  | .alloc el => match P.info? el with
    | some i => match i.zero with
      | some zv => match ofVals zv.cells.toList with
        | some z => if z.allC = true ∧ z.length ≤ maxSize then some (.alloc el z z.length) else none
        | none => none
      | none => none
    | none => none
  | .box el x => (compX x).map (.box el)
  | .load t x => match P.info? t, P_isAgg P t, compX x with
    | some i, some agg, some x => if agg = false → i.size = 1 then some (.ld i.size agg x) else none
    | _, _, _ => none
  | .store t x y => match P.info? t, compX x, compX y with
    | some i, some x, some y => some (.st i.size x y)
    | _, _, _ => none
  | .buildSlice t len parts => match P.underlying t with
    | some (.slice el) => match P.info? el with
      | some i => match i.zero with
        | some zv => match ofVals ((Array.range (len * i.size)).map (zv.cells[· % zv.cells.size]!)).toList, compPL (fun j => some (j * i.size, i.size)) parts.toList with
          | some z, some ps => if 0 < i.size ∧ zv.cells.size = i.size ∧ len * i.size ≤ 16777216 then some (.bsl el i.size len z ps) else none
          | _, _ => none
        | none => none
      | none => none
    | _ => none
  | .makeSlice t l c => match P.underlying t with
    | some (.slice el) => match P.info? el with
      | some i => match i.zero with
        | some zv => match ofVals zv.cells.toList, compX l, compX c with
          | some z, some l, some c => if 0 < i.size ∧ z.allC = true ∧ z.length = i.size then some (.mks el i.size i.bytes z.length z l c) else none
          | _, _, _ => none
        | none => none
      | none => none
    | _ => none
  | .slice t x lo hi mx => match compX x, compXO lo, compXO hi, compXO mx with
    | some x, some lo', some hi', some mx' => if mx.isSome = true → hi.isSome = true then
        match P.underlying t with
        | some (.slice el) => match P.info? el with
          | some i => some (.slc i.size x lo' hi' mx')
          | none => none
        | some (.array len el) => match P.info? el with
          | some i => if 0 < i.size then some (.sla len i.size x lo' hi' mx') else none
          | none => none
        | _ => none
      else none
    | _, _, _, _ => none
  | .call { callee := .builtin .len, args := ⟨[x]⟩, argTypes := ⟨[t]⟩ } => match P.underlying t with
    | some (.slice _) => (compX x).map .len
    | _ => none
  | .call { callee := .builtin .cap, args := ⟨[x]⟩, argTypes := ⟨[t]⟩ } => match P.underlying t with
    | some (.slice _) => (compX x).map .cap
    | _ => none
  | .call { callee := .builtin .append, args := ⟨[s, x]⟩, argTypes := ⟨[t, t']⟩ } => if t = t' then match P.underlying t with
    | some (.slice el) => match P.info? el with
      | some i => match i.zero with
        | some zv => match compX s, compX x with
          | some s, some x => if 0 < i.size ∧ zv.cells.size = i.size then some (.app el i.size i.bytes s x) else none
          | _, _ => none
        | none => none
      | none => none
    | _ => none else none
  | .call { callee := .builtin .max, args := ⟨x :: xs⟩, argTypes := _ } => match compX x, compXL xs with
    | some x, some xs => some (.mm true x xs)
    | _, _ => none
  | .call { callee := .builtin .min, args := ⟨x :: xs⟩, argTypes := _ } => match compX x, compXL xs with
    | some x, some xs => some (.mm false x xs)
    | _, _ => none
  | .call { callee := .value (.func f), args := as, argTypes := _ } => (compXL as.toList).map (.call f)
  | .call { callee := .value x, args := as, argTypes := _ } => match compX x, compXL as.toList with
    | some x, some xs => some (.callv x xs)
    | _, _ => none
  | _ => none

theorem compO0_sound {P : Program} {F : FF} (hF : FOK P F) {o : Oper} {q : O} (h : compO0 P o = some q) : OpWP P o (q.ev F) := by
  unfold compO0 at h
  split at h
  case h_1 x ho => simp only [Option.map_eq_some_iff] at h; obtain ⟨x', hx, rfl⟩ := h; exact (ok_mv hx (.inl ho)).wp
  case h_2 x ho => simp only [Option.map_eq_some_iff] at h; obtain ⟨x', hx, rfl⟩ := h; exact (ok_mv hx (.inr ho)).wp
  case h_3 ho =>
    split at h
    · rename_i h1 h2 h3; cases h; exact (ok_pick h1 h2 h3 ho).wp
    · cases h
  case h_4 ho =>
    split at h
    · rename_i h1 h2
      unfold compBin at h
      split at h
      · cases h; exact (ok_bin h1 h2 ho).wp
      · rename_i ht
        split at h
        · cases h; exact (ok_eqb (neg := false) h1 h2 ht ho).wp
        · cases h; exact (ok_eqb (neg := true) h1 h2 ht ho).wp
        · cases h
      · rename_i ht
        split at h
        · cases h; exact (ok_eqn (neg := false) h1 h2 ht ho).wp
        · cases h; exact (ok_eqn (neg := true) h1 h2 ht ho).wp
        · cases h
      · rename_i ht
        split at h
        · rename_i hg
          split at h
          · rename_i hs; cases h; exact (ok_eqa (neg := false) h1 h2 (.inl ⟨_, ht⟩) hs hg ho).wp
          · rename_i hs; cases h; exact (ok_eqa (neg := true) h1 h2 (.inl ⟨_, ht⟩) hs hg ho).wp
          · cases h
        · cases h
      · rename_i ht
        split at h
        · rename_i hg
          split at h
          · rename_i hs; cases h; exact (ok_eqa (neg := false) h1 h2 (.inr ⟨_, _, ht⟩) hs hg ho).wp
          · rename_i hs; cases h; exact (ok_eqa (neg := true) h1 h2 (.inr ⟨_, _, ht⟩) hs hg ho).wp
          · cases h
        · cases h
      · cases h
    · cases h
  case h_5 ho => simp only [Option.map_eq_some_iff] at h; obtain ⟨x', hx, rfl⟩ := h; exact (ok_not hx ho).wp
  case h_6 ho => simp only [Option.map_eq_some_iff] at h; obtain ⟨x', hx, rfl⟩ := h; exact (ok_neg hx ho).wp
  case h_7 ho =>
    split at h
    · rename_i h1 h2 h3; cases h; exact (ok_conv h3 h1 h2 ho).wp
    · cases h
  case h_8 ho => simp only [Option.map_eq_some_iff] at h; obtain ⟨x', hx, rfl⟩ := h; exact (ok_ext hx ho).wp
  case h_9 ho =>
    split at h
    · rename_i h1 h2; cases h; exact (ok_mkf h1 h2 ho).wp
    · cases h
  case h_10 ho => simp only [Option.map_eq_some_iff] at h; obtain ⟨x', hx, rfl⟩ := h; exact (ok_nilck hx ho).wp
  case h_11 ho =>
    split at h
    · rename_i h1 h2
      split at h
      · rename_i h3
        split at h
        · rename_i h4
          split at h
          · rename_i h5; cases h; exact (ok_fad h2 h1 h3 h4 h5 ho).wp
          · cases h
        · cases h
      · cases h
    · cases h
  case h_12 ho =>
    split at h
    · rename_i h1 h2
      split at h
      · rename_i h3
        split at h
        · rename_i h4; cases h; exact (ok_ixa h1 h2 h3 h4 ho).wp
        · cases h
      · rename_i h3
        split at h
        · rename_i h4; cases h; exact (ok_ixs h1 h2 h3 h4 ho).wp
        · cases h
      · cases h
    · cases h
  case h_13 ho =>
    split at h
    · rename_i h1
      split at h
      · rename_i h2
        split at h
        · rename_i h3
          split at h
          · rename_i h4
            split at h
            · rename_i h5
              simp only [Option.map_eq_some_iff] at h; obtain ⟨ps, hp, rfl⟩ := h
              exact (ok_build_struct h4 h1 h2 h3 h5 hp ho).wp
            · cases h
          · rename_i h4
            split at h
            · rename_i h5
              simp only [Option.map_eq_some_iff] at h; obtain ⟨ps, hp, rfl⟩ := h
              exact (ok_build_array h4 h1 h2 h3 h5 hp ho).wp
            · cases h
          · cases h
        · cases h
      · cases h
    · cases h
  case h_14 ho =>
    split at h
    · rename_i h1 h2
      split at h
      · rename_i h3
        split at h
        · rename_i h4 h5; cases h; exact (ok_part h2 h1 h3 h4 h5 ho).wp
        · cases h
      · cases h
    · cases h
  case h_15 ho =>
    split at h
    · rename_i h1 h2 h3
      split at h
      · rename_i h4 h5; cases h; exact (ok_idx h2 h3 h1 h4 h5 ho).wp
      · cases h
    · cases h
  case h_16 ho =>
    split at h
    · rename_i h1
      split at h
      · rename_i h2
        split at h
        · rename_i h3
          split at h
          · rename_i h4; cases h; exact (ok_alloc h1 h2 h3 h4.1 rfl h4.2 ho).wp
          · cases h
        · cases h
      · cases h
    · cases h
  case h_17 ho => simp only [Option.map_eq_some_iff] at h; obtain ⟨x', hx, rfl⟩ := h; exact (ok_box hx ho).wp
  case h_18 ho =>
    split at h
    · rename_i h1 h2 h3
      split at h
      · rename_i h4; cases h; exact (ok_ld h3 h1 h2 h4 ho).wp
      · cases h
    · cases h
  case h_19 ho =>
    split at h
    · rename_i h1 h2 h3; cases h; exact (ok_st h2 h3 h1 ho).wp
    · cases h
  case h_20 ho =>
    split at h
    · rename_i h1
      split at h
      · rename_i h2
        split at h
        · rename_i h3
          split at h
          · rename_i h4 h5
            split at h
            · rename_i h6; cases h; exact (ok_bsl h1 h2 h3 h6.1 h6.2.1 h6.2.2 h4 h5 ho).wp
            · cases h
          · cases h
        · cases h
      · cases h
    · cases h
  case h_21 ho =>
    split at h
    · rename_i h1
      split at h
      · rename_i h2
        split at h
        · rename_i h3
          split at h
          · rename_i h4 h5 h7
            split at h
            · rename_i h6; cases h; exact (ok_mks h1 h2 h3 h6.1 h4 h6.2.1 rfl h6.2.2 h5 h7 ho).wp
            · cases h
          · cases h
        · cases h
      · cases h
    · cases h
  case h_22 ho =>
    split at h
    · rename_i h1 h2 h3 h4
      split at h
      · rename_i h5
        split at h
        · rename_i h6
          split at h
          · rename_i h7; cases h; exact (ok_slc h1 h2 h3 h4 h5 h6 h7 ho).wp
          · cases h
        · rename_i h6
          split at h
          · rename_i h7
            split at h
            · rename_i h8; cases h; exact (ok_sla h1 h2 h3 h4 h5 h6 h7 h8 ho).wp
            · cases h
          · cases h
        · cases h
      · cases h
    · cases h
  case h_23 ho =>
    split at h
    · rename_i h1; simp only [Option.map_eq_some_iff] at h; obtain ⟨x', hx, rfl⟩ := h; exact (ok_len hx h1 ho).wp
    · cases h
  case h_24 ho =>
    split at h
    · rename_i h1; simp only [Option.map_eq_some_iff] at h; obtain ⟨x', hx, rfl⟩ := h; exact (ok_cap hx h1 ho).wp
    · cases h
  case h_25 ho =>
    split at h
    · rename_i ht
      subst ht
      split at h
      · rename_i h1
        split at h
        · rename_i h2
          split at h
          · rename_i h3
            split at h
            · rename_i h4 h5
              split at h
              · rename_i h6; cases h; exact (ok_app h4 h5 h1 h2 h3 h6.1 h6.2 ho).wp
              · cases h
            · cases h
          · cases h
        · cases h
      · cases h
    · cases h
  case h_26 ho =>
    split at h
    · rename_i h1 h2; cases h; exact (ok_mm (mx := true) h1 h2 ho).wp
    · cases h
  case h_27 ho =>
    split at h
    · rename_i h1 h2; cases h; exact (ok_mm (mx := false) h1 h2 ho).wp
    · cases h
  case h_28 ho => simp only [Option.map_eq_some_iff] at h; obtain ⟨x', hx, rfl⟩ := h; exact ok_call hF hx ho
  case h_29 ho =>
    split at h
    · rename_i h1 h2; cases h; exact ok_callv hF h1 h2 ho
    · cases h
  case h_30 => cases h

/-- Strings, and copy. -/
def compS (P : Program) (o : Oper) : Option O :=
  match o.op with
  | .binOp op t x y _ => match P.underlying t, compX x, compX y with
    | some .string, some x, some y => some (.sbi op x y)
    | _, _, _ => none
  | .index t x i => match P.underlying t, compX x, compX i with
    | some .string, some x, some i => some (.six x i)
    | _, _, _ => none
  | .slice t x lo hi none => match P.underlying t, compX x, compXO lo, compXO hi with
    | some .string, some x, some lo, some hi => some (.ssl x lo hi)
    | _, _, _, _ => none
  | .convert s d x => match P.underlying s, P.underlying d, compX x with
    | some (.slice el), some .string, some x => match P.underlying el with
      | some (.int .u8) => some (.b2s x)
      | _ => none
    | some .string, some (.slice el), some x => match P.underlying el with
      | some (.int .u8) => some (.s2b el x)
      | _ => none
    | some (.int _), some .string, some x => some (.r2s x)
    | _, _, _ => none
  | .range t x => match P.underlying t, compX x with
    | some .string, some x => some (.rng x)
    | _, _ => none
  | .next x true => match compX x with
    | some x => some (.nxt x)
    | none => none
  | .call { callee := .builtin .len, args := ⟨[x]⟩, argTypes := ⟨[t]⟩ } => match P.underlying t, compX x with
    | some .string, some x => some (.slen x)
    | some (.map _ _), some x => some (.mln x)
    | _, _ => none
  | .call { callee := .builtin .copy, args := ⟨[x, y]⟩, argTypes := ⟨[t, t']⟩ } => match P.underlying t, compX x, compX y with
    | some (.slice el), some x, some y => match P.info? el with
      | some i => if i.size = 1 then some (.cpy x y) else none
      | none => none
    | _, _, _ => none
  | .makeMap t none => some .mkm
  | .lookup t x i ok => match P.underlying t, compX x, compX i with
    | some (.map key el), some x, some i => match compKK P key, P.info? el with
      | some k, some inf => match inf.zero with
        | some zv => match ofVal zv with
          | some z => some (.lkp k z ok x i)
          | none => none
        | none => none
      | _, _ => none
    | _, _, _ => none
  | .mapUpdate t x i y => match P.underlying t, compX x, compX i, compX y with
    | some (.map key _), some x, some i, some y => match compKK P key with
      | some k => some (.mup k x i y)
      | none => none
    | _, _, _, _ => none
  | .makeInterface t x => match P.underlying t, compX x with
    | some (.interface _), _ => none
    | some _, some x => some (.mki t x)
    | _, _ => none
  | .typeAssert x xt t ok => match P.underlying t, compX x, P.info? t with
    | some (.interface _), _, _ => none
    | some _, some x, some inf => match inf.zero with
      | some zv => match ofVal zv with
        | some z => some (.tas t z ok x)
        | none => none
      | none => none
    | _, _, _ => none
  | _ => none
theorem compS_sound {P : Program} {F : FF} {o : Oper} {q : O} (h : compS P o = some q) : OpWP P o (q.ev F) := by
  unfold compS at h
  split at h
  case h_1 ho =>
    split at h
    · rename_i h1 h2 h3; cases h; exact (ok_sbi h2 h3 ho).wp
    · cases h
  case h_2 ho =>
    split at h
    · rename_i h1 h2 h3; cases h; exact (ok_six h2 h3 h1 ho).wp
    · cases h
  case h_3 ho =>
    split at h
    · rename_i h1 h2 h3 h4; cases h; exact (ok_ssl h2 h3 h4 h1 ho).wp
    · cases h
  case h_4 ho =>
    split at h
    · rename_i h1 h2 h3
      split at h
      · rename_i h4; cases h; exact (ok_b2s h3 h1 h4 h2 ho).wp
      · cases h
    · rename_i h1 h2 h3
      split at h
      · rename_i h4; cases h; exact (ok_s2b h3 h1 h4 h2 ho).wp
      · cases h
    · rename_i h1 h2 h3; cases h; exact (ok_r2s h3 (by rw [h1]; rfl) h2 ho).wp
    · cases h
  case h_5 ho =>
    split at h
    · rename_i h1 h2; cases h; exact (ok_rng h2 h1 ho).wp
    · cases h
  case h_6 ho =>
    split at h
    · rename_i h1; cases h; exact (ok_nxt h1 ho).wp
    · cases h
  case h_7 ho =>
    split at h
    · rename_i h1 h2; cases h; exact (ok_slen h2 h1 ho).wp
    · rename_i h1 h2; cases h; exact (ok_mln h2 h1 ho).wp
    · cases h
  case h_8 ho =>
    split at h
    · rename_i h1 h2 h3
      split at h
      · rename_i h4
        split at h
        · rename_i h5; cases h; exact (ok_cpy h2 h3 h1 h4 h5 ho).wp
        · cases h
      · cases h
    · cases h
  case h_9 ho => cases h; exact (ok_mkm ho).wp
  case h_10 ho =>
    split at h
    · rename_i h1 h2 h3
      split at h
      · rename_i h4 h5
        split at h
        · rename_i h6
          split at h
          · rename_i h7; cases h; exact (ok_lkp h2 h3 h1 h4 h5 h6 h7 ho).wp
          · cases h
        · cases h
      · cases h
    · cases h
  case h_11 ho =>
    split at h
    · rename_i h1 h2 h3 h4
      split at h
      · rename_i h5; cases h; exact (ok_mup h2 h3 h4 h1 h5 ho).wp
      · cases h
    · cases h
  case h_12 ho =>
    split at h
    · cases h
    · rename_i h1 h2 h3; cases h; exact (ok_mki h3 h2 h1 ho).wp
    · cases h
  case h_13 ho =>
    split at h
    · cases h
    · rename_i h1 h2 h3 h4
      split at h
      · rename_i h5
        split at h
        · rename_i h6; cases h; exact (ok_tas h3 h2 h1 h4 h5 h6 ho).wp
        · cases h
      · cases h
    · cases h
  case h_14 => cases h
/-- The smaller one of two strings; slices as arrays; clear. -/
def compT (P : Program) (o : Oper) : Option O :=
  match o.op with
  | .call { callee := .builtin .min, args := ⟨[x, y]⟩, argTypes := ⟨[t, t']⟩ } => match P.underlying t, compX x, compX y with
    | some .string, some x, some y => some (.mns x y)
    | _, _, _ => none
  | .sliceToArrayPointer arr x => match P.underlying arr, compX x with
    | some (.array k _), some x => some (.s2a k x)
    | _, _ => none
  | .call { callee := .builtin .clear, args := ⟨[x]⟩, argTypes := ⟨[t]⟩ } => match P.underlying t, compX x with
    | some (.slice el), some x => match P.info? el with
      | some inf => match inf.zero with
        | some (.int k z) => match ofVal (.int k z) with
          | some v => some (.clr v x)
          | none => none
        | _ => none
      | none => none
    | _, _ => none
  | _ => none
theorem compT_sound {P : Program} {F : FF} {o : Oper} {q : O} (h : compT P o = some q) : OpWP P o (q.ev F) := by
  unfold compT at h
  split at h
  case h_1 ho =>
    split at h
    · rename_i h1 h2 h3; cases h; exact (ok_mns h2 h3 ho).wp
    · cases h
  case h_2 ho =>
    split at h
    · rename_i h1 h2; cases h; exact (ok_s2a h2 h1 ho).wp
    · cases h
  case h_3 ho =>
    split at h
    · rename_i h1 h2
      split at h
      · rename_i h3
        split at h
        · rename_i h4
          split at h
          · rename_i h5; cases h; exact (ok_clr h2 h1 h3 h4 h5 rfl ho).wp
          · cases h
        · cases h
      · cases h
    · cases h
  case h_4 => cases h
/-- What it can't do, it answers nothing to. -/
def compO (P : Program) (o : Oper) : Option O :=
  match compT P o with
  | some q => some q
  | none => match compO0 P o with
  | some q => some q
  | none => match compS P o with
    | some q => some q
    | none => some .nope
theorem compO_sound {P : Program} {F : FF} (hF : FOK P F) {o : Oper} {q : O} (h : compO P o = some q) : OpWP P o (q.ev F) := by
  unfold compO at h
  split at h
  · rename_i h1; cases h; exact compT_sound h1
  · split at h
    · rename_i h1; cases h; exact compO0_sound hF h1
    · split at h
      · rename_i h1; cases h; exact compS_sound h1
      · cases h
        intro e lim h n v h' n' hr
        cases hr
/-- As compO, but a slice out of a slice may look at the memory (not for regions drawn in any order); so many zeros appended; a slice of aggregates cleared. -/
def compM (P : Program) (o : Oper) : Option O :=
  match o.op with
  | .slice t x (some lo) (some hi) none => match P.underlying t, compX x, compX lo, compX hi with
    | some (.slice el), some x, some lo, some hi => match P.info? el with
      | some i => some (.slm i.size x lo hi)
      | none => some .nope
    | _, _, _, _ => compO P o
  | .call { callee := .builtin .append, args := ⟨[s, c]⟩, argTypes := ⟨[t, u]⟩ } => match P.underlying t, P.underlying u, compX s, compX c with
    | some (.slice el), some (.int _), some s, some c => match P.info? el with
      | some i => match i.zero with
        | some zv => match ofVals zv.cells.toList with
          | some z => if 0 < i.size ∧ z.allC = true ∧ z.length = i.size then some (.apz el i.size i.bytes z.length z s c) else some .nope
          | none => some .nope
        | none => some .nope
      | none => some .nope
    | _, _, _, _ => compO P o
  | .call { callee := .builtin .clear, args := ⟨[x]⟩, argTypes := ⟨[t]⟩ } => match P.underlying t, compX x with
    | some (.slice el), some x => match P.info? el with
      | some i => if i.size = 1 then compO P o else match i.zero with
        | some zv => match ofVals zv.cells.toList with
          | some z => if 0 < i.size ∧ z.allC = true ∧ z.length = i.size then some (.cla el i.size z.length z x) else some .nope
          | none => some .nope
        | none => some .nope
      | none => some .nope
    | _, _ => compO P o
  | _ => compO P o
theorem nope_sound {P : Program} {F : FF} {o : Oper} : OpWP P o (O.nope.ev F) := by
  intro e lim h n v h' n' hr
  cases hr
theorem compM_sound {P : Program} {F : FF} (hF : FOK P F) {o : Oper} {q : O} (h : compM P o = some q) : OpWP P o (q.ev F) := by
  unfold compM at h
  split at h
  · rename_i ho
    split at h
    · rename_i h1 h2 h3 h4
      split at h
      · rename_i h5; cases h; exact (ok_slm h2 h3 h4 h1 h5 ho).wp
      · cases h; exact nope_sound
    · exact compO_sound hF h
  · rename_i ho
    split at h
    · rename_i h1 h2 h3 h4
      split at h
      · rename_i h5
        split at h
        · rename_i h6
          split at h
          · rename_i h7
            split at h
            · rename_i h8; cases h; exact (ok_apz h3 h4 h1 h2 h5 h6 h8.1 h7 h8.2.1 rfl h8.2.2 ho).wp
            · cases h; exact nope_sound
          · cases h; exact nope_sound
        · cases h; exact nope_sound
      · cases h; exact nope_sound
    · exact compO_sound hF h
  · rename_i ho
    split at h
    · rename_i h1 h2
      split at h
      · rename_i h5
        split at h
        · exact compO_sound hF h
        · split at h
          · rename_i h6
            split at h
            · rename_i h7
              split at h
              · rename_i h8; cases h; exact (ok_cla h2 h1 h5 h6 h8.1 h7 h8.2.1 rfl h8.2.2 ho).wp
              · cases h; exact nope_sound
            · cases h; exact nope_sound
          · cases h; exact nope_sound
      · cases h; exact nope_sound
    · exact compO_sound hF h
  · exact compO_sound hF h
end Go.Proofs.Ythgaekbcmhbbgaa.Ev
/- Regions whose order is the text's. -/
namespace Go.Proofs.Ythgaekbcmhbbgaa.Ev
set_option linter.unusedVariables false
open Go

def tp (t : Nat) : Pos := posF 63 (t + 1)
theorem tp_inj {t u : Nat} (ht : t < 4294967296) (hu : u < 4294967296) (e : tp t = tp u) : t = u := by
  have := congrArg Pos.num e
  unfold tp at this
  rw [num_posF _ _ (by omega) (by omega), num_posF _ _ (by omega) (by omega)] at this
  omega

/-! The deferred calls of a frame: nothing but marks of loops over functions, whose blocks are empty. -/
def isMk (s : Nat) (w : World) (d : Deferred) : Prop := ∃ r, s ≤ r ∧ d = { target := .collected r, args := #[] } ∧ w.heap[r]? = some (.deferred (some []))
def Mk (s : Nat) (w : World) (a : Act) : Prop := a.defers.Nodup ∧ ∀ d ∈ a.defers, isMk s w d
def MkK (w : World) (a : Act) (w' : World) (a' : Act) : Prop := w.heap.size ≤ w'.heap.size ∧ ∀ s, s ≤ w.heap.size → Mk s w a → Mk s w' a'
theorem MkK.refl {w : World} {a : Act} : MkK w a w a := ⟨Nat.le_refl _, fun _ _ h => h⟩
theorem MkK.trans {w w1 w2 : World} {a a1 a2 : Act} (x : MkK w a w1 a1) (y : MkK w1 a1 w2 a2) : MkK w a w2 a2 := ⟨Nat.le_trans x.1 y.1, fun s hs h => y.2 s (Nat.le_trans hs x.1) (x.2 s hs h)⟩
theorem RowM.notDef {w : World} {g : Sig} {r base tot : Nat} {cur : Array Value} {b : Blk} (h : RowM w g r base tot cur b) (x : Option (List Deferred)) : w.heap[r]? ≠ some (.deferred x) := fun e => by
  rcases h with ⟨⟨fz, h, _⟩, _⟩ | ⟨_, _, _, ⟨es, clock, h, _⟩ | ⟨rec, h, _⟩ | ⟨s, pos, h, _⟩⟩ <;> rw [e] at h <;> cases h
theorem mk_keep {lim n n' : Nat} {g g' : Sig} {h h' : Hm} {w w' : World} {a a' : Act} (m : Mem g h w) (f : Fr lim n g h w n' g' h' w') (hd : a'.defers = a.defers) : MkK w a w' a' := ⟨f.size, fun s hs hk => ⟨by rw [hd]; exact hk.1, fun d hdm => by
  rw [hd] at hdm
  obtain ⟨r, h1, h2, h3⟩ := hk.2 d hdm
  refine ⟨r, h1, h2, (f.keep r (Array.getElem?_eq_some_iff.1 h3).1 fun p b base tot hp hl hg => ?_).trans h3⟩
  obtain ⟨r', base', tot', cur, c1, c2, _⟩ := m.blk p b hp
  rw [hg] at c1
  cases c1
  exact c2.notDef _ h3⟩⟩
theorem put_defers (a : Act) (d : Option Tmp) (u : Value) : (a.put d u).defers = a.defers := by cases d <;> rfl

structure EnvA (N : Nat) (g : Sig) (e : Tr) (a : Act) : Prop where
  sz : N ≤ a.tmps.size
  glo : GOK g
  rel : ∀ t, t < 4294967296 → (e.get (tp t)).rel g (a.tmps.getD t undef)

section
variable {N : Nat} {g g' : Sig} {e : Tr} {a : Act}
theorem EnvA.ok (h : EnvA N g e a) : EnvOK g e a.eval := by
  intro o x hx
  cases o with
  | tmp t =>
    simp only [compX] at hx
    split at hx
    · rename_i ht; cases hx; exact h.rel t ht
    · cases hx
  | const v =>
    simp only [compX, Option.map_eq_some_iff] at hx
    obtain ⟨v', hv, rfl⟩ := hx
    exact ofVal_rel g v hv
  | func f =>
    simp only [compX, Option.some.injEq] at hx
    subst hx
    exact ⟨[], [], rfl, rfl, rfl⟩
  | global k =>
    simp only [compX] at hx
    split at hx
    · rename_i hk; cases hx; exact h.glo.rel hk
    · cases hx
theorem EnvA.mono (h : EnvA N g e a) (hl : g.le g') : EnvA N g' e a := ⟨h.sz, h.glo.mono hl, fun t ht => V.rel_mono hl _ (h.rel t ht)⟩

/-- Where a result goes. -/
def compD (N : Nat) : Option Nat → Option (Option Pos)
  | none => some none
  | some t => if t < N ∧ t < 4294967296 then some (some (tp t)) else none
theorem EnvA.put (h : EnvA N g e a) {od : Option Nat} {d : Option Pos} (hd : compD N od = some d) {v : V} {u : Value} (hv : v.rel g u) : EnvA N g (setD d v e) (a.put od u) := by
  cases od with
  | none => simp only [compD, Option.some.injEq] at hd; subst hd; exact h
  | some t =>
    simp only [compD] at hd
    split at hd
    · rename_i ht
      cases hd
      refine ⟨by simp [Act.put]; exact h.sz, h.glo, fun s hs => ?_⟩
      show ((e.set v (tp t)).get (tp s)).rel g ((a.tmps.setIfInBounds t u).getD s undef)
      rw [Tr.get_set]
      by_cases hts : s = t
      · subst hts
        rw [if_pos rfl]
        have : s < a.tmps.size := by have := h.sz; omega
        simpa [Array.getD, this] using hv
      · rw [if_neg (fun e => hts (tp_inj hs ht.2 e))]
        have := h.rel s hs
        simpa [Array.getD_eq_getD_getElem?, Array.getElem?_setIfInBounds_ne (Ne.symm hts)] using this
    · cases hd
end

def compG (N : Nat) (ops : Array Oper) : Option (Nat × Bool) → Option (Option (Pos × Bool))
  | none => some none
  | some (j, b) => match (ops[j]?).bind (·.dst) with
    | some t => if t < N ∧ t < 4294967296 then some (some (tp t, b)) else none
    | none => none

def compR (P : Program) (N : Nat) (ops : Array Oper) : List Oper → Option RL
  | [] => some .nil
  | o :: l => match compD N o.dst, compG N ops o.guard, compM P o, compR P N ops l with
    | some d, some g, some q, some r => some (.cons d g q r)
    | _, _, _, _ => none

theorem wanted_of {N : Nat} {g : Sig} {e : Tr} {a : Act} (h : EnvA N g e a) {ops : Array Oper} {o : Oper} {p : Pos} {b : Bool} (hg : compG N ops o.guard = some (some (p, b))) :
    (∀ x, e.get p = .b x → Region.wanted o (yielded ops a.tmps) = (x == b)) ∧ (e.get p = .tu .nil → Region.wanted o (yielded ops a.tmps) = false) := by
  cases hgd : o.guard with
  | none => rw [hgd] at hg; simp [compG] at hg
  | some jb =>
    obtain ⟨j, b'⟩ := jb
    rw [hgd] at hg
    simp only [compG] at hg
    split at hg
    · rename_i t hdst
      split at hg
      · rename_i ht
        cases hg
        have hr := h.rel t ht.2
        have hlt : t < a.tmps.size := Nat.lt_of_lt_of_le ht.1 h.sz
        have hy : yielded ops a.tmps j = match a.tmps[t] with | .bool b => some b | _ => none := by
          simp only [yielded, hdst, Option.bind_some, Array.getElem?_eq_getElem hlt]
          split <;> simp_all
        have hgd2 : a.tmps.getD t undef = a.tmps[t] := by simp [Array.getD, hlt]
        refine ⟨fun x hx => ?_, fun hx => ?_⟩
        · rw [hx, V.rel, hgd2] at hr
          simp [Region.wanted, hgd, hy, hr]
        · rw [hx, V.rel, hgd2] at hr
          obtain ⟨vs, h1, h2⟩ := hr
          simp [Region.wanted, hgd, hy, h1]
      · cases hg
    · cases hg

theorem wanted_none {ops : Array Oper} {o : Oper} {t : Array Value} {N : Nat} (hg : compG N ops o.guard = some none) : Region.wanted o (yielded ops t) = true := by
  cases hgd : o.guard with
  | none => simp [Region.wanted, hgd]
  | some jb =>
    obtain ⟨j, b'⟩ := jb
    rw [hgd] at hg
    simp only [compG] at hg
    split at hg
    · split at hg <;> cases hg
    · cases hg

theorem evR_sound {P : Program} {F : FF} (hF : FOK P F) (hM : F.mono) {N : Nat} {ops : Array Oper} : ∀ (l : List Oper) (k : Nat) (r : RL), ops.toList.drop k = l → compR P N ops l = some r →
    ∀ (lim : Nat) (e : Tr) (h : Hp) (n : Nat) (e' : Tr) (h' : Hp) (n' : Nat), evR r F lim e h n = .ok e' h' n' → ∀ (a : Act) (g : Sig) (w : World), EnvA N g e a → Mem g h.get w → Dom h.get n → Fresh g n n' → n' < 9223372036854775808 →
    ∀ (ro : Option Nat) (Q : Exit → Act → World → Prop), (∀ a' g' w', EnvA N g' e' a' → Mem g' h'.get w' → Fr lim n g h.get w n' g' h'.get w' → a'.defers = a.defers → Q .normal a' w') → wpOpsIn (fw ro) 0 P ops Q (List.range' k (ops.size - k)) a w
  | [], k, r, hl, hr, lim, e, h, n, e', h', n', hev, a, g, w, he, m, hd, hf, hn, ro, Q, hQ => by
    have hk : ops.size ≤ k := by
      have := congrArg List.length hl
      simp at this; omega
    rw [show ops.size - k = 0 by omega]
    simp [compR] at hr
    subst hr
    cases hev
    exact hQ a g w he m (Fr.refl hd) rfl
  | o :: l, k, r, hl, hr, lim, e, h, n, e', h', n', hev, a, g, w, he, m, hd, hf, hn, ro, Q, hQ => by
    have hk : k < ops.size := by
      have := congrArg List.length hl
      simp at this; omega
    have hok : ops[k]? = some o := by
      have : (ops.toList.drop k)[0]? = some o := by rw [hl]; rfl
      simpa using this
    have hl' : ops.toList.drop (k + 1) = l := by
      have : (ops.toList.drop k).drop 1 = l := by rw [hl]; rfl
      simpa [List.drop_drop, Nat.add_comm] using this
    rw [show ops.size - k = (ops.size - (k + 1)) + 1 by omega, List.range'_succ]
    simp only [wpOpsIn, hok]
    rw [compR] at hr
    split at hr
    case h_2 => cases hr
    rename_i d gd q rl h1 h2 h3 h4
    cases hr
    have run : Region.wanted o (yielded ops a.tmps) = true → runR d q (evR rl) F lim e h n = .ok e' h' n' → if Region.wanted o (yielded ops a.tmps) then o.wpIn (fw ro) 0 P a w (wpOpsIn (fw ro) 0 P ops Q (List.range' (k + 1) (ops.size - (k + 1)))) Q else (∀ f, o.about P w a.eval = some f → (fw ro).fn f) ∧ wpOpsIn (fw ro) 0 P ops Q (List.range' (k + 1) (ops.size - (k + 1))) (a.put o.dst undef) w := by
      intro hw hrun
      rw [if_pos hw]
      unfold runR at hrun
      cases hq : q.ev F e lim h n with
      | no => rw [hq] at hrun; cases hrun
      | ok v h1' n1 =>
        rw [hq] at hrun
        have hrun : putd d v e (fun e' => evR rl F lim e' h1' n1) = .ok e' h' n' := hrun
        rw [putd_eq] at hrun
        have hge1 : n ≤ n1 := by have := O.ev_ge (n := n) hM q e lim h; rw [hq] at this; exact this
        have hge2 : n1 ≤ n' := by have := evR_ge hM rl lim (setD d v e) h1' n1; rw [hrun] at this; exact this
        refine compM_sound hF h3 e lim h n v h1' n1 hq a g w he.ok m hd (hf.sub (Nat.le_refl _) hge2) (by omega) ro _ _ fun u g1 w1 hv m1 f1 => ?_
        have hle := f1.gle (hf.sub (Nat.le_refl _) hge2)
        refine evR_sound hF hM l (k + 1) rl hl' h4 lim (setD d v e) h1' n1 e' h' n' hrun (a.put o.dst u) g1 w1 ((he.mono hle).put h1 hv) m1 f1.dom' (f1.fresh hf) hn ro Q fun a' g' w' ha hm hfr hd' => hQ a' g' w' ha hm (f1.trans hfr) (hd'.trans (put_defers a o.dst u))
    have skip : Region.wanted o (yielded ops a.tmps) = false → putd d (.tu .nil) e (fun e' => evR rl F lim e' h n) = .ok e' h' n' → if Region.wanted o (yielded ops a.tmps) then o.wpIn (fw ro) 0 P a w (wpOpsIn (fw ro) 0 P ops Q (List.range' (k + 1) (ops.size - (k + 1)))) Q else (∀ f, o.about P w a.eval = some f → (fw ro).fn f) ∧ wpOpsIn (fw ro) 0 P ops Q (List.range' (k + 1) (ops.size - (k + 1))) (a.put o.dst undef) w := by
      intro hw hrun
      rw [if_neg (by rw [hw]; simp)]
      rw [putd_eq] at hrun
      exact ⟨fun _ _ => trivial, evR_sound hF hM l (k + 1) rl hl' h4 lim (setD d (.tu .nil) e) h n e' h' n' hrun (a.put o.dst undef) g w (he.put h1 ⟨[], rfl, rfl⟩) m hd hf hn ro Q fun a' g' w' ha hm hfr hd' => hQ a' g' w' ha hm hfr (hd'.trans (put_defers a o.dst undef))⟩
    cases gd with
    | none => exact run (wanted_none h2) hev
    | some pb =>
      obtain ⟨p, b⟩ := pb
      have hev : guardR (e.get p) b (runR d q (evR rl) F lim e h n) (putd d (.tu .nil) e fun e' => evR rl F lim e' h n) .no = .ok e' h' n' := hev
      obtain ⟨w1, w2⟩ := wanted_of he h2
      unfold guardR at hev
      cases hg : e.get p <;> rw [hg] at hev <;> dsimp only [onB, V.asB, onT, V.asT] at hev
      case b x =>
        have hw := w1 x hg
        cases x <;> cases b <;> first | exact run (hw.trans rfl) hev | exact skip (hw.trans rfl) hev
      case tu lst =>
        cases lst with
        | nil => exact skip (w2 hg) hev
        | cons _ _ => cases hev
      all_goals cases hev

theorem reg_sound {ro : Option Nat} {P : Program} {F : FF} (hF : FOK P F) (hM : F.mono) {N : Nat} {id : Nat} {ops : Array Oper} {r : RL} (hr : compR P N ops ops.toList = some r)
    {lim : Nat} {e : Tr} {h : Hp} {n : Nat} {e' : Tr} {h' : Hp} {n' : Nat} (hev : evR r F lim e h n = .ok e' h' n') {a : Act} {g : Sig} {w : World} (he : EnvA N g e a) (m : Mem g h.get w) (hd : Dom h.get n) (hf : Fresh g n n') (hn : n' < 9223372036854775808) :
    (Code.region id ops false).wpIn (fw ro) 0 P (fun ex a' w' => ex = .normal ∧ MkK w a w' a' ∧ ∃ g', EnvA N g' e' a' ∧ Mem g' h'.get w' ∧ Fr lim n g h.get w n' g' h'.get w') a w := by
  refine wpIn_region ?_
  rw [List.range_eq_range']
  have := evR_sound hF hM ops.toList 0 r rfl hr lim e h n e' h' n' hev a g w he m hd hf hn ro (fun ex a' w' => ex = .normal ∧ MkK w a w' a' ∧ ∃ g', EnvA N g' e' a' ∧ Mem g' h'.get w' ∧ Fr lim n g h.get w n' g' h'.get w') (fun a' g' w' x y z hd' => ⟨rfl, mk_keep m z hd', g', x, y, z⟩)
  simpa using this
end Go.Proofs.Ythgaekbcmhbbgaa.Ev
/- Regions whose order is open: what each operation does is worked out once; any order comes to the same. -/
namespace Go.Proofs.Ythgaekbcmhbbgaa.Ev
set_option linter.unusedVariables false
open Go

/-! What an operation turned in the memory. -/
inductive Dl where
  | nil | cons (p : Pos) (b : Option Blk) (l : Dl)
def Dl.has : Dl → Pos → Prop
  | .nil, _ => False
  | .cons p _ l, q => q = p ∨ l.has q
def Dl.look : Dl → Pos → Option Blk
  | .nil, _ => none
  | .cons p b l, q => if q = p then b else l.look q
noncomputable def Dl.app : Dl → Hp → Hp
  | .nil, h => h
  | .cons p b l, h => (l.app h).put b p
noncomputable def Dl.rem : Dl → Hp → Hp
  | .nil, h => h
  | .cons p _ l, h => (l.rem h).put none p
instance Dl.hasDec : ∀ (d : Dl) (p : Pos), Decidable (d.has p)
  | .nil, _ => isFalse fun h => h
  | .cons q _ l, p => match decEq p q, Dl.hasDec l p with
    | isTrue h, _ => isTrue (.inl h)
    | isFalse _, isTrue h => isTrue (.inr h)
    | isFalse h1, isFalse h2 => isFalse fun h => h.elim h1 h2
theorem app_get : ∀ (d : Dl) (h : Hp) (q : Pos), (d.app h).get q = if d.has q then d.look q else h.get q
  | .nil, h, q => by rw [if_neg (by simp [Dl.has])]; rfl
  | .cons p b l, h, q => by
    show ((l.app h).put b p).get q = _
    rw [Hp.get_put, app_get l h q]
    by_cases e : q = p
    · rw [if_pos e, if_pos (.inl e)]; show _ = if q = p then b else _; rw [if_pos e]
    · rw [if_neg e]
      by_cases e2 : l.has q
      · rw [if_pos e2, if_pos (.inr e2)]; show _ = if q = p then b else _; rw [if_neg e]
      · rw [if_neg e2, if_neg (fun h => h.elim e e2)]
theorem rem_get : ∀ (d : Dl) (h : Hp) (q : Pos), (d.rem h).get q = if d.has q then none else h.get q
  | .nil, h, q => by rw [if_neg (by simp [Dl.has])]; rfl
  | .cons p b l, h, q => by
    show ((l.rem h).put none p).get q = _
    rw [Hp.get_put, rem_get l h q]
    by_cases e : q = p
    · rw [if_pos e, if_pos (.inl e)]
    · rw [if_neg e]
      by_cases e2 : l.has q
      · rw [if_pos e2, if_pos (.inr e2)]
      · rw [if_neg e2, if_neg (fun h => h.elim e e2)]

/-- The places from one on that are new. -/
noncomputable def coll (h : Hp) : Nat → Nat → Dl
  | _, 0 => .nil
  | n, k + 1 => .cons (posF 63 n) (h.get (posF 63 n)) (coll h (n + 1) k)
theorem coll_has (h : Hp) : ∀ (k n : Nat) (p : Pos), 1 ≤ n → n + k < 9223372036854775808 → (coll h n k).has p → n ≤ p.num ∧ p.num < n + k ∧ (coll h n k).look p = h.get p
  | 0, _, _, _, _, e => e.elim
  | k + 1, n, p, h1, h2, e => by
    have hn := num_posF 63 n h1 (by omega)
    rcases e with rfl | e
    · exact ⟨by omega, by omega, by simp [coll, Dl.look]⟩
    · obtain ⟨a, b, c⟩ := coll_has h k (n + 1) p (by omega) (by omega) e
      refine ⟨by omega, by omega, ?_⟩
      show (if p = posF 63 n then _ else _) = _
      rw [if_neg (fun e => by rw [e] at a; omega), c]

/-! One operation of such a region: where its result goes, its guard, a store's address, whether its new blocks are kept, which of the operations before it (the last one first) come before it in any order, the addresses of later stores that may come before it, the slots that it reads. -/
structure DO where
  dst : Option Pos
  gd : Option (Pos × Bool)
  pu : Bool
  st : List Pos
  fr : Bool
  an : List Bool
  us : List Pos
  ts : List Pos
  o : O
  ef : Bool := false
  rd : List Pos := []
  nd : List Pos := []
  gl : List Pos := []
abbrev DR := List DO

noncomputable def baseA : List Dl → List Bool → Hp → Hp
  | d :: acc, a :: an, h => Bool.rec (baseA acc an h) (d.app (baseA acc an h)) a
  | _, _, h => h
noncomputable def baseR : List Dl → List Bool → Hp → Hp
  | d :: acc, a :: an, h => Bool.rec (d.rem (baseR acc an h)) (baseR acc an h) a
  | d :: acc, [], h => d.rem (baseR acc [] h)
  | [], _, h => h
/-- The block of a pointer, or of a slice. -/
def blkOf : V → Option (Option Pos)
  | .p a _ => some (some a)
  | .sl a _ _ _ _ => some (some a)
  | .mp a => some (some a)
  | .yl a => some (some a)
  | .nm => some none
  | .ns => some none
  | .np => some none
  | _ => none
noncomputable def baseU (e : Tr) : List Pos → Hp → Option Hp
  | [], h => some h
  | x :: us, h => match blkOf (e.get x) with
    | some (some a) => (baseU e us h).map (Hp.put none a)
    | some none => baseU e us h
    | none => none
/-- The blocks that some slots tell of. -/
noncomputable def takeB (er : Tr) (b : Hp) : List Pos → Option Hp
  | [] => some .lf
  | x :: st => match blkOf (er.get x) with
    | some (some a) => match b.get a with
      | some bl => (takeB er b st).map (Hp.put (some bl) a)
      | none => none
    | some none => takeB er b st
    | none => none
noncomputable def keysB (er : Tr) (h : Hp) (z : Dl) : List Pos → Dl
  | [] => z
  | x :: st => match blkOf (er.get x) with
    | some (some a) => .cons a (h.get a) (keysB er h z st)
    | _ => keysB er h z st
noncomputable def restr (e : Tr) : List Pos → Tr
  | [] => .lf
  | p :: ts => (restr e ts).set (e.get p) p

inductive SR where
  | no | ok (v : V) (d : Dl) (n : Nat)
/-! The blocks that values tell of, and those that these tell of. -/
noncomputable def posV (v : V) : List Pos → List Pos := V.rec (motive_1 := fun _ => List Pos → List Pos) (motive_2 := fun _ => List Pos → List Pos) (fun r => r) (fun _ r => r) (fun _ _ r => r) (fun _ r => r) (fun a _ r => a :: r) (fun r => r) (fun a _ _ _ _ r => a :: r)
    (fun r => r) (fun _ ih => ih) (fun _ ih => ih) (fun _ _ _ ia ic r => ia (ic r)) (fun r => r) (fun _ r => r) (fun _ _ ih => ih) (fun r => r) (fun a r => a :: r) (fun r => r) (fun a r => a :: r) (fun _ _ _ _ r => r) (fun r => r) (fun _ _ iv il r => iv (il r)) v
noncomputable def posT (t : Tb) : List Pos → List Pos := Tb.rec (motive := fun _ => List Pos → List Pos) (fun r => r) (fun _ v _ il ir r => il (posV v (ir r))) t
noncomputable def posB (b : Blk) (r : List Pos) : List Pos := posT b.m (posV (.ag b.z) r)
noncomputable def posS (er : Tr) (ts : List Pos) : List Pos := List.rec (motive := fun _ => List Pos) [] (fun t _ ih => posV (er.get t) ih) ts
noncomputable def rch (b : Hp) (f : Nat) : List Pos → Hp → List Pos → Hp × List Pos :=
  Nat.rec (motive := fun _ => List Pos → Hp → List Pos → Hp × List Pos) (fun _ t r => (t, r))
    (fun _ ih td t r => List.rec (motive := fun _ => Hp × List Pos) (t, r) (fun a td _ => Option.rec (Option.rec (ih td t r) (fun bl => ih (posB bl td) (t.put (some bl) a) (a :: r)) (b.get a)) (fun _ => ih td t r) (t.get a)) td) f
/-- The blocks that are there in any case. -/
noncomputable def glB (b : Hp) (lim : Nat) (gl : List Pos) : Hp := List.rec (motive := fun _ => Hp) .lf (fun a _ ih => Bool.rec ih (Option.rec ih (fun x => ih.put (some x) a) (b.get a)) (Nat.blt a.num lim)) gl
theorem glB_get (b : Hp) (lim : Nat) : ∀ (gl : List Pos) (p : Pos) (y : Blk), (glB b lim gl).get p = some y → b.get p = some y ∧ p.num < lim
  | [], p, y, h => (nomatch (Hp.get_lf p).symm.trans h)
  | a :: gl, p, y, h => by
    have h : (Bool.rec (glB b lim gl) (Option.rec (glB b lim gl) (fun x => (glB b lim gl).put (some x) a) (b.get a)) (Nat.blt a.num lim) : Hp).get p = some y := h
    cases hl : Nat.blt a.num lim with
    | false => rw [hl] at h; exact glB_get b lim gl p y h
    | true =>
      rw [hl] at h
      rw [Nat.blt_eq] at hl
      cases hb : b.get a with
      | none => rw [hb] at h; exact glB_get b lim gl p y h
      | some x =>
        rw [hb] at h
        have h : ((glB b lim gl).put (some x) a).get p = some y := h
        rw [Hp.get_put] at h
        split at h
        · rename_i e; cases h; rw [e]; exact ⟨hb, hl⟩
        · exact glB_get b lim gl p y h
def rchOK (b : Hp) (lim : Nat) (x : Hp × List Pos) : Prop := (∀ p y, x.1.get p = some y → b.get p = some y ∧ (p ∈ x.2 ∨ p.num < lim)) ∧ ∀ p ∈ x.2, ∃ y, x.1.get p = some y
theorem rch_ok (b : Hp) (lim : Nat) : ∀ (f : Nat) (td : List Pos) (t : Hp) (r : List Pos), rchOK b lim (t, r) → rchOK b lim (rch b f td t r)
  | 0, td, t, r, h => h
  | f + 1, [], t, r, h => h
  | f + 1, a :: td, t, r, h => by
    show rchOK b lim (Option.rec (Option.rec (rch b f td t r) (fun bl => rch b f (posB bl td) (t.put (some bl) a) (a :: r)) (b.get a)) (fun _ => rch b f td t r) (t.get a))
    cases hta : t.get a with
    | some _ => exact rch_ok b lim f td t r h
    | none =>
      cases hba : b.get a with
      | none => exact rch_ok b lim f td t r h
      | some bl =>
        refine rch_ok b lim f _ _ _ ⟨fun p y hp => ?_, fun p hp => ?_⟩
        · have hp : (t.put (some bl) a).get p = some y := hp
          rw [Hp.get_put] at hp
          split at hp
          · rename_i e; cases hp; exact ⟨by rw [e]; exact hba, .inl (by rw [e]; exact List.mem_cons_self ..)⟩
          · exact ⟨(h.1 p y hp).1, (h.1 p y hp).2.imp (List.mem_cons_of_mem _) id⟩
        · show ∃ y, (t.put (some bl) a).get p = some y
          rw [Hp.get_put]
          by_cases e : p = a
          · rw [if_pos e]; exact ⟨bl, rfl⟩
          · rw [if_neg e]
            exact h.2 p ((List.mem_cons.1 hp).resolve_left e)
/-! Whether blocks are the same. -/
mutual
noncomputable def eqV : V → V → Bool
  | .bad, .bad => true
  | .n a, .n b => Nat.beq a b
  | .i k z, .i k' z' => decide (k = k') && decide (z = z')
  | .b x, .b y => x == y
  | .p a o, .p a' o' => Nat.beq a.num a'.num && Nat.beq o o'
  | .np, .np => true
  | .sl a o e l c, .sl a' o' e' l' c' => Nat.beq a.num a'.num && (Nat.beq o o' && (Nat.beq e e' && (Nat.beq l l' && decide (c = c'))))
  | .ns, .ns => true
  | .ag l, .ag m => eqL l m
  | .tu l, .tu m => eqL l m
  | .nf, .nf => true
  | .s x, .s y => decide (x = y)
  | .nif, .nif => true
  | .mp a, .mp b => Nat.beq a.num b.num
  | .nm, .nm => true
  | _, _ => false
noncomputable def eqL : L → L → Bool
  | .nil, .nil => true
  | .cons v l, .cons u m => eqV v u && eqL l m
  | _, _ => false
end
mutual
theorem eqV_eq : ∀ (v u : V), eqV v u = true → v = u := fun v u h => by
  cases v <;> cases u <;> simp only [eqV, Bool.and_eq_true, Nat.beq_eq, decide_eq_true_eq, beq_iff_eq, Bool.false_eq_true, reduceCtorEq] at h
  case bad.bad => rfl
  case n.n => rw [h]
  case i.i => rw [h.1, h.2]
  case b.b => rw [h]
  case p.p => rw [Pos.num_inj h.1, h.2]
  case np.np => rfl
  case sl.sl => rw [Pos.num_inj h.1, h.2.1, h.2.2.1, h.2.2.2.1, h.2.2.2.2]
  case ns.ns => rfl
  case ag.ag => rw [eqL_eq _ _ h]
  case tu.tu => rw [eqL_eq _ _ h]
  case nf.nf => rfl
  case s.s => rw [h]
  case nif.nif => rfl
  case mp.mp => rw [Pos.num_inj h]
  case nm.nm => rfl
theorem eqL_eq : ∀ (l m : L), eqL l m = true → l = m := fun l m h => by
  cases l <;> cases m <;> simp only [eqL, Bool.and_eq_true, Bool.false_eq_true, reduceCtorEq] at h
  case nil.nil => rfl
  case cons.cons => rw [eqV_eq _ _ h.1, eqL_eq _ _ h.2]
end
noncomputable def eqTr : Tb → Tb → Bool
  | .lf, .lf => true
  | .nd l v r, .nd l' v' r' => eqV v v' && (eqTr l l' && eqTr r r')
  | _, _ => false
theorem eqTr_eq : ∀ (t u : Tb), eqTr t u = true → t = u
  | .lf, .lf, _ => rfl
  | .lf, .nd .., h => by simp [eqTr] at h
  | .nd .., .lf, h => by simp [eqTr] at h
  | .nd l v r, .nd l' v' r', h => by
    simp only [eqTr, Bool.and_eq_true] at h
    rw [eqV_eq _ _ h.1, eqTr_eq _ _ h.2.1, eqTr_eq _ _ h.2.2]
noncomputable def eqBlk (b c : Blk) : Bool := decide (b.el = c.el) && (Nat.beq b.size c.size && (Nat.beq b.pr c.pr && (eqL b.z c.z && eqTr b.m c.m)))
theorem eqBlk_eq {b c : Blk} (h : eqBlk b c = true) : b = c := by
  obtain ⟨_, _, _, _, _⟩ := b
  obtain ⟨_, _, _, _, _⟩ := c
  simp only [eqBlk, Bool.and_eq_true, Nat.beq_eq, decide_eq_true_eq] at h
  rw [h.1, h.2.1, h.2.2.1, eqL_eq _ _ h.2.2.2.1, eqTr_eq _ _ h.2.2.2.2]
/-- What was turned among some places. -/
noncomputable def keysL (t h : Hp) (z : Dl) (r : List Pos) : Dl := List.rec (motive := fun _ => Dl) z (fun a _ ih => Option.rec (.cons a (h.get a) ih) (fun x => Option.rec (.cons a (h.get a) ih) (fun y => Bool.rec (.cons a (h.get a) ih) ih (eqBlk x y)) (h.get a)) (t.get a)) r
theorem keysL_has {t h : Hp} {z : Dl} {p : Pos} : ∀ (r : List Pos), ((keysL t h z r).has p → ((keysL t h z r).look p = h.get p ∧ p ∈ r) ∨ ((keysL t h z r).look p = z.look p ∧ z.has p)) ∧ (p ∈ r → (keysL t h z r).has p ∨ ∃ x, t.get p = some x ∧ h.get p = some x)
  | [] => ⟨fun hh => .inr ⟨rfl, hh⟩, by simp⟩
  | a :: r => by
    obtain ⟨i1, i2⟩ := keysL_has (t := t) (h := h) (z := z) (p := p) r
    have put : (keysL t h z (a :: r) = .cons a (h.get a) (keysL t h z r)) ∨ (keysL t h z (a :: r) = keysL t h z r ∧ ∃ x, t.get a = some x ∧ h.get a = some x) := by
      show (Option.rec _ _ (t.get a) = Dl.cons a (h.get a) (keysL t h z r)) ∨ (Option.rec _ _ (t.get a) = keysL t h z r ∧ _)
      cases hta : t.get a with
      | none => exact .inl rfl
      | some x =>
        cases hha : h.get a with
        | none => exact .inl rfl
        | some y =>
          cases he : eqBlk x y with
          | false => exact .inl (by dsimp only; rw [he]; rfl)
          | true => exact .inr ⟨by dsimp only; rw [he]; rfl, x, rfl, by rw [eqBlk_eq he]⟩
    rcases put with e | ⟨e, x, e1, e2⟩
    · rw [e]
      refine ⟨fun hh => ?_, fun hm => ?_⟩
      · show ((if p = a then _ else _) = _ ∧ _) ∨ ((if p = a then _ else _) = _ ∧ _)
        by_cases ep : p = a
        · rw [if_pos ep]; exact .inl ⟨by rw [ep], by rw [ep]; exact List.mem_cons_self ..⟩
        · rw [if_neg ep]
          exact (i1 (hh.resolve_left ep)).imp (fun ⟨x, y⟩ => ⟨x, List.mem_cons_of_mem _ y⟩) id
      · rcases List.mem_cons.1 hm with rfl | hm
        · exact .inl (.inl rfl)
        · exact (i2 hm).imp .inr id
    · rw [e]
      refine ⟨fun hh => (i1 hh).imp (fun ⟨x, y⟩ => ⟨x, List.mem_cons_of_mem _ y⟩) id, fun hm => ?_⟩
      rcases List.mem_cons.1 hm with rfl | hm
      · exact .inr ⟨x, e1, e2⟩
      · exact i2 hm
noncomputable def efD (d : DO) (F : FF) (lim : Nat) (er : Tr) (n : Nat) (x : Hp × List Pos) : SR := match d.o.ev F er lim x.1 n with
  | .ok v h' n' => .ok v (keysL x.1 h' (if d.fr then coll h' n (n' - n) else .nil) x.2) n'
  | .no => .no
noncomputable def ndB (e : Tr) (dl : Dl) (x : Pos) : Bool := match blkOf (e.get x) with
  | some (some q) => !decide (dl.has q)
  | some none => true
  | none => false
/-- Some blocks are not to be turned. -/
noncomputable def ndC (e : Tr) (nd : List Pos) (r : SR) : SR := match nd with
  | [] => r
  | a :: nd => match r with
    | .no => .no
    | .ok v dl n => if (a :: nd).all (ndB e dl) = true then .ok v dl n else .no
noncomputable def runD (d : DO) (F : FF) (lim : Nat) (b : Hp) (er : Tr) (n : Nat) : SR :=
  match d.ef with
  | true => efD d F lim er n (rch b 100000 (posS er d.ts) (glB b lim d.gl) [])
  | false => match d.st with
    | [] => match d.o.ev F er n b n with
      | .ok v h' n' => .ok v (if d.fr then coll h' n (n' - n) else .nil) n'
      | .no => .no
    | x :: st => match takeB er b (x :: st) with
      | some b' => match d.o.ev F er lim b' n with
        | .ok v h' n' => .ok v (keysB er h' (if d.fr then coll h' n (n' - n) else .nil) (x :: st)) n'
        | .no => .no
      | none => .no
noncomputable def rdX (e : Tr) (rd : List Pos) (b : Option Hp) : Option Hp := match rd with
  | [] => b
  | a :: rd => match b with
    | some b => takeB e b (a :: rd)
    | none => none
noncomputable def baseOf (d : DO) (acc : List Dl) (e : Tr) (S : Hp) : Option Hp := if d.pu then some .lf else rdX e d.rd (baseU e d.us (baseR acc d.an (baseA acc d.an S)))
noncomputable def stepD0 (d : DO) (F : FF) (lim : Nat) (acc : List Dl) (e : Tr) (S : Hp) (n : Nat) : SR :=
  match baseOf d acc e S with
  | none => .no
  | some b =>
    let er := restr e d.ts
    match d.gd with
    | none => runD d F lim b er n
    | some (p, w) => match er.get p with
      | .b x => if x = w then runD d F lim b er n else .ok (.tu .nil) .nil n
      | .tu .nil => .ok (.tu .nil) .nil n
      | _ => .no
noncomputable def stepD (d : DO) (F : FF) (lim : Nat) (acc : List Dl) (e : Tr) (S : Hp) (n : Nat) : SR := ndC e d.nd (stepD0 d F lim acc e S n)
theorem ndC_ok {e : Tr} {nd : List Pos} {r : SR} {v : V} {dl : Dl} {n : Nat} (h : ndC e nd r = .ok v dl n) : r = .ok v dl n ∧ ∀ a ∈ nd, ∀ p, blkOf (e.get a) = some (some p) → ¬ dl.has p := by
  unfold ndC at h
  split at h
  · exact ⟨h, by simp⟩
  · rename_i a nd
    cases r with
    | no => cases h
    | ok v' dl' n1 =>
      dsimp only at h
      split at h
      · rename_i hc
        cases h
        refine ⟨rfl, fun x hx p hp => ?_⟩
        have := List.all_eq_true.1 hc x hx
        unfold ndB at this
        rw [hp] at this
        simpa using this
      · cases h
noncomputable def appAll : List Dl → Hp → Hp
  | [], h => h
  | d :: acc, h => d.app (appAll acc h)
noncomputable def evDs (F : FF) (lim : Nat) (S : Hp) : DR → List Dl → Tr → Nat → Rg
  | [], acc, e, n => .ok e (appAll acc S) n
  | d :: l, acc, e, n => match stepD d F lim acc e S n with
    | .ok v dl n' => evDs F lim S l (dl :: acc) (setD d.dst v e) n'
    | .no => .no
/-- A last operation that all others come before: it is done behind them, over all that is there. -/
def tlOf : DR → Option (DR × DO)
  | [] => none
  | [d] => if (d.pu && d.ef) = true then some ([], d) else none
  | d :: d' :: l => match tlOf (d' :: l) with
    | some x => some (d :: x.1, x.2)
    | none => none
theorem tlOf_eq : ∀ {l : DR} {x : DR × DO}, tlOf l = some x → l = x.1 ++ [x.2]
  | [], _, h => by cases h
  | [d], x, h => by
    rw [tlOf] at h
    split at h
    · cases h; rfl
    · cases h
  | d :: d' :: l, x, h => by
    rw [tlOf] at h
    split at h
    · rename_i y hy
      cases h
      rw [tlOf_eq hy]; rfl
    · cases h
theorem tlOf_last : ∀ (l : DR) {d : DO}, (d.pu && d.ef) = true → tlOf (l ++ [d]) = some (l, d)
  | [], d, h => by show (if (d.pu && d.ef) = true then some ([], d) else none) = _; rw [if_pos h]
  | [x], d, h => by
    show (match tlOf [d] with | some y => some (x :: y.1, y.2) | none => none) = _
    rw [show tlOf [d] = some ([], d) from tlOf_last [] h]
  | x :: y :: l, d, h => by
    show (match tlOf ((y :: l) ++ [d]) with | some z => some (x :: z.1, z.2) | none => none) = _
    rw [tlOf_last (y :: l) h]
noncomputable def tlR (d : DO) (F : FF) (lim : Nat) (r : Rg) : Rg := match r with
  | .no => .no
  | .ok e h n => match d.o.ev F e lim h n with
    | .ok v h' n' => .ok (setD d.dst v e) h' n'
    | .no => .no
noncomputable def evDr (l : DR) (F : FF) (lim : Nat) (e : Tr) (h : Hp) (n : Nat) : Rg := if lim ≤ n ∧ 1 ≤ n then (match tlOf l with
  | none => evDs F lim h l [] e n
  | some x => tlR x.2 F lim (evDs F lim h x.1 [] e n)) else .no

theorem stepD_ge {F : FF} (hF : F.mono) {d : DO} {lim : Nat} {acc : List Dl} {e : Tr} {S : Hp} {n : Nat} {v : V} {dl : Dl} {n' : Nat} (h : stepD d F lim acc e S n = .ok v dl n') : n ≤ n' := by
  have run : ∀ b er, runD d F lim b er n = .ok v dl n' → n ≤ n' := by
    intro b er h
    unfold runD at h
    split at h
    · unfold efD at h
      have hg := O.ev_ge (n := n) hF d.o er lim (rch b 100000 (posS er d.ts) (glB b lim d.gl) []).1
      split at h
      · rename_i h1; rw [h1] at hg; cases h; exact hg
      · cases h
    split at h
    · have hg := O.ev_ge (n := n) hF d.o er n b
      split at h
      · rename_i h1; rw [h1] at hg; cases h; exact hg
      · cases h
    · split at h
      · rename_i b' _
        have hg := O.ev_ge (n := n) hF d.o er lim b'
        split at h
        · rename_i h1; rw [h1] at hg; cases h; exact hg
        · cases h
      · cases h
  replace h := (ndC_ok h).1
  unfold stepD0 at h
  split at h
  · cases h
  · dsimp only at h
    split at h
    · exact run _ _ h
    · split at h
      · split at h
        · exact run _ _ h
        · cases h; exact Nat.le_refl _
      · cases h; exact Nat.le_refl _
      · cases h
theorem evDs_ge {F : FF} (hF : F.mono) (lim : Nat) (S : Hp) : ∀ (l : DR) (acc : List Dl) (e : Tr) (n : Nat), (evDs F lim S l acc e n).ge n
  | [], acc, e, n => Nat.le_refl n
  | d :: l, acc, e, n => by
    show (match stepD d F lim acc e S n with | .ok v dl n' => evDs F lim S l (dl :: acc) (setD d.dst v e) n' | .no => Rg.no).ge n
    cases hs : stepD d F lim acc e S n with
    | no => trivial
    | ok v dl n' =>
      have h1 := stepD_ge hF hs
      have h2 := evDs_ge hF lim S l (dl :: acc) (setD d.dst v e) n'
      show (evDs F lim S l (dl :: acc) (setD d.dst v e) n').ge n
      revert h2
      generalize evDs F lim S l (dl :: acc) (setD d.dst v e) n' = r
      cases r with
      | no => intro _; trivial
      | ok => intro h2; exact Nat.le_trans h1 h2
theorem evDr_ge {F : FF} (hF : F.mono) (l : DR) (lim : Nat) (e : Tr) (h : Hp) (n : Nat) : (evDr l F lim e h n).ge n := by
  unfold evDr
  split
  · split
    · exact evDs_ge hF lim h l [] e n
    · rename_i x hx
      have h1 := evDs_ge hF lim h x.1 [] e n
      revert h1
      generalize evDs F lim h x.1 [] e n = r
      cases r with
      | no => intro _; trivial
      | ok e1 h1 n1 =>
        intro h2
        show (match x.2.o.ev F e1 lim h1 n1 with | .ok v h' n' => Rg.ok (setD x.2.dst v e1) h' n' | .no => Rg.no).ge n
        have h3 := O.ev_ge (n := n1) hF x.2.o e1 lim h1
        revert h3
        generalize x.2.o.ev F e1 lim h1 n1 = r
        cases r with
        | no => intro _; trivial
        | ok => intro h3; exact Nat.le_trans h2 h3
  · trivial

/-- One operation among others that were done: what it turned is turned, all else stays. -/
theorem draw_step {lim n0 nN ni ni' limi : Nat} {g0 g g' : Sig} {S hL b' h' hL' : Hm} {w0 w w' : World} (m : Mem g hL w) (f0 : Fr lim n0 g0 S w0 nN g hL w) (hS : ∀ p b, S p = some b → p.num < n0) (hlim : lim ≤ limi) (h0i : n0 ≤ ni) (hiN : ni' ≤ nN)
    (hfr : Fresh g ni ni') (m' : Mem g' h' w') (f : Fr limi ni g b' w ni' g' h' w') (hsub : ∀ p b, b' p = some b → hL p = some b) {T : Pos → Prop} (hW : ∀ p b, b' p = some b → limi ≤ p.num → T p)
    (hT : ∀ p, T p → (ni ≤ p.num ∧ p.num < ni') ∨ ∃ b, b' p = some b) (hL1 : ∀ p, T p → hL' p = h' p) (hL2 : ∀ p, ¬ T p → hL' p = hL p) (hf0 : ∀ p, T p → ni ≤ p.num → p.num < ni' → ∀ b, hL p ≠ some b) :
    Mem g' hL' w' ∧ Fr lim n0 g0 S w0 nN g' hL' w' := by
  have hle := f.gle hfr
  have keepU : ∀ p b r base tot, ¬ T p → hL p = some b → g p = some (r, base, tot) → w'.heap[r]? = w.heap[r]? := by
    intro p b r base tot hn hp hg
    refine f.keep r (m.lt hp hg) fun q c x y hq hl e => ?_
    have := m.inj q p c b r x y base tot (hsub q c hq) hp e hg
    subst this
    exact hn (hW q c hq hl)
  have hg' : ∀ p b, hL p = some b → g' p = g p := by
    intro p b hp
    obtain ⟨r, base, tot, cur, h1, _⟩ := m.blk p b hp
    rw [h1]; exact hle _ _ h1
  -- a place that was turned, against one that was not
  have cross : ∀ p q bp bq r b1 t1 b2 t2, T p → ¬ T q → h' p = some bp → hL q = some bq → g' p = some (r, b1, t1) → g' q = some (r, b2, t2) → False := by
    intro p q bp bq r b1 t1 b2 t2 hp hq hhp hhq e1 e2
    rw [hg' q bq hhq] at e2
    rcases hT p hp with ⟨x, y⟩ | ⟨b, hb⟩
    · rcases f.new p r b1 t1 x y e1 with h1 | ⟨q0, b0, x0, y0, h1, h2, h3⟩
      · have := m.lt hhq e2; omega
      · have := m.inj q0 q b0 bq r x0 y0 b2 t2 (hsub _ _ h1) hhq h3 e2
        subst this
        exact hq (hW q0 b0 h1 h2)
    · have hbl := hsub p b hb
      rw [hg' p b hbl] at e1
      have := m.inj p q b bq r b1 t1 b2 t2 hbl hhq e1 e2
      subst this
      exact hq hp
  refine ⟨⟨?_, ?_⟩, ?_⟩
  · intro p q bp bq r b1 t1 b2 t2 hp hq e1 e2
    by_cases hTp : T p <;> by_cases hTq : T q
    · rw [hL1 p hTp] at hp
      rw [hL1 q hTq] at hq
      exact m'.inj p q bp bq r b1 t1 b2 t2 hp hq e1 e2
    · rw [hL1 p hTp] at hp
      rw [hL2 q hTq] at hq
      exact (cross p q bp bq r b1 t1 b2 t2 hTp hTq hp hq e1 e2).elim
    · rw [hL2 p hTp] at hp
      rw [hL1 q hTq] at hq
      exact (cross q p bq bp r b2 t2 b1 t1 hTq hTp hq hp e2 e1).elim
    · rw [hL2 p hTp] at hp
      rw [hL2 q hTq] at hq
      rw [hg' p bp hp] at e1
      rw [hg' q bq hq] at e2
      exact m.inj p q bp bq r b1 t1 b2 t2 hp hq e1 e2
  · intro p b hp
    by_cases hTp : T p
    · rw [hL1 p hTp] at hp
      exact m'.blk p b hp
    · rw [hL2 p hTp] at hp
      obtain ⟨r, base, tot, cur, h1, h2, h3, h4, h5, h6⟩ := m.blk p b hp
      refine ⟨r, base, tot, cur, hle _ _ h1, (h2.mono hle).keep (keepU p b r base tot hTp hp h1), h3, h4, h5, fun k hk => ?_⟩
      obtain ⟨v, c1, c2, c3⟩ := h6 k hk
      exact ⟨v, c1, c2, V.rel_mono hle _ c3⟩
  · have inW : ∀ q c r x y, b' q = some c → limi ≤ q.num → g q = some (r, x, y) → w0.heap.size ≤ r ∨ ∃ q b base' tot', S q = some b ∧ lim ≤ q.num ∧ g0 q = some (r, base', tot') := by
      intro q c r x y hq hl hgq
      by_cases hqn : q.num < n0
      · obtain ⟨c', hc'⟩ := (f0.dom q c (hsub q c hq)).1 hqn
        rw [f0.sig q (.inl hqn)] at hgq
        exact .inr ⟨q, c', x, y, hc', by omega, hgq⟩
      · exact f0.new q r x y (by omega) (f0.dom q c (hsub q c hq)).2 hgq
    exact {
      le := f0.le
      os := f.os.trans f0.os
      tape := f.tape.trans f0.tape
      output := f.output.trans f0.output
      size := Nat.le_trans f0.size f.size
      keep := by
        intro r hr hW0
        rw [f.keep r (Nat.lt_of_lt_of_le hr f0.size) fun q c x y hq hl e => ?_, f0.keep r hr hW0]
        rcases inW q c r x y hq hl e with h1 | ⟨q', c', x', y', h1, h2, h3⟩
        · omega
        · exact hW0 q' c' x' y' h1 h2 h3
      sig := by
        intro p hp
        have := f.le
        rw [f.sig p (by omega), f0.sig p hp]
      dom := by
        intro p b hp
        by_cases hTp : T p
        · rw [hL1 p hTp] at hp
          have hd := f.dom p b hp
          refine ⟨fun hn => ?_, by have := hd.2; omega⟩
          obtain ⟨c, hc⟩ := hd.1 (by omega)
          exact (f0.dom p c (hsub p c hc)).1 hn
        · rw [hL2 p hTp] at hp
          exact f0.dom p b hp
      new := by
        intro p r base tot h1 h2 e
        by_cases hr : ni ≤ p.num ∧ p.num < ni'
        · rcases f.new p r base tot hr.1 hr.2 e with h3 | ⟨q, c, x, y, hq, hl, hgq⟩
          · exact .inl (Nat.le_trans f0.size h3)
          · exact inW q c r x y hq hl hgq
        · rw [f.sig p (by omega)] at e
          exact f0.new p r base tot h1 h2 e }
end Go.Proofs.Ythgaekbcmhbbgaa.Ev
/- Regions whose order is open: the sequence of steps, and what is there after some of them. -/
namespace Go.Proofs.Ythgaekbcmhbbgaa.Ev
set_option linter.unusedVariables false
open Go

instance : Inhabited DO := ⟨⟨none, none, false, [], false, [], [], [], .mv (.c .bad), false, [], [], []⟩⟩
def accS (d : Nat → Dl) : Nat → List Dl
  | 0 => []
  | i + 1 => d i :: accS d i
noncomputable def envS (e0 : Tr) (D : Nat → DO) (v : Nat → V) : Nat → Tr
  | 0 => e0
  | i + 1 => setD (D i).dst (v i) (envS e0 D v i)
theorem accS_congr {d d' : Nat → Dl} : ∀ (i : Nat), (∀ j, j < i → d j = d' j) → accS d i = accS d' i
  | 0, _ => rfl
  | i + 1, h => by rw [accS, accS, h i (by omega), accS_congr i (fun j hj => h j (by omega))]
theorem envS_congr {e0 : Tr} {D : Nat → DO} {v v' : Nat → V} : ∀ (i : Nat), (∀ j, j < i → v j = v' j) → envS e0 D v i = envS e0 D v' i
  | 0, _ => rfl
  | i + 1, h => by rw [envS, envS, h i (by omega), envS_congr i (fun j hj => h j (by omega))]

theorem trace {F : FF} {lim : Nat} {S : Hp} {e0 : Tr} {l : List DO} {e' : Tr} {h' : Hp} {n' : Nat} : ∀ (m k : Nat) (v : Nat → V) (d : Nat → Dl) (ns : Nat → Nat), k + m = l.length →
    evDs F lim S (l.drop k) (accS d k) (envS e0 (fun i => l.getD i default) v k) (ns k) = .ok e' h' n' →
    ∃ (v' : Nat → V) (d' : Nat → Dl) (ns' : Nat → Nat), (∀ i, i < k → v' i = v i ∧ d' i = d i) ∧ (∀ i, i ≤ k → ns' i = ns i) ∧
      (∀ i, k ≤ i → i < l.length → stepD (l.getD i default) F lim (accS d' i) (envS e0 (fun i => l.getD i default) v' i) S (ns' i) = .ok (v' i) (d' i) (ns' (i + 1))) ∧
      e' = envS e0 (fun i => l.getD i default) v' l.length ∧ h' = appAll (accS d' l.length) S ∧ n' = ns' l.length
  | 0, k, v, d, ns, hk, h => by
    have hk : k = l.length := by omega
    subst hk
    rw [List.drop_length] at h
    cases h
    exact ⟨v, d, ns, fun _ _ => ⟨rfl, rfl⟩, fun _ _ => rfl, fun i h1 h2 => by omega, rfl, rfl, rfl⟩
  | m + 1, k, v, d, ns, hk, h => by
    have hlt : k < l.length := by omega
    rw [List.drop_eq_getElem_cons hlt] at h
    have hD : l[k] = l.getD k default := by simp [List.getD, List.getElem?_eq_getElem hlt]
    rw [hD] at h
    have h : (match stepD (l.getD k default) F lim (accS d k) (envS e0 (fun i => l.getD i default) v k) S (ns k) with | .ok v1 dl n1 => evDs F lim S (l.drop (k + 1)) (dl :: accS d k) (setD (l.getD k default).dst v1 (envS e0 (fun i => l.getD i default) v k)) n1 | .no => Rg.no) = .ok e' h' n' := h
    cases hs : stepD (l.getD k default) F lim (accS d k) (envS e0 (fun i => l.getD i default) v k) S (ns k) with
    | no => rw [hs] at h; cases h
    | ok v1 dl n1 =>
      rw [hs] at h
      have h : evDs F lim S (l.drop (k + 1)) (dl :: accS d k) (setD (l.getD k default).dst v1 (envS e0 (fun i => l.getD i default) v k)) n1 = .ok e' h' n' := h
      have eA : accS (fun i => if i = k then dl else d i) (k + 1) = dl :: accS d k := by
        rw [accS]
        simp only [if_true]
        rw [accS_congr k (d' := d) (fun j hj => by rw [if_neg (by omega)])]
      have eE : envS e0 (fun i => l.getD i default) (fun i => if i = k then v1 else v i) (k + 1) = setD (l.getD k default).dst v1 (envS e0 (fun i => l.getD i default) v k) := by
        rw [envS]
        simp only [if_true]
        rw [envS_congr k (v' := v) (fun j hj => by rw [if_neg (by omega)])]
      obtain ⟨v', d', ns', h1, h2, h3, h4, h5, h6⟩ := trace (F := F) (lim := lim) (S := S) (e0 := e0) (l := l) m (k + 1) (fun i => if i = k then v1 else v i) (fun i => if i = k then dl else d i) (fun i => if i = k + 1 then n1 else ns i) (by omega) (by rw [eA, eE]; simpa using h)
      refine ⟨v', d', ns', fun i hi => ?_, fun i hi => ?_, fun i hi hil => ?_, h4, h5, h6⟩
      · have := h1 i (by omega)
        rw [if_neg (by omega), if_neg (by omega)] at this
        exact this
      · have := h2 i (by omega)
        rw [if_neg (by omega)] at this
        exact this
      · by_cases he : i = k
        · subst he
          have a1 := h1 i (by omega)
          rw [if_pos rfl, if_pos rfl] at a1
          have a2 := h2 i (by omega)
          rw [if_neg (by omega)] at a2
          have a3 := h2 (i + 1) (by omega)
          rw [if_pos rfl] at a3
          rw [a1.1, a1.2, a2, a3]
          have c1 : accS d' i = accS d i := accS_congr i fun j hj => by
            have := (h1 j (by omega)).2; rw [if_neg (by omega)] at this; exact this
          have c2 : envS e0 (fun i => l.getD i default) v' i = envS e0 (fun i => l.getD i default) v i := envS_congr i fun j hj => by
            have := (h1 j (by omega)).1; rw [if_neg (by omega)] at this; exact this
          rw [c1, c2]; exact hs
        · exact h3 i (by omega) hil

/-! What is there after some of the steps. -/
open Classical in
noncomputable def hLf (d : Nat → Dl) (L : Nat → Prop) (S : Hm) : Nat → Hm
  | 0 => S
  | k + 1 => fun p => if L k ∧ (d k).has p then (d k).look p else hLf d L S k p

section
variable {d : Nat → Dl} {L L' : Nat → Prop} {S : Hm} {p : Pos}
open Classical in
theorem hLf_pos {k : Nat} (h : L k ∧ (d k).has p) : hLf d L S (k + 1) p = (d k).look p := by
  show (if L k ∧ (d k).has p then _ else _) = _
  rw [if_pos h]
open Classical in
theorem hLf_neg {k : Nat} (h : ¬ (L k ∧ (d k).has p)) : hLf d L S (k + 1) p = hLf d L S k p := by
  show (if L k ∧ (d k).has p then _ else _) = _
  rw [if_neg h]
theorem hLf_congr : ∀ (k : Nat), (∀ j, j < k → ((L j ∧ (d j).has p) ↔ (L' j ∧ (d j).has p))) → hLf d L S k p = hLf d L' S k p
  | 0, _ => rfl
  | k + 1, h => by
    have h1 := h k (by omega)
    have h2 := hLf_congr k (fun j hj => h j (by omega))
    by_cases hc : L k ∧ (d k).has p
    · rw [hLf_pos hc, hLf_pos (h1.1 hc)]
    · rw [hLf_neg hc, hLf_neg (fun x => hc (h1.2 x)), h2]
theorem hLf_short (i : Nat) : ∀ (m : Nat), (∀ j, i ≤ j → j < i + m → ¬ (L j ∧ (d j).has p)) → hLf d L S (i + m) p = hLf d L S i p
  | 0, _ => rfl
  | m + 1, h => by
    rw [← Nat.add_assoc, hLf_neg (h (i + m) (by omega) (by omega)), hLf_short i m (fun j a b => h j a (by omega))]
theorem hLf_some {b : Blk} : ∀ (k : Nat), hLf d L S k p = some b → S p = some b ∨ ∃ j, j < k ∧ L j ∧ (d j).has p
  | 0, h => .inl h
  | k + 1, h => by
    by_cases hc : L k ∧ (d k).has p
    · exact .inr ⟨k, by omega, hc.1, hc.2⟩
    · rw [hLf_neg hc] at h
      rcases hLf_some k h with h1 | ⟨j, h1, h2, h3⟩
      · exact .inl h1
      · exact .inr ⟨j, by omega, h2, h3⟩
/-- One step more. -/
theorem hLf_add {i N : Nat} (hi : i < N) (hL : ¬ L i) (hno : (d i).has p → ∀ j, i < j → j < N → L j → ¬ (d j).has p) :
    ((d i).has p → hLf d (fun j => L j ∨ j = i) S N p = (d i).look p) ∧ (¬ (d i).has p → hLf d (fun j => L j ∨ j = i) S N p = hLf d L S N p) := by
  refine ⟨fun hp => ?_, fun hp => ?_⟩
  · have e : N = (i + 1) + (N - (i + 1)) := by omega
    rw [e, hLf_short (i + 1) _ (fun j a b hc => by
      rcases hc.1 with h1 | h1
      · exact hno hp j (by omega) (by omega) h1 hc.2
      · omega), hLf_pos ⟨.inr rfl, hp⟩]
  · refine hLf_congr N fun j hj => ⟨fun ⟨h1, h2⟩ => ⟨h1.resolve_right (fun e => hp (e ▸ h2)), h2⟩, fun ⟨h1, h2⟩ => ⟨.inl h1, h2⟩⟩
end

def bitL (an : List Bool) (i j : Nat) : Prop := an.getD (i - 1 - j) false = true
theorem bitL_cons (a : Bool) (an : List Bool) {i j : Nat} (hj : j < i) : bitL (a :: an) (i + 1) j ↔ bitL an i j := by
  unfold bitL
  rw [show i + 1 - 1 - j = (i - 1 - j) + 1 by omega]
  simp [List.getD]
theorem baseA_get {d : Nat → Dl} {S : Hp} {p : Pos} : ∀ (i : Nat) (an : List Bool), (baseA (accS d i) an S).get p = hLf d (bitL an i) (fun p => S.get p) i p
  | 0, an => by cases an <;> rfl
  | i + 1, [] => by
    show S.get p = _
    have := hLf_congr (d := d) (L := bitL [] (i + 1)) (L' := fun _ => False) (S := fun p => S.get p) (p := p) (i + 1) (fun j _ => by simp [bitL])
    rw [this]
    have : ∀ k, hLf d (fun _ => False) (fun p => S.get p) k p = S.get p := by
      intro k
      induction k with
      | zero => rfl
      | succ k ih => rw [hLf_neg (by simp), ih]
    rw [this]
  | i + 1, a :: an => by
    have ih := baseA_get (d := d) (S := S) (p := p) i an
    have e1 : hLf d (bitL (a :: an) (i + 1)) (fun p => S.get p) i p = hLf d (bitL an i) (fun p => S.get p) i p := hLf_congr i fun j hj => by rw [bitL_cons a an hj]
    show (Bool.rec (baseA (accS d i) an S) ((d i).app (baseA (accS d i) an S)) a : Hp).get p = _
    have hb : bitL (a :: an) (i + 1) i ↔ a = true := by simp [bitL]
    cases a
    · rw [hLf_neg (fun h => by have := hb.1 h.1; cases this), e1, ← ih]
    · show ((d i).app (baseA (accS d i) an S)).get p = _
      rw [app_get, ih]
      by_cases hp : (d i).has p
      · rw [if_pos hp, hLf_pos ⟨hb.2 rfl, hp⟩]
      · rw [if_neg hp, hLf_neg (fun h => hp h.2), e1]
theorem baseR_get {d : Nat → Dl} {p : Pos} {b : Blk} : ∀ (i : Nat) (an : List Bool) (h : Hp), (baseR (accS d i) an h).get p = some b → h.get p = some b ∧ ∀ j, j < i → ¬ bitL an i j → ¬ (d j).has p
  | 0, an, h, e => by
    have : baseR (accS d 0) an h = h := by cases an <;> rfl
    rw [this] at e
    exact ⟨e, fun j hj => by omega⟩
  | i + 1, [], h, e => by
    have e : ((d i).rem (baseR (accS d i) [] h)).get p = some b := e
    rw [rem_get] at e
    split at e
    · cases e
    · rename_i hp
      obtain ⟨h1, h2⟩ := baseR_get i [] h e
      refine ⟨h1, fun j hj hb => ?_⟩
      by_cases he : j = i
      · subst he; exact hp
      · exact h2 j (by omega) (by simp [bitL])
  | i + 1, a :: an, h, e => by
    have e : (Bool.rec ((d i).rem (baseR (accS d i) an h)) (baseR (accS d i) an h) a : Hp).get p = some b := e
    have hb : ∀ j, j < i → (bitL (a :: an) (i + 1) j ↔ bitL an i j) := fun j hj => bitL_cons a an hj
    have hbi : bitL (a :: an) (i + 1) i ↔ a = true := by simp [bitL]
    cases a
    · have e : ((d i).rem (baseR (accS d i) an h)).get p = some b := e
      rw [rem_get] at e
      split at e
      · cases e
      · rename_i hp
        obtain ⟨h1, h2⟩ := baseR_get i an h e
        refine ⟨h1, fun j hj hn => ?_⟩
        by_cases he : j = i
        · subst he; exact hp
        · exact h2 j (by omega) (fun x => hn ((hb j (by omega)).2 x))
    · obtain ⟨h1, h2⟩ := baseR_get i an h e
      refine ⟨h1, fun j hj hn => ?_⟩
      by_cases he : j = i
      · subst he; exact absurd (hbi.2 rfl) hn
      · exact h2 j (by omega) (fun x => hn ((hb j (by omega)).2 x))
theorem baseU_get {e : Tr} {p : Pos} {b : Blk} : ∀ (us : List Pos) (h h' : Hp), baseU e us h = some h' → h'.get p = some b → h.get p = some b ∧ ∀ u ∈ us, blkOf (e.get u) ≠ some (some p)
  | [], h, h', e1, e2 => by cases e1; exact ⟨e2, by simp⟩
  | u :: us, h, h', e1, e2 => by
    rw [baseU] at e1
    split at e1
    · rename_i a hu
      rw [Option.map_eq_some_iff] at e1
      obtain ⟨h1, e3, rfl⟩ := e1
      rw [Hp.get_put] at e2
      split at e2
      · cases e2
      · rename_i hne
        obtain ⟨a1, a2⟩ := baseU_get us h h1 e3 e2
        refine ⟨a1, fun x hx hxo => ?_⟩
        rcases List.mem_cons.1 hx with rfl | hx
        · rw [hu] at hxo; cases hxo; exact hne rfl
        · exact a2 x hx hxo
    · rename_i hu
      obtain ⟨a1, a2⟩ := baseU_get us h h' e1 e2
      refine ⟨a1, fun x hx hxo => ?_⟩
      rcases List.mem_cons.1 hx with rfl | hx
      · rw [hu] at hxo; cases hxo
      · exact a2 x hx hxo
    · cases e1
theorem takeB_get {er : Tr} {b : Hp} {p : Pos} {x : Blk} : ∀ (st : List Pos) (b' : Hp), takeB er b st = some b' → b'.get p = some x → b.get p = some x ∧ ∃ a ∈ st, blkOf (er.get a) = some (some p)
  | [], b', e1, e2 => by cases e1; have := (Hp.get_lf p).symm.trans e2; cases this
  | u :: st, b', e1, e2 => by
    rw [takeB] at e1
    split at e1
    · rename_i a hu
      split at e1
      · rename_i bl hbl
        rw [Option.map_eq_some_iff] at e1
        obtain ⟨b1, e3, rfl⟩ := e1
        rw [Hp.get_put] at e2
        split at e2
        · rename_i hpa
          subst hpa
          cases e2
          exact ⟨hbl, u, List.mem_cons_self .., hu⟩
        · obtain ⟨h1, a', h2, h3⟩ := takeB_get st b1 e3 e2
          exact ⟨h1, a', List.mem_cons_of_mem _ h2, h3⟩
      · cases e1
    · obtain ⟨h1, a', h2, h3⟩ := takeB_get st b' e1 e2
      exact ⟨h1, a', List.mem_cons_of_mem _ h2, h3⟩
    · cases e1
/-- What slots tell of is there. -/
theorem takeB_has {er : Tr} {b : Hp} {p : Pos} : ∀ (st : List Pos) (b' : Hp), takeB er b st = some b' → (∃ a ∈ st, blkOf (er.get a) = some (some p)) → ∃ x, b'.get p = some x
  | [], _, _, ⟨a, h, _⟩ => by simp at h
  | u :: st, b', e1, ⟨a, ha, hp⟩ => by
    rw [takeB] at e1
    split at e1
    · rename_i q hu
      split at e1
      · rename_i bl hbl
        rw [Option.map_eq_some_iff] at e1
        obtain ⟨b1, e3, rfl⟩ := e1
        rw [Hp.get_put]
        by_cases hpq : p = q
        · rw [if_pos hpq]; exact ⟨bl, rfl⟩
        · rw [if_neg hpq]
          rcases List.mem_cons.1 ha with rfl | ha
          · rw [hu] at hp; cases hp; exact absurd rfl hpq
          · exact takeB_has st b1 e3 ⟨a, ha, hp⟩
      · cases e1
    · rename_i hu
      rcases List.mem_cons.1 ha with rfl | ha
      · rw [hu] at hp; cases hp
      · exact takeB_has st b' e1 ⟨a, ha, hp⟩
    · cases e1
theorem keysB_has {er : Tr} {h : Hp} {z : Dl} {p : Pos} : ∀ (st : List Pos), ((keysB er h z st).has p ↔ (∃ a ∈ st, blkOf (er.get a) = some (some p)) ∨ z.has p) ∧ ((∃ a ∈ st, blkOf (er.get a) = some (some p)) → (keysB er h z st).look p = h.get p) ∧ ((¬ ∃ a ∈ st, blkOf (er.get a) = some (some p)) → (keysB er h z st).look p = z.look p)
  | [] => ⟨⟨fun h => .inr h, fun h => h.elim (fun ⟨a, ha, _⟩ => by simp at ha) id⟩, fun ⟨a, ha, _⟩ => by simp at ha, fun _ => rfl⟩
  | u :: st => by
    obtain ⟨i1, i2, i3⟩ := keysB_has (er := er) (h := h) (z := z) (p := p) st
    rw [keysB]
    split
    · rename_i q hu
      refine ⟨⟨fun hh => ?_, fun hh => ?_⟩, fun hex => ?_, fun hn => ?_⟩
      · rcases hh with rfl | hh
        · exact .inl ⟨u, List.mem_cons_self .., hu⟩
        · exact (i1.1 hh).imp (fun ⟨a, ha, hp⟩ => ⟨a, List.mem_cons_of_mem _ ha, hp⟩) id
      · rcases hh with ⟨a, ha, hp⟩ | hh
        · rcases List.mem_cons.1 ha with rfl | ha
          · rw [hu] at hp; cases hp; exact .inl rfl
          · exact .inr (i1.2 (.inl ⟨a, ha, hp⟩))
        · exact .inr (i1.2 (.inr hh))
      · show (if p = q then _ else _) = _
        by_cases hpq : p = q
        · rw [if_pos hpq, hpq]
        · rw [if_neg hpq]
          obtain ⟨a, ha, hp⟩ := hex
          rcases List.mem_cons.1 ha with rfl | ha
          · rw [hu] at hp; cases hp; exact absurd rfl hpq
          · exact i2 ⟨a, ha, hp⟩
      · show (if p = q then _ else _) = _
        rw [if_neg (fun e => hn ⟨u, List.mem_cons_self .., by rw [hu, e]⟩)]
        exact i3 fun ⟨a, ha, hp⟩ => hn ⟨a, List.mem_cons_of_mem _ ha, hp⟩
    · rename_i hne
      have hu : blkOf (er.get u) ≠ some (some p) := fun e => hne p e
      have e : (∃ a ∈ u :: st, blkOf (er.get a) = some (some p)) ↔ ∃ a ∈ st, blkOf (er.get a) = some (some p) :=
        ⟨fun ⟨a, ha, hp⟩ => (List.mem_cons.1 ha).elim (fun h => absurd (h ▸ hp) hu) (fun h => ⟨a, h, hp⟩), fun ⟨a, ha, hp⟩ => ⟨a, List.mem_cons_of_mem _ ha, hp⟩⟩
      rw [e]; exact ⟨i1, i2, i3⟩
theorem restr_get (e : Tr) : ∀ (ts : List Pos) (p : Pos), (restr e ts).get p = e.get p ∧ p ∈ ts ∨ (restr e ts).get p = .bad
  | [], p => .inr (Tr.get_lf p)
  | q :: ts, p => by
    show ((restr e ts).set (e.get q) q).get p = _ ∧ _ ∨ ((restr e ts).set (e.get q) q).get p = _
    rw [Tr.get_set]
    by_cases h : p = q
    · subst h; rw [if_pos rfl]; exact .inl ⟨rfl, List.mem_cons_self ..⟩
    · rw [if_neg h]
      rcases restr_get e ts p with ⟨h1, h2⟩ | h1
      · exact .inl ⟨h1, List.mem_cons_of_mem _ h2⟩
      · exact .inr h1
theorem appAll_get {d : Nat → Dl} {S : Hp} {p : Pos} : ∀ (k : Nat), (appAll (accS d k) S).get p = hLf d (fun _ => True) (fun p => S.get p) k p
  | 0 => rfl
  | k + 1 => by
    show ((d k).app (appAll (accS d k) S)).get p = _
    rw [app_get, appAll_get k]
    by_cases hp : (d k).has p
    · rw [if_pos hp, hLf_pos ⟨trivial, hp⟩]
    · rw [if_neg hp, hLf_neg (fun h => hp h.2)]
end Go.Proofs.Ythgaekbcmhbbgaa.Ev
/- Regions whose order is open: any order comes to the same. -/
namespace Go.Proofs.Ythgaekbcmhbbgaa.Ev
set_option linter.unusedVariables false
open Go
variable {Df : List Deferred}

def AN (D : Nat → DO) (i j : Nat) : Prop := j < i ∧ bitL (D i).an i j

structure DrawOK (P : Program) (N : Nat) (ops : Array Oper) (D : Nat → DO) : Prop where
  comp : ∀ i o, ops[i]? = some o → compD N o.dst = some (D i).dst ∧ compG N ops o.guard = some (D i).gd ∧ compO P o = some (D i).o
  k5 : ∀ i o, ops[i]? = some o → ∀ e ∈ o.after.toList, Region.binds .any e = true → e.on < i
  k1 : ∀ i o, ops[i]? = some o → ∀ j, AN D i j → ∃ e ∈ o.after.toList, Region.binds .any e = true ∧ (e.on = j ∨ AN D e.on j)
  k2 : ∀ i j, i < ops.size → j < ops.size → i ≠ j → ∀ p, (D i).dst = some p → (D j).dst ≠ some p
  k3 : ∀ i j, i < ops.size → j < ops.size → j ≠ i → ∀ p ∈ (D i).ts, (D j).dst = some p → AN D i j ∨ AN D j i
  k4 : ∀ i j, i < j → j < ops.size → (D i).pu = false → ∀ a ∈ (D j).st, AN D j i ∨ (a ∈ (D i).us ∧ ∀ k, k < ops.size → (D k).dst ≠ some a) ∨ ((D i).rd ≠ [] ∧ ∀ a ∈ (D i).rd, a ∈ (D j).nd ∧ ∀ k, i ≤ k → k < j → (D k).dst ≠ some a)
  k6 : ∀ i j, i < j → j < ops.size → (D i).pu = false → (D j).ef = true → AN D j i ∨ ((D i).rd ≠ [] ∧ ∀ a ∈ (D i).rd, a ∈ (D j).nd ∧ ∀ k, i ≤ k → k < j → (D k).dst ≠ some a)

theorem step_inv {d : DO} {F : FF} {lim : Nat} {acc : List Dl} {e : Tr} {S : Hp} {n : Nat} {v : V} {dl : Dl} {n' : Nat} (h : stepD d F lim acc e S n = .ok v dl n') (hl : lim ≤ n) (h1 : 1 ≤ n) (hn : n' < 9223372036854775808) (hge : n ≤ n') :
    ∃ b, baseOf d acc e S = some b ∧
      ((∃ p w, d.gd = some (p, w) ∧ ((∃ x, (restr e d.ts).get p = .b x ∧ x ≠ w) ∨ (restr e d.ts).get p = .tu .nil) ∧ v = .tu .nil ∧ dl = .nil ∧ n' = n) ∨
       ((d.gd = none ∨ ∃ p w, d.gd = some (p, w) ∧ (restr e d.ts).get p = .b w) ∧ ∃ limi b' h', d.o.ev F (restr e d.ts) limi b' n = .ok v h' n' ∧ (∀ p x, b'.get p = some x → b.get p = some x) ∧ lim ≤ limi ∧
          (∀ p, dl.has p → dl.look p = h'.get p ∧ ((n ≤ p.num ∧ p.num < n') ∨ (∃ x, b'.get p = some x) ∧ ((∃ a ∈ d.st, blkOf ((restr e d.ts).get a) = some (some p)) ∨ d.ef = true))) ∧
          (∀ p x, b'.get p = some x → limi ≤ p.num → p.num < n → dl.has p ∨ h'.get p = some x))) := by
  have run : ∀ b, runD d F lim b (restr e d.ts) n = .ok v dl n' → ∃ limi b' h', d.o.ev F (restr e d.ts) limi b' n = .ok v h' n' ∧ (∀ p x, b'.get p = some x → b.get p = some x) ∧ lim ≤ limi ∧
          (∀ p, dl.has p → dl.look p = h'.get p ∧ ((n ≤ p.num ∧ p.num < n') ∨ (∃ x, b'.get p = some x) ∧ ((∃ a ∈ d.st, blkOf ((restr e d.ts).get a) = some (some p)) ∨ d.ef = true))) ∧
          (∀ p x, b'.get p = some x → limi ≤ p.num → p.num < n → dl.has p ∨ h'.get p = some x) := by
    intro b h
    unfold runD at h
    split at h
    · rename_i hef
      unfold efD at h
      have hrc : rchOK b lim (rch b 100000 (posS (restr e d.ts) d.ts) (glB b lim d.gl) []) := rch_ok b lim _ _ _ _ ⟨fun p y hp => ⟨(glB_get b lim _ p y hp).1, .inr (glB_get b lim _ p y hp).2⟩, by simp⟩
      split at h
      · rename_i v2 h2 n2 hev
        cases h
        refine ⟨lim, _, h2, hev, fun p y hy => (hrc.1 p y hy).1, Nat.le_refl _, fun p hp => ?_, fun p y hy hl1 _ => ?_⟩
        · rcases (keysL_has (h := h2) (z := if d.fr = true then coll h2 n (n' - n) else .nil) (p := p) _).1 hp with ⟨k1, k2⟩ | ⟨k1, hz⟩
          · exact ⟨k1, .inr ⟨hrc.2 p k2, .inr hef⟩⟩
          · rw [k1]
            by_cases hfr : d.fr = true
            · rw [if_pos hfr] at hz ⊢
              obtain ⟨c1, c2, c3⟩ := coll_has h2 (n' - n) n p h1 (by omega) hz
              exact ⟨c3, .inl ⟨c1, by omega⟩⟩
            · rw [if_neg hfr] at hz; exact hz.elim
        · rcases (hrc.1 p y hy).2 with hm | hm
          · rcases (keysL_has _).2 hm with k1 | ⟨x, k1, k2⟩
            · exact .inl k1
            · rw [hy] at k1; cases k1; exact .inr k2
          · omega
      · cases h
    split at h
    · split at h
      · rename_i v2 h2 n2 hev
        cases h
        refine ⟨n, b, h2, hev, fun _ _ x => x, hl, fun p hp => ?_, fun p x _ h3 h4 => by omega⟩
        by_cases hfr : d.fr = true
        · rw [if_pos hfr] at hp ⊢
          obtain ⟨c1, c2, c3⟩ := coll_has h2 (n' - n) n p h1 (by omega) hp
          exact ⟨c3, .inl ⟨c1, by omega⟩⟩
        · rw [if_neg hfr] at hp; exact hp.elim
      · cases h
    · rename_i x st hst
      split at h
      · rename_i b' hb'
        split at h
        · rename_i v2 h2 n2 hev
          cases h
          refine ⟨lim, b', h2, hev, fun p y hy => (takeB_get _ _ hb' hy).1, Nat.le_refl _, fun p hp => ?_, fun p y hy _ _ => ?_⟩
          · obtain ⟨k1, k2, k3⟩ := keysB_has (er := restr e d.ts) (h := h2) (z := if d.fr = true then coll h2 n (n' - n) else .nil) (p := p) (x :: st)
            by_cases hex : ∃ a ∈ x :: st, blkOf ((restr e d.ts).get a) = some (some p)
            · exact ⟨k2 hex, .inr ⟨takeB_has _ _ hb' hex, .inl (by rw [hst]; exact hex)⟩⟩
            · have hz := (k1.1 hp).resolve_left hex
              rw [k3 hex]
              by_cases hfr : d.fr = true
              · rw [if_pos hfr] at hz ⊢
                obtain ⟨c1, c2, c3⟩ := coll_has h2 (n' - n) n p h1 (by omega) hz
                exact ⟨c3, .inl ⟨c1, by omega⟩⟩
              · rw [if_neg hfr] at hz; exact hz.elim
          · exact .inl ((keysB_has (x :: st)).1.2 (.inl (takeB_get _ _ hb' hy).2))
        · cases h
      · cases h
  replace h := (ndC_ok h).1
  unfold stepD0 at h
  split at h
  · cases h
  · rename_i b hb
    dsimp only at h
    refine ⟨b, hb, ?_⟩
    split at h
    · rename_i hg; exact .inr ⟨.inl hg, run b h⟩
    · rename_i p w hg
      split at h
      · rename_i x hx
        split at h
        · rename_i hxw; subst hxw; exact .inr ⟨.inr ⟨p, x, hg, hx⟩, run b h⟩
        · rename_i hxw; cases h; exact .inl ⟨p, w, hg, .inl ⟨x, hx, hxw⟩, rfl, rfl, rfl⟩
      · rename_i hx; cases h; exact .inl ⟨p, w, hg, .inr hx, rfl, rfl, rfl⟩
      · cases h

def unl : List Bool → Nat
  | [] => 0
  | b :: l => (if b then 0 else 1) + unl l
theorem unl_set : ∀ (l : List Bool) (i : Nat), l[i]? = some false → unl (l.set i true) + 1 = unl l
  | [], i, h => by simp at h
  | b :: l, 0, h => by simp at h; subst h; simp [unl]; omega
  | b :: l, i + 1, h => by
    have := unl_set l i (by simpa using h)
    simp only [List.set_cons_succ, unl]; omega
theorem unl_zero : ∀ (l : List Bool), unl l = 0 → ∀ i, i < l.length → l[i]? = some true
  | [], _, i, h => by simp at h
  | b :: l, h, 0, _ => by cases b <;> simp_all [unl]
  | b :: l, h, i + 1, hi => by
    have := unl_zero l (by simp [unl] at h; omega) i (by simpa using hi)
    simpa using this
theorem unl_rep : ∀ n, unl (List.replicate n false) = n
  | 0 => rfl
  | n + 1 => by simp [List.replicate_succ, unl, unl_rep n]; omega

/-- What is done. -/
def LS (listed : Array Bool) (i : Nat) : Prop := listed[i]? = some true

section
variable {P : Program} {N : Nat} {ops : Array Oper} {D : Nat → DO} {F : FF} {lim : Nat} {e0 : Tr} {S : Hp} {v : Nat → V} {d : Nat → Dl} {ns : Nat → Nat}

/-- All that was worked out. -/
structure Worked (P : Program) (N : Nat) (ops : Array Oper) (D : Nat → DO) (F : FF) (lim : Nat) (e0 : Tr) (S : Hp) (v : Nat → V) (d : Nat → Dl) (ns : Nat → Nat) : Prop where
  st : DrawOK P N ops D
  step : ∀ i, i < ops.size → stepD (D i) F lim (accS d i) (envS e0 D v i) S (ns i) = .ok (v i) (d i) (ns (i + 1))
  mono : ∀ i, i < ops.size → ns i ≤ ns (i + 1)
  lim0 : lim ≤ ns 0
  one : 1 ≤ ns 0
  top : ns ops.size < 9223372036854775808
  dom : ∀ p b, S.get p = some b → p.num < ns 0

theorem Worked.le (W : Worked P N ops D F lim e0 S v d ns) : ∀ j, j ≤ ops.size → ∀ i, i ≤ j → ns i ≤ ns j
  | 0, _, i, hi => by rw [show i = 0 by omega]; exact Nat.le_refl _
  | j + 1, hj, i, hi => by
    by_cases h : i = j + 1
    · subst h; exact Nat.le_refl _
    · exact Nat.le_trans (W.le j (by omega) i (by omega)) (W.mono j (by omega))

theorem Worked.c1 (W : Worked P N ops D F lim e0 S v d ns) (i : Nat) (hi : i < ops.size) : lim ≤ ns i := Nat.le_trans W.lim0 (W.le i (by omega) 0 (by omega))
theorem Worked.c2 (W : Worked P N ops D F lim e0 S v d ns) (i : Nat) (hi : i < ops.size) : 1 ≤ ns i := Nat.le_trans W.one (W.le i (by omega) 0 (by omega))
theorem Worked.c3 (W : Worked P N ops D F lim e0 S v d ns) (i : Nat) (hi : i < ops.size) : ns (i + 1) < 9223372036854775808 := Nat.lt_of_le_of_lt (W.le ops.size (Nat.le_refl _) (i + 1) (by omega)) W.top

/-- What step i was worked out over. -/
theorem base_facts {i : Nat} {b : Hp} (hb : baseOf (D i) (accS d i) (envS e0 D v i) S = some b) {p : Pos} {x : Blk} (hx : b.get p = some x) :
    (D i).pu = false ∧ (∀ u ∈ (D i).us, blkOf ((envS e0 D v i).get u) ≠ some (some p)) ∧ (∀ j, j < i → ¬ bitL (D i).an i j → ¬ (d j).has p) ∧ hLf d (bitL (D i).an i) (fun p => S.get p) i p = some x := by
  unfold baseOf at hb
  split at hb
  · cases hb; have := (Hp.get_lf p).symm.trans hx; cases this
  · rename_i hpu
    have key : ∀ b1, baseU (envS e0 D v i) (D i).us (baseR (accS d i) (D i).an (baseA (accS d i) (D i).an S)) = some b1 → b1.get p = some x → _ := fun b1 hb1 hx1 => (show
      (D i).pu = false ∧ (∀ u ∈ (D i).us, blkOf ((envS e0 D v i).get u) ≠ some (some p)) ∧ (∀ j, j < i → ¬ bitL (D i).an i j → ¬ (d j).has p) ∧ hLf d (bitL (D i).an i) (fun p => S.get p) i p = some x from by
      obtain ⟨h1, h2⟩ := baseU_get _ _ _ hb1 hx1
      obtain ⟨h3, h4⟩ := baseR_get _ _ _ h1
      rw [baseA_get] at h3
      exact ⟨by simpa using hpu, h2, h4, h3⟩)
    unfold rdX at hb
    split at hb
    · exact key b hb hx
    · split at hb
      · rename_i b1 hb1
        exact key b1 hb1 (takeB_get _ _ hb hx).1
      · cases hb
theorem base_rd {i : Nat} {b : Hp} (hb : baseOf (D i) (accS d i) (envS e0 D v i) S = some b) {p : Pos} {x : Blk} (hx : b.get p = some x) (hr : (D i).rd ≠ []) : ∃ a ∈ (D i).rd, blkOf ((envS e0 D v i).get a) = some (some p) := by
  unfold baseOf at hb
  split at hb
  · cases hb; have := (Hp.get_lf p).symm.trans hx; cases this
  · unfold rdX at hb
    split at hb
    · rename_i h; exact absurd h hr
    · rename_i a rd hrd
      split at hb
      · rw [hrd]; exact (takeB_get _ _ hb hx).2
      · cases hb

/-- Where a step turned something: at a new place, or at a place that was there, by a store. -/
theorem Worked.touch (W : Worked P N ops D F lim e0 S v d ns) {i : Nat} (hi : i < ops.size) {p : Pos} (hp : (d i).has p) :
    (ns i ≤ p.num ∧ p.num < ns (i + 1)) ∨ ∃ b, baseOf (D i) (accS d i) (envS e0 D v i) S = some b ∧ (∃ x, b.get p = some x) ∧ ((∃ a ∈ (D i).st, blkOf ((envS e0 D v i).get a) = some (some p)) ∨ (D i).ef = true) := by
  obtain ⟨b, hb, hcase⟩ := step_inv (W.step i hi) (W.c1 i hi) (W.c2 i hi) (W.c3 i hi) (W.mono i hi)
  rcases hcase with ⟨_, _, _, _, _, hdl, _⟩ | ⟨_, limi, b', h', _, hsub, _, hT, _⟩
  · rw [hdl] at hp; exact hp.elim
  · rcases (hT p hp).2 with h | ⟨⟨x, hx⟩, ⟨a, h1, h2⟩ | hef⟩
    · exact .inl h
    · refine .inr ⟨b, hb, ⟨x, hsub p x hx⟩, .inl ⟨a, h1, ?_⟩⟩
      rcases restr_get (envS e0 D v i) (D i).ts a with ⟨h3, _⟩ | h3
      · rw [← h3]; exact h2
      · rw [h3] at h2; cases h2
    · exact .inr ⟨b, hb, ⟨x, hsub p x hx⟩, .inr hef⟩

theorem Worked.base_dom (W : Worked P N ops D F lim e0 S v d ns) : ∀ (k i : Nat), i ≤ k → i < ops.size → ∀ b, baseOf (D i) (accS d i) (envS e0 D v i) S = some b → ∀ p x, b.get p = some x → p.num < ns i
  | 0, i, hk, hi, b, hb, p, x, hx => by
    obtain ⟨_, _, _, h3⟩ := base_facts hb hx
    rcases hLf_some i h3 with h4 | ⟨j, h4, _⟩
    · rw [show i = 0 by omega]; exact W.dom p x h4
    · omega
  | k + 1, i, hk, hi, b, hb, p, x, hx => by
    obtain ⟨_, _, _, h3⟩ := base_facts hb hx
    rcases hLf_some i h3 with h4 | ⟨j, h4, _, h6⟩
    · exact Nat.lt_of_lt_of_le (W.dom p x h4) (W.le i (by omega) 0 (by omega))
    · rcases W.touch (i := j) (by omega) h6 with ⟨_, h7⟩ | ⟨b2, hb2, ⟨x2, hx2⟩, _⟩
      · exact Nat.lt_of_lt_of_le h7 (W.le i (by omega) (j + 1) (by omega))
      · exact Nat.lt_of_lt_of_le (W.base_dom k j (by omega) (by omega) b2 hb2 p x2 hx2) (W.le i (by omega) j (by omega))

/-- Who turned a place that another step made comes after that step. -/
theorem Worked.made (W : Worked P N ops D F lim e0 S v d ns) {L : Nat → Prop} (hdc : ∀ i j, L i → AN D i j → L j) {i : Nat} (hi : i < ops.size) {p : Pos} (hp1 : ns i ≤ p.num) (hp2 : p.num < ns (i + 1)) : ∀ (k j : Nat), j ≤ k → j < ops.size → L j → (d j).has p → L i
  | 0, j, hk, hj, hL, hp => by
    rcases W.touch hj hp with ⟨h1, h2⟩ | ⟨b, hb, ⟨x, hx⟩, _⟩
    · by_cases e : j = i
      · rw [← e]; exact hL
      · rcases Nat.lt_or_gt_of_ne e with e | e
        · have := W.le i (by omega) (j + 1) (by omega); omega
        · have := W.le j (by omega) (i + 1) (by omega); omega
    · obtain ⟨_, _, _, h3⟩ := base_facts hb hx
      rcases hLf_some j h3 with h4 | ⟨m, h4, _⟩
      · have := W.dom p x h4; have := W.le i (by omega) 0 (by omega); omega
      · omega
  | k + 1, j, hk, hj, hL, hp => by
    rcases W.touch hj hp with ⟨h1, h2⟩ | ⟨b, hb, ⟨x, hx⟩, _⟩
    · by_cases e : j = i
      · rw [← e]; exact hL
      · rcases Nat.lt_or_gt_of_ne e with e | e
        · have := W.le i (by omega) (j + 1) (by omega); omega
        · have := W.le j (by omega) (i + 1) (by omega); omega
    · obtain ⟨_, _, _, h3⟩ := base_facts hb hx
      rcases hLf_some j h3 with h4 | ⟨m, h4, h5, h6⟩
      · have := W.dom p x h4; have := W.le i (by omega) 0 (by omega); omega
      · exact W.made hdc hi hp1 hp2 k m (by omega) (by omega) (hdc j m hL ⟨h4, h5⟩) h6

/-- The slots: a slot that no step writes stays. -/
theorem envS_other (e0 : Tr) (D : Nat → DO) (v : Nat → V) {p : Pos} : ∀ (i : Nat), (∀ j, j < i → (D j).dst ≠ some p) → (envS e0 D v i).get p = e0.get p
  | 0, _ => rfl
  | i + 1, h => by
    rw [envS]
    have ih := envS_other e0 D v i (fun j hj => h j (by omega))
    cases hd : (D i).dst with
    | none => exact ih
    | some q =>
      show ((envS e0 D v i).set (v i) q).get p = _
      rw [Tr.get_set, if_neg (fun e => h i (by omega) (by rw [hd, e]))]; exact ih
theorem envS_stay (e0 : Tr) (D : Nat → DO) (v : Nat → V) {p : Pos} (i : Nat) : ∀ (m : Nat), (∀ k, i ≤ k → k < i + m → (D k).dst ≠ some p) → (envS e0 D v i).get p = (envS e0 D v (i + m)).get p
  | 0, _ => rfl
  | m + 1, h => by
    rw [envS_stay e0 D v i m (fun k h1 h2 => h k h1 (by omega))]
    show _ = (envS e0 D v (i + m + 1)).get p
    rw [envS]
    cases hd : (D (i + m)).dst with
    | none => rfl
    | some q =>
      show _ = ((envS e0 D v (i + m)).set (v (i + m)) q).get p
      rw [Tr.get_set, if_neg (fun e => h (i + m) (by omega) (by omega) (by rw [hd, e]))]
theorem envS_at (e0 : Tr) (D : Nat → DO) (v : Nat → V) {p : Pos} : ∀ (i j : Nat), j < i → (D j).dst = some p → (∀ k, k < i → k ≠ j → (D k).dst ≠ some p) → (envS e0 D v i).get p = v j
  | 0, j, h, _, _ => by omega
  | i + 1, j, h, hj, ho => by
    rw [envS]
    by_cases e : j = i
    · subst e
      rw [hj]
      show ((envS e0 D v j).set (v j) p).get p = _
      rw [Tr.get_set, if_pos rfl]
    · have ih := envS_at e0 D v i j (by omega) hj (fun k hk hne => ho k (by omega) hne)
      cases hd : (D i).dst with
      | none => exact ih
      | some q =>
        show ((envS e0 D v i).set (v i) q).get p = _
        rw [Tr.get_set, if_neg (fun e' => ho i (by omega) (by omega) (by rw [hd, e']))]; exact ih

/-- A place that a later step turned, which may come before: it isn't among those that step i was worked out over. -/
theorem Worked.later (W : Worked P N ops D F lim e0 S v d ns) {L : Nat → Prop} (hdc : ∀ i j, L i → AN D i j → L j) {i j : Nat} (hij : i < j) (hj : j < ops.size) (hLi : ¬ L i) (hLj : L j) {p : Pos} (hp : (d j).has p) {b : Hp}
    (hb : baseOf (D i) (accS d i) (envS e0 D v i) S = some b) {x : Blk} (hx : b.get p = some x) : False := by
  have hnum := W.base_dom i i (Nat.le_refl _) (by omega) b hb p x hx
  rcases W.touch hj hp with ⟨h1, _⟩ | ⟨bj, hbj, ⟨xj, hxj⟩, ⟨a, h1, h2⟩ | hef⟩
  · have := W.le j (by omega) i (by omega); omega
  · obtain ⟨hpu, h5, _, _⟩ := base_facts hb hx
    rcases W.st.k4 i j hij hj hpu a h1 with h3 | ⟨h3, h4⟩ | ⟨h3, h4⟩
    · exact hLi (hdc j i hLj h3)
    · refine h5 a h3 ?_
      rw [envS_other e0 D v i (fun k hk => h4 k (by omega)), ← envS_other e0 D v j (fun k hk => h4 k (by omega))]
      exact h2
    · obtain ⟨a, ha, hpa⟩ := base_rd hb hx h3
      refine (ndC_ok (W.step j hj)).2 a (h4 a ha).1 p ?_ hp
      rw [envS_stay e0 D v i (j - i) (fun k h1 h2 => (h4 a ha).2 k h1 (by omega)), show i + (j - i) = j by omega] at hpa
      exact hpa
  · obtain ⟨hpu, _, _, _⟩ := base_facts hb hx
    rcases W.st.k6 i j hij hj hpu hef with h3 | ⟨h3, h4⟩
    · exact hLi (hdc j i hLj h3)
    · obtain ⟨a, ha, hpa⟩ := base_rd hb hx h3
      refine (ndC_ok (W.step j hj)).2 a (h4 a ha).1 p ?_ hp
      rw [envS_stay e0 D v i (j - i) (fun k h1 h2 => (h4 a ha).2 k h1 (by omega)), show i + (j - i) = j by omega] at hpa
      exact hpa

/-- Step i was worked out over what is there. -/
theorem Worked.there (W : Worked P N ops D F lim e0 S v d ns) {L : Nat → Prop} (hdc : ∀ i j, L i → AN D i j → L j) {i : Nat} (hi : i < ops.size) (hLi : ¬ L i) (hr : ∀ j, AN D i j → L j) {b : Hp}
    (hb : baseOf (D i) (accS d i) (envS e0 D v i) S = some b) {p : Pos} {x : Blk} (hx : b.get p = some x) : hLf d L (fun p => S.get p) ops.size p = some x := by
  obtain ⟨_, _, h2, h3⟩ := base_facts hb hx
  have e : ops.size = i + (ops.size - i) := by omega
  rw [e, hLf_short i _ (fun j a c hc => ?_), hLf_congr (L' := bitL (D i).an i) i (fun j hj => ⟨fun ⟨l1, l2⟩ => ⟨Classical.byContradiction fun hn => h2 j hj hn l2, l2⟩, fun ⟨l1, l2⟩ => ⟨hr j ⟨hj, l1⟩, l2⟩⟩)]
  · exact h3
  · by_cases e : j = i
    · subst e; exact hLi hc.1
    · exact W.later hdc (by omega) (by omega) hLi hc.1 hc.2 hb hx

/-- What holds when the steps of L are done. -/
structure Inv (N : Nat) (Df : List Deferred) (ops : Array Oper) (D : Nat → DO) (lim : Nat) (e0 : Tr) (S : Hp) (v : Nat → V) (d : Nat → Dl) (ns : Nat → Nat) (g0 : Sig) (w0 : World) (L : Nat → Prop) (g : Sig) (a : Act) (w : World) : Prop where
  ds : a.defers = Df
  sz : N ≤ a.tmps.size
  glo : GOK g
  done : ∀ i, i < ops.size → L i → ∀ t, t < 4294967296 → (D i).dst = some (tp t) → (v i).rel g (a.tmps.getD t undef)
  old : ∀ t, t < 4294967296 → (∀ i, i < ops.size → L i → (D i).dst ≠ some (tp t)) → (e0.get (tp t)).rel g (a.tmps.getD t undef)
  mem : Mem g (hLf d L (fun p => S.get p) ops.size) w
  fr : Fr lim (ns 0) g0 (fun p => S.get p) w0 (ns ops.size) g (hLf d L (fun p => S.get p) ops.size) w
  fresh : ∀ i, i < ops.size → ¬ L i → Fresh g (ns i) (ns (i + 1))
  dc : ∀ i j, L i → AN D i j → L j

theorem Inv.env (W : Worked P N ops D F lim e0 S v d ns) {g0 : Sig} {w0 : World} {L : Nat → Prop} {g : Sig} {a : Act} {w : World} (I : Inv N Df ops D lim e0 S v d ns g0 w0 L g a w) {i : Nat} (hi : i < ops.size) (hLi : ¬ L i) (hr : ∀ j, AN D i j → L j) :
    EnvA N g (restr (envS e0 D v i) (D i).ts) a := by
  refine ⟨I.sz, I.glo, fun t ht => ?_⟩
  rcases restr_get (envS e0 D v i) (D i).ts (tp t) with ⟨h1, h2⟩ | h1
  · rw [h1]
    by_cases hex : ∃ j, j < ops.size ∧ L j ∧ (D j).dst = some (tp t)
    · obtain ⟨j, hj, hLj, hdst⟩ := hex
      have hne : j ≠ i := by intro e; subst e; exact hLi hLj
      rcases W.st.k3 i j hi hj hne (tp t) h2 hdst with h3 | h3
      · rw [envS_at e0 D v i j h3.1 hdst (fun k hk hkj => W.st.k2 j k hj (by omega) (Ne.symm hkj) _ hdst)]
        exact I.done j hj hLj t ht hdst
      · exact absurd (I.dc j i hLj h3) hLi
    · have hno : ∀ j, j < ops.size → L j → (D j).dst ≠ some (tp t) := fun j hj hL e => hex ⟨j, hj, hL, e⟩
      rw [envS_other e0 D v i (fun j hj e => ?_)]
      · exact I.old t ht hno
      · rcases W.st.k3 i j hi (by omega) (by omega) (tp t) h2 e with h3 | h3
        · exact hno j (by omega) (hr j h3) e
        · have := h3.1; omega
  · rw [h1]; trivial
end
end Go.Proofs.Ythgaekbcmhbbgaa.Ev
/- Regions whose order is open: the walk through any order; and the checks. -/
namespace Go.Proofs.Ythgaekbcmhbbgaa.Ev
set_option linter.unusedVariables false
open Go
variable {Df : List Deferred}

theorem put_getD {N : Nat} {a : Act} {od : Option Nat} {d : Option Pos} (hd : compD N od = some d) (hs : N ≤ a.tmps.size) (u : Value) {t : Nat} (ht : t < 4294967296) :
    (d = some (tp t) → (a.put od u).tmps.getD t undef = u) ∧ (d ≠ some (tp t) → (a.put od u).tmps.getD t undef = a.tmps.getD t undef) := by
  cases od with
  | none => simp only [compD, Option.some.injEq] at hd; subst hd; exact ⟨fun h => by simp at h, fun _ => rfl⟩
  | some s =>
    simp only [compD] at hd
    split at hd
    · rename_i hs2
      cases hd
      refine ⟨fun h => ?_, fun h => ?_⟩
      · have : s = t := tp_inj hs2.2 ht (by simpa using h)
        subst this
        have : s < a.tmps.size := Nat.lt_of_lt_of_le hs2.1 hs
        simp [Act.put, Array.getD, this]
      · have hne : s ≠ t := fun e => h (by rw [e])
        simp [Act.put, Array.getD_eq_getD_getElem?, Array.getElem?_setIfInBounds_ne hne]
    · cases hd

section
variable {P : Program} {N : Nat} {ops : Array Oper} {D : Nat → DO} {F : FF} {lim : Nat} {e0 : Tr} {S : Hp} {v : Nat → V} {d : Nat → Dl} {ns : Nat → Nat}

theorem Inv.next (W : Worked P N ops D F lim e0 S v d ns) {g0 g g' : Sig} {w0 w w' : World} {L : Nat → Prop} {a : Act} (I : Inv N Df ops D lim e0 S v d ns g0 w0 L g a w) {i : Nat} (hi : i < ops.size) (hLi : ¬ L i) (hr : ∀ j, AN D i j → L j) {o : Oper} (ho : ops[i]? = some o)
    {u : Value} (hu : (v i).rel g' u) (hle : g.le g') (hm : Mem g' (hLf d (fun j => L j ∨ j = i) (fun p => S.get p) ops.size) w') (hf : Fr lim (ns 0) g0 (fun p => S.get p) w0 (ns ops.size) g' (hLf d (fun j => L j ∨ j = i) (fun p => S.get p) ops.size) w')
    (hfr : ∀ j, j < ops.size → ¬ L j → j ≠ i → Fresh g' (ns j) (ns (j + 1))) : Inv N Df ops D lim e0 S v d ns g0 w0 (fun j => L j ∨ j = i) g' (a.put o.dst u) w' := by
  have hcd := (W.st.comp i o ho).1
  refine ⟨?_, ?_, I.glo.mono hle, fun k hk hL t ht hdk => ?_, fun t ht hno => ?_, hm, hf, fun j hj hn => hfr j hj (fun h => hn (.inl h)) (fun h => hn (.inr h)), fun k j hL hA => ?_⟩
  · rw [put_defers]; exact I.ds
  · have := I.sz
    cases o.dst <;> simp [Act.put] <;> exact this
  · by_cases e : k = i
    · subst e
      rw [(put_getD hcd I.sz u ht).1 hdk]; exact hu
    · rw [(put_getD hcd I.sz u ht).2 (fun h => W.st.k2 k i hk hi e _ hdk h)]
      exact V.rel_mono hle _ (I.done k hk (hL.resolve_right e) t ht hdk)
  · rw [(put_getD hcd I.sz u ht).2 (hno i hi (.inr rfl))]
    exact V.rel_mono hle _ (I.old t ht fun k hk hL => hno k hk (.inl hL))
  · rcases hL with hL | rfl
    · exact .inl (I.dc k j hL hA)
    · exact .inl (hr j hA)

theorem Inv.go {ro : Option Nat} (hF : FOK P F) (W : Worked P N ops D F lim e0 S v d ns) {g0 g : Sig} {w0 w : World} {L : Nat → Prop} {a : Act} (I : Inv N Df ops D lim e0 S v d ns g0 w0 L g a w) {i : Nat} (hi : i < ops.size) (hLi : ¬ L i) (hr : ∀ j, AN D i j → L j)
    {K : Act → World → Prop} {Q : Exit → Act → World → Prop} (hK : ∀ g' a' w', Inv N Df ops D lim e0 S v d ns g0 w0 (fun j => L j ∨ j = i) g' a' w' → K a' w') : wpOpIn (fw ro) 0 P ops Q i K a w := by
  obtain ⟨o, ho⟩ : ∃ o, ops[i]? = some o := ⟨ops[i], Array.getElem?_eq_getElem hi⟩
  obtain ⟨hcd, hcg, hco⟩ := W.st.comp i o ho
  unfold wpOpIn
  simp only [ho]
  have hE := Inv.env W I hi hLi hr
  obtain ⟨b, hb, hcase⟩ := step_inv (W.step i hi) (W.c1 i hi) (W.c2 i hi) (W.c3 i hi) (W.mono i hi)
  have hle1 := W.le i (by omega) 0 (by omega)
  have hle2 := W.le ops.size (Nat.le_refl _) (i + 1) (by omega)
  have hno : (∀ p, (d i).has p → ∀ j, i < j → j < ops.size → L j → ¬ (d j).has p) := by
    intro p hp j hij hj hLj hpj
    rcases W.touch hi hp with ⟨h1, h2⟩ | ⟨b2, hb2, ⟨x, hx⟩, _⟩
    · exact hLi (W.made I.dc hi h1 h2 j j (Nat.le_refl _) hj hLj hpj)
    · exact W.later I.dc hij hj hLi hLj hpj hb2 hx
  rcases hcase with ⟨p, wn, hgd, hskip, hv, hdl, hns⟩ | ⟨hgd, limi, b', h', hev, hsub, hlim, hT, hW⟩
  · -- not wanted
    rw [hgd] at hcg
    obtain ⟨w1, w2⟩ := wanted_of hE hcg
    have hw : Region.wanted o (yielded ops a.tmps) = false := by
      rcases hskip with ⟨x, hx, hne⟩ | hx
      · rw [w1 x hx]; simpa using hne
      · exact w2 hx
    rw [if_neg (by rw [hw]; simp)]
    have heq : hLf d (fun j => L j ∨ j = i) (fun p => S.get p) ops.size = hLf d L (fun p => S.get p) ops.size := by
      funext p
      exact (hLf_add hi hLi (hno p)).2 (by rw [hdl]; exact fun h => h)
    refine ⟨fun _ _ => trivial, ?_⟩
    refine hK g _ w (Inv.next W I hi hLi hr ho (by rw [hv]; exact ⟨[], rfl, rfl⟩) (Sig.le.refl g) (by rw [heq]; exact I.mem) (by rw [heq]; exact I.fr) fun j hj hn _ => I.fresh j hj hn)
  · -- wanted
    have hw : Region.wanted o (yielded ops a.tmps) = true := by
      rcases hgd with hgd | ⟨p, wn, hgd, hx⟩
      · rw [hgd] at hcg; exact wanted_none hcg
      · rw [hgd] at hcg
        rw [(wanted_of hE hcg).1 wn hx]; simp
    rw [if_pos hw]
    have hthere : ∀ p x, b'.get p = some x → hLf d L (fun p => S.get p) ops.size p = some x := fun p x hx => W.there I.dc hi hLi hr hb (hsub p x hx)
    have hdom : Dom (fun p => b'.get p) (ns i) := fun p x hx => W.base_dom i i (Nat.le_refl _) hi b hb p x (hsub p x hx)
    refine compO_sound hF hco _ _ _ _ _ _ _ hev a g w hE.ok (I.mem.sub hthere) hdom (I.fresh i hi hLi) (W.c3 i hi) ro K Q fun u g' w' hu m' f => ?_
    have hun : ∀ p, (∃ x, b'.get p = some x ∧ h'.get p = some x) → ¬ (d i).has p → hLf d (fun j => L j ∨ j = i) (fun p => S.get p) ops.size p = h'.get p := fun p ⟨x, h1, h2⟩ hn => by
      rw [(hLf_add hi hLi (hno p)).2 hn, hthere p x h1, h2]
    have hst := draw_step (T := fun p => (d i).has p ∨ ∃ x, b'.get p = some x ∧ h'.get p = some x) (hL' := hLf d (fun j => L j ∨ j = i) (fun p => S.get p) ops.size) I.mem I.fr (fun p x hx => W.dom p x hx) hlim hle1 hle2 (I.fresh i hi hLi) m' f hthere (fun p x hx hl => (hW p x hx hl (hdom p x hx)).imp id fun h => ⟨x, hx, h⟩)
      (fun p hp => hp.elim (fun hp => (hT p hp).2.imp id fun h => h.1) fun ⟨x, h1, _⟩ => .inr ⟨x, h1⟩) (fun p hp => by
        by_cases hd : (d i).has p
        · rw [(hLf_add hi hLi (hno p)).1 hd]; exact (hT p hd).1
        · exact hun p (hp.resolve_left hd) hd) (fun p hp => (hLf_add hi hLi (hno p)).2 fun h => hp (.inl h))
      (fun p hp h1 h2 x hx => by
        rcases hLf_some _ hx with h3 | ⟨j, h3, h4, h5⟩
        · have := W.dom p x h3; omega
        · exact hLi (W.made I.dc hi h1 h2 j j (Nat.le_refl _) h3 h4 h5))
    refine hK g' _ w' (Inv.next W I hi hLi hr ho hu (f.gle (I.fresh i hi hLi)) hst.1 hst.2 fun j hj hn hne => ?_)
    intro p h1 h2
    rw [f.sig p ?_]
    · exact I.fresh j hj hn p h1 h2
    · rcases Nat.lt_or_gt_of_ne hne with e | e
      · left; have := W.le i (by omega) (j + 1) (by omega); omega
      · right; have := W.le j (by omega) (i + 1) (by omega); omega

theorem mem_ready {listed : Array Bool} {i : Nat} (h : i ∈ Region.ready .any ops listed) (hs : listed.size = ops.size) : i < ops.size ∧ listed[i]? = some false ∧ ∃ o, ops[i]? = some o ∧ ∀ e ∈ o.after.toList, Region.binds .any e = true → listed.getD e.on false = true := by
  unfold Region.ready at h
  rw [List.mem_filter] at h
  obtain ⟨h1, h2⟩ := h
  rw [List.mem_range] at h1
  rw [Bool.and_eq_true] at h2
  obtain ⟨h3, h4⟩ := h2
  have hlt : i < listed.size := by omega
  refine ⟨h1, ?_, ops[i], Array.getElem?_eq_getElem h1, ?_⟩
  · rw [Array.getElem?_eq_getElem hlt]
    have : listed.getD i true = listed[i] := by simp [Array.getD, hlt]
    rw [this] at h3
    simpa using h3
  · intro e he hb
    rw [Array.getElem?_eq_getElem h1] at h4
    simp only [Option.map_some, Option.getD_some] at h4
    rw [Array.all_eq_true'] at h4
    have := h4 e (by simpa using he)
    simpa [hb] using this

theorem ready_of {listed : Array Bool} {i : Nat} (h1 : i < ops.size) (hs : listed.size = ops.size) (h2 : listed[i]? = some false) {o : Oper} (ho : ops[i]? = some o) (h3 : ∀ e ∈ o.after.toList, Region.binds .any e = true → listed.getD e.on false = true) : i ∈ Region.ready .any ops listed := by
  unfold Region.ready
  rw [List.mem_filter, List.mem_range]
  refine ⟨h1, ?_⟩
  rw [Bool.and_eq_true]
  have hlt : i < listed.size := by omega
  refine ⟨?_, ?_⟩
  · have : listed.getD i true = listed[i] := by simp [Array.getD, hlt]
    rw [this]
    rw [Array.getElem?_eq_getElem hlt] at h2
    simp at h2
    simp [h2]
  · rw [ho]
    simp only [Option.map_some, Option.getD_some]
    rw [Array.all_eq_true']
    intro e he
    by_cases hb : Region.binds .any e = true
    · have := h3 e (by simpa using he) hb
      simp [hb, this]
    · simp at hb
      simp [hb]

theorem LS_getD {listed : Array Bool} {i : Nat} (h : listed.getD i false = true) : LS listed i := by
  unfold LS
  by_cases hlt : i < listed.size
  · rw [Array.getElem?_eq_getElem hlt]
    have : listed.getD i false = listed[i] := by simp [Array.getD, hlt]
    rw [this] at h; rw [h]
  · have : listed.getD i false = false := by simp [Array.getD, hlt]
    rw [this] at h; cases h

theorem an_done (W : Worked P N ops D F lim e0 S v d ns) {L : Nat → Prop} {i : Nat} {o : Oper} (ho : ops[i]? = some o) (hdc : ∀ i j, L i → AN D i j → L j) (h : ∀ e ∈ o.after.toList, Region.binds .any e = true → L e.on) : ∀ j, AN D i j → L j := by
  intro j hA
  obtain ⟨e, he, hb, h1 | h1⟩ := W.st.k1 i o ho j hA
  · rw [← h1]; exact h e he hb
  · exact hdc _ _ (h e he hb) h1

theorem all_listed (W : Worked P N ops D F lim e0 S v d ns) {listed : Array Bool} (hs : listed.size = ops.size) (hr : Region.ready .any ops listed = []) : ∀ k i, i ≤ k → i < ops.size → LS listed i
  | k, i, hk, hi => by
    by_cases h : listed[i]? = some true
    · exact h
    · exfalso
      have hlt : i < listed.size := by omega
      have h2 : listed[i]? = some false := by
        rw [Array.getElem?_eq_getElem hlt] at h ⊢
        cases hx : listed[i] with
        | true => rw [hx] at h; exact absurd rfl h
        | false => rfl
      obtain ⟨o, ho⟩ : ∃ o, ops[i]? = some o := ⟨ops[i], Array.getElem?_eq_getElem hi⟩
      have hm : i ∈ Region.ready .any ops listed := ready_of hi hs h2 ho fun e he hb => by
        have hlt2 := W.st.k5 i o ho e he hb
        have := all_listed W hs hr (i - 1) e.on (by omega) (by omega)
        unfold LS at this
        have hl3 : e.on < listed.size := by omega
        rw [Array.getElem?_eq_getElem hl3] at this
        simp [Array.getD, hl3]
        simpa using this
      rw [hr] at hm
      cases hm
termination_by k i => i

theorem walk_any {ro : Option Nat} (hF : FOK P F) (W : Worked P N ops D F lim e0 S v d ns) {g0 : Sig} {w0 : World} {Q : Exit → Act → World → Prop} (hQ : ∀ g a w, Inv N Df ops D lim e0 S v d ns g0 w0 (fun i => i < ops.size) g a w → Q .normal a w) :
    ∀ (fuel : Nat) (listed : Array Bool) (a : Act) (g : Sig) (w : World), listed.size = ops.size → unl listed.toList ≤ fuel → Inv N Df ops D lim e0 S v d ns g0 w0 (LS listed) g a w → wpAnyIn (fw ro) 0 P .any ops Q fuel listed a w := by
  have fin : ∀ (listed : Array Bool) (a : Act) (g : Sig) (w : World), listed.size = ops.size → (∀ i, i < ops.size → LS listed i) → Inv N Df ops D lim e0 S v d ns g0 w0 (LS listed) g a w → Q .normal a w := by
    intro listed a g w hs hall I
    have e : LS listed = fun i => i < ops.size := by
      funext i
      apply propext
      refine ⟨fun h => ?_, hall i⟩
      unfold LS at h
      have := (Array.getElem?_eq_some_iff.1 h).1
      omega
    exact hQ g a w (e ▸ I)
  intro fuel
  induction fuel with
  | zero =>
    intro listed a g w hs hu I
    have hall : ∀ i, i < ops.size → LS listed i := fun i hi => by
      have := unl_zero listed.toList (by omega) i (by simpa [hs] using hi)
      simpa [LS] using this
    refine ⟨?_, fin listed a g w hs hall I⟩
    rw [List.eq_nil_iff_forall_not_mem]
    intro i hi
    obtain ⟨h1, h2, _⟩ := mem_ready hi hs
    have := hall i h1
    unfold LS at this
    rw [this] at h2; cases h2
  | succ fuel ih =>
    intro listed a g w hs hu I
    refine ⟨fun hr => fin listed a g w hs (fun i hi => all_listed W hs hr i i (Nat.le_refl _) hi) I, fun i hi => ?_⟩
    obtain ⟨h1, h2, o, ho, h3⟩ := mem_ready hi hs
    have hLi : ¬ LS listed i := by unfold LS; rw [h2]; simp
    refine Inv.go hF W I h1 hLi (an_done W ho I.dc fun e he hb => LS_getD (h3 e he hb)) fun g' a' w' I' => ?_
    have hlt : i < listed.size := by omega
    have e : LS (listed.setIfInBounds i true) = fun j => LS listed j ∨ j = i := by
      funext j
      apply propext
      unfold LS
      by_cases hj : j = i
      · subst hj
        simp [hlt]
      · rw [Array.getElem?_setIfInBounds_ne (Ne.symm hj)]
        exact ⟨fun h => .inl h, fun h => h.resolve_right hj⟩
    refine ih _ a' g' w' (by simpa using hs) ?_ (e ▸ I')
    have := unl_set listed.toList i (by simpa using h2)
    simp only [Array.toList_setIfInBounds]
    omega
end
end Go.Proofs.Ythgaekbcmhbbgaa.Ev
/- Regions whose order is open: the translation, the checks, and that the model comes to the same. -/
namespace Go.Proofs.Ythgaekbcmhbbgaa.Ev
set_option linter.unusedVariables false
open Go

/-! What comes before what, in bits. -/
def maskOf (o : Oper) (acc : List Nat) : Nat := o.after.toList.foldl (fun s e => if Region.binds .any e then s ||| 2 ^ e.on ||| acc.getD e.on 0 else s) 0
def masks : List Oper → List Nat → List Nat
  | [], acc => acc
  | o :: l, acc => masks l (acc ++ [maskOf o acc])
def stOf (o : Oper) : List Pos := match o.op with
  | .store _ (.tmp t) _ => [tp t]
  | .mapUpdate _ (.tmp t) _ _ => [tp t]
  | .call { callee := .builtin .append, args := ⟨[.tmp t, .tmp u]⟩, .. } => [tp t, tp u]
  | .call { callee := .builtin .copy, args := ⟨[.tmp t, .tmp u]⟩, .. } => [tp t, tp u]
  | _ => []
def puOf (o : Oper) : Bool := match o.op with
  | .load .. | .store .. | .lookup .. | .mapUpdate .. | .slice .. | .call { callee := .value _, .. } | .call { callee := .builtin .append, .. } | .call { callee := .builtin .copy, .. } => false
  | _ => true
def frOf (dr : List Nat) (o : Oper) : Bool := match o.op with
  | .alloc _ | .box .. | .buildSlice .. | .makeSlice .. | .makeMap .. => true
  | .call { callee := .builtin .append, .. } => true
  | .call { callee := .value (.func f), .. } => !dr.contains f
  | .call { callee := .value _, .. } => true
  | _ => false
def efOf (dr : List Nat) (o : Oper) : Bool := match o.op with
  | .call { callee := .value (.func f), .. } => dr.contains (1000000 + f)
  | .call { callee := .value _, .. } => dr.contains 2000000
  | _ => false
def tsOf (ops : Array Oper) (o : Oper) : List Pos :=
  (match o.guard with | some (j, _) => (((ops[j]?).bind (·.dst)).map tp).toList | none => []) ++ o.op.operands.toList.filterMap fun | .tmp t => some (tp t) | _ => none
def usOf (ms : List Nat) (i : Nat) : Nat → List Oper → List Pos
  | _, [] => []
  | j, o :: l => if i < j ∧ (ms.getD j 0).testBit i = false then stOf o ++ usOf ms i (j + 1) l else usOf ms i (j + 1) l
/-- The address of a load. -/
def ldOf (o : Oper) : List Pos := match o.op with
  | .load _ (.tmp t) => [tp t]
  | _ => []
/-- For a call that writes: the addresses of loads before it that may come behind it. -/
def usE (ms : List Nat) (j : Nat) : Nat → List Oper → List Pos
  | _, [] => []
  | i, o :: l => if i < j ∧ (ms.getD j 0).testBit i = false then ldOf o ++ usE ms j (i + 1) l else usE ms j (i + 1) l
/-- Operations that write, of which loads are told; 4000000: stores and append too. -/
def wrOf (dr : List Nat) (o : Oper) : Bool := efOf dr o || (dr.contains 4000000 && !(stOf o).isEmpty)
def rdOf (dr : List Nat) (ms : List Nat) (i : Nat) (r : List Pos) : Nat → List Oper → List Pos
  | _, [] => []
  | j, o :: l => if i < j ∧ (ms.getD j 0).testBit i = false ∧ wrOf dr o = true then r else rdOf dr ms i r (j + 1) l
def mkD (P : Program) (N : Nat) (dr : List Nat) (ops : Array Oper) (ms : List Nat) (i : Nat) (o : Oper) : Option DO :=
  match compD N o.dst, compG N ops o.guard, compO P o with
  | some d, some g, some q => some ⟨d, g, puOf o, stOf o, frOf dr o, (List.range i).reverse.map fun j => (ms.getD i 0).testBit j, if (dr.contains 4000000 && !(ldOf o).isEmpty) = true then [] else usOf ms i 0 ops.toList, tsOf ops o, q, efOf dr o, rdOf dr ms i (ldOf o) 0 ops.toList, if wrOf dr o = true then usE ms i 0 ops.toList else [], if efOf dr o = true then (dr.filter fun k => Nat.ble 3000000 k).map fun k => posF 63 (k - 3000000 + 1) else []⟩
  | _, _, _ => none
def mkL (P : Program) (N : Nat) (dr : List Nat) (ops : Array Oper) (ms : List Nat) : Nat → List Oper → Option (List DO)
  | _, [] => some []
  | i, o :: l => match mkD P N dr ops ms i o, mkL P N dr ops ms (i + 1) l with
    | some d, some m => some (d :: m)
    | _, _ => none

def anB (D : List DO) (i j : Nat) : Bool := Nat.blt j i && (D.getD i default).an.getD (i - 1 - j) false
def chkDr (ops : Array Oper) (D : List DO) : Bool :=
  let n := ops.size
  (List.range n).all fun i =>
    (match ops[i]? with
      | some o => (o.after.toList.all fun e => !Region.binds .any e || Nat.blt e.on i) &&
          (List.range i).all fun j => !anB D i j || o.after.toList.any fun e => Region.binds .any e && (Nat.beq e.on j || anB D e.on j)
      | none => true) &&
    ((List.range n).all fun j => Nat.beq i j || (match (D.getD i default).dst with | some p => decide ((D.getD j default).dst ≠ some p) | none => true)) &&
    ((List.range n).all fun j => Nat.beq i j || (match (D.getD j default).dst with | some p => !(D.getD i default).ts.contains p || anB D i j || anB D j i | none => true)) &&
    ((List.range n).all fun j => !Nat.blt i j || (D.getD i default).pu || (D.getD j default).st.all fun a => anB D j i || (((D.getD i default).us.contains a && (List.range n).all fun k => decide ((D.getD k default).dst ≠ some a)) || (!(D.getD i default).rd.isEmpty && (D.getD i default).rd.all fun a => (D.getD j default).nd.contains a && (List.range n).all fun k => Nat.blt k i || Nat.ble j k || decide ((D.getD k default).dst ≠ some a)))) &&
    ((List.range n).all fun j => !Nat.blt i j || (D.getD i default).pu || !(D.getD j default).ef || anB D j i || (!(D.getD i default).rd.isEmpty && (D.getD i default).rd.all fun a => (D.getD j default).nd.contains a && (List.range n).all fun k => Nat.blt k i || Nat.ble j k || decide ((D.getD k default).dst ≠ some a)))

def compDr0 (P : Program) (N : Nat) (dr : List Nat) (ops : Array Oper) : Option DR :=
  match mkL P N dr ops (masks ops.toList []) 0 ops.toList with
  | some l => if l.length = ops.size ∧ chkDr ops l = true then some l else none
  | none => none
def compDr1 (P : Program) (N : Nat) (dr : List Nat) (ops : Array Oper) : Option DR :=
  match compDr0 P N dr ops with
  | some l => some l
  | none => compDr0 P N (dr ++ [4000000]) ops
/-- The last operation comes behind all others. -/
def covB (ops : Array Oper) (m : Nat) (o : Oper) (l : DR) : Bool :=
  (o.after.toList.all fun e => !Region.binds .any e || Nat.blt e.on m) &&
  ((List.range m).all fun j => o.after.toList.any fun e => Region.binds .any e && (Nat.blt e.on m && (Nat.beq e.on j || anB l e.on j))) &&
  ((List.range m).all fun i => match ops[i]? with | some x => (match x.guard with | some (j, _) => Nat.blt j m | none => true) | none => true)
def compDrT (P : Program) (N : Nat) (dr : List Nat) (ops : Array Oper) : Option DR :=
  match ops[ops.size - 1]? with
  | some o => if efOf dr o = true then (match compDr1 P N dr ops.pop, compD N o.dst, compG N ops o.guard, compO P o with
    | some l, some d, some none, some q => if l.length + 1 = ops.size ∧ covB ops l.length o l = true then some (l ++ [⟨d, none, true, [], false, [], [], [], q, true, [], [], []⟩]) else none
    | _, _, _, _ => none) else none
  | none => none
def compDr (P : Program) (N : Nat) (dr : List Nat) (ops : Array Oper) : Option DR :=
  match compDrT P N dr ops with
  | some l => some l
  | none => match compDr1 P N dr ops with
    | some l => (match tlOf l with | none => some l | some _ => none)
    | none => none

theorem anB_iff (D : List DO) (i j : Nat) : anB D i j = true ↔ AN (fun i => D.getD i default) i j := by
  unfold anB AN bitL
  rw [Bool.and_eq_true, Nat.blt_eq]

theorem mkL_get {P : Program} {N : Nat} {dr : List Nat} {ops : Array Oper} {ms : List Nat} : ∀ (os : List Oper) (i : Nat) (l : List DO), mkL P N dr ops ms i os = some l → ∀ k o, os[k]? = some o →
    compD N o.dst = some (l.getD k default).dst ∧ compG N ops o.guard = some (l.getD k default).gd ∧ compO P o = some (l.getD k default).o
  | [], i, l, h, k, o, ho => by simp at ho
  | x :: os, i, l, h, k, o, ho => by
    rw [mkL] at h
    split at h
    case h_2 => cases h
    rename_i dd m h1 h2
    cases h
    cases k with
    | zero =>
      simp at ho
      subst ho
      unfold mkD at h1
      split at h1
      · rename_i a b c; cases h1; exact ⟨a, b, c⟩
      · cases h1
    | succ k => exact mkL_get os (i + 1) m h2 k o (by simpa using ho)

theorem chk_ok0 {P : Program} {N : Nat} {dr : List Nat} {ops : Array Oper} {l : DR} (h : compDr0 P N dr ops = some l) : DrawOK P N ops (fun i => l.getD i default) ∧ l.length = ops.size := by
  unfold compDr0 at h
  split at h
  case h_2 => cases h
  rename_i D hD
  split at h
  case isFalse => cases h
  rename_i hc
  cases h
  obtain ⟨hlen, hchk⟩ := hc
  refine ⟨?_, hlen⟩
  unfold chkDr at hchk
  dsimp only at hchk
  rw [List.all_eq_true] at hchk
  have C : ∀ i, i < ops.size → _ := fun i hi => hchk i (List.mem_range.2 hi)
  simp only [Bool.and_eq_true, List.all_eq_true, List.mem_range] at C
  refine ⟨fun i o ho => mkL_get ops.toList 0 l hD i o (by simpa using ho), fun i o ho e he hb => ?_, fun i o ho j hA => ?_, fun i j hi hj hne p hp => ?_, fun i j hi hj hne p hp hd => ?_, fun i j hij hj hpu a ha => ?_, fun i j hij hj hpu hef => ?_⟩
  · have hi : i < ops.size := (Array.getElem?_eq_some_iff.1 ho).1
    have c := (C i hi).1.1.1.1
    rw [ho] at c
    simp only [Bool.and_eq_true, List.all_eq_true] at c
    have := c.1 e he
    rw [hb] at this
    simpa [Nat.blt_eq] using this
  · have hi : i < ops.size := (Array.getElem?_eq_some_iff.1 ho).1
    have c := (C i hi).1.1.1.1
    rw [ho] at c
    simp only [Bool.and_eq_true, List.all_eq_true] at c
    have := c.2 j (List.mem_range.2 hA.1)
    rw [(anB_iff l i j).2 hA] at this
    simp only [Bool.not_true, Bool.false_or, List.any_eq_true, Bool.and_eq_true, Bool.or_eq_true] at this
    obtain ⟨e, he, hb, h1 | h1⟩ := this
    · exact ⟨e, he, hb, .inl (by simpa [Nat.beq_eq] using h1)⟩
    · exact ⟨e, he, hb, .inr ((anB_iff l _ _).1 h1)⟩
  · have c := (C i hi).1.1.1.2 j hj
    rw [hp] at c
    have hb : Nat.beq i j = false := by
      cases hx : Nat.beq i j
      · rfl
      · rw [Nat.beq_eq] at hx; exact absurd hx hne
    rw [hb] at c
    simpa using c
  · have c := (C i hi).1.1.2 j hj
    rw [hd] at c
    have hb : Nat.beq i j = false := by
      cases hx : Nat.beq i j
      · rfl
      · rw [Nat.beq_eq] at hx; exact absurd hx.symm hne
    rw [hb] at c
    simp only [Bool.false_or, Bool.or_eq_true] at c
    rcases c with (c | c) | c
    · have : (l.getD i default).ts.contains p = true := List.elem_eq_true_of_mem hp
      rw [this] at c; cases c
    · exact .inl ((anB_iff l _ _).1 c)
    · exact .inr ((anB_iff l _ _).1 c)
  · have c := (C i (by omega)).1.2 j hj
    have hb : Nat.blt i j = true := by rw [Nat.blt_eq]; exact hij
    have hpu : (l.getD i default).pu = false := hpu
    rw [hb, hpu] at c
    simp only [Bool.not_true, Bool.false_or, Bool.or_eq_true, Bool.and_eq_true, List.all_eq_true, List.mem_range, decide_eq_true_eq, Bool.not_eq_true', List.isEmpty_eq_false_iff, Nat.blt_eq, Nat.ble_eq] at c
    rcases c a ha with c | ⟨c1, c2⟩ | ⟨c1, c2⟩
    · exact .inl ((anB_iff l _ _).1 c)
    · exact .inr (.inl ⟨List.mem_of_elem_eq_true c1, c2⟩)
    · refine .inr (.inr ⟨c1, fun a ha => ⟨List.mem_of_elem_eq_true (c2 a ha).1, fun k h1 h2 => ?_⟩⟩)
      rcases (c2 a ha).2 k (by omega) with (c3 | c3) | c3
      · omega
      · omega
      · exact c3
  · have c := (C i (by omega)).2 j hj
    have hb : Nat.blt i j = true := by rw [Nat.blt_eq]; exact hij
    have hpu : (l.getD i default).pu = false := hpu
    have hef : (l.getD j default).ef = true := hef
    rw [hb, hpu, hef] at c
    simp only [Bool.not_true, Bool.false_or, Bool.or_eq_true, Bool.and_eq_true, List.all_eq_true, List.mem_range, decide_eq_true_eq, Bool.not_eq_true', List.isEmpty_eq_false_iff, Nat.blt_eq, Nat.ble_eq] at c
    rcases c with c | ⟨c1, c2⟩
    · exact .inl ((anB_iff l _ _).1 c)
    · refine .inr ⟨c1, fun a ha => ⟨List.mem_of_elem_eq_true (c2 a ha).1, fun k h1 h2 => ?_⟩⟩
      rcases (c2 a ha).2 k (by omega) with (c3 | c3) | c3
      · omega
      · omega
      · exact c3

theorem chk_ok {P : Program} {N : Nat} {dr : List Nat} {ops : Array Oper} {l : DR} (h : compDr1 P N dr ops = some l) : DrawOK P N ops (fun i => l.getD i default) ∧ l.length = ops.size := by
  unfold compDr1 at h
  split at h
  · rename_i h1; cases h; exact chk_ok0 h1
  · exact chk_ok0 h

theorem draw_sound0 {ro : Option Nat} {P : Program} (hP : P.follows .mixedOrders = true) {F : FF} (hF : FOK P F) (hM : F.mono) {N : Nat} {dr : List Nat} {id : Nat} {ops : Array Oper} {r : DR} (hr : compDr1 P N dr ops = some r)
    {lim : Nat} {e : Tr} {h : Hp} {n : Nat} {e' : Tr} {h' : Hp} {n' : Nat} (hlim : lim ≤ n ∧ 1 ≤ n) (hev : evDs F lim h r [] e n = .ok e' h' n') {a : Act} {g : Sig} {w : World} (he : EnvA N g e a) (m : Mem g h.get w) (hd : Dom h.get n) (hf : Fresh g n n') (hn : n' < 9223372036854775808) :
    (Code.region id ops true).wpIn (fw ro) 0 P (fun ex a' w' => ex = .normal ∧ MkK w a w' a' ∧ ∃ g', EnvA N g' e' a' ∧ Mem g' h'.get w' ∧ Fr lim n g h.get w n' g' h'.get w') a w := by
  obtain ⟨hok, hlen⟩ := chk_ok hr
  obtain ⟨v, d, ns, _, h0, hst, rfl, rfl, rfl⟩ := trace (F := F) (lim := lim) (S := h) (e0 := e) (l := r) r.length 0 (fun _ => .bad) (fun _ => .nil) (fun _ => n) (by omega) hev
  have h0 : ns 0 = n := h0 0 (by omega)
  rw [hlen] at hst hf hn ⊢
  have hst : ∀ i, i < ops.size → stepD (r.getD i default) F lim (accS d i) (envS e (fun i => r.getD i default) v i) h (ns i) = .ok (v i) (d i) (ns (i + 1)) := fun i hi => hst i (by omega) (by omega)
  have W : Worked P N ops (fun i => r.getD i default) F lim e h v d ns := ⟨hok, hst, fun i hi => stepD_ge hM (hst i hi), by omega, by omega, hn, fun p b hp => by rw [h0]; exact hd p b hp⟩
  refine wpIn_region_any hP (walk_any (Df := a.defers) hF W (g0 := g) (w0 := w) (fun g' a' w' I => ?_) ops.size _ a g w.drew (by simp) (by simp [unl_rep]) ?_)
  · have heq : hLf d (fun i => i < ops.size) (fun p => h.get p) ops.size = fun p => (appAll (accS d ops.size) h).get p := by
      funext p
      rw [appAll_get]
      exact hLf_congr ops.size fun j hj => ⟨fun hc => ⟨trivial, hc.2⟩, fun hc => ⟨hj, hc.2⟩⟩
    have hfr : Fr lim n g h.get w (ns ops.size) g' (appAll (accS d ops.size) h).get w' := by
      have := I.fr
      rw [h0, heq] at this
      exact this
    refine ⟨rfl, mk_keep m hfr I.ds, g', ⟨I.sz, I.glo, fun t ht => ?_⟩, heq ▸ I.mem, ?_⟩
    · by_cases hex : ∃ j, j < ops.size ∧ (r.getD j default).dst = some (tp t)
      · obtain ⟨j, hj, hdst⟩ := hex
        rw [envS_at e (fun i => r.getD i default) v ops.size j hj hdst (fun k hk hkj => hok.k2 j k hj hk (Ne.symm hkj) _ hdst)]
        exact I.done j hj hj t ht hdst
      · rw [envS_other e (fun i => r.getD i default) v ops.size (fun j hj e => hex ⟨j, hj, e⟩)]
        exact I.old t ht fun i hi _ e => hex ⟨i, hi, e⟩
    · have := I.fr
      rw [h0, heq] at this
      exact this
  · have hno : ∀ i, ¬ LS (Array.replicate ops.size false) i := by
      intro i hi
      unfold LS at hi
      rw [Array.getElem?_replicate] at hi
      split at hi <;> simp at hi
    have heq : hLf d (LS (Array.replicate ops.size false)) (fun p => h.get p) ops.size = fun p => h.get p := by
      funext p
      have : ∀ k, hLf d (LS (Array.replicate ops.size false)) (fun p => h.get p) k p = h.get p := by
        intro k
        induction k with
        | zero => rfl
        | succ k ih => rw [hLf_neg (fun hc => hno k hc.1), ih]
      exact this _
    refine ⟨rfl, he.sz, he.glo, fun i _ hL => absurd hL (hno i), fun t ht _ => he.rel t ht, by rw [heq]; exact m.drew, ?_, fun i hi _ => ?_, fun i j hL _ => absurd hL (hno i)⟩
    · rw [heq, h0]
      have hle : n ≤ ns ops.size := by have := W.le ops.size (Nat.le_refl _) 0 (by omega); omega
      exact ⟨hle, rfl, rfl, rfl, Nat.le_refl _, fun _ _ _ => rfl, fun _ _ => rfl, fun p b hp => ⟨fun _ => ⟨b, hp⟩, by have := hd p b hp; omega⟩, fun p r base tot h1 h2 hg => by rw [hf p h1 h2] at hg; cases hg⟩
    · have := W.le i (by omega) 0 (by omega)
      have := W.le ops.size (Nat.le_refl _) (i + 1) (by omega)
      exact hf.sub (by omega) (by omega)

/-- An operation that isn't the last one, without the last one. -/
theorem wpOp_pop {F : Fence} {n : Nat} {P : Program} {ops : Array Oper} {m i : Nat} (hm : ops.size = m + 1) (hi : i < m) (hg : ∀ o j b, ops[i]? = some o → o.guard = some (j, b) → j < m) {Q : Exit → Act → World → Prop} {K : Act → World → Prop} {a : Act} {w : World}
    (h : wpOpIn F n P ops.pop Q i K a w) : wpOpIn F n P ops Q i K a w := by
  have e : ∀ j, j < m → ops.pop[j]? = ops[j]? := fun j hj => by rw [Array.getElem?_pop, if_pos (by omega)]
  unfold wpOpIn at h ⊢
  rw [e i hi] at h
  cases ho : ops[i]? with
  | none => rw [ho] at h; exact h
  | some o =>
    rw [ho] at h
    dsimp only at h ⊢
    have hw : Region.wanted o (yielded ops.pop a.tmps) = Region.wanted o (yielded ops a.tmps) := by
      unfold Region.wanted
      cases hgd : o.guard with
      | none => rfl
      | some jb =>
        obtain ⟨j, b⟩ := jb
        dsimp only
        unfold yielded
        rw [e j (hg o j b ho hgd)]
    rw [hw] at h; exact h
section
variable {P : Program} {N : Nat} {D : Nat → DO} {F : FF} {lim : Nat} {e0 : Tr} {S : Hp} {v : Nat → V} {d : Nat → Dl} {ns : Nat → Nat} {Df : List Deferred}
theorem walk_tail {ro : Option Nat} (hF : FOK P F) {ops : Array Oper} {m : Nat} (hm : ops.size = m + 1) (W : Worked P N ops.pop D F lim e0 S v d ns) {ol : Oper} (hol : ops[m]? = some ol)
    (hg : ∀ i, i < m → ∀ o j b, ops[i]? = some o → o.guard = some (j, b) → j < m) (hlt : ∀ e ∈ ol.after.toList, Region.binds .any e = true → e.on < m)
    (hcov : ∀ j, j < m → ∃ e ∈ ol.after.toList, Region.binds .any e = true ∧ e.on < m ∧ (e.on = j ∨ AN D e.on j)) {g0 : Sig} {w0 : World} {Q : Exit → Act → World → Prop}
    (hQ : ∀ g a w, Inv N Df ops.pop D lim e0 S v d ns g0 w0 (fun i => i < m) g a w → ∀ K : Act → World → Prop, (∀ a w, Q .normal a w → K a w) → wpOpIn (fw ro) 0 P ops Q m K a w) :
    ∀ (fuel : Nat) (listed : Array Bool) (a : Act) (g : Sig) (w : World), listed.size = m + 1 → listed[m]? = some false → unl listed.toList ≤ fuel → Inv N Df ops.pop D lim e0 S v d ns g0 w0 (fun i => i < m ∧ LS listed i) g a w → wpAnyIn (fw ro) 0 P .any ops Q fuel listed a w := by
  have hps : ops.pop.size = m := by rw [Array.size_pop]; omega
  have hpo : ∀ j, j < m → ops.pop[j]? = ops[j]? := fun j hj => by rw [Array.getElem?_pop, if_pos (by omega)]
  intro fuel
  induction fuel with
  | zero =>
    intro listed a g w hs hl hu I
    have := unl_zero listed.toList (by omega) m (by simp; omega)
    rw [Array.getElem?_toList, hl] at this
    cases this
  | succ fuel ih =>
    intro listed a g w hs hl hu I
    have hsz : listed.size = ops.size := by omega
    refine ⟨fun hr => ?_, fun i hi => ?_⟩
    · exfalso
      have all : ∀ k i, i ≤ k → i < m → LS listed i := by
        intro k
        induction k with
        | zero =>
          intro i hk hi
          obtain rfl : i = 0 := by omega
          by_cases h : listed[0]? = some true
          · exact h
          · exfalso
            have h2 : listed[0]? = some false := by
              rw [Array.getElem?_eq_getElem (by omega)] at h ⊢
              cases hx : listed[0] with
              | true => rw [hx] at h; exact absurd rfl h
              | false => rfl
            obtain ⟨o, ho⟩ : ∃ o, ops[0]? = some o := ⟨ops[0], Array.getElem?_eq_getElem (by omega)⟩
            have hmm := ready_of (by omega : 0 < ops.size) hsz h2 ho fun e he hb => by
              have := W.st.k5 0 o (by rw [hpo 0 hi]; exact ho) e he hb
              omega
            rw [hr] at hmm; cases hmm
        | succ k ihk =>
          intro i hk hi
          by_cases h : listed[i]? = some true
          · exact h
          · exfalso
            have h2 : listed[i]? = some false := by
              rw [Array.getElem?_eq_getElem (by omega)] at h ⊢
              cases hx : listed[i] with
              | true => rw [hx] at h; exact absurd rfl h
              | false => rfl
            obtain ⟨o, ho⟩ : ∃ o, ops[i]? = some o := ⟨ops[i], Array.getElem?_eq_getElem (by omega)⟩
            have hmm := ready_of (by omega : i < ops.size) hsz h2 ho fun e he hb => by
              have hlt2 := W.st.k5 i o (by rw [hpo i hi]; exact ho) e he hb
              have := ihk e.on (by omega) (by omega)
              unfold LS at this
              simp [Array.getD, show e.on < listed.size by omega]
              rw [Array.getElem?_eq_getElem (by omega)] at this
              simpa using this
            rw [hr] at hmm; cases hmm
      have hmm := ready_of (by omega : m < ops.size) hsz hl hol fun e he hb => by
        have h1 := hlt e he hb
        have := all e.on e.on (Nat.le_refl _) h1
        unfold LS at this
        simp [Array.getD, show e.on < listed.size by omega]
        rw [Array.getElem?_eq_getElem (by omega)] at this
        simpa using this
      rw [hr] at hmm; cases hmm
    · obtain ⟨h1, h2, o, ho, h3⟩ := mem_ready hi hsz
      by_cases him : i = m
      · subst him
        obtain rfl : ol = o := Option.some.inj (hol.symm.trans ho)
        have hall : ∀ j, j < i → LS listed j := fun j hj => by
          obtain ⟨e, he, hb, hlt', h4⟩ := hcov j hj
          have hL := LS_getD (h3 e he hb)
          rcases h4 with h4 | h4
          · rw [← h4]; exact hL
          · exact (I.dc _ _ ⟨hlt', hL⟩ h4).2
        have hLe : (fun j => j < i ∧ LS listed j) = fun j => j < i := by
          funext j
          exact propext ⟨fun h => h.1, fun h => ⟨h, hall j h⟩⟩
        refine hQ g a w (hLe ▸ I) _ fun a' w' hq => wpAnyIn_done ?_ hq fuel
        rw [List.eq_nil_iff_forall_not_mem]
        intro j hj
        obtain ⟨j1, j2, _⟩ := mem_ready hj (by simpa using hsz)
        by_cases hji : j = i
        · subst hji
          rw [Array.getElem?_setIfInBounds_self_of_lt (by omega)] at j2
          cases j2
        · rw [Array.getElem?_setIfInBounds_ne (Ne.symm hji)] at j2
          have := hall j (by omega)
          unfold LS at this
          rw [this] at j2; cases j2
      · have him' : i < m := by omega
        have hLi : ¬ (i < m ∧ LS listed i) := fun h => by
          have := h.2
          unfold LS at this
          rw [h2] at this; cases this
        refine wpOp_pop hm him' (fun o j b => hg i him' o j b) (Inv.go hF W I (by omega) hLi (an_done W (by rw [hpo i him']; exact ho) I.dc fun e he hb => ⟨Nat.lt_trans (W.st.k5 i o (by rw [hpo i him']; exact ho) e he hb) him', LS_getD (h3 e he hb)⟩) fun g' a' w' I' => ?_)
        have hlts : i < listed.size := by omega
        have e : (fun j => j < m ∧ LS (listed.setIfInBounds i true) j) = fun j => (j < m ∧ LS listed j) ∨ j = i := by
          funext j
          apply propext
          unfold LS
          by_cases hj : j = i
          · subst hj
            simp [hlts, him']
          · rw [Array.getElem?_setIfInBounds_ne (Ne.symm hj)]
            exact ⟨fun h => .inl h, fun h => h.resolve_right hj⟩
        refine ih _ a' g' w' (by simpa using hs) (by rw [Array.getElem?_setIfInBounds_ne him]; exact hl) ?_ (e ▸ I')
        have := unl_set listed.toList i (by simpa using h2)
        simp only [Array.toList_setIfInBounds]
        omega
end

theorem draw_soundT {ro : Option Nat} {P : Program} (hP : P.follows .mixedOrders = true) {F : FF} (hF : FOK P F) (hM : F.mono) {N : Nat} {dr : List Nat} {id : Nat} {ops : Array Oper} {r : DR} (hr : compDr1 P N dr ops.pop = some r) {ol : Oper} {dd : Option Pos} {q : O}
    (hsz : r.length + 1 = ops.size) (hol : ops[r.length]? = some ol) (hd1 : compD N ol.dst = some dd) (hd2 : compG N ops ol.guard = some none) (hd3 : compO P ol = some q) (hcov : covB ops r.length ol r = true)
    {lim : Nat} {e : Tr} {h : Hp} {n : Nat} {e1 : Tr} {h1 : Hp} {n1 : Nat} {v1 : V} {h' : Hp} {n' : Nat} (hlim : lim ≤ n ∧ 1 ≤ n) (hev : evDs F lim h r [] e n = .ok e1 h1 n1) (hq : q.ev F e1 lim h1 n1 = .ok v1 h' n') {a : Act} {g : Sig} {w : World} (he : EnvA N g e a) (m : Mem g h.get w) (hd : Dom h.get n) (hf : Fresh g n n') (hn : n' < 9223372036854775808) :
    (Code.region id ops true).wpIn (fw ro) 0 P (fun ex a' w' => ex = .normal ∧ MkK w a w' a' ∧ ∃ g', EnvA N g' (setD dd v1 e1) a' ∧ Mem g' h'.get w' ∧ Fr lim n g h.get w n' g' h'.get w') a w := by
  obtain ⟨hok, hlen⟩ := chk_ok hr
  have hn1 : n1 ≤ n' := by
    have := O.ev_ge (n := n1) hM q e1 lim h1
    rw [hq] at this; exact this
  obtain ⟨v, d, ns, _, h0, hst, rfl, rfl, rfl⟩ := trace (F := F) (lim := lim) (S := h) (e0 := e) (l := r) r.length 0 (fun _ => .bad) (fun _ => .nil) (fun _ => n) (by omega) hev
  have h0 : ns 0 = n := h0 0 (by omega)
  rw [hlen] at hst hn1 hq hol hsz hcov ⊢
  have hst : ∀ i, i < ops.pop.size → stepD (r.getD i default) F lim (accS d i) (envS e (fun i => r.getD i default) v i) h (ns i) = .ok (v i) (d i) (ns (i + 1)) := fun i hi => hst i (by omega) (by omega)
  have W : Worked P N ops.pop (fun i => r.getD i default) F lim e h v d ns := ⟨hok, hst, fun i hi => stepD_ge hM (hst i hi), by omega, by omega, by omega, fun p b hp => by rw [h0]; exact hd p b hp⟩
  unfold covB at hcov
  simp only [Bool.and_eq_true, List.all_eq_true, List.mem_range] at hcov
  obtain ⟨⟨c1, c2⟩, c3⟩ := hcov
  have hn1' : ns 0 ≤ ns ops.pop.size := W.le ops.pop.size (Nat.le_refl _) 0 (by omega)
  refine wpIn_region_any hP (walk_tail (Df := a.defers) hF hsz.symm W hol (g0 := g) (w0 := w) (fun i hi o j b ho hgd => ?_) (fun e he hb => ?_) (fun j hj => ?_) (fun g' a' w' I K hK => ?_) ops.size _ a g w.drew (by simp; omega) (by rw [Array.getElem?_replicate, if_pos (by omega)]) (by simp [unl_rep]) ?_)
  · have := c3 i hi
    rw [ho] at this
    simp only [hgd, Nat.blt_eq] at this
    exact this
  · have := c1 e he
    rw [hb] at this
    simpa [Nat.blt_eq] using this
  · have := c2 j hj
    simp only [List.any_eq_true, Bool.and_eq_true, Bool.or_eq_true, Nat.blt_eq, Nat.beq_eq] at this
    obtain ⟨e, h1, h2, h3, h4⟩ := this
    exact ⟨e, h1, h2, h3, h4.imp (fun x => x) (anB_iff r _ _).1⟩
  · have heq : hLf d (fun i => i < ops.pop.size) (fun p => h.get p) ops.pop.size = fun p => (appAll (accS d ops.pop.size) h).get p := by
      funext p
      rw [appAll_get]
      exact hLf_congr ops.pop.size fun j hj => ⟨fun hc => ⟨trivial, hc.2⟩, fun hc => ⟨hj, hc.2⟩⟩
    have hfr : Fr lim n g h.get w (ns ops.pop.size) g' (appAll (accS d ops.pop.size) h).get w' := by
      have := I.fr
      rw [h0, heq] at this
      exact this
    have hmem : Mem g' (appAll (accS d ops.pop.size) h).get w' := heq ▸ I.mem
    have henv : EnvA N g' (envS e (fun i => r.getD i default) v ops.pop.size) a' := ⟨I.sz, I.glo, fun t ht => by
      by_cases hex : ∃ j, j < ops.pop.size ∧ (r.getD j default).dst = some (tp t)
      · obtain ⟨j, hj, hdst⟩ := hex
        rw [envS_at e (fun i => r.getD i default) v ops.pop.size j hj hdst (fun k hk hkj => hok.k2 j k hj hk (Ne.symm hkj) _ hdst)]
        exact I.done j hj hj t ht hdst
      · rw [envS_other e (fun i => r.getD i default) v ops.pop.size (fun j hj e => hex ⟨j, hj, e⟩)]
        exact I.old t ht fun i hi _ e => hex ⟨i, hi, e⟩⟩
    have hfresh : Fresh g' (ns ops.pop.size) n' := fun p p1 p2 => by
      rw [hfr.sig p (.inr p1)]
      exact hf p (by omega) p2
    unfold wpOpIn
    simp only [hol]
    rw [if_pos (wanted_none hd2)]
    refine compO_sound hF hd3 _ _ _ _ _ _ _ hq a' g' w' henv.ok hmem (fun p b hp => (hfr.dom p b hp).2) hfresh hn ro K _ fun u g2 w2 hu m2 f2 => hK _ _ ?_
    have hft := hfr.trans f2
    refine ⟨rfl, mk_keep m hft (by rw [put_defers]; exact I.ds), g2, (henv.mono (f2.gle hfresh)).put hd1 hu, m2, hft⟩
  · have hno : ∀ i, ¬ LS (Array.replicate ops.size false) i := by
      intro i hi
      unfold LS at hi
      rw [Array.getElem?_replicate] at hi
      split at hi <;> simp at hi
    have hno' : ∀ i, ¬ (i < ops.pop.size ∧ LS (Array.replicate ops.size false) i) := fun i hi => hno i hi.2
    have heq : hLf d (fun i => i < ops.pop.size ∧ LS (Array.replicate ops.size false) i) (fun p => h.get p) ops.pop.size = fun p => h.get p := by
      funext p
      have : ∀ k, hLf d (fun i => i < ops.pop.size ∧ LS (Array.replicate ops.size false) i) (fun p => h.get p) k p = h.get p := by
        intro k
        induction k with
        | zero => rfl
        | succ k ih => rw [hLf_neg (fun hc => hno' k hc.1), ih]
      exact this _
    refine ⟨rfl, he.sz, he.glo, fun i _ hL => absurd hL (hno' i), fun t ht _ => he.rel t ht, by rw [heq]; exact m.drew, ?_, fun i hi _ => ?_, fun i j hL _ => absurd hL (hno' i)⟩
    · rw [heq, h0]
      have hle : n ≤ ns ops.pop.size := by omega
      exact ⟨hle, rfl, rfl, rfl, Nat.le_refl _, fun _ _ _ => rfl, fun _ _ => rfl, fun p b hp => ⟨fun _ => ⟨b, hp⟩, by have := hd p b hp; omega⟩, fun p r base tot h1 h2 hg => by rw [hf p h1 (by omega)] at hg; cases hg⟩
    · have := W.le i (by omega) 0 (by omega)
      have := W.le ops.pop.size (Nat.le_refl _) (i + 1) (by omega)
      exact hf.sub (by omega) (by omega)

theorem draw_sound {ro : Option Nat} {P : Program} (hP : P.follows .mixedOrders = true) {F : FF} (hF : FOK P F) (hM : F.mono) {N : Nat} {dr : List Nat} {id : Nat} {ops : Array Oper} {r : DR} (hr : compDr P N dr ops = some r)
    {lim : Nat} {e : Tr} {h : Hp} {n : Nat} {e' : Tr} {h' : Hp} {n' : Nat} (hev : evDr r F lim e h n = .ok e' h' n') {a : Act} {g : Sig} {w : World} (he : EnvA N g e a) (m : Mem g h.get w) (hd : Dom h.get n) (hf : Fresh g n n') (hn : n' < 9223372036854775808) :
    (Code.region id ops true).wpIn (fw ro) 0 P (fun ex a' w' => ex = .normal ∧ MkK w a w' a' ∧ ∃ g', EnvA N g' e' a' ∧ Mem g' h'.get w' ∧ Fr lim n g h.get w n' g' h'.get w') a w := by
  unfold evDr at hev
  split at hev
  case isFalse => cases hev
  rename_i hlim
  unfold compDr at hr
  split at hr
  · rename_i l hl
    cases hr
    unfold compDrT at hl
    split at hl
    case h_2 => cases hl
    rename_i ol hol
    split at hl
    case isFalse => cases hl
    split at hl
    case h_2 => cases hl
    rename_i l0 dd q hl0 hd1 hd2 hd3
    split at hl
    case isFalse => cases hl
    rename_i hc
    cases hl
    obtain ⟨hc1, hc2⟩ := hc
    split at hev
    · rename_i ht
      have := tlOf_last l0 (d := ⟨dd, none, true, [], false, [], [], [], q, true, [], [], []⟩) rfl
      rw [ht] at this; cases this
    · rename_i x hx
      have h1 := tlOf_eq hx
      have h2 := List.append_inj' h1 rfl
      obtain ⟨h3, h4⟩ := h2
      simp only [List.cons.injEq, and_true] at h4
      rw [← h3, ← h4] at hev
      unfold tlR at hev
      split at hev
      case h_1 => cases hev
      rename_i e1 h1' n1 hev1
      split at hev
      case h_2 => cases hev
      rename_i v1 h2' n2 hq
      cases hev
      exact draw_soundT hP hF hM hl0 hc1 (by rw [show l0.length = ops.size - 1 by omega]; exact hol) hd1 hd2 hd3 hc2 hlim hev1 hq he m hd hf hn
  · split at hr
    case h_2 => cases hr
    rename_i l hl
    split at hr
    case h_2 => cases hr
    rename_i ht
    cases hr
    rw [ht] at hev
    exact draw_sound0 hP hF hM hl hlim hev he m hd hf hn
end Go.Proofs.Ythgaekbcmhbbgaa.Ev
