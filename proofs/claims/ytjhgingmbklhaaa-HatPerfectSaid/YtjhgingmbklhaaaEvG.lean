/- The evaluator's operations on slices, and that the model answers so. -/
import Derived.Test.YtjhgingmbklhaaaEvF
import Derived.Laws.Slices
namespace Go.Proofs.Ytjhgingmbklhaaa.Ev
set_option linter.unusedVariables false
open Go

section
variable {P : Program} {o : Oper}

/-! A slice literal. -/
noncomputable def evBsl (el esz len : Nat) (z : L) (ps : PL) (e : Tr) (_ : Nat) (h : Hp) (n : Nat) : Res :=
  Option.rec .no (fun l => Bool.rec .no (newB ⟨el, len * esz, len * esz, l, .lf⟩ (fun p => .sl p 0 esz len (some len)) h n) (and l.allC (Nat.beq l.length (len * esz)))) (evPL e ps z)
theorem ok_bsl {t el : TypeId} {len : Nat} {parts : Array (Nat × Operand)} {ps : PL} {i : TypeInfo} {zv : Value} {z : L} (ht : P.underlying t = some (.slice el)) (hi : P.info? el = some i) (hz : i.zero = some zv)
    (h0 : 0 < i.size) (hzs : zv.cells.size = i.size) (hlen : len * i.size ≤ 16777216)
    (hzl : ofVals ((Array.range (len * i.size)).map (zv.cells[· % zv.cells.size]!)).toList = some z)
    (hp : compPL (fun j => some (j * i.size, i.size)) parts.toList = some ps) (ho : o.op = .buildSlice t len parts) : OpOK P o (evBsl el i.size len z ps) := by
  intro e lim h n v h' n' hr ρ g w he m hd hf hn
  unfold evBsl at hr
  cases hl : evPL e ps z with
  | none => rw [hl] at hr; cases hr
  | some l =>
    rw [hl] at hr
    have hr : (Bool.rec .no (newB ⟨el, len * i.size, len * i.size, l, .lf⟩ (fun p => .sl p 0 i.size len (some len)) h n) (and l.allC (Nat.beq l.length (len * i.size))) : Res) = .ok v h' n' := hr
    cases hb : and l.allC (Nat.beq l.length (len * i.size))
    · rw [hb] at hr; cases hr
    · rw [hb] at hr
      simp only [Bool.and_eq_true, Nat.beq_eq] at hb
      obtain ⟨hc, hll⟩ := hb
      have zr := ofVals_rel g _ hzl
      obtain ⟨zs', hfl, hrel⟩ := evPL_rel he parts.toList hp hl zr
      have hlz := L.rel_length hrel
      rw [← hll] at hr
      obtain ⟨p, g', hle, hg', rfl, m', f'⟩ := newB_sound (lim := lim) hr m hd hf hn ⟨zs'⟩ (by show l.length ≤ _; simp [hlz]) (by show l.length ≤ _; unfold maxSize; omega) (fun j hj => cell_list hrel hc el j hj)
      have hll2 : len ≤ len * i.size := Nat.le_mul_of_pos_right _ h0
      refine ⟨.value (.slice (some ⟨w.heap.size, 0, none⟩) len len), g', _, ?_, ⟨_, _, _, len, 0, hg', rfl, h0, Nat.le_refl _, by unfold maxLen; omega, fun _ => by simp, by simp [hlz, hll], rfl⟩, m', f'⟩
      have hflt : Instr.fill (fun j => some (j * i.size, i.size)) ((Array.range (len * i.size)).map (zv.cells[· % zv.cells.size]!)) (parts.map fun (j, x) => (j, ρ x)).toList = some ⟨zs'⟩ := by
        have e1 : (parts.map fun (j, x) => (j, ρ x)).toList = parts.toList.map fun (j, x) => (j, ρ x) := by simp
        rw [e1]; exact hfl
      have hne : len * i.size = 0 → Array.map (fun x => zv.cells[x % zv.cells.size]!) (Array.range (len * i.size)) = #[] := by intro e; rw [e]; simp
      have h24 : ¬ (len * i.size > 2 ^ 24) := by omega
      by_cases hzero : len * i.size = 0
      · simp only [execOp, ho, Instr.buildSlice, Sem.run_bind, Sem.run_pure, run_underlying ht, sizeOf, typeInfo, run_program, hi, Result.andThen_ok, h24, if_false]
        rw [if_pos hzero]
        simp only [Sem.run_bind, Sem.run_pure, Result.andThen_ok]
        have e1 : (Array.map (fun x => (#[] : Array Value)[x % (#[] : Array Value).size]!) (Array.range (len * i.size))) = Array.map (fun x => zv.cells[x % zv.cells.size]!) (Array.range (len * i.size)) := by rw [hne hzero, hzero]; simp
        rw [e1, hflt]
        simp [newRow]
      · simp only [execOp, ho, Instr.buildSlice, Sem.run_bind, Sem.run_pure, run_underlying ht, sizeOf, typeInfo, run_program, hi, Result.andThen_ok, h24, if_false]
        rw [if_neg hzero]
        simp only [Sem.run_bind, zeroValue, typeInfo, run_program, hi, hz, Sem.run_pure, Result.andThen_ok]
        rw [hflt]
        rfl

/-! A slice made. -/
noncomputable def evMks (el esz by_ zl : Nat) (z : L) (xl xc : X) (e : Tr) (_ : Nat) (h : Hp) (n : Nat) : Res :=
  onI (evX xl e) (fun a => onI (evX xc e) (fun b => Bool.rec .no (fN (Nat.mul b esz) fun s => newB ⟨el, s, zl, z, .lf⟩ (fun p => .sl p 0 esz a (some b)) h n) (and (Nat.ble a b) (and (Nat.ble (Nat.mul b esz) 1099511627776) (Nat.ble (Nat.mul by_ b) 281474976710656)))) .no) .no
theorem ok_mks {t el : TypeId} {ol oc : Operand} {xl xc : X} {i : TypeInfo} {zv : Value} {z : L} {zl : Nat} (ht : P.underlying t = some (.slice el)) (hi : P.info? el = some i) (hz : i.zero = some zv)
    (h0 : 0 < i.size) (hzl : ofVals zv.cells.toList = some z) (hC : z.allC = true) (hl : zl = z.length) (hsz : zl = i.size) (hxl : compX ol = some xl) (hxc : compX oc = some xc) (ho : o.op = .makeSlice t ol oc) :
    OpOK P o (evMks el i.size i.bytes zl z xl xc) := by
  subst hl
  intro e lim h n v h' n' hr ρ g w he m hd hf hn
  have rl := he ol xl hxl
  have rc := he oc xc hxc
  unfold evMks at hr
  rcases onI_or rl (fun a => onI (evX xc e) (fun b => (Bool.rec .no (fN (Nat.mul b i.size) fun s => newB ⟨el, s, z.length, z, .lf⟩ (fun p => .sl p 0 i.size a (some b)) h n) (and (Nat.ble a b) (and (Nat.ble (Nat.mul b i.size) 1099511627776) (Nat.ble (Nat.mul i.bytes b) 281474976710656))) : Res)) .no) .no with ⟨a, ka, h1, h2⟩ | h2
  · rw [h2] at hr
    rcases onI_or rc (fun b => (Bool.rec .no (fN (Nat.mul b i.size) fun s => newB ⟨el, s, z.length, z, .lf⟩ (fun p => .sl p 0 i.size a (some b)) h n) (and (Nat.ble a b) (and (Nat.ble (Nat.mul b i.size) 1099511627776) (Nat.ble (Nat.mul i.bytes b) 281474976710656))) : Res)) .no with ⟨b, kb, h3, h4⟩ | h4
    · rw [h4] at hr
      cases hb : and (Nat.ble a b) (and (Nat.ble (Nat.mul b i.size) 1099511627776) (Nat.ble (Nat.mul i.bytes b) 281474976710656))
      · rw [hb] at hr; cases hr
      · rw [hb] at hr
        simp only [Bool.and_eq_true, Nat.ble_eq] at hb
        obtain ⟨b1, b2, b3⟩ := hb
        have hr : fN (Nat.mul b i.size) (fun s => newB ⟨el, s, z.length, z, .lf⟩ (fun p => .sl p 0 i.size a (some b)) h n) = .ok v h' n' := hr
        rw [fN_eq] at hr
        have zr : z.rel g zv.cells.toList := ofVals_rel g _ hzl
        have hzz : zv.cells.size = z.length := by have := L.rel_length zr; simpa using this
        have hbs : b ≤ b * i.size := Nat.le_mul_of_pos_right _ h0
        have b2' : b * i.size ≤ 1099511627776 := b2
        have b3' : i.bytes * b ≤ 281474976710656 := b3
        obtain ⟨p, g', hle, hg', rfl, m', f'⟩ := newB_sound (lim := lim) hr m hd hf hn (madeCells zv.cells (b * i.size)) (by rw [size_madeCells]; exact Nat.le_refl _) b2 (fun j hj => by
          have hj : j < b * i.size := hj
          have hlt : j % z.length < z.length := Nat.mod_lt _ (by omega)
          obtain ⟨u, c1, c2, c3⟩ := cell_list zr hC el (j % z.length) hlt
          refine ⟨u, ?_, c2, ?_⟩
          · simp only [madeCells, Array.getElem?_map, Array.getElem?_range, hj, if_true, Option.map_some, hzz]
            rw [← c1]
            have : (⟨zv.cells.toList⟩ : Array Value) = zv.cells := rfl
            rw [this, Array.getElem?_eq_getElem (by omega), getElem!_pos zv.cells _ (by omega)]
          · have e1 : (⟨el, b * i.size, z.length, z, .lf⟩ : Blk).cell j = (⟨el, z.length, z.length, z, .lf⟩ : Blk).cell (j % z.length) := by
              rw [cell_lf, cell_lf]; show orZ .bad (nthL (j % z.length) z) = orZ .bad (nthL (j % z.length % z.length) z)
              rw [Nat.mod_mod]
            rw [← e1] at c3; exact c3)
        refine ⟨.value (.slice (some ⟨w.heap.size, 0, none⟩) a b), g', _, ?_, ⟨_, _, _, b, 0, hg', rfl, h0, b1, by unfold maxLen; omega, fun _ => by simp, by rw [size_madeCells]; simp, rfl⟩, m', f'⟩
        have hrun := run_make (P := P) w t el i zv ht hi hz ka kb a b (by omega) (by omega) (by rw [← Int.natCast_mul]; omega) (by omega)
        simp only [Int.toNat_natCast] at hrun
        simp only [execOp, ho, h1, h3, Sem.run_bind, hrun, Result.andThen_ok, Sem.run_pure]
    · rw [h4] at hr; cases hr
  · rw [h2] at hr; cases hr

/-! A slice of a slice, or of an array. -/
noncomputable def onO (xo : Option X) (e : Tr) (d : Nat) (k : Nat → V) : V := Option.rec (k d) (fun x => onN (evX x e) k .bad) xo
def compXO : Option Operand → Option (Option X)
  | none => some none
  | some o => (compX o).map some
def natV (k : Nat) : Value := .int .i64 (k : Int)
theorem onO_or {g : Sig} {e : Tr} {ρ : Operand → Value} (he : EnvOK g e ρ) {oo : Option Operand} {xo : Option X} (hx : compXO oo = some xo) (d : Nat) (k : Nat → V) :
    (∃ a, oo.map ρ = (oo.map fun _ => natV a) ∧ (oo = none → a = d) ∧ onO xo e d k = k a) ∨ onO xo e d k = .bad := by
  cases oo with
  | none =>
    simp [compXO] at hx
    subst hx
    exact .inl ⟨d, rfl, fun _ => rfl, rfl⟩
  | some o =>
    simp only [compXO, Option.map_eq_some_iff] at hx
    obtain ⟨x, h1, rfl⟩ := hx
    have rx := he o x h1
    rcases onN_or (evX x e) k .bad with ⟨a, h2, h3⟩ | h3
    · rw [h2, V.rel] at rx
      exact .inl ⟨a, by simp [natV, rx.1], by simp, h3⟩
    · exact .inr h3

theorem run_bounds (w : World) (isSlice : Bool) (len cap : Nat) (ol oh om : Option Operand) (l h m : Nat) (hl : ol = none → l = 0) (hh : oh = none → h = len) (hm : om = none → m = cap)
    (hoh : om.isSome = true → oh.isSome = true) (c1 : l ≤ h) (c2 : h ≤ m) (c3 : m ≤ cap) :
    (Instr.sliceBounds isSlice len cap (ol.map fun _ => natV l) (oh.map fun _ => natV h) (om.map fun _ => natV m)).run P w = .ok (l, h, m) w := by
  have s1 : ∀ (k y : Nat) (c : BoundsCode), k ≤ y → (Instr.sliceBound (natV k) y c).run P w = .ok k w := by
    intro k y c hk
    have := run_sliceBound (P := P) w .i64 k y c (by omega) (by omega)
    simpa [natV] using this
  cases om with
  | none =>
    have := hm rfl
    subst this
    cases oh with
    | none =>
      have := hh rfl
      subst this
      cases ol with
      | none => have := hl rfl; subst this; simp [Instr.sliceBounds]
      | some _ => simp [Instr.sliceBounds, s1 l h _ c1]
    | some _ =>
      cases ol with
      | none => have := hl rfl; subst this; simp [Instr.sliceBounds, s1 h m _ c2]
      | some _ => simp [Instr.sliceBounds, s1 h m _ c2, s1 l h _ c1]
  | some _ =>
    cases oh with
    | none => simp at hoh
    | some _ =>
      cases ol with
      | none => have := hl rfl; subst this; simp [Instr.sliceBounds, s1 m cap _ c3, s1 h m _ c2]
      | some _ => simp [Instr.sliceBounds, s1 m cap _ c3, s1 h m _ c2, s1 l h _ c1]

/-- A slice out of one: of the length, and of the room if that is known. -/
noncomputable def slcV (esz : Nat) (xl xh xm : Option X) (e : Tr) (a : Pos) (off e' len : Nat) (cap : Option Nat) : V :=
  Bool.rec .bad (onO xl e 0 fun l => onO xh e len fun h => Option.rec
    (Option.rec (Bool.rec .bad (fN (Nat.add off (Nat.mul l esz)) fun o' => fN (Nat.sub h l) fun k => .sl a o' esz k none) (and (Nat.ble l h) (Nat.ble h len)))
      (fun x => onN (evX x e) (fun m => Bool.rec .bad (fN (Nat.add off (Nat.mul l esz)) fun o' => fN (Nat.sub h l) fun k => fN (Nat.sub m l) fun c => .sl a o' esz k (some c)) (and (Nat.ble l h) (and (Nat.ble h m) (Nat.ble m len)))) .bad) xm)
    (fun c0 => onO xm e c0 fun m => Bool.rec .bad (fN (Nat.add off (Nat.mul l esz)) fun o' => fN (Nat.sub h l) fun k => fN (Nat.sub m l) fun c => .sl a o' esz k (some c)) (and (Nat.ble l h) (and (Nat.ble h m) (Nat.ble m c0)))) cap) (Nat.beq e' esz)
noncomputable def evSlc (esz : Nat) (x : X) (xl xh xm : Option X) (e : Tr) (_ : Nat) (h : Hp) (n : Nat) : Res :=
  pv (onS (evX x e) (slcV esz xl xh xm e) (onO xl e 0 fun l => onO xh e 0 fun h => onO xm e 0 fun m => Bool.rec .bad .ns (Nat.beq (Nat.add l (Nat.add h m)) 0)) .bad) h n

theorem sl_rel {g : Sig} {a : Pos} {r base tot : Nat} (hg : g a = some (r, base, tot)) {off esz l k c o' : Nat} {cap : Option Nat} (c0 : Nat) (he : 0 < esz) (h1 : k ≤ c) (h2 : c ≤ c0) (h3 : l + c ≤ c0) (hm : c0 ≤ maxLen) (ho : 0 < c0 → o' = base + off)
    (ht : base + off + c0 * esz ≤ tot) (hc : match cap with | some c' => c = c' | none => l + c = c0 ∧ base + off + c0 * esz = tot) :
    (V.sl a (off + l * esz) esz k cap).rel g (.slice ((if l + c = l then some (⟨r, o', none⟩ : Addr) else some ⟨r, o' + l * esz, none⟩)) k c) := by
  have e1 : (l + c) * esz ≤ c0 * esz := Nat.mul_le_mul_right _ h3
  rw [Nat.add_mul] at e1
  rw [V.rel]
  by_cases hz : c = 0
  · subst hz
    refine ⟨r, base, tot, 0, o', hg, by simp, he, h1, Nat.zero_le _, fun h => by omega, by omega, ?_⟩
    cases cap with
    | some c' => exact hc
    | none =>
      obtain ⟨q1, q2⟩ := hc
      show base + (off + l * esz) + 0 * esz = tot
      have : l = c0 := by omega
      subst this
      omega
  · refine ⟨r, base, tot, c, o' + l * esz, hg, by rw [if_neg (by omega)], he, h1, by omega, fun _ => by have := ho (by omega); omega, by omega, ?_⟩
    cases cap with
    | some c' => exact hc
    | none =>
      obtain ⟨q1, q2⟩ := hc
      show base + (off + l * esz) + c * esz = tot
      subst q1
      rw [Nat.add_mul] at q2
      omega

theorem ok_slc {t el : TypeId} {i : TypeInfo} {ox : Operand} {x : X} {ol oh om : Option Operand} {xl xh xm : Option X} (hx : compX ox = some x) (hxl : compXO ol = some xl) (hxh : compXO oh = some xh) (hxm : compXO om = some xm)
    (hoh : om.isSome = true → oh.isSome = true) (ht : P.underlying t = some (.slice el)) (hi : P.info? el = some i) (ho : o.op = .slice t ox ol oh om) : OpOK P o (evSlc i.size x xl xh xm) :=
  ok_pure (val := fun e => onS (evX x e) (slcV i.size xl xh xm e) (onO xl e 0 fun l => onO xh e 0 fun h => onO xm e 0 fun m => Bool.rec .bad .ns (Nat.beq (Nat.add l (Nat.add h m)) 0)) .bad) fun e g ρ w he hne => by
    have rx := he ox x hx
    have key : ∀ (b : Option Addr) (len cap l h m : Nat), ρ ox = .slice b len cap → ol.map ρ = (ol.map fun _ => natV l) → oh.map ρ = (oh.map fun _ => natV h) → om.map ρ = (om.map fun _ => natV m) →
        (ol = none → l = 0) → (oh = none → h = len) → (om = none → m = cap) → l ≤ h → h ≤ m → m ≤ cap →
        (execOp ρ o).run P w = .ok (.value (.slice (if m = l then b else b.map (·.add (l * i.size))) (h - l) (m - l))) w := by
      intro b len cap l h m hv e1 e2 e3 n1 n2 n3 c1 c2 c3
      have hb := run_bounds (P := P) w true len cap ol oh om l h m n1 n2 n3 hoh c1 c2 c3
      simp only [execOp, ho, hv, Instr.sliceAt, Sem.run_bind, run_underlying ht, Result.andThen_ok, Instr.slice, e1, e2, e3, hb, sizeOf, typeInfo, run_program, hi, Sem.run_pure]
    rcases onS_or (evX x e) (slcV i.size xl xh xm e) (onO xl e 0 fun l => onO xh e 0 fun h => onO xm e 0 fun m => Bool.rec .bad .ns (Nat.beq (Nat.add l (Nat.add h m)) 0)) .bad with ⟨a, off, e', len, cap, h1, h2⟩ | ⟨h1, h2⟩ | h2
    · rw [h2] at hne ⊢
      rw [h1, V.rel] at rx
      obtain ⟨r, base, tot, c0, o', hg, hv, hesz, hlc, hcm, ho', hbt, hcap⟩ := rx
      unfold slcV at hne ⊢
      cases hz : Nat.beq e' i.size
      · rw [hz] at hne; exact absurd rfl hne
      · rw [hz] at hne
        rw [Nat.beq_eq] at hz
        subst hz
        dsimp only at hne ⊢
        rcases onO_or he hxl 0 (fun l => onO xh e len fun h => (Option.rec
            (Option.rec (Bool.rec .bad (fN (Nat.add off (Nat.mul l i.size)) fun o' => fN (Nat.sub h l) fun k => .sl a o' i.size k none) (and (Nat.ble l h) (Nat.ble h len)))
              (fun x => onN (evX x e) (fun m => Bool.rec .bad (fN (Nat.add off (Nat.mul l i.size)) fun o' => fN (Nat.sub h l) fun k => fN (Nat.sub m l) fun c => .sl a o' i.size k (some c)) (and (Nat.ble l h) (and (Nat.ble h m) (Nat.ble m len)))) .bad) xm)
            (fun c0 => onO xm e c0 fun m => Bool.rec .bad (fN (Nat.add off (Nat.mul l i.size)) fun o' => fN (Nat.sub h l) fun k => fN (Nat.sub m l) fun c => .sl a o' i.size k (some c)) (and (Nat.ble l h) (and (Nat.ble h m) (Nat.ble m c0)))) cap : V)) with ⟨l, l1, l2, l3⟩ | l3
        · rw [l3] at hne ⊢
          rcases onO_or he hxh len (fun h => (Option.rec
            (Option.rec (Bool.rec .bad (fN (Nat.add off (Nat.mul l i.size)) fun o' => fN (Nat.sub h l) fun k => .sl a o' i.size k none) (and (Nat.ble l h) (Nat.ble h len)))
              (fun x => onN (evX x e) (fun m => Bool.rec .bad (fN (Nat.add off (Nat.mul l i.size)) fun o' => fN (Nat.sub h l) fun k => fN (Nat.sub m l) fun c => .sl a o' i.size k (some c)) (and (Nat.ble l h) (and (Nat.ble h m) (Nat.ble m len)))) .bad) xm)
            (fun c0 => onO xm e c0 fun m => Bool.rec .bad (fN (Nat.add off (Nat.mul l i.size)) fun o' => fN (Nat.sub h l) fun k => fN (Nat.sub m l) fun c => .sl a o' i.size k (some c)) (and (Nat.ble l h) (and (Nat.ble h m) (Nat.ble m c0)))) cap : V)) with ⟨h, h3, h4, h5⟩ | h5
          · rw [h5] at hne ⊢
            cases cap with
            | some c' =>
              have hcap : c0 = c' := hcap
              subst hcap
              have hne : onO xm e c0 (fun m => (Bool.rec .bad (fN (Nat.add off (Nat.mul l i.size)) fun o' => fN (Nat.sub h l) fun k => fN (Nat.sub m l) fun c => .sl a o' i.size k (some c)) (and (Nat.ble l h) (and (Nat.ble h m) (Nat.ble m c0))) : V)) ≠ .bad := hne
              show ∃ u, _ ∧ V.rel g (onO xm e c0 (fun m => (Bool.rec .bad (fN (Nat.add off (Nat.mul l i.size)) fun o' => fN (Nat.sub h l) fun k => fN (Nat.sub m l) fun c => .sl a o' i.size k (some c)) (and (Nat.ble l h) (and (Nat.ble h m) (Nat.ble m c0))) : V))) u
              rcases onO_or he hxm c0 (fun m => (Bool.rec .bad (fN (Nat.add off (Nat.mul l i.size)) fun o' => fN (Nat.sub h l) fun k => fN (Nat.sub m l) fun c => .sl a o' i.size k (some c)) (and (Nat.ble l h) (and (Nat.ble h m) (Nat.ble m c0))) : V)) with ⟨m, m1, m2, m3⟩ | m3
              · rw [m3] at hne ⊢
                cases hb : and (Nat.ble l h) (and (Nat.ble h m) (Nat.ble m c0))
                · rw [hb] at hne; exact absurd rfl hne
                · simp only [Bool.and_eq_true, Nat.ble_eq] at hb
                  obtain ⟨b1, b2, b3⟩ := hb
                  refine ⟨_, key _ len c0 l h m hv l1 h3 m1 l2 h4 m2 b1 b2 b3, ?_⟩
                  show V.rel g (fN (off + l * i.size) fun o' => fN (h - l) fun k => fN (m - l) fun c => .sl a o' i.size k (some c)) _
                  rw [fN_eq, fN_eq, fN_eq]
                  have := sl_rel (cap := some (m - l)) hg c0 (off := off) (l := l) (k := h - l) (c := m - l) (o' := o') hesz (by omega) (by omega) (by omega) hcm ho' hbt rfl
                  rw [show l + (m - l) = m by omega] at this
                  simpa [Addr.add_lit] using this
              · rw [m3] at hne; exact absurd rfl hne
            | none =>
              have hcap : base + off + c0 * i.size = tot := hcap
              cases xm with
              | none =>
                have hom : om = none := by cases om <;> simp_all [compXO]
                have hne : (Bool.rec .bad (fN (Nat.add off (Nat.mul l i.size)) fun o' => fN (Nat.sub h l) fun k => .sl a o' i.size k none) (and (Nat.ble l h) (Nat.ble h len)) : V) ≠ .bad := hne
                show ∃ u, _ ∧ V.rel g (Bool.rec .bad (fN (Nat.add off (Nat.mul l i.size)) fun o' => fN (Nat.sub h l) fun k => .sl a o' i.size k none) (and (Nat.ble l h) (Nat.ble h len)) : V) u
                cases hb : and (Nat.ble l h) (Nat.ble h len)
                · rw [hb] at hne; exact absurd rfl hne
                · simp only [Bool.and_eq_true, Nat.ble_eq] at hb
                  obtain ⟨b1, b2⟩ := hb
                  refine ⟨_, key _ len c0 l h c0 hv l1 h3 (by rw [hom]; rfl) l2 h4 (fun _ => rfl) b1 (by omega) (Nat.le_refl _), ?_⟩
                  show V.rel g (fN (off + l * i.size) fun o' => fN (h - l) fun k => .sl a o' i.size k none) _
                  rw [fN_eq, fN_eq]
                  have := sl_rel (cap := none) hg c0 (off := off) (l := l) (k := h - l) (c := c0 - l) (o' := o') hesz (by omega) (by omega) (by omega) hcm ho' hbt ⟨by omega, hcap⟩
                  rw [show l + (c0 - l) = c0 by omega] at this
                  simpa [Addr.add_lit] using this
              | some x' =>
                have hne : onN (evX x' e) (fun m => (Bool.rec .bad (fN (Nat.add off (Nat.mul l i.size)) fun o' => fN (Nat.sub h l) fun k => fN (Nat.sub m l) fun c => .sl a o' i.size k (some c)) (and (Nat.ble l h) (and (Nat.ble h m) (Nat.ble m len))) : V)) .bad ≠ .bad := hne
                show ∃ u, _ ∧ V.rel g (onN (evX x' e) (fun m => (Bool.rec .bad (fN (Nat.add off (Nat.mul l i.size)) fun o' => fN (Nat.sub h l) fun k => fN (Nat.sub m l) fun c => .sl a o' i.size k (some c)) (and (Nat.ble l h) (and (Nat.ble h m) (Nat.ble m len))) : V)) .bad) u
                have := onO_or he hxm 0 (fun m => (Bool.rec .bad (fN (Nat.add off (Nat.mul l i.size)) fun o' => fN (Nat.sub h l) fun k => fN (Nat.sub m l) fun c => .sl a o' i.size k (some c)) (and (Nat.ble l h) (and (Nat.ble h m) (Nat.ble m len))) : V))
                rcases this with ⟨m, m1, m2, m3⟩ | m3
                · have m3 : onN (evX x' e) (fun m => (Bool.rec .bad (fN (Nat.add off (Nat.mul l i.size)) fun o' => fN (Nat.sub h l) fun k => fN (Nat.sub m l) fun c => .sl a o' i.size k (some c)) (and (Nat.ble l h) (and (Nat.ble h m) (Nat.ble m len))) : V)) .bad = _ := m3
                  rw [m3] at hne ⊢
                  cases hb : and (Nat.ble l h) (and (Nat.ble h m) (Nat.ble m len))
                  · rw [hb] at hne; exact absurd rfl hne
                  · simp only [Bool.and_eq_true, Nat.ble_eq] at hb
                    obtain ⟨b1, b2, b3⟩ := hb
                    have hom : om ≠ none := by intro e; subst e; simp [compXO] at hxm
                    refine ⟨_, key _ len c0 l h m hv l1 h3 m1 l2 h4 (fun e => absurd e hom) b1 b2 (by omega), ?_⟩
                    show V.rel g (fN (off + l * i.size) fun o' => fN (h - l) fun k => fN (m - l) fun c => .sl a o' i.size k (some c)) _
                    rw [fN_eq, fN_eq, fN_eq]
                    have := sl_rel (cap := some (m - l)) hg c0 (off := off) (l := l) (k := h - l) (c := m - l) (o' := o') hesz (by omega) (by omega) (by omega) hcm ho' hbt rfl
                    rw [show l + (m - l) = m by omega] at this
                    simpa [Addr.add_lit] using this
                · have m3 : onN (evX x' e) (fun m => (Bool.rec .bad (fN (Nat.add off (Nat.mul l i.size)) fun o' => fN (Nat.sub h l) fun k => fN (Nat.sub m l) fun c => .sl a o' i.size k (some c)) (and (Nat.ble l h) (and (Nat.ble h m) (Nat.ble m len))) : V)) .bad = _ := m3
                  rw [m3] at hne; exact absurd rfl hne
          · rw [h5] at hne; exact absurd rfl hne
        · rw [l3] at hne; exact absurd rfl hne
    · rw [h2] at hne ⊢
      rw [h1, V.rel] at rx
      rcases onO_or he hxl 0 (fun l => onO xh e 0 fun h => onO xm e 0 fun m => (Bool.rec .bad .ns (Nat.beq (Nat.add l (Nat.add h m)) 0) : V)) with ⟨l, l1, l2, l3⟩ | l3
      · rw [l3] at hne ⊢
        rcases onO_or he hxh 0 (fun h => onO xm e 0 fun m => (Bool.rec .bad .ns (Nat.beq (Nat.add l (Nat.add h m)) 0) : V)) with ⟨h, h3, h4, h5⟩ | h5
        · rw [h5] at hne ⊢
          rcases onO_or he hxm 0 (fun m => (Bool.rec .bad .ns (Nat.beq (Nat.add l (Nat.add h m)) 0) : V)) with ⟨m, m1, m2, m3⟩ | m3
          · rw [m3] at hne ⊢
            cases hb : Nat.beq (Nat.add l (Nat.add h m)) 0
            · rw [hb] at hne; exact absurd rfl hne
            · have hb' : l + (h + m) = 0 := by simpa [Nat.beq_eq] using hb
              refine ⟨_, key _ 0 0 l h m rx l1 h3 m1 l2 h4 m2 (by omega) (by omega) (by omega), ?_⟩
              have e1 : l = 0 := by omega
              have e2 : h = 0 := by omega
              have e3 : m = 0 := by omega
              subst e1 e2 e3
              rfl
          · rw [m3] at hne; exact absurd rfl hne
        · rw [h5] at hne; exact absurd rfl hne
      · rw [l3] at hne; exact absurd rfl hne
    · rw [h2] at hne; exact absurd rfl hne
end
end Go.Proofs.Ytjhgingmbklhaaa.Ev
