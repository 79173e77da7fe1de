/- The evaluator's operations on memory, and that the model answers so. -/
import Derived.Test.YtjhgingmbklhaaaEvD
import Derived.Laws.MakeOwn
namespace Go.Proofs.Ytjhgingmbklhaaa.Ev
set_option linter.unusedVariables false
open Go

/-! Lists of cells. -/
def V.toL : V → L
  | .ag l => l
  | v => .cons v .nil
theorem toL_rel {g : Sig} {v : V} {u : Value} (hr : v.rel g u) (hc : v.toL.allC = true) : v.toL.rel g u.cells.toList := by
  cases v with
  | ag l => rw [V.rel] at hr; obtain ⟨vs, rfl, hv⟩ := hr; exact hv
  | _ =>
    have h1 := hc
    simp [V.toL, L.allC] at h1
    have ho := (V.isC_one h1 hr).1
    have : u.cells = #[u] := by cases u <;> first | rfl | (simp [Value.oneCell'] at ho)
    rw [this]; exact ⟨u, [], rfl, hr, rfl⟩

def L.upd : L → Nat → V → L
  | .nil, _, _ => .nil
  | .cons _ l, 0, x => .cons x l
  | .cons v l, k + 1, x => .cons v (l.upd k x)
theorem upd_rel {g : Sig} {x : V} {u : Value} (hx : x.rel g u) : ∀ {l : L} {vs : List Value} (k : Nat), l.rel g vs → (l.upd k x).rel g (vs.set k u)
  | .nil, _, k, e => by rw [L.rel] at e; subst e; rfl
  | .cons v l, _, 0, e => by rw [L.rel] at e; obtain ⟨a, as, rfl, h1, h2⟩ := e; exact ⟨u, as, rfl, hx, h2⟩
  | .cons v l, _, k + 1, e => by rw [L.rel] at e; obtain ⟨a, as, rfl, h1, h2⟩ := e; exact ⟨a, _, rfl, h1, upd_rel hx k h2⟩
def L.updS (z : L) (k : Nat) : L → L
  | .nil => z
  | .cons x m => (z.upd k x).updS (k + 1) m
theorem updS_rel {g : Sig} : ∀ {m z : L} {us zs : List Value} (k j : Nat), m.rel g us → z.rel g zs →
    (z.updS (k + j) m).rel g (((us.zipIdx j).foldl (fun cs (c, i) => cs.setIfInBounds (k + i) c) (⟨zs⟩ : Array Value)).toList) ∧ (((us.zipIdx j).foldl (fun cs (c, i) => cs.setIfInBounds (k + i) c) (⟨zs⟩ : Array Value))).size = zs.length
  | .nil, z, _, zs, k, j, e, f => by rw [L.rel] at e; subst e; exact ⟨f, rfl⟩
  | .cons x m, z, _, zs, k, j, e, f => by
    rw [L.rel] at e
    obtain ⟨u, us, rfl, h1, h2⟩ := e
    have := updS_rel (m := m) (z := z.upd (k + j) x) (zs := zs.set (k + j) u) k (j + 1) h2 (upd_rel h1 (k + j) f)
    simp only [List.zipIdx_cons, List.foldl_cons, L.updS]
    have e2 : (⟨zs⟩ : Array Value).setIfInBounds (k + j) u = ⟨zs.set (k + j) u⟩ := by simp
    rw [e2]
    refine ⟨this.1, by rw [this.2]; simp⟩

def L.take : L → Nat → L
  | _, 0 => .nil
  | .nil, _ + 1 => .nil
  | .cons v l, k + 1 => .cons v (l.take k)
def L.drop : L → Nat → L
  | l, 0 => l
  | .nil, _ + 1 => .nil
  | .cons _ l, k + 1 => l.drop k
theorem take_rel {g : Sig} : ∀ {l : L} {vs : List Value} (k : Nat), l.rel g vs → (l.take k).rel g (vs.take k)
  | .nil, _, 0, e => by rw [L.rel] at e; subst e; rfl
  | .nil, _, k + 1, e => by rw [L.rel] at e; subst e; rfl
  | .cons v l, _, 0, e => by rw [L.rel] at e; obtain ⟨a, as, rfl, h1, h2⟩ := e; rfl
  | .cons v l, _, k + 1, e => by rw [L.rel] at e; obtain ⟨a, as, rfl, h1, h2⟩ := e; exact ⟨a, _, rfl, h1, take_rel k h2⟩
theorem drop_rel {g : Sig} : ∀ {l : L} {vs : List Value} (k : Nat), l.rel g vs → (l.drop k).rel g (vs.drop k)
  | .nil, _, 0, e => by rw [L.rel] at e; subst e; rfl
  | .nil, _, k + 1, e => by rw [L.rel] at e; subst e; rfl
  | .cons v l, _, 0, e => by simpa [L.drop] using e
  | .cons v l, _, k + 1, e => by rw [L.rel] at e; obtain ⟨a, as, rfl, h1, h2⟩ := e; exact drop_rel k h2

/-! Parts put into a composite. -/
def compPL (place : Nat → Option (Nat × Nat)) : List (Nat × Operand) → Option PL
  | [] => some .nil
  | (i, o) :: l => match place i, compX o, compPL place l with
    | some (off, sz), some x, some m => some (.cons off sz x m)
    | _, _, _ => none
noncomputable def evPL (e : Tr) : PL → L → Option L
  | .nil, z => some z
  | .cons off sz x l, z =>
    let m := (evX x e).toL
    if m.length = sz ∧ m.allC = true ∧ off + sz ≤ z.length then evPL e l (z.updS off m) else none
theorem evPL_rel {g : Sig} {e : Tr} {ρ : Operand → Value} (he : EnvOK g e ρ) {place : Nat → Option (Nat × Nat)} : ∀ (l : List (Nat × Operand)) {pl : PL} {z z' : L} {zs : List Value},
    compPL place l = some pl → evPL e pl z = some z' → z.rel g zs → ∃ zs', Instr.fill place ⟨zs⟩ (l.map fun (i, x) => (i, ρ x)) = some ⟨zs'⟩ ∧ z'.rel g zs'
  | [], pl, z, z', zs, h, h', hz => by
    simp [compPL] at h; subst h
    simp [evPL] at h'; subst h'
    exact ⟨zs, rfl, hz⟩
  | (i, o) :: l, pl, z, z', zs, h, h', hz => by
    rw [compPL] at h
    split at h
    · rename_i off sz x m h1 h2 h3
      cases h
      rw [evPL] at h'
      split at h'
      · rename_i hc
        obtain ⟨hc1, hc2, hc3⟩ := hc
        have rx := toL_rel (he o x h2) hc2
        have hlen : ((ρ o).cells).size = sz := by rw [← hc1, ← L.rel_length rx]; simp
        have hzl : zs.length = z.length := L.rel_length hz
        have up := updS_rel (k := off) 0 rx hz
        simp only [Nat.add_zero] at up
        obtain ⟨zs', hf, hr⟩ := evPL_rel he l (z := z.updS off (evX x e).toL) (z' := z') (zs := (((ρ o).cells.toList.zipIdx 0).foldl (fun cs (c, i) => cs.setIfInBounds (off + i) c) (⟨zs⟩ : Array Value)).toList) h3 h' up.1
        refine ⟨zs', ?_, hr⟩
        simp only [List.map_cons, Instr.fill, h1]
        rw [if_neg]
        · rw [← hf]
          congr 1
          rw [← Array.foldl_toList, Array.toList_zipIdx]
        · have : ((⟨zs⟩ : Array Value)).size = z.length := by simp [hzl]
          simp [hlen, hzl]; omega
      · cases h'
    · cases h

section
variable {P : Program} {o : Oper}

noncomputable def okL (z : Option L) (h : Hp) (n : Nat) : Res := match z with | some l => .ok (.ag l) h n | none => .no
noncomputable def evBuild (z : L) (ps : PL) (e : Tr) (_ : Nat) (h : Hp) (n : Nat) : Res := okL (evPL e ps z) h n

theorem run_mapM {α β : Type} (P : Program) (w : World) (f : α → Sem β) (k : α → β) : ∀ (l : List α), (∀ a ∈ l, (f a).run P w = .ok (k a) w) → (l.mapM f).run P w = .ok (l.map k) w
  | [], _ => by simp
  | a :: l, h => by
    have h1 := h a (by simp)
    have h2 := run_mapM P w f k l (fun b hb => h b (by simp [hb]))
    simp [List.mapM_cons, h1, h2]

theorem ok_build_struct {t : TypeId} {parts : Array (Nat × Operand)} {fs : Array Field} {ps : PL} {i : TypeInfo} {zv : Value} {z : L} (ht : P.underlying t = some (.struct fs)) (hi : P.info? t = some i) (hz : i.zero = some zv)
    (hzl : ofVals zv.cells.toList = some z) (hfs : fs.all (fun f => (P.info? f.type).isSome) = true)
    (hp : compPL (fun j => (fs[j]?).map fun f => (f.offset, ((P.info? f.type).map (·.size)).getD 0)) parts.toList = some ps) (ho : o.op = .build t parts) : OpOK P o (evBuild z ps) := by
  intro e lim h n v h' n' hr ρ g w he m hd _ _
  unfold evBuild okL at hr
  split at hr
  · rename_i l hl
    cases hr
    have zr : z.rel g zv.cells.toList := ofVals_rel g _ hzl
    obtain ⟨zs', hf, hrel⟩ := evPL_rel he parts.toList hp hl zr
    refine ⟨.value (.agg ⟨zs'⟩), g, w, ?_, ⟨zs', rfl, hrel⟩, m, Fr.refl hd⟩
    have hm : (fs.mapM fun f => (do pure (f.offset, ← sizeOf f.type) : Sem (Nat × Nat))).run P w = .ok (fs.map fun f => (f.offset, ((P.info? f.type).map (·.size)).getD 0)) w := by
      rw [Array.mapM_eq_mapM_toList, Sem.run_map, run_mapM P w _ (fun f => (f.offset, ((P.info? f.type).map (·.size)).getD 0))]
      · refine congrArg (fun x => Result.ok x w) (Array.ext' ?_); simp
      · intro f hf
        rw [Array.all_eq_true'] at hfs
        have := hfs f (by simpa using hf)
        obtain ⟨inf, hinf⟩ := Option.isSome_iff_exists.mp this
        simp [sizeOf, typeInfo, hinf]
    have hfl : Instr.fill (fun j => (fs.map fun f => (f.offset, ((P.info? f.type).map (·.size)).getD 0))[j]?) zv.cells (parts.map fun (i, x) => (i, ρ x)).toList = some ⟨zs'⟩ := by
      rw [← hf]
      congr 1
      · funext j; simp
      · simp
    simp only [execOp, ho, Instr.build, Sem.run_bind, zeroValue, typeInfo, hi, hz, run_program, Result.andThen_ok, Sem.run_pure, run_underlying ht, hm]
    rw [hfl]
    rfl
  · cases hr

theorem ok_build_array {t el : TypeId} {len : Nat} {parts : Array (Nat × Operand)} {ps : PL} {i ie : TypeInfo} {zv : Value} {z : L} (ht : P.underlying t = some (.array len el)) (hi : P.info? t = some i) (hz : i.zero = some zv)
    (hzl : ofVals zv.cells.toList = some z) (hie : P.info? el = some ie)
    (hp : compPL (fun j => some (j * ie.size, ie.size)) parts.toList = some ps) (ho : o.op = .build t parts) : OpOK P o (evBuild z ps) := by
  intro e lim h n v h' n' hr ρ g w he m hd _ _
  unfold evBuild okL at hr
  split at hr
  · rename_i l hl
    cases hr
    have zr : z.rel g zv.cells.toList := ofVals_rel g _ hzl
    obtain ⟨zs', hf, hrel⟩ := evPL_rel he parts.toList hp hl zr
    refine ⟨.value (.agg ⟨zs'⟩), g, w, ?_, ⟨zs', rfl, hrel⟩, m, Fr.refl hd⟩
    have hfl : Instr.fill (fun j => some (j * ie.size, ie.size)) zv.cells (parts.map fun (i, x) => (i, ρ x)).toList = some ⟨zs'⟩ := by
      rw [← hf]
      congr 1
      simp
    simp only [execOp, ho, Instr.build, Sem.run_bind, zeroValue, sizeOf, typeInfo, hi, hz, hie, run_program, Result.andThen_ok, Sem.run_pure, run_underlying ht]
    rw [hfl]
    rfl
  · cases hr

/-! A part of a composite. -/
def P_isAgg (P : Program) (t : TypeId) : Option Bool :=
  match P.underlying t with
  | some (.struct _) | some (.array _ _) => some true
  | some _ => some false
  | none => none
theorem run_isAgg {t : TypeId} {b : Bool} (h : P_isAgg P t = some b) (w : World) : (isAgg t).run P w = .ok b w := by
  unfold P_isAgg at h
  split at h
  · rename_i hd; cases h; simp [isAgg, run_underlying hd]
  · rename_i hd; cases h; simp [isAgg, run_underlying hd]
  · rename_i d h1 h2 hd
    cases h
    cases d <;> first | exact (h1 _ rfl).elim | exact (h2 _ _ rfl).elim | simp [isAgg, run_underlying hd]
  · cases h
noncomputable def partV (off n : Nat) (agg : Bool) (l : L) : V := Bool.rec (nthL off l) (Bool.rec .bad (.ag ((l.drop off).take n)) (Nat.ble (off + n) l.length)) agg
theorem partV_run {g : Sig} {t : TypeId} {i : TypeInfo} {agg : Bool} (hi : P.info? t = some i) (ha : P_isAgg P t = some agg) {l : L} {vs : List Value} (hr : l.rel g vs) (off : Nat) (w : World) (hne : partV off i.size agg l ≠ .bad) :
    ∃ u, (part t ⟨vs⟩ off).run P w = .ok u w ∧ (partV off i.size agg l).rel g u := by
  cases agg
  · show ∃ u, _ ∧ V.rel g (nthL off l) u
    have hne : nthL off l ≠ .bad := hne
    rw [nthL_eq] at hne ⊢
    have hlt := L.get_lt hr hne
    refine ⟨vs.getD off undef, ?_, L.rel_get off hr⟩
    simp [part, run_isAgg ha, List.getElem?_eq_getElem hlt, List.getD]
  · have hne : (Bool.rec .bad (.ag ((l.drop off).take i.size)) (Nat.ble (off + i.size) l.length) : V) ≠ .bad := hne
    cases hb : Nat.ble (off + i.size) l.length
    · rw [hb] at hne; exact absurd rfl hne
    · refine ⟨.agg ⟨(vs.drop off).take i.size⟩, ?_, ?_⟩
      · simp [part, run_isAgg ha, sizeOf, typeInfo, hi, List.extract_eq_take_drop]
      · show V.rel g (Bool.rec .bad (.ag ((l.drop off).take i.size)) (Nat.ble (off + i.size) l.length)) _
        rw [hb]
        exact ⟨_, rfl, take_rel _ (drop_rel _ hr)⟩

noncomputable def evPart (off n : Nat) (agg : Bool) (x : X) (e : Tr) (_ : Nat) (h : Hp) (n' : Nat) : Res := pv (onA (evX x e) (fun l => partV off n agg l) .bad) h n'
theorem ok_part {t : TypeId} {f : Nat} {fs : Array Field} {fd : Field} {i : TypeInfo} {agg : Bool} {ox : Operand} {x : X} (hx : compX ox = some x) (ht : P.underlying t = some (.struct fs)) (hf : fs[f]? = some fd)
    (hi : P.info? fd.type = some i) (ha : P_isAgg P fd.type = some agg) (ho : o.op = .field t ox f) : OpOK P o (evPart fd.offset i.size agg x) :=
  ok_pure (val := fun e => onA (evX x e) (fun l => partV fd.offset i.size agg l) .bad) fun e g ρ w he hne => by
    have rx := he ox x hx
    rcases onA_or (evX x e) (fun l => partV fd.offset i.size agg l) .bad with ⟨l, h1, h2⟩ | h2
    · rw [h2] at hne ⊢
      rw [h1, V.rel] at rx
      obtain ⟨vs, hv, hr⟩ := rx
      obtain ⟨u, h3, h4⟩ := partV_run hi ha hr fd.offset w hne
      exact ⟨u, by simp [execOp, ho, hv, Instr.field, run_underlying ht, hf, asAgg, h3], h4⟩
    · rw [h2] at hne; exact absurd rfl hne

noncomputable def evIdx (len esz : Nat) (agg : Bool) (x i : X) (e : Tr) (_ : Nat) (h : Hp) (n' : Nat) : Res :=
  pv (onA (evX x e) (fun l => onI (evX i e) (fun j => Bool.rec .bad (partV (j * esz) esz agg l) (Nat.blt j len)) .bad) .bad) h n'
theorem ok_idx {t el : TypeId} {len : Nat} {inf : TypeInfo} {agg : Bool} {ox oi : Operand} {x i : X} (hx : compX ox = some x) (hi : compX oi = some i) (ht : P.underlying t = some (.array len el))
    (he' : P.info? el = some inf) (ha : P_isAgg P el = some agg) (ho : o.op = .index t ox oi) : OpOK P o (evIdx len inf.size agg x i) :=
  ok_pure (val := fun e => onA (evX x e) (fun l => onI (evX i e) (fun j => Bool.rec .bad (partV (j * inf.size) inf.size agg l) (Nat.blt j len)) .bad) .bad) fun e g ρ w he hne => by
    have rx := he ox x hx
    have ri := he oi i hi
    rcases onA_or (evX x e) (fun l => onI (evX i e) (fun j => (Bool.rec .bad (partV (j * inf.size) inf.size agg l) (Nat.blt j len) : V)) .bad) .bad with ⟨l, h1, h2⟩ | h2
    · rw [h2] at hne ⊢
      rcases onI_or ri (fun j => (Bool.rec .bad (partV (j * inf.size) inf.size agg l) (Nat.blt j len) : V)) .bad with ⟨j, kk, h3, h4⟩ | h4
      · rw [h4] at hne ⊢
        rw [h1, V.rel] at rx
        obtain ⟨vs, hv, hr⟩ := rx
        cases hb : Nat.blt j len
        · rw [hb] at hne; exact absurd rfl hne
        · rw [hb] at hne
          rw [Nat.blt_eq] at hb
          have hne : partV (j * inf.size) inf.size agg l ≠ .bad := hne
          obtain ⟨u, h5, h6⟩ := partV_run he' ha hr (j * inf.size) w hne
          refine ⟨u, ?_, h6⟩
          simp [execOp, ho, hv, h3, Instr.index, run_underlying ht, asIntOf, sizeOf, typeInfo, he', hb, h5]
      · rw [h4] at hne; exact absurd rfl hne
    · rw [h2] at hne; exact absurd rfl hne
end
end Go.Proofs.Ytjhgingmbklhaaa.Ev
