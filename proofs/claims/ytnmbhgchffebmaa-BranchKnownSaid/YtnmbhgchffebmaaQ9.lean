/- The texts EvBr, EvSs, TzJs, EvPc, EvPd, EvPe, EvPf, EvPl, TzJk. -/
import Derived.Test.YtnmbhgchffebmaaQ7
import Derived.Test.YtnmbhgchffebmaaQ8
import Derived.Shelf.Strings.OnBuilder
import Derived.Test.YtnmbhgchffebmaaQ6
/- Between the evaluator and the plain calculus: a call that holds in any world is a contract, and a run is a call that holds in any world. -/
namespace Go.Proofs.Ytnmbhgchffebmaa.Ev
set_option linter.unusedVariables false
open Go Go.Proofs Go.RowKit
/-- What a call does in any world, without touching what was there: a contract. -/
theorem callsB {P : Program} {f : Nat} {fn : Func} {c : Code} (hfn : P.funcs[f]? = some fn) (hnm : (fn.name == "runtime.NumGoroutine") = false) (hb : fn.body = some c) {args : L} {v : V} (hpv : v.pur = true)
    (hc : ∀ (vs : List Value) (g : Sig) (w : World), args.rel g vs → Calls P f ⟨vs⟩ w fun e w' => ∃ u, e = .returned u ∧ v.rel g u ∧ Below w.heap.size w w') (lim : Nat) (h : Hp) (n : Nat) : CallsOK P f args lim h n v h n := by
  intro vs g w ha hgk m hd hf hn
  refine ⟨⟨fn, hfn, hnm, by rw [hb]; rfl⟩, ?_⟩
  refine (hc vs g w ha).mono ?_
  rintro e w' ⟨u, rfl, hv, b⟩
  have keep : ∀ r, r < w.heap.size → w'.heap[r]? = w.heap[r]? := b.block
  refine ⟨u, g, rfl, hv, ⟨m.inj, fun p b hp => ?_⟩, ?_⟩
  · obtain ⟨r, base, tot, cur, c1, c2, c3, c4, c5, c6⟩ := m.blk p b hp
    exact ⟨r, base, tot, cur, c1, c2.keep (keep r (m.lt hp c1)), c3, c4, c5, c6⟩
  · exact { le := Nat.le_refl _, os := b.os, tape := b.tape, output := b.output, size := b.size, keep := fun r hr _ => keep r hr, sig := fun _ _ => rfl,
            dom := fun p b e => ⟨fun _ => ⟨b, e⟩, hd p b e⟩, new := fun _ _ _ _ a b => by omega }
/-- A function's own run, told as a call in any world. -/
theorem callV {P : Program} {dr : List Nat} {F : FF} {q : IC} {f : Nat} {fn : Func} {c : Code} {res : List RV} {args : L} {x : V} (hfn : P.funcs[f]? = some fn) (hnm : (fn.name == "runtime.NumGoroutine") = false) (hb : fn.body = some c) (hq : compC P dr fn.ntmps c = some q) (hres : compRVs P fn.results.toList = some res)
    (hal : args.length < 4294967296) (hp : args.pur = true) (hx : x.pur = true) (j : JQ P dr fn.ntmps F q 256 (Kend res (Good 0 (.v x))) (bind args 0 .lf) .lf 256) {vs : List Value} (ha : ∀ g, args.rel g vs) (w : World) : Calls P f ⟨vs⟩ w fun e w' => ∃ u, e = .returned u ∧ (∀ g, x.rel g u) ∧ Below w.heap.size w w' := by
  have h0 : ∀ p, (Hp.get p .lf) = none := Hp.get_lf
  have hc := outC hfn hnm hb hq hres (Ins.none .lf) hal (ren_nil_rel hp) (.v x) hx j 256 256 (v := x) (h' := .lf) (n' := 256) rfl
  refine (hc vs (g0 fun _ => 0) w (ha _) (g0_ok _) ⟨fun p q bp bq _ _ _ _ _ hp => (nomatch (h0 _).symm.trans hp), fun p b hp => (nomatch (h0 _).symm.trans hp)⟩ (fun p b hp => (nomatch (h0 _).symm.trans hp)) (g0_fresh _ _) (by decide)).2.mono ?_
  rintro e w' ⟨u, g', rfl, hv, _, hfr⟩
  exact ⟨u, rfl, fun g => V.pur_rel hx hv, hfr.os, hfr.tape, hfr.output, hfr.size, fun k hk => hfr.keep k hk fun p b base tot hp => (nomatch (h0 _).symm.trans hp)⟩
end Go.Proofs.Ytnmbhgchffebmaa.Ev
/- Strings' parts, and contracts of two strings. -/
namespace Go.Proofs.Ytnmbhgchffebmaa.Ev
set_option linter.unusedVariables false
open Go Go.Proofs
theorem O_ssl_a (x i : X) (F : FF) (e : Tr) (lim : Nat) (h : Hp) (n : Nat) : (O.ssl x (some i) none).ev F e lim h n = pv (onStr (evX x e) (fun l => onI (evX i e) (fun a => if a ≤ l.length then .s (l.drop a) else .bad) .bad) .bad) h n := by
  show pv (onStr (evX x e) (fun l => fN l.length fun len => onOI (some i) e 0 fun a => onOI none e len fun b => Bool.rec .bad (.s ((l.drop a).take (b - a))) (and (Nat.ble a b) (Nat.ble b len))) .bad) h n = _
  congr 2
  funext l
  rw [fN_eq]
  show onI (evX i e) _ V.bad = _
  congr 1
  funext a
  show (Bool.rec .bad (.s ((l.drop a).take (l.length - a))) (and (Nat.ble a l.length) (Nat.ble l.length l.length)) : V) = _
  rw [show Nat.ble l.length l.length = true from Nat.ble_eq.mpr (Nat.le_refl _), Bool.and_true]
  by_cases ha : a ≤ l.length
  · rw [if_pos ha, show Nat.ble a l.length = true from Nat.ble_eq.mpr ha]
    show V.s ((l.drop a).take (l.length - a)) = _
    rw [List.take_of_length_le (by simp)]
  · rw [if_neg ha, show Nat.ble a l.length = false from Bool.eq_false_iff.mpr fun hx => ha (Nat.ble_eq.mp hx)]
theorem O_ssl_b (x i : X) (F : FF) (e : Tr) (lim : Nat) (h : Hp) (n : Nat) : (O.ssl x none (some i)).ev F e lim h n = pv (onStr (evX x e) (fun l => onI (evX i e) (fun b => if b ≤ l.length then .s (l.take b) else .bad) .bad) .bad) h n := by
  show pv (onStr (evX x e) (fun l => fN l.length fun len => onOI none e 0 fun a => onOI (some i) e len fun b => Bool.rec .bad (.s ((l.drop a).take (b - a))) (and (Nat.ble a b) (Nat.ble b len))) .bad) h n = _
  congr 2
  funext l
  rw [fN_eq]
  show onI (evX i e) _ V.bad = _
  congr 1
  funext a
  show (Bool.rec .bad (.s ((l.drop 0).take (a - 0))) (and (Nat.ble 0 a) (Nat.ble a l.length)) : V) = _
  rw [show Nat.ble 0 a = true from Nat.ble_eq.mpr (Nat.zero_le _), Bool.true_and]
  by_cases ha : a ≤ l.length
  · rw [if_pos ha, show Nat.ble a l.length = true from Nat.ble_eq.mpr ha]; rfl
  · rw [if_neg ha, show Nat.ble a l.length = false from Bool.eq_false_iff.mpr fun hx => ha (Nat.ble_eq.mp hx)]
theorem strV_add (l m : List Nat) : strV .add l m = if l.length + m.length ≤ 9223372036854775807 then .s (l ++ m) else .bad := by
  show (Bool.rec .bad (.s (l ++ m)) (Nat.ble (Nat.add l.length m.length) 9223372036854775807) : V) = _
  by_cases ha : l.length + m.length ≤ 9223372036854775807
  · rw [if_pos ha, show Nat.ble (Nat.add l.length m.length) 9223372036854775807 = true from Nat.ble_eq.mpr ha]
  · rw [if_neg ha, show Nat.ble (Nat.add l.length m.length) 9223372036854775807 = false from Bool.eq_false_iff.mpr fun hx => ha (Nat.ble_eq.mp hx)]
theorem strV_eql (l m : List Nat) : strV .eql l m = .b (eqS l m) := fB_eq _
noncomputable def spSS (f : List Nat → List Nat → Out) (args : L) (_ : Nat) (h : Hp) (n : Nat) : Res := match args with | .cons (.s a) (.cons (.s b) .nil) => (f a b).res h n | _ => .no
theorem spSS_eq (f : List Nat → List Nat → Out) (a b : List Nat) (lim : Nat) (h : Hp) (n : Nat) : spSS f (.cons (.s a) (.cons (.s b) .nil)) lim h n = (f a b).res h n := rfl
theorem spSS_mo (f : List Nat → List Nat → Out) : SMo (spSS f) := fun args lim h n => by unfold spSS; split <;> first | exact Out.res_ge _ _ _ | trivial
theorem spSS_ok {P : Program} {k : Nat} {f : List Nat → List Nat → Out} (hc : ∀ a b lim h n v h' n', (f a b).res h n = .ok v h' n' → CallsOK P k (.cons (.s a) (.cons (.s b) .nil)) lim h n v h' n') : SOK P k (spSS f) := fun args lim h n v h' n' hr => by
  unfold spSS at hr
  split at hr
  · exact hc _ _ _ _ _ _ _ _ hr
  · cases hr
end Go.Proofs.Ytnmbhgchffebmaa.Ev
/- strings.Join as a contract for the evaluator: the library's contract, applied. -/
namespace Go.Proofs.Ytnmbhgchffebmaa.Ev
set_option linter.unusedVariables false
open Go Go.Proofs Go.RowKit Go.Shelf
def byS (bs : List Nat) : ByteArray := ⟨⟨bs.map UInt8.ofNat⟩⟩
theorem byS_size (bs : List Nat) : (byS bs).size = bs.length := by
  show (bs.map UInt8.ofNat).length = _
  rw [List.length_map]
theorem byS_rel {g : Sig} {bs : List Nat} {u : Value} : (V.s bs).rel g u ↔ u = .string (byS bs) := by rw [V.rel]; rfl
theorem callsM {P : Program} {f : Nat} {fn : Func} {c : Code} (hfn : P.funcs[f]? = some fn) (hnm : (fn.name == "runtime.NumGoroutine") = false) (hb : fn.body = some c) {args : L} {v : V} (hpv : v.pur = true) {h : Hp}
    (hc : ∀ (vs : List Value) (g : Sig) (w : World), args.rel g vs → Mem g h.get w → Calls P f ⟨vs⟩ w fun e w' => ∃ u, e = .returned u ∧ v.rel g u ∧ Below w.heap.size w w') (lim : Nat) (n : Nat) : CallsOK P f args lim h n v h n := by
  intro vs g w ha hgk m hd hf hn
  refine ⟨⟨fn, hfn, hnm, by rw [hb]; rfl⟩, ?_⟩
  refine (hc vs g w ha m).mono ?_
  rintro e w' ⟨u, rfl, hv, b⟩
  have keep : ∀ r, r < w.heap.size → w'.heap[r]? = w.heap[r]? := b.block
  refine ⟨u, g, rfl, hv, ⟨m.inj, fun p b hp => ?_⟩, ?_⟩
  · obtain ⟨r, base, tot, cur, c1, c2, c3, c4, c5, c6⟩ := m.blk p b hp
    exact ⟨r, base, tot, cur, c1, c2.keep (keep r (m.lt hp c1)), c3, c4, c5, c6⟩
  · exact { le := Nat.le_refl _, os := b.os, tape := b.tape, output := b.output, size := b.size, keep := fun r hr _ => keep r hr, sig := fun _ _ => rfl,
            dom := fun p b e => ⟨fun _ => ⟨b, e⟩, hd p b e⟩, new := fun _ _ _ _ a b => by omega }
noncomputable def rdS (b : Blk) (off : Nat) : Nat → Option (List (List Nat))
  | 0 => some []
  | n + 1 => match b.cell off, rdS b (off + 1) n with
    | .s x, some l => some (x :: l)
    | _, _ => none
theorem rdS_get {b : Blk} : ∀ {n off : Nat} {xs : List (List Nat)}, rdS b off n = some xs → xs.length = n ∧ ∀ j (hj : j < xs.length), b.cell (off + j) = .s xs[j]
  | 0, off, xs, h => by simp [rdS] at h; subst h; exact ⟨rfl, fun j hj => by simp at hj⟩
  | n + 1, off, xs, h => by
    rw [rdS] at h
    split at h
    · rename_i x l h1 h2
      cases h
      obtain ⟨e1, e2⟩ := rdS_get h2
      refine ⟨by simp [e1], fun j hj => ?_⟩
      cases j with
      | zero => exact h1
      | succ j =>
        have := e2 j (by simpa using hj)
        rw [show off + (j + 1) = off + 1 + j by omega, this]
        rfl
    · cases h
def joR : Go.Shelf.Ren := ⟨fun | 156 => 90 | 165 => 113 | 166 => 93 | 169 => 88 | 240 => 110 | 241 => 121 | 276 => 119 | 277 => 129 | n => n, fun | 0 => 0 | 3 => 3 | 4 => 4 | 9 => 9 | 20 => 20 | 31 => 25 | 37 => 117 | 70 => 116 | 72 => 119 | 75 => 121 | 76 => 122 | 127 => 139 | 164 => 145 | 5 => 5 | 80 => 87 | n => n, fun | n => n⟩
theorem joL : Lays.n156 Try.prog joR := {
  mixed := by kernel_rfl
  f156 := Try.func90.trans (congrArg some (by kernel_rfl))
  f165 := Try.func113.trans (congrArg some (by kernel_rfl))
  f166 := Try.func93.trans (congrArg some (by kernel_rfl))
  f169 := Try.func88.trans (congrArg some (by kernel_rfl))
  f240 := Try.func110.trans (congrArg some (by kernel_rfl))
  f241 := Try.func121.trans (congrArg some (by kernel_rfl))
  f276 := Try.func119.trans (congrArg some (by kernel_rfl))
  f277 := Try.func129.trans (congrArg some (by kernel_rfl))
  t0 := Try.underlying0
  a0 := Try.isAgg0
  z0 := Try.sizeOf0
  v0 := Try.zeroValue0
  t3 := Try.underlying3
  a3 := Try.isAgg3
  z3 := Try.sizeOf3
  v3 := Try.zeroValue3
  t4 := Try.underlying4
  a4 := Try.isAgg4
  z4 := Try.sizeOf4
  v4 := Try.zeroValue4
  t9 := Try.underlying9
  a9 := Try.isAgg9
  z9 := Try.sizeOf9
  v9 := Try.zeroValue9
  t20 := Try.underlying20
  a20 := Try.isAgg20
  z20 := Try.sizeOf20
  v20 := Try.zeroValue20
  t31 := Try.underlying25
  a31 := Try.isAgg25
  z31 := Try.sizeOf25
  v31 := Try.zeroValue25
  t37 := Try.underlying117
  a37 := Try.isAgg117
  z37 := Try.sizeOf117
  v37 := Try.zeroValue117
  t70 := Try.underlying116
  a70 := Try.isAgg116
  z70 := Try.sizeOf116
  v70 := Try.zeroValue116
  t72 := Try.underlying119
  a72 := Try.isAgg119
  z72 := Try.sizeOf119
  v72 := Try.zeroValue119
  t75 := Try.underlying121
  a75 := Try.isAgg121
  z75 := Try.sizeOf121
  v75 := Try.zeroValue121
  t76 := Try.underlying122
  a76 := Try.isAgg122
  z76 := Try.sizeOf122
  v76 := Try.zeroValue122
  t127 := Try.underlying139
  a127 := Try.isAgg139
  z127 := Try.sizeOf139
  v127 := Try.zeroValue139
  t164 := Try.underlying145
  a164 := Try.isAgg145
  z164 := Try.sizeOf145
  v164 := Try.zeroValue145 }
theorem joX : Builder.Extra Try.prog joR := {
  sizeBuilder := by kernel_rfl
  liesBuilder := by kernel_rfl
  t5 := Try.underlying5
  a5 := Try.isAgg5
  z5 := Try.sizeOf5
  v5 := Try.zeroValue5
  infoByte := by kernel_rfl
  cellsByte := by kernel_rfl
  sizeByte := by kernel_rfl
  neB5 := by decide }
noncomputable def jnQ (ws : List (List Nat)) (sep : List Nat) : List Nat := match ws with
  | [] => []
  | x :: r => x ++ (r.map (sep ++ ·)).flatten
theorem jn_map (ws : List (List Nat)) (sep : List Nat) : Lib.join ((ws.map byS).map (·.data.toList)) (byS sep).data.toList = (jnQ ws sep).map UInt8.ofNat := by
  have e : (ws.map byS).map (·.data.toList) = ws.map (·.map UInt8.ofNat) := by rw [List.map_map]; rfl
  have e2 : (byS sep).data.toList = sep.map UInt8.ofNat := rfl
  rw [e, e2]
  cases ws with
  | nil => rfl
  | cons x r =>
    rw [List.map_cons, Lib.join_cons]
    unfold Lib.joinTail jnQ
    simp [List.map_append, List.map_flatten, List.map_map, Function.comp_def]
noncomputable def spJo (args : L) (_ : Nat) (h : Hp) (n : Nat) : Res := match args with
  | .cons (.sl p off 1 len cap) (.cons (.s sep) .nil) => (match h.get p with
    | some b => if off + len ≤ b.size ∧ 0 < len then (match rdS b off len with
      | some ws => if (jnQ ws sep).length < 1000000 ∧ ws.length < 1000000 then .ok (.s (jnQ ws sep)) h n else .no
      | none => .no) else .no
    | none => .no)
  | .cons .ns (.cons (.s _) .nil) => .ok (.s []) h n
  | _ => .no
theorem spJo_mo : SMo spJo := fun args lim h n => by
  unfold spJo
  split
  · split
    · split
      · split
        · split
          · exact Nat.le_refl n
          · trivial
        · trivial
      · trivial
    · trivial
  · exact Nat.le_refl n
  · trivial
theorem okJo : SOK Try.prog 90 spJo := fun args lim h n v h' n' hr => by
  unfold spJo at hr
  split at hr
  · rename_i p off len cap l
    split at hr
    · rename_i b hb
      split at hr
      · rename_i hlen
        split at hr
        · rename_i ws hws
          split at hr
          · rename_i hc
            cases hr
            obtain ⟨e1, e2⟩ := rdS_get hws
            refine callsM Try.func90 (by kernel_rfl) (c := match Try.f90.body with | some c => c | none => .skip) (by kernel_rfl) rfl (fun vs g w ha m => ?_) lim _
            rw [L.rel] at ha
            obtain ⟨u1, us, rfl, r3, ha⟩ := ha
            rw [L.rel] at ha
            obtain ⟨u2, us2, rfl, r2, ha⟩ := ha
            rw [L.rel] at ha
            subst ha
            rw [byS_rel] at r2
            subst r2
            rw [V.rel] at r3
            obtain ⟨r, base, tot, cp, o', q1, rfl, q2, q3, q4, q5, q6, q7⟩ := r3
            obtain ⟨r', base', tot', cur, c1, c2, c3, c4, c5, c6⟩ := m.blk p b hb
            rw [q1] at c1
            cases c1
            have ho := q5 (by omega)
            subst ho
            obtain ⟨fz, hrow, _⟩ := c2.row (.inl (by omega))
            have hlt : r < w.heap.size := (Array.getElem?_eq_some_iff.1 hrow).1
            have hcell : ∀ (i : Nat) x, (ws.map byS)[i]? = some x → w.cell? ⟨r, base + off + i, none⟩ = some (.string x) := fun i x hx => by
              rw [List.getElem?_map] at hx
              have hi' : i < ws.length := by
                rcases Nat.lt_or_ge i ws.length with h1 | h1
                · exact h1
                · rw [List.getElem?_eq_none h1] at hx; cases hx
              rw [List.getElem?_eq_getElem hi'] at hx
              cases hx
              obtain ⟨u, d1, _, d2⟩ := c6 (off + i) (by omega)
              rw [e2 i hi', byS_rel] at d2
              rw [Lib.cell_of_heap hrow, Nat.add_assoc, d1, d2]
            have hl2 : (ws.map byS).length = len := by rw [List.length_map]; exact e1
            have := Any.strings_Join joL joX r (base + off) cp (ws.map byS) (byS l) w hcell hlt (by rw [List.length_map]; omega) (by rw [hl2]; exact q3) (by rw [jn_map, List.length_map]; omega)
            rw [hl2] at this
            refine this.mono ?_
            rintro e w' ⟨rfl, bel⟩
            refine ⟨_, rfl, ?_, bel⟩
            rw [byS_rel, jn_map]
            rfl
          · cases hr
        · cases hr
      · cases hr
    · cases hr
  · cases hr
    refine callsM Try.func90 (by kernel_rfl) (c := match Try.f90.body with | some c => c | none => .skip) (by kernel_rfl) rfl (fun vs g w ha m => ?_) lim _
    rw [L.rel] at ha
    obtain ⟨u1, us, rfl, r3, ha⟩ := ha
    rw [L.rel] at ha
    obtain ⟨u2, us2, rfl, r2, ha⟩ := ha
    rw [L.rel] at ha
    subst ha
    rw [byS_rel] at r2
    subst r2
    rw [V.rel] at r3
    subst r3
    refine (Any.strings_Join_none joL joX none 0 _ w).mono ?_
    rintro e w' ⟨rfl, rfl⟩
    exact ⟨_, rfl, by rw [byS_rel]; rfl, Below.refl _ _⟩
  · cases hr
end Go.Proofs.Ytnmbhgchffebmaa.Ev
/- Stages of a law by evaluation alone: a piece is run at each value of an argument; what it leaves is read off its slots. -/
namespace Go.Proofs.Ytnmbhgchffebmaa.Ev
set_option linter.unusedVariables false
open Go Go.Proofs Go.RowKit

noncomputable def pcE (r : Rs) : Tr := Rs.rec (motive := fun _ => Tr) .lf (fun e _ _ => e) (fun _ _ _ _ => .lf) (fun _ _ _ => .lf) r
noncomputable def pcH (r : Rs) : Hp := Rs.rec (motive := fun _ => Hp) .lf (fun _ h _ => h) (fun _ _ _ _ => .lf) (fun _ _ _ => .lf) r
/-- The piece goes on to the next, and its places stay below m. -/
noncomputable def pcN (m : Nat) (r : Rs) : Bool := Rs.rec (motive := fun _ => Bool) false (fun _ _ n => Nat.ble n m) (fun _ _ _ _ => false) (fun _ _ _ => false) r
theorem pcN_ok {m : Nat} {r : Rs} (h : pcN m r = true) : ∃ n, r = .nor (pcE r) (pcH r) n ∧ n ≤ m := by
  cases r with
  | nor e h' n => exact ⟨n, rfl, Nat.le_of_ble_eq_true h⟩
  | _ => cases h
/-- Some slots with their values. -/
noncomputable def mkE : List (Nat × V) → Tr
  | [] => .lf
  | x :: l => (mkE l).set x.2 (tp x.1)
/-- What is read behind a piece: that it goes on, the slots ts, the tables' blocks. -/
noncomputable def stg (tabs : List (Nat × TypeId × L)) (m : Nat) (ts : List Nat) (r : Rs) : Bool × List V × List (Option Blk) :=
  (pcN m r, ts.map (fun t => (pcE r).get (tp t)), tabs.map fun x => (pcH r).get (tp x.1))
/-- What it should be. -/
noncomputable def stgIs (tabs : List (Nat × TypeId × L)) (l : List (Nat × V)) : Bool × List V × List (Option Blk) :=
  (true, l.map Prod.snd, tabs.map fun x => (tabH tabs).get (tp x.1))
theorem mkE_le {e : Tr} : ∀ {l : List (Nat × V)}, (l.all fun x => decide (x.1 < 4294967296)) = true → (l.map Prod.fst).map (fun t => e.get (tp t)) = l.map Prod.snd → EnvLe (mkE l) e
  | [], _, _ => EnvLe.lf e
  | (t, v) :: l, hl, h => by
    simp only [List.all_cons, Bool.and_eq_true, decide_eq_true_eq] at hl
    simp only [List.map_cons, List.cons.injEq] at h
    exact EnvLe.set hl.1 h.1 (mkE_le hl.2 h.2)
theorem tabH_mem : ∀ (l : List (Nat × TypeId × L)) (p : Pos) (b : Blk), (tabH l).get p = some b → ∃ x ∈ l, p = tp x.1
  | [], p, b, h => by have := (Hp.get_lf p).symm.trans h; cases this
  | (k, el, z) :: l, p, b, h => by
    have h : ((tabH l).put (some ⟨el, z.length, z.length, z, .lf⟩) (tp k)).get p = some b := h
    rw [Hp.get_put] at h
    split at h
    · rename_i e; exact ⟨_, List.mem_cons_self, e⟩
    · obtain ⟨x, hx, e⟩ := tabH_mem l p b h; exact ⟨x, List.mem_cons_of_mem _ hx, e⟩
theorem tabH_le {tabs : List (Nat × TypeId × L)} {h : Hp} (hh : (tabs.map fun x => h.get (tp x.1)) = tabs.map fun x => (tabH tabs).get (tp x.1)) : HpLe (tabH tabs) h := fun p b hp => by
  obtain ⟨x, hx, rfl⟩ := tabH_mem tabs p b hp
  exact ⟨b, (List.map_inj_left.1 hh x hx).trans hp, BlkLe.refl b⟩
/-- A piece is as good from a later place on. -/
theorem JQ.later {P : Program} {dr : List Nat} {N lim n n2 : Nat} {F : FF} {q : IC} {K : Rs → Prop} {e : Tr} {h : Hp} (hn : n ≤ n2) (j : JQ P dr N F q lim K e h n2) : JQ P dr N F q lim K e h n := fun c hc a g w he m hd hf =>
  wp_mono (j c hc a g w he m (fun p b hp => Nat.lt_of_lt_of_le (hd p b hp) hn) (fun p hp => hf p (Nat.le_trans hn hp))) fun ex a' w' ⟨r, k, t, p⟩ => ⟨r, k, t, by
    have key : ∀ {n' : Nat} {g' : Sig} {h' : Hm} {w' : World}, Fr lim n2 g h.get w n' g' h' w' → Fr lim n g h.get w n' g' h' w' := fun f =>
      { f with
        le := Nat.le_trans hn f.le
        sig := fun p hp => f.sig p (by omega)
        dom := fun p b e => ⟨fun hp => (f.dom p b e).1 (by omega), (f.dom p b e).2⟩
        new := fun p r base tot h1 h2 e => by
          by_cases h3 : n2 ≤ p.num
          · exact f.new p r base tot h3 h2 e
          · rw [f.sig p (.inl (by omega)), hf p h1] at e; cases e }
    cases r with
    | no => exact p
    | nor => obtain ⟨h1, h2, g', h3, h4, h5⟩ := p; exact ⟨h1, h2, g', h3, h4, key h5⟩
    | ext => obtain ⟨h1, h2, g', h3, h4, h5⟩ := p; exact ⟨h1, h2, g', h3, h4, key h5⟩
    | ret => obtain ⟨h1, h2, g', h3, h4, h5⟩ := p; exact ⟨h1, h2, g', h3, h4, key h5⟩⟩
/-- A piece evaluated, all that follows kept. -/
theorem JQ.piece {P : Program} (hP : P.follows .mixedOrders = true) {dr : List Nat} {N lim n : Nat} {F : FF} (hF : FOK P F) (hM : F.mono) {qa qb : IC} {K : Rs → Prop} {e : Tr} {h : Hp} {e1 : Tr} {h1 : Hp} {n1 : Nat} (hk : (kC qa nK).f F lim e h n = .nor e1 h1 n1) (hn : n1 < big)
    (j : JQ P dr N F qb lim K e1 h1 n1) : JQ P dr N F (.seq qa qb) lim K e h n := by
  refine JQ.step hP hF hM ?_
  rw [kC_eq, onC_nK] at hk
  rw [hk]; exact ⟨hn, j⟩
/-- A stage: the piece is evaluated; the slots of l and the tables are all that is kept of it. -/
theorem JQ.stage {P : Program} (hP : P.follows .mixedOrders = true) {dr : List Nat} {N lim n m : Nat} {F : FF} (hF : FOK P F) (hM : F.mono) {qa qb : IC} {K : Rs → Prop} {e : Tr} {h : Hp} {tabs : List (Nat × TypeId × L)} {l : List (Nat × V)}
    (hk : stg tabs m (l.map Prod.fst) ((kC qa nK).f F lim e h n) = stgIs tabs l) (hl : (l.all fun x => decide (x.1 < 4294967296)) = true) (hm : m < big)
    (j : JQ P dr N F qb lim K (mkE l) (tabH tabs) m) : JQ P dr N F (.seq qa qb) lim K e h n := by
  have hk' := hk
  unfold stg stgIs at hk'
  simp only [Prod.mk.injEq] at hk'
  obtain ⟨h1, h2, h3⟩ := hk'
  obtain ⟨n1, h4, h5⟩ := pcN_ok h1
  exact JQ.piece hP hF hM h4 (Nat.lt_of_le_of_lt h5 hm) (JQ.later h5 (JQ.weak (mkE_le hl h2) (tabH_le h3) j))
/-- A chunk of values. -/
theorem chunk {α : Type} {f g : Nat → α} {c k t : Nat} (h : (List.range c).map (fun i => f (k + i)) = (List.range c).map fun i => g (k + i)) (h1 : k ≤ t) (h2 : t < k + c) : f t = g t := by
  have := List.map_inj_left.1 h (t - k) (List.mem_range.2 (by omega))
  have e : k + (t - k) = t := by omega
  rwa [e] at this
theorem chunkB {f : Nat → Bool} {c k t : Nat} (h : (List.range c).all (fun i => f (k + i)) = true) (h1 : k ≤ t) (h2 : t < k + c) : f t = true := by
  have := List.all_eq_true.1 h (t - k) (List.mem_range.2 (by omega))
  have e : k + (t - k) = t := by omega
  rwa [e] at this
/-! Several pieces in a row. -/
noncomputable def seqs (ps : List IC) (q : IC) : IC := ps.foldr .seq q
/-- The first so many pieces of a body, and the rest. -/
noncomputable def IC.pcs (q : IC) (k : Nat) : List IC := Nat.rec (motive := fun _ => IC → List IC) (fun _ => []) (fun _ ih q => match q with | .seq a b => a :: ih b | q => [q]) k q
noncomputable def IC.rst (q : IC) (k : Nat) : IC := Nat.rec (motive := fun _ => IC → IC) (fun q => q) (fun _ ih q => match q with | .seq _ b => ih b | q => q) k q
/-- They are run one after the other; each has to go on to the next with its places below m. -/
noncomputable def runP (F : FF) (lim m : Nat) (ps : List IC) : Rs → Rs := List.rec (motive := fun _ => Rs → Rs) (fun r => r)
  (fun p _ ih r => Rs.rec (motive := fun _ => Rs) .no (fun e h n => Bool.rec .no (ih ((kC p nK).f F lim e h n)) (Nat.ble n m)) (fun _ _ _ _ => .no) (fun _ _ _ => .no) r) ps
theorem runP_no (F : FF) (lim m : Nat) {ps : List IC} {r : Rs} {e : Tr} {h : Hp} {n : Nat} (hr : runP F lim m ps r = .nor e h n) : ∃ e1 h1 n1, r = .nor e1 h1 n1 := by
  cases ps with
  | nil => exact ⟨_, _, _, hr⟩
  | cons p ps =>
    cases r with
    | nor e1 h1 n1 => exact ⟨_, _, _, rfl⟩
    | _ => exact absurd (show (Rs.no) = _ from hr) (by simp)
theorem JQ.pieces {P : Program} (hP : P.follows .mixedOrders = true) {dr : List Nat} {N lim m : Nat} {F : FF} (hF : FOK P F) (hM : F.mono) {qb : IC} {K : Rs → Prop} (hm : m < big) {e1 : Tr} {h1 : Hp} {n1 : Nat} (hn1 : n1 ≤ m) (j : JQ P dr N F qb lim K e1 h1 n1) :
    ∀ (ps : List IC) {e : Tr} {h : Hp} {n : Nat}, runP F lim m ps (.nor e h n) = .nor e1 h1 n1 → JQ P dr N F (seqs ps qb) lim K e h n
  | [], e, h, n, hr => by
    have hr : Rs.nor e h n = Rs.nor e1 h1 n1 := hr
    cases hr; exact j
  | p :: ps, e, h, n, hr => by
    have hr : (Bool.rec .no (runP F lim m ps ((kC p nK).f F lim e h n)) (Nat.ble n m) : Rs) = .nor e1 h1 n1 := hr
    cases hb : Nat.ble n m with
    | false => rw [hb] at hr; cases hr
    | true =>
      rw [hb] at hr
      have hr : runP F lim m ps ((kC p nK).f F lim e h n) = .nor e1 h1 n1 := hr
      obtain ⟨e2, h2, n2, h3⟩ := runP_no F lim m hr
      rw [h3] at hr
      have hn2 : n2 ≤ m := by
        cases ps with
        | nil => have hr : Rs.nor e2 h2 n2 = Rs.nor e1 h1 n1 := hr; cases hr; exact hn1
        | cons p' ps' =>
          have hr : (Bool.rec .no (runP F lim m ps' ((kC p' nK).f F lim e2 h2 n2)) (Nat.ble n2 m) : Rs) = .nor e1 h1 n1 := hr
          cases hb2 : Nat.ble n2 m with
          | false => rw [hb2] at hr; cases hr
          | true => exact Nat.le_of_ble_eq_true hb2
      exact JQ.piece hP hF hM h3 (Nat.lt_of_le_of_lt hn2 hm) (JQ.pieces hP hF hM hm hn1 j ps hr)
/-- A stage of several pieces. -/
theorem JQ.stages {P : Program} (hP : P.follows .mixedOrders = true) {dr : List Nat} {N lim n m : Nat} {F : FF} (hF : FOK P F) (hM : F.mono) {q qb : IC} (ps : List IC) {K : Rs → Prop} {e : Tr} {h : Hp} {tabs : List (Nat × TypeId × L)} {l : List (Nat × V)} (hq : q = seqs ps qb)
    (hk : stg tabs m (l.map Prod.fst) (runP F lim m ps (.nor e h n)) = stgIs tabs l) (hl : (l.all fun x => decide (x.1 < 4294967296)) = true) (hm : m < big)
    (j : JQ P dr N F qb lim K (mkE l) (tabH tabs) m) : JQ P dr N F q lim K e h n := by
  subst hq
  have hk' := hk
  unfold stg stgIs at hk'
  simp only [Prod.mk.injEq] at hk'
  obtain ⟨h1, h2, h3⟩ := hk'
  obtain ⟨n1, h4, h5⟩ := pcN_ok h1
  exact JQ.pieces hP hF hM hm h5 (JQ.later h5 (JQ.weak (mkE_le hl h2) (tabH_le h3) j)) ps h4
end Go.Proofs.Ytnmbhgchffebmaa.Ev
/- Laws over few inputs, where no table is in memory: a stage that keeps its memory, and the run's end. -/
namespace Go.Proofs.Ytnmbhgchffebmaa.Ev
set_option linter.unusedVariables false
open Go Go.Proofs Go.RowKit
/-- A run's end: true is handed back. -/
noncomputable def finB (res : List RV) (e : Tr) (h : Hp) (n : Nat) : Bool := and (evRVs e h res).known (and (onB (evRes e h res) (fun b => b) false) (Nat.blt n 9223372036854775808))
noncomputable def finR (res : List RV) (r : Rs) : Bool := Rs.rec false (fun e h n => finB res e h n) (fun _ _ _ _ => false) (fun e h n => finB res e h n) r
theorem finB_ok {res : List RV} {e : Tr} {h : Hp} {n : Nat} (hf : finB res e h n = true) : n < big ∧ (evRVs e h res).known = true ∧ evRes e h res = .b true := by
  unfold finB at hf
  simp only [Bool.and_eq_true, Nat.blt_eq] at hf
  refine ⟨hf.2.2, hf.1, ?_⟩
  have := hf.2.1
  cases hx : evRes e h res <;> rw [hx] at this <;> simp [onB, V.asB] at this
  rw [this]
theorem got_fin {res : List RV} {r : Rs} (h : finR res r = true) : Got (Kend res (Good 0 (.v (.b true)))) r := by
  cases r with
  | no => cases h
  | ext => cases h
  | nor e h' n => have := finB_ok h; exact ⟨this.1, this.2.1, this.2.2, rfl⟩
  | ret e h' n => have := finB_ok h; exact ⟨this.1, this.2.1, this.2.2, rfl⟩
/-- A piece run to the law's end. -/
theorem JQ.fin {P : Program} (hP : P.follows .mixedOrders = true) {dr : List Nat} {N lim n : Nat} {F : FF} (hF : FOK P F) (hM : F.mono) {res : List RV} {q : IC} {e : Tr} {h : Hp} (hk : finR res ((kC q nK).f F lim e h n) = true) : JQ P dr N F q lim (Kend res (Good 0 (.v (.b true)))) e h n := by
  refine JQ.run hP hF hM ?_
  rw [kC_eq, onC_nK] at hk; exact got_fin hk
/-- What is looked at behind a stage. -/
noncomputable def obs (m : Nat) (ts : List Nat) (r : Rs) : Bool × List V × Hp := (pcN m r, ts.map (fun t => (pcE r).get (tp t)), pcH r)
noncomputable def lstO (ts : List Nat) (r : Rs) : List (Nat × V) := ts.map fun t => (t, (pcE r).get (tp t))
/-- A stage that comes to what another run of it comes to. -/
theorem JQ.stageX {P : Program} (hP : P.follows .mixedOrders = true) {dr : List Nat} {N lim n m : Nat} {F : FF} (hF : FOK P F) (hM : F.mono) {q qb : IC} (ps : List IC) {K : Rs → Prop} {e : Tr} {h : Hp} (ts : List Nat) (r0 : Rs) (hq : q = seqs ps qb)
    (hk : obs m ts (runP F lim m ps (.nor e h n)) = obs m ts r0) (h0 : pcN m r0 = true) (hl : ((lstO ts r0).all fun x => decide (x.1 < 4294967296)) = true) (hm : m < big)
    (j : JQ P dr N F qb lim K (mkE (lstO ts r0)) (pcH r0) m) : JQ P dr N F q lim K e h n := by
  subst hq
  unfold obs at hk
  simp only [Prod.mk.injEq] at hk
  obtain ⟨h1, h2, h3⟩ := hk
  rw [h0] at h1
  obtain ⟨n1, h4, h5⟩ := pcN_ok h1
  refine JQ.pieces hP hF hM hm h5 (JQ.later h5 (JQ.weak (mkE_le hl ?_) (by rw [h3]; exact HpLe.refl _) j)) ps h4
  unfold lstO
  rw [List.map_map, List.map_map, List.map_map]
  exact h2
/-- A stage that comes to slots and memory that are told. -/
theorem JQ.stageY {P : Program} (hP : P.follows .mixedOrders = true) {dr : List Nat} {N lim n m : Nat} {F : FF} (hF : FOK P F) (hM : F.mono) {q qb : IC} (ps : List IC) {K : Rs → Prop} {e : Tr} {h : Hp} (l : List (Nat × V)) (hh : Hp) (hq : q = seqs ps qb)
    (hk : obs m (l.map Prod.fst) (runP F lim m ps (.nor e h n)) = (true, l.map Prod.snd, hh)) (hl : (l.all fun x => decide (x.1 < 4294967296)) = true) (hm : m < big)
    (j : JQ P dr N F qb lim K (mkE l) hh m) : JQ P dr N F q lim K e h n := by
  subst hq
  unfold obs at hk
  simp only [Prod.mk.injEq] at hk
  obtain ⟨h1, h2, h3⟩ := hk
  obtain ⟨n1, h4, h5⟩ := pcN_ok h1
  exact JQ.pieces hP hF hM hm h5 (JQ.later h5 (JQ.weak (mkE_le hl h2) (by rw [h3]; exact HpLe.refl _) j)) ps h4
/-- A run's end: a plain value is handed back. -/
noncomputable def finXB (x : V) (res : List RV) (e : Tr) (h : Hp) (n : Nat) : Bool := and (evRVs e h res).known (and (eqV (evRes e h res) x) (Nat.blt n 9223372036854775808))
noncomputable def finX (x : V) (res : List RV) (r : Rs) : Bool := Rs.rec false (fun e h n => finXB x res e h n) (fun _ _ _ _ => false) (fun e h n => finXB x res e h n) r
theorem finXB_ok {x : V} {res : List RV} {e : Tr} {h : Hp} {n : Nat} (hf : finXB x res e h n = true) : n < big ∧ (evRVs e h res).known = true ∧ evRes e h res = x := by
  unfold finXB at hf
  simp only [Bool.and_eq_true, Nat.blt_eq] at hf
  exact ⟨hf.2.2, hf.1, eqV_eq _ _ hf.2.1⟩
theorem JQ.finX {P : Program} (hP : P.follows .mixedOrders = true) {dr : List Nat} {N lim n nb : Nat} {F : FF} (hF : FOK P F) (hM : F.mono) {res : List RV} {q : IC} {e : Tr} {h : Hp} {x : V} (hx : x.pur = true) (hk : finX x res ((kC q nK).f F lim e h n) = true) : JQ P dr N F q lim (Kend res (Good nb (.v x))) e h n := by
  refine JQ.run hP hF hM ?_
  rw [kC_eq, onC_nK] at hk
  revert hk
  generalize evC q F lim e h n = r
  intro hk
  cases r with
  | no => cases hk
  | ext => cases hk
  | nor e h' n => have := finXB_ok hk; exact ⟨this.1, this.2.1, this.2.2, hx⟩
  | ret e h' n => have := finXB_ok hk; exact ⟨this.1, this.2.1, this.2.2, hx⟩
/-- Some answers by a contract, all others as before. -/
def ovF (f : Nat) (s : L → Nat → Hp → Nat → Res) (F : FF) : FF := fun g args lim h n => if g = f then (match s args lim h n with | .ok v h' n' => .ok v h' n' | .no => F g args lim h n) else F g args lim h n
theorem ovF_ok {P : Program} {f : Nat} {s : L → Nat → Hp → Nat → Res} {F : FF} (hs : SOK P f s) (hF : FOK P F) (hne : YID ≠ f := by decide) : FOK P (ovF f s F) := by
  refine ⟨fun g args lim h n v h' n' hr => ?_, fun p args lim h n v h' n' hr => ?_⟩
  · unfold ovF at hr
    split at hr
    · rename_i e
      subst e
      split at hr
      · rename_i v1 h1 n1 he
        cases hr
        exact hs _ _ _ _ _ _ _ he
      · exact hF.1 _ _ _ _ _ _ _ _ hr
    · exact hF.1 _ _ _ _ _ _ _ _ hr
  · unfold ovF at hr
    rw [if_neg hne] at hr
    exact hF.2 _ _ _ _ _ _ _ _ hr
theorem ovF_mono {f : Nat} {s : L → Nat → Hp → Nat → Res} {F : FF} (hs : SMo s) (hF : F.mono) : (ovF f s F).mono := fun g args lim h n => by
  unfold ovF
  split
  · have := hs args lim h n
    cases he : s args lim h n with
    | no => exact hF _ _ _ _ _
    | ok v h' n' => rw [he] at this; exact this
  · exact hF _ _ _ _ _
/-- Some blocks with their places. -/
noncomputable def hpL : List (Nat × Blk) → Hp
  | [] => .lf
  | x :: l => (hpL l).put (some x.2) (tp x.1)
theorem hpL_le {h : Hp} : ∀ {l : List (Nat × Blk)}, (l.map fun x => h.get (tp x.1)) = (l.map fun x => some x.2) → HpLe (hpL l) h
  | [], _ => HpLe.lf h
  | x :: l, e => by
    simp only [List.map_cons, List.cons.injEq] at e
    exact HpLe.put ⟨x.2, e.1, BlkLe.refl _⟩ (hpL_le e.2)
noncomputable def obsZ (m : Nat) (ts ks : List Nat) (r : Rs) : Bool × List V × List (Option Blk) := (pcN m r, ts.map (fun t => (pcE r).get (tp t)), ks.map fun k => (pcH r).get (tp k))
noncomputable def isZ (l : List (Nat × V)) (bl : List (Nat × Blk)) : Bool × List V × List (Option Blk) := (true, l.map Prod.snd, bl.map fun x => some x.2)
/-- A stage of which some slots and some blocks are kept. -/
theorem JQ.stageZ {P : Program} (hP : P.follows .mixedOrders = true) {dr : List Nat} {N lim n m : Nat} {F : FF} (hF : FOK P F) (hM : F.mono) {q qb : IC} (ps : List IC) {K : Rs → Prop} {e : Tr} {h : Hp} (l : List (Nat × V)) (bl : List (Nat × Blk)) (hq : q = seqs ps qb)
    (hk : obsZ m (l.map Prod.fst) (bl.map Prod.fst) (runP F lim m ps (.nor e h n)) = isZ l bl) (hl : (l.all fun x => decide (x.1 < 4294967296)) = true) (hm : m < big)
    (j : JQ P dr N F qb lim K (mkE l) (hpL bl) m) : JQ P dr N F q lim K e h n := by
  subst hq
  unfold obsZ isZ at hk
  simp only [Prod.mk.injEq] at hk
  obtain ⟨h1, h2, h3⟩ := hk
  obtain ⟨n1, h4, h5⟩ := pcN_ok h1
  rw [List.map_map] at h3
  exact JQ.pieces hP hF hM hm h5 (JQ.later h5 (JQ.weak (mkE_le hl h2) (hpL_le h3) j)) ps h4
noncomputable def FnI.q (x : FnI) : IC := FnI.rec (motive := fun _ => IC) (fun _ _ q _ => q) x
noncomputable def FnI.r (x : FnI) : List RV := FnI.rec (motive := fun _ => List RV) (fun _ _ _ r => r) x
end Go.Proofs.Ytnmbhgchffebmaa.Ev
/- One answer for one list of plain arguments, evaluated once and then told. -/
namespace Go.Proofs.Ytnmbhgchffebmaa.Ev
set_option linter.unusedVariables false
open Go Go.Proofs Go.RowKit
noncomputable def spE (a : L) (x : V) (args : L) (_ : Nat) (h : Hp) (n : Nat) : Res := Bool.rec .no (.ok x h n) (eqL args a)
theorem spE_mo (a : L) (x : V) : SMo (spE a x) := fun args lim h n => by
  unfold spE
  cases eqL args a with
  | false => trivial
  | true => exact Nat.le_refl n
noncomputable def isX (x : V) (r : Res) : Bool := Res.rec false (fun v _ n => and (eqV v x) (Nat.blt n 9223372036854775808)) r
theorem isX_ok {x : V} {r : Res} (h : isX x r = true) : ∃ h' n', r = .ok x h' n' ∧ n' < 9223372036854775808 := by
  cases r with
  | no => cases h
  | ok v h' n' =>
    have h : and (eqV v x) (Nat.blt n' 9223372036854775808) = true := h
    simp only [Bool.and_eq_true, Nat.blt_eq] at h
    exact ⟨h', n', by rw [eqV_eq _ _ h.1], h.2⟩
theorem spE_ok {P : Program} {F : FF} (hF : FOK P F) {f : Nat} {a : L} {x : V} (hk : isX x (F f a 256 .lf 256) = true) (hpa : a.pur = true) (hpx : x.pur = true) : SOK P f (spE a x) := fun args lim h n v h' n' hr => by
  unfold spE at hr
  cases he : eqL args a with
  | false => rw [he] at hr; cases hr
  | true =>
    rw [he] at hr
    cases hr
    rw [eqL_eq _ _ he]
    obtain ⟨h1, n1, e1, e2⟩ := isX_ok hk
    exact callsAny rfl (hF.1 f a 256 .lf 256 x h1 n1 e1) e2 hpa hpx lim _ _
end Go.Proofs.Ytnmbhgchffebmaa.Ev
/- A stage of which some slots and the cells of some blocks are kept. -/
namespace Go.Proofs.Ytnmbhgchffebmaa.Ev
set_option linter.unusedVariables false
open Go Go.Proofs Go.RowKit
noncomputable def okB (el : TypeId) (l : L) (ob : Option Blk) : Bool := Option.rec false (fun b => and (Nat.beq b.el el) (and (Nat.ble l.length b.size) (eqL (b.getL 0 l.length) l))) ob
theorem okB_le {el : TypeId} {l : L} {ob : Option Blk} (h : okB el l ob = true) : ∃ b, ob = some b ∧ BlkLe (blkL el l) b := by
  cases ob with
  | none => cases h
  | some b =>
    have h : and (Nat.beq b.el el) (and (Nat.ble l.length b.size) (eqL (b.getL 0 l.length) l)) = true := h
    simp only [Bool.and_eq_true, Nat.beq_eq, Nat.ble_eq] at h
    refine ⟨b, rfl, .inl rfl, h.1.symm, h.2.1, fun k hk => .inr ?_⟩
    have hk : k < l.length := hk
    rw [blkL_cell el l k hk, ← eqL_eq _ _ h.2.2, getL_get b _ _ _ hk, Nat.zero_add]
noncomputable def hpC : List (Nat × TypeId × L) → Hp
  | [] => .lf
  | x :: l => (hpC l).put (some (blkL x.2.1 x.2.2)) (tp x.1)
noncomputable def okK (h : Hp) (bl : List (Nat × TypeId × L)) : Bool := List.rec true (fun x _ ih => and (okB x.2.1 x.2.2 (h.get (tp x.1))) ih) bl
theorem okK_le {h : Hp} : ∀ {l : List (Nat × TypeId × L)}, okK h l = true → HpLe (hpC l) h
  | [], _ => HpLe.lf h
  | x :: l, e => by
    have e : and (okB x.2.1 x.2.2 (h.get (tp x.1))) (okK h l) = true := e
    rw [Bool.and_eq_true] at e
    exact HpLe.put (okB_le e.1) (okK_le e.2)
noncomputable def obsC (m : Nat) (ts : List Nat) (bl : List (Nat × TypeId × L)) (r : Rs) : Bool × List V × Bool := (pcN m r, ts.map (fun t => (pcE r).get (tp t)), okK (pcH r) bl)
theorem JQ.stageC {P : Program} (hP : P.follows .mixedOrders = true) {dr : List Nat} {N lim n m : Nat} {F : FF} (hF : FOK P F) (hM : F.mono) {q qb : IC} (ps : List IC) {K : Rs → Prop} {e : Tr} {h : Hp} (l : List (Nat × V)) (bl : List (Nat × TypeId × L)) (hq : q = seqs ps qb)
    (hk : obsC m (l.map Prod.fst) bl (runP F lim m ps (.nor e h n)) = (true, l.map Prod.snd, true)) (hl : (l.all fun x => decide (x.1 < 4294967296)) = true) (hm : m < big)
    (j : JQ P dr N F qb lim K (mkE l) (hpC bl) m) : JQ P dr N F q lim K e h n := by
  subst hq
  unfold obsC at hk
  simp only [Prod.mk.injEq] at hk
  obtain ⟨h1, h2, h3⟩ := hk
  obtain ⟨n1, h4, h5⟩ := pcN_ok h1
  exact JQ.pieces hP hF hM hm h5 (JQ.later h5 (JQ.weak (mkE_le hl h2) (okK_le h3) j)) ps h4
/-! To look at places: numbers only. -/
noncomputable def pnV (v : V) : Nat := onS v (fun p _ _ _ _ => p.num) 0 (onP v (fun p _ => p.num) 0)
noncomputable def cellH (h : Hp) (v : V) (k : Nat) : V := onS v (fun p o _ _ _ => Option.rec .bad (fun b => Blk.cell b (Nat.add o k)) (h.get p)) .bad (onP v (fun p o => Option.rec .bad (fun b => Blk.cell b (Nat.add o k)) (h.get p)) .bad)
noncomputable def encN (l : List Nat) : Nat := List.rec 1 (fun x _ ih => Nat.add (Nat.mul ih 1000000) x) l
end Go.Proofs.Ytnmbhgchffebmaa.Ev
/- A stage of which whole blocks (tables) and the cells of others are kept; a loop whose rounds are evaluated one by one: the state ahead of each round is told. -/
namespace Go.Proofs.Ytnmbhgchffebmaa.Ev
set_option linter.unusedVariables false
open Go Go.Proofs Go.RowKit
noncomputable def hpX (h0 : Hp) : List (Nat × Blk) → Hp
  | [] => h0
  | x :: l => (hpX h0 l).put (some x.2) (tp x.1)
theorem hpX_le {h0 h : Hp} (hl : HpLe h0 h) : ∀ {l : List (Nat × Blk)}, (l.map fun x => h.get (tp x.1)) = (l.map fun x => some x.2) → HpLe (hpX h0 l) h
  | [], _ => hl
  | x :: l, e => by
    simp only [List.map_cons, List.cons.injEq] at e
    exact HpLe.put ⟨x.2, e.1, BlkLe.refl _⟩ (hpX_le hl e.2)
noncomputable def obsD (m : Nat) (ts ks : List Nat) (bl : List (Nat × TypeId × L)) (r : Rs) : Bool × List V × List (Option Blk) × Bool := (pcN m r, ts.map (fun t => (pcE r).get (tp t)), ks.map (fun k => (pcH r).get (tp k)), okK (pcH r) bl)
noncomputable def isD (l : List (Nat × V)) (tb : List (Nat × Blk)) : Bool × List V × List (Option Blk) × Bool := (true, l.map Prod.snd, tb.map (fun x => some x.2), true)
theorem JQ.stageD {P : Program} (hP : P.follows .mixedOrders = true) {dr : List Nat} {N lim n m : Nat} {F : FF} (hF : FOK P F) (hM : F.mono) {q qb : IC} (ps : List IC) {K : Rs → Prop} {e : Tr} {h : Hp} (l : List (Nat × V)) (tb : List (Nat × Blk)) (bl : List (Nat × TypeId × L)) (hq : q = seqs ps qb)
    (hk : obsD m (l.map Prod.fst) (tb.map Prod.fst) bl (runP F lim m ps (.nor e h n)) = isD l tb) (hl : (l.all fun x => decide (x.1 < 4294967296)) = true) (hm : m < big)
    (j : JQ P dr N F qb lim K (mkE l) (hpX (hpC bl) tb) m) : JQ P dr N F q lim K e h n := by
  subst hq
  unfold obsD isD at hk
  simp only [Prod.mk.injEq] at hk
  obtain ⟨h1, h2, h3, h4⟩ := hk
  obtain ⟨n1, h5, h6⟩ := pcN_ok h1
  rw [List.map_map] at h3
  exact JQ.pieces hP hF hM hm h6 (JQ.later h6 (JQ.weak (mkE_le hl h2) (hpX_le (okK_le h4) h3) j)) ps h5
theorem JQ.count {P : Program} (hP : P.follows .mixedOrders = true) {dr : List Nat} {N lim n : Nat} {F : FF} (hF : FOK P F) (hM : F.mono) {qb : IC} {K : Rs → Prop} {e : Tr} {h : Hp} (top : Nat) (env : Nat → Tr) (hp : Nat → Hp) (nn : Nat → Nat) (hnn : ∀ k, k ≤ top → nn k < big)
    (h0 : EnvLe (env 0) e) (h1 : HpLe (hp 0) h) (h2 : n ≤ nn 0)
    (rd : ∀ k, k < top → ∃ e' h' n', (kC qb nK).f F lim (env k) (hp k) (nn k) = .nor e' h' n' ∧ EnvLe (env (k + 1)) e' ∧ HpLe (hp (k + 1)) h' ∧ n' ≤ nn (k + 1))
    (hend : ∃ i e' h' n', (kC qb nK).f F lim (env top) (hp top) (nn top) = .ext i e' h' n' ∧ n' < big ∧ K (.ext i e' h' n')) : JQ P dr N F (.loop qb) lim K e h n := by
  refine JQ.loop (σ := Nat × Nat) (fun s => s.1 ≤ top ∧ s.2 ≤ nn s.1) (fun s => env s.1) (fun s => hp s.1) (fun s => s.2) (fun s => top + 1 - s.1) (0, n) ⟨Nat.zero_le _, h2⟩ h0 h1 rfl ?_
  rintro ⟨k, n1⟩ ⟨hk, hn1⟩
  have hk : k ≤ top := hk
  have hn1 : n1 ≤ nn k := hn1
  refine JQ.later hn1 (JQ.run hP hF hM ?_)
  rcases Nat.lt_or_eq_of_le hk with hlt | rfl
  · obtain ⟨e', h', n', h3, h4, h5, h6⟩ := rd k hlt
    rw [kC_eq, onC_nK] at h3
    show Got _ (evC qb F lim (env k) (hp k) (nn k))
    rw [h3]
    exact ⟨Nat.lt_of_le_of_lt h6 (hnn _ hlt), (k + 1, n'), ⟨hlt, h6⟩, by show top + 1 - (k + 1) < top + 1 - k; omega, h4, h5, rfl⟩
  · obtain ⟨i, e', h', n', h3, h4, h5⟩ := hend
    rw [kC_eq, onC_nK] at h3
    show Got _ (evC qb F lim (env k) (hp k) (nn k))
    rw [h3]
    exact ⟨h4, h5⟩
/-- A round that is evaluated. -/
noncomputable def rndB (m : Nat) (l : List (Nat × V)) (bl : List (Nat × TypeId × L)) (r : Rs) : Bool := and (pcN m r) (and (List.rec true (fun x _ ih => and (eqV ((pcE r).get (tp x.1)) x.2) ih) l) (okK (pcH r) bl))
theorem eqs_ok {e : Tr} : ∀ {l : List (Nat × V)}, (l.all fun x => decide (x.1 < 4294967296)) = true → (List.rec true (fun x _ ih => and (eqV (e.get (tp x.1)) x.2) ih) l : Bool) = true → EnvLe (mkE l) e
  | [], _, _ => EnvLe.lf e
  | (t, v) :: l, hl, h => by
    simp only [List.all_cons, Bool.and_eq_true, decide_eq_true_eq] at hl
    have h : and (eqV (e.get (tp t)) v) (List.rec true (fun x _ ih => and (eqV (e.get (tp x.1)) x.2) ih) l) = true := h
    rw [Bool.and_eq_true] at h
    exact EnvLe.set hl.1 (eqV_eq _ _ h.1) (eqs_ok hl.2 h.2)
theorem rndB_ok {m : Nat} {l : List (Nat × V)} {bl : List (Nat × TypeId × L)} {r : Rs} (hl : (l.all fun x => decide (x.1 < 4294967296)) = true) (h : rndB m l bl r = true) : ∃ e' h' n', r = .nor e' h' n' ∧ EnvLe (mkE l) e' ∧ HpLe (hpC bl) h' ∧ n' ≤ m := by
  unfold rndB at h
  rw [Bool.and_eq_true, Bool.and_eq_true] at h
  obtain ⟨n', h1, h2⟩ := pcN_ok h.1
  exact ⟨_, _, n', h1, eqs_ok hl h.2.1, okK_le h.2.2, h2⟩
/-- A loop's end that is evaluated. -/
noncomputable def isExt (i : Nat) (r : Rs) : Bool := Rs.rec false (fun _ _ _ => false) (fun j _ _ n => and (Nat.beq j i) (Nat.blt n 9223372036854775808)) (fun _ _ _ => false) r
noncomputable def exE (r : Rs) : Tr := Rs.rec (motive := fun _ => Tr) .lf (fun e _ _ => e) (fun _ e _ _ => e) (fun _ _ _ => .lf) r
noncomputable def exH (r : Rs) : Hp := Rs.rec (motive := fun _ => Hp) .lf (fun _ h _ => h) (fun _ _ h _ => h) (fun _ _ _ => .lf) r
noncomputable def exB (i m : Nat) (l : List (Nat × V)) (bl : List (Nat × TypeId × L)) (r : Rs) : Bool := Rs.rec false (fun _ _ _ => false) (fun j e h n => and (Nat.beq j i) (and (Nat.ble n m) (and (List.rec true (fun x _ ih => and (eqV (e.get (tp x.1)) x.2) ih) l) (okK h bl)))) (fun _ _ _ => false) r
theorem exB_ok {i m : Nat} {l : List (Nat × V)} {bl : List (Nat × TypeId × L)} {r : Rs} (hl : (l.all fun x => decide (x.1 < 4294967296)) = true) (h : exB i m l bl r = true) : ∃ e' h' n', r = .ext i e' h' n' ∧ EnvLe (mkE l) e' ∧ HpLe (hpC bl) h' ∧ n' ≤ m := by
  cases r with
  | ext j e h' n =>
    have h : and (Nat.beq j i) (and (Nat.ble n m) (and (List.rec true (fun x _ ih => and (eqV (e.get (tp x.1)) x.2) ih) l) (okK h' bl))) = true := h
    simp only [Bool.and_eq_true, Nat.beq_eq, Nat.ble_eq] at h
    exact ⟨e, h', n, by rw [h.1], eqs_ok hl h.2.2.1, okK_le h.2.2.2, h.2.1⟩
  | _ => cases h
end Go.Proofs.Ytnmbhgchffebmaa.Ev
/- The examples of chapter 11, evaluated. -/
namespace Go.Proofs.Ytnmbhgchffebmaa.Ev
set_option linter.unusedVariables false
set_option maxRecDepth 100000
open Go Go.Proofs Go.RowKit
noncomputable def WJ (G : FF) : FF := ovF 90 spJo G
theorem WJ_mono (G : FF) (h : G.mono) : (WJ G).mono := ovF_mono spJo_mo h
theorem WJ_ok (G : FF) (h : FOK Try.prog G) : FOK Try.prog (WJ G) := ovF_ok okJo h
noncomputable def EJ (d : Nat) : FF := EQ WJ d
theorem EJ_ok (d : Nat) : FOK Try.prog (EJ d) := EQ_ok WJ_mono WJ_ok d
theorem EJ_mono (d : Nat) : (EJ d).mono := EQ_mono WJ_mono d
theorem bworks_eval : isX (.b true) (EJ 60 41 .nil 256 .lf 256) = true := by kernel_rfl
/-- With works() answered, too. -/
noncomputable def WL (G : FF) : FF := ovF 41 (spE .nil (.b true)) (WJ G)
noncomputable def EL (d : Nat) : FF := EQ WL d
theorem WL_mono (G : FF) (h : G.mono) : (WL G).mono := ovF_mono (spE_mo _ _) (WJ_mono G h)
theorem WL_ok (G : FF) (h : FOK Try.prog G) : FOK Try.prog (WL G) := ovF_ok (spE_ok (EJ_ok 60) bworks_eval rfl rfl) (WJ_ok G h)
theorem EL_ok (d : Nat) : FOK Try.prog (EL d) := EQ_ok WL_mono WL_ok d
theorem EL_mono (d : Nat) : (EL d).mono := EQ_mono WL_mono d
theorem bknown_eval : okR (EL 60 5 .nil (gK + 1) .lf (gK + 1)) = true := by kernel_rfl
theorem bknown_walk (w : World) : Calls Try.prog 5 #[] w fun e w' => e = .returned (.bool true) ∧ Below w.heap.size w w' :=
  ranBF (EL_ok 60) bknown_eval (vs := []) (fun _ => rfl) w
end Go.Proofs.Ytnmbhgchffebmaa.Ev
