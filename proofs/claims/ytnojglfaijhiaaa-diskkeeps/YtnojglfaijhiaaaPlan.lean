/-
  A region whose order is drawn, in which every operation has one answer whatever came ahead of it: one step for each operation, whatever the order.
-/
import Derived.Deep.RegionHeld
import Derived.Deep.MidRow
namespace Go.Proofs.Ytnojglfaijhiaaa.Plan
open Go
set_option linter.unusedVariables false

section
variable {P : Program} {ops : Array Oper} {Qx : Exit → Act → World → Prop} {V : Nat → Value → World → Prop} {T : World → World → Prop} {S : World → Prop} {a0 : Act}

/-- What an operation left. -/
def slot (a : Act) (o : Oper) : Value := match o.dst with | some d => a.tmps.getD d undef | none => undef
/-- Where the region stands: what was listed has its answer, all else is as it was. -/
structure Inv (ops : Array Oper) (V : Nat → Value → World → Prop) (S : World → Prop) (a0 : Act) (l : Array Bool) (a : Act) (w : World) : Prop where
  sz : a.tmps.size = a0.tmps.size
  df : a.defers = a0.defers
  lsz : l.size = ops.size
  old : ∀ s, (∀ (i : Nat) (o : Oper), ops[i]? = some o → o.dst ≠ some s) → a.tmps[s]? = a0.tmps[s]?
  val : ∀ (i : Nat) (o : Oper), ops[i]? = some o → l.getD i false = true → V i (slot a o) w
  st : S w
/-- No two operations answer in one place; places are there; what is waited for stands ahead. -/
def sound (ops : Array Oper) (n : Nat) : Bool :=
  (List.range ops.size).all fun i => match ops[i]? with
    | none => true
    | some o => (o.after.all fun e => !Region.binds .any e || Nat.blt e.on i) &&
      match o.dst with
      | none => true
      | some d => Nat.blt d n && (List.range i).all fun j => match ops[j]? with
        | none => true
        | some o' => match o'.dst with
          | none => true
          | some d' => !Nat.beq d d'
theorem sound_spec {n : Nat} (h : sound ops n = true) {i : Nat} {o : Oper} (hi : ops[i]? = some o) :
    (∀ e ∈ o.after, Region.binds .any e = true → e.on < i) ∧ ∀ d, o.dst = some d → d < n ∧ ∀ (j : Nat) (o' : Oper), j < i → ops[j]? = some o' → o'.dst ≠ some d := by
  unfold sound at h
  rw [List.all_eq_true] at h
  have hlt : i < ops.size := (Array.getElem?_eq_some_iff.1 hi).1
  have h1 := h i (List.mem_range.2 hlt)
  rw [hi] at h1
  dsimp only at h1
  rw [Bool.and_eq_true] at h1
  refine ⟨fun e he hb => ?_, fun d hd => ?_⟩
  · have := Array.all_eq_true_iff_forall_mem.1 h1.1 e he
    rw [hb] at this
    have h9 : Nat.blt e.on i = true := by simpa using this
    rwa [Nat.blt_eq] at h9
  · have h2 := h1.2
    rw [hd] at h2
    dsimp only at h2
    rw [Bool.and_eq_true] at h2
    refine ⟨by have h9 := h2.1; rwa [Nat.blt_eq] at h9, fun j o' hj hj' hd' => ?_⟩
    have h3 := List.all_eq_true.1 h2.2 j (List.mem_range.2 hj)
    rw [hj'] at h3
    dsimp only at h3
    rw [hd'] at h3
    simp at h3
theorem sound_ne {n : Nat} (h : sound ops n = true) {i j : Nat} {o o' : Oper} {d : Nat} (hi : ops[i]? = some o) (hj : ops[j]? = some o') (hij : i ≠ j) (hd : o.dst = some d) : o'.dst ≠ some d := by
  intro hd'
  rcases Nat.lt_or_gt_of_ne hij with h1 | h1
  · exact ((sound_spec h hj).2 d hd').2 i o h1 hi hd
  · exact ((sound_spec h hi).2 d hd).2 j o' h1 hj hd'
theorem getD_set_self {l : Array Bool} {i : Nat} (h : i < l.size) : (l.setIfInBounds i true).getD i false = true := by
  simp [Array.getD_eq_getD_getElem?, h]
theorem put_get {a : Act} {d s : Nat} {v : Value} (h : d ≠ s) : (a.put (some d) v).tmps[s]? = a.tmps[s]? := by
  simp [Act.put, h]
theorem put_self {a : Act} {d : Nat} {v : Value} (h : d < a.tmps.size) : (a.put (some d) v).tmps.getD d undef = v := by
  simp [Act.put, Array.getD_eq_getD_getElem?, h]
theorem Inv.put {i : Nat} {l : Array Bool} {a : Act} {w w' : World} {o : Oper} {v : Value} (hs : sound ops a0.tmps.size = true)
    (hV : ∀ i v w w', V i v w → T w w' → V i v w') (h : Inv ops V S a0 l a w) (hi : ops[i]? = some o) (t : T w w') (s : S w') (hv : V i (match o.dst with | some _ => v | none => undef) w') :
    Inv ops V S a0 (l.setIfInBounds i true) (a.put o.dst v) w' := by
  have hlt : i < ops.size := (Array.getElem?_eq_some_iff.1 hi).1
  refine ⟨?_, ?_, by simp [h.lsz], fun s hs' => ?_, fun j oj hj hl => ?_, s⟩
  · rw [← h.sz]; cases o.dst <;> simp [Act.put]
  · rw [← h.df]; cases o.dst <;> simp [Act.put]
  · cases hd : o.dst with
    | none => exact h.old s hs'
    | some d => rw [put_get (fun e => hs' i o hi (by rw [hd, e]))]; exact h.old s hs'
  · by_cases hij : i = j
    · subst hij
      obtain rfl : o = oj := Option.some.inj (hi.symm.trans hj)
      cases hd : o.dst with
      | none => rw [hd] at hv; simpa [slot, hd] using hv
      | some d =>
        rw [hd] at hv
        have hb : d < a.tmps.size := by rw [h.sz]; exact ((sound_spec hs hi).2 d hd).1
        simp only [slot, hd]
        rw [put_self hb]
        exact hv
    · have hl' : l.getD j false = true := by rw [getD_set_ne false hij] at hl; exact hl
      have h0 := hV j _ _ _ (h.val j oj hj hl') t
      cases hd : o.dst with
      | none => exact h0
      | some d =>
        have hne := sound_ne hs hi hj hij hd
        unfold slot at h0 ⊢
        cases hd' : oj.dst with
        | none => rw [hd'] at h0; exact h0
        | some d' =>
          rw [hd'] at h0
          dsimp only at h0 ⊢
          rw [Array.getD_eq_getD_getElem?, put_get (fun e => hne (by rw [hd', e])), ← Array.getD_eq_getD_getElem?]
          exact h0
/-- One operation's step. -/
def Step (P : Program) (ops : Array Oper) (V : Nat → Value → World → Prop) (T : World → World → Prop) (S : World → Prop) (a0 : Act) (Qx : Exit → Act → World → Prop) (i : Nat) (o : Oper) : Prop :=
  ∀ l a w, Inv ops V S a0 l a w → (∀ e ∈ o.after, Region.binds .any e = true → l.getD e.on false = true) →
    wpOp P ops Qx i (fun a' w' => ∃ v, a' = a.put o.dst v ∧ T w w' ∧ S w' ∧ V i (match o.dst with | some _ => v | none => undef) w') a w
theorem plan_any (hs : sound ops a0.tmps.size = true) (hV : ∀ i v w w', V i v w → T w w' → V i v w')
    (step : ∀ (i : Nat) (o : Oper), ops[i]? = some o → Step P ops V T S a0 Qx i o)
    (fin : ∀ l a w, (∀ i, i < ops.size → l.getD i false = true) → Inv ops V S a0 l a w → Qx .normal a w) :
    ∀ fuel l a w, l.toList.count false ≤ fuel → Inv ops V S a0 l a w → wpAny P .any ops Qx fuel l a w := by
  intro fuel
  induction fuel with
  | zero =>
    intro l a w hc h
    have hall : ∀ i, i < ops.size → l.getD i false = true := by
      intro i hi
      have h0 : false ∉ l.toList := List.count_eq_zero.1 (by omega)
      have hi' : i < l.size := by rw [h.lsz]; exact hi
      rw [Array.getD_eq_getD_getElem?, Array.getElem?_eq_getElem hi', Option.getD_some]
      cases hb : l[i] with
      | true => rfl
      | false => exact absurd (by rw [← hb]; exact Array.getElem_mem_toList hi') h0
    refine ⟨?_, fin l a w hall h⟩
    refine List.eq_nil_iff_forall_not_mem.2 fun j hj => ?_
    obtain ⟨h1, o, h2, _⟩ := mem_ready.1 hj
    have hlt : j < ops.size := (Array.getElem?_eq_some_iff.1 h2).1
    have := hall j hlt
    have hi' : j < l.size := by rw [h.lsz]; exact hlt
    rw [Array.getD_eq_getD_getElem?, Array.getElem?_eq_getElem hi', Option.getD_some] at this h1
    rw [this] at h1; cases h1
  | succ fuel ih =>
    intro l a w hc h
    refine ⟨fun hr => fin l a w (fun i => ?_) h, fun i hi => ?_⟩
    · induction i using Nat.strongRecOn with
      | ind i ihi =>
        intro hlt
        cases hb : l.getD i false with
        | true => rfl
        | false =>
          have hmem : i ∈ Region.ready .any ops l := by
            refine mem_ready.2 ⟨?_, ops[i], Array.getElem?_eq_getElem hlt, fun e he hbd => ?_⟩
            · have hi' : i < l.size := by rw [h.lsz]; exact hlt
              rw [Array.getD_eq_getD_getElem?, Array.getElem?_eq_getElem hi', Option.getD_some] at hb ⊢
              exact hb
            · have := (sound_spec hs (Array.getElem?_eq_getElem hlt)).1 e he hbd
              exact ihi e.on this (by omega)
          rw [hr] at hmem; cases hmem
    · obtain ⟨h1, o, h2, h3⟩ := mem_ready.1 hi
      refine wpOp_mono ?_ (step i o h2 l a w h h3)
      rintro a' w' ⟨v, rfl, t, s, hv⟩
      refine ih _ _ _ ?_ (h.put hs hV h2 t s hv)
      have hlt : i < ops.size := (Array.getElem?_eq_some_iff.1 h2).1
      have hi' : i < l.toList.length := by rw [Array.length_toList, h.lsz]; exact hlt
      rw [Array.toList_setIfInBounds, List.count_set hi']
      have hb : l.toList[i] = false := by
        rw [Array.getElem_toList]
        rw [Array.getD_eq_getD_getElem?, Array.getElem?_eq_getElem (by simpa using hi'), Option.getD_some] at h1
        exact h1
      have hpos : 0 < l.toList.count false := List.count_pos_iff.2 (by rw [← hb]; exact List.getElem_mem hi')
      have e1 : (false == false) = true := rfl
      have e2 : (true == false) = false := rfl
      rw [hb, e1, e2]
      simp only [if_true, Bool.false_eq_true, if_false]
      omega
/-- **The region, whatever its order.** -/
theorem wp_plan {id : Nat} {a : Act} {w : World} (V : Nat → Value → World → Prop) (T : World → World → Prop) (S : World → Prop) (hm : P.follows .mixedOrders = true) (hs : sound ops a.tmps.size = true) (hV : ∀ i v w w', V i v w → T w w' → V i v w') (hS : S w.drew)
    (step : ∀ (i : Nat) (o : Oper), ops[i]? = some o → Step P ops V T S a Qx i o)
    (fin : ∀ l a' w', (∀ i, i < ops.size → l.getD i false = true) → Inv ops V S a l a' w' → Qx .normal a' w') : (Code.region id ops true).wp P Qx a w := by
  refine wp_region_any hm ?_
  refine plan_any (a0 := a) hs hV step fin _ _ _ _ ?_ ⟨rfl, rfl, by simp, fun _ _ => rfl, fun i o hi hl => ?_, hS⟩
  · simp
  · have hlt : i < ops.size := (Array.getElem?_eq_some_iff.1 hi).1
    simp [Array.getD_eq_getD_getElem?, hlt] at hl
/-- An operation with one answer in every world that meets S. -/
theorem Step.pure {i : Nat} {o : Oper} (hi : ops[i]? = some o) (v : Value) (hT : ∀ w, T w w)
    (h : ∀ l a w, Inv ops V S a0 l a w → (∀ e ∈ o.after, Region.binds .any e = true → l.getD e.on false = true) →
      Region.wanted o (yielded ops a.tmps) = true ∧ (execOp a.eval o).run P w = .ok (.value v) w ∧ V i (match o.dst with | some _ => v | none => undef) w) : Step P ops V T S a0 Qx i o := by
  intro l a w hI hl
  obtain ⟨h1, h2, h3⟩ := h l a w hI hl
  unfold wpOp
  rw [hi]
  dsimp only
  rw [if_pos h1]
  refine .inl ?_
  unfold Oper.wp
  rw [h2, Oper.upon_value]
  exact ⟨v, rfl, hT w, hI.st, h3⟩
/-- Any operation that is done. -/
theorem Step.done {i : Nat} {o : Oper} (hi : ops[i]? = some o)
    (h : ∀ l a w, Inv ops V S a0 l a w → (∀ e ∈ o.after, Region.binds .any e = true → l.getD e.on false = true) →
      Region.wanted o (yielded ops a.tmps) = true ∧ o.wp P a w (fun a' w' => ∃ v, a' = a.put o.dst v ∧ T w w' ∧ S w' ∧ V i (match o.dst with | some _ => v | none => undef) w') Qx) : Step P ops V T S a0 Qx i o := by
  intro l a w hI hl
  obtain ⟨h1, h2⟩ := h l a w hI hl
  unfold wpOp
  rw [hi]
  dsimp only
  rw [if_pos h1]
  exact .inl h2
/-- An operation whose guard says no. -/
theorem Step.skip {i : Nat} {o : Oper} (hi : ops[i]? = some o) (hT : ∀ w, T w w)
    (h : ∀ l a w, Inv ops V S a0 l a w → (∀ e ∈ o.after, Region.binds .any e = true → l.getD e.on false = true) →
      Region.wanted o (yielded ops a.tmps) = false ∧ V i undef w) : Step P ops V T S a0 Qx i o := by
  intro l a w hI hl
  obtain ⟨h1, h2⟩ := h l a w hI hl
  unfold wpOp
  rw [hi]
  dsimp only
  rw [h1]
  refine ⟨undef, rfl, hT w, hI.st, ?_⟩
  cases o.dst <;> exact h2
/-- A call. -/
theorem Step.call {i : Nat} {o : Oper} {R : Value → World → World → Prop} (hi : ops[i]? = some o)
    (h : ∀ l a w, Inv ops V S a0 l a w → (∀ e ∈ o.after, Region.binds .any e = true → l.getD e.on false = true) →
      Region.wanted o (yielded ops a.tmps) = true ∧ ∃ f args, (execOp a.eval o).run P w = .ok (.enter f args) w ∧
        Calls P f args w fun e w' => ∃ v, e = .returned v ∧ T w w' ∧ S w' ∧ V i (match o.dst with | some _ => v | none => undef) w') : Step P ops V T S a0 Qx i o := by
  refine Step.done hi fun l a w hI hl => ?_
  obtain ⟨h1, f, args, h2, h3⟩ := h l a w hI hl
  refine ⟨h1, ?_⟩
  unfold Oper.wp
  rw [h2, Oper.upon_enter]
  refine h3.mono ?_
  rintro e w' ⟨v, rfl, t, s, hv⟩
  exact ⟨v, rfl, t, s, hv⟩
/-- What a slot that no operation writes holds. -/
def free (ops : Array Oper) (s : Nat) : Bool := ops.all fun o => match o.dst with | some d => !Nat.beq d s | none => true
theorem Inv.base {l : Array Bool} {a : Act} {w : World} (h : Inv ops V S a0 l a w) (s : Nat) (hf : free ops s = true) : a.eval (.tmp s) = a0.eval (.tmp s) := by
  show a.tmps.getD s undef = a0.tmps.getD s undef
  rw [Array.getD_eq_getD_getElem?, Array.getD_eq_getD_getElem?, h.old s]
  intro i o hi hd
  have := Array.all_eq_true_iff_forall_mem.1 hf o (Array.mem_of_getElem? hi)
  rw [hd] at this
  simp at this
/-- What an operation that came ahead left. -/
theorem Inv.at_ {l : Array Bool} {a : Act} {w : World} (h : Inv ops V S a0 l a w) (j d : Nat) (o : Oper) (hj : ops[j]? = some o) (hd : o.dst = some d) (hl : l.getD j false = true) : V j (a.eval (.tmp d)) w := by
  have := h.val j o hj hl
  unfold slot at this
  rw [hd] at this
  exact this
theorem wanted_of {o : Oper} {a : Act} {j d : Nat} {oj : Oper} {b : Bool} (hg : o.guard = some (j, b)) (hj : ops[j]? = some oj) (hd : oj.dst = some d) (hlt : d < a.tmps.size) (hv : a.eval (.tmp d) = .bool b) : Region.wanted o (yielded ops a.tmps) = true := by
  have h : a.tmps[d]? = some (.bool b) := by
    have : a.tmps.getD d undef = .bool b := hv
    rw [Array.getD_eq_getD_getElem?, Array.getElem?_eq_getElem hlt, Option.getD_some] at this
    rw [Array.getElem?_eq_getElem hlt, this]
  unfold Region.wanted yielded
  rw [hg]
  dsimp only
  rw [hj]
  simp [hd, h]
theorem wanted_none {o : Oper} {a : Act} (hg : o.guard = none) : Region.wanted o (yielded ops a.tmps) = true := by
  unfold Region.wanted; rw [hg]
theorem unwanted_of {o : Oper} {a : Act} {j d : Nat} {oj : Oper} {b : Bool} (hg : o.guard = some (j, b)) (hj : ops[j]? = some oj) (hd : oj.dst = some d) (hv : a.eval (.tmp d) = undef ∨ a.eval (.tmp d) = .bool (!b)) : Region.wanted o (yielded ops a.tmps) = false := by
  unfold Region.wanted yielded
  rw [hg]
  dsimp only
  rw [hj]
  have hv' : a.tmps.getD d undef = undef ∨ a.tmps.getD d undef = .bool (!b) := hv
  rw [Array.getD_eq_getD_getElem?] at hv'
  simp only [Option.bind_some, hd]
  cases h : a.tmps[d]? with
  | none => rfl
  | some x =>
    rw [h, Option.getD_some] at hv'
    rcases hv' with rfl | rfl
    · rfl
    · cases b <;> rfl
end
/-! ### What an operation does, from its operands' values -/
section
variable {P : Program} {o : Oper} {a : Act} {w : World} {x y z : Operand} {X Y Z v : Value}
theorem ex_move (ho : o.op = .move x) (hx : a.eval x = v) : (execOp a.eval o).run P w = .ok (.value v) w := by
  unfold execOp; simp only [ho, hx, Sem.run_pure]
theorem ex_assign (ho : o.op = .assign x) (hx : a.eval x = v) : (execOp a.eval o).run P w = .ok (.value v) w := by
  unfold execOp; simp only [ho, hx, Sem.run_pure]
theorem ex_pick_t (ho : o.op = .pick x y z) (hx : a.eval x = .bool true) (hy : a.eval y = v) : (execOp a.eval o).run P w = .ok (.value v) w := by
  unfold execOp; simp only [ho, hx, hy]; rfl
theorem ex_pick_f (ho : o.op = .pick x y z) (hx : a.eval x = .bool false) (hz : a.eval z = v) : (execOp a.eval o).run P w = .ok (.value v) w := by
  unfold execOp; simp only [ho, hx, hz]; rfl
theorem ex_bin {op : BinOp} {T T' : TypeId} (ho : o.op = .binOp op T x y T') (hx : a.eval x = X) (hy : a.eval y = Y)
    (h : (do eqGuard op T x y X Y; binOp op T X Y : Sem Value).run P w = .ok v w) : (execOp a.eval o).run P w = .ok (.value v) w := by
  unfold execOp; simp only [ho, hx, hy]
  simp only [Sem.run_bind] at h ⊢
  rw [h]; rfl
theorem ex_un {op : UnOp} {T : TypeId} (ho : o.op = .unOp op T x) (hx : a.eval x = X) (h : (Op.unary op X).run P w = .ok v w) : (execOp a.eval o).run P w = .ok (.value v) w := by
  unfold execOp; simp only [ho, hx]; rw [Sem.run_bind, h]; rfl
theorem ex_conv {s d : TypeId} (ho : o.op = .convert s d x) (hx : a.eval x = X) (h : (convert s d X).run P w = .ok v w) : (execOp a.eval o).run P w = .ok (.value v) w := by
  unfold execOp; simp only [ho, hx]; rw [Sem.run_bind, h]; rfl
theorem ex_load (ty : TypeId) (ho : o.op = .load ty x) (b : Nat) (cs : List Value) (d : TypeDesc) (hx : a.eval x = .pointer (some ⟨b, 0, none⟩)) (hr : w.rangeAt b 0 cs)
    (hu : P.underlying ty = some d) (hd : d.isRow = true) (hi : (P.info? ty).map (·.size) = some cs.length) : (execOp a.eval o).run P w = .ok (.value (.agg cs.toArray)) w := by
  unfold execOp
  simp only [ho, hx, Instr.loadAt, Instr.sureAddr, Sem.run_bind, Sem.run_pure, Result.andThen_ok, run_loadVar_mid w b 0 ty cs d hr hu hd hi]
end
/-! ### For the writing out -/
section
variable {P : Program} {ops : Array Oper} {Qx : Exit → Act → World → Prop} {V : Nat → Value → World → Prop} {T : World → World → Prop} {S : World → Prop} {a0 : Act}
theorem pget_at {l : List Oper} (h : ops = l.toArray) (i : Nat) {o : Oper} (e : l[i]? = some o) : ops[i]? = some o := by rw [h]; simpa using e
theorem at_eq {k : Nat} {X x : Value} {w : World} (hv : V k = fun v _ => v = X) (h : V k x w) : x = X := by rw [hv] at h; exact h
theorem at_mk {k : Nat} {X x : Value} {w : World} (hv : V k = fun v _ => v = X) (e : x = X) : V k x w := by rw [hv]; exact e
theorem at_p {k : Nat} {p : Value → World → Prop} {x : Value} {w : World} (hv : V k = p) (h : V k x w) : p x w := by rw [hv] at h; exact h
theorem p_at {k : Nat} {p : Value → World → Prop} {x : Value} {w : World} (hv : V k = p) (h : p x w) : V k x w := by rw [hv]; exact h
theorem hl_at {o : Oper} {l : Array Bool} (hl : ∀ e ∈ o.after, Region.binds .any e = true → l.getD e.on false = true) (idx : Nat) {e : Edge} (h : o.after[idx]? = some e) (hb : Region.binds .any e = true) : l.getD e.on false = true :=
  hl e (Array.mem_of_getElem? h) hb
theorem lt_of {l : Array Bool} {a : Act} {w : World} {n d : Nat} (h : Inv ops V S a0 l a w) (hz : a0.tmps.size = n) (hd : Nat.blt d n = true) : d < a.tmps.size := by
  rw [h.sz, hz]; rwa [Nat.blt_eq] at hd
def StepsFrom (P : Program) (ops : Array Oper) (V : Nat → Value → World → Prop) (T : World → World → Prop) (S : World → Prop) (a0 : Act) (Qx : Exit → Act → World → Prop) : Nat → List Oper → Prop
  | _, [] => True
  | k, o :: r => Step P ops V T S a0 Qx k o ∧ StepsFrom P ops V T S a0 Qx (k + 1) r
theorem sf_cons {k : Nat} {o : Oper} {r : List Oper} (h : Step P ops V T S a0 Qx k o) (t : StepsFrom P ops V T S a0 Qx (k + 1) r) : StepsFrom P ops V T S a0 Qx k (o :: r) := ⟨h, t⟩
theorem steps_from : ∀ (l : List Oper) (k : Nat), StepsFrom P ops V T S a0 Qx k l → ∀ (i : Nat) (o : Oper), l[i]? = some o → Step P ops V T S a0 Qx (k + i) o
  | [], _, _, i, o, h => by simp at h
  | o' :: r, k, h, 0, o, e => by
    simp only [List.getElem?_cons_zero, Option.some.injEq] at e
    subst e
    exact h.1
  | o' :: r, k, h, i + 1, o, e => by
    simp only [List.getElem?_cons_succ] at e
    have := steps_from r (k + 1) h.2 i o e
    rwa [show k + 1 + i = k + (i + 1) by omega] at this
theorem steps_all {l : List Oper} (hO : ops = l.toArray) (h : StepsFrom P ops V T S a0 Qx 0 l) (i : Nat) (o : Oper) (e : ops[i]? = some o) : Step P ops V T S a0 Qx i o := by
  have := steps_from l 0 h i o (by rw [hO] at e; simpa using e)
  rwa [Nat.zero_add] at this
def StableL (T : World → World → Prop) : List (Value → World → Prop) → Prop
  | [] => True
  | p :: r => (∀ v w w', p v w → T w w' → p v w') ∧ StableL T r
theorem sl_cons {p : Value → World → Prop} {r : List (Value → World → Prop)} (h : ∀ v w w', p v w → T w w' → p v w') (t : StableL T r) : StableL T (p :: r) := ⟨h, t⟩
theorem stable_all : ∀ (l : List (Value → World → Prop)), StableL T l → ∀ (i : Nat) v w w', l.getD i (fun _ _ => True) v w → T w w' → l.getD i (fun _ _ => True) v w'
  | [], _, i, v, w, w', h, _ => by simp
  | p :: r, h, 0, v, w, w', hp, t => by simp only [List.getD_cons_zero] at hp ⊢; exact h.1 v w w' hp t
  | p :: r, h, i + 1, v, w, w', hp, t => by simp only [List.getD_cons_succ] at hp ⊢; exact stable_all r h.2 i v w w' hp t
theorem stable_of {VL : List (Value → World → Prop)} (hV : V = fun i => VL.getD i (fun _ _ => True)) (h : StableL T VL) (i : Nat) (v : Value) (w w' : World) (hp : V i v w) (t : T w w') : V i v w' := by
  rw [hV] at hp ⊢; exact stable_all VL h i v w w' hp t
theorem region_gen3 {id : Nat} {fl : Bool} {a : Act} {w : World} (h : ∀ OPS QQ A, OPS = ops → QQ = Qx → A = a → (Code.region id OPS fl).wp P QQ A w) : (Code.region id ops fl).wp P Qx a w := h _ _ _ rfl rfl rfl
theorem vat {VL : List (Value → World → Prop)} (hV : V = fun i => VL.getD i (fun _ _ => True)) (i : Nat) : V i = VL.getD i (fun _ _ => True) := by rw [hV]
end
section
variable {P : Program} {o : Oper} {a : Act} {w : World} {x y z : Operand} {X Y Z v : Value} {K : Act → World → Prop} {Qx : Exit → Act → World → Prop}
theorem ev_const (a : Act) (v : Value) : a.eval (.const v) = v := rfl
theorem ex_call {f : FuncId} {ar : Array Operand} {args : Array Value} {ats : Array TypeId} (ho : o.op = .call ⟨.value (.func f), ar, ats⟩) (ha : ar.map a.eval = args) {fn : Func} (hf : P.funcs[f]? = some fn)
    (hn : (fn.name == "runtime.NumGoroutine") = false) (hb : fn.body.isNone = false) : (execOp a.eval o).run P w = .ok (.enter f args) w := by
  subst ha
  unfold execOp
  simp only [ho]
  have hn' : ¬ fn.name = "runtime.NumGoroutine" := by intro e; rw [e] at hn; simp at hn
  have hb' : ¬ fn.body = none := by intro e; rw [e] at hb; simp at hb
  simp [resolve, Deferred.ofValue, invoke, callFunc, hf, hn', hb', Act.eval]
theorem ex_len {T : TypeId} {s : ByteArray} {n : Int} (ho : o.op = .call ⟨.builtin .len, #[x], #[T]⟩) (hT : P.underlying T = some .string) (hx : a.eval x = .string s) (hs : (s.size : Int) = n) : (execOp a.eval o).run P w = .ok (.value (.int .i64 n)) w := by
  subst hs
  unfold execOp
  simp only [ho, resolve, List.map_toArray, List.map_cons, List.map_nil, hx]
  simp [invoke, builtin, go_sem, Builtin.len_, run_underlying hT]
theorem ex_build {t : TypeId} {parts : Array (Nat × Operand)} {cs : Array Value} (ho : o.op = .build t parts) (hb : P.built t (parts.map fun (i, x) => (i, a.eval x)).toList = some cs) : (execOp a.eval o).run P w = .ok (.value (.agg cs)) w := by
  unfold execOp
  simp only [ho, Sem.run_bind, run_build w t _ cs hb, Result.andThen_ok, Sem.run_pure]
theorem wp_enter {f : FuncId} {args : Array Value} (h1 : (execOp a.eval o).run P w = .ok (.enter f args) w) (h : Calls P f args w fun
      | .returned v, w'' => K (a.put o.dst v) w''
      | .panicked chain, w'' => Qx (.panic chain) a w''
      | .outgrown, _ => LetsOut Qx) : o.wp P a w K Qx := by
  unfold Oper.wp
  rw [h1, Oper.upon_enter]
  exact h
theorem wp_value (h1 : (execOp a.eval o).run P w = .ok (.value v) w) (h : K (a.put o.dst v) w) : o.wp P a w K Qx := by
  unfold Oper.wp
  rw [h1, Oper.upon_value]
  exact h
end
end Go.Proofs.Ytnojglfaijhiaaa.Plan
