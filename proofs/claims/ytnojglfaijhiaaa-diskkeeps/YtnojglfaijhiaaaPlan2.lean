/-
  A region whose order is drawn, with a last operation that waits for all others, and one ahead of it behind which only operations come that leave the world as it is.
-/
import Derived.Test.YtnojglfaijhiaaaPlan
namespace Go.Proofs.Ytnojglfaijhiaaa.Plan
open Go
set_option linter.unusedVariables false

section
variable {P : Program} {ops : Array Oper} {Qx : Exit → Act → World → Prop} {V : Nat → Value → World → Prop} {T : World → World → Prop} {S : World → Prop} {a0 : Act} {p n : Nat}

structure Inv2 (ops : Array Oper) (V : Nat → Value → World → Prop) (S : World → Prop) (a0 : Act) (p : Nat) (l : Array Bool) (a : Act) (w : World) : Prop where
  sz : a.tmps.size = a0.tmps.size
  df : a.defers = a0.defers
  lsz : l.size = ops.size
  old : ∀ s, (∀ (i : Nat) (o : Oper), ops[i]? = some o → o.dst ≠ some s) → a.tmps[s]? = a0.tmps[s]?
  val : ∀ (i : Nat) (o : Oper), ops[i]? = some o → l.getD i false = true → V i (slot a o) w
  st : l.getD p false = false → S w
  pl : ∀ (q : Nat), l.getD q false = true → ∀ (o : Oper), ops[q]? = some o → ∀ e ∈ o.after, Region.binds .any e = true → l.getD e.on false = true
/-- It is waited for by operation p, itself. -/
def dir (ops : Array Oper) (p i : Nat) : Bool := match ops[p]? with
  | none => false
  | some o => o.after.any fun e => Region.binds .any e && Nat.beq e.on i
theorem dir_spec {i : Nat} {o : Oper} (h : dir ops p i = true) (ho : ops[p]? = some o) : ∃ e ∈ o.after, Region.binds .any e = true ∧ e.on = i := by
  unfold dir at h
  rw [ho] at h
  dsimp only at h
  rw [Array.any_eq_true] at h
  obtain ⟨k, hk, h⟩ := h
  rw [Bool.and_eq_true] at h
  exact ⟨o.after[k], Array.getElem_mem hk, h.1, Nat.eq_of_beq_eq_true h.2⟩
/-- It is waited for by operation p, or by one that is waited for. -/
def reach (ops : Array Oper) : Nat → Nat → Nat → Bool
  | 0, _, _ => false
  | f + 1, p, i => dir ops p i || match ops[p]? with
    | none => false
    | some o => o.after.any fun e => Region.binds .any e && reach ops f e.on i
def ahead (ops : Array Oper) (p i : Nat) : Bool := reach ops 12 p i
theorem reach_listed {l : Array Bool} (pl : ∀ (q : Nat), l.getD q false = true → ∀ (o : Oper), ops[q]? = some o → ∀ e ∈ o.after, Region.binds .any e = true → l.getD e.on false = true) :
    ∀ (f p i : Nat), reach ops f p i = true → l.getD p false = true → l.getD i false = true
  | 0, _, _, h, _ => by cases h
  | f + 1, p, i, h, hp => by
    unfold reach at h
    rw [Bool.or_eq_true] at h
    cases ho : ops[p]? with
    | none =>
      rcases h with h | h
      · unfold dir at h; rw [ho] at h; cases h
      · rw [ho] at h; cases h
    | some o =>
      rcases h with h | h
      · obtain ⟨e, he, hb, rfl⟩ := dir_spec h ho
        exact pl p hp o ho e he hb
      · rw [ho] at h
        dsimp only at h
        rw [Array.any_eq_true] at h
        obtain ⟨k, hk, h⟩ := h
        rw [Bool.and_eq_true] at h
        exact reach_listed pl f _ i h.2 (pl p hp o ho _ (Array.getElem_mem hk) h.1)
/-- All others are waited for by the last one. -/
def lastOf (ops : Array Oper) (n : Nat) : Bool := (List.range n).all fun i => ahead ops n i
def After (o : Oper) (l : Array Bool) : Prop := ∀ e ∈ o.after, Region.binds .any e = true → l.getD e.on false = true
def Step2 (P : Program) (ops : Array Oper) (V : Nat → Value → World → Prop) (T : World → World → Prop) (S : World → Prop) (a0 : Act) (p : Nat) (Qx : Exit → Act → World → Prop) (i : Nat) (o : Oper) : Prop :=
  ahead ops p i = true ∧ ∀ l a w, Inv2 ops V S a0 p l a w → After o l → S w →
    wpOp P ops Qx i (fun a' w' => ∃ v, a' = a.put o.dst v ∧ T w w' ∧ S w' ∧ V i (match o.dst with | some _ => v | none => undef) w') a w
def StepP (P : Program) (ops : Array Oper) (V : Nat → Value → World → Prop) (T : World → World → Prop) (S : World → Prop) (a0 : Act) (p : Nat) (Qx : Exit → Act → World → Prop) (o : Oper) : Prop :=
  ∀ l a w, Inv2 ops V S a0 p l a w → After o l → S w →
    wpOp P ops Qx p (fun a' w' => ∃ v, a' = a.put o.dst v ∧ T w w' ∧ V p (match o.dst with | some _ => v | none => undef) w') a w
def StepQ (P : Program) (ops : Array Oper) (V : Nat → Value → World → Prop) (S : World → Prop) (a0 : Act) (p : Nat) (Qx : Exit → Act → World → Prop) (i : Nat) (o : Oper) : Prop :=
  ∀ l a w, Inv2 ops V S a0 p l a w → After o l →
    wpOp P ops Qx i (fun a' w' => ∃ v, a' = a.put o.dst v ∧ w' = w ∧ V i (match o.dst with | some _ => v | none => undef) w) a w
theorem Inv2.put {i : Nat} {l : Array Bool} {a : Act} {w w' : World} {o : Oper} {v : Value} (hs : sound ops a0.tmps.size = true) (h : Inv2 ops V S a0 p l a w) (hi : ops[i]? = some o) (hun : l.getD i true = false)
    (keep : ∀ j oj, j ≠ i → ops[j]? = some oj → l.getD j false = true → V j (slot a oj) w') (s : (l.setIfInBounds i true).getD p false = false → S w') (ha : After o l) (hv : V i (match o.dst with | some _ => v | none => undef) w') :
    Inv2 ops V S a0 p (l.setIfInBounds i true) (a.put o.dst v) w' := by
  have hlt : i < ops.size := (Array.getElem?_eq_some_iff.1 hi).1
  refine ⟨?_, ?_, by simp [h.lsz], fun s hs' => ?_, fun j oj hj hl => ?_, s, fun q hp op hop e he hb => ?_⟩
  · rw [← h.sz]; cases o.dst <;> simp [Act.put]
  · rw [← h.df]; cases o.dst <;> simp [Act.put]
  · cases hd : o.dst with
    | none => exact h.old s hs'
    | some d => rw [put_get (fun e => hs' i o hi (by rw [hd, e]))]; exact h.old s hs'
  · by_cases hij : i = j
    · subst hij
      obtain rfl : o = oj := Option.some.inj (hi.symm.trans hj)
      cases hd : o.dst with
      | none => rw [hd] at hv; simpa [slot, hd] using hv
      | some d =>
        rw [hd] at hv
        have hb : d < a.tmps.size := by rw [h.sz]; exact ((sound_spec hs hi).2 d hd).1
        simp only [slot, hd]
        rw [put_self hb]
        exact hv
    · have hl' : l.getD j false = true := by rw [getD_set_ne false hij] at hl; exact hl
      have h0 := keep j oj (Ne.symm hij) hj hl'
      cases hd : o.dst with
      | none => exact h0
      | some d =>
        have hne := sound_ne hs hi hj hij hd
        unfold slot at h0 ⊢
        cases hd' : oj.dst with
        | none => rw [hd'] at h0; exact h0
        | some d' =>
          rw [hd'] at h0
          dsimp only at h0 ⊢
          rw [Array.getD_eq_getD_getElem?, put_get (fun e => hne (by rw [hd', e])), ← Array.getD_eq_getD_getElem?]
          exact h0
  · by_cases hpi : i = q
    · subst hpi
      obtain rfl : o = op := Option.some.inj (hi.symm.trans hop)
      exact getD_set_true (ha e he hb)
    · rw [getD_set_ne false hpi] at hp
      exact getD_set_true (h.pl q hp op hop e he hb)
theorem wpAny_all {md : Region.Mode} {l : Array Bool} {a : Act} {w : World} (hl : Region.ready md ops l = []) (q : Qx .normal a w) : ∀ fuel, wpAny P md ops Qx fuel l a w
  | 0 => ⟨hl, q⟩
  | fuel + 1 => ⟨fun _ => q, fun i hi => by rw [hl] at hi; cases hi⟩
theorem getD_or {l : Array Bool} {i : Nat} (h : i < l.size) : l.getD i true = l.getD i false := by
  rw [Array.getD_eq_getD_getElem?, Array.getD_eq_getD_getElem?, Array.getElem?_eq_getElem h]; rfl
theorem plan2_any (hs : sound ops a0.tmps.size = true) (hn : ops.size = n + 1) (hla : lastOf ops n = true) (hV : ∀ i v w w', i ≠ p → V i v w → T w w' → V i v w')
    (step : ∀ (i : Nat) (o : Oper), i < n → ops[i]? = some o → Step2 P ops V T S a0 p Qx i o ∨ (i = p ∧ StepP P ops V T S a0 p Qx o) ∨ StepQ P ops V S a0 p Qx i o)
    (fin : ∀ l a w, (∀ i, i < n → l.getD i false = true) → l.getD n false = false → Inv2 ops V S a0 p l a w → wpOp P ops Qx n (fun a w => Qx .normal a w) a w) :
    ∀ fuel l a w, l.toList.count false ≤ fuel → l.getD n true = false → Inv2 ops V S a0 p l a w → wpAny P .any ops Qx fuel l a w := by
  have hall : ∀ (l : Array Bool), (∀ (q : Nat), l.getD q false = true → ∀ (o : Oper), ops[q]? = some o → ∀ e ∈ o.after, Region.binds .any e = true → l.getD e.on false = true) → l.getD n true = false → n ∈ Region.ready .any ops l → ∀ i, i < n → l.getD i false = true := by
    intro l hl hln hm i hi
    obtain ⟨_, o, h2, h3⟩ := mem_ready.1 hm
    have h4 := List.all_eq_true.1 hla i (List.mem_range.2 hi)
    unfold ahead reach at h4
    rw [Bool.or_eq_true] at h4
    rcases h4 with h4 | h4
    · obtain ⟨e, he, hb, rfl⟩ := dir_spec h4 h2
      exact h3 e he hb
    · rw [h2] at h4
      dsimp only at h4
      rw [Array.any_eq_true] at h4
      obtain ⟨k, hk, h5⟩ := h4
      rw [Bool.and_eq_true] at h5
      exact reach_listed hl _ _ i h5.2 (h3 _ (Array.getElem_mem hk) h5.1)
  intro fuel
  induction fuel with
  | zero =>
    intro l a w hc hln h
    exfalso
    have h0 : false ∉ l.toList := List.count_eq_zero.1 (by omega)
    have hi' : n < l.size := by rw [h.lsz]; omega
    rw [Array.getD_eq_getD_getElem?, Array.getElem?_eq_getElem hi', Option.getD_some] at hln
    exact h0 (by rw [← hln]; exact Array.getElem_mem_toList hi')
  | succ fuel ih =>
    intro l a w hc hln h
    have hnn : n < l.size := by rw [h.lsz]; omega
    refine ⟨fun hr => ?_, fun i hi => ?_⟩
    · exfalso
      have hl : ∀ i, i < ops.size → l.getD i false = true := by
        intro i
        induction i using Nat.strongRecOn with
        | ind i ihi =>
          intro hlt
          cases hb : l.getD i false with
          | true => rfl
          | false =>
            have hmem : i ∈ Region.ready .any ops l := by
              refine mem_ready.2 ⟨?_, ops[i], Array.getElem?_eq_getElem hlt, fun e he hbd => ?_⟩
              · rw [getD_or (by rw [h.lsz]; exact hlt)]; exact hb
              · have := (sound_spec hs (Array.getElem?_eq_getElem hlt)).1 e he hbd
                exact ihi e.on this (by omega)
            rw [hr] at hmem; cases hmem
      have := hl n (by omega)
      rw [getD_or hnn] at hln
      rw [this] at hln; cases hln
    · obtain ⟨h1, o, h2, h3⟩ := mem_ready.1 hi
      have hlt : i < ops.size := (Array.getElem?_eq_some_iff.1 h2).1
      have hi' : i < l.toList.length := by rw [Array.length_toList, h.lsz]; exact hlt
      by_cases hin : i = n
      · subst hin
        have ha := hall l h.pl hln hi
        refine wpOp_mono ?_ (fin l a w ha (by rw [← getD_or (by rw [h.lsz]; exact hlt)]; exact h1) h)
        intro a' w' q
        refine wpAny_all ?_ q fuel
        refine List.eq_nil_iff_forall_not_mem.2 fun j hj => ?_
        obtain ⟨g1, oj, g2, _⟩ := mem_ready.1 hj
        have hlt' : j < ops.size := (Array.getElem?_eq_some_iff.1 g2).1
        by_cases hjn : i = j
        · subst hjn
          rw [getD_or (by rw [Array.size_setIfInBounds, h.lsz]; exact hlt'), getD_set_self (by rw [h.lsz]; exact hlt)] at g1; cases g1
        · rw [getD_set_ne true hjn, getD_or (by rw [h.lsz]; exact hlt'), ha j (by omega)] at g1; cases g1
      · have hcnt : (l.setIfInBounds i true).toList.count false ≤ fuel := by
          rw [Array.toList_setIfInBounds, List.count_set hi']
          have hb : l.toList[i] = false := by
            rw [Array.getElem_toList]
            rw [Array.getD_eq_getD_getElem?, Array.getElem?_eq_getElem (by simpa using hi'), Option.getD_some] at h1
            exact h1
          have hpos : 0 < l.toList.count false := List.count_pos_iff.2 (by rw [← hb]; exact List.getElem_mem hi')
          have e1 : (false == false) = true := rfl
          have e2 : (true == false) = false := rfl
          rw [hb, e1, e2]
          simp only [if_true, Bool.false_eq_true, if_false]
          omega
        have hln' : (l.setIfInBounds i true).getD n true = false := by rw [getD_set_ne true hin]; exact hln
        have hun : l.getD i false = false := by rw [← getD_or (by rw [h.lsz]; exact hlt)]; exact h1
        rcases step i o (by omega) h2 with ⟨hpre, st⟩ | ⟨rfl, st⟩ | st
        · have hnp : l.getD p false = false := by
            cases hb : l.getD p false with
            | false => rfl
            | true => rw [reach_listed h.pl _ _ _ hpre hb] at hun; cases hun
          refine wpOp_mono ?_ (st l a w h h3 (h.st hnp))
          rintro a' w' ⟨v, rfl, t, s, hv⟩
          exact ih _ _ _ hcnt hln' (h.put hs h2 h1 (fun j oj _ hj hl => hV j _ _ _ (fun e => by rw [e, hnp] at hl; cases hl) (h.val j oj hj hl) t) (fun _ => s) h3 hv)
        · refine wpOp_mono ?_ (st l a w h h3 (h.st hun))
          rintro a' w' ⟨v, rfl, t, hv⟩
          exact ih _ _ _ hcnt hln' (h.put hs h2 h1 (fun j oj hj1 hj hl => hV j _ _ _ hj1 (h.val j oj hj hl) t) (fun hb => by rw [getD_set_self (by rw [h.lsz]; exact hlt)] at hb; cases hb) h3 hv)
        · refine wpOp_mono ?_ (st l a w h h3)
          rintro a' w' ⟨v, rfl, rfl, hv⟩
          refine ih _ _ _ hcnt hln' (h.put hs h2 h1 (fun j oj _ hj hl => h.val j oj hj hl) (fun hb => h.st ?_) h3 hv)
          by_cases hip : i = p
          · subst hip; rw [getD_set_self (by rw [h.lsz]; exact hlt)] at hb; cases hb
          · rw [getD_set_ne false hip] at hb; exact hb
theorem wp_plan2 {id : Nat} {a : Act} {w : World} (V : Nat → Value → World → Prop) (T : World → World → Prop) (S : World → Prop) (p n : Nat) (hm : P.follows .mixedOrders = true) (hs : sound ops a.tmps.size = true) (hn : ops.size = n + 1) (hla : lastOf ops n = true)
    (hV : ∀ i v w w', i ≠ p → V i v w → T w w' → V i v w') (hS : S w.drew)
    (step : ∀ (i : Nat) (o : Oper), i < n → ops[i]? = some o → Step2 P ops V T S a p Qx i o ∨ (i = p ∧ StepP P ops V T S a p Qx o) ∨ StepQ P ops V S a p Qx i o)
    (fin : ∀ l a' w', (∀ i, i < n → l.getD i false = true) → l.getD n false = false → Inv2 ops V S a p l a' w' → wpOp P ops Qx n (fun a w => Qx .normal a w) a' w') : (Code.region id ops true).wp P Qx a w := by
  have hff : ∀ i, (Array.replicate ops.size false).getD i false = false := fun i => by
    rw [Array.getD_eq_getD_getElem?]
    by_cases h : i < ops.size <;> simp [h]
  refine wp_region_any hm ?_
  refine plan2_any (a0 := a) hs hn hla hV step fin _ _ _ _ ?_ ?_ ⟨rfl, rfl, by simp, fun _ _ => rfl, fun i o hi hl => ?_, fun _ => hS, fun q hp => ?_⟩
  · simp
  · rw [getD_or (by simp; omega)]; exact hff n
  · rw [hff] at hl; cases hl
  · rw [hff] at hp; cases hp
end
section
variable {P : Program} {ops : Array Oper} {Qx : Exit → Act → World → Prop} {V : Nat → Value → World → Prop} {T : World → World → Prop} {S : World → Prop} {a0 : Act} {p n : Nat}
theorem Step2.pure {i : Nat} {o : Oper} (hi : ops[i]? = some o) (hpre : ahead ops p i = true) (v : Value) (hT : ∀ w, T w w)
    (h : ∀ l a w, Inv2 ops V S a0 p l a w → After o l → S w → Region.wanted o (yielded ops a.tmps) = true ∧ (execOp a.eval o).run P w = .ok (.value v) w ∧ V i (match o.dst with | some _ => v | none => undef) w) : Step2 P ops V T S a0 p Qx i o := by
  refine ⟨hpre, fun l a w hI hl hS => ?_⟩
  obtain ⟨h1, h2, h3⟩ := h l a w hI hl hS
  unfold wpOp
  rw [hi]
  dsimp only
  rw [if_pos h1]
  refine .inl ?_
  unfold Oper.wp
  rw [h2, Oper.upon_value]
  exact ⟨v, rfl, hT w, hS, h3⟩
theorem Step2.done {i : Nat} {o : Oper} (hi : ops[i]? = some o) (hpre : ahead ops p i = true)
    (h : ∀ l a w, Inv2 ops V S a0 p l a w → After o l → S w → Region.wanted o (yielded ops a.tmps) = true ∧ o.wp P a w (fun a' w' => ∃ v, a' = a.put o.dst v ∧ T w w' ∧ S w' ∧ V i (match o.dst with | some _ => v | none => undef) w') Qx) : Step2 P ops V T S a0 p Qx i o := by
  refine ⟨hpre, fun l a w hI hl hS => ?_⟩
  obtain ⟨h1, h2⟩ := h l a w hI hl hS
  unfold wpOp
  rw [hi]
  dsimp only
  rw [if_pos h1]
  exact .inl h2
theorem StepP.done {o : Oper} (hi : ops[p]? = some o)
    (h : ∀ l a w, Inv2 ops V S a0 p l a w → After o l → S w → Region.wanted o (yielded ops a.tmps) = true ∧ o.wp P a w (fun a' w' => ∃ v, a' = a.put o.dst v ∧ T w w' ∧ V p (match o.dst with | some _ => v | none => undef) w') Qx) : StepP P ops V T S a0 p Qx o := by
  intro l a w hI hl hS
  obtain ⟨h1, h2⟩ := h l a w hI hl hS
  unfold wpOp
  rw [hi]
  dsimp only
  rw [if_pos h1]
  exact .inl h2
theorem StepQ.pure {i : Nat} {o : Oper} (hi : ops[i]? = some o) (v : Value)
    (h : ∀ l a w, Inv2 ops V S a0 p l a w → After o l → Region.wanted o (yielded ops a.tmps) = true ∧ (execOp a.eval o).run P w = .ok (.value v) w ∧ V i (match o.dst with | some _ => v | none => undef) w) : StepQ P ops V S a0 p Qx i o := by
  intro l a w hI hl
  obtain ⟨h1, h2, h3⟩ := h l a w hI hl
  unfold wpOp
  rw [hi]
  dsimp only
  rw [if_pos h1]
  refine .inl ?_
  unfold Oper.wp
  rw [h2, Oper.upon_value]
  exact ⟨v, rfl, rfl, h3⟩
theorem Inv2.base {l : Array Bool} {a : Act} {w : World} (h : Inv2 ops V S a0 p l a w) (s : Nat) (hf : free ops s = true) : a.eval (.tmp s) = a0.eval (.tmp s) := by
  show a.tmps.getD s undef = a0.tmps.getD s undef
  rw [Array.getD_eq_getD_getElem?, Array.getD_eq_getD_getElem?, h.old s]
  intro i o hi hd
  have := Array.all_eq_true_iff_forall_mem.1 hf o (Array.mem_of_getElem? hi)
  rw [hd] at this
  simp at this
theorem Inv2.at_ {l : Array Bool} {a : Act} {w : World} (h : Inv2 ops V S a0 p l a w) (j d : Nat) (o : Oper) (hj : ops[j]? = some o) (hd : o.dst = some d) (hl : l.getD j false = true) : V j (a.eval (.tmp d)) w := by
  have := h.val j o hj hl
  unfold slot at this
  rw [hd] at this
  exact this
theorem Inv2.no {l : Array Bool} {a : Act} {w : World} (h : Inv2 ops V S a0 p l a w) (j : Nat) (o : Oper) (hj : ops[j]? = some o) (hd : o.dst = none) (hl : l.getD j false = true) : V j undef w := by
  have := h.val j o hj hl
  unfold slot at this
  rw [hd] at this
  exact this
theorem lt_of2 {l : Array Bool} {a : Act} {w : World} {m d : Nat} (h : Inv2 ops V S a0 p l a w) (hz : a0.tmps.size = m) (hd : Nat.blt d m = true) : d < a.tmps.size := by
  rw [h.sz, hz]; rwa [Nat.blt_eq] at hd
theorem fin_of {K : Act → World → Prop} {o : Oper} {a : Act} {w : World} (hi : ops[n]? = some o) (hw : Region.wanted o (yielded ops a.tmps) = true) (h : o.wp P a w K Qx) : wpOp P ops Qx n K a w := by
  unfold wpOp
  rw [hi]
  dsimp only
  rw [if_pos hw]
  exact .inl h
/-- All steps but the last one's. -/
def Steps2 (P : Program) (ops : Array Oper) (V : Nat → Value → World → Prop) (T : World → World → Prop) (S : World → Prop) (a0 : Act) (p : Nat) (Qx : Exit → Act → World → Prop) : Nat → List Oper → Prop
  | _, [] => True
  | k, o :: r => (Step2 P ops V T S a0 p Qx k o ∨ (k = p ∧ StepP P ops V T S a0 p Qx o) ∨ StepQ P ops V S a0 p Qx k o) ∧ Steps2 P ops V T S a0 p Qx (k + 1) r
theorem s2_cons {k : Nat} {o : Oper} {r : List Oper} (h : Step2 P ops V T S a0 p Qx k o) (t : Steps2 P ops V T S a0 p Qx (k + 1) r) : Steps2 P ops V T S a0 p Qx k (o :: r) := ⟨.inl h, t⟩
theorem sp_cons {k : Nat} {o : Oper} {r : List Oper} (e : k = p) (h : StepP P ops V T S a0 p Qx o) (t : Steps2 P ops V T S a0 p Qx (k + 1) r) : Steps2 P ops V T S a0 p Qx k (o :: r) := ⟨.inr (.inl ⟨e, h⟩), t⟩
theorem sq_cons {k : Nat} {o : Oper} {r : List Oper} (h : StepQ P ops V S a0 p Qx k o) (t : Steps2 P ops V T S a0 p Qx (k + 1) r) : Steps2 P ops V T S a0 p Qx k (o :: r) := ⟨.inr (.inr h), t⟩
theorem steps2_from : ∀ (l : List Oper) (k : Nat), Steps2 P ops V T S a0 p Qx k l → ∀ (i : Nat) (o : Oper), l[i]? = some o → Step2 P ops V T S a0 p Qx (k + i) o ∨ (k + i = p ∧ StepP P ops V T S a0 p Qx o) ∨ StepQ P ops V S a0 p Qx (k + i) o
  | [], _, _, i, o, h => by simp at h
  | o' :: r, k, h, 0, o, e => by
    simp only [List.getElem?_cons_zero, Option.some.injEq] at e
    subst e
    exact h.1
  | o' :: r, k, h, i + 1, o, e => by
    simp only [List.getElem?_cons_succ] at e
    have := steps2_from r (k + 1) h.2 i o e
    rwa [show k + 1 + i = k + (i + 1) by omega] at this
theorem steps2_all {l : List Oper} (hO : ops = l.toArray) (l' : List Oper) (hl : l.take n = l') (h : Steps2 P ops V T S a0 p Qx 0 l') (i : Nat) (o : Oper) (hi : i < n) (e : ops[i]? = some o) : Step2 P ops V T S a0 p Qx i o ∨ (i = p ∧ StepP P ops V T S a0 p Qx o) ∨ StepQ P ops V S a0 p Qx i o := by
  have := steps2_from l' 0 h i o (by rw [← hl, List.getElem?_take_of_lt hi]; rw [hO] at e; simpa using e)
  rwa [Nat.zero_add] at this
def StableX (T : World → World → Prop) (p : Nat) : Nat → List (Value → World → Prop) → Prop
  | _, [] => True
  | k, q :: r => (k = p ∨ ∀ v w w', q v w → T w w' → q v w') ∧ StableX T p (k + 1) r
theorem sx_cons {k : Nat} {q : Value → World → Prop} {r : List (Value → World → Prop)} (h : ∀ v w w', q v w → T w w' → q v w') (t : StableX T p (k + 1) r) : StableX T p k (q :: r) := ⟨.inr h, t⟩
theorem sx_skip {k : Nat} {q : Value → World → Prop} {r : List (Value → World → Prop)} (e : k = p) (t : StableX T p (k + 1) r) : StableX T p k (q :: r) := ⟨.inl e, t⟩
theorem stablex_from : ∀ (l : List (Value → World → Prop)) (k : Nat), StableX T p k l → ∀ (i : Nat) v w w', k + i ≠ p → l.getD i (fun _ _ => True) v w → T w w' → l.getD i (fun _ _ => True) v w'
  | [], _, _, i, v, w, w', _, h, _ => by simp
  | q :: r, k, h, 0, v, w, w', hne, hp, t => by simp only [List.getD_cons_zero] at hp ⊢; exact h.1.elim (fun e => absurd e hne) (fun f => f v w w' hp t)
  | q :: r, k, h, i + 1, v, w, w', hne, hp, t => by simp only [List.getD_cons_succ] at hp ⊢; exact stablex_from r (k + 1) h.2 i v w w' (by omega) hp t
theorem stablex_of {VL : List (Value → World → Prop)} (hV : V = fun i => VL.getD i (fun _ _ => True)) (h : StableX T p 0 VL) (i : Nat) (v : Value) (w w' : World) (hne : i ≠ p) (hp : V i v w) (t : T w w') : V i v w' := by
  rw [hV] at hp ⊢; exact stablex_from VL 0 h i v w w' (by omega) hp t
/-- The slots, one by one. -/
def Slots (a : Act) : Nat → List Value → Prop
  | _, [] => True
  | k, v :: r => a.eval (.tmp k) = v ∧ Slots a (k + 1) r
theorem sl1 {a : Act} {k : Nat} {v : Value} {r : List Value} (h : a.eval (.tmp k) = v) (t : Slots a (k + 1) r) : Slots a k (v :: r) := ⟨h, t⟩
theorem slots_at {a : Act} : ∀ (l : List Value) (k : Nat), Slots a k l → ∀ i v, l[i]? = some v → a.tmps.getD (k + i) undef = v
  | [], _, _, i, v, h => by simp at h
  | x :: r, k, h, 0, v, e => by simp only [List.getElem?_cons_zero, Option.some.injEq] at e; subst e; exact h.1
  | x :: r, k, h, i + 1, v, e => by
    simp only [List.getElem?_cons_succ] at e
    have := slots_at r (k + 1) h.2 i v e
    rwa [show k + 1 + i = k + (i + 1) by omega] at this
theorem act_eq {a : Act} {D : List Deferred} (l : List Value) (hs : a.tmps.size = l.length) (hd : a.defers = D) (h : Slots a 0 l) : a = ⟨l.toArray, D⟩ := by
  obtain ⟨ts, ds⟩ := a
  dsimp only at hs hd
  subst hd
  have : ts = l.toArray := by
    apply Array.ext
    · simpa using hs
    · intro i h1 h2
      have h3 : i < l.length := by simpa using h2
      have := slots_at l 0 h i l[i] (List.getElem?_eq_getElem h3)
      rw [Nat.zero_add, Array.getD_eq_getD_getElem?, Array.getElem?_eq_getElem h1, Option.getD_some] at this
      simpa using this
  rw [this]
end
end Go.Proofs.Ytnojglfaijhiaaa.Plan
