import Derived.Test.YtobfgljkckcmcaaGreatDoorYHKit
import Derived.Test.YtobfgljkckcmcaaGreatDoorYHCoiA
import Derived.Test.YtobfgljkckcmcaaGreatDoorYHCoiB
import Derived.Maps.AppendAt
import Derived.Deep.RegionHeld
import Derived.Deep.MidRow
import Derived.Test.YtobfgljkckcmcaaGreatDoorYHCoiC
set_option maxRecDepth 100000
namespace Go.Proofs.YtobfgljkckcmcaaGreatDoor.Num
open Go.RowKit
open Mem
set_option linter.unusedVariables false
/-- The sum of the first k. -/
def SU (f : Nat → Int) : Nat → Int
 | 0 => 0
 | k + 1 => SU f k + f k
def sumV (f : Nat → Int) (n : Nat) : Int := if SU f n ≤ 18446744073709551615 then SU f n else 0
def sumE (f : Nat → Int) (n : Nat) : Int := if SU f n ≤ 18446744073709551615 then 0 else 2
/-- A slice's numbers: cell i behind its address holds number i. -/
def RowU (w : World) (b off len : Nat) (f : Nat → Int) : Prop := ∀ i, i < len → w.cell? ⟨b, off + i, none⟩ = some (.int .u64 (f i))
end Go.Proofs.YtobfgljkckcmcaaGreatDoor.Num
namespace Go.Proofs.YtobfgljkckcmcaaGreatDoor.Coi
open Go.RowKit
open Mem Num Cod Sh
set_option linter.unusedVariables false
def wTx : ByteArray := ⟨#[116, 120]⟩
def wLock : ByteArray := ⟨#[108, 111, 99, 107]⟩
def duo (a b : ByteArray) (i : Nat) : ByteArray := if i = 0 then a else b
theorem tagS_size (word : ByteArray) (ps : Nat → ByteArray) (n : Nat) : (tagS word ps n).size = 16 := shortS_size _
theorem row1 (w : World) (t : ByteArray) (T : TypeId) : RowS (w.alloc (.cells #[.string t] T)) w.heap.size 0 1 (fun _ => t) := by
 intro i hi
 rw [World.cell?_alloc_at _ _ _ _ rfl, Nat.zero_add]
 obtain rfl : i = 0 := by omega
 rfl
theorem tag1_x {W : World} (word t x : ByteArray) (hx : tagS word (fun _ => t) 1 = x) (T : TypeId) (w : World) (b : Nat) (hb : w.heap.size = b) (q : Q W w) (hG : GL W) (hw : word.size ≤ 1000000) (ht : t.size ≤ 1000000) :
 Calls Tryz.prog 71 #[.string word, .slice (some ⟨b, 0, none⟩) 1 1] (w.alloc (.cells #[.string t] T)) fun e w' => e = .returned (.string x) ∧ Q W w' := by
 subst hb; subst hx; exact tag_any word w.heap.size 0 1 1 (fun _ => t) _ (q.alloc _) hG (row1 w t T) (fun _ => by simp) hw (by omega) (fun _ => ht)
theorem rtag1_x {W : World} (word t x : ByteArray) (hx : tagS word (fun _ => t) 1 = x) (T : TypeId) (w : World) (b : Nat) (hb : w.heap.size = b) (q : Q W w) (hw : word.size ≤ 1000000) (ht : t.size ≤ 1000000) :
 Calls Tryz.prog 72 #[.string word, .slice (some ⟨b, 0, none⟩) 1 1] (w.alloc (.cells #[.string t] T)) fun e w' => e = .returned (.string x) ∧ Q W w' := by
 subst hb; subst hx; exact rtag_any word w.heap.size 0 1 1 (fun _ => t) _ (q.alloc _) (row1 w t T) (fun _ => by simp) hw (by omega) (fun _ => ht)
def idS (t : TX) : ByteArray := tagS wTx (fun _ => coreS t) 1
theorem idS_size (t : TX) : (idS t).size = 16 := tagS_size _ _ _
def nmS (tx : ByteArray) (o : Int) : ByteArray := tagS wLock (duo tx (strOfNums [IntKind.u8.wrap o])) 2
set_option maxHeartbeats 4000000 in
theorem id_x (t : TX) (aI aO aW : Option Addr) (cI cO cW : Nat) (w : World) (hG : GL w) (h : TM w aI cI aO aW t) (hk : t.ok) :
 Calls Tryz.prog 18 #[txV t aI cI aO cO aW cW] w (Enc (RightT t) (idS t) w) := by
 have HR : Hid (∀ o, Calls Tryz.prog 16 #[txV t aI cI aO cO aW cW] (w.alloc o) (Enc (RightT t) (coreS t) (w.alloc o))) := fun o => core_x t aI aO aW cI cO cW _ (h.q ((Q.refl w).alloc o)) hk
 have HQ : Hid (∀ o, Q w (w.alloc o)) := fun o => (Q.refl w).alloc o
 clear h hk
 go_enter Tryz.func18, Tryz.ntmps18
 go_wp2_with fail
 refine (HR.out _).mono ?_
 rintro e w1 ⟨s, rfl, hz, q1⟩
 have Q1 := Lib.hid ((HQ.out _).trans q1)
 clear q1 HR HQ
 rcases hz with ⟨Z, hs⟩ | ⟨Z, rfl⟩
 · have Z1 := Lib.hid Z
   have hsz := coreS_size t Z
   have s0 : s.toList ≠ [] := by rw [ne_eq, tl_nil, hs]; have := coreS_pos t; omega
   have s1 : s.toList.isEmpty = false := by simpa using s0
   have HS : Hid (tagS wTx (fun _ => s) 1 = idS t) := by show _ = _; rw [hs]; rfl
   have zs : s.size ≤ 1000000 := by rw [hs]; omega
   clear Z hs hsz
   have C := Lib.hid fun T => tag1_x wTx s (idS t) HS.out T w1 _ rfl Q1.out hG (by decide) zs
   go_wp2_with fail
   refine (C.out _).mono ?_
   rintro e w2 ⟨rfl, q2⟩
   have Q2 := Lib.hid q2
   clear q2
   go_wp2_with fail
   go_ret
   exact Enc.yes Z1.out rfl Q2.out
 · have Z1 := Lib.hid Z
   clear Z
   go_wp2_with fail
   go_ret
   exact Enc.no Z1.out Q1.out
def UC (x : Int) : List Value := [.int .u64 x]
def amt (f : Nat → OU) (i : Nat) : Int := (f i).amount
open Mem Num Cod
/-- A row was made longer: it lies where it lay, or in the block that was just made. -/
structure Grow (w w' : World) (o : Option Nat) (g' : Nat) : Prop where
 gr : w.grownBy w' o
 at_ : o = some g' ∨ g' = w.heap.size
def blk (a : Option Addr) : Option Nat := a.map (·.block)
/-- Two rows do not lie in one block. -/
def Apart (a b : Option Addr) : Prop := ∀ x y, a = some x → b = some y → x.block ≠ y.block
theorem Apart.symm {a b : Option Addr} (h : Apart a b) : Apart b a := fun x y hx hy e => h y x hy hx e.symm
section
variable {α β : Type} {C : α → List Value} {D : β → List Value} {k k' : Nat} {t t' : TypeId} {w w' : World} {B B' n n' cap cap' g' : Nat} {a a' : Option Addr} {f : Nat → α} {h : Nat → β}
theorem own_blk (a : Option Addr) (n c : Nat) : (Value.slice a n c).ownBlock = blk a := by cases a <;> rfl
/-- Another row stays. -/
theorem OR.over (H : OR t' D k' w B' a' n' cap' h) (hne : Apart a a') (G : Grow w w' (blk a) g') : OR t' D k' w' B' a' n' cap' h ∧ Apart (some ⟨g', 0, none⟩) a' := by
 constructor
 · refine World.ownsRow.kept H G.gr ?_
   rw [own_blk]
   cases a' with
   | none => exact .inl rfl
   | some y =>
    refine .inr ?_
    cases a with
    | none => simp [blk]
    | some x =>
     have := hne x y rfl rfl
     simp only [blk, Option.map_some, ne_eq, Option.some.injEq]
     exact fun e => this e.symm
 · intro x y hx hy
   injection hx with hx; subst hx; subst hy
   show g' ≠ y.block
   rcases G.at_ with e | e
   · cases a with
     | none => cases e
     | some x =>
      have := hne x y rfl rfl
      simp only [blk, Option.map_some, Option.some.injEq] at e
      omega
   · rcases H.shape with ⟨e1, _⟩ | ⟨b, e1, _, hl, _⟩
     · cases e1
     · injection e1 with e1; subst e1; show g' ≠ b; omega
theorem OR.q_grow {W : World} (H : OR t C k w B a n cap f) (q : Q W w) (hB : W.heap.size ≤ B) (G : Grow w w' (blk a) g') : Q W w' := by
 refine Below.grown q G.gr q.size (fun j hj => ?_)
 rw [← own_blk a n cap] at hj
 exact Nat.le_trans hB (World.ownsRow.lt H j hj).1
theorem OR.made0 (t : TypeId) (C : α → List Value) (k : Nat) (w : World) (B : Nat) (hB : B ≤ w.heap.size) (f : Nat → α) : OR t C k (w.alloc (.cells #[] t)) B (some ⟨w.heap.size, 0, none⟩) 0 0 f :=
 ⟨by simp [rc], .inr ⟨w.heap.size, 0, #[], rfl, hB, heap_alloc_new w _, Nat.le_refl _, by unfold maxLen; omega, by simp, by simp [rc]⟩⟩
theorem wpl_app {P : Program} {ops : Array Oper} {rest : List Oper} {o : Oper} {c : Act} {Q : Exit → Act → World → Prop} (hgd : o.guard = none) (s x : Operand) (ts : TypeId)
 (ho : o.op = .call { callee := .builtin .append, args := #[s, x], argTypes := #[ts, ts] }) (i : TypeInfo) (z : Value) (bytes : Nat) (ht : P.underlying ts = some (.slice t)) (hi : P.info? t = some i) (hz : i.zero = some z)
 (hsize : i.size = k) (hby : i.bytes = bytes) (hzs : z.cells.size = k) (hsz : 0 < k) (hs : c.eval s = .slice a n cap) (H : OR t C k w B a n cap f)
 (g : Nat) (hx : c.eval x = .slice (some ⟨g, 0, none⟩) 1 1) (hl : (C (f n)).length = k) (hnews : ∀ j u, (C (f n))[j]? = some u → w.cell? ⟨g, j, none⟩ = some u) (h1 : ∀ u ∈ C (f n), u.oneCell' = true)
 (h63 : n + 1 ≤ 1000000) (hbytes : bytes ≤ 1000000) (hbase : B ≤ w.heap.size)
 (h : ∀ g' cap' w', OR t C k w' B (some ⟨g', 0, none⟩) (n + 1) cap' f → Grow w w' (blk a) g' → wpList P ops Q rest (c.put o.dst (.slice (some ⟨g', 0, none⟩) (n + 1) cap')) w') : wpList P ops Q (o :: rest) c w := by
 refine wpList_append_own_at w hgd s x ts ho B t i z k bytes ht hi hz hsize hby hzs hsz _ n (rc C f n) hs H ⟨g, 0, none⟩ 1 1 (C (f n)) hx (by rw [hl, Nat.one_mul]) (fun j u hj => ?_) h1 (by unfold maxLen; omega) ?_ hbase ?_
 · rw [Go.WideShapes.add_plain, Nat.zero_add]; exact hnews j u hj
 · calc (n + 1) * bytes ≤ 1000000 * 1000000 := Nat.mul_le_mul h63 hbytes
    _ ≤ _ := by decide
 · intro v' w' h2 h3 _ h5
   obtain ⟨g', cap', rfl, h2⟩ := OR.next h2
   rw [own_blk] at h3
   refine h g' cap' w' h2 ⟨h3, ?_⟩
   rw [own_blk, own_blk] at h5
   rcases h5 with h5 | h5
   · exact .inl h5.symm
   · simp only [blk, Option.map_some, Option.some.injEq] at h5; exact .inr h5
end
end Go.Proofs.YtobfgljkckcmcaaGreatDoor.Coi
namespace Go.Proofs.YtobfgljkckcmcaaGreatDoor.Plan
open Go
set_option linter.unusedVariables false
section
variable {P : Program} {ops : Array Oper} {Qx : Exit → Act → World → Prop} {V : Nat → Value → World → Prop} {T : World → World → Prop} {S : World → Prop} {a0 : Act}
/-- What an operation left. -/
def slot (a : Act) (o : Oper) : Value := match o.dst with | some d => a.tmps.getD d undef | none => undef
/-- Where the region stands: what was listed has its answer, all else is as it was. -/
structure Inv (ops : Array Oper) (V : Nat → Value → World → Prop) (S : World → Prop) (a0 : Act) (l : Array Bool) (a : Act) (w : World) : Prop where
 sz : a.tmps.size = a0.tmps.size
 df : a.defers = a0.defers
 lsz : l.size = ops.size
 old : ∀ s, (∀ (i : Nat) (o : Oper), ops[i]? = some o → o.dst ≠ some s) → a.tmps[s]? = a0.tmps[s]?
 val : ∀ (i : Nat) (o : Oper), ops[i]? = some o → l.getD i false = true → V i (slot a o) w
 st : S w
/-- No two operations answer in one place; places are there; what is waited for stands ahead. -/
def sound (ops : Array Oper) (n : Nat) : Bool :=
 (List.range ops.size).all fun i => match ops[i]? with
  | none => true
  | some o => (o.after.all fun e => !Region.binds .any e || Nat.blt e.on i) &&
   match o.dst with
   | none => true
   | some d => Nat.blt d n && (List.range i).all fun j => match ops[j]? with
    | none => true
    | some o' => match o'.dst with
     | none => true
     | some d' => !Nat.beq d d'
theorem sound_spec {n : Nat} (h : sound ops n = true) {i : Nat} {o : Oper} (hi : ops[i]? = some o) :
 (∀ e ∈ o.after, Region.binds .any e = true → e.on < i) ∧ ∀ d, o.dst = some d → d < n ∧ ∀ (j : Nat) (o' : Oper), j < i → ops[j]? = some o' → o'.dst ≠ some d := by
 unfold sound at h
 rw [List.all_eq_true] at h
 have hlt : i < ops.size := (Array.getElem?_eq_some_iff.1 hi).1
 have h1 := h i (List.mem_range.2 hlt)
 rw [hi] at h1
 dsimp only at h1
 rw [Bool.and_eq_true] at h1
 refine ⟨fun e he hb => ?_, fun d hd => ?_⟩
 · have := Array.all_eq_true_iff_forall_mem.1 h1.1 e he
   rw [hb] at this
   have h9 : Nat.blt e.on i = true := by simpa using this
   rwa [Nat.blt_eq] at h9
 · have h2 := h1.2
   rw [hd] at h2
   dsimp only at h2
   rw [Bool.and_eq_true] at h2
   refine ⟨by have h9 := h2.1; rwa [Nat.blt_eq] at h9, fun j o' hj hj' hd' => ?_⟩
   have h3 := List.all_eq_true.1 h2.2 j (List.mem_range.2 hj)
   rw [hj'] at h3
   dsimp only at h3
   rw [hd'] at h3
   simp at h3
theorem sound_ne {n : Nat} (h : sound ops n = true) {i j : Nat} {o o' : Oper} {d : Nat} (hi : ops[i]? = some o) (hj : ops[j]? = some o') (hij : i ≠ j) (hd : o.dst = some d) : o'.dst ≠ some d := by
 intro hd'
 rcases Nat.lt_or_gt_of_ne hij with h1 | h1
 · exact ((sound_spec h hj).2 d hd').2 i o h1 hi hd
 · exact ((sound_spec h hi).2 d hd).2 j o' h1 hj hd'
theorem getD_set_self {l : Array Bool} {i : Nat} (h : i < l.size) : (l.setIfInBounds i true).getD i false = true := by
 simp [Array.getD_eq_getD_getElem?, h]
theorem put_get {a : Act} {d s : Nat} {v : Value} (h : d ≠ s) : (a.put (some d) v).tmps[s]? = a.tmps[s]? := by
 simp [Act.put, h]
theorem put_self {a : Act} {d : Nat} {v : Value} (h : d < a.tmps.size) : (a.put (some d) v).tmps.getD d undef = v := by
 simp [Act.put, Array.getD_eq_getD_getElem?, h]
theorem Inv.put {i : Nat} {l : Array Bool} {a : Act} {w w' : World} {o : Oper} {v : Value} (hs : sound ops a0.tmps.size = true)
 (hV : ∀ i v w w', V i v w → T w w' → V i v w') (h : Inv ops V S a0 l a w) (hi : ops[i]? = some o) (t : T w w') (s : S w') (hv : V i (match o.dst with | some _ => v | none => undef) w') :
 Inv ops V S a0 (l.setIfInBounds i true) (a.put o.dst v) w' := by
 have hlt : i < ops.size := (Array.getElem?_eq_some_iff.1 hi).1
 refine ⟨?_, ?_, by simp [h.lsz], fun s hs' => ?_, fun j oj hj hl => ?_, s⟩
 · rw [← h.sz]; cases o.dst <;> simp [Act.put]
 · rw [← h.df]; cases o.dst <;> simp [Act.put]
 · cases hd : o.dst with
   | none => exact h.old s hs'
   | some d => rw [put_get (fun e => hs' i o hi (by rw [hd, e]))]; exact h.old s hs'
 · by_cases hij : i = j
   · subst hij
     obtain rfl : o = oj := Option.some.inj (hi.symm.trans hj)
     cases hd : o.dst with
     | none => rw [hd] at hv; simpa [slot, hd] using hv
     | some d =>
      rw [hd] at hv
      have hb : d < a.tmps.size := by rw [h.sz]; exact ((sound_spec hs hi).2 d hd).1
      simp only [slot, hd]
      rw [put_self hb]
      exact hv
   · have hl' : l.getD j false = true := by rw [getD_set_ne false hij] at hl; exact hl
     have h0 := hV j _ _ _ (h.val j oj hj hl') t
     cases hd : o.dst with
     | none => exact h0
     | some d =>
      have hne := sound_ne hs hi hj hij hd
      unfold slot at h0 ⊢
      cases hd' : oj.dst with
      | none => rw [hd'] at h0; exact h0
      | some d' =>
       rw [hd'] at h0
       dsimp only at h0 ⊢
       rw [Array.getD_eq_getD_getElem?, put_get (fun e => hne (by rw [hd', e])), ← Array.getD_eq_getD_getElem?]
       exact h0
/-- One operation's step. -/
def Step (P : Program) (ops : Array Oper) (V : Nat → Value → World → Prop) (T : World → World → Prop) (S : World → Prop) (a0 : Act) (Qx : Exit → Act → World → Prop) (i : Nat) (o : Oper) : Prop :=
 ∀ l a w, Inv ops V S a0 l a w → (∀ e ∈ o.after, Region.binds .any e = true → l.getD e.on false = true) →
  wpOp P ops Qx i (fun a' w' => ∃ v, a' = a.put o.dst v ∧ T w w' ∧ S w' ∧ V i (match o.dst with | some _ => v | none => undef) w') a w
theorem plan_any (hs : sound ops a0.tmps.size = true) (hV : ∀ i v w w', V i v w → T w w' → V i v w')
 (step : ∀ (i : Nat) (o : Oper), ops[i]? = some o → Step P ops V T S a0 Qx i o)
 (fin : ∀ l a w, (∀ i, i < ops.size → l.getD i false = true) → Inv ops V S a0 l a w → Qx .normal a w) :
 ∀ fuel l a w, l.toList.count false ≤ fuel → Inv ops V S a0 l a w → wpAny P .any ops Qx fuel l a w := by
 intro fuel
 induction fuel with
 | zero =>
  intro l a w hc h
  have hall : ∀ i, i < ops.size → l.getD i false = true := by
   intro i hi
   have h0 : false ∉ l.toList := List.count_eq_zero.1 (by omega)
   have hi' : i < l.size := by rw [h.lsz]; exact hi
   rw [Array.getD_eq_getD_getElem?, Array.getElem?_eq_getElem hi', Option.getD_some]
   cases hb : l[i] with
   | true => rfl
   | false => exact absurd (by rw [← hb]; exact Array.getElem_mem_toList hi') h0
  refine ⟨?_, fin l a w hall h⟩
  refine List.eq_nil_iff_forall_not_mem.2 fun j hj => ?_
  obtain ⟨h1, o, h2, _⟩ := mem_ready.1 hj
  have hlt : j < ops.size := (Array.getElem?_eq_some_iff.1 h2).1
  have := hall j hlt
  have hi' : j < l.size := by rw [h.lsz]; exact hlt
  rw [Array.getD_eq_getD_getElem?, Array.getElem?_eq_getElem hi', Option.getD_some] at this h1
  rw [this] at h1; cases h1
 | succ fuel ih =>
  intro l a w hc h
  refine ⟨fun hr => fin l a w (fun i => ?_) h, fun i hi => ?_⟩
  · induction i using Nat.strongRecOn with
    | ind i ihi =>
     intro hlt
     cases hb : l.getD i false with
     | true => rfl
     | false =>
      have hmem : i ∈ Region.ready .any ops l := by
       refine mem_ready.2 ⟨?_, ops[i], Array.getElem?_eq_getElem hlt, fun e he hbd => ?_⟩
       · have hi' : i < l.size := by rw [h.lsz]; exact hlt
         rw [Array.getD_eq_getD_getElem?, Array.getElem?_eq_getElem hi', Option.getD_some] at hb ⊢
         exact hb
       · have := (sound_spec hs (Array.getElem?_eq_getElem hlt)).1 e he hbd
         exact ihi e.on this (by omega)
      rw [hr] at hmem; cases hmem
  · obtain ⟨h1, o, h2, h3⟩ := mem_ready.1 hi
    refine wpOp_mono ?_ (step i o h2 l a w h h3)
    rintro a' w' ⟨v, rfl, t, s, hv⟩
    refine ih _ _ _ ?_ (h.put hs hV h2 t s hv)
    have hlt : i < ops.size := (Array.getElem?_eq_some_iff.1 h2).1
    have hi' : i < l.toList.length := by rw [Array.length_toList, h.lsz]; exact hlt
    rw [Array.toList_setIfInBounds, List.count_set hi']
    have hb : l.toList[i] = false := by
     rw [Array.getElem_toList]
     rw [Array.getD_eq_getD_getElem?, Array.getElem?_eq_getElem (by simpa using hi'), Option.getD_some] at h1
     exact h1
    have hpos : 0 < l.toList.count false := List.count_pos_iff.2 (by rw [← hb]; exact List.getElem_mem hi')
    have e1 : (false == false) = true := rfl
    have e2 : (true == false) = false := rfl
    rw [hb, e1, e2]
    simp only [if_true, Bool.false_eq_true, if_false]
    omega
/-- **The region, whatever its order.** -/
theorem wp_plan {id : Nat} {a : Act} {w : World} (V : Nat → Value → World → Prop) (T : World → World → Prop) (S : World → Prop) (hm : P.follows .mixedOrders = true) (hs : sound ops a.tmps.size = true) (hV : ∀ i v w w', V i v w → T w w' → V i v w') (hS : S w.drew)
 (step : ∀ (i : Nat) (o : Oper), ops[i]? = some o → Step P ops V T S a Qx i o)
 (fin : ∀ l a' w', (∀ i, i < ops.size → l.getD i false = true) → Inv ops V S a l a' w' → Qx .normal a' w') : (Code.region id ops true).wp P Qx a w := by
 refine wp_region_any hm ?_
 refine plan_any (a0 := a) hs hV step fin _ _ _ _ ?_ ⟨rfl, rfl, by simp, fun _ _ => rfl, fun i o hi hl => ?_, hS⟩
 · simp
 · have hlt : i < ops.size := (Array.getElem?_eq_some_iff.1 hi).1
   simp [Array.getD_eq_getD_getElem?, hlt] at hl
/-- An operation with one answer in every world that meets S. -/
theorem Step.pure {i : Nat} {o : Oper} (hi : ops[i]? = some o) (v : Value) (hT : ∀ w, T w w)
 (h : ∀ l a w, Inv ops V S a0 l a w → (∀ e ∈ o.after, Region.binds .any e = true → l.getD e.on false = true) →
  Region.wanted o (yielded ops a.tmps) = true ∧ (execOp a.eval o).run P w = .ok (.value v) w ∧ V i (match o.dst with | some _ => v | none => undef) w) : Step P ops V T S a0 Qx i o := by
 intro l a w hI hl
 obtain ⟨h1, h2, h3⟩ := h l a w hI hl
 unfold wpOp
 rw [hi]
 dsimp only
 rw [if_pos h1]
 refine .inl ?_
 unfold Oper.wp
 rw [h2, Oper.upon_value]
 exact ⟨v, rfl, hT w, hI.st, h3⟩
/-- Any operation that is done. -/
theorem Step.done {i : Nat} {o : Oper} (hi : ops[i]? = some o)
 (h : ∀ l a w, Inv ops V S a0 l a w → (∀ e ∈ o.after, Region.binds .any e = true → l.getD e.on false = true) →
  Region.wanted o (yielded ops a.tmps) = true ∧ o.wp P a w (fun a' w' => ∃ v, a' = a.put o.dst v ∧ T w w' ∧ S w' ∧ V i (match o.dst with | some _ => v | none => undef) w') Qx) : Step P ops V T S a0 Qx i o := by
 intro l a w hI hl
 obtain ⟨h1, h2⟩ := h l a w hI hl
 unfold wpOp
 rw [hi]
 dsimp only
 rw [if_pos h1]
 exact .inl h2
/-- An operation whose guard says no. -/
theorem Step.skip {i : Nat} {o : Oper} (hi : ops[i]? = some o) (hT : ∀ w, T w w)
 (h : ∀ l a w, Inv ops V S a0 l a w → (∀ e ∈ o.after, Region.binds .any e = true → l.getD e.on false = true) →
  Region.wanted o (yielded ops a.tmps) = false ∧ V i undef w) : Step P ops V T S a0 Qx i o := by
 intro l a w hI hl
 obtain ⟨h1, h2⟩ := h l a w hI hl
 unfold wpOp
 rw [hi]
 dsimp only
 rw [h1]
 refine ⟨undef, rfl, hT w, hI.st, ?_⟩
 cases o.dst <;> exact h2
/-- A call. -/
theorem Step.call {i : Nat} {o : Oper} {R : Value → World → World → Prop} (hi : ops[i]? = some o)
 (h : ∀ l a w, Inv ops V S a0 l a w → (∀ e ∈ o.after, Region.binds .any e = true → l.getD e.on false = true) →
  Region.wanted o (yielded ops a.tmps) = true ∧ ∃ f args, (execOp a.eval o).run P w = .ok (.enter f args) w ∧
   Calls P f args w fun e w' => ∃ v, e = .returned v ∧ T w w' ∧ S w' ∧ V i (match o.dst with | some _ => v | none => undef) w') : Step P ops V T S a0 Qx i o := by
 refine Step.done hi fun l a w hI hl => ?_
 obtain ⟨h1, f, args, h2, h3⟩ := h l a w hI hl
 refine ⟨h1, ?_⟩
 unfold Oper.wp
 rw [h2, Oper.upon_enter]
 refine h3.mono ?_
 rintro e w' ⟨v, rfl, t, s, hv⟩
 exact ⟨v, rfl, t, s, hv⟩
/-- What a slot that no operation writes holds. -/
def free (ops : Array Oper) (s : Nat) : Bool := ops.all fun o => match o.dst with | some d => !Nat.beq d s | none => true
theorem Inv.base {l : Array Bool} {a : Act} {w : World} (h : Inv ops V S a0 l a w) (s : Nat) (hf : free ops s = true) : a.eval (.tmp s) = a0.eval (.tmp s) := by
 show a.tmps.getD s undef = a0.tmps.getD s undef
 rw [Array.getD_eq_getD_getElem?, Array.getD_eq_getD_getElem?, h.old s]
 intro i o hi hd
 have := Array.all_eq_true_iff_forall_mem.1 hf o (Array.mem_of_getElem? hi)
 rw [hd] at this
 simp at this
/-- What an operation that came ahead left. -/
theorem Inv.at_ {l : Array Bool} {a : Act} {w : World} (h : Inv ops V S a0 l a w) (j d : Nat) (o : Oper) (hj : ops[j]? = some o) (hd : o.dst = some d) (hl : l.getD j false = true) : V j (a.eval (.tmp d)) w := by
 have := h.val j o hj hl
 unfold slot at this
 rw [hd] at this
 exact this
theorem wanted_of {o : Oper} {a : Act} {j d : Nat} {oj : Oper} {b : Bool} (hg : o.guard = some (j, b)) (hj : ops[j]? = some oj) (hd : oj.dst = some d) (hlt : d < a.tmps.size) (hv : a.eval (.tmp d) = .bool b) : Region.wanted o (yielded ops a.tmps) = true := by
 have h : a.tmps[d]? = some (.bool b) := by
  have : a.tmps.getD d undef = .bool b := hv
  rw [Array.getD_eq_getD_getElem?, Array.getElem?_eq_getElem hlt, Option.getD_some] at this
  rw [Array.getElem?_eq_getElem hlt, this]
 unfold Region.wanted yielded
 rw [hg]
 dsimp only
 rw [hj]
 simp [hd, h]
theorem wanted_none {o : Oper} {a : Act} (hg : o.guard = none) : Region.wanted o (yielded ops a.tmps) = true := by
 unfold Region.wanted; rw [hg]
end
section
variable {P : Program} {o : Oper} {a : Act} {w : World} {x y z : Operand} {X Y Z v : Value}
theorem ex_move (ho : o.op = .move x) (hx : a.eval x = v) : (execOp a.eval o).run P w = .ok (.value v) w := by
 unfold execOp; simp only [ho, hx, Sem.run_pure]
theorem ex_assign (ho : o.op = .assign x) (hx : a.eval x = v) : (execOp a.eval o).run P w = .ok (.value v) w := by
 unfold execOp; simp only [ho, hx, Sem.run_pure]
theorem ex_pick_t (ho : o.op = .pick x y z) (hx : a.eval x = .bool true) (hy : a.eval y = v) : (execOp a.eval o).run P w = .ok (.value v) w := by
 unfold execOp; simp only [ho, hx, hy]; rfl
theorem ex_bin {op : BinOp} {T T' : TypeId} (ho : o.op = .binOp op T x y T') (hx : a.eval x = X) (hy : a.eval y = Y)
 (h : (do eqGuard op T x y X Y; binOp op T X Y : Sem Value).run P w = .ok v w) : (execOp a.eval o).run P w = .ok (.value v) w := by
 unfold execOp; simp only [ho, hx, hy]
 simp only [Sem.run_bind] at h ⊢
 rw [h]; rfl
theorem ex_un {op : UnOp} {T : TypeId} (ho : o.op = .unOp op T x) (hx : a.eval x = X) (h : (Op.unary op X).run P w = .ok v w) : (execOp a.eval o).run P w = .ok (.value v) w := by
 unfold execOp; simp only [ho, hx]; rw [Sem.run_bind, h]; rfl
end
section
variable {P : Program} {ops : Array Oper} {Qx : Exit → Act → World → Prop} {V : Nat → Value → World → Prop} {T : World → World → Prop} {S : World → Prop} {a0 : Act}
theorem pget_at {l : List Oper} (h : ops = l.toArray) (i : Nat) {o : Oper} (e : l[i]? = some o) : ops[i]? = some o := by rw [h]; simpa using e
theorem at_eq {k : Nat} {X x : Value} {w : World} (hv : V k = fun v _ => v = X) (h : V k x w) : x = X := by rw [hv] at h; exact h
theorem at_mk {k : Nat} {X x : Value} {w : World} (hv : V k = fun v _ => v = X) (e : x = X) : V k x w := by rw [hv]; exact e
theorem at_p {k : Nat} {p : Value → World → Prop} {x : Value} {w : World} (hv : V k = p) (h : V k x w) : p x w := by rw [hv] at h; exact h
theorem p_at {k : Nat} {p : Value → World → Prop} {x : Value} {w : World} (hv : V k = p) (h : p x w) : V k x w := by rw [hv]; exact h
theorem hl_at {o : Oper} {l : Array Bool} (hl : ∀ e ∈ o.after, Region.binds .any e = true → l.getD e.on false = true) (idx : Nat) {e : Edge} (h : o.after[idx]? = some e) (hb : Region.binds .any e = true) : l.getD e.on false = true :=
 hl e (Array.mem_of_getElem? h) hb
theorem lt_of {l : Array Bool} {a : Act} {w : World} {n d : Nat} (h : Inv ops V S a0 l a w) (hz : a0.tmps.size = n) (hd : Nat.blt d n = true) : d < a.tmps.size := by
 rw [h.sz, hz]; rwa [Nat.blt_eq] at hd
def StepsFrom (P : Program) (ops : Array Oper) (V : Nat → Value → World → Prop) (T : World → World → Prop) (S : World → Prop) (a0 : Act) (Qx : Exit → Act → World → Prop) : Nat → List Oper → Prop
 | _, [] => True
 | k, o :: r => Step P ops V T S a0 Qx k o ∧ StepsFrom P ops V T S a0 Qx (k + 1) r
theorem sf_cons {k : Nat} {o : Oper} {r : List Oper} (h : Step P ops V T S a0 Qx k o) (t : StepsFrom P ops V T S a0 Qx (k + 1) r) : StepsFrom P ops V T S a0 Qx k (o :: r) := ⟨h, t⟩
theorem steps_from : ∀ (l : List Oper) (k : Nat), StepsFrom P ops V T S a0 Qx k l → ∀ (i : Nat) (o : Oper), l[i]? = some o → Step P ops V T S a0 Qx (k + i) o
 | [], _, _, i, o, h => by simp at h
 | o' :: r, k, h, 0, o, e => by
  simp only [List.getElem?_cons_zero, Option.some.injEq] at e
  subst e
  exact h.1
 | o' :: r, k, h, i + 1, o, e => by
  simp only [List.getElem?_cons_succ] at e
  have := steps_from r (k + 1) h.2 i o e
  rwa [show k + 1 + i = k + (i + 1) by omega] at this
theorem steps_all {l : List Oper} (hO : ops = l.toArray) (h : StepsFrom P ops V T S a0 Qx 0 l) (i : Nat) (o : Oper) (e : ops[i]? = some o) : Step P ops V T S a0 Qx i o := by
 have := steps_from l 0 h i o (by rw [hO] at e; simpa using e)
 rwa [Nat.zero_add] at this
def StableL (T : World → World → Prop) : List (Value → World → Prop) → Prop
 | [] => True
 | p :: r => (∀ v w w', p v w → T w w' → p v w') ∧ StableL T r
theorem sl_cons {p : Value → World → Prop} {r : List (Value → World → Prop)} (h : ∀ v w w', p v w → T w w' → p v w') (t : StableL T r) : StableL T (p :: r) := ⟨h, t⟩
theorem sk {x : Value} {r : List (Value → World → Prop)} (t : StableL T r) : StableL T ((fun v _ => v = x) :: r) := ⟨fun _ _ _ h _ => h, t⟩
theorem stable_all : ∀ (l : List (Value → World → Prop)), StableL T l → ∀ (i : Nat) v w w', l.getD i (fun _ _ => True) v w → T w w' → l.getD i (fun _ _ => True) v w'
 | [], _, i, v, w, w', h, _ => by simp
 | p :: r, h, 0, v, w, w', hp, t => by simp only [List.getD_cons_zero] at hp ⊢; exact h.1 v w w' hp t
 | p :: r, h, i + 1, v, w, w', hp, t => by simp only [List.getD_cons_succ] at hp ⊢; exact stable_all r h.2 i v w w' hp t
theorem stable_of {VL : List (Value → World → Prop)} (hV : V = fun i => VL.getD i (fun _ _ => True)) (h : StableL T VL) (i : Nat) (v : Value) (w w' : World) (hp : V i v w) (t : T w w') : V i v w' := by
 rw [hV] at hp ⊢; exact stable_all VL h i v w w' hp t
theorem region_gen3 {id : Nat} {fl : Bool} {a : Act} {w : World} (h : ∀ OPS QQ A, OPS = ops → QQ = Qx → A = a → (Code.region id OPS fl).wp P QQ A w) : (Code.region id ops fl).wp P Qx a w := h _ _ _ rfl rfl rfl
theorem vat {VL : List (Value → World → Prop)} (hV : V = fun i => VL.getD i (fun _ _ => True)) (i : Nat) : V i = VL.getD i (fun _ _ => True) := by rw [hV]
end
section
variable {P : Program} {o : Oper} {a : Act} {w : World} {x y z : Operand} {X Y Z v : Value} {K : Act → World → Prop} {Qx : Exit → Act → World → Prop}
theorem ev_const (a : Act) (v : Value) : a.eval (.const v) = v := rfl
theorem ex_call {f : FuncId} {ar : Array Operand} {args : Array Value} {ats : Array TypeId} (ho : o.op = .call ⟨.value (.func f), ar, ats⟩) (ha : ar.map a.eval = args) {fn : Func} (hf : P.funcs[f]? = some fn)
 (hn : (fn.name == "runtime.NumGoroutine") = false) (hb : fn.body.isNone = false) : (execOp a.eval o).run P w = .ok (.enter f args) w := by
 subst ha
 unfold execOp
 simp only [ho]
 have hn' : ¬ fn.name = "runtime.NumGoroutine" := by intro e; rw [e] at hn; simp at hn
 have hb' : ¬ fn.body = none := by intro e; rw [e] at hb; simp at hb
 simp [resolve, Deferred.ofValue, invoke, callFunc, hf, hn', hb', Act.eval]
theorem ex_build {t : TypeId} {parts : Array (Nat × Operand)} {cs : Array Value} (ho : o.op = .build t parts) (hb : P.built t (parts.map fun (i, x) => (i, a.eval x)).toList = some cs) : (execOp a.eval o).run P w = .ok (.value (.agg cs)) w := by
 unfold execOp
 simp only [ho, Sem.run_bind, run_build w t _ cs hb, Result.andThen_ok, Sem.run_pure]
theorem wp_enter {f : FuncId} {args : Array Value} (h1 : (execOp a.eval o).run P w = .ok (.enter f args) w) (h : Calls P f args w fun
 | .returned v, w'' => K (a.put o.dst v) w''
 | .panicked chain, w'' => Qx (.panic chain) a w''
 | .outgrown, _ => LetsOut Qx) : o.wp P a w K Qx := by
 unfold Oper.wp
 rw [h1, Oper.upon_enter]
 exact h
end
end Go.Proofs.YtobfgljkckcmcaaGreatDoor.Plan
namespace Go.Proofs.YtobfgljkckcmcaaGreatDoor.Coi
open Go.RowKit
open Mem Num Cod Sh
set_option linter.unusedVariables false
set_option linter.unusedSimpArgs false
def h16 : ByteArray := ⟨#[48, 49, 50, 51, 52, 53, 54, 55, 56, 57, 97, 98, 99, 100, 101, 102]⟩
def fxI : IN := ⟨h16, 1, 1, ⟨#[115]⟩⟩
def fxO : OU := ⟨1, 5, h16, ⟨#[]⟩, 0, ⟨#[]⟩, 0, 0, ⟨#[]⟩⟩
def fxT : TX := ⟨1, fun _ => fxI, 1, fun _ => fxO, PF.zero⟩
def fxC : ByteArray := ⟨#[67, 1, 48, 49, 50, 51, 52, 53, 54, 55, 56, 57, 97, 98, 99, 100, 101, 102, 1, 1, 1, 1, 0, 0, 0, 0, 0, 0, 0, 5, 48, 49, 50, 51, 52, 53, 54, 55, 56, 57, 97, 98, 99, 100, 101, 102]⟩
def fxS : ByteArray := ⟨#[0, 46, 67, 1, 48, 49, 50, 51, 52, 53, 54, 55, 56, 57, 97, 98, 99, 100, 101, 102, 1, 1, 1, 1, 0, 0, 0, 0, 0, 0, 0, 5, 48, 49, 50, 51, 52, 53, 54, 55, 56, 57, 97, 98, 99, 100, 101, 102, 0, 1, 115, 0, 13, 0, 0, 0, 0, 0, 0, 0, 0, 0, 0, 0, 0, 0]⟩
def fxL : OU := ⟨2, 1, h16, h16, 9, h16, 2, 3, ⟨#[]⟩⟩
def fxP : OU := ⟨3, 1, h16, h16, 9, ⟨#[]⟩, 0, 0, h16⟩
def fxN : OU := ⟨1, 1, h16, ⟨#[]⟩, 0, ⟨#[]⟩, 0, 0, h16⟩
theorem info_inx : (Tryz.prog.info? 53).map (fun i => (i.zero, i.size, i.bytes)) = some (some (.agg #[.string ⟨#[]⟩, .int .i64 0, .int .i64 0, .string ⟨#[]⟩]), 4, 48) := by kernel_rfl
theorem fill_inx (v0 : ByteArray) (v1 v2 : Int) (v3 : ByteArray) : Instr.fill (fun i => some (i * 4, 4)) ((Array.range (1 * 4)).map ((Value.agg #[.string ⟨#[]⟩, .int .i64 0, .int .i64 0, .string ⟨#[]⟩]).cells[· % (Value.agg #[.string ⟨#[]⟩, .int .i64 0, .int .i64 0, .string ⟨#[]⟩]).cells.size]!)) [(0, .agg #[.string v0, .int .i64 v1, .int .i64 v2, .string v3])] = some #[.string v0, .int .i64 v1, .int .i64 v2, .string v3] := by kernel_rfl
theorem wpo_rowinx {o : Oper} {a : Act} {w : World} {K : Act → World → Prop} {Q : Exit → Act → World → Prop} {n0 : Nat} (v0 : ByteArray) (v1 v2 : Int) (v3 : ByteArray) (ho : o.op = .buildSlice 22 1 #[(0, .tmp n0)]) (h0 : a.eval (.tmp n0) = .agg #[.string v0, .int .i64 v1, .int .i64 v2, .string v3])
 (h : K (a.put o.dst (.slice (some ⟨w.heap.size, 0, none⟩) 1 1)) (w.alloc (.cells #[.string v0, .int .i64 v1, .int .i64 v2, .string v3] 53))) : o.wp Tryz.prog a w K Q := by
 obtain ⟨i0, hi0, hz0, hz1, hz2⟩ := info_of info_inx
 refine wp_buildSlice 22 53 1 _ ho #[.string v0, .int .i64 v1, .int .i64 v2, .string v3] i0 _ Tryz.underlying22 hi0 hz0 (by rw [hz1]; decide) (by rw [hz1]; decide) ?_ h
 rw [hz1]
 simp only [List.map_toArray, List.map_cons, List.map_nil, h0]
 exact fill_inx v0 v1 v2 v3
theorem wpr_inx {ops : Array Oper} {rest : List Oper} {o : Oper} {a : Act} {w : World} {Q : Exit → Act → World → Prop} (hg : o.guard = none) {n0 : Nat} (v0 : ByteArray) (v1 v2 : Int) (v3 : ByteArray) (ho : o.op = .buildSlice 22 1 #[(0, .tmp n0)]) (h0 : a.eval (.tmp n0) = .agg #[.string v0, .int .i64 v1, .int .i64 v2, .string v3])
 (h : wpList Tryz.prog ops Q rest (a.put o.dst (.slice (some ⟨w.heap.size, 0, none⟩) 1 1)) (w.alloc (.cells #[.string v0, .int .i64 v1, .int .i64 v2, .string v3] 53))) : wpList Tryz.prog ops Q (o :: rest) a w :=
 wpList_plain hg fun _ hK => wpo_rowinx v0 v1 v2 v3 ho h0 (hK _ _ h)
theorem wpr_out {ops : Array Oper} {rest : List Oper} {o : Oper} {a : Act} {w : World} {Q : Exit → Act → World → Prop} (hg : o.guard = none) {n0 : Nat} (v0 v1 : Int) (v2 v3 : ByteArray) (v4 : Int) (v5 : ByteArray) (v6 v7 : Int) (v8 : ByteArray) (ho : o.op = .buildSlice 23 1 #[(0, .tmp n0)]) (h0 : a.eval (.tmp n0) = .agg #[.int .i64 v0, .int .u64 v1, .string v2, .string v3, .int .i64 v4, .string v5, .int .u64 v6, .int .i64 v7, .string v8])
 (h : wpList Tryz.prog ops Q rest (a.put o.dst (.slice (some ⟨w.heap.size, 0, none⟩) 1 1)) (w.alloc (.cells #[.int .i64 v0, .int .u64 v1, .string v2, .string v3, .int .i64 v4, .string v5, .int .u64 v6, .int .i64 v7, .string v8] 47))) : wpList Tryz.prog ops Q (o :: rest) a w :=
 wpList_plain hg fun _ hK => wpo_rowout v0 v1 v2 v3 v4 v5 v6 v7 v8 ho h0 (hK _ _ h)
def fxA (v : Int) : OU := ⟨0, v, ⟨#[]⟩, ⟨#[]⟩, 0, ⟨#[]⟩, 0, 0, ⟨#[]⟩⟩
def fxF (v0 v1 : Int) (i : Nat) : OU := if i = 0 then fxA v0 else if i = 1 then fxA v1 else fxA 0
/-- What stays while the calls are done. -/
structure FX (W : World) (bI bO b2 : Nat) (w : World) : Prop where
 q : Q W w
 b : Box w b2 [.slice (some ⟨bI, 0, none⟩) 1 1, .slice (some ⟨bO, 0, none⟩) 1 1, .int .u64 0, .string ⟨#[]⟩, .string ⟨#[]⟩, .slice none 0 0]
 t : TM w (some ⟨bI, 0, none⟩) 1 (some ⟨bO, 0, none⟩) none fxT
theorem FX.up {W w w' : World} {bI bO b2 : Nat} (h : FX W bI bO b2 w) (q : Q w w') : FX W bI bO b2 w' := ⟨h.q.trans q, h.b.q q, h.t.q q⟩
structure FU (b5 : Nat) (u : TX) (aI : Option Addr) (cI : Nat) (aO : Option Addr) (cO : Nat) (aW : Option Addr) (cW : Nat) (w : World) : Prop where
 b : Box w b5 [.slice aI u.nI cI, .slice aO u.nO cO, .int .u64 u.p.amount, .string u.p.sig, .string u.p.token, .slice aW u.p.n cW]
 t : TM w aI cI aO aW u
theorem FU.up {b5 cI cO cW : Nat} {u : TX} {aI aO aW : Option Addr} {w w' : World} (h : FU b5 u aI cI aO cO aW cW w) (q : Q w w') : FU b5 u aI cI aO cO aW cW w' := ⟨h.b.q q, h.t.q q⟩
theorem Box.range {w : World} {b : Nat} {cs : List Value} (h : Box w b cs) : w.rangeAt b 0 cs := fun j v hv => by rw [Nat.zero_add]; exact h.at_ j v hv
theorem tag1_at (word t x : ByteArray) (hx : tagS word (fun _ => t) 1 = x) (T : TypeId) (wB w : World) (qb : Q (wB.alloc (.cells #[.string t] T)) w) (hG : GL w) (hw : word.size ≤ 1000000) (ht : t.size ≤ 1000000) :
 Calls Tryz.prog 71 #[.string word, .slice (some ⟨wB.heap.size, 0, none⟩) 1 1] w fun e w' => e = .returned (.string x) ∧ Q w w' := by
 subst hx
 have hlt : wB.heap.size < w.heap.size := by have := qb.size; simp at this; omega
 exact tag_any word wB.heap.size 0 1 1 (fun _ => t) w (Q.refl w) hG ((row1 wB t T).q qb (by simp)) (fun _ => hlt) hw (by omega) (fun _ => ht)
open Plan
theorem info_str : (Tryz.prog.info? 9).map (fun i => (i.zero, i.size, i.bytes)) = some (some (.string ⟨#[]⟩), 1, 16) := by kernel_rfl
theorem fill_s1 (s : ByteArray) : Instr.fill (fun i => some (i * 1, 1)) ((Array.range (1 * 1)).map ((Value.string ⟨#[]⟩).cells[· % (Value.string ⟨#[]⟩).cells.size]!)) [(0, .string s)] = some #[.string s] := by kernel_rfl
section
variable {o : Oper} {a : Act} {w : World} {K : Act → World → Prop} {Q : Exit → Act → World → Prop} {x y : Operand}
theorem wpo_s1 (s : ByteArray) (ho : o.op = .buildSlice 117 1 #[(0, x)]) (h0 : a.eval x = .string s)
 (h : K (a.put o.dst (.slice (some ⟨w.heap.size, 0, none⟩) 1 1)) (w.alloc (.cells #[.string s] 9))) : o.wp Tryz.prog a w K Q := by
 obtain ⟨i0, hi0, hz0, hz1, hz2⟩ := info_of info_str
 refine wp_buildSlice 117 9 1 _ ho #[.string s] i0 _ Tryz.underlying117 hi0 hz0 (by rw [hz1]; decide) (by rw [hz1]; decide) ?_ h
 rw [hz1]
 simp only [List.map_toArray, List.map_cons, List.map_nil, h0]
 exact fill_s1 s
end
theorem eqs_same (x y : Operand) (s : ByteArray) (w : World) (T : TypeId) : (do eqGuard .eql T x y (.string s) (.string s); binOp .eql T (.string s) (.string s) : Sem Value).run Tryz.prog w = .ok (.bool true) w := by
 simp [eqGuard, binOp, Op.stringOp]
theorem cats {x y : Operand} {s t r : ByteArray} {w : World} (hs : s.size ≤ 1000000) (ht : t.size ≤ 1000000) (h : s ++ t = r) : (do eqGuard .add 9 x y (.string s) (.string t); binOp .add 9 (.string s) (.string t) : Sem Value).run Tryz.prog w = .ok (.string r) w := by
 subst h
 simp [eqGuard, binOp, run_string_add_sum _ s t (by omega)]
end Go.Proofs.YtobfgljkckcmcaaGreatDoor.Coi
