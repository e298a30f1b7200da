/-
  Layer 13: a disk as plain data, and in memory: rows of one's own, told apart by their types.
-/
import Derived.Test.YtnojglfaijhiaaaArr
import Derived.Maps.AppendAt
import Derived.Lib.AppendStr
import Derived.Laws.CopyOwn
import Derived.Laws.MakeOwn
import Derived.Deep.AppendLies
namespace Go.Proofs.Ytnojglfaijhiaaa.Dk
open Go.RowKit
open Mem
set_option linter.unusedVariables false

/-! ### Of what was there only one block may have turned -/
def Ch (g : Nat) (w w' : World) : Prop := w.grownBy w' (some g)
theorem Ch.refl (g : Nat) (w : World) : Ch g w w := ⟨rfl, rfl, rfl, Nat.le_refl _, fun _ _ _ => rfl⟩
theorem Ch.trans {g : Nat} {a b c : World} (h : Ch g a b) (k : Ch g b c) : Ch g a c := World.grownBy.trans h k
theorem Ch.of_q {a b : World} (h : Q a b) (g : Nat) : Ch g a b := ⟨h.os, h.tape, h.output, h.size, fun k hk _ => h.block k hk⟩
theorem Ch.q {W a b : World} {g : Nat} (k : Ch g a b) (h : Q W a) (hg : W.heap.size ≤ g) : Q W b := Below.grown h k h.size (by intro j e; cases e; exact hg)
theorem Ch.cell {g : Nat} {w w' : World} (c : Ch g w w') {a : Addr} {v : Value} (h : w.cell? a = some v) (hne : a.block ≠ g) : w'.cell? a = some v := World.grownBy.cell c h (fun e => hne (by injection e))
theorem Ch.set (w : World) (g j : Nat) (v : Value) : Ch g w (w.setCell ⟨g, j, none⟩ v) :=
  ⟨rfl, rfl, rfl, by simp [World.setCell], fun k _ hk => Below.heap_setCell _ _ _ _ (fun e => hk (by rw [e]))⟩
theorem Ch.alloc {g : Nat} {a b : World} (h : Ch g a b) (o : Obj) : Ch g a (b.alloc o) := h.trans (World.grownBy_alloc b o _)
theorem Ch.size {g : Nat} {w w' : World} (c : Ch g w w') : w.heap.size ≤ w'.heap.size := World.grownBy.size c
theorem Q.cell' {w w' : World} (q : Q w w') {a : Addr} {v : Value} (h : w.cell? a = some v) : w'.cell? a = some v := by rw [q.cell (World.block_lt_of_cell? _ _ h)]; exact h
/-- .. only blocks of a kind. -/
structure Fo (S : Nat → Prop) (w w' : World) : Prop where
  os : w'.os = w.os
  tape : w'.tape = w.tape
  output : w'.output = w.output
  size : w.heap.size ≤ w'.heap.size
  block : ∀ k, k < w.heap.size → ¬ S k → w'.heap[k]? = w.heap[k]?
theorem Fo.of_ch {S : Nat → Prop} {g : Nat} {w w' : World} (c : Ch g w w') (h : S g) : Fo S w w' := ⟨c.os, c.tape, c.output, c.size, fun k hk hn => c.block k hk (fun e => hn (by injection e with e; rw [e]; exact h))⟩
theorem Fo.of_q {w w' : World} (S : Nat → Prop) (c : Q w w') : Fo S w w' := ⟨c.os, c.tape, c.output, c.size, fun k hk hn => c.block k hk⟩
theorem Fo.trans {S : Nat → Prop} {a b c : World} (h : Fo S a b) (k : Fo S b c) : Fo S a c := ⟨k.os.trans h.os, k.tape.trans h.tape, k.output.trans h.output, Nat.le_trans h.size k.size, fun j hj hn => (k.block j (Nat.lt_of_lt_of_le hj h.size) hn).trans (h.block j hj hn)⟩
theorem Fo.mono {S S' : Nat → Prop} {a b : World} (h : Fo S a b) (k : ∀ j, S j → S' j) : Fo S' a b := ⟨h.os, h.tape, h.output, h.size, fun j hj hn => h.block j hj (fun e => hn (k j e))⟩
theorem Fo.q {S : Nat → Prop} {W a b : World} (k : Fo S a b) (h : Q W a) (hS : ∀ j, S j → W.heap.size ≤ j) : Q W b :=
  ⟨k.os.trans h.os, k.tape.trans h.tape, k.output.trans h.output, Nat.le_trans h.size k.size, fun j hj => (k.block j (Nat.lt_of_lt_of_le hj h.size) (fun e => absurd (hS j e) (by omega))).trans (h.block j hj)⟩
theorem Fo.cell {S : Nat → Prop} {w w' : World} (c : Fo S w w') {a : Addr} {v : Value} (h : w.cell? a = some v) (hne : ¬ S a.block) : w'.cell? a = some v :=
  (World.cell?_of_block (c.block a.block (World.block_lt_of_cell? w a h) hne)).trans h

/-! ### Rows of one's own -/
def blk (a : Option Addr) : Option Nat := a.map (·.block)
theorem own_blk (a : Option Addr) (n c : Nat) : (Value.slice a n c).ownBlock = blk a := by cases a <;> rfl
/-- What a block is. -/
def Ty (w : World) (k : Nat) (e : TypeId) : Prop := ∃ cur, w.heap[k]? = some (.cells cur e (0, 0))
theorem Ty.one {w : World} {k : Nat} {e e' : TypeId} (h : Ty w k e) (h' : Ty w k e') : e = e' := by
  obtain ⟨c, h⟩ := h
  obtain ⟨c', h'⟩ := h'
  rw [h] at h'
  simp only [Option.some.injEq, Obj.cells.injEq] at h'
  exact h'.2.1
theorem Ty.lt {w : World} {k : Nat} {e : TypeId} (h : Ty w k e) : k < w.heap.size := by
  obtain ⟨c, h⟩ := h
  exact (Array.getElem?_eq_some_iff.1 h).1
section
variable {w w' : World} {B : Nat} {e : TypeId} {size : Nat} {v : Value} {n : Nat} {xs : List Value}
theorem own_ty (h : w.ownsRow B e size v n xs) {k : Nat} (hk : v.ownBlock = some k) : Ty w k e := by
  rcases h.2 with ⟨rfl, _⟩ | ⟨g, cap, cur, rfl, _, hg, _⟩
  · simp [Value.ownBlock] at hk
  · simp [Value.ownBlock] at hk
    subst hk
    exact ⟨_, hg⟩
theorem own_keep (h : w.ownsRow B e size v n xs) (hk : ∀ k, v.ownBlock = some k → w'.heap[k]? = w.heap[k]?) : w'.ownsRow B e size v n xs := by
  refine ⟨h.1, ?_⟩
  rcases h.2 with hn | ⟨g, cap, cur, rfl, hb, hgg, rest⟩
  · exact .inl hn
  · exact .inr ⟨g, cap, cur, rfl, hb, by rw [hk g rfl]; exact hgg, rest⟩
theorem own_up {B' : Nat} (h : w.ownsRow B e size v n xs) (hb : B' ≤ B) : w.ownsRow B' e size v n xs := by
  refine ⟨h.1, ?_⟩
  rcases h.2 with hn | ⟨g, cap, cur, rfl, hb', r⟩
  · exact .inl hn
  · exact .inr ⟨g, cap, cur, rfl, by omega, r⟩
end

/-! ### Records -/
section
variable {α : Type} {C : α → List Value} {k : Nat} {f f' : Nat → α}
/-- The cells of the first n records. -/
def rc (C : α → List Value) (f : Nat → α) : Nat → List Value
  | 0 => []
  | n + 1 => rc C f n ++ C (f n)
theorem rc_len (hC : ∀ x, (C x).length = k) : ∀ n, (rc C f n).length = n * k
  | 0 => by simp [rc]
  | n + 1 => by rw [rc, List.length_append, rc_len hC n, hC, Nat.add_mul, Nat.one_mul]
theorem rc_get (hC : ∀ x, (C x).length = k) (i j : Nat) (v : Value) (h : (C (f i))[j]? = some v) : ∀ n, i < n → (rc C f n)[i * k + j]? = some v
  | 0, hi => by omega
  | n + 1, hi => by
    rw [rc]
    have hl := rc_len (f := f) hC n
    have hj : j < k := by rw [← hC (f i)]; exact (List.getElem?_eq_some_iff.1 h).1
    by_cases e : i = n
    · subst e
      rw [List.getElem?_append_right (by omega), hl, Nat.add_sub_cancel_left]; exact h
    · have : (i + 1) * k ≤ n * k := Nat.mul_le_mul_right k (by omega)
      rw [Nat.add_mul, Nat.one_mul] at this
      rw [List.getElem?_append_left (by omega)]
      exact rc_get hC i j v h n (by omega)
theorem rc_congr : ∀ n, (∀ i, i < n → f i = f' i) → rc C f n = rc C f' n
  | 0, _ => rfl
  | n + 1, e => by rw [rc, rc, rc_congr n (fun i hi => e i (by omega)), e n (by omega)]
/-- Another one in one place. -/
def put {α : Type} (f : Nat → α) (i : Nat) (v : α) : Nat → α := fun j => if j = i then v else f j
theorem put_same {α : Type} (f : Nat → α) (i : Nat) (v : α) : put f i v i = v := by unfold put; rw [if_pos rfl]
theorem put_other {α : Type} (f : Nat → α) {i j : Nat} (v : α) (h : j ≠ i) : put f i v j = f j := by unfold put; rw [if_neg h]
theorem rc_put (hC : ∀ x, (C x).length = k) (i j : Nat) (x : α) (v : Value) (h : C x = (C (f i)).set j v) (hj : j < k) : ∀ n, i < n → (rc C f n).set (i * k + j) v = rc C (put f i x) n
  | 0, hi => by omega
  | n + 1, hi => by
    rw [rc, rc]
    have hl := rc_len (f := f) hC n
    by_cases e : i = n
    · subst e
      rw [List.set_append_right _ _ (by omega), hl, Nat.add_sub_cancel_left, put_same, h]
      congr 1
      exact rc_congr i fun m hm => (put_other f x (by omega)).symm
    · have : (i + 1) * k ≤ n * k := Nat.mul_le_mul_right k (by omega)
      rw [Nat.add_mul, Nat.one_mul] at this
      rw [List.set_append_left _ _ (by omega), rc_put hC i j x v h hj n (by omega), put_other f x (by omega)]
end

/-! ### Plain functions -/
/-- How many bytes the first n files have. -/
def tot (t : Nat → ByteArray) : Nat → Nat
  | 0 => 0
  | n + 1 => tot t n + (t n).size
theorem tot_congr {t t' : Nat → ByteArray} : ∀ n, (∀ i, i < n → t i = t' i) → tot t n = tot t' n
  | 0, _ => rfl
  | n + 1, e => by rw [tot, tot, tot_congr n (fun i hi => e i (by omega)), e n (by omega)]
theorem tot_le {t : Nat → ByteArray} : ∀ {n m : Nat}, m ≤ n → tot t m ≤ tot t n
  | 0, m, h => by obtain rfl : m = 0 := by omega
                  exact Nat.le_refl _
  | n + 1, m, h => by
    by_cases e : m = n + 1
    · subst e; exact Nat.le_refl _
    · have := tot_le (t := t) (n := n) (m := m) (by omega)
      show _ ≤ tot t n + (t n).size
      omega
theorem tot_at {t : Nat → ByteArray} {n i : Nat} (h : i < n) : (t i).size ≤ tot t n := by
  have h1 := tot_le (t := t) (n := n) (m := i + 1) (by omega)
  have h2 : tot t (i + 1) = tot t i + (t i).size := rfl
  omega
theorem tot_put {t : Nat → ByteArray} {i : Nat} (x : ByteArray) : ∀ {n : Nat}, i < n → tot (put t i x) n + (t i).size = tot t n + x.size
  | 0, h => by omega
  | n + 1, h => by
    show tot (put t i x) n + (put t i x n).size + (t i).size = tot t n + (t n).size + x.size
    by_cases e : i = n
    · subst e
      rw [put_same, tot_congr (t := put t i x) (t' := t) i fun m hm => put_other t x (by omega)]
      omega
    · have := tot_put (t := t) (i := i) x (n := n) (by omega)
      rw [put_other t x (show n ≠ i by omega)]
      omega
/-- There is such a file. -/
def inn (n : Nat) (f : Int) : Bool := decide (0 ≤ f) && decide (f < (n : Int))
theorem inn_t {n : Nat} {f : Int} (h : inn n f = true) : ∃ i : Nat, f = (i : Int) ∧ i < n := by
  unfold inn at h
  simp only [Bool.and_eq_true, decide_eq_true_eq] at h
  exact ⟨f.toNat, by omega, by omega⟩
theorem inn_nat (n i : Nat) : inn n (i : Int) = decide (i < n) := by
  unfold inn
  by_cases h : i < n
  · rw [decide_eq_true (p := i < n) h, decide_eq_true (by omega), decide_eq_true (by omega)]; rfl
  · rw [decide_eq_false (p := i < n) h, decide_eq_true (p := (0 : Int) ≤ (i : Int)) (by omega), decide_eq_false (by omega)]; rfl
theorem inn_f {n : Nat} {f : Int} (h : inn n f = false) : f < 0 ∨ (0 ≤ f ∧ (n : Int) ≤ f) := by
  unfold inn at h
  by_cases h0 : 0 ≤ f
  · right
    rw [decide_eq_true (p := 0 ≤ f) h0] at h
    simp only [Bool.true_and, decide_eq_false_iff_not] at h
    exact ⟨h0, by omega⟩
  · left; omega
def rdV (n : Nat) (t : Nat → ByteArray) (f : Int) : ByteArray := if inn n f = true then t f.toNat else ⟨#[]⟩
def suV (n : Nat) (s : Nat → Nat) (f : Int) : Int := if inn n f = true then (s f.toNat : Int) else 0
def frV (n room : Nat) (t : Nat → ByteArray) : Int := (room : Int) - (tot t n : Int)
def apE (n room : Nat) (t : Nat → ByteArray) (f : Int) (x : ByteArray) : Int := if inn n f = true then (if frV n room t < (x.size : Int) then 9 else 0) else 1
def apT (n room : Nat) (t : Nat → ByteArray) (f : Int) (x : ByteArray) : Nat → ByteArray := if apE n room t f x = 0 then put t f.toNat (t f.toNat ++ x) else t
def syE (n : Nat) (f : Int) : Int := if inn n f = true then 0 else 1
def syS (n : Nat) (t : Nat → ByteArray) (s : Nat → Nat) (f : Int) : Nat → Nat := if inn n f = true then put s f.toNat (t f.toNat).size else s
def cuE (n : Nat) (t : Nat → ByteArray) (f m : Int) : Int := if inn n f = true then (if m < 0 ∨ ((t f.toNat).size : Int) < m then 1 else 0) else 1
def cuT (n : Nat) (t : Nat → ByteArray) (f m : Int) : Nat → ByteArray := if cuE n t f m = 0 then put t f.toNat ((t f.toNat).extract 0 m.toNat) else t
def cuS (n : Nat) (t : Nat → ByteArray) (s : Nat → Nat) (f m : Int) : Nat → Nat := if cuE n t f m = 0 then put s f.toNat m.toNat else s
def swE (n : Nat) (t : Nat → ByteArray) (s : Nat → Nat) (a b : Int) : Int :=
  if inn n a = true then (if inn n b = true then (if s a.toNat < (t a.toNat).size ∨ s b.toNat < (t b.toNat).size then 8 else 0) else 1) else 1
def swT (n : Nat) (t : Nat → ByteArray) (s : Nat → Nat) (a b : Int) : Nat → ByteArray := if swE n t s a b = 0 then put (put t a.toNat (t b.toNat)) b.toNat (t a.toNat) else t
def swS (n : Nat) (t : Nat → ByteArray) (s : Nat → Nat) (a b : Int) : Nat → Nat := if swE n t s a b = 0 then put (put s a.toNat (s b.toNat)) b.toNat (s a.toNat) else s
/-- How many bytes a crash keeps of what is not sure. -/
def kpN (l : Nat) (kf : Nat → Int) (t : Nat → ByteArray) (s : Nat → Nat) (i : Nat) : Nat := if i < l then min (max (kf i) 0).toNat ((t i).size - s i) else 0
def crT (l : Nat) (kf : Nat → Int) (t : Nat → ByteArray) (s : Nat → Nat) (n : Nat) : Nat → ByteArray := fun i => if i < n then (t i).extract 0 (s i + kpN l kf t s i) else t i
def crS (l : Nat) (kf : Nat → Int) (t : Nat → ByteArray) (s : Nat → Nat) (n : Nat) : Nat → Nat := fun i => if i < n then s i + kpN l kf t s i else s i

/-! ### A disk in memory -/
structure FL where
  a : Option Addr
  c : Nat
  t : ByteArray
  s : Nat
def FL.cells (x : FL) : List Value := [.slice x.a x.t.size x.c, .int .i64 x.s]
theorem fl_len (x : FL) : x.cells.length = 2 := rfl
/-- A disk at g, its files in block b; all of it lies in [B, T). -/
structure DK0 (w : World) (B T g b n : Nat) (F : Nat → FL) (room : Nat) : Prop where
  d : w.ownsRow B 49 2 (.slice (some ⟨g, 0, none⟩) 1 1) 1 [.slice (some ⟨b, 0, none⟩) n n, .int .i64 room]
  f : w.ownsRow B 55 2 (.slice (some ⟨b, 0, none⟩) n n) n (rc FL.cells F n)
  r : ∀ i, i < n → w.ownsRow B 5 1 (.slice (F i).a (F i).t.size (F i).c) (F i).t.size (Lib.strCells (F i).t)
  ap : ∀ i j, i < n → j < n → i ≠ j → ∀ k, blk (F i).a = some k → blk (F j).a ≠ some k
  gT : g < T
  bT : b < T
  rT : ∀ i, i < n → ∀ k, blk (F i).a = some k → k < T
  sz : T ≤ w.heap.size
  sure : ∀ i, i < n → (F i).s ≤ (F i).t.size
  sum : tot (fun i => (F i).t) n ≤ room
  hr : room ≤ 16777216
  hn : n ≤ 8
  n1 : 0 < n
/-- .. whose files have these bytes, of which so many are sure. -/
def DK (w : World) (B T g b n : Nat) (t : Nat → ByteArray) (s : Nat → Nat) (room : Nat) : Prop := ∃ F, DK0 w B T g b n F room ∧ ∀ i, i < n → (F i).t = t i ∧ (F i).s = s i
/-- What its calls may write: its row of files, and its files' bytes. -/
def SD (w : World) (b B T k : Nat) : Prop := k = b ∨ (B ≤ k ∧ k < T ∧ Ty w k 5)
section
variable {w w' : World} {B T g b n room : Nat} {F : Nat → FL} {t : Nat → ByteArray} {s : Nat → Nat}
theorem DK0.g_lt (h : DK0 w B T g b n F room) : B ≤ g ∧ g < w.heap.size := World.ownsRow.lt h.d g rfl
theorem DK0.b_lt (h : DK0 w B T g b n F room) : B ≤ b ∧ b < w.heap.size := World.ownsRow.lt h.f b rfl
theorem DK0.g0 (h : DK0 w B T g b n F room) : w.cell? ⟨g, 0, none⟩ = some (.slice (some ⟨b, 0, none⟩) n n) := World.ownsRow.cellAt h.d 0 (by decide)
theorem DK0.g1 (h : DK0 w B T g b n F room) : w.cell? ⟨g, 1, none⟩ = some (.int .i64 room) := World.ownsRow.cellAt h.d 1 (by decide)
theorem DK0.row (h : DK0 w B T g b n F room) {i : Nat} (hi : i < n) (j : Nat) (v : Value) (hv : (F i).cells[j]? = some v) : w.cell? ⟨b, i * 2 + j, none⟩ = some v := by
  have hj : j < 2 := by rw [← fl_len (F i)]; exact (List.getElem?_eq_some_iff.1 hv).1
  rw [World.ownsRow.cellAt h.f _ (by omega)]
  exact rc_get fl_len i j v hv n hi
theorem DK0.b0 (h : DK0 w B T g b n F room) {i : Nat} (hi : i < n) : w.cell? ⟨b, i * 2, none⟩ = some (.slice (F i).a (F i).t.size (F i).c) := h.row hi 0 _ rfl
theorem DK0.b1 (h : DK0 w B T g b n F room) {i : Nat} (hi : i < n) : w.cell? ⟨b, i * 2 + 1, none⟩ = some (.int .i64 (F i).s) := h.row hi 1 _ rfl
theorem DK0.fz (h : DK0 w B T g b n F room) (j : Nat) : w.frozen? ⟨b, j, none⟩ = false := World.ownsRow.frozenAt h.f j
theorem DK0.keep (h : DK0 w B T g b n F room) (hz : w.heap.size ≤ w'.heap.size) (hb : ∀ k, B ≤ k → k < T → (Ty w k 49 ∨ Ty w k 55 ∨ Ty w k 5) → w'.heap[k]? = w.heap[k]?) : DK0 w' B T g b n F room := by
  refine ⟨own_keep h.d ?_, own_keep h.f ?_, fun i hi => own_keep (h.r i hi) ?_, h.ap, h.gT, h.bT, h.rT, Nat.le_trans h.sz hz, h.sure, h.sum, h.hr, h.hn, h.n1⟩
  · intro k hk
    have := own_ty h.d hk
    injection hk with hk; subst hk
    exact hb _ h.g_lt.1 h.gT (.inl this)
  · intro k hk
    have := own_ty h.f hk
    injection hk with hk; subst hk
    exact hb _ h.b_lt.1 h.bT (.inr (.inl this))
  · intro k hk
    have h1 := own_ty (h.r i hi) hk
    have h2 := World.ownsRow.lt (h.r i hi) k hk
    rw [own_blk] at hk
    exact hb _ h2.1 (h.rT i hi k hk) (.inr (.inr h1))
theorem DK0.q (h : DK0 w B T g b n F room) (q : Q w w') : DK0 w' B T g b n F room := h.keep q.size fun k _ hT _ => q.block k (by have := h.sz; omega)
theorem DK0.top (h : DK0 w B T g b n F room) {T' : Nat} (h1 : T ≤ T') (h2 : T' ≤ w.heap.size) : DK0 w B T' g b n F room :=
  ⟨h.d, h.f, h.r, h.ap, Nat.lt_of_lt_of_le h.gT h1, Nat.lt_of_lt_of_le h.bT h1, fun i hi k hk => Nat.lt_of_lt_of_le (h.rT i hi k hk) h1, h2, h.sure, h.sum, h.hr, h.hn, h.n1⟩
theorem DK0.to (h : DK0 w B T g b n F room) (e : ∀ i, i < n → (F i).t = t i ∧ (F i).s = s i) : DK w B T g b n t s room := ⟨F, h, e⟩
theorem DK0.dk (h : DK0 w B T g b n F room) : DK w B T g b n (fun i => (F i).t) (fun i => (F i).s) room := ⟨F, h, fun i _ => ⟨rfl, rfl⟩⟩
theorem DK.q (h : DK w B T g b n t s room) (q : Q w w') : DK w' B T g b n t s room := by obtain ⟨F, h, e⟩ := h; exact ⟨F, h.q q, e⟩
theorem DK.top (h : DK w B T g b n t s room) {T' : Nat} (h1 : T ≤ T') (h2 : T' ≤ w.heap.size) : DK w B T' g b n t s room := by obtain ⟨F, h, e⟩ := h; exact ⟨F, h.top h1 h2, e⟩
theorem DK.congr {t' : Nat → ByteArray} {s' : Nat → Nat} (h : DK w B T g b n t s room) (k : ∀ i, i < n → t i = t' i ∧ s i = s' i) : DK w B T g b n t' s' room := by
  obtain ⟨F, h, e⟩ := h; exact ⟨F, h, fun i hi => ⟨(e i hi).1.trans (k i hi).1, (e i hi).2.trans (k i hi).2⟩⟩
theorem DK.sum (h : DK w B T g b n t s room) : tot t n ≤ room := by
  obtain ⟨F, h, e⟩ := h
  rw [← tot_congr (t := fun i => (F i).t) n fun i hi => (e i hi).1]
  exact h.sum
theorem DK.sure (h : DK w B T g b n t s room) : ∀ i, i < n → s i ≤ (t i).size := by
  obtain ⟨F, h, e⟩ := h
  intro i hi
  rw [← (e i hi).1, ← (e i hi).2]
  exact h.sure i hi
theorem DK.hr (h : DK w B T g b n t s room) : room ≤ 16777216 := by obtain ⟨F, h, e⟩ := h; exact h.hr
theorem DK.hn (h : DK w B T g b n t s room) : n ≤ 8 := by obtain ⟨F, h, e⟩ := h; exact h.hn
theorem DK.sz (h : DK w B T g b n t s room) : T ≤ w.heap.size := by obtain ⟨F, h, e⟩ := h; exact h.sz
theorem DK.g_lt (h : DK w B T g b n t s room) : B ≤ g ∧ g < T := by obtain ⟨F, h, e⟩ := h; exact ⟨h.g_lt.1, h.gT⟩
theorem DK.b_lt (h : DK w B T g b n t s room) : B ≤ b ∧ b < T := by obtain ⟨F, h, e⟩ := h; exact ⟨h.b_lt.1, h.bT⟩
theorem DK.bty (h : DK w B T g b n t s room) : Ty w b 55 := by obtain ⟨F, h, e⟩ := h; exact own_ty h.f rfl
/-- One file is another one. -/
theorem DK0.swap1 {T' : Nat} {i : Nat} {x : FL} (h : DK0 w B T g b n F room) (hi : i < n) (hT : T ≤ T') (hz : T' ≤ w'.heap.size)
    (d : w'.ownsRow B 49 2 (.slice (some ⟨g, 0, none⟩) 1 1) 1 [.slice (some ⟨b, 0, none⟩) n n, .int .i64 room])
    (f : w'.ownsRow B 55 2 (.slice (some ⟨b, 0, none⟩) n n) n (rc FL.cells (put F i x) n))
    (r : ∀ j, j < n → j ≠ i → w'.ownsRow B 5 1 (.slice (F j).a (F j).t.size (F j).c) (F j).t.size (Lib.strCells (F j).t))
    (rx : w'.ownsRow B 5 1 (.slice x.a x.t.size x.c) x.t.size (Lib.strCells x.t))
    (hx : ∀ k, blk x.a = some k → (blk (F i).a = some k ∨ T ≤ k) ∧ k < T') (hs : x.s ≤ x.t.size) (hsum : tot (fun j => (F j).t) n + x.t.size ≤ room + (F i).t.size) : DK0 w' B T' g b n (put F i x) room := by
  refine ⟨d, f, ?_, ?_, Nat.lt_of_lt_of_le h.gT hT, Nat.lt_of_lt_of_le h.bT hT, ?_, hz, ?_, ?_, h.hr, h.hn, h.n1⟩
  · intro j hj
    by_cases e : j = i
    · subst e; rw [put_same]; exact rx
    · rw [put_other F x e]; exact r j hj e
  · intro j m hj hm hne k hk
    by_cases e : j = i
    · subst e
      rw [put_same] at hk
      rw [put_other F x (Ne.symm hne)]
      rcases (hx k hk).1 with h1 | h1
      · exact h.ap j m hj hm hne k h1
      · intro h2; have := h.rT m hm k h2; omega
    · rw [put_other F x e] at hk
      by_cases e2 : m = i
      · subst e2
        rw [put_same]
        intro h2
        rcases (hx k h2).1 with h1 | h1
        · exact h.ap j m hj hm hne k hk h1
        · have := h.rT j hj k hk; omega
      · rw [put_other F x e2]; exact h.ap j m hj hm hne k hk
  · intro j hj k hk
    by_cases e : j = i
    · subst e; rw [put_same] at hk; exact (hx k hk).2
    · rw [put_other F x e] at hk; exact Nat.lt_of_lt_of_le (h.rT j hj k hk) hT
  · intro j hj
    by_cases e : j = i
    · subst e; rw [put_same]; exact hs
    · rw [put_other F x e]; exact h.sure j hj
  · have h1 := tot_put (t := fun j => (F j).t) (i := i) x.t hi
    have h2 : tot (fun j => (put F i x j).t) n = tot (put (fun j => (F j).t) i x.t) n := tot_congr n fun j hj => by
      by_cases e : j = i
      · subst e; rw [put_same, put_same]
      · rw [put_other F x e, put_other _ _ e]
    rw [h2]
    have h3 : (fun j => (F j).t) i = (F i).t := rfl
    omega
end
end Go.Proofs.Ytnojglfaijhiaaa.Dk
