/-
  Layer 3: what a Writer is in memory (a chain of pieces); the walks of its calls that write.
-/
import Derived.Test.YtefnncihpilpdaaCodR
import Derived.Test.YtefnncihpilpdaaArr
namespace Go.Proofs.Ytefnncihpilpdaa.Cod
open Go.RowKit
open Mem Num
set_option linter.unusedVariables false

/-- Pieces, the last one first, each in a block above K. -/
def Chain (w : World) (K : Nat) : Option Addr → List ByteArray → Prop
  | p, [] => p = none
  | p, t :: r => ∃ b q, p = some ⟨b, 0, none⟩ ∧ K < b ∧ 0 < t.size ∧ w.cell? ⟨b, 0, none⟩ = some (.string t) ∧ w.cell? ⟨b, 1, none⟩ = some (.pointer q) ∧ Chain w K q r
/-- All of them, one behind the other. -/
def cat : List ByteArray → ByteArray
  | [] => ByteArray.empty
  | t :: r => cat r ++ t
theorem Chain.keep {w w' : World} {K : Nat} : ∀ {p : Option Addr} {l : List ByteArray}, Chain w K p l → (∀ b o v, K < b → w.cell? ⟨b, o, none⟩ = some v → w'.cell? ⟨b, o, none⟩ = some v) → Chain w' K p l
  | p, [], h, _ => h
  | p, t :: r, ⟨b, q, h1, h2, h3, h4, h5, h6⟩, k => ⟨b, q, h1, h2, h3, k _ _ _ h2 h4, k _ _ _ h2 h5, Chain.keep h6 k⟩

/-- A Writer at g: what it wrote, its error; K: above it lie its pieces. -/
structure WR (w : World) (g K : Nat) (T : ByteArray) (e : Int) : Prop where
  ch : ∃ p l, w.cell? ⟨g, 0, none⟩ = some (.pointer p) ∧ Chain w K p l ∧ cat l = T
  n1 : w.cell? ⟨g, 1, none⟩ = some (.int .i64 T.size)
  e2 : w.cell? ⟨g, 2, none⟩ = some (.int .i64 e)
  fz : ∀ j, w.frozen? ⟨g, j, none⟩ = false
  le : g ≤ K
  lt : K < w.heap.size
  er : e ≠ 0 → T = ByteArray.empty
theorem WR.glt {w : World} {g K : Nat} {T : ByteArray} {e : Int} (h : WR w g K T e) : g < w.heap.size := Nat.lt_of_le_of_lt h.le h.lt
theorem WR.ch' {w w' : World} {g g' K : Nat} {T : ByteArray} {e : Int} (h : WR w g K T e) (c : Ch g' w w') (hne : g ≠ g') (hK : g' ≤ K) : WR w' g K T e := by
  obtain ⟨p, l, h1, h2, h3⟩ := h.ch
  exact ⟨⟨p, l, c.cell h1 hne, h2.keep fun b o v hb hv => c.cell hv (by show b ≠ g'; omega), h3⟩, c.cell h.n1 hne, c.cell h.e2 hne, fun j => by rw [c.frozen (a := ⟨g, j, none⟩) h.glt hne]; exact h.fz j, h.le, Nat.lt_of_lt_of_le h.lt c.size, h.er⟩
theorem Q.cell' {w w' : World} (q : Q w w') {a : Addr} {v : Value} (h : w.cell? a = some v) : w'.cell? a = some v := by rw [q.cell (World.block_lt_of_cell? _ _ h)]; exact h
theorem WR.q {w w' : World} {g K : Nat} {T : ByteArray} {e : Int} (h : WR w g K T e) (q : Q w w') : WR w' g K T e := by
  obtain ⟨p, l, h1, h2, h3⟩ := h.ch
  exact ⟨⟨p, l, Q.cell' q h1, h2.keep fun b o v hb hv => Q.cell' q hv, h3⟩, Q.cell' q h.n1, Q.cell' q h.e2, fun j => by rw [q.frozen (p := ⟨g, j, none⟩) h.glt]; exact h.fz j, h.le, Nat.lt_of_lt_of_le h.lt q.size, h.er⟩

/-- What stands behind a part t that was written; pe: the part's own error. -/
def wrT (T : ByteArray) (e : Int) (t : ByteArray) (pe : Int) : ByteArray := if e = 0 then (if pe = 0 then T ++ t else ByteArray.empty) else T

/-- The world behind a put. -/
def putW (w : World) (g : Nat) (t : ByteArray) (p : Option Addr) (n : Int) (ty : TypeId) : World :=
  ((w.setCell ⟨g, 0, none⟩ (.pointer (some ⟨w.heap.size, 0, none⟩))).setCell ⟨g, 1, none⟩ (.int .i64 n)).alloc (.cells #[.string t, .pointer p] ty)
theorem setC_cell (w : World) {g j : Nat} (v : Value) {b o : Nat} {u : Value} (h : w.cell? ⟨b, o, none⟩ = some u) (hne : b ≠ g ∨ o ≠ j) : (w.setCell ⟨g, j, none⟩ v).cell? ⟨b, o, none⟩ = some u := by
  rw [World.cell?_setCell_other (h := by intro h; injection h; omega)]; exact h
theorem alloc_cell (w : World) (o : Obj) {a : Addr} {u : Value} (h : w.cell? a = some u) : (w.alloc o).cell? a = some u := Q.cell' ((Q.refl w).alloc o) h
theorem WR.put {w : World} {g K : Nat} {T : ByteArray} (h : WR w g K T 0) (t : ByteArray) (ht : 0 < t.size) (p : Option Addr) (hp : w.cell? ⟨g, 0, none⟩ = some (.pointer p)) (ty : TypeId) :
    WR (putW w g t p ((T.size : Int) + (t.size : Int)) ty) g K (T ++ t) 0 ∧ Ch g w (putW w g t p ((T.size : Int) + (t.size : Int)) ty) := by
  obtain ⟨p', l, h1, h2, h3⟩ := h.ch
  rw [hp] at h1
  injection h1 with h1
  injection h1 with h1
  subst h1
  have hg := h.glt
  have k0 : ∀ b o v, b ≠ g → w.cell? ⟨b, o, none⟩ = some v → (putW w g t p ((T.size : Int) + (t.size : Int)) ty).cell? ⟨b, o, none⟩ = some v := fun b o v hb hv =>
    alloc_cell _ _ (setC_cell _ _ (setC_cell _ _ hv (.inl hb)) (.inl hb))
  have hz : ((w.setCell ⟨g, 0, none⟩ (.pointer (some ⟨w.heap.size, 0, none⟩))).setCell ⟨g, 1, none⟩ (.int .i64 ((T.size : Int) + (t.size : Int)))).heap.size = w.heap.size := by simp [World.setCell]
  have hn : ∀ o, (putW w g t p ((T.size : Int) + (t.size : Int)) ty).cell? ⟨w.heap.size, o, none⟩ = #[Value.string t, .pointer p][o]? := fun o => by
    unfold putW
    rw [World.cell?_alloc_at _ _ _ _ hz.symm]
  refine ⟨⟨⟨some ⟨w.heap.size, 0, none⟩, t :: l, ?_, ?_, by rw [← h3]; rfl⟩, ?_, ?_, ?_, h.le, ?_, fun h => absurd rfl h⟩, ?_⟩
  · exact alloc_cell _ _ (setC_cell _ _ (World.cell?_setCell_same _ _ _ hp) (.inr (by decide)))
  · exact ⟨w.heap.size, p, rfl, h.lt, ht, hn 0, hn 1, h2.keep fun b o v hb hv => k0 _ _ _ (by have := h.le; omega) hv⟩
  · rw [show (((T ++ t).size : Nat) : Int) = (T.size : Int) + (t.size : Int) by simp]
    exact alloc_cell _ _ (World.cell?_setCell_same _ _ _ (setC_cell _ _ h.n1 (.inr (by decide))))
  · exact alloc_cell _ _ (setC_cell _ _ (setC_cell _ _ h.e2 (.inr (by decide))) (.inr (by decide)))
  · intro j
    unfold putW
    rw [((Q.refl _).alloc _).frozen (p := ⟨g, j, none⟩) (by rw [hz]; exact hg)]
    simp only [World.frozen?_setCell]
    exact h.fz j
  · have := h.lt
    simp [putW, World.setCell]
    omega
  · exact ((Ch.set _ _ _ _).trans (Ch.set _ _ _ _)).alloc _

set_option maxHeartbeats 1000000 in
theorem put_w (g K : Nat) (T : ByteArray) (e : Int) (t : ByteArray) (w : World) (h : WR w g K T e) (ht : 0 < t.size) (hs : T.size + t.size ≤ 1000000000) : Calls Try.prog 52 #[.pointer (some ⟨g, 0, none⟩), .string t] w fun r w' =>
    r = .returned (.tuple #[]) ∧ WR w' g K (wrT T e t 0) e ∧ Ch g w w' := by
  have HT : Hid (wrT T e t 0 = if e = 0 then (if (0 : Int) = 0 then T ++ t else ByteArray.empty) else T) := rfl
  rw [if_pos (show (0 : Int) = 0 from rfl)] at HT
  have c1 := h.n1
  have c2 := h.e2
  obtain ⟨p, l, c0, _, _⟩ := h.ch
  have f0 := h.fz 0
  have f1 := h.fz 1
  have hg := h.glt
  by_cases he : e = 0
  · subst he
    have HF : Hid (∀ ty, WR (putW w g t p ((T.size : Int) + (t.size : Int)) ty) g K (T ++ t) 0 ∧ Ch g w (putW w g t p ((T.size : Int) + (t.size : Int)) ty)) := fun ty => h.put t ht p c0 ty
    rw [if_pos rfl] at HT
    unfold putW at HF
    clear h
    go_enter Try.func52, Try.ntmps52
    go_wp2_with fail
    go_end0
    refine ⟨rfl, ?_⟩
    rw [HT.out]
    exact HF.out _
  · have H := Lib.hid h
    have h0' : (e == 0) = false := by simpa using he
    have h0'' : (e != 0) = true := by simpa using he
    rw [if_neg he] at HT
    clear h
    go_enter Try.func52, Try.ntmps52
    go_wp2_with fail
    refine bodyPost_ret (results_none rfl _ _ _) rfl ?_
    refine ⟨rfl, ?_, Ch.refl _ _⟩
    rw [HT.out]
    exact H.out
end Go.Proofs.Ytefnncihpilpdaa.Cod
