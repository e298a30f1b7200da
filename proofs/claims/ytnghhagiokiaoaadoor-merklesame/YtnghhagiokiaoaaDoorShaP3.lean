/-
  The program's layer 2: what a Hash is in memory; New, Len, Copy.
-/
import Derived.Test.YtnghhagiokiaoaaDoorShaP2
import Derived.Test.YtnghhagiokiaoaaDoorShaR4
namespace Go.Proofs.YtnghhagiokiaoaaDoor.Sh
open Go.RowKit
open Mem
set_option linter.unusedVariables false

def sf (s : ByteArray) (j : Nat) : Int := (sb s).getD j 0
theorem getD_byts {l : List Int} (h : ∀ x ∈ l, 0 ≤ x ∧ x ≤ 255) (j : Nat) : 0 ≤ l.getD j 0 ∧ l.getD j 0 ≤ 255 := by
  rw [List.getD_eq_getElem?_getD]
  by_cases hj : j < l.length
  · rw [List.getElem?_eq_getElem hj]; exact h _ (List.getElem_mem hj)
  · rw [List.getElem?_eq_none (by omega)]; simp
theorem sb_byts (s : ByteArray) : ∀ x ∈ sb s, 0 ≤ x ∧ x ≤ 255 := by
  intro x hx
  unfold sb at hx
  obtain ⟨b, _, rfl⟩ := List.mem_map.1 hx
  have := b.toNat_lt
  omega
theorem sf_byts (s : ByteArray) : Byts (sf s) := fun j => getD_byts (sb_byts s) j
theorem sb_append (a b : ByteArray) : sb (a ++ b) = sb a ++ sb b := by unfold sb; simp
theorem sf_left (a b : ByteArray) (j : Nat) (h : j < a.size) : sf (a ++ b) j = sf a j := by
  unfold sf
  rw [sb_append, List.getD_eq_getElem?_getD, List.getD_eq_getElem?_getD, List.getElem?_append_left (by rw [sb_len]; exact h)]

def blkF (f : Nat → Int) : Nat → Nat → Int
  | 0 => I0
  | m + 1 => stepS K (blkF f m) (fun j => f (64 * m + j))
theorem blkF_wd (f : Nat → Int) : ∀ m i, Wd (blkF f m i)
  | 0 => I0_wd
  | m + 1 => stepS_wd _ _ _
theorem blk_eq (s : ByteArray) : ∀ m, blk s m = blkF (pb s) m
  | 0 => rfl
  | m + 1 => by show stepS K (blk s m) _ = stepS K (blkF (pb s) m) _; rw [blk_eq s m]
theorem wrow_congr {a b : Nat → Int} (h : ∀ j, j < 64 → a j = b j) : ∀ k, wrow a k = wrow b k
  | 0 => by
    funext t
    show w16 a 16 t = w16 b 16 t
    unfold w16 wd
    split
    · rw [h (4 * t) (by omega), h (4 * t + 1) (by omega), h (4 * t + 2) (by omega), h (4 * t + 3) (by omega)]
    · rfl
  | k + 1 => by show upd (wrow a k) _ _ = upd (wrow b k) _ _; rw [wrow_congr h k]
theorem stepS_congr (k st : Nat → Int) {a b : Nat → Int} (h : ∀ j, j < 64 → a j = b j) : stepS k st a = stepS k st b := by unfold stepS; rw [wrow_congr h 48]
theorem blkF_congr {f g : Nat → Int} : ∀ m, (∀ j, j < 64 * m → f j = g j) → blkF f m = blkF g m
  | 0, _ => rfl
  | m + 1, h => by
    show stepS K (blkF f m) _ = stepS K (blkF g m) _
    rw [blkF_congr m fun j hj => h j (by omega)]
    exact stepS_congr _ _ fun j hj => h _ (by omega)
theorem mix_step (f : Nat → Int) (m : Nat) (r : Nat → Int) (h : ∀ j, j < 64 → r j = f (64 * m + j)) : mixS (wrow r 48) (blkF f m) = blkF f (m + 1) := by
  show _ = stepS K (blkF f m) _
  rw [← stepS_congr K (blkF f m) h]
  rfl

/-- A Hash at g that has taken c bytes of T into its state, and counts all of them. -/
structure HC (w : World) (g : Nat) (T : ByteArray) (c : Nat) : Prop where
  st : Row .u32 w g 0 8 (blkF (sf T) (c / 64))
  rest : ∃ r, Byts r ∧ Row .u8 w g 8 64 r ∧ ∀ j, j < c % 64 → r j = sf T (64 * (c / 64) + j)
  tk : w.cell? ⟨g, 72, none⟩ = some (.int .i64 T.size)
  fz : ∀ j, w.frozen? ⟨g, j, none⟩ = false
/-- A Hash at g that took s. -/
def HR (w : World) (g : Nat) (s : ByteArray) : Prop := HC w g s s.size
theorem HC.lt {w : World} {g : Nat} {T : ByteArray} {c : Nat} (h : HC w g T c) : g < w.heap.size := h.st.lt (by omega)
theorem Row.below {k : IntKind} {w w' : World} {B g off n : Nat} {f : Nat → Int} (h : Row k w g off n f) (q : Below B w w') (hg : g < B) : Row k w' g off n f :=
  fun i hi => by rw [q.cell (p := ⟨g, off + i, none⟩) hg]; exact h i hi
theorem HC.below {w w' : World} {B g : Nat} {T : ByteArray} {c : Nat} (h : HC w g T c) (q : Below B w w') (hg : g < B) : HC w' g T c := by
  obtain ⟨r, h1, h2, h3⟩ := h.rest
  exact ⟨Row.below h.st q hg, ⟨r, h1, Row.below h2 q hg, h3⟩, by rw [q.cell (p := ⟨g, 72, none⟩) hg]; exact h.tk, fun j => by rw [q.frozen (p := ⟨g, j, none⟩) hg]; exact h.fz j⟩
theorem HC.q {w w' : World} {g : Nat} {T : ByteArray} {c : Nat} (h : HC w g T c) (q : Q w w') : HC w' g T c := h.below q h.lt

/-- The cells of a Hash. -/
def hcl (st r : Nat → Int) (n : Int) : List Value := cl .u32 8 st ++ (cl .u8 64 r ++ [.int .i64 n])
theorem hcl_len (st r : Nat → Int) (n : Int) : (hcl st r n).length = 73 := by unfold hcl; rw [List.length_append, List.length_append, cl_len, cl_len]; rfl
theorem hcl_one (st r : Nat → Int) (n : Int) : (hcl st r n).toArray.all (·.oneCell') = true := all_oneCell_toArray (by
  intro v hv
  unfold hcl cl at hv
  simp only [List.mem_append, List.mem_map, List.mem_singleton] at hv
  rcases hv with ⟨i, _, rfl⟩ | ⟨i, _, rfl⟩ | rfl <;> rfl)
theorem hcl_st (st r : Nat → Int) (n : Int) (i : Nat) (h : i < 8) : (hcl st r n)[i]? = some (.int .u32 (st i)) := by
  unfold hcl
  rw [List.getElem?_append_left (by rw [cl_len]; exact h)]
  exact cl_get _ _ _ _ h
theorem hcl_r (st r : Nat → Int) (n : Int) (i : Nat) (h : i < 64) : (hcl st r n)[8 + i]? = some (.int .u8 (r i)) := by
  unfold hcl
  rw [List.getElem?_append_right (by rw [cl_len]; omega), cl_len, List.getElem?_append_left (by rw [cl_len]; omega), show 8 + i - 8 = i by omega]
  exact cl_get _ _ _ _ h
theorem hcl_n (st r : Nat → Int) (n : Int) : (hcl st r n)[72]? = some (.int .i64 n) := by
  unfold hcl
  rw [List.getElem?_append_right (by rw [cl_len]; omega), cl_len, List.getElem?_append_right (by rw [cl_len]; omega), cl_len]
  rfl
theorem HC.of_range {w : World} {g : Nat} {T : ByteArray} {c : Nat} {r : Nat → Int} (h : w.rangeAt g 0 (hcl (blkF (sf T) (c / 64)) r T.size)) (hr : Byts r) (e : ∀ j, j < c % 64 → r j = sf T (64 * (c / 64) + j)) (hf : ∀ j, w.frozen? ⟨g, j, none⟩ = false) : HC w g T c := by
  refine ⟨fun i hi => h i _ (hcl_st _ _ _ i hi), ⟨r, hr, fun i hi => ?_, e⟩, ?_, hf⟩
  · have := h (8 + i) _ (hcl_r _ _ _ i hi)
    rwa [Nat.zero_add] at this
  · exact h 72 _ (hcl_n _ _ _)
theorem HC.range {w : World} {g : Nat} {T : ByteArray} {c : Nat} (h : HC w g T c) : ∃ r, Byts r ∧ (∀ j, j < c % 64 → r j = sf T (64 * (c / 64) + j)) ∧ w.rangeAt g 0 (hcl (blkF (sf T) (c / 64)) r T.size) := by
  obtain ⟨r, h1, h2, h3⟩ := h.rest
  refine ⟨r, h1, h3, fun j v hv => ?_⟩
  have hj : j < 73 := by have := (List.getElem?_eq_some_iff.1 hv).1; rwa [hcl_len] at this
  by_cases a : j < 8
  · rw [hcl_st _ _ _ _ a] at hv; rw [← hv]; exact h.st j a
  · by_cases b : j < 72
    · obtain ⟨i, rfl⟩ : ∃ i, j = 8 + i := ⟨j - 8, by omega⟩
      rw [hcl_r _ _ _ _ (by omega)] at hv
      rw [← hv, Nat.zero_add]
      exact h2 i (by omega)
    · obtain rfl : j = 72 := by omega
      rw [hcl_n] at hv; rw [← hv]; exact h.tk

def Z73 : Array Value := (hcl (fun _ => 0) (fun _ => 0) 0).toArray
def z73 : Obj := .cells Z73 107
theorem zv73 (w : World) : (zeroValue 107).run Tryd.prog w = .ok (.agg Z73) w := by kernel_rfl
theorem info73 : (Tryd.prog.info? 107).map (·.size) = some 73 := by kernel_rfl
theorem there73 (w : World) : (w.alloc z73).there w.heap.size 0 73 := by
  intro j hj
  refine ⟨?_, made_frozen w _ _ _⟩
  unfold z73 Z73
  rw [World.cell?_alloc_at _ _ _ _ rfl, Nat.zero_add]
  rw [List.getElem?_toArray, List.getElem?_eq_getElem (by rw [hcl_len]; exact hj)]
  rfl

theorem built73 : Tryd.prog.built 107 [(0, .agg (cl .u32 8 I0).toArray)] = some (hcl I0 (fun _ => 0) 0).toArray := by kernel_rfl
theorem wpList_build73 {ops : Array Oper} {rest : List Oper} {o : Oper} {a : Act} {w : World} {Q : Exit → Act → World → Prop} (hg : o.guard = none) (n : Nat)
    (ho : o.op = .build 107 #[(0, .tmp n)]) (A C : Array Value) (h0 : a.eval (.tmp n) = .agg A) (hb : Tryd.prog.built 107 [(0, .agg A)] = some C)
    (h : wpList Tryd.prog ops Q rest (a.put o.dst (.agg C)) w) : wpList Tryd.prog ops Q (o :: rest) a w := by
  refine wpList_buildTo hg 107 _ ho _ rfl C ?_ h
  simp only [List.map_toArray, List.map_cons, List.map_nil, h0]
  exact hb
theorem new_any {W : World} (w : World) (q : Q W w) (hG : GL W) : Calls Tryd.prog 77 #[] w fun e w' => ∃ g, e = .returned (.pointer (some ⟨g, 0, none⟩)) ∧ HR w' g ByteArray.empty ∧ W.heap.size ≤ g ∧ Q W w' := by
  have HRG := Lib.hid (hG.q q).i0.range
  have HC8 := Lib.hid (cl_len .u32 8 I0)
  have HB := Lib.hid built73
  have HF : Hid (∀ t, HR (w.alloc (.cells (hcl I0 (fun _ => 0) 0).toArray t)) w.heap.size ByteArray.empty) := by
    intro t
    refine HC.of_range (r := fun _ => 0) (fun j v hv => ?_) (fun j => ⟨Int.le_refl 0, show (0 : Int) ≤ 255 by decide⟩) (fun j hj => by simp at hj) (made_frozen w _ _)
    have hv' : (hcl I0 (fun _ => 0) 0)[j]? = some v := hv
    rw [World.cell?_alloc_at _ _ _ _ rfl, Nat.zero_add, ← hv']
    simp
  have HQ : Hid (∀ o, Q W (w.alloc o)) := fun o => q.alloc o
  have hz := q.size
  clear q hG
  generalize hcl I0 (fun _ => 0) 0 = C at *
  generalize cl .u32 8 I0 = C8 at *
  go_enter Tryd.func77, Tryd.ntmps77
  go_wp2_with (with_reducible (show wpList _ _ _ (⟨_, Op.load 104 _, _, _, _, _⟩ :: _) _ _); refine wpList_load_mid rfl 104 _ rfl 0 0 rfl C8 _ HRG.out Tryd.underlying104 rfl (by rw [HC8.out]; exact info8) ?_; refine wpList_build73 rfl _ rfl _ _ rfl HB.out ?_)
  go_ret
  exact ⟨w.heap.size, rfl, HF.out _, hz, HQ.out _⟩

set_option maxRecDepth 100000 in
theorem copy_any (g : Nat) (s : ByteArray) (w : World) (h : HR w g s) : Calls Tryd.prog 94 #[.pointer (some ⟨g, 0, none⟩)] w fun e w' => e = .returned (.pointer (some ⟨w.heap.size, 0, none⟩)) ∧ HR w' w.heap.size s ∧ Q w w' := by
  obtain ⟨r, hr, he, hra⟩ := HC.range h
  have HRA := Lib.hid hra
  have hmk := zv73
  have HT := Lib.hid (there73 w)
  have HF : Hid (HR ((w.alloc z73).setCells w.heap.size 0 (hcl (blkF (sf s) (s.size / 64)) r s.size)) w.heap.size s) := by
    refine HC.of_range (World.rangeAt_setCells_same _ _ _ _ (by rw [hcl_len]; exact there73 w)) hr he fun j => ?_
    rw [World.frozen?_setCells]
    exact made_frozen w _ _ _
  have HQ : Hid (Q w ((w.alloc z73).setCells w.heap.size 0 (hcl (blkF (sf s) (s.size / 64)) r s.size))) := Q.setCells ((Q.refl w).alloc _) (Nat.le_refl _) _ _
  have HL := Lib.hid (hcl_len (blkF (sf s) (s.size / 64)) r s.size)
  have HO := Lib.hid (hcl_one (blkF (sf s) (s.size / 64)) r s.size)
  clear h hr he hra
  generalize hcl (blkF (sf s) (s.size / 64)) r s.size = C at *
  have HI3 : Hid ((Tryd.prog.info? 107).map (·.size) = some C.length) := by rw [HL.out]; exact info73
  have HI2 : Hid ((Tryd.prog.info? 107).map (·.size) = some C.toArray.size) := HI3
  have HT2 : Hid ((w.alloc z73).there w.heap.size 0 C.toArray.size) := by show (w.alloc z73).there w.heap.size 0 C.length; rw [HL.out]; exact HT.out
  go_enter Tryd.func94, Tryd.ntmps94
  go_wp2_with (with_reducible (show wpList _ _ _ (⟨_, Op.load 107 _, _, _, _, _⟩ :: _) _ _); refine halt ?_)
  refine wpList_load_mid rfl 107 _ rfl g 0 rfl C _ HRA.out Tryd.underlying107 rfl HI3.out ?_
  refine wpList_allocZ rfl 107 rfl Z73 hmk ?_
  refine wpList_store_mid rfl 107 _ _ rfl w.heap.size 0 C.toArray (by kernel_rfl) (by kernel_rfl) HT2.out HI2.out HO.out ?_
  go_wp2_with fail
  go_ret
  exact ⟨rfl, HF.out, HQ.out⟩
end Go.Proofs.YtnghhagiokiaoaaDoor.Sh
