/-
  Layer 7: the program's rows (a closure that calls itself), over.
-/
import Derived.Test.YtnghhagiokiaoaaDoorMerB
import Derived.Test.YtnghhagiokiaoaaDoorMer4
import Derived.Laws.EntriesVeiled
namespace Go.Proofs.YtnghhagiokiaoaaDoor.Mer
open Go.RowKit
open Mem Sh Wot
set_option linter.unusedVariables false

theorem infoTT : (Tryd.prog.info? 22).map (fun i => (i.zero, i.size, i.bytes)) = some (some (.slice none 0 0), 1, 24) := by kernel_rfl
/-- The closure over both variables. -/
def climbV (ga gc : Nat) : Value := .func (.func 73) #[] #[.pointer (some ⟨ga, 0, none⟩), .pointer (some ⟨gc, 0, none⟩)]
def slv (gs cs : Nat → Nat) (h j : Nat) : Value := .slice (some ⟨gs j, 0, none⟩) (2 ^ (h - j)) (cs j)
def slL (gs cs : Nat → Nat) (h : Nat) : Nat → List Value
  | 0 => []
  | k + 1 => slL gs cs h k ++ [slv gs cs h k]
theorem slL_len (gs cs : Nat → Nat) (h : Nat) : ∀ k, (slL gs cs h k).length = k
  | 0 => rfl
  | k + 1 => by show (slL gs cs h k ++ _).length = _; rw [List.length_append, slL_len gs cs h k]; rfl
theorem slL_get (gs cs : Nat → Nat) (h : Nat) : ∀ k j, j < k → (slL gs cs h k)[j]? = some (slv gs cs h j)
  | 0, _, hj => absurd hj (by omega)
  | k + 1, j, hj => by
    show (slL gs cs h k ++ [slv gs cs h k])[j]? = _
    by_cases e : j < k
    · rw [List.getElem?_append_left (by rw [slL_len]; exact e)]; exact slL_get gs cs h k j e
    · obtain rfl : j = k := by omega
      rw [List.getElem?_append_right (by rw [slL_len]; omega), slL_len, Nat.sub_self]; rfl
theorem slL_congr (gs cs gs' cs' : Nat → Nat) (h : Nat) : ∀ k, (∀ j, j < k → gs j = gs' j ∧ cs j = cs' j) → slL gs cs h k = slL gs' cs' h k
  | 0, _ => rfl
  | k + 1, e => by
    show slL gs cs h k ++ [slv gs cs h k] = slL gs' cs' h k ++ [slv gs' cs' h k]
    rw [slL_congr gs cs gs' cs' h k (fun j hj => e j (by omega))]
    unfold slv; rw [(e k (by omega)).1, (e k (by omega)).2]
def upn (f : Nat → Nat) (k v i : Nat) : Nat := if i = k then v else f i
/-- Where the rows stand: k of them are gathered. -/
structure AR (w : World) (B ga gc : Nat) (f : Nat → ByteArray) (h k : Nat) (a : Option Addr) (cv : Nat) (gs cs : Nat → Nat) : Prop where
  ca : w.cell? ⟨ga, 0, none⟩ = some (.slice a k cv)
  fa : w.frozen? ⟨ga, 0, none⟩ = false
  cc : w.cell? ⟨gc, 0, none⟩ = some (climbV ga gc)
  o : w.ownsRow B 22 1 (.slice a k cv) k (slL gs cs h k)
  r : ∀ j, j < k → TR w (gs j) 0 (2 ^ (h - j)) (rwS f j)
  z : k = 0 → a = none
  la : ga < B
  lc : gc < B
  ne : gc ≠ ga
theorem TR.keep {w w' : World} {g n : Nat} {f : Nat → ByteArray} {row : Option Nat} (t : TR w g 0 n f) (hg : w.grownBy w' row) (hne : row ≠ some g) : TR w' g 0 n f :=
  ⟨fun i hi => World.grownBy.cell hg (t.r i hi) (fun e => hne e.symm), Nat.lt_of_lt_of_le t.lt (World.grownBy.size hg)⟩
theorem AR.lt {w : World} {B ga gc : Nat} {f : Nat → ByteArray} {h k : Nat} {a : Option Addr} {cv : Nat} {gs cs : Nat → Nat} (A : AR w B ga gc f h k a cv gs cs) : ga < w.heap.size ∧ gc < w.heap.size := ⟨World.block_lt_of_cell? _ _ A.ca, World.block_lt_of_cell? _ _ A.cc⟩
/-- A row's block is not the one that gathers them. -/
theorem AR.own_ne {w : World} {B ga gc : Nat} {f : Nat → ByteArray} {h k : Nat} {a : Option Addr} {cv : Nat} {gs cs : Nat → Nat} (A : AR w B ga gc f h k a cv gs cs) {g n : Nat} {f' : Nat → ByteArray} (t : TR w g 0 n f') (hn : 0 < n) :
    (Value.slice a k cv).ownBlock ≠ some g := by
  intro e
  have ht := t.r 0 hn
  by_cases hk : k = 0
  · rw [A.z hk] at e; exact absurd e (by simp [Value.ownBlock])
  · have hc := World.ownsRow.cells A.o e 0 (slv gs cs h 0) (slL_get gs cs h k 0 (by omega))
    rw [show (⟨g, 0, none⟩ : Addr).add 0 = ⟨g, 0 + 0, none⟩ from rfl] at hc
    rw [ht] at hc
    unfold slv at hc
    simp at hc
theorem AR.box_ne {w : World} {B ga gc : Nat} {f : Nat → ByteArray} {h k : Nat} {a : Option Addr} {cv : Nat} {gs cs : Nat → Nat} (A : AR w B ga gc f h k a cv gs cs) {g n : Nat} {f' : Nat → ByteArray} (t : TR w g 0 n f') (hn : 0 < n) : g ≠ ga := by
  intro e
  have ht := t.r 0 hn
  rw [e, Nat.zero_add, A.ca] at ht
  simp at ht
theorem AR.q {w w' : World} {B ga gc : Nat} {f : Nat → ByteArray} {h k : Nat} {a : Option Addr} {cv : Nat} {gs cs : Nat → Nat} (A : AR w B ga gc f h k a cv gs cs) (q : Q w w') : AR w' B ga gc f h k a cv gs cs where
  ca := (q.cell (p := ⟨ga, 0, none⟩) A.lt.1).trans A.ca
  fa := (q.frozen (p := ⟨ga, 0, none⟩) A.lt.1).trans A.fa
  cc := (q.cell (p := ⟨gc, 0, none⟩) A.lt.2).trans A.cc
  o := World.ownsRow.kept A.o (Ch.of_q q w.heap.size) (by
    cases hv : (Value.slice a k cv).ownBlock with
    | none => exact .inl rfl
    | some y => exact .inr (by have := (World.ownsRow.lt A.o y hv).2; intro e; injection e; omega))
  r := fun j hj => (A.r j hj).q q
  z := A.z
  la := A.la
  lc := A.lc
  ne := A.ne
/-- One row more. -/
theorem AR.push {w w' : World} {B ga gc : Nat} {f : Nat → ByteArray} {h k : Nat} {a : Option Addr} {cv : Nat} {gs cs : Nat → Nat} (A : AR w B ga gc f h k a cv gs cs) {g N c : Nat} (hN : N = 2 ^ (h - k)) (t : TR w g 0 N (rwS f k)) (ob : Obj) {g' c' : Nat}
    (hown : w'.ownsRow B 22 1 (.slice (some ⟨g', 0, none⟩) (k + 1) c') (k + 1) (slL gs cs h k ++ [.slice (some ⟨g, 0, none⟩) N c])) (hg : (w.alloc ob).grownBy w' (Value.slice a k cv).ownBlock) :
    w'.cell? ⟨ga, 0, none⟩ = some (.slice a k cv) ∧ w'.frozen? ⟨ga, 0, none⟩ = false ∧ AR (w'.setCell ⟨ga, 0, none⟩ (.slice (some ⟨g', 0, none⟩) (k + 1) c')) B ga gc f h (k + 1) (some ⟨g', 0, none⟩) c' (upn gs k g) (upn cs k c) := by
  have hN0 : 0 < N := by rw [hN]; exact pow_pos2 _
  have ob_ga : (Value.slice a k cv).ownBlock ≠ some ga := fun e => by have := (World.ownsRow.lt A.o ga e).1; have := A.la; omega
  have ob_gc : (Value.slice a k cv).ownBlock ≠ some gc := fun e => by have := (World.ownsRow.lt A.o gc e).1; have := A.lc; omega
  have G := (World.grownBy_alloc w ob _).trans hg
  have h1 : w'.cell? ⟨ga, 0, none⟩ = some (.slice a k cv) := World.grownBy.cell G A.ca (fun e => ob_ga e.symm)
  have h2 : w'.frozen? ⟨ga, 0, none⟩ = false := (World.grownBy.frozen_far G ⟨ga, 0, none⟩ A.lt.1 (fun e => ob_ga e.symm)).trans A.fa
  have h3 : w'.cell? ⟨gc, 0, none⟩ = some (climbV ga gc) := World.grownBy.cell G A.cc (fun e => ob_gc e.symm)
  have lg : B ≤ g' := (World.ownsRow.lt hown g' rfl).1
  have S := Ch.set w' ga 0 (.slice (some ⟨g', 0, none⟩) (k + 1) c')
  refine ⟨h1, h2, ?_⟩
  exact {
    ca := World.cell?_setCell_same _ _ _ h1
    fa := by rw [World.frozen?_setCell]; exact h2
    cc := S.cell h3 A.ne
    o := by
      have e : slL (upn gs k g) (upn cs k c) h (k + 1) = slL gs cs h k ++ [.slice (some ⟨g, 0, none⟩) N c] := by
        show slL (upn gs k g) (upn cs k c) h k ++ [slv (upn gs k g) (upn cs k c) h k] = _
        rw [slL_congr (upn gs k g) (upn cs k c) gs cs h k (fun j hj => by unfold upn; rw [if_neg (by omega), if_neg (by omega)]; exact ⟨rfl, rfl⟩)]
        unfold slv upn; rw [if_pos rfl, if_pos rfl, hN]
      rw [e]
      exact World.ownsRow.kept hown S (.inr (by show some g' ≠ some ga; intro e; injection e; have := A.la; omega))
    r := fun j hj => by
      by_cases e : j = k
      · subst e
        unfold upn; rw [if_pos rfl, ← hN]
        exact (t.keep G (A.own_ne t hN0)).keep S (fun e => A.box_ne t hN0 (by injection e with e; exact e.symm))
      · unfold upn; rw [if_neg e]
        have tj := A.r j (by omega)
        exact (tj.keep G (A.own_ne tj (pow_pos2 _))).keep S (fun e => A.box_ne tj (pow_pos2 _) (by injection e with e; exact e.symm))
    z := fun e => by omega
    la := A.la
    lc := A.lc
    ne := A.ne }

set_option maxHeartbeats 2000000 in
set_option maxRecDepth 100000 in
theorem climb_x {W : World} (B ga gc h n : Nat) (f : Nat → ByteArray) (hG : GL W) (hga : W.heap.size ≤ ga) (hBW : W.heap.size ≤ B) (l : IsLv f n h) : ∀ (d k g N c : Nat) (w : World) (a : Option Addr) (cv : Nat) (gs cs : Nat → Nat), k + d = h → N = 2 ^ (h - k) → B ≤ w.heap.size → Q W w → AR w B ga gc f h k a cv gs cs → TR w g 0 N (rwS f k) →
    Calls Tryd.prog 73 #[.slice (some ⟨g, 0, none⟩) N c, .pointer (some ⟨ga, 0, none⟩), .pointer (some ⟨gc, 0, none⟩)] w fun e w' => e = .returned (.tuple #[]) ∧ (∃ a cv gs cs, AR w' B ga gc f h (h + 1) a cv gs cs) ∧ Q W w' := by
  intro d
  induction d with
  | zero =>
    intro k g N c w a cv gs cs hkd hN hB q A t
    obtain rfl : k = h := by omega
    obtain ⟨i0, hi0, hz0, hz1, hz2⟩ := info_parts infoTT
    have HA := Lib.hid A
    have HQ := Lib.hid q
    have HT := Lib.hid t
    have HN := Lib.hid hN
    obtain rfl : N = 1 := by rw [hN, Nat.sub_self]
    have ca := A.ca
    have hh := l.hh
    clear A t q hN hkd
    go_enter Tryd.func73, Tryd.ntmps73
    go_wp2_with (at_builtin; refine wpList_append_own _ rfl (.tmp 4) (.tmp 6) 72 rfl B 22 i0 (.slice none 0 0) 1 24 Tryd.underlying72 hi0 hz0 hz1 hz2 rfl (by decide) _ _ _ rfl (World.ownsRow.alloc HA.out.o _) ⟨w.heap.size, 0, none⟩ 1 1 [.slice (some ⟨g, 0, none⟩) 1 c] rfl rfl (cell_one_new _ _ _) (fun x hx => by simp at hx; subst hx; rfl) (by unfold maxLen; omega) (by omega) (by simp; omega) ?_; intro v1 w1 own1 hg1 _hn1; obtain ⟨g', c', rfl⟩ := ownsRow_succ own1; obtain ⟨p1, p2, p3⟩ := HA.out.push HN.out HT.out _ own1 hg1; have P3 := Lib.hid p3; have QG : Hid (Q W w1) := Below.grown (HQ.out.alloc (.cells #[.slice (some ⟨g, 0, none⟩) 1 c] 22)) hg1 (HQ.out.alloc _).size (fun j hj => by have := (World.ownsRow.lt HA.out.o j hj).1; omega); clear p3 own1 hg1)
    go_end0
    exact ⟨rfl, ⟨_, _, _, _, P3.out⟩, QG.out.setCell (p := ⟨ga, 0, none⟩) hga _⟩
  | succ d ih =>
    intro k g N c w a cv gs cs hkd hN hB q A t
    obtain ⟨i0, hi0, hz0, hz1, hz2⟩ := info_parts infoTT
    have HA := Lib.hid A
    have HQ := Lib.hid q
    have HT := Lib.hid t
    have HN := Lib.hid hN
    have IH := Lib.hid ih
    have hlt : k < h := by omega
    have e2 := pow_half h k hlt
    obtain ⟨M, eM⟩ : ∃ M, 2 ^ (h - (k + 1)) = M := ⟨_, rfl⟩
    have EM := Lib.hid eM
    have M1 : 1 ≤ M := by rw [← eM]; exact pow_pos2 _
    have hh := l.hh
    have M16 : M ≤ 16 := by rw [← eM]; exact pow_le16 _ (by omega)
    rw [eM] at e2
    have NM : Hid (N = 2 * M) := hN.trans e2
    have N1 : (1 : Int) < (N : Int) := by have := NM.out; omega
    have HKD : Hid (k + 1 + d = h) := by show _ = _; omega
    have KL : k = 0 → N ≤ n := fun e => by rw [hN, e, Nat.sub_zero, l.hn]; exact Nat.le_refl _
    have SZ : Hid (∀ i, i < N → (rwS f k i).size ≤ 1000000) := fun i hi => rwS_le l k i (fun e => by have := KL e; omega)
    have ca := A.ca
    clear A t q hN hkd ih eM e2 KL
    go_enter Tryd.func73, Tryd.ntmps73
    go_wp2_with (at_builtin; refine wpList_append_own _ rfl (.tmp 4) (.tmp 6) 72 rfl B 22 i0 (.slice none 0 0) 1 24 Tryd.underlying72 hi0 hz0 hz1 hz2 rfl (by decide) _ _ _ rfl (World.ownsRow.alloc HA.out.o _) ⟨w.heap.size, 0, none⟩ 1 1 [.slice (some ⟨g, 0, none⟩) N c] rfl rfl (cell_one_new _ _ _) (fun x hx => by simp at hx; subst hx; rfl) (by unfold maxLen; omega) (by omega) (by simp; omega) ?_; intro v1 w1 own1 hg1 _hn1; obtain ⟨g', c', rfl⟩ := ownsRow_succ own1; obtain ⟨p1, p2, p3⟩ := HA.out.push HN.out HT.out _ own1 hg1; have P3 := Lib.hid p3; have QG : Hid (Q W w1) := Below.grown (HQ.out.alloc (.cells #[.slice (some ⟨g, 0, none⟩) N c] 22)) hg1 (HQ.out.alloc _).size (fun j hj => by have := (World.ownsRow.lt HA.out.o j hj).1; omega); clear p3 own1 hg1)
    have Q2 := Lib.hid (QG.out.setCell (p := ⟨ga, 0, none⟩) hga (.slice (some ⟨g', 0, none⟩) (k + 1) c'))
    have T2 : Hid (TR (w1.setCell ⟨ga, 0, none⟩ (.slice (some ⟨g', 0, none⟩) (k + 1) c')) g 0 N (rwS f k)) := by
      have := P3.out.r k (by omega)
      unfold upn at this; rw [if_pos rfl, ← HN.out] at this; exact this
    have L2 : Hid (B ≤ (w1.setCell ⟨ga, 0, none⟩ (.slice (some ⟨g', 0, none⟩) (k + 1) c')).heap.size) := by
      have := P3.out.o.lt g' rfl; show B ≤ _; omega
    clear p1 p2 ca QG
    generalize w1.setCell ⟨ga, 0, none⟩ (.slice (some ⟨g', 0, none⟩) (k + 1) c') = w2 at *
    have HS0 : w2.drew.cell? ⟨gc, 0, none⟩ = some (climbV ga gc) := P3.out.cc
    unfold climbV at HS0
    refine wp_region_held_drew (S := fun w' => w'.cell? ⟨gc, 0, none⟩ = some (.func (.func 73) #[] #[.pointer (some ⟨ga, 0, none⟩), .pointer (some ⟨gc, 0, none⟩)])) (by kernel_rfl) HS0 (fun hHeld => ?_)
    refine wpAnyH_take (i := 0) (v := ?_) (by simp only [List.getElem?_toArray, List.getElem?_cons_zero]; rfl) (by kernel_rfl) (by kernel_rfl) (by kernel_rfl) (by exact fun _ _ _ h => h) (Or.inl ⟨by rfl, ?_⟩) (by assumption) ?_
    rotate_left
    · (intro wx hSw; (try dsimp only at hSw); go_simp; (try rw [if_neg (by omega)]); try (with_reducible rfl))
    try simp only [Act.put, List.setIfInBounds_toArray, List.set_cons_zero, List.set_cons_succ]
    refine wpAnyH_take (i := 1) (v := ?_) (by simp only [List.getElem?_toArray, List.getElem?_cons_zero, List.getElem?_cons_succ]; rfl) (by kernel_rfl) (by kernel_rfl) (by kernel_rfl) (by exact fun _ _ _ h => h) (Or.inl ⟨by rfl, ?_⟩) (by assumption) ?_
    rotate_left
    · (intro wx hSw; (try dsimp only at hSw); go_simp; (try rw [if_neg (by omega)]); try (with_reducible rfl))
    try simp only [Act.put, List.setIfInBounds_toArray, List.set_cons_zero, List.set_cons_succ]
    refine wpAnyH_ready (rs := [2]) (by kernel_rfl) (by simp) ?_
    refine AllReadyH.cons (by simp only [List.getElem?_toArray, List.getElem?_cons_succ, List.getElem?_cons_zero]; rfl) (fun K hK => ?_) AllReadyH.nil
    go_simp
    refine (above_x (W := w2) g N M c (rwS f k) w2.drew (Q.refl w2).drew (hG.q Q2.out) (T2.out.q (Q.refl w2).drew) NM.out (by omega) SZ.out).mono ?_
    rintro r w3 ⟨g3, c3, rfl, o3, q3⟩
    have A3 := Lib.hid (P3.out.q q3)
    have T3 : Hid (TR w3 g3 0 M (rwS f (k + 1))) := o3.tr
    have Q3 := Lib.hid (Q2.out.trans q3)
    have L3 := Lib.hid (Nat.le_trans L2.out q3.size)
    have HS3 := A3.out.cc
    unfold climbV at HS3
    clear o3 q3
    dsimp only
    refine hK.out _ _ HS3 (fun hHeld2 => ?_)
    clear hK K
    try simp only [Act.put, List.setIfInBounds_toArray, List.set_cons_zero, List.set_cons_succ]
    refine wpAnyH_ready (rs := [3]) (by kernel_rfl) (by simp) ?_
    refine AllReadyH.cons (by simp only [List.getElem?_toArray, List.getElem?_cons_succ, List.getElem?_cons_zero]; rfl) (fun K hK => ?_) AllReadyH.nil
    go_simp
    refine (IH.out (k + 1) g3 M c3 w3 _ _ _ _ HKD.out EM.out.symm L3.out Q3.out A3.out T3.out).mono ?_
    rintro r w4 ⟨rfl, ⟨a4, cv4, gs4, cs4, h4⟩, q4⟩
    have A4 := Lib.hid h4
    have Q4 := Lib.hid q4
    have HS4 := A4.out.cc
    unfold climbV at HS4
    clear h4 q4
    dsimp only
    refine hK.out _ _ HS4 (fun hHeld3 => ?_)
    clear hK K
    try simp only [Act.put, List.setIfInBounds_toArray, List.set_cons_zero, List.set_cons_succ]
    refine wpAnyH_done (by kernel_rfl) ?_ _
    go_wp2_with fail
    go_end0
    exact ⟨rfl, ⟨_, _, _, _, A4.out⟩, Q4.out⟩

/-- All rows of leaves, in a row. -/
structure RS (w : World) (g : Nat) (f : Nat → ByteArray) (h : Nat) (gs cs : Nat → Nat) : Prop where
  c : ∀ j, j ≤ h → w.cell? ⟨g, j, none⟩ = some (.slice (some ⟨gs j, 0, none⟩) (2 ^ (h - j)) (cs j))
  r : ∀ j, j ≤ h → TR w (gs j) 0 (2 ^ (h - j)) (rwS f j)
theorem RS.lt {w : World} {g : Nat} {f : Nat → ByteArray} {h : Nat} {gs cs : Nat → Nat} (x : RS w g f h gs cs) : g < w.heap.size := World.block_lt_of_cell? _ _ (x.c 0 (by omega))
theorem RS.q {w w' : World} {g : Nat} {f : Nat → ByteArray} {h : Nat} {gs cs : Nat → Nat} (x : RS w g f h gs cs) (q : Q w w') : RS w' g f h gs cs :=
  ⟨fun j hj => (q.cell (p := ⟨g, j, none⟩) x.lt).trans (x.c j hj), fun j hj => (x.r j hj).q q⟩
theorem AR.rs {w : World} {B ga gc : Nat} {f : Nat → ByteArray} {h : Nat} {a : Option Addr} {cv : Nat} {gs cs : Nat → Nat} (A : AR w B ga gc f h (h + 1) a cv gs cs) : ∃ g, a = some ⟨g, 0, none⟩ ∧ RS w g f h gs cs := by
  obtain ⟨g, cap, e⟩ := ownsRow_succ A.o
  simp only [Value.slice.injEq] at e
  obtain ⟨rfl, _, rfl⟩ := e
  refine ⟨g, rfl, fun j hj => ?_, fun j hj => A.r j (by omega)⟩
  have := World.ownsRow.cellAt A.o j (by omega)
  rw [this, slL_get gs cs h (h + 1) j (by omega)]; rfl
set_option maxHeartbeats 2000000 in
set_option maxRecDepth 100000 in
theorem rows_x {W : World} (g n cap h : Nat) (f : Nat → ByteArray) (w : World) (q : Q W w) (hG : GL W) (t : TR w g 0 n f) (l : IsLv f n h) :
    Calls Tryd.prog 55 #[.slice (some ⟨g, 0, none⟩) n cap] w fun e w' => ∃ g' c' gs cs, e = .returned (.slice (some ⟨g', 0, none⟩) (h + 1) c') ∧ RS w' g' f h gs cs ∧ Q W w' := by
  have HQ := Lib.hid q
  have HG := Lib.hid (hG.q q)
  have HT := Lib.hid t
  have HL := Lib.hid l
  have hmf : ∀ (fn : Fn) (first cap : Array Value) (w : World), (Instr.makeFunc fn first cap).run Tryd.prog w = .ok (.func fn first cap) w := fun _ _ _ _ => rfl
  have c1 : ((w.alloc (.cells #[.slice none 0 0] 72)).alloc (.cells #[climbV w.heap.size (w.heap.size + 1)] 91)).cell? ⟨w.heap.size + 1, 0, none⟩ = some (climbV w.heap.size (w.heap.size + 1)) := by
    rw [show (⟨w.heap.size + 1, 0, none⟩ : Addr) = ⟨(w.alloc (.cells #[.slice none 0 0] 72)).heap.size, 0, none⟩ by simp, World.cell?_alloc_at _ _ _ _ rfl]; rfl
  have Q1 : Hid (Q w ((w.alloc (.cells #[.slice none 0 0] 72)).alloc (.cells #[climbV w.heap.size (w.heap.size + 1)] 91))) := ((Q.refl w).alloc _).alloc _
  have a0 : ((w.alloc (.cells #[.slice none 0 0] 72)).alloc (.cells #[climbV w.heap.size (w.heap.size + 1)] 91)).cell? ⟨w.heap.size, 0, none⟩ = some (.slice none 0 0) := by
    rw [((Q.refl (w.alloc (.cells #[.slice none 0 0] 72))).alloc _).cell (p := ⟨w.heap.size, 0, none⟩) (by simp), World.cell?_alloc_at _ _ _ _ rfl]; rfl
  have af0 : ((w.alloc (.cells #[.slice none 0 0] 72)).alloc (.cells #[climbV w.heap.size (w.heap.size + 1)] 91)).frozen? ⟨w.heap.size, 0, none⟩ = false := by
    rw [((Q.refl (w.alloc (.cells #[.slice none 0 0] 72))).alloc _).frozen (p := ⟨w.heap.size, 0, none⟩) (by simp)]; exact made_frozen _ _ _ _
  have L1 : Hid (w.heap.size + 2 ≤ ((w.alloc (.cells #[.slice none 0 0] 72)).alloc (.cells #[climbV w.heap.size (w.heap.size + 1)] 91)).heap.size) := by show _ ≤ _; simp
  have A1 : Hid (AR ((w.alloc (.cells #[.slice none 0 0] 72)).alloc (.cells #[climbV w.heap.size (w.heap.size + 1)] 91)) (w.heap.size + 2) w.heap.size (w.heap.size + 1) f h 0 none 0 (fun _ => 0) (fun _ => 0)) :=
    { ca := a0
      fa := af0
      cc := c1
      o := ⟨rfl, .inl ⟨rfl, rfl⟩⟩
      r := fun j hj => by omega
      z := fun _ => rfl
      la := by omega
      lc := by omega
      ne := by omega }
  have N0 : Hid (n = 2 ^ (h - 0)) := l.hn
  clear q t l hG a0 af0
  unfold climbV at c1 A1 Q1 L1
  go_enter Tryd.func55, Tryd.ntmps55
  go_wp2_with fail
  refine (climb_x (W := w) (w.heap.size + 2) w.heap.size (w.heap.size + 1) h n f HG.out (Nat.le_refl _) (by omega) HL.out h 0 g n cap _ none 0 _ _ (by omega) N0.out L1.out Q1.out A1.out (HT.out.q Q1.out)).mono ?_
  rintro e w2 ⟨rfl, ⟨a2, cv2, gs2, cs2, A2⟩, q2⟩
  obtain ⟨g2, rfl, R2⟩ := A2.rs
  have ca2 := A2.ca
  have RR := Lib.hid R2
  have Q2 := Lib.hid q2
  clear c1 A1 Q1 L1 A2 R2 q2
  go_wp2_with fail
  go_ret
  exact ⟨g2, cv2, gs2, cs2, rfl, RR.out, HQ.out.trans Q2.out⟩
set_option maxHeartbeats 1000000 in
theorem over_x {W : World} (g n cap h : Nat) (f : Nat → ByteArray) (x : ByteArray) (hx : mroot h f = x) (w : World) (q : Q W w) (hG : GL W) (t : TR w g 0 n f) (l : IsLv f n h) :
    Calls Tryd.prog 31 #[.slice (some ⟨g, 0, none⟩) n cap] w fun e w' => e = .returned (.string x) ∧ Q W w' := by
  have C := Lib.hid (rows_x g n cap h f w q hG t l)
  have HX : Hid (rtS h (rwS f h 0) = x) := hx
  have HG := Lib.hid hG
  have zy : (rwS f h 0).size ≤ 1000000 := rwS_le l h 0 (fun _ => l.n1)
  have hh := l.hh
  have h0 : (0 : Int) ≤ (h : Int) := by omega
  clear q t l hG hx
  go_enter Tryd.func31, Tryd.ntmps31
  go_wp2_with fail
  refine C.out.mono ?_
  rintro e w1 ⟨g1, c1, gs, cs, rfl, r1, q1⟩
  have Q1 := Lib.hid q1
  have hc1 := r1.c h (by omega)
  have hc2 := (r1.r h (by omega)).r 0 (pow_pos2 _)
  rw [Nat.sub_self, Nat.pow_zero] at hc1
  rw [Nat.zero_add] at hc2
  clear r1 q1 C
  generalize gs h = g2 at *
  generalize cs h = c2 at *
  generalize rwS f h 0 = y at *
  go_wp2_with fail
  refine (rootOf_x h y x HX.out w1 Q1.out HG.out zy (by omega)).mono ?_
  rintro e w2 ⟨rfl, q2⟩
  go_wp2_with fail
  go_ret
  exact ⟨rfl, q2⟩
end Go.Proofs.YtnghhagiokiaoaaDoor.Mer
