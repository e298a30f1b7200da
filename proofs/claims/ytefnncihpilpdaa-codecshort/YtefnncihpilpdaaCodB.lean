/-
  Layer 3: what is written is read: the bytes of parts, one behind the other, read from their beginning.
-/
import Derived.Test.YtefnncihpilpdaaCodV
import Derived.Laws.Bits128
namespace Go.Proofs.Ytefnncihpilpdaa.Cod
open Go.RowKit
open Mem Num
set_option linter.unusedVariables false

/-- All parts' bytes. -/
def txt : List Pt → ByteArray
  | [] => ByteArray.empty
  | p :: r => pT p ++ txt r
theorem txt_append (p : Pt) : ∀ l, txt (l ++ [p]) = txt l ++ pT p
  | [] => by simp [txt]
  | q :: l => by
    show pT q ++ txt (l ++ [p]) = pT q ++ txt l ++ pT p
    rw [txt_append p l, ByteArray.append_assoc]
/-- Parts that can be written. -/
structure Pt.good (p : Pt) : Prop where
  e : pE p = 0
  s : p.s.size ≤ 5000
theorem wyE_0 {n : Int} (h : wyE n = 0) : 0 ≤ n ∧ n ≤ 255 := by
  unfold wyE at h
  by_cases k : 0 ≤ n ∧ n ≤ 255
  · exact k
  · rw [if_neg k] at h; exact absurd h (by decide)
theorem wbE_0 {s : ByteArray} (h : wbE s = 0) : s.size ≤ 4096 := by
  unfold wbE at h
  by_cases k : s.size ≤ 4096
  · exact k
  · rw [if_neg k] at h; exact absurd h (by decide)
theorem waE_0 {s : ByteArray} (h : waE s = 0) : s.size = 16 := by
  unfold waE at h
  by_cases k : s.size = 16
  · exact k
  · rw [if_neg k] at h; exact absurd h (by decide)
theorem pT_pos {p : Pt} (h : pE p = 0) : 0 < (pT p).size := by
  by_cases h0 : p.k = 0
  · rw [pT_0 h0, strOfNums_size]; simp
  · by_cases h1 : p.k = 1
    · rw [pT_1 h1, putS_size]; omega
    · by_cases h2 : p.k = 2
      · rw [pT_2 h2, blobS_size]; omega
      · rw [pE_3 h0 h1 h2] at h
        rw [pT_3 h0 h1 h2, waE_0 h]; omega
theorem bt_nums (l : List Int) (i : Nat) (h : i < l.length) (hb : ∀ x ∈ l, 0 ≤ x ∧ x ≤ 255) : PlainAid.bt (strOfNums l) i = l.getD i 0 := by
  unfold PlainAid.bt
  rw [dif_pos (by rw [strOfNums_size]; exact h)]
  have := hb _ (List.getElem_mem h)
  simp [strOfNums, ByteArray.getElem_eq_getElem_data, List.getD, h]
  omega
theorem drop_front {a t : ByteArray} {k : Nat} (h : k = a.size) : (a ++ t).extract k (a ++ t).size = t := ByteArray.extract_append_eq_right h ByteArray.size_append

theorem back_byte (n : Int) (t : ByteArray) (hn : 0 ≤ n ∧ n ≤ 255) : byE (strOfNums [n] ++ t) = 0 ∧ PlainAid.bt (strOfNums [n] ++ t) 0 = n ∧ rdS (strOfNums [n] ++ t) 0 1 0 = t := by
  have z : (strOfNums [n]).size = 1 := by rw [strOfNums_size]; rfl
  refine ⟨?_, ?_, ?_⟩
  · unfold byE; rw [if_pos (by rw [ByteArray.size_append]; omega)]
  · rw [bt_append, if_pos (by omega), bt_nums _ _ (by simp) (by simpa using hn)]; rfl
  · unfold rdS; rw [if_pos ⟨rfl, rfl⟩]; exact drop_front z.symm
theorem back_hash (s t : ByteArray) (hs : s.size = 16) : haE (s ++ t) = 0 ∧ (s ++ t).extract 0 16 = s ∧ rdS (s ++ t) 0 16 0 = t := by
  refine ⟨?_, ByteArray.extract_append_eq_left hs.symm, ?_⟩
  · unfold haE; rw [if_pos (by rw [ByteArray.size_append]; omega)]
  · unfold rdS; rw [if_pos ⟨rfl, rfl⟩]; exact drop_front hs.symm
theorem back_blob (s t : ByteArray) (m : Int) (hs : s.size ≤ 4096) (hm : (s.size : Int) ≤ m) : blL (blobS s ++ t) = s.size ∧ blE (blobS s ++ t) m = 0 ∧ (blobS s ++ t).extract 2 (2 + s.size) = s ∧ rdS (blobS s ++ t) 0 (2 + s.size) 0 = t := by
  have z := blobS_size s
  have hb : ∀ x ∈ [(s.size : Int) / 256, (s.size : Int) % 256], 0 ≤ x ∧ x ≤ 255 := by
    intro x hx
    simp at hx
    rcases hx with rfl | rfl <;> omega
  have z2 : (strOfNums [(s.size : Int) / 256, (s.size : Int) % 256]).size = 2 := by rw [strOfNums_size]; rfl
  have b0 : PlainAid.bt (blobS s ++ t) 0 = (s.size : Int) / 256 := by
    rw [bt_append, if_pos (by omega)]; unfold blobS; rw [bt_append, if_pos (by omega), bt_nums _ _ (by simp) hb]; rfl
  have b1 : PlainAid.bt (blobS s ++ t) 1 = (s.size : Int) % 256 := by
    rw [bt_append, if_pos (by omega)]; unfold blobS; rw [bt_append, if_pos (by omega), bt_nums _ _ (by simp) hb]; rfl
  have hl : blL (blobS s ++ t) = s.size := by unfold blL; rw [b0, b1]; omega
  refine ⟨hl, ?_, ?_, ?_⟩
  · unfold blE
    rw [hl, ByteArray.size_append, if_neg (by omega), if_neg (by omega), if_neg (by omega)]
  · rw [show blobS s ++ t = strOfNums [(s.size : Int) / 256, (s.size : Int) % 256] ++ (s ++ t) by unfold blobS; rw [ByteArray.append_assoc]]
    have := @ByteArray.extract_append_size_add (strOfNums [(s.size : Int) / 256, (s.size : Int) % 256]) (s ++ t) 0 s.size
    rw [z2] at this
    rw [show 2 = 2 + 0 by rfl, show 2 + 0 + s.size = 2 + s.size by omega, this]
    exact ByteArray.extract_append_eq_left rfl
  · unfold rdS; rw [if_pos ⟨rfl, rfl⟩]; exact drop_front z.symm
theorem getN_put (n : Int) (t : ByteArray) (h0 : 0 ≤ n) (h1 : n ≤ 18446744073709551615) : getN (putS n ++ t) 8 = n := by
  have z := putS_size n
  have hb := putL_digits n h0 h1
  have b : ∀ i, i < 8 → PlainAid.bt (putS n ++ t) i = (putL n).getD i 0 := fun i hi => by
    rw [bt_append, if_pos (by omega)]; unfold putS; exact bt_nums _ _ (by simpa [putL] using hi) (fun x hx => hb x hx)
  simp only [getN, b 0 (by omega), b 1 (by omega), b 2 (by omega), b 3 (by omega), b 4 (by omega), b 5 (by omega), b 6 (by omega), b 7 (by omega)]
  simp [putL]
  omega
theorem back_num (n : Int) (t : ByteArray) (h0 : 0 ≤ n) (h1 : n ≤ 18446744073709551615) : getE (putS n ++ t) = 0 ∧ getV (putS n ++ t) = n ∧ rdS (putS n ++ t) 0 8 0 = t := by
  have z := putS_size n
  refine ⟨?_, ?_, ?_⟩
  · unfold getE; rw [if_pos (by rw [ByteArray.size_append]; omega)]
  · unfold getV; rw [if_pos (by rw [ByteArray.size_append]; omega)]; exact getN_put n t h0 h1
  · unfold rdS; rw [if_pos ⟨rfl, rfl⟩]; exact drop_front z.symm

/-- Parts in a list, in memory. -/
def pl (l : List Pt) : List Value := l.flatMap Pt.cells
theorem pl_len : ∀ l, (pl l).length = l.length * 3
  | [] => rfl
  | p :: l => by
    show (p.cells ++ pl l).length = (l.length + 1) * 3
    rw [List.length_append, pl_len l]
    simp [Pt.cells]
    omega
theorem pl_append (l : List Pt) (p : Pt) : pl (l ++ [p]) = pl l ++ p.cells := by unfold pl; simp
theorem pl_get : ∀ (l : List Pt) (i : Nat) (p : Pt), l[i]? = some p → (pl l)[i * 3]? = some (.int .i64 p.k) ∧ (pl l)[i * 3 + 1]? = some (.int .i64 p.n) ∧ (pl l)[i * 3 + 2]? = some (.string p.s)
  | [], i, p, h => by simp at h
  | q :: l, 0, p, h => by
    simp at h
    subst h
    exact ⟨rfl, rfl, rfl⟩
  | q :: l, i + 1, p, h => by
    have := pl_get l i p (by simpa using h)
    have e : pl (q :: l) = q.cells ++ pl l := rfl
    have hl : q.cells.length = 3 := rfl
    rw [e, List.getElem?_append_right (by omega), List.getElem?_append_right (by omega), List.getElem?_append_right (by omega), hl]
    rw [show (i + 1) * 3 - 3 = i * 3 by omega, show (i + 1) * 3 + 1 - 3 = i * 3 + 1 by omega, show (i + 1) * 3 + 2 - 3 = i * 3 + 2 by omega]
    exact this
def LRow (w : World) (g : Nat) (l : List Pt) : Prop := ∀ i p, l[i]? = some p → w.cell? ⟨g, i * 3, none⟩ = some (.int .i64 p.k) ∧ w.cell? ⟨g, i * 3 + 1, none⟩ = some (.int .i64 p.n) ∧ w.cell? ⟨g, i * 3 + 2, none⟩ = some (.string p.s)
theorem LRow.q {w w' : World} {g : Nat} {l : List Pt} (h : LRow w g l) (q : Q w w') : LRow w' g l := fun i p hi => ⟨Q.cell' q (h i p hi).1, Q.cell' q (h i p hi).2.1, Q.cell' q (h i p hi).2.2⟩
theorem LRow.ch {w w' : World} {g g' : Nat} {l : List Pt} (h : LRow w g l) (c : Ch g' w w') (hne : g ≠ g') : LRow w' g l := fun i p hi => ⟨c.cell (h i p hi).1 hne, c.cell (h i p hi).2.1 hne, c.cell (h i p hi).2.2 hne⟩
theorem own_list {w : World} {base : Nat} {t : TypeId} {g n cap : Nat} {l : List Pt} (h : w.ownsRow base t 3 (.slice (some ⟨g, 0, none⟩) n cap) n (pl l)) : LRow w g l := by
  intro i p hi
  have hc := h.cells (g := g) rfl
  obtain ⟨h1, h2, h3⟩ := pl_get l i p hi
  have e1 := hc _ _ h1
  have e2 := hc _ _ h2
  have e3 := hc _ _ h3
  rw [Go.WideShapes.add_plain, Nat.zero_add] at e1 e2 e3
  exact ⟨e1, e2, e3⟩

/-- A Writer stays when another block, that is no piece, turns. -/
theorem Chain.turned {w w' : World} {K g3 : Nat} (c : Ch g3 w w') (ns : ∀ s, w.cell? ⟨g3, 0, none⟩ ≠ some (.string s)) : ∀ {p : Option Addr} {l : List ByteArray}, Chain w K p l → Chain w' K p l
  | p, [], h => h
  | p, t :: r, ⟨b, q, h1, h2, h3, h4, h5, h6⟩ => by
    have hb : b ≠ g3 := fun e => ns t (e ▸ h4)
    exact ⟨b, q, h1, h2, h3, c.cell h4 hb, c.cell h5 hb, Chain.turned c ns h6⟩
theorem WR.turned {w w' : World} {g g3 K : Nat} {T : ByteArray} {e : Int} (h : WR w g K T e) (c : Ch g3 w w') (hne : g ≠ g3) (ns : ∀ s, w.cell? ⟨g3, 0, none⟩ ≠ some (.string s)) : WR w' g K T e := by
  obtain ⟨p, l, h1, h2, h3⟩ := h.ch
  exact ⟨⟨p, l, c.cell h1 hne, h2.turned c ns, h3⟩, c.cell h.n1 hne, c.cell h.e2 hne, fun j => by rw [c.frozen (a := ⟨g, j, none⟩) h.glt hne]; exact h.fz j, h.le, Nat.lt_of_lt_of_le h.lt c.size, h.er⟩

/-- Where the gathering stands: parts l were written and kept. -/
structure GI (w1 : World) (gw g3 : Nat) (l : List Pt) (k : Nat) (w : World) : Prop where
  wr : WR w gw gw (txt l) 0
  q : Q w1 w
  good : ∀ p ∈ l, p.good
  len : l.length ≤ k
  sz : (txt l).size ≤ k * 6000
  ns : ∀ s, w.cell? ⟨g3, 0, none⟩ ≠ some (.string s)
  lt : g3 < w.heap.size
  ne : gw < g3
  le : w1.heap.size ≤ gw
section
variable {w1 w w' : World} {gw g3 k : Nat} {l : List Pt} {p : Pt}
theorem GI.up (h : GI w1 gw g3 l k w) (q : Q w w') : GI w1 gw g3 l k w' := ⟨h.wr.q q, h.q.trans q, h.good, h.len, h.sz, fun s => by rw [q.cell (p := ⟨g3, 0, none⟩) h.lt]; exact h.ns s, Nat.lt_of_lt_of_le h.lt q.size, h.ne, h.le⟩
theorem GI.skip (h : GI w1 gw g3 l k w) : GI w1 gw g3 l (k + 1) w := ⟨h.wr, h.q, h.good, Nat.le_succ_of_le h.len, Nat.le_trans h.sz (Nat.mul_le_mul_right _ (Nat.le_succ k)), h.ns, h.lt, h.ne, h.le⟩
/-- Behind the program's put of a part that can be written. -/
theorem GI.put (h : GI w1 gw g3 l k w) (hp : p.good) {r : Ending} (d : WDone gw gw (txt l) 0 (pT p) (pE p) w r w') :
    WR w' gw gw (txt (l ++ [p])) 0 ∧ Q w1 w' ∧ (∀ s, w'.cell? ⟨g3, 0, none⟩ ≠ some (.string s)) ∧ Ch gw w w' := by
  obtain ⟨_, h1, h2⟩ := d
  rw [hp.e] at h1
  refine ⟨?_, h2.q h.q h.le, fun s e => ?_, h2⟩
  · rw [txt_append]
    have := h1
    unfold wrT failE at this
    simpa using this
  · have h0 := h2.block g3 h.lt (fun e => by have := h.ne; injection e; omega)
    have : w'.cell? ⟨g3, 0, none⟩ = w.cell? ⟨g3, 0, none⟩ := World.cell?_of_block h0
    rw [this] at e
    exact h.ns s e
theorem own_block {w w' : World} {base : Nat} {e : TypeId} {size : Nat} {v : Value} {n : Nat} {xs : List Value} (h : w.ownsRow base e size v n xs) (k : ∀ g, v.ownBlock = some g → w'.heap[g]? = w.heap[g]?) : w'.ownsRow base e size v n xs := by
  refine ⟨h.1, ?_⟩
  rcases h.2 with h0 | ⟨g, cap, cur, a, b, c, d⟩
  · exact .inl h0
  · subst a
    exact .inr ⟨g, cap, cur, rfl, b, by rw [k g rfl]; exact c, d⟩
theorem own_q {w w' : World} {base : Nat} {e : TypeId} {size : Nat} {v : Value} {n : Nat} {xs : List Value} (h : w.ownsRow base e size v n xs) (q : Q w w') : w'.ownsRow base e size v n xs :=
  own_block h fun g hg => q.block g (h.lt g hg).2
theorem own_ch {w w' : World} {base : Nat} {e : TypeId} {size : Nat} {v : Value} {n : Nat} {xs : List Value} {g' : Nat} (h : w.ownsRow base e size v n xs) (c : Ch g' w w') (hg : g' < base) : w'.ownsRow base e size v n xs :=
  own_block h fun g hgb => c.block g (h.lt g hgb).2 (fun e => by have := (h.lt g hgb).1; injection e; omega)
theorem GI.add {w0 : World} {g4 cap4 : Nat} {t : TypeId} (h : GI w1 gw g3 l k w0) (hp : p.good) (hgw : gw = w1.heap.size) (hw : WR w gw gw (txt (l ++ [p])) 0) (q : Q w1 w) (ns : ∀ s, w.cell? ⟨g3, 0, none⟩ ≠ some (.string s)) (c : Ch g3 w w')
    (own : w'.ownsRow (w1.heap.size + 1) t 3 (.slice (some ⟨g4, 0, none⟩) (l.length + 1) cap4) (l.length + 1) (pl (l ++ [p]))) : GI w1 gw g4 (l ++ [p]) (k + 1) w' := by
  have hl := own.lt g4 rfl
  have hne := h.ne
  refine ⟨hw.turned c (by omega) ns, c.q q (by omega), ?_, ?_, ?_, ?_, hl.2, by omega, h.le⟩
  · intro x hx
    rcases List.mem_append.1 hx with hx | hx
    · exact h.good x hx
    · simp at hx; subst hx; exact hp
  · have := h.len
    simp
    omega
  · have h1 := h.sz
    have h2 := pT_size p hp.s
    have e1 : (txt (l ++ [p])).size = (txt l).size + (pT p).size := by rw [txt_append, ByteArray.size_append]
    omega
  · intro s hs
    have hr := own_list own
    obtain ⟨x, hx⟩ : ∃ x, (l ++ [p])[0]? = some x := ⟨_, List.getElem?_eq_getElem (by simp)⟩
    have := (hr 0 x hx).1
    rw [Nat.zero_mul] at this
    rw [this] at hs
    cases hs
theorem GI.start (w1 : World) (t u : TypeId) : GI w1 w1.heap.size (w1.heap.size + 1) [] 0 ((w1.alloc (newO t)).alloc (.cells #[] u)) := by
  refine ⟨?_, ((Q.refl w1).alloc _).alloc _, fun p hp => by simp at hp, Nat.le_refl _, by decide, ?_, by simp, by omega, Nat.le_refl _⟩
  · exact WR.among (V := w1) rfl ((Q.refl _).alloc _) (Nat.le_refl _) (by simp; omega)
  · intro s hs
    rw [World.cell?_alloc_at _ _ _ _ (by simp)] at hs
    simp at hs
theorem own_start (w1 : World) (o : Obj) (u : TypeId) : ((w1.alloc o).alloc (.cells #[] u)).ownsRow (w1.heap.size + 1) u 3 (.slice (some ⟨w1.heap.size + 1, 0, none⟩) 0 0) 0 (pl []) := by
  have h := World.ownsRow_lit (e := u) (size := 3) (w1.alloc o) #[] 0 (base := w1.heap.size + 1) (by simp) (by decide +kernel) rfl
  have z : (w1.alloc o).heap.size = w1.heap.size + 1 := by simp
  rw [z] at h
  exact h
end

/-- Where the reading back stands: what is left are the parts from i on, and what stands behind them. -/
structure BI (w2 : World) (gr : Nat) (l : List Pt) (M : ByteArray) (i : Nat) (w : World) : Prop where
  r : RD w gr (txt (l.drop i) ++ M) 0
  q : Q w2 w
theorem BI.up {w2 w w' : World} {gr : Nat} {l : List Pt} {M : ByteArray} {i : Nat} (h : BI w2 gr l M i w) (q : Q w w') : BI w2 gr l M i w' := ⟨h.r.q q, h.q.trans q⟩
theorem txt_drop_size (l : List Pt) (i : Nat) : (txt (l.drop i)).size ≤ (txt l).size := by
  induction i generalizing l with
  | zero => exact Nat.le_refl _
  | succ i ih =>
    cases l with
    | nil => exact Nat.le_refl _
    | cons p l =>
      show (txt (l.drop i)).size ≤ (pT p ++ txt l).size
      have := ih l
      rw [ByteArray.size_append]
      omega
theorem txt_zero (l : List Pt) (h : ∀ p ∈ l, p.good) (hz : (txt l).size = 0) : l = [] := by
  cases l with
  | nil => rfl
  | cons p l =>
    have h1 := pT_pos (h p (by simp)).e
    have : (txt (p :: l)).size = (pT p).size + (txt l).size := by show (pT p ++ txt l).size = _; rw [ByteArray.size_append]
    omega
theorem size_zero_eq {M : ByteArray} (h : M.size = 0) : M = ByteArray.empty := ByteArray.size_eq_zero_iff.1 h
/-- The four ways to read a part back. -/
def BDone (w2 : World) (gr : Nat) (l : List Pt) (M : ByteArray) (i : Nat) (v : Value) (r : Ending) (w' : World) : Prop := r = .returned v ∧ BI w2 gr l M (i + 1) w'
section
variable {w2 w : World} {gr i : Nat} {l : List Pt} {M : ByteArray} {p : Pt}
theorem BI.split (h : BI w2 gr l M i w) (hp : l[i]? = some p) : RD w gr (pT p ++ (txt (l.drop (i + 1)) ++ M)) 0 := by
  have e : l.drop i = p :: l.drop (i + 1) := by
    obtain ⟨hi, rfl⟩ := List.getElem?_eq_some_iff.1 hp
    exact List.drop_eq_getElem_cons hi
  have := h.r
  rw [e] at this
  rw [← ByteArray.append_assoc]
  exact this
theorem BI.byte (h : BI w2 gr l M i w) (hp : l[i]? = some p) (hg : p.good) (h0 : p.k = 0) (hs : (txt l).size + M.size ≤ 100000000) (hr : w2.heap.size ≤ gr) : Calls Try.prog 21 #[.pointer (some ⟨gr, 0, none⟩)] w (BDone w2 gr l M i (.int .i64 p.n)) := by
  have hd := h.split hp
  have hz := txt_drop_size l (i + 1)
  have hz2 := pT_size p hg.s
  have he := hg.e
  rw [pE_0 h0] at he
  rw [pT_0 h0] at hd
  obtain ⟨b1, b2, b3⟩ := back_byte p.n (txt (l.drop (i + 1)) ++ M) (wyE_0 he)
  have hz3 : (strOfNums [p.n]).size = 1 := by rw [strOfNums_size]; rfl
  exact (rbyte_x hd (by simp only [ByteArray.size_append]; omega) (by rw [b1, b2]; rfl) (by rw [b1]; exact b3) (by rw [b1]; rfl)).mono fun r w' ⟨a, b, c⟩ => ⟨a, b, c.q h.q hr⟩
theorem BI.num (h : BI w2 gr l M i w) (hp : l[i]? = some p) (h0 : p.k = 1) (hs : (txt l).size + M.size ≤ 100000000) (hr : w2.heap.size ≤ gr) : Calls Try.prog 23 #[.pointer (some ⟨gr, 0, none⟩)] w (BDone w2 gr l M i (.int .u64 (p.n % 18446744073709551616))) := by
  have hd := h.split hp
  have hz := txt_drop_size l (i + 1)
  rw [pT_1 h0] at hd
  obtain ⟨b1, b2, b3⟩ := back_num (p.n % 18446744073709551616) (txt (l.drop (i + 1)) ++ M) (by omega) (by omega)
  have hz3 := putS_size (p.n % 18446744073709551616)
  exact (rnum_x hd (by simp only [ByteArray.size_append]; omega) (by rw [b1, b2]; rfl) (by rw [b1]; exact b3) (by rw [b1]; rfl)).mono fun r w' ⟨a, b, c⟩ => ⟨a, b, c.q h.q hr⟩
theorem BI.blob (m : Int) (h : BI w2 gr l M i w) (hp : l[i]? = some p) (hg : p.good) (h0 : p.k = 2) (hm : (p.s.size : Int) ≤ m) (hs : (txt l).size + M.size ≤ 100000000) (hr : w2.heap.size ≤ gr) : Calls Try.prog 25 #[.pointer (some ⟨gr, 0, none⟩), .int .i64 m] w (BDone w2 gr l M i (.string p.s)) := by
  have hd := h.split hp
  have hz := txt_drop_size l (i + 1)
  have he := hg.e
  rw [pE_2 h0] at he
  rw [pT_2 h0] at hd
  obtain ⟨b0, b1, b2, b3⟩ := back_blob p.s (txt (l.drop (i + 1)) ++ M) m (wbE_0 he) hm
  have hz3 := blobS_size p.s
  have hz4 := hg.s
  exact (rblob_x m hd (by simp only [ByteArray.size_append]; omega) (by rw [b1, b0, b2]; rfl) (by rw [b1, b0]; exact b3) (by rw [b1]; rfl)).mono fun r w' ⟨a, b, c⟩ => ⟨a, b, c.q h.q hr⟩
theorem BI.hash (h : BI w2 gr l M i w) (hp : l[i]? = some p) (hg : p.good) (h0 : p.k ≠ 0) (h1 : p.k ≠ 1) (h2 : p.k ≠ 2) (hs : (txt l).size + M.size ≤ 100000000) (hr : w2.heap.size ≤ gr) : Calls Try.prog 27 #[.pointer (some ⟨gr, 0, none⟩)] w (BDone w2 gr l M i (.string p.s)) := by
  have hd := h.split hp
  have hz := txt_drop_size l (i + 1)
  have he := hg.e
  rw [pE_3 h0 h1 h2] at he
  rw [pT_3 h0 h1 h2] at hd
  obtain ⟨b1, b2, b3⟩ := back_hash p.s (txt (l.drop (i + 1)) ++ M) (waE_0 he)
  have hz4 := hg.s
  exact (rhash_x hd (by simp only [ByteArray.size_append]; omega) (by rw [b1, b2]; rfl) (by rw [b1]; exact b3) (by rw [b1]; rfl)).mono fun r w' ⟨a, b, c⟩ => ⟨a, b, c.q h.q hr⟩
end
end Go.Proofs.Ytefnncihpilpdaa.Cod
