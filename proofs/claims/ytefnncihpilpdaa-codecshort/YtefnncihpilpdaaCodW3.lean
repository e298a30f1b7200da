/-
  Layer 3: the walk of a Writer's Text.
-/
import Derived.Test.YtefnncihpilpdaaCodW2
namespace Go.Proofs.Ytefnncihpilpdaa.Cod
open Go.RowKit
open Mem Num
set_option linter.unusedVariables false

def nb (s : ByteArray) : List Int := s.data.toList.map fun b => (b.toNat : Int)
theorem nb_len (s : ByteArray) : (nb s).length = s.size := by unfold nb; rw [List.length_map, Array.length_toList]; rfl
theorem nb_bt (s : ByteArray) (i : Nat) : (nb s).getD i 0 = PlainAid.bt s i := by
  unfold PlainAid.bt nb
  by_cases h : i < s.size
  · rw [dif_pos h]
    have h' : i < s.data.size := h
    simp [List.getD, ByteArray.getElem_eq_getElem_data]
    rw [Array.getElem?_eq_getElem h']
    rfl
  · rw [dif_neg h]
    have h' : ¬ i < s.data.size := h
    simp [List.getD]
    rw [Array.getElem?_eq_none (by omega)]
    rfl
theorem nb_str (s : ByteArray) : strOfNums (nb s) = s := by unfold nb; rw [Lib.Lz.strOfNums_map]
theorem bt_append (a b : ByteArray) (i : Nat) : PlainAid.bt (a ++ b) i = if i < a.size then PlainAid.bt a i else PlainAid.bt b (i - a.size) := by
  unfold PlainAid.bt
  by_cases h : i < a.size
  · rw [if_pos h, dif_pos h, dif_pos (by rw [ByteArray.size_append]; omega), ByteArray.getElem_append_left h]
  · rw [if_neg h]
    by_cases k : i - a.size < b.size
    · rw [dif_pos k, dif_pos (by rw [ByteArray.size_append]; omega), ByteArray.getElem_append_right (by omega)]
    · rw [dif_neg k, dif_neg (by rw [ByteArray.size_append]; omega)]
/-- A text's cells. -/
def bcl (t : ByteArray) : List Value := t.data.toList.map fun x => Value.int .u8 (x.toNat : Int)
theorem bcl_len (t : ByteArray) : (bcl t).length = t.size := by unfold bcl; rw [List.length_map, ← Lib.size_eq]
theorem bcl_get (t : ByteArray) (j : Nat) (h : j < t.size) : (bcl t)[j]? = some (.int .u8 (PlainAid.bt t j)) := by
  have h' : j < t.data.size := h
  unfold bcl PlainAid.bt
  rw [dif_pos h]
  simp [ByteArray.getElem_eq_getElem_data]
  rw [Array.getElem?_eq_getElem h']
  exact ⟨_, rfl, rfl⟩

/-- A block as long as T that holds T from place m on. -/
def Filled (w : World) (G : Nat) (T : ByteArray) (m : Nat) : Prop :=
  ∃ f, Row .u8 w G 0 T.size f ∧ (∀ j, w.frozen? ⟨G, j, none⟩ = false) ∧ ∀ i, m ≤ i → i < T.size → f i = PlainAid.bt T i
theorem Filled.made (w : World) (T : ByteArray) : Filled (w.alloc (.cells (madeCells (Value.int IntKind.u8 0).cells T.size) 5)) w.heap.size T T.size := by
  refine ⟨fun _ => 0, ?_, made_frozen w _ _, fun i h1 h2 => by omega⟩
  intro i hi
  rw [World.cell?_alloc_at _ _ _ _ rfl, Nat.zero_add]
  unfold madeCells
  simp [Value.cells, hi, Nat.mod_one]
theorem Filled.copied {w : World} {G : Nat} {T : ByteArray} {m : Nat} {t : ByteArray} (h : Filled w G T (m + t.size)) (hm : m + t.size ≤ T.size) (ht : ∀ i, i < t.size → PlainAid.bt T (m + i) = PlainAid.bt t i) : Filled (w.setCells G m (bcl t)) G T m := by
  obtain ⟨f, h1, h2, h3⟩ := h
  refine ⟨fun i => if m ≤ i ∧ i < m + t.size then PlainAid.bt t (i - m) else f i, ?_, fun j => by rw [World.frozen?_setCells]; exact h2 j, ?_⟩
  · intro i hi
    rw [Nat.zero_add]
    by_cases k : m ≤ i ∧ i < m + t.size
    · have hth : w.there G m (bcl t).length := by
        rw [bcl_len]
        intro j hj
        have := h1 (m + j) (by omega)
        rw [Nat.zero_add] at this
        exact ⟨by rw [this]; rfl, h2 _⟩
      have := World.rangeAt_setCells_same w G m (bcl t) hth (i - m) _ (bcl_get t (i - m) (by omega))
      rw [show m + (i - m) = i by omega] at this
      rw [this]
      simp only [if_pos k]
    · rw [World.cell?_setCells_out G (bcl t) m w ⟨G, i, none⟩ (fun _ _ => by
        rw [bcl_len]
        show i < m ∨ m + t.size ≤ i
        omega)]
      have := h1 i hi
      rw [Nat.zero_add] at this
      rw [this]
      simp only [if_neg k]
  · intro i hi1 hi2
    by_cases k : m ≤ i ∧ i < m + t.size
    · simp only [if_pos k]
      rw [← ht (i - m) (by omega), show m + (i - m) = i by omega]
    · simp only [if_neg k]
      exact h3 i (by omega) hi2
theorem cat_cons (t : ByteArray) (r : List ByteArray) : cat (t :: r) = cat r ++ t := rfl
theorem Filled.next {w : World} {G : Nat} {T t D : ByteArray} {r : List ByteArray} (h : Filled w G T (cat (t :: r)).size) (hT : cat (t :: r) ++ D = T) : Filled (w.setCells G (cat r).size (bcl t)) G T (cat r).size := by
  have e : (cat (t :: r)).size = (cat r).size + t.size := by rw [cat_cons, ByteArray.size_append]
  rw [e] at h
  refine Filled.copied h (by rw [← hT, ByteArray.size_append]; omega) fun i hi => ?_
  rw [← hT, bt_append, if_pos (by omega), cat_cons, bt_append, if_neg (by omega)]
  congr 1
  omega
theorem Filled.all {w : World} {G : Nat} {T : ByteArray} (h : Filled w G T 0) (i : Nat) (hi : i < T.size) : w.cell? ⟨G, 0 + i, none⟩ = some (.int .u8 ((nb T).getD i 0)) := by
  obtain ⟨f, h1, h2, h3⟩ := h
  rw [h1 i hi, h3 i (by omega) hi, nb_bt]
theorem Filled.q {w w' : World} {G : Nat} {T : ByteArray} {m : Nat} (h : Filled w G T m) (q : Q w w') (hg : G < w.heap.size) : Filled w' G T m := by
  obtain ⟨f, h1, h2, h3⟩ := h
  exact ⟨f, h1.q q hg, fun j => by rw [q.frozen (p := ⟨G, j, none⟩) hg]; exact h2 j, h3⟩
theorem Filled.some {w : World} {G : Nat} {T : ByteArray} {m : Nat} (h : Filled w G T m) (i : Nat) (hi : i < T.size) : (w.cell? ⟨G, i, none⟩).isSome = true := by
  obtain ⟨f, h1, h2, h3⟩ := h
  have := h1 i hi
  rw [Nat.zero_add] at this
  rw [this]; rfl
theorem Filled.unfrozen {w : World} {G : Nat} {T : ByteArray} {m : Nat} (h : Filled w G T m) (i : Nat) : w.frozen? ⟨G, i, none⟩ = false := h.elim fun f h => h.2.1 i
theorem Filled.drew {w : World} {G : Nat} {T : ByteArray} {m : Nat} (h : Filled w G T m) : Filled w.drew G T m := h
theorem infoB8 : (Try.prog.info? 5).map (fun i => (i.zero, i.size, i.bytes)) = some (some (.int .u8 0), 1, 1) := by kernel_rfl

set_option maxHeartbeats 1000000 in
theorem text_w (g K : Nat) (T : ByteArray) (e : Int) (w : World) (h : WR w g K T e) (hs : T.size ≤ 1000000000) : Calls Try.prog 16 #[.pointer (some ⟨g, 0, none⟩)] w fun r w' => r = .returned (.string T) ∧ Q w w' := by
  obtain ⟨i0, hi0, hz0, hz1, hz2⟩ := info_parts infoB8
  have c1 := h.n1
  obtain ⟨p, l, c0, hch, hcat⟩ := h.ch
  have hmk := run_make (P := Try.prog) w 60 5 i0 (.int .u8 0) Try.underlying60 hi0 hz0 .i64 .i64 (T.size : Int) (T.size : Int) (by omega) (by omega) (by rw [hz2]; omega) (by omega)
  rw [hz1, Nat.mul_one, show (T.size : Int).toNat = T.size by omega] at hmk
  have hF := Filled.made w T
  have hQ : Q w (w.alloc (.cells (madeCells (Value.int IntKind.u8 0).cells T.size) 5)) := (Q.refl w).alloc _
  have d0 := Q.cell' hQ c0
  have d1 := Q.cell' hQ c1
  have hlt : w.heap.size < (w.alloc (.cells (madeCells (Value.int IntKind.u8 0).cells T.size) 5)).heap.size := by simp
  obtain ⟨G, hG⟩ : ∃ G, w.heap.size = G := ⟨_, rfl⟩
  have HG := Lib.hid hG
  rw [hG] at hmk hF
  clear hG
  generalize w.alloc (.cells (madeCells (Value.int IntKind.u8 0).cells T.size) 5) = w1 at *
  have HF := Lib.hid hF
  have HQ := Lib.hid hQ
  have HC : Hid (Chain w K p l ∧ cat l ++ ByteArray.empty = T) := ⟨hch, by rw [ByteArray.append_empty]; exact hcat⟩
  have HZ : Hid ((T.size : Int) = ((cat l).size : Int)) := by show _ = _; rw [hcat]
  have H0 : Hid (Filled w1 G T (cat l).size) := by show Filled _ _ _ _; rw [hcat]; exact hF
  clear h hi0 hz0 hz1 hz2 hch hcat hF hQ hlt
  go_enter Try.func16, Try.ntmps16
  go_wp2_with fail
  clear hmk d0 d1 c0 c1
  go_loopw [4, 5] (fun v u wr => ∃ p r D, v = .int .i64 ((cat r).size : Int) ∧ u = .pointer p ∧ Hid (Chain w K p r ∧ cat r ++ D = T) ∧ Hid (Filled wr G T (cat r).size) ∧ Hid (Q w wr)) (fun v _ _ => (intOf v).toNat)
  case atStart => exact ⟨p, l, _, congrArg (Value.int .i64) HZ.out, rfl, HC, H0, HQ⟩
  case round =>
    obtain ⟨p, r, D, rfl, rfl, HCr, HFr, HQr⟩ := hrel
    clear HF HQ HC HZ H0
    cases r with
    | nil =>
      have hp : p = none := HCr.out.1
      subst hp
      have hcv := run_convert_bytes_arg (P := Try.prog) wr 60 5 Try.underlying60 Try.underlying5 G 0 T.size T.size (nb T) (nb_len T) (fun i hi => Filled.all HFr.out i hi) 9 Try.underlying9
      rw [nb_str] at hcv
      go_wp2_with fail
      go_ret
      exact ⟨rfl, HQr.out⟩
    | cons t r =>
      obtain ⟨b, q, hp, hKb, ht, e0, e1, hch⟩ := HCr.out.1
      subst hp
      have hcs : (cat (t :: r)).size = (cat r).size + t.size := by rw [cat_cons, ByteArray.size_append]
      have hTs : (cat r).size + t.size ≤ T.size := by rw [← HCr.out.2, ByteArray.size_append]; omega
      have HN : Hid (Filled (wr.drew.setCells G (cat r).size (bcl t)) G T (cat r).size) := Filled.next HFr.out.drew HCr.out.2
      have HQ2 : Hid (Q w (wr.drew.setCells G (cat r).size (bcl t))) := below_setCells (Nat.le_of_eq HG.out) _ _ _ HQr.out.drew
      have HC2 : Hid (Chain w K q r ∧ cat r ++ (t ++ D) = T) := ⟨hch, by rw [← ByteArray.append_assoc]; exact HCr.out.2⟩
      have b0 := Q.cell' HQr.out e0
      have b1 := Q.cell' HQr.out e1
      have b2 := Q.cell' HQ2.out e1
      have hcp := run_copy_part (P := Try.prog) wr.drew 60 9 3 5 G (cat r).size (T.size - (cat r).size) (T.size - (cat r).size) t Try.underlying60 (by intro w; kernel_rfl)
        (fun j hj => Filled.some HFr.out _ (by omega)) (fun j hj => Filled.unfrozen HFr.out _)
      rw [show min t.size (T.size - (cat r).size) = t.size by omega, show ((t.data.toList.map fun x => Value.int .u8 (x.toNat : Int)).take t.size) = bcl t by unfold bcl; rw [List.take_of_length_le]; rw [List.length_map, ← Lib.size_eq]; exact Nat.le_refl _] at hcp
      have es : ((cat (t :: r)).size : Int) - (t.size : Int) = ((cat r).size : Int) := by omega
      have ew : IntKind.i64.wrap (((cat (t :: r)).size : Int) - (t.size : Int)) = ((cat r).size : Int) := by rw [es]; exact IntWalk.i64_in _ (by omega)
      have hlt : (cat r).size < T.size := by omega
      have hlt2 : ((cat r).size : Int) < ((cat (t :: r)).size : Int) := by omega
      generalize (cat (t :: r)).size = N at *
      generalize hM : (cat r).size = M at *
      clear e0 e1 hch HCr HFr hcs
      go_wp2_with fail
      go_region
      go_wp2_with fail
      go_roundw
      case rel => exact ⟨q, r, t ++ D, congrArg (Value.int .i64) (by rw [hM]), rfl, HC2, by rw [hM]; exact HN, HQ2⟩
      case measure => simp [intOf]; omega
end Go.Proofs.Ytefnncihpilpdaa.Cod
