/-
  Layer 3: the statements' own helpers: cut, put, right.
-/
import Derived.Test.YtefnncihpilpdaaCodO
namespace Go.Proofs.Ytefnncihpilpdaa.Cod
open Go.RowKit
open Mem Num
set_option linter.unusedVariables false

def Pt.cells (p : Pt) : List Value := [.int .i64 p.k, .int .i64 p.n, .string p.s]
/-- The cells of the first n parts. -/
def pc (f : Nat → Pt) : Nat → List Value
  | 0 => []
  | n + 1 => pc f n ++ (f n).cells
theorem pc_len (f : Nat → Pt) : ∀ n, (pc f n).length = n * 3
  | 0 => rfl
  | n + 1 => by rw [pc, List.length_append, pc_len f n]; simp [Pt.cells]; omega
theorem pc_get (f : Nat → Pt) (i : Nat) : ∀ n, i < n → (pc f n)[i * 3]? = some (.int .i64 (f i).k) ∧ (pc f n)[i * 3 + 1]? = some (.int .i64 (f i).n) ∧ (pc f n)[i * 3 + 2]? = some (.string (f i).s)
  | 0, h => by omega
  | n + 1, h => by
    rw [pc]
    have hl := pc_len f n
    by_cases e : i = n
    · subst e
      rw [List.getElem?_append_right (by omega), List.getElem?_append_right (by omega), List.getElem?_append_right (by omega), hl]
      rw [show i * 3 - i * 3 = 0 by omega, show i * 3 + 1 - i * 3 = 1 by omega, show i * 3 + 2 - i * 3 = 2 by omega]
      exact ⟨rfl, rfl, rfl⟩
    · rw [List.getElem?_append_left (by omega), List.getElem?_append_left (by omega), List.getElem?_append_left (by omega)]
      exact pc_get f i n (by omega)
/-- Parts in a row of the call's own. -/
theorem own_parts {w : World} {base : Nat} {t : TypeId} {g n cap : Nat} {f : Nat → Pt} (h : w.ownsRow base t 3 (.slice (some ⟨g, 0, none⟩) n cap) n (pc f n)) : PRow w g 0 n f := by
  intro i hi
  have hc := h.cells (g := g) rfl
  obtain ⟨h1, h2, h3⟩ := pc_get f i n hi
  have e1 := hc _ _ h1
  have e2 := hc _ _ h2
  have e3 := hc _ _ h3
  rw [Go.WideShapes.add_plain, Nat.zero_add] at e1 e2 e3
  rw [Nat.zero_add]
  exact ⟨e1, e2, e3⟩
theorem infoP : (Try.prog.info? 33).map (fun i => (i.zero, i.size, i.bytes)) = some (some (.agg #[.int .i64 0, .int .i64 0, .string ⟨#[]⟩]), 3, 32) := by kernel_rfl
/-- A part whose text is cut. -/
def cutP (p : Pt) : Pt := ⟨p.k, p.n, p.s.extract 0 (min (p.s.size : Int) 5000).toNat⟩

set_option maxHeartbeats 4000000 in
set_option maxRecDepth 100000 in
theorem cut_any {W : World} (a : Option Addr) (len cap : Nat) (f : Nat → Pt) (hp : IsParts W a len cap f) (w : World) (q : Q W w) :
    Calls Try.prog 10 #[.slice a len cap, .int .i64 20] w fun e w' => ∃ g c, e = .returned (.slice (some ⟨g, 0, none⟩) (min len 20) c) ∧ w.heap.size ≤ g ∧ g < w'.heap.size ∧ PRow w' g 0 (min len 20) (fun i => cutP (f i)) ∧ Q w w' := by
  have HP := Lib.hid (parts_cases hp)
  have HQ0 := Lib.hid q
  clear hp q
  obtain ⟨i0, hi0, hz0, hz1, hz2⟩ := info_parts infoP
  have o0 : (w.alloc (.cells #[] 33)).ownsRow w.heap.size 33 3 (.slice (some ⟨w.heap.size, 0, none⟩) 0 0) 0 (pc (fun i => cutP (f i)) 0) := World.ownsRow_lit w #[] 0 (Nat.le_refl _) (by decide +kernel) rfl
  have q0 : Q w (w.alloc (.cells #[] 33)) := (Q.refl w).alloc _
  go_enter Try.func10, Try.ntmps10
  go_wp2_with fail
  go_loopw [5, 6] (fun v i wr => ∃ k g c : Nat, k ≤ min len 20 ∧ i = .int .i64 k ∧ v = .slice (some ⟨g, 0, none⟩) k c ∧ Hid (wr.ownsRow w.heap.size 33 3 v k (pc (fun i => cutP (f i)) k)) ∧ Hid (Q w wr)) (fun _ i _ => len - (intOf i).toNat)
  case atStart => exact ⟨0, w.heap.size, 0, by omega, rfl, rfl, o0, q0⟩
  case round =>
    obtain ⟨k, g, c, hk, rfl, rfl, HO, HQ⟩ := hrel
    clear o0 q0
    by_cases hlt : k < len ∧ k < 20
    · obtain ⟨hl1, hl2⟩ := hlt
      obtain ⟨b, off, rfl, hb, hrow, hok⟩ := (HP.out.resolve_left (by omega)).2.2.2
      obtain ⟨b0, b1, b2⟩ := hrow.q (HQ0.out.trans HQ.out) k hl1
      have hs1 := (hok k hl1).s1
      unfold maxLen at hs1
      have hlt2 : b < wr.heap.size := World.block_lt_of_cell? _ _ b0
      clear hrow hok
      generalize hK : (f k).k = K at *
      generalize hN : (f k).n = N at *
      generalize hS : (f k).s = S at *
      have HE : Hid ((cutP (f k)).cells = [.int .i64 K, .int .i64 N, .string (S.extract 0 (min (S.size : Int) 5000).toNat)]) := by show _ = _; unfold cutP Pt.cells; rw [hK, hN, hS]
      obtain ⟨T, hT⟩ : ∃ T, S.extract 0 (min (S.size : Int) 5000).toNat = T := ⟨_, rfl⟩
      rw [hT] at HE
      have hsz := HQ.out.size
      clear hK hN hS hb
      go_wp2_with (at_builtin; refine halt ?_)
      clear b0 b1 b2
      refine Lib.hid (wpList_append_own _ rfl (.tmp 32) (.tmp 34) 22 rfl w.heap.size 33 i0 (.agg #[.int .i64 0, .int .i64 0, .string ⟨#[]⟩]) 3 32 Try.underlying22 hi0 hz0 hz1 hz2 rfl (by decide) _ _ _ rfl ((HO.out.alloc _).alloc _) ⟨wr.heap.size + 1, 0, none⟩ 1 1 [.int .i64 K, .int .i64 N, .string T] rfl rfl ?news (fun x hx => by simp at hx; rcases hx with rfl | rfl | rfl <;> rfl) (by unfold maxLen; omega) (by omega) (by simp; omega) ?_)
      case news =>
        intro j u hu
        rw [Go.WideShapes.add_plain, Nat.zero_add, World.cell?_alloc_at _ _ _ _ (by simp)]
        simpa using hu
      intro v3 w3 hown3 hgrow3 _hn
      have hqa : Q w ((wr.alloc (.cells #[.int .i64 K, .int .i64 N, .string T] 33)).alloc (.cells #[.int .i64 K, .int .i64 N, .string T] 33)) := (HQ.out.alloc _).alloc _
      have HQ3 : Hid (Q w w3) := Below.grown hqa hgrow3 hqa.size (fun j hj => (HO.out.lt j hj).1)
      rw [← HE.out] at hown3
      obtain ⟨g3, cap3, rfl⟩ := ownsRow_succ hown3
      have HO3 : Hid (w3.ownsRow w.heap.size 33 3 (.slice (some ⟨g3, 0, none⟩) (k + 1) cap3) (k + 1) (pc (fun i => cutP (f i)) (k + 1))) := hown3
      clear hgrow3 _hn hown3 hqa
      go_wp2_with fail
      go_roundw
      case rel => exact ⟨k + 1, g3, cap3, by omega, by go_num, rfl, HO3, HQ3⟩
      case measure => simp [intOf]; omega
    · as_aux_lemma =>
      have hkm : k = min len 20 := by omega
      have HF : Hid (w.heap.size ≤ g ∧ g < wr.heap.size ∧ PRow wr g 0 k (fun i => cutP (f i)) ∧ Q w wr) := ⟨(HO.out.lt g rfl).1, (HO.out.lt g rfl).2, own_parts HO.out, HQ.out⟩
      clear HO HQ
      have HK := Lib.hid hkm
      clear hkm
      by_cases hl1 : k < len
      · have hl2 : ¬ k < 20 := fun h => hlt ⟨hl1, h⟩
        clear hlt hk
        go_wp2_with fail
        go_ret
        rw [← HK.out]
        exact ⟨g, c, rfl, HF.out⟩
      · clear hlt hk
        go_wp2_with fail
        go_ret
        rw [← HK.out]
        exact ⟨g, c, rfl, HF.out⟩

/-- What a part's bytes are, and its error. -/
def pT (p : Pt) : ByteArray := if p.k = 0 then strOfNums [p.n] else if p.k = 1 then putS (p.n % 18446744073709551616) else if p.k = 2 then blobS p.s else p.s
def pE (p : Pt) : Int := if p.k = 0 then wyE p.n else if p.k = 1 then 0 else if p.k = 2 then wbE p.s else waE p.s
theorem pT_0 {p : Pt} (h : p.k = 0) : pT p = strOfNums [p.n] := by unfold pT; rw [if_pos h]
theorem pE_0 {p : Pt} (h : p.k = 0) : pE p = wyE p.n := by unfold pE; rw [if_pos h]
theorem pT_1 {p : Pt} (h : p.k = 1) : pT p = putS (p.n % 18446744073709551616) := by unfold pT; rw [if_neg (by omega), if_pos h]
theorem pE_1 {p : Pt} (h : p.k = 1) : pE p = 0 := by unfold pE; rw [if_neg (by omega), if_pos h]
theorem pT_2 {p : Pt} (h : p.k = 2) : pT p = blobS p.s := by unfold pT; rw [if_neg (by omega), if_neg (by omega), if_pos h]
theorem pE_2 {p : Pt} (h : p.k = 2) : pE p = wbE p.s := by unfold pE; rw [if_neg (by omega), if_neg (by omega), if_pos h]
theorem pT_3 {p : Pt} (h0 : p.k ≠ 0) (h1 : p.k ≠ 1) (h2 : p.k ≠ 2) : pT p = p.s := by unfold pT; rw [if_neg h0, if_neg h1, if_neg h2]
theorem pE_3 {p : Pt} (h0 : p.k ≠ 0) (h1 : p.k ≠ 1) (h2 : p.k ≠ 2) : pE p = waE p.s := by unfold pE; rw [if_neg h0, if_neg h1, if_neg h2]
def Pt.val (p : Pt) : Value := .agg #[.int .i64 p.k, .int .i64 p.n, .string p.s]

set_option maxHeartbeats 1000000 in
theorem put_p (g K : Nat) (T : ByteArray) (e : Int) (p : Pt) (w : World) (h : WR w g K T e) (hs : T.size ≤ 100000000) (hl : p.s.size ≤ 100000000) :
    Calls Try.prog 11 #[.pointer (some ⟨g, 0, none⟩), .agg #[.int .i64 p.k, .int .i64 p.n, .string p.s]] w (WDone g K T e (pT p) (pE p) w) := by
  have Q1 : Hid (∀ o, Q w (w.alloc o)) := fun o => (Q.refl w).alloc o
  have UP : Hid (∀ t pe o r w', WDone g K T e t pe (w.alloc o) r w' → WDone g K T e t pe w r w') := fun t pe o r w' ⟨x, y, z⟩ => ⟨x, y, (Ch.of_q ((Q.refl w).alloc o) g).trans z⟩
  have H := Lib.hid h
  clear h
  have hcvt : IntKind.u64.wrap p.n = p.n % 18446744073709551616 := by rw [IntKind.wrap_u64]
  have n0 : 0 ≤ p.n % 18446744073709551616 := by omega
  have n1 : p.n % 18446744073709551616 ≤ 18446744073709551615 := by omega
  obtain ⟨k, n, s⟩ := p
  dsimp only at *
  by_cases h0 : k = 0
  · subst h0
    rw [pT_0 (p := ⟨0, n, s⟩) rfl, pE_0 (p := ⟨0, n, s⟩) rfl]
    dsimp only
    go_enter Try.func11, Try.ntmps11
    go_wp2_with fail
    refine (byte_w g K T e n _ (H.out.q (Q1.out _)) hs).mono ?_
    intro r w2 h2
    have HF := Lib.hid (UP.out _ _ _ _ _ h2)
    obtain rfl : r = .returned (.tuple #[]) := h2.1
    clear h2
    go_wp2_with fail
    go_end0
    exact HF.out
  · have h0' : (k == 0) = false := by simpa using h0
    by_cases h1 : k = 1
    · subst h1
      rw [pT_1 (p := ⟨1, n, s⟩) rfl, pE_1 (p := ⟨1, n, s⟩) rfl]
      dsimp only
      generalize n % 18446744073709551616 = m at *
      go_enter Try.func11, Try.ntmps11
      go_wp2_with fail
      refine (num_w g K T e m _ (H.out.q (Q1.out _)) hs n0 n1).mono ?_
      intro r w2 h2
      have HF := Lib.hid (UP.out _ _ _ _ _ h2)
      obtain rfl : r = .returned (.tuple #[]) := h2.1
      clear h2
      go_wp2_with fail
      go_end0
      exact HF.out
    · have h1' : (k == 1) = false := by simpa using h1
      by_cases h2 : k = 2
      · subst h2
        rw [pT_2 (p := ⟨2, n, s⟩) rfl, pE_2 (p := ⟨2, n, s⟩) rfl]
        dsimp only
        go_enter Try.func11, Try.ntmps11
        go_wp2_with fail
        refine (blob_w g K T e s _ (H.out.q (Q1.out _)) hs).mono ?_
        intro r w2 h2
        have HF := Lib.hid (UP.out _ _ _ _ _ h2)
        obtain rfl : r = .returned (.tuple #[]) := h2.1
        clear h2
        go_wp2_with fail
        go_end0
        exact HF.out
      · have h2' : (k == 2) = false := by simpa using h2
        rw [pT_3 (p := ⟨k, n, s⟩) h0 h1 h2, pE_3 (p := ⟨k, n, s⟩) h0 h1 h2]
        dsimp only
        go_enter Try.func11, Try.ntmps11
        go_wp2_with fail
        refine (hash_w g K T e s _ (H.out.q (Q1.out _)) hs hl).mono ?_
        intro r w2 h2
        have HF := Lib.hid (UP.out _ _ _ _ _ h2)
        obtain rfl : r = .returned (.tuple #[]) := h2.1
        clear h2
        go_wp2_with fail
        go_end0
        exact HF.out

/-- Can it be written? -/
def pR (p : Pt) : Bool := if p.k = 0 then decide (0 ≤ p.n) && decide (p.n ≤ 255) else if p.k = 1 then true else if p.k = 2 then decide (p.s.size ≤ 4096) else decide (p.s.size = 16)
theorem pR_iff (p : Pt) : pR p = true ↔ pE p = 0 := by
  by_cases h0 : p.k = 0
  · rw [pE_0 h0]; unfold pR wyE; rw [if_pos h0]; simp
  · by_cases h1 : p.k = 1
    · rw [pE_1 h1]; unfold pR; rw [if_neg h0, if_pos h1]; simp
    · by_cases h2 : p.k = 2
      · rw [pE_2 h2]; unfold pR wbE; rw [if_neg h0, if_neg h1, if_pos h2]; simp
      · rw [pE_3 h0 h1 h2]; unfold pR waE; rw [if_neg h0, if_neg h1, if_neg h2]; simp
set_option maxHeartbeats 1000000 in
theorem right_p (p : Pt) (w : World) : Calls Try.prog 35 #[.agg #[.int .i64 p.k, .int .i64 p.n, .string p.s]] w fun r w' => r = .returned (.bool (pR p)) ∧ Q w w' := by
  have Q1 : Hid (∀ o, Q w (w.alloc o)) := fun o => (Q.refl w).alloc o
  obtain ⟨k, n, s⟩ := p
  unfold pR
  dsimp only at *
  by_cases h0 : k = 0
  · subst h0
    rw [if_pos rfl]
    by_cases hn : 0 ≤ n
    · have d0 : decide (0 ≤ n) = true := by simpa using hn
      go_enter Try.func35, Try.ntmps35
      go_wp2_with fail
      go_ret
      exact ⟨by simp; omega, Q1.out _⟩
    · have d0 : decide (0 ≤ n) = false := by simpa using hn
      go_enter Try.func35, Try.ntmps35
      go_wp2_with fail
      go_ret
      exact ⟨by simp, Q1.out _⟩
  · have h0' : (k == 0) = false := by simpa using h0
    rw [if_neg h0]
    by_cases h1 : k = 1
    · subst h1
      rw [if_pos rfl]
      go_enter Try.func35, Try.ntmps35
      go_wp2_with fail
      go_ret
      exact ⟨rfl, Q1.out _⟩
    · have h1' : (k == 1) = false := by simpa using h1
      rw [if_neg h1]
      by_cases h2 : k = 2
      · subst h2
        rw [if_pos rfl]
        go_enter Try.func35, Try.ntmps35
        go_wp2_with fail
        go_ret
        exact ⟨by simp; omega, Q1.out _⟩
      · have h2' : (k == 2) = false := by simpa using h2
        rw [if_neg h2]
        go_enter Try.func35, Try.ntmps35
        go_wp2_with fail
        go_ret
        have d3 : ((s.size : Int) == 16) = decide (s.size = 16) := by rw [Bool.eq_iff_iff]; simp; omega
        refine ⟨?_, Q1.out _⟩
        rw [← d3]
        rfl
end Go.Proofs.Ytefnncihpilpdaa.Cod
