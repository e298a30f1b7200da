/-
  Layer 10: BlockPlaces' walk.
-/
import Derived.Test.YtojjmjbgnieogaaDoorHBloL
namespace Go.Proofs.YtojjmjbgnieogaaDoor.Coi
open Go.RowKit
open Mem Num Cod Sh Plan
set_option linter.unusedVariables false
set_option linter.unusedSimpArgs false

def setO (y : OU) (x : Int) : OU := ⟨y.kind, y.amount, y.key, y.gate, x, y.anchor, y.unit, y.tokens, ⟨#[111, 116, 104, 101, 114]⟩⟩
def mixO (F : Nat → OU) (x : Int) (k i : Nat) : OU := if i < k then setO (F i) x else F i
/-- Where BlockPlaces stands: the outputs, and others, of which k are changed. -/
structure PlS (W : World) (g1 n : Nat) (F : Nat → OU) (x : Int) (ab : Option Addr) (k : Nat) (w : World) : Prop where
  a : SL OU.cells 9 w (some ⟨g1, 0, none⟩) n F
  b : n = 0 ∨ ∃ gb cs, ab = some ⟨gb, 0, none⟩ ∧ Box w gb cs ∧ W.heap.size ≤ gb ∧ g1 ≠ gb ∧ n * 9 ≤ cs.length ∧ ∀ i, i < n → ∀ j v, (OU.cells (mixO F x k i))[j]? = some v → cs[i * 9 + j]? = some v
  q : Q W w
theorem PlS.up {W : World} {g1 n : Nat} {F : Nat → OU} {x : Int} {ab : Option Addr} {k : Nat} {w w' : World} (h : PlS W g1 n F x ab k w) (q : Q w w') : PlS W g1 n F x ab k w' := by
  refine ⟨h.a.q q, ?_, h.q.trans q⟩
  rcases h.b with e | ⟨gb, cs, e1, h1, h2⟩
  · exact .inl e
  · exact .inr ⟨gb, cs, e1, h1.q q, h2⟩
theorem mix_set {F : Nat → OU} {x : Int} {k n : Nat} {cs : List Value} (hk : k < n) (h9 : n * 9 ≤ cs.length) (h : ∀ i, i < n → ∀ j v, (OU.cells (mixO F x k i))[j]? = some v → cs[i * 9 + j]? = some v) :
    ∀ i, i < n → ∀ j v, (OU.cells (mixO F x (k + 1) i))[j]? = some v → ((cs.set (k * 9 + 4) (.int .i64 x)).set (k * 9 + 8) (.string ⟨#[111, 116, 104, 101, 114]⟩))[i * 9 + j]? = some v := by
  intro i hi j v hv
  have hj : j < 9 := (List.getElem?_eq_some_iff.1 hv).1
  by_cases e : i = k
  · subst e
    have e0 : mixO F x (i + 1) i = setO (F i) x := by unfold mixO; rw [if_pos (by omega)]
    have e1 : mixO F x i i = F i := by unfold mixO; rw [if_neg (by omega)]
    rw [e0] at hv
    by_cases j8 : j = 8
    · subst j8
      rw [List.getElem?_set_self (by rw [List.length_set]; omega)]; exact hv
    rw [List.getElem?_set_ne (by omega)]
    by_cases j4 : j = 4
    · subst j4
      rw [List.getElem?_set_self (by omega)]; exact hv
    rw [List.getElem?_set_ne (by omega)]
    refine h i hi j v ?_
    rw [e1, ← hv]
    rcases (show j = 0 ∨ j = 1 ∨ j = 2 ∨ j = 3 ∨ j = 5 ∨ j = 6 ∨ j = 7 by omega) with rfl | rfl | rfl | rfl | rfl | rfl | rfl <;> rfl
  · rw [List.getElem?_set_ne (by omega), List.getElem?_set_ne (by omega)]
    refine h i hi j v ?_
    rw [← hv]
    have : mixO F x k i = mixO F x (k + 1) i := by
      unfold mixO
      by_cases h : i < k
      · rw [if_pos h, if_pos (by omega)]
      · rw [if_neg h, if_neg (by omega)]
    rw [this]
theorem PlS.done {W : World} {g1 n : Nat} {F : Nat → OU} {x : Int} {ab : Option Addr} {w : World} (h : PlS W g1 n F x ab n w) : SL OU.cells 9 w ab n (fun i => setO (F i) x) := by
  rcases h.b with e | ⟨gb, cs, rfl, h1, _, _, _, h2⟩
  · exact .inl e
  · refine .inr ⟨gb, 0, rfl, fun i hi j v hv => ?_⟩
    rw [Nat.zero_add]
    refine h1.at_ _ _ (h2 i hi j v ?_)
    rw [← hv]
    unfold mixO
    rw [if_pos hi]
theorem fst_set (n : Nat) (F : Nat → OU) (x : Int) : fstS n (fun i => setO (F i) x) = fstS n F := rfl
theorem bfixed_q {w : World} (hG : GL w) : Calls Tryd.prog 19 #[] w fun e w' => e = .returned (.bool true) ∧ Q w w' := bfixed_x hG
theorem totalO {W : World} {a : Option Addr} {len cap : Nat} {f : Nat → OU} (h : Ins OU.cells 9 OU.wide W a len cap f) : ∃ f' : Nat → OU, Ins OU.cells 9 OU.wide W a len cap f' ∧ ∀ i, (f' i).wide := by
  have hz : (⟨0, 0, ⟨#[]⟩, ⟨#[]⟩, 0, ⟨#[]⟩, 0, 0, ⟨#[]⟩⟩ : OU).wide := ⟨⟨by decide, by decide⟩, ⟨by decide, by decide⟩, by decide, by decide, ⟨by decide, by decide⟩, by decide, ⟨by decide, by decide⟩, ⟨by decide, by decide⟩, by decide⟩
  refine ⟨fun i => if i < len then f i else ⟨0, 0, ⟨#[]⟩, ⟨#[]⟩, 0, ⟨#[]⟩, 0, 0, ⟨#[]⟩⟩, ⟨h.sl.congr fun i hi => by simp [hi], h.le, h.cap, fun i hi => by simp only [hi, if_true]; exact h.ok i hi⟩, fun i => ?_⟩
  show OU.wide (if i < len then f i else _)
  split
  · exact h.ok i (by assumption)
  · exact hz
set_option maxHeartbeats 40000000 in
set_option maxRecDepth 100000 in
theorem places_walk (W : World) (hG : GL W) (a : Option Addr) (len cap : Nat) (f0 : Nat → OU) (hr : Ins OU.cells 9 OU.wide W a len cap f0) (ni : Int) (wi : (Lit.int .i64 ni).wf = true) (x : Int) (wx : (Lit.int .i64 x).wf = true) :
    Calls Tryd.prog 6 #[.slice a len cap, .int .i64 ni, .int .i64 x] W fun e W' => e = .returned (.bool true) ∧ Below W.heap.size W W' := by
  obtain ⟨f, hf, hw⟩ := totalO hr
  clear hr f0
  obtain ⟨F, hF⟩ : ∃ F : Nat → OU, F = fun i => cutO (f i) := ⟨_, rfl⟩
  have HF : Hid (∀ i, U64 (F i).amount ∧ (F i).key.size ≤ 2000) := fun i => by rw [hF]; exact ⟨(hw i).amount, Nat.le_trans (cutS_le _ 40 40 rfl) (by decide)⟩
  have C0 := Lib.hid (outs_x a len cap f W hf)
  rw [← hF] at C0
  obtain ⟨n, hn⟩ : ∃ n, min len 6 = n := ⟨_, rfl⟩
  rw [hn] at C0
  have n6 : n ≤ 6 := by omega
  clear hn hF hf hw
  have HG := Lib.hid hG
  clear hG
  obtain ⟨i0, hi0, hz0, hz1, hz2⟩ := info_of info_out
  obtain ⟨nj, hj⟩ : ∃ j, IntKind.i64.wrap (ni + 1) = j := ⟨_, rfl⟩
  have HJ := Lib.hid hj
  go_enter Tryd.func6, Tryd.ntmps6
  go_wp2_with fail
  refine C0.out.mono ?_
  rintro e w1 ⟨g1, c1, g2, c2, rfl, o1, o2, q1⟩
  have OA := Lib.hid o1
  have Q1 := Lib.hid q1
  clear o1 o2 q1 C0
  go_wp2_with (at_builtin; refine halt ?_)
  have qa : Q w1 (w1.alloc (.cells #[] 49)) := (Q.refl w1).alloc _
  have OA2 := Lib.hid (OA.out.q qa)
  have Q2 := Lib.hid (Q1.out.trans qa)
  have OE := Lib.hid (OR.made0 49 OU.cells 9 w1 w1.heap.size (Nat.le_refl _) F)
  have l1 := (OA.out.blk_ _ rfl).2
  dsimp only at l1
  have hw1 : W.heap.size ≤ w1.heap.size := Q1.out.size
  have hw2 : w1.heap.size ≤ (w1.alloc (.cells #[] 49)).heap.size := qa.size
  clear qa OA Q1
  generalize w1.alloc (.cells #[] 49) = w2 at *
  refine Lib.hid (wpl_apps rfl (.tmp 18) (.tmp 19) 23 rfl i0 _ 104 Tryd.underlying23 hi0 hz0 hz1 hz2 rfl (by decide) rfl OE.out g1 c1 rfl out_len (g := F) (fun i hi j u hu => ?_) one_ou (by omega) (by decide) hw2 ?_)
  · obtain ⟨b', off', e, hrow⟩ := (OA2.out.sl out_len).some_ (by omega)
    injection e with e; injection e with e1 e2; subst e1; subst e2
    have := hrow i hi j u hu
    rwa [Nat.zero_add] at this
  intro v' w3 ho gr
  rw [show rc OU.cells F 0 = [] from rfl, List.nil_append, Nat.zero_add] at ho
  obtain ⟨ab, cb, rfl, OB⟩ : ∃ ab cb, v' = .slice ab n cb ∧ OR 49 OU.cells 9 w3 w1.heap.size ab n cb F := by
    rcases ho.2 with ⟨e, h0⟩ | ⟨g, cp, cur, e, _⟩
    · exact ⟨none, 0, by rw [e, h0], by rw [e] at ho; rw [h0] at ho ⊢; exact ho⟩
    · exact ⟨some ⟨g, 0, none⟩, cp, e, by rw [e] at ho; exact ho⟩
  have Q3 : Hid (Q W w3) := OR.more (w0 := W) OE.out gr Q2.out hw1
  have S0 : Hid (PlS W g1 n F x ab 0 w3) := by
    obtain ⟨jb, hj2, cj⟩ := ch_of_grown gr (B := w1.heap.size) (fun j hj => by simp only [blk, Option.map_some, Option.some.injEq] at hj; omega)
    refine ⟨(OA2.out.sl out_len).ch cj (fun x hx => by injection hx with hx; subst hx; show g1 ≠ jb; omega), ?_, Q3.out⟩
    by_cases e0 : n = 0
    · exact .inl e0
    obtain ⟨gb, cs, e1, h1, h2, h3, h4⟩ := OB.box out_len (by omega)
    exact .inr ⟨gb, cs, e1, h1, by omega, by omega, h3, fun i hi j v hv => h4 i hi j v (by rw [← hv]; unfold mixO; rw [if_neg (by omega)])⟩
  clear ho gr OB OE OA2 Q2 Q3 l1 hw1 hw2
  as_aux_lemma =>
  go_wp2_with fail
  go_loopw [10] (fun i wr => ∃ k : Nat, k ≤ n ∧ i = .int .i64 k ∧ Hid (PlS W g1 n F x ab k wr)) (fun i _ => n - (intOf i).toNat)
  case atStart => exact ⟨0, by omega, rfl, S0⟩
  case round =>
  obtain ⟨k, hk, rfl, S⟩ := hrel
  clear S0
  have k0 : (0 : Int) ≤ (k : Int) := by omega
  by_cases hlt : k < n
  · have k1 : (k : Int) < (n : Int) := by omega
    obtain ⟨gb, cs, rfl, hB, h1, h2, h3, h4⟩ := S.out.b.resolve_left (by omega)
    have S4 := Lib.hid (mix_set hlt h3 h4)
    have BX := Lib.hid hB
    have o4 : Hid (∃ v, cs[k * 9 + 4]? = some v) := ⟨_, List.getElem?_eq_getElem (by omega)⟩
    have o8 : Hid (∃ v, cs[k * 9 + 8]? = some v) := ⟨_, List.getElem?_eq_getElem (by omega)⟩
    have o4 : Hid (cs[k * 9 + 4]? = some (.int .i64 (F k).expiry)) := h4 k hlt 4 _ (by unfold mixO; rw [if_neg (by omega)]; rfl)
    have o8 : Hid ((cs.set (k * 9 + 4) (.int .i64 x))[k * 9 + 8]? = some (.string (F k).of_)) := by
      show _ = _
      rw [List.getElem?_set_ne (by omega)]
      exact h4 k hlt 8 _ (by unfold mixO; rw [if_neg (by omega)]; rfl)
    clear hB h4
    go_wp2_with (with_reducible (show wpList _ _ _ (⟨_, Op.store 3 _ _, _, _, _, _⟩ :: _) _ _); refine halt ?_)
    refine Lib.hid (wpl_st1 rfl 3 _ _ rfl (b := gb) (j := k * 9 + 4) (by first | rfl | simp) rfl BX.out o4.out (fun w hc hf => by simp [go_sem, hc, hf]) ?_)
    intro w5 B5 c5
    have B5 := Lib.hid B5
    go_wp2_with (with_reducible (show wpList _ _ _ (⟨_, Op.store 9 _ _, _, _, _, _⟩ :: _) _ _); refine halt ?_)
    refine Lib.hid (wpl_st1 rfl 9 _ _ rfl (b := gb) (j := k * 9 + 8) (by first | rfl | simp) rfl B5.out o8.out (fun w hc hf => by simp [go_sem, hc, hf]) ?_)
    intro w6 B6 c6
    have S6 : Hid (PlS W g1 n F x (some ⟨gb, 0, none⟩) (k + 1) w6) := ⟨S.out.a.ch (c5.trans c6) (fun x hx => by injection hx with hx; subst hx; exact h2), .inr ⟨gb, _, rfl, B6, h1, h2, by rw [List.length_set, List.length_set]; exact h3, S4.out⟩, (c5.trans c6).q S.out.q h1⟩
    clear c5 c6 B5 B6 S BX o4 o8 S4 h1 h2 h3
    go_wp2_with fail
    go_roundw
    case rel => exact ⟨k + 1, by omega, by go_num, S6⟩
    case measure => simp [intOf]; omega
  obtain rfl : k = n := by omega
  have td : decide (k < k) = false := by simp
  have k1 : ¬ (k : Int) < (k : Int) := by omega
  obtain ⟨ff, hff⟩ : ∃ z, fstS k F = z := ⟨_, rfl⟩
  have zf : (ff.size : Int) = 16 := by rw [← hff, fstS_size]; rfl
  have HY : Hid (∀ i, i < k → U64 (F i).amount ∧ (F i).key.size ≤ 2000) := fun i _ => HF.out i
  have BG : Hid (∀ m w, Q wr w → Calls Tryd.prog 17 #[.slice (some ⟨g1, 0, none⟩) k c1, .int .i64 m] w fun e w' => e = .returned (.agg #[.string ff, .int .i64 m]) ∧ Q w w') := fun m w q => by
    rw [← hff]
    exact begin_x (some ⟨g1, 0, none⟩) k c1 F m w (HG.out.q (S.out.q.trans q)) (S.out.a.q q) (by omega) HY.out
  have FS : Hid (∀ w, Q wr w → Calls Tryd.prog 18 #[.slice ab k cb] w fun e w' => e = .returned (.string ff) ∧ Q w w') := fun w q => by
    rw [← hff, ← fst_set k F x]
    exact first_x ab k cb (fun i => setO (F i) x) w (HG.out.q (S.out.q.trans q)) (S.out.done.q q) (by omega) (fun i hi => HY.out i hi)
  have FX : Hid (∀ w, Q wr w → Calls Tryd.prog 19 #[] w fun e w' => e = .returned (.bool true) ∧ Q w w') := fun w q => bfixed_q (HG.out.q (S.out.q.trans q))
  have HQW := Lib.hid S.out.q
  clear hff S hlt
  as_aux_lemma =>
  go_wp2_with fail
  refine (BG.out _ _ (Q.refl wr)).mono ?_
  rintro e w5 ⟨rfl, q5⟩
  have q5 := Lib.hid q5
  go_wp2_with fail
  refine (BG.out _ _ q5.out).mono ?_
  rintro e w6 ⟨rfl, q6⟩
  have q6 := Lib.hid (q5.out.trans q6)
  clear q5
  go_wp2_with (with_reducible (show wpList _ _ _ (⟨_, Op.alloc 41, _, _, _, _⟩ :: _) _ _); refine halt ?_)
  refine wpList_allocZ rfl 41 rfl #[.string ⟨#[]⟩, .int .i64 0] zeroPt ?_
  refine wpList_allocZ rfl 41 rfl #[.string ⟨#[]⟩, .int .i64 0] zeroPt ?_
  have BX0 : Box ((w6.alloc (.cells #[.string ⟨#[]⟩, .int .i64 0] 41)).alloc (.cells #[.string ⟨#[]⟩, .int .i64 0] 41)) w6.heap.size [.string ⟨#[]⟩, .int .i64 0] := (Box.new w6 [.string ⟨#[]⟩, .int .i64 0] 41).q ((Q.refl _).alloc _)
  have BY0 := Box.new (w6.alloc (.cells #[.string ⟨#[]⟩, .int .i64 0] 41)) [.string ⟨#[]⟩, .int .i64 0] 41
  have nxy : w6.heap.size ≠ (w6.alloc (.cells #[.string ⟨#[]⟩, .int .i64 0] 41)).heap.size := by simp
  have q7 : Q wr ((w6.alloc (.cells #[.string ⟨#[]⟩, .int .i64 0] 41)).alloc (.cells #[.string ⟨#[]⟩, .int .i64 0] 41)) := (q6.out.alloc _).alloc _
  have lx : wr.heap.size ≤ w6.heap.size := q6.out.size
  have ly : wr.heap.size ≤ (w6.alloc (.cells #[.string ⟨#[]⟩, .int .i64 0] 41)).heap.size := by simp; omega
  skip
  refine st_box rfl 41 _ _ rfl w6.heap.size _ [.string ff, .int .i64 ni] rfl rfl BX0 rfl (by kernel_rfl) (fun v hv => by simp at hv; rcases hv with rfl | rfl <;> rfl) ?_
  intro w8 B8 c8
  refine st_box rfl 41 _ _ rfl _ _ [.string ff, .int .i64 nj] rfl rfl (BY0.ch c8 (Ne.symm nxy)) rfl (by kernel_rfl) (fun v hv => by simp at hv; rcases hv with rfl | rfl <;> rfl) ?_
  intro w9 B9 c9
  have PX := Lib.hid (B8.ch c9 nxy)
  have PY := Lib.hid B9
  have Q9 : Hid (Q wr w9) := c9.q (c8.q q7 lx) ly
  clear B8 B9 c8 c9 BX0 BY0 q7 q6 nxy lx ly
  generalize (w6.alloc (.cells #[.string ⟨#[]⟩, .int .i64 0] 41)).heap.size = bY at *
  generalize w6.heap.size = bX at *
  refine wpList_nil ?_
  have FS2 : Hid (∀ w, Q w9 w → Calls Tryd.prog 18 #[.slice ab k cb] w fun e w' => e = .returned (.string ff) ∧ Q w w') := fun w q => FS.out w (Q9.out.trans q)
  have FX2 : Hid (∀ w, Q w9 w → Calls Tryd.prog 19 #[] w fun e w' => e = .returned (.bool true) ∧ Q w w') := fun w q => FX.out w (Q9.out.trans q)
  have QW9 := Lib.hid (HQW.out.trans Q9.out)
  clear FS FX BG Q9 HQW HY
  as_aux_lemma =>
  go_wp2_with fail
  have hS0 : Q w9 w9.drew := (Q.refl w9).drew
  refine region_gen3 ?_
  intro OPS QQ A0 hO hQQ hA
  have hz : A0.tmps.size = 77 := by rw [hA]; rfl
  have hs : sound OPS A0.tmps.size = true := by rw [hz, hO]; kernel_rfl
  have b_1 : A0.eval (.tmp 1) = .int .i64 ni := by rw [hA]; rfl
  have fr_1 : free OPS 1 = true := by rw [hO]; kernel_rfl
  have b_9 : A0.eval (.tmp 9) = .slice ab k cb := by rw [hA]; rfl
  have fr_9 : free OPS 9 = true := by rw [hO]; kernel_rfl
  have b_11 : A0.eval (.tmp 11) = .pointer (some ⟨bX, 0, none⟩) := by rw [hA]; rfl
  have fr_11 : free OPS 11 = true := by rw [hO]; kernel_rfl
  have b_12 : A0.eval (.tmp 12) = .pointer (some ⟨bY, 0, none⟩) := by rw [hA]; rfl
  have fr_12 : free OPS 12 = true := by rw [hO]; kernel_rfl
  obtain ⟨VV, hVV⟩ : ∃ V : Nat → Value → World → Prop, V = fun i => ([fun v _ => v = .pointer (some ⟨bX, 1, none⟩), fun v _ => v = .int .i64 ni, fun v _ => v = .int .i64 ni, fun v _ => v = .bool true, fun v _ => v = .bool true, fun v _ => v = .pointer (some ⟨bY, 1, none⟩), fun v _ => v = .int .i64 nj, fun v _ => v = .int .i64 ni, fun v _ => v = .int .i64 nj, fun v _ => v = .bool true, fun v _ => v = .bool true, fun v _ => v = .bool true, fun v _ => v = .pointer (some ⟨bX, 0, none⟩), fun v _ => v = .string ff, fun v _ => v = .pointer (some ⟨bY, 0, none⟩), fun v _ => v = .string ff, fun v _ => v = .bool true, fun v _ => v = .bool true, fun v _ => v = .bool true, fun v _ => v = .pointer (some ⟨bX, 0, none⟩), fun v _ => v = .string ff, fun v _ => v = .slice ab k cb, fun v _ => v = .string ff, fun v _ => v = .bool true, fun v _ => v = .bool true, fun v _ => v = .bool true, fun v _ => v = .pointer (some ⟨bX, 0, none⟩), fun v _ => v = .string ff, fun v _ => v = .int .i64 16, fun v _ => v = .bool true, fun v _ => v = .bool true, fun v _ => v = .bool true, fun v _ => v = .bool true, fun v _ => v = .bool true, fun v _ => v = .bool true] : List (Value → World → Prop)).getD i (fun _ _ => True) := ⟨_, rfl⟩
  have v_0 : VV 0 = fun v _ => v = .pointer (some ⟨bX, 1, none⟩) := vat hVV 0
  have v_1 : VV 1 = fun v _ => v = .int .i64 ni := vat hVV 1
  have v_2 : VV 2 = fun v _ => v = .int .i64 ni := vat hVV 2
  have v_3 : VV 3 = fun v _ => v = .bool true := vat hVV 3
  have v_4 : VV 4 = fun v _ => v = .bool true := vat hVV 4
  have v_5 : VV 5 = fun v _ => v = .pointer (some ⟨bY, 1, none⟩) := vat hVV 5
  have v_6 : VV 6 = fun v _ => v = .int .i64 nj := vat hVV 6
  have v_7 : VV 7 = fun v _ => v = .int .i64 ni := vat hVV 7
  have v_8 : VV 8 = fun v _ => v = .int .i64 nj := vat hVV 8
  have v_9 : VV 9 = fun v _ => v = .bool true := vat hVV 9
  have v_10 : VV 10 = fun v _ => v = .bool true := vat hVV 10
  have v_11 : VV 11 = fun v _ => v = .bool true := vat hVV 11
  have v_12 : VV 12 = fun v _ => v = .pointer (some ⟨bX, 0, none⟩) := vat hVV 12
  have v_13 : VV 13 = fun v _ => v = .string ff := vat hVV 13
  have v_14 : VV 14 = fun v _ => v = .pointer (some ⟨bY, 0, none⟩) := vat hVV 14
  have v_15 : VV 15 = fun v _ => v = .string ff := vat hVV 15
  have v_16 : VV 16 = fun v _ => v = .bool true := vat hVV 16
  have v_17 : VV 17 = fun v _ => v = .bool true := vat hVV 17
  have v_18 : VV 18 = fun v _ => v = .bool true := vat hVV 18
  have v_19 : VV 19 = fun v _ => v = .pointer (some ⟨bX, 0, none⟩) := vat hVV 19
  have v_20 : VV 20 = fun v _ => v = .string ff := vat hVV 20
  have v_21 : VV 21 = fun v _ => v = .slice ab k cb := vat hVV 21
  have v_22 : VV 22 = fun v _ => v = .string ff := vat hVV 22
  have v_23 : VV 23 = fun v _ => v = .bool true := vat hVV 23
  have v_24 : VV 24 = fun v _ => v = .bool true := vat hVV 24
  have v_25 : VV 25 = fun v _ => v = .bool true := vat hVV 25
  have v_26 : VV 26 = fun v _ => v = .pointer (some ⟨bX, 0, none⟩) := vat hVV 26
  have v_27 : VV 27 = fun v _ => v = .string ff := vat hVV 27
  have v_28 : VV 28 = fun v _ => v = .int .i64 16 := vat hVV 28
  have v_29 : VV 29 = fun v _ => v = .bool true := vat hVV 29
  have v_30 : VV 30 = fun v _ => v = .bool true := vat hVV 30
  have v_31 : VV 31 = fun v _ => v = .bool true := vat hVV 31
  have v_32 : VV 32 = fun v _ => v = .bool true := vat hVV 32
  have v_33 : VV 33 = fun v _ => v = .bool true := vat hVV 33
  have v_34 : VV 34 = fun v _ => v = .bool true := vat hVV 34
  have hV := stable_of (T := Q) hVV ((sl_cons (fun _ _ _ h _ => h) (sl_cons (fun _ _ _ h _ => h) (sl_cons (fun _ _ _ h _ => h) (sl_cons (fun _ _ _ h _ => h) (sl_cons (fun _ _ _ h _ => h) (sl_cons (fun _ _ _ h _ => h) (sl_cons (fun _ _ _ h _ => h) (sl_cons (fun _ _ _ h _ => h) (sl_cons (fun _ _ _ h _ => h) (sl_cons (fun _ _ _ h _ => h) (sl_cons (fun _ _ _ h _ => h) (sl_cons (fun _ _ _ h _ => h) (sl_cons (fun _ _ _ h _ => h) (sl_cons (fun _ _ _ h _ => h) (sl_cons (fun _ _ _ h _ => h) (sl_cons (fun _ _ _ h _ => h) (sl_cons (fun _ _ _ h _ => h) (sl_cons (fun _ _ _ h _ => h) (sl_cons (fun _ _ _ h _ => h) (sl_cons (fun _ _ _ h _ => h) (sl_cons (fun _ _ _ h _ => h) (sl_cons (fun _ _ _ h _ => h) (sl_cons (fun _ _ _ h _ => h) (sl_cons (fun _ _ _ h _ => h) (sl_cons (fun _ _ _ h _ => h) (sl_cons (fun _ _ _ h _ => h) (sl_cons (fun _ _ _ h _ => h) (sl_cons (fun _ _ _ h _ => h) (sl_cons (fun _ _ _ h _ => h) (sl_cons (fun _ _ _ h _ => h) (sl_cons (fun _ _ _ h _ => h) (sl_cons (fun _ _ _ h _ => h) (sl_cons (fun _ _ _ h _ => h) (sl_cons (fun _ _ _ h _ => h) (sl_cons (fun _ _ _ h _ => h) trivial))))))))))))))))))))))))))))))))))))
  clear hVV
  have i_0 := pget_at hO 0 rfl
  have i_1 := pget_at hO 1 rfl
  have i_2 := pget_at hO 2 rfl
  have i_3 := pget_at hO 3 rfl
  have i_4 := pget_at hO 4 rfl
  have i_5 := pget_at hO 5 rfl
  have i_6 := pget_at hO 6 rfl
  have i_7 := pget_at hO 7 rfl
  have i_8 := pget_at hO 8 rfl
  have i_9 := pget_at hO 9 rfl
  have i_10 := pget_at hO 10 rfl
  have i_11 := pget_at hO 11 rfl
  have i_12 := pget_at hO 12 rfl
  have i_13 := pget_at hO 13 rfl
  have i_14 := pget_at hO 14 rfl
  have i_15 := pget_at hO 15 rfl
  have i_16 := pget_at hO 16 rfl
  have i_17 := pget_at hO 17 rfl
  have i_18 := pget_at hO 18 rfl
  have i_19 := pget_at hO 19 rfl
  have i_20 := pget_at hO 20 rfl
  have i_21 := pget_at hO 21 rfl
  have i_22 := pget_at hO 22 rfl
  have i_23 := pget_at hO 23 rfl
  have i_24 := pget_at hO 24 rfl
  have i_25 := pget_at hO 25 rfl
  have i_26 := pget_at hO 26 rfl
  have i_27 := pget_at hO 27 rfl
  have i_28 := pget_at hO 28 rfl
  have i_29 := pget_at hO 29 rfl
  have i_30 := pget_at hO 30 rfl
  have i_31 := pget_at hO 31 rfl
  have i_32 := pget_at hO 32 rfl
  have i_33 := pget_at hO 33 rfl
  have i_34 := pget_at hO 34 rfl
  have s_0 := Step.pure (P := Tryd.prog) (V := VV) (T := Q) (S := (Q w9)) (a0 := A0) (Qx := QQ) i_0 (.pointer (some ⟨bX, 1, none⟩)) (Q.refl ·) (fun l a w hI hl => ⟨wanted_none rfl, (by have e0 : a.eval (.tmp 11) = _ := ((hI.base 11 fr_11).trans b_11); generalize a.eval = ρ at e0 ⊢; simp [go_sem, e0]), at_mk v_0 rfl⟩)
  have s_1 := Step.pure (P := Tryd.prog) (V := VV) (T := Q) (S := (Q w9)) (a0 := A0) (Qx := QQ) i_1 (.int .i64 ni) (Q.refl ·) (fun l a w hI hl => ⟨wanted_none rfl, (by have e0 : a.eval (.tmp 43) = _ := (at_eq v_0 (hI.at_ 0 43 _ i_0 rfl (hl_at hl 0 rfl rfl))); have x0 := (PX.out.q hI.st).at_ 1 _ rfl; generalize a.eval = ρ at e0 ⊢; simp [go_sem, e0, x0]), at_mk v_1 rfl⟩)
  have s_2 := Step.pure (P := Tryd.prog) (V := VV) (T := Q) (S := (Q w9)) (a0 := A0) (Qx := QQ) i_2 (.int .i64 ni) (Q.refl ·) (fun l a w hI hl => ⟨wanted_none rfl, ex_move rfl ((hI.base 1 fr_1).trans b_1), at_mk v_2 rfl⟩)
  have s_3 := Step.pure (P := Tryd.prog) (V := VV) (T := Q) (S := (Q w9)) (a0 := A0) (Qx := QQ) i_3 (.bool true) (Q.refl ·) (fun l a w hI hl => ⟨wanted_none rfl, (by have e0 : a.eval (.tmp 44) = _ := (at_eq v_1 (hI.at_ 1 44 _ i_1 rfl (hl_at hl 0 rfl rfl))); have e1 : a.eval (.tmp 45) = _ := (at_eq v_2 (hI.at_ 2 45 _ i_2 rfl (hl_at hl 1 rfl rfl))); generalize a.eval = ρ at e0 e1 ⊢; simp [go_sem, e0, e1]), at_mk v_3 rfl⟩)
  have s_4 := Step.pure (P := Tryd.prog) (V := VV) (T := Q) (S := (Q w9)) (a0 := A0) (Qx := QQ) i_4 (.bool true) (Q.refl ·) (fun l a w hI hl => ⟨wanted_none rfl, ex_move rfl (at_eq v_3 (hI.at_ 3 46 _ i_3 rfl (hl_at hl 0 rfl rfl))), at_mk v_4 rfl⟩)
  have s_5 := Step.pure (P := Tryd.prog) (V := VV) (T := Q) (S := (Q w9)) (a0 := A0) (Qx := QQ) i_5 (.pointer (some ⟨bY, 1, none⟩)) (Q.refl ·) (fun l a w hI hl => ⟨wanted_of rfl i_4 rfl (lt_of hI hz rfl) (at_eq v_4 (hI.at_ 4 47 _ i_4 rfl (hl_at hl 0 rfl rfl))), (by have e0 : a.eval (.tmp 12) = _ := ((hI.base 12 fr_12).trans b_12); generalize a.eval = ρ at e0 ⊢; simp [go_sem, e0]), at_mk v_5 rfl⟩)
  have s_6 := Step.pure (P := Tryd.prog) (V := VV) (T := Q) (S := (Q w9)) (a0 := A0) (Qx := QQ) i_6 (.int .i64 nj) (Q.refl ·) (fun l a w hI hl => ⟨wanted_of rfl i_4 rfl (lt_of hI hz rfl) (at_eq v_4 (hI.at_ 4 47 _ i_4 rfl (hl_at hl 1 rfl rfl))), (by have e0 : a.eval (.tmp 48) = _ := (at_eq v_5 (hI.at_ 5 48 _ i_5 rfl (hl_at hl 0 rfl rfl))); have x0 := (PY.out.q hI.st).at_ 1 _ rfl; generalize a.eval = ρ at e0 ⊢; simp [go_sem, e0, x0]), at_mk v_6 rfl⟩)
  have s_7 := Step.pure (P := Tryd.prog) (V := VV) (T := Q) (S := (Q w9)) (a0 := A0) (Qx := QQ) i_7 (.int .i64 ni) (Q.refl ·) (fun l a w hI hl => ⟨wanted_of rfl i_4 rfl (lt_of hI hz rfl) (at_eq v_4 (hI.at_ 4 47 _ i_4 rfl (hl_at hl 0 rfl rfl))), ex_move rfl ((hI.base 1 fr_1).trans b_1), at_mk v_7 rfl⟩)
  have s_8 := Step.pure (P := Tryd.prog) (V := VV) (T := Q) (S := (Q w9)) (a0 := A0) (Qx := QQ) i_8 (.int .i64 nj) (Q.refl ·) (fun l a w hI hl => ⟨wanted_of rfl i_4 rfl (lt_of hI hz rfl) (at_eq v_4 (hI.at_ 4 47 _ i_4 rfl (hl_at hl 1 rfl rfl))), (by have e0 : a.eval (.tmp 50) = _ := (at_eq v_7 (hI.at_ 7 50 _ i_7 rfl (hl_at hl 0 rfl rfl))); have e1 : a.eval (.const (.int .i64 1)) = .int .i64 1 := rfl; have x0 := HJ.out; generalize a.eval = ρ at e0 e1 ⊢; simp [go_sem, e0, e1, x0]), at_mk v_8 rfl⟩)
  have s_9 := Step.pure (P := Tryd.prog) (V := VV) (T := Q) (S := (Q w9)) (a0 := A0) (Qx := QQ) i_9 (.bool true) (Q.refl ·) (fun l a w hI hl => ⟨wanted_of rfl i_4 rfl (lt_of hI hz rfl) (at_eq v_4 (hI.at_ 4 47 _ i_4 rfl (hl_at hl 2 rfl rfl))), (by have e0 : a.eval (.tmp 49) = _ := (at_eq v_6 (hI.at_ 6 49 _ i_6 rfl (hl_at hl 0 rfl rfl))); have e1 : a.eval (.tmp 51) = _ := (at_eq v_8 (hI.at_ 8 51 _ i_8 rfl (hl_at hl 1 rfl rfl))); generalize a.eval = ρ at e0 e1 ⊢; simp [go_sem, e0, e1]), at_mk v_9 rfl⟩)
  have s_10 := Step.pure (P := Tryd.prog) (V := VV) (T := Q) (S := (Q w9)) (a0 := A0) (Qx := QQ) i_10 (.bool true) (Q.refl ·) (fun l a w hI hl => ⟨wanted_none rfl, ex_pick_t rfl (at_eq v_4 (hI.at_ 4 47 _ i_4 rfl (hl_at hl 0 rfl rfl))) (at_eq v_9 (hI.at_ 9 52 _ i_9 rfl (hl_at hl 1 rfl rfl))), at_mk v_10 rfl⟩)
  have s_11 := Step.pure (P := Tryd.prog) (V := VV) (T := Q) (S := (Q w9)) (a0 := A0) (Qx := QQ) i_11 (.bool true) (Q.refl ·) (fun l a w hI hl => ⟨wanted_none rfl, ex_move rfl (at_eq v_10 (hI.at_ 10 53 _ i_10 rfl (hl_at hl 0 rfl rfl))), at_mk v_11 rfl⟩)
  have s_12 := Step.pure (P := Tryd.prog) (V := VV) (T := Q) (S := (Q w9)) (a0 := A0) (Qx := QQ) i_12 (.pointer (some ⟨bX, 0, none⟩)) (Q.refl ·) (fun l a w hI hl => ⟨wanted_of rfl i_11 rfl (lt_of hI hz rfl) (at_eq v_11 (hI.at_ 11 54 _ i_11 rfl (hl_at hl 0 rfl rfl))), (by have e0 : a.eval (.tmp 11) = _ := ((hI.base 11 fr_11).trans b_11); generalize a.eval = ρ at e0 ⊢; simp [go_sem, e0]), at_mk v_12 rfl⟩)
  have s_13 := Step.pure (P := Tryd.prog) (V := VV) (T := Q) (S := (Q w9)) (a0 := A0) (Qx := QQ) i_13 (.string ff) (Q.refl ·) (fun l a w hI hl => ⟨wanted_of rfl i_11 rfl (lt_of hI hz rfl) (at_eq v_11 (hI.at_ 11 54 _ i_11 rfl (hl_at hl 1 rfl rfl))), (by have e0 : a.eval (.tmp 55) = _ := (at_eq v_12 (hI.at_ 12 55 _ i_12 rfl (hl_at hl 0 rfl rfl))); have x0 := (PX.out.q hI.st).at_ 0 _ rfl; generalize a.eval = ρ at e0 ⊢; simp [go_sem, e0, x0]), at_mk v_13 rfl⟩)
  have s_14 := Step.pure (P := Tryd.prog) (V := VV) (T := Q) (S := (Q w9)) (a0 := A0) (Qx := QQ) i_14 (.pointer (some ⟨bY, 0, none⟩)) (Q.refl ·) (fun l a w hI hl => ⟨wanted_of rfl i_11 rfl (lt_of hI hz rfl) (at_eq v_11 (hI.at_ 11 54 _ i_11 rfl (hl_at hl 0 rfl rfl))), (by have e0 : a.eval (.tmp 12) = _ := ((hI.base 12 fr_12).trans b_12); generalize a.eval = ρ at e0 ⊢; simp [go_sem, e0]), at_mk v_14 rfl⟩)
  have s_15 := Step.pure (P := Tryd.prog) (V := VV) (T := Q) (S := (Q w9)) (a0 := A0) (Qx := QQ) i_15 (.string ff) (Q.refl ·) (fun l a w hI hl => ⟨wanted_of rfl i_11 rfl (lt_of hI hz rfl) (at_eq v_11 (hI.at_ 11 54 _ i_11 rfl (hl_at hl 1 rfl rfl))), (by have e0 : a.eval (.tmp 57) = _ := (at_eq v_14 (hI.at_ 14 57 _ i_14 rfl (hl_at hl 0 rfl rfl))); have x0 := (PY.out.q hI.st).at_ 0 _ rfl; generalize a.eval = ρ at e0 ⊢; simp [go_sem, e0, x0]), at_mk v_15 rfl⟩)
  have s_16 := Step.pure (P := Tryd.prog) (V := VV) (T := Q) (S := (Q w9)) (a0 := A0) (Qx := QQ) i_16 (.bool true) (Q.refl ·) (fun l a w hI hl => ⟨wanted_of rfl i_11 rfl (lt_of hI hz rfl) (at_eq v_11 (hI.at_ 11 54 _ i_11 rfl (hl_at hl 2 rfl rfl))), ex_bin rfl (at_eq v_13 (hI.at_ 13 56 _ i_13 rfl (hl_at hl 0 rfl rfl))) (at_eq v_15 (hI.at_ 15 58 _ i_15 rfl (hl_at hl 1 rfl rfl))) (eqs_same _ _ _ _ _), at_mk v_16 rfl⟩)
  have s_17 := Step.pure (P := Tryd.prog) (V := VV) (T := Q) (S := (Q w9)) (a0 := A0) (Qx := QQ) i_17 (.bool true) (Q.refl ·) (fun l a w hI hl => ⟨wanted_none rfl, ex_pick_t rfl (at_eq v_11 (hI.at_ 11 54 _ i_11 rfl (hl_at hl 0 rfl rfl))) (at_eq v_16 (hI.at_ 16 59 _ i_16 rfl (hl_at hl 1 rfl rfl))), at_mk v_17 rfl⟩)
  have s_18 := Step.pure (P := Tryd.prog) (V := VV) (T := Q) (S := (Q w9)) (a0 := A0) (Qx := QQ) i_18 (.bool true) (Q.refl ·) (fun l a w hI hl => ⟨wanted_none rfl, ex_move rfl (at_eq v_17 (hI.at_ 17 60 _ i_17 rfl (hl_at hl 0 rfl rfl))), at_mk v_18 rfl⟩)
  have s_19 := Step.pure (P := Tryd.prog) (V := VV) (T := Q) (S := (Q w9)) (a0 := A0) (Qx := QQ) i_19 (.pointer (some ⟨bX, 0, none⟩)) (Q.refl ·) (fun l a w hI hl => ⟨wanted_of rfl i_18 rfl (lt_of hI hz rfl) (at_eq v_18 (hI.at_ 18 61 _ i_18 rfl (hl_at hl 0 rfl rfl))), (by have e0 : a.eval (.tmp 11) = _ := ((hI.base 11 fr_11).trans b_11); generalize a.eval = ρ at e0 ⊢; simp [go_sem, e0]), at_mk v_19 rfl⟩)
  have s_20 := Step.pure (P := Tryd.prog) (V := VV) (T := Q) (S := (Q w9)) (a0 := A0) (Qx := QQ) i_20 (.string ff) (Q.refl ·) (fun l a w hI hl => ⟨wanted_of rfl i_18 rfl (lt_of hI hz rfl) (at_eq v_18 (hI.at_ 18 61 _ i_18 rfl (hl_at hl 1 rfl rfl))), (by have e0 : a.eval (.tmp 62) = _ := (at_eq v_19 (hI.at_ 19 62 _ i_19 rfl (hl_at hl 0 rfl rfl))); have x0 := (PX.out.q hI.st).at_ 0 _ rfl; generalize a.eval = ρ at e0 ⊢; simp [go_sem, e0, x0]), at_mk v_20 rfl⟩)
  have s_21 := Step.pure (P := Tryd.prog) (V := VV) (T := Q) (S := (Q w9)) (a0 := A0) (Qx := QQ) i_21 (.slice ab k cb) (Q.refl ·) (fun l a w hI hl => ⟨wanted_of rfl i_18 rfl (lt_of hI hz rfl) (at_eq v_18 (hI.at_ 18 61 _ i_18 rfl (hl_at hl 0 rfl rfl))), ex_move rfl ((hI.base 9 fr_9).trans b_9), at_mk v_21 rfl⟩)
  have s_22 := Step.call (P := Tryd.prog) (V := VV) (T := Q) (S := (Q w9)) (a0 := A0) (Qx := QQ) (R := fun _ _ _ => True) i_22 (fun l a w hI hl => by
    refine ⟨wanted_of rfl i_18 rfl (lt_of hI hz rfl) (at_eq v_18 (hI.at_ 18 61 _ i_18 rfl (hl_at hl 1 rfl rfl))), 18, #[.slice ab k cb], ?_, ?_⟩
    · exact ex_call rfl (by simp only [List.map_toArray, List.map_cons, List.map_nil, ev_const, (show a.eval (.tmp 64) = _ from (at_eq v_21 (hI.at_ 21 64 _ i_21 rfl (hl_at hl 0 rfl rfl))))]) Tryd.func18 (by kernel_rfl) (by kernel_rfl)
    · exact (FS2.out w hI.st).mono fun e w' hc => by
        obtain ⟨rfl, hq⟩ := hc
        exact ⟨_, rfl, hq, hI.st.trans hq, at_mk v_22 rfl⟩)
  have s_23 := Step.pure (P := Tryd.prog) (V := VV) (T := Q) (S := (Q w9)) (a0 := A0) (Qx := QQ) i_23 (.bool true) (Q.refl ·) (fun l a w hI hl => ⟨wanted_of rfl i_18 rfl (lt_of hI hz rfl) (at_eq v_18 (hI.at_ 18 61 _ i_18 rfl (hl_at hl 2 rfl rfl))), ex_bin rfl (at_eq v_20 (hI.at_ 20 63 _ i_20 rfl (hl_at hl 0 rfl rfl))) (at_eq v_22 (hI.at_ 22 65 _ i_22 rfl (hl_at hl 1 rfl rfl))) (eqs_same _ _ _ _ _), at_mk v_23 rfl⟩)
  have s_24 := Step.pure (P := Tryd.prog) (V := VV) (T := Q) (S := (Q w9)) (a0 := A0) (Qx := QQ) i_24 (.bool true) (Q.refl ·) (fun l a w hI hl => ⟨wanted_none rfl, ex_pick_t rfl (at_eq v_18 (hI.at_ 18 61 _ i_18 rfl (hl_at hl 0 rfl rfl))) (at_eq v_23 (hI.at_ 23 66 _ i_23 rfl (hl_at hl 1 rfl rfl))), at_mk v_24 rfl⟩)
  have s_25 := Step.pure (P := Tryd.prog) (V := VV) (T := Q) (S := (Q w9)) (a0 := A0) (Qx := QQ) i_25 (.bool true) (Q.refl ·) (fun l a w hI hl => ⟨wanted_none rfl, ex_move rfl (at_eq v_24 (hI.at_ 24 67 _ i_24 rfl (hl_at hl 0 rfl rfl))), at_mk v_25 rfl⟩)
  have s_26 := Step.pure (P := Tryd.prog) (V := VV) (T := Q) (S := (Q w9)) (a0 := A0) (Qx := QQ) i_26 (.pointer (some ⟨bX, 0, none⟩)) (Q.refl ·) (fun l a w hI hl => ⟨wanted_of rfl i_25 rfl (lt_of hI hz rfl) (at_eq v_25 (hI.at_ 25 68 _ i_25 rfl (hl_at hl 0 rfl rfl))), (by have e0 : a.eval (.tmp 11) = _ := ((hI.base 11 fr_11).trans b_11); generalize a.eval = ρ at e0 ⊢; simp [go_sem, e0]), at_mk v_26 rfl⟩)
  have s_27 := Step.pure (P := Tryd.prog) (V := VV) (T := Q) (S := (Q w9)) (a0 := A0) (Qx := QQ) i_27 (.string ff) (Q.refl ·) (fun l a w hI hl => ⟨wanted_of rfl i_25 rfl (lt_of hI hz rfl) (at_eq v_25 (hI.at_ 25 68 _ i_25 rfl (hl_at hl 1 rfl rfl))), (by have e0 : a.eval (.tmp 69) = _ := (at_eq v_26 (hI.at_ 26 69 _ i_26 rfl (hl_at hl 0 rfl rfl))); have x0 := (PX.out.q hI.st).at_ 0 _ rfl; generalize a.eval = ρ at e0 ⊢; simp [go_sem, e0, x0]), at_mk v_27 rfl⟩)
  have s_28 := Step.pure (P := Tryd.prog) (V := VV) (T := Q) (S := (Q w9)) (a0 := A0) (Qx := QQ) i_28 (.int .i64 16) (Q.refl ·) (fun l a w hI hl => ⟨wanted_of rfl i_25 rfl (lt_of hI hz rfl) (at_eq v_25 (hI.at_ 25 68 _ i_25 rfl (hl_at hl 1 rfl rfl))), ex_len rfl Tryd.underlying9 (at_eq v_27 (hI.at_ 27 70 _ i_27 rfl (hl_at hl 0 rfl rfl))) zf, at_mk v_28 rfl⟩)
  have s_29 := Step.pure (P := Tryd.prog) (V := VV) (T := Q) (S := (Q w9)) (a0 := A0) (Qx := QQ) i_29 (.bool true) (Q.refl ·) (fun l a w hI hl => ⟨wanted_of rfl i_25 rfl (lt_of hI hz rfl) (at_eq v_25 (hI.at_ 25 68 _ i_25 rfl (hl_at hl 1 rfl rfl))), ex_bin rfl (at_eq v_28 (hI.at_ 28 71 _ i_28 rfl (hl_at hl 0 rfl rfl))) rfl (by kernel_rfl), at_mk v_29 rfl⟩)
  have s_30 := Step.pure (P := Tryd.prog) (V := VV) (T := Q) (S := (Q w9)) (a0 := A0) (Qx := QQ) i_30 (.bool true) (Q.refl ·) (fun l a w hI hl => ⟨wanted_none rfl, ex_pick_t rfl (at_eq v_25 (hI.at_ 25 68 _ i_25 rfl (hl_at hl 0 rfl rfl))) (at_eq v_29 (hI.at_ 29 72 _ i_29 rfl (hl_at hl 1 rfl rfl))), at_mk v_30 rfl⟩)
  have s_31 := Step.pure (P := Tryd.prog) (V := VV) (T := Q) (S := (Q w9)) (a0 := A0) (Qx := QQ) i_31 (.bool true) (Q.refl ·) (fun l a w hI hl => ⟨wanted_none rfl, ex_move rfl (at_eq v_30 (hI.at_ 30 73 _ i_30 rfl (hl_at hl 0 rfl rfl))), at_mk v_31 rfl⟩)
  have s_32 := Step.call (P := Tryd.prog) (V := VV) (T := Q) (S := (Q w9)) (a0 := A0) (Qx := QQ) (R := fun _ _ _ => True) i_32 (fun l a w hI hl => by
    refine ⟨wanted_of rfl i_31 rfl (lt_of hI hz rfl) (at_eq v_31 (hI.at_ 31 74 _ i_31 rfl (hl_at hl 0 rfl rfl))), 19, #[], ?_, ?_⟩
    · exact ex_call rfl (by simp only [List.map_toArray, List.map_cons, List.map_nil, ev_const]) Tryd.func19 (by kernel_rfl) (by kernel_rfl)
    · exact (FX2.out w hI.st).mono fun e w' hc => by
        obtain ⟨rfl, hq⟩ := hc
        exact ⟨_, rfl, hq, hI.st.trans hq, at_mk v_32 rfl⟩)
  have s_33 := Step.pure (P := Tryd.prog) (V := VV) (T := Q) (S := (Q w9)) (a0 := A0) (Qx := QQ) i_33 (.bool true) (Q.refl ·) (fun l a w hI hl => ⟨wanted_none rfl, ex_pick_t rfl (at_eq v_31 (hI.at_ 31 74 _ i_31 rfl (hl_at hl 0 rfl rfl))) (at_eq v_32 (hI.at_ 32 75 _ i_32 rfl (hl_at hl 1 rfl rfl))), at_mk v_33 rfl⟩)
  have s_34 := Step.pure (P := Tryd.prog) (V := VV) (T := Q) (S := (Q w9)) (a0 := A0) (Qx := QQ) i_34 (.bool true) (Q.refl ·) (fun l a w hI hl => ⟨wanted_none rfl, ex_assign rfl (at_eq v_33 (hI.at_ 33 76 _ i_33 rfl (hl_at hl 0 rfl rfl))), at_mk v_34 rfl⟩)
  refine wp_plan VV Q (Q w9) (by kernel_rfl) hs hV hS0 (steps_all hO ((sf_cons s_0 (sf_cons s_1 (sf_cons s_2 (sf_cons s_3 (sf_cons s_4 (sf_cons s_5 (sf_cons s_6 (sf_cons s_7 (sf_cons s_8 (sf_cons s_9 (sf_cons s_10 (sf_cons s_11 (sf_cons s_12 (sf_cons s_13 (sf_cons s_14 (sf_cons s_15 (sf_cons s_16 (sf_cons s_17 (sf_cons s_18 (sf_cons s_19 (sf_cons s_20 (sf_cons s_21 (sf_cons s_22 (sf_cons s_23 (sf_cons s_24 (sf_cons s_25 (sf_cons s_26 (sf_cons s_27 (sf_cons s_28 (sf_cons s_29 (sf_cons s_30 (sf_cons s_31 (sf_cons s_32 (sf_cons s_33 (sf_cons s_34 trivial))))))))))))))))))))))))))))))))))))) ?_
  intro l a' w' hall hIv
  have e0 : a'.eval (.tmp 6) = .bool true := at_eq v_34 (hIv.at_ 34 6 _ i_34 rfl (hall 34 (by rw [hO]; decide)))
  have hd : a'.defers = [] := by (rw [hIv.df, hA]; try rfl)
  have hst := QW9.out.trans hIv.st
  rw [hQQ]
  clear hIv hall
  go_wp2_with fail
  (try simp only [Exit.inBlock, Exit.then])
  refine bodyPost_ret (results_tmp rfl _ _ _) hd ?_
  exact ⟨congrArg Ending.returned e0, hst⟩
end Go.Proofs.YtojjmjbgnieogaaDoor.Coi
