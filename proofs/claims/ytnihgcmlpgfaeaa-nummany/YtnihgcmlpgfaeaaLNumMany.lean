/-
  For every input the law NumMany (package num: a sum finds room just if the sums of all its beginnings do, and is the same with any two numbers changed) returns true and leaves its arguments as they were. No condition.
-/
import Derived.Test.YtnihgcmlpgfaeaaKit
namespace Go.Proofs.Ytnihgcmlpgfaeaa.numMany
open Go.ChangeShapes Go.WideShapes Go.ChangeAt Go.RowKit
open Go.ChangeMaps (open_string shut_string)
open Num
set_option linter.unusedVariables false

/-! ### Numbers: two of them changed -/
def swp (f : Nat → Int) (x y : Nat) : Nat → Int := fun i => if i = y then f x else if i = x then f y else f i
theorem S_congr {f g : Nat → Int} : ∀ n, (∀ i, i < n → f i = g i) → S f n = S g n
  | 0, _ => rfl
  | n + 1, h => by show S f n + f n = S g n + g n; rw [S_congr n fun i hi => h i (by omega), h n (by omega)]
theorem S_set (f : Nat → Int) (x : Nat) (v : Int) : ∀ n, S (fun i => if i = x then v else f i) n = if x < n then S f n - f x + v else S f n
  | 0 => by simp [S]
  | n + 1 => by
    show S (fun i => if i = x then v else f i) n + (if n = x then v else f n) = _
    rw [S_set f x v n]
    have e : S f (n + 1) = S f n + f n := rfl
    by_cases h : n = x
    · subst h; rw [if_neg (by omega), if_pos rfl, if_pos (by omega)]; omega
    · rw [if_neg h]
      by_cases h2 : x < n
      · rw [if_pos h2, if_pos (by omega)]; omega
      · rw [if_neg h2, if_neg (by omega)]; omega
theorem S_swp (f : Nat → Int) (x y n : Nat) (hx : x < n) (hy : y < n) : S (swp f x y) n = S f n := by
  have e : swp f x y = fun i => if i = y then f x else (fun i => if i = x then f y else f i) i := rfl
  rw [e, S_set _ y (f x) n, if_pos hy, S_set f x (f y) n, if_pos hx]
  by_cases h : y = x
  · subst h; simp
  · rw [if_neg h]; omega
theorem sumE_le (f : Nat → Int) (h : ∀ i, 0 ≤ f i) (j n : Nat) (hj : j ≤ n) (hs : sumE f n = 0) : sumE f j = 0 := by
  unfold sumE at hs ⊢
  have m := S_mono f h j (n - j)
  rw [show j + (n - j) = n by omega] at m
  split at hs
  · rw [if_pos (by omega)]
  · simp at hs

theorem and_mask_i64 (i : Int) : bits .and .i64 i 65535 = i % 65536 := by
  have h1 : (BitVec.ofInt 64 i &&& BitVec.ofInt 64 65535).toNat = (i % 65536).toNat := by
    rw [BitVec.toNat_and, show (BitVec.ofInt 64 65535).toNat = 2 ^ 16 - 1 by decide +kernel, Nat.and_two_pow_sub_one_eq_mod, BitVec.toNat_ofInt]
    omega
  show IntKind.i64.wrap ((BitVec.ofInt 64 i &&& BitVec.ofInt 64 65535).toNat : Int) = _
  rw [h1, IntKind.wrap_i64]
  omega

/-! ### Memory -/
theorem row_swp {w : World} {b n : Nat} {f : Nat → Int} (hr : Row w b 0 n f) (x y : Nat) (hx : x < n) (hy : y < n) :
    Row ((w.setCell ⟨b, x, none⟩ (.int .u64 (f y))).setCell ⟨b, y, none⟩ (.int .u64 (f x))) b 0 n (swp f x y) := by
  intro i hi
  have r : ∀ j, j < n → w.cell? ⟨b, j, none⟩ = some (.int .u64 (f j)) := fun j hj => by have := hr j hj; rwa [Nat.zero_add] at this
  rw [Nat.zero_add]
  unfold swp
  by_cases h1 : i = y
  · subst h1
    rw [if_pos rfl]
    obtain ⟨v', hv⟩ := cell?_setCell_some (p := ⟨b, x, none⟩) (x := .int .u64 (f i)) (r i hi)
    exact World.cell?_setCell_same _ _ _ hv
  · rw [if_neg h1, World.cell?_setCell_other (h := by intro h; injection h; omega)]
    by_cases h2 : i = x
    · subst h2
      rw [if_pos rfl]
      exact World.cell?_setCell_same _ _ _ (r i hi)
    · rw [if_neg h2, World.cell?_setCell_other (h := by intro h; injection h; omega)]
      exact r i hi

/-- The world behind 'append([]uint64{}, l[:m]...)'. -/
def W1 (w : World) (f : Nat → Int) (m C : Nat) : World := ((w.alloc (.cells #[] 22)).alloc (.cells (((List.range m).map fun i => Value.int .u64 (f i)).toArray ++ Builtin.zeroCells #[.int .u64 0] C) 22)).drew
theorem W1_row (w : World) (f : Nat → Int) (m C : Nat) : Row (W1 w f m C) (w.heap.size + 1) 0 m f := by
  intro i hi
  show World.cell? ((w.alloc (.cells #[] 22)).alloc _) _ = _
  rw [World.cell?_alloc_at _ _ _ _ (by simp), Nat.zero_add, Array.getElem?_append_left (by simpa using hi)]
  simp [hi]
theorem W1_frozen (w : World) (f : Nat → Int) (m C i : Nat) : (W1 w f m C).frozen? ⟨w.heap.size + 1, i, none⟩ = false := by
  show World.frozen? ((w.alloc (.cells #[] 22)).alloc _) _ = _
  rw [World.frozen?_alloc_at _ _ _ _ (by simp)]
theorem W1_q (w : World) (f : Nat → Int) (m C : Nat) : Q w (W1 w f m C) :=
  Below.drew (Below.alloc (Below.alloc (Below.refl _ _) (Nat.le_refl _) _) (by simp) _)
theorem cap_small (m : Nat) (h : m ≤ 40) : ¬ 281474976710656 < Builtin.nextslicecap m 0 * Try.t22.bytes := by
  have all : ∀ m : Fin 41, ¬ 281474976710656 < Builtin.nextslicecap m.val 0 * Try.t22.bytes := by decide +kernel
  exact all ⟨m, by omega⟩
theorem load_row {w : World} {b off n : Nat} {f : Nat → Int} (hb : b < w.heap.size) (hr : Row w b off n f) (m : Nat) (hm : m ≤ n) :
    Sem.run Try.prog (loadCellsFrom ⟨b, off, none⟩ 0 m #[]) (w.alloc (.cells #[] 22)).drew = .ok ((List.range m).map fun i => Value.int .u64 (f i)).toArray (w.alloc (.cells #[] 22)).drew := by
  have h := run_loadCells_list (P := Try.prog) (w.alloc (.cells #[] 22)).drew ⟨b, off, none⟩ ((List.range m).map fun i => Value.int .u64 (f i)) (fun j v hj => by
    have hjm : j < m := by
      rcases Nat.lt_or_ge j m with h | h
      · exact h
      · simp [List.getElem?_eq_none (show ((List.range m).map fun i => Value.int .u64 (f i)).length ≤ j by simpa using h)] at hj
    have hplain : (⟨b, off, none⟩ : Addr).add j = ⟨b, off + j, none⟩ := by unfold Addr.add; split <;> simp_all
    rw [hplain]
    show (w.alloc (.cells #[] 22)).cell? ⟨b, off + j, none⟩ = _
    rw [World.cell?_alloc_lt (h := hb), hr j (by omega)]
    simpa [List.getElem?_map, List.getElem?_range hjm] using hj)
  simpa [loadCells] using h

theorem and16 (i : Int) (h0 : -9223372036854775808 ≤ i) (h1 : i ≤ 9223372036854775807) : ∃ u : Int, bits .and .i64 i 65535 = u ∧ 0 ≤ u ∧ u ≤ 65535 := by
  refine ⟨_, rfl, ?_⟩
  rw [and_mask_i64]
  omega
theorem mod_nat (u : Int) (m : Nat) (h : 0 ≤ u) (hm : 0 < m) : ∃ x : Nat, u % (m : Int) = x ∧ x < m := by
  have h0 := Int.emod_nonneg u (show (m : Int) ≠ 0 by omega)
  have h1 := Int.emod_lt_of_pos u (show (0 : Int) < m by omega)
  exact ⟨(u % m).toNat, by omega, by omega⟩

set_option maxHeartbeats 2000000 in
set_option maxRecDepth 100000 in
theorem walk1 (b off len cap : Nat) (i k : Int) (w : World) (f : Nat → Int) (hl : len ≤ cap) (hcap : cap ≤ 9223372036854775807) (m : Nat) (hm : m ≤ 40) (hm0 : 0 < m) (hml : m ≤ len) (hmin : min (len : Int) 40 = m)
    (hb : b < w.heap.size) (hr : Hid (Row w b off len f)) (f0 : Hid (∀ i, 0 ≤ f i)) (f1 : Hid (∀ i, f i ≤ 18446744073709551615)) (i0 : -9223372036854775808 ≤ i) (i1 : i ≤ 9223372036854775807) (k0 : -9223372036854775808 ≤ k) (k1 : k ≤ 9223372036854775807) :
    Calls Try.prog 8 #[.slice (some ⟨b, off, none⟩) len cap, .int .i64 i, .int .i64 k] w fun e w' => e = .returned (.bool true) ∧ Below w.heap.size w w' := by
  have hc := cap_small m hm
  have hld := load_row hb hr.out m hml
  go_enter Try.func8, Try.ntmps8
  go_wp2_with fail
  have hC1 : m ≤ (Question.appendCap m 0 22).cut (w.tape w.drawn (Question.appendCap m 0 22)) := grownCap_ge w m 0 22
  have hC2 : (Question.appendCap m 0 22).cut (w.tape w.drawn (Question.appendCap m 0 22)) ≤ maxLen := grownCap_le_maxLen w m 0 22 (by unfold maxLen; omega)
  unfold maxLen at hC2
  generalize (Question.appendCap m 0 22).cut (w.tape w.drawn (Question.appendCap m 0 22)) = C at *
  have hrow := Lib.hid (W1_row w f m (C - m))
  have hfr := Lib.hid (W1_frozen w f m (C - m))
  have hq := W1_q w f m (C - m)
  have eW : ((w.alloc (Obj.cells #[] 22)).alloc (Obj.cells ((List.map (fun i => Value.int IntKind.u64 (f i)) (List.range m)).toArray ++ Builtin.zeroCells #[Value.int IntKind.u64 0] (C - m)) 22)).drew = W1 w f m (C - m) := rfl
  rw [eW]
  clear eW hld hc hr
  generalize W1 w f m (C - m) = w1 at *
  have hmx : m ≤ maxLen := by unfold maxLen; omega
  refine (sum_row _ 0 m C f w1 hmx hrow.out f0.out f1.out).mono ?_
  rintro e w' ⟨rfl, rfl⟩
  obtain ⟨b1, hb1⟩ : ∃ b1, w.heap.size + 1 = b1 := ⟨_, rfl⟩
  have hb1' : w.heap.size ≤ b1 := by omega
  rw [hb1] at hrow hfr
  rw [hb1]
  have HB := Lib.hid hb1
  clear hb1
  have tm : ((m : Int) == 0) = false := by simp; omega
  obtain ⟨u, hu, u0, u1⟩ : ∃ u : Int, bits .and .i64 i 65535 = u ∧ 0 ≤ u ∧ u ≤ 65535 := and16 i i0 i1
  obtain ⟨v, hv, v0, v1⟩ : ∃ u : Int, bits .and .i64 k 65535 = u ∧ 0 ≤ u ∧ u ≤ 65535 := and16 k k0 k1
  obtain ⟨x, hx, x1⟩ : ∃ x : Nat, u % (m : Int) = x ∧ x < m := mod_nat u m u0 hm0
  obtain ⟨y, hy, y1⟩ : ∃ x : Nat, v % (m : Int) = x ∧ x < m := mod_nat v m v0 hm0
  have EE : sumE f m = 0 ∨ sumE f m = 2 := by unfold sumE; split <;> simp
  rcases EE with EE | EE
  all_goals
    go_wp2_with fail
    go_loop [10] (fun a => ∃ j : Nat, j ≤ m ∧ a = .int .i64 j) (fun a => m - (intOf a).toNat)
    case atStart => exact ⟨0, by omega, rfl⟩
    case round =>
      obtain ⟨j, hj, rfl⟩ := hrel
      by_cases hlt : j < m
      · try (have E2 : sumE f j = 0 := sumE_le f f0.out j m hj EE)
        go_wp2_with (go_at_call 22; refine (sum_row _ 0 j C f _ (by unfold maxLen; omega) (fun i hi => hrow.out i (by omega)) f0.out f1.out).mono ?_; rintro e w' ⟨rfl, rfl⟩)
        go_round
        case rel => exact ⟨j + 1, by omega, by go_num⟩
        case measure => simp [intOf]; omega
      · obtain rfl : j = m := by omega
        have cx : w1.cell? ⟨b1, x, none⟩ = some (.int .u64 (f x)) := by have := hrow.out x x1; rwa [Nat.zero_add] at this
        have cy : w1.cell? ⟨b1, y, none⟩ = some (.int .u64 (f y)) := by have := hrow.out y y1; rwa [Nat.zero_add] at this
        have fx := hfr.out x
        have fy := hfr.out y
        go_wp2_with fail
        go_quiet (fail)
        rename_i nq
        obtain ⟨v', hv'⟩ := cell?_setCell_some (w := w1.drewN nq) (p := ⟨b1, x, none⟩) (x := .int .u64 (f y)) (q := ⟨b1, y, none⟩) (v := .int .u64 (f y)) (by simpa using cy)
        go_wp2_with fail
        have hrow2 : Row (((w1.drewN nq).setCell ⟨b1, x, none⟩ (.int .u64 (f y))).setCell ⟨b1, y, none⟩ (.int .u64 (f x))) b1 0 j (swp f x y) := row_swp (w := w1.drewN nq) (fun i hi => hrow.out i hi) x y x1 y1
        have hq2 : Q w (((w1.drewN nq).setCell ⟨b1, x, none⟩ (.int .u64 (f y))).setCell ⟨b1, y, none⟩ (.int .u64 (f x))) := Below.setCell (Below.setCell (Q.drewN hq nq) hb1' _) hb1' _
        have sS := S_swp f x y j x1 y1
        have sV : sumV (swp f x y) j = sumV f j := by unfold sumV; rw [sS]
        have sE : sumE (swp f x y) j = sumE f j := by unfold sumE; rw [sS]
        have g0 : ∀ i, 0 ≤ swp f x y i := by intro i; unfold swp; split; exact f0.out _; split <;> exact f0.out _
        have g1 : ∀ i, swp f x y i ≤ 18446744073709551615 := by intro i; unfold swp; split; exact f1.out _; split <;> exact f1.out _
        refine (sum_row _ 0 j C (swp f x y) _ hmx hrow2 g0 g1).mono ?_
        rintro e w' ⟨rfl, rfl⟩
        clear g0 g1 sS hrow2 hv' cx cy fx fy
        generalize ((w1.drewN nq).setCell ⟨b1, x, none⟩ (.int .u64 (f y))).setCell ⟨b1, y, none⟩ (.int .u64 (f x)) = w2 at *
        go_wp2_with (go_at_call 21; refine (fixed_q _ hq2).mono ?_; clear hq2; rintro e w' ⟨rfl, hq2⟩)
        go_ret
        exact ⟨rfl, hq2⟩
theorem walk0 (a : Option Addr) (cap : Nat) (i k : Int) (w : World) :
    Calls Try.prog 8 #[.slice a 0 cap, .int .i64 i, .int .i64 k] w fun e w' => e = .returned (.bool true) ∧ Below w.heap.size w w' := by
  have hm : min (0 : Int) 40 = 0 := by decide
  have hq : Q w (w.alloc (Obj.cells #[] 22)) := Below.alloc (Below.refl _ _) (Nat.le_refl _) _
  cases a
  all_goals
    go_enter Try.func8, Try.ntmps8
    go_wp2_with fail
    refine (sum_none _ _ _).mono ?_
    rintro e w' ⟨rfl, rfl⟩
    go_wp2_with fail
    refine wp_loop_rounds 1 ?_
    rw [rounds_succ]
    go_wp2_with (go_at_call 21; refine (fixed_q _ hq).mono ?_; clear hq; rintro e w' ⟨rfl, hq⟩)
    go_ret
    exact ⟨rfl, hq⟩

theorem walk (W : World) (a : Option Addr) (len cap : Nat) (z : List Int) (h0 : IsRow .u64 W a len cap z) (i : Int) (wi : (Lit.int .i64 i).wf = true) (k : Int) (wk : (Lit.int .i64 k).wf = true) :
    Calls Try.prog 8 #[.slice a len cap, .int .i64 i, .int .i64 k] W fun e w' => e = .returned (.bool true) ∧ Below W.heap.size W w' := by
  obtain ⟨i0, i1⟩ := bounds_i64 wi
  obtain ⟨k0, k1⟩ := bounds_i64 wk
  rcases row_cases h0 with rfl | ⟨hp, b, off, rfl, hl, hm, hb, hr, f0, f1⟩
  · exact walk0 a cap i k W
  · unfold maxLen at hm
    obtain ⟨m, hm1, hm2⟩ : ∃ m : Nat, m = min len 40 ∧ min (len : Int) 40 = (m : Int) := ⟨min len 40, rfl, by omega⟩
    exact walk1 b off len cap i k W _ hl (by omega) m (by omega) (by omega) (by omega) hm2 hb hr f0 f1 i0 i1 k0 k1

theorem own : ownKnob Try.prog.godebug = none := by kernel_rfl
theorem laidOut : laidOutB Try.prog = true := by kernel_rfl

set_option maxRecDepth 100000 in
theorem lifted (os : Os) (started : os.Started) (H : Type) (enc : TypeId × Value → H) :
    ReturnsInHanded {} Try.checked os 8 .any (Rows.numManySpec.pre6 enc Try.prog Try.f8 Rows.numManyRow.domain false) (Rows.numManySpec.post enc Try.prog Try.f8 false true false false) := by
  refine returnsInHanded_of_change (C := Try.checked) own started (by kernel_rfl) Try.func8
    (ChangeSpec.witness6 (enc := enc) (C := Try.checked) false ⟨#[], #[.slice none 0 0, .int .i64 0, .int .i64 0], []⟩ 8 (by kernel_rfl) (by kernel_rfl) (by kernel_rfl) (by kernel_rfl)) ?_
  intro W base args ds gs before hval0 hW hcnd _
  have hval : ∀ (j : Nat) t v, Try.f8.params[j]? = some t → args[j]? = some v → Value.okWide Try.prog W .any base t v := hval0
  have hW' := hW
  obtain ⟨p, q, hA0, hV, rfl, hfz, hnd⟩ := hW
  have hA : DataW.TrodAll enc Try.prog W 0 (fun _ => true) true Try.f8.params.toList args.toList ds p := hA0
  rw [Try.params8] at hA hval
  obtain ⟨v0, vs0, d0, ds0, p0, q0, hargs, rfl, rfl, h0, r0⟩ := trodAll_cons hA
  obtain ⟨v1, vs1, d1, ds1, p1, q1, rfl, rfl, rfl, h1, r1⟩ := trodAll_cons r0
  obtain ⟨v2, vs2, d2, ds2, p2, q2, rfl, rfl, rfl, h2, r2⟩ := trodAll_cons r1
  obtain ⟨rfl, rfl, rfl⟩ := trodAll_nil r2
  obtain rfl : args = #[v0, v1, v2] := by cases args; simp_all
  obtain ⟨rfl, rfl⟩ := trodVars_none hV
  have k0 := h0
  have lt0 : ∀ x ∈ p0, x.block < W.heap.size := by obtain ⟨m, hm⟩ := k0; exact DataW.trod_lt m _ _ _ hm
  obtain ⟨a0, len0, cap0, rfl⟩ := okWide_slice Try.underlying29 (hval 0 29 v0 rfl rfl)
  obtain ⟨z0, w0⟩ : ∃ zs, IsRow .u64 W a0 len0 cap0 zs := by
    obtain ⟨fuel, hf⟩ := h0
    rcases open_ints Try.underlying29 Try.underlying22 (by kernel_rfl) hf with ⟨hcs, _⟩ | ⟨x, l, c, zs, hcs, _, hl, hm, hz, _, hcell, hwz⟩
    · simp [Value.cells] at hcs
      obtain ⟨rfl, rfl, rfl⟩ := hcs
      exact ⟨[], .inl ⟨rfl, rfl, rfl, rfl⟩⟩
    · simp [Value.cells] at hcs
      obtain ⟨rfl, rfl, rfl⟩ := hcs
      exact ⟨zs, .inr ⟨_, rfl, hl, hm, by simpa using hz, hcell, hwz⟩⟩
  have k1 := h1
  have lt1 : ∀ x ∈ p1, x.block < W.heap.size := by obtain ⟨m, hm⟩ := k1; exact DataW.trod_lt m _ _ _ hm
  obtain ⟨a1, rfl, e1, f1, w1⟩ := open_int Try.underlying3 (hval 1 3 v1 rfl rfl) h1
  have k2 := h2
  have lt2 : ∀ x ∈ p2, x.block < W.heap.size := by obtain ⟨m, hm⟩ := k2; exact DataW.trod_lt m _ _ _ hm
  obtain ⟨a2, rfl, e2, f2, w2⟩ := open_int Try.underlying3 (hval 2 3 v2 rfl rfl) h2
  clear hA0 hval0
  refine (walk W a0 len0 cap0 z0 w0 a1 w1 a2 w2).mono fun e W' ⟨he, bel⟩ => ?_
  subst he
  exact ⟨_, rfl, _, _, _, [], _, [], hW', trodAll_mk1 (shut_bool Try.underlying4 _), (trodAll_cons_mk (Below.trod laidOut (by kernel_rfl) (of_decide_eq_true (by kernel_rfl)) k0 bel lt0) (trodAll_cons_mk (Below.trod laidOut (by kernel_rfl) (of_decide_eq_true (by kernel_rfl)) k1 bel lt1) (trodAll_cons_mk (Below.trod laidOut (by kernel_rfl) (of_decide_eq_true (by kernel_rfl)) k2 bel lt2) trodAll_mk0))), rfl, bel.frame _, fun h => by cases h⟩

theorem over : Rows.numManyRow.holds Try.pinned (OpenSpec.ofChange Rows.numManySpec) :=
  OpenClaim.holds_of_wide 8 Try.f8 rfl rfl rfl rfl rfl rfl rfl ⟨rfl, rfl, rfl, rfl, rfl⟩ rfl rfl rfl rfl rfl (by kernel_rfl) Try.func8 (by kernel_rfl)
    (of_decide_eq_true (by kernel_rfl)) (by unfold Func.isWrapper; first | (rw [if_pos (by decide +kernel)]; kernel_rfl) | (rw [if_neg (by decide +kernel)]; exact ⟨rfl, rfl⟩))
    (fun os started H enc _ => lifted os started H enc)

end Go.Proofs.Ytnihgcmlpgfaeaa.numMany
namespace Go.Proofs.Ytnihgcmlpgfaeaa
theorem numMany_holds : Rows.NumManySaid := numMany.over
#print axioms numMany_holds
end Go.Proofs.Ytnihgcmlpgfaeaa
