/-
  For every input the law NumBack (package num: how often c goes into a product, times c, and what is left, are the product; what is put is got) returns true and leaves its arguments as they were. No condition.
-/
import Derived.Test.YtnihgcmlpgfaeaaKit
namespace Go.Proofs.Ytnihgcmlpgfaeaa.numBack
open Go.ChangeShapes Go.WideShapes Go.ChangeAt Go.RowKit
open Go.ChangeMaps (open_string shut_string)
open Num
set_option linter.unusedVariables false

def more : ByteArray := ⟨#[109, 111, 114, 101]⟩
theorem bt_put (a : Int) (b : ByteArray) (h0 : 0 ≤ a) (h1 : a ≤ 18446744073709551615) (k : Nat) (hk : k < 8) : PlainAid.bt (putS a ++ b) k = (putL a).getD k 0 := by
  have hs : k < (putS a ++ b).size := by rw [ByteArray.size_append, putS_size]; omega
  unfold PlainAid.bt
  rw [dif_pos hs, ByteArray.getElem_append_left (by rw [putS_size]; exact hk)]
  have hl : k < (putL a).length := hk
  have e : (putS a)[k]'(by rw [putS_size]; exact hk) = UInt8.ofNat ((putL a)[k]'hl).toNat := by
    show ((putL a).map fun n => UInt8.ofNat n.toNat).toArray[k]'(by simpa using hl) = _
    simp
  rw [e, List.getD_eq_getElem?_getD, List.getElem?_eq_getElem hl]
  have d := putL_digits a h0 h1 ((putL a)[k]'hl) (List.getElem_mem hl)
  simp only [UInt8.toNat_ofNat', Option.getD_some]
  omega
theorem get_put (a : Int) (b : ByteArray) (h0 : 0 ≤ a) (h1 : a ≤ 18446744073709551615) : getV (putS a ++ b) = a ∧ getE (putS a ++ b) = 0 := by
  have hs : 8 ≤ (putS a ++ b).size := by rw [ByteArray.size_append, putS_size]; omega
  unfold getV getE
  rw [if_pos hs, if_pos hs]
  refine ⟨?_, rfl⟩
  simp only [getN]
  rw [bt_put a b h0 h1 0 (by omega), bt_put a b h0 h1 1 (by omega), bt_put a b h0 h1 2 (by omega), bt_put a b h0 h1 3 (by omega), bt_put a b h0 h1 4 (by omega), bt_put a b h0 h1 5 (by omega), bt_put a b h0 h1 6 (by omega), bt_put a b h0 h1 7 (by omega)]
  simp only [putL, List.getD_cons_zero, List.getD_cons_succ]
  omega

set_option maxHeartbeats 2000000 in
set_option maxRecDepth 100000 in
theorem walk (a : Int) (wa : (Lit.int .u64 a).wf = true) (b : Int) (wb : (Lit.int .u64 b).wf = true) (c : Int) (wc : (Lit.int .u64 c).wf = true) (w : World) :
    Calls Try.prog 5 #[.int .u64 a, .int .u64 b, .int .u64 c] w fun e w' => e = .returned (.bool true) ∧ Below w.heap.size w w' := by
  obtain ⟨a0, a1⟩ := bounds_u64 wa
  obtain ⟨b0, b1⟩ := bounds_u64 wb
  obtain ⟨c0, c1⟩ := bounds_u64 wc
  clear wa wb wc
  have hq := Q.refl w
  have s1 := putS_size a
  obtain ⟨g1, g2⟩ := get_put a ⟨#[109, 111, 114, 101]⟩ a0 a1
  have hsz : (putS a ++ (⟨#[109, 111, 114, 101]⟩ : ByteArray)).size ≤ maxLen := by rw [ByteArray.size_append, putS_size]; decide +kernel
  by_cases hz : c = 0
  · subst hz
    have m1 : mdE a b 0 = 1 := rfl
    have m2 : remE a b 0 = 1 := rfl
    go_enter Try.func5, Try.ntmps5
    go_wp2_with (first
      | (go_at_call 24; refine (get_any _ _ hsz).mono ?_; rintro e w' ⟨rfl, rfl⟩)
      | (go_at_call 15; refine (mul_any _ _ _ (by assumption) (by assumption) (by assumption) (by assumption)).mono ?_; rintro e w' ⟨rfl, rfl⟩)
      | (go_at_call 28; refine (put_q _ _ hq (by assumption) (by assumption)).mono ?_; clear hq; rintro e w' ⟨rfl, hq⟩)
      | (go_at_call 17; refine (muldiv_q _ _ _ _ hq (by omega) (by omega) (by omega) (by omega) (by omega) (by omega)).mono ?_; clear hq; rintro e w' ⟨rfl, hq⟩)
      | (go_at_call 19; refine (rem_q _ _ _ _ hq (by omega) (by omega) (by omega) (by omega) (by omega) (by omega)).mono ?_; clear hq; rintro e w' ⟨rfl, hq⟩)
      | (go_at_call 21; refine (fixed_q _ hq).mono ?_; clear hq; rintro e w' ⟨rfl, hq⟩))
    go_ret
    exact ⟨rfl, hq⟩
  · have hc : 0 < c := by omega
    have tz : (c == 0) = false := by simpa using hz
    have tz' : (c != 0) = true := by simpa using hz
    have m2 : remE a b c = 0 := by unfold remE; rw [if_neg hz]
    have m3 : remV a b c = a * b % c := by unfold remV; rw [if_neg hz]
    obtain ⟨r0, r1⟩ := emod_bd (a * b) c hc
    by_cases hm : a * b ≤ 18446744073709551615
    · have p0 := Int.mul_nonneg a0 b0
      have d0 : 0 ≤ a * b / c := Int.ediv_nonneg p0 c0
      have d1 : a * b / c ≤ a * b := Int.ediv_le_self c p0
      have m4 : mulE a b = 0 := by unfold mulE; rw [if_pos hm]
      have m5 : mulV a b = a * b := by unfold mulV; rw [if_pos hm]
      have m6 : mdE a b c = 0 := by unfold mdE; rw [if_neg hz, if_pos (by omega)]
      have m7 : mdV a b c = a * b / c := by unfold mdV; rw [if_neg hz, if_pos (by omega)]
      have dm := Int.mul_ediv_add_emod (a * b) c
      rw [Int.mul_comm c] at dm
      have t0 := Int.mul_nonneg d0 c0
      generalize hp : a * b = p at *
      generalize hd : p / c = d at *
      generalize hr : p % c = r at *
      generalize ht : d * c = t at *
      have dm1 : t + r ≤ p := by omega
      have dm2 : p ≤ t + r := by omega
      clear hz dm hp
      go_enter Try.func5, Try.ntmps5
      go_wp2_with (first
      | (go_at_call 24; refine (get_any _ _ hsz).mono ?_; rintro e w' ⟨rfl, rfl⟩)
      | (go_at_call 15; refine (mul_any _ _ _ (by assumption) (by assumption) (by assumption) (by assumption)).mono ?_; rintro e w' ⟨rfl, rfl⟩)
      | (go_at_call 28; refine (put_q _ _ hq (by assumption) (by assumption)).mono ?_; clear hq; rintro e w' ⟨rfl, hq⟩)
      | (go_at_call 17; refine (muldiv_q _ _ _ _ hq (by omega) (by omega) (by omega) (by omega) (by omega) (by omega)).mono ?_; clear hq; rintro e w' ⟨rfl, hq⟩)
      | (go_at_call 19; refine (rem_q _ _ _ _ hq (by omega) (by omega) (by omega) (by omega) (by omega) (by omega)).mono ?_; clear hq; rintro e w' ⟨rfl, hq⟩)
      | (go_at_call 21; refine (fixed_q _ hq).mono ?_; clear hq; rintro e w' ⟨rfl, hq⟩))
      go_ret
      exact ⟨rfl, hq⟩
    · have m4 : mulE a b = 2 := by unfold mulE; rw [if_neg hm]
      generalize hr : a * b % c = r at *
      clear hz hm hr
      go_enter Try.func5, Try.ntmps5
      go_wp2_with (first
      | (go_at_call 24; refine (get_any _ _ hsz).mono ?_; rintro e w' ⟨rfl, rfl⟩)
      | (go_at_call 15; refine (mul_any _ _ _ (by assumption) (by assumption) (by assumption) (by assumption)).mono ?_; rintro e w' ⟨rfl, rfl⟩)
      | (go_at_call 28; refine (put_q _ _ hq (by assumption) (by assumption)).mono ?_; clear hq; rintro e w' ⟨rfl, hq⟩)
      | (go_at_call 17; refine (muldiv_q _ _ _ _ hq (by omega) (by omega) (by omega) (by omega) (by omega) (by omega)).mono ?_; clear hq; rintro e w' ⟨rfl, hq⟩)
      | (go_at_call 19; refine (rem_q _ _ _ _ hq (by omega) (by omega) (by omega) (by omega) (by omega) (by omega)).mono ?_; clear hq; rintro e w' ⟨rfl, hq⟩)
      | (go_at_call 21; refine (fixed_q _ hq).mono ?_; clear hq; rintro e w' ⟨rfl, hq⟩))
      go_ret
      exact ⟨rfl, hq⟩

theorem own : ownKnob Try.prog.godebug = none := by kernel_rfl
theorem laidOut : laidOutB Try.prog = true := by kernel_rfl

set_option maxRecDepth 100000 in
theorem lifted (os : Os) (started : os.Started) (H : Type) (enc : TypeId × Value → H) :
    ReturnsInHanded {} Try.checked os 5 .any (Rows.numBackSpec.pre6 enc Try.prog Try.f5 Rows.numBackRow.domain false) (Rows.numBackSpec.post enc Try.prog Try.f5 false true false false) := by
  refine returnsInHanded_of_change (C := Try.checked) own started (by kernel_rfl) Try.func5
    (ChangeSpec.witness6 (enc := enc) (C := Try.checked) false ⟨#[], #[.int .u64 0, .int .u64 0, .int .u64 0], []⟩ 8 (by kernel_rfl) (by kernel_rfl) (by kernel_rfl) (by kernel_rfl)) ?_
  intro W base args ds gs before hval0 hW hcnd _
  have hval : ∀ (j : Nat) t v, Try.f5.params[j]? = some t → args[j]? = some v → Value.okWide Try.prog W .any base t v := hval0
  have hW' := hW
  obtain ⟨p, q, hA0, hV, rfl, hfz, hnd⟩ := hW
  have hA : DataW.TrodAll enc Try.prog W 0 (fun _ => true) true Try.f5.params.toList args.toList ds p := hA0
  rw [Try.params5] at hA hval
  obtain ⟨v0, vs0, d0, ds0, p0, q0, hargs, rfl, rfl, h0, r0⟩ := trodAll_cons hA
  obtain ⟨v1, vs1, d1, ds1, p1, q1, rfl, rfl, rfl, h1, r1⟩ := trodAll_cons r0
  obtain ⟨v2, vs2, d2, ds2, p2, q2, rfl, rfl, rfl, h2, r2⟩ := trodAll_cons r1
  obtain ⟨rfl, rfl, rfl⟩ := trodAll_nil r2
  obtain rfl : args = #[v0, v1, v2] := by cases args; simp_all
  obtain ⟨rfl, rfl⟩ := trodVars_none hV
  have k0 := h0
  have lt0 : ∀ x ∈ p0, x.block < W.heap.size := by obtain ⟨m, hm⟩ := k0; exact DataW.trod_lt m _ _ _ hm
  obtain ⟨a0, rfl, e0, f0, w0⟩ := open_int Try.underlying22 (hval 0 22 v0 rfl rfl) h0
  have k1 := h1
  have lt1 : ∀ x ∈ p1, x.block < W.heap.size := by obtain ⟨m, hm⟩ := k1; exact DataW.trod_lt m _ _ _ hm
  obtain ⟨a1, rfl, e1, f1, w1⟩ := open_int Try.underlying22 (hval 1 22 v1 rfl rfl) h1
  have k2 := h2
  have lt2 : ∀ x ∈ p2, x.block < W.heap.size := by obtain ⟨m, hm⟩ := k2; exact DataW.trod_lt m _ _ _ hm
  obtain ⟨a2, rfl, e2, f2, w2⟩ := open_int Try.underlying22 (hval 2 22 v2 rfl rfl) h2
  clear hA0 hval0
  refine (walk a0 w0 a1 w1 a2 w2 W).mono fun e W' ⟨he, bel⟩ => ?_
  subst he
  exact ⟨_, rfl, _, _, _, [], _, [], hW', trodAll_mk1 (shut_bool Try.underlying4 _), (trodAll_cons_mk (Below.trod laidOut (by kernel_rfl) (of_decide_eq_true (by kernel_rfl)) k0 bel lt0) (trodAll_cons_mk (Below.trod laidOut (by kernel_rfl) (of_decide_eq_true (by kernel_rfl)) k1 bel lt1) (trodAll_cons_mk (Below.trod laidOut (by kernel_rfl) (of_decide_eq_true (by kernel_rfl)) k2 bel lt2) trodAll_mk0))), rfl, bel.frame _, fun h => by cases h⟩

theorem over : Rows.numBackRow.holds Try.pinned (OpenSpec.ofChange Rows.numBackSpec) :=
  OpenClaim.holds_of_wide 5 Try.f5 rfl rfl rfl rfl rfl rfl rfl ⟨rfl, rfl, rfl, rfl, rfl⟩ rfl rfl rfl rfl rfl (by kernel_rfl) Try.func5 (by kernel_rfl)
    (of_decide_eq_true (by kernel_rfl)) (by unfold Func.isWrapper; first | (rw [if_pos (by decide +kernel)]; kernel_rfl) | (rw [if_neg (by decide +kernel)]; exact ⟨rfl, rfl⟩))
    (fun os started H enc _ => lifted os started H enc)

end Go.Proofs.Ytnihgcmlpgfaeaa.numBack
namespace Go.Proofs.Ytnihgcmlpgfaeaa
theorem numBack_holds : Rows.NumBackSaid := numBack.over
#print axioms numBack_holds
end Go.Proofs.Ytnihgcmlpgfaeaa
