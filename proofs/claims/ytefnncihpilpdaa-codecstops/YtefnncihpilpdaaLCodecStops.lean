/-
  For every input the law CodecStops (with an error noted nothing more is read, and the error stays) returns true and leaves its arguments as they were. No condition.
-/
import Derived.Test.YtefnncihpilpdaaCodT2
namespace Go.Proofs.Ytefnncihpilpdaa.codecStops
open Go.ChangeShapes Go.WideShapes Go.ChangeAt Go.RowKit
open Go.ChangeMaps (open_string shut_string)
open Mem Num Cod
set_option linter.unusedVariables false

set_option maxHeartbeats 4000000 in
set_option maxRecDepth 100000 in
theorem walk (W : World) (s : ByteArray) (hs : s.size ≤ maxLen) (x : Int) (wx : (Lit.int .u8 x).wf = true) (a : Option Addr) (len cap : Nat) (f : Nat → Pt) (hp : IsParts W a len cap f) :
    Calls Try.prog 7 #[.string s, .int .u8 x, .slice a len cap] W fun e W' => e = .returned (.bool true) ∧ Below W.heap.size W W' := by
  have HP := Lib.hid (parts_cases hp)
  clear hp
  obtain ⟨x0, x1⟩ := bounds_u8 wx
  unfold maxLen at hs
  have ht := cut_le s 300 300 rfl
  obtain ⟨S, het⟩ : ∃ t, s.extract 0 (min (s.size : Int) 300).toNat = t := ⟨_, rfl⟩
  rw [het] at ht
  have HS : Hid (S.size ≤ 1000000000) := by show _ ≤ _; omega
  obtain ⟨E, hE⟩ : ∃ E, 1 + x % 15 = E := ⟨_, rfl⟩
  have HE : Hid (E ≠ 0) := by show _ ≠ _; omega
  go_enter Try.func7, Try.ntmps7
  go_wp2_with fail
  refine (read_any S W).mono ?_
  rintro r w1 ⟨rfl, h1, q1⟩
  have H1 := Lib.hid h1
  have Q1 := Lib.hid q1
  clear h1 q1 het hs
  go_wp2_with fail
  refine (fail_any _ _ _ 0 _ H1.out).mono ?_
  rintro r w2 ⟨rfl, h2, c2⟩
  have H2 := Lib.hid h2
  have Q2 : Hid (Q W w2) := c2.q Q1.out (Nat.le_refl _)
  clear h2 c2 H1 Q1
  go_wp2_with fail
  refine (fail_any _ _ _ E _ H2.out).mono ?_
  rintro r w3 ⟨rfl, h3, c3⟩
  have I0 : Hid (EI W W.heap.size S E w3) := ⟨h3, c3.q Q2.out (Nat.le_refl _)⟩
  clear h3 c3 H2 Q2
  have G1 : Hid (W.heap.size ≤ W.heap.size) := Nat.le_refl _
  go_wp2_with fail
  go_loopw [9] (fun v wr => ∃ k : Nat, k ≤ len ∧ v = .int .i64 k ∧ Hid (EI W W.heap.size S E wr)) (fun v _ => len - (intOf v).toNat)
  case atStart => exact ⟨0, by omega, rfl, I0⟩
  case round =>
    obtain ⟨k, hk, rfl, HI0⟩ := hrel
    clear I0
    by_cases hlt : k < len ∧ k < 20
    · obtain ⟨hl1, hl2⟩ := hlt
      obtain ⟨b, off, rfl, _, hrow, _⟩ := (HP.out.resolve_left (by omega)).2.2.2
      have HB : Hid (∀ w', Q W w' → w'.cell? ⟨b, off + k * 3 + 1, none⟩ = some (.int .i64 (f k).n)) := fun w' q => (hrow.q q k hl1).2.1
      clear hrow
      generalize (f k).n = N at *
      go_wp2_with fail
      refine (HI0.out.byte HE.out HS.out G1.out).mono ?_
      rintro r w4 ⟨rfl, h4⟩
      have H4 := Lib.hid h4
      clear h4 HI0
      go_wp2_with fail
      refine (H4.out.num HE.out HS.out G1.out).mono ?_
      rintro r w5 ⟨rfl, h5⟩
      have H5 := Lib.hid h5
      have b5 := HB.out _ h5.q
      clear h5 H4
      go_wp2_with fail
      refine (H5.out.blob N HE.out HS.out G1.out).mono ?_
      rintro r w6 ⟨rfl, h6⟩
      have H6 := Lib.hid h6
      clear h6 H5 b5
      go_wp2_with fail
      refine (H6.out.hash HE.out HS.out G1.out).mono ?_
      rintro r w7 ⟨rfl, h7⟩
      have H7 := Lib.hid h7
      clear h7 H6
      go_wp2_with fail
      refine (left_any _ _ _ _ H7.out.r).mono ?_
      rintro r w' ⟨rfl, rfl⟩
      go_wp2_with fail
      refine (H7.out.end_ HE.out).mono ?_
      rintro r w' ⟨rfl, rfl⟩
      have b7 := HB.out _ H7.out.q
      go_wp2_with fail
      refine (H7.out.fail _ HE.out G1.out).mono ?_
      rintro r w8 ⟨rfl, h8⟩
      have H8 := Lib.hid h8
      clear h8 H7 b7
      go_wp2_with fail
      go_roundw
      case rel => exact ⟨k + 1, by omega, by go_num, H8⟩
      case measure => simp [intOf]; omega
    · as_aux_lemma =>
      by_cases hl1 : k < len
      · have hl2 : ¬ k < 20 := fun h => hlt ⟨hl1, h⟩
        clear hlt
        go_wp2_with fail
        refine (HI0.out.end_ HE.out).mono ?_
        rintro r w' ⟨rfl, rfl⟩
        go_wp2_with fail
        refine (fixed_any _ HI0.out.q).mono ?_
        rintro r wz ⟨rfl, qz⟩
        go_wp2_with fail
        go_ret
        exact ⟨rfl, qz⟩
      · clear hlt
        go_wp2_with fail
        refine (HI0.out.end_ HE.out).mono ?_
        rintro r w' ⟨rfl, rfl⟩
        go_wp2_with fail
        refine (fixed_any _ HI0.out.q).mono ?_
        rintro r wz ⟨rfl, qz⟩
        go_wp2_with fail
        go_ret
        exact ⟨rfl, qz⟩

theorem own : ownKnob Try.prog.godebug = none := by kernel_rfl
theorem laidOut : laidOutB Try.prog = true := by kernel_rfl

set_option maxRecDepth 100000 in
theorem lifted (os : Os) (started : os.Started) (H : Type) (enc : TypeId × Value → H) :
    ReturnsInHanded {} Try.checked os 7 .any (Rows.codecStopsSpec.pre6 enc Try.prog Try.f7 Rows.codecStopsRow.domain false) (Rows.codecStopsSpec.post enc Try.prog Try.f7 false true false false) := by
  refine returnsInHanded_of_change (C := Try.checked) own started (by kernel_rfl) Try.func7
    (ChangeSpec.witness6 (enc := enc) (C := Try.checked) false ⟨#[], #[.string ⟨#[]⟩, .int .u8 0, .slice none 0 0], []⟩ 8 (by kernel_rfl) (by kernel_rfl) (by kernel_rfl) (by kernel_rfl)) ?_
  intro W base args ds gs before hval0 hW hcnd _
  have hval : ∀ (j : Nat) t v, Try.f7.params[j]? = some t → args[j]? = some v → Value.okWide Try.prog W .any base t v := hval0
  have hW' := hW
  obtain ⟨p, q, hA0, hV, rfl, hfz, hnd⟩ := hW
  have hA : DataW.TrodAll enc Try.prog W 0 (fun _ => true) true Try.f7.params.toList args.toList ds p := hA0
  rw [Try.params7] at hA hval
  obtain ⟨v0, vs0, d0, ds0, p0, q0, hargs, rfl, rfl, h0, r0⟩ := trodAll_cons hA
  obtain ⟨v1, vs1, d1, ds1, p1, q1, rfl, rfl, rfl, h1, r1⟩ := trodAll_cons r0
  obtain ⟨v2, vs2, d2, ds2, p2, q2, rfl, rfl, rfl, h2, r2⟩ := trodAll_cons r1
  obtain ⟨rfl, rfl, rfl⟩ := trodAll_nil r2
  obtain rfl : args = #[v0, v1, v2] := by cases args; simp_all
  obtain ⟨rfl, rfl⟩ := trodVars_none hV
  have k0 := h0
  have lt0 : ∀ x ∈ p0, x.block < W.heap.size := by obtain ⟨m, hm⟩ := k0; exact DataW.trod_lt m _ _ _ hm
  obtain ⟨a0, rfl, e0, f0, w0⟩ := open_string Try.underlying9 (hval 0 9 v0 rfl rfl) h0
  have k1 := h1
  have lt1 : ∀ x ∈ p1, x.block < W.heap.size := by obtain ⟨m, hm⟩ := k1; exact DataW.trod_lt m _ _ _ hm
  obtain ⟨a1, rfl, e1, f1, w1⟩ := open_int Try.underlying5 (hval 1 5 v1 rfl rfl) h1
  have k2 := h2
  have lt2 : ∀ x ∈ p2, x.block < W.heap.size := by obtain ⟨m, hm⟩ := k2; exact DataW.trod_lt m _ _ _ hm
  obtain ⟨a2, len2, cap2, rfl⟩ := okWide_slice Try.underlying22 (hval 2 22 v2 rfl rfl)
  obtain ⟨z2, w2⟩ : ∃ f, IsParts W a2 len2 cap2 f := by
    obtain ⟨fuel, hf⟩ := h2
    obtain ⟨a, l, c, f, hcs, hip⟩ := open_parts hf
    simp [Value.cells] at hcs
    obtain ⟨rfl, rfl, rfl⟩ := hcs
    exact ⟨f, hip⟩
  clear hA0 hval0
  refine (walk W a0 w0 a1 w1 a2 len2 cap2 z2 w2).mono fun e W' ⟨he, bel⟩ => ?_
  subst he
  exact ⟨_, rfl, _, _, _, [], _, [], hW', trodAll_mk1 (shut_bool Try.underlying4 _), (trodAll_cons_mk (Below.trod laidOut (by kernel_rfl) (of_decide_eq_true (by kernel_rfl)) k0 bel lt0) (trodAll_cons_mk (Below.trod laidOut (by kernel_rfl) (of_decide_eq_true (by kernel_rfl)) k1 bel lt1) (trodAll_cons_mk (Below.trod laidOut (by kernel_rfl) (of_decide_eq_true (by kernel_rfl)) k2 bel lt2) trodAll_mk0))), rfl, bel.frame _, fun h => by cases h⟩

theorem over : Rows.codecStopsRow.holds Try.pinned (OpenSpec.ofChange Rows.codecStopsSpec) :=
  OpenClaim.holds_of_wide 7 Try.f7 rfl rfl rfl rfl rfl rfl rfl ⟨rfl, rfl, rfl, rfl, rfl⟩ rfl rfl rfl rfl rfl (by kernel_rfl) Try.func7 (by kernel_rfl)
    (of_decide_eq_true (by kernel_rfl)) (by unfold Func.isWrapper; first | (rw [if_pos (by decide +kernel)]; kernel_rfl) | (rw [if_neg (by decide +kernel)]; exact ⟨rfl, rfl⟩))
    (fun os started H enc _ => lifted os started H enc)

end Go.Proofs.Ytefnncihpilpdaa.codecStops
namespace Go.Proofs.Ytefnncihpilpdaa
theorem codecStops_holds : Rows.CodecStopsSaid := codecStops.over
#print axioms codecStops_holds
end Go.Proofs.Ytefnncihpilpdaa
