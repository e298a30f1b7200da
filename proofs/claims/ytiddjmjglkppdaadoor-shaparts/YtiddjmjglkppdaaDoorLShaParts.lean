/-
  For every input the law ShaParts (in which parts bytes are taken makes no difference) returns true and leaves its arguments as they were. The package's two tables are as the program's text lays them (the card ties them).
-/
import Derived.Test.YtiddjmjglkppdaaDoorKit5
namespace Go.Proofs.YtiddjmjglkppdaaDoor.shaParts
open Go.ChangeShapes Go.WideShapes Go.ChangeAt Go.RowKit
open Go.ChangeMaps (open_string shut_string)
open Mem Sh
set_option linter.unusedVariables false

/-- All that was taken, part by part. -/
def al (S : Nat → ByteArray) : Nat → ByteArray
  | 0 => ⟨#[]⟩
  | k + 1 => al S k ++ (S k).extract 0 (min ((S k).size : Int) 200).toNat
theorem al_size (S : Nat → ByteArray) : ∀ k, (al S k).size ≤ 200 * k
  | 0 => Nat.le_refl _
  | k + 1 => by
    have := al_size S k
    have := cut_le (S k) 200 200 rfl
    show (al S k ++ _).size ≤ _
    rw [ByteArray.size_append]; omega

set_option maxHeartbeats 2000000 in
set_option maxRecDepth 100000 in
theorem walk (W : World) (hG : GL W) (a : Option Addr) (len cap : Nat) (S : Nat → ByteArray) (hr : IsRowS W a len cap S) (b : ByteArray) (hb : b.size ≤ maxLen) :
    Calls Tryd.prog 5 #[.slice a len cap, .string b] W fun e W' => e = .returned (.bool true) ∧ Below W.heap.size W W' := by
  have HG := Lib.hid hG
  have h1w := hG.lt
  clear hG
  unfold maxLen at hb
  have htb := cut_le b 200 200 rfl
  obtain ⟨y, hye⟩ : ∃ t, b.extract 0 (min (b.size : Int) 200).toNat = t := ⟨_, rfl⟩
  rw [hye] at htb
  have hl : (len : Int) ≤ 9223372036854775807 := by
    rcases hr with ⟨_, h, _⟩ | ⟨x, _, h1, h2, _⟩
    · omega
    · unfold maxLen at h2; omega
  have HRS := Lib.hid hr
  clear hr
  obtain ⟨m, hm, hm20⟩ : ∃ m, min len 20 = m ∧ m ≤ 20 := ⟨_, rfl, by omega⟩
  have hm0 := Lib.hid hm
  go_enter Tryd.func5, Tryd.ntmps5
  go_wp2_with fail
  refine (TI.new W HG.out).mono ?_
  rintro e w1 ⟨gh, rfl, hi1⟩
  have H1 : Hid (TI W gh (al S 0) w1) := hi1
  clear hi1
  go_wp2_with fail
  as_aux_lemma =>
  go_loopw [6, 7] (fun v i wr => ∃ k : Nat, k ≤ m ∧ i = .int .i64 k ∧ v = .string (al S k) ∧ Hid (TI W gh (al S k) wr)) (fun _ i _ => m - (intOf i).toNat)
  case atStart => exact ⟨0, by omega, rfl, rfl, H1⟩
  case round =>
    obtain ⟨k, hk, rfl, rfl, I⟩ := hrel
    clear H1
    have hz := al_size S k
    have hz4 : (al S k).size ≤ 4000 := by omega
    clear hz
    by_cases hlt : k < m
    · have kl : k < len := by have := hm0.out; omega
      have k20 : k < 20 := by omega
      have k1 : (k : Int) < (len : Int) := by omega
      have k2 : (k : Int) < 20 := by omega
      have t1 : decide ((k : Int) < (len : Int)) = true := by simp; omega
      have t2 : decide ((k : Int) < 20) = true := by simp; omega
      obtain ⟨x, rfl, hcx, hsx⟩ : ∃ x, a = some x ∧ wr.cell? (x.add k) = some (.string (S k)) ∧ (S k).size ≤ 2 ^ 63 - 1 := by
        rcases HRS.out with ⟨_, h, _⟩ | ⟨x, h0, h1, h2, h3⟩
        · omega
        · obtain ⟨h4, h5⟩ := h3 k kl
          refine ⟨x, h0, ?_, h5⟩
          rw [I.out.q.cell (p := x.add k) (World.block_lt_of_cell? _ _ h4)]
          exact h4
      have HS : Hid (al S (k + 1) = al S k ++ (S k).extract 0 (min ((S k).size : Int) 200).toNat) := rfl
      have hp := cut_le (S k) 200 200 rfl
      generalize S k = sk at *
      obtain ⟨p, hpe⟩ : ∃ t, sk.extract 0 (min (sk.size : Int) 200).toNat = t := ⟨_, rfl⟩
      rw [hpe] at hp HS
      obtain ⟨A, hA⟩ : ∃ A, al S k = A := ⟨_, rfl⟩
      obtain ⟨A', hA'⟩ : ∃ A, al S (k + 1) = A := ⟨_, rfl⟩
      rw [hA] at hz4 I
      rw [hA, hA'] at HS
      have EA := Lib.hid hA
      have EA' := Lib.hid hA'
      rw [hA]
      clear hA hA'
      have hA's : A'.size ≤ 4200 := by rw [HS.out, ByteArray.size_append]; omega
      have hAs : (A ++ p) = A' := HS.out.symm
      obtain ⟨f, hf⟩ : ∃ f, shaS A' = f := ⟨_, rfl⟩
      have HF := Lib.hid hf
      clear hf HS
      go_wp2_with fail
      go_region
      have ID : Hid (TI W gh A wr.drew) := ⟨HR.q I.out.hr (Q.refl _).drew, I.out.lo, I.out.q.drew, I.out.gl.q (Q.refl _).drew⟩
      clear I hcx
      go_wp2_with fail
      refine (ID.out.write h1w p (by omega)).mono ?_
      rintro e w2 ⟨rfl, hi2⟩
      rw [hAs] at hi2
      have C2 := Lib.hid hi2
      clear hi2 ID
      go_wp2_with fail
      refine (C2.out.sum (by omega)).mono ?_
      rintro e w3 ⟨rfl, hi3⟩
      rw [HF.out]
      have C3 := Lib.hid hi3
      clear hi3 C2
      go_wp2_with fail
      refine (sum_x A' f HF.out (by omega) C3.out.gl w3 (Q.refl _)).mono ?_
      rintro e w4 ⟨rfl, q4⟩
      have C4 : Hid (TI W gh A' w4) := ⟨HR.q C3.out.hr q4, C3.out.lo, C3.out.q.trans q4, C3.out.gl.q q4⟩
      clear q4 C3
      go_wp2_with fail
      refine (len_any (W := W) gh A' w4 C4.out.hr).mono ?_
      rintro e w' ⟨rfl, hw⟩
      obtain rfl := hw.symm
      go_wp2_with fail
      exact ⟨⟨k + 1, by omega, by go_num, by rw [EA'.out], by rw [EA'.out]; exact C4⟩, by simp [intOf]; omega⟩
    · obtain rfl : k = m := by omega
      have hx : ¬ ((k : Int) < (len : Int) ∧ (k : Int) < 20) := by have := hm0.out; omega
      obtain ⟨A, hA⟩ : ∃ A, al S k = A := ⟨_, rfl⟩
      rw [hA] at hz4 I
      rw [hA]
      clear hA
      have hAy : (A ++ y).size = A.size + y.size := by simp
      obtain ⟨f, hf⟩ : ∃ f, shaS (A ++ y) = f := ⟨_, rfl⟩
      obtain ⟨f0, hf0⟩ : ∃ f, shaS A = f := ⟨_, rfl⟩
      have HF := Lib.hid hf
      have HF0 := Lib.hid hf0
      have h1r := I.out.gl.lt
      clear hf hf0
      have hm1 := hm0.out
      clear hm0
      by_cases c : (k : Int) < (len : Int)
      · have c2 : ¬ (k : Int) < 20 := by omega
        have t1 : decide ((k : Int) < (len : Int)) = true := by simp; omega
        have t2 : decide ((k : Int) < 20) = false := by simp; omega
        clear hx
        go_wp2_with fail
        refine (copy_any gh A wr I.out.hr).mono ?_
        rintro e w2 ⟨rfl, hc2, q2⟩
        have C2 : Hid (TI wr wr.heap.size A w2) := ⟨hc2, Nat.le_refl _, q2, I.out.gl.q q2⟩
        clear hc2 q2
        go_wp2_with fail
        refine (C2.out.write h1r y (by omega)).mono ?_
        rintro e w3 ⟨rfl, hi3⟩
        have C3 := Lib.hid hi3
        clear hi3 C2
        go_wp2_with fail
        refine (C3.out.sum (by omega)).mono ?_
        rintro e w4 ⟨rfl, hi4⟩
        rw [HF.out]
        have C4 := Lib.hid hi4
        clear hi4 C3
        go_wp2_with fail
        refine (sum_x (A ++ y) f HF.out (by omega) C4.out.gl w4 (Q.refl _)).mono ?_
        rintro e w5 ⟨rfl, q5⟩
        have C5 : Hid (TI wr wr.heap.size (A ++ y) w5) := ⟨HR.q C4.out.hr q5, C4.out.lo, C4.out.q.trans q5, C4.out.gl.q q5⟩
        clear q5 C4
        go_wp2_with fail
        refine (hsum_any gh A w5 (HR.q I.out.hr C5.out.q) C5.out.gl (by omega)).mono ?_
        rintro e w6 ⟨rfl, q6⟩
        rw [HF0.out]
        have C6 : Hid (TI wr wr.heap.size (A ++ y) w6) := ⟨HR.q C5.out.hr q6, C5.out.lo, C5.out.q.trans q6, C5.out.gl.q q6⟩
        clear q6 C5
        go_wp2_with fail
        refine (sum_x A f0 HF0.out (by omega) C6.out.gl w6 (Q.refl _)).mono ?_
        rintro e w7 ⟨rfl, q7⟩
        have C7 : Hid (TI wr wr.heap.size (A ++ y) w7) := ⟨HR.q C6.out.hr q7, C6.out.lo, C6.out.q.trans q7, C6.out.gl.q q7⟩
        clear q7 C6
        go_wp2_with fail
        refine (len_any (W := W) gh A w7 (HR.q I.out.hr C7.out.q)).mono ?_
        rintro e w' ⟨rfl, hw⟩
        obtain rfl := hw.symm
        go_wp2_with fail
        refine (len_any (W := W) wr.heap.size (A ++ y) w7 C7.out.hr).mono ?_
        rintro e w' ⟨rfl, hw⟩
        obtain rfl := hw.symm
        rw [hAy, show ((A.size + y.size : Nat) : Int) = (A.size : Int) + (y.size : Int) by omega]
        go_wp2_with fail
        refine (fixed_any (W := wr) w7 C7.out.q I.out.gl).mono ?_
        rintro e w8 ⟨rfl, q8⟩
        go_wp2_with fail
        go_ret
        exact ⟨rfl, I.out.q.trans q8⟩
      · have t1 : decide ((k : Int) < (len : Int)) = false := by simp; omega
        clear hx
        go_wp2_with fail
        refine (copy_any gh A wr I.out.hr).mono ?_
        rintro e w2 ⟨rfl, hc2, q2⟩
        have C2 : Hid (TI wr wr.heap.size A w2) := ⟨hc2, Nat.le_refl _, q2, I.out.gl.q q2⟩
        clear hc2 q2
        go_wp2_with fail
        refine (C2.out.write h1r y (by omega)).mono ?_
        rintro e w3 ⟨rfl, hi3⟩
        have C3 := Lib.hid hi3
        clear hi3 C2
        go_wp2_with fail
        refine (C3.out.sum (by omega)).mono ?_
        rintro e w4 ⟨rfl, hi4⟩
        rw [HF.out]
        have C4 := Lib.hid hi4
        clear hi4 C3
        go_wp2_with fail
        refine (sum_x (A ++ y) f HF.out (by omega) C4.out.gl w4 (Q.refl _)).mono ?_
        rintro e w5 ⟨rfl, q5⟩
        have C5 : Hid (TI wr wr.heap.size (A ++ y) w5) := ⟨HR.q C4.out.hr q5, C4.out.lo, C4.out.q.trans q5, C4.out.gl.q q5⟩
        clear q5 C4
        go_wp2_with fail
        refine (hsum_any gh A w5 (HR.q I.out.hr C5.out.q) C5.out.gl (by omega)).mono ?_
        rintro e w6 ⟨rfl, q6⟩
        rw [HF0.out]
        have C6 : Hid (TI wr wr.heap.size (A ++ y) w6) := ⟨HR.q C5.out.hr q6, C5.out.lo, C5.out.q.trans q6, C5.out.gl.q q6⟩
        clear q6 C5
        go_wp2_with fail
        refine (sum_x A f0 HF0.out (by omega) C6.out.gl w6 (Q.refl _)).mono ?_
        rintro e w7 ⟨rfl, q7⟩
        have C7 : Hid (TI wr wr.heap.size (A ++ y) w7) := ⟨HR.q C6.out.hr q7, C6.out.lo, C6.out.q.trans q7, C6.out.gl.q q7⟩
        clear q7 C6
        go_wp2_with fail
        refine (len_any (W := W) gh A w7 (HR.q I.out.hr C7.out.q)).mono ?_
        rintro e w' ⟨rfl, hw⟩
        obtain rfl := hw.symm
        go_wp2_with fail
        refine (len_any (W := W) wr.heap.size (A ++ y) w7 C7.out.hr).mono ?_
        rintro e w' ⟨rfl, hw⟩
        obtain rfl := hw.symm
        rw [hAy, show ((A.size + y.size : Nat) : Int) = (A.size : Int) + (y.size : Int) by omega]
        go_wp2_with fail
        refine (fixed_any (W := wr) w7 C7.out.q I.out.gl).mono ?_
        rintro e w8 ⟨rfl, q8⟩
        go_wp2_with fail
        go_ret
        exact ⟨rfl, I.out.q.trans q8⟩

set_option maxRecDepth 100000 in
theorem lifted (os : Os) (started : os.Started) (H : Type) (enc : TypeId × Value → H) :
    ReturnsInHanded {} Tryd.checked os 5 .any (fun w args => (Rows.shaPartsSpec.pre enc Tryd.prog Tryd.f5 [] false w args ∧ laidMetH Tryd.prog laid2 w) ∧ sizedMet enc Tryd.prog Tryd.f5 (OpenSpec.ofChange Rows.shaPartsSpec) false w args)
      (Rows.shaPartsSpec.post enc Tryd.prog Tryd.f5 false true false false) := by
  refine returnsInHanded_of_change_and (C := Tryd.checked) (X := fun w _ => laidMetH Tryd.prog laid2 w) (fun _ _ _ hh h => h.of_heap hh) own started (by kernel_rfl) Tryd.func5
    (ChangeSpec.witness_shaped (enc := enc) (C := Tryd.checked) (os := os) (X := fun w _ => laidMetH Tryd.prog laid2 w) false (World.doorLaid Tryd.prog 400 os) #[.slice none 0 0, .string ⟨#[]⟩] 8 rfl (World.shaped_of_RefB (by kernel_rfl) (by kernel_rfl)) (by kernel_rfl) (by kernel_rfl) (by kernel_rfl) (door_met os _)) ?_
  intro W base args ds gs before hval0 hW _ _ hL _
  have hval : ∀ (j : Nat) t v, Tryd.f5.params[j]? = some t → args[j]? = some v → Value.okWide Tryd.prog W .any base t v := hval0
  have hW' := hW
  obtain ⟨p, q, hA0, hV, rfl, hfz, hnd⟩ := hW
  have hA : DataW.TrodAll enc Tryd.prog W 0 (fun _ => true) true Tryd.f5.params.toList args.toList ds p := hA0
  rw [Tryd.params5] at hA hval
  obtain ⟨v0, vs0, d0, ds0, p0, q0, hargs, rfl, rfl, h0, r0⟩ := trodAll_cons hA
  obtain ⟨v1, vs1, d1, ds1, p1, q1, rfl, rfl, rfl, h1, r1⟩ := trodAll_cons r0
  obtain ⟨rfl, rfl, rfl⟩ := trodAll_nil r1
  obtain rfl : args = #[v0, v1] := by cases args; simp_all
  obtain ⟨rfl, rfl⟩ := trodVars_none hV
  have k0 := h0
  have lt0 : ∀ x ∈ p0, x.block < W.heap.size := by obtain ⟨m, hm⟩ := k0; exact DataW.trod_lt m _ _ _ hm
  obtain ⟨a0, len0, cap0, rfl⟩ := okWide_slice Tryd.underlying25 (hval 0 25 v0 rfl rfl)
  obtain ⟨z0, w0⟩ : ∃ zs, IsRowS W a0 len0 cap0 zs := by
    obtain ⟨fuel, hf⟩ := h0
    rcases Deep.open_strs Tryd.underlying25 Tryd.underlying9 (by kernel_rfl) hf with ⟨hcs, _⟩ | ⟨x, l, c, m, S, hcs, _, hl, hm, hmm, _, hcell⟩
    · simp [Value.cells] at hcs
      obtain ⟨rfl, rfl, rfl⟩ := hcs
      exact ⟨fun _ => ByteArray.empty, .inl ⟨rfl, rfl, rfl⟩⟩
    · simp [Value.cells] at hcs
      obtain ⟨rfl, rfl, rfl⟩ := hcs
      refine ⟨S, .inr ⟨_, rfl, hl, hm, fun i hi => hcell i ?_⟩⟩
      rw [hmm]; split <;> omega
  have k1 := h1
  have lt1 : ∀ x ∈ p1, x.block < W.heap.size := by obtain ⟨m, hm⟩ := k1; exact DataW.trod_lt m _ _ _ hm
  obtain ⟨a1, rfl, e1, f1, w1⟩ := open_string Tryd.underlying9 (hval 1 9 v1 rfl rfl) h1
  clear hA0 hval0
  refine (walk W (of_laid hL) a0 len0 cap0 z0 w0 a1 w1).mono fun e W' ⟨he, bel⟩ => ?_
  subst he
  exact ⟨_, rfl, _, _, _, [], _, [], hW', trodAll_mk1 (shut_bool Tryd.underlying4 _), (trodAll_cons_mk (Below.trod laidOut (by kernel_rfl) (of_decide_eq_true (by kernel_rfl)) k0 bel lt0) (trodAll_cons_mk (Below.trod laidOut (by kernel_rfl) (of_decide_eq_true (by kernel_rfl)) k1 bel lt1) trodAll_mk0)), rfl, bel.frame _, fun h => by cases h⟩

theorem over : Rows.shaPartsRow.holds Tryd.pinned (OpenSpec.ofChange Rows.shaPartsSpec) :=
  OpenClaim.holds_of_wide 5 Tryd.f5 rfl rfl rfl rfl rfl rfl rfl ⟨rfl, rfl, rfl, rfl, rfl⟩ rfl rfl rfl rfl rfl (by kernel_rfl) Tryd.func5 (by kernel_rfl)
    (of_decide_eq_true (by kernel_rfl)) (by unfold Func.isWrapper; first | (rw [if_pos (by decide +kernel)]; kernel_rfl) | (rw [if_neg (by decide +kernel)]; exact ⟨rfl, rfl⟩))
    (fun os started H enc _ => lifted os started H enc)

theorem card : Claim7.holds Tryd.pinned (.plain (OpenSpec.ofChange Rows.shaPartsSpec)) Rows.shaPartsCard :=
  Claim7.holds_tied_plain_at .later [] [.data, .data] true Rows.shaPartsCard.stood.harness false
    over (fun _ h => by cases h) (by kernel_rfl) (fun _ h => by cases h) shaParts_row_tie rfl ⟨rfl, rfl⟩ (by kernel_rfl) rfl
    (fun f fn hf hfn => by
      obtain rfl : f = 5 := Option.some.inj ((show Tryd.prog.funcNamed "turnstile/turnstilelaw02.ShaParts" = some 5 by kernel_rfl).symm.trans hf) |>.symm
      obtain rfl : fn = Tryd.f5 := (Option.some.inj (Tryd.func5.symm.trans hfn)).symm
      exact ⟨by kernel_rfl, fun j t ht => by
        rw [Tryd.params5] at ht
        have hm : t ∈ [25, 9] := by simpa using Array.mem_of_getElem? ht
        have hall : ([25, 9].all fun u => !Tryd.prog.wantsStandIn u) = true := by kernel_rfl
        exact (show Tryd.prog.wantsStandIn t = false by simpa using List.all_eq_true.1 hall t hm)⟩)
    (by kernel_rfl)

end Go.Proofs.YtiddjmjglkppdaaDoor.shaParts
namespace Go.Proofs.YtiddjmjglkppdaaDoor
theorem shaParts_holds : Rows.ShaPartsCardSaid := shaParts.card
#print axioms shaParts_holds
end Go.Proofs.YtiddjmjglkppdaaDoor
