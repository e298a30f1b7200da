/-
  For every input the law PaywordFar (steps are told by their number: Count tells the least that leads there, and none below it does) returns true and leaves its arguments as they were. The package's two tables are as the program's text lays them (the card ties them).
-/
import Derived.Test.YtnjkikdcalfjgaaDoorPay5
import Derived.SizedLaws
namespace Go.Proofs.YtnjkikdcalfjgaaDoor.paywordFar
open Go.ChangeShapes Go.WideShapes Go.ChangeAt Go.RowKit
open Go.ChangeMaps (open_string shut_string)
open Mem Sh Num Pay
set_option linter.unusedVariables false

set_option maxHeartbeats 2000000 in
set_option maxRecDepth 100000 in
theorem walk (W : World) (hG : GL W) (s : ByteArray) (hs : s.size ≤ 140737488351232) (n : Int) (wn : (Lit.int .u8 n).wf = true) (m : Int) (wm : (Lit.int .u8 m).wf = true) :
    Calls Tryd.prog 6 #[.string s, .int .u8 n, .int .u8 m] W fun e W' => e = .returned (.bool true) ∧ Below W.heap.size W W' := by
  have HG := Lib.hid hG
  clear hG
  obtain ⟨a0, a1⟩ := bounds_u8 wn
  obtain ⟨b0, b1⟩ := bounds_u8 wm
  clear wn wm
  have hz : (16 : Nat) ≤ (s ++ ⟨#[48, 49, 50, 51, 52, 53, 54, 55, 56, 57, 97, 98, 99, 100, 101, 102]⟩ : ByteArray).size := by rw [ByteArray.size_append]; exact Nat.le_add_left _ _
  obtain ⟨z, hzz⟩ : ∃ z, (s ++ ⟨#[48, 49, 50, 51, 52, 53, 54, 55, 56, 57, 97, 98, 99, 100, 101, 102]⟩ : ByteArray) = z := ⟨_, rfl⟩
  rw [hzz] at hz
  have hz' : (16 : Int) ≤ (z.size : Int) := by omega
  obtain ⟨t, het⟩ : ∃ t, z.extract 0 16 = t := ⟨_, rfl⟩
  have zt : t.size = 16 := by rw [← het, ByteArray.size_extract]; omega
  obtain ⟨K, hK⟩ : ∃ K : Nat, n % 100 = (K : Int) := Int.eq_ofNat_of_zero_le (by omega)
  obtain ⟨M, hM⟩ : ∃ M : Nat, m % 100 = (M : Int) := Int.eq_ofNat_of_zero_le (by omega)
  have K1 : K < 100 := by omega
  have M1 : M < 100 := by omega
  obtain ⟨a, ha⟩ : ∃ z, farS t K = z := ⟨_, rfl⟩
  have za : a.size = 16 := by rw [← ha]; exact farS_size t zt _
  have FK : Hid (farA t K = a) := by show farA t K = a; rw [farA_yes t K zt (by omega)]; exact ha
  obtain ⟨r, e, hre⟩ := cntA_ex a t M
  have HR := Lib.hid hre
  have HC : CntR a t M r e := by
    rcases hre with ⟨_, _, _, _, h⟩ | ⟨hn, _, _⟩
    · rwa [Int.toNat_natCast] at h
    · exact absurd ⟨za, zt, by omega, by omega⟩ hn
  clear hre
  rcases HC with ⟨c, c1, c2, c3, rfl, rfl⟩ | ⟨n1, rfl, rfl⟩
  · have ck : c ≤ K := by
      by_cases h : K < c
      · exact absurd ha (c3 K h)
      · omega
    have FC : Hid (farA t c = a) := by show farA t c = a; rw [farA_yes t c zt (by omega)]; exact c2
    have HJ := Lib.hid c3
    have ZT := Lib.hid zt
    have c4 : (c : Int) ≤ (M : Int) := by omega
    have c5 : (c : Int) ≤ (K : Int) := by omega
    have td1 : decide (M < c) = false := by simp; omega
    have td2 : decide (K < c) = false := by simp; omega
    clear c3 c2 ha za zt
    go_enter Tryd.func6, Tryd.ntmps6
    go_wp2_with fail
    refine (far_x t a K FK.out W (Q.refl W) HG.out).mono ?_
    rintro x w1 ⟨rfl, q1⟩
    have Q1 := Lib.hid q1
    clear q1
    go_wp2_with fail
    refine (count_x a t M c 0 HR.out w1 Q1.out HG.out).mono ?_
    rintro x w2 ⟨rfl, q2⟩
    have Q2 := Lib.hid q2
    clear q2
    as_aux_lemma =>
    go_wp2_with fail
    refine (far_x t a c FC.out w2 Q2.out HG.out).mono ?_
    rintro x w3 ⟨rfl, q3⟩
    have Q3 := Lib.hid q3
    clear q3
    as_aux_lemma =>
    go_wp2_with fail
    clear hK hM het hzz
    go_loopw [13] (fun z wr => ∃ k : Nat, k ≤ c ∧ z = .int .i64 k ∧ Hid (Q W wr)) (fun z _ => c - (intOf z).toNat)
    case atStart => exact ⟨0, by omega, rfl, Q3⟩
    case round =>
      obtain ⟨k, k1, rfl, I⟩ := hrel
      have k0 : (0 : Int) ≤ (k : Int) := by omega
      by_cases hk : k < c
      · have k3 : (k : Int) < (c : Int) := by omega
        obtain ⟨x, ex⟩ : ∃ z, farA t k = z := ⟨_, rfl⟩
        have EX := Lib.hid ex
        have xa := ne_tl (show x ≠ a by rw [← ex, farA_yes t k ZT.out (by omega)]; exact HJ.out k hk)
        clear ex
        go_wp2_with fail
        refine (far_x t x k EX.out wr I.out HG.out).mono ?_
        rintro x w21 ⟨rfl, q21⟩
        have Q21 := Lib.hid q21
        clear q21
        go_wp2_with fail
        exact ⟨⟨k + 1, by omega, by go_num, Q21⟩, by simp [intOf]; omega⟩
      · have k3 : decide ((k : Int) < (c : Int)) = false := by simp; omega
        go_wp2_with fail
        refine (fixed_any wr I.out HG.out).mono ?_
        rintro x w31 ⟨rfl, q31⟩
        have Q31 := Lib.hid q31
        clear q31
        go_wp2_with fail
        go_ret
        exact ⟨rfl, Q31.out⟩
  · have mk : (M : Int) < (K : Int) := by
      by_cases h : K ≤ M
      · exact absurd ha (n1 K h)
      · omega
    clear n1 ha za zt
    go_enter Tryd.func6, Tryd.ntmps6
    go_wp2_with fail
    refine (far_x t a K FK.out W (Q.refl W) HG.out).mono ?_
    rintro x w1 ⟨rfl, q1⟩
    have Q1 := Lib.hid q1
    clear q1
    go_wp2_with fail
    refine (count_x a t M 0 4 HR.out w1 Q1.out HG.out).mono ?_
    rintro x w2 ⟨rfl, q2⟩
    have Q2 := Lib.hid q2
    clear q2
    as_aux_lemma =>
    go_wp2_with fail
    refine (fixed_any w2 Q2.out HG.out).mono ?_
    rintro x w3 ⟨rfl, q3⟩
    have Q3 := Lib.hid q3
    clear q3
    go_wp2_with fail
    go_ret
    exact ⟨rfl, Q3.out⟩

set_option maxRecDepth 100000 in
theorem lifted (os : Os) (started : os.Started) (H : Type) (enc : TypeId × Value → H) :
    ReturnsInHanded {} Tryd.checked os 6 .any (fun w args => (Rows.paywordFarSpec.pre enc Tryd.prog Tryd.f6 [] false w args ∧ laidMetH Tryd.prog laid2 w) ∧ sizedMet enc Tryd.prog Tryd.f6 (OpenSpec.ofChange Rows.paywordFarSpec) false w args)
      (Rows.paywordFarSpec.post enc Tryd.prog Tryd.f6 false true false false) := by
  refine returnsInHanded_of_change_and (C := Tryd.checked) (X := fun w _ => laidMetH Tryd.prog laid2 w) (fun _ _ _ hh h => h.of_heap hh) own started (by kernel_rfl) Tryd.func6
    (ChangeSpec.witness_shaped (enc := enc) (C := Tryd.checked) (os := os) (X := fun w _ => laidMetH Tryd.prog laid2 w) false (World.doorLaid Tryd.prog 400 os) #[.string ⟨#[]⟩, .int .u8 0, .int .u8 0] 8 rfl (World.shaped_of_RefB (by kernel_rfl) (by kernel_rfl)) (by kernel_rfl) (by kernel_rfl) (by kernel_rfl) (door_met os _)) ?_
  intro W base args ds gs before hval0 hW _ hsz0 hL _
  have hval : ∀ (j : Nat) t v, Tryd.f6.params[j]? = some t → args[j]? = some v → Value.okWide Tryd.prog W .any base t v := hval0
  have hW' := hW
  obtain ⟨p, q, hA0, hV, rfl, hfz, hnd⟩ := hW
  have hA : DataW.TrodAll enc Tryd.prog W 0 (fun _ => true) true Tryd.f6.params.toList args.toList ds p := hA0
  rw [Tryd.params6] at hA hval
  have hsz := hsz0
  rw [Tryd.params6] at hsz
  obtain ⟨v0, vs0, d0, ds0, p0, q0, hargs, rfl, rfl, h0, r0⟩ := trodAll_cons hA
  obtain ⟨v1, vs1, d1, ds1, p1, q1, rfl, rfl, rfl, h1, r1⟩ := trodAll_cons r0
  obtain ⟨v2, vs2, d2, ds2, p2, q2, rfl, rfl, rfl, h2, r2⟩ := trodAll_cons r1
  obtain ⟨rfl, rfl, rfl⟩ := trodAll_nil r2
  obtain rfl : args = #[v0, v1, v2] := by cases args; simp_all
  obtain ⟨rfl, rfl⟩ := trodVars_none hV
  have k0 := h0
  have lt0 : ∀ x ∈ p0, x.block < W.heap.size := by obtain ⟨m, hm⟩ := k0; exact DataW.trod_lt m _ _ _ hm
  obtain ⟨a0, rfl, e0, f0, w0⟩ := open_string Tryd.underlying9 (hval 0 9 v0 rfl rfl) h0
  have y0 : a0.size ≤ 140737488351232 := sized_string hsz (j := 0) (t := 9) rfl (by rw [e0]; rfl)
  have k1 := h1
  have lt1 : ∀ x ∈ p1, x.block < W.heap.size := by obtain ⟨m, hm⟩ := k1; exact DataW.trod_lt m _ _ _ hm
  obtain ⟨a1, rfl, e1, f1, w1⟩ := open_int Tryd.underlying5 (hval 1 5 v1 rfl rfl) h1
  have k2 := h2
  have lt2 : ∀ x ∈ p2, x.block < W.heap.size := by obtain ⟨m, hm⟩ := k2; exact DataW.trod_lt m _ _ _ hm
  obtain ⟨a2, rfl, e2, f2, w2⟩ := open_int Tryd.underlying5 (hval 2 5 v2 rfl rfl) h2
  clear hA0 hval0
  refine (walk W (of_laid hL) a0 y0 a1 w1 a2 w2).mono fun e W' ⟨he, bel⟩ => ?_
  subst he
  exact ⟨_, rfl, _, _, _, [], _, [], hW', trodAll_mk1 (shut_bool Tryd.underlying4 _), (trodAll_cons_mk (Below.trod laidOut (by kernel_rfl) (of_decide_eq_true (by kernel_rfl)) k0 bel lt0) (trodAll_cons_mk (Below.trod laidOut (by kernel_rfl) (of_decide_eq_true (by kernel_rfl)) k1 bel lt1) (trodAll_cons_mk (Below.trod laidOut (by kernel_rfl) (of_decide_eq_true (by kernel_rfl)) k2 bel lt2) trodAll_mk0))), rfl, bel.frame _, fun h => by cases h⟩

theorem over : Rows.paywordFarRow.holds Tryd.pinned (OpenSpec.ofChange Rows.paywordFarSpec) :=
  OpenClaim.holds_of_wide 6 Tryd.f6 rfl rfl rfl rfl rfl rfl rfl ⟨rfl, rfl, rfl, rfl, rfl⟩ rfl rfl rfl rfl rfl (by kernel_rfl) Tryd.func6 (by kernel_rfl)
    (of_decide_eq_true (by kernel_rfl)) (by unfold Func.isWrapper; first | (rw [if_pos (by decide +kernel)]; kernel_rfl) | (rw [if_neg (by decide +kernel)]; exact ⟨rfl, rfl⟩))
    (fun os started H enc _ => lifted os started H enc)

theorem card : Claim7.holds Tryd.pinned (.plain (OpenSpec.ofChange Rows.paywordFarSpec)) Rows.paywordFarCard :=
  Claim7.holds_tied_plain_at .later [] [.data, .data] true Rows.paywordFarCard.stood.harness false
    over (fun _ h => by cases h) (by kernel_rfl) (fun _ h => by cases h) paywordFar_row_tie rfl ⟨rfl, rfl⟩ (by kernel_rfl) rfl
    (fun f fn hf hfn => by
      obtain rfl : f = 6 := Option.some.inj ((show Tryd.prog.funcNamed "turnstile/turnstilelaw04.PaywordFar" = some 6 by kernel_rfl).symm.trans hf) |>.symm
      obtain rfl : fn = Tryd.f6 := (Option.some.inj (Tryd.func6.symm.trans hfn)).symm
      exact ⟨by kernel_rfl, fun j t ht => by
        rw [Tryd.params6] at ht
        have hm : t ∈ [9, 5, 5] := by simpa using Array.mem_of_getElem? ht
        have hall : ([9, 5, 5].all fun u => !Tryd.prog.wantsStandIn u) = true := by kernel_rfl
        exact (show Tryd.prog.wantsStandIn t = false by simpa using List.all_eq_true.1 hall t hm)⟩)
    (by kernel_rfl)

end Go.Proofs.YtnjkikdcalfjgaaDoor.paywordFar
namespace Go.Proofs.YtnjkikdcalfjgaaDoor
theorem paywordFar_holds : Rows.PaywordFarCardSaid := paywordFar.card
#print axioms paywordFar_holds
end Go.Proofs.YtnjkikdcalfjgaaDoor
