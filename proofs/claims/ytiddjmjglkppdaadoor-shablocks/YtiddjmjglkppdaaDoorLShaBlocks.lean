/-
  For every input the law ShaBlocks (what is taken ahead of a copy is shared) returns true and leaves its arguments as they were. The package's two tables are as the program's text lays them (the card ties them).
-/
import Derived.Test.YtiddjmjglkppdaaDoorKit5
namespace Go.Proofs.YtiddjmjglkppdaaDoor.shaBlocks
open Go.ChangeShapes Go.WideShapes Go.ChangeAt Go.RowKit
open Go.ChangeMaps (open_string shut_string)
open Mem Sh
set_option linter.unusedVariables false

set_option maxHeartbeats 1000000 in
set_option maxRecDepth 100000 in
theorem walk (W : World) (hG : GL W) (a : ByteArray) (ha : a.size ≤ maxLen) (b : ByteArray) (hb : b.size ≤ maxLen) (n : Int) (hn : (Lit.int .u8 n).wf = true) :
    Calls Tryd.prog 9 #[.string a, .string b, .int .u8 n] W fun e W' => e = .returned (.bool true) ∧ Below W.heap.size W W' := by
  have HG := Lib.hid hG
  have h1w := hG.lt
  obtain ⟨n0, n1⟩ := bounds_u8 hn
  clear hG hn
  unfold maxLen at ha hb
  have hta := cut_le a 300 300 rfl
  have htb := cut_le b 300 300 rfl
  obtain ⟨x, hxe⟩ : ∃ t, a.extract 0 (min (a.size : Int) 300).toNat = t := ⟨_, rfl⟩
  obtain ⟨y, hye⟩ : ∃ t, b.extract 0 (min (b.size : Int) 300).toNat = t := ⟨_, rfl⟩
  rw [hxe] at hta
  rw [hye] at htb
  have hxy : (x ++ y).size = x.size + y.size := by simp
  obtain ⟨f, hf⟩ : ∃ f, shaS (x ++ y) = f := ⟨_, rfl⟩
  obtain ⟨f0, hf0⟩ : ∃ f, shaS x = f := ⟨_, rfl⟩
  have HF := Lib.hid hf
  have HF0 := Lib.hid hf0
  clear hf hf0
  go_enter Tryd.func9, Tryd.ntmps9
  go_wp2_with fail
  go_region
  go_wp2_with fail
  have HGd : Hid (GL W.drew) := HG.out.q ((Q.refl W).drew)
  refine (TI.new W.drew HGd.out).mono ?_
  rintro e w1 ⟨gh, rfl, hi1⟩
  have H1 := Lib.hid hi1
  clear hi1
  go_wp2_with fail
  refine (H1.out.write h1w x (by simp; omega)).mono ?_
  rintro e w2 ⟨rfl, hi2⟩
  rw [show ByteArray.empty ++ x = x by simp] at hi2
  have H2 := Lib.hid hi2
  clear hi2 H1
  go_wp2_with fail
  refine (sum_x (x ++ y) f HF.out (by omega) H2.out.gl w2 (Q.refl w2)).mono ?_
  rintro e w3 ⟨rfl, q3⟩
  have H3 : Hid (TI W.drew gh x w3) := ⟨HR.q H2.out.hr q3, H2.out.lo, H2.out.q.trans q3, H2.out.gl.q q3⟩
  clear q3 H2
  go_wp2_with fail
  as_aux_lemma =>
  obtain ⟨m, hm, hm4⟩ : ∃ m : Nat, n % 4 = (m : Int) ∧ m ≤ 3 := ⟨(n % 4).toNat, by omega, by omega⟩
  go_loopw [11] (fun i wr => ∃ k : Nat, k ≤ m ∧ i = .int .i64 k ∧ Hid (TI W.drew gh x wr)) (fun i _ => m - (intOf i).toNat)
  case atStart => exact ⟨0, by omega, rfl, H3⟩
  case round =>
    obtain ⟨k, hk, rfl, I⟩ := hrel
    clear H3
    by_cases hlt : k < m
    · have k1 : (k : Int) < (m : Int) := by omega
      have tk : decide ((k : Int) < (m : Int)) = true := by simp; omega
      go_wp2_with fail
      refine (copy_any gh x wr I.out.hr).mono ?_
      rintro e w4 ⟨rfl, hc4, q4⟩
      have C4 : Hid (TI wr wr.heap.size x w4) := ⟨hc4, Nat.le_refl _, q4, I.out.gl.q q4⟩
      clear hc4 q4
      have h1r := I.out.gl.lt
      go_wp2_with fail
      refine (C4.out.write h1r y (by omega)).mono ?_
      rintro e w5 ⟨rfl, hi5⟩
      have C5 := Lib.hid hi5
      clear hi5 C4
      go_wp2_with fail
      refine (C5.out.sum (by omega)).mono ?_
      rintro e w6 ⟨rfl, hi6⟩
      rw [HF.out]
      have C6 := Lib.hid hi6
      clear hi6 C5
      go_wp2_with fail
      refine (len_any (W := W) wr.heap.size (x ++ y) w6 C6.out.hr).mono ?_
      rintro e w' ⟨rfl, hw⟩
      obtain rfl := hw.symm
      rw [hxy]
      have ec : ((x.size + y.size : Nat) : Int) = (x.size : Int) + (y.size : Int) := by omega
      rw [ec]
      go_wp2_with fail
      refine (len_any (W := W) gh x w6 (HR.q I.out.hr C6.out.q)).mono ?_
      rintro e w' ⟨rfl, hw⟩
      obtain rfl := hw.symm
      have I6 : Hid (TI W.drew gh x w6) := ⟨HR.q I.out.hr C6.out.q, I.out.lo, I.out.q.trans C6.out.q, I.out.gl.q C6.out.q⟩
      clear I C6
      go_wp2_with fail
      exact ⟨⟨k + 1, by omega, by go_num, I6⟩, by simp [intOf]; omega⟩
    · obtain rfl : k = m := by omega
      go_wp2_with fail
      refine (I.out.write h1w ⟨#[]⟩ (by show x.size + 0 ≤ _; omega)).mono ?_
      rintro e w4 ⟨rfl, hi4⟩
      rw [show x ++ (⟨#[]⟩ : ByteArray) = x from by show x ++ ByteArray.empty = x; simp] at hi4
      have C4 := Lib.hid hi4
      clear hi4 I
      go_wp2_with fail
      refine (C4.out.sum (by omega)).mono ?_
      rintro e w5 ⟨rfl, hi5⟩
      rw [HF0.out]
      have q5 := hi5.q
      clear hi5 C4
      go_wp2_with fail
      refine (sum_x x f0 HF0.out (by omega) HGd.out w5 q5).mono ?_
      rintro e w6 ⟨rfl, q6⟩
      go_wp2_with fail
      refine (fixed_any w6 q6 HGd.out).mono ?_
      rintro e w7 ⟨rfl, q7⟩
      go_wp2_with fail
      go_ret
      exact ⟨rfl, ((Q.refl W).drew).trans q7⟩

set_option maxRecDepth 100000 in
theorem lifted (os : Os) (started : os.Started) (H : Type) (enc : TypeId × Value → H) :
    ReturnsInHanded {} Tryd.checked os 9 .any (fun w args => (Rows.shaBlocksSpec.pre enc Tryd.prog Tryd.f9 [] false w args ∧ laidMetH Tryd.prog laid2 w) ∧ sizedMet enc Tryd.prog Tryd.f9 (OpenSpec.ofChange Rows.shaBlocksSpec) false w args)
      (Rows.shaBlocksSpec.post enc Tryd.prog Tryd.f9 false true false false) := by
  refine returnsInHanded_of_change_and (C := Tryd.checked) (X := fun w _ => laidMetH Tryd.prog laid2 w) (fun _ _ _ hh h => h.of_heap hh) own started (by kernel_rfl) Tryd.func9
    (ChangeSpec.witness_shaped (enc := enc) (C := Tryd.checked) (os := os) (X := fun w _ => laidMetH Tryd.prog laid2 w) false (World.doorLaid Tryd.prog 400 os) #[.string ⟨#[]⟩, .string ⟨#[]⟩, .int .u8 0] 8 rfl (World.shaped_of_RefB (by kernel_rfl) (by kernel_rfl)) (by kernel_rfl) (by kernel_rfl) (by kernel_rfl) (door_met os _)) ?_
  intro W base args ds gs before hval0 hW _ _ hL _
  have hval : ∀ (j : Nat) t v, Tryd.f9.params[j]? = some t → args[j]? = some v → Value.okWide Tryd.prog W .any base t v := hval0
  have hW' := hW
  obtain ⟨p, q, hA0, hV, rfl, hfz, hnd⟩ := hW
  have hA : DataW.TrodAll enc Tryd.prog W 0 (fun _ => true) true Tryd.f9.params.toList args.toList ds p := hA0
  rw [Tryd.params9] at hA hval
  obtain ⟨v0, vs0, d0, ds0, p0, q0, hargs, rfl, rfl, h0, r0⟩ := trodAll_cons hA
  obtain ⟨v1, vs1, d1, ds1, p1, q1, rfl, rfl, rfl, h1, r1⟩ := trodAll_cons r0
  obtain ⟨v2, vs2, d2, ds2, p2, q2, rfl, rfl, rfl, h2, r2⟩ := trodAll_cons r1
  obtain ⟨rfl, rfl, rfl⟩ := trodAll_nil r2
  obtain rfl : args = #[v0, v1, v2] := by cases args; simp_all
  obtain ⟨rfl, rfl⟩ := trodVars_none hV
  have k0 := h0
  have lt0 : ∀ x ∈ p0, x.block < W.heap.size := by obtain ⟨m, hm⟩ := k0; exact DataW.trod_lt m _ _ _ hm
  obtain ⟨a0, rfl, e0, f0, w0⟩ := open_string Tryd.underlying9 (hval 0 9 v0 rfl rfl) h0
  have k1 := h1
  have lt1 : ∀ x ∈ p1, x.block < W.heap.size := by obtain ⟨m, hm⟩ := k1; exact DataW.trod_lt m _ _ _ hm
  obtain ⟨a1, rfl, e1, f1, w1⟩ := open_string Tryd.underlying9 (hval 1 9 v1 rfl rfl) h1
  have k2 := h2
  have lt2 : ∀ x ∈ p2, x.block < W.heap.size := by obtain ⟨m, hm⟩ := k2; exact DataW.trod_lt m _ _ _ hm
  obtain ⟨a2, rfl, e2, f2, w2⟩ := open_int Tryd.underlying5 (hval 2 5 v2 rfl rfl) h2
  clear hA0 hval0
  refine (walk W (of_laid hL) a0 w0 a1 w1 a2 w2).mono fun e W' ⟨he, bel⟩ => ?_
  subst he
  exact ⟨_, rfl, _, _, _, [], _, [], hW', trodAll_mk1 (shut_bool Tryd.underlying4 _), (trodAll_cons_mk (Below.trod laidOut (by kernel_rfl) (of_decide_eq_true (by kernel_rfl)) k0 bel lt0) (trodAll_cons_mk (Below.trod laidOut (by kernel_rfl) (of_decide_eq_true (by kernel_rfl)) k1 bel lt1) (trodAll_cons_mk (Below.trod laidOut (by kernel_rfl) (of_decide_eq_true (by kernel_rfl)) k2 bel lt2) trodAll_mk0))), rfl, bel.frame _, fun h => by cases h⟩

theorem over : Rows.shaBlocksRow.holds Tryd.pinned (OpenSpec.ofChange Rows.shaBlocksSpec) :=
  OpenClaim.holds_of_wide 9 Tryd.f9 rfl rfl rfl rfl rfl rfl rfl ⟨rfl, rfl, rfl, rfl, rfl⟩ rfl rfl rfl rfl rfl (by kernel_rfl) Tryd.func9 (by kernel_rfl)
    (of_decide_eq_true (by kernel_rfl)) (by unfold Func.isWrapper; first | (rw [if_pos (by decide +kernel)]; kernel_rfl) | (rw [if_neg (by decide +kernel)]; exact ⟨rfl, rfl⟩))
    (fun os started H enc _ => lifted os started H enc)

theorem card : Claim7.holds Tryd.pinned (.plain (OpenSpec.ofChange Rows.shaBlocksSpec)) Rows.shaBlocksCard :=
  Claim7.holds_tied_plain_at .later [] [.data, .data] true Rows.shaBlocksCard.stood.harness false
    over (fun _ h => by cases h) (by kernel_rfl) (fun _ h => by cases h) shaBlocks_row_tie rfl ⟨rfl, rfl⟩ (by kernel_rfl) rfl
    (fun f fn hf hfn => by
      obtain rfl : f = 9 := Option.some.inj ((show Tryd.prog.funcNamed "turnstile/turnstilelaw02.ShaBlocks" = some 9 by kernel_rfl).symm.trans hf) |>.symm
      obtain rfl : fn = Tryd.f9 := (Option.some.inj (Tryd.func9.symm.trans hfn)).symm
      exact ⟨by kernel_rfl, fun j t ht => by
        rw [Tryd.params9] at ht
        have hm : t ∈ [9, 9, 5] := by simpa using Array.mem_of_getElem? ht
        have hall : ([9, 9, 5].all fun u => !Tryd.prog.wantsStandIn u) = true := by kernel_rfl
        exact (show Tryd.prog.wantsStandIn t = false by simpa using List.all_eq_true.1 hall t hm)⟩)
    (by kernel_rfl)

end Go.Proofs.YtiddjmjglkppdaaDoor.shaBlocks
namespace Go.Proofs.YtiddjmjglkppdaaDoor
theorem shaBlocks_holds : Rows.ShaBlocksCardSaid := shaBlocks.card
#print axioms shaBlocks_holds
end Go.Proofs.YtiddjmjglkppdaaDoor
