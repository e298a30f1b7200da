/-
  For every input the law ShaHex (bytes in base 16 are told apart) returns true and leaves its arguments as they were. The package's two tables are as the program's text lays them (the card ties them).
-/
import Derived.Test.YtiddjmjglkppdaaDoorKit5
namespace Go.Proofs.YtiddjmjglkppdaaDoor.shaHex
open Go.ChangeShapes Go.WideShapes Go.ChangeAt Go.RowKit
open Go.ChangeMaps (open_string shut_string)
open Mem Sh
set_option linter.unusedVariables false

theorem hexS_size (s : ByteArray) : (hexS s).size = 2 * s.size := by unfold hexS; rw [strOfNums_size, hexL_len, sb_len]
theorem hexL_get : ∀ (l : List Int) (i : Nat), i < l.length → (hexL l)[2 * i]? = some (hd (l.getD i 0 / 16)) ∧ (hexL l)[2 * i + 1]? = some (hd (l.getD i 0 % 16))
  | [], _, h => by simp at h
  | x :: r, 0, _ => ⟨rfl, rfl⟩
  | x :: r, i + 1, h => by
    have := hexL_get r i (by simpa using h)
    rw [show 2 * (i + 1) = 2 * i + 1 + 1 by omega]
    simpa [hexL] using this
theorem hex_at (s : ByteArray) (i : Nat) (h : i < s.size) : PlainAid.bt (hexS s) (2 * i) = hd (PlainAid.bt s i / 16) ∧ PlainAid.bt (hexS s) (2 * i + 1) = hd (PlainAid.bt s i % 16) := by
  have e : (sb s).getD i 0 = PlainAid.bt s i := by rw [List.getD_eq_getElem?_getD, sb_get s i h]; rfl
  obtain ⟨h1, h2⟩ := hexL_get (sb s) i (by rw [sb_len]; exact h)
  rw [e] at h1 h2
  have b : sb (hexS s) = hexL (sb s) := sb_nums _ (hexL_byts _ (sb_byts s))
  have a1 := sb_get (hexS s) (2 * i) (by rw [hexS_size]; omega)
  have a2 := sb_get (hexS s) (2 * i + 1) (by rw [hexS_size]; omega)
  rw [b, h1] at a1
  rw [b, h2] at a2
  exact ⟨(Option.some.inj a1).symm, (Option.some.inj a2).symm⟩

set_option maxHeartbeats 1000000 in
theorem walk (W : World) (hG : GL W) (s : ByteArray) (hs : s.size ≤ maxLen) :
    Calls Tryd.prog 7 #[.string s] W fun e W' => e = .returned (.bool true) ∧ Below W.heap.size W W' := by
  have HG := Lib.hid hG
  clear hG
  unfold maxLen at hs
  have ht := cut_le s 300 300 rfl
  obtain ⟨t, het⟩ : ∃ t, s.extract 0 (min (s.size : Int) 300).toNat = t := ⟨_, rfl⟩
  have hts : t.size ≤ 300 := by rw [← het]; omega
  clear ht
  obtain ⟨z, hz⟩ : ∃ x, hexS t = x := ⟨_, rfl⟩
  have HZ := Lib.hid hz
  have zs : z.size = 2 * t.size := by rw [← hz]; exact hexS_size t
  have HA : Hid (∀ i, i < t.size → PlainAid.bt z (2 * i) = hd (PlainAid.bt t i / 16) ∧ PlainAid.bt z (2 * i + 1) = hd (PlainAid.bt t i % 16)) := by rw [← hz]; exact hex_at t
  have hb := PlainAid.get_bt t
  have hb' := PlainAid.get_bt z
  clear hz
  go_enter Tryd.func7, Tryd.ntmps7
  go_wp2_with fail
  refine (hex_x t z HZ.out (by omega) W (Q.refl W)).mono ?_
  rintro e w1 ⟨rfl, q1⟩
  go_wp2_with fail
  go_loopw [4] (fun i wr => ∃ k : Nat, k ≤ t.size ∧ i = .int .i64 k ∧ Hid (Q W wr)) (fun i _ => t.size - (intOf i).toNat)
  case atStart => exact ⟨0, by omega, rfl, q1⟩
  case round =>
    obtain ⟨k, hk, rfl, HQ⟩ := hrel
    clear q1
    by_cases hlt : k < t.size
    · have k0 : (0 : Int) ≤ (k : Int) := by omega
      have k1 : (k : Int) < (t.size : Int) := by omega
      have tk : decide ((k : Int) < (t.size : Int)) = true := by simp; omega
      have x0 := PlainAid.bt_nonneg t k
      have x1 := PlainAid.bt_le t k
      obtain ⟨ta, tb⟩ := HA.out k hlt
      obtain ⟨x, hx⟩ : ∃ x, PlainAid.bt t k = x := ⟨_, rfl⟩
      obtain ⟨xa, xe⟩ : ∃ y, x / 16 = y := ⟨_, rfl⟩
      obtain ⟨xb, xf⟩ : ∃ y, x % 16 = y := ⟨_, rfl⟩
      rw [hx, xe] at ta
      rw [hx, xf] at tb
      rw [hx] at x0 x1
      have a0 : 0 ≤ xa ∧ xa ≤ 15 := by omega
      have b0 : 0 ≤ xb ∧ xb ≤ 15 := by omega
      obtain ⟨a0, a1⟩ := a0
      obtain ⟨b0, b1⟩ := b0
      have hsum : xa * 16 + xb = x := by omega
      obtain ⟨da, hda⟩ : ∃ y, hd xa = y := ⟨_, rfl⟩
      obtain ⟨db, hdb⟩ : ∃ y, hd xb = y := ⟨_, rfl⟩
      obtain ⟨p0, p1⟩ := hd_bd xa a0 a1
      obtain ⟨r0, r1⟩ := hd_bd xb b0 b1
      have ga := digS_hd xa a0 a1
      have gb := digS_hd xb b0 b1
      rw [hda] at ta p0 p1 ga
      rw [hdb] at tb r0 r1 gb
      clear xe xf hda hdb
      go_wp2_with fail
      go_quiet ((go_at_call 24; exact Calls.quiet_of (digit_q _ (by assumption) (by assumption) _)))
      rename_i nq
      go_wp2_with fail
      exact ⟨⟨k + 1, by omega, by go_num, HQ.out.drewN nq⟩, by simp [intOf]; omega⟩
    · obtain rfl : k = t.size := by omega
      go_wp2_with fail
      refine (fixed_any wr HQ.out HG.out).mono ?_
      rintro e w2 ⟨rfl, q2⟩
      go_wp2_with fail
      go_ret
      exact ⟨rfl, q2⟩

set_option maxRecDepth 100000 in
theorem lifted (os : Os) (started : os.Started) (H : Type) (enc : TypeId × Value → H) :
    ReturnsInHanded {} Tryd.checked os 7 .any (fun w args => (Rows.shaHexSpec.pre enc Tryd.prog Tryd.f7 [] false w args ∧ laidMetH Tryd.prog laid2 w) ∧ sizedMet enc Tryd.prog Tryd.f7 (OpenSpec.ofChange Rows.shaHexSpec) false w args)
      (Rows.shaHexSpec.post enc Tryd.prog Tryd.f7 false true false false) := by
  refine returnsInHanded_of_change_and (C := Tryd.checked) (X := fun w _ => laidMetH Tryd.prog laid2 w) (fun _ _ _ hh h => h.of_heap hh) own started (by kernel_rfl) Tryd.func7
    (ChangeSpec.witness_shaped (enc := enc) (C := Tryd.checked) (os := os) (X := fun w _ => laidMetH Tryd.prog laid2 w) false (World.doorLaid Tryd.prog 400 os) #[.string ⟨#[]⟩] 8 rfl (World.shaped_of_RefB (by kernel_rfl) (by kernel_rfl)) (by kernel_rfl) (by kernel_rfl) (by kernel_rfl) (door_met os _)) ?_
  intro W base args ds gs before hval0 hW _ _ hL _
  have hval : ∀ (j : Nat) t v, Tryd.f7.params[j]? = some t → args[j]? = some v → Value.okWide Tryd.prog W .any base t v := hval0
  have hW' := hW
  obtain ⟨p, q, hA0, hV, rfl, hfz, hnd⟩ := hW
  have hA : DataW.TrodAll enc Tryd.prog W 0 (fun _ => true) true Tryd.f7.params.toList args.toList ds p := hA0
  rw [Tryd.params7] at hA hval
  obtain ⟨v0, vs0, d0, ds0, p0, q0, hargs, rfl, rfl, h0, r0⟩ := trodAll_cons hA
  obtain ⟨rfl, rfl, rfl⟩ := trodAll_nil r0
  obtain rfl : args = #[v0] := by cases args; simp_all
  obtain ⟨rfl, rfl⟩ := trodVars_none hV
  have k0 := h0
  have lt0 : ∀ x ∈ p0, x.block < W.heap.size := by obtain ⟨m, hm⟩ := k0; exact DataW.trod_lt m _ _ _ hm
  obtain ⟨a0, rfl, e0, f0, w0⟩ := open_string Tryd.underlying9 (hval 0 9 v0 rfl rfl) h0
  clear hA0 hval0
  refine (walk W (of_laid hL) a0 w0).mono fun e W' ⟨he, bel⟩ => ?_
  subst he
  exact ⟨_, rfl, _, _, _, [], _, [], hW', trodAll_mk1 (shut_bool Tryd.underlying4 _), (trodAll_cons_mk (Below.trod laidOut (by kernel_rfl) (of_decide_eq_true (by kernel_rfl)) k0 bel lt0) trodAll_mk0), rfl, bel.frame _, fun h => by cases h⟩

theorem over : Rows.shaHexRow.holds Tryd.pinned (OpenSpec.ofChange Rows.shaHexSpec) :=
  OpenClaim.holds_of_wide 7 Tryd.f7 rfl rfl rfl rfl rfl rfl rfl ⟨rfl, rfl, rfl, rfl, rfl⟩ rfl rfl rfl rfl rfl (by kernel_rfl) Tryd.func7 (by kernel_rfl)
    (of_decide_eq_true (by kernel_rfl)) (by unfold Func.isWrapper; first | (rw [if_pos (by decide +kernel)]; kernel_rfl) | (rw [if_neg (by decide +kernel)]; exact ⟨rfl, rfl⟩))
    (fun os started H enc _ => lifted os started H enc)

theorem card : Claim7.holds Tryd.pinned (.plain (OpenSpec.ofChange Rows.shaHexSpec)) Rows.shaHexCard :=
  Claim7.holds_tied_plain_at .later [] [.data, .data] true Rows.shaHexCard.stood.harness false
    over (fun _ h => by cases h) (by kernel_rfl) (fun _ h => by cases h) shaHex_row_tie rfl ⟨rfl, rfl⟩ (by kernel_rfl) rfl
    (fun f fn hf hfn => by
      obtain rfl : f = 7 := Option.some.inj ((show Tryd.prog.funcNamed "turnstile/turnstilelaw02.ShaHex" = some 7 by kernel_rfl).symm.trans hf) |>.symm
      obtain rfl : fn = Tryd.f7 := (Option.some.inj (Tryd.func7.symm.trans hfn)).symm
      exact ⟨by kernel_rfl, fun j t ht => by
        rw [Tryd.params7] at ht
        have hm : t ∈ [9] := by simpa using Array.mem_of_getElem? ht
        have hall : ([9].all fun u => !Tryd.prog.wantsStandIn u) = true := by kernel_rfl
        exact (show Tryd.prog.wantsStandIn t = false by simpa using List.all_eq_true.1 hall t hm)⟩)
    (by kernel_rfl)

end Go.Proofs.YtiddjmjglkppdaaDoor.shaHex
namespace Go.Proofs.YtiddjmjglkppdaaDoor
theorem shaHex_holds : Rows.ShaHexCardSaid := shaHex.card
#print axioms shaHex_holds
end Go.Proofs.YtiddjmjglkppdaaDoor
