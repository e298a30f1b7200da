/-
  For every input the law CodecShort (what is written, cut off anywhere, is not read to its end without an error; what is wrong is that it is short) returns true and leaves its arguments as they were. No condition.
-/
import Derived.Test.YtefnncihpilpdaaCodS
namespace Go.Proofs.Ytefnncihpilpdaa.codecShort
open Go.ChangeShapes Go.WideShapes Go.ChangeAt Go.RowKit
open Go.ChangeMaps (open_string shut_string)
open Mem Num Cod
set_option linter.unusedVariables false

set_option maxHeartbeats 4000000 in
set_option maxRecDepth 100000 in
theorem walk (W : World) (a : Option Addr) (len cap : Nat) (f : Nat → Pt) (hp : IsParts W a len cap f) (at_ : Int) (wat : (Lit.int .i64 at_).wf = true) :
    Calls Try.prog 6 #[.slice a len cap, .int .i64 at_] W fun e W' => e = .returned (.bool true) ∧ Below W.heap.size W W' := by
  have HP := Lib.hid hp
  clear hp wat
  have hbits := i64_and20 at_
  go_enter Try.func6, Try.ntmps6
  go_wp2_with fail
  refine (cut_any a len cap f HP.out W (Q.refl W)).mono ?_
  rintro r w1 ⟨g, c, rfl, hg1, hg2, hrow, q1⟩
  have HR := Lib.hid hrow
  have I0 := Lib.hid (GI.start w1 28 33)
  have O0 := Lib.hid (own_start w1 (newO 28) 33)
  unfold newO at I0 O0
  have Q1 := Lib.hid q1
  have HM : min len 20 ≤ 20 := by omega
  obtain ⟨i0, hi0, hz0, hz1, hz2⟩ := info_parts infoP
  clear hrow q1 hg1 hg2 HP
  generalize min len 20 = m at *
  go_wp2_with fail
  go_loopw [6, 7] (fun v i wr => ∃ (k g3 c3 : Nat) (l : List Pt), k ≤ m ∧ i = .int .i64 k ∧ v = .slice (some ⟨g3, 0, none⟩) l.length c3 ∧ Hid (wr.ownsRow (w1.heap.size + 1) 33 3 v l.length (pl l)) ∧ Hid (GI w1 w1.heap.size g3 l k wr)) (fun _ i _ => m - (intOf i).toNat)
  case atStart => exact ⟨0, _, _, [], by omega, rfl, rfl, O0, I0⟩
  case round =>
    obtain ⟨k, g3, c3, l, hk, rfl, rfl, HO, HI0⟩ := hrel
    clear I0 O0
    by_cases hlt : k < m
    · as_aux_lemma =>
      obtain ⟨b0, b1, b2⟩ := HR.out.q HI0.out.q k hlt
      have HB : Hid (∀ w', Q w1 w' → w'.cell? ⟨g, k * 3, none⟩ = some (.int .i64 (cutP (f k)).k) ∧ w'.cell? ⟨g, k * 3 + 1, none⟩ = some (.int .i64 (cutP (f k)).n) ∧ w'.cell? ⟨g, k * 3 + 2, none⟩ = some (.string (cutP (f k)).s)) := fun w' q => by
        have := HR.out.q q k hlt
        rw [Nat.zero_add] at this
        exact this
      have HL := Lib.hid (cutP_size (f k))
      dsimp only at b0 b1 b2
      rw [Nat.zero_add] at b0 b1 b2
      generalize cutP (f k) = p at *
      go_wp2_with fail
      refine (right_p p wr).mono ?_
      rintro r w2 ⟨rfl, q2⟩
      have HI1 := Lib.hid (HI0.out.up q2)
      have HO1 := Lib.hid (own_q HO.out q2)
      clear HI0 HO q2 b0 b1 b2
      by_cases hR : pR p = true
      · rw [hR]
        have HG : Hid p.good := ⟨(pR_iff p).1 hR, HL.out⟩
        clear hR
        obtain ⟨b0, b1, b2⟩ := HB.out _ HI1.out.q
        have HTS : Hid ((txt l).size ≤ 100000000) := by have := HI1.out.sz; show _ ≤ _; omega
        have hln := HI1.out.len
        go_wp2_with fail
        refine (put_p _ _ _ _ p _ HI1.out.wr HTS.out (Nat.le_trans HL.out (by decide))).mono ?_
        intro r w3 h3
        obtain rfl : r = .returned (.tuple #[]) := h3.1
        have hpt := HI1.out.put HG.out h3
        have HW := Lib.hid hpt
        have HO3 := Lib.hid (own_ch HO1.out hpt.2.2.2 (Nat.lt_succ_self _))
        have h31 := hpt.2.1.size
        clear h3 hpt HO1 b0 b1 b2
        obtain ⟨b0, b1, b2⟩ := HB.out _ HW.out.2.1
        go_wp2_with (at_builtin; refine halt ?_)
        clear b0 b1 b2
        refine Lib.hid (wpList_append_own _ rfl (.tmp 33) (.tmp 38) 22 rfl (w1.heap.size + 1) 33 i0 (.agg #[.int .i64 0, .int .i64 0, .string ⟨#[]⟩]) 3 32 Try.underlying22 hi0 hz0 hz1 hz2 rfl (by decide) _ _ _ rfl (HO3.out.alloc _) ⟨w3.heap.size, 0, none⟩ 1 1 [.int .i64 p.k, .int .i64 p.n, .string p.s] rfl rfl ?news (fun x hx => by simp at hx; rcases hx with rfl | rfl | rfl <;> rfl) (by unfold maxLen; omega) (by omega) (by simp; omega) ?_)
        case news =>
          intro j u hu
          rw [Go.WideShapes.add_plain, Nat.zero_add, World.cell?_alloc_at _ _ _ _ rfl]
          simpa using hu
        intro v4 w4 hown4 hgrow4 _hn
        have e4 : pl l ++ [.int .i64 p.k, .int .i64 p.n, .string p.s] = pl (l ++ [p]) := (pl_append l p).symm
        rw [e4] at hown4
        obtain ⟨g4, cap4, rfl⟩ := ownsRow_succ hown4
        have qa : Q w3 (w3.alloc (.cells #[.int .i64 p.k, .int .i64 p.n, .string p.s] 33)) := (Q.refl w3).alloc _
        have HI4 := Lib.hid (HI1.out.add HG.out rfl (HW.out.1.q qa) (HW.out.2.1.trans qa) (fun s => by rw [qa.cell (p := ⟨g3, 0, none⟩) (Nat.lt_of_lt_of_le HI1.out.lt HW.out.2.2.2.size)]; exact HW.out.2.2.1 s) hgrow4 hown4)
        have hlen : (l ++ [p]).length = l.length + 1 := by simp
        have HO4 : Hid (w4.ownsRow (w1.heap.size + 1) 33 3 (.slice (some ⟨g4, 0, none⟩) (l.length + 1) cap4) (l ++ [p]).length (pl (l ++ [p]))) := by rw [hlen]; exact hown4
        clear hgrow4 _hn hown4 qa HW HO3 HI1
        go_wp2_with fail
        go_roundw
        case rel => exact ⟨k + 1, g4, cap4, l ++ [p], by omega, by go_num, by rw [hlen], HO4, HI4⟩
        case measure => simp [intOf]; omega
      · rw [Bool.not_eq_true] at hR
        rw [hR]
        have HI2 := Lib.hid HI1.out.skip
        clear HI1
        go_wp2_with fail
        go_roundw
        case rel => exact ⟨k + 1, g3, c3, l, by omega, by go_num, rfl, HO1, HI2⟩
        case measure => simp [intOf]; omega
    · obtain rfl : k = m := by omega
      as_aux_lemma =>
      have HTS : Hid ((txt l).size ≤ 1000000000) := by have := HI0.out.sz; show _ ≤ _; omega
      have HRW := Lib.hid (own_list HO.out)
      have hts : (txt l).size ≤ 100000000 := by have := HI0.out.sz; omega
      have hln := HI0.out.len
      clear HO
      go_wp2_with fail
      refine (text_w _ _ _ _ _ HI0.out.wr HTS.out).mono ?_
      rintro r w2 ⟨rfl, q2⟩
      have HI2 := Lib.hid (HI0.out.up q2)
      have HRW2 := Lib.hid (HRW.out.q q2)
      have HGD := Lib.hid HI2.out.good
      have QW2 : Hid (Q W w2) := Q1.out.trans HI2.out.q
      clear q2 HI0 HRW HI2
      by_cases hz : (txt l).size = 0
      · have e0 : l = [] := txt_zero l HGD.out hz
        have hm1 : (txt l).toList = [] := by rw [e0, ByteArray.toList_eq]; rfl
        have hl0 : l.length = 0 := by rw [e0]; rfl
        have hl0' : (l.length : Int) = 0 := by omega
        clear hz e0
        as_aux_lemma =>
        go_wp2_with fail
        refine (fixed_any _ QW2.out).mono ?_
        rintro r wz ⟨rfl, qz⟩
        go_wp2_with fail
        go_ret
        exact ⟨rfl, qz⟩
      · have hne := isEmpty_pos (txt l) (by omega)
        have hne2 : ((txt l).toList == []) = false := by rw [List.beq_nil_eq]; exact hne
        have hzz : ¬ ((txt l).size : Int) = 0 := by omega
        obtain ⟨c, hc⟩ : ∃ c : Nat, at_ % 1048576 % ((txt l).size : Int) = (c : Int) := ⟨(at_ % 1048576 % ((txt l).size : Int)).toNat, by
          have := Int.emod_nonneg (at_ % 1048576) hzz
          omega⟩
        have hc1 : c < (txt l).size := by
          have := Int.emod_lt_of_pos (at_ % 1048576) (show 0 < ((txt l).size : Int) by omega)
          omega
        have hb0 : 0 ≤ at_ % 1048576 := by omega
        have htm : (at_ % 1048576).tmod ((txt l).size : Int) = (c : Int) := by rw [Int.tmod_eq_emod_of_nonneg hb0]; exact hc
        have HLK : Hid (Lack l 0 ((txt l).extract 0 c) 0) := .inr ⟨rfl, c, hc1, rfl⟩
        have HSZ : Hid (((txt l).extract 0 c).size ≤ 100000000) := by show _ ≤ _; rw [ByteArray.size_extract]; omega
        generalize txt l = T at *
        go_wp2_with fail
        refine (read_any (T.extract 0 c) w2).mono ?_
        rintro r w3 ⟨rfl, h3, q3⟩
        have S0 : Hid (SI w2 w2.heap.size l 0 w3) := ⟨⟨_, _, h3, HLK.out, HSZ.out⟩, q3⟩
        clear h3 q3 HLK HSZ hc hc1 htm hne hne2 hzz hz hb0 hbits
        go_wp2_with fail
        have G1 : Hid (w2.heap.size ≤ w2.heap.size) := Nat.le_refl _
        have hl20 : l.length ≤ 20 := by omega
        go_loopw [10] (fun v wr => ∃ i : Nat, i ≤ l.length ∧ v = .int .i64 i ∧ Hid (SI w2 w2.heap.size l i wr)) (fun v _ => l.length - (intOf v).toNat)
        case atStart => exact ⟨0, by omega, rfl, S0⟩
        case round =>
          obtain ⟨i, hi, rfl, HB0⟩ := hrel
          clear S0
          by_cases hlt : i < l.length
          · obtain ⟨p, hp⟩ : ∃ p, l[i]? = some p := ⟨_, List.getElem?_eq_getElem hlt⟩
            have HPP := Lib.hid hp
            have HG := Lib.hid (HGD.out p (List.mem_of_getElem? hp))
            have c0 := (HRW2.out.q HB0.out.q i p hp).1
            clear hp
            by_cases h0 : p.k = 0
            · rw [h0] at c0
              as_aux_lemma =>
              go_wp2_with fail
              refine (HB0.out.byte HPP.out HG.out h0 G1.out).mono ?_
              rintro r w4 ⟨⟨v, rfl⟩, h4⟩
              have H4 := Lib.hid h4
              clear h4 HB0 c0
              go_wp2_with fail
              go_roundw
              case rel => exact ⟨i + 1, by omega, by go_num, H4⟩
              case measure => simp [intOf]; omega
            · have h0' : (p.k == 0) = false := by simpa using h0
              by_cases h1 : p.k = 1
              · rw [h1] at c0
                clear h0'
                as_aux_lemma =>
                go_wp2_with fail
                refine (HB0.out.num HPP.out h1 G1.out).mono ?_
                rintro r w4 ⟨⟨v, rfl⟩, h4⟩
                have H4 := Lib.hid h4
                clear h4 HB0 c0
                go_wp2_with fail
                go_roundw
                case rel => exact ⟨i + 1, by omega, by go_num, H4⟩
                case measure => simp [intOf]; omega
              · have h1' : (p.k == 1) = false := by simpa using h1
                by_cases h2 : p.k = 2
                · rw [h2] at c0
                  clear h0' h1'
                  as_aux_lemma =>
                  go_wp2_with fail
                  refine (HB0.out.blob HPP.out HG.out h2 G1.out).mono ?_
                  rintro r w4 ⟨⟨v, rfl⟩, h4⟩
                  have H4 := Lib.hid h4
                  clear h4 HB0 c0
                  go_wp2_with fail
                  go_roundw
                  case rel => exact ⟨i + 1, by omega, by go_num, H4⟩
                  case measure => simp [intOf]; omega
                · have h2' : (p.k == 2) = false := by simpa using h2
                  as_aux_lemma =>
                  go_wp2_with fail
                  refine (HB0.out.hash HPP.out HG.out h0 h1 h2 G1.out).mono ?_
                  rintro r w4 ⟨⟨v, rfl⟩, h4⟩
                  have H4 := Lib.hid h4
                  clear h4 HB0 c0
                  go_wp2_with fail
                  go_roundw
                  case rel => exact ⟨i + 1, by omega, by go_num, H4⟩
                  case measure => simp [intOf]; omega
          · obtain rfl : i = l.length := by omega
            as_aux_lemma =>
            obtain ⟨s, hs⟩ := HB0.out.last
            have HE := Lib.hid hs
            clear hs
            go_wp2_with fail
            refine (end_x HE.out (v := 3) rfl).mono ?_
            rintro r w' ⟨rfl, rfl⟩
            go_wp2_with fail
            refine (fixed_any _ (QW2.out.trans HB0.out.q)).mono ?_
            rintro r wz ⟨rfl, qz⟩
            go_wp2_with fail
            go_ret
            exact ⟨rfl, qz⟩

theorem own : ownKnob Try.prog.godebug = none := by kernel_rfl
theorem laidOut : laidOutB Try.prog = true := by kernel_rfl

set_option maxRecDepth 100000 in
theorem lifted (os : Os) (started : os.Started) (H : Type) (enc : TypeId × Value → H) :
    ReturnsInHanded {} Try.checked os 6 .any (Rows.codecShortSpec.pre6 enc Try.prog Try.f6 Rows.codecShortRow.domain false) (Rows.codecShortSpec.post enc Try.prog Try.f6 false true false false) := by
  refine returnsInHanded_of_change (C := Try.checked) own started (by kernel_rfl) Try.func6
    (ChangeSpec.witness6 (enc := enc) (C := Try.checked) false ⟨#[], #[.slice none 0 0, .int .i64 0], []⟩ 8 (by kernel_rfl) (by kernel_rfl) (by kernel_rfl) (by kernel_rfl)) ?_
  intro W base args ds gs before hval0 hW hcnd _
  have hval : ∀ (j : Nat) t v, Try.f6.params[j]? = some t → args[j]? = some v → Value.okWide Try.prog W .any base t v := hval0
  have hW' := hW
  obtain ⟨p, q, hA0, hV, rfl, hfz, hnd⟩ := hW
  have hA : DataW.TrodAll enc Try.prog W 0 (fun _ => true) true Try.f6.params.toList args.toList ds p := hA0
  rw [Try.params6] at hA hval
  obtain ⟨v0, vs0, d0, ds0, p0, q0, hargs, rfl, rfl, h0, r0⟩ := trodAll_cons hA
  obtain ⟨v1, vs1, d1, ds1, p1, q1, rfl, rfl, rfl, h1, r1⟩ := trodAll_cons r0
  obtain ⟨rfl, rfl, rfl⟩ := trodAll_nil r1
  obtain rfl : args = #[v0, v1] := by cases args; simp_all
  obtain ⟨rfl, rfl⟩ := trodVars_none hV
  have k0 := h0
  have lt0 : ∀ x ∈ p0, x.block < W.heap.size := by obtain ⟨m, hm⟩ := k0; exact DataW.trod_lt m _ _ _ hm
  obtain ⟨a0, len0, cap0, rfl⟩ := okWide_slice Try.underlying22 (hval 0 22 v0 rfl rfl)
  obtain ⟨z0, w0⟩ : ∃ f, IsParts W a0 len0 cap0 f := by
    obtain ⟨fuel, hf⟩ := h0
    obtain ⟨a, l, c, f, hcs, hip⟩ := open_parts hf
    simp [Value.cells] at hcs
    obtain ⟨rfl, rfl, rfl⟩ := hcs
    exact ⟨f, hip⟩
  have k1 := h1
  have lt1 : ∀ x ∈ p1, x.block < W.heap.size := by obtain ⟨m, hm⟩ := k1; exact DataW.trod_lt m _ _ _ hm
  obtain ⟨a1, rfl, e1, f1, w1⟩ := open_int Try.underlying3 (hval 1 3 v1 rfl rfl) h1
  clear hA0 hval0
  refine (walk W a0 len0 cap0 z0 w0 a1 w1).mono fun e W' ⟨he, bel⟩ => ?_
  subst he
  exact ⟨_, rfl, _, _, _, [], _, [], hW', trodAll_mk1 (shut_bool Try.underlying4 _), (trodAll_cons_mk (Below.trod laidOut (by kernel_rfl) (of_decide_eq_true (by kernel_rfl)) k0 bel lt0) (trodAll_cons_mk (Below.trod laidOut (by kernel_rfl) (of_decide_eq_true (by kernel_rfl)) k1 bel lt1) trodAll_mk0)), rfl, bel.frame _, fun h => by cases h⟩

theorem over : Rows.codecShortRow.holds Try.pinned (OpenSpec.ofChange Rows.codecShortSpec) :=
  OpenClaim.holds_of_wide 6 Try.f6 rfl rfl rfl rfl rfl rfl rfl ⟨rfl, rfl, rfl, rfl, rfl⟩ rfl rfl rfl rfl rfl (by kernel_rfl) Try.func6 (by kernel_rfl)
    (of_decide_eq_true (by kernel_rfl)) (by unfold Func.isWrapper; first | (rw [if_pos (by decide +kernel)]; kernel_rfl) | (rw [if_neg (by decide +kernel)]; exact ⟨rfl, rfl⟩))
    (fun os started H enc _ => lifted os started H enc)

end Go.Proofs.Ytefnncihpilpdaa.codecShort
namespace Go.Proofs.Ytefnncihpilpdaa
theorem codecShort_holds : Rows.CodecShortSaid := codecShort.over
#print axioms codecShort_holds
end Go.Proofs.Ytefnncihpilpdaa
