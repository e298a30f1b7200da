/-
  Layer 13: the program's Crash.
-/
import Derived.Test.YtnojglfaijhiaaaDk8
namespace Go.Proofs.Ytnojglfaijhiaaa.Dk
open Go.RowKit
open Mem Plan
set_option linter.unusedVariables false
set_option linter.unusedSimpArgs false

/-- What a crash keeps: numbers that lie in a row, not in block b. -/
def KS (w : World) (b : Nat) (a : Option Addr) (n : Nat) (kf : Nat → Int) : Prop := n = 0 ∨ ∃ kb ko, a = some ⟨kb, ko, none⟩ ∧ kb ≠ b ∧ ∀ j, j < n → w.cell? ⟨kb, ko + j, none⟩ = some (.int .i64 (kf j))
theorem kp_le (kl : Nat) (kf : Nat → Int) (t : Nat → ByteArray) (s : Nat → Nat) (i : Nat) : kpN kl kf t s i ≤ (t i).size - s i := by
  unfold kpN; split
  · exact Nat.min_le_right _ _
  · exact Nat.zero_le _
theorem kp_in {kl : Nat} {kf : Nat → Int} {t : Nat → ByteArray} {s : Nat → Nat} {i : Nat} (h : i < kl) : min (max (kf i) 0) (((t i).size - s i : Nat) : Int) = (kpN kl kf t s i : Int) := by
  unfold kpN; rw [if_pos h]; omega
theorem kp_out {kl : Nat} {kf : Nat → Int} {t : Nat → ByteArray} {s : Nat → Nat} {i : Nat} (h : ¬ i < kl) : kpN kl kf t s i = 0 := by unfold kpN; rw [if_neg h]
section
variable {w : World} {B T g b n room : Nat} {F : Nat → FL} {t : Nat → ByteArray} {s : Nat → Nat}
set_option maxHeartbeats 8000000 in
set_option maxRecDepth 100000 in
theorem crash_x (h : DK w B T g b n t s room) (ka : Option Addr) (kl kc : Nat) (kf : Nat → Int) (hK : KS w b ka kl kf) : Calls Try.prog 22 #[.pointer (some ⟨g, 0, none⟩), .slice ka kl kc] w fun r w' =>
    r = .returned (.tuple #[]) ∧ DK w' B w'.heap.size g b n (crT kl kf t s n) (crS kl kf t s n) room ∧ Ch b w w' := by
  have HS := Lib.hid h.sure
  have HT := Lib.hid h.b_lt
  obtain ⟨F, h, e⟩ := h
  have c0 := h.g0
  have hn8 := h.hn
  have D0 : Hid (DK w B w.heap.size g b n (crT kl kf t s 0) (crS kl kf t s 0) room) := ⟨F, h.top h.sz (Nat.le_refl _), fun i hi => ⟨(e i hi).1, (e i hi).2⟩⟩
  have Q0 := Lib.hid (Ch.refl b w)
  have HK := Lib.hid hK
  clear h e hK
  go_enter Try.func22, Try.ntmps22
  go_wp2_with fail
  clear c0
  go_loopw [4, 5, 6, 12] (fun i4 p5 k6 i wr => ∃ kx : Nat, kx ≤ n ∧ i = .int .i64 kx ∧ Hid (DK wr B wr.heap.size g b n (crT kl kf t s kx) (crS kl kf t s kx) room) ∧ Hid (Ch b w wr)) (fun i4 p5 k6 i _ => n - (intOf i).toNat)
  case atStart => exact ⟨0, Nat.zero_le _, rfl, D0, Q0⟩
  case round =>
    obtain ⟨kx, hk, rfl, D2, QR⟩ := hrel
    clear D0 Q0
    by_cases hlt : kx < n
    · have j0 : (0 : Int) ≤ (kx : Int) := by omega
      have j1 : (kx : Int) < (n : Int) := by omega
      obtain ⟨F2, D3, E3⟩ := D2.out
      have hrow := Lib.hid (fun j v hv => D3.row hlt j v hv)
      have LT := Lib.hid hlt
      have et : (F2 kx).t = t kx := by rw [(E3 kx hlt).1]; unfold crT; rw [if_neg (by omega)]
      have es : (F2 kx).s = s kx := by rw [(E3 kx hlt).2]; unfold crS; rw [if_neg (by omega)]
      have hss := HS.out kx hlt
      have hkp := kp_le kl kf t s kx
      obtain ⟨kp, ekp0⟩ : ∃ z, kpN kl kf t s kx = z := ⟨_, rfl⟩
      obtain ⟨mm, emm⟩ : ∃ z, (F2 kx).s + kp = z := ⟨_, rfl⟩
      have HM : Hid (mm ≤ (F2 kx).t.size) := by show mm ≤ _; rw [← emm, et, es]; omega
      have hmb : (F2 kx).t.size ≤ 16777216 := Nat.le_trans (tot_at (t := fun j => (F2 j).t) hlt) (Nat.le_trans D3.sum D3.hr)
      have em : IntKind.i64.wrap (((F2 kx).s : Int) + (kp : Int)) = (mm : Int) := by have := HM.out; rw [IntKind.wrap_i64]; omega
      have FIN : Hid (∀ (g' : Option Addr) (c' : Nat) (x : ByteArray), x = (F2 kx).t.extract 0 mm → ∀ i, i < n → (put F2 kx ⟨g', c', x, mm⟩ i).t = crT kl kf t s (kx + 1) i ∧ (put F2 kx ⟨g', c', x, mm⟩ i).s = crS kl kf t s (kx + 1) i) := by
        intro g' c' x hx i hi
        unfold crT crS
        by_cases e : i = kx
        · subst e
          rw [put_same, if_pos (Nat.lt_succ_self i), if_pos (Nat.lt_succ_self i)]
          dsimp only
          rw [hx, ← emm, et, es, ekp0]
          exact ⟨rfl, rfl⟩
        · rw [put_other F2 _ e]
          have h1 := E3 i hi
          unfold crT crS at h1
          by_cases h2 : i < kx
          · rw [if_pos h2, if_pos h2] at h1
            rw [if_pos (by omega), if_pos (by omega)]; exact h1
          · rw [if_neg h2, if_neg h2] at h1
            rw [if_neg (by omega), if_neg (by omega)]; exact h1
      go_wp2_with (with_reducible (show wpList _ _ _ (⟨_, Op.load 55 _, _, _, _, _⟩ :: _) _ _); refine halt ?_)
      refine Lib.hid (ld_row rfl 55 _ rfl b (kx * 2) [.slice (F2 kx).a (F2 kx).t.size (F2 kx).c, .int .i64 (F2 kx).s] rfl (fun j v hv => hrow.out j v hv) Try.underlying55 rfl (by kernel_rfl) ?_)
      by_cases hkl : kx < kl
      · have jl : (kx : Int) < (kl : Int) := by omega
        have d1 : decide (kx < kl) = true := by simpa using hkl
        obtain ⟨mx, emx⟩ : ∃ z, (if kf kx < 0 then 0 else kf kx) = z := ⟨_, rfl⟩
        obtain ⟨u, eu⟩ : ∃ z, (F2 kx).t.size - (F2 kx).s = z := ⟨_, rfl⟩
        have ekp : (if (u : Int) < mx then (u : Int) else mx) = (kp : Int) := by
          have h1 := kp_in (kf := kf) (t := t) (s := s) hkl
          rw [ekp0, ← et, ← es, eu] at h1
          have h2 : max (kf kx) 0 = mx := by rw [← emx]; split <;> omega
          rw [h2] at h1
          rw [← h1]
          split <;> omega
        obtain ⟨kb, ko, hka, hkb, hkc⟩ : ∃ kb ko, ka = some ⟨kb, ko, none⟩ ∧ kb ≠ b ∧ ∀ j, j < kl → w.cell? ⟨kb, ko + j, none⟩ = some (.int .i64 (kf j)) := HK.out.resolve_left (by omega)
        have U5 : Hid (∀ w, Calls Try.prog 31 #[.agg #[.slice (F2 kx).a (F2 kx).t.size (F2 kx).c, .int .i64 (F2 kx).s]] w fun r w' => r = .returned (.int .i64 (u : Int)) ∧ Q w w') := unsure_l (F2 kx) u eu (D3.sure kx hlt) hmb
        have KK := Lib.hid (QR.out.cell (hkc kx hkl) hkb)
        have D4 := Lib.hid D3
        clear hkc hkb HK hlt et es hss hkp ekp0 emm hmb E3 D3 eu D2
        subst hka
        go_wp2_with fail
        have BX0 := Box.new wr [.slice (F2 kx).a (F2 kx).t.size (F2 kx).c, .int .i64 (F2 kx).s] 55
        have QA := (Q.refl wr).alloc (.cells #[.slice (F2 kx).a (F2 kx).t.size (F2 kx).c, .int .i64 (F2 kx).s] 55)
        generalize wr.alloc (.cells #[.slice (F2 kx).a (F2 kx).t.size (F2 kx).c, .int .i64 (F2 kx).s] 55) = wA at *
        obtain ⟨bx, hb⟩ : ∃ x, wr.heap.size = x := ⟨_, rfl⟩
        rw [hb] at BX0 ⊢
        obtain ⟨W0, hW0⟩ : ∃ W, wA.drew = W := ⟨_, rfl⟩
        have Q0 : Q wr W0 := by rw [← hW0]; exact QA.drew
        have BX5 : Hid (Box W0 bx [.slice (F2 kx).a (F2 kx).t.size (F2 kx).c, .int .i64 (F2 kx).s]) := by rw [← hW0]; exact BX0.q (Q.refl _).drew
        have D5 := Lib.hid ((D4.out.q Q0).top Q0.size (Nat.le_refl _))
        have C5 := Lib.hid (QR.out.trans (Ch.of_q Q0 b))
        have K5 : ∀ w, Q W0 w → w.cell? ⟨kb, ko + kx, none⟩ = some (.int .i64 (kf kx)) := fun w q => Q.cell' (Q0.trans q) KK.out
        have hS0 : Q W0 wA.drew := by rw [hW0]; exact Q.refl _
        clear Q0 QA BX0 hb D4 QR KK hrow
        refine region_gen3 ?_
        intro OPS QQ A0 hO hQQ hA
        have hz : A0.tmps.size = 42 := by rw [hA]; rfl
        have hs : sound OPS A0.tmps.size = true := by rw [hz, hO]; kernel_rfl
        have b_1 : A0.eval (.tmp 1) = .slice (some ⟨kb, ko, none⟩) kl kc := by rw [hA]; rfl
        have fr_1 : free OPS 1 = true := by rw [hO]; kernel_rfl
        have b_4 : A0.eval (.tmp 4) = .int .i64 kx := by rw [hA]; rfl
        have fr_4 : free OPS 4 = true := by rw [hO]; kernel_rfl
        have b_5 : A0.eval (.tmp 5) = .pointer (some ⟨bx, 0, none⟩) := by rw [hA]; rfl
        have fr_5 : free OPS 5 = true := by rw [hO]; kernel_rfl
        obtain ⟨VV, hVV⟩ : ∃ V : Nat → Value → World → Prop, V = fun i => ([fun v _ => v = .slice (some ⟨kb, ko, none⟩) kl kc, fun v _ => v = .int .i64 kx, fun v _ => v = .pointer (some ⟨kb, ko + kx, none⟩), fun v _ => v = .int .i64 (kf kx), fun v _ => v = .int .i64 mx, fun v _ => v = .agg #[.slice (F2 kx).a (F2 kx).t.size (F2 kx).c, .int .i64 (F2 kx).s], fun v _ => v = .int .i64 (u : Int), fun v _ => v = .int .i64 (kp : Int)] : List (Value → World → Prop)).getD i (fun _ _ => True) := ⟨_, rfl⟩
        have v_0 : VV 0 = fun v _ => v = .slice (some ⟨kb, ko, none⟩) kl kc := vat hVV 0
        have v_1 : VV 1 = fun v _ => v = .int .i64 kx := vat hVV 1
        have v_2 : VV 2 = fun v _ => v = .pointer (some ⟨kb, ko + kx, none⟩) := vat hVV 2
        have v_3 : VV 3 = fun v _ => v = .int .i64 (kf kx) := vat hVV 3
        have v_4 : VV 4 = fun v _ => v = .int .i64 mx := vat hVV 4
        have v_5 : VV 5 = fun v _ => v = .agg #[.slice (F2 kx).a (F2 kx).t.size (F2 kx).c, .int .i64 (F2 kx).s] := vat hVV 5
        have v_6 : VV 6 = fun v _ => v = .int .i64 (u : Int) := vat hVV 6
        have v_7 : VV 7 = fun v _ => v = .int .i64 (kp : Int) := vat hVV 7
        have hV := stablex_of (T := Q) (p := 8) hVV ((sx_cons (fun _ _ _ h _ => h) (sx_cons (fun _ _ _ h _ => h) (sx_cons (fun _ _ _ h _ => h) (sx_cons (fun _ _ _ h _ => h) (sx_cons (fun _ _ _ h _ => h) (sx_cons (fun _ _ _ h _ => h) (sx_cons (fun _ _ _ h _ => h) (sx_cons (fun _ _ _ h _ => h) trivial)))))))))
        clear hVV
        have i_0 := pget_at hO 0 rfl
        have i_1 := pget_at hO 1 rfl
        have i_2 := pget_at hO 2 rfl
        have i_3 := pget_at hO 3 rfl
        have i_4 := pget_at hO 4 rfl
        have i_5 := pget_at hO 5 rfl
        have i_6 := pget_at hO 6 rfl
        have i_7 := pget_at hO 7 rfl
        have i_8 := pget_at hO 8 rfl
        have s_0 := Step2.pure (P := Try.prog) (V := VV) (T := Q) (S := (Q W0)) (a0 := A0) (p := 8) (Qx := QQ) i_0 (by rw [hO]; kernel_rfl) (.slice (some ⟨kb, ko, none⟩) kl kc) (Q.refl ·) (fun l a w hI hl hS => ⟨wanted_none rfl, ex_move rfl ((hI.base 1 fr_1).trans b_1), at_mk v_0 rfl⟩)
        have s_1 := Step2.pure (P := Try.prog) (V := VV) (T := Q) (S := (Q W0)) (a0 := A0) (p := 8) (Qx := QQ) i_1 (by rw [hO]; kernel_rfl) (.int .i64 kx) (Q.refl ·) (fun l a w hI hl hS => ⟨wanted_none rfl, ex_move rfl ((hI.base 4 fr_4).trans b_4), at_mk v_1 rfl⟩)
        have s_2 := Step2.pure (P := Try.prog) (V := VV) (T := Q) (S := (Q W0)) (a0 := A0) (p := 8) (Qx := QQ) i_2 (by rw [hO]; kernel_rfl) (.pointer (some ⟨kb, ko + kx, none⟩)) (Q.refl ·) (fun l a w hI hl hS => ⟨wanted_none rfl, (by have e0 : a.eval (.tmp 21) = _ := (at_eq v_0 (hI.at_ 0 21 _ i_0 rfl (hl_at hl 0 rfl rfl))); have e1 : a.eval (.tmp 22) = _ := (at_eq v_1 (hI.at_ 1 22 _ i_1 rfl (hl_at hl 1 rfl rfl))); generalize a.eval = ρ at e0 e1 ⊢; simp [go_sem, e0, e1, j0, jl]), at_mk v_2 rfl⟩)
        have s_3 := Step2.pure (P := Try.prog) (V := VV) (T := Q) (S := (Q W0)) (a0 := A0) (p := 8) (Qx := QQ) i_3 (by rw [hO]; kernel_rfl) (.int .i64 (kf kx)) (Q.refl ·) (fun l a w hI hl hS => ⟨wanted_none rfl, (by have e0 : a.eval (.tmp 23) = _ := (at_eq v_2 (hI.at_ 2 23 _ i_2 rfl (hl_at hl 0 rfl rfl))); have x0 := K5 w hS; generalize a.eval = ρ at e0 ⊢; simp [go_sem, e0, x0]), at_mk v_3 rfl⟩)
        have s_4 := Step2.pure (P := Try.prog) (V := VV) (T := Q) (S := (Q W0)) (a0 := A0) (p := 8) (Qx := QQ) i_4 (by rw [hO]; kernel_rfl) (.int .i64 mx) (Q.refl ·) (fun l a w hI hl hS => ⟨wanted_none rfl, (by have e0 : a.eval (.tmp 24) = _ := (at_eq v_3 (hI.at_ 3 24 _ i_3 rfl (hl_at hl 0 rfl rfl))); have e1 : a.eval (.const (.int .i64 0)) = .int .i64 0 := rfl; generalize a.eval = ρ at e0 e1 ⊢; simp [go_sem, e0, e1, emx]), at_mk v_4 rfl⟩)
        have s_5 := Step2.pure (P := Try.prog) (V := VV) (T := Q) (S := (Q W0)) (a0 := A0) (p := 8) (Qx := QQ) i_5 (by rw [hO]; kernel_rfl) (.agg #[.slice (F2 kx).a (F2 kx).t.size (F2 kx).c, .int .i64 (F2 kx).s]) (Q.refl ·) (fun l a w hI hl hS => ⟨wanted_none rfl, ex_loado 55 rfl bx 0 [.slice (F2 kx).a (F2 kx).t.size (F2 kx).c, .int .i64 (F2 kx).s] _ ((hI.base 5 fr_5).trans b_5) (BX5.out.q hS).range Try.underlying55 rfl (by kernel_rfl), at_mk v_5 rfl⟩)
        have s_6 := Step2.done (P := Try.prog) (V := VV) (T := Q) (S := (Q W0)) (a0 := A0) (p := 8) (Qx := QQ) i_6 (by rw [hO]; kernel_rfl) (fun l a w hI hl hS => by
          refine ⟨wanted_none rfl, ?_⟩
          refine wp_enter (f := 31) (args := #[.agg #[.slice (F2 kx).a (F2 kx).t.size (F2 kx).c, .int .i64 (F2 kx).s]]) ?_ ?_
          · exact ex_call rfl (by simp only [List.map_toArray, List.map_cons, List.map_nil, ev_const, (show a.eval (.tmp 26) = _ from (at_eq v_5 (hI.at_ 5 26 _ i_5 rfl (hl_at hl 0 rfl rfl))))]) Try.func31 (by kernel_rfl) (by kernel_rfl)
          · refine (U5.out w).mono fun e w' hc => ?_
            obtain ⟨rfl, hq⟩ := hc
            exact ⟨_, rfl, hq, hS.trans hq, at_mk v_6 rfl⟩)
        have s_7 := Step2.pure (P := Try.prog) (V := VV) (T := Q) (S := (Q W0)) (a0 := A0) (p := 8) (Qx := QQ) i_7 (by rw [hO]; kernel_rfl) (.int .i64 (kp : Int)) (Q.refl ·) (fun l a w hI hl hS => ⟨wanted_none rfl, (by have e0 : a.eval (.tmp 25) = _ := (at_eq v_4 (hI.at_ 4 25 _ i_4 rfl (hl_at hl 0 rfl rfl))); have e1 : a.eval (.tmp 27) = _ := (at_eq v_6 (hI.at_ 6 27 _ i_6 rfl (hl_at hl 1 rfl rfl))); generalize a.eval = ρ at e0 e1 ⊢; simp [go_sem, e0, e1, ekp]), at_mk v_7 rfl⟩)
        refine wp_plan2 VV (Q) (Q W0) 8 8 (by kernel_rfl) hs (by rw [hO]; rfl) (by rw [hO]; kernel_rfl) hV hS0 (steps2_all hO _ rfl ((s2_cons s_0 (s2_cons s_1 (s2_cons s_2 (s2_cons s_3 (s2_cons s_4 (s2_cons s_5 (s2_cons s_6 (s2_cons s_7 trivial)))))))))) ?_
        intro l a w hall hln hI
        have hS := hI.st hln
        refine fin_of i_8 (wanted_none rfl) ?_
        refine wp_value (ex_assign rfl (at_eq v_7 (hI.at_ 7 28 _ i_7 rfl (hall 7 (by decide))))) ?_
        rw [hQQ]
        have D6 := Lib.hid ((D5.out.q hS).top hS.size (Nat.le_refl _))
        have BX6 := Lib.hid (BX5.out.q hS)
        have C6 := Lib.hid (C5.out.trans (Ch.of_q hS b))
        obtain ⟨ts, ds⟩ := a
        have hd : ds = [] := by have := hI.df; rw [hA] at this; exact this
        have hts : ts.size = 42 := by have := hI.sz; rw [hz] at this; exact this
        have f0 := (hI.base 0 (by rw [hO]; kernel_rfl)).trans (base_at hA 0 rfl)
        have f1 := (hI.base 1 (by rw [hO]; kernel_rfl)).trans (base_at hA 1 rfl)
        have f2 := (hI.base 2 (by rw [hO]; kernel_rfl)).trans (base_at hA 2 rfl)
        have f3 := (hI.base 3 (by rw [hO]; kernel_rfl)).trans (base_at hA 3 rfl)
        have f4 := (hI.base 4 (by rw [hO]; kernel_rfl)).trans (base_at hA 4 rfl)
        have f5 := (hI.base 5 (by rw [hO]; kernel_rfl)).trans (base_at hA 5 rfl)
        have f7 := (hI.base 7 (by rw [hO]; kernel_rfl)).trans (base_at hA 7 rfl)
        have f8 := (hI.base 8 (by rw [hO]; kernel_rfl)).trans (base_at hA 8 rfl)
        have f9 := (hI.base 9 (by rw [hO]; kernel_rfl)).trans (base_at hA 9 rfl)
        have f10 := (hI.base 10 (by rw [hO]; kernel_rfl)).trans (base_at hA 10 rfl)
        have f11 := (hI.base 11 (by rw [hO]; kernel_rfl)).trans (base_at hA 11 rfl)
        have f12 := (hI.base 12 (by rw [hO]; kernel_rfl)).trans (base_at hA 12 rfl)
        have f13 := (hI.base 13 (by rw [hO]; kernel_rfl)).trans (base_at hA 13 rfl)
        have f14 := (hI.base 14 (by rw [hO]; kernel_rfl)).trans (base_at hA 14 rfl)
        have f15 := (hI.base 15 (by rw [hO]; kernel_rfl)).trans (base_at hA 15 rfl)
        have f16 := (hI.base 16 (by rw [hO]; kernel_rfl)).trans (base_at hA 16 rfl)
        have f17 := (hI.base 17 (by rw [hO]; kernel_rfl)).trans (base_at hA 17 rfl)
        have f18 := (hI.base 18 (by rw [hO]; kernel_rfl)).trans (base_at hA 18 rfl)
        have f19 := (hI.base 19 (by rw [hO]; kernel_rfl)).trans (base_at hA 19 rfl)
        have f20 := (hI.base 20 (by rw [hO]; kernel_rfl)).trans (base_at hA 20 rfl)
        have f29 := (hI.base 29 (by rw [hO]; kernel_rfl)).trans (base_at hA 29 rfl)
        have f30 := (hI.base 30 (by rw [hO]; kernel_rfl)).trans (base_at hA 30 rfl)
        have f31 := (hI.base 31 (by rw [hO]; kernel_rfl)).trans (base_at hA 31 rfl)
        have f32 := (hI.base 32 (by rw [hO]; kernel_rfl)).trans (base_at hA 32 rfl)
        have f33 := (hI.base 33 (by rw [hO]; kernel_rfl)).trans (base_at hA 33 rfl)
        have f34 := (hI.base 34 (by rw [hO]; kernel_rfl)).trans (base_at hA 34 rfl)
        have f35 := (hI.base 35 (by rw [hO]; kernel_rfl)).trans (base_at hA 35 rfl)
        have f36 := (hI.base 36 (by rw [hO]; kernel_rfl)).trans (base_at hA 36 rfl)
        have f37 := (hI.base 37 (by rw [hO]; kernel_rfl)).trans (base_at hA 37 rfl)
        have f38 := (hI.base 38 (by rw [hO]; kernel_rfl)).trans (base_at hA 38 rfl)
        have f39 := (hI.base 39 (by rw [hO]; kernel_rfl)).trans (base_at hA 39 rfl)
        have f40 := (hI.base 40 (by rw [hO]; kernel_rfl)).trans (base_at hA 40 rfl)
        have f41 := (hI.base 41 (by rw [hO]; kernel_rfl)).trans (base_at hA 41 rfl)
        obtain ⟨tl0, rfl⟩ : ∃ tl : List Value, ts = tl.toArray := ⟨ts.toList, by simp⟩
        have htl0 : tl0.length = 42 := by simpa using hts
        clear hts
        obtain ⟨y0, tl1, et, htl1⟩ := len_succ htl0
        clear htl0
        subst et
        obtain ⟨y1, tl2, et, htl2⟩ := len_succ htl1
        clear htl1
        subst et
        obtain ⟨y2, tl3, et, htl3⟩ := len_succ htl2
        clear htl2
        subst et
        obtain ⟨y3, tl4, et, htl4⟩ := len_succ htl3
        clear htl3
        subst et
        obtain ⟨y4, tl5, et, htl5⟩ := len_succ htl4
        clear htl4
        subst et
        obtain ⟨y5, tl6, et, htl6⟩ := len_succ htl5
        clear htl5
        subst et
        obtain ⟨y6, tl7, et, htl7⟩ := len_succ htl6
        clear htl6
        subst et
        obtain ⟨y7, tl8, et, htl8⟩ := len_succ htl7
        clear htl7
        subst et
        obtain ⟨y8, tl9, et, htl9⟩ := len_succ htl8
        clear htl8
        subst et
        obtain ⟨y9, tl10, et, htl10⟩ := len_succ htl9
        clear htl9
        subst et
        obtain ⟨y10, tl11, et, htl11⟩ := len_succ htl10
        clear htl10
        subst et
        obtain ⟨y11, tl12, et, htl12⟩ := len_succ htl11
        clear htl11
        subst et
        obtain ⟨y12, tl13, et, htl13⟩ := len_succ htl12
        clear htl12
        subst et
        obtain ⟨y13, tl14, et, htl14⟩ := len_succ htl13
        clear htl13
        subst et
        obtain ⟨y14, tl15, et, htl15⟩ := len_succ htl14
        clear htl14
        subst et
        obtain ⟨y15, tl16, et, htl16⟩ := len_succ htl15
        clear htl15
        subst et
        obtain ⟨y16, tl17, et, htl17⟩ := len_succ htl16
        clear htl16
        subst et
        obtain ⟨y17, tl18, et, htl18⟩ := len_succ htl17
        clear htl17
        subst et
        obtain ⟨y18, tl19, et, htl19⟩ := len_succ htl18
        clear htl18
        subst et
        obtain ⟨y19, tl20, et, htl20⟩ := len_succ htl19
        clear htl19
        subst et
        obtain ⟨y20, tl21, et, htl21⟩ := len_succ htl20
        clear htl20
        subst et
        obtain ⟨y21, tl22, et, htl22⟩ := len_succ htl21
        clear htl21
        subst et
        obtain ⟨y22, tl23, et, htl23⟩ := len_succ htl22
        clear htl22
        subst et
        obtain ⟨y23, tl24, et, htl24⟩ := len_succ htl23
        clear htl23
        subst et
        obtain ⟨y24, tl25, et, htl25⟩ := len_succ htl24
        clear htl24
        subst et
        obtain ⟨y25, tl26, et, htl26⟩ := len_succ htl25
        clear htl25
        subst et
        obtain ⟨y26, tl27, et, htl27⟩ := len_succ htl26
        clear htl26
        subst et
        obtain ⟨y27, tl28, et, htl28⟩ := len_succ htl27
        clear htl27
        subst et
        obtain ⟨y28, tl29, et, htl29⟩ := len_succ htl28
        clear htl28
        subst et
        obtain ⟨y29, tl30, et, htl30⟩ := len_succ htl29
        clear htl29
        subst et
        obtain ⟨y30, tl31, et, htl31⟩ := len_succ htl30
        clear htl30
        subst et
        obtain ⟨y31, tl32, et, htl32⟩ := len_succ htl31
        clear htl31
        subst et
        obtain ⟨y32, tl33, et, htl33⟩ := len_succ htl32
        clear htl32
        subst et
        obtain ⟨y33, tl34, et, htl34⟩ := len_succ htl33
        clear htl33
        subst et
        obtain ⟨y34, tl35, et, htl35⟩ := len_succ htl34
        clear htl34
        subst et
        obtain ⟨y35, tl36, et, htl36⟩ := len_succ htl35
        clear htl35
        subst et
        obtain ⟨y36, tl37, et, htl37⟩ := len_succ htl36
        clear htl36
        subst et
        obtain ⟨y37, tl38, et, htl38⟩ := len_succ htl37
        clear htl37
        subst et
        obtain ⟨y38, tl39, et, htl39⟩ := len_succ htl38
        clear htl38
        subst et
        obtain ⟨y39, tl40, et, htl40⟩ := len_succ htl39
        clear htl39
        subst et
        obtain ⟨y40, tl41, et, htl41⟩ := len_succ htl40
        clear htl40
        subst et
        obtain ⟨y41, tl42, et, htl42⟩ := len_succ htl41
        clear htl41
        subst et
        have et := List.eq_nil_of_length_eq_zero htl42
        clear htl42
        subst et
        have g0 : y0 = _ := f0
        have g1 : y1 = _ := f1
        have g2 : y2 = _ := f2
        have g3 : y3 = _ := f3
        have g4 : y4 = _ := f4
        have g5 : y5 = _ := f5
        have g7 : y7 = _ := f7
        have g8 : y8 = _ := f8
        have g9 : y9 = _ := f9
        have g10 : y10 = _ := f10
        have g11 : y11 = _ := f11
        have g12 : y12 = _ := f12
        have g13 : y13 = _ := f13
        have g14 : y14 = _ := f14
        have g15 : y15 = _ := f15
        have g16 : y16 = _ := f16
        have g17 : y17 = _ := f17
        have g18 : y18 = _ := f18
        have g19 : y19 = _ := f19
        have g20 : y20 = _ := f20
        have g29 : y29 = _ := f29
        have g30 : y30 = _ := f30
        have g31 : y31 = _ := f31
        have g32 : y32 = _ := f32
        have g33 : y33 = _ := f33
        have g34 : y34 = _ := f34
        have g35 : y35 = _ := f35
        have g36 : y36 = _ := f36
        have g37 : y37 = _ := f37
        have g38 : y38 = _ := f38
        have g39 : y39 = _ := f39
        have g40 : y40 = _ := f40
        have g41 : y41 = _ := f41
        clear f0 f1 f2 f3 f4 f5 f7 f8 f9 f10 f11 f12 f13 f14 f15 f16 f17 f18 f19 f20 f29 f30 f31 f32 f33 f34 f35 f36 f37 f38 f39 f40 f41
        subst hd g0 g1 g2 g3 g4 g5 g7 g8 g9 g10 g11 g12 g13 g14 g15 g16 g17 g18 g19 g20 g29 g30 g31 g32 g33 g34 g35 g36 g37 g38 g39 g40 g41
        clear hI hall hln hV hs hz hA hO hQQ hS D5 BX5 C5 U5 K5 v_0 i_0 s_0 v_1 i_1 s_1 v_2 i_2 s_2 v_3 i_3 s_3 v_4 i_4 s_4 v_5 i_5 s_5 v_6 i_6 s_6 v_7 i_7 s_7
        clear i_8
        simp only [Act.put, List.setIfInBounds_toArray, List.set_cons_zero, List.set_cons_succ]
        go_wp2_with fail
        obtain ⟨W9, hW9⟩ : ∃ W, w.drew = W := ⟨_, rfl⟩
        have Q9 : Q w W9 := by rw [← hW9]; exact (Q.refl _).drew
        have D9 := Lib.hid ((D6.out.q Q9).top (T' := W9.heap.size) Q9.size (Nat.le_refl _))
        have BX9 := Lib.hid (BX6.out.q Q9)
        have C9 := Lib.hid (C6.out.trans (Ch.of_q Q9 b))
        have C0 : ∀ w, Q W9 w → w.cell? ⟨g, 0, none⟩ = some (.slice (some ⟨b, 0, none⟩) n n) := fun w q => (D9.out.q q).g0
        have FX : Hid (∀ w, Q W9 w → Calls Try.prog 23 #[.agg #[.slice (F2 kx).a (F2 kx).t.size (F2 kx).c, .int .i64 (F2 kx).s], .int .i64 mm] w fun r w' =>
          ∃ g, r = .returned (.agg #[.slice (some ⟨g, 0, none⟩) mm mm, .int .i64 mm]) ∧ w.heap.size ≤ g ∧ w'.ownsRow w.heap.size 5 1 (.slice (some ⟨g, 0, none⟩) mm mm) mm (Lib.strCells ((F2 kx).t.extract 0 mm)) ∧ Q w w') := fun w q => first_x (F2 kx) mm ((D9.out.q q).r kx LT.out) HM.out (Nat.le_trans HM.out (Nat.le_trans (tot_at (t := fun j => (F2 j).t) LT.out) (Nat.le_trans D9.out.sum D9.out.hr)))
        have THR : Hid (∀ w, Q W9 w → w.there b (kx * 2) 2) := fun w q => (D9.out.q q).there LT.out
        have PUT : Hid (∀ v5 g', Q W9 v5 → W9.heap.size ≤ g' → v5.ownsRow W9.heap.size 5 1 (.slice (some ⟨g', 0, none⟩) mm mm) mm (Lib.strCells ((F2 kx).t.extract 0 mm)) →
            DK0 (v5.setCells b (kx * 2) [.slice (some ⟨g', 0, none⟩) mm mm, .int .i64 mm]) B v5.heap.size g b n (put F2 kx ⟨some ⟨g', 0, none⟩, mm, (F2 kx).t.extract 0 mm, mm⟩) room ∧ Ch b v5 (v5.setCells b (kx * 2) [.slice (some ⟨g', 0, none⟩) mm mm, .int .i64 mm])) := fun v5 g' q k1 k2 => by
          have hb := (D9.out.q q)
          have hsz := size_extract0 (F2 kx).t mm HM.out
          have hB := D9.out.b_lt
          have hlt := (World.ownsRow.lt k2 g' rfl).2
          have hmm := HM.out
          have hsm := hb.sum
          have := hb.set_row (T' := v5.heap.size) LT.out ⟨some ⟨g', 0, none⟩, mm, (F2 kx).t.extract 0 mm, mm⟩ hb.sz (Nat.le_refl _) (by show v5.ownsRow B _ 1 (.slice _ ((F2 kx).t.extract 0 mm).size _) ((F2 kx).t.extract 0 mm).size _; rw [hsz]; exact own_up k2 (by omega)) (fun k hk => by injection hk with hk; subst hk; exact ⟨.inr (by show W9.heap.size ≤ g'; omega), hlt⟩)
            (by show mm ≤ ((F2 kx).t.extract 0 mm).size; omega) (by show _ + ((F2 kx).t.extract 0 mm).size ≤ _; omega)
          unfold FL.cells at this
          dsimp only at this
          rw [hsz] at this
          exact this
        have hS0 : Q W9 w.drew := by rw [hW9]; exact Q.refl _
        clear Q9 D6 BX6 C6
        refine region_gen3 ?_
        intro OPS QQ A0 hO hQQ hA
        have hz : A0.tmps.size = 42 := by rw [hA]; rfl
        have hs : sound OPS A0.tmps.size = true := by rw [hz, hO]; kernel_rfl
        have by_0 : A0.eval (.tmp 0) = .pointer (some ⟨g, 0, none⟩) := by rw [hA]; rfl
        have fry_0 : free OPS 0 = true := by rw [hO]; kernel_rfl
        have by_4 : A0.eval (.tmp 4) = .int .i64 kx := by rw [hA]; rfl
        have fry_4 : free OPS 4 = true := by rw [hO]; kernel_rfl
        have by_5 : A0.eval (.tmp 5) = .pointer (some ⟨bx, 0, none⟩) := by rw [hA]; rfl
        have fry_5 : free OPS 5 = true := by rw [hO]; kernel_rfl
        have by_6 : A0.eval (.tmp 6) = .int .i64 (kp : Int) := by rw [hA]; rfl
        have fry_6 : free OPS 6 = true := by rw [hO]; kernel_rfl
        obtain ⟨VV, hVV⟩ : ∃ V : Nat → Value → World → Prop, V = fun i => ([fun v _ => v = .pointer (some ⟨g, 0, none⟩), fun v _ => v = .pointer (some ⟨g, 0, none⟩), fun v _ => v = .pointer (some ⟨g, 0, none⟩), fun v _ => v = .slice (some ⟨b, 0, none⟩) n n, fun v _ => v = .int .i64 kx, fun v _ => v = .agg #[.slice (F2 kx).a (F2 kx).t.size (F2 kx).c, .int .i64 (F2 kx).s], fun v _ => v = .pointer (some ⟨bx, 1, none⟩), fun v _ => v = .int .i64 ((F2 kx).s : Int), fun v _ => v = .int .i64 (kp : Int), fun v _ => v = .int .i64 (mm : Int), fun v w' => ∃ g', v = .agg #[.slice (some ⟨g', 0, none⟩) mm mm, .int .i64 mm] ∧ W9.heap.size ≤ g' ∧ w'.ownsRow W9.heap.size 5 1 (.slice (some ⟨g', 0, none⟩) mm mm) mm (Lib.strCells ((F2 kx).t.extract 0 mm)), fun v _ => v = .pointer (some ⟨b, kx * 2, none⟩)] : List (Value → World → Prop)).getD i (fun _ _ => True) := ⟨_, rfl⟩
        have vy_0 : VV 0 = fun v _ => v = .pointer (some ⟨g, 0, none⟩) := vat hVV 0
        have vy_1 : VV 1 = fun v _ => v = .pointer (some ⟨g, 0, none⟩) := vat hVV 1
        have vy_2 : VV 2 = fun v _ => v = .pointer (some ⟨g, 0, none⟩) := vat hVV 2
        have vy_3 : VV 3 = fun v _ => v = .slice (some ⟨b, 0, none⟩) n n := vat hVV 3
        have vy_4 : VV 4 = fun v _ => v = .int .i64 kx := vat hVV 4
        have vy_5 : VV 5 = fun v _ => v = .agg #[.slice (F2 kx).a (F2 kx).t.size (F2 kx).c, .int .i64 (F2 kx).s] := vat hVV 5
        have vy_6 : VV 6 = fun v _ => v = .pointer (some ⟨bx, 1, none⟩) := vat hVV 6
        have vy_7 : VV 7 = fun v _ => v = .int .i64 ((F2 kx).s : Int) := vat hVV 7
        have vy_8 : VV 8 = fun v _ => v = .int .i64 (kp : Int) := vat hVV 8
        have vy_9 : VV 9 = fun v _ => v = .int .i64 (mm : Int) := vat hVV 9
        have vy_10 : VV 10 = fun v w' => ∃ g', v = .agg #[.slice (some ⟨g', 0, none⟩) mm mm, .int .i64 mm] ∧ W9.heap.size ≤ g' ∧ w'.ownsRow W9.heap.size 5 1 (.slice (some ⟨g', 0, none⟩) mm mm) mm (Lib.strCells ((F2 kx).t.extract 0 mm)) := vat hVV 10
        have vy_11 : VV 11 = fun v _ => v = .pointer (some ⟨b, kx * 2, none⟩) := vat hVV 11
        have hV := stablex_of (T := Q) (p := 12) hVV ((sx_cons (fun _ _ _ h _ => h) (sx_cons (fun _ _ _ h _ => h) (sx_cons (fun _ _ _ h _ => h) (sx_cons (fun _ _ _ h _ => h) (sx_cons (fun _ _ _ h _ => h) (sx_cons (fun _ _ _ h _ => h) (sx_cons (fun _ _ _ h _ => h) (sx_cons (fun _ _ _ h _ => h) (sx_cons (fun _ _ _ h _ => h) (sx_cons (fun _ _ _ h _ => h) (sx_cons (fun v w w' h q => by obtain ⟨g', e1, e2, e3⟩ := h; exact ⟨g', e1, e2, own_keep e3 fun k hk => q.block k (World.ownsRow.lt e3 k hk).2⟩) (sx_cons (fun _ _ _ h _ => h) trivial)))))))))))))
        clear hVV
        have iy_0 := pget_at hO 0 rfl
        have iy_1 := pget_at hO 1 rfl
        have iy_2 := pget_at hO 2 rfl
        have iy_3 := pget_at hO 3 rfl
        have iy_4 := pget_at hO 4 rfl
        have iy_5 := pget_at hO 5 rfl
        have iy_6 := pget_at hO 6 rfl
        have iy_7 := pget_at hO 7 rfl
        have iy_8 := pget_at hO 8 rfl
        have iy_9 := pget_at hO 9 rfl
        have iy_10 := pget_at hO 10 rfl
        have iy_11 := pget_at hO 11 rfl
        have iy_12 := pget_at hO 12 rfl
        have sy_0 := Step2.pure (P := Try.prog) (V := VV) (T := Q) (S := (Q W9)) (a0 := A0) (p := 12) (Qx := QQ) iy_0 (by rw [hO]; kernel_rfl) (.pointer (some ⟨g, 0, none⟩)) (Q.refl ·) (fun l a w hI hl hS => ⟨wanted_none rfl, ex_move rfl ((hI.base 0 fry_0).trans by_0), at_mk vy_0 rfl⟩)
        have sy_1 := Step2.pure (P := Try.prog) (V := VV) (T := Q) (S := (Q W9)) (a0 := A0) (p := 12) (Qx := QQ) iy_1 (by rw [hO]; kernel_rfl) (.pointer (some ⟨g, 0, none⟩)) (Q.refl ·) (fun l a w hI hl hS => ⟨wanted_none rfl, (by have e0 : a.eval (.tmp 29) = _ := (at_eq vy_0 (hI.at_ 0 29 _ iy_0 rfl (hl_at hl 0 rfl rfl))); generalize a.eval = ρ at e0 ⊢; simp [go_sem, e0]), at_mk vy_1 rfl⟩)
        have sy_2 := Step2.pure (P := Try.prog) (V := VV) (T := Q) (S := (Q W9)) (a0 := A0) (p := 12) (Qx := QQ) iy_2 (by rw [hO]; kernel_rfl) (.pointer (some ⟨g, 0, none⟩)) (Q.refl ·) (fun l a w hI hl hS => ⟨wanted_none rfl, (by have e0 : a.eval (.tmp 30) = _ := (at_eq vy_1 (hI.at_ 1 30 _ iy_1 rfl (hl_at hl 0 rfl rfl))); generalize a.eval = ρ at e0 ⊢; simp [go_sem, e0]), at_mk vy_2 rfl⟩)
        have sy_3 := Step2.pure (P := Try.prog) (V := VV) (T := Q) (S := (Q W9)) (a0 := A0) (p := 12) (Qx := QQ) iy_3 (by rw [hO]; kernel_rfl) (.slice (some ⟨b, 0, none⟩) n n) (Q.refl ·) (fun l a w hI hl hS => ⟨wanted_none rfl, (by have e0 : a.eval (.tmp 31) = _ := (at_eq vy_2 (hI.at_ 2 31 _ iy_2 rfl (hl_at hl 0 rfl rfl))); have x0 := C0 w hS; generalize a.eval = ρ at e0 ⊢; simp [go_sem, e0, x0]), at_mk vy_3 rfl⟩)
        have sy_4 := Step2.pure (P := Try.prog) (V := VV) (T := Q) (S := (Q W9)) (a0 := A0) (p := 12) (Qx := QQ) iy_4 (by rw [hO]; kernel_rfl) (.int .i64 kx) (Q.refl ·) (fun l a w hI hl hS => ⟨wanted_none rfl, ex_move rfl ((hI.base 4 fry_4).trans by_4), at_mk vy_4 rfl⟩)
        have sy_5 := Step2.pure (P := Try.prog) (V := VV) (T := Q) (S := (Q W9)) (a0 := A0) (p := 12) (Qx := QQ) iy_5 (by rw [hO]; kernel_rfl) (.agg #[.slice (F2 kx).a (F2 kx).t.size (F2 kx).c, .int .i64 (F2 kx).s]) (Q.refl ·) (fun l a w hI hl hS => ⟨wanted_none rfl, ex_loado 55 rfl bx 0 [.slice (F2 kx).a (F2 kx).t.size (F2 kx).c, .int .i64 (F2 kx).s] _ ((hI.base 5 fry_5).trans by_5) (BX9.out.q hS).range Try.underlying55 rfl (by kernel_rfl), at_mk vy_5 rfl⟩)
        have sy_6 := Step2.pure (P := Try.prog) (V := VV) (T := Q) (S := (Q W9)) (a0 := A0) (p := 12) (Qx := QQ) iy_6 (by rw [hO]; kernel_rfl) (.pointer (some ⟨bx, 1, none⟩)) (Q.refl ·) (fun l a w hI hl hS => ⟨wanted_none rfl, (by have e0 : a.eval (.tmp 5) = _ := ((hI.base 5 fry_5).trans by_5); generalize a.eval = ρ at e0 ⊢; simp [go_sem, e0]), at_mk vy_6 rfl⟩)
        have sy_7 := Step2.pure (P := Try.prog) (V := VV) (T := Q) (S := (Q W9)) (a0 := A0) (p := 12) (Qx := QQ) iy_7 (by rw [hO]; kernel_rfl) (.int .i64 ((F2 kx).s : Int)) (Q.refl ·) (fun l a w hI hl hS => ⟨wanted_none rfl, (by have e0 : a.eval (.tmp 35) = _ := (at_eq vy_6 (hI.at_ 6 35 _ iy_6 rfl (hl_at hl 0 rfl rfl))); have x0 := (BX9.out.q hS).at_ 1 _ rfl; generalize a.eval = ρ at e0 ⊢; simp [go_sem, e0, x0]), at_mk vy_7 rfl⟩)
        have sy_8 := Step2.pure (P := Try.prog) (V := VV) (T := Q) (S := (Q W9)) (a0 := A0) (p := 12) (Qx := QQ) iy_8 (by rw [hO]; kernel_rfl) (.int .i64 (kp : Int)) (Q.refl ·) (fun l a w hI hl hS => ⟨wanted_none rfl, ex_move rfl ((hI.base 6 fry_6).trans by_6), at_mk vy_8 rfl⟩)
        have sy_9 := Step2.pure (P := Try.prog) (V := VV) (T := Q) (S := (Q W9)) (a0 := A0) (p := 12) (Qx := QQ) iy_9 (by rw [hO]; kernel_rfl) (.int .i64 (mm : Int)) (Q.refl ·) (fun l a w hI hl hS => ⟨wanted_none rfl, (by have e0 : a.eval (.tmp 36) = _ := (at_eq vy_7 (hI.at_ 7 36 _ iy_7 rfl (hl_at hl 0 rfl rfl))); have e1 : a.eval (.tmp 37) = _ := (at_eq vy_8 (hI.at_ 8 37 _ iy_8 rfl (hl_at hl 1 rfl rfl))); generalize a.eval = ρ at e0 e1 ⊢; simp [go_sem, e0, e1, em]), at_mk vy_9 rfl⟩)
        have sy_10 := Step2.done (P := Try.prog) (V := VV) (T := Q) (S := (Q W9)) (a0 := A0) (p := 12) (Qx := QQ) iy_10 (by rw [hO]; kernel_rfl) (fun l a w hI hl hS => by
          refine ⟨wanted_none rfl, ?_⟩
          refine wp_enter (f := 23) (args := #[.agg #[.slice (F2 kx).a (F2 kx).t.size (F2 kx).c, .int .i64 (F2 kx).s], .int .i64 mm]) ?_ ?_
          · exact ex_call rfl (by simp only [List.map_toArray, List.map_cons, List.map_nil, (show a.eval (.tmp 34) = _ from (at_eq vy_5 (hI.at_ 5 34 _ iy_5 rfl (hl_at hl 0 rfl rfl)))), (show a.eval (.tmp 38) = _ from (at_eq vy_9 (hI.at_ 9 38 _ iy_9 rfl (hl_at hl 1 rfl rfl))))]) Try.func23 (by kernel_rfl) (by kernel_rfl)
          · refine (FX.out w hS).mono fun e w' hc => ?_
            obtain ⟨g', rfl, k1, k2, hq⟩ := hc
            exact ⟨_, rfl, hq, hS.trans hq, p_at vy_10 ⟨g', rfl, Nat.le_trans hS.size k1, own_up k2 hS.size⟩⟩)
        have sy_11 := Step2.pure (P := Try.prog) (V := VV) (T := Q) (S := (Q W9)) (a0 := A0) (p := 12) (Qx := QQ) iy_11 (by rw [hO]; kernel_rfl) (.pointer (some ⟨b, kx * 2, none⟩)) (Q.refl ·) (fun l a w hI hl hS => ⟨wanted_none rfl, (by have e0 : a.eval (.tmp 32) = _ := (at_eq vy_3 (hI.at_ 3 32 _ iy_3 rfl (hl_at hl 0 rfl rfl))); have e1 : a.eval (.tmp 33) = _ := (at_eq vy_4 (hI.at_ 4 33 _ iy_4 rfl (hl_at hl 1 rfl rfl))); generalize a.eval = ρ at e0 e1 ⊢; simp [go_sem, e0, e1, j0, j1]), at_mk vy_11 rfl⟩)
        refine wp_plan2 VV (Q) (Q W9) 12 12 (by kernel_rfl) hs (by rw [hO]; rfl) (by rw [hO]; kernel_rfl) hV hS0 (steps2_all hO _ rfl ((s2_cons sy_0 (s2_cons sy_1 (s2_cons sy_2 (s2_cons sy_3 (s2_cons sy_4 (s2_cons sy_5 (s2_cons sy_6 (s2_cons sy_7 (s2_cons sy_8 (s2_cons sy_9 (s2_cons sy_10 (s2_cons sy_11 trivial)))))))))))))) ?_
        intro l a w hall hln hI
        have hS := hI.st hln
        obtain ⟨g', e10, k1, k2⟩ := (at_p vy_10 (hI.at_ 10 39 _ iy_10 rfl (hall 10 (by decide))))
        refine fin_of iy_12 (wanted_none rfl) ?_
        obtain ⟨R1, R2⟩ := PUT.out w g' hS k1 k2
        refine wp_store_mid 55 _ _ rfl b (kx * 2) #[.slice (some ⟨g', 0, none⟩) mm mm, .int .i64 mm] (at_eq vy_11 (hI.at_ 11 40 _ iy_11 rfl (hall 11 (by decide)))) e10 (THR.out w hS) (by kernel_rfl) (all_oneCell_toArray (one2 rfl rfl)) ?_
        rw [hQQ]
        have C7 := Lib.hid ((C9.out.trans (Ch.of_q hS b)).trans R2)
        have D7 := Lib.hid R1
        obtain ⟨ts, ds⟩ := a
        have hd : ds = [] := by have := hI.df; rw [hA] at this; exact this
        have hts : ts.size = 42 := by have := hI.sz; rw [hz] at this; exact this
        have f0 := (hI.base 0 (by rw [hO]; kernel_rfl)).trans (base_at hA 0 rfl)
        have f1 := (hI.base 1 (by rw [hO]; kernel_rfl)).trans (base_at hA 1 rfl)
        have f2 := (hI.base 2 (by rw [hO]; kernel_rfl)).trans (base_at hA 2 rfl)
        have f3 := (hI.base 3 (by rw [hO]; kernel_rfl)).trans (base_at hA 3 rfl)
        have f4 := (hI.base 4 (by rw [hO]; kernel_rfl)).trans (base_at hA 4 rfl)
        have f5 := (hI.base 5 (by rw [hO]; kernel_rfl)).trans (base_at hA 5 rfl)
        have f6 := (hI.base 6 (by rw [hO]; kernel_rfl)).trans (base_at hA 6 rfl)
        have f7 := (hI.base 7 (by rw [hO]; kernel_rfl)).trans (base_at hA 7 rfl)
        have f8 := (hI.base 8 (by rw [hO]; kernel_rfl)).trans (base_at hA 8 rfl)
        have f9 := (hI.base 9 (by rw [hO]; kernel_rfl)).trans (base_at hA 9 rfl)
        have f10 := (hI.base 10 (by rw [hO]; kernel_rfl)).trans (base_at hA 10 rfl)
        have f11 := (hI.base 11 (by rw [hO]; kernel_rfl)).trans (base_at hA 11 rfl)
        have f12 := (hI.base 12 (by rw [hO]; kernel_rfl)).trans (base_at hA 12 rfl)
        have f13 := (hI.base 13 (by rw [hO]; kernel_rfl)).trans (base_at hA 13 rfl)
        have f14 := (hI.base 14 (by rw [hO]; kernel_rfl)).trans (base_at hA 14 rfl)
        have f15 := (hI.base 15 (by rw [hO]; kernel_rfl)).trans (base_at hA 15 rfl)
        have f16 := (hI.base 16 (by rw [hO]; kernel_rfl)).trans (base_at hA 16 rfl)
        have f17 := (hI.base 17 (by rw [hO]; kernel_rfl)).trans (base_at hA 17 rfl)
        have f18 := (hI.base 18 (by rw [hO]; kernel_rfl)).trans (base_at hA 18 rfl)
        have f19 := (hI.base 19 (by rw [hO]; kernel_rfl)).trans (base_at hA 19 rfl)
        have f20 := (hI.base 20 (by rw [hO]; kernel_rfl)).trans (base_at hA 20 rfl)
        have f21 := (hI.base 21 (by rw [hO]; kernel_rfl)).trans (base_at hA 21 rfl)
        have f22 := (hI.base 22 (by rw [hO]; kernel_rfl)).trans (base_at hA 22 rfl)
        have f23 := (hI.base 23 (by rw [hO]; kernel_rfl)).trans (base_at hA 23 rfl)
        have f24 := (hI.base 24 (by rw [hO]; kernel_rfl)).trans (base_at hA 24 rfl)
        have f25 := (hI.base 25 (by rw [hO]; kernel_rfl)).trans (base_at hA 25 rfl)
        have f26 := (hI.base 26 (by rw [hO]; kernel_rfl)).trans (base_at hA 26 rfl)
        have f27 := (hI.base 27 (by rw [hO]; kernel_rfl)).trans (base_at hA 27 rfl)
        have f28 := (hI.base 28 (by rw [hO]; kernel_rfl)).trans (base_at hA 28 rfl)
        have f41 := (hI.base 41 (by rw [hO]; kernel_rfl)).trans (base_at hA 41 rfl)
        obtain ⟨tl0, rfl⟩ : ∃ tl : List Value, ts = tl.toArray := ⟨ts.toList, by simp⟩
        have htl0 : tl0.length = 42 := by simpa using hts
        clear hts
        obtain ⟨y0, tl1, et, htl1⟩ := len_succ htl0
        clear htl0
        subst et
        obtain ⟨y1, tl2, et, htl2⟩ := len_succ htl1
        clear htl1
        subst et
        obtain ⟨y2, tl3, et, htl3⟩ := len_succ htl2
        clear htl2
        subst et
        obtain ⟨y3, tl4, et, htl4⟩ := len_succ htl3
        clear htl3
        subst et
        obtain ⟨y4, tl5, et, htl5⟩ := len_succ htl4
        clear htl4
        subst et
        obtain ⟨y5, tl6, et, htl6⟩ := len_succ htl5
        clear htl5
        subst et
        obtain ⟨y6, tl7, et, htl7⟩ := len_succ htl6
        clear htl6
        subst et
        obtain ⟨y7, tl8, et, htl8⟩ := len_succ htl7
        clear htl7
        subst et
        obtain ⟨y8, tl9, et, htl9⟩ := len_succ htl8
        clear htl8
        subst et
        obtain ⟨y9, tl10, et, htl10⟩ := len_succ htl9
        clear htl9
        subst et
        obtain ⟨y10, tl11, et, htl11⟩ := len_succ htl10
        clear htl10
        subst et
        obtain ⟨y11, tl12, et, htl12⟩ := len_succ htl11
        clear htl11
        subst et
        obtain ⟨y12, tl13, et, htl13⟩ := len_succ htl12
        clear htl12
        subst et
        obtain ⟨y13, tl14, et, htl14⟩ := len_succ htl13
        clear htl13
        subst et
        obtain ⟨y14, tl15, et, htl15⟩ := len_succ htl14
        clear htl14
        subst et
        obtain ⟨y15, tl16, et, htl16⟩ := len_succ htl15
        clear htl15
        subst et
        obtain ⟨y16, tl17, et, htl17⟩ := len_succ htl16
        clear htl16
        subst et
        obtain ⟨y17, tl18, et, htl18⟩ := len_succ htl17
        clear htl17
        subst et
        obtain ⟨y18, tl19, et, htl19⟩ := len_succ htl18
        clear htl18
        subst et
        obtain ⟨y19, tl20, et, htl20⟩ := len_succ htl19
        clear htl19
        subst et
        obtain ⟨y20, tl21, et, htl21⟩ := len_succ htl20
        clear htl20
        subst et
        obtain ⟨y21, tl22, et, htl22⟩ := len_succ htl21
        clear htl21
        subst et
        obtain ⟨y22, tl23, et, htl23⟩ := len_succ htl22
        clear htl22
        subst et
        obtain ⟨y23, tl24, et, htl24⟩ := len_succ htl23
        clear htl23
        subst et
        obtain ⟨y24, tl25, et, htl25⟩ := len_succ htl24
        clear htl24
        subst et
        obtain ⟨y25, tl26, et, htl26⟩ := len_succ htl25
        clear htl25
        subst et
        obtain ⟨y26, tl27, et, htl27⟩ := len_succ htl26
        clear htl26
        subst et
        obtain ⟨y27, tl28, et, htl28⟩ := len_succ htl27
        clear htl27
        subst et
        obtain ⟨y28, tl29, et, htl29⟩ := len_succ htl28
        clear htl28
        subst et
        obtain ⟨y29, tl30, et, htl30⟩ := len_succ htl29
        clear htl29
        subst et
        obtain ⟨y30, tl31, et, htl31⟩ := len_succ htl30
        clear htl30
        subst et
        obtain ⟨y31, tl32, et, htl32⟩ := len_succ htl31
        clear htl31
        subst et
        obtain ⟨y32, tl33, et, htl33⟩ := len_succ htl32
        clear htl32
        subst et
        obtain ⟨y33, tl34, et, htl34⟩ := len_succ htl33
        clear htl33
        subst et
        obtain ⟨y34, tl35, et, htl35⟩ := len_succ htl34
        clear htl34
        subst et
        obtain ⟨y35, tl36, et, htl36⟩ := len_succ htl35
        clear htl35
        subst et
        obtain ⟨y36, tl37, et, htl37⟩ := len_succ htl36
        clear htl36
        subst et
        obtain ⟨y37, tl38, et, htl38⟩ := len_succ htl37
        clear htl37
        subst et
        obtain ⟨y38, tl39, et, htl39⟩ := len_succ htl38
        clear htl38
        subst et
        obtain ⟨y39, tl40, et, htl40⟩ := len_succ htl39
        clear htl39
        subst et
        obtain ⟨y40, tl41, et, htl41⟩ := len_succ htl40
        clear htl40
        subst et
        obtain ⟨y41, tl42, et, htl42⟩ := len_succ htl41
        clear htl41
        subst et
        have et := List.eq_nil_of_length_eq_zero htl42
        clear htl42
        subst et
        have g0 : y0 = _ := f0
        have g1 : y1 = _ := f1
        have g2 : y2 = _ := f2
        have g3 : y3 = _ := f3
        have g4 : y4 = _ := f4
        have g5 : y5 = _ := f5
        have g6 : y6 = _ := f6
        have g7 : y7 = _ := f7
        have g8 : y8 = _ := f8
        have g9 : y9 = _ := f9
        have g10 : y10 = _ := f10
        have g11 : y11 = _ := f11
        have g12 : y12 = _ := f12
        have g13 : y13 = _ := f13
        have g14 : y14 = _ := f14
        have g15 : y15 = _ := f15
        have g16 : y16 = _ := f16
        have g17 : y17 = _ := f17
        have g18 : y18 = _ := f18
        have g19 : y19 = _ := f19
        have g20 : y20 = _ := f20
        have g21 : y21 = _ := f21
        have g22 : y22 = _ := f22
        have g23 : y23 = _ := f23
        have g24 : y24 = _ := f24
        have g25 : y25 = _ := f25
        have g26 : y26 = _ := f26
        have g27 : y27 = _ := f27
        have g28 : y28 = _ := f28
        have g41 : y41 = _ := f41
        clear f0 f1 f2 f3 f4 f5 f6 f7 f8 f9 f10 f11 f12 f13 f14 f15 f16 f17 f18 f19 f20 f21 f22 f23 f24 f25 f26 f27 f28 f41
        subst hd g0 g1 g2 g3 g4 g5 g6 g7 g8 g9 g10 g11 g12 g13 g14 g15 g16 g17 g18 g19 g20 g21 g22 g23 g24 g25 g26 g27 g28 g41
        clear hI hall hln hV hs hz hA hO hQQ e10 hS R1 R2 k1 k2 vy_0 iy_0 sy_0 vy_1 iy_1 sy_1 vy_2 iy_2 sy_2 vy_3 iy_3 sy_3 vy_4 iy_4 sy_4 vy_5 iy_5 sy_5 vy_6 iy_6 sy_6 vy_7 iy_7 sy_7 vy_8 iy_8 sy_8 vy_9 iy_9 sy_9 vy_10 iy_10 sy_10 vy_11 iy_11 sy_11
        clear iy_12 C0
        generalize w.setCells b (kx * 2) [.slice (some ⟨g', 0, none⟩) mm mm, .int .i64 mm] = w5 at *
        clear FX PUT THR D9 BX9
        go_wp2_with fail
        refine ⟨⟨kx + 1, LT.out, rfl, ⟨_, D7.out.top (Nat.le_trans D7.out.sz (Nat.le_refl _)) (Nat.le_refl _), fun i hi => FIN.out _ _ _ rfl i hi⟩, C7⟩, by have := LT.out; simp only [intOf]; omega⟩
      · have d1 : decide (kx < kl) = false := by simpa using hkl
        have hk0 : kp = 0 := by rw [← ekp0]; exact kp_out hkl
        have D4 := Lib.hid D3
        clear hlt et es hss hkp ekp0 hmb E3 D3 D2
        subst hk0
        have em : IntKind.i64.wrap ((F2 kx).s : Int) = (mm : Int) := by simpa using em
        go_wp2_with fail
        have BX0 := Box.new wr [.slice (F2 kx).a (F2 kx).t.size (F2 kx).c, .int .i64 (F2 kx).s] 55
        have QA := (Q.refl wr).alloc (.cells #[.slice (F2 kx).a (F2 kx).t.size (F2 kx).c, .int .i64 (F2 kx).s] 55)
        generalize wr.alloc (.cells #[.slice (F2 kx).a (F2 kx).t.size (F2 kx).c, .int .i64 (F2 kx).s] 55) = wA at *
        obtain ⟨bx, hb⟩ : ∃ x, wr.heap.size = x := ⟨_, rfl⟩
        rw [hb] at BX0 ⊢
        have BX6 := Lib.hid BX0
        have D6 := Lib.hid ((D4.out.q QA).top QA.size (Nat.le_refl _))
        have C6 := Lib.hid (QR.out.trans (Ch.of_q QA b))
        clear QA BX0 hb D4 QR hrow emm
        obtain ⟨W9, hW9⟩ : ∃ W, wA.drew = W := ⟨_, rfl⟩
        have Q9 : Q wA W9 := by rw [← hW9]; exact (Q.refl _).drew
        have D9 := Lib.hid ((D6.out.q Q9).top (T' := W9.heap.size) Q9.size (Nat.le_refl _))
        have BX9 := Lib.hid (BX6.out.q Q9)
        have C9 := Lib.hid (C6.out.trans (Ch.of_q Q9 b))
        have C0 : ∀ w, Q W9 w → w.cell? ⟨g, 0, none⟩ = some (.slice (some ⟨b, 0, none⟩) n n) := fun w q => (D9.out.q q).g0
        have FX : Hid (∀ w, Q W9 w → Calls Try.prog 23 #[.agg #[.slice (F2 kx).a (F2 kx).t.size (F2 kx).c, .int .i64 (F2 kx).s], .int .i64 mm] w fun r w' =>
          ∃ g, r = .returned (.agg #[.slice (some ⟨g, 0, none⟩) mm mm, .int .i64 mm]) ∧ w.heap.size ≤ g ∧ w'.ownsRow w.heap.size 5 1 (.slice (some ⟨g, 0, none⟩) mm mm) mm (Lib.strCells ((F2 kx).t.extract 0 mm)) ∧ Q w w') := fun w q => first_x (F2 kx) mm ((D9.out.q q).r kx LT.out) HM.out (Nat.le_trans HM.out (Nat.le_trans (tot_at (t := fun j => (F2 j).t) LT.out) (Nat.le_trans D9.out.sum D9.out.hr)))
        have THR : Hid (∀ w, Q W9 w → w.there b (kx * 2) 2) := fun w q => (D9.out.q q).there LT.out
        have PUT : Hid (∀ v5 g', Q W9 v5 → W9.heap.size ≤ g' → v5.ownsRow W9.heap.size 5 1 (.slice (some ⟨g', 0, none⟩) mm mm) mm (Lib.strCells ((F2 kx).t.extract 0 mm)) →
            DK0 (v5.setCells b (kx * 2) [.slice (some ⟨g', 0, none⟩) mm mm, .int .i64 mm]) B v5.heap.size g b n (put F2 kx ⟨some ⟨g', 0, none⟩, mm, (F2 kx).t.extract 0 mm, mm⟩) room ∧ Ch b v5 (v5.setCells b (kx * 2) [.slice (some ⟨g', 0, none⟩) mm mm, .int .i64 mm])) := fun v5 g' q k1 k2 => by
          have hb := (D9.out.q q)
          have hsz := size_extract0 (F2 kx).t mm HM.out
          have hB := D9.out.b_lt
          have hlt := (World.ownsRow.lt k2 g' rfl).2
          have hmm := HM.out
          have hsm := hb.sum
          have := hb.set_row (T' := v5.heap.size) LT.out ⟨some ⟨g', 0, none⟩, mm, (F2 kx).t.extract 0 mm, mm⟩ hb.sz (Nat.le_refl _) (by show v5.ownsRow B _ 1 (.slice _ ((F2 kx).t.extract 0 mm).size _) ((F2 kx).t.extract 0 mm).size _; rw [hsz]; exact own_up k2 (by omega)) (fun k hk => by injection hk with hk; subst hk; exact ⟨.inr (by show W9.heap.size ≤ g'; omega), hlt⟩)
            (by show mm ≤ ((F2 kx).t.extract 0 mm).size; omega) (by show _ + ((F2 kx).t.extract 0 mm).size ≤ _; omega)
          unfold FL.cells at this
          dsimp only at this
          rw [hsz] at this
          exact this
        have hS0 : Q W9 wA.drew := by rw [hW9]; exact Q.refl _
        clear Q9 D6 BX6 C6
        refine region_gen3 ?_
        intro OPS QQ A0 hO hQQ hA
        have hz : A0.tmps.size = 42 := by rw [hA]; rfl
        have hs : sound OPS A0.tmps.size = true := by rw [hz, hO]; kernel_rfl
        have by_0 : A0.eval (.tmp 0) = .pointer (some ⟨g, 0, none⟩) := by rw [hA]; rfl
        have fry_0 : free OPS 0 = true := by rw [hO]; kernel_rfl
        have by_4 : A0.eval (.tmp 4) = .int .i64 kx := by rw [hA]; rfl
        have fry_4 : free OPS 4 = true := by rw [hO]; kernel_rfl
        have by_5 : A0.eval (.tmp 5) = .pointer (some ⟨bx, 0, none⟩) := by rw [hA]; rfl
        have fry_5 : free OPS 5 = true := by rw [hO]; kernel_rfl
        have by_6 : A0.eval (.tmp 6) = .int .i64 0 := by rw [hA]; rfl
        have fry_6 : free OPS 6 = true := by rw [hO]; kernel_rfl
        obtain ⟨VV, hVV⟩ : ∃ V : Nat → Value → World → Prop, V = fun i => ([fun v _ => v = .pointer (some ⟨g, 0, none⟩), fun v _ => v = .pointer (some ⟨g, 0, none⟩), fun v _ => v = .pointer (some ⟨g, 0, none⟩), fun v _ => v = .slice (some ⟨b, 0, none⟩) n n, fun v _ => v = .int .i64 kx, fun v _ => v = .agg #[.slice (F2 kx).a (F2 kx).t.size (F2 kx).c, .int .i64 (F2 kx).s], fun v _ => v = .pointer (some ⟨bx, 1, none⟩), fun v _ => v = .int .i64 ((F2 kx).s : Int), fun v _ => v = .int .i64 0, fun v _ => v = .int .i64 (mm : Int), fun v w' => ∃ g', v = .agg #[.slice (some ⟨g', 0, none⟩) mm mm, .int .i64 mm] ∧ W9.heap.size ≤ g' ∧ w'.ownsRow W9.heap.size 5 1 (.slice (some ⟨g', 0, none⟩) mm mm) mm (Lib.strCells ((F2 kx).t.extract 0 mm)), fun v _ => v = .pointer (some ⟨b, kx * 2, none⟩)] : List (Value → World → Prop)).getD i (fun _ _ => True) := ⟨_, rfl⟩
        have vy_0 : VV 0 = fun v _ => v = .pointer (some ⟨g, 0, none⟩) := vat hVV 0
        have vy_1 : VV 1 = fun v _ => v = .pointer (some ⟨g, 0, none⟩) := vat hVV 1
        have vy_2 : VV 2 = fun v _ => v = .pointer (some ⟨g, 0, none⟩) := vat hVV 2
        have vy_3 : VV 3 = fun v _ => v = .slice (some ⟨b, 0, none⟩) n n := vat hVV 3
        have vy_4 : VV 4 = fun v _ => v = .int .i64 kx := vat hVV 4
        have vy_5 : VV 5 = fun v _ => v = .agg #[.slice (F2 kx).a (F2 kx).t.size (F2 kx).c, .int .i64 (F2 kx).s] := vat hVV 5
        have vy_6 : VV 6 = fun v _ => v = .pointer (some ⟨bx, 1, none⟩) := vat hVV 6
        have vy_7 : VV 7 = fun v _ => v = .int .i64 ((F2 kx).s : Int) := vat hVV 7
        have vy_8 : VV 8 = fun v _ => v = .int .i64 0 := vat hVV 8
        have vy_9 : VV 9 = fun v _ => v = .int .i64 (mm : Int) := vat hVV 9
        have vy_10 : VV 10 = fun v w' => ∃ g', v = .agg #[.slice (some ⟨g', 0, none⟩) mm mm, .int .i64 mm] ∧ W9.heap.size ≤ g' ∧ w'.ownsRow W9.heap.size 5 1 (.slice (some ⟨g', 0, none⟩) mm mm) mm (Lib.strCells ((F2 kx).t.extract 0 mm)) := vat hVV 10
        have vy_11 : VV 11 = fun v _ => v = .pointer (some ⟨b, kx * 2, none⟩) := vat hVV 11
        have hV := stablex_of (T := Q) (p := 12) hVV ((sx_cons (fun _ _ _ h _ => h) (sx_cons (fun _ _ _ h _ => h) (sx_cons (fun _ _ _ h _ => h) (sx_cons (fun _ _ _ h _ => h) (sx_cons (fun _ _ _ h _ => h) (sx_cons (fun _ _ _ h _ => h) (sx_cons (fun _ _ _ h _ => h) (sx_cons (fun _ _ _ h _ => h) (sx_cons (fun _ _ _ h _ => h) (sx_cons (fun _ _ _ h _ => h) (sx_cons (fun v w w' h q => by obtain ⟨g', e1, e2, e3⟩ := h; exact ⟨g', e1, e2, own_keep e3 fun k hk => q.block k (World.ownsRow.lt e3 k hk).2⟩) (sx_cons (fun _ _ _ h _ => h) trivial)))))))))))))
        clear hVV
        have iy_0 := pget_at hO 0 rfl
        have iy_1 := pget_at hO 1 rfl
        have iy_2 := pget_at hO 2 rfl
        have iy_3 := pget_at hO 3 rfl
        have iy_4 := pget_at hO 4 rfl
        have iy_5 := pget_at hO 5 rfl
        have iy_6 := pget_at hO 6 rfl
        have iy_7 := pget_at hO 7 rfl
        have iy_8 := pget_at hO 8 rfl
        have iy_9 := pget_at hO 9 rfl
        have iy_10 := pget_at hO 10 rfl
        have iy_11 := pget_at hO 11 rfl
        have iy_12 := pget_at hO 12 rfl
        have sy_0 := Step2.pure (P := Try.prog) (V := VV) (T := Q) (S := (Q W9)) (a0 := A0) (p := 12) (Qx := QQ) iy_0 (by rw [hO]; kernel_rfl) (.pointer (some ⟨g, 0, none⟩)) (Q.refl ·) (fun l a w hI hl hS => ⟨wanted_none rfl, ex_move rfl ((hI.base 0 fry_0).trans by_0), at_mk vy_0 rfl⟩)
        have sy_1 := Step2.pure (P := Try.prog) (V := VV) (T := Q) (S := (Q W9)) (a0 := A0) (p := 12) (Qx := QQ) iy_1 (by rw [hO]; kernel_rfl) (.pointer (some ⟨g, 0, none⟩)) (Q.refl ·) (fun l a w hI hl hS => ⟨wanted_none rfl, (by have e0 : a.eval (.tmp 29) = _ := (at_eq vy_0 (hI.at_ 0 29 _ iy_0 rfl (hl_at hl 0 rfl rfl))); generalize a.eval = ρ at e0 ⊢; simp [go_sem, e0]), at_mk vy_1 rfl⟩)
        have sy_2 := Step2.pure (P := Try.prog) (V := VV) (T := Q) (S := (Q W9)) (a0 := A0) (p := 12) (Qx := QQ) iy_2 (by rw [hO]; kernel_rfl) (.pointer (some ⟨g, 0, none⟩)) (Q.refl ·) (fun l a w hI hl hS => ⟨wanted_none rfl, (by have e0 : a.eval (.tmp 30) = _ := (at_eq vy_1 (hI.at_ 1 30 _ iy_1 rfl (hl_at hl 0 rfl rfl))); generalize a.eval = ρ at e0 ⊢; simp [go_sem, e0]), at_mk vy_2 rfl⟩)
        have sy_3 := Step2.pure (P := Try.prog) (V := VV) (T := Q) (S := (Q W9)) (a0 := A0) (p := 12) (Qx := QQ) iy_3 (by rw [hO]; kernel_rfl) (.slice (some ⟨b, 0, none⟩) n n) (Q.refl ·) (fun l a w hI hl hS => ⟨wanted_none rfl, (by have e0 : a.eval (.tmp 31) = _ := (at_eq vy_2 (hI.at_ 2 31 _ iy_2 rfl (hl_at hl 0 rfl rfl))); have x0 := C0 w hS; generalize a.eval = ρ at e0 ⊢; simp [go_sem, e0, x0]), at_mk vy_3 rfl⟩)
        have sy_4 := Step2.pure (P := Try.prog) (V := VV) (T := Q) (S := (Q W9)) (a0 := A0) (p := 12) (Qx := QQ) iy_4 (by rw [hO]; kernel_rfl) (.int .i64 kx) (Q.refl ·) (fun l a w hI hl hS => ⟨wanted_none rfl, ex_move rfl ((hI.base 4 fry_4).trans by_4), at_mk vy_4 rfl⟩)
        have sy_5 := Step2.pure (P := Try.prog) (V := VV) (T := Q) (S := (Q W9)) (a0 := A0) (p := 12) (Qx := QQ) iy_5 (by rw [hO]; kernel_rfl) (.agg #[.slice (F2 kx).a (F2 kx).t.size (F2 kx).c, .int .i64 (F2 kx).s]) (Q.refl ·) (fun l a w hI hl hS => ⟨wanted_none rfl, ex_loado 55 rfl bx 0 [.slice (F2 kx).a (F2 kx).t.size (F2 kx).c, .int .i64 (F2 kx).s] _ ((hI.base 5 fry_5).trans by_5) (BX9.out.q hS).range Try.underlying55 rfl (by kernel_rfl), at_mk vy_5 rfl⟩)
        have sy_6 := Step2.pure (P := Try.prog) (V := VV) (T := Q) (S := (Q W9)) (a0 := A0) (p := 12) (Qx := QQ) iy_6 (by rw [hO]; kernel_rfl) (.pointer (some ⟨bx, 1, none⟩)) (Q.refl ·) (fun l a w hI hl hS => ⟨wanted_none rfl, (by have e0 : a.eval (.tmp 5) = _ := ((hI.base 5 fry_5).trans by_5); generalize a.eval = ρ at e0 ⊢; simp [go_sem, e0]), at_mk vy_6 rfl⟩)
        have sy_7 := Step2.pure (P := Try.prog) (V := VV) (T := Q) (S := (Q W9)) (a0 := A0) (p := 12) (Qx := QQ) iy_7 (by rw [hO]; kernel_rfl) (.int .i64 ((F2 kx).s : Int)) (Q.refl ·) (fun l a w hI hl hS => ⟨wanted_none rfl, (by have e0 : a.eval (.tmp 35) = _ := (at_eq vy_6 (hI.at_ 6 35 _ iy_6 rfl (hl_at hl 0 rfl rfl))); have x0 := (BX9.out.q hS).at_ 1 _ rfl; generalize a.eval = ρ at e0 ⊢; simp [go_sem, e0, x0]), at_mk vy_7 rfl⟩)
        have sy_8 := Step2.pure (P := Try.prog) (V := VV) (T := Q) (S := (Q W9)) (a0 := A0) (p := 12) (Qx := QQ) iy_8 (by rw [hO]; kernel_rfl) (.int .i64 0) (Q.refl ·) (fun l a w hI hl hS => ⟨wanted_none rfl, ex_move rfl ((hI.base 6 fry_6).trans by_6), at_mk vy_8 rfl⟩)
        have sy_9 := Step2.pure (P := Try.prog) (V := VV) (T := Q) (S := (Q W9)) (a0 := A0) (p := 12) (Qx := QQ) iy_9 (by rw [hO]; kernel_rfl) (.int .i64 (mm : Int)) (Q.refl ·) (fun l a w hI hl hS => ⟨wanted_none rfl, (by have e0 : a.eval (.tmp 36) = _ := (at_eq vy_7 (hI.at_ 7 36 _ iy_7 rfl (hl_at hl 0 rfl rfl))); have e1 : a.eval (.tmp 37) = _ := (at_eq vy_8 (hI.at_ 8 37 _ iy_8 rfl (hl_at hl 1 rfl rfl))); generalize a.eval = ρ at e0 e1 ⊢; simp [go_sem, e0, e1, em]), at_mk vy_9 rfl⟩)
        have sy_10 := Step2.done (P := Try.prog) (V := VV) (T := Q) (S := (Q W9)) (a0 := A0) (p := 12) (Qx := QQ) iy_10 (by rw [hO]; kernel_rfl) (fun l a w hI hl hS => by
          refine ⟨wanted_none rfl, ?_⟩
          refine wp_enter (f := 23) (args := #[.agg #[.slice (F2 kx).a (F2 kx).t.size (F2 kx).c, .int .i64 (F2 kx).s], .int .i64 mm]) ?_ ?_
          · exact ex_call rfl (by simp only [List.map_toArray, List.map_cons, List.map_nil, (show a.eval (.tmp 34) = _ from (at_eq vy_5 (hI.at_ 5 34 _ iy_5 rfl (hl_at hl 0 rfl rfl)))), (show a.eval (.tmp 38) = _ from (at_eq vy_9 (hI.at_ 9 38 _ iy_9 rfl (hl_at hl 1 rfl rfl))))]) Try.func23 (by kernel_rfl) (by kernel_rfl)
          · refine (FX.out w hS).mono fun e w' hc => ?_
            obtain ⟨g', rfl, k1, k2, hq⟩ := hc
            exact ⟨_, rfl, hq, hS.trans hq, p_at vy_10 ⟨g', rfl, Nat.le_trans hS.size k1, own_up k2 hS.size⟩⟩)
        have sy_11 := Step2.pure (P := Try.prog) (V := VV) (T := Q) (S := (Q W9)) (a0 := A0) (p := 12) (Qx := QQ) iy_11 (by rw [hO]; kernel_rfl) (.pointer (some ⟨b, kx * 2, none⟩)) (Q.refl ·) (fun l a w hI hl hS => ⟨wanted_none rfl, (by have e0 : a.eval (.tmp 32) = _ := (at_eq vy_3 (hI.at_ 3 32 _ iy_3 rfl (hl_at hl 0 rfl rfl))); have e1 : a.eval (.tmp 33) = _ := (at_eq vy_4 (hI.at_ 4 33 _ iy_4 rfl (hl_at hl 1 rfl rfl))); generalize a.eval = ρ at e0 e1 ⊢; simp [go_sem, e0, e1, j0, j1]), at_mk vy_11 rfl⟩)
        refine wp_plan2 VV (Q) (Q W9) 12 12 (by kernel_rfl) hs (by rw [hO]; rfl) (by rw [hO]; kernel_rfl) hV hS0 (steps2_all hO _ rfl ((s2_cons sy_0 (s2_cons sy_1 (s2_cons sy_2 (s2_cons sy_3 (s2_cons sy_4 (s2_cons sy_5 (s2_cons sy_6 (s2_cons sy_7 (s2_cons sy_8 (s2_cons sy_9 (s2_cons sy_10 (s2_cons sy_11 trivial)))))))))))))) ?_
        intro l a w hall hln hI
        have hS := hI.st hln
        obtain ⟨g', e10, k1, k2⟩ := (at_p vy_10 (hI.at_ 10 39 _ iy_10 rfl (hall 10 (by decide))))
        refine fin_of iy_12 (wanted_none rfl) ?_
        obtain ⟨R1, R2⟩ := PUT.out w g' hS k1 k2
        refine wp_store_mid 55 _ _ rfl b (kx * 2) #[.slice (some ⟨g', 0, none⟩) mm mm, .int .i64 mm] (at_eq vy_11 (hI.at_ 11 40 _ iy_11 rfl (hall 11 (by decide)))) e10 (THR.out w hS) (by kernel_rfl) (all_oneCell_toArray (one2 rfl rfl)) ?_
        rw [hQQ]
        have C7 := Lib.hid ((C9.out.trans (Ch.of_q hS b)).trans R2)
        have D7 := Lib.hid R1
        obtain ⟨ts, ds⟩ := a
        have hd : ds = [] := by have := hI.df; rw [hA] at this; exact this
        have hts : ts.size = 42 := by have := hI.sz; rw [hz] at this; exact this
        have f0 := (hI.base 0 (by rw [hO]; kernel_rfl)).trans (base_at hA 0 rfl)
        have f1 := (hI.base 1 (by rw [hO]; kernel_rfl)).trans (base_at hA 1 rfl)
        have f2 := (hI.base 2 (by rw [hO]; kernel_rfl)).trans (base_at hA 2 rfl)
        have f3 := (hI.base 3 (by rw [hO]; kernel_rfl)).trans (base_at hA 3 rfl)
        have f4 := (hI.base 4 (by rw [hO]; kernel_rfl)).trans (base_at hA 4 rfl)
        have f5 := (hI.base 5 (by rw [hO]; kernel_rfl)).trans (base_at hA 5 rfl)
        have f6 := (hI.base 6 (by rw [hO]; kernel_rfl)).trans (base_at hA 6 rfl)
        have f7 := (hI.base 7 (by rw [hO]; kernel_rfl)).trans (base_at hA 7 rfl)
        have f8 := (hI.base 8 (by rw [hO]; kernel_rfl)).trans (base_at hA 8 rfl)
        have f9 := (hI.base 9 (by rw [hO]; kernel_rfl)).trans (base_at hA 9 rfl)
        have f10 := (hI.base 10 (by rw [hO]; kernel_rfl)).trans (base_at hA 10 rfl)
        have f11 := (hI.base 11 (by rw [hO]; kernel_rfl)).trans (base_at hA 11 rfl)
        have f12 := (hI.base 12 (by rw [hO]; kernel_rfl)).trans (base_at hA 12 rfl)
        have f13 := (hI.base 13 (by rw [hO]; kernel_rfl)).trans (base_at hA 13 rfl)
        have f14 := (hI.base 14 (by rw [hO]; kernel_rfl)).trans (base_at hA 14 rfl)
        have f15 := (hI.base 15 (by rw [hO]; kernel_rfl)).trans (base_at hA 15 rfl)
        have f16 := (hI.base 16 (by rw [hO]; kernel_rfl)).trans (base_at hA 16 rfl)
        have f17 := (hI.base 17 (by rw [hO]; kernel_rfl)).trans (base_at hA 17 rfl)
        have f18 := (hI.base 18 (by rw [hO]; kernel_rfl)).trans (base_at hA 18 rfl)
        have f19 := (hI.base 19 (by rw [hO]; kernel_rfl)).trans (base_at hA 19 rfl)
        have f20 := (hI.base 20 (by rw [hO]; kernel_rfl)).trans (base_at hA 20 rfl)
        have f21 := (hI.base 21 (by rw [hO]; kernel_rfl)).trans (base_at hA 21 rfl)
        have f22 := (hI.base 22 (by rw [hO]; kernel_rfl)).trans (base_at hA 22 rfl)
        have f23 := (hI.base 23 (by rw [hO]; kernel_rfl)).trans (base_at hA 23 rfl)
        have f24 := (hI.base 24 (by rw [hO]; kernel_rfl)).trans (base_at hA 24 rfl)
        have f25 := (hI.base 25 (by rw [hO]; kernel_rfl)).trans (base_at hA 25 rfl)
        have f26 := (hI.base 26 (by rw [hO]; kernel_rfl)).trans (base_at hA 26 rfl)
        have f27 := (hI.base 27 (by rw [hO]; kernel_rfl)).trans (base_at hA 27 rfl)
        have f28 := (hI.base 28 (by rw [hO]; kernel_rfl)).trans (base_at hA 28 rfl)
        have f41 := (hI.base 41 (by rw [hO]; kernel_rfl)).trans (base_at hA 41 rfl)
        obtain ⟨tl0, rfl⟩ : ∃ tl : List Value, ts = tl.toArray := ⟨ts.toList, by simp⟩
        have htl0 : tl0.length = 42 := by simpa using hts
        clear hts
        obtain ⟨y0, tl1, et, htl1⟩ := len_succ htl0
        clear htl0
        subst et
        obtain ⟨y1, tl2, et, htl2⟩ := len_succ htl1
        clear htl1
        subst et
        obtain ⟨y2, tl3, et, htl3⟩ := len_succ htl2
        clear htl2
        subst et
        obtain ⟨y3, tl4, et, htl4⟩ := len_succ htl3
        clear htl3
        subst et
        obtain ⟨y4, tl5, et, htl5⟩ := len_succ htl4
        clear htl4
        subst et
        obtain ⟨y5, tl6, et, htl6⟩ := len_succ htl5
        clear htl5
        subst et
        obtain ⟨y6, tl7, et, htl7⟩ := len_succ htl6
        clear htl6
        subst et
        obtain ⟨y7, tl8, et, htl8⟩ := len_succ htl7
        clear htl7
        subst et
        obtain ⟨y8, tl9, et, htl9⟩ := len_succ htl8
        clear htl8
        subst et
        obtain ⟨y9, tl10, et, htl10⟩ := len_succ htl9
        clear htl9
        subst et
        obtain ⟨y10, tl11, et, htl11⟩ := len_succ htl10
        clear htl10
        subst et
        obtain ⟨y11, tl12, et, htl12⟩ := len_succ htl11
        clear htl11
        subst et
        obtain ⟨y12, tl13, et, htl13⟩ := len_succ htl12
        clear htl12
        subst et
        obtain ⟨y13, tl14, et, htl14⟩ := len_succ htl13
        clear htl13
        subst et
        obtain ⟨y14, tl15, et, htl15⟩ := len_succ htl14
        clear htl14
        subst et
        obtain ⟨y15, tl16, et, htl16⟩ := len_succ htl15
        clear htl15
        subst et
        obtain ⟨y16, tl17, et, htl17⟩ := len_succ htl16
        clear htl16
        subst et
        obtain ⟨y17, tl18, et, htl18⟩ := len_succ htl17
        clear htl17
        subst et
        obtain ⟨y18, tl19, et, htl19⟩ := len_succ htl18
        clear htl18
        subst et
        obtain ⟨y19, tl20, et, htl20⟩ := len_succ htl19
        clear htl19
        subst et
        obtain ⟨y20, tl21, et, htl21⟩ := len_succ htl20
        clear htl20
        subst et
        obtain ⟨y21, tl22, et, htl22⟩ := len_succ htl21
        clear htl21
        subst et
        obtain ⟨y22, tl23, et, htl23⟩ := len_succ htl22
        clear htl22
        subst et
        obtain ⟨y23, tl24, et, htl24⟩ := len_succ htl23
        clear htl23
        subst et
        obtain ⟨y24, tl25, et, htl25⟩ := len_succ htl24
        clear htl24
        subst et
        obtain ⟨y25, tl26, et, htl26⟩ := len_succ htl25
        clear htl25
        subst et
        obtain ⟨y26, tl27, et, htl27⟩ := len_succ htl26
        clear htl26
        subst et
        obtain ⟨y27, tl28, et, htl28⟩ := len_succ htl27
        clear htl27
        subst et
        obtain ⟨y28, tl29, et, htl29⟩ := len_succ htl28
        clear htl28
        subst et
        obtain ⟨y29, tl30, et, htl30⟩ := len_succ htl29
        clear htl29
        subst et
        obtain ⟨y30, tl31, et, htl31⟩ := len_succ htl30
        clear htl30
        subst et
        obtain ⟨y31, tl32, et, htl32⟩ := len_succ htl31
        clear htl31
        subst et
        obtain ⟨y32, tl33, et, htl33⟩ := len_succ htl32
        clear htl32
        subst et
        obtain ⟨y33, tl34, et, htl34⟩ := len_succ htl33
        clear htl33
        subst et
        obtain ⟨y34, tl35, et, htl35⟩ := len_succ htl34
        clear htl34
        subst et
        obtain ⟨y35, tl36, et, htl36⟩ := len_succ htl35
        clear htl35
        subst et
        obtain ⟨y36, tl37, et, htl37⟩ := len_succ htl36
        clear htl36
        subst et
        obtain ⟨y37, tl38, et, htl38⟩ := len_succ htl37
        clear htl37
        subst et
        obtain ⟨y38, tl39, et, htl39⟩ := len_succ htl38
        clear htl38
        subst et
        obtain ⟨y39, tl40, et, htl40⟩ := len_succ htl39
        clear htl39
        subst et
        obtain ⟨y40, tl41, et, htl41⟩ := len_succ htl40
        clear htl40
        subst et
        obtain ⟨y41, tl42, et, htl42⟩ := len_succ htl41
        clear htl41
        subst et
        have et := List.eq_nil_of_length_eq_zero htl42
        clear htl42
        subst et
        have g0 : y0 = _ := f0
        have g1 : y1 = _ := f1
        have g2 : y2 = _ := f2
        have g3 : y3 = _ := f3
        have g4 : y4 = _ := f4
        have g5 : y5 = _ := f5
        have g6 : y6 = _ := f6
        have g7 : y7 = _ := f7
        have g8 : y8 = _ := f8
        have g9 : y9 = _ := f9
        have g10 : y10 = _ := f10
        have g11 : y11 = _ := f11
        have g12 : y12 = _ := f12
        have g13 : y13 = _ := f13
        have g14 : y14 = _ := f14
        have g15 : y15 = _ := f15
        have g16 : y16 = _ := f16
        have g17 : y17 = _ := f17
        have g18 : y18 = _ := f18
        have g19 : y19 = _ := f19
        have g20 : y20 = _ := f20
        have g21 : y21 = _ := f21
        have g22 : y22 = _ := f22
        have g23 : y23 = _ := f23
        have g24 : y24 = _ := f24
        have g25 : y25 = _ := f25
        have g26 : y26 = _ := f26
        have g27 : y27 = _ := f27
        have g28 : y28 = _ := f28
        have g41 : y41 = _ := f41
        clear f0 f1 f2 f3 f4 f5 f6 f7 f8 f9 f10 f11 f12 f13 f14 f15 f16 f17 f18 f19 f20 f21 f22 f23 f24 f25 f26 f27 f28 f41
        subst hd g0 g1 g2 g3 g4 g5 g6 g7 g8 g9 g10 g11 g12 g13 g14 g15 g16 g17 g18 g19 g20 g21 g22 g23 g24 g25 g26 g27 g28 g41
        clear hI hall hln hV hs hz hA hO hQQ e10 hS R1 R2 k1 k2 vy_0 iy_0 sy_0 vy_1 iy_1 sy_1 vy_2 iy_2 sy_2 vy_3 iy_3 sy_3 vy_4 iy_4 sy_4 vy_5 iy_5 sy_5 vy_6 iy_6 sy_6 vy_7 iy_7 sy_7 vy_8 iy_8 sy_8 vy_9 iy_9 sy_9 vy_10 iy_10 sy_10 vy_11 iy_11 sy_11
        clear iy_12 C0
        generalize w.setCells b (kx * 2) [.slice (some ⟨g', 0, none⟩) mm mm, .int .i64 mm] = w5 at *
        clear FX PUT THR D9 BX9
        go_wp2_with fail
        refine ⟨⟨kx + 1, LT.out, rfl, ⟨_, D7.out.top (Nat.le_trans D7.out.sz (Nat.le_refl _)) (Nat.le_refl _), fun i hi => FIN.out _ _ _ rfl i hi⟩, C7⟩, by have := LT.out; simp only [intOf]; omega⟩
    · obtain rfl : kx = n := by omega
      have td : decide (kx < kx) = false := by simp
      go_wp2_with fail
      go_end0
      exact ⟨rfl, D2.out, QR.out⟩
end
end Go.Proofs.Ytnojglfaijhiaaa.Dk
