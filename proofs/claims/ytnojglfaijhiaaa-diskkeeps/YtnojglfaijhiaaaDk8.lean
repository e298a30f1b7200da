/-
  Layer 13: the program's Copy.
-/
import Derived.Test.YtnojglfaijhiaaaDk7
namespace Go.Proofs.Ytnojglfaijhiaaa.Dk
open Go.RowKit
open Mem Plan
set_option linter.unusedVariables false
set_option linter.unusedSimpArgs false

theorem ext_all (t : ByteArray) : t.extract 0 t.size = t := by simp
/-- The first k files are there, the others are empty. -/
def ptT (t : Nat → ByteArray) (k : Nat) : Nat → ByteArray := fun j => if j < k then t j else ⟨#[]⟩
def ptS (s : Nat → Nat) (k : Nat) : Nat → Nat := fun j => if j < k then s j else 0
theorem tot_pt (t : Nat → ByteArray) (k : Nat) : ∀ n, k ≤ n → tot (ptT t k) n = tot t k
  | 0, h => by obtain rfl : k = 0 := by omega
               rfl
  | n + 1, h => by
    show tot (ptT t k) n + (ptT t k n).size = _
    by_cases e : k = n + 1
    · subst e
      rw [tot_congr (t := ptT t (n + 1)) (t' := t) n fun i hi => by unfold ptT; rw [if_pos (by omega)]]
      unfold ptT; rw [if_pos (by omega)]; rfl
    · rw [tot_pt t k n (by omega)]
      unfold ptT; rw [if_neg (by omega)]; rfl
theorem Box.range {w : World} {b : Nat} {cs : List Value} (h : Box w b cs) : w.rangeAt b 0 cs := fun j v hj => by rw [Nat.zero_add]; exact h.at_ j v hj
section
variable {w : World} {B T g b n room : Nat} {F : Nat → FL} {t : Nat → ByteArray} {s : Nat → Nat}
set_option maxHeartbeats 8000000 in
set_option maxRecDepth 100000 in
theorem dcopy_x (h : DK w B T g b n t s room) : Calls Try.prog 9 #[.pointer (some ⟨g, 0, none⟩)] w fun r w' => ∃ g' b', r = .returned (.pointer (some ⟨g', 0, none⟩)) ∧ DK w' w.heap.size w'.heap.size g' b' n t s room ∧ Q w w' := by
  obtain ⟨F, h, e⟩ := h
  have c0 := h.g0
  have c1 := h.g1
  have HM := makeF w.drew n h.hn
  have a0 : (w.alloc (zf n)).cell? ⟨g, 0, none⟩ = some (.slice (some ⟨b, 0, none⟩) n n) := Q.cell' ((Q.refl w).alloc _) c0
  have a1 : (w.alloc (zf n)).cell? ⟨g, 1, none⟩ = some (.int .i64 room) := Q.cell' ((Q.refl w).alloc _) c1
  have HD := Lib.hid h
  have HE := Lib.hid e
  have hn8 := h.hn
  have HN := Lib.hid ((DK0.made w h.n1 h.hn h.hr).q (Q.refl _).drew)
  have QA : Hid (Q w ((w.alloc (zf n)).alloc (.cells #[.slice (some ⟨w.heap.size, 0, none⟩) n n, .int .i64 room] 49)).drew) := (((Q.refl w).alloc _).alloc _).drew
  clear h e
  go_enter Try.func9, Try.ntmps9
  go_wp2_with fail
  go_region
  clear HM a0 a1 c1
  generalize ((w.alloc (zf n)).alloc (.cells #[.slice (some ⟨w.heap.size, 0, none⟩) n n, .int .i64 room] 49)).drew = WA at *
  have c2 := Q.cell' QA.out c0
  have HN1 : Hid (DK WA w.heap.size WA.heap.size (w.heap.size + 1) w.heap.size n (ptT t 0) (ptS s 0) room) := ⟨_, HN.out.top HN.out.sz (Nat.le_refl _), fun i hi => ⟨rfl, rfl⟩⟩
  obtain ⟨g2, hg2⟩ : ∃ x, w.heap.size + 1 = x := ⟨_, rfl⟩
  obtain ⟨b2, hb2⟩ : ∃ x, w.heap.size = x := ⟨_, rfl⟩
  have HB : Hid (b2 = w.heap.size) := hb2.symm
  have HN2 : Hid (DK WA w.heap.size WA.heap.size g2 b2 n (ptT t 0) (ptS s 0) room) := by rw [← hg2]; rw [← hb2]; exact HN1.out
  rw [hg2, hb2]
  clear HN HN1 hg2 hb2 c0
  go_wp2_with fail
  go_loopw [4, 5, 23] (fun i4 p5 i wr => ∃ kx : Nat, kx ≤ n ∧ i = .int .i64 kx ∧ Hid (DK wr w.heap.size wr.heap.size g2 b2 n (ptT t kx) (ptS s kx) room) ∧ Hid (Q w wr)) (fun i4 p5 i _ => n - (intOf i).toNat)
  case atStart => exact ⟨0, Nat.zero_le _, rfl, HN2, QA⟩
  case round =>
    obtain ⟨kx, hk, rfl, D2, QR⟩ := hrel
    clear HN2 QA c2
    by_cases hlt : kx < n
    · have j0 : (0 : Int) ≤ (kx : Int) := by omega
      have j1 : (kx : Int) < (n : Int) := by omega
      have hrow := Lib.hid (fun j v hv => (HD.out.q QR.out).row hlt j v hv)
      have LT := Lib.hid hlt
      clear hlt
      go_wp2_with (with_reducible (show wpList _ _ _ (⟨_, Op.load 55 _, _, _, _, _⟩ :: _) _ _); refine halt ?_)
      refine Lib.hid (ld_row rfl 55 _ rfl b (kx * 2) [.slice (F kx).a (F kx).t.size (F kx).c, .int .i64 (F kx).s] rfl (fun j v hv => hrow.out j v hv) Try.underlying55 rfl (by kernel_rfl) ?_)
      go_wp2_with fail
      have BX0 := Box.new wr [.slice (F kx).a (F kx).t.size (F kx).c, .int .i64 (F kx).s] 55
      have QA := (Q.refl wr).alloc (.cells #[.slice (F kx).a (F kx).t.size (F kx).c, .int .i64 (F kx).s] 55)
      have hbx : (wr.alloc (.cells #[.slice (F kx).a (F kx).t.size (F kx).c, .int .i64 (F kx).s] 55)).heap.size = wr.heap.size + 1 := by simp
      generalize wr.alloc (.cells #[.slice (F kx).a (F kx).t.size (F kx).c, .int .i64 (F kx).s] 55) = wA at *
      obtain ⟨bx, hb⟩ : ∃ x, wr.heap.size = x := ⟨_, rfl⟩
      rw [hb] at BX0 ⊢
      obtain ⟨W0, hW0⟩ : ∃ W, wA.drew = W := ⟨_, rfl⟩
      have Q0 : Q wr W0 := by rw [← hW0]; exact QA.drew
      have BX : Hid (Box W0 bx [.slice (F kx).a (F kx).t.size (F kx).c, .int .i64 (F kx).s]) := by rw [← hW0]; exact BX0.q (Q.refl _).drew
      have NB : Hid (bx ≠ b2) := by have := D2.out.b_lt; show bx ≠ b2; omega
      have QW := Lib.hid (QR.out.trans Q0)
      obtain ⟨F2, D3, E3⟩ := D2.out
      have hsz0 : W0.heap.size = bx + 1 := by rw [← hW0, ← hb]; exact hbx
      have D4 := Lib.hid ((D3.q Q0).top (T' := W0.heap.size) (by omega) (Nat.le_refl _))
      have E4 := Lib.hid E3
      clear D2 D3 E3 BX0 QA hbx hb hsz0 hrow
      have HL : Hid (B ≤ w.heap.size) := by have := HD.out.b_lt; show _ ≤ _; omega
      have C0 : ∀ w, Q W0 w → w.cell? ⟨g2, 0, none⟩ = some (.slice (some ⟨b2, 0, none⟩) n n) := fun w q => (D4.out.q q).g0
      have RFX : Hid (∀ w, Q W0 w → w.ownsRow B 5 1 (.slice (F kx).a (F kx).t.size (F kx).c) (F kx).t.size (Lib.strCells (F kx).t)) := fun w q => ((HD.out.q QW.out).q q).r kx LT.out
      have FX : Hid (∀ w, Q W0 w → Calls Try.prog 23 #[.agg #[.slice (F kx).a (F kx).t.size (F kx).c, .int .i64 (F kx).s], .int .i64 (F kx).t.size] w fun r w' =>
        ∃ g, r = .returned (.agg #[.slice (some ⟨g, 0, none⟩) (F kx).t.size (F kx).t.size, .int .i64 (F kx).t.size]) ∧ w.heap.size ≤ g ∧ w'.ownsRow w.heap.size 5 1 (.slice (some ⟨g, 0, none⟩) (F kx).t.size (F kx).t.size) (F kx).t.size (Lib.strCells (F kx).t) ∧ Q w w') := fun w q => by
          have := first_x (F kx) (F kx).t.size (RFX.out w q) (Nat.le_refl _) (Nat.le_trans (tot_at (t := fun j => (F j).t) LT.out) (Nat.le_trans HD.out.sum HD.out.hr))
          rw [ext_all] at this
          exact this
      have THR : Hid (∀ w, Q W0 w → w.there b2 (kx * 2) 2) := fun w q => (D4.out.q q).there LT.out
      have PUT : Hid (∀ v5 g', Q W0 v5 → W0.heap.size ≤ g' → v5.ownsRow W0.heap.size 5 1 (.slice (some ⟨g', 0, none⟩) (F kx).t.size (F kx).t.size) (F kx).t.size (Lib.strCells (F kx).t) →
          DK0 (v5.setCells b2 (kx * 2) [.slice (some ⟨g', 0, none⟩) (F kx).t.size (F kx).t.size, .int .i64 (F kx).t.size]) w.heap.size v5.heap.size g2 b2 n (put F2 kx ⟨some ⟨g', 0, none⟩, (F kx).t.size, (F kx).t, (F kx).t.size⟩) room ∧ Ch b2 v5 (v5.setCells b2 (kx * 2) [.slice (some ⟨g', 0, none⟩) (F kx).t.size (F kx).t.size, .int .i64 (F kx).t.size])) := fun v5 g' q k1 k2 => by
        have hb := (D4.out.q q)
        have hT := D4.out.sz
        have hB := D4.out.b_lt
        have hlt := (World.ownsRow.lt k2 g' rfl).2
        have t1 : tot (fun j => (F2 j).t) n = tot t kx := by rw [tot_congr (t' := ptT t kx) n fun i hi => (E4.out i hi).1]; exact tot_pt t kx n (Nat.le_of_lt LT.out)
        have t2 : (F kx).t = t kx := (HE.out kx LT.out).1
        have t3 : tot t (kx + 1) = tot t kx + (t kx).size := rfl
        have t4 : tot t (kx + 1) ≤ tot t n := tot_le LT.out
        have t5 : tot t n ≤ room := by rw [← tot_congr (t := fun i => (F i).t) n fun i hi => (HE.out i hi).1]; exact HD.out.sum
        have t6 : (F kx).t.size = (t kx).size := by rw [t2]
        exact hb.set_row (T' := v5.heap.size) LT.out ⟨some ⟨g', 0, none⟩, (F kx).t.size, (F kx).t, (F kx).t.size⟩ hb.sz (Nat.le_refl _) (own_up k2 (by omega)) (fun k hk => by injection hk with hk; subst hk; exact ⟨.inr (by show W0.heap.size ≤ g'; omega), hlt⟩)
          (Nat.le_refl _) (by show _ + (F kx).t.size ≤ _; omega)
      have hS0 : Q W0 wA.drew := by rw [hW0]; exact Q.refl _
      clear Q0
      refine region_gen3 ?_
      intro OPS QQ A0 hO hQQ hA
      have hz : A0.tmps.size = 50 := by rw [hA]; rfl
      have hs : sound OPS A0.tmps.size = true := by rw [hz, hO]; kernel_rfl
      have b_3 : A0.eval (.tmp 3) = .pointer (some ⟨g2, 0, none⟩) := by rw [hA]; rfl
      have fr_3 : free OPS 3 = true := by rw [hO]; kernel_rfl
      have b_4 : A0.eval (.tmp 4) = .int .i64 kx := by rw [hA]; rfl
      have fr_4 : free OPS 4 = true := by rw [hO]; kernel_rfl
      have b_5 : A0.eval (.tmp 5) = .pointer (some ⟨bx, 0, none⟩) := by rw [hA]; rfl
      have fr_5 : free OPS 5 = true := by rw [hO]; kernel_rfl
      obtain ⟨VV, hVV⟩ : ∃ V : Nat → Value → World → Prop, V = fun i => ([fun v _ => v = .pointer (some ⟨g2, 0, none⟩), fun v _ => v = .pointer (some ⟨g2, 0, none⟩), fun v _ => v = .pointer (some ⟨g2, 0, none⟩), fun v _ => v = .slice (some ⟨b2, 0, none⟩) n n, fun v _ => v = .int .i64 kx, fun v _ => v = .agg #[.slice (F kx).a (F kx).t.size (F kx).c, .int .i64 (F kx).s], fun v _ => v = .pointer (some ⟨bx, 0, none⟩), fun v _ => v = .slice (F kx).a (F kx).t.size (F kx).c, fun v _ => v = .int .i64 (F kx).t.size, fun v w' => ∃ g', v = .agg #[.slice (some ⟨g', 0, none⟩) (F kx).t.size (F kx).t.size, .int .i64 (F kx).t.size] ∧ W0.heap.size ≤ g' ∧ w'.ownsRow W0.heap.size 5 1 (.slice (some ⟨g', 0, none⟩) (F kx).t.size (F kx).t.size) (F kx).t.size (Lib.strCells (F kx).t), fun v _ => v = .pointer (some ⟨b2, kx * 2, none⟩)] : List (Value → World → Prop)).getD i (fun _ _ => True) := ⟨_, rfl⟩
      have v_0 : VV 0 = fun v _ => v = .pointer (some ⟨g2, 0, none⟩) := vat hVV 0
      have v_1 : VV 1 = fun v _ => v = .pointer (some ⟨g2, 0, none⟩) := vat hVV 1
      have v_2 : VV 2 = fun v _ => v = .pointer (some ⟨g2, 0, none⟩) := vat hVV 2
      have v_3 : VV 3 = fun v _ => v = .slice (some ⟨b2, 0, none⟩) n n := vat hVV 3
      have v_4 : VV 4 = fun v _ => v = .int .i64 kx := vat hVV 4
      have v_5 : VV 5 = fun v _ => v = .agg #[.slice (F kx).a (F kx).t.size (F kx).c, .int .i64 (F kx).s] := vat hVV 5
      have v_6 : VV 6 = fun v _ => v = .pointer (some ⟨bx, 0, none⟩) := vat hVV 6
      have v_7 : VV 7 = fun v _ => v = .slice (F kx).a (F kx).t.size (F kx).c := vat hVV 7
      have v_8 : VV 8 = fun v _ => v = .int .i64 (F kx).t.size := vat hVV 8
      have v_9 : VV 9 = fun v w' => ∃ g', v = .agg #[.slice (some ⟨g', 0, none⟩) (F kx).t.size (F kx).t.size, .int .i64 (F kx).t.size] ∧ W0.heap.size ≤ g' ∧ w'.ownsRow W0.heap.size 5 1 (.slice (some ⟨g', 0, none⟩) (F kx).t.size (F kx).t.size) (F kx).t.size (Lib.strCells (F kx).t) := vat hVV 9
      have v_10 : VV 10 = fun v _ => v = .pointer (some ⟨b2, kx * 2, none⟩) := vat hVV 10
      have hV := stablex_of (T := Q) (p := 11) hVV ((sx_cons (fun _ _ _ h _ => h) (sx_cons (fun _ _ _ h _ => h) (sx_cons (fun _ _ _ h _ => h) (sx_cons (fun _ _ _ h _ => h) (sx_cons (fun _ _ _ h _ => h) (sx_cons (fun _ _ _ h _ => h) (sx_cons (fun _ _ _ h _ => h) (sx_cons (fun _ _ _ h _ => h) (sx_cons (fun _ _ _ h _ => h) (sx_cons (fun v w w' h q => by obtain ⟨g', e1, e2, e3⟩ := h; exact ⟨g', e1, e2, own_keep e3 fun k hk => q.block k (World.ownsRow.lt e3 k hk).2⟩) (sx_cons (fun _ _ _ h _ => h) trivial))))))))))))
      clear hVV
      have i_0 := pget_at hO 0 rfl
      have i_1 := pget_at hO 1 rfl
      have i_2 := pget_at hO 2 rfl
      have i_3 := pget_at hO 3 rfl
      have i_4 := pget_at hO 4 rfl
      have i_5 := pget_at hO 5 rfl
      have i_6 := pget_at hO 6 rfl
      have i_7 := pget_at hO 7 rfl
      have i_8 := pget_at hO 8 rfl
      have i_9 := pget_at hO 9 rfl
      have i_10 := pget_at hO 10 rfl
      have i_11 := pget_at hO 11 rfl
      have s_0 := Step2.pure (P := Try.prog) (V := VV) (T := Q) (S := (Q W0)) (a0 := A0) (p := 11) (Qx := QQ) i_0 (by rw [hO]; kernel_rfl) (.pointer (some ⟨g2, 0, none⟩)) (Q.refl ·) (fun l a w hI hl hS => ⟨wanted_none rfl, ex_move rfl ((hI.base 3 fr_3).trans b_3), at_mk v_0 rfl⟩)
      have s_1 := Step2.pure (P := Try.prog) (V := VV) (T := Q) (S := (Q W0)) (a0 := A0) (p := 11) (Qx := QQ) i_1 (by rw [hO]; kernel_rfl) (.pointer (some ⟨g2, 0, none⟩)) (Q.refl ·) (fun l a w hI hl hS => ⟨wanted_none rfl, (by have e0 : a.eval (.tmp 28) = _ := (at_eq v_0 (hI.at_ 0 28 _ i_0 rfl (hl_at hl 0 rfl rfl))); generalize a.eval = ρ at e0 ⊢; simp [go_sem, e0]), at_mk v_1 rfl⟩)
      have s_2 := Step2.pure (P := Try.prog) (V := VV) (T := Q) (S := (Q W0)) (a0 := A0) (p := 11) (Qx := QQ) i_2 (by rw [hO]; kernel_rfl) (.pointer (some ⟨g2, 0, none⟩)) (Q.refl ·) (fun l a w hI hl hS => ⟨wanted_none rfl, (by have e0 : a.eval (.tmp 29) = _ := (at_eq v_1 (hI.at_ 1 29 _ i_1 rfl (hl_at hl 0 rfl rfl))); generalize a.eval = ρ at e0 ⊢; simp [go_sem, e0]), at_mk v_2 rfl⟩)
      have s_3 := Step2.pure (P := Try.prog) (V := VV) (T := Q) (S := (Q W0)) (a0 := A0) (p := 11) (Qx := QQ) i_3 (by rw [hO]; kernel_rfl) (.slice (some ⟨b2, 0, none⟩) n n) (Q.refl ·) (fun l a w hI hl hS => ⟨wanted_none rfl, (by have e0 : a.eval (.tmp 30) = _ := (at_eq v_2 (hI.at_ 2 30 _ i_2 rfl (hl_at hl 0 rfl rfl))); have x0 := C0 w hS; generalize a.eval = ρ at e0 ⊢; simp [go_sem, e0, x0]), at_mk v_3 rfl⟩)
      have s_4 := Step2.pure (P := Try.prog) (V := VV) (T := Q) (S := (Q W0)) (a0 := A0) (p := 11) (Qx := QQ) i_4 (by rw [hO]; kernel_rfl) (.int .i64 kx) (Q.refl ·) (fun l a w hI hl hS => ⟨wanted_none rfl, ex_move rfl ((hI.base 4 fr_4).trans b_4), at_mk v_4 rfl⟩)
      have s_5 := Step2.pure (P := Try.prog) (V := VV) (T := Q) (S := (Q W0)) (a0 := A0) (p := 11) (Qx := QQ) i_5 (by rw [hO]; kernel_rfl) (.agg #[.slice (F kx).a (F kx).t.size (F kx).c, .int .i64 (F kx).s]) (Q.refl ·) (fun l a w hI hl hS => ⟨wanted_none rfl, ex_loado 55 rfl bx 0 [.slice (F kx).a (F kx).t.size (F kx).c, .int .i64 (F kx).s] _ ((hI.base 5 fr_5).trans b_5) (BX.out.q hS).range Try.underlying55 rfl (by kernel_rfl), at_mk v_5 rfl⟩)
      have s_6 := Step2.pure (P := Try.prog) (V := VV) (T := Q) (S := (Q W0)) (a0 := A0) (p := 11) (Qx := QQ) i_6 (by rw [hO]; kernel_rfl) (.pointer (some ⟨bx, 0, none⟩)) (Q.refl ·) (fun l a w hI hl hS => ⟨wanted_none rfl, (by have e0 : a.eval (.tmp 5) = _ := ((hI.base 5 fr_5).trans b_5); generalize a.eval = ρ at e0 ⊢; simp [go_sem, e0]), at_mk v_6 rfl⟩)
      have s_7 := Step2.pure (P := Try.prog) (V := VV) (T := Q) (S := (Q W0)) (a0 := A0) (p := 11) (Qx := QQ) i_7 (by rw [hO]; kernel_rfl) (.slice (F kx).a (F kx).t.size (F kx).c) (Q.refl ·) (fun l a w hI hl hS => ⟨wanted_none rfl, (by have e0 : a.eval (.tmp 34) = _ := (at_eq v_6 (hI.at_ 6 34 _ i_6 rfl (hl_at hl 0 rfl rfl))); have x0 := (BX.out.q hS).at_ 0 _ rfl; generalize a.eval = ρ at e0 ⊢; simp [go_sem, e0, x0]), at_mk v_7 rfl⟩)
      have s_8 := Step2.pure (P := Try.prog) (V := VV) (T := Q) (S := (Q W0)) (a0 := A0) (p := 11) (Qx := QQ) i_8 (by rw [hO]; kernel_rfl) (.int .i64 (F kx).t.size) (Q.refl ·) (fun l a w hI hl hS => ⟨wanted_none rfl, (by have e0 : a.eval (.tmp 35) = _ := (at_eq v_7 (hI.at_ 7 35 _ i_7 rfl (hl_at hl 0 rfl rfl))); generalize a.eval = ρ at e0 ⊢; simp [go_sem, e0]), at_mk v_8 rfl⟩)
      have s_9 := Step2.done (P := Try.prog) (V := VV) (T := Q) (S := (Q W0)) (a0 := A0) (p := 11) (Qx := QQ) i_9 (by rw [hO]; kernel_rfl) (fun l a w hI hl hS => by
        refine ⟨wanted_none rfl, ?_⟩
        refine wp_enter (f := 23) (args := #[.agg #[.slice (F kx).a (F kx).t.size (F kx).c, .int .i64 (F kx).s], .int .i64 (F kx).t.size]) ?_ ?_
        · exact ex_call rfl (by simp only [List.map_toArray, List.map_cons, List.map_nil, (show a.eval (.tmp 33) = _ from (at_eq v_5 (hI.at_ 5 33 _ i_5 rfl (hl_at hl 0 rfl rfl)))), (show a.eval (.tmp 36) = _ from (at_eq v_8 (hI.at_ 8 36 _ i_8 rfl (hl_at hl 1 rfl rfl))))]) Try.func23 (by kernel_rfl) (by kernel_rfl)
        · refine (FX.out w hS).mono fun e w' hc => ?_
          obtain ⟨g', rfl, k1, k2, hq⟩ := hc
          exact ⟨_, rfl, hq, hS.trans hq, p_at v_9 ⟨g', rfl, Nat.le_trans hS.size k1, own_up k2 hS.size⟩⟩)
      have s_10 := Step2.pure (P := Try.prog) (V := VV) (T := Q) (S := (Q W0)) (a0 := A0) (p := 11) (Qx := QQ) i_10 (by rw [hO]; kernel_rfl) (.pointer (some ⟨b2, kx * 2, none⟩)) (Q.refl ·) (fun l a w hI hl hS => ⟨wanted_none rfl, (by have e0 : a.eval (.tmp 31) = _ := (at_eq v_3 (hI.at_ 3 31 _ i_3 rfl (hl_at hl 0 rfl rfl))); have e1 : a.eval (.tmp 32) = _ := (at_eq v_4 (hI.at_ 4 32 _ i_4 rfl (hl_at hl 1 rfl rfl))); generalize a.eval = ρ at e0 e1 ⊢; simp [go_sem, e0, e1, j0, j1]), at_mk v_10 rfl⟩)
      refine wp_plan2 VV (Q) (Q W0) 11 11 (by kernel_rfl) hs (by rw [hO]; rfl) (by rw [hO]; kernel_rfl) hV hS0 (steps2_all hO _ rfl ((s2_cons s_0 (s2_cons s_1 (s2_cons s_2 (s2_cons s_3 (s2_cons s_4 (s2_cons s_5 (s2_cons s_6 (s2_cons s_7 (s2_cons s_8 (s2_cons s_9 (s2_cons s_10 trivial))))))))))))) ?_
      intro l a w hall hln hI
      have hS := hI.st hln
      obtain ⟨g', e9, k1, k2⟩ := (at_p v_9 (hI.at_ 9 37 _ i_9 rfl (hall 9 (by decide))))
      refine fin_of i_11 (wanted_none rfl) ?_
      obtain ⟨R1, R2⟩ := PUT.out w g' hS k1 k2
      refine wp_store_mid 55 _ _ rfl b2 (kx * 2) #[.slice (some ⟨g', 0, none⟩) (F kx).t.size (F kx).t.size, .int .i64 (F kx).t.size] (at_eq v_10 (hI.at_ 10 38 _ i_10 rfl (hall 10 (by decide)))) e9 (THR.out w hS) (by kernel_rfl) (all_oneCell_toArray (one2 rfl rfl)) ?_
      rw [hQQ]
      have C5 := ((Ch.of_q (Q.refl W0) b2).trans (Ch.of_q hS b2)).trans R2
      have BX5 := (BX.out.q hS).ch R2 NB.out
      obtain ⟨ts, ds⟩ := a
      have hd : ds = [] := by have := hI.df; rw [hA] at this; exact this
      have hts : ts.size = 50 := by have := hI.sz; rw [hz] at this; exact this
      have f0 := (hI.base 0 (by rw [hO]; kernel_rfl)).trans (base_at hA 0 rfl)
      have f1 := (hI.base 1 (by rw [hO]; kernel_rfl)).trans (base_at hA 1 rfl)
      have f2 := (hI.base 2 (by rw [hO]; kernel_rfl)).trans (base_at hA 2 rfl)
      have f3 := (hI.base 3 (by rw [hO]; kernel_rfl)).trans (base_at hA 3 rfl)
      have f4 := (hI.base 4 (by rw [hO]; kernel_rfl)).trans (base_at hA 4 rfl)
      have f5 := (hI.base 5 (by rw [hO]; kernel_rfl)).trans (base_at hA 5 rfl)
      have f6 := (hI.base 6 (by rw [hO]; kernel_rfl)).trans (base_at hA 6 rfl)
      have f7 := (hI.base 7 (by rw [hO]; kernel_rfl)).trans (base_at hA 7 rfl)
      have f8 := (hI.base 8 (by rw [hO]; kernel_rfl)).trans (base_at hA 8 rfl)
      have f9 := (hI.base 9 (by rw [hO]; kernel_rfl)).trans (base_at hA 9 rfl)
      have f10 := (hI.base 10 (by rw [hO]; kernel_rfl)).trans (base_at hA 10 rfl)
      have f11 := (hI.base 11 (by rw [hO]; kernel_rfl)).trans (base_at hA 11 rfl)
      have f12 := (hI.base 12 (by rw [hO]; kernel_rfl)).trans (base_at hA 12 rfl)
      have f13 := (hI.base 13 (by rw [hO]; kernel_rfl)).trans (base_at hA 13 rfl)
      have f14 := (hI.base 14 (by rw [hO]; kernel_rfl)).trans (base_at hA 14 rfl)
      have f15 := (hI.base 15 (by rw [hO]; kernel_rfl)).trans (base_at hA 15 rfl)
      have f16 := (hI.base 16 (by rw [hO]; kernel_rfl)).trans (base_at hA 16 rfl)
      have f17 := (hI.base 17 (by rw [hO]; kernel_rfl)).trans (base_at hA 17 rfl)
      have f18 := (hI.base 18 (by rw [hO]; kernel_rfl)).trans (base_at hA 18 rfl)
      have f19 := (hI.base 19 (by rw [hO]; kernel_rfl)).trans (base_at hA 19 rfl)
      have f20 := (hI.base 20 (by rw [hO]; kernel_rfl)).trans (base_at hA 20 rfl)
      have f21 := (hI.base 21 (by rw [hO]; kernel_rfl)).trans (base_at hA 21 rfl)
      have f22 := (hI.base 22 (by rw [hO]; kernel_rfl)).trans (base_at hA 22 rfl)
      have f23 := (hI.base 23 (by rw [hO]; kernel_rfl)).trans (base_at hA 23 rfl)
      have f24 := (hI.base 24 (by rw [hO]; kernel_rfl)).trans (base_at hA 24 rfl)
      have f25 := (hI.base 25 (by rw [hO]; kernel_rfl)).trans (base_at hA 25 rfl)
      have f26 := (hI.base 26 (by rw [hO]; kernel_rfl)).trans (base_at hA 26 rfl)
      have f27 := (hI.base 27 (by rw [hO]; kernel_rfl)).trans (base_at hA 27 rfl)
      have f39 := (hI.base 39 (by rw [hO]; kernel_rfl)).trans (base_at hA 39 rfl)
      have f40 := (hI.base 40 (by rw [hO]; kernel_rfl)).trans (base_at hA 40 rfl)
      have f41 := (hI.base 41 (by rw [hO]; kernel_rfl)).trans (base_at hA 41 rfl)
      have f42 := (hI.base 42 (by rw [hO]; kernel_rfl)).trans (base_at hA 42 rfl)
      have f43 := (hI.base 43 (by rw [hO]; kernel_rfl)).trans (base_at hA 43 rfl)
      have f44 := (hI.base 44 (by rw [hO]; kernel_rfl)).trans (base_at hA 44 rfl)
      have f45 := (hI.base 45 (by rw [hO]; kernel_rfl)).trans (base_at hA 45 rfl)
      have f46 := (hI.base 46 (by rw [hO]; kernel_rfl)).trans (base_at hA 46 rfl)
      have f47 := (hI.base 47 (by rw [hO]; kernel_rfl)).trans (base_at hA 47 rfl)
      have f48 := (hI.base 48 (by rw [hO]; kernel_rfl)).trans (base_at hA 48 rfl)
      have f49 := (hI.base 49 (by rw [hO]; kernel_rfl)).trans (base_at hA 49 rfl)
      obtain ⟨tl0, rfl⟩ : ∃ tl : List Value, ts = tl.toArray := ⟨ts.toList, by simp⟩
      have htl0 : tl0.length = 50 := by simpa using hts
      clear hts
      obtain ⟨y0, tl1, et, htl1⟩ := len_succ htl0
      clear htl0
      subst et
      obtain ⟨y1, tl2, et, htl2⟩ := len_succ htl1
      clear htl1
      subst et
      obtain ⟨y2, tl3, et, htl3⟩ := len_succ htl2
      clear htl2
      subst et
      obtain ⟨y3, tl4, et, htl4⟩ := len_succ htl3
      clear htl3
      subst et
      obtain ⟨y4, tl5, et, htl5⟩ := len_succ htl4
      clear htl4
      subst et
      obtain ⟨y5, tl6, et, htl6⟩ := len_succ htl5
      clear htl5
      subst et
      obtain ⟨y6, tl7, et, htl7⟩ := len_succ htl6
      clear htl6
      subst et
      obtain ⟨y7, tl8, et, htl8⟩ := len_succ htl7
      clear htl7
      subst et
      obtain ⟨y8, tl9, et, htl9⟩ := len_succ htl8
      clear htl8
      subst et
      obtain ⟨y9, tl10, et, htl10⟩ := len_succ htl9
      clear htl9
      subst et
      obtain ⟨y10, tl11, et, htl11⟩ := len_succ htl10
      clear htl10
      subst et
      obtain ⟨y11, tl12, et, htl12⟩ := len_succ htl11
      clear htl11
      subst et
      obtain ⟨y12, tl13, et, htl13⟩ := len_succ htl12
      clear htl12
      subst et
      obtain ⟨y13, tl14, et, htl14⟩ := len_succ htl13
      clear htl13
      subst et
      obtain ⟨y14, tl15, et, htl15⟩ := len_succ htl14
      clear htl14
      subst et
      obtain ⟨y15, tl16, et, htl16⟩ := len_succ htl15
      clear htl15
      subst et
      obtain ⟨y16, tl17, et, htl17⟩ := len_succ htl16
      clear htl16
      subst et
      obtain ⟨y17, tl18, et, htl18⟩ := len_succ htl17
      clear htl17
      subst et
      obtain ⟨y18, tl19, et, htl19⟩ := len_succ htl18
      clear htl18
      subst et
      obtain ⟨y19, tl20, et, htl20⟩ := len_succ htl19
      clear htl19
      subst et
      obtain ⟨y20, tl21, et, htl21⟩ := len_succ htl20
      clear htl20
      subst et
      obtain ⟨y21, tl22, et, htl22⟩ := len_succ htl21
      clear htl21
      subst et
      obtain ⟨y22, tl23, et, htl23⟩ := len_succ htl22
      clear htl22
      subst et
      obtain ⟨y23, tl24, et, htl24⟩ := len_succ htl23
      clear htl23
      subst et
      obtain ⟨y24, tl25, et, htl25⟩ := len_succ htl24
      clear htl24
      subst et
      obtain ⟨y25, tl26, et, htl26⟩ := len_succ htl25
      clear htl25
      subst et
      obtain ⟨y26, tl27, et, htl27⟩ := len_succ htl26
      clear htl26
      subst et
      obtain ⟨y27, tl28, et, htl28⟩ := len_succ htl27
      clear htl27
      subst et
      obtain ⟨y28, tl29, et, htl29⟩ := len_succ htl28
      clear htl28
      subst et
      obtain ⟨y29, tl30, et, htl30⟩ := len_succ htl29
      clear htl29
      subst et
      obtain ⟨y30, tl31, et, htl31⟩ := len_succ htl30
      clear htl30
      subst et
      obtain ⟨y31, tl32, et, htl32⟩ := len_succ htl31
      clear htl31
      subst et
      obtain ⟨y32, tl33, et, htl33⟩ := len_succ htl32
      clear htl32
      subst et
      obtain ⟨y33, tl34, et, htl34⟩ := len_succ htl33
      clear htl33
      subst et
      obtain ⟨y34, tl35, et, htl35⟩ := len_succ htl34
      clear htl34
      subst et
      obtain ⟨y35, tl36, et, htl36⟩ := len_succ htl35
      clear htl35
      subst et
      obtain ⟨y36, tl37, et, htl37⟩ := len_succ htl36
      clear htl36
      subst et
      obtain ⟨y37, tl38, et, htl38⟩ := len_succ htl37
      clear htl37
      subst et
      obtain ⟨y38, tl39, et, htl39⟩ := len_succ htl38
      clear htl38
      subst et
      obtain ⟨y39, tl40, et, htl40⟩ := len_succ htl39
      clear htl39
      subst et
      obtain ⟨y40, tl41, et, htl41⟩ := len_succ htl40
      clear htl40
      subst et
      obtain ⟨y41, tl42, et, htl42⟩ := len_succ htl41
      clear htl41
      subst et
      obtain ⟨y42, tl43, et, htl43⟩ := len_succ htl42
      clear htl42
      subst et
      obtain ⟨y43, tl44, et, htl44⟩ := len_succ htl43
      clear htl43
      subst et
      obtain ⟨y44, tl45, et, htl45⟩ := len_succ htl44
      clear htl44
      subst et
      obtain ⟨y45, tl46, et, htl46⟩ := len_succ htl45
      clear htl45
      subst et
      obtain ⟨y46, tl47, et, htl47⟩ := len_succ htl46
      clear htl46
      subst et
      obtain ⟨y47, tl48, et, htl48⟩ := len_succ htl47
      clear htl47
      subst et
      obtain ⟨y48, tl49, et, htl49⟩ := len_succ htl48
      clear htl48
      subst et
      obtain ⟨y49, tl50, et, htl50⟩ := len_succ htl49
      clear htl49
      subst et
      have et := List.eq_nil_of_length_eq_zero htl50
      clear htl50
      subst et
      have g0 : y0 = _ := f0
      have g1 : y1 = _ := f1
      have g2 : y2 = _ := f2
      have g3 : y3 = _ := f3
      have g4 : y4 = _ := f4
      have g5 : y5 = _ := f5
      have g6 : y6 = _ := f6
      have g7 : y7 = _ := f7
      have g8 : y8 = _ := f8
      have g9 : y9 = _ := f9
      have g10 : y10 = _ := f10
      have g11 : y11 = _ := f11
      have g12 : y12 = _ := f12
      have g13 : y13 = _ := f13
      have g14 : y14 = _ := f14
      have g15 : y15 = _ := f15
      have g16 : y16 = _ := f16
      have g17 : y17 = _ := f17
      have g18 : y18 = _ := f18
      have g19 : y19 = _ := f19
      have g20 : y20 = _ := f20
      have g21 : y21 = _ := f21
      have g22 : y22 = _ := f22
      have g23 : y23 = _ := f23
      have g24 : y24 = _ := f24
      have g25 : y25 = _ := f25
      have g26 : y26 = _ := f26
      have g27 : y27 = _ := f27
      have g39 : y39 = _ := f39
      have g40 : y40 = _ := f40
      have g41 : y41 = _ := f41
      have g42 : y42 = _ := f42
      have g43 : y43 = _ := f43
      have g44 : y44 = _ := f44
      have g45 : y45 = _ := f45
      have g46 : y46 = _ := f46
      have g47 : y47 = _ := f47
      have g48 : y48 = _ := f48
      have g49 : y49 = _ := f49
      clear f0 f1 f2 f3 f4 f5 f6 f7 f8 f9 f10 f11 f12 f13 f14 f15 f16 f17 f18 f19 f20 f21 f22 f23 f24 f25 f26 f27 f39 f40 f41 f42 f43 f44 f45 f46 f47 f48 f49
      subst hd g0 g1 g2 g3 g4 g5 g6 g7 g8 g9 g10 g11 g12 g13 g14 g15 g16 g17 g18 g19 g20 g21 g22 g23 g24 g25 g26 g27 g39 g40 g41 g42 g43 g44 g45 g46 g47 g48 g49
      clear hI hall hln hV hs hz hA hO hQQ e9 hS R2 k1 k2 v_0 i_0 s_0 v_1 i_1 s_1 v_2 i_2 s_2 v_3 i_3 s_3 v_4 i_4 s_4 v_5 i_5 s_5 v_6 i_6 s_6 v_7 i_7 s_7 v_8 i_8 s_8 v_9 i_9 s_9 v_10 i_10 s_10
      clear i_11 C0
      generalize w.setCells b2 (kx * 2) [.slice (some ⟨g', 0, none⟩) (F kx).t.size (F kx).t.size, .int .i64 (F kx).t.size] = w5 at *
      have c5 := R1.g0
      have c6 := BX5.at_ 1 _ rfl
      have c7 := R1.b1 LT.out
      have f7 := R1.fz (kx * 2 + 1)
      have D6 := Lib.hid (R1.set_s LT.out (F kx).s (by rw [put_same]; exact HD.out.sure kx LT.out))
      have C6 := Lib.hid C5
      rw [put_same] at c7
      clear R1 C5 BX5 BX RFX FX PUT THR D4 NB QR
      go_wp2_with fail
      go_region
      go_wp2_with fail
      refine ⟨⟨kx + 1, LT.out, rfl, ⟨_, (D6.out.1.q (Q.refl _).drew).top D6.out.1.sz (Nat.le_refl _), fun i hi => ?_⟩, ((C6.out.trans D6.out.2).q QW.out (Nat.le_of_eq HB.out.symm)).drew⟩, by have := LT.out; simp only [intOf]; omega⟩
      by_cases e : i = kx
      · subst e
        rw [put_same, put_same]
        unfold ptT ptS
        rw [if_pos (Nat.lt_succ_self i), if_pos (Nat.lt_succ_self i)]
        exact HE.out i hi
      · rw [put_other _ _ e, put_other _ _ e]
        have h1 := E4.out i hi
        unfold ptT ptS at h1 ⊢
        by_cases h2 : i < kx
        · rw [if_pos h2, if_pos h2] at h1
          rw [if_pos (by omega), if_pos (by omega)]; exact h1
        · rw [if_neg h2, if_neg h2] at h1
          rw [if_neg (by omega), if_neg (by omega)]; exact h1
    · obtain rfl : kx = n := by omega
      have td : decide (kx < kx) = false := by simp
      go_wp2_with fail
      refine bodyPost_ret (results_tmp rfl _ _ _) rfl ?_
      exact ⟨g2, b2, rfl, D2.out.congr fun i hi => ⟨by unfold ptT; rw [if_pos hi], by unfold ptS; rw [if_pos hi]⟩, QR.out⟩
end
end Go.Proofs.Ytnojglfaijhiaaa.Dk
