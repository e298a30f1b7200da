/-
  Layer 13: the document's Swap, Crash.
-/
import Derived.Test.YtnojglfaijhiaaaDr3
import Derived.Test.YtnojglfaijhiaaaDk9
namespace Go.Proofs.Ytnojglfaijhiaaa.Dk
open Go.RowKit
open Mem Plan
set_option linter.unusedVariables false
set_option linter.unusedSimpArgs false

section
variable {w w' : World} {B g ra rb n room : Nat} {A E : Nat → ByteArray} {t : Nat → ByteArray} {s : Nat → Nat}
/-- Two files without a rest have each other's texts. -/
theorem RK0.swapped (h : RK0 w B g ra rb n A E room) {x y : Nat} (hx : x < n) (hy : y < n) (ex : E x = ⟨#[]⟩) (ey : E y = ⟨#[]⟩) :
    RK0 ((w.setCell ⟨ra, x, none⟩ (.string (A y))).setCell ⟨ra, y, none⟩ (.string (A x))) B g ra rb n (put (put A x (A y)) y (A x)) E room ∧ Ch ra w ((w.setCell ⟨ra, x, none⟩ (.string (A y))).setCell ⟨ra, y, none⟩ (.string (A x))) := by
  obtain ⟨h1, h2⟩ := txt_put h.a hx (A y)
  obtain ⟨h3, h4⟩ := txt_put h1 hy (A x)
  have h5 := h2.trans h4
  have hty := own_ty h.a (k := ra) rfl
  refine ⟨⟨own_keep h.d fun k hk => h5.block k (World.ownsRow.lt h.d k hk).2 (fun e => by injection e with e; subst e; exact absurd ((own_ty h.d hk).one hty) (by decide)), h3,
    own_keep h.e fun k hk => h5.block k (World.ownsRow.lt h.e k hk).2 (fun e => by injection e with e; injection hk with hk; exact h.ne (e.symm.trans hk.symm)), h.ne, ?_, h.hr, h.hn, h.n1⟩, h5⟩
  have e : (fun j => put (put A x (A y)) y (A x) j ++ E j) = put (put (fun j => A j ++ E j) x (A y ++ E y)) y (A x ++ E x) := by
    funext j
    unfold put
    by_cases e1 : j = y
    · subst e1; rw [if_pos rfl, if_pos rfl, ex, ey]
    · rw [if_neg e1, if_neg e1]
      by_cases e2 : j = x
      · subst e2; rw [if_pos rfl, if_pos rfl, ex, ey]
      · rw [if_neg e2, if_neg e2]
  rw [e, tot_swap (t := fun j => A j ++ E j) hx hy]
  exact h.sum
theorem front_ext {a t : ByteArray} {c : Nat} (h : a.size ≤ c) : (a ++ t).extract 0 c = a ++ t.extract 0 (c - a.size) := by
  rw [ByteArray.extract_append, Nat.zero_sub]
  congr 1
  rw [show a.extract 0 c = a.extract 0 a.size by
    apply ByteArray.ext_getElem
    · simp only [ByteArray.size_extract]; omega
    · intro i h1 h2
      rw [ByteArray.getElem_extract, ByteArray.getElem_extract]]
  exact ByteArray.extract_zero_size
theorem empty_of {x : ByteArray} (h : x.size = 0) : x = ⟨#[]⟩ := ByteArray.ext (Array.eq_empty_of_size_eq_zero h)
theorem isE {x : ByteArray} {u : Nat} (h : x.size = u) : x.toList.isEmpty = decide (u = 0) := by
  subst h
  by_cases e : x.size = 0
  · rw [empty_of e, ByteArray.toList_eq]; rfl
  · rw [decide_eq_false e, List.isEmpty_eq_false_iff]
    intro e2
    apply e
    have : x.toList.length = x.size := by rw [ByteArray.toList_eq]; simp
    rw [e2] at this
    exact this.symm
set_option maxHeartbeats 8000000 in
set_option maxRecDepth 100000 in
theorem rswap_x (h : RK w B g ra rb n t s room) (f m : Int) : Calls Try.prog 28 #[.pointer (some ⟨g, 0, none⟩), .int .i64 f, .int .i64 m] w fun r w' =>
    r = .returned (.int .i64 (swE n t s f m)) ∧ RK w' B g ra rb n (swT n t s f m) (swS n t s f m) room ∧ Fo (SR ra rb) w w' := by
  have hh := Lib.hid (rhas_x h f)
  have hh2 := Lib.hid (rhas_x h m)
  have H := Lib.hid h
  obtain ⟨A, E, h, e⟩ := h
  by_cases hi : inn n f = true
  · obtain ⟨ix, rfl, hi'⟩ := inn_t hi
    rw [hi] at hh
    by_cases hj : inn n m = true
    · obtain ⟨iy, rfl, hj'⟩ := inn_t hj
      rw [hj] at hh2
      have c1 := h.g1
      have x0 := h.e0 hi'
      have y0 := h.e0 hj'
      have j0 : (0 : Int) ≤ (ix : Int) := by omega
      have j1 : (ix : Int) < (n : Int) := by omega
      have j2 : (0 : Int) ≤ (iy : Int) := by omega
      have j3 : (iy : Int) < (n : Int) := by omega
      obtain ⟨u1, hu1⟩ : ∃ u, (E ix).size = u := ⟨_, rfl⟩
      obtain ⟨u2, hu2⟩ : ∃ u, (E iy).size = u := ⟨_, rfl⟩
      have e8 : (s ix < (t ix).size ↔ 0 < u1) ∧ (s iy < (t iy).size ↔ 0 < u2) := by
        rw [← (e ix hi').1, ← (e ix hi').2, ← (e iy hj').1, ← (e iy hj').2, ← hu1, ← hu2]
        have z1 : (A ix ++ E ix).size = (A ix).size + (E ix).size := by simp
        have z2 : (A iy ++ E iy).size = (A iy).size + (E iy).size := by simp
        omega
      have d1 := isE hu1
      have d2 := isE hu2
      have HD := Lib.hid h
      have HE := Lib.hid e
      have ex : swE n t s (ix : Int) (iy : Int) = if 0 < u1 ∨ 0 < u2 then 8 else 0 := by
        unfold swE
        rw [if_pos hi, if_pos hj, Int.toNat_natCast, Int.toNat_natCast]
        simp only [e8.1, e8.2]
      have hi3 := Lib.hid hi'
      have hj3 := Lib.hid hj'
      have Q0 := Lib.hid (Q.refl w)
      have U1 := Lib.hid hu1
      have U2 := Lib.hid hu2
      clear h e hi hj hu1 hu2 hi' hj' e8
      by_cases hp : 0 < u1
      · have e1 : Hid (swE n t s (ix : Int) (iy : Int) = 8 ∧ swT n t s (ix : Int) (iy : Int) = t ∧ swS n t s (ix : Int) (iy : Int) = s) := by
          rw [if_pos (.inl hp)] at ex
          exact ⟨ex, by unfold swT; rw [ex]; rfl, by unfold swS; rw [ex]; rfl⟩
        rw [decide_eq_false (by omega)] at d1
        clear ex d2
        go_enter Try.func28, Try.ntmps28
        go_wp2_with fail
        refine hh.out.mono ?_
        rintro r w1 ⟨rfl, rfl⟩
        go_wp2_with fail
        refine hh2.out.mono ?_
        rintro r w1 ⟨rfl, rfl⟩
        go_wp2_with fail
        refine bodyPost_ret (results_tmp rfl _ _ _) rfl ?_
        exact ⟨by rw [e1.out.1]; rfl, by rw [e1.out.2.1, e1.out.2.2]; exact H.out, Fo.of_q _ Q0.out⟩
      rw [decide_eq_true (by omega)] at d1
      by_cases hp2 : 0 < u2
      · have e1 : Hid (swE n t s (ix : Int) (iy : Int) = 8 ∧ swT n t s (ix : Int) (iy : Int) = t ∧ swS n t s (ix : Int) (iy : Int) = s) := by
          rw [if_pos (.inr hp2)] at ex
          exact ⟨ex, by unfold swT; rw [ex]; rfl, by unfold swS; rw [ex]; rfl⟩
        rw [decide_eq_false (by omega)] at d2
        clear ex
        go_enter Try.func28, Try.ntmps28
        go_wp2_with fail
        refine hh.out.mono ?_
        rintro r w1 ⟨rfl, rfl⟩
        go_wp2_with fail
        refine hh2.out.mono ?_
        rintro r w1 ⟨rfl, rfl⟩
        go_wp2_with fail
        refine bodyPost_ret (results_tmp rfl _ _ _) rfl ?_
        exact ⟨by rw [e1.out.1]; rfl, by rw [e1.out.2.1, e1.out.2.2]; exact H.out, Fo.of_q _ Q0.out⟩
      rw [decide_eq_true (by omega)] at d2
      have e1 : Hid (swE n t s (ix : Int) (iy : Int) = 0 ∧ swT n t s (ix : Int) (iy : Int) = put (put t ix (t iy)) iy (t ix) ∧ swS n t s (ix : Int) (iy : Int) = put (put s ix (s iy)) iy (s ix)) := by
        rw [if_neg (by omega)] at ex
        exact ⟨ex, by unfold swT; rw [ex]; rfl, by unfold swS; rw [ex]; rfl⟩
      have v1 := empty_of (U1.out.trans (show u1 = 0 by omega))
      have v2 := empty_of (U2.out.trans (show u2 = 0 by omega))
      have R := Lib.hid ((HD.out.swapped hi3.out hj3.out v1 v2))
      have M := Lib.hid (HD.out.mid hi3.out (A iy))
      have a0 := HD.out.a0 hi3.out
      have a1 := HD.out.a0 hj3.out
      have f0 := HD.out.fz_a ix
      have c0 := HD.out.g0
      have m0 := M.out.2.1
      have m1 := M.out.2.2.2.2.2.1 iy hj3.out
      have m2 := M.out.2.2.2.2.2.2 iy
      have V1 := Lib.hid v1
      have V2 := Lib.hid v2
      clear ex v1 v2 M
      go_enter Try.func28, Try.ntmps28
      go_wp2_with fail
      refine hh.out.mono ?_
      rintro r w1 ⟨rfl, rfl⟩
      go_wp2_with fail
      refine hh2.out.mono ?_
      rintro r w1 ⟨rfl, rfl⟩
      go_wp2_with fail
      go_region
      go_wp2_with fail
      refine bodyPost_ret (results_tmp rfl _ _ _) rfl ?_
      refine ⟨by rw [e1.out.1]; rfl, ⟨_, _, R.out.1.q (Q.refl _).drew, fun j hj => ?_⟩, (fo_a R.out.2).trans (Fo.of_q _ (Q.refl _).drew)⟩
      rw [e1.out.2.1, e1.out.2.2]
      have q1 := HE.out ix hi3.out
      have q2 := HE.out iy hj3.out
      rw [V1.out] at q1
      rw [V2.out] at q2
      by_cases e1 : j = iy
      · subst e1
        rw [put_same, put_same, put_same, V2.out]
        exact q1
      · rw [put_other _ _ e1, put_other _ _ e1, put_other _ _ e1]
        by_cases e2 : j = ix
        · subst e2
          rw [put_same, put_same, put_same, V1.out]
          exact q2
        · rw [put_other _ _ e2, put_other _ _ e2, put_other _ _ e2]
          exact HE.out j hj
    · have hj2 : inn n m = false := by simpa using hj
      have e1 : Hid (swE n t s (ix : Int) m = 1 ∧ swT n t s (ix : Int) m = t ∧ swS n t s (ix : Int) m = s) := by
        have : swE n t s (ix : Int) m = 1 := by unfold swE; rw [if_pos hi, hj2]; rfl
        exact ⟨this, by unfold swT; rw [this]; rfl, by unfold swS; rw [this]; rfl⟩
      rw [hj2] at hh2
      clear h hi hj hj2 e
      go_enter Try.func28, Try.ntmps28
      go_wp2_with fail
      refine hh.out.mono ?_
      rintro r w1 ⟨rfl, rfl⟩
      go_wp2_with fail
      refine hh2.out.mono ?_
      rintro r w1 ⟨rfl, rfl⟩
      go_wp2_with fail
      refine bodyPost_ret (results_tmp rfl _ _ _) rfl ?_
      exact ⟨by rw [e1.out.1]; rfl, by rw [e1.out.2.1, e1.out.2.2]; exact H.out, Fo.of_q _ (Q.refl _)⟩
  · have hi2 : inn n f = false := by simpa using hi
    have e1 : Hid (swE n t s f m = 1 ∧ swT n t s f m = t ∧ swS n t s f m = s) := by
      have : swE n t s f m = 1 := by unfold swE; rw [hi2]; rfl
      exact ⟨this, by unfold swT; rw [this]; rfl, by unfold swS; rw [this]; rfl⟩
    rw [hi2] at hh
    clear h hi hi2 e
    go_enter Try.func28, Try.ntmps28
    go_wp2_with fail
    refine hh.out.mono ?_
    rintro r w1 ⟨rfl, rfl⟩
    go_wp2_with fail
    refine bodyPost_ret (results_tmp rfl _ _ _) rfl ?_
    exact ⟨by rw [e1.out.1]; rfl, by rw [e1.out.2.1, e1.out.2.2]; exact H.out, Fo.of_q _ (Q.refl _)⟩
set_option maxHeartbeats 8000000 in
set_option maxRecDepth 100000 in
theorem rcrash_x (h : RK w B g ra rb n t s room) (ka : Option Addr) (kl kc : Nat) (kf : Nat → Int) (hK : KS w ra ka kl kf) (hK2 : KS w rb ka kl kf) (hkw : ∀ i, kf i ≤ 9223372036854775807) : Calls Try.prog 29 #[.pointer (some ⟨g, 0, none⟩), .slice ka kl kc] w fun r w' =>
    r = .returned (.tuple #[]) ∧ RK w' B g ra rb n (crT kl kf t s n) (crS kl kf t s n) room ∧ Fo (SR ra rb) w w' := by
  have HK := Lib.hid hK
  have HK2 := Lib.hid hK2
  have HKW := Lib.hid hkw
  have hn8 : n ≤ 8 := by obtain ⟨A, E, h, _⟩ := h; exact h.hn
  have D0 : Hid (RK w B g ra rb n (crT kl kf t s 0) (crS kl kf t s 0) room) := h.congr fun i hi => ⟨rfl, rfl⟩
  have Q0 := Lib.hid (Fo.of_q (SR ra rb) (Q.refl w))
  clear h hK hK2 hkw
  go_enter Try.func29, Try.ntmps29
  go_wp2_with fail
  go_loopw [4, 5] (fun i n5 wr => ∃ kx : Nat, kx ≤ n ∧ i = .int .i64 kx ∧ Hid (RK wr B g ra rb n (crT kl kf t s kx) (crS kl kf t s kx) room) ∧ Hid (Fo (SR ra rb) w wr)) (fun i n5 _ => n - (intOf i).toNat)
  case atStart => exact ⟨0, Nat.zero_le _, rfl, D0, Q0⟩
  case round =>
    obtain ⟨kx, hk, rfl, D2, QR⟩ := hrel
    clear D0 Q0
    obtain ⟨A, E, h, e⟩ := D2.out
    have c0 := h.g0
    have c1 := h.g1
    by_cases hlt : kx < n
    · have j0 : (0 : Int) ≤ (kx : Int) := by omega
      have j1 : (kx : Int) < (n : Int) := by omega
      have td : decide (kx < n) = true := by simpa using hlt
      have et : A kx ++ E kx = t kx := by rw [(e kx hlt).1]; unfold crT; rw [if_neg (by omega)]
      have es : (A kx).size = s kx := by rw [(e kx hlt).2]; unfold crS; rw [if_neg (by omega)]
      have ez : (t kx).size - s kx = (E kx).size := by
        have z1 : (A kx ++ E kx).size = (A kx).size + (E kx).size := by simp
        rw [← et, ← es]; omega
      have hz := h.sz hlt
      have hz1 : (A kx).size ≤ 16777216 := by omega
      have hz2 : (E kx).size ≤ 16777216 := by omega
      have hkp := kp_le kl kf t s kx
      rw [ez] at hkp
      obtain ⟨kp, ekp0⟩ : ∃ z, kpN kl kf t s kx = z := ⟨_, rfl⟩
      rw [ekp0] at hkp
      obtain ⟨y1, ey⟩ : ∃ y, (E kx).extract 0 kp = y := ⟨_, rfl⟩
      have eys : y1.size = kp := by rw [← ey]; exact size_extract0 _ _ hkp
      have HZ : Hid ((A kx ++ y1).size + (⟨#[]⟩ : ByteArray).size ≤ (A kx).size + (E kx).size) := by
        have z2 : (A kx ++ y1).size = (A kx).size + y1.size := by simp
        show _ + 0 ≤ _
        omega
      have hy1 : y1.size ≤ 16777216 := by omega
      have FIN : Hid (∀ i, i < n → put A kx (A kx ++ y1) i ++ put E kx ⟨#[]⟩ i = crT kl kf t s (kx + 1) i ∧ (put A kx (A kx ++ y1) i).size = crS kl kf t s (kx + 1) i) := by
        intro i hi
        unfold crT crS
        by_cases e2 : i = kx
        · subst e2
          rw [put_same, put_same, if_pos (Nat.lt_succ_self i), if_pos (Nat.lt_succ_self i), app_nil, ekp0, ← et, ← es, front_ext (by omega), Nat.add_sub_cancel_left, ey]
          refine ⟨rfl, ?_⟩
          rw [ByteArray.size_append, eys]
        · rw [put_other A _ e2, put_other E _ e2]
          have h1 := e i hi
          unfold crT crS at h1
          by_cases h2 : i < kx
          · rw [if_pos h2, if_pos h2] at h1
            rw [if_pos (by omega), if_pos (by omega)]; exact h1
          · rw [if_neg h2, if_neg h2] at h1
            rw [if_neg (by omega), if_neg (by omega)]; exact h1
      have e0 := h.e0 hlt
      have HD := Lib.hid h
      have LT := Lib.hid hlt
      by_cases hkl : kx < kl
      · have jl : (kx : Int) < (kl : Int) := by omega
        have d1 : decide (kx < kl) = true := by simpa using hkl
        obtain ⟨kb, ko, hka, hkb, hkc⟩ : ∃ kb ko, ka = some ⟨kb, ko, none⟩ ∧ kb ≠ ra ∧ ∀ j, j < kl → w.cell? ⟨kb, ko + j, none⟩ = some (.int .i64 (kf j)) := HK.out.resolve_left (by omega)
        have hkb2 : kb ≠ rb := by
          obtain ⟨kb', ko', hka', hkb', _⟩ := HK2.out.resolve_left (by omega)
          rw [hka] at hka'
          injection hka' with hka'
          injection hka' with h1 _
          rw [h1]; exact hkb'
        have kc0 := QR.out.cell (hkc kx hkl) (fun e => e.elim hkb hkb2)
        have hkW := HKW.out kx
        have ekp := kp_in (kf := kf) (t := t) (s := s) hkl
        rw [ez, ekp0] at ekp
        clear hkc hkb hkb2 HK HK2 e h D2 et es ez hkp ekp0 hlt hz eys HKW
        subst hka
        by_cases hpos : 0 < kf kx
        · have d2 : decide (0 < kf kx) = true := by simpa using hpos
          obtain ⟨kv, ekv⟩ : ∃ z : Nat, kf kx = (z : Int) := ⟨(kf kx).toNat, by omega⟩
          rw [ekv] at kc0 d2 ekp hkW
          have d2 : decide (0 < kv) = true := by simpa using d2
          have d5 : decide (((E kx).size : Int) < 0) = false := by simp
          by_cases hbig : (E kx).size < kv
          · have d3 : decide ((E kx).size < kv) = true := by simpa using hbig
            obtain rfl : kp = (E kx).size := by omega
            clear hbig ekp hpos ekv
            have R := Lib.hid (HD.out.set2 LT.out (A kx ++ y1) ⟨#[]⟩ HZ.out)
            have M := Lib.hid (HD.out.mid LT.out (A kx ++ y1))
            have a0 := HD.out.a0 LT.out
            have f0 := HD.out.fz_a kx
            have m1 := M.out.2.2.1
            have m2 := M.out.2.2.2.1 kx LT.out
            have m3 := M.out.2.2.2.2.1 kx
            clear M
            go_wp2_with fail
            go_region
            go_wp2_with fail
            exact ⟨⟨kx + 1, LT.out, rfl, ⟨_, _, R.out.1.q (Q.refl _).drew, fun i hi => FIN.out i hi⟩, (QR.out.trans R.out.2).trans (Fo.of_q _ (Q.refl _).drew)⟩, by have := LT.out; simp only [intOf]; omega⟩
          · have d3 : decide ((E kx).size < kv) = false := by simpa using hbig
            obtain rfl : kp = kv := by omega
            have hle : kp ≤ (E kx).size := by omega
            have hle2 : (kp : Int) ≤ ((E kx).size : Int) := by omega
            have hle3 : (0 : Int) ≤ (kp : Int) := by omega
            clear hbig ekp hpos ekv
            have R := Lib.hid (HD.out.set2 LT.out (A kx ++ y1) ⟨#[]⟩ HZ.out)
            have M := Lib.hid (HD.out.mid LT.out (A kx ++ y1))
            have a0 := HD.out.a0 LT.out
            have f0 := HD.out.fz_a kx
            have m1 := M.out.2.2.1
            have m2 := M.out.2.2.2.1 kx LT.out
            have m3 := M.out.2.2.2.2.1 kx
            clear M
            go_wp2_with fail
            go_region
            go_wp2_with fail
            exact ⟨⟨kx + 1, LT.out, rfl, ⟨_, _, R.out.1.q (Q.refl _).drew, fun i hi => FIN.out i hi⟩, (QR.out.trans R.out.2).trans (Fo.of_q _ (Q.refl _).drew)⟩, by have := LT.out; simp only [intOf]; omega⟩
        · have d2 : decide (0 < kf kx) = false := by simpa using hpos
          obtain rfl : kp = 0 := by omega
          clear ekp
          have hy : A kx ++ y1 = A kx := by rw [← ey]; simp
          have F1 := FIN.out
          have Z1 := HZ.out
          rw [hy] at F1 Z1
          have FIN := Lib.hid F1
          have HZ := Lib.hid Z1
          have d3 : decide (((E kx).size : Int) < 0) = false := by simp
          clear hy F1 Z1 ey
          have R := Lib.hid (HD.out.set2 LT.out (A kx) ⟨#[]⟩ HZ.out)
          have M := Lib.hid (HD.out.mid LT.out (A kx))
          have a0 := HD.out.a0 LT.out
          have f0 := HD.out.fz_a kx
          have m1 := M.out.2.2.1
          have m2 := M.out.2.2.2.1 kx LT.out
          have m3 := M.out.2.2.2.2.1 kx
          clear M
          go_wp2_with fail
          go_region
          go_wp2_with fail
          exact ⟨⟨kx + 1, LT.out, rfl, ⟨_, _, R.out.1.q (Q.refl _).drew, fun i hi => FIN.out i hi⟩, (QR.out.trans R.out.2).trans (Fo.of_q _ (Q.refl _).drew)⟩, by have := LT.out; simp only [intOf]; omega⟩
      · have d1 : decide (kx < kl) = false := by simpa using hkl
        obtain rfl : kp = 0 := by rw [← ekp0]; exact kp_out hkl
        clear e h D2 et es ez hkp ekp0 hlt hz eys
        have hy : A kx ++ y1 = A kx := by rw [← ey]; simp
        have F1 := FIN.out
        have Z1 := HZ.out
        rw [hy] at F1 Z1
        have FIN := Lib.hid F1
        have HZ := Lib.hid Z1
        have d3 : decide (((E kx).size : Int) < 0) = false := by simp
        clear hy F1 Z1 ey
        have R := Lib.hid (HD.out.set2 LT.out (A kx) ⟨#[]⟩ HZ.out)
        have M := Lib.hid (HD.out.mid LT.out (A kx))
        have a0 := HD.out.a0 LT.out
        have f0 := HD.out.fz_a kx
        have m1 := M.out.2.2.1
        have m2 := M.out.2.2.2.1 kx LT.out
        have m3 := M.out.2.2.2.2.1 kx
        clear M
        go_wp2_with fail
        go_region
        go_wp2_with fail
        exact ⟨⟨kx + 1, LT.out, rfl, ⟨_, _, R.out.1.q (Q.refl _).drew, fun i hi => FIN.out i hi⟩, (QR.out.trans R.out.2).trans (Fo.of_q _ (Q.refl _).drew)⟩, by have := LT.out; simp only [intOf]; omega⟩
    · obtain rfl : kx = n := by omega
      have td : decide (kx < kx) = false := by simp
      clear h e
      go_wp2_with fail
      go_end0
      exact ⟨rfl, D2.out, QR.out⟩
end
end Go.Proofs.Ytnojglfaijhiaaa.Dk
