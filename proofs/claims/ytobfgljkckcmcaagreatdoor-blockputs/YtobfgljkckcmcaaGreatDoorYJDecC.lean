import Derived.Test.YtobfgljkckcmcaaGreatDoorYJDec9
import Derived.Test.YtobfgljkckcmcaaGreatDoorYJBloA
set_option maxRecDepth 100000
namespace Go.Proofs.YtobfgljkckcmcaaGreatDoor.Coi
open Go.RowKit
open Mem Num Cod Plan
set_option linter.unusedVariables false
set_option linter.unusedSimpArgs false
set_option maxHeartbeats 4000000 in
theorem d10same_x (z z' : BKI) (w0 : World) (h : z.tl w0) (h' : z'.tl w0) (hn : z.n ≤ 100) (hn' : z'.n ≤ 100) : Calls Tryz.prog 36 #[z.val, z'.val] w0 (Tells (SamB z z') w0) := by
 obtain ⟨PR, hPR⟩ : ∃ P : Prop, SamB z z' = P := ⟨_, rfl⟩
 rw [hPR]
 have HP : Hid (PR ↔ SamB z z') := by show _ ↔ _; rw [hPR]
 clear hPR
 obtain ⟨hh, pv, n, g, ad, c⟩ := z
 obtain ⟨hh', pv', n', g', ad', c'⟩ := z'
 dsimp only at hn hn' ⊢
 have HT : Hid (TL w0 ad n g) := h
 have HT' : Hid (TL w0 ad' n' g') := h'
 clear h h'
 have HQ : Hid (Q w0 ((w0.alloc (.cells #[.int .i64 hh, .string pv, .slice ad n c] 72)).alloc (.cells #[.int .i64 hh', .string pv', .slice ad' n' c'] 72))) := ((Q.refl w0).alloc _).alloc _
 have HBA : Hid (Box ((w0.alloc (.cells #[.int .i64 hh, .string pv, .slice ad n c] 72)).alloc (.cells #[.int .i64 hh', .string pv', .slice ad' n' c'] 72)) w0.heap.size [.int .i64 hh, .string pv, .slice ad n c]) := (Box.new w0 _ _).q ((Q.refl _).alloc _)
 have HBB : Hid (Box ((w0.alloc (.cells #[.int .i64 hh, .string pv, .slice ad n c] 72)).alloc (.cells #[.int .i64 hh', .string pv', .slice ad' n' c'] 72)) (w0.heap.size + 1) [.int .i64 hh', .string pv', .slice ad' n' c']) := by
  have := Box.new (w0.alloc (.cells #[.int .i64 hh, .string pv, .slice ad n c] 72)) [.int .i64 hh', .string pv', .slice ad' n' c'] 72
  rw [show (w0.alloc (.cells #[.int .i64 hh, .string pv, .slice ad n c] 72)).heap.size = w0.heap.size + 1 by simp] at this
  exact this
 obtain ⟨wA, hwA⟩ : ∃ w, (w0.alloc (.cells #[.int .i64 hh, .string pv, .slice ad n c] 72)).alloc (.cells #[.int .i64 hh', .string pv', .slice ad' n' c'] 72) = w := ⟨_, rfl⟩
 rw [hwA] at HQ HBA HBB
 have za := HBA.out.at_ 2 _ rfl
 have zb := HBB.out.at_ 2 _ rfl
 have NO : Hid (∀ w, Q wA w → ¬ SamB ⟨hh, pv, n, g, ad, c⟩ ⟨hh', pv', n', g', ad', c'⟩ → Tells PR w0 (.returned (.bool false)) w) := fun w q h => ⟨false, rfl, by simp only [Bool.false_eq_true, false_iff]; exact fun y => h (HP.out.1 y), HQ.out.trans q⟩
 have YES : Hid (∀ w, Q wA w → SamB ⟨hh, pv, n, g, ad, c⟩ ⟨hh', pv', n', g', ad', c'⟩ → Tells PR w0 (.returned (.bool true)) w) := fun w q h => ⟨true, rfl, ⟨fun _ => HP.out.2 h, fun _ => rfl⟩, HQ.out.trans q⟩
 clear HP
 by_cases hnn : n = n'
 rotate_left
 · have NN : Hid (Tells PR w0 (.returned (.bool false)) wA) := NO.out _ (Q.refl _) (fun y => hnn y.2.2.1)
   have t1 : ((n : Int) == (n' : Int)) = false := by simp; omega
   have t2 : ((n : Int) != (n' : Int)) = true := by simp; omega
   clear NO YES HT HT' HQ HBA HBB
   go_enter Tryz.func36, Tryz.ntmps36
   go_wp2_with fail
   go_ret
   exact NN.out
 subst hnn
 go_enter Tryz.func36, Tryz.ntmps36
 go_wp2_with fail
 clear hwA za zb
 obtain ⟨b2, hb2⟩ : ∃ b, w0.heap.size + 1 = b := ⟨_, rfl⟩
 rw [hb2] at HBB ⊢
 obtain ⟨b1, hb1⟩ : ∃ b, w0.heap.size = b := ⟨_, rfl⟩
 rw [hb1] at HBA ⊢
 clear hb1 hb2
 have BA : Hid (∀ w, Q wA w → Box w b1 [.int .i64 hh, .string pv, .slice ad n c]) := fun w q => HBA.out.q q
 have BB : Hid (∀ w, Q wA w → Box w b2 [.int .i64 hh', .string pv', .slice ad' n c']) := fun w q => HBB.out.q q
 have HT := Lib.hid (HT.out.q HQ.out)
 have HT' := Lib.hid (HT'.out.q HQ.out)
 clear HBA HBB HQ
 go_loopw [5] (fun i wr => ∃ k : Nat, k ≤ n ∧ i = .int .i64 k ∧ Hid (∀ j, j < k → SamT (g j).t (g' j).t) ∧ Hid (Q wA wr)) (fun i _ => n - (intOf i).toNat)
 case atStart => exact ⟨0, by omega, rfl, Lib.hid (fun j hj => by omega), Lib.hid (Q.refl wA)⟩
 case round =>
 obtain ⟨k, hk, rfl, K, QR⟩ := hrel
 have k0 : (0 : Int) ≤ (k : Int) := by omega
 have m0 := (BA.out _ QR.out).at_ 2 _ rfl
 by_cases hlt : k < n
 · have kk : (k : Int) < (n : Int) := by omega
   have TW := HT.out.q QR.out
   have TW' := HT'.out.q QR.out
   obtain ⟨b, off, hab, hrow⟩ := TW.l.some_ (by omega)
   obtain ⟨b', off', hab', hrow'⟩ := TW'.l.some_ (by omega)
   have RW : Hid (∀ w', Q wr w' → w'.rangeAt b (off + k * 6) (TXI.cells (g k))) := fun w' q j v hv => Q.cell' q (hrow k hlt j v hv)
   have RW' : Hid (∀ w', Q wr w' → w'.rangeAt b' (off' + k * 6) (TXI.cells (g' k))) := fun w' q j v hv => Q.cell' q (hrow' k hlt j v hv)
   have ZM := Lib.hid (TW.m k hlt)
   have ZK := Lib.hid (TW.k k hlt)
   have YM := Lib.hid (TW'.m k hlt)
   have YK := Lib.hid (TW'.k k hlt)
   have NF : Hid (¬ SamT (g k).t (g' k).t → ¬ SamB ⟨hh, pv, n, g, ad, c⟩ ⟨hh', pv', n, g', ad', c'⟩) := fun h y => h (y.2.2.2 k hlt)
   have K2 : Hid (SamT (g k).t (g' k).t → ∀ j, j < k + 1 → SamT (g j).t (g' j).t) := fun h j hj => by
    by_cases e : j = k
    · rw [e]; exact h
    · exact K.out j (by omega)
   have HAB := Lib.hid hab
   have HAB' := Lib.hid hab'
   clear K TW TW' hrow hrow' hab hab'
   generalize g k = x at *
   generalize g' k = y at *
   go_wp2_with fail
   clear m0
   have BA2 : Hid (∀ w', Q wr w' → Box w' b1 [.int .i64 hh, .string pv, .slice ad n c]) := fun w' q => BA.out _ (QR.out.trans q)
   have BB2 : Hid (∀ w', Q wr w' → Box w' b2 [.int .i64 hh', .string pv', .slice ad' n c']) := fun w' q => BB.out _ (QR.out.trans q)
   have hab := HAB.out
   have hab' := HAB'.out
   obtain ⟨r, hr⟩ : ∃ r : Bool, r = true ↔ SamT x.t y.t := by
    by_cases e : SamT x.t y.t
    · exact ⟨true, by simp [e]⟩
    · exact ⟨false, by simp [e]⟩
   have HR := Lib.hid hr
   have SM : Hid (∀ w', Q wr w' → Calls Tryz.prog 22 #[.agg #[.slice x.aI x.t.nI x.cI, .slice x.aO x.t.nO x.cO, .int .u64 x.t.p.amount, .string x.t.p.sig, .string x.t.p.token, .slice x.aW x.t.p.n x.cW], .agg #[.slice y.aI y.t.nI y.cI, .slice y.aO y.t.nO y.cO, .int .u64 y.t.p.amount, .string y.t.p.sig, .string y.t.p.token, .slice y.aW y.t.p.n y.cW]] w' fun e w'' => e = .returned (.bool r) ∧ Q w' w'') := fun w' q => (d9same_x x.t y.t x.aI x.cI x.aO x.cO x.aW x.cW y.aI y.cI y.aO y.cO y.aW y.cW w' (ZM.out.q q).i (ZM.out.q q).o (ZM.out.q q).w (YM.out.q q).i (YM.out.q q).o (YM.out.q q).w ZK.out.nI ZK.out.nO ZK.out.p.n YK.out.nI YK.out.nO YK.out.p.n).mono fun e w'' h => by
    obtain ⟨bb, h0, h1, h2⟩ := h
    have : bb = r := by rw [Bool.eq_iff_iff]; exact h1.trans HR.out.symm
    rw [this] at h0
    exact ⟨h0, h2⟩
   clear hr
   have hS0 : Q wr wr.drew := (Q.refl wr).drew
   refine region_gen3 ?_
   intro OPS QQ A0 hO hQQ hA
   have hz : A0.tmps.size = 44 := by rw [hA]; rfl
   have hs : sound OPS A0.tmps.size = true := by rw [hz, hO]; kernel_rfl
   have b_2 : A0.eval (.tmp 2) = .pointer (some ⟨b1, 0, none⟩) := by rw [hA]; rfl
   have fr_2 : free OPS 2 = true := by rw [hO]; kernel_rfl
   have b_3 : A0.eval (.tmp 3) = .pointer (some ⟨b2, 0, none⟩) := by rw [hA]; rfl
   have fr_3 : free OPS 3 = true := by rw [hO]; kernel_rfl
   have b_5 : A0.eval (.tmp 5) = .int .i64 k := by rw [hA]; rfl
   have fr_5 : free OPS 5 = true := by rw [hO]; kernel_rfl
   obtain ⟨VV, hVV⟩ : ∃ V : Nat → Value → World → Prop, V = fun i => ([fun v _ => v = .pointer (some ⟨b1, 2, none⟩), fun v _ => v = .slice ad n c, fun v _ => v = .int .i64 k, fun v _ => v = .pointer (some ⟨b, off + k * 6, none⟩), fun v _ => v = .agg #[.slice x.aI x.t.nI x.cI, .slice x.aO x.t.nO x.cO, .int .u64 x.t.p.amount, .string x.t.p.sig, .string x.t.p.token, .slice x.aW x.t.p.n x.cW], fun v _ => v = .pointer (some ⟨b2, 2, none⟩), fun v _ => v = .slice ad' n c', fun v _ => v = .int .i64 k, fun v _ => v = .pointer (some ⟨b', off' + k * 6, none⟩), fun v _ => v = .agg #[.slice y.aI y.t.nI y.cI, .slice y.aO y.t.nO y.cO, .int .u64 y.t.p.amount, .string y.t.p.sig, .string y.t.p.token, .slice y.aW y.t.p.n y.cW], fun v _ => v = .bool r, fun v _ => v = .bool (!r)] : List (Value → World → Prop)).getD i (fun _ _ => True) := ⟨_, rfl⟩
   have v_0 : VV 0 = fun v _ => v = .pointer (some ⟨b1, 2, none⟩) := vat hVV 0
   have v_1 : VV 1 = fun v _ => v = .slice ad n c := vat hVV 1
   have v_2 : VV 2 = fun v _ => v = .int .i64 k := vat hVV 2
   have v_3 : VV 3 = fun v _ => v = .pointer (some ⟨b, off + k * 6, none⟩) := vat hVV 3
   have v_4 : VV 4 = fun v _ => v = .agg #[.slice x.aI x.t.nI x.cI, .slice x.aO x.t.nO x.cO, .int .u64 x.t.p.amount, .string x.t.p.sig, .string x.t.p.token, .slice x.aW x.t.p.n x.cW] := vat hVV 4
   have v_5 : VV 5 = fun v _ => v = .pointer (some ⟨b2, 2, none⟩) := vat hVV 5
   have v_6 : VV 6 = fun v _ => v = .slice ad' n c' := vat hVV 6
   have v_7 : VV 7 = fun v _ => v = .int .i64 k := vat hVV 7
   have v_8 : VV 8 = fun v _ => v = .pointer (some ⟨b', off' + k * 6, none⟩) := vat hVV 8
   have v_9 : VV 9 = fun v _ => v = .agg #[.slice y.aI y.t.nI y.cI, .slice y.aO y.t.nO y.cO, .int .u64 y.t.p.amount, .string y.t.p.sig, .string y.t.p.token, .slice y.aW y.t.p.n y.cW] := vat hVV 9
   have v_10 : VV 10 = fun v _ => v = .bool r := vat hVV 10
   have v_11 : VV 11 = fun v _ => v = .bool (!r) := vat hVV 11
   have hV := stable_of (T := Q) hVV ((sk (sk (sk (sk (sk (sk (sk (sk (sk (sk (sk (sk trivial)))))))))))))
   clear hVV
   have i_0 := pget_at hO 0 rfl
   have i_1 := pget_at hO 1 rfl
   have i_2 := pget_at hO 2 rfl
   have i_3 := pget_at hO 3 rfl
   have i_4 := pget_at hO 4 rfl
   have i_5 := pget_at hO 5 rfl
   have i_6 := pget_at hO 6 rfl
   have i_7 := pget_at hO 7 rfl
   have i_8 := pget_at hO 8 rfl
   have i_9 := pget_at hO 9 rfl
   have i_10 := pget_at hO 10 rfl
   have i_11 := pget_at hO 11 rfl
   have MK30 := @Step.pure Tryz.prog OPS QQ VV Q (Q wr) A0
   have s_0 := MK30 i_0 (.pointer (some ⟨b1, 2, none⟩)) (Q.refl ·) (fun l a w hI hl => ⟨wanted_none rfl, (by have e0 : a.eval (.tmp 2) = _ := ((hI.base 2 fr_2).trans b_2); generalize a.eval = ρ at e0 ⊢; simp [go_sem, e0]), at_mk v_0 rfl⟩)
   have s_1 := MK30 i_1 (.slice ad n c) (Q.refl ·) (fun l a w hI hl => ⟨wanted_none rfl, (by have e0 : a.eval (.tmp 20) = _ := (at_eq v_0 (hI.at_ 0 20 _ i_0 rfl (hl_at hl 0 rfl rfl))); have x0 := (BA2.out _ hI.st).at_ 2 _ rfl; generalize a.eval = ρ at e0 ⊢; simp [go_sem, e0, x0]), at_mk v_1 rfl⟩)
   have s_2 := MK30 i_2 (.int .i64 k) (Q.refl ·) (fun l a w hI hl => ⟨wanted_none rfl, ex_move rfl ((hI.base 5 fr_5).trans b_5), at_mk v_2 rfl⟩)
   have s_3 := MK30 i_3 (.pointer (some ⟨b, off + k * 6, none⟩)) (Q.refl ·) (fun l a w hI hl => ⟨wanted_none rfl, (by have e0 : a.eval (.tmp 21) = _ := (at_eq v_1 (hI.at_ 1 21 _ i_1 rfl (hl_at hl 0 rfl rfl))); have e1 : a.eval (.tmp 22) = _ := (at_eq v_2 (hI.at_ 2 22 _ i_2 rfl (hl_at hl 1 rfl rfl))); generalize a.eval = ρ at e0 e1 ⊢; simp [go_sem, e0, e1, k0, kk, hab]), at_mk v_3 rfl⟩)
   have s_4 := MK30 i_4 (.agg #[.slice x.aI x.t.nI x.cI, .slice x.aO x.t.nO x.cO, .int .u64 x.t.p.amount, .string x.t.p.sig, .string x.t.p.token, .slice x.aW x.t.p.n x.cW]) (Q.refl ·) (fun l a w hI hl => ⟨wanted_none rfl, ex_loado 43 rfl b (off + k * 6) [.slice x.aI x.t.nI x.cI, .slice x.aO x.t.nO x.cO, .int .u64 x.t.p.amount, .string x.t.p.sig, .string x.t.p.token, .slice x.aW x.t.p.n x.cW] _ (at_eq v_3 (hI.at_ 3 23 _ i_3 rfl (hl_at hl 0 rfl rfl))) (RW.out _ hI.st) Tryz.underlying43 rfl (by kernel_rfl), at_mk v_4 rfl⟩)
   have s_5 := MK30 i_5 (.pointer (some ⟨b2, 2, none⟩)) (Q.refl ·) (fun l a w hI hl => ⟨wanted_none rfl, (by have e0 : a.eval (.tmp 3) = _ := ((hI.base 3 fr_3).trans b_3); generalize a.eval = ρ at e0 ⊢; simp [go_sem, e0]), at_mk v_5 rfl⟩)
   have s_6 := MK30 i_6 (.slice ad' n c') (Q.refl ·) (fun l a w hI hl => ⟨wanted_none rfl, (by have e0 : a.eval (.tmp 25) = _ := (at_eq v_5 (hI.at_ 5 25 _ i_5 rfl (hl_at hl 0 rfl rfl))); have x0 := (BB2.out _ hI.st).at_ 2 _ rfl; generalize a.eval = ρ at e0 ⊢; simp [go_sem, e0, x0]), at_mk v_6 rfl⟩)
   have s_7 := MK30 i_7 (.int .i64 k) (Q.refl ·) (fun l a w hI hl => ⟨wanted_none rfl, ex_move rfl ((hI.base 5 fr_5).trans b_5), at_mk v_7 rfl⟩)
   have s_8 := MK30 i_8 (.pointer (some ⟨b', off' + k * 6, none⟩)) (Q.refl ·) (fun l a w hI hl => ⟨wanted_none rfl, (by have e0 : a.eval (.tmp 26) = _ := (at_eq v_6 (hI.at_ 6 26 _ i_6 rfl (hl_at hl 0 rfl rfl))); have e1 : a.eval (.tmp 27) = _ := (at_eq v_7 (hI.at_ 7 27 _ i_7 rfl (hl_at hl 1 rfl rfl))); have x2 := hab'; generalize a.eval = ρ at e0 e1 ⊢; simp [go_sem, e0, e1, k0, kk, x2]), at_mk v_8 rfl⟩)
   have s_9 := MK30 i_9 (.agg #[.slice y.aI y.t.nI y.cI, .slice y.aO y.t.nO y.cO, .int .u64 y.t.p.amount, .string y.t.p.sig, .string y.t.p.token, .slice y.aW y.t.p.n y.cW]) (Q.refl ·) (fun l a w hI hl => ⟨wanted_none rfl, ex_loado 43 rfl b' (off' + k * 6) [.slice y.aI y.t.nI y.cI, .slice y.aO y.t.nO y.cO, .int .u64 y.t.p.amount, .string y.t.p.sig, .string y.t.p.token, .slice y.aW y.t.p.n y.cW] _ (at_eq v_8 (hI.at_ 8 28 _ i_8 rfl (hl_at hl 0 rfl rfl))) (RW'.out _ hI.st) Tryz.underlying43 rfl (by kernel_rfl), at_mk v_9 rfl⟩)
   have s_10 := Step.call (P := Tryz.prog) (V := VV) (T := Q) (S := (Q wr)) (a0 := A0) (Qx := QQ) (R := fun _ _ _ => True) i_10 (fun l a w hI hl => by
    refine ⟨wanted_none rfl, 22, #[.agg #[.slice x.aI x.t.nI x.cI, .slice x.aO x.t.nO x.cO, .int .u64 x.t.p.amount, .string x.t.p.sig, .string x.t.p.token, .slice x.aW x.t.p.n x.cW], .agg #[.slice y.aI y.t.nI y.cI, .slice y.aO y.t.nO y.cO, .int .u64 y.t.p.amount, .string y.t.p.sig, .string y.t.p.token, .slice y.aW y.t.p.n y.cW]], ?_, ?_⟩
    · exact ex_call rfl (by simp only [List.map_toArray, List.map_cons, List.map_nil, ev_const, (show a.eval (.tmp 24) = _ from (at_eq v_4 (hI.at_ 4 24 _ i_4 rfl (hl_at hl 0 rfl rfl)))), (show a.eval (.tmp 29) = _ from (at_eq v_9 (hI.at_ 9 29 _ i_9 rfl (hl_at hl 1 rfl rfl))))]) Tryz.func22 (by kernel_rfl) (by kernel_rfl)
    · exact (SM.out w hI.st).mono fun e w' hc => by
       obtain ⟨rfl, hq⟩ := hc
       exact ⟨_, rfl, hq, hI.st.trans hq, at_mk v_10 rfl⟩)
   have s_11 := MK30 i_11 (.bool (!r)) (Q.refl ·) (fun l a w hI hl => ⟨wanted_none rfl, ex_un rfl (at_eq v_10 (hI.at_ 10 30 _ i_10 rfl (hl_at hl 0 rfl rfl))) (by kernel_rfl), at_mk v_11 rfl⟩)
   refine wp_plan VV Q (Q wr) (by kernel_rfl) hs hV hS0 (steps_all hO ((sf_cons s_0 (sf_cons s_1 (sf_cons s_2 (sf_cons s_3 (sf_cons s_4 (sf_cons s_5 (sf_cons s_6 (sf_cons s_7 (sf_cons s_8 (sf_cons s_9 (sf_cons s_10 (sf_cons s_11 trivial)))))))))))))) ?_
   intro l a w hall hI
   have Q3 := Lib.hid (QR.out.trans hI.st)
   have e31 : a.eval (.tmp 31) = .bool (!r) := at_eq v_11 (hI.at_ 11 31 _ i_11 rfl (hall 11 (by rw [hO]; decide)))
   rw [hQQ]
   obtain ⟨ts, ds⟩ := a
   have hd : ds = [] := by have := hI.df; rw [hA] at this; exact this
   have hts : ts.size = 44 := by have := hI.sz; rw [hz] at this; exact this
   have f31 : ts.getD 31 undef = .bool (!r) := e31
   have f0 := (hI.base 0 (by rw [hO]; kernel_rfl)).trans (base_at hA 0 rfl)
   have f1 := (hI.base 1 (by rw [hO]; kernel_rfl)).trans (base_at hA 1 rfl)
   have f2 := (hI.base 2 (by rw [hO]; kernel_rfl)).trans (base_at hA 2 rfl)
   have f3 := (hI.base 3 (by rw [hO]; kernel_rfl)).trans (base_at hA 3 rfl)
   have f4 := (hI.base 4 (by rw [hO]; kernel_rfl)).trans (base_at hA 4 rfl)
   have f5 := (hI.base 5 (by rw [hO]; kernel_rfl)).trans (base_at hA 5 rfl)
   have f6 := (hI.base 6 (by rw [hO]; kernel_rfl)).trans (base_at hA 6 rfl)
   have f7 := (hI.base 7 (by rw [hO]; kernel_rfl)).trans (base_at hA 7 rfl)
   have f8 := (hI.base 8 (by rw [hO]; kernel_rfl)).trans (base_at hA 8 rfl)
   have f9 := (hI.base 9 (by rw [hO]; kernel_rfl)).trans (base_at hA 9 rfl)
   have f10 := (hI.base 10 (by rw [hO]; kernel_rfl)).trans (base_at hA 10 rfl)
   have f11 := (hI.base 11 (by rw [hO]; kernel_rfl)).trans (base_at hA 11 rfl)
   have f12 := (hI.base 12 (by rw [hO]; kernel_rfl)).trans (base_at hA 12 rfl)
   have f13 := (hI.base 13 (by rw [hO]; kernel_rfl)).trans (base_at hA 13 rfl)
   have f14 := (hI.base 14 (by rw [hO]; kernel_rfl)).trans (base_at hA 14 rfl)
   have f15 := (hI.base 15 (by rw [hO]; kernel_rfl)).trans (base_at hA 15 rfl)
   have f16 := (hI.base 16 (by rw [hO]; kernel_rfl)).trans (base_at hA 16 rfl)
   have f17 := (hI.base 17 (by rw [hO]; kernel_rfl)).trans (base_at hA 17 rfl)
   have f18 := (hI.base 18 (by rw [hO]; kernel_rfl)).trans (base_at hA 18 rfl)
   have f19 := (hI.base 19 (by rw [hO]; kernel_rfl)).trans (base_at hA 19 rfl)
   have f32 := (hI.base 32 (by rw [hO]; kernel_rfl)).trans (base_at hA 32 rfl)
   have f33 := (hI.base 33 (by rw [hO]; kernel_rfl)).trans (base_at hA 33 rfl)
   have f34 := (hI.base 34 (by rw [hO]; kernel_rfl)).trans (base_at hA 34 rfl)
   have f35 := (hI.base 35 (by rw [hO]; kernel_rfl)).trans (base_at hA 35 rfl)
   have f36 := (hI.base 36 (by rw [hO]; kernel_rfl)).trans (base_at hA 36 rfl)
   have f37 := (hI.base 37 (by rw [hO]; kernel_rfl)).trans (base_at hA 37 rfl)
   have f38 := (hI.base 38 (by rw [hO]; kernel_rfl)).trans (base_at hA 38 rfl)
   have f39 := (hI.base 39 (by rw [hO]; kernel_rfl)).trans (base_at hA 39 rfl)
   have f40 := (hI.base 40 (by rw [hO]; kernel_rfl)).trans (base_at hA 40 rfl)
   have f41 := (hI.base 41 (by rw [hO]; kernel_rfl)).trans (base_at hA 41 rfl)
   have f42 := (hI.base 42 (by rw [hO]; kernel_rfl)).trans (base_at hA 42 rfl)
   have f43 := (hI.base 43 (by rw [hO]; kernel_rfl)).trans (base_at hA 43 rfl)
   obtain ⟨tl0, rfl⟩ : ∃ tl : List Value, ts = tl.toArray := ⟨ts.toList, by simp⟩
   have htl0 : tl0.length = 44 := by simpa using hts
   clear hts
   obtain ⟨y0, y1, y2, y3, y4, y5, y6, y7, tl8, et, htl8⟩ := len_8 htl0
   clear htl0
   subst et
   obtain ⟨y8, y9, y10, y11, y12, y13, y14, y15, tl16, et, htl16⟩ := len_8 htl8
   clear htl8
   subst et
   obtain ⟨y16, y17, y18, y19, y20, y21, y22, y23, tl24, et, htl24⟩ := len_8 htl16
   clear htl16
   subst et
   obtain ⟨y24, y25, y26, y27, y28, y29, y30, y31, tl32, et, htl32⟩ := len_8 htl24
   clear htl24
   subst et
   obtain ⟨y32, y33, y34, y35, y36, y37, y38, y39, tl40, et, htl40⟩ := len_8 htl32
   clear htl32
   subst et
   obtain ⟨y40, tl41, et, htl41⟩ := len_succ htl40
   clear htl40
   subst et
   obtain ⟨y41, tl42, et, htl42⟩ := len_succ htl41
   clear htl41
   subst et
   obtain ⟨y42, tl43, et, htl43⟩ := len_succ htl42
   clear htl42
   subst et
   obtain ⟨y43, tl44, et, htl44⟩ := len_succ htl43
   clear htl43
   subst et
   have et := List.eq_nil_of_length_eq_zero htl44
   clear htl44
   subst et
   have g31 : y31 = .bool (!r) := f31
   have g0 : y0 = _ := f0
   have g1 : y1 = _ := f1
   have g2 : y2 = _ := f2
   have g3 : y3 = _ := f3
   have g4 : y4 = _ := f4
   have g5 : y5 = _ := f5
   have g6 : y6 = _ := f6
   have g7 : y7 = _ := f7
   have g8 : y8 = _ := f8
   have g9 : y9 = _ := f9
   have g10 : y10 = _ := f10
   have g11 : y11 = _ := f11
   have g12 : y12 = _ := f12
   have g13 : y13 = _ := f13
   have g14 : y14 = _ := f14
   have g15 : y15 = _ := f15
   have g16 : y16 = _ := f16
   have g17 : y17 = _ := f17
   have g18 : y18 = _ := f18
   have g19 : y19 = _ := f19
   have g32 : y32 = _ := f32
   have g33 : y33 = _ := f33
   have g34 : y34 = _ := f34
   have g35 : y35 = _ := f35
   have g36 : y36 = _ := f36
   have g37 : y37 = _ := f37
   have g38 : y38 = _ := f38
   have g39 : y39 = _ := f39
   have g40 : y40 = _ := f40
   have g41 : y41 = _ := f41
   have g42 : y42 = _ := f42
   have g43 : y43 = _ := f43
   clear f31 f0 f1 f2 f3 f4 f5 f6 f7 f8 f9 f10 f11 f12 f13 f14 f15 f16 f17 f18 f19 f32 f33 f34 f35 f36 f37 f38 f39 f40 f41 f42 f43
   subst hd g31 g0 g1 g2 g3 g4 g5 g6 g7 g8 g9 g10 g11 g12 g13 g14 g15 g16 g17 g18 g19 g32 g33 g34 g35 g36 g37 g38 g39 g40 g41 g42 g43
   clear e31 hI hall hs hV hA hO hQQ hS0 v_0 s_0 i_0 v_1 s_1 i_1 v_2 s_2 i_2 v_3 s_3 i_3 v_4 s_4 i_4 v_5 s_5 i_5 v_6 s_6 i_6 v_7 s_7 i_7 v_8 s_8 i_8 v_9 s_9 i_9 v_10 s_10 i_10 v_11 s_11 i_11
   clear RW RW' ZM ZK YM YK SM BA2 BB2 hab hab'
   cases r
   · have NN := Lib.hid (NO.out _ Q3.out (NF.out (fun h => absurd (HR.out.2 h) (by decide))))
     clear NO YES BA BB NF K2
     as_aux_lemma =>
     go_wp2_with fail
     go_ret
     exact NN.out
   · have K3 := Lib.hid (K2.out (HR.out.1 rfl))
     clear K2 NF
     as_aux_lemma =>
     go_wp2_with fail
     go_roundw
     case rel => exact ⟨k + 1, by omega, by omega, K3⟩
     case measure => simp [intOf]; omega
 · obtain rfl : n = k := by omega
   have kk : ¬ (n : Int) < (n : Int) := by omega
   have td : decide (n < n) = false := by simp
   have z0 := (BA.out _ QR.out).at_ 0 _ rfl
   have z1 := (BA.out _ QR.out).at_ 1 _ rfl
   have y0 := (BB.out _ QR.out).at_ 0 _ rfl
   have y1 := (BB.out _ QR.out).at_ 1 _ rfl
   by_cases e0 : hh = hh'
   rotate_left
   · have NN := Lib.hid (NO.out _ QR.out (fun y => e0 y.1))
     have t1 : (hh == hh') = false := by simpa using e0
     clear NO YES BA BB K
     go_wp2_with fail
     go_ret
     exact NN.out
   subst e0
   by_cases e1 : pv = pv'
   rotate_left
   · have NN := Lib.hid (NO.out _ QR.out (fun y => e1 y.2.1))
     have t1 : (pv.toList == pv'.toList) = false := by rw [← Bool.not_eq_true, beq_tl]; exact e1
     have t2 : pv.toList ≠ pv'.toList := by rw [ne_eq, tl_inj]; exact e1
     clear NO YES BA BB K
     go_wp2_with fail
     go_ret
     exact NN.out
   subst e1
   have YY := Lib.hid (YES.out _ QR.out ⟨rfl, rfl, rfl, K.out⟩)
   clear NO YES BA BB K
   go_wp2_with fail
   go_ret
   exact YY.out
end Go.Proofs.YtobfgljkckcmcaaGreatDoor.Coi
