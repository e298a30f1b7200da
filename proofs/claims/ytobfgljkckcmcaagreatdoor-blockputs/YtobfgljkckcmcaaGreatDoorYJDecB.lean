import Derived.Test.YtobfgljkckcmcaaGreatDoorYJDec5
import Derived.Test.YtobfgljkckcmcaaGreatDoorYJBloA
set_option maxRecDepth 100000
namespace Go.Proofs.YtobfgljkckcmcaaGreatDoor.Coi
open Go.RowKit
open Mem Num Cod
set_option linter.unusedVariables false
set_option linter.unusedSimpArgs false
set_option maxHeartbeats 4000000 in
theorem d10right_x (z : BKI) (w0 : World) (h : z.tl w0) (hk : z.ok) : Calls Tryz.prog 29 #[z.val] w0 (Tells (RightB z) w0) := by
 obtain ⟨PR, hPR⟩ : ∃ P : Prop, RightB z = P := ⟨_, rfl⟩
 rw [hPR]
 have HP : Hid (PR ↔ RightB z) := by show _ ↔ _; rw [hPR]
 clear hPR
 obtain ⟨hh, pv, n, g, ad, c⟩ := z
 obtain ⟨k1, k2, k3⟩ := hk
 dsimp only at h k1 k2 k3 ⊢
 unfold I64 at k1
 have HT : Hid (TL w0 ad n g) := h
 clear h
 have HQ : Hid (∀ t, Q w0 (w0.alloc (.cells #[.int .i64 hh, .string pv, .slice ad n c] t))) := fun t => (Q.refl w0).alloc _
 have HB : Hid (∀ t, Box (w0.alloc (.cells #[.int .i64 hh, .string pv, .slice ad n c] t)) w0.heap.size [.int .i64 hh, .string pv, .slice ad n c]) := fun t => Box.new w0 _ t
 go_enter Tryz.func29, Tryz.ntmps29
 go_wp2_with fail
 have Q0 := Lib.hid (HQ.out 72)
 have B0 := Lib.hid (HB.out 72)
 generalize w0.alloc (.cells #[.int .i64 hh, .string pv, .slice ad n c] 72) = wA at *
 generalize w0.heap.size = b0 at *
 clear HQ HB
 have HT := Lib.hid (HT.out.q Q0.out)
 have NO : Hid (∀ w, Q wA w → ¬ RightB ⟨hh, pv, n, g, ad, c⟩ → Tells PR w0 (.returned (.bool false)) w) := fun w q h => ⟨false, rfl, by simp only [Bool.false_eq_true, false_iff]; exact fun y => h (HP.out.1 y), Q0.out.trans q⟩
 have YES : Hid (∀ w, Q wA w → RightB ⟨hh, pv, n, g, ad, c⟩ → Tells PR w0 (.returned (.bool true)) w) := fun w q h => ⟨true, rfl, ⟨fun _ => HP.out.2 h, fun _ => rfl⟩, Q0.out.trans q⟩
 have BQ : Hid (∀ w, Q wA w → Box w b0 [.int .i64 hh, .string pv, .slice ad n c]) := fun w q => B0.out.q q
 clear B0 HP Q0
 go_loopw [3] (fun i wr => ∃ k : Nat, k ≤ n ∧ i = .int .i64 k ∧ Hid (∀ j, j < k → RightT (g j).t) ∧ Hid (Q wA wr)) (fun i _ => n - (intOf i).toNat)
 case atStart => exact ⟨0, by omega, rfl, Lib.hid (fun j hj => by omega), Lib.hid (Q.refl wA)⟩
 case round =>
 obtain ⟨k, hk, rfl, K, QR⟩ := hrel
 have k0 : (0 : Int) ≤ (k : Int) := by omega
 have m0 := (BQ.out _ QR.out).at_ 2 _ rfl
 by_cases hlt : k < n
 · have kk : (k : Int) < (n : Int) := by omega
   have TW := HT.out.q QR.out
   obtain ⟨b, off, rfl, hrow⟩ := TW.l.some_ (by omega)
   have hrow := hrow k hlt
   have ZM := Lib.hid (TW.m k hlt)
   have ZK := Lib.hid (TW.k k hlt)
   have NF : Hid (¬ RightT (g k).t → ¬ RightB ⟨hh, pv, n, g, some ⟨b, off, none⟩, c⟩) := fun h y => h (y.2.2.2.2 k hlt)
   have K2 : Hid (RightT (g k).t → ∀ j, j < k + 1 → RightT (g j).t) := fun h j hj => by
    by_cases e : j = k
    · rw [e]; exact h
    · exact K.out j (by omega)
   clear K TW
   generalize g k = x at *
   go_wp2_with (with_reducible (show wpList _ _ _ (⟨_, Op.load 43 _, _, _, _, _⟩ :: _) _ _); refine halt ?_)
   refine Lib.hid (ld_row rfl 43 _ rfl b (off + k * 6) [.slice x.aI x.t.nI x.cI, .slice x.aO x.t.nO x.cO, .int .u64 x.t.p.amount, .string x.t.p.sig, .string x.t.p.token, .slice x.aW x.t.p.n x.cW] rfl (fun j v hv => hrow j v hv) Tryz.underlying43 rfl (by kernel_rfl) ?_)
   clear hrow m0
   go_wp2_with fail
   refine (d9right_x x.t x.aI x.cI x.aO x.cO x.aW x.cW _ ZM.out.i ZM.out.o ZM.out.w ZK.out).mono ?_
   rintro e w3 ⟨bb, rfl, hz, q3⟩
   have Q3 := Lib.hid (QR.out.trans q3)
   clear q3 QR
   rcases two hz with ⟨rfl, Z⟩ | ⟨rfl, Z⟩
   · have K3 := Lib.hid (K2.out Z)
     clear K2 NF hz Z
     go_wp2_with fail
     go_roundw
     case rel => exact ⟨k + 1, by omega, by go_num, K3, Q3⟩
     case measure => simp [intOf]; omega
   · have NN := Lib.hid (NO.out _ Q3.out (NF.out Z))
     clear K2 NF hz Z NO YES BQ
     go_wp2_with fail
     go_ret
     exact NN.out
 · obtain rfl : n = k := by omega
   have kk : ¬ (n : Int) < (n : Int) := by omega
   have td : decide (n < n) = false := by simp
   have z0 := (BQ.out _ QR.out).at_ 0 _ rfl
   have z1 := (BQ.out _ QR.out).at_ 1 _ rfl
   have ALL : Hid (1 ≤ hh → hh ≤ 4294967295 → pv.size = 16 → n ≤ 8 → RightB ⟨hh, pv, n, g, ad, c⟩) := fun a1 a2 a3 a4 => ⟨a1, a2, a3, a4, K.out⟩
   clear K
   by_cases h0 : 1 ≤ hh
   rotate_left
   · have NN := Lib.hid (NO.out _ QR.out (fun y => h0 y.1))
     have t00 : decide (1 ≤ hh) = false := by simp; omega
     have n0 : ¬ (1 ≤ hh) := by omega
     clear h0 NO YES BQ ALL
     go_wp2_with fail
     go_ret
     exact NN.out
   have p0 : 1 ≤ hh := by omega
   have t00 : decide (1 ≤ hh) = true := by simp; omega
   by_cases h1 : hh ≤ 4294967295
   rotate_left
   · have NN := Lib.hid (NO.out _ QR.out (fun y => h1 y.2.1))
     have t10 : decide (hh ≤ 4294967295) = false := by simp; omega
     have n1 : ¬ (hh ≤ 4294967295) := by omega
     clear h1 NO YES BQ ALL
     go_wp2_with fail
     go_ret
     exact NN.out
   have p1 : hh ≤ 4294967295 := by omega
   have t10 : decide (hh ≤ 4294967295) = true := by simp; omega
   by_cases h2 : pv.size = 16
   rotate_left
   · have NN := Lib.hid (NO.out _ QR.out (fun y => h2 y.2.2.1))
     have t20 : decide (pv.size = 16) = false := by simp; omega
     have t21 : decide ((pv.size : Int) = 16) = false := by simp; omega
     have n2 : ¬ ((pv.size : Int) = 16) := by omega
     clear h2 NO YES BQ ALL
     go_wp2_with fail
     go_ret
     exact NN.out
   have p2 : (pv.size : Int) = 16 := by omega
   have t20 : decide (pv.size = 16) = true := by simp; omega
   have t21 : decide ((pv.size : Int) = 16) = true := by simp; omega
   by_cases h3 : n ≤ 8
   rotate_left
   · have NN := Lib.hid (NO.out _ QR.out (fun y => h3 y.2.2.2.1))
     have t30 : decide (n ≤ 8) = false := by simp; omega
     have t31 : decide ((n : Int) ≤ 8) = false := by simp; omega
     have n3 : ¬ ((n : Int) ≤ 8) := by omega
     clear h3 NO YES BQ ALL
     go_wp2_with fail
     go_ret
     exact NN.out
   have p3 : (n : Int) ≤ 8 := by omega
   have t30 : decide (n ≤ 8) = true := by simp; omega
   have t31 : decide ((n : Int) ≤ 8) = true := by simp; omega
   have YY := Lib.hid (YES.out _ QR.out (ALL.out h0 h1 h2 h3))
   clear NO YES BQ ALL h0 h1 h2 h3
   go_wp2_with fail
   go_ret
   exact YY.out
end Go.Proofs.YtobfgljkckcmcaaGreatDoor.Coi
