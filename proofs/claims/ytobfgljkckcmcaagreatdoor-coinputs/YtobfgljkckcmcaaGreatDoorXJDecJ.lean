import Derived.Test.YtobfgljkckcmcaaGreatDoorXJCoiD
import Derived.Deep.RegionHeld3
set_option maxRecDepth 100000
namespace Go.Proofs.YtobfgljkckcmcaaGreatDoor.Num
open Go.RowKit
open Mem Cod Coi
set_option linter.unusedVariables false
set_option linter.unusedSimpArgs false
theorem dtop_any (w : World) : Calls Tryz.prog 91 #[] w fun e w' => e = .returned (.int .u64 18446744073709551615) ∧ w' = w := by
 go_enter Tryz.func91, Tryz.ntmps91
 go_wp2
 go_ret
 exact ⟨rfl, rfl⟩
set_option maxHeartbeats 1000000 in
theorem dsum_row (b off len cap : Nat) (f : Nat → Int) (w : World) (hl : len ≤ maxLen) (hr : RowU w b off len f) (h0 : ∀ i, 0 ≤ f i) (h1 : ∀ i, f i ≤ 18446744073709551615) :
 Calls Tryz.prog 44 #[.slice (some ⟨b, off, none⟩) len cap] w fun e w' => e = .returned (.tuple #[.int .u64 (sumV f len), .int .i64 (sumE f len)]) ∧ Q w w' := by
 unfold maxLen at hl
 unfold sumV sumE
 have H0 := Lib.hid h0
 have H1 := Lib.hid h1
 have HR := Lib.hid hr
 clear h0 h1 hr
 obtain ⟨ans, ha⟩ : ∃ p : Int × Int, ((if SU f len ≤ 18446744073709551615 then SU f len else 0), (if SU f len ≤ 18446744073709551615 then (0 : Int) else 2)) = p := ⟨_, rfl⟩
 obtain ⟨rv, re⟩ := ans
 have HA := Lib.hid ha
 simp only [Prod.mk.injEq] at ha
 rw [ha.1, ha.2]
 clear ha
 go_enter Tryz.func44, Tryz.ntmps44
 go_wp2_with fail
 go_loopw [4, 5] (fun a b wr => ∃ k : Nat, k ≤ len ∧ b = .int .i64 k ∧ a = .int .u64 (SU f k) ∧ SU f k ≤ 18446744073709551615 ∧ Q w wr) (fun _ b _ => len - (intOf b).toNat)
 case atStart => exact ⟨0, by omega, rfl, rfl, by simp [SU], Q.refl _⟩
 case round =>
  obtain ⟨k, hk, rfl, rfl, hb, hd⟩ := hrel
  have s0 := SU_nonneg f H0.out k
  by_cases hlt : k < len
  · have hlt' : (k : Int) < (len : Int) := by omega
    have hk0 : (0 : Int) ≤ (k : Int) := by omega
    have hc : wr.cell? ⟨b, off + k, none⟩ = some (.int .u64 (f k)) := Q.cell' hd (HR.out k hlt)
    have f0 := H0.out k
    have f1 := H1.out k
    by_cases ho : SU f k + f k ≤ 18446744073709551615
    · have td : decide (18446744073709551615 - SU f k < f k) = false := by simp; omega
      have HV : Hid (SU f k + f k = SU f (k + 1)) := rfl
      have HB : Hid (SU f (k + 1) ≤ 18446744073709551615) := ho
      go_wp2_with fail
      go_quiet ((go_at_call 91; exact Calls.quiet_of_same (dtop_any _)))
      go_wp2_with fail
      go_roundw
      case rel => exact ⟨k + 1, by omega, by go_num, by rw [HV.out], HB.out, hd.drewN _⟩
      case measure => simp [intOf]; omega
    · have td : decide (18446744073709551615 - SU f k < f k) = true := by simp; omega
      have ov : ¬ SU f len ≤ 18446744073709551615 := by
       have m := SU_mono f H0.out (k + 1) (len - (k + 1))
       rw [show k + 1 + (len - (k + 1)) = len by omega] at m
       have : SU f (k + 1) = SU f k + f k := rfl
       omega
      have HF : Hid (rv = 0 ∧ re = 2) := by
       have h := HA.out
       rw [if_neg ov, if_neg ov] at h
       simp only [Prod.mk.injEq] at h
       exact ⟨h.1.symm, h.2.symm⟩
      clear ho ov
      go_wp2_with fail
      go_quiet ((go_at_call 91; exact Calls.quiet_of_same (dtop_any _)))
      go_wp2_with fail
      go_ret2
      exact ⟨ret2 HF.out.1.symm HF.out.2.symm, hd.drewN _⟩
  · obtain rfl : k = len := by omega
    have HF : Hid (rv = SU f k ∧ re = 0) := by
     have h := HA.out
     rw [if_pos hb, if_pos hb] at h
     simp only [Prod.mk.injEq] at h
     exact ⟨h.1.symm, h.2.symm⟩
    go_wp2_with fail
    go_ret2
    exact ⟨ret2 HF.out.1.symm HF.out.2.symm, hd⟩
theorem dsum_none (a : Option Addr) (cap : Nat) (w : World) :
 Calls Tryz.prog 44 #[.slice a 0 cap] w fun e w' => e = .returned (.tuple #[.int .u64 0, .int .i64 0]) ∧ w = w' := by
 go_enter Tryz.func44, Tryz.ntmps44
 go_wp2
 go_rounds 1
 go_ret2
 exact ⟨rfl, rfl⟩
end Go.Proofs.YtobfgljkckcmcaaGreatDoor.Num
namespace Go.Proofs.YtobfgljkckcmcaaGreatDoor.Coi
open Go.RowKit
open Mem Num Cod
set_option linter.unusedVariables false
set_option linter.unusedSimpArgs false
set_option maxHeartbeats 4000000 in
theorem d9whole_x (a : Option Addr) (n cap : Nat) (f : Nat → OU) (w : World) (h : SL OU.cells 9 w a n f) (hn : n ≤ 100) (h0 : ∀ i, U64 (amt f i)) :
 Calls Tryz.prog 7 #[.slice a n cap] w fun e w' => e = .returned (.tuple #[.int .u64 (sumV (amt f) n), .int .i64 (sumE (amt f) n)]) ∧ Q w w' := by
 have HT := Lib.hid h
 have H0 := Lib.hid h0
 clear h h0
 obtain ⟨i0, hi0, hz0, hz1, hz2⟩ := info_of info_u64
 have O0 := Lib.hid (OR.made0 24 UC 1 w w.heap.size (Nat.le_refl _) (amt f))
 go_enter Tryz.func7, Tryz.ntmps7
 go_wp2_with fail
 go_loopw [4, 5] (fun v i wr => ∃ (k : Nat) (b : Option Addr) (c : Nat), k ≤ n ∧ i = .int .i64 k ∧ v = .slice b k c ∧ Hid (OR 24 UC 1 wr w.heap.size b k c (amt f)) ∧ Hid (Q w wr)) (fun _ i _ => n - (intOf i).toNat)
 case atStart => exact ⟨0, some ⟨w.heap.size, 0, none⟩, 0, by omega, rfl, rfl, O0, Lib.hid ((Q.refl w).alloc _)⟩
 case round =>
  obtain ⟨k, b, c, hk, rfl, rfl, O, QR⟩ := hrel
  clear O0
  have k0 : (0 : Int) ≤ (k : Int) := by omega
  by_cases hlt : k < n
  · have k1 : (k : Int) < (n : Int) := by omega
    obtain ⟨bb, off, rfl, hrow⟩ := (HT.out.q QR.out).some_ (by omega)
    obtain ⟨c0, c1, c2, c3, c4, c5, c6, c7, c8⟩ := out_at (hrow k hlt)
    clear hrow
    obtain ⟨x, hx⟩ : ∃ x, f k = x := ⟨_, rfl⟩
    rw [hx] at c0 c1 c2 c3 c4 c5 c6 c7 c8
    obtain ⟨am, ham⟩ : ∃ m, x.amount = m := ⟨_, rfl⟩
    have HE : Hid (UC (amt f k) = [.int .u64 am]) := by show _ = _; unfold UC amt; rw [hx, ham]
    rw [ham] at c1
    clear hx
    have hsz := QR.out.size
    go_wp2_with (at_builtin; refine halt ?_)
    clear c0 c1 c2 c3 c4 c5 c6 c7 c8
    refine Lib.hid (wpList_append_own _ rfl (.tmp 13) (.tmp 19) 84 rfl w.heap.size 24 i0 _ 1 8 Tryz.underlying84 hi0 hz0 hz1 hz2 rfl (by decide) _ _ _ rfl (O.out.q ((Q.refl wr).alloc _)) ⟨wr.heap.size, 0, none⟩ 1 1 [.int .u64 am] rfl rfl ?news (by intro v hv; simp at hv; subst hv; rfl) (by unfold maxLen; omega) (by omega) (by simp; omega) ?_)
    case news =>
     intro j u hu
     rw [Go.WideShapes.add_plain, Nat.zero_add, World.cell?_alloc_at _ _ _ _ (by simp)]
     simpa using hu
    intro v3 w3 hown3 hgrow3 _hn
    have Q3 := Lib.hid (OR.more (w0 := w) (O.out.q ((Q.refl wr).alloc _)) hgrow3 (QR.out.alloc _) (Nat.le_refl _))
    rw [← HE.out] at hown3
    obtain ⟨g3, cap3, rfl, o3⟩ := OR.next hown3
    have O3 := Lib.hid o3
    clear hgrow3 _hn hown3 o3 O QR
    go_wp2_with fail
    go_roundw
    case rel => exact ⟨k + 1, _, cap3, by omega, by go_num, rfl, O3, Q3⟩
    case measure => simp [intOf]; omega
  · obtain rfl : k = n := by omega
    have td : decide (k < k) = false := by simp
    have HC : Hid (Calls Tryz.prog 44 #[.slice b k c] wr fun e w' => e = .returned (.tuple #[.int .u64 (sumV (amt f) k), .int .i64 (sumE (amt f) k)]) ∧ Q wr w') := by
     show Calls _ _ _ _ _
     rcases O.out.shape with ⟨rfl, h1, h2⟩ | ⟨g, rfl, h2, h3, h4, h5⟩
     · subst h1; subst h2
       have e1 : sumV (amt f) 0 = 0 := by unfold sumV; rw [if_pos (by show (0 : Int) ≤ _; omega)]; rfl
       have e2 : sumE (amt f) 0 = 0 := by unfold sumE; rw [if_pos (by show (0 : Int) ≤ _; omega)]
       rw [e1, e2]
       exact (dsum_none none 0 wr).mono (by rintro e _ ⟨rfl, rfl⟩; exact ⟨rfl, Q.refl _⟩)
     · refine dsum_row g 0 k c (amt f) wr (by unfold maxLen; omega) (fun i hi => ?_) (fun i => (H0.out i).1) (fun i => (H0.out i).2)
       have := World.ownsRow.cells O.out (g := g) rfl _ _ (rc_get (C := UC) (k := 1) (fun x => rfl) i 0 (.int .u64 (amt f i)) rfl k hi)
       rw [Go.WideShapes.add_plain] at this
       simpa using this
    clear O
    go_wp2_with fail
    refine HC.out.mono ?_
    rintro e w9 ⟨rfl, q9⟩
    have Q9 := Lib.hid (QR.out.trans q9)
    clear q9
    go_wp2_with fail
    go_ret2
    exact ⟨rfl, Q9.out⟩
end Go.Proofs.YtobfgljkckcmcaaGreatDoor.Coi
