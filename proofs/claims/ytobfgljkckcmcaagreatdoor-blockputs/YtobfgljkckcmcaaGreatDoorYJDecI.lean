import Derived.Test.YtobfgljkckcmcaaGreatDoorYJDecH
import Derived.Test.YtobfgljkckcmcaaGreatDoorYJCoiD
set_option maxRecDepth 100000
namespace Go.Proofs.YtobfgljkckcmcaaGreatDoor.Coi
open Go.RowKit
open Mem Num Cod Sh
set_option linter.unusedVariables false
set_option linter.unusedSimpArgs false
set_option maxHeartbeats 8000000 in
theorem d9id_x (t : TX) (aI : Option Addr) (cI : Nat) (aO : Option Addr) (cO : Nat) (aW : Option Addr) (cW : Nat) (w : World) (hi : SL IN.cells 4 w aI t.nI t.ins) (ho : SL OU.cells 9 w aO t.nO t.outs) (hw : SL WN.cells 10 w aW t.p.n t.p.w) (hk : t.ok) :
 Calls Tryz.prog 19 #[txV t aI cI aO cO aW cW] w (Enc (RightT t) (idS t) w) := by
 have HQ : Hid (∀ o, Q w (w.alloc o)) := fun o => (Q.refl w).alloc o
 have HB : Hid (∀ ty, Box (w.alloc (.cells #[.slice aI t.nI cI, .slice aO t.nO cO, .int .u64 t.p.amount, .string t.p.sig, .string t.p.token, .slice aW t.p.n cW] ty)) w.heap.size [.slice aI t.nI cI, .slice aO t.nO cO, .int .u64 t.p.amount, .string t.p.sig, .string t.p.token, .slice aW t.p.n cW]) := fun ty => Box.new w _ ty
 have HI := Lib.hid hi
 have HO := Lib.hid ho
 have HW := Lib.hid hw
 have HK := Lib.hid hk
 clear hi ho hw hk
 go_enter Tryz.func19, Tryz.ntmps19
 go_wp2_with fail
 have B0 := Lib.hid (HB.out 43)
 have Q0 := Lib.hid (HQ.out (.cells #[.slice aI t.nI cI, .slice aO t.nO cO, .int .u64 t.p.amount, .string t.p.sig, .string t.p.token, .slice aW t.p.n cW] 43))
 generalize w.alloc (.cells #[.slice aI t.nI cI, .slice aO t.nO cO, .int .u64 t.p.amount, .string t.p.sig, .string t.p.token, .slice aW t.p.n cW] 43) = wA at *
 generalize w.heap.size = b0 at *
 clear HQ HB
 refine (d9right_x t aI cI aO cO aW cW wA (HI.out.q Q0.out) (HO.out.q Q0.out) (HW.out.q Q0.out) HK.out).mono ?_
 rintro e w1 ⟨b, rfl, hz, q1⟩
 have Q1 := Lib.hid (Q0.out.trans q1)
 have B1 := Lib.hid (B0.out.q q1)
 have lA : Hid (wA.heap.size ≤ w1.heap.size) := q1.size
 have lB := B0.out.lt
 have lw := Q1.out.size
 clear q1 B0 Q0
 rcases two hz with ⟨rfl, Z⟩ | ⟨rfl, Z⟩
 rotate_left
 · have Z1 := Lib.hid Z
   clear Z hz
   go_wp2_with fail
   go_ret
   exact Enc.no Z1.out Q1.out
 have Z1 := Lib.hid Z
 have i4 : (t.nI : Int) ≤ 4 := by have := Z.2.1; omega
 have o4 : (t.nO : Int) ≤ 4 := by have := Z.2.2.2.2.2.1; omega
 clear Z hz
 have CO : Hid (∀ w', Q w w' → Calls Tryz.prog 17 #[txV t aI cI aO cO aW cW] w' (Enc (RightT t) (coreS t) w')) := fun w' q => d9coreof_x t aI cI aO cO aW cW w' (HI.out.q q) (HO.out.q q) (HW.out.q q) HK.out
 clear HI HO HW HK i4 o4 lA lB lw
 go_wp2_with (with_reducible (show wpList _ _ _ (⟨_, Op.load 43 _, _, _, _, _⟩ :: _) _ _); refine halt ?_)
 refine Lib.hid (ld_box rfl 43 _ rfl b0 _ rfl B1.out Tryz.underlying43 rfl (by kernel_rfl) ?_)
 go_wp2_with fail
 refine (CO.out w1 Q1.out).mono ?_
 rintro e w2 ⟨s, rfl, hz, q2⟩
 have Q2 := Lib.hid (Q1.out.trans q2)
 have hs : s = coreS t := hz.elim (fun h => h.2) (fun h => absurd Z1.out h.1)
 have HS : Hid (tagS wTx (fun _ => s) 1 = idS t) := by show _ = _; rw [hs]; rfl
 have zs : s.size ≤ 1000000 := by rw [hs]; have := coreS_size t Z1.out; omega
 clear q2 hz hs CO Q1 B1
 have C := Lib.hid fun T => rtag1_x wTx s (idS t) HS.out T w2 _ rfl Q2.out (by decide) zs
 go_wp2_with fail
 refine (C.out _).mono ?_
 rintro e w3 ⟨rfl, q3⟩
 have Q3 := Lib.hid q3
 clear q3
 go_wp2_with fail
 go_ret
 exact Enc.yes Z1.out rfl Q3.out
set_option maxHeartbeats 8000000 in
theorem d9encode_x (t : TX) (aI : Option Addr) (cI : Nat) (aO : Option Addr) (cO : Nat) (aW : Option Addr) (cW : Nat) (w : World) (hi : SL IN.cells 4 w aI t.nI t.ins) (ho : SL OU.cells 9 w aO t.nO t.outs) (hw : SL WN.cells 10 w aW t.p.n t.p.w) (hk : t.ok) :
 Calls Tryz.prog 21 #[txV t aI cI aO cO aW cW] w (Enc (RightT t) (txB t) w) := by
 have HQ : Hid (∀ o, Q w (w.alloc o)) := fun o => (Q.refl w).alloc o
 have HB : Hid (∀ ty, Box (w.alloc (.cells #[.slice aI t.nI cI, .slice aO t.nO cO, .int .u64 t.p.amount, .string t.p.sig, .string t.p.token, .slice aW t.p.n cW] ty)) w.heap.size [.slice aI t.nI cI, .slice aO t.nO cO, .int .u64 t.p.amount, .string t.p.sig, .string t.p.token, .slice aW t.p.n cW]) := fun ty => Box.new w _ ty
 have HI := Lib.hid hi
 have HO := Lib.hid ho
 have HW := Lib.hid hw
 have HK := Lib.hid hk
 clear hi ho hw hk
 go_enter Tryz.func21, Tryz.ntmps21
 go_wp2_with fail
 have B0 := Lib.hid (HB.out 43)
 have Q0 := Lib.hid (HQ.out (.cells #[.slice aI t.nI cI, .slice aO t.nO cO, .int .u64 t.p.amount, .string t.p.sig, .string t.p.token, .slice aW t.p.n cW] 43))
 generalize w.alloc (.cells #[.slice aI t.nI cI, .slice aO t.nO cO, .int .u64 t.p.amount, .string t.p.sig, .string t.p.token, .slice aW t.p.n cW] 43) = wA at *
 generalize w.heap.size = b0 at *
 clear HQ HB
 refine (d9right_x t aI cI aO cO aW cW wA (HI.out.q Q0.out) (HO.out.q Q0.out) (HW.out.q Q0.out) HK.out).mono ?_
 rintro e w1 ⟨b, rfl, hz, q1⟩
 have Q1 := Lib.hid (Q0.out.trans q1)
 have B1 := Lib.hid (B0.out.q q1)
 have lA : Hid (wA.heap.size ≤ w1.heap.size) := q1.size
 have lB := B0.out.lt
 have lw := Q1.out.size
 clear q1 B0 Q0
 rcases two hz with ⟨rfl, Z⟩ | ⟨rfl, Z⟩
 rotate_left
 · have Z1 := Lib.hid Z
   clear Z hz
   go_wp2_with fail
   go_ret
   exact Enc.no Z1.out Q1.out
 have Z1 := Lib.hid Z
 have i4 : (t.nI : Int) ≤ 4 := by have := Z.2.1; omega
 have o4 : (t.nO : Int) ≤ 4 := by have := Z.2.2.2.2.2.1; omega
 clear Z hz
 go_wp2_with (with_reducible (show wpList _ _ _ (⟨_, Op.build 113 _, _, _, _, _⟩ :: _) _ _); refine halt ?_)
 refine Lib.hid (wpl_dwr rfl rfl _ rfl ?_)
 have H0 := Lib.hid (XS.new w1 113)
 have lW : (w1.alloc (.cells #[.string ⟨#[]⟩, .int .i64 0] 113)).heap.size = w1.heap.size + 1 := by simp
 have QA : Hid (Q w1 (w1.alloc (.cells #[.string ⟨#[]⟩, .int .i64 0] 113))) := (Q.refl w1).alloc _
 have CO : Hid (∀ w', Q w w' → Calls Tryz.prog 17 #[txV t aI cI aO cO aW cW] w' (Enc (RightT t) (coreS t) w')) := fun w' q => d9coreof_x t aI cI aO cO aW cW w' (HI.out.q q) (HO.out.q q) (HW.out.q q) HK.out
 go_wp2_with (with_reducible (show wpList _ _ _ (⟨_, Op.load 43 _, _, _, _, _⟩ :: _) _ _); refine halt ?_)
 generalize w1.alloc (.cells #[.string ⟨#[]⟩, .int .i64 0] 113) = wW at *
 have l1 := lA.out
 generalize w1.heap.size = g at *
 have hbg : b0 ≠ g := by omega
 have hwg : w.heap.size ≤ g := by omega
 have QB : Hid (∀ w', Ch g wW w' → Q w w') := fun w' k => k.q (Q1.out.trans QA.out) hwg
 have BB : Hid (∀ w', Ch g wW w' → Box w' b0 [.slice aI t.nI cI, .slice aO t.nO cO, .int .u64 t.p.amount, .string t.p.sig, .string t.p.token, .slice aW t.p.n cW]) := fun w' k => (B1.out.q QA.out).ch k hbg
 clear QA Q1 B1 lA l1 lB lW lw
 as_aux_lemma =>
 go_wp2_with (with_reducible (show wpList _ _ _ (⟨_, Op.load 43 _, _, _, _, _⟩ :: _) _ _); refine halt ?_)
 refine Lib.hid (ld_box rfl 43 _ rfl b0 _ rfl (BB.out _ (Ch.refl _ _)) Tryz.underlying43 rfl (by kernel_rfl) ?_)
 go_wp2_with fail
 refine (CO.out wW (QB.out _ (Ch.refl _ _))).mono ?_
 rintro e w2 ⟨s, rfl, hz, q2⟩
 have hs : s = coreS t := hz.elim (fun h => h.2) (fun h => absurd Z1.out h.1)
 have S1 : Hid (s.size ≤ 4096) := by show _ ≤ _; rw [hs]; have := coreS_size t Z1.out; omega
 have HS := Lib.hid hs
 have H1 := Lib.hid (H0.out.q q2)
 clear hz hs q2 H0 CO
 go_wp2_with fail
 refine (H1.out.blob s S1.out (by omega)).mono ?_
 rintro r w_2 ⟨rfl, h⟩
 have H2 := Lib.hid h
 clear h H1
 go_wp2_with fail
 go_loopw [4] (fun i wr => ∃ k : Nat, k ≤ t.nI ∧ i = .int .i64 k ∧ Hid (XS wW g (blobS s ++ catN (fun i => blobS (t.ins i).sig) k) (30000 + k * 60000) wr)) (fun i _ => t.nI - (intOf i).toNat)
 case atStart => exact ⟨0, by omega, rfl, Lib.hid (H2.out.to (by show _ = _ ++ ByteArray.empty; simp only [ByteArray.append_empty, ByteArray.empty_append]) (by omega))⟩
 case round =>
  obtain ⟨k, hk, rfl, H⟩ := hrel
  clear H2
  have k0 : (0 : Int) ≤ (k : Int) := by omega
  have m0 := (BB.out _ H.out.ch).at_ 0 _ rfl
  by_cases hlt : k < t.nI
  · have k1 : (k : Int) < (t.nI : Int) := by omega
    obtain ⟨b, off, rfl, hrow⟩ := HI.out.some_ (by omega)
    have c3 := Q.cell' (QB.out _ H.out.ch) (hrow k hlt 3 _ rfl)
    clear hrow
    have X : Hid ((t.ins k).sig.size ≤ 4096) := by show _ ≤ _; have := (Z1.out.2.2.1 k hlt).2.2.2.2.2; omega
    have HN : Hid (∀ T, T ++ blobS (t.ins k).sig = T ++ blobS (t.ins k).sig) := fun T => rfl
    obtain ⟨x, hx⟩ : ∃ x, (t.ins k).sig = x := ⟨_, rfl⟩
    have HX := Lib.hid hx
    rw [hx] at c3 X
    clear hx HN
    have H5 := Lib.hid H.out
    clear H
    go_wp2_with fail
    refine (H5.out.blob x X.out (by omega)).mono ?_
    rintro r w_6 ⟨rfl, h⟩
    have H6 := Lib.hid h
    clear h H5 m0 c3
    go_wp2_with fail
    go_roundw
    case rel => exact ⟨k + 1, by omega, by go_num, Lib.hid (H6.out.to (by rw [← HX.out]; show _ = _ ++ (catN _ k ++ blobS (t.ins k).sig); simp only [ByteArray.append_assoc]) (by omega))⟩
    case measure => simp [intOf]; omega
  · obtain rfl : k = t.nI := by omega
    have k1 : ¬ (t.nI : Int) < (t.nI : Int) := by omega
    have td : decide (t.nI < t.nI) = false := by simp
    have CE : Hid (∀ w', Q w w' → Calls Tryz.prog 76 #[pfV t.p aW cW] w' (Enc (RightP t.p) (pfB t.p) w')) := fun w' q => d8encode_x t.p aW cW w' (HW.out.q q) HK.out.p
    as_aux_lemma =>
    go_wp2_with (with_reducible (show wpList _ _ _ (⟨_, Op.load 41 _, _, _, _, _⟩ :: _) _ _); refine halt ?_)
    refine Lib.hid (wpList_load_mid rfl 41 _ rfl b0 2 rfl [.int .u64 t.p.amount, .string t.p.sig, .string t.p.token, .slice aW t.p.n cW] _ ((BB.out _ H.out.ch).rangeo 2 (r := []) rfl) Tryz.underlying41 rfl (by kernel_rfl) ?_)
    clear m0
    go_wp2_with fail
    refine (CE.out wr (QB.out _ H.out.ch)).mono ?_
    rintro e w9 ⟨s', rfl, hz, q9⟩
    have H9 := Lib.hid (H.out.q q9)
    have S2 : Hid (s' = pfB t.p) := hz.elim (fun h => h.2) (fun h => absurd Z1.out.2.2.2.2.2.2.2 h.1)
    have S3 : Hid (s'.size ≤ 4096) := by show _ ≤ _; rw [S2.out]; have := pfB_size t.p Z1.out.2.2.2.2.2.2.2; omega
    clear hz q9 H CE
    go_wp2_with fail
    refine (H9.out.blob s' S3.out (by omega)).mono ?_
    rintro r w_10 ⟨rfl, h⟩
    have H10 := Lib.hid h
    clear h H9
    go_wp2_with fail
    refine (H10.out.text).mono ?_
    rintro r w8 ⟨rfl, rfl⟩
    have Q8 := Lib.hid (QB.out _ H10.out.ch)
    go_wp2_with fail
    go_ret
    exact Enc.yes Z1.out (by rw [HS.out, S2.out]; rfl) Q8.out
end Go.Proofs.YtobfgljkckcmcaaGreatDoor.Coi
