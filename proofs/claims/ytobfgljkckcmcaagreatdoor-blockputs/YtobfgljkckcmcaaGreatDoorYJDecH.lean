import Derived.Test.YtobfgljkckcmcaaGreatDoorYJDecG
import Derived.Test.YtobfgljkckcmcaaGreatDoorYJDec5
set_option maxRecDepth 100000
namespace Go.Proofs.YtobfgljkckcmcaaGreatDoor.Coi
open Go.RowKit
open Mem Num Cod
set_option linter.unusedVariables false
set_option linter.unusedSimpArgs false
theorem zeroDOo (w : World) : (zeroValue 49).run Tryz.prog w = .ok (.agg #[.int .i64 0, .int .u64 0, .string ⟨#[]⟩, .string ⟨#[]⟩, .int .i64 0, .string ⟨#[]⟩, .int .u64 0, .int .i64 0, .string ⟨#[]⟩]) w := by
 have h : (Tryz.prog.info? 49).bind (·.zero) = some (.agg #[.int .i64 0, .int .u64 0, .string ⟨#[]⟩, .string ⟨#[]⟩, .int .i64 0, .string ⟨#[]⟩, .int .u64 0, .int .i64 0, .string ⟨#[]⟩]) := by kernel_rfl
 cases hi : Tryz.prog.info? 49 with
 | none => rw [hi] at h; cases h
 | some i => rw [hi] at h; simp [zeroValue, typeInfo, hi, show i.zero = some (.agg #[.int .i64 0, .int .u64 0, .string ⟨#[]⟩, .string ⟨#[]⟩, .int .i64 0, .string ⟨#[]⟩, .int .u64 0, .int .i64 0, .string ⟨#[]⟩]) from h]
theorem one9o {v0 v1 v2 v3 v4 v5 v6 v7 v8 : Value} (h0 : v0.oneCell' = true) (h1 : v1.oneCell' = true) (h2 : v2.oneCell' = true) (h3 : v3.oneCell' = true) (h4 : v4.oneCell' = true) (h5 : v5.oneCell' = true) (h6 : v6.oneCell' = true) (h7 : v7.oneCell' = true) (h8 : v8.oneCell' = true) : ∀ v ∈ [v0, v1, v2, v3, v4, v5, v6, v7, v8], v.oneCell' = true := by
 intro v hv; simp at hv; rcases hv with rfl | rfl | rfl | rfl | rfl | rfl | rfl | rfl | rfl <;> assumption
set_option maxHeartbeats 8000000 in
theorem d9coreof_x (t : TX) (aI : Option Addr) (cI : Nat) (aO : Option Addr) (cO : Nat) (aW : Option Addr) (cW : Nat) (w : World) (hi : SL IN.cells 4 w aI t.nI t.ins) (ho : SL OU.cells 9 w aO t.nO t.outs) (hw : SL WN.cells 10 w aW t.p.n t.p.w) (hk : t.ok) :
 Calls Tryz.prog 17 #[txV t aI cI aO cO aW cW] w (Enc (RightT t) (coreS t) w) := by
 have HQ : Hid (∀ o, Q w (w.alloc o)) := fun o => (Q.refl w).alloc o
 have HB : Hid (∀ ty, Box (w.alloc (.cells #[.slice aI t.nI cI, .slice aO t.nO cO, .int .u64 t.p.amount, .string t.p.sig, .string t.p.token, .slice aW t.p.n cW] ty)) w.heap.size [.slice aI t.nI cI, .slice aO t.nO cO, .int .u64 t.p.amount, .string t.p.sig, .string t.p.token, .slice aW t.p.n cW]) := fun ty => Box.new w _ ty
 have HI := Lib.hid hi
 have HO := Lib.hid ho
 have HW := Lib.hid hw
 have HK := Lib.hid hk
 clear hi ho hw hk
 go_enter Tryz.func17, Tryz.ntmps17
 go_wp2_with fail
 have B0 := Lib.hid (HB.out 43)
 have Q0 := Lib.hid (HQ.out (.cells #[.slice aI t.nI cI, .slice aO t.nO cO, .int .u64 t.p.amount, .string t.p.sig, .string t.p.token, .slice aW t.p.n cW] 43))
 generalize w.alloc (.cells #[.slice aI t.nI cI, .slice aO t.nO cO, .int .u64 t.p.amount, .string t.p.sig, .string t.p.token, .slice aW t.p.n cW] 43) = wA at *
 generalize w.heap.size = b0 at *
 clear HQ HB
 refine (d9right_x t aI cI aO cO aW cW wA (HI.out.q Q0.out) (HO.out.q Q0.out) (HW.out.q Q0.out) HK.out).mono ?_
 rintro e w1 ⟨b, rfl, hz, q1⟩
 have Q1 := Lib.hid (Q0.out.trans q1)
 have B1 := Lib.hid (B0.out.q q1)
 have lA : Hid (wA.heap.size ≤ w1.heap.size) := q1.size
 have lB := B0.out.lt
 have lw := Q1.out.size
 clear q1 B0 Q0
 rcases two hz with ⟨rfl, Z⟩ | ⟨rfl, Z⟩
 rotate_left
 · have Z1 := Lib.hid Z
   clear Z hz
   go_wp2_with fail
   go_ret
   exact Enc.no Z1.out Q1.out
 have Z1 := Lib.hid Z
 have i4 : (t.nI : Int) ≤ 4 := by have := Z.2.1; omega
 have o4 : (t.nO : Int) ≤ 4 := by have := Z.2.2.2.2.2.1; omega
 clear Z hz
 go_wp2_with (with_reducible (show wpList _ _ _ (⟨_, Op.build 113 _, _, _, _, _⟩ :: _) _ _); refine halt ?_)
 refine Lib.hid (wpl_dwr rfl rfl _ rfl ?_)
 have H0 := Lib.hid (XS.new w1 113)
 have lW : (w1.alloc (.cells #[.string ⟨#[]⟩, .int .i64 0] 113)).heap.size = w1.heap.size + 1 := by simp
 have QA : Hid (Q w1 (w1.alloc (.cells #[.string ⟨#[]⟩, .int .i64 0] 113))) := (Q.refl w1).alloc _
 have m0 := (B1.out.q QA.out).at_ 0 _ rfl
 go_wp2_with fail
 generalize w1.alloc (.cells #[.string ⟨#[]⟩, .int .i64 0] 113) = wW at *
 have l1 := lA.out
 generalize w1.heap.size = g at *
 have hbg : b0 ≠ g := by omega
 have hwg : w.heap.size ≤ g := by omega
 have QB : Hid (∀ w', Ch g wW w' → Q w w') := fun w' k => k.q (Q1.out.trans QA.out) hwg
 have BB : Hid (∀ w', Ch g wW w' → Box w' b0 [.slice aI t.nI cI, .slice aO t.nO cO, .int .u64 t.p.amount, .string t.p.sig, .string t.p.token, .slice aW t.p.n cW]) := fun w' k => (B1.out.q QA.out).ch k hbg
 clear QA Q1 B1 lA l1 lB lW lw
 as_aux_lemma =>
 refine (H0.out.byte 67 (by omega) (by omega)).mono ?_
 rintro r w_1 ⟨rfl, h⟩
 have H1 := Lib.hid h
 clear h H0 m0
 have m0 := (BB.out _ H1.out.ch).at_ 0 _ rfl
 go_wp2_with fail
 refine (H1.out.byte (t.nI : Int) ⟨by omega, by omega⟩ (by omega)).mono ?_
 rintro r w_2 ⟨rfl, h⟩
 have H2 := Lib.hid h
 clear h H1 m0
 go_wp2_with fail
 go_loopw [4] (fun i wr => ∃ k : Nat, k ≤ t.nI ∧ i = .int .i64 k ∧ Hid (XS wW g (strOfNums [67] ++ strOfNums [(t.nI : Int)] ++ catN (fun i => inB (t.ins i)) k) (30000 + k * 60000) wr)) (fun i _ => t.nI - (intOf i).toNat)
 case atStart => exact ⟨0, by omega, rfl, Lib.hid (H2.out.to (by show _ = _ ++ ByteArray.empty; simp only [ByteArray.append_empty, ByteArray.empty_append]) (by omega))⟩
 case round =>
  obtain ⟨k, hk, rfl, H⟩ := hrel
  clear H2
  have k0 : (0 : Int) ≤ (k : Int) := by omega
  have m0 := (BB.out _ H.out.ch).at_ 0 _ rfl
  by_cases hlt : k < t.nI
  · have k1 : (k : Int) < (t.nI : Int) := by omega
    obtain ⟨b, off, rfl, hrow⟩ := HI.out.some_ (by omega)
    have HR : Hid (∀ w', Q w w' → ∀ j v, ((t.ins k).cells)[j]? = some v → w'.cell? ⟨b, off + k * 4 + j, none⟩ = some v) := fun w' q j v hv => Q.cell' q (hrow k hlt j v hv)
    clear hrow
    have X := Lib.hid (Z1.out.2.2.1 k hlt)
    obtain ⟨x, hx⟩ : ∃ x, t.ins k = x := ⟨_, rfl⟩
    have HN : Hid (∀ T, T ++ x.tx ++ strOfNums [x.out] ++ strOfNums [x.path] = T ++ inB (t.ins k)) := fun T => by rw [hx]; unfold inB; simp only [ByteArray.append_assoc]
    rw [hx] at HR X
    clear hx
    have c0 := (in_at (HR.out _ (QB.out _ H.out.ch))).1
    have H5 := Lib.hid H.out
    clear H
    as_aux_lemma =>
    go_wp2_with fail
    refine (H5.out.hash x.tx X.out.1 (by omega)).mono ?_
    rintro r w_6 ⟨rfl, h⟩
    have H6 := Lib.hid h
    clear h H5 m0 c0
    have m0 := (BB.out _ H6.out.ch).at_ 0 _ rfl
    have c1 := (in_at (HR.out _ (QB.out _ H6.out.ch))).2.1
    go_wp2_with fail
    refine (H6.out.byte x.out ⟨X.out.2.1, X.out.2.2.1⟩ (by omega)).mono ?_
    rintro r w_7 ⟨rfl, h⟩
    have H7 := Lib.hid h
    clear h H6 m0 c1
    have m0 := (BB.out _ H7.out.ch).at_ 0 _ rfl
    have c2 := (in_at (HR.out _ (QB.out _ H7.out.ch))).2.2.1
    as_aux_lemma =>
    go_wp2_with fail
    refine (H7.out.byte x.path ⟨by have := X.out.2.2.2.1; omega, by have := X.out.2.2.2.2.1; omega⟩ (by omega)).mono ?_
    rintro r w_8 ⟨rfl, h⟩
    have H8 := Lib.hid h
    clear h H7 m0 c2
    as_aux_lemma =>
    go_wp2_with fail
    go_roundw
    case rel => exact ⟨k + 1, by omega, by go_num, Lib.hid (H8.out.to (by rw [HN.out]; show _ = _ ++ (catN _ k ++ inB (t.ins k)); simp only [ByteArray.append_assoc]) (by omega))⟩
    case measure => simp [intOf]; omega
  · obtain rfl : k = t.nI := by omega
    have k1 : ¬ (t.nI : Int) < (t.nI : Int) := by omega
    have td : decide (t.nI < t.nI) = false := by simp
    have m1 := (BB.out _ H.out.ch).at_ 1 _ rfl
    have H9 := Lib.hid H.out
    clear H
    as_aux_lemma =>
    go_wp2_with fail
    refine (H9.out.byte (t.nO : Int) ⟨by omega, by omega⟩ (by omega)).mono ?_
    rintro r w_10 ⟨rfl, h⟩
    have H10 := Lib.hid h
    clear h H9 m0 m1
    go_wp2_with fail
    clear k1 td hlt hk k0
    go_loopw [5, 6] (fun i z wr => ∃ k : Nat, k ≤ t.nO ∧ i = .int .i64 k ∧ Hid (XS wW g (strOfNums [67] ++ strOfNums [(t.nI : Int)] ++ catN (fun i => inB (t.ins i)) t.nI ++ strOfNums [(t.nO : Int)] ++ catN (fun i => ouB (t.outs i)) k) (600000 + k * 60000) wr)) (fun i _ _ => t.nO - (intOf i).toNat)
    case atStart => exact ⟨0, by omega, rfl, Lib.hid (H10.out.to (by show _ = _ ++ ByteArray.empty; simp only [ByteArray.append_empty]) (by omega))⟩
    case round =>
     obtain ⟨k, hk, rfl, H⟩ := hrel
     clear H10
     have k0 : (0 : Int) ≤ (k : Int) := by omega
     have m1 := (BB.out _ H.out.ch).at_ 1 _ rfl
     by_cases hlt : k < t.nO
     · have k1 : (k : Int) < (t.nO : Int) := by omega
       obtain ⟨b, off, rfl, hrow⟩ := HO.out.some_ (by omega)
       have hrow : ∀ j v, ((t.outs k).cells)[j]? = some v → wr.cell? ⟨b, off + k * 9 + j, none⟩ = some v := fun j v hv => Q.cell' (QB.out _ H.out.ch) (hrow k hlt j v hv)
       have X := Lib.hid (Z1.out.2.2.2.2.2.2.1 k hlt)
       have XK := Lib.hid (HK.out.outs k hlt)
       have hgl := H.out.lt
       obtain ⟨x, hx⟩ : ∃ x, t.outs k = x := ⟨_, rfl⟩
       have HN : Hid (∀ T, T ++ ouB x = T ++ ouB (t.outs k)) := fun T => by rw [hx]
       rw [hx] at hrow X XK
       clear hx
       go_wp2_with (with_reducible (show wpList _ _ _ (⟨_, Op.load 49 _, _, _, _, _⟩ :: _) _ _); refine halt ?_)
       refine Lib.hid (ld_row rfl 49 _ rfl b (off + k * 9) [.int .i64 x.kind, .int .u64 x.amount, .string x.key, .string x.gate, .int .i64 x.expiry, .string x.anchor, .int .u64 x.unit, .int .i64 x.tokens, .string x.of_] rfl (fun j v hv => hrow j v hv) Tryz.underlying49 rfl (by kernel_rfl) ?_)
       refine wpList_allocZ rfl 49 rfl #[.int .i64 0, .int .u64 0, .string ⟨#[]⟩, .string ⟨#[]⟩, .int .i64 0, .string ⟨#[]⟩, .int .u64 0, .int .i64 0, .string ⟨#[]⟩] zeroDOo ?_
       refine st_box rfl 49 _ _ rfl wr.heap.size _ [.int .i64 x.kind, .int .u64 x.amount, .string x.key, .string x.gate, .int .i64 x.expiry, .string x.anchor, .int .u64 x.unit, .int .i64 x.tokens, .string x.of_] rfl rfl (Box.new wr [.int .i64 0, .int .u64 0, .string ⟨#[]⟩, .string ⟨#[]⟩, .int .i64 0, .string ⟨#[]⟩, .int .u64 0, .int .i64 0, .string ⟨#[]⟩] 49) rfl (by kernel_rfl) (one9o rfl rfl rfl rfl rfl rfl rfl rfl rfl) ?_
       intro w2 BX0 c2
       have q2 : Q wr w2 := c2.q ((Q.refl wr).alloc _) (Nat.le_refl _)
       have HS : Hid (∀ T' B' w', XS w2 g T' B' w' → XS wW g T' B' w') := fun T' B' w' k => (H.out.q q2).over k
       have H0 := Lib.hid ((H.out.q q2).up)
       have CC : Hid (∀ w', Ch g w2 w' → Ch g wW w') := fun w' k => (H.out.q q2).ch.trans k
       have hxg : wr.heap.size ≠ g := by omega
       have BX : Hid (∀ w', Ch g w2 w' → Box w' wr.heap.size [.int .i64 x.kind, .int .u64 x.amount, .string x.key, .string x.gate, .int .i64 x.expiry, .string x.anchor, .int .u64 x.unit, .int .i64 x.tokens, .string x.of_]) := fun w' k => BX0.ch k hxg
       generalize wr.heap.size = gx at *
       clear c2 q2 BX0 H hgl hrow m1
       have GOAL := x.kind
       clear GOAL
       obtain ⟨kind, amount, key, gate, expiry, anchor, unit, tokens, of_⟩ := x
       dsimp only at *
       obtain ⟨f1, f2, f3⟩ := X.out
       have F2 := Lib.hid f2
       dsimp only at f1 f2 f3
       have cv1 : Hid ((kind = 2 ∨ kind = 3) → IntKind.u64.wrap expiry = expiry) := fun hq => by rw [IntKind.wrap_u64]; omega
       have cv2 : Hid (kind = 2 → IntKind.u64.wrap tokens = tokens) := fun hq => by rw [IntKind.wrap_u64]; omega
       rcases f3 with h1 | h2 | h3
       · obtain ⟨e0, z1⟩ := h1
         subst e0
         clear cv1 cv2 z1
         have d0 := (BX.out _ (Ch.refl _ _)).at_ 0 _ rfl
         as_aux_lemma =>
         go_wp2_with fail
         refine (H0.out.byte 1 (by omega) (by omega)).mono ?_
         rintro r w_1 ⟨rfl, h⟩
         have H1 := Lib.hid h
         clear h H0 d0
         have d1 := (BX.out _ H1.out.ch).at_ 1 _ rfl
         go_wp2_with fail
         refine (H1.out.num amount XK.out.amount (by omega)).mono ?_
         rintro r w_2 ⟨rfl, h⟩
         have H2 := Lib.hid h
         clear h H1 d1
         have d2 := (BX.out _ H2.out.ch).at_ 2 _ rfl
         go_wp2_with fail
         refine (H2.out.hash key F2.out (by omega)).mono ?_
         rintro r w_3 ⟨rfl, h⟩
         have H3 := Lib.hid h
         clear h H2 d2
         have d0 := (BX.out _ H3.out.ch).at_ 0 _ rfl
         as_aux_lemma =>
         go_wp2_with fail
         have H := Lib.hid (HS.out _ _ _ H3.out)
         go_roundw
         case rel =>
          refine ⟨k + 1, by omega, by go_num, Lib.hid (H.out.to ?_ (by omega))⟩
          show _ = _ ++ (catN _ k ++ ouB (t.outs k))
          rw [← ByteArray.append_assoc, ← HN.out]
          unfold ouB; rw [if_neg (by dsimp only; omega), if_neg (by dsimp only; omega)]; simp only [ByteArray.append_assoc, ByteArray.append_empty]
         case measure => simp [intOf]; omega
       · obtain ⟨e0, z1⟩ := h2
         subst e0
         have cv1 := cv1.out (Or.inl rfl)
         have cv2 := cv2.out rfl
         obtain ⟨g1, g2, g3, g4, g5, g6, g7⟩ := z1
         have d0 := (BX.out _ (Ch.refl _ _)).at_ 0 _ rfl
         as_aux_lemma =>
         go_wp2_with fail
         refine (H0.out.byte 2 (by omega) (by omega)).mono ?_
         rintro r w_1 ⟨rfl, h⟩
         have H1 := Lib.hid h
         clear h H0 d0
         have d1 := (BX.out _ H1.out.ch).at_ 1 _ rfl
         go_wp2_with fail
         refine (H1.out.num amount XK.out.amount (by omega)).mono ?_
         rintro r w_2 ⟨rfl, h⟩
         have H2 := Lib.hid h
         clear h H1 d1
         have d2 := (BX.out _ H2.out.ch).at_ 2 _ rfl
         go_wp2_with fail
         refine (H2.out.hash key F2.out (by omega)).mono ?_
         rintro r w_3 ⟨rfl, h⟩
         have H3 := Lib.hid h
         clear h H2 d2
         have d0 := (BX.out _ H3.out.ch).at_ 0 _ rfl
         have d3 := (BX.out _ H3.out.ch).at_ 3 _ rfl
         as_aux_lemma =>
         go_wp2_with fail
         refine (H3.out.hash gate (by omega) (by omega)).mono ?_
         rintro r w_4 ⟨rfl, h⟩
         have H4 := Lib.hid h
         clear h H3 d0 d3
         have d4 := (BX.out _ H4.out.ch).at_ 4 _ rfl
         go_wp2_with fail
         refine (H4.out.num expiry ⟨by omega, by omega⟩ (by omega)).mono ?_
         rintro r w_5 ⟨rfl, h⟩
         have H5 := Lib.hid h
         clear h H4 d4
         have d0 := (BX.out _ H5.out.ch).at_ 0 _ rfl
         have d5 := (BX.out _ H5.out.ch).at_ 5 _ rfl
         as_aux_lemma =>
         go_wp2_with fail
         refine (H5.out.hash anchor (by omega) (by omega)).mono ?_
         rintro r w_6 ⟨rfl, h⟩
         have H6 := Lib.hid h
         clear h H5 d0 d5
         have d6 := (BX.out _ H6.out.ch).at_ 6 _ rfl
         go_wp2_with fail
         refine (H6.out.num unit XK.out.unit (by omega)).mono ?_
         rintro r w_7 ⟨rfl, h⟩
         have H7 := Lib.hid h
         clear h H6 d6
         have d7 := (BX.out _ H7.out.ch).at_ 7 _ rfl
         as_aux_lemma =>
         go_wp2_with fail
         refine (H7.out.num tokens ⟨by omega, by omega⟩ (by omega)).mono ?_
         rintro r w_8 ⟨rfl, h⟩
         have H8 := Lib.hid h
         clear h H7 d7
         have d0 := (BX.out _ H8.out.ch).at_ 0 _ rfl
         go_wp2_with fail
         have H := Lib.hid (HS.out _ _ _ H8.out)
         go_roundw
         case rel =>
          refine ⟨k + 1, by omega, by go_num, Lib.hid (H.out.to ?_ (by omega))⟩
          show _ = _ ++ (catN _ k ++ ouB (t.outs k))
          rw [← ByteArray.append_assoc, ← HN.out]
          unfold ouB; rw [if_pos rfl]; simp only [ByteArray.append_assoc]
         case measure => simp [intOf]; omega
       · obtain ⟨e0, z1⟩ := h3
         subst e0
         have cv1 := cv1.out (Or.inr rfl)
         clear cv2
         obtain ⟨g1, g2, g3, g4, g5⟩ := z1
         have X8 := Lib.hid g4
         have d0 := (BX.out _ (Ch.refl _ _)).at_ 0 _ rfl
         as_aux_lemma =>
         go_wp2_with fail
         refine (H0.out.byte 3 (by omega) (by omega)).mono ?_
         rintro r w_1 ⟨rfl, h⟩
         have H1 := Lib.hid h
         clear h H0 d0
         have d1 := (BX.out _ H1.out.ch).at_ 1 _ rfl
         go_wp2_with fail
         refine (H1.out.num amount XK.out.amount (by omega)).mono ?_
         rintro r w_2 ⟨rfl, h⟩
         have H2 := Lib.hid h
         clear h H1 d1
         have d2 := (BX.out _ H2.out.ch).at_ 2 _ rfl
         go_wp2_with fail
         refine (H2.out.hash key F2.out (by omega)).mono ?_
         rintro r w_3 ⟨rfl, h⟩
         have H3 := Lib.hid h
         clear h H2 d2
         have d0 := (BX.out _ H3.out.ch).at_ 0 _ rfl
         have d3 := (BX.out _ H3.out.ch).at_ 3 _ rfl
         as_aux_lemma =>
         go_wp2_with fail
         refine (H3.out.hash gate (by omega) (by omega)).mono ?_
         rintro r w_4 ⟨rfl, h⟩
         have H4 := Lib.hid h
         clear h H3 d0 d3
         have d4 := (BX.out _ H4.out.ch).at_ 4 _ rfl
         go_wp2_with fail
         refine (H4.out.num expiry ⟨by omega, by omega⟩ (by omega)).mono ?_
         rintro r w_5 ⟨rfl, h⟩
         have H5 := Lib.hid h
         clear h H4 d4
         have d0 := (BX.out _ H5.out.ch).at_ 0 _ rfl
         have d8 := (BX.out _ H5.out.ch).at_ 8 _ rfl
         as_aux_lemma =>
         go_wp2_with fail
         refine (H5.out.hash of_ (by omega) (by omega)).mono ?_
         rintro r w_6 ⟨rfl, h⟩
         have H6 := Lib.hid h
         clear h H5 d0 d8
         go_wp2_with fail
         have H := Lib.hid (HS.out _ _ _ H6.out)
         go_roundw
         case rel =>
          refine ⟨k + 1, by omega, by go_num, Lib.hid (H.out.to ?_ (by omega))⟩
          show _ = _ ++ (catN _ k ++ ouB (t.outs k))
          rw [← ByteArray.append_assoc, ← HN.out]
          unfold ouB; rw [if_neg (by dsimp only; omega), if_pos rfl]; simp only [ByteArray.append_assoc]
         case measure => simp [intOf]; omega
     · obtain rfl : k = t.nO := by omega
       have k1 : ¬ (t.nO : Int) < (t.nO : Int) := by omega
       have td : decide (t.nO < t.nO) = false := by simp
       as_aux_lemma =>
       go_wp2_with fail
       refine (H.out.text).mono ?_
       rintro r w8 ⟨rfl, rfl⟩
       have Q8 := Lib.hid (QB.out _ H.out.ch)
       go_wp2_with fail
       go_ret
       exact Enc.yes Z1.out rfl Q8.out
end Go.Proofs.YtobfgljkckcmcaaGreatDoor.Coi
