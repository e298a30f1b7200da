import Derived.Test.YtobfgljkckcmcaaGreatDoorYHCoiA
import Derived.Test.YtobfgljkckcmcaaGreatDoorYJDec8
set_option maxRecDepth 100000
namespace Go.Proofs.YtobfgljkckcmcaaGreatDoor.Coi
open Go.RowKit
open Mem Num Cod
set_option linter.unusedVariables false
set_option linter.unusedSimpArgs false
theorem built_dwr  : Tryz.prog.built 113 [] = some #[.string ⟨#[]⟩, .int .i64 0] := by kernel_rfl
theorem wpl_dwr {ops : Array Oper} {rest : List Oper} {o : Oper} {a : Act} {w : World} {Q : Exit → Act → World → Prop} (hg : o.guard = none)  (ho : o.op = .build 113 #[]) (d : Option Tmp) (hd : o.dst = d)  (h : wpList Tryz.prog ops Q rest (a.put d (.agg #[.string ⟨#[]⟩, .int .i64 0])) w) : wpList Tryz.prog ops Q (o :: rest) a w := by
 refine wpList_buildTo hg 113 _ ho d hd _ ?_ h
 simp only [List.map_toArray, List.map_nil]
 exact built_dwr
theorem XS.lt {w0 w : World} {g B : Nat} {T : ByteArray} (h : XS w0 g T B w) : g < w.heap.size := h.wr.lt
set_option maxHeartbeats 8000000 in
theorem d8encode_x (p : PF) (a : Option Addr) (c : Nat) (w : World) (h : SL WN.cells 10 w a p.n p.w) (hk : p.ok) :
 Calls Tryz.prog 76 #[pfV p a c] w (Enc (RightP p) (pfB p) w) := by
 have HQ : Hid (∀ o, Q w (w.alloc o)) := fun o => (Q.refl w).alloc o
 have HB : Hid (∀ ty, Box (w.alloc (.cells #[.int .u64 p.amount, .string p.sig, .string p.token, .slice a p.n c] ty)) w.heap.size [.int .u64 p.amount, .string p.sig, .string p.token, .slice a p.n c]) := fun ty => Box.new w _ ty
 have HT := Lib.hid h
 have HK := Lib.hid hk
 clear h hk
 go_enter Tryz.func76, Tryz.ntmps76
 go_wp2_with fail
 have B0 := Lib.hid (HB.out 41)
 have Q0 := Lib.hid (HQ.out (.cells #[.int .u64 p.amount, .string p.sig, .string p.token, .slice a p.n c] 41))
 generalize w.alloc (.cells #[.int .u64 p.amount, .string p.sig, .string p.token, .slice a p.n c] 41) = wA at *
 generalize w.heap.size = b0 at *
 clear HQ HB
 refine (d8right_x p a c wA (HT.out.q Q0.out) HK.out.n).mono ?_
 rintro e w1 ⟨b, rfl, hz, q1⟩
 have Q1 := Lib.hid (Q0.out.trans q1)
 have B1 := Lib.hid (B0.out.q q1)
 have lA : Hid (wA.heap.size ≤ w1.heap.size) := q1.size
 have lB := B0.out.lt
 have lw := Q1.out.size
 clear q1 B0 Q0
 rcases two hz with ⟨rfl, Z⟩ | ⟨rfl, Z⟩
 rotate_left
 · have Z1 := Lib.hid Z
   clear Z hz
   go_wp2_with fail
   go_ret
   exact Enc.no Z1.out Q1.out
 have Z1 := Lib.hid Z
 have n3 : (p.n : Int) ≤ 3 := by have := Z.2.2.1; omega
 clear Z hz
 go_wp2_with (with_reducible (show wpList _ _ _ (⟨_, Op.build 113 _, _, _, _, _⟩ :: _) _ _); refine halt ?_)
 refine Lib.hid (wpl_dwr rfl rfl _ rfl ?_)
 have H0 := Lib.hid (XS.new w1 113)
 have lW : (w1.alloc (.cells #[.string ⟨#[]⟩, .int .i64 0] 113)).heap.size = w1.heap.size + 1 := by simp
 have QA : Hid (Q w1 (w1.alloc (.cells #[.string ⟨#[]⟩, .int .i64 0] 113))) := (Q.refl w1).alloc _
 have m0 := (B1.out.q QA.out).at_ 0 _ rfl
 go_wp2_with fail
 generalize w1.alloc (.cells #[.string ⟨#[]⟩, .int .i64 0] 113) = wW at *
 have l1 := lA.out
 generalize w1.heap.size = g at *
 have hbg : b0 ≠ g := by omega
 have hwg : w.heap.size ≤ g := by omega
 have QB : Hid (∀ w', Ch g wW w' → Q w w') := fun w' k => k.q (Q1.out.trans QA.out) hwg
 have BB : Hid (∀ w', Ch g wW w' → Box w' b0 [.int .u64 p.amount, .string p.sig, .string p.token, .slice a p.n c]) := fun w' k => (B1.out.q QA.out).ch k hbg
 clear QA Q1 B1 lA l1 lB lW lw
 as_aux_lemma =>
 refine (H0.out.num p.amount HK.out.amount (by omega)).mono ?_
 rintro r w_1 ⟨rfl, h⟩
 have H1 := Lib.hid h
 clear h H0 m0
 have m1 := (BB.out _ H1.out.ch).at_ 1 _ rfl
 go_wp2_with fail
 refine (H1.out.blob p.sig (by have := Z1.out.1; omega) (by omega)).mono ?_
 rintro r w_2 ⟨rfl, h⟩
 have H2 := Lib.hid h
 clear h H1 m1
 have m2 := (BB.out _ H2.out.ch).at_ 2 _ rfl
 go_wp2_with fail
 refine (H2.out.blob p.token (by have := Z1.out.2.1; omega) (by omega)).mono ?_
 rintro r w_3 ⟨rfl, h⟩
 have H3 := Lib.hid h
 clear h H2 m2
 have m3 := (BB.out _ H3.out.ch).at_ 3 _ rfl
 as_aux_lemma =>
 go_wp2_with fail
 refine (H3.out.byte (p.n : Int) ⟨by omega, by omega⟩ (by omega)).mono ?_
 rintro r w_4 ⟨rfl, h⟩
 have H4 := Lib.hid h
 clear h H3 m3
 go_wp2_with fail
 go_loopw [4, 5] (fun i z wr => ∃ k : Nat, k ≤ p.n ∧ i = .int .i64 k ∧ Hid (XS wW g (putS p.amount ++ blobS p.sig ++ blobS p.token ++ strOfNums [(p.n : Int)] ++ catN (fun i => wnB (p.w i)) k) (30000 + k * 80000) wr)) (fun i _ _ => p.n - (intOf i).toNat)
 case atStart => exact ⟨0, by omega, rfl, Lib.hid (H4.out.to (by show _ = _ ++ ByteArray.empty; simp only [ByteArray.append_empty, ByteArray.empty_append]) (by omega))⟩
 case round =>
  obtain ⟨k, hk, rfl, H⟩ := hrel
  clear H4
  have k0 : (0 : Int) ≤ (k : Int) := by omega
  have m3 := (BB.out _ H.out.ch).at_ 3 _ rfl
  by_cases hlt : k < p.n
  · have k1 : (k : Int) < (p.n : Int) := by omega
    obtain ⟨b, off, rfl, hrow⟩ := HT.out.some_ (by omega)
    have HR : Hid (∀ w', Q w w' → ∀ j v, ((p.w k).cells)[j]? = some v → w'.cell? ⟨b, off + k * 10 + j, none⟩ = some v) := fun w' q j v hv => Q.cell' q (hrow k hlt j v hv)
    clear hrow
    have X := Lib.hid (Z1.out.2.2.2 k hlt)
    have XK := Lib.hid (HK.out.w k hlt)
    have hgl := H.out.lt
    obtain ⟨x, hx⟩ : ∃ x, p.w k = x := ⟨_, rfl⟩
    have HN : Hid (∀ T, T ++ x.chan ++ putS x.serial ++ putS x.face ++ putS x.wins ++ putS x.many ++ x.commit ++ putS x.client ++ blobS x.sig ++ blobS x.salt ++ putS x.drawn = T ++ wnB (p.w k)) := fun T => by rw [hx]; unfold wnB tkB; simp only [ByteArray.append_assoc]
    rw [hx] at HR X XK
    clear hx
    have hrow := HR.out _ (QB.out _ H.out.ch)
    go_wp2_with (with_reducible (show wpList _ _ _ (⟨_, Op.load 139 _, _, _, _, _⟩ :: _) _ _); refine halt ?_)
    refine Lib.hid (ld_row rfl 139 _ rfl b (off + k * 10) [.string x.chan, .int .u64 x.serial, .int .u64 x.face, .int .u64 x.wins, .int .u64 x.many, .string x.commit, .int .u64 x.client, .string x.sig] rfl (fun j v hv => hrow j v (by rcases j with _ | _ | _ | _ | _ | _ | _ | _ | j <;> first | exact hv | cases hv)) Tryz.underlying139 rfl (by kernel_rfl) ?_)
    refine wpList_allocZ rfl 139 rfl #[.string ⟨#[]⟩, .int .u64 0, .int .u64 0, .int .u64 0, .int .u64 0, .string ⟨#[]⟩, .int .u64 0, .string ⟨#[]⟩] zeroDT ?_
    refine st_box rfl 139 _ _ rfl wr.heap.size _ [.string x.chan, .int .u64 x.serial, .int .u64 x.face, .int .u64 x.wins, .int .u64 x.many, .string x.commit, .int .u64 x.client, .string x.sig] rfl rfl (Box.new wr [.string ⟨#[]⟩, .int .u64 0, .int .u64 0, .int .u64 0, .int .u64 0, .string ⟨#[]⟩, .int .u64 0, .string ⟨#[]⟩] 139) rfl (by kernel_rfl) (one8 rfl rfl rfl rfl rfl rfl rfl rfl) ?_
    intro w2 BX0 c2
    have q2 : Q wr w2 := c2.q ((Q.refl wr).alloc _) (Nat.le_refl _)
    have HS : Hid (∀ T' B' w', XS w2 g T' B' w' → XS wW g T' B' w') := fun T' B' w' k => (H.out.q q2).over k
    have H0 := Lib.hid ((H.out.q q2).up)
    have CC : Hid (∀ w', Ch g w2 w' → Ch g wW w') := fun w' k => (H.out.q q2).ch.trans k
    have hxg : wr.heap.size ≠ g := by omega
    have BX : Hid (∀ w', Ch g w2 w' → Box w' wr.heap.size [.string x.chan, .int .u64 x.serial, .int .u64 x.face, .int .u64 x.wins, .int .u64 x.many, .string x.commit, .int .u64 x.client, .string x.sig]) := fun w' k => BX0.ch k hxg
    generalize wr.heap.size = gx at *
    clear c2 q2 BX0 H m3 hgl hrow
    have d0 := (BX.out _ (Ch.refl _ _)).at_ 0 _ rfl
    as_aux_lemma =>
    go_wp2_with fail
    refine (H0.out.hash x.chan X.out.1.1 (by omega)).mono ?_
    rintro r w_1 ⟨rfl, h⟩
    have H1 := Lib.hid h
    clear h H0 d0
    have d1 := (BX.out _ H1.out.ch).at_ 1 _ rfl
    go_wp2_with fail
    refine (H1.out.num x.serial XK.out.serial (by omega)).mono ?_
    rintro r w_2 ⟨rfl, h⟩
    have H2 := Lib.hid h
    clear h H1 d1
    have d2 := (BX.out _ H2.out.ch).at_ 2 _ rfl
    go_wp2_with fail
    refine (H2.out.num x.face XK.out.face (by omega)).mono ?_
    rintro r w_3 ⟨rfl, h⟩
    have H3 := Lib.hid h
    clear h H2 d2
    have d3 := (BX.out _ H3.out.ch).at_ 3 _ rfl
    as_aux_lemma =>
    go_wp2_with fail
    refine (H3.out.num x.wins XK.out.wins (by omega)).mono ?_
    rintro r w_4 ⟨rfl, h⟩
    have H4 := Lib.hid h
    clear h H3 d3
    have d4 := (BX.out _ H4.out.ch).at_ 4 _ rfl
    go_wp2_with fail
    refine (H4.out.num x.many XK.out.many (by omega)).mono ?_
    rintro r w_5 ⟨rfl, h⟩
    have H5 := Lib.hid h
    clear h H4 d4
    have d5 := (BX.out _ H5.out.ch).at_ 5 _ rfl
    go_wp2_with fail
    refine (H5.out.hash x.commit X.out.1.2.1 (by omega)).mono ?_
    rintro r w_6 ⟨rfl, h⟩
    have H6 := Lib.hid h
    clear h H5 d5
    have d6 := (BX.out _ H6.out.ch).at_ 6 _ rfl
    as_aux_lemma =>
    go_wp2_with fail
    refine (H6.out.num x.client XK.out.client (by omega)).mono ?_
    rintro r w_7 ⟨rfl, h⟩
    have H7 := Lib.hid h
    clear h H6 d6
    have d7 := (BX.out _ H7.out.ch).at_ 7 _ rfl
    go_wp2_with fail
    refine (H7.out.blob x.sig (by have := X.out.1.2.2; omega) (by omega)).mono ?_
    rintro r w_8 ⟨rfl, h⟩
    have H8 := Lib.hid h
    clear h H7 d7
    have m3 := (BB.out _ (CC.out _ H8.out.ch)).at_ 3 _ rfl
    have c8 := HR.out _ (QB.out _ (CC.out _ H8.out.ch)) 8 _ rfl
    as_aux_lemma =>
    go_wp2_with fail
    refine (H8.out.blob x.salt (by have := X.out.2; omega) (by omega)).mono ?_
    rintro r w_9 ⟨rfl, h⟩
    have H9 := Lib.hid h
    clear h H8 m3 c8
    have m3 := (BB.out _ (CC.out _ H9.out.ch)).at_ 3 _ rfl
    have c9 := HR.out _ (QB.out _ (CC.out _ H9.out.ch)) 9 _ rfl
    go_wp2_with fail
    refine (H9.out.num x.drawn XK.out.drawn (by omega)).mono ?_
    rintro r w_10 ⟨rfl, h⟩
    have H10 := Lib.hid h
    clear h H9 m3 c9
    as_aux_lemma =>
    go_wp2_with fail
    have H := Lib.hid (HS.out _ _ _ H10.out)
    go_roundw
    case rel => exact ⟨k + 1, by omega, by go_num, Lib.hid (H.out.to (by rw [HN.out]; show _ = _ ++ (catN _ k ++ wnB (p.w k)); simp only [ByteArray.append_assoc]) (by omega))⟩
    case measure => simp [intOf]; omega
  · obtain rfl : k = p.n := by omega
    have k1 : ¬ (p.n : Int) < (p.n : Int) := by omega
    have td : decide (p.n < p.n) = false := by simp
    go_wp2_with fail
    refine (H.out.text).mono ?_
    rintro r w8 ⟨rfl, rfl⟩
    have Q8 := Lib.hid (QB.out _ H.out.ch)
    go_wp2_with fail
    go_ret
    exact Enc.yes Z1.out rfl Q8.out
end Go.Proofs.YtobfgljkckcmcaaGreatDoor.Coi
