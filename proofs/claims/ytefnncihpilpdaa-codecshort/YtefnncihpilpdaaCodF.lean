/-
  Layer 3: the calls with their answers as letters; the statements' own fixed calls.
-/
import Derived.Test.YtefnncihpilpdaaCodY
import Derived.Test.YtefnncihpilpdaaCodXb
namespace Go.Proofs.Ytefnncihpilpdaa.Cod
open Go.RowKit
open Mem Num
set_option linter.unusedVariables false

theorem byte_x {g K : Nat} {T : ByteArray} {e : Int} {w : World} (h : WR w g K T e) (n : Int) (hs : T.size ≤ 100000000) {T' : ByteArray} {e' : Int} (hT : wrT T e (strOfNums [n]) (wyE n) = T') (hE : failE e (wyE n) = e') :
    Calls Try.prog 38 #[.pointer (some ⟨g, 0, none⟩), .int .i64 n] w fun r w' => r = .returned (.tuple #[]) ∧ WR w' g K T' e' ∧ Ch g w w' := by
  subst hT hE; exact byte_w g K T e n w h hs
theorem num_x {g K : Nat} {T : ByteArray} {e : Int} {w : World} (h : WR w g K T e) (n : Int) (hs : T.size ≤ 100000000) (n0 : 0 ≤ n) (n1 : n ≤ 18446744073709551615) {T' : ByteArray} (hT : wrT T e (putS n) 0 = T') :
    Calls Try.prog 36 #[.pointer (some ⟨g, 0, none⟩), .int .u64 n] w fun r w' => r = .returned (.tuple #[]) ∧ WR w' g K T' e ∧ Ch g w w' := by
  subst hT
  exact (num_w g K T e n w h hs n0 n1).mono fun r w' ⟨a, b, c⟩ => ⟨a, by rw [failE_0] at b; exact b, c⟩
theorem blob_x {g K : Nat} {T : ByteArray} {e : Int} {w : World} (h : WR w g K T e) (s : ByteArray) (hs : T.size ≤ 100000000) {T' : ByteArray} {e' : Int} (hT : wrT T e (blobS s) (wbE s) = T') (hE : failE e (wbE s) = e') :
    Calls Try.prog 37 #[.pointer (some ⟨g, 0, none⟩), .string s] w fun r w' => r = .returned (.tuple #[]) ∧ WR w' g K T' e' ∧ Ch g w w' := by
  subst hT hE; exact blob_w g K T e s w h hs
theorem hash_x {g K : Nat} {T : ByteArray} {e : Int} {w : World} (h : WR w g K T e) (s : ByteArray) (hs : T.size ≤ 100000000) (hl : s.size ≤ 100000000) {T' : ByteArray} {e' : Int} (hT : wrT T e s (waE s) = T') (hE : failE e (waE s) = e') :
    Calls Try.prog 39 #[.pointer (some ⟨g, 0, none⟩), .string s] w fun r w' => r = .returned (.tuple #[]) ∧ WR w' g K T' e' ∧ Ch g w w' := by
  subst hT hE; exact hash_w g K T e s w h hs hl
theorem rbyte_x {g : Nat} {s : ByteArray} {e : Int} {w : World} (h : RD w g s e) (hs : s.size ≤ 1000000000) {v : Int} {s' : ByteArray} {e' : Int} (hV : rdV e (byE s) (PlainAid.bt s 0) = v) (hS : rdS s e 1 (byE s) = s') (hE : failE e (byE s) = e') :
    Calls Try.prog 21 #[.pointer (some ⟨g, 0, none⟩)] w fun r w' => r = .returned (.int .i64 v) ∧ RD w' g s' e' ∧ Ch g w w' := by
  subst hV hS hE; exact rbyte_any g s e w h hs
theorem rnum_x {g : Nat} {s : ByteArray} {e : Int} {w : World} (h : RD w g s e) (hs : s.size ≤ 1000000000) {v : Int} {s' : ByteArray} {e' : Int} (hV : rdV e (getE s) (getV s) = v) (hS : rdS s e 8 (getE s) = s') (hE : failE e (getE s) = e') :
    Calls Try.prog 23 #[.pointer (some ⟨g, 0, none⟩)] w fun r w' => r = .returned (.int .u64 v) ∧ RD w' g s' e' ∧ Ch g w w' := by
  subst hV hS hE; exact rnum_any g s e w h hs
theorem rhash_x {g : Nat} {s : ByteArray} {e : Int} {w : World} (h : RD w g s e) (hs : s.size ≤ 1000000000) {v : ByteArray} {s' : ByteArray} {e' : Int} (hV : rdT e (haE s) (s.extract 0 16) = v) (hS : rdS s e 16 (haE s) = s') (hE : failE e (haE s) = e') :
    Calls Try.prog 27 #[.pointer (some ⟨g, 0, none⟩)] w fun r w' => r = .returned (.string v) ∧ RD w' g s' e' ∧ Ch g w w' := by
  subst hV hS hE; exact rhash_any g s e w h hs
theorem rblob_x {g : Nat} {s : ByteArray} {e : Int} {w : World} (m : Int) (h : RD w g s e) (hs : s.size ≤ 1000000000) {v : ByteArray} {s' : ByteArray} {e' : Int} (hV : rdT e (blE s m) (s.extract 2 (2 + blL s)) = v) (hS : rdS s e (2 + blL s) (blE s m) = s') (hE : failE e (blE s m) = e') :
    Calls Try.prog 25 #[.pointer (some ⟨g, 0, none⟩), .int .i64 m] w fun r w' => r = .returned (.string v) ∧ RD w' g s' e' ∧ Ch g w w' := by
  subst hV hS hE; exact rblob_any g s e m w h hs
theorem end_x {g : Nat} {s : ByteArray} {e : Int} {w : World} (h : RD w g s e) {v : Int} (hv : endE s e = v) : Calls Try.prog 33 #[.pointer (some ⟨g, 0, none⟩)] w fun r w' => r = .returned (.int .i64 v) ∧ w = w' := by
  subst hv; exact end_any g s e w h
theorem left_x {g : Nat} {s : ByteArray} {e : Int} {w : World} (h : RD w g s e) {v : Int} (hv : (s.size : Int) = v) : Calls Try.prog 31 #[.pointer (some ⟨g, 0, none⟩)] w fun r w' => r = .returned (.int .i64 v) ∧ w = w' := by
  subst hv; exact left_any g s e w h

/-- A new Writer. -/
theorem WR.new (w : World) (t : TypeId) : WR (w.alloc (.cells #[.pointer none, .int .i64 0, .int .i64 0] t)) w.heap.size w.heap.size ByteArray.empty 0 := by
  have hc : ∀ o, (w.alloc (.cells #[.pointer none, .int .i64 0, .int .i64 0] t)).cell? ⟨w.heap.size, o, none⟩ = #[Value.pointer none, .int .i64 0, .int .i64 0][o]? := fun o => by rw [World.cell?_alloc_at _ _ _ _ rfl]
  exact ⟨⟨none, [], hc 0, rfl, rfl⟩, hc 1, hc 2, made_frozen w _ _, Nat.le_refl _, by simp, fun h => absurd rfl h⟩

def L29 : ByteArray := ⟨#[5, 0, 2, 97, 98, 0, 0, 0, 0, 0, 0, 0, 7, 48, 49, 50, 51, 52, 53, 54, 55, 56, 57, 97, 98, 99, 100, 101, 102]⟩
def L28 : ByteArray := ⟨#[0, 2, 97, 98, 0, 0, 0, 0, 0, 0, 0, 7, 48, 49, 50, 51, 52, 53, 54, 55, 56, 57, 97, 98, 99, 100, 101, 102]⟩
def L24 : ByteArray := ⟨#[0, 0, 0, 0, 0, 0, 0, 7, 48, 49, 50, 51, 52, 53, 54, 55, 56, 57, 97, 98, 99, 100, 101, 102]⟩
def L16 : ByteArray := ⟨#[48, 49, 50, 51, 52, 53, 54, 55, 56, 57, 97, 98, 99, 100, 101, 102]⟩
def ab : ByteArray := ⟨#[97, 98]⟩

set_option maxHeartbeats 2000000 in
set_option maxRecDepth 100000 in
theorem fixed_any {W : World} (w : World) (q : Q W w) : Calls Try.prog 19 #[] w fun e w' => e = .returned (.bool true) ∧ Q W w' := by
  have HQ := Lib.hid q
  clear q
  have HW := Lib.hid (WR.new w)
  go_enter Try.func19, Try.ntmps19
  go_wp2_with fail
  refine (byte_x (HW.out _) 5 (by decide) (T' := ⟨#[5]⟩) (e' := 0) (by decide +kernel) (by decide +kernel)).mono ?_
  rintro r w1 ⟨rfl, h1, k1⟩
  have H1 := Lib.hid h1
  have Q1 : Hid (Q w w1) := k1.q ((Q.refl w).alloc _) (Nat.le_refl _)
  clear h1 k1 HW
  go_wp2_with fail
  refine (blob_x H1.out ab (by decide) (T' := ⟨#[5, 0, 2, 97, 98]⟩) (e' := 0) (by decide +kernel) (by decide +kernel)).mono ?_
  rintro r w2 ⟨rfl, h2, k2⟩
  have H2 := Lib.hid h2
  have Q2 : Hid (Q w w2) := k2.q Q1.out (Nat.le_refl _)
  clear h2 k2 H1 Q1
  go_wp2_with fail
  refine (num_x H2.out 7 (by decide) (by decide) (by decide) (T' := ⟨#[5, 0, 2, 97, 98, 0, 0, 0, 0, 0, 0, 0, 7]⟩) (by decide +kernel)).mono ?_
  rintro r w3 ⟨rfl, h3, k3⟩
  have H3 := Lib.hid h3
  have Q3 : Hid (Q w w3) := k3.q Q2.out (Nat.le_refl _)
  clear h3 k3 H2 Q2
  go_wp2_with fail
  refine (hash_x H3.out L16 (by decide) (by decide) (T' := L29) (e' := 0) (by decide +kernel) (by decide +kernel)).mono ?_
  rintro r w4 ⟨rfl, h4, k4⟩
  have H4 := Lib.hid h4
  have Q4 : Hid (Q w w4) := k4.q Q3.out (Nat.le_refl _)
  clear h4 k4 H3 Q3
  go_wp2_with fail
  refine (text_w _ _ _ _ _ H4.out (by decide)).mono ?_
  rintro r w5 ⟨rfl, q5⟩
  have Q5 := Lib.hid q5
  clear q5
  go_wp2_with fail
  refine (read_any L29 w5).mono ?_
  rintro r w6 ⟨rfl, h6, q6⟩
  have H6 := Lib.hid h6
  have Q6 : Hid (Q w4 w6) := Q5.out.trans q6
  have G6 : Hid (w4.heap.size ≤ w5.heap.size) := Q5.out.size
  clear h6 q6
  generalize w5.heap.size = g at *
  go_wp2_with fail
  refine (rbyte_x H6.out (by decide) (v := 5) (s' := L28) (e' := 0) (by decide +kernel) (by decide +kernel) (by decide +kernel)).mono ?_
  rintro r w7 ⟨rfl, h7, k7⟩
  have H7 := Lib.hid h7
  have Q7 : Hid (Q w4 w7) := k7.q Q6.out G6.out
  clear h7 k7 H6 Q6
  go_wp2_with fail
  refine (rblob_x 2 H7.out (by decide) (v := ab) (s' := L24) (e' := 0) (by decide +kernel) (by decide +kernel) (by decide +kernel)).mono ?_
  rintro r w8 ⟨rfl, h8, k8⟩
  have H8 := Lib.hid h8
  have Q8 : Hid (Q w4 w8) := k8.q Q7.out G6.out
  clear h8 k8 H7 Q7
  go_wp2_with fail
  refine (rnum_x H8.out (by decide) (v := 7) (s' := L16) (e' := 0) (by decide +kernel) (by decide +kernel) (by decide +kernel)).mono ?_
  rintro r w9 ⟨rfl, h9, k9⟩
  have H9 := Lib.hid h9
  have Q9 : Hid (Q w4 w9) := k9.q Q8.out G6.out
  clear h9 k9 H8 Q8
  go_wp2_with fail
  refine (rhash_x H9.out (by decide) (v := L16) (s' := ByteArray.empty) (e' := 0) (by decide +kernel) (by decide +kernel) (by decide +kernel)).mono ?_
  rintro r w10 ⟨rfl, h10, k10⟩
  have H10 := Lib.hid h10
  have Q10 : Hid (Q w4 w10) := k10.q Q9.out G6.out
  clear h10 k10 H9 Q9
  go_wp2_with fail
  refine (end_x H10.out (v := 0) (by decide +kernel)).mono ?_
  rintro r w' ⟨rfl, rfl⟩
  go_wp2_with fail
  clear H10 G6
  refine (read_any L29 w10).mono ?_
  rintro r w11 ⟨rfl, h11, q11⟩
  have H11 := Lib.hid h11
  have Q11 : Hid (Q w4 w11) := Q10.out.trans q11
  have G11 : Hid (w4.heap.size ≤ w10.heap.size) := Q10.out.size
  clear h11 q11
  generalize w10.heap.size = g' at *
  go_wp2_with fail
  refine (rbyte_x H11.out (by decide) (v := 5) (s' := L28) (e' := 0) (by decide +kernel) (by decide +kernel) (by decide +kernel)).mono ?_
  rintro r w12 ⟨rfl, h12, k12⟩
  have H12 := Lib.hid h12
  have Q12 : Hid (Q w4 w12) := k12.q Q11.out G11.out
  clear h12 k12 H11 Q11
  go_wp2_with fail
  refine (rblob_x 1 H12.out (by decide) (v := ByteArray.empty) (s' := L28) (e' := 5) (by decide +kernel) (by decide +kernel) (by decide +kernel)).mono ?_
  rintro r w13 ⟨rfl, h13, k13⟩
  have H13 := Lib.hid h13
  have Q13 : Hid (Q w4 w13) := k13.q Q12.out G11.out
  clear h13 k13 H12 Q12
  go_wp2_with fail
  refine (end_x H13.out (v := 5) (by decide +kernel)).mono ?_
  rintro r w' ⟨rfl, rfl⟩
  go_wp2_with fail
  refine (left_x H13.out (v := 28) (by decide +kernel)).mono ?_
  rintro r w' ⟨rfl, rfl⟩
  clear H13 G11
  have HB := Lib.hid (WR.new w13)
  go_wp2_with fail
  refine (byte_x (HB.out _) 256 (by decide) (T' := ByteArray.empty) (e' := 1) (by decide +kernel) (by decide +kernel)).mono ?_
  rintro r w14 ⟨rfl, h14, k14⟩
  have H14 := Lib.hid h14
  have Q14 : Hid (Q w13 w14) := k14.q ((Q.refl w13).alloc _) (Nat.le_refl _)
  clear h14 k14 HB
  go_wp2_with fail
  refine (hash_x H14.out ⟨#[]⟩ (by decide) (by decide) (T' := ByteArray.empty) (e' := 1) (by decide +kernel) (by decide +kernel)).mono ?_
  rintro r w15 ⟨rfl, h15, k15⟩
  have H15 := Lib.hid h15
  have Q15 : Hid (Q w13 w15) := k15.q Q14.out (Nat.le_refl _)
  clear h15 k15 H14 Q14
  go_wp2_with fail
  refine (read_any ab w15).mono ?_
  rintro r w16 ⟨rfl, h16, q16⟩
  have H16 := Lib.hid h16
  have Q16 := Lib.hid q16
  clear h16 q16
  go_wp2_with fail
  refine (rbyte_x H16.out (by decide) (v := 97) (s' := ⟨#[98]⟩) (e' := 0) (by decide +kernel) (by decide +kernel) (by decide +kernel)).mono ?_
  rintro r w17 ⟨rfl, h17, k17⟩
  have H17 := Lib.hid h17
  have Q17 : Hid (Q w15 w17) := k17.q Q16.out (Nat.le_refl _)
  clear h17 k17 H16 Q16
  have E4 := Lib.hid (H4.out.q ((Q13.out.trans Q15.out).trans Q17.out))
  have E15 := Lib.hid (H15.out.q Q17.out)
  have QE := Lib.hid (((HQ.out.trans Q4.out).trans Q13.out).trans (Q15.out.trans Q17.out))
  have b29 : (L29.toList == [5, 0, 2, 97, 98, 0, 0, 0, 0, 0, 0, 0, 7, 48, 49, 50, 51, 52, 53, 54, 55, 56, 57, 97, 98, 99, 100, 101, 102]) = true := by decide +kernel
  have b16 : (L16.toList == [48, 49, 50, 51, 52, 53, 54, 55, 56, 57, 97, 98, 99, 100, 101, 102]) = true := by decide +kernel
  have bab : (ab.toList == [97, 98]) = true := by decide +kernel
  clear HQ H4 Q4 Q5 Q10 Q13 H15 Q15 Q17
  go_wp2_with fail
  refine (err_w _ _ _ _ _ E4.out).mono ?_
  rintro r w' ⟨rfl, rfl⟩
  go_wp2_with fail
  refine (err_w _ _ _ _ _ E15.out).mono ?_
  rintro r w' ⟨rfl, rfl⟩
  go_wp2_with fail
  refine (text_w _ _ _ _ _ E15.out (by decide)).mono ?_
  rintro r w18 ⟨rfl, q18⟩
  have H18 := Lib.hid (H17.out.q q18)
  have Q18 := Lib.hid (QE.out.trans q18)
  clear q18
  go_wp2_with fail
  refine (end_x H18.out (v := 4) (by decide +kernel)).mono ?_
  rintro r w' ⟨rfl, rfl⟩
  go_wp2_with fail
  refine (left_x H18.out (v := 1) (by decide +kernel)).mono ?_
  rintro r w' ⟨rfl, rfl⟩
  go_wp2_with fail
  go_ret
  exact ⟨rfl, Q18.out⟩
end Go.Proofs.Ytefnncihpilpdaa.Cod
