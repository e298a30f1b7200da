/-
  Layer 13: the statements' fixed calls.
-/
import Derived.Test.YtnojglfaijhiaaaDk9
namespace Go.Proofs.Ytnojglfaijhiaaa.Dk
open Go.RowKit
open Mem Plan
set_option linter.unusedVariables false
set_option linter.unusedSimpArgs false

def ft0 : Nat → ByteArray := fun _ => ⟨#[]⟩
def fs0 : Nat → Nat := fun _ => 0
def ft1 := apT 2 10 ft0 0 ⟨#[97, 98]⟩
def fs1 := syS 2 ft1 fs0 0
def ft2 := apT 2 10 ft1 0 ⟨#[99, 100]⟩
def ft3 := apT 2 10 ft2 2 ⟨#[120]⟩
def ft4 := apT 2 10 ft3 1 ⟨#[49, 50, 51, 52, 53, 54, 55]⟩
def ft5 := swT 2 ft4 fs1 0 1
def fs5 := swS 2 ft4 fs1 0 1
def fk : Nat → Int := fun _ => 1
def ft6 := crT 1 fk ft5 fs5 2
def fs6 := crS 1 fk ft5 fs5 2
def ft7 := swT 2 ft6 fs6 0 1
def fs7 := swS 2 ft6 fs6 0 1
def ft8 := cuT 2 ft7 1 2
def fs8 := cuS 2 ft7 fs7 1 2
def ft9 := cuT 2 ft8 1 3
def fs9 := cuS 2 ft8 fs8 1 3
def fs10 := syS 2 ft9 fs9 5
theorem fe1 : apE 2 10 ft0 0 ⟨#[97, 98]⟩ = 0 := by kernel_rfl
theorem fe1b : syE 2 0 = 0 := by kernel_rfl
theorem fe2 : apE 2 10 ft1 0 ⟨#[99, 100]⟩ = 0 := by kernel_rfl
theorem fe3 : apE 2 10 ft2 2 ⟨#[120]⟩ = 1 := by kernel_rfl
theorem fe4 : apE 2 10 ft3 1 ⟨#[49, 50, 51, 52, 53, 54, 55]⟩ = 9 := by kernel_rfl
theorem fe5 : swE 2 ft4 fs1 0 1 = 8 := by kernel_rfl
theorem fe6a : rdV 2 ft6 0 = ⟨#[97, 98, 99]⟩ := by kernel_rfl
theorem fe6b : suV 2 fs6 0 = 3 := by kernel_rfl
theorem fe6c : frV 2 10 ft6 = 7 := by kernel_rfl
theorem fe7 : swE 2 ft6 fs6 0 1 = 0 := by kernel_rfl
theorem fe8 : cuE 2 ft7 1 2 = 0 := by kernel_rfl
theorem fe9 : cuE 2 ft8 1 3 = 1 := by kernel_rfl
theorem fe10 : syE 2 5 = 1 := by kernel_rfl
theorem fe11 : rdV 2 ft9 1 = ⟨#[97, 98]⟩ := by kernel_rfl
theorem fe12 : rdV 2 ft9 0 = ⟨#[]⟩ := by kernel_rfl
theorem fe13 : rdV 2 ft9 9 = ⟨#[]⟩ := by kernel_rfl
theorem fe14 : suV 2 fs10 (-1) = 0 := by kernel_rfl
set_option maxHeartbeats 8000000 in
set_option maxRecDepth 100000 in
theorem fixed_x (w : World) : Calls Try.prog 19 #[] w fun r w' => r = .returned (.bool true) ∧ Q w w' := by
  have Q0 := Lib.hid (Q.refl w)
  go_enter Try.func19, Try.ntmps19
  go_wp2_with fail
  refine (new_ok (n := 2) (room := 10) (by decide) (by decide) (by decide) _).mono ?_
  rintro r w1 ⟨g, b, rfl, d1, q1⟩
  have D : Hid (DK w1 w.heap.size w1.heap.size g b 2 ft0 fs0 10) := d1
  have Q1 := Lib.hid q1
  clear d1 q1 Q0
  go_wp2_with fail
  refine (new_bad (f := 0) (r := 10) (by omega) _).mono ?_
  rintro r w2 ⟨rfl, q2⟩
  have D2 := Lib.hid (D.out.q q2)
  have Q2 := Lib.hid (Q1.out.trans q2)
  clear q2 D Q1
  go_wp2_with fail
  refine (new_bad (f := 1) (r := 16777217) (by omega) _).mono ?_
  rintro r w3 ⟨rfl, q3⟩
  have D3 := Lib.hid (D2.out.q q3)
  have Q3 := Lib.hid (Q2.out.trans q3)
  clear q3 D2 Q2
  go_wp2_with fail
  refine (append_x D3.out (0) ⟨#[97, 98]⟩).mono ?_
  rintro r w4 ⟨rfl, d, c⟩
  rw [fe1]
  have D4 : Hid (DK w4 w.heap.size w4.heap.size g b 2 ft1 fs0 10) := d
  have Q4 := Lib.hid (c.q Q3.out (fun j hj => hj.elim (fun e => by rw [e]; exact D3.out.b_lt.1) (fun e => e.1)))
  clear d c D3 Q3
  go_wp2_with fail
  refine (sync_x D4.out (0)).mono ?_
  rintro r w5 ⟨rfl, d, c⟩
  rw [fe1b]
  have D5 : Hid (DK w5 w.heap.size _ g b 2 ft1 fs1 10) := d
  have Q5 := Lib.hid (c.q Q4.out D4.out.b_lt.1)
  clear d c D4 Q4
  go_wp2_with fail
  refine (append_x D5.out (0) ⟨#[99, 100]⟩).mono ?_
  rintro r w6 ⟨rfl, d, c⟩
  rw [fe2]
  have D6 : Hid (DK w6 w.heap.size w6.heap.size g b 2 ft2 fs1 10) := d
  have Q6 := Lib.hid (c.q Q5.out (fun j hj => hj.elim (fun e => by rw [e]; exact D5.out.b_lt.1) (fun e => e.1)))
  clear d c D5 Q5
  go_wp2_with fail
  refine (append_x D6.out (2) ⟨#[120]⟩).mono ?_
  rintro r w7 ⟨rfl, d, c⟩
  rw [fe3]
  have D7 : Hid (DK w7 w.heap.size w7.heap.size g b 2 ft3 fs1 10) := d
  have Q7 := Lib.hid (c.q Q6.out (fun j hj => hj.elim (fun e => by rw [e]; exact D6.out.b_lt.1) (fun e => e.1)))
  clear d c D6 Q6
  go_wp2_with fail
  refine (append_x D7.out (1) ⟨#[49, 50, 51, 52, 53, 54, 55]⟩).mono ?_
  rintro r w8 ⟨rfl, d, c⟩
  rw [fe4]
  have D8 : Hid (DK w8 w.heap.size w8.heap.size g b 2 ft4 fs1 10) := d
  have Q8 := Lib.hid (c.q Q7.out (fun j hj => hj.elim (fun e => by rw [e]; exact D7.out.b_lt.1) (fun e => e.1)))
  clear d c D7 Q7
  go_wp2_with fail
  refine (swap_x D8.out (0) (1)).mono ?_
  rintro r w9 ⟨rfl, d, c⟩
  rw [fe5]
  have D9 : Hid (DK w9 w.heap.size w9.heap.size g b 2 ft5 fs5 10) := d
  have Q9 := Lib.hid (c.q Q8.out D8.out.b_lt.1)
  clear d c D8 Q8
  go_wp2_with fail
  have qk := (Q.refl w9).alloc (.cells #[.int .i64 1] 3)
  have KK : KS (w9.alloc (.cells #[.int .i64 1] 3)) b (some ⟨w9.heap.size, 0, none⟩) 1 fk := .inr ⟨w9.heap.size, 0, rfl, by have := D9.out.b_lt; have := D9.out.sz; omega, fun j hj => by obtain rfl : j = 0 := (by omega); rw [World.cell?_alloc_at _ _ _ _ rfl]; rfl⟩
  refine (crash_x (D9.out.q qk) (some ⟨w9.heap.size, 0, none⟩) 1 1 fk KK).mono ?_
  rintro r w10 ⟨rfl, d, c⟩
  have D10 : Hid (DK w10 w.heap.size w10.heap.size g b 2 ft6 fs6 10) := d
  have Q10 := Lib.hid (c.q (Q9.out.trans qk) D9.out.b_lt.1)
  clear d c D9 Q9 KK qk
  go_wp2_with fail
  refine (read_x D10.out (0)).mono ?_
  rintro r w0 ⟨rfl, rfl⟩
  rw [fe6a]
  go_wp2_with fail
  refine (sure_x D10.out (0)).mono ?_
  rintro r w0 ⟨rfl, rfl⟩
  rw [fe6b]
  go_wp2_with fail
  refine (free_x D10.out).mono ?_
  rintro r w11 ⟨rfl, q⟩
  have D11 := Lib.hid (D10.out.q q)
  have Q11 := Lib.hid (Q10.out.trans q)
  clear q D10 Q10
  rw [fe6c]
  go_wp2_with fail
  refine (swap_x D11.out (0) (1)).mono ?_
  rintro r w12 ⟨rfl, d, c⟩
  rw [fe7]
  have D12 : Hid (DK w12 w.heap.size w12.heap.size g b 2 ft7 fs7 10) := d
  have Q12 := Lib.hid (c.q Q11.out D11.out.b_lt.1)
  clear d c D11 Q11
  go_wp2_with fail
  refine (cut_x D12.out (1) (2)).mono ?_
  rintro r w13 ⟨rfl, d, c⟩
  rw [fe8]
  have D13 : Hid (DK w13 w.heap.size w13.heap.size g b 2 ft8 fs8 10) := d
  have Q13 := Lib.hid (c.q Q12.out D12.out.b_lt.1)
  clear d c D12 Q12
  go_wp2_with fail
  refine (cut_x D13.out (1) (3)).mono ?_
  rintro r w14 ⟨rfl, d, c⟩
  rw [fe9]
  have D14 : Hid (DK w14 w.heap.size w14.heap.size g b 2 ft9 fs9 10) := d
  have Q14 := Lib.hid (c.q Q13.out D13.out.b_lt.1)
  clear d c D13 Q13
  go_wp2_with fail
  refine (sync_x D14.out (5)).mono ?_
  rintro r w15 ⟨rfl, d, c⟩
  rw [fe10]
  have D15 : Hid (DK w15 w.heap.size _ g b 2 ft9 fs10 10) := d
  have Q15 := Lib.hid (c.q Q14.out D14.out.b_lt.1)
  clear d c D14 Q14
  go_wp2_with fail
  refine (read_x D15.out (1)).mono ?_
  rintro r w0 ⟨rfl, rfl⟩
  rw [fe11]
  go_wp2_with fail
  refine (read_x D15.out (0)).mono ?_
  rintro r w0 ⟨rfl, rfl⟩
  rw [fe12]
  go_wp2_with fail
  refine (read_x D15.out (9)).mono ?_
  rintro r w0 ⟨rfl, rfl⟩
  rw [fe13]
  go_wp2_with fail
  refine (sure_x D15.out (-1)).mono ?_
  rintro r w0 ⟨rfl, rfl⟩
  rw [fe14]
  go_wp2_with fail
  refine bodyPost_ret (results_tmp rfl _ _ _) rfl ?_
  exact ⟨rfl, Q15.out⟩
end Go.Proofs.Ytnojglfaijhiaaa.Dk
