/-
  The statements' own fixed calls.
-/
import Derived.Test.YtklboeephfpokaaDoorShaP8
import Derived.Test.YtklboeephfpokaaDoorShaP9
namespace Go.Proofs.YtklboeephfpokaaDoor.Sh
open Go.RowKit
open Mem
set_option linter.unusedVariables false

def abc : ByteArray := ⟨#[97, 98, 99]⟩
def L1 : ByteArray := ⟨#[98, 97, 55, 56, 49, 54, 98, 102, 56, 102, 48, 49, 99, 102, 101, 97, 52, 49, 52, 49, 52, 48, 100, 101, 53, 100, 97, 101, 50, 50, 50, 51, 98, 48, 48, 51, 54, 49, 97, 51, 57, 54, 49, 55, 55, 97, 57, 99, 98, 52, 49, 48, 102, 102, 54, 49, 102, 50, 48, 48, 49, 53, 97, 100]⟩
def L0 : ByteArray := ⟨#[101, 51, 98, 48, 99, 52, 52, 50, 57, 56, 102, 99, 49, 99, 49, 52, 57, 97, 102, 98, 102, 52, 99, 56, 57, 57, 54, 102, 98, 57, 50, 52, 50, 55, 97, 101, 52, 49, 101, 52, 54, 52, 57, 98, 57, 51, 52, 99, 97, 52, 57, 53, 57, 57, 49, 98, 55, 56, 53, 50, 98, 56, 53, 53]⟩
theorem fx1 : hexS (shaS abc) = L1 := by decide +kernel
theorem fx0 : hexS (shaS ⟨#[]⟩) = L0 := by decide +kernel
theorem fxt : tg ⟨#[120]⟩ (fun _ => ⟨#[97, 98]⟩) 1 = ⟨#[1, 120, 0, 2, 97, 98]⟩ := by decide +kernel
theorem HR.q {w w' : World} {g : Nat} {s : ByteArray} (h : HR w g s) (q : Q w w') : HR w' g s := HC.q h q
theorem shortS_size (s : ByteArray) : (shortS s).size = 16 := by unfold shortS; rw [ByteArray.size_extract, shaS_size]; rfl

set_option maxHeartbeats 1000000 in
set_option maxRecDepth 100000 in
theorem fixed_any {W : World} (w : World) (q : Q W w) (hG : GL W) : Calls Tryd.prog 16 #[] w fun e w' => e = .returned (.bool true) ∧ Q W w' := by
  have HGL := Lib.hid (hG.q q)
  have h1w := (hG.q q).lt
  clear hG
  go_enter Tryd.func16, Tryd.ntmps16
  go_wp2_with fail
  refine (TI.new w HGL.out).mono ?_
  rintro e w1 ⟨gh, rfl, hi1⟩
  have H1 := Lib.hid hi1
  clear hi1
  go_wp2_with fail
  refine (H1.out.write h1w ⟨#[97]⟩ (by decide)).mono ?_
  rintro e w2 ⟨rfl, hi2⟩
  have H2 := Lib.hid hi2
  clear hi2 H1
  go_wp2_with fail
  refine (H2.out.write h1w ⟨#[98, 99]⟩ (by decide)).mono ?_
  rintro e w3 ⟨rfl, hi3⟩
  have H3 : Hid (TI w gh abc w3) := hi3
  clear hi3 H2 HGL h1w
  have SM : Hid (∀ s x, s.size ≤ 10 → shaS s = x → ∀ w', Q w3 w' → Calls Tryd.prog 10 #[.string s] w' fun e w'' => e = .returned (.string x) ∧ Q w3 w'') := fun s x hs hx w' q' => by subst hx; exact sum_any s w' q' H3.out.gl (by omega)
  have HX : Hid (∀ s x, s.size ≤ 100 → hexS s = x → ∀ w', Q w3 w' → Calls Tryd.prog 14 #[.string s] w' fun e w'' => e = .returned (.string x) ∧ Q w3 w'') := fun s x hs hx w' q' => by subst hx; exact hex_any s w' q' (by omega)
  have SH : Hid (∀ s x, s.size ≤ 10 → shortS s = x → ∀ w', Q w3 w' → Calls Tryd.prog 12 #[.string s] w' fun e w'' => e = .returned (.string x) ∧ Q w3 w'') := fun s x hs hx w' q' => by subst hx; exact short_any s w' q' H3.out.gl (by omega)
  have HS : Hid (∀ x, shaS abc = x → ∀ w', Q w3 w' → Calls Tryd.prog 21 #[.pointer (some ⟨gh, 0, none⟩)] w' fun e w'' => e = .returned (.string x) ∧ Q w3 w'') := fun x hx w' q' => by
    subst hx
    exact (hsum_any gh abc w' (HR.q H3.out.hr q') (H3.out.gl.q q') (by decide)).mono fun e w'' ⟨he, h2⟩ => ⟨he, q'.trans h2⟩
  have HL : Hid (∀ w', Q w3 w' → Calls Tryd.prog 22 #[.pointer (some ⟨gh, 0, none⟩)] w' fun e w'' => e = .returned (.int .i64 3) ∧ w'' = w') := fun w' q' => len_any (W := w) gh abc w' (HR.q H3.out.hr q')
  have TG : Hid (∀ x, tagS ⟨#[120]⟩ (fun _ => ⟨#[97, 98]⟩) 1 = x → ∀ w' t, Q w3 w' → Calls Tryd.prog 17 #[.string ⟨#[120]⟩, .slice (some ⟨w'.heap.size, 0, none⟩) 1 1] (w'.alloc (.cells #[.string ⟨#[97, 98]⟩] t)) fun e w'' => e = .returned (.string x) ∧ Q w3 w'') := fun x hx w' t q' => by
    subst hx
    refine tag_any ⟨#[120]⟩ w'.heap.size 0 1 1 (fun _ => ⟨#[97, 98]⟩) _ (q'.alloc _) H3.out.gl (fun i hi => ?_) (fun _ => by simp) (by decide) (by omega) (fun i => by decide)
    rw [World.cell?_alloc_at _ _ _ _ rfl, Nat.zero_add]
    obtain rfl : i = 0 := by omega
    rfl
  have HQ := Lib.hid (q.trans H3.out.q)
  obtain ⟨x1, hx1⟩ : ∃ x, shaS abc = x := ⟨_, rfl⟩
  obtain ⟨x0, hx0⟩ : ∃ x, shaS ⟨#[]⟩ = x := ⟨_, rfl⟩
  obtain ⟨y1, hy1⟩ : ∃ x, shortS abc = x := ⟨_, rfl⟩
  obtain ⟨z1, hz1⟩ : ∃ x, shortS ⟨#[1, 120, 0, 2, 97, 98]⟩ = x := ⟨_, rfl⟩
  have e1 := Lib.hid (show hexS x1 = L1 from hx1 ▸ fx1)
  have e0 := Lib.hid (show hexS x0 = L0 from hx0 ▸ fx0)
  have et : Hid (tagS ⟨#[120]⟩ (fun _ => ⟨#[97, 98]⟩) 1 = z1) := by show shortS _ = _; rw [fxt, hz1]
  have s1 : Hid (x1.size ≤ 100) := by rw [← hx1]; show (shaS abc).size ≤ 100; rw [shaS_size]; omega
  have s0 : Hid (x0.size ≤ 100) := by rw [← hx0]; show (shaS ⟨#[]⟩).size ≤ 100; rw [shaS_size]; omega
  have sy : y1.size = 16 := by rw [← hy1]; exact shortS_size abc
  have hx1 := Lib.hid hx1
  have hx0 := Lib.hid hx0
  have hy1 := Lib.hid hy1
  have hz1 := Lib.hid hz1
  clear q H3
  go_wp2_with fail
  refine (SM.out abc x1 (by decide) hx1.out w3 (Q.refl _)).mono ?_
  rintro e w4 ⟨rfl, q4⟩
  go_wp2_with fail
  refine (HX.out x1 L1 s1.out e1.out w4 q4).mono ?_
  rintro e w5 ⟨rfl, q5⟩
  have bL1 : (L1.toList == [98, 97, 55, 56, 49, 54, 98, 102, 56, 102, 48, 49, 99, 102, 101, 97, 52, 49, 52, 49, 52, 48, 100, 101, 53, 100, 97, 101, 50, 50, 50, 51, 98, 48, 48, 51, 54, 49, 97, 51, 57, 54, 49, 55, 55, 97, 57, 99, 98, 52, 49, 48, 102, 102, 54, 49, 102, 50, 48, 48, 49, 53, 97, 100]) = true := by decide +kernel
  have bL0 : (L0.toList == [101, 51, 98, 48, 99, 52, 52, 50, 57, 56, 102, 99, 49, 99, 49, 52, 57, 97, 102, 98, 102, 52, 99, 56, 57, 57, 54, 102, 98, 57, 50, 52, 50, 55, 97, 101, 52, 49, 101, 52, 54, 52, 57, 98, 57, 51, 52, 99, 97, 52, 57, 53, 57, 57, 49, 98, 55, 56, 53, 50, 98, 56, 53, 53]) = true := by decide +kernel
  go_wp2_with fail
  refine (SM.out ⟨#[]⟩ x0 (by decide) hx0.out w5 q5).mono ?_
  rintro e w6 ⟨rfl, q6⟩
  go_wp2_with fail
  refine (HX.out x0 L0 s0.out e0.out w6 q6).mono ?_
  rintro e w7 ⟨rfl, q7⟩
  go_wp2_with fail
  refine (HS.out x1 hx1.out w7 q7).mono ?_
  rintro e w8 ⟨rfl, q8⟩
  go_wp2_with fail
  refine (SM.out abc x1 (by decide) hx1.out w8 q8).mono ?_
  rintro e w9 ⟨rfl, q9⟩
  go_wp2_with fail
  refine (HL.out w9 q9).mono ?_
  rintro e w' ⟨rfl, hw⟩
  obtain rfl := hw.symm
  go_wp2_with fail
  refine (SH.out abc y1 (by decide) hy1.out w9 q9).mono ?_
  rintro e w10 ⟨rfl, q10⟩
  go_wp2_with fail
  refine (TG.out z1 et.out w10 _ q10).mono ?_
  rintro e w11 ⟨rfl, q11⟩
  go_wp2_with fail
  refine (SH.out ⟨#[1, 120, 0, 2, 97, 98]⟩ z1 (by decide) hz1.out w11 q11).mono ?_
  rintro e w12 ⟨rfl, q12⟩
  go_wp2_with fail
  go_ret
  exact ⟨rfl, HQ.out.trans q12⟩
end Go.Proofs.YtklboeephfpokaaDoor.Sh
