/-
  Layer 13: where a walk stands: the program's disk above the first world.
-/
import Derived.Test.YtnojglfaijhiaaaDkI
import Derived.Test.YtnojglfaijhiaaaDk8
namespace Go.Proofs.Ytnojglfaijhiaaa.Dk
open Go.RowKit
open Mem
set_option linter.unusedVariables false

section
variable {W w w' : World} {B g b n room : Nat} {t t' : Nat → ByteArray} {s s' : Nat → Nat}
structure SX (W : World) (B g b n : Nat) (t : Nat → ByteArray) (s : Nat → Nat) (room : Nat) (w : World) : Prop where
  d : DK w B w.heap.size g b n t s room
  q : Q W w
  l : W.heap.size ≤ B
theorem SX.qq (k : SX W B g b n t s room w) (q : Q w w') : SX W B g b n t s room w' := ⟨(k.d.q q).top q.size (Nat.le_refl _), k.q.trans q, k.l⟩
theorem SX.up {S : Nat → Prop} (k : SX W B g b n t s room w) (d : DK w' B w'.heap.size g b n t' s' room) (c : Fo S w w') (hB : ∀ j, S j → B ≤ j) : SX W B g b n t' s' room w' :=
  ⟨d, c.q k.q fun j hj => Nat.le_trans k.l (hB j hj), k.l⟩
theorem SX.ch (k : SX W B g b n t s room w) {T' : Nat} (d : DK w' B T' g b n t' s' room) (c : Ch b w w') : SX W B g b n t' s' room w' :=
  k.up (S := fun j => j = b) (d.top d.sz (Nat.le_refl _)) (Fo.of_ch c rfl) (fun j hj => by rw [hj]; exact k.d.b_lt.1)
theorem SX.append (k : SX W B g b n t s room w) (f : Int) (x : ByteArray) : Calls Try.prog 10 #[.pointer (some ⟨g, 0, none⟩), .int .i64 f, .string x] w fun r w' =>
    r = .returned (.int .i64 (apE n room t f x)) ∧ SX W B g b n (apT n room t f x) s room w' :=
  (append_x k.d f x).mono fun r w' ⟨e, d, c⟩ => ⟨e, k.up d c (fun j hj => hj.elim (fun e => by rw [e]; exact k.d.b_lt.1) (fun e => e.1))⟩
theorem SX.sync (k : SX W B g b n t s room w) (f : Int) : Calls Try.prog 11 #[.pointer (some ⟨g, 0, none⟩), .int .i64 f] w fun r w' =>
    r = .returned (.int .i64 (syE n f)) ∧ SX W B g b n t (syS n t s f) room w' :=
  (sync_x k.d f).mono fun r w' ⟨e, d, c⟩ => ⟨e, k.ch d c⟩
theorem SX.cut (k : SX W B g b n t s room w) (f m : Int) : Calls Try.prog 20 #[.pointer (some ⟨g, 0, none⟩), .int .i64 f, .int .i64 m] w fun r w' =>
    r = .returned (.int .i64 (cuE n t f m)) ∧ SX W B g b n (cuT n t f m) (cuS n t s f m) room w' :=
  (cut_x k.d f m).mono fun r w' ⟨e, d, c⟩ => ⟨e, k.ch d c⟩
theorem SX.swap (k : SX W B g b n t s room w) (f m : Int) : Calls Try.prog 21 #[.pointer (some ⟨g, 0, none⟩), .int .i64 f, .int .i64 m] w fun r w' =>
    r = .returned (.int .i64 (swE n t s f m)) ∧ SX W B g b n (swT n t s f m) (swS n t s f m) room w' :=
  (swap_x k.d f m).mono fun r w' ⟨e, d, c⟩ => ⟨e, k.ch d c⟩
theorem SX.free (k : SX W B g b n t s room w) : Calls Try.prog 13 #[.pointer (some ⟨g, 0, none⟩)] w fun r w' => r = .returned (.int .i64 (frV n room t)) ∧ SX W B g b n t s room w' :=
  (free_x k.d).mono fun r w' ⟨e, q⟩ => ⟨e, k.qq q⟩
theorem SX.read (k : SX W B g b n t s room w) (f : Int) {x : ByteArray} (hx : rdV n t f = x) : Calls Try.prog 15 #[.pointer (some ⟨g, 0, none⟩), .int .i64 f] w fun r w' => r = .returned (.string x) ∧ w = w' := by
  subst hx; exact read_x k.d f
theorem SX.sure (k : SX W B g b n t s room w) (f : Int) {x : Int} (hx : suV n s f = x) : Calls Try.prog 17 #[.pointer (some ⟨g, 0, none⟩), .int .i64 f] w fun r w' => r = .returned (.int .i64 x) ∧ w = w' := by
  subst hx; exact sure_x k.d f
theorem SX.congr (k : SX W B g b n t s room w) (h : ∀ i, i < n → t i = t' i ∧ s i = s' i) : SX W B g b n t' s' room w := ⟨k.d.congr h, k.q, k.l⟩
/-- A disk below what turned stays. -/
theorem DK.below {S : Nat → Prop} {T : Nat} (k : DK w B T g b n t s room) (c : Fo S w w') (hS : ∀ j, S j → T ≤ j) : DK w' B T g b n t s room := by
  obtain ⟨F, k, e⟩ := k
  exact ⟨F, k.keep c.size fun j hB hj _ => c.block j (Nat.lt_of_lt_of_le hj k.sz) fun hs => absurd (hS j hs) (by omega), e⟩
end
theorem rdV_nat {n i : Nat} (t : Nat → ByteArray) (h : i < n) : rdV n t (i : Int) = t i := by unfold rdV; rw [inn_nat, decide_eq_true h]; rfl
theorem suV_nat {n i : Nat} (s : Nat → Nat) (h : i < n) : suV n s (i : Int) = s i := by unfold suV; rw [inn_nat, decide_eq_true h]; rfl
theorem inn_lt {n i : Nat} (h : i < n) : inn n (i : Int) = true := by rw [inn_nat, decide_eq_true h]
/-! ### Bits -/
theorem i64_and (k : Nat) (m : Int) (hm : (BitVec.ofInt 64 m).toNat = 2 ^ k - 1) (n : Int) : bits .and .i64 n m = IntKind.i64.wrap (((n % ((2 ^ 64 : Nat) : Int)).toNat % 2 ^ k : Nat) : Int) := by
  have key : (BitVec.ofInt 64 n &&& BitVec.ofInt 64 m).toNat = (n % ((2 ^ 64 : Nat) : Int)).toNat % 2 ^ k := by
    rw [BitVec.toNat_and, BitVec.toNat_ofInt, hm, Nat.and_two_pow_sub_one_eq_mod]
  show IntKind.i64.wrap ((BitVec.ofInt 64 n &&& BitVec.ofInt 64 m).toNat : Nat) = _
  rw [key]
theorem and1 (n : Int) : ∃ i : Nat, i < 2 ∧ bits .and .i64 n 1 = (i : Int) := ⟨(n % ((2 ^ 64 : Nat) : Int)).toNat % 2 ^ 1, by omega, by rw [i64_and 1 1 (by decide), IntKind.wrap_i64]; omega⟩
theorem and3 (n : Int) : ∃ i : Nat, i < 4 ∧ bits .and .i64 n 3 = (i : Int) := ⟨(n % ((2 ^ 64 : Nat) : Int)).toNat % 2 ^ 2, by omega, by rw [i64_and 2 3 (by decide), IntKind.wrap_i64]; omega⟩
theorem and255 (n : Int) : ∃ i : Nat, i < 256 ∧ bits .and .i64 n 255 = (i : Int) := ⟨(n % ((2 ^ 64 : Nat) : Int)).toNat % 2 ^ 8, by omega, by rw [i64_and 8 255 (by decide), IntKind.wrap_i64]; omega⟩
end Go.Proofs.Ytnojglfaijhiaaa.Dk
