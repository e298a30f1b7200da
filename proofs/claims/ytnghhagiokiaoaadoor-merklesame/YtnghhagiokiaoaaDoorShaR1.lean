/-
  The document's answer for layer 2: the walks of its r and words.
-/
import Derived.Test.YtnghhagiokiaoaaDoorMem
import Derived.Test.YtnghhagiokiaoaaDoorShaM
namespace Go.Proofs.YtnghhagiokiaoaaDoor.Sh
open Go.RowKit
open Mem
set_option linter.unusedVariables false

theorem r_any (x n : Int) (w : World) (h0 : 0 ≤ x) (h1 : x ≤ 4294967295) (n0 : 1 ≤ n) (n1 : n ≤ 31) :
    Calls Tryd.prog 100 #[.int .u32 x, .int .i64 n] w fun e w' => e = .returned (.int .u32 (rot x n)) ∧ ∃ m, w' = w.drewN m := by
  obtain ⟨k, rfl⟩ := Int.eq_ofNat_of_zero_le (show 0 ≤ n by omega)
  have e2 : IntKind.i64.wrap (32 - (k : Int)) = 32 - (k : Int) := IntWalk.i64_in _ ⟨by omega, by omega⟩
  have e3 : (0 : Int) ≤ 32 - (k : Int) := by omega
  have HE : Hid (bits BinOp.or IntKind.u32 (x / 2 ^ k) (x * 2 ^ (32 - k) % 4294967296) = rot x k) := by
    unfold rot
    rw [Int.toNat_natCast, show (32 - (k : Int)).toNat = 32 - k by omega, IntKind.wrap_u32']
    rfl
  go_enter Tryd.func100, Tryd.ntmps100
  go_wp2_with fail
  go_quiet (fail)
  rename_i nq
  go_wp2_with fail
  go_ret
  exact ⟨ret1 HE.out, nq, rfl⟩

def z64 : Obj := .cells (Array.replicate 64 (.int .u32 0)) 99
theorem make64 (w : World) : (Instr.makeSlice 100 (.int .i64 64) (.int .i64 64)).run Tryd.prog w = .ok (.slice (some ⟨w.heap.size, 0, none⟩) 64 64) (w.alloc z64) := by kernel_rfl

/-- What holds behind the words that are laid. -/
structure WI (W : World) (b : Nat → Int) (g off gz : Nat) (o : Nat → Int) (wr : World) : Prop where
  rb : Row .u8 wr g off 64 b
  rz : Row .u32 wr gz 0 64 o
  fz : ∀ j, wr.frozen? ⟨gz, j, none⟩ = false
  lt : gz < wr.heap.size
  q : Q W wr

theorem WI.set {W : World} {b : Nat → Int} {g off gz : Nat} {o : Nat → Int} {wr w2 : World} (h : WI W b g off gz o wr) (hne : g ≠ gz) (hz : W.heap.size ≤ gz) (x : Nat) (hx : x < 64) (v : Int) (hw : ∃ n, w2 = wr.drewN n) :
    WI W b g off gz (upd o x v) (w2.setCell ⟨gz, x, none⟩ (.int .u32 v)) := by
  obtain ⟨n, rfl⟩ := hw
  refine ⟨(h.rb.drewN n).other hne _, (h.rz.drewN n).set x hx v, fun j => ?_, ?_, (h.q.drewN n).setCell hz _⟩
  · have := h.fz j
    simpa using this
  · have := h.lt
    simpa using this

set_option maxHeartbeats 4000000 in
set_option maxRecDepth 100000 in
theorem words_any {W : World} (g off cap : Nat) (b : Nat → Int) (w : World) (q : Q W w) (hb : Row .u8 w g off 64 b) (hB : Byts b) (hg : g < w.heap.size) :
    Calls Tryd.prog 99 #[.slice (some ⟨g, off, none⟩) 64 cap] w (OwnRow .u32 W (wrow b 48) 64) := by
  have hmk := make64
  have I0 : Hid (WI W b g off w.heap.size (w16 b 0) (w.alloc z64)) := ⟨hb.q (Q.alloc (Q.refl _) _) hg, Row.made .u32 w 64 0 _, made_frozen w _ _, by simp, q.alloc _⟩
  have HB := Lib.hid hB
  have hz := q.size
  have hne : g ≠ w.heap.size := by omega
  clear hb hB q
  go_enter Tryd.func99, Tryd.ntmps99
  go_wp2_with fail
  clear hmk
  generalize w.heap.size = gz at *
  go_loopw [4] (fun i wr => ∃ k : Nat, k ≤ 16 ∧ i = .int .i64 k ∧ Hid (WI W b g off gz (w16 b k) wr)) (fun i _ => 16 - (intOf i).toNat)
  case atStart => exact ⟨0, by omega, rfl, I0⟩
  case round =>
    obtain ⟨k, hk, rfl, I⟩ := hrel
    clear I0
    by_cases hlt : k < 16
    · have k0 : (0 : Int) ≤ (k : Int) := by omega
      have k1 : (k : Int) < 16 := by omega
      have tk : decide ((k : Int) < 16) = true := by simp; omega
      have c0 := I.out.rb (4 * k) (by omega)
      have c1 := I.out.rb (4 * k + 1) (by omega)
      have c2 := I.out.rb (4 * k + 2) (by omega)
      have c3 := I.out.rb (4 * k + 3) (by omega)
      have f0 := I.out.fz k
      have cz : wr.cell? ⟨gz, k, none⟩ = some (.int .u32 (w16 b k k)) := I.out.rz.at0 k (by omega)
      obtain ⟨p0, q0⟩ := HB.out (4 * k)
      obtain ⟨p1, q1⟩ := HB.out (4 * k + 1)
      obtain ⟨p2, q2⟩ := HB.out (4 * k + 2)
      obtain ⟨p3, q3⟩ := HB.out (4 * k + 3)
      have J := Lib.hid fun w2 h => I.out.set (w2 := w2) hne hz k (by omega) (wd b k) h
      have HW : Hid (wd b k = b (4 * k) * 16777216 + b (4 * k + 1) * 65536 + b (4 * k + 2) * 256 + b (4 * k + 3)) := rfl
      generalize b (4 * k) = b0 at *
      generalize b (4 * k + 1) = b1 at *
      generalize b (4 * k + 2) = b2 at *
      generalize b (4 * k + 3) = b3 at *
      clear I
      go_wp2_with fail
      go_region
      go_wp2_with fail
      have J' := J.out wr.drew ⟨1, rfl⟩
      rw [w16_succ, HW.out] at J'
      exact ⟨⟨k + 1, by omega, by go_num, J'⟩, by simp [intOf]; omega⟩
    · obtain rfl : k = 16 := by omega
      have I1 : Hid (WI W b g off gz (wrow b 0) wr) := I
      have e16 : ((16 : Nat) : Int) = 16 := rfl
      rw [e16]
      clear I e16
      go_wp2_with fail
      go_loopw [5] (fun i wr => ∃ k : Nat, k ≤ 48 ∧ i = .int .i64 (16 + (k : Int)) ∧ Hid (WI W b g off gz (wrow b k) wr)) (fun i _ => 64 - (intOf i).toNat)
      case atStart => exact ⟨0, by omega, rfl, I1⟩
      case round =>
        obtain ⟨k, hk, rfl, I⟩ := hrel
        clear I1
        by_cases hlt : k < 48
        · have tk : decide (16 + (k : Int) < 64) = true := by simp; omega
          have k0 : (0 : Int) ≤ (k : Int) := by omega
          have k1 : (k : Int) < 48 := by omega
          have c15 : wr.cell? ⟨gz, 16 + k - 15, none⟩ = some (.int .u32 (wrow b k (1 + k))) := by rw [show 16 + k - 15 = 1 + k by omega]; exact I.out.rz.at0 (1 + k) (by omega)
          have c2 : wr.cell? ⟨gz, 16 + k - 2, none⟩ = some (.int .u32 (wrow b k (14 + k))) := by rw [show 16 + k - 2 = 14 + k by omega]; exact I.out.rz.at0 (14 + k) (by omega)
          have c7 : wr.cell? ⟨gz, 16 + k - 7, none⟩ = some (.int .u32 (wrow b k (9 + k))) := by rw [show 16 + k - 7 = 9 + k by omega]; exact I.out.rz.at0 (9 + k) (by omega)
          have c16 : wr.cell? ⟨gz, 16 + k - 16, none⟩ = some (.int .u32 (wrow b k (k))) := by rw [show 16 + k - 16 = k by omega]; exact I.out.rz.at0 (k) (by omega)
          have c16b := I.out.rz.at0 k (by omega)
          have cz := I.out.rz.at0 (16 + k) (by omega)
          have f0 := I.out.fz (16 + k)
          obtain ⟨p15, q15⟩ := wrow_wd b HB.out k (1 + k)
          obtain ⟨p2, q2⟩ := wrow_wd b HB.out k (14 + k)
          have J : Hid (∀ w2, (∃ n, w2 = wr.drewN n) → WI W b g off gz (wrow b (k + 1)) (w2.setCell ⟨gz, 16 + k, none⟩ (.int .u32 (ad (ad (ad (s1 (wrow b k (14 + k))) (wrow b k (9 + k))) (s0 (wrow b k (1 + k)))) (wrow b k k))))) := fun w2 h => I.out.set (w2 := w2) hne hz (16 + k) (by omega) _ h
          generalize wrow b k (1 + k) = x at *
          generalize wrow b k (14 + k) = y at *
          generalize wrow b k (9 + k) = y7 at *
          generalize wrow b k k = y16 at *
          have rs0 : bits BinOp.xor IntKind.u32 (bits BinOp.xor IntKind.u32 (rot x 7) (rot x 18)) (x / 8) = s0 x := rfl
          have rs1 : bits BinOp.xor IntKind.u32 (bits BinOp.xor IntKind.u32 (rot y 17) (rot y 19)) (y / 1024) = s1 y := rfl
          generalize s0 x = z0 at *
          generalize s1 y = z1 at *
          clear I
          go_wp2_with (go_at_call 100; refine (r_any _ _ _ (by assumption) (by assumption) (by omega) (by omega)).mono ?_; rintro e w' ⟨rfl, nr, rfl⟩)
          have HV : Hid (ad (ad (ad z1 y7) z0) y16 = (z1 + y7 + z0 + y16) % 4294967296) := by show _ = _; unfold ad; simp only [IntKind.wrap_u32']; omega
          go_region
          go_wp2_with fail
          have J' := J.out
          rw [HV.out] at J'
          exact ⟨⟨k + 1, by omega, by go_num, J' _ ⟨_, rfl⟩⟩, by simp [intOf]; omega⟩
        · obtain rfl : k = 48 := by omega
          have HI := I
          clear I
          go_wp2_with fail
          go_ret
          exact ⟨gz, 64, rfl, by omega, by decide +kernel, HI.out.rz, HI.out.fz, hz, HI.out.lt, HI.out.q⟩
end Go.Proofs.YtnghhagiokiaoaaDoor.Sh
