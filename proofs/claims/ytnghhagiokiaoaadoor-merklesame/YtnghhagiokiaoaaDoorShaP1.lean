/-
  The program's layer 2: the walks of right and words.
-/
import Derived.Test.YtnghhagiokiaoaaDoorShaR1
import Derived.Test.YtnghhagiokiaoaaDoorArr
namespace Go.Proofs.YtnghhagiokiaoaaDoor.Sh
open Go.RowKit
open Mem
set_option linter.unusedVariables false

theorem or_flip (k : IntKind) (a b : Int) : bits BinOp.or k a b = bits BinOp.or k b a := by
  unfold bits; simp [Nat.or_comm]
theorem or_add (n a b : Nat) (hb : b < 2 ^ n) (hlt : 2 ^ n * a + b < 4294967296) : bits BinOp.or IntKind.u32 ((2 ^ n * a : Nat) : Int) (b : Int) = ((2 ^ n * a + b : Nat) : Int) := by
  have h1 : (BitVec.ofInt 32 ((2 ^ n * a : Nat) : Int)).toNat = 2 ^ n * a := by rw [BitVec.ofInt_natCast, BitVec.toNat_ofNat]; omega
  have h2 : (BitVec.ofInt 32 (b : Int)).toNat = b := by rw [BitVec.ofInt_natCast, BitVec.toNat_ofNat]; omega
  show IntKind.u32.wrap (((BitVec.ofInt 32 ((2 ^ n * a : Nat) : Int) ||| BitVec.ofInt 32 (b : Int)).toNat : Nat) : Int) = _
  rw [BitVec.toNat_or, h1, h2, ← Nat.two_pow_add_eq_or_of_lt hb, IntKind.wrap_u32', Int.emod_eq_of_lt (by omega) (by omega)]
theorem or_word (b0 b1 b2 b3 : Int) (p0 : 0 ≤ b0) (q0 : b0 ≤ 255) (p1 : 0 ≤ b1) (q1 : b1 ≤ 255) (p2 : 0 ≤ b2) (q2 : b2 ≤ 255) (p3 : 0 ≤ b3) (q3 : b3 ≤ 255) :
    bits BinOp.or IntKind.u32 (bits BinOp.or IntKind.u32 (bits BinOp.or IntKind.u32 (b0 * 16777216) (b1 * 65536)) (b2 * 256)) b3 = b0 * 16777216 + b1 * 65536 + b2 * 256 + b3 := by
  obtain ⟨b0, rfl⟩ := Int.eq_ofNat_of_zero_le p0
  obtain ⟨b1, rfl⟩ := Int.eq_ofNat_of_zero_le p1
  obtain ⟨b2, rfl⟩ := Int.eq_ofNat_of_zero_le p2
  obtain ⟨b3, rfl⟩ := Int.eq_ofNat_of_zero_le p3
  have e1 := or_add 24 b0 (b1 * 65536) (by omega) (by omega)
  have e2 := or_add 16 (b0 * 256 + b1) (b2 * 256) (by omega) (by omega)
  have e3 := or_add 8 (b0 * 65536 + b1 * 256 + b2) b3 (by omega) (by omega)
  rw [show (b0 : Int) * 16777216 = ((2 ^ 24 * b0 : Nat) : Int) by omega, show (b1 : Int) * 65536 = ((b1 * 65536 : Nat) : Int) by omega, e1,
    show ((2 ^ 24 * b0 + b1 * 65536 : Nat) : Int) = ((2 ^ 16 * (b0 * 256 + b1) : Nat) : Int) by omega, show (b2 : Int) * 256 = ((b2 * 256 : Nat) : Int) by omega, e2,
    show ((2 ^ 16 * (b0 * 256 + b1) + b2 * 256 : Nat) : Int) = ((2 ^ 8 * (b0 * 65536 + b1 * 256 + b2) : Nat) : Int) by omega, e3]
  omega
theorem right_any (x n : Int) (w : World) (h0 : 0 ≤ x) (h1 : x ≤ 4294967295) (n0 : 1 ≤ n) (n1 : n ≤ 31) :
    Calls Tryd.prog 101 #[.int .u32 x, .int .i64 n] w fun e w' => e = .returned (.int .u32 (rot x n)) ∧ w' = w := by
  obtain ⟨k, rfl⟩ := Int.eq_ofNat_of_zero_le (show 0 ≤ n by omega)
  have ea : bits BinOp.and IntKind.u64 (IntKind.u64.wrap (-(k : Int))) 31 = 32 - (k : Int) := by
    obtain ⟨k0, k1⟩ : 1 ≤ k ∧ k ≤ 31 := ⟨by omega, by omega⟩
    have H : ∀ j : Fin 32, 1 ≤ j.val → bits BinOp.and IntKind.u64 (IntKind.u64.wrap (-(j.val : Int))) 31 = 32 - (j.val : Int) := by decide +kernel
    exact H ⟨k, by omega⟩ k0
  have e3 : (0 : Int) ≤ 32 - (k : Int) := by omega
  have e4 : IntKind.u64.wrap (32 - (32 - (k : Int))) = k := by rw [show 32 - (32 - (k : Int)) = k by omega]; simp [IntKind.wrap, IntKind.bits, IntKind.signed]; omega
  have HE : Hid (bits BinOp.or IntKind.u32 (x * 2 ^ (32 - k) % 4294967296) (x / 2 ^ k) = rot x k) := by
    unfold rot
    rw [Int.toNat_natCast, show (32 - (k : Int)).toNat = 32 - k by omega, IntKind.wrap_u32']
    exact or_flip _ _ _
  go_enter Tryd.func101, Tryd.ntmps101
  go_wp2_with (go_in)
  go_ret
  exact ⟨ret1 HE.out, rfl⟩

theorem al64 (w : World) : (Instr.alloc 109 true (.tuple #[])).run Tryd.prog w = .ok (.pointer (some ⟨w.heap.size, 0, none⟩)) (w.alloc (.cells (Array.replicate 64 (.int .u32 0)) 109)) := by kernel_rfl

/-- What holds behind the words that are laid: a whole array of bytes at g, the words at gz, the result's place at g1. -/
structure PI (W : World) (b : Nat → Int) (g g1 gz : Nat) (o : Nat → Int) (wr : World) : Prop where
  wi : WI W b g 0 gz o wr
  th : wr.there g1 0 64
theorem there_drewN {w : World} {b o n : Nat} (h : w.there b o n) (m : Nat) : (w.drewN m).there b o n := fun j hj => h j hj
theorem there_setCell {w : World} {b o n : Nat} (h : w.there b o n) (p : Nat) (x : Nat) (v : Value) : (w.setCell ⟨p, x, none⟩ v).there b o n := World.there_setCells h p x [v]
theorem PI.set {W : World} {b : Nat → Int} {g g1 gz : Nat} {o : Nat → Int} {wr w2 : World} (h : PI W b g g1 gz o wr) (hne : g ≠ gz) (hz : W.heap.size ≤ gz) (x : Nat) (hx : x < 64) (v : Int) (hw : ∃ n, w2 = wr.drewN n) :
    PI W b g g1 gz (upd o x v) (w2.setCell ⟨gz, x, none⟩ (.int .u32 v)) := by
  refine ⟨h.wi.set hne hz x hx v hw, ?_⟩
  obtain ⟨n, rfl⟩ := hw
  exact there_setCell (there_drewN h.th n) _ _ _
theorem Row.there0 {w : World} {n : Nat} {v : Value} {t : TypeId} : (w.alloc (.cells (Array.replicate n v) t)).there w.heap.size 0 n := by
  intro j hj
  refine ⟨?_, made_frozen w _ _ _⟩
  rw [World.cell?_alloc_at _ _ _ _ rfl, Nat.zero_add]
  simp [hj]
theorem info58 : (Tryd.prog.info? 109).map (·.size) = some 64 := by kernel_rfl
theorem load58 {w : World} {g : Nat} {f : Nat → Int} (h : Row .u32 w g 0 64 f) : (loadVar 109 ⟨g, 0, none⟩).run Tryd.prog w = .ok (.agg (cl .u32 64 f).toArray) w :=
  run_loadVar_mid w g 0 109 (cl .u32 64 f) _ h.range Tryd.underlying109 rfl (by rw [cl_len]; exact info58)
theorem store58 {w : World} {g : Nat} {f : Nat → Int} (h : w.there g 0 64) : (storeVar 109 ⟨g, 0, none⟩ (.agg (cl .u32 64 f).toArray)).run Tryd.prog w = .ok () (w.setCells g 0 (cl .u32 64 f)) :=
  run_storeVar_mid w g 0 109 (cl .u32 64 f).toArray (by rw [List.size_toArray, cl_len]; exact h) (by rw [List.size_toArray, cl_len]; exact info58) (cl_one _ _ _)

set_option maxHeartbeats 1000000 in
set_option maxRecDepth 100000 in
theorem pwords_any {W : World} (b : Nat → Int) (w : World) (q : Q W w) (hB : Byts b) :
    Calls Tryd.prog 93 #[arr .u8 64 b] w fun e w' => e = .returned (arr .u32 64 (wrow b 48)) ∧ Q W w' := by
  have hmk := al64
  have hz := q.size
  have I0 : Hid (∀ t0 t1 t2, PI W b w.heap.size (w.heap.size + 1) (w.heap.size + 2) (w16 b 0) (((w.alloc (.cells (cl .u8 64 b).toArray t0)).alloc (.cells (Array.replicate 64 (.int .u32 0)) t1)).alloc (.cells (Array.replicate 64 (.int .u32 0)) t2))) := by
    intro t0 t1 t2
    have s1 : (w.alloc (.cells (cl .u8 64 b).toArray t0)).heap.size = w.heap.size + 1 := by simp
    have s2 : ((w.alloc (.cells (cl .u8 64 b).toArray t0)).alloc (.cells (Array.replicate 64 (.int .u32 0)) t1)).heap.size = w.heap.size + 2 := by simp
    have r0 := Row.boxed .u8 w 64 b t0
    have rz := Row.made .u32 ((w.alloc (.cells (cl .u8 64 b).toArray t0)).alloc (.cells (Array.replicate 64 (.int .u32 0)) t1)) 64 0 t2
    have fz := made_frozen ((w.alloc (.cells (cl .u8 64 b).toArray t0)).alloc (.cells (Array.replicate 64 (.int .u32 0)) t1)) (Array.replicate 64 (.int .u32 0)) t2
    have th := Row.there0 (w := w.alloc (.cells (cl .u8 64 b).toArray t0)) (n := 64) (v := .int .u32 0) (t := t1)
    rw [s2] at rz fz
    rw [s1] at th
    refine ⟨⟨?_, rz, fz, by simp, ((q.alloc _).alloc _).alloc _⟩, World.there_alloc th _⟩
    exact (r0.q ((Q.refl _).alloc _) (by simp)).q ((Q.refl _).alloc _) (by simp; omega)
  have HB := Lib.hid hB
  have hrl : Hid (∀ {w : World} {g : Nat} {f : Nat → Int} (h : Row .u32 w g 0 64 f), (loadVar 109 ⟨g, 0, none⟩).run Tryd.prog w = .ok (.agg (cl .u32 64 f).toArray) w) := load58
  clear hB q
  unfold arr
  generalize (cl .u8 64 b).toArray = A at *
  go_enter Tryd.func93, Tryd.ntmps93
  go_wp2_with fail
  have I1 := Lib.hid (I0.out 105 109 109)
  clear hmk I0
  have hne : w.heap.size ≠ w.heap.size + 2 := by omega
  have hz2 : W.heap.size ≤ w.heap.size + 2 := by omega
  have hz1 : W.heap.size ≤ w.heap.size + 1 := by omega
  have hn1 : w.heap.size + 1 ≠ w.heap.size + 2 := by omega
  generalize w.heap.size + 2 = gz at *
  generalize w.heap.size + 1 = g1 at *
  generalize w.heap.size = g at *
  go_loopw [11] (fun i wr => ∃ k : Nat, k ≤ 16 ∧ i = .int .i64 k ∧ Hid (PI W b g g1 gz (w16 b k) wr)) (fun i _ => 16 - (intOf i).toNat)
  case atStart => exact ⟨0, by omega, rfl, I1⟩
  case round =>
    obtain ⟨k, hk, rfl, I⟩ := hrel
    clear I1
    by_cases hlt : k < 16
    · have k0 : (0 : Int) ≤ (k : Int) := by omega
      have k1 : (k : Int) < 16 := by omega
      have tk : decide ((k : Int) < 16) = true := by simp; omega
      have c0 := I.out.wi.rb.at0 (4 * k) (by omega)
      have c1 := I.out.wi.rb.at0 (4 * k + 1) (by omega)
      have c2 := I.out.wi.rb.at0 (4 * k + 2) (by omega)
      have c3 := I.out.wi.rb.at0 (4 * k + 3) (by omega)
      have f0 := I.out.wi.fz k
      have cz : wr.cell? ⟨gz, k, none⟩ = some (.int .u32 (w16 b k k)) := I.out.wi.rz.at0 k (by omega)
      obtain ⟨p0, q0⟩ := HB.out (4 * k)
      obtain ⟨p1, q1⟩ := HB.out (4 * k + 1)
      obtain ⟨p2, q2⟩ := HB.out (4 * k + 2)
      obtain ⟨p3, q3⟩ := HB.out (4 * k + 3)
      have J := Lib.hid fun w2 h => I.out.set (w2 := w2) hne hz2 k (by omega) (wd b k) h
      have HW : Hid (wd b k = b (4 * k) * 16777216 + b (4 * k + 1) * 65536 + b (4 * k + 2) * 256 + b (4 * k + 3)) := rfl
      generalize b (4 * k) = b0 at *
      generalize b (4 * k + 1) = b1 at *
      generalize b (4 * k + 2) = b2 at *
      generalize b (4 * k + 3) = b3 at *
      have ho := or_word b0 b1 b2 b3 p0 q0 p1 q1 p2 q2 p3 q3
      have sl := slice_lh (P := Tryd.prog) Tryd.underlying105 (by intro w; kernel_rfl) wr g 0 .i64 .i64 (4 * k) (4 * k + 4) (by omega) (by omega) (by omega)
      rw [show ((4 * k : Nat) : Int) = 4 * (k : Int) by omega, show ((4 * k + 4 : Nat) : Int) = 4 * (k : Int) + 4 by omega, show 4 * k + 4 - 4 * k = 4 by omega] at sl
      clear I
      go_wp2_with fail
      go_region
      go_wp2_with fail
      have J' := J.out wr.drew ⟨1, rfl⟩
      rw [w16_succ, HW.out] at J'
      exact ⟨⟨k + 1, by omega, by go_num, J'⟩, by simp [intOf]; omega⟩
    · obtain rfl : k = 16 := by omega
      have I1 : Hid (PI W b g g1 gz (wrow b 0) wr) := I
      have e16 : ((16 : Nat) : Int) = 16 := rfl
      rw [e16]
      clear I e16
      go_wp2_with fail
      go_loopw [6] (fun i wr => ∃ k : Nat, k ≤ 48 ∧ i = .int .i64 (16 + (k : Int)) ∧ Hid (PI W b g g1 gz (wrow b k) wr)) (fun i _ => 64 - (intOf i).toNat)
      case atStart => exact ⟨0, by omega, rfl, I1⟩
      case round =>
        obtain ⟨k, hk, rfl, I⟩ := hrel
        clear I1
        by_cases hlt : k < 48
        · have tk : decide (16 + (k : Int) < 64) = true := by simp; omega
          have k0 : (0 : Int) ≤ (k : Int) := by omega
          have k1 : (k : Int) < 48 := by omega
          have c15 : wr.cell? ⟨gz, 16 + k - 15, none⟩ = some (.int .u32 (wrow b k (1 + k))) := by rw [show 16 + k - 15 = 1 + k by omega]; exact I.out.wi.rz.at0 (1 + k) (by omega)
          have c2 : wr.cell? ⟨gz, 16 + k - 2, none⟩ = some (.int .u32 (wrow b k (14 + k))) := by rw [show 16 + k - 2 = 14 + k by omega]; exact I.out.wi.rz.at0 (14 + k) (by omega)
          have c7 : wr.cell? ⟨gz, 16 + k - 7, none⟩ = some (.int .u32 (wrow b k (9 + k))) := by rw [show 16 + k - 7 = 9 + k by omega]; exact I.out.wi.rz.at0 (9 + k) (by omega)
          have c16 : wr.cell? ⟨gz, 16 + k - 16, none⟩ = some (.int .u32 (wrow b k (k))) := by rw [show 16 + k - 16 = k by omega]; exact I.out.wi.rz.at0 (k) (by omega)
          have c16b := I.out.wi.rz.at0 k (by omega)
          have cz := I.out.wi.rz.at0 (16 + k) (by omega)
          have f0 := I.out.wi.fz (16 + k)
          obtain ⟨p15, q15⟩ := wrow_wd b HB.out k (1 + k)
          obtain ⟨p2, q2⟩ := wrow_wd b HB.out k (14 + k)
          have J : Hid (∀ w2, (∃ n, w2 = wr.drewN n) → PI W b g g1 gz (wrow b (k + 1)) (w2.setCell ⟨gz, 16 + k, none⟩ (.int .u32 (ad (ad (ad (s1 (wrow b k (14 + k))) (wrow b k (9 + k))) (s0 (wrow b k (1 + k)))) (wrow b k k))))) := fun w2 h => I.out.set (w2 := w2) hne hz2 (16 + k) (by omega) _ h
          generalize wrow b k (1 + k) = x at *
          generalize wrow b k (14 + k) = y at *
          generalize wrow b k (9 + k) = y7 at *
          generalize wrow b k k = y16 at *
          have rs0 : bits BinOp.xor IntKind.u32 (bits BinOp.xor IntKind.u32 (rot x 7) (rot x 18)) (x / 8) = s0 x := rfl
          have rs1 : bits BinOp.xor IntKind.u32 (bits BinOp.xor IntKind.u32 (rot y 17) (rot y 19)) (y / 1024) = s1 y := rfl
          generalize s0 x = z0 at *
          generalize s1 y = z1 at *
          clear I
          go_wp2_with fail
          go_region
          go_wp2_with (go_at_call 101; refine (right_any _ _ _ (by assumption) (by assumption) (by omega) (by omega)).mono ?_; rintro e w' ⟨rfl, rfl⟩)
          have HV : Hid (ad (ad (ad z1 y7) z0) y16 = (z1 + y7 + z0 + y16) % 4294967296) := by show _ = _; unfold ad; simp only [IntKind.wrap_u32']; omega
          go_region
          go_wp2_with fail
          have J' := J.out
          rw [HV.out] at J'
          exact ⟨⟨k + 1, by omega, by go_num, J' _ ⟨2, rfl⟩⟩, by simp [intOf]; omega⟩
        · obtain rfl : k = 48 := by omega
          have HI := I
          have HR := Lib.hid I.out.wi.rz.range
          have HT := Lib.hid I.out.th
          have HL := Lib.hid (load58 (Row.stored (k := .u32) (f := wrow b 48) I.out.th))
          have HQ := Lib.hid (Q.setCells I.out.wi.q hz1 0 (cl .u32 64 (wrow b 48)))
          have HC := Lib.hid (cl_len .u32 64 (wrow b 48))
          have HO := Lib.hid (cl_one .u32 64 (wrow b 48))
          clear I
          generalize hC : cl .u32 64 (wrow b 48) = C at *
          go_wp2_with (first
            | (refine wpList_load_mid rfl 109 _ rfl gz 0 rfl C _ HR.out Tryd.underlying109 rfl (by rw [HC.out]; exact info58) ?_)
            | (refine wpList_store_mid rfl 109 _ _ rfl g1 0 C.toArray rfl rfl (by rw [List.size_toArray, HC.out]; exact HT.out) (by rw [List.size_toArray, HC.out]; exact info58) HO.out ?_))
          try simp only [Exit.inBlock, Exit.then]
          refine bodyPost_ret (results_cell rfl rfl HL.out) rfl ?_
          exact ⟨by rw [hC], HQ.out⟩
end Go.Proofs.YtnghhagiokiaoaaDoor.Sh
