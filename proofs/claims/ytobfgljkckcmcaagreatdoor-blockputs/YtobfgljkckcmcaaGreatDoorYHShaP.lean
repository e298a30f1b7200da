import Derived.Test.YtobfgljkckcmcaaGreatDoorYHShaR
import Derived.Test.YtobfgljkckcmcaaGreatDoorYHMem
import Derived.Great.BuildSlice
import Derived.ScopeJumps
set_option maxRecDepth 100000
namespace Go.Proofs.YtobfgljkckcmcaaGreatDoor.Sh
open Go.RowKit
open Mem
set_option linter.unusedVariables false
theorem or_flip (k : IntKind) (a b : Int) : bits BinOp.or k a b = bits BinOp.or k b a := by
 unfold bits; simp [Nat.or_comm]
theorem or_add (n a b : Nat) (hb : b < 2 ^ n) (hlt : 2 ^ n * a + b < 4294967296) : bits BinOp.or IntKind.u32 ((2 ^ n * a : Nat) : Int) (b : Int) = ((2 ^ n * a + b : Nat) : Int) := by
 have h1 : (BitVec.ofInt 32 ((2 ^ n * a : Nat) : Int)).toNat = 2 ^ n * a := by rw [BitVec.ofInt_natCast, BitVec.toNat_ofNat]; omega
 have h2 : (BitVec.ofInt 32 (b : Int)).toNat = b := by rw [BitVec.ofInt_natCast, BitVec.toNat_ofNat]; omega
 show IntKind.u32.wrap (((BitVec.ofInt 32 ((2 ^ n * a : Nat) : Int) ||| BitVec.ofInt 32 (b : Int)).toNat : Nat) : Int) = _
 rw [BitVec.toNat_or, h1, h2, ← Nat.two_pow_add_eq_or_of_lt hb, IntKind.wrap_u32', Int.emod_eq_of_lt (by omega) (by omega)]
theorem or_word (b0 b1 b2 b3 : Int) (p0 : 0 ≤ b0) (q0 : b0 ≤ 255) (p1 : 0 ≤ b1) (q1 : b1 ≤ 255) (p2 : 0 ≤ b2) (q2 : b2 ≤ 255) (p3 : 0 ≤ b3) (q3 : b3 ≤ 255) :
 bits BinOp.or IntKind.u32 (bits BinOp.or IntKind.u32 (bits BinOp.or IntKind.u32 (b0 * 16777216) (b1 * 65536)) (b2 * 256)) b3 = b0 * 16777216 + b1 * 65536 + b2 * 256 + b3 := by
 obtain ⟨b0, rfl⟩ := Int.eq_ofNat_of_zero_le p0
 obtain ⟨b1, rfl⟩ := Int.eq_ofNat_of_zero_le p1
 obtain ⟨b2, rfl⟩ := Int.eq_ofNat_of_zero_le p2
 obtain ⟨b3, rfl⟩ := Int.eq_ofNat_of_zero_le p3
 have e1 := or_add 24 b0 (b1 * 65536) (by omega) (by omega)
 have e2 := or_add 16 (b0 * 256 + b1) (b2 * 256) (by omega) (by omega)
 have e3 := or_add 8 (b0 * 65536 + b1 * 256 + b2) b3 (by omega) (by omega)
 rw [show (b0 : Int) * 16777216 = ((2 ^ 24 * b0 : Nat) : Int) by omega, show (b1 : Int) * 65536 = ((b1 * 65536 : Nat) : Int) by omega, e1,
  show ((2 ^ 24 * b0 + b1 * 65536 : Nat) : Int) = ((2 ^ 16 * (b0 * 256 + b1) : Nat) : Int) by omega, show (b2 : Int) * 256 = ((b2 * 256 : Nat) : Int) by omega, e2,
  show ((2 ^ 16 * (b0 * 256 + b1) + b2 * 256 : Nat) : Int) = ((2 ^ 8 * (b0 * 65536 + b1 * 256 + b2) : Nat) : Int) by omega, e3]
 omega
theorem right_any (x n : Int) (w : World) (h0 : 0 ≤ x) (h1 : x ≤ 4294967295) (n0 : 1 ≤ n) (n1 : n ≤ 31) :
 Calls Tryz.prog 148 #[.int .u32 x, .int .i64 n] w fun e w' => e = .returned (.int .u32 (rot x n)) ∧ w' = w := by
 obtain ⟨k, rfl⟩ := Int.eq_ofNat_of_zero_le (show 0 ≤ n by omega)
 have ea : bits BinOp.and IntKind.u64 (IntKind.u64.wrap (-(k : Int))) 31 = 32 - (k : Int) := by
  obtain ⟨k0, k1⟩ : 1 ≤ k ∧ k ≤ 31 := ⟨by omega, by omega⟩
  have H : ∀ j : Fin 32, 1 ≤ j.val → bits BinOp.and IntKind.u64 (IntKind.u64.wrap (-(j.val : Int))) 31 = 32 - (j.val : Int) := by decide +kernel
  exact H ⟨k, by omega⟩ k0
 have e3 : (0 : Int) ≤ 32 - (k : Int) := by omega
 have e4 : IntKind.u64.wrap (32 - (32 - (k : Int))) = k := by rw [show 32 - (32 - (k : Int)) = k by omega]; simp [IntKind.wrap, IntKind.bits, IntKind.signed]; omega
 have HE : Hid (bits BinOp.or IntKind.u32 (x * 2 ^ (32 - k) % 4294967296) (x / 2 ^ k) = rot x k) := by
  unfold rot
  rw [Int.toNat_natCast, show (32 - (k : Int)).toNat = 32 - k by omega, IntKind.wrap_u32']
  exact or_flip _ _ _
 go_enter Tryz.func148, Tryz.ntmps148
 go_wp2_with (go_in)
 go_ret
 exact ⟨ret1 HE.out, rfl⟩
theorem al64 (w : World) : (Instr.alloc 185 true (.tuple #[])).run Tryz.prog w = .ok (.pointer (some ⟨w.heap.size, 0, none⟩)) (w.alloc (.cells (Array.replicate 64 (.int .u32 0)) 185)) := by kernel_rfl
/-- What holds behind the words that are laid: a whole array of bytes at g, the words at gz, the result's place at g1. -/
structure PI (W : World) (b : Nat → Int) (g g1 gz : Nat) (o : Nat → Int) (wr : World) : Prop where
 wi : WI W b g 0 gz o wr
 th : wr.there g1 0 64
theorem there_drewN {w : World} {b o n : Nat} (h : w.there b o n) (m : Nat) : (w.drewN m).there b o n := fun j hj => h j hj
theorem there_setCell {w : World} {b o n : Nat} (h : w.there b o n) (p : Nat) (x : Nat) (v : Value) : (w.setCell ⟨p, x, none⟩ v).there b o n := World.there_setCells h p x [v]
theorem PI.set {W : World} {b : Nat → Int} {g g1 gz : Nat} {o : Nat → Int} {wr w2 : World} (h : PI W b g g1 gz o wr) (hne : g ≠ gz) (hz : W.heap.size ≤ gz) (x : Nat) (hx : x < 64) (v : Int) (hw : ∃ n, w2 = wr.drewN n) :
 PI W b g g1 gz (upd o x v) (w2.setCell ⟨gz, x, none⟩ (.int .u32 v)) := by
 refine ⟨h.wi.set hne hz x hx v hw, ?_⟩
 obtain ⟨n, rfl⟩ := hw
 exact there_setCell (there_drewN h.th n) _ _ _
theorem Row.there0 {w : World} {n : Nat} {v : Value} {t : TypeId} : (w.alloc (.cells (Array.replicate n v) t)).there w.heap.size 0 n := by
 intro j hj
 refine ⟨?_, made_frozen w _ _ _⟩
 rw [World.cell?_alloc_at _ _ _ _ rfl, Nat.zero_add]
 simp [hj]
theorem info58 : (Tryz.prog.info? 185).map (·.size) = some 64 := by kernel_rfl
theorem load58 {w : World} {g : Nat} {f : Nat → Int} (h : Row .u32 w g 0 64 f) : (loadVar 185 ⟨g, 0, none⟩).run Tryz.prog w = .ok (.agg (cl .u32 64 f).toArray) w :=
 run_loadVar_mid w g 0 185 (cl .u32 64 f) _ h.range Tryz.underlying185 rfl (by rw [cl_len]; exact info58)
set_option maxHeartbeats 1000000 in
theorem pwords_any {W : World} (b : Nat → Int) (w : World) (q : Q W w) (hB : Byts b) :
 Calls Tryz.prog 131 #[arr .u8 64 b] w fun e w' => e = .returned (arr .u32 64 (wrow b 48)) ∧ Q W w' := by
 have hmk := al64
 have hz := q.size
 have I0 : Hid (∀ t0 t1 t2, PI W b w.heap.size (w.heap.size + 1) (w.heap.size + 2) (w16 b 0) (((w.alloc (.cells (cl .u8 64 b).toArray t0)).alloc (.cells (Array.replicate 64 (.int .u32 0)) t1)).alloc (.cells (Array.replicate 64 (.int .u32 0)) t2))) := by
  intro t0 t1 t2
  have s1 : (w.alloc (.cells (cl .u8 64 b).toArray t0)).heap.size = w.heap.size + 1 := by simp
  have s2 : ((w.alloc (.cells (cl .u8 64 b).toArray t0)).alloc (.cells (Array.replicate 64 (.int .u32 0)) t1)).heap.size = w.heap.size + 2 := by simp
  have r0 := Row.boxed .u8 w 64 b t0
  have rz := Row.made .u32 ((w.alloc (.cells (cl .u8 64 b).toArray t0)).alloc (.cells (Array.replicate 64 (.int .u32 0)) t1)) 64 0 t2
  have fz := made_frozen ((w.alloc (.cells (cl .u8 64 b).toArray t0)).alloc (.cells (Array.replicate 64 (.int .u32 0)) t1)) (Array.replicate 64 (.int .u32 0)) t2
  have th := Row.there0 (w := w.alloc (.cells (cl .u8 64 b).toArray t0)) (n := 64) (v := .int .u32 0) (t := t1)
  rw [s2] at rz fz
  rw [s1] at th
  refine ⟨⟨?_, rz, fz, by simp, ((q.alloc _).alloc _).alloc _⟩, World.there_alloc th _⟩
  exact (r0.q ((Q.refl _).alloc _) (by simp)).q ((Q.refl _).alloc _) (by simp; omega)
 have HB := Lib.hid hB
 have hrl : Hid (∀ {w : World} {g : Nat} {f : Nat → Int} (h : Row .u32 w g 0 64 f), (loadVar 185 ⟨g, 0, none⟩).run Tryz.prog w = .ok (.agg (cl .u32 64 f).toArray) w) := load58
 clear hB q
 unfold arr
 generalize (cl .u8 64 b).toArray = A at *
 go_enter Tryz.func131, Tryz.ntmps131
 go_wp2_with fail
 have I1 := Lib.hid (I0.out 181 185 185)
 clear hmk I0
 have hne : w.heap.size ≠ w.heap.size + 2 := by omega
 have hz2 : W.heap.size ≤ w.heap.size + 2 := by omega
 have hz1 : W.heap.size ≤ w.heap.size + 1 := by omega
 have hn1 : w.heap.size + 1 ≠ w.heap.size + 2 := by omega
 generalize w.heap.size + 2 = gz at *
 generalize w.heap.size + 1 = g1 at *
 generalize w.heap.size = g at *
 go_loopw [11] (fun i wr => ∃ k : Nat, k ≤ 16 ∧ i = .int .i64 k ∧ Hid (PI W b g g1 gz (w16 b k) wr)) (fun i _ => 16 - (intOf i).toNat)
 case atStart => exact ⟨0, by omega, rfl, I1⟩
 case round =>
  obtain ⟨k, hk, rfl, I⟩ := hrel
  clear I1
  by_cases hlt : k < 16
  · have k0 : (0 : Int) ≤ (k : Int) := by omega
    have k1 : (k : Int) < 16 := by omega
    have tk : decide ((k : Int) < 16) = true := by simp; omega
    have c0 := I.out.wi.rb.at0 (4 * k) (by omega)
    have c1 := I.out.wi.rb.at0 (4 * k + 1) (by omega)
    have c2 := I.out.wi.rb.at0 (4 * k + 2) (by omega)
    have c3 := I.out.wi.rb.at0 (4 * k + 3) (by omega)
    have f0 := I.out.wi.fz k
    have cz : wr.cell? ⟨gz, k, none⟩ = some (.int .u32 (w16 b k k)) := I.out.wi.rz.at0 k (by omega)
    obtain ⟨p0, q0⟩ := HB.out (4 * k)
    obtain ⟨p1, q1⟩ := HB.out (4 * k + 1)
    obtain ⟨p2, q2⟩ := HB.out (4 * k + 2)
    obtain ⟨p3, q3⟩ := HB.out (4 * k + 3)
    have J := Lib.hid fun w2 h => I.out.set (w2 := w2) hne hz2 k (by omega) (wd b k) h
    have HW : Hid (wd b k = b (4 * k) * 16777216 + b (4 * k + 1) * 65536 + b (4 * k + 2) * 256 + b (4 * k + 3)) := rfl
    generalize b (4 * k) = b0 at *
    generalize b (4 * k + 1) = b1 at *
    generalize b (4 * k + 2) = b2 at *
    generalize b (4 * k + 3) = b3 at *
    have ho := or_word b0 b1 b2 b3 p0 q0 p1 q1 p2 q2 p3 q3
    have sl := slice_lh (P := Tryz.prog) Tryz.underlying181 (by intro w; kernel_rfl) wr g 0 .i64 .i64 (4 * k) (4 * k + 4) (by omega) (by omega) (by omega)
    rw [show ((4 * k : Nat) : Int) = 4 * (k : Int) by omega, show ((4 * k + 4 : Nat) : Int) = 4 * (k : Int) + 4 by omega, show 4 * k + 4 - 4 * k = 4 by omega] at sl
    clear I
    go_wp2_with fail
    go_region
    go_wp2_with fail
    have J' := J.out wr.drew ⟨1, rfl⟩
    rw [w16_succ, HW.out] at J'
    exact ⟨⟨k + 1, by omega, by go_num, J'⟩, by simp [intOf]; omega⟩
  · obtain rfl : k = 16 := by omega
    have I1 : Hid (PI W b g g1 gz (wrow b 0) wr) := I
    have e16 : ((16 : Nat) : Int) = 16 := rfl
    rw [e16]
    clear I e16
    go_wp2_with fail
    go_loopw [6] (fun i wr => ∃ k : Nat, k ≤ 48 ∧ i = .int .i64 (16 + (k : Int)) ∧ Hid (PI W b g g1 gz (wrow b k) wr)) (fun i _ => 64 - (intOf i).toNat)
    case atStart => exact ⟨0, by omega, rfl, I1⟩
    case round =>
     obtain ⟨k, hk, rfl, I⟩ := hrel
     clear I1
     by_cases hlt : k < 48
     · have tk : decide (16 + (k : Int) < 64) = true := by simp; omega
       have k0 : (0 : Int) ≤ (k : Int) := by omega
       have k1 : (k : Int) < 48 := by omega
       have c15 : wr.cell? ⟨gz, 16 + k - 15, none⟩ = some (.int .u32 (wrow b k (1 + k))) := by rw [show 16 + k - 15 = 1 + k by omega]; exact I.out.wi.rz.at0 (1 + k) (by omega)
       have c2 : wr.cell? ⟨gz, 16 + k - 2, none⟩ = some (.int .u32 (wrow b k (14 + k))) := by rw [show 16 + k - 2 = 14 + k by omega]; exact I.out.wi.rz.at0 (14 + k) (by omega)
       have c7 : wr.cell? ⟨gz, 16 + k - 7, none⟩ = some (.int .u32 (wrow b k (9 + k))) := by rw [show 16 + k - 7 = 9 + k by omega]; exact I.out.wi.rz.at0 (9 + k) (by omega)
       have c16 : wr.cell? ⟨gz, 16 + k - 16, none⟩ = some (.int .u32 (wrow b k (k))) := by rw [show 16 + k - 16 = k by omega]; exact I.out.wi.rz.at0 (k) (by omega)
       have c16b := I.out.wi.rz.at0 k (by omega)
       have cz := I.out.wi.rz.at0 (16 + k) (by omega)
       have f0 := I.out.wi.fz (16 + k)
       obtain ⟨p15, q15⟩ := wrow_wd b HB.out k (1 + k)
       obtain ⟨p2, q2⟩ := wrow_wd b HB.out k (14 + k)
       have J : Hid (∀ w2, (∃ n, w2 = wr.drewN n) → PI W b g g1 gz (wrow b (k + 1)) (w2.setCell ⟨gz, 16 + k, none⟩ (.int .u32 (ad (ad (ad (s1 (wrow b k (14 + k))) (wrow b k (9 + k))) (s0 (wrow b k (1 + k)))) (wrow b k k))))) := fun w2 h => I.out.set (w2 := w2) hne hz2 (16 + k) (by omega) _ h
       generalize wrow b k (1 + k) = x at *
       generalize wrow b k (14 + k) = y at *
       generalize wrow b k (9 + k) = y7 at *
       generalize wrow b k k = y16 at *
       have rs0 : bits BinOp.xor IntKind.u32 (bits BinOp.xor IntKind.u32 (rot x 7) (rot x 18)) (x / 8) = s0 x := rfl
       have rs1 : bits BinOp.xor IntKind.u32 (bits BinOp.xor IntKind.u32 (rot y 17) (rot y 19)) (y / 1024) = s1 y := rfl
       generalize s0 x = z0 at *
       generalize s1 y = z1 at *
       clear I
       go_wp2_with fail
       go_region
       go_wp2_with (go_at_call 148; refine (right_any _ _ _ (by assumption) (by assumption) (by omega) (by omega)).mono ?_; rintro e w' ⟨rfl, rfl⟩)
       have HV : Hid (ad (ad (ad z1 y7) z0) y16 = (z1 + y7 + z0 + y16) % 4294967296) := by show _ = _; unfold ad; simp only [IntKind.wrap_u32']; omega
       go_region
       go_wp2_with fail
       have J' := J.out
       rw [HV.out] at J'
       exact ⟨⟨k + 1, by omega, by go_num, J' _ ⟨2, rfl⟩⟩, by simp [intOf]; omega⟩
     · obtain rfl : k = 48 := by omega
       have HI := I
       have HR := Lib.hid I.out.wi.rz.range
       have HT := Lib.hid I.out.th
       have HL := Lib.hid (load58 (Row.stored (k := .u32) (f := wrow b 48) I.out.th))
       have HQ := Lib.hid (Q.setCells I.out.wi.q hz1 0 (cl .u32 64 (wrow b 48)))
       have HC := Lib.hid (cl_len .u32 64 (wrow b 48))
       have HO := Lib.hid (cl_one .u32 64 (wrow b 48))
       clear I
       generalize hC : cl .u32 64 (wrow b 48) = C at *
       go_wp2_with (first
        | (refine wpList_load_mid rfl 185 _ rfl gz 0 rfl C _ HR.out Tryz.underlying185 rfl (by rw [HC.out]; exact info58) ?_)
        | (refine wpList_store_mid rfl 185 _ _ rfl g1 0 C.toArray rfl rfl (by rw [List.size_toArray, HC.out]; exact HT.out) (by rw [List.size_toArray, HC.out]; exact info58) HO.out ?_))
       try simp only [Exit.inBlock, Exit.then]
       refine bodyPost_ret (results_cell rfl rfl HL.out) rfl ?_
       exact ⟨by rw [hC], HQ.out⟩
/-- The package's tables, as they are laid. -/
structure GL (w : World) : Prop where
 i0 : Row .u32 w 0 0 8 I0
 k : Row .u32 w 1 0 64 K
theorem GL.q {W w : World} (h : GL W) (q : Q W w) : GL w := ⟨h.i0.q q (h.i0.lt (by omega)), h.k.q q (h.k.lt (by omega))⟩
theorem GL.lt {W : World} (h : GL W) : 1 < W.heap.size := h.k.lt (by omega)
theorem right_q (x n : Int) (w : World) (h0 : 0 ≤ x) (h1 : x ≤ 4294967295) (n0 : 1 ≤ n) (n1 : n ≤ 31) :
 Calls Tryz.prog 148 #[.int .u32 x, .int .i64 n] w fun e w' => e = .returned (.int .u32 (rot x n)) ∧ ∃ m, w' = w.drewN m :=
 (right_any x n w h0 h1 n0 n1).mono fun e w' ⟨he, hw⟩ => ⟨he, 0, by rw [hw]; rfl⟩
theorem al8 (w : World) : (Instr.alloc 180 true (.tuple #[])).run Tryz.prog w = .ok (.pointer (some ⟨w.heap.size, 0, none⟩)) (w.alloc (.cells (Array.replicate 8 (.int .u32 0)) 180)) := by kernel_rfl
theorem info8 : (Tryz.prog.info? 180).map (·.size) = some 8 := by kernel_rfl
theorem load8 {w : World} {g o : Nat} {f : Nat → Int} (h : Row .u32 w g o 8 f) : (loadVar 180 ⟨g, o, none⟩).run Tryz.prog w = .ok (.agg (cl .u32 8 f).toArray) w :=
 run_loadVar_mid w g o 180 (cl .u32 8 f) _ h.range Tryz.underlying180 rfl (by rw [cl_len]; exact info8)
theorem idx8 (w : World) (V : Nat → Int) (k : Nat) (hk : k < 8) : (Instr.index 180 (.agg (cl .u32 8 V).toArray) (.int .i64 k)).run Tryz.prog w = .ok (.int .u32 (V k)) w := by
 match k, hk with
 | 0, _ | 1, _ | 2, _ | 3, _ | 4, _ | 5, _ | 6, _ | 7, _ => rfl
theorem xor_max (x : Int) (h0 : 0 ≤ x) (h1 : x ≤ 4294967295) : bits BinOp.xor IntKind.u32 IntKind.u32.max x = 4294967295 - x := by
 obtain ⟨n, rfl⟩ := Int.eq_ofNat_of_zero_le h0
 show IntKind.u32.wrap (((BitVec.ofInt 32 4294967295 ^^^ BitVec.ofInt 32 (n : Int)).toNat : Nat) : Int) = _
 have e : BitVec.ofInt 32 4294967295 = BitVec.allOnes 32 := by decide
 have e2 : (BitVec.ofInt 32 (n : Int)).toNat = n := by rw [BitVec.ofInt_natCast, BitVec.toNat_ofNat]; omega
 rw [e, BitVec.allOnes_xor, BitVec.toNat_not, e2, IntKind.wrap_u32']
 omega
/-- What stands in memory while a state is mixed. -/
structure MI (W : World) (g gw gr : Nat) (st wf : Nat → Int) (wr : World) : Prop where
 rs : Row .u32 wr g 0 8 st
 rw : Row .u32 wr gw 0 64 wf
 rk : Row .u32 wr 1 0 64 K
 fz : ∀ j, wr.frozen? ⟨g, j, none⟩ = false
 th : wr.there gr 0 8
 q : Q W wr
theorem MI.drewN {W : World} {g gw gr : Nat} {st wf : Nat → Int} {wr : World} (h : MI W g gw gr st wf wr) (n : Nat) : MI W g gw gr st wf (wr.drewN n) :=
 ⟨h.rs.drewN n, h.rw.drewN n, h.rk.drewN n, fun j => h.fz j, there_drewN h.th n, h.q.drewN n⟩
theorem MI.set {W : World} {g gw gr : Nat} {st wf : Nat → Int} {wr : World} (h : MI W g gw gr st wf wr) (h1 : gw ≠ g) (h2 : 1 ≠ g) (hz : W.heap.size ≤ g) (x : Nat) (hx : x < 8) (u : Int) :
 MI W g gw gr (upd st x u) wf (wr.setCell ⟨g, x, none⟩ (.int .u32 u)) := by
 refine ⟨h.rs.set x hx u, h.rw.other h1 _, h.rk.other h2 _, fun j => ?_, there_setCell h.th _ _ _, h.q.setCell hz _⟩
 have := h.fz j
 simpa using this
/-- The first m places of a state, each with a word added. -/
def mx (V st : Nat → Int) (m : Nat) : Nat → Int := fun j => if j < m then ad (V j) (st j) else st j
theorem mx_step (V st : Nat → Int) (m j : Nat) : upd (mx V st m) m (ad (V m) (st m)) j = mx V st (m + 1) j := by
 unfold upd mx
 by_cases h : j = m
 · subst h; rw [if_pos rfl, if_pos (by omega)]
 · rw [if_neg h]
   by_cases h2 : j < m
   · rw [if_pos h2, if_pos (by omega)]
   · rw [if_neg h2, if_neg (by omega)]
theorem round_vals (k wf st : Nat → Int) (t : Nat) (v0 v1 v2 v3 v4 v5 v6 v7 kt wt : Int) (hk : k t = kt) (hw : wf t = wt)
 (h : v0 = rounds k wf st t 0 ∧ v1 = rounds k wf st t 1 ∧ v2 = rounds k wf st t 2 ∧ v3 = rounds k wf st t 3)
 (h2 : v4 = rounds k wf st t 4 ∧ v5 = rounds k wf st t 5 ∧ v6 = rounds k wf st t 6 ∧ v7 = rounds k wf st t 7) :
 (((v7 + S1 v4 + ch v4 v5 v6 + kt + wt) % 4294967296 + (S0 v0 + mj v0 v1 v2) % 4294967296) % 4294967296 = rounds k wf st (t + 1) 0 ∧ v0 = rounds k wf st (t + 1) 1 ∧ v1 = rounds k wf st (t + 1) 2 ∧ v2 = rounds k wf st (t + 1) 3) ∧
 (v3 + (v7 + S1 v4 + ch v4 v5 v6 + kt + wt) % 4294967296) % 4294967296 = rounds k wf st (t + 1) 4 ∧ v4 = rounds k wf st (t + 1) 5 ∧ v5 = rounds k wf st (t + 1) 6 ∧ v6 = rounds k wf st (t + 1) 7 := by
 obtain ⟨h0, h1, h2', h3⟩ := h
 obtain ⟨h4, h5, h6, h7⟩ := h2
 have hp : rp k wf t (rounds k wf st t) = (v7 + S1 v4 + ch v4 v5 v6 + kt + wt) % 4294967296 := by
  unfold rp
  rw [← h7, ← h4, ← h5, ← h6, hk, hw]
  unfold ad
  simp only [IntKind.wrap_u32']
  omega
 have hq : rq (rounds k wf st t) = (S0 v0 + mj v0 v1 v2) % 4294967296 := by
  unfold rq
  rw [← h0, ← h1, ← h2']
  unfold ad
  simp only [IntKind.wrap_u32']
 refine ⟨⟨?_, h0, h1, h2'⟩, ?_, h4, h5, h6⟩
 · show _ = ad (rp k wf t (rounds k wf st t)) (rq (rounds k wf st t))
   rw [hp, hq]; unfold ad; rw [IntKind.wrap_u32']
 · show _ = ad (rounds k wf st t 3) (rp k wf t (rounds k wf st t))
   rw [hp, ← h3]; unfold ad; rw [IntKind.wrap_u32']
theorem built8 (v0 v1 v2 v3 v4 v5 v6 v7 : Int) : Tryz.prog.built 180 [(0, .int .u32 v0), (1, .int .u32 v1), (2, .int .u32 v2), (3, .int .u32 v3), (4, .int .u32 v4), (5, .int .u32 v5), (6, .int .u32 v6), (7, .int .u32 v7)] = some #[.int .u32 v0, .int .u32 v1, .int .u32 v2, .int .u32 v3, .int .u32 v4, .int .u32 v5, .int .u32 v6, .int .u32 v7] := by kernel_rfl
theorem wpList_build8 {ops : Array Oper} {rest : List Oper} {o : Oper} {a : Act} {w : World} {Q : Exit → Act → World → Prop} (hg : o.guard = none) (n0 n1 n2 n3 n4 n5 n6 n7 : Nat)
 (ho : o.op = .build 180 #[(0, .tmp n0), (1, .tmp n1), (2, .tmp n2), (3, .tmp n3), (4, .tmp n4), (5, .tmp n5), (6, .tmp n6), (7, .tmp n7)]) (v0 v1 v2 v3 v4 v5 v6 v7 : Int) (h0 : a.eval (.tmp n0) = .int .u32 v0) (h1 : a.eval (.tmp n1) = .int .u32 v1) (h2 : a.eval (.tmp n2) = .int .u32 v2) (h3 : a.eval (.tmp n3) = .int .u32 v3) (h4 : a.eval (.tmp n4) = .int .u32 v4) (h5 : a.eval (.tmp n5) = .int .u32 v5) (h6 : a.eval (.tmp n6) = .int .u32 v6) (h7 : a.eval (.tmp n7) = .int .u32 v7)
 (C : Array Value) (hC : #[.int .u32 v0, .int .u32 v1, .int .u32 v2, .int .u32 v3, .int .u32 v4, .int .u32 v5, .int .u32 v6, .int .u32 v7] = C) (h : wpList Tryz.prog ops Q rest (a.put o.dst (.agg C)) w) : wpList Tryz.prog ops Q (o :: rest) a w := by
 refine wpList_buildTo hg 180 _ ho _ rfl C ?_ h
 simp only [List.map_toArray, List.map_cons, List.map_nil, h0, h1, h2, h3, h4, h5, h6, h7, ← hC]
 exact built8 v0 v1 v2 v3 v4 v5 v6 v7
/-- A state behind 64 rounds with the words wf. -/
def mixS (wf st : Nat → Int) : Nat → Int := fun i => ad (rounds K wf st 64 i) (st i)
set_option maxHeartbeats 2000000 in
theorem mixed_any {W : World} (st wf : Nat → Int) (w : World) (q : Q W w) (hG : GL W) (wst : ∀ i, Wd (st i)) (wwf : ∀ i, Wd (wf i)) :
 Calls Tryz.prog 130 #[arr .u32 8 st, arr .u32 64 wf] w fun e w' => e = .returned (arr .u32 8 (mixS wf st)) ∧ Q W w' := by
 have hmk := al8
 have hz := q.size
 have hG1 := hG.lt
 have I0 : Hid (∀ t0 t1 t2, MI W w.heap.size (w.heap.size + 1) (w.heap.size + 2) st wf (((w.alloc (.cells (cl .u32 8 st).toArray t0)).alloc (.cells (cl .u32 64 wf).toArray t1)).alloc (.cells (Array.replicate 8 (.int .u32 0)) t2))) := by
  intro t0 t1 t2
  have s1 : (w.alloc (.cells (cl .u32 8 st).toArray t0)).heap.size = w.heap.size + 1 := by simp
  have s2 : ((w.alloc (.cells (cl .u32 8 st).toArray t0)).alloc (.cells (cl .u32 64 wf).toArray t1)).heap.size = w.heap.size + 2 := by simp
  have r0 := Row.boxed .u32 w 8 st t0
  have f0 := made_frozen w (cl .u32 8 st).toArray t0
  have r1 := Row.boxed .u32 (w.alloc (.cells (cl .u32 8 st).toArray t0)) 64 wf t1
  have th := Row.there0 (w := (w.alloc (.cells (cl .u32 8 st).toArray t0)).alloc (.cells (cl .u32 64 wf).toArray t1)) (n := 8) (v := .int .u32 0) (t := t2)
  rw [s1] at r1
  rw [s2] at th
  have q3 : Q W (((w.alloc (.cells (cl .u32 8 st).toArray t0)).alloc (.cells (cl .u32 64 wf).toArray t1)).alloc (.cells (Array.replicate 8 (.int .u32 0)) t2)) := ((q.alloc _).alloc _).alloc _
  refine ⟨(r0.q ((Q.refl _).alloc _) (by omega)).q ((Q.refl _).alloc _) (by omega), r1.q ((Q.refl _).alloc _) (by omega), (hG.q q3).k, fun j => ?_, th, q3⟩
  rw [Q.frozen ((Q.refl _).alloc _) (by show w.heap.size < _; omega), Q.frozen ((Q.refl _).alloc _) (by show w.heap.size < _; omega)]
  exact f0 j
 have HWS := Lib.hid wst
 have HWW := Lib.hid wwf
 clear q hG wst wwf
 unfold arr
 generalize (cl .u32 8 st).toArray = A at *
 generalize (cl .u32 64 wf).toArray = B at *
 go_enter Tryz.func130, Tryz.ntmps130
 go_wp2_with fail
 have I1 : Hid (MI W w.heap.size (w.heap.size + 1) (w.heap.size + 2) st wf (((w.alloc (Obj.cells A 180)).alloc (Obj.cells B 185)).alloc (Obj.cells #[Value.int IntKind.u32 0, Value.int IntKind.u32 0, Value.int IntKind.u32 0, Value.int IntKind.u32 0, Value.int IntKind.u32 0, Value.int IntKind.u32 0, Value.int IntKind.u32 0, Value.int IntKind.u32 0] 180))) := I0.out 180 185 180
 clear hmk I0
 generalize h3 : ((w.alloc (Obj.cells A 180)).alloc (Obj.cells B 185)).alloc (Obj.cells #[Value.int IntKind.u32 0, Value.int IntKind.u32 0, Value.int IntKind.u32 0, Value.int IntKind.u32 0, Value.int IntKind.u32 0, Value.int IntKind.u32 0, Value.int IntKind.u32 0, Value.int IntKind.u32 0] 180) = w3
 rw [h3] at I1
 clear h3
 have hz0 : W.heap.size ≤ w.heap.size := by omega
 have hz2 : W.heap.size ≤ w.heap.size + 2 := by omega
 have hn1 : w.heap.size + 1 ≠ w.heap.size := by omega
 have hn2 : 1 ≠ w.heap.size := by omega
 have d0 := I1.out.rs.at0 0 (by omega)
 have d1 := I1.out.rs.at0 1 (by omega)
 have d2 := I1.out.rs.at0 2 (by omega)
 have d3 := I1.out.rs.at0 3 (by omega)
 have I2 : Hid (MI W w.heap.size (w.heap.size + 1) (w.heap.size + 2) st wf w3.drew) := I1.out.drewN 1
 have d4 := I2.out.rs.at0 4 (by omega)
 have d5 := I2.out.rs.at0 5 (by omega)
 have d6 := I2.out.rs.at0 6 (by omega)
 have d7 := I2.out.rs.at0 7 (by omega)
 have I3 : Hid (MI W w.heap.size (w.heap.size + 1) (w.heap.size + 2) st wf w3.drew.drew) := I2.out.drewN 1
 clear I1 I2
 as_aux_lemma =>
 go_region
 go_wp2_with fail
 as_aux_lemma =>
 go_region
 clear d0 d1 d2 d3 d4 d5 d6 d7
 as_aux_lemma =>
 go_wp2_with fail
 go_loopw [5, 6, 7, 8, 9, 10, 11, 12, 34] (fun s0 s1 s2 s3 s4 s5 s6 s7 i wr => ∃ (t : Nat) (v0 v1 v2 v3 v4 v5 v6 v7 : Int), t ≤ 64 ∧ s0 = .int .u32 v0 ∧ s1 = .int .u32 v1 ∧ s2 = .int .u32 v2 ∧ s3 = .int .u32 v3 ∧ s4 = .int .u32 v4 ∧ s5 = .int .u32 v5 ∧ s6 = .int .u32 v6 ∧ s7 = .int .u32 v7 ∧ i = .int .i64 t ∧ Hid (MI W w.heap.size (w.heap.size + 1) (w.heap.size + 2) st wf wr ∧ (v0 = rounds K wf st t 0 ∧ v1 = rounds K wf st t 1 ∧ v2 = rounds K wf st t 2 ∧ v3 = rounds K wf st t 3) ∧ v4 = rounds K wf st t 4 ∧ v5 = rounds K wf st t 5 ∧ v6 = rounds K wf st t 6 ∧ v7 = rounds K wf st t 7)) (fun _ _ _ _ _ _ _ _ i _ => 64 - (intOf i).toNat)
 case atStart => exact ⟨0, _, _, _, _, _, _, _, _, by omega, rfl, rfl, rfl, rfl, rfl, rfl, rfl, rfl, rfl, I3.out, ⟨rfl, rfl, rfl, rfl⟩, rfl, rfl, rfl, rfl⟩
 case round =>
  obtain ⟨t, v0, v1, v2, v3, v4, v5, v6, v7, ht, rfl, rfl, rfl, rfl, rfl, rfl, rfl, rfl, rfl, I⟩ := hrel
  clear I3
  as_aux_lemma =>
  by_cases hlt : t < 64
  · have t0 : (0 : Int) ≤ (t : Int) := by omega
    have t1 : (t : Int) < 64 := by omega
    have tt : decide ((t : Int) < 64) = true := by simp; omega
    obtain ⟨kt, hkt⟩ : ∃ kt, K t = kt := ⟨_, rfl⟩
    obtain ⟨wt, hwt⟩ : ∃ wt, wf t = wt := ⟨_, rfl⟩
    have ek := I.out.1.rk.at0 t hlt
    have ew := I.out.1.rw.at0 t hlt
    rw [hkt] at ek
    rw [hwt] at ew
    have HF := Lib.hid <| round_vals K wf st t v0 v1 v2 v3 v4 v5 v6 v7 kt wt hkt hwt I.out.2.1 I.out.2.2
    obtain ⟨⟨a0, b0⟩, a4, b4⟩ : Wd v0 ∧ Wd v4 := by
     have wV := rounds_wd K wf st HWS.out t
     rw [I.out.2.1.1, I.out.2.2.1]
     exact ⟨wV 0, wV 4⟩
    have HI := Lib.hid I.out.1
    clear hkt hwt I
    have HX : Hid (bits BinOp.xor IntKind.u32 (bits BinOp.and IntKind.u32 v4 v5) (bits BinOp.and IntKind.u32 (bits BinOp.xor IntKind.u32 (if IntKind.u32.signed = true then -1 else IntKind.u32.max) v4) v6) = ch v4 v5 v6) := by
     show bits BinOp.xor IntKind.u32 (bits BinOp.and IntKind.u32 v4 v5) (bits BinOp.and IntKind.u32 (bits BinOp.xor IntKind.u32 IntKind.u32.max v4) v6) = ch v4 v5 v6
     rw [xor_max v4 a4 b4]; rfl
    have HF2 := HF.out
    rw [← HX.out] at HF2
    have HF := Lib.hid HF2
    clear HF2 HX
    have r1 : bits BinOp.xor IntKind.u32 (bits BinOp.xor IntKind.u32 (rot v4 6) (rot v4 11)) (rot v4 25) = S1 v4 := rfl
    have r3 : bits BinOp.xor IntKind.u32 (bits BinOp.xor IntKind.u32 (rot v0 2) (rot v0 13)) (rot v0 22) = S0 v0 := rfl
    have r4 : bits BinOp.xor IntKind.u32 (bits BinOp.xor IntKind.u32 (bits BinOp.and IntKind.u32 v0 v1) (bits BinOp.and IntKind.u32 v0 v2)) (bits BinOp.and IntKind.u32 v1 v2) = mj v0 v1 v2 := rfl
    as_aux_lemma =>
    go_wp2_with fail
    go_quiet ((go_at_call 148; exact Calls.quiet_of (right_q _ _ _ a4 b4 (by omega) (by omega))))
    rename_i nq
    clear ek ew r1
    as_aux_lemma =>
    go_wp2_with (go_at_call 148; refine (right_any _ _ _ a0 b0 (by omega) (by omega)).mono ?_; rintro e w' ⟨rfl, rfl⟩)
    exact ⟨⟨t + 1, _, _, _, _, _, _, _, _, by omega, rfl, rfl, rfl, rfl, rfl, rfl, rfl, rfl, by go_num, HI.out.drewN nq, HF.out⟩, by simp [intOf]; omega⟩
  · have ht64 : Hid (t = 64) := by show _ = _; omega
    have t0 : ¬ ((t : Int) < 64) := by omega
    have tt : decide ((t : Int) < 64) = false := by simp; omega
    obtain ⟨V, hV⟩ : ∃ V, rounds K wf st t = V := ⟨_, rfl⟩
    have eA : #[Value.int IntKind.u32 v0, Value.int IntKind.u32 v1, Value.int IntKind.u32 v2, Value.int IntKind.u32 v3, Value.int IntKind.u32 v4, Value.int IntKind.u32 v5, Value.int IntKind.u32 v6, Value.int IntKind.u32 v7] = (cl .u32 8 V).toArray := by
     obtain ⟨_, ⟨rfl, rfl, rfl, rfl⟩, rfl, rfl, rfl, rfl⟩ := I.out
     rw [hV]; rfl
    have HX := Lib.hid (fun w => idx8 w V)
    have J0 : Hid (MI W w.heap.size (w.heap.size + 1) (w.heap.size + 2) (mx V st 0) wf wr) := I.out.1
    have HV : Hid (∀ i, i < 8 → ad (V i) (st i) = mixS wf st i) := by
     intro i _
     unfold mixS
     rw [← hV, ht64.out]
    clear I hV ht64
    as_aux_lemma =>
    go_wp2_with (refine wpList_build8 rfl _ _ _ _ _ _ _ _ rfl v0 v1 v2 v3 v4 v5 v6 v7 rfl rfl rfl rfl rfl rfl rfl rfl (cl .u32 8 V).toArray eA ?_)
    clear eA
    go_loopw [106] (fun i wr => ∃ m : Nat, m ≤ 8 ∧ i = .int .i64 m ∧ Hid (MI W w.heap.size (w.heap.size + 1) (w.heap.size + 2) (mx V st m) wf wr)) (fun i _ => 8 - (intOf i).toNat)
    case atStart => exact ⟨0, by omega, rfl, J0⟩
    case round =>
     obtain ⟨m, hm, rfl, J⟩ := hrel
     clear J0
     as_aux_lemma =>
     by_cases hl2 : m < 8
     · have m0 : (0 : Int) ≤ (m : Int) := by omega
       have m1 : (m : Int) < 8 := by omega
       have tm : decide ((m : Int) < 8) = true := by simp; omega
       have hx := HX.out wr m hl2
       have cm : wr.cell? ⟨w.heap.size, m, none⟩ = some (.int .u32 (st m)) := by
        have := J.out.rs.at0 m hl2
        rwa [show mx V st m m = st m by unfold mx; rw [if_neg (by omega)]] at this
       have fm := J.out.fz m
       have J2 := Lib.hid (J.out.set hn1 hn2 hz0 m hl2 (ad (V m) (st m)))
       have e : Hid ((st m + V m) % 4294967296 = ad (V m) (st m)) := by show _ = _; unfold ad; rw [IntKind.wrap_u32']; omega
       clear J
       go_wp2_with fail
       rw [e.out]
       refine ⟨⟨m + 1, by omega, by go_num, ?_⟩, by simp [intOf]; omega⟩
       have J3 := J2.out
       rw [show upd (mx V st m) m (ad (V m) (st m)) = mx V st (m + 1) from funext fun j => mx_step V st m j] at J3
       exact J3
     · obtain rfl : m = 8 := by omega
       have HR := Lib.hid J.out.rs.range
       have HT : Hid (wr.there (w.heap.size + 1 + 1) 0 8) := J.out.th
       have HL := Lib.hid (load8 (Row.stored (k := .u32) (f := mx V st 8) HT.out))
       have HQ := Lib.hid (Q.setCells J.out.q (show W.heap.size ≤ w.heap.size + 1 + 1 from hz2) 0 (cl .u32 8 (mx V st 8)))
       have HC := Lib.hid (cl_len .u32 8 (mx V st 8))
       have HO := Lib.hid (cl_one .u32 8 (mx V st 8))
       have HE : Hid (cl .u32 8 (mx V st 8) = cl .u32 8 (mixS wf st)) := by
        show _ = _
        refine cl_congr _ _ fun i hi => ?_
        unfold mx
        rw [if_pos hi, HV.out i hi]
       clear J HX
       generalize hC : cl .u32 8 (mx V st 8) = C at *
       have HT2 : Hid (wr.there (w.heap.size + 1 + 1) 0 C.toArray.size) := by show wr.there (w.heap.size + 1 + 1) 0 C.length; rw [HC.out]; exact HT.out
       have HI2 : Hid ((Tryz.prog.info? 180).map (·.size) = some C.toArray.size) := by show _ = some C.length; rw [HC.out]; exact info8
       have HI3 : Hid ((Tryz.prog.info? 180).map (·.size) = some C.length) := by rw [HC.out]; exact info8
       go_wp2_with (with_reducible (show wpList _ _ _ (⟨_, Op.load 180 _, _, _, _, _⟩ :: _) _ _); refine wpList_load_mid rfl 180 _ rfl w.heap.size 0 rfl C _ HR.out Tryz.underlying180 rfl HI3.out ?_; refine wpList_store_mid rfl 180 _ _ rfl (w.heap.size + 1 + 1) 0 C.toArray rfl rfl HT2.out HI2.out HO.out ?_)
       try simp only [Exit.inBlock, Exit.then]
       refine bodyPost_ret (v := Value.agg C.toArray) ?_ ?_ ?_
       · exact results_cell rfl rfl HL.out
       · rfl
       · exact ⟨by rw [HE.out], HQ.out⟩
def sf (s : ByteArray) (j : Nat) : Int := (sb s).getD j 0
theorem getD_byts {l : List Int} (h : ∀ x ∈ l, 0 ≤ x ∧ x ≤ 255) (j : Nat) : 0 ≤ l.getD j 0 ∧ l.getD j 0 ≤ 255 := by
 rw [List.getD_eq_getElem?_getD]
 by_cases hj : j < l.length
 · rw [List.getElem?_eq_getElem hj]; exact h _ (List.getElem_mem hj)
 · rw [List.getElem?_eq_none (by omega)]; simp
theorem sb_byts (s : ByteArray) : ∀ x ∈ sb s, 0 ≤ x ∧ x ≤ 255 := by
 intro x hx
 unfold sb at hx
 obtain ⟨b, _, rfl⟩ := List.mem_map.1 hx
 have := b.toNat_lt
 omega
theorem sb_append (a b : ByteArray) : sb (a ++ b) = sb a ++ sb b := by unfold sb; simp
theorem sf_left (a b : ByteArray) (j : Nat) (h : j < a.size) : sf (a ++ b) j = sf a j := by
 unfold sf
 rw [sb_append, List.getD_eq_getElem?_getD, List.getD_eq_getElem?_getD, List.getElem?_append_left (by rw [sb_len]; exact h)]
def blkF (f : Nat → Int) : Nat → Nat → Int
 | 0 => I0
 | m + 1 => stepS K (blkF f m) (fun j => f (64 * m + j))
theorem blkF_wd (f : Nat → Int) : ∀ m i, Wd (blkF f m i)
 | 0 => I0_wd
 | m + 1 => stepS_wd _ _ _
theorem blk_eq (s : ByteArray) : ∀ m, blk s m = blkF (pb s) m
 | 0 => rfl
 | m + 1 => by show stepS K (blk s m) _ = stepS K (blkF (pb s) m) _; rw [blk_eq s m]
theorem wrow_congr {a b : Nat → Int} (h : ∀ j, j < 64 → a j = b j) : ∀ k, wrow a k = wrow b k
 | 0 => by
  funext t
  show w16 a 16 t = w16 b 16 t
  unfold w16 wd
  split
  · rw [h (4 * t) (by omega), h (4 * t + 1) (by omega), h (4 * t + 2) (by omega), h (4 * t + 3) (by omega)]
  · rfl
 | k + 1 => by show upd (wrow a k) _ _ = upd (wrow b k) _ _; rw [wrow_congr h k]
theorem stepS_congr (k st : Nat → Int) {a b : Nat → Int} (h : ∀ j, j < 64 → a j = b j) : stepS k st a = stepS k st b := by unfold stepS; rw [wrow_congr h 48]
theorem blkF_congr {f g : Nat → Int} : ∀ m, (∀ j, j < 64 * m → f j = g j) → blkF f m = blkF g m
 | 0, _ => rfl
 | m + 1, h => by
  show stepS K (blkF f m) _ = stepS K (blkF g m) _
  rw [blkF_congr m fun j hj => h j (by omega)]
  exact stepS_congr _ _ fun j hj => h _ (by omega)
theorem mix_step (f : Nat → Int) (m : Nat) (r : Nat → Int) (h : ∀ j, j < 64 → r j = f (64 * m + j)) : mixS (wrow r 48) (blkF f m) = blkF f (m + 1) := by
 show _ = stepS K (blkF f m) _
 rw [← stepS_congr K (blkF f m) h]
 rfl
/-- A Hash at g that has taken c bytes of T into its state, and counts all of them. -/
structure HC (w : World) (g : Nat) (T : ByteArray) (c : Nat) : Prop where
 st : Row .u32 w g 0 8 (blkF (sf T) (c / 64))
 rest : ∃ r, Byts r ∧ Row .u8 w g 8 64 r ∧ ∀ j, j < c % 64 → r j = sf T (64 * (c / 64) + j)
 tk : w.cell? ⟨g, 72, none⟩ = some (.int .i64 T.size)
 fz : ∀ j, w.frozen? ⟨g, j, none⟩ = false
/-- A Hash at g that took s. -/
def HR (w : World) (g : Nat) (s : ByteArray) : Prop := HC w g s s.size
theorem HC.lt {w : World} {g : Nat} {T : ByteArray} {c : Nat} (h : HC w g T c) : g < w.heap.size := h.st.lt (by omega)
theorem Row.below {k : IntKind} {w w' : World} {B g off n : Nat} {f : Nat → Int} (h : Row k w g off n f) (q : Below B w w') (hg : g < B) : Row k w' g off n f :=
 fun i hi => by rw [q.cell (p := ⟨g, off + i, none⟩) hg]; exact h i hi
theorem HC.below {w w' : World} {B g : Nat} {T : ByteArray} {c : Nat} (h : HC w g T c) (q : Below B w w') (hg : g < B) : HC w' g T c := by
 obtain ⟨r, h1, h2, h3⟩ := h.rest
 exact ⟨Row.below h.st q hg, ⟨r, h1, Row.below h2 q hg, h3⟩, by rw [q.cell (p := ⟨g, 72, none⟩) hg]; exact h.tk, fun j => by rw [q.frozen (p := ⟨g, j, none⟩) hg]; exact h.fz j⟩
theorem HC.q {w w' : World} {g : Nat} {T : ByteArray} {c : Nat} (h : HC w g T c) (q : Q w w') : HC w' g T c := h.below q h.lt
/-- The cells of a Hash. -/
def hcl (st r : Nat → Int) (n : Int) : List Value := cl .u32 8 st ++ (cl .u8 64 r ++ [.int .i64 n])
theorem hcl_len (st r : Nat → Int) (n : Int) : (hcl st r n).length = 73 := by unfold hcl; rw [List.length_append, List.length_append, cl_len, cl_len]; rfl
theorem hcl_one (st r : Nat → Int) (n : Int) : (hcl st r n).toArray.all (·.oneCell') = true := all_oneCell_toArray (by
 intro v hv
 unfold hcl cl at hv
 simp only [List.mem_append, List.mem_map, List.mem_singleton] at hv
 rcases hv with ⟨i, _, rfl⟩ | ⟨i, _, rfl⟩ | rfl <;> rfl)
theorem hcl_st (st r : Nat → Int) (n : Int) (i : Nat) (h : i < 8) : (hcl st r n)[i]? = some (.int .u32 (st i)) := by
 unfold hcl
 rw [List.getElem?_append_left (by rw [cl_len]; exact h)]
 exact cl_get _ _ _ _ h
theorem hcl_r (st r : Nat → Int) (n : Int) (i : Nat) (h : i < 64) : (hcl st r n)[8 + i]? = some (.int .u8 (r i)) := by
 unfold hcl
 rw [List.getElem?_append_right (by rw [cl_len]; omega), cl_len, List.getElem?_append_left (by rw [cl_len]; omega), show 8 + i - 8 = i by omega]
 exact cl_get _ _ _ _ h
theorem hcl_n (st r : Nat → Int) (n : Int) : (hcl st r n)[72]? = some (.int .i64 n) := by
 unfold hcl
 rw [List.getElem?_append_right (by rw [cl_len]; omega), cl_len, List.getElem?_append_right (by rw [cl_len]; omega), cl_len]
 rfl
theorem HC.of_range {w : World} {g : Nat} {T : ByteArray} {c : Nat} {r : Nat → Int} (h : w.rangeAt g 0 (hcl (blkF (sf T) (c / 64)) r T.size)) (hr : Byts r) (e : ∀ j, j < c % 64 → r j = sf T (64 * (c / 64) + j)) (hf : ∀ j, w.frozen? ⟨g, j, none⟩ = false) : HC w g T c := by
 refine ⟨fun i hi => h i _ (hcl_st _ _ _ i hi), ⟨r, hr, fun i hi => ?_, e⟩, ?_, hf⟩
 · have := h (8 + i) _ (hcl_r _ _ _ i hi)
   rwa [Nat.zero_add] at this
 · exact h 72 _ (hcl_n _ _ _)
theorem HC.range {w : World} {g : Nat} {T : ByteArray} {c : Nat} (h : HC w g T c) : ∃ r, Byts r ∧ (∀ j, j < c % 64 → r j = sf T (64 * (c / 64) + j)) ∧ w.rangeAt g 0 (hcl (blkF (sf T) (c / 64)) r T.size) := by
 obtain ⟨r, h1, h2, h3⟩ := h.rest
 refine ⟨r, h1, h3, fun j v hv => ?_⟩
 have hj : j < 73 := by have := (List.getElem?_eq_some_iff.1 hv).1; rwa [hcl_len] at this
 by_cases a : j < 8
 · rw [hcl_st _ _ _ _ a] at hv; rw [← hv]; exact h.st j a
 · by_cases b : j < 72
   · obtain ⟨i, rfl⟩ : ∃ i, j = 8 + i := ⟨j - 8, by omega⟩
     rw [hcl_r _ _ _ _ (by omega)] at hv
     rw [← hv, Nat.zero_add]
     exact h2 i (by omega)
   · obtain rfl : j = 72 := by omega
     rw [hcl_n] at hv; rw [← hv]; exact h.tk
def Z73 : Array Value := (hcl (fun _ => 0) (fun _ => 0) 0).toArray
def z73 : Obj := .cells Z73 183
theorem zv73 (w : World) : (zeroValue 183).run Tryz.prog w = .ok (.agg Z73) w := by kernel_rfl
theorem info73 : (Tryz.prog.info? 183).map (·.size) = some 73 := by kernel_rfl
theorem there73 (w : World) : (w.alloc z73).there w.heap.size 0 73 := by
 intro j hj
 refine ⟨?_, made_frozen w _ _ _⟩
 unfold z73 Z73
 rw [World.cell?_alloc_at _ _ _ _ rfl, Nat.zero_add]
 rw [List.getElem?_toArray, List.getElem?_eq_getElem (by rw [hcl_len]; exact hj)]
 rfl
theorem built73 : Tryz.prog.built 183 [(0, .agg (cl .u32 8 I0).toArray)] = some (hcl I0 (fun _ => 0) 0).toArray := by kernel_rfl
theorem wpList_build73 {ops : Array Oper} {rest : List Oper} {o : Oper} {a : Act} {w : World} {Q : Exit → Act → World → Prop} (hg : o.guard = none) (n : Nat)
 (ho : o.op = .build 183 #[(0, .tmp n)]) (A C : Array Value) (h0 : a.eval (.tmp n) = .agg A) (hb : Tryz.prog.built 183 [(0, .agg A)] = some C)
 (h : wpList Tryz.prog ops Q rest (a.put o.dst (.agg C)) w) : wpList Tryz.prog ops Q (o :: rest) a w := by
 refine wpList_buildTo hg 183 _ ho _ rfl C ?_ h
 simp only [List.map_toArray, List.map_cons, List.map_nil, h0]
 exact hb
theorem new_any {W : World} (w : World) (q : Q W w) (hG : GL W) : Calls Tryz.prog 107 #[] w fun e w' => ∃ g, e = .returned (.pointer (some ⟨g, 0, none⟩)) ∧ HR w' g ByteArray.empty ∧ W.heap.size ≤ g ∧ Q W w' := by
 have HRG := Lib.hid (hG.q q).i0.range
 have HC8 := Lib.hid (cl_len .u32 8 I0)
 have HB := Lib.hid built73
 have HF : Hid (∀ t, HR (w.alloc (.cells (hcl I0 (fun _ => 0) 0).toArray t)) w.heap.size ByteArray.empty) := by
  intro t
  refine HC.of_range (r := fun _ => 0) (fun j v hv => ?_) (fun j => ⟨Int.le_refl 0, show (0 : Int) ≤ 255 by decide⟩) (fun j hj => by simp at hj) (made_frozen w _ _)
  have hv' : (hcl I0 (fun _ => 0) 0)[j]? = some v := hv
  rw [World.cell?_alloc_at _ _ _ _ rfl, Nat.zero_add, ← hv']
  simp
 have HQ : Hid (∀ o, Q W (w.alloc o)) := fun o => q.alloc o
 have hz := q.size
 clear q hG
 generalize hcl I0 (fun _ => 0) 0 = C at *
 generalize cl .u32 8 I0 = C8 at *
 go_enter Tryz.func107, Tryz.ntmps107
 go_wp2_with (with_reducible (show wpList _ _ _ (⟨_, Op.load 180 _, _, _, _, _⟩ :: _) _ _); refine wpList_load_mid rfl 180 _ rfl 0 0 rfl C8 _ HRG.out Tryz.underlying180 rfl (by rw [HC8.out]; exact info8) ?_; refine wpList_build73 rfl _ rfl _ _ rfl HB.out ?_)
 go_ret
 exact ⟨w.heap.size, rfl, HF.out _, hz, HQ.out _⟩
theorem copy_any (g : Nat) (s : ByteArray) (w : World) (h : HR w g s) : Calls Tryz.prog 132 #[.pointer (some ⟨g, 0, none⟩)] w fun e w' => e = .returned (.pointer (some ⟨w.heap.size, 0, none⟩)) ∧ HR w' w.heap.size s ∧ Q w w' := by
 obtain ⟨r, hr, he, hra⟩ := HC.range h
 have HRA := Lib.hid hra
 have hmk := zv73
 have HT := Lib.hid (there73 w)
 have HF : Hid (HR ((w.alloc z73).setCells w.heap.size 0 (hcl (blkF (sf s) (s.size / 64)) r s.size)) w.heap.size s) := by
  refine HC.of_range (World.rangeAt_setCells_same _ _ _ _ (by rw [hcl_len]; exact there73 w)) hr he fun j => ?_
  rw [World.frozen?_setCells]
  exact made_frozen w _ _ _
 have HQ : Hid (Q w ((w.alloc z73).setCells w.heap.size 0 (hcl (blkF (sf s) (s.size / 64)) r s.size))) := Q.setCells ((Q.refl w).alloc _) (Nat.le_refl _) _ _
 have HL := Lib.hid (hcl_len (blkF (sf s) (s.size / 64)) r s.size)
 have HO := Lib.hid (hcl_one (blkF (sf s) (s.size / 64)) r s.size)
 clear h hr he hra
 generalize hcl (blkF (sf s) (s.size / 64)) r s.size = C at *
 have HI3 : Hid ((Tryz.prog.info? 183).map (·.size) = some C.length) := by rw [HL.out]; exact info73
 have HI2 : Hid ((Tryz.prog.info? 183).map (·.size) = some C.toArray.size) := HI3
 have HT2 : Hid ((w.alloc z73).there w.heap.size 0 C.toArray.size) := by show (w.alloc z73).there w.heap.size 0 C.length; rw [HL.out]; exact HT.out
 go_enter Tryz.func132, Tryz.ntmps132
 go_wp2_with (with_reducible (show wpList _ _ _ (⟨_, Op.load 183 _, _, _, _, _⟩ :: _) _ _); refine halt ?_)
 refine wpList_load_mid rfl 183 _ rfl g 0 rfl C _ HRA.out Tryz.underlying183 rfl HI3.out ?_
 refine wpList_allocZ rfl 183 rfl Z73 hmk ?_
 refine wpList_store_mid rfl 183 _ _ rfl w.heap.size 0 C.toArray (by kernel_rfl) (by kernel_rfl) HT2.out HI2.out HO.out ?_
 go_wp2_with fail
 go_ret
 exact ⟨rfl, HF.out, HQ.out⟩
/-- What fills n bytes up. -/
def padN (n : Nat) : List Int := [128] ++ List.replicate (zn n) 0 ++ tl (8 * (n : Int)) 8
theorem dv_eq (n : Int) (h : 0 ≤ n) : ∀ j, dv n j = n / 2 ^ (8 * j)
 | 0 => by simp [dv]
 | j + 1 => by
  show dv n j / 256 = _
  rw [dv_eq n h j, show 8 * (j + 1) = 8 * j + 8 by omega, Int.pow_add, show (2 : Int) ^ 8 = 256 by rfl]
  rw [Int.ediv_ediv_of_nonneg (by exact Int.pow_nonneg (by omega))]
theorem padN_len (n : Nat) : (padN n).length = zn n + 9 := by unfold padN; rw [List.length_append, tl_len, List.length_append, List.length_replicate]; simp; omega
theorem padN_byts (n : Nat) : ∀ x ∈ padN n, 0 ≤ x ∧ x ≤ 255 := by
 intro x hx
 unfold padN at hx
 simp only [List.mem_append, List.mem_singleton, List.mem_replicate] at hx
 rcases hx with (rfl | ⟨_, rfl⟩) | h
 · omega
 · omega
 · exact byts_dv _ _ x h
set_option maxHeartbeats 1000000 in
theorem padding_any {W : World} (n : Nat) (w : World) (q : Q W w) (hn : n ≤ 1000000000) :
 Calls Tryz.prog 133 #[.int .i64 n] w fun e w' => e = .returned (.string (strOfNums (padN n))) ∧ Q W w' := by
 obtain ⟨i0, hi0, hz0, hz1, hz2⟩ := info_parts infoB
 obtain ⟨z, hz⟩ : ∃ z, zn n = z := ⟨_, rfl⟩
 have hz64 : z ≤ 63 := by unfold zn at hz; omega
 have ez : (119 - (n : Int) % 64) % 64 = (z : Int) := by unfold zn at hz; omega
 have hsz := q.size
 have hmk := run_make (P := Tryz.prog) w 121 5 i0 (.int .u8 0) Tryz.underlying121 hi0 hz0 .i64 .i64 (1 + (z : Int)) (9 + (z : Int)) (by omega) (by omega) (by rw [hz2]; omega) (by omega)
 rw [hz1, Nat.mul_one, show (1 + (z : Int)).toNat = 1 + z by omega, show (9 + (z : Int)).toNat = 9 + z by omega] at hmk
 have hMs : madeCells (Value.int IntKind.u8 0).cells (9 + z) = (vals .u8 (List.replicate (9 + z) 0)).toArray := by
  apply Array.ext_getElem?
  intro j
  unfold madeCells vals
  by_cases hj : j < 9 + z
  · simp [Value.cells, hj, Nat.mod_one]
  · simp [Value.cells, hj]
 rw [hMs] at hmk
 have hM0 : (vals .u8 (List.replicate (9 + z) 0)).toArray[0]? = some (.int .u8 0) := by rw [show 9 + z = (8 + z) + 1 by omega]; rfl
 obtain ⟨PZ, hPZ⟩ : ∃ PZ, [128] ++ List.replicate z (0 : Int) = PZ := ⟨_, rfl⟩
 obtain ⟨L, hL⟩ : ∃ L, 8 * (n : Int) = L := ⟨_, rfl⟩
 have o0 : (w.alloc (.cells ((vals .u8 (List.replicate (9 + z) 0)).toArray.setIfInBounds 0 (.int .u8 128)) 5)).ownsRow W.heap.size 5 1 (.slice (some ⟨w.heap.size, 0, none⟩) (1 + z) (9 + z)) (1 + z) (vals .u8 (PZ ++ tl L 0)) := by
  refine ⟨?_, .inr ⟨w.heap.size, 9 + z, (vals .u8 (List.replicate (9 + z) 0)).toArray.setIfInBounds 0 (.int .u8 128), rfl, hsz, (show (w.heap.push _)[w.heap.size]? = _ by simp), by omega, by unfold maxLen; omega, ?_, ?_⟩⟩
  · rw [← hPZ]; unfold vals tl; simp; omega
  · unfold vals; simp
  · rw [← hPZ]
    unfold vals tl
    rw [show 9 + z = (8 + z) + 1 by omega, List.replicate_succ, show (1 + z) * 1 = z + 1 by omega]
    simp
 have q0 : Q W (w.alloc (.cells ((vals .u8 (List.replicate (9 + z) 0)).toArray.setIfInBounds 0 (.int .u8 128)) 5)) := q.alloc _
 have HP : Hid (padN n = PZ ++ tl L 8) := by show _ = _; unfold padN; rw [hz, hPZ, hL]
 have HL : Hid (L = (n : Int) * 8) := by show _ = _; omega
 have HZ : Hid (PZ.length = 1 + z) := by show _ = _; rw [← hPZ]; simp; omega
 clear hPZ hL hz q
 generalize hM : (vals .u8 (List.replicate (9 + z) 0)).toArray = M at *
 clear hM hMs
 go_enter Tryz.func133, Tryz.ntmps133
 go_wp2_with fail
 rw [ez]
 clear hmk hM0 ez
 go_loopw [4, 6] (fun v i wr => ∃ (m N g cap : Nat), m ≤ 8 ∧ i = .int .i64 (56 - 8 * (m : Int)) ∧ Hid (N = 1 + z + m) ∧ v = .slice (some ⟨g, 0, none⟩) N cap ∧ wr.ownsRow W.heap.size 5 1 v N (vals .u8 (PZ ++ tl L m)) ∧ Q W wr) (fun _ i _ => (intOf i + 8).toNat)
 case atStart => exact ⟨0, 1 + z, w.heap.size, 9 + z, by omega, rfl, rfl, rfl, o0, q0⟩
 case round =>
  obtain ⟨m, N, g, cap, hm, rfl, HN, rfl, hown, hq⟩ := hrel
  clear o0 q0
  have hszr := hq.size
  have hN1 : N ≤ 80 := by have := HN.out; omega
  by_cases hlt : m < 8
  · obtain ⟨sh, hsh⟩ : ∃ sh : Nat, 56 - 8 * (m : Int) = (sh : Int) ∧ sh = 8 * (7 - m) := ⟨8 * (7 - m), by omega, rfl⟩
    have HSH := Lib.hid hsh.2
    have hs1 : sh ≤ 56 := by omega
    rw [hsh.1]
    have HT : Hid (tl L m ++ [(n : Int) * 8 / 2 ^ sh % 256] = tl L (m + 1)) := by
     show _ = tl L m ++ [dv L (7 - m) % 256]
     rw [dv_eq L (by have := HL.out; omega), HL.out, HSH.out]
    have d0 : 0 ≤ (n : Int) * 8 / 2 ^ sh % 256 := by omega
    have d1 : (n : Int) * 8 / 2 ^ sh % 256 ≤ 255 := by omega
    have HS := Lib.hid hsh.1
    clear hsh
    go_wp2_with (at_builtin; (refine wpList_append_own _ rfl (.tmp 25) (.tmp 30) 121 rfl W.heap.size 5 i0 (.int .u8 0) 1 1 Tryz.underlying121 hi0 hz0 hz1 hz2 rfl (by decide) _ _ _ rfl (hown.alloc _) ⟨wr.heap.size, 0, none⟩ 1 1 [.int .u8 ((n : Int) * 8 / 2 ^ sh % 256)] rfl rfl (cell_one_new _ _ _) (fun x hx => by simp at hx; subst hx; rfl) (by unfold maxLen; omega) (by omega) (by simp; omega) ?_); intro v3 w3 hown3 hgrow3 _hn)
    have hqa : Q W (wr.alloc (.cells #[.int .u8 ((n : Int) * 8 / 2 ^ sh % 256)] 5)) := hq.alloc _
    have hq3 : Q W w3 := Below.grown hqa hgrow3 hqa.size (fun j hj => (hown.lt j hj).1)
    rw [show [Value.int IntKind.u8 ((n : Int) * 8 / 2 ^ sh % 256)] = vals .u8 [(n : Int) * 8 / 2 ^ sh % 256] from rfl, vals_append, List.append_assoc, HT.out] at hown3
    obtain ⟨g3, cap3, rfl⟩ := ownsRow_succ hown3
    clear hgrow3 _hn
    have HS' := HS.out
    go_roundw
    case rel => exact ⟨m + 1, N + 1, g3, cap3, by omega, congrArg (Value.int .i64) (by omega), (show N + 1 = 1 + z + (m + 1) by have := HN.out; omega), rfl, hown3, hq3⟩
    case measure => simp [intOf]; omega
  · obtain rfl : m = 8 := by omega
    have em : 56 - 8 * ((8 : Nat) : Int) = -8 := rfl
    rw [em]
    rw [← HP.out] at hown
    have hown' : wr.ownsRow W.heap.size 5 1 (.slice (some ⟨g, 0, none⟩) N cap) (z + 8 + 1) (vals .u8 (padN n)) := by rw [show z + 8 + 1 = N by have := HN.out; omega]; exact hown
    obtain ⟨g4, cap4, e4, r1, r2, r3, r4, r5, r6⟩ := own_row hown'
    have E4 := Lib.hid e4
    have hlen : (padN n).length = N := by rw [HP.out, List.length_append, tl_len, HZ.out]; have := HN.out; omega
    have hN9 : z + 8 + 1 = N := by have := HN.out; omega
    rw [hN9] at e4 r3
    obtain ⟨rfl, rfl⟩ : g = g4 ∧ cap = cap4 := by simpa using e4
    have hcv := run_convert_bytes_arg (P := Tryz.prog) wr 121 5 Tryz.underlying121 Tryz.underlying5 g 0 N cap (padN n) hlen (fun j hj => r3 j hj) 9 Tryz.underlying9
    clear e4 E4 r1 r2 r3 r4 r5 r6 hown hown' em hN9 hlen
    go_wp2_with fail
    go_ret
    exact ⟨rfl, hq⟩
/-- The cells of a text. -/
def bcl (s : ByteArray) : List Value := s.data.toList.map fun x => Value.int .u8 (x.toNat : Int)
theorem bcl_len (s : ByteArray) : (bcl s).length = s.size := by unfold bcl; rw [List.length_map, Array.length_toList]; rfl
theorem bcl_get (s : ByteArray) (j : Nat) (h : j < s.size) : (bcl s)[j]? = some (.int .u8 ((sb s).getD j 0)) := by
 have e : bcl s = (sb s).map (Value.int .u8) := by unfold bcl sb; rw [List.map_map]; rfl
 rw [e, List.getElem?_map, List.getD_eq_getElem?_getD, List.getElem?_eq_getElem (by rw [sb_len]; exact h)]
 rfl
theorem HC.copied {w : World} {g : Nat} {T : ByteArray} {c : Nat} (h : HC w g T c) (rem : ByteArray) (hr : sb rem = (sb T).drop c) (n : Nat) (hn : n ≤ rem.size) (hle : c % 64 + n ≤ 64) :
 ∃ r2, Byts r2 ∧ Row .u32 (w.setCells g (8 + c % 64) ((bcl rem).take n)) g 0 8 (blkF (sf T) (c / 64)) ∧ Row .u8 (w.setCells g (8 + c % 64) ((bcl rem).take n)) g 8 64 r2 ∧
  (∀ j, j < c % 64 + n → r2 j = sf T (64 * (c / 64) + j)) ∧ (w.setCells g (8 + c % 64) ((bcl rem).take n)).cell? ⟨g, 72, none⟩ = some (.int .i64 T.size) ∧ ∀ j, (w.setCells g (8 + c % 64) ((bcl rem).take n)).frozen? ⟨g, j, none⟩ = false := by
 obtain ⟨r, hr1, hr2, hr3⟩ := h.rest
 have hlen : ((bcl rem).take n).length = n := by rw [List.length_take, bcl_len]; omega
 refine ⟨fun j => if c % 64 ≤ j ∧ j < c % 64 + n then (sb rem).getD (j - c % 64) 0 else r j, fun j => ?_, ?_, ?_, ?_, ?_, ?_⟩
 · dsimp only
   split
   · exact getD_byts (sb_byts rem) _
   · exact hr1 j
 · exact h.st.apart _ _ _ (by rw [hlen]; omega)
 · intro j hj
   show _ = some (Value.int .u8 (if c % 64 ≤ j ∧ j < c % 64 + n then (sb rem).getD (j - c % 64) 0 else r j))
   by_cases a : c % 64 ≤ j ∧ j < c % 64 + n
   · rw [if_pos a]
     have := World.cell?_setCells_in g ((bcl rem).take n) (8 + c % 64) w (fun i hi => by rw [show 8 + c % 64 + i = 8 + (c % 64 + i) by omega, hr2 (c % 64 + i) (by omega)]; rfl) (j - c % 64) (by omega)
     rw [show 8 + c % 64 + (j - c % 64) = 8 + j by omega] at this
     rw [this, ← List.getElem?_eq_getElem, List.getElem?_take_of_lt (by omega), bcl_get _ _ (by omega)]
   · rw [if_neg a, World.cell?_setCells_out g _ _ w ⟨g, 8 + j, none⟩ (fun _ _ => by rw [hlen]; show 8 + j < 8 + c % 64 ∨ 8 + c % 64 + n ≤ 8 + j; omega)]
     exact hr2 j hj
 · intro j hj
   show (if c % 64 ≤ j ∧ j < c % 64 + n then (sb rem).getD (j - c % 64) 0 else r j) = _
   by_cases a : c % 64 ≤ j
   · rw [if_pos ⟨a, hj⟩, hr]
     unfold sf
     rw [List.getD_eq_getElem?_getD, List.getD_eq_getElem?_getD, List.getElem?_drop, show c + (j - c % 64) = 64 * (c / 64) + j by omega]
   · rw [if_neg (by omega)]
     exact hr3 j (by omega)
 · rw [World.cell?_setCells_out g _ _ w ⟨g, 72, none⟩ (fun _ _ => by rw [hlen]; show 72 < 8 + c % 64 ∨ 8 + c % 64 + n ≤ 72; omega)]
   exact h.tk
 · intro j
   rw [World.frozen?_setCells]
   exact h.fz j
/-- The count goes up: the Hash counts T, of which it has c. -/
theorem HC.count {w : World} {g : Nat} {s : ByteArray} (h : HR w g s) (p : ByteArray) : HC (w.setCell ⟨g, 72, none⟩ (.int .i64 (s ++ p).size)) g (s ++ p) s.size := by
 have h' : HC w g s s.size := h
 obtain ⟨r, hr1, hr2, hr3⟩ := h'.rest
 refine ⟨?_, ⟨r, hr1, ?_, fun j hj => ?_⟩, ?_, fun j => ?_⟩
 · rw [blkF_congr (s.size / 64) (fun j hj => sf_left s p j (by omega))]
   exact h'.st.apart g 72 [_] (by omega)
 · exact hr2.apart g 72 [_] (by omega)
 · rw [hr3 j hj, sf_left s p _ (by omega)]
 · exact World.cell?_setCell_same _ _ _ h'.tk
 · have := h'.fz j
   simpa using this
/-- A block is full: its words are mixed into the state. -/
theorem HC.mixed {w w4 : World} {g : Nat} {T : ByteArray} {m c : Nat} {r : Nat → Int} (h8 : Row .u8 w g 8 64 r) (hB : Byts r) (hr : ∀ j, j < 64 → r j = sf T (64 * m + j)) (hst : Row .u32 w g 0 8 (blkF (sf T) m)) (htk : w.cell? ⟨g, 72, none⟩ = some (.int .i64 T.size)) (hf : ∀ j, w.frozen? ⟨g, j, none⟩ = false)
 (q : Q w w4) (hc : c = 64 * (m + 1)) : HC (w4.setCells g 0 (cl .u32 8 (mixS (wrow r 48) (blkF (sf T) m)))) g T c := by
 have hg := hst.lt (by omega)
 have e1 : c / 64 = m + 1 := by omega
 have e2 : c % 64 = 0 := by omega
 have hs4 : w4.there g 0 8 := (Row.q hst q hg).there fun j => by rw [q.frozen (p := ⟨g, j, none⟩) hg]; exact hf j
 refine ⟨?_, ⟨r, hB, (Row.q h8 q hg).apart g 0 _ (by rw [cl_len]; omega), fun j hj => by omega⟩, ?_, fun j => ?_⟩
 · rw [e1, ← mix_step (sf T) m r hr]
   exact Row.stored hs4
 · rw [World.cell?_setCells_out g _ _ w4 ⟨g, 72, none⟩ (fun _ _ => by rw [cl_len]; show 72 < 0 ∨ 0 + 8 ≤ 72; omega), q.cell (p := ⟨g, 72, none⟩) hg]
   exact htk
 · rw [World.frozen?_setCells, q.frozen (p := ⟨g, j, none⟩) hg]
   exact hf j
theorem pwords_c {W : World} (b : Nat → Int) (w : World) (q : Q W w) (hB : Byts b) (C D : List Value) (hC : cl .u8 64 b = C) (hD : cl .u32 64 (wrow b 48) = D) :
 Calls Tryz.prog 131 #[.agg C.toArray] w fun e w' => e = .returned (.agg D.toArray) ∧ Q W w' := by
 subst hC hD
 exact pwords_any b w q hB
theorem mixed_c {W : World} (st wf : Nat → Int) (w : World) (q : Q W w) (hG : GL W) (wst : ∀ i, Wd (st i)) (wwf : ∀ i, Wd (wf i)) (A B E : List Value) (hA : cl .u32 8 st = A) (hB : cl .u32 64 wf = B) (hE : cl .u32 8 (mixS wf st) = E) :
 Calls Tryz.prog 130 #[.agg A.toArray, .agg B.toArray] w fun e w' => e = .returned (.agg E.toArray) ∧ Q W w' := by
 subst hA hB hE
 exact mixed_any st wf w q hG wst wwf
/-- A scope with one label to which the run goes back: J holds wherever it stands at the label. -/
theorem wp_scope_loop {P : Program} {a : Act} {w : World} {Q : Exit → Act → World → Prop} {c X : Code} (l : Nat) (J : Act → World → Prop) (μ : Act → World → Nat) (hf : findLabel c l = some (Code.skip.seq X))
 (pass : ∀ a w, J a w → X.wp P (Exit.jump l (fun a' w' => J a' w' ∧ μ a' w' < μ a w) Q) a w)
 (first : (∀ a w, J a w → X.wp P (Exit.jump l J Q) a w) → c.wp P (Exit.jump l J Q) a w) : (Code.scope c).wp P Q a w :=
 wp_scope_jumps l J μ hf (first fun a w h => wp_mono (pass a w h) fun e a' w' hq => by
  cases e with
  | goto l' => exact ⟨hq.1, hq.2.1⟩
  | normal => exact hq
  | exit id => exact hq
  | ret => exact hq
  | panic ch => exact hq
  | outgrown => exact hq) (fun a w h => by
   apply wp_seq_k
   intro K hK
   apply wp_skip
   exact hK _ _ (pass a w h))
def strLen : Value → Nat
 | .string b => b.size
 | _ => 0
/-- What stands at the label: c bytes of T are taken, rem is left. -/
structure JI (w : World) (g : Nat) (T : ByteArray) (c : Nat) (rem : ByteArray) (w' : World) : Prop where
 len : rem.size + c = T.size
 sub : sb rem = (sb T).drop c
 hc : HC w' g T c
 bl : Below g w w'
theorem GL.below {w w' : World} {B : Nat} (h : GL w) (q : Below B w w') (hB : 1 < B) : GL w' := ⟨Row.below h.i0 q (by omega), Row.below h.k q hB⟩
theorem sb_extract (s : ByteArray) (n : Nat) : sb (s.extract n s.size) = (sb s).drop n := by
 unfold sb
 rw [← List.map_drop]
 congr 1
 rw [ByteArray.data_extract, Array.toList_extract]
 show (s.data.toList.drop n).take (s.size - n) = _
 exact List.take_of_length_le (by rw [List.length_drop, Array.length_toList]; exact Nat.le_refl _)
theorem JI.drew {w : World} {g : Nat} {T : ByteArray} {c : Nat} {rem : ByteArray} {w' : World} (h : JI w g T c rem w') : JI w g T c rem w'.drew := ⟨h.len, h.sub, h.hc.q (Q.refl w').drew, h.bl.drew⟩
def JW (w : World) (g : Nat) (T : ByteArray) (a' : Act) (w' : World) : Prop :=
 ∃ (c : Nat) (hv : Int) (rem : ByteArray) (u5 u6 u7 u8 u9 u10 u11 u12 u13 u14 u15 u16 u17 u18 u19 u20 u21 u22 u23 u24 u25 u26 u27 u28 u29 u30 u31 u32 u33 u34 u35 u36 u37 u38 u39 u40 u41 u42 u43 u44 u45 u46 : Value), a' = { tmps := #[Value.pointer (some ⟨g, 0, none⟩), Value.string rem, undef, undef, Value.int .i64 hv, u5, u6, u7, u8, u9, u10, u11, u12, u13, u14, u15, u16, u17, u18, u19, u20, u21, u22, u23, u24, u25, u26, u27, u28, u29, u30, u31, u32, u33, u34, u35, u36, u37, u38, u39, u40, u41, u42, u43, u44, u45, u46], defers := [] } ∧ Hid (hv = ((c % 64 : Nat) : Int) ∧ JI w g T c rem w')
set_option maxHeartbeats 1000000 in
theorem write_any (g : Nat) (s p : ByteArray) (w : World) (h : HR w g s) (hG : GL w) (hg1 : 1 < g) (hs : s.size + p.size ≤ 2000000000) :
 Calls Tryz.prog 108 #[.pointer (some ⟨g, 0, none⟩), .string p] w fun e w' => e = .returned (.tuple #[]) ∧ HR w' g (s ++ p) ∧ Below g w w' := by
 have hcnt := HC.count h p
 have htk : w.cell? ⟨g, 72, none⟩ = some (.int .i64 s.size) := HC.tk h
 have hfz : w.frozen? ⟨g, 72, none⟩ = false := HC.fz h 72
 have hT : (s ++ p).size = s.size + p.size := by simp
 have hI : Hid (JI w g (s ++ p) s.size p (w.setCell ⟨g, 72, none⟩ (.int .i64 ((s.size : Int) + (p.size : Int))))) := by
  rw [hT, show ((s.size + p.size : Nat) : Int) = (s.size : Int) + (p.size : Int) by omega] at hcnt
  exact ⟨by rw [hT]; omega, by rw [sb_append, List.drop_left' (sb_len s)], hcnt, Below.setCell (Below.refl _ _) (Nat.le_refl g) _⟩
 have hTs : (s ++ p).size ≤ 2000000000 := by omega
 clear hcnt h hT
 generalize hTT : s ++ p = T at *
 go_enter Tryz.func108, Tryz.ntmps108
 refine wp_scope_loop 0 (JW w g T) (fun a' _ => strLen (a'.tmps.getD 1 undef)) rfl ?pass ?first
 case first =>
  intro hp
  have hp' := Lib.hid hp
  clear hp
  go_wp2_with fail
  go_step3
  go_step
  go_step
  refine hp'.out _ _ ⟨s.size, (s.size : Int) % 64, p, _, _, _, _, _, _, _, _, _, _, _, _, _, _, _, _, _, _, _, _, _, _, _, _, _, _, _, _, _, _, _, _, _, _, _, _, _, _, _, _, _, _, rfl, by omega, hI.out⟩
 case pass =>
  rintro a' wr ⟨c, hv, rem, u5, u6, u7, u8, u9, u10, u11, u12, u13, u14, u15, u16, u17, u18, u19, u20, u21, u22, u23, u24, u25, u26, u27, u28, u29, u30, u31, u32, u33, u34, u35, u36, u37, u38, u39, u40, u41, u42, u43, u44, u45, u46, rfl, HJ⟩
  clear hI htk hfz hs
  obtain ⟨k, hk⟩ : ∃ k, c % 64 = k := ⟨_, rfl⟩
  have hk64 : k < 64 := by omega
  have hv' : hv = (k : Int) := by rw [HJ.out.1, hk]
  subst hv'
  have J := Lib.hid HJ.out.2
  have hlen := J.out.len
  clear HJ
  have sl := slice_l (P := Tryz.prog) Tryz.underlying181 (by intro w; kernel_rfl) wr g 8 .i64 k hk64
  obtain ⟨n, hn⟩ : ∃ n, min rem.size (64 - k) = n := ⟨_, rfl⟩
  have hcp := run_copy_part (P := Tryz.prog) wr 121 9 3 5 g (8 + k) (64 - k) (64 - k) rem Tryz.underlying121 (by intro w; kernel_rfl)
   (fun j hj => by
    obtain ⟨r, _, hr2, _⟩ := J.out.hc.rest
    rw [show 8 + k + j = 8 + (k + j) by omega, hr2 (k + j) (by omega)]; rfl) (fun j hj => J.out.hc.fz _)
  have hcp' : (Builtin.copy_ #[121, 9] 3 #[.slice (some ⟨g, 8 + k, none⟩) (64 - k) (64 - k), .string rem]).run Tryz.prog wr = .ok (.int .i64 n) (wr.setCells g (8 + k) ((bcl rem).take n)) := by rw [← hn]; exact hcp
  clear hcp
  obtain ⟨r2, hB, hst, hr8, hr, htk, hfz⟩ := J.out.hc.copied rem J.out.sub n (by omega) (by omega)
  rw [hk] at hst hr8 hr htk hfz
  have hbl : Below g w (wr.setCells g (8 + k) ((bcl rem).take n)) := below_setCells (Nat.le_refl g) _ _ _ J.out.bl
  generalize wr.setCells g (8 + k) ((bcl rem).take n) = w2 at *
  have F := Lib.hid (And.intro hB (And.intro hst (And.intro hr8 (And.intro hr (And.intro htk (And.intro hfz hbl))))))
  have HSUB := Lib.hid J.out.sub
  clear hB hst hr8 hr htk hfz hbl J
  have hlen' := Lib.hid hlen
  by_cases hA : k + n = 64
  · have hA' : (k : Int) + (n : Int) = 64 := by omega
    have HA := Lib.hid (And.intro hA (And.intro hk (And.intro hlen hn)))
    obtain ⟨C8, hC8⟩ : ∃ C, cl .u32 8 (blkF (sf T) (c / 64)) = C := ⟨_, rfl⟩
    obtain ⟨C64, hC64⟩ : ∃ C, cl .u8 64 r2 = C := ⟨_, rfl⟩
    obtain ⟨D64, hD64⟩ : ∃ C, cl .u32 64 (wrow r2 48) = C := ⟨_, rfl⟩
    obtain ⟨E8, hE8⟩ : ∃ C, cl .u32 8 (mixS (wrow r2 48) (blkF (sf T) (c / 64))) = C := ⟨_, rfl⟩
    have EC8 := Lib.hid hC8
    have E64 := Lib.hid hC64
    have ED := Lib.hid hD64
    have EE := Lib.hid hE8
    have R0r : Hid (Row .u32 w2.drew g 0 8 (blkF (sf T) (c / 64))) := F.out.2.1.drewN 1
    have R0lt : Hid (g < w2.drew.heap.size) := R0r.out.lt (by omega)
    have R0 : Hid (w2.drew.rangeAt g 0 C8) := by rw [← hC8]; exact R0r.out.range
    have R8 : Hid (w2.drew.rangeAt g 8 C64) := by rw [← hC64]; exact (F.out.2.2.1.drewN 1).range
    have HI8 : Hid ((Tryz.prog.info? 180).map (·.size) = some C8.length) := by rw [← hC8, cl_len]; exact info8
    have HI64 : Hid ((Tryz.prog.info? 181).map (·.size) = some C64.length) := by rw [← hC64, cl_len]; exact (by kernel_rfl : (Tryz.prog.info? 181).map (·.size) = some 64)
    have HIE : Hid ((Tryz.prog.info? 180).map (·.size) = some E8.toArray.size) := by show _ = some E8.length; rw [← hE8, cl_len]; exact info8
    have HOE : Hid (E8.toArray.all (·.oneCell') = true) := by rw [← hE8]; exact cl_one _ _ _
    have HGL : Hid (GL w2.drew) := (hG.below F.out.2.2.2.2.2.2 hg1 |> fun h => h.q ((Q.refl w2).drewN 1))
    have TH : Hid (∀ w4, Q w2.drew w4 → w4.there g 0 E8.toArray.size) := by
     intro w4 q4
     show w4.there g 0 E8.length
     rw [← hE8, cl_len]
     exact (Row.q R0r.out q4 R0lt.out).there fun j => by rw [q4.frozen (p := ⟨g, j, none⟩) R0lt.out]; exact F.out.2.2.2.2.2.1 j
    have TL : Hid (∀ w4, Q w2.drew w4 → JI w g T (c + n) (rem.extract n rem.size) (w4.setCells g 0 E8)) := by
     intro w4 q4
     obtain ⟨hB, hst, hr8, hr, htk, hfz, hbl⟩ := F.out
     obtain ⟨a1, a2, a3, a4⟩ := HA.out
     refine ⟨by rw [ByteArray.size_extract]; omega, ?_, ?_, below_setCells (Nat.le_refl g) _ _ _ (hbl.trans (Below.trans (Below.drew (Below.refl _ _)) (Below.mono q4 (Nat.le_of_lt R0lt.out))))⟩
     · rw [sb_extract, HSUB.out, List.drop_drop]
     · rw [← hE8]
       exact HC.mixed (hr8.drewN 1) hB (fun j hj => hr j (by omega)) (hst.drewN 1) htk hfz q4 (by omega)
    have hnr : n ≤ rem.size := by omega
    clear hC8 hC64 hD64 hE8 hA hk hlen hn
    go_wp2_with fail
    refine wp_region_held_drew (S := fun _ => True) (by kernel_rfl) trivial (fun hHeld => ?_)
    refine wtk (i := 0) (v := ?_) (gat rfl) (by kernel_rfl) (by exact fun _ _ _ h => h) (Or.inl ⟨by rfl, ?_⟩) (by assumption) ?_
    rotate_left
    · (intro wx hSw; (try dsimp only at hSw); go_simp; try (with_reducible rfl))
    try simp only [Act.put, pu]
    refine wtk (i := 1) (v := ?_) (gat rfl) (by kernel_rfl) (by exact fun _ _ _ h => h) (Or.inl ⟨by rfl, ?_⟩) (by assumption) ?_
    rotate_left
    · (intro wx hSw; (try dsimp only at hSw); go_simp; try (with_reducible rfl))
    try simp only [Act.put, pu]
    refine wtk (i := 2) (v := ?_) (gat rfl) (by kernel_rfl) (by exact fun _ _ _ h => h) (Or.inl ⟨by rfl, ?_⟩) (by assumption) ?_
    rotate_left
    · (intro wx hSw; (try dsimp only at hSw); go_simp; try (with_reducible rfl))
    try simp only [Act.put, pu]
    refine wtk (i := 3) (v := ?_) (gat rfl) (by kernel_rfl) (by exact fun _ _ _ h => h) (Or.inl ⟨by rfl, ?_⟩) (by assumption) ?_
    rotate_left
    · (intro wx hSw; (try dsimp only at hSw); go_simp; try (with_reducible rfl))
    try simp only [Act.put, pu]
    refine wtk (i := 5) (v := ?_) (gat rfl) (by kernel_rfl) (by exact fun _ _ _ h => h) (Or.inl ⟨by rfl, ?_⟩) (by assumption) ?_
    rotate_left
    · (intro wx hSw; (try dsimp only at hSw); go_simp; try (with_reducible rfl))
    try simp only [Act.put, pu]
    refine wtk (i := 6) (v := ?_) (gat rfl) (by kernel_rfl) (by exact fun _ _ _ h => h) (Or.inl ⟨by rfl, ?_⟩) (by assumption) ?_
    rotate_left
    · (intro wx hSw; (try dsimp only at hSw); go_simp; try (with_reducible rfl))
    try simp only [Act.put, pu]
    refine wtk (i := 7) (v := ?_) (gat rfl) (by kernel_rfl) (by exact fun _ _ _ h => h) (Or.inl ⟨by rfl, ?_⟩) (by assumption) ?_
    rotate_left
    · (intro wx hSw; (try dsimp only at hSw); go_simp; try (with_reducible rfl))
    try simp only [Act.put, pu]
    refine wpAnyH_ready (rs := [4, 8]) (by kernel_rfl) (by simp) ?_
    refine AllReadyH.cons (gat rfl) (fun K hK => ?_) (ar1 (gat rfl) fun K hK => ?_)
    · rw [if_pos (by rfl)]
      refine wp_load_mid 180 _ rfl g 0 rfl C8 _ R0.out Tryz.underlying180 rfl HI8.out ?_
      refine hK.out _ _ trivial (fun hHeld4 => ?_)
      clear hK K
      try simp only [Act.put, pu]
      refine wpAnyH_ready (rs := [8]) (by kernel_rfl) (by simp) ?_
      refine ar1 (gat rfl) fun K hK => ?_
      rw [if_pos (by rfl)]
      refine wp_load_mid 181 _ rfl g 8 rfl C64 _ R8.out Tryz.underlying181 rfl HI64.out ?_
      refine hK.out _ _ trivial (fun hHeld8 => ?_)
      clear hK K
      try simp only [Act.put, pu]
      refine wpAnyH_ready (rs := [9]) (by kernel_rfl) (by simp) ?_
      refine ar1 (gat rfl) fun K hK => ?_
      go_simp
      refine (pwords_c r2 w2.drew (Q.refl _) F.out.1 C64 D64 E64.out ED.out).mono ?_
      rintro e w3 ⟨rfl, hq3⟩
      have H3 := Lib.hid hq3
      clear hq3
      dsimp only
      refine hK.out _ _ trivial (fun hHeld9 => ?_)
      clear hK K
      try simp only [Act.put, pu]
      refine wpAnyH_ready (rs := [10]) (by kernel_rfl) (by simp) ?_
      refine ar1 (gat rfl) fun K hK => ?_
      go_simp
      refine (mixed_c (blkF (sf T) (c / 64)) (wrow r2 48) w3 H3.out HGL.out (blkF_wd _ _) (wrow_wd r2 F.out.1 48) C8 D64 E8 EC8.out ED.out EE.out).mono ?_
      rintro e w4 ⟨rfl, hq4⟩
      have H4 := Lib.hid (TH.out w4 hq4)
      have J4 := Lib.hid (TL.out w4 hq4)
      clear hq4
      dsimp only
      refine hK.out _ _ trivial (fun hHeld10 => ?_)
      clear hK K
      try simp only [Act.put, pu]
      refine wtk (i := 11) (v := ?_) (gat rfl) (by kernel_rfl) (by exact fun _ _ _ h => h) (Or.inl ⟨by rfl, ?_⟩) (by assumption) ?_
      rotate_left
      · (intro wx hSw; (try dsimp only at hSw); go_simp; try (with_reducible rfl))
      try simp only [Act.put, pu]
      refine wtk (i := 12) (v := ?_) (gat rfl) (by kernel_rfl) (by exact fun _ _ _ h => h) (Or.inl ⟨by rfl, ?_⟩) (by assumption) ?_
      rotate_left
      · (intro wx hSw; (try dsimp only at hSw); go_simp; try (with_reducible rfl))
      try simp only [Act.put, pu]
      refine wpAnyH_ready (rs := [13]) (by kernel_rfl) (by simp) ?_
      refine ar1 (gat rfl) fun K hK => ?_
      rw [if_pos (by rfl)]
      refine wp_store_mid 180 _ _ rfl g 0 E8.toArray rfl rfl H4.out HIE.out HOE.out ?_
      refine hK.out _ _ trivial (fun hHeld13 => ?_)
      clear hK K
      simp only [Act.put]
      refine wpAnyH_done (by kernel_rfl) ?_ _
      go_wp2_with fail
      go_region
      go_wp2_with fail
      go_step3
      exact ⟨rfl, ⟨c + n, 0, rem.extract n rem.size, _, _, _, _, _, _, _, _, _, _, _, _, _, _, _, _, _, _, _, _, _, _, _, _, _, _, _, _, _, _, _, _, _, _, _, _, _, _, _, _, _, _, rfl, (show (0 : Int) = (((c + n) % 64 : Nat) : Int) by have := HA.out; omega), J4.out.drew⟩, by have := HA.out; show (rem.extract n rem.size).size < rem.size; rw [ByteArray.size_extract]; omega⟩
    · rw [if_pos (by rfl)]
      refine wp_load_mid 181 _ rfl g 8 rfl C64 _ R8.out Tryz.underlying181 rfl HI64.out ?_
      refine hK.out _ _ trivial (fun hHeld8 => ?_)
      clear hK K
      try simp only [Act.put, pu]
      refine wpAnyH_ready (rs := [4, 9]) (by kernel_rfl) (by simp) ?_
      refine AllReadyH.cons (gat rfl) (fun K hK => ?_) (ar1 (gat rfl) fun K hK => ?_)
      · rw [if_pos (by rfl)]
        refine wp_load_mid 180 _ rfl g 0 rfl C8 _ R0.out Tryz.underlying180 rfl HI8.out ?_
        refine hK.out _ _ trivial (fun hHeld4 => ?_)
        clear hK K
        try simp only [Act.put, pu]
        refine wpAnyH_ready (rs := [9]) (by kernel_rfl) (by simp) ?_
        refine ar1 (gat rfl) fun K hK => ?_
        go_simp
        refine (pwords_c r2 w2.drew (Q.refl _) F.out.1 C64 D64 E64.out ED.out).mono ?_
        rintro e w3 ⟨rfl, hq3⟩
        have H3 := Lib.hid hq3
        clear hq3
        dsimp only
        refine hK.out _ _ trivial (fun hHeld9 => ?_)
        clear hK K
        try simp only [Act.put, pu]
        refine wpAnyH_ready (rs := [10]) (by kernel_rfl) (by simp) ?_
        refine ar1 (gat rfl) fun K hK => ?_
        go_simp
        refine (mixed_c (blkF (sf T) (c / 64)) (wrow r2 48) w3 H3.out HGL.out (blkF_wd _ _) (wrow_wd r2 F.out.1 48) C8 D64 E8 EC8.out ED.out EE.out).mono ?_
        rintro e w4 ⟨rfl, hq4⟩
        have H4 := Lib.hid (TH.out w4 hq4)
        have J4 := Lib.hid (TL.out w4 hq4)
        clear hq4
        dsimp only
        refine hK.out _ _ trivial (fun hHeld10 => ?_)
        clear hK K
        try simp only [Act.put, pu]
        refine wtk (i := 11) (v := ?_) (gat rfl) (by kernel_rfl) (by exact fun _ _ _ h => h) (Or.inl ⟨by rfl, ?_⟩) (by assumption) ?_
        rotate_left
        · (intro wx hSw; (try dsimp only at hSw); go_simp; try (with_reducible rfl))
        try simp only [Act.put, pu]
        refine wtk (i := 12) (v := ?_) (gat rfl) (by kernel_rfl) (by exact fun _ _ _ h => h) (Or.inl ⟨by rfl, ?_⟩) (by assumption) ?_
        rotate_left
        · (intro wx hSw; (try dsimp only at hSw); go_simp; try (with_reducible rfl))
        try simp only [Act.put, pu]
        refine wpAnyH_ready (rs := [13]) (by kernel_rfl) (by simp) ?_
        refine ar1 (gat rfl) fun K hK => ?_
        rw [if_pos (by rfl)]
        refine wp_store_mid 180 _ _ rfl g 0 E8.toArray rfl rfl H4.out HIE.out HOE.out ?_
        refine hK.out _ _ trivial (fun hHeld13 => ?_)
        clear hK K
        simp only [Act.put]
        refine wpAnyH_done (by kernel_rfl) ?_ _
        go_wp2_with fail
        go_region
        go_wp2_with fail
        go_step3
        exact ⟨rfl, ⟨c + n, 0, rem.extract n rem.size, _, _, _, _, _, _, _, _, _, _, _, _, _, _, _, _, _, _, _, _, _, _, _, _, _, _, _, _, _, _, _, _, _, _, _, _, _, _, _, _, _, _, rfl, (show (0 : Int) = (((c + n) % 64 : Nat) : Int) by have := HA.out; omega), J4.out.drew⟩, by have := HA.out; show (rem.extract n rem.size).size < rem.size; rw [ByteArray.size_extract]; omega⟩
      · go_simp
        refine (pwords_c r2 w2.drew (Q.refl _) F.out.1 C64 D64 E64.out ED.out).mono ?_
        rintro e w3 ⟨rfl, hq3⟩
        have H3 := Lib.hid hq3
        clear hq3
        dsimp only
        refine hK.out _ _ trivial (fun hHeld9 => ?_)
        clear hK K
        try simp only [Act.put, pu]
        refine wpAnyH_ready (rs := [4]) (by kernel_rfl) (by simp) ?_
        refine ar1 (gat rfl) fun K hK => ?_
        rw [if_pos (by rfl)]
        refine wp_load_mid 180 _ rfl g 0 rfl C8 _ (Row.range (Row.q R0r.out H3.out R0lt.out) |> fun h => by rw [← EC8.out]; exact h) Tryz.underlying180 rfl HI8.out ?_
        refine hK.out _ _ trivial (fun hHeld4 => ?_)
        clear hK K
        try simp only [Act.put, pu]
        refine wpAnyH_ready (rs := [10]) (by kernel_rfl) (by simp) ?_
        refine ar1 (gat rfl) fun K hK => ?_
        go_simp
        refine (mixed_c (blkF (sf T) (c / 64)) (wrow r2 48) w3 H3.out HGL.out (blkF_wd _ _) (wrow_wd r2 F.out.1 48) C8 D64 E8 EC8.out ED.out EE.out).mono ?_
        rintro e w4 ⟨rfl, hq4⟩
        have H4 := Lib.hid (TH.out w4 hq4)
        have J4 := Lib.hid (TL.out w4 hq4)
        clear hq4
        dsimp only
        refine hK.out _ _ trivial (fun hHeld10 => ?_)
        clear hK K
        try simp only [Act.put, pu]
        refine wtk (i := 11) (v := ?_) (gat rfl) (by kernel_rfl) (by exact fun _ _ _ h => h) (Or.inl ⟨by rfl, ?_⟩) (by assumption) ?_
        rotate_left
        · (intro wx hSw; (try dsimp only at hSw); go_simp; try (with_reducible rfl))
        try simp only [Act.put, pu]
        refine wtk (i := 12) (v := ?_) (gat rfl) (by kernel_rfl) (by exact fun _ _ _ h => h) (Or.inl ⟨by rfl, ?_⟩) (by assumption) ?_
        rotate_left
        · (intro wx hSw; (try dsimp only at hSw); go_simp; try (with_reducible rfl))
        try simp only [Act.put, pu]
        refine wpAnyH_ready (rs := [13]) (by kernel_rfl) (by simp) ?_
        refine ar1 (gat rfl) fun K hK => ?_
        rw [if_pos (by rfl)]
        refine wp_store_mid 180 _ _ rfl g 0 E8.toArray rfl rfl H4.out HIE.out HOE.out ?_
        refine hK.out _ _ trivial (fun hHeld13 => ?_)
        clear hK K
        simp only [Act.put]
        refine wpAnyH_done (by kernel_rfl) ?_ _
        go_wp2_with fail
        go_region
        go_wp2_with fail
        go_step3
        exact ⟨rfl, ⟨c + n, 0, rem.extract n rem.size, _, _, _, _, _, _, _, _, _, _, _, _, _, _, _, _, _, _, _, _, _, _, _, _, _, _, _, _, _, _, _, _, _, _, _, _, _, _, _, _, _, _, rfl, (show (0 : Int) = (((c + n) % 64 : Nat) : Int) by have := HA.out; omega), J4.out.drew⟩, by have := HA.out; show (rem.extract n rem.size).size < rem.size; rw [ByteArray.size_extract]; omega⟩
  · have hB' : ¬ (k : Int) + (n : Int) = 64 := by omega
    go_wp2_with fail
    simp only [Exit.jump]
    refine bodyPost_end (results_none rfl _ _ _) rfl ?_
    obtain ⟨hB, hst, hr8, hr, htk, hfz, hbl⟩ := F.out
    have hl := hlen'.out
    have e1 : T.size / 64 = c / 64 := by omega
    have e2 : T.size % 64 = k + n := by omega
    exact ⟨rfl, ⟨by rw [e1]; exact hst, ⟨r2, hB, hr8, fun j hj => by rw [e1]; exact hr j (by omega)⟩, htk, hfz⟩, hbl⟩
theorem cells_new (w : World) (l : List Value) (t : TypeId) : ∀ j u, l[j]? = some u → (w.alloc (.cells l.toArray t)).cell? ((⟨w.heap.size, 0, none⟩ : Addr).add j) = some u := by
 intro j u hj
 rw [Addr.add_mid, Nat.zero_add, World.cell?_alloc_at _ _ _ _ rfl]
 simpa using hj
theorem sb_nums (l : List Int) (h : ∀ x ∈ l, 0 ≤ x ∧ x ≤ 255) : sb (strOfNums l) = l := by
 unfold sb
 rw [strOfNums_data, List.map_map]
 conv => rhs; rw [← List.map_id l]
 apply List.map_congr_left
 intro x hx
 have := h x hx
 show ((UInt8.ofNat x.toNat).toNat : Int) = x
 rw [UInt8.toNat_ofNat']
 omega
theorem pad_sb (s : ByteArray) : sb (s ++ strOfNums (padN s.size)) = padL s := by
 rw [sb_append, sb_nums _ (padN_byts _)]
 unfold padN padL pad0
 simp only [List.append_assoc]
theorem fin_st (s : ByteArray) : blkF (sf (s ++ strOfNums (padN s.size))) ((s ++ strOfNums (padN s.size)).size / 64) = shaSt s := by
 have e1 : sf (s ++ strOfNums (padN s.size)) = pb s := by funext j; unfold sf pb; rw [pad_sb]
 have e2 : (s ++ strOfNums (padN s.size)).size = (padL s).length := by rw [← sb_len, pad_sb]
 rw [e1, e2, ← blk_eq]
 rfl
theorem shaSt_wd (s : ByteArray) : ∀ i, Wd (shaSt s i) := blk_wd s _
def z32 : Obj := .cells (Array.replicate 32 (.int .u8 0)) 5
theorem mk32 (w : World) : (Instr.makeSlice 121 (.int .i64 0) (.int .i64 32)).run Tryz.prog w = .ok (.slice (some ⟨w.heap.size, 0, none⟩) 0 32) (w.alloc z32) := by kernel_rfl
set_option maxHeartbeats 1000000 in
theorem hsum_any (g : Nat) (s : ByteArray) (w : World) (h : HR w g s) (hG : GL w) (hs : s.size ≤ 1000000000) :
 Calls Tryz.prog 109 #[.pointer (some ⟨g, 0, none⟩)] w fun e w' => e = .returned (.string (shaS s)) ∧ Q w w' := by
 obtain ⟨i0, hi0, hz0, hz1, hz2⟩ := info_parts infoB
 have hg := HC.lt h
 have hG1 := hG.lt
 have HH := Lib.hid h
 have HG := Lib.hid hG
 have hmk := mk32
 clear h hG
 go_enter Tryz.func109, Tryz.ntmps109
 go_wp2_with fail
 refine (copy_any g s w HH.out).mono ?_
 rintro e w1 ⟨rfl, hc1, hq1⟩
 have htk : w1.cell? ⟨g, 72, none⟩ = some (.int .i64 s.size) := (HC.q HH.out hq1).tk
 have H1 := Lib.hid (And.intro hc1 hq1)
 clear hc1 hq1
 go_wp2_with fail
 refine (padding_any s.size w1 (Q.refl w1) hs).mono ?_
 rintro e w2 ⟨rfl, hq2⟩
 have H2 := Lib.hid hq2
 clear hq2 htk
 go_wp2_with fail
 refine (write_any w.heap.size s (strOfNums (padN s.size)) w2 (HC.q H1.out.1 H2.out) ((HG.out.q H1.out.2).q H2.out) hG1 (by rw [strOfNums_size, padN_len]; unfold zn; omega)).mono ?_
 rintro e w3 ⟨rfl, hc3, hb3⟩
 have hst : Row .u32 w3 w.heap.size 0 8 (shaSt s) := by
  have := HC.st hc3
  rwa [fin_st] at this
 have hq3 : Q w w3 := Below.trans (H1.out.2.trans H2.out) hb3
 obtain ⟨st, hst'⟩ : ∃ st, shaSt s = st := ⟨_, rfl⟩
 have HSS : Hid (shaS s = strOfNums (ob st 8)) := by rw [← hst']; rfl
 have WV : Hid (∀ i, Wd (st i)) := by rw [← hst']; exact shaSt_wd s
 rw [hst'] at hst
 have HX := Lib.hid (fun w => idx8 w st)
 obtain ⟨C, hC⟩ : ∃ C, cl .u32 8 st = C := ⟨_, rfl⟩
 rw [hC] at HX
 have o0 : (w3.alloc z32).ownsRow w3.heap.size 5 1 (.slice (some ⟨w3.heap.size, 0, none⟩) 0 32) (4 * 0) (vals .u8 (ob st 0)) :=
  ⟨rfl, .inr ⟨w3.heap.size, 32, Array.replicate 32 (.int .u8 0), rfl, Nat.le_refl _, (show (w3.heap.push _)[w3.heap.size]? = _ by simp; rfl), by omega, by decide +kernel, by simp, by simp [ob, vals]⟩⟩
 have q30 : Q w3 (w3.alloc z32) := (Q.refl w3).alloc _
 have HRA : Hid ((w3.alloc z32).rangeAt w.heap.size 0 C) := by rw [← hC]; exact (Row.q hst q30 (hst.lt (by omega))).range
 have HIC : Hid ((Tryz.prog.info? 180).map (·.size) = some C.length) := by rw [← hC, cl_len]; exact info8
 have HQ3 := Lib.hid hq3
 clear hst' hst hc3 hb3 hC hq3 H1 H2 HH HG
 as_aux_lemma =>
 go_wp2_with (with_reducible (show wpList _ _ _ (⟨_, Op.load 180 _, _, _, _, _⟩ :: _) _ _); refine halt ?_)
 refine wpList_load_mid rfl 180 _ rfl w.heap.size 0 rfl C _ HRA.out Tryz.underlying180 rfl HIC.out ?_
 go_wp2_with fail
 clear hmk HRA HIC
 go_loopw [4, 21] (fun v i wr => ∃ k : Nat, k ≤ 8 ∧ i = .int .i64 k ∧ wr.ownsRow w3.heap.size 5 1 v (4 * k) (vals .u8 (ob st k)) ∧ Q w3 wr) (fun _ i _ => 8 - (intOf i).toNat)
 case atStart => exact ⟨0, by omega, rfl, o0, q30⟩
 case round =>
  obtain ⟨i, hi, rfl, hown0, hq0⟩ := hrel
  clear o0 q30
  have hszr := hq0.size
  by_cases hlt' : i < 8
  · have i0' : (0 : Int) ≤ (i : Int) := by omega
    have i8 : (i : Int) < 8 := by omega
    have ti : decide ((i : Int) < 8) = true := by simp; omega
    have hx := HX.out wr i hlt'
    obtain ⟨s0', s1'⟩ := WV.out i
    have HO : Hid (ob st (i + 1) = ob st i ++ [st i / 16777216, st i / 65536 % 256, st i / 256 % 256, st i % 256]) := rfl
    generalize st i = x at *
    go_wp2_with (at_builtin; (refine wpList_append_own _ rfl (.tmp 24) (.tmp 36) 121 rfl w3.heap.size 5 i0 (.int .u8 0) 1 1 Tryz.underlying121 hi0 hz0 hz1 hz2 rfl (by decide) _ _ _ rfl (hown0.alloc _) ⟨wr.heap.size, 0, none⟩ 4 4 (vals .u8 [x / 16777216, x / 65536 % 256, x / 256 % 256, x % 256]) rfl rfl (cells_new wr _ _) (fun u hu => by unfold vals at hu; obtain ⟨y, _, rfl⟩ := List.mem_map.1 hu; rfl) (by unfold maxLen; omega) (by omega) (by simp; omega) ?_); intro va wa howna hga _hn)
    have hqa := hq0.alloc (.cells (vals .u8 [x / 16777216, x / 65536 % 256, x / 256 % 256, x % 256]).toArray 5)
    have hqA : Q w3 wa := Below.grown hqa hga hqa.size (fun j hj => (hown0.lt j hj).1)
    rw [vals_append, ← HO.out] at howna
    exact ⟨⟨i + 1, by omega, by go_num, by rw [show 4 * (i + 1) = 4 * i + 4 by omega]; exact howna, hqA⟩, by simp [intOf]; omega⟩
  · obtain rfl : i = 8 := by omega
    obtain ⟨g2, cap2, e2, r1, r2, r3, r4, r5, r6⟩ := own_row (show wr.ownsRow w3.heap.size 5 1 _ (31 + 1) (vals .u8 (ob st 8)) from hown0)
    subst e2
    have hcv := run_convert_bytes_arg (P := Tryz.prog) wr 121 5 Tryz.underlying121 Tryz.underlying5 g2 0 32 cap2 (ob st 8) (ob_len st 8) (fun j hj => r3 j hj) 9 Tryz.underlying9
    clear r1 r2 r3 r4 r5 r6 hown0 WV HX
    go_wp2_with fail
    go_ret
    exact ⟨retS HSS.out.symm, HQ3.out.trans hq0⟩
/-- A Hash above w that took s, w being as it was. -/
structure TI (w : World) (g : Nat) (s : ByteArray) (wr : World) : Prop where
 hr : HR wr g s
 lo : w.heap.size ≤ g
 q : Q w wr
 gl : GL wr
theorem TI.alloc {w : World} {g : Nat} {s : ByteArray} {wr : World} (h : TI w g s wr) (o : Obj) : TI w g s (wr.alloc o) := ⟨HC.q h.hr ((Q.refl _).alloc _), h.lo, h.q.alloc _, h.gl.q ((Q.refl _).alloc _)⟩
theorem TI.write {w : World} {g : Nat} {s : ByteArray} {wr : World} (h : TI w g s wr) (h1 : 1 < w.heap.size) (p : ByteArray) (hs : s.size + p.size ≤ 2000000000) :
 Calls Tryz.prog 108 #[.pointer (some ⟨g, 0, none⟩), .string p] wr fun e w' => e = .returned (.tuple #[]) ∧ TI w g (s ++ p) w' :=
 (write_any g s p wr h.hr h.gl (by have := h.lo; omega) hs).mono fun e w' ⟨he, h2, h3⟩ => ⟨he, h2, h.lo, Below.trans h.q (h3.mono h.lo), h.gl.below h3 (by have := h.lo; omega)⟩
theorem TI.new (w : World) (hG : GL w) : Calls Tryz.prog 107 #[] w fun e w' => ∃ g, e = .returned (.pointer (some ⟨g, 0, none⟩)) ∧ TI w g ByteArray.empty w' :=
 (new_any w (Q.refl w) hG).mono fun e w' ⟨g, he, h1, h2, h3⟩ => ⟨g, he, h1, h2, h3, hG.q h3⟩
theorem TI.sum {w : World} {g : Nat} {s : ByteArray} {wr : World} (h : TI w g s wr) (hs : s.size ≤ 1000000000) :
 Calls Tryz.prog 109 #[.pointer (some ⟨g, 0, none⟩)] wr fun e w' => e = .returned (.string (shaS s)) ∧ TI w g s w' :=
 (hsum_any g s wr h.hr h.gl hs).mono fun e w' ⟨he, h2⟩ => ⟨he, HC.q h.hr h2, h.lo, h.q.trans h2, h.gl.q h2⟩
set_option maxHeartbeats 1000000 in
theorem tag_any {W : World} (word : ByteArray) (g off n cap : Nat) (ps : Nat → ByteArray) (w : World) (q : Q W w) (hG : GL W) (hr : RowS w g off n ps) (hg : 0 < n → g < w.heap.size) (hw : word.size ≤ 1000000) (hn : n ≤ 100) (hp : ∀ i, (ps i).size ≤ 1000000) :
 Calls Tryz.prog 71 #[.string word, .slice (some ⟨g, off, none⟩) n cap] w fun e w' => e = .returned (.string (tagS word ps n)) ∧ Q W w' := by
 have HR := Lib.hid hr
 have HP := Lib.hid hp
 have HG := Lib.hid hg
 have HZ := Lib.hid (tg_size word ps 1000000 hp)
 have HGL := Lib.hid (hG.q q)
 have h1w := (hG.q q).lt
 clear hr hp hg hG
 have HT : Hid (ByteArray.empty ++ strOfNums [(word.size : Int) % 256] ++ word = tg word ps 0) := by show _ = strOfNums [(word.size : Int) % 256] ++ word; simp
 have HF : Hid ((shaS (tg word ps n)).extract 0 16 = tagS word ps n) := rfl
 go_enter Tryz.func71, Tryz.ntmps71
 go_wp2_with fail
 refine (TI.new w HGL.out).mono ?_
 rintro e w1 ⟨gh, rfl, hi1⟩
 have H1 := Lib.hid hi1
 have cv := conv1 w1 ((word.size : Int) % 256)
 clear hi1
 go_wp2_with fail
 refine ((H1.out.alloc _).write h1w (strOfNums [(word.size : Int) % 256]) (by simp [strOfNums_size])).mono ?_
 rintro e w2 ⟨rfl, hi2⟩
 have H2 := Lib.hid hi2
 clear hi2 cv
 go_wp2_with fail
 refine (H2.out.write h1w word (by simp [strOfNums_size]; omega)).mono ?_
 rintro e w3 ⟨rfl, hi3⟩
 rw [HT.out] at hi3
 have H3 := Lib.hid hi3
 clear hi3 HT H2 H1
 go_wp2_with fail
 as_aux_lemma =>
 go_loopw [21] (fun i wr => ∃ k : Nat, k ≤ n ∧ i = .int .i64 k ∧ Hid (TI w gh (tg word ps k) wr)) (fun i _ => n - (intOf i).toNat)
 case atStart => exact ⟨0, by omega, rfl, H3⟩
 case round =>
  obtain ⟨k, hk, rfl, I⟩ := hrel
  clear H3
  have hz := HZ.out k
  have hzk : (tg word ps k).size ≤ 1000001 + 100 * 1000002 := by
   have : k * (1000000 + 2) ≤ 100 * (1000000 + 2) := Nat.mul_le_mul_right _ (by omega)
   omega
  clear hz
  by_cases hlt : k < n
  · have k0 : (0 : Int) ≤ (k : Int) := by omega
    have k1 : (k : Int) < (n : Int) := by omega
    have tk : decide ((k : Int) < (n : Int)) = true := by simp; omega
    have hc : wr.cell? ⟨g, off + k, none⟩ = some (.string (ps k)) := by rw [I.out.q.cell (p := ⟨g, off + k, none⟩) (HG.out (by omega))]; exact HR.out k hlt
    have hpk := HP.out k
    have HS : Hid (tg word ps k ++ strOfNums [((ps k).size : Int) / 256 % 256, ((ps k).size : Int) % 256] ++ ps k = tg word ps (k + 1)) := by
     show _ = tg word ps k ++ (strOfNums [((ps k).size : Int) / 256 % 256, ((ps k).size : Int) % 256] ++ ps k)
     rw [ByteArray.append_assoc]
    have cv' := conv2 wr (((ps k).size : Int) / 256 % 256) (((ps k).size : Int) % 256)
    generalize ps k = p at *
    generalize tg word ps k = tk' at *
    go_wp2_with fail
    refine ((I.out.alloc _).write h1w (strOfNums [(p.size : Int) / 256 % 256, (p.size : Int) % 256]) (by simp [strOfNums_size]; omega)).mono ?_
    rintro e w4 ⟨rfl, hi4⟩
    have H4 := Lib.hid hi4
    clear hi4 cv' hc
    go_wp2_with fail
    refine (H4.out.write h1w p (by simp [strOfNums_size]; omega)).mono ?_
    rintro e w5 ⟨rfl, hi5⟩
    rw [HS.out] at hi5
    have H5 := Lib.hid hi5
    clear hi5
    go_wp2_with fail
    exact ⟨⟨k + 1, by omega, by go_num, H5⟩, by simp [intOf]; omega⟩
  · obtain rfl : k = n := by omega
    have hsz := shaS_size (tg word ps k)
    go_wp2_with fail
    refine (I.out.sum (by omega)).mono ?_
    rintro e w4 ⟨rfl, hi4⟩
    have H4 := Lib.hid hi4
    clear hi4 I
    generalize shaS (tg word ps k) = x at *
    go_wp2_with fail
    go_ret
    exact ⟨retS HF.out, q.trans H4.out.q⟩
theorem HR.q {w w' : World} {g : Nat} {s : ByteArray} (h : HR w g s) (q : Q w w') : HR w' g s := HC.q h q
theorem shortS_size (s : ByteArray) : (shortS s).size = 16 := by unfold shortS; rw [ByteArray.size_extract, shaS_size]; rfl
end Go.Proofs.YtobfgljkckcmcaaGreatDoor.Sh
