import Derived.Test.YtobfgljkckcmcaaGreatDoorYJPlan
import Derived.Test.YtobfgljkckcmcaaGreatDoorYHShelf
import Derived.Lib.AppendStr
set_option maxRecDepth 100000
namespace Go.Proofs.YtobfgljkckcmcaaGreatDoor.Coi
open Go.RowKit
open Mem Num Cod Plan
set_option linter.unusedVariables false
set_option linter.unusedSimpArgs false
def TXI.cells (z : TXI) : List Value := [.slice z.aI z.t.nI z.cI, .slice z.aO z.t.nO z.cO, .int .u64 z.t.p.amount, .string z.t.p.sig, .string z.t.p.token, .slice z.aW z.t.p.n z.cW]
theorem txi_len (z : TXI) : z.cells.length = 6 := rfl
theorem tx_at {w : World} {b off i : Nat} {z : TXI} (h : ∀ j v, (z.cells)[j]? = some v → w.cell? ⟨b, off + i * 6 + j, none⟩ = some v) :
 w.cell? ⟨b, off + i * 6, none⟩ = some (.slice z.aI z.t.nI z.cI) ∧ w.cell? ⟨b, off + i * 6 + 1, none⟩ = some (.slice z.aO z.t.nO z.cO) ∧ w.cell? ⟨b, off + i * 6 + 2, none⟩ = some (.int .u64 z.t.p.amount) ∧ w.cell? ⟨b, off + i * 6 + 3, none⟩ = some (.string z.t.p.sig) ∧ w.cell? ⟨b, off + i * 6 + 4, none⟩ = some (.string z.t.p.token) ∧ w.cell? ⟨b, off + i * 6 + 5, none⟩ = some (.slice z.aW z.t.p.n z.cW) :=
 ⟨h 0 _ rfl, h 1 _ rfl, h 2 _ rfl, h 3 _ rfl, h 4 _ rfl, h 5 _ rfl⟩
abbrev TXI.tm (z : TXI) (w : World) : Prop := TM w z.aI z.cI z.aO z.aW z.t
/-- Transactions that lie one behind the other. -/
structure TL (w : World) (a : Option Addr) (n : Nat) (f : Nat → TXI) : Prop where
 l : SL TXI.cells 6 w a n f
 m : ∀ i, i < n → (f i).tm w
 k : ∀ i, i < n → (f i).t.ok
theorem TL.q {w w' : World} {a : Option Addr} {n : Nat} {f : Nat → TXI} (h : TL w a n f) (q : Q w w') : TL w' a n f := ⟨h.l.q q, fun i hi => (h.m i hi).q q, h.k⟩
/-- A block in memory. -/
structure BKI where
 h : Int
 prev : ByteArray
 n : Nat
 g : Nat → TXI
 a : Option Addr
 c : Nat
abbrev BKI.val (z : BKI) : Value := .agg #[.int .i64 z.h, .string z.prev, .slice z.a z.n z.c]
def RightB (z : BKI) : Prop := 1 ≤ z.h ∧ z.h ≤ 4294967295 ∧ z.prev.size = 16 ∧ z.n ≤ 8 ∧ ∀ i, i < z.n → RightT (z.g i).t
structure BKI.ok (z : BKI) : Prop where
 h : I64 z.h
 prev : z.prev.size ≤ 1000000
 n : z.n ≤ 100
abbrev BKI.tl (z : BKI) (w : World) : Prop := TL w z.a z.n z.g
set_option maxHeartbeats 4000000 in
theorem noTx_w (z : TXI) (w : World) (hm : z.tm w) (hk : z.t.ok) : Calls Tryz.prog 80 #[z.val] w (Tells (¬ RightT z.t) w) := by
 have HR : Hid (∀ o, Calls Tryz.prog 14 #[txV z.t z.aI z.cI z.aO z.cO z.aW z.cW] (w.alloc o) (Tells (RightT z.t) (w.alloc o))) := fun o => right_x z.t z.aI z.aO z.aW z.cI z.cO z.cW _ (hm.q ((Q.refl w).alloc o)) hk
 have HQ : Hid (∀ o, Q w (w.alloc o)) := fun o => (Q.refl w).alloc o
 clear hm hk
 go_enter Tryz.func80, Tryz.ntmps80
 go_wp2_with fail
 refine (HR.out _).mono ?_
 rintro e w1 ⟨b, rfl, hz, q1⟩
 have Q1 := Lib.hid ((HQ.out _).trans q1)
 have HZ := Lib.hid hz
 clear hz q1 HR HQ
 go_wp2_with fail
 go_ret
 exact ⟨!b, rfl, by rw [← HZ.out]; cases b <;> simp, Q1.out⟩
set_option maxHeartbeats 4000000 in
theorem index_tx (a : Option Addr) (n cap : Nat) (f : Nat → TXI) (w : World) (h : TL w a n f) (hn : n ≤ 100) :
 Calls Tryz.prog 118 #[.slice a n cap, .func (.func 80) #[] #[]] w fun e w' => ∃ r : Int, e = .returned (.int .i64 r) ∧ (0 ≤ r ↔ ∃ i, i < n ∧ ¬ RightT (f i).t) ∧ Q w w' := by
 have HT := Lib.hid h
 clear h
 go_enter Tryz.func118, Tryz.ntmps118
 go_wp2_with fail
 go_loopw [5, 8] (fun z i wr => ∃ k : Nat, k ≤ n ∧ i = .int .i64 k ∧ Hid (∀ j, j < k → ¬ ¬ RightT (f j).t) ∧ Hid (Q w wr)) (fun _ i _ => n - (intOf i).toNat)
 case atStart => exact ⟨0, by omega, rfl, Lib.hid (fun j hj => by omega), Lib.hid (Q.refl w)⟩
 case round =>
  obtain ⟨k, hk, rfl, J, QR⟩ := hrel
  have k0 : (0 : Int) ≤ (k : Int) := by omega
  by_cases hlt : k < n
  · have k1 : (k : Int) < (n : Int) := by omega
    have HM := Lib.hid ((HT.out.q QR.out).m k hlt)
    have HK := Lib.hid (HT.out.k k hlt)
    obtain ⟨b, off, rfl, hrow⟩ := (HT.out.q QR.out).l.some_ (by omega)
    obtain ⟨c0, c1, c2, c3, c4, c5⟩ := tx_at (hrow k hlt)
    clear hrow
    by_cases hp : ¬ RightT (f k).t
    · have HF : Hid (∀ r : Int, r = k → (0 ≤ r ↔ ∃ i, i < n ∧ ¬ RightT (f i).t)) := fun r e => ⟨fun _ => ⟨k, hlt, hp⟩, fun _ => by omega⟩
      have HB := Lib.hid hp
      clear J hp
      generalize f k = x at *
      go_wp2_with fail
      refine (noTx_w x _ HM.out HK.out).mono ?_
      rintro e w1 ⟨b1, rfl, hb1, q1⟩
      have hb2 : b1 = true := by rw [hb1]; exact HB.out
      subst hb2
      have Q1 := Lib.hid (QR.out.trans q1)
      clear q1 hb1
      go_wp2_with fail
      go_ret
      exact ⟨_, rfl, HF.out _ rfl, Q1.out⟩
    · have J' : Hid (∀ j, j < k + 1 → ¬ ¬ RightT (f j).t) := fun j hj => by
       by_cases e : j = k
       · rw [e]; exact hp
       · exact J.out j (by omega)
      have HB := Lib.hid hp
      clear J hp
      generalize f k = x at *
      go_wp2_with fail
      refine (noTx_w x _ HM.out HK.out).mono ?_
      rintro e w1 ⟨b1, rfl, hb1, q1⟩
      have hb2 : b1 = false := by rw [← Bool.not_eq_true, hb1]; exact HB.out
      subst hb2
      have Q1 := Lib.hid (QR.out.trans q1)
      clear q1 hb1 QR c0 c1 c2 c3 c4 c5 HM HK
      go_wp2_with fail
      go_roundw
      case rel => exact ⟨k + 1, by omega, by go_num, J', Q1⟩
      case measure => simp [intOf]; omega
  · obtain rfl : k = n := by omega
    have td : decide (k < k) = false := by simp
    have HF : Hid ((0 : Int) ≤ -1 ↔ ∃ i, i < k ∧ ¬ RightT (f i).t) := ⟨fun h => absurd h (by decide), fun ⟨i, hi, hp⟩ => absurd hp (J.out i hi)⟩
    go_wp2_with fail
    go_ret
    exact ⟨_, rfl, HF.out, QR.out⟩
theorem contains_tx (a : Option Addr) (n cap : Nat) (f : Nat → TXI) (w : World) (h : TL w a n f) (hn : n ≤ 100) :
 Calls Tryz.prog 79 #[.slice a n cap, .func (.func 80) #[] #[]] w (Tells (∃ i, i < n ∧ ¬ RightT (f i).t) w) := by
 have C := Lib.hid (index_tx a n cap f w h hn)
 clear h
 go_enter Tryz.func79, Tryz.ntmps79
 go_wp2_with fail
 refine C.out.mono ?_
 rintro e w1 ⟨r, rfl, hr, q1⟩
 have HR := Lib.hid hr
 have Q1 := Lib.hid q1
 clear hr q1 C
 go_wp2_with fail
 go_ret
 exact ⟨_, rfl, by rw [← HR.out]; simp, Q1.out⟩
set_option maxHeartbeats 4000000 in
theorem bright_x (z : BKI) (w : World) (h : z.tl w) (hk : z.ok) : Calls Tryz.prog 28 #[z.val] w (Tells (RightB z) w) := by
 have HR : Hid (∀ o, Calls Tryz.prog 79 #[.slice z.a z.n z.c, .func (.func 80) #[] #[]] (w.alloc o) (Tells (∃ i, i < z.n ∧ ¬ RightT (z.g i).t) (w.alloc o))) := fun o => contains_tx z.a z.n z.c z.g _ (h.q ((Q.refl w).alloc o)) hk.n
 have HQ : Hid (∀ o, Q w (w.alloc o)) := fun o => (Q.refl w).alloc o
 obtain ⟨k1, k2, k3⟩ := hk
 have HD : Hid (RightB z ↔ 1 ≤ z.h ∧ z.h ≤ 4294967295 ∧ z.prev.size = 16 ∧ z.n ≤ 8 ∧ ∀ i, i < z.n → RightT (z.g i).t) := Iff.rfl
 obtain ⟨h0, prev, n, g, a, c⟩ := z
 dsimp only at *
 obtain ⟨R, hR⟩ : ∃ R, RightB ⟨h0, prev, n, g, a, c⟩ = R := ⟨_, rfl⟩
 rw [hR] at HD ⊢
 clear h hR
 unfold I64 at k1
 go_enter Tryz.func28, Tryz.ntmps28
 by_cases c0 : 1 ≤ h0
 rotate_left
 · have t0 : decide (1 ≤ h0) = false := by simp; omega
   have t1 : decide (1 ≤ h0) = false := by simp; omega
   have n0 : ¬ (1 ≤ h0) := by omega
   go_wp2_with fail
   go_ret
   exact Tells.no (fun x => by have := HD.out.1 x; omega) (HQ.out _)
 have d0 : 1 ≤ h0 := by omega
 by_cases c1 : h0 ≤ 4294967295
 rotate_left
 · have t0 : decide (h0 ≤ 4294967295) = false := by simp; omega
   have t1 : decide (h0 ≤ 4294967295) = false := by simp; omega
   have n0 : ¬ (h0 ≤ 4294967295) := by omega
   go_wp2_with fail
   go_ret
   exact Tells.no (fun x => by have := HD.out.1 x; omega) (HQ.out _)
 have d1 : h0 ≤ 4294967295 := by omega
 by_cases c2 : prev.size = 16
 rotate_left
 · have t0 : decide (prev.size = 16) = false := by simp; omega
   have t1 : decide ((prev.size : Int) = 16) = false := by simp; omega
   have n0 : ¬ ((prev.size : Int) = 16) := by omega
   go_wp2_with fail
   go_ret
   exact Tells.no (fun x => by have := HD.out.1 x; omega) (HQ.out _)
 have d2 : (prev.size : Int) = 16 := by omega
 by_cases c3 : n ≤ 8
 rotate_left
 · have t0 : decide (n ≤ 8) = false := by simp; omega
   have t1 : decide ((n : Int) ≤ 8) = false := by simp; omega
   have n0 : ¬ ((n : Int) ≤ 8) := by omega
   go_wp2_with fail
   go_ret
   exact Tells.no (fun x => by have := HD.out.1 x; omega) (HQ.out _)
 have d3 : (n : Int) ≤ 8 := by omega
 go_wp2_with fail
 refine (HR.out _).mono ?_
 rintro e w1 ⟨b, rfl, hz, q1⟩
 have Q1 := Lib.hid ((HQ.out _).trans q1)
 rcases two hz with ⟨rfl, Z⟩ | ⟨rfl, Z⟩
 · have Z1 := Lib.hid Z
   clear Z hz HR q1
   go_wp2_with fail
   go_ret
   exact Tells.no (fun x => Z1.out.elim fun i h => h.2 ((HD.out.1 x).2.2.2.2 i h.1)) Q1.out
 · have Z1 := Lib.hid Z
   clear Z hz HR q1
   go_wp2_with fail
   go_ret
   exact Tells.yes (HD.out.2 ⟨c0, c1, c2, c3, fun i hi => Classical.byContradiction fun h => Z1.out ⟨i, hi, h⟩⟩) Q1.out
open Mem Num Cod Sh Plan
theorem infoB : (Tryz.prog.info? 5).map (fun i => (i.zero, i.size, i.bytes)) = some (some (.int .u8 0), 1, 1) := by kernel_rfl
/-- A Builder of one's own that holds a text. -/
abbrev SB (B b : Nat) (s : ByteArray) (w : World) : Prop := Lib.IsBuilder 168 5 B b (Lib.strCells s) w
abbrev SU (B b : Nat) (s : ByteArray) (w : World) : Prop := Lib.BuilderAt 168 5 B b (.pointer (some ⟨b, 0, none⟩)) (Lib.strCells s) w
theorem at_q {B b : Nat} {p : Value} {bs : List Value} {W W' : World} (h : Lib.BuilderAt 168 5 B b p bs W) (q : Q W W') : Lib.BuilderAt 168 5 B b p bs W' := by
 have hlt := h.lt
 obtain ⟨hB, v, hbk, hown, hne⟩ := h
 refine ⟨hB, v, (q.block b hlt).trans hbk, ?_, hne⟩
 refine hown.kept (row := none) ⟨q.os, q.tape, q.output, q.size, fun k hk _ => q.block k hk⟩ ?_
 rcases hown.2 with ⟨rfl, _⟩ | ⟨g, cap, cur, rfl, _⟩
 · exact .inl rfl
 · exact .inr (by simp [Value.ownBlock])
theorem SB.q {B b : Nat} {s : ByteArray} {W W' : World} (h : SB B b s W) (q : Q W W') : SB B b s W' := h.elim (fun h => .inl (at_q h q)) (fun h => .inr (at_q h q))
theorem SB.new (w : World) : SB w.heap.size w.heap.size ByteArray.empty (w.alloc (.cells #[.pointer none, .slice none 0 0] 168)) :=
 .inl ⟨Nat.le_refl _, .slice none 0 0, heap_alloc_new w _, World.ownsRow_nil _ _ _ _, by simp [Value.ownBlock]⟩
set_option maxHeartbeats 4000000 in
theorem check_f (b : Nat) (w : World) (h0 : w.cell? ⟨b, 0, none⟩ = some (.pointer none)) (hsh : w.shape? b = some (168, 2)) (hfz : w.frozen? ⟨b, 0, none⟩ = false) :
 Calls Tryz.prog 142 #[.pointer (some ⟨b, 0, none⟩)] w fun e w' => e = .returned (.tuple #[]) ∧ w' = w.setCell ⟨b, 0, none⟩ (.pointer (some ⟨b, 0, none⟩)) := by
 obtain ⟨j, hj, hjs⟩ := Option.map_eq_some_iff.1 (show (Tryz.prog.info? 168).map (·.size) = some 2 by kernel_rfl)
 have c1 := Lib.run_to_unsafe (P := Tryz.prog) w ⟨b, 0, none⟩ Tryz.underlying166 Tryz.underlying207 hj (by rw [hjs]; decide) hsh (Nat.zero_lt_succ 1)
 have c2 := Lib.run_from_unsafe (P := Tryz.prog) w ⟨b, 0, none⟩ Tryz.underlying207 Tryz.underlying166 hj hsh (by kernel_rfl)
 clear hj hjs
 go_enter Tryz.func142, Tryz.ntmps142
 go_wp2_with fail
 rw [run_callFunc_extern Tryz.func153 (by kernel_rfl) (by kernel_rfl) (by kernel_rfl) (e := Extern.AbiNoEscape.same) (by kernel_rfl)]
 rw [Lib.run_noEscape]
 simp only [Result.andThen]
 rw [Oper.upon_value]
 go_wp2_with fail
 go_end0
 exact ⟨rfl, rfl⟩
set_option maxHeartbeats 4000000 in
theorem check_u (b : Nat) (w : World) (h0 : w.cell? ⟨b, 0, none⟩ = some (.pointer (some ⟨b, 0, none⟩))) :
 Calls Tryz.prog 142 #[.pointer (some ⟨b, 0, none⟩)] w fun e w' => e = .returned (.tuple #[]) ∧ w' = w := by
 obtain ⟨j, hj, _⟩ := Option.map_eq_some_iff.1 (show (Tryz.prog.info? 168).map (·.size) = some 2 by kernel_rfl)
 go_enter Tryz.func142, Tryz.ntmps142
 go_wp2_with fail
 rw [Lib.run_neq_ptr_same w _ Tryz.underlying166 hj]
 go_wp2_with fail
 go_end0
 exact ⟨rfl, rfl⟩
theorem check_b (B b : Nat) (s : ByteArray) (w : World) (h : SB B b s w) : Calls Tryz.prog 142 #[.pointer (some ⟨b, 0, none⟩)] w fun e w' => e = .returned (.tuple #[]) ∧ SU B b s w' ∧ Below B w w' := by
 rcases h with h | h
 · refine (check_f b w h.cell0 h.shape h.frozen0).mono ?_
   rintro e w' ⟨rfl, rfl⟩
   exact ⟨rfl, h.used _, (Below.refl B w).setCell (p := ⟨b, 0, none⟩) h.1 _⟩
 · refine (check_u b w h.cell0).mono ?_
   rintro e w' ⟨rfl, rfl⟩
   exact ⟨rfl, h, Below.refl B _⟩
theorem cells_app (a b : ByteArray) : Lib.strCells a ++ Lib.strCells b = Lib.strCells (a ++ b) := by
 unfold Lib.strCells; rw [← List.map_append, ByteArray.data_append, Array.toList_append]
set_option maxHeartbeats 4000000 in
theorem SB.write {B b : Nat} {s : ByteArray} {w : World} (h : SB B b s w) (t : ByteArray) (hs : s.size ≤ 10000000) (ht : t.size ≤ 1000000) (h0 : 0 < t.size) (hBw : B ≤ w.heap.size) :
 Calls Tryz.prog 119 #[.pointer (some ⟨b, 0, none⟩), .string t] w fun e w' => e = .returned (.tuple #[.int .i64 t.size, .nilIface]) ∧ SB B b (s ++ t) w' ∧ Below B w w' := by
 obtain ⟨i0, hi0, hz0, hz1, hz2⟩ := info_of infoB
 have HC := Lib.hid (check_b B b s w h)
 clear h
 go_enter Tryz.func119, Tryz.ntmps119
 go_wp2_with fail
 refine HC.out.mono ?_
 rintro e w1 ⟨rfl, hu, hb1⟩
 have BB := Lib.hid hb1
 have hs1 : w.heap.size ≤ w1.heap.size := hb1.size
 have hlt := hu.lt
 obtain ⟨hB, v, hbk, hown, hne⟩ := hu
 have c1 : w1.cell? ⟨b, 1, none⟩ = some v := by rw [Lib.cell_of_heap hbk]; rfl
 have hln := Lib.strCells_length s
 have hm : (Lib.strCells s).length + t.size ≤ maxLen := by unfold maxLen; omega
 have hm2 : (Lib.strCells s).length + t.size ≤ 140737488355328 := by omega
 clear hb1 HC
 go_wp2_with (at_builtin; refine halt ?_)
 refine Lib.hid (Lib.wpList_append_own_string _ rfl _ _ 121 9 rfl B 5 i0 Tryz.underlying121 Tryz.underlying9 hi0 hz0 hz1 hz2 _ _ _ rfl hown t rfl hm hm2 (by omega) ?_)
 intro v' w2 hown' hgrow _
 have hb2 : w2.heap[b]? = some (.cells #[.pointer (some ⟨b, 0, none⟩), v] 168 (0, 0)) := by
  rw [hgrow.block b hlt (fun e => hne e.symm)]
  exact hbk
 have d1 : w2.cell? ⟨b, 1, none⟩ = some v := by rw [Lib.cell_of_heap hb2]; rfl
 have f1 : w2.frozen? ⟨b, 1, none⟩ = false := Lib.frozen_of_heap hb2 1
 have hl2 : (Lib.strCells s ++ Lib.strCells t).length = (Lib.strCells s).length + t.size := by rw [List.length_append]; rw [Lib.strCells_length t]
 have HB : Hid (SB B b (s ++ t) (w2.setCell ⟨b, 1, none⟩ v') ∧ Below B w (w2.setCell ⟨b, 1, none⟩ v')) :=
  ⟨.inr (by rw [← cells_app]; exact Lib.BuilderAt.put hB hb2 (bs' := Lib.strCells s ++ Lib.strCells t) (by rw [hl2]; exact hown') (by decide)), BB.out.trans (((Below.refl B w1).grown hgrow (by omega) (fun k hk => (hown.lt k hk).1)).setCell (p := ⟨b, 1, none⟩) hB _)⟩
 obtain ⟨g, cap, rfl⟩ : ∃ g cap, v' = .slice (some ⟨g, 0, none⟩) ((Lib.strCells s).length + t.size) cap := by
  rcases hown'.2 with ⟨_, h0⟩ | ⟨g, cap, cur, hv, _⟩
  · omega
  · exact ⟨g, cap, hv⟩
 clear hb2 hown' hgrow hown hbk c1 hne hl2 hi0 hz0 hz1 hz2 hln
 go_wp2_with fail
 go_ret2
 exact ⟨rfl, HB.out⟩
theorem SB.text {B b : Nat} {s : ByteArray} {w : World} (h : SB B b s w) (hBw : B ≤ w.heap.size) :
 Calls Tryz.prog 120 #[.pointer (some ⟨b, 0, none⟩)] w fun e w' => e = .returned (.string s) ∧ Below B w w' := by
 refine (Tryz.Builder_String_any B b s.data.toList w h hBw).mono ?_
 rintro e w' ⟨rfl, h1⟩
 obtain ⟨⟨l⟩⟩ := s
 exact ⟨rfl, h1⟩
theorem Enc.v {R : Prop} {T : ByteArray} {w w' : World} {e : Ending} (hR : R) (h : Enc R T w e w') : e = .returned (.string T) ∧ Q w w' := by
 obtain ⟨s, rfl, h1 | h1, q⟩ := h
 · rw [h1.2]; exact ⟨rfl, q⟩
 · exact absurd hR h1.1
theorem Enc.n {R : Prop} {T : ByteArray} {w w' : World} {e : Ending} (hR : ¬ R) (h : Enc R T w e w') : e = .returned (.string ⟨#[]⟩) ∧ Q w w' := by
 obtain ⟨s, rfl, h1 | h1, q⟩ := h
 · exact absurd h1.1 hR
 · rw [h1.2]; exact ⟨rfl, q⟩
def akS (x : OU) : ByteArray := putS x.amount ++ x.key
theorem put_x (n : Int) (s : ByteArray) (hs : putS n = s) (h : U64 n) (w : World) : Calls Tryz.prog 81 #[.int .u64 n] w fun e w' => e = .returned (.string s) ∧ Q w w' := by subst hs; exact put_any n w h.1 h.2
set_option maxHeartbeats 40000000 in
theorem amkey_x (x : OU) (w0 : World) (ha : U64 x.amount) (hk : x.key.size ≤ 1000000) : Calls Tryz.prog 87 #[ouV x] w0 fun e w' => e = .returned (.string (akS x)) ∧ Q w0 w' := by
 obtain ⟨s, hs⟩ : ∃ s, akS x = s := ⟨_, rfl⟩
 obtain ⟨p, hp⟩ : ∃ s, putS x.amount = s := ⟨_, rfl⟩
 have e1 : p ++ x.key = s := by rw [← hs, ← hp]; rfl
 have zp : p.size ≤ 1000000 := by rw [← hp, putS_size]; decide
 have PUT : Hid (∀ w, Calls Tryz.prog 81 #[.int .u64 x.amount] w fun e w' => e = .returned (.string p) ∧ Q w w') := fun w => put_x _ _ hp ha w
 obtain ⟨kind, amount, key, gate, expiry, anchor, unit, tokens, of_⟩ := x
 dsimp only at *
 rw [hs]
 clear hs hp ha
 go_enter Tryz.func87, Tryz.ntmps87
 go_wp2_with fail
 have QA : Hid (Q w0 (w0.alloc (.cells #[.int .i64 kind, .int .u64 amount, .string key, .string gate, .int .i64 expiry, .string anchor, .int .u64 unit, .int .i64 tokens, .string of_] 47))) := (Q.refl w0).alloc _
 have B1 : Hid (Box (w0.alloc (.cells #[.int .i64 kind, .int .u64 amount, .string key, .string gate, .int .i64 expiry, .string anchor, .int .u64 unit, .int .i64 tokens, .string of_] 47)) w0.heap.size [.int .i64 kind, .int .u64 amount, .string key, .string gate, .int .i64 expiry, .string anchor, .int .u64 unit, .int .i64 tokens, .string of_]) := Box.new w0 [.int .i64 kind, .int .u64 amount, .string key, .string gate, .int .i64 expiry, .string anchor, .int .u64 unit, .int .i64 tokens, .string of_] 47
 generalize w0.alloc (.cells #[.int .i64 kind, .int .u64 amount, .string key, .string gate, .int .i64 expiry, .string anchor, .int .u64 unit, .int .i64 tokens, .string of_] 47) = wA at *
 obtain ⟨b1, hb1⟩ : ∃ b, w0.heap.size = b := ⟨_, rfl⟩
 rw [hb1] at B1 ⊢
 have hS0 : Q wA wA.drew := (Q.refl wA).drew
 refine region_gen3 ?_
 intro OPS QQ A0 hO hQQ hA
 have hz : A0.tmps.size = 9 := by rw [hA]; rfl
 have hs : sound OPS A0.tmps.size = true := by rw [hz, hO]; kernel_rfl
 have b_1 : A0.eval (.tmp 1) = .pointer (some ⟨b1, 0, none⟩) := by rw [hA]; rfl
 have fr_1 : free OPS 1 = true := by rw [hO]; kernel_rfl
 obtain ⟨VV, hVV⟩ : ∃ V : Nat → Value → World → Prop, V = fun i => ([fun v _ => v = .pointer (some ⟨b1, 1, none⟩), fun v _ => v = .int .u64 amount, fun v _ => v = .string p, fun v _ => v = .pointer (some ⟨b1, 2, none⟩), fun v _ => v = .string key, fun v _ => v = .string s, fun v _ => v = .string s] : List (Value → World → Prop)).getD i (fun _ _ => True) := ⟨_, rfl⟩
 have v_0 : VV 0 = fun v _ => v = .pointer (some ⟨b1, 1, none⟩) := vat hVV 0
 have v_1 : VV 1 = fun v _ => v = .int .u64 amount := vat hVV 1
 have v_2 : VV 2 = fun v _ => v = .string p := vat hVV 2
 have v_3 : VV 3 = fun v _ => v = .pointer (some ⟨b1, 2, none⟩) := vat hVV 3
 have v_4 : VV 4 = fun v _ => v = .string key := vat hVV 4
 have v_5 : VV 5 = fun v _ => v = .string s := vat hVV 5
 have v_6 : VV 6 = fun v _ => v = .string s := vat hVV 6
 have hV := stable_of (T := Q) hVV ((sk (sk (sk (sk (sk (sk (sk trivial))))))))
 clear hVV
 have i_0 := pget_at hO 0 rfl
 have i_1 := pget_at hO 1 rfl
 have i_2 := pget_at hO 2 rfl
 have i_3 := pget_at hO 3 rfl
 have i_4 := pget_at hO 4 rfl
 have i_5 := pget_at hO 5 rfl
 have i_6 := pget_at hO 6 rfl
 have MK14 := @Step.pure Tryz.prog OPS QQ VV Q (Q wA) A0
 have s_0 := MK14 i_0 (.pointer (some ⟨b1, 1, none⟩)) (Q.refl ·) (fun l a w hI hl => ⟨wanted_none rfl, (by have e0 : a.eval (.tmp 1) = _ := ((hI.base 1 fr_1).trans b_1); generalize a.eval = ρ at e0 ⊢; simp [go_sem, e0]), at_mk v_0 rfl⟩)
 have s_1 := MK14 i_1 (.int .u64 amount) (Q.refl ·) (fun l a w hI hl => ⟨wanted_none rfl, (by have e0 : a.eval (.tmp 3) = _ := (at_eq v_0 (hI.at_ 0 3 _ i_0 rfl (hl_at hl 0 rfl rfl))); have x0 := (B1.out.q hI.st).at_ 1 _ rfl; generalize a.eval = ρ at e0 ⊢; simp [go_sem, e0, x0]), at_mk v_1 rfl⟩)
 have s_2 := Step.call (P := Tryz.prog) (V := VV) (T := Q) (S := (Q wA)) (a0 := A0) (Qx := QQ) (R := fun _ _ _ => True) i_2 (fun l a w hI hl => by
  refine ⟨wanted_none rfl, 81, #[.int .u64 amount], ?_, ?_⟩
  · exact ex_call rfl (by simp only [List.map_toArray, List.map_cons, List.map_nil, ev_const, (show a.eval (.tmp 4) = _ from (at_eq v_1 (hI.at_ 1 4 _ i_1 rfl (hl_at hl 0 rfl rfl))))]) Tryz.func81 (by kernel_rfl) (by kernel_rfl)
  · exact (PUT.out w).mono fun e w' hc => by
     obtain ⟨rfl, hq⟩ := hc
     exact ⟨_, rfl, hq, hI.st.trans hq, at_mk v_2 rfl⟩)
 have s_3 := MK14 i_3 (.pointer (some ⟨b1, 2, none⟩)) (Q.refl ·) (fun l a w hI hl => ⟨wanted_none rfl, (by have e0 : a.eval (.tmp 1) = _ := ((hI.base 1 fr_1).trans b_1); generalize a.eval = ρ at e0 ⊢; simp [go_sem, e0]), at_mk v_3 rfl⟩)
 have s_4 := MK14 i_4 (.string key) (Q.refl ·) (fun l a w hI hl => ⟨wanted_none rfl, (by have e0 : a.eval (.tmp 6) = _ := (at_eq v_3 (hI.at_ 3 6 _ i_3 rfl (hl_at hl 0 rfl rfl))); have x0 := (B1.out.q hI.st).at_ 2 _ rfl; generalize a.eval = ρ at e0 ⊢; simp [go_sem, e0, x0]), at_mk v_4 rfl⟩)
 have s_5 := MK14 i_5 (.string s) (Q.refl ·) (fun l a w hI hl => ⟨wanted_none rfl, ex_bin rfl (at_eq v_2 (hI.at_ 2 5 _ i_2 rfl (hl_at hl 0 rfl rfl))) (at_eq v_4 (hI.at_ 4 7 _ i_4 rfl (hl_at hl 1 rfl rfl))) (cats zp hk e1), at_mk v_5 rfl⟩)
 have s_6 := MK14 i_6 (.string s) (Q.refl ·) (fun l a w hI hl => ⟨wanted_none rfl, ex_assign rfl (at_eq v_5 (hI.at_ 5 8 _ i_5 rfl (hl_at hl 0 rfl rfl))), at_mk v_6 rfl⟩)
 refine wp_plan VV Q (Q wA) (by kernel_rfl) hs hV hS0 (steps_all hO ((sf_cons s_0 (sf_cons s_1 (sf_cons s_2 (sf_cons s_3 (sf_cons s_4 (sf_cons s_5 (sf_cons s_6 trivial))))))))) ?_
 intro l a' w' hall hIv
 have e0 : a'.eval (.tmp 2) = .string s := at_eq v_6 (hIv.at_ 6 2 _ i_6 rfl (hall 6 (by rw [hO]; decide)))
 have hd : a'.defers = [] := by (rw [hIv.df, hA]; try rfl)
 have hst := QA.out.trans hIv.st
 rw [hQQ]
 clear hIv hall
 go_wp2_with fail
 (try simp only [Exit.inBlock, Exit.then])
 refine bodyPost_ret (results_tmp rfl _ _ _) hd ?_
 exact ⟨congrArg Ending.returned e0, hst⟩
theorem SB.lt {B b : Nat} {s : ByteArray} {w : World} (h : SB B b s w) : b < w.heap.size := h.elim (fun h => h.lt) (fun h => h.lt)
theorem q_below {w0 w w' : World} {b : Nat} (h : Q w0 w) (hb : w0.heap.size = b) (b3 : Below b w w') : Q w0 w' := by subst hb; exact Below.trans h b3
theorem zeroOu (w : World) : (zeroValue 47).run Tryz.prog w = .ok (.agg #[.int .i64 0, .int .u64 0, .string ⟨#[]⟩, .string ⟨#[]⟩, .int .i64 0, .string ⟨#[]⟩, .int .u64 0, .int .i64 0, .string ⟨#[]⟩]) w := by
 have h : (Tryz.prog.info? 47).map (·.zero) = some (some (.agg #[.int .i64 0, .int .u64 0, .string ⟨#[]⟩, .string ⟨#[]⟩, .int .i64 0, .string ⟨#[]⟩, .int .u64 0, .int .i64 0, .string ⟨#[]⟩])) := by kernel_rfl
 cases hi : Tryz.prog.info? 47 with
 | none => rw [hi] at h; cases h
 | some i => rw [hi] at h; simp [zeroValue, typeInfo, hi, show i.zero = some (.agg #[.int .i64 0, .int .u64 0, .string ⟨#[]⟩, .string ⟨#[]⟩, .int .i64 0, .string ⟨#[]⟩, .int .u64 0, .int .i64 0, .string ⟨#[]⟩]) by simpa using h]
set_option maxHeartbeats 40000000 in
theorem gather_out (a : Option Addr) (n c : Nat) (f : Nat → OU) (w0 : World) (hG : GL w0) (h : SL OU.cells 9 w0 a n f) (hn : n ≤ 100) (hyp : ∀ i, i < n → U64 (f i).amount ∧ (f i).key.size ≤ 2000) :
 Calls Tryz.prog 86 #[.slice a n c, .func (.func 87) #[] #[]] w0 fun e w' => e = .returned (.string (catN (fun i => akS (f i)) n)) ∧ Q w0 w' := by
 have HT := Lib.hid h
 have HG := Lib.hid hG
 have HH := Lib.hid hyp
 have S0 := Lib.hid (SB.new w0)
 have Q0 : Hid (Q w0 (w0.alloc (.cells #[.pointer none, .slice none 0 0] 168))) := (Q.refl w0).alloc _
 clear h hG hyp
 obtain ⟨F, hF⟩ : ∃ F : Nat → ByteArray, F = fun i => akS (f i) := ⟨_, rfl⟩
 have HF : Hid (∀ i, F i = akS (f i)) := fun i => by rw [hF]
 rw [show (fun i => akS (f i)) = F from hF.symm]
 clear hF
 go_enter Tryz.func86, Tryz.ntmps86
 go_wp2_with fail
 generalize w0.alloc (.cells #[.pointer none, .slice none 0 0] 168) = wA at *
 obtain ⟨b, hb⟩ : ∃ b, w0.heap.size = b := ⟨_, rfl⟩
 have HB := Lib.hid hb
 rw [hb] at S0 ⊢
 clear hb
 have HZ : Hid (∀ i, i < n → 0 < (F i).size ∧ (F i).size ≤ 3000) := fun i hi => by rw [HF.out]; exact ⟨by unfold akS; rw [ByteArray.size_append, putS_size]; omega, by unfold akS; rw [ByteArray.size_append, putS_size]; have := (HH.out i hi).2; omega⟩
 go_loopw [7, 10] (fun z i wr => ∃ k : Nat, k ≤ n ∧ i = .int .i64 k ∧ Hid (SB b b (catN F k) wr) ∧ Hid (Q w0 wr)) (fun _ i _ => n - (intOf i).toNat)
 case atStart => exact ⟨0, by omega, rfl, S0, Q0⟩
 case round =>
  obtain ⟨k, hk, rfl, H, QR⟩ := hrel
  clear S0 Q0
  have k0 : (0 : Int) ≤ (k : Int) := by omega
  have ZC : Hid ((catN F k).size ≤ 1000000) := by
   show _ ≤ _
   have := catN_size F 3000 k (fun i hi => (HZ.out i (by omega)).2)
   have : k * 3000 ≤ 100 * 3000 := Nat.mul_le_mul_right _ (by omega)
   omega
  by_cases hlt : k < n
  · have k1 : (k : Int) < (n : Int) := by omega
    obtain ⟨b1, off, rfl, hrow⟩ := (HT.out.q QR.out).some_ (by omega)
    have RW : Hid (wr.rangeAt b1 (off + k * 9) (OU.cells (f k))) := hrow k (by omega)
    clear hrow
    have LL : Hid (Calls Tryz.prog 87 = Calls Tryz.prog 87) := rfl
    obtain ⟨z, hz⟩ : ∃ z, f k = z := ⟨_, rfl⟩
    have ZA := Lib.hid (HH.out k hlt)
    rw [hz] at ZA
    rw [hz] at RW
    have FK : Hid (F k = akS z) := by show _ = _; rw [HF.out, hz]
    obtain ⟨t, ht⟩ : ∃ t, F k = t := ⟨_, rfl⟩
    have ZT : Hid (0 < t.size ∧ t.size ≤ 3000) := by rw [← ht]; exact HZ.out k hlt
    have HTT := Lib.hid ht
    have TZ : Hid (akS z = t) := by rw [← FK.out]; exact ht
    clear hz ht
    go_wp2_with (with_reducible (show wpList _ _ _ (⟨_, Op.load 47 _, _, _, _, _⟩ :: _) _ _); refine halt ?_)
    refine Lib.hid (wpList_load_mid rfl 47 _ rfl b1 (off + k * 9) rfl (OU.cells z) _ RW.out Tryz.underlying47 rfl (by kernel_rfl) ?_)
    refine wpList_allocZ rfl 47 rfl #[.int .i64 0, .int .u64 0, .string ⟨#[]⟩, .string ⟨#[]⟩, .int .i64 0, .string ⟨#[]⟩, .int .u64 0, .int .i64 0, .string ⟨#[]⟩] zeroOu ?_
    refine st_box rfl 47 _ _ rfl wr.heap.size _ (OU.cells z) rfl rfl (Box.new wr [.int .i64 0, .int .u64 0, .string ⟨#[]⟩, .string ⟨#[]⟩, .int .i64 0, .string ⟨#[]⟩, .int .u64 0, .int .i64 0, .string ⟨#[]⟩] 47) rfl (by kernel_rfl) (one9 rfl rfl rfl rfl rfl rfl rfl rfl rfl) ?_
    intro w1 B1 c1
    have q1 : Q wr w1 := c1.q ((Q.refl wr).alloc _) (Nat.le_refl _)
    have H1 := Lib.hid (H.out.q q1)
    have Q1 := Lib.hid (QR.out.trans q1)
    have BX := Lib.hid B1
    have RW1 := Lib.hid q1
    clear H QR c1 B1 q1
    obtain ⟨bx, hbx⟩ : ∃ x, wr.heap.size = x := ⟨_, rfl⟩
    rw [hbx] at BX ⊢
    clear hbx
    refine wpList_nil ?_
    go_wp2_with (with_reducible (show wpList _ _ _ (⟨_, Op.load 47 _, _, _, _, _⟩ :: _) _ _); refine halt ?_)
    refine Lib.hid (ld_box rfl 47 _ rfl bx _ rfl BX.out Tryz.underlying47 rfl (by kernel_rfl) ?_)
    go_wp2_with fail
    refine (amkey_x z _ ZA.out.1 (by have := ZA.out.2; omega)).mono ?_
    rw [TZ.out]
    rintro e w2 ⟨rfl, q2⟩
    have H2 := Lib.hid (H1.out.q q2)
    have Q2 := Lib.hid (Q1.out.trans q2)
    clear H1 Q1 q2 BX RW RW1
    go_wp2_with fail
    refine (H2.out.write t (by have := ZC.out; omega) (by have := ZT.out; omega) (by have := ZT.out; omega) (Nat.le_of_lt H2.out.lt)).mono ?_
    rintro e w3 ⟨rfl, h3, b3⟩
    have H3 : Hid (SB b b (catN F (k + 1)) w3) := by
     show SB b b (catN F k ++ F k) w3
     rw [HTT.out]; exact h3
    have Q3 := Lib.hid (q_below Q2.out HB.out b3)
    clear H2 Q2 h3 b3
    go_wp2_with fail
    go_roundw
    case rel => exact ⟨k + 1, by omega, by go_num, H3, Q3⟩
    case measure => simp [intOf]; omega
  · obtain rfl : k = n := by omega
    have td : decide (k < k) = false := by simp
    go_wp2_with fail
    refine (H.out.text (Nat.le_of_lt H.out.lt)).mono ?_
    rintro e w3 ⟨rfl, b3⟩
    have Q3 := Lib.hid (q_below QR.out HB.out b3)
    clear b3
    go_wp2_with fail
    go_ret
    exact ⟨rfl, Q3.out⟩
set_option maxHeartbeats 40000000 in
theorem gather_tx (a : Option Addr) (n c : Nat) (f : Nat → TXI) (w0 : World) (hG : GL w0) (h : TL w0 a n f) (hn : n ≤ 100) (hyp : ∀ i, i < n → RightT (f i).t) :
 Calls Tryz.prog 82 #[.slice a n c, .func (.func 18) #[] #[]] w0 fun e w' => e = .returned (.string (catN (fun i => idS (f i).t) n)) ∧ Q w0 w' := by
 have HT := Lib.hid h
 have HG := Lib.hid hG
 have HH := Lib.hid hyp
 have S0 := Lib.hid (SB.new w0)
 have Q0 : Hid (Q w0 (w0.alloc (.cells #[.pointer none, .slice none 0 0] 168))) := (Q.refl w0).alloc _
 clear h hG hyp
 obtain ⟨F, hF⟩ : ∃ F : Nat → ByteArray, F = fun i => idS (f i).t := ⟨_, rfl⟩
 have HF : Hid (∀ i, F i = idS (f i).t) := fun i => by rw [hF]
 rw [show (fun i => idS (f i).t) = F from hF.symm]
 clear hF
 go_enter Tryz.func82, Tryz.ntmps82
 go_wp2_with fail
 generalize w0.alloc (.cells #[.pointer none, .slice none 0 0] 168) = wA at *
 obtain ⟨b, hb⟩ : ∃ b, w0.heap.size = b := ⟨_, rfl⟩
 have HB := Lib.hid hb
 rw [hb] at S0 ⊢
 clear hb
 have HZ : Hid (∀ i, i < n → 0 < (F i).size ∧ (F i).size ≤ 3000) := fun i hi => by rw [HF.out]; rw [idS_size]; omega
 go_loopw [7, 10] (fun z i wr => ∃ k : Nat, k ≤ n ∧ i = .int .i64 k ∧ Hid (SB b b (catN F k) wr) ∧ Hid (Q w0 wr)) (fun _ i _ => n - (intOf i).toNat)
 case atStart => exact ⟨0, by omega, rfl, S0, Q0⟩
 case round =>
  obtain ⟨k, hk, rfl, H, QR⟩ := hrel
  clear S0 Q0
  have k0 : (0 : Int) ≤ (k : Int) := by omega
  have ZC : Hid ((catN F k).size ≤ 1000000) := by
   show _ ≤ _
   have := catN_size F 3000 k (fun i hi => (HZ.out i (by omega)).2)
   have : k * 3000 ≤ 100 * 3000 := Nat.mul_le_mul_right _ (by omega)
   omega
  by_cases hlt : k < n
  · have k1 : (k : Int) < (n : Int) := by omega
    obtain ⟨b1, off, rfl, hrow⟩ := ((HT.out.q QR.out).l).some_ (by omega)
    have RW : Hid (wr.rangeAt b1 (off + k * 6) (TXI.cells (f k))) := hrow k (by omega)
    clear hrow
    have LL : Hid (Calls Tryz.prog 18 = Calls Tryz.prog 18) := rfl
    obtain ⟨z, hz⟩ : ∃ z, f k = z := ⟨_, rfl⟩
    have ZM := Lib.hid (HT.out.m k hlt)
    have ZK := Lib.hid (HT.out.k k hlt)
    have ZR := Lib.hid (HH.out k hlt)
    rw [hz] at ZM ZK ZR
    rw [hz] at RW
    have FK : Hid (F k = idS z.t) := by show _ = _; rw [HF.out, hz]
    obtain ⟨t, ht⟩ : ∃ t, F k = t := ⟨_, rfl⟩
    have ZT : Hid (0 < t.size ∧ t.size ≤ 3000) := by rw [← ht]; exact HZ.out k hlt
    have HTT := Lib.hid ht
    have TZ : Hid (idS z.t = t) := by rw [← FK.out]; exact ht
    clear hz ht
    go_wp2_with (with_reducible (show wpList _ _ _ (⟨_, Op.load 29 _, _, _, _, _⟩ :: _) _ _); refine halt ?_)
    refine Lib.hid (wpList_load_mid rfl 29 _ rfl b1 (off + k * 6) rfl (TXI.cells z) _ RW.out Tryz.underlying29 rfl (by kernel_rfl) ?_)
    refine wpList_allocZ rfl 29 rfl #[.slice none 0 0, .slice none 0 0, .int .u64 0, .string ⟨#[]⟩, .string ⟨#[]⟩, .slice none 0 0] zeroT ?_
    refine st_box rfl 29 _ _ rfl wr.heap.size _ (TXI.cells z) rfl rfl (Box.new wr [.slice none 0 0, .slice none 0 0, .int .u64 0, .string ⟨#[]⟩, .string ⟨#[]⟩, .slice none 0 0] 29) rfl (by kernel_rfl) (one6 rfl rfl rfl rfl rfl rfl) ?_
    intro w1 B1 c1
    have q1 : Q wr w1 := c1.q ((Q.refl wr).alloc _) (Nat.le_refl _)
    have H1 := Lib.hid (H.out.q q1)
    have Q1 := Lib.hid (QR.out.trans q1)
    have BX := Lib.hid B1
    have RW1 := Lib.hid q1
    clear H QR c1 B1 q1
    obtain ⟨bx, hbx⟩ : ∃ x, wr.heap.size = x := ⟨_, rfl⟩
    rw [hbx] at BX ⊢
    clear hbx
    refine wpList_nil ?_
    go_wp2_with (with_reducible (show wpList _ _ _ (⟨_, Op.load 29 _, _, _, _, _⟩ :: _) _ _); refine halt ?_)
    refine Lib.hid (ld_box rfl 29 _ rfl bx _ rfl BX.out Tryz.underlying29 rfl (by kernel_rfl) ?_)
    go_wp2_with fail
    refine (id_x z.t z.aI z.aO z.aW z.cI z.cO z.cW _ (HG.out.q Q1.out) (ZM.out.q Q1.out) ZK.out).mono ?_
    intro e w2 he
    obtain ⟨rfl, q2⟩ := he.v ZR.out
    rw [TZ.out]
    clear he
    have H2 := Lib.hid (H1.out.q q2)
    have Q2 := Lib.hid (Q1.out.trans q2)
    clear H1 Q1 q2 BX RW RW1
    go_wp2_with fail
    refine (H2.out.write t (by have := ZC.out; omega) (by have := ZT.out; omega) (by have := ZT.out; omega) (Nat.le_of_lt H2.out.lt)).mono ?_
    rintro e w3 ⟨rfl, h3, b3⟩
    have H3 : Hid (SB b b (catN F (k + 1)) w3) := by
     show SB b b (catN F k ++ F k) w3
     rw [HTT.out]; exact h3
    have Q3 := Lib.hid (q_below Q2.out HB.out b3)
    clear H2 Q2 h3 b3
    go_wp2_with fail
    go_roundw
    case rel => exact ⟨k + 1, by omega, by go_num, H3, Q3⟩
    case measure => simp [intOf]; omega
  · obtain rfl : k = n := by omega
    have td : decide (k < k) = false := by simp
    go_wp2_with fail
    refine (H.out.text (Nat.le_of_lt H.out.lt)).mono ?_
    rintro e w3 ⟨rfl, b3⟩
    have Q3 := Lib.hid (q_below QR.out HB.out b3)
    clear b3
    go_wp2_with fail
    go_ret
    exact ⟨rfl, Q3.out⟩
def wBlock : ByteArray := ⟨#[98, 108, 111, 99, 107]⟩
def wFirst : ByteArray := ⟨#[102, 105, 114, 115, 116]⟩
def tri (a b c : ByteArray) (i : Nat) : ByteArray := if i = 0 then a else if i = 1 then b else c
theorem tri_size (a b c : ByteArray) (n : Nat) (ha : a.size ≤ n) (hb : b.size ≤ n) (hc : c.size ≤ n) (i : Nat) : (tri a b c i).size ≤ n := by unfold tri; split; assumption; split <;> assumption
theorem row3 (w : World) (a b c : ByteArray) (T : TypeId) : RowS (w.alloc (.cells #[.string a, .string b, .string c] T)) w.heap.size 0 3 (tri a b c) := by
 intro i hi
 rw [World.cell?_alloc_at _ _ _ _ rfl, Nat.zero_add]
 match i, hi with
 | 0, _ => rfl
 | 1, _ => rfl
 | 2, _ => rfl
 | n + 3, h => omega
theorem tri_at (word a b c x : ByteArray) (hx : tagS word (tri a b c) 3 = x) (T : TypeId) (wB w : World) (qb : Q (wB.alloc (.cells #[.string a, .string b, .string c] T)) w) (hG : GL w) (hw : word.size ≤ 1000000) (ha : a.size ≤ 1000000) (hb : b.size ≤ 1000000) (hc : c.size ≤ 1000000) :
 Calls Tryz.prog 71 #[.string word, .slice (some ⟨wB.heap.size, 0, none⟩) 3 3] w fun e w' => e = .returned (.string x) ∧ Q w w' := by
 subst hx
 have hlt : wB.heap.size < w.heap.size := by have := qb.size; simp at this; omega
 exact tag_any word wB.heap.size 0 3 3 (tri a b c) w (Q.refl w) hG ((row3 wB a b c T).q qb (by simp)) (fun _ => hlt) hw (by omega) (tri_size a b c _ ha hb hc)
theorem fill_s3 (s t u : ByteArray) : Instr.fill (fun i => some (i * 1, 1)) ((Array.range (3 * 1)).map ((Value.string ⟨#[]⟩).cells[· % (Value.string ⟨#[]⟩).cells.size]!)) [(0, .string s), (1, .string t), (2, .string u)] = some #[.string s, .string t, .string u] := by kernel_rfl
theorem wpo_s3 {o : Oper} {a : Act} {w : World} {K : Act → World → Prop} {Q : Exit → Act → World → Prop} {x y z : Operand} (s t u : ByteArray) (ho : o.op = .buildSlice 117 3 #[(0, x), (1, y), (2, z)]) (h0 : a.eval x = .string s) (h1 : a.eval y = .string t) (h2 : a.eval z = .string u)
 (h : K (a.put o.dst (.slice (some ⟨w.heap.size, 0, none⟩) 3 3)) (w.alloc (.cells #[.string s, .string t, .string u] 9))) : o.wp Tryz.prog a w K Q := by
 obtain ⟨i0, hi0, hz0, hz1, hz2⟩ := info_of info_str
 refine wp_buildSlice 117 9 3 _ ho #[.string s, .string t, .string u] i0 _ Tryz.underlying117 hi0 hz0 (by rw [hz1]; decide) (by rw [hz1]; decide) ?_ h
 rw [hz1]
 simp only [List.map_toArray, List.map_cons, List.map_nil, h0, h1, h2]
 exact fill_s3 s t u
theorem ev_func (a : Act) (f : FuncId) : a.eval (.func f) = .func (.func f) #[] #[] := rfl
def bidS (z : BKI) : ByteArray := tagS wBlock (tri (putS z.h) z.prev (catN (fun i => idS (z.g i).t) z.n)) 3
def fstS (n : Nat) (f : Nat → OU) : ByteArray := tagS wFirst (fun _ => catN (fun i => akS (f i)) n) 1
set_option maxHeartbeats 40000000 in
theorem bid_x (z : BKI) (w0 : World) (hG : GL w0) (htl : z.tl w0) (hk : z.ok) : Calls Tryz.prog 31 #[z.val] w0 (Enc (RightB z) (bidS z) w0) := by
 have HR : Hid (∀ o, Calls Tryz.prog 28 #[z.val] (w0.alloc o) (Tells (RightB z) (w0.alloc o))) := fun o => bright_x z _ (htl.q ((Q.refl w0).alloc o)) hk
 have HT := Lib.hid htl
 have HK := Lib.hid hk
 have HG := Lib.hid hG
 clear htl hk hG
 obtain ⟨hh, pv, nn, gg, aa, cc⟩ := z
 dsimp only [BKI.val] at HR ⊢
 go_enter Tryz.func31, Tryz.ntmps31
 go_wp2_with (with_reducible (show wpList _ _ _ (⟨_, Op.load 64 (.tmp 1), _, _, _, _⟩ :: _) _ _); refine halt ?_)
 have QA : Hid (Q w0 (w0.alloc (.cells #[.int .i64 hh, .string pv, .slice aa nn cc] 64))) := (Q.refl w0).alloc _
 have B1 : Hid (Box (w0.alloc (.cells #[.int .i64 hh, .string pv, .slice aa nn cc] 64)) w0.heap.size [.int .i64 hh, .string pv, .slice aa nn cc]) := Box.new w0 [.int .i64 hh, .string pv, .slice aa nn cc] 64
 have HR := Lib.hid (HR.out (.cells #[.int .i64 hh, .string pv, .slice aa nn cc] 64))
 generalize w0.alloc (.cells #[.int .i64 hh, .string pv, .slice aa nn cc] 64) = wA at *
 obtain ⟨b1, hb1⟩ : ∃ b, w0.heap.size = b := ⟨_, rfl⟩
 rw [hb1] at B1 ⊢
 refine Lib.hid (ld_box rfl 64 _ rfl b1 _ rfl B1.out Tryz.underlying64 rfl (by kernel_rfl) ?_)
 go_wp2_with fail
 refine HR.out.mono ?_
 rintro e w1 ⟨b, rfl, hz, q1⟩
 have B2 := Lib.hid (B1.out.q q1)
 have Q1 := Lib.hid (QA.out.trans q1)
 clear B1 QA q1 HR
 rcases two hz with ⟨rfl, Z⟩ | ⟨rfl, Z⟩
 rotate_left
 · have Z1 := Lib.hid Z
   clear Z hz
   go_wp2_with fail
   go_ret
   exact Enc.no Z1.out Q1.out
 have Z1 := Lib.hid Z
 obtain ⟨r1, r2, r3, r4, r5⟩ := Z
 dsimp only at r1 r2 r3 r4 r5
 clear hz
 as_aux_lemma =>
 go_wp2_with fail
 have HU : U64 hh := ⟨by omega, by omega⟩
 obtain ⟨p8, hp⟩ : ∃ s, putS hh = s := ⟨_, rfl⟩
 obtain ⟨cn, hcn⟩ : ∃ s, catN (fun i => idS (gg i).t) nn = s := ⟨_, rfl⟩
 obtain ⟨ii, hii⟩ : ∃ s, bidS ⟨hh, pv, nn, gg, aa, cc⟩ = s := ⟨_, rfl⟩
 have HI : Hid (tagS wBlock (tri p8 pv cn) 3 = ii) := by show _ = _; rw [← hii, ← hp, ← hcn]; rfl
 have HII := Lib.hid hii
 have z8 : p8.size ≤ 1000000 := by rw [← hp, putS_size]; decide
 have zp : pv.size ≤ 1000000 := by omega
 have zc : cn.size ≤ 1000000 := by
  rw [← hcn]
  have := catN_size (fun i => idS (gg i).t) 16 nn (fun i _ => Nat.le_of_eq (idS_size _))
  omega
 have HWR : Hid (IntKind.u64.wrap hh = hh) := by show _ = _; rw [IntKind.wrap_u64]; omega
 have PUT : Hid (∀ w, Calls Tryz.prog 81 #[.int .u64 hh] w fun e w' => e = .returned (.string p8) ∧ Q w w') := fun w => put_x _ _ hp HU w
 have GT : Hid (∀ w, Q w1 w → Calls Tryz.prog 82 #[.slice aa nn cc, .func (.func 18) #[] #[]] w fun e w' => e = .returned (.string cn) ∧ Q w w') := fun w q => by
  rw [← hcn]
  exact gather_tx aa nn cc gg w (HG.out.q (Q1.out.trans q)) (HT.out.q (Q1.out.trans q)) HK.out.n r5
 clear hp hcn hii r1 r2 r3 r4 r5 HU
 have hS0 : Q w1 w1.drew := (Q.refl w1).drew
 refine region_gen3 ?_
 intro OPS QQ A0 hO hQQ hA
 have hz : A0.tmps.size = 17 := by rw [hA]; rfl
 have hs : sound OPS A0.tmps.size = true := by rw [hz, hO]; kernel_rfl
 have b_1 : A0.eval (.tmp 1) = .pointer (some ⟨b1, 0, none⟩) := by rw [hA]; rfl
 have fr_1 : free OPS 1 = true := by rw [hO]; kernel_rfl
 obtain ⟨VV, hVV⟩ : ∃ V : Nat → Value → World → Prop, V = fun i => ([fun v _ => v = .pointer (some ⟨b1, 0, none⟩), fun v _ => v = .int .i64 hh, fun v _ => v = .int .u64 hh, fun v _ => v = .string p8, fun v _ => v = .pointer (some ⟨b1, 1, none⟩), fun v _ => v = .string pv, fun v _ => v = .pointer (some ⟨b1, 2, none⟩), fun v _ => v = .slice aa nn cc, fun v _ => v = .string cn, fun v w => ∃ wB : World, v = .slice (some ⟨wB.heap.size, 0, none⟩) 3 3 ∧ Q (wB.alloc (.cells #[.string p8, .string pv, .string cn] 9)) w, fun v _ => v = .string ii, fun v _ => v = .string ii] : List (Value → World → Prop)).getD i (fun _ _ => True) := ⟨_, rfl⟩
 have v_0 : VV 0 = fun v _ => v = .pointer (some ⟨b1, 0, none⟩) := vat hVV 0
 have v_1 : VV 1 = fun v _ => v = .int .i64 hh := vat hVV 1
 have v_2 : VV 2 = fun v _ => v = .int .u64 hh := vat hVV 2
 have v_3 : VV 3 = fun v _ => v = .string p8 := vat hVV 3
 have v_4 : VV 4 = fun v _ => v = .pointer (some ⟨b1, 1, none⟩) := vat hVV 4
 have v_5 : VV 5 = fun v _ => v = .string pv := vat hVV 5
 have v_6 : VV 6 = fun v _ => v = .pointer (some ⟨b1, 2, none⟩) := vat hVV 6
 have v_7 : VV 7 = fun v _ => v = .slice aa nn cc := vat hVV 7
 have v_8 : VV 8 = fun v _ => v = .string cn := vat hVV 8
 have v_9 : VV 9 = fun v w => ∃ wB : World, v = .slice (some ⟨wB.heap.size, 0, none⟩) 3 3 ∧ Q (wB.alloc (.cells #[.string p8, .string pv, .string cn] 9)) w := vat hVV 9
 have v_10 : VV 10 = fun v _ => v = .string ii := vat hVV 10
 have v_11 : VV 11 = fun v _ => v = .string ii := vat hVV 11
 have hV := stable_of (T := Q) hVV ((sk (sk (sk (sk (sk (sk (sk (sk (sk (sl_cons (fun _ _ _ h q => by obtain ⟨wB, h1, h2⟩ := h; exact ⟨wB, h1, h2.trans q⟩) (sk (sk trivial)))))))))))))
 clear hVV
 have i_0 := pget_at hO 0 rfl
 have i_1 := pget_at hO 1 rfl
 have i_2 := pget_at hO 2 rfl
 have i_3 := pget_at hO 3 rfl
 have i_4 := pget_at hO 4 rfl
 have i_5 := pget_at hO 5 rfl
 have i_6 := pget_at hO 6 rfl
 have i_7 := pget_at hO 7 rfl
 have i_8 := pget_at hO 8 rfl
 have i_9 := pget_at hO 9 rfl
 have i_10 := pget_at hO 10 rfl
 have i_11 := pget_at hO 11 rfl
 have MK15 := @Step.pure Tryz.prog OPS QQ VV Q (Q w1) A0
 have s_0 := MK15 i_0 (.pointer (some ⟨b1, 0, none⟩)) (Q.refl ·) (fun l a w hI hl => ⟨wanted_none rfl, (by have e0 : a.eval (.tmp 1) = _ := ((hI.base 1 fr_1).trans b_1); generalize a.eval = ρ at e0 ⊢; simp [go_sem, e0]), at_mk v_0 rfl⟩)
 have s_1 := MK15 i_1 (.int .i64 hh) (Q.refl ·) (fun l a w hI hl => ⟨wanted_none rfl, (by have e0 : a.eval (.tmp 6) = _ := (at_eq v_0 (hI.at_ 0 6 _ i_0 rfl (hl_at hl 0 rfl rfl))); have x0 := (B2.out.q hI.st).at_ 0 _ rfl; generalize a.eval = ρ at e0 ⊢; simp [go_sem, e0, x0]), at_mk v_1 rfl⟩)
 have s_2 := MK15 i_2 (.int .u64 hh) (Q.refl ·) (fun l a w hI hl => ⟨wanted_none rfl, (by have e0 : a.eval (.tmp 7) = _ := (at_eq v_1 (hI.at_ 1 7 _ i_1 rfl (hl_at hl 0 rfl rfl))); have x0 := HWR.out; generalize a.eval = ρ at e0 ⊢; simp [go_sem, e0, x0]), at_mk v_2 rfl⟩)
 have s_3 := Step.call (P := Tryz.prog) (V := VV) (T := Q) (S := (Q w1)) (a0 := A0) (Qx := QQ) (R := fun _ _ _ => True) i_3 (fun l a w hI hl => by
  refine ⟨wanted_none rfl, 81, #[.int .u64 hh], ?_, ?_⟩
  · exact ex_call rfl (by simp only [List.map_toArray, List.map_cons, List.map_nil, ev_const, (show a.eval (.tmp 8) = _ from (at_eq v_2 (hI.at_ 2 8 _ i_2 rfl (hl_at hl 0 rfl rfl))))]) Tryz.func81 (by kernel_rfl) (by kernel_rfl)
  · exact (PUT.out w).mono fun e w' hc => by
     obtain ⟨rfl, hq⟩ := hc
     exact ⟨_, rfl, hq, hI.st.trans hq, at_mk v_3 rfl⟩)
 have s_4 := MK15 i_4 (.pointer (some ⟨b1, 1, none⟩)) (Q.refl ·) (fun l a w hI hl => ⟨wanted_none rfl, (by have e0 : a.eval (.tmp 1) = _ := ((hI.base 1 fr_1).trans b_1); generalize a.eval = ρ at e0 ⊢; simp [go_sem, e0]), at_mk v_4 rfl⟩)
 have s_5 := MK15 i_5 (.string pv) (Q.refl ·) (fun l a w hI hl => ⟨wanted_none rfl, (by have e0 : a.eval (.tmp 10) = _ := (at_eq v_4 (hI.at_ 4 10 _ i_4 rfl (hl_at hl 0 rfl rfl))); have x0 := (B2.out.q hI.st).at_ 1 _ rfl; generalize a.eval = ρ at e0 ⊢; simp [go_sem, e0, x0]), at_mk v_5 rfl⟩)
 have s_6 := MK15 i_6 (.pointer (some ⟨b1, 2, none⟩)) (Q.refl ·) (fun l a w hI hl => ⟨wanted_none rfl, (by have e0 : a.eval (.tmp 1) = _ := ((hI.base 1 fr_1).trans b_1); generalize a.eval = ρ at e0 ⊢; simp [go_sem, e0]), at_mk v_6 rfl⟩)
 have s_7 := MK15 i_7 (.slice aa nn cc) (Q.refl ·) (fun l a w hI hl => ⟨wanted_none rfl, (by have e0 : a.eval (.tmp 12) = _ := (at_eq v_6 (hI.at_ 6 12 _ i_6 rfl (hl_at hl 0 rfl rfl))); have x0 := (B2.out.q hI.st).at_ 2 _ rfl; generalize a.eval = ρ at e0 ⊢; simp [go_sem, e0, x0]), at_mk v_7 rfl⟩)
 have MK16 := @Step.done Tryz.prog OPS QQ VV Q (Q w1) A0
 have s_8 := MK16 i_8 (fun l a w hI hl => by
  refine ⟨wanted_none rfl, ?_⟩
  refine wp_enter (f := 82) (args := #[.slice aa nn cc, .func (.func 18) #[] #[]]) ?_ ?_
  · exact ex_call rfl (by simp only [List.map_toArray, List.map_cons, List.map_nil, ev_func, (show a.eval (.tmp 13) = _ from (at_eq v_7 (hI.at_ 7 13 _ i_7 rfl (hl_at hl 0 rfl rfl))))]) Tryz.func82 (by kernel_rfl) (by kernel_rfl)
  · refine (GT.out w hI.st).mono fun e w' hc => ?_
    obtain ⟨rfl, hq⟩ := hc
    exact ⟨_, rfl, hq, hI.st.trans hq, at_mk v_8 rfl⟩)
 have s_9 := MK16 i_9 (fun l a w hI hl => by
  refine ⟨wanted_none rfl, ?_⟩
  refine wpo_s3 p8 pv cn rfl (at_eq v_3 (hI.at_ 3 9 _ i_3 rfl (hl_at hl 0 rfl rfl))) (at_eq v_5 (hI.at_ 5 11 _ i_5 rfl (hl_at hl 1 rfl rfl))) (at_eq v_8 (hI.at_ 8 14 _ i_8 rfl (hl_at hl 2 rfl rfl))) ?_
  exact ⟨_, rfl, (Q.refl w).alloc _, hI.st.alloc _, p_at v_9 ⟨w, rfl, Q.refl _⟩⟩)
 have s_10 := MK16 i_10 (fun l a w hI hl => by
  obtain ⟨wB, eB, qB⟩ := at_p v_9 (hI.at_ 9 15 _ i_9 rfl (hl_at hl 0 rfl rfl))
  refine ⟨wanted_none rfl, ?_⟩
  refine wp_enter (f := 71) (args := #[.string wBlock, .slice (some ⟨wB.heap.size, 0, none⟩) 3 3]) ?_ ?_
  · exact ex_call rfl (by simp only [List.map_toArray, List.map_cons, List.map_nil, ev_const, eB]; rfl) Tryz.func71 (by kernel_rfl) (by kernel_rfl)
  · refine (tri_at wBlock p8 pv cn ii HI.out 9 wB w qB (HG.out.q (Q1.out.trans hI.st)) (by decide) z8 zp zc).mono fun e w' hc => ?_
    obtain ⟨rfl, hq⟩ := hc
    exact ⟨_, rfl, hq, hI.st.trans hq, at_mk v_10 rfl⟩)
 have s_11 := MK15 i_11 (.string ii) (Q.refl ·) (fun l a w hI hl => ⟨wanted_none rfl, ex_assign rfl (at_eq v_10 (hI.at_ 10 16 _ i_10 rfl (hl_at hl 0 rfl rfl))), at_mk v_11 rfl⟩)
 refine wp_plan VV Q (Q w1) (by kernel_rfl) hs hV hS0 (steps_all hO ((sf_cons s_0 (sf_cons s_1 (sf_cons s_2 (sf_cons s_3 (sf_cons s_4 (sf_cons s_5 (sf_cons s_6 (sf_cons s_7 (sf_cons s_8 (sf_cons s_9 (sf_cons s_10 (sf_cons s_11 trivial)))))))))))))) ?_
 intro l a' w' hall h
 have e0 : a'.eval (.tmp 2) = .string ii := at_eq v_11 (h.at_ 11 2 _ i_11 rfl (hall 11 (by rw [hO]; decide)))
 have hd : a'.defers = [] := by rw [h.df, hA]
 have hst := Q1.out.trans h.st
 rw [hQQ]
 clear h hall
 go_wp2_with fail
 (try simp only [Exit.inBlock, Exit.then])
 refine bodyPost_ret (results_tmp rfl _ _ _) hd ?_
 exact ⟨_, congrArg Ending.returned e0, .inl ⟨Z1.out, by rw [HII.out]⟩, hst⟩
set_option maxHeartbeats 40000000 in
theorem first_x (a : Option Addr) (n c : Nat) (f : Nat → OU) (w0 : World) (hG : GL w0) (h : SL OU.cells 9 w0 a n f) (hn : n ≤ 100) (hyp : ∀ i, i < n → U64 (f i).amount ∧ (f i).key.size ≤ 2000) :
 Calls Tryz.prog 37 #[.slice a n c] w0 fun e w' => e = .returned (.string (fstS n f)) ∧ Q w0 w' := by
 have C0 := Lib.hid (gather_out a n c f w0 hG h hn hyp)
 obtain ⟨cn, hcn⟩ : ∃ s, catN (fun i => akS (f i)) n = s := ⟨_, rfl⟩
 rw [hcn] at C0
 have zc : cn.size ≤ 1000000 := by
  rw [← hcn]
  have := catN_size (fun i => akS (f i)) 2008 n (fun i hi => by unfold akS; rw [ByteArray.size_append, putS_size]; have := (hyp i hi).2; omega)
  have : n * 2008 ≤ 100 * 2008 := Nat.mul_le_mul_right _ hn
  omega
 have HI : Hid (tagS wFirst (fun _ => cn) 1 = fstS n f) := by show _ = _; rw [← hcn]; rfl
 generalize fstS n f = ii at *
 clear hcn h hyp
 go_enter Tryz.func37, Tryz.ntmps37
 go_wp2_with fail
 refine C0.out.mono ?_
 rintro e w1 ⟨rfl, q1⟩
 have C := Lib.hid fun T => tag1_x wFirst cn ii HI.out T w1 _ rfl q1 hG (by decide) zc
 clear q1 C0
 go_wp2_with fail
 refine (C.out _).mono ?_
 rintro e w2 ⟨rfl, q2⟩
 have Q2 := Lib.hid q2
 clear q2 C
 go_wp2_with fail
 go_ret
 exact ⟨rfl, Q2.out⟩
theorem zeroPt (w : World) : (zeroValue 31).run Tryz.prog w = .ok (.agg #[.string ⟨#[]⟩, .int .i64 0]) w := by
 have h : (Tryz.prog.info? 31).map (·.zero) = some (some (.agg #[.string ⟨#[]⟩, .int .i64 0])) := by kernel_rfl
 cases hi : Tryz.prog.info? 31 with
 | none => rw [hi] at h; cases h
 | some i => rw [hi] at h; simp [zeroValue, typeInfo, hi, show i.zero = some (.agg #[.string ⟨#[]⟩, .int .i64 0]) by simpa using h]
set_option maxHeartbeats 40000000 in
theorem begin_x (a : Option Addr) (n c : Nat) (f : Nat → OU) (i : Int) (w0 : World) (hG : GL w0) (h : SL OU.cells 9 w0 a n f) (hn : n ≤ 100) (hyp : ∀ i, i < n → U64 (f i).amount ∧ (f i).key.size ≤ 2000) :
 Calls Tryz.prog 39 #[.slice a n c, .int .i64 i] w0 fun e w' => e = .returned (.agg #[.string (fstS n f), .int .i64 i]) ∧ Q w0 w' := by
 have C0 : Hid (∀ o, Calls Tryz.prog 37 #[.slice a n c] (w0.alloc o) fun e w' => e = .returned (.string (fstS n f)) ∧ Q (w0.alloc o) w') := fun o => first_x a n c f _ (hG.q ((Q.refl w0).alloc o)) (h.q ((Q.refl w0).alloc o)) hn hyp
 have QA : Hid (∀ o, Q w0 (w0.alloc o)) := fun o => (Q.refl w0).alloc o
 have BA : Hid (∀ t, Box (w0.alloc (.cells #[.string ⟨#[]⟩, .int .i64 0] t)) w0.heap.size [.string ⟨#[]⟩, .int .i64 0]) := fun t => Box.new w0 [.string ⟨#[]⟩, .int .i64 0] t
 generalize fstS n f = ii at *
 clear h hyp hG
 go_enter Tryz.func39, Tryz.ntmps39
 go_wp2_with fail
 refine (C0.out _).mono ?_
 rintro e w1 ⟨rfl, q1⟩
 have B1 := Lib.hid ((BA.out _).q q1)
 have Q1 := Lib.hid ((QA.out _).trans q1)
 clear q1 C0 BA QA
 obtain ⟨b, hb⟩ : ∃ b, w0.heap.size = b := ⟨_, rfl⟩
 have hbb : w0.heap.size ≤ b := by omega
 rw [hb] at B1 ⊢
 clear hb
 go_wp2_with (with_reducible (show wpList _ _ _ (⟨_, Op.store 31 _ _, _, _, _, _⟩ :: _) _ _); refine halt ?_)
 refine Lib.hid (st_box rfl 31 _ _ rfl b _ [.string ii, .int .i64 i] rfl rfl B1.out rfl (by kernel_rfl) (fun v hv => by simp at hv; rcases hv with rfl | rfl <;> rfl) ?_)
 intro w2 B2 c2
 have HL : Hid ((loadVar 31 ⟨b, 0, none⟩).run Tryz.prog w2 = .ok (.agg #[.string ii, .int .i64 i]) w2) := B2.load _ Tryz.underlying31 rfl (by kernel_rfl)
 have Q2 : Hid (Q w0 w2) := c2.q Q1.out hbb
 clear B1 B2 c2 Q1
 refine wpList_nil ?_
 go_step
 go_step
 go_step
 refine bodyPost_ret (results_cell rfl rfl HL.out) rfl ?_
 exact ⟨rfl, Q2.out⟩
def bkB (z : BKI) : ByteArray := strOfNums [66] ++ putS z.h ++ z.prev ++ strOfNums [(z.n : Int)] ++ catN (fun i => blobS (txB (z.g i).t)) z.n
theorem txB_4096 (t : TX) (h : RightT t) : (txB t).size ≤ 4096 := by
 have z1 : (coreS t).size ≤ 475 := by
  obtain ⟨h1, h2, h3, _, h5, h6, h7, _⟩ := h
  have a := catN_size (fun i => inB (t.ins i)) 18 t.nI (fun i hi => Nat.le_of_eq (inB_size _ (h3 i hi)))
  have b := catN_size (fun i => ouB (t.outs i)) 100 t.nO (fun i hi => ouB_size _ (h7 i hi))
  unfold coreS
  simp only [ByteArray.size_append, one_size]; omega
 have z2 : (pfB t.p).size ≤ 1977 := by
  have hp := h.2.2.2.2.2.2.2
  have := catN_size (fun i => wnB (t.p.w i)) 516 t.p.n (fun i hi => wnB_size _ (hp.2.2.2 i hi))
  have := hp.1
  have := hp.2.1
  have := hp.2.2.1
  unfold pfB
  simp only [ByteArray.size_append, putS_size, blobS_size, one_size]; omega
 have z3 := catN_size (fun i => blobS (t.ins i).sig) 402 t.nI (fun i hi => by have := (h.2.2.1 i hi).2.2.2.2.2; rw [blobS_size]; omega)
 have z4 := h.2.1
 unfold txB
 simp only [ByteArray.size_append, blobS_size]
 have : t.nI * 402 ≤ 4 * 402 := Nat.mul_le_mul_right _ z4
 omega
set_option maxHeartbeats 40000000 in
theorem bencode_x (z : BKI) (w0 : World) (htl : z.tl w0) (hk : z.ok) : Calls Tryz.prog 33 #[z.val] w0 (Enc (RightB z) (bkB z) w0) := by
 have HR : Hid (∀ o, Calls Tryz.prog 28 #[z.val] (w0.alloc o) (Tells (RightB z) (w0.alloc o))) := fun o => bright_x z _ (htl.q ((Q.refl w0).alloc o)) hk
 have HT := Lib.hid htl
 have HK := Lib.hid hk
 clear htl hk
 have HE : Hid (bkB z = strOfNums [66] ++ putS z.h ++ z.prev ++ strOfNums [(z.n : Int)] ++ catN (fun i => blobS (txB (z.g i).t)) z.n) := rfl
 obtain ⟨RR, hRR⟩ : ∃ T, bkB z = T := ⟨_, rfl⟩
 rw [hRR] at HE ⊢
 clear hRR
 obtain ⟨hh, pv, nn, gg, aa, cc⟩ := z
 dsimp only [BKI.val] at HR HE ⊢
 go_enter Tryz.func33, Tryz.ntmps33
 go_wp2_with (with_reducible (show wpList _ _ _ (⟨_, Op.load 64 (.tmp 1), _, _, _, _⟩ :: _) _ _); refine halt ?_)
 have QA : Hid (Q w0 (w0.alloc (.cells #[.int .i64 hh, .string pv, .slice aa nn cc] 64))) := (Q.refl w0).alloc _
 have B1 : Hid (Box (w0.alloc (.cells #[.int .i64 hh, .string pv, .slice aa nn cc] 64)) w0.heap.size [.int .i64 hh, .string pv, .slice aa nn cc]) := Box.new w0 [.int .i64 hh, .string pv, .slice aa nn cc] 64
 have HR := Lib.hid (HR.out (.cells #[.int .i64 hh, .string pv, .slice aa nn cc] 64))
 generalize w0.alloc (.cells #[.int .i64 hh, .string pv, .slice aa nn cc] 64) = wA at *
 obtain ⟨b1, hb1⟩ : ∃ b, w0.heap.size = b := ⟨_, rfl⟩
 rw [hb1] at B1 ⊢
 refine Lib.hid (ld_box rfl 64 _ rfl b1 _ rfl B1.out Tryz.underlying64 rfl (by kernel_rfl) ?_)
 go_wp2_with fail
 refine HR.out.mono ?_
 rintro e w1 ⟨b, rfl, hz, q1⟩
 have B2 := Lib.hid (B1.out.q q1)
 have Q1 := Lib.hid (QA.out.trans q1)
 clear B1 QA q1 HR
 rcases two hz with ⟨rfl, Z⟩ | ⟨rfl, Z⟩
 rotate_left
 · have Z1 := Lib.hid Z
   clear Z hz
   go_wp2_with fail
   go_ret
   exact Enc.no Z1.out Q1.out
 have Z1 := Lib.hid Z
 obtain ⟨r1, r2, r3, r4, r5⟩ := Z
 dsimp only at r1 r2 r3 r4 r5
 have R5 := Lib.hid r5
 clear hz r5
 have H0 := Lib.hid (WS.new w1 105)
 have Q0 := Lib.hid (Q1.out.alloc (.cells #[.pointer none, .int .i64 0, .int .i64 0] 105))
 have HL : Hid (w0.heap.size ≤ w1.heap.size) := Q1.out.size
 have BX : Hid (∀ w', Ch w1.heap.size (w1.alloc (.cells #[.pointer none, .int .i64 0, .int .i64 0] 105)) w' → Box w' b1 [.int .i64 hh, .string pv, .slice aa nn cc]) := fun w' c => (B2.out.q ((Q.refl w1).alloc _)).ch c (by have := B2.out.lt; omega)
 have cv : IntKind.u64.wrap hh = hh := by rw [IntKind.wrap_u64]; omega
 have i8 : (nn : Int) ≤ 8 := by omega
 clear B2 Q1
 as_aux_lemma =>
 go_wp2_with fail
 generalize w1.alloc (.cells #[.pointer none, .int .i64 0, .int .i64 0] 105) = wW at *
 generalize w1.heap.size = g at *
 refine (H0.out.byte 66 (by omega) (by omega)).mono ?_
 rintro r v1 ⟨rfl, h⟩
 have H1 := Lib.hid h
 clear h H0
 have m0 := (BX.out _ H1.out.ch).at_ 0 _ rfl
 as_aux_lemma =>
 go_wp2_with fail
 refine (H1.out.num hh ⟨by omega, by omega⟩ (by omega)).mono ?_
 rintro r v2 ⟨rfl, h⟩
 have H2 := Lib.hid h
 clear h H1 m0
 have m1 := (BX.out _ H2.out.ch).at_ 1 _ rfl
 as_aux_lemma =>
 go_wp2_with fail
 refine (H2.out.hash pv r3 (by omega)).mono ?_
 rintro r v3 ⟨rfl, h⟩
 have H3 := Lib.hid h
 clear h H2 m1
 have m2 := (BX.out _ H3.out.ch).at_ 2 _ rfl
 as_aux_lemma =>
 go_wp2_with fail
 refine (H3.out.byte (nn : Int) ⟨by omega, by omega⟩ (by omega)).mono ?_
 rintro r v4 ⟨rfl, h⟩
 have H4 := Lib.hid h
 clear h H3 m2
 have m2 := (BX.out _ H4.out.ch).at_ 2 _ rfl
 as_aux_lemma =>
 obtain ⟨T0, hT0⟩ : ∃ T, ByteArray.empty ++ strOfNums [66] ++ putS hh ++ pv ++ strOfNums [(nn : Int)] = T := ⟨_, rfl⟩
 rw [hT0] at H4
 have HT0 := Lib.hid hT0
 clear hT0
 go_wp2_with fail
 go_loopw [5, 24] (fun z i wr => ∃ k : Nat, k ≤ nn ∧ i = .int .i64 k ∧ Hid (WS wW g g (T0 ++ catN (fun i => blobS (txB (gg i).t)) k) (30000 + k * 60000) wr)) (fun _ i _ => nn - (intOf i).toNat)
 case atStart => exact ⟨0, by omega, rfl, Lib.hid (H4.out.to (by show _ = _ ++ ByteArray.empty; simp only [ByteArray.append_empty]) (by omega))⟩
 case round =>
 obtain ⟨k, hk, rfl, H⟩ := hrel
 clear H4 m2
 have k0 : (0 : Int) ≤ (k : Int) := by omega
 have QR : Hid (Q w0 wr) := H.out.ch.q Q0.out HL.out
 by_cases hlt : k < nn
 · have k1 : (k : Int) < (nn : Int) := by omega
   obtain ⟨bb, off, hab, hrow⟩ := (HT.out.q QR.out).l.some_ (by show 0 < nn; omega)
   dsimp only at hab
   subst hab
   have RW : Hid (wr.rangeAt bb (off + k * 6) (TXI.cells (gg k))) := hrow k hlt
   clear hrow
   have ZM := Lib.hid (HT.out.m k hlt)
   have ZK := Lib.hid (HT.out.k k hlt)
   have ZR := Lib.hid (R5.out k hlt)
   dsimp only at ZM ZK
   obtain ⟨z, hz⟩ : ∃ z, gg k = z := ⟨_, rfl⟩
   have HZ := Lib.hid hz
   rw [hz] at RW ZM ZK ZR
   clear hz
   go_wp2_with (with_reducible (show wpList _ _ _ (⟨_, Op.load 29 (.tmp 26), _, _, _, _⟩ :: _) _ _); refine halt ?_)
   refine Lib.hid (wpList_load_mid rfl 29 _ rfl bb (off + k * 6) rfl (TXI.cells z) _ RW.out Tryz.underlying29 rfl (by kernel_rfl) ?_)
   refine wpList_allocZ rfl 29 rfl #[.slice none 0 0, .slice none 0 0, .int .u64 0, .string ⟨#[]⟩, .string ⟨#[]⟩, .slice none 0 0] zeroT ?_
   refine st_box rfl 29 _ _ rfl wr.heap.size _ (TXI.cells z) rfl rfl (Box.new wr [.slice none 0 0, .slice none 0 0, .int .u64 0, .string ⟨#[]⟩, .string ⟨#[]⟩, .slice none 0 0] 29) rfl (by kernel_rfl) (one6 rfl rfl rfl rfl rfl rfl) ?_
   intro w5 B5 c5
   have q5 : Q wr w5 := c5.q ((Q.refl wr).alloc _) (Nat.le_refl _)
   have H5 := Lib.hid (H.out.q q5)
   have Q5 := Lib.hid (QR.out.trans q5)
   have B5 := Lib.hid B5
   clear H QR c5 q5 RW
   obtain ⟨bx, hbx⟩ : ∃ x, wr.heap.size = x := ⟨_, rfl⟩
   rw [hbx] at B5 ⊢
   clear hbx
   refine wpList_nil ?_
   go_wp2_with (with_reducible (show wpList _ _ _ (⟨_, Op.load 29 (.tmp 5), _, _, _, _⟩ :: _) _ _); refine halt ?_)
   refine Lib.hid (ld_box rfl 29 _ rfl bx _ rfl B5.out Tryz.underlying29 rfl (by kernel_rfl) ?_)
   go_wp2_with fail
   refine (encode_x z.t z.aI z.aO z.aW z.cI z.cO z.cW _ (ZM.out.q Q5.out) ZK.out).mono ?_
   intro e w6 he
   obtain ⟨rfl, q6⟩ := he.v ZR.out
   have H6 := Lib.hid (H5.out.q q6)
   clear he q6 H5 Q5 B5
   have ZS : Hid ((txB z.t).size ≤ 4096) := txB_4096 _ ZR.out
   obtain ⟨tb, htb⟩ : ∃ t, txB z.t = t := ⟨_, rfl⟩
   have HTB := Lib.hid htb
   rw [htb] at ZS ⊢
   clear htb
   go_wp2_with fail
   refine (H6.out.blob tb ZS.out (by omega)).mono ?_
   rintro r w7 ⟨rfl, h⟩
   have H7 := Lib.hid h
   clear h H6
   go_wp2_with fail
   go_roundw
   case rel => exact ⟨k + 1, by omega, by go_num, Lib.hid (H7.out.to (by rw [← HTB.out, ← HZ.out]; show _ = _ ++ (catN _ k ++ blobS (txB (gg k).t)); simp only [ByteArray.append_assoc]) (by omega))⟩
   case measure => simp [intOf]; omega
 · obtain rfl : k = nn := by omega
   have td : decide (k < k) = false := by simp
   go_wp2_with fail
   refine (H.out.text (by omega)).mono ?_
   rintro r w8 ⟨rfl, q8⟩
   have Q8 := Lib.hid (QR.out.trans q8)
   clear q8
   go_wp2_with fail
   go_ret
   exact Enc.yes Z1.out (by rw [HE.out, ← HT0.out]; simp only [ByteArray.empty_append]) Q8.out
theorem ne_bs {x a : ByteArray} (h : x ≠ a) : (x.toList == a.toList) = false := by
 cases e : (x.toList == a.toList) with
 | false => rfl
 | true =>
  exfalso
  refine h ?_
  have h2 := eq_of_beq e
  rw [ByteArray.toList_eq, ByteArray.toList_eq] at h2
  obtain ⟨⟨l⟩⟩ := x
  obtain ⟨⟨m⟩⟩ := a
  have : l = m := h2
  rw [this]
def SamL (n n' : Nat) (f f' : Nat → TXI) : Prop := n = n' ∧ ∀ i, i < n → SamT (f i).t (f' i).t
def SamB (z z' : BKI) : Prop := z.h = z'.h ∧ z.prev = z'.prev ∧ SamL z.n z'.n z.g z'.g
set_option maxHeartbeats 40000000 in
theorem equal_tx (a a' : Option Addr) (n n' c c' : Nat) (f f' : Nat → TXI) (w0 : World) (h : TL w0 a n f) (h' : TL w0 a' n' f') (hn : n ≤ 100) (hn' : n' ≤ 100) :
 Calls Tryz.prog 85 #[.slice a n c, .slice a' n' c', .func (.func 13) #[] #[]] w0 (Tells (SamL n n' f f') w0) := by
 have HT := Lib.hid h
 have HT' := Lib.hid h'
 clear h h'
 by_cases hnn : n = n'
 · subst hnn
   go_enter Tryz.func85, Tryz.ntmps85
   go_wp2_with fail
   go_loopw [7, 8, 9, 17] (fun _ _ _ i wr => ∃ k : Nat, k ≤ n ∧ i = .int .i64 k ∧ Hid (∀ j, j < k → SamT (f j).t (f' j).t) ∧ Hid (Q w0 wr)) (fun _ _ _ i _ => n - (intOf i).toNat)
   case atStart => exact ⟨0, by omega, rfl, Lib.hid (fun j hj => by omega), Lib.hid (Q.refl w0)⟩
   case round =>
    obtain ⟨k, hk, rfl, JJ, QR⟩ := hrel
    have k0 : (0 : Int) ≤ (k : Int) := by omega
    by_cases hlt : k < n
    · have k1 : (k : Int) < (n : Int) := by omega
      obtain ⟨b, off, rfl, hrow⟩ := (HT.out.q QR.out).l.some_ (by omega)
      obtain ⟨b', off', rfl, hrow'⟩ := (HT'.out.q QR.out).l.some_ (by omega)
      have RW : Hid (∀ w', Q wr w' → w'.rangeAt b (off + k * 6) (TXI.cells (f k))) := fun w' q j v hv => Q.cell' q (hrow k hlt j v hv)
      have RW' : Hid (∀ w', Q wr w' → w'.rangeAt b' (off' + k * 6) (TXI.cells (f' k))) := fun w' q j v hv => Q.cell' q (hrow' k hlt j v hv)
      clear hrow hrow'
      have ZM := Lib.hid (HT.out.m k hlt)
      have ZK := Lib.hid (HT.out.k k hlt)
      have YM := Lib.hid (HT'.out.m k hlt)
      have YK := Lib.hid (HT'.out.k k hlt)
      have HN : Hid (¬ SamT (f k).t (f' k).t → ¬ SamL n n f f') := fun h h2 => h (h2.2 k hlt)
      have HJ : Hid (SamT (f k).t (f' k).t → ∀ j, j < k + 1 → SamT (f j).t (f' j).t) := fun h j hj => by
       by_cases e : j = k
       · rw [e]; exact h
       · exact JJ.out j (by omega)
      clear JJ
      generalize f k = z at *
      generalize f' k = y at *
      go_wp2_with (with_reducible (show wpList _ _ _ (⟨_, Op.load 29 (.tmp 20), _, _, _, _⟩ :: _) _ _); refine halt ?_)
      refine Lib.hid (wpList_load_mid rfl 29 _ rfl b (off + k * 6) rfl (TXI.cells z) _ (RW.out _ (Q.refl wr)) Tryz.underlying29 rfl (by kernel_rfl) ?_)
      refine wpList_allocZ rfl 29 rfl #[.slice none 0 0, .slice none 0 0, .int .u64 0, .string ⟨#[]⟩, .string ⟨#[]⟩, .slice none 0 0] zeroT ?_
      go_wp2_with (with_reducible (show wpList _ _ _ (⟨_, Op.store 29 _ _, _, _, _, _⟩ :: _) _ _); refine halt ?_)
      refine Lib.hid (st_box rfl 29 _ _ rfl wr.heap.size _ (TXI.cells z) rfl rfl (Box.new wr [.slice none 0 0, .slice none 0 0, .int .u64 0, .string ⟨#[]⟩, .string ⟨#[]⟩, .slice none 0 0] 29) rfl (by kernel_rfl) (one6 rfl rfl rfl rfl rfl rfl) ?_)
      intro w1 B1 c1
      have q1 := Lib.hid (c1.q ((Q.refl wr).alloc _) (Nat.le_refl _) : Q wr w1)
      have B1 := Lib.hid B1
      clear c1
      obtain ⟨bx, hbx⟩ : ∃ x, wr.heap.size = x := ⟨_, rfl⟩
      rw [hbx] at B1 ⊢
      clear hbx
      go_wp2_with (with_reducible (show wpList _ _ _ (⟨_, Op.load 29 (.tmp 24), _, _, _, _⟩ :: _) _ _); refine halt ?_)
      refine Lib.hid (wpList_load_mid rfl 29 _ rfl b' (off' + k * 6) rfl (TXI.cells y) _ (RW'.out _ q1.out) Tryz.underlying29 rfl (by kernel_rfl) ?_)
      refine wpList_allocZ rfl 29 rfl #[.slice none 0 0, .slice none 0 0, .int .u64 0, .string ⟨#[]⟩, .string ⟨#[]⟩, .slice none 0 0] zeroT ?_
      refine st_box rfl 29 _ _ rfl w1.heap.size _ (TXI.cells y) rfl rfl (Box.new w1 [.slice none 0 0, .slice none 0 0, .int .u64 0, .string ⟨#[]⟩, .string ⟨#[]⟩, .slice none 0 0] 29) rfl (by kernel_rfl) (one6 rfl rfl rfl rfl rfl rfl) ?_
      intro w2 B2 c2
      have q2 : Q w1 w2 := c2.q ((Q.refl w1).alloc _) (Nat.le_refl _)
      have B12 := Lib.hid (B1.out.q q2)
      have B2 := Lib.hid B2
      have Q2 := Lib.hid (QR.out.trans (q1.out.trans q2))
      clear c2 B1 q1 q2 QR RW RW'
      generalize w1.heap.size = by_ at *
      refine wpList_nil ?_
      go_wp2_with (with_reducible (show wpList _ _ _ (⟨_, Op.load 29 (.tmp 8), _, _, _, _⟩ :: _) _ _); refine halt ?_)
      refine Lib.hid (ld_box rfl 29 _ rfl bx _ rfl B12.out Tryz.underlying29 rfl (by kernel_rfl) ?_)
      refine Lib.hid (ld_box rfl 29 _ rfl by_ _ rfl B2.out Tryz.underlying29 rfl (by kernel_rfl) ?_)
      go_wp2_with fail
      refine (same_x z.t y.t z.aI z.aO z.aW y.aI y.aO y.aW z.cI z.cO z.cW y.cI y.cO y.cW _ (ZM.out.q Q2.out) (YM.out.q Q2.out) ZK.out YK.out).mono ?_
      rintro e w3 ⟨r, rfl, hr, q3⟩
      have Q3 := Lib.hid (Q2.out.trans q3)
      clear q3 Q2 B12 B2
      rcases two hr with ⟨rfl, Z⟩ | ⟨rfl, Z⟩
      · have J2 := Lib.hid (HJ.out Z)
        clear Z hr HN HJ
        go_wp2_with fail
        go_roundw
        case rel => exact ⟨k + 1, by omega, by go_num, J2, Q3⟩
        case measure => simp [intOf]; omega
      · have Z1 := Lib.hid (HN.out Z)
        clear Z hr HN HJ
        go_wp2_with fail
        go_ret
        exact Tells.no Z1.out Q3.out
    · obtain rfl : k = n := by omega
      have td : decide (k < k) = false := by simp
      go_wp2_with fail
      go_ret
      exact Tells.yes ⟨rfl, JJ.out⟩ QR.out
 · have t0 : decide (n = n') = false := by simpa using hnn
   have t1 : decide ((n : Int) = (n' : Int)) = false := by simp; omega
   have n0 : ¬ ((n : Int) = (n' : Int)) := by omega
   go_enter Tryz.func85, Tryz.ntmps85
   go_wp2_with fail
   go_ret
   exact Tells.no (fun x => hnn x.1) (Q.refl w0)
set_option maxHeartbeats 40000000 in
theorem bsame_x (z z' : BKI) (w0 : World) (h : z.tl w0) (h' : z'.tl w0) (hk : z.n ≤ 100) (hk' : z'.n ≤ 100) : Calls Tryz.prog 35 #[z.val, z'.val] w0 (Tells (SamB z z') w0) := by
 have C0 : Hid (∀ w, Q w0 w → Calls Tryz.prog 85 #[.slice z.a z.n z.c, .slice z'.a z'.n z'.c, .func (.func 13) #[] #[]] w (Tells (SamL z.n z'.n z.g z'.g) w)) := fun w q => equal_tx z.a z'.a z.n z'.n z.c z'.c z.g z'.g w (h.q q) (h'.q q) hk hk'
 have HD : Hid (SamB z z' ↔ z.h = z'.h ∧ z.prev = z'.prev ∧ SamL z.n z'.n z.g z'.g) := Iff.rfl
 obtain ⟨R, hR⟩ : ∃ R, SamB z z' = R := ⟨_, rfl⟩
 obtain ⟨R2, hR2⟩ : ∃ R, SamL z.n z'.n z.g z'.g = R := ⟨_, rfl⟩
 rw [hR, hR2] at HD
 rw [hR]
 rw [hR2] at C0
 clear hR hR2 h h' hk hk'
 obtain ⟨h1, p1, n1, g1, a1, c1⟩ := z
 obtain ⟨h2, p2, n2, g2, a2, c2⟩ := z'
 dsimp only [BKI.val] at C0 HD ⊢
 have QA : Hid (∀ o o', Q w0 ((w0.alloc o).alloc o')) := fun o o' => ((Q.refl w0).alloc o).alloc o'
 go_enter Tryz.func35, Tryz.ntmps35
 by_cases e1 : h1 = h2
 rotate_left
 · have n0 : ¬ (h1 = h2) := e1
   have t0 : decide (h1 = h2) = false := by simpa using e1
   go_wp2_with fail
   go_ret
   exact Tells.no (fun x => e1 (HD.out.1 x).1) (QA.out _ _)
 subst e1
 by_cases e2 : p1 = p2
 rotate_left
 · have t0 := ne_bs e2
   go_wp2_with fail
   go_ret
   exact Tells.no (fun x => e2 (HD.out.1 x).2.1) (QA.out _ _)
 subst e2
 go_wp2_with fail
 refine (C0.out _ (QA.out _ _)).mono ?_
 rintro e w1 ⟨b, rfl, hz, q1⟩
 have HZ := Lib.hid hz
 have Q1 := Lib.hid ((QA.out _ _).trans q1)
 clear hz q1 C0
 go_wp2_with fail
 go_ret
 exact Tells.b (by rw [HZ.out, HD.out]; simp) Q1.out
end Go.Proofs.YtobfgljkckcmcaaGreatDoor.Coi
