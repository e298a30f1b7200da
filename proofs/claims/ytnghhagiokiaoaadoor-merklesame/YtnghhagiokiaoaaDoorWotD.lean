/-
  Layer 6: the program's digit, spread, digits, Digits.
-/
import Derived.Test.YtnghhagiokiaoaaDoorWotE
namespace Go.Proofs.YtnghhagiokiaoaaDoor.Wot
open Go.RowKit
open Mem Sh
set_option linter.unusedVariables false

theorem and_hi (x : Int) (h0 : 0 ≤ x) (h1 : x ≤ 255) : bits BinOp.and .i64 (x / 16) 15 = x / 16 := by
  obtain ⟨k, rfl⟩ := Int.eq_ofNat_of_zero_le h0
  have H : ∀ j : Fin 256, bits BinOp.and .i64 ((j.val : Int) / 16) 15 = (j.val : Int) / 16 := by decide +kernel
  exact H ⟨k, by omega⟩
theorem and_lo (x : Int) (h0 : 0 ≤ x) (h1 : x ≤ 255) : bits BinOp.and .i64 x 15 = x % 16 := by
  obtain ⟨k, rfl⟩ := Int.eq_ofNat_of_zero_le h0
  have H : ∀ j : Fin 256, bits BinOp.and .i64 (j.val : Int) 15 = (j.val : Int) % 16 := by decide +kernel
  exact H ⟨k, by omega⟩
theorem digit_0 (x : Int) (w : World) (h0 : 0 ≤ x) (h1 : x ≤ 255) : Calls Tryd.prog 96 #[.int .u8 x, .int .i64 0] w fun e w' => e = .returned (.int .i64 (x / 16)) ∧ w' = w := by
  have e := and_hi x h0 h1
  go_enter Tryd.func96, Tryd.ntmps96
  go_wp2_with fail
  go_ret
  exact ⟨rfl, rfl⟩
theorem digit_1 (x : Int) (w : World) (h0 : 0 ≤ x) (h1 : x ≤ 255) : Calls Tryd.prog 96 #[.int .u8 x, .int .i64 1] w fun e w' => e = .returned (.int .i64 (x % 16)) ∧ w' = w := by
  have e := and_lo x h0 h1
  go_enter Tryd.func96, Tryd.ntmps96
  go_wp2_with fail
  go_ret
  exact ⟨rfl, rfl⟩
theorem digit_x (x c r : Int) (w : World) (h0 : 0 ≤ x) (h1 : x ≤ 255) (h : (c = 0 ∧ x / 16 = r) ∨ (c = 1 ∧ x % 16 = r)) : Calls Tryd.prog 96 #[.int .u8 x, .int .i64 c] w fun e w' => e = .returned (.int .i64 r) ∧ w' = w := by
  rcases h with ⟨rfl, rfl⟩ | ⟨rfl, rfl⟩
  · exact digit_0 x w h0 h1
  · exact digit_1 x w h0 h1

/-! ### spread -/
def spL (h : ByteArray) (k : Nat) : Nat → Int := fun j => if j < k then nib h j else 0
theorem spL_succ (h : ByteArray) (k : Nat) : upd (spL h k) k (nib h k) = spL h (k + 1) := by
  funext j
  unfold upd spL
  by_cases e : j = k
  · subst e; rw [if_pos rfl, if_pos (by omega)]
  · rw [if_neg e]
    by_cases e' : j < k
    · rw [if_pos e', if_pos (by omega)]
    · rw [if_neg e', if_neg (by omega)]
theorem spL_end (h : ByteArray) (j : Nat) (hj : j < 18) : upd (upd (spL h 16) 16 (lack h / 16)) 17 (lack h % 16) j = digH h j := by
  unfold upd spL digH
  by_cases e : j = 17
  · subst e; rw [if_pos rfl, if_neg (by omega), if_neg (by omega)]
  · rw [if_neg e]
    by_cases e' : j = 16
    · subst e'; rw [if_pos rfl, if_neg (by omega), if_pos rfl]
    · rw [if_neg e', if_pos (by omega), if_pos (by omega)]
theorem RI.start2 (w : World) (h : ByteArray) (t t' : TypeId) : RI w (w.heap.size + 1) w.heap.size (spL h 0) ((w.alloc (.cells Z18 t)).alloc (.cells Z18 t')) := by
  have s1 : (w.alloc (.cells Z18 t)).heap.size = w.heap.size + 1 := by simp
  have r := Row.made .i64 (w.alloc (.cells Z18 t)) 18 0 t'
  have fz := made_frozen (w.alloc (.cells Z18 t)) Z18 t'
  rw [s1] at r fz
  exact ⟨fun i hi => by rw [show spL h 0 i = 0 from if_neg (by omega)]; exact r i hi, fun i _ => fz i, World.there_alloc (there_new w 18 (.int .i64 0) t) _, ((Q.refl w).alloc _).alloc _⟩

set_option maxHeartbeats 1000000 in
set_option maxRecDepth 100000 in
theorem spread_any (h : ByteArray) (w : World) (zh : h.size = 16) :
    Calls Tryd.prog 85 #[.string h] w fun e w' => e = .returned (arr .i64 18 (digH h)) ∧ Q w w' := by
  have HS := Lib.hid (RI.start2 w h 76 76)
  have hb := PlainAid.get_bt h
  go_enter Tryd.func85, Tryd.ntmps85
  go_wp2_with fail
  show Code.wp _ _ _ _ ((w.alloc (.cells Z18 76)).alloc (.cells Z18 76))
  generalize ((w.alloc (.cells Z18 76)).alloc (.cells Z18 76)) = W0 at *
  have hz1 : w.heap.size ≤ w.heap.size + 1 := by omega
  have hne : w.heap.size ≠ w.heap.size + 1 := by omega
  go_loopw [4, 6] (fun l i wr => ∃ k : Nat, k ≤ 16 ∧ i = .int .i64 k ∧ l = .int .i64 (15 * k - nsum h k) ∧ Hid (RI w (w.heap.size + 1) w.heap.size (spL h k) wr)) (fun _ i _ => 16 - (intOf i).toNat)
  case atStart => exact ⟨0, by omega, rfl, rfl, HS⟩
  case round =>
    obtain ⟨k, hk, rfl, rfl, I⟩ := hrel
    clear HS
    obtain ⟨n0, n1⟩ := nsum_bd h k
    by_cases hlt : k < 16
    · have k0 : (0 : Int) ≤ (k : Int) := by omega
      have k1 : (k : Int) < 16 := by omega
      have tk : decide ((k : Int) < 16) = true := by simp; omega
      have x0 := PlainAid.bt_nonneg h (k / 2)
      have x1 := PlainAid.bt_le h (k / 2)
      have c := I.out.r.at0 k (by omega)
      have f := I.out.fz k (by omega)
      obtain ⟨y0, y1⟩ := nib_bd h k
      have HN : Hid (RI w (w.heap.size + 1) w.heap.size (spL h (k + 1)) (wr.setCell ⟨w.heap.size + 1, k, none⟩ (.int .i64 (nib h k)))) := by
        have := I.out.set hz1 k (by omega) (nib h k)
        rwa [spL_succ] at this
      have HM : Hid (nsum h (k + 1) = nsum h k + nib h k) := rfl
      have C := Lib.hid (digit_x (PlainAid.bt h (k / 2)) ((k : Int) % 2) (nib h k) wr x0 x1 (by
        unfold nib
        by_cases e : k % 2 = 0
        · left; rw [if_pos e]; exact ⟨by omega, rfl⟩
        · right; rw [if_neg e]; exact ⟨by omega, rfl⟩))
      have c2 : (wr.setCell ⟨w.heap.size + 1, k, none⟩ (.int .i64 (nib h k))).cell? ⟨w.heap.size + 1, k, none⟩ = some (.int .i64 (nib h k)) := World.cell?_setCell_same _ _ _ c
      generalize nib h k = y at *
      generalize nsum h k = N at *
      clear I
      go_wp2_with fail
      refine C.out.mono ?_
      rintro e w' ⟨rfl, rfl⟩
      clear C
      go_wp2_with fail
      exact ⟨⟨k + 1, by omega, by go_num, by rw [HM.out]; go_num, HN⟩, by simp [intOf]; omega⟩
    · obtain rfl : k = 16 := by omega
      have eN : (15 : Int) * ((16 : Nat) : Int) - nsum h 16 = lack h := by unfold lack; omega
      rw [eN]
      obtain ⟨l0, l1⟩ := lack_bd h
      have hcl : cl .i64 18 (upd (upd (spL h 16) 16 (lack h / 16)) 17 (lack h % 16)) = cl .i64 18 (digH h) := cl_congr _ _ fun j hj => spL_end h j hj
      obtain ⟨L, eL⟩ : ∃ L, lack h = L := ⟨_, rfl⟩
      rw [eL] at l0 l1 hcl ⊢
      have H2 := Lib.hid ((I.out.set hz1 16 (by omega) (L / 16)).set hz1 17 (by omega) (L % 16))
      have C0 := Lib.hid (digit_0 L wr l0 (by omega))
      have C1 := Lib.hid (digit_1 L wr l0 (by omega))
      have c16 := I.out.r.at0 16 (by omega)
      have f16 := I.out.fz 16 (by omega)
      have c17 := I.out.r.at0 17 (by omega)
      have f17 := I.out.fz 17 (by omega)
      obtain ⟨C, hC⟩ : ∃ C, cl .i64 18 (upd (upd (spL h 16) 16 (L / 16)) 17 (L % 16)) = C := ⟨_, rfl⟩
      have HC := Lib.hid (cl_len .i64 18 (upd (upd (spL h 16) 16 (L / 16)) 17 (L % 16)))
      have HO := Lib.hid (cl_one .i64 18 (upd (upd (spL h 16) 16 (L / 16)) 17 (L % 16)))
      have HR := Lib.hid H2.out.r.range
      rw [hC] at HC HO HR
      have HT2 : Hid (((wr.setCell ⟨w.heap.size + 1, 16, none⟩ (.int .i64 (L / 16))).setCell ⟨w.heap.size + 1, 17, none⟩ (.int .i64 (L % 16))).there w.heap.size 0 C.toArray.size) := by show World.there _ w.heap.size 0 C.length; rw [HC.out]; exact H2.out.th
      have HI2 : Hid ((Tryd.prog.info? 76).map (·.size) = some C.toArray.size) := by show _ = some C.length; rw [HC.out]; exact info18
      have HI3 : Hid ((Tryd.prog.info? 76).map (·.size) = some C.length) := by rw [HC.out]; exact info18
      have HL : Hid ((loadVar 76 ⟨w.heap.size, 0, none⟩).run Tryd.prog ((((wr.setCell ⟨w.heap.size + 1, 16, none⟩ (.int .i64 (L / 16))).setCell ⟨w.heap.size + 1, 17, none⟩ (.int .i64 (L % 16))).setCells w.heap.size 0 C)) = .ok (arr .i64 18 (digH h)) ((((wr.setCell ⟨w.heap.size + 1, 16, none⟩ (.int .i64 (L / 16))).setCell ⟨w.heap.size + 1, 17, none⟩ (.int .i64 (L % 16))).setCells w.heap.size 0 C))) := by
        rw [← hC, hcl]; exact load18 (Row.stored H2.out.th)
      have HQ := Lib.hid (Q.setCells H2.out.q (Nat.le_refl _) 0 C)
      have e16 : ((16 : Nat) : Int) = 16 := rfl
      rw [e16]
      clear I hcl eN eL n0 n1 e16
      go_wp2_with (first
        | (go_at_call 96; refine C0.out.mono ?_; rintro e w' ⟨rfl, hw⟩; obtain rfl := hw.symm; clear C0)
        | (go_at_call 96; refine C1.out.mono ?_; rintro e w' ⟨rfl, hw⟩; obtain rfl := hw.symm; clear C1)
        | (with_reducible (show wpList _ _ _ (⟨_, Op.load 76 _, _, _, _, _⟩ :: _) _ _); refine wpList_load_mid rfl 76 _ rfl (w.heap.size + 1) 0 rfl C _ HR.out Tryd.underlying76 rfl HI3.out ?_; refine wpList_store_mid rfl 76 _ _ rfl w.heap.size 0 C.toArray rfl rfl HT2.out HI2.out HO.out ?_))
      try simp only [Exit.inBlock, Exit.then]
      refine bodyPost_ret (results_cell rfl rfl HL.out) rfl ?_
      exact ⟨rfl, HQ.out⟩
end Go.Proofs.YtnghhagiokiaoaaDoor.Wot
