/-
  The program's layer 2: the walk of Hex (over strings.Builder).
-/
import Derived.Test.YtklboeephfpokaaDoorShaP7
import Derived.Test.YtklboeephfpokaaDoorShaR5
import Derived.Test.YtklboeephfpokaaDoorShelf
namespace Go.Proofs.YtklboeephfpokaaDoor.Sh
open Go.RowKit
open Mem
set_option linter.unusedVariables false

theorem hexL_byts : ∀ (l : List Int), (∀ x ∈ l, 0 ≤ x ∧ x ≤ 255) → ∀ x ∈ hexL l, 0 ≤ x ∧ x ≤ 255
  | [], _ => fun x hx => by simp [hexL] at hx
  | y :: r, h => fun x hx => by
    have hy := h y (by simp)
    simp only [hexL, List.mem_cons] at hx
    rcases hx with rfl | rfl | hx
    · exact hd_bd _ (by omega) (by omega)
    · exact hd_bd _ (by omega) (by omega)
    · exact hexL_byts r (fun z hz => h z (by simp [hz])) x hx

set_option maxHeartbeats 1000000 in
theorem copyCheck_used (b : Nat) (w : World) (h0 : w.cell? ⟨b, 0, none⟩ = some (.pointer (some ⟨b, 0, none⟩))) :
    Calls Tryd.prog 36 #[.pointer (some ⟨b, 0, none⟩)] w fun e w' => e = .returned (.tuple #[]) ∧ w' = w := by
  obtain ⟨j, hj, _⟩ := Option.map_eq_some_iff.1 (show (Tryd.prog.info? 47).map (·.size) = some 2 by kernel_rfl)
  go_enter Tryd.func36, Tryd.ntmps36
  go_wp2_with fail
  rw [Lib.run_neq_ptr_same w _ Tryd.underlying45 hj]
  go_wp2_with fail
  go_end0
  exact ⟨rfl, rfl⟩

abbrev UB (B b : Nat) (bs : List Value) (w : World) : Prop := Lib.BuilderAt 47 5 B b (.pointer (some ⟨b, 0, none⟩)) bs w

set_option maxHeartbeats 1000000 in
theorem writeByte_any (B b : Nat) (bs : List Value) (c : Int) (w : World) (h : UB B b bs w) (hlen : bs.length ≤ 10000000000) (hBw : B ≤ w.heap.size) :
    Calls Tryd.prog 29 #[.pointer (some ⟨b, 0, none⟩), .int .u8 c] w fun e w' => e = .returned .nilIface ∧ UB B b (bs ++ [.int .u8 c]) w' ∧ Below B w w' := by
  obtain ⟨i0, hi0, hz0, hz1, hz2⟩ := info_parts infoB
  have hlt := h.lt
  obtain ⟨hB, v, hbk, hown, hne⟩ := h
  have c0 : w.cell? ⟨b, 0, none⟩ = some (.pointer (some ⟨b, 0, none⟩)) := by rw [Lib.cell_of_heap hbk]; rfl
  have c1 : w.cell? ⟨b, 1, none⟩ = some v := by rw [Lib.cell_of_heap hbk]; rfl
  go_enter Tryd.func29, Tryd.ntmps29
  go_wp2_with (first
    | (go_at_call 36; refine (copyCheck_used b w c0).mono ?_; rintro e w' ⟨rfl, hw⟩; obtain rfl := hw.symm)
    | (at_builtin; (refine wpList_append_own _ rfl (.tmp 11) (.tmp 13) 35 rfl B 5 i0 (.int .u8 0) 1 1 Tryd.underlying35 hi0 hz0 hz1 hz2 rfl (by decide) _ _ _ rfl (hown.alloc _) ⟨w.heap.size, 0, none⟩ 1 1 [.int .u8 c] rfl rfl (cell_one_new _ _ _) (fun u hu => by simp at hu; subst hu; rfl) (by unfold maxLen; omega) (by omega) (by simp; omega) ?_); refine fun v' w2 hown' hgrow _ => halt ?_))
  have hb2 : w2.heap[b]? = some (.cells #[.pointer (some ⟨b, 0, none⟩), v] 47 (0, 0)) := by
    rw [hgrow.block b (by simp; omega) (fun e => hne e.symm), Lib.alloc_old w _ b hlt]
    exact hbk
  have d0 : w2.cell? ⟨b, 0, none⟩ = some (.pointer (some ⟨b, 0, none⟩)) := by rw [Lib.cell_of_heap hb2]; rfl
  have d1 : w2.cell? ⟨b, 1, none⟩ = some v := by rw [Lib.cell_of_heap hb2]; rfl
  have f1 : w2.frozen? ⟨b, 1, none⟩ = false := Lib.frozen_of_heap hb2 1
  have HB : Hid (UB B b (bs ++ [.int .u8 c]) (w2.setCell ⟨b, 1, none⟩ v') ∧ Below B w (w2.setCell ⟨b, 1, none⟩ v')) :=
    ⟨Lib.BuilderAt.put hB hb2 (bs' := bs ++ [.int .u8 c]) (by simpa using hown') (by decide), (((Below.refl B w).alloc hBw _).grown hgrow (by simp; omega) (fun k hk => (hown.lt k hk).1)).setCell (p := ⟨b, 1, none⟩) hB _⟩
  obtain ⟨g, cap, rfl⟩ : ∃ g cap, v' = .slice (some ⟨g, 0, none⟩) (bs.length + 1) cap := by
    rcases hown'.2 with ⟨_, h0⟩ | ⟨g, cap, cur, hv, _⟩
    · omega
    · exact ⟨g, cap, hv⟩
  clear hb2 hown' hgrow hown hbk c0 c1 hne
  refine Hid.out ?_
  show wpList _ _ _ _ _ _
  go_wp2_with fail
  go_ret
  exact ⟨rfl, HB.out⟩

theorem hexV (s : ByteArray) : vals .u8 (hexL (sb s)) = Lib.byteCells (hexS s).data.toList := by
  show _ = Lib.strCells (hexS s)
  rw [sb_cells]
  unfold hexS
  rw [sb_nums _ (hexL_byts _ (sb_byts s))]

set_option maxHeartbeats 1000000 in
set_option maxRecDepth 100000 in
theorem hex_any {W : World} (s : ByteArray) (w : World) (q : Q W w) (hs : s.size ≤ 1000000000) :
    Calls Tryd.prog 14 #[.string s] w fun e w' => e = .returned (.string (hexS s)) ∧ Q W w' := by
  have hb := PlainAid.get_bt s
  have hd' := PlainAid.get_bt dtab
  have HD : Hid (dtab = ⟨#[48, 49, 50, 51, 52, 53, 54, 55, 56, 57, 97, 98, 99, 100, 101, 102]⟩) := rfl
  rw [HD.out] at hd'
  have cG := Tryd.Builder_Grow_fresh w.heap.size w.heap.size (2 * s.size) (w.alloc (.cells #[.pointer none, .slice none 0 0] 47)) (Nat.le_refl _) (show (w.heap.push _)[w.heap.size]? = _ by simp) (by simp) (by omega)
  rw [show ((2 * s.size : Nat) : Int) = 2 * (s.size : Int) by omega] at cG
  have CG := Lib.hid cG
  clear cG
  go_enter Tryd.func14, Tryd.ntmps14
  go_wp2_with fail
  refine CG.out.mono ?_
  rintro e w2 ⟨rfl, hu2, hb2⟩
  have h2 : Hid (UB w.heap.size w.heap.size (vals .u8 (hexL ((sb s).take 0))) w2 ∧ Q w w2) := ⟨hu2, Below.trans ((Below.refl _ _).alloc (Nat.le_refl _) _) hb2⟩
  clear hu2 hb2 CG
  go_wp2_with fail
  go_loopw [11] (fun i wr => ∃ k : Nat, k ≤ s.size ∧ i = .int .i64 k ∧ Hid (UB w.heap.size w.heap.size (vals .u8 (hexL ((sb s).take k))) wr ∧ Q w wr)) (fun i _ => s.size - (intOf i).toNat)
  case atStart => exact ⟨0, by omega, rfl, h2⟩
  case round =>
    obtain ⟨k, hk, rfl, I⟩ := hrel
    clear h2
    by_cases hlt : k < s.size
    · have k0 : (0 : Int) ≤ (k : Int) := by omega
      have k1 : (k : Int) < (s.size : Int) := by omega
      have tk : decide ((k : Int) < (s.size : Int)) = true := by simp; omega
      have x0 := PlainAid.bt_nonneg s k
      have x1 := PlainAid.bt_le s k
      have hlen : (vals .u8 (hexL ((sb s).take k))).length = 2 * k := by unfold vals; rw [List.length_map, hexL_len, List.length_take, sb_len]; omega
      have HK : Hid (vals .u8 (hexL ((sb s).take k)) ++ [.int .u8 (hd (PlainAid.bt s k / 16))] ++ [.int .u8 (hd (PlainAid.bt s k % 16))] = vals .u8 (hexL ((sb s).take (k + 1)))) := by
        show _ = _
        rw [List.take_add_one, sb_get s k hlt]
        show _ = vals .u8 (hexL ((sb s).take k ++ [PlainAid.bt s k]))
        rw [hexL_append, ← vals_append, List.append_assoc]
        rfl
      obtain ⟨x, hx⟩ : ∃ x, PlainAid.bt s k = x := ⟨_, rfl⟩
      obtain ⟨xa, xe, xl⟩ : ∃ n : Nat, x / 16 = n ∧ n < 16 := ⟨(x / 16).toNat, by omega, by omega⟩
      obtain ⟨xb, xf, xm⟩ : ∃ n : Nat, x % 16 = n ∧ n < 16 := ⟨(x % 16).toNat, by omega, by omega⟩
      have t1 := dtab_at xa xl
      have t2 := dtab_at xb xm
      rw [HD.out] at t1 t2
      rw [hx, xe, xf] at HK
      rw [hx] at x0 x1
      have IH := Lib.hid hlen
      clear hlen
      generalize vals .u8 (hexL ((sb s).take k)) = bs at *
      have hsz := I.out.2.size
      go_wp2_with fail
      refine (writeByte_any w.heap.size w.heap.size bs (hd xa) wr I.out.1 (by have := IH.out; omega) hsz).mono ?_
      rintro e w3 ⟨rfl, hu3, hb3⟩
      have H3 := Lib.hid (And.intro hu3 (Below.trans I.out.2 hb3))
      clear hu3 hb3 I
      have hsz3 := H3.out.2.size
      go_wp2_with fail
      refine (writeByte_any w.heap.size w.heap.size (bs ++ [.int .u8 (hd xa)]) (hd xb) w3 H3.out.1 (by have := IH.out; simp; omega) hsz3).mono ?_
      rintro e w4 ⟨rfl, hu4, hb4⟩
      rw [HK.out] at hu4
      have H4 : Hid (UB w.heap.size w.heap.size (vals .u8 (hexL ((sb s).take (k + 1)))) w4 ∧ Q w w4) := ⟨hu4, Below.trans H3.out.2 hb4⟩
      clear hu4 hb4 H3
      go_wp2_with fail
      exact ⟨⟨k + 1, by omega, by go_num, H4⟩, by simp [intOf]; omega⟩
    · obtain rfl : k = s.size := by omega
      have hu : UB w.heap.size w.heap.size (Lib.byteCells (hexS s).data.toList) wr := by
        rw [← hexV]
        have := I.out.1
        rwa [List.take_of_length_le (by rw [sb_len]; omega)] at this
      have CS := Lib.hid (Tryd.Builder_String_any w.heap.size w.heap.size (hexS s).data.toList wr (.inr hu) I.out.2.size)
      have HQ := Lib.hid I.out.2
      clear hu I
      go_wp2_with fail
      refine CS.out.mono ?_
      rintro e w5 ⟨rfl, hb5⟩
      go_wp2_with fail
      go_ret
      exact ⟨rfl, q.trans (Below.trans HQ.out hb5)⟩
end Go.Proofs.YtklboeephfpokaaDoor.Sh
