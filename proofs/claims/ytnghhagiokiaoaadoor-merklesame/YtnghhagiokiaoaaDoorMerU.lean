/-
  Layer 7: the program's Up, nodes, Leaf, Verify.
-/
import Derived.Test.YtnghhagiokiaoaaDoorMerC
import Derived.Test.YtnghhagiokiaoaaDoorMer6
namespace Go.Proofs.YtnghhagiokiaoaaDoor.Mer
open Go.RowKit
open Mem Sh Wot
set_option linter.unusedVariables false

theorem pow_cast (n P : Nat) (h : 2 ^ n = P) : (2 : Int) ^ n = (P : Int) := by rw [← h, Int.natCast_pow]; rfl
set_option maxHeartbeats 2000000 in
set_option maxRecDepth 100000 in
theorem up_x {W : World} (g n cap i : Nat) (leaf : ByteArray) (p : Nat → ByteArray) (x : ByteArray) (hx : rtS n (upx leaf i p n) = x) (w : World) (q : Q W w) (hG : GL W) (t : TR w g 0 n p) (l : IsUp leaf i n p) :
    Calls Tryd.prog 14 #[.string leaf, .int .i64 i, .slice (some ⟨g, 0, none⟩) n cap] w fun e w' => e = .returned (.tuple #[.string x, .int .i64 0]) ∧ Q W w' := by
  have HX := Lib.hid hx
  have HQ := Lib.hid q
  have HG := Lib.hid (hG.q q)
  have HT := Lib.hid t
  have HL := Lib.hid l
  have HZ := Lib.hid (upx_size leaf i p l.hl)
  have n4 : (n : Int) ≤ 4 := by have := l.hn; omega
  have n64 : (n : Int) ≤ 64 := by omega
  have n0 : (0 : Int) ≤ (n : Int) := by omega
  have i0 : (0 : Int) ≤ (i : Int) := by omega
  obtain ⟨P, eP⟩ : ∃ P, 2 ^ n = P := ⟨_, rfl⟩
  have P16 : P ≤ 16 := by rw [← eP]; exact pow_le16 n l.hn
  have P16' : (P : Int) ≤ 16 := by omega
  have iP : (i : Int) < (P : Int) := by rw [← eP]; exact l.hi
  have td : decide (P ≤ i) = false := by simp; omega
  have e2 := pow_cast n P eP
  have CH := Lib.hid (isHash_y leaf l.hl w)
  have CA := Lib.hid (areHashes_y g 0 n cap p w t (by have := l.hn; omega) l.hz)
  clear q t l hx eP hG
  go_enter Tryd.func14, Tryd.ntmps14
  go_wp2_with fail
  refine CH.out.mono ?_
  rintro e _ ⟨rfl, rfl⟩
  go_wp2_with fail
  refine CA.out.mono ?_
  rintro e _ ⟨rfl, rfl⟩
  clear CH CA
  go_wp2_with fail
  go_loopw [8, 9, 10, 38] (fun u z y j wr => ∃ k : Nat, k ≤ n ∧ u = .string (upx leaf i p k) ∧ j = .int .i64 k ∧ Hid (Q w wr)) (fun _ _ _ j _ => n - (intOf j).toNat)
  case atStart => exact ⟨0, by omega, rfl, rfl, Lib.hid (Q.refl w)⟩
  case round =>
    obtain ⟨k, hk, rfl, rfl, I⟩ := hrel
    have k0 : (0 : Int) ≤ (k : Int) := by omega
    have k64 : (k : Int) ≤ 64 := by omega
    have zu : (upx leaf i p k).size ≤ 1000000 := by rw [HZ.out k]; decide
    by_cases hlt : k < n
    · have k1 : (k : Int) < (n : Int) := by omega
      have hc := (HT.out.q I.out).r k hlt
      rw [Nat.zero_add] at hc
      have zp : (p k).size ≤ 1000000 := by have := HL.out.hz k hlt; omega
      have es := div_cast i k
      obtain ⟨a, ea⟩ : ∃ a, i / 2 ^ k = a := ⟨_, rfl⟩
      rw [ea] at es
      by_cases e : a % 2 = 0
      · have em : (a : Int) % 2 = 0 := by omega
        have HS : Hid (nd (upx leaf i p k) (p k) = upx leaf i p (k + 1)) := by show _ = (if (i / 2 ^ k) % 2 = 0 then _ else _); rw [ea, if_pos e]
        clear ea
        generalize upx leaf i p k = u at *
        generalize p k = y at *
        go_wp2_with fail
        refine (node_x u y _ HS.out wr I.out HG.out zu zp).mono ?_
        rintro r w1 ⟨rfl, q1⟩
        have Q1 := Lib.hid q1
        clear q1
        go_wp2_with fail
        exact ⟨⟨k + 1, by omega, rfl, by go_num, Q1⟩, by simp [intOf]; omega⟩
      · have em : (a : Int) % 2 = 1 := by omega
        have HS : Hid (nd (p k) (upx leaf i p k) = upx leaf i p (k + 1)) := by show _ = (if (i / 2 ^ k) % 2 = 0 then _ else _); rw [ea, if_neg e]
        clear ea
        generalize upx leaf i p k = u at *
        generalize p k = y at *
        go_wp2_with fail
        refine (node_x y u _ HS.out wr I.out HG.out zp zu).mono ?_
        rintro r w1 ⟨rfl, q1⟩
        have Q1 := Lib.hid q1
        clear q1
        go_wp2_with fail
        exact ⟨⟨k + 1, by omega, rfl, by go_num, Q1⟩, by simp [intOf]; omega⟩
    · obtain rfl : k = n := by omega
      have td2 : decide (k < k) = false := by simp
      generalize upx leaf i p k = u at *
      go_wp2_with fail
      refine (rootOf_x k u x HX.out wr I.out HG.out zu (by omega)).mono ?_
      rintro r w1 ⟨rfl, q1⟩
      go_wp2_with fail
      go_ret2
      exact ⟨rfl, HQ.out.trans q1⟩
set_option maxHeartbeats 1000000 in
theorem up_bad {W : World} (g n cap : Nat) (i : Int) (leaf : ByteArray) (p : Nat → ByteArray) (w : World) (q : Q W w) (t : TR w g 0 n p) (hn : n ≤ 100000) (h9 : i ≤ 9223372036854775807) (l : ¬ IsUp leaf i n p) :
    Calls Tryd.prog 14 #[.string leaf, .int .i64 i, .slice (some ⟨g, 0, none⟩) n cap] w fun e w' => e = .returned (.tuple #[.string ⟨#[]⟩, .int .i64 1]) ∧ Q W w' := by
  by_cases c2 : n ≤ 4
  case neg =>
    have d2 : (4 : Int) < (n : Int) := by omega
    clear t l
    go_enter Tryd.func14, Tryd.ntmps14
    go_wp2_with fail
    go_ret2
    exact ⟨rfl, q⟩
  have d2 : (n : Int) ≤ 4 := by omega
  have n64 : (n : Int) ≤ 64 := by omega
  have n0 : (0 : Int) ≤ (n : Int) := by omega
  by_cases c3 : 0 ≤ i
  case neg =>
    have d3 : i < 0 := by omega
    clear t l
    go_enter Tryd.func14, Tryd.ntmps14
    go_wp2_with fail
    go_ret2
    exact ⟨rfl, q⟩
  obtain ⟨P, eP⟩ : ∃ P, 2 ^ n = P := ⟨_, rfl⟩
  have P16 : P ≤ 16 := by rw [← eP]; exact pow_le16 n c2
  have P16' : (P : Int) ≤ 16 := by omega
  have e2 := pow_cast n P eP
  by_cases c4 : i < (P : Int)
  case neg =>
    have d4 : (P : Int) ≤ i := by omega
    clear t l eP
    go_enter Tryd.func14, Tryd.ntmps14
    go_wp2_with fail
    go_ret2
    exact ⟨rfl, q⟩
  by_cases c1 : leaf.size = 16
  case neg =>
    have CH := Lib.hid (isHash_n leaf c1 w)
    clear t l eP
    go_enter Tryd.func14, Tryd.ntmps14
    go_wp2_with fail
    refine CH.out.mono ?_
    rintro e _ ⟨rfl, rfl⟩
    go_wp2_with fail
    go_ret2
    exact ⟨rfl, q⟩
  have hz : ∃ j, j < n ∧ (p j).size ≠ 16 := by
    by_cases hc : ∃ j, j < n ∧ (p j).size ≠ 16
    · exact hc
    · exact absurd ⟨c1, c2, c3, by rw [eP]; exact c4, fun j hj => by
        by_cases e : (p j).size = 16
        · exact e
        · exact absurd ⟨j, hj, e⟩ hc⟩ l
  have CH := Lib.hid (isHash_y leaf c1 w)
  have CA := Lib.hid (areHashes_n g 0 n cap p w t hn hz)
  clear t l eP hz
  go_enter Tryd.func14, Tryd.ntmps14
  go_wp2_with fail
  refine CH.out.mono ?_
  rintro e _ ⟨rfl, rfl⟩
  go_wp2_with fail
  refine CA.out.mono ?_
  rintro e _ ⟨rfl, rfl⟩
  go_wp2_with fail
  go_ret2
  exact ⟨rfl, q⟩

/-! ### nodes -/
def nds (t : ByteArray) (j : Nat) : ByteArray := t.extract (16 * j) (16 * j + 16)
theorem ext_ext (s : ByteArray) (a b c d : Nat) (h : a + d ≤ b) : (s.extract a b).extract c d = s.extract (a + c) (a + d) := by
  apply WideShapes.bytes_inj
  rw [ByteArray.data_extract, ByteArray.data_extract, ByteArray.data_extract, Array.extract_extract, Nat.min_eq_left h]
theorem nds_sgp (sig : ByteArray) (h j : Nat) (hz : sig.size = 289 + 16 * h) (hj : j < h) : nds (sig.extract 289 sig.size) j = sgp sig j := by
  unfold nds sgp; rw [ext_ext _ _ _ _ _ (by omega)]; congr 1
set_option maxHeartbeats 1000000 in
set_option maxRecDepth 100000 in
theorem nodes_x {W : World} (t : ByteArray) (m : Nat) (hz : t.size = 16 * m) (hm : m ≤ 100) (w : World) (q : Q W w) :
    Calls Tryd.prog 53 #[.string t] w fun e w' => ∃ g' c', e = .returned (.slice (some ⟨g', 0, none⟩) m c') ∧ OT w' w.heap.size g' m c' (nds t) ∧ Q W w' := by
  have HQ := Lib.hid q
  have HZ := Lib.hid hz
  have ed : (t.size : Int) / 16 = (m : Int) := by omega
  have HM := makeT w m (by omega)
  have O0 := Lib.hid (OT.made w w.heap.size m (nds t) (Nat.le_refl _) (by omega))
  have Q0 := Lib.hid ((Q.refl w).alloc (zs m))
  clear q hz
  go_enter Tryd.func53, Tryd.ntmps53
  go_wp2_with fail
  go_loopw [4, 11] (fun z i wr => ∃ k : Nat, k ≤ m ∧ i = .int .i64 k ∧ Hid (OT wr w.heap.size w.heap.size m m (st (nds t) k)) ∧ Hid (Q w wr)) (fun _ i _ => m - (intOf i).toNat)
  case atStart => exact ⟨0, by omega, rfl, O0, Q0⟩
  case round =>
    obtain ⟨k, hk, rfl, O, I⟩ := hrel
    clear O0 Q0 HM
    have k0 : (0 : Int) ≤ (k : Int) := by omega
    by_cases hlt : k < m
    · have k1 : (k : Int) < (m : Int) := by omega
      have hz := HZ.out
      have HV : Hid (nds t k = t.extract (k * 16) ((k + 1) * 16)) := by show t.extract _ _ = _; congr 1 <;> omega
      have A1 : ((k : Int) + 1) * 16 ≤ (t.size : Int) := by omega
      have A2 : (k : Int) * 16 ≤ ((k : Int) + 1) * 16 := by omega
      have t9 : (t.size : Int) ≤ 10000 := by omega
      have cx := O.out.cell k hlt
      have fx := O.out.fz k
      have F3 := O.out.fill hlt
      rw [HV.out] at F3
      have O3 := Lib.hid F3.1
      have Q3 := Lib.hid (F3.2.q I.out (Nat.le_refl _))
      clear F3 hz
      go_wp2_with fail
      exact ⟨⟨k + 1, by omega, by go_num, O3, Q3⟩, by simp [intOf]; omega⟩
    · obtain rfl : k = m := by omega
      have td : decide (k < k) = false := by simp
      go_wp2_with fail
      go_ret
      exact ⟨_, _, rfl, O.out.full, HQ.out.trans I.out⟩

/-! ### Leaf -/
set_option maxHeartbeats 1000000 in
theorem leaf_ok (sig : ByteArray) (h b : Nat) (x : IsSig sig h b) (w : World) :
    Calls Tryd.prog 25 #[.string sig] w fun e w' => e = .returned (.tuple #[.int .i64 b, .int .i64 0]) ∧ w = w' := by
  obtain ⟨hz, hh, hb, hlt⟩ := x
  have z0 : 0 < sig.size := by omega
  have z0' : (0 : Int) < (sig.size : Int) := by omega
  have hg := PlainAid.get_bt sig
  have b0 : (0 : Int) ≤ (b : Int) := by omega
  have b255 : (b : Int) ≤ 255 := by have := PlainAid.bt_le sig 0; omega
  obtain ⟨T, eT⟩ : ∃ T, 16 * h = T := ⟨_, rfl⟩
  have t1 : wrap64 ((sig.size : Int) - 289) = (T : Int) := by unfold wrap64; omega
  have t2 : (T : Int) % 16 = 0 := by omega
  have t3 : (T : Int) / 16 = (h : Int) := by omega
  have t0 : (0 : Int) ≤ (T : Int) := by omega
  have t9 : (T : Int) ≤ 1000 := by omega
  have h4 : (h : Int) ≤ 4 := by omega
  have h0 : (0 : Int) ≤ (h : Int) := by omega
  have h64 : (h : Int) ≤ 64 := by omega
  obtain ⟨P, eP⟩ : ∃ P, 2 ^ h = P := ⟨_, rfl⟩
  have P16 : P ≤ 16 := by rw [← eP]; exact pow_le16 h hh
  have P16' : (P : Int) ≤ 16 := by omega
  have bP : (b : Int) < (P : Int) := by rw [eP] at hlt; omega
  have e2 := pow_cast h P eP
  clear hz eT eP hlt
  go_enter Tryd.func25, Tryd.ntmps25
  go_wp2_with fail
  go_ret2
  exact ⟨rfl, rfl⟩
set_option maxHeartbeats 1000000 in
theorem leaf_bad (sig : ByteArray) (x : ¬ ∃ h b, IsSig sig h b) (hz : sig.size ≤ 1000000) (w : World) :
    Calls Tryd.prog 25 #[.string sig] w fun e w' => e = .returned (.tuple #[.int .i64 0, .int .i64 4]) ∧ w = w' := by
  have hg := PlainAid.get_bt sig
  by_cases c1 : sig.size < 289
  · have t1 : wrap64 ((sig.size : Int) - 289) = (sig.size : Int) - 289 := by unfold wrap64; omega
    have t2 : (sig.size : Int) - 289 < 0 := by omega
    clear x hg
    go_enter Tryd.func25, Tryd.ntmps25
    go_wp2_with fail
    go_ret2
    exact ⟨rfl, rfl⟩
  obtain ⟨T, eT⟩ : ∃ T, sig.size - 289 = T := ⟨_, rfl⟩
  have t1 : wrap64 ((sig.size : Int) - 289) = (T : Int) := by unfold wrap64; omega
  have t0 : (0 : Int) ≤ (T : Int) := by omega
  have t9 : (T : Int) ≤ 1000000 := by omega
  have eT' : sig.size = 289 + T := by omega
  have z0 : 0 < sig.size := by omega
  have z0' : (0 : Int) < (sig.size : Int) := by omega
  clear hz eT
  by_cases c2 : T % 16 = 0
  case neg =>
    have t2 : ((T : Int) % 16 != 0) = true := by simp; omega
    clear x hg eT'
    go_enter Tryd.func25, Tryd.ntmps25
    go_wp2_with fail
    go_ret2
    exact ⟨rfl, rfl⟩
  have t2 : (T : Int) % 16 = 0 := by omega
  obtain ⟨h, eh⟩ : ∃ h, T / 16 = h := ⟨_, rfl⟩
  have t3 : (T : Int) / 16 = (h : Int) := by omega
  by_cases c3 : h ≤ 4
  case neg =>
    have h4 : (4 : Int) < (h : Int) := by omega
    clear x hg eT' eh
    go_enter Tryd.func25, Tryd.ntmps25
    go_wp2_with fail
    go_ret2
    exact ⟨rfl, rfl⟩
  obtain ⟨b, hb⟩ : ∃ b : Nat, PlainAid.bt sig 0 = (b : Int) := Int.eq_ofNat_of_zero_le (PlainAid.bt_nonneg sig 0)
  have b0 : (0 : Int) ≤ (b : Int) := by omega
  have b255 : (b : Int) ≤ 255 := by have := PlainAid.bt_le sig 0; omega
  have h4 : (h : Int) ≤ 4 := by omega
  have h0 : (0 : Int) ≤ (h : Int) := by omega
  have h64 : (h : Int) ≤ 64 := by omega
  obtain ⟨P, eP⟩ : ∃ P, 2 ^ h = P := ⟨_, rfl⟩
  have P16 : P ≤ 16 := by rw [← eP]; exact pow_le16 h c3
  have P16' : (P : Int) ≤ 16 := by omega
  have bP : (P : Int) ≤ (b : Int) := by
    by_cases hc : b < 2 ^ h
    · exact absurd ⟨h, b, by omega, c3, hb, hc⟩ x
    · rw [eP] at hc; omega
  have e2 := pow_cast h P eP
  clear eT' eh eP x
  go_enter Tryd.func25, Tryd.ntmps25
  go_wp2_with fail
  go_ret2
  exact ⟨rfl, rfl⟩

set_option maxHeartbeats 2000000 in
set_option maxRecDepth 100000 in
theorem mverify_is {W : World} (r m sig : ByteArray) (v : Bool) (h b : Nat) (hr : r.size = 16) (x : IsSig sig h b) (hv : decide (led r m sig h b = r) = v) (w : World) (q : Q W w) (hG : GL W) (hm : m.size ≤ 100000) :
    Calls Tryd.prog 27 #[.string r, .string m, .string sig] w fun e w' => e = .returned (.bool v) ∧ Q W w' := by
  have HQ := Lib.hid q
  have HG := Lib.hid (hG.q q)
  have HX := Lib.hid x
  have CL := Lib.hid (leaf_ok sig h b x w)
  have CH := Lib.hid (isHash_y r hr w)
  obtain ⟨hz, hh, hb, hlt⟩ := x
  have z1 : (289 : Int) ≤ (sig.size : Int) := by omega
  have b16 : b ≤ 16 := by have := pow_le16 h hh; omega
  obtain ⟨M, eM⟩ : ∃ M, msgS r b m = M := ⟨_, rfl⟩
  obtain ⟨S, eS⟩ : ∃ S, sig.extract 1 289 = S := ⟨_, rfl⟩
  obtain ⟨N, eN⟩ : ∃ N, sig.extract 289 sig.size = N := ⟨_, rfl⟩
  obtain ⟨L, eL⟩ : ∃ L, frm M S = L := ⟨_, rfl⟩
  have zM : M.size ≤ 1000000 := by rw [← eM]; unfold msgS; rw [ByteArray.size_append, ByteArray.size_append, hr, one_size]; omega
  have zS : S.size = 288 := by rw [← eS, ByteArray.size_extract]; omega
  have zN : N.size = 16 * h := by rw [← eN, ByteArray.size_extract]; omega
  obtain ⟨U, eU2⟩ : ∃ U, rtS h (upx L b (sgp sig) h) = U := ⟨_, rfl⟩
  have EV : Hid (decide (U = r) = v) := by rw [← eU2, ← eL, ← eS, ← eM]; exact hv
  have IU : Hid (IsUp L b h (sgp sig)) := by have := is_up (r := r) (m := m) HX.out; rw [eM, eS, eL] at this; exact this
  have NE : Hid (∀ j, j < h → nds N j = sgp sig j) := fun j hj => by rw [← eN]; exact nds_sgp sig h j hz hj
  have EM := Lib.hid eM
  have EL := Lib.hid eL
  have EU := Lib.hid eU2
  have ZS := Lib.hid zS
  have ZN := Lib.hid zN
  have HR := Lib.hid hr
  have HH := Lib.hid hh
  clear q hz hb hlt eL eM eU2 hv HX hr zS zN hG hh
  go_enter Tryd.func27, Tryd.ntmps27
  go_wp2_with fail
  refine CL.out.mono ?_
  rintro e w0 ⟨rfl, rfl⟩
  go_wp2_with fail
  refine CH.out.mono ?_
  rintro e w0 ⟨rfl, rfl⟩
  clear CL CH
  go_wp2_with fail
  have J0 : Hid (Q w w.drew) := (Q.refl w).drew
  refine wp_region_held_drew (S := fun _ => True) (by kernel_rfl) trivial (fun hHeld => ?_)
  refine wpAnyH_take (i := 0) (v := ?_) (by simp only [List.getElem?_toArray, List.getElem?_cons_zero]; rfl) (by kernel_rfl) (by kernel_rfl) (by kernel_rfl) (by exact fun _ _ _ h => h) (Or.inl ⟨by rfl, ?_⟩) trivial ?_
  rotate_left
  · (intro wx hSw; (try dsimp only at hSw); go_simp; (try rw [if_neg (by omega)]); try (with_reducible rfl))
  try simp only [Act.put, List.setIfInBounds_toArray, List.set_cons_zero, List.set_cons_succ]
  refine wpAnyH_take (i := 1) (v := ?_) (by simp only [List.getElem?_toArray, List.getElem?_cons_zero, List.getElem?_cons_succ]; rfl) (by kernel_rfl) (by kernel_rfl) (by kernel_rfl) (by exact fun _ _ _ h => h) (Or.inl ⟨by rfl, ?_⟩) trivial ?_
  rotate_left
  · (intro wx hSw; (try dsimp only at hSw); go_simp; (try rw [if_neg (by omega)]); try (with_reducible rfl))
  try simp only [Act.put, List.setIfInBounds_toArray, List.set_cons_zero, List.set_cons_succ]
  refine wpAnyH_take (i := 2) (v := ?_) (by simp only [List.getElem?_toArray, List.getElem?_cons_zero, List.getElem?_cons_succ]; rfl) (by kernel_rfl) (by kernel_rfl) (by kernel_rfl) (by exact fun _ _ _ h => h) (Or.inl ⟨by rfl, ?_⟩) trivial ?_
  rotate_left
  · (intro wx hSw; (try dsimp only at hSw); go_simp; (try rw [if_neg (by omega)]); try (with_reducible rfl))
  try simp only [Act.put, List.setIfInBounds_toArray, List.set_cons_zero, List.set_cons_succ]
  refine wpAnyH_take (i := 4) (v := ?_) (by simp only [List.getElem?_toArray, List.getElem?_cons_zero, List.getElem?_cons_succ]; rfl) (by kernel_rfl) (by kernel_rfl) (by kernel_rfl) (by exact fun _ _ _ h => h) (Or.inl ⟨by rfl, ?_⟩) trivial ?_
  rotate_left
  · (intro wx hSw; (try dsimp only at hSw); go_simp; (try rw [if_neg (by omega)]); try (with_reducible rfl))
  try simp only [Act.put, List.setIfInBounds_toArray, List.set_cons_zero, List.set_cons_succ]
  refine wpAnyH_take (i := 5) (v := ?_) (by simp only [List.getElem?_toArray, List.getElem?_cons_zero, List.getElem?_cons_succ]; rfl) (by kernel_rfl) (by kernel_rfl) (by kernel_rfl) (by exact fun _ _ _ h => h) (Or.inl ⟨by rfl, ?_⟩) trivial ?_
  rotate_left
  · (intro wx hSw; (try dsimp only at hSw); go_simp; (try rw [if_pos (by omega)]); try (with_reducible rfl))
  try simp only [Act.put, List.setIfInBounds_toArray, List.set_cons_zero, List.set_cons_succ]
  refine wpAnyH_ready (rs := [3]) (by kernel_rfl) (by simp) ?_
  refine AllReadyH.cons (by simp only [List.getElem?_toArray, List.getElem?_cons_succ, List.getElem?_cons_zero]; rfl) (fun K hK => ?_) AllReadyH.nil
  go_simp
  refine (bound_x r m M b EM.out w.drew J0.out (by have := HR.out; omega) hm (by omega)).mono ?_
  rintro e w1 ⟨rfl, q1⟩
  have J1 := Lib.hid q1
  clear q1
  dsimp only
  refine hK.out _ _ trivial (fun hHeld3 => ?_)
  clear hK K
  try simp only [Act.put, List.setIfInBounds_toArray, List.set_cons_zero, List.set_cons_succ]
  refine wpAnyH_ready (rs := [6]) (by kernel_rfl) (by simp) ?_
  refine AllReadyH.cons (by simp only [List.getElem?_toArray, List.getElem?_cons_succ, List.getElem?_cons_zero]; rfl) (fun K hK => ?_) AllReadyH.nil
  go_simp
  refine (from_x M S L EL.out w1 J1.out HG.out ZS.out zM).mono ?_
  rintro e w2 ⟨rfl, q2⟩
  have J2 := Lib.hid q2
  clear q2 J1
  dsimp only
  refine hK.out _ _ trivial (fun hHeld6 => ?_)
  clear hK K
  try simp only [Act.put, List.setIfInBounds_toArray, List.set_cons_zero, List.set_cons_succ]
  refine wpAnyH_take (i := 7) (v := ?_) (by simp only [List.getElem?_toArray, List.getElem?_cons_zero, List.getElem?_cons_succ]; rfl) (by kernel_rfl) (by kernel_rfl) (by kernel_rfl) (by exact fun _ _ _ h => h) (Or.inl ⟨by rfl, ?_⟩) trivial ?_
  rotate_left
  · (intro wx hSw; (try dsimp only at hSw); go_simp; (try rw [if_neg (by omega)]); try (with_reducible rfl))
  try simp only [Act.put, List.setIfInBounds_toArray, List.set_cons_zero, List.set_cons_succ]
  refine wpAnyH_take (i := 8) (v := ?_) (by simp only [List.getElem?_toArray, List.getElem?_cons_zero, List.getElem?_cons_succ]; rfl) (by kernel_rfl) (by kernel_rfl) (by kernel_rfl) (by exact fun _ _ _ h => h) (Or.inl ⟨by rfl, ?_⟩) trivial ?_
  rotate_left
  · (intro wx hSw; (try dsimp only at hSw); go_simp; (try rw [if_neg (by omega)]); try (with_reducible rfl))
  try simp only [Act.put, List.setIfInBounds_toArray, List.set_cons_zero, List.set_cons_succ]
  refine wpAnyH_take (i := 9) (v := ?_) (by simp only [List.getElem?_toArray, List.getElem?_cons_zero, List.getElem?_cons_succ]; rfl) (by kernel_rfl) (by kernel_rfl) (by kernel_rfl) (by exact fun _ _ _ h => h) (Or.inl ⟨by rfl, ?_⟩) trivial ?_
  rotate_left
  · (intro wx hSw; (try dsimp only at hSw); go_simp; (try rw [if_neg (by omega)]); try (with_reducible rfl))
  try simp only [Act.put, List.setIfInBounds_toArray, List.set_cons_zero, List.set_cons_succ]
  refine wpAnyH_take (i := 10) (v := ?_) (by simp only [List.getElem?_toArray, List.getElem?_cons_zero, List.getElem?_cons_succ]; rfl) (by kernel_rfl) (by kernel_rfl) (by kernel_rfl) (by exact fun _ _ _ h => h) (Or.inl ⟨by rfl, ?_⟩) trivial ?_
  rotate_left
  · (intro wx hSw; (try dsimp only at hSw); go_simp; (try rw [if_neg (by omega)]); try (with_reducible rfl))
  try simp only [Act.put, List.setIfInBounds_toArray, List.set_cons_zero, List.set_cons_succ]
  refine wpAnyH_take (i := 11) (v := ?_) (by simp only [List.getElem?_toArray, List.getElem?_cons_zero, List.getElem?_cons_succ]; rfl) (by kernel_rfl) (by kernel_rfl) (by kernel_rfl) (by exact fun _ _ _ h => h) (Or.inl ⟨by rfl, ?_⟩) trivial ?_
  rotate_left
  · (intro wx hSw; (try dsimp only at hSw); go_simp; (try rw [if_neg (by omega)]); try (with_reducible rfl))
  try simp only [Act.put, List.setIfInBounds_toArray, List.set_cons_zero, List.set_cons_succ]
  refine wpAnyH_done (by kernel_rfl) ?_ _
  go_wp2_with fail
  refine (nodes_x (W := w2) N h ZN.out (by have := HH.out; omega) w2 (Q.refl w2)).mono ?_
  rintro e w3 ⟨g3, c3, rfl, o3, q3⟩
  have J3 := Lib.hid (J2.out.trans q3)
  have T3 := Lib.hid (o3.congr NE.out).tr
  clear o3 q3
  go_wp2_with fail
  refine (up_x g3 h c3 b L (sgp sig) U EU.out w3 J3.out HG.out T3.out IU.out).mono ?_
  rintro e w4 ⟨rfl, q4⟩
  have J4 := Lib.hid q4
  clear q4
  by_cases hc : U = r
  · have ev : v = true := by rw [← EV.out]; simp [hc]
    subst hc
    go_wp2_with fail
    go_ret
    exact ⟨by rw [ev]; rfl, HQ.out.trans J4.out⟩
  · have ev : v = false := by rw [← EV.out]; simp [hc]
    have hn := ne_tl U r hc
    go_wp2_with fail
    go_ret
    exact ⟨by rw [ev]; rfl, HQ.out.trans J4.out⟩
theorem mverify_x {W : World} (r m sig : ByteArray) (v : Bool) (hv : mvf r m sig = v) (w : World) (q : Q W w) (hG : GL W) (hm : m.size ≤ 100000) (hs : sig.size ≤ 1000000) :
    Calls Tryd.prog 27 #[.string r, .string m, .string sig] w fun e w' => e = .returned (.bool v) ∧ Q W w' := by
  by_cases x : ∃ h b, IsSig sig h b
  · obtain ⟨h, b, x⟩ := x
    by_cases hr : r.size = 16
    · refine mverify_is r m sig v h b hr x ?_ w q hG hm
      rw [← hv]
      by_cases e : led r m sig h b = r
      · rw [mvf_yes r m sig h b hr x e, e]; simp
      · rw [mvf_ne r m sig h b x e]; simp [e]
    · have CL := Lib.hid (leaf_ok sig h b x w)
      have CH := Lib.hid (isHash_n r hr w)
      rw [mvf_short r m sig hr] at hv
      subst hv
      clear x hr
      go_enter Tryd.func27, Tryd.ntmps27
      go_wp2_with fail
      refine CL.out.mono ?_
      rintro e w0 ⟨rfl, rfl⟩
      go_wp2_with fail
      refine CH.out.mono ?_
      rintro e w0 ⟨rfl, rfl⟩
      go_wp2_with fail
      go_ret
      exact ⟨rfl, q⟩
  · have CL := Lib.hid (leaf_bad sig x hs w)
    rw [mvf_no r m sig x] at hv
    subst hv
    clear x
    go_enter Tryd.func27, Tryd.ntmps27
    go_wp2_with fail
    refine CL.out.mono ?_
    rintro e w0 ⟨rfl, rfl⟩
    go_wp2_with fail
    go_ret
    exact ⟨rfl, q⟩
end Go.Proofs.YtnghhagiokiaoaaDoor.Mer
