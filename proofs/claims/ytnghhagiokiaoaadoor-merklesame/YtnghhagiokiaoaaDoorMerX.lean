/-
  Layer 7: contracts with letters; the statements' cut.
-/
import Derived.Test.YtnghhagiokiaoaaDoorMerF
namespace Go.Proofs.YtnghhagiokiaoaaDoor.Mer
open Go.RowKit
open Mem Sh Wot
set_option linter.unusedVariables false

theorem min_cut (a : Nat) (n : Int) (h : 0 ≤ n) : 0 ≤ min (a : Int) n ∧ min (a : Int) n ≤ (a : Int) := ⟨by rw [Int.le_min]; exact ⟨by omega, h⟩, Int.min_le_left _ _⟩
/-- Has one of the first digits of a below b's there? -/
theorem leaf_x (sig : ByteArray) (a e : Int) (ha : lfV sig = a) (he : lfE sig = e) (hz : sig.size ≤ 1000000) (w : World) :
    Calls Tryd.prog 25 #[.string sig] w fun r w' => r = .returned (.tuple #[.int .i64 a, .int .i64 e]) ∧ w = w' := by
  by_cases x : ∃ h b, IsSig sig h b
  · obtain ⟨h, b, x⟩ := x
    obtain ⟨h1, h2⟩ := lf_yes sig h b x
    rw [← ha, ← he, h1, h2]; exact leaf_ok sig h b x w
  · obtain ⟨h1, h2⟩ := lf_no sig x
    rw [← ha, ← he, h1, h2]; exact leaf_bad sig x hz w
theorem rleaf_x (sig : ByteArray) (a e : Int) (ha : lfV sig = a) (he : lfE sig = e) (hz : sig.size ≤ 1000000) (w : World) :
    Calls Tryd.prog 26 #[.string sig] w fun r w' => r = .returned (.tuple #[.int .i64 a, .int .i64 e]) ∧ w = w' := by
  by_cases x : ∃ h b, IsSig sig h b
  · obtain ⟨h, b, x⟩ := x
    obtain ⟨h1, h2⟩ := lf_yes sig h b x
    rw [← ha, ← he, h1, h2]; exact rleaf_ok sig h b x w
  · obtain ⟨h1, h2⟩ := lf_no sig x
    rw [← ha, ← he, h1, h2]; exact rleaf_bad sig x hz w

/-! ### Root of any row -/
open Classical in
noncomputable def rtV (f : Nat → ByteArray) (n : Nat) : ByteArray := if x : ∃ h, IsLv f n h then mroot (Classical.choose x) f else ⟨#[]⟩
open Classical in
noncomputable def rtE (f : Nat → ByteArray) (n : Nat) : Int := if ∃ h, IsLv f n h then 0 else 1
theorem rt_yes {f : Nat → ByteArray} {n h : Nat} (l : IsLv f n h) : rtV f n = mroot h f ∧ rtE f n = 0 := by
  have x : ∃ h, IsLv f n h := ⟨h, l⟩
  unfold rtV rtE
  rw [dif_pos x, if_pos x, (Classical.choose_spec x).one' l]
  exact ⟨rfl, rfl⟩
theorem rt_no {f : Nat → ByteArray} {n : Nat} (x : ¬ ∃ h, IsLv f n h) : rtV f n = ⟨#[]⟩ ∧ rtE f n = 1 := by
  unfold rtV rtE; rw [dif_neg x, if_neg x]; exact ⟨rfl, rfl⟩
theorem root_a {W : World} (g n cap : Nat) (f : Nat → ByteArray) (r : ByteArray) (e : Int) (hr : rtV f n = r) (he : rtE f n = e) (w : World) (q : Q W w) (hG : GL W) (t : TR w g 0 n f) (hn : n ≤ 100000) :
    Calls Tryd.prog 10 #[.slice (some ⟨g, 0, none⟩) n cap] w fun x w' => x = .returned (.tuple #[.string r, .int .i64 e]) ∧ Q W w' := by
  by_cases x : ∃ h, IsLv f n h
  · obtain ⟨h, l⟩ := x
    rw [← he, (rt_yes l).2]; exact root_x g n cap h f r ((rt_yes l).1.symm.trans hr) w q hG t l
  · rw [← hr, ← he, (rt_no x).1, (rt_no x).2]; exact root_bad g n cap f w q t hn x
theorem rroot_a {W : World} (g n cap : Nat) (f : Nat → ByteArray) (r : ByteArray) (e : Int) (hr : rtV f n = r) (he : rtE f n = e) (w : World) (q : Q W w) (t : TR w g 0 n f) (hn : n ≤ 100000) :
    Calls Tryd.prog 11 #[.slice (some ⟨g, 0, none⟩) n cap] w fun x w' => x = .returned (.tuple #[.string r, .int .i64 e]) ∧ Q W w' := by
  by_cases x : ∃ h, IsLv f n h
  · obtain ⟨h, l⟩ := x
    rw [← he, (rt_yes l).2]; exact rroot_x g 0 n cap h f r ((rt_yes l).1.symm.trans hr) w q t l
  · rw [← hr, ← he, (rt_no x).1, (rt_no x).2]; exact rroot_bad g 0 n cap f w q t hn x

/-! ### Up of anything -/
open Classical in
noncomputable def upV (leaf : ByteArray) (i : Int) (n : Nat) (p : Nat → ByteArray) : ByteArray := if IsUp leaf i n p then rtS n (upx leaf i.toNat p n) else ⟨#[]⟩
open Classical in
noncomputable def upE (leaf : ByteArray) (i : Int) (n : Nat) (p : Nat → ByteArray) : Int := if IsUp leaf i n p then 0 else 1
theorem up_a {W : World} (g n cap : Nat) (leaf : ByteArray) (i : Int) (p : Nat → ByteArray) (r : ByteArray) (e : Int) (hr : upV leaf i n p = r) (he : upE leaf i n p = e) (w : World) (q : Q W w) (hG : GL W) (t : TR w g 0 n p) (hn : n ≤ 100000) (h9 : i ≤ 9223372036854775807) :
    Calls Tryd.prog 14 #[.string leaf, .int .i64 i, .slice (some ⟨g, 0, none⟩) n cap] w fun x w' => x = .returned (.tuple #[.string r, .int .i64 e]) ∧ Q W w' := by
  unfold upV at hr
  unfold upE at he
  by_cases x : IsUp leaf i n p
  · obtain ⟨j, rfl⟩ := Int.eq_ofNat_of_zero_le x.h0
    rw [if_pos x] at hr he
    rw [← he]; exact up_x g n cap j leaf p r hr w q hG t x
  · rw [if_neg x] at hr he
    rw [← hr, ← he]; exact up_bad g n cap i leaf p w q t hn h9 x
theorem rup_a {W : World} (g n cap : Nat) (leaf : ByteArray) (i : Int) (p : Nat → ByteArray) (r : ByteArray) (e : Int) (hr : upV leaf i n p = r) (he : upE leaf i n p = e) (w : World) (q : Q W w) (t : TR w g 0 n p) (hn : n ≤ 100000) (h9 : i ≤ 9223372036854775807) :
    Calls Tryd.prog 15 #[.string leaf, .int .i64 i, .slice (some ⟨g, 0, none⟩) n cap] w fun x w' => x = .returned (.tuple #[.string r, .int .i64 e]) ∧ Q W w' := by
  unfold upV at hr
  unfold upE at he
  by_cases x : IsUp leaf i n p
  · obtain ⟨j, rfl⟩ := Int.eq_ofNat_of_zero_le x.h0
    rw [if_pos x] at hr he
    rw [← he]; exact rup_x g 0 n cap j leaf p r hr w q t x
  · rw [if_neg x] at hr he
    rw [← hr, ← he]; exact rup_bad g 0 n cap i leaf p w q t hn h9 x

/-! ### cut -/
def ct (S : Nat → ByteArray) (i : Nat) : ByteArray := (S i).extract 0 (min ((S i).size : Int) 20).toNat
set_option maxHeartbeats 2000000 in
set_option maxRecDepth 100000 in
theorem cut_x {W : World} (a : Option Addr) (len cap : Nat) (S : Nat → ByteArray) (w : World) (q : Q W w) (hr : IsRowS W a len cap S) :
    Calls Tryd.prog 9 #[.slice a len cap] w fun e w' => ∃ g' c' n', e = .returned (.slice (some ⟨g', 0, none⟩) n' c') ∧ n' = min len 20 ∧ OT w' w.heap.size g' n' c' (ct S) ∧ Q W w' := by
  have HQ := Lib.hid q
  have O0 := Lib.hid (OT.lit w w.heap.size (ct S) (Nat.le_refl _))
  have Q0 := Lib.hid ((Q.refl w).alloc (.cells #[] 9))
  obtain ⟨n, en⟩ : ∃ n, n = min len 20 := ⟨_, rfl⟩
  have n20 : n ≤ 20 := by omega
  have nl : n ≤ len := by omega
  rcases hr with ⟨rfl, rfl, rfl⟩ | ⟨x, rfl, hlc, hcm, hx⟩
  · obtain rfl : n = 0 := by omega
    have EN := Lib.hid en
    clear q en
    go_enter Tryd.func9, Tryd.ntmps9
    go_wp2_with fail
    go_loopw [3, 4] (fun v i wr => v = .slice (some ⟨w.heap.size, 0, none⟩) 0 0 ∧ i = .int .i64 0 ∧ w.alloc (.cells #[] 9) = wr) (fun _ _ _ => 0)
    case atStart => exact ⟨rfl, rfl, rfl⟩
    case round =>
      obtain ⟨rfl, rfl, rfl⟩ := hrel
      go_wp2_with fail
      go_ret
      exact ⟨_, _, 0, rfl, rfl, O0.out, HQ.out.trans Q0.out⟩
  · have HX : Hid (∀ w', Q w w' → ∀ i, i < len → w'.cell? (x.add i) = some (.string (S i))) := fun w' q' i hi => by
      have hl : (x.add i).block < W.heap.size := World.block_lt_of_cell? _ _ (hx i hi).1
      rw [(q.trans q').cell (p := x.add i) hl]; exact (hx i hi).1
    have HZ : Hid (∀ i, i < len → (S i).size ≤ maxLen) := fun i hi => (hx i hi).2
    have HB : Hid (∀ i, i < len → (x.add i).block < W.heap.size) := fun i hi => World.block_lt_of_cell? _ _ (hx i hi).1
    have len9 : (len : Int) ≤ 9223372036854775807 := by unfold maxLen at hcm; omega
    have EN := Lib.hid en
    have QS := Lib.hid q.size
    clear q hx en
    go_enter Tryd.func9, Tryd.ntmps9
    go_wp2_with fail
    go_loopw [3, 4] (fun v i wr => ∃ k g' c' : Nat, k ≤ n ∧ v = .slice (some ⟨g', 0, none⟩) k c' ∧ i = .int .i64 k ∧ Hid (OT wr w.heap.size g' k c' (ct S)) ∧ Hid (Q w wr)) (fun _ i _ => n - (intOf i).toNat)
    case atStart => exact ⟨0, _, _, by omega, rfl, rfl, O0, Q0⟩
    case round =>
      obtain ⟨k, g', c', hk, rfl, rfl, O, I⟩ := hrel
      clear O0 Q0
      have k0 : (0 : Int) ≤ (k : Int) := by omega
      by_cases hlt : k < n
      · have k1 : (k : Int) < (len : Int) := by omega
        have k20 : (k : Int) < 20 := by omega
        have HC := Lib.hid fun w' q' => HX.out w' q' k (by omega)
        have hz := HZ.out k (by omega)
        unfold maxLen at hz
        have HV : Hid (ct S k = (S k).extract 0 (min ((S k).size : Int) 20).toNat) := rfl
        have LB := Lib.hid (HB.out k (by omega))
        generalize S k = b at *
        obtain ⟨y, ey⟩ : ∃ y, b.extract 0 (min (b.size : Int) 20).toNat = y := ⟨_, rfl⟩
        rw [ey] at HV
        go_wp2_with fail
        have HS0 := HC.out _ I.out.drew
        have J0 : Hid (Q wr wr.drew) := (Q.refl wr).drew
        refine wp_region_held_drew (S := fun w' => w'.cell? (x.add k) = some (.string b)) (by kernel_rfl) HS0 (fun hHeld => ?_)
        refine wpAnyH_take (i := 0) (v := ?_) (by simp only [List.getElem?_toArray, List.getElem?_cons_zero]; rfl) (by kernel_rfl) (by kernel_rfl) (by kernel_rfl) (by exact fun _ _ _ h => h) (Or.inl ⟨by rfl, ?_⟩) (by assumption) ?_
        rotate_left
        · (intro wx hSw; (try dsimp only at hSw); go_simp; (try rw [if_neg (by omega)]); try (with_reducible rfl))
        try simp only [Act.put, List.setIfInBounds_toArray, List.set_cons_zero, List.set_cons_succ]
        refine wpAnyH_take (i := 1) (v := ?_) (by simp only [List.getElem?_toArray, List.getElem?_cons_zero, List.getElem?_cons_succ]; rfl) (by kernel_rfl) (by kernel_rfl) (by kernel_rfl) (by exact fun _ _ _ h => h) (Or.inl ⟨by rfl, ?_⟩) (by assumption) ?_
        rotate_left
        · (intro wx hSw; (try dsimp only at hSw); go_simp; (try rw [if_neg (by omega)]); try (with_reducible rfl))
        try simp only [Act.put, List.setIfInBounds_toArray, List.set_cons_zero, List.set_cons_succ]
        refine wpAnyH_take (i := 2) (v := ?_) (by simp only [List.getElem?_toArray, List.getElem?_cons_zero, List.getElem?_cons_succ]; rfl) (by kernel_rfl) (by kernel_rfl) (by kernel_rfl) (by exact fun _ _ _ h => h) (Or.inl ⟨by rfl, ?_⟩) (by assumption) ?_
        rotate_left
        · (intro wx hSw; (try dsimp only at hSw); go_simp; (try rw [if_neg (by omega)]); try (with_reducible rfl))
        try simp only [Act.put, List.setIfInBounds_toArray, List.set_cons_zero, List.set_cons_succ]
        refine wpAnyH_take (i := 3) (v := ?_) (by simp only [List.getElem?_toArray, List.getElem?_cons_zero, List.getElem?_cons_succ]; rfl) (by kernel_rfl) (by kernel_rfl) (by kernel_rfl) (by exact fun _ _ _ h => h) (Or.inl ⟨by rfl, ?_⟩) (by assumption) ?_
        rotate_left
        · (intro wx hSw; (try dsimp only at hSw); go_simp; (try rw [if_neg (by omega)]); try (with_reducible rfl))
        try simp only [Act.put, List.setIfInBounds_toArray, List.set_cons_zero, List.set_cons_succ]
        refine wpAnyH_take (i := 4) (v := ?_) (by simp only [List.getElem?_toArray, List.getElem?_cons_zero, List.getElem?_cons_succ]; rfl) (by kernel_rfl) (by kernel_rfl) (by kernel_rfl) (by exact fun _ _ _ h => h) (Or.inl ⟨by rfl, ?_⟩) (by assumption) ?_
        rotate_left
        · (intro wx hSw; (try dsimp only at hSw); go_simp; (try rw [if_neg (by omega)]); try (with_reducible rfl))
        try simp only [Act.put, List.setIfInBounds_toArray, List.set_cons_zero, List.set_cons_succ]
        refine wpAnyH_take (i := 5) (v := ?_) (by simp only [List.getElem?_toArray, List.getElem?_cons_zero, List.getElem?_cons_succ]; rfl) (by kernel_rfl) (by kernel_rfl) (by kernel_rfl) (by exact fun _ _ _ h => h) (Or.inl ⟨by rfl, ?_⟩) (by assumption) ?_
        rotate_left
        · (intro wx hSw; (try dsimp only at hSw); go_simp; (try rw [if_neg (by omega)]); try (with_reducible rfl))
        try simp only [Act.put, List.setIfInBounds_toArray, List.set_cons_zero, List.set_cons_succ]
        refine wpAnyH_take (i := 6) (v := ?_) (by simp only [List.getElem?_toArray, List.getElem?_cons_zero, List.getElem?_cons_succ]; rfl) (by kernel_rfl) (by kernel_rfl) (by kernel_rfl) (by exact fun _ _ _ h => h) (Or.inl ⟨by rfl, ?_⟩) (by assumption) ?_
        rotate_left
        · (intro wx hSw; (try dsimp only at hSw); go_simp; (try rw [if_neg (by omega)]); try (with_reducible rfl))
        try simp only [Act.put, List.setIfInBounds_toArray, List.set_cons_zero, List.set_cons_succ]
        refine wpAnyH_take (i := 7) (v := ?_) (by simp only [List.getElem?_toArray, List.getElem?_cons_zero, List.getElem?_cons_succ]; rfl) (by kernel_rfl) (by kernel_rfl) (by kernel_rfl) (by exact fun _ _ _ h => h) (Or.inl ⟨by rfl, ?_⟩) (by assumption) ?_
        rotate_left
        · (intro wx hSw; (try dsimp only at hSw); go_simp; (try rw [if_neg (by omega)]); try (with_reducible rfl))
        try simp only [Act.put, List.setIfInBounds_toArray, List.set_cons_zero, List.set_cons_succ]
        refine wpAnyH_take (i := 8) (v := ?_) (by simp only [List.getElem?_toArray, List.getElem?_cons_zero, List.getElem?_cons_succ]; rfl) (by kernel_rfl) (by kernel_rfl) (by kernel_rfl) (by exact fun _ _ _ h => h) (Or.inl ⟨by rfl, ?_⟩) (by assumption) ?_
        rotate_left
        · (intro wx hSw; (try dsimp only at hSw); go_simp; (try rw [if_neg (by omega)]); try (with_reducible rfl))
        try simp only [Act.put, List.setIfInBounds_toArray, List.set_cons_zero, List.set_cons_succ]
        refine wpAnyH_take (i := 9) (v := ?_) (by simp only [List.getElem?_toArray, List.getElem?_cons_zero, List.getElem?_cons_succ]; rfl) (by kernel_rfl) (by kernel_rfl) (by kernel_rfl) (by exact fun _ _ _ h => h) (Or.inl ⟨by rfl, ?_⟩) (by assumption) ?_
        rotate_left
        · (intro wx hSw; (try dsimp only at hSw); go_simp; (try rw [if_neg (by omega)]); try (with_reducible rfl))
        try simp only [Act.put, List.setIfInBounds_toArray, List.set_cons_zero, List.set_cons_succ]
        refine wpAnyH_take (i := 10) (v := ?_) (by simp only [List.getElem?_toArray, List.getElem?_cons_zero, List.getElem?_cons_succ]; rfl) (by kernel_rfl) (by kernel_rfl) (by kernel_rfl) (by exact fun _ _ _ h => h) (Or.inl ⟨by rfl, ?_⟩) (by assumption) ?_
        rotate_left
        · (intro wx hSw; (try dsimp only at hSw); go_simp; (try rw [if_neg (by omega)]); try (with_reducible rfl))
        try simp only [Act.put, List.setIfInBounds_toArray, List.set_cons_zero, List.set_cons_succ]
        refine wpAnyH_take (i := 11) (v := ?_) (by simp only [List.getElem?_toArray, List.getElem?_cons_zero, List.getElem?_cons_succ]; rfl) (by kernel_rfl) (by kernel_rfl) (by kernel_rfl) (by exact fun _ _ _ h => h) (Or.inl ⟨by rfl, ?_⟩) (by assumption) ?_
        rotate_left
        · (intro wx hSw; (try dsimp only at hSw); go_simp; rw [if_pos (min_cut _ _ (by decide))])
        try simp only [Act.put, List.setIfInBounds_toArray, List.set_cons_zero, List.set_cons_succ]
        refine wpAnyH_ready (rs := [12]) (by kernel_rfl) (by simp) ?_
        refine AllReadyH.cons (by simp only [List.getElem?_toArray, List.getElem?_cons_succ, List.getElem?_cons_zero]; rfl) (fun K hK => ?_) AllReadyH.nil
        go_simp
        refine hK.out _ _ (HC.out _ (I.out.drew.alloc _)) (fun hHeld12 => ?_)
        clear hK K
        try simp only [Act.put, List.setIfInBounds_toArray, List.set_cons_zero, List.set_cons_succ]
        refine wpAnyH_ready (rs := [13]) (by kernel_rfl) (by simp) ?_
        refine AllReadyH.cons (by simp only [List.getElem?_toArray, List.getElem?_cons_succ, List.getElem?_cons_zero]; rfl) (fun K hK => ?_) AllReadyH.nil
        rw [if_pos (by rfl)]
        refine append_o wr.drew _ _ rfl w.heap.size g' k c' (ct S) y HV.out rfl (O.out.q J0.out) rfl (by omega) I.out.drew.size ?_
        intro g2 c2 w2 o2 ch2
        have O2 := Lib.hid o2
        have Q2 := Lib.hid (ch2.q I.out.drew O.out.lo)
        clear o2 ch2
        refine hK.out _ _ (HC.out _ Q2.out) (fun hHeld13 => ?_)
        clear hK K
        try simp only [Act.put, List.setIfInBounds_toArray, List.set_cons_zero, List.set_cons_succ]
        refine wpAnyH_take (i := 14) (v := ?_) (by simp only [List.getElem?_toArray, List.getElem?_cons_zero, List.getElem?_cons_succ]; rfl) (by kernel_rfl) (by kernel_rfl) (by kernel_rfl) (by exact fun _ _ _ h => h) (Or.inl ⟨by rfl, ?_⟩) (by assumption) ?_
        rotate_left
        · (intro wx hSw; (try dsimp only at hSw); go_simp; (try rw [if_neg (by omega)]); try (with_reducible rfl))
        try simp only [Act.put, List.setIfInBounds_toArray, List.set_cons_zero, List.set_cons_succ]
        refine wpAnyH_done (by kernel_rfl) ?_ _
        go_wp2_with fail
        exact ⟨⟨k + 1, g2, c2, by omega, rfl, by go_num, O2, Q2⟩, by simp [intOf]; omega⟩
      · obtain rfl : k = n := by omega
        by_cases h20 : k < 20
        · obtain rfl : k = len := by have := EN.out; omega
          have td : decide (k < k) = false := by simp
          go_wp2_with fail
          go_ret
          exact ⟨g', c', k, rfl, EN.out, O.out, HQ.out.trans I.out⟩
        · obtain rfl : k = 20 := by omega
          have td : decide ((20 : Nat) < 20) = false := by simp
          go_wp2_with fail
          all_goals (go_ret; exact ⟨g', c', 20, rfl, by first | exact EN.out | rfl | omega, O.out, HQ.out.trans I.out⟩)
end Go.Proofs.YtnghhagiokiaoaaDoor.Mer
