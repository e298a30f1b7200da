/-
  For every input the law ShaTags (the sum of any word and parts) returns true and leaves its arguments as they were. The package's two tables are as the program's text lays them (the card ties them).
-/
import Derived.Test.YtiddjmjglkppdaaDoorKit5
namespace Go.Proofs.YtiddjmjglkppdaaDoor.shaTags
open Go.ChangeShapes Go.WideShapes Go.ChangeAt Go.RowKit
open Go.ChangeMaps (open_string shut_string)
open Mem Sh
set_option linter.unusedVariables false

def tx (ps : Nat → ByteArray) (n : Nat) : List Value := (List.range n).map fun i => Value.string (ps i)
theorem tx_succ (ps : Nat → ByteArray) (n : Nat) : tx ps n ++ [.string (ps n)] = tx ps (n + 1) := by unfold tx; rw [List.range_succ, List.map_append]; rfl
theorem own_texts {w : World} {base g n cap : Nat} {ps : Nat → ByteArray} {t : TypeId} (h : w.ownsRow base t 1 (.slice (some ⟨g, 0, none⟩) n cap) n (tx ps n)) : RowS w g 0 n ps ∧ base ≤ g ∧ g < w.heap.size := by
  obtain ⟨_, ⟨h0, _⟩ | ⟨g', cap', cur, hv, hb, hg, _, _, _, hx⟩⟩ := h
  · simp at h0
  · obtain ⟨rfl, rfl⟩ : g = g' ∧ cap = cap' := by simpa using hv
    have hlt : g < w.heap.size := by
      rcases Nat.lt_or_ge g w.heap.size with h' | h'
      · exact h'
      · rw [Array.getElem?_eq_none h'] at hg; cases hg
    refine ⟨fun i hi => ?_, hb, hlt⟩
    rw [Nat.zero_add, Lib.cell_of_heap hg]
    have e : (cur.toList.take (n * 1))[i]? = (tx ps n)[i]? := by rw [hx]
    rw [List.getElem?_take_of_lt (by omega)] at e
    unfold tx at e
    simpa [hi] using e
theorem infoS : (Tryd.prog.info? 9).map (fun i => (i.zero, i.size, i.bytes)) = some (some (.string ⟨#[]⟩), 1, 16) := by kernel_rfl
def pc (S : Nat → ByteArray) (i : Nat) : ByteArray := (S i).extract 0 (min ((S i).size : Int) 300).toNat

set_option maxHeartbeats 2000000 in
set_option maxRecDepth 100000 in
theorem walk (W : World) (hG : GL W) (b : ByteArray) (hb : b.size ≤ maxLen) (a : Option Addr) (len cap : Nat) (S : Nat → ByteArray) (hr : IsRowS W a len cap S) :
    Calls Tryd.prog 4 #[.string b, .slice a len cap] W fun e W' => e = .returned (.bool true) ∧ Below W.heap.size W W' := by
  obtain ⟨i0, hi0, hz0, hz1, hz2⟩ := info_parts infoS
  have HG := Lib.hid hG
  clear hG
  unfold maxLen at hb
  have htb := cut_le b 300 300 rfl
  obtain ⟨y, hye⟩ : ∃ t, b.extract 0 (min (b.size : Int) 300).toNat = t := ⟨_, rfl⟩
  rw [hye] at htb
  have hl : (len : Int) ≤ 9223372036854775807 := by
    rcases hr with ⟨_, h, _⟩ | ⟨x, _, h1, h2, _⟩
    · omega
    · unfold maxLen at h2; omega
  have HRS := Lib.hid hr
  clear hr
  obtain ⟨m, hm, hm9⟩ : ∃ m, min len 9 = m ∧ m ≤ 9 := ⟨_, rfl, by omega⟩
  have hm0 := Lib.hid hm
  have o0 : Hid ((W.alloc (.cells #[] 9)).ownsRow W.heap.size 9 1 (.slice (some ⟨W.heap.size, 0, none⟩) 0 0) 0 (tx (pc S) 0)) := World.ownsRow_lit W #[] 0 (Nat.le_refl _) (by decide +kernel) rfl
  go_enter Tryd.func4, Tryd.ntmps4
  go_wp2_with fail
  go_loopw [5, 6] (fun v i wr => ∃ (k g c : Nat), k ≤ m ∧ i = .int .i64 k ∧ v = .slice (some ⟨g, 0, none⟩) k c ∧ Hid (wr.ownsRow W.heap.size 9 1 (.slice (some ⟨g, 0, none⟩) k c) k (tx (pc S) k)) ∧ Hid (Q W wr)) (fun _ i _ => m - (intOf i).toNat)
  case atStart => exact ⟨0, _, _, by omega, rfl, rfl, o0, (Q.refl W).alloc _⟩
  case round =>
    obtain ⟨k, g, c, hk, rfl, rfl, OW0, I⟩ := hrel
    clear o0
    by_cases hlt : k < m
    · have kl : k < len := by have := hm0.out; omega
      have k20 : k < 9 := by omega
      have k1 : (k : Int) < (len : Int) := by omega
      have k2 : (k : Int) < 9 := by omega
      have t1 : decide ((k : Int) < (len : Int)) = true := by simp; omega
      have t2 : decide ((k : Int) < 9) = true := by simp; omega
      obtain ⟨x, rfl, hcW, hsx⟩ : ∃ x, a = some x ∧ W.cell? (x.add k) = some (.string (S k)) ∧ (S k).size ≤ 2 ^ 63 - 1 := by
        rcases HRS.out with ⟨_, h, _⟩ | ⟨x, h0, h1, h2, h3⟩
        · omega
        · obtain ⟨h4, h5⟩ := h3 k kl
          exact ⟨x, h0, h4, h5⟩
      have hbx : Hid ((x.add k).block < W.heap.size) := World.block_lt_of_cell? _ _ hcW
      have HS : Hid (tx (pc S) k ++ [.string ((S k).extract 0 (min ((S k).size : Int) 300).toNat)] = tx (pc S) (k + 1)) := tx_succ (pc S) k
      generalize S k = sk at *
      obtain ⟨p, hpe⟩ : ∃ t, sk.extract 0 (min (sk.size : Int) 300).toNat = t := ⟨_, rfl⟩
      rw [hpe] at HS
      have hcx : wr.drew.cell? (x.add k) = some (.string sk) := by
        show wr.cell? (x.add k) = _
        rw [I.out.cell (p := x.add k) hbx.out]; exact hcW
      have hcA : Hid (∀ o, (wr.alloc o).cell? (x.add k) = some (.string sk)) := fun o => by
        rw [(I.out.alloc o).cell (p := x.add k) hbx.out]; exact hcW
      have QA : Hid (Q W ((wr.alloc (.cells #[.string p] 9)).drew)) := (I.out.alloc _).drew
      have OW : Hid (((wr.alloc (.cells #[.string p] 9)).drew).ownsRow W.heap.size 9 1 (.slice (some ⟨g, 0, none⟩) k c) k (tx (pc S) k)) := OW0.out.alloc _
      have CN := Lib.hid (cell_one_new wr (.string p) 9)
      have hca : ((wr.alloc (.cells #[.string p] 9)).drew).cell? (x.add k) = some (.string sk) := hcA.out _
      have hszr := I.out.size
      have hcW := Lib.hid hcW
      have mn0 : (0 : Int) ≤ min (sk.size : Int) 300 := by omega
      have mn1 : min (sk.size : Int) 300 ≤ (sk.size : Int) := by omega
      clear OW0 hcA
      go_wp2_with fail
      refine wp_region_held_drew (S := fun w' => w'.cell? (x.add k) = some (.string sk)) (by kernel_rfl) hcx (fun hHeld => ?_)
      refine wpAnyH_take (i := 0) (v := ?_) (by simp only [List.getElem?_toArray, List.getElem?_cons_zero]; rfl) (by kernel_rfl) (by kernel_rfl) (by kernel_rfl) (by exact fun _ _ _ h => h) (Or.inl ⟨by rfl, ?_⟩) (by assumption) ?_
      rotate_left
      · (intro wx hSw; (try dsimp only at hSw); go_simp; try (with_reducible rfl))
      try simp only [Act.put, List.setIfInBounds_toArray, List.set_cons_zero, List.set_cons_succ]
      refine wpAnyH_take (i := 1) (v := ?_) (by simp only [List.getElem?_toArray, List.getElem?_cons_zero, List.getElem?_cons_succ]; rfl) (by kernel_rfl) (by kernel_rfl) (by kernel_rfl) (by exact fun _ _ _ h => h) (Or.inl ⟨by rfl, ?_⟩) (by assumption) ?_
      rotate_left
      · (intro wx hSw; (try dsimp only at hSw); go_simp; try (with_reducible rfl))
      try simp only [Act.put, List.setIfInBounds_toArray, List.set_cons_zero, List.set_cons_succ]
      refine wpAnyH_take (i := 2) (v := ?_) (by simp only [List.getElem?_toArray, List.getElem?_cons_zero, List.getElem?_cons_succ]; rfl) (by kernel_rfl) (by kernel_rfl) (by kernel_rfl) (by exact fun _ _ _ h => h) (Or.inl ⟨by rfl, ?_⟩) (by assumption) ?_
      rotate_left
      · (intro wx hSw; (try dsimp only at hSw); go_simp; try (with_reducible rfl))
      try simp only [Act.put, List.setIfInBounds_toArray, List.set_cons_zero, List.set_cons_succ]
      refine wpAnyH_take (i := 3) (v := ?_) (by simp only [List.getElem?_toArray, List.getElem?_cons_zero, List.getElem?_cons_succ]; rfl) (by kernel_rfl) (by kernel_rfl) (by kernel_rfl) (by exact fun _ _ _ h => h) (Or.inl ⟨by rfl, ?_⟩) (by assumption) ?_
      rotate_left
      · (intro wx hSw; (try dsimp only at hSw); go_simp; try (with_reducible rfl))
      try simp only [Act.put, List.setIfInBounds_toArray, List.set_cons_zero, List.set_cons_succ]
      refine wpAnyH_take (i := 4) (v := ?_) (by simp only [List.getElem?_toArray, List.getElem?_cons_zero, List.getElem?_cons_succ]; rfl) (by kernel_rfl) (by kernel_rfl) (by kernel_rfl) (by exact fun _ _ _ h => h) (Or.inl ⟨by rfl, ?_⟩) (by assumption) ?_
      rotate_left
      · (intro wx hSw; (try dsimp only at hSw); go_simp; try (with_reducible rfl))
      try simp only [Act.put, List.setIfInBounds_toArray, List.set_cons_zero, List.set_cons_succ]
      refine wpAnyH_take (i := 5) (v := ?_) (by simp only [List.getElem?_toArray, List.getElem?_cons_zero, List.getElem?_cons_succ]; rfl) (by kernel_rfl) (by kernel_rfl) (by kernel_rfl) (by exact fun _ _ _ h => h) (Or.inl ⟨by rfl, ?_⟩) (by assumption) ?_
      rotate_left
      · (intro wx hSw; (try dsimp only at hSw); go_simp; try (with_reducible rfl))
      try simp only [Act.put, List.setIfInBounds_toArray, List.set_cons_zero, List.set_cons_succ]
      refine wpAnyH_take (i := 6) (v := ?_) (by simp only [List.getElem?_toArray, List.getElem?_cons_zero, List.getElem?_cons_succ]; rfl) (by kernel_rfl) (by kernel_rfl) (by kernel_rfl) (by exact fun _ _ _ h => h) (Or.inl ⟨by rfl, ?_⟩) (by assumption) ?_
      rotate_left
      · (intro wx hSw; (try dsimp only at hSw); go_simp; try (with_reducible rfl))
      try simp only [Act.put, List.setIfInBounds_toArray, List.set_cons_zero, List.set_cons_succ]
      refine wpAnyH_take (i := 7) (v := ?_) (by simp only [List.getElem?_toArray, List.getElem?_cons_zero, List.getElem?_cons_succ]; rfl) (by kernel_rfl) (by kernel_rfl) (by kernel_rfl) (by exact fun _ _ _ h => h) (Or.inl ⟨by rfl, ?_⟩) (by assumption) ?_
      rotate_left
      · (intro wx hSw; (try dsimp only at hSw); go_simp; try (with_reducible rfl))
      try simp only [Act.put, List.setIfInBounds_toArray, List.set_cons_zero, List.set_cons_succ]
      refine wpAnyH_take (i := 8) (v := ?_) (by simp only [List.getElem?_toArray, List.getElem?_cons_zero, List.getElem?_cons_succ]; rfl) (by kernel_rfl) (by kernel_rfl) (by kernel_rfl) (by exact fun _ _ _ h => h) (Or.inl ⟨by rfl, ?_⟩) (by assumption) ?_
      rotate_left
      · (intro wx hSw; (try dsimp only at hSw); go_simp; try (with_reducible rfl))
      try simp only [Act.put, List.setIfInBounds_toArray, List.set_cons_zero, List.set_cons_succ]
      refine wpAnyH_take (i := 9) (v := ?_) (by simp only [List.getElem?_toArray, List.getElem?_cons_zero, List.getElem?_cons_succ]; rfl) (by kernel_rfl) (by kernel_rfl) (by kernel_rfl) (by exact fun _ _ _ h => h) (Or.inl ⟨by rfl, ?_⟩) (by assumption) ?_
      rotate_left
      · (intro wx hSw; (try dsimp only at hSw); go_simp; try (with_reducible rfl))
      try simp only [Act.put, List.setIfInBounds_toArray, List.set_cons_zero, List.set_cons_succ]
      refine wpAnyH_take (i := 10) (v := ?_) (by simp only [List.getElem?_toArray, List.getElem?_cons_zero, List.getElem?_cons_succ]; rfl) (by kernel_rfl) (by kernel_rfl) (by kernel_rfl) (by exact fun _ _ _ h => h) (Or.inl ⟨by rfl, ?_⟩) (by assumption) ?_
      rotate_left
      · (intro wx hSw; (try dsimp only at hSw); go_simp; try (with_reducible rfl))
      try simp only [Act.put, List.setIfInBounds_toArray, List.set_cons_zero, List.set_cons_succ]
      refine wpAnyH_take (i := 11) (v := ?_) (by simp only [List.getElem?_toArray, List.getElem?_cons_zero, List.getElem?_cons_succ]; rfl) (by kernel_rfl) (by kernel_rfl) (by kernel_rfl) (by exact fun _ _ _ h => h) (Or.inl ⟨by rfl, ?_⟩) (by assumption) ?_
      rotate_left
      · (intro wx hSw; (try dsimp only at hSw); go_simp; try (with_reducible rfl))
      try simp only [Act.put, List.setIfInBounds_toArray, List.set_cons_zero, List.set_cons_succ]
      refine wpAnyH_ready (rs := [12]) (by kernel_rfl) (by simp) ?_
      refine AllReadyH.cons (by simp only [List.getElem?_toArray, List.getElem?_cons_succ, List.getElem?_cons_zero]; rfl) (fun K hK => ?_) AllReadyH.nil
      go_simp
      refine hK.out _ _ hca (fun hHeld12 => ?_)
      clear hK K
      try simp only [Act.put, List.setIfInBounds_toArray, List.set_cons_zero, List.set_cons_succ]
      refine wpAnyH_ready (rs := [13]) (by kernel_rfl) (by simp) ?_
      refine AllReadyH.cons (by simp only [List.getElem?_toArray, List.getElem?_cons_succ, List.getElem?_cons_zero]; rfl) (fun K hK => ?_) AllReadyH.nil
      rw [if_pos (by rfl)]
      refine wp_append_own _ (.tmp 23) (.tmp 35) 25 rfl W.heap.size 9 i0 (.string ⟨#[]⟩) 1 16 Tryd.underlying25 hi0 hz0 hz1 hz2 rfl (by decide) _ _ _ rfl OW.out ⟨wr.heap.size, 0, none⟩ 1 1 [.string p] rfl rfl CN.out (fun u hu => by simp at hu; subst hu; rfl) (by unfold maxLen; omega) (by omega) (by simp; omega) ?_
      intro v3 w3 hown3 hgrow3 _hn
      have hq3 : Q W w3 := Below.grown QA.out hgrow3 QA.out.size (fun j hj => (OW.out.lt j hj).1)
      have hc3 : w3.cell? (x.add k) = some (.string sk) := by rw [hq3.cell (p := x.add k) hbx.out]; exact hcW.out
      refine hK.out _ _ hc3 (fun hHeld13 => ?_)
      clear hK K
      simp only [Act.put, List.setIfInBounds_toArray, List.set_cons_zero, List.set_cons_succ]
      refine wpAnyH_take (i := 14) (v := ?_) (by simp only [List.getElem?_toArray, List.getElem?_cons_zero, List.getElem?_cons_succ]; rfl) (by kernel_rfl) (by kernel_rfl) (by kernel_rfl) (by exact fun _ _ _ h => h) (Or.inl ⟨by rfl, ?_⟩) (by assumption) ?_
      rotate_left
      · (intro wx hSw; (try dsimp only at hSw); go_simp; try (with_reducible rfl))
      try simp only [Act.put, List.setIfInBounds_toArray, List.set_cons_zero, List.set_cons_succ]
      refine wpAnyH_done (by kernel_rfl) ?_ _
      rw [HS.out] at hown3
      obtain ⟨g3, cap3, rfl⟩ := ownsRow_succ hown3
      clear hgrow3 _hn hc3 hcx hca
      have O3 := Lib.hid hown3
      clear hown3
      go_wp2_with fail
      exact ⟨⟨k + 1, g3, cap3, by omega, by go_num, rfl, O3, hq3⟩, by simp [intOf]; omega⟩
    · obtain rfl : k = m := by omega
      obtain ⟨hrow, hg0, hg1⟩ := own_texts OW0.out
      have HROW := Lib.hid hrow
      clear hrow
      obtain ⟨f, hf⟩ : ∃ f, tagS y (pc S) k = f := ⟨_, rfl⟩
      have HF := Lib.hid hf
      have HP : Hid (∀ i, (pc S i).size ≤ 1000000) := fun i => by have := cut_le (S i) 300 300 rfl; unfold pc; omega
      have hm1 := hm0.out
      clear hf hm0 OW0
      by_cases c9 : (k : Int) < (len : Int)
      · have c2 : ¬ (k : Int) < 9 := by omega
        have t1 : decide ((k : Int) < (len : Int)) = true := by simp; omega
        have t2 : decide ((k : Int) < 9) = false := by simp; omega
        go_wp2_with fail
        refine (tag_x y f g 0 k c (pc S) HF.out wr (Q.refl wr) (HG.out.q I.out) HROW.out (fun _ => hg1) (by omega) (by omega) HP.out).mono ?_
        rintro e w2 ⟨rfl, q2⟩
        have hs2 := q2.size
        go_wp2_with fail
        refine (rtag_x y f g 0 k c (pc S) HF.out w2 q2 (HROW.out.q q2 hg1) (fun _ => by omega) (by omega) (by omega) HP.out).mono ?_
        rintro e w3 ⟨rfl, q3⟩
        go_wp2_with fail
        refine (fixed_any w3 q3 (HG.out.q I.out)).mono ?_
        rintro e w4 ⟨rfl, q4⟩
        go_wp2_with fail
        go_ret
        exact ⟨rfl, I.out.trans q4⟩
      · have t1 : decide ((k : Int) < (len : Int)) = false := by simp; omega
        go_wp2_with fail
        refine (tag_x y f g 0 k c (pc S) HF.out wr (Q.refl wr) (HG.out.q I.out) HROW.out (fun _ => hg1) (by omega) (by omega) HP.out).mono ?_
        rintro e w2 ⟨rfl, q2⟩
        have hs2 := q2.size
        go_wp2_with fail
        refine (rtag_x y f g 0 k c (pc S) HF.out w2 q2 (HROW.out.q q2 hg1) (fun _ => by omega) (by omega) (by omega) HP.out).mono ?_
        rintro e w3 ⟨rfl, q3⟩
        go_wp2_with fail
        refine (fixed_any w3 q3 (HG.out.q I.out)).mono ?_
        rintro e w4 ⟨rfl, q4⟩
        go_wp2_with fail
        go_ret
        exact ⟨rfl, I.out.trans q4⟩

set_option maxRecDepth 100000 in
theorem lifted (os : Os) (started : os.Started) (H : Type) (enc : TypeId × Value → H) :
    ReturnsInHanded {} Tryd.checked os 4 .any (fun w args => (Rows.shaTagsSpec.pre enc Tryd.prog Tryd.f4 [] false w args ∧ laidMetH Tryd.prog laid2 w) ∧ sizedMet enc Tryd.prog Tryd.f4 (OpenSpec.ofChange Rows.shaTagsSpec) false w args)
      (Rows.shaTagsSpec.post enc Tryd.prog Tryd.f4 false true false false) := by
  refine returnsInHanded_of_change_and (C := Tryd.checked) (X := fun w _ => laidMetH Tryd.prog laid2 w) (fun _ _ _ hh h => h.of_heap hh) own started (by kernel_rfl) Tryd.func4
    (ChangeSpec.witness_shaped (enc := enc) (C := Tryd.checked) (os := os) (X := fun w _ => laidMetH Tryd.prog laid2 w) false (World.doorLaid Tryd.prog 400 os) #[.string ⟨#[]⟩, .slice none 0 0] 8 rfl (World.shaped_of_RefB (by kernel_rfl) (by kernel_rfl)) (by kernel_rfl) (by kernel_rfl) (by kernel_rfl) (door_met os _)) ?_
  intro W base args ds gs before hval0 hW _ _ hL _
  have hval : ∀ (j : Nat) t v, Tryd.f4.params[j]? = some t → args[j]? = some v → Value.okWide Tryd.prog W .any base t v := hval0
  have hW' := hW
  obtain ⟨p, q, hA0, hV, rfl, hfz, hnd⟩ := hW
  have hA : DataW.TrodAll enc Tryd.prog W 0 (fun _ => true) true Tryd.f4.params.toList args.toList ds p := hA0
  rw [Tryd.params4] at hA hval
  obtain ⟨v0, vs0, d0, ds0, p0, q0, hargs, rfl, rfl, h0, r0⟩ := trodAll_cons hA
  obtain ⟨v1, vs1, d1, ds1, p1, q1, rfl, rfl, rfl, h1, r1⟩ := trodAll_cons r0
  obtain ⟨rfl, rfl, rfl⟩ := trodAll_nil r1
  obtain rfl : args = #[v0, v1] := by cases args; simp_all
  obtain ⟨rfl, rfl⟩ := trodVars_none hV
  have k0 := h0
  have lt0 : ∀ x ∈ p0, x.block < W.heap.size := by obtain ⟨m, hm⟩ := k0; exact DataW.trod_lt m _ _ _ hm
  obtain ⟨a0, rfl, e0, f0, w0⟩ := open_string Tryd.underlying9 (hval 0 9 v0 rfl rfl) h0
  have k1 := h1
  have lt1 : ∀ x ∈ p1, x.block < W.heap.size := by obtain ⟨m, hm⟩ := k1; exact DataW.trod_lt m _ _ _ hm
  obtain ⟨a1, len1, cap1, rfl⟩ := okWide_slice Tryd.underlying25 (hval 1 25 v1 rfl rfl)
  obtain ⟨z1, w1⟩ : ∃ zs, IsRowS W a1 len1 cap1 zs := by
    obtain ⟨fuel, hf⟩ := h1
    rcases Deep.open_strs Tryd.underlying25 Tryd.underlying9 (by kernel_rfl) hf with ⟨hcs, _⟩ | ⟨x, l, c, m, S, hcs, _, hl, hm, hmm, _, hcell⟩
    · simp [Value.cells] at hcs
      obtain ⟨rfl, rfl, rfl⟩ := hcs
      exact ⟨fun _ => ByteArray.empty, .inl ⟨rfl, rfl, rfl⟩⟩
    · simp [Value.cells] at hcs
      obtain ⟨rfl, rfl, rfl⟩ := hcs
      refine ⟨S, .inr ⟨_, rfl, hl, hm, fun i hi => hcell i ?_⟩⟩
      rw [hmm]; split <;> omega
  clear hA0 hval0
  refine (walk W (of_laid hL) a0 w0 a1 len1 cap1 z1 w1).mono fun e W' ⟨he, bel⟩ => ?_
  subst he
  exact ⟨_, rfl, _, _, _, [], _, [], hW', trodAll_mk1 (shut_bool Tryd.underlying4 _), (trodAll_cons_mk (Below.trod laidOut (by kernel_rfl) (of_decide_eq_true (by kernel_rfl)) k0 bel lt0) (trodAll_cons_mk (Below.trod laidOut (by kernel_rfl) (of_decide_eq_true (by kernel_rfl)) k1 bel lt1) trodAll_mk0)), rfl, bel.frame _, fun h => by cases h⟩

theorem over : Rows.shaTagsRow.holds Tryd.pinned (OpenSpec.ofChange Rows.shaTagsSpec) :=
  OpenClaim.holds_of_wide 4 Tryd.f4 rfl rfl rfl rfl rfl rfl rfl ⟨rfl, rfl, rfl, rfl, rfl⟩ rfl rfl rfl rfl rfl (by kernel_rfl) Tryd.func4 (by kernel_rfl)
    (of_decide_eq_true (by kernel_rfl)) (by unfold Func.isWrapper; first | (rw [if_pos (by decide +kernel)]; kernel_rfl) | (rw [if_neg (by decide +kernel)]; exact ⟨rfl, rfl⟩))
    (fun os started H enc _ => lifted os started H enc)

theorem card : Claim7.holds Tryd.pinned (.plain (OpenSpec.ofChange Rows.shaTagsSpec)) Rows.shaTagsCard :=
  Claim7.holds_tied_plain_at .later [] [.data, .data] true Rows.shaTagsCard.stood.harness false
    over (fun _ h => by cases h) (by kernel_rfl) (fun _ h => by cases h) shaTags_row_tie rfl ⟨rfl, rfl⟩ (by kernel_rfl) rfl
    (fun f fn hf hfn => by
      obtain rfl : f = 4 := Option.some.inj ((show Tryd.prog.funcNamed "turnstile/turnstilelaw02.ShaTags" = some 4 by kernel_rfl).symm.trans hf) |>.symm
      obtain rfl : fn = Tryd.f4 := (Option.some.inj (Tryd.func4.symm.trans hfn)).symm
      exact ⟨by kernel_rfl, fun j t ht => by
        rw [Tryd.params4] at ht
        have hm : t ∈ [9, 25] := by simpa using Array.mem_of_getElem? ht
        have hall : ([9, 25].all fun u => !Tryd.prog.wantsStandIn u) = true := by kernel_rfl
        exact (show Tryd.prog.wantsStandIn t = false by simpa using List.all_eq_true.1 hall t hm)⟩)
    (by kernel_rfl)

end Go.Proofs.YtiddjmjglkppdaaDoor.shaTags
namespace Go.Proofs.YtiddjmjglkppdaaDoor
theorem shaTags_holds : Rows.ShaTagsCardSaid := shaTags.card
#print axioms shaTags_holds
end Go.Proofs.YtiddjmjglkppdaaDoor
