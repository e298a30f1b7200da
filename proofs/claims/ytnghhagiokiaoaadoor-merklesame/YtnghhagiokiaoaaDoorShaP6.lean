/-
  The program's layer 2: the walk of Write.
-/
import Derived.Test.YtnghhagiokiaoaaDoorShaP5
namespace Go.Proofs.YtnghhagiokiaoaaDoor.Sh
open Go.RowKit
open Mem
set_option linter.unusedVariables false

/-- What stands at the label: c bytes of T are taken, rem is left. -/
structure JI (w : World) (g : Nat) (T : ByteArray) (c : Nat) (rem : ByteArray) (w' : World) : Prop where
  len : rem.size + c = T.size
  sub : sb rem = (sb T).drop c
  hc : HC w' g T c
  bl : Below g w w'
theorem GL.below {w w' : World} {B : Nat} (h : GL w) (q : Below B w w') (hB : 1 < B) : GL w' := ⟨Row.below h.i0 q (by omega), Row.below h.k q hB⟩
theorem sb_extract (s : ByteArray) (n : Nat) : sb (s.extract n s.size) = (sb s).drop n := by
  unfold sb
  rw [← List.map_drop]
  congr 1
  rw [ByteArray.data_extract, Array.toList_extract]
  show (s.data.toList.drop n).take (s.size - n) = _
  exact List.take_of_length_le (by rw [List.length_drop, Array.length_toList]; exact Nat.le_refl _)
theorem JI.drew {w : World} {g : Nat} {T : ByteArray} {c : Nat} {rem : ByteArray} {w' : World} (h : JI w g T c rem w') : JI w g T c rem w'.drew := ⟨h.len, h.sub, h.hc.q (Q.refl w').drew, h.bl.drew⟩
def JW (w : World) (g : Nat) (T : ByteArray) (a' : Act) (w' : World) : Prop :=
  ∃ (c : Nat) (hv : Int) (rem : ByteArray) (u5 u6 u7 u8 u9 u10 u11 u12 u13 u14 u15 u16 u17 u18 u19 u20 u21 u22 u23 u24 u25 u26 u27 u28 u29 u30 u31 u32 u33 u34 u35 u36 u37 u38 u39 u40 u41 u42 u43 u44 u45 u46 : Value), a' = { tmps := #[Value.pointer (some ⟨g, 0, none⟩), Value.string rem, undef, undef, Value.int .i64 hv, u5, u6, u7, u8, u9, u10, u11, u12, u13, u14, u15, u16, u17, u18, u19, u20, u21, u22, u23, u24, u25, u26, u27, u28, u29, u30, u31, u32, u33, u34, u35, u36, u37, u38, u39, u40, u41, u42, u43, u44, u45, u46], defers := [] } ∧ Hid (hv = ((c % 64 : Nat) : Int) ∧ JI w g T c rem w')

set_option maxHeartbeats 1000000 in
set_option maxRecDepth 100000 in
theorem write_any (g : Nat) (s p : ByteArray) (w : World) (h : HR w g s) (hG : GL w) (hg1 : 1 < g) (hs : s.size + p.size ≤ 2000000000) :
    Calls Tryd.prog 78 #[.pointer (some ⟨g, 0, none⟩), .string p] w fun e w' => e = .returned (.tuple #[]) ∧ HR w' g (s ++ p) ∧ Below g w w' := by
  have hcnt := HC.count h p
  have htk : w.cell? ⟨g, 72, none⟩ = some (.int .i64 s.size) := HC.tk h
  have hfz : w.frozen? ⟨g, 72, none⟩ = false := HC.fz h 72
  have hT : (s ++ p).size = s.size + p.size := by simp
  have hI : Hid (JI w g (s ++ p) s.size p (w.setCell ⟨g, 72, none⟩ (.int .i64 ((s.size : Int) + (p.size : Int))))) := by
    rw [hT, show ((s.size + p.size : Nat) : Int) = (s.size : Int) + (p.size : Int) by omega] at hcnt
    exact ⟨by rw [hT]; omega, by rw [sb_append, List.drop_left' (sb_len s)], hcnt, Below.setCell (Below.refl _ _) (Nat.le_refl g) _⟩
  have hTs : (s ++ p).size ≤ 2000000000 := by omega
  clear hcnt h hT
  generalize hTT : s ++ p = T at *
  go_enter Tryd.func78, Tryd.ntmps78
  refine wp_scope_loop 0 (JW w g T) (fun a' _ => strLen (a'.tmps.getD 1 undef)) rfl ?pass ?first
  case first =>
    intro hp
    have hp' := Lib.hid hp
    clear hp
    go_wp2_with fail
    go_step3
    go_step
    go_step
    refine hp'.out _ _ ⟨s.size, (s.size : Int) % 64, p, _, _, _, _, _, _, _, _, _, _, _, _, _, _, _, _, _, _, _, _, _, _, _, _, _, _, _, _, _, _, _, _, _, _, _, _, _, _, _, _, _, _, rfl, by omega, hI.out⟩
  case pass =>
    rintro a' wr ⟨c, hv, rem, u5, u6, u7, u8, u9, u10, u11, u12, u13, u14, u15, u16, u17, u18, u19, u20, u21, u22, u23, u24, u25, u26, u27, u28, u29, u30, u31, u32, u33, u34, u35, u36, u37, u38, u39, u40, u41, u42, u43, u44, u45, u46, rfl, HJ⟩
    clear hI htk hfz hs
    obtain ⟨k, hk⟩ : ∃ k, c % 64 = k := ⟨_, rfl⟩
    have hk64 : k < 64 := by omega
    have hv' : hv = (k : Int) := by rw [HJ.out.1, hk]
    subst hv'
    have J := Lib.hid HJ.out.2
    have hlen := J.out.len
    clear HJ
    have sl := slice_l (P := Tryd.prog) Tryd.underlying105 (by intro w; kernel_rfl) wr g 8 .i64 k hk64
    obtain ⟨n, hn⟩ : ∃ n, min rem.size (64 - k) = n := ⟨_, rfl⟩
    have hcp := run_copy_part (P := Tryd.prog) wr 52 9 3 5 g (8 + k) (64 - k) (64 - k) rem Tryd.underlying52 (by intro w; kernel_rfl)
      (fun j hj => by
        obtain ⟨r, _, hr2, _⟩ := J.out.hc.rest
        rw [show 8 + k + j = 8 + (k + j) by omega, hr2 (k + j) (by omega)]; rfl) (fun j hj => J.out.hc.fz _)
    have hcp' : (Builtin.copy_ #[52, 9] 3 #[.slice (some ⟨g, 8 + k, none⟩) (64 - k) (64 - k), .string rem]).run Tryd.prog wr = .ok (.int .i64 n) (wr.setCells g (8 + k) ((bcl rem).take n)) := by rw [← hn]; exact hcp
    clear hcp
    obtain ⟨r2, hB, hst, hr8, hr, htk, hfz⟩ := J.out.hc.copied rem J.out.sub n (by omega) (by omega)
    rw [hk] at hst hr8 hr htk hfz
    have hbl : Below g w (wr.setCells g (8 + k) ((bcl rem).take n)) := below_setCells (Nat.le_refl g) _ _ _ J.out.bl
    generalize wr.setCells g (8 + k) ((bcl rem).take n) = w2 at *
    have F := Lib.hid (And.intro hB (And.intro hst (And.intro hr8 (And.intro hr (And.intro htk (And.intro hfz hbl))))))
    have HSUB := Lib.hid J.out.sub
    clear hB hst hr8 hr htk hfz hbl J
    have hlen' := Lib.hid hlen
    by_cases hA : k + n = 64
    · have hA' : (k : Int) + (n : Int) = 64 := by omega
      have HA := Lib.hid (And.intro hA (And.intro hk (And.intro hlen hn)))
      obtain ⟨C8, hC8⟩ : ∃ C, cl .u32 8 (blkF (sf T) (c / 64)) = C := ⟨_, rfl⟩
      obtain ⟨C64, hC64⟩ : ∃ C, cl .u8 64 r2 = C := ⟨_, rfl⟩
      obtain ⟨D64, hD64⟩ : ∃ C, cl .u32 64 (wrow r2 48) = C := ⟨_, rfl⟩
      obtain ⟨E8, hE8⟩ : ∃ C, cl .u32 8 (mixS (wrow r2 48) (blkF (sf T) (c / 64))) = C := ⟨_, rfl⟩
      have EC8 := Lib.hid hC8
      have E64 := Lib.hid hC64
      have ED := Lib.hid hD64
      have EE := Lib.hid hE8
      have R0r : Hid (Row .u32 w2.drew g 0 8 (blkF (sf T) (c / 64))) := F.out.2.1.drewN 1
      have R0lt : Hid (g < w2.drew.heap.size) := R0r.out.lt (by omega)
      have R0 : Hid (w2.drew.rangeAt g 0 C8) := by rw [← hC8]; exact R0r.out.range
      have R8 : Hid (w2.drew.rangeAt g 8 C64) := by rw [← hC64]; exact (F.out.2.2.1.drewN 1).range
      have HI8 : Hid ((Tryd.prog.info? 104).map (·.size) = some C8.length) := by rw [← hC8, cl_len]; exact info8
      have HI64 : Hid ((Tryd.prog.info? 105).map (·.size) = some C64.length) := by rw [← hC64, cl_len]; exact (by kernel_rfl : (Tryd.prog.info? 105).map (·.size) = some 64)
      have HIE : Hid ((Tryd.prog.info? 104).map (·.size) = some E8.toArray.size) := by show _ = some E8.length; rw [← hE8, cl_len]; exact info8
      have HOE : Hid (E8.toArray.all (·.oneCell') = true) := by rw [← hE8]; exact cl_one _ _ _
      have HGL : Hid (GL w2.drew) := (hG.below F.out.2.2.2.2.2.2 hg1 |> fun h => h.q ((Q.refl w2).drewN 1))
      have TH : Hid (∀ w4, Q w2.drew w4 → w4.there g 0 E8.toArray.size) := by
        intro w4 q4
        show w4.there g 0 E8.length
        rw [← hE8, cl_len]
        exact (Row.q R0r.out q4 R0lt.out).there fun j => by rw [q4.frozen (p := ⟨g, j, none⟩) R0lt.out]; exact F.out.2.2.2.2.2.1 j
      have TL : Hid (∀ w4, Q w2.drew w4 → JI w g T (c + n) (rem.extract n rem.size) (w4.setCells g 0 E8)) := by
        intro w4 q4
        obtain ⟨hB, hst, hr8, hr, htk, hfz, hbl⟩ := F.out
        obtain ⟨a1, a2, a3, a4⟩ := HA.out
        refine ⟨by rw [ByteArray.size_extract]; omega, ?_, ?_, below_setCells (Nat.le_refl g) _ _ _ (hbl.trans (Below.trans (Below.drew (Below.refl _ _)) (Below.mono q4 (Nat.le_of_lt R0lt.out))))⟩
        · rw [sb_extract, HSUB.out, List.drop_drop]
        · rw [← hE8]
          exact HC.mixed (hr8.drewN 1) hB (fun j hj => hr j (by omega)) (hst.drewN 1) htk hfz q4 (by omega)
      have hnr : n ≤ rem.size := by omega
      clear hC8 hC64 hD64 hE8 hA hk hlen hn
      go_wp2_with fail
      refine wp_region_held_drew (S := fun _ => True) (by kernel_rfl) trivial (fun hHeld => ?_)
      refine wpAnyH_take (i := 0) (v := ?_) (by simp only [List.getElem?_toArray, List.getElem?_cons_zero]; rfl) (by kernel_rfl) (by kernel_rfl) (by kernel_rfl) (by exact fun _ _ _ h => h) (Or.inl ⟨by rfl, ?_⟩) (by assumption) ?_
      rotate_left
      · (intro wx hSw; (try dsimp only at hSw); go_simp; try (with_reducible rfl))
      try simp only [Act.put, List.setIfInBounds_toArray, List.set_cons_zero, List.set_cons_succ]
      refine wpAnyH_take (i := 1) (v := ?_) (by simp only [List.getElem?_toArray, List.getElem?_cons_zero, List.getElem?_cons_succ]; rfl) (by kernel_rfl) (by kernel_rfl) (by kernel_rfl) (by exact fun _ _ _ h => h) (Or.inl ⟨by rfl, ?_⟩) (by assumption) ?_
      rotate_left
      · (intro wx hSw; (try dsimp only at hSw); go_simp; try (with_reducible rfl))
      try simp only [Act.put, List.setIfInBounds_toArray, List.set_cons_zero, List.set_cons_succ]
      refine wpAnyH_take (i := 2) (v := ?_) (by simp only [List.getElem?_toArray, List.getElem?_cons_zero, List.getElem?_cons_succ]; rfl) (by kernel_rfl) (by kernel_rfl) (by kernel_rfl) (by exact fun _ _ _ h => h) (Or.inl ⟨by rfl, ?_⟩) (by assumption) ?_
      rotate_left
      · (intro wx hSw; (try dsimp only at hSw); go_simp; try (with_reducible rfl))
      try simp only [Act.put, List.setIfInBounds_toArray, List.set_cons_zero, List.set_cons_succ]
      refine wpAnyH_take (i := 3) (v := ?_) (by simp only [List.getElem?_toArray, List.getElem?_cons_zero, List.getElem?_cons_succ]; rfl) (by kernel_rfl) (by kernel_rfl) (by kernel_rfl) (by exact fun _ _ _ h => h) (Or.inl ⟨by rfl, ?_⟩) (by assumption) ?_
      rotate_left
      · (intro wx hSw; (try dsimp only at hSw); go_simp; try (with_reducible rfl))
      try simp only [Act.put, List.setIfInBounds_toArray, List.set_cons_zero, List.set_cons_succ]
      refine wpAnyH_take (i := 5) (v := ?_) (by simp only [List.getElem?_toArray, List.getElem?_cons_zero, List.getElem?_cons_succ]; rfl) (by kernel_rfl) (by kernel_rfl) (by kernel_rfl) (by exact fun _ _ _ h => h) (Or.inl ⟨by rfl, ?_⟩) (by assumption) ?_
      rotate_left
      · (intro wx hSw; (try dsimp only at hSw); go_simp; try (with_reducible rfl))
      try simp only [Act.put, List.setIfInBounds_toArray, List.set_cons_zero, List.set_cons_succ]
      refine wpAnyH_take (i := 6) (v := ?_) (by simp only [List.getElem?_toArray, List.getElem?_cons_zero, List.getElem?_cons_succ]; rfl) (by kernel_rfl) (by kernel_rfl) (by kernel_rfl) (by exact fun _ _ _ h => h) (Or.inl ⟨by rfl, ?_⟩) (by assumption) ?_
      rotate_left
      · (intro wx hSw; (try dsimp only at hSw); go_simp; try (with_reducible rfl))
      try simp only [Act.put, List.setIfInBounds_toArray, List.set_cons_zero, List.set_cons_succ]
      refine wpAnyH_take (i := 7) (v := ?_) (by simp only [List.getElem?_toArray, List.getElem?_cons_zero, List.getElem?_cons_succ]; rfl) (by kernel_rfl) (by kernel_rfl) (by kernel_rfl) (by exact fun _ _ _ h => h) (Or.inl ⟨by rfl, ?_⟩) (by assumption) ?_
      rotate_left
      · (intro wx hSw; (try dsimp only at hSw); go_simp; try (with_reducible rfl))
      try simp only [Act.put, List.setIfInBounds_toArray, List.set_cons_zero, List.set_cons_succ]
      refine wpAnyH_ready (rs := [4, 8]) (by kernel_rfl) (by simp) ?_
      refine AllReadyH.cons (by simp only [List.getElem?_toArray, List.getElem?_cons_succ, List.getElem?_cons_zero]; rfl) (fun K hK => ?_) (AllReadyH.cons (by simp only [List.getElem?_toArray, List.getElem?_cons_succ, List.getElem?_cons_zero]; rfl) (fun K hK => ?_) AllReadyH.nil)
      · rw [if_pos (by rfl)]
        refine wp_load_mid 104 _ rfl g 0 rfl C8 _ R0.out Tryd.underlying104 rfl HI8.out ?_
        refine hK.out _ _ trivial (fun hHeld4 => ?_)
        clear hK K
        try simp only [Act.put, List.setIfInBounds_toArray, List.set_cons_zero, List.set_cons_succ]
        refine wpAnyH_ready (rs := [8]) (by kernel_rfl) (by simp) ?_
        refine AllReadyH.cons (by simp only [List.getElem?_toArray, List.getElem?_cons_succ, List.getElem?_cons_zero]; rfl) (fun K hK => ?_) AllReadyH.nil
        rw [if_pos (by rfl)]
        refine wp_load_mid 105 _ rfl g 8 rfl C64 _ R8.out Tryd.underlying105 rfl HI64.out ?_
        refine hK.out _ _ trivial (fun hHeld8 => ?_)
        clear hK K
        try simp only [Act.put, List.setIfInBounds_toArray, List.set_cons_zero, List.set_cons_succ]
        refine wpAnyH_ready (rs := [9]) (by kernel_rfl) (by simp) ?_
        refine AllReadyH.cons (by simp only [List.getElem?_toArray, List.getElem?_cons_succ, List.getElem?_cons_zero]; rfl) (fun K hK => ?_) AllReadyH.nil
        go_simp
        refine (pwords_c r2 w2.drew (Q.refl _) F.out.1 C64 D64 E64.out ED.out).mono ?_
        rintro e w3 ⟨rfl, hq3⟩
        have H3 := Lib.hid hq3
        clear hq3
        dsimp only
        refine hK.out _ _ trivial (fun hHeld9 => ?_)
        clear hK K
        try simp only [Act.put, List.setIfInBounds_toArray, List.set_cons_zero, List.set_cons_succ]
        refine wpAnyH_ready (rs := [10]) (by kernel_rfl) (by simp) ?_
        refine AllReadyH.cons (by simp only [List.getElem?_toArray, List.getElem?_cons_succ, List.getElem?_cons_zero]; rfl) (fun K hK => ?_) AllReadyH.nil
        go_simp
        refine (mixed_c (blkF (sf T) (c / 64)) (wrow r2 48) w3 H3.out HGL.out (blkF_wd _ _) (wrow_wd r2 F.out.1 48) C8 D64 E8 EC8.out ED.out EE.out).mono ?_
        rintro e w4 ⟨rfl, hq4⟩
        have H4 := Lib.hid (TH.out w4 hq4)
        have J4 := Lib.hid (TL.out w4 hq4)
        clear hq4
        dsimp only
        refine hK.out _ _ trivial (fun hHeld10 => ?_)
        clear hK K
        try simp only [Act.put, List.setIfInBounds_toArray, List.set_cons_zero, List.set_cons_succ]
        refine wpAnyH_take (i := 11) (v := ?_) (by simp only [List.getElem?_toArray, List.getElem?_cons_zero, List.getElem?_cons_succ]; rfl) (by kernel_rfl) (by kernel_rfl) (by kernel_rfl) (by exact fun _ _ _ h => h) (Or.inl ⟨by rfl, ?_⟩) (by assumption) ?_
        rotate_left
        · (intro wx hSw; (try dsimp only at hSw); go_simp; try (with_reducible rfl))
        try simp only [Act.put, List.setIfInBounds_toArray, List.set_cons_zero, List.set_cons_succ]
        refine wpAnyH_take (i := 12) (v := ?_) (by simp only [List.getElem?_toArray, List.getElem?_cons_zero, List.getElem?_cons_succ]; rfl) (by kernel_rfl) (by kernel_rfl) (by kernel_rfl) (by exact fun _ _ _ h => h) (Or.inl ⟨by rfl, ?_⟩) (by assumption) ?_
        rotate_left
        · (intro wx hSw; (try dsimp only at hSw); go_simp; try (with_reducible rfl))
        try simp only [Act.put, List.setIfInBounds_toArray, List.set_cons_zero, List.set_cons_succ]
        refine wpAnyH_ready (rs := [13]) (by kernel_rfl) (by simp) ?_
        refine AllReadyH.cons (by simp only [List.getElem?_toArray, List.getElem?_cons_succ, List.getElem?_cons_zero]; rfl) (fun K hK => ?_) AllReadyH.nil
        rw [if_pos (by rfl)]
        refine wp_store_mid 104 _ _ rfl g 0 E8.toArray rfl rfl H4.out HIE.out HOE.out ?_
        refine hK.out _ _ trivial (fun hHeld13 => ?_)
        clear hK K
        simp only [Act.put]
        refine wpAnyH_done (by kernel_rfl) ?_ _
        go_wp2_with fail
        go_region
        go_wp2_with fail
        go_step3
        exact ⟨rfl, ⟨c + n, 0, rem.extract n rem.size, _, _, _, _, _, _, _, _, _, _, _, _, _, _, _, _, _, _, _, _, _, _, _, _, _, _, _, _, _, _, _, _, _, _, _, _, _, _, _, _, _, _, rfl, (show (0 : Int) = (((c + n) % 64 : Nat) : Int) by have := HA.out; omega), J4.out.drew⟩, by have := HA.out; show (rem.extract n rem.size).size < rem.size; rw [ByteArray.size_extract]; omega⟩
      · rw [if_pos (by rfl)]
        refine wp_load_mid 105 _ rfl g 8 rfl C64 _ R8.out Tryd.underlying105 rfl HI64.out ?_
        refine hK.out _ _ trivial (fun hHeld8 => ?_)
        clear hK K
        try simp only [Act.put, List.setIfInBounds_toArray, List.set_cons_zero, List.set_cons_succ]
        refine wpAnyH_ready (rs := [4, 9]) (by kernel_rfl) (by simp) ?_
        refine AllReadyH.cons (by simp only [List.getElem?_toArray, List.getElem?_cons_succ, List.getElem?_cons_zero]; rfl) (fun K hK => ?_) (AllReadyH.cons (by simp only [List.getElem?_toArray, List.getElem?_cons_succ, List.getElem?_cons_zero]; rfl) (fun K hK => ?_) AllReadyH.nil)
        · rw [if_pos (by rfl)]
          refine wp_load_mid 104 _ rfl g 0 rfl C8 _ R0.out Tryd.underlying104 rfl HI8.out ?_
          refine hK.out _ _ trivial (fun hHeld4 => ?_)
          clear hK K
          try simp only [Act.put, List.setIfInBounds_toArray, List.set_cons_zero, List.set_cons_succ]
          refine wpAnyH_ready (rs := [9]) (by kernel_rfl) (by simp) ?_
          refine AllReadyH.cons (by simp only [List.getElem?_toArray, List.getElem?_cons_succ, List.getElem?_cons_zero]; rfl) (fun K hK => ?_) AllReadyH.nil
          go_simp
          refine (pwords_c r2 w2.drew (Q.refl _) F.out.1 C64 D64 E64.out ED.out).mono ?_
          rintro e w3 ⟨rfl, hq3⟩
          have H3 := Lib.hid hq3
          clear hq3
          dsimp only
          refine hK.out _ _ trivial (fun hHeld9 => ?_)
          clear hK K
          try simp only [Act.put, List.setIfInBounds_toArray, List.set_cons_zero, List.set_cons_succ]
          refine wpAnyH_ready (rs := [10]) (by kernel_rfl) (by simp) ?_
          refine AllReadyH.cons (by simp only [List.getElem?_toArray, List.getElem?_cons_succ, List.getElem?_cons_zero]; rfl) (fun K hK => ?_) AllReadyH.nil
          go_simp
          refine (mixed_c (blkF (sf T) (c / 64)) (wrow r2 48) w3 H3.out HGL.out (blkF_wd _ _) (wrow_wd r2 F.out.1 48) C8 D64 E8 EC8.out ED.out EE.out).mono ?_
          rintro e w4 ⟨rfl, hq4⟩
          have H4 := Lib.hid (TH.out w4 hq4)
          have J4 := Lib.hid (TL.out w4 hq4)
          clear hq4
          dsimp only
          refine hK.out _ _ trivial (fun hHeld10 => ?_)
          clear hK K
          try simp only [Act.put, List.setIfInBounds_toArray, List.set_cons_zero, List.set_cons_succ]
          refine wpAnyH_take (i := 11) (v := ?_) (by simp only [List.getElem?_toArray, List.getElem?_cons_zero, List.getElem?_cons_succ]; rfl) (by kernel_rfl) (by kernel_rfl) (by kernel_rfl) (by exact fun _ _ _ h => h) (Or.inl ⟨by rfl, ?_⟩) (by assumption) ?_
          rotate_left
          · (intro wx hSw; (try dsimp only at hSw); go_simp; try (with_reducible rfl))
          try simp only [Act.put, List.setIfInBounds_toArray, List.set_cons_zero, List.set_cons_succ]
          refine wpAnyH_take (i := 12) (v := ?_) (by simp only [List.getElem?_toArray, List.getElem?_cons_zero, List.getElem?_cons_succ]; rfl) (by kernel_rfl) (by kernel_rfl) (by kernel_rfl) (by exact fun _ _ _ h => h) (Or.inl ⟨by rfl, ?_⟩) (by assumption) ?_
          rotate_left
          · (intro wx hSw; (try dsimp only at hSw); go_simp; try (with_reducible rfl))
          try simp only [Act.put, List.setIfInBounds_toArray, List.set_cons_zero, List.set_cons_succ]
          refine wpAnyH_ready (rs := [13]) (by kernel_rfl) (by simp) ?_
          refine AllReadyH.cons (by simp only [List.getElem?_toArray, List.getElem?_cons_succ, List.getElem?_cons_zero]; rfl) (fun K hK => ?_) AllReadyH.nil
          rw [if_pos (by rfl)]
          refine wp_store_mid 104 _ _ rfl g 0 E8.toArray rfl rfl H4.out HIE.out HOE.out ?_
          refine hK.out _ _ trivial (fun hHeld13 => ?_)
          clear hK K
          simp only [Act.put]
          refine wpAnyH_done (by kernel_rfl) ?_ _
          go_wp2_with fail
          go_region
          go_wp2_with fail
          go_step3
          exact ⟨rfl, ⟨c + n, 0, rem.extract n rem.size, _, _, _, _, _, _, _, _, _, _, _, _, _, _, _, _, _, _, _, _, _, _, _, _, _, _, _, _, _, _, _, _, _, _, _, _, _, _, _, _, _, _, rfl, (show (0 : Int) = (((c + n) % 64 : Nat) : Int) by have := HA.out; omega), J4.out.drew⟩, by have := HA.out; show (rem.extract n rem.size).size < rem.size; rw [ByteArray.size_extract]; omega⟩
        · go_simp
          refine (pwords_c r2 w2.drew (Q.refl _) F.out.1 C64 D64 E64.out ED.out).mono ?_
          rintro e w3 ⟨rfl, hq3⟩
          have H3 := Lib.hid hq3
          clear hq3
          dsimp only
          refine hK.out _ _ trivial (fun hHeld9 => ?_)
          clear hK K
          try simp only [Act.put, List.setIfInBounds_toArray, List.set_cons_zero, List.set_cons_succ]
          refine wpAnyH_ready (rs := [4]) (by kernel_rfl) (by simp) ?_
          refine AllReadyH.cons (by simp only [List.getElem?_toArray, List.getElem?_cons_succ, List.getElem?_cons_zero]; rfl) (fun K hK => ?_) AllReadyH.nil
          rw [if_pos (by rfl)]
          refine wp_load_mid 104 _ rfl g 0 rfl C8 _ (Row.range (Row.q R0r.out H3.out R0lt.out) |> fun h => by rw [← EC8.out]; exact h) Tryd.underlying104 rfl HI8.out ?_
          refine hK.out _ _ trivial (fun hHeld4 => ?_)
          clear hK K
          try simp only [Act.put, List.setIfInBounds_toArray, List.set_cons_zero, List.set_cons_succ]
          refine wpAnyH_ready (rs := [10]) (by kernel_rfl) (by simp) ?_
          refine AllReadyH.cons (by simp only [List.getElem?_toArray, List.getElem?_cons_succ, List.getElem?_cons_zero]; rfl) (fun K hK => ?_) AllReadyH.nil
          go_simp
          refine (mixed_c (blkF (sf T) (c / 64)) (wrow r2 48) w3 H3.out HGL.out (blkF_wd _ _) (wrow_wd r2 F.out.1 48) C8 D64 E8 EC8.out ED.out EE.out).mono ?_
          rintro e w4 ⟨rfl, hq4⟩
          have H4 := Lib.hid (TH.out w4 hq4)
          have J4 := Lib.hid (TL.out w4 hq4)
          clear hq4
          dsimp only
          refine hK.out _ _ trivial (fun hHeld10 => ?_)
          clear hK K
          try simp only [Act.put, List.setIfInBounds_toArray, List.set_cons_zero, List.set_cons_succ]
          refine wpAnyH_take (i := 11) (v := ?_) (by simp only [List.getElem?_toArray, List.getElem?_cons_zero, List.getElem?_cons_succ]; rfl) (by kernel_rfl) (by kernel_rfl) (by kernel_rfl) (by exact fun _ _ _ h => h) (Or.inl ⟨by rfl, ?_⟩) (by assumption) ?_
          rotate_left
          · (intro wx hSw; (try dsimp only at hSw); go_simp; try (with_reducible rfl))
          try simp only [Act.put, List.setIfInBounds_toArray, List.set_cons_zero, List.set_cons_succ]
          refine wpAnyH_take (i := 12) (v := ?_) (by simp only [List.getElem?_toArray, List.getElem?_cons_zero, List.getElem?_cons_succ]; rfl) (by kernel_rfl) (by kernel_rfl) (by kernel_rfl) (by exact fun _ _ _ h => h) (Or.inl ⟨by rfl, ?_⟩) (by assumption) ?_
          rotate_left
          · (intro wx hSw; (try dsimp only at hSw); go_simp; try (with_reducible rfl))
          try simp only [Act.put, List.setIfInBounds_toArray, List.set_cons_zero, List.set_cons_succ]
          refine wpAnyH_ready (rs := [13]) (by kernel_rfl) (by simp) ?_
          refine AllReadyH.cons (by simp only [List.getElem?_toArray, List.getElem?_cons_succ, List.getElem?_cons_zero]; rfl) (fun K hK => ?_) AllReadyH.nil
          rw [if_pos (by rfl)]
          refine wp_store_mid 104 _ _ rfl g 0 E8.toArray rfl rfl H4.out HIE.out HOE.out ?_
          refine hK.out _ _ trivial (fun hHeld13 => ?_)
          clear hK K
          simp only [Act.put]
          refine wpAnyH_done (by kernel_rfl) ?_ _
          go_wp2_with fail
          go_region
          go_wp2_with fail
          go_step3
          exact ⟨rfl, ⟨c + n, 0, rem.extract n rem.size, _, _, _, _, _, _, _, _, _, _, _, _, _, _, _, _, _, _, _, _, _, _, _, _, _, _, _, _, _, _, _, _, _, _, _, _, _, _, _, _, _, _, rfl, (show (0 : Int) = (((c + n) % 64 : Nat) : Int) by have := HA.out; omega), J4.out.drew⟩, by have := HA.out; show (rem.extract n rem.size).size < rem.size; rw [ByteArray.size_extract]; omega⟩
    · have hB' : ¬ (k : Int) + (n : Int) = 64 := by omega
      go_wp2_with fail
      simp only [Exit.jump]
      refine bodyPost_end (results_none rfl _ _ _) rfl ?_
      obtain ⟨hB, hst, hr8, hr, htk, hfz, hbl⟩ := F.out
      have hl := hlen'.out
      have e1 : T.size / 64 = c / 64 := by omega
      have e2 : T.size % 64 = k + n := by omega
      exact ⟨rfl, ⟨by rw [e1]; exact hst, ⟨r2, hB, hr8, fun j hj => by rw [e1]; exact hr j (by omega)⟩, htk, hfz⟩, hbl⟩
end Go.Proofs.YtnghhagiokiaoaaDoor.Sh
