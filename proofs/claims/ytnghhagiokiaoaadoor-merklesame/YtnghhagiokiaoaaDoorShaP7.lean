/-
  The program's layer 2: the walks of (*Hash).Sum, Sum and Short.
-/
import Derived.Test.YtnghhagiokiaoaaDoorShaP6
namespace Go.Proofs.YtnghhagiokiaoaaDoor.Sh
open Go.RowKit
open Mem
set_option linter.unusedVariables false

theorem cells_new (w : World) (l : List Value) (t : TypeId) : ∀ j u, l[j]? = some u → (w.alloc (.cells l.toArray t)).cell? ((⟨w.heap.size, 0, none⟩ : Addr).add j) = some u := by
  intro j u hj
  rw [Addr.add_mid, Nat.zero_add, World.cell?_alloc_at _ _ _ _ rfl]
  simpa using hj
theorem sb_nums (l : List Int) (h : ∀ x ∈ l, 0 ≤ x ∧ x ≤ 255) : sb (strOfNums l) = l := by
  unfold sb
  rw [strOfNums_data, List.map_map]
  conv => rhs; rw [← List.map_id l]
  apply List.map_congr_left
  intro x hx
  have := h x hx
  show ((UInt8.ofNat x.toNat).toNat : Int) = x
  rw [UInt8.toNat_ofNat']
  omega
theorem pad_sb (s : ByteArray) : sb (s ++ strOfNums (padN s.size)) = padL s := by
  rw [sb_append, sb_nums _ (padN_byts _)]
  unfold padN padL pad0
  simp only [List.append_assoc]
theorem fin_st (s : ByteArray) : blkF (sf (s ++ strOfNums (padN s.size))) ((s ++ strOfNums (padN s.size)).size / 64) = shaSt s := by
  have e1 : sf (s ++ strOfNums (padN s.size)) = pb s := by funext j; unfold sf pb; rw [pad_sb]
  have e2 : (s ++ strOfNums (padN s.size)).size = (padL s).length := by rw [← sb_len, pad_sb]
  rw [e1, e2, ← blk_eq]
  rfl
theorem shaSt_wd (s : ByteArray) : ∀ i, Wd (shaSt s i) := blk_wd s _

def z32 : Obj := .cells (Array.replicate 32 (.int .u8 0)) 5
theorem mk32 (w : World) : (Instr.makeSlice 52 (.int .i64 0) (.int .i64 32)).run Tryd.prog w = .ok (.slice (some ⟨w.heap.size, 0, none⟩) 0 32) (w.alloc z32) := by kernel_rfl

set_option maxHeartbeats 1000000 in
set_option maxRecDepth 100000 in
theorem hsum_any (g : Nat) (s : ByteArray) (w : World) (h : HR w g s) (hG : GL w) (hs : s.size ≤ 1000000000) :
    Calls Tryd.prog 79 #[.pointer (some ⟨g, 0, none⟩)] w fun e w' => e = .returned (.string (shaS s)) ∧ Q w w' := by
  obtain ⟨i0, hi0, hz0, hz1, hz2⟩ := info_parts infoB
  have hg := HC.lt h
  have hG1 := hG.lt
  have HH := Lib.hid h
  have HG := Lib.hid hG
  have hmk := mk32
  clear h hG
  go_enter Tryd.func79, Tryd.ntmps79
  go_wp2_with fail
  refine (copy_any g s w HH.out).mono ?_
  rintro e w1 ⟨rfl, hc1, hq1⟩
  have htk : w1.cell? ⟨g, 72, none⟩ = some (.int .i64 s.size) := (HC.q HH.out hq1).tk
  have H1 := Lib.hid (And.intro hc1 hq1)
  clear hc1 hq1
  go_wp2_with fail
  refine (padding_any s.size w1 (Q.refl w1) hs).mono ?_
  rintro e w2 ⟨rfl, hq2⟩
  have H2 := Lib.hid hq2
  clear hq2 htk
  go_wp2_with fail
  refine (write_any w.heap.size s (strOfNums (padN s.size)) w2 (HC.q H1.out.1 H2.out) ((HG.out.q H1.out.2).q H2.out) hG1 (by rw [strOfNums_size, padN_len]; unfold zn; omega)).mono ?_
  rintro e w3 ⟨rfl, hc3, hb3⟩
  have hst : Row .u32 w3 w.heap.size 0 8 (shaSt s) := by
    have := HC.st hc3
    rwa [fin_st] at this
  have hq3 : Q w w3 := Below.trans (H1.out.2.trans H2.out) hb3
  obtain ⟨st, hst'⟩ : ∃ st, shaSt s = st := ⟨_, rfl⟩
  have HSS : Hid (shaS s = strOfNums (ob st 8)) := by rw [← hst']; rfl
  have WV : Hid (∀ i, Wd (st i)) := by rw [← hst']; exact shaSt_wd s
  rw [hst'] at hst
  have HX := Lib.hid (fun w => idx8 w st)
  obtain ⟨C, hC⟩ : ∃ C, cl .u32 8 st = C := ⟨_, rfl⟩
  rw [hC] at HX
  have o0 : (w3.alloc z32).ownsRow w3.heap.size 5 1 (.slice (some ⟨w3.heap.size, 0, none⟩) 0 32) (4 * 0) (vals .u8 (ob st 0)) :=
    ⟨rfl, .inr ⟨w3.heap.size, 32, Array.replicate 32 (.int .u8 0), rfl, Nat.le_refl _, (show (w3.heap.push _)[w3.heap.size]? = _ by simp; rfl), by omega, by decide +kernel, by simp, by simp [ob, vals]⟩⟩
  have q30 : Q w3 (w3.alloc z32) := (Q.refl w3).alloc _
  have HRA : Hid ((w3.alloc z32).rangeAt w.heap.size 0 C) := by rw [← hC]; exact (Row.q hst q30 (hst.lt (by omega))).range
  have HIC : Hid ((Tryd.prog.info? 104).map (·.size) = some C.length) := by rw [← hC, cl_len]; exact info8
  have HQ3 := Lib.hid hq3
  clear hst' hst hc3 hb3 hC hq3 H1 H2 HH HG
  as_aux_lemma =>
  go_wp2_with (with_reducible (show wpList _ _ _ (⟨_, Op.load 104 _, _, _, _, _⟩ :: _) _ _); refine halt ?_)
  refine wpList_load_mid rfl 104 _ rfl w.heap.size 0 rfl C _ HRA.out Tryd.underlying104 rfl HIC.out ?_
  go_wp2_with fail
  clear hmk HRA HIC
  go_loopw [4, 21] (fun v i wr => ∃ k : Nat, k ≤ 8 ∧ i = .int .i64 k ∧ wr.ownsRow w3.heap.size 5 1 v (4 * k) (vals .u8 (ob st k)) ∧ Q w3 wr) (fun _ i _ => 8 - (intOf i).toNat)
  case atStart => exact ⟨0, by omega, rfl, o0, q30⟩
  case round =>
    obtain ⟨i, hi, rfl, hown0, hq0⟩ := hrel
    clear o0 q30
    have hszr := hq0.size
    by_cases hlt' : i < 8
    · have i0' : (0 : Int) ≤ (i : Int) := by omega
      have i8 : (i : Int) < 8 := by omega
      have ti : decide ((i : Int) < 8) = true := by simp; omega
      have hx := HX.out wr i hlt'
      obtain ⟨s0', s1'⟩ := WV.out i
      have HO : Hid (ob st (i + 1) = ob st i ++ [st i / 16777216, st i / 65536 % 256, st i / 256 % 256, st i % 256]) := rfl
      generalize st i = x at *
      go_wp2_with (at_builtin; (refine wpList_append_own _ rfl (.tmp 24) (.tmp 36) 52 rfl w3.heap.size 5 i0 (.int .u8 0) 1 1 Tryd.underlying52 hi0 hz0 hz1 hz2 rfl (by decide) _ _ _ rfl (hown0.alloc _) ⟨wr.heap.size, 0, none⟩ 4 4 (vals .u8 [x / 16777216, x / 65536 % 256, x / 256 % 256, x % 256]) rfl rfl (cells_new wr _ _) (fun u hu => by unfold vals at hu; obtain ⟨y, _, rfl⟩ := List.mem_map.1 hu; rfl) (by unfold maxLen; omega) (by omega) (by simp; omega) ?_); intro va wa howna hga _hn)
      have hqa := hq0.alloc (.cells (vals .u8 [x / 16777216, x / 65536 % 256, x / 256 % 256, x % 256]).toArray 5)
      have hqA : Q w3 wa := Below.grown hqa hga hqa.size (fun j hj => (hown0.lt j hj).1)
      rw [vals_append, ← HO.out] at howna
      exact ⟨⟨i + 1, by omega, by go_num, by rw [show 4 * (i + 1) = 4 * i + 4 by omega]; exact howna, hqA⟩, by simp [intOf]; omega⟩
    · obtain rfl : i = 8 := by omega
      obtain ⟨g2, cap2, e2, r1, r2, r3, r4, r5, r6⟩ := own_row (show wr.ownsRow w3.heap.size 5 1 _ (31 + 1) (vals .u8 (ob st 8)) from hown0)
      subst e2
      have hcv := run_convert_bytes_arg (P := Tryd.prog) wr 52 5 Tryd.underlying52 Tryd.underlying5 g2 0 32 cap2 (ob st 8) (ob_len st 8) (fun j hj => r3 j hj) 9 Tryd.underlying9
      clear r1 r2 r3 r4 r5 r6 hown0 WV HX
      go_wp2_with fail
      go_ret
      exact ⟨retS HSS.out.symm, HQ3.out.trans hq0⟩

end Go.Proofs.YtnghhagiokiaoaaDoor.Sh
