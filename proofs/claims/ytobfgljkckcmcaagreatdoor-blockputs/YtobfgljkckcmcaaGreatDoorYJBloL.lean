import Derived.Test.YtobfgljkckcmcaaGreatDoorYJBloB
import Derived.Test.YtobfgljkckcmcaaGreatDoorYJCutX
set_option maxRecDepth 100000
namespace Go.Proofs.YtobfgljkckcmcaaGreatDoor.Coi
open Go.RowKit
open Mem Num Cod Sh Plan
set_option linter.unusedVariables false
set_option linter.unusedSimpArgs false
theorem built_ro (v0 v1 : Int) (v2 v3 : ByteArray) (v4 : Int) (v5 : ByteArray) (v6 v7 : Int) (v8 : ByteArray) : Tryz.prog.built 49 [(0, .int .i64 v0), (1, .int .u64 v1), (2, .string v2), (3, .string v3), (4, .int .i64 v4), (5, .string v5), (6, .int .u64 v6), (7, .int .i64 v7), (8, .string v8)] = some #[.int .i64 v0, .int .u64 v1, .string v2, .string v3, .int .i64 v4, .string v5, .int .u64 v6, .int .i64 v7, .string v8] := by kernel_rfl
theorem wpl_ro {ops : Array Oper} {rest : List Oper} {o : Oper} {a : Act} {w : World} {Q : Exit → Act → World → Prop} (hg : o.guard = none) {n0 n1 n2 n3 n4 n5 n6 n7 n8 : Nat} (v0 v1 : Int) (v2 v3 : ByteArray) (v4 : Int) (v5 : ByteArray) (v6 v7 : Int) (v8 : ByteArray) (ho : o.op = .build 49 #[(0, .tmp n0), (1, .tmp n1), (2, .tmp n2), (3, .tmp n3), (4, .tmp n4), (5, .tmp n5), (6, .tmp n6), (7, .tmp n7), (8, .tmp n8)]) (d : Option Tmp) (hd : o.dst = d) (h0 : a.eval (.tmp n0) = .int .i64 v0) (h1 : a.eval (.tmp n1) = .int .u64 v1) (h2 : a.eval (.tmp n2) = .string v2) (h3 : a.eval (.tmp n3) = .string v3) (h4 : a.eval (.tmp n4) = .int .i64 v4) (h5 : a.eval (.tmp n5) = .string v5) (h6 : a.eval (.tmp n6) = .int .u64 v6) (h7 : a.eval (.tmp n7) = .int .i64 v7) (h8 : a.eval (.tmp n8) = .string v8) (h : wpList Tryz.prog ops Q rest (a.put d (.agg #[.int .i64 v0, .int .u64 v1, .string v2, .string v3, .int .i64 v4, .string v5, .int .u64 v6, .int .i64 v7, .string v8])) w) : wpList Tryz.prog ops Q (o :: rest) a w := by
 refine wpList_buildTo hg 49 _ ho d hd _ ?_ h
 simp only [List.map_toArray, List.map_cons, List.map_nil, h0, h1, h2, h3, h4, h5, h6, h7, h8]
 exact built_ro v0 v1 v2 v3 v4 v5 v6 v7 v8
theorem info_ro : (Tryz.prog.info? 49).map (fun i => (i.zero, i.size, i.bytes)) = some (some (.agg #[.int .i64 0, .int .u64 0, .string ⟨#[]⟩, .string ⟨#[]⟩, .int .i64 0, .string ⟨#[]⟩, .int .u64 0, .int .i64 0, .string ⟨#[]⟩]), 9, 104) := by kernel_rfl
theorem fill_ro (v0 v1 : Int) (v2 v3 : ByteArray) (v4 : Int) (v5 : ByteArray) (v6 v7 : Int) (v8 : ByteArray) : Instr.fill (fun i => some (i * 9, 9)) ((Array.range (1 * 9)).map ((Value.agg #[.int .i64 0, .int .u64 0, .string ⟨#[]⟩, .string ⟨#[]⟩, .int .i64 0, .string ⟨#[]⟩, .int .u64 0, .int .i64 0, .string ⟨#[]⟩]).cells[· % (Value.agg #[.int .i64 0, .int .u64 0, .string ⟨#[]⟩, .string ⟨#[]⟩, .int .i64 0, .string ⟨#[]⟩, .int .u64 0, .int .i64 0, .string ⟨#[]⟩]).cells.size]!)) [(0, .agg #[.int .i64 v0, .int .u64 v1, .string v2, .string v3, .int .i64 v4, .string v5, .int .u64 v6, .int .i64 v7, .string v8])] = some #[.int .i64 v0, .int .u64 v1, .string v2, .string v3, .int .i64 v4, .string v5, .int .u64 v6, .int .i64 v7, .string v8] := by kernel_rfl
theorem wpl_rowro {ops : Array Oper} {rest : List Oper} {o : Oper} {a : Act} {w : World} {Q : Exit → Act → World → Prop} {x : Operand} (hg : o.guard = none) (z : OU) (ho : o.op = .buildSlice 38 1 #[(0, x)]) (h0 : a.eval x = ouV z)
 (h : wpList Tryz.prog ops Q rest (a.put o.dst (.slice (some ⟨w.heap.size, 0, none⟩) 1 1)) (w.alloc (.cells (OU.cells z).toArray 49))) : wpList Tryz.prog ops Q (o :: rest) a w := by
 refine wpList_plain hg fun K hK => ?_
 obtain ⟨i0, hi0, hz0, hz1, hz2⟩ := info_of info_ro
 refine wp_buildSlice 38 49 1 _ ho (OU.cells z).toArray i0 _ Tryz.underlying38 hi0 hz0 (by rw [hz1]; decide) (by rw [hz1]; decide) ?_ (hK _ _ h)
 rw [hz1]
 simp only [List.map_toArray, List.map_cons, List.map_nil, h0]
 exact fill_ro z.kind z.amount z.key z.gate z.expiry z.anchor z.unit z.tokens z.of_
theorem one_ou (x : OU) : ∀ u ∈ OU.cells x, u.oneCell' = true := one9 rfl rfl rfl rfl rfl rfl rfl rfl rfl
set_option maxHeartbeats 40000000 in
theorem refout_x (x : OU) (w0 : World) : Calls Tryz.prog 11 #[ouV x] w0 fun e w' => e = .returned (ouV x) ∧ Q w0 w' := by
 obtain ⟨kind, amount, key, gate, expiry, anchor, unit, tokens, of_⟩ := x
 go_enter Tryz.func11, Tryz.ntmps11
 go_wp2_with (with_reducible (show wpList _ _ _ (⟨_, Op.build 49 _, _, _, _, _⟩ :: _) _ _); refine halt ?_)
 refine Lib.hid (wpl_ro rfl kind amount key gate expiry anchor unit tokens of_ rfl _ rfl rfl rfl rfl rfl rfl rfl rfl rfl rfl ?_)
 have B2 : Box ((w0.alloc (.cells #[.int .i64 kind, .int .u64 amount, .string key, .string gate, .int .i64 expiry, .string anchor, .int .u64 unit, .int .i64 tokens, .string of_] 47)).alloc (.cells #[.int .i64 0, .int .u64 0, .string ⟨#[]⟩, .string ⟨#[]⟩, .int .i64 0, .string ⟨#[]⟩, .int .u64 0, .int .i64 0, .string ⟨#[]⟩] 49)) (w0.heap.size + 1) [.int .i64 0, .int .u64 0, .string ⟨#[]⟩, .string ⟨#[]⟩, .int .i64 0, .string ⟨#[]⟩, .int .u64 0, .int .i64 0, .string ⟨#[]⟩] := by
  have := Box.new (w0.alloc (.cells #[.int .i64 kind, .int .u64 amount, .string key, .string gate, .int .i64 expiry, .string anchor, .int .u64 unit, .int .i64 tokens, .string of_] 47)) [.int .i64 0, .int .u64 0, .string ⟨#[]⟩, .string ⟨#[]⟩, .int .i64 0, .string ⟨#[]⟩, .int .u64 0, .int .i64 0, .string ⟨#[]⟩] 49
  rw [show (w0.alloc (.cells #[.int .i64 kind, .int .u64 amount, .string key, .string gate, .int .i64 expiry, .string anchor, .int .u64 unit, .int .i64 tokens, .string of_] 47)).heap.size = w0.heap.size + 1 by simp] at this
  exact this
 refine st_box rfl 49 _ _ rfl (w0.heap.size + 1) _ [.int .i64 kind, .int .u64 amount, .string key, .string gate, .int .i64 expiry, .string anchor, .int .u64 unit, .int .i64 tokens, .string of_] rfl rfl B2 rfl (by kernel_rfl) (one9 rfl rfl rfl rfl rfl rfl rfl rfl rfl) ?_
 intro w3 B3 c3
 have HL : Hid ((loadVar 49 ⟨w0.heap.size + 1, 0, none⟩).run Tryz.prog w3 = .ok (.agg #[.int .i64 kind, .int .u64 amount, .string key, .string gate, .int .i64 expiry, .string anchor, .int .u64 unit, .int .i64 tokens, .string of_]) w3) := B3.load _ Tryz.underlying49 rfl (by kernel_rfl)
 have Q3 : Hid (Q w0 w3) := c3.q (((Q.refl w0).alloc _).alloc _) (by omega)
 clear c3 B3 B2
 refine wpList_nil ?_
 go_step
 go_step
 go_step
 refine bodyPost_ret (results_cell rfl rfl HL.out) rfl ?_
 exact ⟨rfl, Q3.out⟩
set_option maxHeartbeats 40000000 in
theorem outs_x (ad : Option Addr) (len cap : Nat) (f : Nat → OU) (w0 : World) (hw : Ins OU.cells 9 OU.wide w0 ad len cap f) :
 Calls Tryz.prog 27 #[.slice ad len cap] w0 fun e w' => ∃ g1 c1 g2 c2, e = .returned (.tuple #[.slice (some ⟨g1, 0, none⟩) (min len 6) c1, .slice (some ⟨g2, 0, none⟩) (min len 6) c2]) ∧
  OR 47 OU.cells 9 w' w0.heap.size (some ⟨g1, 0, none⟩) (min len 6) c1 (fun i => cutO (f i)) ∧ OR 49 OU.cells 9 w' w0.heap.size (some ⟨g2, 0, none⟩) (min len 6) c2 (fun i => cutO (f i)) ∧ Q w0 w' := by
 have HT := Lib.hid hw
 have lenB : len ≤ 9223372036854775807 := by have := hw.le; have := hw.cap; unfold maxLen at *; omega
 obtain ⟨F, hF⟩ : ∃ F : Nat → OU, F = fun i => cutO (f i) := ⟨_, rfl⟩
 have HF : Hid (∀ i, F i = cutO (f i)) := fun i => by rw [hF]
 rw [← hF]
 obtain ⟨n, hn⟩ : ∃ n, min len 6 = n := ⟨_, rfl⟩
 rw [hn]
 have n6 : n ≤ 6 := by omega
 have nl : n ≤ len := by omega
 have HN := Lib.hid hn
 clear hF hn hw
 obtain ⟨i0, hi0, hz0, hz1, hz2⟩ := info_of info_out
 obtain ⟨r0, ri0, rz0, rz1, rz2⟩ := info_of info_ro
 have O0 := Lib.hid ((OR.made0 47 OU.cells 9 w0 w0.heap.size (Nat.le_refl _) F).q ((Q.refl _).alloc (.cells #[] 49)))
 have P0 := Lib.hid (OR.made0 49 OU.cells 9 (w0.alloc (.cells #[] 47)) w0.heap.size (by simp) F)
 have Q0 : Hid (Q w0 ((w0.alloc (.cells #[] 47)).alloc (.cells #[] 49))) := ((Q.refl w0).alloc _).alloc _
 have A0 : Hid (Apart (some ⟨w0.heap.size, 0, none⟩) (some ⟨(w0.alloc (.cells #[] 47)).heap.size, 0, none⟩)) := fun x y hx hy => by
  injection hx with hx; injection hy with hy; subst hx; subst hy; show w0.heap.size ≠ _; simp
 rw [show (w0.alloc (.cells #[] 47)).heap.size = w0.heap.size + 1 by simp] at P0 A0
 go_enter Tryz.func27, Tryz.ntmps27
 go_wp2_with fail
 generalize (w0.alloc (.cells #[] 47)).alloc (.cells #[] 49) = wA at *
 obtain ⟨tb, htb⟩ : ∃ t, w0.heap.size + 1 = t := ⟨_, rfl⟩
 rw [htb] at P0 A0 ⊢
 go_loopw [4, 5, 6] (fun u v i wr => ∃ (k g1 c1 g2 c2 : Nat), k ≤ n ∧ i = .int .i64 k ∧ u = .slice (some ⟨g1, 0, none⟩) k c1 ∧ v = .slice (some ⟨g2, 0, none⟩) k c2 ∧ Hid (OR 47 OU.cells 9 wr w0.heap.size (some ⟨g1, 0, none⟩) k c1 F) ∧ Hid (OR 49 OU.cells 9 wr w0.heap.size (some ⟨g2, 0, none⟩) k c2 F) ∧ Hid (Apart (some ⟨g1, 0, none⟩) (some ⟨g2, 0, none⟩)) ∧ Hid (Q w0 wr)) (fun _ _ i _ => n - (intOf i).toNat)
 case atStart => exact ⟨0, _, 0, _, 0, by omega, rfl, rfl, rfl, O0, P0, A0, Q0⟩
 case round =>
  obtain ⟨k, g1, c1, g2, c2, hk, rfl, rfl, rfl, O, P, A, QR⟩ := hrel
  clear O0 P0 A0 Q0
  have k0 : (0 : Int) ≤ (k : Int) := by omega
  by_cases hlt : k < n
  · have k1 : (k : Int) < (len : Int) := by omega
    have k2 : (k : Int) < 6 := by omega
    obtain ⟨b, off, rfl, hrow⟩ := (HT.out.q QR.out).sl.some_ (by omega)
    obtain ⟨y, hy⟩ : ∃ y, f k = y := ⟨_, rfl⟩
    have RW : Hid (wr.rangeAt b (off + k * 9) (OU.cells y)) := by rw [← hy]; exact hrow k (by omega)
    have FY : Hid (F k = cutO y) := by show _ = _; rw [HF.out, hy]
    have wy := Lib.hid (HT.out.ok k (by omega))
    rw [hy] at wy
    clear hy hrow
    go_wp2_with (with_reducible (show wpList _ _ _ (⟨_, Op.load 47 _, _, _, _, _⟩ :: _) _ _); refine halt ?_)
    refine Lib.hid (wpList_load_mid rfl 47 _ rfl b (off + k * 9) rfl (OU.cells y) _ RW.out Tryz.underlying47 rfl (by kernel_rfl) ?_)
    go_wp2_with fail
    refine (cutout_x y _ wy.out.key wy.out.gate wy.out.anchor wy.out.of_).mono ?_
    rintro e w1 ⟨rfl, q1⟩
    have hsz := QR.out.size
    have hsz1 := q1.size
    have O1 := Lib.hid (O.out.q (q1.alloc (.cells (OU.cells (cutO y)).toArray 47)))
    have P1 := Lib.hid (P.out.q (q1.alloc (.cells (OU.cells (cutO y)).toArray 47)))
    have Q1 := Lib.hid (QR.out.trans (q1.alloc (.cells (OU.cells (cutO y)).toArray 47)))
    clear q1 O P QR RW
    go_wp2_with (with_reducible (show wpList _ _ _ (⟨_, Op.buildSlice 23 _ _, _, _, _, _⟩ :: _) _ _); refine halt ?_)
    refine Lib.hid (wpr_out rfl (cutO y).kind (cutO y).amount (cutO y).key (cutO y).gate (cutO y).expiry (cutO y).anchor (cutO y).unit (cutO y).tokens (cutO y).of_ rfl rfl ?_)
    refine wpl_app rfl (.tmp 19) (.tmp 25) 23 rfl i0 _ 104 Tryz.underlying23 hi0 hz0 hz1 hz2 rfl (by decide) rfl O1.out w1.heap.size rfl rfl (fun j u hj => ?_) (by rw [FY.out]; exact one_ou _) (by omega) (by decide) (by simp; omega) ?_
    · rw [FY.out] at hj
      rw [World.cell?_alloc_at _ _ _ _ rfl]
      unfold OU.cells at hj
      simpa using hj
    intro g1' c1' w' O2 G
    obtain ⟨P2, A2⟩ := P1.out.over A.out G
    have Q2 := Lib.hid (O1.out.q_grow Q1.out (Nat.le_refl _) G)
    have P2 := Lib.hid P2
    have A2 := Lib.hid A2
    have O2 := Lib.hid O2
    clear O1 P1 Q1 A G
    have hs2 := Q2.out.size
    have R2 : Hid (w'.rangeAt g1' (k * 9) (OU.cells (cutO y))) := fun j v hv => by
     obtain ⟨b', off', e, hrow⟩ := (O2.out.sl out_len).some_ (by omega)
     injection e with e; injection e with e1 e2; subst e1; subst e2
     have := hrow k (by omega) j v (by rw [FY.out]; exact hv)
     rwa [Nat.zero_add] at this
    go_wp2_with (with_reducible (show wpList _ _ _ (⟨_, Op.load 47 _, _, _, _, _⟩ :: _) _ _); refine halt ?_)
    refine Lib.hid (wpList_load_mid rfl 47 _ rfl g1' (k * 9) (by first | rfl | simp) (OU.cells (cutO y)) _ R2.out Tryz.underlying47 rfl (by kernel_rfl) ?_)
    go_wp2_with fail
    refine (refout_x (cutO y) _).mono ?_
    rintro e w3 ⟨rfl, q3⟩
    have hs3 := q3.size
    have O3 := Lib.hid (O2.out.q (q3.alloc (.cells (OU.cells (cutO y)).toArray 49)))
    have P3 := Lib.hid (P2.out.q (q3.alloc (.cells (OU.cells (cutO y)).toArray 49)))
    have Q3 := Lib.hid (Q2.out.trans (q3.alloc (.cells (OU.cells (cutO y)).toArray 49)))
    clear q3 O2 P2 Q2 R2
    go_wp2_with (with_reducible (show wpList _ _ _ (⟨_, Op.buildSlice 38 _ _, _, _, _, _⟩ :: _) _ _); refine halt ?_)
    refine Lib.hid (wpl_rowro rfl (cutO y) rfl rfl ?_)
    refine wpl_app rfl (.tmp 27) (.tmp 33) 38 rfl r0 _ 104 Tryz.underlying38 ri0 rz0 rz1 rz2 rfl (by decide) rfl P3.out w3.heap.size rfl rfl (fun j u hj => ?_) (by rw [FY.out]; exact one_ou _) (by omega) (by decide) (by simp; omega) ?_
    · rw [FY.out] at hj
      rw [World.cell?_alloc_at _ _ _ _ rfl]
      simpa using hj
    intro g2' c2' w4 P4 G
    obtain ⟨O4, A4⟩ := O3.out.over A2.out.symm G
    have Q4 := Lib.hid (P3.out.q_grow Q3.out (Nat.le_refl _) G)
    have P4 := Lib.hid P4
    have A4 := Lib.hid A4.symm
    have O4 := Lib.hid O4
    clear O3 P3 Q3 A2 G
    go_wp2_with fail
    go_roundw
    case rel => exact ⟨k + 1, g1', c1', g2', c2', by omega, by go_num, rfl, rfl, O4, P4, A4, Q4⟩
    case measure => simp [intOf]; omega
  · obtain rfl : k = n := by omega
    by_cases h6 : k < len
    · have k1 : (k : Int) < (len : Int) := by omega
      have h6' : 6 ≤ k := by have := HN.out; omega
      have k2 : ¬ (k : Int) < 6 := by omega
      have t2 : decide ((k : Int) < 6) = false := by simp; omega
      have t3 : decide (k < 6) = false := by simp; omega
      go_wp2_with fail
      go_ret2
      exact ⟨g1, c1, g2, c2, rfl, O.out, P.out, QR.out⟩
    · have k1 : ¬ (k : Int) < (len : Int) := by omega
      have t2 : decide ((k : Int) < (len : Int)) = false := by simp; omega
      have t3 : decide (k < len) = false := by simp; omega
      go_wp2_with fail
      go_ret2
      exact ⟨g1, c1, g2, c2, rfl, O.out, P.out, QR.out⟩
end Go.Proofs.YtobfgljkckcmcaaGreatDoor.Coi
