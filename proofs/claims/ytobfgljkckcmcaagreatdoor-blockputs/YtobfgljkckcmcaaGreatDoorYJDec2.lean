import Derived.Test.YtobfgljkckcmcaaGreatDoorYJDec1
set_option maxRecDepth 100000
namespace Go.Proofs.YtobfgljkckcmcaaGreatDoor.Coi
open Go.RowKit
open Mem Num Cod
set_option linter.unusedVariables false
set_option linter.unusedSimpArgs false
/-- A load of a record that lies in a row. -/
theorem ld_row {P : Program} {ops : Array Oper} {rest : List Oper} {op : Oper} {a : Act} {w : World} {Q : Exit → Act → World → Prop} (hgd : op.guard = none) (ty : TypeId) (x : Operand) (ho : op.op = .load ty x)
 (b off : Nat) (cs : List Value) (hx : a.eval x = .pointer (some ⟨b, off, none⟩)) (hc : ∀ j v, cs[j]? = some v → w.cell? ⟨b, off + j, none⟩ = some v) {d : TypeDesc} (hu : P.underlying ty = some d) (hd : d.isRow = true) (hi : (P.info? ty).map (·.size) = some cs.length)
 (h : wpList P ops Q rest (a.put op.dst (.agg cs.toArray)) w) : wpList P ops Q (op :: rest) a w :=
 wpList_load_mid hgd ty x ho b off hx cs d hc hu hd hi h
set_option maxHeartbeats 4000000 in
theorem d8may_x (x : WN) (w : World) : Calls Tryz.prog 103 #[.agg #[.string x.chan, .int .u64 x.serial, .int .u64 x.face, .int .u64 x.wins, .int .u64 x.many, .string x.commit, .int .u64 x.client, .string x.sig]] w fun e w' => e = .returned (.bool (decide (TkR x))) ∧ Q w w' := by
 obtain ⟨chan, serial, face, wins, many, commit, client, sig, salt, drawn⟩ := x
 have HQ : Hid (∀ o, Q w (w.alloc o)) := fun o => (Q.refl w).alloc o
 have HR : Hid (∀ b : Bool, (b = true ↔ TkR ⟨chan, serial, face, wins, many, commit, client, sig, salt, drawn⟩) → b = decide (TkR ⟨chan, serial, face, wins, many, commit, client, sig, salt, drawn⟩)) := fun b hb => by rw [Bool.eq_iff_iff, hb]; simp
 generalize decide (TkR ⟨chan, serial, face, wins, many, commit, client, sig, salt, drawn⟩) = ANS at *
 unfold TkR at HR
 dsimp only at *
 go_enter Tryz.func103, Tryz.ntmps103
 go_wp2_with fail
 all_goals (go_ret; exact ⟨retB (HR.out _ (by simp; omega)), HQ.out _⟩)
set_option maxHeartbeats 4000000 in
theorem d9fits_x (x : OU) (ha : 0 ≤ x.amount) (w : World) : Calls Tryz.prog 10 #[ouV x] w fun e w' => e = .returned (.bool (decide (Fit x))) ∧ Q w w' := by
 obtain ⟨kind, amount, key, gate, expiry, anchor, unit, tokens, of_⟩ := x
 dsimp only at ha
 have HQ : Hid (∀ o, Q w (w.alloc o)) := fun o => (Q.refl w).alloc o
 have HR : Hid (∀ b : Bool, (b = true ↔ Fit ⟨kind, amount, key, gate, expiry, anchor, unit, tokens, of_⟩) → b = decide (Fit ⟨kind, amount, key, gate, expiry, anchor, unit, tokens, of_⟩)) := fun b hb => by rw [Bool.eq_iff_iff, hb]; simp
 generalize decide (Fit ⟨kind, amount, key, gate, expiry, anchor, unit, tokens, of_⟩) = ANS at *
 unfold Fit at HR
 dsimp only at HR
 go_enter Tryz.func10, Tryz.ntmps10
 go_wp2_with fail
 all_goals go_ret
 all_goals refine ⟨retB (HR.out _ ?_), ?_⟩
 all_goals first
  | exact HQ.out _
  | (clear HR HQ; (try simp only [List.isEmpty_iff, tl_nil, Bool.not_eq_true', Bool.not_eq_false', decide_eq_true_eq, decide_eq_false_iff_not, beq_iff_eq, beq_eq_false_iff_ne, bne_iff_ne, bne_eq_false_iff_eq, ne_eq] at *); (try simp only [Bool.false_eq_true, true_iff, false_iff]); omega)
set_option maxHeartbeats 4000000 in
theorem d8right_x (p : PF) (a : Option Addr) (c : Nat) (w0 : World) (h : SL WN.cells 10 w0 a p.n p.w) (hn : p.n ≤ 100) : Calls Tryz.prog 62 #[pfV p a c] w0 (Tells (RightP p) w0) := by
 obtain ⟨amount, sig, token, n, f⟩ := p
 dsimp only at h hn
 have HS := Lib.hid h
 clear h
 have HQ : Hid (∀ t, Q w0 (w0.alloc (.cells #[.int .u64 amount, .string sig, .string token, .slice a n c] t))) := fun t => (Q.refl w0).alloc _
 have HB : Hid (∀ t, Box (w0.alloc (.cells #[.int .u64 amount, .string sig, .string token, .slice a n c] t)) w0.heap.size [.int .u64 amount, .string sig, .string token, .slice a n c]) := fun t => Box.new w0 _ t
 obtain ⟨PR, hPR⟩ : ∃ P : Prop, RightP ⟨amount, sig, token, n, f⟩ = P := ⟨_, rfl⟩
 have HP : Hid (PR ↔ sig.size ≤ 400 ∧ (token.size = 0 ∨ token.size = 16) ∧ n ≤ 3 ∧ ∀ i, i < n → WnR (f i)) := by show _ ↔ _; rw [← hPR]; exact Iff.rfl
 rw [hPR]
 clear hPR
 go_enter Tryz.func62, Tryz.ntmps62
 go_wp2_with fail
 have Q0 := Lib.hid (HQ.out 41)
 have B0 := Lib.hid (HB.out 41)
 generalize w0.alloc (.cells #[.int .u64 amount, .string sig, .string token, .slice a n c] 41) = wA at *
 generalize w0.heap.size = b0 at *
 clear HQ HB
 go_loopw [3] (fun i wr => ∃ k : Nat, k ≤ n ∧ i = .int .i64 k ∧ Hid (∀ j, j < k → WnR (f j)) ∧ Hid (Box wr b0 [.int .u64 amount, .string sig, .string token, .slice a n c]) ∧ Hid (Q w0 wr)) (fun i _ => n - (intOf i).toNat)
 case atStart => exact ⟨0, by omega, rfl, Lib.hid (fun j hj => by omega), B0, Q0⟩
 case round =>
  obtain ⟨k, hk, rfl, I, B, QR⟩ := hrel
  clear B0 Q0
  have k0 : (0 : Int) ≤ (k : Int) := by omega
  have m3 := B.out.at_ 3 _ rfl
  by_cases hlt : k < n
  · have k1 : (k : Int) < (n : Int) := by omega
    obtain ⟨b, off, rfl, hrow⟩ := (HS.out.q QR.out).some_ (by omega)
    have hrow := hrow k hlt
    have NI : Hid (¬ WnR (f k) → ¬ ∀ i, i < n → WnR (f i)) := fun hx ht => hx (ht k hlt)
    have IK : Hid (WnR (f k) → ∀ j, j < k + 1 → WnR (f j)) := fun hx j hj => by
     by_cases e : j = k
     · rw [e]; exact hx
     · exact I.out j (by omega)
    generalize f k = x at *
    go_wp2_with (with_reducible (show wpList _ _ _ (⟨_, Op.load 139 _, _, _, _, _⟩ :: _) _ _); refine halt ?_)
    refine Lib.hid (ld_row rfl 139 _ rfl b (off + k * 10) [.string x.chan, .int .u64 x.serial, .int .u64 x.face, .int .u64 x.wins, .int .u64 x.many, .string x.commit, .int .u64 x.client, .string x.sig] rfl (fun j v hv => hrow j v (by rcases j with _ | _ | _ | _ | _ | _ | _ | _ | j <;> first | exact hv | cases hv)) Tryz.underlying139 rfl (by kernel_rfl) ?_)
    go_wp2_with fail
    refine (d8may_x x _).mono ?_
    rintro e w1 ⟨rfl, q1⟩
    have m3' := (B.out.q q1).at_ 3 _ rfl
    have s8 := Q.cell' q1 (hrow 8 _ rfl)
    have B1 := Lib.hid (B.out.q q1)
    have Q1 := Lib.hid (QR.out.trans q1)
    clear q1 m3 hrow
    by_cases hT : TkR x
    · have d1 : decide (TkR x) = true := by simpa using hT
      rw [d1]
      by_cases hz : x.salt.size ≤ 32
      · have hz' : ¬ (32 : Int) < (x.salt.size : Int) := by omega
        have t3 : decide ((32 : Int) < (x.salt.size : Int)) = false := by simp; omega
        have I2 := Lib.hid (IK.out ⟨hT, hz⟩)
        clear I IK NI
        go_wp2_with fail
        go_roundw
        case rel => exact ⟨k + 1, by omega, by go_num, I2, B1, Q1⟩
        case measure => simp [intOf]; omega
      · have hz' : (32 : Int) < (x.salt.size : Int) := by omega
        have t3 : decide ((32 : Int) < (x.salt.size : Int)) = true := by simp; omega
        have NN := Lib.hid (NI.out (fun y => hz y.2))
        clear I IK NI
        go_wp2_with fail
        go_ret
        exact ⟨false, rfl, by simp only [Bool.false_eq_true, false_iff, HP.out]; rintro ⟨y1, y2, y3⟩; exact NN.out y3.2, Q1.out⟩
    · have d1 : decide (TkR x) = false := by simpa using hT
      rw [d1]
      have NN := Lib.hid (NI.out (fun y => hT y.1))
      clear I IK NI
      go_wp2_with fail
      go_ret
      exact ⟨false, rfl, by simp only [Bool.false_eq_true, false_iff, HP.out]; rintro ⟨y1, y2, y3⟩; exact NN.out y3.2, Q1.out⟩
  · obtain rfl : n = k := by omega
    have k1 : ¬ (n : Int) < (n : Int) := by omega
    have t3 : decide (n < n) = false := by simp
    have m1 := B.out.at_ 1 _ rfl
    have m2 := B.out.at_ 2 _ rfl
    have FI : Hid (∀ b : Bool, (b = true ↔ (sig.size ≤ 400 ∧ (token.size = 0 ∨ token.size = 16) ∧ n ≤ 3)) → Tells PR w0 (.returned (.bool b)) wr) := fun b hb =>
     ⟨b, rfl, hb.trans (Iff.trans ⟨fun ⟨x1, x2, x3⟩ => ⟨x1, x2, x3, I.out⟩, fun ⟨x1, x2, x3, _⟩ => ⟨x1, x2, x3⟩⟩ HP.out.symm), QR.out⟩
    clear I B QR HP
    go_wp2_with fail
    all_goals go_ret
    all_goals exact FI.out _ (by (try simp only [← ByteArray.size_eq_zero_iff, ByteArray.size_empty, decide_eq_true_eq, decide_eq_false_iff_not, beq_iff_eq, beq_eq_false_iff_ne, bne_iff_ne, bne_eq_false_iff_eq, ne_eq] at *); (try simp only [Bool.false_eq_true, true_iff, false_iff]); omega)
end Go.Proofs.YtobfgljkckcmcaaGreatDoor.Coi
