/-
  The program's layer 2: the walk of mixed.
-/
import Derived.Test.YtnghhagiokiaoaaDoorShaP1
import Derived.Test.YtnghhagiokiaoaaDoorShaR3
import Derived.Great.BuildSlice
namespace Go.Proofs.YtnghhagiokiaoaaDoor.Sh
open Go.RowKit
open Mem
set_option linter.unusedVariables false

/-- The package's tables, as they are laid. -/
structure GL (w : World) : Prop where
  i0 : Row .u32 w 0 0 8 I0
  k : Row .u32 w 1 0 64 K
theorem GL.q {W w : World} (h : GL W) (q : Q W w) : GL w := ⟨h.i0.q q (h.i0.lt (by omega)), h.k.q q (h.k.lt (by omega))⟩
theorem GL.lt {W : World} (h : GL W) : 1 < W.heap.size := h.k.lt (by omega)

theorem right_q (x n : Int) (w : World) (h0 : 0 ≤ x) (h1 : x ≤ 4294967295) (n0 : 1 ≤ n) (n1 : n ≤ 31) :
    Calls Tryd.prog 101 #[.int .u32 x, .int .i64 n] w fun e w' => e = .returned (.int .u32 (rot x n)) ∧ ∃ m, w' = w.drewN m :=
  (right_any x n w h0 h1 n0 n1).mono fun e w' ⟨he, hw⟩ => ⟨he, 0, by rw [hw]; rfl⟩

theorem al8 (w : World) : (Instr.alloc 104 true (.tuple #[])).run Tryd.prog w = .ok (.pointer (some ⟨w.heap.size, 0, none⟩)) (w.alloc (.cells (Array.replicate 8 (.int .u32 0)) 104)) := by kernel_rfl
theorem info8 : (Tryd.prog.info? 104).map (·.size) = some 8 := by kernel_rfl
theorem load8 {w : World} {g o : Nat} {f : Nat → Int} (h : Row .u32 w g o 8 f) : (loadVar 104 ⟨g, o, none⟩).run Tryd.prog w = .ok (.agg (cl .u32 8 f).toArray) w :=
  run_loadVar_mid w g o 104 (cl .u32 8 f) _ h.range Tryd.underlying104 rfl (by rw [cl_len]; exact info8)
set_option maxRecDepth 100000 in
theorem idx8 (w : World) (V : Nat → Int) (k : Nat) (hk : k < 8) : (Instr.index 104 (.agg (cl .u32 8 V).toArray) (.int .i64 k)).run Tryd.prog w = .ok (.int .u32 (V k)) w := by
  match k, hk with
  | 0, _ | 1, _ | 2, _ | 3, _ | 4, _ | 5, _ | 6, _ | 7, _ => rfl

theorem xor_max (x : Int) (h0 : 0 ≤ x) (h1 : x ≤ 4294967295) : bits BinOp.xor IntKind.u32 IntKind.u32.max x = 4294967295 - x := by
  obtain ⟨n, rfl⟩ := Int.eq_ofNat_of_zero_le h0
  show IntKind.u32.wrap (((BitVec.ofInt 32 4294967295 ^^^ BitVec.ofInt 32 (n : Int)).toNat : Nat) : Int) = _
  have e : BitVec.ofInt 32 4294967295 = BitVec.allOnes 32 := by decide
  have e2 : (BitVec.ofInt 32 (n : Int)).toNat = n := by rw [BitVec.ofInt_natCast, BitVec.toNat_ofNat]; omega
  rw [e, BitVec.allOnes_xor, BitVec.toNat_not, e2, IntKind.wrap_u32']
  omega
/-- What stands in memory while a state is mixed. -/
structure MI (W : World) (g gw gr : Nat) (st wf : Nat → Int) (wr : World) : Prop where
  rs : Row .u32 wr g 0 8 st
  rw : Row .u32 wr gw 0 64 wf
  rk : Row .u32 wr 1 0 64 K
  fz : ∀ j, wr.frozen? ⟨g, j, none⟩ = false
  th : wr.there gr 0 8
  q : Q W wr
theorem MI.drewN {W : World} {g gw gr : Nat} {st wf : Nat → Int} {wr : World} (h : MI W g gw gr st wf wr) (n : Nat) : MI W g gw gr st wf (wr.drewN n) :=
  ⟨h.rs.drewN n, h.rw.drewN n, h.rk.drewN n, fun j => h.fz j, there_drewN h.th n, h.q.drewN n⟩
theorem MI.set {W : World} {g gw gr : Nat} {st wf : Nat → Int} {wr : World} (h : MI W g gw gr st wf wr) (h1 : gw ≠ g) (h2 : 1 ≠ g) (hz : W.heap.size ≤ g) (x : Nat) (hx : x < 8) (u : Int) :
    MI W g gw gr (upd st x u) wf (wr.setCell ⟨g, x, none⟩ (.int .u32 u)) := by
  refine ⟨h.rs.set x hx u, h.rw.other h1 _, h.rk.other h2 _, fun j => ?_, there_setCell h.th _ _ _, h.q.setCell hz _⟩
  have := h.fz j
  simpa using this
/-- The first m places of a state, each with a word added. -/
def mx (V st : Nat → Int) (m : Nat) : Nat → Int := fun j => if j < m then ad (V j) (st j) else st j
theorem mx_step (V st : Nat → Int) (m j : Nat) : upd (mx V st m) m (ad (V m) (st m)) j = mx V st (m + 1) j := by
  unfold upd mx
  by_cases h : j = m
  · subst h; rw [if_pos rfl, if_pos (by omega)]
  · rw [if_neg h]
    by_cases h2 : j < m
    · rw [if_pos h2, if_pos (by omega)]
    · rw [if_neg h2, if_neg (by omega)]

theorem round_vals (k wf st : Nat → Int) (t : Nat) (v0 v1 v2 v3 v4 v5 v6 v7 kt wt : Int) (hk : k t = kt) (hw : wf t = wt)
    (h : v0 = rounds k wf st t 0 ∧ v1 = rounds k wf st t 1 ∧ v2 = rounds k wf st t 2 ∧ v3 = rounds k wf st t 3)
    (h2 : v4 = rounds k wf st t 4 ∧ v5 = rounds k wf st t 5 ∧ v6 = rounds k wf st t 6 ∧ v7 = rounds k wf st t 7) :
    (((v7 + S1 v4 + ch v4 v5 v6 + kt + wt) % 4294967296 + (S0 v0 + mj v0 v1 v2) % 4294967296) % 4294967296 = rounds k wf st (t + 1) 0 ∧ v0 = rounds k wf st (t + 1) 1 ∧ v1 = rounds k wf st (t + 1) 2 ∧ v2 = rounds k wf st (t + 1) 3) ∧
    (v3 + (v7 + S1 v4 + ch v4 v5 v6 + kt + wt) % 4294967296) % 4294967296 = rounds k wf st (t + 1) 4 ∧ v4 = rounds k wf st (t + 1) 5 ∧ v5 = rounds k wf st (t + 1) 6 ∧ v6 = rounds k wf st (t + 1) 7 := by
  obtain ⟨h0, h1, h2', h3⟩ := h
  obtain ⟨h4, h5, h6, h7⟩ := h2
  have hp : rp k wf t (rounds k wf st t) = (v7 + S1 v4 + ch v4 v5 v6 + kt + wt) % 4294967296 := by
    unfold rp
    rw [← h7, ← h4, ← h5, ← h6, hk, hw]
    unfold ad
    simp only [IntKind.wrap_u32']
    omega
  have hq : rq (rounds k wf st t) = (S0 v0 + mj v0 v1 v2) % 4294967296 := by
    unfold rq
    rw [← h0, ← h1, ← h2']
    unfold ad
    simp only [IntKind.wrap_u32']
  refine ⟨⟨?_, h0, h1, h2'⟩, ?_, h4, h5, h6⟩
  · show _ = ad (rp k wf t (rounds k wf st t)) (rq (rounds k wf st t))
    rw [hp, hq]; unfold ad; rw [IntKind.wrap_u32']
  · show _ = ad (rounds k wf st t 3) (rp k wf t (rounds k wf st t))
    rw [hp, ← h3]; unfold ad; rw [IntKind.wrap_u32']

theorem built8 (v0 v1 v2 v3 v4 v5 v6 v7 : Int) : Tryd.prog.built 104 [(0, .int .u32 v0), (1, .int .u32 v1), (2, .int .u32 v2), (3, .int .u32 v3), (4, .int .u32 v4), (5, .int .u32 v5), (6, .int .u32 v6), (7, .int .u32 v7)] = some #[.int .u32 v0, .int .u32 v1, .int .u32 v2, .int .u32 v3, .int .u32 v4, .int .u32 v5, .int .u32 v6, .int .u32 v7] := by kernel_rfl
theorem wpList_build8 {ops : Array Oper} {rest : List Oper} {o : Oper} {a : Act} {w : World} {Q : Exit → Act → World → Prop} (hg : o.guard = none) (n0 n1 n2 n3 n4 n5 n6 n7 : Nat)
    (ho : o.op = .build 104 #[(0, .tmp n0), (1, .tmp n1), (2, .tmp n2), (3, .tmp n3), (4, .tmp n4), (5, .tmp n5), (6, .tmp n6), (7, .tmp n7)]) (v0 v1 v2 v3 v4 v5 v6 v7 : Int) (h0 : a.eval (.tmp n0) = .int .u32 v0) (h1 : a.eval (.tmp n1) = .int .u32 v1) (h2 : a.eval (.tmp n2) = .int .u32 v2) (h3 : a.eval (.tmp n3) = .int .u32 v3) (h4 : a.eval (.tmp n4) = .int .u32 v4) (h5 : a.eval (.tmp n5) = .int .u32 v5) (h6 : a.eval (.tmp n6) = .int .u32 v6) (h7 : a.eval (.tmp n7) = .int .u32 v7)
    (C : Array Value) (hC : #[.int .u32 v0, .int .u32 v1, .int .u32 v2, .int .u32 v3, .int .u32 v4, .int .u32 v5, .int .u32 v6, .int .u32 v7] = C) (h : wpList Tryd.prog ops Q rest (a.put o.dst (.agg C)) w) : wpList Tryd.prog ops Q (o :: rest) a w := by
  refine wpList_buildTo hg 104 _ ho _ rfl C ?_ h
  simp only [List.map_toArray, List.map_cons, List.map_nil, h0, h1, h2, h3, h4, h5, h6, h7, ← hC]
  exact built8 v0 v1 v2 v3 v4 v5 v6 v7
/-- A state behind 64 rounds with the words wf. -/
def mixS (wf st : Nat → Int) : Nat → Int := fun i => ad (rounds K wf st 64 i) (st i)

set_option maxHeartbeats 2000000 in
set_option maxRecDepth 100000 in
theorem mixed_any {W : World} (st wf : Nat → Int) (w : World) (q : Q W w) (hG : GL W) (wst : ∀ i, Wd (st i)) (wwf : ∀ i, Wd (wf i)) :
    Calls Tryd.prog 92 #[arr .u32 8 st, arr .u32 64 wf] w fun e w' => e = .returned (arr .u32 8 (mixS wf st)) ∧ Q W w' := by
  have hmk := al8
  have hz := q.size
  have hG1 := hG.lt
  have I0 : Hid (∀ t0 t1 t2, MI W w.heap.size (w.heap.size + 1) (w.heap.size + 2) st wf (((w.alloc (.cells (cl .u32 8 st).toArray t0)).alloc (.cells (cl .u32 64 wf).toArray t1)).alloc (.cells (Array.replicate 8 (.int .u32 0)) t2))) := by
    intro t0 t1 t2
    have s1 : (w.alloc (.cells (cl .u32 8 st).toArray t0)).heap.size = w.heap.size + 1 := by simp
    have s2 : ((w.alloc (.cells (cl .u32 8 st).toArray t0)).alloc (.cells (cl .u32 64 wf).toArray t1)).heap.size = w.heap.size + 2 := by simp
    have r0 := Row.boxed .u32 w 8 st t0
    have f0 := made_frozen w (cl .u32 8 st).toArray t0
    have r1 := Row.boxed .u32 (w.alloc (.cells (cl .u32 8 st).toArray t0)) 64 wf t1
    have th := Row.there0 (w := (w.alloc (.cells (cl .u32 8 st).toArray t0)).alloc (.cells (cl .u32 64 wf).toArray t1)) (n := 8) (v := .int .u32 0) (t := t2)
    rw [s1] at r1
    rw [s2] at th
    have q3 : Q W (((w.alloc (.cells (cl .u32 8 st).toArray t0)).alloc (.cells (cl .u32 64 wf).toArray t1)).alloc (.cells (Array.replicate 8 (.int .u32 0)) t2)) := ((q.alloc _).alloc _).alloc _
    refine ⟨(r0.q ((Q.refl _).alloc _) (by omega)).q ((Q.refl _).alloc _) (by omega), r1.q ((Q.refl _).alloc _) (by omega), (hG.q q3).k, fun j => ?_, th, q3⟩
    rw [Q.frozen ((Q.refl _).alloc _) (by show w.heap.size < _; omega), Q.frozen ((Q.refl _).alloc _) (by show w.heap.size < _; omega)]
    exact f0 j
  have HWS := Lib.hid wst
  have HWW := Lib.hid wwf
  clear q hG wst wwf
  unfold arr
  generalize (cl .u32 8 st).toArray = A at *
  generalize (cl .u32 64 wf).toArray = B at *
  go_enter Tryd.func92, Tryd.ntmps92
  go_wp2_with fail
  have I1 : Hid (MI W w.heap.size (w.heap.size + 1) (w.heap.size + 2) st wf (((w.alloc (Obj.cells A 104)).alloc (Obj.cells B 109)).alloc (Obj.cells #[Value.int IntKind.u32 0, Value.int IntKind.u32 0, Value.int IntKind.u32 0, Value.int IntKind.u32 0, Value.int IntKind.u32 0, Value.int IntKind.u32 0, Value.int IntKind.u32 0, Value.int IntKind.u32 0] 104))) := I0.out 104 109 104
  clear hmk I0
  generalize h3 : ((w.alloc (Obj.cells A 104)).alloc (Obj.cells B 109)).alloc (Obj.cells #[Value.int IntKind.u32 0, Value.int IntKind.u32 0, Value.int IntKind.u32 0, Value.int IntKind.u32 0, Value.int IntKind.u32 0, Value.int IntKind.u32 0, Value.int IntKind.u32 0, Value.int IntKind.u32 0] 104) = w3
  rw [h3] at I1
  clear h3
  have hz0 : W.heap.size ≤ w.heap.size := by omega
  have hz2 : W.heap.size ≤ w.heap.size + 2 := by omega
  have hn1 : w.heap.size + 1 ≠ w.heap.size := by omega
  have hn2 : 1 ≠ w.heap.size := by omega
  have d0 := I1.out.rs.at0 0 (by omega)
  have d1 := I1.out.rs.at0 1 (by omega)
  have d2 := I1.out.rs.at0 2 (by omega)
  have d3 := I1.out.rs.at0 3 (by omega)
  have I2 : Hid (MI W w.heap.size (w.heap.size + 1) (w.heap.size + 2) st wf w3.drew) := I1.out.drewN 1
  have d4 := I2.out.rs.at0 4 (by omega)
  have d5 := I2.out.rs.at0 5 (by omega)
  have d6 := I2.out.rs.at0 6 (by omega)
  have d7 := I2.out.rs.at0 7 (by omega)
  have I3 : Hid (MI W w.heap.size (w.heap.size + 1) (w.heap.size + 2) st wf w3.drew.drew) := I2.out.drewN 1
  clear I1 I2
  as_aux_lemma =>
  go_region
  go_wp2_with fail
  as_aux_lemma =>
  go_region
  clear d0 d1 d2 d3 d4 d5 d6 d7
  as_aux_lemma =>
  go_wp2_with fail
  go_loopw [5, 6, 7, 8, 9, 10, 11, 12, 34] (fun s0 s1 s2 s3 s4 s5 s6 s7 i wr => ∃ (t : Nat) (v0 v1 v2 v3 v4 v5 v6 v7 : Int), t ≤ 64 ∧ s0 = .int .u32 v0 ∧ s1 = .int .u32 v1 ∧ s2 = .int .u32 v2 ∧ s3 = .int .u32 v3 ∧ s4 = .int .u32 v4 ∧ s5 = .int .u32 v5 ∧ s6 = .int .u32 v6 ∧ s7 = .int .u32 v7 ∧ i = .int .i64 t ∧ Hid (MI W w.heap.size (w.heap.size + 1) (w.heap.size + 2) st wf wr ∧ (v0 = rounds K wf st t 0 ∧ v1 = rounds K wf st t 1 ∧ v2 = rounds K wf st t 2 ∧ v3 = rounds K wf st t 3) ∧ v4 = rounds K wf st t 4 ∧ v5 = rounds K wf st t 5 ∧ v6 = rounds K wf st t 6 ∧ v7 = rounds K wf st t 7)) (fun _ _ _ _ _ _ _ _ i _ => 64 - (intOf i).toNat)
  case atStart => exact ⟨0, _, _, _, _, _, _, _, _, by omega, rfl, rfl, rfl, rfl, rfl, rfl, rfl, rfl, rfl, I3.out, ⟨rfl, rfl, rfl, rfl⟩, rfl, rfl, rfl, rfl⟩
  case round =>
    obtain ⟨t, v0, v1, v2, v3, v4, v5, v6, v7, ht, rfl, rfl, rfl, rfl, rfl, rfl, rfl, rfl, rfl, I⟩ := hrel
    clear I3
    as_aux_lemma =>
    by_cases hlt : t < 64
    · have t0 : (0 : Int) ≤ (t : Int) := by omega
      have t1 : (t : Int) < 64 := by omega
      have tt : decide ((t : Int) < 64) = true := by simp; omega
      obtain ⟨kt, hkt⟩ : ∃ kt, K t = kt := ⟨_, rfl⟩
      obtain ⟨wt, hwt⟩ : ∃ wt, wf t = wt := ⟨_, rfl⟩
      have ek := I.out.1.rk.at0 t hlt
      have ew := I.out.1.rw.at0 t hlt
      rw [hkt] at ek
      rw [hwt] at ew
      have HF := Lib.hid <| round_vals K wf st t v0 v1 v2 v3 v4 v5 v6 v7 kt wt hkt hwt I.out.2.1 I.out.2.2
      obtain ⟨⟨a0, b0⟩, a4, b4⟩ : Wd v0 ∧ Wd v4 := by
        have wV := rounds_wd K wf st HWS.out t
        rw [I.out.2.1.1, I.out.2.2.1]
        exact ⟨wV 0, wV 4⟩
      have HI := Lib.hid I.out.1
      clear hkt hwt I
      have HX : Hid (bits BinOp.xor IntKind.u32 (bits BinOp.and IntKind.u32 v4 v5) (bits BinOp.and IntKind.u32 (bits BinOp.xor IntKind.u32 (if IntKind.u32.signed = true then -1 else IntKind.u32.max) v4) v6) = ch v4 v5 v6) := by
        show bits BinOp.xor IntKind.u32 (bits BinOp.and IntKind.u32 v4 v5) (bits BinOp.and IntKind.u32 (bits BinOp.xor IntKind.u32 IntKind.u32.max v4) v6) = ch v4 v5 v6
        rw [xor_max v4 a4 b4]; rfl
      have HF2 := HF.out
      rw [← HX.out] at HF2
      have HF := Lib.hid HF2
      clear HF2 HX
      have r1 : bits BinOp.xor IntKind.u32 (bits BinOp.xor IntKind.u32 (rot v4 6) (rot v4 11)) (rot v4 25) = S1 v4 := rfl
      have r3 : bits BinOp.xor IntKind.u32 (bits BinOp.xor IntKind.u32 (rot v0 2) (rot v0 13)) (rot v0 22) = S0 v0 := rfl
      have r4 : bits BinOp.xor IntKind.u32 (bits BinOp.xor IntKind.u32 (bits BinOp.and IntKind.u32 v0 v1) (bits BinOp.and IntKind.u32 v0 v2)) (bits BinOp.and IntKind.u32 v1 v2) = mj v0 v1 v2 := rfl
      as_aux_lemma =>
      go_wp2_with fail
      go_quiet ((go_at_call 101; exact Calls.quiet_of (right_q _ _ _ a4 b4 (by omega) (by omega))))
      rename_i nq
      clear ek ew r1
      as_aux_lemma =>
      go_wp2_with (go_at_call 101; refine (right_any _ _ _ a0 b0 (by omega) (by omega)).mono ?_; rintro e w' ⟨rfl, rfl⟩)
      exact ⟨⟨t + 1, _, _, _, _, _, _, _, _, by omega, rfl, rfl, rfl, rfl, rfl, rfl, rfl, rfl, by go_num, HI.out.drewN nq, HF.out⟩, by simp [intOf]; omega⟩
    · have ht64 : Hid (t = 64) := by show _ = _; omega
      have t0 : ¬ ((t : Int) < 64) := by omega
      have tt : decide ((t : Int) < 64) = false := by simp; omega
      obtain ⟨V, hV⟩ : ∃ V, rounds K wf st t = V := ⟨_, rfl⟩
      have eA : #[Value.int IntKind.u32 v0, Value.int IntKind.u32 v1, Value.int IntKind.u32 v2, Value.int IntKind.u32 v3, Value.int IntKind.u32 v4, Value.int IntKind.u32 v5, Value.int IntKind.u32 v6, Value.int IntKind.u32 v7] = (cl .u32 8 V).toArray := by
        obtain ⟨_, ⟨rfl, rfl, rfl, rfl⟩, rfl, rfl, rfl, rfl⟩ := I.out
        rw [hV]; rfl
      have HX := Lib.hid (fun w => idx8 w V)
      have J0 : Hid (MI W w.heap.size (w.heap.size + 1) (w.heap.size + 2) (mx V st 0) wf wr) := I.out.1
      have HV : Hid (∀ i, i < 8 → ad (V i) (st i) = mixS wf st i) := by
        intro i _
        unfold mixS
        rw [← hV, ht64.out]
      clear I hV ht64
      as_aux_lemma =>
      go_wp2_with (refine wpList_build8 rfl _ _ _ _ _ _ _ _ rfl v0 v1 v2 v3 v4 v5 v6 v7 rfl rfl rfl rfl rfl rfl rfl rfl (cl .u32 8 V).toArray eA ?_)
      clear eA
      go_loopw [106] (fun i wr => ∃ m : Nat, m ≤ 8 ∧ i = .int .i64 m ∧ Hid (MI W w.heap.size (w.heap.size + 1) (w.heap.size + 2) (mx V st m) wf wr)) (fun i _ => 8 - (intOf i).toNat)
      case atStart => exact ⟨0, by omega, rfl, J0⟩
      case round =>
        obtain ⟨m, hm, rfl, J⟩ := hrel
        clear J0
        as_aux_lemma =>
        by_cases hl2 : m < 8
        · have m0 : (0 : Int) ≤ (m : Int) := by omega
          have m1 : (m : Int) < 8 := by omega
          have tm : decide ((m : Int) < 8) = true := by simp; omega
          have hx := HX.out wr m hl2
          have cm : wr.cell? ⟨w.heap.size, m, none⟩ = some (.int .u32 (st m)) := by
            have := J.out.rs.at0 m hl2
            rwa [show mx V st m m = st m by unfold mx; rw [if_neg (by omega)]] at this
          have fm := J.out.fz m
          have J2 := Lib.hid (J.out.set hn1 hn2 hz0 m hl2 (ad (V m) (st m)))
          have e : Hid ((st m + V m) % 4294967296 = ad (V m) (st m)) := by show _ = _; unfold ad; rw [IntKind.wrap_u32']; omega
          clear J
          go_wp2_with fail
          rw [e.out]
          refine ⟨⟨m + 1, by omega, by go_num, ?_⟩, by simp [intOf]; omega⟩
          have J3 := J2.out
          rw [show upd (mx V st m) m (ad (V m) (st m)) = mx V st (m + 1) from funext fun j => mx_step V st m j] at J3
          exact J3
        · obtain rfl : m = 8 := by omega
          have HR := Lib.hid J.out.rs.range
          have HT : Hid (wr.there (w.heap.size + 1 + 1) 0 8) := J.out.th
          have HL := Lib.hid (load8 (Row.stored (k := .u32) (f := mx V st 8) HT.out))
          have HQ := Lib.hid (Q.setCells J.out.q (show W.heap.size ≤ w.heap.size + 1 + 1 from hz2) 0 (cl .u32 8 (mx V st 8)))
          have HC := Lib.hid (cl_len .u32 8 (mx V st 8))
          have HO := Lib.hid (cl_one .u32 8 (mx V st 8))
          have HE : Hid (cl .u32 8 (mx V st 8) = cl .u32 8 (mixS wf st)) := by
            show _ = _
            refine cl_congr _ _ fun i hi => ?_
            unfold mx
            rw [if_pos hi, HV.out i hi]
          clear J HX
          generalize hC : cl .u32 8 (mx V st 8) = C at *
          have HT2 : Hid (wr.there (w.heap.size + 1 + 1) 0 C.toArray.size) := by show wr.there (w.heap.size + 1 + 1) 0 C.length; rw [HC.out]; exact HT.out
          have HI2 : Hid ((Tryd.prog.info? 104).map (·.size) = some C.toArray.size) := by show _ = some C.length; rw [HC.out]; exact info8
          have HI3 : Hid ((Tryd.prog.info? 104).map (·.size) = some C.length) := by rw [HC.out]; exact info8
          go_wp2_with (with_reducible (show wpList _ _ _ (⟨_, Op.load 104 _, _, _, _, _⟩ :: _) _ _); refine wpList_load_mid rfl 104 _ rfl w.heap.size 0 rfl C _ HR.out Tryd.underlying104 rfl HI3.out ?_; refine wpList_store_mid rfl 104 _ _ rfl (w.heap.size + 1 + 1) 0 C.toArray rfl rfl HT2.out HI2.out HO.out ?_)
          try simp only [Exit.inBlock, Exit.then]
          refine bodyPost_ret (v := Value.agg C.toArray) ?_ ?_ ?_
          · exact results_cell rfl rfl HL.out
          · rfl
          · exact ⟨by rw [HE.out], HQ.out⟩
end Go.Proofs.YtnghhagiokiaoaaDoor.Sh
