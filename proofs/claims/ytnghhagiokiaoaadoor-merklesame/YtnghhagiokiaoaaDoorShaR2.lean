/-
  The document's answer for layer 2: the walk of its step.
-/
import Derived.Test.YtnghhagiokiaoaaDoorShaR1
namespace Go.Proofs.YtnghhagiokiaoaaDoor.Sh
open Go.RowKit
open Mem
set_option linter.unusedVariables false

theorem cap_8 : ¬ 281474976710656 < Builtin.nextslicecap 8 0 * Tryd.t99.bytes := by decide +kernel
/-- The world behind 'append([]uint32{}, st...)'. -/
def WV (w1 : World) (st : Nat → Int) (C : Nat) : World := ((w1.alloc (.cells #[] 99)).alloc (.cells (#[.int .u32 (st 0), .int .u32 (st 1), .int .u32 (st 2), .int .u32 (st 3), .int .u32 (st 4), .int .u32 (st 5), .int .u32 (st 6), .int .u32 (st 7)] ++ Builtin.zeroCells #[.int .u32 0] C) 99)).drew
theorem WV_row (w : World) (f : Nat → Int) (C : Nat) : Row .u32 (WV w f C) (w.heap.size + 1) 0 8 f := by
  intro i hi
  show World.cell? ((w.alloc (.cells #[] 99)).alloc _) _ = _
  rw [World.cell?_alloc_at _ _ _ _ (by simp), Nat.zero_add, Array.getElem?_append_left (by simpa using hi)]
  match i, hi with
  | 0, _ => rfl
  | 1, _ => rfl
  | 2, _ => rfl
  | 3, _ => rfl
  | 4, _ => rfl
  | 5, _ => rfl
  | 6, _ => rfl
  | 7, _ => rfl
  | n + 8, h => omega
theorem WV_frozen (w : World) (f : Nat → Int) (C i : Nat) : (WV w f C).frozen? ⟨w.heap.size + 1, i, none⟩ = false := by
  show World.frozen? ((w.alloc (.cells #[] 99)).alloc _) _ = _
  rw [World.frozen?_alloc_at _ _ _ _ (by simp)]
theorem WV_q (w : World) (f : Nat → Int) (C : Nat) : Q w (WV w f C) := (((Q.refl w).alloc _).alloc _).drew
theorem WV_size (w : World) (f : Nat → Int) (C : Nat) : (WV w f C).heap.size = w.heap.size + 2 := by
  show ((w.alloc (.cells #[] 99)).alloc _).heap.size = _
  simp

/-- What holds while the state v is turned. -/
structure SI (W : World) (gs gk gw gv : Nat) (st kf wf v : Nat → Int) (wr : World) : Prop where
  rs : Row .u32 wr gs 0 8 st
  rk : Row .u32 wr gk 0 64 kf
  rw : Row .u32 wr gw 0 64 wf
  rv : Row .u32 wr gv 0 8 v
  fz : ∀ j, wr.frozen? ⟨gv, j, none⟩ = false
  lt : gv < wr.heap.size
  q : Q W wr
theorem SI.set {W : World} {gs gk gw gv : Nat} {st kf wf v : Nat → Int} {wr w2 : World} (h : SI W gs gk gw gv st kf wf v wr) (h1 : gs ≠ gv) (h2 : gk ≠ gv) (h3 : gw ≠ gv) (hz : W.heap.size ≤ gv) (x : Nat) (hx : x < 8) (u : Int) (hw : ∃ n, w2 = wr.drewN n) :
    SI W gs gk gw gv st kf wf (upd v x u) (w2.setCell ⟨gv, x, none⟩ (.int .u32 u)) := by
  obtain ⟨n, rfl⟩ := hw
  refine ⟨(h.rs.drewN n).other h1 _, (h.rk.drewN n).other h2 _, (h.rw.drewN n).other h3 _, (h.rv.drewN n).set x hx u, fun j => ?_, ?_, (h.q.drewN n).setCell hz _⟩
  · have := h.fz j
    simpa using this
  · have := h.lt
    simpa using this
theorem SI.congr {W : World} {gs gk gw gv : Nat} {st kf wf v v' : Nat → Int} {wr : World} (h : SI W gs gk gw gv st kf wf v wr) (e : ∀ i, i < 8 → v i = v' i) : SI W gs gk gw gv st kf wf v' wr :=
  ⟨h.rs, h.rk, h.rw, fun i hi => by rw [← e i hi]; exact h.rv i hi, h.fz, h.lt, h.q⟩
theorem SI.drewN {W : World} {gs gk gw gv : Nat} {st kf wf v : Nat → Int} {wr : World} (h : SI W gs gk gw gv st kf wf v wr) (n : Nat) : SI W gs gk gw gv st kf wf v (wr.drewN n) :=
  ⟨h.rs.drewN n, h.rk.drewN n, h.rw.drewN n, h.rv.drewN n, fun j => h.fz j, h.lt, h.q.drewN n⟩

/-- The state, moved by one from place m on. -/
def shf (V : Nat → Int) (m : Nat) : Nat → Int := fun j => if m < j then V (j - 1) else V j
theorem shf_step (V : Nat → Int) (m : Nat) (hm : 0 < m) (j : Nat) : upd (shf V m) m (V (m - 1)) j = shf V (m - 1) j := by
  unfold upd shf
  by_cases h : j = m
  · subst h; rw [if_pos rfl, if_pos (by omega)]
  · rw [if_neg h]
    by_cases h2 : m < j
    · rw [if_pos h2, if_pos (by omega)]
    · rw [if_neg h2, if_neg (by omega)]
theorem shf_end (k w : Nat → Int) (t : Nat) (V : Nat → Int) (j : Nat) : upd (upd (shf V 0) 4 (ad (V 3) (rp k w t V))) 0 (ad (rp k w t V) (rq V)) j = round k w t V j := by
  unfold upd shf round
  by_cases h0 : j = 0
  · rw [if_pos h0, if_pos h0]
  · rw [if_neg h0, if_neg h0]
    by_cases h4 : j = 4
    · rw [if_pos h4, if_pos h4]
    · rw [if_neg h4, if_neg h4, if_pos (by omega)]

def fin (V st : Nat → Int) (m : Nat) : Nat → Int := fun j => if j < m then ad (V j) (st j) else V j
theorem fin_step (V st : Nat → Int) (m j : Nat) : upd (fin V st m) m (ad (V m) (st m)) j = fin V st (m + 1) j := by
  unfold upd fin
  by_cases h : j = m
  · subst h; rw [if_pos rfl, if_pos (by omega)]
  · rw [if_neg h]
    by_cases h2 : j < m
    · rw [if_pos h2, if_pos (by omega)]
    · rw [if_neg h2, if_neg (by omega)]

set_option maxHeartbeats 4000000 in
set_option maxRecDepth 100000 in
theorem step_any {W : World} (gs cs gb off cb gk ck : Nat) (st b kf : Nat → Int) (w : World) (q : Q W w) (hs : Row .u32 w gs 0 8 st) (hb : Row .u8 w gb off 64 b) (hk : Row .u32 w gk 0 64 kf) (hB : Byts b)
    (wst : ∀ i, Wd (st i)) (wkf : ∀ i, Wd (kf i)) :
    Calls Tryd.prog 91 #[.slice (some ⟨gs, 0, none⟩) 8 cs, .slice (some ⟨gb, off, none⟩) 64 cb, .slice (some ⟨gk, 0, none⟩) 64 ck] w (OwnRow .u32 W (stepS kf st b) 8) := by
  have ls := hs.lt (by omega)
  have lb := hb.lt (by omega)
  have lk := hk.lt (by omega)
  have HS := Lib.hid hs
  have HK := Lib.hid hk
  have HWS := Lib.hid wst
  have HWK := Lib.hid wkf
  have hc := cap_8
  clear hs hk wst wkf
  go_enter Tryd.func91, Tryd.ntmps91
  go_wp2_with fail
  refine (words_any gb off cb b w (Q.refl w) hb hB lb).mono ?_
  rintro e w1 ⟨gw, cw, rfl, w1a, w1b, hrw, hfw, hgw, hlw, hq1⟩
  have hz1 := hq1.size
  have HS1 : Hid (Row .u32 w1 gs 0 8 st) := HS.out.q hq1 ls
  have HK1 : Hid (Row .u32 w1 gk 0 64 kf) := HK.out.q hq1 lk
  have HW1 := Lib.hid hrw
  have hlt1 : gs < w1.heap.size := by omega
  have d0 := HS1.out.at0 0 (by omega)
  have d1 := HS1.out.at0 1 (by omega)
  have d2 := HS1.out.at0 2 (by omega)
  have d3 := HS1.out.at0 3 (by omega)
  have d4 := HS1.out.at0 4 (by omega)
  have d5 := HS1.out.at0 5 (by omega)
  have d6 := HS1.out.at0 6 (by omega)
  have d7 := HS1.out.at0 7 (by omega)
  have HQ1 : Hid (Q W w1) := q.trans hq1
  have hWw := q.size
  clear hrw hfw HS HK hb hB q hq1
  go_wp2_with fail
  have hC1 : 8 ≤ (Question.appendCap 8 0 99).cut (w1.tape w1.drawn (Question.appendCap 8 0 99)) := grownCap_ge w1 8 0 99
  have hC2 : (Question.appendCap 8 0 99).cut (w1.tape w1.drawn (Question.appendCap 8 0 99)) ≤ maxLen := grownCap_le_maxLen w1 8 0 99 (by unfold maxLen; omega)
  generalize (Question.appendCap 8 0 99).cut (w1.tape w1.drawn (Question.appendCap 8 0 99)) = C at *
  have I0 : Hid (SI W gs gk gw (w1.heap.size + 1) st kf (wrow b 48) (rounds kf (wrow b 48) st 0) (WV w1 st (C - 8))) :=
    ⟨HS1.out.q (WV_q _ _ _) (by omega), HK1.out.q (WV_q _ _ _) (by omega), HW1.out.q (WV_q _ _ _) hlw, WV_row _ _ _, WV_frozen _ _ _, by rw [WV_size]; omega, HQ1.out.trans (WV_q _ _ _)⟩
  have eW : ((w1.alloc (Obj.cells #[] 99)).alloc (Obj.cells (#[Value.int IntKind.u32 (st 0), Value.int IntKind.u32 (st 1), Value.int IntKind.u32 (st 2), Value.int IntKind.u32 (st 3), Value.int IntKind.u32 (st 4), Value.int IntKind.u32 (st 5), Value.int IntKind.u32 (st 6), Value.int IntKind.u32 (st 7)] ++ Builtin.zeroCells #[Value.int IntKind.u32 0] (C - 8)) 99)).drew = WV w1 st (C - 8) := rfl
  rw [eW]
  have n1 : gs ≠ w1.heap.size + 1 := by omega
  have n2 : gk ≠ w1.heap.size + 1 := by omega
  have n3 : gw ≠ w1.heap.size + 1 := by omega
  have hz : W.heap.size ≤ w1.heap.size + 1 := by omega
  clear eW d0 d1 d2 d3 d4 d5 d6 d7 HS1 HK1 HW1 hc HQ1
  generalize WV w1 st (C - 8) = wv at *
  obtain ⟨gv, hgv⟩ : ∃ gv, w1.heap.size + 1 = gv := ⟨_, rfl⟩
  rw [hgv] at I0 n1 n2 n3 hz
  rw [hgv]
  clear hgv hWw hz1 hlw hlt1 ls lb lk hgw
  go_loopw [9] (fun i wr => ∃ t : Nat, t ≤ 64 ∧ i = .int .i64 t ∧ Hid (SI W gs gk gw gv st kf (wrow b 48) (rounds kf (wrow b 48) st t) wr)) (fun i _ => 64 - (intOf i).toNat)
  case atStart => exact ⟨0, by omega, rfl, I0⟩
  case round =>
    obtain ⟨t, ht, rfl, I⟩ := hrel
    clear I0
    by_cases hlt : t < 64
    · have t0 : (0 : Int) ≤ (t : Int) := by omega
      have t1 : (t : Int) < 64 := by omega
      have tt : decide ((t : Int) < 64) = true := by simp; omega
      have wV := rounds_wd kf (wrow b 48) st HWS.out t
      have HRV : Hid (rounds kf (wrow b 48) st (t + 1) = round kf (wrow b 48) t (rounds kf (wrow b 48) st t)) := rfl
      generalize rounds kf (wrow b 48) st t = V at *
      have e0 := I.out.rv.at0 0 (by omega)
      have e1 := I.out.rv.at0 1 (by omega)
      have e2 := I.out.rv.at0 2 (by omega)
      have e3 := I.out.rv.at0 3 (by omega)
      have e4 := I.out.rv.at0 4 (by omega)
      have e5 := I.out.rv.at0 5 (by omega)
      have e6 := I.out.rv.at0 6 (by omega)
      have e7 := I.out.rv.at0 7 (by omega)
      have ek := I.out.rk.at0 t hlt
      have ew := I.out.rw.at0 t hlt
      obtain ⟨a0, b0⟩ := wV 0
      obtain ⟨a4, b4⟩ := wV 4
      have HWV := Lib.hid wV
      clear wV
      have HP : Hid (rp kf (wrow b 48) t V = ad (ad (ad (ad (V 7) (S1 (V 4))) (ch (V 4) (V 5) (V 6))) (kf t)) (wrow b 48 t)) := rfl
      have HQ : Hid (rq V = ad (S0 (V 0)) (mj (V 0) (V 1) (V 2))) := rfl
      generalize V 0 = v0 at *
      generalize V 1 = v1 at *
      generalize V 2 = v2 at *
      generalize V 4 = v4 at *
      generalize V 5 = v5 at *
      generalize V 6 = v6 at *
      generalize V 7 = v7 at *
      generalize kf t = kt at *
      generalize wrow b 48 t = wt at *
      have r1 : bits BinOp.xor IntKind.u32 (bits BinOp.xor IntKind.u32 (rot v4 6) (rot v4 11)) (rot v4 25) = S1 v4 := rfl
      have r2 : bits BinOp.xor IntKind.u32 (bits BinOp.and IntKind.u32 v4 v5) (bits BinOp.and IntKind.u32 (4294967295 - v4) v6) = ch v4 v5 v6 := rfl
      generalize S1 v4 = z1 at *
      generalize ch v4 v5 v6 = zc at *
      have HP' : Hid (rp kf (wrow b 48) t V = ((v7 + z1 + zc + kt) % 4294967296 + wt) % 4294967296) := by
        show _ = _
        rw [HP.out]; unfold ad; simp only [IntKind.wrap_u32']; omega
      clear HP
      go_wp2_with fail
      go_quiet ((go_at_call 100; exact Calls.quiet_of (r_any _ _ _ a4 b4 (by omega) (by omega))))
      rename_i nq
      go_wp2_with fail
      have I2 := Lib.hid (I.out.drewN nq)
      have f0 : (wr.drewN nq).cell? ⟨gv, 0, none⟩ = some (.int .u32 v0) := e0
      have f1 : (wr.drewN nq).cell? ⟨gv, 1, none⟩ = some (.int .u32 v1) := e1
      have f2 : (wr.drewN nq).cell? ⟨gv, 2, none⟩ = some (.int .u32 v2) := e2
      have f3 : (wr.drewN nq).cell? ⟨gv, 3, none⟩ = some (.int .u32 (V 3)) := e3
      have p0 : 0 ≤ ((v7 + z1 + zc + kt) % 4294967296 + wt) % 4294967296 ∧ ((v7 + z1 + zc + kt) % 4294967296 + wt) % 4294967296 ≤ 4294967295 := by omega
      clear e0 e1 e2 e3 e4 e5 e6 e7 ek ew I r1 r2
      generalize wr.drewN nq = wr2 at *
      generalize ((v7 + z1 + zc + kt) % 4294967296 + wt) % 4294967296 = p at *
      have r3 : bits BinOp.xor IntKind.u32 (bits BinOp.xor IntKind.u32 (rot v0 2) (rot v0 13)) (rot v0 22) = S0 v0 := rfl
      have r4 : bits BinOp.xor IntKind.u32 (bits BinOp.xor IntKind.u32 (bits BinOp.and IntKind.u32 v0 v1) (bits BinOp.and IntKind.u32 v0 v2)) (bits BinOp.and IntKind.u32 v1 v2) = mj v0 v1 v2 := rfl
      generalize S0 v0 = z0 at *
      generalize mj v0 v1 v2 = zm at *
      have HQ' : Hid (rq V = (z0 + zm) % 4294967296) := by
        show _ = _
        rw [HQ.out]; unfold ad; simp only [IntKind.wrap_u32']
      clear HQ
      go_quiet ((go_at_call 100; exact Calls.quiet_of (r_any _ _ _ a0 b0 (by omega) (by omega))))
      go_wp2_with fail
      have I3 : Hid (SI W gs gk gw gv st kf (wrow b 48) (shf V 7) (wr2.drewN nq)) := (I2.out.drewN nq).congr fun j hj => by unfold shf; rw [if_neg (by omega)]
      have q0 : 0 ≤ (z0 + zm) % 4294967296 ∧ (z0 + zm) % 4294967296 ≤ 4294967295 := by omega
      clear f0 f1 f2 f3 r3 r4 I2
      generalize wr2.drewN nq = wr3 at *
      generalize (z0 + zm) % 4294967296 = qv at *
      go_loopw [12] (fun i wr => ∃ m : Nat, m ≤ 7 ∧ i = .int .i64 m ∧ Hid (SI W gs gk gw gv st kf (wrow b 48) (shf V m) wr)) (fun i _ => (intOf i).toNat)
      case atStart => exact ⟨7, by omega, rfl, I3⟩
      case round =>
        obtain ⟨m, hm, rfl, J⟩ := hrel
        clear I3
        by_cases hpos : 0 < m
        · have m0 : (0 : Int) < (m : Int) := by omega
          have m7 : (m : Int) ≤ 7 := by omega
          have c1 : wr.cell? ⟨gv, m - 1, none⟩ = some (.int .u32 (V (m - 1))) := by
            have := J.out.rv.at0 (m - 1) (by omega)
            unfold shf at this
            rwa [if_neg (by omega)] at this
          have c2 := J.out.rv.at0 m (by omega)
          have c3 := J.out.fz m
          have J2 : Hid (SI W gs gk gw gv st kf (wrow b 48) (shf V (m - 1)) (wr.setCell ⟨gv, m, none⟩ (.int .u32 (V (m - 1))))) := (J.out.set n1 n2 n3 hz m (by omega) _ ⟨0, rfl⟩).congr fun j _ => shf_step V m hpos j
          clear J
          generalize V (m - 1) = vm at *
          go_wp2_with fail
          exact ⟨⟨m - 1, by omega, by go_num, J2⟩, by simp [intOf]; omega⟩
        · obtain rfl : m = 0 := by omega
          have c4 : wr.cell? ⟨gv, 4, none⟩ = some (.int .u32 (V 3)) := J.out.rv.at0 4 (by omega)
          have c0 : wr.cell? ⟨gv, 0, none⟩ = some (.int .u32 (V 0)) := J.out.rv.at0 0 (by omega)
          have d4 := J.out.fz 4
          have d0 := J.out.fz 0
          have J2 := (J.out.set n1 n2 n3 hz 4 (by omega) (ad (V 3) (rp kf (wrow b 48) t V)) ⟨0, rfl⟩).set n1 n2 n3 hz 0 (by omega) (ad (rp kf (wrow b 48) t V) (rq V)) ⟨0, rfl⟩
          have J3 := J2.congr fun j _ => shf_end kf (wrow b 48) t V j
          rw [← HRV.out, HP'.out, HQ'.out] at J3
          have A1 : Hid (ad (V 3) p = (V 3 + p) % 4294967296) := by show _ = _; unfold ad; rw [IntKind.wrap_u32']
          have A2 : Hid (ad p qv = (p + qv) % 4294967296) := by show _ = _; unfold ad; rw [IntKind.wrap_u32']
          have H3 := Lib.hid J3
          clear J J2 J3
          generalize V 3 = v3 at *
          generalize V 0 = v00 at *
          go_wp2_with fail
          have H := H3.out
          rw [A1.out, A2.out] at H
          exact ⟨⟨t + 1, by omega, by go_num, H⟩, by simp [intOf]; omega⟩
    · obtain rfl : t = 64 := by omega
      have wV := Lib.hid (rounds_wd kf (wrow b 48) st HWS.out 64)
      have HF : Hid (stepS kf st b = fun i => ad (rounds kf (wrow b 48) st 64 i) (st i)) := rfl
      generalize rounds kf (wrow b 48) st 64 = V at *
      have I4 : Hid (SI W gs gk gw gv st kf (wrow b 48) (fin V st 0) wr) := I.out.congr fun j _ => by unfold fin; rw [if_neg (by omega)]
      have e64 : ((64 : Nat) : Int) = 64 := rfl
      rw [e64]
      clear I e64
      go_wp2_with fail
      go_loopw [13] (fun i wr => ∃ m : Nat, m ≤ 8 ∧ i = .int .i64 m ∧ Hid (SI W gs gk gw gv st kf (wrow b 48) (fin V st m) wr)) (fun i _ => 8 - (intOf i).toNat)
      case atStart => exact ⟨0, by omega, rfl, I4⟩
      case round =>
        obtain ⟨m, hm, rfl, J⟩ := hrel
        clear I4
        by_cases hlt' : m < 8
        · have m0 : (0 : Int) ≤ (m : Int) := by omega
          have m8 : (m : Int) < 8 := by omega
          have tm : decide ((m : Int) < 8) = true := by simp; omega
          have c1 : wr.cell? ⟨gv, m, none⟩ = some (.int .u32 (V m)) := by
            have := J.out.rv.at0 m hlt'
            unfold fin at this
            rwa [if_neg (by omega)] at this
          have c2 := J.out.rs.at0 m hlt'
          have c3 := J.out.fz m
          obtain ⟨b0, b1⟩ := wV.out m
          obtain ⟨b2, b3⟩ := HWS.out m
          have J2 : Hid (∀ w2, (∃ n, w2 = wr.drewN n) → SI W gs gk gw gv st kf (wrow b 48) (fin V st (m + 1)) (w2.setCell ⟨gv, m, none⟩ (.int .u32 (ad (V m) (st m))))) := fun w2 h => (J.out.set n1 n2 n3 hz m hlt' _ h).congr fun j _ => fin_step V st m j
          have A1 : Hid (ad (V m) (st m) = (V m + st m) % 4294967296) := by show _ = _; unfold ad; rw [IntKind.wrap_u32']
          clear J
          generalize V m = vm at *
          generalize st m = sm at *
          go_wp2_with fail
          go_region
          go_wp2_with fail
          have H := J2.out
          rw [A1.out] at H
          exact ⟨⟨m + 1, by omega, by go_num, H wr.drew ⟨1, rfl⟩⟩, by simp [intOf]; omega⟩
        · obtain rfl : m = 8 := by omega
          have R : Hid (Row .u32 wr gv 0 8 (stepS kf st b)) := by
            intro i hi
            rw [HF.out]
            have := J.out.rv i hi
            unfold fin at this
            rwa [if_pos hi] at this
          have HJ := J
          clear J HF
          go_wp2_with fail
          go_ret
          exact ⟨gv, C, rfl, hC1, hC2, R.out, HJ.out.fz, hz, HJ.out.lt, HJ.out.q⟩
end Go.Proofs.YtnghhagiokiaoaaDoor.Sh
