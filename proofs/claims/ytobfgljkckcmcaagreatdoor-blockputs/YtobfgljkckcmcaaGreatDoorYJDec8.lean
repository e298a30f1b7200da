import Derived.Test.YtobfgljkckcmcaaGreatDoorYJDec4
import Derived.Test.YtobfgljkckcmcaaGreatDoorYJDec5
set_option maxRecDepth 100000
namespace Go.Proofs.YtobfgljkckcmcaaGreatDoor.Coi
open Go.RowKit
open Mem Num Cod Plan
set_option linter.unusedVariables false
set_option linter.unusedSimpArgs false
theorem built_dtk (v0 : ByteArray) (v1 v2 v3 v4 : Int) (v5 : ByteArray) (v6 : Int) (v7 : ByteArray) : Tryz.prog.built 139 [(0, .string v0), (1, .int .u64 v1), (2, .int .u64 v2), (3, .int .u64 v3), (4, .int .u64 v4), (5, .string v5), (6, .int .u64 v6), (7, .string v7)] = some #[.string v0, .int .u64 v1, .int .u64 v2, .int .u64 v3, .int .u64 v4, .string v5, .int .u64 v6, .string v7] := by kernel_rfl
theorem wpl_dtk {ops : Array Oper} {rest : List Oper} {o : Oper} {a : Act} {w : World} {Q : Exit → Act → World → Prop} (hg : o.guard = none) {n0 n1 n2 n3 n4 n5 n6 n7 : Nat} (v0 : ByteArray) (v1 v2 v3 v4 : Int) (v5 : ByteArray) (v6 : Int) (v7 : ByteArray) (ho : o.op = .build 139 #[(0, .tmp n0), (1, .tmp n1), (2, .tmp n2), (3, .tmp n3), (4, .tmp n4), (5, .tmp n5), (6, .tmp n6), (7, .tmp n7)]) (d : Option Tmp) (hd : o.dst = d) (h0 : a.eval (.tmp n0) = .string v0) (h1 : a.eval (.tmp n1) = .int .u64 v1) (h2 : a.eval (.tmp n2) = .int .u64 v2) (h3 : a.eval (.tmp n3) = .int .u64 v3) (h4 : a.eval (.tmp n4) = .int .u64 v4) (h5 : a.eval (.tmp n5) = .string v5) (h6 : a.eval (.tmp n6) = .int .u64 v6) (h7 : a.eval (.tmp n7) = .string v7) (h : wpList Tryz.prog ops Q rest (a.put d (.agg #[.string v0, .int .u64 v1, .int .u64 v2, .int .u64 v3, .int .u64 v4, .string v5, .int .u64 v6, .string v7])) w) : wpList Tryz.prog ops Q (o :: rest) a w := by
 refine wpList_buildTo hg 139 _ ho d hd _ ?_ h
 simp only [List.map_toArray, List.map_cons, List.map_nil, h0, h1, h2, h3, h4, h5, h6, h7]
 exact built_dtk v0 v1 v2 v3 v4 v5 v6 v7
theorem built_dou (v0 v1 : Int) (v2 v3 : ByteArray) (v4 : Int) (v5 : ByteArray) (v6 v7 : Int) (v8 : ByteArray) : Tryz.prog.built 49 [(0, .int .i64 v0), (1, .int .u64 v1), (2, .string v2), (3, .string v3), (4, .int .i64 v4), (5, .string v5), (6, .int .u64 v6), (7, .int .i64 v7), (8, .string v8)] = some #[.int .i64 v0, .int .u64 v1, .string v2, .string v3, .int .i64 v4, .string v5, .int .u64 v6, .int .i64 v7, .string v8] := by kernel_rfl
theorem wpl_dou {ops : Array Oper} {rest : List Oper} {o : Oper} {a : Act} {w : World} {Q : Exit → Act → World → Prop} (hg : o.guard = none) {n0 n1 n2 n3 n4 n5 n6 n7 n8 : Nat} (v0 v1 : Int) (v2 v3 : ByteArray) (v4 : Int) (v5 : ByteArray) (v6 v7 : Int) (v8 : ByteArray) (ho : o.op = .build 49 #[(0, .tmp n0), (1, .tmp n1), (2, .tmp n2), (3, .tmp n3), (4, .tmp n4), (5, .tmp n5), (6, .tmp n6), (7, .tmp n7), (8, .tmp n8)]) (d : Option Tmp) (hd : o.dst = d) (h0 : a.eval (.tmp n0) = .int .i64 v0) (h1 : a.eval (.tmp n1) = .int .u64 v1) (h2 : a.eval (.tmp n2) = .string v2) (h3 : a.eval (.tmp n3) = .string v3) (h4 : a.eval (.tmp n4) = .int .i64 v4) (h5 : a.eval (.tmp n5) = .string v5) (h6 : a.eval (.tmp n6) = .int .u64 v6) (h7 : a.eval (.tmp n7) = .int .i64 v7) (h8 : a.eval (.tmp n8) = .string v8) (h : wpList Tryz.prog ops Q rest (a.put d (.agg #[.int .i64 v0, .int .u64 v1, .string v2, .string v3, .int .i64 v4, .string v5, .int .u64 v6, .int .i64 v7, .string v8])) w) : wpList Tryz.prog ops Q (o :: rest) a w := by
 refine wpList_buildTo hg 49 _ ho d hd _ ?_ h
 simp only [List.map_toArray, List.map_cons, List.map_nil, h0, h1, h2, h3, h4, h5, h6, h7, h8]
 exact built_dou v0 v1 v2 v3 v4 v5 v6 v7 v8
theorem zeroDT (w : World) : (zeroValue 139).run Tryz.prog w = .ok (.agg #[.string ⟨#[]⟩, .int .u64 0, .int .u64 0, .int .u64 0, .int .u64 0, .string ⟨#[]⟩, .int .u64 0, .string ⟨#[]⟩]) w := by
 have h : (Tryz.prog.info? 139).bind (·.zero) = some (.agg #[.string ⟨#[]⟩, .int .u64 0, .int .u64 0, .int .u64 0, .int .u64 0, .string ⟨#[]⟩, .int .u64 0, .string ⟨#[]⟩]) := by kernel_rfl
 cases hi : Tryz.prog.info? 139 with
 | none => rw [hi] at h; cases h
 | some i => rw [hi] at h; simp [zeroValue, typeInfo, hi, show i.zero = some (.agg #[.string ⟨#[]⟩, .int .u64 0, .int .u64 0, .int .u64 0, .int .u64 0, .string ⟨#[]⟩, .int .u64 0, .string ⟨#[]⟩]) from h]
theorem one8 {v0 v1 v2 v3 v4 v5 v6 v7 : Value} (h0 : v0.oneCell' = true) (h1 : v1.oneCell' = true) (h2 : v2.oneCell' = true) (h3 : v3.oneCell' = true) (h4 : v4.oneCell' = true) (h5 : v5.oneCell' = true) (h6 : v6.oneCell' = true) (h7 : v7.oneCell' = true) : ∀ v ∈ [v0, v1, v2, v3, v4, v5, v6, v7], v.oneCell' = true := by
 intro v hv; simp at hv; rcases hv with rfl | rfl | rfl | rfl | rfl | rfl | rfl | rfl <;> assumption
set_option maxHeartbeats 4000000 in
theorem refticket_x (x : WN) (w0 : World) : Calls Tryz.prog 126 #[.agg #[.string x.chan, .int .u64 x.serial, .int .u64 x.face, .int .u64 x.wins, .int .u64 x.many, .string x.commit, .int .u64 x.client, .string x.sig]] w0 fun e w' => e = .returned (.agg #[.string x.chan, .int .u64 x.serial, .int .u64 x.face, .int .u64 x.wins, .int .u64 x.many, .string x.commit, .int .u64 x.client, .string x.sig]) ∧ Q w0 w' := by
 have HQ : Hid (Q w0 ((w0.alloc (.cells #[.string x.chan, .int .u64 x.serial, .int .u64 x.face, .int .u64 x.wins, .int .u64 x.many, .string x.commit, .int .u64 x.client, .string x.sig] 133)).alloc (.cells #[.string ⟨#[]⟩, .int .u64 0, .int .u64 0, .int .u64 0, .int .u64 0, .string ⟨#[]⟩, .int .u64 0, .string ⟨#[]⟩] 139))) := ((Q.refl w0).alloc _).alloc _
 have B2 : Hid (Box ((w0.alloc (.cells #[.string x.chan, .int .u64 x.serial, .int .u64 x.face, .int .u64 x.wins, .int .u64 x.many, .string x.commit, .int .u64 x.client, .string x.sig] 133)).alloc (.cells #[.string ⟨#[]⟩, .int .u64 0, .int .u64 0, .int .u64 0, .int .u64 0, .string ⟨#[]⟩, .int .u64 0, .string ⟨#[]⟩] 139)) (w0.heap.size + 1) [.string ⟨#[]⟩, .int .u64 0, .int .u64 0, .int .u64 0, .int .u64 0, .string ⟨#[]⟩, .int .u64 0, .string ⟨#[]⟩]) := by
  have := Box.new (w0.alloc (.cells #[.string x.chan, .int .u64 x.serial, .int .u64 x.face, .int .u64 x.wins, .int .u64 x.many, .string x.commit, .int .u64 x.client, .string x.sig] 133)) [.string ⟨#[]⟩, .int .u64 0, .int .u64 0, .int .u64 0, .int .u64 0, .string ⟨#[]⟩, .int .u64 0, .string ⟨#[]⟩] 139
  rw [show (w0.alloc (.cells #[.string x.chan, .int .u64 x.serial, .int .u64 x.face, .int .u64 x.wins, .int .u64 x.many, .string x.commit, .int .u64 x.client, .string x.sig] 133)).heap.size = w0.heap.size + 1 by simp] at this
  exact this
 go_enter Tryz.func126, Tryz.ntmps126
 go_wp2_with (with_reducible (show wpList _ _ _ (⟨_, Op.build 139 _, _, _, _, _⟩ :: _) _ _); refine halt ?_)
 refine Lib.hid (wpl_dtk rfl x.chan x.serial x.face x.wins x.many x.commit x.client x.sig rfl _ rfl rfl rfl rfl rfl rfl rfl rfl rfl ?_)
 refine Lib.hid (st_box rfl 139 _ _ rfl (w0.heap.size + 1) _ [.string x.chan, .int .u64 x.serial, .int .u64 x.face, .int .u64 x.wins, .int .u64 x.many, .string x.commit, .int .u64 x.client, .string x.sig] rfl rfl B2.out rfl (by kernel_rfl) (one8 rfl rfl rfl rfl rfl rfl rfl rfl) ?_)
 intro w9 B9 c9
 have HL : Hid ((loadVar 139 ⟨w0.heap.size + 1, 0, none⟩).run Tryz.prog w9 = .ok (.agg #[.string x.chan, .int .u64 x.serial, .int .u64 x.face, .int .u64 x.wins, .int .u64 x.many, .string x.commit, .int .u64 x.client, .string x.sig]) w9) := B9.load _ Tryz.underlying139 rfl (by kernel_rfl)
 have Q9 : Hid (Q w0 w9) := c9.q HQ.out (by omega)
 clear B9 c9 B2 HQ
 go_wp2_with fail
 (try simp only [Exit.inBlock, Exit.then])
 refine bodyPost_ret (results_cell rfl rfl HL.out) rfl ?_
 exact ⟨rfl, Q9.out⟩
set_option maxHeartbeats 4000000 in
theorem refout_x2 (x : OU) (w0 : World) : Calls Tryz.prog 11 #[ouV x] w0 fun e w' => e = .returned (ouV x) ∧ Q w0 w' := by
 have HQ : Hid (Q w0 ((w0.alloc (.cells #[.int .i64 x.kind, .int .u64 x.amount, .string x.key, .string x.gate, .int .i64 x.expiry, .string x.anchor, .int .u64 x.unit, .int .i64 x.tokens, .string x.of_] 47)).alloc (.cells #[.int .i64 0, .int .u64 0, .string ⟨#[]⟩, .string ⟨#[]⟩, .int .i64 0, .string ⟨#[]⟩, .int .u64 0, .int .i64 0, .string ⟨#[]⟩] 49))) := ((Q.refl w0).alloc _).alloc _
 have B2 : Hid (Box ((w0.alloc (.cells #[.int .i64 x.kind, .int .u64 x.amount, .string x.key, .string x.gate, .int .i64 x.expiry, .string x.anchor, .int .u64 x.unit, .int .i64 x.tokens, .string x.of_] 47)).alloc (.cells #[.int .i64 0, .int .u64 0, .string ⟨#[]⟩, .string ⟨#[]⟩, .int .i64 0, .string ⟨#[]⟩, .int .u64 0, .int .i64 0, .string ⟨#[]⟩] 49)) (w0.heap.size + 1) [.int .i64 0, .int .u64 0, .string ⟨#[]⟩, .string ⟨#[]⟩, .int .i64 0, .string ⟨#[]⟩, .int .u64 0, .int .i64 0, .string ⟨#[]⟩]) := by
  have := Box.new (w0.alloc (.cells #[.int .i64 x.kind, .int .u64 x.amount, .string x.key, .string x.gate, .int .i64 x.expiry, .string x.anchor, .int .u64 x.unit, .int .i64 x.tokens, .string x.of_] 47)) [.int .i64 0, .int .u64 0, .string ⟨#[]⟩, .string ⟨#[]⟩, .int .i64 0, .string ⟨#[]⟩, .int .u64 0, .int .i64 0, .string ⟨#[]⟩] 49
  rw [show (w0.alloc (.cells #[.int .i64 x.kind, .int .u64 x.amount, .string x.key, .string x.gate, .int .i64 x.expiry, .string x.anchor, .int .u64 x.unit, .int .i64 x.tokens, .string x.of_] 47)).heap.size = w0.heap.size + 1 by simp] at this
  exact this
 go_enter Tryz.func11, Tryz.ntmps11
 go_wp2_with (with_reducible (show wpList _ _ _ (⟨_, Op.build 49 _, _, _, _, _⟩ :: _) _ _); refine halt ?_)
 refine Lib.hid (wpl_dou rfl x.kind x.amount x.key x.gate x.expiry x.anchor x.unit x.tokens x.of_ rfl _ rfl rfl rfl rfl rfl rfl rfl rfl rfl rfl ?_)
 refine Lib.hid (st_box rfl 49 _ _ rfl (w0.heap.size + 1) _ [.int .i64 x.kind, .int .u64 x.amount, .string x.key, .string x.gate, .int .i64 x.expiry, .string x.anchor, .int .u64 x.unit, .int .i64 x.tokens, .string x.of_] rfl rfl B2.out rfl (by kernel_rfl) (one9 rfl rfl rfl rfl rfl rfl rfl rfl rfl) ?_)
 intro w9 B9 c9
 have HL : Hid ((loadVar 49 ⟨w0.heap.size + 1, 0, none⟩).run Tryz.prog w9 = .ok (.agg #[.int .i64 x.kind, .int .u64 x.amount, .string x.key, .string x.gate, .int .i64 x.expiry, .string x.anchor, .int .u64 x.unit, .int .i64 x.tokens, .string x.of_]) w9) := B9.load _ Tryz.underlying49 rfl (by kernel_rfl)
 have Q9 : Hid (Q w0 w9) := c9.q HQ.out (by omega)
 clear B9 c9 B2 HQ
 go_wp2_with fail
 (try simp only [Exit.inBlock, Exit.then])
 refine bodyPost_ret (results_cell rfl rfl HL.out) rfl ?_
 exact ⟨rfl, Q9.out⟩
theorem built_drw (v0 : ByteArray) (v1 v2 v3 v4 : Int) (v5 : ByteArray) (v6 : Int) (v7 v8 : ByteArray) (v9 : Int) : Tryz.prog.built 141 [(0, .agg #[.string v0, .int .u64 v1, .int .u64 v2, .int .u64 v3, .int .u64 v4, .string v5, .int .u64 v6, .string v7]), (1, .string v8), (2, .int .u64 v9)] = some #[.string v0, .int .u64 v1, .int .u64 v2, .int .u64 v3, .int .u64 v4, .string v5, .int .u64 v6, .string v7, .string v8, .int .u64 v9] := by kernel_rfl
set_option maxHeartbeats 4000000 in
theorem refwin_x (x : WN) (w0 : World) : Calls Tryz.prog 92 #[wnV x] w0 fun e w' => e = .returned (wnV x) ∧ Q w0 w' := by
 have CT : Hid (∀ w, Calls Tryz.prog 126 #[.agg #[.string x.chan, .int .u64 x.serial, .int .u64 x.face, .int .u64 x.wins, .int .u64 x.many, .string x.commit, .int .u64 x.client, .string x.sig]] w fun e w' => e = .returned (.agg #[.string x.chan, .int .u64 x.serial, .int .u64 x.face, .int .u64 x.wins, .int .u64 x.many, .string x.commit, .int .u64 x.client, .string x.sig]) ∧ Q w w') := fun w => refticket_x x w
 go_enter Tryz.func92, Tryz.ntmps92
 go_wp2_with fail
 have HQ : Hid (Q w0 ((w0.alloc (.cells #[.string x.chan, .int .u64 x.serial, .int .u64 x.face, .int .u64 x.wins, .int .u64 x.many, .string x.commit, .int .u64 x.client, .string x.sig, .string x.salt, .int .u64 x.drawn] 135)).alloc (.cells #[.string ⟨#[]⟩, .int .u64 0, .int .u64 0, .int .u64 0, .int .u64 0, .string ⟨#[]⟩, .int .u64 0, .string ⟨#[]⟩, .string ⟨#[]⟩, .int .u64 0] 141))) := ((Q.refl w0).alloc _).alloc _
 have B1 : Hid (Box ((w0.alloc (.cells #[.string x.chan, .int .u64 x.serial, .int .u64 x.face, .int .u64 x.wins, .int .u64 x.many, .string x.commit, .int .u64 x.client, .string x.sig, .string x.salt, .int .u64 x.drawn] 135)).alloc (.cells #[.string ⟨#[]⟩, .int .u64 0, .int .u64 0, .int .u64 0, .int .u64 0, .string ⟨#[]⟩, .int .u64 0, .string ⟨#[]⟩, .string ⟨#[]⟩, .int .u64 0] 141)) w0.heap.size [.string x.chan, .int .u64 x.serial, .int .u64 x.face, .int .u64 x.wins, .int .u64 x.many, .string x.commit, .int .u64 x.client, .string x.sig, .string x.salt, .int .u64 x.drawn]) := (Box.new w0 [.string x.chan, .int .u64 x.serial, .int .u64 x.face, .int .u64 x.wins, .int .u64 x.many, .string x.commit, .int .u64 x.client, .string x.sig, .string x.salt, .int .u64 x.drawn] 135).q ((Q.refl _).alloc _)
 have B2 : Hid (Box ((w0.alloc (.cells #[.string x.chan, .int .u64 x.serial, .int .u64 x.face, .int .u64 x.wins, .int .u64 x.many, .string x.commit, .int .u64 x.client, .string x.sig, .string x.salt, .int .u64 x.drawn] 135)).alloc (.cells #[.string ⟨#[]⟩, .int .u64 0, .int .u64 0, .int .u64 0, .int .u64 0, .string ⟨#[]⟩, .int .u64 0, .string ⟨#[]⟩, .string ⟨#[]⟩, .int .u64 0] 141)) (w0.heap.size + 1) [.string ⟨#[]⟩, .int .u64 0, .int .u64 0, .int .u64 0, .int .u64 0, .string ⟨#[]⟩, .int .u64 0, .string ⟨#[]⟩, .string ⟨#[]⟩, .int .u64 0]) := by
  have := Box.new (w0.alloc (.cells #[.string x.chan, .int .u64 x.serial, .int .u64 x.face, .int .u64 x.wins, .int .u64 x.many, .string x.commit, .int .u64 x.client, .string x.sig, .string x.salt, .int .u64 x.drawn] 135)) [.string ⟨#[]⟩, .int .u64 0, .int .u64 0, .int .u64 0, .int .u64 0, .string ⟨#[]⟩, .int .u64 0, .string ⟨#[]⟩, .string ⟨#[]⟩, .int .u64 0] 141
  rw [show (w0.alloc (.cells #[.string x.chan, .int .u64 x.serial, .int .u64 x.face, .int .u64 x.wins, .int .u64 x.many, .string x.commit, .int .u64 x.client, .string x.sig, .string x.salt, .int .u64 x.drawn] 135)).heap.size = w0.heap.size + 1 by simp] at this
  exact this
 generalize (w0.alloc (.cells #[.string x.chan, .int .u64 x.serial, .int .u64 x.face, .int .u64 x.wins, .int .u64 x.many, .string x.commit, .int .u64 x.client, .string x.sig, .string x.salt, .int .u64 x.drawn] 135)).alloc (.cells #[.string ⟨#[]⟩, .int .u64 0, .int .u64 0, .int .u64 0, .int .u64 0, .string ⟨#[]⟩, .int .u64 0, .string ⟨#[]⟩, .string ⟨#[]⟩, .int .u64 0] 141) = wA at *
 have hb2 : w0.heap.size ≤ w0.heap.size + 1 := by omega
 obtain ⟨b2, hb⟩ : ∃ b, w0.heap.size + 1 = b := ⟨_, rfl⟩
 rw [hb] at B2 hb2 ⊢
 obtain ⟨b1, hb1⟩ : ∃ b, w0.heap.size = b := ⟨_, rfl⟩
 rw [hb1] at B1 ⊢
 have hS0 : Q wA wA.drew := (Q.refl wA).drew
 refine region_gen3 ?_
 intro OPS QQ A0 hO hQQ hA
 have hz : A0.tmps.size = 11 := by rw [hA]; rfl
 have hs : sound OPS A0.tmps.size = true := by rw [hz, hO]; kernel_rfl
 have b_1 : A0.eval (.tmp 1) = .pointer (some ⟨b1, 0, none⟩) := by rw [hA]; rfl
 have fr_1 : free OPS 1 = true := by rw [hO]; kernel_rfl
 have b_2 : A0.eval (.tmp 2) = .pointer (some ⟨b2, 0, none⟩) := by rw [hA]; rfl
 have fr_2 : free OPS 2 = true := by rw [hO]; kernel_rfl
 obtain ⟨VV, hVV⟩ : ∃ V : Nat → Value → World → Prop, V = fun i => ([fun v _ => v = .pointer (some ⟨b1, 0, none⟩), fun v _ => v = .agg #[.string x.chan, .int .u64 x.serial, .int .u64 x.face, .int .u64 x.wins, .int .u64 x.many, .string x.commit, .int .u64 x.client, .string x.sig], fun v _ => v = .agg #[.string x.chan, .int .u64 x.serial, .int .u64 x.face, .int .u64 x.wins, .int .u64 x.many, .string x.commit, .int .u64 x.client, .string x.sig], fun v _ => v = .pointer (some ⟨b1, 8, none⟩), fun v _ => v = .string x.salt, fun v _ => v = .pointer (some ⟨b1, 9, none⟩), fun v _ => v = .int .u64 x.drawn, fun v _ => v = .agg #[.string x.chan, .int .u64 x.serial, .int .u64 x.face, .int .u64 x.wins, .int .u64 x.many, .string x.commit, .int .u64 x.client, .string x.sig, .string x.salt, .int .u64 x.drawn]] : List (Value → World → Prop)).getD i (fun _ _ => True) := ⟨_, rfl⟩
 have v_0 : VV 0 = fun v _ => v = .pointer (some ⟨b1, 0, none⟩) := vat hVV 0
 have v_1 : VV 1 = fun v _ => v = .agg #[.string x.chan, .int .u64 x.serial, .int .u64 x.face, .int .u64 x.wins, .int .u64 x.many, .string x.commit, .int .u64 x.client, .string x.sig] := vat hVV 1
 have v_2 : VV 2 = fun v _ => v = .agg #[.string x.chan, .int .u64 x.serial, .int .u64 x.face, .int .u64 x.wins, .int .u64 x.many, .string x.commit, .int .u64 x.client, .string x.sig] := vat hVV 2
 have v_3 : VV 3 = fun v _ => v = .pointer (some ⟨b1, 8, none⟩) := vat hVV 3
 have v_4 : VV 4 = fun v _ => v = .string x.salt := vat hVV 4
 have v_5 : VV 5 = fun v _ => v = .pointer (some ⟨b1, 9, none⟩) := vat hVV 5
 have v_6 : VV 6 = fun v _ => v = .int .u64 x.drawn := vat hVV 6
 have v_7 : VV 7 = fun v _ => v = .agg #[.string x.chan, .int .u64 x.serial, .int .u64 x.face, .int .u64 x.wins, .int .u64 x.many, .string x.commit, .int .u64 x.client, .string x.sig, .string x.salt, .int .u64 x.drawn] := vat hVV 7
 have hV := stablex_of (T := Q) (p := 8) hVV ((kx (kx (kx (kx (kx (kx (kx (kx trivial)))))))))
 clear hVV
 have i_0 := pget_at hO 0 rfl
 have i_1 := pget_at hO 1 rfl
 have i_2 := pget_at hO 2 rfl
 have i_3 := pget_at hO 3 rfl
 have i_4 := pget_at hO 4 rfl
 have i_5 := pget_at hO 5 rfl
 have i_6 := pget_at hO 6 rfl
 have i_7 := pget_at hO 7 rfl
 have i_8 := pget_at hO 8 rfl
 have MK19 := @Step2.pure Tryz.prog OPS QQ VV Q (Q wA) A0 8
 have s_0 := MK19 i_0 (by rw [hO]; kernel_rfl) (.pointer (some ⟨b1, 0, none⟩)) (Q.refl ·) (fun l a w hI hl hS => ⟨wanted_none rfl, (by have e0 : a.eval (.tmp 1) = _ := ((hI.base 1 fr_1).trans b_1); generalize a.eval = ρ at e0 ⊢; simp [go_sem, e0]), at_mk v_0 rfl⟩)
 have s_1 := MK19 i_1 (by rw [hO]; kernel_rfl) (.agg #[.string x.chan, .int .u64 x.serial, .int .u64 x.face, .int .u64 x.wins, .int .u64 x.many, .string x.commit, .int .u64 x.client, .string x.sig]) (Q.refl ·) (fun l a w hI hl hS => ⟨wanted_none rfl, ex_loado 133 rfl b1 0 [.string x.chan, .int .u64 x.serial, .int .u64 x.face, .int .u64 x.wins, .int .u64 x.many, .string x.commit, .int .u64 x.client, .string x.sig] _ (at_eq v_0 (hI.at_ 0 3 _ i_0 rfl (hl_at hl 0 rfl rfl))) ((B1.out.q hS).rangeo 0 (r := [.string x.salt, .int .u64 x.drawn]) rfl) Tryz.underlying133 rfl (by kernel_rfl), at_mk v_1 rfl⟩)
 have MK20 := @Step2.done Tryz.prog OPS QQ VV Q (Q wA) A0 8
 have s_2 := MK20 i_2 (by rw [hO]; kernel_rfl) (fun l a w hI hl hS => by
  refine ⟨wanted_none rfl, ?_⟩
  refine wp_enter (f := 126) (args := #[.agg #[.string x.chan, .int .u64 x.serial, .int .u64 x.face, .int .u64 x.wins, .int .u64 x.many, .string x.commit, .int .u64 x.client, .string x.sig]]) ?_ ?_
  · exact ex_call rfl (by simp only [List.map_toArray, List.map_cons, List.map_nil, ev_const, (show a.eval (.tmp 4) = _ from (at_eq v_1 (hI.at_ 1 4 _ i_1 rfl (hl_at hl 0 rfl rfl))))]) Tryz.func126 (by kernel_rfl) (by kernel_rfl)
  · refine (CT.out w).mono fun e w' hc => ?_
    obtain ⟨rfl, hq⟩ := hc
    exact ⟨_, rfl, hq, hS.trans hq, at_mk v_2 rfl⟩)
 have s_3 := MK19 i_3 (by rw [hO]; kernel_rfl) (.pointer (some ⟨b1, 8, none⟩)) (Q.refl ·) (fun l a w hI hl hS => ⟨wanted_none rfl, (by have e0 : a.eval (.tmp 1) = _ := ((hI.base 1 fr_1).trans b_1); generalize a.eval = ρ at e0 ⊢; simp [go_sem, e0]), at_mk v_3 rfl⟩)
 have s_4 := MK19 i_4 (by rw [hO]; kernel_rfl) (.string x.salt) (Q.refl ·) (fun l a w hI hl hS => ⟨wanted_none rfl, (by have e0 : a.eval (.tmp 6) = _ := (at_eq v_3 (hI.at_ 3 6 _ i_3 rfl (hl_at hl 0 rfl rfl))); have x0 := (B1.out.q hS).at_ 8 _ rfl; generalize a.eval = ρ at e0 ⊢; simp [go_sem, e0, x0]), at_mk v_4 rfl⟩)
 have s_5 := MK19 i_5 (by rw [hO]; kernel_rfl) (.pointer (some ⟨b1, 9, none⟩)) (Q.refl ·) (fun l a w hI hl hS => ⟨wanted_none rfl, (by have e0 : a.eval (.tmp 1) = _ := ((hI.base 1 fr_1).trans b_1); generalize a.eval = ρ at e0 ⊢; simp [go_sem, e0]), at_mk v_5 rfl⟩)
 have s_6 := MK19 i_6 (by rw [hO]; kernel_rfl) (.int .u64 x.drawn) (Q.refl ·) (fun l a w hI hl hS => ⟨wanted_none rfl, (by have e0 : a.eval (.tmp 8) = _ := (at_eq v_5 (hI.at_ 5 8 _ i_5 rfl (hl_at hl 0 rfl rfl))); have x0 := (B1.out.q hS).at_ 9 _ rfl; generalize a.eval = ρ at e0 ⊢; simp [go_sem, e0, x0]), at_mk v_6 rfl⟩)
 have s_7 := MK19 i_7 (by rw [hO]; kernel_rfl) (.agg #[.string x.chan, .int .u64 x.serial, .int .u64 x.face, .int .u64 x.wins, .int .u64 x.many, .string x.commit, .int .u64 x.client, .string x.sig, .string x.salt, .int .u64 x.drawn]) (Q.refl ·) (fun l a w hI hl hS => ⟨wanted_none rfl, ex_build rfl (by simp only [List.map_toArray, List.map_cons, List.map_nil, (show a.eval (.tmp 5) = _ from (at_eq v_2 (hI.at_ 2 5 _ i_2 rfl (hl_at hl 0 rfl rfl)))), (show a.eval (.tmp 7) = _ from (at_eq v_4 (hI.at_ 4 7 _ i_4 rfl (hl_at hl 1 rfl rfl)))), (show a.eval (.tmp 9) = _ from (at_eq v_6 (hI.at_ 6 9 _ i_6 rfl (hl_at hl 2 rfl rfl))))]; exact built_drw x.chan x.serial x.face x.wins x.many x.commit x.client x.sig x.salt x.drawn), at_mk v_7 rfl⟩)
 refine wp_plan2 VV (Q) (Q wA) 8 8 (by kernel_rfl) hs (by rw [hO]; rfl) (by rw [hO]; kernel_rfl) hV hS0 (steps2_all hO _ rfl ((s2_cons s_0 (s2_cons s_1 (s2_cons s_2 (s2_cons s_3 (s2_cons s_4 (s2_cons s_5 (s2_cons s_6 (s2_cons s_7 trivial)))))))))) ?_
 intro l a w hall hln hI
 have hS := hI.st hln
 refine fin_of i_8 (wanted_none rfl) ?_
 refine wpo_st_box 141 _ _ rfl b2 _ [.string x.chan, .int .u64 x.serial, .int .u64 x.face, .int .u64 x.wins, .int .u64 x.many, .string x.commit, .int .u64 x.client, .string x.sig, .string x.salt, .int .u64 x.drawn] ((hI.base 2 fr_2).trans b_2) (at_eq v_7 (hI.at_ 7 10 _ i_7 rfl (hall 7 (by decide)))) (B2.out.q hS) rfl (by kernel_rfl) (one10 rfl rfl rfl rfl rfl rfl rfl rfl rfl rfl) ?_
 intro w3 B3 c3
 have e2 : a.tmps.getD 2 undef = .pointer (some ⟨b2, 0, none⟩) := ((hI.base 2 fr_2).trans b_2)
 have hd : a.defers = [] := by rw [hI.df, hA]
 have HL : Hid ((loadVar 141 ⟨b2, 0, none⟩).run Tryz.prog w3 = .ok (.agg #[.string x.chan, .int .u64 x.serial, .int .u64 x.face, .int .u64 x.wins, .int .u64 x.many, .string x.commit, .int .u64 x.client, .string x.sig, .string x.salt, .int .u64 x.drawn]) w3) := B3.load _ Tryz.underlying141 rfl (by kernel_rfl)
 have Q3 : Hid (Q w0 w3) := c3.q (HQ.out.trans hS) hb2
 rw [hQQ]
 clear hI hall hln c3 B3 hS
 go_wp2_with fail
 (try simp only [Exit.inBlock, Exit.then])
 refine bodyPost_ret (results_cell rfl e2 HL.out) hd ?_
 exact ⟨rfl, Q3.out⟩
theorem built_dpp (v0 : Int) (v1 v2 : ByteArray) : Tryz.prog.built 41 [(0, .int .u64 v0), (1, .string v1), (2, .string v2)] = some #[.int .u64 v0, .string v1, .string v2, .slice none 0 0] := by kernel_rfl
theorem wpl_dpp {ops : Array Oper} {rest : List Oper} {o : Oper} {a : Act} {w : World} {Q : Exit → Act → World → Prop} (hg : o.guard = none) {n0 n1 n2 : Nat} (v0 : Int) (v1 v2 : ByteArray) (ho : o.op = .build 41 #[(0, .tmp n0), (1, .tmp n1), (2, .tmp n2)]) (d : Option Tmp) (hd : o.dst = d) (h0 : a.eval (.tmp n0) = .int .u64 v0) (h1 : a.eval (.tmp n1) = .string v1) (h2 : a.eval (.tmp n2) = .string v2) (h : wpList Tryz.prog ops Q rest (a.put d (.agg #[.int .u64 v0, .string v1, .string v2, .slice none 0 0])) w) : wpList Tryz.prog ops Q (o :: rest) a w := by
 refine wpList_buildTo hg 41 _ ho d hd _ ?_ h
 simp only [List.map_toArray, List.map_cons, List.map_nil, h0, h1, h2]
 exact built_dpp v0 v1 v2
set_option maxHeartbeats 4000000 in
theorem ref8_x (pf : PF) (aW : Option Addr) (cW : Nat) (w0 : World) (hw : SL WN.cells 10 w0 aW pf.n pf.w) (hn : pf.n ≤ 100) :
 Calls Tryz.prog 45 #[pfV pf aW cW] w0 fun e w' => ∃ a c, e = .returned (pfV pf a c) ∧ OR 141 WN.cells 10 w' w0.heap.size a pf.n c pf.w ∧ Q w0 w' := by
 obtain ⟨am, sg, tk, n, FW⟩ := pf
 dsimp only at hw hn
 have HT := Lib.hid hw
 clear hw
 have HQ : Hid (Q w0 ((w0.alloc (.cells #[.int .u64 am, .string sg, .string tk, .slice aW n cW] 27)).alloc (.cells #[.int .u64 0, .string ⟨#[]⟩, .string ⟨#[]⟩, .slice none 0 0] 41))) := ((Q.refl w0).alloc _).alloc _
 have B1 : Hid (Box ((w0.alloc (.cells #[.int .u64 am, .string sg, .string tk, .slice aW n cW] 27)).alloc (.cells #[.int .u64 0, .string ⟨#[]⟩, .string ⟨#[]⟩, .slice none 0 0] 41)) w0.heap.size [.int .u64 am, .string sg, .string tk, .slice aW n cW]) := (Box.new w0 [.int .u64 am, .string sg, .string tk, .slice aW n cW] 27).q ((Q.refl _).alloc _)
 have B2 : Hid (Box ((w0.alloc (.cells #[.int .u64 am, .string sg, .string tk, .slice aW n cW] 27)).alloc (.cells #[.int .u64 0, .string ⟨#[]⟩, .string ⟨#[]⟩, .slice none 0 0] 41)) (w0.heap.size + 1) [.int .u64 0, .string ⟨#[]⟩, .string ⟨#[]⟩, .slice none 0 0]) := by
  have := Box.new (w0.alloc (.cells #[.int .u64 am, .string sg, .string tk, .slice aW n cW] 27)) [.int .u64 0, .string ⟨#[]⟩, .string ⟨#[]⟩, .slice none 0 0] 41
  rw [show (w0.alloc (.cells #[.int .u64 am, .string sg, .string tk, .slice aW n cW] 27)).heap.size = w0.heap.size + 1 by simp] at this
  exact this
 go_enter Tryz.func45, Tryz.ntmps45
 go_wp2_with (with_reducible (show wpList _ _ _ (⟨_, Op.build 41 _, _, _, _, _⟩ :: _) _ _); refine halt ?_)
 generalize (w0.alloc (.cells #[.int .u64 am, .string sg, .string tk, .slice aW n cW] 27)).alloc (.cells #[.int .u64 0, .string ⟨#[]⟩, .string ⟨#[]⟩, .slice none 0 0] 41) = wA at *
 obtain ⟨b2, hb⟩ : ∃ b, w0.heap.size + 1 = b := ⟨_, rfl⟩
 rw [hb] at B2 ⊢
 obtain ⟨b1, hb1⟩ : ∃ b, w0.heap.size = b := ⟨_, rfl⟩
 rw [hb1] at B1 ⊢
 refine Lib.hid (wpl_dpp rfl am sg tk rfl _ rfl rfl rfl rfl ?_)
 refine wpList_allocZ rfl 41 rfl #[.int .u64 0, .string ⟨#[]⟩, .string ⟨#[]⟩, .slice none 0 0] zeroDP ?_
 refine st_box rfl 41 _ _ rfl wA.heap.size _ [.int .u64 am, .string sg, .string tk, .slice none 0 0] rfl rfl (Box.new wA [.int .u64 0, .string ⟨#[]⟩, .string ⟨#[]⟩, .slice none 0 0] 41) rfl (by kernel_rfl) (one4 rfl rfl rfl rfl) ?_
 intro w3 B3 c3
 have l1 := B1.out.lt
 have l2 := B2.out.lt
 have qA : Q wA (wA.alloc (.cells #[.int .u64 0, .string ⟨#[]⟩, .string ⟨#[]⟩, .slice none 0 0] 41)) := (Q.refl wA).alloc _
 have C1 := Lib.hid ((B1.out.q qA).ch c3 (show b1 ≠ wA.heap.size by omega))
 have C2 := Lib.hid ((B2.out.q qA).ch c3 (show b2 ≠ wA.heap.size by omega))
 have C3 := Lib.hid B3
 have Q3 : Hid (Q w0 w3) := c3.q (HQ.out.trans qA) HQ.out.size
 have n13 : b1 ≠ wA.heap.size := by omega
 have n23 : b2 ≠ wA.heap.size := by omega
 have hb30 : w0.heap.size ≤ wA.heap.size := HQ.out.size
 have hb20 : w0.heap.size ≤ b2 := by omega
 generalize wA.heap.size = b3 at *
 clear c3 B3 B1 B2 HQ qA hb hb1 l1 l2
 go_wp2_with fail
 have OA := Lib.hid (OR.nil 141 WN.cells 10 w3 w0.heap.size FW)
 obtain ⟨i0, hi0, hz0, hz1, hz2⟩ := info_of info_dwin
 go_loopw [4] (fun i wr => ∃ (k : Nat) (ad : Option Addr) (c : Nat), k ≤ n ∧ i = .int .i64 k ∧ Hid (OR 141 WN.cells 10 wr w0.heap.size ad k c FW) ∧ Hid (Box wr b3 [.int .u64 am, .string sg, .string tk, .slice ad k c]) ∧ Hid (Box wr b1 [.int .u64 am, .string sg, .string tk, .slice aW n cW]) ∧ Hid (Box wr b2 [.int .u64 0, .string ⟨#[]⟩, .string ⟨#[]⟩, .slice none 0 0]) ∧ Hid (∀ x, ad = some x → x.block ≠ b1 ∧ x.block ≠ b2 ∧ x.block ≠ b3) ∧ Hid (Q w0 wr)) (fun i _ => n - (intOf i).toNat)
 case atStart => exact ⟨0, none, 0, by omega, rfl, OA, C3, C1, C2, Lib.hid (fun x h => by cases h), Q3⟩
 case round =>
 obtain ⟨k, ad, c, hk, rfl, O, D3, D1, D2, AP, QR⟩ := hrel
 clear C1 C2 C3 Q3 OA
 have k0 : (0 : Int) ≤ (k : Int) := by omega
 have m3 := D1.out.at_ 3 _ rfl
 by_cases hlt : k < n
 · have k1 : (k : Int) < (n : Int) := by omega
   go_wp2_with fail
   clear m3
   obtain ⟨b, off, hab, hrow⟩ := (HT.out.q QR.out).some_ (by omega)
   obtain ⟨yy, hy⟩ : ∃ z, FW k = z := ⟨_, rfl⟩
   have HKy : Hid (FW k = yy) := hy
   have hrow := hrow k hlt
   rw [hy] at hrow
   have RW : Hid (∀ w', Q wr w' → w'.rangeAt b (off + k * 10) (WN.cells yy)) := fun w' q j v hv => Q.cell' q (hrow j v hv)
   clear hy hrow
   obtain ⟨gp, hg1, hg2⟩ : ∃ gp, (∀ x, ad = some x → x.block = gp) ∧ gp < wr.heap.size := by
    rcases O.out.shape with ⟨e, _⟩ | ⟨g, e, _, hl, _⟩
    · exact ⟨b3, (fun x hx => by rw [e] at hx; cases hx), D3.out.lt⟩
    · exact ⟨g, (fun x hx => by rw [e] at hx; injection hx with hx; rw [← hx]), hl⟩
   as_aux_lemma =>
   have hS0 : Q wr wr.drew := (Q.refl wr).drew
   refine region_gen3 ?_
   intro OPS QQ A0 hO hQQ hA
   have hz : A0.tmps.size = 31 := by rw [hA]; rfl
   have hs : sound OPS A0.tmps.size = true := by rw [hz, hO]; kernel_rfl
   have bz_1 : A0.eval (.tmp 1) = .pointer (some ⟨b1, 0, none⟩) := by rw [hA]; rfl
   have frz_1 : free OPS 1 = true := by rw [hO]; kernel_rfl
   have bz_3 : A0.eval (.tmp 3) = .pointer (some ⟨b3, 0, none⟩) := by rw [hA]; rfl
   have frz_3 : free OPS 3 = true := by rw [hO]; kernel_rfl
   have bz_4 : A0.eval (.tmp 4) = .int .i64 k := by rw [hA]; rfl
   have frz_4 : free OPS 4 = true := by rw [hO]; kernel_rfl
   obtain ⟨VV, hVV⟩ : ∃ V : Nat → Value → World → Prop, V = fun i => ([fun v _ => v = .pointer (some ⟨b3, 3, none⟩), fun v _ => v = .slice ad k c, fun v _ => v = .pointer (some ⟨b1, 3, none⟩), fun v _ => v = .slice aW n cW, fun v _ => v = .int .i64 k, fun v _ => v = .pointer (some ⟨b, off + k * 10, none⟩), fun v _ => v = wnV yy, fun v _ => v = wnV yy, fun v w => ∃ g, v = .slice (some ⟨g, 0, none⟩) 1 1 ∧ g ≠ gp ∧ ∀ j u, (WN.cells yy)[j]? = some u → w.cell? ⟨g, j, none⟩ = some u, fun v w' => ∃ g' c', v = .slice (some ⟨g', 0, none⟩) (k + 1) c' ∧ OR 141 WN.cells 10 w' w0.heap.size (some ⟨g', 0, none⟩) (k + 1) c' FW ∧ Box w' b3 [.int .u64 am, .string sg, .string tk, .slice ad k c] ∧ Box w' b1 [.int .u64 am, .string sg, .string tk, .slice aW n cW] ∧ Box w' b2 [.int .u64 0, .string ⟨#[]⟩, .string ⟨#[]⟩, .slice none 0 0] ∧ (g' ≠ b1 ∧ g' ≠ b2 ∧ g' ≠ b3) ∧ Q w0 w', fun v _ => v = .pointer (some ⟨b3, 3, none⟩)] : List (Value → World → Prop)).getD i (fun _ _ => True) := ⟨_, rfl⟩
   have vz_0 : VV 0 = fun v _ => v = .pointer (some ⟨b3, 3, none⟩) := vat hVV 0
   have vz_1 : VV 1 = fun v _ => v = .slice ad k c := vat hVV 1
   have vz_2 : VV 2 = fun v _ => v = .pointer (some ⟨b1, 3, none⟩) := vat hVV 2
   have vz_3 : VV 3 = fun v _ => v = .slice aW n cW := vat hVV 3
   have vz_4 : VV 4 = fun v _ => v = .int .i64 k := vat hVV 4
   have vz_5 : VV 5 = fun v _ => v = .pointer (some ⟨b, off + k * 10, none⟩) := vat hVV 5
   have vz_6 : VV 6 = fun v _ => v = wnV yy := vat hVV 6
   have vz_7 : VV 7 = fun v _ => v = wnV yy := vat hVV 7
   have vz_8 : VV 8 = fun v w => ∃ g, v = .slice (some ⟨g, 0, none⟩) 1 1 ∧ g ≠ gp ∧ ∀ j u, (WN.cells yy)[j]? = some u → w.cell? ⟨g, j, none⟩ = some u := vat hVV 8
   have vz_9 : VV 9 = fun v w' => ∃ g' c', v = .slice (some ⟨g', 0, none⟩) (k + 1) c' ∧ OR 141 WN.cells 10 w' w0.heap.size (some ⟨g', 0, none⟩) (k + 1) c' FW ∧ Box w' b3 [.int .u64 am, .string sg, .string tk, .slice ad k c] ∧ Box w' b1 [.int .u64 am, .string sg, .string tk, .slice aW n cW] ∧ Box w' b2 [.int .u64 0, .string ⟨#[]⟩, .string ⟨#[]⟩, .slice none 0 0] ∧ (g' ≠ b1 ∧ g' ≠ b2 ∧ g' ≠ b3) ∧ Q w0 w' := vat hVV 9
   have vz_10 : VV 10 = fun v _ => v = .pointer (some ⟨b3, 3, none⟩) := vat hVV 10
   have hV := stablex_of (T := Ch gp) (p := 9) hVV ((kx (kx (kx (kx (kx (kx (kx (kx (sx_cons (fun v w w' h t => by obtain ⟨g, h1, h2, h3⟩ := h; exact ⟨g, h1, h2, fun j u hj => t.cell (h3 j u hj) h2⟩) (sx_skip rfl (kx trivial))))))))))))
   clear hVV
   have iz_0 := pget_at hO 0 rfl
   have iz_1 := pget_at hO 1 rfl
   have iz_2 := pget_at hO 2 rfl
   have iz_3 := pget_at hO 3 rfl
   have iz_4 := pget_at hO 4 rfl
   have iz_5 := pget_at hO 5 rfl
   have iz_6 := pget_at hO 6 rfl
   have iz_7 := pget_at hO 7 rfl
   have iz_8 := pget_at hO 8 rfl
   have iz_9 := pget_at hO 9 rfl
   have iz_10 := pget_at hO 10 rfl
   have iz_11 := pget_at hO 11 rfl
   have MK21 := @Step2.pure Tryz.prog OPS QQ VV (Ch gp) (Q wr) A0 9
   have sz_0 := MK21 iz_0 (by rw [hO]; kernel_rfl) (.pointer (some ⟨b3, 3, none⟩)) (Ch.refl gp ·) (fun l a w hI hl hS => ⟨wanted_none rfl, (by have e0 : a.eval (.tmp 3) = _ := ((hI.base 3 frz_3).trans bz_3); generalize a.eval = ρ at e0 ⊢; simp [go_sem, e0]), at_mk vz_0 rfl⟩)
   have sz_1 := MK21 iz_1 (by rw [hO]; kernel_rfl) (.slice ad k c) (Ch.refl gp ·) (fun l a w hI hl hS => ⟨wanted_none rfl, (by have e0 : a.eval (.tmp 19) = _ := (at_eq vz_0 (hI.at_ 0 19 _ iz_0 rfl (hl_at hl 0 rfl rfl))); have x0 := (D3.out.q hS).at_ 3 _ rfl; generalize a.eval = ρ at e0 ⊢; simp [go_sem, e0, x0]), at_mk vz_1 rfl⟩)
   have sz_2 := MK21 iz_2 (by rw [hO]; kernel_rfl) (.pointer (some ⟨b1, 3, none⟩)) (Ch.refl gp ·) (fun l a w hI hl hS => ⟨wanted_none rfl, (by have e0 : a.eval (.tmp 1) = _ := ((hI.base 1 frz_1).trans bz_1); generalize a.eval = ρ at e0 ⊢; simp [go_sem, e0]), at_mk vz_2 rfl⟩)
   have sz_3 := MK21 iz_3 (by rw [hO]; kernel_rfl) (.slice aW n cW) (Ch.refl gp ·) (fun l a w hI hl hS => ⟨wanted_none rfl, (by have e0 : a.eval (.tmp 21) = _ := (at_eq vz_2 (hI.at_ 2 21 _ iz_2 rfl (hl_at hl 0 rfl rfl))); have x0 := (D1.out.q hS).at_ 3 _ rfl; generalize a.eval = ρ at e0 ⊢; simp [go_sem, e0, x0]), at_mk vz_3 rfl⟩)
   have sz_4 := MK21 iz_4 (by rw [hO]; kernel_rfl) (.int .i64 k) (Ch.refl gp ·) (fun l a w hI hl hS => ⟨wanted_none rfl, ex_move rfl ((hI.base 4 frz_4).trans bz_4), at_mk vz_4 rfl⟩)
   have sz_5 := MK21 iz_5 (by rw [hO]; kernel_rfl) (.pointer (some ⟨b, off + k * 10, none⟩)) (Ch.refl gp ·) (fun l a w hI hl hS => ⟨wanted_none rfl, (by have e0 : a.eval (.tmp 22) = _ := (at_eq vz_3 (hI.at_ 3 22 _ iz_3 rfl (hl_at hl 0 rfl rfl))); have e1 : a.eval (.tmp 23) = _ := (at_eq vz_4 (hI.at_ 4 23 _ iz_4 rfl (hl_at hl 1 rfl rfl))); generalize a.eval = ρ at e0 e1 ⊢; simp [go_sem, e0, e1, k0, k1, hab]), at_mk vz_5 rfl⟩)
   have sz_6 := MK21 iz_6 (by rw [hO]; kernel_rfl) (wnV yy) (Ch.refl gp ·) (fun l a w hI hl hS => ⟨wanted_none rfl, ex_loado 135 rfl b (off + k * 10) (WN.cells yy) _ (at_eq vz_5 (hI.at_ 5 24 _ iz_5 rfl (hl_at hl 0 rfl rfl))) (RW.out w hS) Tryz.underlying135 rfl (by kernel_rfl), at_mk vz_6 rfl⟩)
   have MK22 := @Step2.done Tryz.prog OPS QQ VV (Ch gp) (Q wr) A0 9
   have sz_7 := MK22 iz_7 (by rw [hO]; kernel_rfl) (fun l a w hI hl hS => by
    refine ⟨wanted_none rfl, ?_⟩
    refine wp_enter (f := 92) (args := #[wnV yy]) ?_ ?_
    · exact ex_call rfl (by simp only [List.map_toArray, List.map_cons, List.map_nil, ev_const, (show a.eval (.tmp 25) = _ from (at_eq vz_6 (hI.at_ 6 25 _ iz_6 rfl (hl_at hl 0 rfl rfl))))]) Tryz.func92 (by kernel_rfl) (by kernel_rfl)
    · refine (refwin_x yy w).mono fun e w' hc => ?_
      obtain ⟨rfl, hq⟩ := hc
      exact ⟨_, rfl, Ch.of_q hq gp, hS.trans hq, at_mk vz_7 rfl⟩)
   have sz_8 := MK22 iz_8 (by rw [hO]; kernel_rfl) (fun l a w hI hl hS => by
    refine ⟨wanted_none rfl, ?_⟩
    refine wpo_rowdwin yy.chan yy.serial yy.face yy.wins yy.many yy.commit yy.client yy.sig yy.salt yy.drawn rfl (at_eq vz_7 (hI.at_ 7 26 _ iz_7 rfl (hl_at hl 0 rfl rfl))) ?_
    exact ⟨_, rfl, Ch.of_q ((Q.refl w).alloc _) gp, hS.alloc _, p_at vz_8 ⟨w.heap.size, rfl, by have := hS.size; omega, fun j u hj => by rw [World.cell?_alloc_at _ _ _ _ rfl]; unfold WN.cells at hj; simpa using hj⟩⟩)
   have sz_9 := StepP.done (P := Tryz.prog) (V := VV) (T := Ch gp) (S := (Q wr)) (a0 := A0) (p := 9) (Qx := QQ) iz_9 (fun l a w hI hl hS => by
    obtain ⟨g, eg, hgne, hcell⟩ := at_p vz_8 (hI.at_ 8 27 _ iz_8 rfl (hl_at hl 1 rfl rfl))
    refine ⟨wanted_none rfl, ?_⟩
    refine wpo_app (.tmp 20) (.tmp 27) 39 rfl i0 _ 112 Tryz.underlying39 hi0 hz0 hz1 hz2 rfl (by decide) (at_eq vz_1 (hI.at_ 1 20 _ iz_1 rfl (hl_at hl 0 rfl rfl))) (O.out.q hS) g eg rfl (fun j u hj => hcell j u (by rw [HKy.out] at hj; exact hj)) (by rw [HKy.out]; exact one10 rfl rfl rfl rfl rfl rfl rfl rfl rfl rfl) (by omega) (by decide) (by have := QR.out.size; have := hS.size; omega) ?_
    intro g' c' w' O' G
    exact ⟨_, rfl, G.chp gp hg1, p_at vz_9 ⟨g', c', rfl, O', (D3.out.q hS).over (fun x hx => (AP.out x hx).2.2) G, (D1.out.q hS).over (fun x hx => (AP.out x hx).1) G, (D2.out.q hS).over (fun x hx => (AP.out x hx).2.1) G, ⟨G.ne b1 (D1.out.q hS).lt (fun x hx => (AP.out x hx).1), G.ne b2 (D2.out.q hS).lt (fun x hx => (AP.out x hx).2.1), G.ne b3 (D3.out.q hS).lt (fun x hx => (AP.out x hx).2.2)⟩, (O.out.q hS).q_grow (QR.out.trans hS) (Nat.le_refl _) G⟩⟩)
   have MK23 := @StepQ.pure Tryz.prog OPS QQ VV (Q wr) A0 9
   have sz_10 := MK23 iz_10 (.pointer (some ⟨b3, 3, none⟩)) (fun l a w hI hl => ⟨wanted_none rfl, (by have e0 : a.eval (.tmp 3) = _ := ((hI.base 3 frz_3).trans bz_3); generalize a.eval = ρ at e0 ⊢; simp [go_sem, e0]), at_mk vz_10 rfl⟩)
   refine wp_plan2 VV (Ch gp) (Q wr) 9 11 (by kernel_rfl) hs (by rw [hO]; rfl) (by rw [hO]; kernel_rfl) hV hS0 (steps2_all hO _ rfl ((s2_cons sz_0 (s2_cons sz_1 (s2_cons sz_2 (s2_cons sz_3 (s2_cons sz_4 (s2_cons sz_5 (s2_cons sz_6 (s2_cons sz_7 (s2_cons sz_8 (sp_cons rfl sz_9 (sq_cons sz_10 trivial))))))))))))) ?_
   intro l a w hall hln hI
   as_aux_lemma =>
   obtain ⟨g', c', eg, O', E3, E1, E2, ⟨x1, x2, x3⟩, Q'⟩ := (at_p vz_9 (hI.at_ 9 28 _ iz_9 rfl (hall 9 (by decide))))
   refine fin_of iz_11 (wanted_none rfl) ?_
   refine wpo_st1 39 _ _ rfl (at_eq vz_10 (hI.at_ 10 29 _ iz_10 rfl (hall 10 (by decide)))) eg E3 rfl (fun w hc hf => by simp [go_sem, hc, hf]) ?_
   intro w5 B3' c5
   rw [hQQ]
   obtain ⟨ts, ds⟩ := a
   have hd : ds = [] := by have := hI.df; rw [hA] at this; exact this
   have hts : ts.size = 31 := by have := hI.sz; rw [hz] at this; exact this
   have f1 : ts.getD 1 undef = .pointer (some ⟨b1, 0, none⟩) := ((hI.base 1 frz_1).trans bz_1)
   have f3 : ts.getD 3 undef = .pointer (some ⟨b3, 0, none⟩) := ((hI.base 3 frz_3).trans bz_3)
   have f4 : ts.getD 4 undef = .int .i64 k := ((hI.base 4 frz_4).trans bz_4)
   have f0 := (hI.base 0 (by rw [hO]; kernel_rfl)).trans (base_at hA 0 rfl)
   have f2 := (hI.base 2 (by rw [hO]; kernel_rfl)).trans (base_at hA 2 rfl)
   have f5 := (hI.base 5 (by rw [hO]; kernel_rfl)).trans (base_at hA 5 rfl)
   have f6 := (hI.base 6 (by rw [hO]; kernel_rfl)).trans (base_at hA 6 rfl)
   have f7 := (hI.base 7 (by rw [hO]; kernel_rfl)).trans (base_at hA 7 rfl)
   have f8 := (hI.base 8 (by rw [hO]; kernel_rfl)).trans (base_at hA 8 rfl)
   have f9 := (hI.base 9 (by rw [hO]; kernel_rfl)).trans (base_at hA 9 rfl)
   have f10 := (hI.base 10 (by rw [hO]; kernel_rfl)).trans (base_at hA 10 rfl)
   have f11 := (hI.base 11 (by rw [hO]; kernel_rfl)).trans (base_at hA 11 rfl)
   have f12 := (hI.base 12 (by rw [hO]; kernel_rfl)).trans (base_at hA 12 rfl)
   have f13 := (hI.base 13 (by rw [hO]; kernel_rfl)).trans (base_at hA 13 rfl)
   have f14 := (hI.base 14 (by rw [hO]; kernel_rfl)).trans (base_at hA 14 rfl)
   have f15 := (hI.base 15 (by rw [hO]; kernel_rfl)).trans (base_at hA 15 rfl)
   have f16 := (hI.base 16 (by rw [hO]; kernel_rfl)).trans (base_at hA 16 rfl)
   have f17 := (hI.base 17 (by rw [hO]; kernel_rfl)).trans (base_at hA 17 rfl)
   have f18 := (hI.base 18 (by rw [hO]; kernel_rfl)).trans (base_at hA 18 rfl)
   have f30 := (hI.base 30 (by rw [hO]; kernel_rfl)).trans (base_at hA 30 rfl)
   obtain ⟨tl0, rfl⟩ : ∃ tl : List Value, ts = tl.toArray := ⟨ts.toList, by simp⟩
   have htl0 : tl0.length = 31 := by simpa using hts
   clear hts
   obtain ⟨y0, y1, y2, y3, y4, y5, y6, y7, tl8, et, htl8⟩ := len_8 htl0
   clear htl0
   subst et
   obtain ⟨y8, y9, y10, y11, y12, y13, y14, y15, tl16, et, htl16⟩ := len_8 htl8
   clear htl8
   subst et
   obtain ⟨y16, y17, y18, y19, y20, y21, y22, y23, tl24, et, htl24⟩ := len_8 htl16
   clear htl16
   subst et
   obtain ⟨y24, tl25, et, htl25⟩ := len_succ htl24
   clear htl24
   subst et
   obtain ⟨y25, tl26, et, htl26⟩ := len_succ htl25
   clear htl25
   subst et
   obtain ⟨y26, tl27, et, htl27⟩ := len_succ htl26
   clear htl26
   subst et
   obtain ⟨y27, tl28, et, htl28⟩ := len_succ htl27
   clear htl27
   subst et
   obtain ⟨y28, tl29, et, htl29⟩ := len_succ htl28
   clear htl28
   subst et
   obtain ⟨y29, tl30, et, htl30⟩ := len_succ htl29
   clear htl29
   subst et
   obtain ⟨y30, tl31, et, htl31⟩ := len_succ htl30
   clear htl30
   subst et
   have et := List.eq_nil_of_length_eq_zero htl31
   clear htl31
   subst et
   have g1 : y1 = .pointer (some ⟨b1, 0, none⟩) := f1
   have g3 : y3 = .pointer (some ⟨b3, 0, none⟩) := f3
   have g4 : y4 = .int .i64 k := f4
   have g0 : y0 = _ := f0
   have g2 : y2 = _ := f2
   have g5 : y5 = _ := f5
   have g6 : y6 = _ := f6
   have g7 : y7 = _ := f7
   have g8 : y8 = _ := f8
   have g9 : y9 = _ := f9
   have g10 : y10 = _ := f10
   have g11 : y11 = _ := f11
   have g12 : y12 = _ := f12
   have g13 : y13 = _ := f13
   have g14 : y14 = _ := f14
   have g15 : y15 = _ := f15
   have g16 : y16 = _ := f16
   have g17 : y17 = _ := f17
   have g18 : y18 = _ := f18
   have g30 : y30 = _ := f30
   clear f1 f3 f4 f0 f2 f5 f6 f7 f8 f9 f10 f11 f12 f13 f14 f15 f16 f17 f18 f30
   subst hd g1 g3 g4 g0 g2 g5 g6 g7 g8 g9 g10 g11 g12 g13 g14 g15 g16 g17 g18 g30
   have Z1 := Lib.hid (E1.ch c5 n13)
   have Z2 := Lib.hid (E2.ch c5 n23)
   have Z3 : Hid (Box w5 b3 [.int .u64 am, .string sg, .string tk, .slice (some ⟨g', 0, none⟩) (k + 1) c']) := B3'
   have O9 := Lib.hid (O'.ch c5 (fun x hx => by injection hx with hx; subst hx; exact x3))
   have Q9 : Hid (Q w0 w5) := c5.q Q' hb30
   have A9 : Hid (∀ x, some (⟨g', 0, none⟩ : Addr) = some x → x.block ≠ b1 ∧ x.block ≠ b2 ∧ x.block ≠ b3) := fun x hx => by injection hx with hx; subst hx; exact ⟨x1, x2, x3⟩
   clear hI hall hln c5 B3' eg O' E3 E1 E2 Q' x1 x2 x3 O D1 D2 D3 AP QR RW hg1 hg2 hab HKy hV hs hz hA vz_0 sz_0 vz_1 sz_1 vz_2 sz_2 vz_3 sz_3 vz_4 sz_4 vz_5 sz_5 vz_6 sz_6 vz_7 sz_7 vz_8 sz_8 vz_9 sz_9 vz_10 sz_10
   clear iz_0 iz_1 iz_2 iz_3 iz_4 iz_5 iz_6 iz_7 iz_8 iz_9 iz_10 iz_11 bz_1 frz_1 bz_3 frz_3 bz_4 frz_4 hO hQQ
   as_aux_lemma =>
   go_wp2_with fail
   go_roundw
   case rel => exact ⟨k + 1, some ⟨g', 0, none⟩, c', by omega, by go_num, O9, Z3, Z1, Z2, A9, Q9⟩
   case measure => simp [intOf]; omega
 · obtain rfl : n = k := by omega
   have k1 : ¬ (n : Int) < (n : Int) := by omega
   have t3 : decide (n < n) = false := by simp
   go_wp2_with (with_reducible (show wpList _ _ _ (⟨_, Op.load 41 _, _, _, _, _⟩ :: _) _ _); refine halt ?_)
   refine Lib.hid (ld_box rfl 41 _ rfl b3 _ rfl D3.out Tryz.underlying41 rfl (by kernel_rfl) ?_)
   refine st_box rfl 41 _ _ rfl b2 _ [.int .u64 am, .string sg, .string tk, .slice ad n c] rfl rfl D2.out rfl (by kernel_rfl) (one4 rfl rfl rfl rfl) ?_
   intro w9 B9 c9
   have HL : Hid ((loadVar 41 ⟨b2, 0, none⟩).run Tryz.prog w9 = .ok (.agg #[.int .u64 am, .string sg, .string tk, .slice ad n c]) w9) := B9.load _ Tryz.underlying41 rfl (by kernel_rfl)
   have O9 := Lib.hid (O.out.ch c9 (fun x hx => (AP.out x hx).2.1))
   have Q9 : Hid (Q w0 w9) := c9.q QR.out hb20
   clear B9 c9 O QR D1 D2 D3
   simp only [Act.put, pu]
   refine wpList_nil ?_
   go_step
   go_step
   go_step
   refine bodyPost_ret (results_cell rfl rfl HL.out) rfl ?_
   exact ⟨ad, c, rfl, O9.out, Q9.out⟩
end Go.Proofs.YtobfgljkckcmcaaGreatDoor.Coi
