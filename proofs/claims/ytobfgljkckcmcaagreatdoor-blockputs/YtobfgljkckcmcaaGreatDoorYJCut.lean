import Derived.Test.YtobfgljkckcmcaaGreatDoorYJCoiD
import Derived.Test.YtobfgljkckcmcaaGreatDoorYHCoiB
import Derived.Test.YtobfgljkckcmcaaGreatDoorYJPlan
set_option maxRecDepth 100000
namespace Go.Proofs.YtobfgljkckcmcaaGreatDoor.Coi
open Go.RowKit
open Mem Num Cod
set_option linter.unusedVariables false
/-- A text of at most so many bytes. -/
def cutS (s : ByteArray) (m : Int) : ByteArray := s.extract 0 (min (s.size : Int) m).toNat
theorem cutS_le (s : ByteArray) (m : Int) (k : Nat) (h : m = k) : (cutS s m).size ≤ k := by subst h; unfold cutS; rw [ByteArray.size_extract]; omega
def cutO (x : OU) : OU := ⟨x.kind, x.amount, cutS x.key 40, cutS x.gate 40, x.expiry, cutS x.anchor 40, x.unit, x.tokens, cutS x.of_ 40⟩
set_option maxHeartbeats 4000000 in
theorem cutout_x (x : OU) (w : World) (h1 : x.key.size ≤ maxLen) (h2 : x.gate.size ≤ maxLen) (h3 : x.anchor.size ≤ maxLen) (h4 : x.of_.size ≤ maxLen) :
 Calls Tryz.prog 42 #[ouV x] w fun e w' => e = .returned (ouV (cutO x)) ∧ Q w w' := by
 obtain ⟨kind, amount, key, gate, expiry, anchor, unit, tokens, of_⟩ := x
 dsimp only at *
 unfold maxLen at h1 h2 h3 h4
 obtain ⟨k2, e1⟩ : ∃ z, key.extract 0 (min (key.size : Int) 40).toNat = z := ⟨_, rfl⟩
 obtain ⟨g2, e2⟩ : ∃ z, gate.extract 0 (min (gate.size : Int) 40).toNat = z := ⟨_, rfl⟩
 obtain ⟨a2, e3⟩ : ∃ z, anchor.extract 0 (min (anchor.size : Int) 40).toNat = z := ⟨_, rfl⟩
 obtain ⟨o2, e4⟩ : ∃ z, of_.extract 0 (min (of_.size : Int) 40).toNat = z := ⟨_, rfl⟩
 have HE : Hid (cutO ⟨kind, amount, key, gate, expiry, anchor, unit, tokens, of_⟩ = ⟨kind, amount, k2, g2, expiry, a2, unit, tokens, o2⟩) := by show _ = _; rw [← e1, ← e2, ← e3, ← e4]; rfl
 go_enter Tryz.func42, Tryz.ntmps42
 go_wp2_with (with_reducible (show wpList _ _ _ (⟨_, Op.load 47 _, _, _, _, _⟩ :: _) _ _); refine halt ?_)
 have HQ : Hid (Q w ((w.alloc (.cells #[.int .i64 kind, .int .u64 amount, .string k2, .string g2, .int .i64 expiry, .string a2, .int .u64 unit, .int .i64 tokens, .string o2] 47)).alloc (.cells #[.int .i64 0, .int .u64 0, .string ⟨#[]⟩, .string ⟨#[]⟩, .int .i64 0, .string ⟨#[]⟩, .int .u64 0, .int .i64 0, .string ⟨#[]⟩] 47))) := ((Q.refl w).alloc _).alloc _
 have B1 : Hid (Box ((w.alloc (.cells #[.int .i64 kind, .int .u64 amount, .string k2, .string g2, .int .i64 expiry, .string a2, .int .u64 unit, .int .i64 tokens, .string o2] 47)).alloc (.cells #[.int .i64 0, .int .u64 0, .string ⟨#[]⟩, .string ⟨#[]⟩, .int .i64 0, .string ⟨#[]⟩, .int .u64 0, .int .i64 0, .string ⟨#[]⟩] 47)) w.heap.size [.int .i64 kind, .int .u64 amount, .string k2, .string g2, .int .i64 expiry, .string a2, .int .u64 unit, .int .i64 tokens, .string o2]) := (Box.new w [.int .i64 kind, .int .u64 amount, .string k2, .string g2, .int .i64 expiry, .string a2, .int .u64 unit, .int .i64 tokens, .string o2] 47).q ((Q.refl _).alloc _)
 have B2 : Hid (Box ((w.alloc (.cells #[.int .i64 kind, .int .u64 amount, .string k2, .string g2, .int .i64 expiry, .string a2, .int .u64 unit, .int .i64 tokens, .string o2] 47)).alloc (.cells #[.int .i64 0, .int .u64 0, .string ⟨#[]⟩, .string ⟨#[]⟩, .int .i64 0, .string ⟨#[]⟩, .int .u64 0, .int .i64 0, .string ⟨#[]⟩] 47)) (w.heap.size + 1) [.int .i64 0, .int .u64 0, .string ⟨#[]⟩, .string ⟨#[]⟩, .int .i64 0, .string ⟨#[]⟩, .int .u64 0, .int .i64 0, .string ⟨#[]⟩]) := by
  have := Box.new (w.alloc (.cells #[.int .i64 kind, .int .u64 amount, .string k2, .string g2, .int .i64 expiry, .string a2, .int .u64 unit, .int .i64 tokens, .string o2] 47)) [.int .i64 0, .int .u64 0, .string ⟨#[]⟩, .string ⟨#[]⟩, .int .i64 0, .string ⟨#[]⟩, .int .u64 0, .int .i64 0, .string ⟨#[]⟩] 47
  rw [show (w.alloc (.cells #[.int .i64 kind, .int .u64 amount, .string k2, .string g2, .int .i64 expiry, .string a2, .int .u64 unit, .int .i64 tokens, .string o2] 47)).heap.size = w.heap.size + 1 by simp] at this
  exact this
 generalize (w.alloc (.cells #[.int .i64 kind, .int .u64 amount, .string k2, .string g2, .int .i64 expiry, .string a2, .int .u64 unit, .int .i64 tokens, .string o2] 47)).alloc (.cells #[.int .i64 0, .int .u64 0, .string ⟨#[]⟩, .string ⟨#[]⟩, .int .i64 0, .string ⟨#[]⟩, .int .u64 0, .int .i64 0, .string ⟨#[]⟩] 47) = w2 at *
 refine Lib.hid (ld_box rfl 47 _ rfl w.heap.size _ rfl B1.out Tryz.underlying47 rfl (by kernel_rfl) ?_)
 refine st_box rfl 47 _ _ rfl (w.heap.size + 1) _ [.int .i64 kind, .int .u64 amount, .string k2, .string g2, .int .i64 expiry, .string a2, .int .u64 unit, .int .i64 tokens, .string o2] rfl rfl B2.out rfl (by kernel_rfl) (one9 rfl rfl rfl rfl rfl rfl rfl rfl rfl) ?_
 intro w3 B3 c3
 have HL : Hid ((loadVar 47 ⟨w.heap.size + 1, 0, none⟩).run Tryz.prog w3 = .ok (.agg #[.int .i64 kind, .int .u64 amount, .string k2, .string g2, .int .i64 expiry, .string a2, .int .u64 unit, .int .i64 tokens, .string o2]) w3) := B3.load _ Tryz.underlying47 rfl (by kernel_rfl)
 have Q3 : Hid (Q w w3) := c3.q HQ.out (by omega)
 clear c3 B3
 go_wp2_with fail
 (try simp only [Exit.inBlock, Exit.then])
 refine bodyPost_ret (results_cell rfl rfl HL.out) rfl ?_
 exact ⟨by rw [HE.out], Q3.out⟩
abbrev tkV (x : WN) : Value := .agg #[.string x.chan, .int .u64 x.serial, .int .u64 x.face, .int .u64 x.wins, .int .u64 x.many, .string x.commit, .int .u64 x.client, .string x.sig]
def cutT (x : WN) : WN := ⟨cutS x.chan 40, x.serial, x.face, x.wins, x.many, cutS x.commit 40, x.client, cutS x.sig 450, x.salt, x.drawn⟩
theorem one8 {v0 v1 v2 v3 v4 v5 v6 v7 : Value} (h0 : v0.oneCell' = true) (h1 : v1.oneCell' = true) (h2 : v2.oneCell' = true) (h3 : v3.oneCell' = true) (h4 : v4.oneCell' = true) (h5 : v5.oneCell' = true) (h6 : v6.oneCell' = true) (h7 : v7.oneCell' = true) : ∀ v ∈ [v0, v1, v2, v3, v4, v5, v6, v7], v.oneCell' = true := by
 intro v hv; simp at hv; rcases hv with rfl | rfl | rfl | rfl | rfl | rfl | rfl | rfl <;> assumption
set_option maxHeartbeats 4000000 in
theorem cutticket_x (x : WN) (w : World) (h1 : x.chan.size ≤ maxLen) (h2 : x.commit.size ≤ maxLen) (h3 : x.sig.size ≤ maxLen) :
 Calls Tryz.prog 125 #[tkV x] w fun e w' => e = .returned (tkV (cutT x)) ∧ Q w w' := by
 obtain ⟨chan, serial, face, wins, many, commit, client, sig, salt, drawn⟩ := x
 dsimp only at *
 unfold maxLen at h1 h2 h3
 obtain ⟨c2, e1⟩ : ∃ z, chan.extract 0 (min (chan.size : Int) 40).toNat = z := ⟨_, rfl⟩
 obtain ⟨k2, e2⟩ : ∃ z, commit.extract 0 (min (commit.size : Int) 40).toNat = z := ⟨_, rfl⟩
 obtain ⟨s2, e3⟩ : ∃ z, sig.extract 0 (min (sig.size : Int) 450).toNat = z := ⟨_, rfl⟩
 have HE : Hid (tkV (cutT ⟨chan, serial, face, wins, many, commit, client, sig, salt, drawn⟩) = .agg #[.string c2, .int .u64 serial, .int .u64 face, .int .u64 wins, .int .u64 many, .string k2, .int .u64 client, .string s2]) := by show _ = _; rw [← e1, ← e2, ← e3]; rfl
 go_enter Tryz.func125, Tryz.ntmps125
 go_wp2_with (with_reducible (show wpList _ _ _ (⟨_, Op.load 133 _, _, _, _, _⟩ :: _) _ _); refine halt ?_)
 have HQ : Hid (Q w ((w.alloc (.cells #[.string c2, .int .u64 serial, .int .u64 face, .int .u64 wins, .int .u64 many, .string k2, .int .u64 client, .string s2] 133)).alloc (.cells #[.string ⟨#[]⟩, .int .u64 0, .int .u64 0, .int .u64 0, .int .u64 0, .string ⟨#[]⟩, .int .u64 0, .string ⟨#[]⟩] 133))) := ((Q.refl w).alloc _).alloc _
 have B1 : Hid (Box ((w.alloc (.cells #[.string c2, .int .u64 serial, .int .u64 face, .int .u64 wins, .int .u64 many, .string k2, .int .u64 client, .string s2] 133)).alloc (.cells #[.string ⟨#[]⟩, .int .u64 0, .int .u64 0, .int .u64 0, .int .u64 0, .string ⟨#[]⟩, .int .u64 0, .string ⟨#[]⟩] 133)) w.heap.size [.string c2, .int .u64 serial, .int .u64 face, .int .u64 wins, .int .u64 many, .string k2, .int .u64 client, .string s2]) := (Box.new w [.string c2, .int .u64 serial, .int .u64 face, .int .u64 wins, .int .u64 many, .string k2, .int .u64 client, .string s2] 133).q ((Q.refl _).alloc _)
 have B2 : Hid (Box ((w.alloc (.cells #[.string c2, .int .u64 serial, .int .u64 face, .int .u64 wins, .int .u64 many, .string k2, .int .u64 client, .string s2] 133)).alloc (.cells #[.string ⟨#[]⟩, .int .u64 0, .int .u64 0, .int .u64 0, .int .u64 0, .string ⟨#[]⟩, .int .u64 0, .string ⟨#[]⟩] 133)) (w.heap.size + 1) [.string ⟨#[]⟩, .int .u64 0, .int .u64 0, .int .u64 0, .int .u64 0, .string ⟨#[]⟩, .int .u64 0, .string ⟨#[]⟩]) := by
  have := Box.new (w.alloc (.cells #[.string c2, .int .u64 serial, .int .u64 face, .int .u64 wins, .int .u64 many, .string k2, .int .u64 client, .string s2] 133)) [.string ⟨#[]⟩, .int .u64 0, .int .u64 0, .int .u64 0, .int .u64 0, .string ⟨#[]⟩, .int .u64 0, .string ⟨#[]⟩] 133
  rw [show (w.alloc (.cells #[.string c2, .int .u64 serial, .int .u64 face, .int .u64 wins, .int .u64 many, .string k2, .int .u64 client, .string s2] 133)).heap.size = w.heap.size + 1 by simp] at this
  exact this
 generalize (w.alloc (.cells #[.string c2, .int .u64 serial, .int .u64 face, .int .u64 wins, .int .u64 many, .string k2, .int .u64 client, .string s2] 133)).alloc (.cells #[.string ⟨#[]⟩, .int .u64 0, .int .u64 0, .int .u64 0, .int .u64 0, .string ⟨#[]⟩, .int .u64 0, .string ⟨#[]⟩] 133) = w2 at *
 refine Lib.hid (ld_box rfl 133 _ rfl w.heap.size _ rfl B1.out Tryz.underlying133 rfl (by kernel_rfl) ?_)
 refine st_box rfl 133 _ _ rfl (w.heap.size + 1) _ [.string c2, .int .u64 serial, .int .u64 face, .int .u64 wins, .int .u64 many, .string k2, .int .u64 client, .string s2] rfl rfl B2.out rfl (by kernel_rfl) (one8 rfl rfl rfl rfl rfl rfl rfl rfl) ?_
 intro w3 B3 c3
 have HL : Hid ((loadVar 133 ⟨w.heap.size + 1, 0, none⟩).run Tryz.prog w3 = .ok (.agg #[.string c2, .int .u64 serial, .int .u64 face, .int .u64 wins, .int .u64 many, .string k2, .int .u64 client, .string s2]) w3) := B3.load _ Tryz.underlying133 rfl (by kernel_rfl)
 have Q3 : Hid (Q w w3) := c3.q HQ.out (by omega)
 clear c3 B3
 go_wp2_with fail
 (try simp only [Exit.inBlock, Exit.then])
 refine bodyPost_ret (results_cell rfl rfl HL.out) rfl ?_
 exact ⟨by rw [HE.out], Q3.out⟩
open Mem Num Cod Plan
set_option linter.unusedSimpArgs false
theorem built_cutwin (v0 : ByteArray) (v1 v2 v3 v4 : Int) (v5 : ByteArray) (v6 : Int) (v7 v8 : ByteArray) (v9 : Int) : Tryz.prog.built 135 [(0, .agg #[.string v0, .int .u64 v1, .int .u64 v2, .int .u64 v3, .int .u64 v4, .string v5, .int .u64 v6, .string v7]), (1, .string v8), (2, .int .u64 v9)] = some #[.string v0, .int .u64 v1, .int .u64 v2, .int .u64 v3, .int .u64 v4, .string v5, .int .u64 v6, .string v7, .string v8, .int .u64 v9] := by kernel_rfl
def cutW (x : WN) : WN := ⟨cutS x.chan 40, x.serial, x.face, x.wins, x.many, cutS x.commit 40, x.client, cutS x.sig 450, cutS x.salt 40, x.drawn⟩
set_option maxHeartbeats 40000000 in
theorem cutwin_x (x : WN) (w0 : World) (h1 : x.chan.size ≤ maxLen) (h2 : x.commit.size ≤ maxLen) (h3 : x.sig.size ≤ maxLen) (h4 : x.salt.size ≤ maxLen) :
 Calls Tryz.prog 89 #[wnV x] w0 fun e w' => e = .returned (wnV (cutW x)) ∧ Q w0 w' := by
 have CT0 := cutticket_x x
 obtain ⟨chan, serial, face, wins, many, commit, client, sig, salt, drawn⟩ := x
 dsimp only at *
 obtain ⟨c2, e1⟩ : ∃ z, chan.extract 0 (min (chan.size : Int) 40).toNat = z := ⟨_, rfl⟩
 obtain ⟨k2, e2⟩ : ∃ z, commit.extract 0 (min (commit.size : Int) 40).toNat = z := ⟨_, rfl⟩
 obtain ⟨s2, e3⟩ : ∃ z, sig.extract 0 (min (sig.size : Int) 450).toNat = z := ⟨_, rfl⟩
 obtain ⟨l2, e4⟩ : ∃ z, salt.extract 0 (min (salt.size : Int) 40).toNat = z := ⟨_, rfl⟩
 have HE : Hid (wnV (cutW ⟨chan, serial, face, wins, many, commit, client, sig, salt, drawn⟩) = .agg #[.string c2, .int .u64 serial, .int .u64 face, .int .u64 wins, .int .u64 many, .string k2, .int .u64 client, .string s2, .string l2, .int .u64 drawn]) := by show _ = _; rw [← e1, ← e2, ← e3, ← e4]; rfl
 have CT : Hid (∀ w, Calls Tryz.prog 125 #[.agg #[.string chan, .int .u64 serial, .int .u64 face, .int .u64 wins, .int .u64 many, .string commit, .int .u64 client, .string sig]] w fun e w' => e = .returned (.agg #[.string c2, .int .u64 serial, .int .u64 face, .int .u64 wins, .int .u64 many, .string k2, .int .u64 client, .string s2]) ∧ Q w w') := fun w => by
  have := CT0 w h1 h2 h3
  have e5 : tkV (cutT ⟨chan, serial, face, wins, many, commit, client, sig, salt, drawn⟩) = .agg #[.string c2, .int .u64 serial, .int .u64 face, .int .u64 wins, .int .u64 many, .string k2, .int .u64 client, .string s2] := by rw [← e1, ← e2, ← e3]; rfl
  rw [e5] at this
  exact this
 clear CT0 e1 e2 e3
 unfold maxLen at h4
 go_enter Tryz.func89, Tryz.ntmps89
 go_wp2_with fail
 have HQ : Hid (Q w0 ((w0.alloc (.cells #[.string chan, .int .u64 serial, .int .u64 face, .int .u64 wins, .int .u64 many, .string commit, .int .u64 client, .string sig, .string salt, .int .u64 drawn] 135)).alloc (.cells #[.string ⟨#[]⟩, .int .u64 0, .int .u64 0, .int .u64 0, .int .u64 0, .string ⟨#[]⟩, .int .u64 0, .string ⟨#[]⟩, .string ⟨#[]⟩, .int .u64 0] 135))) := ((Q.refl w0).alloc _).alloc _
 have B1 : Hid (Box ((w0.alloc (.cells #[.string chan, .int .u64 serial, .int .u64 face, .int .u64 wins, .int .u64 many, .string commit, .int .u64 client, .string sig, .string salt, .int .u64 drawn] 135)).alloc (.cells #[.string ⟨#[]⟩, .int .u64 0, .int .u64 0, .int .u64 0, .int .u64 0, .string ⟨#[]⟩, .int .u64 0, .string ⟨#[]⟩, .string ⟨#[]⟩, .int .u64 0] 135)) w0.heap.size [.string chan, .int .u64 serial, .int .u64 face, .int .u64 wins, .int .u64 many, .string commit, .int .u64 client, .string sig, .string salt, .int .u64 drawn]) := (Box.new w0 [.string chan, .int .u64 serial, .int .u64 face, .int .u64 wins, .int .u64 many, .string commit, .int .u64 client, .string sig, .string salt, .int .u64 drawn] 135).q ((Q.refl _).alloc _)
 have B2 : Hid (Box ((w0.alloc (.cells #[.string chan, .int .u64 serial, .int .u64 face, .int .u64 wins, .int .u64 many, .string commit, .int .u64 client, .string sig, .string salt, .int .u64 drawn] 135)).alloc (.cells #[.string ⟨#[]⟩, .int .u64 0, .int .u64 0, .int .u64 0, .int .u64 0, .string ⟨#[]⟩, .int .u64 0, .string ⟨#[]⟩, .string ⟨#[]⟩, .int .u64 0] 135)) (w0.heap.size + 1) [.string ⟨#[]⟩, .int .u64 0, .int .u64 0, .int .u64 0, .int .u64 0, .string ⟨#[]⟩, .int .u64 0, .string ⟨#[]⟩, .string ⟨#[]⟩, .int .u64 0]) := by
  have := Box.new (w0.alloc (.cells #[.string chan, .int .u64 serial, .int .u64 face, .int .u64 wins, .int .u64 many, .string commit, .int .u64 client, .string sig, .string salt, .int .u64 drawn] 135)) [.string ⟨#[]⟩, .int .u64 0, .int .u64 0, .int .u64 0, .int .u64 0, .string ⟨#[]⟩, .int .u64 0, .string ⟨#[]⟩, .string ⟨#[]⟩, .int .u64 0] 135
  rw [show (w0.alloc (.cells #[.string chan, .int .u64 serial, .int .u64 face, .int .u64 wins, .int .u64 many, .string commit, .int .u64 client, .string sig, .string salt, .int .u64 drawn] 135)).heap.size = w0.heap.size + 1 by simp] at this
  exact this
 generalize (w0.alloc (.cells #[.string chan, .int .u64 serial, .int .u64 face, .int .u64 wins, .int .u64 many, .string commit, .int .u64 client, .string sig, .string salt, .int .u64 drawn] 135)).alloc (.cells #[.string ⟨#[]⟩, .int .u64 0, .int .u64 0, .int .u64 0, .int .u64 0, .string ⟨#[]⟩, .int .u64 0, .string ⟨#[]⟩, .string ⟨#[]⟩, .int .u64 0] 135) = wA at *
 have hb2 : w0.heap.size ≤ w0.heap.size + 1 := by omega
 obtain ⟨b2, hb⟩ : ∃ b, w0.heap.size + 1 = b := ⟨_, rfl⟩
 rw [hb] at B2 hb2 ⊢
 obtain ⟨b1, hb1⟩ : ∃ b, w0.heap.size = b := ⟨_, rfl⟩
 rw [hb1] at B1 ⊢
 have hS0 : Q wA wA.drew := (Q.refl wA).drew
 refine region_gen3 ?_
 intro OPS QQ A0 hO hQQ hA
 have hz : A0.tmps.size = 16 := by rw [hA]; rfl
 have hs : sound OPS A0.tmps.size = true := by rw [hz, hO]; kernel_rfl
 have b_1 : A0.eval (.tmp 1) = .pointer (some ⟨b1, 0, none⟩) := by rw [hA]; rfl
 have fr_1 : free OPS 1 = true := by rw [hO]; kernel_rfl
 have b_2 : A0.eval (.tmp 2) = .pointer (some ⟨b2, 0, none⟩) := by rw [hA]; rfl
 have fr_2 : free OPS 2 = true := by rw [hO]; kernel_rfl
 obtain ⟨VV, hVV⟩ : ∃ V : Nat → Value → World → Prop, V = fun i => ([fun v _ => v = .pointer (some ⟨b1, 0, none⟩), fun v _ => v = .agg #[.string chan, .int .u64 serial, .int .u64 face, .int .u64 wins, .int .u64 many, .string commit, .int .u64 client, .string sig], fun v _ => v = .agg #[.string c2, .int .u64 serial, .int .u64 face, .int .u64 wins, .int .u64 many, .string k2, .int .u64 client, .string s2], fun v _ => v = .pointer (some ⟨b1, 8, none⟩), fun v _ => v = .string salt, fun v _ => v = .pointer (some ⟨b1, 8, none⟩), fun v _ => v = .string salt, fun v _ => v = .int .i64 salt.size, fun v _ => v = .int .i64 (min (salt.size : Int) 40), fun v _ => v = .string l2, fun v _ => v = .pointer (some ⟨b1, 9, none⟩), fun v _ => v = .int .u64 drawn, fun v _ => v = .agg #[.string c2, .int .u64 serial, .int .u64 face, .int .u64 wins, .int .u64 many, .string k2, .int .u64 client, .string s2, .string l2, .int .u64 drawn]] : List (Value → World → Prop)).getD i (fun _ _ => True) := ⟨_, rfl⟩
 have v_0 : VV 0 = fun v _ => v = .pointer (some ⟨b1, 0, none⟩) := vat hVV 0
 have v_1 : VV 1 = fun v _ => v = .agg #[.string chan, .int .u64 serial, .int .u64 face, .int .u64 wins, .int .u64 many, .string commit, .int .u64 client, .string sig] := vat hVV 1
 have v_2 : VV 2 = fun v _ => v = .agg #[.string c2, .int .u64 serial, .int .u64 face, .int .u64 wins, .int .u64 many, .string k2, .int .u64 client, .string s2] := vat hVV 2
 have v_3 : VV 3 = fun v _ => v = .pointer (some ⟨b1, 8, none⟩) := vat hVV 3
 have v_4 : VV 4 = fun v _ => v = .string salt := vat hVV 4
 have v_5 : VV 5 = fun v _ => v = .pointer (some ⟨b1, 8, none⟩) := vat hVV 5
 have v_6 : VV 6 = fun v _ => v = .string salt := vat hVV 6
 have v_7 : VV 7 = fun v _ => v = .int .i64 salt.size := vat hVV 7
 have v_8 : VV 8 = fun v _ => v = .int .i64 (min (salt.size : Int) 40) := vat hVV 8
 have v_9 : VV 9 = fun v _ => v = .string l2 := vat hVV 9
 have v_10 : VV 10 = fun v _ => v = .pointer (some ⟨b1, 9, none⟩) := vat hVV 10
 have v_11 : VV 11 = fun v _ => v = .int .u64 drawn := vat hVV 11
 have v_12 : VV 12 = fun v _ => v = .agg #[.string c2, .int .u64 serial, .int .u64 face, .int .u64 wins, .int .u64 many, .string k2, .int .u64 client, .string s2, .string l2, .int .u64 drawn] := vat hVV 12
 have hV := stablex_of (T := Q) (p := 13) hVV ((kx (kx (kx (kx (kx (kx (kx (kx (kx (kx (kx (kx (kx trivial))))))))))))))
 clear hVV
 have i_0 := pget_at hO 0 rfl
 have i_1 := pget_at hO 1 rfl
 have i_2 := pget_at hO 2 rfl
 have i_3 := pget_at hO 3 rfl
 have i_4 := pget_at hO 4 rfl
 have i_5 := pget_at hO 5 rfl
 have i_6 := pget_at hO 6 rfl
 have i_7 := pget_at hO 7 rfl
 have i_8 := pget_at hO 8 rfl
 have i_9 := pget_at hO 9 rfl
 have i_10 := pget_at hO 10 rfl
 have i_11 := pget_at hO 11 rfl
 have i_12 := pget_at hO 12 rfl
 have i_13 := pget_at hO 13 rfl
 have MK1 := @Step2.pure Tryz.prog OPS QQ VV Q (Q wA) A0 13
 have s_0 := MK1 i_0 (by rw [hO]; kernel_rfl) (.pointer (some ⟨b1, 0, none⟩)) (Q.refl ·) (fun l a w hI hl hS => ⟨wanted_none rfl, (by have e0 : a.eval (.tmp 1) = _ := ((hI.base 1 fr_1).trans b_1); generalize a.eval = ρ at e0 ⊢; simp [go_sem, e0]), at_mk v_0 rfl⟩)
 have s_1 := MK1 i_1 (by rw [hO]; kernel_rfl) (.agg #[.string chan, .int .u64 serial, .int .u64 face, .int .u64 wins, .int .u64 many, .string commit, .int .u64 client, .string sig]) (Q.refl ·) (fun l a w hI hl hS => ⟨wanted_none rfl, ex_loado 133 rfl b1 0 [.string chan, .int .u64 serial, .int .u64 face, .int .u64 wins, .int .u64 many, .string commit, .int .u64 client, .string sig] _ (at_eq v_0 (hI.at_ 0 3 _ i_0 rfl (hl_at hl 0 rfl rfl))) ((B1.out.q hS).rangeo 0 (r := [.string salt, .int .u64 drawn]) rfl) Tryz.underlying133 rfl (by kernel_rfl), at_mk v_1 rfl⟩)
 have MK2 := @Step2.done Tryz.prog OPS QQ VV Q (Q wA) A0 13
 have s_2 := MK2 i_2 (by rw [hO]; kernel_rfl) (fun l a w hI hl hS => by
  refine ⟨wanted_none rfl, ?_⟩
  refine wp_enter (f := 125) (args := #[.agg #[.string chan, .int .u64 serial, .int .u64 face, .int .u64 wins, .int .u64 many, .string commit, .int .u64 client, .string sig]]) ?_ ?_
  · exact ex_call rfl (by simp only [List.map_toArray, List.map_cons, List.map_nil, ev_const, (show a.eval (.tmp 4) = _ from (at_eq v_1 (hI.at_ 1 4 _ i_1 rfl (hl_at hl 0 rfl rfl))))]) Tryz.func125 (by kernel_rfl) (by kernel_rfl)
  · refine (CT.out w).mono fun e w' hc => ?_
    obtain ⟨rfl, hq⟩ := hc
    exact ⟨_, rfl, hq, hS.trans hq, at_mk v_2 rfl⟩)
 have s_3 := MK1 i_3 (by rw [hO]; kernel_rfl) (.pointer (some ⟨b1, 8, none⟩)) (Q.refl ·) (fun l a w hI hl hS => ⟨wanted_none rfl, (by have e0 : a.eval (.tmp 1) = _ := ((hI.base 1 fr_1).trans b_1); generalize a.eval = ρ at e0 ⊢; simp [go_sem, e0]), at_mk v_3 rfl⟩)
 have s_4 := MK1 i_4 (by rw [hO]; kernel_rfl) (.string salt) (Q.refl ·) (fun l a w hI hl hS => ⟨wanted_none rfl, (by have e0 : a.eval (.tmp 6) = _ := (at_eq v_3 (hI.at_ 3 6 _ i_3 rfl (hl_at hl 0 rfl rfl))); have x0 := (B1.out.q hS).at_ 8 _ rfl; generalize a.eval = ρ at e0 ⊢; simp [go_sem, e0, x0]), at_mk v_4 rfl⟩)
 have s_5 := MK1 i_5 (by rw [hO]; kernel_rfl) (.pointer (some ⟨b1, 8, none⟩)) (Q.refl ·) (fun l a w hI hl hS => ⟨wanted_none rfl, (by have e0 : a.eval (.tmp 1) = _ := ((hI.base 1 fr_1).trans b_1); generalize a.eval = ρ at e0 ⊢; simp [go_sem, e0]), at_mk v_5 rfl⟩)
 have s_6 := MK1 i_6 (by rw [hO]; kernel_rfl) (.string salt) (Q.refl ·) (fun l a w hI hl hS => ⟨wanted_none rfl, (by have e0 : a.eval (.tmp 8) = _ := (at_eq v_5 (hI.at_ 5 8 _ i_5 rfl (hl_at hl 0 rfl rfl))); have x0 := (B1.out.q hS).at_ 8 _ rfl; generalize a.eval = ρ at e0 ⊢; simp [go_sem, e0, x0]), at_mk v_6 rfl⟩)
 have s_7 := MK1 i_7 (by rw [hO]; kernel_rfl) (.int .i64 salt.size) (Q.refl ·) (fun l a w hI hl hS => ⟨wanted_none rfl, (by have e0 : a.eval (.tmp 9) = _ := (at_eq v_6 (hI.at_ 6 9 _ i_6 rfl (hl_at hl 0 rfl rfl))); generalize a.eval = ρ at e0 ⊢; simp [go_sem, e0]), at_mk v_7 rfl⟩)
 have s_8 := MK1 i_8 (by rw [hO]; kernel_rfl) (.int .i64 (min (salt.size : Int) 40)) (Q.refl ·) (fun l a w hI hl hS => ⟨wanted_none rfl, (by have e0 : a.eval (.tmp 10) = _ := (at_eq v_7 (hI.at_ 7 10 _ i_7 rfl (hl_at hl 0 rfl rfl))); have e1 : a.eval (.const (.int .i64 40)) = .int .i64 40 := rfl; generalize a.eval = ρ at e0 e1 ⊢; simp [go_sem, e0, e1]), at_mk v_8 rfl⟩)
 have s_9 := MK1 i_9 (by rw [hO]; kernel_rfl) (.string l2) (Q.refl ·) (fun l a w hI hl hS => ⟨wanted_none rfl, (by have e0 : a.eval (.tmp 7) = _ := (at_eq v_4 (hI.at_ 4 7 _ i_4 rfl (hl_at hl 0 rfl rfl))); have e1 : a.eval (.tmp 11) = _ := (at_eq v_8 (hI.at_ 8 11 _ i_8 rfl (hl_at hl 1 rfl rfl))); generalize a.eval = ρ at e0 e1 ⊢; simp [go_sem, e0, e1, e4, h4]; try omega), at_mk v_9 rfl⟩)
 have s_10 := MK1 i_10 (by rw [hO]; kernel_rfl) (.pointer (some ⟨b1, 9, none⟩)) (Q.refl ·) (fun l a w hI hl hS => ⟨wanted_none rfl, (by have e0 : a.eval (.tmp 1) = _ := ((hI.base 1 fr_1).trans b_1); generalize a.eval = ρ at e0 ⊢; simp [go_sem, e0]), at_mk v_10 rfl⟩)
 have s_11 := MK1 i_11 (by rw [hO]; kernel_rfl) (.int .u64 drawn) (Q.refl ·) (fun l a w hI hl hS => ⟨wanted_none rfl, (by have e0 : a.eval (.tmp 13) = _ := (at_eq v_10 (hI.at_ 10 13 _ i_10 rfl (hl_at hl 0 rfl rfl))); have x0 := (B1.out.q hS).at_ 9 _ rfl; generalize a.eval = ρ at e0 ⊢; simp [go_sem, e0, x0]), at_mk v_11 rfl⟩)
 have s_12 := MK1 i_12 (by rw [hO]; kernel_rfl) (.agg #[.string c2, .int .u64 serial, .int .u64 face, .int .u64 wins, .int .u64 many, .string k2, .int .u64 client, .string s2, .string l2, .int .u64 drawn]) (Q.refl ·) (fun l a w hI hl hS => ⟨wanted_none rfl, ex_build rfl (by simp only [List.map_toArray, List.map_cons, List.map_nil, (show a.eval (.tmp 5) = _ from (at_eq v_2 (hI.at_ 2 5 _ i_2 rfl (hl_at hl 0 rfl rfl)))), (show a.eval (.tmp 12) = _ from (at_eq v_9 (hI.at_ 9 12 _ i_9 rfl (hl_at hl 1 rfl rfl)))), (show a.eval (.tmp 14) = _ from (at_eq v_11 (hI.at_ 11 14 _ i_11 rfl (hl_at hl 2 rfl rfl))))]; exact built_cutwin c2 serial face wins many k2 client s2 l2 drawn), at_mk v_12 rfl⟩)
 refine wp_plan2 VV (Q) (Q wA) 13 13 (by kernel_rfl) hs (by rw [hO]; rfl) (by rw [hO]; kernel_rfl) hV hS0 (steps2_all hO _ rfl ((s2_cons s_0 (s2_cons s_1 (s2_cons s_2 (s2_cons s_3 (s2_cons s_4 (s2_cons s_5 (s2_cons s_6 (s2_cons s_7 (s2_cons s_8 (s2_cons s_9 (s2_cons s_10 (s2_cons s_11 (s2_cons s_12 trivial))))))))))))))) ?_
 intro l a w hall hln hI
 have hS := hI.st hln
 refine fin_of i_13 (wanted_none rfl) ?_
 refine wpo_st_box 135 _ _ rfl b2 _ [.string c2, .int .u64 serial, .int .u64 face, .int .u64 wins, .int .u64 many, .string k2, .int .u64 client, .string s2, .string l2, .int .u64 drawn] ((hI.base 2 fr_2).trans b_2) (at_eq v_12 (hI.at_ 12 15 _ i_12 rfl (hall 12 (by decide)))) (B2.out.q hS) rfl (by kernel_rfl) (one10 rfl rfl rfl rfl rfl rfl rfl rfl rfl rfl) ?_
 intro w3 B3 c3
 have e2 : a.tmps.getD 2 undef = .pointer (some ⟨b2, 0, none⟩) := ((hI.base 2 fr_2).trans b_2)
 have hd : a.defers = [] := by rw [hI.df, hA]
 have HL : Hid ((loadVar 135 ⟨b2, 0, none⟩).run Tryz.prog w3 = .ok (.agg #[.string c2, .int .u64 serial, .int .u64 face, .int .u64 wins, .int .u64 many, .string k2, .int .u64 client, .string s2, .string l2, .int .u64 drawn]) w3) := B3.load _ Tryz.underlying135 rfl (by kernel_rfl)
 have Q3 : Hid (Q w0 w3) := c3.q (HQ.out.trans hS) hb2
 rw [hQQ]
 clear hI hall hln c3 B3 hS
 go_wp2_with fail
 (try simp only [Exit.inBlock, Exit.then])
 refine bodyPost_ret (results_cell rfl e2 HL.out) hd ?_
 exact ⟨by rw [HE.out], Q3.out⟩
theorem built_cutp (v0 : Int) (v1 v2 : ByteArray) : Tryz.prog.built 27 [(0, .int .u64 v0), (1, .string v1), (2, .string v2)] = some #[.int .u64 v0, .string v1, .string v2, .slice none 0 0] := by kernel_rfl
def cutP (p : PF) : PF := ⟨p.amount, cutS p.sig 450, cutS p.token 40, min p.n 6, fun i => cutW (p.w i)⟩
set_option maxHeartbeats 40000000 in
theorem cutp_x (p : PF) (aW : Option Addr) (cW : Nat) (w0 : World) (hw : Ins WN.cells 10 WN.wide w0 aW p.n cW p.w) (h1 : p.sig.size ≤ maxLen) (h2 : p.token.size ≤ maxLen) :
 Calls Tryz.prog 41 #[pfV p aW cW] w0 fun e w' => ∃ a c, e = .returned (pfV (cutP p) a c) ∧ OR 135 WN.cells 10 w' w0.heap.size a (min p.n 6) c (cutP p).w ∧ Q w0 w' := by
 obtain ⟨amount, sig, token, n0, wn⟩ := p
 dsimp only at *
 obtain ⟨sg2, eA⟩ : ∃ z, sig.extract 0 (min (sig.size : Int) 450).toNat = z := ⟨_, rfl⟩
 obtain ⟨tk2, eB⟩ : ∃ z, token.extract 0 (min (token.size : Int) 40).toNat = z := ⟨_, rfl⟩
 obtain ⟨n, hn⟩ : ∃ n, min n0 6 = n := ⟨_, rfl⟩
 obtain ⟨FW, hF⟩ : ∃ F : Nat → WN, F = fun i => cutW (wn i) := ⟨_, rfl⟩
 have HE : Hid (∀ a c, pfV (cutP ⟨amount, sig, token, n0, wn⟩) a c = .agg #[.int .u64 amount, .string sg2, .string tk2, .slice a n c]) := fun a c => by rw [← eA, ← eB, ← hn]; rfl
 have HF : Hid ((cutP ⟨amount, sig, token, n0, wn⟩).w = FW) := by show _ = _; rw [hF]; rfl
 have HK : Hid (∀ i, FW i = cutW (wn i)) := fun i => by rw [hF]
 clear hF
 rw [hn]
 have n6 : n ≤ 6 := by omega
 have nl : n ≤ n0 := by omega
 have HT := Lib.hid hw.sl
 have HO := Lib.hid hw.ok
 have lenB : n0 ≤ 9223372036854775807 := by have := hw.le; have := hw.cap; unfold maxLen at *; omega
 clear hw
 unfold maxLen at h1 h2
 go_enter Tryz.func41, Tryz.ntmps41
 go_wp2_with fail
 have HQ : Hid (Q w0 ((w0.alloc (.cells #[.int .u64 amount, .string sig, .string token, .slice aW n0 cW] 27)).alloc (.cells #[.int .u64 0, .string ⟨#[]⟩, .string ⟨#[]⟩, .slice none 0 0] 27))) := ((Q.refl w0).alloc _).alloc _
 have B1 : Hid (Box ((w0.alloc (.cells #[.int .u64 amount, .string sig, .string token, .slice aW n0 cW] 27)).alloc (.cells #[.int .u64 0, .string ⟨#[]⟩, .string ⟨#[]⟩, .slice none 0 0] 27)) w0.heap.size [.int .u64 amount, .string sig, .string token, .slice aW n0 cW]) := (Box.new w0 [.int .u64 amount, .string sig, .string token, .slice aW n0 cW] 27).q ((Q.refl _).alloc _)
 have B2 : Hid (Box ((w0.alloc (.cells #[.int .u64 amount, .string sig, .string token, .slice aW n0 cW] 27)).alloc (.cells #[.int .u64 0, .string ⟨#[]⟩, .string ⟨#[]⟩, .slice none 0 0] 27)) (w0.heap.size + 1) [.int .u64 0, .string ⟨#[]⟩, .string ⟨#[]⟩, .slice none 0 0]) := by
  have := Box.new (w0.alloc (.cells #[.int .u64 amount, .string sig, .string token, .slice aW n0 cW] 27)) [.int .u64 0, .string ⟨#[]⟩, .string ⟨#[]⟩, .slice none 0 0] 27
  rw [show (w0.alloc (.cells #[.int .u64 amount, .string sig, .string token, .slice aW n0 cW] 27)).heap.size = w0.heap.size + 1 by simp] at this
  exact this
 generalize (w0.alloc (.cells #[.int .u64 amount, .string sig, .string token, .slice aW n0 cW] 27)).alloc (.cells #[.int .u64 0, .string ⟨#[]⟩, .string ⟨#[]⟩, .slice none 0 0] 27) = wA at *
 obtain ⟨b2, hb⟩ : ∃ b, w0.heap.size + 1 = b := ⟨_, rfl⟩
 rw [hb] at B2 ⊢
 obtain ⟨b1, hb1⟩ : ∃ b, w0.heap.size = b := ⟨_, rfl⟩
 rw [hb1] at B1 ⊢
 have hS0 : Q wA wA.drew := (Q.refl wA).drew
 refine region_gen3 ?_
 intro OPS QQ A0 hO hQQ hA
 have hz : A0.tmps.size = 45 := by rw [hA]; rfl
 have hs : sound OPS A0.tmps.size = true := by rw [hz, hO]; kernel_rfl
 have b_1 : A0.eval (.tmp 1) = .pointer (some ⟨b1, 0, none⟩) := by rw [hA]; rfl
 have fr_1 : free OPS 1 = true := by rw [hO]; kernel_rfl
 have b_2 : A0.eval (.tmp 2) = .pointer (some ⟨b2, 0, none⟩) := by rw [hA]; rfl
 have fr_2 : free OPS 2 = true := by rw [hO]; kernel_rfl
 obtain ⟨VV, hVV⟩ : ∃ V : Nat → Value → World → Prop, V = fun i => ([fun v _ => v = .pointer (some ⟨b1, 0, none⟩), fun v _ => v = .int .u64 amount, fun v _ => v = .pointer (some ⟨b1, 1, none⟩), fun v _ => v = .string sig, fun v _ => v = .pointer (some ⟨b1, 1, none⟩), fun v _ => v = .string sig, fun v _ => v = .int .i64 sig.size, fun v _ => v = .int .i64 (min (sig.size : Int) 450), fun v _ => v = .string sg2, fun v _ => v = .pointer (some ⟨b1, 2, none⟩), fun v _ => v = .string token, fun v _ => v = .pointer (some ⟨b1, 2, none⟩), fun v _ => v = .string token, fun v _ => v = .int .i64 token.size, fun v _ => v = .int .i64 (min (token.size : Int) 40), fun v _ => v = .string tk2, fun v _ => v = .agg #[.int .u64 amount, .string sg2, .string tk2, .slice none 0 0], fun v w => ∃ b, v = .pointer (some ⟨b, 0, none⟩) ∧ Box w b [.int .u64 0, .string ⟨#[]⟩, .string ⟨#[]⟩, .slice none 0 0] ∧ wA.heap.size ≤ b] : List (Value → World → Prop)).getD i (fun _ _ => True) := ⟨_, rfl⟩
 have v_0 : VV 0 = fun v _ => v = .pointer (some ⟨b1, 0, none⟩) := vat hVV 0
 have v_1 : VV 1 = fun v _ => v = .int .u64 amount := vat hVV 1
 have v_2 : VV 2 = fun v _ => v = .pointer (some ⟨b1, 1, none⟩) := vat hVV 2
 have v_3 : VV 3 = fun v _ => v = .string sig := vat hVV 3
 have v_4 : VV 4 = fun v _ => v = .pointer (some ⟨b1, 1, none⟩) := vat hVV 4
 have v_5 : VV 5 = fun v _ => v = .string sig := vat hVV 5
 have v_6 : VV 6 = fun v _ => v = .int .i64 sig.size := vat hVV 6
 have v_7 : VV 7 = fun v _ => v = .int .i64 (min (sig.size : Int) 450) := vat hVV 7
 have v_8 : VV 8 = fun v _ => v = .string sg2 := vat hVV 8
 have v_9 : VV 9 = fun v _ => v = .pointer (some ⟨b1, 2, none⟩) := vat hVV 9
 have v_10 : VV 10 = fun v _ => v = .string token := vat hVV 10
 have v_11 : VV 11 = fun v _ => v = .pointer (some ⟨b1, 2, none⟩) := vat hVV 11
 have v_12 : VV 12 = fun v _ => v = .string token := vat hVV 12
 have v_13 : VV 13 = fun v _ => v = .int .i64 token.size := vat hVV 13
 have v_14 : VV 14 = fun v _ => v = .int .i64 (min (token.size : Int) 40) := vat hVV 14
 have v_15 : VV 15 = fun v _ => v = .string tk2 := vat hVV 15
 have v_16 : VV 16 = fun v _ => v = .agg #[.int .u64 amount, .string sg2, .string tk2, .slice none 0 0] := vat hVV 16
 have v_17 : VV 17 = fun v w => ∃ b, v = .pointer (some ⟨b, 0, none⟩) ∧ Box w b [.int .u64 0, .string ⟨#[]⟩, .string ⟨#[]⟩, .slice none 0 0] ∧ wA.heap.size ≤ b := vat hVV 17
 have hV := stablex_of (T := Q) (p := 18) hVV ((kx (kx (kx (kx (kx (kx (kx (kx (kx (kx (kx (kx (kx (kx (kx (kx (kx (sx_cons (fun _ _ _ h q => by obtain ⟨b, h1, h2, h3⟩ := h; exact ⟨b, h1, h2.q q, h3⟩) trivial)))))))))))))))))))
 clear hVV
 have i_0 := pget_at hO 0 rfl
 have i_1 := pget_at hO 1 rfl
 have i_2 := pget_at hO 2 rfl
 have i_3 := pget_at hO 3 rfl
 have i_4 := pget_at hO 4 rfl
 have i_5 := pget_at hO 5 rfl
 have i_6 := pget_at hO 6 rfl
 have i_7 := pget_at hO 7 rfl
 have i_8 := pget_at hO 8 rfl
 have i_9 := pget_at hO 9 rfl
 have i_10 := pget_at hO 10 rfl
 have i_11 := pget_at hO 11 rfl
 have i_12 := pget_at hO 12 rfl
 have i_13 := pget_at hO 13 rfl
 have i_14 := pget_at hO 14 rfl
 have i_15 := pget_at hO 15 rfl
 have i_16 := pget_at hO 16 rfl
 have i_17 := pget_at hO 17 rfl
 have i_18 := pget_at hO 18 rfl
 have MK3 := @Step2.pure Tryz.prog OPS QQ VV Q (Q wA) A0 18
 have s_0 := MK3 i_0 (by rw [hO]; kernel_rfl) (.pointer (some ⟨b1, 0, none⟩)) (Q.refl ·) (fun l a w hI hl hS => ⟨wanted_none rfl, (by have e0 : a.eval (.tmp 1) = _ := ((hI.base 1 fr_1).trans b_1); generalize a.eval = ρ at e0 ⊢; simp [go_sem, e0]), at_mk v_0 rfl⟩)
 have s_1 := MK3 i_1 (by rw [hO]; kernel_rfl) (.int .u64 amount) (Q.refl ·) (fun l a w hI hl hS => ⟨wanted_none rfl, (by have e0 : a.eval (.tmp 5) = _ := (at_eq v_0 (hI.at_ 0 5 _ i_0 rfl (hl_at hl 0 rfl rfl))); have x0 := (B1.out.q hS).at_ 0 _ rfl; generalize a.eval = ρ at e0 ⊢; simp [go_sem, e0, x0]), at_mk v_1 rfl⟩)
 have s_2 := MK3 i_2 (by rw [hO]; kernel_rfl) (.pointer (some ⟨b1, 1, none⟩)) (Q.refl ·) (fun l a w hI hl hS => ⟨wanted_none rfl, (by have e0 : a.eval (.tmp 1) = _ := ((hI.base 1 fr_1).trans b_1); generalize a.eval = ρ at e0 ⊢; simp [go_sem, e0]), at_mk v_2 rfl⟩)
 have s_3 := MK3 i_3 (by rw [hO]; kernel_rfl) (.string sig) (Q.refl ·) (fun l a w hI hl hS => ⟨wanted_none rfl, (by have e0 : a.eval (.tmp 7) = _ := (at_eq v_2 (hI.at_ 2 7 _ i_2 rfl (hl_at hl 0 rfl rfl))); have x0 := (B1.out.q hS).at_ 1 _ rfl; generalize a.eval = ρ at e0 ⊢; simp [go_sem, e0, x0]), at_mk v_3 rfl⟩)
 have s_4 := MK3 i_4 (by rw [hO]; kernel_rfl) (.pointer (some ⟨b1, 1, none⟩)) (Q.refl ·) (fun l a w hI hl hS => ⟨wanted_none rfl, (by have e0 : a.eval (.tmp 1) = _ := ((hI.base 1 fr_1).trans b_1); generalize a.eval = ρ at e0 ⊢; simp [go_sem, e0]), at_mk v_4 rfl⟩)
 have s_5 := MK3 i_5 (by rw [hO]; kernel_rfl) (.string sig) (Q.refl ·) (fun l a w hI hl hS => ⟨wanted_none rfl, (by have e0 : a.eval (.tmp 9) = _ := (at_eq v_4 (hI.at_ 4 9 _ i_4 rfl (hl_at hl 0 rfl rfl))); have x0 := (B1.out.q hS).at_ 1 _ rfl; generalize a.eval = ρ at e0 ⊢; simp [go_sem, e0, x0]), at_mk v_5 rfl⟩)
 have s_6 := MK3 i_6 (by rw [hO]; kernel_rfl) (.int .i64 sig.size) (Q.refl ·) (fun l a w hI hl hS => ⟨wanted_none rfl, (by have e0 : a.eval (.tmp 10) = _ := (at_eq v_5 (hI.at_ 5 10 _ i_5 rfl (hl_at hl 0 rfl rfl))); generalize a.eval = ρ at e0 ⊢; simp [go_sem, e0]), at_mk v_6 rfl⟩)
 have s_7 := MK3 i_7 (by rw [hO]; kernel_rfl) (.int .i64 (min (sig.size : Int) 450)) (Q.refl ·) (fun l a w hI hl hS => ⟨wanted_none rfl, (by have e0 : a.eval (.tmp 11) = _ := (at_eq v_6 (hI.at_ 6 11 _ i_6 rfl (hl_at hl 0 rfl rfl))); have e1 : a.eval (.const (.int .i64 450)) = .int .i64 450 := rfl; generalize a.eval = ρ at e0 e1 ⊢; simp [go_sem, e0, e1]), at_mk v_7 rfl⟩)
 have s_8 := MK3 i_8 (by rw [hO]; kernel_rfl) (.string sg2) (Q.refl ·) (fun l a w hI hl hS => ⟨wanted_none rfl, (by have e0 : a.eval (.tmp 8) = _ := (at_eq v_3 (hI.at_ 3 8 _ i_3 rfl (hl_at hl 0 rfl rfl))); have e1 : a.eval (.tmp 12) = _ := (at_eq v_7 (hI.at_ 7 12 _ i_7 rfl (hl_at hl 1 rfl rfl))); generalize a.eval = ρ at e0 e1 ⊢; simp [go_sem, e0, e1, eA, h1]; try omega), at_mk v_8 rfl⟩)
 have s_9 := MK3 i_9 (by rw [hO]; kernel_rfl) (.pointer (some ⟨b1, 2, none⟩)) (Q.refl ·) (fun l a w hI hl hS => ⟨wanted_none rfl, (by have e0 : a.eval (.tmp 1) = _ := ((hI.base 1 fr_1).trans b_1); generalize a.eval = ρ at e0 ⊢; simp [go_sem, e0]), at_mk v_9 rfl⟩)
 have s_10 := MK3 i_10 (by rw [hO]; kernel_rfl) (.string token) (Q.refl ·) (fun l a w hI hl hS => ⟨wanted_none rfl, (by have e0 : a.eval (.tmp 14) = _ := (at_eq v_9 (hI.at_ 9 14 _ i_9 rfl (hl_at hl 0 rfl rfl))); have x0 := (B1.out.q hS).at_ 2 _ rfl; generalize a.eval = ρ at e0 ⊢; simp [go_sem, e0, x0]), at_mk v_10 rfl⟩)
 have s_11 := MK3 i_11 (by rw [hO]; kernel_rfl) (.pointer (some ⟨b1, 2, none⟩)) (Q.refl ·) (fun l a w hI hl hS => ⟨wanted_none rfl, (by have e0 : a.eval (.tmp 1) = _ := ((hI.base 1 fr_1).trans b_1); generalize a.eval = ρ at e0 ⊢; simp [go_sem, e0]), at_mk v_11 rfl⟩)
 have s_12 := MK3 i_12 (by rw [hO]; kernel_rfl) (.string token) (Q.refl ·) (fun l a w hI hl hS => ⟨wanted_none rfl, (by have e0 : a.eval (.tmp 16) = _ := (at_eq v_11 (hI.at_ 11 16 _ i_11 rfl (hl_at hl 0 rfl rfl))); have x0 := (B1.out.q hS).at_ 2 _ rfl; generalize a.eval = ρ at e0 ⊢; simp [go_sem, e0, x0]), at_mk v_12 rfl⟩)
 have s_13 := MK3 i_13 (by rw [hO]; kernel_rfl) (.int .i64 token.size) (Q.refl ·) (fun l a w hI hl hS => ⟨wanted_none rfl, (by have e0 : a.eval (.tmp 17) = _ := (at_eq v_12 (hI.at_ 12 17 _ i_12 rfl (hl_at hl 0 rfl rfl))); generalize a.eval = ρ at e0 ⊢; simp [go_sem, e0]), at_mk v_13 rfl⟩)
 have s_14 := MK3 i_14 (by rw [hO]; kernel_rfl) (.int .i64 (min (token.size : Int) 40)) (Q.refl ·) (fun l a w hI hl hS => ⟨wanted_none rfl, (by have e0 : a.eval (.tmp 18) = _ := (at_eq v_13 (hI.at_ 13 18 _ i_13 rfl (hl_at hl 0 rfl rfl))); have e1 : a.eval (.const (.int .i64 40)) = .int .i64 40 := rfl; generalize a.eval = ρ at e0 e1 ⊢; simp [go_sem, e0, e1]), at_mk v_14 rfl⟩)
 have s_15 := MK3 i_15 (by rw [hO]; kernel_rfl) (.string tk2) (Q.refl ·) (fun l a w hI hl hS => ⟨wanted_none rfl, (by have e0 : a.eval (.tmp 15) = _ := (at_eq v_10 (hI.at_ 10 15 _ i_10 rfl (hl_at hl 0 rfl rfl))); have e1 : a.eval (.tmp 19) = _ := (at_eq v_14 (hI.at_ 14 19 _ i_14 rfl (hl_at hl 1 rfl rfl))); generalize a.eval = ρ at e0 e1 ⊢; simp [go_sem, e0, e1, eB, h2]; try omega), at_mk v_15 rfl⟩)
 have s_16 := MK3 i_16 (by rw [hO]; kernel_rfl) (.agg #[.int .u64 amount, .string sg2, .string tk2, .slice none 0 0]) (Q.refl ·) (fun l a w hI hl hS => ⟨wanted_none rfl, ex_build rfl (by simp only [List.map_toArray, List.map_cons, List.map_nil, (show a.eval (.tmp 6) = _ from (at_eq v_1 (hI.at_ 1 6 _ i_1 rfl (hl_at hl 0 rfl rfl)))), (show a.eval (.tmp 13) = _ from (at_eq v_8 (hI.at_ 8 13 _ i_8 rfl (hl_at hl 1 rfl rfl)))), (show a.eval (.tmp 20) = _ from (at_eq v_15 (hI.at_ 15 20 _ i_15 rfl (hl_at hl 2 rfl rfl))))]; exact built_cutp amount sg2 tk2), at_mk v_16 rfl⟩)
 have MK4 := @Step2.done Tryz.prog OPS QQ VV Q (Q wA) A0 18
 have s_17 := MK4 i_17 (by rw [hO]; kernel_rfl) (fun l a w hI hl hS => by
  refine ⟨wanted_none rfl, ?_⟩
  refine wpo_alloc 27 rfl #[.int .u64 0, .string ⟨#[]⟩, .string ⟨#[]⟩, .slice none 0 0] zeroP ?_
  exact ⟨_, rfl, (Q.refl w).alloc _, hS.alloc _, p_at v_17 ⟨w.heap.size, rfl, Box.new w [.int .u64 0, .string ⟨#[]⟩, .string ⟨#[]⟩, .slice none 0 0] _, hS.size⟩⟩)
 refine wp_plan2 VV (Q) (Q wA) 18 18 (by kernel_rfl) hs (by rw [hO]; rfl) (by rw [hO]; kernel_rfl) hV hS0 (steps2_all hO _ rfl ((s2_cons s_0 (s2_cons s_1 (s2_cons s_2 (s2_cons s_3 (s2_cons s_4 (s2_cons s_5 (s2_cons s_6 (s2_cons s_7 (s2_cons s_8 (s2_cons s_9 (s2_cons s_10 (s2_cons s_11 (s2_cons s_12 (s2_cons s_13 (s2_cons s_14 (s2_cons s_15 (s2_cons s_16 (s2_cons s_17 trivial)))))))))))))))))))) ?_
 intro l a w hall hln hI
 have hS := hI.st hln
 obtain ⟨b3, eb3, B3, hb3⟩ := (at_p v_17 (hI.at_ 17 3 _ i_17 rfl (hall 17 (by decide))))
 refine fin_of i_18 (wanted_none rfl) ?_
 refine wpo_st_box 27 _ _ rfl b3 _ [.int .u64 amount, .string sg2, .string tk2, .slice none 0 0] eb3 (at_eq v_16 (hI.at_ 16 21 _ i_16 rfl (hall 16 (by decide)))) B3 rfl (by kernel_rfl) (one4 rfl rfl rfl rfl) ?_
 intro w3 B3' c3
 rw [hQQ]
 obtain ⟨ts, ds⟩ := a
 have hd : ds = [] := by have := hI.df; rw [hA] at this; exact this
 have hts : ts.size = 45 := by have := hI.sz; rw [hz] at this; exact this
 have f1 : ts.getD 1 undef = .pointer (some ⟨b1, 0, none⟩) := ((hI.base 1 fr_1).trans b_1)
 have f2 : ts.getD 2 undef = .pointer (some ⟨b2, 0, none⟩) := ((hI.base 2 fr_2).trans b_2)
 have f3 : ts.getD 3 undef = .pointer (some ⟨b3, 0, none⟩) := eb3
 obtain ⟨tl0, rfl⟩ : ∃ tl : List Value, ts = tl.toArray := ⟨ts.toList, by simp⟩
 have htl0 : tl0.length = 45 := by simpa using hts
 clear hts
 obtain ⟨y0, y1, y2, y3, y4, y5, y6, y7, tl8, et, htl8⟩ := len_8 htl0
 clear htl0
 subst et
 obtain ⟨y8, y9, y10, y11, y12, y13, y14, y15, tl16, et, htl16⟩ := len_8 htl8
 clear htl8
 subst et
 obtain ⟨y16, y17, y18, y19, y20, y21, y22, y23, tl24, et, htl24⟩ := len_8 htl16
 clear htl16
 subst et
 obtain ⟨y24, y25, y26, y27, y28, y29, y30, y31, tl32, et, htl32⟩ := len_8 htl24
 clear htl24
 subst et
 obtain ⟨y32, y33, y34, y35, y36, y37, y38, y39, tl40, et, htl40⟩ := len_8 htl32
 clear htl32
 subst et
 obtain ⟨y40, tl41, et, htl41⟩ := len_succ htl40
 clear htl40
 subst et
 obtain ⟨y41, tl42, et, htl42⟩ := len_succ htl41
 clear htl41
 subst et
 obtain ⟨y42, tl43, et, htl43⟩ := len_succ htl42
 clear htl42
 subst et
 obtain ⟨y43, tl44, et, htl44⟩ := len_succ htl43
 clear htl43
 subst et
 obtain ⟨y44, tl45, et, htl45⟩ := len_succ htl44
 clear htl44
 subst et
 have et := List.eq_nil_of_length_eq_zero htl45
 clear htl45
 subst et
 have g1 : y1 = .pointer (some ⟨b1, 0, none⟩) := f1
 have g2 : y2 = .pointer (some ⟨b2, 0, none⟩) := f2
 have g3 : y3 = .pointer (some ⟨b3, 0, none⟩) := f3
 clear f1 f2 f3
 subst hd g1 g2 g3
 have C1 := Lib.hid ((B1.out.q hS).ch c3 (show b1 ≠ b3 by have := B1.out.lt; omega))
 have C2 := Lib.hid ((B2.out.q hS).ch c3 (show b2 ≠ b3 by have := B2.out.lt; omega))
 have C3 := Lib.hid B3'
 have Q3 : Hid (Q w0 w3) := c3.q (HQ.out.trans hS) (by have := HQ.out.size; omega)
 have n12 : b1 ≠ b3 := by have := B1.out.lt; omega
 have n23 : b2 ≠ b3 := by have := B2.out.lt; omega
 have hb30 : w0.heap.size ≤ b3 := by have := HQ.out.size; omega
 have hb20 : w0.heap.size ≤ b2 := by omega
 show Exit.then _ _ _ _ _
 clear hI hall hln hS c3 B3' B3 eb3 B1 B2 HQ hV hs hz hA v_0 s_0 v_1 s_1 v_2 s_2 v_3 s_3 v_4 s_4 v_5 s_5 v_6 s_6 v_7 s_7 v_8 s_8 v_9 s_9 v_10 s_10 v_11 s_11 v_12 s_12 v_13 s_13 v_14 s_14 v_15 s_15 v_16 s_16 v_17 s_17
 clear i_0 i_1 i_2 i_3 i_4 i_5 i_6 i_7 i_8 i_9 i_10 i_11 i_12 i_13 i_14 i_15 i_16 i_17 i_18 b_1 fr_1 b_2 fr_2 hO hQQ
 as_aux_lemma =>
 go_wp2_with fail
 have OA := Lib.hid (OR.nil 135 WN.cells 10 w3 w0.heap.size FW)
 obtain ⟨i0, hi0, hz0, hz1, hz2⟩ := info_of info_win
 go_loopw [4] (fun i wr => ∃ (k : Nat) (ad : Option Addr) (c : Nat), k ≤ n ∧ i = .int .i64 k ∧ Hid (OR 135 WN.cells 10 wr w0.heap.size ad k c FW) ∧ Hid (Box wr b3 [.int .u64 amount, .string sg2, .string tk2, .slice ad k c]) ∧ Hid (Box wr b1 [.int .u64 amount, .string sig, .string token, .slice aW n0 cW]) ∧ Hid (Box wr b2 [.int .u64 0, .string ⟨#[]⟩, .string ⟨#[]⟩, .slice none 0 0]) ∧ Hid (∀ x, ad = some x → x.block ≠ b1 ∧ x.block ≠ b2 ∧ x.block ≠ b3) ∧ Hid (Q w0 wr)) (fun i _ => n - (intOf i).toNat)
 case atStart => exact ⟨0, none, 0, by omega, rfl, OA, C3, C1, C2, Lib.hid (fun x h => by cases h), Q3⟩
 case round =>
 obtain ⟨k, ad, c, hk, rfl, O, D3, D1, D2, AP, QR⟩ := hrel
 clear C1 C2 C3 Q3 OA
 have k0 : (0 : Int) ≤ (k : Int) := by omega
 have m3 := D1.out.at_ 3 _ rfl
 by_cases hlt : k < n
 · have k1 : (k : Int) < (n0 : Int) := by omega
   have k2 : (k : Int) < 6 := by omega
   go_wp2_with fail
   clear m3
   obtain ⟨b, off, hab, hrow⟩ := (HT.out.q QR.out).some_ (by omega)
   obtain ⟨y, hy⟩ : ∃ y, wn k = y := ⟨_, rfl⟩
   have HKy : Hid (FW k = cutW y) := by show _ = _; rw [HK.out k, hy]
   have wy := Lib.hid (HO.out k (by omega))
   have hrow := hrow k (by omega)
   rw [hy] at hrow wy
   have RW : Hid (∀ w', Q wr w' → w'.rangeAt b (off + k * 10) (WN.cells y)) := fun w' q j v hv => Q.cell' q (hrow j v hv)
   have CW : Hid (∀ w, Calls Tryz.prog 89 #[wnV y] w fun e w' => e = .returned (wnV (cutW y)) ∧ Q w w') := fun w => cutwin_x y w wy.out.chan wy.out.commit wy.out.sig wy.out.salt
   clear hy hrow wy
   obtain ⟨gp, hg1, hg2⟩ : ∃ gp, (∀ x, ad = some x → x.block = gp) ∧ gp < wr.heap.size := by
    rcases O.out.shape with ⟨e, _⟩ | ⟨g, e, _, hl, _⟩
    · exact ⟨b3, (fun x hx => by rw [e] at hx; cases hx), D3.out.lt⟩
    · exact ⟨g, (fun x hx => by rw [e] at hx; injection hx with hx; rw [← hx]), hl⟩
   as_aux_lemma =>
   have hS0 : Q wr wr.drew := (Q.refl wr).drew
   refine region_gen3 ?_
   intro OPS QQ A0 hO hQQ hA
   have hz : A0.tmps.size = 45 := by rw [hA]; rfl
   have hs : sound OPS A0.tmps.size = true := by rw [hz, hO]; kernel_rfl
   have bz_1 : A0.eval (.tmp 1) = .pointer (some ⟨b1, 0, none⟩) := by rw [hA]; rfl
   have frz_1 : free OPS 1 = true := by rw [hO]; kernel_rfl
   have bz_2 : A0.eval (.tmp 2) = .pointer (some ⟨b2, 0, none⟩) := by rw [hA]; rfl
   have frz_2 : free OPS 2 = true := by rw [hO]; kernel_rfl
   have bz_3 : A0.eval (.tmp 3) = .pointer (some ⟨b3, 0, none⟩) := by rw [hA]; rfl
   have frz_3 : free OPS 3 = true := by rw [hO]; kernel_rfl
   have bz_4 : A0.eval (.tmp 4) = .int .i64 k := by rw [hA]; rfl
   have frz_4 : free OPS 4 = true := by rw [hO]; kernel_rfl
   obtain ⟨VV, hVV⟩ : ∃ V : Nat → Value → World → Prop, V = fun i => ([fun v _ => v = .pointer (some ⟨b3, 3, none⟩), fun v _ => v = .slice ad k c, fun v _ => v = .pointer (some ⟨b1, 3, none⟩), fun v _ => v = .slice aW n0 cW, fun v _ => v = .int .i64 k, fun v _ => v = .pointer (some ⟨b, off + k * 10, none⟩), fun v _ => v = wnV y, fun v _ => v = wnV (cutW y), fun v w => ∃ g, v = .slice (some ⟨g, 0, none⟩) 1 1 ∧ g ≠ gp ∧ ∀ j u, (WN.cells (cutW y))[j]? = some u → w.cell? ⟨g, j, none⟩ = some u, fun v w' => ∃ g' c', v = .slice (some ⟨g', 0, none⟩) (k + 1) c' ∧ OR 135 WN.cells 10 w' w0.heap.size (some ⟨g', 0, none⟩) (k + 1) c' FW ∧ Box w' b3 [.int .u64 amount, .string sg2, .string tk2, .slice ad k c] ∧ Box w' b1 [.int .u64 amount, .string sig, .string token, .slice aW n0 cW] ∧ Box w' b2 [.int .u64 0, .string ⟨#[]⟩, .string ⟨#[]⟩, .slice none 0 0] ∧ (g' ≠ b1 ∧ g' ≠ b2 ∧ g' ≠ b3) ∧ Q w0 w', fun v _ => v = .pointer (some ⟨b3, 3, none⟩)] : List (Value → World → Prop)).getD i (fun _ _ => True) := ⟨_, rfl⟩
   have vz_0 : VV 0 = fun v _ => v = .pointer (some ⟨b3, 3, none⟩) := vat hVV 0
   have vz_1 : VV 1 = fun v _ => v = .slice ad k c := vat hVV 1
   have vz_2 : VV 2 = fun v _ => v = .pointer (some ⟨b1, 3, none⟩) := vat hVV 2
   have vz_3 : VV 3 = fun v _ => v = .slice aW n0 cW := vat hVV 3
   have vz_4 : VV 4 = fun v _ => v = .int .i64 k := vat hVV 4
   have vz_5 : VV 5 = fun v _ => v = .pointer (some ⟨b, off + k * 10, none⟩) := vat hVV 5
   have vz_6 : VV 6 = fun v _ => v = wnV y := vat hVV 6
   have vz_7 : VV 7 = fun v _ => v = wnV (cutW y) := vat hVV 7
   have vz_8 : VV 8 = fun v w => ∃ g, v = .slice (some ⟨g, 0, none⟩) 1 1 ∧ g ≠ gp ∧ ∀ j u, (WN.cells (cutW y))[j]? = some u → w.cell? ⟨g, j, none⟩ = some u := vat hVV 8
   have vz_9 : VV 9 = fun v w' => ∃ g' c', v = .slice (some ⟨g', 0, none⟩) (k + 1) c' ∧ OR 135 WN.cells 10 w' w0.heap.size (some ⟨g', 0, none⟩) (k + 1) c' FW ∧ Box w' b3 [.int .u64 amount, .string sg2, .string tk2, .slice ad k c] ∧ Box w' b1 [.int .u64 amount, .string sig, .string token, .slice aW n0 cW] ∧ Box w' b2 [.int .u64 0, .string ⟨#[]⟩, .string ⟨#[]⟩, .slice none 0 0] ∧ (g' ≠ b1 ∧ g' ≠ b2 ∧ g' ≠ b3) ∧ Q w0 w' := vat hVV 9
   have vz_10 : VV 10 = fun v _ => v = .pointer (some ⟨b3, 3, none⟩) := vat hVV 10
   have hV := stablex_of (T := Ch gp) (p := 9) hVV ((kx (kx (kx (kx (kx (kx (kx (kx (sx_cons (fun v w w' h t => by obtain ⟨g, h1, h2, h3⟩ := h; exact ⟨g, h1, h2, fun j u hj => t.cell (h3 j u hj) h2⟩) (sx_skip rfl (kx trivial))))))))))))
   clear hVV
   have iz_0 := pget_at hO 0 rfl
   have iz_1 := pget_at hO 1 rfl
   have iz_2 := pget_at hO 2 rfl
   have iz_3 := pget_at hO 3 rfl
   have iz_4 := pget_at hO 4 rfl
   have iz_5 := pget_at hO 5 rfl
   have iz_6 := pget_at hO 6 rfl
   have iz_7 := pget_at hO 7 rfl
   have iz_8 := pget_at hO 8 rfl
   have iz_9 := pget_at hO 9 rfl
   have iz_10 := pget_at hO 10 rfl
   have iz_11 := pget_at hO 11 rfl
   have MK5 := @Step2.pure Tryz.prog OPS QQ VV (Ch gp) (Q wr) A0 9
   have sz_0 := MK5 iz_0 (by rw [hO]; kernel_rfl) (.pointer (some ⟨b3, 3, none⟩)) (Ch.refl gp ·) (fun l a w hI hl hS => ⟨wanted_none rfl, (by have e0 : a.eval (.tmp 3) = _ := ((hI.base 3 frz_3).trans bz_3); generalize a.eval = ρ at e0 ⊢; simp [go_sem, e0]), at_mk vz_0 rfl⟩)
   have sz_1 := MK5 iz_1 (by rw [hO]; kernel_rfl) (.slice ad k c) (Ch.refl gp ·) (fun l a w hI hl hS => ⟨wanted_none rfl, (by have e0 : a.eval (.tmp 33) = _ := (at_eq vz_0 (hI.at_ 0 33 _ iz_0 rfl (hl_at hl 0 rfl rfl))); have x0 := (D3.out.q hS).at_ 3 _ rfl; generalize a.eval = ρ at e0 ⊢; simp [go_sem, e0, x0]), at_mk vz_1 rfl⟩)
   have sz_2 := MK5 iz_2 (by rw [hO]; kernel_rfl) (.pointer (some ⟨b1, 3, none⟩)) (Ch.refl gp ·) (fun l a w hI hl hS => ⟨wanted_none rfl, (by have e0 : a.eval (.tmp 1) = _ := ((hI.base 1 frz_1).trans bz_1); generalize a.eval = ρ at e0 ⊢; simp [go_sem, e0]), at_mk vz_2 rfl⟩)
   have sz_3 := MK5 iz_3 (by rw [hO]; kernel_rfl) (.slice aW n0 cW) (Ch.refl gp ·) (fun l a w hI hl hS => ⟨wanted_none rfl, (by have e0 : a.eval (.tmp 35) = _ := (at_eq vz_2 (hI.at_ 2 35 _ iz_2 rfl (hl_at hl 0 rfl rfl))); have x0 := (D1.out.q hS).at_ 3 _ rfl; generalize a.eval = ρ at e0 ⊢; simp [go_sem, e0, x0]), at_mk vz_3 rfl⟩)
   have sz_4 := MK5 iz_4 (by rw [hO]; kernel_rfl) (.int .i64 k) (Ch.refl gp ·) (fun l a w hI hl hS => ⟨wanted_none rfl, ex_move rfl ((hI.base 4 frz_4).trans bz_4), at_mk vz_4 rfl⟩)
   have sz_5 := MK5 iz_5 (by rw [hO]; kernel_rfl) (.pointer (some ⟨b, off + k * 10, none⟩)) (Ch.refl gp ·) (fun l a w hI hl hS => ⟨wanted_none rfl, (by have e0 : a.eval (.tmp 36) = _ := (at_eq vz_3 (hI.at_ 3 36 _ iz_3 rfl (hl_at hl 0 rfl rfl))); have e1 : a.eval (.tmp 37) = _ := (at_eq vz_4 (hI.at_ 4 37 _ iz_4 rfl (hl_at hl 1 rfl rfl))); generalize a.eval = ρ at e0 e1 ⊢; simp [go_sem, e0, e1, k0, k1, hab]), at_mk vz_5 rfl⟩)
   have sz_6 := MK5 iz_6 (by rw [hO]; kernel_rfl) (wnV y) (Ch.refl gp ·) (fun l a w hI hl hS => ⟨wanted_none rfl, ex_loado 135 rfl b (off + k * 10) (WN.cells y) _ (at_eq vz_5 (hI.at_ 5 38 _ iz_5 rfl (hl_at hl 0 rfl rfl))) (RW.out w hS) Tryz.underlying135 rfl (by kernel_rfl), at_mk vz_6 rfl⟩)
   have MK6 := @Step2.done Tryz.prog OPS QQ VV (Ch gp) (Q wr) A0 9
   have sz_7 := MK6 iz_7 (by rw [hO]; kernel_rfl) (fun l a w hI hl hS => by
    refine ⟨wanted_none rfl, ?_⟩
    refine wp_enter (f := 89) (args := #[wnV y]) ?_ ?_
    · exact ex_call rfl (by simp only [List.map_toArray, List.map_cons, List.map_nil, ev_const, (show a.eval (.tmp 39) = _ from (at_eq vz_6 (hI.at_ 6 39 _ iz_6 rfl (hl_at hl 0 rfl rfl))))]) Tryz.func89 (by kernel_rfl) (by kernel_rfl)
    · refine (CW.out w).mono fun e w' hc => ?_
      obtain ⟨rfl, hq⟩ := hc
      exact ⟨_, rfl, Ch.of_q hq gp, hS.trans hq, at_mk vz_7 rfl⟩)
   have sz_8 := MK6 iz_8 (by rw [hO]; kernel_rfl) (fun l a w hI hl hS => by
    refine ⟨wanted_none rfl, ?_⟩
    refine wpo_rowwin (cutW y).chan (cutW y).serial (cutW y).face (cutW y).wins (cutW y).many (cutW y).commit (cutW y).client (cutW y).sig (cutW y).salt (cutW y).drawn rfl (at_eq vz_7 (hI.at_ 7 40 _ iz_7 rfl (hl_at hl 0 rfl rfl))) ?_
    exact ⟨_, rfl, Ch.of_q ((Q.refl w).alloc _) gp, hS.alloc _, p_at vz_8 ⟨w.heap.size, rfl, by have := hS.size; omega, fun j u hj => by rw [World.cell?_alloc_at _ _ _ _ rfl]; unfold WN.cells at hj; simpa using hj⟩⟩)
   have sz_9 := StepP.done (P := Tryz.prog) (V := VV) (T := Ch gp) (S := (Q wr)) (a0 := A0) (p := 9) (Qx := QQ) iz_9 (fun l a w hI hl hS => by
    obtain ⟨g, eg, hgne, hcell⟩ := at_p vz_8 (hI.at_ 8 41 _ iz_8 rfl (hl_at hl 1 rfl rfl))
    refine ⟨wanted_none rfl, ?_⟩
    refine wpo_app (.tmp 34) (.tmp 41) 25 rfl i0 _ 112 Tryz.underlying25 hi0 hz0 hz1 hz2 rfl (by decide) (at_eq vz_1 (hI.at_ 1 34 _ iz_1 rfl (hl_at hl 0 rfl rfl))) (O.out.q hS) g eg rfl (fun j u hj => hcell j u (by rw [HKy.out] at hj; exact hj)) (by rw [HKy.out]; exact one10 rfl rfl rfl rfl rfl rfl rfl rfl rfl rfl) (by omega) (by decide) (by have := QR.out.size; have := hS.size; omega) ?_
    intro g' c' w' O' G
    exact ⟨_, rfl, G.chp gp hg1, p_at vz_9 ⟨g', c', rfl, O', (D3.out.q hS).over (fun x hx => (AP.out x hx).2.2) G, (D1.out.q hS).over (fun x hx => (AP.out x hx).1) G, (D2.out.q hS).over (fun x hx => (AP.out x hx).2.1) G, ⟨G.ne b1 (D1.out.q hS).lt (fun x hx => (AP.out x hx).1), G.ne b2 (D2.out.q hS).lt (fun x hx => (AP.out x hx).2.1), G.ne b3 (D3.out.q hS).lt (fun x hx => (AP.out x hx).2.2)⟩, (O.out.q hS).q_grow (QR.out.trans hS) (Nat.le_refl _) G⟩⟩)
   have MK7 := @StepQ.pure Tryz.prog OPS QQ VV (Q wr) A0 9
   have sz_10 := MK7 iz_10 (.pointer (some ⟨b3, 3, none⟩)) (fun l a w hI hl => ⟨wanted_none rfl, (by have e0 : a.eval (.tmp 3) = _ := ((hI.base 3 frz_3).trans bz_3); generalize a.eval = ρ at e0 ⊢; simp [go_sem, e0]), at_mk vz_10 rfl⟩)
   refine wp_plan2 VV (Ch gp) (Q wr) 9 11 (by kernel_rfl) hs (by rw [hO]; rfl) (by rw [hO]; kernel_rfl) hV hS0 (steps2_all hO _ rfl ((s2_cons sz_0 (s2_cons sz_1 (s2_cons sz_2 (s2_cons sz_3 (s2_cons sz_4 (s2_cons sz_5 (s2_cons sz_6 (s2_cons sz_7 (s2_cons sz_8 (sp_cons rfl sz_9 (sq_cons sz_10 trivial))))))))))))) ?_
   intro l a w hall hln hI
   as_aux_lemma =>
   obtain ⟨g', c', eg, O', E3, E1, E2, ⟨x1, x2, x3⟩, Q'⟩ := (at_p vz_9 (hI.at_ 9 42 _ iz_9 rfl (hall 9 (by decide))))
   refine fin_of iz_11 (wanted_none rfl) ?_
   refine wpo_st1 25 _ _ rfl (at_eq vz_10 (hI.at_ 10 43 _ iz_10 rfl (hall 10 (by decide)))) eg E3 rfl (fun w hc hf => by simp [go_sem, hc, hf]) ?_
   intro w3 B3' c3
   rw [hQQ]
   obtain ⟨ts, ds⟩ := a
   have hd : ds = [] := by have := hI.df; rw [hA] at this; exact this
   have hts : ts.size = 45 := by have := hI.sz; rw [hz] at this; exact this
   have f1 : ts.getD 1 undef = .pointer (some ⟨b1, 0, none⟩) := ((hI.base 1 frz_1).trans bz_1)
   have f2 : ts.getD 2 undef = .pointer (some ⟨b2, 0, none⟩) := ((hI.base 2 frz_2).trans bz_2)
   have f3 : ts.getD 3 undef = .pointer (some ⟨b3, 0, none⟩) := ((hI.base 3 frz_3).trans bz_3)
   have f4 : ts.getD 4 undef = .int .i64 k := ((hI.base 4 frz_4).trans bz_4)
   have f0 := (hI.base 0 (by rw [hO]; kernel_rfl)).trans (base_at hA 0 rfl)
   have f5 := (hI.base 5 (by rw [hO]; kernel_rfl)).trans (base_at hA 5 rfl)
   have f6 := (hI.base 6 (by rw [hO]; kernel_rfl)).trans (base_at hA 6 rfl)
   have f7 := (hI.base 7 (by rw [hO]; kernel_rfl)).trans (base_at hA 7 rfl)
   have f8 := (hI.base 8 (by rw [hO]; kernel_rfl)).trans (base_at hA 8 rfl)
   have f9 := (hI.base 9 (by rw [hO]; kernel_rfl)).trans (base_at hA 9 rfl)
   have f10 := (hI.base 10 (by rw [hO]; kernel_rfl)).trans (base_at hA 10 rfl)
   have f11 := (hI.base 11 (by rw [hO]; kernel_rfl)).trans (base_at hA 11 rfl)
   have f12 := (hI.base 12 (by rw [hO]; kernel_rfl)).trans (base_at hA 12 rfl)
   have f13 := (hI.base 13 (by rw [hO]; kernel_rfl)).trans (base_at hA 13 rfl)
   have f14 := (hI.base 14 (by rw [hO]; kernel_rfl)).trans (base_at hA 14 rfl)
   have f15 := (hI.base 15 (by rw [hO]; kernel_rfl)).trans (base_at hA 15 rfl)
   have f16 := (hI.base 16 (by rw [hO]; kernel_rfl)).trans (base_at hA 16 rfl)
   have f17 := (hI.base 17 (by rw [hO]; kernel_rfl)).trans (base_at hA 17 rfl)
   have f18 := (hI.base 18 (by rw [hO]; kernel_rfl)).trans (base_at hA 18 rfl)
   have f19 := (hI.base 19 (by rw [hO]; kernel_rfl)).trans (base_at hA 19 rfl)
   have f20 := (hI.base 20 (by rw [hO]; kernel_rfl)).trans (base_at hA 20 rfl)
   have f21 := (hI.base 21 (by rw [hO]; kernel_rfl)).trans (base_at hA 21 rfl)
   have f22 := (hI.base 22 (by rw [hO]; kernel_rfl)).trans (base_at hA 22 rfl)
   have f23 := (hI.base 23 (by rw [hO]; kernel_rfl)).trans (base_at hA 23 rfl)
   have f24 := (hI.base 24 (by rw [hO]; kernel_rfl)).trans (base_at hA 24 rfl)
   have f25 := (hI.base 25 (by rw [hO]; kernel_rfl)).trans (base_at hA 25 rfl)
   have f26 := (hI.base 26 (by rw [hO]; kernel_rfl)).trans (base_at hA 26 rfl)
   have f27 := (hI.base 27 (by rw [hO]; kernel_rfl)).trans (base_at hA 27 rfl)
   have f28 := (hI.base 28 (by rw [hO]; kernel_rfl)).trans (base_at hA 28 rfl)
   have f29 := (hI.base 29 (by rw [hO]; kernel_rfl)).trans (base_at hA 29 rfl)
   have f30 := (hI.base 30 (by rw [hO]; kernel_rfl)).trans (base_at hA 30 rfl)
   have f31 := (hI.base 31 (by rw [hO]; kernel_rfl)).trans (base_at hA 31 rfl)
   have f32 := (hI.base 32 (by rw [hO]; kernel_rfl)).trans (base_at hA 32 rfl)
   have f44 := (hI.base 44 (by rw [hO]; kernel_rfl)).trans (base_at hA 44 rfl)
   obtain ⟨tl0, rfl⟩ : ∃ tl : List Value, ts = tl.toArray := ⟨ts.toList, by simp⟩
   have htl0 : tl0.length = 45 := by simpa using hts
   clear hts
   obtain ⟨y0, y1, y2, y3, y4, y5, y6, y7, tl8, et, htl8⟩ := len_8 htl0
   clear htl0
   subst et
   obtain ⟨y8, y9, y10, y11, y12, y13, y14, y15, tl16, et, htl16⟩ := len_8 htl8
   clear htl8
   subst et
   obtain ⟨y16, y17, y18, y19, y20, y21, y22, y23, tl24, et, htl24⟩ := len_8 htl16
   clear htl16
   subst et
   obtain ⟨y24, y25, y26, y27, y28, y29, y30, y31, tl32, et, htl32⟩ := len_8 htl24
   clear htl24
   subst et
   obtain ⟨y32, y33, y34, y35, y36, y37, y38, y39, tl40, et, htl40⟩ := len_8 htl32
   clear htl32
   subst et
   obtain ⟨y40, tl41, et, htl41⟩ := len_succ htl40
   clear htl40
   subst et
   obtain ⟨y41, tl42, et, htl42⟩ := len_succ htl41
   clear htl41
   subst et
   obtain ⟨y42, tl43, et, htl43⟩ := len_succ htl42
   clear htl42
   subst et
   obtain ⟨y43, tl44, et, htl44⟩ := len_succ htl43
   clear htl43
   subst et
   obtain ⟨y44, tl45, et, htl45⟩ := len_succ htl44
   clear htl44
   subst et
   have et := List.eq_nil_of_length_eq_zero htl45
   clear htl45
   subst et
   have g1 : y1 = .pointer (some ⟨b1, 0, none⟩) := f1
   have g2 : y2 = .pointer (some ⟨b2, 0, none⟩) := f2
   have g3 : y3 = .pointer (some ⟨b3, 0, none⟩) := f3
   have g4 : y4 = .int .i64 k := f4
   have g0 : y0 = _ := f0
   have g5 : y5 = _ := f5
   have g6 : y6 = _ := f6
   have g7 : y7 = _ := f7
   have g8 : y8 = _ := f8
   have g9 : y9 = _ := f9
   have g10 : y10 = _ := f10
   have g11 : y11 = _ := f11
   have g12 : y12 = _ := f12
   have g13 : y13 = _ := f13
   have g14 : y14 = _ := f14
   have g15 : y15 = _ := f15
   have g16 : y16 = _ := f16
   have g17 : y17 = _ := f17
   have g18 : y18 = _ := f18
   have g19 : y19 = _ := f19
   have g20 : y20 = _ := f20
   have g21 : y21 = _ := f21
   have g22 : y22 = _ := f22
   have g23 : y23 = _ := f23
   have g24 : y24 = _ := f24
   have g25 : y25 = _ := f25
   have g26 : y26 = _ := f26
   have g27 : y27 = _ := f27
   have g28 : y28 = _ := f28
   have g29 : y29 = _ := f29
   have g30 : y30 = _ := f30
   have g31 : y31 = _ := f31
   have g32 : y32 = _ := f32
   have g44 : y44 = _ := f44
   clear f1 f2 f3 f4 f0 f5 f6 f7 f8 f9 f10 f11 f12 f13 f14 f15 f16 f17 f18 f19 f20 f21 f22 f23 f24 f25 f26 f27 f28 f29 f30 f31 f32 f44
   subst hd g1 g2 g3 g4 g0 g5 g6 g7 g8 g9 g10 g11 g12 g13 g14 g15 g16 g17 g18 g19 g20 g21 g22 g23 g24 g25 g26 g27 g28 g29 g30 g31 g32 g44
   have C1 := Lib.hid (E1.ch c3 n12)
   have C2 := Lib.hid (E2.ch c3 n23)
   have C3 : Hid (Box w3 b3 [.int .u64 amount, .string sg2, .string tk2, .slice (some ⟨g', 0, none⟩) (k + 1) c']) := B3'
   have O9 := Lib.hid (O'.ch c3 (fun x hx => by injection hx with hx; subst hx; exact x3))
   have Q3 : Hid (Q w0 w3) := c3.q Q' hb30
   have A9 : Hid (∀ x, some (⟨g', 0, none⟩ : Addr) = some x → x.block ≠ b1 ∧ x.block ≠ b2 ∧ x.block ≠ b3) := fun x hx => by injection hx with hx; subst hx; exact ⟨x1, x2, x3⟩
   clear hI hall hln c3 B3' eg O' E3 E1 E2 Q' x1 x2 x3 O D1 D2 D3 AP QR RW CW hg1 hg2 hV hs hz hA vz_0 sz_0 vz_1 sz_1 vz_2 sz_2 vz_3 sz_3 vz_4 sz_4 vz_5 sz_5 vz_6 sz_6 vz_7 sz_7 vz_8 sz_8 vz_9 sz_9 vz_10 sz_10
   clear iz_0 iz_1 iz_2 iz_3 iz_4 iz_5 iz_6 iz_7 iz_8 iz_9 iz_10 iz_11 bz_1 frz_1 bz_2 frz_2 bz_3 frz_3 bz_4 frz_4 hO hQQ
   as_aux_lemma =>
   go_wp2_with fail
   go_roundw
   case rel => exact ⟨k + 1, some ⟨g', 0, none⟩, c', by omega, by go_num, O9, C3, C1, C2, A9, Q3⟩
   case measure => simp [intOf]; omega
 · obtain rfl : k = n := by omega
   by_cases h6 : k < n0
   · have k1 : (k : Int) < (n0 : Int) := by omega
     have k2 : ¬ (k : Int) < 6 := by omega
     have t2 : decide ((k : Int) < 6) = false := by simp; omega
     have t3 : decide (k < 6) = false := by simp; omega
     go_wp2_with (with_reducible (show wpList _ _ _ (⟨_, Op.load 27 _, _, _, _, _⟩ :: _) _ _); refine halt ?_)
     refine Lib.hid (ld_box rfl 27 _ rfl b3 _ rfl D3.out Tryz.underlying27 rfl (by kernel_rfl) ?_)
     refine st_box rfl 27 _ _ rfl b2 _ [.int .u64 amount, .string sg2, .string tk2, .slice ad k c] rfl rfl D2.out rfl (by kernel_rfl) (one4 rfl rfl rfl rfl) ?_
     intro w9 B9 c9
     have HL : Hid ((loadVar 27 ⟨b2, 0, none⟩).run Tryz.prog w9 = .ok (.agg #[.int .u64 amount, .string sg2, .string tk2, .slice ad k c]) w9) := B9.load _ Tryz.underlying27 rfl (by kernel_rfl)
     have O9 := Lib.hid (O.out.ch c9 (fun x hx => (AP.out x hx).2.1))
     have Q9 : Hid (Q w0 w9) := c9.q QR.out hb20
     clear B9 c9 O QR D1 D2 D3
     simp only [Act.put, pu]
     refine wpList_nil ?_
     go_step
     go_step
     go_step
     refine bodyPost_ret (results_cell rfl rfl HL.out) rfl ?_
     exact ⟨ad, c, by rw [HE.out], by rw [HF.out]; exact O9.out, Q9.out⟩
   · have k1 : ¬ (k : Int) < (n0 : Int) := by omega
     have t2 : decide ((k : Int) < (n0 : Int)) = false := by simp; omega
     have t3 : decide (k < n0) = false := by simp; omega
     go_wp2_with (with_reducible (show wpList _ _ _ (⟨_, Op.load 27 _, _, _, _, _⟩ :: _) _ _); refine halt ?_)
     refine Lib.hid (ld_box rfl 27 _ rfl b3 _ rfl D3.out Tryz.underlying27 rfl (by kernel_rfl) ?_)
     refine st_box rfl 27 _ _ rfl b2 _ [.int .u64 amount, .string sg2, .string tk2, .slice ad k c] rfl rfl D2.out rfl (by kernel_rfl) (one4 rfl rfl rfl rfl) ?_
     intro w9 B9 c9
     have HL : Hid ((loadVar 27 ⟨b2, 0, none⟩).run Tryz.prog w9 = .ok (.agg #[.int .u64 amount, .string sg2, .string tk2, .slice ad k c]) w9) := B9.load _ Tryz.underlying27 rfl (by kernel_rfl)
     have O9 := Lib.hid (O.out.ch c9 (fun x hx => (AP.out x hx).2.1))
     have Q9 : Hid (Q w0 w9) := c9.q QR.out hb20
     clear B9 c9 O QR D1 D2 D3
     simp only [Act.put, pu]
     refine wpList_nil ?_
     go_step
     go_step
     go_step
     refine bodyPost_ret (results_cell rfl rfl HL.out) rfl ?_
     exact ⟨ad, c, by rw [HE.out], by rw [HF.out]; exact O9.out, Q9.out⟩
end Go.Proofs.YtobfgljkckcmcaaGreatDoor.Coi
