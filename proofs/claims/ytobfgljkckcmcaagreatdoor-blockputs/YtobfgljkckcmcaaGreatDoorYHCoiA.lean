import Derived.Test.YtobfgljkckcmcaaGreatDoorYHCodW
import Derived.Deep.Slices
import Derived.Deep.Fields
set_option maxRecDepth 100000
namespace Go.Proofs.YtobfgljkckcmcaaGreatDoor.Coi
open Go.RowKit
open Mem Num Cod
set_option linter.unusedVariables false
/-- An input. -/
structure IN where
 tx : ByteArray
 out : Int
 path : Int
 sig : ByteArray
/-- An output. -/
structure OU where
 kind : Int
 amount : Int
 key : ByteArray
 gate : ByteArray
 expiry : Int
 anchor : ByteArray
 unit : Int
 tokens : Int
 of_ : ByteArray
/-- A win. -/
structure WN where
 chan : ByteArray
 serial : Int
 face : Int
 wins : Int
 many : Int
 commit : ByteArray
 client : Int
 sig : ByteArray
 salt : ByteArray
 drawn : Int
/-- A proof. -/
structure PF where
 amount : Int
 sig : ByteArray
 token : ByteArray
 n : Nat
 w : Nat → WN
/-- A transaction. -/
structure TX where
 nI : Nat
 ins : Nat → IN
 nO : Nat
 outs : Nat → OU
 p : PF
def IN.cells (x : IN) : List Value := [.string x.tx, .int .i64 x.out, .int .i64 x.path, .string x.sig]
def OU.cells (x : OU) : List Value := [.int .i64 x.kind, .int .u64 x.amount, .string x.key, .string x.gate, .int .i64 x.expiry, .string x.anchor, .int .u64 x.unit, .int .i64 x.tokens, .string x.of_]
def WN.cells (x : WN) : List Value := [.string x.chan, .int .u64 x.serial, .int .u64 x.face, .int .u64 x.wins, .int .u64 x.many, .string x.commit, .int .u64 x.client, .string x.sig, .string x.salt, .int .u64 x.drawn]
/-- Numbers of 64 bits, with a sign or without; texts that are not long. -/
def I64 (n : Int) : Prop := -9223372036854775808 ≤ n ∧ n ≤ 9223372036854775807
def U64 (n : Int) : Prop := 0 ≤ n ∧ n ≤ 18446744073709551615
structure IN.ok (x : IN) : Prop where
 tx : x.tx.size ≤ 1000000
 out : I64 x.out
 path : I64 x.path
 sig : x.sig.size ≤ 1000000
structure OU.ok (x : OU) : Prop where
 kind : I64 x.kind
 amount : U64 x.amount
 key : x.key.size ≤ 1000000
 gate : x.gate.size ≤ 1000000
 expiry : I64 x.expiry
 anchor : x.anchor.size ≤ 1000000
 unit : U64 x.unit
 tokens : I64 x.tokens
 of_ : x.of_.size ≤ 1000000
structure WN.ok (x : WN) : Prop where
 chan : x.chan.size ≤ 1000000
 serial : U64 x.serial
 face : U64 x.face
 wins : U64 x.wins
 many : U64 x.many
 commit : x.commit.size ≤ 1000000
 client : U64 x.client
 sig : x.sig.size ≤ 1000000
 salt : x.salt.size ≤ 1000000
 drawn : U64 x.drawn
structure PF.ok (p : PF) : Prop where
 amount : U64 p.amount
 sig : p.sig.size ≤ 1000000
 token : p.token.size ≤ 1000000
 n : p.n ≤ 100
 w : ∀ i, i < p.n → (p.w i).ok
structure TX.ok (t : TX) : Prop where
 nI : t.nI ≤ 100
 ins : ∀ i, i < t.nI → (t.ins i).ok
 nO : t.nO ≤ 100
 outs : ∀ i, i < t.nO → (t.outs i).ok
 p : t.p.ok
/-- It answers whether P, and what was there stays. -/
def Tells (P : Prop) (w : World) (e : Ending) (w' : World) : Prop := ∃ b : Bool, e = .returned (.bool b) ∧ (b = true ↔ P) ∧ Q w w'
section
variable {α : Type} {C : α → List Value} {k : Nat} {f f' : Nat → α} {w w' : World} {a : Option Addr} {n : Nat}
/-- The cells of the first n records. -/
def rc (C : α → List Value) (f : Nat → α) : Nat → List Value
 | 0 => []
 | n + 1 => rc C f n ++ C (f n)
theorem rc_len (hC : ∀ x, (C x).length = k) : ∀ n, (rc C f n).length = n * k
 | 0 => by simp [rc]
 | n + 1 => by rw [rc, List.length_append, rc_len hC n, hC, Nat.add_mul, Nat.one_mul]
theorem rc_get (hC : ∀ x, (C x).length = k) (i j : Nat) (v : Value) (h : (C (f i))[j]? = some v) : ∀ n, i < n → (rc C f n)[i * k + j]? = some v
 | 0, hi => by omega
 | n + 1, hi => by
  rw [rc]
  have hl := rc_len (f := f) hC n
  have hj : j < k := by rw [← hC (f i)]; exact (List.getElem?_eq_some_iff.1 h).1
  by_cases e : i = n
  · subst e
    rw [List.getElem?_append_right (by omega), hl, Nat.add_sub_cancel_left]; exact h
  · have : (i + 1) * k ≤ n * k := Nat.mul_le_mul_right k (by omega)
    rw [Nat.add_mul, Nat.one_mul] at this
    rw [List.getElem?_append_left (by omega)]
    exact rc_get hC i j v h n (by omega)
theorem rc_congr : ∀ n, (∀ i, i < n → f i = f' i) → rc C f n = rc C f' n
 | 0, _ => rfl
 | n + 1, e => by rw [rc, rc, rc_congr n (fun i hi => e i (by omega)), e n (by omega)]
/-- n records that lie behind an address, k cells each. -/
def SL (C : α → List Value) (k : Nat) (w : World) (a : Option Addr) (n : Nat) (f : Nat → α) : Prop :=
 n = 0 ∨ ∃ b off, a = some ⟨b, off, none⟩ ∧ ∀ i, i < n → ∀ j v, (C (f i))[j]? = some v → w.cell? ⟨b, off + i * k + j, none⟩ = some v
theorem SL.q (h : SL C k w a n f) (q : Q w w') : SL C k w' a n f := by
 rcases h with h | ⟨b, off, e, h⟩
 · exact .inl h
 · exact .inr ⟨b, off, e, fun i hi j v hv => Q.cell' q (h i hi j v hv)⟩
theorem SL.nil (h : n = 0) : SL C k w a n f := .inl h
theorem SL.some_ (h : SL C k w a n f) (hn : 0 < n) : ∃ b off, a = some ⟨b, off, none⟩ ∧ ∀ i, i < n → ∀ j v, (C (f i))[j]? = some v → w.cell? ⟨b, off + i * k + j, none⟩ = some v := h.resolve_left (by omega)
theorem SL.take (h : SL C k w a n f) {m : Nat} (hm : m ≤ n) : SL C k w a m f := by
 rcases h with h | ⟨b, off, e, h⟩
 · exact .inl (by omega)
 · exact .inr ⟨b, off, e, fun i hi => h i (by omega)⟩
theorem SL.congr (h : SL C k w a n f) (e : ∀ i, i < n → f i = f' i) : SL C k w a n f' := by
 rcases h with h | ⟨b, off, ea, h⟩
 · exact .inl h
 · exact .inr ⟨b, off, ea, fun i hi j v hv => h i hi j v (by rw [e i hi]; exact hv)⟩
theorem SL.ch {g : Nat} (h : SL C k w a n f) (c : Ch g w w') (hg : ∀ x, a = some x → x.block ≠ g) : SL C k w' a n f := by
 rcases h with h | ⟨b, off, e, h⟩
 · exact .inl h
 · exact .inr ⟨b, off, e, fun i hi j v hv => c.cell (h i hi j v hv) (fun e' => hg _ e e')⟩
/-- n records of one's own. -/
def OR (t : TypeId) (C : α → List Value) (k : Nat) (w : World) (B : Nat) (a : Option Addr) (n cap : Nat) (f : Nat → α) : Prop := w.ownsRow B t k (.slice a n cap) n (rc C f n)
variable {t : TypeId} {B cap : Nat}
theorem OR.nil (t : TypeId) (C : α → List Value) (k : Nat) (w : World) (B : Nat) (f : Nat → α) : OR t C k w B none 0 0 f := World.ownsRow_nil w B t k
theorem OR.shape (h : OR t C k w B a n cap f) : (a = none ∧ n = 0 ∧ cap = 0) ∨ ∃ g, a = some ⟨g, 0, none⟩ ∧ B ≤ g ∧ g < w.heap.size ∧ n ≤ cap ∧ cap ≤ maxLen := by
 have hl := World.ownsRow.lt h
 obtain ⟨_, h | ⟨g', cap', cur, h, _, _, h4, h5, _⟩⟩ := h
 · simp only [Value.slice.injEq] at h
   exact .inl ⟨h.1.1, by omega, h.1.2.2⟩
 · simp only [Value.slice.injEq] at h
   obtain ⟨rfl, _, rfl⟩ := h
   obtain ⟨h6, h7⟩ := hl g' rfl
   exact .inr ⟨g', rfl, h6, h7, h4, h5⟩
theorem OR.sl (h : OR t C k w B a n cap f) (hC : ∀ x, (C x).length = k) : SL C k w a n f := by
 rcases h.shape with ⟨_, e, _⟩ | ⟨g, rfl, _⟩
 · exact .inl e
 · refine .inr ⟨g, 0, rfl, fun i hi j v hv => ?_⟩
   have := World.ownsRow.cells h (g := g) rfl _ _ (rc_get hC i j v hv n hi)
   rw [Go.WideShapes.add_plain] at this
   rw [Nat.zero_add] at *
   exact this
theorem OR.ch {g : Nat} (h : OR t C k w B a n cap f) (c : Ch g w w') (hg : ∀ x, a = some x → x.block ≠ g) : OR t C k w' B a n cap f := by
 refine World.ownsRow.kept h c ?_
 rcases h.shape with ⟨rfl, _⟩ | ⟨b, rfl, _⟩
 · exact .inl rfl
 · refine .inr ?_
   show some b ≠ some g
   intro e; injection e with e; exact hg _ rfl e
theorem OR.q (h : OR t C k w B a n cap f) (q : Q w w') : OR t C k w' B a n cap f :=
 h.ch (Ch.of_q q w.heap.size) (fun x e => by
  rcases h.shape with ⟨e', _⟩ | ⟨b, e', _, hl, _⟩
  · rw [e'] at e; exact absurd e (by simp)
  · rw [e'] at e; injection e with e; subst e; show b ≠ _; omega)
theorem OR.low {g : Nat} (h : OR t C k w B a n cap f) (c : Ch g w w') (hg : g < B) : OR t C k w' B a n cap f :=
 h.ch c (fun x e => by
  rcases h.shape with ⟨e', _⟩ | ⟨b, e', hl, _, _⟩
  · rw [e'] at e; exact absurd e (by simp)
  · rw [e'] at e; injection e with e; subst e; show b ≠ _; omega)
theorem OR.congr (h : OR t C k w B a n cap f) (e : ∀ i, i < n → f i = f' i) : OR t C k w B a n cap f' := by unfold OR; rw [← rc_congr n e]; exact h
theorem OR.next {w : World} {v : Value} (h : w.ownsRow B t k v (n + 1) (rc C f n ++ C (f n))) : ∃ g' cap', v = .slice (some ⟨g', 0, none⟩) (n + 1) cap' ∧ OR t C k w B (some ⟨g', 0, none⟩) (n + 1) cap' f := by
 obtain ⟨g', cap', rfl⟩ := ownsRow_succ h
 exact ⟨g', cap', rfl, h⟩
end
/-- A transaction in memory: where its lists lie. -/
structure TM (w : World) (aI : Option Addr) (cI : Nat) (aO aW : Option Addr) (t : TX) : Prop where
 i : SL IN.cells 4 w aI t.nI t.ins
 c : t.nI ≤ cI
 o : SL OU.cells 9 w aO t.nO t.outs
 w : SL WN.cells 10 w aW t.p.n t.p.w
theorem TM.q {w w' : World} {aI aO aW : Option Addr} {cI : Nat} {t : TX} (h : TM w aI cI aO aW t) (q : Q w w') : TM w' aI cI aO aW t := ⟨h.i.q q, h.c, h.o.q q, h.w.q q⟩
theorem in_at {w : World} {b off i : Nat} {x : IN} (h : ∀ j v, (x.cells)[j]? = some v → w.cell? ⟨b, off + i * 4 + j, none⟩ = some v) :
 w.cell? ⟨b, off + i * 4, none⟩ = some (.string x.tx) ∧ w.cell? ⟨b, off + i * 4 + 1, none⟩ = some (.int .i64 x.out) ∧ w.cell? ⟨b, off + i * 4 + 2, none⟩ = some (.int .i64 x.path) ∧ w.cell? ⟨b, off + i * 4 + 3, none⟩ = some (.string x.sig) :=
 ⟨h 0 _ rfl, h 1 _ rfl, h 2 _ rfl, h 3 _ rfl⟩
theorem out_at {w : World} {b off i : Nat} {x : OU} (h : ∀ j v, (x.cells)[j]? = some v → w.cell? ⟨b, off + i * 9 + j, none⟩ = some v) :
 w.cell? ⟨b, off + i * 9, none⟩ = some (.int .i64 x.kind) ∧ w.cell? ⟨b, off + i * 9 + 1, none⟩ = some (.int .u64 x.amount) ∧ w.cell? ⟨b, off + i * 9 + 2, none⟩ = some (.string x.key) ∧ w.cell? ⟨b, off + i * 9 + 3, none⟩ = some (.string x.gate) ∧ w.cell? ⟨b, off + i * 9 + 4, none⟩ = some (.int .i64 x.expiry) ∧ w.cell? ⟨b, off + i * 9 + 5, none⟩ = some (.string x.anchor) ∧ w.cell? ⟨b, off + i * 9 + 6, none⟩ = some (.int .u64 x.unit) ∧ w.cell? ⟨b, off + i * 9 + 7, none⟩ = some (.int .i64 x.tokens) ∧ w.cell? ⟨b, off + i * 9 + 8, none⟩ = some (.string x.of_) :=
 ⟨h 0 _ rfl, h 1 _ rfl, h 2 _ rfl, h 3 _ rfl, h 4 _ rfl, h 5 _ rfl, h 6 _ rfl, h 7 _ rfl, h 8 _ rfl⟩
theorem win_at {w : World} {b off i : Nat} {x : WN} (h : ∀ j v, (x.cells)[j]? = some v → w.cell? ⟨b, off + i * 10 + j, none⟩ = some v) :
 w.cell? ⟨b, off + i * 10, none⟩ = some (.string x.chan) ∧ w.cell? ⟨b, off + i * 10 + 1, none⟩ = some (.int .u64 x.serial) ∧ w.cell? ⟨b, off + i * 10 + 2, none⟩ = some (.int .u64 x.face) ∧ w.cell? ⟨b, off + i * 10 + 3, none⟩ = some (.int .u64 x.wins) ∧ w.cell? ⟨b, off + i * 10 + 4, none⟩ = some (.int .u64 x.many) ∧ w.cell? ⟨b, off + i * 10 + 5, none⟩ = some (.string x.commit) ∧ w.cell? ⟨b, off + i * 10 + 6, none⟩ = some (.int .u64 x.client) ∧ w.cell? ⟨b, off + i * 10 + 7, none⟩ = some (.string x.sig) ∧ w.cell? ⟨b, off + i * 10 + 8, none⟩ = some (.string x.salt) ∧ w.cell? ⟨b, off + i * 10 + 9, none⟩ = some (.int .u64 x.drawn) :=
 ⟨h 0 _ rfl, h 1 _ rfl, h 2 _ rfl, h 3 _ rfl, h 4 _ rfl, h 5 _ rfl, h 6 _ rfl, h 7 _ rfl, h 8 _ rfl, h 9 _ rfl⟩
theorem in_len (x : IN) : x.cells.length = 4 := rfl
theorem out_len (x : OU) : x.cells.length = 9 := rfl
theorem win_len (x : WN) : x.cells.length = 10 := rfl
abbrev inV (x : IN) : Value := .agg #[.string x.tx, .int .i64 x.out, .int .i64 x.path, .string x.sig]
abbrev ouV (x : OU) : Value := .agg #[.int .i64 x.kind, .int .u64 x.amount, .string x.key, .string x.gate, .int .i64 x.expiry, .string x.anchor, .int .u64 x.unit, .int .i64 x.tokens, .string x.of_]
abbrev wnV (x : WN) : Value := .agg #[.string x.chan, .int .u64 x.serial, .int .u64 x.face, .int .u64 x.wins, .int .u64 x.many, .string x.commit, .int .u64 x.client, .string x.sig, .string x.salt, .int .u64 x.drawn]
abbrev pfV (p : PF) (a : Option Addr) (c : Nat) : Value := .agg #[.int .u64 p.amount, .string p.sig, .string p.token, .slice a p.n c]
abbrev txV (t : TX) (aI : Option Addr) (cI : Nat) (aO : Option Addr) (cO : Nat) (aW : Option Addr) (cW : Nat) : Value := .agg #[.slice aI t.nI cI, .slice aO t.nO cO, .int .u64 t.p.amount, .string t.p.sig, .string t.p.token, .slice aW t.p.n cW]
def Fit (o : OU) : Prop := 0 < o.amount ∧ o.key.size = 16 ∧
 ((o.kind = 1 ∧ o.gate.size = 0 ∧ o.expiry = 0 ∧ o.anchor.size = 0 ∧ o.unit = 0 ∧ o.tokens = 0 ∧ o.of_.size = 0) ∨
  (o.kind = 2 ∧ o.gate.size = 16 ∧ o.anchor.size = 16 ∧ 1 ≤ o.expiry ∧ o.expiry ≤ 4294967295 ∧ 0 ≤ o.tokens ∧ o.tokens ≤ 4096 ∧ o.of_.size = 0) ∨
  (o.kind = 3 ∧ o.gate.size = 16 ∧ o.of_.size = 16 ∧ 1 ≤ o.expiry ∧ o.expiry ≤ 4294967295 ∧ o.anchor.size = 0 ∧ o.unit = 0 ∧ o.tokens = 0))
instance (o : OU) : Decidable (Fit o) := by unfold Fit; infer_instance
def InR (x : IN) : Prop := x.tx.size = 16 ∧ 0 ≤ x.out ∧ x.out ≤ 255 ∧ 1 ≤ x.path ∧ x.path ≤ 3 ∧ x.sig.size ≤ 400
instance (x : IN) : Decidable (InR x) := by unfold InR; infer_instance
def TkR (x : WN) : Prop := x.chan.size = 16 ∧ x.commit.size = 16 ∧ x.sig.size ≤ 400
instance (x : WN) : Decidable (TkR x) := by unfold TkR; infer_instance
def WnR (x : WN) : Prop := TkR x ∧ x.salt.size ≤ 32
instance (x : WN) : Decidable (WnR x) := by unfold WnR; infer_instance
/-- Two inputs of one place. -/
def Pl (x y : IN) : Prop := x.tx = y.tx ∧ x.out = y.out
instance (x y : IN) : Decidable (Pl x y) := by unfold Pl; infer_instance
def Tw (f : Nat → IN) (n : Nat) : Prop := ∃ i, i < n ∧ ∃ j, j < i ∧ Pl (f j) (f i)
def RightP (p : PF) : Prop := p.sig.size ≤ 400 ∧ (p.token.size = 0 ∨ p.token.size = 16) ∧ p.n ≤ 3 ∧ ∀ i, i < p.n → WnR (p.w i)
def RightT (t : TX) : Prop := 1 ≤ t.nI ∧ t.nI ≤ 4 ∧ (∀ i, i < t.nI → InR (t.ins i)) ∧ ¬ Tw t.ins t.nI ∧ 1 ≤ t.nO ∧ t.nO ≤ 4 ∧ (∀ i, i < t.nO → Fit (t.outs i)) ∧ RightP t.p
def SamR {α : Type} (n n' : Nat) (f f' : Nat → α) : Prop := n = n' ∧ ∀ i, i < n → f i = f' i
def SamP (a b : PF) : Prop := a.amount = b.amount ∧ a.sig = b.sig ∧ a.token = b.token ∧ SamR a.n b.n a.w b.w
def SamT (a b : TX) : Prop := SamR a.nI b.nI a.ins b.ins ∧ SamR a.nO b.nO a.outs b.outs ∧ SamP a.p b.p
/-- Texts, one behind the other. -/
def catN (f : Nat → ByteArray) : Nat → ByteArray
 | 0 => ByteArray.empty
 | n + 1 => catN f n ++ f n
def tkB (x : WN) : ByteArray := x.chan ++ putS x.serial ++ putS x.face ++ putS x.wins ++ putS x.many ++ x.commit ++ putS x.client ++ blobS x.sig
def wnB (x : WN) : ByteArray := tkB x ++ blobS x.salt ++ putS x.drawn
def pfB (p : PF) : ByteArray := putS p.amount ++ blobS p.sig ++ blobS p.token ++ strOfNums [(p.n : Int)] ++ catN (fun i => wnB (p.w i)) p.n
def inB (x : IN) : ByteArray := x.tx ++ strOfNums [x.out] ++ strOfNums [x.path]
def ouB (o : OU) : ByteArray := strOfNums [o.kind] ++ putS o.amount ++ o.key ++ (if o.kind = 2 then o.gate ++ putS o.expiry ++ o.anchor ++ putS o.unit ++ putS o.tokens else if o.kind = 3 then o.gate ++ putS o.expiry ++ o.of_ else ByteArray.empty)
def coreS (t : TX) : ByteArray := strOfNums [67] ++ strOfNums [(t.nI : Int)] ++ catN (fun i => inB (t.ins i)) t.nI ++ strOfNums [(t.nO : Int)] ++ catN (fun i => ouB (t.outs i)) t.nO
def txB (t : TX) : ByteArray := blobS (coreS t) ++ catN (fun i => blobS (t.ins i).sig) t.nI ++ blobS (pfB t.p)
theorem one_size (n : Int) : (strOfNums [n]).size = 1 := by rw [strOfNums_size]; rfl
theorem catN_size (f : Nat → ByteArray) (m : Nat) : ∀ n, (∀ i, i < n → (f i).size ≤ m) → (catN f n).size ≤ n * m
 | 0, _ => by show (0 : Nat) ≤ _; omega
 | n + 1, h => by
  have a := catN_size f m n (fun i hi => h i (by omega))
  have b := h n (by omega)
  show (catN f n ++ f n).size ≤ _
  rw [ByteArray.size_append, Nat.add_mul, Nat.one_mul]; omega
theorem catN_congr (f g : Nat → ByteArray) : ∀ n, (∀ i, i < n → f i = g i) → catN f n = catN g n
 | 0, _ => rfl
 | n + 1, h => by show catN f n ++ f n = catN g n ++ g n; rw [catN_congr f g n (fun i hi => h i (by omega)), h n (by omega)]
theorem tkB_size (x : WN) (h : TkR x) : (tkB x).size ≤ 474 := by
 obtain ⟨h1, h2, h3⟩ := h
 unfold tkB
 simp only [ByteArray.size_append, putS_size, blobS_size]; omega
theorem wnB_size (x : WN) (h : WnR x) : (wnB x).size ≤ 516 := by
 have := tkB_size x h.1
 have := h.2
 unfold wnB
 simp only [ByteArray.size_append, putS_size, blobS_size]; omega
theorem pfB_size (p : PF) (h : RightP p) : (pfB p).size ≤ 2000 := by
 have := catN_size (fun i => wnB (p.w i)) 516 p.n (fun i hi => wnB_size _ (h.2.2.2 i hi))
 have := h.1
 have := h.2.1
 have := h.2.2.1
 unfold pfB
 simp only [ByteArray.size_append, putS_size, blobS_size, one_size]; omega
theorem inB_size (x : IN) (h : InR x) : (inB x).size = 18 := by
 unfold inB; simp only [ByteArray.size_append, one_size]; have := h.1; omega
theorem ouB_size (o : OU) (h : Fit o) : (ouB o).size ≤ 100 := by
 obtain ⟨h1, h2, h3 | h3 | h3⟩ := h
 · unfold ouB; rw [if_neg (by omega), if_neg (by omega)]; simp only [ByteArray.size_append, putS_size, one_size]; simp; omega
 · unfold ouB; rw [if_pos h3.1]; simp only [ByteArray.size_append, putS_size, one_size]; omega
 · unfold ouB; rw [if_neg (by omega), if_pos h3.1]; simp only [ByteArray.size_append, putS_size, one_size]; omega
theorem coreS_size (t : TX) (h : RightT t) : (coreS t).size ≤ 1000 := by
 obtain ⟨h1, h2, h3, _, h5, h6, h7, _⟩ := h
 have a := catN_size (fun i => inB (t.ins i)) 18 t.nI (fun i hi => Nat.le_of_eq (inB_size _ (h3 i hi)))
 have b := catN_size (fun i => ouB (t.outs i)) 100 t.nO (fun i hi => ouB_size _ (h7 i hi))
 unfold coreS
 simp only [ByteArray.size_append, one_size]; omega
theorem coreS_pos (t : TX) : 0 < (coreS t).size := by
 unfold coreS; simp only [ByteArray.size_append, one_size]; omega
structure WS (w0 : World) (g K : Nat) (T : ByteArray) (B : Nat) (w : World) : Prop where
 wr : WR w g K T 0
 ch : Ch g w0 w
 z : T.size ≤ B
section
variable {w0 w w' : World} {g K B : Nat} {T : ByteArray}
theorem WS.new (w : World) (t : TypeId) : WS (w.alloc (.cells #[.pointer none, .int .i64 0, .int .i64 0] t)) w.heap.size w.heap.size ByteArray.empty 0 (w.alloc (.cells #[.pointer none, .int .i64 0, .int .i64 0] t)) :=
 ⟨WR.new w t, Ch.refl _ _, Nat.le_refl _⟩
theorem WS.q (h : WS w0 g K T B w) (q : Q w w') : WS w0 g K T B w' := ⟨h.wr.q q, h.ch.trans (Ch.of_q q g), h.z⟩
theorem WS.up (h : WS w0 g K T B w) : WS w g K T B w := ⟨h.wr, Ch.refl _ _, h.z⟩
theorem WS.over {T' : ByteArray} {B' : Nat} (h : WS w0 g K T B w) (k : WS w g K T' B' w') : WS w0 g K T' B' w' := ⟨k.wr, h.ch.trans k.ch, k.z⟩
theorem WS.to {T' : ByteArray} {B' : Nat} (h : WS w0 g K T B w) (e : T = T') (hb : B ≤ B') : WS w0 g K T' B' w := ⟨e ▸ h.wr, h.ch, by rw [← e]; exact Nat.le_trans h.z hb⟩
theorem WS.sz {T' : ByteArray} {B' : Nat} (h : WS w0 g K T B w) (e : T = T') (hb : T'.size ≤ B') : WS w0 g K T' B' w := ⟨e ▸ h.wr, h.ch, hb⟩
/-- It wrote t more. -/
def Wrote (w0 : World) (g K : Nat) (T : ByteArray) (B : Nat) (r : Ending) (w' : World) : Prop := r = .returned (.tuple #[]) ∧ WS w0 g K T B w'
theorem WS.byte (h : WS w0 g K T B w) (n : Int) (hn : 0 ≤ n ∧ n ≤ 255) (hB : B ≤ 90000000) : Calls Tryz.prog 63 #[.pointer (some ⟨g, 0, none⟩), .int .i64 n] w (Wrote w0 g K (T ++ strOfNums [n]) (B + 5000)) :=
 (byte_x h.wr n (by have := h.z; omega) (T' := T ++ strOfNums [n]) (e' := 0) (by unfold wrT wyE; rw [if_pos rfl, if_pos hn, if_pos rfl]) (by unfold failE wyE; rw [if_pos rfl, if_pos hn])).mono
  fun r w' ⟨a, b, c⟩ => ⟨a, b, h.ch.trans c, by rw [ByteArray.size_append, one_size]; have := h.z; omega⟩
theorem WS.num (h : WS w0 g K T B w) (n : Int) (hn : U64 n) (hB : B ≤ 90000000) : Calls Tryz.prog 84 #[.pointer (some ⟨g, 0, none⟩), .int .u64 n] w (Wrote w0 g K (T ++ putS n) (B + 5000)) :=
 (num_x h.wr n (by have := h.z; omega) hn.1 hn.2 (T' := T ++ putS n) (by unfold wrT; rw [if_pos rfl, if_pos rfl])).mono
  fun r w' ⟨a, b, c⟩ => ⟨a, b, h.ch.trans c, by rw [ByteArray.size_append, putS_size]; have := h.z; omega⟩
theorem WS.hash (h : WS w0 g K T B w) (s : ByteArray) (hs : s.size = 16) (hB : B ≤ 90000000) : Calls Tryz.prog 64 #[.pointer (some ⟨g, 0, none⟩), .string s] w (Wrote w0 g K (T ++ s) (B + 5000)) :=
 (hash_x h.wr s (by have := h.z; omega) (by omega) (T' := T ++ s) (e' := 0) (by unfold wrT waE; rw [if_pos rfl, if_pos hs, if_pos rfl]) (by unfold failE waE; rw [if_pos rfl, if_pos hs])).mono
  fun r w' ⟨a, b, c⟩ => ⟨a, b, h.ch.trans c, by rw [ByteArray.size_append]; have := h.z; omega⟩
theorem WS.blob (h : WS w0 g K T B w) (s : ByteArray) (hs : s.size ≤ 4096) (hB : B ≤ 90000000) : Calls Tryz.prog 73 #[.pointer (some ⟨g, 0, none⟩), .string s] w (Wrote w0 g K (T ++ blobS s) (B + 5000)) :=
 (blob_x h.wr s (by have := h.z; omega) (T' := T ++ blobS s) (e' := 0) (by unfold wrT wbE; rw [if_pos rfl, if_pos hs, if_pos rfl]) (by unfold failE wbE; rw [if_pos rfl, if_pos hs])).mono
  fun r w' ⟨a, b, c⟩ => ⟨a, b, h.ch.trans c, by rw [ByteArray.size_append, blobS_size]; have := h.z; omega⟩
theorem WS.text (h : WS w0 g K T B w) (hB : B ≤ 100000000) : Calls Tryz.prog 66 #[.pointer (some ⟨g, 0, none⟩)] w fun r w' => r = .returned (.string T) ∧ Q w w' :=
 text_w g K T 0 w h.wr (by have := h.z; omega)
end
structure XS (w0 : World) (g : Nat) (T : ByteArray) (B : Nat) (w : World) : Prop where
 wr : RD w g T 0
 ch : Ch g w0 w
 z : T.size ≤ B
section
variable {w0 w w' : World} {g B : Nat} {T : ByteArray}
theorem XS.new (w : World) (t : TypeId) : XS (w.alloc (.cells #[.string ⟨#[]⟩, .int .i64 0] t)) w.heap.size ByteArray.empty 0 (w.alloc (.cells #[.string ⟨#[]⟩, .int .i64 0] t)) :=
 ⟨⟨by rw [World.cell?_alloc_at _ _ _ _ rfl]; rfl, by rw [World.cell?_alloc_at _ _ _ _ rfl]; rfl, made_frozen w _ _⟩, Ch.refl _ _, Nat.le_refl _⟩
theorem XS.q (h : XS w0 g T B w) (q : Q w w') : XS w0 g T B w' := ⟨h.wr.q q, h.ch.trans (Ch.of_q q g), h.z⟩
theorem XS.up (h : XS w0 g T B w) : XS w g T B w := ⟨h.wr, Ch.refl _ _, h.z⟩
theorem XS.over {T' : ByteArray} {B' : Nat} (h : XS w0 g T B w) (k : XS w g T' B' w') : XS w0 g T' B' w' := ⟨k.wr, h.ch.trans k.ch, k.z⟩
theorem XS.to {T' : ByteArray} {B' : Nat} (h : XS w0 g T B w) (e : T = T') (hb : B ≤ B') : XS w0 g T' B' w := ⟨e ▸ h.wr, h.ch, by rw [← e]; exact Nat.le_trans h.z hb⟩
theorem XS.sz {T' : ByteArray} {B' : Nat} (h : XS w0 g T B w) (e : T = T') (hb : T'.size ≤ B') : XS w0 g T' B' w := ⟨e ▸ h.wr, h.ch, hb⟩
def XWrote (w0 : World) (g : Nat) (T : ByteArray) (B : Nat) (r : Ending) (w' : World) : Prop := r = .returned (.tuple #[]) ∧ XS w0 g T B w'
theorem XS.of {t : ByteArray} {r : Ending} {pe : Int} (h : XS w0 g T B w) (hp : pe = 0) (d : XDone g T 0 t pe w r w') (hz : t.size ≤ 5000) : XWrote w0 g (T ++ t) (B + 5000) r w' := by
 subst hp
 obtain ⟨a, b, c⟩ := d
 unfold xwT failE at b
 rw [if_pos rfl, if_pos rfl] at b
 exact ⟨a, b, h.ch.trans c, by rw [ByteArray.size_append]; have := h.z; omega⟩
theorem XS.byte (h : XS w0 g T B w) (n : Int) (hn : 0 ≤ n ∧ n ≤ 255) (hB : B ≤ 90000000) : Calls Tryz.prog 67 #[.pointer (some ⟨g, 0, none⟩), .int .i64 n] w (XWrote w0 g (T ++ strOfNums [n]) (B + 5000)) :=
 (xbyte_w g T 0 n w h.wr (by have := h.z; omega)).mono fun r w' d => h.of (by unfold wyE; rw [if_pos hn]) d (by rw [one_size]; omega)
theorem XS.num (h : XS w0 g T B w) (n : Int) (hn : U64 n) (hB : B ≤ 90000000) : Calls Tryz.prog 69 #[.pointer (some ⟨g, 0, none⟩), .int .u64 n] w (XWrote w0 g (T ++ putS n) (B + 5000)) :=
 (xnum_w g T 0 n w h.wr (by have := h.z; omega) hn.1 hn.2).mono fun r w' d => h.of rfl d (by rw [putS_size]; omega)
theorem XS.hash (h : XS w0 g T B w) (s : ByteArray) (hs : s.size = 16) (hB : B ≤ 90000000) : Calls Tryz.prog 68 #[.pointer (some ⟨g, 0, none⟩), .string s] w (XWrote w0 g (T ++ s) (B + 5000)) :=
 (xhash_w g T 0 s w h.wr (by have := h.z; omega) (by omega)).mono fun r w' d => h.of (by unfold waE; rw [if_pos hs]) d (by omega)
theorem XS.blob (h : XS w0 g T B w) (s : ByteArray) (hs : s.size ≤ 4096) (hB : B ≤ 90000000) : Calls Tryz.prog 75 #[.pointer (some ⟨g, 0, none⟩), .string s] w (XWrote w0 g (T ++ blobS s) (B + 5000)) :=
 (xblob_w g T 0 s w h.wr (by have := h.z; omega)).mono fun r w' d => h.of (by unfold wbE; rw [if_pos hs]) d (by rw [blobS_size]; omega)
theorem XS.text (h : XS w0 g T B w) : Calls Tryz.prog 70 #[.pointer (some ⟨g, 0, none⟩)] w fun r w' => r = .returned (.string T) ∧ w = w' :=
 (xtext_w g T 0 w h.wr).mono fun r w' ⟨a, b⟩ => ⟨by rw [if_pos rfl] at a; exact a, b⟩
end
theorem retB {a b : Bool} (h : a = b) : Ending.returned (.bool a) = .returned (.bool b) := by rw [h]
theorem isHash_x (s : ByteArray) (w : World) : Calls Tryz.prog 47 #[.string s] w fun e w' => e = .returned (.bool (decide (s.size = 16))) ∧ w = w' := by
 go_enter Tryz.func47, Tryz.ntmps47
 go_wp2_with fail
 go_ret
 exact ⟨retB (by rw [Bool.eq_iff_iff]; simp; omega), rfl⟩
theorem nisHash_x (s : ByteArray) (w : World) : Calls Tryz.prog 100 #[.string s] w fun e w' => e = .returned (.bool (decide (s.size = 16))) ∧ w = w' := by
 go_enter Tryz.func100, Tryz.ntmps100
 go_wp2_with fail
 go_ret
 exact ⟨retB (by rw [Bool.eq_iff_iff]; simp; omega), rfl⟩
theorem between_x (n a b : Int) (w : World) : Calls Tryz.prog 46 #[.int .i64 n, .int .i64 a, .int .i64 b] w fun e w' => e = .returned (.bool (decide (a ≤ n ∧ n ≤ b))) ∧ w = w' := by
 by_cases h : a ≤ n
 · go_enter Tryz.func46, Tryz.ntmps46
   go_wp2_with fail
   go_ret
   exact ⟨retB (by rw [Bool.eq_iff_iff]; simp; omega), rfl⟩
 · go_enter Tryz.func46, Tryz.ntmps46
   go_wp2_with fail
   go_ret
   exact ⟨retB (by rw [Bool.eq_iff_iff]; simp; omega), rfl⟩
set_option maxHeartbeats 1000000 in
theorem isNoIn_x (x : IN) (w : World) : Calls Tryz.prog 57 #[inV x] w fun e w' => e = .returned (.bool (!decide (InR x))) ∧ Q w w' := by
 obtain ⟨tx, out, path, sig⟩ := x
 have HQ : Hid (∀ o, Q w (w.alloc o)) := fun o => (Q.refl w).alloc o
 have HR : Hid (∀ b : Bool, (b = true ↔ ¬ InR ⟨tx, out, path, sig⟩) → b = !decide (InR ⟨tx, out, path, sig⟩)) := fun b hb => by rw [Bool.eq_iff_iff, hb]; simp
 unfold InR at HR
 dsimp only at HR
 go_enter Tryz.func57, Tryz.ntmps57
 go_wp2_with (first | (go_at_call 47; refine (isHash_x _ _).mono ?_; rintro e w' ⟨rfl, rfl⟩) | (go_at_call 46; refine (between_x _ _ _ _).mono ?_; rintro e w' ⟨rfl, rfl⟩))
 all_goals (go_ret; exact ⟨retB (HR.out _ (by simp; omega)), HQ.out _⟩)
theorem tl_nil (s : ByteArray) : s.toList = [] ↔ s.size = 0 := by
 rw [ByteArray.toList_eq]
 constructor
 · intro h; have := congrArg List.length h; simpa using this
 · intro h; rw [ByteArray.size_eq_zero_iff.1 h]; rfl
set_option maxHeartbeats 2000000 in
theorem fits_x (x : OU) (w : World) : Calls Tryz.prog 9 #[ouV x] w fun e w' => e = .returned (.bool (decide (Fit x))) ∧ Q w w' := by
 obtain ⟨kind, amount, key, gate, expiry, anchor, unit, tokens, of_⟩ := x
 have HQ : Hid (∀ o, Q w (w.alloc o)) := fun o => (Q.refl w).alloc o
 have HS : Hid (∀ w' j v, Q w w' → Q w (w'.setCell ⟨w.heap.size, j, none⟩ v)) := fun w' j v q => q.setCell (Nat.le_refl _) v
 have HR : Hid (∀ b : Bool, (b = true ↔ Fit ⟨kind, amount, key, gate, expiry, anchor, unit, tokens, of_⟩) → b = decide (Fit ⟨kind, amount, key, gate, expiry, anchor, unit, tokens, of_⟩)) := fun b hb => by rw [Bool.eq_iff_iff, hb]; simp
 generalize decide (Fit ⟨kind, amount, key, gate, expiry, anchor, unit, tokens, of_⟩) = ANS at *
 unfold Fit at HR
 dsimp only at HR
 go_enter Tryz.func9, Tryz.ntmps9
 go_wp2_with (first | (go_at_call 47; refine (isHash_x _ _).mono ?_; rintro e w' ⟨rfl, rfl⟩) | (go_at_call 46; refine (between_x _ _ _ _).mono ?_; rintro e w' ⟨rfl, rfl⟩))
 all_goals go_ret
 all_goals refine ⟨retB (HR.out _ ?_), ?_⟩
 all_goals first
  | exact HQ.out _
  | (refine HS.out _ _ _ ?_; repeat (first | exact HQ.out _ | refine HS.out _ _ _ ?_))
  | (clear HR HQ HS; simp only [tl_nil, Bool.not_eq_true', Bool.not_eq_false', decide_eq_true_eq, decide_eq_false_iff_not, beq_iff_eq, beq_eq_false_iff_ne, ne_eq] at *; simp only [Bool.false_eq_true, true_iff, false_iff]; omega)
theorem isNoOut_x (x : OU) (w : World) : Calls Tryz.prog 60 #[ouV x] w fun e w' => e = .returned (.bool (!decide (Fit x))) ∧ Q w w' := by
 have HC := Lib.hid (fun t : TypeId => fits_x x (w.alloc (.cells #[.int .i64 x.kind, .int .u64 x.amount, .string x.key, .string x.gate, .int .i64 x.expiry, .string x.anchor, .int .u64 x.unit, .int .i64 x.tokens, .string x.of_] t)))
 have HQ : Hid (∀ o w', Q (w.alloc o) w' → Q w w') := fun o w' q => ((Q.refl w).alloc o).trans q
 obtain ⟨kind, amount, key, gate, expiry, anchor, unit, tokens, of_⟩ := x
 dsimp only at *
 go_enter Tryz.func60, Tryz.ntmps60
 go_wp2_with fail
 refine (HC.out _).mono ?_
 rintro e w1 ⟨rfl, q1⟩
 have Q1 := Lib.hid (HQ.out _ _ q1)
 clear q1
 go_wp2_with fail
 go_ret
 exact ⟨rfl, Q1.out⟩
set_option maxHeartbeats 1000000 in
theorem isTicket_x (x : WN) (w : World) : Calls Tryz.prog 129 #[.agg #[.string x.chan, .int .u64 x.serial, .int .u64 x.face, .int .u64 x.wins, .int .u64 x.many, .string x.commit, .int .u64 x.client, .string x.sig]] w fun e w' => e = .returned (.bool (decide (TkR x))) ∧ Q w w' := by
 obtain ⟨chan, serial, face, wins, many, commit, client, sig, salt, drawn⟩ := x
 have HQ : Hid (∀ o, Q w (w.alloc o)) := fun o => (Q.refl w).alloc o
 have HR : Hid (∀ b : Bool, (b = true ↔ TkR ⟨chan, serial, face, wins, many, commit, client, sig, salt, drawn⟩) → b = decide (TkR ⟨chan, serial, face, wins, many, commit, client, sig, salt, drawn⟩)) := fun b hb => by rw [Bool.eq_iff_iff, hb]; simp
 generalize decide (TkR ⟨chan, serial, face, wins, many, commit, client, sig, salt, drawn⟩) = ANS at *
 unfold TkR at HR
 dsimp only at *
 go_enter Tryz.func129, Tryz.ntmps129
 go_wp2_with (go_at_call 100; refine (nisHash_x _ _).mono ?_; rintro e w' ⟨rfl, rfl⟩)
 all_goals (go_ret; exact ⟨retB (HR.out _ (by simp; omega)), HQ.out _⟩)
set_option maxHeartbeats 1000000 in
theorem isNoWin_x (x : WN) (w : World) : Calls Tryz.prog 102 #[wnV x] w fun e w' => e = .returned (.bool (!decide (WnR x))) ∧ Q w w' := by
 have HC := Lib.hid (fun o => isTicket_x x (w.alloc o))
 have HQ : Hid (∀ o w', Q (w.alloc o) w' → Q w w') := fun o w' q => ((Q.refl w).alloc o).trans q
 have HV : Hid (∀ w', Q w w' → ∀ b : Bool, (b = true ↔ ¬ (decide (TkR x) = true ∧ x.salt.size ≤ 32)) → (Ending.returned (.bool b) = .returned (.bool (!decide (WnR x))) ∧ Q w w')) := fun w' q b hb => ⟨retB (by rw [Bool.eq_iff_iff, hb, Bool.not_eq_true', decide_eq_false_iff_not, decide_eq_true_eq]; exact Iff.rfl), q⟩
 generalize decide (TkR x) = TK at *
 obtain ⟨chan, serial, face, wins, many, commit, client, sig, salt, drawn⟩ := x
 dsimp only at *
 have HM : Hid (∀ t w', Q (w.alloc (.cells #[.string chan, .int .u64 serial, .int .u64 face, .int .u64 wins, .int .u64 many, .string commit, .int .u64 client, .string sig, .string salt, .int .u64 drawn] t)) w' → w'.cell? ⟨w.heap.size, 8, none⟩ = some (.string salt)) := fun t w' q => Q.cell' q (by rw [World.cell?_alloc_at _ _ _ _ rfl]; rfl)
 cases TK
 all_goals
  go_enter Tryz.func102, Tryz.ntmps102
  go_wp2_with fail
  refine (HC.out _).mono ?_
  rintro e w1 ⟨rfl, q1⟩
  have M1 := HM.out _ _ q1
  have Q1 := Lib.hid (HQ.out _ _ q1)
  clear q1 HC HM
  go_wp2_with fail
  go_ret
  exact HV.out _ Q1.out _ (by simp; try omega)
/-- Contracts of a truth value, in words. -/
theorem noIn_w (x : IN) (w : World) : Calls Tryz.prog 57 #[inV x] w (Tells (¬ InR x) w) :=
 (isNoIn_x x w).mono fun e w' ⟨h, q⟩ => ⟨_, h, by simp, q⟩
theorem noOut_w (x : OU) (w : World) : Calls Tryz.prog 60 #[ouV x] w (Tells (¬ Fit x) w) :=
 (isNoOut_x x w).mono fun e w' ⟨h, q⟩ => ⟨_, h, by simp, q⟩
theorem noWin_w (x : WN) (w : World) : Calls Tryz.prog 102 #[wnV x] w (Tells (¬ WnR x) w) :=
 (isNoWin_x x w).mono fun e w' ⟨h, q⟩ => ⟨_, h, by simp, q⟩
set_option maxHeartbeats 1000000 in
theorem index_in (a : Option Addr) (n cap : Nat) (f : Nat → IN) (w : World) (h : SL IN.cells 4 w a n f) (hn : n ≤ 100) :
 Calls Tryz.prog 97 #[.slice a n cap, .func (.func 57) #[] #[]] w fun e w' => ∃ r : Int, e = .returned (.int .i64 r) ∧ (0 ≤ r ↔ ∃ i, i < n ∧ ¬ InR (f i)) ∧ Q w w' := by
 have HT := Lib.hid h
 clear h
 go_enter Tryz.func97, Tryz.ntmps97
 go_wp2_with fail
 go_loopw [5, 8] (fun z i wr => ∃ k : Nat, k ≤ n ∧ i = .int .i64 k ∧ Hid (∀ j, j < k → ¬ ¬ InR (f j)) ∧ Hid (Q w wr)) (fun _ i _ => n - (intOf i).toNat)
 case atStart => exact ⟨0, by omega, rfl, Lib.hid (fun j hj => by omega), Lib.hid (Q.refl w)⟩
 case round =>
  obtain ⟨k, hk, rfl, J, QR⟩ := hrel
  have k0 : (0 : Int) ≤ (k : Int) := by omega
  by_cases hlt : k < n
  · have k1 : (k : Int) < (n : Int) := by omega
    obtain ⟨b, off, rfl, hrow⟩ := (HT.out.q QR.out).some_ (by omega)
    obtain ⟨c0, c1, c2, c3⟩ := in_at (hrow k hlt)
    clear hrow
    by_cases hp : ¬ InR (f k)
    · have HF : Hid (∀ r : Int, r = k → (0 ≤ r ↔ ∃ i, i < n ∧ ¬ InR (f i))) := fun r e => ⟨fun _ => ⟨k, hlt, hp⟩, fun _ => by omega⟩
      have HB := Lib.hid hp
      clear J hp
      generalize f k = x at *
      go_wp2_with fail
      refine (noIn_w x _).mono ?_
      rintro e w1 ⟨b1, rfl, hb1, q1⟩
      have hb2 : b1 = true := by rw [hb1]; exact HB.out
      subst hb2
      have Q1 := Lib.hid (QR.out.trans q1)
      clear q1 hb1
      go_wp2_with fail
      go_ret
      exact ⟨_, rfl, HF.out _ rfl, Q1.out⟩
    · have J' : Hid (∀ j, j < k + 1 → ¬ ¬ InR (f j)) := fun j hj => by
       by_cases e : j = k
       · rw [e]; exact hp
       · exact J.out j (by omega)
      have HB := Lib.hid hp
      clear J hp
      generalize f k = x at *
      go_wp2_with fail
      refine (noIn_w x _).mono ?_
      rintro e w1 ⟨b1, rfl, hb1, q1⟩
      have hb2 : b1 = false := by rw [← Bool.not_eq_true, hb1]; exact HB.out
      subst hb2
      have Q1 := Lib.hid (QR.out.trans q1)
      clear q1 hb1 QR c0 c1 c2 c3
      go_wp2_with fail
      go_roundw
      case rel => exact ⟨k + 1, by omega, by go_num, J', Q1⟩
      case measure => simp [intOf]; omega
  · obtain rfl : k = n := by omega
    have td : decide (k < k) = false := by simp
    have HF : Hid ((0 : Int) ≤ -1 ↔ ∃ i, i < k ∧ ¬ InR (f i)) := ⟨fun h => absurd h (by decide), fun ⟨i, hi, hp⟩ => absurd hp (J.out i hi)⟩
    go_wp2_with fail
    go_ret
    exact ⟨_, rfl, HF.out, QR.out⟩
theorem contains_in (a : Option Addr) (n cap : Nat) (f : Nat → IN) (w : World) (h : SL IN.cells 4 w a n f) (hn : n ≤ 100) :
 Calls Tryz.prog 56 #[.slice a n cap, .func (.func 57) #[] #[]] w (Tells (∃ i, i < n ∧ ¬ InR (f i)) w) := by
 have C := Lib.hid (index_in a n cap f w h hn)
 clear h
 go_enter Tryz.func56, Tryz.ntmps56
 go_wp2_with fail
 refine C.out.mono ?_
 rintro e w1 ⟨r, rfl, hr, q1⟩
 have HR := Lib.hid hr
 have Q1 := Lib.hid q1
 clear hr q1 C
 go_wp2_with fail
 go_ret
 exact ⟨_, rfl, by rw [← HR.out]; simp, Q1.out⟩
set_option maxHeartbeats 1000000 in
theorem index_out (a : Option Addr) (n cap : Nat) (f : Nat → OU) (w : World) (h : SL OU.cells 9 w a n f) (hn : n ≤ 100) :
 Calls Tryz.prog 99 #[.slice a n cap, .func (.func 60) #[] #[]] w fun e w' => ∃ r : Int, e = .returned (.int .i64 r) ∧ (0 ≤ r ↔ ∃ i, i < n ∧ ¬ Fit (f i)) ∧ Q w w' := by
 have HT := Lib.hid h
 clear h
 go_enter Tryz.func99, Tryz.ntmps99
 go_wp2_with fail
 go_loopw [5, 8] (fun z i wr => ∃ k : Nat, k ≤ n ∧ i = .int .i64 k ∧ Hid (∀ j, j < k → ¬ ¬ Fit (f j)) ∧ Hid (Q w wr)) (fun _ i _ => n - (intOf i).toNat)
 case atStart => exact ⟨0, by omega, rfl, Lib.hid (fun j hj => by omega), Lib.hid (Q.refl w)⟩
 case round =>
  obtain ⟨k, hk, rfl, J, QR⟩ := hrel
  have k0 : (0 : Int) ≤ (k : Int) := by omega
  by_cases hlt : k < n
  · have k1 : (k : Int) < (n : Int) := by omega
    obtain ⟨b, off, rfl, hrow⟩ := (HT.out.q QR.out).some_ (by omega)
    obtain ⟨c0, c1, c2, c3, c4, c5, c6, c7, c8⟩ := out_at (hrow k hlt)
    clear hrow
    by_cases hp : ¬ Fit (f k)
    · have HF : Hid (∀ r : Int, r = k → (0 ≤ r ↔ ∃ i, i < n ∧ ¬ Fit (f i))) := fun r e => ⟨fun _ => ⟨k, hlt, hp⟩, fun _ => by omega⟩
      have HB := Lib.hid hp
      clear J hp
      generalize f k = x at *
      go_wp2_with fail
      refine (noOut_w x _).mono ?_
      rintro e w1 ⟨b1, rfl, hb1, q1⟩
      have hb2 : b1 = true := by rw [hb1]; exact HB.out
      subst hb2
      have Q1 := Lib.hid (QR.out.trans q1)
      clear q1 hb1
      go_wp2_with fail
      go_ret
      exact ⟨_, rfl, HF.out _ rfl, Q1.out⟩
    · have J' : Hid (∀ j, j < k + 1 → ¬ ¬ Fit (f j)) := fun j hj => by
       by_cases e : j = k
       · rw [e]; exact hp
       · exact J.out j (by omega)
      have HB := Lib.hid hp
      clear J hp
      generalize f k = x at *
      go_wp2_with fail
      refine (noOut_w x _).mono ?_
      rintro e w1 ⟨b1, rfl, hb1, q1⟩
      have hb2 : b1 = false := by rw [← Bool.not_eq_true, hb1]; exact HB.out
      subst hb2
      have Q1 := Lib.hid (QR.out.trans q1)
      clear q1 hb1 QR c0 c1 c2 c3 c4 c5 c6 c7 c8
      go_wp2_with fail
      go_roundw
      case rel => exact ⟨k + 1, by omega, by go_num, J', Q1⟩
      case measure => simp [intOf]; omega
  · obtain rfl : k = n := by omega
    have td : decide (k < k) = false := by simp
    have HF : Hid ((0 : Int) ≤ -1 ↔ ∃ i, i < k ∧ ¬ Fit (f i)) := ⟨fun h => absurd h (by decide), fun ⟨i, hi, hp⟩ => absurd hp (J.out i hi)⟩
    go_wp2_with fail
    go_ret
    exact ⟨_, rfl, HF.out, QR.out⟩
theorem contains_out (a : Option Addr) (n cap : Nat) (f : Nat → OU) (w : World) (h : SL OU.cells 9 w a n f) (hn : n ≤ 100) :
 Calls Tryz.prog 59 #[.slice a n cap, .func (.func 60) #[] #[]] w (Tells (∃ i, i < n ∧ ¬ Fit (f i)) w) := by
 have C := Lib.hid (index_out a n cap f w h hn)
 clear h
 go_enter Tryz.func59, Tryz.ntmps59
 go_wp2_with fail
 refine C.out.mono ?_
 rintro e w1 ⟨r, rfl, hr, q1⟩
 have HR := Lib.hid hr
 have Q1 := Lib.hid q1
 clear hr q1 C
 go_wp2_with fail
 go_ret
 exact ⟨_, rfl, by rw [← HR.out]; simp, Q1.out⟩
set_option maxHeartbeats 1000000 in
theorem index_win (a : Option Addr) (n cap : Nat) (f : Nat → WN) (w : World) (h : SL WN.cells 10 w a n f) (hn : n ≤ 100) :
 Calls Tryz.prog 128 #[.slice a n cap, .func (.func 102) #[] #[]] w fun e w' => ∃ r : Int, e = .returned (.int .i64 r) ∧ (0 ≤ r ↔ ∃ i, i < n ∧ ¬ WnR (f i)) ∧ Q w w' := by
 have HT := Lib.hid h
 clear h
 go_enter Tryz.func128, Tryz.ntmps128
 go_wp2_with fail
 go_loopw [5, 8] (fun z i wr => ∃ k : Nat, k ≤ n ∧ i = .int .i64 k ∧ Hid (∀ j, j < k → ¬ ¬ WnR (f j)) ∧ Hid (Q w wr)) (fun _ i _ => n - (intOf i).toNat)
 case atStart => exact ⟨0, by omega, rfl, Lib.hid (fun j hj => by omega), Lib.hid (Q.refl w)⟩
 case round =>
  obtain ⟨k, hk, rfl, J, QR⟩ := hrel
  have k0 : (0 : Int) ≤ (k : Int) := by omega
  by_cases hlt : k < n
  · have k1 : (k : Int) < (n : Int) := by omega
    obtain ⟨b, off, rfl, hrow⟩ := (HT.out.q QR.out).some_ (by omega)
    obtain ⟨c0, c1, c2, c3, c4, c5, c6, c7, c8, c9⟩ := win_at (hrow k hlt)
    clear hrow
    by_cases hp : ¬ WnR (f k)
    · have HF : Hid (∀ r : Int, r = k → (0 ≤ r ↔ ∃ i, i < n ∧ ¬ WnR (f i))) := fun r e => ⟨fun _ => ⟨k, hlt, hp⟩, fun _ => by omega⟩
      have HB := Lib.hid hp
      clear J hp
      generalize f k = x at *
      go_wp2_with fail
      refine (noWin_w x _).mono ?_
      rintro e w1 ⟨b1, rfl, hb1, q1⟩
      have hb2 : b1 = true := by rw [hb1]; exact HB.out
      subst hb2
      have Q1 := Lib.hid (QR.out.trans q1)
      clear q1 hb1
      go_wp2_with fail
      go_ret
      exact ⟨_, rfl, HF.out _ rfl, Q1.out⟩
    · have J' : Hid (∀ j, j < k + 1 → ¬ ¬ WnR (f j)) := fun j hj => by
       by_cases e : j = k
       · rw [e]; exact hp
       · exact J.out j (by omega)
      have HB := Lib.hid hp
      clear J hp
      generalize f k = x at *
      go_wp2_with fail
      refine (noWin_w x _).mono ?_
      rintro e w1 ⟨b1, rfl, hb1, q1⟩
      have hb2 : b1 = false := by rw [← Bool.not_eq_true, hb1]; exact HB.out
      subst hb2
      have Q1 := Lib.hid (QR.out.trans q1)
      clear q1 hb1 QR c0 c1 c2 c3 c4 c5 c6 c7 c8 c9
      go_wp2_with fail
      go_roundw
      case rel => exact ⟨k + 1, by omega, by go_num, J', Q1⟩
      case measure => simp [intOf]; omega
  · obtain rfl : k = n := by omega
    have td : decide (k < k) = false := by simp
    have HF : Hid ((0 : Int) ≤ -1 ↔ ∃ i, i < k ∧ ¬ WnR (f i)) := ⟨fun h => absurd h (by decide), fun ⟨i, hi, hp⟩ => absurd hp (J.out i hi)⟩
    go_wp2_with fail
    go_ret
    exact ⟨_, rfl, HF.out, QR.out⟩
theorem contains_win (a : Option Addr) (n cap : Nat) (f : Nat → WN) (w : World) (h : SL WN.cells 10 w a n f) (hn : n ≤ 100) :
 Calls Tryz.prog 101 #[.slice a n cap, .func (.func 102) #[] #[]] w (Tells (∃ i, i < n ∧ ¬ WnR (f i)) w) := by
 have C := Lib.hid (index_win a n cap f w h hn)
 clear h
 go_enter Tryz.func101, Tryz.ntmps101
 go_wp2_with fail
 refine C.out.mono ?_
 rintro e w1 ⟨r, rfl, hr, q1⟩
 have HR := Lib.hid hr
 have Q1 := Lib.hid q1
 clear hr q1 C
 go_wp2_with fail
 go_ret
 exact ⟨_, rfl, by rw [← HR.out]; simp, Q1.out⟩
theorem beq_tl (a b : ByteArray) : (a.toList == b.toList) = true ↔ a = b := by
 rw [beq_iff_eq, ByteArray.toList_eq, ByteArray.toList_eq]
 constructor
 · intro h; cases a; cases b; simpa using h
 · intro h; rw [h]
theorem tl_inj (a b : ByteArray) : a.toList = b.toList ↔ a = b := by rw [← beq_tl]; simp
set_option maxHeartbeats 1000000 in
theorem tw_w (x y : IN) (g : Nat) (w : World) (h0 : w.cell? ⟨g, 0, none⟩ = some (.string y.tx)) (h1 : w.cell? ⟨g, 1, none⟩ = some (.int .i64 y.out)) :
 Calls Tryz.prog 98 #[inV x, .pointer (some ⟨g, 0, none⟩)] w (Tells (Pl x y) w) := by
 have HQ : Hid (∀ o, Q w (w.alloc o)) := fun o => (Q.refl w).alloc o
 have HC : Hid (∀ o, (w.alloc o).cell? ⟨g, 0, none⟩ = some (.string y.tx) ∧ (w.alloc o).cell? ⟨g, 1, none⟩ = some (.int .i64 y.out)) := fun o => ⟨Q.cell' ((Q.refl w).alloc o) h0, Q.cell' ((Q.refl w).alloc o) h1⟩
 have d0 := fun o => (HC.out o).1
 have d1 := fun o => (HC.out o).2
 have hlt : g < w.heap.size := World.block_lt_of_cell? _ _ h0
 clear h0 h1
 obtain ⟨tx, out, path, sig⟩ := x
 by_cases ht : tx = y.tx
 · subst ht
   by_cases ho : out = y.out
   · subst ho
     go_enter Tryz.func98, Tryz.ntmps98
     go_wp2_with fail
     go_ret
     exact ⟨_, rfl, by unfold Pl; simp, HQ.out _⟩
   · have ho' : (out == y.out) = false := by simpa using ho
     go_enter Tryz.func98, Tryz.ntmps98
     go_wp2_with fail
     go_ret
     exact ⟨_, rfl, by unfold Pl; simp [ho], HQ.out _⟩
 · have ht' : (tx.toList == y.tx.toList) = false := by rw [← Bool.not_eq_true, beq_tl]; exact ht
   have ht2 : tx.toList ≠ y.tx.toList := by rw [ne_eq, tl_inj]; exact ht
   go_enter Tryz.func98, Tryz.ntmps98
   go_wp2_with fail
   go_ret
   exact ⟨_, rfl, by unfold Pl; simp [ht], HQ.out _⟩
set_option maxHeartbeats 1000000 in
theorem index_tw (a : Option Addr) (n cap : Nat) (f : Nat → IN) (w : World) (h : SL IN.cells 4 w a n f) (hn : n ≤ 100) (g : Nat) (y : IN) (hy0 : w.cell? ⟨g, 0, none⟩ = some (.string y.tx)) (hy1 : w.cell? ⟨g, 1, none⟩ = some (.int .i64 y.out)) :
 Calls Tryz.prog 97 #[.slice a n cap, .func (.func 98) #[] #[.pointer (some ⟨g, 0, none⟩)]] w fun e w' => ∃ r : Int, e = .returned (.int .i64 r) ∧ (0 ≤ r ↔ ∃ i, i < n ∧ Pl (f i) y) ∧ Q w w' := by
 have HT := Lib.hid h
 have HY : Hid (w.cell? ⟨g, 0, none⟩ = some (.string y.tx) ∧ w.cell? ⟨g, 1, none⟩ = some (.int .i64 y.out)) := ⟨hy0, hy1⟩
 clear hy0 hy1
 clear h
 go_enter Tryz.func97, Tryz.ntmps97
 go_wp2_with fail
 go_loopw [5, 8] (fun z i wr => ∃ k : Nat, k ≤ n ∧ i = .int .i64 k ∧ Hid (∀ j, j < k → ¬ Pl (f j) y) ∧ Hid (Q w wr)) (fun _ i _ => n - (intOf i).toNat)
 case atStart => exact ⟨0, by omega, rfl, Lib.hid (fun j hj => by omega), Lib.hid (Q.refl w)⟩
 case round =>
  obtain ⟨k, hk, rfl, J, QR⟩ := hrel
  have k0 : (0 : Int) ≤ (k : Int) := by omega
  by_cases hlt : k < n
  · have k1 : (k : Int) < (n : Int) := by omega
    obtain ⟨b, off, rfl, hrow⟩ := (HT.out.q QR.out).some_ (by omega)
    obtain ⟨c0, c1, c2, c3⟩ := in_at (hrow k hlt)
    clear hrow
    by_cases hp : Pl (f k) y
    · have HF : Hid (∀ r : Int, r = k → (0 ≤ r ↔ ∃ i, i < n ∧ Pl (f i) y)) := fun r e => ⟨fun _ => ⟨k, hlt, hp⟩, fun _ => by omega⟩
      have HB := Lib.hid hp
      clear J hp
      generalize f k = x at *
      go_wp2_with fail
      refine (tw_w x y g _ (Q.cell' QR.out HY.out.1) (Q.cell' QR.out HY.out.2)).mono ?_
      rintro e w1 ⟨b1, rfl, hb1, q1⟩
      have hb2 : b1 = true := by rw [hb1]; exact HB.out
      subst hb2
      have Q1 := Lib.hid (QR.out.trans q1)
      clear q1 hb1
      go_wp2_with fail
      go_ret
      exact ⟨_, rfl, HF.out _ rfl, Q1.out⟩
    · have J' : Hid (∀ j, j < k + 1 → ¬ Pl (f j) y) := fun j hj => by
       by_cases e : j = k
       · rw [e]; exact hp
       · exact J.out j (by omega)
      have HB := Lib.hid hp
      clear J hp
      generalize f k = x at *
      go_wp2_with fail
      refine (tw_w x y g _ (Q.cell' QR.out HY.out.1) (Q.cell' QR.out HY.out.2)).mono ?_
      rintro e w1 ⟨b1, rfl, hb1, q1⟩
      have hb2 : b1 = false := by rw [← Bool.not_eq_true, hb1]; exact HB.out
      subst hb2
      have Q1 := Lib.hid (QR.out.trans q1)
      clear q1 hb1 QR c0 c1 c2 c3
      go_wp2_with fail
      go_roundw
      case rel => exact ⟨k + 1, by omega, by go_num, J', Q1⟩
      case measure => simp [intOf]; omega
  · obtain rfl : k = n := by omega
    have td : decide (k < k) = false := by simp
    have HF : Hid ((0 : Int) ≤ -1 ↔ ∃ i, i < k ∧ Pl (f i) y) := ⟨fun h => absurd h (by decide), fun ⟨i, hi, hp⟩ => absurd hp (J.out i hi)⟩
    go_wp2_with fail
    go_ret
    exact ⟨_, rfl, HF.out, QR.out⟩
theorem contains_tw (a : Option Addr) (n cap : Nat) (f : Nat → IN) (w : World) (h : SL IN.cells 4 w a n f) (hn : n ≤ 100) (g : Nat) (y : IN) (hy0 : w.cell? ⟨g, 0, none⟩ = some (.string y.tx)) (hy1 : w.cell? ⟨g, 1, none⟩ = some (.int .i64 y.out)) :
 Calls Tryz.prog 56 #[.slice a n cap, .func (.func 98) #[] #[.pointer (some ⟨g, 0, none⟩)]] w (Tells (∃ i, i < n ∧ Pl (f i) y) w) := by
 have C := Lib.hid (index_tw a n cap f w h hn g y hy0 hy1)
 clear h hy0 hy1
 go_enter Tryz.func56, Tryz.ntmps56
 go_wp2_with fail
 refine C.out.mono ?_
 rintro e w1 ⟨r, rfl, hr, q1⟩
 have HR := Lib.hid hr
 have Q1 := Lib.hid q1
 clear hr q1 C
 go_wp2_with fail
 go_ret
 exact ⟨_, rfl, by rw [← HR.out]; simp, Q1.out⟩
set_option maxHeartbeats 1000000 in
theorem twice_x (a : Option Addr) (n cap : Nat) (f : Nat → IN) (w : World) (h : SL IN.cells 4 w a n f) (hn : n ≤ 100) (hcap : n ≤ cap) :
 Calls Tryz.prog 58 #[.slice a n cap] w (Tells (Tw f n) w) := by
 have HT := Lib.hid h
 clear h
 go_enter Tryz.func58, Tryz.ntmps58
 go_wp2_with fail
 go_loopw [3, 4, 7] (fun z y i wr => ∃ k : Nat, k ≤ n ∧ i = .int .i64 k ∧ Hid (∀ i, i < k → ∀ j, j < i → ¬ Pl (f j) (f i)) ∧ Hid (Q w wr)) (fun _ _ i _ => n - (intOf i).toNat)
 case atStart => exact ⟨0, by omega, rfl, Lib.hid (fun j hj => by omega), Lib.hid (Q.refl w)⟩
 case round =>
  obtain ⟨k, hk, rfl, J, QR⟩ := hrel
  have k0 : (0 : Int) ≤ (k : Int) := by omega
  by_cases hlt : k < n
  · have k1 : (k : Int) < (n : Int) := by omega
    have kc : (k : Int) ≤ (cap : Int) := by omega
    obtain ⟨b, off, rfl, hrow⟩ := (HT.out.q QR.out).some_ (by omega)
    obtain ⟨c0, c1, c2, c3⟩ := in_at (hrow k hlt)
    clear hrow
    have HM : Hid (∀ t : TypeId, (wr.alloc (.cells #[.string (f k).tx, .int .i64 (f k).out, .int .i64 (f k).path, .string (f k).sig] t)).cell? ⟨wr.heap.size, 0, none⟩ = some (.string (f k).tx) ∧ (wr.alloc (.cells #[.string (f k).tx, .int .i64 (f k).out, .int .i64 (f k).path, .string (f k).sig] t)).cell? ⟨wr.heap.size, 1, none⟩ = some (.int .i64 (f k).out)) := fun t => ⟨by rw [World.cell?_alloc_at _ _ _ _ rfl]; rfl, by rw [World.cell?_alloc_at _ _ _ _ rfl]; rfl⟩
    by_cases hp : ∃ j, j < k ∧ Pl (f j) (f k)
    · have HF : Hid (Tw f n) := ⟨k, hlt, hp⟩
      have HB := Lib.hid hp
      clear J hp
      go_wp2_with fail
      refine (contains_tw _ k cap f _ ((HT.out.q (QR.out.alloc _)).take (by omega)) (by omega) wr.heap.size (f k) (HM.out _).1 (HM.out _).2).mono ?_
      rintro e w1 ⟨b1, rfl, hb1, q1⟩
      have hb2 : b1 = true := by rw [hb1]; exact HB.out
      subst hb2
      have Q1 := Lib.hid ((QR.out.alloc _).trans q1)
      clear q1 hb1
      go_wp2_with fail
      go_ret
      exact ⟨_, rfl, ⟨fun _ => HF.out, fun _ => rfl⟩, Q1.out⟩
    · have J' : Hid (∀ i, i < k + 1 → ∀ j, j < i → ¬ Pl (f j) (f i)) := fun i hi j hj => by
       by_cases e : i = k
       · rw [e]; exact fun x => hp ⟨j, by omega, x⟩
       · exact J.out i (by omega) j hj
      have HB := Lib.hid hp
      clear J hp
      go_wp2_with fail
      refine (contains_tw _ k cap f _ ((HT.out.q (QR.out.alloc _)).take (by omega)) (by omega) wr.heap.size (f k) (HM.out _).1 (HM.out _).2).mono ?_
      rintro e w1 ⟨b1, rfl, hb1, q1⟩
      have hb2 : b1 = false := by rw [← Bool.not_eq_true, hb1]; exact HB.out
      subst hb2
      have Q1 := Lib.hid ((QR.out.alloc _).trans q1)
      clear q1 hb1 QR c0 c1 c2 c3
      go_wp2_with fail
      go_roundw
      case rel => exact ⟨k + 1, by omega, by go_num, J', Q1⟩
      case measure => simp [intOf]; omega
  · obtain rfl : k = n := by omega
    have td : decide (k < k) = false := by simp
    have HF : Hid (¬ Tw f k) := fun ⟨i, hi, j, hj, hp⟩ => absurd hp (J.out i hi j hj)
    go_wp2_with fail
    go_ret
    exact ⟨_, rfl, ⟨fun h => absurd h (by decide), fun h => absurd h HF.out⟩, QR.out⟩
set_option maxHeartbeats 2000000 in
theorem equal_in (a a' : Option Addr) (n n' cap cap' : Nat) (f f' : Nat → IN) (w : World) (h : SL IN.cells 4 w a n f) (h' : SL IN.cells 4 w a' n' f') (hn : n ≤ 100) (hn' : n' ≤ 100) :
 Calls Tryz.prog 53 #[.slice a n cap, .slice a' n' cap'] w (Tells (SamR n n' f f') w) := by
 have HT := Lib.hid h
 have HT' := Lib.hid h'
 clear h h'
 by_cases hnn : n = n'
 · subst hnn
   go_enter Tryz.func53, Tryz.ntmps53
   go_wp2_with fail
   go_loopw [5, 13] (fun z i wr => ∃ k : Nat, k ≤ n ∧ i = .int .i64 k ∧ Hid (∀ j, j < k → f j = f' j) ∧ Hid (Q w wr)) (fun _ i _ => n - (intOf i).toNat)
   case atStart => exact ⟨0, by omega, rfl, Lib.hid (fun j hj => by omega), Lib.hid (Q.refl w)⟩
   case round =>
    obtain ⟨k, hk, rfl, J, QR⟩ := hrel
    have k0 : (0 : Int) ≤ (k : Int) := by omega
    by_cases hlt : k < n
    · have k1 : (k : Int) < (n : Int) := by omega
      obtain ⟨b, off, rfl, hrow⟩ := (HT.out.q QR.out).some_ (by omega)
      obtain ⟨c0, c1, c2, c3⟩ := in_at (hrow k hlt)
      obtain ⟨b', off', rfl, hrow'⟩ := (HT'.out.q QR.out).some_ (by omega)
      obtain ⟨d0, d1, d2, d3⟩ := in_at (hrow' k hlt)
      clear hrow hrow'
      by_cases hp : f k = f' k
      · have J' : Hid (∀ j, j < k + 1 → f j = f' j) := fun j hj => by
         by_cases e : j = k
         · rw [e]; exact hp
         · exact J.out j (by omega)
        rw [← hp] at d0 d1 d2 d3
        clear J hp
        generalize f k = x at *
        go_wp2_with fail
        go_quiet (fail)
        go_wp2_with fail
        have Q1 := Lib.hid (QR.out.drewN nq)
        go_roundw
        case rel => exact ⟨k + 1, by omega, by go_num, J', Q1⟩
        case measure => simp [intOf]; omega
      · have HF : Hid (¬ SamR n n f f') := fun h => absurd (h.2 k hlt) hp
        have HN := Lib.hid hp
        clear J hp
        generalize f k = x at *
        generalize f' k = y at *
        obtain ⟨x0, x1, x2, x3⟩ := x
        obtain ⟨y0, y1, y2, y3⟩ := y
        by_cases e0 : x0 = y0
        rotate_left
        · clear HN
          have t1 : (x0.toList == y0.toList) = false := by rw [← Bool.not_eq_true, beq_tl]; exact e0
          have t2 : x0.toList ≠ y0.toList := by rw [ne_eq, tl_inj]; exact e0
          go_wp2_with fail
          go_quiet (fail)
          go_wp2_with fail
          go_ret
          exact ⟨_, rfl, ⟨fun h => absurd h (by decide), fun h => absurd h HF.out⟩, QR.out.drewN nq⟩
        subst e0
        by_cases e1 : x1 = y1
        rotate_left
        · clear HN
          have t1 : (x1 == y1) = false := by simpa using e1
          go_wp2_with fail
          go_quiet (fail)
          go_wp2_with fail
          go_ret
          exact ⟨_, rfl, ⟨fun h => absurd h (by decide), fun h => absurd h HF.out⟩, QR.out.drewN nq⟩
        subst e1
        by_cases e2 : x2 = y2
        rotate_left
        · clear HN
          have t1 : (x2 == y2) = false := by simpa using e2
          go_wp2_with fail
          go_quiet (fail)
          go_wp2_with fail
          go_ret
          exact ⟨_, rfl, ⟨fun h => absurd h (by decide), fun h => absurd h HF.out⟩, QR.out.drewN nq⟩
        subst e2
        by_cases e3 : x3 = y3
        rotate_left
        · clear HN
          have t1 : (x3.toList == y3.toList) = false := by rw [← Bool.not_eq_true, beq_tl]; exact e3
          have t2 : x3.toList ≠ y3.toList := by rw [ne_eq, tl_inj]; exact e3
          go_wp2_with fail
          go_quiet (fail)
          go_wp2_with fail
          go_ret
          exact ⟨_, rfl, ⟨fun h => absurd h (by decide), fun h => absurd h HF.out⟩, QR.out.drewN nq⟩
        subst e3
        exact absurd rfl HN.out
    · obtain rfl : k = n := by omega
      have td : decide (k < k) = false := by simp
      go_wp2_with fail
      go_ret
      exact ⟨_, rfl, ⟨fun _ => ⟨rfl, J.out⟩, fun _ => rfl⟩, QR.out⟩
 · have hne : ((n : Int) == (n' : Int)) = false := by simp; omega
   have hne2 : ((n : Int) != (n' : Int)) = true := by simp; omega
   go_enter Tryz.func53, Tryz.ntmps53
   go_wp2_with fail
   go_ret
   exact ⟨_, rfl, ⟨fun h => absurd h (by decide), fun h => absurd h.1 hnn⟩, Q.refl w⟩
set_option maxHeartbeats 2000000 in
theorem equal_out (a a' : Option Addr) (n n' cap cap' : Nat) (f f' : Nat → OU) (w : World) (h : SL OU.cells 9 w a n f) (h' : SL OU.cells 9 w a' n' f') (hn : n ≤ 100) (hn' : n' ≤ 100) :
 Calls Tryz.prog 54 #[.slice a n cap, .slice a' n' cap'] w (Tells (SamR n n' f f') w) := by
 have HT := Lib.hid h
 have HT' := Lib.hid h'
 clear h h'
 by_cases hnn : n = n'
 · subst hnn
   go_enter Tryz.func54, Tryz.ntmps54
   go_wp2_with fail
   go_loopw [5, 13] (fun z i wr => ∃ k : Nat, k ≤ n ∧ i = .int .i64 k ∧ Hid (∀ j, j < k → f j = f' j) ∧ Hid (Q w wr)) (fun _ i _ => n - (intOf i).toNat)
   case atStart => exact ⟨0, by omega, rfl, Lib.hid (fun j hj => by omega), Lib.hid (Q.refl w)⟩
   case round =>
    obtain ⟨k, hk, rfl, J, QR⟩ := hrel
    have k0 : (0 : Int) ≤ (k : Int) := by omega
    by_cases hlt : k < n
    · have k1 : (k : Int) < (n : Int) := by omega
      obtain ⟨b, off, rfl, hrow⟩ := (HT.out.q QR.out).some_ (by omega)
      obtain ⟨c0, c1, c2, c3, c4, c5, c6, c7, c8⟩ := out_at (hrow k hlt)
      obtain ⟨b', off', rfl, hrow'⟩ := (HT'.out.q QR.out).some_ (by omega)
      obtain ⟨d0, d1, d2, d3, d4, d5, d6, d7, d8⟩ := out_at (hrow' k hlt)
      clear hrow hrow'
      by_cases hp : f k = f' k
      · have J' : Hid (∀ j, j < k + 1 → f j = f' j) := fun j hj => by
         by_cases e : j = k
         · rw [e]; exact hp
         · exact J.out j (by omega)
        rw [← hp] at d0 d1 d2 d3 d4 d5 d6 d7 d8
        clear J hp
        generalize f k = x at *
        go_wp2_with fail
        go_quiet (fail)
        go_wp2_with fail
        have Q1 := Lib.hid (QR.out.drewN nq)
        go_roundw
        case rel => exact ⟨k + 1, by omega, by go_num, J', Q1⟩
        case measure => simp [intOf]; omega
      · have HF : Hid (¬ SamR n n f f') := fun h => absurd (h.2 k hlt) hp
        have HN := Lib.hid hp
        clear J hp
        generalize f k = x at *
        generalize f' k = y at *
        obtain ⟨x0, x1, x2, x3, x4, x5, x6, x7, x8⟩ := x
        obtain ⟨y0, y1, y2, y3, y4, y5, y6, y7, y8⟩ := y
        by_cases e0 : x0 = y0
        rotate_left
        · clear HN
          have t1 : (x0 == y0) = false := by simpa using e0
          go_wp2_with fail
          go_quiet (fail)
          go_wp2_with fail
          go_ret
          exact ⟨_, rfl, ⟨fun h => absurd h (by decide), fun h => absurd h HF.out⟩, QR.out.drewN nq⟩
        subst e0
        by_cases e1 : x1 = y1
        rotate_left
        · clear HN
          have t1 : (x1 == y1) = false := by simpa using e1
          go_wp2_with fail
          go_quiet (fail)
          go_wp2_with fail
          go_ret
          exact ⟨_, rfl, ⟨fun h => absurd h (by decide), fun h => absurd h HF.out⟩, QR.out.drewN nq⟩
        subst e1
        by_cases e2 : x2 = y2
        rotate_left
        · clear HN
          have t1 : (x2.toList == y2.toList) = false := by rw [← Bool.not_eq_true, beq_tl]; exact e2
          have t2 : x2.toList ≠ y2.toList := by rw [ne_eq, tl_inj]; exact e2
          go_wp2_with fail
          go_quiet (fail)
          go_wp2_with fail
          go_ret
          exact ⟨_, rfl, ⟨fun h => absurd h (by decide), fun h => absurd h HF.out⟩, QR.out.drewN nq⟩
        subst e2
        by_cases e3 : x3 = y3
        rotate_left
        · clear HN
          have t1 : (x3.toList == y3.toList) = false := by rw [← Bool.not_eq_true, beq_tl]; exact e3
          have t2 : x3.toList ≠ y3.toList := by rw [ne_eq, tl_inj]; exact e3
          go_wp2_with fail
          go_quiet (fail)
          go_wp2_with fail
          go_ret
          exact ⟨_, rfl, ⟨fun h => absurd h (by decide), fun h => absurd h HF.out⟩, QR.out.drewN nq⟩
        subst e3
        by_cases e4 : x4 = y4
        rotate_left
        · clear HN
          have t1 : (x4 == y4) = false := by simpa using e4
          go_wp2_with fail
          go_quiet (fail)
          go_wp2_with fail
          go_ret
          exact ⟨_, rfl, ⟨fun h => absurd h (by decide), fun h => absurd h HF.out⟩, QR.out.drewN nq⟩
        subst e4
        by_cases e5 : x5 = y5
        rotate_left
        · clear HN
          have t1 : (x5.toList == y5.toList) = false := by rw [← Bool.not_eq_true, beq_tl]; exact e5
          have t2 : x5.toList ≠ y5.toList := by rw [ne_eq, tl_inj]; exact e5
          go_wp2_with fail
          go_quiet (fail)
          go_wp2_with fail
          go_ret
          exact ⟨_, rfl, ⟨fun h => absurd h (by decide), fun h => absurd h HF.out⟩, QR.out.drewN nq⟩
        subst e5
        by_cases e6 : x6 = y6
        rotate_left
        · clear HN
          have t1 : (x6 == y6) = false := by simpa using e6
          go_wp2_with fail
          go_quiet (fail)
          go_wp2_with fail
          go_ret
          exact ⟨_, rfl, ⟨fun h => absurd h (by decide), fun h => absurd h HF.out⟩, QR.out.drewN nq⟩
        subst e6
        by_cases e7 : x7 = y7
        rotate_left
        · clear HN
          have t1 : (x7 == y7) = false := by simpa using e7
          go_wp2_with fail
          go_quiet (fail)
          go_wp2_with fail
          go_ret
          exact ⟨_, rfl, ⟨fun h => absurd h (by decide), fun h => absurd h HF.out⟩, QR.out.drewN nq⟩
        subst e7
        by_cases e8 : x8 = y8
        rotate_left
        · clear HN
          have t1 : (x8.toList == y8.toList) = false := by rw [← Bool.not_eq_true, beq_tl]; exact e8
          have t2 : x8.toList ≠ y8.toList := by rw [ne_eq, tl_inj]; exact e8
          go_wp2_with fail
          go_quiet (fail)
          go_wp2_with fail
          go_ret
          exact ⟨_, rfl, ⟨fun h => absurd h (by decide), fun h => absurd h HF.out⟩, QR.out.drewN nq⟩
        subst e8
        exact absurd rfl HN.out
    · obtain rfl : k = n := by omega
      have td : decide (k < k) = false := by simp
      go_wp2_with fail
      go_ret
      exact ⟨_, rfl, ⟨fun _ => ⟨rfl, J.out⟩, fun _ => rfl⟩, QR.out⟩
 · have hne : ((n : Int) == (n' : Int)) = false := by simp; omega
   have hne2 : ((n : Int) != (n' : Int)) = true := by simp; omega
   go_enter Tryz.func54, Tryz.ntmps54
   go_wp2_with fail
   go_ret
   exact ⟨_, rfl, ⟨fun h => absurd h (by decide), fun h => absurd h.1 hnn⟩, Q.refl w⟩
set_option maxHeartbeats 2000000 in
theorem equal_win (a a' : Option Addr) (n n' cap cap' : Nat) (f f' : Nat → WN) (w : World) (h : SL WN.cells 10 w a n f) (h' : SL WN.cells 10 w a' n' f') (hn : n ≤ 100) (hn' : n' ≤ 100) :
 Calls Tryz.prog 96 #[.slice a n cap, .slice a' n' cap'] w (Tells (SamR n n' f f') w) := by
 have HT := Lib.hid h
 have HT' := Lib.hid h'
 clear h h'
 by_cases hnn : n = n'
 · subst hnn
   go_enter Tryz.func96, Tryz.ntmps96
   go_wp2_with fail
   go_loopw [5, 13] (fun z i wr => ∃ k : Nat, k ≤ n ∧ i = .int .i64 k ∧ Hid (∀ j, j < k → f j = f' j) ∧ Hid (Q w wr)) (fun _ i _ => n - (intOf i).toNat)
   case atStart => exact ⟨0, by omega, rfl, Lib.hid (fun j hj => by omega), Lib.hid (Q.refl w)⟩
   case round =>
    obtain ⟨k, hk, rfl, J, QR⟩ := hrel
    have k0 : (0 : Int) ≤ (k : Int) := by omega
    by_cases hlt : k < n
    · have k1 : (k : Int) < (n : Int) := by omega
      obtain ⟨b, off, rfl, hrow⟩ := (HT.out.q QR.out).some_ (by omega)
      obtain ⟨c0, c1, c2, c3, c4, c5, c6, c7, c8, c9⟩ := win_at (hrow k hlt)
      obtain ⟨b', off', rfl, hrow'⟩ := (HT'.out.q QR.out).some_ (by omega)
      obtain ⟨d0, d1, d2, d3, d4, d5, d6, d7, d8, d9⟩ := win_at (hrow' k hlt)
      clear hrow hrow'
      by_cases hp : f k = f' k
      · have J' : Hid (∀ j, j < k + 1 → f j = f' j) := fun j hj => by
         by_cases e : j = k
         · rw [e]; exact hp
         · exact J.out j (by omega)
        rw [← hp] at d0 d1 d2 d3 d4 d5 d6 d7 d8 d9
        clear J hp
        generalize f k = x at *
        go_wp2_with fail
        go_quiet (fail)
        go_wp2_with fail
        have Q1 := Lib.hid (QR.out.drewN nq)
        go_roundw
        case rel => exact ⟨k + 1, by omega, by go_num, J', Q1⟩
        case measure => simp [intOf]; omega
      · have HF : Hid (¬ SamR n n f f') := fun h => absurd (h.2 k hlt) hp
        have HN := Lib.hid hp
        clear J hp
        generalize f k = x at *
        generalize f' k = y at *
        obtain ⟨x0, x1, x2, x3, x4, x5, x6, x7, x8, x9⟩ := x
        obtain ⟨y0, y1, y2, y3, y4, y5, y6, y7, y8, y9⟩ := y
        by_cases e0 : x0 = y0
        rotate_left
        · clear HN
          have t1 : (x0.toList == y0.toList) = false := by rw [← Bool.not_eq_true, beq_tl]; exact e0
          have t2 : x0.toList ≠ y0.toList := by rw [ne_eq, tl_inj]; exact e0
          go_wp2_with fail
          go_quiet (fail)
          go_wp2_with fail
          go_ret
          exact ⟨_, rfl, ⟨fun h => absurd h (by decide), fun h => absurd h HF.out⟩, QR.out.drewN nq⟩
        subst e0
        by_cases e1 : x1 = y1
        rotate_left
        · clear HN
          have t1 : (x1 == y1) = false := by simpa using e1
          go_wp2_with fail
          go_quiet (fail)
          go_wp2_with fail
          go_ret
          exact ⟨_, rfl, ⟨fun h => absurd h (by decide), fun h => absurd h HF.out⟩, QR.out.drewN nq⟩
        subst e1
        by_cases e2 : x2 = y2
        rotate_left
        · clear HN
          have t1 : (x2 == y2) = false := by simpa using e2
          go_wp2_with fail
          go_quiet (fail)
          go_wp2_with fail
          go_ret
          exact ⟨_, rfl, ⟨fun h => absurd h (by decide), fun h => absurd h HF.out⟩, QR.out.drewN nq⟩
        subst e2
        by_cases e3 : x3 = y3
        rotate_left
        · clear HN
          have t1 : (x3 == y3) = false := by simpa using e3
          go_wp2_with fail
          go_quiet (fail)
          go_wp2_with fail
          go_ret
          exact ⟨_, rfl, ⟨fun h => absurd h (by decide), fun h => absurd h HF.out⟩, QR.out.drewN nq⟩
        subst e3
        by_cases e4 : x4 = y4
        rotate_left
        · clear HN
          have t1 : (x4 == y4) = false := by simpa using e4
          go_wp2_with fail
          go_quiet (fail)
          go_wp2_with fail
          go_ret
          exact ⟨_, rfl, ⟨fun h => absurd h (by decide), fun h => absurd h HF.out⟩, QR.out.drewN nq⟩
        subst e4
        by_cases e5 : x5 = y5
        rotate_left
        · clear HN
          have t1 : (x5.toList == y5.toList) = false := by rw [← Bool.not_eq_true, beq_tl]; exact e5
          have t2 : x5.toList ≠ y5.toList := by rw [ne_eq, tl_inj]; exact e5
          go_wp2_with fail
          go_quiet (fail)
          go_wp2_with fail
          go_ret
          exact ⟨_, rfl, ⟨fun h => absurd h (by decide), fun h => absurd h HF.out⟩, QR.out.drewN nq⟩
        subst e5
        by_cases e6 : x6 = y6
        rotate_left
        · clear HN
          have t1 : (x6 == y6) = false := by simpa using e6
          go_wp2_with fail
          go_quiet (fail)
          go_wp2_with fail
          go_ret
          exact ⟨_, rfl, ⟨fun h => absurd h (by decide), fun h => absurd h HF.out⟩, QR.out.drewN nq⟩
        subst e6
        by_cases e7 : x7 = y7
        rotate_left
        · clear HN
          have t1 : (x7.toList == y7.toList) = false := by rw [← Bool.not_eq_true, beq_tl]; exact e7
          have t2 : x7.toList ≠ y7.toList := by rw [ne_eq, tl_inj]; exact e7
          go_wp2_with fail
          go_quiet (fail)
          go_wp2_with fail
          go_ret
          exact ⟨_, rfl, ⟨fun h => absurd h (by decide), fun h => absurd h HF.out⟩, QR.out.drewN nq⟩
        subst e7
        by_cases e8 : x8 = y8
        rotate_left
        · clear HN
          have t1 : (x8.toList == y8.toList) = false := by rw [← Bool.not_eq_true, beq_tl]; exact e8
          have t2 : x8.toList ≠ y8.toList := by rw [ne_eq, tl_inj]; exact e8
          go_wp2_with fail
          go_quiet (fail)
          go_wp2_with fail
          go_ret
          exact ⟨_, rfl, ⟨fun h => absurd h (by decide), fun h => absurd h HF.out⟩, QR.out.drewN nq⟩
        subst e8
        by_cases e9 : x9 = y9
        rotate_left
        · clear HN
          have t1 : (x9 == y9) = false := by simpa using e9
          go_wp2_with fail
          go_quiet (fail)
          go_wp2_with fail
          go_ret
          exact ⟨_, rfl, ⟨fun h => absurd h (by decide), fun h => absurd h HF.out⟩, QR.out.drewN nq⟩
        subst e9
        exact absurd rfl HN.out
    · obtain rfl : k = n := by omega
      have td : decide (k < k) = false := by simp
      go_wp2_with fail
      go_ret
      exact ⟨_, rfl, ⟨fun _ => ⟨rfl, J.out⟩, fun _ => rfl⟩, QR.out⟩
 · have hne : ((n : Int) == (n' : Int)) = false := by simp; omega
   have hne2 : ((n : Int) != (n' : Int)) = true := by simp; omega
   go_enter Tryz.func96, Tryz.ntmps96
   go_wp2_with fail
   go_ret
   exact ⟨_, rfl, ⟨fun h => absurd h (by decide), fun h => absurd h.1 hnn⟩, Q.refl w⟩
theorem two {P : Prop} {b : Bool} (h : b = true ↔ P) : (b = true ∧ P) ∨ (b = false ∧ ¬ P) := by
 cases b
 · exact .inr ⟨rfl, fun x => absurd (h.2 x) (by decide)⟩
 · exact .inl ⟨rfl, h.1 rfl⟩
theorem Tells.yes {P : Prop} {w w' : World} (h : P) (q : Q w w') : Tells P w (.returned (.bool true)) w' := ⟨true, rfl, ⟨fun _ => h, fun _ => rfl⟩, q⟩
theorem Tells.no {P : Prop} {w w' : World} (h : ¬ P) (q : Q w w') : Tells P w (.returned (.bool false)) w' := ⟨false, rfl, ⟨fun h => absurd h (by decide), fun x => absurd x h⟩, q⟩
theorem Tells.b {P : Prop} {w w' : World} {b : Bool} (h : b = true ↔ P) (q : Q w w') : Tells P w (.returned (.bool b)) w' := ⟨b, rfl, h, q⟩
theorem between_w (n a b : Int) (w : World) : Calls Tryz.prog 46 #[.int .i64 n, .int .i64 a, .int .i64 b] w fun e w' => ∃ z : Nat → Bool, e = .returned (.bool (z 0)) ∧ (z 0 = true ↔ a ≤ n ∧ n ≤ b) ∧ w = w' :=
 (between_x n a b w).mono fun e w' ⟨h, q⟩ => ⟨fun _ => _, h, by simp, q⟩
set_option maxHeartbeats 2000000 in
theorem nright_x (p : PF) (a : Option Addr) (c : Nat) (w : World) (h : SL WN.cells 10 w a p.n p.w) (hn : p.n ≤ 100) :
 Calls Tryz.prog 61 #[pfV p a c] w (Tells (RightP p) w) := by
 have HQ : Hid (∀ o, Q w (w.alloc o)) := fun o => (Q.refl w).alloc o
 have HC : Hid (∀ o, Calls Tryz.prog 101 #[.slice a p.n c, .func (.func 102) #[] #[]] (w.alloc o) (Tells (∃ i, i < p.n ∧ ¬ WnR (p.w i)) (w.alloc o))) := fun o => contains_win a p.n c p.w _ (h.q ((Q.refl w).alloc o)) hn
 clear h
 have N1 : Hid (¬ p.sig.size ≤ 400 → ¬ RightP p) := fun h x => h x.1
 have N2 : Hid (p.token.size ≠ 0 → p.token.size ≠ 16 → ¬ RightP p) := fun h h' x => x.2.1.elim h h'
 have N3 : Hid (¬ p.n ≤ 3 → ¬ RightP p) := fun h x => h x.2.2.1
 have N4 : Hid ((∃ i, i < p.n ∧ ¬ WnR (p.w i)) → ¬ RightP p) := fun ⟨i, hi, hx⟩ x => hx (x.2.2.2 i hi)
 have Y : Hid (p.sig.size ≤ 400 → (p.token.size = 0 ∨ p.token.size = 16) → p.n ≤ 3 → ¬ (∃ i, i < p.n ∧ ¬ WnR (p.w i)) → RightP p) := fun h1 h2 h3 h4 => ⟨h1, h2, h3, fun i hi => Classical.byContradiction fun h => h4 ⟨i, hi, h⟩⟩
 generalize RightP p = R at *
 generalize (∃ i, i < p.n ∧ ¬ WnR (p.w i)) = E at *
 obtain ⟨amount, sig, token, n, f⟩ := p
 dsimp only at *
 by_cases s1 : sig.size ≤ 400
 rotate_left
 · have t1 : (400 : Int) < (sig.size : Int) := by omega
   go_enter Tryz.func61, Tryz.ntmps61
   go_wp2_with fail
   go_ret
   exact Tells.no (N1.out s1) (HQ.out _)
 have t1 : (sig.size : Int) ≤ 400 := by omega
 by_cases s2 : token.size = 0 ∨ token.size = 16
 rotate_left
 · have u0 : token.toList ≠ [] := by rw [ne_eq, tl_nil]; omega
   have u1 : token.toList.isEmpty = false := by simpa using u0
   go_enter Tryz.func61, Tryz.ntmps61
   go_wp2_with fail
   refine (nisHash_x token _).mono ?_
   rintro e _ ⟨rfl, rfl⟩
   have u2 : decide (token.size = 16) = false := by simp; omega
   go_wp2_with fail
   go_ret
   exact Tells.no (N2.out (by omega) (by omega)) (HQ.out _)
 by_cases s4 : token.size = 0
 · have u0 : token.toList = [] := by rw [tl_nil]; exact s4
   have u1 : token.toList.isEmpty = true := by simpa using u0
   by_cases s3 : n ≤ 3
   rotate_left
   · have t3 : (3 : Int) < (n : Int) := by omega
     go_enter Tryz.func61, Tryz.ntmps61
     go_wp2_with fail
     go_ret
     exact Tells.no (N3.out s3) (HQ.out _)
   have t3 : (n : Int) ≤ 3 := by omega
   go_enter Tryz.func61, Tryz.ntmps61
   go_wp2_with fail
   refine (HC.out _).mono ?_
   rintro e w1 ⟨b1, rfl, hb1, q1⟩
   have Q1 := Lib.hid ((HQ.out _).trans q1)
   have B1 := Lib.hid (two hb1)
   clear q1 hb1 HC
   rcases B1.out with ⟨rfl, Z⟩ | ⟨rfl, Z⟩
   · have Z1 := Lib.hid Z
     clear Z B1
     go_wp2_with fail
     go_ret
     exact Tells.no (N4.out Z1.out) Q1.out
   · have Z1 := Lib.hid Z
     clear Z B1
     go_wp2_with fail
     go_ret
     exact Tells.yes (Y.out s1 s2 s3 Z1.out) Q1.out
 · have u0 : token.toList ≠ [] := by rw [ne_eq, tl_nil]; omega
   have u1 : token.toList.isEmpty = false := by simpa using u0
   have s5 : token.size = 16 := by omega
   by_cases s3 : n ≤ 3
   rotate_left
   · have t3 : (3 : Int) < (n : Int) := by omega
     go_enter Tryz.func61, Tryz.ntmps61
     go_wp2_with fail
     refine (nisHash_x token _).mono ?_
     rintro e _ ⟨rfl, rfl⟩
     have u2 : decide (token.size = 16) = true := by simp; omega
     go_wp2_with fail
     go_ret
     exact Tells.no (N3.out s3) (HQ.out _)
   have t3 : (n : Int) ≤ 3 := by omega
   go_enter Tryz.func61, Tryz.ntmps61
   go_wp2_with fail
   refine (nisHash_x token _).mono ?_
   rintro e _ ⟨rfl, rfl⟩
   have u2 : decide (token.size = 16) = true := by simp; omega
   go_wp2_with fail
   refine (HC.out _).mono ?_
   rintro e w1 ⟨b1, rfl, hb1, q1⟩
   have Q1 := Lib.hid ((HQ.out _).trans q1)
   have B1 := Lib.hid (two hb1)
   clear q1 hb1 HC
   rcases B1.out with ⟨rfl, Z⟩ | ⟨rfl, Z⟩
   · have Z1 := Lib.hid Z
     clear Z B1
     go_wp2_with fail
     go_ret
     exact Tells.no (N4.out Z1.out) Q1.out
   · have Z1 := Lib.hid Z
     clear Z B1
     go_wp2_with fail
     go_ret
     exact Tells.yes (Y.out s1 s2 s3 Z1.out) Q1.out
set_option maxHeartbeats 2000000 in
theorem right_x (t : TX) (aI aO aW : Option Addr) (cI cO cW : Nat) (w : World) (h : TM w aI cI aO aW t) (hk : t.ok) :
 Calls Tryz.prog 14 #[txV t aI cI aO cO aW cW] w (Tells (RightT t) w) := by
 have HQ : Hid (∀ o, Q w (w.alloc o)) := fun o => (Q.refl w).alloc o
 have HT := Lib.hid h
 have HK := Lib.hid hk
 clear h hk
 have HM : Hid (∀ ty w', Q (w.alloc (.cells #[.slice aI t.nI cI, .slice aO t.nO cO, .int .u64 t.p.amount, .string t.p.sig, .string t.p.token, .slice aW t.p.n cW] ty)) w' →
  w'.cell? ⟨w.heap.size, 0, none⟩ = some (.slice aI t.nI cI) ∧ w'.cell? ⟨w.heap.size, 1, none⟩ = some (.slice aO t.nO cO) ∧ w'.cell? ⟨w.heap.size, 2, none⟩ = some (.int .u64 t.p.amount) ∧ w'.cell? ⟨w.heap.size, 3, none⟩ = some (.string t.p.sig) ∧ w'.cell? ⟨w.heap.size, 4, none⟩ = some (.string t.p.token) ∧ w'.cell? ⟨w.heap.size, 5, none⟩ = some (.slice aW t.p.n cW)) := fun ty w' q =>
  ⟨Q.cell' q (by rw [World.cell?_alloc_at _ _ _ _ rfl]; rfl), Q.cell' q (by rw [World.cell?_alloc_at _ _ _ _ rfl]; rfl), Q.cell' q (by rw [World.cell?_alloc_at _ _ _ _ rfl]; rfl), Q.cell' q (by rw [World.cell?_alloc_at _ _ _ _ rfl]; rfl), Q.cell' q (by rw [World.cell?_alloc_at _ _ _ _ rfl]; rfl), Q.cell' q (by rw [World.cell?_alloc_at _ _ _ _ rfl]; rfl)⟩
 go_enter Tryz.func14, Tryz.ntmps14
 go_wp2_with fail
 refine (between_w (t.nI : Int) 1 4 _).mono ?_
 rintro e _ ⟨z, rfl, hz, rfl⟩
 obtain ⟨b, eb⟩ : ∃ b, z 0 = b := ⟨_, rfl⟩
 rw [eb] at hz ⊢
 clear eb
 rcases two hz with ⟨rfl, Z⟩ | ⟨rfl, Z⟩
 rotate_left
 · have Z0 := Lib.hid Z
   clear Z hz
   go_wp2_with fail
   go_ret
   exact Tells.no (fun x => Z0.out (⟨by have := x.1; omega, by have := x.2.1; omega⟩)) (HQ.out _)
 have Z0 := Lib.hid Z
 clear Z hz
 go_wp2_with fail
 refine (contains_in aI t.nI cI t.ins _ (HT.out.i.q (HQ.out _)) HK.out.nI).mono ?_
 rintro e w1 ⟨b, rfl, hz, q1⟩
 have Q1 := Lib.hid (q1)
 obtain ⟨m0, m1, m2, m3, m4, m5⟩ := HM.out _ _ Q1.out
 clear q1
 rcases two hz with ⟨rfl, Z⟩ | ⟨rfl, Z⟩
 · have Z1 := Lib.hid Z
   clear Z hz
   go_wp2_with fail
   go_ret
   exact Tells.no (fun x => Z1.out.elim fun i h => h.2 (x.2.2.1 i h.1)) ((HQ.out _).trans Q1.out)
 have Z1 := Lib.hid Z
 clear Z hz
 as_aux_lemma =>
 go_wp2_with fail
 refine (twice_x aI t.nI cI t.ins _ (HT.out.i.q ((HQ.out _).trans Q1.out)) HK.out.nI HT.out.c).mono ?_
 rintro e w2 ⟨b, rfl, hz, q2⟩
 have Q2 := Lib.hid (Q1.out.trans q2)
 obtain ⟨m0, m1, m2, m3, m4, m5⟩ := HM.out _ _ Q2.out
 clear q2
 rcases two hz with ⟨rfl, Z⟩ | ⟨rfl, Z⟩
 · have Z2 := Lib.hid Z
   clear Z hz
   go_wp2_with fail
   go_ret
   exact Tells.no (fun x => x.2.2.2.1 Z2.out) ((HQ.out _).trans Q2.out)
 have Z2 := Lib.hid Z
 clear Z hz
 as_aux_lemma =>
 go_wp2_with fail
 refine (between_w (t.nO : Int) 1 4 _).mono ?_
 rintro e _ ⟨z, rfl, hz, rfl⟩
 obtain ⟨b, eb⟩ : ∃ b, z 0 = b := ⟨_, rfl⟩
 rw [eb] at hz ⊢
 clear eb
 rcases two hz with ⟨rfl, Z⟩ | ⟨rfl, Z⟩
 rotate_left
 · have Z3 := Lib.hid Z
   clear Z hz
   go_wp2_with fail
   go_ret
   exact Tells.no (fun x => Z3.out (⟨by have := x.2.2.2.2.1; omega, by have := x.2.2.2.2.2.1; omega⟩)) ((HQ.out _).trans Q2.out)
 have Z3 := Lib.hid Z
 clear Z hz
 go_wp2_with fail
 refine (contains_out aO t.nO cO t.outs _ (HT.out.o.q ((HQ.out _).trans Q2.out)) HK.out.nO).mono ?_
 rintro e w4 ⟨b, rfl, hz, q4⟩
 have Q4 := Lib.hid (Q2.out.trans q4)
 obtain ⟨m0, m1, m2, m3, m4, m5⟩ := HM.out _ _ Q4.out
 clear q4
 rcases two hz with ⟨rfl, Z⟩ | ⟨rfl, Z⟩
 · have Z4 := Lib.hid Z
   clear Z hz
   go_wp2_with fail
   go_ret
   exact Tells.no (fun x => Z4.out.elim fun i h => h.2 (x.2.2.2.2.2.2.1 i h.1)) ((HQ.out _).trans Q4.out)
 have Z4 := Lib.hid Z
 clear Z hz
 as_aux_lemma =>
 go_wp2_with fail
 refine (nright_x t.p aW cW _ (HT.out.w.q ((HQ.out _).trans Q4.out)) HK.out.p.n).mono ?_
 rintro e w5 ⟨b, rfl, hz, q5⟩
 have Z5 := Lib.hid hz
 have Q5 := Lib.hid (Q4.out.trans q5)
 clear hz q5
 go_wp2_with fail
 go_ret
 refine Tells.b ?_ ((HQ.out _).trans Q5.out)
 rw [Z5.out]
 refine ⟨fun h => ⟨by have := Z0.out; omega, by have := Z0.out; omega, fun i hi => Classical.byContradiction fun hx => Z1.out ⟨i, hi, hx⟩, Z2.out, by have := Z3.out; omega, by have := Z3.out; omega, fun i hi => Classical.byContradiction fun hx => Z4.out ⟨i, hi, hx⟩, h⟩, fun h => h.2.2.2.2.2.2.2⟩
set_option maxHeartbeats 2000000 in
theorem nsame_x (p p' : PF) (a a' : Option Addr) (c c' : Nat) (w : World) (h : SL WN.cells 10 w a p.n p.w) (h' : SL WN.cells 10 w a' p'.n p'.w) (hn : p.n ≤ 100) (hn' : p'.n ≤ 100) :
 Calls Tryz.prog 55 #[pfV p a c, pfV p' a' c'] w (Tells (SamP p p') w) := by
 have HQ : Hid (∀ o o', Q w ((w.alloc o).alloc o')) := fun o o' => ((Q.refl w).alloc o).alloc o'
 have HC : Hid (∀ o o', Calls Tryz.prog 96 #[.slice a p.n c, .slice a' p'.n c'] ((w.alloc o).alloc o') (Tells (SamR p.n p'.n p.w p'.w) ((w.alloc o).alloc o'))) := fun o o' => equal_win a a' p.n p'.n c c' p.w p'.w _ (h.q (HQ.out o o')) (h'.q (HQ.out o o')) hn hn'
 clear h h'
 have N1 : Hid (p.amount ≠ p'.amount → ¬ SamP p p') := fun h x => h x.1
 have N2 : Hid (p.sig ≠ p'.sig → ¬ SamP p p') := fun h x => h x.2.1
 have N3 : Hid (p.token ≠ p'.token → ¬ SamP p p') := fun h x => h x.2.2.1
 have Y : Hid (p.amount = p'.amount → p.sig = p'.sig → p.token = p'.token → (SamP p p' ↔ SamR p.n p'.n p.w p'.w)) := fun h1 h2 h3 => ⟨fun x => x.2.2.2, fun x => ⟨h1, h2, h3, x⟩⟩
 generalize SamP p p' = R at *
 generalize SamR p.n p'.n p.w p'.w = E at *
 obtain ⟨am, sg, tk, n, f⟩ := p
 obtain ⟨am', sg', tk', n', f'⟩ := p'
 dsimp only at *
 by_cases e0 : am = am'
 rotate_left
 · have t1 : (am == am') = false := by simpa using e0
   go_enter Tryz.func55, Tryz.ntmps55
   go_wp2_with fail
   go_ret
   exact Tells.no (N1.out e0) (HQ.out _ _)
 subst e0
 by_cases e1 : sg = sg'
 rotate_left
 · have t1 : (sg.toList == sg'.toList) = false := by rw [← Bool.not_eq_true, beq_tl]; exact e1
   have t2 : sg.toList ≠ sg'.toList := by rw [ne_eq, tl_inj]; exact e1
   go_enter Tryz.func55, Tryz.ntmps55
   go_wp2_with fail
   go_ret
   exact Tells.no (N2.out e1) (HQ.out _ _)
 subst e1
 by_cases e2 : tk = tk'
 rotate_left
 · have t1 : (tk.toList == tk'.toList) = false := by rw [← Bool.not_eq_true, beq_tl]; exact e2
   have t2 : tk.toList ≠ tk'.toList := by rw [ne_eq, tl_inj]; exact e2
   go_enter Tryz.func55, Tryz.ntmps55
   go_wp2_with fail
   go_ret
   exact Tells.no (N3.out e2) (HQ.out _ _)
 subst e2
 have Y' := Lib.hid (Y.out rfl rfl rfl)
 clear N1 N2 N3 Y
 go_enter Tryz.func55, Tryz.ntmps55
 go_wp2_with fail
 refine (HC.out _ _).mono ?_
 rintro e w1 ⟨b, rfl, hz, q1⟩
 have Q1 := Lib.hid ((HQ.out _ _).trans q1)
 have Z := Lib.hid (hz.trans Y'.out.symm)
 clear q1 hz HC
 go_wp2_with fail
 go_ret
 exact Tells.b Z.out Q1.out
set_option maxHeartbeats 2000000 in
theorem same_x (t t' : TX) (aI aO aW aI' aO' aW' : Option Addr) (cI cO cW cI' cO' cW' : Nat) (w : World) (h : TM w aI cI aO aW t) (h' : TM w aI' cI' aO' aW' t') (hk : t.ok) (hk' : t'.ok) :
 Calls Tryz.prog 13 #[txV t aI cI aO cO aW cW, txV t' aI' cI' aO' cO' aW' cW'] w (Tells (SamT t t') w) := by
 have HQ : Hid (∀ o o', Q w ((w.alloc o).alloc o')) := fun o o' => ((Q.refl w).alloc o).alloc o'
 have HT := Lib.hid h
 have HK := Lib.hid hk
 have HT' := Lib.hid h'
 have HK' := Lib.hid hk'
 clear h hk h' hk'
 have HM : Hid (∀ ty w', Q ((w.alloc (.cells #[.slice aI t.nI cI, .slice aO t.nO cO, .int .u64 t.p.amount, .string t.p.sig, .string t.p.token, .slice aW t.p.n cW] ty)).alloc (.cells #[.slice aI' t'.nI cI', .slice aO' t'.nO cO', .int .u64 t'.p.amount, .string t'.p.sig, .string t'.p.token, .slice aW' t'.p.n cW'] ty)) w' →
  (w'.cell? ⟨w.heap.size, 0, none⟩ = some (.slice aI t.nI cI) ∧ w'.cell? ⟨w.heap.size, 1, none⟩ = some (.slice aO t.nO cO) ∧ w'.cell? ⟨w.heap.size, 2, none⟩ = some (.int .u64 t.p.amount) ∧ w'.cell? ⟨w.heap.size, 3, none⟩ = some (.string t.p.sig) ∧ w'.cell? ⟨w.heap.size, 4, none⟩ = some (.string t.p.token) ∧ w'.cell? ⟨w.heap.size, 5, none⟩ = some (.slice aW t.p.n cW)) ∧ (w'.cell? ⟨w.heap.size + 1, 0, none⟩ = some (.slice aI' t'.nI cI') ∧ w'.cell? ⟨w.heap.size + 1, 1, none⟩ = some (.slice aO' t'.nO cO') ∧ w'.cell? ⟨w.heap.size + 1, 2, none⟩ = some (.int .u64 t'.p.amount) ∧ w'.cell? ⟨w.heap.size + 1, 3, none⟩ = some (.string t'.p.sig) ∧ w'.cell? ⟨w.heap.size + 1, 4, none⟩ = some (.string t'.p.token) ∧ w'.cell? ⟨w.heap.size + 1, 5, none⟩ = some (.slice aW' t'.p.n cW'))) := fun ty w' q => by
  have a1 : ∀ j v, (#[.slice aI t.nI cI, .slice aO t.nO cO, .int .u64 t.p.amount, .string t.p.sig, .string t.p.token, .slice aW t.p.n cW] : Array Value)[j]? = some v → w'.cell? ⟨w.heap.size, j, none⟩ = some v := fun j v hv => Q.cell' q (alloc_cell _ _ (by rw [World.cell?_alloc_at _ _ _ _ rfl]; exact hv))
  have a2 : ∀ j v, (#[.slice aI' t'.nI cI', .slice aO' t'.nO cO', .int .u64 t'.p.amount, .string t'.p.sig, .string t'.p.token, .slice aW' t'.p.n cW'] : Array Value)[j]? = some v → w'.cell? ⟨w.heap.size + 1, j, none⟩ = some v := fun j v hv => Q.cell' q (by rw [World.cell?_alloc_at _ _ _ _ (by simp)]; exact hv)
  exact ⟨⟨a1 0 _ rfl, a1 1 _ rfl, a1 2 _ rfl, a1 3 _ rfl, a1 4 _ rfl, a1 5 _ rfl⟩, ⟨a2 0 _ rfl, a2 1 _ rfl, a2 2 _ rfl, a2 3 _ rfl, a2 4 _ rfl, a2 5 _ rfl⟩⟩
 go_enter Tryz.func13, Tryz.ntmps13
 go_wp2_with fail
 refine (equal_in aI aI' t.nI t'.nI cI cI' t.ins t'.ins _ (HT.out.i.q (HQ.out _ _)) (HT'.out.i.q (HQ.out _ _)) HK.out.nI HK'.out.nI).mono ?_
 rintro e w1 ⟨b, rfl, hz, q1⟩
 have Q1 := Lib.hid q1
 obtain ⟨⟨m0, m1, m2, m3, m4, m5⟩, ⟨n0, n1, n2, n3, n4, n5⟩⟩ := HM.out _ _ Q1.out
 clear q1
 rcases two hz with ⟨rfl, Z⟩ | ⟨rfl, Z⟩
 rotate_left
 · have Z1 := Lib.hid Z
   clear Z hz
   go_wp2_with fail
   go_ret
   exact Tells.no (fun x => Z1.out x.1) ((HQ.out _ _).trans Q1.out)
 have Z1 := Lib.hid Z
 clear Z hz
 as_aux_lemma =>
 go_wp2_with fail
 refine (equal_out aO aO' t.nO t'.nO cO cO' t.outs t'.outs _ (HT.out.o.q ((HQ.out _ _).trans Q1.out)) (HT'.out.o.q ((HQ.out _ _).trans Q1.out)) HK.out.nO HK'.out.nO).mono ?_
 rintro e w2 ⟨b, rfl, hz, q2⟩
 have Q2 := Lib.hid (Q1.out.trans q2)
 clear m0 m1 m2 m3 m4 m5 n0 n1 n2 n3 n4 n5
 obtain ⟨⟨m0, m1, m2, m3, m4, m5⟩, ⟨n0, n1, n2, n3, n4, n5⟩⟩ := HM.out _ _ Q2.out
 clear q2
 rcases two hz with ⟨rfl, Z⟩ | ⟨rfl, Z⟩
 rotate_left
 · have Z2 := Lib.hid Z
   clear Z hz
   go_wp2_with fail
   go_ret
   exact Tells.no (fun x => Z2.out x.2.1) ((HQ.out _ _).trans Q2.out)
 have Z2 := Lib.hid Z
 clear Z hz
 as_aux_lemma =>
 go_wp2_with fail
 refine (nsame_x t.p t'.p aW aW' cW cW' _ (HT.out.w.q ((HQ.out _ _).trans Q2.out)) (HT'.out.w.q ((HQ.out _ _).trans Q2.out)) HK.out.p.n HK'.out.p.n).mono ?_
 rintro e w3 ⟨b, rfl, hz, q3⟩
 have Z3 := Lib.hid hz
 have Q3 := Lib.hid (Q2.out.trans q3)
 clear hz q3
 go_wp2_with fail
 go_ret
 refine Tells.b ?_ ((HQ.out _ _).trans Q3.out)
 rw [Z3.out]
 exact ⟨fun h => ⟨Z1.out, Z2.out, h⟩, fun h => h.2.2⟩
set_option maxHeartbeats 4000000 in
theorem wticket_x (x : WN) {w0 w : World} {g K B : Nat} {T : ByteArray} (h : WS w0 g K T B w) (hx : TkR x) (hk : x.ok) (hB : B ≤ 10000000) :
 Calls Tryz.prog 111 #[.pointer (some ⟨g, 0, none⟩), .agg #[.string x.chan, .int .u64 x.serial, .int .u64 x.face, .int .u64 x.wins, .int .u64 x.many, .string x.commit, .int .u64 x.client, .string x.sig]] w (Wrote w0 g K (T ++ tkB x) (B + 40000)) := by
 have hgl := h.wr.glt
 have HM : Hid (∀ ty w', Ch g (w.alloc (.cells #[.string x.chan, .int .u64 x.serial, .int .u64 x.face, .int .u64 x.wins, .int .u64 x.many, .string x.commit, .int .u64 x.client, .string x.sig] ty)) w' → w'.cell? ⟨w.heap.size, 0, none⟩ = some (.string x.chan) ∧ w'.cell? ⟨w.heap.size, 1, none⟩ = some (.int .u64 x.serial) ∧ w'.cell? ⟨w.heap.size, 2, none⟩ = some (.int .u64 x.face) ∧ w'.cell? ⟨w.heap.size, 3, none⟩ = some (.int .u64 x.wins) ∧ w'.cell? ⟨w.heap.size, 4, none⟩ = some (.int .u64 x.many) ∧ w'.cell? ⟨w.heap.size, 5, none⟩ = some (.string x.commit) ∧ w'.cell? ⟨w.heap.size, 6, none⟩ = some (.int .u64 x.client) ∧ w'.cell? ⟨w.heap.size, 7, none⟩ = some (.string x.sig)) := fun ty w' hcc => by
  have a1 : ∀ j v, (#[.string x.chan, .int .u64 x.serial, .int .u64 x.face, .int .u64 x.wins, .int .u64 x.many, .string x.commit, .int .u64 x.client, .string x.sig] : Array Value)[j]? = some v → w'.cell? ⟨w.heap.size, j, none⟩ = some v := fun j v hv => hcc.cell (by rw [World.cell?_alloc_at _ _ _ _ rfl]; exact hv) (by show w.heap.size ≠ g; omega)
  exact ⟨a1 0 _ rfl, a1 1 _ rfl, a1 2 _ rfl, a1 3 _ rfl, a1 4 _ rfl, a1 5 _ rfl, a1 6 _ rfl, a1 7 _ rfl⟩
 have HE : Hid (∀ o w' T' B', WS (w.alloc o) g K T' B' w' → WS w0 g K T' B' w') := fun o w' T' B' k => (h.q ((Q.refl w).alloc o)).over k
 have HS : Hid (∀ o, WS (w.alloc o) g K T B (w.alloc o)) := fun o => (h.q ((Q.refl w).alloc o)).up
 have HX := Lib.hid hx
 have HK := Lib.hid hk
 clear h hx hk
 go_enter Tryz.func111, Tryz.ntmps111
 go_wp2_with fail
 have H0 := HS.out (.cells #[.string x.chan, .int .u64 x.serial, .int .u64 x.face, .int .u64 x.wins, .int .u64 x.many, .string x.commit, .int .u64 x.client, .string x.sig] 133)
 have H0 := Lib.hid H0
 obtain ⟨m0, m1, m2, m3, m4, m5, m6, m7⟩ := HM.out _ _ H0.out.ch
 refine (H0.out.hash x.chan HX.out.1 (by omega)).mono ?_
 rintro r w1 ⟨rfl, h⟩
 have H1 := Lib.hid h
 clear h H0 m0 m1 m2 m3 m4 m5 m6 m7
 obtain ⟨m0, m1, m2, m3, m4, m5, m6, m7⟩ := HM.out _ _ H1.out.ch
 go_wp2_with fail
 refine (H1.out.num x.serial HK.out.serial (by omega)).mono ?_
 rintro r w2 ⟨rfl, h⟩
 have H2 := Lib.hid h
 clear h H1 m0 m1 m2 m3 m4 m5 m6 m7
 obtain ⟨m0, m1, m2, m3, m4, m5, m6, m7⟩ := HM.out _ _ H2.out.ch
 go_wp2_with fail
 refine (H2.out.num x.face HK.out.face (by omega)).mono ?_
 rintro r w3 ⟨rfl, h⟩
 have H3 := Lib.hid h
 clear h H2 m0 m1 m2 m3 m4 m5 m6 m7
 obtain ⟨m0, m1, m2, m3, m4, m5, m6, m7⟩ := HM.out _ _ H3.out.ch
 as_aux_lemma =>
 go_wp2_with fail
 refine (H3.out.num x.wins HK.out.wins (by omega)).mono ?_
 rintro r w4 ⟨rfl, h⟩
 have H4 := Lib.hid h
 clear h H3 m0 m1 m2 m3 m4 m5 m6 m7
 obtain ⟨m0, m1, m2, m3, m4, m5, m6, m7⟩ := HM.out _ _ H4.out.ch
 go_wp2_with fail
 refine (H4.out.num x.many HK.out.many (by omega)).mono ?_
 rintro r w5 ⟨rfl, h⟩
 have H5 := Lib.hid h
 clear h H4 m0 m1 m2 m3 m4 m5 m6 m7
 obtain ⟨m0, m1, m2, m3, m4, m5, m6, m7⟩ := HM.out _ _ H5.out.ch
 go_wp2_with fail
 refine (H5.out.hash x.commit HX.out.2.1 (by omega)).mono ?_
 rintro r w6 ⟨rfl, h⟩
 have H6 := Lib.hid h
 clear h H5 m0 m1 m2 m3 m4 m5 m6 m7
 obtain ⟨m0, m1, m2, m3, m4, m5, m6, m7⟩ := HM.out _ _ H6.out.ch
 as_aux_lemma =>
 go_wp2_with fail
 refine (H6.out.num x.client HK.out.client (by omega)).mono ?_
 rintro r w7 ⟨rfl, h⟩
 have H7 := Lib.hid h
 clear h H6 m0 m1 m2 m3 m4 m5 m6 m7
 obtain ⟨m0, m1, m2, m3, m4, m5, m6, m7⟩ := HM.out _ _ H7.out.ch
 go_wp2_with fail
 refine (H7.out.blob x.sig (by have := HX.out.2.2; omega) (by omega)).mono ?_
 rintro r w8 ⟨rfl, h⟩
 have H8 := Lib.hid h
 clear h H7 m0 m1 m2 m3 m4 m5 m6 m7
 obtain ⟨m0, m1, m2, m3, m4, m5, m6, m7⟩ := HM.out _ _ H8.out.ch
 go_wp2_with fail
 go_end0
 exact ⟨rfl, HE.out _ _ _ _ (H8.out.to (by unfold tkB; simp only [ByteArray.append_assoc]) (by omega))⟩
set_option maxHeartbeats 4000000 in
theorem wout_x (x : OU) {w0 w : World} {g K B : Nat} {T : ByteArray} (h : WS w0 g K T B w) (hx : Fit x) (hk : x.ok) (hB : B ≤ 10000000) :
 Calls Tryz.prog 65 #[.pointer (some ⟨g, 0, none⟩), ouV x] w (Wrote w0 g K (T ++ ouB x) (B + 40000)) := by
 have hgl := h.wr.glt
 have HM : Hid (∀ ty w', Ch g (w.alloc (.cells #[.int .i64 x.kind, .int .u64 x.amount, .string x.key, .string x.gate, .int .i64 x.expiry, .string x.anchor, .int .u64 x.unit, .int .i64 x.tokens, .string x.of_] ty)) w' → w'.cell? ⟨w.heap.size, 0, none⟩ = some (.int .i64 x.kind) ∧ w'.cell? ⟨w.heap.size, 1, none⟩ = some (.int .u64 x.amount) ∧ w'.cell? ⟨w.heap.size, 2, none⟩ = some (.string x.key) ∧ w'.cell? ⟨w.heap.size, 3, none⟩ = some (.string x.gate) ∧ w'.cell? ⟨w.heap.size, 4, none⟩ = some (.int .i64 x.expiry) ∧ w'.cell? ⟨w.heap.size, 5, none⟩ = some (.string x.anchor) ∧ w'.cell? ⟨w.heap.size, 6, none⟩ = some (.int .u64 x.unit) ∧ w'.cell? ⟨w.heap.size, 7, none⟩ = some (.int .i64 x.tokens) ∧ w'.cell? ⟨w.heap.size, 8, none⟩ = some (.string x.of_)) := fun ty w' hcc => by
  have a1 : ∀ j v, (#[.int .i64 x.kind, .int .u64 x.amount, .string x.key, .string x.gate, .int .i64 x.expiry, .string x.anchor, .int .u64 x.unit, .int .i64 x.tokens, .string x.of_] : Array Value)[j]? = some v → w'.cell? ⟨w.heap.size, j, none⟩ = some v := fun j v hv => hcc.cell (by rw [World.cell?_alloc_at _ _ _ _ rfl]; exact hv) (by show w.heap.size ≠ g; omega)
  exact ⟨a1 0 _ rfl, a1 1 _ rfl, a1 2 _ rfl, a1 3 _ rfl, a1 4 _ rfl, a1 5 _ rfl, a1 6 _ rfl, a1 7 _ rfl, a1 8 _ rfl⟩
 have HE : Hid (∀ o w' T' B', WS (w.alloc o) g K T' B' w' → WS w0 g K T' B' w') := fun o w' T' B' k => (h.q ((Q.refl w).alloc o)).over k
 have HS : Hid (∀ o, WS (w.alloc o) g K T B (w.alloc o)) := fun o => (h.q ((Q.refl w).alloc o)).up
 have HK := Lib.hid hk
 clear h hk
 obtain ⟨f1, f2, f3⟩ := hx
 have F2 := Lib.hid f2
 obtain ⟨kind, amount, key, gate, expiry, anchor, unit, tokens, of_⟩ := x
 dsimp only at *
 rcases f3 with h1 | h2 | h3
 · obtain ⟨e0, z1⟩ := h1
   subst e0
   clear z1
   go_enter Tryz.func65, Tryz.ntmps65
   go_wp2_with fail
   have H0 := HS.out (.cells #[.int .i64 1, .int .u64 amount, .string key, .string gate, .int .i64 expiry, .string anchor, .int .u64 unit, .int .i64 tokens, .string of_] 47)
   have H0 := Lib.hid H0
   obtain ⟨m0, m1, m2, m3, m4, m5, m6, m7, m8⟩ := HM.out _ _ H0.out.ch
   refine (H0.out.byte 1 (by omega) (by omega)).mono ?_
   rintro r w1 ⟨rfl, h⟩
   have H1 := Lib.hid h
   clear h H0 m0 m1 m2 m3 m4 m5 m6 m7 m8
   obtain ⟨m0, m1, m2, m3, m4, m5, m6, m7, m8⟩ := HM.out _ _ H1.out.ch
   go_wp2_with fail
   refine (H1.out.num amount HK.out.amount (by omega)).mono ?_
   rintro r w2 ⟨rfl, h⟩
   have H2 := Lib.hid h
   clear h H1 m0 m1 m2 m3 m4 m5 m6 m7 m8
   obtain ⟨m0, m1, m2, m3, m4, m5, m6, m7, m8⟩ := HM.out _ _ H2.out.ch
   go_wp2_with fail
   refine (H2.out.hash key F2.out (by omega)).mono ?_
   rintro r w3 ⟨rfl, h⟩
   have H3 := Lib.hid h
   clear h H2 m0 m1 m2 m3 m4 m5 m6 m7 m8
   obtain ⟨m0, m1, m2, m3, m4, m5, m6, m7, m8⟩ := HM.out _ _ H3.out.ch
   as_aux_lemma =>
   go_wp2_with fail
   go_end0
   exact ⟨rfl, HE.out _ _ _ _ (H3.out.to (by unfold ouB; rw [if_neg (by dsimp only; omega), if_neg (by dsimp only; omega)]; simp only [ByteArray.append_assoc, ByteArray.append_empty]) (by omega))⟩
 · obtain ⟨e0, g1, g2, g3, g4, g5, g6, g7⟩ := h2
   subst e0
   clear g7
   have cv1 : IntKind.u64.wrap expiry = expiry := by rw [IntKind.wrap_u64]; omega
   have cv2 : IntKind.u64.wrap tokens = tokens := by rw [IntKind.wrap_u64]; omega
   go_enter Tryz.func65, Tryz.ntmps65
   go_wp2_with fail
   have H0 := HS.out (.cells #[.int .i64 2, .int .u64 amount, .string key, .string gate, .int .i64 expiry, .string anchor, .int .u64 unit, .int .i64 tokens, .string of_] 47)
   have H0 := Lib.hid H0
   obtain ⟨m0, m1, m2, m3, m4, m5, m6, m7, m8⟩ := HM.out _ _ H0.out.ch
   refine (H0.out.byte 2 (by omega) (by omega)).mono ?_
   rintro r w1 ⟨rfl, h⟩
   have H1 := Lib.hid h
   clear h H0 m0 m1 m2 m3 m4 m5 m6 m7 m8
   obtain ⟨m0, m1, m2, m3, m4, m5, m6, m7, m8⟩ := HM.out _ _ H1.out.ch
   go_wp2_with fail
   refine (H1.out.num amount HK.out.amount (by omega)).mono ?_
   rintro r w2 ⟨rfl, h⟩
   have H2 := Lib.hid h
   clear h H1 m0 m1 m2 m3 m4 m5 m6 m7 m8
   obtain ⟨m0, m1, m2, m3, m4, m5, m6, m7, m8⟩ := HM.out _ _ H2.out.ch
   go_wp2_with fail
   refine (H2.out.hash key F2.out (by omega)).mono ?_
   rintro r w3 ⟨rfl, h⟩
   have H3 := Lib.hid h
   clear h H2 m0 m1 m2 m3 m4 m5 m6 m7 m8
   obtain ⟨m0, m1, m2, m3, m4, m5, m6, m7, m8⟩ := HM.out _ _ H3.out.ch
   as_aux_lemma =>
   go_wp2_with fail
   refine (H3.out.hash gate g1 (by omega)).mono ?_
   rintro r w4 ⟨rfl, h⟩
   have H4 := Lib.hid h
   clear h H3 m0 m1 m2 m3 m4 m5 m6 m7 m8
   obtain ⟨m0, m1, m2, m3, m4, m5, m6, m7, m8⟩ := HM.out _ _ H4.out.ch
   go_wp2_with fail
   refine (H4.out.num expiry ⟨by omega, by omega⟩ (by omega)).mono ?_
   rintro r w5 ⟨rfl, h⟩
   have H5 := Lib.hid h
   clear h H4 m0 m1 m2 m3 m4 m5 m6 m7 m8
   obtain ⟨m0, m1, m2, m3, m4, m5, m6, m7, m8⟩ := HM.out _ _ H5.out.ch
   go_wp2_with fail
   refine (H5.out.hash anchor g2 (by omega)).mono ?_
   rintro r w6 ⟨rfl, h⟩
   have H6 := Lib.hid h
   clear h H5 m0 m1 m2 m3 m4 m5 m6 m7 m8
   obtain ⟨m0, m1, m2, m3, m4, m5, m6, m7, m8⟩ := HM.out _ _ H6.out.ch
   as_aux_lemma =>
   go_wp2_with fail
   refine (H6.out.num unit HK.out.unit (by omega)).mono ?_
   rintro r w7 ⟨rfl, h⟩
   have H7 := Lib.hid h
   clear h H6 m0 m1 m2 m3 m4 m5 m6 m7 m8
   obtain ⟨m0, m1, m2, m3, m4, m5, m6, m7, m8⟩ := HM.out _ _ H7.out.ch
   go_wp2_with fail
   refine (H7.out.num tokens ⟨by omega, by omega⟩ (by omega)).mono ?_
   rintro r w8 ⟨rfl, h⟩
   have H8 := Lib.hid h
   clear h H7 m0 m1 m2 m3 m4 m5 m6 m7 m8
   obtain ⟨m0, m1, m2, m3, m4, m5, m6, m7, m8⟩ := HM.out _ _ H8.out.ch
   go_wp2_with fail
   go_end0
   exact ⟨rfl, HE.out _ _ _ _ (H8.out.to (by unfold ouB; rw [if_pos rfl]; simp only [ByteArray.append_assoc]) (by omega))⟩
 · obtain ⟨e0, g1, g2, g3, g4, g5, g6, g7⟩ := h3
   subst e0
   clear g5 g6 g7
   have cv1 : IntKind.u64.wrap expiry = expiry := by rw [IntKind.wrap_u64]; omega
   go_enter Tryz.func65, Tryz.ntmps65
   go_wp2_with fail
   have H0 := HS.out (.cells #[.int .i64 3, .int .u64 amount, .string key, .string gate, .int .i64 expiry, .string anchor, .int .u64 unit, .int .i64 tokens, .string of_] 47)
   have H0 := Lib.hid H0
   obtain ⟨m0, m1, m2, m3, m4, m5, m6, m7, m8⟩ := HM.out _ _ H0.out.ch
   refine (H0.out.byte 3 (by omega) (by omega)).mono ?_
   rintro r w1 ⟨rfl, h⟩
   have H1 := Lib.hid h
   clear h H0 m0 m1 m2 m3 m4 m5 m6 m7 m8
   obtain ⟨m0, m1, m2, m3, m4, m5, m6, m7, m8⟩ := HM.out _ _ H1.out.ch
   go_wp2_with fail
   refine (H1.out.num amount HK.out.amount (by omega)).mono ?_
   rintro r w2 ⟨rfl, h⟩
   have H2 := Lib.hid h
   clear h H1 m0 m1 m2 m3 m4 m5 m6 m7 m8
   obtain ⟨m0, m1, m2, m3, m4, m5, m6, m7, m8⟩ := HM.out _ _ H2.out.ch
   go_wp2_with fail
   refine (H2.out.hash key F2.out (by omega)).mono ?_
   rintro r w3 ⟨rfl, h⟩
   have H3 := Lib.hid h
   clear h H2 m0 m1 m2 m3 m4 m5 m6 m7 m8
   obtain ⟨m0, m1, m2, m3, m4, m5, m6, m7, m8⟩ := HM.out _ _ H3.out.ch
   as_aux_lemma =>
   go_wp2_with fail
   refine (H3.out.hash gate g1 (by omega)).mono ?_
   rintro r w4 ⟨rfl, h⟩
   have H4 := Lib.hid h
   clear h H3 m0 m1 m2 m3 m4 m5 m6 m7 m8
   obtain ⟨m0, m1, m2, m3, m4, m5, m6, m7, m8⟩ := HM.out _ _ H4.out.ch
   go_wp2_with fail
   refine (H4.out.num expiry ⟨by omega, by omega⟩ (by omega)).mono ?_
   rintro r w5 ⟨rfl, h⟩
   have H5 := Lib.hid h
   clear h H4 m0 m1 m2 m3 m4 m5 m6 m7 m8
   obtain ⟨m0, m1, m2, m3, m4, m5, m6, m7, m8⟩ := HM.out _ _ H5.out.ch
   go_wp2_with fail
   refine (H5.out.hash of_ g2 (by omega)).mono ?_
   rintro r w6 ⟨rfl, h⟩
   have H6 := Lib.hid h
   clear h H5 m0 m1 m2 m3 m4 m5 m6 m7 m8
   obtain ⟨m0, m1, m2, m3, m4, m5, m6, m7, m8⟩ := HM.out _ _ H6.out.ch
   as_aux_lemma =>
   go_wp2_with fail
   go_end0
   exact ⟨rfl, HE.out _ _ _ _ (H6.out.to (by unfold ouB; rw [if_neg (by dsimp only; omega), if_pos rfl]; simp only [ByteArray.append_assoc]) (by omega))⟩
/-- It answers T where R, else nothing. -/
def Enc (R : Prop) (T : ByteArray) (w : World) (e : Ending) (w' : World) : Prop := ∃ s, e = .returned (.string s) ∧ ((R ∧ s = T) ∨ (¬ R ∧ s = ⟨#[]⟩)) ∧ Q w w'
theorem Enc.yes {R : Prop} {T s : ByteArray} {w w' : World} (h : R) (e : s = T) (q : Q w w') : Enc R T w (.returned (.string s)) w' := ⟨s, rfl, .inl ⟨h, e⟩, q⟩
theorem Enc.no {R : Prop} {T : ByteArray} {w w' : World} (h : ¬ R) (q : Q w w') : Enc R T w (.returned (.string ⟨#[]⟩)) w' := ⟨_, rfl, .inr ⟨h, rfl⟩, q⟩
set_option maxHeartbeats 4000000 in
theorem nencode_x (p : PF) (a : Option Addr) (c : Nat) (w : World) (h : SL WN.cells 10 w a p.n p.w) (hk : p.ok) :
 Calls Tryz.prog 74 #[pfV p a c] w (Enc (RightP p) (pfB p) w) := by
 have HQ : Hid (∀ o, Q w (w.alloc o)) := fun o => (Q.refl w).alloc o
 have HM : Hid (∀ ty w', Q (w.alloc (.cells #[.int .u64 p.amount, .string p.sig, .string p.token, .slice a p.n c] ty)) w' → w'.cell? ⟨w.heap.size, 0, none⟩ = some (.int .u64 p.amount) ∧ w'.cell? ⟨w.heap.size, 1, none⟩ = some (.string p.sig) ∧ w'.cell? ⟨w.heap.size, 2, none⟩ = some (.string p.token) ∧ w'.cell? ⟨w.heap.size, 3, none⟩ = some (.slice a p.n c)) := fun ty w' hcc => by
  have a1 : ∀ j v, (#[.int .u64 p.amount, .string p.sig, .string p.token, .slice a p.n c] : Array Value)[j]? = some v → w'.cell? ⟨w.heap.size, j, none⟩ = some v := fun j v hv => Q.cell' hcc (by rw [World.cell?_alloc_at _ _ _ _ rfl]; exact hv)
  exact ⟨a1 0 _ rfl, a1 1 _ rfl, a1 2 _ rfl, a1 3 _ rfl⟩
 have HR : Hid (∀ o, Calls Tryz.prog 61 #[pfV p a c] (w.alloc o) (Tells (RightP p) (w.alloc o))) := fun o => nright_x p a c _ (h.q (HQ.out o)) hk.n
 have HT := Lib.hid h
 have HK := Lib.hid hk
 clear h hk
 go_enter Tryz.func74, Tryz.ntmps74
 go_wp2_with fail
 refine (HR.out _).mono ?_
 rintro e w1 ⟨b, rfl, hz, q1⟩
 have QB := Lib.hid q1
 obtain ⟨m0, m1, m2, m3⟩ := HM.out _ _ QB.out
 clear q1 HR
 rcases two hz with ⟨rfl, Z⟩ | ⟨rfl, Z⟩
 rotate_left
 · have Z1 := Lib.hid Z
   clear Z hz
   go_wp2_with fail
   go_ret
   exact Enc.no Z1.out ((HQ.out _).trans QB.out)
 have Z1 := Lib.hid Z
 have n3 : (p.n : Int) ≤ 3 := by have := Z.2.2.1; omega
 clear Z hz
 have HW := Lib.hid (WS.new w1)
 have HG := Lib.hid (fun o => QB.out.alloc o)
 have HZ : Hid (w.heap.size + 1 ≤ w1.heap.size) := by have := QB.out.size; show _ ≤ _; simpa using this
 have hgn : w.heap.size ≠ w1.heap.size := by have := HZ.out; omega
 have H0 := Lib.hid (HW.out 105)
 have QB0 := Lib.hid (HG.out (.cells #[.pointer none, .int .i64 0, .int .i64 0] 105))
 clear m0 m1 m2 m3
 obtain ⟨m0, m1, m2, m3⟩ := HM.out _ _ QB0.out
 clear HW HG
 as_aux_lemma =>
 go_wp2_with fail
 generalize hwW : w1.alloc (.cells #[.pointer none, .int .i64 0, .int .i64 0] 105) = wW at *
 clear hwW
 have HL : Hid ((w.alloc (.cells #[.int .u64 p.amount, .string p.sig, .string p.token, .slice a p.n c] 27)).heap.size ≤ w1.heap.size) := QB.out.size
 generalize w1.heap.size = g at *
 refine (H0.out.num p.amount HK.out.amount (by omega)).mono ?_
 rintro r v1 ⟨rfl, h⟩
 have H1 := Lib.hid h
 have QB1 := Lib.hid (H1.out.ch.q QB0.out HL.out)
 clear h H0 m0 m1 m2 m3
 obtain ⟨m0, m1, m2, m3⟩ := HM.out _ _ QB1.out
 go_wp2_with fail
 refine (H1.out.blob p.sig (by have := Z1.out.1; omega) (by omega)).mono ?_
 rintro r v2 ⟨rfl, h⟩
 have H2 := Lib.hid h
 have QB2 := Lib.hid (H2.out.ch.q QB0.out HL.out)
 clear h H1 m0 m1 m2 m3
 obtain ⟨m0, m1, m2, m3⟩ := HM.out _ _ QB2.out
 go_wp2_with fail
 refine (H2.out.blob p.token (by have := Z1.out.2.1; omega) (by omega)).mono ?_
 rintro r v3 ⟨rfl, h⟩
 have H3 := Lib.hid h
 have QB3 := Lib.hid (H3.out.ch.q QB0.out HL.out)
 clear h H2 m0 m1 m2 m3
 obtain ⟨m0, m1, m2, m3⟩ := HM.out _ _ QB3.out
 as_aux_lemma =>
 go_wp2_with fail
 refine (H3.out.byte (p.n : Int) ⟨by omega, by omega⟩ (by omega)).mono ?_
 rintro r v4 ⟨rfl, h⟩
 have H4 := Lib.hid h
 have QB4 := Lib.hid (H4.out.ch.q QB0.out HL.out)
 clear h H3 m0 m1 m2 m3
 obtain ⟨m0, m1, m2, m3⟩ := HM.out _ _ QB4.out
 go_wp2_with fail
 go_loopw [5, 25] (fun z i wr => ∃ k : Nat, k ≤ p.n ∧ i = .int .i64 k ∧ Hid (WS wW g g (putS p.amount ++ blobS p.sig ++ blobS p.token ++ strOfNums [(p.n : Int)] ++ catN (fun i => wnB (p.w i)) k) (30000 + k * 60000) wr)) (fun _ i _ => p.n - (intOf i).toNat)
 case atStart => exact ⟨0, by omega, rfl, Lib.hid (H4.out.to (by show _ = _ ++ ByteArray.empty; simp only [ByteArray.append_empty, ByteArray.empty_append]) (by omega))⟩
 case round =>
  obtain ⟨k, hk, rfl, H⟩ := hrel
  clear H4 QB4 m0 m1 m2 m3
  have k0 : (0 : Int) ≤ (k : Int) := by omega
  have QW : Hid (Q w wr) := (HQ.out _).trans (H.out.ch.q QB0.out HL.out)
  by_cases hlt : k < p.n
  · have k1 : (k : Int) < (p.n : Int) := by omega
    obtain ⟨b, off, rfl, hrow⟩ := (HT.out.q QW.out).some_ (by omega)
    obtain ⟨c0, c1, c2, c3, c4, c5, c6, c7, c8, c9⟩ := win_at (hrow k hlt)
    have X := Lib.hid (Z1.out.2.2.2 k hlt)
    have XK := Lib.hid (HK.out.w k hlt)
    have hgl := H.out.wr.glt
    clear hrow
    obtain ⟨x, hx⟩ : ∃ x, p.w k = x := ⟨_, rfl⟩
    have HN : Hid (∀ T, T ++ tkB x ++ blobS x.salt ++ putS x.drawn = T ++ wnB (p.w k)) := fun T => by rw [hx]; unfold wnB; simp only [ByteArray.append_assoc]
    rw [hx] at c0 c1 c2 c3 c4 c5 c6 c7 c8 c9 X XK
    clear hx
    have HN2 : Hid (∀ ty w', Ch g (wr.alloc (.cells #[.string x.chan, .int .u64 x.serial, .int .u64 x.face, .int .u64 x.wins, .int .u64 x.many, .string x.commit, .int .u64 x.client, .string x.sig, .string x.salt, .int .u64 x.drawn] ty)) w' → w'.cell? ⟨wr.heap.size, 0, none⟩ = some (.string x.chan) ∧ w'.cell? ⟨wr.heap.size, 1, none⟩ = some (.int .u64 x.serial) ∧ w'.cell? ⟨wr.heap.size, 2, none⟩ = some (.int .u64 x.face) ∧ w'.cell? ⟨wr.heap.size, 3, none⟩ = some (.int .u64 x.wins) ∧ w'.cell? ⟨wr.heap.size, 4, none⟩ = some (.int .u64 x.many) ∧ w'.cell? ⟨wr.heap.size, 5, none⟩ = some (.string x.commit) ∧ w'.cell? ⟨wr.heap.size, 6, none⟩ = some (.int .u64 x.client) ∧ w'.cell? ⟨wr.heap.size, 7, none⟩ = some (.string x.sig) ∧ w'.cell? ⟨wr.heap.size, 8, none⟩ = some (.string x.salt) ∧ w'.cell? ⟨wr.heap.size, 9, none⟩ = some (.int .u64 x.drawn)) := fun ty w' hcc => by
     have a1 : ∀ j v, (#[.string x.chan, .int .u64 x.serial, .int .u64 x.face, .int .u64 x.wins, .int .u64 x.many, .string x.commit, .int .u64 x.client, .string x.sig, .string x.salt, .int .u64 x.drawn] : Array Value)[j]? = some v → w'.cell? ⟨wr.heap.size, j, none⟩ = some v := fun j v hv => hcc.cell (by rw [World.cell?_alloc_at _ _ _ _ rfl]; exact hv) (by show wr.heap.size ≠ g; omega)
     exact ⟨a1 0 _ rfl, a1 1 _ rfl, a1 2 _ rfl, a1 3 _ rfl, a1 4 _ rfl, a1 5 _ rfl, a1 6 _ rfl, a1 7 _ rfl, a1 8 _ rfl, a1 9 _ rfl⟩
    have HS : Hid (∀ o T' B' w', WS (wr.alloc o) g g T' B' w' → WS wW g g T' B' w') := fun o T' B' w' k => (H.out.q ((Q.refl wr).alloc o)).over k
    have H5 : Hid (∀ o, WS (wr.alloc o) g g _ _ (wr.alloc o)) := fun o => (H.out.q ((Q.refl wr).alloc o)).up
    clear H QW
    go_wp2_with fail
    refine (wticket_x x (H5.out _) X.out.1 XK.out (by omega)).mono ?_
    rintro r w5 ⟨rfl, h⟩
    have H6 := Lib.hid h
    obtain ⟨d0, d1, d2, d3, d4, d5, d6, d7, d8, d9⟩ := HN2.out _ _ H6.out.ch
    clear h H5 c0 c1 c2 c3 c4 c5 c6 c7 c8 c9 d0 d1 d2 d3 d4 d5 d6 d7
    as_aux_lemma =>
    go_wp2_with fail
    refine (H6.out.blob x.salt (by have := X.out.2; omega) (by omega)).mono ?_
    rintro r w6 ⟨rfl, h⟩
    have H7 := Lib.hid h
    clear d8 d9
    obtain ⟨d0, d1, d2, d3, d4, d5, d6, d7, d8, d9⟩ := HN2.out _ _ H7.out.ch
    clear h H6 d0 d1 d2 d3 d4 d5 d6 d7
    go_wp2_with fail
    refine (H7.out.num x.drawn XK.out.drawn (by omega)).mono ?_
    rintro r w7 ⟨rfl, h⟩
    have H8 := Lib.hid (HS.out _ _ _ _ h)
    clear h H7 d8 d9
    go_wp2_with fail
    go_roundw
    case rel => exact ⟨k + 1, by omega, by go_num, Lib.hid (H8.out.to (by rw [HN.out]; show _ = _ ++ (catN _ k ++ wnB (p.w k)); simp only [ByteArray.append_assoc]) (by omega))⟩
    case measure => simp [intOf]; omega
  · obtain rfl : k = p.n := by omega
    have td : decide (p.n < p.n) = false := by simp
    go_wp2_with fail
    refine (H.out.text (by omega)).mono ?_
    rintro r w8 ⟨rfl, q8⟩
    have Q8 := Lib.hid (QW.out.trans q8)
    clear q8
    go_wp2_with fail
    go_ret
    exact Enc.yes Z1.out rfl Q8.out
set_option maxHeartbeats 4000000 in
theorem core_x (t : TX) (aI aO aW : Option Addr) (cI cO cW : Nat) (w : World) (h : TM w aI cI aO aW t) (hk : t.ok) :
 Calls Tryz.prog 16 #[txV t aI cI aO cO aW cW] w (Enc (RightT t) (coreS t) w) := by
 have HQ : Hid (∀ o, Q w (w.alloc o)) := fun o => (Q.refl w).alloc o
 have HM : Hid (∀ ty w', Q (w.alloc (.cells #[.slice aI t.nI cI, .slice aO t.nO cO, .int .u64 t.p.amount, .string t.p.sig, .string t.p.token, .slice aW t.p.n cW] ty)) w' → w'.cell? ⟨w.heap.size, 0, none⟩ = some (.slice aI t.nI cI) ∧ w'.cell? ⟨w.heap.size, 1, none⟩ = some (.slice aO t.nO cO) ∧ w'.cell? ⟨w.heap.size, 2, none⟩ = some (.int .u64 t.p.amount) ∧ w'.cell? ⟨w.heap.size, 3, none⟩ = some (.string t.p.sig) ∧ w'.cell? ⟨w.heap.size, 4, none⟩ = some (.string t.p.token) ∧ w'.cell? ⟨w.heap.size, 5, none⟩ = some (.slice aW t.p.n cW)) := fun ty w' hcc => by
  have a1 : ∀ j v, (#[.slice aI t.nI cI, .slice aO t.nO cO, .int .u64 t.p.amount, .string t.p.sig, .string t.p.token, .slice aW t.p.n cW] : Array Value)[j]? = some v → w'.cell? ⟨w.heap.size, j, none⟩ = some v := fun j v hv => Q.cell' hcc (by rw [World.cell?_alloc_at _ _ _ _ rfl]; exact hv)
  exact ⟨a1 0 _ rfl, a1 1 _ rfl, a1 2 _ rfl, a1 3 _ rfl, a1 4 _ rfl, a1 5 _ rfl⟩
 have HR : Hid (∀ o, Calls Tryz.prog 14 #[txV t aI cI aO cO aW cW] (w.alloc o) (Tells (RightT t) (w.alloc o))) := fun o => right_x t aI aO aW cI cO cW _ (h.q (HQ.out o)) hk
 have HT := Lib.hid h
 have HK := Lib.hid hk
 clear h hk
 go_enter Tryz.func16, Tryz.ntmps16
 go_wp2_with fail
 refine (HR.out _).mono ?_
 rintro e w1 ⟨b, rfl, hz, q1⟩
 have QB := Lib.hid q1
 obtain ⟨m0, m1, m2, m3, m4, m5⟩ := HM.out _ _ QB.out
 clear q1 HR
 rcases two hz with ⟨rfl, Z⟩ | ⟨rfl, Z⟩
 rotate_left
 · have Z1 := Lib.hid Z
   clear Z hz
   go_wp2_with fail
   go_ret
   exact Enc.no Z1.out ((HQ.out _).trans QB.out)
 have Z1 := Lib.hid Z
 have i4 : (t.nI : Int) ≤ 4 := by have := Z.2.1; omega
 have o4 : (t.nO : Int) ≤ 4 := by have := Z.2.2.2.2.2.1; omega
 clear Z hz
 have H0 := Lib.hid (WS.new w1 105)
 have QB0 := Lib.hid (QB.out.alloc (.cells #[.pointer none, .int .i64 0, .int .i64 0] 105))
 have HL : Hid ((w.alloc (.cells #[.slice aI t.nI cI, .slice aO t.nO cO, .int .u64 t.p.amount, .string t.p.sig, .string t.p.token, .slice aW t.p.n cW] 29)).heap.size ≤ w1.heap.size) := QB.out.size
 clear m0 m1 m2 m3 m4 m5
 obtain ⟨m0, m1, m2, m3, m4, m5⟩ := HM.out _ _ QB0.out
 have hgn : w.heap.size ≠ w1.heap.size := by have := QB.out.size; simp at this; omega
 as_aux_lemma =>
 go_wp2_with fail
 generalize w1.alloc (.cells #[.pointer none, .int .i64 0, .int .i64 0] 105) = wW at *
 generalize w1.heap.size = g at *
 refine (H0.out.byte 67 (by omega) (by omega)).mono ?_
 rintro r v1 ⟨rfl, h⟩
 have H1 := Lib.hid h
 have QB1 := Lib.hid (H1.out.ch.q QB0.out HL.out)
 clear h H0 m0 m1 m2 m3 m4 m5
 obtain ⟨m0, m1, m2, m3, m4, m5⟩ := HM.out _ _ QB1.out
 as_aux_lemma =>
 go_wp2_with fail
 refine (H1.out.byte (t.nI : Int) ⟨by omega, by omega⟩ (by omega)).mono ?_
 rintro r v2 ⟨rfl, h⟩
 have H2 := Lib.hid h
 have QB2 := Lib.hid (H2.out.ch.q QB0.out HL.out)
 clear h H1 m0 m1 m2 m3 m4 m5
 obtain ⟨m0, m1, m2, m3, m4, m5⟩ := HM.out _ _ QB2.out
 as_aux_lemma =>
 go_wp2_with fail
 go_loopw [5, 19] (fun z i wr => ∃ k : Nat, k ≤ t.nI ∧ i = .int .i64 k ∧ Hid (WS wW g g (strOfNums [67] ++ strOfNums [(t.nI : Int)] ++ catN (fun i => inB (t.ins i)) k) (30000 + k * 60000) wr)) (fun _ i _ => t.nI - (intOf i).toNat)
 case atStart => exact ⟨0, by omega, rfl, Lib.hid (H2.out.to (by show _ = _ ++ ByteArray.empty; simp only [ByteArray.append_empty, ByteArray.empty_append]) (by omega))⟩
 case round =>
  obtain ⟨k, hk, rfl, H⟩ := hrel
  clear H2 QB2 m0 m1 m2 m3 m4 m5
  have k0 : (0 : Int) ≤ (k : Int) := by omega
  have QT : Hid (Q _ wr) := H.out.ch.q QB0.out HL.out
  have QW : Hid (Q w wr) := (HQ.out _).trans QT.out
  by_cases hlt : k < t.nI
  · have k1 : (k : Int) < (t.nI : Int) := by omega
    obtain ⟨b, off, rfl, hrow⟩ := (HT.out.i.q QW.out).some_ (by omega)
    obtain ⟨c0, c1, c2, c3⟩ := in_at (hrow k hlt)
    have X := Lib.hid (Z1.out.2.2.1 k hlt)
    have hgl := H.out.wr.glt
    clear hrow
    obtain ⟨x, hx⟩ : ∃ x, t.ins k = x := ⟨_, rfl⟩
    have HN : Hid (∀ T, T ++ x.tx ++ strOfNums [x.out] ++ strOfNums [x.path] = T ++ inB (t.ins k)) := fun T => by rw [hx]; unfold inB; simp only [ByteArray.append_assoc]
    rw [hx] at c0 c1 c2 c3 X
    clear hx
    have HN2 : Hid (∀ ty w', Ch g (wr.alloc (.cells #[.string x.tx, .int .i64 x.out, .int .i64 x.path, .string x.sig] ty)) w' → w'.cell? ⟨wr.heap.size, 0, none⟩ = some (.string x.tx) ∧ w'.cell? ⟨wr.heap.size, 1, none⟩ = some (.int .i64 x.out) ∧ w'.cell? ⟨wr.heap.size, 2, none⟩ = some (.int .i64 x.path) ∧ w'.cell? ⟨wr.heap.size, 3, none⟩ = some (.string x.sig)) := fun ty w' hcc => by
     have a1 : ∀ j v, (#[.string x.tx, .int .i64 x.out, .int .i64 x.path, .string x.sig] : Array Value)[j]? = some v → w'.cell? ⟨wr.heap.size, j, none⟩ = some v := fun j v hv => hcc.cell (by rw [World.cell?_alloc_at _ _ _ _ rfl]; exact hv) (by show wr.heap.size ≠ g; omega)
     exact ⟨a1 0 _ rfl, a1 1 _ rfl, a1 2 _ rfl, a1 3 _ rfl⟩
    have HS : Hid (∀ o T' B' w', WS (wr.alloc o) g g T' B' w' → WS wW g g T' B' w') := fun o T' B' w' k => (H.out.q ((Q.refl wr).alloc o)).over k
    have H5 : Hid (∀ o, WS (wr.alloc o) g g _ _ (wr.alloc o)) := fun o => (H.out.q ((Q.refl wr).alloc o)).up
    clear H QW QT
    go_wp2_with fail
    refine ((H5.out _).hash x.tx X.out.1 (by omega)).mono ?_
    rintro r w5 ⟨rfl, h⟩
    have H6 := Lib.hid h
    obtain ⟨d0, d1, d2, d3⟩ := HN2.out _ _ H6.out.ch
    clear h H5 c0 c1 c2 c3
    as_aux_lemma =>
    go_wp2_with fail
    refine (H6.out.byte x.out ⟨X.out.2.1, X.out.2.2.1⟩ (by omega)).mono ?_
    rintro r w6 ⟨rfl, h⟩
    have H7 := Lib.hid h
    clear d0 d1 d2 d3
    obtain ⟨d0, d1, d2, d3⟩ := HN2.out _ _ H7.out.ch
    clear h H6
    go_wp2_with fail
    refine (H7.out.byte x.path ⟨by have := X.out.2.2.2.1; omega, by have := X.out.2.2.2.2.1; omega⟩ (by omega)).mono ?_
    rintro r w7 ⟨rfl, h⟩
    have H8 := Lib.hid (HS.out _ _ _ _ h)
    clear h H7 d0 d1 d2 d3
    go_wp2_with fail
    go_roundw
    case rel => exact ⟨k + 1, by omega, by go_num, Lib.hid (H8.out.to (by rw [HN.out]; show _ = _ ++ (catN _ k ++ inB (t.ins k)); simp only [ByteArray.append_assoc]) (by omega))⟩
    case measure => simp [intOf]; omega
  · obtain rfl : k = t.nI := by omega
    have td : decide (t.nI < t.nI) = false := by simp
    obtain ⟨m0, m1, m2, m3, m4, m5⟩ := HM.out _ _ QT.out
    as_aux_lemma =>
    go_wp2_with fail
    refine (H.out.byte (t.nO : Int) ⟨by omega, by omega⟩ (by omega)).mono ?_
    rintro r w9 ⟨rfl, h⟩
    have H9 := Lib.hid h
    have QT9 := Lib.hid (H9.out.ch.q QB0.out HL.out)
    clear h H QT QW m0 m1 m2 m3 m4 m5
    obtain ⟨m0, m1, m2, m3, m4, m5⟩ := HM.out _ _ QT9.out
    go_wp2_with fail
    go_loopw [7, 42] (fun z i wr => ∃ k : Nat, k ≤ t.nO ∧ i = .int .i64 k ∧ Hid (WS wW g g (strOfNums [67] ++ strOfNums [(t.nI : Int)] ++ catN (fun i => inB (t.ins i)) t.nI ++ strOfNums [(t.nO : Int)] ++ catN (fun i => ouB (t.outs i)) k) (600000 + k * 60000) wr)) (fun _ i _ => t.nO - (intOf i).toNat)
    case atStart => exact ⟨0, by omega, rfl, Lib.hid (H9.out.to (by show _ = _ ++ ByteArray.empty; simp only [ByteArray.append_empty]) (by omega))⟩
    case round =>
     obtain ⟨k, hk, rfl, H⟩ := hrel
     clear H9 QT9 m0 m1 m2 m3 m4 m5
     have k0 : (0 : Int) ≤ (k : Int) := by omega
     have QW : Hid (Q w wr) := (HQ.out _).trans (H.out.ch.q QB0.out HL.out)
     by_cases hlt : k < t.nO
     · have k1 : (k : Int) < (t.nO : Int) := by omega
       obtain ⟨b, off, rfl, hrow⟩ := (HT.out.o.q QW.out).some_ (by omega)
       obtain ⟨c0, c1, c2, c3, c4, c5, c6, c7, c8⟩ := out_at (hrow k hlt)
       have X := Lib.hid (Z1.out.2.2.2.2.2.2.1 k hlt)
       have XK := Lib.hid (HK.out.outs k hlt)
       clear hrow
       obtain ⟨x, hx⟩ : ∃ x, t.outs k = x := ⟨_, rfl⟩
       have HN := Lib.hid hx
       rw [hx] at c0 c1 c2 c3 c4 c5 c6 c7 c8 X XK
       clear hx
       have H5 : Hid (∀ o, WS wW g g _ _ (wr.alloc o)) := fun o => H.out.q ((Q.refl wr).alloc o)
       clear H QW
       go_wp2_with fail
       refine (wout_x x (H5.out _) X.out XK.out (by omega)).mono ?_
       rintro r w5 ⟨rfl, h⟩
       have H6 := Lib.hid h
       clear h H5 c0 c1 c2 c3 c4 c5 c6 c7 c8
       go_wp2_with fail
       go_roundw
       case rel => exact ⟨k + 1, by omega, by go_num, Lib.hid (H6.out.to (by rw [← HN.out]; show _ = _ ++ (catN _ k ++ ouB (t.outs k)); simp only [ByteArray.append_assoc]) (by omega))⟩
       case measure => simp [intOf]; omega
     · obtain rfl : k = t.nO := by omega
       have td : decide (t.nO < t.nO) = false := by simp
       go_wp2_with fail
       refine (H.out.text (by omega)).mono ?_
       rintro r w8 ⟨rfl, q8⟩
       have Q8 := Lib.hid (QW.out.trans q8)
       clear q8
       go_wp2_with fail
       go_ret
       exact Enc.yes Z1.out rfl Q8.out
set_option maxHeartbeats 4000000 in
theorem encode_x (t : TX) (aI aO aW : Option Addr) (cI cO cW : Nat) (w : World) (h : TM w aI cI aO aW t) (hk : t.ok) :
 Calls Tryz.prog 20 #[txV t aI cI aO cO aW cW] w (Enc (RightT t) (txB t) w) := by
 have HQ : Hid (∀ o, Q w (w.alloc o)) := fun o => (Q.refl w).alloc o
 have HM : Hid (∀ ty w', Q (w.alloc (.cells #[.slice aI t.nI cI, .slice aO t.nO cO, .int .u64 t.p.amount, .string t.p.sig, .string t.p.token, .slice aW t.p.n cW] ty)) w' → w'.cell? ⟨w.heap.size, 0, none⟩ = some (.slice aI t.nI cI) ∧ w'.cell? ⟨w.heap.size, 1, none⟩ = some (.slice aO t.nO cO) ∧ w'.cell? ⟨w.heap.size, 2, none⟩ = some (.int .u64 t.p.amount) ∧ w'.cell? ⟨w.heap.size, 3, none⟩ = some (.string t.p.sig) ∧ w'.cell? ⟨w.heap.size, 4, none⟩ = some (.string t.p.token) ∧ w'.cell? ⟨w.heap.size, 5, none⟩ = some (.slice aW t.p.n cW)) := fun ty w' hcc => by
  have a1 : ∀ j v, (#[.slice aI t.nI cI, .slice aO t.nO cO, .int .u64 t.p.amount, .string t.p.sig, .string t.p.token, .slice aW t.p.n cW] : Array Value)[j]? = some v → w'.cell? ⟨w.heap.size, j, none⟩ = some v := fun j v hv => Q.cell' hcc (by rw [World.cell?_alloc_at _ _ _ _ rfl]; exact hv)
  exact ⟨a1 0 _ rfl, a1 1 _ rfl, a1 2 _ rfl, a1 3 _ rfl, a1 4 _ rfl, a1 5 _ rfl⟩
 have HR : Hid (∀ o, Calls Tryz.prog 16 #[txV t aI cI aO cO aW cW] (w.alloc o) (Enc (RightT t) (coreS t) (w.alloc o))) := fun o => core_x t aI aO aW cI cO cW _ (h.q (HQ.out o)) hk
 have HT := Lib.hid h
 have HK := Lib.hid hk
 clear h hk
 go_enter Tryz.func20, Tryz.ntmps20
 go_wp2_with fail
 refine (HR.out _).mono ?_
 rintro e w1 ⟨s, rfl, hz, q1⟩
 have QB := Lib.hid q1
 obtain ⟨m0, m1, m2, m3, m4, m5⟩ := HM.out _ _ QB.out
 clear q1 HR
 rcases hz with ⟨Z, hs⟩ | ⟨Z, rfl⟩
 rotate_left
 · have Z1 := Lib.hid Z
   clear Z
   go_wp2_with fail
   go_ret
   exact Enc.no Z1.out ((HQ.out _).trans QB.out)
 have Z1 := Lib.hid Z
 have i4 : (t.nI : Int) ≤ 4 := by have := Z.2.1; omega
 have S1 : Hid (s.size ≤ 4096) := by show _ ≤ _; rw [hs]; have := coreS_size t Z; omega
 have s0 : s.toList ≠ [] := by rw [ne_eq, tl_nil, hs]; have := coreS_pos t; omega
 have s1 : s.toList.isEmpty = false := by simpa using s0
 have HS := Lib.hid hs
 clear Z hs
 have H0 := Lib.hid (WS.new w1 105)
 have QB0 := Lib.hid (QB.out.alloc (.cells #[.pointer none, .int .i64 0, .int .i64 0] 105))
 have HL : Hid ((w.alloc (.cells #[.slice aI t.nI cI, .slice aO t.nO cO, .int .u64 t.p.amount, .string t.p.sig, .string t.p.token, .slice aW t.p.n cW] 29)).heap.size ≤ w1.heap.size) := QB.out.size
 clear m0 m1 m2 m3 m4 m5
 obtain ⟨m0, m1, m2, m3, m4, m5⟩ := HM.out _ _ QB0.out
 have hgn : w.heap.size ≠ w1.heap.size := by have := QB.out.size; simp at this; omega
 as_aux_lemma =>
 go_wp2_with fail
 generalize w1.alloc (.cells #[.pointer none, .int .i64 0, .int .i64 0] 105) = wW at *
 generalize w1.heap.size = g at *
 refine (H0.out.blob s S1.out (by omega)).mono ?_
 rintro r v1 ⟨rfl, h⟩
 have H1 := Lib.hid h
 have QB1 := Lib.hid (H1.out.ch.q QB0.out HL.out)
 clear h H0 m0 m1 m2 m3 m4 m5
 obtain ⟨m0, m1, m2, m3, m4, m5⟩ := HM.out _ _ QB1.out
 as_aux_lemma =>
 go_wp2_with fail
 go_loopw [6, 16] (fun z i wr => ∃ k : Nat, k ≤ t.nI ∧ i = .int .i64 k ∧ Hid (WS wW g g (blobS s ++ catN (fun i => blobS (t.ins i).sig) k) (30000 + k * 60000) wr)) (fun _ i _ => t.nI - (intOf i).toNat)
 case atStart => exact ⟨0, by omega, rfl, Lib.hid (H1.out.to (by show _ = _ ++ ByteArray.empty; simp only [ByteArray.append_empty, ByteArray.empty_append]) (by omega))⟩
 case round =>
  obtain ⟨k, hk, rfl, H⟩ := hrel
  clear H1 QB1 m0 m1 m2 m3 m4 m5
  have k0 : (0 : Int) ≤ (k : Int) := by omega
  have QT : Hid (Q _ wr) := H.out.ch.q QB0.out HL.out
  have QW : Hid (Q w wr) := (HQ.out _).trans QT.out
  by_cases hlt : k < t.nI
  · have k1 : (k : Int) < (t.nI : Int) := by omega
    obtain ⟨b, off, rfl, hrow⟩ := (HT.out.i.q QW.out).some_ (by omega)
    obtain ⟨c0, c1, c2, c3⟩ := in_at (hrow k hlt)
    have X : Hid ((t.ins k).sig.size ≤ 4096) := by show _ ≤ _; have := (Z1.out.2.2.1 k hlt).2.2.2.2.2; omega
    clear hrow
    obtain ⟨x, hx⟩ : ∃ x, t.ins k = x := ⟨_, rfl⟩
    have HN := Lib.hid hx
    rw [hx] at c0 c1 c2 c3 X
    clear hx
    have H5 : Hid (∀ o, WS wW g g _ _ (wr.alloc o)) := fun o => H.out.q ((Q.refl wr).alloc o)
    clear H QW QT
    go_wp2_with fail
    refine ((H5.out _).blob x.sig X.out (by omega)).mono ?_
    rintro r w5 ⟨rfl, h⟩
    have H6 := Lib.hid h
    clear h H5 c0 c1 c2 c3
    go_wp2_with fail
    go_roundw
    case rel => exact ⟨k + 1, by omega, by go_num, Lib.hid (H6.out.to (by rw [← HN.out]; show _ = _ ++ (catN _ k ++ blobS (t.ins k).sig); simp only [ByteArray.append_assoc]) (by omega))⟩
    case measure => simp [intOf]; omega
  · obtain rfl : k = t.nI := by omega
    have td : decide (t.nI < t.nI) = false := by simp
    obtain ⟨m0, m1, m2, m3, m4, m5⟩ := HM.out _ _ QT.out
    as_aux_lemma =>
    go_wp2_with fail
    refine (nencode_x t.p aW cW _ (HT.out.w.q QW.out) HK.out.p).mono ?_
    rintro e w9 ⟨s', rfl, hz, q9⟩
    have H9 := Lib.hid (H.out.q q9)
    have QT9 := Lib.hid (QW.out.trans q9)
    have S2 : Hid (s' = pfB t.p) := hz.elim (fun h => h.2) (fun h => absurd Z1.out.2.2.2.2.2.2.2 h.1)
    have S3 : Hid (s'.size ≤ 4096) := by show _ ≤ _; rw [S2.out]; have := pfB_size t.p Z1.out.2.2.2.2.2.2.2; omega
    clear hz q9 H QT QW m0 m1 m2 m3 m4 m5
    go_wp2_with fail
    refine (H9.out.blob s' S3.out (by omega)).mono ?_
    rintro r w10 ⟨rfl, h⟩
    have H10 := Lib.hid h
    have QT10 : Hid (Q w w10) := (HQ.out _).trans (H10.out.ch.q QB0.out HL.out)
    clear h H9 QT9
    go_wp2_with fail
    refine (H10.out.text (by omega)).mono ?_
    rintro r w8 ⟨rfl, q8⟩
    have Q8 := Lib.hid (QT10.out.trans q8)
    clear q8
    go_wp2_with fail
    go_ret
    exact Enc.yes Z1.out (by rw [HS.out, S2.out]; rfl) Q8.out
end Go.Proofs.YtobfgljkckcmcaaGreatDoor.Coi
