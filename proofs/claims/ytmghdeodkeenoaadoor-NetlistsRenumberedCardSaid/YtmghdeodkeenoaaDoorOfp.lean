/- The circuits of C: the plain side. -/
import Derived.Test.YtmghdeodkeenoaaDoorOfk
namespace Go.Proofs.YtmghdeodkeenoaaDoor
open Go.RowKit

structure Gx where
  kind : Int
  i0 : Int
  i1 : Int
  i2 : Int
instance gxInh : Inhabited Gx := ⟨⟨0, 0, 0, 0⟩⟩
structure Cx where
  inN : Int
  dffs : Int
  d0 : Int
  d1 : Int
  bus : Bool
  mem : Bool
  p0 : Int
  p1 : Int
  p2 : Int
  p3 : Int
  gates : List Gx
  outs : List Int
def U8 (x : Int) : Prop := 0 ≤ x ∧ x ≤ 255
def Gok (g : Gx) : Prop := U8 g.kind ∧ U8 g.i0 ∧ U8 g.i1 ∧ U8 g.i2
structure Cok (x : Cx) : Prop where
  inN : U8 x.inN
  dffs : U8 x.dffs
  d0 : U8 x.d0
  d1 : U8 x.d1
  p0 : U8 x.p0
  p1 : U8 x.p1
  p2 : U8 x.p2
  p3 : U8 x.p3
  gates : ∀ k, k < x.gates.length → Gok (x.gates.getD k default)
  outs : ∀ k, k < x.outs.length → U8 (x.outs.getD k 0)

/-- The remainder, as a node's index. -/
def ix (a : Int) (n : Nat) : Int := a % (n : Int)
def kindG (bus : Bool) (k : Int) : Int := if bus = true then k % 13 else k % 9
def trisOf (nodes : List Nd) : List Int := ofTo nodes [12] nodes.length
def gateN (bus : Bool) (g : Gx) (nodes : List Nd) : Nd :=
  if kindG bus g.kind < 6 then ⟨5 + kindG bus g.kind, [ix g.i0 nodes.length, ix g.i1 nodes.length] ++ (if 128 ≤ g.kind then [ix g.i2 nodes.length] else []), 0, 0⟩
  else if kindG bus g.kind = 6 then ⟨4, [ix g.i0 nodes.length], 0, 0⟩
  else if kindG bus g.kind = 7 then ⟨11, [ix g.i0 nodes.length, ix g.i1 nodes.length, ix g.i2 nodes.length], 0, 0⟩
  else if kindG bus g.kind = 9 ∨ kindG bus g.kind = 10 then ⟨12, [ix g.i0 nodes.length, ix g.i1 nodes.length], 0, 0⟩
  else if 10 < kindG bus g.kind ∧ 0 < (trisOf nodes).length then
    ⟨13, [(trisOf nodes).getD (ix g.i0 (trisOf nodes).length).toNat 0] ++ (if 1 < (trisOf nodes).length then [(trisOf nodes).getD (ix (ix g.i0 (trisOf nodes).length + 1) (trisOf nodes).length).toNat 0] else []), 0, 0⟩
  else if 240 < g.kind then ⟨1 + g.i0 % 2, [], 0, 0⟩
  else ⟨3, [ix g.i0 nodes.length], 0, 0⟩
theorem kindG_ge (bus : Bool) (k : Int) : 0 ≤ kindG bus k ∧ kindG bus k < 13 := by
  unfold kindG; split <;> omega
theorem ix_lt (a : Int) {n : Nat} (h : 0 < n) : ∃ k : Nat, ix a n = (k : Int) ∧ k < n := by
  have h1 := Int.emod_nonneg a (show (n : Int) ≠ 0 by omega)
  have h2 := Int.emod_lt_of_pos a (show (0 : Int) < (n : Int) by omega)
  exact ⟨(ix a n).toNat, by unfold ix at *; omega, by unfold ix; omega⟩

section
variable {bus : Bool} {k i0 i1 i2 : Int} {nodes : List Nd} {n : Nat} {a b d : Int}
theorem gateN_lt (hn : n = nodes.length) (h : kindG bus k < 6) (h2 : ¬ 128 ≤ k) (ha : i0 % (n : Int) = a) (hb : i1 % (n : Int) = b) : gateN bus ⟨k, i0, i1, i2⟩ nodes = ⟨5 + kindG bus k, [a, b], 0, 0⟩ := by
  subst hn; unfold gateN ix; rw [if_pos h, if_neg h2, ha, hb]; rfl
theorem gateN_lt3 (hn : n = nodes.length) (h : kindG bus k < 6) (h2 : 128 ≤ k) (ha : i0 % (n : Int) = a) (hb : i1 % (n : Int) = b) (hd : i2 % (n : Int) = d) : gateN bus ⟨k, i0, i1, i2⟩ nodes = ⟨5 + kindG bus k, [a, b, d], 0, 0⟩ := by
  subst hn; unfold gateN ix; rw [if_pos h, if_pos h2, ha, hb, hd]; rfl
theorem gateN_not (hn : n = nodes.length) (h6 : ¬ kindG bus k < 6) (h7 : kindG bus k = 6) (ha : i0 % (n : Int) = a) : gateN bus ⟨k, i0, i1, i2⟩ nodes = ⟨4, [a], 0, 0⟩ := by
  subst hn; unfold gateN ix; rw [if_neg h6, if_pos h7, ha]
theorem gateN_mux (hn : n = nodes.length) (h6 : ¬ kindG bus k < 6) (h7 : ¬ kindG bus k = 6) (h8 : kindG bus k = 7) (ha : i0 % (n : Int) = a) (hb : i1 % (n : Int) = b) (hd : i2 % (n : Int) = d) : gateN bus ⟨k, i0, i1, i2⟩ nodes = ⟨11, [a, b, d], 0, 0⟩ := by
  subst hn; unfold gateN ix; rw [if_neg h6, if_neg h7, if_pos h8, ha, hb, hd]
theorem gateN_tri (hn : n = nodes.length) (h9 : kindG bus k = 9 ∨ kindG bus k = 10) (ha : i0 % (n : Int) = a) (hb : i1 % (n : Int) = b) : gateN bus ⟨k, i0, i1, i2⟩ nodes = ⟨12, [a, b], 0, 0⟩ := by
  subst hn; unfold gateN ix; rw [if_neg (show ¬ kindG bus k < 6 by omega), if_neg (show ¬ kindG bus k = 6 by omega), if_neg (show ¬ kindG bus k = 7 by omega), if_pos h9, ha, hb]
theorem gateN_bus1 (h10 : 10 < kindG bus k) {m : Nat} (hm : m = (trisOf nodes).length) (h0 : 0 < m) (h1 : ¬ 1 < m) {j : Nat} (hj : i0 % (m : Int) = (j : Int)) {x : Int} (hx : x = (trisOf nodes).getD j 0) : gateN bus ⟨k, i0, i1, i2⟩ nodes = ⟨13, [x], 0, 0⟩ := by
  subst hm; unfold gateN ix; rw [if_neg (show ¬ kindG bus k < 6 by omega), if_neg (show ¬ kindG bus k = 6 by omega), if_neg (show ¬ kindG bus k = 7 by omega), if_neg (show ¬ (kindG bus k = 9 ∨ kindG bus k = 10) by omega), if_pos ⟨h10, h0⟩, if_neg h1, hj, hx]; rfl
theorem gateN_bus2 (h10 : 10 < kindG bus k) {m : Nat} (hm : m = (trisOf nodes).length) (h1 : 1 < m) {j j' : Nat} (hj : i0 % (m : Int) = (j : Int)) (hj' : ((j : Int) + 1) % (m : Int) = (j' : Int)) {x y : Int} (hx : x = (trisOf nodes).getD j 0) (hy : y = (trisOf nodes).getD j' 0) : gateN bus ⟨k, i0, i1, i2⟩ nodes = ⟨13, [x, y], 0, 0⟩ := by
  subst hm; unfold gateN ix; rw [if_neg (show ¬ kindG bus k < 6 by omega), if_neg (show ¬ kindG bus k = 6 by omega), if_neg (show ¬ kindG bus k = 7 by omega), if_neg (show ¬ (kindG bus k = 9 ∨ kindG bus k = 10) by omega), if_pos ⟨h10, by omega⟩, if_pos h1, hj, hj', hx, hy]; rfl
theorem gateN_const (h6 : ¬ kindG bus k < 6) (h7 : ¬ kindG bus k = 6) (h8 : ¬ kindG bus k = 7) (h9 : ¬ kindG bus k = 9) (h9' : ¬ kindG bus k = 10) (h10 : ¬ (10 < kindG bus k ∧ 0 < (trisOf nodes).length)) (h : 240 < k) : gateN bus ⟨k, i0, i1, i2⟩ nodes = ⟨1 + i0 % 2, [], 0, 0⟩ := by
  unfold gateN; rw [if_neg h6, if_neg h7, if_neg h8, if_neg (show ¬ (kindG bus k = 9 ∨ kindG bus k = 10) by omega), if_neg h10, if_pos h]
theorem gateN_buf (hn : n = nodes.length) (h6 : ¬ kindG bus k < 6) (h7 : ¬ kindG bus k = 6) (h8 : ¬ kindG bus k = 7) (h9 : ¬ kindG bus k = 9) (h9' : ¬ kindG bus k = 10) (h10 : ¬ (10 < kindG bus k ∧ 0 < (trisOf nodes).length)) (h : ¬ 240 < k) (ha : i0 % (n : Int) = a) : gateN bus ⟨k, i0, i1, i2⟩ nodes = ⟨3, [a], 0, 0⟩ := by
  subst hn; unfold gateN ix; rw [if_neg h6, if_neg h7, if_neg h8, if_neg (show ¬ (kindG bus k = 9 ∨ kindG bus k = 10) by omega), if_neg h10, if_neg h, ha]
end

/-- The nodes before the gates. -/
def inputN : Nd := ⟨0, [], 0, 0⟩
def dffN (x : Int) : Nd := ⟨14, [x], 0, 0⟩
def firstN (x : Cx) : Nat := (x.inN % 4).toNat + 1
def dffsN (x : Cx) : Nat := (x.dffs % 3).toNat
def baseN (x : Cx) : List Nd := List.replicate (firstN x) inputN ++ List.replicate (dffsN x) (dffN 0) ++ (if x.mem = true then [⟨15, [], 0, 0⟩, ⟨15, [], 0, 1⟩] else [])
def gatesTo (x : Cx) : Nat → List Nd
  | 0 => baseN x
  | k + 1 => gatesTo x k ++ [gateN x.bus (x.gates.getD k default) (gatesTo x k)]
def gatesN (x : Cx) : Nat := min x.gates.length 8
def dataN (x : Cx) (i : Nat) : Int := if i = 0 then x.d0 else x.d1
/-- The flip-flops' data set, for the first k. -/
def dffTo (x : Cx) : Nat → List Nd
  | 0 => gatesTo x (gatesN x)
  | k + 1 => (dffTo x k).set (firstN x + k) (dffN (ix (dataN x k) (gatesTo x (gatesN x)).length))
def nodesN (x : Cx) : List Nd := dffTo x (dffsN x)
def sizeN (x : Cx) : Nat := (gatesTo x (gatesN x)).length
def memsN (x : Cx) : List Mm := if x.mem = true then [⟨[ix x.p0 (sizeN x)], [ix x.p1 (sizeN x), ix x.p2 (sizeN x)], ix x.p3 (sizeN x)⟩] else []
def digB (x : Nat) : UInt8 := UInt8.ofNat (48 + x)
def nameB (i : Nat) : ByteArray := ⟨#[110, digB (i / 10), digB (i % 10)]⟩
def outsN (x : Cx) : Nat := min x.outs.length 3
def outsTo (x : Cx) (k : Nat) : List Int := (List.range k).map fun i => ix (x.outs.getD i 0) (sizeN x)
/-- THE CIRCUIT of C. -/
def ofC (x : Cx) : Ck := ⟨nodesN x, (List.range (sizeN x)).map nameB, memsN x, outsTo x (outsN x) ++ [(sizeN x : Int) - 1]⟩

theorem gatesTo_len (x : Cx) : ∀ k, (gatesTo x k).length = (baseN x).length + k
  | 0 => rfl
  | k + 1 => by rw [gatesTo, List.length_append, gatesTo_len x k]; simp; omega
theorem baseN_len (x : Cx) : (baseN x).length = firstN x + dffsN x + (if x.mem = true then 2 else 0) := by
  unfold baseN
  rw [List.length_append, List.length_append, List.length_replicate, List.length_replicate]
  split <;> simp
theorem dffTo_len (x : Cx) : ∀ k, (dffTo x k).length = sizeN x
  | 0 => rfl
  | k + 1 => by rw [dffTo, List.length_set, dffTo_len x k]
theorem firstN_le (x : Cx) : 1 ≤ firstN x ∧ firstN x ≤ 4 := by unfold firstN; omega
theorem dffsN_le (x : Cx) : dffsN x ≤ 2 := by unfold dffsN; omega
theorem gatesN_le (x : Cx) : gatesN x ≤ 8 := by unfold gatesN; omega
theorem sizeN_le (x : Cx) : 1 ≤ sizeN x ∧ sizeN x ≤ 16 ∧ firstN x + dffsN x ≤ sizeN x := by
  have h1 := firstN_le x
  have h2 := dffsN_le x
  have h3 := gatesN_le x
  unfold sizeN
  rw [gatesTo_len, baseN_len]
  split <;> omega
theorem ofC_len (x : Cx) : (ofC x).nodes.length = sizeN x := dffTo_len x _
end Go.Proofs.YtmghdeodkeenoaaDoor
