/- The texts Exp Sex Sx7. -/
import Derived.Test.YtemogllidmgbfaaGreatDoorM17
import Derived.Test.YtemogllidmgbfaaGreatDoorM10
namespace Go.Proofs.YtemogllidmgbfaaGreatDoor
open Go.RowKit

def exN (k2 : Int) (i2 : List Int) : List Nd := [⟨0, [], 0, 0⟩, ⟨14, [3], 0, 0⟩, ⟨k2, i2, 0, 0⟩, ⟨5, [1, 2], 0, 0⟩]
def exS (b : UInt8) : List ByteArray := [⟨#[97]⟩, ⟨#[113]⟩, ⟨#[b]⟩, ⟨#[103]⟩]
def Ex : Ck := ⟨exN 4 [0], exS 110, [], [3]⟩
theorem is_of {w : World} {g : Nat} {l : List Int} (t : TypeId) (hg : w.heap[g]? = some (.cells (l.map (Value.int .i64)).toArray t (0, 0))) (hm : l.length ≤ maxLen) (hB : g < w.heap.size) : Is w w.heap.size (.slice (some ⟨g, 0, none⟩) l.length l.length) l :=
  ⟨_, g, 0, _, rfl, fun _ => rfl, Nat.le_refl _, hm, fun k hk => ⟨hB, by
    unfold IntAt
    rw [cell_of_row w g _ _ t _ hg]
    simp [hk, List.getD_eq_getElem?_getD]⟩⟩
end Go.Proofs.YtemogllidmgbfaaGreatDoor

namespace Go.Proofs.YtemogllidmgbfaaGreatDoor
open Go.RowKit

def e6N : List Nd := [⟨0, [], 0, 0⟩, ⟨14, [3], 0, 0⟩, ⟨4, [0], 0, 0⟩, ⟨5, [1, 2], 0, 0⟩, ⟨12, [0, 2], 0, 0⟩, ⟨13, [4], 0, 0⟩]
def e6S : List ByteArray := [⟨#[97]⟩, ⟨#[113]⟩, ⟨#[110]⟩, ⟨#[103]⟩, ⟨#[116]⟩, ⟨#[98]⟩]
def E6 : Ck := ⟨e6N, e6S, [], [3, 5]⟩
theorem e6_lvl : Lvl e6N [0, 0, 1, 2, 2, 3] := by
  refine ⟨rfl, fun i hi => ?_⟩
  have : i = 0 ∨ i = 1 ∨ i = 2 ∨ i = 3 ∨ i = 4 ∨ i = 5 := by simp [e6N] at hi; omega
  rcases this with rfl | rfl | rfl | rfl | rfl | rfl <;> decide
theorem e6_shape : shapeErr E6 = 0 := by decide
theorem e6_ok : chkErr E6 = 0 := by
  unfold chkErr
  rw [if_neg (by rw [e6_shape]; simp), if_pos ⟨_, e6_lvl⟩]
/-- The text s reads as the values l. -/
def PV (s : ByteArray) (l : List Int) : Prop := s.size = l.length ∧ l.length ≤ 1000 ∧ (∀ k, k < l.length → Lg.isv (Lg.chr s k) = true ∧ Lg.vof (Lg.chr s k) = l.getD k 0)
/-- The values l have the text s. -/
def TV (s : ByteArray) (l : List Int) : Prop := strOfNums (l.map Lg.tch) = s ∧ l.length ≤ 1000 ∧ ∀ k, k < l.length → 0 ≤ l.getD k 0
/-- One row of the chapter's table. -/
structure Row6 (sI sS sN sO sX : ByteArray) (pin pst nets : List Int) : Prop where
  i : PV sI pin
  s : PV sS pst
  f : Fits E6 pin pst
  n : ∀ out, Net e6N (baseV 6 [0] [1] pin pst) out → out = nets
  l : nets.length = 6
  tn : TV sN nets
  tz : TV sO (outV E6 nets)
  tx : TV sX (nextV E6 nets)
theorem e6_net {base nets out : List Int} (h : Net e6N base nets) (h' : Net e6N base out) : out = nets :=
  Net.same (wf_of_shape e6_shape) e6_lvl h' h (fun _ _ _ => rfl)
theorem six_of {p : Nat → Prop} (h0 : p 0) (h1 : p 1) (h2 : p 2) (h3 : p 3) (h4 : p 4) (h5 : p 5) (i : Nat) (hi : i < 6) : p i := by
  have : i = 0 ∨ i = 1 ∨ i = 2 ∨ i = 3 ∨ i = 4 ∨ i = 5 := by omega
  rcases this with rfl | rfl | rfl | rfl | rfl | rfl <;> assumption
theorem tv_of {s : ByteArray} {l : List Int} (h : strOfNums (l.map Lg.tch) = s) (hl : l.length ≤ 1000) (hp : ∀ x ∈ l, 0 ≤ x) : TV s l :=
  ⟨h, hl, fun k hk => hp _ (by rw [List.getD_eq_getElem?_getD, List.getElem?_eq_getElem hk]; exact List.getElem_mem hk)⟩
theorem fits_one {a b : Int} (ha : 0 ≤ a ∧ a ≤ 3) (hb : 0 ≤ b ∧ b ≤ 3) : Fits E6 [a] [b] where
  mems := rfl
  li := by show 1 = (ofTo e6N [0] 6).length; decide
  ls := by show 1 = (ofTo e6N [14] 6).length; decide
  vi := fun x hx => by
    have h : x = a := by simpa using hx
    rw [h]; exact ha
  vs := fun x hx => by
    have h : x = b := by simpa using hx
    rw [h]; exact hb
theorem nine (w W : World) (o0 o1 o2 o3 o4 o5 o6 o7 o8 : Obj) (h : W = ((((((((w.alloc o0).alloc o1).alloc o2).alloc o3).alloc o4).alloc o5).alloc o6).alloc o7).alloc o8) :
    W.heap.size = w.heap.size + 9 ∧ W.heap[w.heap.size]? = some o0 ∧ W.heap[w.heap.size + 1]? = some o1 ∧ W.heap[w.heap.size + 1 + 1]? = some o2 ∧ W.heap[w.heap.size + 1 + 1 + 1]? = some o3 ∧ W.heap[w.heap.size + 1 + 1 + 1 + 1]? = some o4 ∧ W.heap[w.heap.size + 1 + 1 + 1 + 1 + 1]? = some o5 ∧ W.heap[w.heap.size + 1 + 1 + 1 + 1 + 1 + 1]? = some o6 ∧ W.heap[w.heap.size + 1 + 1 + 1 + 1 + 1 + 1 + 1]? = some o7 ∧ W.heap[w.heap.size + 1 + 1 + 1 + 1 + 1 + 1 + 1 + 1]? = some o8 ∧ Below w.heap.size w W := by
  subst h
  refine ⟨by simp, ?_, ?_, ?_, ?_, ?_, ?_, ?_, ?_, ?_, ?_⟩
  any_goals (simp only [World.alloc, Array.getElem?_push, Array.size_push, if_true] <;> (repeat' split) <;> first | rfl | omega)
  exact below_new (below_new (below_new (below_new (below_new (below_new (below_new (below_new (below_new (Below.refl _ _) _) _) _) _) _) _) _) _) _
end Go.Proofs.YtemogllidmgbfaaGreatDoor

namespace Go.Proofs.YtemogllidmgbfaaGreatDoor
open Go.RowKit

set_option maxHeartbeats 4000000 in
theorem example7_any (w : World) : Calls Tryz.prog 25 #[] w fun e w' => (∃ A0 A1 A3 c0 c1 c3, e = .returned (.agg #[.slice A0 6 c0, .slice A1 6 c1, .slice none 0 0, .slice A3 2 c3]) ∧ Cir w' w'.heap.size (.agg #[.slice A0 6 c0, .slice A1 6 c1, .slice none 0 0, .slice A3 2 c3]) E6) ∧ Below w.heap.size w w' := by
  go_enter Tryz.func25, Tryz.ntmps25
  go_wp2
  generalize hW : World.alloc _ _ = W
  obtain ⟨hz, h0, h1, h2, h3, h4, h5, h6, h7, h8, hb⟩ := nine w W _ _ _ _ _ _ _ _ _ hW.symm
  clear hW
  (try simp only [Exit.inBlock, Exit.then])
  refine bodyPost_ret (results_cell_row rfl _ _ _ _ _ _ _ rfl h0 Tryz.underlying46 rfl (by kernel_rfl)) rfl ?_
  refine ⟨⟨_, _, _, _, _, _, rfl, _, _, _, _, rfl, ?_, ?_, Arr.nil _ _ _ _ _, ?_⟩, hb⟩
  · refine ⟨_, w.heap.size + 1 + 1 + 1 + 1 + 1 + 1, 0, 6, rfl, fun _ => rfl, Nat.le_refl _, by simp [E6, e6N, maxLen], fun k hk => ⟨by omega, ?_⟩⟩
    have hk6 : k = 0 ∨ k = 1 ∨ k = 2 ∨ k = 3 ∨ k = 4 ∨ k = 5 := by simp [E6, e6N] at hk; omega
    unfold NdAt
    simp only [cell_of_row W _ _ _ _ _ h6]
    rcases hk6 with rfl | rfl | rfl | rfl | rfl | rfl
    · exact ⟨_, rfl, rfl, rfl, rfl, Arr.nil _ _ _ _ _, by decide, by decide⟩
    · exact ⟨_, rfl, rfl, rfl, rfl, is_of (l := [3]) _ h1 (by simp [maxLen]) (by omega), by decide, by decide⟩
    · exact ⟨_, rfl, rfl, rfl, rfl, is_of (l := [0]) _ h2 (by simp [maxLen]) (by omega), by decide, by decide⟩
    · exact ⟨_, rfl, rfl, rfl, rfl, is_of (l := [1, 2]) _ h3 (by simp [maxLen]) (by omega), by decide, by decide⟩
    · exact ⟨_, rfl, rfl, rfl, rfl, is_of (l := [0, 2]) _ h4 (by simp [maxLen]) (by omega), by decide, by decide⟩
    · exact ⟨_, rfl, rfl, rfl, rfl, is_of (l := [4]) _ h5 (by simp [maxLen]) (by omega), by decide, by decide⟩
  · refine ⟨_, w.heap.size + 1 + 1 + 1 + 1 + 1 + 1 + 1, 0, 6, rfl, fun _ => rfl, Nat.le_refl _, by simp [E6, e6S, maxLen], fun k hk => ⟨by omega, ?_⟩⟩
    have hk6 : k = 0 ∨ k = 1 ∨ k = 2 ∨ k = 3 ∨ k = 4 ∨ k = 5 := by simp [E6, e6S] at hk; omega
    unfold StrAt
    simp only [cell_of_row W _ _ _ _ _ h7]
    rcases hk6 with rfl | rfl | rfl | rfl | rfl | rfl <;> exact ⟨rfl, by decide⟩
  · exact is_of (l := [3, 5]) _ h8 (by simp [maxLen]) (by omega)
end Go.Proofs.YtemogllidmgbfaaGreatDoor
