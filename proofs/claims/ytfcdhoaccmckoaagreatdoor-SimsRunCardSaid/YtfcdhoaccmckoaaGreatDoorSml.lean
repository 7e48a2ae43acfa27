/- Layer 6's lives: the chapter's examples. -/
import Derived.Test.YtfcdhoaccmckoaaGreatDoorSmb
import Derived.Test.YtfcdhoaccmckoaaGreatDoorLgEvalw
import Derived.Test.YtfcdhoaccmckoaaGreatDoorExp
import Derived.Test.YtfcdhoaccmckoaaGreatDoorSmc
import Derived.Test.YtfcdhoaccmckoaaGreatDoorSme
namespace Go.Proofs.YtfcdhoaccmckoaaGreatDoor
open Go.RowKit

def e6N : List Nd := [⟨0, [], 0, 0⟩, ⟨14, [3], 0, 0⟩, ⟨4, [0], 0, 0⟩, ⟨5, [1, 2], 0, 0⟩, ⟨12, [0, 2], 0, 0⟩, ⟨13, [4], 0, 0⟩]
def e6S : List ByteArray := [⟨#[97]⟩, ⟨#[113]⟩, ⟨#[110]⟩, ⟨#[103]⟩, ⟨#[116]⟩, ⟨#[98]⟩]
def E6 : Ck := ⟨e6N, e6S, [], [3, 5]⟩
theorem e6_lvl : Lvl e6N [0, 0, 1, 2, 2, 3] := by
  refine ⟨rfl, fun i hi => ?_⟩
  have : i = 0 ∨ i = 1 ∨ i = 2 ∨ i = 3 ∨ i = 4 ∨ i = 5 := by simp [e6N] at hi; omega
  rcases this with rfl | rfl | rfl | rfl | rfl | rfl <;> decide
theorem e6_shape : shapeErr E6 = 0 := by decide
theorem e6_ok : chkErr E6 = 0 := by
  unfold chkErr
  rw [if_neg (by rw [e6_shape]; simp), if_pos ⟨_, e6_lvl⟩]
theorem e6_ins : ofTo e6N [0] 6 = [0] := by decide
theorem e6_sts : ofTo e6N [14] 6 = [1] := by decide
/-- The text s reads as the values l. -/
def PV (s : ByteArray) (l : List Int) : Prop := s.size = l.length ∧ l.length ≤ 1000 ∧ (∀ k, k < l.length → Lg.isv (Lg.chr s k) = true ∧ Lg.vof (Lg.chr s k) = l.getD k 0)
/-- The values l have the text s. -/
def TV (s : ByteArray) (l : List Int) : Prop := strOfNums (l.map Lg.tch) = s ∧ l.length ≤ 1000 ∧ ∀ k, k < l.length → 0 ≤ l.getD k 0
/-- One row of the chapter's table. -/
structure Row6 (sI sS sN sO sX : ByteArray) (pin pst nets : List Int) : Prop where
  i : PV sI pin
  s : PV sS pst
  f : Fits E6 pin pst
  n : ∀ out, Net e6N (baseV 6 [0] [1] pin pst) out → out = nets
  l : nets.length = 6
  tn : TV sN nets
  tz : TV sO (outV E6 nets)
  tx : TV sX (nextV E6 nets)
theorem e6_net {base nets out : List Int} (h : Net e6N base nets) (h' : Net e6N base out) : out = nets :=
  Net.same (wf_of_shape e6_shape) e6_lvl h' h (fun _ _ _ => rfl)
theorem six_of {p : Nat → Prop} (h0 : p 0) (h1 : p 1) (h2 : p 2) (h3 : p 3) (h4 : p 4) (h5 : p 5) (i : Nat) (hi : i < 6) : p i := by
  have : i = 0 ∨ i = 1 ∨ i = 2 ∨ i = 3 ∨ i = 4 ∨ i = 5 := by omega
  rcases this with rfl | rfl | rfl | rfl | rfl | rfl <;> assumption
theorem pv_one {b : UInt8} {v : Int} (h : Lg.isv (Lg.chr ⟨#[b]⟩ 0) = true ∧ Lg.vof (Lg.chr ⟨#[b]⟩ 0) = v) : PV ⟨#[b]⟩ [v] :=
  ⟨rfl, by simp, fun k hk => by
    have : k = 0 := by simp at hk; exact hk
    subst this; exact h⟩
theorem tv_of {s : ByteArray} {l : List Int} (h : strOfNums (l.map Lg.tch) = s) (hl : l.length ≤ 1000) (hp : ∀ x ∈ l, 0 ≤ x) : TV s l :=
  ⟨h, hl, fun k hk => hp _ (by rw [List.getD_eq_getElem?_getD, List.getElem?_eq_getElem hk]; exact List.getElem_mem hk)⟩
theorem fits_one {a b : Int} (ha : 0 ≤ a ∧ a ≤ 3) (hb : 0 ≤ b ∧ b ≤ 3) : Fits E6 [a] [b] where
  mems := rfl
  li := by show 1 = (ofTo e6N [0] 6).length; decide
  ls := by show 1 = (ofTo e6N [14] 6).length; decide
  vi := fun x hx => by
    have h : x = a := by simpa using hx
    rw [h]; exact ha
  vs := fun x hx => by
    have h : x = b := by simpa using hx
    rw [h]; exact hb
theorem row6_0 : Row6 ⟨#[48]⟩ ⟨#[49]⟩ ⟨#[48, 49, 49, 49, 90, 90]⟩ ⟨#[49, 90]⟩ ⟨#[49]⟩ [0] [1] [0, 1, 1, 1, 3, 3] where
  i := pv_one (by decide)
  s := pv_one (by decide)
  f := fits_one (by decide) (by decide)
  n := fun out h => e6_net ⟨rfl, six_of (by decide) (by decide) (by decide) (by decide) (by decide) (by decide)⟩ h
  l := rfl
  tn := tv_of rfl (by decide) (by decide)
  tz := tv_of rfl (by decide) (by decide)
  tx := tv_of rfl (by decide) (by decide)
theorem row6_1 : Row6 ⟨#[49]⟩ ⟨#[88]⟩ ⟨#[49, 88, 48, 48, 48, 48]⟩ ⟨#[48, 48]⟩ ⟨#[48]⟩ [1] [2] [1, 2, 0, 0, 0, 0] where
  i := pv_one (by decide)
  s := pv_one (by decide)
  f := fits_one (by decide) (by decide)
  n := fun out h => e6_net ⟨rfl, six_of (by decide) (by decide) (by decide) (by decide) (by decide) (by decide)⟩ h
  l := rfl
  tn := tv_of rfl (by decide) (by decide)
  tz := tv_of rfl (by decide) (by decide)
  tx := tv_of rfl (by decide) (by decide)
theorem row6_2 : Row6 ⟨#[88]⟩ ⟨#[49]⟩ ⟨#[88, 49, 88, 88, 88, 88]⟩ ⟨#[88, 88]⟩ ⟨#[88]⟩ [2] [1] [2, 1, 2, 2, 2, 2] where
  i := pv_one (by decide)
  s := pv_one (by decide)
  f := fits_one (by decide) (by decide)
  n := fun out h => e6_net ⟨rfl, six_of (by decide) (by decide) (by decide) (by decide) (by decide) (by decide)⟩ h
  l := rfl
  tn := tv_of rfl (by decide) (by decide)
  tz := tv_of rfl (by decide) (by decide)
  tx := tv_of rfl (by decide) (by decide)
theorem e6_obs : TV ⟨#[49, 88]⟩ (outV E6 [1, 0, 3, 1, 3]) ∧ TV ⟨#[49]⟩ (nextV E6 [1, 0, 3, 1, 3]) := ⟨tv_of rfl (by decide) (by decide), tv_of rfl (by decide) (by decide)⟩

theorem nine (w W : World) (o0 o1 o2 o3 o4 o5 o6 o7 o8 : Obj) (h : W = ((((((((w.alloc o0).alloc o1).alloc o2).alloc o3).alloc o4).alloc o5).alloc o6).alloc o7).alloc o8) :
    W.heap.size = w.heap.size + 9 ∧ W.heap[w.heap.size]? = some o0 ∧ W.heap[w.heap.size + 1]? = some o1 ∧ W.heap[w.heap.size + 1 + 1]? = some o2 ∧ W.heap[w.heap.size + 1 + 1 + 1]? = some o3 ∧ W.heap[w.heap.size + 1 + 1 + 1 + 1]? = some o4 ∧ W.heap[w.heap.size + 1 + 1 + 1 + 1 + 1]? = some o5 ∧ W.heap[w.heap.size + 1 + 1 + 1 + 1 + 1 + 1]? = some o6 ∧ W.heap[w.heap.size + 1 + 1 + 1 + 1 + 1 + 1 + 1]? = some o7 ∧ W.heap[w.heap.size + 1 + 1 + 1 + 1 + 1 + 1 + 1 + 1]? = some o8 ∧ Below w.heap.size w W := by
  subst h
  refine ⟨by simp, ?_, ?_, ?_, ?_, ?_, ?_, ?_, ?_, ?_, ?_⟩
  any_goals (simp only [World.alloc, Array.getElem?_push, Array.size_push, if_true] <;> (repeat' split) <;> first | rfl | omega)
  exact below_new (below_new (below_new (below_new (below_new (below_new (below_new (below_new (below_new (Below.refl _ _) _) _) _) _) _) _) _) _) _
set_option maxHeartbeats 4000000 in
theorem example6_any (w : World) : Calls Tryz.prog 36 #[] w fun e w' => (∃ A0 A1 A3 c0 c1 c3, e = .returned (.agg #[.slice A0 6 c0, .slice A1 6 c1, .slice none 0 0, .slice A3 2 c3]) ∧ Cir w' w'.heap.size (.agg #[.slice A0 6 c0, .slice A1 6 c1, .slice none 0 0, .slice A3 2 c3]) E6) ∧ Below w.heap.size w w' := by
  go_enter Tryz.func36, Tryz.ntmps36
  go_wp2
  generalize hW : World.alloc _ _ = W
  obtain ⟨hz, h0, h1, h2, h3, h4, h5, h6, h7, h8, hb⟩ := nine w W _ _ _ _ _ _ _ _ _ hW.symm
  clear hW
  (try simp only [Exit.inBlock, Exit.then])
  refine bodyPost_ret (results_cell_row rfl _ _ _ _ _ _ _ rfl h0 Tryz.underlying35 rfl (by kernel_rfl)) rfl ?_
  refine ⟨⟨_, _, _, _, _, _, rfl, _, _, _, _, rfl, ?_, ?_, Arr.nil _ _ _ _ _, ?_⟩, hb⟩
  · refine ⟨_, w.heap.size + 1 + 1 + 1 + 1 + 1 + 1, 0, 6, rfl, fun _ => rfl, Nat.le_refl _, by simp [E6, e6N, maxLen], fun k hk => ⟨by omega, ?_⟩⟩
    have hk6 : k = 0 ∨ k = 1 ∨ k = 2 ∨ k = 3 ∨ k = 4 ∨ k = 5 := by simp [E6, e6N] at hk; omega
    unfold NdAt
    simp only [cell_of_row W _ _ _ _ _ h6]
    rcases hk6 with rfl | rfl | rfl | rfl | rfl | rfl
    · exact ⟨_, rfl, rfl, rfl, rfl, Arr.nil _ _ _ _ _, by decide, by decide⟩
    · exact ⟨_, rfl, rfl, rfl, rfl, is_of (l := [3]) _ h1 (by simp [maxLen]) (by omega), by decide, by decide⟩
    · exact ⟨_, rfl, rfl, rfl, rfl, is_of (l := [0]) _ h2 (by simp [maxLen]) (by omega), by decide, by decide⟩
    · exact ⟨_, rfl, rfl, rfl, rfl, is_of (l := [1, 2]) _ h3 (by simp [maxLen]) (by omega), by decide, by decide⟩
    · exact ⟨_, rfl, rfl, rfl, rfl, is_of (l := [0, 2]) _ h4 (by simp [maxLen]) (by omega), by decide, by decide⟩
    · exact ⟨_, rfl, rfl, rfl, rfl, is_of (l := [4]) _ h5 (by simp [maxLen]) (by omega), by decide, by decide⟩
  · refine ⟨_, w.heap.size + 1 + 1 + 1 + 1 + 1 + 1 + 1, 0, 6, rfl, fun _ => rfl, Nat.le_refl _, by simp [E6, e6S, maxLen], fun k hk => ⟨by omega, ?_⟩⟩
    have hk6 : k = 0 ∨ k = 1 ∨ k = 2 ∨ k = 3 ∨ k = 4 ∨ k = 5 := by simp [E6, e6S] at hk; omega
    unfold StrAt
    simp only [cell_of_row W _ _ _ _ _ h7]
    rcases hk6 with rfl | rfl | rfl | rfl | rfl | rfl <;> exact ⟨rfl, by decide⟩
  · exact is_of (l := [3, 5]) _ h8 (by simp [maxLen]) (by omega)
end Go.Proofs.YtfcdhoaccmckoaaGreatDoor

namespace Go.Proofs.YtfcdhoaccmckoaaGreatDoor
open Go.RowKit

theorem text_vr {W : World} {g : Nat} {s : ByteArray} {l : List Int} (h : VRow W g l) (ht : TV s l) (hT : Lg.Tabs W) :
    Calls Tryz.prog 38 #[.slice (some ⟨g, 0, none⟩) l.length l.length] W fun e w' => e = .returned (.string s) ∧ BelW W w' := by
  have h1 := Lg.text_any (Nat.le_refl _) h.ks.vs ht.2.1 ht.2.2 hT
  rw [ht.1] at h1
  exact h1
theorem parse_vr {W : World} {s : ByteArray} {l : List Int} (hp : PV s l) (hT : Lg.Tabs W) :
    Calls Tryz.prog 37 #[.string s] W fun e w' => ∃ g, e = .returned (.tuple #[.slice (some ⟨g, 0, none⟩) l.length l.length, .int .i64 0]) ∧ VRow w' g l ∧ W.heap.size ≤ g ∧ BelW W w' := by
  obtain ⟨h1, h2, h3⟩ := hp
  refine (Lg.parse_any s W (by omega) hT).mono fun e w' ⟨hb, h⟩ => ?_
  rcases h with ⟨-, he, ho⟩ | ⟨⟨k, hk, hbad⟩, -⟩
  · rw [h1] at he ho
    refine ⟨W.heap.size, he, ?_, Nat.le_refl _, hb⟩
    refine VRow.of (B := W.heap.size) (n := l.length) ?_ rfl
    have e2 : fillL (fun j => Value.int .u8 (Lg.vof (Lg.chr s j))) (.int .u8 0) l.length l.length = l.map (Value.int .u8) := by
      apply List.ext_getElem?
      intro j
      by_cases hj : j < l.length
      · have h4 := (h3 j hj).2
        rw [fillL_get _ _ _ _ _ hj, if_pos hj, h4]; simp [hj, List.getD_eq_getElem?_getD]
      · rw [List.getElem?_eq_none (by simp [fillL_len]; omega), List.getElem?_eq_none (by simp; omega)]
    have e3 : Lg.fillL (fun j => Value.int .u8 (Lg.vof (Lg.chr s j))) (.int .u8 0) l.length l.length = l.map (Value.int .u8) := e2
    rw [← e3]; exact ho
  · have h4 := (h3 k (by omega)).1
    rw [hbad] at h4; cases h4

def t6I : List ByteArray := [⟨#[48]⟩, ⟨#[49]⟩, ⟨#[88]⟩]
def t6S : List ByteArray := [⟨#[49]⟩, ⟨#[88]⟩, ⟨#[49]⟩]
def t6N : List ByteArray := [⟨#[48, 49, 49, 49, 90, 90]⟩, ⟨#[49, 88, 48, 48, 48, 48]⟩, ⟨#[88, 49, 88, 88, 88, 88]⟩]
def t6O : List ByteArray := [⟨#[49, 90]⟩, ⟨#[48, 48]⟩, ⟨#[88, 88]⟩]
def t6X : List ByteArray := [⟨#[49]⟩, ⟨#[48]⟩, ⟨#[88]⟩]
def p6I : List (List Int) := [[0], [1], [2]]
def p6S : List (List Int) := [[1], [2], [1]]
def p6N : List (List Int) := [[0, 1, 1, 1, 3, 3], [1, 2, 0, 0, 0, 0], [2, 1, 2, 2, 2, 2]]
theorem rows6 (k : Nat) (hk : k < 3) : Row6 (t6I.getD k ByteArray.empty) (t6S.getD k ByteArray.empty) (t6N.getD k ByteArray.empty) (t6O.getD k ByteArray.empty) (t6X.getD k ByteArray.empty) (p6I.getD k []) (p6S.getD k []) (p6N.getD k []) := by
  have : k = 0 ∨ k = 1 ∨ k = 2 := by omega
  rcases this with rfl | rfl | rfl
  · exact row6_0
  · exact row6_1
  · exact row6_2
theorem str_cell {W : World} {g : Nat} {t : TypeId} {l : List ByteArray} (h : Fr W g t (l.map Value.string)) {k : Nat} (hk : k < l.length) : W.cell? ⟨g, k, none⟩ = some (.string (l.getD k ByteArray.empty)) := by
  rw [h.cell, List.getElem?_map, List.getD_eq_getElem?_getD, List.getElem?_eq_getElem hk]; rfl
theorem ks_new (w : World) (l : List Int) (t : TypeId) (hm : l.length ≤ maxLen) : Ks (w.alloc (.cells (l.map (Value.int .u8)).toArray t)) (w.alloc (.cells (l.map (Value.int .u8)).toArray t)).heap.size (.slice (some ⟨w.heap.size, 0, none⟩) l.length l.length) l :=
  ⟨_, w.heap.size, 0, _, rfl, fun _ => rfl, Nat.le_refl _, hm, fun k hk => ⟨by simp, by
    unfold U8At
    rw [cell_of_row _ w.heap.size _ _ t _ (heap_alloc_new _ _)]
    simp [hk, List.getD_eq_getElem?_getD]⟩⟩
theorem e6_cfl : cflV E6 [0, 0, 0, 0, 0, 0] = [] := by decide
theorem e6_ol : (outV E6 [1, 0, 3, 1, 3]).length = 2 := by decide
theorem e6_nl : (nextV E6 [1, 0, 3, 1, 3]).length = 1 := by decide
theorem ne_self (s : ByteArray) : (s.toList != s.toList) = false := by simp

set_option maxRecDepth 100000 in
set_option maxHeartbeats 16000000 in
theorem lives6_any (w : World) (hT : Lg.Tabs w) : Calls Tryz.prog 12 #[] w fun e w' => e = .returned (.bool true) ∧ Below w.heap.size w w' := by
  have HEX := Lib.hid (example6_any w)
  go_enter Tryz.func12, Tryz.ntmps12
  go_upto_region 2 with (go_at_call 36; (with_reducible refine HEX.out.mono ?_); rintro e w1 ⟨⟨A0, A1, A3, c0, c1, c3, rfl, hc⟩, hb⟩; have HC := Lib.hid hc; have HB1 := Lib.hid hb; clear hc hb)
  obtain ⟨V, HV⟩ := named (w1.alloc (.cells #[.slice A0 6 c0, .slice A1 6 c1, .slice none 0 0, .slice A3 2 c3] 35))
  have hfc : Fr V w1.heap.size 35 (#[.slice A0 6 c0, .slice A1 6 c1, .slice none 0 0, .slice A3 2 c3]).toList := by rw [HV.out]; exact Fr.made _ _ _ rfl
  have hbV : Below w1.heap.size w1 V := by rw [HV.out]; exact below_new (Below.refl _ _) _
  have hcV : Cir V V.heap.size (.agg #[.slice A0 6 c0, .slice A1 6 c1, .slice none 0 0, .slice A3 2 c3]) E6 := (HC.out.below hbV).more hbV.size
  have hwV : BelW w V := joinB HB1.out hbV
  obtain ⟨q, HQ⟩ := named w1.heap.size
  have hqV : q < V.heap.size := by rw [HQ.out, HV.out]; simp
  rw [← HQ.out] at hfc
  rw [← HV.out, ← HQ.out]
  clear hbV
  obtain ⟨VI, HVI⟩ := named (V.alloc (.cells #[.string ⟨#[48]⟩, .string ⟨#[49]⟩, .string ⟨#[88]⟩] 9))
  have hbI : Below V.heap.size V VI := by rw [HVI.out]; exact below_new (Below.refl _ _) _
  have hfI : Fr VI V.heap.size 9 (t6I.map Value.string) := by rw [HVI.out]; exact Fr.made V (t6I.map Value.string) _ rfl
  obtain ⟨VS, HVS⟩ := named (VI.alloc (.cells #[.string ⟨#[49]⟩, .string ⟨#[88]⟩, .string ⟨#[49]⟩] 9))
  have hbS : Below VI.heap.size VI VS := by rw [HVS.out]; exact below_new (Below.refl _ _) _
  have hfS : Fr VS VI.heap.size 9 (t6S.map Value.string) := by rw [HVS.out]; exact Fr.made VI (t6S.map Value.string) _ rfl
  obtain ⟨VN, HVN⟩ := named (VS.alloc (.cells #[.string ⟨#[48, 49, 49, 49, 90, 90]⟩, .string ⟨#[49, 88, 48, 48, 48, 48]⟩, .string ⟨#[88, 49, 88, 88, 88, 88]⟩] 9))
  have hbN : Below VS.heap.size VS VN := by rw [HVN.out]; exact below_new (Below.refl _ _) _
  have hfN : Fr VN VS.heap.size 9 (t6N.map Value.string) := by rw [HVN.out]; exact Fr.made VS (t6N.map Value.string) _ rfl
  obtain ⟨VO, HVO⟩ := named (VN.alloc (.cells #[.string ⟨#[49, 90]⟩, .string ⟨#[48, 48]⟩, .string ⟨#[88, 88]⟩] 9))
  have hbO : Below VN.heap.size VN VO := by rw [HVO.out]; exact below_new (Below.refl _ _) _
  have hfO : Fr VO VN.heap.size 9 (t6O.map Value.string) := by rw [HVO.out]; exact Fr.made VN (t6O.map Value.string) _ rfl
  obtain ⟨VX, HVX⟩ := named (VO.alloc (.cells #[.string ⟨#[49]⟩, .string ⟨#[48]⟩, .string ⟨#[88]⟩] 9))
  have hbX : Below VO.heap.size VO VX := by rw [HVX.out]; exact below_new (Below.refl _ _) _
  have hfX : Fr VX VO.heap.size 9 (t6X.map Value.string) := by rw [HVX.out]; exact Fr.made VO (t6X.map Value.string) _ rfl
  have hwX : BelW w VX := joinB hwV (joinB (joinB (joinB (joinB hbI hbS) hbN) hbO) hbX)
  have hVX : Below V.heap.size V VX := joinB (joinB (joinB (joinB hbI hbS) hbN) hbO) hbX
  have hFC : Fr VX q 35 (#[.slice A0 6 c0, .slice A1 6 c1, .slice none 0 0, .slice A3 2 c3]).toList := hfc.below hVX
  have hCX : Cir VX V.heap.size (.agg #[.slice A0 6 c0, .slice A1 6 c1, .slice none 0 0, .slice A3 2 c3]) E6 := hcV.below hVX
  have hFI := (((hfI.below hbS).below hbN).below hbO).below hbX
  have hFS := ((hfS.below hbN).below hbO).below hbX
  have hFN := (hfN.below hbO).below hbX
  have hFO := hfO.below hbX
  have hFX := hfX
  have hBX := hVX.size
  obtain ⟨gI, HGI⟩ := named V.heap.size
  rw [← HGI.out] at hFI
  obtain ⟨gS, HGS⟩ := named VI.heap.size
  rw [← HGS.out] at hFS
  obtain ⟨gN, HGN⟩ := named VS.heap.size
  rw [← HGN.out] at hFN
  obtain ⟨gO, HGO⟩ := named VN.heap.size
  rw [← HGO.out] at hFO
  obtain ⟨gX, HGX⟩ := named VO.heap.size
  rw [← HGX.out] at hFX
  have HK : Hid (∀ W, BelW VX W → Lg.Tabs W ∧ Cir W V.heap.size (.agg #[.slice A0 6 c0, .slice A1 6 c1, .slice none 0 0, .slice A3 2 c3]) E6 ∧ Fr W q 35 (#[.slice A0 6 c0, .slice A1 6 c1, .slice none 0 0, .slice A3 2 c3]).toList ∧ Fr W gI 9 (t6I.map Value.string) ∧ Fr W gS 9 (t6S.map Value.string) ∧ Fr W gN 9 (t6N.map Value.string) ∧ Fr W gO 9 (t6O.map Value.string) ∧ Fr W gX 9 (t6X.map Value.string)) :=
    Lib.hid fun W h => ⟨hT.below (joinB hwX h), hCX.below (h.mono hBX), hFC.below h, hFI.below h, hFS.below h, hFN.below h, hFO.below h, hFX.below h⟩
  have HCW : Hid (∀ W, BelW VX W → W.cell? ⟨q, 0, none⟩ = some (.slice A0 6 c0) ∧ W.cell? ⟨q, 1, none⟩ = some (.slice A1 6 c1) ∧ W.cell? ⟨q, 2, none⟩ = some (.slice none 0 0) ∧ W.cell? ⟨q, 3, none⟩ = some (.slice A3 2 c3)) :=
    Lib.hid fun W h => have f := (HK.out W h).2.2.1; ⟨f.cell 0, f.cell 1, f.cell 2, f.cell 3⟩
  have hVX2 : ∀ W, BelW VX W → V.heap.size ≤ W.heap.size := fun W h => Nat.le_trans hBX (Below.size h)
  have HRUN : Hid (∀ W gp gs pin pst, BelW VX W → VRow W gp pin → VRow W gs pst → Fits E6 pin pst → Calls Tryz.prog 6 #[.agg #[.slice A0 6 c0, .slice A1 6 c1, .slice none 0 0, .slice A3 2 c3], .agg #[.slice (some ⟨gp, 0, none⟩) pin.length pin.length, .slice (some ⟨gs, 0, none⟩) pst.length pst.length]] W (RunPost E6 pin pst W)) :=
    Lib.hid fun W gp gs pin pst h h1 h2 hf => run_ok E6 pin pst A0 A1 none A3 _ _ c0 c1 0 c3 _ _ W W.heap.size (Nat.le_refl _) (HK.out W h).1 ((HK.out W h).2.1.more (hVX2 W h)) h1.ks h2.ks (by decide) (by decide) e6_ok hf
  have HRB : Hid (∀ W, BelW VX W → Calls Tryz.prog 6 #[.agg #[.slice A0 6 c0, .slice A1 6 c1, .slice none 0 0, .slice A3 2 c3], .agg #[.slice none 0 0, .slice none 0 0]] W fun e w' => e = .returned (.tuple #[.agg #[.slice none 0 0, .slice none 0 0], .slice none 0 0, .int .i64 8]) ∧ BelW W w') :=
    Lib.hid fun W h => run_bad E6 8 (by decide) A0 A1 none A3 none none 6 6 0 2 0 0 c0 c1 0 c3 0 0 W (.inr ⟨fun W2 h2 => by
      refine (order_any E6 _ W2 W2.heap.size (Nat.le_refl _) (tabs_lg (HK.out W2 (joinB h h2)).1) ((HK.out W2 (joinB h h2)).2.1.more (hVX2 W2 (joinB h h2))) (by decide)).mono fun e w' ⟨h3, h4⟩ => ?_
      rcases h4 with ⟨-, -, L, R, d, -, -, -, -, he, -⟩ | ⟨hne, -⟩
      · exact ⟨⟨_, he⟩, h3⟩
      · exact absurd e6_ok hne, fun W2 h2 => cpat_width E6 [] [] A0 A1 none A3 none none c0 c1 0 c3 0 0 W2 W2.heap.size (Nat.le_refl _) ((HK.out W2 (joinB h h2)).2.1.more (hVX2 W2 (joinB h h2))) (Arr.nil _ _ _ _ _) (Arr.nil _ _ _ _ _) (by decide) rfl (by decide)⟩)
  have HOB : Hid (∀ W g l m, BelW VX W → Ks W W.heap.size (.slice (some ⟨g, 0, none⟩) m m) l → Calls Tryz.prog 9 #[.agg #[.slice A0 6 c0, .slice A1 6 c1, .slice none 0 0, .slice A3 2 c3], .slice (some ⟨g, 0, none⟩) m m] W (RespPost (outV E6 l) (nextV E6 l) W)) :=
    Lib.hid fun W g l m h h1 => observe_any E6 l A0 A1 none A3 _ c0 c1 0 c3 _ _ W W.heap.size (Nat.le_refl _) ((HK.out W h).2.1.more (hVX2 W h)) h1 (by decide) (by decide)
  have HCO : Hid (∀ W g l m, BelW VX W → Ks W W.heap.size (.slice (some ⟨g, 0, none⟩) m m) l → Calls Tryz.prog 39 #[.agg #[.slice A0 6 c0, .slice A1 6 c1, .slice none 0 0, .slice A3 2 c3], .slice (some ⟨g, 0, none⟩) m m] W (OfPost (cflV E6 l) W)) :=
    Lib.hid fun W g l m h h1 => conflicts_any E6 l A0 A1 none A3 _ c0 c1 0 c3 _ _ W W.heap.size (Nat.le_refl _) ((HK.out W h).2.1.more (hVX2 W h)) h1 (by decide) (by decide)
  have HWX := Lib.hid hwX
  clear hT hfc hcV hwV hfI hfS hfN hfO hfX hVX hFC hCX hFI hFS hFN hFO hFX hwX hVX2
  have zI : VI.heap.size = V.heap.size + 1 := by rw [HVI.out]; simp
  have zS : VS.heap.size = VI.heap.size + 1 := by rw [HVS.out]; simp
  have zN : VN.heap.size = VS.heap.size + 1 := by rw [HVN.out]; simp
  have zO : VO.heap.size = VN.heap.size + 1 := by rw [HVO.out]; simp
  have eS : gS = gI + 1 := by rw [HGS.out, HGI.out]; omega
  have eN : gN = gI + 1 + 1 := by rw [HGN.out, HGI.out]; omega
  have eO : gO = gI + 1 + 1 + 1 := by rw [HGO.out, HGI.out]; omega
  have eX : gX = gI + 1 + 1 + 1 + 1 := by rw [HGX.out, HGI.out]; omega
  clear hbI hbS hbN hbO hbX zI zS zN zO HGS HGN HGO HGX
  subst eS eN eO eX
  go_wp2
  rw [← HVI.out, ← HVS.out, ← HVN.out, ← HVO.out, ← HVX.out, ← HGI.out]
  go_loopw [7] (fun i wr => BelW VX wr ∧ ∃ k : Nat, k ≤ 3 ∧ i = .int .i64 k) (fun i _ => 3 - (intOf i).toNat)
  case atStart => exact ⟨Below.refl _ _, 0, by omega, rfl⟩
  case round =>
    obtain ⟨hb, k, hk, rfl⟩ := hrel
    have HBR := Lib.hid hb
    clear hb
    by_cases hlt : k < 3
    · have r6 := rows6 k hlt
      have HSTR : Hid (∀ W, BelW VX W → W.cell? ⟨gI, k, none⟩ = some (.string (t6I.getD k ByteArray.empty)) ∧ W.cell? ⟨gI + 1, k, none⟩ = some (.string (t6S.getD k ByteArray.empty)) ∧ W.cell? ⟨gI + 1 + 1, k, none⟩ = some (.string (t6N.getD k ByteArray.empty)) ∧ W.cell? ⟨gI + 1 + 1 + 1, k, none⟩ = some (.string (t6O.getD k ByteArray.empty)) ∧ W.cell? ⟨gI + 1 + 1 + 1 + 1, k, none⟩ = some (.string (t6X.getD k ByteArray.empty))) :=
        Lib.hid fun W h => have t := (HK.out W h).2.2.2; ⟨str_cell t.1 hlt, str_cell t.2.1 hlt, str_cell t.2.2.1 hlt, str_cell t.2.2.2.1 hlt, str_cell t.2.2.2.2 hlt⟩
      obtain ⟨sI, HSI⟩ := named (t6I.getD k ByteArray.empty)
      obtain ⟨sS, HSS⟩ := named (t6S.getD k ByteArray.empty)
      obtain ⟨sN, HSN⟩ := named (t6N.getD k ByteArray.empty)
      obtain ⟨sO, HSO⟩ := named (t6O.getD k ByteArray.empty)
      obtain ⟨sX, HSX⟩ := named (t6X.getD k ByteArray.empty)
      obtain ⟨pin, HPI⟩ := named (p6I.getD k [])
      obtain ⟨pst, HPS⟩ := named (p6S.getD k [])
      obtain ⟨nets, HNT⟩ := named (p6N.getD k [])
      rw [← HSI.out, ← HSS.out, ← HSN.out, ← HSO.out, ← HSX.out] at HSTR r6
      rw [← HPI.out, ← HPS.out, ← HNT.out] at r6
      have HPA : Hid (∀ W, BelW VX W → Calls Tryz.prog 37 #[.string sI] W fun e w' => ∃ g, e = .returned (.tuple #[.slice (some ⟨g, 0, none⟩) pin.length pin.length, .int .i64 0]) ∧ VRow w' g pin ∧ W.heap.size ≤ g ∧ BelW W w') := Lib.hid fun W h => parse_vr r6.i (HK.out W h).1
      have HPB : Hid (∀ W, BelW VX W → Calls Tryz.prog 37 #[.string sS] W fun e w' => ∃ g, e = .returned (.tuple #[.slice (some ⟨g, 0, none⟩) pst.length pst.length, .int .i64 0]) ∧ VRow w' g pst ∧ W.heap.size ≤ g ∧ BelW W w') := Lib.hid fun W h => parse_vr r6.s (HK.out W h).1
      have HRU : Hid (∀ W gp gs, BelW VX W → VRow W gp pin → VRow W gs pst → Calls Tryz.prog 6 #[.agg #[.slice A0 6 c0, .slice A1 6 c1, .slice none 0 0, .slice A3 2 c3], .agg #[.slice (some ⟨gp, 0, none⟩) pin.length pin.length, .slice (some ⟨gs, 0, none⟩) pst.length pst.length]] W fun e w' => ∃ g h k, e = .returned (.tuple #[.agg #[.slice (some ⟨g, 0, none⟩) (outV E6 nets).length (outV E6 nets).length, .slice (some ⟨h, 0, none⟩) (nextV E6 nets).length (nextV E6 nets).length], .slice (some ⟨k, 0, none⟩) 6 6, .int .i64 0]) ∧ VRow w' g (outV E6 nets) ∧ VRow w' h (nextV E6 nets) ∧ VRow w' k nets ∧ BelW W w') :=
        Lib.hid fun W gp gs h h1 h2 => (HRUN.out W gp gs pin pst h h1 h2 r6.f).mono fun e w' ⟨out, g, h, k, hn, he, v1, v2, v3, _, _, _, hb⟩ => by
          have ho := r6.n out (by rw [← e6_ins, ← e6_sts]; exact hn)
          subst ho
          refine ⟨g, h, k, ?_, v1, v2, v3, hb⟩
          rw [he, r6.l]
      have HTN : Hid (∀ W g, BelW VX W → VRow W g nets → Calls Tryz.prog 38 #[.slice (some ⟨g, 0, none⟩) 6 6] W fun e w' => e = .returned (.string sN) ∧ BelW W w') := Lib.hid fun W g h hv => by have := text_vr hv r6.tn (HK.out W h).1; rw [r6.l] at this; exact this
      have HTO : Hid (∀ W g, BelW VX W → VRow W g (outV E6 nets) → Calls Tryz.prog 38 #[.slice (some ⟨g, 0, none⟩) (outV E6 nets).length (outV E6 nets).length] W fun e w' => e = .returned (.string sO) ∧ BelW W w') := Lib.hid fun W g h hv => text_vr hv r6.tz (HK.out W h).1
      have HTX : Hid (∀ W g, BelW VX W → VRow W g (nextV E6 nets) → Calls Tryz.prog 38 #[.slice (some ⟨g, 0, none⟩) (nextV E6 nets).length (nextV E6 nets).length] W fun e w' => e = .returned (.string sX) ∧ BelW W w') := Lib.hid fun W g h hv => text_vr hv r6.tx (HK.out W h).1
      obtain ⟨lo, HLO⟩ := named (outV E6 nets)
      obtain ⟨ln, HLN⟩ := named (nextV E6 nets)
      rw [← HLO.out, ← HLN.out] at HRU
      rw [← HLO.out] at HTO
      rw [← HLN.out] at HTX
      clear r6
      obtain ⟨y0, y1, -, -, -⟩ := HSTR.out _ HBR.out
      go_upto_region 13 with (first
        | (go_at_call 37; (with_reducible refine (HPA.out _ HBR.out).mono ?_); rintro e w2 ⟨gp, rfl, hv, hz, hb⟩; have HB2 : Hid (BelW VX w2) := Lib.hid (joinB HBR.out hb); have HVP := Lib.hid hv; clear hv hb y0 y1; obtain ⟨y0, y1, -, -, -⟩ := HSTR.out _ HB2.out)
        | (go_at_call 37; (with_reducible refine (HPB.out _ HB2.out).mono ?_); rintro e w3 ⟨gs, rfl, hv, hz, hb⟩; have HB3 : Hid (BelW VX w3) := Lib.hid (joinB HB2.out hb); have HVS3 := Lib.hid hv; have HVP3 := Lib.hid (HVP.out.below hb); clear hv hb y0 y1; obtain ⟨x0, x1, x2, x3⟩ := HCW.out _ HB3.out)
        | (go_at_call 6; (with_reducible refine (HRU.out _ _ _ HB3.out HVP3.out HVS3.out).mono ?_); rintro e w4 ⟨g, h, kk, rfl, v1, v2, v3, hb⟩; have HB4 : Hid (BelW VX w4) := Lib.hid (joinB HB3.out hb); have HV1 := Lib.hid v1; have HV2 := Lib.hid v2; have HV3 := Lib.hid v3; clear v1 v2 v3 hb x0 x1 x2 x3))
      obtain ⟨V4, HV4⟩ := named (w4.alloc (.cells #[.slice (some ⟨g, 0, none⟩) lo.length lo.length, .slice (some ⟨h, 0, none⟩) ln.length ln.length] 42))
      have hnew : Below w4.heap.size w4 V4 := by rw [HV4.out]; exact below_new (Below.refl _ _) _
      have hfr : Fr V4 w4.heap.size 42 [.slice (some ⟨g, 0, none⟩) lo.length lo.length, .slice (some ⟨h, 0, none⟩) ln.length ln.length] := by rw [HV4.out]; exact Fr.made _ _ _ rfl
      have hb4 : BelW VX V4 := joinB HB4.out hnew
      have HB4V := Lib.hid hb4
      obtain ⟨p, HP⟩ := named w4.heap.size
      rw [← HP.out] at hfr
      rw [← HV4.out, ← HP.out]
      have c0' : ∀ xx : Beh V4, xx.x.cell? ⟨p, 0, none⟩ = some (.slice (some ⟨g, 0, none⟩) lo.length lo.length) := fun xx => (hfr.below xx.below).cell 0
      have c1' : ∀ xx : Beh V4, xx.x.cell? ⟨p, 1, none⟩ = some (.slice (some ⟨h, 0, none⟩) ln.length ln.length) := fun xx => (hfr.below xx.below).cell 1
      have s2 : ∀ xx : Beh V4, xx.x.cell? ⟨gI + 1 + 1, k, none⟩ = some (.string sN) := fun xx => (HSTR.out _ (joinB hb4 xx.below)).2.2.1
      have s3 : ∀ xx : Beh V4, xx.x.cell? ⟨gI + 1 + 1 + 1, k, none⟩ = some (.string sO) := fun xx => (HSTR.out _ (joinB hb4 xx.below)).2.2.2.1
      have s4 : ∀ xx : Beh V4, xx.x.cell? ⟨gI + 1 + 1 + 1 + 1, k, none⟩ = some (.string sX) := fun xx => (HSTR.out _ (joinB hb4 xx.below)).2.2.2.2
      have HT1 : Hid (∀ xx : Beh V4, Calls Tryz.prog 38 #[.slice (some ⟨kk, 0, none⟩) 6 6] xx.x fun e w' => e = .returned (.string sN) ∧ Below V4.heap.size V4 w') := Lib.hid fun xx => (HTN.out _ _ (joinB hb4 xx.below) ((HV3.out.below hnew).below xx.below)).mono fun e w' ⟨he, hb⟩ => ⟨he, joinB xx.below hb⟩
      have HT2 : Hid (∀ xx : Beh V4, Calls Tryz.prog 38 #[.slice (some ⟨g, 0, none⟩) lo.length lo.length] xx.x fun e w' => e = .returned (.string sO) ∧ Below V4.heap.size V4 w') := Lib.hid fun xx => (HTO.out _ _ (joinB hb4 xx.below) ((HV1.out.below hnew).below xx.below)).mono fun e w' ⟨he, hb⟩ => ⟨he, joinB xx.below hb⟩
      have HT3 : Hid (∀ xx : Beh V4, Calls Tryz.prog 38 #[.slice (some ⟨h, 0, none⟩) ln.length ln.length] xx.x fun e w' => e = .returned (.string sX) ∧ Below V4.heap.size V4 w') := Lib.hid fun xx => (HTX.out _ _ (joinB hb4 xx.below) ((HV2.out.below hnew).below xx.below)).mono fun e w' ⟨he, hb⟩ => ⟨he, joinB xx.below hb⟩
      have q1 := ne_self sN
      have q2 := ne_self sO
      have q3 := ne_self sX
      clear hnew hfr hb4
      refine region_class (w0 := V4) (Below.refl _ _) (by kernel_rfl) (by kernel_rfl) ?_
      repeat (first
        | go_big_quiet_skip
        | (go_big_quiet_want; go_big_quiet_op; first
          | go_big_quiet_on
          | (apply Exists.intro
             refine ⟨fun xx => ?_, ?_⟩
             focus first
              | (go_at_call_of 38 kk; with_reducible exact beh_of (HT1.out xx))
              | (go_at_call_of 38 g; with_reducible exact beh_of (HT2.out xx))
              | (go_at_call_of 38 h; with_reducible exact beh_of (HT3.out xx))
             go_big_quiet_on)))
      refine wpQuiet_nil ?_
      rintro w9 ⟨⟨wz, hz9⟩, rfl⟩
      go_wp2
      go_roundw
      case rel => exact ⟨joinB HB4V.out hz9, k + 1, by omega, by go_num⟩
      case measure => simp [intOf]; omega
    · obtain rfl : k = 3 := by omega
      clear hk hlt
      obtain ⟨x0, x1, x2, x3⟩ := HCW.out _ HBR.out
      obtain ⟨W15, HW15⟩ := named (wr.alloc (.cells #[.int .u8 1, .int .u8 0, .int .u8 3, .int .u8 1, .int .u8 3] 74))
      have hn15 : Below wr.heap.size wr W15 := by rw [HW15.out]; exact below_new (Below.refl _ _) _
      have hb15 : BelW VX W15 := joinB HBR.out hn15
      have hk15 : Ks W15 W15.heap.size (.slice (some ⟨wr.heap.size, 0, none⟩) 5 5) [1, 0, 3, 1, 3] := by rw [HW15.out]; exact ks_new wr [1, 0, 3, 1, 3] _ (by decide)
      have hob : Calls Tryz.prog 9 #[.agg #[.slice A0 6 c0, .slice A1 6 c1, .slice none 0 0, .slice A3 2 c3], .slice (some ⟨wr.heap.size, 0, none⟩) 5 5] W15 fun e w' => ∃ g h, e = .returned (.agg #[.slice (some ⟨g, 0, none⟩) 2 2, .slice (some ⟨h, 0, none⟩) 1 1]) ∧ VRow w' g (outV E6 [1, 0, 3, 1, 3]) ∧ VRow w' h (nextV E6 [1, 0, 3, 1, 3]) ∧ BelW W15 w' :=
        (HOB.out W15 wr.heap.size [1, 0, 3, 1, 3] 5 hb15 hk15).mono fun e w' ⟨g, h, he, v1, v2, _, _, _, hb⟩ => ⟨g, h, by rw [he, e6_ol, e6_nl], v1, v2, hb⟩
      have HOB15 := Lib.hid hob
      have HB15 := Lib.hid hb15
      clear hn15 hb15 hk15 hob
      go_upto_region 16 with (go_at_call 9; rw [← HW15.out]; (with_reducible refine HOB15.out.mono ?_); rintro e w16 ⟨ga, gb, rfl, v1, v2, hb⟩; have HB16 : Hid (BelW VX w16) := Lib.hid (joinB HB15.out hb); have HVA := Lib.hid v1; have HVB := Lib.hid v2; clear v1 v2 hb)
      obtain ⟨V16, HV16⟩ := named (w16.alloc (.cells #[.slice (some ⟨ga, 0, none⟩) 2 2, .slice (some ⟨gb, 0, none⟩) 1 1] 42))
      have hn16 : Below w16.heap.size w16 V16 := by rw [HV16.out]; exact below_new (Below.refl _ _) _
      have hfr : Fr V16 w16.heap.size 42 [.slice (some ⟨ga, 0, none⟩) 2 2, .slice (some ⟨gb, 0, none⟩) 1 1] := by rw [HV16.out]; exact Fr.made _ _ _ rfl
      have hb16 : BelW VX V16 := joinB HB16.out hn16
      have HVA16 := Lib.hid (HVA.out.below hn16)
      have HVB16 := Lib.hid (HVB.out.below hn16)
      have HFR := Lib.hid hfr
      have HB16V := Lib.hid hb16
      have HRB16 := Lib.hid (HRB.out V16 hb16)
      obtain ⟨p, HP⟩ := named w16.heap.size
      rw [← HP.out] at HFR
      rw [← HV16.out, ← HP.out]
      clear x0 x1 x2 x3 hn16 hfr hb16
      obtain ⟨x0, x1, x2, x3⟩ := HCW.out _ HB16V.out
      go_upto_region 17 with (go_at_call 6; (with_reducible refine HRB16.out.mono ?_); rintro e w17 ⟨rfl, hb⟩; have HB17 := Lib.hid hb; clear hb)
      obtain ⟨V17, HV17⟩ := named (w17.alloc (.cells #[.slice none 0 0, .slice none 0 0] 42))
      have hn17 : Below V16.heap.size V16 V17 := by rw [HV17.out]; exact below_new HB17.out _
      rw [← HV17.out]
      have HB17V : Hid (BelW VX V17) := Lib.hid (joinB HB16V.out hn17)
      have f0 := (HFR.out.below hn17).cell 0
      have HFR17 := Lib.hid (HFR.out.below hn17)
      have ht1 := text_vr (HVA16.out.below hn17) e6_obs.1 (HK.out _ HB17V.out).1
      rw [e6_ol] at ht1
      have HT1 := Lib.hid ht1
      have HT2 : Hid (∀ W, BelW V17 W → Calls Tryz.prog 38 #[.slice (some ⟨gb, 0, none⟩) 1 1] W fun e w' => e = .returned (.string ⟨#[49]⟩) ∧ BelW W w') := Lib.hid fun W h => by
        have h2 := text_vr ((HVB16.out.below hn17).below h) e6_obs.2 (HK.out _ (joinB HB17V.out h)).1
        rw [e6_nl] at h2
        exact h2
      have HCO2 : Hid (∀ W, BelW VX W → Calls Tryz.prog 39 #[.agg #[.slice A0 6 c0, .slice A1 6 c1, .slice none 0 0, .slice A3 2 c3], .slice (some ⟨W.heap.size, 0, none⟩) 6 6] (W.alloc (.cells #[.int .u8 0, .int .u8 0, .int .u8 0, .int .u8 0, .int .u8 0, .int .u8 0] 74)) fun e w' => ∃ A, e = .returned (.slice A 0 0) ∧ BelW W w') :=
        Lib.hid fun W h => (HCO.out _ W.heap.size [0, 0, 0, 0, 0, 0] 6 (below_new h _) (ks_new W [0, 0, 0, 0, 0, 0] _ (by decide))).mono fun e w' ⟨A, he, _, hb⟩ => ⟨A, by rw [he, e6_cfl]; rfl, joinB (below_new (Below.refl _ _) _) hb⟩
      clear x0 x1 x2 x3 hn17 ht1
      go_wp2_with (first
        | (go_at_call 38; (with_reducible refine HT1.out.mono ?_); rintro e w18 ⟨rfl, hb⟩; have HB18 : Hid (BelW V17 w18) := Lib.hid hb; have f1 := (HFR17.out.below hb).cell 1; clear hb)
        | (go_at_call 38; (with_reducible refine (HT2.out _ HB18.out).mono ?_); rintro e w19 ⟨rfl, hb⟩; have HB19 : Hid (BelW VX w19) := Lib.hid (joinB HB17V.out (joinB HB18.out hb)); obtain ⟨x0, x1, x2, x3⟩ := HCW.out _ HB19.out; clear hb)
        | (go_at_call 39; (with_reducible refine (HCO2.out _ HB19.out).mono ?_); rintro e w20 ⟨A, rfl, hb⟩; have HB20 : Hid (BelW VX w20) := Lib.hid (joinB HB19.out hb); clear hb))
      go_ret
      exact ⟨rfl, joinB HWX.out HB20.out⟩
end Go.Proofs.YtfcdhoaccmckoaaGreatDoor
