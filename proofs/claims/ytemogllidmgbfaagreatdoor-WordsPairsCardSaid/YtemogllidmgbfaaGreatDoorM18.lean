/- The texts LgText Fnp Exp Sex. -/
import Derived.Test.YtemogllidmgbfaaGreatDoorM13
import Derived.Laws.BytesArg
import Derived.OwnWalk
import Derived.Test.YtemogllidmgbfaaGreatDoorM08
import Derived.Test.YtemogllidmgbfaaGreatDoorM11
import Derived.Test.YtemogllidmgbfaaGreatDoorM17
namespace Go.Proofs.YtemogllidmgbfaaGreatDoor.Lg
open Go.RowKit

def vof (c : Int) : Int := if c = 49 then 1 else if c = 88 then 2 else if c = 90 then 3 else 0
def isv (c : Int) : Bool := decide (c = 48 ∨ c = 49 ∨ c = 88 ∨ c = 90)

/-- The k-th byte of a string. -/
def chr (s : ByteArray) (k : Nat) : Int := ((s.data.toList.getD k 0).toNat : Int)
/-- A row of n cells, the first k of which are filled. -/
def fillL (f : Nat → Value) (z : Value) (n k : Nat) : List Value := (List.range n).map fun j => if j < k then f j else z
theorem fillL_len (f : Nat → Value) (z : Value) (n k : Nat) : (fillL f z n k).length = n := by simp [fillL]
theorem fillL_get (f : Nat → Value) (z : Value) (n k j : Nat) (h : j < n) : (fillL f z n k)[j]? = some (if j < k then f j else z) := by
  simp [fillL, List.getElem?_map, List.getElem?_range h]
theorem fillL_set (f : Nat → Value) (z : Value) (n k : Nat) : (fillL f z n k).set k (f k) = fillL f z n (k + 1) := by
  apply List.ext_getElem?
  intro j
  by_cases hj : j < n
  · rw [List.getElem?_set, fillL_get _ _ _ _ _ hj, fillL_get _ _ _ _ _ hj, fillL_len]
    by_cases hk : k = j
    · subst hk; simp [hj]
    · rw [if_neg hk]
      by_cases h1 : j < k
      · rw [if_pos h1, if_pos (by omega)]
      · rw [if_neg h1, if_neg (by omega)]
  · rw [List.getElem?_eq_none (by simp [fillL_len]; omega), List.getElem?_eq_none (by simp [fillL_len]; omega)]
theorem fillL_start (f : Nat → Value) (z : Value) (n : Nat) : (madeCells #[z] n).toList = fillL f z n 0 := by
  apply List.ext_getElem?
  intro j
  by_cases hj : j < n
  · rw [fillL_get _ _ _ _ _ hj]; simp [madeCells, hj, Nat.mod_one]
  · rw [List.getElem?_eq_none (by simp [madeCells]; omega), List.getElem?_eq_none (by simp [fillL_len]; omega)]

theorem info_byte : (Tryz.prog.info? 5).map (fun i => (i.zero, i.size, i.bytes)) = some (some (.int .u8 0), 1, 1) := by kernel_rfl

/-- The character of a value. -/
def tch (v : Int) : Int := charsL.getD (cln v).toNat 0

set_option maxHeartbeats 1000000 in
theorem text_any {w : World} {B : Nat} {s : Value} {l : List Int} (hB : B ≤ w.heap.size) (hs : Vs w B s l) (hsz : l.length ≤ 1000) (hpos : ∀ k, k < l.length → 0 ≤ l.getD k 0) (ht : Tabs w) :
    Calls Tryz.prog 23 #[s] w fun e w' => e = .returned (.string (strOfNums (l.map tch))) ∧ Below w.heap.size w w' := by
  obtain ⟨b, o, c, hv, hm, hc⟩ := hs
  clear hm
  obtain ⟨n, hn⟩ : ∃ n, n = l.length := ⟨_, rfl⟩
  have key : ∀ A, (0 < n → A = some ⟨b, o, none⟩) → s = .slice A n c → Calls Tryz.prog 23 #[s] w fun e w' => e = .returned (.string (strOfNums (l.map tch))) ∧ Below w.heap.size w w' := by
    intro A hA hsA
    subst hsA
    obtain ⟨y, HY⟩ := named (strOfNums (l.map tch))
    rw [← HY.out]
    obtain ⟨i0, hi, hz0, hz1, hz2⟩ := info_parts info_byte
    rw [← hn] at hsz hpos hc
    have HA := Lib.hid hA
    have HT := Lib.hid ht
    have HC := Lib.hid hc
    have HN := Lib.hid hn
    have HP := Lib.hid hpos
    have HB := Lib.hid hB
    clear ht hc hn hpos hB hA hv
    go_enter Tryz.func23, Tryz.ntmps23
    go_wp2_with (at_make; refine wpList_make_full _ rfl _ _ 37 rfl w.heap.size 5 i0 (.int .u8 0) 1 Tryz.underlying37 hi hz0 hz1 .i64 .i64 _ _ n rfl rfl rfl rfl ?b2 ?b3 ?b4 ?_)
    case b2 => rw [hz2]; omega
    case b3 => unfold maxLen; omega
    case b4 => exact Nat.le_refl _
    intro w1 hown hgr
    rw [fillL_start (fun j => .int .u8 (tch (l.getD j 0)))] at hown
    have hb1 : Below w.heap.size w w1 := (Below.refl _ _).grown hgr (Nat.le_refl _) (fun k h => by cases h)
    obtain ⟨g, hg⟩ : ∃ g, g = w.heap.size := ⟨_, rfl⟩
    rw [← hg] at hown hb1
    rw [← hg]
    have HO := Lib.hid hown
    have HBL := Lib.hid hb1
    have HG := Lib.hid hg
    clear hown hgr hb1 hz0 hz1 hz2 hi hg
    go_wp2
    go_loopw [11] (fun i wr => ∃ k : Nat, k ≤ n ∧ i = .int .i64 k ∧ Below g w wr ∧
      wr.ownsRow g 5 1 (.slice (some ⟨g, 0, none⟩) n n) n (fillL (fun j => .int .u8 (tch (l.getD j 0))) (.int .u8 0) n k)) (fun i _ => n - (intOf i).toNat)
    case atStart => exact ⟨0, Nat.zero_le _, rfl, HBL.out, HO.out⟩
    case round =>
      clear HO HBL
      obtain ⟨k, hk, rfl, hb, hown⟩ := hrel
      have HBL := Lib.hid hb
      have HO := Lib.hid hown
      clear hb hown
      by_cases hlt : k < n
      · obtain rfl := HA.out (by omega)
        have ht : Tabs wr := HT.out.below (by rw [← HG.out]; exact HBL.out)
        have hfz : wr.frozen? ⟨g, k, none⟩ = false := HO.out.frozenAt k
        have hcl : wr.cell? ⟨g, k, none⟩ = some (.int .u8 0) := by
          rw [HO.out.cellAt k (by omega), fillL_get _ _ _ _ _ hlt, if_neg (by omega)]
        have hcv : wr.cell? ⟨b, o + k, none⟩ = some (.int .u8 (l.getD k 0)) :=
          (HBL.out.cell (p := ⟨b, o + k, none⟩) (by rw [HG.out]; exact Nat.lt_of_lt_of_le (HC.out k hlt).1 HB.out)).trans (HC.out k hlt).2
        have hp := cln_cases _ (HP.out k hlt)
        have HS := Lib.hid (HO.out.stored k (.int .u8 (tch (l.getD k 0)))).1
        obtain ⟨v, hv⟩ : ∃ v, v = l.getD k 0 := ⟨_, rfl⟩
        rw [← hv] at hcv hp HS
        have HV := Lib.hid hv
        clear hv
        rcases hp with h | h | h | h
        all_goals
          obtain ⟨q, HQ⟩ := named (tch v)
          rw [← HQ.out] at HS
          obtain rfl : q = _ := HQ.out.trans (by unfold tch; rw [h]; first | done | rfl)
          have hch := ht.2.2 (cln v).toNat (by rw [h]; decide)
          rw [h] at hch
          simp only [charsL, Int.toNat_zero, Int.toNat_one, Int.reduceToNat, List.getD_cons_zero, List.getD_cons_succ] at hch
          have HT' := Lib.hid ht
          clear ht
          go_wp2_with (go_at_call 67; refine (clean_any _ _).mono ?_; rintro e w' ⟨rfl, rfl⟩; rw [h])
          go_roundw
          case rel =>
            refine ⟨k + 1, by omega, by go_num, HBL.out.setCell (Nat.le_refl g) _, ?_⟩
            have e := fillL_set (fun j => .int .u8 (tch (l.getD j 0))) (.int .u8 0) n k
            rw [← HV.out, ← HQ.out] at e
            rw [← e]; exact HS.out
          case measure => simp [intOf]; omega
      · have hkn : k = n := by omega
        subst hkn
        have hcv := run_convert_bytes_arg (P := Tryz.prog) wr 37 5 Tryz.underlying37 Tryz.underlying5 g 0 k k (l.map tch) (by rw [List.length_map, HN.out]) (fun i hi => by
          rw [Nat.zero_add, HO.out.cellAt i (by omega), fillL_get _ _ _ _ _ hi, if_pos hi]
          rw [List.getD_eq_getElem?_getD, List.getD_eq_getElem?_getD, List.getElem?_map, List.getElem?_eq_getElem (by rw [← HN.out]; exact hi)]
          rfl) 9 Tryz.underlying9
        rw [← HY.out] at hcv
        go_wp2
        go_ret
        exact ⟨rfl, by rw [← HG.out]; exact HBL.out⟩
  rcases hv with rfl | ⟨rfl, A, rfl⟩
  · exact key _ (fun _ => rfl) (by rw [hn])
  · exact key _ (fun h => absurd h (by simp [hn])) (by rw [hn]; rfl)

end Go.Proofs.YtemogllidmgbfaaGreatDoor.Lg

namespace Go.Proofs.YtemogllidmgbfaaGreatDoor
open Go.RowKit

def LnAt (w : World) (_B b p : Nat) (x : Int × Int) : Prop := w.cell? ⟨b, p, none⟩ = some (.int .i64 x.1) ∧ w.cell? ⟨b, p + 1, none⟩ = some (.int .i64 x.2)
theorem stays_ln : Stays LnAt := fun w w' B B' b p x hb hB h hk => ⟨(hk ⟨b, p, none⟩ hb).trans h.1, (hk ⟨b, p + 1, none⟩ hb).trans h.2⟩
def Lns (w : World) (B : Nat) (v : Value) (l : List (Int × Int)) : Prop := Arr (0, 0) 2 LnAt w B v l
def LnsAt (w : World) (B b p : Nat) (l : List (Int × Int)) : Prop := ∃ A, w.cell? ⟨b, p, none⟩ = some (.slice A l.length l.length) ∧ Lns w B (.slice A l.length l.length) l
theorem stays_lns : Stays LnsAt := fun w w' B B' b p x hb hB ⟨s, h, k⟩ hk => ⟨s, (hk ⟨b, p, none⟩ hb).trans h, Arr.keep stays_ln k hB hk⟩
def Fos (w : World) (B : Nat) (v : Value) (l : List (List (Int × Int))) : Prop := Arr [] 1 LnsAt w B v l
theorem Fos.keep {w w' : World} {B B' : Nat} {v : Value} {l : List (List (Int × Int))} (h : Fos w B v l) (hB : B ≤ B') (hk : ∀ q : Addr, q.block < B → w'.cell? q = w.cell? q) : Fos w' B' v l := Arr.keep stays_lns h hB hk
end Go.Proofs.YtemogllidmgbfaaGreatDoor

namespace Go.Proofs.YtemogllidmgbfaaGreatDoor
open Go.RowKit

def exN (k2 : Int) (i2 : List Int) : List Nd := [⟨0, [], 0, 0⟩, ⟨14, [3], 0, 0⟩, ⟨k2, i2, 0, 0⟩, ⟨5, [1, 2], 0, 0⟩]
def exS (b : UInt8) : List ByteArray := [⟨#[97]⟩, ⟨#[113]⟩, ⟨#[b]⟩, ⟨#[103]⟩]
def Ex : Ck := ⟨exN 4 [0], exS 110, [], [3]⟩
theorem is_of {w : World} {g : Nat} {l : List Int} (t : TypeId) (hg : w.heap[g]? = some (.cells (l.map (Value.int .i64)).toArray t (0, 0))) (hm : l.length ≤ maxLen) (hB : g < w.heap.size) : Is w w.heap.size (.slice (some ⟨g, 0, none⟩) l.length l.length) l :=
  ⟨_, g, 0, _, rfl, fun _ => rfl, Nat.le_refl _, hm, fun k hk => ⟨hB, by
    unfold IntAt
    rw [cell_of_row w g _ _ t _ hg]
    simp [hk, List.getD_eq_getElem?_getD]⟩⟩
end Go.Proofs.YtemogllidmgbfaaGreatDoor

namespace Go.Proofs.YtemogllidmgbfaaGreatDoor
open Go.RowKit

def e6N : List Nd := [⟨0, [], 0, 0⟩, ⟨14, [3], 0, 0⟩, ⟨4, [0], 0, 0⟩, ⟨5, [1, 2], 0, 0⟩, ⟨12, [0, 2], 0, 0⟩, ⟨13, [4], 0, 0⟩]
def e6S : List ByteArray := [⟨#[97]⟩, ⟨#[113]⟩, ⟨#[110]⟩, ⟨#[103]⟩, ⟨#[116]⟩, ⟨#[98]⟩]
def E6 : Ck := ⟨e6N, e6S, [], [3, 5]⟩
theorem e6_lvl : Lvl e6N [0, 0, 1, 2, 2, 3] := by
  refine ⟨rfl, fun i hi => ?_⟩
  have : i = 0 ∨ i = 1 ∨ i = 2 ∨ i = 3 ∨ i = 4 ∨ i = 5 := by simp [e6N] at hi; omega
  rcases this with rfl | rfl | rfl | rfl | rfl | rfl <;> decide
theorem e6_shape : shapeErr E6 = 0 := by decide
theorem e6_ok : chkErr E6 = 0 := by
  unfold chkErr
  rw [if_neg (by rw [e6_shape]; simp), if_pos ⟨_, e6_lvl⟩]
/-- The text s reads as the values l. -/
def PV (s : ByteArray) (l : List Int) : Prop := s.size = l.length ∧ l.length ≤ 1000 ∧ (∀ k, k < l.length → Lg.isv (Lg.chr s k) = true ∧ Lg.vof (Lg.chr s k) = l.getD k 0)
/-- The values l have the text s. -/
def TV (s : ByteArray) (l : List Int) : Prop := strOfNums (l.map Lg.tch) = s ∧ l.length ≤ 1000 ∧ ∀ k, k < l.length → 0 ≤ l.getD k 0
/-- One row of the chapter's table. -/
structure Row6 (sI sS sN sO sX : ByteArray) (pin pst nets : List Int) : Prop where
  i : PV sI pin
  s : PV sS pst
  f : Fits E6 pin pst
  n : ∀ out, Net e6N (baseV 6 [0] [1] pin pst) out → out = nets
  l : nets.length = 6
  tn : TV sN nets
  tz : TV sO (outV E6 nets)
  tx : TV sX (nextV E6 nets)
theorem e6_net {base nets out : List Int} (h : Net e6N base nets) (h' : Net e6N base out) : out = nets :=
  Net.same (wf_of_shape e6_shape) e6_lvl h' h (fun _ _ _ => rfl)
theorem six_of {p : Nat → Prop} (h0 : p 0) (h1 : p 1) (h2 : p 2) (h3 : p 3) (h4 : p 4) (h5 : p 5) (i : Nat) (hi : i < 6) : p i := by
  have : i = 0 ∨ i = 1 ∨ i = 2 ∨ i = 3 ∨ i = 4 ∨ i = 5 := by omega
  rcases this with rfl | rfl | rfl | rfl | rfl | rfl <;> assumption
theorem tv_of {s : ByteArray} {l : List Int} (h : strOfNums (l.map Lg.tch) = s) (hl : l.length ≤ 1000) (hp : ∀ x ∈ l, 0 ≤ x) : TV s l :=
  ⟨h, hl, fun k hk => hp _ (by rw [List.getD_eq_getElem?_getD, List.getElem?_eq_getElem hk]; exact List.getElem_mem hk)⟩
theorem fits_one {a b : Int} (ha : 0 ≤ a ∧ a ≤ 3) (hb : 0 ≤ b ∧ b ≤ 3) : Fits E6 [a] [b] where
  mems := rfl
  li := by show 1 = (ofTo e6N [0] 6).length; decide
  ls := by show 1 = (ofTo e6N [14] 6).length; decide
  vi := fun x hx => by
    have h : x = a := by simpa using hx
    rw [h]; exact ha
  vs := fun x hx => by
    have h : x = b := by simpa using hx
    rw [h]; exact hb
theorem nine (w W : World) (o0 o1 o2 o3 o4 o5 o6 o7 o8 : Obj) (h : W = ((((((((w.alloc o0).alloc o1).alloc o2).alloc o3).alloc o4).alloc o5).alloc o6).alloc o7).alloc o8) :
    W.heap.size = w.heap.size + 9 ∧ W.heap[w.heap.size]? = some o0 ∧ W.heap[w.heap.size + 1]? = some o1 ∧ W.heap[w.heap.size + 1 + 1]? = some o2 ∧ W.heap[w.heap.size + 1 + 1 + 1]? = some o3 ∧ W.heap[w.heap.size + 1 + 1 + 1 + 1]? = some o4 ∧ W.heap[w.heap.size + 1 + 1 + 1 + 1 + 1]? = some o5 ∧ W.heap[w.heap.size + 1 + 1 + 1 + 1 + 1 + 1]? = some o6 ∧ W.heap[w.heap.size + 1 + 1 + 1 + 1 + 1 + 1 + 1]? = some o7 ∧ W.heap[w.heap.size + 1 + 1 + 1 + 1 + 1 + 1 + 1 + 1]? = some o8 ∧ Below w.heap.size w W := by
  subst h
  refine ⟨by simp, ?_, ?_, ?_, ?_, ?_, ?_, ?_, ?_, ?_, ?_⟩
  any_goals (simp only [World.alloc, Array.getElem?_push, Array.size_push, if_true] <;> (repeat' split) <;> first | rfl | omega)
  exact below_new (below_new (below_new (below_new (below_new (below_new (below_new (below_new (below_new (Below.refl _ _) _) _) _) _) _) _) _) _) _
end Go.Proofs.YtemogllidmgbfaaGreatDoor
