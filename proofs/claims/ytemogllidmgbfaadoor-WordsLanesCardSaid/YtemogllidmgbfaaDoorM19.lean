/- The texts Sma Smb LgText Fnp Exp Sex. -/
import Derived.Test.YtemogllidmgbfaaDoorM18
import Derived.Test.YtemogllidmgbfaaDoorM14
import Derived.Laws.BytesArg
import Derived.OwnWalk
import Derived.Test.YtemogllidmgbfaaDoorM09
import Derived.Test.YtemogllidmgbfaaDoorM13
namespace Go.Proofs.YtemogllidmgbfaaDoor
open Go.RowKit

theorem results_row_tmp2 {P : Program} {fn : Func} {p t1 t2 : Tmp} {ty : TypeId} (h : fn.results = #[.cell p ty, .tmp t1, .tmp t2]) (tmps : Array Value) (w : World) (g : Nat) (t : TypeId) (cs : Array Value) (fr : Nat × Nat) (d : TypeDesc)
    (hp : tmps.getD p undef = .pointer (some ⟨g, 0, none⟩)) (hg : w.heap[g]? = some (.cells cs t fr))
    (hu : P.underlying ty = some d) (hd : (match d with | .struct _ | .array _ _ => true | _ => false) = true) (hi : (P.info? ty).map (·.size) = some cs.size) :
    (results fn tmps).run P w = .ok (.tuple #[.agg cs, tmps.getD t1 undef, tmps.getD t2 undef]) w := by
  have hp' : tmps[p]?.getD undef = .pointer (some ⟨g, 0, none⟩) := by simpa using hp
  simp [results, h, hp', asAddr, run_loadVar_row w g t ty cs fr d hg hu hd hi, Sem.run_bind, Result.andThen]

theorem hi_all (k : Int) : hi k ≤ 16 := by
  unfold hi
  split
  · decide
  · have h : ∀ i : Fin 16, spansL.getD (2 * i.val + 1) 0 ≤ 16 := by decide
    exact h ⟨k.toNat, by omega⟩
theorem tabs_lg {w : World} (h : Lg.Tabs w) : Tabs w := ⟨h.1, h.2.1⟩
theorem made_vals (n : Nat) : (madeCells #[Value.int .u8 0] n).toList = (List.replicate n (0 : Int)).map (Value.int .u8) := by
  apply List.ext_getElem?
  intro j
  by_cases hj : j < n
  · simp [madeCells, hj, Nat.mod_one]
  · rw [List.getElem?_eq_none (by simp [madeCells]; omega), List.getElem?_eq_none (by simp; omega)]
theorem gnext {w wr w' : World} {g : Nat} (h : w.grownBy wr (some g)) (hb : Below wr.heap.size wr w') : w.grownBy w' (some g) := by
  obtain ⟨h1, h2, h3, h4, h5⟩ := h
  exact ⟨hb.os.trans h1, hb.tape.trans h2, hb.output.trans h3, Nat.le_trans h4 hb.size, fun i hi hne => (hb.block i (Nat.lt_of_lt_of_le hi h4)).trans (h5 i hi hne)⟩
theorem gdrew {w wr : World} {g : Nat} (h : w.grownBy wr (some g)) : w.grownBy wr.drew (some g) := gnext h (Below.drew (Below.refl _ _))
theorem bgrown {w0 w wr : World} {g : Nat} (h : BelW w0 w) (hg : w.grownBy wr (some g)) (h0 : w0.heap.size ≤ g) : BelW w0 wr :=
  Below.grown h hg (Below.size h) (fun k e => by cases e; exact h0)
theorem Row.drewS {w : World} {d : Nat} {l : List Int} (h : Row w d l) : Row w.drew d l := h
theorem VRow.drew {w : World} {g : Nat} {l : List Int} (h : VRow w g l) : VRow w.drew g l := h

/-- What Run's loop keeps: g is the row of the nets, s the state, q the variable that names the row, d the row of the order. -/
structure RL (W1 : World) (g s q d n : Nat) (R : List Int) (cs : List Value) (out : List Int) (wr : World) : Prop where
  bel : BelW W1 wr
  row : VRow wr g out
  st : Fr wr s 93 cs
  qc : wr.cell? ⟨q, 0, none⟩ = some (.slice (some ⟨g, 0, none⟩) n n)
  ord : Row wr d R
  ne : s ≠ g ∧ q ≠ g ∧ d ≠ g
  low : W1.heap.size ≤ g
  len : out.length = n
section
variable {W1 wr w' : World} {g s q d n : Nat} {R out : List Int} {cs : List Value}
theorem RL.next (h : RL W1 g s q d n R cs out wr) (hb : Below wr.heap.size wr w') : RL W1 g s q d n R cs out w' :=
  ⟨joinB h.bel hb, h.row.below hb, h.st.below hb, (hb.cell (p := ⟨q, 0, none⟩) (cell_lt h.qc)).trans h.qc, h.ord.below hb, h.ne, h.low, h.len⟩
theorem RL.set (h : RL W1 g s q d n R cs out wr) (x : Nat) (v : Int) : RL W1 g s q d n R cs (out.set x v) (wr.setCell ⟨g, x, none⟩ (.int .u8 v)) :=
  ⟨Below.setCell h.bel h.low _, h.row.set x v, h.st.other (a := ⟨g, x, none⟩) (fun e => h.ne.1 e.symm) _, by rw [World.cell?_setCell_other _ _ _ _ (by have hne : ¬ q = g := h.ne.2.1; simp [hne])]; exact h.qc, h.ord.otherS (a := ⟨g, x, none⟩) (fun e => h.ne.2.2 e.symm) _, h.ne, h.low, by rw [List.length_set]; exact h.len⟩
theorem RL.nv (h : RL W1 g s q d n R cs out wr) : Nv wr q out := by
  refine ⟨some ⟨g, 0, none⟩, n, ?_, ?_⟩
  · rw [h.len]; exact h.qc
  · have := h.row.ks
    rw [h.len] at this ⊢
    exact this
theorem RL.drew (h : RL W1 g s q d n R cs out wr) : RL W1 g s q d n R cs out wr.drew := h.next (Below.drew (Below.refl _ _))
end
end Go.Proofs.YtemogllidmgbfaaDoor

namespace Go.Proofs.YtemogllidmgbfaaDoor
open Go.RowKit

def RunPost (c : Ck) (pin pst : List Int) (w : World) (e : Ending) (w' : World) : Prop :=
  ∃ nets g h k, Net c.nodes (baseV c.nodes.length (ofTo c.nodes [0] c.nodes.length) (ofTo c.nodes [14] c.nodes.length) pin pst) nets ∧
    e = .returned (.tuple #[.agg #[.slice (some ⟨g, 0, none⟩) (outV c nets).length (outV c nets).length, .slice (some ⟨h, 0, none⟩) (nextV c nets).length (nextV c nets).length], .slice (some ⟨k, 0, none⟩) nets.length nets.length, .int .i64 0]) ∧
    VRow w' g (outV c nets) ∧ VRow w' h (nextV c nets) ∧ VRow w' k nets ∧ w.heap.size ≤ g ∧ w.heap.size ≤ h ∧ w.heap.size ≤ k ∧ Below w.heap.size w w'

end Go.Proofs.YtemogllidmgbfaaDoor

namespace Go.Proofs.YtemogllidmgbfaaDoor.Lg
open Go.RowKit

def vof (c : Int) : Int := if c = 49 then 1 else if c = 88 then 2 else if c = 90 then 3 else 0
def isv (c : Int) : Bool := decide (c = 48 ∨ c = 49 ∨ c = 88 ∨ c = 90)

/-- The k-th byte of a string. -/
def chr (s : ByteArray) (k : Nat) : Int := ((s.data.toList.getD k 0).toNat : Int)
theorem chr_at (s : ByteArray) (k : Nat) (h : k < s.size) : ((s[k]'h).toNat : Int) = chr s k := by
  unfold chr
  rw [List.getD_eq_getElem?_getD, List.getElem?_eq_getElem (by simpa using h)]
  rfl

/-- A row of n cells, the first k of which are filled. -/
def fillL (f : Nat → Value) (z : Value) (n k : Nat) : List Value := (List.range n).map fun j => if j < k then f j else z
theorem fillL_len (f : Nat → Value) (z : Value) (n k : Nat) : (fillL f z n k).length = n := by simp [fillL]
theorem fillL_get (f : Nat → Value) (z : Value) (n k j : Nat) (h : j < n) : (fillL f z n k)[j]? = some (if j < k then f j else z) := by
  simp [fillL, List.getElem?_map, List.getElem?_range h]
theorem fillL_set (f : Nat → Value) (z : Value) (n k : Nat) : (fillL f z n k).set k (f k) = fillL f z n (k + 1) := by
  apply List.ext_getElem?
  intro j
  by_cases hj : j < n
  · rw [List.getElem?_set, fillL_get _ _ _ _ _ hj, fillL_get _ _ _ _ _ hj, fillL_len]
    by_cases hk : k = j
    · subst hk; simp [hj]
    · rw [if_neg hk]
      by_cases h1 : j < k
      · rw [if_pos h1, if_pos (by omega)]
      · rw [if_neg h1, if_neg (by omega)]
  · rw [List.getElem?_eq_none (by simp [fillL_len]; omega), List.getElem?_eq_none (by simp [fillL_len]; omega)]
theorem fillL_start (f : Nat → Value) (z : Value) (n : Nat) : (madeCells #[z] n).toList = fillL f z n 0 := by
  apply List.ext_getElem?
  intro j
  by_cases hj : j < n
  · rw [fillL_get _ _ _ _ _ hj]; simp [madeCells, hj, Nat.mod_one]
  · rw [List.getElem?_eq_none (by simp [madeCells]; omega), List.getElem?_eq_none (by simp [fillL_len]; omega)]

theorem info_value : (Tryd.prog.info? 29).map (fun i => (i.zero, i.size, i.bytes)) = some (some (.int .u8 0), 1, 1) := by kernel_rfl
theorem info_byte : (Tryd.prog.info? 5).map (fun i => (i.zero, i.size, i.bytes)) = some (some (.int .u8 0), 1, 1) := by kernel_rfl

def ParsePost (s : ByteArray) (w : World) (e : Ending) (w' : World) : Prop :=
  Below w.heap.size w w' ∧
  (((∀ k, k < s.size → isv (chr s k) = true) ∧ e = .returned (.tuple #[.slice (some ⟨w.heap.size, 0, none⟩) s.size s.size, .int .i64 0]) ∧
    w'.ownsRow w.heap.size 29 1 (.slice (some ⟨w.heap.size, 0, none⟩) s.size s.size) s.size (fillL (fun j => .int .u8 (vof (chr s j))) (.int .u8 0) s.size s.size)) ∨
   ((∃ k, k < s.size ∧ isv (chr s k) = false) ∧ e = .returned (.tuple #[.slice none 0 0, .int .i64 4])))

/-- The character of a value. -/
def tch (v : Int) : Int := charsL.getD (cln v).toNat 0

set_option maxHeartbeats 1000000 in
theorem text_any {w : World} {B : Nat} {s : Value} {l : List Int} (hB : B ≤ w.heap.size) (hs : Vs w B s l) (hsz : l.length ≤ 1000) (hpos : ∀ k, k < l.length → 0 ≤ l.getD k 0) (ht : Tabs w) :
    Calls Tryd.prog 15 #[s] w fun e w' => e = .returned (.string (strOfNums (l.map tch))) ∧ Below w.heap.size w w' := by
  obtain ⟨b, o, c, hv, hm, hc⟩ := hs
  clear hm
  obtain ⟨n, hn⟩ : ∃ n, n = l.length := ⟨_, rfl⟩
  have key : ∀ A, (0 < n → A = some ⟨b, o, none⟩) → s = .slice A n c → Calls Tryd.prog 15 #[s] w fun e w' => e = .returned (.string (strOfNums (l.map tch))) ∧ Below w.heap.size w w' := by
    intro A hA hsA
    subst hsA
    obtain ⟨y, HY⟩ := named (strOfNums (l.map tch))
    rw [← HY.out]
    obtain ⟨i0, hi, hz0, hz1, hz2⟩ := info_parts info_byte
    rw [← hn] at hsz hpos hc
    have HA := Lib.hid hA
    have HT := Lib.hid ht
    have HC := Lib.hid hc
    have HN := Lib.hid hn
    have HP := Lib.hid hpos
    have HB := Lib.hid hB
    clear ht hc hn hpos hB hA hv
    go_enter Tryd.func15, Tryd.ntmps15
    go_wp2_with (at_make; refine wpList_make_full _ rfl _ _ 66 rfl w.heap.size 5 i0 (.int .u8 0) 1 Tryd.underlying66 hi hz0 hz1 .i64 .i64 _ _ n rfl rfl rfl rfl ?b2 ?b3 ?b4 ?_)
    case b2 => rw [hz2]; omega
    case b3 => unfold maxLen; omega
    case b4 => exact Nat.le_refl _
    intro w1 hown hgr
    rw [fillL_start (fun j => .int .u8 (tch (l.getD j 0)))] at hown
    have hb1 : Below w.heap.size w w1 := (Below.refl _ _).grown hgr (Nat.le_refl _) (fun k h => by cases h)
    obtain ⟨g, hg⟩ : ∃ g, g = w.heap.size := ⟨_, rfl⟩
    rw [← hg] at hown hb1
    rw [← hg]
    have HO := Lib.hid hown
    have HBL := Lib.hid hb1
    have HG := Lib.hid hg
    clear hown hgr hb1 hz0 hz1 hz2 hi hg
    go_wp2
    go_loopw [11] (fun i wr => ∃ k : Nat, k ≤ n ∧ i = .int .i64 k ∧ Below g w wr ∧
      wr.ownsRow g 5 1 (.slice (some ⟨g, 0, none⟩) n n) n (fillL (fun j => .int .u8 (tch (l.getD j 0))) (.int .u8 0) n k)) (fun i _ => n - (intOf i).toNat)
    case atStart => exact ⟨0, Nat.zero_le _, rfl, HBL.out, HO.out⟩
    case round =>
      clear HO HBL
      obtain ⟨k, hk, rfl, hb, hown⟩ := hrel
      have HBL := Lib.hid hb
      have HO := Lib.hid hown
      clear hb hown
      by_cases hlt : k < n
      · obtain rfl := HA.out (by omega)
        have ht : Tabs wr := HT.out.below (by rw [← HG.out]; exact HBL.out)
        have hfz : wr.frozen? ⟨g, k, none⟩ = false := HO.out.frozenAt k
        have hcl : wr.cell? ⟨g, k, none⟩ = some (.int .u8 0) := by
          rw [HO.out.cellAt k (by omega), fillL_get _ _ _ _ _ hlt, if_neg (by omega)]
        have hcv : wr.cell? ⟨b, o + k, none⟩ = some (.int .u8 (l.getD k 0)) :=
          (HBL.out.cell (p := ⟨b, o + k, none⟩) (by rw [HG.out]; exact Nat.lt_of_lt_of_le (HC.out k hlt).1 HB.out)).trans (HC.out k hlt).2
        have hp := cln_cases _ (HP.out k hlt)
        have HS := Lib.hid (HO.out.stored k (.int .u8 (tch (l.getD k 0)))).1
        obtain ⟨v, hv⟩ : ∃ v, v = l.getD k 0 := ⟨_, rfl⟩
        rw [← hv] at hcv hp HS
        have HV := Lib.hid hv
        clear hv
        rcases hp with h | h | h | h
        all_goals
          obtain ⟨q, HQ⟩ := named (tch v)
          rw [← HQ.out] at HS
          obtain rfl : q = _ := HQ.out.trans (by unfold tch; rw [h]; first | done | rfl)
          have hch := ht.2.2 (cln v).toNat (by rw [h]; decide)
          rw [h] at hch
          simp only [charsL, Int.toNat_zero, Int.toNat_one, Int.reduceToNat, List.getD_cons_zero, List.getD_cons_succ] at hch
          have HT' := Lib.hid ht
          clear ht
          go_wp2_with (go_at_call 10; refine (clean_any _ _).mono ?_; rintro e w' ⟨rfl, rfl⟩; rw [h])
          go_roundw
          case rel =>
            refine ⟨k + 1, by omega, by go_num, HBL.out.setCell (Nat.le_refl g) _, ?_⟩
            have e := fillL_set (fun j => .int .u8 (tch (l.getD j 0))) (.int .u8 0) n k
            rw [← HV.out, ← HQ.out] at e
            rw [← e]; exact HS.out
          case measure => simp [intOf]; omega
      · have hkn : k = n := by omega
        subst hkn
        have hcv := run_convert_bytes_arg (P := Tryd.prog) wr 66 5 Tryd.underlying66 Tryd.underlying5 g 0 k k (l.map tch) (by rw [List.length_map, HN.out]) (fun i hi => by
          rw [Nat.zero_add, HO.out.cellAt i (by omega), fillL_get _ _ _ _ _ hi, if_pos hi]
          rw [List.getD_eq_getElem?_getD, List.getD_eq_getElem?_getD, List.getElem?_map, List.getElem?_eq_getElem (by rw [← HN.out]; exact hi)]
          rfl) 9 Tryd.underlying9
        rw [← HY.out] at hcv
        go_wp2
        go_ret
        exact ⟨rfl, by rw [← HG.out]; exact HBL.out⟩
  rcases hv with rfl | ⟨rfl, A, rfl⟩
  · exact key _ (fun _ => rfl) (by rw [hn])
  · exact key _ (fun h => absurd h (by simp [hn])) (by rw [hn]; rfl)

end Go.Proofs.YtemogllidmgbfaaDoor.Lg

namespace Go.Proofs.YtemogllidmgbfaaDoor
open Go.RowKit

def insP (i : Nat) (ins : List Int) (p : Nat) : List (Int × Int × Int) := (List.range p).map fun (k : Nat) => (ins.getD k 0, (i : Int), (k : Int))
def nodP (nodes : List Nd) (i : Nat) : List (Int × Int × Int) := (List.range i).flatMap fun k => insP k (nodes.getD k default).ins (nodes.getD k default).ins.length
def pinsAt (nodes : List Nd) (i p : Nat) : List (Int × Int × Int) := nodP nodes i ++ insP i (nodes.getD i default).ins p
theorem insP_succ (i : Nat) (ins : List Int) (p : Nat) : insP i ins (p + 1) = insP i ins p ++ [(ins.getD p 0, (i : Int), (p : Int))] := by
  simp [insP, List.range_succ]
theorem pinsAt_succ (nodes : List Nd) (i p : Nat) : pinsAt nodes i (p + 1) = pinsAt nodes i p ++ [((nodes.getD i default).ins.getD p 0, (i : Int), (p : Int))] := by
  rw [pinsAt, insP_succ, ← List.append_assoc]; rfl
theorem pinsAt_zero (nodes : List Nd) (i : Nat) : pinsAt nodes i 0 = nodP nodes i := by simp [pinsAt, insP]
theorem nodP_succ (nodes : List Nd) (i : Nat) : nodP nodes (i + 1) = pinsAt nodes i (nodes.getD i default).ins.length := by
  simp [nodP, pinsAt, List.range_succ]
theorem nodP_le (nodes : List Nd) (i : Nat) : ∀ d, (nodP nodes i).length ≤ (nodP nodes (i + d)).length
  | 0 => Nat.le_refl _
  | d + 1 => by
      refine Nat.le_trans (nodP_le nodes i d) ?_
      rw [← Nat.add_assoc, nodP_succ, pinsAt, List.length_append]; omega
theorem pinsAt_len (nodes : List Nd) {i p n : Nat} (hi : i < n) (hp : p < (nodes.getD i default).ins.length) : (pinsAt nodes i p).length < (nodP nodes n).length := by
  have h1 := nodP_le nodes (i + 1) (n - (i + 1))
  rw [show i + 1 + (n - (i + 1)) = n by omega, nodP_succ] at h1
  have h2 : (pinsAt nodes i p).length + ((nodes.getD i default).ins.length - p) = (pinsAt nodes i (nodes.getD i default).ins.length).length := by
    simp only [pinsAt, insP, List.length_append, List.length_map, List.length_range]; omega
  omega
/-- The lines of the net j. -/
def fan (l : List (Int × Int × Int)) (j : Nat) : List (Int × Int) := (l.filter fun q => q.1 == (j : Int)).map (·.2)
theorem fan_len (l : List (Int × Int × Int)) (j : Nat) : (fan l j).length ≤ l.length := by
  unfold fan; rw [List.length_map]; exact List.length_filter_le _ _
theorem fan_snoc (l : List (Int × Int × Int)) (x : Int) (y : Int × Int) (j : Nat) : fan (l ++ [(x, y)]) j = if x = (j : Int) then fan l j ++ [y] else fan l j := by
  unfold fan
  rw [List.filter_append, List.map_append]
  by_cases h : x = (j : Int)
  · simp [h]
  · simp [h]
def lnC (l : List (Int × Int)) : List Value := l.flatMap fun q => [.int .i64 q.1, .int .i64 q.2]
theorem lnC_snoc (l : List (Int × Int)) (x y : Int) : lnC (l ++ [(x, y)]) = lnC l ++ [.int .i64 x, .int .i64 y] := by simp [lnC]
theorem lnC_len : ∀ l : List (Int × Int), (lnC l).length = l.length * 2
  | [] => rfl
  | q :: r => by have := lnC_len r; simp [lnC] at this ⊢; omega
theorem lnC_get : ∀ (l : List (Int × Int)) (k : Nat), k < l.length → (lnC l)[k * 2]? = some (.int .i64 (l.getD k (0, 0)).1) ∧ (lnC l)[k * 2 + 1]? = some (.int .i64 (l.getD k (0, 0)).2)
  | [], k, h => absurd h (by simp)
  | q :: r, 0, h => by simp [lnC]
  | q :: r, k + 1, h => by
      have hr := lnC_get r k (by simpa using h)
      have e : lnC (q :: r) = [.int .i64 q.1, .int .i64 q.2] ++ lnC r := rfl
      rw [e, show (k + 1) * 2 = k * 2 + 2 by omega, show k * 2 + 2 + 1 = (k * 2 + 1) + 2 by omega]
      rw [List.getElem?_append_right (by simp), List.getElem?_append_right (by simp)]
      simpa using hr
def vat (Vs : List Value) (j : Nat) : Value := Vs.getD j (.slice none 0 0)
theorem vat_set (Vs : List Value) (j k : Nat) (v : Value) (hj : j < Vs.length) : vat (Vs.set j v) k = if k = j then v else vat Vs k := by
  unfold vat
  rw [List.getD_eq_getElem?_getD, List.getD_eq_getElem?_getD, List.getElem?_set]
  by_cases h : j = k
  · subst h; simp [hj]
  · rw [if_neg h, if_neg (fun e => h e.symm)]

/-- What a slice is behind Clip. -/
def clipV : Value → Value
  | .slice A n _ => .slice A n n
  | v => v
def clipTo (Vs : List Value) (n k : Nat) : List Value := (List.range n).map fun j => if j < k then clipV (vat Vs j) else vat Vs j
theorem clipTo_zero (Vs : List Value) (n : Nat) (h : Vs.length = n) : clipTo Vs n 0 = Vs := by
  apply List.ext_getElem?
  intro j
  by_cases hj : j < n
  · simp [clipTo, hj, vat, List.getD_eq_getElem?_getD, h]
  · simp [clipTo, hj, h]
theorem clipTo_get (Vs : List Value) (n k j : Nat) (h : j < n) : (clipTo Vs n k)[j]? = some (if j < k then clipV (vat Vs j) else vat Vs j) := by
  simp [clipTo, h]
theorem clipTo_set (Vs : List Value) (n k : Nat) : (clipTo Vs n k).set k (clipV (vat Vs k)) = clipTo Vs n (k + 1) := by
  apply List.ext_getElem?
  intro j
  rw [List.getElem?_set]
  by_cases hjn : j < n
  · rw [clipTo_get _ _ _ _ hjn, clipTo_get _ _ _ _ hjn]
    by_cases hjk : k = j
    · subst hjk
      have : k < (clipTo Vs n k).length := by simp [clipTo, hjn]
      simp [this]
    · rw [if_neg hjk]
      by_cases hl : j < k
      · rw [if_pos hl, if_pos (by omega)]
      · rw [if_neg hl, if_neg (by omega)]
  · have h1 : ¬ j < (clipTo Vs n k).length := by simp [clipTo]; omega
    simp [clipTo, hjn]
    omega
def LnAt (w : World) (_B b p : Nat) (x : Int × Int) : Prop := w.cell? ⟨b, p, none⟩ = some (.int .i64 x.1) ∧ w.cell? ⟨b, p + 1, none⟩ = some (.int .i64 x.2)
theorem stays_ln : Stays LnAt := fun w w' B B' b p x hb hB h hk => ⟨(hk ⟨b, p, none⟩ hb).trans h.1, (hk ⟨b, p + 1, none⟩ hb).trans h.2⟩
def Lns (w : World) (B : Nat) (v : Value) (l : List (Int × Int)) : Prop := Arr (0, 0) 2 LnAt w B v l
def LnsAt (w : World) (B b p : Nat) (l : List (Int × Int)) : Prop := ∃ A, w.cell? ⟨b, p, none⟩ = some (.slice A l.length l.length) ∧ Lns w B (.slice A l.length l.length) l
theorem stays_lns : Stays LnsAt := fun w w' B B' b p x hb hB ⟨s, h, k⟩ hk => ⟨s, (hk ⟨b, p, none⟩ hb).trans h, Arr.keep stays_ln k hB hk⟩
def Fos (w : World) (B : Nat) (v : Value) (l : List (List (Int × Int))) : Prop := Arr [] 1 LnsAt w B v l
theorem Fos.keep {w w' : World} {B B' : Nat} {v : Value} {l : List (List (Int × Int))} (h : Fos w B v l) (hB : B ≤ B') (hk : ∀ q : Addr, q.block < B → w'.cell? q = w.cell? q) : Fos w' B' v l := Arr.keep stays_lns h hB hk
def fanL (nodes : List Nd) : List (List (Int × Int)) := (List.range nodes.length).map (fan (nodP nodes nodes.length))
end Go.Proofs.YtemogllidmgbfaaDoor

namespace Go.Proofs.YtemogllidmgbfaaDoor
open Go.RowKit

def exN (k2 : Int) (i2 : List Int) : List Nd := [⟨0, [], 0, 0⟩, ⟨14, [3], 0, 0⟩, ⟨k2, i2, 0, 0⟩, ⟨5, [1, 2], 0, 0⟩]
def exS (b : UInt8) : List ByteArray := [⟨#[97]⟩, ⟨#[113]⟩, ⟨#[b]⟩, ⟨#[103]⟩]
def Ex : Ck := ⟨exN 4 [0], exS 110, [], [3]⟩
theorem ex_lvl {L : List Int} (h : Lvl (exN 4 [0]) L) : L = [0, 0, 1, 2] := by
  have h0 := h.2 0 (by decide)
  have h1 := h.2 1 (by decide)
  have h2 := h.2 2 (by decide)
  have h3 := h.2 3 (by decide)
  have d0 : dep (exN 4 [0]) ((0 : Nat) : Int) = [] := by decide
  have d1 : dep (exN 4 [0]) ((1 : Nat) : Int) = [] := by decide
  have d2 : dep (exN 4 [0]) ((2 : Nat) : Int) = [0] := by decide
  have d3 : dep (exN 4 [0]) ((3 : Nat) : Int) = [1, 2] := by decide
  rw [d0] at h0
  rw [d1] at h1
  rw [d2] at h2
  rw [d3] at h3
  simp only [levf, List.foldl_nil, List.foldl_cons] at h0 h1 h2 h3
  have hl : L.length = 4 := h.1
  match L, hl with
  | [a, b, c, d], _ =>
    simp [lat] at h0 h1 h2 h3
    subst h0; subst h1
    simp at h2
    subst h2
    simp at h3
    rw [h3]; decide
theorem ex_lvl_is : Lvl (exN 4 [0]) [0, 0, 1, 2] := by
  refine ⟨rfl, fun i hi => ?_⟩
  have : i = 0 ∨ i = 1 ∨ i = 2 ∨ i = 3 := by simp [exN] at hi; omega
  rcases this with rfl | rfl | rfl | rfl <;> decide
theorem ex_shape : shapeErr Ex = 0 := by decide
theorem ex_ok : chkErr Ex = 0 := by
  unfold chkErr
  rw [if_neg (by rw [ex_shape]; simp), if_pos ⟨_, ex_lvl_is⟩]
theorem ex_loop : chkErr ⟨exN 4 [3], exS 110, [], [3]⟩ = 6 := by
  unfold chkErr
  rw [if_neg (by decide), if_neg]
  rintro ⟨L, h⟩
  have h2 := h.2 2 (by decide)
  have h3 := h.2 3 (by decide)
  have d2 : dep (exN 4 [3]) ((2 : Nat) : Int) = [3] := by decide
  have d3 : dep (exN 4 [3]) ((3 : Nat) : Int) = [1, 2] := by decide
  rw [d2] at h2
  rw [d3] at h3
  have m2 := levf_mem (lv := L) (l := [3]) (x := 3) (by simp)
  have m3 := levf_mem (lv := L) (l := [1, 2]) (x := 2) (by simp)
  rw [← h2] at m2
  rw [← h3] at m3
  have e2 : lat L ((2 : Nat) : Int) = lat L 2 := rfl
  have e3 : lat L ((3 : Nat) : Int) = lat L 3 := rfl
  omega
theorem ex_bus : chkErr ⟨exN 13 [0], exS 110, [], [3]⟩ = 7 := by
  unfold chkErr
  have e : shapeErr ⟨exN 13 [0], exS 110, [], [3]⟩ = 7 := by decide
  rw [e, if_pos (by decide)]
theorem ex_named : chkErr ⟨exN 4 [0], exS 103, [], [3]⟩ = 5 := by
  unfold chkErr
  have e : shapeErr ⟨exN 4 [0], exS 103, [], [3]⟩ = 5 := by decide
  rw [e, if_pos (by decide)]
theorem ex_ord {R : List Int} (h : SortTo [0, 0, 1, 2] 4 4 R) : R = [0, 1, 2, 3] := by
  obtain ⟨S, h1, h2, -, h3, h4⟩ := h
  have hr : rng 4 4 = [] := rfl
  rw [hr, List.append_nil] at h1
  subst h1
  have key : ∀ x y : Int, 0 ≤ x → x < 4 → 0 ≤ y → y < 4 → Lex [0, 0, 1, 2] x y → x < y := by
    intro x y a b c d hx
    have hx' : x = 0 ∨ x = 1 ∨ x = 2 ∨ x = 3 := by omega
    have hy' : y = 0 ∨ y = 1 ∨ y = 2 ∨ y = 3 := by omega
    rcases hx' with rfl | rfl | rfl | rfl <;> rcases hy' with rfl | rfl | rfl | rfl <;> revert hx <;> simp [Lex, lat]
  match R, h2 with
  | [a, b, c, d], _ =>
    simp only [List.pairwise_cons, List.mem_cons, List.not_mem_nil, or_false, forall_eq_or_imp, forall_eq] at h3 h4
    obtain ⟨⟨a1, a2⟩, ⟨b1, b2⟩, ⟨c1, c2⟩, d1, d2⟩ := h4
    have k1 := key a b a1 a2 b1 b2 h3.1.1
    have k2 := key b c b1 b2 c1 c2 h3.2.1.1
    have k3 := key c d c1 c2 d1 d2 h3.2.2.1
    obtain rfl : a = 0 := by omega
    obtain rfl : b = 1 := by omega
    obtain rfl : c = 2 := by omega
    obtain rfl : d = 3 := by omega
    rfl
theorem ex_fan : fanL (exN 4 [0]) = [[(2, 0)], [(3, 0)], [(3, 1)], [(1, 0)]] := by decide
theorem ex_pins : (nodP (exN 4 [0]) (exN 4 [0]).length).length ≤ 1000000000000 := by decide
theorem ex_ins : ofTo (exN 4 [0]) [0] 4 = [0] := by decide
theorem ex_sts : ofTo (exN 4 [0]) [14] 4 = [1] := by decide

theorem seven (w W : World) (o0 o1 o2 o3 o4 o5 o6 : Obj) (h : W = ((((((w.alloc o0).alloc o1).alloc o2).alloc o3).alloc o4).alloc o5).alloc o6) :
    W.heap.size = w.heap.size + 7 ∧ W.heap[w.heap.size]? = some o0 ∧ W.heap[w.heap.size + 1]? = some o1 ∧ W.heap[w.heap.size + 1 + 1]? = some o2 ∧ W.heap[w.heap.size + 1 + 1 + 1]? = some o3 ∧ W.heap[w.heap.size + 1 + 1 + 1 + 1]? = some o4 ∧ W.heap[w.heap.size + 1 + 1 + 1 + 1 + 1]? = some o5 ∧ W.heap[w.heap.size + 1 + 1 + 1 + 1 + 1 + 1]? = some o6 ∧ Below w.heap.size w W := by
  subst h
  refine ⟨by simp, ?_, ?_, ?_, ?_, ?_, ?_, ?_, ?_⟩
  any_goals (simp only [World.alloc, Array.getElem?_push, Array.size_push, if_true] <;> (repeat' split) <;> first | rfl | omega)
  refine Below.alloc (Below.alloc (Below.alloc (Below.alloc (Below.alloc (Below.alloc (Below.alloc (Below.refl _ _) ?_ _) ?_ _) ?_ _) ?_ _) ?_ _) ?_ _) ?_ _ <;> simp <;> omega
theorem is_of {w : World} {g : Nat} {l : List Int} (t : TypeId) (hg : w.heap[g]? = some (.cells (l.map (Value.int .i64)).toArray t (0, 0))) (hm : l.length ≤ maxLen) (hB : g < w.heap.size) : Is w w.heap.size (.slice (some ⟨g, 0, none⟩) l.length l.length) l :=
  ⟨_, g, 0, _, rfl, fun _ => rfl, Nat.le_refl _, hm, fun k hk => ⟨hB, by
    unfold IntAt
    rw [cell_of_row w g _ _ t _ hg]
    simp [hk, List.getD_eq_getElem?_getD]⟩⟩
end Go.Proofs.YtemogllidmgbfaaDoor

namespace Go.Proofs.YtemogllidmgbfaaDoor
open Go.RowKit

def e6N : List Nd := [⟨0, [], 0, 0⟩, ⟨14, [3], 0, 0⟩, ⟨4, [0], 0, 0⟩, ⟨5, [1, 2], 0, 0⟩, ⟨12, [0, 2], 0, 0⟩, ⟨13, [4], 0, 0⟩]
def e6S : List ByteArray := [⟨#[97]⟩, ⟨#[113]⟩, ⟨#[110]⟩, ⟨#[103]⟩, ⟨#[116]⟩, ⟨#[98]⟩]
def E6 : Ck := ⟨e6N, e6S, [], [3, 5]⟩
theorem e6_lvl : Lvl e6N [0, 0, 1, 2, 2, 3] := by
  refine ⟨rfl, fun i hi => ?_⟩
  have : i = 0 ∨ i = 1 ∨ i = 2 ∨ i = 3 ∨ i = 4 ∨ i = 5 := by simp [e6N] at hi; omega
  rcases this with rfl | rfl | rfl | rfl | rfl | rfl <;> decide
theorem e6_shape : shapeErr E6 = 0 := by decide
theorem e6_ok : chkErr E6 = 0 := by
  unfold chkErr
  rw [if_neg (by rw [e6_shape]; simp), if_pos ⟨_, e6_lvl⟩]
theorem e6_ins : ofTo e6N [0] 6 = [0] := by decide
theorem e6_sts : ofTo e6N [14] 6 = [1] := by decide
/-- The text s reads as the values l. -/
def PV (s : ByteArray) (l : List Int) : Prop := s.size = l.length ∧ l.length ≤ 1000 ∧ (∀ k, k < l.length → Lg.isv (Lg.chr s k) = true ∧ Lg.vof (Lg.chr s k) = l.getD k 0)
/-- The values l have the text s. -/
def TV (s : ByteArray) (l : List Int) : Prop := strOfNums (l.map Lg.tch) = s ∧ l.length ≤ 1000 ∧ ∀ k, k < l.length → 0 ≤ l.getD k 0
/-- One row of the chapter's table. -/
structure Row6 (sI sS sN sO sX : ByteArray) (pin pst nets : List Int) : Prop where
  i : PV sI pin
  s : PV sS pst
  f : Fits E6 pin pst
  n : ∀ out, Net e6N (baseV 6 [0] [1] pin pst) out → out = nets
  l : nets.length = 6
  tn : TV sN nets
  tz : TV sO (outV E6 nets)
  tx : TV sX (nextV E6 nets)
theorem e6_net {base nets out : List Int} (h : Net e6N base nets) (h' : Net e6N base out) : out = nets :=
  Net.same (wf_of_shape e6_shape) e6_lvl h' h (fun _ _ _ => rfl)
theorem six_of {p : Nat → Prop} (h0 : p 0) (h1 : p 1) (h2 : p 2) (h3 : p 3) (h4 : p 4) (h5 : p 5) (i : Nat) (hi : i < 6) : p i := by
  have : i = 0 ∨ i = 1 ∨ i = 2 ∨ i = 3 ∨ i = 4 ∨ i = 5 := by omega
  rcases this with rfl | rfl | rfl | rfl | rfl | rfl <;> assumption
theorem pv_one {b : UInt8} {v : Int} (h : Lg.isv (Lg.chr ⟨#[b]⟩ 0) = true ∧ Lg.vof (Lg.chr ⟨#[b]⟩ 0) = v) : PV ⟨#[b]⟩ [v] :=
  ⟨rfl, by simp, fun k hk => by
    have : k = 0 := by simp at hk; exact hk
    subst this; exact h⟩
theorem tv_of {s : ByteArray} {l : List Int} (h : strOfNums (l.map Lg.tch) = s) (hl : l.length ≤ 1000) (hp : ∀ x ∈ l, 0 ≤ x) : TV s l :=
  ⟨h, hl, fun k hk => hp _ (by rw [List.getD_eq_getElem?_getD, List.getElem?_eq_getElem hk]; exact List.getElem_mem hk)⟩
theorem fits_one {a b : Int} (ha : 0 ≤ a ∧ a ≤ 3) (hb : 0 ≤ b ∧ b ≤ 3) : Fits E6 [a] [b] where
  mems := rfl
  li := by show 1 = (ofTo e6N [0] 6).length; decide
  ls := by show 1 = (ofTo e6N [14] 6).length; decide
  vi := fun x hx => by
    have h : x = a := by simpa using hx
    rw [h]; exact ha
  vs := fun x hx => by
    have h : x = b := by simpa using hx
    rw [h]; exact hb
theorem row6_0 : Row6 ⟨#[48]⟩ ⟨#[49]⟩ ⟨#[48, 49, 49, 49, 90, 90]⟩ ⟨#[49, 90]⟩ ⟨#[49]⟩ [0] [1] [0, 1, 1, 1, 3, 3] where
  i := pv_one (by decide)
  s := pv_one (by decide)
  f := fits_one (by decide) (by decide)
  n := fun out h => e6_net ⟨rfl, six_of (by decide) (by decide) (by decide) (by decide) (by decide) (by decide)⟩ h
  l := rfl
  tn := tv_of rfl (by decide) (by decide)
  tz := tv_of rfl (by decide) (by decide)
  tx := tv_of rfl (by decide) (by decide)
theorem row6_1 : Row6 ⟨#[49]⟩ ⟨#[88]⟩ ⟨#[49, 88, 48, 48, 48, 48]⟩ ⟨#[48, 48]⟩ ⟨#[48]⟩ [1] [2] [1, 2, 0, 0, 0, 0] where
  i := pv_one (by decide)
  s := pv_one (by decide)
  f := fits_one (by decide) (by decide)
  n := fun out h => e6_net ⟨rfl, six_of (by decide) (by decide) (by decide) (by decide) (by decide) (by decide)⟩ h
  l := rfl
  tn := tv_of rfl (by decide) (by decide)
  tz := tv_of rfl (by decide) (by decide)
  tx := tv_of rfl (by decide) (by decide)
theorem row6_2 : Row6 ⟨#[88]⟩ ⟨#[49]⟩ ⟨#[88, 49, 88, 88, 88, 88]⟩ ⟨#[88, 88]⟩ ⟨#[88]⟩ [2] [1] [2, 1, 2, 2, 2, 2] where
  i := pv_one (by decide)
  s := pv_one (by decide)
  f := fits_one (by decide) (by decide)
  n := fun out h => e6_net ⟨rfl, six_of (by decide) (by decide) (by decide) (by decide) (by decide) (by decide)⟩ h
  l := rfl
  tn := tv_of rfl (by decide) (by decide)
  tz := tv_of rfl (by decide) (by decide)
  tx := tv_of rfl (by decide) (by decide)
theorem e6_obs : TV ⟨#[49, 88]⟩ (outV E6 [1, 0, 3, 1, 3]) ∧ TV ⟨#[49]⟩ (nextV E6 [1, 0, 3, 1, 3]) := ⟨tv_of rfl (by decide) (by decide), tv_of rfl (by decide) (by decide)⟩

theorem nine (w W : World) (o0 o1 o2 o3 o4 o5 o6 o7 o8 : Obj) (h : W = ((((((((w.alloc o0).alloc o1).alloc o2).alloc o3).alloc o4).alloc o5).alloc o6).alloc o7).alloc o8) :
    W.heap.size = w.heap.size + 9 ∧ W.heap[w.heap.size]? = some o0 ∧ W.heap[w.heap.size + 1]? = some o1 ∧ W.heap[w.heap.size + 1 + 1]? = some o2 ∧ W.heap[w.heap.size + 1 + 1 + 1]? = some o3 ∧ W.heap[w.heap.size + 1 + 1 + 1 + 1]? = some o4 ∧ W.heap[w.heap.size + 1 + 1 + 1 + 1 + 1]? = some o5 ∧ W.heap[w.heap.size + 1 + 1 + 1 + 1 + 1 + 1]? = some o6 ∧ W.heap[w.heap.size + 1 + 1 + 1 + 1 + 1 + 1 + 1]? = some o7 ∧ W.heap[w.heap.size + 1 + 1 + 1 + 1 + 1 + 1 + 1 + 1]? = some o8 ∧ Below w.heap.size w W := by
  subst h
  refine ⟨by simp, ?_, ?_, ?_, ?_, ?_, ?_, ?_, ?_, ?_, ?_⟩
  any_goals (simp only [World.alloc, Array.getElem?_push, Array.size_push, if_true] <;> (repeat' split) <;> first | rfl | omega)
  exact below_new (below_new (below_new (below_new (below_new (below_new (below_new (below_new (below_new (Below.refl _ _) _) _) _) _) _) _) _) _) _
end Go.Proofs.YtemogllidmgbfaaDoor
