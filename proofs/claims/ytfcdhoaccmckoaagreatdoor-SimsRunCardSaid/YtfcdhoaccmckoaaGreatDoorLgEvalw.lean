/- The walk of Eval: it returns what the kind computes of the inputs if it allows their number, and 2 otherwise. -/
import Derived.Test.YtfcdhoaccmckoaaGreatDoorLgEval
import Derived.Laws.BytesArg
import Derived.OwnWalk
namespace Go.Proofs.YtfcdhoaccmckoaaGreatDoor.Lg
open Go.RowKit

def vof (c : Int) : Int := if c = 49 then 1 else if c = 88 then 2 else if c = 90 then 3 else 0
def isv (c : Int) : Bool := decide (c = 48 ∨ c = 49 ∨ c = 88 ∨ c = 90)

set_option maxHeartbeats 1000000 in
theorem valueOf_any (c : Int) (w : World) (h : Tabs w) :
    Calls Tryz.prog 62 #[.int .u8 c] w fun e w' => e = .returned (.tuple #[.int .u8 (vof c), .bool (isv c)]) ∧ w = w' := by
  obtain ⟨-, -, h⟩ := h
  have c0 := h 0 (by decide)
  have c1 := h 1 (by decide)
  have c2 := h 2 (by decide)
  have c3 := h 3 (by decide)
  simp only [charsL, List.getD_cons_zero, List.getD_cons_succ] at c0 c1 c2 c3
  clear h
  have i0 : ∀ w, (Instr.index 23 (.agg #[.int .u8 48, .int .u8 49, .int .u8 88, .int .u8 90]) (.int .i64 0)).run Tryz.prog w = .ok (.int .u8 48) w := fun _ => by kernel_rfl
  have i1 : ∀ w, (Instr.index 23 (.agg #[.int .u8 48, .int .u8 49, .int .u8 88, .int .u8 90]) (.int .i64 1)).run Tryz.prog w = .ok (.int .u8 49) w := fun _ => by kernel_rfl
  have i2 : ∀ w, (Instr.index 23 (.agg #[.int .u8 48, .int .u8 49, .int .u8 88, .int .u8 90]) (.int .i64 2)).run Tryz.prog w = .ok (.int .u8 88) w := fun _ => by kernel_rfl
  have i3 : ∀ w, (Instr.index 23 (.agg #[.int .u8 48, .int .u8 49, .int .u8 88, .int .u8 90]) (.int .i64 3)).run Tryz.prog w = .ok (.int .u8 90) w := fun _ => by kernel_rfl
  obtain ⟨x, HX⟩ := named (vof c)
  obtain ⟨y, HY⟩ := named (isv c)
  rw [← HX.out, ← HY.out]
  by_cases h0 : c = 48
  · subst h0
    go_enter Tryz.func62, Tryz.ntmps62
    go_wp2
    refine wp_loop_rounds 5 ?_
    rw [rounds_succ]; go_wp2
    go_ret2
    exact ⟨by rw [HX.out, HY.out]; rfl, rfl⟩
  by_cases h1 : c = 49
  · subst h1
    go_enter Tryz.func62, Tryz.ntmps62
    go_wp2
    refine wp_loop_rounds 5 ?_
    rw [rounds_succ]; go_wp2
    rw [rounds_succ]; go_wp2
    go_ret2
    exact ⟨by rw [HX.out, HY.out]; rfl, rfl⟩
  by_cases h2 : c = 88
  · subst h2
    go_enter Tryz.func62, Tryz.ntmps62
    go_wp2
    refine wp_loop_rounds 5 ?_
    rw [rounds_succ]; go_wp2
    rw [rounds_succ]; go_wp2
    rw [rounds_succ]; go_wp2
    go_ret2
    exact ⟨by rw [HX.out, HY.out]; rfl, rfl⟩
  by_cases h3 : c = 90
  · subst h3
    go_enter Tryz.func62, Tryz.ntmps62
    go_wp2
    refine wp_loop_rounds 5 ?_
    rw [rounds_succ]; go_wp2
    rw [rounds_succ]; go_wp2
    rw [rounds_succ]; go_wp2
    rw [rounds_succ]; go_wp2
    go_ret2
    exact ⟨by rw [HX.out, HY.out]; rfl, rfl⟩
  have g0 : ((48 : Int) == c) = false := by simp; omega
  have g1 : ((49 : Int) == c) = false := by simp; omega
  have g2 : ((88 : Int) == c) = false := by simp; omega
  have g3 : ((90 : Int) == c) = false := by simp; omega
  go_enter Tryz.func62, Tryz.ntmps62
  go_wp2
  refine wp_loop_rounds 5 ?_
  rw [rounds_succ]; go_wp2
  rw [rounds_succ]; go_wp2
  rw [rounds_succ]; go_wp2
  rw [rounds_succ]; go_wp2
  rw [rounds_succ]; go_wp2
  go_ret2
  exact ⟨by rw [HX.out, HY.out]; simp [vof, isv, h0, h1, h2, h3], rfl⟩

/-- The k-th byte of a string. -/
def chr (s : ByteArray) (k : Nat) : Int := ((s.data.toList.getD k 0).toNat : Int)
theorem chr_at (s : ByteArray) (k : Nat) (h : k < s.size) : ((s[k]'h).toNat : Int) = chr s k := by
  unfold chr
  rw [List.getD_eq_getElem?_getD, List.getElem?_eq_getElem (by simpa using h)]
  rfl

/-- A row of n cells, the first k of which are filled. -/
def fillL (f : Nat → Value) (z : Value) (n k : Nat) : List Value := (List.range n).map fun j => if j < k then f j else z
theorem fillL_len (f : Nat → Value) (z : Value) (n k : Nat) : (fillL f z n k).length = n := by simp [fillL]
theorem fillL_get (f : Nat → Value) (z : Value) (n k j : Nat) (h : j < n) : (fillL f z n k)[j]? = some (if j < k then f j else z) := by
  simp [fillL, List.getElem?_map, List.getElem?_range h]
theorem fillL_set (f : Nat → Value) (z : Value) (n k : Nat) : (fillL f z n k).set k (f k) = fillL f z n (k + 1) := by
  apply List.ext_getElem?
  intro j
  by_cases hj : j < n
  · rw [List.getElem?_set, fillL_get _ _ _ _ _ hj, fillL_get _ _ _ _ _ hj, fillL_len]
    by_cases hk : k = j
    · subst hk; simp [hj]
    · rw [if_neg hk]
      by_cases h1 : j < k
      · rw [if_pos h1, if_pos (by omega)]
      · rw [if_neg h1, if_neg (by omega)]
  · rw [List.getElem?_eq_none (by simp [fillL_len]; omega), List.getElem?_eq_none (by simp [fillL_len]; omega)]
theorem fillL_start (f : Nat → Value) (z : Value) (n : Nat) : (madeCells #[z] n).toList = fillL f z n 0 := by
  apply List.ext_getElem?
  intro j
  by_cases hj : j < n
  · rw [fillL_get _ _ _ _ _ hj]; simp [madeCells, hj, Nat.mod_one]
  · rw [List.getElem?_eq_none (by simp [madeCells]; omega), List.getElem?_eq_none (by simp [fillL_len]; omega)]

theorem info_value : (Tryz.prog.info? 74).map (fun i => (i.zero, i.size, i.bytes)) = some (some (.int .u8 0), 1, 1) := by kernel_rfl
theorem info_byte : (Tryz.prog.info? 5).map (fun i => (i.zero, i.size, i.bytes)) = some (some (.int .u8 0), 1, 1) := by kernel_rfl

def ParsePost (s : ByteArray) (w : World) (e : Ending) (w' : World) : Prop :=
  Below w.heap.size w w' ∧
  (((∀ k, k < s.size → isv (chr s k) = true) ∧ e = .returned (.tuple #[.slice (some ⟨w.heap.size, 0, none⟩) s.size s.size, .int .i64 0]) ∧
    w'.ownsRow w.heap.size 74 1 (.slice (some ⟨w.heap.size, 0, none⟩) s.size s.size) s.size (fillL (fun j => .int .u8 (vof (chr s j))) (.int .u8 0) s.size s.size)) ∨
   ((∃ k, k < s.size ∧ isv (chr s k) = false) ∧ e = .returned (.tuple #[.slice none 0 0, .int .i64 4])))

set_option maxHeartbeats 1000000 in
theorem parse_any (s : ByteArray) (w : World) (hsz : s.size ≤ 1000) (ht : Tabs w) :
    Calls Tryz.prog 37 #[.string s] w (ParsePost s w) := by
  obtain ⟨i0, hi, hz0, hz1, hz2⟩ := info_parts info_value
  have HT := Lib.hid ht
  clear ht
  go_enter Tryz.func37, Tryz.ntmps37
  go_wp2_with (at_make; refine wpList_make_full _ rfl _ _ 37 rfl w.heap.size 74 i0 (.int .u8 0) 1 Tryz.underlying37 hi hz0 hz1 .i64 .i64 _ _ s.size rfl rfl rfl rfl ?b2 ?b3 ?b4 ?_)
  case b2 => rw [hz2]; omega
  case b3 => unfold maxLen; omega
  case b4 => exact Nat.le_refl _
  intro w1 hown hgr
  rw [fillL_start (fun j => .int .u8 (vof (chr s j)))] at hown
  have hb1 : Below w.heap.size w w1 := (Below.refl _ _).grown hgr (Nat.le_refl _) (fun k h => by cases h)
  have HO := Lib.hid hown
  have HBL := Lib.hid hb1
  clear hown hgr hb1 hz0 hz1 hz2 hi
  obtain ⟨g, hg⟩ : ∃ g, g = w.heap.size := ⟨_, rfl⟩
  rw [← hg]
  rw [← hg] at HO HBL
  have HG := Lib.hid hg
  clear hg
  go_wp2
  go_loopw [13] (fun i wr => ∃ k : Nat, k ≤ s.size ∧ i = .int .i64 k ∧ (∀ j, j < k → isv (chr s j) = true) ∧ Below g w wr ∧
    wr.ownsRow g 74 1 (.slice (some ⟨g, 0, none⟩) s.size s.size) s.size (fillL (fun j => .int .u8 (vof (chr s j))) (.int .u8 0) s.size k)) (fun i _ => s.size - (intOf i).toNat)
  case atStart => exact ⟨0, Nat.zero_le _, rfl, fun j hj => absurd hj (by omega), HBL.out, HO.out⟩
  case round =>
    clear HO HBL
    obtain ⟨k, hk, rfl, hall, hb, hown⟩ := hrel
    have HA := Lib.hid hall
    have HB := Lib.hid hb
    have HO := Lib.hid hown
    clear hall hb hown
    by_cases hlt : k < s.size
    · have HC := Lib.hid (chr_at s k hlt)
      have ht : Hid (Tabs wr) := Lib.hid (HT.out.below (by rw [← HG.out]; exact HB.out))
      have hfz : wr.frozen? ⟨g, k, none⟩ = false := HO.out.frozenAt k
      have hcl : wr.cell? ⟨g, k, none⟩ = some (.int .u8 0) := by
        rw [HO.out.cellAt k (by omega), fillL_get _ _ _ _ _ hlt, if_neg (by omega)]
      cases hv : isv (chr s k)
      · go_wp2_with (go_at_call 62; refine (valueOf_any _ _ ht.out).mono ?_; rintro e w' ⟨rfl, rfl⟩; rw [HC.out])
        go_ret2
        exact ⟨by rw [← HG.out]; exact HB.out, .inr ⟨⟨k, hlt, hv⟩, rfl⟩⟩
      · go_wp2_with (go_at_call 62; refine (valueOf_any _ _ ht.out).mono ?_; rintro e w' ⟨rfl, rfl⟩; rw [HC.out])
        go_roundw
        case rel =>
          refine ⟨k + 1, by omega, by go_num, fun j hj => ?_, HB.out.setCell (Nat.le_refl g) _, ?_⟩
          · by_cases hjk : j = k
            · rw [hjk]; exact hv
            · exact HA.out j (by omega)
          · have := (HO.out.stored k (.int .u8 (vof (chr s k)))).1
            rw [fillL_set (fun j => .int .u8 (vof (chr s j)))] at this
            exact this
        case measure => simp [intOf]; omega
    · have hkn : k = s.size := by omega
      subst hkn
      go_wp2
      go_ret2
      exact ⟨by rw [← HG.out]; exact HB.out, .inl ⟨HA.out, by rw [← HG.out]; rfl, by rw [← HG.out]; exact HO.out⟩⟩

/-- The character of a value. -/
def tch (v : Int) : Int := charsL.getD (cln v).toNat 0

set_option maxHeartbeats 1000000 in
theorem text_any {w : World} {B : Nat} {s : Value} {l : List Int} (hB : B ≤ w.heap.size) (hs : Vs w B s l) (hsz : l.length ≤ 1000) (hpos : ∀ k, k < l.length → 0 ≤ l.getD k 0) (ht : Tabs w) :
    Calls Tryz.prog 38 #[s] w fun e w' => e = .returned (.string (strOfNums (l.map tch))) ∧ Below w.heap.size w w' := by
  obtain ⟨b, o, c, hv, hm, hc⟩ := hs
  clear hm
  obtain ⟨n, hn⟩ : ∃ n, n = l.length := ⟨_, rfl⟩
  have key : ∀ A, (0 < n → A = some ⟨b, o, none⟩) → s = .slice A n c → Calls Tryz.prog 38 #[s] w fun e w' => e = .returned (.string (strOfNums (l.map tch))) ∧ Below w.heap.size w w' := by
    intro A hA hsA
    subst hsA
    obtain ⟨y, HY⟩ := named (strOfNums (l.map tch))
    rw [← HY.out]
    obtain ⟨i0, hi, hz0, hz1, hz2⟩ := info_parts info_byte
    rw [← hn] at hsz hpos hc
    have HA := Lib.hid hA
    have HT := Lib.hid ht
    have HC := Lib.hid hc
    have HN := Lib.hid hn
    have HP := Lib.hid hpos
    have HB := Lib.hid hB
    clear ht hc hn hpos hB hA hv
    go_enter Tryz.func38, Tryz.ntmps38
    go_wp2_with (at_make; refine wpList_make_full _ rfl _ _ 25 rfl w.heap.size 5 i0 (.int .u8 0) 1 Tryz.underlying25 hi hz0 hz1 .i64 .i64 _ _ n rfl rfl rfl rfl ?b2 ?b3 ?b4 ?_)
    case b2 => rw [hz2]; omega
    case b3 => unfold maxLen; omega
    case b4 => exact Nat.le_refl _
    intro w1 hown hgr
    rw [fillL_start (fun j => .int .u8 (tch (l.getD j 0)))] at hown
    have hb1 : Below w.heap.size w w1 := (Below.refl _ _).grown hgr (Nat.le_refl _) (fun k h => by cases h)
    obtain ⟨g, hg⟩ : ∃ g, g = w.heap.size := ⟨_, rfl⟩
    rw [← hg] at hown hb1
    rw [← hg]
    have HO := Lib.hid hown
    have HBL := Lib.hid hb1
    have HG := Lib.hid hg
    clear hown hgr hb1 hz0 hz1 hz2 hi hg
    go_wp2
    go_loopw [11] (fun i wr => ∃ k : Nat, k ≤ n ∧ i = .int .i64 k ∧ Below g w wr ∧
      wr.ownsRow g 5 1 (.slice (some ⟨g, 0, none⟩) n n) n (fillL (fun j => .int .u8 (tch (l.getD j 0))) (.int .u8 0) n k)) (fun i _ => n - (intOf i).toNat)
    case atStart => exact ⟨0, Nat.zero_le _, rfl, HBL.out, HO.out⟩
    case round =>
      clear HO HBL
      obtain ⟨k, hk, rfl, hb, hown⟩ := hrel
      have HBL := Lib.hid hb
      have HO := Lib.hid hown
      clear hb hown
      by_cases hlt : k < n
      · obtain rfl := HA.out (by omega)
        have ht : Tabs wr := HT.out.below (by rw [← HG.out]; exact HBL.out)
        have hfz : wr.frozen? ⟨g, k, none⟩ = false := HO.out.frozenAt k
        have hcl : wr.cell? ⟨g, k, none⟩ = some (.int .u8 0) := by
          rw [HO.out.cellAt k (by omega), fillL_get _ _ _ _ _ hlt, if_neg (by omega)]
        have hcv : wr.cell? ⟨b, o + k, none⟩ = some (.int .u8 (l.getD k 0)) :=
          (HBL.out.cell (p := ⟨b, o + k, none⟩) (by rw [HG.out]; exact Nat.lt_of_lt_of_le (HC.out k hlt).1 HB.out)).trans (HC.out k hlt).2
        have hp := cln_cases _ (HP.out k hlt)
        have HS := Lib.hid (HO.out.stored k (.int .u8 (tch (l.getD k 0)))).1
        obtain ⟨v, hv⟩ : ∃ v, v = l.getD k 0 := ⟨_, rfl⟩
        rw [← hv] at hcv hp HS
        have HV := Lib.hid hv
        clear hv
        rcases hp with h | h | h | h
        all_goals
          obtain ⟨q, HQ⟩ := named (tch v)
          rw [← HQ.out] at HS
          obtain rfl : q = _ := HQ.out.trans (by unfold tch; rw [h]; first | done | rfl)
          have hch := ht.2.2 (cln v).toNat (by rw [h]; decide)
          rw [h] at hch
          simp only [charsL, Int.toNat_zero, Int.toNat_one, Int.reduceToNat, List.getD_cons_zero, List.getD_cons_succ] at hch
          have HT' := Lib.hid ht
          clear ht
          go_wp2_with (go_at_call 48; refine (clean_any _ _).mono ?_; rintro e w' ⟨rfl, rfl⟩; rw [h])
          go_roundw
          case rel =>
            refine ⟨k + 1, by omega, by go_num, HBL.out.setCell (Nat.le_refl g) _, ?_⟩
            have e := fillL_set (fun j => .int .u8 (tch (l.getD j 0))) (.int .u8 0) n k
            rw [← HV.out, ← HQ.out] at e
            rw [← e]; exact HS.out
          case measure => simp [intOf]; omega
      · have hkn : k = n := by omega
        subst hkn
        have hcv := run_convert_bytes_arg (P := Tryz.prog) wr 25 5 Tryz.underlying25 Tryz.underlying5 g 0 k k (l.map tch) (by rw [List.length_map, HN.out]) (fun i hi => by
          rw [Nat.zero_add, HO.out.cellAt i (by omega), fillL_get _ _ _ _ _ hi, if_pos hi]
          rw [List.getD_eq_getElem?_getD, List.getD_eq_getElem?_getD, List.getElem?_map, List.getElem?_eq_getElem (by rw [← HN.out]; exact hi)]
          rfl) 9 Tryz.underlying9
        rw [← HY.out] at hcv
        go_wp2
        go_ret
        exact ⟨rfl, by rw [← HG.out]; exact HBL.out⟩
  rcases hv with rfl | ⟨rfl, A, rfl⟩
  · exact key _ (fun _ => rfl) (by rw [hn])
  · exact key _ (fun h => absurd h (by simp [hn])) (by rw [hn]; rfl)

end Go.Proofs.YtfcdhoaccmckoaaGreatDoor.Lg

namespace Go.Proofs.YtfcdhoaccmckoaaGreatDoor.Lg
open Go.RowKit

section
variable {w0 : World} {B : Nat} {s : Value} {l : List Int} (hB : B ≤ w0.heap.size) (hs : Vs w0 B s l) (w : World) (hb : Below w0.heap.size w0 w)
include hB hs hb
theorem and_rel : Calls Tryz.prog 52 #[s] w fun e w' => e = .returned (.int .u8 (andL l)) ∧ Below w0.heap.size w0 w' :=
  rel (and_any (Nat.le_trans hB hb.size) (hs.below (hb.mono hB))) hb
theorem or_rel : Calls Tryz.prog 53 #[s] w fun e w' => e = .returned (.int .u8 (orL l)) ∧ Below w0.heap.size w0 w' :=
  rel (or_any (Nat.le_trans hB hb.size) (hs.below (hb.mono hB))) hb
theorem xor_rel : Calls Tryz.prog 54 #[s] w fun e w' => e = .returned (.int .u8 (xorL l)) ∧ Below w0.heap.size w0 w' :=
  rel (xor_any (Nat.le_trans hB hb.size) (hs.below (hb.mono hB))) hb
theorem bus_rel : Calls Tryz.prog 57 #[s] w fun e w' => e = .returned (.int .u8 (busL l)) ∧ Below w0.heap.size w0 w' :=
  rel (bus_any (Nat.le_trans hB hb.size) (hs.below (hb.mono hB))) hb
end

set_option maxHeartbeats 400000 in
theorem eval_less {w : World} {s : Value} (n c : Nat) (A : Option Addr) (hs : s = .slice A n c) (k : Int) (h0 : 0 ≤ k) (ht : Tabs w) (h : (n : Int) < lo k) :
    Calls Tryz.prog 24 #[.int .u8 k, s] w fun e w' => e = .returned (.int .u8 2) ∧ Below w.heap.size w w' := by
  subst hs
  have HT := Lib.hid ht
  have H0 := Lib.hid h0
  clear ht h0
  go_enter Tryz.func24, Tryz.ntmps24
  go_wp2_with (go_at_call 49; refine (fanin_any _ H0.out _ HT.out).mono ?_; rintro e w' ⟨rfl, m, rfl⟩; have hb : Below w.heap.size w (w.drewN m) := below_drewN (Below.refl _ _) m)
  go_ret
  exact ⟨rfl, by assumption⟩

set_option maxHeartbeats 400000 in
theorem eval_more {w : World} {s : Value} (n c : Nat) (A : Option Addr) (hs : s = .slice A n c) (k : Int) (h0 : 0 ≤ k) (ht : Tabs w) (hl : ¬ (n : Int) < lo k) (h : hi k < (n : Int)) :
    Calls Tryz.prog 24 #[.int .u8 k, s] w fun e w' => e = .returned (.int .u8 2) ∧ Below w.heap.size w w' := by
  subst hs
  have HT := Lib.hid ht
  have H0 := Lib.hid h0
  clear ht h0
  go_enter Tryz.func24, Tryz.ntmps24
  go_wp2_with (go_at_call 49; refine (fanin_any _ H0.out _ HT.out).mono ?_; rintro e w' ⟨rfl, m, rfl⟩; have hb : Below w.heap.size w (w.drewN m) := below_drewN (Below.refl _ _) m)
  go_ret
  exact ⟨rfl, by assumption⟩

set_option maxHeartbeats 1000000 in
theorem eval_k0 {w : World} {B : Nat} {s : Value} {l : List Int} (n c : Nat) (A : Option Addr) (hsv : s = .slice A n c) (hB : B ≤ w.heap.size) (hs : Vs w B s l) (ht : Tabs w) (hl : 0 ≤ n) (hh : n ≤ 0) :
    Calls Tryz.prog 24 #[.int .u8 0, s] w fun e w' => e = .returned (.int .u8 (funL 0 l)) ∧ Below w.heap.size w w' := by
  obtain ⟨y, HY⟩ := named (funL 0 l)
  rw [← HY.out]
  have el : lo 0 = 0 := by decide
  have eh : hi 0 = 0 := by decide
  have HT := Lib.hid ht
  have H0 : Hid (0 ≤ (0 : Int)) := Lib.hid (by decide)
  have HS := Lib.hid hs
  have HB := Lib.hid hB
  clear ht hs hB
  subst hsv
  go_enter Tryz.func24, Tryz.ntmps24
  go_wp2_with (first
      | (go_at_call 49; refine (fanin_any _ H0.out _ HT.out).mono ?_; rintro e w' ⟨rfl, m, rfl⟩; have hb : Below w.heap.size w (w.drewN m) := below_drewN (Below.refl _ _) m)
      | (go_at_call 52; refine (and_rel HB.out HS.out _ (by assumption)).mono ?_; rintro e w' ⟨rfl, hb⟩)
      | (go_at_call 53; refine (or_rel HB.out HS.out _ (by assumption)).mono ?_; rintro e w' ⟨rfl, hb⟩)
      | (go_at_call 54; refine (xor_rel HB.out HS.out _ (by assumption)).mono ?_; rintro e w' ⟨rfl, hb⟩)
      | (go_at_call 57; refine (bus_rel HB.out HS.out _ (by assumption)).mono ?_; rintro e w' ⟨rfl, hb⟩)
      | (go_at_call 51; refine (not_any _ _).mono ?_; rintro e w' ⟨rfl, rfl⟩)
      | (go_at_call 50; refine (read_any _ _).mono ?_; rintro e w' ⟨rfl, rfl⟩))
  go_ret
  exact ⟨ret_int (by rw [HY.out]; rfl), by first | assumption | exact below_drewN (Below.refl _ _) _⟩

set_option maxHeartbeats 1000000 in
theorem eval_k1 {w : World} {B : Nat} {s : Value} {l : List Int} (n c : Nat) (A : Option Addr) (hsv : s = .slice A n c) (hB : B ≤ w.heap.size) (hs : Vs w B s l) (ht : Tabs w) (hl : 0 ≤ n) (hh : n ≤ 0) :
    Calls Tryz.prog 24 #[.int .u8 1, s] w fun e w' => e = .returned (.int .u8 (funL 1 l)) ∧ Below w.heap.size w w' := by
  obtain ⟨y, HY⟩ := named (funL 1 l)
  rw [← HY.out]
  have el : lo 1 = 0 := by decide
  have eh : hi 1 = 0 := by decide
  have HT := Lib.hid ht
  have H0 : Hid (0 ≤ (1 : Int)) := Lib.hid (by decide)
  have HS := Lib.hid hs
  have HB := Lib.hid hB
  clear ht hs hB
  subst hsv
  go_enter Tryz.func24, Tryz.ntmps24
  go_wp2_with (first
      | (go_at_call 49; refine (fanin_any _ H0.out _ HT.out).mono ?_; rintro e w' ⟨rfl, m, rfl⟩; have hb : Below w.heap.size w (w.drewN m) := below_drewN (Below.refl _ _) m)
      | (go_at_call 52; refine (and_rel HB.out HS.out _ (by assumption)).mono ?_; rintro e w' ⟨rfl, hb⟩)
      | (go_at_call 53; refine (or_rel HB.out HS.out _ (by assumption)).mono ?_; rintro e w' ⟨rfl, hb⟩)
      | (go_at_call 54; refine (xor_rel HB.out HS.out _ (by assumption)).mono ?_; rintro e w' ⟨rfl, hb⟩)
      | (go_at_call 57; refine (bus_rel HB.out HS.out _ (by assumption)).mono ?_; rintro e w' ⟨rfl, hb⟩)
      | (go_at_call 51; refine (not_any _ _).mono ?_; rintro e w' ⟨rfl, rfl⟩)
      | (go_at_call 50; refine (read_any _ _).mono ?_; rintro e w' ⟨rfl, rfl⟩))
  go_ret
  exact ⟨ret_int (by rw [HY.out]; rfl), by first | assumption | exact below_drewN (Below.refl _ _) _⟩

set_option maxHeartbeats 1000000 in
theorem eval_k2 {w : World} {B : Nat} {s : Value} {l : List Int} (n c : Nat) (A : Option Addr) (hsv : s = .slice A n c) (hB : B ≤ w.heap.size) (hs : Vs w B s l) (ht : Tabs w) (hl : 0 ≤ n) (hh : n ≤ 0) :
    Calls Tryz.prog 24 #[.int .u8 2, s] w fun e w' => e = .returned (.int .u8 (funL 2 l)) ∧ Below w.heap.size w w' := by
  obtain ⟨y, HY⟩ := named (funL 2 l)
  rw [← HY.out]
  have el : lo 2 = 0 := by decide
  have eh : hi 2 = 0 := by decide
  have HT := Lib.hid ht
  have H0 : Hid (0 ≤ (2 : Int)) := Lib.hid (by decide)
  have HS := Lib.hid hs
  have HB := Lib.hid hB
  clear ht hs hB
  subst hsv
  go_enter Tryz.func24, Tryz.ntmps24
  go_wp2_with (first
      | (go_at_call 49; refine (fanin_any _ H0.out _ HT.out).mono ?_; rintro e w' ⟨rfl, m, rfl⟩; have hb : Below w.heap.size w (w.drewN m) := below_drewN (Below.refl _ _) m)
      | (go_at_call 52; refine (and_rel HB.out HS.out _ (by assumption)).mono ?_; rintro e w' ⟨rfl, hb⟩)
      | (go_at_call 53; refine (or_rel HB.out HS.out _ (by assumption)).mono ?_; rintro e w' ⟨rfl, hb⟩)
      | (go_at_call 54; refine (xor_rel HB.out HS.out _ (by assumption)).mono ?_; rintro e w' ⟨rfl, hb⟩)
      | (go_at_call 57; refine (bus_rel HB.out HS.out _ (by assumption)).mono ?_; rintro e w' ⟨rfl, hb⟩)
      | (go_at_call 51; refine (not_any _ _).mono ?_; rintro e w' ⟨rfl, rfl⟩)
      | (go_at_call 50; refine (read_any _ _).mono ?_; rintro e w' ⟨rfl, rfl⟩))
  go_ret
  exact ⟨ret_int (by rw [HY.out]; rfl), by first | assumption | exact below_drewN (Below.refl _ _) _⟩

set_option maxHeartbeats 1000000 in
theorem eval_k3 {w : World} {B : Nat} {s : Value} {l : List Int} (n c : Nat) (A : Option Addr) (hsv : s = .slice A n c) (hB : B ≤ w.heap.size) (hs : Vs w B s l) (ht : Tabs w) (hl : 1 ≤ n) (hh : n ≤ 1) (b o : Nat) (hA : A = some ⟨b, o, none⟩) (hc0 : w.cell? ⟨b, o + 0, none⟩ = some (.int .u8 (l.getD 0 0))) :
    Calls Tryz.prog 24 #[.int .u8 3, s] w fun e w' => e = .returned (.int .u8 (funL 3 l)) ∧ Below w.heap.size w w' := by
  obtain ⟨y, HY⟩ := named (funL 3 l)
  rw [← HY.out]
  have el : lo 3 = 1 := by decide
  have eh : hi 3 = 1 := by decide
  have HT := Lib.hid ht
  have H0 : Hid (0 ≤ (3 : Int)) := Lib.hid (by decide)
  have HS := Lib.hid hs
  have HB := Lib.hid hB
  clear ht hs hB
  subst hsv
  subst hA
  obtain ⟨x0, hx0⟩ : ∃ x, x = l.getD 0 0 := ⟨_, rfl⟩
  rw [← hx0] at hc0
  have HX0 := Lib.hid hx0
  clear hx0
  simp only [Nat.add_zero] at hc0
  go_enter Tryz.func24, Tryz.ntmps24
  go_wp2_with (first
      | (go_at_call 49; refine (fanin_any _ H0.out _ HT.out).mono ?_; rintro e w' ⟨rfl, m, rfl⟩; have hb : Below w.heap.size w (w.drewN m) := below_drewN (Below.refl _ _) m)
      | (go_at_call 52; refine (and_rel HB.out HS.out _ (by assumption)).mono ?_; rintro e w' ⟨rfl, hb⟩)
      | (go_at_call 53; refine (or_rel HB.out HS.out _ (by assumption)).mono ?_; rintro e w' ⟨rfl, hb⟩)
      | (go_at_call 54; refine (xor_rel HB.out HS.out _ (by assumption)).mono ?_; rintro e w' ⟨rfl, hb⟩)
      | (go_at_call 57; refine (bus_rel HB.out HS.out _ (by assumption)).mono ?_; rintro e w' ⟨rfl, hb⟩)
      | (go_at_call 51; refine (not_any _ _).mono ?_; rintro e w' ⟨rfl, rfl⟩)
      | (go_at_call 50; refine (read_any _ _).mono ?_; rintro e w' ⟨rfl, rfl⟩))
  go_ret
  exact ⟨ret_int (by rw [HY.out, HX0.out]; rfl), by first | assumption | exact below_drewN (Below.refl _ _) _⟩

set_option maxHeartbeats 1000000 in
theorem eval_k4 {w : World} {B : Nat} {s : Value} {l : List Int} (n c : Nat) (A : Option Addr) (hsv : s = .slice A n c) (hB : B ≤ w.heap.size) (hs : Vs w B s l) (ht : Tabs w) (hl : 1 ≤ n) (hh : n ≤ 1) (b o : Nat) (hA : A = some ⟨b, o, none⟩) (hc0 : w.cell? ⟨b, o + 0, none⟩ = some (.int .u8 (l.getD 0 0))) :
    Calls Tryz.prog 24 #[.int .u8 4, s] w fun e w' => e = .returned (.int .u8 (funL 4 l)) ∧ Below w.heap.size w w' := by
  obtain ⟨y, HY⟩ := named (funL 4 l)
  rw [← HY.out]
  have el : lo 4 = 1 := by decide
  have eh : hi 4 = 1 := by decide
  have HT := Lib.hid ht
  have H0 : Hid (0 ≤ (4 : Int)) := Lib.hid (by decide)
  have HS := Lib.hid hs
  have HB := Lib.hid hB
  clear ht hs hB
  subst hsv
  subst hA
  obtain ⟨x0, hx0⟩ : ∃ x, x = l.getD 0 0 := ⟨_, rfl⟩
  rw [← hx0] at hc0
  have HX0 := Lib.hid hx0
  clear hx0
  simp only [Nat.add_zero] at hc0
  go_enter Tryz.func24, Tryz.ntmps24
  go_wp2_with (first
      | (go_at_call 49; refine (fanin_any _ H0.out _ HT.out).mono ?_; rintro e w' ⟨rfl, m, rfl⟩; have hb : Below w.heap.size w (w.drewN m) := below_drewN (Below.refl _ _) m)
      | (go_at_call 52; refine (and_rel HB.out HS.out _ (by assumption)).mono ?_; rintro e w' ⟨rfl, hb⟩)
      | (go_at_call 53; refine (or_rel HB.out HS.out _ (by assumption)).mono ?_; rintro e w' ⟨rfl, hb⟩)
      | (go_at_call 54; refine (xor_rel HB.out HS.out _ (by assumption)).mono ?_; rintro e w' ⟨rfl, hb⟩)
      | (go_at_call 57; refine (bus_rel HB.out HS.out _ (by assumption)).mono ?_; rintro e w' ⟨rfl, hb⟩)
      | (go_at_call 51; refine (not_any _ _).mono ?_; rintro e w' ⟨rfl, rfl⟩)
      | (go_at_call 50; refine (read_any _ _).mono ?_; rintro e w' ⟨rfl, rfl⟩))
  go_ret
  exact ⟨ret_int (by rw [HY.out, HX0.out]; rfl), by first | assumption | exact below_drewN (Below.refl _ _) _⟩

set_option maxHeartbeats 1000000 in
theorem eval_k5 {w : World} {B : Nat} {s : Value} {l : List Int} (n c : Nat) (A : Option Addr) (hsv : s = .slice A n c) (hB : B ≤ w.heap.size) (hs : Vs w B s l) (ht : Tabs w) (hl : 2 ≤ n) (hh : n ≤ 16) :
    Calls Tryz.prog 24 #[.int .u8 5, s] w fun e w' => e = .returned (.int .u8 (funL 5 l)) ∧ Below w.heap.size w w' := by
  obtain ⟨y, HY⟩ := named (funL 5 l)
  rw [← HY.out]
  have el : lo 5 = 2 := by decide
  have eh : hi 5 = 16 := by decide
  have HT := Lib.hid ht
  have H0 : Hid (0 ≤ (5 : Int)) := Lib.hid (by decide)
  have HS := Lib.hid hs
  have HB := Lib.hid hB
  clear ht hs hB
  subst hsv
  go_enter Tryz.func24, Tryz.ntmps24
  go_wp2_with (first
      | (go_at_call 49; refine (fanin_any _ H0.out _ HT.out).mono ?_; rintro e w' ⟨rfl, m, rfl⟩; have hb : Below w.heap.size w (w.drewN m) := below_drewN (Below.refl _ _) m)
      | (go_at_call 52; refine (and_rel HB.out HS.out _ (by assumption)).mono ?_; rintro e w' ⟨rfl, hb⟩)
      | (go_at_call 53; refine (or_rel HB.out HS.out _ (by assumption)).mono ?_; rintro e w' ⟨rfl, hb⟩)
      | (go_at_call 54; refine (xor_rel HB.out HS.out _ (by assumption)).mono ?_; rintro e w' ⟨rfl, hb⟩)
      | (go_at_call 57; refine (bus_rel HB.out HS.out _ (by assumption)).mono ?_; rintro e w' ⟨rfl, hb⟩)
      | (go_at_call 51; refine (not_any _ _).mono ?_; rintro e w' ⟨rfl, rfl⟩)
      | (go_at_call 50; refine (read_any _ _).mono ?_; rintro e w' ⟨rfl, rfl⟩))
  go_ret
  exact ⟨ret_int (by rw [HY.out]; rfl), by first | assumption | exact below_drewN (Below.refl _ _) _⟩

set_option maxHeartbeats 1000000 in
theorem eval_k6 {w : World} {B : Nat} {s : Value} {l : List Int} (n c : Nat) (A : Option Addr) (hsv : s = .slice A n c) (hB : B ≤ w.heap.size) (hs : Vs w B s l) (ht : Tabs w) (hl : 2 ≤ n) (hh : n ≤ 16) :
    Calls Tryz.prog 24 #[.int .u8 6, s] w fun e w' => e = .returned (.int .u8 (funL 6 l)) ∧ Below w.heap.size w w' := by
  obtain ⟨y, HY⟩ := named (funL 6 l)
  rw [← HY.out]
  have el : lo 6 = 2 := by decide
  have eh : hi 6 = 16 := by decide
  have HT := Lib.hid ht
  have H0 : Hid (0 ≤ (6 : Int)) := Lib.hid (by decide)
  have HS := Lib.hid hs
  have HB := Lib.hid hB
  clear ht hs hB
  subst hsv
  go_enter Tryz.func24, Tryz.ntmps24
  go_wp2_with (first
      | (go_at_call 49; refine (fanin_any _ H0.out _ HT.out).mono ?_; rintro e w' ⟨rfl, m, rfl⟩; have hb : Below w.heap.size w (w.drewN m) := below_drewN (Below.refl _ _) m)
      | (go_at_call 52; refine (and_rel HB.out HS.out _ (by assumption)).mono ?_; rintro e w' ⟨rfl, hb⟩)
      | (go_at_call 53; refine (or_rel HB.out HS.out _ (by assumption)).mono ?_; rintro e w' ⟨rfl, hb⟩)
      | (go_at_call 54; refine (xor_rel HB.out HS.out _ (by assumption)).mono ?_; rintro e w' ⟨rfl, hb⟩)
      | (go_at_call 57; refine (bus_rel HB.out HS.out _ (by assumption)).mono ?_; rintro e w' ⟨rfl, hb⟩)
      | (go_at_call 51; refine (not_any _ _).mono ?_; rintro e w' ⟨rfl, rfl⟩)
      | (go_at_call 50; refine (read_any _ _).mono ?_; rintro e w' ⟨rfl, rfl⟩))
  go_ret
  exact ⟨ret_int (by rw [HY.out]; rfl), by first | assumption | exact below_drewN (Below.refl _ _) _⟩

set_option maxHeartbeats 1000000 in
theorem eval_k7 {w : World} {B : Nat} {s : Value} {l : List Int} (n c : Nat) (A : Option Addr) (hsv : s = .slice A n c) (hB : B ≤ w.heap.size) (hs : Vs w B s l) (ht : Tabs w) (hl : 2 ≤ n) (hh : n ≤ 16) :
    Calls Tryz.prog 24 #[.int .u8 7, s] w fun e w' => e = .returned (.int .u8 (funL 7 l)) ∧ Below w.heap.size w w' := by
  obtain ⟨y, HY⟩ := named (funL 7 l)
  rw [← HY.out]
  have el : lo 7 = 2 := by decide
  have eh : hi 7 = 16 := by decide
  have HT := Lib.hid ht
  have H0 : Hid (0 ≤ (7 : Int)) := Lib.hid (by decide)
  have HS := Lib.hid hs
  have HB := Lib.hid hB
  clear ht hs hB
  subst hsv
  go_enter Tryz.func24, Tryz.ntmps24
  go_wp2_with (first
      | (go_at_call 49; refine (fanin_any _ H0.out _ HT.out).mono ?_; rintro e w' ⟨rfl, m, rfl⟩; have hb : Below w.heap.size w (w.drewN m) := below_drewN (Below.refl _ _) m)
      | (go_at_call 52; refine (and_rel HB.out HS.out _ (by assumption)).mono ?_; rintro e w' ⟨rfl, hb⟩)
      | (go_at_call 53; refine (or_rel HB.out HS.out _ (by assumption)).mono ?_; rintro e w' ⟨rfl, hb⟩)
      | (go_at_call 54; refine (xor_rel HB.out HS.out _ (by assumption)).mono ?_; rintro e w' ⟨rfl, hb⟩)
      | (go_at_call 57; refine (bus_rel HB.out HS.out _ (by assumption)).mono ?_; rintro e w' ⟨rfl, hb⟩)
      | (go_at_call 51; refine (not_any _ _).mono ?_; rintro e w' ⟨rfl, rfl⟩)
      | (go_at_call 50; refine (read_any _ _).mono ?_; rintro e w' ⟨rfl, rfl⟩))
  go_ret
  exact ⟨ret_int (by rw [HY.out]; rfl), by first | assumption | exact below_drewN (Below.refl _ _) _⟩

set_option maxHeartbeats 1000000 in
theorem eval_k8 {w : World} {B : Nat} {s : Value} {l : List Int} (n c : Nat) (A : Option Addr) (hsv : s = .slice A n c) (hB : B ≤ w.heap.size) (hs : Vs w B s l) (ht : Tabs w) (hl : 2 ≤ n) (hh : n ≤ 16) :
    Calls Tryz.prog 24 #[.int .u8 8, s] w fun e w' => e = .returned (.int .u8 (funL 8 l)) ∧ Below w.heap.size w w' := by
  obtain ⟨y, HY⟩ := named (funL 8 l)
  rw [← HY.out]
  have el : lo 8 = 2 := by decide
  have eh : hi 8 = 16 := by decide
  have HT := Lib.hid ht
  have H0 : Hid (0 ≤ (8 : Int)) := Lib.hid (by decide)
  have HS := Lib.hid hs
  have HB := Lib.hid hB
  clear ht hs hB
  subst hsv
  go_enter Tryz.func24, Tryz.ntmps24
  go_wp2_with (first
      | (go_at_call 49; refine (fanin_any _ H0.out _ HT.out).mono ?_; rintro e w' ⟨rfl, m, rfl⟩; have hb : Below w.heap.size w (w.drewN m) := below_drewN (Below.refl _ _) m)
      | (go_at_call 52; refine (and_rel HB.out HS.out _ (by assumption)).mono ?_; rintro e w' ⟨rfl, hb⟩)
      | (go_at_call 53; refine (or_rel HB.out HS.out _ (by assumption)).mono ?_; rintro e w' ⟨rfl, hb⟩)
      | (go_at_call 54; refine (xor_rel HB.out HS.out _ (by assumption)).mono ?_; rintro e w' ⟨rfl, hb⟩)
      | (go_at_call 57; refine (bus_rel HB.out HS.out _ (by assumption)).mono ?_; rintro e w' ⟨rfl, hb⟩)
      | (go_at_call 51; refine (not_any _ _).mono ?_; rintro e w' ⟨rfl, rfl⟩)
      | (go_at_call 50; refine (read_any _ _).mono ?_; rintro e w' ⟨rfl, rfl⟩))
  go_ret
  exact ⟨ret_int (by rw [HY.out]; rfl), by first | assumption | exact below_drewN (Below.refl _ _) _⟩

set_option maxHeartbeats 1000000 in
theorem eval_k9 {w : World} {B : Nat} {s : Value} {l : List Int} (n c : Nat) (A : Option Addr) (hsv : s = .slice A n c) (hB : B ≤ w.heap.size) (hs : Vs w B s l) (ht : Tabs w) (hl : 2 ≤ n) (hh : n ≤ 16) :
    Calls Tryz.prog 24 #[.int .u8 9, s] w fun e w' => e = .returned (.int .u8 (funL 9 l)) ∧ Below w.heap.size w w' := by
  obtain ⟨y, HY⟩ := named (funL 9 l)
  rw [← HY.out]
  have el : lo 9 = 2 := by decide
  have eh : hi 9 = 16 := by decide
  have HT := Lib.hid ht
  have H0 : Hid (0 ≤ (9 : Int)) := Lib.hid (by decide)
  have HS := Lib.hid hs
  have HB := Lib.hid hB
  clear ht hs hB
  subst hsv
  go_enter Tryz.func24, Tryz.ntmps24
  go_wp2_with (first
      | (go_at_call 49; refine (fanin_any _ H0.out _ HT.out).mono ?_; rintro e w' ⟨rfl, m, rfl⟩; have hb : Below w.heap.size w (w.drewN m) := below_drewN (Below.refl _ _) m)
      | (go_at_call 52; refine (and_rel HB.out HS.out _ (by assumption)).mono ?_; rintro e w' ⟨rfl, hb⟩)
      | (go_at_call 53; refine (or_rel HB.out HS.out _ (by assumption)).mono ?_; rintro e w' ⟨rfl, hb⟩)
      | (go_at_call 54; refine (xor_rel HB.out HS.out _ (by assumption)).mono ?_; rintro e w' ⟨rfl, hb⟩)
      | (go_at_call 57; refine (bus_rel HB.out HS.out _ (by assumption)).mono ?_; rintro e w' ⟨rfl, hb⟩)
      | (go_at_call 51; refine (not_any _ _).mono ?_; rintro e w' ⟨rfl, rfl⟩)
      | (go_at_call 50; refine (read_any _ _).mono ?_; rintro e w' ⟨rfl, rfl⟩))
  go_ret
  exact ⟨ret_int (by rw [HY.out]; rfl), by first | assumption | exact below_drewN (Below.refl _ _) _⟩

set_option maxHeartbeats 1000000 in
theorem eval_k10 {w : World} {B : Nat} {s : Value} {l : List Int} (n c : Nat) (A : Option Addr) (hsv : s = .slice A n c) (hB : B ≤ w.heap.size) (hs : Vs w B s l) (ht : Tabs w) (hl : 2 ≤ n) (hh : n ≤ 16) :
    Calls Tryz.prog 24 #[.int .u8 10, s] w fun e w' => e = .returned (.int .u8 (funL 10 l)) ∧ Below w.heap.size w w' := by
  obtain ⟨y, HY⟩ := named (funL 10 l)
  rw [← HY.out]
  have el : lo 10 = 2 := by decide
  have eh : hi 10 = 16 := by decide
  have HT := Lib.hid ht
  have H0 : Hid (0 ≤ (10 : Int)) := Lib.hid (by decide)
  have HS := Lib.hid hs
  have HB := Lib.hid hB
  clear ht hs hB
  subst hsv
  go_enter Tryz.func24, Tryz.ntmps24
  go_wp2_with (first
      | (go_at_call 49; refine (fanin_any _ H0.out _ HT.out).mono ?_; rintro e w' ⟨rfl, m, rfl⟩; have hb : Below w.heap.size w (w.drewN m) := below_drewN (Below.refl _ _) m)
      | (go_at_call 52; refine (and_rel HB.out HS.out _ (by assumption)).mono ?_; rintro e w' ⟨rfl, hb⟩)
      | (go_at_call 53; refine (or_rel HB.out HS.out _ (by assumption)).mono ?_; rintro e w' ⟨rfl, hb⟩)
      | (go_at_call 54; refine (xor_rel HB.out HS.out _ (by assumption)).mono ?_; rintro e w' ⟨rfl, hb⟩)
      | (go_at_call 57; refine (bus_rel HB.out HS.out _ (by assumption)).mono ?_; rintro e w' ⟨rfl, hb⟩)
      | (go_at_call 51; refine (not_any _ _).mono ?_; rintro e w' ⟨rfl, rfl⟩)
      | (go_at_call 50; refine (read_any _ _).mono ?_; rintro e w' ⟨rfl, rfl⟩))
  go_ret
  exact ⟨ret_int (by rw [HY.out]; rfl), by first | assumption | exact below_drewN (Below.refl _ _) _⟩

set_option maxHeartbeats 1000000 in
theorem eval_k11 {w : World} {B : Nat} {s : Value} {l : List Int} (n c : Nat) (A : Option Addr) (hsv : s = .slice A n c) (hB : B ≤ w.heap.size) (hs : Vs w B s l) (ht : Tabs w) (hl : 3 ≤ n) (hh : n ≤ 3) (b o : Nat) (hA : A = some ⟨b, o, none⟩) (hc0 : w.cell? ⟨b, o + 0, none⟩ = some (.int .u8 (l.getD 0 0))) (hc1 : w.cell? ⟨b, o + 1, none⟩ = some (.int .u8 (l.getD 1 0))) (hc2 : w.cell? ⟨b, o + 2, none⟩ = some (.int .u8 (l.getD 2 0))) :
    Calls Tryz.prog 24 #[.int .u8 11, s] w fun e w' => e = .returned (.int .u8 (funL 11 l)) ∧ Below w.heap.size w w' := by
  obtain ⟨y, HY⟩ := named (funL 11 l)
  rw [← HY.out]
  have el : lo 11 = 3 := by decide
  have eh : hi 11 = 3 := by decide
  have HT := Lib.hid ht
  have H0 : Hid (0 ≤ (11 : Int)) := Lib.hid (by decide)
  have HS := Lib.hid hs
  have HB := Lib.hid hB
  clear ht hs hB
  subst hsv
  obtain rfl : n = 3 := by omega
  subst hA
  obtain ⟨x0, hx0⟩ : ∃ x, x = l.getD 0 0 := ⟨_, rfl⟩
  rw [← hx0] at hc0
  have HX0 := Lib.hid hx0
  clear hx0
  obtain ⟨x1, hx1⟩ : ∃ x, x = l.getD 1 0 := ⟨_, rfl⟩
  rw [← hx1] at hc1
  have HX1 := Lib.hid hx1
  clear hx1
  obtain ⟨x2, hx2⟩ : ∃ x, x = l.getD 2 0 := ⟨_, rfl⟩
  rw [← hx2] at hc2
  have HX2 := Lib.hid hx2
  clear hx2
  simp only [Nat.add_zero] at hc0
  go_enter Tryz.func24, Tryz.ntmps24
  go_wp2_with (go_at_call 49; refine (fanin_any _ H0.out _ HT.out).mono ?_; rintro e w1 ⟨rfl, hm⟩; have hb : Below w.heap.size w w1 := (by obtain ⟨m, rfl⟩ := hm; exact below_drewN (Below.refl _ _) m); have hd0 : w1.cell? ⟨b, o, none⟩ = some (.int .u8 x0) := (by obtain ⟨m, rfl⟩ := hm; exact hc0); have hd1 : w1.cell? ⟨b, o + 1, none⟩ = some (.int .u8 x1) := (by obtain ⟨m, rfl⟩ := hm; exact hc1); have hd2 : w1.cell? ⟨b, o + 2, none⟩ = some (.int .u8 x2) := (by obtain ⟨m, rfl⟩ := hm; exact hc2); clear hm)
  go_quiet ((go_at_call 55; exact Calls.quiet_of_same ((mux_any _ _ _ _).mono fun _ _ h => ⟨h.1, h.2.symm⟩)))
  go_wp2
  go_ret
  exact ⟨ret_int (by rw [HY.out, HX0.out, HX1.out, HX2.out]; rfl), below_drewN hb _⟩

set_option maxHeartbeats 1000000 in
theorem eval_k12 {w : World} {B : Nat} {s : Value} {l : List Int} (n c : Nat) (A : Option Addr) (hsv : s = .slice A n c) (hB : B ≤ w.heap.size) (hs : Vs w B s l) (ht : Tabs w) (hl : 2 ≤ n) (hh : n ≤ 2) (b o : Nat) (hA : A = some ⟨b, o, none⟩) (hc0 : w.cell? ⟨b, o + 0, none⟩ = some (.int .u8 (l.getD 0 0))) (hc1 : w.cell? ⟨b, o + 1, none⟩ = some (.int .u8 (l.getD 1 0))) :
    Calls Tryz.prog 24 #[.int .u8 12, s] w fun e w' => e = .returned (.int .u8 (funL 12 l)) ∧ Below w.heap.size w w' := by
  obtain ⟨y, HY⟩ := named (funL 12 l)
  rw [← HY.out]
  have el : lo 12 = 2 := by decide
  have eh : hi 12 = 2 := by decide
  have HT := Lib.hid ht
  have H0 : Hid (0 ≤ (12 : Int)) := Lib.hid (by decide)
  have HS := Lib.hid hs
  have HB := Lib.hid hB
  clear ht hs hB
  subst hsv
  obtain rfl : n = 2 := by omega
  subst hA
  obtain ⟨x0, hx0⟩ : ∃ x, x = l.getD 0 0 := ⟨_, rfl⟩
  rw [← hx0] at hc0
  have HX0 := Lib.hid hx0
  clear hx0
  obtain ⟨x1, hx1⟩ : ∃ x, x = l.getD 1 0 := ⟨_, rfl⟩
  rw [← hx1] at hc1
  have HX1 := Lib.hid hx1
  clear hx1
  simp only [Nat.add_zero] at hc0
  go_enter Tryz.func24, Tryz.ntmps24
  go_wp2_with (go_at_call 49; refine (fanin_any _ H0.out _ HT.out).mono ?_; rintro e w1 ⟨rfl, hm⟩; have hb : Below w.heap.size w w1 := (by obtain ⟨m, rfl⟩ := hm; exact below_drewN (Below.refl _ _) m); have hd0 : w1.cell? ⟨b, o, none⟩ = some (.int .u8 x0) := (by obtain ⟨m, rfl⟩ := hm; exact hc0); have hd1 : w1.cell? ⟨b, o + 1, none⟩ = some (.int .u8 x1) := (by obtain ⟨m, rfl⟩ := hm; exact hc1); clear hm)
  go_quiet ((go_at_call 56; exact Calls.quiet_of_same ((tri_any _ _ _).mono fun _ _ h => ⟨h.1, h.2.symm⟩)))
  go_wp2
  go_ret
  exact ⟨ret_int (by rw [HY.out, HX0.out, HX1.out]; rfl), below_drewN hb _⟩

set_option maxHeartbeats 1000000 in
theorem eval_k13 {w : World} {B : Nat} {s : Value} {l : List Int} (n c : Nat) (A : Option Addr) (hsv : s = .slice A n c) (hB : B ≤ w.heap.size) (hs : Vs w B s l) (ht : Tabs w) (hl : 1 ≤ n) (hh : n ≤ 16) :
    Calls Tryz.prog 24 #[.int .u8 13, s] w fun e w' => e = .returned (.int .u8 (funL 13 l)) ∧ Below w.heap.size w w' := by
  obtain ⟨y, HY⟩ := named (funL 13 l)
  rw [← HY.out]
  have el : lo 13 = 1 := by decide
  have eh : hi 13 = 16 := by decide
  have HT := Lib.hid ht
  have H0 : Hid (0 ≤ (13 : Int)) := Lib.hid (by decide)
  have HS := Lib.hid hs
  have HB := Lib.hid hB
  clear ht hs hB
  subst hsv
  go_enter Tryz.func24, Tryz.ntmps24
  go_wp2_with (first
      | (go_at_call 49; refine (fanin_any _ H0.out _ HT.out).mono ?_; rintro e w' ⟨rfl, m, rfl⟩; have hb : Below w.heap.size w (w.drewN m) := below_drewN (Below.refl _ _) m)
      | (go_at_call 52; refine (and_rel HB.out HS.out _ (by assumption)).mono ?_; rintro e w' ⟨rfl, hb⟩)
      | (go_at_call 53; refine (or_rel HB.out HS.out _ (by assumption)).mono ?_; rintro e w' ⟨rfl, hb⟩)
      | (go_at_call 54; refine (xor_rel HB.out HS.out _ (by assumption)).mono ?_; rintro e w' ⟨rfl, hb⟩)
      | (go_at_call 57; refine (bus_rel HB.out HS.out _ (by assumption)).mono ?_; rintro e w' ⟨rfl, hb⟩)
      | (go_at_call 51; refine (not_any _ _).mono ?_; rintro e w' ⟨rfl, rfl⟩)
      | (go_at_call 50; refine (read_any _ _).mono ?_; rintro e w' ⟨rfl, rfl⟩))
  go_ret
  exact ⟨ret_int (by rw [HY.out]; rfl), by first | assumption | exact below_drewN (Below.refl _ _) _⟩

set_option maxHeartbeats 1000000 in
theorem eval_k14 {w : World} {B : Nat} {s : Value} {l : List Int} (n c : Nat) (A : Option Addr) (hsv : s = .slice A n c) (hB : B ≤ w.heap.size) (hs : Vs w B s l) (ht : Tabs w) (hl : 1 ≤ n) (hh : n ≤ 1) :
    Calls Tryz.prog 24 #[.int .u8 14, s] w fun e w' => e = .returned (.int .u8 (funL 14 l)) ∧ Below w.heap.size w w' := by
  obtain ⟨y, HY⟩ := named (funL 14 l)
  rw [← HY.out]
  have el : lo 14 = 1 := by decide
  have eh : hi 14 = 1 := by decide
  have HT := Lib.hid ht
  have H0 : Hid (0 ≤ (14 : Int)) := Lib.hid (by decide)
  have HS := Lib.hid hs
  have HB := Lib.hid hB
  clear ht hs hB
  subst hsv
  go_enter Tryz.func24, Tryz.ntmps24
  go_wp2_with (first
      | (go_at_call 49; refine (fanin_any _ H0.out _ HT.out).mono ?_; rintro e w' ⟨rfl, m, rfl⟩; have hb : Below w.heap.size w (w.drewN m) := below_drewN (Below.refl _ _) m)
      | (go_at_call 52; refine (and_rel HB.out HS.out _ (by assumption)).mono ?_; rintro e w' ⟨rfl, hb⟩)
      | (go_at_call 53; refine (or_rel HB.out HS.out _ (by assumption)).mono ?_; rintro e w' ⟨rfl, hb⟩)
      | (go_at_call 54; refine (xor_rel HB.out HS.out _ (by assumption)).mono ?_; rintro e w' ⟨rfl, hb⟩)
      | (go_at_call 57; refine (bus_rel HB.out HS.out _ (by assumption)).mono ?_; rintro e w' ⟨rfl, hb⟩)
      | (go_at_call 51; refine (not_any _ _).mono ?_; rintro e w' ⟨rfl, rfl⟩)
      | (go_at_call 50; refine (read_any _ _).mono ?_; rintro e w' ⟨rfl, rfl⟩))
  go_ret
  exact ⟨ret_int (by rw [HY.out]; rfl), by first | assumption | exact below_drewN (Below.refl _ _) _⟩

set_option maxHeartbeats 1000000 in
theorem eval_k15 {w : World} {B : Nat} {s : Value} {l : List Int} (n c : Nat) (A : Option Addr) (hsv : s = .slice A n c) (hB : B ≤ w.heap.size) (hs : Vs w B s l) (ht : Tabs w) (hl : 0 ≤ n) (hh : n ≤ 0) :
    Calls Tryz.prog 24 #[.int .u8 15, s] w fun e w' => e = .returned (.int .u8 (funL 15 l)) ∧ Below w.heap.size w w' := by
  obtain ⟨y, HY⟩ := named (funL 15 l)
  rw [← HY.out]
  have el : lo 15 = 0 := by decide
  have eh : hi 15 = 0 := by decide
  have HT := Lib.hid ht
  have H0 : Hid (0 ≤ (15 : Int)) := Lib.hid (by decide)
  have HS := Lib.hid hs
  have HB := Lib.hid hB
  clear ht hs hB
  subst hsv
  go_enter Tryz.func24, Tryz.ntmps24
  go_wp2_with (first
      | (go_at_call 49; refine (fanin_any _ H0.out _ HT.out).mono ?_; rintro e w' ⟨rfl, m, rfl⟩; have hb : Below w.heap.size w (w.drewN m) := below_drewN (Below.refl _ _) m)
      | (go_at_call 52; refine (and_rel HB.out HS.out _ (by assumption)).mono ?_; rintro e w' ⟨rfl, hb⟩)
      | (go_at_call 53; refine (or_rel HB.out HS.out _ (by assumption)).mono ?_; rintro e w' ⟨rfl, hb⟩)
      | (go_at_call 54; refine (xor_rel HB.out HS.out _ (by assumption)).mono ?_; rintro e w' ⟨rfl, hb⟩)
      | (go_at_call 57; refine (bus_rel HB.out HS.out _ (by assumption)).mono ?_; rintro e w' ⟨rfl, hb⟩)
      | (go_at_call 51; refine (not_any _ _).mono ?_; rintro e w' ⟨rfl, rfl⟩)
      | (go_at_call 50; refine (read_any _ _).mono ?_; rintro e w' ⟨rfl, rfl⟩))
  go_ret
  exact ⟨ret_int (by rw [HY.out]; rfl), by first | assumption | exact below_drewN (Below.refl _ _) _⟩

theorem eval_any {w : World} {B : Nat} {s : Value} {l : List Int} (k : Int) (h0 : 0 ≤ k) (hB : B ≤ w.heap.size) (hs : Vs w B s l) (ht : Tabs w) :
    Calls Tryz.prog 24 #[.int .u8 k, s] w fun e w' => e = .returned (.int .u8 (evalL k l)) ∧ Below w.heap.size w w' := by
  obtain ⟨b, o, c, hv, hm, hc⟩ := id hs
  have key : ∀ A, (0 < l.length → A = some ⟨b, o, none⟩) → s = .slice A l.length c → Calls Tryz.prog 24 #[.int .u8 k, s] w fun e w' => e = .returned (.int .u8 (evalL k l)) ∧ Below w.heap.size w w' := by
    intro A hA hsv
    by_cases hl : (l.length : Int) < lo k
    · rw [evalL, if_pos (.inl hl)]; exact eval_less _ _ _ hsv k h0 ht hl
    · by_cases hh : hi k < (l.length : Int)
      · rw [evalL, if_pos (.inr hh)]; exact eval_more _ _ _ hsv k h0 ht hl hh
      · rw [evalL, if_neg (by omega)]
        have hk : ¬ 15 < k := by intro hk; simp [hi, hk] at hh; omega
        rcases kinds h0 hk with rfl | rfl | rfl | rfl | rfl | rfl | rfl | rfl | rfl | rfl | rfl | rfl | rfl | rfl | rfl | rfl
        · have hl' : 0 ≤ l.length := by rw [show lo 0 = 0 by decide] at hl; omega
          have hh' : l.length ≤ 0 := by rw [show hi 0 = 0 by decide] at hh; omega
          exact eval_k0 _ _ _ hsv hB hs ht hl' hh'
        · have hl' : 0 ≤ l.length := by rw [show lo 1 = 0 by decide] at hl; omega
          have hh' : l.length ≤ 0 := by rw [show hi 1 = 0 by decide] at hh; omega
          exact eval_k1 _ _ _ hsv hB hs ht hl' hh'
        · have hl' : 0 ≤ l.length := by rw [show lo 2 = 0 by decide] at hl; omega
          have hh' : l.length ≤ 0 := by rw [show hi 2 = 0 by decide] at hh; omega
          exact eval_k2 _ _ _ hsv hB hs ht hl' hh'
        · have hl' : 1 ≤ l.length := by rw [show lo 3 = 1 by decide] at hl; omega
          have hh' : l.length ≤ 1 := by rw [show hi 3 = 1 by decide] at hh; omega
          exact eval_k3 _ _ _ hsv hB hs ht hl' hh' b o (hA (by omega)) (hc 0 (by omega)).2
        · have hl' : 1 ≤ l.length := by rw [show lo 4 = 1 by decide] at hl; omega
          have hh' : l.length ≤ 1 := by rw [show hi 4 = 1 by decide] at hh; omega
          exact eval_k4 _ _ _ hsv hB hs ht hl' hh' b o (hA (by omega)) (hc 0 (by omega)).2
        · have hl' : 2 ≤ l.length := by rw [show lo 5 = 2 by decide] at hl; omega
          have hh' : l.length ≤ 16 := by rw [show hi 5 = 16 by decide] at hh; omega
          exact eval_k5 _ _ _ hsv hB hs ht hl' hh'
        · have hl' : 2 ≤ l.length := by rw [show lo 6 = 2 by decide] at hl; omega
          have hh' : l.length ≤ 16 := by rw [show hi 6 = 16 by decide] at hh; omega
          exact eval_k6 _ _ _ hsv hB hs ht hl' hh'
        · have hl' : 2 ≤ l.length := by rw [show lo 7 = 2 by decide] at hl; omega
          have hh' : l.length ≤ 16 := by rw [show hi 7 = 16 by decide] at hh; omega
          exact eval_k7 _ _ _ hsv hB hs ht hl' hh'
        · have hl' : 2 ≤ l.length := by rw [show lo 8 = 2 by decide] at hl; omega
          have hh' : l.length ≤ 16 := by rw [show hi 8 = 16 by decide] at hh; omega
          exact eval_k8 _ _ _ hsv hB hs ht hl' hh'
        · have hl' : 2 ≤ l.length := by rw [show lo 9 = 2 by decide] at hl; omega
          have hh' : l.length ≤ 16 := by rw [show hi 9 = 16 by decide] at hh; omega
          exact eval_k9 _ _ _ hsv hB hs ht hl' hh'
        · have hl' : 2 ≤ l.length := by rw [show lo 10 = 2 by decide] at hl; omega
          have hh' : l.length ≤ 16 := by rw [show hi 10 = 16 by decide] at hh; omega
          exact eval_k10 _ _ _ hsv hB hs ht hl' hh'
        · have hl' : 3 ≤ l.length := by rw [show lo 11 = 3 by decide] at hl; omega
          have hh' : l.length ≤ 3 := by rw [show hi 11 = 3 by decide] at hh; omega
          exact eval_k11 _ _ _ hsv hB hs ht hl' hh' b o (hA (by omega)) (hc 0 (by omega)).2 (hc 1 (by omega)).2 (hc 2 (by omega)).2
        · have hl' : 2 ≤ l.length := by rw [show lo 12 = 2 by decide] at hl; omega
          have hh' : l.length ≤ 2 := by rw [show hi 12 = 2 by decide] at hh; omega
          exact eval_k12 _ _ _ hsv hB hs ht hl' hh' b o (hA (by omega)) (hc 0 (by omega)).2 (hc 1 (by omega)).2
        · have hl' : 1 ≤ l.length := by rw [show lo 13 = 1 by decide] at hl; omega
          have hh' : l.length ≤ 16 := by rw [show hi 13 = 16 by decide] at hh; omega
          exact eval_k13 _ _ _ hsv hB hs ht hl' hh'
        · have hl' : 1 ≤ l.length := by rw [show lo 14 = 1 by decide] at hl; omega
          have hh' : l.length ≤ 1 := by rw [show hi 14 = 1 by decide] at hh; omega
          exact eval_k14 _ _ _ hsv hB hs ht hl' hh'
        · have hl' : 0 ≤ l.length := by rw [show lo 15 = 0 by decide] at hl; omega
          have hh' : l.length ≤ 0 := by rw [show hi 15 = 0 by decide] at hh; omega
          exact eval_k15 _ _ _ hsv hB hs ht hl' hh'
  rcases hv with rfl | ⟨rfl, A, rfl⟩
  · exact key _ (fun _ => rfl) rfl
  · exact key _ (fun h => absurd h (by simp)) rfl

end Go.Proofs.YtfcdhoaccmckoaaGreatDoor.Lg
