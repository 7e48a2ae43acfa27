/- The walk of logic.Text; rows of cells that are filled one after another. -/
import Derived.Test.YtnddgkcgedkabaaDoorEval
import Derived.Laws.BytesArg
import Derived.OwnWalk
namespace Go.Proofs.YtnddgkcgedkabaaDoor
open Go.RowKit

/-- The k-th byte of a string. -/
def chr (s : ByteArray) (k : Nat) : Int := ((s.data.toList.getD k 0).toNat : Int)
theorem chr_at (s : ByteArray) (k : Nat) (h : k < s.size) : ((s[k]'h).toNat : Int) = chr s k := by
  unfold chr
  rw [List.getD_eq_getElem?_getD, List.getElem?_eq_getElem (by simpa using h)]
  rfl

/-- A row of n cells, the first k of which are filled. -/
def fillL (f : Nat → Value) (z : Value) (n k : Nat) : List Value := (List.range n).map fun j => if j < k then f j else z
theorem fillL_len (f : Nat → Value) (z : Value) (n k : Nat) : (fillL f z n k).length = n := by simp [fillL]
theorem fillL_get (f : Nat → Value) (z : Value) (n k j : Nat) (h : j < n) : (fillL f z n k)[j]? = some (if j < k then f j else z) := by
  simp [fillL, List.getElem?_map, List.getElem?_range h]
theorem fillL_set (f : Nat → Value) (z : Value) (n k : Nat) : (fillL f z n k).set k (f k) = fillL f z n (k + 1) := by
  apply List.ext_getElem?
  intro j
  by_cases hj : j < n
  · rw [List.getElem?_set, fillL_get _ _ _ _ _ hj, fillL_get _ _ _ _ _ hj, fillL_len]
    by_cases hk : k = j
    · subst hk; simp [hj]
    · rw [if_neg hk]
      by_cases h1 : j < k
      · rw [if_pos h1, if_pos (by omega)]
      · rw [if_neg h1, if_neg (by omega)]
  · rw [List.getElem?_eq_none (by simp [fillL_len]; omega), List.getElem?_eq_none (by simp [fillL_len]; omega)]
theorem fillL_start (f : Nat → Value) (z : Value) (n : Nat) : (madeCells #[z] n).toList = fillL f z n 0 := by
  apply List.ext_getElem?
  intro j
  by_cases hj : j < n
  · rw [fillL_get _ _ _ _ _ hj]; simp [madeCells, hj, Nat.mod_one]
  · rw [List.getElem?_eq_none (by simp [madeCells]; omega), List.getElem?_eq_none (by simp [fillL_len]; omega)]

theorem info_value : (Tryd.prog.info? 26).map (fun i => (i.zero, i.size, i.bytes)) = some (some (.int .u8 0), 1, 1) := by kernel_rfl
theorem info_byte : (Tryd.prog.info? 5).map (fun i => (i.zero, i.size, i.bytes)) = some (some (.int .u8 0), 1, 1) := by kernel_rfl

/-- The character of a value. -/
def tch (v : Int) : Int := charsL.getD (cln v).toNat 0

set_option maxHeartbeats 1000000 in
theorem text_any {w : World} {B : Nat} {s : Value} {l : List Int} (hB : B ≤ w.heap.size) (hs : Vs w B s l) (hsz : l.length ≤ 1000) (hpos : ∀ k, k < l.length → 0 ≤ l.getD k 0) (ht : Tabs w) :
    Calls Tryd.prog 31 #[s] w fun e w' => e = .returned (.string (strOfNums (l.map tch))) ∧ Below w.heap.size w w' := by
  obtain ⟨b, o, c, hv, hm, hc⟩ := hs
  clear hm
  obtain ⟨n, hn⟩ : ∃ n, n = l.length := ⟨_, rfl⟩
  have key : ∀ A, (0 < n → A = some ⟨b, o, none⟩) → s = .slice A n c → Calls Tryd.prog 31 #[s] w fun e w' => e = .returned (.string (strOfNums (l.map tch))) ∧ Below w.heap.size w w' := by
    intro A hA hsA
    subst hsA
    obtain ⟨y, HY⟩ := named (strOfNums (l.map tch))
    rw [← HY.out]
    obtain ⟨i0, hi, hz0, hz1, hz2⟩ := info_parts info_byte
    rw [← hn] at hsz hpos hc
    have HA := Lib.hid hA
    have HT := Lib.hid ht
    have HC := Lib.hid hc
    have HN := Lib.hid hn
    have HP := Lib.hid hpos
    have HB := Lib.hid hB
    clear ht hc hn hpos hB hA hv
    go_enter Tryd.func31, Tryd.ntmps31
    go_wp2_with (at_make; refine wpList_make_full _ rfl _ _ 63 rfl w.heap.size 5 i0 (.int .u8 0) 1 Tryd.underlying63 hi hz0 hz1 .i64 .i64 _ _ n rfl rfl rfl rfl ?b2 ?b3 ?b4 ?_)
    case b2 => rw [hz2]; omega
    case b3 => unfold maxLen; omega
    case b4 => exact Nat.le_refl _
    intro w1 hown hgr
    rw [fillL_start (fun j => .int .u8 (tch (l.getD j 0)))] at hown
    have hb1 : Below w.heap.size w w1 := (Below.refl _ _).grown hgr (Nat.le_refl _) (fun k h => by cases h)
    obtain ⟨g, hg⟩ : ∃ g, g = w.heap.size := ⟨_, rfl⟩
    rw [← hg] at hown hb1
    rw [← hg]
    have HO := Lib.hid hown
    have HBL := Lib.hid hb1
    have HG := Lib.hid hg
    clear hown hgr hb1 hz0 hz1 hz2 hi hg
    go_wp2
    go_loopw [11] (fun i wr => ∃ k : Nat, k ≤ n ∧ i = .int .i64 k ∧ Below g w wr ∧
      wr.ownsRow g 5 1 (.slice (some ⟨g, 0, none⟩) n n) n (fillL (fun j => .int .u8 (tch (l.getD j 0))) (.int .u8 0) n k)) (fun i _ => n - (intOf i).toNat)
    case atStart => exact ⟨0, Nat.zero_le _, rfl, HBL.out, HO.out⟩
    case round =>
      clear HO HBL
      obtain ⟨k, hk, rfl, hb, hown⟩ := hrel
      have HBL := Lib.hid hb
      have HO := Lib.hid hown
      clear hb hown
      by_cases hlt : k < n
      · obtain rfl := HA.out (by omega)
        have ht : Tabs wr := HT.out.below (by rw [← HG.out]; exact HBL.out)
        have hfz : wr.frozen? ⟨g, k, none⟩ = false := HO.out.frozenAt k
        have hcl : wr.cell? ⟨g, k, none⟩ = some (.int .u8 0) := by
          rw [HO.out.cellAt k (by omega), fillL_get _ _ _ _ _ hlt, if_neg (by omega)]
        have hcv : wr.cell? ⟨b, o + k, none⟩ = some (.int .u8 (l.getD k 0)) :=
          (HBL.out.cell (p := ⟨b, o + k, none⟩) (by rw [HG.out]; exact Nat.lt_of_lt_of_le (HC.out k hlt).1 HB.out)).trans (HC.out k hlt).2
        have hp := cln_cases _ (HP.out k hlt)
        have HS := Lib.hid (HO.out.stored k (.int .u8 (tch (l.getD k 0)))).1
        obtain ⟨v, hv⟩ : ∃ v, v = l.getD k 0 := ⟨_, rfl⟩
        rw [← hv] at hcv hp HS
        have HV := Lib.hid hv
        clear hv
        rcases hp with h | h | h | h
        all_goals
          obtain ⟨q, HQ⟩ := named (tch v)
          rw [← HQ.out] at HS
          obtain rfl : q = _ := HQ.out.trans (by unfold tch; rw [h]; first | done | rfl)
          have hch := ht.2.2 (cln v).toNat (by rw [h]; decide)
          rw [h] at hch
          simp only [charsL, Int.toNat_zero, Int.toNat_one, Int.reduceToNat, List.getD_cons_zero, List.getD_cons_succ] at hch
          have HT' := Lib.hid ht
          clear ht
          go_wp2_with (go_at_call 13; refine (clean_any _ _).mono ?_; rintro e w' ⟨rfl, rfl⟩; rw [h])
          go_roundw
          case rel =>
            refine ⟨k + 1, by omega, by go_num, HBL.out.setCell (Nat.le_refl g) _, ?_⟩
            have e := fillL_set (fun j => .int .u8 (tch (l.getD j 0))) (.int .u8 0) n k
            rw [← HV.out, ← HQ.out] at e
            rw [← e]; exact HS.out
          case measure => simp [intOf]; omega
      · have hkn : k = n := by omega
        subst hkn
        have hcv := run_convert_bytes_arg (P := Tryd.prog) wr 63 5 Tryd.underlying63 Tryd.underlying5 g 0 k k (l.map tch) (by rw [List.length_map, HN.out]) (fun i hi => by
          rw [Nat.zero_add, HO.out.cellAt i (by omega), fillL_get _ _ _ _ _ hi, if_pos hi]
          rw [List.getD_eq_getElem?_getD, List.getD_eq_getElem?_getD, List.getElem?_map, List.getElem?_eq_getElem (by rw [← HN.out]; exact hi)]
          rfl) 9 Tryd.underlying9
        rw [← HY.out] at hcv
        go_wp2
        go_ret
        exact ⟨rfl, by rw [← HG.out]; exact HBL.out⟩
  rcases hv with rfl | ⟨rfl, A, rfl⟩
  · exact key _ (fun _ => rfl) (by rw [hn])
  · exact key _ (fun h => absurd h (by simp [hn])) (by rw [hn]; rfl)

end Go.Proofs.YtnddgkcgedkabaaDoor
