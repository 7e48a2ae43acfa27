/- sims: assign, Observe, the values above Z. -/
import Derived.Test.YtfcdhoaccmckoaaGreatDoorSmx
namespace Go.Proofs.YtfcdhoaccmckoaaGreatDoor
open Go.RowKit

theorem grown_v {w wr : World} {g : Nat} (h : w.grownBy wr (some g)) (j : Nat) (v : Value) : w.grownBy (wr.setCell ⟨g, j, none⟩ v) (some g) := by
  obtain ⟨h1, h2, h3, h4, h5⟩ := h
  exact ⟨h1, h2, h3, by simpa [World.setCell] using h4, fun i hi hne => (Below.heap_setCell _ _ _ _ (fun e => hne (by rw [e]))).trans (h5 i hi hne)⟩
theorem own_fr {w : World} {base : Nat} {e : TypeId} {size g n : Nat} {xs : List Value} (h : w.ownsRow base e size (.slice (some ⟨g, 0, none⟩) n n) n xs) : Fr w g e xs := by
  obtain ⟨h1, h2⟩ := h
  rcases h2 with ⟨e', -⟩ | ⟨g', cap, cur, e', hb, hg, hle, hm, hs, ht⟩
  · cases e'
  · simp only [Value.slice.injEq, Option.some.injEq, Addr.mk.injEq, and_true, true_and] at e'
    obtain ⟨rfl, rfl⟩ := e'
    have hc : cur = xs.toArray := by
      apply Array.ext'
      rw [← ht, List.take_of_length_le (by rw [Array.length_toList]; omega)]
    rw [hc] at hg
    exact hg
theorem VRow.not_int {w : World} {g j : Nat} {l : List Int} {x : Int} (h : VRow w g l) : w.cell? ⟨g, j, none⟩ ≠ some (.int .i64 x) := fun e => by
  have h1 := (own_fr h).cell j
  rw [e, List.getElem?_map] at h1
  cases h2 : l[j]? with
  | none => rw [h2] at h1; cases h1
  | some y => rw [h2] at h1; simp at h1
def asgTo (out l vs : List Int) (k : Nat) : List Int := ((l.zip vs).take k).foldl (fun o p => o.set p.1.toNat p.2) out
theorem asgTo_len (out l vs : List Int) (k : Nat) : (asgTo out l vs k).length = out.length := by
  unfold asgTo
  induction (l.zip vs).take k generalizing out with
  | nil => rfl
  | cons p t ih => rw [List.foldl_cons, ih, List.length_set]
theorem asgTo_succ {out l vs : List Int} {k : Nat} (h1 : k < l.length) (h2 : k < vs.length) : asgTo out l vs (k + 1) = (asgTo out l vs k).set (l.getD k 0).toNat (lat vs k) := by
  unfold asgTo
  have hz : k < (l.zip vs).length := by rw [List.length_zip]; omega
  rw [List.take_succ_eq_append_getElem hz, List.foldl_append]
  have e : (l.zip vs)[k] = (l.getD k 0, lat vs k) := by
    rw [List.getElem_zip]
    unfold lat
    rw [Int.toNat_natCast, List.getD_eq_getElem?_getD, List.getD_eq_getElem?_getD, List.getElem?_eq_getElem h1, List.getElem?_eq_getElem h2]; rfl
  rw [e]; rfl
theorem asgTo_all {out l vs : List Int} (h : l.length = vs.length) : asgTo out l vs l.length = asg out l vs := by
  unfold asgTo asg
  rw [List.take_of_length_le (by rw [List.length_zip]; omega)]

set_option maxHeartbeats 2000000 in
theorem assign_any (out l vs : List Int) (A Av : Option Addr) (cl cv g m n mv B : Nat) (w : World) (hr : VRow w g out) (hl : Is w w.heap.size (.slice A m cl) l) (hv : Ks w B (.slice Av mv cv) vs) (hBg : B ≤ g) (hm : m = l.length) (hmv : mv = m) (hmv2 : mv = vs.length) (hn : n = out.length)
    (hin : ∀ x ∈ l, 0 ≤ x ∧ x < (n : Int)) :
    Calls Tryz.prog 19 #[.slice (some ⟨g, 0, none⟩) n n, .slice A m cl, .slice Av mv cv] w fun e w' => e = .returned (.tuple #[]) ∧ VRow w' g (asg out l vs) ∧ w.grownBy w' (some g) := by
  subst hmv
  obtain ⟨A', b, o, c', e, hA1, -, hm1, hc1⟩ := hl.opens
  rw [← hm] at e hA1 hc1 hm1
  simp only [Value.slice.injEq, true_and] at e
  obtain ⟨rfl, rfl⟩ := e
  obtain ⟨Av', bv, ov, cv', e, hA2, -, hm2, hc2⟩ := hv.opens
  rw [← hmv2] at e hA2 hc2 hm2
  simp only [Value.slice.injEq, true_and] at e
  obtain ⟨rfl, rfl⟩ := e
  have HA1 := Lib.hid hA1
  have HC1 := Lib.hid hc1
  have HA2 := Lib.hid hA2
  have HC2 := Lib.hid hc2
  have HM := Lib.hid hm
  have HMV := Lib.hid hmv2
  have HN := Lib.hid hn
  have HNG : Hid (∀ k, k < mv → b ≠ g) := Lib.hid fun k hk e => hr.not_int (by have := (hc1 k hk).2; rw [e] at this; exact this)
  have HNV : Hid (∀ k, k < mv → bv ≠ g) := Lib.hid fun k hk => by have := (hc2 k hk).1; omega
  have HIN := Lib.hid hin
  have HR := Lib.hid hr
  have hnm := hr.len
  rw [← hn] at hnm
  unfold maxLen at hm1 hnm
  clear hA1 hc1 hA2 hc2 hm hmv2 hn hin hr hl hv hm2
  go_enter Tryz.func19, Tryz.ntmps19
  go_wp2
  go_loopw [10] (fun i wr => ∃ k : Nat, k ≤ mv ∧ i = .int .i64 k ∧ w.grownBy wr (some g) ∧ VRow wr g (asgTo out l vs k)) (fun i _ => mv - (intOf i).toNat)
  case atStart => exact ⟨0, Nat.zero_le _, rfl, World.grownBy.refl _ _, HR.out⟩
  case round =>
    clear HR
    obtain ⟨k, hk, rfl, hg, hr⟩ := hrel
    have HG := Lib.hid hg
    have HR := Lib.hid hr
    by_cases hlt : k < mv
    · obtain rfl := HA1.out (by omega)
      obtain rfl := HA2.out (by omega)
      have hx := hg.cell (HC1.out k hlt).2 (by simpa using HNG.out k hlt)
      have hy := hg.cell (HC2.out k hlt).2 (by simpa using HNV.out k hlt)
      have hmem : l.getD k 0 ∈ l := by rw [List.getD_eq_getElem?_getD, List.getElem?_eq_getElem (by rw [← HM.out]; exact hlt)]; exact List.getElem_mem _
      obtain ⟨j0, j1⟩ := HIN.out _ hmem
      obtain ⟨x, hxx⟩ := Int.eq_ofNat_of_zero_le j0
      have HX := Lib.hid hxx
      rw [hxx] at hx j1
      have hxn : x < n := by omega
      have hlen : (asgTo out l vs k).length = n := by rw [asgTo_len, HN.out]
      have hcl := hr.cell (j := x) (by rw [hlen]; exact hxn)
      have hfz := hr.frozen x
      obtain ⟨u, HU⟩ := named (vs.getD k 0)
      rw [← HU.out] at hy
      obtain ⟨old, HOLD⟩ := named (lat (asgTo out l vs k) (x : Int))
      rw [← HOLD.out] at hcl
      clear hg hr hmem j0 j1 hxx hlen
      go_wp2
      go_roundw
      case rel =>
        refine ⟨k + 1, by omega, by go_num, grown_v HG.out x _, ?_⟩
        rw [asgTo_succ (by rw [← HM.out]; exact hlt) (by rw [← HMV.out]; exact hlt), HX.out, Int.toNat_natCast]
        have e : lat vs (k : Int) = u := by unfold lat; rw [Int.toNat_natCast]; exact HU.out.symm
        rw [e]
        exact HR.out.set x u
      case measure => simp [intOf]; omega
    · obtain rfl : mv = k := by omega
      go_wp2
      go_end0
      refine ⟨rfl, ?_, HG.out⟩
      have h := HR.out
      rw [HM.out, asgTo_all (by rw [← HM.out, ← HMV.out])] at h
      exact h

set_option maxRecDepth 100000 in
set_option maxHeartbeats 4000000 in
theorem observe_any (c : Ck) (nets : List Int) (A0 A1 A2 A3 A : Option Addr) (c0 c1 c2 c3 n cc : Nat) (w : World) (B : Nat) (hB : B ≤ w.heap.size)
    (hc : Cir w B (.agg #[.slice A0 c.nodes.length c0, .slice A1 c.names.length c1, .slice A2 c.mems.length c2, .slice A3 c.outs.length c3]) c) (hs : Ks w B (.slice A n cc) nets) (hsz : c.nodes.length ≤ 1000000) (hos : c.outs.length ≤ 17592186044416) :
    Calls Tryz.prog 9 #[.agg #[.slice A0 c.nodes.length c0, .slice A1 c.names.length c1, .slice A2 c.mems.length c2, .slice A3 c.outs.length c3], .slice A n cc] w (RespPost (outV c nets) (nextV c nets) w) := by
  obtain ⟨W1, HW1⟩ := named ((w.alloc (.cells #[.slice A0 c.nodes.length c0, .slice A1 c.names.length c1, .slice A2 c.mems.length c2, .slice A3 c.outs.length c3] 35)).alloc (.cells #[.slice none 0 0, .slice none 0 0] 42))
  have hb1 : Below w.heap.size w W1 := by rw [HW1.out]; exact below_new (below_new (Below.refl _ _) _) _
  have hfc : Fr W1 w.heap.size 35 [.slice A0 c.nodes.length c0, .slice A1 c.names.length c1, .slice A2 c.mems.length c2, .slice A3 c.outs.length c3] := by rw [HW1.out]; exact Fr.alloc (Fr.made _ _ _ rfl) _
  have hfr : Fr W1 (w.heap.size + 1) 42 [.slice none 0 0, .slice none 0 0] := by rw [HW1.out]; exact Fr.made _ _ _ (by simp)
  have hz1 : W1.heap.size = w.heap.size + 1 + 1 := by rw [HW1.out]; simp
  have HSO := Lib.hid (stateOf_any nets A0 A1 A2 A3 A c.nodes.length c.names.length c.mems.length c.outs.length n c0 c1 c2 c3 cc W1 B (Nat.le_trans hB hb1.size) (Arr.keep stays_u8 hs (Nat.le_refl _) fun _ hp => hb1.cell (Nat.lt_of_lt_of_le hp hB)))
  have HRE : Hid (∀ W q, Below W1.heap.size W1 W → Nv W q nets → Calls Tryz.prog 26 #[.agg #[.slice A0 c.nodes.length c0, .slice A1 c.names.length c1, .slice A2 c.mems.length c2, .slice A3 c.outs.length c3, .func (.func 47) #[] #[.pointer (some ⟨q, 0, none⟩)]]] W (RespPost (outV c nets) (nextV c nets) W)) :=
    Lib.hid fun W q hb hn => response_any c nets A0 A1 A2 A3 c0 c1 c2 c3 q W B (Nat.le_trans hB (joinB hb1 hb).size) hn (hc.below ((joinB hb1 hb).mono hB)) hsz hos
  have HB1 := Lib.hid hb1
  clear hc hs hb1
  obtain ⟨lo, HLO⟩ := named (outV c nets)
  obtain ⟨ln, HLN⟩ := named (nextV c nets)
  rw [← HLO.out, ← HLN.out] at HRE
  rw [← HLO.out, ← HLN.out]
  generalize c.nodes.length = n0 at HW1 hfc HSO HRE ⊢
  generalize c.names.length = n1 at HW1 hfc HSO HRE ⊢
  generalize c.mems.length = n2 at HW1 hfc HSO HRE ⊢
  generalize c.outs.length = n3 at HW1 hfc HSO HRE ⊢
  have x0 := hfc.cell 0
  have x1 := hfc.cell 1
  have x2 := hfc.cell 2
  have x3 := hfc.cell 3
  have HFR := Lib.hid hfr
  have HZ1 := Lib.hid hz1
  clear hfc hfr hz1
  go_enter Tryz.func9, Tryz.ntmps9
  go_upto_region 1 with (fail)
  rw [← HW1.out]
  go_wp2_with (first
    | (go_at_call 22; (with_reducible refine HSO.out.mono ?_); rintro e w2 ⟨⟨q, rfl, hn, hqz, -⟩, hb⟩; have HNV := Lib.hid hn; have HB2 := Lib.hid hb; clear hn hb)
    | (go_at_call 26; (with_reducible refine (HRE.out _ _ HB2.out HNV.out).mono ?_); rintro e w3 ⟨g, h, rfl, hg, hh, hgz, hhz, hgh, hb⟩; have HGR := Lib.hid hg; have HHR := Lib.hid hh; have HGH := Lib.hid hgh; have HB3 := Lib.hid hb; have hfx := (HFR.out.below (joinB HB2.out hb)); have r0 := hfx.cell 0; have r1 := hfx.cell 1; have f0 := hfx.frozen 0; have f1 := hfx.frozen 1; have HFX := Lib.hid hfx; clear hg hh hgh hb hfx))
  have hq := (HFX.out.set 0 (.slice (some ⟨g, 0, none⟩) lo.length lo.length)).set 1 (.slice (some ⟨h, 0, none⟩) ln.length ln.length)
  (try simp only [Exit.inBlock, Exit.then])
  refine bodyPost_ret (results_cell_row rfl _ _ _ _ _ _ _ rfl hq Tryz.underlying42 rfl (by kernel_rfl)) rfl ?_
  have hzb := HB2.out.size
  have hz1 := HZ1.out
  have hb5 := joinB HB1.out (joinB HB2.out HB3.out)
  have n1 : w.heap.size + 1 ≠ g := by omega
  have n2 : w.heap.size + 1 ≠ h := by omega
  exact ⟨g, h, rfl, (HGR.out.other (a := ⟨_, 0, none⟩) n1 _).other (a := ⟨_, 1, none⟩) n1 _, (HHR.out.other (a := ⟨_, 0, none⟩) n2 _).other (a := ⟨_, 1, none⟩) n2 _, by omega, by omega, HGH.out, (hb5.setCell (Nat.le_succ _) _).setCell (Nat.le_succ _) _⟩

def abv (v : Int) : Bool := decide (3 < v)
theorem abv_any (v : Int) (w : World) : Calls Tryz.prog 44 #[.int .u8 v] w fun e w' => e = .returned (.bool (abv v)) ∧ w = w' := by
  by_cases h : 3 < v
  · have hv : abv v = true := decide_eq_true h
    rw [hv]
    go_enter Tryz.func44, Tryz.ntmps44
    go_wp2
    go_ret
    exact ⟨ret_bool (by simp), rfl⟩
  · have hv : abv v = false := decide_eq_false h
    rw [hv]
    go_enter Tryz.func44, Tryz.ntmps44
    go_wp2
    go_ret
    exact ⟨ret_bool (by simp), rfl⟩
set_option maxHeartbeats 1000000 in
theorem indexV_any (l : List Int) (s : Value) (w : World) (B : Nat) (hs : Ks w B s l) :
    Calls Tryz.prog 69 #[s, .func (.func 44) #[] #[]] w (IdxP (anyP abv l) w) := by
  obtain ⟨A, b, o, c, rfl, hA, -, hm, hc⟩ := hs.opens
  unfold maxLen at hm
  have HC := Lib.hid hc
  have HAA := Lib.hid hA
  clear hc hA hs
  obtain ⟨n, hn⟩ : ∃ n, n = l.length := ⟨_, rfl⟩
  rw [← hn] at hm
  rw [← hn]
  have HN := Lib.hid hn
  have HAB := Lib.hid abv_any
  clear hn
  go_enter Tryz.func69, Tryz.ntmps69
  go_wp2
  go_loopw [8] (fun i wr => wr = w ∧ ∃ k : Nat, k ≤ n ∧ i = .int .i64 k ∧ ∀ j, j < k → abv (l.getD j 0) = false) (fun i _ => n - (intOf i).toNat)
  case atStart => exact ⟨rfl, 0, Nat.zero_le _, rfl, fun j hj => absurd hj (by omega)⟩
  case round =>
    obtain ⟨rfl, k, hk, rfl, hno⟩ := hrel
    have HNO := Lib.hid hno
    clear hno
    by_cases hlt : k < n
    · obtain rfl := HAA.out (by rw [← HN.out]; omega)
      have hcell := (HC.out k (by rw [← HN.out]; omega)).2
      obtain ⟨y, HX⟩ := named (l.getD k 0)
      rw [← HX.out] at hcell
      have HA1 := Lib.hid (fun w => HAB.out y w)
      cases hv : abv y
      · have HV := Lib.hid hv
        rw [hv] at HA1
        go_wp2_with (go_at_call 44; (with_reducible refine (HA1.out _).mono ?_); rintro e w' ⟨rfl, rfl⟩)
        go_roundw
        case rel =>
          refine ⟨by trivial, k + 1, by omega, by go_num, fun j hj => ?_⟩
          by_cases hjk : j = k
          · rw [hjk, ← HX.out]; exact HV.out
          · exact HNO.out j (by omega)
        case measure => simp [intOf]; omega
      · have HV := Lib.hid hv
        rw [hv] at HA1
        go_wp2_with (go_at_call 44; (with_reducible refine (HA1.out _).mono ?_); rintro e w' ⟨rfl, rfl⟩)
        go_ret
        exact ⟨k, rfl, ⟨fun _ => anyP_yes k (by rw [← HN.out]; omega) (by rw [← HX.out]; exact HV.out), fun _ => by omega⟩, rfl⟩
    · go_wp2
      go_ret
      exact ⟨-1, rfl, ⟨fun h => absurd h (by omega), fun h => by rw [anyP_no (fun j hj => HNO.out j (by rw [← HN.out] at hj; omega))] at h; cases h⟩, rfl⟩
set_option maxHeartbeats 400000 in
theorem containsV_any (l : List Int) (s : Value) (w : World) (B : Nat) (hs : Ks w B s l) :
    Calls Tryz.prog 45 #[s, .func (.func 44) #[] #[]] w fun e w' => e = .returned (.bool (anyP abv l)) ∧ w = w' := by
  obtain ⟨y, HY⟩ := named (anyP abv l)
  rw [← HY.out]
  have HI := Lib.hid (indexV_any l s w B hs)
  clear hs
  rw [← HY.out] at HI
  go_enter Tryz.func45, Tryz.ntmps45
  go_wp2_with (go_at_call 69; (with_reducible refine HI.out.mono ?_); rintro e w' ⟨i, rfl, hi, rfl⟩; have HI2 := Lib.hid hi; clear hi)
  go_ret
  exact ⟨ret_bool (Bool.eq_iff_iff.2 (by simpa using HI2.out)), rfl⟩
end Go.Proofs.YtfcdhoaccmckoaaGreatDoor

