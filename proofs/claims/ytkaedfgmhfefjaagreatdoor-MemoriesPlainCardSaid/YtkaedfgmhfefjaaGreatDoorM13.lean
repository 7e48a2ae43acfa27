/- The texts Smx Smy Own Smz Sma. -/
import Derived.Test.YtkaedfgmhfefjaaGreatDoorM12
import Derived.Laws.EntriesVeiled
import Derived.Deep.RegionHeld3
import Derived.Deep.DeepCutAuto
import Derived.Deep.CutBlock
namespace Go.Proofs.YtkaedfgmhfefjaaGreatDoor
open Go.RowKit
set_option maxRecDepth 100000 in
set_option maxHeartbeats 4000000 in
theorem stateOf_any (nets : List Int) (A0 A1 A2 A3 A : Option Addr) (n0 n1 n2 n3 n c0 c1 c2 c3 c : Nat) (w : World) (B : Nat) (hB : B ≤ w.heap.size) (hs : Ks w B (.slice A n c) nets) :
    Calls Tryz.prog 69 #[.agg #[.slice A0 n0 c0, .slice A1 n1 c1, .slice A2 n2 c2, .slice A3 n3 c3], .slice A n c] w
      fun e w' => (∃ q, e = .returned (.agg #[.slice A0 n0 c0, .slice A1 n1 c1, .slice A2 n2 c2, .slice A3 n3 c3, .func (.func 110) #[] #[.pointer (some ⟨q, 0, none⟩)]]) ∧ Nv w' q nets ∧ w.heap.size ≤ q ∧ w'.cell? ⟨q, 0, none⟩ = some (.slice A n c)) ∧ Below w.heap.size w w' := by
  have HS := Lib.hid hs
  clear hs
  go_enter Tryz.func69, Tryz.ntmps69
  go_wp2
  obtain ⟨V, HV⟩ := named ((w.alloc (.cells #[.slice A0 n0 c0, .slice A1 n1 c1, .slice A2 n2 c2, .slice A3 n3 c3] 39)).alloc (.cells #[.slice A n c] 41))
  rw [← HV.out]
  have hbv : Below w.heap.size w V := by rw [HV.out]; exact below_new (below_new (Below.refl _ _) _) _
  have hvz : V.heap.size = w.heap.size + 1 + 1 := by rw [HV.out]; simp
  have hcv : V.cell? ⟨w.heap.size + 1, 0, none⟩ = some (.slice A n c) := by rw [HV.out, World.cell?_alloc_at _ _ _ _ (by simp)]; rfl
  rw [← hvz]
  have hq := Fr.made V [.slice A0 n0 c0, .slice A1 n1 c1, .slice A2 n2 c2, .slice A3 n3 c3, .func (.func 110) #[] #[.pointer (some ⟨w.heap.size + 1, 0, none⟩)]] 121 rfl
  (try simp only [Exit.inBlock, Exit.then])
  refine bodyPost_ret (results_cell_row rfl _ _ _ _ _ _ _ rfl hq Tryz.underlying121 rfl (by kernel_rfl)) rfl ?_
  have hlen : n = nets.length := by obtain ⟨_, _, _, _, e, -⟩ := id HS.out; simp only [Value.slice.injEq] at e; exact e.2.1
  subst hlen
  have hbW := below_new hbv (.cells #[.slice A0 n0 c0, .slice A1 n1 c1, .slice A2 n2 c2, .slice A3 n3 c3, .func (.func 110) #[] #[.pointer (some ⟨w.heap.size + 1, 0, none⟩)]] 121)
  refine ⟨⟨w.heap.size + 1, rfl, ⟨A, c, ?_, ?_⟩, Nat.le_succ _, ?_⟩, hbW⟩
  · exact ((below_new (Below.refl V.heap.size V) _).cell (p := ⟨w.heap.size + 1, 0, none⟩) (by show w.heap.size + 1 < V.heap.size; omega)).trans hcv
  · exact Arr.keep stays_u8 HS.out (Nat.le_trans hB hbW.size) fun _ hp => hbW.cell (Nat.lt_of_lt_of_le hp hB)
  · exact ((below_new (Below.refl V.heap.size V) _).cell (p := ⟨w.heap.size + 1, 0, none⟩) (by show w.heap.size + 1 < V.heap.size; omega)).trans hcv
theorem VRow.other {w : World} {g : Nat} {l : List Int} (h : VRow w g l) {a : Addr} (ha : a.block ≠ g) (v : Value) : VRow (w.setCell a v) g l :=
  h.kept (row := some a.block) ⟨rfl, rfl, rfl, by simp [World.setCell], fun i _ hne => Below.heap_setCell _ _ _ _ (fun e => hne (by rw [e]))⟩ (fun e => ha (by injection e with e; exact e.symm))
def RespPost (lo ln : List Int) (w : World) (e : Ending) (w' : World) : Prop :=
  ∃ g h, e = .returned (.agg #[.slice (some ⟨g, 0, none⟩) lo.length lo.length, .slice (some ⟨h, 0, none⟩) ln.length ln.length]) ∧ VRow w' g lo ∧ VRow w' h ln ∧ w.heap.size ≤ g ∧ w.heap.size ≤ h ∧ g ≠ h ∧ Below w.heap.size w w'
def outV (c : Ck) (nets : List Int) : List Int := c.outs.map (valA nets)
def nextV (c : Ck) (nets : List Int) : List Int := (ofTo c.nodes [14] c.nodes.length).map fun i => dataV nets (c.nodes.getD i.toNat default).ins
theorem ofTo_in {nodes : List Nd} {kl : List Int} {k : Nat} {x : Int} (h : x ∈ ofTo nodes kl k) : 0 ≤ x ∧ x < (k : Int) := by
  unfold ofTo at h
  obtain ⟨i, hi, rfl⟩ := List.mem_map.1 h
  have := List.mem_range.1 (List.mem_filter.1 hi).1
  omega
set_option maxRecDepth 100000 in
set_option maxHeartbeats 4000000 in
theorem response_any (c : Ck) (nets : List Int) (A0 A1 A2 A3 : Option Addr) (c0 c1 c2 c3 q : Nat) (w : World) (B : Nat) (hB : B ≤ w.heap.size) (hq : Nv w q nets)
    (hc : Cir w B (.agg #[.slice A0 c.nodes.length c0, .slice A1 c.names.length c1, .slice A2 c.mems.length c2, .slice A3 c.outs.length c3]) c) (hsz : c.nodes.length ≤ 1000000) (hos : c.outs.length ≤ 17592186044416) :
    Calls Tryz.prog 73 #[.agg #[.slice A0 c.nodes.length c0, .slice A1 c.names.length c1, .slice A2 c.mems.length c2, .slice A3 c.outs.length c3, .func (.func 110) #[] #[.pointer (some ⟨q, 0, none⟩)]]] w (RespPost (outV c nets) (nextV c nets) w) := by
  obtain ⟨W1, HW1⟩ := named ((w.alloc (.cells #[.slice A0 c.nodes.length c0, .slice A1 c.names.length c1, .slice A2 c.mems.length c2, .slice A3 c.outs.length c3, .func (.func 110) #[] #[.pointer (some ⟨q, 0, none⟩)]] 121)).alloc (.cells #[.slice none 0 0, .slice none 0 0] 49))
  have hb1 : Below w.heap.size w W1 := by rw [HW1.out]; exact below_new (below_new (Below.refl _ _) _) _
  have hfs : Fr W1 w.heap.size 121 (#[.slice A0 c.nodes.length c0, .slice A1 c.names.length c1, .slice A2 c.mems.length c2, .slice A3 c.outs.length c3, .func (.func 110) #[] #[.pointer (some ⟨q, 0, none⟩)]]).toList := by rw [HW1.out]; exact Fr.alloc (Fr.made _ _ _ rfl) _
  have hfr : Fr W1 (w.heap.size + 1) 49 [.slice none 0 0, .slice none 0 0] := by rw [HW1.out]; exact Fr.made _ _ _ (by simp)
  have hz1 : W1.heap.size = w.heap.size + 1 + 1 := by rw [HW1.out]; simp
  have hns : Ns w B (.slice A0 c.nodes.length c0) c.nodes := by
    obtain ⟨v0, v1, v2, v3, e, h, -⟩ := hc
    simp only [Value.agg.injEq, Array.mk.injEq, List.cons.injEq, and_true] at e
    rw [e.1]; exact h
  have hio : Is w B (.slice A3 c.outs.length c3) c.outs := by
    obtain ⟨v0, v1, v2, v3, e, -, -, -, h⟩ := hc
    simp only [Value.agg.injEq, Array.mk.injEq, List.cons.injEq, and_true] at e
    rw [e.2.2.2]; exact h
  have HST := Lib.hid (OfPost.from (states_any c _ W1 B (Nat.le_trans hB hb1.size) (hc.below (hb1.mono hB)) hsz) (Below.refl _ _))
  have HDA : Hid (∀ W, Below W1.heap.size W1 W → ∀ i : Nat, i < c.nodes.length → Calls Tryz.prog 120 #[.agg #[.slice A0 c.nodes.length c0, .slice A1 c.names.length c1, .slice A2 c.mems.length c2, .slice A3 c.outs.length c3, .func (.func 110) #[] #[.pointer (some ⟨q, 0, none⟩)]], .int .i64 (i : Int)] W fun e w' => e = .returned (.int .u8 (dataV nets (c.nodes.getD i default).ins)) ∧ Below W.heap.size W w') :=
    Lib.hid fun W hb i hi => data_any c nets A0 A1 A2 A3 _ _ _ c0 c1 c2 c3 i q W B (Nat.le_trans hB (joinB hb1 hb).size) (hq.below (joinB hb1 hb)) (hns.below ((joinB hb1 hb).mono hB)) hi
  have HVA : Hid (∀ W, Below W1.heap.size W1 W → Calls Tryz.prog 72 #[.agg #[.slice A0 c.nodes.length c0, .slice A1 c.names.length c1, .slice A2 c.mems.length c2, .slice A3 c.outs.length c3, .func (.func 110) #[] #[.pointer (some ⟨q, 0, none⟩)]], .slice A3 c.outs.length c3] W (ValsPost (outV c nets) W)) :=
    Lib.hid fun W hb => values_any nets c.outs A0 A1 A2 A3 _ _ _ _ c0 c1 c2 c3 _ q W B (Nat.le_trans hB (joinB hb1 hb).size) (hq.below (joinB hb1 hb)) (hio.below ((joinB hb1 hb).mono hB)) hos
  have HOL : Hid ((outV c nets).length = c.outs.length) := Lib.hid (by simp [outV])
  have HNX : Hid (nextV c nets = (ofTo c.nodes [14] c.nodes.length).map fun i => dataV nets (c.nodes.getD i.toNat default).ins) := Lib.hid rfl
  have HIN : Hid (∀ x ∈ ofTo c.nodes [14] c.nodes.length, 0 ≤ x ∧ x < (c.nodes.length : Int)) := Lib.hid fun x hx => ofTo_in hx
  have hll := ofTo_len c.nodes [14] c.nodes.length
  have HB1 := Lib.hid hb1
  clear hq hc hns hio hb1
  obtain ⟨lo, HLO⟩ := named (outV c nets)
  obtain ⟨ln, HLN⟩ := named (nextV c nets)
  obtain ⟨L, HL⟩ := named (ofTo c.nodes [14] c.nodes.length)
  rw [← HLO.out] at HVA HOL
  rw [← HLN.out, ← HL.out] at HNX
  rw [← HL.out] at HST HIN hll
  rw [← HLO.out, ← HLN.out]
  clear HLO HLN HL
  obtain ⟨nd, HND⟩ := named c.nodes
  rw [← HND.out] at HW1 hfs HST HDA HVA HIN HNX hll hsz
  rw [← HND.out]
  obtain ⟨n0, HN0⟩ := named nd.length
  rw [← HN0.out] at HW1 hfs HST HDA HVA HIN hll hsz
  rw [← HN0.out]
  generalize c.names.length = n1 at HW1 hfs HST HDA HVA ⊢
  generalize c.mems.length = n2 at HW1 hfs HST HDA HVA ⊢
  obtain ⟨n3, HN3⟩ := named c.outs.length
  rw [← HN3.out] at HW1 hfs HST HDA HVA HOL hos
  rw [← HN3.out]
  have HFS : Hid (∀ W, Below W1.heap.size W1 W → W.cell? ⟨w.heap.size, 0, none⟩ = some (.slice A0 n0 c0) ∧ W.cell? ⟨w.heap.size, 1, none⟩ = some (.slice A1 n1 c1) ∧ W.cell? ⟨w.heap.size, 2, none⟩ = some (.slice A2 n2 c2) ∧ W.cell? ⟨w.heap.size, 3, none⟩ = some (.slice A3 n3 c3) ∧ W.cell? ⟨w.heap.size, 4, none⟩ = some (.func (.func 110) #[] #[.pointer (some ⟨q, 0, none⟩)])) :=
    Lib.hid fun W hb => ⟨(hfs.below hb).cell 0, (hfs.below hb).cell 1, (hfs.below hb).cell 2, (hfs.below hb).cell 3, (hfs.below hb).cell 4⟩
  have HFR : Hid (∀ W, Below W1.heap.size W1 W → Fr W (w.heap.size + 1) 49 [.slice none 0 0, .slice none 0 0]) := Lib.hid fun W hb => hfr.below hb
  have HZ1 := Lib.hid hz1
  have hzl : w.heap.size + 1 < W1.heap.size := by omega
  clear hfs hfr hz1
  obtain ⟨m, HM⟩ := named L.length
  rw [← HM.out] at hll
  have hst2 : Calls Tryz.prog 37 #[.agg #[.slice A0 n0 c0, .slice A1 n1 c1, .slice A2 n2 c2, .slice A3 n3 c3]] W1 fun e w' => ∃ A, e = .returned (.slice A m m) ∧ Is w' w'.heap.size (.slice A m m) L ∧ Below W1.heap.size W1 w' := by rw [HM.out]; exact HST.out
  have HST2 := Lib.hid hst2
  clear hst2 HST
  obtain ⟨i0, hi, hz0, hz1', hz2⟩ := info_parts info_val
  have HI := Lib.hid (And.intro hi (And.intro hz0 (And.intro hz1' hz2)))
  clear hi hz0 hz1' hz2
  go_enter Tryz.func73, Tryz.ntmps73
  go_upto_region 1 with (fail)
  rw [← HW1.out]
  obtain ⟨x0, x1, x2, x3, x4⟩ := HFS.out W1 (Below.refl _ _)
  go_wp2_with (first
    | (go_at_call 37; (with_reducible refine HST2.out.mono ?_); rintro e w2 ⟨A, rfl, hi, hb⟩; have HLI := Lib.hid hi; have HB2 := Lib.hid hb; clear hi hb)
    | (at_make; refine wpList_make_full _ rfl _ _ 41 rfl w2.heap.size 77 i0 (.int .u8 0) 1 Tryz.underlying41 HI.out.1 HI.out.2.1 HI.out.2.2.1 .i64 .i64 _ _ m rfl rfl rfl rfl ?b2 ?b3 ?b4 ?_))
  case b2 => rw [HI.out.2.2.2]; omega
  case b3 => unfold maxLen; omega
  case b4 => exact Nat.le_refl _
  intro w3 hown hgr
  rw [fillL_start (fun j => .int .u8 (dataV nets (nd.getD (lat L j).toNat default).ins))] at hown
  have HB3 := Lib.hid (show Below w2.heap.size w2 w3 from (Below.refl _ _).grown hgr (Nat.le_refl _) (fun k h => by cases h))
  have HO := Lib.hid hown
  obtain ⟨g, HG⟩ := named w2.heap.size
  rw [← HG.out] at HO
  have hgz : w2.heap.size ≤ g := by rw [HG.out]; exact Nat.le_refl _
  have hgw : w.heap.size + 1 < g := by have := HB2.out.size; rw [HG.out]; omega
  rw [← HG.out]
  obtain ⟨AA, bL, oL, cL, eL, hAL, -, -, hcL⟩ := HLI.out.opens
  rw [← HM.out] at eL hAL hcL
  simp only [Value.slice.injEq, true_and] at eL
  obtain ⟨rfl, -⟩ := eL
  have HAL := Lib.hid hAL
  have HCL := Lib.hid hcL
  clear hown hgr x0 x1 x2 x3 x4 hAL hcL
  go_wp2
  go_loopw [15] (fun i wr => ∃ k : Nat, k ≤ m ∧ i = .int .i64 k ∧ Below w2.heap.size w2 wr ∧ wr.ownsRow g 77 1 (.slice (some ⟨g, 0, none⟩) m m) m (fillL (fun j => .int .u8 (dataV nets (nd.getD (lat L j).toNat default).ins)) (.int .u8 0) m k)) (fun i _ => m - (intOf i).toNat)
  case atStart => exact ⟨0, Nat.zero_le _, rfl, HB3.out, HO.out⟩
  case round =>
    clear HO HB3
    obtain ⟨k, hk, rfl, hb, hown⟩ := hrel
    have HBL := Lib.hid hb
    have HO := Lib.hid hown
    obtain ⟨x0, x1, x2, x3, x4⟩ := HFS.out wr (joinB HB2.out hb)
    clear hb hown
    by_cases hlt : k < m
    · obtain rfl := HAL.out (by omega)
      obtain ⟨hlb, hx⟩ := HCL.out k hlt
      have hx2 : wr.cell? ⟨bL, oL + k, none⟩ = some (.int .i64 (L.getD k 0)) := (HBL.out.cell (p := ⟨bL, oL + k, none⟩) hlb).trans hx
      obtain ⟨j0, j1⟩ := HIN.out (L.getD k 0) (by rw [List.getD_eq_getElem?_getD, List.getElem?_eq_getElem (by rw [← HM.out]; exact hlt)]; exact List.getElem_mem _)
      obtain ⟨x, hxx⟩ := Int.eq_ofNat_of_zero_le j0
      rw [hxx] at hx2 j1
      have hxn : x < n0 := by omega
      have HLX : Hid (lat L (k : Int) = (x : Int)) := Lib.hid (by rw [← hxx]; unfold lat; rw [Int.toNat_natCast])
      have hcl : wr.cell? ⟨g, k, none⟩ = some (.int .u8 0) := by
        rw [HO.out.cellAt k (by omega), fillL_get _ _ _ _ _ hlt, if_neg (by omega)]
      have hfz : wr.frozen? ⟨g, k, none⟩ = false := HO.out.frozenAt k
      have hgl : g < wr.heap.size := (World.ownsRow.lt HO.out _ rfl).2
      obtain ⟨u, HU⟩ := named (dataV nets (nd.getD x default).ins)
      have HCD := Lib.hid (HDA.out wr (joinB HB2.out HBL.out) x hxn)
      rw [← HU.out] at HCD
      clear hx hxx j0 j1
      go_wp2_with (go_at_call 120; (with_reducible refine HCD.out.mono ?_); rintro e w5 ⟨rfl, hb⟩; have HB5 := Lib.hid hb; have hcl5 := (hb.cell (p := ⟨g, k, none⟩) hgl).trans hcl; have hfz5 := (hb.frozen (p := ⟨g, k, none⟩) hgl).trans hfz; clear hb)
      go_roundw
      case rel =>
        have h5 : w5.ownsRow g 77 1 (.slice (some ⟨g, 0, none⟩) m m) m (fillL (fun j => .int .u8 (dataV nets (nd.getD (lat L j).toNat default).ins)) (.int .u8 0) m k) :=
          World.ownsRow.kept (row := none) HO.out ⟨HB5.out.os, HB5.out.tape, HB5.out.output, HB5.out.size, fun i hi _ => HB5.out.block i hi⟩ (.inr (show some g ≠ (none : Option Nat) by simp))
        have h := (h5.stored k (.int .u8 u)).1
        refine ⟨k + 1, by omega, by go_num, (joinB HBL.out HB5.out).setCell hgz _, ?_⟩
        have e : u = dataV nets (nd.getD (lat L (k : Int)).toNat default).ins := by rw [HLX.out, Int.toNat_natCast]; exact HU.out
        rw [e] at h ⊢
        rw [← fillL_set (fun j => .int .u8 (dataV nets (nd.getD (lat L j).toNat default).ins)) (.int .u8 0) m k]
        exact h
      case measure => simp [intOf]; omega
    · obtain rfl : m = k := by omega
      have hfull : VRow wr g ln := by
        have h := HO.out
        have e := fillL_vals (fun x => dataV nets (nd.getD x.toNat default).ins) (.int .u8 0) L
        rw [← HM.out] at e
        rw [e] at h
        rw [HNX.out]
        exact VRow.of (n := m) h (by rw [List.length_map]; exact HM.out.symm)
      have HFULL := Lib.hid hfull
      have HCV := Lib.hid (HVA.out wr (joinB HB2.out HBL.out))
      have hlo : lo.length = n3 := HOL.out
      have hln : ln.length = m := by rw [HNX.out, List.length_map]; exact HM.out.symm
      have HLO := Lib.hid hlo
      have HLN := Lib.hid hln
      have hfr := HFR.out wr (joinB HB2.out HBL.out)
      have HFRR := Lib.hid hfr
      have hrl : w.heap.size + 1 < wr.heap.size := by have := (joinB HB2.out HBL.out).size; omega
      clear hfull hlo hln hfr
      go_wp2_with (go_at_call 72; (with_reducible refine HCV.out.mono ?_); rintro e w5 ⟨h, rfl, hv, hz, hb⟩; have HB5 := Lib.hid hb; have HV5 := Lib.hid hv; have HZ5 := Lib.hid hz; have r0 : w5.cell? ⟨w.heap.size + 1, 0, none⟩ = some (.slice none 0 0) := (HFRR.out.below hb).cell 0; have r1 : w5.cell? ⟨w.heap.size + 1, 1, none⟩ = some (.slice none 0 0) := (HFRR.out.below hb).cell 1; have f0 : w5.frozen? ⟨w.heap.size + 1, 0, none⟩ = false := (HFRR.out.below hb).frozen 0; have f1 : w5.frozen? ⟨w.heap.size + 1, 1, none⟩ = false := (HFRR.out.below hb).frozen 1; clear hv hz hb)
      have hq := ((HFRR.out.below HB5.out).set 0 (.slice (some ⟨h, 0, none⟩) lo.length lo.length)).set 1 (.slice (some ⟨g, 0, none⟩) m m)
      (try simp only [Exit.inBlock, Exit.then])
      refine bodyPost_ret (results_cell_row rfl _ _ _ _ _ _ _ rfl hq Tryz.underlying49 rfl (by kernel_rfl)) rfl ?_
      have hz5 := HZ5.out
      have hzb := (joinB HB2.out HBL.out).size
      have hz1 := HZ1.out
      have hgl := HFULL.out.lt
      have hb5 := joinB HB1.out (joinB (joinB HB2.out HBL.out) HB5.out)
      have n1 : w.heap.size + 1 ≠ h := by omega
      have n2 : w.heap.size + 1 ≠ g := by omega
      refine ⟨h, g, by rw [HLN.out]; rfl, (HV5.out.other (a := ⟨_, 0, none⟩) n1 _).other (a := ⟨_, 1, none⟩) n1 _, ((HFULL.out.below HB5.out).other (a := ⟨_, 0, none⟩) n2 _).other (a := ⟨_, 1, none⟩) n2 _, by omega, by omega, by omega, (hb5.setCell (Nat.le_succ _) _).setCell (Nat.le_succ _) _⟩
end Go.Proofs.YtkaedfgmhfefjaaGreatDoor

namespace Go.Proofs.YtkaedfgmhfefjaaGreatDoor
open Go.RowKit
theorem grown_v {w wr : World} {g : Nat} (h : w.grownBy wr (some g)) (j : Nat) (v : Value) : w.grownBy (wr.setCell ⟨g, j, none⟩ v) (some g) := by
  obtain ⟨h1, h2, h3, h4, h5⟩ := h
  exact ⟨h1, h2, h3, by simpa [World.setCell] using h4, fun i hi hne => (Below.heap_setCell _ _ _ _ (fun e => hne (by rw [e]))).trans (h5 i hi hne)⟩
theorem own_fr {w : World} {base : Nat} {e : TypeId} {size g n : Nat} {xs : List Value} (h : w.ownsRow base e size (.slice (some ⟨g, 0, none⟩) n n) n xs) : Fr w g e xs := by
  obtain ⟨h1, h2⟩ := h
  rcases h2 with ⟨e', -⟩ | ⟨g', cap, cur, e', hb, hg, hle, hm, hs, ht⟩
  · cases e'
  · simp only [Value.slice.injEq, Option.some.injEq, Addr.mk.injEq, and_true, true_and] at e'
    obtain ⟨rfl, rfl⟩ := e'
    have hc : cur = xs.toArray := by
      apply Array.ext'
      rw [← ht, List.take_of_length_le (by rw [Array.length_toList]; omega)]
    rw [hc] at hg
    exact hg
theorem VRow.not_int {w : World} {g j : Nat} {l : List Int} {x : Int} (h : VRow w g l) : w.cell? ⟨g, j, none⟩ ≠ some (.int .i64 x) := fun e => by
  have h1 := (own_fr h).cell j
  rw [e, List.getElem?_map] at h1
  cases h2 : l[j]? with
  | none => rw [h2] at h1; cases h1
  | some y => rw [h2] at h1; simp at h1
def asgTo (out l vs : List Int) (k : Nat) : List Int := ((l.zip vs).take k).foldl (fun o p => o.set p.1.toNat p.2) out
theorem asgTo_len (out l vs : List Int) (k : Nat) : (asgTo out l vs k).length = out.length := by
  unfold asgTo
  induction (l.zip vs).take k generalizing out with
  | nil => rfl
  | cons p t ih => rw [List.foldl_cons, ih, List.length_set]
theorem asgTo_succ {out l vs : List Int} {k : Nat} (h1 : k < l.length) (h2 : k < vs.length) : asgTo out l vs (k + 1) = (asgTo out l vs k).set (l.getD k 0).toNat (lat vs k) := by
  unfold asgTo
  have hz : k < (l.zip vs).length := by rw [List.length_zip]; omega
  rw [List.take_succ_eq_append_getElem hz, List.foldl_append]
  have e : (l.zip vs)[k] = (l.getD k 0, lat vs k) := by
    rw [List.getElem_zip]
    unfold lat
    rw [Int.toNat_natCast, List.getD_eq_getElem?_getD, List.getD_eq_getElem?_getD, List.getElem?_eq_getElem h1, List.getElem?_eq_getElem h2]; rfl
  rw [e]; rfl
theorem asgTo_all {out l vs : List Int} (h : l.length = vs.length) : asgTo out l vs l.length = asg out l vs := by
  unfold asgTo asg
  rw [List.take_of_length_le (by rw [List.length_zip]; omega)]
set_option maxHeartbeats 2000000 in
theorem assign_any (out l vs : List Int) (A Av : Option Addr) (cl cv g m n mv B : Nat) (w : World) (hr : VRow w g out) (hl : Is w w.heap.size (.slice A m cl) l) (hv : Ks w B (.slice Av mv cv) vs) (hBg : B ≤ g) (hm : m = l.length) (hmv : mv = m) (hmv2 : mv = vs.length) (hn : n = out.length)
    (hin : ∀ x ∈ l, 0 ≤ x ∧ x < (n : Int)) :
    Calls Tryz.prog 68 #[.slice (some ⟨g, 0, none⟩) n n, .slice A m cl, .slice Av mv cv] w fun e w' => e = .returned (.tuple #[]) ∧ VRow w' g (asg out l vs) ∧ w.grownBy w' (some g) := by
  subst hmv
  obtain ⟨A', b, o, c', e, hA1, -, hm1, hc1⟩ := hl.opens
  rw [← hm] at e hA1 hc1 hm1
  simp only [Value.slice.injEq, true_and] at e
  obtain ⟨rfl, rfl⟩ := e
  obtain ⟨Av', bv, ov, cv', e, hA2, -, hm2, hc2⟩ := hv.opens
  rw [← hmv2] at e hA2 hc2 hm2
  simp only [Value.slice.injEq, true_and] at e
  obtain ⟨rfl, rfl⟩ := e
  have HA1 := Lib.hid hA1
  have HC1 := Lib.hid hc1
  have HA2 := Lib.hid hA2
  have HC2 := Lib.hid hc2
  have HM := Lib.hid hm
  have HMV := Lib.hid hmv2
  have HN := Lib.hid hn
  have HNG : Hid (∀ k, k < mv → b ≠ g) := Lib.hid fun k hk e => hr.not_int (by have := (hc1 k hk).2; rw [e] at this; exact this)
  have HNV : Hid (∀ k, k < mv → bv ≠ g) := Lib.hid fun k hk => by have := (hc2 k hk).1; omega
  have HIN := Lib.hid hin
  have HR := Lib.hid hr
  have hnm := hr.len
  rw [← hn] at hnm
  unfold maxLen at hm1 hnm
  clear hA1 hc1 hA2 hc2 hm hmv2 hn hin hr hl hv hm2
  go_enter Tryz.func68, Tryz.ntmps68
  go_wp2
  go_loopw [10] (fun i wr => ∃ k : Nat, k ≤ mv ∧ i = .int .i64 k ∧ w.grownBy wr (some g) ∧ VRow wr g (asgTo out l vs k)) (fun i _ => mv - (intOf i).toNat)
  case atStart => exact ⟨0, Nat.zero_le _, rfl, World.grownBy.refl _ _, HR.out⟩
  case round =>
    clear HR
    obtain ⟨k, hk, rfl, hg, hr⟩ := hrel
    have HG := Lib.hid hg
    have HR := Lib.hid hr
    by_cases hlt : k < mv
    · obtain rfl := HA1.out (by omega)
      obtain rfl := HA2.out (by omega)
      have hx := hg.cell (HC1.out k hlt).2 (by simpa using HNG.out k hlt)
      have hy := hg.cell (HC2.out k hlt).2 (by simpa using HNV.out k hlt)
      have hmem : l.getD k 0 ∈ l := by rw [List.getD_eq_getElem?_getD, List.getElem?_eq_getElem (by rw [← HM.out]; exact hlt)]; exact List.getElem_mem _
      obtain ⟨j0, j1⟩ := HIN.out _ hmem
      obtain ⟨x, hxx⟩ := Int.eq_ofNat_of_zero_le j0
      have HX := Lib.hid hxx
      rw [hxx] at hx j1
      have hxn : x < n := by omega
      have hlen : (asgTo out l vs k).length = n := by rw [asgTo_len, HN.out]
      have hcl := hr.cell (j := x) (by rw [hlen]; exact hxn)
      have hfz := hr.frozen x
      obtain ⟨u, HU⟩ := named (vs.getD k 0)
      rw [← HU.out] at hy
      obtain ⟨old, HOLD⟩ := named (lat (asgTo out l vs k) (x : Int))
      rw [← HOLD.out] at hcl
      clear hg hr hmem j0 j1 hxx hlen
      go_wp2
      go_roundw
      case rel =>
        refine ⟨k + 1, by omega, by go_num, grown_v HG.out x _, ?_⟩
        rw [asgTo_succ (by rw [← HM.out]; exact hlt) (by rw [← HMV.out]; exact hlt), HX.out, Int.toNat_natCast]
        have e : lat vs (k : Int) = u := by unfold lat; rw [Int.toNat_natCast]; exact HU.out.symm
        rw [e]
        exact HR.out.set x u
      case measure => simp [intOf]; omega
    · obtain rfl : mv = k := by omega
      go_wp2
      go_end0
      refine ⟨rfl, ?_, HG.out⟩
      have h := HR.out
      rw [HM.out, asgTo_all (by rw [← HM.out, ← HMV.out])] at h
      exact h
set_option maxRecDepth 100000 in
set_option maxHeartbeats 4000000 in
theorem observe_any (c : Ck) (nets : List Int) (A0 A1 A2 A3 A : Option Addr) (c0 c1 c2 c3 n cc : Nat) (w : World) (B : Nat) (hB : B ≤ w.heap.size)
    (hc : Cir w B (.agg #[.slice A0 c.nodes.length c0, .slice A1 c.names.length c1, .slice A2 c.mems.length c2, .slice A3 c.outs.length c3]) c) (hs : Ks w B (.slice A n cc) nets) (hsz : c.nodes.length ≤ 1000000) (hos : c.outs.length ≤ 17592186044416) :
    Calls Tryz.prog 39 #[.agg #[.slice A0 c.nodes.length c0, .slice A1 c.names.length c1, .slice A2 c.mems.length c2, .slice A3 c.outs.length c3], .slice A n cc] w (RespPost (outV c nets) (nextV c nets) w) := by
  obtain ⟨W1, HW1⟩ := named ((w.alloc (.cells #[.slice A0 c.nodes.length c0, .slice A1 c.names.length c1, .slice A2 c.mems.length c2, .slice A3 c.outs.length c3] 39)).alloc (.cells #[.slice none 0 0, .slice none 0 0] 49))
  have hb1 : Below w.heap.size w W1 := by rw [HW1.out]; exact below_new (below_new (Below.refl _ _) _) _
  have hfc : Fr W1 w.heap.size 39 [.slice A0 c.nodes.length c0, .slice A1 c.names.length c1, .slice A2 c.mems.length c2, .slice A3 c.outs.length c3] := by rw [HW1.out]; exact Fr.alloc (Fr.made _ _ _ rfl) _
  have hfr : Fr W1 (w.heap.size + 1) 49 [.slice none 0 0, .slice none 0 0] := by rw [HW1.out]; exact Fr.made _ _ _ (by simp)
  have hz1 : W1.heap.size = w.heap.size + 1 + 1 := by rw [HW1.out]; simp
  have HSO := Lib.hid (stateOf_any nets A0 A1 A2 A3 A c.nodes.length c.names.length c.mems.length c.outs.length n c0 c1 c2 c3 cc W1 B (Nat.le_trans hB hb1.size) (Arr.keep stays_u8 hs (Nat.le_refl _) fun _ hp => hb1.cell (Nat.lt_of_lt_of_le hp hB)))
  have HRE : Hid (∀ W q, Below W1.heap.size W1 W → Nv W q nets → Calls Tryz.prog 73 #[.agg #[.slice A0 c.nodes.length c0, .slice A1 c.names.length c1, .slice A2 c.mems.length c2, .slice A3 c.outs.length c3, .func (.func 110) #[] #[.pointer (some ⟨q, 0, none⟩)]]] W (RespPost (outV c nets) (nextV c nets) W)) :=
    Lib.hid fun W q hb hn => response_any c nets A0 A1 A2 A3 c0 c1 c2 c3 q W B (Nat.le_trans hB (joinB hb1 hb).size) hn (hc.below ((joinB hb1 hb).mono hB)) hsz hos
  have HB1 := Lib.hid hb1
  clear hc hs hb1
  obtain ⟨lo, HLO⟩ := named (outV c nets)
  obtain ⟨ln, HLN⟩ := named (nextV c nets)
  rw [← HLO.out, ← HLN.out] at HRE
  rw [← HLO.out, ← HLN.out]
  generalize c.nodes.length = n0 at HW1 hfc HSO HRE ⊢
  generalize c.names.length = n1 at HW1 hfc HSO HRE ⊢
  generalize c.mems.length = n2 at HW1 hfc HSO HRE ⊢
  generalize c.outs.length = n3 at HW1 hfc HSO HRE ⊢
  have x0 := hfc.cell 0
  have x1 := hfc.cell 1
  have x2 := hfc.cell 2
  have x3 := hfc.cell 3
  have HFR := Lib.hid hfr
  have HZ1 := Lib.hid hz1
  clear hfc hfr hz1
  go_enter Tryz.func39, Tryz.ntmps39
  go_upto_region 1 with (fail)
  rw [← HW1.out]
  go_wp2_with (first
    | (go_at_call 69; (with_reducible refine HSO.out.mono ?_); rintro e w2 ⟨⟨q, rfl, hn, hqz, -⟩, hb⟩; have HNV := Lib.hid hn; have HB2 := Lib.hid hb; clear hn hb)
    | (go_at_call 73; (with_reducible refine (HRE.out _ _ HB2.out HNV.out).mono ?_); rintro e w3 ⟨g, h, rfl, hg, hh, hgz, hhz, hgh, hb⟩; have HGR := Lib.hid hg; have HHR := Lib.hid hh; have HGH := Lib.hid hgh; have HB3 := Lib.hid hb; have hfx := (HFR.out.below (joinB HB2.out hb)); have r0 := hfx.cell 0; have r1 := hfx.cell 1; have f0 := hfx.frozen 0; have f1 := hfx.frozen 1; have HFX := Lib.hid hfx; clear hg hh hgh hb hfx))
  have hq := (HFX.out.set 0 (.slice (some ⟨g, 0, none⟩) lo.length lo.length)).set 1 (.slice (some ⟨h, 0, none⟩) ln.length ln.length)
  (try simp only [Exit.inBlock, Exit.then])
  refine bodyPost_ret (results_cell_row rfl _ _ _ _ _ _ _ rfl hq Tryz.underlying49 rfl (by kernel_rfl)) rfl ?_
  have hzb := HB2.out.size
  have hz1 := HZ1.out
  have hb5 := joinB HB1.out (joinB HB2.out HB3.out)
  have n1 : w.heap.size + 1 ≠ g := by omega
  have n2 : w.heap.size + 1 ≠ h := by omega
  exact ⟨g, h, rfl, (HGR.out.other (a := ⟨_, 0, none⟩) n1 _).other (a := ⟨_, 1, none⟩) n1 _, (HHR.out.other (a := ⟨_, 0, none⟩) n2 _).other (a := ⟨_, 1, none⟩) n2 _, by omega, by omega, HGH.out, (hb5.setCell (Nat.le_succ _) _).setCell (Nat.le_succ _) _⟩
def abv (v : Int) : Bool := decide (3 < v)
theorem abv_any (v : Int) (w : World) : Calls Tryz.prog 109 #[.int .u8 v] w fun e w' => e = .returned (.bool (abv v)) ∧ w = w' := by
  by_cases h : 3 < v
  · have hv : abv v = true := decide_eq_true h
    rw [hv]
    go_enter Tryz.func109, Tryz.ntmps109
    go_wp2
    go_ret
    exact ⟨ret_bool (by simp), rfl⟩
  · have hv : abv v = false := decide_eq_false h
    rw [hv]
    go_enter Tryz.func109, Tryz.ntmps109
    go_wp2
    go_ret
    exact ⟨ret_bool (by simp), rfl⟩
set_option maxHeartbeats 1000000 in
theorem indexV_any (l : List Int) (s : Value) (w : World) (B : Nat) (hs : Ks w B s l) :
    Calls Tryz.prog 125 #[s, .func (.func 109) #[] #[]] w (IdxP (anyP abv l) w) := by
  obtain ⟨A, b, o, c, rfl, hA, -, hm, hc⟩ := hs.opens
  unfold maxLen at hm
  have HC := Lib.hid hc
  have HAA := Lib.hid hA
  clear hc hA hs
  obtain ⟨n, hn⟩ : ∃ n, n = l.length := ⟨_, rfl⟩
  rw [← hn] at hm
  rw [← hn]
  have HN := Lib.hid hn
  have HAB := Lib.hid abv_any
  clear hn
  go_enter Tryz.func125, Tryz.ntmps125
  go_wp2
  go_loopw [8] (fun i wr => wr = w ∧ ∃ k : Nat, k ≤ n ∧ i = .int .i64 k ∧ ∀ j, j < k → abv (l.getD j 0) = false) (fun i _ => n - (intOf i).toNat)
  case atStart => exact ⟨rfl, 0, Nat.zero_le _, rfl, fun j hj => absurd hj (by omega)⟩
  case round =>
    obtain ⟨rfl, k, hk, rfl, hno⟩ := hrel
    have HNO := Lib.hid hno
    clear hno
    by_cases hlt : k < n
    · obtain rfl := HAA.out (by rw [← HN.out]; omega)
      have hcell := (HC.out k (by rw [← HN.out]; omega)).2
      obtain ⟨y, HX⟩ := named (l.getD k 0)
      rw [← HX.out] at hcell
      have HA1 := Lib.hid (fun w => HAB.out y w)
      cases hv : abv y
      · have HV := Lib.hid hv
        rw [hv] at HA1
        go_wp2_with (go_at_call 109; (with_reducible refine (HA1.out _).mono ?_); rintro e w' ⟨rfl, rfl⟩)
        go_roundw
        case rel =>
          refine ⟨by trivial, k + 1, by omega, by go_num, fun j hj => ?_⟩
          by_cases hjk : j = k
          · rw [hjk, ← HX.out]; exact HV.out
          · exact HNO.out j (by omega)
        case measure => simp [intOf]; omega
      · have HV := Lib.hid hv
        rw [hv] at HA1
        go_wp2_with (go_at_call 109; (with_reducible refine (HA1.out _).mono ?_); rintro e w' ⟨rfl, rfl⟩)
        go_ret
        exact ⟨k, rfl, ⟨fun _ => anyP_yes k (by rw [← HN.out]; omega) (by rw [← HX.out]; exact HV.out), fun _ => by omega⟩, rfl⟩
    · go_wp2
      go_ret
      exact ⟨-1, rfl, ⟨fun h => absurd h (by omega), fun h => by rw [anyP_no (fun j hj => HNO.out j (by rw [← HN.out] at hj; omega))] at h; cases h⟩, rfl⟩
set_option maxHeartbeats 400000 in
theorem containsV_any (l : List Int) (s : Value) (w : World) (B : Nat) (hs : Ks w B s l) :
    Calls Tryz.prog 81 #[s, .func (.func 109) #[] #[]] w fun e w' => e = .returned (.bool (anyP abv l)) ∧ w = w' := by
  obtain ⟨y, HY⟩ := named (anyP abv l)
  rw [← HY.out]
  have HI := Lib.hid (indexV_any l s w B hs)
  clear hs
  rw [← HY.out] at HI
  go_enter Tryz.func81, Tryz.ntmps81
  go_wp2_with (go_at_call 125; (with_reducible refine HI.out.mono ?_); rintro e w' ⟨i, rfl, hi, rfl⟩; have HI2 := Lib.hid hi; clear hi)
  go_ret
  exact ⟨ret_bool (Bool.eq_iff_iff.2 (by simpa using HI2.out)), rfl⟩
end Go.Proofs.YtkaedfgmhfefjaaGreatDoor

namespace Go.Proofs.YtkaedfgmhfefjaaGreatDoor
open Go.RowKit
structure Fit (x : Ck) : Prop where
  n : x.nodes.length ≤ maxLen
  s : x.names.length ≤ maxLen
  m : x.mems.length ≤ maxLen
  o : x.outs.length ≤ maxLen
  k : ∀ i, i < x.nodes.length → 0 ≤ (x.nodes.getD i default).kind ∧ (x.nodes.getD i default).kind ≤ 255 ∧ (x.nodes.getD i default).ins.length ≤ maxLen
  t : ∀ i, i < x.names.length → (x.names.getD i ByteArray.empty).size ≤ maxLen
  a : ∀ i, i < x.mems.length → (x.mems.getD i default).addr.length ≤ maxLen ∧ (x.mems.getD i default).data.length ≤ maxLen
theorem Arr.len {α : Type} {d : α} {sz : Nat} {R : World → Nat → Nat → Nat → α → Prop} {w : World} {B : Nat} {v : Value} {l : List α} (h : Arr d sz R w B v l) : l.length ≤ maxLen := by
  obtain ⟨_, _, _, _, -, -, -, h4, -⟩ := h
  exact h4
def ownV (x : Ck) (g0 g1 g2 g3 : Nat) : Value :=
  .agg #[.slice (some ⟨g0, 0, none⟩) x.nodes.length x.nodes.length, .slice (some ⟨g1, 0, none⟩) x.names.length x.names.length, .slice (some ⟨g2, 0, none⟩) x.mems.length x.mems.length, .slice (some ⟨g3, 0, none⟩) x.outs.length x.outs.length]
section
variable {x : Ck} {G g0 g1 g2 g3 : Nat} {h ha hd : Nat → Nat} {w w' : World}
theorem getD_set {α : Type} (l : List α) (k i : Nat) (a d : α) (hk : k < l.length) : (l.set k a).getD i d = if i = k then a else l.getD i d := by
  rw [List.getD_eq_getElem?_getD, List.getD_eq_getElem?_getD, List.getElem?_set]
  by_cases e : k = i
  · subst e; simp [hk]
  · rw [if_neg e, if_neg (fun q => e q.symm)]
end
end Go.Proofs.YtkaedfgmhfefjaaGreatDoor

namespace Go.Proofs.YtkaedfgmhfefjaaGreatDoor
open Go.RowKit
structure Fits (c : Ck) (pin pst : List Int) : Prop where
  mems : c.mems.length = 0
  li : pin.length = (ofTo c.nodes [0] c.nodes.length).length
  ls : pst.length = (ofTo c.nodes [14] c.nodes.length).length
  vi : ∀ x ∈ pin, 0 ≤ x ∧ x ≤ 3
  vs : ∀ x ∈ pst, 0 ≤ x ∧ x ≤ 3
theorem abv_none {l : List Int} (h : ∀ x ∈ l, 0 ≤ x ∧ x ≤ 3) : anyP abv l = false :=
  anyP_no fun j hj => decide_eq_false (by
    have := (h (l.getD j 0) (by rw [List.getD_eq_getElem?_getD, List.getElem?_eq_getElem hj]; exact List.getElem_mem hj)).2
    omega)
set_option maxRecDepth 100000 in
set_option maxHeartbeats 4000000 in
theorem cpat_ok (c : Ck) (pin pst : List Int) (A0 A1 A2 A3 Ai As : Option Addr) (c0 c1 c2 c3 ci cs : Nat) (w : World) (B : Nat) (hB : B ≤ w.heap.size)
    (hc : Cir w B (.agg #[.slice A0 c.nodes.length c0, .slice A1 c.names.length c1, .slice A2 c.mems.length c2, .slice A3 c.outs.length c3]) c) (hi : Ks w B (.slice Ai pin.length ci) pin) (hs : Ks w B (.slice As pst.length cs) pst) (hsz : c.nodes.length ≤ 1000000) (hf : Fits c pin pst) :
    Calls Tryz.prog 67 #[.agg #[.slice A0 c.nodes.length c0, .slice A1 c.names.length c1, .slice A2 c.mems.length c2, .slice A3 c.outs.length c3], .agg #[.slice Ai pin.length ci, .slice As pst.length cs]] w
      fun e w' => e = .returned (.int .i64 0) ∧ Below w.heap.size w w' := by
  obtain ⟨W1, HW1⟩ := named ((w.alloc (.cells #[.slice A0 c.nodes.length c0, .slice A1 c.names.length c1, .slice A2 c.mems.length c2, .slice A3 c.outs.length c3] 39)).alloc (.cells #[.slice Ai pin.length ci, .slice As pst.length cs] 73))
  have hb1 : Below w.heap.size w W1 := by rw [HW1.out]; exact below_new (below_new (Below.refl _ _) _) _
  have hfc : Fr W1 w.heap.size 39 [.slice A0 c.nodes.length c0, .slice A1 c.names.length c1, .slice A2 c.mems.length c2, .slice A3 c.outs.length c3] := by rw [HW1.out]; exact Fr.alloc (Fr.made _ _ _ rfl) _
  have hfp : Fr W1 (w.heap.size + 1) 73 [.slice Ai pin.length ci, .slice As pst.length cs] := by rw [HW1.out]; exact Fr.made _ _ _ (by simp)
  have HIN : Hid (∀ W, BelW W1 W → Calls Tryz.prog 36 #[.agg #[.slice A0 c.nodes.length c0, .slice A1 c.names.length c1, .slice A2 c.mems.length c2, .slice A3 c.outs.length c3]] W fun e w' => ∃ A, e = .returned (.slice A pin.length pin.length) ∧ BelW W w') :=
    Lib.hid fun W hb => (inputs_any c _ W B (Nat.le_trans hB (joinB hb1 hb).size) (hc.below ((joinB hb1 hb).mono hB)) hsz).mono fun e w' ⟨A, he, _, h⟩ => ⟨A, by rw [hf.li]; exact he, h⟩
  have HST : Hid (∀ W, BelW W1 W → Calls Tryz.prog 37 #[.agg #[.slice A0 c.nodes.length c0, .slice A1 c.names.length c1, .slice A2 c.mems.length c2, .slice A3 c.outs.length c3]] W fun e w' => ∃ A, e = .returned (.slice A pst.length pst.length) ∧ BelW W w') :=
    Lib.hid fun W hb => (states_any c _ W B (Nat.le_trans hB (joinB hb1 hb).size) (hc.below ((joinB hb1 hb).mono hB)) hsz).mono fun e w' ⟨A, he, _, h⟩ => ⟨A, by rw [hf.ls]; exact he, h⟩
  have HVI : Hid (∀ W, BelW W1 W → Calls Tryz.prog 81 #[.slice Ai pin.length ci, .func (.func 109) #[] #[]] W fun e w' => e = .returned (.bool false) ∧ W = w') :=
    Lib.hid fun W hb => by have := containsV_any pin _ W B (Arr.keep stays_u8 hi (Nat.le_refl _) fun _ hp => (joinB hb1 hb).cell (Nat.lt_of_lt_of_le hp hB)); rw [abv_none hf.vi] at this; exact this
  have HVS : Hid (∀ W, BelW W1 W → Calls Tryz.prog 81 #[.slice As pst.length cs, .func (.func 109) #[] #[]] W fun e w' => e = .returned (.bool false) ∧ W = w') :=
    Lib.hid fun W hb => by have := containsV_any pst _ W B (Arr.keep stays_u8 hs (Nat.le_refl _) fun _ hp => (joinB hb1 hb).cell (Nat.lt_of_lt_of_le hp hB)); rw [abv_none hf.vs] at this; exact this
  have hm1 := Arr.len hi
  have hm2 := Arr.len hs
  have HB1 := Lib.hid hb1
  have hmem := hf.mems
  unfold maxLen at hm1 hm2
  clear hc hi hs hf hb1
  rw [hmem] at HW1 hfc HIN HST
  rw [hmem]
  clear hmem
  generalize c.nodes.length = n0 at HW1 hfc HIN HST ⊢
  generalize c.names.length = n1 at HW1 hfc HIN HST ⊢
  generalize c.outs.length = n3 at HW1 hfc HIN HST ⊢
  generalize pin.length = ni at HW1 hfp HIN HVI hm1 ⊢
  generalize pst.length = ns at HW1 hfp HST HVS hm2 ⊢
  have hce : ∀ w', BelW W1 w' → BelW W1 w' ∧ w'.cell? ⟨w.heap.size, 0, none⟩ = some (.slice A0 n0 c0) ∧ w'.cell? ⟨w.heap.size, 1, none⟩ = some (.slice A1 n1 c1) ∧ w'.cell? ⟨w.heap.size, 2, none⟩ = some (.slice A2 0 c2) ∧ w'.cell? ⟨w.heap.size, 3, none⟩ = some (.slice A3 n3 c3) ∧ w'.cell? ⟨w.heap.size + 1, 0, none⟩ = some (.slice Ai ni ci) ∧ w'.cell? ⟨w.heap.size + 1, 1, none⟩ = some (.slice As ns cs) := fun w' h =>
    ⟨h, (hfc.below h).cell 0, (hfc.below h).cell 1, (hfc.below h).cell 2, (hfc.below h).cell 3, (hfp.below h).cell 0, (hfp.below h).cell 1⟩
  have HCE := Lib.hid hce
  clear hce hfc hfp
  go_enter Tryz.func67, Tryz.ntmps67
  go_upto_region 1 with (fail)
  rw [← HW1.out]
  obtain ⟨-, x0, x1, x2, x3, y0, y1⟩ := HCE.out W1 (Below.refl _ _)
  go_wp2
  have hs0 : BelW W1 W1 := Below.refl _ _
  clear x0 x1 x2 x3 y0 y1
  go_region_held3 (fun w' => BelW W1 w' ∧ w'.cell? ⟨w.heap.size, 0, none⟩ = some (.slice A0 n0 c0) ∧ w'.cell? ⟨w.heap.size, 1, none⟩ = some (.slice A1 n1 c1) ∧ w'.cell? ⟨w.heap.size, 2, none⟩ = some (.slice A2 0 c2) ∧ w'.cell? ⟨w.heap.size, 3, none⟩ = some (.slice A3 n3 c3) ∧ w'.cell? ⟨w.heap.size + 1, 0, none⟩ = some (.slice Ai ni ci) ∧ w'.cell? ⟨w.heap.size + 1, 1, none⟩ = some (.slice As ns cs))
    ((refine HCE.out _ ?_; first | (with_reducible assumption) | (refine BelW.drew ?_; with_reducible assumption)))
    (first
      | (go_at_call 36; refine Calls.mono (HIN.out _ ?_) ?_; · (first | (with_reducible assumption) | (refine BelW.drew ?_; with_reducible assumption))
         rintro e w3 ⟨A, rfl, hb3⟩
         have hs3 : BelW W1 w3 := (by refine BelW.next ?_ hb3; first | (with_reducible assumption) | (refine BelW.drew ?_; with_reducible assumption)))
      | (go_at_call 37; refine Calls.mono (HST.out _ ?_) ?_; · (first | (with_reducible assumption) | (refine BelW.drew ?_; with_reducible assumption))
         rintro e w4 ⟨A, rfl, hb4⟩
         have hs4 : BelW W1 w4 := (by refine BelW.next ?_ hb4; first | (with_reducible assumption) | (refine BelW.drew ?_; with_reducible assumption))))
  obtain ⟨-, x0, x1, x2, x3, y0, y1⟩ := HCE.out w4 hs4
  go_wp2_with (first
    | (go_at_call 81; (with_reducible refine (HVI.out _ hs4).mono ?_); rintro e w5 ⟨rfl, rfl⟩)
    | (go_at_call 81; (with_reducible refine (HVS.out _ hs4).mono ?_); rintro e w5 ⟨rfl, rfl⟩))
  go_ret
  exact ⟨rfl, joinB HB1.out hs4⟩
end Go.Proofs.YtkaedfgmhfefjaaGreatDoor

namespace Go.Proofs.YtkaedfgmhfefjaaGreatDoor
open Go.RowKit
theorem results_row_tmp2 {P : Program} {fn : Func} {p t1 t2 : Tmp} {ty : TypeId} (h : fn.results = #[.cell p ty, .tmp t1, .tmp t2]) (tmps : Array Value) (w : World) (g : Nat) (t : TypeId) (cs : Array Value) (fr : Nat × Nat) (d : TypeDesc)
    (hp : tmps.getD p undef = .pointer (some ⟨g, 0, none⟩)) (hg : w.heap[g]? = some (.cells cs t fr))
    (hu : P.underlying ty = some d) (hd : (match d with | .struct _ | .array _ _ => true | _ => false) = true) (hi : (P.info? ty).map (·.size) = some cs.size) :
    (results fn tmps).run P w = .ok (.tuple #[.agg cs, tmps.getD t1 undef, tmps.getD t2 undef]) w := by
  have hp' : tmps[p]?.getD undef = .pointer (some ⟨g, 0, none⟩) := by simpa using hp
  simp [results, h, hp', asAddr, run_loadVar_row w g t ty cs fr d hg hu hd hi, Sem.run_bind, Result.andThen]
theorem hi_all (k : Int) : hi k ≤ 16 := by
  unfold hi
  split
  · decide
  · have h : ∀ i : Fin 16, spansL.getD (2 * i.val + 1) 0 ≤ 16 := by decide
    exact h ⟨k.toNat, by omega⟩
theorem tabs_lg {w : World} (h : Lg.Tabs w) : Tabs w := ⟨h.1, h.2.1⟩
theorem made_vals (n : Nat) : (madeCells #[Value.int .u8 0] n).toList = (List.replicate n (0 : Int)).map (Value.int .u8) := by
  apply List.ext_getElem?
  intro j
  by_cases hj : j < n
  · simp [madeCells, hj, Nat.mod_one]
  · rw [List.getElem?_eq_none (by simp [madeCells]; omega), List.getElem?_eq_none (by simp; omega)]
theorem gnext {w wr w' : World} {g : Nat} (h : w.grownBy wr (some g)) (hb : Below wr.heap.size wr w') : w.grownBy w' (some g) := by
  obtain ⟨h1, h2, h3, h4, h5⟩ := h
  exact ⟨hb.os.trans h1, hb.tape.trans h2, hb.output.trans h3, Nat.le_trans h4 hb.size, fun i hi hne => (hb.block i (Nat.lt_of_lt_of_le hi h4)).trans (h5 i hi hne)⟩
theorem gdrew {w wr : World} {g : Nat} (h : w.grownBy wr (some g)) : w.grownBy wr.drew (some g) := gnext h (Below.drew (Below.refl _ _))
theorem bgrown {w0 w wr : World} {g : Nat} (h : BelW w0 w) (hg : w.grownBy wr (some g)) (h0 : w0.heap.size ≤ g) : BelW w0 wr :=
  Below.grown h hg (Below.size h) (fun k e => by cases e; exact h0)
theorem Row.drewS {w : World} {d : Nat} {l : List Int} (h : Row w d l) : Row w.drew d l := h
theorem VRow.drew {w : World} {g : Nat} {l : List Int} (h : VRow w g l) : VRow w.drew g l := h
structure RL (W1 : World) (g s q d n : Nat) (R : List Int) (cs : List Value) (out : List Int) (wr : World) : Prop where
  bel : BelW W1 wr
  row : VRow wr g out
  st : Fr wr s 121 cs
  qc : wr.cell? ⟨q, 0, none⟩ = some (.slice (some ⟨g, 0, none⟩) n n)
  ord : Row wr d R
  ne : s ≠ g ∧ q ≠ g ∧ d ≠ g
  low : W1.heap.size ≤ g
  len : out.length = n
section
variable {W1 wr w' : World} {g s q d n : Nat} {R out : List Int} {cs : List Value}
theorem RL.next (h : RL W1 g s q d n R cs out wr) (hb : Below wr.heap.size wr w') : RL W1 g s q d n R cs out w' :=
  ⟨joinB h.bel hb, h.row.below hb, h.st.below hb, (hb.cell (p := ⟨q, 0, none⟩) (cell_lt h.qc)).trans h.qc, h.ord.below hb, h.ne, h.low, h.len⟩
theorem RL.set (h : RL W1 g s q d n R cs out wr) (x : Nat) (v : Int) : RL W1 g s q d n R cs (out.set x v) (wr.setCell ⟨g, x, none⟩ (.int .u8 v)) :=
  ⟨Below.setCell h.bel h.low _, h.row.set x v, h.st.other (a := ⟨g, x, none⟩) (fun e => h.ne.1 e.symm) _, by rw [World.cell?_setCell_other _ _ _ _ (by have hne : ¬ q = g := h.ne.2.1; simp [hne])]; exact h.qc, h.ord.otherS (a := ⟨g, x, none⟩) (fun e => h.ne.2.2 e.symm) _, h.ne, h.low, by rw [List.length_set]; exact h.len⟩
theorem RL.nv (h : RL W1 g s q d n R cs out wr) : Nv wr q out := by
  refine ⟨some ⟨g, 0, none⟩, n, ?_, ?_⟩
  · rw [h.len]; exact h.qc
  · have := h.row.ks
    rw [h.len] at this ⊢
    exact this
theorem RL.drew (h : RL W1 g s q d n R cs out wr) : RL W1 g s q d n R cs out wr.drew := h.next (Below.drew (Below.refl _ _))
end
end Go.Proofs.YtkaedfgmhfefjaaGreatDoor
