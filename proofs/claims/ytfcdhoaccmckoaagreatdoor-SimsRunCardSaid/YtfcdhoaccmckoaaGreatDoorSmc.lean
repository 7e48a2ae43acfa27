/- The walk of sims.Conflicts. -/
import Derived.Test.YtfcdhoaccmckoaaGreatDoorSma
import Derived.Deep.AppendLies
namespace Go.Proofs.YtfcdhoaccmckoaaGreatDoor
open Go.RowKit

/-- Is Bus node i in conflict? -/
def cfl (nets : List Int) (nodes : List Nd) (i : Int) : Bool := conL ((nodes.getD i.toNat default).ins.map (valA nets))
def cflV (c : Ck) (nets : List Int) : List Int := (ofTo c.nodes [13] c.nodes.length).filter (cfl nets c.nodes)
theorem filter_take_succ {p : Int → Bool} {l : List Int} {k : Nat} (hk : k < l.length) : (l.take (k + 1)).filter p = (l.take k).filter p ++ (if p (l.getD k 0) = true then [l.getD k 0] else []) := by
  rw [take_succ_getD _ _ hk, List.filter_append]
  congr 1
  obtain ⟨y, hy⟩ : ∃ y, y = l.getD k 0 := ⟨_, rfl⟩
  rw [← hy]
  cases h : p y <;> simp [h]

set_option maxRecDepth 100000 in
set_option maxHeartbeats 8000000 in
theorem conflicts_any (c : Ck) (nets : List Int) (A0 A1 A2 A3 An : Option Addr) (c0 c1 c2 c3 nn cn : Nat) (w : World) (B : Nat) (hB : B ≤ w.heap.size)
    (hc : Cir w B (.agg #[.slice A0 c.nodes.length c0, .slice A1 c.names.length c1, .slice A2 c.mems.length c2, .slice A3 c.outs.length c3]) c) (hnt : Ks w B (.slice An nn cn) nets) (hsz : c.nodes.length ≤ 1000000) (hpn : ∀ k, k < c.nodes.length → (c.nodes.getD k default).ins.length ≤ 17592186044416) :
    Calls Tryz.prog 39 #[.agg #[.slice A0 c.nodes.length c0, .slice A1 c.names.length c1, .slice A2 c.mems.length c2, .slice A3 c.outs.length c3], .slice An nn cn] w (OfPost (cflV c nets) w) := by
  obtain ⟨W1, HW1⟩ := named (w.alloc (.cells #[.slice A0 c.nodes.length c0, .slice A1 c.names.length c1, .slice A2 c.mems.length c2, .slice A3 c.outs.length c3] 35))
  have hb1 : Below w.heap.size w W1 := by rw [HW1.out]; exact below_new (Below.refl _ _) _
  have hfc : Fr W1 w.heap.size 35 (#[.slice A0 c.nodes.length c0, .slice A1 c.names.length c1, .slice A2 c.mems.length c2, .slice A3 c.outs.length c3]).toList := by rw [HW1.out]; exact Fr.made _ _ _ rfl
  have hz1 : W1.heap.size = w.heap.size + 1 := by rw [HW1.out]; simp
  have hBW : ∀ {W}, BelW W1 W → B ≤ W.heap.size := fun {W} h => Nat.le_trans hB (joinB hb1 h).size
  have hso := stateOf_any nets A0 A1 A2 A3 An c.nodes.length c.names.length c.mems.length c.outs.length nn c0 c1 c2 c3 cn W1 B (hBW (Below.refl _ _)) (Arr.keep stays_u8 hnt (Nat.le_refl _) fun _ hp => hb1.cell (Nat.lt_of_lt_of_le hp hB))
  have hof : ∀ W s, BelW W1 W → Ks W W.heap.size s [13] → Calls Tryz.prog 46 #[.agg #[.slice A0 c.nodes.length c0, .slice A1 c.names.length c1, .slice A2 c.mems.length c2, .slice A3 c.outs.length c3], s] W (OfPost (ofTo c.nodes [13] c.nodes.length) W) :=
    fun W s h hk => of_any c [13] _ s W W.heap.size (Nat.le_refl _) ((hc.below ((joinB hb1 h).mono hB)).more (hBW h)) hk hsz
  have hns : Ns w B (.slice A0 c.nodes.length c0) c.nodes := by
    obtain ⟨v0, v1, v2, v3, e, h, -⟩ := id hc
    simp only [Value.agg.injEq, Array.mk.injEq, List.cons.injEq, and_true] at e
    rw [e.1]; exact h
  have hva : ∀ W q x, BelW W1 W → Nv W q nets → x < c.nodes.length → ∀ A4 c4, Is W B (.slice A4 (c.nodes.getD x default).ins.length c4) (c.nodes.getD x default).ins → Calls Tryz.prog 25 #[.agg #[.slice A0 c.nodes.length c0, .slice A1 c.names.length c1, .slice A2 c.mems.length c2, .slice A3 c.outs.length c3, .func (.func 47) #[] #[.pointer (some ⟨q, 0, none⟩)]], .slice A4 (c.nodes.getD x default).ins.length c4] W (ValsPost ((c.nodes.getD x default).ins.map (valA nets)) W) :=
    fun W q x h hq hx A4 c4 his => values_any nets _ A0 A1 A2 A3 _ _ _ _ c0 c1 c2 c3 _ q W B (hBW h) hq his (hpn x hx)
  have hnd : ∀ W, BelW W1 W → ∀ x, x < c.nodes.length → ∃ b o A4 c4, A0 = some ⟨b, o, none⟩ ∧ b < B ∧ W.cell? ⟨b, o + x * 4 + 1, none⟩ = some (.slice A4 (c.nodes.getD x default).ins.length c4) ∧ Is W B (.slice A4 (c.nodes.getD x default).ins.length c4) (c.nodes.getD x default).ins := fun W h x hx => by
    obtain ⟨A, b, o, cc, e, hA, -, -, hcell⟩ := hns
    simp only [Value.slice.injEq, true_and] at e
    obtain ⟨rfl, rfl⟩ := e
    obtain ⟨hlb, s, e0, e1, e2, e3, h4, k0, -⟩ := hcell x hx
    obtain ⟨A4, b4, o4, c4, rfl, -⟩ := id h4
    exact ⟨b, o, A4, c4, hA (by omega), hlb, ((joinB hb1 h).cell (p := ⟨b, _, none⟩) (by show b < w.heap.size; omega)).trans e1, h4.below ((joinB hb1 h).mono hB)⟩
  have HB1 := Lib.hid hb1
  have HIN : Hid (∀ x ∈ ofTo c.nodes [13] c.nodes.length, 0 ≤ x ∧ x < (c.nodes.length : Int)) := Lib.hid fun x hx => ofTo_in hx
  have hll := ofTo_len c.nodes [13] c.nodes.length
  have HCV : Hid (cflV c nets = (ofTo c.nodes [13] c.nodes.length).filter (cfl nets c.nodes)) := Lib.hid rfl
  obtain ⟨res, HRES⟩ := named (cflV c nets)
  rw [← HRES.out] at HCV
  rw [← HRES.out]
  clear hc hnt hb1 hns hpn hBW
  obtain ⟨L, HL⟩ := named (ofTo c.nodes [13] c.nodes.length)
  rw [← HL.out] at hof HIN hll HCV
  obtain ⟨nd, HND⟩ := named c.nodes
  rw [← HND.out] at HW1 hfc hso hof hva hnd HIN HCV hsz hll
  rw [← HND.out]
  obtain ⟨n, HN⟩ := named nd.length
  rw [← HN.out] at HW1 hfc hso hof hva hnd HIN hsz hll
  rw [← HN.out]
  generalize c.names.length = n1 at HW1 hfc hso hof hva ⊢
  generalize c.mems.length = n2 at HW1 hfc hso hof hva ⊢
  generalize c.outs.length = n3 at HW1 hfc hso hof hva ⊢
  obtain ⟨m, HM⟩ := named L.length
  rw [← HM.out] at hll
  have HCE : Hid (∀ W, BelW W1 W → W.cell? ⟨w.heap.size, 0, none⟩ = some (.slice A0 n c0) ∧ W.cell? ⟨w.heap.size, 1, none⟩ = some (.slice A1 n1 c1) ∧ W.cell? ⟨w.heap.size, 2, none⟩ = some (.slice A2 n2 c2) ∧ W.cell? ⟨w.heap.size, 3, none⟩ = some (.slice A3 n3 c3)) :=
    Lib.hid fun W h => ⟨(hfc.below h).cell 0, (hfc.below h).cell 1, (hfc.below h).cell 2, (hfc.below h).cell 3⟩
  have HSO := Lib.hid hso
  have HOF := Lib.hid hof
  have HVA := Lib.hid hva
  have HNDC := Lib.hid hnd
  have HZ1 := Lib.hid hz1
  have hzl : w.heap.size < W1.heap.size := by omega
  clear hfc hso hof hva hnd hz1
  go_enter Tryz.func39, Tryz.ntmps39
  go_upto_region 1 with (fail)
  rw [← HW1.out]
  obtain ⟨x0, x1, x2, x3⟩ := HCE.out W1 (Below.refl _ _)
  go_upto_region 3 with (go_at_call 22; (with_reducible refine HSO.out.mono ?_); rintro e w2 ⟨⟨q, rfl, hnv, hqz, -⟩, hb⟩; have HB2 := Lib.hid hb; have HNV := Lib.hid hnv; clear hb hnv)
  obtain ⟨V, HV⟩ := named (w2.alloc (.cells #[.slice A0 n c0, .slice A1 n1 c1, .slice A2 n2 c2, .slice A3 n3 c3, .func (.func 47) #[] #[.pointer (some ⟨q, 0, none⟩)]] 71))
  rw [← HV.out]
  have hnew : Below w2.heap.size w2 V := by rw [HV.out]; exact below_new (Below.refl _ _) _
  have hfs : Fr V w2.heap.size 71 (#[.slice A0 n c0, .slice A1 n1 c1, .slice A2 n2 c2, .slice A3 n3 c3, .func (.func 47) #[] #[.pointer (some ⟨q, 0, none⟩)]]).toList := by rw [HV.out]; exact Fr.made _ _ _ rfl
  have hbV : BelW W1 V := joinB HB2.out hnew
  have hnvV : Nv V q nets := HNV.out.below hnew
  obtain ⟨s, HSV⟩ := named w2.heap.size
  have hsV : s < V.heap.size := by rw [HSV.out, HV.out]; simp
  rw [← HSV.out] at hfs
  rw [← HSV.out]
  clear x0 x1 x2 x3
  obtain ⟨x0, x1, x2, x3⟩ := HCE.out V hbV
  obtain ⟨V4, HV4⟩ := named (V.alloc (.cells #[.int .u8 13] 52))
  have hnew4 : Below V.heap.size V V4 := by rw [HV4.out]; exact below_new (Below.refl _ _) _
  have hb4 : BelW W1 V4 := joinB hbV hnew4
  have hk4 : Ks V4 V4.heap.size (.slice (some ⟨V.heap.size, 0, none⟩) 1 1) [13] := by rw [HV4.out]; exact Ks.one V 13 _ rfl
  have hof4 := HOF.out V4 _ hb4 hk4
  have hof5 : Calls Tryz.prog 46 #[.agg #[.slice A0 n c0, .slice A1 n1 c1, .slice A2 n2 c2, .slice A3 n3 c3], .slice (some ⟨V.heap.size, 0, none⟩) 1 1] V4 fun e w' => ∃ A, e = .returned (.slice A m m) ∧ Is w' w'.heap.size (.slice A m m) L ∧ BelW V4 w' := by rw [HM.out]; exact hof4
  have HOF5 := Lib.hid hof5
  have HB4 := Lib.hid hb4
  have HFS := Lib.hid (hfs.below hnew4)
  have HNV4 := Lib.hid (hnvV.below hnew4)
  have hs4 : s < V4.heap.size := Nat.lt_of_lt_of_le hsV hnew4.size
  clear hnew hbV hnvV hfs hnew4 hb4 hk4 hof4 hof5
  go_wp2_with (go_at_call 46; rw [← HV4.out]; (with_reducible refine HOF5.out.mono ?_); rintro e w3 ⟨AL, rfl, hi, hb⟩; have HLI := Lib.hid hi; have HB3 := Lib.hid hb; clear hi hb)
  obtain ⟨AA, bL, oL, cL, eL, hAL, -, -, hcL⟩ := HLI.out.opens
  rw [← HM.out] at eL hAL hcL
  simp only [Value.slice.injEq, true_and] at eL
  obtain ⟨rfl, -⟩ := eL
  have HAL := Lib.hid hAL
  have HCL := Lib.hid hcL
  clear hAL hcL x0 x1 x2 x3
  have hs3 : s < w3.heap.size := Nat.lt_of_lt_of_le hs4 (Below.size HB3.out)
  have hfs3 := HFS.out.below HB3.out
  have HFS3 : Hid (∀ W, BelW w3 W → W.cell? ⟨s, 0, none⟩ = some (.slice A0 n c0) ∧ W.cell? ⟨s, 1, none⟩ = some (.slice A1 n1 c1) ∧ W.cell? ⟨s, 2, none⟩ = some (.slice A2 n2 c2) ∧ W.cell? ⟨s, 3, none⟩ = some (.slice A3 n3 c3) ∧ W.cell? ⟨s, 4, none⟩ = some (.func (.func 47) #[] #[.pointer (some ⟨q, 0, none⟩)])) := Lib.hid fun W h => ⟨(hfs3.below h).cell 0, (hfs3.below h).cell 1, (hfs3.below h).cell 2, (hfs3.below h).cell 3, (hfs3.below h).cell 4⟩
  have HNV3 := Lib.hid (HNV4.out.below HB3.out)
  have HW3 : Hid (BelW W1 w3) := Lib.hid (joinB HB4.out HB3.out)
  clear hfs3
  go_loopw [16, 6] (fun i sv wr => ∃ k : Nat, k ≤ m ∧ i = .int .i64 k ∧ BelW w3 wr ∧ Stk wr w3.heap.size sv ((L.take k).filter (cfl nets nd))) (fun i _ _ => m - (intOf i).toNat)
  case atStart => exact ⟨0, Nat.zero_le _, rfl, Below.refl _ _, Stk.nil _ _⟩
  case round =>
    obtain ⟨k, hk, rfl, hb, hst⟩ := hrel
    obtain ⟨A6, c6, rfl, hle6, hc6, hsh⟩ := hst.shape
    have hfl : ((L.take k).filter (cfl nets nd)).length ≤ k := Nat.le_trans (List.length_filter_le _ _) (by rw [List.length_take]; omega)
    by_cases hlt : k < m
    · obtain rfl := HAL.out (by omega)
      obtain ⟨hlb, hx⟩ := HCL.out k hlt
      have hx2 : wr.cell? ⟨bL, oL + k, none⟩ = some (.int .i64 (L.getD k 0)) := (Below.cell hb (p := ⟨bL, oL + k, none⟩) hlb).trans hx
      obtain ⟨j0, j1⟩ := HIN.out (L.getD k 0) (by rw [List.getD_eq_getElem?_getD, List.getElem?_eq_getElem (by rw [← HM.out]; exact hlt)]; exact List.getElem_mem _)
      obtain ⟨x, hxx⟩ := Int.eq_ofNat_of_zero_le j0
      have HFT : Hid ((L.take (k + 1)).filter (cfl nets nd) = (L.take k).filter (cfl nets nd) ++ (if cfl nets nd (x : Int) = true then [(x : Int)] else [])) := Lib.hid (by rw [filter_take_succ (by rw [← HM.out]; exact hlt), hxx])
      rw [hxx] at hx2 j1
      have hxn : x < n := by omega
      obtain ⟨b, o, A4, c4, rfl, hlb4, e1, his⟩ := HNDC.out wr (joinB HW3.out hb) x hxn
      have HBR := Lib.hid hb
      have HST := Lib.hid hst
      have hvx := HVA.out wr.drew q x (joinB HW3.out (Below.drew hb)) (HNV3.out.below (Below.drew hb)) hxn A4 c4 (his.below (Below.drew (Below.refl _ _)))
      have HCF : Hid (cfl nets nd (x : Int) = conL ((nd.getD x default).ins.map (valA nets))) := Lib.hid (by unfold cfl; rw [Int.toNat_natCast])
      obtain ⟨vals, HVL⟩ := named ((nd.getD x default).ins.map (valA nets))
      rw [← HVL.out] at hvx HCF
      obtain ⟨ni4, HNI⟩ := named (nd.getD x default).ins.length
      have hvl : vals.length = ni4 := by rw [HVL.out, List.length_map, HNI.out]
      rw [← HNI.out] at hvx e1
      have hvx2 : Calls Tryz.prog 25 #[.agg #[.slice (some ⟨b, o, none⟩) n c0, .slice A1 n1 c1, .slice A2 n2 c2, .slice A3 n3 c3, .func (.func 47) #[] #[.pointer (some ⟨q, 0, none⟩)]], .slice A4 ni4 c4] wr.drew fun e w' => ∃ g5, e = .returned (.slice (some ⟨g5, 0, none⟩) ni4 ni4) ∧ VRow w' g5 vals ∧ BelW wr.drew w' := hvx.mono fun e w' ⟨g5, he, hv, _, hb⟩ => ⟨g5, by rw [he, hvl], hv, hb⟩
      have hcf : ∀ W g5, VRow W g5 vals → Calls Tryz.prog 63 #[.slice (some ⟨g5, 0, none⟩) ni4 ni4] W fun e w' => e = .returned (.bool (cfl nets nd (x : Int))) ∧ BelW W w' := fun W g5 h => by
        have h2 := Lg.conflict_any (Nat.le_refl _) h.ks.vs
        rw [hvl] at h2
        rw [HCF.out]; exact h2
      have hke : ∀ w', BelW wr w' → BelW wr w' ∧ w'.cell? ⟨s, 0, none⟩ = some (.slice (some ⟨b, o, none⟩) n c0) ∧ w'.cell? ⟨s, 1, none⟩ = some (.slice A1 n1 c1) ∧ w'.cell? ⟨s, 2, none⟩ = some (.slice A2 n2 c2) ∧ w'.cell? ⟨s, 3, none⟩ = some (.slice A3 n3 c3) ∧ w'.cell? ⟨s, 4, none⟩ = some (.func (.func 47) #[] #[.pointer (some ⟨q, 0, none⟩)]) ∧ w'.cell? ⟨b, o + x * 4 + 1, none⟩ = some (.slice A4 ni4 c4) := fun w' h =>
        have t := HFS3.out w' (joinB HBR.out h)
        ⟨h, t.1, t.2.1, t.2.2.1, t.2.2.2.1, t.2.2.2.2, (Below.cell h (p := ⟨b, _, none⟩) (cell_lt e1)).trans e1⟩
      have HVX := Lib.hid hvx2
      have HKE := Lib.hid hke
      have hst' : BelW wr wr := Below.refl _ _
      obtain ⟨ll, HLL⟩ := named ((L.take k).filter (cfl nets nd))
      rw [← HLL.out] at HFT HST hfl hle6
      rw [← HLL.out]
      have hrz := Below.size hb
      cases hcc : cfl nets nd (x : Int)
      · rw [hcc] at hcf HFT
        rw [if_neg (by decide), List.append_nil] at HFT
        have HCFF := Lib.hid hcf
        clear hvx hvx2 hcf hke hx hxx j0 j1 his hst hsh e1 hb
        go_wp2
        go_region_held3 (fun w' => BelW wr w' ∧ w'.cell? ⟨s, 0, none⟩ = some (.slice (some ⟨b, o, none⟩) n c0) ∧ w'.cell? ⟨s, 1, none⟩ = some (.slice A1 n1 c1) ∧ w'.cell? ⟨s, 2, none⟩ = some (.slice A2 n2 c2) ∧ w'.cell? ⟨s, 3, none⟩ = some (.slice A3 n3 c3) ∧ w'.cell? ⟨s, 4, none⟩ = some (.func (.func 47) #[] #[.pointer (some ⟨q, 0, none⟩)]) ∧ w'.cell? ⟨b, o + x * 4 + 1, none⟩ = some (.slice A4 ni4 c4))
          ((refine HKE.out _ ?_; first | (with_reducible assumption) | (refine BelW.drew ?_; with_reducible assumption)))
          (first
            | (go_at_call 25; refine Calls.mono HVX.out ?_
               rintro e wA ⟨g5, rfl, hvA, hbA⟩
               have hsA : BelW wr wA := joinB (Below.drew (Below.refl _ _)) hbA)
            | (go_at_call 63; refine Calls.mono (HCFF.out _ _ ?_) ?_; · (with_reducible assumption)
               rintro e wB ⟨rfl, hbB⟩
               have hsB : BelW wr wB := joinB hsA hbB))
        go_wp2
        go_roundw
        case rel =>
          refine ⟨k + 1, by omega, by go_num, joinB HBR.out hsB, ?_⟩
          rw [HFT.out]
          exact HST.out.below hsB
        case measure => simp [intOf]; omega
      · rw [hcc] at hcf HFT
        rw [if_pos rfl] at HFT
        have HCFF := Lib.hid hcf
        clear hvx hvx2 hcf hke hx hxx j0 j1 his hst hsh e1 hb
        obtain ⟨i1, hi1, hz0, hz1, hz2⟩ := info_parts info_int
        have HI := Lib.hid (And.intro hi1 (And.intro hz0 (And.intro hz1 hz2)))
        clear hi1 hz0 hz1 hz2
        go_wp2
        go_region_held3 (fun w' => BelW wr w' ∧ w'.cell? ⟨s, 0, none⟩ = some (.slice (some ⟨b, o, none⟩) n c0) ∧ w'.cell? ⟨s, 1, none⟩ = some (.slice A1 n1 c1) ∧ w'.cell? ⟨s, 2, none⟩ = some (.slice A2 n2 c2) ∧ w'.cell? ⟨s, 3, none⟩ = some (.slice A3 n3 c3) ∧ w'.cell? ⟨s, 4, none⟩ = some (.func (.func 47) #[] #[.pointer (some ⟨q, 0, none⟩)]) ∧ w'.cell? ⟨b, o + x * 4 + 1, none⟩ = some (.slice A4 ni4 c4))
          ((refine HKE.out _ ?_; first | (with_reducible assumption) | (refine BelW.drew ?_; with_reducible assumption)))
          (first
            | (go_at_call 25; refine Calls.mono HVX.out ?_
               rintro e wA ⟨g5, rfl, hvA, hbA⟩
               have hsA : BelW wr wA := joinB (Below.drew (Below.refl _ _)) hbA)
            | (go_at_call 63; refine Calls.mono (HCFF.out _ _ ?_) ?_; · (with_reducible assumption)
               rintro e wB ⟨rfl, hbB⟩
               have hsB : BelW wr wB := joinB hsA hbB))
        have HSB := Lib.hid (HST.out.below hsB)
        have HBB := Lib.hid (joinB HBR.out hsB)
        have hbz := Below.size hsB
        go_wp2_with (at_builtin; refine wpList_append_own_at _ rfl _ _ 33 rfl w3.heap.size 3 i1 (.int .i64 0) 1 8 Tryz.underlying33 HI.out.1 HI.out.2.1 HI.out.2.2.1 HI.out.2.2.2 rfl (by decide) _ _ _ rfl (World.ownsRow.alloc HSB.out _) ⟨wB.heap.size, 0, none⟩ 1 1 [.int .i64 (x : Int)] rfl rfl (by have := one_new wB (.int .i64 (x : Int)) 3; simpa using this) (ints_oneCell .i64 [(x : Int)]) (by unfold maxLen; omega) (by omega) (by first | omega | (simp; omega)) ?_; intro v' w5 hown' hgrow hnil hloc; have HF := Lib.hid (push_own (by first | omega | (simp; omega)) HBB.out HSB.out hown' hgrow); clear hown' hgrow hnil hloc)
        go_roundw
        case rel =>
          refine ⟨k + 1, by omega, by go_num, HF.out.1, ?_⟩
          rw [HFT.out]; exact HF.out.2
        case measure => simp [intOf]; omega
    · obtain rfl : m = k := by omega
      have hall : (L.take m).filter (cfl nets nd) = res := by rw [HCV.out, List.take_of_length_le (by rw [HM.out]; exact Nat.le_refl _)]
      rw [hall] at hst hle6 hfl
      rw [hall]
      have hr := hst.reads _ (Nat.le_refl _) (by unfold maxLen; omega)
      have HR := Lib.hid hr
      have HBR := Lib.hid hb
      have hclip := clip_any A6 res.length c6 wr (by rw [hall] at hsh; exact hsh) hle6 hc6
      have HCP := Lib.hid hclip
      clear hr hb hst hclip hsh hle6
      go_wp2_with (go_at_call 64; (with_reducible refine HCP.out.mono ?_); rintro e w1 ⟨rfl, rfl⟩)
      go_ret
      exact ⟨A6, rfl, HR.out, joinB HB1.out (joinB HW3.out HBR.out)⟩
end Go.Proofs.YtfcdhoaccmckoaaGreatDoor

