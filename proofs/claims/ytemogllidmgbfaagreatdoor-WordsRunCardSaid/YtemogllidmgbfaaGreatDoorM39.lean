/- The texts Wsi Wru Sml. -/
import Derived.Test.YtemogllidmgbfaaGreatDoorM38
import Derived.Test.YtemogllidmgbfaaGreatDoorM25
import Derived.Test.YtemogllidmgbfaaGreatDoorM37
import Derived.Test.YtemogllidmgbfaaGreatDoorM18
import Derived.Test.YtemogllidmgbfaaGreatDoorM16
import Derived.Deep.AppendLies
import Derived.Test.YtemogllidmgbfaaGreatDoorM28
import Derived.Test.YtemogllidmgbfaaGreatDoorM17
namespace Go.Proofs.YtemogllidmgbfaaGreatDoor
open Go.RowKit

theorem getD_mem_w {l : List Int} {k : Nat} (hk : k < l.length) : l.getD k 0 ∈ l := by
  rw [List.getD_eq_getElem?_getD, List.getElem?_eq_getElem hk]; exact List.getElem_mem hk
set_option maxRecDepth 100000 in
set_option maxHeartbeats 16000000 in
theorem simw_any (c : Ck) (ps : List (List Int × List Int)) (A0 A1 A2 A3 Al : Option Addr) (c0 c1 c2 c3 np cl : Nat) (w : World) (B : Nat) (hB : B ≤ w.heap.size) (hT : Lg.Tabs w) (hft : Ft w) (hc : Cir w B (.agg #[.slice A0 c.nodes.length c0, .slice A1 c.names.length c1, .slice A2 c.mems.length c2, .slice A3 c.outs.length c3]) c) (hp : Pts w B (.slice Al np cl) ps) (hn20 : c.nodes.length < 20) (hck : chkErr c = 0) (hnp : np ≤ 64) (hfit : ∀ x ∈ ps, Fits c x.1 x.2) :
    Calls Tryz.prog 42 #[.agg #[.slice A0 c.nodes.length c0, .slice A1 c.names.length c1, .slice A2 c.mems.length c2, .slice A3 c.outs.length c3], .slice Al np cl] w fun e w' => ∃ g L P out, e = .returned (.slice (some ⟨g, 0, none⟩) c.nodes.length c.nodes.length) ∧ WRow w' g out ∧ Lvl c.nodes L ∧
      WSt c.nodes (baseW c.nodes.length (ofTo c.nodes [0] c.nodes.length) (ofTo c.nodes [14] c.nodes.length) (rowW (ps.map (·.1)) (ofTo c.nodes [0] c.nodes.length).length) (rowW (ps.map (·.2)) (ofTo c.nodes [14] c.nodes.length).length)) P out ∧ (∀ i : Nat, i < c.nodes.length → (i : Int) ∈ P) ∧ w.heap.size ≤ g ∧ BelW w w' := by
  have hsz : c.nodes.length ≤ 1000000 := by omega
  have hpl : np = ps.length := by
    obtain ⟨A', b, o, c', e, -⟩ := id hp
    simp only [Value.slice.injEq] at e
    exact e.2.1
  obtain ⟨W1, HW1⟩ := named (w.alloc (.cells #[.slice A0 c.nodes.length c0, .slice A1 c.names.length c1, .slice A2 c.mems.length c2, .slice A3 c.outs.length c3] 46))
  have hb1 : BelW w W1 := by rw [HW1.out]; exact below_new (Below.refl _ _) _
  have hfc : Fr W1 w.heap.size 46 [.slice A0 c.nodes.length c0, .slice A1 c.names.length c1, .slice A2 c.mems.length c2, .slice A3 c.outs.length c3] := by rw [HW1.out]; exact Fr.made _ _ _ rfl
  have hBW : ∀ {W}, BelW W1 W → B ≤ W.heap.size := fun {W} h => Nat.le_trans hB (Below.size (joinB hb1 h))
  have hcW : ∀ {W}, BelW W1 W → Cir W B (.agg #[.slice A0 c.nodes.length c0, .slice A1 c.names.length c1, .slice A2 c.mems.length c2, .slice A3 c.outs.length c3]) c := fun {W} h => hc.below ((joinB hb1 h).mono hB)
  have hpW : ∀ {W}, BelW W1 W → Pts W B (.slice Al np cl) ps := fun {W} h => Arr.keep stays_pat hp (Nat.le_refl _) fun _ hp => Below.cell (joinB hb1 h) (Nat.lt_of_lt_of_le hp hB)
  have hin : ∀ W, BelW W1 W → Calls Tryz.prog 46 #[.agg #[.slice A0 c.nodes.length c0, .slice A1 c.names.length c1, .slice A2 c.mems.length c2, .slice A3 c.outs.length c3]] W fun e w' => ∃ A, e = .returned (.slice A (ofTo c.nodes [0] c.nodes.length).length (ofTo c.nodes [0] c.nodes.length).length) ∧ Is w' w'.heap.size (.slice A (ofTo c.nodes [0] c.nodes.length).length (ofTo c.nodes [0] c.nodes.length).length) (ofTo c.nodes [0] c.nodes.length) ∧ BelW W w' := fun W h => inputs_any c _ W B (hBW h) (hcW h) hsz
  have hst : ∀ W, BelW W1 W → Calls Tryz.prog 47 #[.agg #[.slice A0 c.nodes.length c0, .slice A1 c.names.length c1, .slice A2 c.mems.length c2, .slice A3 c.outs.length c3]] W fun e w' => ∃ A, e = .returned (.slice A (ofTo c.nodes [14] c.nodes.length).length (ofTo c.nodes [14] c.nodes.length).length) ∧ Is w' w'.heap.size (.slice A (ofTo c.nodes [14] c.nodes.length).length (ofTo c.nodes [14] c.nodes.length).length) (ofTo c.nodes [14] c.nodes.length) ∧ BelW W w' := fun W h => states_any c _ W B (hBW h) (hcW h) hsz
  have hp1 : ∀ W q i, BelW W1 W → W.cell? ⟨q, 0, none⟩ = some (.int .i64 ((i : Nat) : Int)) → i < (ofTo c.nodes [0] c.nodes.length).length → Calls Tryz.prog 82 #[.slice Al np cl, .func (.func 83) #[] #[.pointer (some ⟨q, 0, none⟩)]] W fun e w' => e = .returned (wv (colW (ps.map (·.1)) i).1 (colW (ps.map (·.1)) i).2) ∧ BelW W w' := fun W q i h hq hi => by
    rw [colW_1 hpl hnp]
    exact pack1_any ps Al np cl i q W B (hBW h) (hft.below (joinB hb1 h)) (hpW h) (fun x hx => by rw [(hfit x hx).li]; exact hi) (fun x hx y hy => ((hfit x hx).vi y hy).1) hnp hq
  have hp2 : ∀ W q i, BelW W1 W → W.cell? ⟨q, 0, none⟩ = some (.int .i64 ((i : Nat) : Int)) → i < (ofTo c.nodes [14] c.nodes.length).length → Calls Tryz.prog 82 #[.slice Al np cl, .func (.func 84) #[] #[.pointer (some ⟨q, 0, none⟩)]] W fun e w' => e = .returned (wv (colW (ps.map (·.2)) i).1 (colW (ps.map (·.2)) i).2) ∧ BelW W w' := fun W q i h hq hi => by
    rw [colW_2 hpl hnp]
    exact pack2_any ps Al np cl i q W B (hBW h) (hft.below (joinB hb1 h)) (hpW h) (fun x hx => by rw [(hfit x hx).ls]; exact hi) (fun x hx y hy => ((hfit x hx).vs y hy).1) hnp hq
  have hir : ∀ k, k < (ofTo c.nodes [0] c.nodes.length).length → 0 ≤ (ofTo c.nodes [0] c.nodes.length).getD k 0 ∧ (ofTo c.nodes [0] c.nodes.length).getD k 0 < (c.nodes.length : Int) := fun k hk => by
    rw [List.getD_eq_getElem?_getD, List.getElem?_eq_getElem hk]
    exact ofTo_in (List.getElem_mem hk)
  have hsr : ∀ k, k < (ofTo c.nodes [14] c.nodes.length).length → 0 ≤ (ofTo c.nodes [14] c.nodes.length).getD k 0 ∧ (ofTo c.nodes [14] c.nodes.length).getD k 0 < (c.nodes.length : Int) := fun k hk => by
    rw [List.getD_eq_getElem?_getD, List.getElem?_eq_getElem hk]
    exact ofTo_in (List.getElem_mem hk)
  have hshape : shapeErr c = 0 := by
    unfold chkErr at hck
    split at hck
    · rename_i h1; exact absurd hck h1
    · rename_i h1; simpa using h1
  have hwf := wf_of_shape hshape
  have hpins : ∀ k, k < c.nodes.length → (c.nodes.getD k default).ins.length ≤ 16 := fun k hk => by
    have h1 := nodeErr_zero ((shape_zero hshape).2.2.2.2.1 _ (getD_mem_nd hk))
    have h3 := h1.2.2.1
    have h4 : hi (c.nodes.getD k default).kind ≤ 16 := hi_all _
    omega
  have hns : Ns w B (.slice A0 c.nodes.length c0) c.nodes := by
    obtain ⟨v0, v1, v2, v3, e, h, -⟩ := id hc
    simp only [Value.agg.injEq, Array.mk.injEq, List.cons.injEq, and_true] at e
    rw [e.1]; exact h
  have hor : ∀ W, BelW W1 W → Calls Tryz.prog 48 #[.agg #[.slice A0 c.nodes.length c0, .slice A1 c.names.length c1, .slice A2 c.mems.length c2, .slice A3 c.outs.length c3]] W fun e w' => ∃ L R d, Lvl c.nodes L ∧ SortTo L c.nodes.length c.nodes.length R ∧ W.heap.size ≤ d ∧ e = .returned (.tuple #[.slice (some ⟨d, 0, none⟩) c.nodes.length c.nodes.length, .int .i64 0]) ∧ Row w' d R ∧ BelW W w' := fun W h =>
    (order_any c _ W B (hBW h) (tabs_lg (hT.below (joinB hb1 h))) (hcW h) hn20).mono fun e w' ⟨h1, h2⟩ => by
      rcases h2 with ⟨-, -, L, R, d, hl, -, hs, hd, he, hr⟩ | ⟨hne, -⟩
      · exact ⟨L, R, d, hl, hs, hd, he, hr, h1⟩
      · exact absurd hck hne
  have hwo : ∀ W g out x A4 c4, BelW W1 W → WRow W g out → WOk out → out.length = c.nodes.length → x < c.nodes.length → Is W B (.slice A4 (c.nodes.getD x default).ins.length c4) (c.nodes.getD x default).ins → Calls Tryz.prog 85 #[.slice (some ⟨g, 0, none⟩) c.nodes.length c.nodes.length, .slice A4 (c.nodes.getD x default).ins.length c4] W fun e w' => ∃ g5, e = .returned (.slice (some ⟨g5, 0, none⟩) (c.nodes.getD x default).ins.length (c.nodes.getD x default).ins.length) ∧ WRow w' g5 ((c.nodes.getD x default).ins.map (wlat out)) ∧ BelW W w' := fun W g out x A4 c4 h hr hok hl hx his => by
    have hwd := hr.wd fun k _ => hok k
    rw [hl] at hwd
    exact (wordsof_any out _ _ _ _ _ W W.heap.size (Nat.le_refl _) hwd (his.more (hBW h)) (fun k hk => by
      exact hwf x hx _ (getD_mem_w hk)) (by have := hpins x hx; omega)).mono fun e w' ⟨g5, h1, h2, _, h3⟩ => ⟨g5, h1, h2, h3⟩
  have hev : ∀ W g5 out x, BelW W1 W → WRow W g5 ((c.nodes.getD x default).ins.map (wlat out)) → WOk out → 0 ≤ (c.nodes.getD x default).kind → Calls Tryz.prog 8 #[.int .u8 (c.nodes.getD x default).kind, .slice (some ⟨g5, 0, none⟩) (c.nodes.getD x default).ins.length (c.nodes.getD x default).ins.length] W fun e w' => e = .returned (wv (evW (c.nodes.getD x default).kind ((c.nodes.getD x default).ins.map (wlat out))).1 (evW (c.nodes.getD x default).kind ((c.nodes.getD x default).ins.map (wlat out))).2) ∧ BelW W w' := fun W g5 out x h hr hok hk => by
    have hwd := hr.wd fun k _ => wmap_ok hok _ k
    rw [List.length_map] at hwd
    exact weval_any _ hk _ _ _ _ W W.heap.size (Nat.le_refl _) (hT.below (joinB hb1 h)) (hft.below (joinB hb1 h)) hwd
  have hnd : ∀ W, BelW W1 W → ∀ x, x < c.nodes.length → ∃ b o A4 c4, A0 = some ⟨b, o, none⟩ ∧ b < B ∧ W.cell? ⟨b, o + x * 4, none⟩ = some (.int .u8 (c.nodes.getD x default).kind) ∧ W.cell? ⟨b, o + x * 4 + 1, none⟩ = some (.slice A4 (c.nodes.getD x default).ins.length c4) ∧ W.cell? ⟨b, o + x * 4 + 2, none⟩ = some (.int .i64 (c.nodes.getD x default).mem) ∧ W.cell? ⟨b, o + x * 4 + 3, none⟩ = some (.int .i64 (c.nodes.getD x default).bit) ∧ Is W B (.slice A4 (c.nodes.getD x default).ins.length c4) (c.nodes.getD x default).ins ∧ 0 ≤ (c.nodes.getD x default).kind := fun W h x hx => by
    obtain ⟨A, b, o, cc, e, hA, -, -, hcell⟩ := hns
    simp only [Value.slice.injEq, true_and] at e
    obtain ⟨rfl, rfl⟩ := e
    obtain ⟨hlb, s, e0, e1, e2, e3, h4, k0, -⟩ := hcell x hx
    obtain ⟨A4, b4, o4, c4, rfl, -⟩ := id h4
    have hk : ∀ j, W.cell? ⟨b, j, none⟩ = w.cell? ⟨b, j, none⟩ := fun j => (joinB hb1 h).cell (p := ⟨b, j, none⟩) (by show b < w.heap.size; omega)
    exact ⟨b, o, A4, c4, hA (by omega), hlb, by rw [hk]; exact e0, by rw [hk]; exact e1, by rw [hk]; exact e2, by rw [hk]; exact e3, h4.below ((joinB hb1 h).mono hB), k0⟩
  have HOR0 := Lib.hid hor
  have HND0 := Lib.hid hnd
  have HWO0 := Lib.hid hwo
  have HEV0 := Lib.hid hev
  have HWF0 := Lib.hid hwf
  have HB1 := Lib.hid hb1
  have HT := Lib.hid hT
  have HFT := Lib.hid hft
  have HC0 := Lib.hid hc
  have HCK := Lib.hid hck
  clear hc hp hb1 hBW hcW hpW hfit hT hft hck hor hnd hwo hev hwf hns hshape hpins
  obtain ⟨ins, HINS⟩ := named (ofTo c.nodes [0] c.nodes.length)
  obtain ⟨sts, HSTS⟩ := named (ofTo c.nodes [14] c.nodes.length)
  rw [← HINS.out] at hin hp1 hir
  rw [← HSTS.out] at hst hp2 hsr
  rw [← HINS.out, ← HSTS.out]
  obtain ⟨pi, HPI⟩ := named (ps.map (·.1))
  obtain ⟨pq, HPQ⟩ := named (ps.map (·.2))
  rw [← HPI.out] at hp1
  rw [← HPQ.out] at hp2
  rw [← HPI.out, ← HPQ.out]
  obtain ⟨m1, HM1⟩ := named ins.length
  obtain ⟨m2, HM2⟩ := named sts.length
  obtain ⟨n, HN⟩ := named c.nodes.length
  rw [← HN.out] at HW1 hfc hin hst hir hsr hsz HOR0 HND0 HWO0
  rw [← HM1.out] at hin hp1 hir
  rw [← HM2.out] at hst hp2 hsr
  rw [← HN.out, ← HM1.out, ← HM2.out]
  generalize hn1 : c.names.length = n1 at *
  generalize hn2 : c.mems.length = n2 at *
  generalize hn3 : c.outs.length = n3 at *
  have HCE : Hid (∀ W, BelW W1 W → W.cell? ⟨w.heap.size, 0, none⟩ = some (.slice A0 n c0) ∧ W.cell? ⟨w.heap.size, 1, none⟩ = some (.slice A1 n1 c1) ∧ W.cell? ⟨w.heap.size, 2, none⟩ = some (.slice A2 n2 c2) ∧ W.cell? ⟨w.heap.size, 3, none⟩ = some (.slice A3 n3 c3)) := Lib.hid fun W h =>
    ⟨(hfc.below h).cell 0, (hfc.below h).cell 1, (hfc.below h).cell 2, (hfc.below h).cell 3⟩
  obtain ⟨i0, hi0, hz0, hz1, hz2⟩ := info_parts info_word
  have HI := Lib.hid (And.intro hi0 (And.intro hz0 (And.intro hz1 hz2)))
  have HIN := Lib.hid hin
  have HST := Lib.hid hst
  have HP1 := Lib.hid hp1
  have HP2 := Lib.hid hp2
  have HIR := Lib.hid hir
  have HSR := Lib.hid hsr
  have hzw : w.heap.size < W1.heap.size := hfc.lt
  have HZW := Lib.hid hzw
  clear hi0 hz0 hz1 hz2 hin hst hp1 hp2 hir hsr hfc hpl hzw
  obtain ⟨base, HBASE⟩ := named (baseW n ins sts (rowW pi m1) (rowW pq m2))
  rw [← HBASE.out]
  unfold wv at *
  obtain ⟨z0, z1, z2, z3⟩ := HCE.out W1 (Below.refl _ _)
  go_enter Tryz.func42, Tryz.ntmps42
  go_upto_region 1 with (fail)
  rw [← HW1.out]
  go_wp2_with (at_make; refine wpList_make_full _ rfl _ _ 23 rfl W1.heap.size 27 i0 (.agg #[.int .u64 0, .int .u64 0]) 2 Tryz.underlying23 HI.out.1 HI.out.2.1 HI.out.2.2.1 .i64 .i64 _ _ n rfl rfl rfl rfl ?b2 ?b3 ?b4 ?_)
  case b2 => rw [HI.out.2.2.2]; omega
  case b3 => unfold maxLen; omega
  case b4 => exact Nat.le_refl _
  intro w1 hown hgr
  rw [flatW_zero] at hown
  have hv : WRow w1 W1.heap.size (List.replicate n (0, 0)) := WRow.of hown (by simp)
  have hb : BelW W1 w1 := (Below.refl _ _).grown hgr (Nat.le_refl _) (fun k h => by cases h)
  obtain ⟨g, HG⟩ := named W1.heap.size
  rw [← HG.out] at hv
  rw [← HG.out]
  have hgl : W1.heap.size ≤ g := by rw [HG.out]; exact Nat.le_refl _
  obtain ⟨y0, y1, y2, y3⟩ := HCE.out w1 hb
  have HV := Lib.hid hv
  have HB := Lib.hid hb
  clear hown hgr hv hb z0 z1 z2 z3
  go_wp2_with (go_at_call 46; (with_reducible refine Calls.mono (HIN.out _ HB.out) ?_); rintro e w2 ⟨Ai, rfl, hi2, hb2⟩; have HI2 := Lib.hid hi2; have HV2 := Lib.hid (HV.out.below hb2); have HB2 : Hid (BelW W1 w2) := Lib.hid (joinB HB.out hb2); clear hi2 hb2)
  obtain ⟨Ab, bi, oi, ci, e, hA, -, hmx, hcell⟩ := HI2.out.opens
  simp only [Value.slice.injEq] at e
  obtain ⟨rfl, -, -⟩ := e
  rw [← HM1.out] at hA hmx hcell
  unfold maxLen at hmx
  have HA1 := Lib.hid hA
  have HD1 : Hid (∀ wr, w2.grownBy wr (some g) → ∀ k, k < m1 → ∃ x : Nat, ins.getD k 0 = (x : Int) ∧ x < n ∧ wr.cell? ⟨bi, oi + k, none⟩ = some (.int .i64 (x : Int))) := Lib.hid fun wr hg k hk => by
    obtain ⟨p0, p1⟩ := HIR.out k hk
    obtain ⟨x, hx⟩ := Int.eq_ofNat_of_zero_le p0
    have h2 := (hcell k hk).2
    refine ⟨x, hx, by omega, ?_⟩
    rw [hx] at h2
    exact hg.cell h2 (by have := HV2.out.ne h2; simpa using this)
  clear hA hcell y0 y1 y2 y3
  go_wp2
  go_loopw [22] (fun j wr => ∃ k : Nat, k ≤ m1 ∧ j = .int .i64 k ∧ WRow wr g (asgW (List.replicate n (0, 0)) (ins.take k) ((rowW pi m1).take k)) ∧ w2.grownBy wr (some g)) (fun j _ => m1 - (intOf j).toNat)
  case atStart => exact ⟨0, Nat.zero_le _, rfl, HV2.out, World.grownBy.refl _ _⟩
  case round =>
    obtain ⟨k, hk, rfl, hv, hg⟩ := hrel
    have HVR := Lib.hid hv
    have HGR := Lib.hid hg
    have HBR : Hid (BelW W1 wr) := Lib.hid (bgrown HB2.out hg hgl)
    by_cases hlt : k < m1
    · obtain rfl := HA1.out (by omega)
      obtain ⟨x, hx, hxn, f0⟩ := HD1.out wr hg k hlt
      obtain ⟨V, HVV⟩ := named (wr.alloc (.cells #[.int .i64 (k : Int)] 3))
      have hnV : BelW wr V := by rw [HVV.out]; exact below_new (Below.refl _ _) _
      have hqV : Fr V wr.heap.size 3 [.int .i64 (k : Int)] := by rw [HVV.out]; exact Fr.made _ _ _ rfl
      obtain ⟨q, HQ⟩ := named wr.heap.size
      rw [← HQ.out] at hqV
      have hpk := HP1.out V q k (joinB HBR.out hnV) (hqV.cell 0) hlt
      have HNX : Hid (asgW (List.replicate n (0, 0)) (ins.take (k + 1)) ((rowW pi m1).take (k + 1)) = (asgW (List.replicate n (0, 0)) (ins.take k) ((rowW pi m1).take k)).set x (colW pi k)) := Lib.hid (by
        rw [asgW_take (by rw [← HM1.out]; exact hlt) (by rw [rowW_len]; exact hlt), hx, Int.toNat_natCast, rowW_at hlt])
      obtain ⟨p, HP⟩ := named (colW pi k)
      rw [← HP.out] at hpk HNX
      obtain ⟨a, HAA⟩ := named p.1
      obtain ⟨b, HBB⟩ := named p.2
      rw [← HAA.out, ← HBB.out] at hpk
      have hxl : x < (asgW (List.replicate n (0, 0)) (ins.take k) ((rowW pi m1).take k)).length := by rw [asgW_len]; simpa using hxn
      have HXL := Lib.hid hxl
      have HPK := Lib.hid hpk
      have HNV := Lib.hid hnV
      have hgw : g < wr.heap.size := hv.lt
      clear hv hg hnV hqV hpk hx hxl
      go_upto_region 5 with (fail)
      rw [← HVV.out, ← HQ.out]
      go_wp2_with (go_at_call 82; (with_reducible refine HPK.out.mono ?_); rintro e w5 ⟨rfl, hb5⟩; have hv5 := (HVR.out.below HNV.out).below hb5; obtain ⟨e0, e1⟩ := hv5.cell HXL.out; have e2 := hv5.frozen (x * 2); have e3 := hv5.frozen (x * 2 + 1); have HV5 := Lib.hid hv5; have HG5 := Lib.hid (gnext (gnext HGR.out HNV.out) hb5); clear hv5 hb5)
      go_roundw
      case rel =>
        have h := HV5.out.set x p
        rw [← HAA.out, ← HBB.out] at h
        exact ⟨k + 1, by omega, by go_num, by rw [HNX.out]; exact h, grown_v (grown_v HG5.out _ _) _ _⟩
      case measure => simp [intOf]; omega
    · obtain rfl : m1 = k := by omega
      obtain ⟨W3, rfl⟩ : ∃ V0 : World, V0 = wr := ⟨_, rfl⟩
      have h3 := HVR.out
      have e3 := asgW_all (l := ins) (vs := rowW pi m1) (out := List.replicate n (0, 0)) (by rw [rowW_len, HM1.out])
      rw [← HM1.out] at e3
      rw [e3] at h3
      clear e3 hv hg
      obtain ⟨o1, HO1⟩ := named (asgW (List.replicate n (0, 0)) ins (rowW pi m1))
      rw [← HO1.out] at h3
      have HV3 := Lib.hid h3
      have HOL : Hid (o1.length = n) := Lib.hid (by rw [HO1.out, asgW_len]; simp)
      have HB3 : Hid (BelW W1 W3) := HBR
      clear h3 HVR HGR HBR
      obtain ⟨y0, y1, y2, y3⟩ := HCE.out W3 HB3.out
      go_wp2_with (go_at_call 47; (with_reducible refine Calls.mono (HST.out _ HB3.out) ?_); rintro e w4 ⟨As, rfl, hi4, hb4⟩; have HI4 := Lib.hid hi4; have HV4 := Lib.hid (HV3.out.below hb4); have HB4 : Hid (BelW W1 w4) := Lib.hid (joinB HB3.out hb4); clear hi4 hb4)
      obtain ⟨Ab2, bi2, oi2, ci2, e, hA, -, hmx, hcell⟩ := HI4.out.opens
      simp only [Value.slice.injEq] at e
      obtain ⟨rfl, -, -⟩ := e
      rw [← HM2.out] at hA hmx hcell
      unfold maxLen at hmx
      have HA2 := Lib.hid hA
      have HD2 : Hid (∀ wr, w4.grownBy wr (some g) → ∀ k, k < m2 → ∃ x : Nat, sts.getD k 0 = (x : Int) ∧ x < n ∧ wr.cell? ⟨bi2, oi2 + k, none⟩ = some (.int .i64 (x : Int))) := Lib.hid fun wr hg k hk => by
        obtain ⟨p0, p1⟩ := HSR.out k hk
        obtain ⟨x, hx⟩ := Int.eq_ofNat_of_zero_le p0
        have h2 := (hcell k hk).2
        refine ⟨x, hx, by omega, ?_⟩
        rw [hx] at h2
        exact hg.cell h2 (by have := HV4.out.ne h2; simpa using this)
      clear hA hcell y0 y1 y2 y3
      go_wp2
      go_loopw [37] (fun j wr => ∃ k : Nat, k ≤ m2 ∧ j = .int .i64 k ∧ WRow wr g (asgW o1 (sts.take k) ((rowW pq m2).take k)) ∧ w4.grownBy wr (some g)) (fun j _ => m2 - (intOf j).toNat)
      case atStart => exact ⟨0, Nat.zero_le _, rfl, HV4.out, World.grownBy.refl _ _⟩
      case round =>
        obtain ⟨k, hk, rfl, hv, hg⟩ := hrel
        have HVR := Lib.hid hv
        have HGR := Lib.hid hg
        have HBR : Hid (BelW W1 wr) := Lib.hid (bgrown HB4.out hg hgl)
        by_cases hlt : k < m2
        · obtain rfl := HA2.out (by omega)
          obtain ⟨x, hx, hxn, f0⟩ := HD2.out wr hg k hlt
          obtain ⟨V, HVV⟩ := named (wr.alloc (.cells #[.int .i64 (k : Int)] 3))
          have hnV : BelW wr V := by rw [HVV.out]; exact below_new (Below.refl _ _) _
          have hqV : Fr V wr.heap.size 3 [.int .i64 (k : Int)] := by rw [HVV.out]; exact Fr.made _ _ _ rfl
          obtain ⟨q, HQ⟩ := named wr.heap.size
          rw [← HQ.out] at hqV
          have hpk := HP2.out V q k (joinB HBR.out hnV) (hqV.cell 0) hlt
          have HNX : Hid (asgW o1 (sts.take (k + 1)) ((rowW pq m2).take (k + 1)) = (asgW o1 (sts.take k) ((rowW pq m2).take k)).set x (colW pq k)) := Lib.hid (by
            rw [asgW_take (by rw [← HM2.out]; exact hlt) (by rw [rowW_len]; exact hlt), hx, Int.toNat_natCast, rowW_at hlt])
          obtain ⟨p, HP⟩ := named (colW pq k)
          rw [← HP.out] at hpk HNX
          obtain ⟨a, HAA⟩ := named p.1
          obtain ⟨b, HBB⟩ := named p.2
          rw [← HAA.out, ← HBB.out] at hpk
          have hxl : x < (asgW o1 (sts.take k) ((rowW pq m2).take k)).length := by rw [asgW_len, HOL.out]; exact hxn
          have HXL := Lib.hid hxl
          have HPK := Lib.hid hpk
          have HNV := Lib.hid hnV
          have hgw : g < wr.heap.size := hv.lt
          clear hv hg hnV hqV hpk hx hxl
          go_upto_region 10 with (fail)
          rw [← HVV.out, ← HQ.out]
          go_wp2_with (go_at_call 82; (with_reducible refine HPK.out.mono ?_); rintro e w5 ⟨rfl, hb5⟩; have hv5 := (HVR.out.below HNV.out).below hb5; obtain ⟨e0, e1⟩ := hv5.cell HXL.out; have e2 := hv5.frozen (x * 2); have e3 := hv5.frozen (x * 2 + 1); have HV5 := Lib.hid hv5; have HG5 := Lib.hid (gnext (gnext HGR.out HNV.out) hb5); clear hv5 hb5)
          go_roundw
          case rel =>
            have h := HV5.out.set x p
            rw [← HAA.out, ← HBB.out] at h
            exact ⟨k + 1, by omega, by go_num, by rw [HNX.out]; exact h, grown_v (grown_v HG5.out _ _) _ _⟩
          case measure => simp [intOf]; omega
        · obtain rfl : m2 = k := by omega
          obtain ⟨W5, rfl⟩ : ∃ V0 : World, V0 = wr := ⟨_, rfl⟩
          have h5 := HVR.out
          have e5 := asgW_all (l := sts) (vs := rowW pq m2) (out := o1) (by rw [rowW_len, HM2.out])
          rw [← HM2.out] at e5
          rw [e5] at h5
          have hbs : asgW o1 sts (rowW pq m2) = base := by rw [HBASE.out, HO1.out]; rfl
          rw [hbs] at h5
          clear e5 hbs hv hg
          have HV5 := Lib.hid h5
          have HB5 : Hid (BelW W1 W5) := HBR
          have HBOK : Hid (WOk base) := Lib.hid (by rw [HBASE.out]; exact baseW_ok (rowW_ok _ _) (rowW_ok _ _))
          have HBLN : Hid (base.length = n) := Lib.hid (by rw [HBASE.out]; exact baseW_len _ _ _ _ _)
          clear h5 HVR HGR HBR
          obtain ⟨y0, y1, y2, y3⟩ := HCE.out W5 HB5.out
          go_wp2_with (go_at_call 48; (with_reducible refine Calls.mono (HOR0.out _ HB5.out) ?_); rintro e w6 ⟨L, R, d, hl, hs, hdl, rfl, hrd, hb6⟩; have HLV := Lib.hid hl; have HSO := Lib.hid hs; have HRD := Lib.hid hrd; have HV6 := Lib.hid (HV5.out.below hb6); have HB6 : Hid (BelW W1 w6) := Lib.hid (joinB HB5.out hb6); have HDG : Hid (g < d) := Lib.hid (Nat.lt_of_lt_of_le HV5.out.lt hdl); clear hl hs hrd hb6 hdl)
          have HRN : Hid (R.length = n) := Lib.hid (by obtain ⟨S, h1, h2, -⟩ := HSO.out; rw [h1]; simp [rng, h2])
          have hvz : g < w6.heap.size := HV6.out.lt
          clear y0 y1 y2 y3
          go_loopw [56] (fun i wr => ∃ (k : Nat) (out : Wls), k ≤ n ∧ i = .int .i64 k ∧ WSt c.nodes base (R.take k) out ∧ WRow wr g out ∧ BelW W1 wr ∧ Row wr d R ∧ wr.cell? ⟨w.heap.size, 0, none⟩ = some (.slice A0 n c0)) (fun i _ => n - (intOf i).toNat)
          case atStart => exact ⟨0, base, Nat.zero_le _, rfl, WSt.start HBOK.out (HBLN.out.trans HN.out), HV6.out, HB6.out, HRD.out, (HCE.out _ HB6.out).1⟩
          case round =>
            obtain ⟨k, out, hk, rfl, hst, hv, hb, hrd, hcc⟩ := hrel
            have HSTI := Lib.hid hst
            have HVR := Lib.hid hv
            have HBR := Lib.hid hb
            have HRR := Lib.hid hrd
            clear hst
            by_cases hlt : k < n
            · have hob := order_before HSO.out hlt
              obtain ⟨o0, o1', ob⟩ := hob
              obtain ⟨x, hx⟩ := Int.eq_ofNat_of_zero_le o0
              have HOB := Lib.hid ob
              have HX := Lib.hid hx
              have hxn : x < n := by omega
              have hxc : wr.cell? ⟨d, k, none⟩ = some (.int .i64 (x : Int)) := by rw [hrd.cell (by rw [HRN.out]; exact hlt), hx]
              obtain ⟨b, o, A4, c4, rfl, hlb, e0, e1, e2, e3, his, hk0⟩ := HND0.out wr hb x hxn
              have HIS := Lib.hid his
              clear ob o0 o1' hx his hv hb hrd
              obtain ⟨kd, HKD⟩ := named (c.nodes.getD x default).kind
              obtain ⟨lst, HLS⟩ := named (c.nodes.getD x default).ins
              obtain ⟨md, HMD⟩ := named (c.nodes.getD x default).mem
              obtain ⟨bd, HBD⟩ := named (c.nodes.getD x default).bit
              rw [← HKD.out] at e0 hk0
              rw [← HLS.out] at e1
              rw [← HMD.out] at e2
              rw [← HBD.out] at e3
              obtain ⟨ni4, HNI⟩ := named lst.length
              rw [← HNI.out] at e1
              obtain ⟨W2, HW2⟩ := named (wr.alloc (.cells #[.int .u8 kd, .slice A4 ni4 c4, .int .i64 md, .int .i64 bd] 66))
              have hnew : BelW wr W2 := by rw [HW2.out]; exact below_new (Below.refl _ _) _
              have hfv : Fr W2 wr.heap.size 66 [.int .u8 kd, .slice A4 ni4 c4, .int .i64 md, .int .i64 bd] := by rw [HW2.out]; exact Fr.made _ _ _ rfl
              have hgv : g < wr.heap.size := HVR.out.lt
              have hdz : wr.heap.size ≠ d := by have := (HRR.out).lt; omega
              obtain ⟨v, HVV⟩ := named wr.heap.size
              rw [← HVV.out] at hfv hgv
              have HCM := Lib.hid (fun w => comb_any kd w)
              have HSTEP := Lib.hid (HSTI.out.step HWF0.out HLV.out (x := (x : Int)) (by omega) (by rw [← HN.out]; omega) (fun y hy => by
                have h := HOB.out y hy
                rw [HX.out] at h
                exact ⟨h.1, by rw [← HN.out]; exact h.2.1, h.2.2.1, h.2.2.2⟩))
              have HTK : Hid (R.take (k + 1) = R.take k ++ [(x : Int)]) := Lib.hid (by rw [take_succ_getD _ _ (by rw [HRN.out]; exact hlt)]; have := HX.out; unfold lat at this; rw [Int.toNat_natCast] at this; rw [this])
              have vc0 : W2.cell? ⟨v, 0, none⟩ = some (.int .u8 kd) := hfv.cell 0
              have vc1 : W2.cell? ⟨v, 1, none⟩ = some (.slice A4 ni4 c4) := hfv.cell 1
              have HV2' := Lib.hid (HVR.out.below hnew)
              have HB2' : Hid (BelW W1 W2) := Lib.hid (joinB HBR.out hnew)
              have HR2' := Lib.hid (HRR.out.below hnew)
              have HC2' : Hid (W2.cell? ⟨w.heap.size, 0, none⟩ = some (.slice (some ⟨b, o, none⟩) n c0)) := Lib.hid ((Below.cell hnew (p := ⟨w.heap.size, 0, none⟩) (cell_lt hcc)).trans hcc)
              have HNW := Lib.hid hnew
              clear hnew hfv
              cases hcm : cmb kd
              · have HSAME : Hid (wstl c.nodes out (x : Int) = out) := Lib.hid (by unfold wstl; rw [if_neg (by rw [Int.toNat_natCast, ← HKD.out, hcm]; simp)])
                rw [hcm] at HCM
                go_upto_region 17 with (fail)
                rw [← HW2.out, ← HVV.out]
                go_wp2_with (go_at_call 52; (with_reducible refine (HCM.out _).mono ?_); rintro e w' ⟨rfl, rfl⟩)
                go_roundw
                case rel =>
                  have h := HSTEP.out
                  rw [HSAME.out] at h
                  exact ⟨k + 1, out, by omega, by go_num, by rw [HTK.out]; exact h, HV2'.out, HB2'.out, HR2'.out, HC2'.out⟩
                case measure => simp [intOf]; omega
              · obtain ⟨p, HP⟩ := named (evW kd (lst.map (wlat out)))
                have HSET : Hid (wstl c.nodes out (x : Int) = out.set x p) := Lib.hid (by unfold wstl; rw [if_pos (by rw [Int.toNat_natCast, ← HKD.out, hcm]), Int.toNat_natCast, ← HKD.out, ← HLS.out, ← HP.out])
                rw [hcm] at HCM
                have hol : out.length = n := by rw [HSTI.out.len, HN.out]
                have hlow : B ≤ wr.heap.size := Nat.le_trans hB (Below.size (joinB HB1.out HBR.out))
                have hwx : ∀ W, BelW W2 W → Calls Tryz.prog 85 #[.slice (some ⟨g, 0, none⟩) n n, .slice A4 ni4 c4] W fun e w' => ∃ g5, e = .returned (.slice (some ⟨g5, 0, none⟩) ni4 ni4) ∧ WRow w' g5 (lst.map (wlat out)) ∧ BelW W w' := fun W hW => by
                  have h := HWO0.out W g out x A4 c4 (joinB HB2'.out hW) (HV2'.out.below hW) HSTI.out.ok hol hxn (HIS.out.below ((joinB HNW.out hW).mono hlow))
                  rw [← HLS.out, ← HNI.out] at h
                  exact h
                obtain ⟨pa, HPA⟩ := named p.1
                obtain ⟨pb, HPB⟩ := named p.2
                have hex : ∀ W g5, BelW W2 W → WRow W g5 (lst.map (wlat out)) → Calls Tryz.prog 8 #[.int .u8 kd, .slice (some ⟨g5, 0, none⟩) ni4 ni4] W fun e w' => e = .returned (.agg #[.int .u64 (pa : Int), .int .u64 (pb : Int)]) ∧ BelW W w' := fun W g5 hW hr => by
                  have h := HEV0.out W g5 out x (joinB HB2'.out hW) (by rw [← HLS.out]; exact hr) HSTI.out.ok (by rw [← HKD.out]; exact hk0)
                  rw [← HLS.out, ← HNI.out, ← HKD.out, ← HP.out, ← HPA.out, ← HPB.out] at h
                  exact h
                have hvg : v ≠ g := by omega
                have hke : ∀ w', W2.grownBy w' (some g) → W2.grownBy w' (some g) ∧ w'.cell? ⟨v, 0, none⟩ = some (.int .u8 kd) ∧ w'.cell? ⟨v, 1, none⟩ = some (.slice A4 ni4 c4) := fun w' hg =>
                  have h2 : some v ≠ some g := by simpa using hvg
                  ⟨hg, hg.cell vc0 h2, hg.cell vc1 h2⟩
                have HKE := Lib.hid hke
                have HWX := Lib.hid hwx
                have HEX := Lib.hid hex
                have HLX := Lib.hid (show x < out.length by rw [hol]; exact hxn)
                have hI1 : (x : Int) < (n : Int) := by omega
                clear hke hwx hex hol hlow hvg
                go_upto_region 17 with (fail)
                rw [← HW2.out, ← HVV.out]
                go_wp2_with (go_at_call 52; (with_reducible refine (HCM.out _).mono ?_); rintro e w' ⟨rfl, rfl⟩)
                have hg0 : W2.grownBy W2 (some g) := World.grownBy.refl _ _
                have hs0 : BelW W2 W2 := Below.refl _ _
                have HG0 := Lib.hid hg0
                clear vc0 vc1 e0 e1 e2 e3 hxc hcc
                go_region_held3 (fun w' => W2.grownBy w' (some g) ∧ w'.cell? ⟨v, 0, none⟩ = some (.int .u8 kd) ∧ w'.cell? ⟨v, 1, none⟩ = some (.slice A4 ni4 c4))
                  ((refine HKE.out _ ?_; first | (with_reducible assumption) | (refine gdrew ?_; with_reducible assumption) | (refine grown_v (grown_v ?_ _ _) _ _; with_reducible assumption)))
                  (first
                    | (go_at_call 85; refine Calls.mono (HWX.out _ ?_) ?_; · (first | (with_reducible assumption) | (refine BelW.drew ?_; with_reducible assumption))
                       rintro e wA ⟨g5, rfl, hvA, hbA⟩
                       have hsA : BelW W2 wA := (by refine BelW.next ?_ hbA; first | (with_reducible assumption) | (refine BelW.drew ?_; with_reducible assumption))
                       have hgA := gnext HG0.out hsA)
                    | (go_at_call 8; refine Calls.mono (HEX.out _ _ ?_ ?_) ?_; · (with_reducible assumption)
                       · (with_reducible assumption)
                       rintro e wB ⟨rfl, hbB⟩
                       have hsB : BelW W2 wB := BelW.next hsA hbB
                       have hgB := gnext HG0.out hsB
                       have hvB := WRow.below HV2'.out hsB
                       obtain ⟨q0, q1⟩ := WRow.cell hvB HLX.out
                       have q2 := WRow.frozen hvB (x * 2)
                       have q3 := WRow.frozen hvB (x * 2 + 1)))
                have HSB := Lib.hid hsB
                clear q0 q1 q2 q3 hvB hgB hsB hgA hvA hbA hbB hg0 hs0 hsA
                go_wp2
                go_roundw
                case rel =>
                  have h := HSTEP.out
                  rw [HSET.out] at h
                  have hw := (HV2'.out.below HSB.out).set x p
                  rw [← HPA.out, ← HPB.out] at hw
                  have hgd : g ≠ d := by have := HDG.out; omega
                  have hwg : w.heap.size ≠ g := by have := HZW.out; omega
                  exact ⟨k + 1, out.set x p, by omega, by go_num, by rw [HTK.out]; exact h, hw, BelW.set (BelW.set (joinB HB2'.out HSB.out) hgl _) hgl _, ((HR2'.out.below HSB.out).otherS (a := ⟨g, _, none⟩) hgd _).otherS (a := ⟨g, _, none⟩) hgd _,
                    (World.cell?_setCell_other _ _ _ _ (by simp [hwg])).trans ((World.cell?_setCell_other _ _ _ _ (by simp [hwg])).trans ((Below.cell HSB.out (p := ⟨w.heap.size, 0, none⟩) (cell_lt HC2'.out)).trans HC2'.out))⟩
                case measure => simp [intOf]; omega
            · obtain rfl : n = k := by omega
              clear hv hb hrd hcc
              go_wp2
              go_ret
              refine ⟨g, L, R, out, rfl, HVR.out, HLV.out, ?_, fun i hi => ?_, by have := HZW.out; omega, joinB HB1.out HBR.out⟩
              · have h := HSTI.out
                rw [List.take_of_length_le (by rw [HRN.out]; exact Nat.le_refl _)] at h
                exact h
              · have hR := ord_eq HSO.out (fun i hi => ⟨HLV.out.nonneg (by rw [← HN.out]; exact hi), Lvl.bound HWF0.out HLV.out (by rw [← HN.out]; exact hi)⟩)
                rw [hR]
                exact ordTo_mem.2 ⟨i, rfl, hi, HLV.out.nonneg (by rw [← HN.out]; exact hi), by have := Lvl.bound HWF0.out HLV.out (i := i) (by rw [← HN.out]; exact hi); first | exact this | (rw [HN.out]; exact this)⟩
end Go.Proofs.YtemogllidmgbfaaGreatDoor

namespace Go.Proofs.YtemogllidmgbfaaGreatDoor
open Go.RowKit

set_option maxRecDepth 100000 in
set_option maxHeartbeats 4000000 in
theorem wrun_bad (c : Ck) (ps : List (List Int × List Int)) (A0 A1 A2 A3 Al : Option Addr) (c0 c1 c2 c3 np cl : Nat) (w : World) (B : Nat) (hB : B ≤ w.heap.size) (hT : Lg.Tabs w)
    (hc : Cir w B (.agg #[.slice A0 c.nodes.length c0, .slice A1 c.names.length c1, .slice A2 c.mems.length c2, .slice A3 c.outs.length c3]) c) (hp : Pts w B (.slice Al np cl) ps) (hsz : c.nodes.length ≤ 1000000) (hne : wkE c ps ≠ 0) :
    Calls Tryz.prog 13 #[.agg #[.slice A0 c.nodes.length c0, .slice A1 c.names.length c1, .slice A2 c.mems.length c2, .slice A3 c.outs.length c3], .slice Al np cl] w
      fun e w' => e = .returned (.tuple #[.slice none 0 0, .slice none 0 0, .int .i64 (wkE c ps)]) ∧ BelW w w' := by
  obtain ⟨W1, HW1⟩ := named (w.alloc (.cells #[.slice A0 c.nodes.length c0, .slice A1 c.names.length c1, .slice A2 c.mems.length c2, .slice A3 c.outs.length c3] 46))
  have hb1 : BelW w W1 := by rw [HW1.out]; exact below_new (Below.refl _ _) _
  have hfc : Fr W1 w.heap.size 46 [.slice A0 c.nodes.length c0, .slice A1 c.names.length c1, .slice A2 c.mems.length c2, .slice A3 c.outs.length c3] := by rw [HW1.out]; exact Fr.made _ _ _ rfl
  have HCK := Lib.hid (wcheck_any c ps A0 A1 A2 A3 Al c0 c1 c2 c3 np cl W1 B (Nat.le_trans hB (Below.size hb1)) (hT.below hb1) (hc.below (Below.mono hb1 hB)) (Arr.keep stays_pat hp (Nat.le_refl _) fun _ hp => Below.cell hb1 (Nat.lt_of_lt_of_le hp hB)) hsz)
  have x0 := hfc.cell 0
  have x1 := hfc.cell 1
  have x2 := hfc.cell 2
  have x3 := hfc.cell 3
  have HB1 := Lib.hid hb1
  clear hc hp hb1 hT hfc
  obtain ⟨z, HZ⟩ := named (wkE c ps)
  rw [← HZ.out] at HCK hne ⊢
  have q1 : (z != 0) = true := by simpa using hne
  clear HZ hne
  generalize c.nodes.length = n0 at HW1 x0 HCK ⊢
  generalize c.names.length = n1 at HW1 x1 HCK ⊢
  generalize c.mems.length = n2 at HW1 x2 HCK ⊢
  generalize c.outs.length = n3 at HW1 x3 HCK ⊢
  go_enter Tryz.func13, Tryz.ntmps13
  go_upto_region 1 with (fail)
  rw [← HW1.out]
  go_wp2_with (go_at_call 41; (with_reducible refine HCK.out.mono ?_); rintro e w2 ⟨rfl, hb⟩; have HB2 : Hid (BelW W1 w2) := Lib.hid hb; clear hb)
  go_ret3
  exact ⟨rfl, joinB HB1.out HB2.out⟩

def respW (c : Ck) (out : Wls) (i : Nat) : List Int × List Int := (outV c (lanes out i), nextV c (lanes out i))
/-- What Run returns without an error: the words of the nets, of which Q says more, and the responses of the lanes. -/
def RunQ (c : Ck) (np : Nat) (Q : Wls → Prop) (w : World) (e : Ending) (w' : World) : Prop :=
  ∃ gr g out, e = .returned (.tuple #[.slice (some ⟨gr, 0, none⟩) np np, .slice (some ⟨g, 0, none⟩) c.nodes.length c.nodes.length, .int .i64 0]) ∧ Q out ∧ WRow w' g out ∧ WOk out ∧ out.length = c.nodes.length ∧ RRow w' gr (respW c out) np np ∧ BelW w w'
set_option maxRecDepth 100000 in
set_option maxHeartbeats 4000000 in
theorem wrun_gen (c : Ck) (ps : List (List Int × List Int)) (A0 A1 A2 A3 Al : Option Addr) (c0 c1 c2 c3 np cl : Nat) (w : World) (B : Nat) (hB : B ≤ w.heap.size) (hT : Lg.Tabs w) (hft : Ft w)
    (hc : Cir w B (.agg #[.slice A0 c.nodes.length c0, .slice A1 c.names.length c1, .slice A2 c.mems.length c2, .slice A3 c.outs.length c3]) c) (hp : Pts w B (.slice Al np cl) ps) (hsz : c.nodes.length ≤ 1000000) (hos : c.outs.length ≤ 17592186044416) (hne : wkE c ps = 0) (hnp : np ≤ 64)
    (Q : Wls → Prop) (hsim : ∀ W, BelW w W → Calls Tryz.prog 42 #[.agg #[.slice A0 c.nodes.length c0, .slice A1 c.names.length c1, .slice A2 c.mems.length c2, .slice A3 c.outs.length c3], .slice Al np cl] W fun e w' => ∃ g out, e = .returned (.slice (some ⟨g, 0, none⟩) c.nodes.length c.nodes.length) ∧ WRow w' g out ∧ WOk out ∧ out.length = c.nodes.length ∧ Q out ∧ W.heap.size ≤ g ∧ BelW W w') :
    Calls Tryz.prog 13 #[.agg #[.slice A0 c.nodes.length c0, .slice A1 c.names.length c1, .slice A2 c.mems.length c2, .slice A3 c.outs.length c3], .slice Al np cl] w (RunQ c np Q w) := by
  obtain ⟨W1, HW1⟩ := named (w.alloc (.cells #[.slice A0 c.nodes.length c0, .slice A1 c.names.length c1, .slice A2 c.mems.length c2, .slice A3 c.outs.length c3] 46))
  have hb1 : BelW w W1 := by rw [HW1.out]; exact below_new (Below.refl _ _) _
  have hfc : Fr W1 w.heap.size 46 [.slice A0 c.nodes.length c0, .slice A1 c.names.length c1, .slice A2 c.mems.length c2, .slice A3 c.outs.length c3] := by rw [HW1.out]; exact Fr.made _ _ _ rfl
  have hck : Calls Tryz.prog 41 #[.agg #[.slice A0 c.nodes.length c0, .slice A1 c.names.length c1, .slice A2 c.mems.length c2, .slice A3 c.outs.length c3], .slice Al np cl] W1 fun e w' => e = .returned (.int .i64 0) ∧ BelW W1 w' := by
    have := wcheck_any c ps A0 A1 A2 A3 Al c0 c1 c2 c3 np cl W1 B (Nat.le_trans hB (Below.size hb1)) (hT.below hb1) (hc.below (Below.mono hb1 hB)) (Arr.keep stays_pat hp (Nat.le_refl _) fun _ hp => Below.cell hb1 (Nat.lt_of_lt_of_le hp hB)) hsz
    rw [hne] at this
    exact this
  have HCK := Lib.hid hck
  have HSIM : Hid (∀ W, BelW W1 W → Calls Tryz.prog 42 #[.agg #[.slice A0 c.nodes.length c0, .slice A1 c.names.length c1, .slice A2 c.mems.length c2, .slice A3 c.outs.length c3], .slice Al np cl] W fun e w' => ∃ g out, e = .returned (.slice (some ⟨g, 0, none⟩) c.nodes.length c.nodes.length) ∧ WRow w' g out ∧ WOk out ∧ out.length = c.nodes.length ∧ Q out ∧ W.heap.size ≤ g ∧ BelW W w') := Lib.hid fun W h => hsim W (joinB hb1 h)
  have HVO : Hid (∀ W g out k, BelW W1 W → k < np → WRow W g out → WOk out → out.length = c.nodes.length → Calls Tryz.prog 44 #[.slice (some ⟨g, 0, none⟩) c.nodes.length c.nodes.length, .int .i64 (k : Int)] W fun e w' => ∃ gv, e = .returned (.slice (some ⟨gv, 0, none⟩) c.nodes.length c.nodes.length) ∧ VRow w' gv (lanes out k) ∧ W.heap.size ≤ gv ∧ BelW W w') := Lib.hid fun W g out k h hk hr hok hl => by
    have hwd := hr.wd fun k _ => hok k
    rw [hl] at hwd
    exact valof_any out _ _ _ k (by omega) W W.heap.size (Nat.le_refl _) (hft.below (joinB hb1 h)) hwd hsz
  have HOB : Hid (∀ W gv out k, BelW W1 W → out.length = c.nodes.length → VRow W gv (lanes out k) → Calls Tryz.prog 43 #[.agg #[.slice A0 c.nodes.length c0, .slice A1 c.names.length c1, .slice A2 c.mems.length c2, .slice A3 c.outs.length c3], .slice (some ⟨gv, 0, none⟩) c.nodes.length c.nodes.length] W (RespPost (respW c out k).1 (respW c out k).2 W)) := Lib.hid fun W gv out k h hl hv => by
    have hk := hv.ks
    rw [lanes_len, hl] at hk
    exact observe_any c (lanes out k) A0 A1 A2 A3 _ c0 c1 c2 c3 _ _ W W.heap.size (Nat.le_refl _) ((hc.below (Below.mono (joinB hb1 h) hB)).more (Nat.le_trans hB (Below.size (joinB hb1 h)))) hk hsz hos
  obtain ⟨i0, hi0, hz0, hz1, hz2⟩ := info_parts info_resp
  have HI := Lib.hid (And.intro hi0 (And.intro hz0 (And.intro hz1 hz2)))
  have HB1 := Lib.hid hb1
  have HP : Hid (∀ e w', RunQ c np Q w e w' ↔ ∃ gr g out, e = .returned (.tuple #[.slice (some ⟨gr, 0, none⟩) np np, .slice (some ⟨g, 0, none⟩) c.nodes.length c.nodes.length, .int .i64 0]) ∧ Q out ∧ WRow w' g out ∧ WOk out ∧ out.length = c.nodes.length ∧ RRow w' gr (respW c out) np np ∧ BelW w w') := Lib.hid fun e w' => Iff.rfl
  obtain ⟨F, HF⟩ : ∃ F : Wls → Nat → List Int × List Int, F = respW c := ⟨_, rfl⟩
  rw [← HF] at HOB HP
  clear hi0 hz0 hz1 hz2 hc hp hb1 hT hft hck hsim HF
  obtain ⟨RQ, HRQ⟩ : ∃ RQ, RQ = RunQ c np Q w := ⟨_, rfl⟩
  rw [← HRQ] at HP ⊢
  clear HRQ
  generalize c.nodes.length = n0 at HW1 hfc HCK HSIM HVO HOB HP hsz ⊢
  generalize c.names.length = n1 at HW1 hfc HCK HSIM HOB ⊢
  generalize c.mems.length = n2 at HW1 hfc HCK HSIM HOB ⊢
  generalize c.outs.length = n3 at HW1 hfc HCK HSIM HOB hos ⊢
  have HCE : Hid (∀ w', BelW W1 w' → w'.cell? ⟨w.heap.size, 0, none⟩ = some (.slice A0 n0 c0) ∧ w'.cell? ⟨w.heap.size, 1, none⟩ = some (.slice A1 n1 c1) ∧ w'.cell? ⟨w.heap.size, 2, none⟩ = some (.slice A2 n2 c2) ∧ w'.cell? ⟨w.heap.size, 3, none⟩ = some (.slice A3 n3 c3)) := Lib.hid fun w' h =>
    ⟨(hfc.below h).cell 0, (hfc.below h).cell 1, (hfc.below h).cell 2, (hfc.below h).cell 3⟩
  have HLT := Lib.hid hfc.lt
  clear hfc
  have hs0 : BelW W1 W1 := Below.refl _ _
  obtain ⟨x0, x1, x2, x3⟩ := HCE.out W1 hs0
  go_enter Tryz.func13, Tryz.ntmps13
  go_upto_region 1 with (fail)
  rw [← HW1.out]
  go_upto_region 5 with (first
    | (go_at_call 41; (with_reducible refine HCK.out.mono ?_); rintro e w2 ⟨rfl, hb⟩; have hs2 : BelW W1 w2 := hb; clear hb x0 x1 x2 x3; obtain ⟨x0, x1, x2, x3⟩ := HCE.out w2 hs2)
    | (go_at_call 42; (with_reducible refine (HSIM.out _ hs2).mono ?_); rintro e w3 ⟨g, out, rfl, hr, hok, hol, hq, hgz, hb⟩; have HR3 := Lib.hid hr; have HOK := Lib.hid hok; have HOL := Lib.hid hol; have HQ := Lib.hid hq; have hs3 : BelW W1 w3 := joinB hs2 hb; clear hr hok hol hq hgz hb x0 x1 x2 x3))
  go_wp2_with (at_make; refine wpList_make_full _ rfl _ _ 54 rfl w3.heap.size 59 i0 (.agg #[.slice none 0 0, .slice none 0 0]) 2 Tryz.underlying54 HI.out.1 HI.out.2.1 HI.out.2.2.1 .i64 .i64 _ _ np rfl rfl rfl rfl ?b2 ?b3 ?b4 ?_)
  case b2 => rw [HI.out.2.2.2]; omega
  case b3 => unfold maxLen; omega
  case b4 => exact Nat.le_refl _
  intro w4 hown hgr
  rw [flatP_zero] at hown
  have hrow : RRow w4 w3.heap.size (F out) np 0 := RRow.of hown
  have hb4 : BelW w3 w4 := (Below.refl _ _).grown hgr (Nat.le_refl _) (fun k h => by cases h)
  obtain ⟨gr, HGR⟩ := named w3.heap.size
  rw [← HGR.out] at hrow
  rw [← HGR.out]
  have hgl : w3.heap.size ≤ gr := by rw [HGR.out]; exact Nat.le_refl _
  have hqg : w.heap.size ≠ gr := by have h1 := HLT.out; have h2 := Below.size hs3; omega
  have HROW := Lib.hid hrow
  have HB4 := Lib.hid hb4
  have HS3 := Lib.hid hs3
  clear hown hgr hrow hb4 hs3
  go_wp2
  go_loopw [25] (fun j wr => ∃ k : Nat, k ≤ np ∧ j = .int .i64 k ∧ RRow wr gr (F out) np k ∧ BelW w3 wr) (fun j _ => np - (intOf j).toNat)
  case atStart => exact ⟨0, Nat.zero_le _, rfl, HROW.out, HB4.out⟩
  case round =>
    obtain ⟨k, hk, rfl, hrr, hb⟩ := hrel
    have HRR := Lib.hid hrr
    have HBR := Lib.hid hb
    by_cases hlt : k < np
    · have hsr : BelW W1 wr := joinB HS3.out hb
      have HRW : Hid (∀ W, BelW wr W → WRow W g out) := Lib.hid fun W h => HR3.out.below (joinB HBR.out h)
      have HVX : Hid (∀ W, BelW wr W → Calls Tryz.prog 44 #[.slice (some ⟨g, 0, none⟩) n0 n0, .int .i64 (k : Int)] W fun e w' => ∃ gv, e = .returned (.slice (some ⟨gv, 0, none⟩) n0 n0) ∧ VRow w' gv (lanes out k) ∧ W.heap.size ≤ gv ∧ BelW W w') := Lib.hid fun W h => HVO.out W g out k (joinB hsr h) hlt (HRW.out W h) HOK.out HOL.out
      have HOX : Hid (∀ W gv, BelW wr W → VRow W gv (lanes out k) → Calls Tryz.prog 43 #[.agg #[.slice A0 n0 c0, .slice A1 n1 c1, .slice A2 n2 c2, .slice A3 n3 c3], .slice (some ⟨gv, 0, none⟩) n0 n0] W (RespPost (F out k).1 (F out k).2 W)) := Lib.hid fun W gv h hv => HOB.out W gv out k (joinB hsr h) HOL.out hv
      obtain ⟨vl9, HVL⟩ := named (lanes out k)
      rw [← HVL.out] at HVX HOX
      obtain ⟨lo, HLO⟩ := named (F out k).1
      obtain ⟨ln, HLN⟩ := named (F out k).2
      rw [← HLO.out, ← HLN.out] at HOX
      have hg0 : wr.grownBy wr (some gr) := World.grownBy.refl _ _
      have hs0 : BelW wr wr := Below.refl _ _
      obtain ⟨x0, x1, x2, x3⟩ := HCE.out wr hsr
      have hke : ∀ w', wr.grownBy w' (some gr) → wr.grownBy w' (some gr) ∧ w'.cell? ⟨w.heap.size, 0, none⟩ = some (.slice A0 n0 c0) ∧ w'.cell? ⟨w.heap.size, 1, none⟩ = some (.slice A1 n1 c1) ∧ w'.cell? ⟨w.heap.size, 2, none⟩ = some (.slice A2 n2 c2) ∧ w'.cell? ⟨w.heap.size, 3, none⟩ = some (.slice A3 n3 c3) := fun w' hg =>
        have h2 : some w.heap.size ≠ some gr := by simpa using hqg
        ⟨hg, hg.cell x0 h2, hg.cell x1 h2, hg.cell x2 h2, hg.cell x3 h2⟩
      have HKE := Lib.hid hke
      have HG0 := Lib.hid hg0
      have HGW := Lib.hid hrr.lt
      have hk2 : (k : Int) < (np : Int) := by omega
      clear hke hrr hb x0 x1 x2 x3
      go_wp2
      go_region_held3 (fun w' => wr.grownBy w' (some gr) ∧ w'.cell? ⟨w.heap.size, 0, none⟩ = some (.slice A0 n0 c0) ∧ w'.cell? ⟨w.heap.size, 1, none⟩ = some (.slice A1 n1 c1) ∧ w'.cell? ⟨w.heap.size, 2, none⟩ = some (.slice A2 n2 c2) ∧ w'.cell? ⟨w.heap.size, 3, none⟩ = some (.slice A3 n3 c3))
        ((refine HKE.out _ ?_; first | (with_reducible assumption) | (refine gdrew ?_; with_reducible assumption) | (refine grown_v (grown_v ?_ _ _) _ _; with_reducible assumption)))
        (first
          | (go_at_call 44; refine Calls.mono (HVX.out _ ?_) ?_; · (first | (with_reducible assumption) | (refine BelW.drew ?_; with_reducible assumption))
             rintro e wA ⟨gv, rfl, hvA, hgvz, hbA⟩
             have hsA : BelW wr wA := (by refine BelW.next ?_ hbA; first | (with_reducible assumption) | (refine BelW.drew ?_; with_reducible assumption))
             have hgA := gnext HG0.out hsA)
          | (go_at_call 43; refine Calls.mono (HOX.out _ _ ?_ ?_) ?_; · (with_reducible assumption)
             · (with_reducible assumption)
             rintro e wB ⟨ga, gb, rfl, va, vb, za, zb, hne', hbB⟩
             have hsB : BelW wr wB := BelW.next hsA hbB
             have hgB := gnext HG0.out hsB
             have hrB := RRow.below HRR.out hsB
             obtain ⟨u0, u1, q0, q1⟩ := RRow.there hrB hlt
             have q2 := RRow.frozen hrB (k * 2)
             have q3 := RRow.frozen hrB (k * 2 + 1)))
      have HRB := Lib.hid hrB
      have HVA := Lib.hid va
      have HVB := Lib.hid vb
      have hna : ga ≠ gr := by have h1 := HGW.out; have h2 := Below.size hsA; omega
      have hnb : gb ≠ gr := by have h1 := HGW.out; have h2 := Below.size hsA; omega
      have HSB := Lib.hid hsB
      clear hrB va vb q0 q1 q2 q3 hgB hsB hgA hvA hbA hbB hg0 hs0 hsA za zb hne' hgvz
      go_wp2
      go_roundw
      case rel =>
        refine ⟨k + 1, by omega, by go_num, ?_, BelW.set (BelW.set (joinB HBR.out HSB.out) hgl _) hgl _⟩
        have hv1 := HVA.out
        have hv2 := HVB.out
        rw [HLO.out] at hv1
        rw [HLN.out] at hv2
        have h := HRB.out.step hlt hv1 hv2 hna hnb
        rw [← HLO.out, ← HLN.out] at h
        exact h
      case measure => simp [intOf]; omega
    · obtain rfl : np = k := by omega
      clear hrr hb
      go_wp2
      go_ret3
      rw [HP.out]
      exact ⟨gr, g, out, rfl, HQ.out, HR3.out.below HBR.out, HOK.out, HOL.out, HRR.out, joinB HB1.out (joinB HS3.out HBR.out)⟩
end Go.Proofs.YtemogllidmgbfaaGreatDoor

namespace Go.Proofs.YtemogllidmgbfaaGreatDoor
open Go.RowKit

theorem text_vr {W : World} {g : Nat} {s : ByteArray} {l : List Int} (h : VRow W g l) (ht : TV s l) (hT : Lg.Tabs W) :
    Calls Tryz.prog 23 #[.slice (some ⟨g, 0, none⟩) l.length l.length] W fun e w' => e = .returned (.string s) ∧ BelW W w' := by
  have h1 := Lg.text_any (Nat.le_refl _) h.ks.vs ht.2.1 ht.2.2 hT
  rw [ht.1] at h1
  exact h1
theorem ks_new (w : World) (l : List Int) (t : TypeId) (hm : l.length ≤ maxLen) : Ks (w.alloc (.cells (l.map (Value.int .u8)).toArray t)) (w.alloc (.cells (l.map (Value.int .u8)).toArray t)).heap.size (.slice (some ⟨w.heap.size, 0, none⟩) l.length l.length) l :=
  ⟨_, w.heap.size, 0, _, rfl, fun _ => rfl, Nat.le_refl _, hm, fun k hk => ⟨by simp, by
    unfold U8At
    rw [cell_of_row _ w.heap.size _ _ t _ (heap_alloc_new _ _)]
    simp [hk, List.getD_eq_getElem?_getD]⟩⟩
end Go.Proofs.YtemogllidmgbfaaGreatDoor
