/- NetlistsLoops: the law's walk. -/
import Derived.Test.YtbaibacbnjihaaaDoorLol
import Derived.StillTailTactics
namespace Go.Proofs.YtbaibacbnjihaaaDoor
open Go.RowKit

set_option maxRecDepth 100000 in
set_option maxHeartbeats 8000000 in
theorem loops_law (x : Cx) (hx : Cok x) (sG sA : Value) (z0 z1 z2 : Int) (hz0 : U8 z0) (hz1 : U8 z1) (hz2 : U8 z2) (w : World) (hT : Tabs w) (hG : Gs w w.heap.size sG x.gates) (hA : Ks w w.heap.size sA x.outs) :
    Calls Tryd.prog 7 #[.agg #[.int .u8 x.inN, .int .u8 x.dffs, .int .u8 x.d0, .int .u8 x.d1, .bool x.bus, .bool x.mem, .int .u8 x.p0, .int .u8 x.p1, .int .u8 x.p2, .int .u8 x.p3, sG, sA], .agg #[.int .u8 z0, .int .u8 z1, .int .u8 z2]] w
      fun e w' => e = .returned (.bool true) ∧ Below w.heap.size w w' := by
  obtain ⟨x', hx'⟩ : ∃ x' : Cx, x' = { x with bus := false } := ⟨_, rfl⟩
  have hok : Cok x' := by rw [hx']; exact ⟨hx.inN, hx.dffs, hx.d0, hx.d1, hx.p0, hx.p1, hx.p2, hx.p3, hx.gates, hx.outs⟩
  have hnb : x'.bus = false := by rw [hx']
  obtain ⟨L, V0⟩ := vld_c x' hok
  have hz := sizeN_le x'
  have hsk := szok_c x' hok
  have hea := ofC_early x' hok
  have hnob := ofC_nobus x' hok hnb
  obtain ⟨W0, HW0⟩ := named ((w.alloc (.cells #[.int .u8 x.inN, .int .u8 x.dffs, .int .u8 x.d0, .int .u8 x.d1, .bool false, .bool x.mem, .int .u8 x.p0, .int .u8 x.p1, .int .u8 x.p2, .int .u8 x.p3, sG, sA] 61)).alloc (.cells #[.int .u8 z0, .int .u8 z1, .int .u8 z2] 65))
  have hb0 : Below w.heap.size w W0 := by rw [HW0.out]; exact below_new (below_new (Below.refl _ _) _) _
  have HZB : Hid (Fr W0 (w.heap.size + 1) 65 [.int .u8 z0, .int .u8 z1, .int .u8 z2]) := Lib.hid (by rw [HW0.out]; exact Fr.made _ _ _ (by simp))
  have HOF : Hid (Calls Tryd.prog 32 #[.agg #[.int .u8 x.inN, .int .u8 x.dffs, .int .u8 x.d0, .int .u8 x.d1, .bool false, .bool x.mem, .int .u8 x.p0, .int .u8 x.p1, .int .u8 x.p2, .int .u8 x.p3, sG, sA]] ((w.alloc (.cells #[.int .u8 x.inN, .int .u8 x.dffs, .int .u8 x.d0, .int .u8 x.d1, .bool false, .bool x.mem, .int .u8 x.p0, .int .u8 x.p1, .int .u8 x.p2, .int .u8 x.p3, sG, sA] 61)).alloc (.cells #[.int .u8 z0, .int .u8 z1, .int .u8 z2] 65))
      fun e w' => ∃ v, e = .returned v ∧ Cir w' w'.heap.size v (ofC x') ∧ Below W0.heap.size W0 w') :=
    Lib.hid (by
      have h := ofc_any x' hok sG sA W0 w.heap.size hb0.size (by rw [hx']; exact hG.below hb0) (by rw [hx']; exact hA.below hb0)
      rw [← HW0.out]
      rw [hx'] at h ⊢
      exact h.mono fun e w' ⟨⟨v, h1, h2⟩, h3⟩ => ⟨v, h1, h2, h3⟩)
  have HT := Lib.hid (hT.below hb0)
  have HB0 := Lib.hid hb0
  clear hb0
  clear hT hG hA hx hok hnb
  obtain ⟨n, HN⟩ := named (sizeN x')
  rw [← HN.out] at V0 hz hnob
  obtain ⟨c, HC⟩ := named (ofC x')
  rw [← HC.out] at V0 hsk hea hnob HOF
  obtain ⟨m1, HM1⟩ := named c.names.length
  obtain ⟨m2, HM2⟩ := named c.mems.length
  obtain ⟨m3, HM3⟩ := named c.outs.length
  have HV := Lib.hid V0
  have HSK := Lib.hid hsk
  have HEA := Lib.hid hea
  have HNB := Lib.hid hnob
  clear V0 hsk hea hnob hx'
  unfold U8 at hz0 hz1 hz2
  obtain ⟨n0, hn0, hn0l⟩ := ix_lt z0 (n := n) (by omega)
  obtain ⟨tz, htz, htzl⟩ := ix_lt z1 (n := n) (by omega)
  have ht0 : z0.tmod (n : Int) = (n0 : Int) := by rw [Int.tmod_eq_emod_of_nonneg (by omega)]; exact hn0
  have ht1 : z1.tmod (n : Int) = (tz : Int) := by rw [Int.tmod_eq_emod_of_nonneg (by omega)]; exact htz
  unfold ix at hn0 htz
  have hsz0 : ¬ n = 0 := by omega
  have HDEP0 : Hid (cmb (c.nodes.getD n0 default).kind = true → (c.nodes.getD n0 default).kind = (c.nodes.getD n0 default).kind) := Lib.hid fun _ => rfl
  obtain ⟨kd, HKD⟩ := named (c.nodes.getD n0 default).kind
  obtain ⟨ni, HNI⟩ := named (c.nodes.getD n0 default).ins.length
  obtain ⟨y, hy⟩ : ∃ y, cmb kd = y := ⟨_, rfl⟩
  have hrc := fun W => comb_any kd W
  rw [hy] at hrc
  have HRC := Lib.hid hrc
  have HY := Lib.hid hy
  have hni : ni ≤ 16 := by rw [HNI.out]; exact HV.out.pins n0 (by rw [← HV.out.len]; exact hn0l)
  clear hy hrc HDEP0
  obtain ⟨i0, hi, hy0, hy1, hy2⟩ := info_parts info_bool
  have HI := Lib.hid (And.intro hi (And.intro hy0 (And.intro hy1 hy2)))
  clear hi hy0 hy1 hy2
  cases y
  · -- no combinational node
    go_enter Tryd.func7, Tryd.ntmps7
    go_wp2_with (first
      | (go_at_call 32; (with_reducible refine HOF.out.mono ?_); rintro e w1 ⟨v, rfl, hc, hb⟩; have HC1 := Lib.hid hc; have HB1 := Lib.hid hb; clear hc hb)
      | (go_at_call 13; (with_reducible refine (copy_o HT.out HB1.out HC1.out HSK.out HV.out.len HM1.out HM2.out HM3.out).mono ?_); rintro e w2 ⟨g0, g1, g2, g3, h, ha, hd, rfl, ho⟩; have hnod := ho.node (k := n0) hn0l; rw [← HKD.out, ← HNI.out] at hnod; obtain ⟨d0, d1, -, -⟩ := hnod; have hzc := HZB.out.below ho.bel; have hzc0 := hzc.cell 0; have hzc1 := hzc.cell 1; have HO := Lib.hid ho; clear ho hzc)
      | (go_at_call 22; (with_reducible refine (HRC.out _).mono ?_); rintro e w3 ⟨rfl, rfl⟩)
      | (go_at_call 14; (with_reducible refine (chk_o HO.out HV.out.ok (Below.refl _ _)).mono ?_); rintro e w4 ⟨rfl, -, ho⟩; have HB4 := Lib.hid ho.bel; clear ho)
      | (go_at_call 12; (with_reducible refine (lives_o HT.out HB4.out).mono ?_); rintro e w5 ⟨rfl, hb⟩; have HB5 := Lib.hid hb; clear hb))
    go_ret
    exact ⟨rfl, joinB HB0.out HB5.out⟩
  · by_cases hn0 : 0 < ni
    rotate_left
    · obtain rfl : ni = 0 := by omega
      go_enter Tryd.func7, Tryd.ntmps7
      go_wp2_with (first
        | (go_at_call 32; (with_reducible refine HOF.out.mono ?_); rintro e w1 ⟨v, rfl, hc, hb⟩; have HC1 := Lib.hid hc; have HB1 := Lib.hid hb; clear hc hb)
        | (go_at_call 13; (with_reducible refine (copy_o HT.out HB1.out HC1.out HSK.out HV.out.len HM1.out HM2.out HM3.out).mono ?_); rintro e w2 ⟨g0, g1, g2, g3, h, ha, hd, rfl, ho⟩; have hnod := ho.node (k := n0) hn0l; rw [← HKD.out, ← HNI.out] at hnod; obtain ⟨d0, d1, -, -⟩ := hnod; have hzc := HZB.out.below ho.bel; have hzc0 := hzc.cell 0; have hzc1 := hzc.cell 1; have HO := Lib.hid ho; clear ho hzc)
        | (go_at_call 22; (with_reducible refine (HRC.out _).mono ?_); rintro e w3 ⟨rfl, rfl⟩)
        | (go_at_call 14; (with_reducible refine (chk_o HO.out HV.out.ok (Below.refl _ _)).mono ?_); rintro e w4 ⟨rfl, -, ho⟩; have HB4 := Lib.hid ho.bel; clear ho)
        | (go_at_call 12; (with_reducible refine (lives_o HT.out HB4.out).mono ?_); rintro e w5 ⟨rfl, hb⟩; have HB5 := Lib.hid hb; clear hb))
      go_ret
      exact ⟨rfl, joinB HB0.out HB5.out⟩
    go_enter Tryd.func7, Tryd.ntmps7
    go_wp2_with (first
      | (go_at_call 32; (with_reducible refine HOF.out.mono ?_); rintro e w1 ⟨v, rfl, hc, hb⟩; have HC1 := Lib.hid hc; have HB1 := Lib.hid hb; clear hc hb)
      | (go_at_call 13; (with_reducible refine (copy_o HT.out HB1.out HC1.out HSK.out HV.out.len HM1.out HM2.out HM3.out).mono ?_); rintro e w2 ⟨g0, g1, g2, g3, h, ha, hd, rfl, ho⟩; have hnod := ho.node (k := n0) hn0l; rw [← HKD.out, ← HNI.out] at hnod; obtain ⟨d0, d1, -, -⟩ := hnod; have hzc := HZB.out.below ho.bel; have hzc0 := hzc.cell 0; have hzc1 := hzc.cell 1; have HO := Lib.hid ho; clear ho hzc)
      | (go_at_call 22; (with_reducible refine (HRC.out _).mono ?_); rintro e w3 ⟨rfl, rfl⟩; have hz2 : w2.heap.size + 1 ≤ (w2.alloc (.cells #[.slice (some ⟨g0, 0, none⟩) n n, .slice (some ⟨g1, 0, none⟩) m1 m1, .slice (some ⟨g2, 0, none⟩) m2 m2, .slice (some ⟨g3, 0, none⟩) m3 m3] 27)).heap.size := by simp)
      | (at_make; refine wpList_make_full _ rfl _ _ 63 rfl (w2.heap.size + 1) 4 i0 (.bool false) 1 Tryd.underlying63 HI.out.1 HI.out.2.1 HI.out.2.2.1 .i64 .i64 _ _ n rfl rfl rfl rfl ?b2 ?b3 ?b4 ?_))
    case b2 => rw [HI.out.2.2.2]; omega
    case b3 => unfold maxLen; omega
    case b4 => simp
    intro w6 hown hgr
    obtain ⟨wq, HWQ⟩ := named (w2.alloc (.cells #[.slice (some ⟨g0, 0, none⟩) n n, .slice (some ⟨g1, 0, none⟩) m1 m1, .slice (some ⟨g2, 0, none⟩) m2 m2, .slice (some ⟨g3, 0, none⟩) m3 m3] 27))
    have hSq : wq.heap.size = w2.heap.size + 1 := by rw [HWQ.out]; simp
    have ho := HO.out
    rw [← HWQ.out] at ho hgr
    obtain ⟨S, HS⟩ := named (w2.heap.size + 1)
    rw [← HS.out] at hown hSq
    rw [← HS.out]
    have hse : BRow w6 S (List.replicate n false) := by
      unfold BRow
      rw [List.length_replicate, ← made_false]
      exact hown
    have hb6 : Below S wq w6 := by rw [← hSq]; exact (Below.refl _ _).grown hgr (Nat.le_refl _) (fun k h => by cases h)
    have hon : ON c.nodes n0 0 0 [] ((List.replicate n false).set n0 true) := by rw [HV.out.len]; exact ON.start (by rw [← HV.out.len]; exact hn0l)
    have e0 : w6.cell? ⟨S, n0, none⟩ = some (.bool false) := hse.cell (by simp [hn0l])
    have e1 := hse.frozen n0
    have hq2 : w2.heap.size < S := by rw [HS.out]; omega
    have HSQ := Lib.hid hSq
    have HOQ := Lib.hid ho
    have HSE := Lib.hid (hse.set n0 true)
    have hb7 : Below S wq (w6.setCell ⟨S, n0, none⟩ (.bool true)) := hb6.setCell (Nat.le_refl _) _
    have HB6 := Lib.hid hb7
    have HON := Lib.hid hon
    have x0 : w6.cell? ⟨w2.heap.size, 0, none⟩ = some (.slice (some ⟨g0, 0, none⟩) n n) := (ho.next (by rw [hSq]; exact hb6)).cell0
    have hne : ¬ w2.heap.size = S := by omega
    obtain ⟨hg3q, hhq⟩ := ho.hq
    have hglow := ho.own.low
    have hg0q : g0 < w2.heap.size := by omega
    have HHQ := Lib.hid hhq
    clear hown hgr hse hb6 hb7 hon ho hSq HO d0 d1 hhq hglow hg3q
    go_wp2
    clear x0 e0 e1
    -- the nets that depend on the node
    go_loopw [9] (fun i wr => ∃ (r : Nat) (s : List Bool), i = .int .i64 r ∧ r ≤ n ∧ Below S wq wr ∧ BRow wr S s ∧ ON c.nodes n0 r 0 [] s) (fun i _ => n - (intOf i).toNat)
    case atStart => exact ⟨0, _, rfl, Nat.zero_le _, HB6.out, HSE.out, HON.out⟩
    case round =>
      clear HB6 HSE HON
      obtain ⟨r, s, rfl, hr, hb, hse, hon⟩ := hrel
      have hol := HOQ.out.next (by rw [HSQ.out]; exact hb)
      have x0 := hol.cell0
      have HB := Lib.hid hb
      have HSE := Lib.hid hse
      have HON := Lib.hid hon
      by_cases hrn : r < n
      · clear hb hse hon hol
        go_wp2
        clear x0
        go_loopw [10] (fun i wx => ∃ (k : Nat) (s : List Bool), i = .int .i64 k ∧ k ≤ n ∧ Below S wq wx ∧ BRow wx S s ∧ ON c.nodes n0 r k [] s) (fun i _ => n - (intOf i).toNat)
        case atStart => exact ⟨0, s, rfl, Nat.zero_le _, HB.out, HSE.out, HON.out⟩
        case round =>
          clear HB HSE HON
          obtain ⟨k, s, rfl, hk, hb, hse, hon⟩ := hrel
          have hol := HOQ.out.next (by rw [HSQ.out]; exact hb)
          have x0 := hol.cell0
          have HB := Lib.hid hb
          have HSE := Lib.hid hse
          have HON := Lib.hid hon
          by_cases hkn : k < n
          · have HDEP : Hid (dep c.nodes (k : Int) = if cmb (c.nodes.getD k default).kind = true then (c.nodes.getD k default).ins else []) := Lib.hid rfl
            have HND : Hid (∀ W, Below S wq W → W.cell? ⟨g0, k * 4, none⟩ = some (.int .u8 (c.nodes.getD k default).kind) ∧ W.cell? ⟨g0, k * 4 + 1, none⟩ = some (.slice (some ⟨h k, 0, none⟩) (c.nodes.getD k default).ins.length (c.nodes.getD k default).ins.length) ∧
                (∀ m, m < (c.nodes.getD k default).ins.length → W.cell? ⟨h k, m, none⟩ = some (.int .i64 ((c.nodes.getD k default).ins.getD m 0)))) := Lib.hid fun W hb => by
              have hh := (HOQ.out.next (by rw [HSQ.out]; exact hb)).node hkn
              exact ⟨hh.1, hh.2.1, hh.2.2.1⟩
            have hpk := HV.out.pins k (by rw [← HV.out.len]; exact hkn)
            have hhk := HHQ.out k hkn
            obtain ⟨yk, hyk⟩ : ∃ y', cmb (c.nodes.getD k default).kind = y' := ⟨_, rfl⟩
            obtain ⟨kk, HKK⟩ := named (c.nodes.getD k default).kind
            rw [← HKK.out] at HDEP HND hyk
            obtain ⟨li, HLI⟩ := named (c.nodes.getD k default).ins
            rw [← HLI.out] at HDEP HND hpk
            obtain ⟨nk, HNK⟩ := named li.length
            rw [← HNK.out] at HND hpk
            obtain ⟨hk_, HHK⟩ := named (h k)
            rw [← HHK.out] at HND hhk
            have hrk := fun W => comb_any kk W
            rw [hyk] at hrk
            have HRK := Lib.hid hrk
            have HYK := Lib.hid hyk
            clear hb hse hon hol hyk hrk
            go_wp2
            clear x0
            go_loopw [11] (fun i wx => ∃ (m : Nat) (s : List Bool), i = .int .i64 m ∧ m ≤ nk ∧ (yk = false → m = 0) ∧ Below S wq wx ∧ BRow wx S s ∧ ON c.nodes n0 r k (li.take m) s) (fun i _ => nk - (intOf i).toNat)
            case atStart => exact ⟨0, s, rfl, Nat.zero_le _, fun _ => rfl, HB.out, HSE.out, HON.out⟩
            case round =>
              clear HB HSE HON
              obtain ⟨m, s, rfl, hm, hm0, hb, hse, hon⟩ := hrel
              have x0 := (HOQ.out.next (by rw [HSQ.out]; exact hb)).cell0
              obtain ⟨c0, c1, c2⟩ := HND.out _ hb
              have HB := Lib.hid hb
              have HSE := Lib.hid hse
              have HON := Lib.hid hon
              have HC2 := Lib.hid c2
              clear hb hse hon c2
              cases yk
              · obtain rfl : m = 0 := hm0 rfl
                have hnx := (show ON c.nodes n0 r k (dep c.nodes k) s by rw [HDEP.out, HYK.out, if_neg (by decide)]; exact HON.out).next
                have HNX := Lib.hid hnx
                clear hnx hm0
                by_cases hk0 : 0 < nk
                · go_wp2_with (go_at_call 22; (with_reducible refine (HRK.out _).mono ?_); rintro e w3 ⟨rfl, rfl⟩)
                  go_roundw
                  case rel => exact ⟨k + 1, s, by go_num, by omega, HB.out, HSE.out, HNX.out⟩
                  case measure => simp [intOf]; omega
                · go_wp2
                  go_roundw
                  case rel => exact ⟨k + 1, s, by go_num, by omega, HB.out, HSE.out, HNX.out⟩
                  case measure => simp [intOf]; omega
              · by_cases hmn : m < nk
                · have hmem : li.getD m 0 ∈ dep c.nodes k := by rw [HDEP.out, HYK.out, if_pos rfl]; exact getD_in (by rw [← HNK.out]; exact hmn)
                  have hxb := HV.out.wf.dep (i := (k : Int)) (by rw [← HV.out.len]; simpa using hkn) hmem
                  have hpin := HON.out.pin HEA.out (by rw [← HV.out.len]; exact hkn) hmem
                  rw [← take_succ_getD li m (by rw [← HNK.out]; exact hmn)] at hpin
                  have z2' := HC2.out m hmn
                  obtain ⟨xv, HX⟩ := named (li.getD m 0)
                  rw [← HX.out] at z2' hxb hpin
                  obtain ⟨xn, rfl⟩ : ∃ xn : Nat, xv = (xn : Int) := ⟨xv.toNat, by omega⟩
                  have hxn : xn < n := by rw [HV.out.len]; omega
                  have hsl : s.length = n := by rw [HV.out.len]; exact HON.out.len
                  have z3 : wr.cell? ⟨S, k, none⟩ = some (.bool (s.getD k false)) := HSE.out.cell (by rw [List.getD_eq_getElem?_getD, List.getElem?_eq_getElem (by omega)]; rfl)
                  have z4 : wr.cell? ⟨S, xn, none⟩ = some (.bool (s.getD xn false)) := HSE.out.cell (by rw [List.getD_eq_getElem?_getD, List.getElem?_eq_getElem (by omega)]; rfl)
                  have z5 := HSE.out.frozen k
                  have hset : ∀ b, (s.getD k false || s.getD xn false) = b → BRow (wr.setCell ⟨S, k, none⟩ (.bool b)) S (orat s k (xn : Int)) := fun b e => by
                    subst e; exact HSE.out.set k _
                  obtain ⟨b1, HB1'⟩ := named (s.getD k false)
                  rw [← HB1'.out] at z3 hset
                  obtain ⟨b2, HB2'⟩ := named (s.getD xn false)
                  rw [← HB2'.out] at z4 hset
                  have HSET := Lib.hid hset
                  have HPIN := Lib.hid hpin
                  have HBS : Hid (∀ b, Below S wq (wr.setCell ⟨S, k, none⟩ (.bool b))) := Lib.hid fun b => HB.out.setCell (Nat.le_refl _) _
                  clear hset hpin hmem hm0 hsl
                  cases b1
                  · go_wp2_with (go_at_call 22; (with_reducible refine (HRK.out _).mono ?_); rintro e w3 ⟨rfl, rfl⟩)
                    go_roundw
                    case rel => exact ⟨m + 1, _, by go_num, by omega, (fun h => by cases h), HBS.out _, HSET.out b2 rfl, HPIN.out⟩
                    case measure => simp [intOf]; omega
                  · go_wp2_with (go_at_call 22; (with_reducible refine (HRK.out _).mono ?_); rintro e w3 ⟨rfl, rfl⟩)
                    go_roundw
                    case rel => exact ⟨m + 1, _, by go_num, by omega, (fun h => by cases h), HBS.out _, HSET.out true rfl, HPIN.out⟩
                    case measure => simp [intOf]; omega
                · obtain rfl : nk = m := by omega
                  have hnx := (show ON c.nodes n0 r k (dep c.nodes k) s by rw [HDEP.out, HYK.out, if_pos rfl, ← List.take_length (l := li), ← HNK.out]; exact HON.out).next
                  have HNX := Lib.hid hnx
                  clear hnx hm0
                  go_wp2
                  go_roundw
                  case rel => exact ⟨k + 1, s, by go_num, by omega, HB.out, HSE.out, HNX.out⟩
                  case measure => simp [intOf]; omega
          · obtain rfl : n = k := by omega
            clear hb hse hon hol
            go_wp2
            go_roundw
            case rel => exact ⟨r + 1, s, by go_num, by omega, HB.out, HSE.out, ON.round (by rw [← HV.out.len]; exact HON.out)⟩
            case measure => simp [intOf]; omega
      · obtain rfl : n = r := by omega
        obtain ⟨-, x1, x2, x3⟩ := hol.cells
        have hnd := hol.node hn0l
        rw [← HNI.out] at hnd
        obtain ⟨-, d1, d2, d3⟩ := hnd
        have zc := (HZB.out.below hol.bel).cell 2
        have hp : ∃ p : Nat, ix z2 ni = (p : Int) ∧ p < ni := ix_lt z2 hn0
        obtain ⟨p, hp, hpl⟩ := hp
        have ht2 : z2.tmod (ni : Int) = (p : Int) := by rw [Int.tmod_eq_emod_of_nonneg (by omega)]; exact hp
        unfold ix at hp
        have hw2 : IntKind.i64.wrap z2 = z2 := IntWalk.i64_in _ (by omega)
        have hni0 : ¬ ni = 0 := by omega
        have d4 := d2 p hpl
        have d5 := d3 p
        obtain ⟨iv, HIV⟩ := named ((c.nodes.getD n0 default).ins.getD p 0)
        rw [← HIV.out] at d4
        have HPIN := Lib.hid (hol.pin hn0l p (tz : Int))
        have z6 : wr.cell? ⟨S, tz, none⟩ = some (.bool (s.getD tz false)) := hse.cell (by rw [List.getD_eq_getElem?_getD, List.getElem?_eq_getElem (by rw [hon.len, ← HV.out.len]; exact htzl)]; rfl)
        have hon1 : ON c.nodes n0 1 0 [] s := ⟨hon.len, hon.self, hon.sound, fun _ => hon.all (by omega), hon.old, hon.now⟩
        have hchk := repin_chk (tz := (tz : Int)) (p := p) HV.out.ok HV.out.lvl hon1 (by rw [← HV.out.len]; exact hn0l) (by rw [← HNI.out]; exact hpl) (by rw [← HKD.out]; exact HY.out) (HNB.out n0 hn0l) ⟨by omega, by rw [← HV.out.len]; omega⟩
        rw [bat_nat] at hchk
        obtain ⟨bt, HBT⟩ := named (s.getD tz false)
        rw [← HBT.out] at z6 hchk
        have HCHK := Lib.hid hchk
        have hhn := HHQ.out n0 hn0l
        obtain ⟨hn_, HHN⟩ := named (h n0)
        rw [← HHN.out] at d1 d4 d5 hhn HPIN
        clear hb hse hon hol d2 d3 hchk hon1 HB HSE HON
        go_wp2
        cases bt
        · have hck := HCHK.out
          rw [if_neg (by decide)] at hck
          have HCK := Lib.hid hck
          clear hck HCHK
          go_still_tail 19, (by kernel_rfl)
          go_wp2_with (first
            | (go_at_call 14; (with_reducible refine (chk_o HPIN.out HCK.out (by first | exact Below.refl _ _ | exact (Below.refl _ _).drew)).mono ?_); rintro e w8 ⟨rfl, -, ho⟩; have HB8 := Lib.hid ho.bel; clear ho)
            | (go_at_call 12; (with_reducible refine (lives_o HT.out HB8.out).mono ?_); rintro e w9 ⟨rfl, hb⟩; have HB9 := Lib.hid hb; clear hb))
          go_ret
          exact ⟨rfl, joinB HB0.out HB9.out⟩
        · have hck := HCHK.out
          rw [if_pos rfl] at hck
          have HCK := Lib.hid hck
          clear hck HCHK
          go_still_tail 19, (by kernel_rfl)
          go_wp2_with (first
            | (go_at_call 14; (with_reducible refine (chk_o HPIN.out HCK.out (by first | exact Below.refl _ _ | exact (Below.refl _ _).drew)).mono ?_); rintro e w8 ⟨rfl, -, ho⟩; have HB8 := Lib.hid ho.bel; clear ho)
            | (go_at_call 12; (with_reducible refine (lives_o HT.out HB8.out).mono ?_); rintro e w9 ⟨rfl, hb⟩; have HB9 := Lib.hid hb; clear hb))
          go_ret
          exact ⟨rfl, joinB HB0.out HB9.out⟩
end Go.Proofs.YtbaibacbnjihaaaDoor
