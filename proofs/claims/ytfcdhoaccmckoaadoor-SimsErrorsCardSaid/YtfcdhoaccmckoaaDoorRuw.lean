/- The walk of sims.Run on a pattern that fits, at any number of nodes, seen from outside. -/
import Derived.Test.YtfcdhoaccmckoaaDoorSma
import Derived.Test.YtfcdhoaccmckoaaDoorOrg
namespace Go.Proofs.YtfcdhoaccmckoaaDoor
open Go.RowKit

def RunW (w : World) (e : Ending) (w' : World) : Prop :=
  ∃ A m c B n d D k f, e = .returned (.tuple #[.agg #[.slice A m c, .slice B n d], .slice D k f, .int .i64 0]) ∧ Below w.heap.size w w'

set_option maxRecDepth 100000 in
set_option maxHeartbeats 16000000 in
theorem run_w (c : Ck) (pin pst : List Int) (A0 A1 A2 A3 Ai As : Option Addr) (c0 c1 c2 c3 ci cs : Nat) (w : World) (B : Nat) (hB : B ≤ w.heap.size) (hT : Lg.Tabs w)
    (hc : Cir w B (.agg #[.slice A0 c.nodes.length c0, .slice A1 c.names.length c1, .slice A2 c.mems.length c2, .slice A3 c.outs.length c3]) c) (hpi : Ks w B (.slice Ai pin.length ci) pin) (hps : Ks w B (.slice As pst.length cs) pst) (hsz : c.nodes.length ≤ 1000000) (hos : c.outs.length ≤ 17592186044416) (hck : chkErr c = 0) (hf : Fits c pin pst) :
    Calls Tryd.prog 12 #[.agg #[.slice A0 c.nodes.length c0, .slice A1 c.names.length c1, .slice A2 c.mems.length c2, .slice A3 c.outs.length c3], .agg #[.slice Ai pin.length ci, .slice As pst.length cs]] w (RunW w) := by
  have hshape : shapeErr c = 0 := by
    unfold chkErr at hck
    split at hck
    · rename_i h1; exact absurd hck h1
    · rename_i h1; simpa using h1
  have hpins : ∀ k, k < c.nodes.length → (c.nodes.getD k default).ins.length ≤ 16 := fun k hk => by
    have h1 := nodeErr_zero ((shape_zero hshape).2.2.2.2.1 _ (getD_mem_nd hk))
    have h3 := h1.2.2.1
    have h4 : hi (c.nodes.getD k default).kind ≤ 16 := hi_all _
    omega
  have hmem := hf.mems
  obtain ⟨W1, HW1⟩ := named (((w.alloc (.cells #[.slice A0 c.nodes.length c0, .slice A1 c.names.length c1, .slice A2 c.mems.length c2, .slice A3 c.outs.length c3] 27)).alloc (.cells #[.slice Ai pin.length ci, .slice As pst.length cs] 30)).alloc (.cells #[.slice none 0 0, .slice none 0 0] 36))
  have hb1 : Below w.heap.size w W1 := by rw [HW1.out]; exact below_new (below_new (below_new (Below.refl _ _) _) _) _
  have hfc : Fr W1 w.heap.size 27 [.slice A0 c.nodes.length c0, .slice A1 c.names.length c1, .slice A2 c.mems.length c2, .slice A3 c.outs.length c3] := by rw [HW1.out]; exact Fr.alloc (Fr.alloc (Fr.made _ _ _ rfl) _) _
  have hfp : Fr W1 (w.heap.size + 1) 30 [.slice Ai pin.length ci, .slice As pst.length cs] := by rw [HW1.out]; exact Fr.alloc (Fr.made _ _ _ (by simp)) _
  have hfr : Fr W1 (w.heap.size + 1 + 1) 36 [.slice none 0 0, .slice none 0 0] := by rw [HW1.out]; exact Fr.made _ _ _ (by simp)
  have hz1 : W1.heap.size = w.heap.size + 1 + 1 + 1 := by rw [HW1.out]; simp
  have hBW : ∀ {W}, BelW W1 W → B ≤ W.heap.size := fun {W} h => Nat.le_trans hB (joinB hb1 h).size
  have hcW : ∀ {W}, BelW W1 W → Cir W B (.agg #[.slice A0 c.nodes.length c0, .slice A1 c.names.length c1, .slice A2 c.mems.length c2, .slice A3 c.outs.length c3]) c := fun {W} h => hc.below ((joinB hb1 h).mono hB)
  have hTW : ∀ {W}, BelW W1 W → Lg.Tabs W := fun {W} h => hT.below (joinB hb1 h)
  have hiW : ∀ {W}, BelW W1 W → Ks W B (.slice Ai pin.length ci) pin := fun {W} h => Arr.keep stays_u8 hpi (Nat.le_refl _) fun _ hp => (joinB hb1 h).cell (Nat.lt_of_lt_of_le hp hB)
  have hsW : ∀ {W}, BelW W1 W → Ks W B (.slice As pst.length cs) pst := fun {W} h => Arr.keep stays_u8 hps (Nat.le_refl _) fun _ hp => (joinB hb1 h).cell (Nat.lt_of_lt_of_le hp hB)
  have hns : Ns w B (.slice A0 c.nodes.length c0) c.nodes := by
    obtain ⟨v0, v1, v2, v3, e, h, -⟩ := id hc
    simp only [Value.agg.injEq, Array.mk.injEq, List.cons.injEq, and_true] at e
    rw [e.1]; exact h
  have hor : Calls Tryd.prog 31 #[.agg #[.slice A0 c.nodes.length c0, .slice A1 c.names.length c1, .slice A2 c.mems.length c2, .slice A3 c.outs.length c3]] W1 fun e w' => ∃ R d, Rg c.nodes.length R ∧ W1.heap.size ≤ d ∧ e = .returned (.tuple #[.slice (some ⟨d, 0, none⟩) c.nodes.length c.nodes.length, .int .i64 0]) ∧ Row w' d R ∧ BelW W1 w' :=
    (order_rg c _ W1 B (hBW (Below.refl _ _)) (tabs_lg (hTW (Below.refl _ _))) (hcW (Below.refl _ _)) hsz).mono fun e w' ⟨h1, h2⟩ => by
      rcases h2 with ⟨-, d, R, hg, hd, he, hr⟩ | ⟨hne, -⟩
      · exact ⟨R, d, hg, hd, he, hr, h1⟩
      · exact absurd hck hne
  have hcp : ∀ W, BelW W1 W → Calls Tryd.prog 37 #[.agg #[.slice A0 c.nodes.length c0, .slice A1 c.names.length c1, .slice A2 c.mems.length c2, .slice A3 c.outs.length c3], .agg #[.slice Ai pin.length ci, .slice As pst.length cs]] W fun e w' => e = .returned (.int .i64 0) ∧ BelW W w' :=
    fun W h => cpat_ok c pin pst A0 A1 A2 A3 Ai As c0 c1 c2 c3 ci cs W B (hBW h) (hcW h) (hiW h) (hsW h) hsz hf
  have hin : ∀ W, BelW W1 W → Calls Tryd.prog 29 #[.agg #[.slice A0 c.nodes.length c0, .slice A1 c.names.length c1, .slice A2 c.mems.length c2, .slice A3 c.outs.length c3]] W fun e w' => ∃ A, e = .returned (.slice A pin.length pin.length) ∧ Is w' w'.heap.size (.slice A pin.length pin.length) (ofTo c.nodes [0] c.nodes.length) ∧ BelW W w' :=
    fun W h => (inputs_any c _ W B (hBW h) (hcW h) hsz).mono fun e w' ⟨A, he, hi2, hb⟩ => ⟨A, by rw [hf.li]; exact he, by rw [hf.li]; exact hi2, hb⟩
  have hst : ∀ W, BelW W1 W → Calls Tryd.prog 30 #[.agg #[.slice A0 c.nodes.length c0, .slice A1 c.names.length c1, .slice A2 c.mems.length c2, .slice A3 c.outs.length c3]] W fun e w' => ∃ A, e = .returned (.slice A pst.length pst.length) ∧ Is w' w'.heap.size (.slice A pst.length pst.length) (ofTo c.nodes [14] c.nodes.length) ∧ BelW W w' :=
    fun W h => (states_any c _ W B (hBW h) (hcW h) hsz).mono fun e w' ⟨A, he, hi2, hb⟩ => ⟨A, by rw [hf.ls]; exact he, by rw [hf.ls]; exact hi2, hb⟩
  have has1 : ∀ W A g, BelW W1 W → W1.heap.size ≤ g → VRow W g (List.replicate c.nodes.length 0) → Is W W.heap.size (.slice A pin.length pin.length) (ofTo c.nodes [0] c.nodes.length) → Calls Tryd.prog 38 #[.slice (some ⟨g, 0, none⟩) c.nodes.length c.nodes.length, .slice A pin.length pin.length, .slice Ai pin.length ci] W fun e w' => e = .returned (.tuple #[]) ∧ VRow w' g (asg (List.replicate c.nodes.length 0) (ofTo c.nodes [0] c.nodes.length) pin) ∧ BelW W1 w' ∧ W.grownBy w' (some g) :=
    fun W A g h hg hr ha => (assign_any _ _ _ A Ai _ _ g _ _ _ B W hr ha (hiW h) (Nat.le_trans (hBW (Below.refl _ _)) hg) hf.li rfl rfl (by simp) (fun x hx => ofTo_in hx)).mono fun e w' ⟨he, hv, hg2⟩ => ⟨he, hv, bgrown h hg2 hg, hg2⟩
  have has2 : ∀ W A g, BelW W1 W → W1.heap.size ≤ g → VRow W g (asg (List.replicate c.nodes.length 0) (ofTo c.nodes [0] c.nodes.length) pin) → Is W W.heap.size (.slice A pst.length pst.length) (ofTo c.nodes [14] c.nodes.length) → Calls Tryd.prog 38 #[.slice (some ⟨g, 0, none⟩) c.nodes.length c.nodes.length, .slice A pst.length pst.length, .slice As pst.length cs] W fun e w' => e = .returned (.tuple #[]) ∧ VRow w' g (baseV c.nodes.length (ofTo c.nodes [0] c.nodes.length) (ofTo c.nodes [14] c.nodes.length) pin pst) ∧ BelW W1 w' ∧ W.grownBy w' (some g) :=
    fun W A g h hg hr ha => (assign_any _ _ _ A As _ _ g _ _ _ B W hr ha (hsW h) (Nat.le_trans (hBW (Below.refl _ _)) hg) hf.ls rfl rfl (by simp [asg_len]) (fun x hx => ofTo_in hx)).mono fun e w' ⟨he, hv, hg2⟩ => ⟨he, hv, bgrown h hg2 hg, hg2⟩
  have hso : ∀ W g out, BelW W1 W → VRow W g out → out.length = c.nodes.length → Calls Tryd.prog 39 #[.agg #[.slice A0 c.nodes.length c0, .slice A1 c.names.length c1, .slice A2 c.mems.length c2, .slice A3 c.outs.length c3], .slice (some ⟨g, 0, none⟩) c.nodes.length c.nodes.length] W fun e w' => (∃ q, e = .returned (.agg #[.slice A0 c.nodes.length c0, .slice A1 c.names.length c1, .slice A2 c.mems.length c2, .slice A3 c.outs.length c3, .func (.func 63) #[] #[.pointer (some ⟨q, 0, none⟩)]]) ∧ W.heap.size ≤ q ∧ w'.cell? ⟨q, 0, none⟩ = some (.slice (some ⟨g, 0, none⟩) c.nodes.length c.nodes.length)) ∧ BelW W w' :=
    fun W g out h hr hl => (stateOf_any out A0 A1 A2 A3 (some ⟨g, 0, none⟩) _ _ _ _ c.nodes.length c0 c1 c2 c3 c.nodes.length W W.heap.size (Nat.le_refl _) (by have := hr.ks; rw [hl] at this; exact this)).mono fun e w' ⟨⟨q, he, _, hq, hcq⟩, hb⟩ => ⟨⟨q, he, hq, hcq⟩, hb⟩
  have hva : ∀ W q out x, BelW W1 W → Nv W q out → x < c.nodes.length → ∀ A4 c4, Is W B (.slice A4 (c.nodes.getD x default).ins.length c4) (c.nodes.getD x default).ins → Calls Tryd.prog 41 #[.agg #[.slice A0 c.nodes.length c0, .slice A1 c.names.length c1, .slice A2 c.mems.length c2, .slice A3 c.outs.length c3, .func (.func 63) #[] #[.pointer (some ⟨q, 0, none⟩)]], .slice A4 (c.nodes.getD x default).ins.length c4] W (ValsPost ((c.nodes.getD x default).ins.map (valA out)) W) :=
    fun W q out x h hq hx A4 c4 his => values_any out _ A0 A1 A2 A3 _ _ _ _ c0 c1 c2 c3 _ q W B (hBW h) hq his (by have := hpins x hx; omega)
  have hev : ∀ W g5 vals k, 0 ≤ k → BelW W1 W → VRow W g5 vals → Calls Tryd.prog 40 #[.int .u8 k, .slice (some ⟨g5, 0, none⟩) vals.length vals.length] W fun e w' => e = .returned (.int .u8 (evalL k vals)) ∧ BelW W w' :=
    fun W g5 vals k h0 h hr => Lg.eval_any k h0 (Nat.le_refl _) hr.ks.vs (hTW h)
  have hre : ∀ W q out, BelW W1 W → Nv W q out → Calls Tryd.prog 42 #[.agg #[.slice A0 c.nodes.length c0, .slice A1 c.names.length c1, .slice A2 c.mems.length c2, .slice A3 c.outs.length c3, .func (.func 63) #[] #[.pointer (some ⟨q, 0, none⟩)]]] W (RespPost (outV c out) (nextV c out) W) :=
    fun W q out h hq => response_any c out A0 A1 A2 A3 c0 c1 c2 c3 q W B (hBW h) hq (hcW h) hsz hos
  have hnd : ∀ W, BelW W1 W → ∀ x, x < c.nodes.length → ∃ b o A4 c4, A0 = some ⟨b, o, none⟩ ∧ b < B ∧ W.cell? ⟨b, o + x * 4, none⟩ = some (.int .u8 (c.nodes.getD x default).kind) ∧ W.cell? ⟨b, o + x * 4 + 1, none⟩ = some (.slice A4 (c.nodes.getD x default).ins.length c4) ∧ W.cell? ⟨b, o + x * 4 + 2, none⟩ = some (.int .i64 (c.nodes.getD x default).mem) ∧ W.cell? ⟨b, o + x * 4 + 3, none⟩ = some (.int .i64 (c.nodes.getD x default).bit) ∧ Is W B (.slice A4 (c.nodes.getD x default).ins.length c4) (c.nodes.getD x default).ins ∧ 0 ≤ (c.nodes.getD x default).kind := fun W h x hx => by
    obtain ⟨A, b, o, cc, e, hA, -, -, hcell⟩ := hns
    simp only [Value.slice.injEq, true_and] at e
    obtain ⟨rfl, rfl⟩ := e
    obtain ⟨hlb, s, e0, e1, e2, e3, h4, k0, -⟩ := hcell x hx
    obtain ⟨A4, b4, o4, c4, rfl, -⟩ := id h4
    have hk : ∀ j, W.cell? ⟨b, j, none⟩ = w.cell? ⟨b, j, none⟩ := fun j => (joinB hb1 h).cell (p := ⟨b, j, none⟩) (by show b < w.heap.size; omega)
    exact ⟨b, o, A4, c4, hA (by omega), hlb, by rw [hk]; exact e0, by rw [hk]; exact e1, by rw [hk]; exact e2, by rw [hk]; exact e3, h4.below ((joinB hb1 h).mono hB), k0⟩
  have HB1 := Lib.hid hb1
  have hbw : B ≤ w.heap.size := hB
  have HM0 := Lib.hid hmem
  clear hc hpi hps hf hb1 hBW hcW hTW hiW hsW hns hck hshape hT
  obtain ⟨ins, HINS⟩ := named (ofTo c.nodes [0] c.nodes.length)
  obtain ⟨sts, HSTS⟩ := named (ofTo c.nodes [14] c.nodes.length)
  rw [← HINS.out] at hin has1 has2
  rw [← HSTS.out] at hst has2
  obtain ⟨base, HBASE⟩ := named (baseV c.nodes.length ins sts pin pst)
  rw [← HBASE.out] at has2
  have HBL : Hid (base.length = c.nodes.length) := Lib.hid (by rw [HBASE.out, baseV_len])
  obtain ⟨out1, HOUT1⟩ := named (asg (List.replicate c.nodes.length 0) ins pin)
  rw [← HOUT1.out] at has1 has2
  rw [hmem] at HW1 hfc hor hcp hin hst hso hva hre
  rw [hmem]
  obtain ⟨nd, HND⟩ := named c.nodes
  rw [← HND.out] at HW1 hfc hor hcp hin hst has1 has2 hso hva hre hnd HBL hpins hsz
  rw [← HND.out]
  obtain ⟨n, HN⟩ := named nd.length
  rw [← HN.out] at HW1 hfc hor hcp hin hst has1 has2 hso hva hre hnd HBL hpins hsz
  rw [← HN.out]
  generalize c.names.length = n1 at HW1 hfc hor hcp hin hst hso hva hre ⊢
  generalize c.outs.length = n3 at HW1 hfc hor hcp hin hst hso hva hre hos ⊢
  generalize pin.length = ni at HW1 hfp hcp hin has1 ⊢
  generalize pst.length = ns at HW1 hfp hcp hst has2 ⊢
  have HCE : Hid (∀ W, BelW W1 W → BelW W1 W ∧ W.cell? ⟨w.heap.size, 0, none⟩ = some (.slice A0 n c0) ∧ W.cell? ⟨w.heap.size, 1, none⟩ = some (.slice A1 n1 c1) ∧ W.cell? ⟨w.heap.size, 2, none⟩ = some (.slice A2 0 c2) ∧ W.cell? ⟨w.heap.size, 3, none⟩ = some (.slice A3 n3 c3) ∧ W.cell? ⟨w.heap.size + 1, 0, none⟩ = some (.slice Ai ni ci) ∧ W.cell? ⟨w.heap.size + 1, 1, none⟩ = some (.slice As ns cs)) :=
    Lib.hid fun W h => ⟨h, (hfc.below h).cell 0, (hfc.below h).cell 1, (hfc.below h).cell 2, (hfc.below h).cell 3, (hfp.below h).cell 0, (hfp.below h).cell 1⟩
  have HFR : Hid (∀ W, BelW W1 W → Fr W (w.heap.size + 1 + 1) 36 [.slice none 0 0, .slice none 0 0]) := Lib.hid fun W h => hfr.below h
  have HOR := Lib.hid hor
  have HCP := Lib.hid hcp
  have HIN := Lib.hid hin
  have HST := Lib.hid hst
  have HAS1 := Lib.hid has1
  have HAS2 := Lib.hid has2
  have HSO := Lib.hid hso
  have HVA := Lib.hid hva
  have HEV := Lib.hid hev
  have HRE := Lib.hid hre
  have HNDC := Lib.hid hnd
  have HPINS := Lib.hid hpins
  have HZ1 := Lib.hid hz1
  have hzl : w.heap.size + 1 + 1 < W1.heap.size := by omega
  clear hfc hfp hfr hor hcp hin hst has1 has2 hso hva hev hre hnd hpins hz1 hmem hos
  obtain ⟨i0, hi0, hz0, hz1', hz2⟩ := info_parts info_val
  have HI := Lib.hid (And.intro hi0 (And.intro hz0 (And.intro hz1' hz2)))
  clear hi0 hz0 hz1' hz2
  go_enter Tryd.func12, Tryd.ntmps12
  go_upto_region 1 with (fail)
  rw [← HW1.out]
  obtain ⟨-, x0, x1, x2, x3, y0, y1⟩ := HCE.out W1 (Below.refl _ _)
  go_wp2_with (first
    | (go_at_call 31; (with_reducible refine HOR.out.mono ?_); rintro e w2 ⟨R, d, hrg, hdz, rfl, hrd, hb⟩; have HB2 := Lib.hid hb; have HRG := Lib.hid hrg; have HRD := Lib.hid hrd; clear x0 x1 x2 x3 y0 y1; obtain ⟨-, x0, x1, x2, x3, y0, y1⟩ := HCE.out _ hb; clear hb hrg hrd)
    | (go_at_call 37; (with_reducible refine (HCP.out _ HB2.out).mono ?_); rintro e w3 ⟨rfl, hb⟩; have HB3 := Lib.hid hb; clear hb x0 x1 x2 x3 y0 y1)
    | (at_make; refine wpList_make_full _ rfl _ _ 28 rfl w3.heap.size 40 i0 (.int .u8 0) 1 Tryd.underlying28 HI.out.1 HI.out.2.1 HI.out.2.2.1 .i64 .i64 _ _ n rfl rfl rfl rfl ?b2 ?b3 ?b4 ?_))
  case b2 => rw [HI.out.2.2.2]; omega
  case b3 => unfold maxLen; omega
  case b4 => exact Nat.le_refl _
  intro w4 hown hgr
  rw [made_vals] at hown
  have hv4 : VRow w4 w3.heap.size (List.replicate n 0) := VRow.of hown (by simp)
  have hb4 : BelW W1 w4 := (joinB HB2.out HB3.out).grown hgr (joinB HB2.out HB3.out).size (fun k h => by cases h)
  have hdg : d < w3.heap.size := Nat.lt_of_lt_of_le HRD.out.lt (Below.size HB3.out)
  have hrd4 : Row w4 d R := (HRD.out.below HB3.out).kept hgr (by simp)
  obtain ⟨g, HG⟩ := named w3.heap.size
  rw [← HG.out] at hv4 hdg
  have hgl : W1.heap.size ≤ g := by rw [HG.out]; exact (joinB HB2.out HB3.out).size
  rw [← HG.out]
  have HRD4 := Lib.hid hrd4
  clear hown hgr hrd4
  go_wp2
  go_region_held3 (fun w' => BelW W1 w' ∧ w'.cell? ⟨w.heap.size, 0, none⟩ = some (.slice A0 n c0) ∧ w'.cell? ⟨w.heap.size, 1, none⟩ = some (.slice A1 n1 c1) ∧ w'.cell? ⟨w.heap.size, 2, none⟩ = some (.slice A2 0 c2) ∧ w'.cell? ⟨w.heap.size, 3, none⟩ = some (.slice A3 n3 c3) ∧ w'.cell? ⟨w.heap.size + 1, 0, none⟩ = some (.slice Ai ni ci) ∧ w'.cell? ⟨w.heap.size + 1, 1, none⟩ = some (.slice As ns cs))
    ((refine HCE.out _ ?_; first | (with_reducible assumption) | (refine BelW.drew ?_; with_reducible assumption)))
    (first
      | (go_at_call 29; refine Calls.mono (HIN.out _ ?_) ?_; · (first | (with_reducible assumption) | (refine BelW.drew ?_; with_reducible assumption))
         rintro e w5 ⟨A, rfl, hiw5, hbw5⟩
         have hsw5 : BelW W1 w5 := (by refine BelW.next ?_ hbw5; (first | (with_reducible assumption) | (refine BelW.drew ?_; with_reducible assumption)))
         have hvw5 := VRow.below (VRow.drew hv4) hbw5
         have hrw5 := Row.below (Row.drewS HRD4.out) hbw5)
      | (go_at_call 38; refine Calls.mono (HAS1.out _ _ _ ?_ hgl ?_ ?_) ?_; · (with_reducible assumption)
         · (with_reducible assumption)
         · (with_reducible assumption)
         rintro e w6 ⟨rfl, hvw6, hsw6, hgw6⟩
         have hrw6 := Row.kept hrw5 hgw6 (show some d ≠ some g by simp; omega)))
  clear hb4 hv4 hbw5 hsw5 hvw5 hiw5 hrw5 hgw6
  go_wp2
  go_region_held3 (fun w' => BelW W1 w' ∧ w'.cell? ⟨w.heap.size, 0, none⟩ = some (.slice A0 n c0) ∧ w'.cell? ⟨w.heap.size, 1, none⟩ = some (.slice A1 n1 c1) ∧ w'.cell? ⟨w.heap.size, 2, none⟩ = some (.slice A2 0 c2) ∧ w'.cell? ⟨w.heap.size, 3, none⟩ = some (.slice A3 n3 c3) ∧ w'.cell? ⟨w.heap.size + 1, 0, none⟩ = some (.slice Ai ni ci) ∧ w'.cell? ⟨w.heap.size + 1, 1, none⟩ = some (.slice As ns cs))
    ((refine HCE.out _ ?_; first | (with_reducible assumption) | (refine BelW.drew ?_; with_reducible assumption)))
    (first
      | (go_at_call 30; refine Calls.mono (HST.out _ ?_) ?_; · (first | (with_reducible assumption) | (refine BelW.drew ?_; with_reducible assumption))
         rintro e w7 ⟨A, rfl, hiw7, hbw7⟩
         have hsw7 : BelW W1 w7 := (by refine BelW.next ?_ hbw7; (first | (with_reducible assumption) | (refine BelW.drew ?_; with_reducible assumption)))
         have hvw7 := VRow.below (VRow.drew hvw6) hbw7
         have hrw7 := Row.below (Row.drewS hrw6) hbw7)
      | (go_at_call 38; refine Calls.mono (HAS2.out _ _ _ ?_ hgl ?_ ?_) ?_; · (with_reducible assumption)
         · (with_reducible assumption)
         · (with_reducible assumption)
         rintro e w8 ⟨rfl, hvw8, hsw8, hgw8⟩
         have hrw8 := Row.kept hrw7 hgw8 (show some d ≠ some g by simp; omega)))

  obtain ⟨-, x0, x1, x2, x3, -, -⟩ := HCE.out w8 hsw8
  have HV8 := Lib.hid hvw8
  have HS8 := Lib.hid hsw8
  have HR8 := Lib.hid hrw8
  have hg8 : g < w8.heap.size := hvw8.lt
  clear hsw6 hvw6 hrw6 hbw7 hsw7 hvw7 hiw7 hrw7 hgw8 hvw8 hsw8 hrw8
  go_wp2_with (go_at_call 39; (with_reducible refine (HSO.out _ g base HS8.out HV8.out HBL.out).mono ?_); rintro e w9 ⟨⟨q, rfl, hqz, hqc⟩, hb⟩; have HB9 := Lib.hid hb; have HQC := Lib.hid hqc; clear hb hqc)
  obtain ⟨V, HV⟩ := named (w9.alloc (.cells #[.slice A0 n c0, .slice A1 n1 c1, .slice A2 0 c2, .slice A3 n3 c3, .func (.func 63) #[] #[.pointer (some ⟨q, 0, none⟩)]] 79))
  rw [← HV.out]
  have hnew : Below w9.heap.size w9 V := by rw [HV.out]; exact below_new (Below.refl _ _) _
  have hfs : Fr V w9.heap.size 79 [.slice A0 n c0, .slice A1 n1 c1, .slice A2 0 c2, .slice A3 n3 c3, .func (.func 63) #[] #[.pointer (some ⟨q, 0, none⟩)]] := by rw [HV.out]; exact Fr.made _ _ _ rfl
  have hw9 := Below.size HB9.out
  obtain ⟨s, HSV⟩ := named w9.heap.size
  have hsz9 : g < s := by rw [HSV.out]; omega
  have hRL : RL W1 g s q d n R [.slice A0 n c0, .slice A1 n1 c1, .slice A2 0 c2, .slice A3 n3 c3, .func (.func 63) #[] #[.pointer (some ⟨q, 0, none⟩)]] base V := ⟨joinB (joinB HS8.out HB9.out) hnew, (HV8.out.below HB9.out).below hnew, by rw [HSV.out]; exact hfs, (hnew.cell (p := ⟨q, 0, none⟩) (cell_lt HQC.out)).trans HQC.out, (HR8.out.below HB9.out).below hnew, ⟨by omega, by omega, by omega⟩, hgl, HBL.out⟩
  rw [← HSV.out]
  have HRL := Lib.hid hRL
  clear hRL hfs hnew x0 x1 x2 x3
  have HRN : Hid (R.length = n) := Lib.hid HRG.out.1
  go_loopw [48] (fun i wr => ∃ (k : Nat) (out : List Int), k ≤ n ∧ i = .int .i64 k ∧ RL W1 g s q d n R [.slice A0 n c0, .slice A1 n1 c1, .slice A2 0 c2, .slice A3 n3 c3, .func (.func 63) #[] #[.pointer (some ⟨q, 0, none⟩)]] out wr) (fun i _ => n - (intOf i).toNat)
  case atStart => exact ⟨0, base, Nat.zero_le _, rfl, HRL.out⟩
  case round =>
    clear HRL
    obtain ⟨k, out, hk, rfl, hrl⟩ := hrel
    have HRL := Lib.hid hrl
    by_cases hlt : k < n
    · obtain ⟨x, hx, hxn⟩ := HRG.out.at hlt
      have hxc : wr.cell? ⟨d, k, none⟩ = some (.int .i64 (x : Int)) := by rw [hrl.ord.cell (by rw [HRN.out]; exact hlt), hx]
      obtain ⟨b, o, A4, c4, rfl, hlb, e0, e1, e2, e3, his, hk0⟩ := HNDC.out wr hrl.bel x hxn
      have s0 : wr.cell? ⟨s, 0, none⟩ = some (.slice (some ⟨b, o, none⟩) n c0) := hrl.st.cell 0
      have HPI := Lib.hid (HPINS.out x hxn)
      have HIS := Lib.hid his
      clear hx his hrl
      obtain ⟨ni4, HNI⟩ := named (nd.getD x default).ins.length
      obtain ⟨kd, HKD⟩ := named (nd.getD x default).kind
      obtain ⟨md, HMD⟩ := named (nd.getD x default).mem
      obtain ⟨bd, HBD⟩ := named (nd.getD x default).bit
      have hni : ni4 ≤ 16 := by rw [HNI.out]; exact HPI.out
      rw [← HKD.out] at e0 hk0
      rw [← HNI.out] at e1
      rw [← HMD.out] at e2
      rw [← HBD.out] at e3
      obtain ⟨W2, HW2⟩ := named (wr.alloc (.cells #[.int .u8 kd, .slice A4 ni4 c4, .int .i64 md, .int .i64 bd] 62))
      have hnew : Below wr.heap.size wr W2 := by rw [HW2.out]; exact below_new (Below.refl _ _) _
      have hfv : Fr W2 wr.heap.size 62 [.int .u8 kd, .slice A4 ni4 c4, .int .i64 md, .int .i64 bd] := by rw [HW2.out]; exact Fr.made _ _ _ rfl
      have HRL2 := Lib.hid (HRL.out.next hnew)
      have hgv : g < wr.heap.size := HRL.out.row.lt
      obtain ⟨v, HVV⟩ := named wr.heap.size
      rw [← HVV.out] at hfv hgv
      have HCM := Lib.hid (fun w => comb_any kd w)
      have vc0 : W2.cell? ⟨v, 0, none⟩ = some (.int .u8 kd) := hfv.cell 0
      have vc1 : W2.cell? ⟨v, 1, none⟩ = some (.slice A4 ni4 c4) := hfv.cell 1
      clear hnew hfv
      cases hcm : cmb kd
      · rw [hcm] at HCM
        go_upto_region 14 with (fail)
        rw [← HW2.out, ← HVV.out]
        go_wp2_with (go_at_call 32; (with_reducible refine (HCM.out _).mono ?_); rintro e w' ⟨rfl, rfl⟩)
        go_roundw
        case rel =>
          exact ⟨k + 1, out, by omega, by go_num, HRL2.out⟩
        case measure => simp [intOf]; omega
      · obtain ⟨nv, HNV⟩ := named (evalL kd ((nd.getD x default).ins.map (valA out)))
        rw [hcm] at HCM
        have hvx : Calls Tryd.prog 41 #[.agg #[.slice (some ⟨b, o, none⟩) n c0, .slice A1 n1 c1, .slice A2 0 c2, .slice A3 n3 c3, .func (.func 63) #[] #[.pointer (some ⟨q, 0, none⟩)]], .slice A4 ni4 c4] W2.drew fun e w' => ∃ g5, e = .returned (.slice (some ⟨g5, 0, none⟩) ni4 ni4) ∧ VRow w' g5 ((nd.getD x default).ins.map (valA out)) ∧ BelW W2.drew w' := by
          have hnew : Below wr.heap.size wr W2.drew := by rw [HW2.out]; exact (below_new (Below.refl _ _) _).drew
          have h := HVA.out W2.drew q out x HRL2.out.drew.bel HRL2.out.drew.nv hxn A4 c4 (HIS.out.below (hnew.mono (by have := (joinB HB1.out HRL.out.bel).size; omega)))
          rw [← HNI.out] at h
          refine h.mono fun e w' ⟨g5, he, hv, _, hb⟩ => ⟨g5, ?_, hv, hb⟩
          rw [he, List.length_map, ← HNI.out]
        have hex : ∀ W g5, BelW W1 W → VRow W g5 ((nd.getD x default).ins.map (valA out)) → Calls Tryd.prog 40 #[.int .u8 kd, .slice (some ⟨g5, 0, none⟩) ni4 ni4] W fun e w' => e = .returned (.int .u8 nv) ∧ BelW W w' := fun W g5 h1 h2 => by
          have h := HEV.out W g5 _ kd hk0 h1 h2
          rw [List.length_map, ← HNI.out, ← HNV.out] at h
          exact h
        have hst2 := HRL2.out.st
        have hne := HRL2.out.ne
        have hke : ∀ w', W2.grownBy w' (some g) → W2.grownBy w' (some g) ∧ w'.cell? ⟨s, 0, none⟩ = some (.slice (some ⟨b, o, none⟩) n c0) ∧ w'.cell? ⟨s, 1, none⟩ = some (.slice A1 n1 c1) ∧ w'.cell? ⟨s, 2, none⟩ = some (.slice A2 0 c2) ∧ w'.cell? ⟨s, 3, none⟩ = some (.slice A3 n3 c3) ∧ w'.cell? ⟨s, 4, none⟩ = some (.func (.func 63) #[] #[.pointer (some ⟨q, 0, none⟩)]) ∧ w'.cell? ⟨v, 0, none⟩ = some (.int .u8 kd) ∧ w'.cell? ⟨v, 1, none⟩ = some (.slice A4 ni4 c4) := fun w' hg =>
          have h1 : some s ≠ some g := by simpa using hne.1
          have h2 : some v ≠ some g := by simp; omega
          ⟨hg, hg.cell (hst2.cell 0) h1, hg.cell (hst2.cell 1) h1, hg.cell (hst2.cell 2) h1, hg.cell (hst2.cell 3) h1, hg.cell (hst2.cell 4) h1, hg.cell vc0 h2, hg.cell vc1 h2⟩
        have HKE := Lib.hid hke
        have HVX := Lib.hid hvx
        have HEX := Lib.hid hex
        have hlx : x < out.length := by rw [HRL.out.len]; exact hxn
        have HLX := Lib.hid hlx
        clear hke hvx hex hst2 hne hlx
        go_upto_region 14 with (fail)
        rw [← HW2.out, ← HVV.out]
        go_wp2_with (go_at_call 32; (with_reducible refine (HCM.out _).mono ?_); rintro e w' ⟨rfl, rfl⟩)
        have hg0 : W2.grownBy W2 (some g) := World.grownBy.refl _ _
        clear vc0 vc1 s0 e0 e1 e2 e3 hxc
        go_region_held3 (fun w' => W2.grownBy w' (some g) ∧ w'.cell? ⟨s, 0, none⟩ = some (.slice (some ⟨b, o, none⟩) n c0) ∧ w'.cell? ⟨s, 1, none⟩ = some (.slice A1 n1 c1) ∧ w'.cell? ⟨s, 2, none⟩ = some (.slice A2 0 c2) ∧ w'.cell? ⟨s, 3, none⟩ = some (.slice A3 n3 c3) ∧ w'.cell? ⟨s, 4, none⟩ = some (.func (.func 63) #[] #[.pointer (some ⟨q, 0, none⟩)]) ∧ w'.cell? ⟨v, 0, none⟩ = some (.int .u8 kd) ∧ w'.cell? ⟨v, 1, none⟩ = some (.slice A4 ni4 c4))
          ((refine HKE.out _ ?_; first | (with_reducible assumption) | (refine gdrew ?_; with_reducible assumption) | (refine grown_v ?_ _ _; with_reducible assumption)))
          (first
            | (go_at_call 41; refine Calls.mono HVX.out ?_
               rintro e wA ⟨g5, rfl, hvA, hbA⟩
               have hgA : W2.grownBy wA (some g) := gnext (gdrew hg0) hbA
               have hRA := RL.next (RL.drew HRL2.out) hbA
               have hbelA := hRA.bel)
            | (go_at_call 40; refine Calls.mono (HEX.out _ _ ?_ ?_) ?_; · (with_reducible assumption)
               · (with_reducible assumption)
               rintro e wB ⟨rfl, hbB⟩
               have hgB : W2.grownBy wB (some g) := gnext hgA hbB
               have hRB := RL.next hRA hbB
               have hcB := VRow.cell hRB.row HLX.out
               have hfB := VRow.frozen hRB.row x))
        have HRB := Lib.hid hRB
        clear hRB hcB hfB hgB hRA hbelA hgA hvA hbA hbB hg0
        go_wp2
        go_roundw
        case rel =>
          exact ⟨k + 1, out.set x nv, by omega, by go_num, HRB.out.set x nv⟩
        case measure => simp [intOf]; omega
    · obtain rfl : n = k := by omega
      have hre := HRE.out wr q out hrl.bel hrl.nv
      have HREE := Lib.hid hre
      have s0 := hrl.st.cell 0
      have s1 := hrl.st.cell 1
      have s2 := hrl.st.cell 2
      have s3 := hrl.st.cell 3
      have s4 := hrl.st.cell 4
      clear hre hrl
      obtain ⟨l1, HL1⟩ := named (outV c out)
      obtain ⟨l2, HL2⟩ := named (nextV c out)
      rw [← HL1.out, ← HL2.out] at HREE
      go_wp2_with (go_at_call 42; (with_reducible refine HREE.out.mono ?_); rintro e wR ⟨gA, gB, rfl, h1, h2, z1, z2, -, hb⟩; have HV1 := Lib.hid h1; have HV2 := Lib.hid h2; have HBR := Lib.hid hb; have hfx := HFR.out _ (joinB HRL.out.bel hb); have r0 := hfx.cell 0; have r1 := hfx.cell 1; have f0 := hfx.frozen 0; have f1 := hfx.frozen 1; have HFX := Lib.hid hfx; clear h1 h2 hb hfx)
      have hq := (HFX.out.set 0 (.slice (some ⟨gA, 0, none⟩) l1.length l1.length)).set 1 (.slice (some ⟨gB, 0, none⟩) l2.length l2.length)
      (try simp only [Exit.inBlock, Exit.then])
      refine bodyPost_ret (results_row_tmp2 rfl _ _ _ _ _ _ _ rfl hq Tryd.underlying36 rfl (by kernel_rfl)) rfl ?_
      have hbw := joinB HB1.out (joinB HRL.out.bel HBR.out)
      exact ⟨_, _, _, _, _, _, _, _, _, rfl, (hbw.setCell (by show w.heap.size ≤ w.heap.size + 1 + 1; omega) _).setCell (by show w.heap.size ≤ w.heap.size + 1 + 1; omega) _⟩
end Go.Proofs.YtfcdhoaccmckoaaDoor
