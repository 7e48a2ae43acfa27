/- The texts Smb Smk Ofp Fnp Fan. -/
import Derived.Test.YtkaedfgmhfefjaaGreatDoorM13
import Derived.Test.YtkaedfgmhfefjaaGreatDoorM14
import Derived.Test.YtkaedfgmhfefjaaGreatDoorM07
import Derived.Deep.LoopGhost
namespace Go.Proofs.YtkaedfgmhfefjaaGreatDoor
open Go.RowKit
def RunPost (c : Ck) (pin pst : List Int) (w : World) (e : Ending) (w' : World) : Prop :=
  ∃ nets g h k, Net c.nodes (baseV c.nodes.length (ofTo c.nodes [0] c.nodes.length) (ofTo c.nodes [14] c.nodes.length) pin pst) nets ∧
    e = .returned (.tuple #[.agg #[.slice (some ⟨g, 0, none⟩) (outV c nets).length (outV c nets).length, .slice (some ⟨h, 0, none⟩) (nextV c nets).length (nextV c nets).length], .slice (some ⟨k, 0, none⟩) nets.length nets.length, .int .i64 0]) ∧
    VRow w' g (outV c nets) ∧ VRow w' h (nextV c nets) ∧ VRow w' k nets ∧ w.heap.size ≤ g ∧ w.heap.size ≤ h ∧ w.heap.size ≤ k ∧ Below w.heap.size w w'
set_option maxRecDepth 100000 in
set_option maxHeartbeats 16000000 in
theorem run_ok (c : Ck) (pin pst : List Int) (A0 A1 A2 A3 Ai As : Option Addr) (c0 c1 c2 c3 ci cs : Nat) (w : World) (B : Nat) (hB : B ≤ w.heap.size) (hT : Lg.Tabs w)
    (hc : Cir w B (.agg #[.slice A0 c.nodes.length c0, .slice A1 c.names.length c1, .slice A2 c.mems.length c2, .slice A3 c.outs.length c3]) c) (hpi : Ks w B (.slice Ai pin.length ci) pin) (hps : Ks w B (.slice As pst.length cs) pst) (hn20 : c.nodes.length < 20) (hos : c.outs.length ≤ 17592186044416) (hck : chkErr c = 0) (hf : Fits c pin pst) :
    Calls Tryz.prog 27 #[.agg #[.slice A0 c.nodes.length c0, .slice A1 c.names.length c1, .slice A2 c.mems.length c2, .slice A3 c.outs.length c3], .agg #[.slice Ai pin.length ci, .slice As pst.length cs]] w (RunPost c pin pst w) := by
  have hsz : c.nodes.length ≤ 1000000 := by omega
  have hshape : shapeErr c = 0 := by
    unfold chkErr at hck
    split at hck
    · rename_i h1; exact absurd hck h1
    · rename_i h1; simpa using h1
  have hwf := wf_of_shape hshape
  have hpins : ∀ k, k < c.nodes.length → (c.nodes.getD k default).ins.length ≤ 16 := fun k hk => by
    have h1 := nodeErr_zero ((shape_zero hshape).2.2.2.2.1 _ (getD_mem_nd hk))
    have h3 := h1.2.2.1
    have h4 : hi (c.nodes.getD k default).kind ≤ 16 := hi_all _
    omega
  have hmem := hf.mems
  obtain ⟨W1, HW1⟩ := named (((w.alloc (.cells #[.slice A0 c.nodes.length c0, .slice A1 c.names.length c1, .slice A2 c.mems.length c2, .slice A3 c.outs.length c3] 39)).alloc (.cells #[.slice Ai pin.length ci, .slice As pst.length cs] 73)).alloc (.cells #[.slice none 0 0, .slice none 0 0] 49))
  have hb1 : Below w.heap.size w W1 := by rw [HW1.out]; exact below_new (below_new (below_new (Below.refl _ _) _) _) _
  have hfc : Fr W1 w.heap.size 39 [.slice A0 c.nodes.length c0, .slice A1 c.names.length c1, .slice A2 c.mems.length c2, .slice A3 c.outs.length c3] := by rw [HW1.out]; exact Fr.alloc (Fr.alloc (Fr.made _ _ _ rfl) _) _
  have hfp : Fr W1 (w.heap.size + 1) 73 [.slice Ai pin.length ci, .slice As pst.length cs] := by rw [HW1.out]; exact Fr.alloc (Fr.made _ _ _ (by simp)) _
  have hfr : Fr W1 (w.heap.size + 1 + 1) 49 [.slice none 0 0, .slice none 0 0] := by rw [HW1.out]; exact Fr.made _ _ _ (by simp)
  have hz1 : W1.heap.size = w.heap.size + 1 + 1 + 1 := by rw [HW1.out]; simp
  have hBW : ∀ {W}, BelW W1 W → B ≤ W.heap.size := fun {W} h => Nat.le_trans hB (joinB hb1 h).size
  have hcW : ∀ {W}, BelW W1 W → Cir W B (.agg #[.slice A0 c.nodes.length c0, .slice A1 c.names.length c1, .slice A2 c.mems.length c2, .slice A3 c.outs.length c3]) c := fun {W} h => hc.below ((joinB hb1 h).mono hB)
  have hTW : ∀ {W}, BelW W1 W → Lg.Tabs W := fun {W} h => hT.below (joinB hb1 h)
  have hiW : ∀ {W}, BelW W1 W → Ks W B (.slice Ai pin.length ci) pin := fun {W} h => Arr.keep stays_u8 hpi (Nat.le_refl _) fun _ hp => (joinB hb1 h).cell (Nat.lt_of_lt_of_le hp hB)
  have hsW : ∀ {W}, BelW W1 W → Ks W B (.slice As pst.length cs) pst := fun {W} h => Arr.keep stays_u8 hps (Nat.le_refl _) fun _ hp => (joinB hb1 h).cell (Nat.lt_of_lt_of_le hp hB)
  have hns : Ns w B (.slice A0 c.nodes.length c0) c.nodes := by
    obtain ⟨v0, v1, v2, v3, e, h, -⟩ := id hc
    simp only [Value.agg.injEq, Array.mk.injEq, List.cons.injEq, and_true] at e
    rw [e.1]; exact h
  have hor : Calls Tryz.prog 33 #[.agg #[.slice A0 c.nodes.length c0, .slice A1 c.names.length c1, .slice A2 c.mems.length c2, .slice A3 c.outs.length c3]] W1 fun e w' => ∃ L R d, Lvl c.nodes L ∧ SortTo L c.nodes.length c.nodes.length R ∧ W1.heap.size ≤ d ∧ e = .returned (.tuple #[.slice (some ⟨d, 0, none⟩) c.nodes.length c.nodes.length, .int .i64 0]) ∧ Row w' d R ∧ BelW W1 w' :=
    (order_any c _ W1 B (hBW (Below.refl _ _)) (tabs_lg (hTW (Below.refl _ _))) (hcW (Below.refl _ _)) hn20).mono fun e w' ⟨h1, h2⟩ => by
      rcases h2 with ⟨-, -, L, R, d, hl, -, hs, hd, he, hr⟩ | ⟨hne, -⟩
      · exact ⟨L, R, d, hl, hs, hd, he, hr, h1⟩
      · exact absurd hck hne
  have hcp : ∀ W, BelW W1 W → Calls Tryz.prog 67 #[.agg #[.slice A0 c.nodes.length c0, .slice A1 c.names.length c1, .slice A2 c.mems.length c2, .slice A3 c.outs.length c3], .agg #[.slice Ai pin.length ci, .slice As pst.length cs]] W fun e w' => e = .returned (.int .i64 0) ∧ BelW W w' :=
    fun W h => cpat_ok c pin pst A0 A1 A2 A3 Ai As c0 c1 c2 c3 ci cs W B (hBW h) (hcW h) (hiW h) (hsW h) hsz hf
  have hin : ∀ W, BelW W1 W → Calls Tryz.prog 36 #[.agg #[.slice A0 c.nodes.length c0, .slice A1 c.names.length c1, .slice A2 c.mems.length c2, .slice A3 c.outs.length c3]] W fun e w' => ∃ A, e = .returned (.slice A pin.length pin.length) ∧ Is w' w'.heap.size (.slice A pin.length pin.length) (ofTo c.nodes [0] c.nodes.length) ∧ BelW W w' :=
    fun W h => (inputs_any c _ W B (hBW h) (hcW h) hsz).mono fun e w' ⟨A, he, hi2, hb⟩ => ⟨A, by rw [hf.li]; exact he, by rw [hf.li]; exact hi2, hb⟩
  have hst : ∀ W, BelW W1 W → Calls Tryz.prog 37 #[.agg #[.slice A0 c.nodes.length c0, .slice A1 c.names.length c1, .slice A2 c.mems.length c2, .slice A3 c.outs.length c3]] W fun e w' => ∃ A, e = .returned (.slice A pst.length pst.length) ∧ Is w' w'.heap.size (.slice A pst.length pst.length) (ofTo c.nodes [14] c.nodes.length) ∧ BelW W w' :=
    fun W h => (states_any c _ W B (hBW h) (hcW h) hsz).mono fun e w' ⟨A, he, hi2, hb⟩ => ⟨A, by rw [hf.ls]; exact he, by rw [hf.ls]; exact hi2, hb⟩
  have has1 : ∀ W A g, BelW W1 W → W1.heap.size ≤ g → VRow W g (List.replicate c.nodes.length 0) → Is W W.heap.size (.slice A pin.length pin.length) (ofTo c.nodes [0] c.nodes.length) → Calls Tryz.prog 68 #[.slice (some ⟨g, 0, none⟩) c.nodes.length c.nodes.length, .slice A pin.length pin.length, .slice Ai pin.length ci] W fun e w' => e = .returned (.tuple #[]) ∧ VRow w' g (asg (List.replicate c.nodes.length 0) (ofTo c.nodes [0] c.nodes.length) pin) ∧ BelW W1 w' ∧ W.grownBy w' (some g) :=
    fun W A g h hg hr ha => (assign_any _ _ _ A Ai _ _ g _ _ _ B W hr ha (hiW h) (Nat.le_trans (hBW (Below.refl _ _)) hg) hf.li rfl rfl (by simp) (fun x hx => ofTo_in hx)).mono fun e w' ⟨he, hv, hg2⟩ => ⟨he, hv, bgrown h hg2 hg, hg2⟩
  have has2 : ∀ W A g, BelW W1 W → W1.heap.size ≤ g → VRow W g (asg (List.replicate c.nodes.length 0) (ofTo c.nodes [0] c.nodes.length) pin) → Is W W.heap.size (.slice A pst.length pst.length) (ofTo c.nodes [14] c.nodes.length) → Calls Tryz.prog 68 #[.slice (some ⟨g, 0, none⟩) c.nodes.length c.nodes.length, .slice A pst.length pst.length, .slice As pst.length cs] W fun e w' => e = .returned (.tuple #[]) ∧ VRow w' g (baseV c.nodes.length (ofTo c.nodes [0] c.nodes.length) (ofTo c.nodes [14] c.nodes.length) pin pst) ∧ BelW W1 w' ∧ W.grownBy w' (some g) :=
    fun W A g h hg hr ha => (assign_any _ _ _ A As _ _ g _ _ _ B W hr ha (hsW h) (Nat.le_trans (hBW (Below.refl _ _)) hg) hf.ls rfl rfl (by simp [asg_len]) (fun x hx => ofTo_in hx)).mono fun e w' ⟨he, hv, hg2⟩ => ⟨he, hv, bgrown h hg2 hg, hg2⟩
  have hso : ∀ W g out, BelW W1 W → VRow W g out → out.length = c.nodes.length → Calls Tryz.prog 69 #[.agg #[.slice A0 c.nodes.length c0, .slice A1 c.names.length c1, .slice A2 c.mems.length c2, .slice A3 c.outs.length c3], .slice (some ⟨g, 0, none⟩) c.nodes.length c.nodes.length] W fun e w' => (∃ q, e = .returned (.agg #[.slice A0 c.nodes.length c0, .slice A1 c.names.length c1, .slice A2 c.mems.length c2, .slice A3 c.outs.length c3, .func (.func 110) #[] #[.pointer (some ⟨q, 0, none⟩)]]) ∧ W.heap.size ≤ q ∧ w'.cell? ⟨q, 0, none⟩ = some (.slice (some ⟨g, 0, none⟩) c.nodes.length c.nodes.length)) ∧ BelW W w' :=
    fun W g out h hr hl => (stateOf_any out A0 A1 A2 A3 (some ⟨g, 0, none⟩) _ _ _ _ c.nodes.length c0 c1 c2 c3 c.nodes.length W W.heap.size (Nat.le_refl _) (by have := hr.ks; rw [hl] at this; exact this)).mono fun e w' ⟨⟨q, he, _, hq, hcq⟩, hb⟩ => ⟨⟨q, he, hq, hcq⟩, hb⟩
  have hva : ∀ W q out x, BelW W1 W → Nv W q out → x < c.nodes.length → ∀ A4 c4, Is W B (.slice A4 (c.nodes.getD x default).ins.length c4) (c.nodes.getD x default).ins → Calls Tryz.prog 72 #[.agg #[.slice A0 c.nodes.length c0, .slice A1 c.names.length c1, .slice A2 c.mems.length c2, .slice A3 c.outs.length c3, .func (.func 110) #[] #[.pointer (some ⟨q, 0, none⟩)]], .slice A4 (c.nodes.getD x default).ins.length c4] W (ValsPost ((c.nodes.getD x default).ins.map (valA out)) W) :=
    fun W q out x h hq hx A4 c4 his => values_any out _ A0 A1 A2 A3 _ _ _ _ c0 c1 c2 c3 _ q W B (hBW h) hq his (by have := hpins x hx; omega)
  have hev : ∀ W g5 vals k, 0 ≤ k → BelW W1 W → VRow W g5 vals → Calls Tryz.prog 71 #[.int .u8 k, .slice (some ⟨g5, 0, none⟩) vals.length vals.length] W fun e w' => e = .returned (.int .u8 (evalL k vals)) ∧ BelW W w' :=
    fun W g5 vals k h0 h hr => Lg.eval_any k h0 (Nat.le_refl _) hr.ks.vs (hTW h)
  have hre : ∀ W q out, BelW W1 W → Nv W q out → Calls Tryz.prog 73 #[.agg #[.slice A0 c.nodes.length c0, .slice A1 c.names.length c1, .slice A2 c.mems.length c2, .slice A3 c.outs.length c3, .func (.func 110) #[] #[.pointer (some ⟨q, 0, none⟩)]]] W (RespPost (outV c out) (nextV c out) W) :=
    fun W q out h hq => response_any c out A0 A1 A2 A3 c0 c1 c2 c3 q W B (hBW h) hq (hcW h) hsz hos
  have hnd : ∀ W, BelW W1 W → ∀ x, x < c.nodes.length → ∃ b o A4 c4, A0 = some ⟨b, o, none⟩ ∧ b < B ∧ W.cell? ⟨b, o + x * 4, none⟩ = some (.int .u8 (c.nodes.getD x default).kind) ∧ W.cell? ⟨b, o + x * 4 + 1, none⟩ = some (.slice A4 (c.nodes.getD x default).ins.length c4) ∧ W.cell? ⟨b, o + x * 4 + 2, none⟩ = some (.int .i64 (c.nodes.getD x default).mem) ∧ W.cell? ⟨b, o + x * 4 + 3, none⟩ = some (.int .i64 (c.nodes.getD x default).bit) ∧ Is W B (.slice A4 (c.nodes.getD x default).ins.length c4) (c.nodes.getD x default).ins ∧ 0 ≤ (c.nodes.getD x default).kind := fun W h x hx => by
    obtain ⟨A, b, o, cc, e, hA, -, -, hcell⟩ := hns
    simp only [Value.slice.injEq, true_and] at e
    obtain ⟨rfl, rfl⟩ := e
    obtain ⟨hlb, s, e0, e1, e2, e3, h4, k0, -⟩ := hcell x hx
    obtain ⟨A4, b4, o4, c4, rfl, -⟩ := id h4
    have hk : ∀ j, W.cell? ⟨b, j, none⟩ = w.cell? ⟨b, j, none⟩ := fun j => (joinB hb1 h).cell (p := ⟨b, j, none⟩) (by show b < w.heap.size; omega)
    exact ⟨b, o, A4, c4, hA (by omega), hlb, by rw [hk]; exact e0, by rw [hk]; exact e1, by rw [hk]; exact e2, by rw [hk]; exact e3, h4.below ((joinB hb1 h).mono hB), k0⟩
  have HB1 := Lib.hid hb1
  have hbw : B ≤ w.heap.size := hB
  have HM0 := Lib.hid hmem
  clear hc hpi hps hf hb1 hBW hcW hTW hiW hsW hns hck hshape hT
  obtain ⟨ins, HINS⟩ := named (ofTo c.nodes [0] c.nodes.length)
  obtain ⟨sts, HSTS⟩ := named (ofTo c.nodes [14] c.nodes.length)
  rw [← HINS.out] at hin has1 has2
  rw [← HSTS.out] at hst has2
  obtain ⟨base, HBASE⟩ := named (baseV c.nodes.length ins sts pin pst)
  rw [← HBASE.out] at has2
  have HBL : Hid (base.length = c.nodes.length) := Lib.hid (by rw [HBASE.out, baseV_len])
  obtain ⟨out1, HOUT1⟩ := named (asg (List.replicate c.nodes.length 0) ins pin)
  rw [← HOUT1.out] at has1 has2
  have hpost : ∀ (nets : List Int) (g h k m1 m2 m3 : Nat) (w' : World), Net c.nodes base nets → m1 = (outV c nets).length → m2 = (nextV c nets).length → m3 = nets.length → VRow w' g (outV c nets) → VRow w' h (nextV c nets) → VRow w' k nets → w.heap.size ≤ g → w.heap.size ≤ h → w.heap.size ≤ k → Below w.heap.size w w' →
      RunPost c pin pst w (.returned (.tuple #[.agg #[.slice (some ⟨g, 0, none⟩) m1 m1, .slice (some ⟨h, 0, none⟩) m2 m2], .slice (some ⟨k, 0, none⟩) m3 m3, .int .i64 0])) w' := fun nets g h k m1 m2 m3 w' e0 e1 e2 e3 h1 h2 h3 h4 h5 h6 h7 => by
    subst e1 e2 e3
    exact ⟨nets, g, h, k, by rw [← HINS.out, ← HSTS.out, ← HBASE.out]; exact e0, rfl, h1, h2, h3, h4, h5, h6, h7⟩
  have HPOST := Lib.hid hpost
  clear hpost
  obtain ⟨rp, HRP⟩ := named (RunPost c pin pst w)
  rw [← HRP.out]
  rw [← HRP.out] at HPOST
  rw [hmem] at HW1 hfc hor hcp hin hst hso hva hre
  rw [hmem]
  obtain ⟨nd, HND⟩ := named c.nodes
  rw [← HND.out] at HW1 hfc hor hcp hin hst has1 has2 hso hva hre hnd HPOST HBL hn20 hwf hpins hsz
  rw [← HND.out]
  obtain ⟨n, HN⟩ := named nd.length
  rw [← HN.out] at HW1 hfc hor hcp hin hst has1 has2 hso hva hre hnd HBL hn20 hpins hsz
  rw [← HN.out]
  generalize c.names.length = n1 at HW1 hfc hor hcp hin hst hso hva hre ⊢
  generalize c.outs.length = n3 at HW1 hfc hor hcp hin hst hso hva hre hos ⊢
  generalize pin.length = ni at HW1 hfp hcp hin has1 ⊢
  generalize pst.length = ns at HW1 hfp hcp hst has2 ⊢
  have HCE : Hid (∀ W, BelW W1 W → BelW W1 W ∧ W.cell? ⟨w.heap.size, 0, none⟩ = some (.slice A0 n c0) ∧ W.cell? ⟨w.heap.size, 1, none⟩ = some (.slice A1 n1 c1) ∧ W.cell? ⟨w.heap.size, 2, none⟩ = some (.slice A2 0 c2) ∧ W.cell? ⟨w.heap.size, 3, none⟩ = some (.slice A3 n3 c3) ∧ W.cell? ⟨w.heap.size + 1, 0, none⟩ = some (.slice Ai ni ci) ∧ W.cell? ⟨w.heap.size + 1, 1, none⟩ = some (.slice As ns cs)) :=
    Lib.hid fun W h => ⟨h, (hfc.below h).cell 0, (hfc.below h).cell 1, (hfc.below h).cell 2, (hfc.below h).cell 3, (hfp.below h).cell 0, (hfp.below h).cell 1⟩
  have HFR : Hid (∀ W, BelW W1 W → Fr W (w.heap.size + 1 + 1) 49 [.slice none 0 0, .slice none 0 0]) := Lib.hid fun W h => hfr.below h
  have HOR := Lib.hid hor
  have HCP := Lib.hid hcp
  have HIN := Lib.hid hin
  have HST := Lib.hid hst
  have HAS1 := Lib.hid has1
  have HAS2 := Lib.hid has2
  have HSO := Lib.hid hso
  have HVA := Lib.hid hva
  have HEV := Lib.hid hev
  have HRE := Lib.hid hre
  have HNDC := Lib.hid hnd
  have HWF := Lib.hid hwf
  have HPINS := Lib.hid hpins
  have HZ1 := Lib.hid hz1
  have hzl : w.heap.size + 1 + 1 < W1.heap.size := by omega
  clear hfc hfp hfr hor hcp hin hst has1 has2 hso hva hev hre hnd hwf hpins hz1 hmem hos
  obtain ⟨i0, hi0, hz0, hz1', hz2⟩ := info_parts info_val
  have HI := Lib.hid (And.intro hi0 (And.intro hz0 (And.intro hz1' hz2)))
  clear hi0 hz0 hz1' hz2
  go_enter Tryz.func27, Tryz.ntmps27
  go_upto_region 1 with (fail)
  rw [← HW1.out]
  obtain ⟨-, x0, x1, x2, x3, y0, y1⟩ := HCE.out W1 (Below.refl _ _)
  go_wp2_with (first
    | (go_at_call 33; (with_reducible refine HOR.out.mono ?_); rintro e w2 ⟨L, R, d, hlv, hsr, hdz, rfl, hrd, hb⟩; have HB2 := Lib.hid hb; have HLV := Lib.hid hlv; have HSR := Lib.hid hsr; have HRD := Lib.hid hrd; clear x0 x1 x2 x3 y0 y1; obtain ⟨-, x0, x1, x2, x3, y0, y1⟩ := HCE.out _ hb; clear hb hlv hsr hrd)
    | (go_at_call 67; (with_reducible refine (HCP.out _ HB2.out).mono ?_); rintro e w3 ⟨rfl, hb⟩; have HB3 := Lib.hid hb; clear hb x0 x1 x2 x3 y0 y1)
    | (at_make; refine wpList_make_full _ rfl _ _ 41 rfl w3.heap.size 77 i0 (.int .u8 0) 1 Tryz.underlying41 HI.out.1 HI.out.2.1 HI.out.2.2.1 .i64 .i64 _ _ n rfl rfl rfl rfl ?b2 ?b3 ?b4 ?_))
  case b2 => rw [HI.out.2.2.2]; omega
  case b3 => unfold maxLen; omega
  case b4 => exact Nat.le_refl _
  intro w4 hown hgr
  rw [made_vals] at hown
  have hv4 : VRow w4 w3.heap.size (List.replicate n 0) := VRow.of hown (by simp)
  have hb4 : BelW W1 w4 := (joinB HB2.out HB3.out).grown hgr (joinB HB2.out HB3.out).size (fun k h => by cases h)
  have hdg : d < w3.heap.size := Nat.lt_of_lt_of_le HRD.out.lt (Below.size HB3.out)
  have hrd4 : Row w4 d R := (HRD.out.below HB3.out).kept hgr (by simp)
  obtain ⟨g, HG⟩ := named w3.heap.size
  rw [← HG.out] at hv4 hdg
  have hgl : W1.heap.size ≤ g := by rw [HG.out]; exact (joinB HB2.out HB3.out).size
  rw [← HG.out]
  have HRD4 := Lib.hid hrd4
  clear hown hgr hrd4
  go_wp2
  go_region_held3 (fun w' => BelW W1 w' ∧ w'.cell? ⟨w.heap.size, 0, none⟩ = some (.slice A0 n c0) ∧ w'.cell? ⟨w.heap.size, 1, none⟩ = some (.slice A1 n1 c1) ∧ w'.cell? ⟨w.heap.size, 2, none⟩ = some (.slice A2 0 c2) ∧ w'.cell? ⟨w.heap.size, 3, none⟩ = some (.slice A3 n3 c3) ∧ w'.cell? ⟨w.heap.size + 1, 0, none⟩ = some (.slice Ai ni ci) ∧ w'.cell? ⟨w.heap.size + 1, 1, none⟩ = some (.slice As ns cs))
    ((refine HCE.out _ ?_; first | (with_reducible assumption) | (refine BelW.drew ?_; with_reducible assumption)))
    (first
      | (go_at_call 36; refine Calls.mono (HIN.out _ ?_) ?_; · (first | (with_reducible assumption) | (refine BelW.drew ?_; with_reducible assumption))
         rintro e w5 ⟨A, rfl, hiw5, hbw5⟩
         have hsw5 : BelW W1 w5 := (by refine BelW.next ?_ hbw5; (first | (with_reducible assumption) | (refine BelW.drew ?_; with_reducible assumption)))
         have hvw5 := VRow.below (VRow.drew hv4) hbw5
         have hrw5 := Row.below (Row.drewS HRD4.out) hbw5)
      | (go_at_call 68; refine Calls.mono (HAS1.out _ _ _ ?_ hgl ?_ ?_) ?_; · (with_reducible assumption)
         · (with_reducible assumption)
         · (with_reducible assumption)
         rintro e w6 ⟨rfl, hvw6, hsw6, hgw6⟩
         have hrw6 := Row.kept hrw5 hgw6 (show some d ≠ some g by simp; omega)))
  clear hb4 hv4 hbw5 hsw5 hvw5 hiw5 hrw5 hgw6
  go_wp2
  go_region_held3 (fun w' => BelW W1 w' ∧ w'.cell? ⟨w.heap.size, 0, none⟩ = some (.slice A0 n c0) ∧ w'.cell? ⟨w.heap.size, 1, none⟩ = some (.slice A1 n1 c1) ∧ w'.cell? ⟨w.heap.size, 2, none⟩ = some (.slice A2 0 c2) ∧ w'.cell? ⟨w.heap.size, 3, none⟩ = some (.slice A3 n3 c3) ∧ w'.cell? ⟨w.heap.size + 1, 0, none⟩ = some (.slice Ai ni ci) ∧ w'.cell? ⟨w.heap.size + 1, 1, none⟩ = some (.slice As ns cs))
    ((refine HCE.out _ ?_; first | (with_reducible assumption) | (refine BelW.drew ?_; with_reducible assumption)))
    (first
      | (go_at_call 37; refine Calls.mono (HST.out _ ?_) ?_; · (first | (with_reducible assumption) | (refine BelW.drew ?_; with_reducible assumption))
         rintro e w7 ⟨A, rfl, hiw7, hbw7⟩
         have hsw7 : BelW W1 w7 := (by refine BelW.next ?_ hbw7; (first | (with_reducible assumption) | (refine BelW.drew ?_; with_reducible assumption)))
         have hvw7 := VRow.below (VRow.drew hvw6) hbw7
         have hrw7 := Row.below (Row.drewS hrw6) hbw7)
      | (go_at_call 68; refine Calls.mono (HAS2.out _ _ _ ?_ hgl ?_ ?_) ?_; · (with_reducible assumption)
         · (with_reducible assumption)
         · (with_reducible assumption)
         rintro e w8 ⟨rfl, hvw8, hsw8, hgw8⟩
         have hrw8 := Row.kept hrw7 hgw8 (show some d ≠ some g by simp; omega)))
  obtain ⟨-, x0, x1, x2, x3, -, -⟩ := HCE.out w8 hsw8
  have HV8 := Lib.hid hvw8
  have HS8 := Lib.hid hsw8
  have HR8 := Lib.hid hrw8
  have hg8 : g < w8.heap.size := hvw8.lt
  clear hsw6 hvw6 hrw6 hbw7 hsw7 hvw7 hiw7 hrw7 hgw8 hvw8 hsw8 hrw8
  go_wp2_with (go_at_call 69; (with_reducible refine (HSO.out _ g base HS8.out HV8.out HBL.out).mono ?_); rintro e w9 ⟨⟨q, rfl, hqz, hqc⟩, hb⟩; have HB9 := Lib.hid hb; have HQC := Lib.hid hqc; clear hb hqc)
  obtain ⟨V, HV⟩ := named (w9.alloc (.cells #[.slice A0 n c0, .slice A1 n1 c1, .slice A2 0 c2, .slice A3 n3 c3, .func (.func 110) #[] #[.pointer (some ⟨q, 0, none⟩)]] 121))
  rw [← HV.out]
  have hnew : Below w9.heap.size w9 V := by rw [HV.out]; exact below_new (Below.refl _ _) _
  have hfs : Fr V w9.heap.size 121 [.slice A0 n c0, .slice A1 n1 c1, .slice A2 0 c2, .slice A3 n3 c3, .func (.func 110) #[] #[.pointer (some ⟨q, 0, none⟩)]] := by rw [HV.out]; exact Fr.made _ _ _ rfl
  have hw9 := Below.size HB9.out
  obtain ⟨s, HSV⟩ := named w9.heap.size
  have hsz9 : g < s := by rw [HSV.out]; omega
  have hRL : RL W1 g s q d n R [.slice A0 n c0, .slice A1 n1 c1, .slice A2 0 c2, .slice A3 n3 c3, .func (.func 110) #[] #[.pointer (some ⟨q, 0, none⟩)]] base V := ⟨joinB (joinB HS8.out HB9.out) hnew, (HV8.out.below HB9.out).below hnew, by rw [HSV.out]; exact hfs, (hnew.cell (p := ⟨q, 0, none⟩) (cell_lt HQC.out)).trans HQC.out, (HR8.out.below HB9.out).below hnew, ⟨by omega, by omega, by omega⟩, hgl, HBL.out⟩
  rw [← HSV.out]
  have HRL := Lib.hid hRL
  clear hRL hfs hnew x0 x1 x2 x3
  have HRN : Hid (R.length = n) := Lib.hid (by obtain ⟨S, h1, h2, -⟩ := HSR.out; rw [h1]; simp [rng, h2])
  go_loopw [48] (fun i wr => ∃ (k : Nat) (out : List Int), k ≤ n ∧ i = .int .i64 k ∧ StI nd base (R.take k) out ∧ RL W1 g s q d n R [.slice A0 n c0, .slice A1 n1 c1, .slice A2 0 c2, .slice A3 n3 c3, .func (.func 110) #[] #[.pointer (some ⟨q, 0, none⟩)]] out wr) (fun i _ => n - (intOf i).toNat)
  case atStart => exact ⟨0, base, Nat.zero_le _, rfl, StI.start nd base (by rw [HBL.out, HN.out]), HRL.out⟩
  case round =>
    clear HRL
    obtain ⟨k, out, hk, rfl, hsti, hrl⟩ := hrel
    have HSTI := Lib.hid hsti
    have HRL := Lib.hid hrl
    clear hsti
    by_cases hlt : k < n
    · have hob := order_before HSR.out hlt
      obtain ⟨o0, o1, ob⟩ := hob
      obtain ⟨x, hx⟩ := Int.eq_ofNat_of_zero_le o0
      have HOB := Lib.hid ob
      have HX := Lib.hid hx
      have hxn : x < n := by omega
      have hxc : wr.cell? ⟨d, k, none⟩ = some (.int .i64 (x : Int)) := by rw [hrl.ord.cell (by rw [HRN.out]; exact hlt), hx]
      obtain ⟨b, o, A4, c4, rfl, hlb, e0, e1, e2, e3, his, hk0⟩ := HNDC.out wr hrl.bel x hxn
      have s0 : wr.cell? ⟨s, 0, none⟩ = some (.slice (some ⟨b, o, none⟩) n c0) := hrl.st.cell 0
      have HPI := Lib.hid (HPINS.out x hxn)
      have HIS := Lib.hid his
      clear ob o0 o1 hx his hrl
      obtain ⟨ni4, HNI⟩ := named (nd.getD x default).ins.length
      obtain ⟨kd, HKD⟩ := named (nd.getD x default).kind
      obtain ⟨md, HMD⟩ := named (nd.getD x default).mem
      obtain ⟨bd, HBD⟩ := named (nd.getD x default).bit
      have hni : ni4 ≤ 16 := by rw [HNI.out]; exact HPI.out
      rw [← HKD.out] at e0 hk0
      rw [← HNI.out] at e1
      rw [← HMD.out] at e2
      rw [← HBD.out] at e3
      obtain ⟨W2, HW2⟩ := named (wr.alloc (.cells #[.int .u8 kd, .slice A4 ni4 c4, .int .i64 md, .int .i64 bd] 65))
      have hnew : Below wr.heap.size wr W2 := by rw [HW2.out]; exact below_new (Below.refl _ _) _
      have hfv : Fr W2 wr.heap.size 65 [.int .u8 kd, .slice A4 ni4 c4, .int .i64 md, .int .i64 bd] := by rw [HW2.out]; exact Fr.made _ _ _ rfl
      have HRL2 := Lib.hid (HRL.out.next hnew)
      have hgv : g < wr.heap.size := HRL.out.row.lt
      obtain ⟨v, HVV⟩ := named wr.heap.size
      rw [← HVV.out] at hfv hgv
      have HCM := Lib.hid (fun w => comb_any kd w)
      have HSTEP := Lib.hid (HSTI.out.step HWF.out HLV.out (x := (x : Int)) (by omega) (by rw [← HN.out]; omega) (fun y hy => by
        have h := HOB.out y hy
        rw [HX.out] at h
        exact ⟨h.1, by rw [← HN.out]; exact h.2.1, h.2.2.1, h.2.2.2⟩))
      have HTK : Hid (R.take (k + 1) = R.take k ++ [(x : Int)]) := Lib.hid (by rw [take_succ_getD _ _ (by rw [HRN.out]; exact hlt)]; have := HX.out; unfold lat at this; rw [Int.toNat_natCast] at this; rw [this])
      have vc0 : W2.cell? ⟨v, 0, none⟩ = some (.int .u8 kd) := hfv.cell 0
      have vc1 : W2.cell? ⟨v, 1, none⟩ = some (.slice A4 ni4 c4) := hfv.cell 1
      clear hnew hfv
      cases hcm : cmb kd
      · have HSAME : Hid (stl nd out (x : Int) = out) := Lib.hid (by unfold stl; rw [if_neg (by rw [Int.toNat_natCast, ← HKD.out, hcm]; simp)])
        rw [hcm] at HCM
        go_upto_region 14 with (fail)
        rw [← HW2.out, ← HVV.out]
        go_wp2_with (go_at_call 70; (with_reducible refine (HCM.out _).mono ?_); rintro e w' ⟨rfl, rfl⟩)
        go_roundw
        case rel =>
          have h := HSTEP.out
          rw [HSAME.out] at h
          exact ⟨k + 1, out, by omega, by go_num, by rw [HTK.out]; exact h, HRL2.out⟩
        case measure => simp [intOf]; omega
      · obtain ⟨nv, HNV⟩ := named (evalL kd ((nd.getD x default).ins.map (valA out)))
        have HSET : Hid (stl nd out (x : Int) = out.set x nv) := Lib.hid (by
          have hg : gateV nd out (x : Int) = nv := by
            rw [HNV.out]
            unfold gateV
            rw [Int.toNat_natCast, ← HKD.out]
            congr 1
            refine List.map_congr_left fun y hy => ?_
            have hy2 := HWF.out x (by rw [← HN.out]; exact hxn) y hy
            unfold valA
            rw [if_neg (by rw [HRL.out.len, HN.out]; omega)]
          unfold stl
          rw [if_pos (by rw [Int.toNat_natCast, ← HKD.out, hcm]), Int.toNat_natCast, hg])
        rw [hcm] at HCM
        have hvx : Calls Tryz.prog 72 #[.agg #[.slice (some ⟨b, o, none⟩) n c0, .slice A1 n1 c1, .slice A2 0 c2, .slice A3 n3 c3, .func (.func 110) #[] #[.pointer (some ⟨q, 0, none⟩)]], .slice A4 ni4 c4] W2.drew fun e w' => ∃ g5, e = .returned (.slice (some ⟨g5, 0, none⟩) ni4 ni4) ∧ VRow w' g5 ((nd.getD x default).ins.map (valA out)) ∧ BelW W2.drew w' := by
          have hnew : Below wr.heap.size wr W2.drew := by rw [HW2.out]; exact (below_new (Below.refl _ _) _).drew
          have h := HVA.out W2.drew q out x HRL2.out.drew.bel HRL2.out.drew.nv hxn A4 c4 (HIS.out.below (hnew.mono (by have := (joinB HB1.out HRL.out.bel).size; omega)))
          rw [← HNI.out] at h
          refine h.mono fun e w' ⟨g5, he, hv, _, hb⟩ => ⟨g5, ?_, hv, hb⟩
          rw [he, List.length_map, ← HNI.out]
        have hex : ∀ W g5, BelW W1 W → VRow W g5 ((nd.getD x default).ins.map (valA out)) → Calls Tryz.prog 71 #[.int .u8 kd, .slice (some ⟨g5, 0, none⟩) ni4 ni4] W fun e w' => e = .returned (.int .u8 nv) ∧ BelW W w' := fun W g5 h1 h2 => by
          have h := HEV.out W g5 _ kd hk0 h1 h2
          rw [List.length_map, ← HNI.out, ← HNV.out] at h
          exact h
        have hst2 := HRL2.out.st
        have hne := HRL2.out.ne
        have hke : ∀ w', W2.grownBy w' (some g) → W2.grownBy w' (some g) ∧ w'.cell? ⟨s, 0, none⟩ = some (.slice (some ⟨b, o, none⟩) n c0) ∧ w'.cell? ⟨s, 1, none⟩ = some (.slice A1 n1 c1) ∧ w'.cell? ⟨s, 2, none⟩ = some (.slice A2 0 c2) ∧ w'.cell? ⟨s, 3, none⟩ = some (.slice A3 n3 c3) ∧ w'.cell? ⟨s, 4, none⟩ = some (.func (.func 110) #[] #[.pointer (some ⟨q, 0, none⟩)]) ∧ w'.cell? ⟨v, 0, none⟩ = some (.int .u8 kd) ∧ w'.cell? ⟨v, 1, none⟩ = some (.slice A4 ni4 c4) := fun w' hg =>
          have h1 : some s ≠ some g := by simpa using hne.1
          have h2 : some v ≠ some g := by simp; omega
          ⟨hg, hg.cell (hst2.cell 0) h1, hg.cell (hst2.cell 1) h1, hg.cell (hst2.cell 2) h1, hg.cell (hst2.cell 3) h1, hg.cell (hst2.cell 4) h1, hg.cell vc0 h2, hg.cell vc1 h2⟩
        have HKE := Lib.hid hke
        have HVX := Lib.hid hvx
        have HEX := Lib.hid hex
        have hlx : x < out.length := by rw [HRL.out.len]; exact hxn
        have HLX := Lib.hid hlx
        clear hke hvx hex hst2 hne hlx
        go_upto_region 14 with (fail)
        rw [← HW2.out, ← HVV.out]
        go_wp2_with (go_at_call 70; (with_reducible refine (HCM.out _).mono ?_); rintro e w' ⟨rfl, rfl⟩)
        have hg0 : W2.grownBy W2 (some g) := World.grownBy.refl _ _
        clear vc0 vc1 s0 e0 e1 e2 e3 hxc
        go_region_held3 (fun w' => W2.grownBy w' (some g) ∧ w'.cell? ⟨s, 0, none⟩ = some (.slice (some ⟨b, o, none⟩) n c0) ∧ w'.cell? ⟨s, 1, none⟩ = some (.slice A1 n1 c1) ∧ w'.cell? ⟨s, 2, none⟩ = some (.slice A2 0 c2) ∧ w'.cell? ⟨s, 3, none⟩ = some (.slice A3 n3 c3) ∧ w'.cell? ⟨s, 4, none⟩ = some (.func (.func 110) #[] #[.pointer (some ⟨q, 0, none⟩)]) ∧ w'.cell? ⟨v, 0, none⟩ = some (.int .u8 kd) ∧ w'.cell? ⟨v, 1, none⟩ = some (.slice A4 ni4 c4))
          ((refine HKE.out _ ?_; first | (with_reducible assumption) | (refine gdrew ?_; with_reducible assumption) | (refine grown_v ?_ _ _; with_reducible assumption)))
          (first
            | (go_at_call 72; refine Calls.mono HVX.out ?_
               rintro e wA ⟨g5, rfl, hvA, hbA⟩
               have hgA : W2.grownBy wA (some g) := gnext (gdrew hg0) hbA
               have hRA := RL.next (RL.drew HRL2.out) hbA
               have hbelA := hRA.bel)
            | (go_at_call 71; refine Calls.mono (HEX.out _ _ ?_ ?_) ?_; · (with_reducible assumption)
               · (with_reducible assumption)
               rintro e wB ⟨rfl, hbB⟩
               have hgB : W2.grownBy wB (some g) := gnext hgA hbB
               have hRB := RL.next hRA hbB
               have hcB := VRow.cell hRB.row HLX.out
               have hfB := VRow.frozen hRB.row x))
        have HRB := Lib.hid hRB
        clear hRB hcB hfB hgB hRA hbelA hgA hvA hbA hbB hg0
        go_wp2
        go_roundw
        case rel =>
          have h := HSTEP.out
          rw [HSET.out] at h
          exact ⟨k + 1, out.set x nv, by omega, by go_num, by rw [HTK.out]; exact h, HRB.out.set x nv⟩
        case measure => simp [intOf]; omega
    · obtain rfl : n = k := by omega
      have hnet : Net nd base out := HSTI.out.stop fun i hi => by
        rw [List.take_of_length_le (by rw [HRN.out]; exact Nat.le_refl _)]
        have hR := ord_eq HSR.out (fun i hi => ⟨HLV.out.nonneg (by rw [← HN.out]; exact hi), Lvl.bound HWF.out HLV.out (by rw [← HN.out]; exact hi)⟩)
        rw [hR]
        exact ordTo_mem.2 ⟨i, rfl, by rw [HN.out]; exact hi, HLV.out.nonneg hi, by have := Lvl.bound HWF.out HLV.out hi; first | exact this | (rw [HN.out]; exact this)⟩
      have HNET := Lib.hid hnet
      have hre := HRE.out wr q out hrl.bel hrl.nv
      have HREE := Lib.hid hre
      have s0 := hrl.st.cell 0
      have s1 := hrl.st.cell 1
      have s2 := hrl.st.cell 2
      have s3 := hrl.st.cell 3
      have s4 := hrl.st.cell 4
      clear hnet hre hrl
      obtain ⟨l1, HL1⟩ := named (outV c out)
      obtain ⟨l2, HL2⟩ := named (nextV c out)
      rw [← HL1.out, ← HL2.out] at HREE
      go_wp2_with (go_at_call 73; (with_reducible refine HREE.out.mono ?_); rintro e wR ⟨gA, gB, rfl, h1, h2, z1, z2, -, hb⟩; have HV1 := Lib.hid h1; have HV2 := Lib.hid h2; have HBR := Lib.hid hb; have hfx := HFR.out _ (joinB HRL.out.bel hb); have r0 := hfx.cell 0; have r1 := hfx.cell 1; have f0 := hfx.frozen 0; have f1 := hfx.frozen 1; have HFX := Lib.hid hfx; clear h1 h2 hb hfx)
      have hq := (HFX.out.set 0 (.slice (some ⟨gA, 0, none⟩) l1.length l1.length)).set 1 (.slice (some ⟨gB, 0, none⟩) l2.length l2.length)
      (try simp only [Exit.inBlock, Exit.then])
      refine bodyPost_ret (results_row_tmp2 rfl _ _ _ _ _ _ _ rfl hq Tryz.underlying49 rfl (by kernel_rfl)) rfl ?_
      have hbw := joinB HB1.out (joinB HRL.out.bel HBR.out)
      have hz := (joinB HB1.out HRL.out.bel).size
      have hw1 := (HRL.out.bel).size
      have hz1 := HZ1.out
      have n1 : w.heap.size + 1 + 1 ≠ gA := by omega
      have n2 : w.heap.size + 1 + 1 ≠ gB := by omega
      have n3 : w.heap.size + 1 + 1 ≠ g := by omega
      exact HPOST.out out _ _ _ _ _ _ _ HNET.out (by rw [HL1.out]) (by rw [HL2.out]) HRL.out.len.symm (by rw [← HL1.out]; exact (HV1.out.other (a := ⟨_, 0, none⟩) n1 _).other (a := ⟨_, 1, none⟩) n1 _) (by rw [← HL2.out]; exact (HV2.out.other (a := ⟨_, 0, none⟩) n2 _).other (a := ⟨_, 1, none⟩) n2 _)
        (((HRL.out.row.below HBR.out).other (a := ⟨_, 0, none⟩) n3 _).other (a := ⟨_, 1, none⟩) n3 _) (by omega) (by omega) (by omega) ((hbw.setCell (by show w.heap.size ≤ w.heap.size + 1 + 1; omega) _).setCell (by show w.heap.size ≤ w.heap.size + 1 + 1; omega) _)
end Go.Proofs.YtkaedfgmhfefjaaGreatDoor

namespace Go.Proofs.YtkaedfgmhfefjaaGreatDoor
open Go.RowKit
theorem takV_in {l : List Int} {most : Int} (h0 : ∀ x ∈ l, 0 ≤ x ∧ x ≤ 255) (hm : 3 ≤ most) (hm2 : most ≤ 4) (i : Nat) : 0 ≤ takV l most i ∧ takV l most i ≤ 3 := by
  unfold takV
  split
  · omega
  · rename_i hl
    have hmem := h0 (l.getD (i % l.length) 0) (by rw [List.getD_eq_getElem?_getD, List.getElem?_eq_getElem (Nat.mod_lt _ (by omega))]; exact List.getElem_mem _)
    rw [Int.tmod_eq_emod_of_nonneg hmem.1]
    have h1 := Int.emod_nonneg (l.getD (i % l.length) 0) (show most ≠ 0 by omega)
    have h2 := Int.emod_lt_of_pos (l.getD (i % l.length) 0) (show 0 < most by omega)
    omega
theorem takL_in {l : List Int} {most : Int} (h0 : ∀ x ∈ l, 0 ≤ x ∧ x ≤ 255) (hm : 3 ≤ most) (hm2 : most ≤ 4) (n : Nat) : ∀ x ∈ takL l most n, 0 ≤ x ∧ x ≤ 3 := fun x hx => by
  obtain ⟨i, -, rfl⟩ := List.mem_map.1 hx
  exact takV_in h0 hm hm2 i
theorem getD_inL {l : List Int} {i : Nat} (h : i < l.length) : l.getD i 0 ∈ l := by
  rw [List.getD_eq_getElem?_getD, List.getElem?_eq_getElem h]; exact List.getElem_mem h
structure MV (V3 : World) (q4 ni ns cI cS : Nat) (AI AS : Option Addr) (lI lS : List Int) (wr : World) : Prop where
  bel : BelW V3 wr
  box : Fr wr q4 73 [.slice AI ni cI, .slice AS ns cS]
  rI : VStk wr V3.heap.size (.slice AI ni cI) lI
  rS : VStk wr V3.heap.size (.slice AS ns cS) lS
  apart : ∀ a b, (Value.slice AI ni cI).ownBlock = some a → (Value.slice AS ns cS).ownBlock = some b → a ≠ b
  offI : ∀ a, (Value.slice AI ni cI).ownBlock = some a → a ≠ q4
  offS : ∀ a, (Value.slice AS ns cS).ownBlock = some a → a ≠ q4
  lenI : lI.length = ni
  lenS : lS.length = ns
section
variable {V3 wr w' : World} {q4 ni ns cI cS : Nat} {AI AS : Option Addr} {lI lS : List Int}
theorem VStk.other {w : World} {base : Nat} {v : Value} {l : List Int} (h : VStk w base v l) {a : Addr} (ha : v.ownBlock ≠ some a.block) (x : Value) : VStk (w.setCell a x) base v l :=
  World.ownsRow.kept h (row := some a.block) ⟨rfl, rfl, rfl, by simp [World.setCell], fun i _ hne => Below.heap_setCell _ _ _ _ (fun e => hne (by rw [e]))⟩ (.inr ha)
end
end Go.Proofs.YtkaedfgmhfefjaaGreatDoor

namespace Go.Proofs.YtkaedfgmhfefjaaGreatDoor
open Go.RowKit
structure Gx where
  kind : Int
  i0 : Int
  i1 : Int
  i2 : Int
instance gxInh : Inhabited Gx := ⟨⟨0, 0, 0, 0⟩⟩
structure Cx where
  inN : Int
  dffs : Int
  d0 : Int
  d1 : Int
  bus : Bool
  mem : Bool
  p0 : Int
  p1 : Int
  p2 : Int
  p3 : Int
  gates : List Gx
  outs : List Int
def U8 (x : Int) : Prop := 0 ≤ x ∧ x ≤ 255
def Gok (g : Gx) : Prop := U8 g.kind ∧ U8 g.i0 ∧ U8 g.i1 ∧ U8 g.i2
structure Cok (x : Cx) : Prop where
  inN : U8 x.inN
  dffs : U8 x.dffs
  d0 : U8 x.d0
  d1 : U8 x.d1
  p0 : U8 x.p0
  p1 : U8 x.p1
  p2 : U8 x.p2
  p3 : U8 x.p3
  gates : ∀ k, k < x.gates.length → Gok (x.gates.getD k default)
  outs : ∀ k, k < x.outs.length → U8 (x.outs.getD k 0)
def ix (a : Int) (n : Nat) : Int := a % (n : Int)
def kindG (bus : Bool) (k : Int) : Int := if bus = true then k % 13 else k % 9
def trisOf (nodes : List Nd) : List Int := ofTo nodes [12] nodes.length
def gateN (bus : Bool) (g : Gx) (nodes : List Nd) : Nd :=
  if kindG bus g.kind < 6 then ⟨5 + kindG bus g.kind, [ix g.i0 nodes.length, ix g.i1 nodes.length] ++ (if 128 ≤ g.kind then [ix g.i2 nodes.length] else []), 0, 0⟩
  else if kindG bus g.kind = 6 then ⟨4, [ix g.i0 nodes.length], 0, 0⟩
  else if kindG bus g.kind = 7 then ⟨11, [ix g.i0 nodes.length, ix g.i1 nodes.length, ix g.i2 nodes.length], 0, 0⟩
  else if kindG bus g.kind = 9 ∨ kindG bus g.kind = 10 then ⟨12, [ix g.i0 nodes.length, ix g.i1 nodes.length], 0, 0⟩
  else if 10 < kindG bus g.kind ∧ 0 < (trisOf nodes).length then
    ⟨13, [(trisOf nodes).getD (ix g.i0 (trisOf nodes).length).toNat 0] ++ (if 1 < (trisOf nodes).length then [(trisOf nodes).getD (ix (ix g.i0 (trisOf nodes).length + 1) (trisOf nodes).length).toNat 0] else []), 0, 0⟩
  else if 240 < g.kind then ⟨1 + g.i0 % 2, [], 0, 0⟩
  else ⟨3, [ix g.i0 nodes.length], 0, 0⟩
theorem kindG_ge (bus : Bool) (k : Int) : 0 ≤ kindG bus k ∧ kindG bus k < 13 := by
  unfold kindG; split <;> omega
theorem ix_lt (a : Int) {n : Nat} (h : 0 < n) : ∃ k : Nat, ix a n = (k : Int) ∧ k < n := by
  have h1 := Int.emod_nonneg a (show (n : Int) ≠ 0 by omega)
  have h2 := Int.emod_lt_of_pos a (show (0 : Int) < (n : Int) by omega)
  exact ⟨(ix a n).toNat, by unfold ix at *; omega, by unfold ix; omega⟩
section
variable {bus : Bool} {k i0 i1 i2 : Int} {nodes : List Nd} {n : Nat} {a b d : Int}
theorem gateN_lt (hn : n = nodes.length) (h : kindG bus k < 6) (h2 : ¬ 128 ≤ k) (ha : i0 % (n : Int) = a) (hb : i1 % (n : Int) = b) : gateN bus ⟨k, i0, i1, i2⟩ nodes = ⟨5 + kindG bus k, [a, b], 0, 0⟩ := by
  subst hn; unfold gateN ix; rw [if_pos h, if_neg h2, ha, hb]; rfl
theorem gateN_lt3 (hn : n = nodes.length) (h : kindG bus k < 6) (h2 : 128 ≤ k) (ha : i0 % (n : Int) = a) (hb : i1 % (n : Int) = b) (hd : i2 % (n : Int) = d) : gateN bus ⟨k, i0, i1, i2⟩ nodes = ⟨5 + kindG bus k, [a, b, d], 0, 0⟩ := by
  subst hn; unfold gateN ix; rw [if_pos h, if_pos h2, ha, hb, hd]; rfl
theorem gateN_not (hn : n = nodes.length) (h6 : ¬ kindG bus k < 6) (h7 : kindG bus k = 6) (ha : i0 % (n : Int) = a) : gateN bus ⟨k, i0, i1, i2⟩ nodes = ⟨4, [a], 0, 0⟩ := by
  subst hn; unfold gateN ix; rw [if_neg h6, if_pos h7, ha]
theorem gateN_mux (hn : n = nodes.length) (h6 : ¬ kindG bus k < 6) (h7 : ¬ kindG bus k = 6) (h8 : kindG bus k = 7) (ha : i0 % (n : Int) = a) (hb : i1 % (n : Int) = b) (hd : i2 % (n : Int) = d) : gateN bus ⟨k, i0, i1, i2⟩ nodes = ⟨11, [a, b, d], 0, 0⟩ := by
  subst hn; unfold gateN ix; rw [if_neg h6, if_neg h7, if_pos h8, ha, hb, hd]
theorem gateN_tri (hn : n = nodes.length) (h9 : kindG bus k = 9 ∨ kindG bus k = 10) (ha : i0 % (n : Int) = a) (hb : i1 % (n : Int) = b) : gateN bus ⟨k, i0, i1, i2⟩ nodes = ⟨12, [a, b], 0, 0⟩ := by
  subst hn; unfold gateN ix; rw [if_neg (show ¬ kindG bus k < 6 by omega), if_neg (show ¬ kindG bus k = 6 by omega), if_neg (show ¬ kindG bus k = 7 by omega), if_pos h9, ha, hb]
theorem gateN_bus1 (h10 : 10 < kindG bus k) {m : Nat} (hm : m = (trisOf nodes).length) (h0 : 0 < m) (h1 : ¬ 1 < m) {j : Nat} (hj : i0 % (m : Int) = (j : Int)) {x : Int} (hx : x = (trisOf nodes).getD j 0) : gateN bus ⟨k, i0, i1, i2⟩ nodes = ⟨13, [x], 0, 0⟩ := by
  subst hm; unfold gateN ix; rw [if_neg (show ¬ kindG bus k < 6 by omega), if_neg (show ¬ kindG bus k = 6 by omega), if_neg (show ¬ kindG bus k = 7 by omega), if_neg (show ¬ (kindG bus k = 9 ∨ kindG bus k = 10) by omega), if_pos ⟨h10, h0⟩, if_neg h1, hj, hx]; rfl
theorem gateN_bus2 (h10 : 10 < kindG bus k) {m : Nat} (hm : m = (trisOf nodes).length) (h1 : 1 < m) {j j' : Nat} (hj : i0 % (m : Int) = (j : Int)) (hj' : ((j : Int) + 1) % (m : Int) = (j' : Int)) {x y : Int} (hx : x = (trisOf nodes).getD j 0) (hy : y = (trisOf nodes).getD j' 0) : gateN bus ⟨k, i0, i1, i2⟩ nodes = ⟨13, [x, y], 0, 0⟩ := by
  subst hm; unfold gateN ix; rw [if_neg (show ¬ kindG bus k < 6 by omega), if_neg (show ¬ kindG bus k = 6 by omega), if_neg (show ¬ kindG bus k = 7 by omega), if_neg (show ¬ (kindG bus k = 9 ∨ kindG bus k = 10) by omega), if_pos ⟨h10, by omega⟩, if_pos h1, hj, hj', hx, hy]; rfl
theorem gateN_const (h6 : ¬ kindG bus k < 6) (h7 : ¬ kindG bus k = 6) (h8 : ¬ kindG bus k = 7) (h9 : ¬ kindG bus k = 9) (h9' : ¬ kindG bus k = 10) (h10 : ¬ (10 < kindG bus k ∧ 0 < (trisOf nodes).length)) (h : 240 < k) : gateN bus ⟨k, i0, i1, i2⟩ nodes = ⟨1 + i0 % 2, [], 0, 0⟩ := by
  unfold gateN; rw [if_neg h6, if_neg h7, if_neg h8, if_neg (show ¬ (kindG bus k = 9 ∨ kindG bus k = 10) by omega), if_neg h10, if_pos h]
theorem gateN_buf (hn : n = nodes.length) (h6 : ¬ kindG bus k < 6) (h7 : ¬ kindG bus k = 6) (h8 : ¬ kindG bus k = 7) (h9 : ¬ kindG bus k = 9) (h9' : ¬ kindG bus k = 10) (h10 : ¬ (10 < kindG bus k ∧ 0 < (trisOf nodes).length)) (h : ¬ 240 < k) (ha : i0 % (n : Int) = a) : gateN bus ⟨k, i0, i1, i2⟩ nodes = ⟨3, [a], 0, 0⟩ := by
  subst hn; unfold gateN ix; rw [if_neg h6, if_neg h7, if_neg h8, if_neg (show ¬ (kindG bus k = 9 ∨ kindG bus k = 10) by omega), if_neg h10, if_neg h, ha]
end
def inputN : Nd := ⟨0, [], 0, 0⟩
def dffN (x : Int) : Nd := ⟨14, [x], 0, 0⟩
def firstN (x : Cx) : Nat := (x.inN % 4).toNat + 1
def dffsN (x : Cx) : Nat := (x.dffs % 3).toNat
def baseN (x : Cx) : List Nd := List.replicate (firstN x) inputN ++ List.replicate (dffsN x) (dffN 0) ++ (if x.mem = true then [⟨15, [], 0, 0⟩, ⟨15, [], 0, 1⟩] else [])
def gatesTo (x : Cx) : Nat → List Nd
  | 0 => baseN x
  | k + 1 => gatesTo x k ++ [gateN x.bus (x.gates.getD k default) (gatesTo x k)]
def gatesN (x : Cx) : Nat := min x.gates.length 8
def dataN (x : Cx) (i : Nat) : Int := if i = 0 then x.d0 else x.d1
def dffTo (x : Cx) : Nat → List Nd
  | 0 => gatesTo x (gatesN x)
  | k + 1 => (dffTo x k).set (firstN x + k) (dffN (ix (dataN x k) (gatesTo x (gatesN x)).length))
def nodesN (x : Cx) : List Nd := dffTo x (dffsN x)
def sizeN (x : Cx) : Nat := (gatesTo x (gatesN x)).length
def memsN (x : Cx) : List Mm := if x.mem = true then [⟨[ix x.p0 (sizeN x)], [ix x.p1 (sizeN x), ix x.p2 (sizeN x)], ix x.p3 (sizeN x)⟩] else []
def digB (x : Nat) : UInt8 := UInt8.ofNat (48 + x)
def nameB (i : Nat) : ByteArray := ⟨#[110, digB (i / 10), digB (i % 10)]⟩
def outsN (x : Cx) : Nat := min x.outs.length 3
def outsTo (x : Cx) (k : Nat) : List Int := (List.range k).map fun i => ix (x.outs.getD i 0) (sizeN x)
def ofC (x : Cx) : Ck := ⟨nodesN x, (List.range (sizeN x)).map nameB, memsN x, outsTo x (outsN x) ++ [(sizeN x : Int) - 1]⟩
theorem gatesTo_len (x : Cx) : ∀ k, (gatesTo x k).length = (baseN x).length + k
  | 0 => rfl
  | k + 1 => by rw [gatesTo, List.length_append, gatesTo_len x k]; simp; omega
theorem baseN_len (x : Cx) : (baseN x).length = firstN x + dffsN x + (if x.mem = true then 2 else 0) := by
  unfold baseN
  rw [List.length_append, List.length_append, List.length_replicate, List.length_replicate]
  split <;> simp
theorem dffTo_len (x : Cx) : ∀ k, (dffTo x k).length = sizeN x
  | 0 => rfl
  | k + 1 => by rw [dffTo, List.length_set, dffTo_len x k]
theorem firstN_le (x : Cx) : 1 ≤ firstN x ∧ firstN x ≤ 4 := by unfold firstN; omega
theorem dffsN_le (x : Cx) : dffsN x ≤ 2 := by unfold dffsN; omega
theorem gatesN_le (x : Cx) : gatesN x ≤ 8 := by unfold gatesN; omega
theorem sizeN_le (x : Cx) : 1 ≤ sizeN x ∧ sizeN x ≤ 16 ∧ firstN x + dffsN x ≤ sizeN x := by
  have h1 := firstN_le x
  have h2 := dffsN_le x
  have h3 := gatesN_le x
  unfold sizeN
  rw [gatesTo_len, baseN_len]
  split <;> omega
theorem ofC_len (x : Cx) : (ofC x).nodes.length = sizeN x := dffTo_len x _
end Go.Proofs.YtkaedfgmhfefjaaGreatDoor

namespace Go.Proofs.YtkaedfgmhfefjaaGreatDoor
open Go.RowKit
def LnAt (w : World) (_B b p : Nat) (x : Int × Int) : Prop := w.cell? ⟨b, p, none⟩ = some (.int .i64 x.1) ∧ w.cell? ⟨b, p + 1, none⟩ = some (.int .i64 x.2)
def Lns (w : World) (B : Nat) (v : Value) (l : List (Int × Int)) : Prop := Arr (0, 0) 2 LnAt w B v l
def LnsAt (w : World) (B b p : Nat) (l : List (Int × Int)) : Prop := ∃ A, w.cell? ⟨b, p, none⟩ = some (.slice A l.length l.length) ∧ Lns w B (.slice A l.length l.length) l
def Fos (w : World) (B : Nat) (v : Value) (l : List (List (Int × Int))) : Prop := Arr [] 1 LnsAt w B v l
end Go.Proofs.YtkaedfgmhfefjaaGreatDoor

namespace Go.Proofs.YtkaedfgmhfefjaaGreatDoor
open Go.RowKit
theorem own_form {w : World} {base : Nat} {e : TypeId} {size : Nat} {v : Value} {n : Nat} {xs : List Value} (h : w.ownsRow base e size v n xs) : ∃ A c, v = .slice A n c := by
  rcases h.2 with ⟨rfl, hn⟩ | ⟨g, cap, cur, rfl, -⟩
  · exact ⟨none, 0, by rw [hn]⟩
  · exact ⟨_, cap, rfl⟩
end Go.Proofs.YtkaedfgmhfefjaaGreatDoor
