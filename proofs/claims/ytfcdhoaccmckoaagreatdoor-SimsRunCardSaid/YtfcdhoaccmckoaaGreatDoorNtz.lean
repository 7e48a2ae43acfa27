/- The reference's Nets. -/
import Derived.Test.YtfcdhoaccmckoaaGreatDoorOfp
import Derived.Test.YtfcdhoaccmckoaaGreatDoorNts
import Derived.StillTailTactics
namespace Go.Proofs.YtfcdhoaccmckoaaGreatDoor

theorem gateN_pins (bus : Bool) (g : Gx) (nodes : List Nd) : (gateN bus g nodes).ins.length ≤ 3 := by
  unfold gateN
  repeat' split
  all_goals simp
def P3 (l : List Nd) : Prop := ∀ y ∈ l, y.ins.length ≤ 3
theorem P3.app {a b : List Nd} (h : P3 a) (h' : P3 b) : P3 (a ++ b) := fun y hy => by
  rcases List.mem_append.1 hy with e | e
  · exact h y e
  · exact h' y e
theorem P3.set {a : List Nd} (h : P3 a) (k : Nat) {z : Nd} (hz : z.ins.length ≤ 3) : P3 (a.set k z) := fun y hy => by
  rcases List.mem_or_eq_of_mem_set hy with e | e
  · exact h y e
  · rw [e]; exact hz
theorem baseN_pins (x : Cx) : P3 (baseN x) := by
  unfold baseN
  refine P3.app (P3.app ?_ ?_) ?_
  · intro y hy
    obtain ⟨-, rfl⟩ := List.mem_replicate.1 hy
    decide
  · intro y hy
    obtain ⟨-, rfl⟩ := List.mem_replicate.1 hy
    decide
  · split
    · intro y hy
      simp at hy
      rcases hy with rfl | rfl <;> decide
    · intro y hy; cases hy
theorem gatesTo_pins (x : Cx) : ∀ k, P3 (gatesTo x k)
  | 0 => baseN_pins x
  | k + 1 => P3.app (gatesTo_pins x k) fun y hy => by
      rw [List.mem_singleton.1 hy]
      exact gateN_pins _ _ _
theorem dffTo_pins (x : Cx) : ∀ k, P3 (dffTo x k)
  | 0 => gatesTo_pins x _
  | k + 1 => (dffTo_pins x k).set _ (by show 1 ≤ 3; decide)
theorem ofC_pins (x : Cx) {k : Nat} (hk : k < (ofC x).nodes.length) : ((ofC x).nodes.getD k default).ins.length ≤ 3 := by
  rw [List.getD_eq_getElem?_getD, List.getElem?_eq_getElem hk]
  exact dffTo_pins x _ _ (List.getElem_mem hk)
end Go.Proofs.YtfcdhoaccmckoaaGreatDoor

namespace Go.Proofs.YtfcdhoaccmckoaaGreatDoor
open Go.RowKit

/-- The own row at g while the values are laid. -/
structure Lay (W0 : World) (g : Nat) (out : List Int) (wr : World) : Prop where
  gr : W0.grownBy wr (some g)
  row : VRow wr g out
theorem Lay.next {W0 wr w1 : World} {g : Nat} {out : List Int} (h : Lay W0 g out wr) (hb : Below wr.heap.size wr w1) : Lay W0 g out w1 := ⟨gnext h.gr hb, h.row.below hb⟩
theorem Lay.set {W0 wr : World} {g : Nat} {out : List Int} (h : Lay W0 g out wr) (j : Nat) (x : Int) : Lay W0 g (out.set j x) (wr.setCell ⟨g, j, none⟩ (.int .u8 x)) := ⟨grown_v h.gr j _, h.row.set j x⟩
theorem baseV_in {n : Nat} {ins sts pin pst : List Int} (hp : ∀ y ∈ pin, 0 ≤ y ∧ y ≤ 3) (hs : ∀ y ∈ pst, 0 ≤ y ∧ y ≤ 3) : ∀ y ∈ baseV n ins sts pin pst, 0 ≤ y ∧ y ≤ 3 := by
  have hset : ∀ (vs : List Int) (l : List (Int × Int)) (out : List Int), (∀ p ∈ l, p.2 ∈ vs) → (∀ y ∈ vs, 0 ≤ y ∧ y ≤ 3) → (∀ y ∈ out, 0 ≤ y ∧ y ≤ 3) → ∀ y ∈ l.foldl (fun o p => o.set p.1.toNat p.2) out, 0 ≤ y ∧ y ≤ 3 := by
    intro vs l
    induction l with
    | nil => exact fun out _ _ h => h
    | cons p l ih =>
      intro out h1 h2 h3
      refine ih _ (fun q hq => h1 q (List.mem_cons_of_mem _ hq)) h2 ?_
      intro y hy
      rcases List.mem_or_eq_of_mem_set hy with h | h
      · exact h3 y h
      · rw [h]; exact h2 _ (h1 p List.mem_cons_self)
  have hz : ∀ y ∈ List.replicate n (0 : Int), 0 ≤ y ∧ y ≤ 3 := fun y hy => by
    obtain ⟨-, rfl⟩ := List.mem_replicate.1 hy
    exact ⟨by decide, by decide⟩
  have hm : ∀ (l vs : List Int), ∀ p ∈ l.zip vs, p.2 ∈ vs := fun l vs p h => (List.of_mem_zip h).2
  intro y hy
  unfold baseV asg at hy
  exact hset pst _ _ (hm sts pst) hs (hset pin _ _ (hm ins pin) hp hz) y hy

set_option maxRecDepth 100000 in
set_option maxHeartbeats 8000000 in
theorem nets_any (c : Ck) (L pin pst : List Int) (A0 A1 A2 A3 Ai As : Option Addr) (c0 c1 c2 c3 ci cs : Nat) (w : World) (B : Nat) (hB : B ≤ w.heap.size) (hc : Cir w B (.agg #[.slice A0 c.nodes.length c0, .slice A1 c.names.length c1, .slice A2 c.mems.length c2, .slice A3 c.outs.length c3]) c)
    (hw : Wf c.nodes) (hL : Lvl c.nodes L) (hsz : c.nodes.length ≤ 1000000) (hp7 : ∀ k, k < c.nodes.length → (c.nodes.getD k default).ins.length ≤ 7) (hpos : 0 < c.nodes.length)
    (hi : Ks w B (.slice Ai pin.length ci) pin) (hs : Ks w B (.slice As pst.length cs) pst) (li : pin.length = (ofTo c.nodes [0] c.nodes.length).length) (ls : pst.length = (ofTo c.nodes [14] c.nodes.length).length) (vi : ∀ y ∈ pin, 0 ≤ y ∧ y ≤ 3) (vs : ∀ y ∈ pst, 0 ≤ y ∧ y ≤ 3) :
    Calls Tryz.prog 7 #[.agg #[.slice A0 c.nodes.length c0, .slice A1 c.names.length c1, .slice A2 c.mems.length c2, .slice A3 c.outs.length c3], .agg #[.slice Ai pin.length ci, .slice As pst.length cs]] w fun e w' => (∃ g d out, e = .returned (.slice (some ⟨g, 0, none⟩) c.nodes.length d) ∧ Net c.nodes (baseV c.nodes.length (ofTo c.nodes [0] c.nodes.length) (ofTo c.nodes [14] c.nodes.length) pin pst) out ∧ VStk w' w.heap.size (.slice (some ⟨g, 0, none⟩) c.nodes.length d) out) ∧ Below w.heap.size w w' := by
  obtain ⟨W1, HW1⟩ := named ((w.alloc (.cells #[.slice A0 c.nodes.length c0, .slice A1 c.names.length c1, .slice A2 c.mems.length c2, .slice A3 c.outs.length c3] 35)).alloc (.cells #[.slice Ai pin.length ci, .slice As pst.length cs] 39))
  have hb1 : Below w.heap.size w W1 := by rw [HW1.out]; exact below_new (below_new (Below.refl _ _) _) _
  have hfc : Fr W1 w.heap.size 35 [.slice A0 c.nodes.length c0, .slice A1 c.names.length c1, .slice A2 c.mems.length c2, .slice A3 c.outs.length c3] := by rw [HW1.out]; exact Fr.alloc (Fr.made _ _ _ rfl) _
  have hfp : Fr W1 (w.heap.size + 1) 39 [.slice Ai pin.length ci, .slice As pst.length cs] := by rw [HW1.out]; exact Fr.made _ _ _ (by simp)
  have hz1 : W1.heap.size = w.heap.size + 1 + 1 := by rw [HW1.out]; simp
  have hKW : ∀ {W : World}, Below W1.heap.size W1 W → (∀ p : Addr, p.block < B → W.cell? p = w.cell? p) := fun {W} h p hp => (joinB hb1 h).cell (by omega)
  have hOF : ∀ kd W, Below B W1 W → W1.heap.size ≤ W.heap.size → Calls Tryz.prog 27 #[.agg #[.slice A0 c.nodes.length c0, .slice A1 c.names.length c1, .slice A2 c.mems.length c2, .slice A3 c.outs.length c3], .int .u8 kd] W fun e w' => ∃ A d, e = .returned (.slice A (ofTo c.nodes [kd] c.nodes.length).length d) ∧ Is w' w'.heap.size (.slice A (ofTo c.nodes [kd] c.nodes.length).length d) (ofTo c.nodes [kd] c.nodes.length) ∧ BelW W w' := fun kd W h hz =>
    (refOf_any c kd _ W B (by omega) ((hc.below (hb1.mono hB)).below h) hsz).mono fun e w' ⟨⟨s, h1, h2⟩, h3⟩ => by
      obtain ⟨A, _, _, d, e2, -⟩ := id h2.opens
      subst e2
      exact ⟨A, d, h1, h2, h3⟩
  have hST : ∀ W g base, Below B W1 W → W1.heap.size ≤ W.heap.size → VRow W g base → base.length = c.nodes.length → (∀ y ∈ base, 0 ≤ y ∧ y ≤ 3) → Calls Tryz.prog 28 #[.agg #[.slice A0 c.nodes.length c0, .slice A1 c.names.length c1, .slice A2 c.mems.length c2, .slice A3 c.outs.length c3], .slice (some ⟨g, 0, none⟩) c.nodes.length c.nodes.length] W fun e w' => (∃ g d out, e = .returned (.slice (some ⟨g, 0, none⟩) c.nodes.length d) ∧ Net c.nodes base out ∧ VStk w' W.heap.size (.slice (some ⟨g, 0, none⟩) c.nodes.length d) out) ∧ BelW W w' := fun W g base h hz hr hl hv =>
    settle_any c L base A0 A1 A2 A3 _ c0 c1 c2 c3 _ _ W W.heap.size (Nat.le_refl _) (((hc.below (hb1.mono hB)).below h).more (by omega)) hw hL hsz hp7 (by have := hr.ks; rw [hl] at this; exact this) hl hv hpos
  obtain ⟨Ai', bi, oi, ci', e, hAi, -, hmi, hci⟩ := hi.opens
  simp only [Value.slice.injEq, true_and] at e
  obtain ⟨rfl, rfl⟩ := e
  obtain ⟨As', bs, os, cs', e, hAs, -, hms, hcs⟩ := hs.opens
  simp only [Value.slice.injEq, true_and] at e
  obtain ⟨rfl, rfl⟩ := e
  have hCI : ∀ W, Below B W1 W → ∀ k, k < pin.length → bi < B ∧ W.cell? ⟨bi, oi + k, none⟩ = some (.int .u8 (pin.getD k 0)) := fun W h k hk => ⟨(hci k hk).1, (h.cell (p := ⟨bi, oi + k, none⟩) (hci k hk).1).trans (((hb1.mono hB).cell (p := ⟨bi, oi + k, none⟩) (hci k hk).1).trans (hci k hk).2)⟩
  have hCS : ∀ W, Below B W1 W → ∀ k, k < pst.length → bs < B ∧ W.cell? ⟨bs, os + k, none⟩ = some (.int .u8 (pst.getD k 0)) := fun W h k hk => ⟨(hcs k hk).1, (h.cell (p := ⟨bs, os + k, none⟩) (hcs k hk).1).trans (((hb1.mono hB).cell (p := ⟨bs, os + k, none⟩) (hcs k hk).1).trans (hcs k hk).2)⟩
  have HIN : Hid (∀ x ∈ ofTo c.nodes [0] c.nodes.length, 0 ≤ x ∧ x < (c.nodes.length : Int)) := Lib.hid fun x hx => ofTo_in hx
  have HIS : Hid (∀ x ∈ ofTo c.nodes [14] c.nodes.length, 0 ≤ x ∧ x < (c.nodes.length : Int)) := Lib.hid fun x hx => ofTo_in hx
  have HBV := Lib.hid (baseV_in (n := c.nodes.length) (ins := ofTo c.nodes [0] c.nodes.length) (sts := ofTo c.nodes [14] c.nodes.length) vi vs)
  have HBX : Hid (asgTo (asgTo (List.replicate c.nodes.length 0) (ofTo c.nodes [0] c.nodes.length) pin pin.length) (ofTo c.nodes [14] c.nodes.length) pst pst.length = baseV c.nodes.length (ofTo c.nodes [0] c.nodes.length) (ofTo c.nodes [14] c.nodes.length) pin pst) := Lib.hid (by
    rw [li, asgTo_all li.symm, ls, asgTo_all ls.symm]; rfl)
  have HBL := Lib.hid (baseV_len (n := c.nodes.length) (ins := ofTo c.nodes [0] c.nodes.length) (sts := ofTo c.nodes [14] c.nodes.length) (pin := pin) (pst := pst))
  have HB1 := Lib.hid hb1
  have hOI := hOF 0
  have hOS := hOF 14
  have hli2 : pin.length ≤ c.nodes.length := by rw [li]; exact ofTo_len _ _ _
  have hls2 : pst.length ≤ c.nodes.length := by rw [ls]; exact ofTo_len _ _ _
  rw [← li] at hOI
  rw [← ls] at hOS
  clear hc hw hL hp7 hi hs hOF hb1 hKW hci hcs vi vs hmi hms
  obtain ⟨ins, HINS⟩ := named (ofTo c.nodes [0] c.nodes.length)
  obtain ⟨sts, HSTS⟩ := named (ofTo c.nodes [14] c.nodes.length)
  rw [← HINS.out] at hOI HIN HBV HBX HBL li
  rw [← HSTS.out] at hOS HIS HBV HBX HBL ls
  rw [← HINS.out, ← HSTS.out]
  obtain ⟨base, HBASE⟩ := named (baseV c.nodes.length ins sts pin pst)
  rw [← HBASE.out] at HBV HBX HBL
  rw [← HBASE.out]
  obtain ⟨nd, HND⟩ := named c.nodes
  rw [← HND.out] at HW1 hfc hOI hOS hST HIN HIS HBX HBL hsz hpos hli2 hls2
  rw [← HND.out]
  obtain ⟨n, HN⟩ := named nd.length
  rw [← HN.out] at HW1 hfc hOI hOS hST HIN HIS HBX HBL hsz hpos hli2 hls2
  rw [← HN.out]
  clear HND HN HINS HSTS HBASE
  generalize c.names.length = n1 at HW1 hfc hOI hOS hST ⊢
  generalize c.mems.length = n2 at HW1 hfc hOI hOS hST ⊢
  generalize c.outs.length = n3 at HW1 hfc hOI hOS hST ⊢
  obtain ⟨ni, HNI⟩ := named pin.length
  rw [← HNI.out] at HW1 hfp hOI hCI hAi HBX li hli2
  rw [← HNI.out]
  obtain ⟨ns, HNS⟩ := named pst.length
  rw [← HNS.out] at HW1 hfp hOS hCS hAs HBX ls hls2
  rw [← HNS.out]
  have HLI := Lib.hid li
  have HLS := Lib.hid ls
  have HNI2 := HNI
  have HNS2 := HNS
  clear li ls HNI HNS
  have HCE : Hid (∀ g, W1.heap.size ≤ g → ∀ W, W1.grownBy W (some g) → W.cell? ⟨w.heap.size, 0, none⟩ = some (.slice A0 n c0) ∧ W.cell? ⟨w.heap.size, 1, none⟩ = some (.slice A1 n1 c1) ∧ W.cell? ⟨w.heap.size, 2, none⟩ = some (.slice A2 n2 c2) ∧ W.cell? ⟨w.heap.size, 3, none⟩ = some (.slice A3 n3 c3) ∧ W.cell? ⟨w.heap.size + 1, 0, none⟩ = some (.slice Ai ni ci) ∧ W.cell? ⟨w.heap.size + 1, 1, none⟩ = some (.slice As ns cs)) := Lib.hid fun g hg W h => by
    have q1 : some w.heap.size ≠ some g := by simp; omega
    have q2 : some (w.heap.size + 1) ≠ some g := by simp; omega
    exact ⟨h.cell (hfc.cell 0) q1, h.cell (hfc.cell 1) q1, h.cell (hfc.cell 2) q1, h.cell (hfc.cell 3) q1, h.cell (hfp.cell 0) q2, h.cell (hfp.cell 1) q2⟩
  have HGB : Hid (∀ g, W1.heap.size ≤ g → ∀ W, W1.grownBy W (some g) → Below B W1 W ∧ W1.heap.size ≤ W.heap.size ∧ Below w.heap.size w W) := Lib.hid fun g hg W h => ⟨(Below.refl _ _).grown h (by omega) (fun q e => by injection e with e; omega), h.size, HB1.out.grown h (by omega) (fun q e => by injection e with e; omega)⟩
  have HOI := Lib.hid hOI
  have HOS := Lib.hid hOS
  have HST := Lib.hid hST
  have HCI := Lib.hid hCI
  have HCS := Lib.hid hCS
  have HAI := Lib.hid hAi
  have HAS := Lib.hid hAs
  have hz2 : w.heap.size + 1 < W1.heap.size := by omega
  clear hfc hfp hOI hOS hST hCI hCS hAi hAs hz1
  obtain ⟨i0, hi0, hz0, hz1, hz2'⟩ := info_parts info_val
  have HI := Lib.hid (And.intro hi0 (And.intro hz0 (And.intro hz1 hz2')))
  clear hi0 hz0 hz1 hz2'
  go_enter Tryz.func7, Tryz.ntmps7
  go_upto_region 1 with (fail)
  rw [← HW1.out]
  obtain ⟨x0, x1, x2, x3, y0, y1⟩ := HCE.out W1.heap.size (Nat.le_refl _) W1 (World.grownBy.refl _ _)
  go_upto_region 2 with (at_make; refine wpList_make_full _ rfl _ _ 37 rfl W1.heap.size 74 i0 (.int .u8 0) 1 Tryz.underlying37 HI.out.1 HI.out.2.1 HI.out.2.2.1 .i64 .i64 _ _ n rfl rfl rfl rfl ?b2 ?b3 ?b4 ?_)
  case b2 => rw [HI.out.2.2.2]; omega
  case b3 => unfold maxLen; omega
  case b4 => exact Nat.le_refl _
  intro w2 hown hgr
  rw [made_vals] at hown
  have hv2 : VRow w2 W1.heap.size (List.replicate n 0) := VRow.of hown (by simp)
  obtain ⟨g, HG⟩ := named W1.heap.size
  have hg2 : W1.grownBy w2 (some g) := by
    have hb : Below W1.heap.size W1 w2 := (Below.refl _ _).grown hgr (Nat.le_refl _) (fun k h => by cases h)
    exact gnext (World.grownBy.refl _ _) hb
  rw [← HG.out] at hv2
  rw [← HG.out]
  have hgW : W1.heap.size ≤ g := by rw [HG.out]; exact Nat.le_refl _
  have HL2 : Hid (Lay W1 g (List.replicate n 0) w2) := Lib.hid ⟨hg2, hv2⟩
  clear hown hgr hv2 x0 x1 x2 x3 y0 y1
  obtain ⟨x0, x1, x2, x3, y0, y1⟩ := HCE.out g hgW w2 hg2
  obtain ⟨k1, k2, -⟩ := HGB.out g hgW w2 hg2
  go_upto_region 3 with (go_at_call 27; (with_reducible refine (HOI.out _ k1 k2).mono ?_); rintro e w3 ⟨AL, dL, rfl, his, hb⟩; have HIL := Lib.hid his; have hl3 := HL2.out.next hb; have HL3 := Lib.hid hl3; clear his hb hl3 x0 x1 x2 x3 y0 y1 k1 k2)
  obtain ⟨AL', bL, oL, dL', eL, hAL, -, -, hcL⟩ := HIL.out.opens
  rw [← HLI.out] at eL hAL hcL
  simp only [Value.slice.injEq, true_and] at eL
  obtain ⟨rfl, rfl⟩ := eL
  have hl3 := HL3.out
  have hbg : ∀ k, k < ni → bL ≠ g := fun k hk e => by
    subst e
    exact hl3.row.not_int (hcL k hk).2
  have HBG := Lib.hid hbg
  have HAL := Lib.hid hAL
  have HCL := Lib.hid hcL
  have h30 : Lay w3 g (asgTo (List.replicate n 0) ins pin 0) w3 := ⟨World.grownBy.refl _ _, by have := hl3.row; simpa [asgTo] using this⟩
  have H30 := Lib.hid h30
  have HG3 := Lib.hid hl3.gr
  clear hAL hcL hbg hl3 h30
  go_wp2
  go_loopw [7] (fun i wr => ∃ k : Nat, k ≤ ni ∧ i = .int .i64 k ∧ Lay w3 g (asgTo (List.replicate n 0) ins pin k) wr) (fun i _ => ni - (intOf i).toNat)
  case atStart => exact ⟨0, Nat.zero_le _, rfl, H30.out⟩
  case round =>
    obtain ⟨k, hk, rfl, hlay⟩ := hrel
    have HLK := Lib.hid hlay
    have hgr1 : W1.grownBy wr (some g) := HG3.out.trans hlay.gr
    have HG1 := Lib.hid hgr1
    obtain ⟨x0, x1, x2, x3, y0, y1⟩ := HCE.out g hgW wr hgr1
    obtain ⟨k1, k2, k3⟩ := HGB.out g hgW wr hgr1
    by_cases hlt : k < ni
    · obtain rfl := HAL.out (by omega)
      obtain rfl := HAI.out (by omega)
      have f1 := hlay.gr.cell (HCL.out k hlt).2 (by simpa using HBG.out k hlt)
      obtain ⟨hbi, f2⟩ := HCI.out wr k1 k hlt
      have hx := HIN.out (ins.getD k 0) (getD_inL (by rw [← HLI.out]; exact hlt))
      have hsu : asgTo (List.replicate n 0) ins pin (k + 1) = (asgTo (List.replicate n 0) ins pin k).set (ins.getD k 0).toNat (lat pin k) := asgTo_succ (by rw [← HLI.out]; exact hlt) (by rw [← HNI2.out]; exact hlt)
      obtain ⟨x, hx0⟩ := Int.eq_ofNat_of_zero_le hx.1
      have hlatp : lat pin (k : Int) = pin.getD k 0 := by unfold lat; rw [Int.toNat_natCast]
      rw [hlatp, hx0, Int.toNat_natCast] at hsu
      rw [hx0] at hx f1
      have hal : (asgTo (List.replicate n 0) ins pin k).length = n := by rw [asgTo_len]; simp
      have f3 := hlay.row.cell (j := x) (by rw [hal]; omega)
      have f4 := hlay.row.frozen x
      obtain ⟨z0, HZ0⟩ := named (lat (asgTo (List.replicate n 0) ins pin k) (x : Int))
      rw [← HZ0.out] at f3
      obtain ⟨u, HU⟩ := named (pin.getD k 0)
      rw [← HU.out] at f2 hsu
      have HSU := Lib.hid hsu
      have hq1 : bL ≠ g := HBG.out k hlt
      have hq2 : bi ≠ g := by omega
      have hq3 : w.heap.size + 1 ≠ g := by omega
      have hxn : x < n := by omega
      clear hlay hgr1 hsu hal hlatp x0 x1 x2 x3 k1 k2 k3 hx hx0
      go_wp2
      go_still_tail 11, (by kernel_rfl)
      go_wp2
      have HNX := Lib.hid (HLK.out.set x u)
      go_roundw
      case rel =>
        refine ⟨k + 1, by omega, by go_num, ?_⟩
        rw [HSU.out]
        exact HNX.out.next (Below.drew (Below.refl _ _))
      case measure => simp [intOf]; omega
    · obtain rfl : ni = k := by omega
      obtain ⟨outA, HOA⟩ := named (asgTo (List.replicate n 0) ins pin ni)
      rw [← HOA.out] at HLK HBX hlay
      have hoal : outA.length = n := by rw [HOA.out, asgTo_len]; simp
      have HOAL := Lib.hid hoal
      clear hlay hoal
      go_upto_region 8 with (go_at_call 27; (with_reducible refine (HOS.out _ k1 k2).mono ?_); rintro e w4 ⟨AM, dM, rfl, his, hb⟩; have HIM := Lib.hid his; have hl4 := HLK.out.next hb; have HL4 := Lib.hid hl4; clear his hb hl4 x0 x1 x2 x3 y0 y1 k1 k2 k3)
      obtain ⟨AM', bM, oM, dM', eM, hAM, -, -, hcM⟩ := HIM.out.opens
      rw [← HLS.out] at eM hAM hcM
      simp only [Value.slice.injEq, true_and] at eM
      obtain ⟨rfl, rfl⟩ := eM
      have hl4 := HL4.out
      have hbg : ∀ k, k < ns → bM ≠ g := fun k hk e => by
        subst e
        exact hl4.row.not_int (hcM k hk).2
      have HBG2 := Lib.hid hbg
      have HAM := Lib.hid hAM
      have HCM := Lib.hid hcM
      have h40 : Lay w4 g (asgTo outA sts pst 0) w4 := ⟨World.grownBy.refl _ _, by have := hl4.row; simpa [asgTo] using this⟩
      have H40 := Lib.hid h40
      have HG4 := Lib.hid (HG3.out.trans hl4.gr)
      clear hAM hcM hbg hl4 h40 hgr1
      go_wp2
      go_loopw [8] (fun i wr => ∃ k : Nat, k ≤ ns ∧ i = .int .i64 k ∧ Lay w4 g (asgTo outA sts pst k) wr) (fun i _ => ns - (intOf i).toNat)
      case atStart => exact ⟨0, Nat.zero_le _, rfl, H40.out⟩
      case round =>
        obtain ⟨k, hk, rfl, hlay⟩ := hrel
        have HLK := Lib.hid hlay
        have hgr1 : W1.grownBy wr (some g) := HG4.out.trans hlay.gr
        obtain ⟨x0, x1, x2, x3, y0, y1⟩ := HCE.out g hgW wr hgr1
        obtain ⟨k1, k2, k3⟩ := HGB.out g hgW wr hgr1
        by_cases hlt : k < ns
        · obtain rfl := HAM.out (by omega)
          obtain rfl := HAS.out (by omega)
          have f1 := hlay.gr.cell (HCM.out k hlt).2 (by simpa using HBG2.out k hlt)
          obtain ⟨hbi, f2⟩ := HCS.out wr k1 k hlt
          have hx := HIS.out (sts.getD k 0) (getD_inL (by rw [← HLS.out]; exact hlt))
          have hsu : asgTo outA sts pst (k + 1) = (asgTo outA sts pst k).set (sts.getD k 0).toNat (lat pst k) := asgTo_succ (by rw [← HLS.out]; exact hlt) (by rw [← HNS2.out]; exact hlt)
          obtain ⟨x, hx0⟩ := Int.eq_ofNat_of_zero_le hx.1
          have hlatp : lat pst (k : Int) = pst.getD k 0 := by unfold lat; rw [Int.toNat_natCast]
          rw [hlatp, hx0, Int.toNat_natCast] at hsu
          rw [hx0] at hx f1
          have hal : (asgTo outA sts pst k).length = n := by rw [asgTo_len]; exact HOAL.out
          have f3 := hlay.row.cell (j := x) (by rw [hal]; omega)
          have f4 := hlay.row.frozen x
          obtain ⟨z0, HZ0⟩ := named (lat (asgTo outA sts pst k) (x : Int))
          rw [← HZ0.out] at f3
          obtain ⟨u, HU⟩ := named (pst.getD k 0)
          rw [← HU.out] at f2 hsu
          have HSU := Lib.hid hsu
          have hq1 : bM ≠ g := HBG2.out k hlt
          have hq2 : bs ≠ g := by omega
          have hq3 : w.heap.size + 1 ≠ g := by omega
          have hxn : x < n := by omega
          clear hlay hgr1 hsu hal hlatp x0 x1 x2 x3 k1 k2 k3 hx hx0
          go_wp2
          go_still_tail 11, (by kernel_rfl)
          go_wp2
          have HNX := Lib.hid (HLK.out.set x u)
          go_roundw
          case rel =>
            refine ⟨k + 1, by omega, by go_num, ?_⟩
            rw [HSU.out]
            exact HNX.out.next (Below.drew (Below.refl _ _))
          case measure => simp [intOf]; omega
        · obtain rfl : ns = k := by omega
          have hrow := hlay.row
          rw [HBX.out] at hrow
          have HSX := Lib.hid (HST.out wr g base k1 k2 hrow (by rw [HBL.out]) HBV.out)
          have HK3 := Lib.hid k3
          have hwz := k3.size
          clear hlay hgr1 hrow k1 k2 k3
          go_wp2_with (go_at_call 28; (with_reducible refine HSX.out.mono ?_); rintro e w5 ⟨⟨g5, d5, out5, rfl, hn5, hv5⟩, hb⟩; have HN5 := Lib.hid hn5; have HV5 := Lib.hid hv5; have HB5 : Hid (Below w.heap.size w w5) := Lib.hid (joinB HK3.out hb); clear hn5 hv5 hb)
          go_ret
          exact ⟨⟨g5, d5, out5, rfl, HN5.out, HV5.out.low hwz⟩, HB5.out⟩
end Go.Proofs.YtfcdhoaccmckoaaGreatDoor
