/- The texts Kno. -/
import Derived.Test.YtkaedfgmhfefjaaGreatDoorM15
import Derived.Test.YtkaedfgmhfefjaaGreatDoorM38
namespace Go.Proofs.YtkaedfgmhfefjaaGreatDoor
open Go.RowKit
theorem VStk.al {w : World} {base : Nat} {v : Value} {l : List Int} (h : VStk w base v l) (o : Obj) : VStk (w.alloc o) base v l := h.below (below_new (Below.refl _ _) o)
theorem VStk.dr {w : World} {base : Nat} {v : Value} {l : List Int} (h : VStk w base v l) : VStk w.drew base v l := h.below (Below.drew (Below.refl _ _))
set_option maxRecDepth 100000 in
set_option maxHeartbeats 8000000 in
theorem pKno_at (c : Ck) (li ls : List Int) (A0 A1 A2 A3 Ai As : Option Addr) (n n1 n2 n3 ni ns c0 c1 c2 c3 mi ms ci cs : Nat) (w : World) (hn : c.nodes.length = n) (hni : (ofTo c.nodes [0] n).length = ni) (hns : (ofTo c.nodes [14] n).length = ns)
    (hc : Cir w w.heap.size (.agg #[.slice A0 n c0, .slice A1 n1 c1, .slice A2 n2 c2, .slice A3 n3 c3]) c) (hi : Ks w w.heap.size (.slice Ai mi ci) li) (hs : Ks w w.heap.size (.slice As ms cs) ls) (hsz : n ≤ 1000000) (vi : ∀ x ∈ li, 0 ≤ x ∧ x ≤ 255) (vs : ∀ x ∈ ls, 0 ≤ x ∧ x ≤ 255) (hbi : 1 + mi ≤ 140737488355328) (hbs : 1 + ms ≤ 140737488355328) :
    Calls Tryz.prog 28 #[.agg #[.slice Ai mi ci, .slice As ms cs], .agg #[.slice A0 n c0, .slice A1 n1 c1, .slice A2 n2 c2, .slice A3 n3 c3]] w fun e w' => ∃ AI cI AS cS, e = .returned (.agg #[.slice AI ni cI, .slice AS ns cS]) ∧ VStk w' w.heap.size (.slice AI ni cI) (takL (0 :: li) 2 ni) ∧ VStk w' w.heap.size (.slice AS ns cS) (takL (0 :: ls) 2 ns) ∧ (∀ a b, (Value.slice AI ni cI).ownBlock = some a → (Value.slice AS ns cS).ownBlock = some b → a ≠ b) ∧ BelW w w' := by
  obtain ⟨W0, HW0⟩ := named ((w.alloc (.cells #[.slice Ai mi ci, .slice As ms cs] 31)).alloc (.cells #[.slice A0 n c0, .slice A1 n1 c1, .slice A2 n2 c2, .slice A3 n3 c3] 39))
  have hb0 : BelW w W0 := by rw [HW0.out]; exact below_new (below_new (Below.refl _ _) _) _
  have hfp : Fr W0 w.heap.size 31 [.slice Ai mi ci, .slice As ms cs] := by rw [HW0.out]; exact Fr.alloc (Fr.made _ _ _ rfl) _
  have hfc : Fr W0 (w.heap.size + 1) 39 (#[.slice A0 n c0, .slice A1 n1 c1, .slice A2 n2 c2, .slice A3 n3 c3]).toList := by rw [HW0.out]; exact Fr.made _ _ _ (by simp)
  have hz0 : W0.heap.size = w.heap.size + 1 + 1 := by rw [HW0.out]; simp
  have HC0 : Hid (∀ W, BelW W0 W → Calls Tryz.prog 75 #[.agg #[.slice A0 n c0, .slice A1 n1 c1, .slice A2 n2 c2, .slice A3 n3 c3], .int .u8 0] W fun e w' => e = .returned (.int .i64 (ni : Int)) ∧ BelW W w') := Lib.hid fun W h => by
    have := count_any c 0 (.agg #[.slice A0 n c0, .slice A1 n1 c1, .slice A2 n2 c2, .slice A3 n3 c3]) W W.heap.size (Nat.le_refl _) ((hc.below (joinB hb0 h)).more (Below.size (joinB hb0 h))) (by omega)
    rw [hn, hni] at this; exact this
  have HC1 : Hid (∀ W, BelW W0 W → Calls Tryz.prog 75 #[.agg #[.slice A0 n c0, .slice A1 n1 c1, .slice A2 n2 c2, .slice A3 n3 c3], .int .u8 14] W fun e w' => e = .returned (.int .i64 (ns : Int)) ∧ BelW W w') := Lib.hid fun W h => by
    have := count_any c 14 (.agg #[.slice A0 n c0, .slice A1 n1 c1, .slice A2 n2 c2, .slice A3 n3 c3]) W W.heap.size (Nat.le_refl _) ((hc.below (joinB hb0 h)).more (Below.size (joinB hb0 h))) (by omega)
    rw [hn, hns] at this; exact this
  have HKI : Hid (∀ W, BelW W0 W → Ks W W.heap.size (.slice Ai mi ci) li) := Lib.hid fun W h => hi.nx (joinB hb0 h)
  have HKS : Hid (∀ W, BelW W0 W → Ks W W.heap.size (.slice As ms cs) ls) := Lib.hid fun W h => hs.nx (joinB hb0 h)
  have hniB : ni ≤ n := by rw [← hni]; exact ofTo_len _ _ _
  have hnsB : ns ≤ n := by rw [← hns]; exact ofTo_len _ _ _
  have h0i : ∀ x ∈ ([0] ++ li : List Int), 0 ≤ x ∧ x ≤ 255 := fun x hx => by
    rcases List.mem_append.1 hx with h | h
    · obtain rfl := List.mem_singleton.1 h; decide
    · exact vi x h
  have h0s : ∀ x ∈ ([0] ++ ls : List Int), 0 ≤ x ∧ x ≤ 255 := fun x hx => by
    rcases List.mem_append.1 hx with h | h
    · obtain rfl := List.mem_singleton.1 h; decide
    · exact vs x h
  obtain ⟨k1, HK1⟩ := named (1 + mi)
  obtain ⟨k2, HK2⟩ := named (1 + ms)
  have HE1 : Hid (1 + mi = k1) := Lib.hid HK1.out.symm
  have HE2 : Hid (1 + ms = k2) := Lib.hid HK2.out.symm
  have HL1 : Hid (k1 ≤ 140737488355328) := Lib.hid (by rw [HK1.out]; exact hbi)
  have HL2 : Hid (k2 ≤ 140737488355328) := Lib.hid (by rw [HK2.out]; exact hbs)
  have HTI : Hid (∀ W A cc, BelW W0 W → Ks W W.heap.size (.slice A k1 cc) ([0] ++ li) → Calls Tryz.prog 74 #[.slice A k1 cc, .int .i64 (ni : Int), .int .u8 2] W fun e w' => ∃ A cc, e = .returned (.slice A ni cc) ∧ (VStk w' W0.heap.size (.slice A ni cc) (takL ([0] ++ li) 2 ni) ∧ ∀ b, (Value.slice A ni cc).ownBlock = some b → W.heap.size ≤ b) ∧ BelW W w') := Lib.hid fun W A cc h hk =>
    (taken_any ([0] ++ li) 2 (by decide) (by decide) ni (by omega) A k1 cc W W.heap.size (Nat.le_refl _) hk h0i).mono fun e w' ⟨v, he, hv, hb⟩ => by
      obtain ⟨A, cc, rfl, -⟩ := hv.form
      rw [takL_len] at he hv
      exact ⟨A, cc, he, ⟨hv.low (Below.size h), fun b hb => (World.ownsRow.lt hv b hb).1⟩, hb⟩
  have HTS : Hid (∀ W A cc, BelW W0 W → Ks W W.heap.size (.slice A k2 cc) ([0] ++ ls) → Calls Tryz.prog 74 #[.slice A k2 cc, .int .i64 (ns : Int), .int .u8 2] W fun e w' => ∃ A cc, e = .returned (.slice A ns cc) ∧ (VStk w' W0.heap.size (.slice A ns cc) (takL ([0] ++ ls) 2 ns) ∧ ∀ b, (Value.slice A ns cc).ownBlock = some b → W.heap.size ≤ b) ∧ BelW W w') := Lib.hid fun W A cc h hk =>
    (taken_any ([0] ++ ls) 2 (by decide) (by decide) ns (by omega) A k2 cc W W.heap.size (Nat.le_refl _) hk h0s).mono fun e w' ⟨v, he, hv, hb⟩ => by
      obtain ⟨A, cc, rfl, -⟩ := hv.form
      rw [takL_len] at he hv
      exact ⟨A, cc, he, ⟨hv.low (Below.size h), fun b hb => (World.ownsRow.lt hv b hb).1⟩, hb⟩
  have HP : Hid (∀ (e : Ending) (w' : World) A0 c0 A1 c1, e = .returned (.agg #[.slice A0 ni c0, .slice A1 ns c1]) → VStk w' w.heap.size (.slice A0 ni c0) (takL ([0] ++ li) 2 ni) → VStk w' w.heap.size (.slice A1 ns c1) (takL ([0] ++ ls) 2 ns) → (∀ a b, (Value.slice A0 ni c0).ownBlock = some a → (Value.slice A1 ns c1).ownBlock = some b → a ≠ b) → BelW w w' →
      ∃ AI cI AS cS, e = .returned (.agg #[.slice AI ni cI, .slice AS ns cS]) ∧ VStk w' w.heap.size (.slice AI ni cI) (takL (0 :: li) 2 ni) ∧ VStk w' w.heap.size (.slice AS ns cS) (takL (0 :: ls) 2 ns) ∧ (∀ a b, (Value.slice AI ni cI).ownBlock = some a → (Value.slice AS ns cS).ownBlock = some b → a ≠ b) ∧ BelW w w') := Lib.hid fun e w' A0 c0 A1 c1 h1 h2 h3 h4 h5 => ⟨A0, c0, A1, c1, h1, h2, h3, h4, h5⟩
  have HCE : Hid (∀ W, BelW W0 W → BelW W0 W ∧ W.cell? ⟨w.heap.size, 0, none⟩ = some (.slice Ai mi ci) ∧ W.cell? ⟨w.heap.size, 1, none⟩ = some (.slice As ms cs) ∧ W.cell? ⟨w.heap.size + 1, 0, none⟩ = some (.slice A0 n c0) ∧ W.cell? ⟨w.heap.size + 1, 1, none⟩ = some (.slice A1 n1 c1) ∧ W.cell? ⟨w.heap.size + 1, 2, none⟩ = some (.slice A2 n2 c2) ∧ W.cell? ⟨w.heap.size + 1, 3, none⟩ = some (.slice A3 n3 c3)) := Lib.hid fun W h => ⟨h, (hfp.below h).cell 0, (hfp.below h).cell 1, (hfc.below h).cell 0, (hfc.below h).cell 1, (hfc.below h).cell 2, (hfc.below h).cell 3⟩
  have HB0 := Lib.hid hb0
  clear hc hi hs vi vs h0i h0s hfp hfc hbi hbs hn hni hns
  have hwz := HB0.out.size
  clear hb0
  go_enter Tryz.func28, Tryz.ntmps28
  go_upto_region 1 with (fail)
  rw [← HW0.out]
  obtain ⟨V, HV⟩ := named (W0.alloc (.cells #[.slice none 0 0, .slice none 0 0] 73))
  have hf0 : Fr V W0.heap.size 73 [.slice none 0 0, .slice none 0 0] := by rw [HV.out]; exact Fr.made _ _ _ rfl
  have hvz : W0.heap.size < V.heap.size := by rw [HV.out]; simp
  have hwr : w.heap.size + 1 < W0.heap.size := by omega
  have hrz : w.heap.size + 1 + 1 = W0.heap.size := hz0.symm
  rw [hrz]
  obtain ⟨r, HR⟩ := named W0.heap.size
  rw [← HR.out] at hf0 hvz hwr
  have hrl : W0.heap.size ≤ r := by rw [HR.out]; exact Nat.le_refl _
  try rw [← HV.out]
  try rw [← HR.out]
  have hs0 : BelW W0 V := by rw [HV.out]; exact below_new (Below.refl _ _) _
  have hf0d : Fr V.drew r 73 [.slice none 0 0, .slice none 0 0] := hf0
  have hs0d : BelW W0 V.drew := BelW.drew hs0
  trace_state
  go_region_held3 (fun w' => BelW W0 w' ∧ w'.cell? ⟨w.heap.size, 0, none⟩ = some (.slice Ai mi ci) ∧ w'.cell? ⟨w.heap.size, 1, none⟩ = some (.slice As ms cs) ∧ w'.cell? ⟨w.heap.size + 1, 0, none⟩ = some (.slice A0 n c0) ∧ w'.cell? ⟨w.heap.size + 1, 1, none⟩ = some (.slice A1 n1 c1) ∧ w'.cell? ⟨w.heap.size + 1, 2, none⟩ = some (.slice A2 n2 c2) ∧ w'.cell? ⟨w.heap.size + 1, 3, none⟩ = some (.slice A3 n3 c3))
    ((refine HCE.out _ ?_; first | ((repeat (first | (with_reducible assumption) | (with_reducible refine BelW.drew ?_) | (with_reducible refine BelW.alloc ?_ _))); done) | (with_reducible refine BelW.set (BelW.set ?_ ?_ _) ?_ _ <;> first | (with_reducible assumption) | ((try dsimp only) <;> omega))))
    (first
      | (refine step_append_fullB rfl (.tmp 5) (.tmp 7) rfl rfl _ Ai 1 mi ci [0] li rfl rfl (by (repeat (first | (with_reducible assumption) | (with_reducible refine lit_at ?_; (first | rfl | (simp; done))) | (with_reducible refine Ks.dr ?_) | (with_reducible refine Ks.al ?_ _)))) (HKI.out _ (by (repeat (first | (with_reducible assumption) | (with_reducible refine BelW.drew ?_) | (with_reducible refine BelW.alloc ?_ _))))) k1 HE1.out HL1.out ?_
         intro AX cX wa hka hba0
         have hba := Below.belW hba0
         have hswa : BelW W0 wa := (by refine BelW.next ?_ hba; (repeat (first | (with_reducible assumption) | (with_reducible refine BelW.drew ?_) | (with_reducible refine BelW.alloc ?_ _))))
         have hfwa : Fr wa r 73 [.slice none 0 0, .slice none 0 0] := Fr.below (by repeat (first | (with_reducible assumption) | (with_reducible refine Fr.drew ?_) | (with_reducible refine Fr.alloc ?_ _))) hba)
      | (go_at_call 75; (with_reducible refine Calls.mono (HC0.out _ ?_) ?_); · (repeat (first | (with_reducible assumption) | (with_reducible refine BelW.drew ?_) | (with_reducible refine BelW.alloc ?_ _)))
         rintro e wb ⟨rfl, hbb⟩
         have hswb : BelW W0 wb := (by refine BelW.next ?_ hbb; (repeat (first | (with_reducible assumption) | (with_reducible refine BelW.drew ?_) | (with_reducible refine BelW.alloc ?_ _))))
         have hfwb : Fr wb r 73 [.slice none 0 0, .slice none 0 0] := Fr.below (by repeat (first | (with_reducible assumption) | (with_reducible refine Fr.drew ?_) | (with_reducible refine Fr.alloc ?_ _))) hbb
         have hkb : Ks wb wb.heap.size (.slice AX k1 cX) ([0] ++ li) := (by (repeat (first | (with_reducible assumption) | (with_reducible refine lit_at ?_; (first | rfl | (simp; done))) | (with_reducible refine Ks.dr ?_) | (with_reducible refine Ks.al ?_ _) | (with_reducible refine Ks.nx ?_ hbb)))))
      | (go_at_call 74; have hq9 := hve; clear hq9; (with_reducible refine Calls.mono (HTS.out _ _ _ ?_ ?_) ?_); · (repeat (first | (with_reducible assumption) | (with_reducible refine BelW.drew ?_) | (with_reducible refine BelW.alloc ?_ _)))
         · (with_reducible exact hke)
         rintro e wf ⟨As', cs', rfl, ⟨hvs, hws⟩, hbf⟩
         have hnb : ∀ a, (Value.slice As' ns cs').ownBlock = some a → r < a := fun a h => Nat.lt_of_lt_of_le (Fr.lt (t := 73) (cs := [.slice none 0 0, .slice none 0 0]) (by repeat (first | (with_reducible assumption) | (with_reducible refine Fr.drew ?_) | (with_reducible refine Fr.alloc ?_ _)))) (hws a h)
         have hswf : BelW W0 wf := (by refine BelW.next ?_ hbf; (repeat (first | (with_reducible assumption) | (with_reducible refine BelW.drew ?_) | (with_reducible refine BelW.alloc ?_ _))))
         have hfwf : Fr wf r 73 [.slice none 0 0, .slice none 0 0] := Fr.below (by repeat (first | (with_reducible assumption) | (with_reducible refine Fr.drew ?_) | (with_reducible refine Fr.alloc ?_ _))) hbf
         have hvf := VStk.below hve hbf
         have hr0 := Fr.cell hfwf 0
         have hr1 := Fr.cell hfwf 1
         have hg0 := Fr.frozen hfwf 0
         have hg1 := Fr.frozen hfwf 1)
      | (go_at_call 74; (with_reducible refine Calls.mono (HTI.out _ _ _ ?_ ?_) ?_); · (repeat (first | (with_reducible assumption) | (with_reducible refine BelW.drew ?_) | (with_reducible refine BelW.alloc ?_ _)))
         · (repeat (first | (with_reducible assumption) | (with_reducible refine lit_at ?_; (first | rfl | (simp; done))) | (with_reducible refine Ks.dr ?_) | (with_reducible refine Ks.al ?_ _)))
         rintro e wc ⟨Ai', ci', rfl, ⟨hvc, hwc⟩, hbc⟩
         have hna : ∀ a, (Value.slice Ai' ni ci').ownBlock = some a → r < a := fun a h => Nat.lt_of_lt_of_le (Fr.lt (t := 73) (cs := [.slice none 0 0, .slice none 0 0]) (by repeat (first | (with_reducible assumption) | (with_reducible refine Fr.drew ?_) | (with_reducible refine Fr.alloc ?_ _)))) (hwc a h)
         have hswc : BelW W0 wc := (by refine BelW.next ?_ hbc; (repeat (first | (with_reducible assumption) | (with_reducible refine BelW.drew ?_) | (with_reducible refine BelW.alloc ?_ _))))
         have hfwc : Fr wc r 73 [.slice none 0 0, .slice none 0 0] := Fr.below (by repeat (first | (with_reducible assumption) | (with_reducible refine Fr.drew ?_) | (with_reducible refine Fr.alloc ?_ _))) hbc)
      | (refine step_append_fullB rfl (.tmp 12) (.tmp 14) rfl rfl _ As 1 ms cs [0] ls rfl rfl (by (repeat (first | (with_reducible assumption) | (with_reducible refine lit_at ?_; (first | rfl | (simp; done))) | (with_reducible refine Ks.dr ?_) | (with_reducible refine Ks.al ?_ _) | (with_reducible refine Ks.nx ?_ hbc) | (with_reducible refine Ks.nx ?_ hbb) | (with_reducible refine Ks.nx ?_ hba)))) (HKS.out _ (by (repeat (first | (with_reducible assumption) | (with_reducible refine BelW.drew ?_) | (with_reducible refine BelW.alloc ?_ _))))) k2 HE2.out HL2.out ?_
         intro AY cY wd hkd hbd0
         have hbd := Below.belW hbd0
         have hswd : BelW W0 wd := (by refine BelW.next ?_ hbd; (repeat (first | (with_reducible assumption) | (with_reducible refine BelW.drew ?_) | (with_reducible refine BelW.alloc ?_ _))))
         have hfwd : Fr wd r 73 [.slice none 0 0, .slice none 0 0] := Fr.below (by repeat (first | (with_reducible assumption) | (with_reducible refine Fr.drew ?_) | (with_reducible refine Fr.alloc ?_ _))) hbd
         have hvd : VStk wd W0.heap.size (.slice Ai' ni ci') (takL ([0] ++ li) 2 ni) := VStk.below (by repeat (first | (with_reducible assumption) | (with_reducible refine VStk.dr ?_) | (with_reducible refine VStk.al ?_ _))) hbd)
      | (go_at_call 75; (with_reducible refine Calls.mono (HC1.out _ ?_) ?_); · (repeat (first | (with_reducible assumption) | (with_reducible refine BelW.drew ?_) | (with_reducible refine BelW.alloc ?_ _)))
         rintro e we ⟨rfl, hbe⟩
         have hswe : BelW W0 we := (by refine BelW.next ?_ hbe; (repeat (first | (with_reducible assumption) | (with_reducible refine BelW.drew ?_) | (with_reducible refine BelW.alloc ?_ _))))
         have hfwe : Fr we r 73 [.slice none 0 0, .slice none 0 0] := Fr.below (by repeat (first | (with_reducible assumption) | (with_reducible refine Fr.drew ?_) | (with_reducible refine Fr.alloc ?_ _))) hbe
         have hke : Ks we we.heap.size (.slice AY k2 cY) ([0] ++ ls) := hkd.nx hbe
         have hve := VStk.below hvd hbe))
  all_goals
    have hq := (hfwf.set 0 (.slice Ai' ni ci')).set 1 (.slice As' ns cs')
    have hap : ∀ a b, (Value.slice Ai' ni ci').ownBlock = some a → (Value.slice As' ns cs').ownBlock = some b → a ≠ b := fun a b h1 h2 => Nat.ne_of_lt (Nat.lt_of_lt_of_le (World.ownsRow.lt hve a h1).2 (hws b h2))
    have hbz : Below w.heap.size w ((wf.setCell ⟨r, 0, none⟩ (.slice Ai' ni ci')).setCell ⟨r, 1, none⟩ (.slice As' ns cs')) := ((joinB HB0.out hswf).setCell (by show w.heap.size ≤ r; omega) _).setCell (by show w.heap.size ≤ r; omega) _
    have hv0 : VStk ((wf.setCell ⟨r, 0, none⟩ (.slice Ai' ni ci')).setCell ⟨r, 1, none⟩ (.slice As' ns cs')) w.heap.size (.slice Ai' ni ci') (takL ([0] ++ li) 2 ni) := ((hvf.other (a := ⟨r, 0, none⟩) (fun e => absurd (hna r e) (Nat.lt_irrefl r)) _).other (a := ⟨r, 1, none⟩) (fun e => absurd (hna r e) (Nat.lt_irrefl r)) _).low hwz
    have hv1 : VStk ((wf.setCell ⟨r, 0, none⟩ (.slice Ai' ni ci')).setCell ⟨r, 1, none⟩ (.slice As' ns cs')) w.heap.size (.slice As' ns cs') (takL ([0] ++ ls) 2 ns) := ((hvs.other (a := ⟨r, 0, none⟩) (fun e => absurd (hnb r e) (Nat.lt_irrefl r)) _).other (a := ⟨r, 1, none⟩) (fun e => absurd (hnb r e) (Nat.lt_irrefl r)) _).low hwz
    go_wp2
    (try simp only [Exit.inBlock, Exit.then])
    refine bodyPost_ret (results_cell_row rfl _ _ _ _ _ _ _ rfl hq Tryz.underlying73 rfl (by kernel_rfl)) rfl ?_
    exact HP.out _ _ _ _ _ _ rfl hv0 hv1 hap hbz
end Go.Proofs.YtkaedfgmhfefjaaGreatDoor
