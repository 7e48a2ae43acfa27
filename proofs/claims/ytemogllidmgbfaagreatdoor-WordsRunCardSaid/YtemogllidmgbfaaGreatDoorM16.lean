/- The texts Smz Sma. -/
import Derived.Test.YtemogllidmgbfaaGreatDoorM15
import Derived.Deep.RegionHeld3
import Derived.Deep.DeepCutAuto
import Derived.Deep.CutBlock
namespace Go.Proofs.YtemogllidmgbfaaGreatDoor
open Go.RowKit

/-- The pattern fits the circuit without memories. -/
structure Fits (c : Ck) (pin pst : List Int) : Prop where
  mems : c.mems.length = 0
  li : pin.length = (ofTo c.nodes [0] c.nodes.length).length
  ls : pst.length = (ofTo c.nodes [14] c.nodes.length).length
  vi : ∀ x ∈ pin, 0 ≤ x ∧ x ≤ 3
  vs : ∀ x ∈ pst, 0 ≤ x ∧ x ≤ 3
theorem abv_none {l : List Int} (h : ∀ x ∈ l, 0 ≤ x ∧ x ≤ 3) : anyP abv l = false :=
  anyP_no fun j hj => decide_eq_false (by
    have := (h (l.getD j 0) (by rw [List.getD_eq_getElem?_getD, List.getElem?_eq_getElem hj]; exact List.getElem_mem hj)).2
    omega)

set_option maxRecDepth 100000 in
set_option maxHeartbeats 4000000 in
theorem cpat_ok (c : Ck) (pin pst : List Int) (A0 A1 A2 A3 Ai As : Option Addr) (c0 c1 c2 c3 ci cs : Nat) (w : World) (B : Nat) (hB : B ≤ w.heap.size)
    (hc : Cir w B (.agg #[.slice A0 c.nodes.length c0, .slice A1 c.names.length c1, .slice A2 c.mems.length c2, .slice A3 c.outs.length c3]) c) (hi : Ks w B (.slice Ai pin.length ci) pin) (hs : Ks w B (.slice As pst.length cs) pst) (hsz : c.nodes.length ≤ 1000000) (hf : Fits c pin pst) :
    Calls Tryz.prog 49 #[.agg #[.slice A0 c.nodes.length c0, .slice A1 c.names.length c1, .slice A2 c.mems.length c2, .slice A3 c.outs.length c3], .agg #[.slice Ai pin.length ci, .slice As pst.length cs]] w
      fun e w' => e = .returned (.int .i64 0) ∧ Below w.heap.size w w' := by
  obtain ⟨W1, HW1⟩ := named ((w.alloc (.cells #[.slice A0 c.nodes.length c0, .slice A1 c.names.length c1, .slice A2 c.mems.length c2, .slice A3 c.outs.length c3] 46)).alloc (.cells #[.slice Ai pin.length ci, .slice As pst.length cs] 50))
  have hb1 : Below w.heap.size w W1 := by rw [HW1.out]; exact below_new (below_new (Below.refl _ _) _) _
  have hfc : Fr W1 w.heap.size 46 [.slice A0 c.nodes.length c0, .slice A1 c.names.length c1, .slice A2 c.mems.length c2, .slice A3 c.outs.length c3] := by rw [HW1.out]; exact Fr.alloc (Fr.made _ _ _ rfl) _
  have hfp : Fr W1 (w.heap.size + 1) 50 [.slice Ai pin.length ci, .slice As pst.length cs] := by rw [HW1.out]; exact Fr.made _ _ _ (by simp)
  have HIN : Hid (∀ W, BelW W1 W → Calls Tryz.prog 46 #[.agg #[.slice A0 c.nodes.length c0, .slice A1 c.names.length c1, .slice A2 c.mems.length c2, .slice A3 c.outs.length c3]] W fun e w' => ∃ A, e = .returned (.slice A pin.length pin.length) ∧ BelW W w') :=
    Lib.hid fun W hb => (inputs_any c _ W B (Nat.le_trans hB (joinB hb1 hb).size) (hc.below ((joinB hb1 hb).mono hB)) hsz).mono fun e w' ⟨A, he, _, h⟩ => ⟨A, by rw [hf.li]; exact he, h⟩
  have HST : Hid (∀ W, BelW W1 W → Calls Tryz.prog 47 #[.agg #[.slice A0 c.nodes.length c0, .slice A1 c.names.length c1, .slice A2 c.mems.length c2, .slice A3 c.outs.length c3]] W fun e w' => ∃ A, e = .returned (.slice A pst.length pst.length) ∧ BelW W w') :=
    Lib.hid fun W hb => (states_any c _ W B (Nat.le_trans hB (joinB hb1 hb).size) (hc.below ((joinB hb1 hb).mono hB)) hsz).mono fun e w' ⟨A, he, _, h⟩ => ⟨A, by rw [hf.ls]; exact he, h⟩
  have HVI : Hid (∀ W, BelW W1 W → Calls Tryz.prog 92 #[.slice Ai pin.length ci, .func (.func 91) #[] #[]] W fun e w' => e = .returned (.bool false) ∧ W = w') :=
    Lib.hid fun W hb => by have := containsV_any pin _ W B (Arr.keep stays_u8 hi (Nat.le_refl _) fun _ hp => (joinB hb1 hb).cell (Nat.lt_of_lt_of_le hp hB)); rw [abv_none hf.vi] at this; exact this
  have HVS : Hid (∀ W, BelW W1 W → Calls Tryz.prog 92 #[.slice As pst.length cs, .func (.func 91) #[] #[]] W fun e w' => e = .returned (.bool false) ∧ W = w') :=
    Lib.hid fun W hb => by have := containsV_any pst _ W B (Arr.keep stays_u8 hs (Nat.le_refl _) fun _ hp => (joinB hb1 hb).cell (Nat.lt_of_lt_of_le hp hB)); rw [abv_none hf.vs] at this; exact this
  have hm1 := Arr.len hi
  have hm2 := Arr.len hs
  have HB1 := Lib.hid hb1
  have hmem := hf.mems
  unfold maxLen at hm1 hm2
  clear hc hi hs hf hb1
  rw [hmem] at HW1 hfc HIN HST
  rw [hmem]
  clear hmem
  generalize c.nodes.length = n0 at HW1 hfc HIN HST ⊢
  generalize c.names.length = n1 at HW1 hfc HIN HST ⊢
  generalize c.outs.length = n3 at HW1 hfc HIN HST ⊢
  generalize pin.length = ni at HW1 hfp HIN HVI hm1 ⊢
  generalize pst.length = ns at HW1 hfp HST HVS hm2 ⊢
  have hce : ∀ w', BelW W1 w' → BelW W1 w' ∧ w'.cell? ⟨w.heap.size, 0, none⟩ = some (.slice A0 n0 c0) ∧ w'.cell? ⟨w.heap.size, 1, none⟩ = some (.slice A1 n1 c1) ∧ w'.cell? ⟨w.heap.size, 2, none⟩ = some (.slice A2 0 c2) ∧ w'.cell? ⟨w.heap.size, 3, none⟩ = some (.slice A3 n3 c3) ∧ w'.cell? ⟨w.heap.size + 1, 0, none⟩ = some (.slice Ai ni ci) ∧ w'.cell? ⟨w.heap.size + 1, 1, none⟩ = some (.slice As ns cs) := fun w' h =>
    ⟨h, (hfc.below h).cell 0, (hfc.below h).cell 1, (hfc.below h).cell 2, (hfc.below h).cell 3, (hfp.below h).cell 0, (hfp.below h).cell 1⟩
  have HCE := Lib.hid hce
  clear hce hfc hfp
  go_enter Tryz.func49, Tryz.ntmps49
  go_upto_region 1 with (fail)
  rw [← HW1.out]
  obtain ⟨-, x0, x1, x2, x3, y0, y1⟩ := HCE.out W1 (Below.refl _ _)
  go_wp2
  have hs0 : BelW W1 W1 := Below.refl _ _
  clear x0 x1 x2 x3 y0 y1
  go_region_held3 (fun w' => BelW W1 w' ∧ w'.cell? ⟨w.heap.size, 0, none⟩ = some (.slice A0 n0 c0) ∧ w'.cell? ⟨w.heap.size, 1, none⟩ = some (.slice A1 n1 c1) ∧ w'.cell? ⟨w.heap.size, 2, none⟩ = some (.slice A2 0 c2) ∧ w'.cell? ⟨w.heap.size, 3, none⟩ = some (.slice A3 n3 c3) ∧ w'.cell? ⟨w.heap.size + 1, 0, none⟩ = some (.slice Ai ni ci) ∧ w'.cell? ⟨w.heap.size + 1, 1, none⟩ = some (.slice As ns cs))
    ((refine HCE.out _ ?_; first | (with_reducible assumption) | (refine BelW.drew ?_; with_reducible assumption)))
    (first
      | (go_at_call 46; refine Calls.mono (HIN.out _ ?_) ?_; · (first | (with_reducible assumption) | (refine BelW.drew ?_; with_reducible assumption))
         rintro e w3 ⟨A, rfl, hb3⟩
         have hs3 : BelW W1 w3 := (by refine BelW.next ?_ hb3; first | (with_reducible assumption) | (refine BelW.drew ?_; with_reducible assumption)))
      | (go_at_call 47; refine Calls.mono (HST.out _ ?_) ?_; · (first | (with_reducible assumption) | (refine BelW.drew ?_; with_reducible assumption))
         rintro e w4 ⟨A, rfl, hb4⟩
         have hs4 : BelW W1 w4 := (by refine BelW.next ?_ hb4; first | (with_reducible assumption) | (refine BelW.drew ?_; with_reducible assumption))))
  obtain ⟨-, x0, x1, x2, x3, y0, y1⟩ := HCE.out w4 hs4
  go_wp2_with (first
    | (go_at_call 92; (with_reducible refine (HVI.out _ hs4).mono ?_); rintro e w5 ⟨rfl, rfl⟩)
    | (go_at_call 92; (with_reducible refine (HVS.out _ hs4).mono ?_); rintro e w5 ⟨rfl, rfl⟩))
  go_ret
  exact ⟨rfl, joinB HB1.out hs4⟩
end Go.Proofs.YtemogllidmgbfaaGreatDoor

namespace Go.Proofs.YtemogllidmgbfaaGreatDoor
open Go.RowKit

theorem results_row_tmp2 {P : Program} {fn : Func} {p t1 t2 : Tmp} {ty : TypeId} (h : fn.results = #[.cell p ty, .tmp t1, .tmp t2]) (tmps : Array Value) (w : World) (g : Nat) (t : TypeId) (cs : Array Value) (fr : Nat × Nat) (d : TypeDesc)
    (hp : tmps.getD p undef = .pointer (some ⟨g, 0, none⟩)) (hg : w.heap[g]? = some (.cells cs t fr))
    (hu : P.underlying ty = some d) (hd : (match d with | .struct _ | .array _ _ => true | _ => false) = true) (hi : (P.info? ty).map (·.size) = some cs.size) :
    (results fn tmps).run P w = .ok (.tuple #[.agg cs, tmps.getD t1 undef, tmps.getD t2 undef]) w := by
  have hp' : tmps[p]?.getD undef = .pointer (some ⟨g, 0, none⟩) := by simpa using hp
  simp [results, h, hp', asAddr, run_loadVar_row w g t ty cs fr d hg hu hd hi, Sem.run_bind, Result.andThen]

theorem hi_all (k : Int) : hi k ≤ 16 := by
  unfold hi
  split
  · decide
  · have h : ∀ i : Fin 16, spansL.getD (2 * i.val + 1) 0 ≤ 16 := by decide
    exact h ⟨k.toNat, by omega⟩
theorem tabs_lg {w : World} (h : Lg.Tabs w) : Tabs w := ⟨h.1, h.2.1⟩
theorem made_vals (n : Nat) : (madeCells #[Value.int .u8 0] n).toList = (List.replicate n (0 : Int)).map (Value.int .u8) := by
  apply List.ext_getElem?
  intro j
  by_cases hj : j < n
  · simp [madeCells, hj, Nat.mod_one]
  · rw [List.getElem?_eq_none (by simp [madeCells]; omega), List.getElem?_eq_none (by simp; omega)]
theorem gnext {w wr w' : World} {g : Nat} (h : w.grownBy wr (some g)) (hb : Below wr.heap.size wr w') : w.grownBy w' (some g) := by
  obtain ⟨h1, h2, h3, h4, h5⟩ := h
  exact ⟨hb.os.trans h1, hb.tape.trans h2, hb.output.trans h3, Nat.le_trans h4 hb.size, fun i hi hne => (hb.block i (Nat.lt_of_lt_of_le hi h4)).trans (h5 i hi hne)⟩
theorem gdrew {w wr : World} {g : Nat} (h : w.grownBy wr (some g)) : w.grownBy wr.drew (some g) := gnext h (Below.drew (Below.refl _ _))
theorem bgrown {w0 w wr : World} {g : Nat} (h : BelW w0 w) (hg : w.grownBy wr (some g)) (h0 : w0.heap.size ≤ g) : BelW w0 wr :=
  Below.grown h hg (Below.size h) (fun k e => by cases e; exact h0)
theorem Row.drewS {w : World} {d : Nat} {l : List Int} (h : Row w d l) : Row w.drew d l := h
theorem VRow.drew {w : World} {g : Nat} {l : List Int} (h : VRow w g l) : VRow w.drew g l := h

/-- What Run's loop keeps: g is the row of the nets, s the state, q the variable that names the row, d the row of the order. -/
structure RL (W1 : World) (g s q d n : Nat) (R : List Int) (cs : List Value) (out : List Int) (wr : World) : Prop where
  bel : BelW W1 wr
  row : VRow wr g out
  st : Fr wr s 106 cs
  qc : wr.cell? ⟨q, 0, none⟩ = some (.slice (some ⟨g, 0, none⟩) n n)
  ord : Row wr d R
  ne : s ≠ g ∧ q ≠ g ∧ d ≠ g
  low : W1.heap.size ≤ g
  len : out.length = n
section
variable {W1 wr w' : World} {g s q d n : Nat} {R out : List Int} {cs : List Value}
theorem RL.next (h : RL W1 g s q d n R cs out wr) (hb : Below wr.heap.size wr w') : RL W1 g s q d n R cs out w' :=
  ⟨joinB h.bel hb, h.row.below hb, h.st.below hb, (hb.cell (p := ⟨q, 0, none⟩) (cell_lt h.qc)).trans h.qc, h.ord.below hb, h.ne, h.low, h.len⟩
theorem RL.set (h : RL W1 g s q d n R cs out wr) (x : Nat) (v : Int) : RL W1 g s q d n R cs (out.set x v) (wr.setCell ⟨g, x, none⟩ (.int .u8 v)) :=
  ⟨Below.setCell h.bel h.low _, h.row.set x v, h.st.other (a := ⟨g, x, none⟩) (fun e => h.ne.1 e.symm) _, by rw [World.cell?_setCell_other _ _ _ _ (by have hne : ¬ q = g := h.ne.2.1; simp [hne])]; exact h.qc, h.ord.otherS (a := ⟨g, x, none⟩) (fun e => h.ne.2.2 e.symm) _, h.ne, h.low, by rw [List.length_set]; exact h.len⟩
theorem RL.nv (h : RL W1 g s q d n R cs out wr) : Nv wr q out := by
  refine ⟨some ⟨g, 0, none⟩, n, ?_, ?_⟩
  · rw [h.len]; exact h.qc
  · have := h.row.ks
    rw [h.len] at this ⊢
    exact this
theorem RL.drew (h : RL W1 g s q d n R cs out wr) : RL W1 g s q d n R cs out wr.drew := h.next (Below.drew (Below.refl _ _))
end
end Go.Proofs.YtemogllidmgbfaaGreatDoor
