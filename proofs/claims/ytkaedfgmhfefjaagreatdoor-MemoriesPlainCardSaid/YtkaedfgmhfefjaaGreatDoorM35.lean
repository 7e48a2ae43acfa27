/- The texts Cy9 Ft9 Mn9 Mm9 Tk9 Ss9 St9. -/
import Derived.Test.YtkaedfgmhfefjaaGreatDoorM31
import Derived.Test.YtkaedfgmhfefjaaGreatDoorM34
import Derived.Test.YtkaedfgmhfefjaaGreatDoorM13
import Derived.Test.YtkaedfgmhfefjaaGreatDoorM12
import Derived.Test.YtkaedfgmhfefjaaGreatDoorM15
import Derived.Test.YtkaedfgmhfefjaaGreatDoorM11
import Derived.Test.YtkaedfgmhfefjaaGreatDoorM14
namespace Go.Proofs.YtkaedfgmhfefjaaGreatDoor
open Go.RowKit
theorem gtrans {w w1 w2 : World} {r : Option Nat} (h : w.grownBy w1 r) (k : w1.grownBy w2 r) : w.grownBy w2 r := by
  obtain ⟨a1, a2, a3, a4, a5⟩ := h
  obtain ⟨b1, b2, b3, b4, b5⟩ := k
  exact ⟨b1.trans a1, b2.trans a2, b3.trans a3, Nat.le_trans a4 b4, fun i hi hne => (b5 i (Nat.lt_of_lt_of_le hi a4) hne).trans (a5 i hi hne)⟩
theorem results_row2_tmp2 {P : Program} {fn : Func} {p p' t1 t2 : Tmp} {ty ty' : TypeId} (h : fn.results = #[.cell p ty, .cell p' ty', .tmp t1, .tmp t2]) (tmps : Array Value) (w : World) (g g' : Nat) (t t' : TypeId) (cs cs' : Array Value) (fr fr' : Nat × Nat) (d d' : TypeDesc)
    (hp : tmps.getD p undef = .pointer (some ⟨g, 0, none⟩)) (hg : w.heap[g]? = some (.cells cs t fr)) (hp' : tmps.getD p' undef = .pointer (some ⟨g', 0, none⟩)) (hg' : w.heap[g']? = some (.cells cs' t' fr'))
    (hu : P.underlying ty = some d) (hd : (match d with | .struct _ | .array _ _ => true | _ => false) = true) (hi : (P.info? ty).map (·.size) = some cs.size)
    (hu' : P.underlying ty' = some d') (hd' : (match d' with | .struct _ | .array _ _ => true | _ => false) = true) (hi' : (P.info? ty').map (·.size) = some cs'.size) :
    (results fn tmps).run P w = .ok (.tuple #[.agg cs, .agg cs', tmps.getD t1 undef, tmps.getD t2 undef]) w := by
  have q : tmps[p]?.getD undef = .pointer (some ⟨g, 0, none⟩) := by simpa using hp
  have q' : tmps[p']?.getD undef = .pointer (some ⟨g', 0, none⟩) := by simpa using hp'
  simp [results, h, q, q', asAddr, run_loadVar_row w g t ty cs fr d hg hu hd hi, run_loadVar_row w g' t' ty' cs' fr' d' hg' hu' hd' hi', Sem.run_bind, Result.andThen]
theorem OSt.offT {w : World} {D1 D2 L m k1 k2 b : Nat} {nw : Nat → Nat} {fw : Nat → Nat → List Int} {fr : Nat → List Int} {t : TypeId} {l : List Value} (h : OSt w D1 D2 L m nw fw fr k1 k2) (hf : Fr w b t l) (ht1 : t ≠ 43) (ht2 : t ≠ 41) (ht3 : t ≠ 77) (hb : b < L) (j : Nat) (x : Value) : OSt (w.setCell ⟨b, j, none⟩ x) D1 D2 L m nw fw fr k1 k2 := by
  obtain ⟨⟨vs, a1, a2, a3⟩, ⟨us, b1, b2, b3⟩, d1, d2, ne⟩ := h
  exact ⟨⟨vs, a1.other (a := ⟨b, j, none⟩) (hf.apart9 a1 ht1) _, a2, fun i hi => by
    obtain ⟨D, T, e, s, l⟩ := a3 i hi
    exact ⟨D, T, e, s.other (a := ⟨b, j, none⟩) (Nat.lt_of_lt_of_le hb l) _, l⟩⟩, ⟨us, b1.other (a := ⟨b, j, none⟩) (hf.apart9 b1 ht2) _, b2, fun i hi => by
    obtain ⟨g, e, v⟩ := b3 i hi
    exact ⟨g, e, v.other (a := ⟨b, j, none⟩) (hf.apart9 v.fr ht3) _⟩⟩, d1, d2, ne⟩
def cyB (c : Ck) (n : Nat) (s9 : Stt) (inp : List Int) : List Int := asg (asg (List.replicate n 0) (ofTo c.nodes [0] c.nodes.length) inp) (ofTo c.nodes [14] c.nodes.length) s9.dff
structure CyOk (c : Ck) (s9 : Stt) (inp : List Int) (n ni ns m : Nat) : Prop where
  hn : c.nodes.length = n
  hm : c.mems.length = m
  hni : (ofTo c.nodes [0] c.nodes.length).length = ni
  hns : (ofTo c.nodes [14] c.nodes.length).length = ns
  ck : ckC c ni ns m s9 inp = 0
  li : inp.length = ni
  ld : s9.dff.length = ns
  wf : Wf c.nodes
  pins : ∀ k, k < c.nodes.length → (c.nodes.getD k default).ins.length ≤ 16
  mem : MemOk c.nodes s9.read
  nx : NxOk c.mems s9.words n
  nsz : n ≤ 1000000
  msz : m ≤ 1000
  port : ∀ k, k < m → (c.mems.getD k default).addr.length ≤ 16 ∧ (c.mems.getD k default).data.length ≤ 1000
  outs : c.outs.length ≤ 17592186044416
set_option maxRecDepth 100000 in
set_option maxHeartbeats 8000000 in
theorem mcycle_ok (c : Ck) (s9 : Stt) (inp : List Int) (P : List Int → Prop) (A0 A1 A2 A3 As0 As1 As2 Ai : Option Addr) (n n1 m n3 c0 c1 c2 c3 p2 d0 d1 d2 ci ns ni : Nat) (w : World) (hT : Lg.Tabs w) (hC : Cir w w.heap.size (.agg #[.slice A0 n c0, .slice A1 n1 c1, .slice A2 m c2, .slice A3 n3 c3]) c) (hS : StR w w.heap.size As0 As1 As2 ns m p2 d0 d1 d2 s9) (hI : Ks w w.heap.size (.slice Ai ni ci) inp) (ok : CyOk c s9 inp n ni ns m)
    (hor : ∀ W, BelW w W → Calls Tryz.prog 33 #[.agg #[.slice A0 n c0, .slice A1 n1 c1, .slice A2 m c2, .slice A3 n3 c3]] W fun e w' => ∃ R d, (P R ∧ R.length = n ∧ ∀ x ∈ R, 0 ≤ x ∧ x < (n : Int)) ∧ e = .returned (.tuple #[.slice (some ⟨d, 0, none⟩) n n, .int .i64 0]) ∧ W.heap.size ≤ d ∧ Row w' d R ∧ BelW W w') :
    Calls Tryz.prog 9 #[.agg #[.slice A0 n c0, .slice A1 n1 c1, .slice A2 m c2, .slice A3 n3 c3], .agg #[.slice As0 ns d0, .slice As1 m d1, .slice As2 p2 d2], .slice Ai ni ci] w fun e w' => ∃ R gB D1 D2 go gn g, P R ∧ e = .returned (.tuple #[.agg #[.slice (some ⟨gB, 0, none⟩) ns ns, .slice (some ⟨D1, 0, none⟩) m m, .slice (some ⟨D2, 0, none⟩) m m], .agg #[.slice (some ⟨go, 0, none⟩) (outV c (stmK c.nodes s9.read (cyB c n s9 inp) R n)).length (outV c (stmK c.nodes s9.read (cyB c n s9 inp) R n)).length, .slice (some ⟨gn, 0, none⟩) ns ns], .slice (some ⟨g, 0, none⟩) n n, .int .i64 0])
      ∧ VRow w' g (stmK c.nodes s9.read (cyB c n s9 inp) R n) ∧ VRow w' go (outV c (stmK c.nodes s9.read (cyB c n s9 inp) R n)) ∧ VRow w' gn (nextV c (stmK c.nodes s9.read (cyB c n s9 inp) R n)) ∧ VRow w' gB (bitsL (nextV c (stmK c.nodes s9.read (cyB c n s9 inp) R n)) ns)
      ∧ (∃ L, OSt w' D1 D2 L m (fun k => (s9.words.getD k []).length) (nxW c.mems s9.words (stmK c.nodes s9.read (cyB c n s9 inp) R n)) (nxR c.mems s9.words (stmK c.nodes s9.read (cyB c n s9 inp) R n)) m m) ∧ BelW w w' := by
  obtain ⟨y0, y1, y2, y3, e, hN, hNm, hM, hO⟩ := id hC
  simp only [Value.agg.injEq, Array.mk.injEq, List.cons.injEq, and_true] at e
  obtain ⟨rfl, rfl, rfl, rfl⟩ := e
  obtain ⟨W1, HW1⟩ := named ((((w.alloc (.cells #[.slice A0 n c0, .slice A1 n1 c1, .slice A2 m c2, .slice A3 n3 c3] 39)).alloc (.cells #[.slice As0 ns d0, .slice As1 m d1, .slice As2 p2 d2] 45)).alloc (.cells #[.slice none 0 0, .slice none 0 0, .slice none 0 0] 45)).alloc (.cells #[.slice none 0 0, .slice none 0 0] 49))
  have hb1 : BelW w W1 := by rw [HW1.out]; exact below_new (below_new (below_new (below_new (Below.refl _ _) _) _) _) _
  have hfc : Fr W1 w.heap.size 39 [.slice A0 n c0, .slice A1 n1 c1, .slice A2 m c2, .slice A3 n3 c3] := by rw [HW1.out]; exact Fr.alloc (Fr.alloc (Fr.alloc (Fr.made _ [.slice A0 n c0, .slice A1 n1 c1, .slice A2 m c2, .slice A3 n3 c3] _ rfl) _) _) _
  have hfs : Fr W1 (w.heap.size + 1) 45 [.slice As0 ns d0, .slice As1 m d1, .slice As2 p2 d2] := by rw [HW1.out]; exact Fr.alloc (Fr.alloc (Fr.made _ [.slice As0 ns d0, .slice As1 m d1, .slice As2 p2 d2] _ (by simp)) _) _
  have hft : Fr W1 (w.heap.size + 1 + 1) 45 [.slice none 0 0, .slice none 0 0, .slice none 0 0] := by rw [HW1.out]; exact Fr.alloc (Fr.made _ [.slice none 0 0, .slice none 0 0, .slice none 0 0] _ (by simp)) _
  have hfr : Fr W1 (w.heap.size + 1 + 1 + 1) 49 [.slice none 0 0, .slice none 0 0] := by rw [HW1.out]; exact Fr.made _ [.slice none 0 0, .slice none 0 0] _ (by simp)
  obtain ⟨s, HS⟩ := named w.heap.size
  have HSW : Hid (w.heap.size ≤ s) := Lib.hid (by rw [HS.out]; exact Nat.le_refl _)
  rw [← HS.out] at hfc hfs hft hfr
  have HB1 : Hid (∀ W, BelW W1 W → BelW w W) := Lib.hid fun W h => joinB hb1 h
  have HCE : Hid (∀ W, BelW W1 W → W.cell? ⟨s, 0, none⟩ = some (.slice A0 n c0) ∧ W.cell? ⟨s, 1, none⟩ = some (.slice A1 n1 c1) ∧ W.cell? ⟨s, 2, none⟩ = some (.slice A2 m c2) ∧ W.cell? ⟨s, 3, none⟩ = some (.slice A3 n3 c3) ∧ W.cell? ⟨s + 1, 0, none⟩ = some (.slice As0 ns d0) ∧ W.cell? ⟨s + 1, 1, none⟩ = some (.slice As1 m d1) ∧ W.cell? ⟨s + 1, 2, none⟩ = some (.slice As2 p2 d2)) := Lib.hid fun W h => ⟨(hfc.below h).cell 0, (hfc.below h).cell 1, (hfc.below h).cell 2, (hfc.below h).cell 3, (hfs.below h).cell 0, (hfs.below h).cell 1, (hfs.below h).cell 2⟩
  have HFC := Lib.hid hfc
  have HFS := Lib.hid hfs
  have HFT := Lib.hid hft
  have HFR := Lib.hid hfr
  have HOR : Hid (∀ W, BelW W1 W → Calls Tryz.prog 33 #[.agg #[.slice A0 n c0, .slice A1 n1 c1, .slice A2 m c2, .slice A3 n3 c3]] W fun e w' => ∃ R d, (P R ∧ R.length = n ∧ ∀ x ∈ R, 0 ≤ x ∧ x < (n : Int)) ∧ e = .returned (.tuple #[.slice (some ⟨d, 0, none⟩) n n, .int .i64 0]) ∧ W.heap.size ≤ d ∧ Row w' d R ∧ BelW W w') := Lib.hid fun W h => hor W (joinB hb1 h)
  have HCK : Hid (∀ W, BelW W1 W → Calls Tryz.prog 34 #[.agg #[.slice A0 n c0, .slice A1 n1 c1, .slice A2 m c2, .slice A3 n3 c3], .agg #[.slice As0 ns d0, .slice As1 m d1, .slice As2 p2 d2], .slice Ai ni ci] W fun e w' => e = .returned (.int .i64 0) ∧ BelW W w') := Lib.hid fun W h => by
    have hbw := joinB hb1 h
    have := ckcyc_any c s9 inp A0 A1 A2 A3 As0 As1 As2 Ai n n1 m n3 c0 c1 c2 c3 ns m p2 d0 d1 d2 ni ci ns ni W ((hC.below hbw).more (Below.size hbw)) (hS.keep (Nat.le_refl _) hbw (Below.size hbw)) (Arr.keep stays_u8 hI (Below.size hbw) fun _ hp => Below.cell hbw hp) (by rw [ok.hn]; exact ok.nsz) ok.hns ok.hni (by rw [← ok.hns]; exact Nat.le_trans (ofTo_len _ _ _) (by rw [ok.hn]; exact ok.nsz)) ok.msz ok.port
    rw [ok.ck] at this
    exact this
  have HIN : Hid (∀ W, BelW w W → Calls Tryz.prog 36 #[.agg #[.slice A0 n c0, .slice A1 n1 c1, .slice A2 m c2, .slice A3 n3 c3]] W fun e w' => ∃ A, e = .returned (.slice A ni ni) ∧ Is w' w'.heap.size (.slice A ni ni) (ofTo c.nodes [0] c.nodes.length) ∧ BelW W w') := Lib.hid fun W h =>
    (inputs_any c _ W W.heap.size (Nat.le_refl _) ((hC.below h).more (Below.size h)) (by rw [ok.hn]; exact ok.nsz)).mono fun e w' ⟨A, he, hi, hb⟩ => ⟨A, by rw [← ok.hni]; exact he, by rw [← ok.hni]; exact hi, hb⟩
  have HSN : Hid (∀ W, BelW w W → Calls Tryz.prog 37 #[.agg #[.slice A0 n c0, .slice A1 n1 c1, .slice A2 m c2, .slice A3 n3 c3]] W fun e w' => ∃ A, e = .returned (.slice A ns ns) ∧ Is w' w'.heap.size (.slice A ns ns) (ofTo c.nodes [14] c.nodes.length) ∧ BelW W w') := Lib.hid fun W h =>
    (states_any c _ W W.heap.size (Nat.le_refl _) ((hC.below h).more (Below.size h)) (by rw [ok.hn]; exact ok.nsz)).mono fun e w' ⟨A, he, hi, hb⟩ => ⟨A, by rw [← ok.hns]; exact he, by rw [← ok.hns]; exact hi, hb⟩
  have HOK := Lib.hid ok
  have HTB := Lib.hid hT
  have HCI := Lib.hid hC
  have HSR := Lib.hid hS
  have HIR := Lib.hid hI
  have h1n : c.names.length = n1 := by
    obtain ⟨_, _, _, _, e, -⟩ := id hNm
    simp only [Value.slice.injEq] at e
    exact e.2.1.symm
  have h3n : c.outs.length = n3 := by
    obtain ⟨_, _, _, _, e, -⟩ := id hO
    simp only [Value.slice.injEq] at e
    exact e.2.1.symm
  have HLN := Lib.hid (And.intro h1n h3n)
  have HNN := Lib.hid hN
  have HMM := Lib.hid hM
  have hnz := ok.nsz
  have hb11 : BelW W1 W1 := Below.refl _ _
  obtain ⟨x0, x1, x2, x3, y0, y1, y2⟩ := HCE.out W1 hb11
  clear h1n h3n hT hC hS hI ok hor hN hNm hM hO hb1 hfc hfs hft hfr
  go_enter Tryz.func9, Tryz.ntmps9
  go_upto_region 1 with (fail)
  rw [← HW1.out, ← HS.out]
  go_upto_region 6 with (first
    | (go_at_call 33; (with_reducible refine (HOR.out _ hb11).mono ?_); rintro e w2 ⟨R, d, hR, rfl, hd2, hrow2, hb2⟩; have HR := Lib.hid hR; have HB2 : Hid (BelW W1 w2) := Lib.hid hb2; have HD2 := Lib.hid hrow2; clear x0 x1 x2 x3 y0 y1 y2; obtain ⟨x0, x1, x2, x3, y0, y1, y2⟩ := HCE.out w2 hb2; clear hR hd2 hrow2 hb2)
    | (go_at_call 34; (with_reducible refine (HCK.out _ HB2.out).mono ?_); rintro e w3 ⟨rfl, hb3⟩; have HB23 : Hid (BelW W1 w3) := Lib.hid (joinB HB2.out hb3); have HD3 := Lib.hid (HD2.out.below hb3); clear x0 x1 x2 x3 y0 y1 y2 hb3))
  refine wp_region_held_drew (S := fun w' => Below w3.heap.size w3 w') (by kernel_rfl) (Below.refl _ _).drew (fun hHeld => ?_)
  refine wpAnyH_take (i := 0) (oi := ⟨some 30, _, _, _, _, _⟩) (v := .agg #[.slice A0 n c0, .slice A1 n1 c1, .slice A2 m c2, .slice A3 n3 c3]) rfl (by kernel_rfl) (by kernel_rfl) (by kernel_rfl) (fun _ _ _ h => h) (Or.inl ⟨by rfl, ?_⟩) hHeld ?_
  · intro w' hSw; obtain ⟨x0, x1, x2, x3, y0, y1, y2⟩ := HCE.out w' (joinB HB23.out hSw); first | (go_simp; done) | (go_simp; with_reducible rfl)
  simp only [Act.put, List.setIfInBounds_toArray, List.set_cons_zero, List.set_cons_succ]
  refine wpAnyH_take (i := 1) (oi := ⟨some 31, _, _, _, _, _⟩) (v := .agg #[.slice As0 ns d0, .slice As1 m d1, .slice As2 p2 d2]) rfl (by kernel_rfl) (by kernel_rfl) (by kernel_rfl) (fun _ _ _ h => h) (Or.inl ⟨by rfl, ?_⟩) hHeld ?_
  · intro w' hSw; obtain ⟨x0, x1, x2, x3, y0, y1, y2⟩ := HCE.out w' (joinB HB23.out hSw); first | (go_simp; done) | (go_simp; with_reducible rfl)
  simp only [Act.put, List.setIfInBounds_toArray, List.set_cons_zero, List.set_cons_succ]
  refine wpAnyH_take (i := 2) (oi := ⟨some 32, _, _, _, _, _⟩) (v := .slice (some ⟨d, 0, none⟩) n n) rfl (by kernel_rfl) (by kernel_rfl) (by kernel_rfl) (fun _ _ _ h => h) (Or.inl ⟨by rfl, ?_⟩) hHeld ?_
  · intro w' hSw; obtain ⟨x0, x1, x2, x3, y0, y1, y2⟩ := HCE.out w' (joinB HB23.out hSw); first | (go_simp; done) | (go_simp; with_reducible rfl)
  simp only [Act.put, List.setIfInBounds_toArray, List.set_cons_zero, List.set_cons_succ]
  refine wpAnyH_take (i := 3) (oi := ⟨some 33, _, _, _, _, _⟩) (v := .int .i64 (n : Int)) rfl (by kernel_rfl) (by kernel_rfl) (by kernel_rfl) (fun _ _ _ h => h) (Or.inl ⟨by rfl, ?_⟩) hHeld ?_
  · intro w' hSw; obtain ⟨x0, x1, x2, x3, y0, y1, y2⟩ := HCE.out w' (joinB HB23.out hSw); first | (go_simp; done) | (go_simp; with_reducible rfl)
  simp only [Act.put, List.setIfInBounds_toArray, List.set_cons_zero, List.set_cons_succ]
  refine cy_reg (n := n) (wb := w3) _ hnz rfl (by kernel_rfl) ⟨_, rfl, rfl, rfl, rfl, by kernel_rfl⟩ ⟨_, rfl, rfl, rfl, rfl, by kernel_rfl⟩ ⟨_, rfl, rfl, rfl, rfl, by kernel_rfl⟩ ⟨_, rfl, rfl, rfl, rfl, by kernel_rfl⟩ (Nat.le_of_ble_eq_true (by rfl)) rfl rfl rfl ?_ ?_ _ hHeld
  · rfl
  intro v12 v34 v35 g gm W6 I
  obtain ⟨rfl, rfl, rfl, hb36, hv6, hg6, hgm6, hfm6⟩ := cy_end I
  clear I hHeld
  simp only [Gcy, Act.put, List.setIfInBounds_toArray, List.set_cons_zero, List.set_cons_succ]
  have hB6 : BelW W1 W6 := joinB HB23.out hb36
  have hw3 : W1.heap.size ≤ w3.heap.size := Below.size HB23.out
  have hg1 : W1.heap.size ≤ g := Nat.le_trans hw3 hg6
  have hd6 := HD3.out.below hb36
  have hdg : d ≠ g := by have := HD3.out.lt; omega
  have hmg : gm ≠ g := hfm6.apart9 hv6.fr (by decide)
  have HGB : Hid (∀ W, W6.grownBy W (some g) → BelW W1 W) := Lib.hid fun W h => bgrown hB6 h hg1
  have HMC : Hid (∀ W, W6.grownBy W (some g) → W.cell? ⟨gm, 0, none⟩ = some (.slice A0 n c0) ∧ W.cell? ⟨gm, 1, none⟩ = some (.slice A1 n1 c1) ∧ W.cell? ⟨gm, 2, none⟩ = some (.slice A2 m c2) ∧ W.cell? ⟨gm, 3, none⟩ = some (.slice A3 n3 c3) ∧ W.cell? ⟨gm, 4, none⟩ = some (.slice As0 ns d0) ∧ W.cell? ⟨gm, 5, none⟩ = some (.slice As1 m d1) ∧ W.cell? ⟨gm, 6, none⟩ = some (.slice As2 p2 d2) ∧ W.cell? ⟨gm, 7, none⟩ = some (.slice (some ⟨g, 0, none⟩) n n)) := Lib.hid fun W h => by
    have h2 : some gm ≠ some g := by simpa using hmg
    exact ⟨h.cell (hfm6.cell 0) h2, h.cell (hfm6.cell 1) h2, h.cell (hfm6.cell 2) h2, h.cell (hfm6.cell 3) h2, h.cell (hfm6.cell 4) h2, h.cell (hfm6.cell 5) h2, h.cell (hfm6.cell 6) h2, h.cell (hfm6.cell 7) h2⟩
  have HKE : Hid (∀ w', W6.grownBy w' (some g) → W6.grownBy w' (some g) ∧ w'.cell? ⟨s, 0, none⟩ = some (.slice A0 n c0) ∧ w'.cell? ⟨s, 1, none⟩ = some (.slice A1 n1 c1) ∧ w'.cell? ⟨s, 2, none⟩ = some (.slice A2 m c2) ∧ w'.cell? ⟨s, 3, none⟩ = some (.slice A3 n3 c3) ∧ w'.cell? ⟨s + 1, 0, none⟩ = some (.slice As0 ns d0) ∧ w'.cell? ⟨s + 1, 1, none⟩ = some (.slice As1 m d1) ∧ w'.cell? ⟨s + 1, 2, none⟩ = some (.slice As2 p2 d2) ∧ w'.cell? ⟨gm, 0, none⟩ = some (.slice A0 n c0) ∧ w'.cell? ⟨gm, 1, none⟩ = some (.slice A1 n1 c1) ∧ w'.cell? ⟨gm, 2, none⟩ = some (.slice A2 m c2) ∧ w'.cell? ⟨gm, 3, none⟩ = some (.slice A3 n3 c3) ∧ w'.cell? ⟨gm, 4, none⟩ = some (.slice As0 ns d0) ∧ w'.cell? ⟨gm, 5, none⟩ = some (.slice As1 m d1) ∧ w'.cell? ⟨gm, 6, none⟩ = some (.slice As2 p2 d2) ∧ w'.cell? ⟨gm, 7, none⟩ = some (.slice (some ⟨g, 0, none⟩) n n)) := Lib.hid fun w' h => by
    obtain ⟨q0, q1, q2, q3, q4, q5, q6⟩ := HCE.out w' (HGB.out w' h)
    obtain ⟨z0, z1, z2, z3, z4, z5, z6, z7⟩ := HMC.out w' h
    exact ⟨h, q0, q1, q2, q3, q4, q5, q6, z0, z1, z2, z3, z4, z5, z6, z7⟩
  have HV6 := Lib.hid hv6
  have HFM : Hid (∀ W, W6.grownBy W (some g) → Fr W gm 90 [.slice A0 n c0, .slice A1 n1 c1, .slice A2 m c2, .slice A3 n3 c3, .slice As0 ns d0, .slice As1 m d1, .slice As2 p2 d2, .slice (some ⟨g, 0, none⟩) n n]) := Lib.hid fun W h => hfm6.kept h (by simpa using hmg)
  have HD6 := Lib.hid hd6
  have HDG := Lib.hid hdg
  have HGG : Hid (w.heap.size ≤ g) := Lib.hid (Nat.le_trans (Below.size (HB1.out W1 (Below.refl _ _))) hg1)
  have HAS1 : Hid (∀ W A, W6.grownBy W (some g) → Is W W.heap.size (.slice A ni ni) (ofTo c.nodes [0] c.nodes.length) → VRow W g (List.replicate n 0) → Calls Tryz.prog 35 #[.agg #[.slice A0 n c0, .slice A1 n1 c1, .slice A2 m c2, .slice A3 n3 c3, .slice As0 ns d0, .slice As1 m d1, .slice As2 p2 d2, .slice (some ⟨g, 0, none⟩) n n], .slice A ni ni, .slice Ai ni ci] W fun e w' => e = .returned (.tuple #[]) ∧ VRow w' g (asg (List.replicate n 0) (ofTo c.nodes [0] c.nodes.length) inp) ∧ W.grownBy w' (some g)) := Lib.hid fun W A h hi hv => by
    have hbw := HB1.out W (HGB.out W h)
    exact massign_any (List.replicate n 0) (ofTo c.nodes [0] c.nodes.length) inp _ _ _ _ _ _ _ A Ai ni ci g n ni w.heap.size W hv hi (Arr.keep stays_u8 HIR.out (Nat.le_refl _) fun _ hp => Below.cell hbw hp) HGG.out HOK.out.hni.symm HOK.out.li.symm (List.length_replicate ..).symm (fun x hx => by have := ofTo_in hx; rw [HOK.out.hn] at this; exact this)
  have HAS2 : Hid (∀ W A, W6.grownBy W (some g) → Is W W.heap.size (.slice A ns ns) (ofTo c.nodes [14] c.nodes.length) → VRow W g (asg (List.replicate n 0) (ofTo c.nodes [0] c.nodes.length) inp) → Calls Tryz.prog 35 #[.agg #[.slice A0 n c0, .slice A1 n1 c1, .slice A2 m c2, .slice A3 n3 c3, .slice As0 ns d0, .slice As1 m d1, .slice As2 p2 d2, .slice (some ⟨g, 0, none⟩) n n], .slice A ns ns, .slice As0 ns d0] W fun e w' => e = .returned (.tuple #[]) ∧ VRow w' g (cyB c n s9 inp) ∧ W.grownBy w' (some g)) := Lib.hid fun W A h hi hv => by
    have hbw := HB1.out W (HGB.out W h)
    exact massign_any _ (ofTo c.nodes [14] c.nodes.length) s9.dff _ _ _ _ _ _ _ A As0 ns d0 g n ns w.heap.size W hv hi (Arr.keep stays_u8 HSR.out.sd (Nat.le_refl _) fun _ hp => Below.cell hbw hp) HGG.out HOK.out.hns.symm HOK.out.ld.symm (by rw [asg_len, List.length_replicate]) (fun x hx => by have := ofTo_in hx; rw [HOK.out.hn] at this; exact this)
  have HEV : Hid (∀ W, W6.grownBy W (some g) → VRow W g (cyB c n s9 inp) → Calls Tryz.prog 38 #[.agg #[.slice A0 n c0, .slice A1 n1 c1, .slice A2 m c2, .slice A3 n3 c3, .slice As0 ns d0, .slice As1 m d1, .slice As2 p2 d2, .slice (some ⟨g, 0, none⟩) n n], .slice (some ⟨d, 0, none⟩) n n] W fun e w' => e = .returned (.tuple #[]) ∧ VRow w' g (stmK c.nodes s9.read (cyB c n s9 inp) R n) ∧ W.grownBy w' (some g)) := Lib.hid fun W h hv => by
    have hbw := HB1.out W (HGB.out W h)
    have hok := HOK.out
    have hdW : Row W d R := HD6.out.kept h (by simpa using HDG.out)
    exact (meval_any c.nodes s9.read (cyB c n s9 inp) R A0 As2 _ _ _ _ _ n c0 p2 d2 g d n w W hbw HGG.out HTB.out HNN.out HSR.out.sr hv (by unfold cyB; rw [asg_len, asg_len, List.length_replicate]) hdW HDG.out HR.out.2.1 HR.out.2.2 hok.wf hok.pins hok.mem hok.nsz).mono fun e w' ⟨h1, h2, _, h4⟩ => ⟨h1, h2, h4⟩
  have hg0 : W6.grownBy W6 (some g) := World.grownBy.refl _ _
  have hv60 : VRow W6.drew g (List.replicate n 0) := hv6.below (BelW.drew (Below.refl _ _))
  have hbd : BelW w W6.drew := HB1.out _ (HGB.out _ (gdrew hg0))
  clear hB6 hw3 hg1 hd6 hdg hmg hb36 hv6 hg6 hgm6 hfm6
  go_upto_region 7 with (fail)
  go_region_held3 (fun w' => W6.grownBy w' (some g) ∧ w'.cell? ⟨s, 0, none⟩ = some (.slice A0 n c0) ∧ w'.cell? ⟨s, 1, none⟩ = some (.slice A1 n1 c1) ∧ w'.cell? ⟨s, 2, none⟩ = some (.slice A2 m c2) ∧ w'.cell? ⟨s, 3, none⟩ = some (.slice A3 n3 c3) ∧ w'.cell? ⟨s + 1, 0, none⟩ = some (.slice As0 ns d0) ∧ w'.cell? ⟨s + 1, 1, none⟩ = some (.slice As1 m d1) ∧ w'.cell? ⟨s + 1, 2, none⟩ = some (.slice As2 p2 d2) ∧ w'.cell? ⟨gm, 0, none⟩ = some (.slice A0 n c0) ∧ w'.cell? ⟨gm, 1, none⟩ = some (.slice A1 n1 c1) ∧ w'.cell? ⟨gm, 2, none⟩ = some (.slice A2 m c2) ∧ w'.cell? ⟨gm, 3, none⟩ = some (.slice A3 n3 c3) ∧ w'.cell? ⟨gm, 4, none⟩ = some (.slice As0 ns d0) ∧ w'.cell? ⟨gm, 5, none⟩ = some (.slice As1 m d1) ∧ w'.cell? ⟨gm, 6, none⟩ = some (.slice As2 p2 d2) ∧ w'.cell? ⟨gm, 7, none⟩ = some (.slice (some ⟨g, 0, none⟩) n n))
    ((refine HKE.out _ ?_; first | (with_reducible assumption) | (refine gdrew ?_; with_reducible assumption)))
    (first
      | (go_at_call 36; (refine Calls.mono (HIN.out _ hbd) ?_)
         rintro e w7 ⟨Ai2, rfl, his7, hb7⟩
         have hg7 : W6.grownBy w7 (some g) := gnext (gdrew hg0) hb7
         have hv7 : VRow w7 g (List.replicate n 0) := hv60.below hb7)
      | (go_at_call 35; (with_reducible refine Calls.mono (HAS1.out w7 Ai2 hg7 his7 hv7) ?_)
         rintro e w8 ⟨rfl, hv8, hg78⟩
         have hg8 : W6.grownBy w8 (some g) := gtrans hg7 hg78))
  have HV8 := Lib.hid hv8
  have HG8 := Lib.hid hg8
  have hv80 : VRow w8.drew g (asg (List.replicate n 0) (ofTo c.nodes [0] c.nodes.length) inp) := hv8.below (BelW.drew (Below.refl _ _))
  have hbd8 : BelW w w8.drew := HB1.out _ (HGB.out _ (gdrew hg8))
  clear hg0 hv60 hbd his7 hb7 hg7 hv7 hv8 hg78
  go_upto_region 8 with (fail)
  go_region_held3 (fun w' => W6.grownBy w' (some g) ∧ w'.cell? ⟨s, 0, none⟩ = some (.slice A0 n c0) ∧ w'.cell? ⟨s, 1, none⟩ = some (.slice A1 n1 c1) ∧ w'.cell? ⟨s, 2, none⟩ = some (.slice A2 m c2) ∧ w'.cell? ⟨s, 3, none⟩ = some (.slice A3 n3 c3) ∧ w'.cell? ⟨s + 1, 0, none⟩ = some (.slice As0 ns d0) ∧ w'.cell? ⟨s + 1, 1, none⟩ = some (.slice As1 m d1) ∧ w'.cell? ⟨s + 1, 2, none⟩ = some (.slice As2 p2 d2) ∧ w'.cell? ⟨gm, 0, none⟩ = some (.slice A0 n c0) ∧ w'.cell? ⟨gm, 1, none⟩ = some (.slice A1 n1 c1) ∧ w'.cell? ⟨gm, 2, none⟩ = some (.slice A2 m c2) ∧ w'.cell? ⟨gm, 3, none⟩ = some (.slice A3 n3 c3) ∧ w'.cell? ⟨gm, 4, none⟩ = some (.slice As0 ns d0) ∧ w'.cell? ⟨gm, 5, none⟩ = some (.slice As1 m d1) ∧ w'.cell? ⟨gm, 6, none⟩ = some (.slice As2 p2 d2) ∧ w'.cell? ⟨gm, 7, none⟩ = some (.slice (some ⟨g, 0, none⟩) n n))
    ((refine HKE.out _ ?_; first | (with_reducible assumption) | (refine gdrew ?_; with_reducible assumption)))
    (first
      | (go_at_call 37; (refine Calls.mono (HSN.out _ hbd8) ?_)
         rintro e w9 ⟨Ai3, rfl, his9, hb9⟩
         have hg9 : W6.grownBy w9 (some g) := gnext (gdrew hg8) hb9
         have hv9 := hv80.below hb9)
      | (go_at_call 35; (with_reducible refine Calls.mono (HAS2.out w9 Ai3 hg9 his9 hv9) ?_)
         rintro e w10 ⟨rfl, hv10, hg910⟩
         have hg10 : W6.grownBy w10 (some g) := gtrans hg9 hg910))
  have HEV10 := Lib.hid (HEV.out w10 hg10 hv10)
  have HG10 := Lib.hid hg10
  obtain ⟨-, x0, x1, x2, x3, y0, y1, y2, z0, z1, z2, z3, z4, z5, z6, z7⟩ := HKE.out w10 hg10
  clear hg8 hv80 hbd8 his9 hb9 hg9 hv9 hv10 hg910 hg10
  go_upto_region 10 with (go_at_call 38; (with_reducible refine HEV10.out.mono ?_); rintro e w11 ⟨rfl, hv11, hg11⟩; have HV11 := Lib.hid hv11; have HG11 : Hid (W6.grownBy w11 (some g)) := Lib.hid (gtrans HG10.out hg11); clear x0 x1 x2 x3 y0 y1 y2 z0 z1 z2 z3 z4 z5 z6 z7 hv11 hg11)
  obtain ⟨nets, HNE⟩ := named (stmK c.nodes s9.read (cyB c n s9 inp) R n)
  have HND : Hid (nets = stmK c.nodes s9.read (cyB c n s9 inp) R n) := HNE
  rw [← HNE.out] at HV11
  have hnl : nets.length = n := by rw [HNE.out, stmK_len]; unfold cyB; rw [asg_len, asg_len, List.length_replicate]
  have hnx : (nextV c nets).length = ns := by unfold nextV; rw [List.length_map]; exact HOK.out.hns
  have HOB : Hid (Calls Tryz.prog 39 #[.agg #[.slice A0 n c0, .slice A1 n1 c1, .slice A2 m c2, .slice A3 n3 c3], .slice (some ⟨g, 0, none⟩) n n] w11 fun e w' => ∃ go gn, e = .returned (.agg #[.slice (some ⟨go, 0, none⟩) (outV c nets).length (outV c nets).length, .slice (some ⟨gn, 0, none⟩) ns ns]) ∧ VRow w' go (outV c nets) ∧ VRow w' gn (nextV c nets) ∧ BelW w11 w') := Lib.hid (by
    have hbw := HB1.out w11 (HGB.out w11 HG11.out)
    have hcc := (HCI.out.below hbw).more (Below.size hbw)
    rw [← HOK.out.hn, ← HLN.out.1, ← HOK.out.hm, ← HLN.out.2] at hcc
    have hks := HV11.out.ks
    rw [hnl] at hks
    have := observe_any c nets A0 A1 A2 A3 (some ⟨g, 0, none⟩) c0 c1 c2 c3 n n w11 w11.heap.size (Nat.le_refl _) hcc hks (by rw [HOK.out.hn]; exact hnz) HOK.out.outs
    rw [HOK.out.hn, HLN.out.1, HOK.out.hm, HLN.out.2] at this
    refine this.mono fun e w' ⟨go, gn, h1, h2, h3, _, _, _, h7⟩ => ⟨go, gn, ?_, h2, h3, h7⟩
    rw [h1, hnx])
  obtain ⟨-, x0, x1, x2, x3, y0, y1, y2, z0, z1, z2, z3, z4, z5, z6, z7⟩ := HKE.out w11 HG11.out
  have HNL := Lib.hid hnl
  have HNX := Lib.hid hnx
  clear hnl hnx
  go_upto_region 11 with (go_at_call 39; (with_reducible refine HOB.out.mono ?_); rintro e w12 ⟨go, gn, rfl, hvo, hvn, hb12⟩; have HVO := Lib.hid hvo; have HVN := Lib.hid hvn; have HB12 : Hid (BelW w11 w12) := Lib.hid hb12; clear x0 x1 x2 x3 y0 y1 y2 z0 z1 z2 z3 z4 z5 z6 z7 hvo hvn hb12)
  obtain ⟨lo, HLO⟩ := named (outV c nets).length
  rw [← HLO.out]
  obtain ⟨W13, HW13⟩ := named (w12.alloc (.cells #[.slice (some ⟨go, 0, none⟩) lo lo, .slice (some ⟨gn, 0, none⟩) ns ns] 49))
  rw [← HW13.out]
  have hb1213 : BelW w12 W13 := by rw [HW13.out]; exact below_new (Below.refl _ _) _
  have hfu : Fr W13 w12.heap.size 49 [.slice (some ⟨go, 0, none⟩) lo lo, .slice (some ⟨gn, 0, none⟩) ns ns] := by rw [HW13.out]; exact Fr.made _ [.slice (some ⟨go, 0, none⟩) lo lo, .slice (some ⟨gn, 0, none⟩) ns ns] _ rfl
  obtain ⟨u, HU⟩ := named w12.heap.size
  rw [← HU.out] at hfu
  rw [← HU.out]
  have hb13 : BelW w11 W13 := joinB HB12.out hb1213
  have hbw13 : BelW W1 W13 := joinB (HGB.out w11 HG11.out) hb13
  have HB13 : Hid (∀ W, BelW W13 W → BelW w W) := Lib.hid fun W h => HB1.out W (joinB hbw13 h)
  have hfm13 : Fr W13 gm 90 [.slice A0 n c0, .slice A1 n1 c1, .slice A2 m c2, .slice A3 n3 c3, .slice As0 ns d0, .slice As1 m d1, .slice As2 p2 d2, .slice (some ⟨g, 0, none⟩) n n] := (HFM.out w11 HG11.out).below hb13
  have HMU : Hid (∀ W, BelW W13 W → W.cell? ⟨u, 0, none⟩ = some (.slice (some ⟨go, 0, none⟩) lo lo) ∧ W.cell? ⟨u, 1, none⟩ = some (.slice (some ⟨gn, 0, none⟩) ns ns) ∧ W.cell? ⟨gm, 0, none⟩ = some (.slice A0 n c0) ∧ W.cell? ⟨gm, 1, none⟩ = some (.slice A1 n1 c1) ∧ W.cell? ⟨gm, 2, none⟩ = some (.slice A2 m c2) ∧ W.cell? ⟨gm, 3, none⟩ = some (.slice A3 n3 c3) ∧ W.cell? ⟨gm, 4, none⟩ = some (.slice As0 ns d0) ∧ W.cell? ⟨gm, 5, none⟩ = some (.slice As1 m d1) ∧ W.cell? ⟨gm, 6, none⟩ = some (.slice As2 p2 d2) ∧ W.cell? ⟨gm, 7, none⟩ = some (.slice (some ⟨g, 0, none⟩) n n)) := Lib.hid fun W h => ⟨(hfu.below h).cell 0, (hfu.below h).cell 1, (hfm13.below h).cell 0, (hfm13.below h).cell 1, (hfm13.below h).cell 2, (hfm13.below h).cell 3, (hfm13.below h).cell 4, (hfm13.below h).cell 5, (hfm13.below h).cell 6, (hfm13.below h).cell 7⟩
  have hns1 : ns ≤ 1000000 := by rw [← HOK.out.hns]; exact Nat.le_trans (ofTo_len _ _ _) (by rw [HOK.out.hn]; exact hnz)
  have hvn13 := HVN.out.below hb1213
  have HNXT : Hid (∀ W, BelW W13 W → Calls Tryz.prog 40 #[.agg #[.slice A0 n c0, .slice A1 n1 c1, .slice A2 m c2, .slice A3 n3 c3, .slice As0 ns d0, .slice As1 m d1, .slice As2 p2 d2, .slice (some ⟨g, 0, none⟩) n n], .slice (some ⟨gn, 0, none⟩) ns ns] W fun e w' => ∃ gB D1 D2, e = .returned (.agg #[.slice (some ⟨gB, 0, none⟩) ns ns, .slice (some ⟨D1, 0, none⟩) m m, .slice (some ⟨D2, 0, none⟩) m m]) ∧ VRow w' gB (bitsL (nextV c nets) ns) ∧ (∃ L, W.heap.size ≤ L ∧ OSt w' D1 D2 L m (fun k => (s9.words.getD k []).length) (nxW c.mems s9.words nets) (nxR c.mems s9.words nets) m m) ∧ BelW W w') := Lib.hid fun W h => by
    have hbw := HB13.out W h
    have hks := (hvn13.below h).ks
    rw [HNX.out] at hks
    exact mnext_any c.mems s9.words nets (nextV c nets) A2 As1 (some ⟨gn, 0, none⟩) _ _ _ _ _ m c2 d1 g n ns ns W ((HMM.out.below hbw).more (Below.size hbw)) (Arr.keep stays_wws HSR.out.sw (Below.size hbw) fun _ hp => Below.cell hbw hp) ((HV11.out.below hb13).below h) HNL.out hks HOK.out.nx HOK.out.msz hns1
  have HS3 : Hid (∀ W gB D1 D2, BelW W13 W → (BelW w (((W.setCell ⟨s + 1 + 1, 0, none⟩ (.slice (some ⟨gB, 0, none⟩) ns ns)).setCell ⟨s + 1 + 1, 1, none⟩ (.slice (some ⟨D1, 0, none⟩) m m)).setCell ⟨s + 1 + 1, 2, none⟩ (.slice (some ⟨D2, 0, none⟩) m m)) ∧ (((W.setCell ⟨s + 1 + 1, 0, none⟩ (.slice (some ⟨gB, 0, none⟩) ns ns)).setCell ⟨s + 1 + 1, 1, none⟩ (.slice (some ⟨D1, 0, none⟩) m m)).setCell ⟨s + 1 + 1, 2, none⟩ (.slice (some ⟨D2, 0, none⟩) m m)).cell? ⟨u, 0, none⟩ = some (.slice (some ⟨go, 0, none⟩) lo lo) ∧ (((W.setCell ⟨s + 1 + 1, 0, none⟩ (.slice (some ⟨gB, 0, none⟩) ns ns)).setCell ⟨s + 1 + 1, 1, none⟩ (.slice (some ⟨D1, 0, none⟩) m m)).setCell ⟨s + 1 + 1, 2, none⟩ (.slice (some ⟨D2, 0, none⟩) m m)).cell? ⟨u, 1, none⟩ = some (.slice (some ⟨gn, 0, none⟩) ns ns) ∧ (((W.setCell ⟨s + 1 + 1, 0, none⟩ (.slice (some ⟨gB, 0, none⟩) ns ns)).setCell ⟨s + 1 + 1, 1, none⟩ (.slice (some ⟨D1, 0, none⟩) m m)).setCell ⟨s + 1 + 1, 2, none⟩ (.slice (some ⟨D2, 0, none⟩) m m)).cell? ⟨gm, 0, none⟩ = some (.slice A0 n c0) ∧ (((W.setCell ⟨s + 1 + 1, 0, none⟩ (.slice (some ⟨gB, 0, none⟩) ns ns)).setCell ⟨s + 1 + 1, 1, none⟩ (.slice (some ⟨D1, 0, none⟩) m m)).setCell ⟨s + 1 + 1, 2, none⟩ (.slice (some ⟨D2, 0, none⟩) m m)).cell? ⟨gm, 1, none⟩ = some (.slice A1 n1 c1) ∧ (((W.setCell ⟨s + 1 + 1, 0, none⟩ (.slice (some ⟨gB, 0, none⟩) ns ns)).setCell ⟨s + 1 + 1, 1, none⟩ (.slice (some ⟨D1, 0, none⟩) m m)).setCell ⟨s + 1 + 1, 2, none⟩ (.slice (some ⟨D2, 0, none⟩) m m)).cell? ⟨gm, 2, none⟩ = some (.slice A2 m c2) ∧ (((W.setCell ⟨s + 1 + 1, 0, none⟩ (.slice (some ⟨gB, 0, none⟩) ns ns)).setCell ⟨s + 1 + 1, 1, none⟩ (.slice (some ⟨D1, 0, none⟩) m m)).setCell ⟨s + 1 + 1, 2, none⟩ (.slice (some ⟨D2, 0, none⟩) m m)).cell? ⟨gm, 3, none⟩ = some (.slice A3 n3 c3) ∧ (((W.setCell ⟨s + 1 + 1, 0, none⟩ (.slice (some ⟨gB, 0, none⟩) ns ns)).setCell ⟨s + 1 + 1, 1, none⟩ (.slice (some ⟨D1, 0, none⟩) m m)).setCell ⟨s + 1 + 1, 2, none⟩ (.slice (some ⟨D2, 0, none⟩) m m)).cell? ⟨gm, 4, none⟩ = some (.slice As0 ns d0) ∧ (((W.setCell ⟨s + 1 + 1, 0, none⟩ (.slice (some ⟨gB, 0, none⟩) ns ns)).setCell ⟨s + 1 + 1, 1, none⟩ (.slice (some ⟨D1, 0, none⟩) m m)).setCell ⟨s + 1 + 1, 2, none⟩ (.slice (some ⟨D2, 0, none⟩) m m)).cell? ⟨gm, 5, none⟩ = some (.slice As1 m d1) ∧ (((W.setCell ⟨s + 1 + 1, 0, none⟩ (.slice (some ⟨gB, 0, none⟩) ns ns)).setCell ⟨s + 1 + 1, 1, none⟩ (.slice (some ⟨D1, 0, none⟩) m m)).setCell ⟨s + 1 + 1, 2, none⟩ (.slice (some ⟨D2, 0, none⟩) m m)).cell? ⟨gm, 6, none⟩ = some (.slice As2 p2 d2) ∧ (((W.setCell ⟨s + 1 + 1, 0, none⟩ (.slice (some ⟨gB, 0, none⟩) ns ns)).setCell ⟨s + 1 + 1, 1, none⟩ (.slice (some ⟨D1, 0, none⟩) m m)).setCell ⟨s + 1 + 1, 2, none⟩ (.slice (some ⟨D2, 0, none⟩) m m)).cell? ⟨gm, 7, none⟩ = some (.slice (some ⟨g, 0, none⟩) n n)) ∧ (BelW w (((((W.setCell ⟨s + 1 + 1, 0, none⟩ (.slice (some ⟨gB, 0, none⟩) ns ns)).setCell ⟨s + 1 + 1, 1, none⟩ (.slice (some ⟨D1, 0, none⟩) m m)).setCell ⟨s + 1 + 1, 2, none⟩ (.slice (some ⟨D2, 0, none⟩) m m)).setCell ⟨s + 1 + 1 + 1, 0, none⟩ (.slice (some ⟨go, 0, none⟩) lo lo)).setCell ⟨s + 1 + 1 + 1, 1, none⟩ (.slice (some ⟨gn, 0, none⟩) ns ns)) ∧ (((((W.setCell ⟨s + 1 + 1, 0, none⟩ (.slice (some ⟨gB, 0, none⟩) ns ns)).setCell ⟨s + 1 + 1, 1, none⟩ (.slice (some ⟨D1, 0, none⟩) m m)).setCell ⟨s + 1 + 1, 2, none⟩ (.slice (some ⟨D2, 0, none⟩) m m)).setCell ⟨s + 1 + 1 + 1, 0, none⟩ (.slice (some ⟨go, 0, none⟩) lo lo)).setCell ⟨s + 1 + 1 + 1, 1, none⟩ (.slice (some ⟨gn, 0, none⟩) ns ns)).cell? ⟨u, 0, none⟩ = some (.slice (some ⟨go, 0, none⟩) lo lo) ∧ (((((W.setCell ⟨s + 1 + 1, 0, none⟩ (.slice (some ⟨gB, 0, none⟩) ns ns)).setCell ⟨s + 1 + 1, 1, none⟩ (.slice (some ⟨D1, 0, none⟩) m m)).setCell ⟨s + 1 + 1, 2, none⟩ (.slice (some ⟨D2, 0, none⟩) m m)).setCell ⟨s + 1 + 1 + 1, 0, none⟩ (.slice (some ⟨go, 0, none⟩) lo lo)).setCell ⟨s + 1 + 1 + 1, 1, none⟩ (.slice (some ⟨gn, 0, none⟩) ns ns)).cell? ⟨u, 1, none⟩ = some (.slice (some ⟨gn, 0, none⟩) ns ns) ∧ (((((W.setCell ⟨s + 1 + 1, 0, none⟩ (.slice (some ⟨gB, 0, none⟩) ns ns)).setCell ⟨s + 1 + 1, 1, none⟩ (.slice (some ⟨D1, 0, none⟩) m m)).setCell ⟨s + 1 + 1, 2, none⟩ (.slice (some ⟨D2, 0, none⟩) m m)).setCell ⟨s + 1 + 1 + 1, 0, none⟩ (.slice (some ⟨go, 0, none⟩) lo lo)).setCell ⟨s + 1 + 1 + 1, 1, none⟩ (.slice (some ⟨gn, 0, none⟩) ns ns)).cell? ⟨gm, 0, none⟩ = some (.slice A0 n c0) ∧ (((((W.setCell ⟨s + 1 + 1, 0, none⟩ (.slice (some ⟨gB, 0, none⟩) ns ns)).setCell ⟨s + 1 + 1, 1, none⟩ (.slice (some ⟨D1, 0, none⟩) m m)).setCell ⟨s + 1 + 1, 2, none⟩ (.slice (some ⟨D2, 0, none⟩) m m)).setCell ⟨s + 1 + 1 + 1, 0, none⟩ (.slice (some ⟨go, 0, none⟩) lo lo)).setCell ⟨s + 1 + 1 + 1, 1, none⟩ (.slice (some ⟨gn, 0, none⟩) ns ns)).cell? ⟨gm, 1, none⟩ = some (.slice A1 n1 c1) ∧ (((((W.setCell ⟨s + 1 + 1, 0, none⟩ (.slice (some ⟨gB, 0, none⟩) ns ns)).setCell ⟨s + 1 + 1, 1, none⟩ (.slice (some ⟨D1, 0, none⟩) m m)).setCell ⟨s + 1 + 1, 2, none⟩ (.slice (some ⟨D2, 0, none⟩) m m)).setCell ⟨s + 1 + 1 + 1, 0, none⟩ (.slice (some ⟨go, 0, none⟩) lo lo)).setCell ⟨s + 1 + 1 + 1, 1, none⟩ (.slice (some ⟨gn, 0, none⟩) ns ns)).cell? ⟨gm, 2, none⟩ = some (.slice A2 m c2) ∧ (((((W.setCell ⟨s + 1 + 1, 0, none⟩ (.slice (some ⟨gB, 0, none⟩) ns ns)).setCell ⟨s + 1 + 1, 1, none⟩ (.slice (some ⟨D1, 0, none⟩) m m)).setCell ⟨s + 1 + 1, 2, none⟩ (.slice (some ⟨D2, 0, none⟩) m m)).setCell ⟨s + 1 + 1 + 1, 0, none⟩ (.slice (some ⟨go, 0, none⟩) lo lo)).setCell ⟨s + 1 + 1 + 1, 1, none⟩ (.slice (some ⟨gn, 0, none⟩) ns ns)).cell? ⟨gm, 3, none⟩ = some (.slice A3 n3 c3) ∧ (((((W.setCell ⟨s + 1 + 1, 0, none⟩ (.slice (some ⟨gB, 0, none⟩) ns ns)).setCell ⟨s + 1 + 1, 1, none⟩ (.slice (some ⟨D1, 0, none⟩) m m)).setCell ⟨s + 1 + 1, 2, none⟩ (.slice (some ⟨D2, 0, none⟩) m m)).setCell ⟨s + 1 + 1 + 1, 0, none⟩ (.slice (some ⟨go, 0, none⟩) lo lo)).setCell ⟨s + 1 + 1 + 1, 1, none⟩ (.slice (some ⟨gn, 0, none⟩) ns ns)).cell? ⟨gm, 4, none⟩ = some (.slice As0 ns d0) ∧ (((((W.setCell ⟨s + 1 + 1, 0, none⟩ (.slice (some ⟨gB, 0, none⟩) ns ns)).setCell ⟨s + 1 + 1, 1, none⟩ (.slice (some ⟨D1, 0, none⟩) m m)).setCell ⟨s + 1 + 1, 2, none⟩ (.slice (some ⟨D2, 0, none⟩) m m)).setCell ⟨s + 1 + 1 + 1, 0, none⟩ (.slice (some ⟨go, 0, none⟩) lo lo)).setCell ⟨s + 1 + 1 + 1, 1, none⟩ (.slice (some ⟨gn, 0, none⟩) ns ns)).cell? ⟨gm, 5, none⟩ = some (.slice As1 m d1) ∧ (((((W.setCell ⟨s + 1 + 1, 0, none⟩ (.slice (some ⟨gB, 0, none⟩) ns ns)).setCell ⟨s + 1 + 1, 1, none⟩ (.slice (some ⟨D1, 0, none⟩) m m)).setCell ⟨s + 1 + 1, 2, none⟩ (.slice (some ⟨D2, 0, none⟩) m m)).setCell ⟨s + 1 + 1 + 1, 0, none⟩ (.slice (some ⟨go, 0, none⟩) lo lo)).setCell ⟨s + 1 + 1 + 1, 1, none⟩ (.slice (some ⟨gn, 0, none⟩) ns ns)).cell? ⟨gm, 6, none⟩ = some (.slice As2 p2 d2) ∧ (((((W.setCell ⟨s + 1 + 1, 0, none⟩ (.slice (some ⟨gB, 0, none⟩) ns ns)).setCell ⟨s + 1 + 1, 1, none⟩ (.slice (some ⟨D1, 0, none⟩) m m)).setCell ⟨s + 1 + 1, 2, none⟩ (.slice (some ⟨D2, 0, none⟩) m m)).setCell ⟨s + 1 + 1 + 1, 0, none⟩ (.slice (some ⟨go, 0, none⟩) lo lo)).setCell ⟨s + 1 + 1 + 1, 1, none⟩ (.slice (some ⟨gn, 0, none⟩) ns ns)).cell? ⟨gm, 7, none⟩ = some (.slice (some ⟨g, 0, none⟩) n n))) := Lib.hid fun W gB D1 D2 h => by
    have ft := HFT.out.below (joinB hbw13 h)
    have frr := HFR.out.below (joinB hbw13 h)
    have fu := hfu.below h
    have fm := hfm13.below h
    have hsw := HSW.out
    have hlt := HFR.out.lt
    have hu2 : W1.heap.size ≤ u := by rw [HU.out]; exact Nat.le_trans (Below.size (HGB.out w11 HG11.out)) (Below.size HB12.out)
    have n1 : s + 1 + 1 ≠ u := by omega
    have n3 : s + 1 + 1 + 1 ≠ u := by omega
    have n2 := ft.apart9 fm (by decide)
    have n4 := frr.apart9 fm (by decide)
    have hw := HB13.out W h
    have a1 := (((fu.other (a := ⟨s + 1 + 1, 0, none⟩) n1 (.slice (some ⟨gB, 0, none⟩) ns ns)).other (a := ⟨s + 1 + 1, 1, none⟩) n1 (.slice (some ⟨D1, 0, none⟩) m m)).other (a := ⟨s + 1 + 1, 2, none⟩) n1 (.slice (some ⟨D2, 0, none⟩) m m))
    have a2 := (((fm.other (a := ⟨s + 1 + 1, 0, none⟩) n2 (.slice (some ⟨gB, 0, none⟩) ns ns)).other (a := ⟨s + 1 + 1, 1, none⟩) n2 (.slice (some ⟨D1, 0, none⟩) m m)).other (a := ⟨s + 1 + 1, 2, none⟩) n2 (.slice (some ⟨D2, 0, none⟩) m m))
    have b1 := (((((fu.other (a := ⟨s + 1 + 1, 0, none⟩) n1 (.slice (some ⟨gB, 0, none⟩) ns ns)).other (a := ⟨s + 1 + 1, 1, none⟩) n1 (.slice (some ⟨D1, 0, none⟩) m m)).other (a := ⟨s + 1 + 1, 2, none⟩) n1 (.slice (some ⟨D2, 0, none⟩) m m)).other (a := ⟨s + 1 + 1 + 1, 0, none⟩) n3 (.slice (some ⟨go, 0, none⟩) lo lo)).other (a := ⟨s + 1 + 1 + 1, 1, none⟩) n3 (.slice (some ⟨gn, 0, none⟩) ns ns))
    have b2 := (((((fm.other (a := ⟨s + 1 + 1, 0, none⟩) n2 (.slice (some ⟨gB, 0, none⟩) ns ns)).other (a := ⟨s + 1 + 1, 1, none⟩) n2 (.slice (some ⟨D1, 0, none⟩) m m)).other (a := ⟨s + 1 + 1, 2, none⟩) n2 (.slice (some ⟨D2, 0, none⟩) m m)).other (a := ⟨s + 1 + 1 + 1, 0, none⟩) n4 (.slice (some ⟨go, 0, none⟩) lo lo)).other (a := ⟨s + 1 + 1 + 1, 1, none⟩) n4 (.slice (some ⟨gn, 0, none⟩) ns ns))
    exact ⟨⟨(((hw.setCell (p := ⟨s + 1 + 1, 0, none⟩) (by show w.heap.size ≤ s + 1 + 1; omega) (.slice (some ⟨gB, 0, none⟩) ns ns)).setCell (p := ⟨s + 1 + 1, 1, none⟩) (by show w.heap.size ≤ s + 1 + 1; omega) (.slice (some ⟨D1, 0, none⟩) m m)).setCell (p := ⟨s + 1 + 1, 2, none⟩) (by show w.heap.size ≤ s + 1 + 1; omega) (.slice (some ⟨D2, 0, none⟩) m m)), a1.cell 0, a1.cell 1, a2.cell 0, a2.cell 1, a2.cell 2, a2.cell 3, a2.cell 4, a2.cell 5, a2.cell 6, a2.cell 7⟩, ⟨(((((hw.setCell (p := ⟨s + 1 + 1, 0, none⟩) (by show w.heap.size ≤ s + 1 + 1; omega) (.slice (some ⟨gB, 0, none⟩) ns ns)).setCell (p := ⟨s + 1 + 1, 1, none⟩) (by show w.heap.size ≤ s + 1 + 1; omega) (.slice (some ⟨D1, 0, none⟩) m m)).setCell (p := ⟨s + 1 + 1, 2, none⟩) (by show w.heap.size ≤ s + 1 + 1; omega) (.slice (some ⟨D2, 0, none⟩) m m)).setCell (p := ⟨s + 1 + 1 + 1, 0, none⟩) (by show w.heap.size ≤ s + 1 + 1 + 1; omega) (.slice (some ⟨go, 0, none⟩) lo lo)).setCell (p := ⟨s + 1 + 1 + 1, 1, none⟩) (by show w.heap.size ≤ s + 1 + 1 + 1; omega) (.slice (some ⟨gn, 0, none⟩) ns ns)), b1.cell 0, b1.cell 1, b2.cell 0, b2.cell 1, b2.cell 2, b2.cell 3, b2.cell 4, b2.cell 5, b2.cell 6, b2.cell 7⟩⟩
  have HF5 : Hid (∀ W gB D1 D2 L, BelW W13 W → VRow W gB (bitsL (nextV c nets) ns) → W13.heap.size ≤ L → OSt W D1 D2 L m (fun k => (s9.words.getD k []).length) (nxW c.mems s9.words nets) (nxR c.mems s9.words nets) m m → VRow (((((W.setCell ⟨s + 1 + 1, 0, none⟩ (.slice (some ⟨gB, 0, none⟩) ns ns)).setCell ⟨s + 1 + 1, 1, none⟩ (.slice (some ⟨D1, 0, none⟩) m m)).setCell ⟨s + 1 + 1, 2, none⟩ (.slice (some ⟨D2, 0, none⟩) m m)).setCell ⟨s + 1 + 1 + 1, 0, none⟩ (.slice (some ⟨go, 0, none⟩) lo lo)).setCell ⟨s + 1 + 1 + 1, 1, none⟩ (.slice (some ⟨gn, 0, none⟩) ns ns)) g nets ∧ VRow (((((W.setCell ⟨s + 1 + 1, 0, none⟩ (.slice (some ⟨gB, 0, none⟩) ns ns)).setCell ⟨s + 1 + 1, 1, none⟩ (.slice (some ⟨D1, 0, none⟩) m m)).setCell ⟨s + 1 + 1, 2, none⟩ (.slice (some ⟨D2, 0, none⟩) m m)).setCell ⟨s + 1 + 1 + 1, 0, none⟩ (.slice (some ⟨go, 0, none⟩) lo lo)).setCell ⟨s + 1 + 1 + 1, 1, none⟩ (.slice (some ⟨gn, 0, none⟩) ns ns)) go (outV c nets) ∧ VRow (((((W.setCell ⟨s + 1 + 1, 0, none⟩ (.slice (some ⟨gB, 0, none⟩) ns ns)).setCell ⟨s + 1 + 1, 1, none⟩ (.slice (some ⟨D1, 0, none⟩) m m)).setCell ⟨s + 1 + 1, 2, none⟩ (.slice (some ⟨D2, 0, none⟩) m m)).setCell ⟨s + 1 + 1 + 1, 0, none⟩ (.slice (some ⟨go, 0, none⟩) lo lo)).setCell ⟨s + 1 + 1 + 1, 1, none⟩ (.slice (some ⟨gn, 0, none⟩) ns ns)) gn (nextV c nets) ∧ VRow (((((W.setCell ⟨s + 1 + 1, 0, none⟩ (.slice (some ⟨gB, 0, none⟩) ns ns)).setCell ⟨s + 1 + 1, 1, none⟩ (.slice (some ⟨D1, 0, none⟩) m m)).setCell ⟨s + 1 + 1, 2, none⟩ (.slice (some ⟨D2, 0, none⟩) m m)).setCell ⟨s + 1 + 1 + 1, 0, none⟩ (.slice (some ⟨go, 0, none⟩) lo lo)).setCell ⟨s + 1 + 1 + 1, 1, none⟩ (.slice (some ⟨gn, 0, none⟩) ns ns)) gB (bitsL (nextV c nets) ns) ∧ (OSt (((((W.setCell ⟨s + 1 + 1, 0, none⟩ (.slice (some ⟨gB, 0, none⟩) ns ns)).setCell ⟨s + 1 + 1, 1, none⟩ (.slice (some ⟨D1, 0, none⟩) m m)).setCell ⟨s + 1 + 1, 2, none⟩ (.slice (some ⟨D2, 0, none⟩) m m)).setCell ⟨s + 1 + 1 + 1, 0, none⟩ (.slice (some ⟨go, 0, none⟩) lo lo)).setCell ⟨s + 1 + 1 + 1, 1, none⟩ (.slice (some ⟨gn, 0, none⟩) ns ns)) D1 D2 L m (fun k => (s9.words.getD k []).length) (nxW c.mems s9.words nets) (nxR c.mems s9.words nets) m m) ∧ BelW w (((((W.setCell ⟨s + 1 + 1, 0, none⟩ (.slice (some ⟨gB, 0, none⟩) ns ns)).setCell ⟨s + 1 + 1, 1, none⟩ (.slice (some ⟨D1, 0, none⟩) m m)).setCell ⟨s + 1 + 1, 2, none⟩ (.slice (some ⟨D2, 0, none⟩) m m)).setCell ⟨s + 1 + 1 + 1, 0, none⟩ (.slice (some ⟨go, 0, none⟩) lo lo)).setCell ⟨s + 1 + 1 + 1, 1, none⟩ (.slice (some ⟨gn, 0, none⟩) ns ns)) ∧ Fr (((((W.setCell ⟨s + 1 + 1, 0, none⟩ (.slice (some ⟨gB, 0, none⟩) ns ns)).setCell ⟨s + 1 + 1, 1, none⟩ (.slice (some ⟨D1, 0, none⟩) m m)).setCell ⟨s + 1 + 1, 2, none⟩ (.slice (some ⟨D2, 0, none⟩) m m)).setCell ⟨s + 1 + 1 + 1, 0, none⟩ (.slice (some ⟨go, 0, none⟩) lo lo)).setCell ⟨s + 1 + 1 + 1, 1, none⟩ (.slice (some ⟨gn, 0, none⟩) ns ns)) (s + 1 + 1) 45 [.slice (some ⟨gB, 0, none⟩) ns ns, .slice (some ⟨D1, 0, none⟩) m m, .slice (some ⟨D2, 0, none⟩) m m] ∧ Fr (((((W.setCell ⟨s + 1 + 1, 0, none⟩ (.slice (some ⟨gB, 0, none⟩) ns ns)).setCell ⟨s + 1 + 1, 1, none⟩ (.slice (some ⟨D1, 0, none⟩) m m)).setCell ⟨s + 1 + 1, 2, none⟩ (.slice (some ⟨D2, 0, none⟩) m m)).setCell ⟨s + 1 + 1 + 1, 0, none⟩ (.slice (some ⟨go, 0, none⟩) lo lo)).setCell ⟨s + 1 + 1 + 1, 1, none⟩ (.slice (some ⟨gn, 0, none⟩) ns ns)) (s + 1 + 1 + 1) 49 [.slice (some ⟨go, 0, none⟩) lo lo, .slice (some ⟨gn, 0, none⟩) ns ns]) := Lib.hid fun W gB D1 D2 L h hvB hL hst => by
    have ft := HFT.out.below (joinB hbw13 h)
    have frr := HFR.out.below (joinB hbw13 h)
    have hsw := HSW.out
    have hlt := HFR.out.lt
    have hlt2 := Below.size hbw13
    have hw := HB13.out W h
    have v1 := (HV11.out.below hb13).below h
    have v2 := (HVO.out.below hb1213).below h
    have v3 := hvn13.below h
    have frn := (((frr.other (a := ⟨s + 1 + 1, 0, none⟩) (by show s + 1 + 1 ≠ s + 1 + 1 + 1; omega) (.slice (some ⟨gB, 0, none⟩) ns ns)).other (a := ⟨s + 1 + 1, 1, none⟩) (by show s + 1 + 1 ≠ s + 1 + 1 + 1; omega) (.slice (some ⟨D1, 0, none⟩) m m)).other (a := ⟨s + 1 + 1, 2, none⟩) (by show s + 1 + 1 ≠ s + 1 + 1 + 1; omega) (.slice (some ⟨D2, 0, none⟩) m m))
    have e1 := (((ft.set 0 (.slice (some ⟨gB, 0, none⟩) ns ns)).set 1 (.slice (some ⟨D1, 0, none⟩) m m)).set 2 (.slice (some ⟨D2, 0, none⟩) m m))
    have e2 := ((frn.set 0 (.slice (some ⟨go, 0, none⟩) lo lo)).set 1 (.slice (some ⟨gn, 0, none⟩) ns ns))
    refine ⟨(((((v1.other (a := ⟨s + 1 + 1, 0, none⟩) (ft.apart9 v1.fr (by decide)) (.slice (some ⟨gB, 0, none⟩) ns ns)).other (a := ⟨s + 1 + 1, 1, none⟩) (ft.apart9 v1.fr (by decide)) (.slice (some ⟨D1, 0, none⟩) m m)).other (a := ⟨s + 1 + 1, 2, none⟩) (ft.apart9 v1.fr (by decide)) (.slice (some ⟨D2, 0, none⟩) m m)).other (a := ⟨s + 1 + 1 + 1, 0, none⟩) (frr.apart9 v1.fr (by decide)) (.slice (some ⟨go, 0, none⟩) lo lo)).other (a := ⟨s + 1 + 1 + 1, 1, none⟩) (frr.apart9 v1.fr (by decide)) (.slice (some ⟨gn, 0, none⟩) ns ns)), (((((v2.other (a := ⟨s + 1 + 1, 0, none⟩) (ft.apart9 v2.fr (by decide)) (.slice (some ⟨gB, 0, none⟩) ns ns)).other (a := ⟨s + 1 + 1, 1, none⟩) (ft.apart9 v2.fr (by decide)) (.slice (some ⟨D1, 0, none⟩) m m)).other (a := ⟨s + 1 + 1, 2, none⟩) (ft.apart9 v2.fr (by decide)) (.slice (some ⟨D2, 0, none⟩) m m)).other (a := ⟨s + 1 + 1 + 1, 0, none⟩) (frr.apart9 v2.fr (by decide)) (.slice (some ⟨go, 0, none⟩) lo lo)).other (a := ⟨s + 1 + 1 + 1, 1, none⟩) (frr.apart9 v2.fr (by decide)) (.slice (some ⟨gn, 0, none⟩) ns ns)), (((((v3.other (a := ⟨s + 1 + 1, 0, none⟩) (ft.apart9 v3.fr (by decide)) (.slice (some ⟨gB, 0, none⟩) ns ns)).other (a := ⟨s + 1 + 1, 1, none⟩) (ft.apart9 v3.fr (by decide)) (.slice (some ⟨D1, 0, none⟩) m m)).other (a := ⟨s + 1 + 1, 2, none⟩) (ft.apart9 v3.fr (by decide)) (.slice (some ⟨D2, 0, none⟩) m m)).other (a := ⟨s + 1 + 1 + 1, 0, none⟩) (frr.apart9 v3.fr (by decide)) (.slice (some ⟨go, 0, none⟩) lo lo)).other (a := ⟨s + 1 + 1 + 1, 1, none⟩) (frr.apart9 v3.fr (by decide)) (.slice (some ⟨gn, 0, none⟩) ns ns)), (((((hvB.other (a := ⟨s + 1 + 1, 0, none⟩) (ft.apart9 hvB.fr (by decide)) (.slice (some ⟨gB, 0, none⟩) ns ns)).other (a := ⟨s + 1 + 1, 1, none⟩) (ft.apart9 hvB.fr (by decide)) (.slice (some ⟨D1, 0, none⟩) m m)).other (a := ⟨s + 1 + 1, 2, none⟩) (ft.apart9 hvB.fr (by decide)) (.slice (some ⟨D2, 0, none⟩) m m)).other (a := ⟨s + 1 + 1 + 1, 0, none⟩) (frr.apart9 hvB.fr (by decide)) (.slice (some ⟨go, 0, none⟩) lo lo)).other (a := ⟨s + 1 + 1 + 1, 1, none⟩) (frr.apart9 hvB.fr (by decide)) (.slice (some ⟨gn, 0, none⟩) ns ns)), (((((hst.off ft (by omega) 0 (.slice (some ⟨gB, 0, none⟩) ns ns)).off (ft.set 0 (.slice (some ⟨gB, 0, none⟩) ns ns)) (by omega) 1 (.slice (some ⟨D1, 0, none⟩) m m)).off ((ft.set 0 (.slice (some ⟨gB, 0, none⟩) ns ns)).set 1 (.slice (some ⟨D1, 0, none⟩) m m)) (by omega) 2 (.slice (some ⟨D2, 0, none⟩) m m)).offT frn (by decide) (by decide) (by decide) (by omega) 0 (.slice (some ⟨go, 0, none⟩) lo lo)).offT (frn.set 0 (.slice (some ⟨go, 0, none⟩) lo lo)) (by decide) (by decide) (by decide) (by omega) 1 (.slice (some ⟨gn, 0, none⟩) ns ns)), (((((hw.setCell (p := ⟨s + 1 + 1, 0, none⟩) (by show w.heap.size ≤ s + 1 + 1; omega) (.slice (some ⟨gB, 0, none⟩) ns ns)).setCell (p := ⟨s + 1 + 1, 1, none⟩) (by show w.heap.size ≤ s + 1 + 1; omega) (.slice (some ⟨D1, 0, none⟩) m m)).setCell (p := ⟨s + 1 + 1, 2, none⟩) (by show w.heap.size ≤ s + 1 + 1; omega) (.slice (some ⟨D2, 0, none⟩) m m)).setCell (p := ⟨s + 1 + 1 + 1, 0, none⟩) (by show w.heap.size ≤ s + 1 + 1 + 1; omega) (.slice (some ⟨go, 0, none⟩) lo lo)).setCell (p := ⟨s + 1 + 1 + 1, 1, none⟩) (by show w.heap.size ≤ s + 1 + 1 + 1; omega) (.slice (some ⟨gn, 0, none⟩) ns ns)), ((e1.other (a := ⟨s + 1 + 1 + 1, 0, none⟩) (by show s + 1 + 1 + 1 ≠ s + 1 + 1; omega) (.slice (some ⟨go, 0, none⟩) lo lo)).other (a := ⟨s + 1 + 1 + 1, 1, none⟩) (by show s + 1 + 1 + 1 ≠ s + 1 + 1; omega) (.slice (some ⟨gn, 0, none⟩) ns ns)), e2⟩
  have hs13 : BelW W13 W13 := Below.refl _ _
  have HRB : Hid (∀ W, BelW W13 W → W.cell? ⟨s + 1 + 1, 0, none⟩ = some (.slice none 0 0) ∧ W.cell? ⟨s + 1 + 1, 1, none⟩ = some (.slice none 0 0) ∧ W.cell? ⟨s + 1 + 1, 2, none⟩ = some (.slice none 0 0) ∧ W.cell? ⟨s + 1 + 1 + 1, 0, none⟩ = some (.slice none 0 0) ∧ W.cell? ⟨s + 1 + 1 + 1, 1, none⟩ = some (.slice none 0 0) ∧ (W.frozen? ⟨s + 1 + 1, 0, none⟩ = false ∧ W.frozen? ⟨s + 1 + 1, 1, none⟩ = false ∧ W.frozen? ⟨s + 1 + 1, 2, none⟩ = false) ∧ W.frozen? ⟨s + 1 + 1 + 1, 0, none⟩ = false ∧ W.frozen? ⟨s + 1 + 1 + 1, 1, none⟩ = false) := Lib.hid fun W h => by
    have ft := HFT.out.below (joinB hbw13 h)
    have frr := HFR.out.below (joinB hbw13 h)
    exact ⟨ft.cell 0, ft.cell 1, ft.cell 2, frr.cell 0, frr.cell 1, ⟨ft.frozen 0, ft.frozen 1, ft.frozen 2⟩, frr.frozen 0, frr.frozen 1⟩
  have HK11 : Hid (∀ w', BelW W13 w' → BelW w w' ∧ w'.cell? ⟨u, 0, none⟩ = some (.slice (some ⟨go, 0, none⟩) lo lo) ∧ w'.cell? ⟨u, 1, none⟩ = some (.slice (some ⟨gn, 0, none⟩) ns ns) ∧ w'.cell? ⟨gm, 0, none⟩ = some (.slice A0 n c0) ∧ w'.cell? ⟨gm, 1, none⟩ = some (.slice A1 n1 c1) ∧ w'.cell? ⟨gm, 2, none⟩ = some (.slice A2 m c2) ∧ w'.cell? ⟨gm, 3, none⟩ = some (.slice A3 n3 c3) ∧ w'.cell? ⟨gm, 4, none⟩ = some (.slice As0 ns d0) ∧ w'.cell? ⟨gm, 5, none⟩ = some (.slice As1 m d1) ∧ w'.cell? ⟨gm, 6, none⟩ = some (.slice As2 p2 d2) ∧ w'.cell? ⟨gm, 7, none⟩ = some (.slice (some ⟨g, 0, none⟩) n n)) := Lib.hid fun w' h => by
    obtain ⟨r0, r1, z0, z1, z2, z3, z4, z5, z6, z7⟩ := HMU.out w' h
    exact ⟨HB13.out w' h, r0, r1, z0, z1, z2, z3, z4, z5, z6, z7⟩
  have HSZ : Hid (∀ W L, BelW W13 W → W.heap.size ≤ L → W13.heap.size ≤ L) := Lib.hid fun W L h hl => Nat.le_trans (Below.size h) hl
  clear hb1213 hfu hb13 hbw13 hfm13 hns1 hvn13
  go_region_held3 (fun w' => BelW w w' ∧ w'.cell? ⟨u, 0, none⟩ = some (.slice (some ⟨go, 0, none⟩) lo lo) ∧ w'.cell? ⟨u, 1, none⟩ = some (.slice (some ⟨gn, 0, none⟩) ns ns) ∧ w'.cell? ⟨gm, 0, none⟩ = some (.slice A0 n c0) ∧ w'.cell? ⟨gm, 1, none⟩ = some (.slice A1 n1 c1) ∧ w'.cell? ⟨gm, 2, none⟩ = some (.slice A2 m c2) ∧ w'.cell? ⟨gm, 3, none⟩ = some (.slice A3 n3 c3) ∧ w'.cell? ⟨gm, 4, none⟩ = some (.slice As0 ns d0) ∧ w'.cell? ⟨gm, 5, none⟩ = some (.slice As1 m d1) ∧ w'.cell? ⟨gm, 6, none⟩ = some (.slice As2 p2 d2) ∧ w'.cell? ⟨gm, 7, none⟩ = some (.slice (some ⟨g, 0, none⟩) n n))
    ((first | (with_reducible exact h14a) | (with_reducible exact h14b) | (refine HK11.out _ ?_; with_reducible repeat (first | assumption | refine BelW.drew ?_ | refine BelW.alloc ?_ _))))
    ((go_at_call 40; (refine Calls.mono (HNXT.out _ (BelW.drew hs13)) ?_)
      rintro e w14 ⟨gB, D1, D2, rfl, hvB, ⟨L, hL, hst⟩, hb14⟩
      have hk14 : BelW W13 w14 := BelW.trans (BelW.drew hs13) hb14
      have hL13 := HSZ.out _ L (BelW.drew hs13) hL
      obtain ⟨h14a, h14b⟩ := HS3.out w14 gB D1 D2 hk14
      obtain ⟨t0, t1, t2, t3, t4, ⟨t5, t6, t7⟩, t8, t9⟩ := HRB.out w14 hk14))
  obtain ⟨f1, f2, f3, f4, f5, f6, f7, f8⟩ := HF5.out w14 gB D1 D2 L hk14 hvB hL13 hst
  (try simp only [Exit.inBlock, Exit.then])
  have hgo : (outV c nets).length = lo := HLO.out.symm
  have HFN := Lib.hid (And.intro f1 (And.intro f2 (And.intro f3 (And.intro f4 (And.intro f5 f6)))))
  clear h14a h14b t0 t1 t2 t3 t4 t5 t6 t7 t8 t9 f1 f2 f3 f4 f5 f6
  go_wp2
  (try simp only [Exit.inBlock, Exit.then])
  refine bodyPost_ret (results_row2_tmp2 rfl _ _ _ _ _ _ _ _ _ _ _ _ rfl f7 rfl f8 Tryz.underlying45 rfl (by kernel_rfl) Tryz.underlying49 rfl (by kernel_rfl)) rfl ?_
  refine ⟨R, gB, D1, D2, go, gn, g, HR.out.1, ?_⟩
  rw [← HNE.out, hgo]
  exact ⟨rfl, HFN.out.1, HFN.out.2.1, HFN.out.2.2.1, HFN.out.2.2.2.1, ⟨L, HFN.out.2.2.2.2.1⟩, HFN.out.2.2.2.2.2⟩
end Go.Proofs.YtkaedfgmhfefjaaGreatDoor

namespace Go.Proofs.YtkaedfgmhfefjaaGreatDoor
open Go.RowKit
structure FitS (c : Ck) (ns m : Nat) (s : Stt) : Prop where
  dl : s.dff.length = ns
  dv : ∀ j, j < ns → s.dff.getD j 0 ≤ 2
  wl : s.words.length = m
  wk : ∀ k, k < m → (s.words.getD k []).length = blN c.mems k ∧ ∀ i, i < blN c.mems k → ((s.words.getD k []).getD i []).length = (c.mems.getD k default).data.length ∧ ∀ j, j < (c.mems.getD k default).data.length → ((s.words.getD k []).getD i []).getD j 0 ≤ 2
  rl : s.read.length = m
  rk : ∀ k, k < m → (s.read.getD k []).length = (c.mems.getD k default).data.length ∧ ∀ j, j < (c.mems.getD k default).data.length → (s.read.getD k []).getD j 0 ≤ 2
theorem getD_range_map {α : Type} (f : Nat → α) (n k : Nat) (d : α) (h : k < n) : ((List.range n).map f).getD k d = f k := by
  rw [List.getD_eq_getElem?_getD, List.getElem?_map, List.getElem?_range h]
  rfl
theorem fits_rel {c : Ck} {ns m : Nat} {s : Stt} (F : FitS c ns m s) (p : Int → Int → Bool) (hp : ∀ a b, a ≤ 2 → p a b = true) : relS p s (blS c ns m) = true := by
  have h1 : relL p s.dff (blS c ns m).dff = true := allEq_of 0 p _ _ (by rw [F.dl]; simp [blS]) fun j hj => hp _ _ (F.dv j (by rw [← F.dl]; exact hj))
  have h2 : relV p s.words (blS c ns m).words = true := allEq_of [] (relW p) _ _ (by rw [F.wl]; simp [blS]) fun k hk => by
    rw [F.wl] at hk
    have e : (blS c ns m).words.getD k [] = (List.range (blN c.mems k)).map (blW c.mems k) := getD_range_map _ _ _ _ hk
    rw [e]
    refine allEq_of [] (relL p) _ _ (by rw [(F.wk k hk).1]; simp) fun i hi => ?_
    rw [(F.wk k hk).1] at hi
    rw [getD_range_map _ _ _ _ hi]
    obtain ⟨g1, g2⟩ := (F.wk k hk).2 i hi
    exact allEq_of 0 p _ _ (by rw [g1]; simp [blW]) fun j hj => hp _ _ (g2 j (by rw [← g1]; exact hj))
  have h3 : relW p s.read (blS c ns m).read = true := allEq_of [] (relL p) _ _ (by rw [F.rl]; simp [blS]) fun k hk => by
    rw [F.rl] at hk
    have e : (blS c ns m).read.getD k [] = blR c.mems k := getD_range_map _ _ _ _ hk
    rw [e]
    obtain ⟨g1, g2⟩ := F.rk k hk
    exact allEq_of 0 p _ _ (by rw [g1]; simp [blR]) fun j hj => hp _ _ (g2 j (by rw [← g1]; exact hj))
  unfold relS
  rw [h1, h2, h3]
  rfl
theorem ck_fits {c : Ck} {ni ns m : Nat} {s : Stt} {inp : List Int} (F : FitS c ns m s) (hl : inp.length = ni) (hv : ∀ j, j < inp.length → inp.getD j 0 ≤ 3) : ckC c ni ns m s inp = 0 := by
  have h1 := fits_rel F yesI (fun _ _ _ => rfl)
  have h2 := fits_rel F lowI (fun a b h => by unfold lowI; simpa using h)
  have h3 : anyP higV inp = false := anyP_no fun j hj => by
    have := hv j hj
    unfold higV
    rw [decide_eq_false_iff_not]
    omega
  unfold ckC
  rw [if_neg (by rw [hl]; simp), h1, h2, h3]
  rfl
theorem FitS.nx {c : Ck} {n ns m : Nat} {s : Stt} (F : FitS c ns m s) (hm : c.mems.length = m) (hp : ∀ k, k < m → (∀ x ∈ (c.mems.getD k default).addr, 0 ≤ x ∧ x < (n : Int)) ∧ (∀ x ∈ (c.mems.getD k default).data, 0 ≤ x ∧ x < (n : Int)) ∧ 0 ≤ (c.mems.getD k default).write ∧ (c.mems.getD k default).write < (n : Int) ∧ (c.mems.getD k default).addr.length ≤ 9 ∧ (c.mems.getD k default).data.length ≤ 1000) : NxOk c.mems s.words n := by
  refine ⟨by rw [F.wl, hm], fun k hk => ?_, fun k hk => ?_⟩
  · obtain ⟨a, b, c1, d, e, f⟩ := hp k (by rw [← hm]; exact hk)
    exact ⟨a, b, c1, d, by omega, f⟩
  · rw [hm] at hk
    obtain ⟨g1, g2⟩ := F.wk k hk
    obtain ⟨-, -, -, -, e, f⟩ := hp k hk
    have h2 : 2 ^ (c.mems.getD k default).addr.length ≤ 2 ^ 9 := Nat.pow_le_pow_right (by decide) e
    have h3 : 0 < 2 ^ (c.mems.getD k default).addr.length := Nat.pow_pos (by decide)
    have e1 : blN c.mems k = 2 ^ (c.mems.getD k default).addr.length := rfl
    have e2 : (2 : Nat) ^ 9 = 512 := by decide
    exact ⟨by omega, by omega, fun i hi => by rw [g1] at hi; rw [(g2 i hi).1]; exact f⟩
end Go.Proofs.YtkaedfgmhfefjaaGreatDoor

namespace Go.Proofs.YtkaedfgmhfefjaaGreatDoor
open Go.RowKit
theorem agL_get {a b : List Int} {j : Nat} (hj : j < a.length) : (agL a b).getD j 0 = agB a b j := by
  unfold agL
  rw [List.getD_eq_getElem?_getD, List.getElem?_map, List.getElem?_range hj]
  rfl
theorem lk_all (ws : List (List Int)) (ad : List Int) (n j : Nat) (hj : j < n) (x : Int) (hx : x = 0 ∨ x = 1) : ∀ k, ((lkS ws ad n k).1 = true ∧ (lkS ws ad n k).2.getD j 0 = x) ↔ ((∃ i, i < k ∧ mat ad i = true) ∧ ∀ i, i < k → mat ad i = true → (bitsL (ws.getD i []) n).getD j 0 = x) := by
  intro k
  induction k with
  | zero =>
    constructor
    · rintro ⟨h, -⟩
      exact absurd h (by simp [lkS])
    · rintro ⟨⟨i, hi, -⟩, -⟩
      exact absurd hi (by omega)
  | succ k ih =>
    have hlen := lkS_len ws ad n k
    have h1 : (lkS ws ad n k).1 = true ↔ ∃ i, i < k ∧ mat ad i = true := by
      clear ih
      induction k with
      | zero =>
        constructor
        · intro h; exact absurd h (by simp [lkS])
        · rintro ⟨i, hi, -⟩; exact absurd hi (by omega)
      | succ k ih =>
        rw [lkS_succ]
        unfold lkStep
        by_cases hm : mat ad k = true
        · rw [if_pos hm]
          exact ⟨fun _ => ⟨k, by omega, hm⟩, fun _ => rfl⟩
        · rw [if_neg hm, ih (lkS_len ..)]
          constructor
          · rintro ⟨i, hi, h⟩; exact ⟨i, by omega, h⟩
          · rintro ⟨i, hi, h⟩
            by_cases e : i = k
            · exact absurd (e ▸ h) hm
            · exact ⟨i, by omega, h⟩
    rw [lkS_succ]
    unfold lkStep
    by_cases hm : mat ad k = true
    · rw [if_pos hm]
      by_cases hs : (lkS ws ad n k).1 = true
      · rw [if_pos hs]
        show (true = true ∧ (agL _ _).getD j 0 = x) ↔ _
        rw [agL_get (by rw [hlen]; exact hj)]
        unfold agB
        constructor
        · rintro ⟨-, h⟩
          by_cases e : (lkS ws ad n k).2.getD j 0 = (bitsL (ws.getD k []) n).getD j 0
          · rw [if_pos e] at h
            have := ih.1 ⟨hs, h⟩
            refine ⟨⟨k, by omega, hm⟩, fun i hi hmi => ?_⟩
            by_cases e2 : i = k
            · rw [e2, ← e, h]
            · exact this.2 i (by omega) hmi
          · rw [if_neg e] at h
            rcases hx with rfl | rfl <;> exact absurd h (by decide)
        · rintro ⟨-, h⟩
          have h2 := h k (by omega) hm
          have h3 := (ih.2 ⟨h1.1 hs, fun i hi hmi => h i (by omega) hmi⟩).2
          exact ⟨rfl, by rw [if_pos (h3.trans h2.symm)]; exact h3⟩
      · rw [if_neg hs]
        show (true = true ∧ (bitsL _ _).getD j 0 = x) ↔ _
        constructor
        · rintro ⟨-, h⟩
          refine ⟨⟨k, by omega, hm⟩, fun i hi hmi => ?_⟩
          by_cases e2 : i = k
          · rw [e2]; exact h
          · exact absurd (h1.2 ⟨i, by omega, hmi⟩) hs
        · rintro ⟨-, h⟩
          exact ⟨rfl, h k (by omega) hm⟩
    · rw [if_neg hm, ih]
      constructor
      · rintro ⟨⟨i, hi, h⟩, h2⟩
        refine ⟨⟨i, by omega, h⟩, fun i hi hmi => ?_⟩
        by_cases e2 : i = k
        · exact absurd (e2 ▸ hmi) hm
        · exact h2 i (by omega) hmi
      · rintro ⟨⟨i, hi, h⟩, h2⟩
        have hik : i ≠ k := fun e => hm (e ▸ h)
        exact ⟨⟨i, by omega, h⟩, fun i hi hmi => h2 i (by omega) hmi⟩
theorem mat_ex : ∀ ad : List Int, ∃ i, i < 2 ^ ad.length ∧ mat ad i = true
  | [] => ⟨0, by decide, by rw [mat_iff]; exact ⟨fun k hk => absurd hk (by simp), rfl⟩⟩
  | a :: t => by
    obtain ⟨i, hi, hm⟩ := mat_ex t
    rw [mat_iff] at hm
    have hlt : 2 * i + (if a = 1 then 1 else 0) < 2 ^ (a :: t).length := by
      rw [List.length_cons, Nat.pow_succ]
      split <;> omega
    refine ⟨2 * i + (if a = 1 then 1 else 0), hlt, ?_⟩
    rw [mat_iff]
    refine ⟨fun k hk => ?_, by rw [Nat.shiftRight_eq_div_pow]; exact Nat.div_eq_of_lt hlt⟩
    cases k with
    | zero =>
      intro hkn
      show a = ibit _ 0
      have hkn : knw a = true := hkn
      unfold ibit
      rw [Nat.testBit_zero]
      unfold knw at hkn
      by_cases h1 : a = 1
      · subst h1; simp
      · have h0 : a = 0 := by
          have : a = 0 ∨ a = 1 := by simpa using hkn
          omega
        subst h0; simp
    | succ k =>
      have h2 := hm.1 k (by simpa using hk)
      intro hkn
      have h3 : t.getD k 0 = ibit i k := h2 hkn
      show t.getD k 0 = ibit _ (k + 1)
      rw [h3]
      unfold ibit
      rw [Nat.testBit_succ]
      have : (2 * i + (if a = 1 then 1 else 0)) / 2 = i := by split <;> omega
      rw [this]
end Go.Proofs.YtkaedfgmhfefjaaGreatDoor

namespace Go.Proofs.YtkaedfgmhfefjaaGreatDoor
open Go.RowKit
open Lg
def LeW (a b : List (List Int)) : Prop := ∀ k, LeL (a.getD k []) (b.getD k [])
end Go.Proofs.YtkaedfgmhfefjaaGreatDoor

namespace Go.Proofs.YtkaedfgmhfefjaaGreatDoor
open Go.RowKit
def takV9 (l : List Int) (at0 : Nat) (i : Nat) : Int := if l.length = 0 then 2 else (l.getD ((at0 + i) % l.length) 0).tmod 3
def takL9 (l : List Int) (at0 : Nat) (n : Nat) : List Int := (List.range n).map (takV9 l at0)
theorem takL9_len (l : List Int) (at0 : Nat) (n : Nat) : (takL9 l at0 n).length = n := by simp [takL9]
theorem takL9_succ (l : List Int) (at0 : Nat) (n : Nat) : takL9 l at0 (n + 1) = takL9 l at0 n ++ [takV9 l at0 n] := by simp [takL9, List.range_succ]
set_option maxHeartbeats 2000000 in
theorem taken9_any (l : List Int) (at0 : Nat) (hat : at0 ≤ 10000000) (n : Nat) (hn : n ≤ 1000000) (A : Option Addr) (m cl : Nat) (w : World) (B : Nat) (hB : B ≤ w.heap.size) (hs : Ks w B (.slice A m cl) l) (h0 : ∀ x ∈ l, 0 ≤ x ∧ x ≤ 255) :
    Calls Tryz.prog 64 #[.slice A m cl, .int .i64 (at0 : Int), .int .i64 (n : Int)] w fun e w' => ∃ v, e = .returned v ∧ VStk w' w.heap.size v (takL9 l at0 n) ∧ Below w.heap.size w w' := by
  obtain ⟨A', b, o, c', e, hA, hle, hm, hc⟩ := hs.opens
  simp only [Value.slice.injEq] at e
  obtain ⟨rfl, hml, rfl⟩ := e
  have HA := Lib.hid hA
  have HC := Lib.hid hc
  have HML := Lib.hid hml
  have HSU := Lib.hid (fun k => takL9_succ l at0 k)
  have HLE := Lib.hid (fun k => takL9_len l at0 k)
  rw [← hml] at HA HC hm hle
  unfold maxLen at hm
  have HPOS := Lib.hid h0
  clear hs hA hc hml h0
  obtain ⟨i1, hi1, hz0, hz1, hz2⟩ := info_parts info_val
  have HI := Lib.hid (And.intro hi1 (And.intro hz0 (And.intro hz1 hz2)))
  clear hi1 hz0 hz1 hz2
  go_enter Tryz.func64, Tryz.ntmps64
  go_wp2
  go_loopw [7, 8] (fun sv ci wr => ∃ k : Nat, k ≤ n ∧ ci = .int .i64 k ∧ Below w.heap.size w wr ∧ w.heap.size ≤ wr.heap.size ∧ VStk wr w.heap.size sv (takL9 l at0 k)) (fun _ ci _ => n - (intOf ci).toNat)
  case atStart => exact ⟨0, Nat.zero_le _, rfl, Below.refl _ _, Nat.le_refl _, VStk.nil _ _⟩
  case round =>
    obtain ⟨k, hk, rfl, hb, hg, hst⟩ := hrel
    obtain ⟨A6, c6, rfl, hle6, hc6, -⟩ := hst.form
    have hol := HLE.out k
    rw [hol] at hle6
    by_cases hlt : k < n
    · have hsu := HSU.out k
      obtain ⟨x, HX⟩ := named (takV9 l at0 k)
      rw [← HX.out] at hsu
      have HS := Lib.hid hsu
      have HST := Lib.hid hst
      have HB := Lib.hid hb
      obtain ⟨st, HL⟩ := named (takL9 l at0 k)
      rw [← HL.out] at HST hol
      rw [← HL.out, hol]
      have HST2 : Hid (VStk wr w.heap.size (.slice A6 k c6) st) := Lib.hid (by have := HST.out; rw [hol] at this; exact this)
      have HOL := Lib.hid hol
      have HSTR : Hid (wr.ownsRow w.heap.size 77 1 (.slice A6 k c6) k (st.map (Value.int .u8))) := Lib.hid (by have := HST2.out; unfold VStk at this; rw [HOL.out] at this; exact this)
      rw [← HL.out] at HS
      clear hsu hst hb hol
      by_cases hz : m = 0
      · subst hz
        have hx : x = 2 := by rw [HX.out]; unfold takV9; rw [if_pos HML.out.symm]
        subst hx
        go_wp2_with (at_builtin; refine wpList_append_own_at _ rfl _ _ 41 rfl w.heap.size 77 i1 (.int .u8 0) 1 1 Tryz.underlying41 HI.out.1 HI.out.2.1 HI.out.2.2.1 HI.out.2.2.2 rfl (by decide) _ _ _ rfl (World.ownsRow.alloc HSTR.out _) ⟨wr.heap.size, 0, none⟩ 1 1 [.int .u8 2] rfl rfl (by have := one_new wr (.int .u8 2) 77; simpa using this) (ints_oneCell .u8 [2]) (by unfold maxLen; omega) (by omega) (by first | omega | (simp; omega)) ?_; intro v' w5 hown' hgrow hnil hloc; have HF := Lib.hid (vpush (x := 2) (by first | omega | (simp; omega)) HB.out HST2.out (by rw [HOL.out]; exact hown') hgrow); have HZ := Lib.hid hgrow.size; clear hown' hgrow hnil hloc)
        go_roundw
        case rel => exact ⟨k + 1, by omega, by go_num, HF.out.1, by have := HZ.out; simp at this; omega, by rw [HS.out]; exact HF.out.2⟩
        case measure => simp [intOf]; omega
      · have hmz : ¬ (m : Int) = 0 := by omega
        have hmod : (at0 + k) % m < m := Nat.mod_lt _ (by omega)
        have hadd : IntKind.i64.wrap ((at0 : Int) + (k : Int)) = (at0 : Int) + (k : Int) := (IntKind.wrap_i64 _).trans (by omega)
        have hkm : ((at0 : Int) + (k : Int)).tmod (m : Int) = (((at0 + k) % m : Nat) : Int) := by rw [Int.tmod_eq_emod_of_nonneg (by omega)]; simp
        obtain rfl := HA.out (by omega)
        obtain ⟨hlb, hx1⟩ := HC.out ((at0 + k) % m) hmod
        have hx2 : wr.cell? ⟨b, o + ((at0 + k) % m), none⟩ = some (.int .u8 (l.getD ((at0 + k) % m) 0)) := (HB.out.cell (p := ⟨b, _, none⟩) (by show b < w.heap.size; omega)).trans hx1
        have hmem := HPOS.out (l.getD ((at0 + k) % m) 0) (by rw [List.getD_eq_getElem?_getD, List.getElem?_eq_getElem (by rw [← HML.out]; exact hmod)]; exact List.getElem_mem _)
        have hxv : x = (l.getD ((at0 + k) % m) 0).tmod 3 := by rw [HX.out]; unfold takV9; rw [if_neg (by rw [← HML.out]; exact hz), ← HML.out]
        obtain ⟨y, HY⟩ := named (l.getD ((at0 + k) % m) 0)
        rw [← HY.out] at hx2 hmem hxv
        have hye : y.tmod 3 = x := hxv.symm
        have hxb : 0 ≤ x ∧ x ≤ 255 := by rw [hxv, Int.tmod_eq_emod_of_nonneg hmem.1]; have h1 := Int.emod_nonneg y (by decide : (3 : Int) ≠ 0); have h2 := Int.emod_lt_of_pos y (by decide : (0 : Int) < 3); omega
        have hwx : IntKind.u8.wrap (y.tmod 3) = x := by rw [hye]; simp [IntKind.wrap, IntKind.bits, IntKind.signed]; omega
        obtain ⟨kr, HKR⟩ := named ((at0 + k) % m)
        rw [← HKR.out] at hmod hkm hx2
        have hkrm : (kr : Int) < (m : Int) := by omega
        clear hx1 hxv
        go_wp2_with (at_builtin; refine wpList_append_own_at _ rfl _ _ 41 rfl w.heap.size 77 i1 (.int .u8 0) 1 1 Tryz.underlying41 HI.out.1 HI.out.2.1 HI.out.2.2.1 HI.out.2.2.2 rfl (by decide) _ _ _ rfl (World.ownsRow.alloc HSTR.out _) ⟨wr.heap.size, 0, none⟩ 1 1 [.int .u8 x] rfl rfl (by have := one_new wr (.int .u8 x) 77; simpa using this) (ints_oneCell .u8 [x]) (by unfold maxLen; omega) (by omega) (by first | omega | (simp; omega)) ?_; intro v' w5 hown' hgrow hnil hloc; have HF := Lib.hid (vpush (x := x) (by first | omega | (simp; omega)) HB.out HST2.out (by rw [HOL.out]; exact hown') hgrow); have HZ := Lib.hid hgrow.size; clear hown' hgrow hnil hloc)
        go_roundw
        case rel => exact ⟨k + 1, by omega, by go_num, HF.out.1, by have := HZ.out; simp at this; omega, by rw [HS.out]; exact HF.out.2⟩
        case measure => simp [intOf]; omega
    · obtain rfl : n = k := by omega
      go_wp2
      go_ret
      exact ⟨_, rfl, hst, hb⟩
end Go.Proofs.YtkaedfgmhfefjaaGreatDoor

namespace Go.Proofs.YtkaedfgmhfefjaaGreatDoor
open Go.RowKit
def posS (ms : List Mm) (ns : Nat) : Nat → Nat
  | 0 => ns
  | k + 1 => posS ms ns k + blN ms k * (ms.getD k default).data.length + (ms.getD k default).data.length
def sofS (c : Ck) (ns m : Nat) (l : List Int) : Stt :=
  ⟨takL9 l 0 ns, (List.range m).map fun k => (List.range (blN c.mems k)).map fun i => takL9 l (posS c.mems ns k + i * (c.mems.getD k default).data.length) (c.mems.getD k default).data.length,
    (List.range m).map fun k => takL9 l (posS c.mems ns k + blN c.mems k * (c.mems.getD k default).data.length) (c.mems.getD k default).data.length⟩
theorem takV9_le (l : List Int) (a i : Nat) : takV9 l a i ≤ 2 := by
  unfold takV9
  split
  · decide
  · have h := Int.tmod_lt_of_pos (l.getD ((a + i) % l.length) 0) (by decide : (0 : Int) < 3)
    omega
theorem takL9_le (l : List Int) (a n j : Nat) (hj : j < n) : (takL9 l a n).getD j 0 ≤ 2 := by
  unfold takL9
  rw [getD_range_map _ _ _ _ hj]
  exact takV9_le _ _ _
theorem sofS_fits (c : Ck) (ns m : Nat) (l : List Int) : FitS c ns m (sofS c ns m l) := by
  refine ⟨takL9_len _ _ _, fun j hj => takL9_le _ _ _ _ hj, by simp [sofS], fun k hk => ?_, by simp [sofS], fun k hk => ?_⟩
  · have e : (sofS c ns m l).words.getD k [] = (List.range (blN c.mems k)).map fun i => takL9 l (posS c.mems ns k + i * (c.mems.getD k default).data.length) (c.mems.getD k default).data.length := getD_range_map _ _ _ _ hk
    rw [e]
    refine ⟨by simp, fun i hi => ?_⟩
    rw [getD_range_map _ _ _ _ hi]
    exact ⟨takL9_len _ _ _, fun j hj => takL9_le _ _ _ _ hj⟩
  · have e : (sofS c ns m l).read.getD k [] = takL9 l (posS c.mems ns k + blN c.mems k * (c.mems.getD k default).data.length) (c.mems.getD k default).data.length := getD_range_map _ _ _ _ hk
    rw [e]
    exact ⟨takL9_len _ _ _, fun j hj => takL9_le _ _ _ _ hj⟩
structure LeS (s t : Stt) : Prop where
  d : Lg.LeL s.dff t.dff
  wl : s.words.length = t.words.length
  wk : ∀ k, (s.words.getD k []).length = (t.words.getD k []).length ∧ ∀ i, Lg.LeL ((s.words.getD k []).getD i []) ((t.words.getD k []).getD i [])
  rl : s.read.length = t.read.length
  r : LeW s.read t.read
theorem getD_none {α : Type} (l : List α) (k : Nat) (d : α) (h : l.length ≤ k) : l.getD k d = d := by
  rw [List.getD_eq_getElem?_getD, List.getElem?_eq_none h]
  rfl
end Go.Proofs.YtkaedfgmhfefjaaGreatDoor

namespace Go.Proofs.YtkaedfgmhfefjaaGreatDoor
open Go.RowKit
noncomputable def nxtS (c : Ck) (ns m : Nat) (s : Stt) (nets : List Int) : Stt :=
  ⟨bitsL (nextV c nets) ns, (List.range m).map fun k => (List.range (s.words.getD k []).length).map (nxW c.mems s.words nets k), (List.range m).map (nxR c.mems s.words nets)⟩
end Go.Proofs.YtkaedfgmhfefjaaGreatDoor
