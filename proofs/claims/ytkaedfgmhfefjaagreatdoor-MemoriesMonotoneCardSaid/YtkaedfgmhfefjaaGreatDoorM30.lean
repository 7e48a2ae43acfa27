/- The texts Cy9 Ows Smu Owx Ft9. -/
import Derived.Test.YtkaedfgmhfefjaaGreatDoorM26
import Derived.Test.YtkaedfgmhfefjaaGreatDoorM29
import Derived.Test.YtkaedfgmhfefjaaGreatDoorM13
import Derived.Test.YtkaedfgmhfefjaaGreatDoorM14
import Derived.Deep.RegionHeld3
namespace Go.Proofs.YtkaedfgmhfefjaaGreatDoor
open Go.RowKit

theorem gtrans {w w1 w2 : World} {r : Option Nat} (h : w.grownBy w1 r) (k : w1.grownBy w2 r) : w.grownBy w2 r := by
  obtain ⟨a1, a2, a3, a4, a5⟩ := h
  obtain ⟨b1, b2, b3, b4, b5⟩ := k
  exact ⟨b1.trans a1, b2.trans a2, b3.trans a3, Nat.le_trans a4 b4, fun i hi hne => (b5 i (Nat.lt_of_lt_of_le hi a4) hne).trans (a5 i hi hne)⟩
theorem results_row2_tmp2 {P : Program} {fn : Func} {p p' t1 t2 : Tmp} {ty ty' : TypeId} (h : fn.results = #[.cell p ty, .cell p' ty', .tmp t1, .tmp t2]) (tmps : Array Value) (w : World) (g g' : Nat) (t t' : TypeId) (cs cs' : Array Value) (fr fr' : Nat × Nat) (d d' : TypeDesc)
    (hp : tmps.getD p undef = .pointer (some ⟨g, 0, none⟩)) (hg : w.heap[g]? = some (.cells cs t fr)) (hp' : tmps.getD p' undef = .pointer (some ⟨g', 0, none⟩)) (hg' : w.heap[g']? = some (.cells cs' t' fr'))
    (hu : P.underlying ty = some d) (hd : (match d with | .struct _ | .array _ _ => true | _ => false) = true) (hi : (P.info? ty).map (·.size) = some cs.size)
    (hu' : P.underlying ty' = some d') (hd' : (match d' with | .struct _ | .array _ _ => true | _ => false) = true) (hi' : (P.info? ty').map (·.size) = some cs'.size) :
    (results fn tmps).run P w = .ok (.tuple #[.agg cs, .agg cs', tmps.getD t1 undef, tmps.getD t2 undef]) w := by
  have q : tmps[p]?.getD undef = .pointer (some ⟨g, 0, none⟩) := by simpa using hp
  have q' : tmps[p']?.getD undef = .pointer (some ⟨g', 0, none⟩) := by simpa using hp'
  simp [results, h, q, q', asAddr, run_loadVar_row w g t ty cs fr d hg hu hd hi, run_loadVar_row w g' t' ty' cs' fr' d' hg' hu' hd' hi', Sem.run_bind, Result.andThen]
theorem OSt.offT {w : World} {D1 D2 L m k1 k2 b : Nat} {nw : Nat → Nat} {fw : Nat → Nat → List Int} {fr : Nat → List Int} {t : TypeId} {l : List Value} (h : OSt w D1 D2 L m nw fw fr k1 k2) (hf : Fr w b t l) (ht1 : t ≠ 43) (ht2 : t ≠ 41) (ht3 : t ≠ 77) (hb : b < L) (j : Nat) (x : Value) : OSt (w.setCell ⟨b, j, none⟩ x) D1 D2 L m nw fw fr k1 k2 := by
  obtain ⟨⟨vs, a1, a2, a3⟩, ⟨us, b1, b2, b3⟩, d1, d2, ne⟩ := h
  exact ⟨⟨vs, a1.other (a := ⟨b, j, none⟩) (hf.apart9 a1 ht1) _, a2, fun i hi => by
    obtain ⟨D, T, e, s, l⟩ := a3 i hi
    exact ⟨D, T, e, s.other (a := ⟨b, j, none⟩) (Nat.lt_of_lt_of_le hb l) _, l⟩⟩, ⟨us, b1.other (a := ⟨b, j, none⟩) (hf.apart9 b1 ht2) _, b2, fun i hi => by
    obtain ⟨g, e, v⟩ := b3 i hi
    exact ⟨g, e, v.other (a := ⟨b, j, none⟩) (hf.apart9 v.fr ht3) _⟩⟩, d1, d2, ne⟩
/-- The nets' values before evaluate. -/
def cyB (c : Ck) (n : Nat) (s9 : Stt) (inp : List Int) : List Int := asg (asg (List.replicate n 0) (ofTo c.nodes [0] c.nodes.length) inp) (ofTo c.nodes [14] c.nodes.length) s9.dff
/-- What a cycle needs beside what its check says. -/
structure CyOk (c : Ck) (s9 : Stt) (inp : List Int) (n ni ns m : Nat) : Prop where
  hn : c.nodes.length = n
  hm : c.mems.length = m
  hni : (ofTo c.nodes [0] c.nodes.length).length = ni
  hns : (ofTo c.nodes [14] c.nodes.length).length = ns
  ck : ckC c ni ns m s9 inp = 0
  li : inp.length = ni
  ld : s9.dff.length = ns
  wf : Wf c.nodes
  pins : ∀ k, k < c.nodes.length → (c.nodes.getD k default).ins.length ≤ 16
  mem : MemOk c.nodes s9.read
  nx : NxOk c.mems s9.words n
  nsz : n ≤ 1000000
  msz : m ≤ 1000
  port : ∀ k, k < m → (c.mems.getD k default).addr.length ≤ 16 ∧ (c.mems.getD k default).data.length ≤ 1000
  outs : c.outs.length ≤ 17592186044416
set_option maxRecDepth 100000 in
set_option maxHeartbeats 8000000 in
theorem mcycle_ok (c : Ck) (s9 : Stt) (inp : List Int) (P : List Int → Prop) (A0 A1 A2 A3 As0 As1 As2 Ai : Option Addr) (n n1 m n3 c0 c1 c2 c3 p2 d0 d1 d2 ci ns ni : Nat) (w : World) (hT : Lg.Tabs w) (hC : Cir w w.heap.size (.agg #[.slice A0 n c0, .slice A1 n1 c1, .slice A2 m c2, .slice A3 n3 c3]) c) (hS : StR w w.heap.size As0 As1 As2 ns m p2 d0 d1 d2 s9) (hI : Ks w w.heap.size (.slice Ai ni ci) inp) (ok : CyOk c s9 inp n ni ns m)
    (hor : ∀ W, BelW w W → Calls Tryz.prog 33 #[.agg #[.slice A0 n c0, .slice A1 n1 c1, .slice A2 m c2, .slice A3 n3 c3]] W fun e w' => ∃ R d, (P R ∧ R.length = n ∧ ∀ x ∈ R, 0 ≤ x ∧ x < (n : Int)) ∧ e = .returned (.tuple #[.slice (some ⟨d, 0, none⟩) n n, .int .i64 0]) ∧ W.heap.size ≤ d ∧ Row w' d R ∧ BelW W w') :
    Calls Tryz.prog 9 #[.agg #[.slice A0 n c0, .slice A1 n1 c1, .slice A2 m c2, .slice A3 n3 c3], .agg #[.slice As0 ns d0, .slice As1 m d1, .slice As2 p2 d2], .slice Ai ni ci] w fun e w' => ∃ R gB D1 D2 go gn g, P R ∧ e = .returned (.tuple #[.agg #[.slice (some ⟨gB, 0, none⟩) ns ns, .slice (some ⟨D1, 0, none⟩) m m, .slice (some ⟨D2, 0, none⟩) m m], .agg #[.slice (some ⟨go, 0, none⟩) (outV c (stmK c.nodes s9.read (cyB c n s9 inp) R n)).length (outV c (stmK c.nodes s9.read (cyB c n s9 inp) R n)).length, .slice (some ⟨gn, 0, none⟩) ns ns], .slice (some ⟨g, 0, none⟩) n n, .int .i64 0])
      ∧ VRow w' g (stmK c.nodes s9.read (cyB c n s9 inp) R n) ∧ VRow w' go (outV c (stmK c.nodes s9.read (cyB c n s9 inp) R n)) ∧ VRow w' gn (nextV c (stmK c.nodes s9.read (cyB c n s9 inp) R n)) ∧ VRow w' gB (bitsL (nextV c (stmK c.nodes s9.read (cyB c n s9 inp) R n)) ns)
      ∧ (∃ L, OSt w' D1 D2 L m (fun k => (s9.words.getD k []).length) (nxW c.mems s9.words (stmK c.nodes s9.read (cyB c n s9 inp) R n)) (nxR c.mems s9.words (stmK c.nodes s9.read (cyB c n s9 inp) R n)) m m) ∧ BelW w w' := by
  obtain ⟨y0, y1, y2, y3, e, hN, hNm, hM, hO⟩ := id hC
  simp only [Value.agg.injEq, Array.mk.injEq, List.cons.injEq, and_true] at e
  obtain ⟨rfl, rfl, rfl, rfl⟩ := e
  obtain ⟨W1, HW1⟩ := named ((((w.alloc (.cells #[.slice A0 n c0, .slice A1 n1 c1, .slice A2 m c2, .slice A3 n3 c3] 39)).alloc (.cells #[.slice As0 ns d0, .slice As1 m d1, .slice As2 p2 d2] 45)).alloc (.cells #[.slice none 0 0, .slice none 0 0, .slice none 0 0] 45)).alloc (.cells #[.slice none 0 0, .slice none 0 0] 49))
  have hb1 : BelW w W1 := by rw [HW1.out]; exact below_new (below_new (below_new (below_new (Below.refl _ _) _) _) _) _
  have hfc : Fr W1 w.heap.size 39 [.slice A0 n c0, .slice A1 n1 c1, .slice A2 m c2, .slice A3 n3 c3] := by rw [HW1.out]; exact Fr.alloc (Fr.alloc (Fr.alloc (Fr.made _ [.slice A0 n c0, .slice A1 n1 c1, .slice A2 m c2, .slice A3 n3 c3] _ rfl) _) _) _
  have hfs : Fr W1 (w.heap.size + 1) 45 [.slice As0 ns d0, .slice As1 m d1, .slice As2 p2 d2] := by rw [HW1.out]; exact Fr.alloc (Fr.alloc (Fr.made _ [.slice As0 ns d0, .slice As1 m d1, .slice As2 p2 d2] _ (by simp)) _) _
  have hft : Fr W1 (w.heap.size + 1 + 1) 45 [.slice none 0 0, .slice none 0 0, .slice none 0 0] := by rw [HW1.out]; exact Fr.alloc (Fr.made _ [.slice none 0 0, .slice none 0 0, .slice none 0 0] _ (by simp)) _
  have hfr : Fr W1 (w.heap.size + 1 + 1 + 1) 49 [.slice none 0 0, .slice none 0 0] := by rw [HW1.out]; exact Fr.made _ [.slice none 0 0, .slice none 0 0] _ (by simp)
  obtain ⟨s, HS⟩ := named w.heap.size
  have HSW : Hid (w.heap.size ≤ s) := Lib.hid (by rw [HS.out]; exact Nat.le_refl _)
  rw [← HS.out] at hfc hfs hft hfr
  have HB1 : Hid (∀ W, BelW W1 W → BelW w W) := Lib.hid fun W h => joinB hb1 h
  have HCE : Hid (∀ W, BelW W1 W → W.cell? ⟨s, 0, none⟩ = some (.slice A0 n c0) ∧ W.cell? ⟨s, 1, none⟩ = some (.slice A1 n1 c1) ∧ W.cell? ⟨s, 2, none⟩ = some (.slice A2 m c2) ∧ W.cell? ⟨s, 3, none⟩ = some (.slice A3 n3 c3) ∧ W.cell? ⟨s + 1, 0, none⟩ = some (.slice As0 ns d0) ∧ W.cell? ⟨s + 1, 1, none⟩ = some (.slice As1 m d1) ∧ W.cell? ⟨s + 1, 2, none⟩ = some (.slice As2 p2 d2)) := Lib.hid fun W h => ⟨(hfc.below h).cell 0, (hfc.below h).cell 1, (hfc.below h).cell 2, (hfc.below h).cell 3, (hfs.below h).cell 0, (hfs.below h).cell 1, (hfs.below h).cell 2⟩
  have HFC := Lib.hid hfc
  have HFS := Lib.hid hfs
  have HFT := Lib.hid hft
  have HFR := Lib.hid hfr
  have HOR : Hid (∀ W, BelW W1 W → Calls Tryz.prog 33 #[.agg #[.slice A0 n c0, .slice A1 n1 c1, .slice A2 m c2, .slice A3 n3 c3]] W fun e w' => ∃ R d, (P R ∧ R.length = n ∧ ∀ x ∈ R, 0 ≤ x ∧ x < (n : Int)) ∧ e = .returned (.tuple #[.slice (some ⟨d, 0, none⟩) n n, .int .i64 0]) ∧ W.heap.size ≤ d ∧ Row w' d R ∧ BelW W w') := Lib.hid fun W h => hor W (joinB hb1 h)
  have HCK : Hid (∀ W, BelW W1 W → Calls Tryz.prog 34 #[.agg #[.slice A0 n c0, .slice A1 n1 c1, .slice A2 m c2, .slice A3 n3 c3], .agg #[.slice As0 ns d0, .slice As1 m d1, .slice As2 p2 d2], .slice Ai ni ci] W fun e w' => e = .returned (.int .i64 0) ∧ BelW W w') := Lib.hid fun W h => by
    have hbw := joinB hb1 h
    have := ckcyc_any c s9 inp A0 A1 A2 A3 As0 As1 As2 Ai n n1 m n3 c0 c1 c2 c3 ns m p2 d0 d1 d2 ni ci ns ni W ((hC.below hbw).more (Below.size hbw)) (hS.keep (Nat.le_refl _) hbw (Below.size hbw)) (Arr.keep stays_u8 hI (Below.size hbw) fun _ hp => Below.cell hbw hp) (by rw [ok.hn]; exact ok.nsz) ok.hns ok.hni (by rw [← ok.hns]; exact Nat.le_trans (ofTo_len _ _ _) (by rw [ok.hn]; exact ok.nsz)) ok.msz ok.port
    rw [ok.ck] at this
    exact this
  have HIN : Hid (∀ W, BelW w W → Calls Tryz.prog 36 #[.agg #[.slice A0 n c0, .slice A1 n1 c1, .slice A2 m c2, .slice A3 n3 c3]] W fun e w' => ∃ A, e = .returned (.slice A ni ni) ∧ Is w' w'.heap.size (.slice A ni ni) (ofTo c.nodes [0] c.nodes.length) ∧ BelW W w') := Lib.hid fun W h =>
    (inputs_any c _ W W.heap.size (Nat.le_refl _) ((hC.below h).more (Below.size h)) (by rw [ok.hn]; exact ok.nsz)).mono fun e w' ⟨A, he, hi, hb⟩ => ⟨A, by rw [← ok.hni]; exact he, by rw [← ok.hni]; exact hi, hb⟩
  have HSN : Hid (∀ W, BelW w W → Calls Tryz.prog 37 #[.agg #[.slice A0 n c0, .slice A1 n1 c1, .slice A2 m c2, .slice A3 n3 c3]] W fun e w' => ∃ A, e = .returned (.slice A ns ns) ∧ Is w' w'.heap.size (.slice A ns ns) (ofTo c.nodes [14] c.nodes.length) ∧ BelW W w') := Lib.hid fun W h =>
    (states_any c _ W W.heap.size (Nat.le_refl _) ((hC.below h).more (Below.size h)) (by rw [ok.hn]; exact ok.nsz)).mono fun e w' ⟨A, he, hi, hb⟩ => ⟨A, by rw [← ok.hns]; exact he, by rw [← ok.hns]; exact hi, hb⟩
  have HOK := Lib.hid ok
  have HTB := Lib.hid hT
  have HCI := Lib.hid hC
  have HSR := Lib.hid hS
  have HIR := Lib.hid hI
  have h1n : c.names.length = n1 := by
    obtain ⟨_, _, _, _, e, -⟩ := id hNm
    simp only [Value.slice.injEq] at e
    exact e.2.1.symm
  have h3n : c.outs.length = n3 := by
    obtain ⟨_, _, _, _, e, -⟩ := id hO
    simp only [Value.slice.injEq] at e
    exact e.2.1.symm
  have HLN := Lib.hid (And.intro h1n h3n)
  have HNN := Lib.hid hN
  have HMM := Lib.hid hM
  have hnz := ok.nsz
  have hb11 : BelW W1 W1 := Below.refl _ _
  obtain ⟨x0, x1, x2, x3, y0, y1, y2⟩ := HCE.out W1 hb11
  clear h1n h3n hT hC hS hI ok hor hN hNm hM hO hb1 hfc hfs hft hfr
  go_enter Tryz.func9, Tryz.ntmps9
  go_upto_region 1 with (fail)
  rw [← HW1.out, ← HS.out]
  go_upto_region 6 with (first
    | (go_at_call 33; (with_reducible refine (HOR.out _ hb11).mono ?_); rintro e w2 ⟨R, d, hR, rfl, hd2, hrow2, hb2⟩; have HR := Lib.hid hR; have HB2 : Hid (BelW W1 w2) := Lib.hid hb2; have HD2 := Lib.hid hrow2; clear x0 x1 x2 x3 y0 y1 y2; obtain ⟨x0, x1, x2, x3, y0, y1, y2⟩ := HCE.out w2 hb2; clear hR hd2 hrow2 hb2)
    | (go_at_call 34; (with_reducible refine (HCK.out _ HB2.out).mono ?_); rintro e w3 ⟨rfl, hb3⟩; have HB23 : Hid (BelW W1 w3) := Lib.hid (joinB HB2.out hb3); have HD3 := Lib.hid (HD2.out.below hb3); clear x0 x1 x2 x3 y0 y1 y2 hb3))
  refine wp_region_held_drew (S := fun w' => Below w3.heap.size w3 w') (by kernel_rfl) (Below.refl _ _).drew (fun hHeld => ?_)
  refine wpAnyH_take (i := 0) (oi := ⟨some 30, _, _, _, _, _⟩) (v := .agg #[.slice A0 n c0, .slice A1 n1 c1, .slice A2 m c2, .slice A3 n3 c3]) rfl (by kernel_rfl) (by kernel_rfl) (by kernel_rfl) (fun _ _ _ h => h) (Or.inl ⟨by rfl, ?_⟩) hHeld ?_
  · intro w' hSw; obtain ⟨x0, x1, x2, x3, y0, y1, y2⟩ := HCE.out w' (joinB HB23.out hSw); first | (go_simp; done) | (go_simp; with_reducible rfl)
  simp only [Act.put, List.setIfInBounds_toArray, List.set_cons_zero, List.set_cons_succ]
  refine wpAnyH_take (i := 1) (oi := ⟨some 31, _, _, _, _, _⟩) (v := .agg #[.slice As0 ns d0, .slice As1 m d1, .slice As2 p2 d2]) rfl (by kernel_rfl) (by kernel_rfl) (by kernel_rfl) (fun _ _ _ h => h) (Or.inl ⟨by rfl, ?_⟩) hHeld ?_
  · intro w' hSw; obtain ⟨x0, x1, x2, x3, y0, y1, y2⟩ := HCE.out w' (joinB HB23.out hSw); first | (go_simp; done) | (go_simp; with_reducible rfl)
  simp only [Act.put, List.setIfInBounds_toArray, List.set_cons_zero, List.set_cons_succ]
  refine wpAnyH_take (i := 2) (oi := ⟨some 32, _, _, _, _, _⟩) (v := .slice (some ⟨d, 0, none⟩) n n) rfl (by kernel_rfl) (by kernel_rfl) (by kernel_rfl) (fun _ _ _ h => h) (Or.inl ⟨by rfl, ?_⟩) hHeld ?_
  · intro w' hSw; obtain ⟨x0, x1, x2, x3, y0, y1, y2⟩ := HCE.out w' (joinB HB23.out hSw); first | (go_simp; done) | (go_simp; with_reducible rfl)
  simp only [Act.put, List.setIfInBounds_toArray, List.set_cons_zero, List.set_cons_succ]
  refine wpAnyH_take (i := 3) (oi := ⟨some 33, _, _, _, _, _⟩) (v := .int .i64 (n : Int)) rfl (by kernel_rfl) (by kernel_rfl) (by kernel_rfl) (fun _ _ _ h => h) (Or.inl ⟨by rfl, ?_⟩) hHeld ?_
  · intro w' hSw; obtain ⟨x0, x1, x2, x3, y0, y1, y2⟩ := HCE.out w' (joinB HB23.out hSw); first | (go_simp; done) | (go_simp; with_reducible rfl)
  simp only [Act.put, List.setIfInBounds_toArray, List.set_cons_zero, List.set_cons_succ]
  refine cy_reg (n := n) (wb := w3) _ hnz rfl (by kernel_rfl) ⟨_, rfl, rfl, rfl, rfl, by kernel_rfl⟩ ⟨_, rfl, rfl, rfl, rfl, by kernel_rfl⟩ ⟨_, rfl, rfl, rfl, rfl, by kernel_rfl⟩ ⟨_, rfl, rfl, rfl, rfl, by kernel_rfl⟩ (Nat.le_of_ble_eq_true (by rfl)) rfl rfl rfl ?_ ?_ _ hHeld
  · rfl
  intro v12 v34 v35 g gm W6 I
  obtain ⟨rfl, rfl, rfl, hb36, hv6, hg6, hgm6, hfm6⟩ := cy_end I
  clear I hHeld
  simp only [Gcy, Act.put, List.setIfInBounds_toArray, List.set_cons_zero, List.set_cons_succ]
  have hB6 : BelW W1 W6 := joinB HB23.out hb36
  have hw3 : W1.heap.size ≤ w3.heap.size := Below.size HB23.out
  have hg1 : W1.heap.size ≤ g := Nat.le_trans hw3 hg6
  have hd6 := HD3.out.below hb36
  have hdg : d ≠ g := by have := HD3.out.lt; omega
  have hmg : gm ≠ g := hfm6.apart9 hv6.fr (by decide)
  have HGB : Hid (∀ W, W6.grownBy W (some g) → BelW W1 W) := Lib.hid fun W h => bgrown hB6 h hg1
  have HMC : Hid (∀ W, W6.grownBy W (some g) → W.cell? ⟨gm, 0, none⟩ = some (.slice A0 n c0) ∧ W.cell? ⟨gm, 1, none⟩ = some (.slice A1 n1 c1) ∧ W.cell? ⟨gm, 2, none⟩ = some (.slice A2 m c2) ∧ W.cell? ⟨gm, 3, none⟩ = some (.slice A3 n3 c3) ∧ W.cell? ⟨gm, 4, none⟩ = some (.slice As0 ns d0) ∧ W.cell? ⟨gm, 5, none⟩ = some (.slice As1 m d1) ∧ W.cell? ⟨gm, 6, none⟩ = some (.slice As2 p2 d2) ∧ W.cell? ⟨gm, 7, none⟩ = some (.slice (some ⟨g, 0, none⟩) n n)) := Lib.hid fun W h => by
    have h2 : some gm ≠ some g := by simpa using hmg
    exact ⟨h.cell (hfm6.cell 0) h2, h.cell (hfm6.cell 1) h2, h.cell (hfm6.cell 2) h2, h.cell (hfm6.cell 3) h2, h.cell (hfm6.cell 4) h2, h.cell (hfm6.cell 5) h2, h.cell (hfm6.cell 6) h2, h.cell (hfm6.cell 7) h2⟩
  have HKE : Hid (∀ w', W6.grownBy w' (some g) → W6.grownBy w' (some g) ∧ w'.cell? ⟨s, 0, none⟩ = some (.slice A0 n c0) ∧ w'.cell? ⟨s, 1, none⟩ = some (.slice A1 n1 c1) ∧ w'.cell? ⟨s, 2, none⟩ = some (.slice A2 m c2) ∧ w'.cell? ⟨s, 3, none⟩ = some (.slice A3 n3 c3) ∧ w'.cell? ⟨s + 1, 0, none⟩ = some (.slice As0 ns d0) ∧ w'.cell? ⟨s + 1, 1, none⟩ = some (.slice As1 m d1) ∧ w'.cell? ⟨s + 1, 2, none⟩ = some (.slice As2 p2 d2) ∧ w'.cell? ⟨gm, 0, none⟩ = some (.slice A0 n c0) ∧ w'.cell? ⟨gm, 1, none⟩ = some (.slice A1 n1 c1) ∧ w'.cell? ⟨gm, 2, none⟩ = some (.slice A2 m c2) ∧ w'.cell? ⟨gm, 3, none⟩ = some (.slice A3 n3 c3) ∧ w'.cell? ⟨gm, 4, none⟩ = some (.slice As0 ns d0) ∧ w'.cell? ⟨gm, 5, none⟩ = some (.slice As1 m d1) ∧ w'.cell? ⟨gm, 6, none⟩ = some (.slice As2 p2 d2) ∧ w'.cell? ⟨gm, 7, none⟩ = some (.slice (some ⟨g, 0, none⟩) n n)) := Lib.hid fun w' h => by
    obtain ⟨q0, q1, q2, q3, q4, q5, q6⟩ := HCE.out w' (HGB.out w' h)
    obtain ⟨z0, z1, z2, z3, z4, z5, z6, z7⟩ := HMC.out w' h
    exact ⟨h, q0, q1, q2, q3, q4, q5, q6, z0, z1, z2, z3, z4, z5, z6, z7⟩
  have HV6 := Lib.hid hv6
  have HFM : Hid (∀ W, W6.grownBy W (some g) → Fr W gm 90 [.slice A0 n c0, .slice A1 n1 c1, .slice A2 m c2, .slice A3 n3 c3, .slice As0 ns d0, .slice As1 m d1, .slice As2 p2 d2, .slice (some ⟨g, 0, none⟩) n n]) := Lib.hid fun W h => hfm6.kept h (by simpa using hmg)
  have HD6 := Lib.hid hd6
  have HDG := Lib.hid hdg
  have HGG : Hid (w.heap.size ≤ g) := Lib.hid (Nat.le_trans (Below.size (HB1.out W1 (Below.refl _ _))) hg1)
  have HAS1 : Hid (∀ W A, W6.grownBy W (some g) → Is W W.heap.size (.slice A ni ni) (ofTo c.nodes [0] c.nodes.length) → VRow W g (List.replicate n 0) → Calls Tryz.prog 35 #[.agg #[.slice A0 n c0, .slice A1 n1 c1, .slice A2 m c2, .slice A3 n3 c3, .slice As0 ns d0, .slice As1 m d1, .slice As2 p2 d2, .slice (some ⟨g, 0, none⟩) n n], .slice A ni ni, .slice Ai ni ci] W fun e w' => e = .returned (.tuple #[]) ∧ VRow w' g (asg (List.replicate n 0) (ofTo c.nodes [0] c.nodes.length) inp) ∧ W.grownBy w' (some g)) := Lib.hid fun W A h hi hv => by
    have hbw := HB1.out W (HGB.out W h)
    exact massign_any (List.replicate n 0) (ofTo c.nodes [0] c.nodes.length) inp _ _ _ _ _ _ _ A Ai ni ci g n ni w.heap.size W hv hi (Arr.keep stays_u8 HIR.out (Nat.le_refl _) fun _ hp => Below.cell hbw hp) HGG.out HOK.out.hni.symm HOK.out.li.symm (List.length_replicate ..).symm (fun x hx => by have := ofTo_in hx; rw [HOK.out.hn] at this; exact this)
  have HAS2 : Hid (∀ W A, W6.grownBy W (some g) → Is W W.heap.size (.slice A ns ns) (ofTo c.nodes [14] c.nodes.length) → VRow W g (asg (List.replicate n 0) (ofTo c.nodes [0] c.nodes.length) inp) → Calls Tryz.prog 35 #[.agg #[.slice A0 n c0, .slice A1 n1 c1, .slice A2 m c2, .slice A3 n3 c3, .slice As0 ns d0, .slice As1 m d1, .slice As2 p2 d2, .slice (some ⟨g, 0, none⟩) n n], .slice A ns ns, .slice As0 ns d0] W fun e w' => e = .returned (.tuple #[]) ∧ VRow w' g (cyB c n s9 inp) ∧ W.grownBy w' (some g)) := Lib.hid fun W A h hi hv => by
    have hbw := HB1.out W (HGB.out W h)
    exact massign_any _ (ofTo c.nodes [14] c.nodes.length) s9.dff _ _ _ _ _ _ _ A As0 ns d0 g n ns w.heap.size W hv hi (Arr.keep stays_u8 HSR.out.sd (Nat.le_refl _) fun _ hp => Below.cell hbw hp) HGG.out HOK.out.hns.symm HOK.out.ld.symm (by rw [asg_len, List.length_replicate]) (fun x hx => by have := ofTo_in hx; rw [HOK.out.hn] at this; exact this)
  have HEV : Hid (∀ W, W6.grownBy W (some g) → VRow W g (cyB c n s9 inp) → Calls Tryz.prog 38 #[.agg #[.slice A0 n c0, .slice A1 n1 c1, .slice A2 m c2, .slice A3 n3 c3, .slice As0 ns d0, .slice As1 m d1, .slice As2 p2 d2, .slice (some ⟨g, 0, none⟩) n n], .slice (some ⟨d, 0, none⟩) n n] W fun e w' => e = .returned (.tuple #[]) ∧ VRow w' g (stmK c.nodes s9.read (cyB c n s9 inp) R n) ∧ W.grownBy w' (some g)) := Lib.hid fun W h hv => by
    have hbw := HB1.out W (HGB.out W h)
    have hok := HOK.out
    have hdW : Row W d R := HD6.out.kept h (by simpa using HDG.out)
    exact (meval_any c.nodes s9.read (cyB c n s9 inp) R A0 As2 _ _ _ _ _ n c0 p2 d2 g d n w W hbw HGG.out HTB.out HNN.out HSR.out.sr hv (by unfold cyB; rw [asg_len, asg_len, List.length_replicate]) hdW HDG.out HR.out.2.1 HR.out.2.2 hok.wf hok.pins hok.mem hok.nsz).mono fun e w' ⟨h1, h2, _, h4⟩ => ⟨h1, h2, h4⟩
  have hg0 : W6.grownBy W6 (some g) := World.grownBy.refl _ _
  have hv60 : VRow W6.drew g (List.replicate n 0) := hv6.below (BelW.drew (Below.refl _ _))
  have hbd : BelW w W6.drew := HB1.out _ (HGB.out _ (gdrew hg0))
  clear hB6 hw3 hg1 hd6 hdg hmg hb36 hv6 hg6 hgm6 hfm6
  go_upto_region 7 with (fail)
  go_region_held3 (fun w' => W6.grownBy w' (some g) ∧ w'.cell? ⟨s, 0, none⟩ = some (.slice A0 n c0) ∧ w'.cell? ⟨s, 1, none⟩ = some (.slice A1 n1 c1) ∧ w'.cell? ⟨s, 2, none⟩ = some (.slice A2 m c2) ∧ w'.cell? ⟨s, 3, none⟩ = some (.slice A3 n3 c3) ∧ w'.cell? ⟨s + 1, 0, none⟩ = some (.slice As0 ns d0) ∧ w'.cell? ⟨s + 1, 1, none⟩ = some (.slice As1 m d1) ∧ w'.cell? ⟨s + 1, 2, none⟩ = some (.slice As2 p2 d2) ∧ w'.cell? ⟨gm, 0, none⟩ = some (.slice A0 n c0) ∧ w'.cell? ⟨gm, 1, none⟩ = some (.slice A1 n1 c1) ∧ w'.cell? ⟨gm, 2, none⟩ = some (.slice A2 m c2) ∧ w'.cell? ⟨gm, 3, none⟩ = some (.slice A3 n3 c3) ∧ w'.cell? ⟨gm, 4, none⟩ = some (.slice As0 ns d0) ∧ w'.cell? ⟨gm, 5, none⟩ = some (.slice As1 m d1) ∧ w'.cell? ⟨gm, 6, none⟩ = some (.slice As2 p2 d2) ∧ w'.cell? ⟨gm, 7, none⟩ = some (.slice (some ⟨g, 0, none⟩) n n))
    ((refine HKE.out _ ?_; first | (with_reducible assumption) | (refine gdrew ?_; with_reducible assumption)))
    (first
      | (go_at_call 36; (refine Calls.mono (HIN.out _ hbd) ?_)
         rintro e w7 ⟨Ai2, rfl, his7, hb7⟩
         have hg7 : W6.grownBy w7 (some g) := gnext (gdrew hg0) hb7
         have hv7 : VRow w7 g (List.replicate n 0) := hv60.below hb7)
      | (go_at_call 35; (with_reducible refine Calls.mono (HAS1.out w7 Ai2 hg7 his7 hv7) ?_)
         rintro e w8 ⟨rfl, hv8, hg78⟩
         have hg8 : W6.grownBy w8 (some g) := gtrans hg7 hg78))
  have HV8 := Lib.hid hv8
  have HG8 := Lib.hid hg8
  have hv80 : VRow w8.drew g (asg (List.replicate n 0) (ofTo c.nodes [0] c.nodes.length) inp) := hv8.below (BelW.drew (Below.refl _ _))
  have hbd8 : BelW w w8.drew := HB1.out _ (HGB.out _ (gdrew hg8))
  clear hg0 hv60 hbd his7 hb7 hg7 hv7 hv8 hg78
  go_upto_region 8 with (fail)
  go_region_held3 (fun w' => W6.grownBy w' (some g) ∧ w'.cell? ⟨s, 0, none⟩ = some (.slice A0 n c0) ∧ w'.cell? ⟨s, 1, none⟩ = some (.slice A1 n1 c1) ∧ w'.cell? ⟨s, 2, none⟩ = some (.slice A2 m c2) ∧ w'.cell? ⟨s, 3, none⟩ = some (.slice A3 n3 c3) ∧ w'.cell? ⟨s + 1, 0, none⟩ = some (.slice As0 ns d0) ∧ w'.cell? ⟨s + 1, 1, none⟩ = some (.slice As1 m d1) ∧ w'.cell? ⟨s + 1, 2, none⟩ = some (.slice As2 p2 d2) ∧ w'.cell? ⟨gm, 0, none⟩ = some (.slice A0 n c0) ∧ w'.cell? ⟨gm, 1, none⟩ = some (.slice A1 n1 c1) ∧ w'.cell? ⟨gm, 2, none⟩ = some (.slice A2 m c2) ∧ w'.cell? ⟨gm, 3, none⟩ = some (.slice A3 n3 c3) ∧ w'.cell? ⟨gm, 4, none⟩ = some (.slice As0 ns d0) ∧ w'.cell? ⟨gm, 5, none⟩ = some (.slice As1 m d1) ∧ w'.cell? ⟨gm, 6, none⟩ = some (.slice As2 p2 d2) ∧ w'.cell? ⟨gm, 7, none⟩ = some (.slice (some ⟨g, 0, none⟩) n n))
    ((refine HKE.out _ ?_; first | (with_reducible assumption) | (refine gdrew ?_; with_reducible assumption)))
    (first
      | (go_at_call 37; (refine Calls.mono (HSN.out _ hbd8) ?_)
         rintro e w9 ⟨Ai3, rfl, his9, hb9⟩
         have hg9 : W6.grownBy w9 (some g) := gnext (gdrew hg8) hb9
         have hv9 := hv80.below hb9)
      | (go_at_call 35; (with_reducible refine Calls.mono (HAS2.out w9 Ai3 hg9 his9 hv9) ?_)
         rintro e w10 ⟨rfl, hv10, hg910⟩
         have hg10 : W6.grownBy w10 (some g) := gtrans hg9 hg910))
  have HEV10 := Lib.hid (HEV.out w10 hg10 hv10)
  have HG10 := Lib.hid hg10
  obtain ⟨-, x0, x1, x2, x3, y0, y1, y2, z0, z1, z2, z3, z4, z5, z6, z7⟩ := HKE.out w10 hg10
  clear hg8 hv80 hbd8 his9 hb9 hg9 hv9 hv10 hg910 hg10
  go_upto_region 10 with (go_at_call 38; (with_reducible refine HEV10.out.mono ?_); rintro e w11 ⟨rfl, hv11, hg11⟩; have HV11 := Lib.hid hv11; have HG11 : Hid (W6.grownBy w11 (some g)) := Lib.hid (gtrans HG10.out hg11); clear x0 x1 x2 x3 y0 y1 y2 z0 z1 z2 z3 z4 z5 z6 z7 hv11 hg11)
  obtain ⟨nets, HNE⟩ := named (stmK c.nodes s9.read (cyB c n s9 inp) R n)
  have HND : Hid (nets = stmK c.nodes s9.read (cyB c n s9 inp) R n) := HNE
  rw [← HNE.out] at HV11
  have hnl : nets.length = n := by rw [HNE.out, stmK_len]; unfold cyB; rw [asg_len, asg_len, List.length_replicate]
  have hnx : (nextV c nets).length = ns := by unfold nextV; rw [List.length_map]; exact HOK.out.hns
  have HOB : Hid (Calls Tryz.prog 39 #[.agg #[.slice A0 n c0, .slice A1 n1 c1, .slice A2 m c2, .slice A3 n3 c3], .slice (some ⟨g, 0, none⟩) n n] w11 fun e w' => ∃ go gn, e = .returned (.agg #[.slice (some ⟨go, 0, none⟩) (outV c nets).length (outV c nets).length, .slice (some ⟨gn, 0, none⟩) ns ns]) ∧ VRow w' go (outV c nets) ∧ VRow w' gn (nextV c nets) ∧ BelW w11 w') := Lib.hid (by
    have hbw := HB1.out w11 (HGB.out w11 HG11.out)
    have hcc := (HCI.out.below hbw).more (Below.size hbw)
    rw [← HOK.out.hn, ← HLN.out.1, ← HOK.out.hm, ← HLN.out.2] at hcc
    have hks := HV11.out.ks
    rw [hnl] at hks
    have := observe_any c nets A0 A1 A2 A3 (some ⟨g, 0, none⟩) c0 c1 c2 c3 n n w11 w11.heap.size (Nat.le_refl _) hcc hks (by rw [HOK.out.hn]; exact hnz) HOK.out.outs
    rw [HOK.out.hn, HLN.out.1, HOK.out.hm, HLN.out.2] at this
    refine this.mono fun e w' ⟨go, gn, h1, h2, h3, _, _, _, h7⟩ => ⟨go, gn, ?_, h2, h3, h7⟩
    rw [h1, hnx])
  obtain ⟨-, x0, x1, x2, x3, y0, y1, y2, z0, z1, z2, z3, z4, z5, z6, z7⟩ := HKE.out w11 HG11.out
  have HNL := Lib.hid hnl
  have HNX := Lib.hid hnx
  clear hnl hnx
  go_upto_region 11 with (go_at_call 39; (with_reducible refine HOB.out.mono ?_); rintro e w12 ⟨go, gn, rfl, hvo, hvn, hb12⟩; have HVO := Lib.hid hvo; have HVN := Lib.hid hvn; have HB12 : Hid (BelW w11 w12) := Lib.hid hb12; clear x0 x1 x2 x3 y0 y1 y2 z0 z1 z2 z3 z4 z5 z6 z7 hvo hvn hb12)
  obtain ⟨lo, HLO⟩ := named (outV c nets).length
  rw [← HLO.out]
  obtain ⟨W13, HW13⟩ := named (w12.alloc (.cells #[.slice (some ⟨go, 0, none⟩) lo lo, .slice (some ⟨gn, 0, none⟩) ns ns] 49))
  rw [← HW13.out]
  have hb1213 : BelW w12 W13 := by rw [HW13.out]; exact below_new (Below.refl _ _) _
  have hfu : Fr W13 w12.heap.size 49 [.slice (some ⟨go, 0, none⟩) lo lo, .slice (some ⟨gn, 0, none⟩) ns ns] := by rw [HW13.out]; exact Fr.made _ [.slice (some ⟨go, 0, none⟩) lo lo, .slice (some ⟨gn, 0, none⟩) ns ns] _ rfl
  obtain ⟨u, HU⟩ := named w12.heap.size
  rw [← HU.out] at hfu
  rw [← HU.out]
  have hb13 : BelW w11 W13 := joinB HB12.out hb1213
  have hbw13 : BelW W1 W13 := joinB (HGB.out w11 HG11.out) hb13
  have HB13 : Hid (∀ W, BelW W13 W → BelW w W) := Lib.hid fun W h => HB1.out W (joinB hbw13 h)
  have hfm13 : Fr W13 gm 90 [.slice A0 n c0, .slice A1 n1 c1, .slice A2 m c2, .slice A3 n3 c3, .slice As0 ns d0, .slice As1 m d1, .slice As2 p2 d2, .slice (some ⟨g, 0, none⟩) n n] := (HFM.out w11 HG11.out).below hb13
  have HMU : Hid (∀ W, BelW W13 W → W.cell? ⟨u, 0, none⟩ = some (.slice (some ⟨go, 0, none⟩) lo lo) ∧ W.cell? ⟨u, 1, none⟩ = some (.slice (some ⟨gn, 0, none⟩) ns ns) ∧ W.cell? ⟨gm, 0, none⟩ = some (.slice A0 n c0) ∧ W.cell? ⟨gm, 1, none⟩ = some (.slice A1 n1 c1) ∧ W.cell? ⟨gm, 2, none⟩ = some (.slice A2 m c2) ∧ W.cell? ⟨gm, 3, none⟩ = some (.slice A3 n3 c3) ∧ W.cell? ⟨gm, 4, none⟩ = some (.slice As0 ns d0) ∧ W.cell? ⟨gm, 5, none⟩ = some (.slice As1 m d1) ∧ W.cell? ⟨gm, 6, none⟩ = some (.slice As2 p2 d2) ∧ W.cell? ⟨gm, 7, none⟩ = some (.slice (some ⟨g, 0, none⟩) n n)) := Lib.hid fun W h => ⟨(hfu.below h).cell 0, (hfu.below h).cell 1, (hfm13.below h).cell 0, (hfm13.below h).cell 1, (hfm13.below h).cell 2, (hfm13.below h).cell 3, (hfm13.below h).cell 4, (hfm13.below h).cell 5, (hfm13.below h).cell 6, (hfm13.below h).cell 7⟩
  have hns1 : ns ≤ 1000000 := by rw [← HOK.out.hns]; exact Nat.le_trans (ofTo_len _ _ _) (by rw [HOK.out.hn]; exact hnz)
  have hvn13 := HVN.out.below hb1213
  have HNXT : Hid (∀ W, BelW W13 W → Calls Tryz.prog 40 #[.agg #[.slice A0 n c0, .slice A1 n1 c1, .slice A2 m c2, .slice A3 n3 c3, .slice As0 ns d0, .slice As1 m d1, .slice As2 p2 d2, .slice (some ⟨g, 0, none⟩) n n], .slice (some ⟨gn, 0, none⟩) ns ns] W fun e w' => ∃ gB D1 D2, e = .returned (.agg #[.slice (some ⟨gB, 0, none⟩) ns ns, .slice (some ⟨D1, 0, none⟩) m m, .slice (some ⟨D2, 0, none⟩) m m]) ∧ VRow w' gB (bitsL (nextV c nets) ns) ∧ (∃ L, W.heap.size ≤ L ∧ OSt w' D1 D2 L m (fun k => (s9.words.getD k []).length) (nxW c.mems s9.words nets) (nxR c.mems s9.words nets) m m) ∧ BelW W w') := Lib.hid fun W h => by
    have hbw := HB13.out W h
    have hks := (hvn13.below h).ks
    rw [HNX.out] at hks
    exact mnext_any c.mems s9.words nets (nextV c nets) A2 As1 (some ⟨gn, 0, none⟩) _ _ _ _ _ m c2 d1 g n ns ns W ((HMM.out.below hbw).more (Below.size hbw)) (Arr.keep stays_wws HSR.out.sw (Below.size hbw) fun _ hp => Below.cell hbw hp) ((HV11.out.below hb13).below h) HNL.out hks HOK.out.nx HOK.out.msz hns1
  have HS3 : Hid (∀ W gB D1 D2, BelW W13 W → (BelW w (((W.setCell ⟨s + 1 + 1, 0, none⟩ (.slice (some ⟨gB, 0, none⟩) ns ns)).setCell ⟨s + 1 + 1, 1, none⟩ (.slice (some ⟨D1, 0, none⟩) m m)).setCell ⟨s + 1 + 1, 2, none⟩ (.slice (some ⟨D2, 0, none⟩) m m)) ∧ (((W.setCell ⟨s + 1 + 1, 0, none⟩ (.slice (some ⟨gB, 0, none⟩) ns ns)).setCell ⟨s + 1 + 1, 1, none⟩ (.slice (some ⟨D1, 0, none⟩) m m)).setCell ⟨s + 1 + 1, 2, none⟩ (.slice (some ⟨D2, 0, none⟩) m m)).cell? ⟨u, 0, none⟩ = some (.slice (some ⟨go, 0, none⟩) lo lo) ∧ (((W.setCell ⟨s + 1 + 1, 0, none⟩ (.slice (some ⟨gB, 0, none⟩) ns ns)).setCell ⟨s + 1 + 1, 1, none⟩ (.slice (some ⟨D1, 0, none⟩) m m)).setCell ⟨s + 1 + 1, 2, none⟩ (.slice (some ⟨D2, 0, none⟩) m m)).cell? ⟨u, 1, none⟩ = some (.slice (some ⟨gn, 0, none⟩) ns ns) ∧ (((W.setCell ⟨s + 1 + 1, 0, none⟩ (.slice (some ⟨gB, 0, none⟩) ns ns)).setCell ⟨s + 1 + 1, 1, none⟩ (.slice (some ⟨D1, 0, none⟩) m m)).setCell ⟨s + 1 + 1, 2, none⟩ (.slice (some ⟨D2, 0, none⟩) m m)).cell? ⟨gm, 0, none⟩ = some (.slice A0 n c0) ∧ (((W.setCell ⟨s + 1 + 1, 0, none⟩ (.slice (some ⟨gB, 0, none⟩) ns ns)).setCell ⟨s + 1 + 1, 1, none⟩ (.slice (some ⟨D1, 0, none⟩) m m)).setCell ⟨s + 1 + 1, 2, none⟩ (.slice (some ⟨D2, 0, none⟩) m m)).cell? ⟨gm, 1, none⟩ = some (.slice A1 n1 c1) ∧ (((W.setCell ⟨s + 1 + 1, 0, none⟩ (.slice (some ⟨gB, 0, none⟩) ns ns)).setCell ⟨s + 1 + 1, 1, none⟩ (.slice (some ⟨D1, 0, none⟩) m m)).setCell ⟨s + 1 + 1, 2, none⟩ (.slice (some ⟨D2, 0, none⟩) m m)).cell? ⟨gm, 2, none⟩ = some (.slice A2 m c2) ∧ (((W.setCell ⟨s + 1 + 1, 0, none⟩ (.slice (some ⟨gB, 0, none⟩) ns ns)).setCell ⟨s + 1 + 1, 1, none⟩ (.slice (some ⟨D1, 0, none⟩) m m)).setCell ⟨s + 1 + 1, 2, none⟩ (.slice (some ⟨D2, 0, none⟩) m m)).cell? ⟨gm, 3, none⟩ = some (.slice A3 n3 c3) ∧ (((W.setCell ⟨s + 1 + 1, 0, none⟩ (.slice (some ⟨gB, 0, none⟩) ns ns)).setCell ⟨s + 1 + 1, 1, none⟩ (.slice (some ⟨D1, 0, none⟩) m m)).setCell ⟨s + 1 + 1, 2, none⟩ (.slice (some ⟨D2, 0, none⟩) m m)).cell? ⟨gm, 4, none⟩ = some (.slice As0 ns d0) ∧ (((W.setCell ⟨s + 1 + 1, 0, none⟩ (.slice (some ⟨gB, 0, none⟩) ns ns)).setCell ⟨s + 1 + 1, 1, none⟩ (.slice (some ⟨D1, 0, none⟩) m m)).setCell ⟨s + 1 + 1, 2, none⟩ (.slice (some ⟨D2, 0, none⟩) m m)).cell? ⟨gm, 5, none⟩ = some (.slice As1 m d1) ∧ (((W.setCell ⟨s + 1 + 1, 0, none⟩ (.slice (some ⟨gB, 0, none⟩) ns ns)).setCell ⟨s + 1 + 1, 1, none⟩ (.slice (some ⟨D1, 0, none⟩) m m)).setCell ⟨s + 1 + 1, 2, none⟩ (.slice (some ⟨D2, 0, none⟩) m m)).cell? ⟨gm, 6, none⟩ = some (.slice As2 p2 d2) ∧ (((W.setCell ⟨s + 1 + 1, 0, none⟩ (.slice (some ⟨gB, 0, none⟩) ns ns)).setCell ⟨s + 1 + 1, 1, none⟩ (.slice (some ⟨D1, 0, none⟩) m m)).setCell ⟨s + 1 + 1, 2, none⟩ (.slice (some ⟨D2, 0, none⟩) m m)).cell? ⟨gm, 7, none⟩ = some (.slice (some ⟨g, 0, none⟩) n n)) ∧ (BelW w (((((W.setCell ⟨s + 1 + 1, 0, none⟩ (.slice (some ⟨gB, 0, none⟩) ns ns)).setCell ⟨s + 1 + 1, 1, none⟩ (.slice (some ⟨D1, 0, none⟩) m m)).setCell ⟨s + 1 + 1, 2, none⟩ (.slice (some ⟨D2, 0, none⟩) m m)).setCell ⟨s + 1 + 1 + 1, 0, none⟩ (.slice (some ⟨go, 0, none⟩) lo lo)).setCell ⟨s + 1 + 1 + 1, 1, none⟩ (.slice (some ⟨gn, 0, none⟩) ns ns)) ∧ (((((W.setCell ⟨s + 1 + 1, 0, none⟩ (.slice (some ⟨gB, 0, none⟩) ns ns)).setCell ⟨s + 1 + 1, 1, none⟩ (.slice (some ⟨D1, 0, none⟩) m m)).setCell ⟨s + 1 + 1, 2, none⟩ (.slice (some ⟨D2, 0, none⟩) m m)).setCell ⟨s + 1 + 1 + 1, 0, none⟩ (.slice (some ⟨go, 0, none⟩) lo lo)).setCell ⟨s + 1 + 1 + 1, 1, none⟩ (.slice (some ⟨gn, 0, none⟩) ns ns)).cell? ⟨u, 0, none⟩ = some (.slice (some ⟨go, 0, none⟩) lo lo) ∧ (((((W.setCell ⟨s + 1 + 1, 0, none⟩ (.slice (some ⟨gB, 0, none⟩) ns ns)).setCell ⟨s + 1 + 1, 1, none⟩ (.slice (some ⟨D1, 0, none⟩) m m)).setCell ⟨s + 1 + 1, 2, none⟩ (.slice (some ⟨D2, 0, none⟩) m m)).setCell ⟨s + 1 + 1 + 1, 0, none⟩ (.slice (some ⟨go, 0, none⟩) lo lo)).setCell ⟨s + 1 + 1 + 1, 1, none⟩ (.slice (some ⟨gn, 0, none⟩) ns ns)).cell? ⟨u, 1, none⟩ = some (.slice (some ⟨gn, 0, none⟩) ns ns) ∧ (((((W.setCell ⟨s + 1 + 1, 0, none⟩ (.slice (some ⟨gB, 0, none⟩) ns ns)).setCell ⟨s + 1 + 1, 1, none⟩ (.slice (some ⟨D1, 0, none⟩) m m)).setCell ⟨s + 1 + 1, 2, none⟩ (.slice (some ⟨D2, 0, none⟩) m m)).setCell ⟨s + 1 + 1 + 1, 0, none⟩ (.slice (some ⟨go, 0, none⟩) lo lo)).setCell ⟨s + 1 + 1 + 1, 1, none⟩ (.slice (some ⟨gn, 0, none⟩) ns ns)).cell? ⟨gm, 0, none⟩ = some (.slice A0 n c0) ∧ (((((W.setCell ⟨s + 1 + 1, 0, none⟩ (.slice (some ⟨gB, 0, none⟩) ns ns)).setCell ⟨s + 1 + 1, 1, none⟩ (.slice (some ⟨D1, 0, none⟩) m m)).setCell ⟨s + 1 + 1, 2, none⟩ (.slice (some ⟨D2, 0, none⟩) m m)).setCell ⟨s + 1 + 1 + 1, 0, none⟩ (.slice (some ⟨go, 0, none⟩) lo lo)).setCell ⟨s + 1 + 1 + 1, 1, none⟩ (.slice (some ⟨gn, 0, none⟩) ns ns)).cell? ⟨gm, 1, none⟩ = some (.slice A1 n1 c1) ∧ (((((W.setCell ⟨s + 1 + 1, 0, none⟩ (.slice (some ⟨gB, 0, none⟩) ns ns)).setCell ⟨s + 1 + 1, 1, none⟩ (.slice (some ⟨D1, 0, none⟩) m m)).setCell ⟨s + 1 + 1, 2, none⟩ (.slice (some ⟨D2, 0, none⟩) m m)).setCell ⟨s + 1 + 1 + 1, 0, none⟩ (.slice (some ⟨go, 0, none⟩) lo lo)).setCell ⟨s + 1 + 1 + 1, 1, none⟩ (.slice (some ⟨gn, 0, none⟩) ns ns)).cell? ⟨gm, 2, none⟩ = some (.slice A2 m c2) ∧ (((((W.setCell ⟨s + 1 + 1, 0, none⟩ (.slice (some ⟨gB, 0, none⟩) ns ns)).setCell ⟨s + 1 + 1, 1, none⟩ (.slice (some ⟨D1, 0, none⟩) m m)).setCell ⟨s + 1 + 1, 2, none⟩ (.slice (some ⟨D2, 0, none⟩) m m)).setCell ⟨s + 1 + 1 + 1, 0, none⟩ (.slice (some ⟨go, 0, none⟩) lo lo)).setCell ⟨s + 1 + 1 + 1, 1, none⟩ (.slice (some ⟨gn, 0, none⟩) ns ns)).cell? ⟨gm, 3, none⟩ = some (.slice A3 n3 c3) ∧ (((((W.setCell ⟨s + 1 + 1, 0, none⟩ (.slice (some ⟨gB, 0, none⟩) ns ns)).setCell ⟨s + 1 + 1, 1, none⟩ (.slice (some ⟨D1, 0, none⟩) m m)).setCell ⟨s + 1 + 1, 2, none⟩ (.slice (some ⟨D2, 0, none⟩) m m)).setCell ⟨s + 1 + 1 + 1, 0, none⟩ (.slice (some ⟨go, 0, none⟩) lo lo)).setCell ⟨s + 1 + 1 + 1, 1, none⟩ (.slice (some ⟨gn, 0, none⟩) ns ns)).cell? ⟨gm, 4, none⟩ = some (.slice As0 ns d0) ∧ (((((W.setCell ⟨s + 1 + 1, 0, none⟩ (.slice (some ⟨gB, 0, none⟩) ns ns)).setCell ⟨s + 1 + 1, 1, none⟩ (.slice (some ⟨D1, 0, none⟩) m m)).setCell ⟨s + 1 + 1, 2, none⟩ (.slice (some ⟨D2, 0, none⟩) m m)).setCell ⟨s + 1 + 1 + 1, 0, none⟩ (.slice (some ⟨go, 0, none⟩) lo lo)).setCell ⟨s + 1 + 1 + 1, 1, none⟩ (.slice (some ⟨gn, 0, none⟩) ns ns)).cell? ⟨gm, 5, none⟩ = some (.slice As1 m d1) ∧ (((((W.setCell ⟨s + 1 + 1, 0, none⟩ (.slice (some ⟨gB, 0, none⟩) ns ns)).setCell ⟨s + 1 + 1, 1, none⟩ (.slice (some ⟨D1, 0, none⟩) m m)).setCell ⟨s + 1 + 1, 2, none⟩ (.slice (some ⟨D2, 0, none⟩) m m)).setCell ⟨s + 1 + 1 + 1, 0, none⟩ (.slice (some ⟨go, 0, none⟩) lo lo)).setCell ⟨s + 1 + 1 + 1, 1, none⟩ (.slice (some ⟨gn, 0, none⟩) ns ns)).cell? ⟨gm, 6, none⟩ = some (.slice As2 p2 d2) ∧ (((((W.setCell ⟨s + 1 + 1, 0, none⟩ (.slice (some ⟨gB, 0, none⟩) ns ns)).setCell ⟨s + 1 + 1, 1, none⟩ (.slice (some ⟨D1, 0, none⟩) m m)).setCell ⟨s + 1 + 1, 2, none⟩ (.slice (some ⟨D2, 0, none⟩) m m)).setCell ⟨s + 1 + 1 + 1, 0, none⟩ (.slice (some ⟨go, 0, none⟩) lo lo)).setCell ⟨s + 1 + 1 + 1, 1, none⟩ (.slice (some ⟨gn, 0, none⟩) ns ns)).cell? ⟨gm, 7, none⟩ = some (.slice (some ⟨g, 0, none⟩) n n))) := Lib.hid fun W gB D1 D2 h => by
    have ft := HFT.out.below (joinB hbw13 h)
    have frr := HFR.out.below (joinB hbw13 h)
    have fu := hfu.below h
    have fm := hfm13.below h
    have hsw := HSW.out
    have hlt := HFR.out.lt
    have hu2 : W1.heap.size ≤ u := by rw [HU.out]; exact Nat.le_trans (Below.size (HGB.out w11 HG11.out)) (Below.size HB12.out)
    have n1 : s + 1 + 1 ≠ u := by omega
    have n3 : s + 1 + 1 + 1 ≠ u := by omega
    have n2 := ft.apart9 fm (by decide)
    have n4 := frr.apart9 fm (by decide)
    have hw := HB13.out W h
    have a1 := (((fu.other (a := ⟨s + 1 + 1, 0, none⟩) n1 (.slice (some ⟨gB, 0, none⟩) ns ns)).other (a := ⟨s + 1 + 1, 1, none⟩) n1 (.slice (some ⟨D1, 0, none⟩) m m)).other (a := ⟨s + 1 + 1, 2, none⟩) n1 (.slice (some ⟨D2, 0, none⟩) m m))
    have a2 := (((fm.other (a := ⟨s + 1 + 1, 0, none⟩) n2 (.slice (some ⟨gB, 0, none⟩) ns ns)).other (a := ⟨s + 1 + 1, 1, none⟩) n2 (.slice (some ⟨D1, 0, none⟩) m m)).other (a := ⟨s + 1 + 1, 2, none⟩) n2 (.slice (some ⟨D2, 0, none⟩) m m))
    have b1 := (((((fu.other (a := ⟨s + 1 + 1, 0, none⟩) n1 (.slice (some ⟨gB, 0, none⟩) ns ns)).other (a := ⟨s + 1 + 1, 1, none⟩) n1 (.slice (some ⟨D1, 0, none⟩) m m)).other (a := ⟨s + 1 + 1, 2, none⟩) n1 (.slice (some ⟨D2, 0, none⟩) m m)).other (a := ⟨s + 1 + 1 + 1, 0, none⟩) n3 (.slice (some ⟨go, 0, none⟩) lo lo)).other (a := ⟨s + 1 + 1 + 1, 1, none⟩) n3 (.slice (some ⟨gn, 0, none⟩) ns ns))
    have b2 := (((((fm.other (a := ⟨s + 1 + 1, 0, none⟩) n2 (.slice (some ⟨gB, 0, none⟩) ns ns)).other (a := ⟨s + 1 + 1, 1, none⟩) n2 (.slice (some ⟨D1, 0, none⟩) m m)).other (a := ⟨s + 1 + 1, 2, none⟩) n2 (.slice (some ⟨D2, 0, none⟩) m m)).other (a := ⟨s + 1 + 1 + 1, 0, none⟩) n4 (.slice (some ⟨go, 0, none⟩) lo lo)).other (a := ⟨s + 1 + 1 + 1, 1, none⟩) n4 (.slice (some ⟨gn, 0, none⟩) ns ns))
    exact ⟨⟨(((hw.setCell (p := ⟨s + 1 + 1, 0, none⟩) (by show w.heap.size ≤ s + 1 + 1; omega) (.slice (some ⟨gB, 0, none⟩) ns ns)).setCell (p := ⟨s + 1 + 1, 1, none⟩) (by show w.heap.size ≤ s + 1 + 1; omega) (.slice (some ⟨D1, 0, none⟩) m m)).setCell (p := ⟨s + 1 + 1, 2, none⟩) (by show w.heap.size ≤ s + 1 + 1; omega) (.slice (some ⟨D2, 0, none⟩) m m)), a1.cell 0, a1.cell 1, a2.cell 0, a2.cell 1, a2.cell 2, a2.cell 3, a2.cell 4, a2.cell 5, a2.cell 6, a2.cell 7⟩, ⟨(((((hw.setCell (p := ⟨s + 1 + 1, 0, none⟩) (by show w.heap.size ≤ s + 1 + 1; omega) (.slice (some ⟨gB, 0, none⟩) ns ns)).setCell (p := ⟨s + 1 + 1, 1, none⟩) (by show w.heap.size ≤ s + 1 + 1; omega) (.slice (some ⟨D1, 0, none⟩) m m)).setCell (p := ⟨s + 1 + 1, 2, none⟩) (by show w.heap.size ≤ s + 1 + 1; omega) (.slice (some ⟨D2, 0, none⟩) m m)).setCell (p := ⟨s + 1 + 1 + 1, 0, none⟩) (by show w.heap.size ≤ s + 1 + 1 + 1; omega) (.slice (some ⟨go, 0, none⟩) lo lo)).setCell (p := ⟨s + 1 + 1 + 1, 1, none⟩) (by show w.heap.size ≤ s + 1 + 1 + 1; omega) (.slice (some ⟨gn, 0, none⟩) ns ns)), b1.cell 0, b1.cell 1, b2.cell 0, b2.cell 1, b2.cell 2, b2.cell 3, b2.cell 4, b2.cell 5, b2.cell 6, b2.cell 7⟩⟩
  have HF5 : Hid (∀ W gB D1 D2 L, BelW W13 W → VRow W gB (bitsL (nextV c nets) ns) → W13.heap.size ≤ L → OSt W D1 D2 L m (fun k => (s9.words.getD k []).length) (nxW c.mems s9.words nets) (nxR c.mems s9.words nets) m m → VRow (((((W.setCell ⟨s + 1 + 1, 0, none⟩ (.slice (some ⟨gB, 0, none⟩) ns ns)).setCell ⟨s + 1 + 1, 1, none⟩ (.slice (some ⟨D1, 0, none⟩) m m)).setCell ⟨s + 1 + 1, 2, none⟩ (.slice (some ⟨D2, 0, none⟩) m m)).setCell ⟨s + 1 + 1 + 1, 0, none⟩ (.slice (some ⟨go, 0, none⟩) lo lo)).setCell ⟨s + 1 + 1 + 1, 1, none⟩ (.slice (some ⟨gn, 0, none⟩) ns ns)) g nets ∧ VRow (((((W.setCell ⟨s + 1 + 1, 0, none⟩ (.slice (some ⟨gB, 0, none⟩) ns ns)).setCell ⟨s + 1 + 1, 1, none⟩ (.slice (some ⟨D1, 0, none⟩) m m)).setCell ⟨s + 1 + 1, 2, none⟩ (.slice (some ⟨D2, 0, none⟩) m m)).setCell ⟨s + 1 + 1 + 1, 0, none⟩ (.slice (some ⟨go, 0, none⟩) lo lo)).setCell ⟨s + 1 + 1 + 1, 1, none⟩ (.slice (some ⟨gn, 0, none⟩) ns ns)) go (outV c nets) ∧ VRow (((((W.setCell ⟨s + 1 + 1, 0, none⟩ (.slice (some ⟨gB, 0, none⟩) ns ns)).setCell ⟨s + 1 + 1, 1, none⟩ (.slice (some ⟨D1, 0, none⟩) m m)).setCell ⟨s + 1 + 1, 2, none⟩ (.slice (some ⟨D2, 0, none⟩) m m)).setCell ⟨s + 1 + 1 + 1, 0, none⟩ (.slice (some ⟨go, 0, none⟩) lo lo)).setCell ⟨s + 1 + 1 + 1, 1, none⟩ (.slice (some ⟨gn, 0, none⟩) ns ns)) gn (nextV c nets) ∧ VRow (((((W.setCell ⟨s + 1 + 1, 0, none⟩ (.slice (some ⟨gB, 0, none⟩) ns ns)).setCell ⟨s + 1 + 1, 1, none⟩ (.slice (some ⟨D1, 0, none⟩) m m)).setCell ⟨s + 1 + 1, 2, none⟩ (.slice (some ⟨D2, 0, none⟩) m m)).setCell ⟨s + 1 + 1 + 1, 0, none⟩ (.slice (some ⟨go, 0, none⟩) lo lo)).setCell ⟨s + 1 + 1 + 1, 1, none⟩ (.slice (some ⟨gn, 0, none⟩) ns ns)) gB (bitsL (nextV c nets) ns) ∧ (OSt (((((W.setCell ⟨s + 1 + 1, 0, none⟩ (.slice (some ⟨gB, 0, none⟩) ns ns)).setCell ⟨s + 1 + 1, 1, none⟩ (.slice (some ⟨D1, 0, none⟩) m m)).setCell ⟨s + 1 + 1, 2, none⟩ (.slice (some ⟨D2, 0, none⟩) m m)).setCell ⟨s + 1 + 1 + 1, 0, none⟩ (.slice (some ⟨go, 0, none⟩) lo lo)).setCell ⟨s + 1 + 1 + 1, 1, none⟩ (.slice (some ⟨gn, 0, none⟩) ns ns)) D1 D2 L m (fun k => (s9.words.getD k []).length) (nxW c.mems s9.words nets) (nxR c.mems s9.words nets) m m) ∧ BelW w (((((W.setCell ⟨s + 1 + 1, 0, none⟩ (.slice (some ⟨gB, 0, none⟩) ns ns)).setCell ⟨s + 1 + 1, 1, none⟩ (.slice (some ⟨D1, 0, none⟩) m m)).setCell ⟨s + 1 + 1, 2, none⟩ (.slice (some ⟨D2, 0, none⟩) m m)).setCell ⟨s + 1 + 1 + 1, 0, none⟩ (.slice (some ⟨go, 0, none⟩) lo lo)).setCell ⟨s + 1 + 1 + 1, 1, none⟩ (.slice (some ⟨gn, 0, none⟩) ns ns)) ∧ Fr (((((W.setCell ⟨s + 1 + 1, 0, none⟩ (.slice (some ⟨gB, 0, none⟩) ns ns)).setCell ⟨s + 1 + 1, 1, none⟩ (.slice (some ⟨D1, 0, none⟩) m m)).setCell ⟨s + 1 + 1, 2, none⟩ (.slice (some ⟨D2, 0, none⟩) m m)).setCell ⟨s + 1 + 1 + 1, 0, none⟩ (.slice (some ⟨go, 0, none⟩) lo lo)).setCell ⟨s + 1 + 1 + 1, 1, none⟩ (.slice (some ⟨gn, 0, none⟩) ns ns)) (s + 1 + 1) 45 [.slice (some ⟨gB, 0, none⟩) ns ns, .slice (some ⟨D1, 0, none⟩) m m, .slice (some ⟨D2, 0, none⟩) m m] ∧ Fr (((((W.setCell ⟨s + 1 + 1, 0, none⟩ (.slice (some ⟨gB, 0, none⟩) ns ns)).setCell ⟨s + 1 + 1, 1, none⟩ (.slice (some ⟨D1, 0, none⟩) m m)).setCell ⟨s + 1 + 1, 2, none⟩ (.slice (some ⟨D2, 0, none⟩) m m)).setCell ⟨s + 1 + 1 + 1, 0, none⟩ (.slice (some ⟨go, 0, none⟩) lo lo)).setCell ⟨s + 1 + 1 + 1, 1, none⟩ (.slice (some ⟨gn, 0, none⟩) ns ns)) (s + 1 + 1 + 1) 49 [.slice (some ⟨go, 0, none⟩) lo lo, .slice (some ⟨gn, 0, none⟩) ns ns]) := Lib.hid fun W gB D1 D2 L h hvB hL hst => by
    have ft := HFT.out.below (joinB hbw13 h)
    have frr := HFR.out.below (joinB hbw13 h)
    have hsw := HSW.out
    have hlt := HFR.out.lt
    have hlt2 := Below.size hbw13
    have hw := HB13.out W h
    have v1 := (HV11.out.below hb13).below h
    have v2 := (HVO.out.below hb1213).below h
    have v3 := hvn13.below h
    have frn := (((frr.other (a := ⟨s + 1 + 1, 0, none⟩) (by show s + 1 + 1 ≠ s + 1 + 1 + 1; omega) (.slice (some ⟨gB, 0, none⟩) ns ns)).other (a := ⟨s + 1 + 1, 1, none⟩) (by show s + 1 + 1 ≠ s + 1 + 1 + 1; omega) (.slice (some ⟨D1, 0, none⟩) m m)).other (a := ⟨s + 1 + 1, 2, none⟩) (by show s + 1 + 1 ≠ s + 1 + 1 + 1; omega) (.slice (some ⟨D2, 0, none⟩) m m))
    have e1 := (((ft.set 0 (.slice (some ⟨gB, 0, none⟩) ns ns)).set 1 (.slice (some ⟨D1, 0, none⟩) m m)).set 2 (.slice (some ⟨D2, 0, none⟩) m m))
    have e2 := ((frn.set 0 (.slice (some ⟨go, 0, none⟩) lo lo)).set 1 (.slice (some ⟨gn, 0, none⟩) ns ns))
    refine ⟨(((((v1.other (a := ⟨s + 1 + 1, 0, none⟩) (ft.apart9 v1.fr (by decide)) (.slice (some ⟨gB, 0, none⟩) ns ns)).other (a := ⟨s + 1 + 1, 1, none⟩) (ft.apart9 v1.fr (by decide)) (.slice (some ⟨D1, 0, none⟩) m m)).other (a := ⟨s + 1 + 1, 2, none⟩) (ft.apart9 v1.fr (by decide)) (.slice (some ⟨D2, 0, none⟩) m m)).other (a := ⟨s + 1 + 1 + 1, 0, none⟩) (frr.apart9 v1.fr (by decide)) (.slice (some ⟨go, 0, none⟩) lo lo)).other (a := ⟨s + 1 + 1 + 1, 1, none⟩) (frr.apart9 v1.fr (by decide)) (.slice (some ⟨gn, 0, none⟩) ns ns)), (((((v2.other (a := ⟨s + 1 + 1, 0, none⟩) (ft.apart9 v2.fr (by decide)) (.slice (some ⟨gB, 0, none⟩) ns ns)).other (a := ⟨s + 1 + 1, 1, none⟩) (ft.apart9 v2.fr (by decide)) (.slice (some ⟨D1, 0, none⟩) m m)).other (a := ⟨s + 1 + 1, 2, none⟩) (ft.apart9 v2.fr (by decide)) (.slice (some ⟨D2, 0, none⟩) m m)).other (a := ⟨s + 1 + 1 + 1, 0, none⟩) (frr.apart9 v2.fr (by decide)) (.slice (some ⟨go, 0, none⟩) lo lo)).other (a := ⟨s + 1 + 1 + 1, 1, none⟩) (frr.apart9 v2.fr (by decide)) (.slice (some ⟨gn, 0, none⟩) ns ns)), (((((v3.other (a := ⟨s + 1 + 1, 0, none⟩) (ft.apart9 v3.fr (by decide)) (.slice (some ⟨gB, 0, none⟩) ns ns)).other (a := ⟨s + 1 + 1, 1, none⟩) (ft.apart9 v3.fr (by decide)) (.slice (some ⟨D1, 0, none⟩) m m)).other (a := ⟨s + 1 + 1, 2, none⟩) (ft.apart9 v3.fr (by decide)) (.slice (some ⟨D2, 0, none⟩) m m)).other (a := ⟨s + 1 + 1 + 1, 0, none⟩) (frr.apart9 v3.fr (by decide)) (.slice (some ⟨go, 0, none⟩) lo lo)).other (a := ⟨s + 1 + 1 + 1, 1, none⟩) (frr.apart9 v3.fr (by decide)) (.slice (some ⟨gn, 0, none⟩) ns ns)), (((((hvB.other (a := ⟨s + 1 + 1, 0, none⟩) (ft.apart9 hvB.fr (by decide)) (.slice (some ⟨gB, 0, none⟩) ns ns)).other (a := ⟨s + 1 + 1, 1, none⟩) (ft.apart9 hvB.fr (by decide)) (.slice (some ⟨D1, 0, none⟩) m m)).other (a := ⟨s + 1 + 1, 2, none⟩) (ft.apart9 hvB.fr (by decide)) (.slice (some ⟨D2, 0, none⟩) m m)).other (a := ⟨s + 1 + 1 + 1, 0, none⟩) (frr.apart9 hvB.fr (by decide)) (.slice (some ⟨go, 0, none⟩) lo lo)).other (a := ⟨s + 1 + 1 + 1, 1, none⟩) (frr.apart9 hvB.fr (by decide)) (.slice (some ⟨gn, 0, none⟩) ns ns)), (((((hst.off ft (by omega) 0 (.slice (some ⟨gB, 0, none⟩) ns ns)).off (ft.set 0 (.slice (some ⟨gB, 0, none⟩) ns ns)) (by omega) 1 (.slice (some ⟨D1, 0, none⟩) m m)).off ((ft.set 0 (.slice (some ⟨gB, 0, none⟩) ns ns)).set 1 (.slice (some ⟨D1, 0, none⟩) m m)) (by omega) 2 (.slice (some ⟨D2, 0, none⟩) m m)).offT frn (by decide) (by decide) (by decide) (by omega) 0 (.slice (some ⟨go, 0, none⟩) lo lo)).offT (frn.set 0 (.slice (some ⟨go, 0, none⟩) lo lo)) (by decide) (by decide) (by decide) (by omega) 1 (.slice (some ⟨gn, 0, none⟩) ns ns)), (((((hw.setCell (p := ⟨s + 1 + 1, 0, none⟩) (by show w.heap.size ≤ s + 1 + 1; omega) (.slice (some ⟨gB, 0, none⟩) ns ns)).setCell (p := ⟨s + 1 + 1, 1, none⟩) (by show w.heap.size ≤ s + 1 + 1; omega) (.slice (some ⟨D1, 0, none⟩) m m)).setCell (p := ⟨s + 1 + 1, 2, none⟩) (by show w.heap.size ≤ s + 1 + 1; omega) (.slice (some ⟨D2, 0, none⟩) m m)).setCell (p := ⟨s + 1 + 1 + 1, 0, none⟩) (by show w.heap.size ≤ s + 1 + 1 + 1; omega) (.slice (some ⟨go, 0, none⟩) lo lo)).setCell (p := ⟨s + 1 + 1 + 1, 1, none⟩) (by show w.heap.size ≤ s + 1 + 1 + 1; omega) (.slice (some ⟨gn, 0, none⟩) ns ns)), ((e1.other (a := ⟨s + 1 + 1 + 1, 0, none⟩) (by show s + 1 + 1 + 1 ≠ s + 1 + 1; omega) (.slice (some ⟨go, 0, none⟩) lo lo)).other (a := ⟨s + 1 + 1 + 1, 1, none⟩) (by show s + 1 + 1 + 1 ≠ s + 1 + 1; omega) (.slice (some ⟨gn, 0, none⟩) ns ns)), e2⟩
  have hs13 : BelW W13 W13 := Below.refl _ _
  have HRB : Hid (∀ W, BelW W13 W → W.cell? ⟨s + 1 + 1, 0, none⟩ = some (.slice none 0 0) ∧ W.cell? ⟨s + 1 + 1, 1, none⟩ = some (.slice none 0 0) ∧ W.cell? ⟨s + 1 + 1, 2, none⟩ = some (.slice none 0 0) ∧ W.cell? ⟨s + 1 + 1 + 1, 0, none⟩ = some (.slice none 0 0) ∧ W.cell? ⟨s + 1 + 1 + 1, 1, none⟩ = some (.slice none 0 0) ∧ (W.frozen? ⟨s + 1 + 1, 0, none⟩ = false ∧ W.frozen? ⟨s + 1 + 1, 1, none⟩ = false ∧ W.frozen? ⟨s + 1 + 1, 2, none⟩ = false) ∧ W.frozen? ⟨s + 1 + 1 + 1, 0, none⟩ = false ∧ W.frozen? ⟨s + 1 + 1 + 1, 1, none⟩ = false) := Lib.hid fun W h => by
    have ft := HFT.out.below (joinB hbw13 h)
    have frr := HFR.out.below (joinB hbw13 h)
    exact ⟨ft.cell 0, ft.cell 1, ft.cell 2, frr.cell 0, frr.cell 1, ⟨ft.frozen 0, ft.frozen 1, ft.frozen 2⟩, frr.frozen 0, frr.frozen 1⟩
  have HK11 : Hid (∀ w', BelW W13 w' → BelW w w' ∧ w'.cell? ⟨u, 0, none⟩ = some (.slice (some ⟨go, 0, none⟩) lo lo) ∧ w'.cell? ⟨u, 1, none⟩ = some (.slice (some ⟨gn, 0, none⟩) ns ns) ∧ w'.cell? ⟨gm, 0, none⟩ = some (.slice A0 n c0) ∧ w'.cell? ⟨gm, 1, none⟩ = some (.slice A1 n1 c1) ∧ w'.cell? ⟨gm, 2, none⟩ = some (.slice A2 m c2) ∧ w'.cell? ⟨gm, 3, none⟩ = some (.slice A3 n3 c3) ∧ w'.cell? ⟨gm, 4, none⟩ = some (.slice As0 ns d0) ∧ w'.cell? ⟨gm, 5, none⟩ = some (.slice As1 m d1) ∧ w'.cell? ⟨gm, 6, none⟩ = some (.slice As2 p2 d2) ∧ w'.cell? ⟨gm, 7, none⟩ = some (.slice (some ⟨g, 0, none⟩) n n)) := Lib.hid fun w' h => by
    obtain ⟨r0, r1, z0, z1, z2, z3, z4, z5, z6, z7⟩ := HMU.out w' h
    exact ⟨HB13.out w' h, r0, r1, z0, z1, z2, z3, z4, z5, z6, z7⟩
  have HSZ : Hid (∀ W L, BelW W13 W → W.heap.size ≤ L → W13.heap.size ≤ L) := Lib.hid fun W L h hl => Nat.le_trans (Below.size h) hl
  clear hb1213 hfu hb13 hbw13 hfm13 hns1 hvn13
  go_region_held3 (fun w' => BelW w w' ∧ w'.cell? ⟨u, 0, none⟩ = some (.slice (some ⟨go, 0, none⟩) lo lo) ∧ w'.cell? ⟨u, 1, none⟩ = some (.slice (some ⟨gn, 0, none⟩) ns ns) ∧ w'.cell? ⟨gm, 0, none⟩ = some (.slice A0 n c0) ∧ w'.cell? ⟨gm, 1, none⟩ = some (.slice A1 n1 c1) ∧ w'.cell? ⟨gm, 2, none⟩ = some (.slice A2 m c2) ∧ w'.cell? ⟨gm, 3, none⟩ = some (.slice A3 n3 c3) ∧ w'.cell? ⟨gm, 4, none⟩ = some (.slice As0 ns d0) ∧ w'.cell? ⟨gm, 5, none⟩ = some (.slice As1 m d1) ∧ w'.cell? ⟨gm, 6, none⟩ = some (.slice As2 p2 d2) ∧ w'.cell? ⟨gm, 7, none⟩ = some (.slice (some ⟨g, 0, none⟩) n n))
    ((first | (with_reducible exact h14a) | (with_reducible exact h14b) | (refine HK11.out _ ?_; with_reducible repeat (first | assumption | refine BelW.drew ?_ | refine BelW.alloc ?_ _))))
    ((go_at_call 40; (refine Calls.mono (HNXT.out _ (BelW.drew hs13)) ?_)
      rintro e w14 ⟨gB, D1, D2, rfl, hvB, ⟨L, hL, hst⟩, hb14⟩
      have hk14 : BelW W13 w14 := BelW.trans (BelW.drew hs13) hb14
      have hL13 := HSZ.out _ L (BelW.drew hs13) hL
      obtain ⟨h14a, h14b⟩ := HS3.out w14 gB D1 D2 hk14
      obtain ⟨t0, t1, t2, t3, t4, ⟨t5, t6, t7⟩, t8, t9⟩ := HRB.out w14 hk14))
  obtain ⟨f1, f2, f3, f4, f5, f6, f7, f8⟩ := HF5.out w14 gB D1 D2 L hk14 hvB hL13 hst
  (try simp only [Exit.inBlock, Exit.then])
  have hgo : (outV c nets).length = lo := HLO.out.symm
  have HFN := Lib.hid (And.intro f1 (And.intro f2 (And.intro f3 (And.intro f4 (And.intro f5 f6)))))
  clear h14a h14b t0 t1 t2 t3 t4 t5 t6 t7 t8 t9 f1 f2 f3 f4 f5 f6
  go_wp2
  (try simp only [Exit.inBlock, Exit.then])
  refine bodyPost_ret (results_row2_tmp2 rfl _ _ _ _ _ _ _ _ _ _ _ _ rfl f7 rfl f8 Tryz.underlying45 rfl (by kernel_rfl) Tryz.underlying49 rfl (by kernel_rfl)) rfl ?_
  refine ⟨R, gB, D1, D2, go, gn, g, HR.out.1, ?_⟩
  rw [← HNE.out, hgo]
  exact ⟨rfl, HFN.out.1, HFN.out.2.1, HFN.out.2.2.1, HFN.out.2.2.2.1, ⟨L, HFN.out.2.2.2.2.1⟩, HFN.out.2.2.2.2.2⟩
end Go.Proofs.YtkaedfgmhfefjaaGreatDoor

namespace Go.Proofs.YtkaedfgmhfefjaaGreatDoor
open Go.RowKit

theorem own_ne9 {w : World} {b b' : Nat} {e e' : TypeId} {s s' n n' : Nat} {v u : Value} {xs ys : List Value} (he : e ≠ e') (h : w.ownsRow b e s v n xs) (h' : w.ownsRow b' e' s' u n' ys) : u.ownBlock = none ∨ u.ownBlock ≠ v.ownBlock := by
  rcases h'.2 with ⟨rfl, -⟩ | ⟨g', c', cur', rfl, -, hg', -⟩
  · exact .inl rfl
  · refine .inr fun e1 => ?_
    rcases h.2 with ⟨rfl, -⟩ | ⟨g, c, cur, rfl, -, hg, -⟩
    · simp [Value.ownBlock] at e1
    · simp only [Value.ownBlock, Option.some.injEq] at e1
      rw [e1] at hg'
      have h2 := Option.some.inj (hg.symm.trans hg')
      injection h2 with _ h3 _
      exact he h3
theorem own_bel {w w' : World} {b n s : Nat} {e : TypeId} {v : Value} {xs : List Value} (h : w.ownsRow b e s v n xs) (hb : BelW w w') : w'.ownsRow b e s v n xs := by
  refine World.ownsRow.kept h (row := none) ⟨hb.os, hb.tape, hb.output, hb.size, fun i hi _ => hb.block i hi⟩ ?_
  rcases ho : v.ownBlock with _ | q
  · exact .inl rfl
  · exact .inr (by simp)
theorem own_set {w : World} {b g n s : Nat} {e t : TypeId} {v : Value} {xs cs : List Value} (h : w.ownsRow b e s v n xs) (hf : Fr w g t cs) (he : t ≠ e) (j : Nat) (x : Value) : (w.setCell ⟨g, j, none⟩ x).ownsRow b e s v n xs := by
  refine World.ownsRow.kept h (grown_v (g := g) (World.grownBy.refl w _) j x) ?_
  rcases h.2 with ⟨rfl, -⟩ | ⟨g', c', cur', rfl, -, hg', -⟩
  · exact .inl rfl
  · refine .inr fun e1 => ?_
    simp only [Value.ownBlock, Option.some.injEq] at e1
    subst e1
    unfold Fr at hf
    have h2 := Option.some.inj (hf.symm.trans hg')
    injection h2 with _ h3 _
    exact he h3
theorem VStk.keptT {w w' : World} {B : Nat} {v : Value} {l : List Int} (h : VStk w B v l) {b s n : Nat} {e : TypeId} {u : Value} {xs : List Value} (hu : w.ownsRow b e s u n xs) (q1 : e ≠ 77) (hg : w.grownBy w' u.ownBlock) : VStk w' B v l := World.ownsRow.kept h hg (own_ne9 q1 hu h)
theorem VStk.setF {w : World} {B : Nat} {v : Value} {l : List Int} (h : VStk w B v l) {g : Nat} {t : TypeId} {cs : List Value} (hf : Fr w g t cs) (q1 : t ≠ 77) (j : Nat) (x : Value) : VStk (w.setCell ⟨g, j, none⟩ x) B v l := own_set h hf q1 j x

/-- An own row of own words. -/
def WS (w : World) (B : Nat) (v : Value) (l : List (List Int)) : Prop :=
  ∃ vs : List Value, vs.length = l.length ∧ w.ownsRow B 41 1 v l.length vs ∧ ∀ j, j < l.length → ∃ A c, vs[j]? = some (.slice A (l.getD j []).length c) ∧ VStk w B (.slice A (l.getD j []).length c) (l.getD j [])
section
variable {w w' : World} {B : Nat} {v v' : Value} {l : List (List Int)}
theorem WS.nil (w : World) (B : Nat) : WS w B (.slice none 0 0) [] := ⟨[], rfl, World.ownsRow_nil _ _ _ _, fun j hj => absurd hj (by simp)⟩
theorem WS.below (h : WS w B v l) (hb : BelW w w') : WS w' B v l := by
  obtain ⟨vs, h1, h2, h3⟩ := h
  exact ⟨vs, h1, own_bel h2 hb, fun j hj => by obtain ⟨A, c, e, hp⟩ := h3 j hj; exact ⟨A, c, e, hp.below hb⟩⟩
theorem WS.form (h : WS w B v l) : ∃ A c, v = .slice A l.length c ∧ l.length ≤ c := by
  obtain ⟨vs, h1, h2, h3⟩ := h
  rcases h2.2 with ⟨rfl, h0⟩ | ⟨g, cap, cur, rfl, hb, hg, hle, hm, -⟩
  · exact ⟨none, 0, by rw [h0], by omega⟩
  · exact ⟨_, cap, rfl, hle⟩
/-- A row of another type is grown. -/
theorem WS.keptT (h : WS w B v l) {b s n : Nat} {e : TypeId} {u : Value} {xs : List Value} (hu : w.ownsRow b e s u n xs) (q1 : e ≠ 41) (q2 : e ≠ 77) (hg : w.grownBy w' u.ownBlock) : WS w' B v l := by
  obtain ⟨vs, h1, h2, h3⟩ := h
  exact ⟨vs, h1, World.ownsRow.kept h2 hg (own_ne9 q1 hu h2), fun j hj => by
    obtain ⟨A, c, e, hp⟩ := h3 j hj
    exact ⟨A, c, e, hp.keptT hu q2 hg⟩⟩
/-- A cell of a block of another type is written. -/
theorem WS.setF (h : WS w B v l) {g : Nat} {t : TypeId} {cs : List Value} (hf : Fr w g t cs) (q1 : t ≠ 41) (q2 : t ≠ 77) (j : Nat) (x : Value) : WS (w.setCell ⟨g, j, none⟩ x) B v l := by
  obtain ⟨vs, h1, h2, h3⟩ := h
  exact ⟨vs, h1, own_set h2 hf q1 j x, fun j hj => by
    obtain ⟨A, c, e, hp⟩ := h3 j hj
    exact ⟨A, c, e, hp.setF hf q2 _ x⟩⟩
/-- One more is appended. -/
theorem WS.add {vs : List Value} {p : List Int} {A : Option Addr} {c : Nat} (h1 : vs.length = l.length) (h2 : w.ownsRow B 41 1 v l.length vs) (h3 : ∀ j, j < l.length → ∃ A c, vs[j]? = some (.slice A (l.getD j []).length c) ∧ VStk w B (.slice A (l.getD j []).length c) (l.getD j []))
    (hg : w.grownBy w' v.ownBlock) (ho : w'.ownsRow B 41 1 v' (l.length + 1) (vs ++ [.slice A p.length c])) (hp : VStk w B (.slice A p.length c) p) : WS w' B v' (l ++ [p]) := by
  have hlen : (l ++ [p]).length = l.length + 1 := by simp
  refine ⟨vs ++ [.slice A p.length c], by simp [h1], by rw [hlen]; exact ho, fun j hj => ?_⟩
  by_cases hlt : j < l.length
  · obtain ⟨A', c', e, hp'⟩ := h3 j hlt
    have e2 : (l ++ [p]).getD j [] = l.getD j [] := by rw [List.getD_eq_getElem?_getD, List.getElem?_append_left hlt, ← List.getD_eq_getElem?_getD]
    rw [e2]
    exact ⟨A', c', by rw [List.getElem?_append_left (by omega)]; exact e, hp'.keptT h2 (by decide) hg⟩
  · obtain rfl : j = l.length := by omega
    have e2 : (l ++ [p]).getD l.length [] = p := by rw [List.getD_eq_getElem?_getD, List.getElem?_append_right (Nat.le_refl _), Nat.sub_self]; rfl
    rw [e2]
    exact ⟨A, c, by rw [List.getElem?_append_right (by omega), h1, Nat.sub_self]; rfl, hp.keptT h2 (by decide) hg⟩
end

/-- An own row of such rows. -/
def WWS (w : World) (B : Nat) (v : Value) (l : List (List (List Int))) : Prop :=
  ∃ vs : List Value, vs.length = l.length ∧ w.ownsRow B 43 1 v l.length vs ∧ ∀ j, j < l.length → ∃ A c, vs[j]? = some (.slice A (l.getD j []).length c) ∧ WS w B (.slice A (l.getD j []).length c) (l.getD j [])
section
variable {w w' : World} {B : Nat} {v v' : Value} {l : List (List (List Int))}
theorem WWS.nil (w : World) (B : Nat) : WWS w B (.slice none 0 0) [] := ⟨[], rfl, World.ownsRow_nil _ _ _ _, fun j hj => absurd hj (by simp)⟩
theorem WWS.below (h : WWS w B v l) (hb : BelW w w') : WWS w' B v l := by
  obtain ⟨vs, h1, h2, h3⟩ := h
  exact ⟨vs, h1, own_bel h2 hb, fun j hj => by obtain ⟨A, c, e, hp⟩ := h3 j hj; exact ⟨A, c, e, hp.below hb⟩⟩
theorem WWS.form (h : WWS w B v l) : ∃ A c, v = .slice A l.length c ∧ l.length ≤ c := by
  obtain ⟨vs, h1, h2, h3⟩ := h
  rcases h2.2 with ⟨rfl, h0⟩ | ⟨g, cap, cur, rfl, hb, hg, hle, hm, -⟩
  · exact ⟨none, 0, by rw [h0], by omega⟩
  · exact ⟨_, cap, rfl, hle⟩
/-- A row of another type is grown. -/
theorem WWS.keptT (h : WWS w B v l) {b s n : Nat} {e : TypeId} {u : Value} {xs : List Value} (hu : w.ownsRow b e s u n xs) (q1 : e ≠ 43) (q2 : e ≠ 41) (q3 : e ≠ 77) (hg : w.grownBy w' u.ownBlock) : WWS w' B v l := by
  obtain ⟨vs, h1, h2, h3⟩ := h
  exact ⟨vs, h1, World.ownsRow.kept h2 hg (own_ne9 q1 hu h2), fun j hj => by
    obtain ⟨A, c, e, hp⟩ := h3 j hj
    exact ⟨A, c, e, hp.keptT hu q2 q3 hg⟩⟩
/-- A cell of a block of another type is written. -/
theorem WWS.setF (h : WWS w B v l) {g : Nat} {t : TypeId} {cs : List Value} (hf : Fr w g t cs) (q1 : t ≠ 43) (q2 : t ≠ 41) (q3 : t ≠ 77) (j : Nat) (x : Value) : WWS (w.setCell ⟨g, j, none⟩ x) B v l := by
  obtain ⟨vs, h1, h2, h3⟩ := h
  exact ⟨vs, h1, own_set h2 hf q1 j x, fun j hj => by
    obtain ⟨A, c, e, hp⟩ := h3 j hj
    exact ⟨A, c, e, hp.setF hf q2 q3 _ x⟩⟩
/-- One more is appended. -/
theorem WWS.add {vs : List Value} {p : List (List Int)} {A : Option Addr} {c : Nat} (h1 : vs.length = l.length) (h2 : w.ownsRow B 43 1 v l.length vs) (h3 : ∀ j, j < l.length → ∃ A c, vs[j]? = some (.slice A (l.getD j []).length c) ∧ WS w B (.slice A (l.getD j []).length c) (l.getD j []))
    (hg : w.grownBy w' v.ownBlock) (ho : w'.ownsRow B 43 1 v' (l.length + 1) (vs ++ [.slice A p.length c])) (hp : WS w B (.slice A p.length c) p) : WWS w' B v' (l ++ [p]) := by
  have hlen : (l ++ [p]).length = l.length + 1 := by simp
  refine ⟨vs ++ [.slice A p.length c], by simp [h1], by rw [hlen]; exact ho, fun j hj => ?_⟩
  by_cases hlt : j < l.length
  · obtain ⟨A', c', e, hp'⟩ := h3 j hlt
    have e2 : (l ++ [p]).getD j [] = l.getD j [] := by rw [List.getD_eq_getElem?_getD, List.getElem?_append_left hlt, ← List.getD_eq_getElem?_getD]
    rw [e2]
    exact ⟨A', c', by rw [List.getElem?_append_left (by omega)]; exact e, hp'.keptT h2 (by decide) (by decide) hg⟩
  · obtain rfl : j = l.length := by omega
    have e2 : (l ++ [p]).getD l.length [] = p := by rw [List.getD_eq_getElem?_getD, List.getElem?_append_right (Nat.le_refl _), Nat.sub_self]; rfl
    rw [e2]
    exact ⟨A, c, by rw [List.getElem?_append_right (by omega), h1, Nat.sub_self]; rfl, hp.keptT h2 (by decide) (by decide) hg⟩
end

theorem WS.wds {w : World} {B : Nat} {v : Value} {l : List (List Int)} (h : WS w B v l) : Wrds w w.heap.size v l := by
  obtain ⟨vs, h1, h2, h3⟩ := h
  rcases id h2.2 with ⟨rfl, h0⟩ | ⟨g, cap, cur, rfl, hb, hg, hle, hm, -⟩
  · obtain rfl : l = [] := List.eq_nil_of_length_eq_zero h0
    exact Arr.nil _ _ _ _ _
  · refine ⟨some ⟨g, 0, none⟩, g, 0, cap, rfl, fun _ => rfl, hle, Nat.le_trans hle hm, fun k hk => ⟨(World.ownsRow.lt h2 g rfl).2, ?_⟩⟩
    obtain ⟨A, c, e, hp⟩ := h3 k hk
    refine ⟨A, c, ?_, hp.ks⟩
    rw [Nat.zero_add, Nat.mul_one, World.ownsRow.cellAt h2 k (by omega), e]
theorem WWS.wwss {w : World} {B : Nat} {v : Value} {l : List (List (List Int))} (h : WWS w B v l) : Wwss w w.heap.size v l := by
  obtain ⟨vs, h1, h2, h3⟩ := h
  rcases id h2.2 with ⟨rfl, h0⟩ | ⟨g, cap, cur, rfl, hb, hg, hle, hm, -⟩
  · obtain rfl : l = [] := List.eq_nil_of_length_eq_zero h0
    exact Arr.nil _ _ _ _ _
  · refine ⟨some ⟨g, 0, none⟩, g, 0, cap, rfl, fun _ => rfl, hle, Nat.le_trans hle hm, fun k hk => ⟨(World.ownsRow.lt h2 g rfl).2, ?_⟩⟩
    obtain ⟨A, c, e, hp⟩ := h3 k hk
    refine ⟨A, c, ?_, hp.wds⟩
    rw [Nat.zero_add, Nat.mul_one, World.ownsRow.cellAt h2 k (by omega), e]
end Go.Proofs.YtkaedfgmhfefjaaGreatDoor

namespace Go.Proofs.YtkaedfgmhfefjaaGreatDoor
open Go.RowKit

set_option maxHeartbeats 2000000 in
theorem belowL_yes (l l' : List Int) (m : Nat) (A A' : Option Addr) (c c' : Nat) (w : World) (B B' : Nat) (hs : Ks w B (.slice A m c) l) (hs' : Ks w B' (.slice A' m c') l') (hle : ∀ j, j < m → blw (l.getD j 0) (l'.getD j 0) = true) :
    Calls Tryz.prog 26 #[.slice A m c, .slice A' m c'] w fun e w' => e = .returned (.int .i64 0) ∧ BelW w w' := by
  obtain ⟨A1, b, o, c1, e, hA, -, hm, hc⟩ := hs.opens
  simp only [Value.slice.injEq] at e
  obtain ⟨rfl, hml, rfl⟩ := e
  obtain ⟨A2, b', o', c2, e, hA', -, -, hc'⟩ := hs'.opens
  simp only [Value.slice.injEq] at e
  obtain ⟨rfl, hml', rfl⟩ := e
  rw [← hml] at hA hc hm
  rw [← hml'] at hA' hc'
  unfold maxLen at hm
  have HA := Lib.hid hA
  have HC := Lib.hid hc
  have HA' := Lib.hid hA'
  have HC' := Lib.hid hc'
  have HLE := Lib.hid hle
  have HB := Lib.hid (fun a b w => Lg.below_any a b w)
  clear hA hc hA' hc' hle hs hs' hml hml'
  go_enter Tryz.func26, Tryz.ntmps26
  go_wp2
  go_loopw [5] (fun i wr => BelW w wr ∧ ∃ k : Nat, k ≤ m ∧ i = .int .i64 k) (fun i _ => m - (intOf i).toNat)
  case atStart => exact ⟨Below.refl _ _, 0, Nat.zero_le _, rfl⟩
  case round =>
    obtain ⟨hb, k, hk, rfl⟩ := hrel
    have HBR := Lib.hid hb
    by_cases hlt : k < m
    · obtain rfl := HA.out (by omega)
      obtain rfl := HA'.out (by omega)
      obtain ⟨h1, h2⟩ := HC.out k hlt
      obtain ⟨h3, h4⟩ := HC'.out k hlt
      have x1 := (Below.cell hb (p := ⟨b, o + k, none⟩) (cell_lt h2)).trans h2
      have x2 := (Below.cell hb (p := ⟨b', o' + k, none⟩) (cell_lt h4)).trans h4
      have hv := HLE.out k hlt
      obtain ⟨y, HY⟩ := named (l.getD k 0)
      obtain ⟨y', HY'⟩ := named (l'.getD k 0)
      rw [← HY.out] at x1 hv
      rw [← HY'.out] at x2 hv
      have hbb := fun w => HB.out y y' w
      rw [hv] at hbb
      have HBB := Lib.hid hbb
      clear h2 h4 hb hv hbb
      go_wp2
      go_quiet ((go_at_call 66; exact Calls.quiet_of_same ((HBB.out _).mono fun _ _ h => ⟨h.1, h.2.symm⟩)))
      go_wp2
      go_roundw
      case rel => exact ⟨below_drewN HBR.out _, k + 1, by omega, by go_num⟩
      case measure => simp [intOf]; omega
    · go_wp2
      go_ret
      exact ⟨rfl, HBR.out⟩

/-- A pattern made for the call: its two rows are apart. -/
def PatPost (li ls : List Int) (w : World) (e : Ending) (w' : World) : Prop :=
  ∃ A0 c0 A1 c1, e = .returned (.agg #[.slice A0 li.length c0, .slice A1 ls.length c1]) ∧ VStk w' w.heap.size (.slice A0 li.length c0) li ∧ VStk w' w.heap.size (.slice A1 ls.length c1) ls ∧ (∀ a b, (Value.slice A0 li.length c0).ownBlock = some a → (Value.slice A1 ls.length c1).ownBlock = some b → a ≠ b) ∧ Below w.heap.size w w'
theorem VStk.setS {w : World} {base : Nat} {v : Value} {l : List Int} (h : VStk w base v l) {a : Addr} (ha : a.block < base) (x : Value) : VStk (w.setCell a x) base v l :=
  h.kept (row := some a.block) ⟨rfl, rfl, rfl, by simp [World.setCell], fun i _ hne => Below.heap_setCell _ _ _ _ (fun e => hne (by rw [e]))⟩ (fun q e => by injection e with e; omega)
theorem VStk.low {w : World} {base base' : Nat} {v : Value} {l : List Int} (h : VStk w base v l) (hb : base' ≤ base) : VStk w base' v l := by
  refine ⟨h.1, ?_⟩
  rcases h.2 with h2 | ⟨g, cap, cur, e, hb', h3⟩
  · exact .inl h2
  · exact .inr ⟨g, cap, cur, e, Nat.le_trans hb hb', h3⟩

set_option maxRecDepth 100000 in
set_option maxHeartbeats 8000000 in
theorem pOf_any (c : Ck) (qi qs : List Int) (A0 A1 A2 A3 Ai As : Option Addr) (c0 c1 c2 c3 mi ms ci cs : Nat) (w : World) (B : Nat) (hB : B ≤ w.heap.size)
    (hc : Cir w B (.agg #[.slice A0 c.nodes.length c0, .slice A1 c.names.length c1, .slice A2 c.mems.length c2, .slice A3 c.outs.length c3]) c) (hi : Ks w B (.slice Ai mi ci) qi) (hs : Ks w B (.slice As ms cs) qs) (hsz : c.nodes.length ≤ 1000000) (vi : ∀ x ∈ qi, 0 ≤ x ∧ x ≤ 255) (vs : ∀ x ∈ qs, 0 ≤ x ∧ x ≤ 255) :
    Calls Tryz.prog 32 #[.agg #[.slice Ai mi ci, .slice As ms cs], .agg #[.slice A0 c.nodes.length c0, .slice A1 c.names.length c1, .slice A2 c.mems.length c2, .slice A3 c.outs.length c3]] w (PatPost (takL qi 4 (ofTo c.nodes [0] c.nodes.length).length) (takL qs 3 (ofTo c.nodes [14] c.nodes.length).length) w) := by
  obtain ⟨W0, HW0⟩ := named ((w.alloc (.cells #[.slice Ai mi ci, .slice As ms cs] 31)).alloc (.cells #[.slice A0 c.nodes.length c0, .slice A1 c.names.length c1, .slice A2 c.mems.length c2, .slice A3 c.outs.length c3] 39))
  have hb0 : Below w.heap.size w W0 := by rw [HW0.out]; exact below_new (below_new (Below.refl _ _) _) _
  have hfp : Fr W0 w.heap.size 31 [.slice Ai mi ci, .slice As ms cs] := by rw [HW0.out]; exact Fr.alloc (Fr.made _ _ _ rfl) _
  have hfc : Fr W0 (w.heap.size + 1) 39 (#[.slice A0 c.nodes.length c0, .slice A1 c.names.length c1, .slice A2 c.mems.length c2, .slice A3 c.outs.length c3]).toList := by rw [HW0.out]; exact Fr.made _ _ _ (by simp)
  have hz0 : W0.heap.size = w.heap.size + 1 + 1 := by rw [HW0.out]; simp
  have hBW : ∀ {W}, BelW W0 W → B ≤ W.heap.size := fun {W} h => Nat.le_trans hB (joinB hb0 h).size
  have hcn : ∀ W k, BelW W0 W → Calls Tryz.prog 75 #[.agg #[.slice A0 c.nodes.length c0, .slice A1 c.names.length c1, .slice A2 c.mems.length c2, .slice A3 c.outs.length c3], .int .u8 k] W fun e w' => e = .returned (.int .i64 ((ofTo c.nodes [k] c.nodes.length).length : Int)) ∧ BelW W w' :=
    fun W k h => count_any c k _ W B (hBW h) (hc.below ((joinB hb0 h).mono hB)) hsz
  have hti : ∀ W, BelW W0 W → Calls Tryz.prog 74 #[.slice Ai mi ci, .int .i64 ((ofTo c.nodes [0] c.nodes.length).length : Int), .int .u8 4] W fun e w' => ∃ A cc, e = .returned (.slice A (ofTo c.nodes [0] c.nodes.length).length cc) ∧ VStk w' W.heap.size (.slice A (ofTo c.nodes [0] c.nodes.length).length cc) (takL qi 4 (ofTo c.nodes [0] c.nodes.length).length) ∧ BelW W w' :=
    fun W h => (taken_any qi 4 (by decide) (by decide) _ (by have := ofTo_len c.nodes [0] c.nodes.length; omega) Ai mi ci W B (hBW h) (Arr.keep stays_u8 hi (Nat.le_refl _) fun _ hp => (joinB hb0 h).cell (Nat.lt_of_lt_of_le hp hB)) vi).mono fun e w' ⟨v, he, hv, hb⟩ => by
      obtain ⟨A, cc, rfl, -⟩ := hv.form
      rw [takL_len] at he hv
      exact ⟨A, cc, he, hv, hb⟩
  have hts : ∀ W, BelW W0 W → Calls Tryz.prog 74 #[.slice As ms cs, .int .i64 ((ofTo c.nodes [14] c.nodes.length).length : Int), .int .u8 3] W fun e w' => ∃ A cc, e = .returned (.slice A (ofTo c.nodes [14] c.nodes.length).length cc) ∧ VStk w' W.heap.size (.slice A (ofTo c.nodes [14] c.nodes.length).length cc) (takL qs 3 (ofTo c.nodes [14] c.nodes.length).length) ∧ BelW W w' :=
    fun W h => (taken_any qs 3 (by decide) (by decide) _ (by have := ofTo_len c.nodes [14] c.nodes.length; omega) As ms cs W B (hBW h) (Arr.keep stays_u8 hs (Nat.le_refl _) fun _ hp => (joinB hb0 h).cell (Nat.lt_of_lt_of_le hp hB)) vs).mono fun e w' ⟨v, he, hv, hb⟩ => by
      obtain ⟨A, cc, rfl, -⟩ := hv.form
      rw [takL_len] at he hv
      exact ⟨A, cc, he, hv, hb⟩
  have HC0 := Lib.hid (fun W h => hcn W 0 h)
  have HC1 := Lib.hid (fun W h => hcn W 14 h)
  have HL0 : Hid ((takL qi 4 (ofTo c.nodes [0] c.nodes.length).length).length = (ofTo c.nodes [0] c.nodes.length).length) := Lib.hid (takL_len _ _ _)
  have HL1 : Hid ((takL qs 3 (ofTo c.nodes [14] c.nodes.length).length).length = (ofTo c.nodes [14] c.nodes.length).length) := Lib.hid (takL_len _ _ _)
  have hp : ∀ (e : Ending) (w' : World) A0 c0 A1 c1, e = .returned (.agg #[.slice A0 (ofTo c.nodes [0] c.nodes.length).length c0, .slice A1 (ofTo c.nodes [14] c.nodes.length).length c1]) → VStk w' w.heap.size (.slice A0 (ofTo c.nodes [0] c.nodes.length).length c0) (takL qi 4 (ofTo c.nodes [0] c.nodes.length).length) → VStk w' w.heap.size (.slice A1 (ofTo c.nodes [14] c.nodes.length).length c1) (takL qs 3 (ofTo c.nodes [14] c.nodes.length).length) →
      (∀ a b, (Value.slice A0 (ofTo c.nodes [0] c.nodes.length).length c0).ownBlock = some a → (Value.slice A1 (ofTo c.nodes [14] c.nodes.length).length c1).ownBlock = some b → a ≠ b) → Below w.heap.size w w' → PatPost (takL qi 4 (ofTo c.nodes [0] c.nodes.length).length) (takL qs 3 (ofTo c.nodes [14] c.nodes.length).length) w e w' := fun e w' A0 c0 A1 c1 he h1 h2 h3 h4 => by
    unfold PatPost
    rw [HL0.out, HL1.out]
    exact ⟨A0, c0, A1, c1, he, h1, h2, h3, h4⟩
  have HP := Lib.hid hp
  obtain ⟨post, HPO⟩ := named (PatPost (takL qi 4 (ofTo c.nodes [0] c.nodes.length).length) (takL qs 3 (ofTo c.nodes [14] c.nodes.length).length) w)
  rw [← HPO.out] at HP
  rw [← HPO.out]
  have HB0 := Lib.hid hb0
  clear hc hi hs vi vs hb0 hBW hcn hp HL0 HL1
  obtain ⟨li, HLI⟩ := named (takL qi 4 (ofTo c.nodes [0] c.nodes.length).length)
  obtain ⟨ls, HLS⟩ := named (takL qs 3 (ofTo c.nodes [14] c.nodes.length).length)
  rw [← HLI.out] at hti HP
  rw [← HLS.out] at hts HP
  clear HPO HLI HLS
  generalize (ofTo c.nodes [0] c.nodes.length).length = k0 at HC0 hti HP
  generalize (ofTo c.nodes [14] c.nodes.length).length = k1 at HC1 hts HP
  generalize c.nodes.length = n at HW0 hfc HC0 HC1 hsz ⊢
  generalize c.names.length = n1 at HW0 hfc HC0 HC1 ⊢
  generalize c.mems.length = n2 at HW0 hfc HC0 HC1 ⊢
  generalize c.outs.length = n3 at HW0 hfc HC0 HC1 ⊢
  have HTI := Lib.hid hti
  have HTS := Lib.hid hts
  have HCE : Hid (∀ W, BelW W0 W → BelW W0 W ∧ W.cell? ⟨w.heap.size, 0, none⟩ = some (.slice Ai mi ci) ∧ W.cell? ⟨w.heap.size, 1, none⟩ = some (.slice As ms cs) ∧ W.cell? ⟨w.heap.size + 1, 0, none⟩ = some (.slice A0 n c0) ∧ W.cell? ⟨w.heap.size + 1, 1, none⟩ = some (.slice A1 n1 c1) ∧ W.cell? ⟨w.heap.size + 1, 2, none⟩ = some (.slice A2 n2 c2) ∧ W.cell? ⟨w.heap.size + 1, 3, none⟩ = some (.slice A3 n3 c3)) :=
    Lib.hid fun W h => ⟨h, (hfp.below h).cell 0, (hfp.below h).cell 1, (hfc.below h).cell 0, (hfc.below h).cell 1, (hfc.below h).cell 2, (hfc.below h).cell 3⟩
  have hwz := HB0.out.size
  clear hfp hfc hti hts
  go_enter Tryz.func32, Tryz.ntmps32
  go_upto_region 1 with (fail)
  rw [← HW0.out]
  obtain ⟨V, HV⟩ := named (W0.alloc (.cells #[.slice none 0 0, .slice none 0 0] 73))
  have hs0 : BelW W0 V := by rw [HV.out]; exact below_new (Below.refl _ _) _
  have hf0 : Fr V W0.heap.size 73 [.slice none 0 0, .slice none 0 0] := by rw [HV.out]; exact Fr.made _ _ _ rfl
  have hvz : W0.heap.size < V.heap.size := by rw [HV.out]; simp
  have hwr : w.heap.size + 1 < W0.heap.size := by omega
  have hrz : w.heap.size + 1 + 1 = W0.heap.size := hz0.symm
  rw [hrz]
  obtain ⟨r, HR⟩ := named W0.heap.size
  rw [← HR.out] at hf0 hvz hwr
  have hrl : W0.heap.size ≤ r := by rw [HR.out]; exact Nat.le_refl _
  try rw [← HV.out]
  try rw [← HR.out]
  have hf0d : Fr V.drew r 73 [.slice none 0 0, .slice none 0 0] := hf0
  have hs0d : BelW W0 V.drew := BelW.drew hs0
  clear hs0 hf0
  have hs0 : BelW W0 V := by rw [HV.out]; exact below_new (Below.refl _ _) _
  go_region_held3 (fun w' => BelW W0 w' ∧ w'.cell? ⟨w.heap.size, 0, none⟩ = some (.slice Ai mi ci) ∧ w'.cell? ⟨w.heap.size, 1, none⟩ = some (.slice As ms cs) ∧ w'.cell? ⟨w.heap.size + 1, 0, none⟩ = some (.slice A0 n c0) ∧ w'.cell? ⟨w.heap.size + 1, 1, none⟩ = some (.slice A1 n1 c1) ∧ w'.cell? ⟨w.heap.size + 1, 2, none⟩ = some (.slice A2 n2 c2) ∧ w'.cell? ⟨w.heap.size + 1, 3, none⟩ = some (.slice A3 n3 c3))
    ((refine HCE.out _ ?_; first | (with_reducible assumption) | (refine BelW.drew ?_; with_reducible assumption) | (refine BelW.set (BelW.set ?_ ?_ _) ?_ _ <;> first | (with_reducible assumption) | ((try dsimp only) <;> omega))))
    (first
      | (go_at_call 75; (with_reducible refine Calls.mono (HC0.out _ ?_) ?_); · (first | (with_reducible assumption) | (refine BelW.drew ?_; with_reducible assumption))
         rintro e wa ⟨rfl, hba⟩
         have hswa : BelW W0 wa := (by refine BelW.next ?_ hba; first | (with_reducible assumption) | (refine BelW.drew ?_; with_reducible assumption))
         have hfwa : Fr wa r 73 [.slice none 0 0, .slice none 0 0] := Fr.below (by first | (with_reducible assumption) | exact hf0d) hba)
      | (go_at_call 75; (with_reducible refine Calls.mono (HC1.out _ ?_) ?_); · (first | (with_reducible assumption) | (refine BelW.drew ?_; with_reducible assumption))
         rintro e wc ⟨rfl, hbc⟩
         have hswc : BelW W0 wc := (by refine BelW.next ?_ hbc; first | (with_reducible assumption) | (refine BelW.drew ?_; with_reducible assumption))
         have hfwc : Fr wc r 73 [.slice none 0 0, .slice none 0 0] := Fr.below (by first | (with_reducible assumption) | exact hf0d) hbc
         have hvc := VStk.below hvb hbc)
      | (go_at_call 74; (with_reducible refine Calls.mono (HTI.out _ ?_) ?_); · (first | (with_reducible assumption) | (refine BelW.drew ?_; with_reducible assumption))
         rintro e wb ⟨Ai', ci', rfl, hvb, hbb⟩
         have hswb : BelW W0 wb := (by refine BelW.next ?_ hbb; first | (with_reducible assumption) | (refine BelW.drew ?_; with_reducible assumption))
         have hfwb : Fr wb r 73 [.slice none 0 0, .slice none 0 0] := Fr.below (by first | (with_reducible assumption) | exact hf0d) hbb)
      | (go_at_call 74; (with_reducible refine Calls.mono (HTS.out _ ?_) ?_); · (first | (with_reducible assumption) | (refine BelW.drew ?_; with_reducible assumption))
         rintro e wd ⟨As', cs', rfl, hvd, hbd⟩
         have hswd : BelW W0 wd := (by refine BelW.next ?_ hbd; first | (with_reducible assumption) | (refine BelW.drew ?_; with_reducible assumption))
         have hfwd : Fr wd r 73 [.slice none 0 0, .slice none 0 0] := Fr.below (by first | (with_reducible assumption) | exact hf0d) hbd
         have hve := VStk.below hvc hbd
         have hr0 := Fr.cell hfwd 0
         have hr1 := Fr.cell hfwd 1
         have hg0 := Fr.frozen hfwd 0
         have hg1 := Fr.frozen hfwd 1))
  have hq := (hfwd.set 0 (.slice Ai' k0 ci')).set 1 (.slice As' k1 cs')
  have z1' : V.drew.heap.size ≤ wa.heap.size := Below.size hba
  have z1 : V.heap.size ≤ wa.heap.size := z1'
  have z2 := Below.size hbb
  have z3 := Below.size hbc
  have hap : ∀ a b, (Value.slice Ai' k0 ci').ownBlock = some a → (Value.slice As' k1 cs').ownBlock = some b → a ≠ b := fun a b h1 h2 => by
    have t1 := (World.ownsRow.lt hvb a h1).2
    have t2 := (World.ownsRow.lt hvd b h2).1
    omega
  have hbe : Below w.heap.size w ((wd.setCell ⟨r, 0, none⟩ (.slice Ai' k0 ci')).setCell ⟨r, 1, none⟩ (.slice As' k1 cs')) := ((joinB HB0.out hswd).setCell (by show w.heap.size ≤ r; omega) _).setCell (by show w.heap.size ≤ r; omega) _
  have hv0 : VStk ((wd.setCell ⟨r, 0, none⟩ (.slice Ai' k0 ci')).setCell ⟨r, 1, none⟩ (.slice As' k1 cs')) w.heap.size (.slice Ai' k0 ci') li := ((hve.setS (a := ⟨r, 0, none⟩) (by show r < wa.heap.size; omega) _).setS (a := ⟨r, 1, none⟩) (by show r < wa.heap.size; omega) _).low (by omega)
  have hv1 : VStk ((wd.setCell ⟨r, 0, none⟩ (.slice Ai' k0 ci')).setCell ⟨r, 1, none⟩ (.slice As' k1 cs')) w.heap.size (.slice As' k1 cs') ls := ((hvd.setS (a := ⟨r, 0, none⟩) (by show r < wc.heap.size; omega) _).setS (a := ⟨r, 1, none⟩) (by show r < wc.heap.size; omega) _).low (by omega)
  go_wp2
  (try simp only [Exit.inBlock, Exit.then])
  refine bodyPost_ret (results_cell_row rfl _ _ _ _ _ _ _ rfl hq Tryz.underlying73 rfl (by kernel_rfl)) rfl ?_
  exact HP.out _ _ _ _ _ _ rfl hv0 hv1 hap hbe
end Go.Proofs.YtkaedfgmhfefjaaGreatDoor

namespace Go.Proofs.YtkaedfgmhfefjaaGreatDoor
open Go.RowKit

/-- The value's block is not the block of x. -/
def Apart (x v : Value) : Prop := v.ownBlock = none ∨ v.ownBlock ≠ x.ownBlock
theorem WS.keptO {w w' : World} {B : Nat} {v : Value} {l : List (List Int)} (h : WS w B v l) {b s n : Nat} {u : Value} {xs : List Value} (hu : w.ownsRow b 41 s u n xs) (ha : Apart u v) (hg : w.grownBy w' u.ownBlock) : WS w' B v l := by
  obtain ⟨vs, h1, h2, h3⟩ := h
  exact ⟨vs, h1, World.ownsRow.kept h2 hg ha, fun j hj => by
    obtain ⟨A, c, e, hp⟩ := h3 j hj
    exact ⟨A, c, e, hp.keptT hu (by decide) hg⟩⟩
theorem WS.lt {w : World} {B : Nat} {v : Value} {l : List (List Int)} (h : WS w B v l) {q : Nat} (hq : v.ownBlock = some q) : B ≤ q ∧ q < w.heap.size := by
  obtain ⟨vs, h1, h2, -⟩ := h
  exact World.ownsRow.lt h2 q hq
theorem WS.low {w : World} {B B' : Nat} {v : Value} {l : List (List Int)} (h : WS w B v l) (hb : B' ≤ B) : WS w B' v l := by
  obtain ⟨vs, h1, h2, h3⟩ := h
  refine ⟨vs, h1, ⟨h2.1, ?_⟩, fun j hj => by
    obtain ⟨A, c, e, hp⟩ := h3 j hj
    exact ⟨A, c, e, hp.low hb⟩⟩
  rcases h2.2 with h4 | ⟨g, cap, cur, e, hb', h4⟩
  · exact .inl h4
  · exact .inr ⟨g, cap, cur, e, Nat.le_trans hb hb', h4⟩
/-- An own row of own rows of words, apart from x. -/
def WWX (x : Value) (w : World) (B : Nat) (v : Value) (l : List (List (List Int))) : Prop :=
  ∃ vs : List Value, vs.length = l.length ∧ w.ownsRow B 43 1 v l.length vs ∧ ∀ j, j < l.length → ∃ A c, vs[j]? = some (.slice A (l.getD j []).length c) ∧ WS w B (.slice A (l.getD j []).length c) (l.getD j []) ∧ Apart x (.slice A (l.getD j []).length c)
section
variable {x x' : Value} {w w' : World} {B : Nat} {v v' : Value} {l : List (List (List Int))}
theorem WWX.nil (x : Value) (w : World) (B : Nat) : WWX x w B (.slice none 0 0) [] := ⟨[], rfl, World.ownsRow_nil _ _ _ _, fun j hj => absurd hj (by simp)⟩
theorem WWX.wws (h : WWX x w B v l) : WWS w B v l := by
  obtain ⟨vs, h1, h2, h3⟩ := h
  exact ⟨vs, h1, h2, fun j hj => by obtain ⟨A, c, e, hp, -⟩ := h3 j hj; exact ⟨A, c, e, hp⟩⟩
theorem WWX.below (h : WWX x w B v l) (hb : BelW w w') : WWX x w' B v l := by
  obtain ⟨vs, h1, h2, h3⟩ := h
  exact ⟨vs, h1, own_bel h2 hb, fun j hj => by obtain ⟨A, c, e, hp, ha⟩ := h3 j hj; exact ⟨A, c, e, hp.below hb, ha⟩⟩
/-- Row x is grown: where it lies anew, no row of these lies. -/
theorem WWX.grow (h : WWX x w B v l) {b s n : Nat} {xs : List Value} (hu : w.ownsRow b 41 s x n xs) (hg : w.grownBy w' x.ownBlock) (hl : x'.ownBlock = x.ownBlock ∨ x'.ownBlock = some w.heap.size) : WWX x' w' B v l := by
  obtain ⟨vs, h1, h2, h3⟩ := h
  refine ⟨vs, h1, World.ownsRow.kept h2 hg (own_ne9 (by decide) hu h2), fun j hj => ?_⟩
  obtain ⟨A, c, e, hp, ha⟩ := h3 j hj
  refine ⟨A, c, e, hp.keptO hu ha hg, ?_⟩
  rcases hl with hl | hl
  · unfold Apart; rw [hl]; exact ha
  · rcases ho : (Value.slice A (l.getD j []).length c).ownBlock with _ | q
    · exact .inl ho
    · refine .inr fun e1 => ?_
      have h4 := (hp.lt ho).2
      rw [ho, hl] at e1
      injection e1 with e1
      omega
theorem WWX.setF (h : WWX x w B v l) {g : Nat} {t : TypeId} {cs : List Value} (hf : Fr w g t cs) (q1 : t ≠ 43) (q2 : t ≠ 41) (q3 : t ≠ 77) (j : Nat) (y : Value) : WWX x (w.setCell ⟨g, j, none⟩ y) B v l := by
  obtain ⟨vs, h1, h2, h3⟩ := h
  exact ⟨vs, h1, own_set h2 hf q1 j y, fun j hj => by
    obtain ⟨A, c, e, hp, ha⟩ := h3 j hj
    exact ⟨A, c, e, hp.setF hf q2 q3 _ y, ha⟩⟩
/-- One more is appended. -/
theorem WWX.add {vs : List Value} {p : List (List Int)} {A : Option Addr} {c : Nat} (h1 : vs.length = l.length) (h2 : w.ownsRow B 43 1 v l.length vs) (h3 : ∀ j, j < l.length → ∃ A c, vs[j]? = some (.slice A (l.getD j []).length c) ∧ WS w B (.slice A (l.getD j []).length c) (l.getD j []) ∧ Apart x (.slice A (l.getD j []).length c))
    (hg : w.grownBy w' v.ownBlock) (ho : w'.ownsRow B 43 1 v' (l.length + 1) (vs ++ [.slice A p.length c])) (hp : WS w B (.slice A p.length c) p) (hpx : Apart x (.slice A p.length c)) : WWX x w' B v' (l ++ [p]) := by
  have hlen : (l ++ [p]).length = l.length + 1 := by simp
  refine ⟨vs ++ [.slice A p.length c], by simp [h1], by rw [hlen]; exact ho, fun j hj => ?_⟩
  by_cases hlt : j < l.length
  · obtain ⟨A', c', e, hp', ha⟩ := h3 j hlt
    have e2 : (l ++ [p]).getD j [] = l.getD j [] := by rw [List.getD_eq_getElem?_getD, List.getElem?_append_left hlt, ← List.getD_eq_getElem?_getD]
    rw [e2]
    exact ⟨A', c', by rw [List.getElem?_append_left (by omega)]; exact e, hp'.keptT h2 (by decide) (by decide) hg, ha⟩
  · obtain rfl : j = l.length := by omega
    have e2 : (l ++ [p]).getD l.length [] = p := by rw [List.getD_eq_getElem?_getD, List.getElem?_append_right (Nat.le_refl _), Nat.sub_self]; rfl
    rw [e2]
    exact ⟨A, c, by rw [List.getElem?_append_right (by omega), h1, Nat.sub_self]; rfl, hp.keptT h2 (by decide) (by decide) hg, hpx⟩
end
end Go.Proofs.YtkaedfgmhfefjaaGreatDoor

namespace Go.Proofs.YtkaedfgmhfefjaaGreatDoor
open Go.RowKit

/-- A state of a circuit's shape, whose values are 0, 1 or X. -/
structure FitS (c : Ck) (ns m : Nat) (s : Stt) : Prop where
  dl : s.dff.length = ns
  dv : ∀ j, j < ns → s.dff.getD j 0 ≤ 2
  wl : s.words.length = m
  wk : ∀ k, k < m → (s.words.getD k []).length = blN c.mems k ∧ ∀ i, i < blN c.mems k → ((s.words.getD k []).getD i []).length = (c.mems.getD k default).data.length ∧ ∀ j, j < (c.mems.getD k default).data.length → ((s.words.getD k []).getD i []).getD j 0 ≤ 2
  rl : s.read.length = m
  rk : ∀ k, k < m → (s.read.getD k []).length = (c.mems.getD k default).data.length ∧ ∀ j, j < (c.mems.getD k default).data.length → (s.read.getD k []).getD j 0 ≤ 2
theorem getD_range_map {α : Type} (f : Nat → α) (n k : Nat) (d : α) (h : k < n) : ((List.range n).map f).getD k d = f k := by
  rw [List.getD_eq_getElem?_getD, List.getElem?_map, List.getElem?_range h]
  rfl
theorem fits_rel {c : Ck} {ns m : Nat} {s : Stt} (F : FitS c ns m s) (p : Int → Int → Bool) (hp : ∀ a b, a ≤ 2 → p a b = true) : relS p s (blS c ns m) = true := by
  have h1 : relL p s.dff (blS c ns m).dff = true := allEq_of 0 p _ _ (by rw [F.dl]; simp [blS]) fun j hj => hp _ _ (F.dv j (by rw [← F.dl]; exact hj))
  have h2 : relV p s.words (blS c ns m).words = true := allEq_of [] (relW p) _ _ (by rw [F.wl]; simp [blS]) fun k hk => by
    rw [F.wl] at hk
    have e : (blS c ns m).words.getD k [] = (List.range (blN c.mems k)).map (blW c.mems k) := getD_range_map _ _ _ _ hk
    rw [e]
    refine allEq_of [] (relL p) _ _ (by rw [(F.wk k hk).1]; simp) fun i hi => ?_
    rw [(F.wk k hk).1] at hi
    rw [getD_range_map _ _ _ _ hi]
    obtain ⟨g1, g2⟩ := (F.wk k hk).2 i hi
    exact allEq_of 0 p _ _ (by rw [g1]; simp [blW]) fun j hj => hp _ _ (g2 j (by rw [← g1]; exact hj))
  have h3 : relW p s.read (blS c ns m).read = true := allEq_of [] (relL p) _ _ (by rw [F.rl]; simp [blS]) fun k hk => by
    rw [F.rl] at hk
    have e : (blS c ns m).read.getD k [] = blR c.mems k := getD_range_map _ _ _ _ hk
    rw [e]
    obtain ⟨g1, g2⟩ := F.rk k hk
    exact allEq_of 0 p _ _ (by rw [g1]; simp [blR]) fun j hj => hp _ _ (g2 j (by rw [← g1]; exact hj))
  unfold relS
  rw [h1, h2, h3]
  rfl
theorem ck_fits {c : Ck} {ni ns m : Nat} {s : Stt} {inp : List Int} (F : FitS c ns m s) (hl : inp.length = ni) (hv : ∀ j, j < inp.length → inp.getD j 0 ≤ 3) : ckC c ni ns m s inp = 0 := by
  have h1 := fits_rel F yesI (fun _ _ _ => rfl)
  have h2 := fits_rel F lowI (fun a b h => by unfold lowI; simpa using h)
  have h3 : anyP higV inp = false := anyP_no fun j hj => by
    have := hv j hj
    unfold higV
    rw [decide_eq_false_iff_not]
    omega
  unfold ckC
  rw [if_neg (by rw [hl]; simp), h1, h2, h3]
  rfl
/-- Its memories answer, and go on. -/
theorem FitS.nx {c : Ck} {n ns m : Nat} {s : Stt} (F : FitS c ns m s) (hm : c.mems.length = m) (hp : ∀ k, k < m → (∀ x ∈ (c.mems.getD k default).addr, 0 ≤ x ∧ x < (n : Int)) ∧ (∀ x ∈ (c.mems.getD k default).data, 0 ≤ x ∧ x < (n : Int)) ∧ 0 ≤ (c.mems.getD k default).write ∧ (c.mems.getD k default).write < (n : Int) ∧ (c.mems.getD k default).addr.length ≤ 9 ∧ (c.mems.getD k default).data.length ≤ 1000) : NxOk c.mems s.words n := by
  refine ⟨by rw [F.wl, hm], fun k hk => ?_, fun k hk => ?_⟩
  · obtain ⟨a, b, c1, d, e, f⟩ := hp k (by rw [← hm]; exact hk)
    exact ⟨a, b, c1, d, by omega, f⟩
  · rw [hm] at hk
    obtain ⟨g1, g2⟩ := F.wk k hk
    obtain ⟨-, -, -, -, e, f⟩ := hp k hk
    have h2 : 2 ^ (c.mems.getD k default).addr.length ≤ 2 ^ 9 := Nat.pow_le_pow_right (by decide) e
    have h3 : 0 < 2 ^ (c.mems.getD k default).addr.length := Nat.pow_pos (by decide)
    have e1 : blN c.mems k = 2 ^ (c.mems.getD k default).addr.length := rfl
    have e2 : (2 : Nat) ^ 9 = 512 := by decide
    exact ⟨by omega, by omega, fun i hi => by rw [g1] at hi; rw [(g2 i hi).1]; exact f⟩
end Go.Proofs.YtkaedfgmhfefjaaGreatDoor
