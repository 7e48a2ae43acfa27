/- The texts Ag9 Ost Hin. -/
import Derived.Test.YtkaedfgmhfefjaaGreatDoorM29
import Derived.Laws.EntriesVeiled
import Derived.Test.YtkaedfgmhfefjaaGreatDoorM26
import Derived.Deep.DeepCutAuto
import Derived.Deep.RegionHeld3
namespace Go.Proofs.YtkaedfgmhfefjaaGreatDoor
open Go.RowKit
structure Stt where
  dff : List Int
  words : List (List (List Int))
  read : List (List Int)
structure StR (w : World) (B : Nat) (A0 A1 A2 : Option Addr) (n0 n1 n2 c0 c1 c2 : Nat) (s : Stt) : Prop where
  sd : Ks w B (.slice A0 n0 c0) s.dff
  sw : Wwss w B (.slice A1 n1 c1) s.words
  sr : Wrds w B (.slice A2 n2 c2) s.read
theorem StR.keep {w w' : World} {B B' : Nat} {A0 A1 A2 : Option Addr} {n0 n1 n2 c0 c1 c2 : Nat} {s : Stt} (h : StR w B A0 A1 A2 n0 n1 n2 c0 c1 c2 s) (hB : B ≤ w.heap.size) (hb : BelW w w') (hB' : B ≤ B') : StR w' B' A0 A1 A2 n0 n1 n2 c0 c1 c2 s :=
  ⟨Arr.keep stays_u8 h.sd hB' fun _ hp => Below.cell hb (Nat.lt_of_lt_of_le hp hB), Arr.keep stays_wws h.sw hB' fun _ hp => Below.cell hb (Nat.lt_of_lt_of_le hp hB), Arr.keep stays_wds h.sr hB' fun _ hp => Below.cell hb (Nat.lt_of_lt_of_le hp hB)⟩
def relS (p : Int → Int → Bool) (a b : Stt) : Bool := relL p a.dff b.dff && relV p a.words b.words && relW p a.read b.read
set_option maxRecDepth 100000 in
set_option maxHeartbeats 4000000 in
theorem agree_any (fn : Nat) (p : Int → Int → Bool) (hf : Fits1 (.func (.func fn) #[] #[]) p) (a b : Stt) (A0a A1a A2a A0b A1b A2b : Option Addr) (n0a n1a n2a c0a c1a c2a n0b n1b n2b c0b c1b c2b : Nat) (w : World) (B : Nat) (hB : B ≤ w.heap.size) (ha : StR w B A0a A1a A2a n0a n1a n2a c0a c1a c2a a) (hb : StR w B A0b A1b A2b n0b n1b n2b c0b c1b c2b b) :
    Calls Tryz.prog 48 #[.agg #[.slice A0a n0a c0a, .slice A1a n1a c1a, .slice A2a n2a c2a], .agg #[.slice A0b n0b c0b, .slice A1b n1b c1b, .slice A2b n2b c2b], .func (.func fn) #[] #[]] w fun e w' => e = .returned (.bool (relS p a b)) ∧ BelW w w' := by
  obtain ⟨W4, HW4⟩ := named ((((w.alloc (.cells #[.slice A0a n0a c0a, .slice A1a n1a c1a, .slice A2a n2a c2a] 45)).alloc (.cells #[.slice A0b n0b c0b, .slice A1b n1b c1b, .slice A2b n2b c2b] 45)).alloc (.cells #[.func (.func fn) #[] #[]] 103)).alloc (.cells #[.func (.func 95) #[] #[.pointer (some ⟨w.heap.size + 2, 0, none⟩)]] 141))
  have hb4 : BelW w W4 := by rw [HW4.out]; exact below_new (below_new (below_new (below_new (Below.refl _ _) _) _) _) _
  have hfa : Fr W4 w.heap.size 45 [.slice A0a n0a c0a, .slice A1a n1a c1a, .slice A2a n2a c2a] := by rw [HW4.out]; exact Fr.alloc (Fr.alloc (Fr.alloc (Fr.made _ [.slice A0a n0a c0a, .slice A1a n1a c1a, .slice A2a n2a c2a] _ rfl) _) _) _
  have hfb : Fr W4 (w.heap.size + 1) 45 [.slice A0b n0b c0b, .slice A1b n1b c1b, .slice A2b n2b c2b] := by rw [HW4.out]; exact Fr.alloc (Fr.alloc (Fr.made _ [.slice A0b n0b c0b, .slice A1b n1b c1b, .slice A2b n2b c2b] _ (by simp)) _) _
  have hff : Fr W4 (w.heap.size + 2) 103 [.func (.func fn) #[] #[]] := by rw [HW4.out]; exact Fr.alloc (Fr.made _ [.func (.func fn) #[] #[]] _ (by simp)) _
  have hfl : Fr W4 (w.heap.size + 3) 141 [.func (.func 95) #[] #[.pointer (some ⟨w.heap.size + 2, 0, none⟩)]] := by rw [HW4.out]; exact Fr.made _ [.func (.func 95) #[] #[.pointer (some ⟨w.heap.size + 2, 0, none⟩)]] _ (by simp)
  have HSA := Lib.hid (fun W (h : BelW W4 W) => ha.keep hB (joinB hb4 h) (Nat.le_trans hB (Below.size (joinB hb4 h))))
  have HSB := Lib.hid (fun W (h : BelW W4 W) => hb.keep hB (joinB hb4 h) (Nat.le_trans hB (Below.size (joinB hb4 h))))
  obtain ⟨r1, H1⟩ := named (relL p a.dff b.dff)
  obtain ⟨r2, H2⟩ := named (relV p a.words b.words)
  obtain ⟨r3, H3⟩ := named (relW p a.read b.read)
  have HRS : Hid (relS p a b = (r1 && r2 && r3)) := Lib.hid (by rw [H1.out, H2.out, H3.out]; rfl)
  have HC1 : Hid (∀ W, BelW W4 W → Calls Tryz.prog 95 #[.slice A0a n0a c0a, .slice A0b n0b c0b, .pointer (some ⟨w.heap.size + 2, 0, none⟩)] W fun e w' => e = .returned (.bool r1) ∧ w' = W) := Lib.hid fun W h => by
    rw [H1.out]
    exact lists_any _ p hf a.dff b.dff _ _ _ W _ _ (HSA.out W h).sd (HSB.out W h).sd ((hff.below h).cell 0)
  have HC3 : Hid (∀ W, BelW W4 W → Calls Tryz.prog 97 #[.slice A2a n2a c2a, .slice A2b n2b c2b, .pointer (some ⟨w.heap.size + 3, 0, none⟩)] W fun e w' => e = .returned (.bool r3) ∧ BelW W w') := Lib.hid fun W h => by
    rw [H3.out]
    exact words_any _ p hf a.read b.read _ _ _ _ W W.heap.size W.heap.size (Nat.le_refl _) (Nat.le_refl _) (HSA.out W h).sr (HSB.out W h).sr ((hfl.below h).cell 0) ((hff.below h).cell 0)
  have HC2 : Hid (∀ W, BelW W4 W → Calls Tryz.prog 99 #[.slice A1a n1a c1a, .slice A1b n1b c1b, .func (.func 97) #[] #[.pointer (some ⟨w.heap.size + 3, 0, none⟩)]] W fun e w' => e = .returned (.bool r2) ∧ BelW W w') := Lib.hid fun W h => by
    rw [H2.out]
    exact eqV_any p a.words b.words _ _ _ W W.heap.size W.heap.size (Nat.le_refl _) (Nat.le_refl _) (HSA.out W h).sw (HSB.out W h).sw (Lib.hid fun x x' A n c A' n' c' W' hb' k k' => words_any _ p hf x x' _ _ _ _ W' W'.heap.size W'.heap.size (Nat.le_refl _) (Nat.le_refl _) k k' ((hfl.below (joinB h hb')).cell 0) ((hff.below (joinB h hb')).cell 0))
  have x0 := hfa.cell 0
  have x1 := hfa.cell 1
  have x2 := hfa.cell 2
  have y0 := hfb.cell 0
  have y1 := hfb.cell 1
  have y2 := hfb.cell 2
  have z0 := hfl.cell 0
  have HCE : Hid (∀ W, BelW W4 W → W.cell? ⟨w.heap.size, 2, none⟩ = some (.slice A2a n2a c2a) ∧ W.cell? ⟨w.heap.size + 1, 2, none⟩ = some (.slice A2b n2b c2b)) := Lib.hid fun W h => ⟨(hfa.below h).cell 2, (hfb.below h).cell 2⟩
  have HB4 := Lib.hid hb4
  have h40 : BelW W4 W4 := Below.refl _ _
  clear hf ha hb hfa hfb hff hfl hb4 HSA HSB
  rw [HRS.out]
  go_enter Tryz.func48, Tryz.ntmps48
  go_upto_region 3 with (fail)
  rw [← HW4.out]
  cases r1
  · go_wp2_with (go_at_call 95; (with_reducible refine (HC1.out _ h40).mono ?_); rintro e w5 ⟨rfl, hw5⟩; obtain rfl : W4 = w5 := hw5.symm)
    go_ret
    exact ⟨rfl, HB4.out⟩
  · cases r2
    · go_wp2_with (first
        | (go_at_call 95; (with_reducible refine (HC1.out _ h40).mono ?_); rintro e w5 ⟨rfl, hw5⟩; obtain rfl : W4 = w5 := hw5.symm)
        | (go_at_call 99; (with_reducible refine (HC2.out _ h40).mono ?_); rintro e w6 ⟨rfl, hb6⟩; have HB6 : Hid (BelW W4 w6) := Lib.hid hb6; clear hb6))
      go_ret
      exact ⟨rfl, joinB HB4.out HB6.out⟩
    · go_wp2_with (first
        | (go_at_call 95; (with_reducible refine (HC1.out _ h40).mono ?_); rintro e w5 ⟨rfl, hw5⟩; obtain rfl : W4 = w5 := hw5.symm)
        | (go_at_call 99; (with_reducible refine (HC2.out _ h40).mono ?_); rintro e w6 ⟨rfl, hb6⟩; have HB6 : Hid (BelW W4 w6) := Lib.hid hb6; obtain ⟨u1, u2⟩ := HCE.out w6 hb6; clear hb6)
        | (go_at_call 97; (with_reducible refine (HC3.out _ HB6.out).mono ?_); rintro e w7 ⟨rfl, hb7⟩; have HB7 : Hid (BelW w6 w7) := Lib.hid hb7; clear hb7))
      go_ret
      exact ⟨by first | rfl | (cases r3 <;> rfl), joinB HB4.out (joinB HB6.out HB7.out)⟩
end Go.Proofs.YtkaedfgmhfefjaaGreatDoor

namespace Go.Proofs.YtkaedfgmhfefjaaGreatDoor
open Go.RowKit
theorem SRow.other {w : World} {D m k T : Nat} {f : Nat → List Int} (h : SRow w D f m k T) {a : Addr} (ha : a.block < D) (x : Value) : SRow (w.setCell a x) D f m k T := by
  obtain ⟨vs, gf, h1, h2, h3, h4⟩ := h
  exact ⟨vs, gf, h1.other (by omega) x, h2, fun j hj => by
    obtain ⟨e, v, n, t⟩ := h3 j hj
    exact ⟨e, v.other (by omega) x, n, t⟩, h4⟩
theorem Fr.apart9 {w : World} {g g' : Nat} {t t' : TypeId} {cs cs' : List Value} (h : Fr w g t cs) (h' : Fr w g' t' cs') (ht : t ≠ t') : g ≠ g' := fun e => by
  subst e
  unfold Fr at h h'
  rw [h] at h'
  simp only [Option.some.injEq, Obj.cells.injEq] at h'
  exact ht h'.2.1
theorem VRow.fr {w : World} {g : Nat} {l : List Int} (h : VRow w g l) : Fr w g 77 (l.map (Value.int .u8)) := vrow_heap h
structure OSt (w : World) (D1 D2 L m : Nat) (nw : Nat → Nat) (fw : Nat → Nat → List Int) (fr : Nat → List Int) (k1 k2 : Nat) : Prop where
  r1 : ∃ vs : List Value, Fr w D1 43 vs ∧ vs.length = m ∧ ∀ j, j < k1 → ∃ D T, vs[j]? = some (.slice (some ⟨D, 0, none⟩) (nw j) (nw j)) ∧ SRow w D (fw j) (nw j) (nw j) T ∧ L ≤ D
  r2 : ∃ vs : List Value, Fr w D2 41 vs ∧ vs.length = m ∧ ∀ j, j < k2 → ∃ g, vs[j]? = some (.slice (some ⟨g, 0, none⟩) (fr j).length (fr j).length) ∧ VRow w g (fr j)
  d1 : D1 < L
  d2 : D2 < L
  ne : D1 ≠ D2
section
variable {w w' : World} {D1 D2 L m k1 k2 : Nat} {nw : Nat → Nat} {fw : Nat → Nat → List Int} {fr : Nat → List Int}
theorem OSt.below (h : OSt w D1 D2 L m nw fw fr k1 k2) (hb : BelW w w') : OSt w' D1 D2 L m nw fw fr k1 k2 := by
  obtain ⟨⟨vs, a1, a2, a3⟩, ⟨us, b1, b2, b3⟩, d1, d2, ne⟩ := h
  exact ⟨⟨vs, a1.below hb, a2, fun j hj => by
    obtain ⟨D, T, e, s, l⟩ := a3 j hj
    exact ⟨D, T, e, s.below hb, l⟩⟩, ⟨us, b1.below hb, b2, fun j hj => by
    obtain ⟨g, e, s⟩ := b3 j hj
    exact ⟨g, e, s.below hb⟩⟩, d1, d2, ne⟩
theorem OSt.lt (h : OSt w D1 D2 L m nw fw fr k1 k2) : D1 < w.heap.size ∧ D2 < w.heap.size := by
  obtain ⟨⟨vs, a1, -⟩, ⟨us, b1, -⟩, -⟩ := h
  exact ⟨a1.lt, b1.lt⟩
theorem OSt.there (h : OSt w D1 D2 L m nw fw fr k1 k2) {j : Nat} (hj : j < m) : (∃ u, w.cell? ⟨D1, j, none⟩ = some u) ∧ ∃ u, w.cell? ⟨D2, j, none⟩ = some u := by
  obtain ⟨⟨vs, a1, a2, -⟩, ⟨us, b1, b2, -⟩, -⟩ := h
  exact ⟨⟨vs[j], by rw [a1.cell, List.getElem?_eq_getElem (by omega)]⟩, ⟨us[j], by rw [b1.cell, List.getElem?_eq_getElem (by omega)]⟩⟩
theorem OSt.frozen (h : OSt w D1 D2 L m nw fw fr k1 k2) (j : Nat) : w.frozen? ⟨D1, j, none⟩ = false ∧ w.frozen? ⟨D2, j, none⟩ = false := by
  obtain ⟨⟨vs, a1, -⟩, ⟨us, b1, -⟩, -⟩ := h
  exact ⟨a1.frozen j, b1.frozen j⟩
theorem OSt.set1 (h : OSt w D1 D2 L m nw fw fr k1 k2) (hk : k1 < m) {D T : Nat} (s : SRow w D (fw k1) (nw k1) (nw k1) T) (l : L ≤ D) : OSt (w.setCell ⟨D1, k1, none⟩ (.slice (some ⟨D, 0, none⟩) (nw k1) (nw k1))) D1 D2 L m nw fw fr (k1 + 1) k2 := by
  obtain ⟨⟨vs, a1, a2, a3⟩, ⟨us, b1, b2, b3⟩, d1, d2, ne⟩ := h
  refine ⟨⟨vs.set k1 (.slice (some ⟨D, 0, none⟩) (nw k1) (nw k1)), a1.set _ _, by rw [List.length_set]; exact a2, fun j hj => ?_⟩, ⟨us, b1.other (a := ⟨D1, k1, none⟩) (by show D1 ≠ D2; exact ne) _, b2, fun j hj => ?_⟩, d1, d2, ne⟩
  · by_cases e : j = k1
    · subst e
      exact ⟨D, T, by rw [List.getElem?_set]; simp [a2, hk], s.other (a := ⟨D1, _, none⟩) (by show D1 < D; omega) _, l⟩
    · obtain ⟨D', T', e', s', l'⟩ := a3 j (by omega)
      exact ⟨D', T', by rw [List.getElem?_set, if_neg (by omega)]; exact e', s'.other (a := ⟨D1, _, none⟩) (by show D1 < D'; omega) _, l'⟩
  · obtain ⟨g, e, v⟩ := b3 j hj
    exact ⟨g, e, v.other (a := ⟨D1, k1, none⟩) (a1.apart9 v.fr (by decide)) _⟩
theorem OSt.set2 (h : OSt w D1 D2 L m nw fw fr k1 k2) (hk : k2 < m) {g : Nat} (v : VRow w g (fr k2)) : OSt (w.setCell ⟨D2, k2, none⟩ (.slice (some ⟨g, 0, none⟩) (fr k2).length (fr k2).length)) D1 D2 L m nw fw fr k1 (k2 + 1) := by
  obtain ⟨⟨vs, a1, a2, a3⟩, ⟨us, b1, b2, b3⟩, d1, d2, ne⟩ := h
  refine ⟨⟨vs, a1.other (a := ⟨D2, k2, none⟩) (by show D2 ≠ D1; omega) _, a2, fun j hj => ?_⟩, ⟨us.set k2 (.slice (some ⟨g, 0, none⟩) (fr k2).length (fr k2).length), b1.set _ _, by rw [List.length_set]; exact b2, fun j hj => ?_⟩, d1, d2, ne⟩
  · obtain ⟨D', T', e', s', l'⟩ := a3 j hj
    exact ⟨D', T', e', s'.other (a := ⟨D2, _, none⟩) (by show D2 < D'; omega) _, l'⟩
  · by_cases e : j = k2
    · subst e
      exact ⟨g, by rw [List.getElem?_set]; simp [b2, hk], v.other (a := ⟨D2, _, none⟩) (b1.apart9 v.fr (by decide)) _⟩
    · obtain ⟨g', e', v'⟩ := b3 j (by omega)
      exact ⟨g', by rw [List.getElem?_set, if_neg (by omega)]; exact e', v'.other (a := ⟨D2, _, none⟩) (b1.apart9 v'.fr (by decide)) _⟩
theorem OSt.start {v1 v2 : List Value} (h1 : Fr w D1 43 v1) (h2 : Fr w D2 41 v2) (l1 : v1.length = m) (l2 : v2.length = m) (d1 : D1 < L) (d2 : D2 < L) (ne : D1 ≠ D2) : OSt w D1 D2 L m nw fw fr 0 0 :=
  ⟨⟨v1, h1, l1, fun j hj => absurd hj (by omega)⟩, ⟨v2, h2, l2, fun j hj => absurd hj (by omega)⟩, d1, d2, ne⟩
theorem OSt.reads (h : OSt w D1 D2 L m nw fw fr m m) (hm : m ≤ maxLen) (hn : ∀ j, j < m → nw j ≤ maxLen) : Wwss w w.heap.size (.slice (some ⟨D1, 0, none⟩) m m) ((List.range m).map fun j => (List.range (nw j)).map (fw j)) ∧ Wrds w w.heap.size (.slice (some ⟨D2, 0, none⟩) m m) ((List.range m).map fr) := by
  obtain ⟨⟨vs, a1, a2, a3⟩, ⟨us, b1, b2, b3⟩, -, -, -⟩ := h
  constructor
  · refine ⟨_, D1, 0, m, by rw [List.length_map, List.length_range], fun _ => rfl, by simp, by simpa using hm, fun k hk => ⟨a1.lt, ?_⟩⟩
    have hkm : k < m := by simpa using hk
    have e : ((List.range m).map fun j => (List.range (nw j)).map (fw j)).getD k [] = (List.range (nw k)).map (fw k) := by simp [hkm, List.getD_eq_getElem?_getD]
    rw [e, Nat.mul_one, Nat.zero_add]
    obtain ⟨D, T, e1, s, -⟩ := a3 k hkm
    obtain ⟨gf, g1, -⟩ := s.open
    refine ⟨_, nw k, by rw [List.length_map, List.length_range, a1.cell, e1], ?_⟩
    refine ⟨_, D, 0, nw k, by rw [List.length_map, List.length_range], fun _ => rfl, by simp, by simpa using hn k hkm, fun i hi => ⟨s.lt, ?_⟩⟩
    have him : i < nw k := by simpa using hi
    have e2 : ((List.range (nw k)).map (fw k)).getD i [] = fw k i := by simp [him, List.getD_eq_getElem?_getD]
    rw [e2, Nat.mul_one, Nat.zero_add]
    obtain ⟨c1, c2, -⟩ := g1 i him
    exact ⟨_, _, c1, c2.ks⟩
  · refine ⟨_, D2, 0, m, by rw [List.length_map, List.length_range], fun _ => rfl, by simp, by simpa using hm, fun k hk => ⟨b1.lt, ?_⟩⟩
    have hkm : k < m := by simpa using hk
    have e : ((List.range m).map fr).getD k [] = fr k := by simp [hkm, List.getD_eq_getElem?_getD]
    rw [e, Nat.mul_one, Nat.zero_add]
    obtain ⟨g, e1, v⟩ := b3 k hkm
    exact ⟨_, _, by rw [b1.cell, e1], v.ks⟩
end
theorem mk_run {t e : TypeId} {ti : TypeInfo} {z : Value} (h1 : Tryz.prog.underlying t = some (.slice e)) (h2 : Tryz.prog.info? e = some ti) (h3 : ti.zero = some z) (n : Nat) (hb : ti.bytes * n ≤ 281474976710656) (hn : n ≤ 1000000) (w : World) :
    (Instr.makeSlice t (.int .i64 (n : Int)) (.int .i64 (n : Int))).run Tryz.prog w = .ok (.slice (some ⟨w.heap.size, 0, none⟩) n n) (w.alloc (.cells (madeCells z.cells (n * ti.size)) e)) := by
  have key := run_make (P := Tryz.prog) w t e ti z h1 h2 h3 .i64 .i64 (n : Int) (n : Int) (by omega) (by omega) (by have := Int.ofNat_le.2 hb; rwa [Int.natCast_mul] at this) (by omega)
  simpa using key
theorem info_wds : (Tryz.prog.info? 43).map (fun i => (i.zero, i.size, i.bytes)) = some (some (.slice none 0 0), 1, 24) := by kernel_rfl
end Go.Proofs.YtkaedfgmhfefjaaGreatDoor

namespace Go.Proofs.YtkaedfgmhfefjaaGreatDoor
open Go.RowKit
section
variable {P : Program} {md : Region.Mode} {ops : Array Oper} {Q : Exit → Act → World → Prop} {S : World → Prop}
theorem left_less {l : Array Bool} {i : Nat} {o : Oper} (hs : l.size = ops.size) (ho : ops[i]? = some o) (h : l.getD i true = false) : (l.setIfInBounds i true).toList.countP (fun b => !b) < l.toList.countP (fun b => !b) := by
  have hi : i < l.toList.length := by
    have := (Array.getElem?_eq_some_iff.1 ho).1
    simp; omega
  have hv : l.toList[i] = false := by
    have hi' : i < l.size := by simpa using hi
    simpa [hi'] using h
  have hp : 0 < l.toList.countP (fun b => !b) := List.countP_pos_iff.2 ⟨_, List.getElem_mem hi, by simp [hv]⟩
  rw [Array.toList_setIfInBounds, List.countP_set hi, hv]
  simp only [Bool.not_false, Bool.not_true, if_true, Bool.false_eq_true, if_false]
  omega
theorem held_inv (J : Array Bool → Act → World → Prop)
    (hz : ∀ l a w, J l a w → l.size = ops.size) (hJS : ∀ l a w, J l a w → S w)
    (hstep : ∀ l a w i o, J l a w → ops[i]? = some o → l.getD i true = false → (∀ e ∈ o.after, Region.binds md e = true → l.getD e.on false = true) →
      wpOp P ops Q i (fun a' w' => J (l.setIfInBounds i true) a' w') a w)
    (hdone : ∀ l a w, J l a w → Region.ready md ops l = [] → Q .normal a w) :
    ∀ (fuel : Nat) (l : Array Bool) (a : Act) (w : World), l.toList.countP (fun b => !b) ≤ fuel → J l a w → wpAnyH P md ops Q S fuel l a w := by
  intro fuel
  induction fuel with
  | zero =>
    intro l a w hc hj
    have hr : Region.ready md ops l = [] := by
      apply List.eq_nil_iff_forall_not_mem.2
      intro i hi
      obtain ⟨h0, o, ho, _⟩ := mem_ready.1 hi
      have := left_less (hz l a w hj) ho h0
      omega
    exact ⟨hr, hdone l a w hj hr⟩
  | succ fuel ih =>
    intro l a w hc hj
    refine ⟨fun hr => hdone l a w hj hr, fun i hi => ?_⟩
    obtain ⟨h0, o, ho, hall⟩ := mem_ready.1 hi
    have hl := left_less (hz l a w hj) ho h0
    exact wpOp_mono (fun a' w' h => ⟨hJS _ _ _ h, ih _ a' w' (by omega) h⟩) (hstep l a w i o hj ho h0 hall)
def OpAt (md : Region.Mode) (ops : Array Oper) (i : Nat) (dst : Option Tmp) (op : Op) (deps : List Nat) : Prop :=
  ∃ o, ops[i]? = some o ∧ o.guard = none ∧ o.dst = dst ∧ o.op = op ∧ (deps.all fun k => o.after.any fun e => e.on == k && Region.binds md e) = true
theorem waits {l : Array Bool} {o : Oper} {k : Nat} (h : o.after.any (fun e => e.on == k && Region.binds md e) = true) (hall : ∀ e ∈ o.after, Region.binds md e = true → l.getD e.on false = true) : l.getD k false = true := by
  rw [Array.any_eq_true'] at h
  obtain ⟨e, he, hb⟩ := h
  simp only [Bool.and_eq_true, beq_iff_eq] at hb
  have := hall e he hb.2
  rwa [hb.1] at this
end
def early (ops : Array Oper) : Bool := (List.range ops.size).all fun i => ((ops[i]?).map fun o => o.after.all fun e => decide (e.on < i)).getD true
theorem early_spec {ops : Array Oper} (h : early ops = true) {i : Nat} {o : Oper} (ho : ops[i]? = some o) {e : Edge} (he : e ∈ o.after) : e.on < i := by
  have hi : i < ops.size := (Array.getElem?_eq_some_iff.1 ho).1
  have h1 := List.all_eq_true.1 h i (List.mem_range.2 hi)
  rw [ho] at h1
  simp only [Option.map_some, Option.getD_some] at h1
  simpa using Array.all_eq_true_iff_forall_mem.1 h1 e he
theorem all_up {md : Region.Mode} {ops : Array Oper} {l : Array Bool} (h : early ops = true) (hs : l.size = ops.size) (hr : Region.ready md ops l = []) (i : Nat) (hi : i < ops.size) : l.getD i false = true := by
  induction i using Nat.strongRecOn with
  | _ i ih =>
    by_cases hc : l.getD i false = true
    · exact hc
    · have hm : i ∈ Region.ready md ops l := by
        refine mem_ready.2 ⟨?_, ops[i], Array.getElem?_eq_getElem hi, fun e he hb => ?_⟩
        · have hi' : i < l.size := by omega
          simp [hi'] at hc ⊢
          exact hc
        · have := early_spec h (Array.getElem?_eq_getElem hi) he
          exact ih e.on this (by omega)
      rw [hr] at hm
      cases hm
theorem dep_of {md : Region.Mode} {ops : Array Oper} {i : Nat} {dst : Option Tmp} {op : Op} {deps : List Nat} {o : Oper} {l : Array Bool} (h : OpAt md ops i dst op deps) (ho : ops[i]? = some o) (hall : ∀ e ∈ o.after, Region.binds md e = true → l.getD e.on false = true) (k : Nat) (hk : k ∈ deps) : l.getD k false = true := by
  obtain ⟨o', ho', _, _, _, hd⟩ := h
  rw [ho] at ho'
  cases ho'
  exact waits (List.all_eq_true.1 hd k hk) hall
theorem own_full {w : World} {base : Nat} {e : TypeId} {size g n : Nat} {xs : List Value} (h : w.ownsRow base e size (.slice (some ⟨g, 0, none⟩) n n) n xs) : Fr w g e xs ∧ base ≤ g ∧ xs.length = n * size := by
  obtain ⟨h1, h2⟩ := h
  rcases h2 with ⟨e', -⟩ | ⟨g', cap, cur, e', hb, hg, hle, hm, hs, ht⟩
  · cases e'
  · simp only [Value.slice.injEq, Option.some.injEq, Addr.mk.injEq, and_true, true_and] at e'
    obtain ⟨rfl, rfl⟩ := e'
    refine ⟨?_, hb, h1⟩
    have hc : cur = xs.toArray := by
      apply Array.ext'
      rw [← ht, List.take_of_length_le (by simp; omega)]
    unfold Fr
    rw [hg, hc]
theorem step_make {P : Program} {w : World} {ops : Array Oper} {o : Oper} {a : Act} {K : Act → World → Prop} {Q : Exit → Act → World → Prop} {E : Prop} (hgd : o.guard = none) (l c : Operand) (t : TypeId) (ho : o.op = Op.makeSlice t l c)
    (base : Nat) (e : TypeId) (i : TypeInfo) (z : Value) (size : Nat) (h1 : P.underlying t = some (.slice e)) (h2 : P.info? e = some i) (h3 : i.zero = some z) (h4 : i.size = size) (kl kc : IntKind) (n : Nat) (hl : a.eval l = .int kl (n : Int)) (hc : a.eval c = .int kc (n : Int))
    (b2 : i.bytes * n ≤ 281474976710656) (b3 : n ≤ maxLen) (b4 : base ≤ w.heap.size) (H : Nat) (hH : w.heap.size = H)
    (hK : ∀ w', w'.ownsRow base e size (.slice (some ⟨H, 0, none⟩) n n) n (madeCells z.cells (n * size)).toList → w.grownBy w' none → K (a.put o.dst (.slice (some ⟨H, 0, none⟩) n n)) w') :
    if Region.wanted o (yielded ops a.tmps) = true then Oper.wp P o a w K Q else E := by
  have hw : Region.wanted o (yielded ops a.tmps) = true := by simp [Region.wanted, hgd]
  rw [if_pos hw]
  obtain ⟨w', hrun, r1, r2⟩ := run_make_full (P := P) w base t e i z size h1 h2 h3 h4 kl kc n b2 b3 b4
  subst hH
  unfold Oper.wp
  simp [execOp, ho, hl, hc, hrun, Result.andThen]
  exact hK w' r1 r2
section
variable {P : Program} {md : Region.Mode} {ops : Array Oper} {i : Nat} {a : Act} {w : World} {K : Act → World → Prop} {Q : Exit → Act → World → Prop}
theorem op_makeR {d : Tmp} {deps : List Nat} {l c : Operand} {t : TypeId} (ho : OpAt md ops i (some d) (.makeSlice t l c) deps)
    (base : Nat) (e : TypeId) (ti : TypeInfo) (z : Value) (size : Nat) (h1 : P.underlying t = some (.slice e)) (h2 : P.info? e = some ti) (h3 : ti.zero = some z) (h4 : ti.size = size) (kl kc : IntKind) (n : Nat) (hl : a.eval l = .int kl (n : Int)) (hc : a.eval c = .int kc (n : Int))
    (b2 : ti.bytes * n ≤ 281474976710656) (b3 : n ≤ maxLen) (b4 : base ≤ w.heap.size)
    (hK : ∀ w' g, base ≤ g → Fr w' g e (madeCells z.cells (n * size)).toList → Below w.heap.size w w' → K (a.put (some d) (.slice (some ⟨g, 0, none⟩) n n)) w') : wpOp P ops Q i K a w := by
  obtain ⟨o, ho, hgd, hd, hop, _⟩ := ho
  refine wpOp_step ho fun K' hK' => ?_
  refine step_make hgd l c t hop base e ti z size h1 h2 h3 h4 kl kc n hl hc b2 b3 b4 w.heap.size rfl fun w' r1 r2 => ?_
  obtain ⟨r3, r4, -⟩ := own_full r1
  rw [hd]
  exact hK' _ _ (hK w' _ r4 r3 ((Below.refl _ _).grown r2 (Nat.le_refl _) (fun k h => by cases h)))
theorem op_allocS {d : Tmp} {deps : List Nat} (ho : OpAt md ops i (some d) (.alloc 45) deps) (hP : P = Tryz.prog)
    (h : ∀ g w' l, g = w.heap.size → l.length = 3 → Fr w' g 45 l → Below w.heap.size w w' → K (a.put (some d) (.pointer (some ⟨g, 0, none⟩))) w') :
    wpOp P ops Q i K a w := by
  obtain ⟨o, ho, hgd, hd, hop, _⟩ := ho
  refine wpOp_step ho fun K' hK => ?_
  have hw : Region.wanted o (yielded ops a.tmps) = true := by simp [Region.wanted, hgd]
  rw [if_pos hw]
  subst hP
  have hk := hK _ _ (h w.heap.size (w.alloc (.cells #[.slice none 0 0, .slice none 0 0, .slice none 0 0] 45)) [.slice none 0 0, .slice none 0 0, .slice none 0 0] rfl rfl (Fr.made _ [.slice none 0 0, .slice none 0 0, .slice none 0 0] _ rfl) (below_new (Below.refl _ _) _))
  unfold Oper.wp execOp
  simp only [hop]
  simp [go_sem, hd]
  exact hk
theorem op_buildS {d t0 t1 t2 : Tmp} {deps : List Nat} (ho : OpAt md ops i (some d) (.build 45 #[(0, .tmp t0), (1, .tmp t1), (2, .tmp t2)]) deps) (hP : P = Tryz.prog) {A0 A1 A2 : Option Addr} {n0 n1 n2 k0 k1 k2 : Nat} (h0 : a.eval (.tmp t0) = .slice A0 n0 k0) (h1 : a.eval (.tmp t1) = .slice A1 n1 k1) (h2 : a.eval (.tmp t2) = .slice A2 n2 k2)
    (h : K (a.put (some d) (.agg #[.slice A0 n0 k0, .slice A1 n1 k1, .slice A2 n2 k2])) w) : wpOp P ops Q i K a w := by
  obtain ⟨o, ho, hgd, hd, hop, _⟩ := ho
  refine wpOp_step ho fun K' hK => ?_
  have hw : Region.wanted o (yielded ops a.tmps) = true := by simp [Region.wanted, hgd]
  rw [if_pos hw]
  subst hP
  have hk := hK _ _ h
  have e0 : a.tmps[t0]?.getD undef = .slice A0 n0 k0 := by rw [← h0]; simp [Act.eval]
  have e1 : a.tmps[t1]?.getD undef = .slice A1 n1 k1 := by rw [← h1]; simp [Act.eval]
  have e2 : a.tmps[t2]?.getD undef = .slice A2 n2 k2 := by rw [← h2]; simp [Act.eval]
  unfold Oper.wp execOp
  simp only [hop]
  simp [go_sem, hd, e0, e1, e2]
  exact hk
theorem op_storeS {p x : Operand} {deps : List Nat} (ho : OpAt md ops i none (.store 45 p x) deps) (hP : P = Tryz.prog)
    (g : Nat) (l : List Value) (s0 s1 s2 : Option Addr) (m0 m1 m2 k0 k1 k2 : Nat) (hp : a.eval p = .pointer (some ⟨g, 0, none⟩)) (hx : a.eval x = .agg #[.slice s0 m0 k0, .slice s1 m1 k1, .slice s2 m2 k2]) (hl : l.length = 3) (hb : Fr w g 45 l)
    (h : K a (((w.setCell ⟨g, 0, none⟩ (.slice s0 m0 k0)).setCell ⟨g, 1, none⟩ (.slice s1 m1 k1)).setCell ⟨g, 2, none⟩ (.slice s2 m2 k2))) :
    wpOp P ops Q i K a w := by
  obtain ⟨o, ho, hgd, hd, hop, _⟩ := ho
  refine wpOp_step ho fun K' hK => ?_
  have hw : Region.wanted o (yielded ops a.tmps) = true := by simp [Region.wanted, hgd]
  rw [if_pos hw]
  subst hP
  have hk := hK _ _ h
  have c0 := hb.cell 0
  have c1 := hb.cell 1
  have c2 := hb.cell 2
  have f0 := hb.frozen 0
  have f1 := hb.frozen 1
  have f2 := hb.frozen 2
  match l, hl with
  | [y0, y1, y2], _ =>
    simp at c0 c1 c2
    unfold Oper.wp execOp
    simp only [hop, hp, hx]
    simp [go_sem, hd, c0, c1, c2, f0, f1, f2]
    exact hk
theorem op_callBits {d x y : Tmp} {deps : List Nat} (ho : OpAt md ops i (some d) (.call { callee := .value (.func 86), args := #[.tmp x, .tmp y], argTypes := #[41, 3] }) deps) (hP : P = Tryz.prog)
    {u v : Value} (hu : a.eval (.tmp x) = u) (hv : a.eval (.tmp y) = v) {R : Value → World → Prop} (hc : Calls Tryz.prog 86 #[u, v] w fun e w' => ∃ s', e = .returned s' ∧ R s' w')
    (h : ∀ z w', R z w' → K (a.put (some d) z) w') : wpOp P ops Q i K a w := by
  obtain ⟨o, ho, hgd, hd, hop, _⟩ := ho
  refine wpOp_step ho fun K' hK => ?_
  have hw : Region.wanted o (yielded ops a.tmps) = true := by simp [Region.wanted, hgd]
  rw [if_pos hw]
  subst hP
  unfold Oper.wp execOp
  simp only [hop]
  have hx2 : a.tmps[x]?.getD undef = u := by rw [← hu]; simp [Act.eval]
  have hy2 : a.tmps[y]?.getD undef = v := by rw [← hv]; simp [Act.eval]
  simp [go_sem, hd, hx2, hy2]
  with_reducible refine Calls.mono hc ?_
  rintro e w' ⟨v, rfl, hr⟩
  exact hK _ _ (h v w' hr)
theorem op_callUnk {d x : Tmp} {deps : List Nat} (ho : OpAt md ops i (some d) (.call { callee := .value (.func 102), args := #[.tmp x], argTypes := #[3] }) deps) (hP : P = Tryz.prog)
    {u : Value} (hu : a.eval (.tmp x) = u) {R : Value → World → Prop} (hc : Calls Tryz.prog 102 #[u] w fun e w' => ∃ s', e = .returned s' ∧ R s' w')
    (h : ∀ z w', R z w' → K (a.put (some d) z) w') : wpOp P ops Q i K a w := by
  obtain ⟨o, ho, hgd, hd, hop, _⟩ := ho
  refine wpOp_step ho fun K' hK => ?_
  have hw : Region.wanted o (yielded ops a.tmps) = true := by simp [Region.wanted, hgd]
  rw [if_pos hw]
  subst hP
  unfold Oper.wp execOp
  simp only [hop]
  have hx2 : a.tmps[x]?.getD undef = u := by rw [← hu]; simp [Act.eval]
  simp [go_sem, hd, hx2]
  with_reducible refine Calls.mono hc ?_
  rintro e w' ⟨v, rfl, hr⟩
  exact hK _ _ (h v w' hr)
theorem op_callSta {d x : Tmp} {deps : List Nat} (ho : OpAt md ops i (some d) (.call { callee := .value (.func 37), args := #[.tmp x], argTypes := #[39] }) deps) (hP : P = Tryz.prog)
    {u : Value} (hu : a.eval (.tmp x) = u) {R : Value → World → Prop} (hc : Calls Tryz.prog 37 #[u] w fun e w' => ∃ s', e = .returned s' ∧ R s' w')
    (h : ∀ z w', R z w' → K (a.put (some d) z) w') : wpOp P ops Q i K a w := by
  obtain ⟨o, ho, hgd, hd, hop, _⟩ := ho
  refine wpOp_step ho fun K' hK => ?_
  have hw : Region.wanted o (yielded ops a.tmps) = true := by simp [Region.wanted, hgd]
  rw [if_pos hw]
  subst hP
  unfold Oper.wp execOp
  simp only [hop]
  have hx2 : a.tmps[x]?.getD undef = u := by rw [← hu]; simp [Act.eval]
  simp [go_sem, hd, hx2]
  with_reducible refine Calls.mono hc ?_
  rintro e w' ⟨v, rfl, hr⟩
  exact hK _ _ (h v w' hr)
theorem op_len {d x : Tmp} {deps : List Nat} (ho : OpAt md ops i (some d) (.call { callee := .builtin .len, args := #[.tmp x], argTypes := #[37] }) deps) (hP : P = Tryz.prog) {A : Option Addr} {n c : Nat} (hx : a.eval (.tmp x) = .slice A n c)
    (h : K (a.put (some d) (.int .i64 (n : Int))) w) : wpOp P ops Q i K a w := by
  obtain ⟨o, ho, hgd, hd, hop, _⟩ := ho
  refine wpOp_step ho fun K' hK => ?_
  have hw : Region.wanted o (yielded ops a.tmps) = true := by simp [Region.wanted, hgd]
  rw [if_pos hw]
  subst hP
  have hk := hK _ _ h
  unfold Oper.wp execOp
  simp only [hop]
  have hx2 : a.tmps[x]?.getD undef = .slice A n c := by rw [← hx]; simp [Act.eval]
  have hu : Tryz.prog.underlying 37 = some (.slice (Tryz.prog.elem 37)) := by kernel_rfl
  simp [go_sem, hd, hx2]
  exact hk
end
end Go.Proofs.YtkaedfgmhfefjaaGreatDoor
