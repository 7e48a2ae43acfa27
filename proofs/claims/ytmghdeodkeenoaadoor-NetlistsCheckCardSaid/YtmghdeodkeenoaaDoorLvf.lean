/- lives behind the drawn region: the three stores. -/
import Derived.Test.YtmghdeodkeenoaaDoorLvr
namespace Go.Proofs.YtmghdeodkeenoaaDoor
open Go.RowKit

/-- A variable at g that holds the circuit x in blocks of its own. -/
structure Bx (x : Ck) (g e0 e1 e2 e3 : Nat) (w : World) : Prop where
  box : Fr w g 27 [.slice (some ⟨e0, 0, none⟩) 4 4, .slice (some ⟨e1, 0, none⟩) 4 4, .slice (some ⟨e2, 0, none⟩) 0 0, .slice (some ⟨e3, 0, none⟩) 1 1]
  cir : Cir w w.heap.size (.agg #[.slice (some ⟨e0, 0, none⟩) 4 4, .slice (some ⟨e1, 0, none⟩) 4 4, .slice (some ⟨e2, 0, none⟩) 0 0, .slice (some ⟨e3, 0, none⟩) 1 1]) x
theorem Bx.below {x : Ck} {g e0 e1 e2 e3 : Nat} {w w' : World} (h : Bx x g e0 e1 e2 e3 w) (hb : Below w.heap.size w w') : Bx x g e0 e1 e2 e3 w' :=
  ⟨h.box.below hb, (h.cir.below hb).more hb.size⟩
theorem Bx.cells {x : Ck} {g e0 e1 e2 e3 : Nat} {w : World} (h : Bx x g e0 e1 e2 e3 w) : w.cell? ⟨g, 0, none⟩ = some (.slice (some ⟨e0, 0, none⟩) 4 4) ∧ w.cell? ⟨g, 1, none⟩ = some (.slice (some ⟨e1, 0, none⟩) 4 4) ∧ w.cell? ⟨g, 2, none⟩ = some (.slice (some ⟨e2, 0, none⟩) 0 0) ∧ w.cell? ⟨g, 3, none⟩ = some (.slice (some ⟨e3, 0, none⟩) 1 1) :=
  ⟨h.box.cell 0, h.box.cell 1, h.box.cell 2, h.box.cell 3⟩
def x6 : Ck := ⟨exN 4 [3], exS 110, [], [3]⟩
def x7 : Ck := ⟨exN 13 [0], exS 110, [], [3]⟩
def x5 : Ck := ⟨exN 4 [0], exS 103, [], [3]⟩
theorem fit6 : Fit x6 := ⟨by decide, by decide, by decide, by decide, by decide, by decide, by decide⟩
theorem fit7 : Fit x7 := ⟨by decide, by decide, by decide, by decide, by decide, by decide, by decide⟩
theorem fit5 : Fit x5 := ⟨by decide, by decide, by decide, by decide, by decide, by decide, by decide⟩
/-- All that stands behind the three stores. -/
structure Fin3 (w0 : World) (q : Nat) (A0 A1 A2 A3 : Option Addr) (c0 c1 c2 c3 : Nat) (g8 e0 e1 e2 e3 g9 f0 f1 f2 f3 g10 r0 r1 r2 r3 : Nat) (w : World) : Prop where
  lw : LW w0 q A0 A1 A2 A3 c0 c1 c2 c3 w
  m6 : Bx x6 g8 e0 e1 e2 e3 w
  m7 : Bx x7 g9 f0 f1 f2 f3 w
  m5 : Bx x5 g10 r0 r1 r2 r3 w
theorem Fin3.below {w0 : World} {q : Nat} {A0 A1 A2 A3 : Option Addr} {c0 c1 c2 c3 : Nat} {g8 e0 e1 e2 e3 g9 f0 f1 f2 f3 g10 r0 r1 r2 r3 : Nat} {w w' : World} (h : Fin3 w0 q A0 A1 A2 A3 c0 c1 c2 c3 g8 e0 e1 e2 e3 g9 f0 f1 f2 f3 g10 r0 r1 r2 r3 w) (hb : Below w.heap.size w w') :
    Fin3 w0 q A0 A1 A2 A3 c0 c1 c2 c3 g8 e0 e1 e2 e3 g9 f0 f1 f2 f3 g10 r0 r1 r2 r3 w' := ⟨h.lw.next hb, h.m6.below hb, h.m7.below hb, h.m5.below hb⟩

theorem agg_list {a b c d : Value} {l : List Value} (h : Value.agg #[a, b, c, d] = .agg l.toArray) : l = [a, b, c, d] := by
  simp only [Value.agg.injEq] at h
  have := congrArg Array.toList h
  simpa using this.symm

theorem fin_of {w0 w1 : World} {q : Nat} {A0 A1 A2 A3 : Option Addr} {c0 c1 c2 c3 : Nat} {v8 v9 v10 v80 v82 v84 : Value} {g8 g9 g10 G1 H1 G3 H3 G5 H5 : Nat} {w : World} (hq : q < w1.heap.size)
    (I : Inw w0 w1 q A0 A1 A2 A3 c0 c1 c2 c3 true true true true true true true true true v8 v9 v10 v80 v82 v84 g8 g9 g10 G1 H1 G3 H3 G5 H5 w) :
    ∃ e0 e1 e2 e3 f0 f1 f2 f3 r0 r1 r2 r3 k, v8 = .pointer (some ⟨g8, 0, none⟩) ∧ v9 = .pointer (some ⟨g9, 0, none⟩) ∧ v10 = .pointer (some ⟨g10, 0, none⟩) ∧
      v80 = .agg #[.slice (some ⟨e0, 0, none⟩) 4 4, .slice (some ⟨e1, 0, none⟩) 4 4, .slice (some ⟨e2, 0, none⟩) 0 0, .slice (some ⟨e3, 0, none⟩) 1 1] ∧
      v82 = .agg #[.slice (some ⟨f0, 0, none⟩) 4 4, .slice (some ⟨f1, 0, none⟩) 4 4, .slice (some ⟨f2, 0, none⟩) 0 0, .slice (some ⟨f3, 0, none⟩) 1 1] ∧
      v84 = .agg #[.slice (some ⟨r0, 0, none⟩) 4 4, .slice (some ⟨r1, 0, none⟩) 4 4, .slice (some ⟨r2, 0, none⟩) 0 0, .slice (some ⟨r3, 0, none⟩) 1 1] ∧
      (w.cell? ⟨g8, 0, none⟩ = some (.slice (some ⟨e0, 0, none⟩) 4 4) ∧ w.cell? ⟨g9, 0, none⟩ = some (.slice (some ⟨f0, 0, none⟩) 4 4) ∧ w.cell? ⟨g10, 1, none⟩ = some (.slice (some ⟨r1, 0, none⟩) 4 4) ∧
        w.cell? ⟨e0, 9, none⟩ = some (.slice (some ⟨k, 0, none⟩) 1 1) ∧ w.cell? ⟨k, 0, none⟩ = some (.int .i64 0) ∧ w.cell? ⟨f0, 8, none⟩ = some (.int .u8 4) ∧ w.cell? ⟨r1, 2, none⟩ = some (.string ⟨#[110]⟩)) ∧
      (w.frozen? ⟨k, 0, none⟩ = false ∧ w.frozen? ⟨f0, 8, none⟩ = false ∧ w.frozen? ⟨r1, 2, none⟩ = false) ∧
      (k ≠ g9 ∧ k ≠ g10 ∧ k ≠ f0 ∧ k ≠ r1 ∧ f0 ≠ g10 ∧ f0 ≠ r1) ∧
      Fin3 w0 q A0 A1 A2 A3 c0 c1 c2 c3 g8 e0 e1 e2 e3 g9 f0 f1 f2 f3 g10 r0 r1 r2 r3 (((w.setCell ⟨k, 0, none⟩ (.int .i64 3)).setCell ⟨f0, 8, none⟩ (.int .u8 13)).setCell ⟨r1, 2, none⟩ (.string ⟨#[103]⟩)) := by
  obtain ⟨rfl, hn8, l8, -, F8, u8⟩ := I.s8.2 rfl
  obtain ⟨rfl, hn9, l9, -, F9, u9⟩ := I.s9.2 rfl
  obtain ⟨rfl, hn10, l10, -, F10, u10⟩ := I.s10.2 rfl
  obtain ⟨e0, e1, e2, e3, h, ha, hd, rfl, O1, p1, p2, p3⟩ := I.k1 rfl
  obtain ⟨⟨f0, f1, f2, f3, h', ha', hd', rfl, O2, p1', p2', p3'⟩, hG3⟩ := I.k3 rfl
  obtain ⟨⟨r0, r1, r2, r3, h'', ha'', hd'', rfl, O3, p1'', p2'', p3''⟩, hG5⟩ := I.k5 rfl
  obtain rfl := agg_list (u8 rfl)
  obtain rfl := agg_list (u9 rfl)
  obtain rfl := agg_list (u10 rfl)
  have j1 := O1.low
  have j2 := O2.low
  have j3 := O3.low
  have hk := O1.rn 2 (by decide)
  have hkH := p2 2 (by decide)
  have a1 := I.a1 rfl rfl
  have a3 := I.a3 rfl rfl
  have a5 := I.a5 rfl rfl
  have d1 := I.d1 rfl rfl
  have d3 := I.d3 rfl rfl
  have d5 := I.d5 rfl rfl
  have t1 := I.f1 rfl rfl
  have t3 := I.f3 rfl rfl
  have t5 := I.f5 rfl rfl
  have hG1 : w1.heap.size ≤ G1 ∨ True := .inr trivial
  refine ⟨e0, e1, e2, e3, f0, f1, f2, f3, r0, r1, r2, r3, h 2, rfl, rfl, rfl, rfl, rfl, rfl, ⟨F8.cell 0, F9.cell 0, F10.cell 1, ?_, hk.2.cell (by decide), ?_, ?_⟩, ⟨hk.2.frozen 0, O2.f0.frozen 8, O3.f1.frozen 2⟩, ⟨by omega, by omega, by omega, by omega, by omega, by omega⟩, ?_⟩
  · rw [O1.f0.cell, ndC_get (by decide)]
    exact congrArg some (ndF_1 _ _ _ _ 2)
  · rw [O2.f0.cell, ndC_get (by decide)]
    exact congrArg some (ndF_0 _ _ _ _ 2)
  · rw [O3.f1.cell]; rfl
  · have hm1 := I.m1 rfl
    have hlw := I.lw.low
    obtain ⟨W1, hW1⟩ : ∃ W1, W1 = w.setCell ⟨h 2, 0, none⟩ (.int .i64 3) := ⟨_, rfl⟩
    obtain ⟨W2, hW2⟩ : ∃ W2, W2 = W1.setCell ⟨f0, 8, none⟩ (.int .u8 13) := ⟨_, rfl⟩
    obtain ⟨W3, hW3⟩ : ∃ W3, W3 = W2.setCell ⟨r1, 2, none⟩ (.string ⟨#[103]⟩) := ⟨_, rfl⟩
    have k1 : w.grownBy W1 (some (h 2)) := hW1 ▸ grown_set _ _ _ _
    have k2 : W1.grownBy W2 (some f0) := hW2 ▸ grown_set _ _ _ _
    have k3 : W2.grownBy W3 (some r1) := hW3 ▸ grown_set _ _ _ _
    have s1 : OwnC x6 G1 e0 e1 e2 e3 h ha hd W1 := by rw [hW1]; exact O1.ins (k := 2) (by decide) 0 3
    have no : ∀ {m : Nat} {f g : Nat → Nat} {x : Ck}, x.mems = [] → ∀ k, k < x.mems.length → f k ≠ m ∧ g k ≠ m := fun e k hk => absurd hk (by rw [e]; simp)
    have s2 := (s1.kept k2 (by omega) (by omega) (by omega) (by omega) (fun k hk => by have := p2 k hk; omega) (no rfl)).kept k3 (by omega) (by omega) (by omega) (by omega) (fun k hk => by have := p2 k hk; omega) (no rfl)
    have s3 := O2.kept k1 (by omega) (by omega) (by omega) (by omega) (fun k hk => by have := (O2.rn k hk).1; omega) (no rfl)
    have s4 : OwnC x7 G3 f0 f1 f2 f3 h' ha' hd' W2 := by rw [hW2]; exact s3.kind (k := 2) (by decide) 13
    have s5 := s4.kept k3 (by omega) (by omega) (by omega) (by omega) (fun k hk => by have := p2' k hk; omega) (no rfl)
    have s6 := (O3.kept k1 (by omega) (by omega) (by omega) (by omega) (fun k hk => by have := (O3.rn k hk).1; omega) (no rfl)).kept k2 (by omega) (by omega) (by omega) (by omega) (fun k hk => by have := (O3.rn k hk).1; omega) (no rfl)
    have s7 : OwnC x5 G5 r0 r1 r2 r3 h'' ha'' hd'' W3 := by rw [hW3]; exact s6.name 2 ⟨#[103]⟩
    have L1 := ((I.lw.kept k1 (by omega) (by omega)).kept k2 (by omega) (by omega)).kept k3 (by omega) (by omega)
    have B8 := ((F8.kept k1 (by simp; omega)).kept k2 (by simp; omega)).kept k3 (by simp; omega)
    have B9 := ((F9.kept k1 (by simp; omega)).kept k2 (by simp; omega)).kept k3 (by simp; omega)
    have B10 := ((F10.kept k1 (by simp; omega)).kept k2 (by simp; omega)).kept k3 (by simp; omega)
    rw [← hW1, ← hW2, ← hW3]
    exact ⟨L1, ⟨B8, s2.cir fit6⟩, ⟨B9, s5.cir fit7⟩, ⟨B10, s7.cir fit5⟩⟩

theorem ok6 : chkErr x6 = 6 := ex_loop
theorem ok7 : chkErr x7 = 7 := ex_bus
theorem ok5 : chkErr x5 = 5 := ex_named
theorem chk_bx {x : Ck} {n : Int} (hx : chkErr x = n) {w1 W : World} {g e0 e1 e2 e3 : Nat} (hT : Tabs w1) (h : Bx x g e0 e1 e2 e3 w1) (hb : Below w1.heap.size w1 W) :
    Calls Tryd.prog 14 #[.agg #[.slice (some ⟨e0, 0, none⟩) 4 4, .slice (some ⟨e1, 0, none⟩) 4 4, .slice (some ⟨e2, 0, none⟩) 0 0, .slice (some ⟨e3, 0, none⟩) 1 1]] W fun e w' => e = .returned (.int .i64 n) ∧ Below w1.heap.size w1 w' := by
  have hn := h.below hb
  refine (check_any x _ W W.heap.size (Nat.le_refl _) (hT.below hb) hn.cir).mono fun e w' ⟨h1, h2⟩ => ?_
  rw [hx] at h1
  exact ⟨h1, joinB hb h2⟩

end Go.Proofs.YtmghdeodkeenoaaDoor
