/- Arguments opened: a circuit of C, as plain data. -/
import Derived.Test.YtmghdeodkeenoaaDoorPac
import Derived.Test.YtmghdeodkeenoaaDoorOfs
namespace Go.Proofs.YtmghdeodkeenoaaDoor
open Go.ChangeShapes Go.WideShapes Go.ChangeAt Go.RowKit

theorem c_u8 : Tryd.prog.cellsOf 5 = 1 := by kernel_rfl
theorem c_bl : Tryd.prog.cellsOf 4 = 1 := by kernel_rfl
theorem c_a2 : Tryd.prog.cellsOf 56 = 2 := by kernel_rfl
theorem c_a3 : Tryd.prog.cellsOf 65 = 3 := by kernel_rfl
theorem c_a4 : Tryd.prog.cellsOf 57 = 4 := by kernel_rfl
theorem c_gx : Tryd.prog.cellsOf 89 = 4 := by kernel_rfl
theorem c_cx : Tryd.prog.cellsOf 61 = 12 := by kernel_rfl
theorem c_gs : Tryd.prog.cellsOf 58 = 1 := by kernel_rfl
theorem c_us : Tryd.prog.cellsOf 59 = 1 := by kernel_rfl

theorem array12 {α : Type} {cs : Array α} (h : cs.size = 12) : ∃ c0 c1 c2 c3 c4 c5 c6 c7 c8 c9 c10 c11, cs = #[c0, c1, c2, c3, c4, c5, c6, c7, c8, c9, c10, c11] := by
  obtain ⟨l⟩ := cs
  match l, h with
  | [c0, c1, c2, c3, c4, c5, c6, c7, c8, c9, c10, c11], _ => exact ⟨c0, c1, c2, c3, c4, c5, c6, c7, c8, c9, c10, c11, rfl⟩

theorem Arr.two {α : Type} {d : α} {sz : Nat} {R : World → Nat → Nat → Nat → α → Prop} {Q : α → Prop} {w : World} {B : Nat} {v : Value} {l : List α} (h : Arr d sz (fun w B b p a => R w B b p a ∧ Q a) w B v l) :
    Arr d sz R w B v l ∧ ∀ k, k < l.length → Q (l.getD k d) := by
  obtain ⟨A, b, o, c, h1, h2, h3, h4, h5⟩ := h
  exact ⟨⟨A, b, o, c, h1, h2, h3, h4, fun k hk => ⟨(h5 k hk).1, (h5 k hk).2.1⟩⟩, fun k hk => (h5 k hk).2.2⟩

section
variable {H : Type} {enc : TypeId × Value → H} {W : World} {base : Nat} {sp : Nat → Bool} {held : Bool}
theorem u8_of {fuel : Nat} {cs : List Value} {x : DataW H × List MemPlace} (h : DataW.trod enc Tryd.prog W base sp held fuel 5 cs = some x) : ∃ a : Int, cs = [.int .u8 a] ∧ U8 a := by
  obtain ⟨a, e, -, w⟩ := DataW.trod_int Tryd.underlying5 h
  exact ⟨a, e, bounds_u8 w⟩
set_option maxRecDepth 100000 in
theorem two_of {fuel : Nat} {c0 c1 : Value} {x : DataW H × List MemPlace} (h : DataW.trod enc Tryd.prog W base sp held fuel 56 [c0, c1] = some x) : ∃ a b : Int, c0 = .int .u8 a ∧ c1 = .int .u8 b ∧ U8 a ∧ U8 b := by
  obtain ⟨xs, m, -, -, -, hn, hel⟩ := DataW.trod_array Tryd.underlying56 h
  match xs, hn with
  | [x0, x1], _ =>
    have e0 := hel 0 (by decide)
    have e1 := hel 1 (by decide)
    rw [c_u8] at e0 e1
    obtain ⟨a, ea, wa⟩ := u8_of (show DataW.trod _ _ _ _ _ _ _ _ [c0] = some x0 from e0)
    obtain ⟨b, eb, wb⟩ := u8_of (show DataW.trod _ _ _ _ _ _ _ _ [c1] = some x1 from e1)
    simp at ea eb
    exact ⟨a, b, ea, eb, wa, wb⟩
set_option maxRecDepth 100000 in
theorem three_of {fuel : Nat} {c0 c1 c2 : Value} {x : DataW H × List MemPlace} (h : DataW.trod enc Tryd.prog W base sp held fuel 65 [c0, c1, c2] = some x) : ∃ a b c : Int, c0 = .int .u8 a ∧ c1 = .int .u8 b ∧ c2 = .int .u8 c ∧ U8 a ∧ U8 b ∧ U8 c := by
  obtain ⟨xs, m, -, -, -, hn, hel⟩ := DataW.trod_array Tryd.underlying65 h
  match xs, hn with
  | [x0, x1, x2], _ =>
    have e0 := hel 0 (by decide)
    have e1 := hel 1 (by decide)
    have e2 := hel 2 (by decide)
    rw [c_u8] at e0 e1 e2
    obtain ⟨a, ea, wa⟩ := u8_of (show DataW.trod _ _ _ _ _ _ _ _ [c0] = some x0 from e0)
    obtain ⟨b, eb, wb⟩ := u8_of (show DataW.trod _ _ _ _ _ _ _ _ [c1] = some x1 from e1)
    obtain ⟨c, ec, wc⟩ := u8_of (show DataW.trod _ _ _ _ _ _ _ _ [c2] = some x2 from e2)
    simp at ea eb ec
    exact ⟨a, b, c, ea, eb, ec, wa, wb, wc⟩
set_option maxRecDepth 100000 in
theorem four_of {fuel : Nat} {c0 c1 c2 c3 : Value} {x : DataW H × List MemPlace} (h : DataW.trod enc Tryd.prog W base sp held fuel 57 [c0, c1, c2, c3] = some x) : ∃ a b c d : Int, c0 = .int .u8 a ∧ c1 = .int .u8 b ∧ c2 = .int .u8 c ∧ c3 = .int .u8 d ∧ U8 a ∧ U8 b ∧ U8 c ∧ U8 d := by
  obtain ⟨xs, m, -, -, -, hn, hel⟩ := DataW.trod_array Tryd.underlying57 h
  match xs, hn with
  | [x0, x1, x2, x3], _ =>
    have e0 := hel 0 (by decide)
    have e1 := hel 1 (by decide)
    have e2 := hel 2 (by decide)
    have e3 := hel 3 (by decide)
    rw [c_u8] at e0 e1 e2 e3
    obtain ⟨a, ea, wa⟩ := u8_of (show DataW.trod _ _ _ _ _ _ _ _ [c0] = some x0 from e0)
    obtain ⟨b, eb, wb⟩ := u8_of (show DataW.trod _ _ _ _ _ _ _ _ [c1] = some x1 from e1)
    obtain ⟨c, ec, wc⟩ := u8_of (show DataW.trod _ _ _ _ _ _ _ _ [c2] = some x2 from e2)
    obtain ⟨d, ed, wd⟩ := u8_of (show DataW.trod _ _ _ _ _ _ _ _ [c3] = some x3 from e3)
    simp at ea eb ec ed
    exact ⟨a, b, c, d, ea, eb, ec, ed, wa, wb, wc, wd⟩
set_option maxRecDepth 100000 in
theorem gs_of {fuel : Nat} {cs : List Value} {x : DataW H × List MemPlace} (h : DataW.trod enc Tryd.prog W base sp held fuel 58 cs = some x) : ∃ v l, cs = [v] ∧ Arr default 4 (fun w B b p g => GAt w B b p g ∧ Gok g) W W.heap.size v l :=
  arr_of Tryd.underlying58 c_gx (by decide) (fun b p cs' y n h3 hc ht => by
    obtain ⟨y0, y1, n', -, -, h0, h1⟩ := trod_struct2 Tryd.underlying89 ht
    match cs', h3 with
    | [u0, u1, u2, u3], _ =>
      rw [c_u8] at h0
      rw [c_a3] at h1
      obtain ⟨k, e0, wk⟩ := u8_of (show DataW.trod _ _ _ _ _ _ _ _ [u0] = some y0 from h0)
      obtain ⟨i0, i1, i2, rfl, rfl, rfl, w0, w1, w2⟩ := three_of (show DataW.trod _ _ _ _ _ _ _ _ [u1, u2, u3] = some y1 from h1)
      simp at e0
      subst e0
      exact ⟨⟨k, i0, i1, i2⟩, ⟨hc 0 (by decide), hc 1 (by decide), hc 2 (by decide), hc 3 (by decide)⟩, wk, w0, w1, w2⟩) h
theorem us_of {fuel : Nat} {cs : List Value} {x : DataW H × List MemPlace} (h : DataW.trod enc Tryd.prog W base sp held fuel 59 cs = some x) : ∃ v l, cs = [v] ∧ Arr 0 1 (fun w B b p g => U8At w B b p g ∧ U8 g) W W.heap.size v l :=
  arr_of Tryd.underlying59 c_u8 (by decide) (fun b p cs' y n h3 hc ht => by
    obtain ⟨a, rfl, wa⟩ := u8_of ht
    exact ⟨a, by have := hc 0 (by decide); simpa [U8At] using this, wa⟩) h
set_option maxRecDepth 100000 in
/-- AN ARGUMENT that is a circuit of C. -/
theorem open_cx {b0 : Nat} {r : Reach} {v : Value} {d : DataW H} {p : List MemPlace} (hv : Value.okWide Tryd.prog W r b0 61 v) (h : DataW.Trod enc Tryd.prog W base sp held 61 v d p) :
    ∃ (x : Cx) (sG sA : Value), v = .agg #[.int .u8 x.inN, .int .u8 x.dffs, .int .u8 x.d0, .int .u8 x.d1, .bool x.bus, .bool x.mem, .int .u8 x.p0, .int .u8 x.p1, .int .u8 x.p2, .int .u8 x.p3, sG, sA] ∧ Cok x ∧ Gs W W.heap.size sG x.gates ∧ Ks W W.heap.size sA x.outs := by
  obtain ⟨cs, rfl, hsz⟩ := okWide_struct Tryd.underlying61 hv
  obtain ⟨c0, c1, c2, c3, c4, c5, c6, c7, c8, c9, c10, c11, rfl⟩ := array12 (hsz.trans c_cx)
  obtain ⟨fuel, hf⟩ := h
  obtain ⟨xs, n, -, -, -, hlen, hel⟩ := DataW.trod_struct Tryd.underlying61 hf
  match xs, hlen with
  | [y0, y1, y2, y3, y4, y5, y6, y7], _ =>
    have h0 : DataW.trod enc Tryd.prog W base sp held n 5 (([c0, c1, c2, c3, c4, c5, c6, c7, c8, c9, c10, c11].drop 0).take (Tryd.prog.cellsOf 5)) = _ := hel 0 _ rfl
    have h1 : DataW.trod enc Tryd.prog W base sp held n 5 (([c0, c1, c2, c3, c4, c5, c6, c7, c8, c9, c10, c11].drop 1).take (Tryd.prog.cellsOf 5)) = _ := hel 1 _ rfl
    have h2 : DataW.trod enc Tryd.prog W base sp held n 56 (([c0, c1, c2, c3, c4, c5, c6, c7, c8, c9, c10, c11].drop 2).take (Tryd.prog.cellsOf 56)) = _ := hel 2 _ rfl
    have h3 : DataW.trod enc Tryd.prog W base sp held n 4 (([c0, c1, c2, c3, c4, c5, c6, c7, c8, c9, c10, c11].drop 4).take (Tryd.prog.cellsOf 4)) = _ := hel 3 _ rfl
    have h4 : DataW.trod enc Tryd.prog W base sp held n 4 (([c0, c1, c2, c3, c4, c5, c6, c7, c8, c9, c10, c11].drop 5).take (Tryd.prog.cellsOf 4)) = _ := hel 4 _ rfl
    have h5 : DataW.trod enc Tryd.prog W base sp held n 57 (([c0, c1, c2, c3, c4, c5, c6, c7, c8, c9, c10, c11].drop 6).take (Tryd.prog.cellsOf 57)) = _ := hel 5 _ rfl
    have h6 : DataW.trod enc Tryd.prog W base sp held n 58 (([c0, c1, c2, c3, c4, c5, c6, c7, c8, c9, c10, c11].drop 10).take (Tryd.prog.cellsOf 58)) = _ := hel 6 _ rfl
    have h7 : DataW.trod enc Tryd.prog W base sp held n 59 (([c0, c1, c2, c3, c4, c5, c6, c7, c8, c9, c10, c11].drop 11).take (Tryd.prog.cellsOf 59)) = _ := hel 7 _ rfl
    rw [c_u8] at h0 h1
    rw [c_a2] at h2
    rw [c_bl] at h3 h4
    rw [c_a4] at h5
    rw [c_gs] at h6
    rw [c_us] at h7
    obtain ⟨a0, e0, w0⟩ := u8_of (show DataW.trod _ _ _ _ _ _ _ _ [c0] = some y0 from h0)
    obtain ⟨a1, e1, w1⟩ := u8_of (show DataW.trod _ _ _ _ _ _ _ _ [c1] = some y1 from h1)
    obtain ⟨a2, a3, rfl, rfl, w2, w3⟩ := two_of (show DataW.trod _ _ _ _ _ _ _ _ [c2, c3] = some y2 from h2)
    obtain ⟨b4, e4, -⟩ := DataW.trod_bool Tryd.underlying4 (show DataW.trod _ _ _ _ _ _ _ _ [c4] = some y3 from h3)
    obtain ⟨b5, e5, -⟩ := DataW.trod_bool Tryd.underlying4 (show DataW.trod _ _ _ _ _ _ _ _ [c5] = some y4 from h4)
    obtain ⟨a6, a7, a8, a9, rfl, rfl, rfl, rfl, w6, w7, w8, w9⟩ := four_of (show DataW.trod _ _ _ _ _ _ _ _ [c6, c7, c8, c9] = some y5 from h5)
    obtain ⟨sG, gs, e10, hg⟩ := gs_of (show DataW.trod _ _ _ _ _ _ _ _ [c10] = some y6 from h6)
    obtain ⟨sA, os, e11, ho⟩ := us_of (show DataW.trod _ _ _ _ _ _ _ _ [c11] = some y7 from h7)
    simp at e0 e1 e4 e5 e10 e11
    subst e0 e1 e4 e5 e10 e11
    obtain ⟨hg1, hg2⟩ := hg.two
    obtain ⟨ho1, ho2⟩ := ho.two
    exact ⟨⟨a0, a1, a2, a3, b4, b5, a6, a7, a8, a9, gs, os⟩, _, _, rfl, ⟨w0, w1, w2, w3, w6, w7, w8, w9, hg2, ho2⟩, hg1, ho1⟩
set_option linter.constructorNameAsVariable false in
theorem array3' {α : Type} {cs : Array α} (h : cs.size = 3) : ∃ c0 c1 c2, cs = #[c0, c1, c2] := by
  obtain ⟨l⟩ := cs
  match l, h with
  | [c0, c1, c2], _ => exact ⟨c0, c1, c2, rfl⟩
set_option maxRecDepth 100000 in
/-- AN ARGUMENT that is an array of three bytes. -/
theorem open_u3 {b0 : Nat} {r : Reach} {v : Value} {d : DataW H} {p : List MemPlace} (hv : Value.okWide Tryd.prog W r b0 65 v) (h : DataW.Trod enc Tryd.prog W base sp held 65 v d p) :
    ∃ a b c : Int, v = .agg #[.int .u8 a, .int .u8 b, .int .u8 c] ∧ U8 a ∧ U8 b ∧ U8 c := by
  simp only [Value.okWide, Tryd.underlying65] at hv
  obtain ⟨cs, rfl, hsz, -⟩ := hv
  obtain ⟨c0, c1, c2, rfl⟩ := array3' (hsz.trans c_a3)
  obtain ⟨fuel, hf⟩ := h
  obtain ⟨a, b, c, rfl, rfl, rfl, h1, h2, h3⟩ := three_of (show DataW.trod _ _ _ _ _ _ _ _ [c0, c1, c2] = some _ from hf)
  exact ⟨a, b, c, rfl, h1, h2, h3⟩
theorem c_a16 : Tryd.prog.cellsOf 67 = 16 := by kernel_rfl
theorem array16 {α : Type} {cs : Array α} (h : cs.size = 16) : ∃ c0 c1 c2 c3 c4 c5 c6 c7 c8 c9 c10 c11 c12 c13 c14 c15, cs = #[c0, c1, c2, c3, c4, c5, c6, c7, c8, c9, c10, c11, c12, c13, c14, c15] := by
  obtain ⟨l⟩ := cs
  match l, h with
  | [c0, c1, c2, c3, c4, c5, c6, c7, c8, c9, c10, c11, c12, c13, c14, c15], _ => exact ⟨c0, c1, c2, c3, c4, c5, c6, c7, c8, c9, c10, c11, c12, c13, c14, c15, rfl⟩
set_option maxRecDepth 100000 in
/-- AN ARGUMENT that is an array of sixteen bytes. -/
theorem open_u16 {b0 : Nat} {r : Reach} {v : Value} {d : DataW H} {p : List MemPlace} (hv : Value.okWide Tryd.prog W r b0 67 v) (h : DataW.Trod enc Tryd.prog W base sp held 67 v d p) :
    ∃ ks : Nat → Int, v = .agg #[.int .u8 (ks 0), .int .u8 (ks 1), .int .u8 (ks 2), .int .u8 (ks 3), .int .u8 (ks 4), .int .u8 (ks 5), .int .u8 (ks 6), .int .u8 (ks 7), .int .u8 (ks 8), .int .u8 (ks 9), .int .u8 (ks 10), .int .u8 (ks 11), .int .u8 (ks 12), .int .u8 (ks 13), .int .u8 (ks 14), .int .u8 (ks 15)] ∧ ∀ i, i < 16 → U8 (ks i) := by
  simp only [Value.okWide, Tryd.underlying67] at hv
  obtain ⟨cs, rfl, hsz, -⟩ := hv
  obtain ⟨c0, c1, c2, c3, c4, c5, c6, c7, c8, c9, c10, c11, c12, c13, c14, c15, rfl⟩ := array16 (hsz.trans c_a16)
  obtain ⟨fuel, hf⟩ := h
  obtain ⟨xs, m, -, -, -, hn, hel⟩ := DataW.trod_array Tryd.underlying67 hf
  have hk : ∀ i, i < 16 → ∃ a : Int, [c0, c1, c2, c3, c4, c5, c6, c7, c8, c9, c10, c11, c12, c13, c14, c15][i]? = some (.int .u8 a) ∧ U8 a := fun i hi => by
    have e := hel i hi
    rw [c_u8, Nat.mul_one, List.getElem?_eq_getElem (by omega)] at e
    obtain ⟨a, ea, wa⟩ := u8_of e
    refine ⟨a, ?_, wa⟩
    have := congrArg (·[0]?) ea
    simpa [List.getElem?_take, List.getElem?_drop, Value.cells] using this
  obtain ⟨ks, hks⟩ := Go.Deep.choose_lt hk
  refine ⟨ks, ?_, fun i hi => (hks i hi).2⟩
  have e0 := (hks 0 (by decide)).1
  have e1 := (hks 1 (by decide)).1
  have e2 := (hks 2 (by decide)).1
  have e3 := (hks 3 (by decide)).1
  have e4 := (hks 4 (by decide)).1
  have e5 := (hks 5 (by decide)).1
  have e6 := (hks 6 (by decide)).1
  have e7 := (hks 7 (by decide)).1
  have e8 := (hks 8 (by decide)).1
  have e9 := (hks 9 (by decide)).1
  have e10 := (hks 10 (by decide)).1
  have e11 := (hks 11 (by decide)).1
  have e12 := (hks 12 (by decide)).1
  have e13 := (hks 13 (by decide)).1
  have e14 := (hks 14 (by decide)).1
  have e15 := (hks 15 (by decide)).1
  simp at e0 e1 e2 e3 e4 e5 e6 e7 e8 e9 e10 e11 e12 e13 e14 e15
  rw [e0, e1, e2, e3, e4, e5, e6, e7, e8, e9, e10, e11, e12, e13, e14, e15]
end

end Go.Proofs.YtmghdeodkeenoaaDoor
