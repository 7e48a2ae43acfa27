/- The state of a simulation: made, and its response. -/
import Derived.Test.YtfcdhoaccmckoaaGreatDoorOfp
import Derived.Test.YtfcdhoaccmckoaaGreatDoorSor
import Derived.Test.YtfcdhoaccmckoaaGreatDoorLgEvalw
import Derived.Test.YtfcdhoaccmckoaaGreatDoorSmq
import Derived.Test.YtfcdhoaccmckoaaGreatDoorOwn
import Derived.Laws.EntriesVeiled
namespace Go.Proofs.YtfcdhoaccmckoaaGreatDoor
open Go.RowKit

/-- A row of values of the call's own, in block g. -/
def VRow (w : World) (g : Nat) (l : List Int) : Prop := w.ownsRow g 74 1 (.slice (some ⟨g, 0, none⟩) l.length l.length) l.length (l.map (Value.int .u8))
section
variable {w w' : World} {g : Nat} {l : List Int}
theorem VRow.cell (h : VRow w g l) {j : Nat} (hj : j < l.length) : w.cell? ⟨g, j, none⟩ = some (.int .u8 (lat l j)) := by
  have := World.ownsRow.cellAt h j (by omega)
  rw [this, List.getElem?_map, List.getElem?_eq_getElem hj]
  simp [lat, List.getD_eq_getElem?_getD, List.getElem?_eq_getElem hj]
theorem VRow.frozen (h : VRow w g l) (j : Nat) : w.frozen? ⟨g, j, none⟩ = false := World.ownsRow.frozenAt h j
theorem VRow.set (h : VRow w g l) (j : Nat) (x : Int) : VRow (w.setCell ⟨g, j, none⟩ (.int .u8 x)) g (l.set j x) := by
  have := (World.ownsRow.stored h j (.int .u8 x)).1
  unfold VRow
  rw [List.length_set, List.map_set]
  exact this
theorem VRow.lt (h : VRow w g l) : g < w.heap.size := (World.ownsRow.lt h g rfl).2
theorem VRow.len (h : VRow w g l) : l.length ≤ maxLen := by
  rcases h.2 with ⟨e, -⟩ | ⟨g', cap, cur, e, hb', hg', hle, hmx, hs', ht'⟩
  · cases e
  · simp only [Value.slice.injEq] at e; omega
theorem VRow.kept {row : Option Nat} (h : VRow w g l) (hg : w.grownBy w' row) (hne : some g ≠ row) : VRow w' g l := World.ownsRow.kept h hg (.inr hne)
theorem VRow.below (h : VRow w g l) (hb : Below w.heap.size w w') : VRow w' g l :=
  h.kept (row := none) ⟨hb.os, hb.tape, hb.output, hb.size, fun i hi _ => hb.block i hi⟩ (by simp)
theorem VRow.ks (h : VRow w g l) : Ks w w.heap.size (.slice (some ⟨g, 0, none⟩) l.length l.length) l :=
  ⟨_, g, 0, _, rfl, fun _ => rfl, Nat.le_refl _, h.len, fun k hk => ⟨h.lt, by
    have := h.cell hk
    unfold lat at this
    rw [Int.toNat_natCast] at this
    show w.cell? ⟨g, 0 + k * 1, none⟩ = _
    rw [Nat.zero_add, Nat.mul_one]; exact this⟩⟩
theorem VRow.of {B n : Nat} (h : w.ownsRow B 74 1 (.slice (some ⟨g, 0, none⟩) n n) n (l.map (Value.int .u8))) (hl : l.length = n) : VRow w g l := by
  subst hl
  unfold VRow
  refine ⟨h.1, ?_⟩
  rcases h.2 with ⟨e, -⟩ | ⟨g', cap, cur, e, hb', hg', hle, hmx, hs', ht'⟩
  · cases e
  · simp only [Value.slice.injEq, Option.some.injEq, Addr.mk.injEq] at e
    obtain ⟨⟨rfl, -⟩, -, rfl⟩ := e
    exact .inr ⟨g, _, cur, rfl, Nat.le_refl _, hg', hle, hmx, hs', ht'⟩
end
theorem info_val : (Tryz.prog.info? 74).map (fun i => (i.zero, i.size, i.bytes)) = some (some (.int .u8 0), 1, 1) := by kernel_rfl

theorem ret_v {a b : Int} (h : a = b) : Ending.returned (.int .u8 a) = .returned (.int .u8 b) := by rw [h]
/-- The value of net x among the values l. -/
def valA (l : List Int) (x : Int) : Int := if x < 0 ∨ (l.length : Int) ≤ x then 2 else cln (lat l x)
theorem Ks.vs {w : World} {B : Nat} {v : Value} {l : List Int} (h : Ks w B v l) : Lg.Vs w B v l := by
  obtain ⟨A, b, o, c, rfl, hA, hle, hm, hc⟩ := h.opens
  by_cases h0 : 0 < l.length
  · obtain rfl := hA h0
    exact ⟨b, o, c, .inl rfl, hm, hc⟩
  · obtain rfl : l = [] := List.eq_nil_of_length_eq_zero (by omega)
    exact ⟨b, o, c, .inr ⟨rfl, A, rfl⟩, hm, hc⟩
/-- The variable q holds the values l. -/
def Nv (w : World) (q : Nat) (l : List Int) : Prop := ∃ A c, w.cell? ⟨q, 0, none⟩ = some (.slice A l.length c) ∧ Ks w w.heap.size (.slice A l.length c) l
theorem Nv.below {w w' : World} {q : Nat} {l : List Int} (h : Nv w q l) (hb : Below w.heap.size w w') : Nv w' q l := by
  obtain ⟨A, c, h1, h2⟩ := h
  exact ⟨A, c, (hb.cell (p := ⟨q, 0, none⟩) (cell_lt h1)).trans h1, Arr.keep stays_u8 h2 hb.size fun _ hp => hb.cell hp⟩

set_option maxHeartbeats 1000000 in
theorem val1_any (l : List Int) (x : Int) (q : Nat) (w : World) (hq : Nv w q l) :
    Calls Tryz.prog 47 #[.int .i64 x, .pointer (some ⟨q, 0, none⟩)] w fun e w' => e = .returned (.int .u8 (valA l x)) ∧ w = w' := by
  obtain ⟨y, HY⟩ := named (valA l x)
  rw [← HY.out]
  obtain ⟨A, c, h1, h2⟩ := hq
  obtain ⟨A', b, o, c', e, hA, hle, hm, hc⟩ := h2.opens
  simp only [Value.slice.injEq, true_and] at e
  obtain ⟨rfl, rfl⟩ := e
  have HA := Lib.hid hA
  have HC := Lib.hid hc
  unfold maxLen at hm
  clear hA hc h2
  obtain ⟨n, HN⟩ := named l.length
  rw [← HN.out] at h1 hm HA HC hle
  have HCL := Lib.hid (fun w => Lg.clean_any (lat l x) w)
  obtain ⟨z, HZ⟩ := named (lat l x)
  obtain ⟨cz, HCZ⟩ := named (cln (lat l x))
  rw [← HCZ.out, ← HZ.out] at HCL
  have HYD : Hid (y = if x < 0 ∨ (n : Int) ≤ x then 2 else cz) := Lib.hid (by rw [HY.out, HN.out, HCZ.out]; rfl)
  by_cases h0 : x < 0
  · have hy : y = 2 := by rw [HYD.out]; exact if_pos (.inl h0)
    have HYF := Lib.hid hy
    clear hy
    go_enter Tryz.func47, Tryz.ntmps47
    go_wp2
    go_ret
    exact ⟨ret_v HYF.out.symm, rfl⟩
  by_cases hn : (n : Int) ≤ x
  · have hy : y = 2 := by rw [HYD.out]; exact if_pos (.inr hn)
    have HYF := Lib.hid hy
    clear hy
    go_enter Tryz.func47, Tryz.ntmps47
    go_wp2
    go_ret
    exact ⟨ret_v HYF.out.symm, rfl⟩
  have hy : y = cz := by rw [HYD.out]; exact if_neg (by omega)
  have HYF := Lib.hid hy
  obtain ⟨k, rfl⟩ := Int.eq_ofNat_of_zero_le (show 0 ≤ x by omega)
  have hk : k < n := by omega
  obtain rfl := HA.out (by omega)
  have hcell := (HC.out k hk).2
  have HZ2 : Hid (l.getD k 0 = z) := Lib.hid (by rw [HZ.out]; unfold lat; rw [Int.toNat_natCast])
  rw [HZ2.out] at hcell
  clear hy
  go_enter Tryz.func47, Tryz.ntmps47
  go_wp2_with (go_at_call 48; (with_reducible refine (HCL.out _).mono ?_); rintro e w' ⟨rfl, rfl⟩)
  go_ret
  exact ⟨ret_v HYF.out.symm, rfl⟩
end Go.Proofs.YtfcdhoaccmckoaaGreatDoor

namespace Go.Proofs.YtfcdhoaccmckoaaGreatDoor
open Go.RowKit

/-- A row of values made for the call: block g. -/
def ValsPost (l : List Int) (w : World) (e : Ending) (w' : World) : Prop :=
  ∃ g, e = .returned (.slice (some ⟨g, 0, none⟩) l.length l.length) ∧ VRow w' g l ∧ w.heap.size ≤ g ∧ Below w.heap.size w w'
theorem fillL_vals (f : Int → Int) (z : Value) (l : List Int) : fillL (fun j => .int .u8 (f (lat l j))) z l.length l.length = (l.map f).map (Value.int .u8) := by
  apply List.ext_getElem?
  intro j
  by_cases hj : j < l.length
  · rw [fillL_get _ _ _ _ _ hj, if_pos hj]; simp [hj, lat, List.getD_eq_getElem?_getD]
  · rw [List.getElem?_eq_none (by simp [fillL_len]; omega), List.getElem?_eq_none (by simp; omega)]

set_option maxRecDepth 100000 in
set_option maxHeartbeats 4000000 in
theorem values_any (nets l : List Int) (A0 A1 A2 A3 : Option Addr) (n0 n1 n2 n3 c0 c1 c2 c3 : Nat) (s : Value) (q : Nat) (w : World) (B : Nat) (hB : B ≤ w.heap.size) (hq : Nv w q nets) (hs : Is w B s l) (hsz : l.length ≤ 17592186044416) :
    Calls Tryz.prog 25 #[.agg #[.slice A0 n0 c0, .slice A1 n1 c1, .slice A2 n2 c2, .slice A3 n3 c3, .func (.func 47) #[] #[.pointer (some ⟨q, 0, none⟩)]], s] w (ValsPost (l.map (valA nets)) w) := by
  obtain ⟨A, b, o, c, rfl, hA, hle, hm, hc⟩ := hs.opens
  have HA := Lib.hid hA
  have HC := Lib.hid hc
  clear hA hc hs hm hle
  obtain ⟨m, HM⟩ := named l.length
  rw [← HM.out] at HA HC hsz
  rw [← HM.out]
  obtain ⟨W1, HW1⟩ := named (w.alloc (.cells #[.slice A0 n0 c0, .slice A1 n1 c1, .slice A2 n2 c2, .slice A3 n3 c3, .func (.func 47) #[] #[.pointer (some ⟨q, 0, none⟩)]] 71))
  have hb1 : Below w.heap.size w W1 := by rw [HW1.out]; exact below_new (Below.refl _ _) _
  have hfx : W1.cell? ⟨w.heap.size, 4, none⟩ = some (.func (.func 47) #[] #[.pointer (some ⟨q, 0, none⟩)]) := by rw [HW1.out, World.cell?_alloc_at _ _ _ _ rfl]; rfl
  have hz1 : w.heap.size < W1.heap.size := by rw [HW1.out]; simp
  have HFX : Hid (∀ W, Below W1.heap.size W1 W → W.cell? ⟨w.heap.size, 4, none⟩ = some (.func (.func 47) #[] #[.pointer (some ⟨q, 0, none⟩)])) := Lib.hid fun W hb => (hb.cell (p := ⟨w.heap.size, 4, none⟩) hz1).trans hfx
  have HQ : Hid (∀ W, Below W1.heap.size W1 W → ∀ x, Calls Tryz.prog 47 #[.int .i64 x, .pointer (some ⟨q, 0, none⟩)] W fun e w' => e = .returned (.int .u8 (valA nets x)) ∧ W = w') :=
    Lib.hid fun W hb x => val1_any nets x q W (hq.below (joinB hb1 hb))
  have HB1 := Lib.hid hb1
  have hBz : B < W1.heap.size := by omega
  clear hq hb1 hfx
  obtain ⟨i0, hi, hz0, hz1', hz2⟩ := info_parts info_val
  have HI := Lib.hid (And.intro hi (And.intro hz0 (And.intro hz1' hz2)))
  clear hi hz0 hz1' hz2
  go_enter Tryz.func25, Tryz.ntmps25
  go_upto_region 1 with (fail)
  rw [← HW1.out]
  go_wp2_with (at_make; refine wpList_make_full _ rfl _ _ 37 rfl W1.heap.size 74 i0 (.int .u8 0) 1 Tryz.underlying37 HI.out.1 HI.out.2.1 HI.out.2.2.1 .i64 .i64 _ _ m rfl rfl rfl rfl ?b2 ?b3 ?b4 ?_)
  case b2 => rw [HI.out.2.2.2]; omega
  case b3 => unfold maxLen; omega
  case b4 => exact Nat.le_refl _
  intro w2 hown hgr
  rw [fillL_start (fun j => .int .u8 (valA nets (lat l j)))] at hown
  have hb2 : Below W1.heap.size W1 w2 := (Below.refl _ _).grown hgr (Nat.le_refl _) (fun k h => by cases h)
  have HO := Lib.hid hown
  have HB2 := Lib.hid hb2
  obtain ⟨g, HG⟩ := named W1.heap.size
  rw [← HG.out] at HO
  have hgz : W1.heap.size ≤ g := by rw [HG.out]; exact Nat.le_refl _
  have hgz2 : w.heap.size < g := by rw [HG.out]; exact hz1
  rw [← HG.out]
  clear hown hgr hb2
  go_wp2
  go_loopw [13] (fun i wr => ∃ k : Nat, k ≤ m ∧ i = .int .i64 k ∧ Below W1.heap.size W1 wr ∧ wr.ownsRow g 74 1 (.slice (some ⟨g, 0, none⟩) m m) m (fillL (fun j => .int .u8 (valA nets (lat l j))) (.int .u8 0) m k)) (fun i _ => m - (intOf i).toNat)
  case atStart => exact ⟨0, Nat.zero_le _, rfl, HB2.out, HO.out⟩
  case round =>
    clear HO HB2
    obtain ⟨k, hk, rfl, hb, hown⟩ := hrel
    have HBL := Lib.hid hb
    have HO := Lib.hid hown
    have hbx := HFX.out _ hb
    clear hb hown
    by_cases hlt : k < m
    · obtain rfl := HA.out (by omega)
      obtain ⟨hlb, hx⟩ := HC.out k hlt
      have hx2 : wr.cell? ⟨b, o + k, none⟩ = some (.int .i64 (l.getD k 0)) := ((joinB HB1.out HBL.out).cell (p := ⟨b, o + k, none⟩) (by show b < w.heap.size; omega)).trans hx
      have hfz : wr.frozen? ⟨g, k, none⟩ = false := HO.out.frozenAt k
      have hcl : wr.cell? ⟨g, k, none⟩ = some (.int .u8 0) := by
        rw [HO.out.cellAt k (by omega), fillL_get _ _ _ _ _ hlt, if_neg (by omega)]
      obtain ⟨x, HX⟩ := named (l.getD k 0)
      rw [← HX.out] at hx2
      have HLX : Hid (lat l (k : Int) = x) := Lib.hid (by rw [HX.out]; unfold lat; rw [Int.toNat_natCast])
      obtain ⟨u, HU⟩ := named (valA nets x)
      have HCL := Lib.hid (HQ.out wr HBL.out x)
      rw [← HU.out] at HCL
      have HS := Lib.hid (HO.out.stored k (.int .u8 u)).1
      clear hx
      go_wp2_with (go_at_call 47; (with_reducible refine HCL.out.mono ?_); rintro e w' ⟨rfl, rfl⟩)
      go_roundw
      case rel =>
        refine ⟨k + 1, by omega, by go_num, HBL.out.setCell hgz _, ?_⟩
        have h := HS.out
        rw [HU.out, ← HLX.out] at h
        rw [HU.out, ← HLX.out, ← fillL_set (fun j => .int .u8 (valA nets (lat l j))) (.int .u8 0) m k]
        exact h
      case measure => simp [intOf]; omega
    · obtain rfl : m = k := by omega
      go_wp2
      go_ret
      have h := HO.out
      rw [HM.out, fillL_vals] at h
      refine ⟨g, congrArg (fun n => Ending.returned (.slice (some ⟨g, 0, none⟩) n n)) (by rw [List.length_map]; exact HM.out), VRow.of (n := l.length) h (by rw [List.length_map]), Nat.le_of_lt hgz2, joinB HB1.out HBL.out⟩

/-- What a Dff with the inputs l reads. -/
def dataV (nets l : List Int) : Int := if l.length = 1 then rd (valA nets (l.getD 0 0)) else 2
set_option maxRecDepth 100000 in
set_option maxHeartbeats 4000000 in
theorem data_any (c : Ck) (nets : List Int) (A0 A1 A2 A3 : Option Addr) (n1 n2 n3 c0 c1 c2 c3 : Nat) (i q : Nat) (w : World) (B : Nat) (hB : B ≤ w.heap.size) (hq : Nv w q nets) (hc : Ns w B (.slice A0 c.nodes.length c0) c.nodes) (hi : i < c.nodes.length) :
    Calls Tryz.prog 58 #[.agg #[.slice A0 c.nodes.length c0, .slice A1 n1 c1, .slice A2 n2 c2, .slice A3 n3 c3, .func (.func 47) #[] #[.pointer (some ⟨q, 0, none⟩)]], .int .i64 (i : Int)] w
      fun e w' => e = .returned (.int .u8 (dataV nets (c.nodes.getD i default).ins)) ∧ Below w.heap.size w w' := by
  obtain ⟨y, HY⟩ := named (dataV nets (c.nodes.getD i default).ins)
  rw [← HY.out]
  obtain ⟨A, b, o, c', e, hA, hle, hm, hcell⟩ := hc
  simp only [Value.slice.injEq, true_and] at e
  obtain ⟨rfl, rfl⟩ := e
  obtain ⟨hlb, s, e0, e1, -, -, h4, -, -⟩ := hcell i hi
  obtain rfl := hA (by omega)
  obtain ⟨A4, b4, o4, c4, rfl, hA4, hle4, hm4, hc4⟩ := h4.opens
  obtain ⟨n, HN⟩ := named c.nodes.length
  rw [← HN.out] at hi hm
  rw [← HN.out]
  unfold maxLen at hm hm4
  obtain ⟨l, HL⟩ := named (c.nodes.getD i default).ins
  rw [← HL.out] at e1 h4 hA4 hc4 hm4 HY
  obtain ⟨W1, HW1⟩ := named (w.alloc (.cells #[.slice (some ⟨b, o, none⟩) n c0, .slice A1 n1 c1, .slice A2 n2 c2, .slice A3 n3 c3, .func (.func 47) #[] #[.pointer (some ⟨q, 0, none⟩)]] 71))
  have hb1 : Below w.heap.size w W1 := by rw [HW1.out]; exact below_new (Below.refl _ _) _
  have x0 : W1.cell? ⟨w.heap.size, 0, none⟩ = some (.slice (some ⟨b, o, none⟩) n c0) := by rw [HW1.out, World.cell?_alloc_at _ _ _ _ rfl]; rfl
  have x4 : W1.cell? ⟨w.heap.size, 4, none⟩ = some (.func (.func 47) #[] #[.pointer (some ⟨q, 0, none⟩)]) := by rw [HW1.out, World.cell?_alloc_at _ _ _ _ rfl]; rfl
  have f1 : W1.cell? ⟨b, o + i * 4 + 1, none⟩ = some (.slice A4 l.length c4) := (hb1.cell (p := ⟨b, _, none⟩) (by show b < w.heap.size; omega)).trans e1
  have HQ : Hid (∀ W, Below W1.heap.size W1 W → ∀ x, Calls Tryz.prog 47 #[.int .i64 x, .pointer (some ⟨q, 0, none⟩)] W fun e w' => e = .returned (.int .u8 (valA nets x)) ∧ W = w') :=
    Lib.hid fun W hb x => val1_any nets x q W (hq.below (joinB hb1 hb))
  have hz1 : w.heap.size < W1.heap.size := by rw [HW1.out]; simp
  have HB1 := Lib.hid hb1
  have HA4 := Lib.hid hA4
  have HC4 := Lib.hid hc4
  clear hA hcell e0 e1 h4 hA4 hc4 hle4 hq hle
  have HF1 := Lib.hid f1
  have HX0 := Lib.hid x0
  have HX4 := Lib.hid x4
  by_cases h1 : l.length = 1
  · obtain rfl := HA4.out (by omega)
    obtain ⟨hlb4, hx⟩ := HC4.out 0 (by omega)
    rw [Nat.add_zero] at hx
    have g0 : ∀ xx : Beh W1, xx.x.cell? ⟨b4, o4, none⟩ = some (.int .i64 (l.getD 0 0)) := fun xx => ((joinB HB1.out xx.below).cell (p := ⟨b4, o4, none⟩) (by show b4 < w.heap.size; omega)).trans hx
    have g4 : ∀ xx : Beh W1, xx.x.cell? ⟨w.heap.size, 4, none⟩ = some (.func (.func 47) #[] #[.pointer (some ⟨q, 0, none⟩)]) := fun xx => (xx.below.cell (p := ⟨w.heap.size, 4, none⟩) hz1).trans HX4.out
    have hy : y = rd (valA nets (l.getD 0 0)) := by rw [HY.out]; unfold dataV; rw [if_pos h1]
    rw [h1] at f1
    have H1 := Lib.hid h1
    obtain ⟨x, HX⟩ := named (l.getD 0 0)
    rw [← HX.out] at g0 hy
    obtain ⟨u, HU⟩ := named (valA nets x)
    rw [← HU.out] at hy
    have HYF := Lib.hid hy
    have HV : Hid (∀ xx : Beh W1, Calls Tryz.prog 47 #[.int .i64 x, .pointer (some ⟨q, 0, none⟩)] xx.x fun e w' => e = .returned (.int .u8 u) ∧ xx.x = w') := Lib.hid fun xx => by have := HQ.out xx.x xx.below x; rw [← HU.out] at this; exact this
    have HR : Hid (∀ xx : Beh W1, Calls Tryz.prog 50 #[.int .u8 u] xx.x fun e w' => e = .returned (.int .u8 y) ∧ xx.x = w') := Lib.hid fun xx => by rw [HYF.out]; exact Lg.read_any u xx.x
    clear hx hy h1
    go_enter Tryz.func58, Tryz.ntmps58
    go_upto_region 1 with (fail)
    rw [← HW1.out]
    go_upto_region 4 with (fail)
    refine region_class (w0 := W1) (Below.refl _ _) (by kernel_rfl) (by kernel_rfl) ?_
    repeat (first
      | go_big_quiet_skip
      | (go_big_quiet_want; go_big_quiet_op; first
        | go_big_quiet_on
        | (apply Exists.intro
           refine ⟨fun xx => ?_, ?_⟩
           focus first
            | (go_at_call 47; with_reducible exact beh_same (HV.out xx))
            | (go_at_call 50; with_reducible exact beh_same (HR.out xx))
           go_big_quiet_on)))
    refine wpQuiet_nil ?_
    rintro w9 ⟨⟨wz, hz⟩, rfl⟩
    go_wp2
    go_ret
    exact ⟨rfl, joinB HB1.out hz⟩
  · have hy : y = 2 := by rw [HY.out]; unfold dataV; exact if_neg h1
    obtain ⟨m, HM⟩ := named l.length
    rw [← HM.out] at h1 f1 hm4
    have t1 : ((m : Int) != 1) = true := by rw [bne_iff_ne]; omega
    have HYF := Lib.hid hy
    clear hy
    go_enter Tryz.func58, Tryz.ntmps58
    go_upto_region 1 with (fail)
    rw [← HW1.out]
    go_wp2
    go_ret
    exact ⟨ret_v HYF.out.symm, HB1.out⟩
end Go.Proofs.YtfcdhoaccmckoaaGreatDoor

namespace Go.Proofs.YtfcdhoaccmckoaaGreatDoor
open Go.RowKit

set_option maxRecDepth 100000 in
set_option maxHeartbeats 4000000 in
theorem stateOf_any (nets : List Int) (A0 A1 A2 A3 A : Option Addr) (n0 n1 n2 n3 n c0 c1 c2 c3 c : Nat) (w : World) (B : Nat) (hB : B ≤ w.heap.size) (hs : Ks w B (.slice A n c) nets) :
    Calls Tryz.prog 22 #[.agg #[.slice A0 n0 c0, .slice A1 n1 c1, .slice A2 n2 c2, .slice A3 n3 c3], .slice A n c] w
      fun e w' => (∃ q, e = .returned (.agg #[.slice A0 n0 c0, .slice A1 n1 c1, .slice A2 n2 c2, .slice A3 n3 c3, .func (.func 47) #[] #[.pointer (some ⟨q, 0, none⟩)]]) ∧ Nv w' q nets ∧ w.heap.size ≤ q ∧ w'.cell? ⟨q, 0, none⟩ = some (.slice A n c)) ∧ Below w.heap.size w w' := by
  have HS := Lib.hid hs
  clear hs
  go_enter Tryz.func22, Tryz.ntmps22
  go_wp2
  obtain ⟨V, HV⟩ := named ((w.alloc (.cells #[.slice A0 n0 c0, .slice A1 n1 c1, .slice A2 n2 c2, .slice A3 n3 c3] 35)).alloc (.cells #[.slice A n c] 37))
  rw [← HV.out]
  have hbv : Below w.heap.size w V := by rw [HV.out]; exact below_new (below_new (Below.refl _ _) _) _
  have hvz : V.heap.size = w.heap.size + 1 + 1 := by rw [HV.out]; simp
  have hcv : V.cell? ⟨w.heap.size + 1, 0, none⟩ = some (.slice A n c) := by rw [HV.out, World.cell?_alloc_at _ _ _ _ (by simp)]; rfl
  rw [← hvz]
  have hq := Fr.made V [.slice A0 n0 c0, .slice A1 n1 c1, .slice A2 n2 c2, .slice A3 n3 c3, .func (.func 47) #[] #[.pointer (some ⟨w.heap.size + 1, 0, none⟩)]] 71 rfl
  (try simp only [Exit.inBlock, Exit.then])
  refine bodyPost_ret (results_cell_row rfl _ _ _ _ _ _ _ rfl hq Tryz.underlying71 rfl (by kernel_rfl)) rfl ?_
  have hlen : n = nets.length := by obtain ⟨_, _, _, _, e, -⟩ := id HS.out; simp only [Value.slice.injEq] at e; exact e.2.1
  subst hlen
  have hbW := below_new hbv (.cells #[.slice A0 n0 c0, .slice A1 n1 c1, .slice A2 n2 c2, .slice A3 n3 c3, .func (.func 47) #[] #[.pointer (some ⟨w.heap.size + 1, 0, none⟩)]] 71)
  refine ⟨⟨w.heap.size + 1, rfl, ⟨A, c, ?_, ?_⟩, Nat.le_succ _, ?_⟩, hbW⟩
  · exact ((below_new (Below.refl V.heap.size V) _).cell (p := ⟨w.heap.size + 1, 0, none⟩) (by show w.heap.size + 1 < V.heap.size; omega)).trans hcv
  · exact Arr.keep stays_u8 HS.out (Nat.le_trans hB hbW.size) fun _ hp => hbW.cell (Nat.lt_of_lt_of_le hp hB)
  · exact ((below_new (Below.refl V.heap.size V) _).cell (p := ⟨w.heap.size + 1, 0, none⟩) (by show w.heap.size + 1 < V.heap.size; omega)).trans hcv

theorem VRow.other {w : World} {g : Nat} {l : List Int} (h : VRow w g l) {a : Addr} (ha : a.block ≠ g) (v : Value) : VRow (w.setCell a v) g l :=
  h.kept (row := some a.block) ⟨rfl, rfl, rfl, by simp [World.setCell], fun i _ hne => Below.heap_setCell _ _ _ _ (fun e => hne (by rw [e]))⟩ (fun e => ha (by injection e with e; exact e.symm))
/-- A response made for the call. -/
def RespPost (lo ln : List Int) (w : World) (e : Ending) (w' : World) : Prop :=
  ∃ g h, e = .returned (.agg #[.slice (some ⟨g, 0, none⟩) lo.length lo.length, .slice (some ⟨h, 0, none⟩) ln.length ln.length]) ∧ VRow w' g lo ∧ VRow w' h ln ∧ w.heap.size ≤ g ∧ w.heap.size ≤ h ∧ g ≠ h ∧ Below w.heap.size w w'
def outV (c : Ck) (nets : List Int) : List Int := c.outs.map (valA nets)
def nextV (c : Ck) (nets : List Int) : List Int := (ofTo c.nodes [14] c.nodes.length).map fun i => dataV nets (c.nodes.getD i.toNat default).ins
theorem ofTo_in {nodes : List Nd} {kl : List Int} {k : Nat} {x : Int} (h : x ∈ ofTo nodes kl k) : 0 ≤ x ∧ x < (k : Int) := by
  unfold ofTo at h
  obtain ⟨i, hi, rfl⟩ := List.mem_map.1 h
  have := List.mem_range.1 (List.mem_filter.1 hi).1
  omega

set_option maxRecDepth 100000 in
set_option maxHeartbeats 4000000 in
theorem response_any (c : Ck) (nets : List Int) (A0 A1 A2 A3 : Option Addr) (c0 c1 c2 c3 q : Nat) (w : World) (B : Nat) (hB : B ≤ w.heap.size) (hq : Nv w q nets)
    (hc : Cir w B (.agg #[.slice A0 c.nodes.length c0, .slice A1 c.names.length c1, .slice A2 c.mems.length c2, .slice A3 c.outs.length c3]) c) (hsz : c.nodes.length ≤ 1000000) (hos : c.outs.length ≤ 17592186044416) :
    Calls Tryz.prog 26 #[.agg #[.slice A0 c.nodes.length c0, .slice A1 c.names.length c1, .slice A2 c.mems.length c2, .slice A3 c.outs.length c3, .func (.func 47) #[] #[.pointer (some ⟨q, 0, none⟩)]]] w (RespPost (outV c nets) (nextV c nets) w) := by
  obtain ⟨W1, HW1⟩ := named ((w.alloc (.cells #[.slice A0 c.nodes.length c0, .slice A1 c.names.length c1, .slice A2 c.mems.length c2, .slice A3 c.outs.length c3, .func (.func 47) #[] #[.pointer (some ⟨q, 0, none⟩)]] 71)).alloc (.cells #[.slice none 0 0, .slice none 0 0] 42))
  have hb1 : Below w.heap.size w W1 := by rw [HW1.out]; exact below_new (below_new (Below.refl _ _) _) _
  have hfs : Fr W1 w.heap.size 71 (#[.slice A0 c.nodes.length c0, .slice A1 c.names.length c1, .slice A2 c.mems.length c2, .slice A3 c.outs.length c3, .func (.func 47) #[] #[.pointer (some ⟨q, 0, none⟩)]]).toList := by rw [HW1.out]; exact Fr.alloc (Fr.made _ _ _ rfl) _
  have hfr : Fr W1 (w.heap.size + 1) 42 [.slice none 0 0, .slice none 0 0] := by rw [HW1.out]; exact Fr.made _ _ _ (by simp)
  have hz1 : W1.heap.size = w.heap.size + 1 + 1 := by rw [HW1.out]; simp
  have hns : Ns w B (.slice A0 c.nodes.length c0) c.nodes := by
    obtain ⟨v0, v1, v2, v3, e, h, -⟩ := hc
    simp only [Value.agg.injEq, Array.mk.injEq, List.cons.injEq, and_true] at e
    rw [e.1]; exact h
  have hio : Is w B (.slice A3 c.outs.length c3) c.outs := by
    obtain ⟨v0, v1, v2, v3, e, -, -, -, h⟩ := hc
    simp only [Value.agg.injEq, Array.mk.injEq, List.cons.injEq, and_true] at e
    rw [e.2.2.2]; exact h
  have HST := Lib.hid (OfPost.from (states_any c _ W1 B (Nat.le_trans hB hb1.size) (hc.below (hb1.mono hB)) hsz) (Below.refl _ _))
  have HDA : Hid (∀ W, Below W1.heap.size W1 W → ∀ i : Nat, i < c.nodes.length → Calls Tryz.prog 58 #[.agg #[.slice A0 c.nodes.length c0, .slice A1 c.names.length c1, .slice A2 c.mems.length c2, .slice A3 c.outs.length c3, .func (.func 47) #[] #[.pointer (some ⟨q, 0, none⟩)]], .int .i64 (i : Int)] W fun e w' => e = .returned (.int .u8 (dataV nets (c.nodes.getD i default).ins)) ∧ Below W.heap.size W w') :=
    Lib.hid fun W hb i hi => data_any c nets A0 A1 A2 A3 _ _ _ c0 c1 c2 c3 i q W B (Nat.le_trans hB (joinB hb1 hb).size) (hq.below (joinB hb1 hb)) (hns.below ((joinB hb1 hb).mono hB)) hi
  have HVA : Hid (∀ W, Below W1.heap.size W1 W → Calls Tryz.prog 25 #[.agg #[.slice A0 c.nodes.length c0, .slice A1 c.names.length c1, .slice A2 c.mems.length c2, .slice A3 c.outs.length c3, .func (.func 47) #[] #[.pointer (some ⟨q, 0, none⟩)]], .slice A3 c.outs.length c3] W (ValsPost (outV c nets) W)) :=
    Lib.hid fun W hb => values_any nets c.outs A0 A1 A2 A3 _ _ _ _ c0 c1 c2 c3 _ q W B (Nat.le_trans hB (joinB hb1 hb).size) (hq.below (joinB hb1 hb)) (hio.below ((joinB hb1 hb).mono hB)) hos
  have HOL : Hid ((outV c nets).length = c.outs.length) := Lib.hid (by simp [outV])
  have HNX : Hid (nextV c nets = (ofTo c.nodes [14] c.nodes.length).map fun i => dataV nets (c.nodes.getD i.toNat default).ins) := Lib.hid rfl
  have HIN : Hid (∀ x ∈ ofTo c.nodes [14] c.nodes.length, 0 ≤ x ∧ x < (c.nodes.length : Int)) := Lib.hid fun x hx => ofTo_in hx
  have hll := ofTo_len c.nodes [14] c.nodes.length
  have HB1 := Lib.hid hb1
  clear hq hc hns hio hb1
  obtain ⟨lo, HLO⟩ := named (outV c nets)
  obtain ⟨ln, HLN⟩ := named (nextV c nets)
  obtain ⟨L, HL⟩ := named (ofTo c.nodes [14] c.nodes.length)
  rw [← HLO.out] at HVA HOL
  rw [← HLN.out, ← HL.out] at HNX
  rw [← HL.out] at HST HIN hll
  rw [← HLO.out, ← HLN.out]
  clear HLO HLN HL
  obtain ⟨nd, HND⟩ := named c.nodes
  rw [← HND.out] at HW1 hfs HST HDA HVA HIN HNX hll hsz
  rw [← HND.out]
  obtain ⟨n0, HN0⟩ := named nd.length
  rw [← HN0.out] at HW1 hfs HST HDA HVA HIN hll hsz
  rw [← HN0.out]
  generalize c.names.length = n1 at HW1 hfs HST HDA HVA ⊢
  generalize c.mems.length = n2 at HW1 hfs HST HDA HVA ⊢
  obtain ⟨n3, HN3⟩ := named c.outs.length
  rw [← HN3.out] at HW1 hfs HST HDA HVA HOL hos
  rw [← HN3.out]
  have HFS : Hid (∀ W, Below W1.heap.size W1 W → W.cell? ⟨w.heap.size, 0, none⟩ = some (.slice A0 n0 c0) ∧ W.cell? ⟨w.heap.size, 1, none⟩ = some (.slice A1 n1 c1) ∧ W.cell? ⟨w.heap.size, 2, none⟩ = some (.slice A2 n2 c2) ∧ W.cell? ⟨w.heap.size, 3, none⟩ = some (.slice A3 n3 c3) ∧ W.cell? ⟨w.heap.size, 4, none⟩ = some (.func (.func 47) #[] #[.pointer (some ⟨q, 0, none⟩)])) :=
    Lib.hid fun W hb => ⟨(hfs.below hb).cell 0, (hfs.below hb).cell 1, (hfs.below hb).cell 2, (hfs.below hb).cell 3, (hfs.below hb).cell 4⟩
  have HFR : Hid (∀ W, Below W1.heap.size W1 W → Fr W (w.heap.size + 1) 42 [.slice none 0 0, .slice none 0 0]) := Lib.hid fun W hb => hfr.below hb
  have HZ1 := Lib.hid hz1
  have hzl : w.heap.size + 1 < W1.heap.size := by omega
  clear hfs hfr hz1
  obtain ⟨m, HM⟩ := named L.length
  rw [← HM.out] at hll
  have hst2 : Calls Tryz.prog 21 #[.agg #[.slice A0 n0 c0, .slice A1 n1 c1, .slice A2 n2 c2, .slice A3 n3 c3]] W1 fun e w' => ∃ A, e = .returned (.slice A m m) ∧ Is w' w'.heap.size (.slice A m m) L ∧ Below W1.heap.size W1 w' := by rw [HM.out]; exact HST.out
  have HST2 := Lib.hid hst2
  clear hst2 HST
  obtain ⟨i0, hi, hz0, hz1', hz2⟩ := info_parts info_val
  have HI := Lib.hid (And.intro hi (And.intro hz0 (And.intro hz1' hz2)))
  clear hi hz0 hz1' hz2
  go_enter Tryz.func26, Tryz.ntmps26
  go_upto_region 1 with (fail)
  rw [← HW1.out]
  obtain ⟨x0, x1, x2, x3, x4⟩ := HFS.out W1 (Below.refl _ _)
  go_wp2_with (first
    | (go_at_call 21; (with_reducible refine HST2.out.mono ?_); rintro e w2 ⟨A, rfl, hi, hb⟩; have HLI := Lib.hid hi; have HB2 := Lib.hid hb; clear hi hb)
    | (at_make; refine wpList_make_full _ rfl _ _ 37 rfl w2.heap.size 74 i0 (.int .u8 0) 1 Tryz.underlying37 HI.out.1 HI.out.2.1 HI.out.2.2.1 .i64 .i64 _ _ m rfl rfl rfl rfl ?b2 ?b3 ?b4 ?_))
  case b2 => rw [HI.out.2.2.2]; omega
  case b3 => unfold maxLen; omega
  case b4 => exact Nat.le_refl _
  intro w3 hown hgr
  rw [fillL_start (fun j => .int .u8 (dataV nets (nd.getD (lat L j).toNat default).ins))] at hown
  have HB3 := Lib.hid (show Below w2.heap.size w2 w3 from (Below.refl _ _).grown hgr (Nat.le_refl _) (fun k h => by cases h))
  have HO := Lib.hid hown
  obtain ⟨g, HG⟩ := named w2.heap.size
  rw [← HG.out] at HO
  have hgz : w2.heap.size ≤ g := by rw [HG.out]; exact Nat.le_refl _
  have hgw : w.heap.size + 1 < g := by have := HB2.out.size; rw [HG.out]; omega
  rw [← HG.out]
  obtain ⟨AA, bL, oL, cL, eL, hAL, -, -, hcL⟩ := HLI.out.opens
  rw [← HM.out] at eL hAL hcL
  simp only [Value.slice.injEq, true_and] at eL
  obtain ⟨rfl, -⟩ := eL
  have HAL := Lib.hid hAL
  have HCL := Lib.hid hcL
  clear hown hgr x0 x1 x2 x3 x4 hAL hcL
  go_wp2
  go_loopw [15] (fun i wr => ∃ k : Nat, k ≤ m ∧ i = .int .i64 k ∧ Below w2.heap.size w2 wr ∧ wr.ownsRow g 74 1 (.slice (some ⟨g, 0, none⟩) m m) m (fillL (fun j => .int .u8 (dataV nets (nd.getD (lat L j).toNat default).ins)) (.int .u8 0) m k)) (fun i _ => m - (intOf i).toNat)
  case atStart => exact ⟨0, Nat.zero_le _, rfl, HB3.out, HO.out⟩
  case round =>
    clear HO HB3
    obtain ⟨k, hk, rfl, hb, hown⟩ := hrel
    have HBL := Lib.hid hb
    have HO := Lib.hid hown
    obtain ⟨x0, x1, x2, x3, x4⟩ := HFS.out wr (joinB HB2.out hb)
    clear hb hown
    by_cases hlt : k < m
    · obtain rfl := HAL.out (by omega)
      obtain ⟨hlb, hx⟩ := HCL.out k hlt
      have hx2 : wr.cell? ⟨bL, oL + k, none⟩ = some (.int .i64 (L.getD k 0)) := (HBL.out.cell (p := ⟨bL, oL + k, none⟩) hlb).trans hx
      obtain ⟨j0, j1⟩ := HIN.out (L.getD k 0) (by rw [List.getD_eq_getElem?_getD, List.getElem?_eq_getElem (by rw [← HM.out]; exact hlt)]; exact List.getElem_mem _)
      obtain ⟨x, hxx⟩ := Int.eq_ofNat_of_zero_le j0
      rw [hxx] at hx2 j1
      have hxn : x < n0 := by omega
      have HLX : Hid (lat L (k : Int) = (x : Int)) := Lib.hid (by rw [← hxx]; unfold lat; rw [Int.toNat_natCast])
      have hcl : wr.cell? ⟨g, k, none⟩ = some (.int .u8 0) := by
        rw [HO.out.cellAt k (by omega), fillL_get _ _ _ _ _ hlt, if_neg (by omega)]
      have hfz : wr.frozen? ⟨g, k, none⟩ = false := HO.out.frozenAt k
      have hgl : g < wr.heap.size := (World.ownsRow.lt HO.out _ rfl).2
      obtain ⟨u, HU⟩ := named (dataV nets (nd.getD x default).ins)
      have HCD := Lib.hid (HDA.out wr (joinB HB2.out HBL.out) x hxn)
      rw [← HU.out] at HCD
      clear hx hxx j0 j1
      go_wp2_with (go_at_call 58; (with_reducible refine HCD.out.mono ?_); rintro e w5 ⟨rfl, hb⟩; have HB5 := Lib.hid hb; have hcl5 := (hb.cell (p := ⟨g, k, none⟩) hgl).trans hcl; have hfz5 := (hb.frozen (p := ⟨g, k, none⟩) hgl).trans hfz; clear hb)
      go_roundw
      case rel =>
        have h5 : w5.ownsRow g 74 1 (.slice (some ⟨g, 0, none⟩) m m) m (fillL (fun j => .int .u8 (dataV nets (nd.getD (lat L j).toNat default).ins)) (.int .u8 0) m k) :=
          World.ownsRow.kept (row := none) HO.out ⟨HB5.out.os, HB5.out.tape, HB5.out.output, HB5.out.size, fun i hi _ => HB5.out.block i hi⟩ (.inr (show some g ≠ (none : Option Nat) by simp))
        have h := (h5.stored k (.int .u8 u)).1
        refine ⟨k + 1, by omega, by go_num, (joinB HBL.out HB5.out).setCell hgz _, ?_⟩
        have e : u = dataV nets (nd.getD (lat L (k : Int)).toNat default).ins := by rw [HLX.out, Int.toNat_natCast]; exact HU.out
        rw [e] at h ⊢
        rw [← fillL_set (fun j => .int .u8 (dataV nets (nd.getD (lat L j).toNat default).ins)) (.int .u8 0) m k]
        exact h
      case measure => simp [intOf]; omega
    · obtain rfl : m = k := by omega
      have hfull : VRow wr g ln := by
        have h := HO.out
        have e := fillL_vals (fun x => dataV nets (nd.getD x.toNat default).ins) (.int .u8 0) L
        rw [← HM.out] at e
        rw [e] at h
        rw [HNX.out]
        exact VRow.of (n := m) h (by rw [List.length_map]; exact HM.out.symm)
      have HFULL := Lib.hid hfull
      have HCV := Lib.hid (HVA.out wr (joinB HB2.out HBL.out))
      have hlo : lo.length = n3 := HOL.out
      have hln : ln.length = m := by rw [HNX.out, List.length_map]; exact HM.out.symm
      have HLO := Lib.hid hlo
      have HLN := Lib.hid hln
      have hfr := HFR.out wr (joinB HB2.out HBL.out)
      have HFRR := Lib.hid hfr
      have hrl : w.heap.size + 1 < wr.heap.size := by have := (joinB HB2.out HBL.out).size; omega
      clear hfull hlo hln hfr
      go_wp2_with (go_at_call 25; (with_reducible refine HCV.out.mono ?_); rintro e w5 ⟨h, rfl, hv, hz, hb⟩; have HB5 := Lib.hid hb; have HV5 := Lib.hid hv; have HZ5 := Lib.hid hz; have r0 : w5.cell? ⟨w.heap.size + 1, 0, none⟩ = some (.slice none 0 0) := (HFRR.out.below hb).cell 0; have r1 : w5.cell? ⟨w.heap.size + 1, 1, none⟩ = some (.slice none 0 0) := (HFRR.out.below hb).cell 1; have f0 : w5.frozen? ⟨w.heap.size + 1, 0, none⟩ = false := (HFRR.out.below hb).frozen 0; have f1 : w5.frozen? ⟨w.heap.size + 1, 1, none⟩ = false := (HFRR.out.below hb).frozen 1; clear hv hz hb)
      have hq := ((HFRR.out.below HB5.out).set 0 (.slice (some ⟨h, 0, none⟩) lo.length lo.length)).set 1 (.slice (some ⟨g, 0, none⟩) m m)
      (try simp only [Exit.inBlock, Exit.then])
      refine bodyPost_ret (results_cell_row rfl _ _ _ _ _ _ _ rfl hq Tryz.underlying42 rfl (by kernel_rfl)) rfl ?_
      have hz5 := HZ5.out
      have hzb := (joinB HB2.out HBL.out).size
      have hz1 := HZ1.out
      have hgl := HFULL.out.lt
      have hb5 := joinB HB1.out (joinB (joinB HB2.out HBL.out) HB5.out)
      have n1 : w.heap.size + 1 ≠ h := by omega
      have n2 : w.heap.size + 1 ≠ g := by omega
      refine ⟨h, g, by rw [HLN.out]; rfl, (HV5.out.other (a := ⟨_, 0, none⟩) n1 _).other (a := ⟨_, 1, none⟩) n1 _, ((HFULL.out.below HB5.out).other (a := ⟨_, 0, none⟩) n2 _).other (a := ⟨_, 1, none⟩) n2 _, by omega, by omega, by omega, (hb5.setCell (Nat.le_succ _) _).setCell (Nat.le_succ _) _⟩
end Go.Proofs.YtfcdhoaccmckoaaGreatDoor
