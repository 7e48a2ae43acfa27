/- The texts Smp LgMono Smq Smv Smw Cln Cpp Cpy. -/
import Derived.Test.YtkaedfgmhfefjaaGreatDoorM11
import Derived.Test.YtkaedfgmhfefjaaGreatDoorM01
import Derived.Test.YtkaedfgmhfefjaaGreatDoorM07
import Derived.Test.YtkaedfgmhfefjaaGreatDoorM08
import Derived.Test.YtkaedfgmhfefjaaGreatDoorM06
import Derived.Laws.CopyRow
import Derived.Laws.CopyOwn
import Derived.Deep.OwnRows
import Derived.Deep.DeepCutAuto
import Derived.Deep.CutBlock
import Derived.Deep.RegionHeld3
namespace Go.Proofs.YtkaedfgmhfefjaaGreatDoor
def gateV (nodes : List Nd) (out : List Int) (i : Int) : Int := evalL (nodes.getD i.toNat default).kind ((nodes.getD i.toNat default).ins.map fun x => cln (lat out x))
def stl (nodes : List Nd) (out : List Int) (i : Int) : List Int := if cmb (nodes.getD i.toNat default).kind = true then out.set i.toNat (gateV nodes out i) else out
def Net (nodes : List Nd) (base out : List Int) : Prop := out.length = nodes.length ∧ ∀ i : Nat, i < nodes.length → lat out i = if cmb (nodes.getD i default).kind = true then gateV nodes out i else lat base i
structure StI (nodes : List Nd) (base P out : List Int) : Prop where
  len : out.length = nodes.length
  off : ∀ i : Nat, i < nodes.length → cmb (nodes.getD i default).kind = false → lat out i = lat base i
  on : ∀ y ∈ P, cmb (nodes.getD y.toNat default).kind = true → lat out y = gateV nodes out y
theorem gateV_congr {nodes : List Nd} {out out' : List Int} {i : Int} (h : ∀ x ∈ (nodes.getD i.toNat default).ins, lat out x = lat out' x) : gateV nodes out i = gateV nodes out' i := by
  unfold gateV
  congr 1
  exact List.map_congr_left fun x hx => by rw [h x hx]
theorem dep_ins {nodes : List Nd} {i : Int} (h : cmb (nodes.getD i.toNat default).kind = true) : dep nodes i = (nodes.getD i.toNat default).ins := by
  unfold dep depsOf; rw [if_pos h]
theorem StI.start (nodes : List Nd) (base : List Int) (h : base.length = nodes.length) : StI nodes base [] base := ⟨h, fun _ _ _ => rfl, fun y hy => by cases hy⟩
theorem StI.step {nodes : List Nd} {base P out L : List Int} (hw : Wf nodes) (hL : Lvl nodes L) (h : StI nodes base P out) {x : Int} (h0 : 0 ≤ x) (hx : x < (nodes.length : Int))
    (hP : ∀ y ∈ P, 0 ≤ y ∧ y < (nodes.length : Int) ∧ y ≠ x ∧ lat L y ≤ lat L x) : StI nodes base (P ++ [x]) (stl nodes out x) := by
  unfold stl
  by_cases hc : cmb (nodes.getD x.toNat default).kind = true
  · rw [if_pos hc]
    have hset : ∀ y : Int, 0 ≤ y → y ≠ x → lat (out.set x.toNat (gateV nodes out x)) y = lat out y := fun y hy hyx => by
      rw [lat_set _ hy, if_neg (fun e => hyx (by omega))]
    have hx2 : lat (out.set x.toNat (gateV nodes out x)) x = gateV nodes out x := by
      rw [lat_set _ h0, if_pos ⟨by omega, by rw [h.len]; omega⟩]
    have hself : ∀ z ∈ (nodes.getD x.toNat default).ins, lat (out.set x.toNat (gateV nodes out x)) z = lat out z := fun z hz => by
      have hz' : z ∈ dep nodes x := by rw [dep_ins hc]; exact hz
      have := hw.dep (i := x) (by omega) hz'
      exact hset z this.1 fun e => by have := hL.lt h0 (by omega) hz'; rw [e] at this; omega
    refine ⟨by rw [List.length_set]; exact h.len, fun i hi hn => ?_, fun y hy hyc => ?_⟩
    · rw [hset i (by omega) (fun e => by rw [← e] at hc; rw [Int.toNat_natCast] at hc; rw [hc] at hn; cases hn)]
      exact h.off i hi hn
    · rcases List.mem_append.1 hy with hy | hy
      · obtain ⟨p0, p1, p2, p3⟩ := hP y hy
        rw [hset y p0 p2, h.on y hy hyc]
        refine gateV_congr fun z hz => ?_
        have hz' : z ∈ dep nodes y := by rw [dep_ins hyc]; exact hz
        have q := hw.dep (i := y) (by omega) hz'
        exact (hset z q.1 fun e => by have := hL.lt p0 (by omega) hz'; rw [e] at this; omega).symm
      · obtain rfl : y = x := by simpa using hy
        rw [hx2]
        exact (gateV_congr hself).symm
  · rw [if_neg hc]
    refine ⟨h.len, h.off, fun y hy hyc => ?_⟩
    rcases List.mem_append.1 hy with hy | hy
    · exact h.on y hy hyc
    · obtain rfl : y = x := by simpa using hy
      exact absurd hyc hc
theorem StI.stop {nodes : List Nd} {base P out : List Int} (h : StI nodes base P out) (hP : ∀ i : Nat, i < nodes.length → (i : Int) ∈ P) : Net nodes base out :=
  ⟨h.len, fun i hi => by
    by_cases hc : cmb (nodes.getD i default).kind = true
    · rw [if_pos hc]
      exact h.on i (hP i hi) (by rw [Int.toNat_natCast]; exact hc)
    · rw [if_neg hc]
      exact h.off i hi (by simpa using hc)⟩
theorem Net.same {nodes : List Nd} {base base' out out' L : List Int} (hw : Wf nodes) (hL : Lvl nodes L) (h : Net nodes base out) (h' : Net nodes base' out') (hb : ∀ i : Nat, i < nodes.length → cmb (nodes.getD i default).kind = false → lat base i = lat base' i) : out = out' := by
  have key : ∀ (m : Nat) (i : Nat), i < nodes.length → lat L i < (m : Int) → lat out i = lat out' i := by
    intro m
    induction m with
    | zero => intro i hi hlt; have := hL.nonneg hi; omega
    | succ m ih =>
      intro i hi hlt
      rw [h.2 i hi, h'.2 i hi]
      by_cases hc : cmb (nodes.getD i default).kind = true
      · rw [if_pos hc, if_pos hc]
        refine gateV_congr fun z hz => ?_
        have hz' : z ∈ dep nodes i := by rw [dep_ins (by rw [Int.toNat_natCast]; exact hc)]; exact hz
        have q := hw.dep (i := (i : Int)) (by omega) hz'
        have hl := hL.lt (i := (i : Int)) (by omega) (by omega) hz'
        obtain ⟨k, rfl⟩ := Int.eq_ofNat_of_zero_le q.1
        exact ih k (by omega) (by omega)
      · rw [if_neg hc, if_neg hc]
        exact hb i hi (by simpa using hc)
  refine ext_lat (h.1.trans h'.1.symm) fun i hi => ?_
  have hi' : i < nodes.length := by rw [← h.1]; exact hi
  exact key ((lat L i).toNat + 1) i hi' (by have := hL.nonneg hi'; omega)
theorem order_before {L R : List Int} {n : Nat} (h : SortTo L n n R) {k : Nat} (hk : k < n) : 0 ≤ lat R k ∧ lat R k < (n : Int) ∧ ∀ y ∈ R.take k, 0 ≤ y ∧ y < (n : Int) ∧ y ≠ lat R k ∧ lat L y ≤ lat L (lat R k) := by
  obtain ⟨S, h1, h2, h3, h4, h5⟩ := h
  have hR : R = S := by rw [h1]; simp [rng]
  subst hR
  have hk' : k < R.length := by omega
  have e : lat R k = R[k] := by unfold lat; rw [Int.toNat_natCast, List.getD_eq_getElem?_getD, List.getElem?_eq_getElem hk']; rfl
  rw [e]
  refine ⟨(h5 _ (List.getElem_mem hk')).1, (h5 _ (List.getElem_mem hk')).2, fun y hy => ?_⟩
  have hm := h5 y (List.mem_of_mem_take hy)
  obtain ⟨j, hj, ej⟩ := List.mem_iff_getElem.1 hy
  rw [List.length_take] at hj
  rw [List.getElem_take] at ej
  have hjk : j < k := by omega
  have := List.pairwise_iff_getElem.1 h4 j k (by omega) hk' hjk
  rw [ej] at this
  refine ⟨hm.1, hm.2, fun e2 => ?_, ?_⟩
  · rw [e2] at this; exact Lex.irr _ this
  · rcases this with h | h <;> omega
end Go.Proofs.YtkaedfgmhfefjaaGreatDoor

namespace Go.Proofs.YtkaedfgmhfefjaaGreatDoor.Lg
def LeL (l m : List Int) : Prop := l.length = m.length ∧ ∀ j, j < l.length → blw (l.getD j 0) (m.getD j 0) = true
end Go.Proofs.YtkaedfgmhfefjaaGreatDoor.Lg

namespace Go.Proofs.YtkaedfgmhfefjaaGreatDoor
theorem cln_cln (a : Int) : cln (cln a) = cln a := by unfold cln; split <;> simp_all
def asg (out l vs : List Int) : List Int := (l.zip vs).foldl (fun o p => o.set p.1.toNat p.2) out
theorem asg_len (out l vs : List Int) : (asg out l vs).length = out.length := by
  unfold asg
  induction l.zip vs generalizing out with
  | nil => rfl
  | cons p t ih => rw [List.foldl_cons, ih, List.length_set]
def baseV (n : Nat) (ins sts pin pst : List Int) : List Int := asg (asg (List.replicate n 0) ins pin) sts pst
theorem baseV_len (n : Nat) (ins sts pin pst : List Int) : (baseV n ins sts pin pst).length = n := by simp [baseV, asg_len]
end Go.Proofs.YtkaedfgmhfefjaaGreatDoor

namespace Go.Proofs.YtkaedfgmhfefjaaGreatDoor
open Go.RowKit
def VRow (w : World) (g : Nat) (l : List Int) : Prop := w.ownsRow g 77 1 (.slice (some ⟨g, 0, none⟩) l.length l.length) l.length (l.map (Value.int .u8))
section
variable {w w' : World} {g : Nat} {l : List Int}
theorem VRow.cell (h : VRow w g l) {j : Nat} (hj : j < l.length) : w.cell? ⟨g, j, none⟩ = some (.int .u8 (lat l j)) := by
  have := World.ownsRow.cellAt h j (by omega)
  rw [this, List.getElem?_map, List.getElem?_eq_getElem hj]
  simp [lat, List.getD_eq_getElem?_getD, List.getElem?_eq_getElem hj]
theorem VRow.frozen (h : VRow w g l) (j : Nat) : w.frozen? ⟨g, j, none⟩ = false := World.ownsRow.frozenAt h j
theorem VRow.set (h : VRow w g l) (j : Nat) (x : Int) : VRow (w.setCell ⟨g, j, none⟩ (.int .u8 x)) g (l.set j x) := by
  have := (World.ownsRow.stored h j (.int .u8 x)).1
  unfold VRow
  rw [List.length_set, List.map_set]
  exact this
theorem VRow.lt (h : VRow w g l) : g < w.heap.size := (World.ownsRow.lt h g rfl).2
theorem VRow.len (h : VRow w g l) : l.length ≤ maxLen := by
  rcases h.2 with ⟨e, -⟩ | ⟨g', cap, cur, e, hb', hg', hle, hmx, hs', ht'⟩
  · cases e
  · simp only [Value.slice.injEq] at e; omega
theorem VRow.kept {row : Option Nat} (h : VRow w g l) (hg : w.grownBy w' row) (hne : some g ≠ row) : VRow w' g l := World.ownsRow.kept h hg (.inr hne)
theorem VRow.below (h : VRow w g l) (hb : Below w.heap.size w w') : VRow w' g l :=
  h.kept (row := none) ⟨hb.os, hb.tape, hb.output, hb.size, fun i hi _ => hb.block i hi⟩ (by simp)
theorem VRow.ks (h : VRow w g l) : Ks w w.heap.size (.slice (some ⟨g, 0, none⟩) l.length l.length) l :=
  ⟨_, g, 0, _, rfl, fun _ => rfl, Nat.le_refl _, h.len, fun k hk => ⟨h.lt, by
    have := h.cell hk
    unfold lat at this
    rw [Int.toNat_natCast] at this
    show w.cell? ⟨g, 0 + k * 1, none⟩ = _
    rw [Nat.zero_add, Nat.mul_one]; exact this⟩⟩
theorem VRow.of {B n : Nat} (h : w.ownsRow B 77 1 (.slice (some ⟨g, 0, none⟩) n n) n (l.map (Value.int .u8))) (hl : l.length = n) : VRow w g l := by
  subst hl
  unfold VRow
  refine ⟨h.1, ?_⟩
  rcases h.2 with ⟨e, -⟩ | ⟨g', cap, cur, e, hb', hg', hle, hmx, hs', ht'⟩
  · cases e
  · simp only [Value.slice.injEq, Option.some.injEq, Addr.mk.injEq] at e
    obtain ⟨⟨rfl, -⟩, -, rfl⟩ := e
    exact .inr ⟨g, _, cur, rfl, Nat.le_refl _, hg', hle, hmx, hs', ht'⟩
end
theorem info_val : (Tryz.prog.info? 77).map (fun i => (i.zero, i.size, i.bytes)) = some (some (.int .u8 0), 1, 1) := by kernel_rfl
theorem ret_v {a b : Int} (h : a = b) : Ending.returned (.int .u8 a) = .returned (.int .u8 b) := by rw [h]
def valA (l : List Int) (x : Int) : Int := if x < 0 ∨ (l.length : Int) ≤ x then 2 else cln (lat l x)
theorem Ks.vs {w : World} {B : Nat} {v : Value} {l : List Int} (h : Ks w B v l) : Lg.Vs w B v l := by
  obtain ⟨A, b, o, c, rfl, hA, hle, hm, hc⟩ := h.opens
  by_cases h0 : 0 < l.length
  · obtain rfl := hA h0
    exact ⟨b, o, c, .inl rfl, hm, hc⟩
  · obtain rfl : l = [] := List.eq_nil_of_length_eq_zero (by omega)
    exact ⟨b, o, c, .inr ⟨rfl, A, rfl⟩, hm, hc⟩
def Nv (w : World) (q : Nat) (l : List Int) : Prop := ∃ A c, w.cell? ⟨q, 0, none⟩ = some (.slice A l.length c) ∧ Ks w w.heap.size (.slice A l.length c) l
theorem Nv.below {w w' : World} {q : Nat} {l : List Int} (h : Nv w q l) (hb : Below w.heap.size w w') : Nv w' q l := by
  obtain ⟨A, c, h1, h2⟩ := h
  exact ⟨A, c, (hb.cell (p := ⟨q, 0, none⟩) (cell_lt h1)).trans h1, Arr.keep stays_u8 h2 hb.size fun _ hp => hb.cell hp⟩
set_option maxHeartbeats 1000000 in
theorem val1_any (l : List Int) (x : Int) (q : Nat) (w : World) (hq : Nv w q l) :
    Calls Tryz.prog 110 #[.int .i64 x, .pointer (some ⟨q, 0, none⟩)] w fun e w' => e = .returned (.int .u8 (valA l x)) ∧ w = w' := by
  obtain ⟨y, HY⟩ := named (valA l x)
  rw [← HY.out]
  obtain ⟨A, c, h1, h2⟩ := hq
  obtain ⟨A', b, o, c', e, hA, hle, hm, hc⟩ := h2.opens
  simp only [Value.slice.injEq, true_and] at e
  obtain ⟨rfl, rfl⟩ := e
  have HA := Lib.hid hA
  have HC := Lib.hid hc
  unfold maxLen at hm
  clear hA hc h2
  obtain ⟨n, HN⟩ := named l.length
  rw [← HN.out] at h1 hm HA HC hle
  have HCL := Lib.hid (fun w => Lg.clean_any (lat l x) w)
  obtain ⟨z, HZ⟩ := named (lat l x)
  obtain ⟨cz, HCZ⟩ := named (cln (lat l x))
  rw [← HCZ.out, ← HZ.out] at HCL
  have HYD : Hid (y = if x < 0 ∨ (n : Int) ≤ x then 2 else cz) := Lib.hid (by rw [HY.out, HN.out, HCZ.out]; rfl)
  by_cases h0 : x < 0
  · have hy : y = 2 := by rw [HYD.out]; exact if_pos (.inl h0)
    have HYF := Lib.hid hy
    clear hy
    go_enter Tryz.func110, Tryz.ntmps110
    go_wp2
    go_ret
    exact ⟨ret_v HYF.out.symm, rfl⟩
  by_cases hn : (n : Int) ≤ x
  · have hy : y = 2 := by rw [HYD.out]; exact if_pos (.inr hn)
    have HYF := Lib.hid hy
    clear hy
    go_enter Tryz.func110, Tryz.ntmps110
    go_wp2
    go_ret
    exact ⟨ret_v HYF.out.symm, rfl⟩
  have hy : y = cz := by rw [HYD.out]; exact if_neg (by omega)
  have HYF := Lib.hid hy
  obtain ⟨k, rfl⟩ := Int.eq_ofNat_of_zero_le (show 0 ≤ x by omega)
  have hk : k < n := by omega
  obtain rfl := HA.out (by omega)
  have hcell := (HC.out k hk).2
  have HZ2 : Hid (l.getD k 0 = z) := Lib.hid (by rw [HZ.out]; unfold lat; rw [Int.toNat_natCast])
  rw [HZ2.out] at hcell
  clear hy
  go_enter Tryz.func110, Tryz.ntmps110
  go_wp2_with (go_at_call 94; (with_reducible refine (HCL.out _).mono ?_); rintro e w' ⟨rfl, rfl⟩)
  go_ret
  exact ⟨ret_v HYF.out.symm, rfl⟩
end Go.Proofs.YtkaedfgmhfefjaaGreatDoor

namespace Go.Proofs.YtkaedfgmhfefjaaGreatDoor
open Go.RowKit
def ValsPost (l : List Int) (w : World) (e : Ending) (w' : World) : Prop :=
  ∃ g, e = .returned (.slice (some ⟨g, 0, none⟩) l.length l.length) ∧ VRow w' g l ∧ w.heap.size ≤ g ∧ Below w.heap.size w w'
theorem fillL_vals (f : Int → Int) (z : Value) (l : List Int) : fillL (fun j => .int .u8 (f (lat l j))) z l.length l.length = (l.map f).map (Value.int .u8) := by
  apply List.ext_getElem?
  intro j
  by_cases hj : j < l.length
  · rw [fillL_get _ _ _ _ _ hj, if_pos hj]; simp [hj, lat, List.getD_eq_getElem?_getD]
  · rw [List.getElem?_eq_none (by simp [fillL_len]; omega), List.getElem?_eq_none (by simp; omega)]
set_option maxRecDepth 100000 in
set_option maxHeartbeats 4000000 in
theorem values_any (nets l : List Int) (A0 A1 A2 A3 : Option Addr) (n0 n1 n2 n3 c0 c1 c2 c3 : Nat) (s : Value) (q : Nat) (w : World) (B : Nat) (hB : B ≤ w.heap.size) (hq : Nv w q nets) (hs : Is w B s l) (hsz : l.length ≤ 17592186044416) :
    Calls Tryz.prog 72 #[.agg #[.slice A0 n0 c0, .slice A1 n1 c1, .slice A2 n2 c2, .slice A3 n3 c3, .func (.func 110) #[] #[.pointer (some ⟨q, 0, none⟩)]], s] w (ValsPost (l.map (valA nets)) w) := by
  obtain ⟨A, b, o, c, rfl, hA, hle, hm, hc⟩ := hs.opens
  have HA := Lib.hid hA
  have HC := Lib.hid hc
  clear hA hc hs hm hle
  obtain ⟨m, HM⟩ := named l.length
  rw [← HM.out] at HA HC hsz
  rw [← HM.out]
  obtain ⟨W1, HW1⟩ := named (w.alloc (.cells #[.slice A0 n0 c0, .slice A1 n1 c1, .slice A2 n2 c2, .slice A3 n3 c3, .func (.func 110) #[] #[.pointer (some ⟨q, 0, none⟩)]] 121))
  have hb1 : Below w.heap.size w W1 := by rw [HW1.out]; exact below_new (Below.refl _ _) _
  have hfx : W1.cell? ⟨w.heap.size, 4, none⟩ = some (.func (.func 110) #[] #[.pointer (some ⟨q, 0, none⟩)]) := by rw [HW1.out, World.cell?_alloc_at _ _ _ _ rfl]; rfl
  have hz1 : w.heap.size < W1.heap.size := by rw [HW1.out]; simp
  have HFX : Hid (∀ W, Below W1.heap.size W1 W → W.cell? ⟨w.heap.size, 4, none⟩ = some (.func (.func 110) #[] #[.pointer (some ⟨q, 0, none⟩)])) := Lib.hid fun W hb => (hb.cell (p := ⟨w.heap.size, 4, none⟩) hz1).trans hfx
  have HQ : Hid (∀ W, Below W1.heap.size W1 W → ∀ x, Calls Tryz.prog 110 #[.int .i64 x, .pointer (some ⟨q, 0, none⟩)] W fun e w' => e = .returned (.int .u8 (valA nets x)) ∧ W = w') :=
    Lib.hid fun W hb x => val1_any nets x q W (hq.below (joinB hb1 hb))
  have HB1 := Lib.hid hb1
  have hBz : B < W1.heap.size := by omega
  clear hq hb1 hfx
  obtain ⟨i0, hi, hz0, hz1', hz2⟩ := info_parts info_val
  have HI := Lib.hid (And.intro hi (And.intro hz0 (And.intro hz1' hz2)))
  clear hi hz0 hz1' hz2
  go_enter Tryz.func72, Tryz.ntmps72
  go_upto_region 1 with (fail)
  rw [← HW1.out]
  go_wp2_with (at_make; refine wpList_make_full _ rfl _ _ 41 rfl W1.heap.size 77 i0 (.int .u8 0) 1 Tryz.underlying41 HI.out.1 HI.out.2.1 HI.out.2.2.1 .i64 .i64 _ _ m rfl rfl rfl rfl ?b2 ?b3 ?b4 ?_)
  case b2 => rw [HI.out.2.2.2]; omega
  case b3 => unfold maxLen; omega
  case b4 => exact Nat.le_refl _
  intro w2 hown hgr
  rw [fillL_start (fun j => .int .u8 (valA nets (lat l j)))] at hown
  have hb2 : Below W1.heap.size W1 w2 := (Below.refl _ _).grown hgr (Nat.le_refl _) (fun k h => by cases h)
  have HO := Lib.hid hown
  have HB2 := Lib.hid hb2
  obtain ⟨g, HG⟩ := named W1.heap.size
  rw [← HG.out] at HO
  have hgz : W1.heap.size ≤ g := by rw [HG.out]; exact Nat.le_refl _
  have hgz2 : w.heap.size < g := by rw [HG.out]; exact hz1
  rw [← HG.out]
  clear hown hgr hb2
  go_wp2
  go_loopw [13] (fun i wr => ∃ k : Nat, k ≤ m ∧ i = .int .i64 k ∧ Below W1.heap.size W1 wr ∧ wr.ownsRow g 77 1 (.slice (some ⟨g, 0, none⟩) m m) m (fillL (fun j => .int .u8 (valA nets (lat l j))) (.int .u8 0) m k)) (fun i _ => m - (intOf i).toNat)
  case atStart => exact ⟨0, Nat.zero_le _, rfl, HB2.out, HO.out⟩
  case round =>
    clear HO HB2
    obtain ⟨k, hk, rfl, hb, hown⟩ := hrel
    have HBL := Lib.hid hb
    have HO := Lib.hid hown
    have hbx := HFX.out _ hb
    clear hb hown
    by_cases hlt : k < m
    · obtain rfl := HA.out (by omega)
      obtain ⟨hlb, hx⟩ := HC.out k hlt
      have hx2 : wr.cell? ⟨b, o + k, none⟩ = some (.int .i64 (l.getD k 0)) := ((joinB HB1.out HBL.out).cell (p := ⟨b, o + k, none⟩) (by show b < w.heap.size; omega)).trans hx
      have hfz : wr.frozen? ⟨g, k, none⟩ = false := HO.out.frozenAt k
      have hcl : wr.cell? ⟨g, k, none⟩ = some (.int .u8 0) := by
        rw [HO.out.cellAt k (by omega), fillL_get _ _ _ _ _ hlt, if_neg (by omega)]
      obtain ⟨x, HX⟩ := named (l.getD k 0)
      rw [← HX.out] at hx2
      have HLX : Hid (lat l (k : Int) = x) := Lib.hid (by rw [HX.out]; unfold lat; rw [Int.toNat_natCast])
      obtain ⟨u, HU⟩ := named (valA nets x)
      have HCL := Lib.hid (HQ.out wr HBL.out x)
      rw [← HU.out] at HCL
      have HS := Lib.hid (HO.out.stored k (.int .u8 u)).1
      clear hx
      go_wp2_with (go_at_call 110; (with_reducible refine HCL.out.mono ?_); rintro e w' ⟨rfl, rfl⟩)
      go_roundw
      case rel =>
        refine ⟨k + 1, by omega, by go_num, HBL.out.setCell hgz _, ?_⟩
        have h := HS.out
        rw [HU.out, ← HLX.out] at h
        rw [HU.out, ← HLX.out, ← fillL_set (fun j => .int .u8 (valA nets (lat l j))) (.int .u8 0) m k]
        exact h
      case measure => simp [intOf]; omega
    · obtain rfl : m = k := by omega
      go_wp2
      go_ret
      have h := HO.out
      rw [HM.out, fillL_vals] at h
      refine ⟨g, congrArg (fun n => Ending.returned (.slice (some ⟨g, 0, none⟩) n n)) (by rw [List.length_map]; exact HM.out), VRow.of (n := l.length) h (by rw [List.length_map]), Nat.le_of_lt hgz2, joinB HB1.out HBL.out⟩
def dataV (nets l : List Int) : Int := if l.length = 1 then rd (valA nets (l.getD 0 0)) else 2
set_option maxRecDepth 100000 in
set_option maxHeartbeats 4000000 in
theorem data_any (c : Ck) (nets : List Int) (A0 A1 A2 A3 : Option Addr) (n1 n2 n3 c0 c1 c2 c3 : Nat) (i q : Nat) (w : World) (B : Nat) (hB : B ≤ w.heap.size) (hq : Nv w q nets) (hc : Ns w B (.slice A0 c.nodes.length c0) c.nodes) (hi : i < c.nodes.length) :
    Calls Tryz.prog 120 #[.agg #[.slice A0 c.nodes.length c0, .slice A1 n1 c1, .slice A2 n2 c2, .slice A3 n3 c3, .func (.func 110) #[] #[.pointer (some ⟨q, 0, none⟩)]], .int .i64 (i : Int)] w
      fun e w' => e = .returned (.int .u8 (dataV nets (c.nodes.getD i default).ins)) ∧ Below w.heap.size w w' := by
  obtain ⟨y, HY⟩ := named (dataV nets (c.nodes.getD i default).ins)
  rw [← HY.out]
  obtain ⟨A, b, o, c', e, hA, hle, hm, hcell⟩ := hc
  simp only [Value.slice.injEq, true_and] at e
  obtain ⟨rfl, rfl⟩ := e
  obtain ⟨hlb, s, e0, e1, -, -, h4, -, -⟩ := hcell i hi
  obtain rfl := hA (by omega)
  obtain ⟨A4, b4, o4, c4, rfl, hA4, hle4, hm4, hc4⟩ := h4.opens
  obtain ⟨n, HN⟩ := named c.nodes.length
  rw [← HN.out] at hi hm
  rw [← HN.out]
  unfold maxLen at hm hm4
  obtain ⟨l, HL⟩ := named (c.nodes.getD i default).ins
  rw [← HL.out] at e1 h4 hA4 hc4 hm4 HY
  obtain ⟨W1, HW1⟩ := named (w.alloc (.cells #[.slice (some ⟨b, o, none⟩) n c0, .slice A1 n1 c1, .slice A2 n2 c2, .slice A3 n3 c3, .func (.func 110) #[] #[.pointer (some ⟨q, 0, none⟩)]] 121))
  have hb1 : Below w.heap.size w W1 := by rw [HW1.out]; exact below_new (Below.refl _ _) _
  have x0 : W1.cell? ⟨w.heap.size, 0, none⟩ = some (.slice (some ⟨b, o, none⟩) n c0) := by rw [HW1.out, World.cell?_alloc_at _ _ _ _ rfl]; rfl
  have x4 : W1.cell? ⟨w.heap.size, 4, none⟩ = some (.func (.func 110) #[] #[.pointer (some ⟨q, 0, none⟩)]) := by rw [HW1.out, World.cell?_alloc_at _ _ _ _ rfl]; rfl
  have f1 : W1.cell? ⟨b, o + i * 4 + 1, none⟩ = some (.slice A4 l.length c4) := (hb1.cell (p := ⟨b, _, none⟩) (by show b < w.heap.size; omega)).trans e1
  have HQ : Hid (∀ W, Below W1.heap.size W1 W → ∀ x, Calls Tryz.prog 110 #[.int .i64 x, .pointer (some ⟨q, 0, none⟩)] W fun e w' => e = .returned (.int .u8 (valA nets x)) ∧ W = w') :=
    Lib.hid fun W hb x => val1_any nets x q W (hq.below (joinB hb1 hb))
  have hz1 : w.heap.size < W1.heap.size := by rw [HW1.out]; simp
  have HB1 := Lib.hid hb1
  have HA4 := Lib.hid hA4
  have HC4 := Lib.hid hc4
  clear hA hcell e0 e1 h4 hA4 hc4 hle4 hq hle
  have HF1 := Lib.hid f1
  have HX0 := Lib.hid x0
  have HX4 := Lib.hid x4
  by_cases h1 : l.length = 1
  · obtain rfl := HA4.out (by omega)
    obtain ⟨hlb4, hx⟩ := HC4.out 0 (by omega)
    rw [Nat.add_zero] at hx
    have g0 : ∀ xx : Beh W1, xx.x.cell? ⟨b4, o4, none⟩ = some (.int .i64 (l.getD 0 0)) := fun xx => ((joinB HB1.out xx.below).cell (p := ⟨b4, o4, none⟩) (by show b4 < w.heap.size; omega)).trans hx
    have g4 : ∀ xx : Beh W1, xx.x.cell? ⟨w.heap.size, 4, none⟩ = some (.func (.func 110) #[] #[.pointer (some ⟨q, 0, none⟩)]) := fun xx => (xx.below.cell (p := ⟨w.heap.size, 4, none⟩) hz1).trans HX4.out
    have hy : y = rd (valA nets (l.getD 0 0)) := by rw [HY.out]; unfold dataV; rw [if_pos h1]
    rw [h1] at f1
    have H1 := Lib.hid h1
    obtain ⟨x, HX⟩ := named (l.getD 0 0)
    rw [← HX.out] at g0 hy
    obtain ⟨u, HU⟩ := named (valA nets x)
    rw [← HU.out] at hy
    have HYF := Lib.hid hy
    have HV : Hid (∀ xx : Beh W1, Calls Tryz.prog 110 #[.int .i64 x, .pointer (some ⟨q, 0, none⟩)] xx.x fun e w' => e = .returned (.int .u8 u) ∧ xx.x = w') := Lib.hid fun xx => by have := HQ.out xx.x xx.below x; rw [← HU.out] at this; exact this
    have HR : Hid (∀ xx : Beh W1, Calls Tryz.prog 112 #[.int .u8 u] xx.x fun e w' => e = .returned (.int .u8 y) ∧ xx.x = w') := Lib.hid fun xx => by rw [HYF.out]; exact Lg.read_any u xx.x
    clear hx hy h1
    go_enter Tryz.func120, Tryz.ntmps120
    go_upto_region 1 with (fail)
    rw [← HW1.out]
    go_upto_region 4 with (fail)
    refine region_class (w0 := W1) (Below.refl _ _) (by kernel_rfl) (by kernel_rfl) ?_
    repeat (first
      | go_big_quiet_skip
      | (go_big_quiet_want; go_big_quiet_op; first
        | go_big_quiet_on
        | (apply Exists.intro
           refine ⟨fun xx => ?_, ?_⟩
           focus first
            | (go_at_call 110; with_reducible exact beh_same (HV.out xx))
            | (go_at_call 112; with_reducible exact beh_same (HR.out xx))
           go_big_quiet_on)))
    refine wpQuiet_nil ?_
    rintro w9 ⟨⟨wz, hz⟩, rfl⟩
    go_wp2
    go_ret
    exact ⟨rfl, joinB HB1.out hz⟩
  · have hy : y = 2 := by rw [HY.out]; unfold dataV; exact if_neg h1
    obtain ⟨m, HM⟩ := named l.length
    rw [← HM.out] at h1 f1 hm4
    have t1 : ((m : Int) != 1) = true := by rw [bne_iff_ne]; omega
    have HYF := Lib.hid hy
    clear hy
    go_enter Tryz.func120, Tryz.ntmps120
    go_upto_region 1 with (fail)
    rw [← HW1.out]
    go_wp2
    go_ret
    exact ⟨ret_v HYF.out.symm, HB1.out⟩
end Go.Proofs.YtkaedfgmhfefjaaGreatDoor

namespace Go.Proofs.YtkaedfgmhfefjaaGreatDoor
open Go.RowKit
def rdC (w : World) (b o m : Nat) : List Value := (List.range m).map fun j => (w.cell? ⟨b, o + j, none⟩).getD undef
def Fr (w : World) (g : Nat) (t : TypeId) (cs : List Value) : Prop := w.heap[g]? = some (.cells cs.toArray t (0, 0))
theorem Fr.lt {w : World} {g : Nat} {t : TypeId} {cs : List Value} (h : Fr w g t cs) : g < w.heap.size := (Array.getElem?_eq_some_iff.1 h).1
theorem Fr.cell {w : World} {g : Nat} {t : TypeId} {cs : List Value} (h : Fr w g t cs) (j : Nat) : w.cell? ⟨g, j, none⟩ = cs[j]? := by
  unfold Fr at h; simp [World.cell?, h]
theorem Fr.frozen {w : World} {g : Nat} {t : TypeId} {cs : List Value} (h : Fr w g t cs) (j : Nat) : w.frozen? ⟨g, j, none⟩ = false := by
  unfold Fr at h; simp [World.frozen?, h]
theorem Fr.set {w : World} {g : Nat} {t : TypeId} {cs : List Value} (h : Fr w g t cs) (j : Nat) (v : Value) : Fr (w.setCell ⟨g, j, none⟩ v) g t (cs.set j v) := by
  unfold Fr at *
  rw [setCell_eq_setRow w g j cs.toArray t (0, 0) v h]
  rw [setRow_heap w g cs.toArray _ t _ h]
  simp
theorem Fr.kept {w w' : World} {g : Nat} {t : TypeId} {cs : List Value} {row : Option Nat} (h : Fr w g t cs) (hg : w.grownBy w' row) (hne : some g ≠ row) : Fr w' g t cs := (hg.block g h.lt hne).trans h
theorem Fr.below {w w' : World} {g : Nat} {t : TypeId} {cs : List Value} (h : Fr w g t cs) (hb : Below w.heap.size w w') : Fr w' g t cs := (hb.block g h.lt).trans h
theorem info_str : (Tryz.prog.info? 9).map (fun i => (i.zero, i.size, i.bytes)) = some (some (.string ⟨#[]⟩), 1, 16) := by kernel_rfl
end Go.Proofs.YtkaedfgmhfefjaaGreatDoor

namespace Go.Proofs.YtkaedfgmhfefjaaGreatDoor
open Go.RowKit
def ndF (l : List Nd) (h : Nat → Nat) (orig : Nat → Value) (m : Nat) (j : Nat) : Value :=
  if j % 4 = 0 then .int .u8 (l.getD (j / 4) default).kind
  else if j % 4 = 1 then (if j / 4 < m then .slice (some ⟨h (j / 4), 0, none⟩) (l.getD (j / 4) default).ins.length (l.getD (j / 4) default).ins.length else orig (j / 4))
  else if j % 4 = 2 then .int .i64 (l.getD (j / 4) default).mem else .int .i64 (l.getD (j / 4) default).bit
def ndC (l : List Nd) (h : Nat → Nat) (orig : Nat → Value) (m : Nat) : List Value := (List.range (l.length * 4)).map (ndF l h orig m)
def mmF (l : List Mm) (ha hd : Nat → Nat) (oa od : Nat → Value) (m : Nat) (j : Nat) : Value :=
  if j % 3 = 0 then (if j / 3 < m then .slice (some ⟨ha (j / 3), 0, none⟩) (l.getD (j / 3) default).addr.length (l.getD (j / 3) default).addr.length else oa (j / 3))
  else if j % 3 = 1 then (if j / 3 < m then .slice (some ⟨hd (j / 3), 0, none⟩) (l.getD (j / 3) default).data.length (l.getD (j / 3) default).data.length else od (j / 3))
  else .int .i64 (l.getD (j / 3) default).write
def mmC (l : List Mm) (ha hd : Nat → Nat) (oa od : Nat → Value) (m : Nat) : List Value := (List.range (l.length * 3)).map (mmF l ha hd oa od m)
structure OwnC (x : Ck) (G g0 g1 g2 g3 : Nat) (h ha hd : Nat → Nat) (w : World) : Prop where
  low : G ≤ g0 ∧ g0 < g1 ∧ g1 < g2 ∧ g2 < g3
  f0 : Fr w g0 65 (ndC x.nodes h (fun _ => undef) x.nodes.length)
  f1 : Fr w g1 9 (x.names.map Value.string)
  f2 : Fr w g2 67 (mmC x.mems ha hd (fun _ => undef) (fun _ => undef) x.mems.length)
  f3 : Row w g3 x.outs
  rn : ∀ k, k < x.nodes.length → g3 < h k ∧ Row w (h k) (x.nodes.getD k default).ins
  rm : ∀ k, k < x.mems.length → g3 < ha k ∧ Row w (ha k) (x.mems.getD k default).addr ∧ g3 < hd k ∧ Row w (hd k) (x.mems.getD k default).data
  nn : ∀ i j, i < j → j < x.nodes.length → h i < h j
  nm : ∀ i j, i < x.nodes.length → j < x.mems.length → h i < ha j
  mm : ∀ i, i < x.mems.length → ha i < hd i
  ml : ∀ i j, i < j → j < x.mems.length → hd i < ha j
end Go.Proofs.YtkaedfgmhfefjaaGreatDoor

namespace Go.Proofs.YtkaedfgmhfefjaaGreatDoor
open Go.RowKit
theorem Fr.alloc {w : World} {g : Nat} {t : TypeId} {cs : List Value} (h : Fr w g t cs) (o : Obj) : Fr (w.alloc o) g t cs := h.below ((Below.refl _ _).alloc (Nat.le_refl _) o)
theorem Fr.drew {w : World} {g : Nat} {t : TypeId} {cs : List Value} (h : Fr w g t cs) : Fr w.drew g t cs := h
theorem Fr.other {w : World} {g : Nat} {t : TypeId} {cs : List Value} (h : Fr w g t cs) {a : Addr} (ha : a.block ≠ g) (v : Value) : Fr (w.setCell a v) g t cs :=
  h.kept (row := some a.block) ⟨rfl, rfl, rfl, by simp [World.setCell], fun i _ hne => Below.heap_setCell _ _ _ _ (fun e => hne (by rw [e]))⟩ (fun e => ha (by injection e with e; exact e.symm))
def BelW (w w' : World) : Prop := Below w.heap.size w w'
theorem BelW.next {w w1 w2 : World} (h : BelW w w1) (hb : Below w1.heap.size w1 w2) : BelW w w2 := joinB h hb
theorem BelW.trans {w w1 w2 : World} (h : BelW w w1) (hb : BelW w1 w2) : BelW w w2 := joinB h hb
theorem BelW.alloc {w w1 : World} (h : BelW w w1) (o : Obj) : BelW w (w1.alloc o) := below_new h o
theorem BelW.drew {w w1 : World} (h : BelW w w1) : BelW w w1.drew := Below.drew h
theorem BelW.set {w w1 : World} (h : BelW w w1) {a : Addr} (ha : w.heap.size ≤ a.block) (v : Value) : BelW w (w1.setCell a v) := Below.setCell h ha v
structure Cp1 (n0 n1 n2 n3 : Nat) (w : World) (b0 o0 b1 o1 b2 o2 b3 o3 : Nat) (D g0 g1 g2 g3 : Nat) (wx : World) : Prop where
  bel : BelW w wx
  low : w.heap.size + 1 < g0 ∧ g0 < g1 ∧ g1 < g2 ∧ g2 < g3 ∧ w.heap.size + 1 < D ∧ D ≠ g0 ∧ D ≠ g1 ∧ D ≠ g2 ∧ D ≠ g3
  f0 : Fr wx g0 65 (rdC w b0 o0 (n0 * 4))
  f1 : Fr wx g1 9 (rdC w b1 o1 (n1 * 1))
  f2 : Fr wx g2 67 (rdC w b2 o2 (n2 * 3))
  f3 : Fr wx g3 3 (rdC w b3 o3 (n3 * 1))
  fd : Fr wx D 39 [.slice (some ⟨g0, 0, none⟩) n0 n0, .slice (some ⟨g1, 0, none⟩) n1 n1, .slice (some ⟨g2, 0, none⟩) n2 n2, .slice (some ⟨g3, 0, none⟩) n3 n3]
  fr : Fr wx (w.heap.size + 1) 39 [.slice none 0 0, .slice none 0 0, .slice none 0 0, .slice none 0 0]
theorem BelW.set4 {w w1 : World} {D : Nat} (h : BelW w w1) (hD : w.heap.size ≤ D) (a b c d : Value) :
    BelW w ((((w1.setCell ⟨D, 0, none⟩ a).setCell ⟨D, 1, none⟩ b).setCell ⟨D, 2, none⟩ c).setCell ⟨D, 3, none⟩ d) := (((h.set hD a).set hD b).set hD c).set hD d
theorem Fr.set4 {w : World} {D : Nat} {t : TypeId} {x y z u : Value} (h : Fr w D t [x, y, z, u]) (a b c d : Value) :
    Fr ((((w.setCell ⟨D, 0, none⟩ a).setCell ⟨D, 1, none⟩ b).setCell ⟨D, 2, none⟩ c).setCell ⟨D, 3, none⟩ d) D t [a, b, c, d] := (((h.set 0 a).set 1 b).set 2 c).set 3 d
theorem Fr.made (w : World) (cs : List Value) (t : TypeId) {g : Nat} (hg : g = w.heap.size) : Fr (w.alloc (.cells cs.toArray t)) g t cs := by
  subst hg; unfold Fr; exact heap_alloc_new _ _
structure SzOk (c : Ck) : Prop where
  n : c.nodes.length ≤ 1000000
  s : c.names.length ≤ 1000000
  m : c.mems.length ≤ 1000000
  o : c.outs.length ≤ 1000000
  i : ∀ k, k < c.nodes.length → (c.nodes.getD k default).ins.length ≤ 17592186044416
  a : ∀ k, k < c.mems.length → (c.mems.getD k default).addr.length ≤ 17592186044416
  d : ∀ k, k < c.mems.length → (c.mems.getD k default).data.length ≤ 17592186044416
structure Nd1 (c : Ck) (w : World) (D g0 g1 g2 g3 n0 n1 n2 n3 T : Nat) (sN sA sD : Nat → Value) (k : Nat) (h : Nat → Nat) (wr : World) : Prop where
  bel : BelW w wr
  top : T ≤ wr.heap.size
  f0 : Fr wr g0 65 (ndC c.nodes h sN k)
  f1 : Fr wr g1 9 (c.names.map Value.string)
  f2 : Fr wr g2 67 (mmC c.mems (fun _ => 0) (fun _ => 0) sA sD 0)
  f3 : Fr wr g3 3 (c.outs.map (Value.int .i64))
  fd : Fr wr D 39 [.slice (some ⟨g0, 0, none⟩) n0 n0, .slice (some ⟨g1, 0, none⟩) n1 n1, .slice (some ⟨g2, 0, none⟩) n2 n2, .slice (some ⟨g3, 0, none⟩) n3 n3]
  fr : Fr wr (w.heap.size + 1) 39 [.slice none 0 0, .slice none 0 0, .slice none 0 0, .slice none 0 0]
  rows : ∀ j, j < k → T ≤ h j ∧ Row wr (h j) (c.nodes.getD j default).ins
  inc : ∀ i j, i < j → j < k → h i < h j
structure Nd2 (c : Ck) (w : World) (D g0 g1 g2 g3 n0 n1 n2 n3 T : Nat) (sN sA sD : Nat → Value) (h : Nat → Nat) (k : Nat) (ha hd : Nat → Nat) (wr : World) : Prop where
  bel : BelW w wr
  top : T ≤ wr.heap.size
  f0 : Fr wr g0 65 (ndC c.nodes h sN c.nodes.length)
  f1 : Fr wr g1 9 (c.names.map Value.string)
  f2 : Fr wr g2 67 (mmC c.mems ha hd sA sD k)
  f3 : Fr wr g3 3 (c.outs.map (Value.int .i64))
  fd : Fr wr D 39 [.slice (some ⟨g0, 0, none⟩) n0 n0, .slice (some ⟨g1, 0, none⟩) n1 n1, .slice (some ⟨g2, 0, none⟩) n2 n2, .slice (some ⟨g3, 0, none⟩) n3 n3]
  fr : Fr wr (w.heap.size + 1) 39 [.slice none 0 0, .slice none 0 0, .slice none 0 0, .slice none 0 0]
  rows : ∀ j, j < c.nodes.length → T ≤ h j ∧ Row wr (h j) (c.nodes.getD j default).ins
  inc : ∀ i j, i < j → j < c.nodes.length → h i < h j
  mrows : ∀ j, j < k → T ≤ ha j ∧ Row wr (ha j) (c.mems.getD j default).addr ∧ ha j < hd j ∧ Row wr (hd j) (c.mems.getD j default).data
  nm : ∀ i j, i < c.nodes.length → j < k → h i < ha j
  ml : ∀ i j, i < j → j < k → hd i < ha j
end Go.Proofs.YtkaedfgmhfefjaaGreatDoor
