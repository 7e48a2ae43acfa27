/- The walk of the law on controlling values, for the kinds that have one. -/
import Derived.Test.YtfcdhoaccmckoaaGreatDoorSli
import Derived.Test.YtfcdhoaccmckoaaGreatDoorLgRef2
import Derived.Deep.RegionHeld3
import Derived.Deep.DeepCutAuto
namespace Go.Proofs.YtfcdhoaccmckoaaGreatDoor.Lg
open Go.RowKit

/-- A world in which what was there in w is as it was. -/
structure Beh (w : World) where
  x : World
  below : Below w.heap.size w x
instance behNonempty (w : World) : Nonempty (Beh w) := ⟨⟨w, Below.refl _ _⟩⟩

theorem region_class {P : Program} {id : Nat} {Q : Exit → Act → World → Prop} {a : Act} {w0 w : World} {l : List Oper} (hb : Below w0.heap.size w0 w) (hm : P.follows .mixedOrders = true) (hB : Region.lexB .any l.toArray = true)
    (h : wpQuiet P l.toArray (fun w' => ∃ x : Beh w0, w' = x.x) (fun a' => ∀ w', (∃ x : Beh w0, w' = x.x) → Q .normal a' w') l a) : (Code.region id l.toArray true).wp P Q a w :=
  wp_region_quiet (C := fun w' => ∃ x : Beh w0, w' = x.x) hm hB ⟨⟨w.drew, hb.drew⟩, rfl⟩ (by simpa using h)

theorem beh_of {P : Program} {f : FuncId} {args : Array Value} {w0 w1 : World} {v : Value} (h : Calls P f args w1 fun e w' => e = .returned v ∧ Below w0.heap.size w0 w') :
    Calls P f args w1 fun e w' => e = .returned v ∧ ∃ y : Beh w0, w' = y.x := h.mono fun _ w' ⟨he, hb⟩ => ⟨he, ⟨w', hb⟩, rfl⟩
theorem beh_same {P : Program} {f : FuncId} {args : Array Value} {w0 : World} {x : Beh w0} {v : Value} (h : Calls P f args x.x fun e w' => e = .returned v ∧ x.x = w') :
    Calls P f args x.x fun e w' => e = .returned v ∧ ∃ y : Beh w0, w' = y.x := h.mono fun _ _ ⟨he, hw⟩ => ⟨he, x, hw.symm⟩

theorem own_form {w : World} {base : Nat} {e : TypeId} {size n : Nat} {v : Value} {xs : List Value} (h : w.ownsRow base e size v n xs) (hn : 0 < n) : ∃ g cap, v = .slice (some ⟨g, 0, none⟩) n cap ∧ base ≤ g ∧ g < w.heap.size ∧ n ≤ cap := by
  rcases h.2 with ⟨-, h0⟩ | ⟨g, cap, cur, hv, hb, hg, hle, -⟩
  · omega
  · refine ⟨g, cap, hv, hb, ?_, hle⟩
    rcases Nat.lt_or_ge g w.heap.size with h | h
    · exact h
    · rw [Array.getElem?_eq_none h] at hg; cases hg
theorem join {w0 w1 w2 : World} (hb : Below w0.heap.size w0 w1) (hp : Below w1.heap.size w1 w2) : Below w0.heap.size w0 w2 := hb.trans (hp.mono hb.size)
end Go.Proofs.YtfcdhoaccmckoaaGreatDoor.Lg

namespace Go.Proofs.YtfcdhoaccmckoaaGreatDoor.Lg
open Go.RowKit

/-- append as one step of a region that draws its order, onto a row of the call's own. -/
theorem step_own {P : Program} {ops : Array Oper} {o : Oper} {a : Act} {w : World} {K : Act → World → Prop} {Q : Exit → Act → World → Prop} {E : Prop} (hgd : o.guard = none) (s x : Operand) (t : TypeId)
    (ho : o.op = .call { callee := .builtin .append, args := #[s, x], argTypes := #[t, t] })
    (base : Nat) (e : TypeId) (i : TypeInfo) (z : Value) (ht : P.underlying t = some (.slice e)) (hi : P.info? e = some i) (hz : i.zero = some z) (hsize : i.size = 1) (hby : i.bytes = 1) (hzs : z.cells.size = 1)
    (v : Value) (n : Nat) (xs : List Value) (hs : a.eval s = v) (hown : w.ownsRow base e 1 v n xs) (ad : Addr) (m c : Nat) (news : List Value) (hx : a.eval x = .slice (some ad) m c)
    (hl : news.length = m) (hnews : ∀ j u, news[j]? = some u → w.cell? (ad.add j) = some u) (h1 : ∀ u ∈ news, u.oneCell' = true) (hnm : n + m ≤ 1000) (hbase : base ≤ w.heap.size)
    (h : ∀ v' w', w'.ownsRow base e 1 v' (n + m) (xs ++ news) → w.grownBy w' v.ownBlock → K (a.put o.dst v') w') :
    if Region.wanted o (yielded ops a.tmps) = true then Oper.wp P o a w K Q else E := by
  have hw : Region.wanted o (yielded ops a.tmps) = true := by simp [Region.wanted, hgd]
  rw [if_pos hw]
  exact wp_append_own w s x t ho base e i z 1 1 ht hi hz hsize hby hzs (by decide) v n xs hs hown ad m c news hx (by rw [hl, Nat.mul_one]) hnews h1 (by unfold maxLen; omega) (by omega) hbase fun v' w' h2 h3 _ => h v' w' h2 h3

theorem ctl_none_ways (q : Int) (h : isc q = false) : ctl q = 2 ∧ (q == 5) = false ∧ (q == 6) = false ∧ (q == 7) = false ∧ (q == 8) = false ∧
    (((q == 4) = true ∧ inv q = true) ∨ ((q == 4) = false ∧ (q == 10) = true ∧ inv q = true) ∨ ((q == 4) = false ∧ (q == 10) = false ∧ inv q = false)) := by
  have h' : ¬ (q = 5 ∨ q = 6 ∨ q = 7 ∨ q = 8) := of_decide_eq_false h
  refine ⟨by unfold ctl; rw [if_neg (by omega), if_neg (by omega)], by simp; omega, by simp; omega, by simp; omega, by simp; omega, ?_⟩
  by_cases h4 : q = 4
  · subst h4; exact .inl (by decide)
  by_cases h10 : q = 10
  · subst h10; exact .inr (.inl (by decide))
  exact .inr (.inr ⟨by simpa using h4, by simpa using h10, decide_eq_false (by omega)⟩)

/-- The inputs with the controlling value put in at place k. -/
def putL (l : List Int) (k : Nat) (v : Int) : List Int := l.take k ++ [v] ++ l.drop k
theorem put_len (l : List Int) (k : Nat) (v : Int) (h : k ≤ l.length) : (putL l k v).length = l.length + 1 := by
  simp [putL]; omega
theorem put_any (g : Int → Int) (l : List Int) (k : Nat) (v : Int) : anyIs g (g v) (putL l k v) = true := by
  simp [anyIs, putL, List.any_append]
theorem rep_none (x y : Int) (h : rd y ≠ x) : ∀ m, anyIs rd x (List.replicate m y) = false
  | 0 => rfl
  | m + 1 => by rw [List.replicate_succ]; simp only [anyIs, List.any_cons]; rw [show (rd y == x) = false by simpa using h, Bool.false_or]; exact rep_none x y h m
theorem eval_in {q : Int} {l : List Int} (h : ¬ ((l.length : Int) < lo q ∨ hi q < l.length)) : evalL q l = funL q l := by unfold evalL; rw [if_neg h]
theorem ev5 (l : List Int) (k : Nat) (h : k ≤ l.length) (h1 : 1 ≤ l.length) (h2 : l.length ≤ 15) : evalL 5 (putL l k 0) = 0 := by
  rw [eval_in (by rw [put_len l k 0 h, show lo 5 = 2 by decide, show hi 5 = 16 by decide]; omega)]
  show andL _ = 0
  rw [andL, if_pos (show anyIs rd 0 (putL l k 0) = true from put_any rd l k 0)]
theorem ev6 (l : List Int) (k : Nat) (h : k ≤ l.length) (h1 : 1 ≤ l.length) (h2 : l.length ≤ 15) : evalL 6 (putL l k 0) = 1 := by
  rw [eval_in (by rw [put_len l k 0 h, show lo 6 = 2 by decide, show hi 6 = 16 by decide]; omega)]
  show nt (andL _) = 1
  rw [andL, if_pos (show anyIs rd 0 (putL l k 0) = true from put_any rd l k 0)]
  decide
theorem ev7 (l : List Int) (k : Nat) (h : k ≤ l.length) (h1 : 1 ≤ l.length) (h2 : l.length ≤ 15) : evalL 7 (putL l k 1) = 1 := by
  rw [eval_in (by rw [put_len l k 1 h, show lo 7 = 2 by decide, show hi 7 = 16 by decide]; omega)]
  show orL _ = 1
  rw [orL, if_pos (show anyIs rd 1 (putL l k 1) = true from put_any rd l k 1)]
theorem ev8 (l : List Int) (k : Nat) (h : k ≤ l.length) (h1 : 1 ≤ l.length) (h2 : l.length ≤ 15) : evalL 8 (putL l k 1) = 0 := by
  rw [eval_in (by rw [put_len l k 1 h, show lo 8 = 2 by decide, show hi 8 = 16 by decide]; omega)]
  show nt (orL _) = 0
  rw [orL, if_pos (show anyIs rd 1 (putL l k 1) = true from put_any rd l k 1)]
  decide
theorem and_rep (m : Nat) : andL (List.replicate m 1) = 1 := by simp [andL, rep_none 0 1 (by decide) m, rep_none 2 1 (by decide) m]
theorem or_rep (m : Nat) : orL (List.replicate m 0) = 0 := by simp [orL, rep_none 1 0 (by decide) m, rep_none 2 0 (by decide) m]
theorem ev5' (m : Nat) (h1 : 1 ≤ m) (h2 : m ≤ 15) : evalL 5 (List.replicate (m + 1) 1) = 1 := by
  rw [eval_in (by rw [List.length_replicate, show lo 5 = 2 by decide, show hi 5 = 16 by decide]; omega)]
  exact and_rep _
theorem ev6' (m : Nat) (h1 : 1 ≤ m) (h2 : m ≤ 15) : evalL 6 (List.replicate (m + 1) 1) = 0 := by
  rw [eval_in (by rw [List.length_replicate, show lo 6 = 2 by decide, show hi 6 = 16 by decide]; omega)]
  show nt (andL _) = 0
  rw [and_rep]; decide
theorem ev7' (m : Nat) (h1 : 1 ≤ m) (h2 : m ≤ 15) : evalL 7 (List.replicate (m + 1) 0) = 0 := by
  rw [eval_in (by rw [List.length_replicate, show lo 7 = 2 by decide, show hi 7 = 16 by decide]; omega)]
  exact or_rep _
theorem ev8' (m : Nat) (h1 : 1 ≤ m) (h2 : m ≤ 15) : evalL 8 (List.replicate (m + 1) 0) = 1 := by
  rw [eval_in (by rw [List.length_replicate, show lo 8 = 2 by decide, show hi 8 = 16 by decide]; omega)]
  show nt (orL _) = 1
  rw [or_rep]; decide

end Go.Proofs.YtfcdhoaccmckoaaGreatDoor.Lg

namespace Go.Proofs.YtfcdhoaccmckoaaGreatDoor.Lg
open Go.RowKit

/-- What was there is as it was; the call's own blocks begin at g. -/
structure Own (g : Nat) (w w' : World) : Prop where
  below : Below g w w'
  size : g ≤ w'.heap.size
theorem Own.drew {g : Nat} {w w' : World} (h : Own g w w') : Own g w w'.drew := ⟨h.below.drew, h.size⟩
theorem Own.alloc {g : Nat} {w w' : World} (h : Own g w w') (o : Obj) : Own g w (w'.alloc o) := ⟨h.below.alloc h.size o, by have := h.size; simp; omega⟩
theorem Own.grown {g : Nat} {w w' w'' : World} {row : Option Nat} (h : Own g w w') (hg : w'.grownBy w'' row) (hr : ∀ q, row = some q → g ≤ q) : Own g w w'' :=
  ⟨h.below.grown hg h.size hr, Nat.le_trans h.size hg.size⟩

theorem one_cells (l : List Int) : ∀ u ∈ l.map (Value.int .u8), u.oneCell' = true := by
  intro u hu
  obtain ⟨x, -, rfl⟩ := List.mem_map.1 hu
  rfl
theorem add_flat (b o j : Nat) : (⟨b, o, none⟩ : Addr).add j = ⟨b, o + j, none⟩ := WideShapes.add_plain b o j
section
variable {w w' : World} {g b o n k : Nat} {l : List Int} (hc : ∀ k, k < n → b < w.heap.size ∧ w.cell? ⟨b, o + k, none⟩ = some (.int .u8 (l.getD k 0))) (hb : Below g w w') (hg : g = w.heap.size)
include hc hb hg
theorem news_take (hn : l.length ≤ n) (j : Nat) (u : Value) (hu : ((l.take k).map (Value.int .u8))[j]? = some u) : w'.cell? ((⟨b, o, none⟩ : Addr).add j) = some u := by
  rw [List.getElem?_map, List.getElem?_take] at hu
  split at hu
  · obtain ⟨x, hx, rfl⟩ := Option.map_eq_some_iff.1 hu
    have hj : j < l.length := by
      rcases Nat.lt_or_ge j l.length with h | h
      · exact h
      · rw [List.getElem?_eq_none h] at hx; cases hx
    have h := hc j (by omega)
    rw [add_flat, hb.cell (p := ⟨b, o + j, none⟩) (by rw [hg]; exact h.1), h.2, List.getD_eq_getElem?_getD, hx]
    rfl
  · cases hu
theorem news_drop (hn : l.length ≤ n) (j : Nat) (u : Value) (hu : ((l.drop k).map (Value.int .u8))[j]? = some u) : w'.cell? ((⟨b, o + k, none⟩ : Addr).add j) = some u := by
  rw [List.getElem?_map, List.getElem?_drop] at hu
  obtain ⟨x, hx, rfl⟩ := Option.map_eq_some_iff.1 hu
  have hj : k + j < l.length := by
    rcases Nat.lt_or_ge (k + j) l.length with h | h
    · exact h
    · rw [List.getElem?_eq_none h] at hx; cases hx
  have h := hc (k + j) (by omega)
  rw [add_flat, Nat.add_assoc, hb.cell (p := ⟨b, o + (k + j), none⟩) (by rw [hg]; exact h.1), h.2, List.getD_eq_getElem?_getD, hx]
  rfl
end
theorem one_kept' {w wA w' : World} {u : Value} {t : TypeId} {r : Option Nat} (hg : wA.grownBy w' r) (hh : wA.heap = (w.alloc (.cells #[u] t)).heap) (hr : r = none) : ∀ (j : Nat) (v : Value), [u][j]? = some v → w'.cell? ((⟨w.heap.size, 0, none⟩ : Addr).add j) = some v := fun j v h => by
  subst hr
  have e : ((⟨w.heap.size, 0, none⟩ : Addr).add j) = ⟨w.heap.size, j, none⟩ := by rw [add_flat, Nat.zero_add]
  rw [World.cell?_of_block (w := w.alloc (.cells #[u] t)) (by rw [e, ← hh]; exact hg.block w.heap.size (by rw [hh]; simp) (by simp))]
  exact one_new w u t j v h

end Go.Proofs.YtfcdhoaccmckoaaGreatDoor.Lg
