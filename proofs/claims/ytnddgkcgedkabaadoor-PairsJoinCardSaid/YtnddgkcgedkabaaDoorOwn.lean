/- Rows of the call's own: several side by side, values and pairs; an append as one step of a region that draws its order. -/
import Derived.Test.YtnddgkcgedkabaaDoorPlv
import Derived.Maps.AppendAt
import Derived.OwnWalk
namespace Go.Proofs.YtnddgkcgedkabaaDoor
open Go.RowKit

/-- What was there is as it was; the call's own blocks begin at g. -/
structure Own (g : Nat) (w w' : World) : Prop where
  below : Below g w w'
  size : g ≤ w'.heap.size
theorem Own.drew {g : Nat} {w w' : World} (h : Own g w w') : Own g w w'.drew := ⟨h.below.drew, h.size⟩
theorem Own.alloc {g : Nat} {w w' : World} (h : Own g w w') (o : Obj) : Own g w (w'.alloc o) := ⟨h.below.alloc h.size o, by have := h.size; simp; omega⟩
theorem Own.grown {g : Nat} {w w' w'' : World} {row : Option Nat} (h : Own g w w') (hg : w'.grownBy w'' row) (hr : ∀ q, row = some q → g ≤ q) : Own g w w'' :=
  ⟨h.below.grown hg h.size hr, Nat.le_trans h.size hg.size⟩
theorem Own.next {g : Nat} {w w' w'' : World} (h : Own g w w') (hb : Below w'.heap.size w' w'') : Own g w w'' := ⟨h.below.trans (hb.mono h.size), Nat.le_trans h.size hb.size⟩

theorem own_from {w : World} {base : Nat} {e : TypeId} {size n : Nat} {v : Value} {xs : List Value} (h : w.ownsRow base e size v n xs) {q : Nat} (hq : v.ownBlock = some q) : base ≤ q := by
  rcases h.2 with ⟨rfl, -⟩ | ⟨g, cap, cur, rfl, hb, -⟩
  · cases hq
  · obtain rfl : g = q := by simpa [Value.ownBlock] using hq
    exact hb
theorem own_lt {w : World} {base : Nat} {e : TypeId} {size n : Nat} {v : Value} {xs : List Value} (h : w.ownsRow base e size v n xs) {q : Nat} (hq : v.ownBlock = some q) : q < w.heap.size := by
  rcases h.2 with ⟨rfl, -⟩ | ⟨g, cap, cur, rfl, hb, hg, -⟩
  · cases hq
  · obtain rfl : g = q := by simpa [Value.ownBlock] using hq
    rcases Nat.lt_or_ge g w.heap.size with h | h
    · exact h
    · rw [Array.getElem?_eq_none h] at hg; cases hg

/-- Two slices that share no block. -/
def Apart (x y : Value) : Prop := x.ownBlock = none ∨ x.ownBlock ≠ y.ownBlock
theorem Apart.symm {x y : Value} (h : Apart x y) : Apart y x := by
  rcases h with h | h
  · rcases hy : y.ownBlock with _ | q
    · exact .inl hy
    · exact .inr (by rw [h, hy]; simp)
  · exact .inr h.symm
theorem Apart.nil (x : Value) (n c : Nat) : Apart (.slice none n c) x := .inl rfl
/-- A row beside one that has grown. -/
theorem Apart.grown {w : World} {base : Nat} {e : TypeId} {size n : Nat} {x y y' : Value} {xs : List Value} {m : Nat} (h : Apart x y) (hx : w.ownsRow base e size x n xs) (hm : w.heap.size ≤ m) (hat : y'.ownBlock = y.ownBlock ∨ y'.ownBlock = some m) : Apart x y' := by
  rcases hat with hat | hat
  · unfold Apart; rw [hat]; exact h
  · rcases hxb : x.ownBlock with _ | q
    · exact .inl hxb
    · have := own_lt hx hxb
      exact .inr (by rw [hxb, hat]; simp; omega)

theorem one_new (w : World) (u : Value) (t : TypeId) : ∀ (j : Nat) (v : Value), [u][j]? = some v → (w.alloc (.cells #[u] t)).cell? ((⟨w.heap.size, 0, none⟩ : Addr).add j) = some v := by
  intro j v h
  match j, h with
  | 0, h =>
    obtain rfl : u = v := by simpa using h
    rw [show (⟨w.heap.size, 0, none⟩ : Addr).add 0 = ⟨w.heap.size, 0, none⟩ from rfl, World.cell?_alloc_at _ _ _ _ rfl]
    rfl
theorem two_new (w : World) (u u' : Value) (t : TypeId) : ∀ (j : Nat) (v : Value), [u, u'][j]? = some v → (w.alloc (.cells #[u, u'] t)).cell? ((⟨w.heap.size, 0, none⟩ : Addr).add j) = some v := by
  intro j v h
  match j, h with
  | 0, h =>
    obtain rfl : u = v := by simpa using h
    rw [show (⟨w.heap.size, 0, none⟩ : Addr).add 0 = ⟨w.heap.size, 0, none⟩ from rfl, World.cell?_alloc_at _ _ _ _ rfl]
    rfl
  | 1, h =>
    obtain rfl : u' = v := by simpa using h
    rw [show (⟨w.heap.size, 0, none⟩ : Addr).add 1 = ⟨w.heap.size, 1, none⟩ from rfl, World.cell?_alloc_at _ _ _ _ rfl]
    rfl

theorem info_pair : (Tryd.prog.info? 28).map (fun i => (i.zero, i.size, i.bytes)) = some (some (.agg #[.int .u8 0, .int .u8 0]), 2, 2) := by kernel_rfl

/-- The cells of a list of pairs. -/
def flat2 (l : List (Int × Int)) : List Value := l.flatMap fun p => [.int .u8 p.1, .int .u8 p.2]
theorem flat2_snoc (l : List (Int × Int)) (p : Int × Int) : flat2 (l ++ [p]) = flat2 l ++ [.int .u8 p.1, .int .u8 p.2] := by simp [flat2]
theorem flat2_len (l : List (Int × Int)) : (flat2 l).length = l.length * 2 := by
  induction l with
  | nil => rfl
  | cons p l ih => simp only [flat2, List.flatMap_cons, List.length_append, List.length_cons, List.length_nil] at ih ⊢; omega
theorem flat2_get (l : List (Int × Int)) (k : Nat) (h : k < l.length) : (flat2 l)[k * 2]? = some (.int .u8 (l.getD k (0, 0)).1) ∧ (flat2 l)[k * 2 + 1]? = some (.int .u8 (l.getD k (0, 0)).2) := by
  induction l generalizing k with
  | nil => simp at h
  | cons p l ih =>
    match k with
    | 0 => exact ⟨rfl, rfl⟩
    | k + 1 =>
      have := ih k (by simpa using h)
      rw [show (k + 1) * 2 = k * 2 + 1 + 1 by omega]
      exact this
theorem Pl.of_own {w : World} {base : Nat} {v : Value} {n : Nat} {l : List (Int × Int)} (h : w.ownsRow base 28 2 v n (flat2 l)) : Pl w w.heap.size v l ∧ l.length = n := by
  have hl : l.length = n := by have := h.1; rw [flat2_len] at this; omega
  refine ⟨?_, hl⟩
  subst hl
  rcases h.2 with ⟨rfl, hn⟩ | ⟨g, cap, cur, rfl, -, hg, hle, hm, hsz, htake⟩
  · obtain rfl : l = [] := List.eq_nil_of_length_eq_zero hn
    exact Pl.nil _ _ _ _
  · have hlt : g < w.heap.size := own_lt h (by rfl)
    refine ⟨g, 0, cap, .inl rfl, by omega, fun k hk => ⟨hlt, ?_, ?_⟩⟩
    · rw [Nat.zero_add, h.cellAt (k * 2) (by omega)]; exact (flat2_get l k hk).1
    · rw [Nat.zero_add, h.cellAt (k * 2 + 1) (by omega)]; exact (flat2_get l k hk).2

theorem take_snoc2 (l : List (Int × Int)) (k : Nat) (h : k < l.length) : l.take (k + 1) = l.take k ++ [l.getD k (0, 0)] := by
  rw [List.take_succ_eq_append_getElem h, List.getD_eq_getElem?_getD, List.getElem?_eq_getElem h]; rfl

/-- append as one step of a region that draws its order, onto a row of the call's own. -/
theorem step_own_at {P : Program} {ops : Array Oper} {o : Oper} {a : Act} {w : World} {K : Act → World → Prop} {Q : Exit → Act → World → Prop} {E : Prop} (hgd : o.guard = none) (s x : Operand) (t : TypeId)
    (ho : o.op = .call { callee := .builtin .append, args := #[s, x], argTypes := #[t, t] })
    (base : Nat) (e : TypeId) (i : TypeInfo) (z : Value) (size bytes : Nat) (ht : P.underlying t = some (.slice e)) (hi : P.info? e = some i) (hz : i.zero = some z) (hsize : i.size = size) (hby : i.bytes = bytes) (hzs : z.cells.size = size) (hsz : 0 < size) (hbs : bytes ≤ 100)
    (v : Value) (n : Nat) (xs : List Value) (hs : a.eval s = v) (hown : w.ownsRow base e size v n xs) (ad : Addr) (m c : Nat) (news : List Value) (hx : a.eval x = .slice (some ad) m c)
    (hl : news.length = m * size) (hnews : ∀ j u, news[j]? = some u → w.cell? (ad.add j) = some u) (h1 : ∀ u ∈ news, u.oneCell' = true) (hnm : n + m ≤ 1000) (hbase : base ≤ w.heap.size)
    (h : ∀ v' w', w'.ownsRow base e size v' (n + m) (xs ++ news) → w.grownBy w' v.ownBlock → (v'.ownBlock = v.ownBlock ∨ v'.ownBlock = some w.heap.size) → K (a.put o.dst v') w') :
    if Region.wanted o (yielded ops a.tmps) = true then Oper.wp P o a w K Q else E := by
  have hw : Region.wanted o (yielded ops a.tmps) = true := by simp [Region.wanted, hgd]
  rw [if_pos hw]
  obtain ⟨v', w', hr, h2, h3, -, h5⟩ := run_append_own_at (P := P) w base t o.type e i z size bytes ht hi hz hsize hby hzs hsz v n xs hown ad m c news hl hnews h1 (by unfold maxLen; omega) (Nat.le_trans (Nat.mul_le_mul hnm hbs) (by decide)) hbase
  unfold Oper.wp execOp
  simp only [ho, resolve, invoke, builtin, Sem.run_bind, Sem.run_pure, Result.andThen_ok, List.map_toArray, List.map_cons, List.map_nil, hs, hx, hr]
  exact h v' w' h2 h3 h5

end Go.Proofs.YtnddgkcgedkabaaDoor
