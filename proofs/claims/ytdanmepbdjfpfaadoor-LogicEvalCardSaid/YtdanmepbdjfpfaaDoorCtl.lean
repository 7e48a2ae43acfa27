/- The walk of the law on controlling values. -/
import Derived.Test.YtdanmepbdjfpfaaDoorMonow
import Derived.Deep.RegionHeld3
import Derived.Deep.DeepCutAuto
namespace Go.Proofs.YtdanmepbdjfpfaaDoor
open Go.RowKit

/-- append as one step of a region that draws its order, onto a row of the call's own. -/
theorem step_own {P : Program} {ops : Array Oper} {o : Oper} {a : Act} {w : World} {K : Act → World → Prop} {Q : Exit → Act → World → Prop} {E : Prop} (hgd : o.guard = none) (s x : Operand) (t : TypeId)
    (ho : o.op = .call { callee := .builtin .append, args := #[s, x], argTypes := #[t, t] })
    (base : Nat) (e : TypeId) (i : TypeInfo) (z : Value) (ht : P.underlying t = some (.slice e)) (hi : P.info? e = some i) (hz : i.zero = some z) (hsize : i.size = 1) (hby : i.bytes = 1) (hzs : z.cells.size = 1)
    (v : Value) (n : Nat) (xs : List Value) (hs : a.eval s = v) (hown : w.ownsRow base e 1 v n xs) (ad : Addr) (m c : Nat) (news : List Value) (hx : a.eval x = .slice (some ad) m c)
    (hl : news.length = m) (hnews : ∀ j u, news[j]? = some u → w.cell? (ad.add j) = some u) (h1 : ∀ u ∈ news, u.oneCell' = true) (hnm : n + m ≤ 1000) (hbase : base ≤ w.heap.size)
    (h : ∀ v' w', w'.ownsRow base e 1 v' (n + m) (xs ++ news) → w.grownBy w' v.ownBlock → K (a.put o.dst v') w') :
    if Region.wanted o (yielded ops a.tmps) = true then Oper.wp P o a w K Q else E := by
  have hw : Region.wanted o (yielded ops a.tmps) = true := by simp [Region.wanted, hgd]
  rw [if_pos hw]
  exact wp_append_own w s x t ho base e i z 1 1 ht hi hz hsize hby hzs (by decide) v n xs hs hown ad m c news hx (by rw [hl, Nat.mul_one]) hnews h1 (by unfold maxLen; omega) (by omega) hbase fun v' w' h2 h3 _ => h v' w' h2 h3

set_option maxHeartbeats 400000 in
theorem ctl_long (q at_ : Int) (A : Option Addr) (n c : Nat) (w : World) (ht : Tabs w) (h : 15 < n ∨ (¬ 15 < n ∧ n < 1)) :
    Calls Tryd.prog 9 #[.int .u8 q, .slice A n c, .int .u8 at_] w fun e w' => e = .returned (.bool true) ∧ Below w.heap.size w w' := by
  have HT := Lib.hid ht
  clear ht
  have hb0 := Below.refl w.heap.size w
  rcases h with h | ⟨h, h'⟩
  all_goals
    go_enter Tryd.func9, Tryd.ntmps9
    go_wp2_with (go_at_call 11; (with_reducible refine (lives_at HT.out (by assumption)).mono ?_); rintro e w' ⟨rfl, hb⟩)
    go_ret
    exact ⟨rfl, by assumption⟩

theorem ctl_none_ways (q : Int) (h : isc q = false) : ctl q = 2 ∧ (q == 5) = false ∧ (q == 6) = false ∧ (q == 7) = false ∧ (q == 8) = false ∧
    (((q == 4) = true ∧ inv q = true) ∨ ((q == 4) = false ∧ (q == 10) = true ∧ inv q = true) ∨ ((q == 4) = false ∧ (q == 10) = false ∧ inv q = false)) := by
  have h' : ¬ (q = 5 ∨ q = 6 ∨ q = 7 ∨ q = 8) := of_decide_eq_false h
  refine ⟨by unfold ctl; rw [if_neg (by omega), if_neg (by omega)], by simp; omega, by simp; omega, by simp; omega, by simp; omega, ?_⟩
  by_cases h4 : q = 4
  · subst h4; exact .inl (by decide)
  by_cases h10 : q = 10
  · subst h10; exact .inr (.inl (by decide))
  exact .inr (.inr ⟨by simpa using h4, by simpa using h10, decide_eq_false (by omega)⟩)

set_option maxHeartbeats 1000000 in
theorem ctl_none (q at_ : Int) (A : Option Addr) (n c : Nat) (w : World) (ht : Tabs w) (h1 : ¬ 15 < n) (h2 : ¬ n < 1) (h : isc q = false) :
    Calls Tryd.prog 9 #[.int .u8 q, .slice A n c, .int .u8 at_] w fun e w' => e = .returned (.bool true) ∧ Below w.heap.size w w' := by
  have HT := Lib.hid ht
  clear ht
  have hb0 := Below.refl w.heap.size w
  obtain ⟨e1, e5, e6, e7, e8, h⟩ := ctl_none_ways q h
  rcases h with ⟨f1, f2⟩ | ⟨f1, f2, f3⟩ | ⟨f1, f2, f3⟩
  all_goals
    go_enter Tryd.func9, Tryd.ntmps9
    go_wp2_with (first
      | (go_at_call 29; (with_reducible refine (control_any _ _).mono ?_); rintro e w' ⟨rfl, rfl⟩)
      | (go_at_call 30; (with_reducible refine (inverts_any _ _).mono ?_); rintro e w' ⟨rfl, rfl⟩)
      | (go_at_call 11; (with_reducible refine (lives_at HT.out (by assumption)).mono ?_); rintro e w' ⟨rfl, hb⟩))
    go_ret
    exact ⟨rfl, by assumption⟩

/-- The inputs with the controlling value put in at place k. -/
def putL (l : List Int) (k : Nat) (v : Int) : List Int := l.take k ++ [v] ++ l.drop k
theorem put_len (l : List Int) (k : Nat) (v : Int) (h : k ≤ l.length) : (putL l k v).length = l.length + 1 := by
  simp [putL]; omega
theorem put_any (g : Int → Int) (l : List Int) (k : Nat) (v : Int) : anyIs g (g v) (putL l k v) = true := by
  simp [anyIs, putL, List.any_append]
theorem rep_none (x y : Int) (h : rd y ≠ x) : ∀ m, anyIs rd x (List.replicate m y) = false
  | 0 => rfl
  | m + 1 => by rw [List.replicate_succ]; simp only [anyIs, List.any_cons]; rw [show (rd y == x) = false by simpa using h, Bool.false_or]; exact rep_none x y h m
theorem eval_in {q : Int} {l : List Int} (h : ¬ ((l.length : Int) < lo q ∨ hi q < l.length)) : evalL q l = funL q l := by unfold evalL; rw [if_neg h]
theorem ev5 (l : List Int) (k : Nat) (h : k ≤ l.length) (h1 : 1 ≤ l.length) (h2 : l.length ≤ 15) : evalL 5 (putL l k 0) = 0 := by
  rw [eval_in (by rw [put_len l k 0 h, show lo 5 = 2 by decide, show hi 5 = 16 by decide]; omega)]
  show andL _ = 0
  rw [andL, if_pos (show anyIs rd 0 (putL l k 0) = true from put_any rd l k 0)]
theorem ev6 (l : List Int) (k : Nat) (h : k ≤ l.length) (h1 : 1 ≤ l.length) (h2 : l.length ≤ 15) : evalL 6 (putL l k 0) = 1 := by
  rw [eval_in (by rw [put_len l k 0 h, show lo 6 = 2 by decide, show hi 6 = 16 by decide]; omega)]
  show nt (andL _) = 1
  rw [andL, if_pos (show anyIs rd 0 (putL l k 0) = true from put_any rd l k 0)]
  decide
theorem ev7 (l : List Int) (k : Nat) (h : k ≤ l.length) (h1 : 1 ≤ l.length) (h2 : l.length ≤ 15) : evalL 7 (putL l k 1) = 1 := by
  rw [eval_in (by rw [put_len l k 1 h, show lo 7 = 2 by decide, show hi 7 = 16 by decide]; omega)]
  show orL _ = 1
  rw [orL, if_pos (show anyIs rd 1 (putL l k 1) = true from put_any rd l k 1)]
theorem ev8 (l : List Int) (k : Nat) (h : k ≤ l.length) (h1 : 1 ≤ l.length) (h2 : l.length ≤ 15) : evalL 8 (putL l k 1) = 0 := by
  rw [eval_in (by rw [put_len l k 1 h, show lo 8 = 2 by decide, show hi 8 = 16 by decide]; omega)]
  show nt (orL _) = 0
  rw [orL, if_pos (show anyIs rd 1 (putL l k 1) = true from put_any rd l k 1)]
  decide
theorem and_rep (m : Nat) : andL (List.replicate m 1) = 1 := by simp [andL, rep_none 0 1 (by decide) m, rep_none 2 1 (by decide) m]
theorem or_rep (m : Nat) : orL (List.replicate m 0) = 0 := by simp [orL, rep_none 1 0 (by decide) m, rep_none 2 0 (by decide) m]
theorem ev5' (m : Nat) (h1 : 1 ≤ m) (h2 : m ≤ 15) : evalL 5 (List.replicate (m + 1) 1) = 1 := by
  rw [eval_in (by rw [List.length_replicate, show lo 5 = 2 by decide, show hi 5 = 16 by decide]; omega)]
  exact and_rep _
theorem ev6' (m : Nat) (h1 : 1 ≤ m) (h2 : m ≤ 15) : evalL 6 (List.replicate (m + 1) 1) = 0 := by
  rw [eval_in (by rw [List.length_replicate, show lo 6 = 2 by decide, show hi 6 = 16 by decide]; omega)]
  show nt (andL _) = 0
  rw [and_rep]; decide
theorem ev7' (m : Nat) (h1 : 1 ≤ m) (h2 : m ≤ 15) : evalL 7 (List.replicate (m + 1) 0) = 0 := by
  rw [eval_in (by rw [List.length_replicate, show lo 7 = 2 by decide, show hi 7 = 16 by decide]; omega)]
  exact or_rep _
theorem ev8' (m : Nat) (h1 : 1 ≤ m) (h2 : m ≤ 15) : evalL 8 (List.replicate (m + 1) 0) = 1 := by
  rw [eval_in (by rw [List.length_replicate, show lo 8 = 2 by decide, show hi 8 = 16 by decide]; omega)]
  show nt (orL _) = 1
  rw [or_rep]; decide

end Go.Proofs.YtdanmepbdjfpfaaDoor
