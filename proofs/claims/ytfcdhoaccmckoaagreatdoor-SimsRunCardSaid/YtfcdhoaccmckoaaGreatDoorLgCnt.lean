/- The walk of the reference's counted. -/
import Derived.Test.YtfcdhoaccmckoaaGreatDoorLgRef2
import Derived.WalkKit
import Derived.Test.YtfcdhoaccmckoaaGreatDoorLgCtlw
import Derived.Lib.SmallJoins
import Derived.ChangeKeysEq
import Derived.Laws.StructEq
namespace Go.Proofs.YtfcdhoaccmckoaaGreatDoor.Lg

structure T3 where
  a : Nat
  b : Nat
  c : Nat
  deriving DecidableEq
def T3.zero : T3 := ⟨0, 0, 0⟩
def T3.sum (t : T3) : Nat := t.a + t.b + t.c
def cellsT (t : T3) : List Value := [.int .i64 t.a, .int .i64 t.b, .int .i64 t.c]
def flatT (S : List T3) : List Value := S.flatMap cellsT
def eqT (s t : T3) : Bool := ((s.a : Int) == (t.a : Int)) && (((s.b : Int) == (t.b : Int)) && ((s.c : Int) == (t.c : Int)))
theorem eqT_iff (s t : T3) : eqT s t = true ↔ s = t := by
  cases s; cases t
  simp [eqT]
  omega
def bump (t : T3) (x : Int) : T3 := if x = 0 then ⟨t.a + 1, t.b, t.c⟩ else if x = 1 then ⟨t.a, t.b + 1, t.c⟩ else ⟨t.a, t.b, t.c + 1⟩
def addT (M : List T3) (t : T3) : List T3 := if (M.any fun s => eqT s t) = true then M else M ++ [t]
def inS (s : T3) (all : List Int) (M : List T3) : List T3 := all.foldl (fun m x => addT m (bump s x)) M
def midS (S : List T3) (all : List Int) : List T3 := S.foldl (fun m s => inS s all m) []
def cS (l : List Int) (bus : Bool) : List T3 := l.foldl (fun S v => midS S (chc v bus)) [T3.zero]

theorem flatT_len (S : List T3) : (flatT S).length = S.length * 3 := by
  induction S with
  | nil => rfl
  | cons s S ih => simp only [flatT, List.flatMap_cons, List.length_append] at ih ⊢; rw [ih]; simp [cellsT]; omega
theorem flatT_snoc (S : List T3) (t : T3) : flatT (S ++ [t]) = flatT S ++ cellsT t := by simp [flatT, List.flatMap_append]
theorem flatT_get (S : List T3) (k : Nat) (h : k < S.length) : (flatT S)[k * 3]? = some (.int .i64 (S.getD k T3.zero).a) ∧ (flatT S)[k * 3 + 1]? = some (.int .i64 (S.getD k T3.zero).b) ∧ (flatT S)[k * 3 + 2]? = some (.int .i64 (S.getD k T3.zero).c) := by
  induction S generalizing k with
  | nil => simp at h
  | cons s S ih =>
    cases k with
    | zero => exact ⟨rfl, rfl, rfl⟩
    | succ k =>
      have h' : k < S.length := by simpa using h
      have e : flatT (s :: S) = cellsT s ++ flatT S := rfl
      have hl : (cellsT s).length = 3 := rfl
      obtain ⟨h1, h2, h3⟩ := ih k h'
      rw [e]
      refine ⟨?_, ?_, ?_⟩
      · rw [List.getElem?_append_right (by rw [hl]; omega), hl, show (k + 1) * 3 - 3 = k * 3 by omega, h1]; rfl
      · rw [List.getElem?_append_right (by rw [hl]; omega), hl, show (k + 1) * 3 + 1 - 3 = k * 3 + 1 by omega, h2]; rfl
      · rw [List.getElem?_append_right (by rw [hl]; omega), hl, show (k + 1) * 3 + 2 - 3 = k * 3 + 2 by omega, h3]; rfl

theorem fold_take {α β : Type} (f : β → α → β) (z : β) (d : α) (l : List α) (k : Nat) (h : k < l.length) : (l.take (k + 1)).foldl f z = f ((l.take k).foldl f z) (l.getD k d) := by
  rw [List.take_succ_eq_append_getElem h, List.foldl_append, List.getD_eq_getElem?_getD, List.getElem?_eq_getElem h]; rfl
theorem addT_len (M : List T3) (t : T3) : (addT M t).length ≤ M.length + 1 := by unfold addT; split <;> simp
theorem inS_len (s : T3) (all : List Int) (M : List T3) : (inS s all M).length ≤ M.length + all.length := by
  unfold inS
  induction all generalizing M with
  | nil => simp
  | cons x all ih => rw [List.foldl_cons]; have := ih (addT M (bump s x)); have := addT_len M (bump s x); simp; omega
theorem mid_len (S : List T3) (all : List Int) (M : List T3) : (S.foldl (fun m s => inS s all m) M).length ≤ M.length + S.length * all.length := by
  induction S generalizing M with
  | nil => simp
  | cons s S ih =>
    rw [List.foldl_cons]
    have h1 := ih (inS s all M)
    have h2 := inS_len s all M
    rw [List.length_cons, Nat.add_mul, Nat.one_mul]; omega
theorem chc_len (v : Int) (bus : Bool) : 1 ≤ (chc v bus).length ∧ (chc v bus).length ≤ 3 := by
  unfold chc; repeat' split
  all_goals simp
theorem cS_len (l : List Int) (bus : Bool) (S : List T3) : (l.foldl (fun S v => midS S (chc v bus)) S).length ≤ S.length * 3 ^ l.length := by
  induction l generalizing S with
  | nil => simp
  | cons v l ih =>
    rw [List.foldl_cons]
    refine Nat.le_trans (ih _) ?_
    have h1 := mid_len S (chc v bus) []
    have h2 := (chc_len v bus).2
    have h3 : (midS S (chc v bus)).length ≤ S.length * 3 := by
      unfold midS
      have : S.length * (chc v bus).length ≤ S.length * 3 := Nat.mul_le_mul_left _ h2
      simp only [List.length_nil, Nat.zero_add] at h1
      omega
    rw [List.length_cons, Nat.pow_succ, Nat.mul_comm (3 ^ l.length) 3, ← Nat.mul_assoc]
    exact Nat.mul_le_mul_right _ h3
/-- the sums of the triples of the first k inputs -/
theorem addT_mem (M : List T3) (t s : T3) : s ∈ addT M t ↔ s ∈ M ∨ s = t := by
  unfold addT
  split
  · next h =>
    obtain ⟨u, hu, he⟩ := List.any_eq_true.1 h
    have he := (eqT_iff u t).1 he
    subst he
    constructor
    · exact .inl
    · rintro (h | rfl)
      · exact h
      · exact hu
  · simp
theorem inS_mem (s : T3) (all : List Int) (M : List T3) (t : T3) : t ∈ inS s all M ↔ t ∈ M ∨ ∃ x ∈ all, t = bump s x := by
  unfold inS
  induction all generalizing M with
  | nil => simp
  | cons x all ih =>
    rw [List.foldl_cons, ih, addT_mem]
    simp only [List.mem_cons, exists_eq_or_imp]
    exact or_assoc
theorem mid_mem (S : List T3) (all : List Int) (M : List T3) (t : T3) : t ∈ S.foldl (fun m s => inS s all m) M ↔ t ∈ M ∨ ∃ s ∈ S, ∃ x ∈ all, t = bump s x := by
  induction S generalizing M with
  | nil => simp
  | cons s S ih =>
    rw [List.foldl_cons, ih, inS_mem]
    simp only [List.mem_cons, exists_eq_or_imp]
    exact or_assoc
theorem midS_mem (S : List T3) (all : List Int) (t : T3) : t ∈ midS S all ↔ ∃ s ∈ S, ∃ x ∈ all, t = bump s x := by
  unfold midS; rw [mid_mem]; simp
theorem bump_sum (t : T3) (x : Int) : (bump t x).sum = t.sum + 1 := by unfold bump T3.sum; split <;> (try split) <;> simp <;> omega

theorem pos_of_mem {α : Type} {l : List α} {x : α} (h : x ∈ l) : 1 ≤ l.length := List.length_pos_of_mem h
theorem midS_pos (S : List T3) (all : List Int) (h1 : 1 ≤ S.length) (h2 : 1 ≤ all.length) : 1 ≤ (midS S all).length :=
  pos_of_mem ((midS_mem S all (bump S[0] all[0])).2 ⟨S[0], List.getElem_mem _, all[0], List.getElem_mem _, rfl⟩)
theorem foldS_pos (l : List Int) (bus : Bool) (S : List T3) (h : 1 ≤ S.length) : 1 ≤ (l.foldl (fun S v => midS S (chc v bus)) S).length := by
  induction l generalizing S with
  | nil => exact h
  | cons v l ih => rw [List.foldl_cons]; exact ih _ (midS_pos S _ h (chc_len v bus).1)
theorem cS_pos (l : List Int) (bus : Bool) : 1 ≤ (cS l bus).length := foldS_pos l bus _ (Nat.le_refl _)
theorem midS_sum (S : List T3) (all : List Int) (m : Nat) (h : ∀ t ∈ S, t.sum = m) : ∀ t ∈ midS S all, t.sum = m + 1 := by
  intro t ht
  obtain ⟨s, hs, x, -, rfl⟩ := (midS_mem S all t).1 ht
  rw [bump_sum, h s hs]
theorem foldS_sum (l : List Int) (bus : Bool) (S : List T3) (m : Nat) (h : ∀ t ∈ S, t.sum = m) : ∀ t ∈ l.foldl (fun S v => midS S (chc v bus)) S, t.sum = m + l.length := by
  induction l generalizing S m with
  | nil => simpa using h
  | cons v l ih =>
    rw [List.foldl_cons]
    intro t ht
    rw [ih _ (m + 1) (midS_sum S _ m h) t ht, List.length_cons]; omega
theorem cS_sum (l : List Int) (bus : Bool) : ∀ t ∈ cS l bus, t.sum = l.length := fun t ht => by
  have := foldS_sum l bus [T3.zero] 0 (by simp [T3.zero, T3.sum]) t ht
  omega
theorem getD_mem3 (S : List T3) (k : Nat) (h : k < S.length) : S.getD k T3.zero ∈ S := by
  rw [List.getD_eq_getElem?_getD, List.getElem?_eq_getElem h]; exact List.getElem_mem h
theorem cS_small (l : List Int) (bus : Bool) (h : l.length ≤ 7) : (cS l bus).length ≤ 2187 := by
  have h1 := cS_len l bus [T3.zero]
  have h2 : 3 ^ l.length ≤ 3 ^ 7 := Nat.pow_le_pow_right (by decide) h
  have : (cS l bus).length ≤ 1 * 3 ^ l.length := h1
  omega

theorem chc_ways' (v : Int) (bus : Bool) : chc v bus = [0] ∨ chc v bus = [1] ∨ chc v bus = [2] ∨ chc v bus = [0, 1, 2] ∨ chc v bus = [0, 1] := by
  unfold chc; repeat' split
  all_goals simp
theorem chc_vals (v : Int) (bus : Bool) (m : Nat) (h : m < (chc v bus).length) : (chc v bus).getD m 0 = 0 ∨ (chc v bus).getD m 0 = 1 ∨ (chc v bus).getD m 0 = 2 := by
  have hm : (chc v bus).getD m 0 ∈ chc v bus := by
    rw [List.getD_eq_getElem?_getD, List.getElem?_eq_getElem h]; exact List.getElem_mem h
  generalize (chc v bus).getD m 0 = z at hm ⊢
  rcases chc_ways' v bus with e | e | e | e | e <;> rw [e] at hm <;> simp at hm <;> omega

def comp (t : T3) (e : Nat) : Nat := if e = 0 then t.a else if e = 1 then t.b else t.c
/-- the inputs of a triple, in order, those below e -/
def pre (t : T3) (e : Nat) : List Int := if e = 0 then [] else if e = 1 then List.replicate t.a 0 else if e = 2 then List.replicate t.a 0 ++ List.replicate t.b 1 else List.replicate t.a 0 ++ List.replicate t.b 1 ++ List.replicate t.c 2
theorem pre_succ (t : T3) (e : Nat) (h : e < 3) : pre t (e + 1) = pre t e ++ List.replicate (comp t e) (e : Int) := by
  rcases (by omega : e = 0 ∨ e = 1 ∨ e = 2) with rfl | rfl | rfl <;> simp [pre, comp]
theorem pre_len (t : T3) (e : Nat) (h : e ≤ 3) : (pre t e).length ≤ t.sum := by
  unfold T3.sum
  rcases (by omega : e = 0 ∨ e = 1 ∨ e = 2 ∨ e = 3) with rfl | rfl | rfl | rfl <;> simp [pre] <;> omega
theorem comp_le (t : T3) (e : Nat) : comp t e ≤ t.sum := by
  unfold comp T3.sum
  split
  · omega
  · split <;> omega
def fnT (q : Int) (t : T3) : Int := fn q (pre t 3)
theorem cnt_app (x : Int) (a b : List Int) : cnt x (a ++ b) = cnt x a + cnt x b := by
  induction a with
  | nil => simp [cnt]
  | cons v a ih => rw [List.cons_append, cnt, cnt, ih]; omega
theorem cnt_rep (x y : Int) (m : Nat) : cnt x (List.replicate m y) = if y = x then m else 0 := by
  induction m with
  | zero => simp [cnt]
  | succ m ih => rw [List.replicate_succ, cnt, ih]; split <;> omega
theorem cnt_pre (t : T3) : cnt 1 (pre t 3) = t.b ∧ cnt 0 (pre t 3) = t.a := by
  have e : pre t 3 = List.replicate t.a 0 ++ List.replicate t.b 1 ++ List.replicate t.c 2 := rfl
  rw [e]
  constructor
  · rw [cnt_app, cnt_app, cnt_rep, cnt_rep, cnt_rep]; simp
  · rw [cnt_app, cnt_app, cnt_rep, cnt_rep, cnt_rep]; simp

end Go.Proofs.YtfcdhoaccmckoaaGreatDoor.Lg

namespace Go.Proofs.YtfcdhoaccmckoaaGreatDoor.Lg
open Go.RowKit

theorem info_three : (Tryz.prog.info? 142).map (fun i => (i.zero, i.size, i.bytes)) = some (some (.agg #[.int .i64 0, .int .i64 0, .int .i64 0]), 3, 24) := by kernel_rfl
theorem info_int : (Tryz.prog.info? 3).map (fun i => (i.zero, i.size, i.bytes)) = some (some (.int .i64 0), 1, 8) := by kernel_rfl
theorem eq_three (a b c d e f : Int) (w : World) : (binOp .eql 142 (.agg #[.int .i64 a, .int .i64 b, .int .i64 c]) (.agg #[.int .i64 d, .int .i64 e, .int .i64 f])).run Tryz.prog w = .ok (.bool (a == d && (b == e && c == f))) w := by
  obtain ⟨i, hi, -⟩ := info_parts info_int
  have hp : Tryz.prog.plainKey 3 = true := by kernel_rfl
  rw [run_eql_struct, run_equalIn_array _ 9999 _ _ Tryz.underlying142 hi, show Tryz.prog.cellsOf 3 = 1 by kernel_rfl]
  have p0 : ∀ (x y z : Int) (w : World), (part 3 #[Value.int .i64 x, .int .i64 y, .int .i64 z] 0).run Tryz.prog w = .ok (.int .i64 x) w := fun x y z w => run_part_plain _ hp rfl
  have p1 : ∀ (x y z : Int) (w : World), (part 3 #[Value.int .i64 x, .int .i64 y, .int .i64 z] 1).run Tryz.prog w = .ok (.int .i64 y) w := fun x y z w => run_part_plain _ hp rfl
  have p2 : ∀ (x y z : Int) (w : World), (part 3 #[Value.int .i64 x, .int .i64 y, .int .i64 z] 2).run Tryz.prog w = .ok (.int .i64 z) w := fun x y z w => run_part_plain _ hp rfl
  have q0 : ∀ (x y : Int) (w : World), (Op.equalIn 9999 3 (.int .i64 x) (.int .i64 y)).run Tryz.prog w = .ok (x == y) w := fun x y w => run_equalIn_int w 9998 _ _ _ x y Tryz.underlying3
  rw [show List.range 3 = [0, 1, 2] from rfl]
  simp only [Op.eqItems, Sem.run_bind, Nat.mul_one, p0, q0, Result.andThen_ok]
  cases h1 : (a == d) <;> cases h2 : (b == e) <;> cases h3 : (c == f) <;> simp [Sem.run_bind, p1, p2, q0, h2, h3, Sem.run_pure]

theorem own_slice {w : World} {base : Nat} {e : TypeId} {size n : Nat} {v : Value} {xs : List Value} (h : w.ownsRow base e size v n xs) : ∃ A c, v = .slice A n c := by
  rcases h.2 with ⟨rfl, rfl⟩ | ⟨g, cap, cur, rfl, -⟩
  · exact ⟨_, _, rfl⟩
  · exact ⟨_, _, rfl⟩
theorem comp_get (S : List T3) (j e : Nat) (h : j < S.length) (he : e < 3) : (flatT S)[j * 3 + e]? = some (.int .i64 (comp (S.getD j T3.zero) e)) := by
  have hg := flatT_get S j h
  rcases (by omega : e = 0 ∨ e = 1 ∨ e = 2) with rfl | rfl | rfl
  · exact hg.1
  · exact hg.2.1
  · exact hg.2.2
theorem own_keep {w w' : World} {base : Nat} {e : TypeId} {size n : Nat} {v : Value} {xs : List Value} (h : w.ownsRow base e size v n xs) (hb : Below w.heap.size w w') : w'.ownsRow base e size v n xs := by
  refine ⟨h.1, ?_⟩
  rcases h.2 with h | ⟨g, cap, cur, hv, hbg, hg, rest⟩
  · exact .inl h
  · refine .inr ⟨g, cap, cur, hv, hbg, ?_, rest⟩
    rw [hb.block g ?_]
    · exact hg
    · rcases Nat.lt_or_ge g w.heap.size with h | h
      · exact h
      · rw [Array.getElem?_eq_none h] at hg; cases hg
theorem own_trans {gx gl : Nat} {X Y w : World} (h1 : Own gx X Y) (h2 : Own gl Y w) (hg : gl = Y.heap.size) : Own gx X w :=
  ⟨h1.below.trans (h2.below.mono (by rw [hg]; exact h1.size)), Nat.le_trans h1.size (by rw [hg] at h2; exact h2.size)⟩
/-- What the first j triples give, as cells. -/
def outC (q : Int) (S : List T3) (j : Nat) : List Value := ((S.take j).map (fnT q)).map (Value.int .i64)
theorem outC_succ (q : Int) (S : List T3) (j : Nat) (h : j < S.length) : outC q S (j + 1) = outC q S j ++ [.int .i64 (fnT q (S.getD j T3.zero))] := by
  unfold outC
  rw [List.take_succ_eq_append_getElem h, List.map_append, List.map_append, List.getD_eq_getElem?_getD, List.getElem?_eq_getElem h]; rfl
/-- What counted leaves: a slice, not nil, that reads as the functions of all triples. -/
def CntPost (q : Int) (l : List Int) (w : World) (e : Ending) (w' : World) : Prop :=
  ∃ gv cv, e = .returned (.slice (some ⟨gv, 0, none⟩) (cS l (q == 13)).length cv) ∧ Below w.heap.size w w' ∧ Vi w' w'.heap.size (.slice (some ⟨gv, 0, none⟩) (cS l (q == 13)).length cv) ((cS l (q == 13)).map (fnT q))
/-- The kinds whose function depends on the numbers of inputs alone. -/
def Counts (q : Int) : Prop := q = 5 ∨ q = 6 ∨ q = 7 ∨ q = 8 ∨ q = 9 ∨ q = 10 ∨ q = 13
theorem fun_cnt (q : Int) (hq : Counts q) (l : List Int) (s : Value) (w : World) (B : Nat) (hs : Vi w B s l) (hlen : l.length ≤ 1000) :
    Calls Tryz.prog 101 #[.int .u8 q, s] w fun e w' => e = .returned (.int .i64 (fn q l)) ∧ w = w' := by
  obtain ⟨A, n, c, hv⟩ : ∃ A n c, s = .slice A n c := by
    obtain ⟨b, o, c, h1, -⟩ := hs
    rcases h1 with h1 | ⟨-, A, h1⟩
    · exact ⟨_, _, _, h1⟩
    · exact ⟨_, _, _, h1⟩
  rcases hq with rfl | rfl | rfl | rfl | rfl | rfl | rfl
  · exact fun_k5 l s n c A hv w B hs hlen
  · exact fun_k6 l s n c A hv w B hs hlen
  · exact fun_k7 l s n c A hv w B hs hlen
  · exact fun_k8 l s n c A hv w B hs hlen
  · exact fun_k9 l s n c A hv w B hs hlen
  · exact fun_k10 l s n c A hv w B hs hlen
  · exact fun_k13 l s n c A hv w B hs hlen
theorem own_join {g gx : Nat} {w wo w1 wr : World} {o : Obj} (h1 : Own g w wo) (h2 : Own gx w1 wr) (hw : w1 = wo.alloc o) (hg : gx = w1.heap.size) : Own g w wr := by
  have h3 : Own g w w1 := by rw [hw]; exact h1.alloc o
  have hgx : g ≤ gx := by rw [hg]; exact h3.size
  exact ⟨h3.below.trans (h2.below.mono hgx), Nat.le_trans hgx h2.size⟩
theorem three_new (w : World) (u : T3) (o : Obj) (t : TypeId) : ∀ (j : Nat) (v : Value), (cellsT u)[j]? = some v → ((w.alloc o).alloc (.cells #[.int .i64 (u.a : Nat), .int .i64 (u.b : Nat), .int .i64 (u.c : Nat)] t)).cell? ((⟨w.heap.size + 1, 0, none⟩ : Addr).add j) = some v := by
  intro j v hj
  rw [add_flat, Nat.zero_add, World.cell?_alloc_at _ _ _ _ (by simp), ← Array.getElem?_toList]
  exact hj
theorem own_drewN {w : World} {base : Nat} {e : TypeId} {size n : Nat} {v : Value} {xs : List Value} (h : w.ownsRow base e size v n xs) (k : Nat) : (w.drewN k).ownsRow base e size v n xs := h
theorem own_drewN' {g : Nat} {w w' : World} (h : Own g w w') (k : Nat) : Own g w (w'.drewN k) := ⟨below_drewN h.below k, h.size⟩
theorem any_take (l : List T3) (p : T3 → Bool) (k : Nat) (h : k < l.length) : (l.take (k + 1)).any p = ((l.take k).any p || p (l.getD k T3.zero)) := by
  rw [List.take_succ_eq_append_getElem h, List.any_append, List.getD_eq_getElem?_getD, List.getElem?_eq_getElem h]
  simp

set_option maxHeartbeats 4000000 in
set_option maxRecDepth 100000 in
theorem counted_any (q : Int) (l : List Int) (s : Value) (n c b o : Nat) (A : Option Addr) (hv : s = .slice A n c) (hA : 0 < n → A = some ⟨b, o, none⟩) (w : World) (hn : n = l.length) (h7 : n ≤ 7) (hq : Counts q)
    (hc : ∀ k, k < n → b < w.heap.size ∧ w.cell? ⟨b, o + k, none⟩ = some (.int .u8 (l.getD k 0))) :
    Calls Tryz.prog 89 #[.int .u8 q, s] w (CntPost q l w) := by
  obtain ⟨i3, hi, hz0, hz1, hz2⟩ := info_parts info_three
  have HA := Lib.hid hA
  have HC := Lib.hid hc
  have HN := Lib.hid hn
  have HQ := Lib.hid hq
  have HI := Lib.hid hi
  have HZ0 := Lib.hid hz0
  have HZ1 := Lib.hid hz1
  have HZ2 := Lib.hid hz2
  obtain ⟨ii, hji, hy0, hy1, hy2⟩ := info_parts info_int
  have HJ := Lib.hid hji
  have HY0 := Lib.hid hy0
  have HY1 := Lib.hid hy1
  have HY2 := Lib.hid hy2
  clear hji hy0 hy1 hy2
  obtain ⟨bus, HB⟩ := named (q == 13)
  have hbus : (q == 13) = bus := HB.out.symm
  obtain ⟨g, hg⟩ : ∃ g, g = w.heap.size := ⟨_, rfl⟩
  have HG := Lib.hid hg
  clear hn hc hA hi hz0 hz1 hz2 hg hq
  subst hv
  go_enter Tryz.func89, Tryz.ntmps89
  go_wp2_with fail
  go_loopw [5, 6] (fun v i wr => ∃ k : Nat, k ≤ n ∧ i = .int .i64 k ∧ Own g w wr ∧ wr.ownsRow g 142 3 v (cS (l.take k) bus).length (flatT (cS (l.take k) bus))) (fun _ i _ => n - (intOf i).toNat)
  case atStart =>
    refine ⟨0, Nat.zero_le _, rfl, ⟨(Below.refl _ _).alloc (by rw [HG.out]; exact Nat.le_refl _) _, by rw [HG.out]; simp⟩, ?_⟩
    refine ⟨flatT_len _, .inr ⟨w.heap.size, 1, #[.int .i64 0, .int .i64 0, .int .i64 0], rfl, by rw [HG.out]; exact Nat.le_refl _, heap_alloc_new w _, Nat.le_refl _, by unfold maxLen; omega, rfl, rfl⟩⟩
  case round =>
    obtain ⟨k, hk, rfl, hown0, hown⟩ := hrel
    have HX := Lib.hid hown0
    have HO := Lib.hid hown
    clear hown0 hown
    by_cases hlt : k < n
    · obtain rfl := HA.out (by omega)
      have hcl : wr.cell? ⟨b, o + k, none⟩ = some (.int .u8 (l.getD k 0)) :=
        (HX.out.below.cell (p := ⟨b, o + k, none⟩) (by rw [HG.out]; exact (HC.out k hlt).1)).trans (HC.out k hlt).2
      have HS := Lib.hid (fold_take (fun S v => midS S (chc v bus)) [T3.zero] 0 l k (by rw [← HN.out]; exact hlt))
      obtain ⟨x, HXV⟩ := named (l.getD k 0)
      rw [← HXV.out] at hcl HS
      obtain ⟨S, HSS⟩ := named (cS (l.take k) bus)
      rw [← HSS.out] at HO
      obtain ⟨al, HAL⟩ := named (chc x bus)
      have hSp : 1 ≤ S.length := by rw [HSS.out]; exact cS_pos _ _
      have hSs : S.length ≤ 2187 := by rw [HSS.out]; exact cS_small _ _ (by rw [List.length_take]; omega)
      have HSM : Hid (∀ t ∈ S, t.sum = k) := Lib.hid fun t ht => by
        rw [HSS.out] at ht
        rw [cS_sum _ _ t ht, List.length_take, ← HN.out]; omega
      obtain ⟨gs, cs, rfl, -, hgs, -⟩ := own_form HO.out (by omega)
      have HGS := Lib.hid hgs
      clear hgs
      have hal : al.length ≤ 3 := by rw [HAL.out]; exact (chc_len _ _).2
      obtain ⟨wo, rfl⟩ : ∃ wo : World, wo = wr := ⟨_, rfl⟩
      go_wp2_with fail
      refine (choices_any x bus _).mono ?_
      rintro e w1 ⟨rfl, hw1⟩
      rw [← HAL.out] at hw1
      rw [← HAL.out]
      have HW1 := Lib.hid hw1
      clear hw1
      obtain ⟨ga, hga⟩ : ∃ ga, ga = wo.heap.size := ⟨_, rfl⟩
      rw [← hga]
      have HGA := Lib.hid hga
      clear hga
      obtain ⟨gx, hgx⟩ : ∃ gx, gx = w1.heap.size := ⟨_, rfl⟩
      have HGX := Lib.hid hgx
      clear hgx
      go_wp2_with fail
      go_loopw [7, 9] (fun v i wr => ∃ j : Nat, j ≤ S.length ∧ i = .int .i64 j ∧ Own gx w1 wr ∧ wr.ownsRow gx 142 3 v ((S.take j).foldl (fun m s => inS s al m) []).length (flatT ((S.take j).foldl (fun m s => inS s al m) []))) (fun _ i _ => S.length - (intOf i).toNat)
      case atStart => exact ⟨0, Nat.zero_le _, rfl, ⟨Below.refl _ _, by rw [HGX.out]; exact Nat.le_refl _⟩, rfl, .inl ⟨rfl, rfl⟩⟩
      case round =>
        obtain ⟨j, hj, rfl, hown0, hown⟩ := hrel
        have HXB := Lib.hid hown0
        have HOB := Lib.hid hown
        clear hown0 hown
        by_cases hjl : j < S.length
        · obtain ⟨MB, HMB⟩ := named ((S.take j).foldl (fun m s => inS s al m) [])
          rw [← HMB.out] at HOB
          have hMB : MB.length ≤ 6561 := by
            rw [HMB.out]
            have h1 := mid_len (S.take j) al []
            have h2 : (S.take j).length * al.length ≤ 2187 * 3 := Nat.mul_le_mul (by rw [List.length_take]; omega) hal
            simp only [List.length_nil, Nat.zero_add] at h1
            omega
          obtain ⟨t, HT⟩ := named (S.getD j T3.zero)
          obtain ⟨w2, rfl⟩ : ∃ w2 : World, w2 = wr := ⟨_, rfl⟩
          go_wp2_with fail
          go_loopw [7, 10] (fun v i wr => ∃ m : Nat, m ≤ al.length ∧ i = .int .i64 m ∧ Own gx w1 wr ∧ wr.ownsRow gx 142 3 v (inS t (al.take m) MB).length (flatT (inS t (al.take m) MB))) (fun _ i _ => al.length - (intOf i).toNat)
          case atStart => exact ⟨0, Nat.zero_le _, rfl, HXB.out, HOB.out⟩
          case round =>
            obtain ⟨m, hm, rfl, hown0, hown⟩ := hrel
            have HXC := Lib.hid hown0
            have HOC := Lib.hid hown
            clear hown0 hown
            by_cases hml : m < al.length
            · have hsum : t.sum = k := HSM.out t (by rw [HT.out]; exact getD_mem3 S j hjl)
              have hta : t.a ≤ 7 ∧ t.b ≤ 7 ∧ t.c ≤ 7 := by unfold T3.sum at hsum; omega
              have keep : ∀ i, wr.cell? ⟨gs, i, none⟩ = wo.cell? ⟨gs, i, none⟩ := fun i => by
                rw [HXC.out.below.cell (p := ⟨gs, i, none⟩) (by rw [HGX.out, HW1.out]; have := HGS.out; simp; omega), HW1.out]
                exact World.cell?_alloc_lt _ _ _ HGS.out
              have hget := flatT_get S j hjl
              rw [← HT.out] at hget
              have hs0 : wr.cell? ⟨gs, j * 3, none⟩ = some (.int .i64 t.a) := by rw [keep, HO.out.cellAt _ (by omega)]; exact hget.1
              have hs1 : wr.cell? ⟨gs, j * 3 + 1, none⟩ = some (.int .i64 t.b) := by rw [keep, HO.out.cellAt _ (by omega)]; exact hget.2.1
              have hs2 : wr.cell? ⟨gs, j * 3 + 2, none⟩ = some (.int .i64 t.c) := by rw [keep, HO.out.cellAt _ (by omega)]; exact hget.2.2
              have ha : wr.cell? ⟨ga, m, none⟩ = some (.int .i64 (al.getD m 0)) := by
                rw [HXC.out.below.cell (p := ⟨ga, m, none⟩) (by rw [HGX.out, HW1.out, HGA.out]; simp), HW1.out, HGA.out, World.cell?_alloc_at _ _ _ _ rfl]
                simp [List.getElem?_map, List.getElem?_eq_getElem hml]
              have hy : al.getD m 0 = 0 ∨ al.getD m 0 = 1 ∨ al.getD m 0 = 2 := by rw [HAL.out]; exact chc_vals x bus m (by rw [← HAL.out]; exact hml)
              have HSTEP : Hid (inS t (al.take (m + 1)) MB = addT (inS t (al.take m) MB) (bump t (al.getD m 0))) := Lib.hid (fold_take (fun m x => addT m (bump t x)) MB 0 al m hml)
              clear keep hget hsum
              obtain ⟨y, HY⟩ := named (al.getD m 0)
              rw [← HY.out] at ha hy HSTEP
              obtain ⟨M, HM⟩ := named (inS t (al.take m) MB)
              rw [← HM.out] at HSTEP HOC
              have hMl : M.length ≤ 6600 := by
                rw [HM.out]
                have h1 := inS_len t (al.take m) MB
                rw [List.length_take] at h1
                omega
              obtain ⟨w3, rfl⟩ : ∃ w3 : World, w3 = wr := ⟨_, rfl⟩
              have hga3 : ga < w3.heap.size := cell_lt ha
              have ha' := (World.cell?_alloc_lt w3 (.cells #[.int .i64 t.a, .int .i64 t.b, .int .i64 t.c] 142) ⟨ga, m, none⟩ hga3).trans ha
              obtain ⟨u, HU⟩ := named (bump t y)
              go_upto_region 14 with (fail)
              go_cut [] (fun wx => wx = w3.alloc (.cells #[.int .i64 (u.a : Nat), .int .i64 (u.b : Nat), .int .i64 (u.c : Nat)] 142))
              case first =>
                rcases hy with rfl | rfl | rfl
                all_goals
                  go_wp2_with fail
                  go_meet
                  rw [HU.out]
                  rfl
              case rest =>
                subst hcut
                clear hs0 hs1 hs2 ha ha' hga3 hy
                have h3 := eq_three
                obtain ⟨A7, c7, rfl⟩ := own_slice HOC.out
                go_wp2_with fail
                go_loopw [12, 13] (fun v i wr => ∃ e : Nat, e ≤ M.length ∧ i = .int .i64 e ∧ v = .bool ((M.take e).any fun s => eqT s u) ∧ ∃ z, wr = (w3.alloc (.cells #[.int .i64 (u.a : Nat), .int .i64 (u.b : Nat), .int .i64 (u.c : Nat)] 142)).drewN z) (fun _ i _ => M.length - (intOf i).toNat)
                case atStart => exact ⟨0, Nat.zero_le _, rfl, rfl, 0, rfl⟩
                case round =>
                  obtain ⟨e, he, rfl, rfl, z, rfl⟩ := hrel
                  by_cases hel : e < M.length
                  · obtain ⟨gm, cm, hgv, -, hgm, -⟩ := own_form HOC.out (by omega)
                    simp only [Value.slice.injEq, true_and] at hgv
                    obtain ⟨rfl, rfl⟩ := hgv
                    obtain ⟨v, HV⟩ := named (M.getD e T3.zero)
                    have hget := flatT_get M e hel
                    rw [← HV.out] at hget
                    have keep : ∀ i, (w3.alloc (.cells #[.int .i64 (u.a : Nat), .int .i64 (u.b : Nat), .int .i64 (u.c : Nat)] 142)).cell? ⟨gm, i, none⟩ = w3.cell? ⟨gm, i, none⟩ := fun i => World.cell?_alloc_lt _ _ _ hgm
                    have hm0 : (w3.alloc (.cells #[.int .i64 (u.a : Nat), .int .i64 (u.b : Nat), .int .i64 (u.c : Nat)] 142)).cell? ⟨gm, e * 3, none⟩ = some (.int .i64 v.a) := by rw [keep, HOC.out.cellAt _ (by omega)]; exact hget.1
                    have hm1 : (w3.alloc (.cells #[.int .i64 (u.a : Nat), .int .i64 (u.b : Nat), .int .i64 (u.c : Nat)] 142)).cell? ⟨gm, e * 3 + 1, none⟩ = some (.int .i64 v.b) := by rw [keep, HOC.out.cellAt _ (by omega)]; exact hget.2.1
                    have hm2 : (w3.alloc (.cells #[.int .i64 (u.a : Nat), .int .i64 (u.b : Nat), .int .i64 (u.c : Nat)] 142)).cell? ⟨gm, e * 3 + 2, none⟩ = some (.int .i64 v.c) := by rw [keep, HOC.out.cellAt _ (by omega)]; exact hget.2.2
                    have HANY := Lib.hid (any_take M (fun s => eqT s u) e hel)
                    rw [← HV.out] at HANY
                    clear keep hget hgm
                    obtain ⟨th, HTH⟩ := named ((M.take e).any fun s => eqT s u)
                    rw [← HTH.out] at HANY
                    rw [← HTH.out]
                    cases th
                    · go_wp2_with fail
                      go_quiet (fail)
                      go_wp2_with fail
                      go_roundw
                      case rel => exact ⟨e + 1, by omega, by go_num, by rw [HANY.out]; rfl, _, rfl⟩
                      case measure => simp [intOf]; omega
                    · go_wp2_with fail
                      go_quiet (fail)
                      go_wp2_with fail
                      go_roundw
                      case rel => exact ⟨e + 1, by omega, by go_num, by rw [HANY.out]; rfl, _, rfl⟩
                      case measure => simp [intOf]; omega
                  · obtain rfl : M.length = e := by omega
                    rw [List.take_length]
                    have HADD : Hid (addT M u = if (M.any fun s => eqT s u) = true then M else M ++ [u]) := Lib.hid rfl
                    obtain ⟨th, HTH⟩ := named (M.any fun s => eqT s u)
                    rw [← HTH.out] at HADD
                    rw [← HTH.out]
                    have HOZ := Lib.hid (own_drewN (HOC.out.alloc (.cells #[.int .i64 (u.a : Nat), .int .i64 (u.b : Nat), .int .i64 (u.c : Nat)] 142)) z)
                    have HXZ := Lib.hid (own_drewN' (HXC.out.alloc (.cells #[.int .i64 (u.a : Nat), .int .i64 (u.b : Nat), .int .i64 (u.c : Nat)] 142)) z)
                    cases th
                    · go_wp2_with (at_builtin; go_loud (refine wpList_append_own _ rfl _ _ 143 rfl gx 142 i3 (.agg #[.int .i64 0, .int .i64 0, .int .i64 0]) 3 24 Tryz.underlying143 HI.out HZ0.out HZ1.out HZ2.out rfl (by decide) _ _ _ rfl (by first | exact HOZ.out.alloc _ | exact own_drewN ((HOC.out.alloc _).alloc _) z) ⟨w3.heap.size + 1, 0, none⟩ 1 1 (cellsT u) rfl rfl ?c1 ?c2 ?c3 ?c4 ?c5 ?_))
                      case c1 => exact three_new w3 u _ _
                      case c2 => intro v hv; simp [cellsT] at hv; rcases hv with rfl | rfl | rfl <;> rfl
                      case c3 => unfold maxLen; omega
                      case c4 => omega
                      case c5 => have := HXZ.out.size; simp at this ⊢; omega
                      intro v' w4 hown' hgrow _
                      have HO4 := Lib.hid hown'
                      have HX4 : Hid (Own gx w1 w4) := Lib.hid (Own.grown (by first | exact HXZ.out.alloc _ | exact own_drewN' ((HXC.out.alloc _).alloc _) z) hgrow (fun q hq => own_from HOC.out hq))
                      clear hown' hgrow
                      go_wp2_with fail
                      go_roundw
                      case rel =>
                        refine ⟨m + 1, by omega, by go_num, HX4.out, ?_⟩
                        rw [HSTEP.out, ← HU.out, HADD.out, if_neg (by decide), flatT_snoc, List.length_append]
                        exact HO4.out
                      case measure => simp [intOf]; omega
                    · go_wp2_with fail
                      go_roundw
                      case rel => exact ⟨m + 1, by omega, by go_num, HXZ.out, by rw [HSTEP.out, ← HU.out, HADD.out, if_pos rfl]; exact HOZ.out⟩
                      case measure => simp [intOf]; omega
            · obtain rfl : al.length = m := by omega
              rw [List.take_length] at HOC
              have HSB := Lib.hid (fold_take (fun m s => inS s al m) [] T3.zero S j hjl)
              go_wp2_with fail
              go_roundw
              case rel => exact ⟨j + 1, by omega, by go_num, HXC.out, by rw [HSB.out, ← HMB.out, ← HT.out]; exact HOC.out⟩
              case measure => simp [intOf]; omega
        · obtain rfl : S.length = j := by omega
          rw [List.take_length] at HOB
          have HXW : Hid (Own g w wr) := Lib.hid (own_join HX.out HXB.out HW1.out HGX.out)
          have hgx : g ≤ gx := by rw [HGX.out, HW1.out]; have := HX.out.size; simp; omega
          have HOW : Hid (wr.ownsRow g 142 3 _ _ _) := Lib.hid (Joins.ownsRow_le HOB.out hgx)
          go_wp2_with fail
          go_roundw
          case rel => exact ⟨k + 1, by omega, by go_num, HXW.out, by
            have e : cS (l.take (k + 1)) bus = midS S al := by rw [HSS.out, HAL.out, HXV.out]; exact fold_take (fun S v => midS S (chc v bus)) [T3.zero] 0 l k (by rw [← HN.out]; exact hlt)
            rw [e]; exact HOW.out⟩
          case measure => simp [intOf]; omega
    · obtain rfl : n = k := by omega
      rw [List.take_of_length_le (by rw [← HN.out]; exact Nat.le_refl _)] at HO
      obtain ⟨S, HSS⟩ := named (cS l bus)
      rw [← HSS.out] at HO
      have hSp : 1 ≤ S.length := by rw [HSS.out]; exact cS_pos _ _
      have hSs : S.length ≤ 2187 := by rw [HSS.out]; exact cS_small _ _ (by rw [← HN.out]; exact h7)
      have HSM : Hid (∀ t ∈ S, t.sum ≤ 7) := Lib.hid fun t ht => by
        rw [HSS.out] at ht
        rw [cS_sum _ _ t ht, ← HN.out]; exact h7
      obtain ⟨gs, cs, rfl, -, hgs, -⟩ := own_form HO.out (by omega)
      have HGS := Lib.hid hgs
      clear hgs
      obtain ⟨X, rfl⟩ : ∃ X : World, X = wr := ⟨_, rfl⟩
      obtain ⟨gx, hgx⟩ : ∃ gx, gx = X.heap.size := ⟨_, rfl⟩
      have HGX := Lib.hid hgx
      clear hgx
      go_wp2_with fail
      go_loopw [14, 15] (fun v i wr => ∃ j : Nat, j ≤ S.length ∧ i = .int .i64 j ∧ Own gx X wr ∧ wr.ownsRow gx 3 1 v j (outC q S j)) (fun _ i _ => S.length - (intOf i).toNat)
      case atStart => exact ⟨0, Nat.zero_le _, rfl, ⟨Below.refl _ _, by rw [HGX.out]; exact Nat.le_refl _⟩, rfl, .inl ⟨rfl, rfl⟩⟩
      case round =>
        obtain ⟨j, hj, rfl, hown0, hown⟩ := hrel
        have HXE := Lib.hid hown0
        have HOE := Lib.hid hown
        clear hown0 hown
        by_cases hjl : j < S.length
        · obtain ⟨t, HT⟩ := named (S.getD j T3.zero)
          have hsum : t.sum ≤ 7 := HSM.out t (by rw [HT.out]; exact getD_mem3 S j hjl)
          obtain ⟨Y, rfl⟩ : ∃ Y : World, Y = wr := ⟨_, rfl⟩
          obtain ⟨gl, hgl⟩ : ∃ gl, gl = Y.heap.size := ⟨_, rfl⟩
          have HGL := Lib.hid hgl
          clear hgl
          go_wp2_with fail
          go_loopw [16, 17] (fun v i wr => ∃ e : Nat, e ≤ 3 ∧ i = .int .i64 e ∧ Own gl Y wr ∧ wr.ownsRow gl 3 1 v (pre t e).length ((pre t e).map (Value.int .i64))) (fun _ i _ => 3 - (intOf i).toNat)
          case atStart => exact ⟨0, Nat.zero_le _, rfl, ⟨Below.refl _ _, by rw [HGL.out]; exact Nat.le_refl _⟩, rfl, .inl ⟨rfl, rfl⟩⟩
          case round =>
            obtain ⟨e, he, rfl, hown0, hown⟩ := hrel
            have HXF := Lib.hid hown0
            have HOF := Lib.hid hown
            clear hown0 hown
            by_cases hel : e < 3
            · have HPS := Lib.hid (pre_succ t e hel)
              have hcl := comp_le t e
              have hpl := pre_len t e (by omega)
              have HCE := Lib.hid (comp_get S j e hjl hel)
              rw [← HT.out] at HCE
              obtain ⟨ce, HCC⟩ := named (comp t e)
              rw [← HCC.out] at HPS hcl HCE
              obtain ⟨P, HPP⟩ := named (pre t e)
              rw [← HPP.out] at HPS hpl HOF
              obtain ⟨w2, rfl⟩ : ∃ w2 : World, w2 = wr := ⟨_, rfl⟩
              have he3 : decide ((e : Int) < 3) = true := by simp; omega
              have he4 : (e : Int) < 3 := by omega
              go_wp2_with fail
              go_loopw [16, 18] (fun v i wr => ∃ d : Nat, d ≤ ce ∧ i = .int .i64 d ∧ Own gl Y wr ∧ wr.ownsRow gl 3 1 v (P.length + d) ((P ++ List.replicate d (e : Int)).map (Value.int .i64))) (fun _ i _ => ce - (intOf i).toNat)
              case atStart => exact ⟨0, Nat.zero_le _, rfl, HXF.out, by simpa using HOF.out⟩
              case round =>
                obtain ⟨d, hd, rfl, hown0, hown⟩ := hrel
                have HXG := Lib.hid hown0
                have HOG := Lib.hid hown
                clear hown0 hown
                have hcell : wr.cell? ⟨gs, j * 3 + e, none⟩ = some (.int .i64 ce) := by
                  rw [HXG.out.below.cell (p := ⟨gs, j * 3 + e, none⟩) (by rw [HGL.out]; have h1 := HXE.out.below.size; have h2 := HGS.out; simp only; omega), HXE.out.below.cell (p := ⟨gs, j * 3 + e, none⟩) (by rw [HGX.out]; exact HGS.out), HO.out.cellAt _ (by omega)]
                  exact HCE.out
                by_cases hdl : d < ce
                · go_wp2_with (at_builtin; go_loud (refine wpList_append_own _ rfl _ _ 33 rfl gl 3 ii (.int .i64 0) 1 8 Tryz.underlying33 HJ.out HY0.out HY1.out HY2.out rfl (by decide) _ _ _ rfl (HOG.out.alloc _) ⟨wr.heap.size, 0, none⟩ 1 1 [.int .i64 e] rfl rfl ?c1 ?c2 ?c3 ?c4 ?c5 ?_))
                  case c1 => exact one_new _ _ _
                  case c2 => intro u hu; obtain rfl := List.mem_singleton.1 hu; rfl
                  case c3 => unfold maxLen; omega
                  case c4 => omega
                  case c5 => have := HXG.out.size; simp; omega
                  intro v' w4 hown' hgrow _
                  have HO4 := Lib.hid hown'
                  have HX4 := Lib.hid ((HXG.out.alloc _).grown hgrow (fun q hq => own_from HOG.out hq))
                  clear hown' hgrow
                  go_wp2_with fail
                  go_roundw
                  case rel =>
                    refine ⟨d + 1, by omega, by go_num, HX4.out, ?_⟩
                    have h := HO4.out
                    rw [List.replicate_succ']
                    simpa [Nat.add_assoc] using h
                  case measure => simp [intOf]; omega
                · obtain rfl : ce = d := by omega
                  go_wp2_with fail
                  go_roundw
                  case rel => exact ⟨e + 1, by omega, by go_num, HXG.out, by rw [HPS.out]; have h := HOG.out; simpa using h⟩
                  case measure => simp [intOf]; omega
            · obtain rfl : e = 3 := by omega
              have hpl := pre_len t 3 (by omega)
              have HVI := Lib.hid (Vi.of_own HOF.out).1
              have HFT : Hid (fnT q t = fn q (pre t 3)) := Lib.hid rfl
              have HSNOC := Lib.hid (outC_succ q S j hjl)
              rw [← HT.out] at HSNOC
              obtain ⟨y, HYF⟩ := named (fnT q t)
              rw [← HYF.out] at HSNOC HFT
              have HOE' : Hid (wr.ownsRow gx 3 1 _ _ _) := Lib.hid (own_keep HOE.out (by rw [← HGL.out]; exact HXF.out.below))
              have HXX : Hid (Own gx X wr) := Lib.hid (own_trans HXE.out HXF.out HGL.out)
              go_wp2_with fail
              refine (fun_cnt q HQ.out _ _ _ _ HVI.out (by omega)).mono ?_
              rintro e w' ⟨rfl, rfl⟩
              rw [← HFT.out]
              go_wp2_with (at_builtin; go_loud (refine wpList_append_own _ rfl _ _ 33 rfl gx 3 ii (.int .i64 0) 1 8 Tryz.underlying33 HJ.out HY0.out HY1.out HY2.out rfl (by decide) _ _ _ rfl (HOE'.out.alloc _) ⟨wr.heap.size, 0, none⟩ 1 1 [.int .i64 y] rfl rfl ?c1 ?c2 ?c3 ?c4 ?c5 ?_))
              case c1 => exact one_new _ _ _
              case c2 => intro u hu; obtain rfl := List.mem_singleton.1 hu; rfl
              case c3 => unfold maxLen; omega
              case c4 => omega
              case c5 => have := HXX.out.size; simp; omega
              intro v' w4 hown' hgrow _
              have HO4 := Lib.hid hown'
              have HX4 := Lib.hid ((HXX.out.alloc _).grown hgrow (fun q hq => own_from HOE.out hq))
              clear hown' hgrow
              go_wp2_with fail
              go_roundw
              case rel => exact ⟨j + 1, by omega, by go_num, HX4.out, by rw [HSNOC.out]; exact HO4.out⟩
              case measure => simp [intOf]; omega
        · obtain rfl : S.length = j := by omega
          have hlast := HOE.out
          unfold outC at hlast
          rw [List.take_length] at hlast
          obtain ⟨gv, cv, rfl, -, -, -⟩ := own_form hlast (by omega)
          have HVL := Lib.hid (Vi.of_own hlast).1
          have HBL : Hid (Below w.heap.size w wr) := Lib.hid (by
            have h1 := HX.out
            rw [HG.out] at h1
            exact h1.below.trans (HXE.out.below.mono (by rw [HGX.out]; exact h1.size)))
          clear hlast
          rw [HSS.out, HB.out] at HVL
          have HEQ : Hid (S.length = (cS l (q == 13)).length) := Lib.hid (by rw [HSS.out, HB.out])
          go_wp2_with fail
          go_ret
          exact ⟨gv, cv, by rw [← HEQ.out]; rfl, HBL.out, HVL.out⟩

end Go.Proofs.YtfcdhoaccmckoaaGreatDoor.Lg
