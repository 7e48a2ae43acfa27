/- The plain side of the reference's counted: the triples of numbers of inputs that are 0, 1 and not driven. -/
import Derived.Test.YtdanmepbdjfpfaaDoorRefp
import Derived.WalkKit
namespace Go.Proofs.YtdanmepbdjfpfaaDoor

structure T3 where
  a : Nat
  b : Nat
  c : Nat
  deriving DecidableEq
def T3.zero : T3 := ⟨0, 0, 0⟩
def T3.sum (t : T3) : Nat := t.a + t.b + t.c
def cellsT (t : T3) : List Value := [.int .i64 t.a, .int .i64 t.b, .int .i64 t.c]
def flatT (S : List T3) : List Value := S.flatMap cellsT
def eqT (s t : T3) : Bool := ((s.a : Int) == (t.a : Int)) && (((s.b : Int) == (t.b : Int)) && ((s.c : Int) == (t.c : Int)))
theorem eqT_iff (s t : T3) : eqT s t = true ↔ s = t := by
  cases s; cases t
  simp [eqT]
  omega
def bump (t : T3) (x : Int) : T3 := if x = 0 then ⟨t.a + 1, t.b, t.c⟩ else if x = 1 then ⟨t.a, t.b + 1, t.c⟩ else ⟨t.a, t.b, t.c + 1⟩
def addT (M : List T3) (t : T3) : List T3 := if (M.any fun s => eqT s t) = true then M else M ++ [t]
def inS (s : T3) (all : List Int) (M : List T3) : List T3 := all.foldl (fun m x => addT m (bump s x)) M
def midS (S : List T3) (all : List Int) : List T3 := S.foldl (fun m s => inS s all m) []
def cS (l : List Int) (bus : Bool) : List T3 := l.foldl (fun S v => midS S (chc v bus)) [T3.zero]

theorem flatT_len (S : List T3) : (flatT S).length = S.length * 3 := by
  induction S with
  | nil => rfl
  | cons s S ih => simp only [flatT, List.flatMap_cons, List.length_append] at ih ⊢; rw [ih]; simp [cellsT]; omega
theorem flatT_snoc (S : List T3) (t : T3) : flatT (S ++ [t]) = flatT S ++ cellsT t := by simp [flatT, List.flatMap_append]
theorem flatT_get (S : List T3) (k : Nat) (h : k < S.length) : (flatT S)[k * 3]? = some (.int .i64 (S.getD k T3.zero).a) ∧ (flatT S)[k * 3 + 1]? = some (.int .i64 (S.getD k T3.zero).b) ∧ (flatT S)[k * 3 + 2]? = some (.int .i64 (S.getD k T3.zero).c) := by
  induction S generalizing k with
  | nil => simp at h
  | cons s S ih =>
    cases k with
    | zero => exact ⟨rfl, rfl, rfl⟩
    | succ k =>
      have h' : k < S.length := by simpa using h
      have e : flatT (s :: S) = cellsT s ++ flatT S := rfl
      have hl : (cellsT s).length = 3 := rfl
      obtain ⟨h1, h2, h3⟩ := ih k h'
      rw [e]
      refine ⟨?_, ?_, ?_⟩
      · rw [List.getElem?_append_right (by rw [hl]; omega), hl, show (k + 1) * 3 - 3 = k * 3 by omega, h1]; rfl
      · rw [List.getElem?_append_right (by rw [hl]; omega), hl, show (k + 1) * 3 + 1 - 3 = k * 3 + 1 by omega, h2]; rfl
      · rw [List.getElem?_append_right (by rw [hl]; omega), hl, show (k + 1) * 3 + 2 - 3 = k * 3 + 2 by omega, h3]; rfl

theorem fold_take {α β : Type} (f : β → α → β) (z : β) (d : α) (l : List α) (k : Nat) (h : k < l.length) : (l.take (k + 1)).foldl f z = f ((l.take k).foldl f z) (l.getD k d) := by
  rw [List.take_succ_eq_append_getElem h, List.foldl_append, List.getD_eq_getElem?_getD, List.getElem?_eq_getElem h]; rfl
theorem addT_len (M : List T3) (t : T3) : (addT M t).length ≤ M.length + 1 := by unfold addT; split <;> simp
theorem inS_len (s : T3) (all : List Int) (M : List T3) : (inS s all M).length ≤ M.length + all.length := by
  unfold inS
  induction all generalizing M with
  | nil => simp
  | cons x all ih => rw [List.foldl_cons]; have := ih (addT M (bump s x)); have := addT_len M (bump s x); simp; omega
theorem mid_len (S : List T3) (all : List Int) (M : List T3) : (S.foldl (fun m s => inS s all m) M).length ≤ M.length + S.length * all.length := by
  induction S generalizing M with
  | nil => simp
  | cons s S ih =>
    rw [List.foldl_cons]
    have h1 := ih (inS s all M)
    have h2 := inS_len s all M
    rw [List.length_cons, Nat.add_mul, Nat.one_mul]; omega
theorem chc_len (v : Int) (bus : Bool) : 1 ≤ (chc v bus).length ∧ (chc v bus).length ≤ 3 := by
  unfold chc; repeat' split
  all_goals simp
theorem cS_len (l : List Int) (bus : Bool) (S : List T3) : (l.foldl (fun S v => midS S (chc v bus)) S).length ≤ S.length * 3 ^ l.length := by
  induction l generalizing S with
  | nil => simp
  | cons v l ih =>
    rw [List.foldl_cons]
    refine Nat.le_trans (ih _) ?_
    have h1 := mid_len S (chc v bus) []
    have h2 := (chc_len v bus).2
    have h3 : (midS S (chc v bus)).length ≤ S.length * 3 := by
      unfold midS
      have : S.length * (chc v bus).length ≤ S.length * 3 := Nat.mul_le_mul_left _ h2
      simp only [List.length_nil, Nat.zero_add] at h1
      omega
    rw [List.length_cons, Nat.pow_succ, Nat.mul_comm (3 ^ l.length) 3, ← Nat.mul_assoc]
    exact Nat.mul_le_mul_right _ h3
/-- the sums of the triples of the first k inputs -/
theorem addT_mem (M : List T3) (t s : T3) : s ∈ addT M t ↔ s ∈ M ∨ s = t := by
  unfold addT
  split
  · next h =>
    obtain ⟨u, hu, he⟩ := List.any_eq_true.1 h
    have he := (eqT_iff u t).1 he
    subst he
    constructor
    · exact .inl
    · rintro (h | rfl)
      · exact h
      · exact hu
  · simp
theorem inS_mem (s : T3) (all : List Int) (M : List T3) (t : T3) : t ∈ inS s all M ↔ t ∈ M ∨ ∃ x ∈ all, t = bump s x := by
  unfold inS
  induction all generalizing M with
  | nil => simp
  | cons x all ih =>
    rw [List.foldl_cons, ih, addT_mem]
    simp only [List.mem_cons, exists_eq_or_imp]
    exact or_assoc
theorem mid_mem (S : List T3) (all : List Int) (M : List T3) (t : T3) : t ∈ S.foldl (fun m s => inS s all m) M ↔ t ∈ M ∨ ∃ s ∈ S, ∃ x ∈ all, t = bump s x := by
  induction S generalizing M with
  | nil => simp
  | cons s S ih =>
    rw [List.foldl_cons, ih, inS_mem]
    simp only [List.mem_cons, exists_eq_or_imp]
    exact or_assoc
theorem midS_mem (S : List T3) (all : List Int) (t : T3) : t ∈ midS S all ↔ ∃ s ∈ S, ∃ x ∈ all, t = bump s x := by
  unfold midS; rw [mid_mem]; simp
theorem bump_sum (t : T3) (x : Int) : (bump t x).sum = t.sum + 1 := by unfold bump T3.sum; split <;> (try split) <;> simp <;> omega

theorem pos_of_mem {α : Type} {l : List α} {x : α} (h : x ∈ l) : 1 ≤ l.length := List.length_pos_of_mem h
theorem midS_pos (S : List T3) (all : List Int) (h1 : 1 ≤ S.length) (h2 : 1 ≤ all.length) : 1 ≤ (midS S all).length :=
  pos_of_mem ((midS_mem S all (bump S[0] all[0])).2 ⟨S[0], List.getElem_mem _, all[0], List.getElem_mem _, rfl⟩)
theorem foldS_pos (l : List Int) (bus : Bool) (S : List T3) (h : 1 ≤ S.length) : 1 ≤ (l.foldl (fun S v => midS S (chc v bus)) S).length := by
  induction l generalizing S with
  | nil => exact h
  | cons v l ih => rw [List.foldl_cons]; exact ih _ (midS_pos S _ h (chc_len v bus).1)
theorem cS_pos (l : List Int) (bus : Bool) : 1 ≤ (cS l bus).length := foldS_pos l bus _ (Nat.le_refl _)
theorem midS_sum (S : List T3) (all : List Int) (m : Nat) (h : ∀ t ∈ S, t.sum = m) : ∀ t ∈ midS S all, t.sum = m + 1 := by
  intro t ht
  obtain ⟨s, hs, x, -, rfl⟩ := (midS_mem S all t).1 ht
  rw [bump_sum, h s hs]
theorem foldS_sum (l : List Int) (bus : Bool) (S : List T3) (m : Nat) (h : ∀ t ∈ S, t.sum = m) : ∀ t ∈ l.foldl (fun S v => midS S (chc v bus)) S, t.sum = m + l.length := by
  induction l generalizing S m with
  | nil => simpa using h
  | cons v l ih =>
    rw [List.foldl_cons]
    intro t ht
    rw [ih _ (m + 1) (midS_sum S _ m h) t ht, List.length_cons]; omega
theorem cS_sum (l : List Int) (bus : Bool) : ∀ t ∈ cS l bus, t.sum = l.length := fun t ht => by
  have := foldS_sum l bus [T3.zero] 0 (by simp [T3.zero, T3.sum]) t ht
  omega
theorem getD_mem3 (S : List T3) (k : Nat) (h : k < S.length) : S.getD k T3.zero ∈ S := by
  rw [List.getD_eq_getElem?_getD, List.getElem?_eq_getElem h]; exact List.getElem_mem h
theorem cS_small (l : List Int) (bus : Bool) (h : l.length ≤ 7) : (cS l bus).length ≤ 2187 := by
  have h1 := cS_len l bus [T3.zero]
  have h2 : 3 ^ l.length ≤ 3 ^ 7 := Nat.pow_le_pow_right (by decide) h
  have : (cS l bus).length ≤ 1 * 3 ^ l.length := h1
  omega

theorem chc_ways' (v : Int) (bus : Bool) : chc v bus = [0] ∨ chc v bus = [1] ∨ chc v bus = [2] ∨ chc v bus = [0, 1, 2] ∨ chc v bus = [0, 1] := by
  unfold chc; repeat' split
  all_goals simp
theorem chc_vals (v : Int) (bus : Bool) (m : Nat) (h : m < (chc v bus).length) : (chc v bus).getD m 0 = 0 ∨ (chc v bus).getD m 0 = 1 ∨ (chc v bus).getD m 0 = 2 := by
  have hm : (chc v bus).getD m 0 ∈ chc v bus := by
    rw [List.getD_eq_getElem?_getD, List.getElem?_eq_getElem h]; exact List.getElem_mem h
  generalize (chc v bus).getD m 0 = z at hm ⊢
  rcases chc_ways' v bus with e | e | e | e | e <;> rw [e] at hm <;> simp at hm <;> omega

def comp (t : T3) (e : Nat) : Nat := if e = 0 then t.a else if e = 1 then t.b else t.c
/-- the inputs of a triple, in order, those below e -/
def pre (t : T3) (e : Nat) : List Int := if e = 0 then [] else if e = 1 then List.replicate t.a 0 else if e = 2 then List.replicate t.a 0 ++ List.replicate t.b 1 else List.replicate t.a 0 ++ List.replicate t.b 1 ++ List.replicate t.c 2
theorem pre_succ (t : T3) (e : Nat) (h : e < 3) : pre t (e + 1) = pre t e ++ List.replicate (comp t e) (e : Int) := by
  rcases (by omega : e = 0 ∨ e = 1 ∨ e = 2) with rfl | rfl | rfl <;> simp [pre, comp]
theorem pre_len (t : T3) (e : Nat) (h : e ≤ 3) : (pre t e).length ≤ t.sum := by
  unfold T3.sum
  rcases (by omega : e = 0 ∨ e = 1 ∨ e = 2 ∨ e = 3) with rfl | rfl | rfl | rfl <;> simp [pre] <;> omega
theorem comp_le (t : T3) (e : Nat) : comp t e ≤ t.sum := by
  unfold comp T3.sum
  split
  · omega
  · split <;> omega
def fnT (q : Int) (t : T3) : Int := fn q (pre t 3)
theorem cnt_app (x : Int) (a b : List Int) : cnt x (a ++ b) = cnt x a + cnt x b := by
  induction a with
  | nil => simp [cnt]
  | cons v a ih => rw [List.cons_append, cnt, cnt, ih]; omega
theorem cnt_rep (x y : Int) (m : Nat) : cnt x (List.replicate m y) = if y = x then m else 0 := by
  induction m with
  | zero => simp [cnt]
  | succ m ih => rw [List.replicate_succ, cnt, ih]; split <;> omega
theorem cnt_pre (t : T3) : cnt 1 (pre t 3) = t.b ∧ cnt 0 (pre t 3) = t.a := by
  have e : pre t 3 = List.replicate t.a 0 ++ List.replicate t.b 1 ++ List.replicate t.c 2 := rfl
  rw [e]
  constructor
  · rw [cnt_app, cnt_app, cnt_rep, cnt_rep, cnt_rep]; simp
  · rw [cnt_app, cnt_app, cnt_rep, cnt_rep, cnt_rep]; simp

end Go.Proofs.YtdanmepbdjfpfaaDoor
