/- The plain facts behind the law of duality: De Morgan's laws, turned lists, a list's first value and the others. -/
import Derived.Test.YtdanmepbdjfpfaaDoorMono
namespace Go.Proofs.YtdanmepbdjfpfaaDoor

theorem nt_ways (v : Int) : (rd v = 0 ∧ nt v = 1) ∨ (rd v = 1 ∧ nt v = 0) ∨ (rd v = 2 ∧ nt v = 2) := by
  rcases rd_cases v with h | h | h
  · exact .inl ⟨h, by simp [nt, h]⟩
  · exact .inr (.inl ⟨h, by simp [nt, h]⟩)
  · exact .inr (.inr ⟨h, by simp [nt, h]⟩)
theorem nt_nt (v : Int) : nt (nt v) = rd v := by
  rcases nt_ways v with ⟨h, e⟩ | ⟨h, e⟩ | ⟨h, e⟩ <;> rw [e, h] <;> decide
theorem not_any1 (l : List Int) : anyIs rd 1 (l.map nt) = anyIs rd 0 l := by
  unfold anyIs
  rw [List.any_map]
  congr 1
  funext v
  show (rd (nt v) == 1) = (rd v == 0)
  rcases nt_ways v with ⟨h, e⟩ | ⟨h, e⟩ | ⟨h, e⟩ <;> rw [e, h] <;> decide
theorem not_any0 (l : List Int) : anyIs rd 0 (l.map nt) = anyIs rd 1 l := by
  unfold anyIs
  rw [List.any_map]
  congr 1
  funext v
  show (rd (nt v) == 0) = (rd v == 1)
  rcases nt_ways v with ⟨h, e⟩ | ⟨h, e⟩ | ⟨h, e⟩ <;> rw [e, h] <;> decide
theorem not_any2 (l : List Int) : anyIs rd 2 (l.map nt) = anyIs rd 2 l := by
  unfold anyIs
  rw [List.any_map]
  congr 1
  funext v
  show (rd (nt v) == 2) = (rd v == 2)
  rcases nt_ways v with ⟨h, e⟩ | ⟨h, e⟩ | ⟨h, e⟩ <;> rw [e, h] <;> decide
theorem morgan_and (l : List Int) : nt (andL l) = orL (l.map nt) := by
  unfold andL orL
  rw [not_any1, not_any2]
  cases anyIs rd 0 l <;> cases anyIs rd 2 l <;> decide
theorem morgan_or (l : List Int) : nt (orL l) = andL (l.map nt) := by
  unfold andL orL
  rw [not_any0, not_any2]
  cases anyIs rd 1 l <;> cases anyIs rd 2 l <;> decide

def rotL (l : List Int) (k : Nat) : List Int := l.drop k ++ l.take k
theorem any_rot (g : Int → Int) (x : Int) (l : List Int) (k : Nat) : anyIs g x (rotL l k) = anyIs g x l := by
  unfold anyIs rotL
  rw [List.any_append, Bool.or_comm, ← List.any_append, List.take_append_drop]
theorem par_app (a b : List Int) : par (a ++ b) = if par a = 1 then 1 - par b else par b := by
  induction a with
  | nil => simp [par]
  | cons v a ih =>
    have h1 := par_cases a
    have h2 := par_cases b
    by_cases hv : v = 1
    · rw [List.cons_append, par, if_pos hv, par, if_pos hv, ih]
      split <;> split <;> omega
    · rw [List.cons_append, par, if_neg hv, par, if_neg hv, ih]
theorem par_rot (l : List Int) (k : Nat) : par (rotL l k) = par l := by
  have e : par l = par (l.take k ++ l.drop k) := by rw [List.take_append_drop]
  rw [e, rotL, par_app, par_app]
  have := par_cases (l.take k)
  have := par_cases (l.drop k)
  split <;> split <;> omega
theorem and_rot (l : List Int) (k : Nat) : andL (rotL l k) = andL l := by unfold andL; rw [any_rot, any_rot]
theorem or_rot (l : List Int) (k : Nat) : orL (rotL l k) = orL l := by unfold orL; rw [any_rot, any_rot]
theorem xor_rot (l : List Int) (k : Nat) : xorL (rotL l k) = xorL l := by unfold xorL; rw [any_rot, par_rot]
theorem con_rot (l : List Int) (k : Nat) : conL (rotL l k) = conL l := by unfold conL; rw [any_rot, any_rot]
theorem bus_rot (l : List Int) (k : Nat) : busL (rotL l k) = busL l := by unfold busL; rw [con_rot, any_rot, any_rot, any_rot]

theorem any_cons (g : Int → Int) (x v : Int) (l : List Int) : anyIs g x (v :: l) = ((g v == x) || anyIs g x l) := rfl
theorem any_nil (g : Int → Int) (x : Int) : anyIs g x [] = false := rfl
def andB (p q : Bool) : Int := if p = true then 0 else if q = true then 2 else 1
def orB (p q : Bool) : Int := if p = true then 1 else if q = true then 2 else 0
def xorB (q : Bool) (p : Int) : Int := if q = true then 2 else p
theorem andL_B (l : List Int) : andL l = andB (anyIs rd 0 l) (anyIs rd 2 l) := rfl
theorem orL_B (l : List Int) : orL l = orB (anyIs rd 1 l) (anyIs rd 2 l) := rfl
theorem xorL_B (l : List Int) : xorL l = xorB (anyIs rd 2 l) (par l) := rfl
theorem par_cons (v : Int) (l : List Int) : par (v :: l) = if v = 1 then 1 - par l else par l := rfl
theorem and_two (x : Int) (t : List Int) : andL [x, andL t] = andL (x :: t) := by
  rw [andL_B, andL_B (x :: t), andL_B t]
  rw [any_cons, any_cons, any_nil, any_cons, any_cons, any_nil, any_cons, any_cons]
  generalize anyIs rd 0 t = p
  generalize anyIs rd 2 t = q
  rcases rd_cases x with h | h | h <;> rw [h] <;> cases p <;> cases q <;> decide
theorem or_two (x : Int) (t : List Int) : orL [x, orL t] = orL (x :: t) := by
  rw [orL_B, orL_B (x :: t), orL_B t]
  rw [any_cons, any_cons, any_nil, any_cons, any_cons, any_nil, any_cons, any_cons]
  generalize anyIs rd 1 t = p
  generalize anyIs rd 2 t = q
  rcases rd_cases x with h | h | h <;> rw [h] <;> cases p <;> cases q <;> decide
theorem xor_two (x : Int) (t : List Int) : xorL [x, xorL t] = xorL (x :: t) := by
  rw [xorL_B, xorL_B (x :: t), xorL_B t]
  rw [any_cons, any_cons, any_nil, any_cons, par_cons, par_cons, par_cons]
  have hp := par_cases t
  generalize par t = p at hp
  generalize anyIs rd 2 t = q
  rcases knw_cases x with ⟨rfl, _⟩ | ⟨rfl, _⟩ | ⟨_, _, _, h⟩
  · cases q <;> rcases hp with rfl | rfl <;> decide
  · cases q <;> rcases hp with rfl | rfl <;> decide
  · rw [h]; rfl
theorem xor_one (x : Int) : xorL [x, 1] = nt x := by
  rw [xorL_B, any_cons, any_cons, any_nil, par_cons]
  rcases knw_cases x with ⟨rfl, _⟩ | ⟨rfl, _⟩ | ⟨_, _, _, h⟩
  · decide
  · decide
  · rw [h, nt_2 h]; rfl
theorem mx_01 (x : Int) : mx x 0 1 = rd x := by
  unfold mx
  rcases rd_cases x with h | h | h <;> rw [h] <;> decide
theorem head_tail {l : List Int} (h : 1 ≤ l.length) : l = l.getD 0 0 :: l.drop 1 := by
  cases l with
  | nil => simp at h
  | cons a t => simp

end Go.Proofs.YtdanmepbdjfpfaaDoor
