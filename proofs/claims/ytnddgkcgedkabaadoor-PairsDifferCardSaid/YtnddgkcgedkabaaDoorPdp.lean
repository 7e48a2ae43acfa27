/- The plain facts behind the law on differences at a gate. -/
import Derived.Test.YtnddgkcgedkabaaDoorMono
import Derived.Test.YtnddgkcgedkabaaDoorPrp
namespace Go.Proofs.YtnddgkcgedkabaaDoor

/-- An input that the gate reads differently. -/
def difAt (q : Int) (p : Int × Int) : Bool := (cln p.1 != cln p.2) && ((q == 13) || (rd p.1 != rd p.2))
def anyDif (q : Int) (l : List (Int × Int)) : Bool := l.any (difAt q)

theorem rd_of_cln {a b : Int} (h : cln a = cln b) : rd a = rd b := by
  rcases knw_cases a with ⟨rfl, -, h1, h2⟩ | ⟨rfl, -, h1, h2⟩ | ⟨h0, h1, -, h2⟩
  · rw [h2] at h
    rw [cln_0 h.symm]
  · rw [h2] at h
    rw [cln_1 h.symm]
  · rcases knw_cases b with ⟨rfl, -, k1, k2⟩ | ⟨rfl, -, k1, k2⟩ | ⟨k0, k1, -, k2⟩
    · rw [k2] at h; exact absurd (cln_0 h) h0
    · rw [k2] at h; exact absurd (cln_1 h) h1
    · rw [h2, k2]
theorem rd_one (a : Int) : rd a = 1 ↔ a = 1 := by
  rcases knw_cases a with ⟨rfl, -, h, -⟩ | ⟨rfl, -, h, -⟩ | ⟨h0, h1, -, h⟩
  · rw [h]
  · rw [h]
  · rw [h]; simp [h1]
theorem par_rd : ∀ l : List Int, par (l.map rd) = par l
  | [] => rfl
  | v :: l => by
    simp only [List.map_cons, par, par_rd l]
    by_cases h : v = 1
    · rw [if_pos h, if_pos ((rd_one v).2 h)]
    · rw [if_neg h, if_neg (fun k => h ((rd_one v).1 k))]
theorem getD_rd (l : List Int) (j : Nat) : (l.map rd).getD j 0 = rd (l.getD j 0) := by
  rw [List.getD_eq_getElem?_getD, List.getElem?_map, List.getD_eq_getElem?_getD]
  cases l[j]? with
  | none => decide
  | some x => rfl
theorem nt_rd {a b : Int} (h : rd a = rd b) : nt a = nt b := by unfold nt; rw [h]
theorem mx_rd {s a b s' a' b' : Int} (hs : rd s = rd s') (ha : rd a = rd a') (hb : rd b = rd b') : mx s a b = mx s' a' b' := by unfold mx; rw [hs, ha, hb]
theorem tr_rd {a b a' b' : Int} (ha : rd a = rd a') (hb : rd b = rd b') : tr a b = tr a' b' := by unfold tr; rw [ha, hb]
theorem any_rd {l m : List Int} (h : l.map rd = m.map rd) (x : Int) : anyIs rd x l = anyIs rd x m := by rw [anyIs_map, anyIs_map, h]
theorem len_rd {g : Int → Int} {l m : List Int} (h : l.map g = m.map g) : l.length = m.length := by have := congrArg List.length h; simpa using this
/-- But for the bus, a gate sees only what it reads. -/
theorem eval_rd (q : Int) (hq : q ≠ 13) {l m : List Int} (h : l.map rd = m.map rd) : evalL q l = evalL q m := by
  have hl := len_rd h
  have hg : ∀ j, rd (l.getD j 0) = rd (m.getD j 0) := fun j => by rw [← getD_rd, ← getD_rd, h]
  have ha : andL l = andL m := by unfold andL; rw [any_rd h, any_rd h]
  have ho : orL l = orL m := by unfold orL; rw [any_rd h, any_rd h]
  have hx : xorL l = xorL m := by unfold xorL; rw [any_rd h, ← par_rd l, ← par_rd m, h]
  unfold evalL
  rw [hl]
  congr 1
  unfold funL
  rw [ha, ho, hx, hg 0, nt_rd (hg 0), mx_rd (hg 0) (hg 1) (hg 2), tr_rd (hg 0) (hg 1), if_neg hq, if_neg hq]
theorem eval_bus {l m : List Int} (h : l.map cln = m.map cln) : evalL 13 l = evalL 13 m := by
  have ha : ∀ x, anyIs cln x l = anyIs cln x m := fun x => by rw [anyIs_map, anyIs_map, h]
  have hb : busL l = busL m := by unfold busL conL; rw [ha, ha, ha]
  unfold evalL
  rw [len_rd h]
  congr 1
/-- A difference at the output comes from an input that the gate reads differently. -/
theorem dif_from (q : Int) (l : List (Int × Int)) (h : anyDif q l = false) : dif (evalL q (l.map Prod.fst)) (evalL q (l.map Prod.snd)) = false := by
  have hall : ∀ p ∈ l, difAt q p = false := fun p hp => by
    have := List.any_eq_false.1 h p hp
    simpa using this
  have he : evalL q (l.map Prod.fst) = evalL q (l.map Prod.snd) := by
    by_cases hq : q = 13
    · subst hq
      refine eval_bus ?_
      rw [List.map_map, List.map_map]
      refine List.map_congr_left fun p hp => ?_
      have := hall p hp
      simpa [difAt] using this
    · refine eval_rd q hq ?_
      rw [List.map_map, List.map_map]
      refine List.map_congr_left fun p hp => ?_
      have := hall p hp
      simp [difAt, hq] at this
      show rd p.1 = rd p.2
      by_cases hc : cln p.1 = cln p.2
      · exact rd_of_cln hc
      · exact this hc
  rw [he]; simp [dif]

theorem eval_in {q : Int} {l : List Int} (h : ¬ ((l.length : Int) < lo q ∨ hi q < l.length)) : evalL q l = funL q l := by unfold evalL; rw [if_neg h]
theorem rep_none (x y : Int) (h : rd y ≠ x) : ∀ m, anyIs rd x (List.replicate m y) = false
  | 0 => rfl
  | m + 1 => by rw [List.replicate_succ]; simp only [anyIs, List.any_cons]; rw [show (rd y == x) = false by simpa using h, Bool.false_or]; exact rep_none x y h m
theorem and_rep (m : Nat) : andL (List.replicate m 1) = 1 := by simp [andL, rep_none 0 1 (by decide) m, rep_none 2 1 (by decide) m]
theorem or_rep (m : Nat) : orL (List.replicate m 0) = 0 := by simp [orL, rep_none 1 0 (by decide) m, rep_none 2 0 (by decide) m]
theorem and_has {l : List Int} (k : Nat) (hk : k < l.length) (h : l.getD k 0 = 0) : andL l = 0 := by
  rw [andL, if_pos (anyIs_yes k hk (by rw [h]; decide))]
theorem or_has {l : List Int} (k : Nat) (hk : k < l.length) (h : l.getD k 0 = 1) : orL l = 1 := by
  rw [orL, if_pos (anyIs_yes k hk (by rw [h]; decide))]
theorem rep_set {α : Type} (n k : Nat) (x : α) : (List.replicate n x).set k x = List.replicate n x := by
  apply List.ext_getElem
  · simp
  · intro j h1 h2
    rw [List.getElem_set]
    split <;> simp
theorem getD_set {l : List Int} {k : Nat} (x : Int) (h : k < l.length) : (l.set k x).getD k 0 = x := by
  rw [List.getD_eq_getElem?_getD, List.getElem?_set]; simp [h]
theorem getD_set_ne {l : List Int} {k j : Nat} (x : Int) (h : k ≠ j) : (l.set k x).getD j 0 = l.getD j 0 := by
  rw [List.getD_eq_getElem?_getD, List.getElem?_set, if_neg h, ← List.getD_eq_getElem?_getD]

/-- The inputs of the law: D at k, all others at the value that does not control. -/
def inD (v : Int) (n k : Nat) : List (Int × Int) := (List.replicate n (nt v, nt v)).set k (1, 0)
def inV (v : Int) (n k j : Nat) : List (Int × Int) := (inD v n k).set j (v, v)
theorem inD_len (v : Int) (n k : Nat) : (inD v n k).length = n := by simp [inD]
theorem inV_len (v : Int) (n k j : Nat) : (inV v n k j).length = n := by simp [inV, inD]
theorem inD_fst (v : Int) (n k : Nat) : (inD v n k).map Prod.fst = (List.replicate n (nt v)).set k 1 := by simp [inD, List.map_set]
theorem inD_snd (v : Int) (n k : Nat) : (inD v n k).map Prod.snd = (List.replicate n (nt v)).set k 0 := by simp [inD, List.map_set]
theorem inV_fst (v : Int) (n k j : Nat) : (inV v n k j).map Prod.fst = ((List.replicate n (nt v)).set k 1).set j v := by rw [inV, List.map_set, inD_fst]
theorem inV_snd (v : Int) (n k j : Nat) : (inV v n k j).map Prod.snd = ((List.replicate n (nt v)).set k 0).set j v := by rw [inV, List.map_set, inD_snd]

def evP1' (k : Int) (l : List (Int × Int)) : Int := evalL k (l.map Prod.fst)
def evP2' (k : Int) (l : List (Int × Int)) : Int := evalL k (l.map Prod.snd)

section
variable {n k : Nat} (h1 : 2 ≤ n) (h2 : n ≤ 16) (hk : k < n)
include h1 h2
theorem ev_len {q : Int} (hq : q = 5 ∨ q = 6 ∨ q = 7 ∨ q = 8) {l : List Int} (hl : l.length = n) : evalL q l = funL q l := by
  refine eval_in ?_
  have e1 : lo q = 2 := by rcases hq with rfl | rfl | rfl | rfl <;> decide
  have e2 : hi q = 16 := by rcases hq with rfl | rfl | rfl | rfl <;> decide
  rw [e1, e2, hl]; omega
include hk
/-- What the gate makes of one difference. -/
theorem out_D (q : Int) (hq : q = 5 ∨ q = 6 ∨ q = 7 ∨ q = 8) : evP1' q (inD (ctl q) n k) = (if inv q = true then 0 else 1) ∧ evP2' q (inD (ctl q) n k) = (if inv q = true then 1 else 0) := by
  unfold evP1' evP2'
  rw [inD_fst, inD_snd, ev_len h1 h2 hq (by simp), ev_len h1 h2 hq (by simp)]
  have hk' : ∀ x : Int, k < (List.replicate n x).length := fun x => by simpa using hk
  rcases hq with rfl | rfl | rfl | rfl
  · rw [show ctl 5 = 0 by decide, show nt 0 = 1 by decide, show inv 5 = false by decide]
    refine ⟨?_, ?_⟩
    · show andL _ = _
      rw [rep_set, and_rep]; rfl
    · show andL _ = _
      rw [and_has k (by simpa using hk) (getD_set 0 (hk' 1))]; rfl
  · rw [show ctl 6 = 0 by decide, show nt 0 = 1 by decide, show inv 6 = true by decide]
    refine ⟨?_, ?_⟩
    · show nt (andL _) = _
      rw [rep_set, and_rep]; decide
    · show nt (andL _) = _
      rw [and_has k (by simpa using hk) (getD_set 0 (hk' 1))]; decide
  · rw [show ctl 7 = 1 by decide, show nt 1 = 0 by decide, show inv 7 = false by decide]
    refine ⟨?_, ?_⟩
    · show orL _ = _
      rw [or_has k (by simpa using hk) (getD_set 1 (hk' 0))]; rfl
    · show orL _ = _
      rw [rep_set, or_rep]; rfl
  · rw [show ctl 8 = 1 by decide, show nt 1 = 0 by decide, show inv 8 = true by decide]
    refine ⟨?_, ?_⟩
    · show nt (orL _) = _
      rw [or_has k (by simpa using hk) (getD_set 1 (hk' 0))]; decide
    · show nt (orL _) = _
      rw [rep_set, or_rep]; decide
end

section
variable {n k j : Nat} (h1 : 2 ≤ n) (h2 : n ≤ 16) (hj : j < n)
include h1 h2 hj
/-- A controlling value beside it stops it. -/
theorem out_V (q : Int) (hq : q = 5 ∨ q = 6 ∨ q = 7 ∨ q = 8) : dif (evP1' q (inV (ctl q) n k j)) (evP2' q (inV (ctl q) n k j)) = false := by
  unfold evP1' evP2'
  rw [inV_fst, inV_snd, ev_len h1 h2 hq (by simp), ev_len h1 h2 hq (by simp)]
  have hl : ∀ x y : Int, j < ((List.replicate n x).set k y).length := fun x y => by simpa using hj
  have he : ∀ x : Int, j < (((List.replicate n x).set k 1).set j x).length := fun x => by simpa using hj
  rcases hq with rfl | rfl | rfl | rfl
  · rw [show ctl 5 = 0 by decide]
    show dif (andL _) (andL _) = _
    rw [and_has j (by simpa using hj) (getD_set 0 (hl _ _)), and_has j (by simpa using hj) (getD_set 0 (hl _ _))]; decide
  · rw [show ctl 6 = 0 by decide]
    show dif (nt (andL _)) (nt (andL _)) = _
    rw [and_has j (by simpa using hj) (getD_set 0 (hl _ _)), and_has j (by simpa using hj) (getD_set 0 (hl _ _))]; decide
  · rw [show ctl 7 = 1 by decide]
    show dif (orL _) (orL _) = _
    rw [or_has j (by simpa using hj) (getD_set 1 (hl _ _)), or_has j (by simpa using hj) (getD_set 1 (hl _ _))]; decide
  · rw [show ctl 8 = 1 by decide]
    show dif (nt (orL _)) (nt (orL _)) = _
    rw [or_has j (by simpa using hj) (getD_set 1 (hl _ _)), or_has j (by simpa using hj) (getD_set 1 (hl _ _))]; decide
end

end Go.Proofs.YtnddgkcgedkabaaDoor
