/- WordsPairs: plain: Eval does not tell a value from what it is read as; the word of a pair. -/
import Derived.Test.YtemogllidmgbfaaGreatDoorM24
import Derived.Test.YtemogllidmgbfaaGreatDoorM21
import Derived.Test.YtemogllidmgbfaaGreatDoorM36
namespace Go.Proofs.YtemogllidmgbfaaGreatDoor

theorem rd_cln2 (a : Int) : rd (cln a) = rd a := by
  unfold cln
  split
  · rcases knw_cases a with ⟨h, -⟩ | ⟨h, -⟩ | ⟨-, -, -, h⟩
    · omega
    · omega
    · rw [h]; decide
  · rfl
theorem cln_cln2 (a : Int) : cln (cln a) = cln a := by
  by_cases h : 3 < a
  · have e : cln a = 2 := by unfold cln; rw [if_pos h]
    rw [e]; decide
  · have e : cln a = a := by unfold cln; rw [if_neg h]
    rw [e, e]
theorem any_map_cln (f : Int → Int) (hf : ∀ a, f (cln a) = f a) (x : Int) (l : List Int) : anyIs f x (l.map cln) = anyIs f x l := by
  unfold anyIs
  rw [List.any_map]
  congr 1
  funext a
  show (f (cln a) == x) = (f a == x)
  rw [hf]
theorem par_map_cln : ∀ l : List Int, par (l.map cln) = par l
  | [] => rfl
  | v :: l => by
    have h : (cln v = 1) = (v = 1) := by
      unfold cln
      split
      · rw [eq_iff_iff]; omega
      · rfl
    show (if cln v = 1 then 1 - par (l.map cln) else par (l.map cln)) = _
    rw [par_map_cln l]
    simp only [h]
    rfl
theorem getD_map_cln (l : List Int) (k : Nat) : (l.map cln).getD k 0 = cln (l.getD k 0) := by
  rw [List.getD_eq_getElem?_getD, List.getElem?_map, List.getD_eq_getElem?_getD]
  cases l[k]? <;> rfl
theorem evalL_map_cln (k : Int) (l : List Int) : evalL k (l.map cln) = evalL k l := by
  have hn : ∀ a, nt (cln a) = nt a := fun a => by unfold nt; rw [rd_cln2]
  have hm : ∀ a b c, mx (cln a) (cln b) (cln c) = mx a b c := fun a b c => by unfold mx; rw [rd_cln2, rd_cln2, rd_cln2]
  have ht : ∀ a b, tr (cln a) (cln b) = tr a b := fun a b => by unfold tr; rw [rd_cln2, rd_cln2]
  have ha : andL (l.map cln) = andL l := by unfold andL; rw [any_map_cln rd rd_cln2, any_map_cln rd rd_cln2]
  have ho : orL (l.map cln) = orL l := by unfold orL; rw [any_map_cln rd rd_cln2, any_map_cln rd rd_cln2]
  have hx : xorL (l.map cln) = xorL l := by unfold xorL; rw [any_map_cln rd rd_cln2, par_map_cln]
  have hb : busL (l.map cln) = busL l := by unfold busL conL; simp only [any_map_cln cln cln_cln2]
  unfold evalL
  rw [List.length_map]
  unfold funL
  rw [ha, ho, hx, hb, getD_map_cln, getD_map_cln, getD_map_cln, rd_cln2, hn, hm, ht]
/-- The word of a pair. -/
def pw (x : Int × Int) : Nat × Nat := (pkA [x.1, x.2] 2, pkB [x.1, x.2] 2)
theorem pw_w (x : Int × Int) : W64 (pw x).1 ∧ W64 (pw x).2 := ⟨pkA_w _ _ (by decide), pkB_w _ _ (by decide)⟩
theorem pw_ln {x : Int × Int} (h : 0 ≤ x.1 ∧ 0 ≤ x.2) : lnV (pw x).1 (pw x).2 0 = cln x.1 ∧ lnV (pw x).1 (pw x).2 1 = cln x.2 := by
  have h0 : ∀ y ∈ [x.1, x.2], 0 ≤ y := fun y hy => by
    simp only [List.mem_cons, List.not_mem_nil, or_false] at hy
    rcases hy with rfl | rfl
    · exact h.1
    · exact h.2
  exact ⟨pack_ln h0 (by decide), pack_ln h0 (by decide)⟩
theorem pws_w (l : List (Int × Int)) : ∀ k, W64 ((l.map pw).getD k (0, 0)).1 ∧ W64 ((l.map pw).getD k (0, 0)).2 := fun k => by
  rw [List.getD_eq_getElem?_getD, List.getElem?_map]
  cases l[k]? with
  | none => exact ⟨w_zero, w_zero⟩
  | some x => exact pw_w x
theorem pws_ln {l : List (Int × Int)} (h : ∀ x ∈ l, 0 ≤ x.1 ∧ 0 ≤ x.2) : lanes (l.map pw) 0 = (l.map Prod.fst).map cln ∧ lanes (l.map pw) 1 = (l.map Prod.snd).map cln := by
  unfold lanes
  rw [List.map_map, List.map_map, List.map_map, List.map_map]
  exact ⟨List.map_congr_left fun x hx => (pw_ln (h x hx)).1, List.map_congr_left fun x hx => (pw_ln (h x hx)).2⟩
/-- A word of pairs behaves as the pairs. -/
theorem pws_ev {l : List (Int × Int)} (h : ∀ x ∈ l, 0 ≤ x.1 ∧ 0 ≤ x.2) (k : Int) : lnV (evW k (l.map pw)).1 (evW k (l.map pw)).2 0 = evalL k (l.map Prod.fst) ∧ lnV (evW k (l.map pw)).1 (evW k (l.map pw)).2 1 = evalL k (l.map Prod.snd) := by
  rw [evW_ln (pws_w l) (by decide) k, evW_ln (pws_w l) (by decide) k, (pws_ln h).1, (pws_ln h).2, evalL_map_cln, evalL_map_cln]
  exact ⟨rfl, rfl⟩
end Go.Proofs.YtemogllidmgbfaaGreatDoor
