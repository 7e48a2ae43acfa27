/- The texts Eck Wcp. -/
import Derived.Test.YtemogllidmgbfaaGreatDoorM03
import Derived.Test.YtemogllidmgbfaaGreatDoorM15
import Derived.Test.YtemogllidmgbfaaGreatDoorM26
import Derived.Deep.DeepCutAuto
import Derived.Deep.CutBlock
import Derived.Test.YtemogllidmgbfaaGreatDoorM07
import Derived.Test.YtemogllidmgbfaaGreatDoorM27
import Derived.Test.YtemogllidmgbfaaGreatDoorM28
import Derived.Test.YtemogllidmgbfaaGreatDoorM25
namespace Go.Proofs.YtemogllidmgbfaaGreatDoor
open Go.RowKit

/-- The error of a circuit without memories and a pattern. -/
noncomputable def ckE (c : Ck) (pin pst : List Int) : Int := if chkErr c ≠ 0 then chkErr c else cpE c pin pst
theorem ckE_bad {c : Ck} {pin pst : List Int} (h : chkErr c ≠ 0) : ckE c pin pst = chkErr c := by unfold ckE; rw [if_pos h]
theorem ckE_mem {c : Ck} {pin pst : List Int} (h : chkErr c = 0) (hm : c.mems.length ≠ 0) : ckE c pin pst = 7 := by
  unfold ckE cpE; rw [if_neg (by rw [h]; decide), if_pos hm]
theorem ckE_wide {c : Ck} {pin pst : List Int} (h : chkErr c = 0) (hm : c.mems.length = 0) (hw : pin.length ≠ (ofTo c.nodes [0] c.nodes.length).length ∨ pst.length ≠ (ofTo c.nodes [14] c.nodes.length).length) : ckE c pin pst = 8 := by
  unfold ckE cpE; rw [if_neg (by rw [h]; decide), if_neg (by rw [hm]; decide), if_pos hw]
theorem ckE_val {c : Ck} {pin pst : List Int} (h : chkErr c = 0) (hm : c.mems.length = 0) (h1 : pin.length = (ofTo c.nodes [0] c.nodes.length).length) (h2 : pst.length = (ofTo c.nodes [14] c.nodes.length).length) : ckE c pin pst = if anyP abv pin || anyP abv pst then 1 else 0 := by
  unfold ckE cpE; rw [if_neg (by rw [h]; decide), if_neg (by rw [hm]; decide), if_neg (by simp [h1, h2])]
end Go.Proofs.YtemogllidmgbfaaGreatDoor

namespace Go.Proofs.YtemogllidmgbfaaGreatDoor

noncomputable def blE (c : Ck) : Int := ckE c (List.replicate (ofTo c.nodes [0] c.nodes.length).length 2) (List.replicate (ofTo c.nodes [14] c.nodes.length).length 2)
noncomputable def foldE (c : Ck) (z : Int) (ps : List (List Int × List Int)) : Int := ps.foldl (fun e x => if e = 0 then ckE c x.1 x.2 else e) z
/-- The error of a circuit and up to 64 patterns. -/
noncomputable def wkE (c : Ck) (ps : List (List Int × List Int)) : Int := if 64 < ps.length then 3 else foldE c (blE c) ps
theorem rep_low (n : Nat) : anyP abv (List.replicate n 2) = false := anyP_no fun j hj => by
  rw [List.getD_eq_getElem?_getD, List.getElem?_replicate]
  split <;> decide
theorem blE_of {c : Ck} (h : chkErr c = 0) (hm : c.mems.length = 0) : blE c = 0 := by
  unfold blE
  rw [ckE_val h hm (by simp) (by simp), rep_low, rep_low]
  rfl
theorem blE_zero {c : Ck} (h : blE c = 0) : chkErr c = 0 ∧ c.mems.length = 0 := by
  by_cases h1 : chkErr c = 0
  · refine ⟨h1, ?_⟩
    by_cases h2 : c.mems.length = 0
    · exact h2
    · unfold blE at h; rw [ckE_mem h1 h2] at h; cases h
  · unfold blE at h; rw [ckE_bad h1] at h; exact absurd h h1
theorem mis_zero {c : Ck} (h : chkErr c = 0) (hm : c.mems.length = 0) (x : List Int × List Int) :
    misB x (ofTo c.nodes [0] c.nodes.length).length (ofTo c.nodes [14] c.nodes.length).length = false ↔ ckE c x.1 x.2 = 0 := by
  unfold misB fitB
  by_cases h1 : x.1.length = (ofTo c.nodes [0] c.nodes.length).length
  · by_cases h2 : x.2.length = (ofTo c.nodes [14] c.nodes.length).length
    · rw [ckE_val h hm h1 h2, decide_eq_true h1, decide_eq_true h2]
      cases anyP abv x.1 <;> cases anyP abv x.2 <;> decide
    · rw [ckE_wide h hm (.inr h2), decide_eq_false h2]
      simp
  · rw [ckE_wide h hm (.inl h1), decide_eq_false h1]
    simp
theorem foldE_nz {c : Ck} {z : Int} (hz : z ≠ 0) : ∀ ps, foldE c z ps = z
  | [] => rfl
  | x :: ps => by
    show foldE c (if z = 0 then ckE c x.1 x.2 else z) ps = z
    rw [if_neg hz]
    exact foldE_nz hz ps
theorem foldE_zero {c : Ck} : ∀ {ps : List (List Int × List Int)}, (∀ k, k < ps.length → ckE c (ps.getD k ([], [])).1 (ps.getD k ([], [])).2 = 0) → foldE c 0 ps = 0
  | [], _ => rfl
  | x :: ps, h => by
    show foldE c (if (0 : Int) = 0 then ckE c x.1 x.2 else 0) ps = 0
    have h0 : ckE c x.1 x.2 = 0 := h 0 (by simp)
    rw [if_pos rfl, h0]
    exact foldE_zero fun k hk => h (k + 1) (by simpa using hk)
theorem foldE_first {c : Ck} : ∀ {ps : List (List Int × List Int)} {k : Nat}, k < ps.length → ckE c (ps.getD k ([], [])).1 (ps.getD k ([], [])).2 ≠ 0 → (∀ j, j < k → ckE c (ps.getD j ([], [])).1 (ps.getD j ([], [])).2 = 0) → foldE c 0 ps = ckE c (ps.getD k ([], [])).1 (ps.getD k ([], [])).2
  | [], k, hk, _, _ => absurd hk (by simp)
  | x :: ps, 0, _, h, _ => by
    show foldE c (if (0 : Int) = 0 then ckE c x.1 x.2 else 0) ps = ckE c x.1 x.2
    rw [if_pos rfl]
    exact foldE_nz h ps
  | x :: ps, k + 1, hk, h, hj => by
    show foldE c (if (0 : Int) = 0 then ckE c x.1 x.2 else 0) ps = ckE c (ps.getD k ([], [])).1 (ps.getD k ([], [])).2
    have h0 : ckE c x.1 x.2 = 0 := hj 0 (by omega)
    rw [if_pos rfl, h0]
    exact foldE_first (by simpa using hk) h fun j hj2 => hj (j + 1) (by omega)
/-- What the search for a pattern that does not fit says of the error. -/
theorem first_fold {c : Ck} (h : chkErr c = 0) (hm : c.mems.length = 0) {ps : List (List Int × List Int)} {i : Int} (hf : FirstBad ps ps.length (ofTo c.nodes [0] c.nodes.length).length (ofTo c.nodes [14] c.nodes.length).length i) :
    (i = -1 ∧ foldE c (blE c) ps = 0) ∨ ∃ k : Nat, k < ps.length ∧ i = (k : Int) ∧ foldE c (blE c) ps = ckE c (ps.getD k ([], [])).1 (ps.getD k ([], [])).2 := by
  rw [blE_of h hm]
  rcases hf with ⟨e, h1⟩ | ⟨k, hk, e, h1, h2⟩
  · exact .inl ⟨e, foldE_zero fun k hk => (mis_zero h hm _).1 (h1 k hk)⟩
  · refine .inr ⟨k, hk, e, foldE_first hk (fun e0 => ?_) fun j hj => (mis_zero h hm _).1 (h2 j hj)⟩
    rw [(mis_zero h hm _).2 e0] at h1
    cases h1
end Go.Proofs.YtemogllidmgbfaaGreatDoor
