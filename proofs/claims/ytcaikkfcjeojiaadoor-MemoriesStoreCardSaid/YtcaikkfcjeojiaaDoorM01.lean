/- The texts Pure LgScal. -/
import Derived.Below
import Derived.Test.YtcaikkfcjeojiaaDoorRows
import Derived.WalkKit
import Derived.WalkSpells
import Derived.WalkLawsBesides
import Derived.Lib.Hide
namespace Go.Proofs.YtcaikkfcjeojiaaDoor

/-- a value above 3 counts as 2 -/
def cln (a : Int) : Int := if 3 < a then 2 else a
def knw (a : Int) : Bool := a == 0 || a == 1
def rd (a : Int) : Int := if knw a = true then a else 2
def blw (a b : Int) : Bool := cln a == cln b || cln a == 2
def nt (a : Int) : Int := if rd a = 0 then 1 else if rd a = 1 then 0 else 2
def mx (s a b : Int) : Int := if rd s = 0 then rd a else if rd s = 1 then rd b else if rd a = rd b then rd a else 2
def tr (e d : Int) : Int := if rd e = 0 then 3 else if rd e = 1 then rd d else 2
def anyIs (f : Int → Int) (x : Int) (l : List Int) : Bool := l.any fun v => f v == x
def andL (l : List Int) : Int := if anyIs rd 0 l = true then 0 else if anyIs rd 2 l = true then 2 else 1
def orL (l : List Int) : Int := if anyIs rd 1 l = true then 1 else if anyIs rd 2 l = true then 2 else 0
/-- the parity of the ones -/
def par : List Int → Int
  | [] => 0
  | v :: l => if v = 1 then 1 - par l else par l
def xorL (l : List Int) : Int := if anyIs rd 2 l = true then 2 else par l
def conL (l : List Int) : Bool := anyIs cln 0 l && anyIs cln 1 l
def busL (l : List Int) : Int := if (anyIs cln 2 l || conL l) = true then 2 else if anyIs cln 0 l = true then 0 else if anyIs cln 1 l = true then 1 else 3

theorem knw_cases (a : Int) : (a = 0 ∧ knw a = true ∧ rd a = 0 ∧ cln a = 0) ∨ (a = 1 ∧ knw a = true ∧ rd a = 1 ∧ cln a = 1) ∨ (a ≠ 0 ∧ a ≠ 1 ∧ knw a = false ∧ rd a = 2) := by
  by_cases h0 : a = 0
  · subst h0; exact .inl ⟨rfl, by decide, by decide, by decide⟩
  · by_cases h1 : a = 1
    · subst h1; exact .inr (.inl ⟨rfl, by decide, by decide, by decide⟩)
    · refine .inr (.inr ⟨h0, h1, ?_, ?_⟩)
      · simp [knw, h0, h1]
      · simp [rd, knw, h0, h1]
theorem rd_cases (a : Int) : rd a = 0 ∨ rd a = 1 ∨ rd a = 2 := by
  rcases knw_cases a with ⟨_, _, h, _⟩ | ⟨_, _, h, _⟩ | ⟨_, _, _, h⟩ <;> simp [h]
theorem cln_cases (a : Int) (h : 0 ≤ a) : cln a = 0 ∨ cln a = 1 ∨ cln a = 2 ∨ cln a = 3 := by
  unfold cln; split <;> omega

theorem anyIs_yes {g : Int → Int} {x : Int} {l : List Int} (k : Nat) (hk : k < l.length) (h : (g (l.getD k 0) == x) = true) : anyIs g x l = true := by
  refine List.any_eq_true.2 ⟨l[k], List.getElem_mem hk, ?_⟩
  rw [List.getD_eq_getElem?_getD, List.getElem?_eq_getElem hk] at h
  exact h
theorem bit_of_any {l : List Int} (h : anyIs rd 2 l = false) (k : Nat) (hk : k < l.length) : l.getD k 0 = 0 ∨ l.getD k 0 = 1 := by
  have h1 := List.any_eq_false.1 h (l[k]) (List.getElem_mem hk)
  have e : l.getD k 0 = l[k] := by rw [List.getD_eq_getElem?_getD, List.getElem?_eq_getElem hk]; rfl
  rw [e]
  rcases knw_cases l[k] with ⟨h, _⟩ | ⟨h, _⟩ | ⟨_, _, _, h⟩
  · exact .inl h
  · exact .inr h
  · rw [h] at h1; simp at h1

def spansL : List Int := [0, 0, 0, 0, 0, 0, 1, 1, 1, 1, 2, 16, 2, 16, 2, 16, 2, 16, 2, 16, 2, 16, 3, 3, 2, 2, 1, 16, 1, 1, 0, 0]
def charsL : List Int := [48, 49, 88, 90]
def lo (k : Int) : Int := if 15 < k then 0 else spansL.getD (2 * k.toNat) 0
def hi (k : Int) : Int := if 15 < k then -1 else spansL.getD (2 * k.toNat + 1) 0
/-- what a kind computes of inputs whose number it allows -/
def funL (k : Int) (l : List Int) : Int :=
  if k = 1 then 0 else if k = 2 then 1 else if k = 3 then rd (l.getD 0 0) else if k = 4 then nt (l.getD 0 0) else if k = 5 then andL l else if k = 6 then nt (andL l)
  else if k = 7 then orL l else if k = 8 then nt (orL l) else if k = 9 then xorL l else if k = 10 then nt (xorL l)
  else if k = 11 then mx (l.getD 0 0) (l.getD 1 0) (l.getD 2 0) else if k = 12 then tr (l.getD 0 0) (l.getD 1 0) else if k = 13 then busL l else 2
def evalL (k : Int) (l : List Int) : Int := if (l.length : Int) < lo k ∨ hi k < l.length then 2 else funL k l

end Go.Proofs.YtcaikkfcjeojiaaDoor

namespace Go.Proofs.YtcaikkfcjeojiaaDoor.Lg
open Go.RowKit

theorem ret_int {k : IntKind} {a b : Int} (h : a = b) : Ending.returned (.int k a) = .returned (.int k b) := by rw [h]
theorem ret_bool {a b : Bool} (h : a = b) : Ending.returned (.bool a) = .returned (.bool b) := by rw [h]

set_option maxHeartbeats 400000 in
theorem clean_any (a : Int) (w : World) : Calls Tryd.prog 32 #[.int .u8 a] w fun e w' => e = .returned (.int .u8 (cln a)) ∧ w = w' := by
  by_cases h : 3 < a
  · have hc : cln a = 2 := by simp [cln, h]
    rw [hc]
    go_enter Tryd.func32, Tryd.ntmps32
    go_wp2
    go_ret
    exact ⟨rfl, rfl⟩
  · have hc : cln a = a := by simp [cln, h]
    rw [hc]
    go_enter Tryd.func32, Tryd.ntmps32
    go_wp2
    go_ret
    exact ⟨rfl, rfl⟩

/-- A result under a name, its equation hidden from the walk. -/
theorem named {α : Type} (x : α) : ∃ y, Hid (y = x) := ⟨x, Lib.hid rfl⟩

set_option maxHeartbeats 400000 in
theorem known_any (a : Int) (w : World) : Calls Tryd.prog 19 #[.int .u8 a] w fun e w' => e = .returned (.bool (knw a)) ∧ w = w' := by
  obtain ⟨x, HX⟩ := named (knw a)
  rw [← HX.out]
  go_enter Tryd.func19, Tryd.ntmps19
  go_wp2
  all_goals go_ret
  all_goals exact ⟨ret_bool (by rw [HX.out]; simp [knw, *]), rfl⟩

set_option maxHeartbeats 400000 in
theorem read_any (a : Int) (w : World) : Calls Tryd.prog 36 #[.int .u8 a] w fun e w' => e = .returned (.int .u8 (rd a)) ∧ w = w' := by
  cases h : knw a
  all_goals
    obtain ⟨x, HX⟩ := named (rd a)
    rw [← HX.out]
    go_enter Tryd.func36, Tryd.ntmps36
    go_wp2_with (go_at_call 19; refine (known_any _ _).mono ?_; rintro e w' ⟨rfl, rfl⟩)
    go_ret
    exact ⟨ret_int (by rw [HX.out]; simp [rd, h]), rfl⟩

end Go.Proofs.YtcaikkfcjeojiaaDoor.Lg
