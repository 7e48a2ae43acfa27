/- Fanout: the lines of the nets, and the row of rows that holds them. -/
import Derived.Test.YtmghdeodkeenoaaDoorOfk
namespace Go.Proofs.YtmghdeodkeenoaaDoor
open Go.RowKit

def insP (i : Nat) (ins : List Int) (p : Nat) : List (Int × Int × Int) := (List.range p).map fun (k : Nat) => (ins.getD k 0, (i : Int), (k : Int))
def nodP (nodes : List Nd) (i : Nat) : List (Int × Int × Int) := (List.range i).flatMap fun k => insP k (nodes.getD k default).ins (nodes.getD k default).ins.length
def pinsAt (nodes : List Nd) (i p : Nat) : List (Int × Int × Int) := nodP nodes i ++ insP i (nodes.getD i default).ins p
theorem insP_succ (i : Nat) (ins : List Int) (p : Nat) : insP i ins (p + 1) = insP i ins p ++ [(ins.getD p 0, (i : Int), (p : Int))] := by
  simp [insP, List.range_succ]
theorem pinsAt_succ (nodes : List Nd) (i p : Nat) : pinsAt nodes i (p + 1) = pinsAt nodes i p ++ [((nodes.getD i default).ins.getD p 0, (i : Int), (p : Int))] := by
  rw [pinsAt, insP_succ, ← List.append_assoc]; rfl
theorem pinsAt_zero (nodes : List Nd) (i : Nat) : pinsAt nodes i 0 = nodP nodes i := by simp [pinsAt, insP]
theorem nodP_succ (nodes : List Nd) (i : Nat) : nodP nodes (i + 1) = pinsAt nodes i (nodes.getD i default).ins.length := by
  simp [nodP, pinsAt, List.range_succ]
theorem nodP_le (nodes : List Nd) (i : Nat) : ∀ d, (nodP nodes i).length ≤ (nodP nodes (i + d)).length
  | 0 => Nat.le_refl _
  | d + 1 => by
      refine Nat.le_trans (nodP_le nodes i d) ?_
      rw [← Nat.add_assoc, nodP_succ, pinsAt, List.length_append]; omega
theorem pinsAt_len (nodes : List Nd) {i p n : Nat} (hi : i < n) (hp : p < (nodes.getD i default).ins.length) : (pinsAt nodes i p).length < (nodP nodes n).length := by
  have h1 := nodP_le nodes (i + 1) (n - (i + 1))
  rw [show i + 1 + (n - (i + 1)) = n by omega, nodP_succ] at h1
  have h2 : (pinsAt nodes i p).length + ((nodes.getD i default).ins.length - p) = (pinsAt nodes i (nodes.getD i default).ins.length).length := by
    simp only [pinsAt, insP, List.length_append, List.length_map, List.length_range]; omega
  omega
/-- The lines of the net j. -/
def fan (l : List (Int × Int × Int)) (j : Nat) : List (Int × Int) := (l.filter fun q => q.1 == (j : Int)).map (·.2)
theorem fan_len (l : List (Int × Int × Int)) (j : Nat) : (fan l j).length ≤ l.length := by
  unfold fan; rw [List.length_map]; exact List.length_filter_le _ _
theorem fan_snoc (l : List (Int × Int × Int)) (x : Int) (y : Int × Int) (j : Nat) : fan (l ++ [(x, y)]) j = if x = (j : Int) then fan l j ++ [y] else fan l j := by
  unfold fan
  rw [List.filter_append, List.map_append]
  by_cases h : x = (j : Int)
  · simp [h]
  · simp [h]
def lnC (l : List (Int × Int)) : List Value := l.flatMap fun q => [.int .i64 q.1, .int .i64 q.2]
theorem lnC_snoc (l : List (Int × Int)) (x y : Int) : lnC (l ++ [(x, y)]) = lnC l ++ [.int .i64 x, .int .i64 y] := by simp [lnC]
theorem lnC_len : ∀ l : List (Int × Int), (lnC l).length = l.length * 2
  | [] => rfl
  | q :: r => by have := lnC_len r; simp [lnC] at this ⊢; omega
theorem lnC_get : ∀ (l : List (Int × Int)) (k : Nat), k < l.length → (lnC l)[k * 2]? = some (.int .i64 (l.getD k (0, 0)).1) ∧ (lnC l)[k * 2 + 1]? = some (.int .i64 (l.getD k (0, 0)).2)
  | [], k, h => absurd h (by simp)
  | q :: r, 0, h => by simp [lnC]
  | q :: r, k + 1, h => by
      have hr := lnC_get r k (by simpa using h)
      have e : lnC (q :: r) = [.int .i64 q.1, .int .i64 q.2] ++ lnC r := rfl
      rw [e, show (k + 1) * 2 = k * 2 + 2 by omega, show k * 2 + 2 + 1 = (k * 2 + 1) + 2 by omega]
      rw [List.getElem?_append_right (by simp), List.getElem?_append_right (by simp)]
      simpa using hr
def vat (Vs : List Value) (j : Nat) : Value := Vs.getD j (.slice none 0 0)
theorem vat_set (Vs : List Value) (j k : Nat) (v : Value) (hj : j < Vs.length) : vat (Vs.set j v) k = if k = j then v else vat Vs k := by
  unfold vat
  rw [List.getD_eq_getElem?_getD, List.getD_eq_getElem?_getD, List.getElem?_set]
  by_cases h : j = k
  · subst h; simp [hj]
  · rw [if_neg h, if_neg (fun e => h e.symm)]

/-- A row of rows of lines, each of its own. -/
structure FS (n g : Nat) (Vs : List Value) (F : Nat → List (Int × Int)) (w : World) : Prop where
  top : w.ownsRow g 51 1 (.slice (some ⟨g, 0, none⟩) n n) n Vs
  row : ∀ j, j < n → w.ownsRow (g + 1) 54 2 (vat Vs j) (F j).length (lnC (F j))
  dis : ∀ i j, i < n → j < n → i ≠ j → (vat Vs i).ownBlock = none ∨ (vat Vs i).ownBlock ≠ (vat Vs j).ownBlock
theorem FS.len {n g : Nat} {Vs : List Value} {F : Nat → List (Int × Int)} {w : World} (h : FS n g Vs F w) : Vs.length = n := by
  have := h.top.1; omega
theorem FS.lt {n g : Nat} {Vs : List Value} {F : Nat → List (Int × Int)} {w : World} (h : FS n g Vs F w) : g < w.heap.size := (World.ownsRow.lt h.top g rfl).2
theorem FS.below {n g : Nat} {Vs : List Value} {F : Nat → List (Int × Int)} {w w' : World} (h : FS n g Vs F w) (hb : Below w.heap.size w w') : FS n g Vs F w' := by
  have hg : w.grownBy w' none := ⟨hb.os, hb.tape, hb.output, hb.size, fun i hi _ => hb.block i hi⟩
  refine ⟨h.top.kept hg (.inr (by simp [Value.ownBlock])), fun j hj => (h.row j hj).kept hg ?_, h.dis⟩
  rcases (vat Vs j).ownBlock with _ | q
  · exact .inl rfl
  · exact .inr (by simp)
theorem FS.cell {n g : Nat} {Vs : List Value} {F : Nat → List (Int × Int)} {w : World} (h : FS n g Vs F w) {j : Nat} (hj : j < n) : w.cell? ⟨g, j, none⟩ = some (vat Vs j) := by
  rw [h.top.cellAt j (by omega), vat, List.getD_eq_getElem?_getD, List.getElem?_eq_getElem (by rw [h.len]; exact hj)]
  rfl
theorem FS.shape {n g : Nat} {Vs : List Value} {F : Nat → List (Int × Int)} {w : World} (h : FS n g Vs F w) {j : Nat} (hj : j < n) :
    ∃ A c, vat Vs j = .slice A (F j).length c ∧ (F j).length ≤ c ∧ c ≤ maxLen ∧ ((A = none ∧ (F j).length = 0 ∧ c = 0) ∨ ∃ b, A = some ⟨b, 0, none⟩ ∧ g < b ∧ b < w.heap.size) := by
  have hlt := World.ownsRow.lt (h.row j hj)
  rcases (h.row j hj).2 with ⟨e, hn⟩ | ⟨q, cap, cur, e, hb, hg, hle, hm, -⟩
  · exact ⟨none, 0, by rw [e, hn], by omega, by simp, .inl ⟨rfl, hn, rfl⟩⟩
  · exact ⟨_, cap, e, hle, hm, .inr ⟨q, rfl, hb, (hlt q (by rw [e]; rfl)).2⟩⟩
theorem FS.push {n g : Nat} {Vs : List Value} {F : Nat → List (Int × Int)} {w w1 : World} {j : Nat} {v' : Value} {x y : Int} (h : FS n g Vs F w) (hj : j < n)
    (hown : w1.ownsRow (g + 1) 54 2 v' ((F j).length + 1) (lnC (F j) ++ [.int .i64 x, .int .i64 y])) (hgr : w.grownBy w1 (vat Vs j).ownBlock)
    (hat : v'.ownBlock = (vat Vs j).ownBlock ∨ v'.ownBlock = some w.heap.size) :
    FS n g (Vs.set j v') (fun k => if k = j then F k ++ [(x, y)] else F k) (w1.setCell ⟨g, j, none⟩ v') := by
  have hlen := h.len
  have hjq : ∀ q, (vat Vs j).ownBlock = some q → g + 1 ≤ q := fun q e => (World.ownsRow.lt (h.row j hj) q e).1
  have ht := h.top.kept hgr (.inr fun e => by have := hjq g e.symm; omega)
  have hs := ht.stored j v'
  have hv : ∀ q, v'.ownBlock = some q → g + 1 ≤ q := fun q e => (World.ownsRow.lt hown q e).1
  have hgo : ∀ {v : Value}, (∀ q, v.ownBlock = some q → g + 1 ≤ q) → v.ownBlock = none ∨ v.ownBlock ≠ some g := fun {v} hq => by
    rcases ho : v.ownBlock with _ | q
    · exact .inl rfl
    · refine .inr fun e => ?_
      have := hq q ho
      simp only [Option.some.injEq] at e
      omega
  refine ⟨hs.1, fun k hk => ?_, fun a b ha hb hab => ?_⟩
  · rw [vat_set _ _ _ _ (by omega)]
    by_cases hkj : k = j
    · subst hkj
      simp only [if_true]
      rw [List.length_append, lnC_snoc]
      exact hown.kept hs.2 (hgo hv)
    · rw [if_neg hkj]
      simp only [if_neg hkj]
      refine ((h.row k hk).kept hgr (h.dis k j hk hj hkj)).kept hs.2 (hgo ?_)
      exact fun q e => (World.ownsRow.lt (h.row k hk) q e).1
  · rw [vat_set _ _ _ _ (by omega), vat_set _ _ _ _ (by omega)]
    have hz : ∀ k, k < n → ∀ q, (vat Vs k).ownBlock = some q → q < w.heap.size := fun k hk q e => (World.ownsRow.lt (h.row k hk) q e).2
    by_cases haj : a = j
    · rw [if_pos haj, if_neg (by omega)]
      rcases hat with e | e
      · rw [e, ← haj]; exact h.dis a b ha hb hab
      · refine .inr fun e' => ?_
        rw [e] at e'
        have := hz b hb _ e'.symm
        omega
    · rw [if_neg haj]
      by_cases hbj : b = j
      · rw [if_pos hbj]
        rcases hat with e | e
        · rw [e, ← hbj]; exact h.dis a b ha hb hab
        · rcases ho : (vat Vs a).ownBlock with _ | q
          · exact .inl rfl
          · refine .inr fun e' => ?_
            rw [e] at e'
            have := hz a ha q ho
            simp only [Option.some.injEq] at e'
            omega
      · rw [if_neg hbj]; exact h.dis a b ha hb hab
theorem FS.mid {n g : Nat} {Vs : List Value} {F : Nat → List (Int × Int)} {w w1 : World} {j : Nat} (h : FS n g Vs F w) (hj : j < n) (hgr : w.grownBy w1 (vat Vs j).ownBlock) :
    w1.cell? ⟨g, j, none⟩ = some (vat Vs j) ∧ w1.frozen? ⟨g, j, none⟩ = false := by
  have hjq : ∀ q, (vat Vs j).ownBlock = some q → g + 1 ≤ q := fun q e => (World.ownsRow.lt (h.row j hj) q e).1
  have ht := h.top.kept hgr (.inr fun e => by have := hjq g e.symm; omega)
  exact ⟨hgr.cell (h.cell hj) (fun e => by have := hjq g e.symm; omega), ht.frozenAt j⟩
theorem FS.grown {n g B : Nat} {Vs : List Value} {F : Nat → List (Int × Int)} {w0 w w1 : World} {j : Nat} (h : FS n g Vs F w) (hj : j < n) (hb : Below B w0 w) (hB : B ≤ g) (hgr : w.grownBy w1 (vat Vs j).ownBlock) (v' : Value) :
    Below B w0 (w1.setCell ⟨g, j, none⟩ v') :=
  (hb.grown hgr (by have := h.lt; omega) (fun q e => by have := (World.ownsRow.lt (h.row j hj) q e).1; omega)).setCell hB _
theorem FS.congr {n g : Nat} {Vs : List Value} {F F' : Nat → List (Int × Int)} {w : World} (h : FS n g Vs F w) (e : ∀ j, j < n → F j = F' j) : FS n g Vs F' w :=
  ⟨h.top, fun j hj => by rw [← e j hj]; exact h.row j hj, h.dis⟩
/-- What a slice is behind Clip. -/
def clipV : Value → Value
  | .slice A n _ => .slice A n n
  | v => v
def clipTo (Vs : List Value) (n k : Nat) : List Value := (List.range n).map fun j => if j < k then clipV (vat Vs j) else vat Vs j
theorem clipTo_zero (Vs : List Value) (n : Nat) (h : Vs.length = n) : clipTo Vs n 0 = Vs := by
  apply List.ext_getElem?
  intro j
  by_cases hj : j < n
  · simp [clipTo, hj, vat, List.getD_eq_getElem?_getD, h]
  · simp [clipTo, hj, h]
theorem clipTo_get (Vs : List Value) (n k j : Nat) (h : j < n) : (clipTo Vs n k)[j]? = some (if j < k then clipV (vat Vs j) else vat Vs j) := by
  simp [clipTo, h]
theorem clipTo_set (Vs : List Value) (n k : Nat) : (clipTo Vs n k).set k (clipV (vat Vs k)) = clipTo Vs n (k + 1) := by
  apply List.ext_getElem?
  intro j
  rw [List.getElem?_set]
  by_cases hjn : j < n
  · rw [clipTo_get _ _ _ _ hjn, clipTo_get _ _ _ _ hjn]
    by_cases hjk : k = j
    · subst hjk
      have : k < (clipTo Vs n k).length := by simp [clipTo, hjn]
      simp [this]
    · rw [if_neg hjk]
      by_cases hl : j < k
      · rw [if_pos hl, if_pos (by omega)]
      · rw [if_neg hl, if_neg (by omega)]
  · have h1 : ¬ j < (clipTo Vs n k).length := by simp [clipTo]; omega
    simp [clipTo, hjn]
    omega
def LnAt (w : World) (_B b p : Nat) (x : Int × Int) : Prop := w.cell? ⟨b, p, none⟩ = some (.int .i64 x.1) ∧ w.cell? ⟨b, p + 1, none⟩ = some (.int .i64 x.2)
theorem stays_ln : Stays LnAt := fun w w' B B' b p x hb hB h hk => ⟨(hk ⟨b, p, none⟩ hb).trans h.1, (hk ⟨b, p + 1, none⟩ hb).trans h.2⟩
def Lns (w : World) (B : Nat) (v : Value) (l : List (Int × Int)) : Prop := Arr (0, 0) 2 LnAt w B v l
def LnsAt (w : World) (B b p : Nat) (l : List (Int × Int)) : Prop := ∃ A, w.cell? ⟨b, p, none⟩ = some (.slice A l.length l.length) ∧ Lns w B (.slice A l.length l.length) l
theorem stays_lns : Stays LnsAt := fun w w' B B' b p x hb hB ⟨s, h, k⟩ hk => ⟨s, (hk ⟨b, p, none⟩ hb).trans h, Arr.keep stays_ln k hB hk⟩
def Fos (w : World) (B : Nat) (v : Value) (l : List (List (Int × Int))) : Prop := Arr [] 1 LnsAt w B v l
theorem Fos.keep {w w' : World} {B B' : Nat} {v : Value} {l : List (List (Int × Int))} (h : Fos w B v l) (hB : B ≤ B') (hk : ∀ q : Addr, q.block < B → w'.cell? q = w.cell? q) : Fos w' B' v l := Arr.keep stays_lns h hB hk
def fanL (nodes : List Nd) : List (List (Int × Int)) := (List.range nodes.length).map (fan (nodP nodes nodes.length))
theorem clip_reads {w : World} {g : Nat} {v : Value} {l : List (Int × Int)} (h : w.ownsRow g 54 2 v l.length (lnC l)) : Lns w w.heap.size (clipV v) l := by
  have hlt := World.ownsRow.lt h
  rcases id h.2 with ⟨rfl, hn⟩ | ⟨q, cap, cur, rfl, hb, hg, hle, hm, -⟩
  · refine ⟨none, 0, 0, 0, ?_, fun h => by omega, by omega, by simp [hn], fun k hk => by omega⟩
    rw [hn]; rfl
  · refine ⟨some ⟨q, 0, none⟩, q, 0, l.length, rfl, fun _ => rfl, Nat.le_refl _, Nat.le_trans hle hm, fun k hk => ⟨(hlt q rfl).2, ?_⟩⟩
    have hc := lnC_get l k hk
    refine ⟨?_, ?_⟩
    · rw [h.cellAt _ (by omega), Nat.zero_add]; exact hc.1
    · rw [h.cellAt _ (by omega), Nat.zero_add]; exact hc.2
theorem clip_form {w : World} {g : Nat} {v : Value} {l : List (Int × Int)} (h : w.ownsRow g 54 2 v l.length (lnC l)) : ∃ A, clipV v = .slice A l.length l.length := by
  rcases id h.2 with ⟨rfl, hn⟩ | ⟨q, cap, cur, rfl, hb, hg, hle, hm, -⟩
  · exact ⟨none, by rw [hn]; rfl⟩
  · exact ⟨some ⟨q, 0, none⟩, rfl⟩
/-- At the end. -/
theorem FS.reads {n g : Nat} {Vs : List Value} {F : Nat → List (Int × Int)} {w' : World} (hn : n ≤ maxLen)
    (hr : ∀ j, j < n → w'.ownsRow (g + 1) 54 2 (vat Vs j) (F j).length (lnC (F j))) (ht : w'.ownsRow g 51 1 (.slice (some ⟨g, 0, none⟩) n n) n (clipTo Vs n n)) :
    Fos w' w'.heap.size (.slice (some ⟨g, 0, none⟩) n n) ((List.range n).map F) := by
  refine ⟨some ⟨g, 0, none⟩, g, 0, n, by simp, fun _ => rfl, by simp, by simpa using hn, fun k hk => ⟨(World.ownsRow.lt ht g rfl).2, ?_⟩⟩
  have hk' : k < n := by simpa using hk
  have e : ((List.range n).map F).getD k [] = F k := by simp [hk', List.getD_eq_getElem?_getD]
  rw [e]
  obtain ⟨A, hA⟩ := clip_form (hr k hk')
  refine ⟨A, ?_, ?_⟩
  · rw [Nat.zero_add, Nat.mul_one, ht.cellAt _ (by omega), clipTo_get _ _ _ _ hk', if_pos hk', hA]
  · rw [← hA]
    exact clip_reads (hr k hk')

end Go.Proofs.YtmghdeodkeenoaaDoor
