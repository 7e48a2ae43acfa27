/- The texts LgMono Smq Smv Smx. -/
import Derived.Test.YtcaikkfcjeojiaaDoorM01
import Derived.Test.YtcaikkfcjeojiaaDoorM11
import Derived.Test.YtcaikkfcjeojiaaDoorM04
import Derived.Test.YtcaikkfcjeojiaaDoorM06
import Derived.LoopN
import Derived.Test.YtcaikkfcjeojiaaDoorM02
import Derived.Test.YtcaikkfcjeojiaaDoorM05
import Derived.Laws.EntriesVeiled
namespace Go.Proofs.YtcaikkfcjeojiaaDoor.Lg

theorem blw_iff (a b : Int) : blw a b = true ↔ cln a = cln b ∨ cln a = 2 := by simp [blw]
theorem blw_refl (a : Int) : blw a a = true := by simp [blw]
theorem blw_X (b : Int) : blw 2 b = true := by simp [blw, show cln 2 = 2 by decide]
theorem cln_0 {b : Int} (h : cln b = 0) : b = 0 := by unfold cln at h; split at h <;> omega
theorem cln_1 {b : Int} (h : cln b = 1) : b = 1 := by unfold cln at h; split at h <;> omega
theorem blw_of_0 {b : Int} (h : blw 0 b = true) : b = 0 := by
  rcases (blw_iff _ _).1 h with h | h
  · exact cln_0 (by rw [← h]; decide)
  · exact absurd h (by decide)
theorem blw_of_1 {b : Int} (h : blw 1 b = true) : b = 1 := by
  rcases (blw_iff _ _).1 h with h | h
  · exact cln_1 (by rw [← h]; decide)
  · exact absurd h (by decide)
/-- Of two values, the one below the other: both the same known value, or it is read as X. -/
theorem blw_cases {a b : Int} (h : blw a b = true) : (a = 0 ∧ b = 0) ∨ (a = 1 ∧ b = 1) ∨ rd a = 2 := by
  rcases knw_cases a with ⟨rfl, _⟩ | ⟨rfl, _⟩ | ⟨_, _, _, h2⟩
  · exact .inl ⟨rfl, blw_of_0 h⟩
  · exact .inr (.inl ⟨rfl, blw_of_1 h⟩)
  · exact .inr (.inr h2)
theorem rd_mono {a b : Int} (h : blw a b = true) : blw (rd a) (rd b) = true := by
  rcases blw_cases h with ⟨rfl, rfl⟩ | ⟨rfl, rfl⟩ | h2
  · exact blw_refl _
  · exact blw_refl _
  · rw [h2]; exact blw_X _
theorem nt_2 {a : Int} (h : rd a = 2) : nt a = 2 := by simp [nt, h]
theorem nt_mono {a b : Int} (h : blw a b = true) : blw (nt a) (nt b) = true := by
  rcases blw_cases h with ⟨rfl, rfl⟩ | ⟨rfl, rfl⟩ | h2
  · exact blw_refl _
  · exact blw_refl _
  · rw [nt_2 h2]; exact blw_X _
theorem mx_mono {s a b s' a' b' : Int} (hs : blw s s' = true) (ha : blw a a' = true) (hb : blw b b' = true) : blw (mx s a b) (mx s' a' b') = true := by
  rcases blw_cases hs with ⟨rfl, rfl⟩ | ⟨rfl, rfl⟩ | h2
  · exact rd_mono ha
  · exact rd_mono hb
  · unfold mx
    rw [h2]
    rcases blw_cases ha with ⟨rfl, rfl⟩ | ⟨rfl, rfl⟩ | h3
    · rcases blw_cases hb with ⟨rfl, rfl⟩ | ⟨rfl, rfl⟩ | h4
      · rcases rd_cases s' with h | h | h <;> rw [h] <;> decide
      · rcases rd_cases s' with h | h | h <;> rw [h] <;> decide
      · rw [h4]; exact blw_X _
    · rcases blw_cases hb with ⟨rfl, rfl⟩ | ⟨rfl, rfl⟩ | h4
      · rcases rd_cases s' with h | h | h <;> rw [h] <;> decide
      · rcases rd_cases s' with h | h | h <;> rw [h] <;> decide
      · rw [h4]; exact blw_X _
    · rw [h3]
      have e : (if (2 : Int) = 0 then (2 : Int) else if (2 : Int) = 1 then rd b else if (2 : Int) = rd b then 2 else 2) = 2 := by simp
      rw [e]; exact blw_X _
theorem tr_mono {a b a' b' : Int} (ha : blw a a' = true) (hb : blw b b' = true) : blw (tr a b) (tr a' b') = true := by
  rcases blw_cases ha with ⟨rfl, rfl⟩ | ⟨rfl, rfl⟩ | h2
  · exact blw_refl _
  · exact rd_mono hb
  · have e : tr a b = 2 := by simp [tr, h2]
    rw [e]; exact blw_X _

/-- Each value of the one list is below that of the other. -/
def LeL (l m : List Int) : Prop := l.length = m.length ∧ ∀ j, j < l.length → blw (l.getD j 0) (m.getD j 0) = true
theorem anyIs_iff {g : Int → Int} {x : Int} {l : List Int} : anyIs g x l = true ↔ ∃ j, j < l.length ∧ g (l.getD j 0) = x := by
  constructor
  · intro h
    obtain ⟨v, hv, hx⟩ := List.any_eq_true.1 h
    obtain ⟨k, hk, rfl⟩ := List.mem_iff_getElem.1 hv
    refine ⟨k, hk, ?_⟩
    rw [List.getD_eq_getElem?_getD, List.getElem?_eq_getElem hk]
    simpa using hx
  · rintro ⟨k, hk, h⟩
    exact anyIs_yes k hk (by simpa using h)
theorem LeL.known {l m : List Int} (h : LeL l m) (x : Int) (hx : x = 0 ∨ x = 1) (hl : anyIs rd x l = true) : anyIs rd x m = true := by
  obtain ⟨j, hj, e⟩ := anyIs_iff.1 hl
  refine anyIs_iff.2 ⟨j, by rw [← h.1]; exact hj, ?_⟩
  rcases blw_cases (h.2 j hj) with ⟨h1, h2⟩ | ⟨h1, h2⟩ | h1
  · rw [h2, ← h1]; exact e
  · rw [h2, ← h1]; exact e
  · omega
theorem LeL.eq_ {l m : List Int} (h : LeL l m) (hl : anyIs rd 2 l = false) : l = m := by
  apply List.ext_getElem h.1
  intro j h1 h2
  have e1 : l.getD j 0 = l[j] := by rw [List.getD_eq_getElem?_getD, List.getElem?_eq_getElem h1]; rfl
  have e2 : m.getD j 0 = m[j] := by rw [List.getD_eq_getElem?_getD, List.getElem?_eq_getElem h2]; rfl
  rw [← e1, ← e2]
  rcases blw_cases (h.2 j h1) with ⟨h3, h4⟩ | ⟨h3, h4⟩ | h3
  · rw [h3, h4]
  · rw [h3, h4]
  · have := bit_of_any hl j h1
    rcases this with h5 | h5 <;> rw [h5] at h3 <;> exact absurd h3 (by decide)
theorem and_mono {l m : List Int} (h : LeL l m) : blw (andL l) (andL m) = true := by
  cases h0 : anyIs rd 0 l
  · cases h2 : anyIs rd 2 l
    · rw [h.eq_ h2]; exact blw_refl _
    · have e : andL l = 2 := by simp [andL, h0, h2]
      rw [e]; exact blw_X _
  · have e : andL l = 0 := by simp [andL, h0]
    have e' : andL m = 0 := by simp [andL, h.known 0 (.inl rfl) h0]
    rw [e, e']; exact blw_refl _
theorem or_mono {l m : List Int} (h : LeL l m) : blw (orL l) (orL m) = true := by
  cases h0 : anyIs rd 1 l
  · cases h2 : anyIs rd 2 l
    · rw [h.eq_ h2]; exact blw_refl _
    · have e : orL l = 2 := by simp [orL, h0, h2]
      rw [e]; exact blw_X _
  · have e : orL l = 1 := by simp [orL, h0]
    have e' : orL m = 1 := by simp [orL, h.known 1 (.inr rfl) h0]
    rw [e, e']; exact blw_refl _
theorem xor_mono {l m : List Int} (h : LeL l m) : blw (xorL l) (xorL m) = true := by
  cases h2 : anyIs rd 2 l
  · rw [h.eq_ h2]; exact blw_refl _
  · have e : xorL l = 2 := by simp [xorL, h2]
    rw [e]; exact blw_X _
theorem anyIs_map (g : Int → Int) (x : Int) (l : List Int) : anyIs g x l = (l.map g).any (· == x) := by
  unfold anyIs; rw [List.any_map]; rfl
theorem bus_mono {l m : List Int} (h : LeL l m) : blw (busL l) (busL m) = true := by
  cases h2 : anyIs cln 2 l
  · have e : l.map cln = m.map cln := by
      apply List.ext_getElem (by simpa using h.1)
      intro j h1 h3
      have hj : j < l.length := by simpa using h1
      have hj' : j < m.length := by simpa using h3
      have e1 : l.getD j 0 = l[j] := by rw [List.getD_eq_getElem?_getD, List.getElem?_eq_getElem hj]; rfl
      have e2 : m.getD j 0 = m[j] := by rw [List.getD_eq_getElem?_getD, List.getElem?_eq_getElem hj']; rfl
      rw [List.getElem_map, List.getElem_map, ← e1, ← e2]
      rcases (blw_iff _ _).1 (h.2 j hj) with h4 | h4
      · exact h4
      · have := (anyIs_iff (g := cln) (x := 2) (l := l)).2 ⟨j, hj, h4⟩
        rw [h2] at this; cases this
    have e' : ∀ x, anyIs cln x l = anyIs cln x m := fun x => by rw [anyIs_map, anyIs_map, e]
    have : busL l = busL m := by unfold busL conL; rw [e' 2, e' 0, e' 1]
    rw [this]; exact blw_refl _
  · have e : busL l = 2 := by simp [busL, h2]
    rw [e]; exact blw_X _
theorem LeL.at_ {l m : List Int} (h : LeL l m) (j : Nat) : blw (l.getD j 0) (m.getD j 0) = true := by
  by_cases hj : j < l.length
  · exact h.2 j hj
  · rw [List.getD_eq_getElem?_getD, List.getD_eq_getElem?_getD, List.getElem?_eq_none (by omega), List.getElem?_eq_none (by rw [← h.1]; omega)]
    exact blw_refl _
theorem ite_mono {c : Prop} [Decidable c] {a b a' b' : Int} (h1 : blw a a' = true) (h2 : blw b b' = true) : blw (if c then a else b) (if c then a' else b') = true := by
  split
  · exact h1
  · exact h2
theorem fun_mono (k : Int) {l m : List Int} (h : LeL l m) : blw (funL k l) (funL k m) = true := by
  unfold funL
  refine ite_mono (blw_refl _) ?_
  refine ite_mono (blw_refl _) ?_
  refine ite_mono (rd_mono (h.at_ 0)) ?_
  refine ite_mono (nt_mono (h.at_ 0)) ?_
  refine ite_mono (and_mono h) ?_
  refine ite_mono (nt_mono (and_mono h)) ?_
  refine ite_mono (or_mono h) ?_
  refine ite_mono (nt_mono (or_mono h)) ?_
  refine ite_mono (xor_mono h) ?_
  refine ite_mono (nt_mono (xor_mono h)) ?_
  refine ite_mono (mx_mono (h.at_ 0) (h.at_ 1) (h.at_ 2)) ?_
  refine ite_mono (tr_mono (h.at_ 0) (h.at_ 1)) ?_
  refine ite_mono (bus_mono h) ?_
  exact blw_refl _
theorem eval_mono (k : Int) {l m : List Int} (h : LeL l m) : blw (evalL k l) (evalL k m) = true := by
  unfold evalL
  rw [← h.1]
  exact ite_mono (blw_refl _) (fun_mono k h)

end Go.Proofs.YtcaikkfcjeojiaaDoor.Lg

namespace Go.Proofs.YtcaikkfcjeojiaaDoor

theorem cln_cln (a : Int) : cln (cln a) = cln a := by unfold cln; split <;> simp_all
theorem blw_cln (a b : Int) : blw (cln a) (cln b) = blw a b := by unfold blw; rw [cln_cln, cln_cln]
theorem Net.mono {nodes : List Nd} {base base' out out' L : List Int} (hw : Wf nodes) (hL : Lvl nodes L) (h : Net nodes base out) (h' : Net nodes base' out')
    (hb : ∀ i : Nat, i < nodes.length → cmb (nodes.getD i default).kind = false → blw (lat base i) (lat base' i) = true) : ∀ i : Nat, i < nodes.length → blw (lat out i) (lat out' i) = true := by
  have key : ∀ (m : Nat) (i : Nat), i < nodes.length → lat L i < (m : Int) → blw (lat out i) (lat out' i) = true := by
    intro m
    induction m with
    | zero => intro i hi hlt; have := hL.nonneg hi; omega
    | succ m ih =>
      intro i hi hlt
      rw [h.2 i hi, h'.2 i hi]
      by_cases hc : cmb (nodes.getD i default).kind = true
      · rw [if_pos hc, if_pos hc]
        refine Lg.eval_mono _ ⟨by simp, fun j hj => ?_⟩
        have hj' : j < (nodes.getD ((i : Int).toNat) default).ins.length := by simpa using hj
        have e : ∀ o : List Int, ((nodes.getD ((i : Int).toNat) default).ins.map fun x => cln (lat o x)).getD j 0 = cln (lat o ((nodes.getD ((i : Int).toNat) default).ins[j])) := fun o => by
          rw [List.getD_eq_getElem?_getD, List.getElem?_map, List.getElem?_eq_getElem hj']; rfl
        rw [e, e, blw_cln]
        have hz : (nodes.getD ((i : Int).toNat) default).ins[j] ∈ dep nodes i := by rw [dep_ins (by rw [Int.toNat_natCast]; exact hc)]; exact List.getElem_mem hj'
        have q := hw.dep (i := (i : Int)) (by omega) hz
        have hl := hL.lt (i := (i : Int)) (by omega) (by omega) hz
        generalize (nodes.getD ((i : Int).toNat) default).ins[j] = z at *
        obtain ⟨k, rfl⟩ := Int.eq_ofNat_of_zero_le q.1
        exact ih k (by omega) (by omega)
      · rw [if_neg hc, if_neg hc]
        exact hb i hi (by simpa using hc)
  exact fun i hi => key ((lat L i).toNat + 1) i hi (by have := hL.nonneg hi; omega)

end Go.Proofs.YtcaikkfcjeojiaaDoor

namespace Go.Proofs.YtcaikkfcjeojiaaDoor
open Go.RowKit

/-- A row of values of the call's own, in block g. -/
def VRow (w : World) (g : Nat) (l : List Int) : Prop := w.ownsRow g 24 1 (.slice (some ⟨g, 0, none⟩) l.length l.length) l.length (l.map (Value.int .u8))
section
variable {w w' : World} {g : Nat} {l : List Int}
theorem VRow.cell (h : VRow w g l) {j : Nat} (hj : j < l.length) : w.cell? ⟨g, j, none⟩ = some (.int .u8 (lat l j)) := by
  have := World.ownsRow.cellAt h j (by omega)
  rw [this, List.getElem?_map, List.getElem?_eq_getElem hj]
  simp [lat, List.getD_eq_getElem?_getD, List.getElem?_eq_getElem hj]
theorem VRow.frozen (h : VRow w g l) (j : Nat) : w.frozen? ⟨g, j, none⟩ = false := World.ownsRow.frozenAt h j
theorem VRow.set (h : VRow w g l) (j : Nat) (x : Int) : VRow (w.setCell ⟨g, j, none⟩ (.int .u8 x)) g (l.set j x) := by
  have := (World.ownsRow.stored h j (.int .u8 x)).1
  unfold VRow
  rw [List.length_set, List.map_set]
  exact this
theorem VRow.lt (h : VRow w g l) : g < w.heap.size := (World.ownsRow.lt h g rfl).2
theorem VRow.len (h : VRow w g l) : l.length ≤ maxLen := by
  rcases h.2 with ⟨e, -⟩ | ⟨g', cap, cur, e, hb', hg', hle, hmx, hs', ht'⟩
  · cases e
  · simp only [Value.slice.injEq] at e; omega
theorem VRow.kept {row : Option Nat} (h : VRow w g l) (hg : w.grownBy w' row) (hne : some g ≠ row) : VRow w' g l := World.ownsRow.kept h hg (.inr hne)
theorem VRow.below (h : VRow w g l) (hb : Below w.heap.size w w') : VRow w' g l :=
  h.kept (row := none) ⟨hb.os, hb.tape, hb.output, hb.size, fun i hi _ => hb.block i hi⟩ (by simp)
theorem VRow.ks (h : VRow w g l) : Ks w w.heap.size (.slice (some ⟨g, 0, none⟩) l.length l.length) l :=
  ⟨_, g, 0, _, rfl, fun _ => rfl, Nat.le_refl _, h.len, fun k hk => ⟨h.lt, by
    have := h.cell hk
    unfold lat at this
    rw [Int.toNat_natCast] at this
    show w.cell? ⟨g, 0 + k * 1, none⟩ = _
    rw [Nat.zero_add, Nat.mul_one]; exact this⟩⟩
theorem VRow.of {B n : Nat} (h : w.ownsRow B 24 1 (.slice (some ⟨g, 0, none⟩) n n) n (l.map (Value.int .u8))) (hl : l.length = n) : VRow w g l := by
  subst hl
  unfold VRow
  refine ⟨h.1, ?_⟩
  rcases h.2 with ⟨e, -⟩ | ⟨g', cap, cur, e, hb', hg', hle, hmx, hs', ht'⟩
  · cases e
  · simp only [Value.slice.injEq, Option.some.injEq, Addr.mk.injEq] at e
    obtain ⟨⟨rfl, -⟩, -, rfl⟩ := e
    exact .inr ⟨g, _, cur, rfl, Nat.le_refl _, hg', hle, hmx, hs', ht'⟩
end
theorem info_val : (Tryd.prog.info? 24).map (fun i => (i.zero, i.size, i.bytes)) = some (some (.int .u8 0), 1, 1) := by kernel_rfl

theorem Ks.vs {w : World} {B : Nat} {v : Value} {l : List Int} (h : Ks w B v l) : Lg.Vs w B v l := by
  obtain ⟨A, b, o, c, rfl, hA, hle, hm, hc⟩ := h.opens
  by_cases h0 : 0 < l.length
  · obtain rfl := hA h0
    exact ⟨b, o, c, .inl rfl, hm, hc⟩
  · obtain rfl : l = [] := List.eq_nil_of_length_eq_zero (by omega)
    exact ⟨b, o, c, .inr ⟨rfl, A, rfl⟩, hm, hc⟩
/-- The variable q holds the values l. -/
def Nv (w : World) (q : Nat) (l : List Int) : Prop := ∃ A c, w.cell? ⟨q, 0, none⟩ = some (.slice A l.length c) ∧ Ks w w.heap.size (.slice A l.length c) l
theorem Nv.below {w w' : World} {q : Nat} {l : List Int} (h : Nv w q l) (hb : Below w.heap.size w w') : Nv w' q l := by
  obtain ⟨A, c, h1, h2⟩ := h
  exact ⟨A, c, (hb.cell (p := ⟨q, 0, none⟩) (cell_lt h1)).trans h1, Arr.keep stays_u8 h2 hb.size fun _ hp => hb.cell hp⟩

end Go.Proofs.YtcaikkfcjeojiaaDoor

namespace Go.Proofs.YtcaikkfcjeojiaaDoor
open Go.RowKit

theorem VRow.other {w : World} {g : Nat} {l : List Int} (h : VRow w g l) {a : Addr} (ha : a.block ≠ g) (v : Value) : VRow (w.setCell a v) g l :=
  h.kept (row := some a.block) ⟨rfl, rfl, rfl, by simp [World.setCell], fun i _ hne => Below.heap_setCell _ _ _ _ (fun e => hne (by rw [e]))⟩ (fun e => ha (by injection e with e; exact e.symm))
end Go.Proofs.YtcaikkfcjeojiaaDoor
