/- The texts Smq Smv Smx. -/
import Derived.Test.YtcaikkfcjeojiaaDoorM15
import Derived.Test.YtcaikkfcjeojiaaDoorM06
import Derived.Test.YtcaikkfcjeojiaaDoorM09
import Derived.LoopN
import Derived.Test.YtcaikkfcjeojiaaDoorM02
import Derived.Test.YtcaikkfcjeojiaaDoorM07
import Derived.Laws.EntriesVeiled
namespace Go.Proofs.YtcaikkfcjeojiaaDoor

theorem cln_cln (a : Int) : cln (cln a) = cln a := by unfold cln; split <;> simp_all
theorem blw_cln (a b : Int) : blw (cln a) (cln b) = blw a b := by unfold blw; rw [cln_cln, cln_cln]
theorem Net.mono {nodes : List Nd} {base base' out out' L : List Int} (hw : Wf nodes) (hL : Lvl nodes L) (h : Net nodes base out) (h' : Net nodes base' out')
    (hb : ∀ i : Nat, i < nodes.length → cmb (nodes.getD i default).kind = false → blw (lat base i) (lat base' i) = true) : ∀ i : Nat, i < nodes.length → blw (lat out i) (lat out' i) = true := by
  have key : ∀ (m : Nat) (i : Nat), i < nodes.length → lat L i < (m : Int) → blw (lat out i) (lat out' i) = true := by
    intro m
    induction m with
    | zero => intro i hi hlt; have := hL.nonneg hi; omega
    | succ m ih =>
      intro i hi hlt
      rw [h.2 i hi, h'.2 i hi]
      by_cases hc : cmb (nodes.getD i default).kind = true
      · rw [if_pos hc, if_pos hc]
        refine Lg.eval_mono _ ⟨by simp, fun j hj => ?_⟩
        have hj' : j < (nodes.getD ((i : Int).toNat) default).ins.length := by simpa using hj
        have e : ∀ o : List Int, ((nodes.getD ((i : Int).toNat) default).ins.map fun x => cln (lat o x)).getD j 0 = cln (lat o ((nodes.getD ((i : Int).toNat) default).ins[j])) := fun o => by
          rw [List.getD_eq_getElem?_getD, List.getElem?_map, List.getElem?_eq_getElem hj']; rfl
        rw [e, e, blw_cln]
        have hz : (nodes.getD ((i : Int).toNat) default).ins[j] ∈ dep nodes i := by rw [dep_ins (by rw [Int.toNat_natCast]; exact hc)]; exact List.getElem_mem hj'
        have q := hw.dep (i := (i : Int)) (by omega) hz
        have hl := hL.lt (i := (i : Int)) (by omega) (by omega) hz
        generalize (nodes.getD ((i : Int).toNat) default).ins[j] = z at *
        obtain ⟨k, rfl⟩ := Int.eq_ofNat_of_zero_le q.1
        exact ih k (by omega) (by omega)
      · rw [if_neg hc, if_neg hc]
        exact hb i hi (by simpa using hc)
  exact fun i hi => key ((lat L i).toNat + 1) i hi (by have := hL.nonneg hi; omega)

end Go.Proofs.YtcaikkfcjeojiaaDoor

namespace Go.Proofs.YtcaikkfcjeojiaaDoor
open Go.RowKit

/-- A row of values of the call's own, in block g. -/
def VRow (w : World) (g : Nat) (l : List Int) : Prop := w.ownsRow g 24 1 (.slice (some ⟨g, 0, none⟩) l.length l.length) l.length (l.map (Value.int .u8))
section
variable {w w' : World} {g : Nat} {l : List Int}
theorem VRow.cell (h : VRow w g l) {j : Nat} (hj : j < l.length) : w.cell? ⟨g, j, none⟩ = some (.int .u8 (lat l j)) := by
  have := World.ownsRow.cellAt h j (by omega)
  rw [this, List.getElem?_map, List.getElem?_eq_getElem hj]
  simp [lat, List.getD_eq_getElem?_getD, List.getElem?_eq_getElem hj]
theorem VRow.frozen (h : VRow w g l) (j : Nat) : w.frozen? ⟨g, j, none⟩ = false := World.ownsRow.frozenAt h j
theorem VRow.set (h : VRow w g l) (j : Nat) (x : Int) : VRow (w.setCell ⟨g, j, none⟩ (.int .u8 x)) g (l.set j x) := by
  have := (World.ownsRow.stored h j (.int .u8 x)).1
  unfold VRow
  rw [List.length_set, List.map_set]
  exact this
theorem VRow.lt (h : VRow w g l) : g < w.heap.size := (World.ownsRow.lt h g rfl).2
theorem VRow.len (h : VRow w g l) : l.length ≤ maxLen := by
  rcases h.2 with ⟨e, -⟩ | ⟨g', cap, cur, e, hb', hg', hle, hmx, hs', ht'⟩
  · cases e
  · simp only [Value.slice.injEq] at e; omega
theorem VRow.kept {row : Option Nat} (h : VRow w g l) (hg : w.grownBy w' row) (hne : some g ≠ row) : VRow w' g l := World.ownsRow.kept h hg (.inr hne)
theorem VRow.below (h : VRow w g l) (hb : Below w.heap.size w w') : VRow w' g l :=
  h.kept (row := none) ⟨hb.os, hb.tape, hb.output, hb.size, fun i hi _ => hb.block i hi⟩ (by simp)
theorem VRow.ks (h : VRow w g l) : Ks w w.heap.size (.slice (some ⟨g, 0, none⟩) l.length l.length) l :=
  ⟨_, g, 0, _, rfl, fun _ => rfl, Nat.le_refl _, h.len, fun k hk => ⟨h.lt, by
    have := h.cell hk
    unfold lat at this
    rw [Int.toNat_natCast] at this
    show w.cell? ⟨g, 0 + k * 1, none⟩ = _
    rw [Nat.zero_add, Nat.mul_one]; exact this⟩⟩
theorem VRow.of {B n : Nat} (h : w.ownsRow B 24 1 (.slice (some ⟨g, 0, none⟩) n n) n (l.map (Value.int .u8))) (hl : l.length = n) : VRow w g l := by
  subst hl
  unfold VRow
  refine ⟨h.1, ?_⟩
  rcases h.2 with ⟨e, -⟩ | ⟨g', cap, cur, e, hb', hg', hle, hmx, hs', ht'⟩
  · cases e
  · simp only [Value.slice.injEq, Option.some.injEq, Addr.mk.injEq] at e
    obtain ⟨⟨rfl, -⟩, -, rfl⟩ := e
    exact .inr ⟨g, _, cur, rfl, Nat.le_refl _, hg', hle, hmx, hs', ht'⟩
end
theorem info_val : (Tryd.prog.info? 24).map (fun i => (i.zero, i.size, i.bytes)) = some (some (.int .u8 0), 1, 1) := by kernel_rfl

theorem Ks.vs {w : World} {B : Nat} {v : Value} {l : List Int} (h : Ks w B v l) : Lg.Vs w B v l := by
  obtain ⟨A, b, o, c, rfl, hA, hle, hm, hc⟩ := h.opens
  by_cases h0 : 0 < l.length
  · obtain rfl := hA h0
    exact ⟨b, o, c, .inl rfl, hm, hc⟩
  · obtain rfl : l = [] := List.eq_nil_of_length_eq_zero (by omega)
    exact ⟨b, o, c, .inr ⟨rfl, A, rfl⟩, hm, hc⟩
/-- The variable q holds the values l. -/
def Nv (w : World) (q : Nat) (l : List Int) : Prop := ∃ A c, w.cell? ⟨q, 0, none⟩ = some (.slice A l.length c) ∧ Ks w w.heap.size (.slice A l.length c) l
theorem Nv.below {w w' : World} {q : Nat} {l : List Int} (h : Nv w q l) (hb : Below w.heap.size w w') : Nv w' q l := by
  obtain ⟨A, c, h1, h2⟩ := h
  exact ⟨A, c, (hb.cell (p := ⟨q, 0, none⟩) (cell_lt h1)).trans h1, Arr.keep stays_u8 h2 hb.size fun _ hp => hb.cell hp⟩

end Go.Proofs.YtcaikkfcjeojiaaDoor

namespace Go.Proofs.YtcaikkfcjeojiaaDoor
open Go.RowKit

theorem VRow.other {w : World} {g : Nat} {l : List Int} (h : VRow w g l) {a : Addr} (ha : a.block ≠ g) (v : Value) : VRow (w.setCell a v) g l :=
  h.kept (row := some a.block) ⟨rfl, rfl, rfl, by simp [World.setCell], fun i _ hne => Below.heap_setCell _ _ _ _ (fun e => hne (by rw [e]))⟩ (fun e => ha (by injection e with e; exact e.symm))
end Go.Proofs.YtcaikkfcjeojiaaDoor
