/- copy at elements of any width; the walks of clone at nodes, strings, memories and numbers. -/
import Derived.Test.YtmghdeodkeenoaaDoorLev
import Derived.Laws.CopyRow
import Derived.Laws.CopyOwn
namespace Go.Proofs.YtmghdeodkeenoaaDoor
open Go.RowKit

/-- copy of a whole slice over a row of its length. -/
theorem run_copy_all (P : Program) (w : World) (dT sT ty elem : TypeId) (g n c c' : Nat) (A : Option Addr) (k : Nat) (cur : Array Value) (t : TypeId) (cs : List Value)
    (hu : P.underlying dT = some (.slice elem)) (hs : (P.info? elem).map (·.size) = some k) (hg : w.heap[g]? = some (.cells cur t (0, 0))) (hcur : cur.size = n * k) (hcs : cs.length = n * k)
    (hA : 0 < n → ∃ ad, A = some ad ∧ ∀ j v, cs[j]? = some v → w.cell? (ad.add j) = some v) (h1 : ∀ v ∈ cs, v.oneCell' = true) :
    (Builtin.copy_ #[dT, sT] ty #[.slice (some ⟨g, 0, none⟩) n c, .slice A n c']).run P w = .ok (goInt n) (w.setRow g cs.toArray) := by
  cases hq : P.info? elem with
  | none => simp [hq] at hs
  | some i =>
    have hi : i.size = k := by simpa [hq] using hs
    have hmin : Nat.min n n = n := by simp
    have hst := run_storeCells_at P g 0 t cs 0 cur w hg (by omega) h1
    have e : (cur.toList.take (0 + 0) ++ cs ++ cur.toList.drop (0 + 0 + cs.length)).toArray = cs.toArray := by
      have : cur.toList.drop (0 + 0 + cs.length) = [] := List.drop_eq_nil_of_le (by simp [hcur, hcs])
      rw [this]; simp
    rw [e] at hst
    by_cases h0 : n = 0
    · subst h0
      obtain rfl : cs = [] := List.eq_nil_of_length_eq_zero (by simpa using hcs)
      cases A with
      | none => simp [Builtin.copy_, run_underlying hu, Builtin.lenOf, Builtin.firstCells, sizeOf, typeInfo, hq, hi, hst]
      | some a =>
        have hl := run_loadCells_list (P := P) w a [] (by simp)
        simp only [List.length_nil] at hl
        simp [Builtin.copy_, run_underlying hu, Builtin.lenOf, Builtin.firstCells, sizeOf, typeInfo, hq, hi, hst, hl]
    · obtain ⟨ad, rfl, hsrc⟩ := hA (by omega)
      have hl := run_loadCells_list (P := P) w ad cs hsrc
      rw [hcs] at hl
      simp [Builtin.copy_, run_underlying hu, Builtin.lenOf, Builtin.firstCells, sizeOf, typeInfo, hq, hi, hst, hl, hmin]

theorem grown_setRow (w : World) (g : Nat) (cs : Array Value) : w.grownBy (w.setRow g cs) (some g) := ⟨rfl, rfl, rfl, by simp [World.setRow], fun k hk hne => setRow_other w g k cs (fun e => hne (by rw [e]))⟩

theorem wpList_copy_all {P : Program} {w : World} {ops : Array Oper} {rest : List Oper} {o : Oper} {a : Act} {Q : Exit → Act → World → Prop} (hgd : o.guard = none) (d s : Operand) (dT sT : TypeId)
    (ho : o.op = .call { callee := .builtin .copy, args := #[d, s], argTypes := #[dT, sT] }) (elem : TypeId) (hu : P.underlying dT = some (.slice elem)) (k : Nat) (hsz : (P.info? elem).map (·.size) = some k)
    (g n c c' : Nat) (A : Option Addr) (hd : a.eval d = .slice (some ⟨g, 0, none⟩) n c) (hs : a.eval s = .slice A n c') (cur : Array Value) (t : TypeId) (hg : w.heap[g]? = some (.cells cur t (0, 0))) (hcur : cur.size = n * k)
    (cs : List Value) (hcs : cs.length = n * k) (hA : 0 < n → ∃ ad, A = some ad ∧ ∀ j v, cs[j]? = some v → w.cell? (ad.add j) = some v) (h1 : ∀ v ∈ cs, v.oneCell' = true)
    (h : ∀ w', w'.heap[g]? = some (.cells cs.toArray t (0, 0)) → w.grownBy w' (some g) → wpList P ops Q rest (a.put o.dst (goInt n)) w') : wpList P ops Q (o :: rest) a w := by
  refine wpList_plain hgd fun K hK => ?_
  have hrun := run_copy_all P w dT sT o.type elem g n c c' A k cur t cs hu hsz hg hcur hcs hA h1
  unfold Oper.wp
  simp [execOp, ho, resolve, invoke, builtin, hd, hs, hrun, Result.andThen]
  exact hK _ _ (h _ (setRow_heap w g cur _ t _ hg) (grown_setRow w g _))

/-- The cells that lie from o on. -/
def rdC (w : World) (b o m : Nat) : List Value := (List.range m).map fun j => (w.cell? ⟨b, o + j, none⟩).getD undef
theorem rdC_len (w : World) (b o m : Nat) : (rdC w b o m).length = m := by simp [rdC]
theorem rdC_get {w : World} {b o m j : Nat} {v : Value} (hj : j < m) (h : w.cell? ⟨b, o + j, none⟩ = some v) : (rdC w b o m)[j]? = some v := by simp [rdC, hj, h]

/-- Block g of w' is a row of the cells cs. -/
def Fr (w : World) (g : Nat) (t : TypeId) (cs : List Value) : Prop := w.heap[g]? = some (.cells cs.toArray t (0, 0))
theorem Fr.lt {w : World} {g : Nat} {t : TypeId} {cs : List Value} (h : Fr w g t cs) : g < w.heap.size := (Array.getElem?_eq_some_iff.1 h).1
theorem Fr.cell {w : World} {g : Nat} {t : TypeId} {cs : List Value} (h : Fr w g t cs) (j : Nat) : w.cell? ⟨g, j, none⟩ = cs[j]? := by
  unfold Fr at h; simp [World.cell?, h]
theorem Fr.frozen {w : World} {g : Nat} {t : TypeId} {cs : List Value} (h : Fr w g t cs) (j : Nat) : w.frozen? ⟨g, j, none⟩ = false := by
  unfold Fr at h; simp [World.frozen?, h]
theorem Fr.set {w : World} {g : Nat} {t : TypeId} {cs : List Value} (h : Fr w g t cs) (j : Nat) (v : Value) : Fr (w.setCell ⟨g, j, none⟩ v) g t (cs.set j v) := by
  unfold Fr at *
  rw [setCell_eq_setRow w g j cs.toArray t (0, 0) v h]
  rw [setRow_heap w g cs.toArray _ t _ h]
  simp
theorem Fr.kept {w w' : World} {g : Nat} {t : TypeId} {cs : List Value} {row : Option Nat} (h : Fr w g t cs) (hg : w.grownBy w' row) (hne : some g ≠ row) : Fr w' g t cs := (hg.block g h.lt hne).trans h
theorem Fr.below {w w' : World} {g : Nat} {t : TypeId} {cs : List Value} (h : Fr w g t cs) (hb : Below w.heap.size w w') : Fr w' g t cs := (hb.block g h.lt).trans h
theorem Fr.row {w : World} {g : Nat} {l : List Int} (h : Fr w g 3 (l.map (Value.int .i64))) (hm : l.length ≤ maxLen) : Row w g l := by
  refine ⟨by simp, .inr ⟨g, l.length, _, rfl, Nat.le_refl _, h, Nat.le_refl _, hm, by simp, by rw [List.toList_toArray, Nat.mul_one, List.take_of_length_le (by simp)]⟩⟩

def CloneP (w : World) (b o n k : Nat) (t : TypeId) (e : Ending) (w' : World) : Prop :=
  e = .returned (.slice (some ⟨w.heap.size, 0, none⟩) n n) ∧ Below w.heap.size w w' ∧ Fr w' w.heap.size t (rdC w b o (n * k))

theorem info_nd : (Tryd.prog.info? 49).map (fun i => (i.zero, i.size, i.bytes)) = some (some (.agg #[.int .u8 0, .slice none 0 0, .int .i64 0, .int .i64 0]), 4, 48) := by kernel_rfl
theorem info_mm : (Tryd.prog.info? 70).map (fun i => (i.zero, i.size, i.bytes)) = some (some (.agg #[.slice none 0 0, .slice none 0 0, .int .i64 0]), 3, 56) := by kernel_rfl
theorem info_str : (Tryd.prog.info? 9).map (fun i => (i.zero, i.size, i.bytes)) = some (some (.string ⟨#[]⟩), 1, 16) := by kernel_rfl

set_option maxHeartbeats 1000000 in
theorem cloneN_any (A : Option Addr) (n c b o : Nat) (w : World) (hA : 0 < n → A = some ⟨b, o, none⟩) (hm : n ≤ 17592186044416) (hby : 48 * n ≤ 281474976710656) (hcell : ∀ j, j < n * 4 → ∃ v, w.cell? ⟨b, o + j, none⟩ = some v ∧ v.oneCell' = true) :
    Calls Tryd.prog 37 #[.slice A n c] w (CloneP w b o n 4 49) := by
  obtain ⟨i1, hi1, hz0, hz1, hz2⟩ := info_parts info_nd
  have HI := Lib.hid (And.intro hi1 (And.intro hz0 (And.intro hz1 hz2)))
  have HA := Lib.hid hA
  have HC := Lib.hid hcell
  clear hi1 hz0 hz1 hz2 hA hcell
  have hinf : (Tryd.prog.info? 49).map (·.size) = some 4 := by
    have := congrArg (Option.map fun x : Option Value × Nat × Nat => x.2.1) info_nd
    simpa using this
  have HF := Lib.hid hinf
  clear hinf
  go_enter Tryd.func37, Tryd.ntmps37
  go_wp2_with (at_make; refine wpList_make_full _ rfl _ _ 22 rfl w.heap.size 49 i1 (.agg #[.int .u8 0, .slice none 0 0, .int .i64 0, .int .i64 0]) 4 Tryd.underlying22 HI.out.1 HI.out.2.1 HI.out.2.2.1 .i64 .i64 _ _ n rfl rfl rfl rfl ?b2 ?b3 ?b4 ?_)
  case b2 => rw [HI.out.2.2.2]; omega
  case b3 => unfold maxLen; omega
  case b4 => exact Nat.le_refl _
  intro w1 hown hgr
  have hb1 : Below w.heap.size w w1 := (Below.refl _ _).grown hgr (Nat.le_refl _) (fun k h => by cases h)
  obtain ⟨cur, hgc, hcur⟩ : ∃ cur : Array Value, w1.heap[w.heap.size]? = some (.cells cur 49 (0, 0)) ∧ cur.size = n * 4 := by
    obtain ⟨-, h2⟩ := hown
    rcases h2 with ⟨e, -⟩ | ⟨g, cap, cur, e, hb, hg, hle, hmx, hsz, -⟩
    · cases e
    · simp only [Value.slice.injEq, Option.some.injEq, Addr.mk.injEq] at e
      obtain ⟨⟨rfl, -⟩, -, rfl⟩ := e
      exact ⟨cur, hg, hsz⟩
  have hsrc : 0 < n → ∃ ad, A = some ad ∧ ∀ j v, (rdC w b o (n * 4))[j]? = some v → w1.cell? (ad.add j) = some v := fun h0 => by
    refine ⟨_, HA.out h0, fun j v hv => ?_⟩
    have hj : j < n * 4 := by
      have := (List.getElem?_eq_some_iff.1 hv).1
      rwa [rdC_len] at this
    obtain ⟨u, hu, -⟩ := HC.out j hj
    rw [rdC_get hj hu] at hv
    obtain rfl : u = v := by simpa using hv
    have e : (⟨b, o, none⟩ : Addr).add j = ⟨b, o + j, none⟩ := by unfold Addr.add; split <;> simp_all
    rw [e, hb1.cell (p := ⟨b, o + j, none⟩) (cell_lt hu)]
    exact hu
  have hone : ∀ v ∈ rdC w b o (n * 4), v.oneCell' = true := fun v hv => by
    obtain ⟨j, hj, rfl⟩ := List.mem_iff_getElem.1 hv
    rw [rdC_len] at hj
    obtain ⟨u, hu, h1⟩ := HC.out j hj
    have := rdC_get hj hu
    rw [List.getElem?_eq_getElem (by rw [rdC_len]; exact hj)] at this
    obtain h := Option.some.inj this
    rw [h]; exact h1
  have HB := Lib.hid hb1
  have HG := Lib.hid hgc
  have HS := Lib.hid hsrc
  have HO := Lib.hid hone
  have HCS := Lib.hid hcur
  clear hown hgr hb1 hgc hsrc hone hcur
  go_wp2_with (first | (refine wpList_copy_all rfl (.tmp 7) (.tmp 8) 22 22 rfl 49 Tryd.underlying22 4 HF.out w.heap.size n n c A rfl rfl cur 49 HG.out HCS.out (rdC w b o (n * 4)) (rdC_len _ _ _ _) HS.out HO.out ?_; intro w2 hf2 hg2; have HF2 := Lib.hid hf2; have HB2 := Lib.hid (HB.out.grown hg2 HB.out.size (fun j hj => by cases hj; exact Nat.le_refl _)); clear hf2 hg2))
  go_ret
  exact ⟨rfl, HB2.out, HF2.out⟩

set_option maxHeartbeats 1000000 in
theorem cloneM_any (A : Option Addr) (n c b o : Nat) (w : World) (hA : 0 < n → A = some ⟨b, o, none⟩) (hm : n ≤ 17592186044416) (hby : 56 * n ≤ 281474976710656) (hcell : ∀ j, j < n * 3 → ∃ v, w.cell? ⟨b, o + j, none⟩ = some v ∧ v.oneCell' = true) :
    Calls Tryd.prog 39 #[.slice A n c] w (CloneP w b o n 3 70) := by
  obtain ⟨i1, hi1, hz0, hz1, hz2⟩ := info_parts info_mm
  have HI := Lib.hid (And.intro hi1 (And.intro hz0 (And.intro hz1 hz2)))
  have HA := Lib.hid hA
  have HC := Lib.hid hcell
  clear hi1 hz0 hz1 hz2 hA hcell
  have hinf : (Tryd.prog.info? 70).map (·.size) = some 3 := by
    have := congrArg (Option.map fun x : Option Value × Nat × Nat => x.2.1) info_mm
    simpa using this
  have HF := Lib.hid hinf
  clear hinf
  go_enter Tryd.func39, Tryd.ntmps39
  go_wp2_with (at_make; refine wpList_make_full _ rfl _ _ 24 rfl w.heap.size 70 i1 (.agg #[.slice none 0 0, .slice none 0 0, .int .i64 0]) 3 Tryd.underlying24 HI.out.1 HI.out.2.1 HI.out.2.2.1 .i64 .i64 _ _ n rfl rfl rfl rfl ?b2 ?b3 ?b4 ?_)
  case b2 => rw [HI.out.2.2.2]; omega
  case b3 => unfold maxLen; omega
  case b4 => exact Nat.le_refl _
  intro w1 hown hgr
  have hb1 : Below w.heap.size w w1 := (Below.refl _ _).grown hgr (Nat.le_refl _) (fun k h => by cases h)
  obtain ⟨cur, hgc, hcur⟩ : ∃ cur : Array Value, w1.heap[w.heap.size]? = some (.cells cur 70 (0, 0)) ∧ cur.size = n * 3 := by
    obtain ⟨-, h2⟩ := hown
    rcases h2 with ⟨e, -⟩ | ⟨g, cap, cur, e, hb, hg, hle, hmx, hsz, -⟩
    · cases e
    · simp only [Value.slice.injEq, Option.some.injEq, Addr.mk.injEq] at e
      obtain ⟨⟨rfl, -⟩, -, rfl⟩ := e
      exact ⟨cur, hg, hsz⟩
  have hsrc : 0 < n → ∃ ad, A = some ad ∧ ∀ j v, (rdC w b o (n * 3))[j]? = some v → w1.cell? (ad.add j) = some v := fun h0 => by
    refine ⟨_, HA.out h0, fun j v hv => ?_⟩
    have hj : j < n * 3 := by
      have := (List.getElem?_eq_some_iff.1 hv).1
      rwa [rdC_len] at this
    obtain ⟨u, hu, -⟩ := HC.out j hj
    rw [rdC_get hj hu] at hv
    obtain rfl : u = v := by simpa using hv
    have e : (⟨b, o, none⟩ : Addr).add j = ⟨b, o + j, none⟩ := by unfold Addr.add; split <;> simp_all
    rw [e, hb1.cell (p := ⟨b, o + j, none⟩) (cell_lt hu)]
    exact hu
  have hone : ∀ v ∈ rdC w b o (n * 3), v.oneCell' = true := fun v hv => by
    obtain ⟨j, hj, rfl⟩ := List.mem_iff_getElem.1 hv
    rw [rdC_len] at hj
    obtain ⟨u, hu, h1⟩ := HC.out j hj
    have := rdC_get hj hu
    rw [List.getElem?_eq_getElem (by rw [rdC_len]; exact hj)] at this
    obtain h := Option.some.inj this
    rw [h]; exact h1
  have HB := Lib.hid hb1
  have HG := Lib.hid hgc
  have HS := Lib.hid hsrc
  have HO := Lib.hid hone
  have HCS := Lib.hid hcur
  clear hown hgr hb1 hgc hsrc hone hcur
  go_wp2_with (first | (refine wpList_copy_all rfl (.tmp 7) (.tmp 8) 24 24 rfl 70 Tryd.underlying24 3 HF.out w.heap.size n n c A rfl rfl cur 70 HG.out HCS.out (rdC w b o (n * 3)) (rdC_len _ _ _ _) HS.out HO.out ?_; intro w2 hf2 hg2; have HF2 := Lib.hid hf2; have HB2 := Lib.hid (HB.out.grown hg2 HB.out.size (fun j hj => by cases hj; exact Nat.le_refl _)); clear hf2 hg2))
  go_ret
  exact ⟨rfl, HB2.out, HF2.out⟩

set_option maxHeartbeats 1000000 in
theorem cloneS_any (A : Option Addr) (n c b o : Nat) (w : World) (hA : 0 < n → A = some ⟨b, o, none⟩) (hm : n ≤ 17592186044416) (hby : 16 * n ≤ 281474976710656) (hcell : ∀ j, j < n * 1 → ∃ v, w.cell? ⟨b, o + j, none⟩ = some v ∧ v.oneCell' = true) :
    Calls Tryd.prog 38 #[.slice A n c] w (CloneP w b o n 1 9) := by
  obtain ⟨i1, hi1, hz0, hz1, hz2⟩ := info_parts info_str
  have HI := Lib.hid (And.intro hi1 (And.intro hz0 (And.intro hz1 hz2)))
  have HA := Lib.hid hA
  have HC := Lib.hid hcell
  clear hi1 hz0 hz1 hz2 hA hcell
  have hinf : (Tryd.prog.info? 9).map (·.size) = some 1 := by
    have := congrArg (Option.map fun x : Option Value × Nat × Nat => x.2.1) info_str
    simpa using this
  have HF := Lib.hid hinf
  clear hinf
  go_enter Tryd.func38, Tryd.ntmps38
  go_wp2_with (at_make; refine wpList_make_full _ rfl _ _ 23 rfl w.heap.size 9 i1 (.string ⟨#[]⟩) 1 Tryd.underlying23 HI.out.1 HI.out.2.1 HI.out.2.2.1 .i64 .i64 _ _ n rfl rfl rfl rfl ?b2 ?b3 ?b4 ?_)
  case b2 => rw [HI.out.2.2.2]; omega
  case b3 => unfold maxLen; omega
  case b4 => exact Nat.le_refl _
  intro w1 hown hgr
  have hb1 : Below w.heap.size w w1 := (Below.refl _ _).grown hgr (Nat.le_refl _) (fun k h => by cases h)
  obtain ⟨cur, hgc, hcur⟩ : ∃ cur : Array Value, w1.heap[w.heap.size]? = some (.cells cur 9 (0, 0)) ∧ cur.size = n * 1 := by
    obtain ⟨-, h2⟩ := hown
    rcases h2 with ⟨e, -⟩ | ⟨g, cap, cur, e, hb, hg, hle, hmx, hsz, -⟩
    · cases e
    · simp only [Value.slice.injEq, Option.some.injEq, Addr.mk.injEq] at e
      obtain ⟨⟨rfl, -⟩, -, rfl⟩ := e
      exact ⟨cur, hg, hsz⟩
  have hsrc : 0 < n → ∃ ad, A = some ad ∧ ∀ j v, (rdC w b o (n * 1))[j]? = some v → w1.cell? (ad.add j) = some v := fun h0 => by
    refine ⟨_, HA.out h0, fun j v hv => ?_⟩
    have hj : j < n * 1 := by
      have := (List.getElem?_eq_some_iff.1 hv).1
      rwa [rdC_len] at this
    obtain ⟨u, hu, -⟩ := HC.out j hj
    rw [rdC_get hj hu] at hv
    obtain rfl : u = v := by simpa using hv
    have e : (⟨b, o, none⟩ : Addr).add j = ⟨b, o + j, none⟩ := by unfold Addr.add; split <;> simp_all
    rw [e, hb1.cell (p := ⟨b, o + j, none⟩) (cell_lt hu)]
    exact hu
  have hone : ∀ v ∈ rdC w b o (n * 1), v.oneCell' = true := fun v hv => by
    obtain ⟨j, hj, rfl⟩ := List.mem_iff_getElem.1 hv
    rw [rdC_len] at hj
    obtain ⟨u, hu, h1⟩ := HC.out j hj
    have := rdC_get hj hu
    rw [List.getElem?_eq_getElem (by rw [rdC_len]; exact hj)] at this
    obtain h := Option.some.inj this
    rw [h]; exact h1
  have HB := Lib.hid hb1
  have HG := Lib.hid hgc
  have HS := Lib.hid hsrc
  have HO := Lib.hid hone
  have HCS := Lib.hid hcur
  clear hown hgr hb1 hgc hsrc hone hcur
  go_wp2_with (first | (refine wpList_copy_all rfl (.tmp 7) (.tmp 8) 23 23 rfl 9 Tryd.underlying23 1 HF.out w.heap.size n n c A rfl rfl cur 9 HG.out HCS.out (rdC w b o (n * 1)) (rdC_len _ _ _ _) HS.out HO.out ?_; intro w2 hf2 hg2; have HF2 := Lib.hid hf2; have HB2 := Lib.hid (HB.out.grown hg2 HB.out.size (fun j hj => by cases hj; exact Nat.le_refl _)); clear hf2 hg2))
  go_ret
  exact ⟨rfl, HB2.out, HF2.out⟩

set_option maxHeartbeats 1000000 in
theorem cloneI_any (A : Option Addr) (n c b o : Nat) (w : World) (hA : 0 < n → A = some ⟨b, o, none⟩) (hm : n ≤ 17592186044416) (hby : 8 * n ≤ 281474976710656) (hcell : ∀ j, j < n * 1 → ∃ v, w.cell? ⟨b, o + j, none⟩ = some v ∧ v.oneCell' = true) :
    Calls Tryd.prog 40 #[.slice A n c] w (CloneP w b o n 1 3) := by
  obtain ⟨i1, hi1, hz0, hz1, hz2⟩ := info_parts info_int
  have HI := Lib.hid (And.intro hi1 (And.intro hz0 (And.intro hz1 hz2)))
  have HA := Lib.hid hA
  have HC := Lib.hid hcell
  clear hi1 hz0 hz1 hz2 hA hcell
  have hinf : (Tryd.prog.info? 3).map (·.size) = some 1 := by
    have := congrArg (Option.map fun x : Option Value × Nat × Nat => x.2.1) info_int
    simpa using this
  have HF := Lib.hid hinf
  clear hinf
  go_enter Tryd.func40, Tryd.ntmps40
  go_wp2_with (at_make; refine wpList_make_full _ rfl _ _ 25 rfl w.heap.size 3 i1 (.int .i64 0) 1 Tryd.underlying25 HI.out.1 HI.out.2.1 HI.out.2.2.1 .i64 .i64 _ _ n rfl rfl rfl rfl ?b2 ?b3 ?b4 ?_)
  case b2 => rw [HI.out.2.2.2]; omega
  case b3 => unfold maxLen; omega
  case b4 => exact Nat.le_refl _
  intro w1 hown hgr
  have hb1 : Below w.heap.size w w1 := (Below.refl _ _).grown hgr (Nat.le_refl _) (fun k h => by cases h)
  obtain ⟨cur, hgc, hcur⟩ : ∃ cur : Array Value, w1.heap[w.heap.size]? = some (.cells cur 3 (0, 0)) ∧ cur.size = n * 1 := by
    obtain ⟨-, h2⟩ := hown
    rcases h2 with ⟨e, -⟩ | ⟨g, cap, cur, e, hb, hg, hle, hmx, hsz, -⟩
    · cases e
    · simp only [Value.slice.injEq, Option.some.injEq, Addr.mk.injEq] at e
      obtain ⟨⟨rfl, -⟩, -, rfl⟩ := e
      exact ⟨cur, hg, hsz⟩
  have hsrc : 0 < n → ∃ ad, A = some ad ∧ ∀ j v, (rdC w b o (n * 1))[j]? = some v → w1.cell? (ad.add j) = some v := fun h0 => by
    refine ⟨_, HA.out h0, fun j v hv => ?_⟩
    have hj : j < n * 1 := by
      have := (List.getElem?_eq_some_iff.1 hv).1
      rwa [rdC_len] at this
    obtain ⟨u, hu, -⟩ := HC.out j hj
    rw [rdC_get hj hu] at hv
    obtain rfl : u = v := by simpa using hv
    have e : (⟨b, o, none⟩ : Addr).add j = ⟨b, o + j, none⟩ := by unfold Addr.add; split <;> simp_all
    rw [e, hb1.cell (p := ⟨b, o + j, none⟩) (cell_lt hu)]
    exact hu
  have hone : ∀ v ∈ rdC w b o (n * 1), v.oneCell' = true := fun v hv => by
    obtain ⟨j, hj, rfl⟩ := List.mem_iff_getElem.1 hv
    rw [rdC_len] at hj
    obtain ⟨u, hu, h1⟩ := HC.out j hj
    have := rdC_get hj hu
    rw [List.getElem?_eq_getElem (by rw [rdC_len]; exact hj)] at this
    obtain h := Option.some.inj this
    rw [h]; exact h1
  have HB := Lib.hid hb1
  have HG := Lib.hid hgc
  have HS := Lib.hid hsrc
  have HO := Lib.hid hone
  have HCS := Lib.hid hcur
  clear hown hgr hb1 hgc hsrc hone hcur
  go_wp2_with (first | (refine wpList_copy_all rfl (.tmp 7) (.tmp 8) 25 25 rfl 3 Tryd.underlying25 1 HF.out w.heap.size n n c A rfl rfl cur 3 HG.out HCS.out (rdC w b o (n * 1)) (rdC_len _ _ _ _) HS.out HO.out ?_; intro w2 hf2 hg2; have HF2 := Lib.hid hf2; have HB2 := Lib.hid (HB.out.grown hg2 HB.out.size (fun j hj => by cases hj; exact Nat.le_refl _)); clear hf2 hg2))
  go_ret
  exact ⟨rfl, HB2.out, HF2.out⟩
end Go.Proofs.YtmghdeodkeenoaaDoor
