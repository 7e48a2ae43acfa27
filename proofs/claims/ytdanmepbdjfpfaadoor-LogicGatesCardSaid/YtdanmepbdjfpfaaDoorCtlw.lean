/- The walk of the law on controlling values, for the kinds that have one. -/
import Derived.Test.YtdanmepbdjfpfaaDoorCtl
namespace Go.Proofs.YtdanmepbdjfpfaaDoor
open Go.RowKit

/-- What was there is as it was; the call's own blocks begin at g. -/
structure Own (g : Nat) (w w' : World) : Prop where
  below : Below g w w'
  size : g ≤ w'.heap.size
theorem Own.drew {g : Nat} {w w' : World} (h : Own g w w') : Own g w w'.drew := ⟨h.below.drew, h.size⟩
theorem Own.alloc {g : Nat} {w w' : World} (h : Own g w w') (o : Obj) : Own g w (w'.alloc o) := ⟨h.below.alloc h.size o, by have := h.size; simp; omega⟩
theorem Own.grown {g : Nat} {w w' w'' : World} {row : Option Nat} (h : Own g w w') (hg : w'.grownBy w'' row) (hr : ∀ q, row = some q → g ≤ q) : Own g w w'' :=
  ⟨h.below.grown hg h.size hr, Nat.le_trans h.size hg.size⟩

theorem one_cells (l : List Int) : ∀ u ∈ l.map (Value.int .u8), u.oneCell' = true := by
  intro u hu
  obtain ⟨x, -, rfl⟩ := List.mem_map.1 hu
  rfl
theorem add_flat (b o j : Nat) : (⟨b, o, none⟩ : Addr).add j = ⟨b, o + j, none⟩ := WideShapes.add_plain b o j
section
variable {w w' : World} {g b o n k : Nat} {l : List Int} (hc : ∀ k, k < n → b < w.heap.size ∧ w.cell? ⟨b, o + k, none⟩ = some (.int .u8 (l.getD k 0))) (hb : Below g w w') (hg : g = w.heap.size)
include hc hb hg
theorem news_take (hn : l.length ≤ n) (j : Nat) (u : Value) (hu : ((l.take k).map (Value.int .u8))[j]? = some u) : w'.cell? ((⟨b, o, none⟩ : Addr).add j) = some u := by
  rw [List.getElem?_map, List.getElem?_take] at hu
  split at hu
  · obtain ⟨x, hx, rfl⟩ := Option.map_eq_some_iff.1 hu
    have hj : j < l.length := by
      rcases Nat.lt_or_ge j l.length with h | h
      · exact h
      · rw [List.getElem?_eq_none h] at hx; cases hx
    have h := hc j (by omega)
    rw [add_flat, hb.cell (p := ⟨b, o + j, none⟩) (by rw [hg]; exact h.1), h.2, List.getD_eq_getElem?_getD, hx]
    rfl
  · cases hu
theorem news_drop (hn : l.length ≤ n) (j : Nat) (u : Value) (hu : ((l.drop k).map (Value.int .u8))[j]? = some u) : w'.cell? ((⟨b, o + k, none⟩ : Addr).add j) = some u := by
  rw [List.getElem?_map, List.getElem?_drop] at hu
  obtain ⟨x, hx, rfl⟩ := Option.map_eq_some_iff.1 hu
  have hj : k + j < l.length := by
    rcases Nat.lt_or_ge (k + j) l.length with h | h
    · exact h
    · rw [List.getElem?_eq_none h] at hx; cases hx
  have h := hc (k + j) (by omega)
  rw [add_flat, Nat.add_assoc, hb.cell (p := ⟨b, o + (k + j), none⟩) (by rw [hg]; exact h.1), h.2, List.getD_eq_getElem?_getD, hx]
  rfl
end
theorem one_kept' {w wA w' : World} {u : Value} {t : TypeId} {r : Option Nat} (hg : wA.grownBy w' r) (hh : wA.heap = (w.alloc (.cells #[u] t)).heap) (hr : r = none) : ∀ (j : Nat) (v : Value), [u][j]? = some v → w'.cell? ((⟨w.heap.size, 0, none⟩ : Addr).add j) = some v := fun j v h => by
  subst hr
  have e : ((⟨w.heap.size, 0, none⟩ : Addr).add j) = ⟨w.heap.size, j, none⟩ := by rw [add_flat, Nat.zero_add]
  rw [World.cell?_of_block (w := w.alloc (.cells #[u] t)) (by rw [e, ← hh]; exact hg.block w.heap.size (by rw [hh]; simp) (by simp))]
  exact one_new w u t j v h

set_option maxHeartbeats 2000000 in
set_option maxRecDepth 100000 in
theorem ctl_5 (at_ : Int) (ha0 : 0 ≤ at_) (ha1 : at_ ≤ 255) (l : List Int) (s : Value) (w : World) (ht : Tabs w)
    (n c b o : Nat) (hv : s = .slice (some ⟨b, o, none⟩) n c) (hnc : n ≤ c)
    (hc : ∀ k, k < n → b < w.heap.size ∧ w.cell? ⟨b, o + k, none⟩ = some (.int .u8 (l.getD k 0)))
    (hn : n = l.length) (h1 : n ≤ 15) (h2 : 1 ≤ n) :
    Calls Tryd.prog 9 #[.int .u8 5, s, .int .u8 at_] w fun e w' => e = .returned (.bool true) ∧ Below w.heap.size w w' := by
  obtain ⟨i0, hi, hz0, hz1, hz2⟩ := info_parts info_value
  obtain ⟨k, hk, hkn⟩ : ∃ k : Nat, at_ % ((n : Int) + 1) = (k : Int) ∧ k ≤ n := ⟨(at_ % ((n : Int) + 1)).toNat, by rw [Int.toNat_of_nonneg]; exact Int.emod_nonneg _ (by omega), by have := Int.emod_lt_of_pos at_ (show (0 : Int) < (n : Int) + 1 by omega); omega⟩
  have HT := Lib.hid ht
  have HC := Lib.hid hc
  have HN := Lib.hid hn
  have HI := Lib.hid hi
  have HZ0 := Lib.hid hz0
  have HZ1 := Lib.hid hz1
  have HZ2 := Lib.hid hz2
  subst hv
  clear ht hc hn hi hz0 hz1 hz2
  obtain ⟨g, hg⟩ : ∃ g, g = w.heap.size := ⟨_, rfl⟩
  have HG := Lib.hid hg
  clear hg
  have f1 : ctl 5 = 0 := by decide
  have f2 : isc 5 = true := by decide
  have f3 : inv 5 = false := by decide
  have f4 : nt 0 = 1 := by decide
  have f5 : nt 1 = 0 := by decide
  have d1 : decide ((15 : Int) < (n : Int)) = false := by simp; omega
  have d2 : decide ((n : Int) < 1) = false := by simp; omega
  have hb0 : Below g w w := Below.refl _ _
  go_enter Tryd.func9, Tryd.ntmps9
  go_upto_region 12 with (first
      | (go_at_call 29; (with_reducible refine (control_any _ _).mono ?_); rintro e w' ⟨rfl, rfl⟩)
      | (go_at_call 30; (with_reducible refine (inverts_any _ _).mono ?_); rintro e w' ⟨rfl, rfl⟩)
      | (go_at_call 16; (with_reducible refine (not_any _ _).mono ?_); rintro e w' ⟨rfl, rfl⟩))
  go_cut [10, 11] (fun _ v wx => Below g w wx ∧ g ≤ wx.heap.size ∧ wx.ownsRow g 24 1 v (n + 1) ((putL l k 0).map (Value.int .u8)))
  case first =>
    have hs0 : Own g w w := ⟨hb0, by rw [HG.out]; exact Nat.le_refl _⟩
    have hkc : (k : Int) ≤ (c : Int) := by omega
    have HNIL : Hid (∀ w' : World, w'.ownsRow g 24 1 (.slice none 0 0) 0 []) := Lib.hid fun _ => ⟨rfl, .inl ⟨rfl, rfl⟩⟩
    have HL1 : Hid (((l.take k).map (Value.int .u8)).length = k) := Lib.hid (by have := HN.out; rw [List.length_map, List.length_take]; omega)
    have HL3 : Hid (((l.drop k).map (Value.int .u8)).length = n - k) := Lib.hid (by have := HN.out; rw [List.length_map, List.length_drop]; omega)
    have HN1 : Hid (∀ w', Own g w w' → ∀ (j : Nat) u, ((l.take k).map (Value.int .u8))[j]? = some u → w'.cell? ((⟨b, o, none⟩ : Addr).add j) = some u) := Lib.hid fun w' h j u hu => news_take (hc := HC.out) (h.below) HG.out (by have := HN.out; omega) j u hu
    have HO1 := Lib.hid (one_cells (l.take k))
    have HO3 := Lib.hid (one_cells (l.drop k))
    have HO2 := Lib.hid (one_cells [0])
    by_cases hck : c = k
    · obtain rfl : n = k := by omega
      obtain rfl : n = c := by omega
      go_region_held3 (fun w' => Own g w w') ((first | assumption | (exact Own.drew (by assumption)) | (exact Own.alloc (by assumption) _)))
        (first
          | (refine step_own rfl (.const (.slice none 0 0)) (.tmp 83) 22 rfl g 24 i0 (.int .u8 0) Tryd.underlying22 HI.out HZ0.out HZ1.out HZ2.out rfl (.slice none 0 0) 0 [] rfl (HNIL.out _) ⟨b, o, none⟩ n n ((l.take n).map (Value.int .u8)) rfl HL1.out (HN1.out _ (by assumption)) HO1.out (by omega) (Own.size (by assumption)) ?_
             intro v1 w1 ho1 hg1
             have hs1 : Own g w w1 := Own.grown (by assumption) hg1 (fun q hq => by cases hq))
          | (refine step_own rfl (.tmp 84) (.tmp 86) 22 rfl g 24 i0 (.int .u8 0) Tryd.underlying22 HI.out HZ0.out HZ1.out HZ2.out rfl v1 (0 + n) _ rfl (by first | exact ho1 | exact ho1.alloc _) _ 1 1 [.int .u8 0] rfl rfl (by first | exact one_new _ _ _ | exact one_kept' (w := w) hg1 rfl rfl) HO2.out (by omega) (Own.size (by assumption)) ?_
             intro v2 w2 ho2 hg2
             have hs2 : Own g w w2 := Own.grown (by assumption) hg2 (fun q hq => own_from ho1 hq))
          | (refine step_own rfl (.tmp 87) (.tmp 90) 22 rfl g 24 i0 (.int .u8 0) Tryd.underlying22 HI.out HZ0.out HZ1.out HZ2.out rfl v2 (0 + n + 1) _ rfl ho2 ⟨b, o, none⟩ 0 0 [] rfl rfl (fun _ _ h => by cases h) (fun _ h => by cases h) (by omega) (Own.size (by assumption)) ?_
             intro v3 w3 ho3 hg3
             have hs3 : Own g w w3 := Own.grown (by assumption) hg3 (fun q hq => own_from ho2 hq)))
      all_goals
        go_wp2_with fail
        go_meet
        refine ⟨Own.below (by assumption), Own.size (by assumption), ?_⟩
        have h := ho3
        have e : l.drop n = [] := List.drop_eq_nil_of_le (by have := HN.out; omega)
        simpa [putL, e] using h
    · have HN3 : Hid (∀ w', Own g w w' → ∀ (j : Nat) u, ((l.drop k).map (Value.int .u8))[j]? = some u → w'.cell? ((⟨b, o + k, none⟩ : Addr).add j) = some u) := Lib.hid fun w' h j u hu => news_drop (hc := HC.out) (h.below) HG.out (by have := HN.out; omega) j u hu
      go_region_held3 (fun w' => Own g w w') ((first | assumption | (exact Own.drew (by assumption)) | (exact Own.alloc (by assumption) _)))
        (first
          | (refine step_own rfl (.const (.slice none 0 0)) (.tmp 83) 22 rfl g 24 i0 (.int .u8 0) Tryd.underlying22 HI.out HZ0.out HZ1.out HZ2.out rfl (.slice none 0 0) 0 [] rfl (HNIL.out _) ⟨b, o, none⟩ k c ((l.take k).map (Value.int .u8)) rfl HL1.out (HN1.out _ (by assumption)) HO1.out (by omega) (Own.size (by assumption)) ?_
             intro v1 w1 ho1 hg1
             have hs1 : Own g w w1 := Own.grown (by assumption) hg1 (fun q hq => by cases hq))
          | (refine step_own rfl (.tmp 84) (.tmp 86) 22 rfl g 24 i0 (.int .u8 0) Tryd.underlying22 HI.out HZ0.out HZ1.out HZ2.out rfl v1 (0 + k) _ rfl (by first | exact ho1 | exact ho1.alloc _) _ 1 1 [.int .u8 0] rfl rfl (by first | exact one_new _ _ _ | exact one_kept' (w := w) hg1 rfl rfl) HO2.out (by omega) (Own.size (by assumption)) ?_
             intro v2 w2 ho2 hg2
             have hs2 : Own g w w2 := Own.grown (by assumption) hg2 (fun q hq => own_from ho1 hq))
          | (refine step_own rfl (.tmp 87) (.tmp 90) 22 rfl g 24 i0 (.int .u8 0) Tryd.underlying22 HI.out HZ0.out HZ1.out HZ2.out rfl v2 (0 + k + 1) _ rfl ho2 ⟨b, o + k, none⟩ (n - k) (c - k) ((l.drop k).map (Value.int .u8)) rfl HL3.out (HN3.out _ (by assumption)) HO3.out (by omega) (Own.size (by assumption)) ?_
             intro v3 w3 ho3 hg3
             have hs3 : Own g w w3 := Own.grown (by assumption) hg3 (fun q hq => own_from ho2 hq)))
      all_goals
        go_wp2_with fail
        go_meet
        refine ⟨Own.below (by assumption), Own.size (by assumption), ?_⟩
        have h := ho3
        rw [show 0 + k + 1 + (n - k) = n + 1 by omega] at h
        simpa [putL] using h
  case rest =>
    obtain ⟨hb, hsz, hown⟩ := hcut
    obtain ⟨x, rfl⟩ : ∃ x : World, x = wc := ⟨_, rfl⟩
    have HIN := Lib.hid (Vs.of_own hown).1
    have HBW := Lib.hid hb
    have hgw : g ≤ x.heap.size := hsz
    obtain ⟨g2, hg2⟩ : ∃ g2, g2 = x.heap.size := ⟨_, rfl⟩
    have HG2 := Lib.hid hg2
    clear hb hsz hown hg2 hk
    go_wp2_with fail
    go_loopw [12, 13] (fun v i wr => ∃ j : Nat, j ≤ n + 1 ∧ i = .int .i64 j ∧ Own g2 x wr ∧ wr.ownsRow g2 24 1 v j ((List.replicate j 1).map (Value.int .u8))) (fun _ i _ => n + 1 - (intOf i).toNat)
    case atStart => exact ⟨0, Nat.zero_le _, rfl, ⟨Below.refl _ _, by rw [HG2.out]; exact Nat.le_refl _⟩, rfl, .inl ⟨rfl, rfl⟩⟩
    case round =>
      obtain ⟨j, hj, rfl, hown0, hown⟩ := hrel
      have HX := Lib.hid hown0
      have HO := Lib.hid hown
      clear hown0 hown
      by_cases hlt : j ≤ n
      · go_wp2_with (first
          | (go_at_call 16; (with_reducible refine (not_any _ _).mono ?_); rintro e w' ⟨rfl, rfl⟩)
          | (at_builtin; refine wpList_append_own _ rfl _ _ 22 rfl g2 24 i0 (.int .u8 0) 1 1 Tryd.underlying22 HI.out HZ0.out HZ1.out HZ2.out rfl (by decide) _ _ _ rfl (HO.out.alloc _) ⟨wr.heap.size, 0, none⟩ 1 1 [.int .u8 1] rfl rfl ?c1 ?c2 ?c3 ?c4 ?c5 ?_))
        case c1 => exact one_new _ _ _
        case c2 => intro u hu; obtain rfl := List.mem_singleton.1 hu; rfl
        case c3 => unfold maxLen; omega
        case c4 => omega
        case c5 => have := HX.out.size; simp; omega
        intro v' w1 hown' hgrow _
        have HO' := Lib.hid hown'
        have HX' := Lib.hid ((HX.out.alloc _).grown hgrow (fun q hq => own_from HO.out hq))
        clear hown' hgrow
        go_wp2
        go_roundw
        case rel =>
          refine ⟨j + 1, by omega, by go_num, HX'.out, ?_⟩
          have h := HO'.out
          rw [List.replicate_succ', List.map_append]
          simpa using h
        case measure => simp [intOf]; omega
      · obtain rfl : j = n + 1 := by omega
        have HOT := Lib.hid (Vs.of_own HO.out).1
        have hb : Below x.heap.size x wr := by have := HX.out.below; rw [HG2.out] at this; exact this
        have HTX : Hid (Tabs x) := Lib.hid (HT.out.below (by have := HBW.out; rw [HG.out] at this; exact this))
        have HT2 : Hid (Tabs wr) := Lib.hid (HTX.out.below hb)
        have HIN2 : Hid (Vs wr wr.heap.size _ _) := Lib.hid ((HIN.out.below hb).more hb.size)
        have HBF : Hid (Below w.heap.size w wr) := Lib.hid (by have := HBW.out; rw [HG.out] at this; exact join this hb)
        have e1 : evalL 5 (putL l k 0) = 0 := ev5 l k (by have := HN.out; omega) (by have := HN.out; omega) (by have := HN.out; omega)
        have e2 : evalL 5 (List.replicate (n + 1) 1) = 1 := ev5' n (by omega) (by omega)
        have f6 : knw 0 = true := by decide
        have H0 : Hid (0 ≤ (5 : Int)) := Lib.hid (by decide)
        have hb0 := Below.refl wr.heap.size wr
        clear hb
        go_wp2_with (first
          | (go_at_call 28; (with_reducible refine (known_any _ _).mono ?_); rintro e w' ⟨rfl, rfl⟩)
          | (go_at_call 16; (with_reducible refine (not_any _ _).mono ?_); rintro e w' ⟨rfl, rfl⟩)
          | (go_at_call 23; first
            | ((with_reducible refine (eval_rel 5 H0.out (Nat.le_refl _) HIN2.out HT2.out _ (by assumption)).mono ?_); rintro e w' ⟨rfl, hb⟩)
            | ((with_reducible refine (eval_rel 5 H0.out (Nat.le_refl _) HOT.out HT2.out _ (by assumption)).mono ?_); rintro e w' ⟨rfl, hb⟩))
          | (go_at_call 11; (with_reducible refine (lives_at HT2.out (by assumption)).mono ?_); rintro e w' ⟨rfl, hb⟩))
        go_ret
        exact ⟨rfl, join HBF.out (by assumption)⟩

set_option maxHeartbeats 2000000 in
set_option maxRecDepth 100000 in
theorem ctl_6 (at_ : Int) (ha0 : 0 ≤ at_) (ha1 : at_ ≤ 255) (l : List Int) (s : Value) (w : World) (ht : Tabs w)
    (n c b o : Nat) (hv : s = .slice (some ⟨b, o, none⟩) n c) (hnc : n ≤ c)
    (hc : ∀ k, k < n → b < w.heap.size ∧ w.cell? ⟨b, o + k, none⟩ = some (.int .u8 (l.getD k 0)))
    (hn : n = l.length) (h1 : n ≤ 15) (h2 : 1 ≤ n) :
    Calls Tryd.prog 9 #[.int .u8 6, s, .int .u8 at_] w fun e w' => e = .returned (.bool true) ∧ Below w.heap.size w w' := by
  obtain ⟨i0, hi, hz0, hz1, hz2⟩ := info_parts info_value
  obtain ⟨k, hk, hkn⟩ : ∃ k : Nat, at_ % ((n : Int) + 1) = (k : Int) ∧ k ≤ n := ⟨(at_ % ((n : Int) + 1)).toNat, by rw [Int.toNat_of_nonneg]; exact Int.emod_nonneg _ (by omega), by have := Int.emod_lt_of_pos at_ (show (0 : Int) < (n : Int) + 1 by omega); omega⟩
  have HT := Lib.hid ht
  have HC := Lib.hid hc
  have HN := Lib.hid hn
  have HI := Lib.hid hi
  have HZ0 := Lib.hid hz0
  have HZ1 := Lib.hid hz1
  have HZ2 := Lib.hid hz2
  subst hv
  clear ht hc hn hi hz0 hz1 hz2
  obtain ⟨g, hg⟩ : ∃ g, g = w.heap.size := ⟨_, rfl⟩
  have HG := Lib.hid hg
  clear hg
  have f1 : ctl 6 = 0 := by decide
  have f2 : isc 6 = true := by decide
  have f3 : inv 6 = true := by decide
  have f4 : nt 0 = 1 := by decide
  have f5 : nt 1 = 0 := by decide
  have d1 : decide ((15 : Int) < (n : Int)) = false := by simp; omega
  have d2 : decide ((n : Int) < 1) = false := by simp; omega
  have hb0 : Below g w w := Below.refl _ _
  go_enter Tryd.func9, Tryd.ntmps9
  go_upto_region 12 with (first
      | (go_at_call 29; (with_reducible refine (control_any _ _).mono ?_); rintro e w' ⟨rfl, rfl⟩)
      | (go_at_call 30; (with_reducible refine (inverts_any _ _).mono ?_); rintro e w' ⟨rfl, rfl⟩)
      | (go_at_call 16; (with_reducible refine (not_any _ _).mono ?_); rintro e w' ⟨rfl, rfl⟩))
  go_cut [10, 11] (fun _ v wx => Below g w wx ∧ g ≤ wx.heap.size ∧ wx.ownsRow g 24 1 v (n + 1) ((putL l k 0).map (Value.int .u8)))
  case first =>
    have hs0 : Own g w w := ⟨hb0, by rw [HG.out]; exact Nat.le_refl _⟩
    have hkc : (k : Int) ≤ (c : Int) := by omega
    have HNIL : Hid (∀ w' : World, w'.ownsRow g 24 1 (.slice none 0 0) 0 []) := Lib.hid fun _ => ⟨rfl, .inl ⟨rfl, rfl⟩⟩
    have HL1 : Hid (((l.take k).map (Value.int .u8)).length = k) := Lib.hid (by have := HN.out; rw [List.length_map, List.length_take]; omega)
    have HL3 : Hid (((l.drop k).map (Value.int .u8)).length = n - k) := Lib.hid (by have := HN.out; rw [List.length_map, List.length_drop]; omega)
    have HN1 : Hid (∀ w', Own g w w' → ∀ (j : Nat) u, ((l.take k).map (Value.int .u8))[j]? = some u → w'.cell? ((⟨b, o, none⟩ : Addr).add j) = some u) := Lib.hid fun w' h j u hu => news_take (hc := HC.out) (h.below) HG.out (by have := HN.out; omega) j u hu
    have HO1 := Lib.hid (one_cells (l.take k))
    have HO3 := Lib.hid (one_cells (l.drop k))
    have HO2 := Lib.hid (one_cells [0])
    by_cases hck : c = k
    · obtain rfl : n = k := by omega
      obtain rfl : n = c := by omega
      go_region_held3 (fun w' => Own g w w') ((first | assumption | (exact Own.drew (by assumption)) | (exact Own.alloc (by assumption) _)))
        (first
          | (refine step_own rfl (.const (.slice none 0 0)) (.tmp 83) 22 rfl g 24 i0 (.int .u8 0) Tryd.underlying22 HI.out HZ0.out HZ1.out HZ2.out rfl (.slice none 0 0) 0 [] rfl (HNIL.out _) ⟨b, o, none⟩ n n ((l.take n).map (Value.int .u8)) rfl HL1.out (HN1.out _ (by assumption)) HO1.out (by omega) (Own.size (by assumption)) ?_
             intro v1 w1 ho1 hg1
             have hs1 : Own g w w1 := Own.grown (by assumption) hg1 (fun q hq => by cases hq))
          | (refine step_own rfl (.tmp 84) (.tmp 86) 22 rfl g 24 i0 (.int .u8 0) Tryd.underlying22 HI.out HZ0.out HZ1.out HZ2.out rfl v1 (0 + n) _ rfl (by first | exact ho1 | exact ho1.alloc _) _ 1 1 [.int .u8 0] rfl rfl (by first | exact one_new _ _ _ | exact one_kept' (w := w) hg1 rfl rfl) HO2.out (by omega) (Own.size (by assumption)) ?_
             intro v2 w2 ho2 hg2
             have hs2 : Own g w w2 := Own.grown (by assumption) hg2 (fun q hq => own_from ho1 hq))
          | (refine step_own rfl (.tmp 87) (.tmp 90) 22 rfl g 24 i0 (.int .u8 0) Tryd.underlying22 HI.out HZ0.out HZ1.out HZ2.out rfl v2 (0 + n + 1) _ rfl ho2 ⟨b, o, none⟩ 0 0 [] rfl rfl (fun _ _ h => by cases h) (fun _ h => by cases h) (by omega) (Own.size (by assumption)) ?_
             intro v3 w3 ho3 hg3
             have hs3 : Own g w w3 := Own.grown (by assumption) hg3 (fun q hq => own_from ho2 hq)))
      all_goals
        go_wp2_with fail
        go_meet
        refine ⟨Own.below (by assumption), Own.size (by assumption), ?_⟩
        have h := ho3
        have e : l.drop n = [] := List.drop_eq_nil_of_le (by have := HN.out; omega)
        simpa [putL, e] using h
    · have HN3 : Hid (∀ w', Own g w w' → ∀ (j : Nat) u, ((l.drop k).map (Value.int .u8))[j]? = some u → w'.cell? ((⟨b, o + k, none⟩ : Addr).add j) = some u) := Lib.hid fun w' h j u hu => news_drop (hc := HC.out) (h.below) HG.out (by have := HN.out; omega) j u hu
      go_region_held3 (fun w' => Own g w w') ((first | assumption | (exact Own.drew (by assumption)) | (exact Own.alloc (by assumption) _)))
        (first
          | (refine step_own rfl (.const (.slice none 0 0)) (.tmp 83) 22 rfl g 24 i0 (.int .u8 0) Tryd.underlying22 HI.out HZ0.out HZ1.out HZ2.out rfl (.slice none 0 0) 0 [] rfl (HNIL.out _) ⟨b, o, none⟩ k c ((l.take k).map (Value.int .u8)) rfl HL1.out (HN1.out _ (by assumption)) HO1.out (by omega) (Own.size (by assumption)) ?_
             intro v1 w1 ho1 hg1
             have hs1 : Own g w w1 := Own.grown (by assumption) hg1 (fun q hq => by cases hq))
          | (refine step_own rfl (.tmp 84) (.tmp 86) 22 rfl g 24 i0 (.int .u8 0) Tryd.underlying22 HI.out HZ0.out HZ1.out HZ2.out rfl v1 (0 + k) _ rfl (by first | exact ho1 | exact ho1.alloc _) _ 1 1 [.int .u8 0] rfl rfl (by first | exact one_new _ _ _ | exact one_kept' (w := w) hg1 rfl rfl) HO2.out (by omega) (Own.size (by assumption)) ?_
             intro v2 w2 ho2 hg2
             have hs2 : Own g w w2 := Own.grown (by assumption) hg2 (fun q hq => own_from ho1 hq))
          | (refine step_own rfl (.tmp 87) (.tmp 90) 22 rfl g 24 i0 (.int .u8 0) Tryd.underlying22 HI.out HZ0.out HZ1.out HZ2.out rfl v2 (0 + k + 1) _ rfl ho2 ⟨b, o + k, none⟩ (n - k) (c - k) ((l.drop k).map (Value.int .u8)) rfl HL3.out (HN3.out _ (by assumption)) HO3.out (by omega) (Own.size (by assumption)) ?_
             intro v3 w3 ho3 hg3
             have hs3 : Own g w w3 := Own.grown (by assumption) hg3 (fun q hq => own_from ho2 hq)))
      all_goals
        go_wp2_with fail
        go_meet
        refine ⟨Own.below (by assumption), Own.size (by assumption), ?_⟩
        have h := ho3
        rw [show 0 + k + 1 + (n - k) = n + 1 by omega] at h
        simpa [putL] using h
  case rest =>
    obtain ⟨hb, hsz, hown⟩ := hcut
    obtain ⟨x, rfl⟩ : ∃ x : World, x = wc := ⟨_, rfl⟩
    have HIN := Lib.hid (Vs.of_own hown).1
    have HBW := Lib.hid hb
    have hgw : g ≤ x.heap.size := hsz
    obtain ⟨g2, hg2⟩ : ∃ g2, g2 = x.heap.size := ⟨_, rfl⟩
    have HG2 := Lib.hid hg2
    clear hb hsz hown hg2 hk
    go_wp2_with fail
    go_loopw [12, 13] (fun v i wr => ∃ j : Nat, j ≤ n + 1 ∧ i = .int .i64 j ∧ Own g2 x wr ∧ wr.ownsRow g2 24 1 v j ((List.replicate j 1).map (Value.int .u8))) (fun _ i _ => n + 1 - (intOf i).toNat)
    case atStart => exact ⟨0, Nat.zero_le _, rfl, ⟨Below.refl _ _, by rw [HG2.out]; exact Nat.le_refl _⟩, rfl, .inl ⟨rfl, rfl⟩⟩
    case round =>
      obtain ⟨j, hj, rfl, hown0, hown⟩ := hrel
      have HX := Lib.hid hown0
      have HO := Lib.hid hown
      clear hown0 hown
      by_cases hlt : j ≤ n
      · go_wp2_with (first
          | (go_at_call 16; (with_reducible refine (not_any _ _).mono ?_); rintro e w' ⟨rfl, rfl⟩)
          | (at_builtin; refine wpList_append_own _ rfl _ _ 22 rfl g2 24 i0 (.int .u8 0) 1 1 Tryd.underlying22 HI.out HZ0.out HZ1.out HZ2.out rfl (by decide) _ _ _ rfl (HO.out.alloc _) ⟨wr.heap.size, 0, none⟩ 1 1 [.int .u8 1] rfl rfl ?c1 ?c2 ?c3 ?c4 ?c5 ?_))
        case c1 => exact one_new _ _ _
        case c2 => intro u hu; obtain rfl := List.mem_singleton.1 hu; rfl
        case c3 => unfold maxLen; omega
        case c4 => omega
        case c5 => have := HX.out.size; simp; omega
        intro v' w1 hown' hgrow _
        have HO' := Lib.hid hown'
        have HX' := Lib.hid ((HX.out.alloc _).grown hgrow (fun q hq => own_from HO.out hq))
        clear hown' hgrow
        go_wp2
        go_roundw
        case rel =>
          refine ⟨j + 1, by omega, by go_num, HX'.out, ?_⟩
          have h := HO'.out
          rw [List.replicate_succ', List.map_append]
          simpa using h
        case measure => simp [intOf]; omega
      · obtain rfl : j = n + 1 := by omega
        have HOT := Lib.hid (Vs.of_own HO.out).1
        have hb : Below x.heap.size x wr := by have := HX.out.below; rw [HG2.out] at this; exact this
        have HTX : Hid (Tabs x) := Lib.hid (HT.out.below (by have := HBW.out; rw [HG.out] at this; exact this))
        have HT2 : Hid (Tabs wr) := Lib.hid (HTX.out.below hb)
        have HIN2 : Hid (Vs wr wr.heap.size _ _) := Lib.hid ((HIN.out.below hb).more hb.size)
        have HBF : Hid (Below w.heap.size w wr) := Lib.hid (by have := HBW.out; rw [HG.out] at this; exact join this hb)
        have e1 : evalL 6 (putL l k 0) = 1 := ev6 l k (by have := HN.out; omega) (by have := HN.out; omega) (by have := HN.out; omega)
        have e2 : evalL 6 (List.replicate (n + 1) 1) = 0 := ev6' n (by omega) (by omega)
        have f6 : knw 0 = true := by decide
        have H0 : Hid (0 ≤ (6 : Int)) := Lib.hid (by decide)
        have hb0 := Below.refl wr.heap.size wr
        clear hb
        go_wp2_with (first
          | (go_at_call 28; (with_reducible refine (known_any _ _).mono ?_); rintro e w' ⟨rfl, rfl⟩)
          | (go_at_call 16; (with_reducible refine (not_any _ _).mono ?_); rintro e w' ⟨rfl, rfl⟩)
          | (go_at_call 23; first
            | ((with_reducible refine (eval_rel 6 H0.out (Nat.le_refl _) HIN2.out HT2.out _ (by assumption)).mono ?_); rintro e w' ⟨rfl, hb⟩)
            | ((with_reducible refine (eval_rel 6 H0.out (Nat.le_refl _) HOT.out HT2.out _ (by assumption)).mono ?_); rintro e w' ⟨rfl, hb⟩))
          | (go_at_call 11; (with_reducible refine (lives_at HT2.out (by assumption)).mono ?_); rintro e w' ⟨rfl, hb⟩))
        go_ret
        exact ⟨rfl, join HBF.out (by assumption)⟩

set_option maxHeartbeats 2000000 in
set_option maxRecDepth 100000 in
theorem ctl_7 (at_ : Int) (ha0 : 0 ≤ at_) (ha1 : at_ ≤ 255) (l : List Int) (s : Value) (w : World) (ht : Tabs w)
    (n c b o : Nat) (hv : s = .slice (some ⟨b, o, none⟩) n c) (hnc : n ≤ c)
    (hc : ∀ k, k < n → b < w.heap.size ∧ w.cell? ⟨b, o + k, none⟩ = some (.int .u8 (l.getD k 0)))
    (hn : n = l.length) (h1 : n ≤ 15) (h2 : 1 ≤ n) :
    Calls Tryd.prog 9 #[.int .u8 7, s, .int .u8 at_] w fun e w' => e = .returned (.bool true) ∧ Below w.heap.size w w' := by
  obtain ⟨i0, hi, hz0, hz1, hz2⟩ := info_parts info_value
  obtain ⟨k, hk, hkn⟩ : ∃ k : Nat, at_ % ((n : Int) + 1) = (k : Int) ∧ k ≤ n := ⟨(at_ % ((n : Int) + 1)).toNat, by rw [Int.toNat_of_nonneg]; exact Int.emod_nonneg _ (by omega), by have := Int.emod_lt_of_pos at_ (show (0 : Int) < (n : Int) + 1 by omega); omega⟩
  have HT := Lib.hid ht
  have HC := Lib.hid hc
  have HN := Lib.hid hn
  have HI := Lib.hid hi
  have HZ0 := Lib.hid hz0
  have HZ1 := Lib.hid hz1
  have HZ2 := Lib.hid hz2
  subst hv
  clear ht hc hn hi hz0 hz1 hz2
  obtain ⟨g, hg⟩ : ∃ g, g = w.heap.size := ⟨_, rfl⟩
  have HG := Lib.hid hg
  clear hg
  have f1 : ctl 7 = 1 := by decide
  have f2 : isc 7 = true := by decide
  have f3 : inv 7 = false := by decide
  have f4 : nt 0 = 1 := by decide
  have f5 : nt 1 = 0 := by decide
  have d1 : decide ((15 : Int) < (n : Int)) = false := by simp; omega
  have d2 : decide ((n : Int) < 1) = false := by simp; omega
  have hb0 : Below g w w := Below.refl _ _
  go_enter Tryd.func9, Tryd.ntmps9
  go_upto_region 12 with (first
      | (go_at_call 29; (with_reducible refine (control_any _ _).mono ?_); rintro e w' ⟨rfl, rfl⟩)
      | (go_at_call 30; (with_reducible refine (inverts_any _ _).mono ?_); rintro e w' ⟨rfl, rfl⟩)
      | (go_at_call 16; (with_reducible refine (not_any _ _).mono ?_); rintro e w' ⟨rfl, rfl⟩))
  go_cut [10, 11] (fun _ v wx => Below g w wx ∧ g ≤ wx.heap.size ∧ wx.ownsRow g 24 1 v (n + 1) ((putL l k 1).map (Value.int .u8)))
  case first =>
    have hs0 : Own g w w := ⟨hb0, by rw [HG.out]; exact Nat.le_refl _⟩
    have hkc : (k : Int) ≤ (c : Int) := by omega
    have HNIL : Hid (∀ w' : World, w'.ownsRow g 24 1 (.slice none 0 0) 0 []) := Lib.hid fun _ => ⟨rfl, .inl ⟨rfl, rfl⟩⟩
    have HL1 : Hid (((l.take k).map (Value.int .u8)).length = k) := Lib.hid (by have := HN.out; rw [List.length_map, List.length_take]; omega)
    have HL3 : Hid (((l.drop k).map (Value.int .u8)).length = n - k) := Lib.hid (by have := HN.out; rw [List.length_map, List.length_drop]; omega)
    have HN1 : Hid (∀ w', Own g w w' → ∀ (j : Nat) u, ((l.take k).map (Value.int .u8))[j]? = some u → w'.cell? ((⟨b, o, none⟩ : Addr).add j) = some u) := Lib.hid fun w' h j u hu => news_take (hc := HC.out) (h.below) HG.out (by have := HN.out; omega) j u hu
    have HO1 := Lib.hid (one_cells (l.take k))
    have HO3 := Lib.hid (one_cells (l.drop k))
    have HO2 := Lib.hid (one_cells [1])
    by_cases hck : c = k
    · obtain rfl : n = k := by omega
      obtain rfl : n = c := by omega
      go_region_held3 (fun w' => Own g w w') ((first | assumption | (exact Own.drew (by assumption)) | (exact Own.alloc (by assumption) _)))
        (first
          | (refine step_own rfl (.const (.slice none 0 0)) (.tmp 83) 22 rfl g 24 i0 (.int .u8 0) Tryd.underlying22 HI.out HZ0.out HZ1.out HZ2.out rfl (.slice none 0 0) 0 [] rfl (HNIL.out _) ⟨b, o, none⟩ n n ((l.take n).map (Value.int .u8)) rfl HL1.out (HN1.out _ (by assumption)) HO1.out (by omega) (Own.size (by assumption)) ?_
             intro v1 w1 ho1 hg1
             have hs1 : Own g w w1 := Own.grown (by assumption) hg1 (fun q hq => by cases hq))
          | (refine step_own rfl (.tmp 84) (.tmp 86) 22 rfl g 24 i0 (.int .u8 0) Tryd.underlying22 HI.out HZ0.out HZ1.out HZ2.out rfl v1 (0 + n) _ rfl (by first | exact ho1 | exact ho1.alloc _) _ 1 1 [.int .u8 1] rfl rfl (by first | exact one_new _ _ _ | exact one_kept' (w := w) hg1 rfl rfl) HO2.out (by omega) (Own.size (by assumption)) ?_
             intro v2 w2 ho2 hg2
             have hs2 : Own g w w2 := Own.grown (by assumption) hg2 (fun q hq => own_from ho1 hq))
          | (refine step_own rfl (.tmp 87) (.tmp 90) 22 rfl g 24 i0 (.int .u8 0) Tryd.underlying22 HI.out HZ0.out HZ1.out HZ2.out rfl v2 (0 + n + 1) _ rfl ho2 ⟨b, o, none⟩ 0 0 [] rfl rfl (fun _ _ h => by cases h) (fun _ h => by cases h) (by omega) (Own.size (by assumption)) ?_
             intro v3 w3 ho3 hg3
             have hs3 : Own g w w3 := Own.grown (by assumption) hg3 (fun q hq => own_from ho2 hq)))
      all_goals
        go_wp2_with fail
        go_meet
        refine ⟨Own.below (by assumption), Own.size (by assumption), ?_⟩
        have h := ho3
        have e : l.drop n = [] := List.drop_eq_nil_of_le (by have := HN.out; omega)
        simpa [putL, e] using h
    · have HN3 : Hid (∀ w', Own g w w' → ∀ (j : Nat) u, ((l.drop k).map (Value.int .u8))[j]? = some u → w'.cell? ((⟨b, o + k, none⟩ : Addr).add j) = some u) := Lib.hid fun w' h j u hu => news_drop (hc := HC.out) (h.below) HG.out (by have := HN.out; omega) j u hu
      go_region_held3 (fun w' => Own g w w') ((first | assumption | (exact Own.drew (by assumption)) | (exact Own.alloc (by assumption) _)))
        (first
          | (refine step_own rfl (.const (.slice none 0 0)) (.tmp 83) 22 rfl g 24 i0 (.int .u8 0) Tryd.underlying22 HI.out HZ0.out HZ1.out HZ2.out rfl (.slice none 0 0) 0 [] rfl (HNIL.out _) ⟨b, o, none⟩ k c ((l.take k).map (Value.int .u8)) rfl HL1.out (HN1.out _ (by assumption)) HO1.out (by omega) (Own.size (by assumption)) ?_
             intro v1 w1 ho1 hg1
             have hs1 : Own g w w1 := Own.grown (by assumption) hg1 (fun q hq => by cases hq))
          | (refine step_own rfl (.tmp 84) (.tmp 86) 22 rfl g 24 i0 (.int .u8 0) Tryd.underlying22 HI.out HZ0.out HZ1.out HZ2.out rfl v1 (0 + k) _ rfl (by first | exact ho1 | exact ho1.alloc _) _ 1 1 [.int .u8 1] rfl rfl (by first | exact one_new _ _ _ | exact one_kept' (w := w) hg1 rfl rfl) HO2.out (by omega) (Own.size (by assumption)) ?_
             intro v2 w2 ho2 hg2
             have hs2 : Own g w w2 := Own.grown (by assumption) hg2 (fun q hq => own_from ho1 hq))
          | (refine step_own rfl (.tmp 87) (.tmp 90) 22 rfl g 24 i0 (.int .u8 0) Tryd.underlying22 HI.out HZ0.out HZ1.out HZ2.out rfl v2 (0 + k + 1) _ rfl ho2 ⟨b, o + k, none⟩ (n - k) (c - k) ((l.drop k).map (Value.int .u8)) rfl HL3.out (HN3.out _ (by assumption)) HO3.out (by omega) (Own.size (by assumption)) ?_
             intro v3 w3 ho3 hg3
             have hs3 : Own g w w3 := Own.grown (by assumption) hg3 (fun q hq => own_from ho2 hq)))
      all_goals
        go_wp2_with fail
        go_meet
        refine ⟨Own.below (by assumption), Own.size (by assumption), ?_⟩
        have h := ho3
        rw [show 0 + k + 1 + (n - k) = n + 1 by omega] at h
        simpa [putL] using h
  case rest =>
    obtain ⟨hb, hsz, hown⟩ := hcut
    obtain ⟨x, rfl⟩ : ∃ x : World, x = wc := ⟨_, rfl⟩
    have HIN := Lib.hid (Vs.of_own hown).1
    have HBW := Lib.hid hb
    have hgw : g ≤ x.heap.size := hsz
    obtain ⟨g2, hg2⟩ : ∃ g2, g2 = x.heap.size := ⟨_, rfl⟩
    have HG2 := Lib.hid hg2
    clear hb hsz hown hg2 hk
    go_wp2_with fail
    go_loopw [12, 13] (fun v i wr => ∃ j : Nat, j ≤ n + 1 ∧ i = .int .i64 j ∧ Own g2 x wr ∧ wr.ownsRow g2 24 1 v j ((List.replicate j 0).map (Value.int .u8))) (fun _ i _ => n + 1 - (intOf i).toNat)
    case atStart => exact ⟨0, Nat.zero_le _, rfl, ⟨Below.refl _ _, by rw [HG2.out]; exact Nat.le_refl _⟩, rfl, .inl ⟨rfl, rfl⟩⟩
    case round =>
      obtain ⟨j, hj, rfl, hown0, hown⟩ := hrel
      have HX := Lib.hid hown0
      have HO := Lib.hid hown
      clear hown0 hown
      by_cases hlt : j ≤ n
      · go_wp2_with (first
          | (go_at_call 16; (with_reducible refine (not_any _ _).mono ?_); rintro e w' ⟨rfl, rfl⟩)
          | (at_builtin; refine wpList_append_own _ rfl _ _ 22 rfl g2 24 i0 (.int .u8 0) 1 1 Tryd.underlying22 HI.out HZ0.out HZ1.out HZ2.out rfl (by decide) _ _ _ rfl (HO.out.alloc _) ⟨wr.heap.size, 0, none⟩ 1 1 [.int .u8 0] rfl rfl ?c1 ?c2 ?c3 ?c4 ?c5 ?_))
        case c1 => exact one_new _ _ _
        case c2 => intro u hu; obtain rfl := List.mem_singleton.1 hu; rfl
        case c3 => unfold maxLen; omega
        case c4 => omega
        case c5 => have := HX.out.size; simp; omega
        intro v' w1 hown' hgrow _
        have HO' := Lib.hid hown'
        have HX' := Lib.hid ((HX.out.alloc _).grown hgrow (fun q hq => own_from HO.out hq))
        clear hown' hgrow
        go_wp2
        go_roundw
        case rel =>
          refine ⟨j + 1, by omega, by go_num, HX'.out, ?_⟩
          have h := HO'.out
          rw [List.replicate_succ', List.map_append]
          simpa using h
        case measure => simp [intOf]; omega
      · obtain rfl : j = n + 1 := by omega
        have HOT := Lib.hid (Vs.of_own HO.out).1
        have hb : Below x.heap.size x wr := by have := HX.out.below; rw [HG2.out] at this; exact this
        have HTX : Hid (Tabs x) := Lib.hid (HT.out.below (by have := HBW.out; rw [HG.out] at this; exact this))
        have HT2 : Hid (Tabs wr) := Lib.hid (HTX.out.below hb)
        have HIN2 : Hid (Vs wr wr.heap.size _ _) := Lib.hid ((HIN.out.below hb).more hb.size)
        have HBF : Hid (Below w.heap.size w wr) := Lib.hid (by have := HBW.out; rw [HG.out] at this; exact join this hb)
        have e1 : evalL 7 (putL l k 1) = 1 := ev7 l k (by have := HN.out; omega) (by have := HN.out; omega) (by have := HN.out; omega)
        have e2 : evalL 7 (List.replicate (n + 1) 0) = 0 := ev7' n (by omega) (by omega)
        have f6 : knw 1 = true := by decide
        have H0 : Hid (0 ≤ (7 : Int)) := Lib.hid (by decide)
        have hb0 := Below.refl wr.heap.size wr
        clear hb
        go_wp2_with (first
          | (go_at_call 28; (with_reducible refine (known_any _ _).mono ?_); rintro e w' ⟨rfl, rfl⟩)
          | (go_at_call 16; (with_reducible refine (not_any _ _).mono ?_); rintro e w' ⟨rfl, rfl⟩)
          | (go_at_call 23; first
            | ((with_reducible refine (eval_rel 7 H0.out (Nat.le_refl _) HIN2.out HT2.out _ (by assumption)).mono ?_); rintro e w' ⟨rfl, hb⟩)
            | ((with_reducible refine (eval_rel 7 H0.out (Nat.le_refl _) HOT.out HT2.out _ (by assumption)).mono ?_); rintro e w' ⟨rfl, hb⟩))
          | (go_at_call 11; (with_reducible refine (lives_at HT2.out (by assumption)).mono ?_); rintro e w' ⟨rfl, hb⟩))
        go_ret
        exact ⟨rfl, join HBF.out (by assumption)⟩

set_option maxHeartbeats 2000000 in
set_option maxRecDepth 100000 in
theorem ctl_8 (at_ : Int) (ha0 : 0 ≤ at_) (ha1 : at_ ≤ 255) (l : List Int) (s : Value) (w : World) (ht : Tabs w)
    (n c b o : Nat) (hv : s = .slice (some ⟨b, o, none⟩) n c) (hnc : n ≤ c)
    (hc : ∀ k, k < n → b < w.heap.size ∧ w.cell? ⟨b, o + k, none⟩ = some (.int .u8 (l.getD k 0)))
    (hn : n = l.length) (h1 : n ≤ 15) (h2 : 1 ≤ n) :
    Calls Tryd.prog 9 #[.int .u8 8, s, .int .u8 at_] w fun e w' => e = .returned (.bool true) ∧ Below w.heap.size w w' := by
  obtain ⟨i0, hi, hz0, hz1, hz2⟩ := info_parts info_value
  obtain ⟨k, hk, hkn⟩ : ∃ k : Nat, at_ % ((n : Int) + 1) = (k : Int) ∧ k ≤ n := ⟨(at_ % ((n : Int) + 1)).toNat, by rw [Int.toNat_of_nonneg]; exact Int.emod_nonneg _ (by omega), by have := Int.emod_lt_of_pos at_ (show (0 : Int) < (n : Int) + 1 by omega); omega⟩
  have HT := Lib.hid ht
  have HC := Lib.hid hc
  have HN := Lib.hid hn
  have HI := Lib.hid hi
  have HZ0 := Lib.hid hz0
  have HZ1 := Lib.hid hz1
  have HZ2 := Lib.hid hz2
  subst hv
  clear ht hc hn hi hz0 hz1 hz2
  obtain ⟨g, hg⟩ : ∃ g, g = w.heap.size := ⟨_, rfl⟩
  have HG := Lib.hid hg
  clear hg
  have f1 : ctl 8 = 1 := by decide
  have f2 : isc 8 = true := by decide
  have f3 : inv 8 = true := by decide
  have f4 : nt 0 = 1 := by decide
  have f5 : nt 1 = 0 := by decide
  have d1 : decide ((15 : Int) < (n : Int)) = false := by simp; omega
  have d2 : decide ((n : Int) < 1) = false := by simp; omega
  have hb0 : Below g w w := Below.refl _ _
  go_enter Tryd.func9, Tryd.ntmps9
  go_upto_region 12 with (first
      | (go_at_call 29; (with_reducible refine (control_any _ _).mono ?_); rintro e w' ⟨rfl, rfl⟩)
      | (go_at_call 30; (with_reducible refine (inverts_any _ _).mono ?_); rintro e w' ⟨rfl, rfl⟩)
      | (go_at_call 16; (with_reducible refine (not_any _ _).mono ?_); rintro e w' ⟨rfl, rfl⟩))
  go_cut [10, 11] (fun _ v wx => Below g w wx ∧ g ≤ wx.heap.size ∧ wx.ownsRow g 24 1 v (n + 1) ((putL l k 1).map (Value.int .u8)))
  case first =>
    have hs0 : Own g w w := ⟨hb0, by rw [HG.out]; exact Nat.le_refl _⟩
    have hkc : (k : Int) ≤ (c : Int) := by omega
    have HNIL : Hid (∀ w' : World, w'.ownsRow g 24 1 (.slice none 0 0) 0 []) := Lib.hid fun _ => ⟨rfl, .inl ⟨rfl, rfl⟩⟩
    have HL1 : Hid (((l.take k).map (Value.int .u8)).length = k) := Lib.hid (by have := HN.out; rw [List.length_map, List.length_take]; omega)
    have HL3 : Hid (((l.drop k).map (Value.int .u8)).length = n - k) := Lib.hid (by have := HN.out; rw [List.length_map, List.length_drop]; omega)
    have HN1 : Hid (∀ w', Own g w w' → ∀ (j : Nat) u, ((l.take k).map (Value.int .u8))[j]? = some u → w'.cell? ((⟨b, o, none⟩ : Addr).add j) = some u) := Lib.hid fun w' h j u hu => news_take (hc := HC.out) (h.below) HG.out (by have := HN.out; omega) j u hu
    have HO1 := Lib.hid (one_cells (l.take k))
    have HO3 := Lib.hid (one_cells (l.drop k))
    have HO2 := Lib.hid (one_cells [1])
    by_cases hck : c = k
    · obtain rfl : n = k := by omega
      obtain rfl : n = c := by omega
      go_region_held3 (fun w' => Own g w w') ((first | assumption | (exact Own.drew (by assumption)) | (exact Own.alloc (by assumption) _)))
        (first
          | (refine step_own rfl (.const (.slice none 0 0)) (.tmp 83) 22 rfl g 24 i0 (.int .u8 0) Tryd.underlying22 HI.out HZ0.out HZ1.out HZ2.out rfl (.slice none 0 0) 0 [] rfl (HNIL.out _) ⟨b, o, none⟩ n n ((l.take n).map (Value.int .u8)) rfl HL1.out (HN1.out _ (by assumption)) HO1.out (by omega) (Own.size (by assumption)) ?_
             intro v1 w1 ho1 hg1
             have hs1 : Own g w w1 := Own.grown (by assumption) hg1 (fun q hq => by cases hq))
          | (refine step_own rfl (.tmp 84) (.tmp 86) 22 rfl g 24 i0 (.int .u8 0) Tryd.underlying22 HI.out HZ0.out HZ1.out HZ2.out rfl v1 (0 + n) _ rfl (by first | exact ho1 | exact ho1.alloc _) _ 1 1 [.int .u8 1] rfl rfl (by first | exact one_new _ _ _ | exact one_kept' (w := w) hg1 rfl rfl) HO2.out (by omega) (Own.size (by assumption)) ?_
             intro v2 w2 ho2 hg2
             have hs2 : Own g w w2 := Own.grown (by assumption) hg2 (fun q hq => own_from ho1 hq))
          | (refine step_own rfl (.tmp 87) (.tmp 90) 22 rfl g 24 i0 (.int .u8 0) Tryd.underlying22 HI.out HZ0.out HZ1.out HZ2.out rfl v2 (0 + n + 1) _ rfl ho2 ⟨b, o, none⟩ 0 0 [] rfl rfl (fun _ _ h => by cases h) (fun _ h => by cases h) (by omega) (Own.size (by assumption)) ?_
             intro v3 w3 ho3 hg3
             have hs3 : Own g w w3 := Own.grown (by assumption) hg3 (fun q hq => own_from ho2 hq)))
      all_goals
        go_wp2_with fail
        go_meet
        refine ⟨Own.below (by assumption), Own.size (by assumption), ?_⟩
        have h := ho3
        have e : l.drop n = [] := List.drop_eq_nil_of_le (by have := HN.out; omega)
        simpa [putL, e] using h
    · have HN3 : Hid (∀ w', Own g w w' → ∀ (j : Nat) u, ((l.drop k).map (Value.int .u8))[j]? = some u → w'.cell? ((⟨b, o + k, none⟩ : Addr).add j) = some u) := Lib.hid fun w' h j u hu => news_drop (hc := HC.out) (h.below) HG.out (by have := HN.out; omega) j u hu
      go_region_held3 (fun w' => Own g w w') ((first | assumption | (exact Own.drew (by assumption)) | (exact Own.alloc (by assumption) _)))
        (first
          | (refine step_own rfl (.const (.slice none 0 0)) (.tmp 83) 22 rfl g 24 i0 (.int .u8 0) Tryd.underlying22 HI.out HZ0.out HZ1.out HZ2.out rfl (.slice none 0 0) 0 [] rfl (HNIL.out _) ⟨b, o, none⟩ k c ((l.take k).map (Value.int .u8)) rfl HL1.out (HN1.out _ (by assumption)) HO1.out (by omega) (Own.size (by assumption)) ?_
             intro v1 w1 ho1 hg1
             have hs1 : Own g w w1 := Own.grown (by assumption) hg1 (fun q hq => by cases hq))
          | (refine step_own rfl (.tmp 84) (.tmp 86) 22 rfl g 24 i0 (.int .u8 0) Tryd.underlying22 HI.out HZ0.out HZ1.out HZ2.out rfl v1 (0 + k) _ rfl (by first | exact ho1 | exact ho1.alloc _) _ 1 1 [.int .u8 1] rfl rfl (by first | exact one_new _ _ _ | exact one_kept' (w := w) hg1 rfl rfl) HO2.out (by omega) (Own.size (by assumption)) ?_
             intro v2 w2 ho2 hg2
             have hs2 : Own g w w2 := Own.grown (by assumption) hg2 (fun q hq => own_from ho1 hq))
          | (refine step_own rfl (.tmp 87) (.tmp 90) 22 rfl g 24 i0 (.int .u8 0) Tryd.underlying22 HI.out HZ0.out HZ1.out HZ2.out rfl v2 (0 + k + 1) _ rfl ho2 ⟨b, o + k, none⟩ (n - k) (c - k) ((l.drop k).map (Value.int .u8)) rfl HL3.out (HN3.out _ (by assumption)) HO3.out (by omega) (Own.size (by assumption)) ?_
             intro v3 w3 ho3 hg3
             have hs3 : Own g w w3 := Own.grown (by assumption) hg3 (fun q hq => own_from ho2 hq)))
      all_goals
        go_wp2_with fail
        go_meet
        refine ⟨Own.below (by assumption), Own.size (by assumption), ?_⟩
        have h := ho3
        rw [show 0 + k + 1 + (n - k) = n + 1 by omega] at h
        simpa [putL] using h
  case rest =>
    obtain ⟨hb, hsz, hown⟩ := hcut
    obtain ⟨x, rfl⟩ : ∃ x : World, x = wc := ⟨_, rfl⟩
    have HIN := Lib.hid (Vs.of_own hown).1
    have HBW := Lib.hid hb
    have hgw : g ≤ x.heap.size := hsz
    obtain ⟨g2, hg2⟩ : ∃ g2, g2 = x.heap.size := ⟨_, rfl⟩
    have HG2 := Lib.hid hg2
    clear hb hsz hown hg2 hk
    go_wp2_with fail
    go_loopw [12, 13] (fun v i wr => ∃ j : Nat, j ≤ n + 1 ∧ i = .int .i64 j ∧ Own g2 x wr ∧ wr.ownsRow g2 24 1 v j ((List.replicate j 0).map (Value.int .u8))) (fun _ i _ => n + 1 - (intOf i).toNat)
    case atStart => exact ⟨0, Nat.zero_le _, rfl, ⟨Below.refl _ _, by rw [HG2.out]; exact Nat.le_refl _⟩, rfl, .inl ⟨rfl, rfl⟩⟩
    case round =>
      obtain ⟨j, hj, rfl, hown0, hown⟩ := hrel
      have HX := Lib.hid hown0
      have HO := Lib.hid hown
      clear hown0 hown
      by_cases hlt : j ≤ n
      · go_wp2_with (first
          | (go_at_call 16; (with_reducible refine (not_any _ _).mono ?_); rintro e w' ⟨rfl, rfl⟩)
          | (at_builtin; refine wpList_append_own _ rfl _ _ 22 rfl g2 24 i0 (.int .u8 0) 1 1 Tryd.underlying22 HI.out HZ0.out HZ1.out HZ2.out rfl (by decide) _ _ _ rfl (HO.out.alloc _) ⟨wr.heap.size, 0, none⟩ 1 1 [.int .u8 0] rfl rfl ?c1 ?c2 ?c3 ?c4 ?c5 ?_))
        case c1 => exact one_new _ _ _
        case c2 => intro u hu; obtain rfl := List.mem_singleton.1 hu; rfl
        case c3 => unfold maxLen; omega
        case c4 => omega
        case c5 => have := HX.out.size; simp; omega
        intro v' w1 hown' hgrow _
        have HO' := Lib.hid hown'
        have HX' := Lib.hid ((HX.out.alloc _).grown hgrow (fun q hq => own_from HO.out hq))
        clear hown' hgrow
        go_wp2
        go_roundw
        case rel =>
          refine ⟨j + 1, by omega, by go_num, HX'.out, ?_⟩
          have h := HO'.out
          rw [List.replicate_succ', List.map_append]
          simpa using h
        case measure => simp [intOf]; omega
      · obtain rfl : j = n + 1 := by omega
        have HOT := Lib.hid (Vs.of_own HO.out).1
        have hb : Below x.heap.size x wr := by have := HX.out.below; rw [HG2.out] at this; exact this
        have HTX : Hid (Tabs x) := Lib.hid (HT.out.below (by have := HBW.out; rw [HG.out] at this; exact this))
        have HT2 : Hid (Tabs wr) := Lib.hid (HTX.out.below hb)
        have HIN2 : Hid (Vs wr wr.heap.size _ _) := Lib.hid ((HIN.out.below hb).more hb.size)
        have HBF : Hid (Below w.heap.size w wr) := Lib.hid (by have := HBW.out; rw [HG.out] at this; exact join this hb)
        have e1 : evalL 8 (putL l k 1) = 0 := ev8 l k (by have := HN.out; omega) (by have := HN.out; omega) (by have := HN.out; omega)
        have e2 : evalL 8 (List.replicate (n + 1) 0) = 1 := ev8' n (by omega) (by omega)
        have f6 : knw 1 = true := by decide
        have H0 : Hid (0 ≤ (8 : Int)) := Lib.hid (by decide)
        have hb0 := Below.refl wr.heap.size wr
        clear hb
        go_wp2_with (first
          | (go_at_call 28; (with_reducible refine (known_any _ _).mono ?_); rintro e w' ⟨rfl, rfl⟩)
          | (go_at_call 16; (with_reducible refine (not_any _ _).mono ?_); rintro e w' ⟨rfl, rfl⟩)
          | (go_at_call 23; first
            | ((with_reducible refine (eval_rel 8 H0.out (Nat.le_refl _) HIN2.out HT2.out _ (by assumption)).mono ?_); rintro e w' ⟨rfl, hb⟩)
            | ((with_reducible refine (eval_rel 8 H0.out (Nat.le_refl _) HOT.out HT2.out _ (by assumption)).mono ?_); rintro e w' ⟨rfl, hb⟩))
          | (go_at_call 11; (with_reducible refine (lives_at HT2.out (by assumption)).mono ?_); rintro e w' ⟨rfl, hb⟩))
        go_ret
        exact ⟨rfl, join HBF.out (by assumption)⟩

theorem ctl_any (q at_ : Int) (h0 : 0 ≤ at_) (h1 : at_ ≤ 255) (l : List Int) (s : Value) (w : World) (ht : Tabs w) (A : Option Addr) (c b o : Nat) (hv : s = .slice A l.length c) (hA : 0 < l.length → A = some ⟨b, o, none⟩) (hlc : l.length ≤ c)
    (hc : ∀ k, k < l.length → b < w.heap.size ∧ w.cell? ⟨b, o + k, none⟩ = some (.int .u8 (l.getD k 0))) :
    Calls Tryd.prog 9 #[.int .u8 q, s, .int .u8 at_] w fun e w' => e = .returned (.bool true) ∧ Below w.heap.size w w' := by
  by_cases n1 : 15 < l.length
  · subst hv; exact ctl_long q at_ A _ c w ht (.inl n1)
  by_cases n2 : l.length < 1
  · subst hv; exact ctl_long q at_ A _ c w ht (.inr ⟨n1, n2⟩)
  cases hq : isc q
  · subst hv; exact ctl_none q at_ A _ c w ht n1 n2 hq
  · obtain rfl := hA (by omega)
    rcases (of_decide_eq_true hq : q = 5 ∨ q = 6 ∨ q = 7 ∨ q = 8) with rfl | rfl | rfl | rfl
    · exact ctl_5 at_ h0 h1 l s w ht _ c b o hv hlc hc rfl (by omega) (by omega)
    · exact ctl_6 at_ h0 h1 l s w ht _ c b o hv hlc hc rfl (by omega) (by omega)
    · exact ctl_7 at_ h0 h1 l s w ht _ c b o hv hlc hc rfl (by omega) (by omega)
    · exact ctl_8 at_ h0 h1 l s w ht _ c b o hv hlc hc rfl (by omega) (by omega)

end Go.Proofs.YtdanmepbdjfpfaaDoor
