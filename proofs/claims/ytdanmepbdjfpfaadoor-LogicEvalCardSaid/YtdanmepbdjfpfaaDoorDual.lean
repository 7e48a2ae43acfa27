/- The walk of the law of duality. -/
import Derived.Test.YtdanmepbdjfpfaaDoorDualp
import Derived.Test.YtdanmepbdjfpfaaDoorCtlw
namespace Go.Proofs.YtdanmepbdjfpfaaDoor
open Go.RowKit

theorem below_new {w0 w : World} (hb : Below w0.heap.size w0 w) (o : Obj) : Below w0.heap.size w0 (w.alloc o) := hb.alloc hb.size o
theorem xor_lit2 {w0 w : World} (a b : Int) (hb : Below w0.heap.size w0 w) : Calls Tryd.prog 15 #[.slice (some ⟨w.heap.size, 0, none⟩) 2 2] (w.alloc (.cells #[.int .u8 a, .int .u8 b] 24)) fun e w' => e = .returned (.int .u8 (xorL [a, b])) ∧ Below w0.heap.size w0 w' :=
  from_new (xor_any (l := [a, b]) (Nat.le_refl _) (Vs.made w [a, b] _ (by simp [maxLen]))) hb
theorem xor_lit2d {w0 w : World} (a b : Int) (hb : Below w0.heap.size w0 w) : Calls Tryd.prog 15 #[.slice (some ⟨w.heap.size, 0, none⟩) 2 2] (w.alloc (.cells #[.int .u8 a, .int .u8 b] 24)).drew fun e w' => e = .returned (.int .u8 (xorL [a, b])) ∧ Below w0.heap.size w0 w' :=
  rel (xor_any (l := [a, b]) (Nat.le_refl _) (Vs.made w [a, b] _ (by simp [maxLen])).drew) (below_new hb _).drew
theorem conflict_rel' {w0 : World} {B : Nat} {s : Value} {l : List Int} (hB : B ≤ w0.heap.size) (hs : Vs w0 B s l) (w : World) (hb : Below w0.heap.size w0 w) :
    Calls Tryd.prog 20 #[s] w fun e w' => e = .returned (.bool (conL l)) ∧ Below w0.heap.size w0 w' := conflict_rel hB hs w hb

set_option maxHeartbeats 400000 in
set_option maxRecDepth 100000 in
theorem dual_long (at_ : Int) (A : Option Addr) (n c : Nat) (w : World) (ht : Tabs w) (h : 16 < n) :
    Calls Tryd.prog 8 #[.slice A n c, .int .u8 at_] w fun e w' => e = .returned (.bool true) ∧ Below w.heap.size w w' := by
  have HT := Lib.hid ht
  clear ht
  have hb0 := Below.refl w.heap.size w
  go_enter Tryd.func8, Tryd.ntmps8
  go_wp2_with (go_at_call 11; (with_reducible refine (lives_at HT.out (by assumption)).mono ?_); rintro e w' ⟨rfl, hb⟩)
  go_ret
  exact ⟨rfl, by assumption⟩

/-- The complements of the first k values, as cells. -/
def notT (l : List Int) (k : Nat) : List Value := ((l.take k).map nt).map (Value.int .u8)
theorem notT_succ (l : List Int) (k : Nat) (h : k < l.length) : notT l (k + 1) = notT l k ++ [.int .u8 (nt (l.getD k 0))] := by
  unfold notT
  rw [take_succ_getD l k h, List.map_append, List.map_append]; rfl
theorem notT_full {w : World} {base n : Nat} {e : TypeId} {v : Value} {l : List Int} (hn : n = l.length) (h : w.ownsRow base e 1 v n (notT l n)) : w.ownsRow base e 1 v n ((l.map nt).map (Value.int .u8)) := by
  unfold notT at h
  rw [List.take_of_length_le (by rw [← hn]; exact Nat.le_refl _)] at h
  exact h
theorem own_form {w : World} {base : Nat} {e : TypeId} {size n : Nat} {v : Value} {xs : List Value} (h : w.ownsRow base e size v n xs) (hn : 0 < n) : ∃ g cap, v = .slice (some ⟨g, 0, none⟩) n cap ∧ base ≤ g ∧ g < w.heap.size ∧ n ≤ cap := by
  rcases h.2 with ⟨-, h0⟩ | ⟨g, cap, cur, hv, hb, hg, hle, -⟩
  · omega
  · refine ⟨g, cap, hv, hb, ?_, hle⟩
    rcases Nat.lt_or_ge g w.heap.size with h | h
    · exact h
    · rw [Array.getElem?_eq_none h] at hg; cases hg

set_option maxHeartbeats 4000000 in
set_option maxRecDepth 100000 in
theorem dual_main (at_ : Int) (ha0 : 0 ≤ at_) (ha1 : at_ ≤ 255) (l : List Int) (s : Value) (w : World) (ht : Tabs w)
    (n c b o : Nat) (hv : s = .slice (some ⟨b, o, none⟩) n c) (hnc : n ≤ c) (hs : Vs w w.heap.size s l)
    (hc : ∀ k, k < n → b < w.heap.size ∧ w.cell? ⟨b, o + k, none⟩ = some (.int .u8 (l.getD k 0)))
    (hn : n = l.length) (h1 : n ≤ 16) (h2 : 1 ≤ n) :
    Calls Tryd.prog 8 #[s, .int .u8 at_] w fun e w' => e = .returned (.bool true) ∧ Below w.heap.size w w' := by
  obtain ⟨i0, hi, hz0, hz1, hz2⟩ := info_parts info_value
  have HT := Lib.hid ht
  have HC := Lib.hid hc
  have HS := Lib.hid hs
  have HN := Lib.hid hn
  have HI := Lib.hid hi
  have HZ0 := Lib.hid hz0
  have HZ1 := Lib.hid hz1
  have HZ2 := Lib.hid hz2
  subst hv
  clear ht hc hn hi hz0 hz1 hz2 hs
  obtain ⟨g, hg⟩ : ∃ g, g = w.heap.size := ⟨_, rfl⟩
  have HG := Lib.hid hg
  clear hg
  have d1 : decide ((16 : Int) < (n : Int)) = false := by simp; omega
  go_enter Tryd.func8, Tryd.ntmps8
  go_wp2_with fail
  go_loopw [5, 6] (fun v i wr => ∃ k : Nat, k ≤ n ∧ i = .int .i64 k ∧ Own g w wr ∧ wr.ownsRow g 24 1 v k (notT l k)) (fun _ i _ => n - (intOf i).toNat)
  case atStart => exact ⟨0, Nat.zero_le _, rfl, ⟨Below.refl _ _, by rw [HG.out]; exact Nat.le_refl _⟩, rfl, .inl ⟨rfl, rfl⟩⟩
  case round =>
    obtain ⟨k, hk, rfl, hown0, hown⟩ := hrel
    have HW := Lib.hid hown0
    have HO := Lib.hid hown
    clear hown0 hown
    by_cases hlt : k < n
    · have hcl : wr.cell? ⟨b, o + k, none⟩ = some (.int .u8 (l.getD k 0)) :=
        (HW.out.below.cell (p := ⟨b, o + k, none⟩) (by rw [HG.out]; exact (HC.out k hlt).1)).trans (HC.out k hlt).2
      have HM := Lib.hid (notT_succ l k (by rw [← HN.out]; exact hlt))
      obtain ⟨x, HX⟩ := named (l.getD k 0)
      rw [← HX.out] at hcl HM
      go_wp2_with (first
        | (go_at_call 16; (with_reducible refine (not_any _ _).mono ?_); rintro e w' ⟨rfl, rfl⟩)
        | (at_builtin; refine wpList_append_own _ rfl _ _ 22 rfl g 24 i0 (.int .u8 0) 1 1 Tryd.underlying22 HI.out HZ0.out HZ1.out HZ2.out rfl (by decide) _ _ _ rfl (HO.out.alloc _) ⟨wr.heap.size, 0, none⟩ 1 1 [.int .u8 (nt x)] rfl rfl ?c1 ?c2 ?c3 ?c4 ?c5 ?_))
      case c1 => exact one_new _ _ _
      case c2 => intro u hu; obtain rfl := List.mem_singleton.1 hu; rfl
      case c3 => unfold maxLen; omega
      case c4 => omega
      case c5 => have := HW.out.size; simp; omega
      intro v' w1 hown' hgrow _
      have HO' := Lib.hid hown'
      have HW' := Lib.hid ((HW.out.alloc _).grown hgrow (fun q hq => own_from HO.out hq))
      clear hown' hgrow
      go_wp2
      go_roundw
      case rel => exact ⟨k + 1, by omega, by go_num, HW'.out, by rw [HM.out]; exact HO'.out⟩
      case measure => simp [intOf]; omega
    · obtain rfl : n = k := by omega
      obtain ⟨X, rfl⟩ : ∃ X : World, X = wr := ⟨_, rfl⟩
      have hown := notT_full HN.out HO.out
      obtain ⟨gn, cn, rfl, -, hgn, -⟩ := own_form hown (by omega)
      have hbX : Below w.heap.size w X := by have := HW.out.below; rw [HG.out] at this; exact this
      have HBX := Lib.hid hbX
      have HTX := Lib.hid (HT.out.below hbX)
      have HSX := Lib.hid ((HS.out.below hbX).more hbX.size)
      have HNX := Lib.hid (Vs.of_own hown).1
      have hx0 : X.cell? ⟨b, o, none⟩ = some (.int .u8 (l.getD 0 0)) := (hbX.cell (p := ⟨b, o, none⟩) (HC.out 0 (by omega)).1).trans (HC.out 0 (by omega)).2
      have hn0 : X.cell? ⟨gn, 0, none⟩ = some (.int .u8 (nt (l.getD 0 0))) := by
        have hl : 0 < l.length := by rw [← HN.out]; omega
        rw [hown.cellAt 0 (by omega), List.getElem?_map, List.getElem?_map, List.getElem?_eq_getElem hl, List.getD_eq_getElem?_getD, List.getElem?_eq_getElem hl]; rfl
      have HBL : Hid (b < X.heap.size) := Lib.hid (Nat.lt_of_lt_of_le (HC.out 0 (by omega)).1 hbX.size)
      have HGN := Lib.hid hgn
      have e1 := morgan_and l
      have e2 := morgan_or l
      have e3 := nt_nt (l.getD 0 0)
      obtain ⟨x0, HX0⟩ := named (l.getD 0 0)
      rw [← HX0.out] at hx0 hn0 e3
      obtain ⟨n0, HN0⟩ := named (nt x0)
      rw [← HN0.out] at hn0 e3
      have HXC : Hid (∀ w', Below X.heap.size X w' → Below X.heap.size X w' ∧ w'.cell? ⟨b, o, none⟩ = some (.int .u8 x0) ∧ w'.cell? ⟨gn, 0, none⟩ = some (.int .u8 n0)) :=
        Lib.hid fun w' h => ⟨h, (h.cell (p := ⟨b, o, none⟩) HBL.out).trans hx0, (h.cell (p := ⟨gn, 0, none⟩) HGN.out).trans hn0⟩
      have hb0 := Below.refl X.heap.size X
      have dn : decide ((0 : Int) < (n : Int)) = true := by simp; omega
      have dn' : decide (0 < n) = true := by simp; omega
      have dn2 : 0 < n := by omega
      clear hown hbX hgn hx0 hn0
      go_wp2_with fail
      go_region_held3 (fun w' => Below X.heap.size X w' ∧ w'.cell? ⟨b, o, none⟩ = some (.int .u8 x0) ∧ w'.cell? ⟨gn, 0, none⟩ = some (.int .u8 n0))
        ((first | assumption | (exact HXC.out _ (by first | assumption | exact Below.drew (by assumption)))))
        (first
          | (go_at_call 12; first
            | ((with_reducible refine (and_rel (Nat.le_refl _) HSX.out _ (by first | assumption | exact And.left (by assumption))).mono ?_); rintro e w' ⟨rfl, hb⟩)
            | ((with_reducible refine (and_rel (Nat.le_refl _) HNX.out _ (by first | assumption | exact And.left (by assumption))).mono ?_); rintro e w' ⟨rfl, hb⟩))
          | (go_at_call 14; first
            | ((with_reducible refine (or_rel (Nat.le_refl _) HSX.out _ (by first | assumption | exact And.left (by assumption))).mono ?_); rintro e w' ⟨rfl, hb⟩)
            | ((with_reducible refine (or_rel (Nat.le_refl _) HNX.out _ (by first | assumption | exact And.left (by assumption))).mono ?_); rintro e w' ⟨rfl, hb⟩))
          | (go_at_call 16; (with_reducible refine (not_any _ _).mono ?_); rintro e w' ⟨rfl, rfl⟩)
          | (go_at_call 27; (with_reducible refine (read_any _ _).mono ?_); rintro e w' ⟨rfl, rfl⟩))
      clear hb0 dn dn' e3
      obtain ⟨k, hk, hkn⟩ : ∃ k : Nat, at_ % (n : Int) = (k : Int) ∧ k < n := ⟨(at_ % (n : Int)).toNat, by rw [Int.toNat_of_nonneg]; exact Int.emod_nonneg _ (by omega), by have := Int.emod_lt_of_pos at_ (show (0 : Int) < (n : Int) by omega); omega⟩
      have hnk : (k : Int) ≤ (n : Int) := by omega
      have hkc : (k : Int) ≤ (c : Int) := by omega
      have hck : ¬ c = k := by omega
      have HCX : Hid (∀ k, k < n → b < X.heap.size ∧ X.cell? ⟨b, o + k, none⟩ = some (.int .u8 (l.getD k 0))) :=
        Lib.hid fun k hk => ⟨HBL.out, (HBX.out.cell (p := ⟨b, o + k, none⟩) (HC.out k hk).1).trans (HC.out k hk).2⟩
      have HNIL : Hid (∀ w' : World, w'.ownsRow X.heap.size 24 1 (.slice none 0 0) 0 []) := Lib.hid fun _ => ⟨rfl, .inl ⟨rfl, rfl⟩⟩
      have HL1 : Hid (((l.drop k).map (Value.int .u8)).length = n - k) := Lib.hid (by have := HN.out; rw [List.length_map, List.length_drop]; omega)
      have HL2 : Hid (((l.take k).map (Value.int .u8)).length = k) := Lib.hid (by have := HN.out; rw [List.length_map, List.length_take]; omega)
      have HN1 : Hid (∀ w', Below X.heap.size X w' → ∀ (j : Nat) u, ((l.drop k).map (Value.int .u8))[j]? = some u → w'.cell? ((⟨b, o + k, none⟩ : Addr).add j) = some u) := Lib.hid fun w' h j u hu => news_drop (hc := HCX.out) h rfl (by have := HN.out; omega) j u hu
      have HN2 : Hid (∀ w', Below X.heap.size X w' → ∀ (j : Nat) u, ((l.take k).map (Value.int .u8))[j]? = some u → w'.cell? ((⟨b, o, none⟩ : Addr).add j) = some u) := Lib.hid fun w' h j u hu => news_take (hc := HCX.out) h rfl (by have := HN.out; omega) j u hu
      have HO1 := Lib.hid (one_cells (l.drop k))
      have HO2 := Lib.hid (one_cells (l.take k))
      go_wp2_with fail
      go_region_held3 (fun w' => Below X.heap.size X w') ((first | assumption | (exact Below.drew (by assumption))))
        (first
          | (refine step_own rfl (.const (.slice none 0 0)) (.tmp 69) 22 rfl X.heap.size 24 i0 (.int .u8 0) Tryd.underlying22 HI.out HZ0.out HZ1.out HZ2.out rfl (.slice none 0 0) 0 [] rfl (HNIL.out _) ⟨b, o + k, none⟩ (n - k) (c - k) ((l.drop k).map (Value.int .u8)) rfl HL1.out (HN1.out _ (by assumption)) HO1.out (by omega) (Below.size (by assumption)) ?_
             intro v1 w1 ho1 hg1
             have hs1 : Below X.heap.size X w1 := Below.grown (by assumption) hg1 (Below.size (by assumption)) (fun q hq => by cases hq))
          | (refine step_own rfl (.tmp 70) (.tmp 73) 22 rfl X.heap.size 24 i0 (.int .u8 0) Tryd.underlying22 HI.out HZ0.out HZ1.out HZ2.out rfl v1 (0 + (n - k)) _ rfl ho1 ⟨b, o, none⟩ k c ((l.take k).map (Value.int .u8)) rfl HL2.out (HN2.out _ (by assumption)) HO2.out (by omega) (Below.size (by assumption)) ?_
             intro v2 w2 ho2 hg2
             have hs2 : Below X.heap.size X w2 := Below.grown (by assumption) hg2 (Below.size (by assumption)) (fun q hq => own_from ho1 hq)))
      clear hk hnk hkc hck
      have hs2 : Below X.heap.size X w2 := by assumption
      have HLE := Lib.hid hs2.size
      have HSY := Lib.hid (HSX.out.below hs2)
      have HRY : Hid (Vs w2 w2.heap.size v2 (rotL l k)) := Lib.hid (by
        have h := ho2
        rw [show 0 + (n - k) + k = n by omega, List.nil_append, ← List.map_append] at h
        exact (Vs.of_own h).1)
      have HBY := Lib.hid hs2
      have r1 := and_rot l k
      have r2 := or_rot l k
      have r3 := xor_rot l k
      have r4 := bus_rot l k
      have r5 := con_rot l k
      have h1n : (1 : Int) ≤ (n : Int) := by omega
      have dz : ((n : Int) == 0) = false := by simp; omega
      have hb0 := Below.refl w2.heap.size w2
      clear hs2 e1 e2
      go_upto_region 16 with (first
          | (go_at_call 12; first
            | ((with_reducible refine (and_rel HLE.out HSY.out _ (by first | assumption | exact And.left (by assumption))).mono ?_); rintro e w' ⟨rfl, hb⟩)
            | ((with_reducible refine (and_rel (Nat.le_refl _) HRY.out _ (by first | assumption | exact And.left (by assumption))).mono ?_); rintro e w' ⟨rfl, hb⟩))
          | (go_at_call 14; first
            | ((with_reducible refine (or_rel HLE.out HSY.out _ (by first | assumption | exact And.left (by assumption))).mono ?_); rintro e w' ⟨rfl, hb⟩)
            | ((with_reducible refine (or_rel (Nat.le_refl _) HRY.out _ (by first | assumption | exact And.left (by assumption))).mono ?_); rintro e w' ⟨rfl, hb⟩))
          | (go_at_call 15; first
            | ((with_reducible refine (xor_rel HLE.out HSY.out _ (by first | assumption | exact And.left (by assumption))).mono ?_); rintro e w' ⟨rfl, hb⟩)
            | ((with_reducible refine (xor_rel (Nat.le_refl _) HRY.out _ (by first | assumption | exact And.left (by assumption))).mono ?_); rintro e w' ⟨rfl, hb⟩))
          | (go_at_call 19; first
            | ((with_reducible refine (bus_rel HLE.out HSY.out _ (by first | assumption | exact And.left (by assumption))).mono ?_); rintro e w' ⟨rfl, hb⟩)
            | ((with_reducible refine (bus_rel (Nat.le_refl _) HRY.out _ (by first | assumption | exact And.left (by assumption))).mono ?_); rintro e w' ⟨rfl, hb⟩))
          | (go_at_call 20; first
            | ((with_reducible refine (conflict_rel' HLE.out HSY.out _ (by first | assumption | exact And.left (by assumption))).mono ?_); rintro e w' ⟨rfl, hb⟩)
            | ((with_reducible refine (conflict_rel' (Nat.le_refl _) HRY.out _ (by first | assumption | exact And.left (by assumption))).mono ?_); rintro e w' ⟨rfl, hb⟩)))
      clear r1 r2 r3 r4 r5
      have ht := head_tail (l := l) (by rw [← HN.out]; omega)
      obtain ⟨tl, HTL⟩ := named (l.drop 1)
      rw [← HTL.out] at ht
      have u1 : andL [x0, andL tl] = andL l := by rw [and_two, HX0.out, ← ht]
      have u2 : orL [x0, orL tl] = orL l := by rw [or_two, HX0.out, ← ht]
      have u3 : xorL [x0, xorL tl] = xorL l := by rw [xor_two, HX0.out, ← ht]
      have u4 : xorL [x0, 1] = n0 := by rw [xor_one, HN0.out]
      have u5 : mx x0 0 1 = rd x0 := mx_01 x0
      clear ht
      have HXC2 : Hid (∀ w', Below w2.heap.size w2 w' → Below w2.heap.size w2 w' ∧ w'.cell? ⟨b, o, none⟩ = some (.int .u8 x0) ∧ w'.cell? ⟨gn, 0, none⟩ = some (.int .u8 n0)) := Lib.hid fun w' h => by
        have h' := HXC.out w' (join HBY.out h)
        exact ⟨h, h'.2⟩
      have HTY2 : Hid (Tabs w2) := Lib.hid (HTX.out.below HBY.out)
      by_cases hc1 : c = 1
      · obtain rfl : 1 = c := hc1.symm
        obtain rfl : 1 = n := by omega
        have HTY : Hid (Vs w2 X.heap.size (.slice (some ⟨b, o, none⟩) 0 0) tl) := Lib.hid (by
          rw [HTL.out, List.drop_eq_nil_of_le (by have := HN.out; omega)]
          exact Vs.nil _ _ _ _)
        go_wp2_with fail
        go_region_held3 (fun w' => Below w2.heap.size w2 w' ∧ w'.cell? ⟨b, o, none⟩ = some (.int .u8 x0) ∧ w'.cell? ⟨gn, 0, none⟩ = some (.int .u8 n0))
          ((first | assumption | (exact HXC2.out _ (by first | assumption | exact Below.drew (by assumption) | exact below_new (And.left (by assumption)) _ | exact below_new (by assumption) _))))
          (first
            | (go_at_call 12; first
              | ((with_reducible refine (and_rel HLE.out HSY.out _ (by first | assumption | exact And.left (by assumption))).mono ?_); rintro e w' ⟨rfl, hb⟩)
              | ((with_reducible refine (and_rel HLE.out HTY.out _ (by first | assumption | exact And.left (by assumption))).mono ?_); rintro e w' ⟨rfl, hb⟩)
              | ((with_reducible refine (and_lit2 _ _ (by first | assumption | exact And.left (by assumption))).mono ?_); rintro e w' ⟨rfl, hb⟩))
            | (go_at_call 14; first
              | ((with_reducible refine (or_rel HLE.out HSY.out _ (by first | assumption | exact And.left (by assumption))).mono ?_); rintro e w' ⟨rfl, hb⟩)
              | ((with_reducible refine (or_rel HLE.out HTY.out _ (by first | assumption | exact And.left (by assumption))).mono ?_); rintro e w' ⟨rfl, hb⟩)
              | ((with_reducible refine (or_lit2 _ _ (by first | assumption | exact And.left (by assumption))).mono ?_); rintro e w' ⟨rfl, hb⟩))
            | (go_at_call 15; first
              | ((with_reducible refine (xor_rel HLE.out HSY.out _ (by first | assumption | exact And.left (by assumption))).mono ?_); rintro e w' ⟨rfl, hb⟩)
              | ((with_reducible refine (xor_rel HLE.out HTY.out _ (by first | assumption | exact And.left (by assumption))).mono ?_); rintro e w' ⟨rfl, hb⟩)
              | ((with_reducible refine (xor_lit2 _ _ (by first | assumption | exact And.left (by assumption))).mono ?_); rintro e w' ⟨rfl, hb⟩)))
        all_goals
          clear u1 u2 u3
          go_wp2_with fail
        go_region_held3 (fun w' => Below w2.heap.size w2 w' ∧ w'.cell? ⟨b, o, none⟩ = some (.int .u8 x0) ∧ w'.cell? ⟨gn, 0, none⟩ = some (.int .u8 n0))
          ((first | assumption | (exact HXC2.out _ (by first | assumption | exact Below.drew (by assumption) | exact below_new (And.left (by assumption)) _ | exact below_new (by assumption) _))))
          (first
            | (go_at_call 15; (with_reducible refine (xor_lit2d _ _ (by first | assumption | exact And.left (by assumption))).mono ?_); rintro e w' ⟨rfl, hb⟩)
            | (go_at_call 18; (with_reducible refine (mux_any _ _ _ _).mono ?_); rintro e w' ⟨rfl, rfl⟩)
            | (go_at_call 27; (with_reducible refine (read_any _ _).mono ?_); rintro e w' ⟨rfl, rfl⟩)
            | (go_at_call 11; (with_reducible refine (lives_at HTY2.out (by first | assumption | exact And.left (by assumption))).mono ?_); rintro e w' ⟨rfl, hb⟩))
        go_wp2
        go_ret
        exact ⟨rfl, join (join HBX.out HBY.out) (by first | assumption | exact And.left (by assumption))⟩
      · have HTY : Hid (Vs w2 X.heap.size (.slice (some ⟨b, o + 1, none⟩) (n - 1) (c - 1)) tl) := Lib.hid (by
          rw [HTL.out]
          have hl : (l.drop 1).length = n - 1 := by have := HN.out; rw [List.length_drop]; omega
          refine ⟨b, o + 1, c - 1, .inl (by rw [hl]), by rw [hl]; unfold maxLen; omega, fun j hj => ⟨HBL.out, ?_⟩⟩
          rw [hl] at hj
          rw [Nat.add_assoc, HBY.out.cell (p := ⟨b, o + (1 + j), none⟩) HBL.out, (HCX.out (1 + j) (by omega)).2]
          rw [List.getD_eq_getElem?_getD, List.getD_eq_getElem?_getD, List.getElem?_drop])
        go_wp2_with fail
        go_region_held3 (fun w' => Below w2.heap.size w2 w' ∧ w'.cell? ⟨b, o, none⟩ = some (.int .u8 x0) ∧ w'.cell? ⟨gn, 0, none⟩ = some (.int .u8 n0))
          ((first | assumption | (exact HXC2.out _ (by first | assumption | exact Below.drew (by assumption) | exact below_new (And.left (by assumption)) _ | exact below_new (by assumption) _))))
          (first
            | (go_at_call 12; first
              | ((with_reducible refine (and_rel HLE.out HSY.out _ (by first | assumption | exact And.left (by assumption))).mono ?_); rintro e w' ⟨rfl, hb⟩)
              | ((with_reducible refine (and_rel HLE.out HTY.out _ (by first | assumption | exact And.left (by assumption))).mono ?_); rintro e w' ⟨rfl, hb⟩)
              | ((with_reducible refine (and_lit2 _ _ (by first | assumption | exact And.left (by assumption))).mono ?_); rintro e w' ⟨rfl, hb⟩))
            | (go_at_call 14; first
              | ((with_reducible refine (or_rel HLE.out HSY.out _ (by first | assumption | exact And.left (by assumption))).mono ?_); rintro e w' ⟨rfl, hb⟩)
              | ((with_reducible refine (or_rel HLE.out HTY.out _ (by first | assumption | exact And.left (by assumption))).mono ?_); rintro e w' ⟨rfl, hb⟩)
              | ((with_reducible refine (or_lit2 _ _ (by first | assumption | exact And.left (by assumption))).mono ?_); rintro e w' ⟨rfl, hb⟩))
            | (go_at_call 15; first
              | ((with_reducible refine (xor_rel HLE.out HSY.out _ (by first | assumption | exact And.left (by assumption))).mono ?_); rintro e w' ⟨rfl, hb⟩)
              | ((with_reducible refine (xor_rel HLE.out HTY.out _ (by first | assumption | exact And.left (by assumption))).mono ?_); rintro e w' ⟨rfl, hb⟩)
              | ((with_reducible refine (xor_lit2 _ _ (by first | assumption | exact And.left (by assumption))).mono ?_); rintro e w' ⟨rfl, hb⟩)))
        all_goals
          clear u1 u2 u3
          go_wp2_with fail
        go_region_held3 (fun w' => Below w2.heap.size w2 w' ∧ w'.cell? ⟨b, o, none⟩ = some (.int .u8 x0) ∧ w'.cell? ⟨gn, 0, none⟩ = some (.int .u8 n0))
          ((first | assumption | (exact HXC2.out _ (by first | assumption | exact Below.drew (by assumption) | exact below_new (And.left (by assumption)) _ | exact below_new (by assumption) _))))
          (first
            | (go_at_call 15; (with_reducible refine (xor_lit2d _ _ (by first | assumption | exact And.left (by assumption))).mono ?_); rintro e w' ⟨rfl, hb⟩)
            | (go_at_call 18; (with_reducible refine (mux_any _ _ _ _).mono ?_); rintro e w' ⟨rfl, rfl⟩)
            | (go_at_call 27; (with_reducible refine (read_any _ _).mono ?_); rintro e w' ⟨rfl, rfl⟩)
            | (go_at_call 11; (with_reducible refine (lives_at HTY2.out (by first | assumption | exact And.left (by assumption))).mono ?_); rintro e w' ⟨rfl, hb⟩))
        go_wp2
        go_ret
        exact ⟨rfl, join (join HBX.out HBY.out) (by first | assumption | exact And.left (by assumption))⟩

end Go.Proofs.YtdanmepbdjfpfaaDoor
