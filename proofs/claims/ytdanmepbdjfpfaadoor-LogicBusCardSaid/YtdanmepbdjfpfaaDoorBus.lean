/- The walk of the law of buses. -/
import Derived.Test.YtdanmepbdjfpfaaDoorAppp
namespace Go.Proofs.YtdanmepbdjfpfaaDoor
open Go.RowKit

def A0 (x : Int) (l : List Int) (k : Nat) : Bool := (l.take k).any fun v => v == x
theorem A0_zero (x : Int) (l : List Int) : A0 x l 0 = false := rfl
theorem A0_succ (x : Int) (l : List Int) (k : Nat) (h : k < l.length) : A0 x l (k + 1) = (A0 x l k || (l.getD k 0 == x)) := by
  unfold A0
  rw [take_succ_getD l k h, List.any_append]; simp
theorem cln_eq (v x : Int) (h : x = 0 ∨ x = 1) : (cln v == x) = (v == x) := by
  unfold cln
  split
  · rcases h with rfl | rfl
    · rw [beq_eq_false_iff_ne.2 (by omega), beq_eq_false_iff_ne.2 (by omega)]
    · rw [beq_eq_false_iff_ne.2 (by omega), beq_eq_false_iff_ne.2 (by omega)]
  · rfl
theorem A0_all (x : Int) (h : x = 0 ∨ x = 1) (l : List Int) (n : Nat) (hn : n = l.length) : A0 x l n = anyIs cln x l := by
  unfold A0 anyIs
  rw [List.take_of_length_le (by omega)]
  exact congrArg (fun f => l.any f) (funext fun v => (cln_eq v x h).symm)
def conT (l : List Int) (n k : Nat) : Bool := A0 0 l k && A0 1 l n
theorem conT_all (l : List Int) (n : Nat) (hn : n = l.length) : conT l n n = conL l := by
  unfold conT conL
  rw [A0_all 0 (.inl rfl) l n hn, A0_all 1 (.inr rfl) l n hn]
theorem conT_succ (l : List Int) (n k : Nat) (h : k < l.length) : conT l n (k + 1) = (conT l n k || ((l.getD k 0 == 0) && A0 1 l n)) := by
  unfold conT
  rw [A0_succ 0 l k h, Bool.and_or_distrib_right]
theorem any_ext {l m : List Int} (h : ∀ v, v ∈ l ↔ v ∈ m) (f : Int → Bool) : l.any f = m.any f := by
  rw [Bool.eq_iff_iff, List.any_eq_true, List.any_eq_true]
  exact ⟨fun ⟨v, hv, e⟩ => ⟨v, (h v).1 hv, e⟩, fun ⟨v, hv, e⟩ => ⟨v, (h v).2 hv, e⟩⟩
theorem more_any (f : Int → Int) (x y : Int) (l : List Int) (h3 : (f 3 == x) = false) (hy : y ∈ l) : anyIs f x (3 :: l ++ [y]) = anyIs f x l := by
  unfold anyIs
  rw [List.cons_append, List.any_cons, h3, Bool.false_or]
  exact any_ext (fun v => by simp; rintro rfl; exact hy) _
theorem more_con (y : Int) (l : List Int) (hy : y ∈ l) : conL (3 :: l ++ [y]) = conL l := by
  unfold conL; rw [more_any cln 0 y l rfl hy, more_any cln 1 y l rfl hy]
theorem more_bus (y : Int) (l : List Int) (hy : y ∈ l) : busL (3 :: l ++ [y]) = busL l := by
  unfold busL; rw [more_con y l hy, more_any cln 0 y l rfl hy, more_any cln 1 y l rfl hy, more_any cln 2 y l rfl hy]
theorem con_bus {l : List Int} (h : conL l = true) : busL l = 2 := by unfold busL; rw [h, if_pos (by simp)]

set_option maxHeartbeats 1000000 in
set_option maxRecDepth 100000 in
theorem bus_main (at_ : Int) (ha0 : 0 ≤ at_) (ha1 : at_ ≤ 255) (l : List Int) (s : Value) (w : World) (ht : Tabs w)
    (n c b o : Nat) (hv : s = .slice (some ⟨b, o, none⟩) n c) (hnc : n ≤ c) (hs : Vs w w.heap.size s l)
    (hc : ∀ k, k < n → b < w.heap.size ∧ w.cell? ⟨b, o + k, none⟩ = some (.int .u8 (l.getD k 0)))
    (hp : ∀ v ∈ l, 0 ≤ v) (hn : n = l.length) (h1 : n ≤ 7) (h2 : 1 ≤ n) :
    Calls Tryd.prog 4 #[s, .int .u8 at_] w fun e w' => e = .returned (.bool true) ∧ Below w.heap.size w w' := by
  obtain ⟨i0, hi, hz0, hz1, hz2⟩ := info_parts info_value
  have HT := Lib.hid ht
  have HC := Lib.hid hc
  have HS := Lib.hid hs
  have HN := Lib.hid hn
  have HP := Lib.hid hp
  have HI := Lib.hid hi
  have HZ0 := Lib.hid hz0
  have HZ1 := Lib.hid hz1
  have HZ2 := Lib.hid hz2
  subst hv
  clear ht hc hn hi hz0 hz1 hz2 hs hp
  obtain ⟨V, HV⟩ := named (busL l)
  have HB0 : Hid (∀ w', Below w.heap.size w w' → Calls Tryd.prog 19 #[.slice (some ⟨b, o, none⟩) n c] w' fun e w'' => e = .returned (.int .u8 V) ∧ Below w.heap.size w w'') :=
    Lib.hid fun w' h => by rw [HV.out]; exact bus_rel (Nat.le_refl _) HS.out w' h
  have d1 : decide ((7 : Int) < (n : Int)) = false := by simp; omega
  have hb0 := Below.refl w.heap.size w
  go_enter Tryd.func4, Tryd.ntmps4
  go_wp2_with (go_at_call 19; (with_reducible refine (HB0.out _ hb0).mono ?_); rintro e w1 ⟨rfl, hb⟩)
  have HBX := Lib.hid hb
  clear hb0 hb d1
  go_loopw [6, 7] (fun v i wr => ∃ k : Nat, k ≤ n ∧ i = .int .i64 k ∧ v = .bool (conT l n k) ∧ Below w.heap.size w wr) (fun _ i _ => n - (intOf i).toNat)
  case atStart => exact ⟨0, Nat.zero_le _, rfl, rfl, HBX.out⟩
  case round =>
    obtain ⟨k, hk, rfl, rfl, hbr⟩ := hrel
    have HR := Lib.hid hbr
    clear hbr
    by_cases hlt : k < n
    · have HK := Lib.hid (conT_succ l n k (by rw [← HN.out]; exact hlt))
      have HCK := Lib.hid (HC.out k hlt)
      obtain ⟨x, HX⟩ := named (l.getD k 0)
      rw [← HX.out] at HK HCK
      obtain ⟨c0, HC0⟩ := named (conT l n k)
      rw [← HC0.out] at HK
      go_wp2_with fail
      go_loopw [6, 8] (fun v i wr => ∃ j : Nat, j ≤ n ∧ i = .int .i64 j ∧ v = .bool (c0 || ((x == 0) && A0 1 l j)) ∧ Below w.heap.size w wr) (fun _ i _ => n - (intOf i).toNat)
      case atStart => exact ⟨0, Nat.zero_le _, rfl, by rw [A0_zero, Bool.and_false, Bool.or_false, HC0.out], HR.out⟩
      case round =>
        obtain ⟨j, hj, rfl, rfl, hbq⟩ := hrel
        have HQ := Lib.hid hbq
        clear hbq
        by_cases hjt : j < n
        · have HA := Lib.hid (A0_succ 1 l j (by rw [← HN.out]; exact hjt))
          have hck := (HQ.out.cell (p := ⟨b, o + k, none⟩) HCK.out.1).trans HCK.out.2
          have hcj := (HQ.out.cell (p := ⟨b, o + j, none⟩) (HC.out j hjt).1).trans (HC.out j hjt).2
          obtain ⟨y, HY⟩ := named (l.getD j 0)
          rw [← HY.out] at hcj HA
          obtain ⟨a0, HA0⟩ := named (A0 1 l j)
          rw [← HA0.out] at HA
          rw [← HA0.out]
          cases c0
          · cases hx : (x == 0)
            · go_wp2_with fail
              go_roundw
              case rel => exact ⟨j + 1, by omega, by go_num, by simp, by first | exact HQ.out | exact below_drewN HQ.out _⟩
              case measure => simp [intOf]; omega
            · cases hy : (y == 1)
              · cases a0
                all_goals
                  go_wp2_with fail
                  go_roundw
                  case rel => exact ⟨j + 1, by omega, by go_num, by rw [HA.out, hy]; rfl, by first | exact HQ.out | exact below_drewN HQ.out _⟩
                  case measure => simp [intOf]; omega
              · cases a0
                all_goals
                  go_wp2_with fail
                  go_roundw
                  case rel => exact ⟨j + 1, by omega, by go_num, by rw [HA.out, hy]; rfl, by first | exact HQ.out | exact below_drewN HQ.out _⟩
                  case measure => simp [intOf]; omega
          · go_wp2_with fail
            go_roundw
            case rel => exact ⟨j + 1, by omega, by go_num, rfl, by first | exact HQ.out | exact below_drewN HQ.out _⟩
            case measure => simp [intOf]; omega
        · obtain rfl : n = j := by omega
          go_wp2_with fail
          go_roundw
          case rel => exact ⟨k + 1, by omega, by go_num, by rw [HK.out], HQ.out⟩
          case measure => simp [intOf]; omega
    · obtain rfl : n = k := by omega
      obtain ⟨X, rfl⟩ : ∃ X : World, X = wr := ⟨_, rfl⟩
      rw [conT_all l n HN.out]
      have HNW : Hid (∀ w', Below w.heap.size w w' → ∀ (j : Nat) u, (l.map (Value.int .u8))[j]? = some u → w'.cell? ((⟨b, o, none⟩ : Addr).add j) = some u) := Lib.hid fun w' h j u hu =>
        news_take (hc := HC.out) h rfl (by have := HN.out; omega) (k := n) j u (by rw [List.take_of_length_le (by have := HN.out; omega)]; exact hu)
      have HO3 : Hid ((X.alloc (.cells #[.int .u8 3] 24)).ownsRow X.heap.size 24 1 (.slice (some ⟨X.heap.size, 0, none⟩) 1 1) 1 [.int .u8 3]) :=
        Lib.hid ⟨rfl, .inr ⟨X.heap.size, 1, #[.int .u8 3], rfl, Nat.le_refl _, heap_alloc_new X _, Nat.le_refl _, by unfold maxLen; omega, rfl, rfl⟩⟩
      have HLM : Hid ((l.map (Value.int .u8)).length = n * 1) := Lib.hid (by rw [List.length_map, Nat.mul_one]; exact HN.out.symm)
      have HL1 := Lib.hid (one_cells l)
      obtain ⟨C, HCC⟩ := named (conL l)
      rw [← HCC.out]
      obtain ⟨k, hk, hkn⟩ : ∃ k : Nat, at_ % (n : Int) = (k : Int) ∧ k < n := ⟨(at_ % (n : Int)).toNat, by rw [Int.toNat_of_nonneg]; exact Int.emod_nonneg _ (by omega), by have := Int.emod_lt_of_pos at_ (show (0 : Int) < (n : Int) by omega); omega⟩
      have dn : decide ((0 : Int) < (n : Int)) = true := by simp; omega
      have dz : ((n : Int) == 0) = false := by simp; omega
      go_wp2_with (at_builtin; go_loud (refine wpList_append_own _ rfl _ _ 22 rfl X.heap.size 24 i0 (.int .u8 0) 1 1 Tryd.underlying22 HI.out HZ0.out HZ1.out HZ2.out rfl (by decide) _ _ _ rfl HO3.out ⟨b, o, none⟩ n c (l.map (Value.int .u8)) rfl HLM.out ?c1 HL1.out ?c3 ?c4 ?c5 ?_))
      case c1 => exact fun j u hu => HNW.out _ (below_new HR.out _) j u hu
      case c3 => unfold maxLen; omega
      case c4 => omega
      case c5 => simp
      intro m1 wm ho1 hg1 _
      have HM1 := Lib.hid ho1
      have HB1 : Hid (Below w.heap.size w wm) := Lib.hid ((below_new HR.out _).grown hg1 (by have := HR.out.size; simp; omega) (fun q hq => Nat.le_trans HR.out.size (own_from HO3.out hq)))
      have HW1 : Hid (X.heap.size ≤ wm.heap.size) := Lib.hid (by have := hg1.size; simp at this; omega)
      clear ho1 hg1
      have hck := (HB1.out.cell (p := ⟨b, o + k, none⟩) (HC.out k hkn).1).trans (HC.out k hkn).2
      obtain ⟨x, HX⟩ := named (l.getD k 0)
      rw [← HX.out] at hck
      go_wp2_with (at_builtin; go_loud (refine wpList_append_own _ rfl _ _ 22 rfl X.heap.size 24 i0 (.int .u8 0) 1 1 Tryd.underlying22 HI.out HZ0.out HZ1.out HZ2.out rfl (by decide) _ _ _ rfl (HM1.out.alloc _) ⟨wm.heap.size, 0, none⟩ 1 1 [.int .u8 x] rfl rfl ?e1 ?e2 ?e3 ?e4 ?e5 ?_))
      case e1 => exact one_new _ _ _
      case e2 => intro u hu; obtain rfl := List.mem_singleton.1 hu; rfl
      case e3 => unfold maxLen; omega
      case e4 => omega
      case e5 => have := HW1.out; simp; omega
      intro m2 wn ho2 hg2 _
      have HB2 : Hid (Below w.heap.size w wn) := Lib.hid ((below_new HB1.out _).grown hg2 (by have := HB1.out.size; simp; omega) (fun q hq => Nat.le_trans HR.out.size (own_from HM1.out hq)))
      have HM2 : Hid (Vs wn wn.heap.size m2 (3 :: l ++ [x])) := Lib.hid (Vs.of_own (base := X.heap.size) (n := 1 + n + 1) (by
        rw [show (3 :: l ++ [x]).map (Value.int .u8) = Value.int .u8 3 :: (l.map (Value.int .u8) ++ [Value.int .u8 x]) by simp]
        exact ho2)).1
      clear ho2 hg2
      have hx : x ∈ l := by rw [HX.out, List.getD_eq_getElem?_getD, List.getElem?_eq_getElem (by rw [← HN.out]; exact hkn)]; exact List.getElem_mem _
      have HMB := Lib.hid (more_bus x l hx)
      have HMC := Lib.hid (more_con x l hx)
      have hb0 := Below.refl wn.heap.size wn
      have HSN := Lib.hid (HS.out.below HB2.out)
      have HTN := Lib.hid (HT.out.below HB2.out)
      have HLE := Lib.hid HB2.out.size
      have HAP : Hid (∀ w', Below wn.heap.size wn w' → Calls Tryd.prog 13 #[.int .u8 13, .slice (some ⟨b, o, none⟩) n c] w' fun e w'' => e = .returned (.int .u8 V) ∧ Below wn.heap.size wn w'') :=
        Lib.hid fun w' h => by
          rw [HV.out]
          have hj := join HB2.out h
          exact rel (bus_apply l _ n c b o _ rfl (fun _ => rfl) w' HN.out h1 HP.out fun k hk => ⟨Nat.lt_of_lt_of_le (HC.out k hk).1 hj.size, (hj.cell (p := ⟨b, o + k, none⟩) (HC.out k hk).1).trans (HC.out k hk).2⟩) h
      have HCF : Hid (∀ w', Below wn.heap.size wn w' → Calls Tryd.prog 20 #[.slice (some ⟨b, o, none⟩) n c] w' fun e w'' => e = .returned (.bool C) ∧ Below wn.heap.size wn w'') :=
        Lib.hid fun w' h => by rw [HCC.out]; exact conflict_rel' HLE.out HSN.out w' h
      have HCM : Hid (∀ w', Below wn.heap.size wn w' → Calls Tryd.prog 20 #[m2] w' fun e w'' => e = .returned (.bool C) ∧ Below wn.heap.size wn w'') :=
        Lib.hid fun w' h => by rw [HCC.out, ← HMC.out]; exact conflict_rel' (Nat.le_refl _) HM2.out w' h
      have HBM : Hid (∀ w', Below wn.heap.size wn w' → Calls Tryd.prog 19 #[m2] w' fun e w'' => e = .returned (.int .u8 V) ∧ Below wn.heap.size wn w'') :=
        Lib.hid fun w' h => by rw [HV.out, ← HMB.out]; exact bus_rel (Nat.le_refl _) HM2.out w' h
      have HCB : Hid (C = true → (V == 2) = true) := Lib.hid fun h => by rw [HV.out, con_bus (by rw [← HCC.out]; exact h)]; rfl
      cases C
      · go_wp2_with (first
          | (go_at_call 13; (with_reducible refine (HAP.out _ (by assumption)).mono ?_); rintro e w' ⟨rfl, hb⟩)
          | (go_at_call 19; (with_reducible refine (HBM.out _ (by assumption)).mono ?_); rintro e w' ⟨rfl, hb⟩)
          | (go_at_call 20; first
            | ((with_reducible refine (HCF.out _ (by assumption)).mono ?_); rintro e w' ⟨rfl, hb⟩)
            | ((with_reducible refine (HCM.out _ (by assumption)).mono ?_); rintro e w' ⟨rfl, hb⟩))
          | (go_at_call 11; (with_reducible refine (lives_at HTN.out (by assumption)).mono ?_); rintro e w' ⟨rfl, hb⟩))
        go_ret
        exact ⟨rfl, join HB2.out (by assumption)⟩
      · have hv2 := HCB.out rfl
        go_wp2_with (first
          | (go_at_call 13; (with_reducible refine (HAP.out _ (by assumption)).mono ?_); rintro e w' ⟨rfl, hb⟩)
          | (go_at_call 19; (with_reducible refine (HBM.out _ (by assumption)).mono ?_); rintro e w' ⟨rfl, hb⟩)
          | (go_at_call 20; first
            | ((with_reducible refine (HCF.out _ (by assumption)).mono ?_); rintro e w' ⟨rfl, hb⟩)
            | ((with_reducible refine (HCM.out _ (by assumption)).mono ?_); rintro e w' ⟨rfl, hb⟩))
          | (go_at_call 11; (with_reducible refine (lives_at HTN.out (by assumption)).mono ?_); rintro e w' ⟨rfl, hb⟩))
        go_ret
        exact ⟨rfl, join HB2.out (by assumption)⟩

end Go.Proofs.YtdanmepbdjfpfaaDoor
