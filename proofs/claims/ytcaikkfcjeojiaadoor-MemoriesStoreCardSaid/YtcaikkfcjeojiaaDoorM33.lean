/- The texts Rf9. -/
import Derived.Test.YtcaikkfcjeojiaaDoorM30
import Derived.Test.YtcaikkfcjeojiaaDoorM32
import Derived.Test.YtcaikkfcjeojiaaDoorM06
import Derived.Deep.RegionLawGrows
import Derived.Deep.Upon
namespace Go.Proofs.YtcaikkfcjeojiaaDoor
open Go.RowKit

set_option maxHeartbeats 1000000 in
theorem rbit_any (l : List Int) (A : Option Addr) (m c b : Nat) (w : World) (B : Nat) (hs : Ks w B (.slice A m c) l) :
    Calls Tryd.prog 25 #[.slice A m c, .int .i64 (b : Int)] w fun e w' => e = .returned (.slice (some ⟨w.heap.size, 0, none⟩) (bw l b).length (bw l b).length) ∧ w' = w.alloc (.cells ((bw l b).map (Value.int .i64)).toArray 3) := by
  obtain ⟨A', b', o, c', e, hA, -, hm, hc⟩ := hs.opens
  simp only [Value.slice.injEq] at e
  obtain ⟨rfl, hml, rfl⟩ := e
  rw [← hml] at hA hc hm
  unfold maxLen at hm
  by_cases h : m ≤ b
  · have e : bw l b = [0, 1] := by unfold bw; rw [if_pos (by omega)]
    rw [e]
    clear hA hc hs hml e
    have h1 : (m : Int) ≤ (b : Int) := by omega
    go_enter Tryd.func25, Tryd.ntmps25
    go_wp2
    go_ret
    exact ⟨rfl, rfl⟩
  · have e : bw l b = Lg.chc (l.getD b 0) false := by unfold bw; rw [if_neg (by omega)]
    rw [e]
    obtain rfl := hA (by omega)
    have x0 := (hc b (by omega)).2
    obtain ⟨y, HY⟩ := named (l.getD b 0)
    rw [← HY.out] at x0 ⊢
    have HC := Lib.hid (Lg.choices_any y false w)
    obtain ⟨k, HK⟩ := named (Lg.chc y false)
    rw [← HK.out] at HC ⊢
    clear hA hc hs hml e
    have h1 : ¬ (m : Int) ≤ (b : Int) := by omega
    have h2 : (b : Int) < (m : Int) := by omega
    go_enter Tryd.func25, Tryd.ntmps25
    go_wp2_with (go_at_call 24; (with_reducible refine HC.out.mono ?_); rintro e w' ⟨rfl, rfl⟩)
    go_ret
    exact ⟨rfl, rfl⟩

set_option maxHeartbeats 2000000 in
theorem rval_any (l : List Int) (A : Option Addr) (m c : Nat) (w : World) (B : Nat) (hs : Is w B (.slice A m c) l) (h01 : ∀ x ∈ l, x = 0 ∨ x = 1) (hsz : m ≤ 1000000) :
    Calls Tryd.prog 26 #[.slice A m c] w fun e w' => e = .returned (.int .u8 (valL l)) ∧ BelW w w' := by
  obtain ⟨A', b', o, c', e, hA, -, hm, hc⟩ := hs.opens
  simp only [Value.slice.injEq] at e
  obtain ⟨rfl, hml, rfl⟩ := e
  rw [← hml] at hA hc hm
  obtain ⟨y, HY⟩ := named (valL l)
  rw [← HY.out]
  have HA := Lib.hid hA
  have HC := Lib.hid hc
  have HML := Lib.hid hml
  have hx0 : 0 < m → l.getD 0 0 = 0 ∨ l.getD 0 0 = 1 := fun h => by
    have h2 : 0 < l.length := by omega
    have := h01 l[0] (List.getElem_mem h2)
    rwa [List.getD_eq_getElem?_getD, List.getElem?_eq_getElem h2]
  obtain ⟨x0, HX0⟩ := named (l.getD 0 0)
  rw [← HX0.out] at hx0
  have HZ := Lib.hid hx0
  clear hA hc hs hml hx0 h01
  go_enter Tryd.func26, Tryd.ntmps26
  go_wp2
  go_loopw [3] (fun i wr => ∃ k : Nat, k ≤ m ∧ i = .int .i64 k ∧ (∀ j, j < k → l.getD j 0 = x0) ∧ ∃ z, wr = w.drewN z) (fun i _ => m - (intOf i).toNat)
  case atStart => exact ⟨0, Nat.zero_le _, rfl, fun j hj => absurd hj (by omega), 0, rfl⟩
  case round =>
    obtain ⟨k, hk, rfl, hall, z, rfl⟩ := hrel
    have HALL := Lib.hid hall
    clear hall
    by_cases hlt : k < m
    · obtain rfl := HA.out (by omega)
      have c0 := (HC.out 0 (by omega)).2
      have ck := (HC.out k hlt).2
      rw [← HX0.out] at c0
      rw [Nat.add_zero] at c0
      obtain ⟨x, HX⟩ := named (l.getD k 0)
      rw [← HX.out] at ck
      have hk2 : (k : Int) < (m : Int) := by omega
      have hm0 : (0 : Int) < (m : Int) := by omega
      by_cases hxx : x = x0
      · have t1 : (x != x0) = false := by simp [hxx]
        have HN : Hid (∀ j, j < k + 1 → l.getD j 0 = x0) := Lib.hid fun j hj => by
          by_cases e : j = k
          · rw [e, ← HX.out, hxx]
          · exact HALL.out j (by omega)
        clear hxx
        go_wp2
        go_quiet (fail)
        go_wp2
        go_roundw
        case rel => exact ⟨k + 1, by omega, by go_num, HN.out, _, rfl⟩
        case measure => simp [intOf]; omega
      · have t1 : (x != x0) = true := by simpa using hxx
        have HE : Hid (y = 2) := Lib.hid (by
          rw [HY.out]
          have h1 : k < l.length := by rw [← HML.out]; exact hlt
          refine valL_mix (x := l.getD k 0) (y := l.getD 0 0) ?_ ?_ (by rw [← HX.out, ← HX0.out]; exact hxx)
          · rw [List.getD_eq_getElem?_getD, List.getElem?_eq_getElem h1]; exact List.getElem_mem h1
          · rw [List.getD_eq_getElem?_getD, List.getElem?_eq_getElem (by omega)]; exact List.getElem_mem (by omega))
        clear hxx
        go_wp2
        go_quiet (fail)
        go_wp2
        go_ret
        exact ⟨by rw [HE.out]; rfl, below_drewN (below_drewN (Below.refl _ _) _) _⟩
    · obtain rfl : m = k := by omega
      by_cases h0 : m = 0
      · subst h0
        have HE : Hid (y = 2) := Lib.hid (by
          rw [HY.out, List.eq_nil_of_length_eq_zero HML.out.symm]; rfl)
        go_wp2
        go_ret
        exact ⟨by rw [HE.out]; rfl, below_drewN (Below.refl _ _) _⟩
      · obtain rfl := HA.out (by omega)
        have c0 := (HC.out 0 (by omega)).2
        rw [← HX0.out] at c0
        rw [Nat.add_zero] at c0
        have hm0 : (0 : Int) < (m : Int) := by omega
        have hne : ¬ (m : Int) = 0 := by omega
        have HE : Hid (y = x0) := Lib.hid (by
          rw [HY.out]
          refine valL_all (fun e => ?_) fun x hx => ?_
          · rw [e] at HML
            exact h0 HML.out
          · obtain ⟨j, hj, rfl⟩ := List.mem_iff_getElem.1 hx
            have := HALL.out j (by rw [HML.out]; exact hj)
            rwa [List.getD_eq_getElem?_getD, List.getElem?_eq_getElem hj] at this)
        rcases HZ.out (by omega) with e | e
        all_goals
          rw [e] at c0
          have HE2 := Lib.hid (HE.out.trans e)
          clear e
          go_wp2
          go_ret
          exact ⟨by rw [HE2.out]; rfl, below_drewN (Below.refl _ _) _⟩

theorem take_flat {l : List Int} (f : Int → List Int) {i : Nat} (h : i < l.length) : (l.take (i + 1)).flatMap f = (l.take i).flatMap f ++ f (l.getD i 0) := by
  rw [List.take_add_one, List.flatMap_append, List.getElem?_eq_getElem h, List.getD_eq_getElem?_getD, List.getElem?_eq_getElem h]
  simp
theorem take_map {l : List Int} (f : Int → Int) {i : Nat} (h : i < l.length) : (l.take (i + 1)).map f = (l.take i).map f ++ [f (l.getD i 0)] := by
  rw [List.take_add_one, List.map_append, List.getElem?_eq_getElem h, List.getD_eq_getElem?_getD, List.getElem?_eq_getElem h]
  rfl
theorem adS_len (ad : List Int) (k : Nat) : (adS ad k).length ≤ 2 ^ k := by
  induction k with
  | zero => simp [adS]
  | succ k ih =>
    unfold adS
    have h : ∀ l : List Int, (l.flatMap fun o => (Lg.chc (ad.getD k 0) false).map fun m => o + m * 2 ^ k).length ≤ l.length * 2 := fun l => by
      induction l with
      | nil => simp
      | cons a t iht =>
        rw [List.flatMap_cons, List.length_append, List.length_map, List.length_cons]
        have : (Lg.chc (ad.getD k 0) false).length ≤ 2 := by rcases chc_01 (ad.getD k 0) with h | h | h <;> rw [h] <;> decide
        omega
    have := h (adS ad k)
    rw [Nat.pow_succ]
    omega
theorem step_ints {P : Program} {ops : Array Oper} {o : Oper} {a : Act} {w : World} {K : Act → World → Prop} {Q : Exit → Act → World → Prop} {E : Prop} (hgd : o.guard = none) (s x : Operand) (t : TypeId)
    (ho : o.op = .call { callee := .builtin .append, args := #[s, x], argTypes := #[t, t] })
    (base : Nat) (e : TypeId) (i : TypeInfo) (z : Value) (ht : P.underlying t = some (.slice e)) (hi : P.info? e = some i) (hz : i.zero = some z) (hsize : i.size = 1) (hby : i.bytes = 8) (hzs : z.cells.size = 1)
    (v : Value) (n : Nat) (xs : List Value) (hs : a.eval s = v) (hown : w.ownsRow base e 1 v n xs) (ad : Addr) (m c : Nat) (news : List Value) (hx : a.eval x = .slice (some ad) m c)
    (hl : news.length = m) (hnews : ∀ j u, news[j]? = some u → w.cell? (ad.add j) = some u) (h1 : ∀ u ∈ news, u.oneCell' = true) (hnm : n + m ≤ 1000000) (hbase : base ≤ w.heap.size)
    (h : ∀ v' w', w'.ownsRow base e 1 v' (n + m) (xs ++ news) → w.grownBy w' v.ownBlock → K (a.put o.dst v') w') :
    if Region.wanted o (yielded ops a.tmps) = true then Oper.wp P o a w K Q else E := by
  have hw : Region.wanted o (yielded ops a.tmps) = true := by simp [Region.wanted, hgd]
  rw [if_pos hw]
  exact wp_append_own w s x t ho base e i z 1 8 ht hi hz hsize hby hzs (by decide) v n xs hs hown ad m c news hx (by rw [hl, Nat.mul_one]) hnews h1 (by unfold maxLen; omega) (by omega) hbase fun v' w' h2 h3 _ => h v' w' h2 h3
end Go.Proofs.YtcaikkfcjeojiaaDoor
