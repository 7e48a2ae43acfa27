/- few: whether a circuit and a pattern are small enough for layer 6's statements. -/
import Derived.Test.YtfcdhoaccmckoaaDoorSli
import Derived.Test.YtfcdhoaccmckoaaDoorOfp
import Derived.Test.YtfcdhoaccmckoaaDoorOwn
import Derived.Test.YtfcdhoaccmckoaaDoorSmy
namespace Go.Proofs.YtfcdhoaccmckoaaDoor
open Go.RowKit

def FewS (c : Ck) (ni ns : Nat) : Prop := c.nodes.length ≤ 24 ∧ c.names.length ≤ 250 ∧ c.mems.length ≤ 18 ∧ c.outs.length ≤ 250 ∧ ni ≤ 250 ∧ ns ≤ 250

def FewPost (S : Prop) (w : World) (e : Ending) (w' : World) : Prop := (∃ b, e = .returned (.bool b) ∧ (b = true → S)) ∧ Below w.heap.size w w'
set_option maxHeartbeats 4000000 in
theorem few_any (c : Ck) (v : Value) (Ai As : Option Addr) (ni ns ci cs : Nat) (w : World) (B : Nat) (hB : B ≤ w.heap.size) (hc : Cir w B v c) (hni : ni ≤ 140737488355328) (hns : ns ≤ 140737488355328) (hno : c.outs.length ≤ 140737488355328) (hna : c.names.length ≤ 140737488355328) :
    Calls Tryd.prog 9 #[v, .agg #[.slice Ai ni ci, .slice As ns cs]] w (FewPost (FewS c ni ns) w) := by
  obtain ⟨v0, v1, v2, v3, rfl, hnd, hss, hms, hos⟩ := hc
  obtain ⟨A0, b, o, c0, rfl, hA, -, hm0, hcell⟩ := id hnd
  obtain ⟨A1, b1, o1, c1, rfl, -, -, hm1, -⟩ := id hss
  obtain ⟨A2, b2, o2, c2, rfl, -, -, hm2, -⟩ := id hms
  obtain ⟨A3, b3, o3, c3, rfl, -, -, hm3, -⟩ := id hos
  unfold maxLen at hm0 hm1 hm2 hm3
  have HCE := Lib.hid hcell
  have HAA := Lib.hid hA
  have HSM : Hid (FewS c ni ns = (c.nodes.length ≤ 24 ∧ c.names.length ≤ 250 ∧ c.mems.length ≤ 18 ∧ c.outs.length ≤ 250 ∧ ni ≤ 250 ∧ ns ≤ 250)) := Lib.hid rfl
  clear hnd hss hms hos hcell hA
  obtain ⟨n1, H1⟩ := named c.names.length
  obtain ⟨n3, H3⟩ := named c.outs.length
  obtain ⟨n2, H2⟩ := named c.mems.length
  obtain ⟨n, HN⟩ := named c.nodes.length
  obtain ⟨S, HS⟩ := named (FewS c ni ns)
  rw [← HN.out] at hm0
  rw [← H1.out] at hm1 hna
  rw [← H2.out] at hm2
  rw [← H3.out] at hm3 hno
  rw [← HN.out, ← H1.out, ← H2.out, ← H3.out, ← HS.out]
  rw [← HS.out, ← HN.out, ← H1.out, ← H2.out, ← H3.out] at HSM
  obtain ⟨W, HW⟩ := named ((w.alloc (.cells #[.slice A0 n c0, .slice A1 n1 c1, .slice A2 n2 c2, .slice A3 n3 c3] 27)).alloc (.cells #[.slice Ai ni ci, .slice As ns cs] 30))
  have hb1 : Below w.heap.size w W := by rw [HW.out]; exact below_new (below_new (Below.refl _ _) _) _
  have hfc : Fr W w.heap.size 27 [.slice A0 n c0, .slice A1 n1 c1, .slice A2 n2 c2, .slice A3 n3 c3] := by rw [HW.out]; exact Fr.alloc (Fr.made _ _ _ rfl) _
  have hfp : Fr W (w.heap.size + 1) 30 [.slice Ai ni ci, .slice As ns cs] := by rw [HW.out]; exact Fr.made _ _ _ (by simp)
  have x0 := hfc.cell 0
  have x1 := hfc.cell 1
  have x2 := hfc.cell 2
  have x3 := hfc.cell 3
  have y0 := hfp.cell 0
  have y1 := hfp.cell 1
  have HB1 := Lib.hid hb1
  clear hb1 hfc hfp
  go_enter Tryd.func9, Tryd.ntmps9
  go_upto_region 1 with (fail)
  rw [← HW.out]
  go_wp2
  go_loopw [6, 5] (fun i z wr => wr = W ∧ ∃ (k : Nat) (q : Int), k ≤ n ∧ k ≤ 30 ∧ i = .int .i64 k ∧ z = .int .i64 q ∧ ((n3 : Int) + n1 + ni + ns) ≤ q ∧ q ≤ ((n3 : Int) + n1 + ni + ns) + 100 * (k : Int)) (fun i _ _ => n - (intOf i).toNat)
  case atStart => exact ⟨rfl, 0, _, Nat.zero_le _, by omega, rfl, rfl, by go_num, by go_num⟩
  case round =>
    obtain ⟨rfl, k, q, hk, hk3, rfl, rfl, hq0, hq1⟩ := hrel
    by_cases hlt : k < n
    · by_cases hl3 : k < 30
      · obtain rfl := HAA.out (by rw [← HN.out]; omega)
        obtain ⟨hlb, s, h0, h1, h2, h3, h4, -⟩ := HCE.out k (by rw [← HN.out]; exact hlt)
        obtain ⟨A4, b4, o4, c4, rfl, -, -, hm4, -⟩ := id h4
        have e1 := (HB1.out.cell (p := ⟨b, o + k * 4 + 1, none⟩) (by show b < w.heap.size; omega)).trans h1
        generalize (c.nodes.getD k default).ins.length = m at e1 hm4
        unfold maxLen at hm4
        clear h0 h1 h2 h3 h4
        go_wp2
        go_roundw
        case rel => exact ⟨by trivial, k + 1, q + min (m : Int) 100, by omega, by omega, by go_num, by go_num, by omega, by omega⟩
        case measure => simp [intOf]; omega
      · by_cases q0 : n ≤ 24
        · omega
        · go_wp2
          go_ret
          exact ⟨⟨false, rfl, fun h => by cases h⟩, HB1.out⟩
    · obtain rfl : n = k := by omega
      by_cases q0 : n ≤ 24
      · by_cases q1 : n2 ≤ 18
        · by_cases q2 : q ≤ 250
          · have hS : S := by rw [HSM.out]; omega
            have HSS := Lib.hid hS
            clear hS
            go_wp2
            go_ret
            exact ⟨⟨_, rfl, fun _ => HSS.out⟩, HB1.out⟩
          · go_wp2
            go_ret
            exact ⟨⟨false, rfl, fun h => by cases h⟩, HB1.out⟩
        · go_wp2
          go_ret
          exact ⟨⟨false, rfl, fun h => by cases h⟩, HB1.out⟩
      · go_wp2
        go_ret
        exact ⟨⟨false, rfl, fun h => by cases h⟩, HB1.out⟩

end Go.Proofs.YtfcdhoaccmckoaaDoor

