/- great: whether a circuit is too large for a statement. -/
import Derived.Test.YtmghdeodkeenoaaDoorSli
import Derived.Test.YtmghdeodkeenoaaDoorBas
namespace Go.Proofs.YtmghdeodkeenoaaDoor
open Go.RowKit

def Small (c : Ck) : Prop := c.nodes.length ≤ 24 ∧ c.names.length ≤ 24 ∧ c.mems.length ≤ 18 ∧ c.outs.length ≤ 24

def GrtPost (S : Prop) (w : World) (e : Ending) (w' : World) : Prop := (∃ b, e = .returned (.bool b) ∧ (b = false → S)) ∧ Below w.heap.size w w'
set_option maxHeartbeats 4000000 in
theorem great_any (c : Ck) (v : Value) (w : World) (B : Nat) (hB : B ≤ w.heap.size) (hc : Cir w B v c) :
    Calls Tryd.prog 11 #[v] w (GrtPost (Small c) w) := by
  obtain ⟨v0, v1, v2, v3, rfl, hns, hss, hms, hos⟩ := hc
  obtain ⟨A0, b, o, c0, rfl, hA, -, hm0, hcell⟩ := id hns
  obtain ⟨A1, b1, o1, c1, rfl, -, -, hm1, -⟩ := id hss
  obtain ⟨A2, b2, o2, c2, rfl, hA2, -, hm2, hcell2⟩ := id hms
  obtain ⟨A3, b3, o3, c3, rfl, -, -, hm3, -⟩ := id hos
  unfold maxLen at hm0 hm1 hm2 hm3
  have hbW : Below w.heap.size w (w.alloc (.cells #[.slice A0 c.nodes.length c0, .slice A1 c.names.length c1, .slice A2 c.mems.length c2, .slice A3 c.outs.length c3] 27)) := (Below.refl _ _).alloc (Nat.le_refl _) _
  have hbx : (w.alloc (.cells #[.slice A0 c.nodes.length c0, .slice A1 c.names.length c1, .slice A2 c.mems.length c2, .slice A3 c.outs.length c3] 27)).cell? ⟨w.heap.size, 0, none⟩ = some (.slice A0 c.nodes.length c0) := by
    rw [World.cell?_alloc_at _ _ _ _ rfl]; rfl
  have hby : (w.alloc (.cells #[.slice A0 c.nodes.length c0, .slice A1 c.names.length c1, .slice A2 c.mems.length c2, .slice A3 c.outs.length c3] 27)).cell? ⟨w.heap.size, 2, none⟩ = some (.slice A2 c.mems.length c2) := by
    rw [World.cell?_alloc_at _ _ _ _ rfl]; rfl
  have HCE := Lib.hid hcell
  have HAA := Lib.hid hA
  have HCM := Lib.hid hcell2
  have HAM := Lib.hid hA2
  have HSM : Hid (Small c = (c.nodes.length ≤ 24 ∧ c.names.length ≤ 24 ∧ c.mems.length ≤ 18 ∧ c.outs.length ≤ 24)) := Lib.hid rfl
  clear hns hss hms hos hcell hA hcell2 hA2
  obtain ⟨n1, H1⟩ := named c.names.length
  obtain ⟨n3, H3⟩ := named c.outs.length
  obtain ⟨n2, H2⟩ := named c.mems.length
  obtain ⟨n, HN⟩ := named c.nodes.length
  rw [← HN.out, ← H1.out, ← H2.out, ← H3.out] at hbW hbx hby
  rw [← HN.out] at hm0
  rw [← H1.out] at hm1
  rw [← H2.out] at hm2
  rw [← H3.out] at hm3
  rw [← HN.out, ← H1.out, ← H2.out, ← H3.out]
  obtain ⟨S, HS⟩ := named (Small c)
  rw [← HS.out]
  rw [← HS.out, ← HN.out, ← H1.out, ← H2.out, ← H3.out] at HSM
  obtain ⟨W, HW⟩ := named (w.alloc (.cells #[.slice A0 n c0, .slice A1 n1 c1, .slice A2 n2 c2, .slice A3 n3 c3] 27))
  rw [← HW.out] at hbW hbx hby
  have HBW := Lib.hid hbW
  have HBX := Lib.hid hbx
  have HBY := Lib.hid hby
  clear hbW hbx hby
  by_cases q0 : 24 < n
  · go_enter Tryd.func11, Tryd.ntmps11
    go_wp2
    go_ret
    exact ⟨⟨true, rfl, fun h => by cases h⟩, by rw [← HW.out]; exact HBW.out⟩
  · by_cases q1 : 24 < n1
    · go_enter Tryd.func11, Tryd.ntmps11
      go_wp2
      go_ret
      exact ⟨⟨true, rfl, fun h => by cases h⟩, by rw [← HW.out]; exact HBW.out⟩
    · by_cases q2 : 18 < n2
      · go_enter Tryd.func11, Tryd.ntmps11
        go_wp2
        go_ret
        exact ⟨⟨true, rfl, fun h => by cases h⟩, by rw [← HW.out]; exact HBW.out⟩
      · by_cases q3 : 24 < n3
        · go_enter Tryd.func11, Tryd.ntmps11
          go_wp2
          go_ret
          exact ⟨⟨true, rfl, fun h => by cases h⟩, by rw [← HW.out]; exact HBW.out⟩
        · have hS : S := by rw [HSM.out]; omega
          have HSS := Lib.hid hS
          clear hS
          go_enter Tryd.func11, Tryd.ntmps11
          go_wp2
          have hbx := HBX.out
          have hby := HBY.out
          rw [← HW.out]
          go_loopw [4, 3] (fun i z wr => wr = W ∧ ∃ (k : Nat) (q : Int), k ≤ n ∧ i = .int .i64 k ∧ z = .int .i64 q ∧ 0 ≤ q ∧ q ≤ 100 * (k : Int)) (fun i _ _ => n - (intOf i).toNat)
          case atStart => exact ⟨rfl, 0, 0, Nat.zero_le _, rfl, rfl, by omega, by omega⟩
          case round =>
            obtain ⟨rfl, k, q, hk, rfl, rfl, hq0, hq1⟩ := hrel
            by_cases hlt : k < n
            · obtain rfl := HAA.out (by rw [← HN.out]; omega)
              obtain ⟨hlb, s, h0, h1, h2, h3, h4, -⟩ := HCE.out k (by rw [← HN.out]; exact hlt)
              obtain ⟨A4, b4, o4, c4, rfl, -, -, hm4, -⟩ := id h4
              have e1 := (HBW.out.cell (p := ⟨b, o + k * 4 + 1, none⟩) (by show b < w.heap.size; omega)).trans h1
              generalize (c.nodes.getD k default).ins.length = m at e1 hm4
              unfold maxLen at hm4
              clear h0 h1 h2 h3 h4
              go_wp2
              go_roundw
              case rel => exact ⟨by trivial, k + 1, q + min (m : Int) 100, by omega, by go_num, by go_num, by omega, by omega⟩
              case measure => simp [intOf]; omega
            · obtain rfl : n = k := by omega
              go_wp2
              go_loopw [5, 3] (fun i z w' => ∃ (nd k : Nat) (q : Int), w' = wr.drewN nd ∧ k ≤ n2 ∧ i = .int .i64 k ∧ z = .int .i64 q ∧ 0 ≤ q ∧ q ≤ 2400 + 200 * (k : Int)) (fun i _ _ => n2 - (intOf i).toNat)
              case atStart => exact ⟨0, 0, q, rfl, Nat.zero_le _, rfl, rfl, by omega, by omega⟩
              case round =>
                obtain ⟨nd, k, q, rfl, hk, rfl, rfl, hq0, hq1⟩ := hrel
                by_cases hlt : k < n2
                · obtain rfl := HAM.out (by rw [← H2.out]; omega)
                  obtain ⟨hlb, s, t, h0, h1, h2, h3, h4⟩ := HCM.out k (by rw [← H2.out]; exact hlt)
                  obtain ⟨A4, b4, o4, c4, rfl, -, -, hm4, -⟩ := id h3
                  obtain ⟨A5, b5, o5, c5, rfl, -, -, hm5, -⟩ := id h4
                  have e0 := (HBW.out.cell (p := ⟨b2, o2 + k * 3, none⟩) (by show b2 < w.heap.size; omega)).trans h0
                  have e1 := (HBW.out.cell (p := ⟨b2, o2 + k * 3 + 1, none⟩) (by show b2 < w.heap.size; omega)).trans h1
                  generalize (c.mems.getD k default).addr.length = m at e0 hm4
                  generalize (c.mems.getD k default).data.length = m' at e1 hm5
                  unfold maxLen at hm4 hm5
                  clear h0 h1 h2 h3 h4
                  go_wp2
                  go_quiet (fail)
                  go_wp2
                  go_roundw
                  case rel => exact ⟨nd + nq, k + 1, q + min (m : Int) 100 + min (m' : Int) 100, by first | rfl | rw [World.drewN_drewN], by omega, by go_num, by go_num, by omega, by omega⟩
                  case measure => simp [intOf]; omega
                · obtain rfl : n2 = k := by omega
                  go_wp2
                  go_ret
                  exact ⟨⟨_, rfl, fun _ => HSS.out⟩, below_drewN HBW.out nd⟩

end Go.Proofs.YtmghdeodkeenoaaDoor
