/- The texts Fw9 Ow9. -/
import Derived.Test.YtcaikkfcjeojiaaDoorM22
import Derived.Test.YtcaikkfcjeojiaaDoorM25
namespace Go.Proofs.YtcaikkfcjeojiaaDoor
open Go.RowKit

def FewP (S : Prop) (w : World) (e : Ending) (w' : World) : Prop := (∃ b, e = .returned (.bool b) ∧ (b = true → S)) ∧ w' = w
def FewN (ws : List (List Int)) (m ma md : Nat) : Prop := m ≤ 40 ∧ ma ≤ 6 ∧ md ≤ 400 ∧ ∀ k, k < m → (ws.getD k []).length ≤ 400
set_option maxHeartbeats 4000000 in
theorem few9_any (ws : List (List Int)) (A Aa Ad : Option Addr) (m c ma ca md cd : Nat) (w : World) (B : Nat) (hw : Wrds w B (.slice A m c) ws) (hma : ma ≤ 140737488355328) (hmd : md ≤ 140737488355328) (hmm : m ≤ 140737488355328) (hl : ∀ k, k < m → (ws.getD k []).length ≤ 140737488355328) :
    Calls Tryd.prog 5 #[.slice A m c, .slice Aa ma ca, .slice Ad md cd] w (FewP (FewN ws m ma md) w) := by
  obtain ⟨A', b, o, c', e, hA, -, -, hc⟩ := hw
  simp only [Value.slice.injEq] at e
  obtain ⟨rfl, hml, rfl⟩ := e
  rw [← hml] at hA hc
  have HA := Lib.hid hA
  have HC : Hid (∀ k, k < m → ∃ A c n, n = (ws.getD k []).length ∧ n ≤ 140737488355328 ∧ w.cell? ⟨b, o + k, none⟩ = some (.slice A n c)) := Lib.hid fun k hk => by
    obtain ⟨-, A, c, h1, -⟩ := hc k hk
    rw [Nat.mul_one] at h1
    exact ⟨A, c, _, rfl, hl k hk, h1⟩
  have HSM : Hid ((m ≤ 40 ∧ ma ≤ 6 ∧ md ≤ 400 ∧ ∀ k, k < m → (ws.getD k []).length ≤ 400) → FewN ws m ma md) := Lib.hid fun h => h
  obtain ⟨S, HS⟩ := named (FewN ws m ma md)
  rw [← HS.out] at HSM ⊢
  clear hA hc hl hml
  go_enter Tryd.func5, Tryd.ntmps5
  go_wp2
  go_loopw [7, 8] (fun z i wr => wr = w ∧ ∃ k q : Nat, k ≤ m ∧ k ≤ 40 ∧ i = .int .i64 k ∧ z = .int .i64 q ∧ md ≤ q ∧ (∀ j, j < k → (ws.getD j []).length ≤ q) ∧ q ≤ (k + 1) * 140737488355328) (fun _ i _ => m - (intOf i).toNat)
  case atStart => exact ⟨rfl, 0, md, Nat.zero_le _, by omega, rfl, rfl, Nat.le_refl _, fun j h => absurd h (Nat.not_lt_zero j), by omega⟩
  case round =>
    obtain ⟨hwr, k, q, hk, hk4, rfl, rfl, hq0, hqa, hq1⟩ := hrel
    obtain rfl : w = wr := hwr.symm
    have HQA := Lib.hid hqa
    clear hqa
    by_cases hlt : k < m
    · have hk2 : (k : Int) < (m : Int) := by omega
      by_cases hl4 : k < 40
      · have hk3 : (k : Int) < 40 := by omega
        obtain rfl := HA.out (by omega)
        obtain ⟨A4, c4, n4, hn4, hb4, x1⟩ := HC.out k hlt
        have HN4 := Lib.hid hn4
        clear hn4
        have hs : IntKind.i64.wrap ((q : Int) + (n4 : Int)) = ((q + n4 : Nat) : Int) := (IntKind.wrap_i64 _).trans (by omega)
        go_wp2
        go_roundw
        case rel =>
          refine ⟨by trivial, k + 1, q + n4, by omega, by omega, by go_num, by go_num, by omega, fun j hj => ?_, by omega⟩
          by_cases e : j = k
          · rw [e, ← HN4.out]; omega
          · have := HQA.out j (by omega); omega
        case measure => simp [intOf]; omega
      · have hk3 : ¬ (k : Int) < 40 := by omega
        have t1 : ¬ (m : Int) ≤ 40 := by omega
        go_wp2
        go_ret
        exact ⟨⟨false, rfl, fun h => by cases h⟩, rfl⟩
    · have hk2 : ¬ (k : Int) < (m : Int) := by omega
      obtain rfl : m = k := by omega
      have t1 : (m : Int) ≤ 40 := by omega
      by_cases h6 : ma ≤ 6
      · have t2 : (ma : Int) ≤ 6 := by omega
        by_cases h4 : q ≤ 400
        · have t3 : (q : Int) ≤ 400 := by omega
          go_wp2
          go_ret
          exact ⟨⟨true, rfl, fun _ => HSM.out ⟨hk4, h6, by omega, fun j hj => Nat.le_trans (HQA.out j hj) h4⟩⟩, rfl⟩
        · have t3 : ¬ (q : Int) ≤ 400 := by omega
          go_wp2
          go_ret
          exact ⟨⟨false, rfl, fun h => by cases h⟩, rfl⟩
      · have t2 : ¬ (ma : Int) ≤ 6 := by omega
        go_wp2
        go_ret
        exact ⟨⟨false, rfl, fun h => by cases h⟩, rfl⟩
end Go.Proofs.YtcaikkfcjeojiaaDoor

namespace Go.Proofs.YtcaikkfcjeojiaaDoor
open Go.ChangeShapes Go.WideShapes Go.ChangeAt Go.RowKit

theorem c_write : Tryd.prog.cellsOf 26 = 3 := by kernel_rfl
section
variable {H : Type} {enc : TypeId × Value → H} {W : World} {base : Nat} {sp : Nat → Bool} {held : Bool}
set_option maxRecDepth 100000 in
/-- AN ARGUMENT that is a write. -/
theorem open_write {b0 : Nat} {r : Reach} {v : Value} {d : DataW H} {p : List MemPlace} (hN : Wok 26 d) (hv : Value.okWide Tryd.prog W r b0 26 v) (h : DataW.Trod enc Tryd.prog W base sp held 26 v d p) :
    ∃ (A0 A1 : Option Addr) (c0 c1 : Nat) (l0 l1 : List Int) (en : Int), v = .agg #[.slice A0 l0.length c0, .slice A1 l1.length c1, .int .u8 en] ∧ Ks W W.heap.size (.slice A0 l0.length c0) l0 ∧ Ks W W.heap.size (.slice A1 l1.length c1) l1 ∧ Fine1 l0 ∧ Fine1 l1 ∧ U8 en := by
  obtain ⟨cs, rfl, hsz⟩ := okWide_struct Tryd.underlying26 hv
  obtain ⟨c0, c1, c2, rfl⟩ : ∃ c0 c1 c2, cs = #[c0, c1, c2] := by
    obtain ⟨l⟩ := cs
    match l, hsz.trans c_write with
    | [c0, c1, c2], _ => exact ⟨c0, c1, c2, rfl⟩
  obtain ⟨fuel, hf⟩ := h
  obtain ⟨xs, n, -, hd, -, hlen, hel⟩ := DataW.trod_struct Tryd.underlying26 hf
  match xs, hlen with
  | [y0, y1, y2], _ =>
    have hw : ∀ j t e, [23, 23, 24][j]? = some t → [y0.1, y1.1, y2.1][j]? = some e → Wok t e := fun j t e h1 h2 q hq => hN q (by
      rw [(Prod.mk.inj hd).1]
      simp only [DataW.weights, Tryd.underlying26]
      exact weach_mem (j := j) h1 h2 hq)
    have h0 : DataW.trod enc Tryd.prog W base sp held n 23 (([c0, c1, c2].drop 0).take (Tryd.prog.cellsOf 23)) = _ := hel 0 _ rfl
    have h1 : DataW.trod enc Tryd.prog W base sp held n 23 (([c0, c1, c2].drop 1).take (Tryd.prog.cellsOf 23)) = _ := hel 1 _ rfl
    have h2 : DataW.trod enc Tryd.prog W base sp held n 24 (([c0, c1, c2].drop 2).take (Tryd.prog.cellsOf 24)) = _ := hel 2 _ rfl
    rw [c_vals] at h0 h1
    rw [c_val] at h2
    obtain ⟨A0, l0, q0, e0, k0, f0⟩ := vals_szf (hw 0 _ _ rfl rfl) (show DataW.trod enc Tryd.prog W base sp held n 23 [c0] = some y0 from h0)
    obtain ⟨A1, l1, q1, e1, k1, f1⟩ := vals_szf (hw 1 _ _ rfl rfl) (show DataW.trod enc Tryd.prog W base sp held n 23 [c1] = some y1 from h1)
    obtain ⟨a, e2, ha⟩ := v8_of (show DataW.trod enc Tryd.prog W base sp held n 24 [c2] = some y2 from h2)
    simp at e0 e1 e2
    subst e0 e1 e2
    exact ⟨A0, A1, q0, q1, l0, l1, a, rfl, k0, k1, f0, f1, ha⟩
end
end Go.Proofs.YtcaikkfcjeojiaaDoor
