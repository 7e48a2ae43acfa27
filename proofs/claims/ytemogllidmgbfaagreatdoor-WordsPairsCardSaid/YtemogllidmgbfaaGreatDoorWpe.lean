/- Slices of pairs; side and Eval of the pairs package, in a seat with the words' tables. -/
import Derived.Test.YtemogllidmgbfaaGreatDoorM42
import Derived.Test.YtemogllidmgbfaaGreatDoorM16
namespace Go.Proofs.YtemogllidmgbfaaGreatDoor
open Go.RowKit

/-- The slice value v reads as the list l of pairs, in blocks below B. -/
def Pl (w : World) (B : Nat) (v : Value) (l : List (Int × Int)) : Prop :=
  ∃ b o c, (v = .slice (some ⟨b, o, none⟩) l.length c ∨ (l = [] ∧ ∃ A, v = .slice A 0 c)) ∧ l.length ≤ maxLen ∧
    ∀ k, k < l.length → b < B ∧ w.cell? ⟨b, o + k * 2, none⟩ = some (.int .u8 (l.getD k (0, 0)).1) ∧ w.cell? ⟨b, o + k * 2 + 1, none⟩ = some (.int .u8 (l.getD k (0, 0)).2)

section
variable {w w' : World} {B B' : Nat} {v : Value} {l : List (Int × Int)}
theorem Pl.keep (h : Pl w B v l) (hk : ∀ p : Addr, p.block < B → w'.cell? p = w.cell? p) : Pl w' B v l := by
  obtain ⟨b, o, c, h1, h2, h3⟩ := h
  exact ⟨b, o, c, h1, h2, fun k hk' => ⟨(h3 k hk').1, (hk _ (h3 k hk').1).trans (h3 k hk').2.1, (hk _ (h3 k hk').1).trans (h3 k hk').2.2⟩⟩
theorem Pl.more (h : Pl w B v l) (hB : B ≤ B') : Pl w B' v l := by
  obtain ⟨b, o, c, h1, h2, h3⟩ := h
  exact ⟨b, o, c, h1, h2, fun k hk' => ⟨Nat.lt_of_lt_of_le (h3 k hk').1 hB, (h3 k hk').2⟩⟩
theorem Pl.below (h : Pl w B v l) (hb : Below B w w') : Pl w' B v l := h.keep fun _ hp => hb.cell hp
theorem Pl.nil (w : World) (B : Nat) (A : Option Addr) (c : Nat) : Pl w B (.slice A 0 c) [] := ⟨0, 0, c, .inr ⟨rfl, A, rfl⟩, by simp, fun k hk => absurd hk (by simp)⟩
end

theorem take1_any (a b : Int) (w : World) : Calls Tryz.prog 65 #[.agg #[.int .u8 a, .int .u8 b]] w fun e w' => e = .returned (.int .u8 a) ∧ Below w.heap.size w w' := by
  go_enter Tryz.func65, Tryz.ntmps65
  go_wp2
  go_ret
  exact ⟨rfl, (Below.refl _ _).alloc (Nat.le_refl _) _⟩
theorem take2_any (a b : Int) (w : World) : Calls Tryz.prog 66 #[.agg #[.int .u8 a, .int .u8 b]] w fun e w' => e = .returned (.int .u8 b) ∧ Below w.heap.size w w' := by
  go_enter Tryz.func66, Tryz.ntmps66
  go_wp2
  go_ret
  exact ⟨rfl, (Below.refl _ _).alloc (Nat.le_refl _) _⟩

/-- The value that the number F takes of a pair. -/
def Takes2 (F : FuncId) (g : Int × Int → Int) : Prop := (F = 65 ∧ g = Prod.fst) ∨ (F = 66 ∧ g = Prod.snd)
theorem ptaken_any {F : FuncId} {g : Int × Int → Int} (h : Takes2 F g) (a b : Int) (w : World) : Calls Tryz.prog F #[.agg #[.int .u8 a, .int .u8 b]] w fun e w' => e = .returned (.int .u8 (g (a, b))) ∧ Below w.heap.size w w' := by
  rcases h with ⟨rfl, rfl⟩ | ⟨rfl, rfl⟩
  · exact take1_any a b w
  · exact take2_any a b w

theorem fillL_full {g : Int × Int → Int} {l : List (Int × Int)} {n : Nat} (h : n = l.length) : fillL (fun j => .int .u8 (g (l.getD j (0, 0)))) (.int .u8 0) n n = (l.map g).map (Value.int .u8) := by
  apply List.ext_getElem?
  intro j
  by_cases hj : j < n
  · rw [fillL_get _ _ _ _ _ hj, if_pos hj, List.getElem?_map, List.getElem?_map, List.getElem?_eq_getElem (by omega), List.getD_eq_getElem?_getD, List.getElem?_eq_getElem (by omega)]; rfl
  · rw [List.getElem?_eq_none (by simp [fillL_len]; omega), List.getElem?_eq_none (by simp; omega)]

def SideP (l : List Int) (w : World) (e : Ending) (w' : World) : Prop := ∃ v, e = .returned v ∧ Lg.Vs w' w'.heap.size v l ∧ Below w.heap.size w w'

set_option maxHeartbeats 1000000 in
theorem side_any {F : FuncId} {g : Int × Int → Int} (hF : Takes2 F g) {w : World} {B : Nat} {s : Value} {l : List (Int × Int)} (hB : B ≤ w.heap.size) (hs : Pl w B s l) (hsz : l.length ≤ 1000) :
    Calls Tryz.prog 64 #[s, .func (.func F) #[] #[]] w (SideP (l.map g) w) := by
  obtain ⟨b, o, c, hv, hm, hc⟩ := hs
  clear hm
  obtain ⟨n, hn⟩ : ∃ n, n = l.length := ⟨_, rfl⟩
  have key : ∀ A, (0 < n → A = some ⟨b, o, none⟩) → s = .slice A n c → Calls Tryz.prog 64 #[s, .func (.func F) #[] #[]] w (SideP (l.map g) w) := by
    intro A hA hsA
    subst hsA
    obtain ⟨i0, hi, hz0, hz1, hz2⟩ := info_parts info_val
    rw [← hn] at hsz hc
    have HA := Lib.hid hA
    have HC := Lib.hid hc
    have HN := Lib.hid hn
    have HB := Lib.hid hB
    have hgo : F = 65 ∨ F = 66 := by rcases hF with h | h; exact .inl h.1; exact .inr h.1
    have HT := Lib.hid (fun a b w => ptaken_any hF a b w)
    clear hc hn hB hA hv hF
    rcases hgo with rfl | rfl
    all_goals
      go_enter Tryz.func64, Tryz.ntmps64
      go_wp2_with (at_make; refine wpList_make_full _ rfl _ _ 29 rfl w.heap.size 30 i0 (.int .u8 0) 1 Tryz.underlying29 hi hz0 hz1 .i64 .i64 _ _ n rfl rfl rfl rfl ?b2 ?b3 ?b4 ?_)
      case b2 => rw [hz2]; omega
      case b3 => unfold maxLen; omega
      case b4 => exact Nat.le_refl _
      intro w1 hown hgr
      rw [fillL_start (fun j => .int .u8 (g (l.getD j (0, 0))))] at hown
      have hb1 : Below w.heap.size w w1 := (Below.refl _ _).grown hgr (Nat.le_refl _) (fun k h => by cases h)
      obtain ⟨q, hq⟩ : ∃ q, q = w.heap.size := ⟨_, rfl⟩
      rw [← hq] at hown hb1
      rw [← hq]
      have HO := Lib.hid hown
      have HBL := Lib.hid hb1
      have HG := Lib.hid hq
      clear hown hgr hb1 hz0 hz1 hz2 hi hq
      go_wp2
      go_loopw [13] (fun i wr => ∃ k : Nat, k ≤ n ∧ i = .int .i64 k ∧ Below q w wr ∧
        wr.ownsRow q 30 1 (.slice (some ⟨q, 0, none⟩) n n) n (fillL (fun j => .int .u8 (g (l.getD j (0, 0)))) (.int .u8 0) n k)) (fun i _ => n - (intOf i).toNat)
      case atStart => exact ⟨0, Nat.zero_le _, rfl, HBL.out, HO.out⟩
      case round =>
        clear HO HBL
        obtain ⟨k, hk, rfl, hb, hown⟩ := hrel
        have HBL := Lib.hid hb
        have HO := Lib.hid hown
        clear hb hown
        by_cases hlt : k < n
        · obtain rfl := HA.out (by omega)
          have c0 : wr.cell? ⟨b, o + k * 2, none⟩ = some (.int .u8 (l.getD k (0, 0)).1) :=
            (HBL.out.cell (p := ⟨b, o + k * 2, none⟩) (by rw [HG.out]; exact Nat.lt_of_lt_of_le (HC.out k hlt).1 HB.out)).trans (HC.out k hlt).2.1
          have c1 : wr.cell? ⟨b, o + k * 2 + 1, none⟩ = some (.int .u8 (l.getD k (0, 0)).2) :=
            (HBL.out.cell (p := ⟨b, o + k * 2 + 1, none⟩) (by rw [HG.out]; exact Nat.lt_of_lt_of_le (HC.out k hlt).1 HB.out)).trans (HC.out k hlt).2.2
          obtain ⟨x0, HX0⟩ := named (l.getD k (0, 0)).1
          obtain ⟨x1, HX1⟩ := named (l.getD k (0, 0)).2
          rw [← HX0.out] at c0
          rw [← HX1.out] at c1
          obtain ⟨y, HY⟩ := named (g (x0, x1))
          have HO' := Lib.hid (HO.out.alloc (.cells #[.int .u8 x0, .int .u8 x1] 72))
          go_wp2_with ((first | go_at_call 65 | go_at_call 66); ((with_reducible refine (HT.out x0 x1 _).mono ?_); rintro e w2 ⟨rfl, hb2⟩; rw [← HY.out]; have HB2 := Lib.hid hb2; have hof := own_bel HO'.out hb2; have f0 := hof.frozenAt k; have c2 : w2.cell? ⟨q, k, none⟩ = some (.int .u8 0) := (by rw [hof.cellAt k (by omega), fillL_get _ _ _ _ _ hlt, if_neg (by omega)]); have HO2 := Lib.hid hof; clear hb2 hof))
          go_roundw
          case rel =>
            refine ⟨k + 1, by omega, by go_num, (((HBL.out.alloc (by have := HBL.out.size; rw [HG.out]; exact this) _).trans (HB2.out.mono (by have := HBL.out.size; rw [HG.out]; simp; omega))).setCell (Nat.le_refl q) _), ?_⟩
            have e := fillL_set (fun j => .int .u8 (g (l.getD j (0, 0)))) (.int .u8 0) n k
            have hyv : y = g (l.getD k (0, 0)) := by rw [HY.out, HX0.out, HX1.out]
            have hst := (HO2.out.stored k (.int .u8 y)).1
            rw [← e, ← hyv]
            exact hst
          case measure => simp [intOf]; omega
        · have hkn : k = n := by omega
          subst hkn
          go_wp2_with fail
          go_ret
          refine ⟨_, rfl, ?_, by rw [← HG.out]; exact HBL.out⟩
          have h := HO.out
          rw [fillL_full HN.out] at h
          exact (Lg.Vs.of_own h).1
  rcases hv with rfl | ⟨rfl, A, rfl⟩
  · exact key _ (fun _ => rfl) (by rw [hn])
  · exact key A (fun h => absurd h (by rw [hn]; simp)) (by rw [hn]; rfl)

/-- Eval of pairs: Eval of both sides. -/
def evP1 (k : Int) (l : List (Int × Int)) : Int := evalL k (l.map Prod.fst)
def evP2 (k : Int) (l : List (Int × Int)) : Int := evalL k (l.map Prod.snd)

set_option maxHeartbeats 1000000 in
theorem evalP_any (k : Int) (hk : 0 ≤ k) {w : World} {B : Nat} {s : Value} {l : List (Int × Int)} (hB : B ≤ w.heap.size) (hs : Pl w B s l) (hsz : l.length ≤ 1000) (ht : Lg.Tabs w) :
    Calls Tryz.prog 20 #[.int .u8 k, s] w fun e w' => e = .returned (.agg #[.int .u8 (evP1 k l), .int .u8 (evP2 k l)]) ∧ Below w.heap.size w w' := by
  obtain ⟨W1, HW1⟩ := named (w.alloc (.cells #[.int .u8 0, .int .u8 0] 72))
  have hb1 : BelW w W1 := by rw [HW1.out]; exact below_new (Below.refl _ _) _
  have hfr : Fr W1 w.heap.size 72 [.int .u8 0, .int .u8 0] := by rw [HW1.out]; exact Fr.made _ _ _ rfl
  obtain ⟨y1, HY1⟩ := named (evP1 k l)
  obtain ⟨y2, HY2⟩ := named (evP2 k l)
  rw [← HY1.out, ← HY2.out]
  have HS1 : Hid (∀ W, BelW W1 W → Calls Tryz.prog 64 #[s, .func (.func 65) #[] #[]] W (SideP (l.map Prod.fst) W)) := Lib.hid fun W h => side_any (F := 65) (.inl ⟨rfl, rfl⟩) (Nat.le_trans hB (Below.size (joinB hb1 h))) (hs.below (Below.mono (joinB hb1 h) hB)) hsz
  have HS2 : Hid (∀ W, BelW W1 W → Calls Tryz.prog 64 #[s, .func (.func 66) #[] #[]] W (SideP (l.map Prod.snd) W)) := Lib.hid fun W h => side_any (F := 66) (.inr ⟨rfl, rfl⟩) (Nat.le_trans hB (Below.size (joinB hb1 h))) (hs.below (Below.mono (joinB hb1 h) hB)) hsz
  have HE1 : Hid (∀ W v, BelW W1 W → Lg.Vs W W.heap.size v (l.map Prod.fst) → Calls Tryz.prog 10 #[.int .u8 k, v] W fun e w' => e = .returned (.int .u8 y1) ∧ BelW W w') := Lib.hid fun W v h hv => by
    rw [HY1.out]; exact Lg.eval_any k hk (Nat.le_refl _) hv (ht.below (joinB hb1 h))
  have HE2 : Hid (∀ W v, BelW W1 W → Lg.Vs W W.heap.size v (l.map Prod.snd) → Calls Tryz.prog 10 #[.int .u8 k, v] W fun e w' => e = .returned (.int .u8 y2) ∧ BelW W w') := Lib.hid fun W v h hv => by
    rw [HY2.out]; exact Lg.eval_any k hk (Nat.le_refl _) hv (ht.below (joinB hb1 h))
  have HVK : Hid (∀ {W W' : World} {v : Value} {m : List Int}, Lg.Vs W W.heap.size v m → BelW W W' → Lg.Vs W' W'.heap.size v m) := Lib.hid fun h hb => (Lg.Vs.below h hb).more (Below.size hb)
  obtain ⟨l1, HL1⟩ := named (l.map Prod.fst)
  obtain ⟨l2, HL2⟩ := named (l.map Prod.snd)
  rw [← HL1.out] at HS1 HE1
  rw [← HL2.out] at HS2 HE2
  have HB1 := Lib.hid hb1
  have HFR := Lib.hid hfr
  have hs0 : BelW W1 W1 := Below.refl _ _
  clear hB hs hsz ht hk HL1 HL2 hb1 hfr
  have hmf : ∀ (fn : Fn) (first cap : Array Value) (w : World), (Instr.makeFunc fn first cap).run Tryz.prog w = .ok (.func fn first cap) w := fun _ _ _ _ => rfl
  go_enter Tryz.func20, Tryz.ntmps20
  go_upto_region 1 with (fail)
  rw [← HW1.out]
  go_wp2_with (first
    | (go_at_call 64; (with_reducible refine (HS1.out _ hs0).mono ?_); rintro e w1 ⟨v1, rfl, hv1, hb⟩; have HV1 := Lib.hid hv1; have hs1 : BelW W1 w1 := hb; clear hv1 hb)
    | (go_at_call 64; (with_reducible refine (HS2.out _ hs1).mono ?_); rintro e w2 ⟨v2, rfl, hv2, hb⟩; have HV2 := Lib.hid hv2; have HV12 := Lib.hid (HVK.out HV1.out hb); have hs2 : BelW W1 w2 := joinB hs1 hb; clear hv2 hb)
    | (go_at_call 10; (with_reducible refine (HE1.out _ _ hs2 HV12.out).mono ?_); rintro e w3 ⟨rfl, hb⟩; have HV23 := Lib.hid (HVK.out HV2.out hb); have hs3 : BelW W1 w3 := joinB hs2 hb; clear hb)
    | (go_at_call 10; (with_reducible refine (HE2.out _ _ hs3 HV23.out).mono ?_); rintro e w4 ⟨rfl, hb⟩; have hs4 : BelW W1 w4 := joinB hs3 hb; clear hb; have hf4 := HFR.out.below hs4; have r0 := hf4.cell 0; have r1 := hf4.cell 1; have r2 := hf4.frozen 0; have r3 := hf4.frozen 1; have HF4 := Lib.hid hf4; clear hf4))
  (try simp only [Exit.inBlock, Exit.then])
  refine bodyPost_ret (results_cell_row rfl _ _ _ _ _ _ _ rfl ((HF4.out.set 0 _).set 1 _) Tryz.underlying72 rfl (by kernel_rfl)) rfl ?_
  exact ⟨rfl, Below.setCell (Below.setCell (joinB HB1.out hs4) (Nat.le_refl _) _) (Nat.le_refl _) _⟩
end Go.Proofs.YtemogllidmgbfaaGreatDoor
