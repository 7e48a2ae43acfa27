/- Slices of pairs; the walks of side and of Eval of the pairs package. -/
import Derived.Test.YtnddgkcgedkabaaDoorPrs5
namespace Go.Proofs.YtnddgkcgedkabaaDoor
open Go.RowKit

/-- The slice value v reads as the list l of pairs, in blocks below B. -/
def Pl (w : World) (B : Nat) (v : Value) (l : List (Int × Int)) : Prop :=
  ∃ b o c, (v = .slice (some ⟨b, o, none⟩) l.length c ∨ (l = [] ∧ ∃ A, v = .slice A 0 c)) ∧ l.length ≤ maxLen ∧
    ∀ k, k < l.length → b < B ∧ w.cell? ⟨b, o + k * 2, none⟩ = some (.int .u8 (l.getD k (0, 0)).1) ∧ w.cell? ⟨b, o + k * 2 + 1, none⟩ = some (.int .u8 (l.getD k (0, 0)).2)

section
variable {w w' : World} {B B' : Nat} {v : Value} {l : List (Int × Int)}
theorem Pl.keep (h : Pl w B v l) (hk : ∀ p : Addr, p.block < B → w'.cell? p = w.cell? p) : Pl w' B v l := by
  obtain ⟨b, o, c, h1, h2, h3⟩ := h
  exact ⟨b, o, c, h1, h2, fun k hk' => ⟨(h3 k hk').1, (hk _ (h3 k hk').1).trans (h3 k hk').2.1, (hk _ (h3 k hk').1).trans (h3 k hk').2.2⟩⟩
theorem Pl.more (h : Pl w B v l) (hB : B ≤ B') : Pl w B' v l := by
  obtain ⟨b, o, c, h1, h2, h3⟩ := h
  exact ⟨b, o, c, h1, h2, fun k hk' => ⟨Nat.lt_of_lt_of_le (h3 k hk').1 hB, (h3 k hk').2⟩⟩
theorem Pl.below (h : Pl w B v l) (hb : Below B w w') : Pl w' B v l := h.keep fun _ hp => hb.cell hp
theorem Pl.nil (w : World) (B : Nat) (A : Option Addr) (c : Nat) : Pl w B (.slice A 0 c) [] := ⟨0, 0, c, .inr ⟨rfl, A, rfl⟩, by simp, fun k hk => absurd hk (by simp)⟩
end

theorem take1_any (a b : Int) (w : World) : Calls Tryd.prog 33 #[.agg #[.int .u8 a, .int .u8 b]] w fun e w' => e = .returned (.int .u8 a) ∧ Below w.heap.size w w' := by
  go_enter Tryd.func33, Tryd.ntmps33
  go_wp2
  go_ret
  exact ⟨rfl, (Below.refl _ _).alloc (Nat.le_refl _) _⟩
theorem take2_any (a b : Int) (w : World) : Calls Tryd.prog 34 #[.agg #[.int .u8 a, .int .u8 b]] w fun e w' => e = .returned (.int .u8 b) ∧ Below w.heap.size w w' := by
  go_enter Tryd.func34, Tryd.ntmps34
  go_wp2
  go_ret
  exact ⟨rfl, (Below.refl _ _).alloc (Nat.le_refl _) _⟩

/-- The value that the number F takes of a pair. -/
def Takes2 (F : FuncId) (g : Int × Int → Int) : Prop := (F = 33 ∧ g = Prod.fst) ∨ (F = 34 ∧ g = Prod.snd)
theorem taken_any {F : FuncId} {g : Int × Int → Int} (h : Takes2 F g) (a b : Int) (w : World) : Calls Tryd.prog F #[.agg #[.int .u8 a, .int .u8 b]] w fun e w' => e = .returned (.int .u8 (g (a, b))) ∧ Below w.heap.size w w' := by
  rcases h with ⟨rfl, rfl⟩ | ⟨rfl, rfl⟩
  · exact take1_any a b w
  · exact take2_any a b w

/-- A row of the call's own, in a world in which nothing that was there has changed. -/
theorem own_below {w w' : World} {base : Nat} {e : TypeId} {size n : Nat} {v : Value} {xs : List Value} (h : w.ownsRow base e size v n xs) (hb : Below w.heap.size w w') : w'.ownsRow base e size v n xs := by
  refine ⟨h.1, ?_⟩
  rcases h.2 with h | ⟨g, cap, cur, h1, h2, h3, h4⟩
  · exact .inl h
  · have hg : g < w.heap.size := by
      rcases Nat.lt_or_ge g w.heap.size with h | h
      · exact h
      · rw [Array.getElem?_eq_none h] at h3; cases h3
    exact .inr ⟨g, cap, cur, h1, h2, (hb.block g hg).trans h3, h4⟩

theorem fillL_full {g : Int × Int → Int} {l : List (Int × Int)} {n : Nat} (h : n = l.length) : fillL (fun j => .int .u8 (g (l.getD j (0, 0)))) (.int .u8 0) n n = (l.map g).map (Value.int .u8) := by
  apply List.ext_getElem?
  intro j
  by_cases hj : j < n
  · rw [fillL_get _ _ _ _ _ hj, if_pos hj, List.getElem?_map, List.getElem?_map, List.getElem?_eq_getElem (by omega), List.getD_eq_getElem?_getD, List.getElem?_eq_getElem (by omega)]; rfl
  · rw [List.getElem?_eq_none (by simp [fillL_len]; omega), List.getElem?_eq_none (by simp; omega)]

def SideP (l : List Int) (w : World) (e : Ending) (w' : World) : Prop := ∃ v, e = .returned v ∧ Vs w' w'.heap.size v l ∧ Below w.heap.size w w'

set_option maxHeartbeats 1000000 in
theorem side_any {F : FuncId} {g : Int × Int → Int} (hF : Takes2 F g) {w : World} {B : Nat} {s : Value} {l : List (Int × Int)} (hB : B ≤ w.heap.size) (hs : Pl w B s l) (hsz : l.length ≤ 1000) :
    Calls Tryd.prog 32 #[s, .func (.func F) #[] #[]] w (SideP (l.map g) w) := by
  obtain ⟨b, o, c, hv, hm, hc⟩ := hs
  clear hm
  obtain ⟨n, hn⟩ : ∃ n, n = l.length := ⟨_, rfl⟩
  have key : ∀ A, (0 < n → A = some ⟨b, o, none⟩) → s = .slice A n c → Calls Tryd.prog 32 #[s, .func (.func F) #[] #[]] w (SideP (l.map g) w) := by
    intro A hA hsA
    subst hsA
    obtain ⟨i0, hi, hz0, hz1, hz2⟩ := info_parts info_value
    rw [← hn] at hsz hc
    have HA := Lib.hid hA
    have HC := Lib.hid hc
    have HN := Lib.hid hn
    have HB := Lib.hid hB
    have hgo : F = 33 ∨ F = 34 := by rcases hF with h | h; exact .inl h.1; exact .inr h.1
    have HT := Lib.hid (fun a b w => taken_any hF a b w)
    clear hc hn hB hA hv hF
    rcases hgo with rfl | rfl
    all_goals
      go_enter Tryd.func32, Tryd.ntmps32
      go_wp2_with (at_make; refine wpList_make_full _ rfl _ _ 25 rfl w.heap.size 26 i0 (.int .u8 0) 1 Tryd.underlying25 hi hz0 hz1 .i64 .i64 _ _ n rfl rfl rfl rfl ?b2 ?b3 ?b4 ?_)
      case b2 => rw [hz2]; omega
      case b3 => unfold maxLen; omega
      case b4 => exact Nat.le_refl _
      intro w1 hown hgr
      rw [fillL_start (fun j => .int .u8 (g (l.getD j (0, 0))))] at hown
      have hb1 : Below w.heap.size w w1 := (Below.refl _ _).grown hgr (Nat.le_refl _) (fun k h => by cases h)
      obtain ⟨q, hq⟩ : ∃ q, q = w.heap.size := ⟨_, rfl⟩
      rw [← hq] at hown hb1
      rw [← hq]
      have HO := Lib.hid hown
      have HBL := Lib.hid hb1
      have HG := Lib.hid hq
      clear hown hgr hb1 hz0 hz1 hz2 hi hq
      go_wp2
      go_loopw [13] (fun i wr => ∃ k : Nat, k ≤ n ∧ i = .int .i64 k ∧ Below q w wr ∧
        wr.ownsRow q 26 1 (.slice (some ⟨q, 0, none⟩) n n) n (fillL (fun j => .int .u8 (g (l.getD j (0, 0)))) (.int .u8 0) n k)) (fun i _ => n - (intOf i).toNat)
      case atStart => exact ⟨0, Nat.zero_le _, rfl, HBL.out, HO.out⟩
      case round =>
        clear HO HBL
        obtain ⟨k, hk, rfl, hb, hown⟩ := hrel
        have HBL := Lib.hid hb
        have HO := Lib.hid hown
        clear hb hown
        by_cases hlt : k < n
        · obtain rfl := HA.out (by omega)
          have c0 : wr.cell? ⟨b, o + k * 2, none⟩ = some (.int .u8 (l.getD k (0, 0)).1) :=
            (HBL.out.cell (p := ⟨b, o + k * 2, none⟩) (by rw [HG.out]; exact Nat.lt_of_lt_of_le (HC.out k hlt).1 HB.out)).trans (HC.out k hlt).2.1
          have c1 : wr.cell? ⟨b, o + k * 2 + 1, none⟩ = some (.int .u8 (l.getD k (0, 0)).2) :=
            (HBL.out.cell (p := ⟨b, o + k * 2 + 1, none⟩) (by rw [HG.out]; exact Nat.lt_of_lt_of_le (HC.out k hlt).1 HB.out)).trans (HC.out k hlt).2.2
          obtain ⟨x0, HX0⟩ := named (l.getD k (0, 0)).1
          obtain ⟨x1, HX1⟩ := named (l.getD k (0, 0)).2
          rw [← HX0.out] at c0
          rw [← HX1.out] at c1
          obtain ⟨y, HY⟩ := named (g (x0, x1))
          have HO' := Lib.hid (HO.out.alloc (.cells #[.int .u8 x0, .int .u8 x1] 28))
          go_wp2_with ((first | go_at_call 33 | go_at_call 34); ((with_reducible refine (HT.out x0 x1 _).mono ?_); rintro e w2 ⟨rfl, hb2⟩; rw [← HY.out]; have HB2 := Lib.hid hb2; have hof := own_below HO'.out hb2; have f0 := hof.frozenAt k; have c2 : w2.cell? ⟨q, k, none⟩ = some (.int .u8 0) := (by rw [hof.cellAt k (by omega), fillL_get _ _ _ _ _ hlt, if_neg (by omega)]); have HO2 := Lib.hid hof; clear hb2 hof))
          go_roundw
          case rel =>
            refine ⟨k + 1, by omega, by go_num, (((HBL.out.alloc (by have := HBL.out.size; rw [HG.out]; exact this) _).trans (HB2.out.mono (by have := HBL.out.size; rw [HG.out]; simp; omega))).setCell (Nat.le_refl q) _), ?_⟩
            have e := fillL_set (fun j => .int .u8 (g (l.getD j (0, 0)))) (.int .u8 0) n k
            have hyv : y = g (l.getD k (0, 0)) := by rw [HY.out, HX0.out, HX1.out]
            have hst := (HO2.out.stored k (.int .u8 y)).1
            rw [← e, ← hyv]
            exact hst
          case measure => simp [intOf]; omega
        · have hkn : k = n := by omega
          subst hkn
          go_wp2_with fail
          go_ret
          refine ⟨_, rfl, ?_, by rw [← HG.out]; exact HBL.out⟩
          have h := HO.out
          rw [fillL_full HN.out] at h
          exact (Vs.of_own h).1
  rcases hv with rfl | ⟨rfl, A, rfl⟩
  · exact key _ (fun _ => rfl) (by rw [hn])
  · exact key A (fun h => absurd h (by rw [hn]; simp)) (by rw [hn]; rfl)

/-- Eval of pairs: Eval of both sides. -/
def evP1 (k : Int) (l : List (Int × Int)) : Int := evalL k (l.map Prod.fst)
def evP2 (k : Int) (l : List (Int × Int)) : Int := evalL k (l.map Prod.snd)

set_option maxHeartbeats 1000000 in
theorem evalP_any (k : Int) (hk : 0 ≤ k) {w : World} {B : Nat} {s : Value} {l : List (Int × Int)} (hB : B ≤ w.heap.size) (hs : Pl w B s l) (hsz : l.length ≤ 1000) (ht : Tabs w) :
    Calls Tryd.prog 11 #[.int .u8 k, s] w fun e w' => e = .returned (.agg #[.int .u8 (evP1 k l), .int .u8 (evP2 k l)]) ∧ Below w.heap.size w w' := by
  obtain ⟨y1, HY1⟩ := named (evP1 k l)
  obtain ⟨y2, HY2⟩ := named (evP2 k l)
  rw [← HY1.out, ← HY2.out]
  obtain ⟨l1, HL1⟩ := named (l.map Prod.fst)
  obtain ⟨l2, HL2⟩ := named (l.map Prod.snd)
  have HS1 := Lib.hid (fun (w' : World) (hb : Below w.heap.size w w') => side_any (F := 33) (.inl ⟨rfl, rfl⟩) (Nat.le_trans hB hb.size) (hs.below (hb.mono hB)) hsz)
  have HS2 := Lib.hid (fun (w' : World) (hb : Below w.heap.size w w') => side_any (F := 34) (.inr ⟨rfl, rfl⟩) (Nat.le_trans hB hb.size) (hs.below (hb.mono hB)) hsz)
  rw [← HL1.out] at HS1
  rw [← HL2.out] at HS2
  have HE1 : Hid (y1 = evalL k l1) := Lib.hid (by rw [HY1.out, HL1.out]; rfl)
  have HE2 : Hid (y2 = evalL k l2) := Lib.hid (by rw [HY2.out, HL2.out]; rfl)
  have HT := Lib.hid ht
  have HK := Lib.hid hk
  have HR0 := Lib.hid (Box.new w (.int .u8 0) (.int .u8 0) 28)
  have HB0 : Hid (Below w.heap.size w (w.alloc (.cells #[.int .u8 0, .int .u8 0] 28))) := Lib.hid (belowA (Below.refl _ _))
  clear hB hs hsz ht hk HL1 HL2
  have hmf : ∀ (fn : Fn) (first cap : Array Value) (w : World), (Instr.makeFunc fn first cap).run Tryd.prog w = .ok (.func fn first cap) w := fun _ _ _ _ => rfl
  go_enter Tryd.func11, Tryd.ntmps11
  go_wp2_with (first
    | (go_at_call 32; first
      | ((with_reducible refine (HS1.out _ HB0.out).mono ?_); rintro e w1 ⟨v1, rfl, hs1, hb1⟩; have HV1 := Lib.hid hs1; have HB1 := Lib.hid (joinB HB0.out hb1); have HR1 := Lib.hid (HR0.out.below hb1); clear hs1 hb1)
      | ((with_reducible refine (HS2.out _ HB1.out).mono ?_); rintro e w2 ⟨v2, rfl, hs2, hb2⟩; have HV2 := Lib.hid hs2; have HV1' := Lib.hid (HV1.out.below hb2); have HB2 := Lib.hid (joinB HB1.out hb2); have HR2 := Lib.hid (HR1.out.below hb2); have HZ := Lib.hid hb2.size; clear hs2 hb2))
    | (go_at_call 12; first
      | ((with_reducible refine (eval_any k HK.out HZ.out HV1'.out (HT.out.below HB2.out)).mono ?_); rintro e w3 ⟨rfl, hb3⟩; rw [← HE1.out]; have HV2' := Lib.hid (HV2.out.below hb3); have HB3 := Lib.hid (joinB HB2.out hb3); have HR3 := Lib.hid (HR2.out.below hb3); have HZ3 := Lib.hid hb3.size; clear hb3)
      | ((with_reducible refine (eval_any k HK.out HZ3.out HV2'.out (HT.out.below HB3.out)).mono ?_); rintro e w4 ⟨rfl, hb4⟩; rw [← HE2.out]; have HB4 := Lib.hid (joinB HB3.out hb4); obtain ⟨z, p0, p1, f0, f1⟩ := HR3.out.below hb4; clear hb4)))
  exact bodyPost_ret (v := .agg #[.int .u8 y1, .int .u8 y2]) (by simp [results, Tryd.results11, go_sem, p0, p1]) rfl ⟨rfl, below_put HB4.out (Nat.le_refl _) _ _⟩

end Go.Proofs.YtnddgkcgedkabaaDoor
