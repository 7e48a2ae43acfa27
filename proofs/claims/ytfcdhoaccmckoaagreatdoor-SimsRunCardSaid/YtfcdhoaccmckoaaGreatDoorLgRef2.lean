/- The walks of the reference's Choices and Function. -/
import Derived.Test.YtfcdhoaccmckoaaGreatDoorSmq
import Derived.Test.YtfcdhoaccmckoaaGreatDoorLgEvalw
import Derived.Test.YtfcdhoaccmckoaaGreatDoorPure
namespace Go.Proofs.YtfcdhoaccmckoaaGreatDoor.Lg
open Go.RowKit

/-- A row of the call's own reads as its list. -/
theorem Vs.of_own {w : World} {base : Nat} {v : Value} {n : Nat} {l : List Int} (h : w.ownsRow base 74 1 v n (l.map (Value.int .u8))) : Vs w w.heap.size v l ∧ l.length = n := by
  have hl : l.length = n := by simpa using h.1
  refine ⟨?_, hl⟩
  subst hl
  rcases h.2 with ⟨rfl, hn⟩ | ⟨g, cap, cur, rfl, -, hg, hle, hm, hsz, htake⟩
  · obtain rfl : l = [] := List.eq_nil_of_length_eq_zero hn
    exact Vs.nil _ _ _ _
  · have hlt : g < w.heap.size := by
      rcases Nat.lt_or_ge g w.heap.size with h | h
      · exact h
      · rw [Array.getElem?_eq_none h] at hg; cases hg
    refine ⟨g, 0, cap, .inl rfl, by omega, fun k hk => ⟨hlt, ?_⟩⟩
    rw [Nat.zero_add, h.cellAt k (by omega), List.getElem?_map, List.getElem?_eq_getElem hk, List.getD_eq_getElem?_getD, List.getElem?_eq_getElem hk]
    rfl

theorem eval_rel {w0 : World} {B : Nat} {s : Value} {l : List Int} (k : Int) (h0 : 0 ≤ k) (hB : B ≤ w0.heap.size) (hs : Vs w0 B s l) (ht : Tabs w0) (w : World) (hb : Below w0.heap.size w0 w) :
    Calls Tryz.prog 24 #[.int .u8 k, s] w fun e w' => e = .returned (.int .u8 (evalL k l)) ∧ Below w0.heap.size w0 w' :=
  rel (eval_any k h0 (Nat.le_trans hB hb.size) (hs.below (hb.mono hB)) (ht.below hb)) hb

theorem one_new (w : World) (u : Value) (t : TypeId) : ∀ (j : Nat) (v : Value), [u][j]? = some v → (w.alloc (.cells #[u] t)).cell? ((⟨w.heap.size, 0, none⟩ : Addr).add j) = some v := by
  intro j v h
  match j, h with
  | 0, h =>
    obtain rfl : u = v := by simpa using h
    rw [show (⟨w.heap.size, 0, none⟩ : Addr).add 0 = ⟨w.heap.size, 0, none⟩ from rfl, World.cell?_alloc_at _ _ _ _ rfl]
    rfl
theorem own_from {w : World} {base : Nat} {e : TypeId} {size n : Nat} {v : Value} {xs : List Value} (h : w.ownsRow base e size v n xs) {q : Nat} (hq : v.ownBlock = some q) : base ≤ q := by
  rcases h.2 with ⟨rfl, -⟩ | ⟨g, cap, cur, rfl, hb, -⟩
  · cases hq
  · obtain rfl : g = q := by simpa [Value.ownBlock] using hq
    exact hb

end Go.Proofs.YtfcdhoaccmckoaaGreatDoor.Lg

namespace Go.Proofs.YtfcdhoaccmckoaaGreatDoor.Lg

/-- how many of a list are x -/
def cnt (x : Int) : List Int → Nat
  | [] => 0
  | v :: l => (if v = x then 1 else 0) + cnt x l
def bitI (b : Bool) : Int := if b = true then 1 else 0
def chc (v : Int) (bus : Bool) : List Int :=
  if v = 0 then [0] else if v = 1 then [1] else if bus = true ∧ v = 3 then [2] else if bus = true then [0, 1, 2] else [0, 1]
/-- a kind's function of ones and zeros and of the inputs themselves -/
def fnK (q : Int) (ones zeros : Nat) (l : List Int) : Int :=
  if q = 1 then 0 else if q = 2 then 1
  else if q = 3 then bitI (l.getD 0 0 == 1) else if q = 4 then bitI (!(l.getD 0 0 == 1))
  else if q = 5 then bitI (zeros == 0) else if q = 6 then bitI (!(zeros == 0))
  else if q = 7 then bitI (decide (0 < ones)) else if q = 8 then bitI (!decide (0 < ones))
  else if q = 9 then bitI (ones % 2 == 1) else if q = 10 then bitI (!(ones % 2 == 1))
  else if q = 11 then (if l.getD 0 0 = 0 then l.getD 1 0 else l.getD 2 0)
  else if q = 12 then (if l.getD 0 0 = 0 then 2 else l.getD 1 0)
  else if q = 13 then (if ones + zeros = 0 then 2 else if 0 < ones ∧ 0 < zeros then 3 else bitI (decide (0 < ones)))
  else bitI (decide (0 < ones))
def fn (q : Int) (l : List Int) : Int := fnK q (cnt 1 l) (cnt 0 l) l
theorem cnt_le (x : Int) (l : List Int) : cnt x l ≤ l.length := by
  induction l with
  | nil => exact Nat.le_refl _
  | cons v l ih => unfold cnt; rw [List.length_cons]; split <;> omega
theorem cnt_snoc (x : Int) (l : List Int) (v : Int) : cnt x (l ++ [v]) = cnt x l + if v = x then 1 else 0 := by
  induction l with
  | nil => simp [cnt]
  | cons a l ih => rw [List.cons_append, cnt, cnt, ih]; omega
theorem cnt_take (x : Int) (l : List Int) (k : Nat) (h : k < l.length) : cnt x (l.take (k + 1)) = cnt x (l.take k) + if l.getD k 0 = x then 1 else 0 := by
  rw [take_succ_getD l k h, cnt_snoc]

end Go.Proofs.YtfcdhoaccmckoaaGreatDoor.Lg

namespace Go.Proofs.YtfcdhoaccmckoaaGreatDoor.Lg
open Go.RowKit

/-- The slice value v reads as the list l of integers, in blocks below B. -/
def Vi (w : World) (B : Nat) (v : Value) (l : List Int) : Prop :=
  ∃ b o c, (v = .slice (some ⟨b, o, none⟩) l.length c ∨ (l = [] ∧ ∃ A, v = .slice A 0 c)) ∧ l.length ≤ maxLen ∧ ∀ k, k < l.length → b < B ∧ w.cell? ⟨b, o + k, none⟩ = some (.int .i64 (l.getD k 0))
section
variable {w w' : World} {B B' : Nat} {v : Value} {l : List Int}
theorem Vi.keep (h : Vi w B v l) (hk : ∀ p : Addr, p.block < B → w'.cell? p = w.cell? p) : Vi w' B v l := by
  obtain ⟨b, o, c, h1, h2, h3⟩ := h
  exact ⟨b, o, c, h1, h2, fun k hk' => ⟨(h3 k hk').1, (hk _ (h3 k hk').1).trans (h3 k hk').2⟩⟩
theorem Vi.more (h : Vi w B v l) (hB : B ≤ B') : Vi w B' v l := by
  obtain ⟨b, o, c, h1, h2, h3⟩ := h
  exact ⟨b, o, c, h1, h2, fun k hk' => ⟨Nat.lt_of_lt_of_le (h3 k hk').1 hB, (h3 k hk').2⟩⟩
theorem Vi.below (h : Vi w B v l) (hb : Below B w w') : Vi w' B v l := h.keep fun _ hp => hb.cell hp
theorem Vi.nil (w : World) (B : Nat) (A : Option Addr) (c : Nat) : Vi w B (.slice A 0 c) [] := ⟨0, 0, c, .inr ⟨rfl, A, rfl⟩, by simp, fun k hk => absurd hk (by simp)⟩
end
theorem Vi.made (w : World) (l : List Int) (t : TypeId) (hl : l.length ≤ maxLen) :
    Vi (w.alloc (.cells (l.map (Value.int .i64)).toArray t)) (w.alloc (.cells (l.map (Value.int .i64)).toArray t)).heap.size (.slice (some ⟨w.heap.size, 0, none⟩) l.length l.length) l := by
  refine ⟨w.heap.size, 0, l.length, .inl rfl, hl, fun k hk => ⟨by simp, ?_⟩⟩
  rw [World.cell?_alloc_at _ _ _ _ rfl]
  simp [List.getElem?_map, List.getElem?_eq_getElem hk]
theorem Vi.of_own {w : World} {base : Nat} {v : Value} {n : Nat} {l : List Int} (h : w.ownsRow base 3 1 v n (l.map (Value.int .i64))) : Vi w w.heap.size v l ∧ l.length = n := by
  have hl : l.length = n := by simpa using h.1
  refine ⟨?_, hl⟩
  subst hl
  rcases h.2 with ⟨rfl, hn⟩ | ⟨g, cap, cur, rfl, -, hg, hle, hm, hsz, htake⟩
  · obtain rfl : l = [] := List.eq_nil_of_length_eq_zero hn
    exact Vi.nil _ _ _ _
  · have hlt : g < w.heap.size := by
      rcases Nat.lt_or_ge g w.heap.size with h | h
      · exact h
      · rw [Array.getElem?_eq_none h] at hg; cases hg
    refine ⟨g, 0, cap, .inl rfl, by omega, fun k hk => ⟨hlt, ?_⟩⟩
    rw [Nat.zero_add, h.cellAt k (by omega), List.getElem?_map, List.getElem?_eq_getElem hk, List.getD_eq_getElem?_getD, List.getElem?_eq_getElem hk]
    rfl

set_option maxHeartbeats 400000 in
theorem bit_any (b : Bool) (w : World) : Calls Tryz.prog 107 #[.bool b] w fun e w' => e = .returned (.int .i64 (bitI b)) ∧ w = w' := by
  cases b
  all_goals
    go_enter Tryz.func107, Tryz.ntmps107
    go_wp2
    go_ret
    exact ⟨rfl, rfl⟩

set_option maxHeartbeats 1000000 in
theorem count_any (x : Int) (l : List Int) (s : Value) (w : World) (B : Nat) (hs : Vi w B s l) :
    Calls Tryz.prog 106 #[s, .int .i64 x] w fun e w' => e = .returned (.int .i64 (cnt x l)) ∧ w = w' := by
  obtain ⟨b, o, c, hv, hm, hc⟩ := hs
  unfold maxLen at hm
  have key : ∀ A, (0 < l.length → A = some ⟨b, o, none⟩) → Calls Tryz.prog 106 #[.slice A l.length c, .int .i64 x] w fun e w' => e = .returned (.int .i64 (cnt x l)) ∧ w = w' := by
    intro A hA
    have HC := Lib.hid hc
    have HA := Lib.hid hA
    obtain ⟨n, hn⟩ : ∃ n, n = l.length := ⟨_, rfl⟩
    obtain ⟨y, HY⟩ := named (cnt x l)
    rw [← HY.out]
    rw [← hn] at hm
    rw [← hn]
    have HN := Lib.hid hn
    clear hc hA hv hn
    go_enter Tryz.func106, Tryz.ntmps106
    go_wp2
    go_loop [5, 6] (fun r i => ∃ k : Nat, k ≤ n ∧ i = .int .i64 k ∧ r = .int .i64 (cnt x (l.take k))) (fun _ i => n - (intOf i).toNat)
    case atStart => exact ⟨0, Nat.zero_le _, rfl, rfl⟩
    case round =>
      obtain ⟨k, hk, rfl, rfl⟩ := hrel
      by_cases hlt : k < n
      · obtain rfl := HA.out (by rw [← HN.out]; omega)
        have hk' : k < l.length := by rw [← HN.out]; omega
        have hcell := (HC.out k hk').2
        have HP := Lib.hid (cnt_take x l k hk')
        have hle := cnt_le x (l.take k)
        have hll : (l.take k).length ≤ k := by rw [List.length_take]; omega
        clear hk'
        obtain ⟨v, HV⟩ := named (l.getD k 0)
        rw [← HV.out] at hcell
        obtain ⟨z, HZ⟩ := named (cnt x (l.take k))
        rw [← HZ.out] at hle
        rw [← HZ.out]
        by_cases hvx : v = x
        · subst hvx
          go_wp2
          go_round
          case rel => exact ⟨k + 1, by omega, by go_num, by rw [HP.out, ← HV.out, if_pos rfl, ← HZ.out]; go_num⟩
          case measure => simp [intOf]; omega
        · have hvb : (v == x) = false := by simpa using hvx
          go_wp2
          go_round
          case rel => exact ⟨k + 1, by omega, by go_num, by rw [HP.out, ← HV.out, if_neg hvx, ← HZ.out]; rfl⟩
          case measure => simp [intOf]; omega
      · obtain rfl : n = k := by omega
        go_wp2
        go_ret
        exact ⟨ret_int (by rw [HY.out, List.take_of_length_le (by rw [← HN.out]; exact Nat.le_refl _)]), rfl⟩
  rcases hv with rfl | ⟨rfl, A, rfl⟩
  · exact key _ fun _ => rfl
  · exact key _ fun h => absurd h (by simp)

end Go.Proofs.YtfcdhoaccmckoaaGreatDoor.Lg

namespace Go.Proofs.YtfcdhoaccmckoaaGreatDoor.Lg
open Go.RowKit

theorem chc_ways (v : Int) (bus : Bool) : (v = 0 ∧ chc v bus = [0]) ∨ (v = 1 ∧ chc v bus = [1]) ∨ ((v == 0) = false ∧ (v == 1) = false ∧ bus = true ∧ (v == 3) = true ∧ chc v bus = [2]) ∨
    ((v == 0) = false ∧ (v == 1) = false ∧ bus = true ∧ (v == 3) = false ∧ chc v bus = [0, 1, 2]) ∨ ((v == 0) = false ∧ (v == 1) = false ∧ bus = false ∧ chc v bus = [0, 1]) := by
  by_cases h0 : v = 0
  · exact .inl ⟨h0, by simp [chc, h0]⟩
  by_cases h1 : v = 1
  · exact .inr (.inl ⟨h1, by simp [chc, h1]⟩)
  cases bus
  · exact .inr (.inr (.inr (.inr ⟨by simpa using h0, by simpa using h1, rfl, by simp [chc, h0, h1]⟩)))
  · by_cases h3 : v = 3
    · exact .inr (.inr (.inl ⟨by simpa using h0, by simpa using h1, rfl, by simpa using h3, by simp [chc, h0, h1, h3]⟩))
    · exact .inr (.inr (.inr (.inl ⟨by simpa using h0, by simpa using h1, rfl, by simpa using h3, by simp [chc, h0, h1, h3]⟩)))

set_option maxHeartbeats 1000000 in
theorem choices_any (v : Int) (bus : Bool) (w : World) :
    Calls Tryz.prog 100 #[.int .u8 v, .bool bus] w fun e w' => e = .returned (.slice (some ⟨w.heap.size, 0, none⟩) (chc v bus).length (chc v bus).length) ∧ w' = w.alloc (.cells ((chc v bus).map (Value.int .i64)).toArray 3) := by
  rcases chc_ways v bus with ⟨rfl, h⟩ | ⟨rfl, h⟩ | ⟨h0, h1, rfl, h3, h⟩ | ⟨h0, h1, rfl, h3, h⟩ | ⟨h0, h1, rfl, h⟩
  all_goals
    rw [h]
    clear h
    go_enter Tryz.func100, Tryz.ntmps100
    go_wp2
    go_ret
    exact ⟨rfl, rfl⟩

set_option maxHeartbeats 1000000 in
set_option maxRecDepth 100000 in
theorem fun_k1 (l : List Int) (s : Value) (n c : Nat) (A : Option Addr) (hsv : s = .slice A n c) (w : World) (B : Nat) (hs : Vi w B s l) (hlen : l.length ≤ 1000) :
    Calls Tryz.prog 101 #[.int .u8 1, s] w fun e w' => e = .returned (.int .i64 (fn 1 l)) ∧ w = w' := by
  obtain ⟨y, HY⟩ := named (fn 1 l)
  rw [← HY.out]
  have ha := cnt_le 1 l
  have hb := cnt_le 0 l
  obtain ⟨p, HP⟩ := named (cnt 1 l)
  obtain ⟨z, HZ⟩ := named (cnt 0 l)
  rw [← HP.out] at ha
  rw [← HZ.out] at hb
  have ha : p ≤ 1000 := by omega
  have hb : z ≤ 1000 := by omega
  have HS := Lib.hid hs
  clear hs hlen
  subst hsv
  go_enter Tryz.func101, Tryz.ntmps101
  go_wp2_with (first
    | (go_at_call 106; first
      | ((with_reducible refine (count_any 1 l _ _ B HS.out).mono ?_); rintro e w' ⟨rfl, rfl⟩; rw [← HP.out])
      | ((with_reducible refine (count_any 0 l _ _ B HS.out).mono ?_); rintro e w' ⟨rfl, rfl⟩; rw [← HZ.out]))
    | (go_at_call 107; (with_reducible refine (bit_any _ _).mono ?_); rintro e w' ⟨rfl, rfl⟩))
  go_ret
  exact ⟨ret_int (by rw [HY.out, fn, ← HP.out, ← HZ.out]; simp [fnK, bitI]), rfl⟩

set_option maxHeartbeats 1000000 in
set_option maxRecDepth 100000 in
theorem fun_k2 (l : List Int) (s : Value) (n c : Nat) (A : Option Addr) (hsv : s = .slice A n c) (w : World) (B : Nat) (hs : Vi w B s l) (hlen : l.length ≤ 1000) :
    Calls Tryz.prog 101 #[.int .u8 2, s] w fun e w' => e = .returned (.int .i64 (fn 2 l)) ∧ w = w' := by
  obtain ⟨y, HY⟩ := named (fn 2 l)
  rw [← HY.out]
  have ha := cnt_le 1 l
  have hb := cnt_le 0 l
  obtain ⟨p, HP⟩ := named (cnt 1 l)
  obtain ⟨z, HZ⟩ := named (cnt 0 l)
  rw [← HP.out] at ha
  rw [← HZ.out] at hb
  have ha : p ≤ 1000 := by omega
  have hb : z ≤ 1000 := by omega
  have HS := Lib.hid hs
  clear hs hlen
  subst hsv
  go_enter Tryz.func101, Tryz.ntmps101
  go_wp2_with (first
    | (go_at_call 106; first
      | ((with_reducible refine (count_any 1 l _ _ B HS.out).mono ?_); rintro e w' ⟨rfl, rfl⟩; rw [← HP.out])
      | ((with_reducible refine (count_any 0 l _ _ B HS.out).mono ?_); rintro e w' ⟨rfl, rfl⟩; rw [← HZ.out]))
    | (go_at_call 107; (with_reducible refine (bit_any _ _).mono ?_); rintro e w' ⟨rfl, rfl⟩))
  go_ret
  exact ⟨ret_int (by rw [HY.out, fn, ← HP.out, ← HZ.out]; simp [fnK, bitI]), rfl⟩

set_option maxHeartbeats 1000000 in
set_option maxRecDepth 100000 in
theorem fun_k3 (l : List Int) (s : Value) (n c : Nat) (A : Option Addr) (hsv : s = .slice A n c) (w : World) (B : Nat) (hs : Vi w B s l) (hlen : l.length ≤ 1000) (hnn : 1 ≤ n) (b o : Nat) (hA : A = some ⟨b, o, none⟩) (hc0 : w.cell? ⟨b, o + 0, none⟩ = some (.int .i64 (l.getD 0 0))) :
    Calls Tryz.prog 101 #[.int .u8 3, s] w fun e w' => e = .returned (.int .i64 (fn 3 l)) ∧ w = w' := by
  obtain ⟨y, HY⟩ := named (fn 3 l)
  rw [← HY.out]
  have ha := cnt_le 1 l
  have hb := cnt_le 0 l
  obtain ⟨p, HP⟩ := named (cnt 1 l)
  obtain ⟨z, HZ⟩ := named (cnt 0 l)
  rw [← HP.out] at ha
  rw [← HZ.out] at hb
  have ha : p ≤ 1000 := by omega
  have hb : z ≤ 1000 := by omega
  have HS := Lib.hid hs
  clear hs hlen
  subst hsv
  subst hA
  obtain ⟨x0, HX0⟩ := named (l.getD 0 0)
  rw [← HX0.out] at hc0
  simp only [Nat.add_zero] at hc0
  by_cases hx : x0 = 1
  · have e : (x0 == 1) = true := by simpa using hx
    go_enter Tryz.func101, Tryz.ntmps101
    go_wp2_with (first
      | (go_at_call 106; first
        | ((with_reducible refine (count_any 1 l _ _ B HS.out).mono ?_); rintro e w' ⟨rfl, rfl⟩; rw [← HP.out])
        | ((with_reducible refine (count_any 0 l _ _ B HS.out).mono ?_); rintro e w' ⟨rfl, rfl⟩; rw [← HZ.out]))
      | (go_at_call 107; (with_reducible refine (bit_any _ _).mono ?_); rintro e w' ⟨rfl, rfl⟩))
    go_ret
    exact ⟨ret_int (by rw [HY.out, fn, ← HP.out, ← HZ.out]; simp only [fnK, ← HX0.out]; simp [bitI, hx]), rfl⟩
  · have e : (x0 == 1) = false := by simpa using hx
    go_enter Tryz.func101, Tryz.ntmps101
    go_wp2_with (first
      | (go_at_call 106; first
        | ((with_reducible refine (count_any 1 l _ _ B HS.out).mono ?_); rintro e w' ⟨rfl, rfl⟩; rw [← HP.out])
        | ((with_reducible refine (count_any 0 l _ _ B HS.out).mono ?_); rintro e w' ⟨rfl, rfl⟩; rw [← HZ.out]))
      | (go_at_call 107; (with_reducible refine (bit_any _ _).mono ?_); rintro e w' ⟨rfl, rfl⟩))
    go_ret
    exact ⟨ret_int (by rw [HY.out, fn, ← HP.out, ← HZ.out]; simp only [fnK, ← HX0.out]; simp [bitI, hx]), rfl⟩

set_option maxHeartbeats 1000000 in
set_option maxRecDepth 100000 in
theorem fun_k4 (l : List Int) (s : Value) (n c : Nat) (A : Option Addr) (hsv : s = .slice A n c) (w : World) (B : Nat) (hs : Vi w B s l) (hlen : l.length ≤ 1000) (hnn : 1 ≤ n) (b o : Nat) (hA : A = some ⟨b, o, none⟩) (hc0 : w.cell? ⟨b, o + 0, none⟩ = some (.int .i64 (l.getD 0 0))) :
    Calls Tryz.prog 101 #[.int .u8 4, s] w fun e w' => e = .returned (.int .i64 (fn 4 l)) ∧ w = w' := by
  obtain ⟨y, HY⟩ := named (fn 4 l)
  rw [← HY.out]
  have ha := cnt_le 1 l
  have hb := cnt_le 0 l
  obtain ⟨p, HP⟩ := named (cnt 1 l)
  obtain ⟨z, HZ⟩ := named (cnt 0 l)
  rw [← HP.out] at ha
  rw [← HZ.out] at hb
  have ha : p ≤ 1000 := by omega
  have hb : z ≤ 1000 := by omega
  have HS := Lib.hid hs
  clear hs hlen
  subst hsv
  subst hA
  obtain ⟨x0, HX0⟩ := named (l.getD 0 0)
  rw [← HX0.out] at hc0
  simp only [Nat.add_zero] at hc0
  by_cases hx : x0 = 1
  · have e : (x0 == 1) = true := by simpa using hx
    go_enter Tryz.func101, Tryz.ntmps101
    go_wp2_with (first
      | (go_at_call 106; first
        | ((with_reducible refine (count_any 1 l _ _ B HS.out).mono ?_); rintro e w' ⟨rfl, rfl⟩; rw [← HP.out])
        | ((with_reducible refine (count_any 0 l _ _ B HS.out).mono ?_); rintro e w' ⟨rfl, rfl⟩; rw [← HZ.out]))
      | (go_at_call 107; (with_reducible refine (bit_any _ _).mono ?_); rintro e w' ⟨rfl, rfl⟩))
    go_ret
    exact ⟨ret_int (by rw [HY.out, fn, ← HP.out, ← HZ.out]; simp only [fnK, ← HX0.out]; simp [bitI, hx]), rfl⟩
  · have e : (x0 == 1) = false := by simpa using hx
    go_enter Tryz.func101, Tryz.ntmps101
    go_wp2_with (first
      | (go_at_call 106; first
        | ((with_reducible refine (count_any 1 l _ _ B HS.out).mono ?_); rintro e w' ⟨rfl, rfl⟩; rw [← HP.out])
        | ((with_reducible refine (count_any 0 l _ _ B HS.out).mono ?_); rintro e w' ⟨rfl, rfl⟩; rw [← HZ.out]))
      | (go_at_call 107; (with_reducible refine (bit_any _ _).mono ?_); rintro e w' ⟨rfl, rfl⟩))
    go_ret
    exact ⟨ret_int (by rw [HY.out, fn, ← HP.out, ← HZ.out]; simp only [fnK, ← HX0.out]; simp [bitI, hx]), rfl⟩

set_option maxHeartbeats 1000000 in
set_option maxRecDepth 100000 in
theorem fun_k5 (l : List Int) (s : Value) (n c : Nat) (A : Option Addr) (hsv : s = .slice A n c) (w : World) (B : Nat) (hs : Vi w B s l) (hlen : l.length ≤ 1000) :
    Calls Tryz.prog 101 #[.int .u8 5, s] w fun e w' => e = .returned (.int .i64 (fn 5 l)) ∧ w = w' := by
  obtain ⟨y, HY⟩ := named (fn 5 l)
  rw [← HY.out]
  have ha := cnt_le 1 l
  have hb := cnt_le 0 l
  obtain ⟨p, HP⟩ := named (cnt 1 l)
  obtain ⟨z, HZ⟩ := named (cnt 0 l)
  rw [← HP.out] at ha
  rw [← HZ.out] at hb
  have ha : p ≤ 1000 := by omega
  have hb : z ≤ 1000 := by omega
  have HS := Lib.hid hs
  clear hs hlen
  subst hsv
  by_cases hz : z = 0
  · subst hz
    go_enter Tryz.func101, Tryz.ntmps101
    go_wp2_with (first
      | (go_at_call 106; first
        | ((with_reducible refine (count_any 1 l _ _ B HS.out).mono ?_); rintro e w' ⟨rfl, rfl⟩; rw [← HP.out])
        | ((with_reducible refine (count_any 0 l _ _ B HS.out).mono ?_); rintro e w' ⟨rfl, rfl⟩; rw [← HZ.out]))
      | (go_at_call 107; (with_reducible refine (bit_any _ _).mono ?_); rintro e w' ⟨rfl, rfl⟩))
    go_ret
    exact ⟨ret_int (by rw [HY.out, fn, ← HP.out, ← HZ.out]; simp [fnK, bitI]), rfl⟩
  · have e : ((z : Int) == 0) = false := by simp; omega
    have e2 : decide ((0 : Int) < (z : Int)) = true := by simp; omega
    have e3 : decide (0 < z) = true := by simp; omega
    have e4 : 0 < z := by omega
    go_enter Tryz.func101, Tryz.ntmps101
    go_wp2_with (first
      | (go_at_call 106; first
        | ((with_reducible refine (count_any 1 l _ _ B HS.out).mono ?_); rintro e w' ⟨rfl, rfl⟩; rw [← HP.out])
        | ((with_reducible refine (count_any 0 l _ _ B HS.out).mono ?_); rintro e w' ⟨rfl, rfl⟩; rw [← HZ.out]))
      | (go_at_call 107; (with_reducible refine (bit_any _ _).mono ?_); rintro e w' ⟨rfl, rfl⟩))
    go_ret
    exact ⟨ret_int (by rw [HY.out, fn, ← HP.out, ← HZ.out]; simp [fnK, bitI, hz, e4]), rfl⟩

set_option maxHeartbeats 1000000 in
set_option maxRecDepth 100000 in
theorem fun_k6 (l : List Int) (s : Value) (n c : Nat) (A : Option Addr) (hsv : s = .slice A n c) (w : World) (B : Nat) (hs : Vi w B s l) (hlen : l.length ≤ 1000) :
    Calls Tryz.prog 101 #[.int .u8 6, s] w fun e w' => e = .returned (.int .i64 (fn 6 l)) ∧ w = w' := by
  obtain ⟨y, HY⟩ := named (fn 6 l)
  rw [← HY.out]
  have ha := cnt_le 1 l
  have hb := cnt_le 0 l
  obtain ⟨p, HP⟩ := named (cnt 1 l)
  obtain ⟨z, HZ⟩ := named (cnt 0 l)
  rw [← HP.out] at ha
  rw [← HZ.out] at hb
  have ha : p ≤ 1000 := by omega
  have hb : z ≤ 1000 := by omega
  have HS := Lib.hid hs
  clear hs hlen
  subst hsv
  by_cases hz : z = 0
  · subst hz
    go_enter Tryz.func101, Tryz.ntmps101
    go_wp2_with (first
      | (go_at_call 106; first
        | ((with_reducible refine (count_any 1 l _ _ B HS.out).mono ?_); rintro e w' ⟨rfl, rfl⟩; rw [← HP.out])
        | ((with_reducible refine (count_any 0 l _ _ B HS.out).mono ?_); rintro e w' ⟨rfl, rfl⟩; rw [← HZ.out]))
      | (go_at_call 107; (with_reducible refine (bit_any _ _).mono ?_); rintro e w' ⟨rfl, rfl⟩))
    go_ret
    exact ⟨ret_int (by rw [HY.out, fn, ← HP.out, ← HZ.out]; simp [fnK, bitI]), rfl⟩
  · have e : ((z : Int) == 0) = false := by simp; omega
    have e2 : decide ((0 : Int) < (z : Int)) = true := by simp; omega
    have e3 : decide (0 < z) = true := by simp; omega
    have e4 : 0 < z := by omega
    go_enter Tryz.func101, Tryz.ntmps101
    go_wp2_with (first
      | (go_at_call 106; first
        | ((with_reducible refine (count_any 1 l _ _ B HS.out).mono ?_); rintro e w' ⟨rfl, rfl⟩; rw [← HP.out])
        | ((with_reducible refine (count_any 0 l _ _ B HS.out).mono ?_); rintro e w' ⟨rfl, rfl⟩; rw [← HZ.out]))
      | (go_at_call 107; (with_reducible refine (bit_any _ _).mono ?_); rintro e w' ⟨rfl, rfl⟩))
    go_ret
    exact ⟨ret_int (by rw [HY.out, fn, ← HP.out, ← HZ.out]; simp [fnK, bitI, hz, e4]), rfl⟩

set_option maxHeartbeats 1000000 in
set_option maxRecDepth 100000 in
theorem fun_k7 (l : List Int) (s : Value) (n c : Nat) (A : Option Addr) (hsv : s = .slice A n c) (w : World) (B : Nat) (hs : Vi w B s l) (hlen : l.length ≤ 1000) :
    Calls Tryz.prog 101 #[.int .u8 7, s] w fun e w' => e = .returned (.int .i64 (fn 7 l)) ∧ w = w' := by
  obtain ⟨y, HY⟩ := named (fn 7 l)
  rw [← HY.out]
  have ha := cnt_le 1 l
  have hb := cnt_le 0 l
  obtain ⟨p, HP⟩ := named (cnt 1 l)
  obtain ⟨z, HZ⟩ := named (cnt 0 l)
  rw [← HP.out] at ha
  rw [← HZ.out] at hb
  have ha : p ≤ 1000 := by omega
  have hb : z ≤ 1000 := by omega
  have HS := Lib.hid hs
  clear hs hlen
  subst hsv
  by_cases hz : p = 0
  · subst hz
    go_enter Tryz.func101, Tryz.ntmps101
    go_wp2_with (first
      | (go_at_call 106; first
        | ((with_reducible refine (count_any 1 l _ _ B HS.out).mono ?_); rintro e w' ⟨rfl, rfl⟩; rw [← HP.out])
        | ((with_reducible refine (count_any 0 l _ _ B HS.out).mono ?_); rintro e w' ⟨rfl, rfl⟩; rw [← HZ.out]))
      | (go_at_call 107; (with_reducible refine (bit_any _ _).mono ?_); rintro e w' ⟨rfl, rfl⟩))
    go_ret
    exact ⟨ret_int (by rw [HY.out, fn, ← HP.out, ← HZ.out]; simp [fnK, bitI]), rfl⟩
  · have e : ((p : Int) == 0) = false := by simp; omega
    have e2 : decide ((0 : Int) < (p : Int)) = true := by simp; omega
    have e3 : decide (0 < p) = true := by simp; omega
    have e4 : 0 < p := by omega
    go_enter Tryz.func101, Tryz.ntmps101
    go_wp2_with (first
      | (go_at_call 106; first
        | ((with_reducible refine (count_any 1 l _ _ B HS.out).mono ?_); rintro e w' ⟨rfl, rfl⟩; rw [← HP.out])
        | ((with_reducible refine (count_any 0 l _ _ B HS.out).mono ?_); rintro e w' ⟨rfl, rfl⟩; rw [← HZ.out]))
      | (go_at_call 107; (with_reducible refine (bit_any _ _).mono ?_); rintro e w' ⟨rfl, rfl⟩))
    go_ret
    exact ⟨ret_int (by rw [HY.out, fn, ← HP.out, ← HZ.out]; simp [fnK, bitI, hz, e4]), rfl⟩

set_option maxHeartbeats 1000000 in
set_option maxRecDepth 100000 in
theorem fun_k8 (l : List Int) (s : Value) (n c : Nat) (A : Option Addr) (hsv : s = .slice A n c) (w : World) (B : Nat) (hs : Vi w B s l) (hlen : l.length ≤ 1000) :
    Calls Tryz.prog 101 #[.int .u8 8, s] w fun e w' => e = .returned (.int .i64 (fn 8 l)) ∧ w = w' := by
  obtain ⟨y, HY⟩ := named (fn 8 l)
  rw [← HY.out]
  have ha := cnt_le 1 l
  have hb := cnt_le 0 l
  obtain ⟨p, HP⟩ := named (cnt 1 l)
  obtain ⟨z, HZ⟩ := named (cnt 0 l)
  rw [← HP.out] at ha
  rw [← HZ.out] at hb
  have ha : p ≤ 1000 := by omega
  have hb : z ≤ 1000 := by omega
  have HS := Lib.hid hs
  clear hs hlen
  subst hsv
  by_cases hz : p = 0
  · subst hz
    go_enter Tryz.func101, Tryz.ntmps101
    go_wp2_with (first
      | (go_at_call 106; first
        | ((with_reducible refine (count_any 1 l _ _ B HS.out).mono ?_); rintro e w' ⟨rfl, rfl⟩; rw [← HP.out])
        | ((with_reducible refine (count_any 0 l _ _ B HS.out).mono ?_); rintro e w' ⟨rfl, rfl⟩; rw [← HZ.out]))
      | (go_at_call 107; (with_reducible refine (bit_any _ _).mono ?_); rintro e w' ⟨rfl, rfl⟩))
    go_ret
    exact ⟨ret_int (by rw [HY.out, fn, ← HP.out, ← HZ.out]; simp [fnK, bitI]), rfl⟩
  · have e : ((p : Int) == 0) = false := by simp; omega
    have e2 : decide ((0 : Int) < (p : Int)) = true := by simp; omega
    have e3 : decide (0 < p) = true := by simp; omega
    have e4 : 0 < p := by omega
    go_enter Tryz.func101, Tryz.ntmps101
    go_wp2_with (first
      | (go_at_call 106; first
        | ((with_reducible refine (count_any 1 l _ _ B HS.out).mono ?_); rintro e w' ⟨rfl, rfl⟩; rw [← HP.out])
        | ((with_reducible refine (count_any 0 l _ _ B HS.out).mono ?_); rintro e w' ⟨rfl, rfl⟩; rw [← HZ.out]))
      | (go_at_call 107; (with_reducible refine (bit_any _ _).mono ?_); rintro e w' ⟨rfl, rfl⟩))
    go_ret
    exact ⟨ret_int (by rw [HY.out, fn, ← HP.out, ← HZ.out]; simp [fnK, bitI, hz, e4]), rfl⟩

set_option maxHeartbeats 1000000 in
set_option maxRecDepth 100000 in
theorem fun_k9 (l : List Int) (s : Value) (n c : Nat) (A : Option Addr) (hsv : s = .slice A n c) (w : World) (B : Nat) (hs : Vi w B s l) (hlen : l.length ≤ 1000) :
    Calls Tryz.prog 101 #[.int .u8 9, s] w fun e w' => e = .returned (.int .i64 (fn 9 l)) ∧ w = w' := by
  obtain ⟨y, HY⟩ := named (fn 9 l)
  rw [← HY.out]
  have ha := cnt_le 1 l
  have hb := cnt_le 0 l
  obtain ⟨p, HP⟩ := named (cnt 1 l)
  obtain ⟨z, HZ⟩ := named (cnt 0 l)
  rw [← HP.out] at ha
  rw [← HZ.out] at hb
  have ha : p ≤ 1000 := by omega
  have hb : z ≤ 1000 := by omega
  have HS := Lib.hid hs
  clear hs hlen
  subst hsv
  by_cases hm : p % 2 = 1
  · have e : (((p : Int) % 2) == 1) = true := by simp; omega
    go_enter Tryz.func101, Tryz.ntmps101
    go_wp2_with (first
      | (go_at_call 106; first
        | ((with_reducible refine (count_any 1 l _ _ B HS.out).mono ?_); rintro e w' ⟨rfl, rfl⟩; rw [← HP.out])
        | ((with_reducible refine (count_any 0 l _ _ B HS.out).mono ?_); rintro e w' ⟨rfl, rfl⟩; rw [← HZ.out]))
      | (go_at_call 107; (with_reducible refine (bit_any _ _).mono ?_); rintro e w' ⟨rfl, rfl⟩))
    go_ret
    exact ⟨ret_int (by rw [HY.out, fn, ← HP.out, ← HZ.out]; simp [fnK, bitI, hm]), rfl⟩
  · have e : (((p : Int) % 2) == 1) = false := by simp; omega
    go_enter Tryz.func101, Tryz.ntmps101
    go_wp2_with (first
      | (go_at_call 106; first
        | ((with_reducible refine (count_any 1 l _ _ B HS.out).mono ?_); rintro e w' ⟨rfl, rfl⟩; rw [← HP.out])
        | ((with_reducible refine (count_any 0 l _ _ B HS.out).mono ?_); rintro e w' ⟨rfl, rfl⟩; rw [← HZ.out]))
      | (go_at_call 107; (with_reducible refine (bit_any _ _).mono ?_); rintro e w' ⟨rfl, rfl⟩))
    go_ret
    exact ⟨ret_int (by rw [HY.out, fn, ← HP.out, ← HZ.out]; simp [fnK, bitI, hm]), rfl⟩

set_option maxHeartbeats 1000000 in
set_option maxRecDepth 100000 in
theorem fun_k10 (l : List Int) (s : Value) (n c : Nat) (A : Option Addr) (hsv : s = .slice A n c) (w : World) (B : Nat) (hs : Vi w B s l) (hlen : l.length ≤ 1000) :
    Calls Tryz.prog 101 #[.int .u8 10, s] w fun e w' => e = .returned (.int .i64 (fn 10 l)) ∧ w = w' := by
  obtain ⟨y, HY⟩ := named (fn 10 l)
  rw [← HY.out]
  have ha := cnt_le 1 l
  have hb := cnt_le 0 l
  obtain ⟨p, HP⟩ := named (cnt 1 l)
  obtain ⟨z, HZ⟩ := named (cnt 0 l)
  rw [← HP.out] at ha
  rw [← HZ.out] at hb
  have ha : p ≤ 1000 := by omega
  have hb : z ≤ 1000 := by omega
  have HS := Lib.hid hs
  clear hs hlen
  subst hsv
  by_cases hm : p % 2 = 1
  · have e : (((p : Int) % 2) == 1) = true := by simp; omega
    go_enter Tryz.func101, Tryz.ntmps101
    go_wp2_with (first
      | (go_at_call 106; first
        | ((with_reducible refine (count_any 1 l _ _ B HS.out).mono ?_); rintro e w' ⟨rfl, rfl⟩; rw [← HP.out])
        | ((with_reducible refine (count_any 0 l _ _ B HS.out).mono ?_); rintro e w' ⟨rfl, rfl⟩; rw [← HZ.out]))
      | (go_at_call 107; (with_reducible refine (bit_any _ _).mono ?_); rintro e w' ⟨rfl, rfl⟩))
    go_ret
    exact ⟨ret_int (by rw [HY.out, fn, ← HP.out, ← HZ.out]; simp [fnK, bitI, hm]), rfl⟩
  · have e : (((p : Int) % 2) == 1) = false := by simp; omega
    go_enter Tryz.func101, Tryz.ntmps101
    go_wp2_with (first
      | (go_at_call 106; first
        | ((with_reducible refine (count_any 1 l _ _ B HS.out).mono ?_); rintro e w' ⟨rfl, rfl⟩; rw [← HP.out])
        | ((with_reducible refine (count_any 0 l _ _ B HS.out).mono ?_); rintro e w' ⟨rfl, rfl⟩; rw [← HZ.out]))
      | (go_at_call 107; (with_reducible refine (bit_any _ _).mono ?_); rintro e w' ⟨rfl, rfl⟩))
    go_ret
    exact ⟨ret_int (by rw [HY.out, fn, ← HP.out, ← HZ.out]; simp [fnK, bitI, hm]), rfl⟩

set_option maxHeartbeats 1000000 in
set_option maxRecDepth 100000 in
theorem fun_k11 (l : List Int) (s : Value) (n c : Nat) (A : Option Addr) (hsv : s = .slice A n c) (w : World) (B : Nat) (hs : Vi w B s l) (hlen : l.length ≤ 1000) (hnn : 3 ≤ n) (b o : Nat) (hA : A = some ⟨b, o, none⟩) (hc0 : w.cell? ⟨b, o + 0, none⟩ = some (.int .i64 (l.getD 0 0))) (hc1 : w.cell? ⟨b, o + 1, none⟩ = some (.int .i64 (l.getD 1 0))) (hc2 : w.cell? ⟨b, o + 2, none⟩ = some (.int .i64 (l.getD 2 0))) :
    Calls Tryz.prog 101 #[.int .u8 11, s] w fun e w' => e = .returned (.int .i64 (fn 11 l)) ∧ w = w' := by
  obtain ⟨y, HY⟩ := named (fn 11 l)
  rw [← HY.out]
  have ha := cnt_le 1 l
  have hb := cnt_le 0 l
  obtain ⟨p, HP⟩ := named (cnt 1 l)
  obtain ⟨z, HZ⟩ := named (cnt 0 l)
  rw [← HP.out] at ha
  rw [← HZ.out] at hb
  have ha : p ≤ 1000 := by omega
  have hb : z ≤ 1000 := by omega
  have HS := Lib.hid hs
  clear hs hlen
  subst hsv
  subst hA
  obtain ⟨x0, HX0⟩ := named (l.getD 0 0)
  rw [← HX0.out] at hc0
  obtain ⟨x1, HX1⟩ := named (l.getD 1 0)
  rw [← HX1.out] at hc1
  obtain ⟨x2, HX2⟩ := named (l.getD 2 0)
  rw [← HX2.out] at hc2
  simp only [Nat.add_zero] at hc0
  by_cases hx : x0 = 0
  · have e : (x0 == 0) = true := by simpa using hx
    go_enter Tryz.func101, Tryz.ntmps101
    go_wp2_with (first
      | (go_at_call 106; first
        | ((with_reducible refine (count_any 1 l _ _ B HS.out).mono ?_); rintro e w' ⟨rfl, rfl⟩; rw [← HP.out])
        | ((with_reducible refine (count_any 0 l _ _ B HS.out).mono ?_); rintro e w' ⟨rfl, rfl⟩; rw [← HZ.out]))
      | (go_at_call 107; (with_reducible refine (bit_any _ _).mono ?_); rintro e w' ⟨rfl, rfl⟩))
    go_ret
    exact ⟨ret_int (by rw [HY.out, fn, ← HP.out, ← HZ.out]; simp only [fnK, ← HX0.out, ← HX1.out, ← HX2.out]; simp [bitI, hx]), rfl⟩
  · have e : (x0 == 0) = false := by simpa using hx
    go_enter Tryz.func101, Tryz.ntmps101
    go_wp2_with (first
      | (go_at_call 106; first
        | ((with_reducible refine (count_any 1 l _ _ B HS.out).mono ?_); rintro e w' ⟨rfl, rfl⟩; rw [← HP.out])
        | ((with_reducible refine (count_any 0 l _ _ B HS.out).mono ?_); rintro e w' ⟨rfl, rfl⟩; rw [← HZ.out]))
      | (go_at_call 107; (with_reducible refine (bit_any _ _).mono ?_); rintro e w' ⟨rfl, rfl⟩))
    go_ret
    exact ⟨ret_int (by rw [HY.out, fn, ← HP.out, ← HZ.out]; simp only [fnK, ← HX0.out, ← HX1.out, ← HX2.out]; simp [bitI, hx]), rfl⟩

set_option maxHeartbeats 1000000 in
set_option maxRecDepth 100000 in
theorem fun_k12 (l : List Int) (s : Value) (n c : Nat) (A : Option Addr) (hsv : s = .slice A n c) (w : World) (B : Nat) (hs : Vi w B s l) (hlen : l.length ≤ 1000) (hnn : 2 ≤ n) (b o : Nat) (hA : A = some ⟨b, o, none⟩) (hc0 : w.cell? ⟨b, o + 0, none⟩ = some (.int .i64 (l.getD 0 0))) (hc1 : w.cell? ⟨b, o + 1, none⟩ = some (.int .i64 (l.getD 1 0))) :
    Calls Tryz.prog 101 #[.int .u8 12, s] w fun e w' => e = .returned (.int .i64 (fn 12 l)) ∧ w = w' := by
  obtain ⟨y, HY⟩ := named (fn 12 l)
  rw [← HY.out]
  have ha := cnt_le 1 l
  have hb := cnt_le 0 l
  obtain ⟨p, HP⟩ := named (cnt 1 l)
  obtain ⟨z, HZ⟩ := named (cnt 0 l)
  rw [← HP.out] at ha
  rw [← HZ.out] at hb
  have ha : p ≤ 1000 := by omega
  have hb : z ≤ 1000 := by omega
  have HS := Lib.hid hs
  clear hs hlen
  subst hsv
  subst hA
  obtain ⟨x0, HX0⟩ := named (l.getD 0 0)
  rw [← HX0.out] at hc0
  obtain ⟨x1, HX1⟩ := named (l.getD 1 0)
  rw [← HX1.out] at hc1
  simp only [Nat.add_zero] at hc0
  by_cases hx : x0 = 0
  · have e : (x0 == 0) = true := by simpa using hx
    go_enter Tryz.func101, Tryz.ntmps101
    go_wp2_with (first
      | (go_at_call 106; first
        | ((with_reducible refine (count_any 1 l _ _ B HS.out).mono ?_); rintro e w' ⟨rfl, rfl⟩; rw [← HP.out])
        | ((with_reducible refine (count_any 0 l _ _ B HS.out).mono ?_); rintro e w' ⟨rfl, rfl⟩; rw [← HZ.out]))
      | (go_at_call 107; (with_reducible refine (bit_any _ _).mono ?_); rintro e w' ⟨rfl, rfl⟩))
    go_ret
    exact ⟨ret_int (by rw [HY.out, fn, ← HP.out, ← HZ.out]; simp only [fnK, ← HX0.out, ← HX1.out]; simp [bitI, hx]), rfl⟩
  · have e : (x0 == 0) = false := by simpa using hx
    go_enter Tryz.func101, Tryz.ntmps101
    go_wp2_with (first
      | (go_at_call 106; first
        | ((with_reducible refine (count_any 1 l _ _ B HS.out).mono ?_); rintro e w' ⟨rfl, rfl⟩; rw [← HP.out])
        | ((with_reducible refine (count_any 0 l _ _ B HS.out).mono ?_); rintro e w' ⟨rfl, rfl⟩; rw [← HZ.out]))
      | (go_at_call 107; (with_reducible refine (bit_any _ _).mono ?_); rintro e w' ⟨rfl, rfl⟩))
    go_ret
    exact ⟨ret_int (by rw [HY.out, fn, ← HP.out, ← HZ.out]; simp only [fnK, ← HX0.out, ← HX1.out]; simp [bitI, hx]), rfl⟩

set_option maxHeartbeats 1000000 in
set_option maxRecDepth 100000 in
theorem fun_k13 (l : List Int) (s : Value) (n c : Nat) (A : Option Addr) (hsv : s = .slice A n c) (w : World) (B : Nat) (hs : Vi w B s l) (hlen : l.length ≤ 1000) :
    Calls Tryz.prog 101 #[.int .u8 13, s] w fun e w' => e = .returned (.int .i64 (fn 13 l)) ∧ w = w' := by
  obtain ⟨y, HY⟩ := named (fn 13 l)
  rw [← HY.out]
  have ha := cnt_le 1 l
  have hb := cnt_le 0 l
  obtain ⟨p, HP⟩ := named (cnt 1 l)
  obtain ⟨z, HZ⟩ := named (cnt 0 l)
  rw [← HP.out] at ha
  rw [← HZ.out] at hb
  have ha : p ≤ 1000 := by omega
  have hb : z ≤ 1000 := by omega
  have HS := Lib.hid hs
  clear hs hlen
  subst hsv
  by_cases hp : p = 0
  · subst hp
    by_cases hz : z = 0
    · subst hz
      go_enter Tryz.func101, Tryz.ntmps101
      go_wp2_with (first
        | (go_at_call 106; first
          | ((with_reducible refine (count_any 1 l _ _ B HS.out).mono ?_); rintro e w' ⟨rfl, rfl⟩; rw [← HP.out])
          | ((with_reducible refine (count_any 0 l _ _ B HS.out).mono ?_); rintro e w' ⟨rfl, rfl⟩; rw [← HZ.out]))
        | (go_at_call 107; (with_reducible refine (bit_any _ _).mono ?_); rintro e w' ⟨rfl, rfl⟩))
      go_ret
      exact ⟨ret_int (by rw [HY.out, fn, ← HP.out, ← HZ.out]; simp [fnK, bitI]), rfl⟩
    · have z1 : decide ((0 : Int) < (z : Int)) = true := by simp; omega
      have z2 : 0 < z := by omega
      have z3 : decide (0 < z) = true := by simp; omega
      have s1 : ((z : Int) == 0) = false := by simp; omega
      go_enter Tryz.func101, Tryz.ntmps101
      go_wp2_with (first
        | (go_at_call 106; first
          | ((with_reducible refine (count_any 1 l _ _ B HS.out).mono ?_); rintro e w' ⟨rfl, rfl⟩; rw [← HP.out])
          | ((with_reducible refine (count_any 0 l _ _ B HS.out).mono ?_); rintro e w' ⟨rfl, rfl⟩; rw [← HZ.out]))
        | (go_at_call 107; (with_reducible refine (bit_any _ _).mono ?_); rintro e w' ⟨rfl, rfl⟩))
      go_ret
      exact ⟨ret_int (by rw [HY.out, fn, ← HP.out, ← HZ.out]; simp [fnK, bitI, hz, z2]), rfl⟩
  · have q1 : decide ((0 : Int) < (p : Int)) = true := by simp; omega
    have q2 : 0 < p := by omega
    have q3 : decide (0 < p) = true := by simp; omega
    by_cases hz : z = 0
    · subst hz
      have s1 : ((p : Int) == 0) = false := by simp; omega
      go_enter Tryz.func101, Tryz.ntmps101
      go_wp2_with (first
        | (go_at_call 106; first
          | ((with_reducible refine (count_any 1 l _ _ B HS.out).mono ?_); rintro e w' ⟨rfl, rfl⟩; rw [← HP.out])
          | ((with_reducible refine (count_any 0 l _ _ B HS.out).mono ?_); rintro e w' ⟨rfl, rfl⟩; rw [← HZ.out]))
        | (go_at_call 107; (with_reducible refine (bit_any _ _).mono ?_); rintro e w' ⟨rfl, rfl⟩))
      go_ret
      exact ⟨ret_int (by rw [HY.out, fn, ← HP.out, ← HZ.out]; simp [fnK, bitI, hp, q2]), rfl⟩
    · have z1 : decide ((0 : Int) < (z : Int)) = true := by simp; omega
      have z2 : 0 < z := by omega
      have z3 : decide (0 < z) = true := by simp; omega
      have s1 : (((p : Int) + (z : Int)) == 0) = false := by simp; omega
      go_enter Tryz.func101, Tryz.ntmps101
      go_wp2_with (first
        | (go_at_call 106; first
          | ((with_reducible refine (count_any 1 l _ _ B HS.out).mono ?_); rintro e w' ⟨rfl, rfl⟩; rw [← HP.out])
          | ((with_reducible refine (count_any 0 l _ _ B HS.out).mono ?_); rintro e w' ⟨rfl, rfl⟩; rw [← HZ.out]))
        | (go_at_call 107; (with_reducible refine (bit_any _ _).mono ?_); rintro e w' ⟨rfl, rfl⟩))
      go_ret
      exact ⟨ret_int (by rw [HY.out, fn, ← HP.out, ← HZ.out]; simp [fnK, bitI, hp, q2, hz, z2]), rfl⟩

end Go.Proofs.YtfcdhoaccmckoaaGreatDoor.Lg
