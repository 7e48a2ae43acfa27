/- The circuits of C: the plain side. -/
import Derived.Test.YtfcdhoaccmckoaaGreatDoorLev
namespace Go.Proofs.YtfcdhoaccmckoaaGreatDoor
open Go.RowKit

set_option maxHeartbeats 400000 in
theorem clip_any (A : Option Addr) (n c : Nat) (w : World) (hA : (A = none ∧ n = 0 ∧ c = 0) ∨ ∃ a : Addr, A = some a) (hn : n ≤ c) (hc : c ≤ maxLen) :
    Calls Tryz.prog 64 #[.slice A n c] w fun e w' => e = .returned (.slice A n n) ∧ w = w' := by
  unfold maxLen at hc
  rcases hA with ⟨rfl, rfl, rfl⟩ | ⟨a, rfl⟩
  · go_enter Tryz.func64, Tryz.ntmps64
    go_wp2
    go_ret
    exact ⟨rfl, rfl⟩
  · go_enter Tryz.func64, Tryz.ntmps64
    go_wp2
    go_ret
    exact ⟨rfl, rfl⟩

def U8At (w : World) (_B b p : Nat) (x : Int) : Prop := w.cell? ⟨b, p, none⟩ = some (.int .u8 x)
theorem stays_u8 : Stays U8At := fun w w' B B' b p x hb hB h hk => (hk ⟨b, p, none⟩ hb).trans h
def Ks (w : World) (B : Nat) (v : Value) (l : List Int) : Prop := Arr 0 1 U8At w B v l
theorem Ks.below {w w' : World} {B : Nat} {v : Value} {l : List Int} (h : Ks w B v l) (hb : Below B w w') : Ks w' B v l := Arr.keep stays_u8 h (Nat.le_refl _) fun _ hp => hb.cell hp
theorem Ks.opens {w : World} {B : Nat} {v : Value} {l : List Int} (h : Ks w B v l) : ∃ A b o c, v = .slice A l.length c ∧ (0 < l.length → A = some ⟨b, o, none⟩) ∧ l.length ≤ c ∧ l.length ≤ maxLen ∧ ∀ k, k < l.length → b < B ∧ w.cell? ⟨b, o + k, none⟩ = some (.int .u8 (l.getD k 0)) := by
  obtain ⟨A, b, o, c, h1, h2, h3, h4, h5⟩ := h
  exact ⟨A, b, o, c, h1, h2, h3, h4, fun k hk => ⟨(h5 k hk).1, by have := (h5 k hk).2; rw [Nat.mul_one] at this; exact this⟩⟩
def isK (kl : List Int) (x : Int) : Bool := anyP (fun y => x == y) kl

set_option maxHeartbeats 1000000 in
theorem indexK_any (x : Int) (l : List Int) (s : Value) (w : World) (B : Nat) (hs : Ks w B s l) :
    Calls Tryz.prog 87 #[s, .int .u8 x] w (IdxP (isK l x) w) := by
  obtain ⟨A, b, o, c, rfl, hA, -, hm, hc⟩ := hs.opens
  unfold maxLen at hm
  have HC := Lib.hid hc
  have HAA := Lib.hid hA
  clear hc hA hs
  obtain ⟨n, hn⟩ : ∃ n, n = l.length := ⟨_, rfl⟩
  rw [← hn] at hm
  rw [← hn]
  have HN := Lib.hid hn
  clear hn
  go_enter Tryz.func87, Tryz.ntmps87
  go_wp2
  go_loopw [8] (fun i wr => wr = w ∧ ∃ k : Nat, k ≤ n ∧ i = .int .i64 k ∧ ∀ j, j < k → (x == l.getD j 0) = false) (fun i _ => n - (intOf i).toNat)
  case atStart => exact ⟨rfl, 0, Nat.zero_le _, rfl, fun j hj => absurd hj (by omega)⟩
  case round =>
    obtain ⟨rfl, k, hk, rfl, hno⟩ := hrel
    have HNO := Lib.hid hno
    clear hno
    by_cases hlt : k < n
    · obtain rfl := HAA.out (by rw [← HN.out]; omega)
      have hcell := (HC.out k (by rw [← HN.out]; omega)).2
      obtain ⟨y, HX⟩ := named (l.getD k 0)
      rw [← HX.out] at hcell
      cases hv : x == y
      · have HV := Lib.hid hv
        go_wp2
        go_roundw
        case rel =>
          refine ⟨by trivial, k + 1, by omega, by go_num, fun j hj => ?_⟩
          by_cases hjk : j = k
          · rw [hjk, ← HX.out]; exact HV.out
          · exact HNO.out j (by omega)
        case measure => simp [intOf]; omega
      · have HV := Lib.hid hv
        go_wp2
        go_ret
        exact ⟨k, rfl, ⟨fun _ => anyP_yes k (by rw [← HN.out]; omega) (by rw [← HX.out]; exact HV.out), fun _ => by omega⟩, rfl⟩
    · go_wp2
      go_ret
      exact ⟨-1, rfl, ⟨fun h => absurd h (by omega), fun h => by rw [isK, anyP_no (fun j hj => HNO.out j (by rw [← HN.out] at hj; omega))] at h; cases h⟩, rfl⟩

set_option maxHeartbeats 400000 in
theorem containsK_any (x : Int) (l : List Int) (s : Value) (w : World) (B : Nat) (hs : Ks w B s l) :
    Calls Tryz.prog 70 #[s, .int .u8 x] w fun e w' => e = .returned (.bool (isK l x)) ∧ w = w' := by
  obtain ⟨y, HY⟩ := named (isK l x)
  rw [← HY.out]
  have HI := Lib.hid (indexK_any x l s w B hs)
  clear hs
  go_enter Tryz.func70, Tryz.ntmps70
  go_wp2_with (go_at_call 87; (with_reducible refine HI.out.mono ?_); rintro e w' ⟨i, rfl, hi, rfl⟩; have HI2 := Lib.hid hi; clear hi)
  go_ret
  exact ⟨ret_bool (by rw [HY.out]; exact Bool.eq_iff_iff.2 (by simpa using HI2.out)), rfl⟩

/-- The nodes of the given kinds among the first k. -/
def ofTo (nodes : List Nd) (kl : List Int) (k : Nat) : List Int := List.map (fun i : Nat => (i : Int)) (List.filter (fun i => isK kl (nodes.getD i default).kind) (List.range k))
theorem ofTo_succ (nodes : List Nd) (kl : List Int) (k : Nat) : ofTo nodes kl (k + 1) = ofTo nodes kl k ++ (if isK kl (nodes.getD k default).kind = true then [(k : Int)] else []) := by
  unfold ofTo
  rw [List.range_succ, List.filter_append, List.map_append]
  congr 1
  cases h : isK kl (nodes.getD k default).kind <;> (simp only [List.filter_cons, List.filter_nil, h]; rfl)
theorem ofTo_len (nodes : List Nd) (kl : List Int) (k : Nat) : (ofTo nodes kl k).length ≤ k := by
  unfold ofTo
  rw [List.length_map]
  have := List.length_filter_le (fun i => isK kl (nodes.getD i default).kind) (List.range k)
  simpa using this

theorem push_own {w wo w1 : World} {g : Nat} {sv v' : Value} {st : List Int} {x : Int} {o : Obj} (hg : g ≤ wo.heap.size) (hb : Below g w wo) (hstk : Stk wo g sv st)
    (hown : w1.ownsRow g 3 1 v' (st.length + 1) (st.map (Value.int .i64) ++ [.int .i64 x])) (hgr : (wo.alloc o).grownBy w1 sv.ownBlock) : Below g w w1 ∧ Stk w1 g v' (st ++ [x]) := by
  have hq : ∀ q, sv.ownBlock = some q → g ≤ q := fun q h => (World.ownsRow.lt hstk q h).1
  refine ⟨(hb.alloc hg o).grown hgr (by simp; omega) hq, ?_⟩
  unfold Stk
  rw [List.length_append, List.map_append]
  exact hown
/-- A stack reads as its list. -/
theorem Stk.reads {w : World} {g c : Nat} {A : Option Addr} {l : List Int} (h : Stk w g (.slice A l.length c) l) (k : Nat) (hk : l.length ≤ k) (hkm : l.length ≤ maxLen) : Is w w.heap.size (.slice A l.length k) l := by
  obtain ⟨A', c', e, -, -, hq⟩ := h.form
  simp only [Value.slice.injEq, true_and] at e
  obtain ⟨rfl, rfl⟩ := e
  by_cases h0 : 0 < l.length
  · obtain ⟨q, rfl, -, hlt⟩ := hq h0
    refine ⟨_, q, 0, k, rfl, fun _ => rfl, hk, hkm, fun j hj => ⟨hlt, ?_⟩⟩
    show World.cell? _ _ = _
    rw [Nat.zero_add, Nat.mul_one]
    exact h.cell hj
  · exact ⟨A, 0, 0, k, rfl, fun h => absurd h h0, hk, hkm, fun j hj => absurd hj (by omega)⟩
theorem Stk.shape {w : World} {g : Nat} {v : Value} {l : List Int} (h : Stk w g v l) : ∃ A c, v = .slice A l.length c ∧ l.length ≤ c ∧ c ≤ maxLen ∧ ((A = none ∧ l.length = 0 ∧ c = 0) ∨ ∃ a : Addr, A = some a) := by
  rcases h.2 with ⟨rfl, hn⟩ | ⟨g, cap, cur, rfl, hb, hg, hle, hm, -⟩
  · exact ⟨none, 0, by rw [hn], by omega, by simp, .inl ⟨rfl, hn, rfl⟩⟩
  · exact ⟨_, cap, rfl, hle, hm, .inr ⟨_, rfl⟩⟩

def OfPost (l : List Int) (w : World) (e : Ending) (w' : World) : Prop := ∃ A, e = .returned (.slice A l.length l.length) ∧ Is w' w'.heap.size (.slice A l.length l.length) l ∧ Below w.heap.size w w'

set_option maxHeartbeats 4000000 in
theorem of_any (c : Ck) (kl : List Int) (v s : Value) (w : World) (B : Nat) (hB : B ≤ w.heap.size) (hc : Cir w B v c) (hk : Ks w B s kl) (hsz : c.nodes.length ≤ 1000000) :
    Calls Tryz.prog 46 #[v, s] w (OfPost (ofTo c.nodes kl c.nodes.length) w) := by
  obtain ⟨v0, v1, v2, v3, rfl, hns, hss, hms, hos⟩ := hc
  obtain ⟨A0, b, o, c0, rfl, hA, -, -, hcell⟩ := id hns
  obtain ⟨A1, b1, o1, c1, rfl, -⟩ := id hss
  obtain ⟨A2, b2, o2, c2, rfl, -⟩ := id hms
  obtain ⟨A3, b3, o3, c3, rfl, -⟩ := id hos
  obtain ⟨As, bs, os, cs, rfl, -⟩ := id hk
  have hbW : Below w.heap.size w (w.alloc (.cells #[.slice A0 c.nodes.length c0, .slice A1 c.names.length c1, .slice A2 c.mems.length c2, .slice A3 c.outs.length c3] 35)) := (Below.refl _ _).alloc (Nat.le_refl _) _
  have HKS := Lib.hid hk
  have HCE := Lib.hid hcell
  have HAA := Lib.hid hA
  clear hns hss hms hos hk hcell hA
  generalize c.names.length = n1 at hbW ⊢
  generalize c.mems.length = n2 at hbW ⊢
  generalize c.outs.length = n3 at hbW ⊢
  obtain ⟨n, HN⟩ := named c.nodes.length
  rw [← HN.out] at hbW hsz
  rw [← HN.out]
  obtain ⟨W, HW⟩ := named (w.alloc (.cells #[.slice A0 n c0, .slice A1 n1 c1, .slice A2 n2 c2, .slice A3 n3 c3] 35))
  have hzW : W.heap.size = w.heap.size + 1 := by rw [HW.out]; simp
  rw [← HW.out] at hbW
  have HBW := Lib.hid hbW
  have HZW := Lib.hid hzW
  clear hbW hzW
  generalize kl.length = nk at HKS ⊢
  go_enter Tryz.func46, Tryz.ntmps46
  go_wp2
  go_loopw [11, 5] (fun i sv wr => ∃ k : Nat, k ≤ n ∧ i = .int .i64 k ∧ Below w.heap.size w wr ∧ w.heap.size ≤ wr.heap.size ∧ Stk wr w.heap.size sv (ofTo c.nodes kl k)) (fun i _ _ => n - (intOf i).toNat)
  case atStart => exact ⟨0, Nat.zero_le _, rfl, by rw [← HW.out]; exact HBW.out, by simp, Stk.nil _ _⟩
  case round =>
    obtain ⟨k, hk, rfl, hb, hg, hst⟩ := hrel
    obtain ⟨A6, c6, rfl, hle6, hc6, hsh⟩ := hst.shape
    have hol := ofTo_len c.nodes kl k
    by_cases hlt : k < n
    · obtain rfl := HAA.out (by rw [← HN.out]; omega)
      obtain ⟨hlb, s, h0, h1, h2, h3, h4, h5, -⟩ := HCE.out k (by rw [← HN.out]; exact hlt)
      obtain ⟨A4, b4, o4, c4, rfl, -⟩ := id h4
      have hsu := ofTo_succ c.nodes kl k
      have hlb' : b < w.heap.size := by omega
      have e0 := (hb.cell (p := ⟨b, o + k * 4, none⟩) hlb').trans h0
      have e1 := (hb.cell (p := ⟨b, o + k * 4 + 1, none⟩) hlb').trans h1
      have e2 := (hb.cell (p := ⟨b, o + k * 4 + 2, none⟩) hlb').trans h2
      have e3 := (hb.cell (p := ⟨b, o + k * 4 + 3, none⟩) hlb').trans h3
      clear h0 h1 h2 h3 h4
      generalize (c.nodes.getD k default).ins.length = ni at e1
      generalize (c.nodes.getD k default).mem = mm at e2
      generalize (c.nodes.getD k default).bit = bt at e3
      obtain ⟨kd, HKD⟩ := named (c.nodes.getD k default).kind
      rw [← HKD.out] at e0 hsu h5
      have hcon := containsK_any kd kl (.slice As nk cs) (wr.alloc (.cells #[.int .u8 kd, .slice A4 ni c4, .int .i64 mm, .int .i64 bt] 54)) B (HKS.out.below ((hb.alloc hg _).mono hB))
      have HST := Lib.hid hst
      have HB := Lib.hid hb
      have hb2 := hb.alloc hg (.cells #[.int .u8 kd, .slice A4 ni c4, .int .i64 mm, .int .i64 bt] 54)
      have hst2 : Stk (wr.alloc (.cells #[.int .u8 kd, .slice A4 ni c4, .int .i64 mm, .int .i64 bt] 54)) w.heap.size (.slice A6 (ofTo c.nodes kl k).length c6) (ofTo c.nodes kl k) := hst.below ((Below.refl _ _).alloc (Nat.le_refl _) _)
      have HB2 := Lib.hid hb2
      have HST2 := Lib.hid hst2
      clear hst hb hb2 hst2
      obtain ⟨L, HL⟩ := named (ofTo c.nodes kl k)
      rw [← HL.out] at hsu HST2 hol hle6 hsh
      rw [← HL.out]
      cases hv : isK kl kd
      · rw [hv] at hcon hsu
        rw [if_neg (by decide), List.append_nil] at hsu
        have HSU := Lib.hid hsu
        have HCON := Lib.hid hcon
        clear hcon hsu hv hsh
        go_wp2_with (go_at_call 70; (with_reducible refine HCON.out.mono ?_); rintro e w1 ⟨rfl, rfl⟩)
        go_roundw
        case rel =>
          refine ⟨k + 1, by omega, by go_num, HB2.out, by simp; omega, ?_⟩
          rw [HSU.out]; exact HST2.out
        case measure => simp [intOf]; omega
      · rw [hv] at hcon hsu
        rw [if_pos rfl] at hsu
        have HSU := Lib.hid hsu
        have HCON := Lib.hid hcon
        clear hcon hsu hv hsh
        obtain ⟨i1, hi1, hz0, hz1, hz2⟩ := info_parts info_int
        have HI := Lib.hid (And.intro hi1 (And.intro hz0 (And.intro hz1 hz2)))
        clear hi1 hz0 hz1 hz2
        go_wp2_with (first
          | (go_at_call 70; (with_reducible refine HCON.out.mono ?_); rintro e w1 ⟨rfl, rfl⟩)
          | (at_builtin; refine wpList_append_own_at _ rfl _ _ 33 rfl w.heap.size 3 i1 (.int .i64 0) 1 8 Tryz.underlying33 HI.out.1 HI.out.2.1 HI.out.2.2.1 HI.out.2.2.2 rfl (by decide) _ _ _ rfl (World.ownsRow.alloc HST2.out _) ⟨wr.heap.size + 1, 0, none⟩ 1 1 [.int .i64 (k : Int)] rfl rfl (by have := one_new (wr.alloc (.cells #[.int .u8 kd, .slice A4 ni c4, .int .i64 mm, .int .i64 bt] 54)) (.int .i64 (k : Int)) 3; simpa using this) (ints_oneCell .i64 [(k : Int)]) (by unfold maxLen; omega) (by omega) (by simp; omega) ?_; intro v' w2 hown' hgrow hnil hloc; have HF := Lib.hid (push_own (by simp; omega) HB2.out HST2.out hown' hgrow); have HZ := Lib.hid hgrow.size; clear hown' hgrow hnil hloc))
        go_roundw
        case rel =>
          refine ⟨k + 1, by omega, by go_num, HF.out.1, by have := HZ.out; simp at this; omega, ?_⟩
          rw [HSU.out]; exact HF.out.2
        case measure => simp [intOf]; omega
    · obtain rfl : n = k := by omega
      have hr := hst.reads _ (Nat.le_refl _) (by unfold maxLen; omega)
      have HR := Lib.hid hr
      have HB := Lib.hid hb
      have hclip := clip_any A6 (ofTo c.nodes kl n).length c6 wr hsh hle6 hc6
      obtain ⟨L, HL⟩ := named (ofTo c.nodes kl n)
      rw [← HL.out] at hclip HR
      rw [← HL.out]
      have HCL := Lib.hid hclip
      clear hr hb hst hclip hsh hle6
      go_wp2_with (go_at_call 64; (with_reducible refine HCL.out.mono ?_); rintro e w1 ⟨rfl, rfl⟩)
      go_ret
      rw [← HL.out]
      exact ⟨A6, rfl, HR.out, HB.out⟩

theorem Ks.one (w : World) (x : Int) (t : TypeId) {n : Nat} (hn : n = w.heap.size) : Ks (w.alloc (.cells #[.int .u8 x] t)) (w.alloc (.cells #[.int .u8 x] t)).heap.size (.slice (some ⟨n, 0, none⟩) 1 1) [x] := by
  subst hn
  refine ⟨_, w.heap.size, 0, 1, rfl, fun _ => rfl, by simp, by simp [maxLen], fun k hk => ?_⟩
  have hk0 : k = 0 := by simpa using hk
  subst hk0
  refine ⟨by simp, ?_⟩
  show World.cell? _ _ = _
  rw [World.cell?_alloc_at _ _ _ _ rfl]; rfl
theorem OfPost.from {l : List Int} {w0 w : World} {P : Program} {f : FuncId} {args : Array Value} (h : Calls P f args w (OfPost l w)) (hb : Below w0.heap.size w0 w) : Calls P f args w (OfPost l w0) :=
  h.mono fun _ _ ⟨A, he, hi, h'⟩ => ⟨A, he, hi, joinB hb h'⟩

set_option maxHeartbeats 1000000 in
theorem inputs_any (c : Ck) (v : Value) (w : World) (B : Nat) (hB : B ≤ w.heap.size) (hc : Cir w B v c) (hsz : c.nodes.length ≤ 1000000) :
    Calls Tryz.prog 20 #[v] w (OfPost (ofTo c.nodes [0] c.nodes.length) w) := by
  have hb0 := hc
  obtain ⟨v0, v1, v2, v3, rfl, hns, hss, hms, hos⟩ := hc
  obtain ⟨A0, b0, o0, c0, rfl, -⟩ := id hns
  obtain ⟨A1, b1, o1, c1, rfl, -⟩ := id hss
  obtain ⟨A2, b2, o2, c2, rfl, -⟩ := id hms
  obtain ⟨A3, b3, o3, c3, rfl, -⟩ := id hos
  obtain ⟨W, HW⟩ := named (w.alloc (.cells #[.slice A0 c.nodes.length c0, .slice A1 c.names.length c1, .slice A2 c.mems.length c2, .slice A3 c.outs.length c3] 35))
  have hbW : Below w.heap.size w W := by rw [HW.out]; exact (Below.refl _ _).alloc (Nat.le_refl _) _
  have hzW : W.heap.size = w.heap.size + 1 := by rw [HW.out]; simp
  have hbK : Below w.heap.size w (W.alloc (.cells #[.int .u8 0] 52)) := hbW.alloc hbW.size _
  have hL := OfPost.from (of_any c [0] _ (.slice (some ⟨w.heap.size + 1, 0, none⟩) 1 1) (W.alloc (.cells #[.int .u8 0] 52)) _ (Nat.le_refl _) ((hb0.below (hbK.mono hB)).more (Nat.le_trans hB hbK.size)) (Ks.one W 0 _ hzW.symm) hsz) hbK
  clear hns hss hms hos hb0 hbK hzW hbW
  generalize ofTo c.nodes [0] c.nodes.length = L at hL ⊢
  generalize c.nodes.length = n0 at hL HW ⊢
  generalize c.names.length = n1 at hL HW ⊢
  generalize c.mems.length = n2 at hL HW ⊢
  generalize c.outs.length = n3 at hL HW ⊢
  obtain rfl := HW.out
  have HL := Lib.hid hL
  clear hL HW
  go_enter Tryz.func20, Tryz.ntmps20
  go_wp2_with (go_at_call 46; (with_reducible refine HL.out.mono ?_); rintro e w1 ⟨A, rfl, hi, hb⟩; have HI := Lib.hid hi; have HB1 := Lib.hid hb; clear hi hb)
  go_ret
  exact ⟨A, rfl, HI.out, HB1.out⟩

set_option maxHeartbeats 1000000 in
theorem states_any (c : Ck) (v : Value) (w : World) (B : Nat) (hB : B ≤ w.heap.size) (hc : Cir w B v c) (hsz : c.nodes.length ≤ 1000000) :
    Calls Tryz.prog 21 #[v] w (OfPost (ofTo c.nodes [14] c.nodes.length) w) := by
  have hb0 := hc
  obtain ⟨v0, v1, v2, v3, rfl, hns, hss, hms, hos⟩ := hc
  obtain ⟨A0, b0, o0, c0, rfl, -⟩ := id hns
  obtain ⟨A1, b1, o1, c1, rfl, -⟩ := id hss
  obtain ⟨A2, b2, o2, c2, rfl, -⟩ := id hms
  obtain ⟨A3, b3, o3, c3, rfl, -⟩ := id hos
  obtain ⟨W, HW⟩ := named (w.alloc (.cells #[.slice A0 c.nodes.length c0, .slice A1 c.names.length c1, .slice A2 c.mems.length c2, .slice A3 c.outs.length c3] 35))
  have hbW : Below w.heap.size w W := by rw [HW.out]; exact (Below.refl _ _).alloc (Nat.le_refl _) _
  have hzW : W.heap.size = w.heap.size + 1 := by rw [HW.out]; simp
  have hbK : Below w.heap.size w (W.alloc (.cells #[.int .u8 14] 52)) := hbW.alloc hbW.size _
  have hL := OfPost.from (of_any c [14] _ (.slice (some ⟨w.heap.size + 1, 0, none⟩) 1 1) (W.alloc (.cells #[.int .u8 14] 52)) _ (Nat.le_refl _) ((hb0.below (hbK.mono hB)).more (Nat.le_trans hB hbK.size)) (Ks.one W 14 _ hzW.symm) hsz) hbK
  clear hns hss hms hos hb0 hbK hzW hbW
  generalize ofTo c.nodes [14] c.nodes.length = L at hL ⊢
  generalize c.nodes.length = n0 at hL HW ⊢
  generalize c.names.length = n1 at hL HW ⊢
  generalize c.mems.length = n2 at hL HW ⊢
  generalize c.outs.length = n3 at hL HW ⊢
  obtain rfl := HW.out
  have HL := Lib.hid hL
  clear hL HW
  go_enter Tryz.func21, Tryz.ntmps21
  go_wp2_with (go_at_call 46; (with_reducible refine HL.out.mono ?_); rintro e w1 ⟨A, rfl, hi, hb⟩; have HI := Lib.hid hi; have HB1 := Lib.hid hb; clear hi hb)
  go_ret
  exact ⟨A, rfl, HI.out, HB1.out⟩

end Go.Proofs.YtfcdhoaccmckoaaGreatDoor

namespace Go.Proofs.YtfcdhoaccmckoaaGreatDoor
open Go.RowKit

structure Gx where
  kind : Int
  i0 : Int
  i1 : Int
  i2 : Int
instance gxInh : Inhabited Gx := ⟨⟨0, 0, 0, 0⟩⟩
structure Cx where
  inN : Int
  dffs : Int
  d0 : Int
  d1 : Int
  bus : Bool
  mem : Bool
  p0 : Int
  p1 : Int
  p2 : Int
  p3 : Int
  gates : List Gx
  outs : List Int
def U8 (x : Int) : Prop := 0 ≤ x ∧ x ≤ 255
def Gok (g : Gx) : Prop := U8 g.kind ∧ U8 g.i0 ∧ U8 g.i1 ∧ U8 g.i2
structure Cok (x : Cx) : Prop where
  inN : U8 x.inN
  dffs : U8 x.dffs
  d0 : U8 x.d0
  d1 : U8 x.d1
  p0 : U8 x.p0
  p1 : U8 x.p1
  p2 : U8 x.p2
  p3 : U8 x.p3
  gates : ∀ k, k < x.gates.length → Gok (x.gates.getD k default)
  outs : ∀ k, k < x.outs.length → U8 (x.outs.getD k 0)

/-- The remainder, as a node's index. -/
def ix (a : Int) (n : Nat) : Int := a % (n : Int)
def kindG (bus : Bool) (k : Int) : Int := if bus = true then k % 13 else k % 9
def trisOf (nodes : List Nd) : List Int := ofTo nodes [12] nodes.length
def gateN (bus : Bool) (g : Gx) (nodes : List Nd) : Nd :=
  if kindG bus g.kind < 6 then ⟨5 + kindG bus g.kind, [ix g.i0 nodes.length, ix g.i1 nodes.length] ++ (if 128 ≤ g.kind then [ix g.i2 nodes.length] else []), 0, 0⟩
  else if kindG bus g.kind = 6 then ⟨4, [ix g.i0 nodes.length], 0, 0⟩
  else if kindG bus g.kind = 7 then ⟨11, [ix g.i0 nodes.length, ix g.i1 nodes.length, ix g.i2 nodes.length], 0, 0⟩
  else if kindG bus g.kind = 9 ∨ kindG bus g.kind = 10 then ⟨12, [ix g.i0 nodes.length, ix g.i1 nodes.length], 0, 0⟩
  else if 10 < kindG bus g.kind ∧ 0 < (trisOf nodes).length then
    ⟨13, [(trisOf nodes).getD (ix g.i0 (trisOf nodes).length).toNat 0] ++ (if 1 < (trisOf nodes).length then [(trisOf nodes).getD (ix (ix g.i0 (trisOf nodes).length + 1) (trisOf nodes).length).toNat 0] else []), 0, 0⟩
  else if 240 < g.kind then ⟨1 + g.i0 % 2, [], 0, 0⟩
  else ⟨3, [ix g.i0 nodes.length], 0, 0⟩
theorem kindG_ge (bus : Bool) (k : Int) : 0 ≤ kindG bus k ∧ kindG bus k < 13 := by
  unfold kindG; split <;> omega
theorem ix_lt (a : Int) {n : Nat} (h : 0 < n) : ∃ k : Nat, ix a n = (k : Int) ∧ k < n := by
  have h1 := Int.emod_nonneg a (show (n : Int) ≠ 0 by omega)
  have h2 := Int.emod_lt_of_pos a (show (0 : Int) < (n : Int) by omega)
  exact ⟨(ix a n).toNat, by unfold ix at *; omega, by unfold ix; omega⟩

section
variable {bus : Bool} {k i0 i1 i2 : Int} {nodes : List Nd} {n : Nat} {a b d : Int}
theorem gateN_lt (hn : n = nodes.length) (h : kindG bus k < 6) (h2 : ¬ 128 ≤ k) (ha : i0 % (n : Int) = a) (hb : i1 % (n : Int) = b) : gateN bus ⟨k, i0, i1, i2⟩ nodes = ⟨5 + kindG bus k, [a, b], 0, 0⟩ := by
  subst hn; unfold gateN ix; rw [if_pos h, if_neg h2, ha, hb]; rfl
theorem gateN_lt3 (hn : n = nodes.length) (h : kindG bus k < 6) (h2 : 128 ≤ k) (ha : i0 % (n : Int) = a) (hb : i1 % (n : Int) = b) (hd : i2 % (n : Int) = d) : gateN bus ⟨k, i0, i1, i2⟩ nodes = ⟨5 + kindG bus k, [a, b, d], 0, 0⟩ := by
  subst hn; unfold gateN ix; rw [if_pos h, if_pos h2, ha, hb, hd]; rfl
theorem gateN_not (hn : n = nodes.length) (h6 : ¬ kindG bus k < 6) (h7 : kindG bus k = 6) (ha : i0 % (n : Int) = a) : gateN bus ⟨k, i0, i1, i2⟩ nodes = ⟨4, [a], 0, 0⟩ := by
  subst hn; unfold gateN ix; rw [if_neg h6, if_pos h7, ha]
theorem gateN_mux (hn : n = nodes.length) (h6 : ¬ kindG bus k < 6) (h7 : ¬ kindG bus k = 6) (h8 : kindG bus k = 7) (ha : i0 % (n : Int) = a) (hb : i1 % (n : Int) = b) (hd : i2 % (n : Int) = d) : gateN bus ⟨k, i0, i1, i2⟩ nodes = ⟨11, [a, b, d], 0, 0⟩ := by
  subst hn; unfold gateN ix; rw [if_neg h6, if_neg h7, if_pos h8, ha, hb, hd]
theorem gateN_tri (hn : n = nodes.length) (h9 : kindG bus k = 9 ∨ kindG bus k = 10) (ha : i0 % (n : Int) = a) (hb : i1 % (n : Int) = b) : gateN bus ⟨k, i0, i1, i2⟩ nodes = ⟨12, [a, b], 0, 0⟩ := by
  subst hn; unfold gateN ix; rw [if_neg (show ¬ kindG bus k < 6 by omega), if_neg (show ¬ kindG bus k = 6 by omega), if_neg (show ¬ kindG bus k = 7 by omega), if_pos h9, ha, hb]
theorem gateN_bus1 (h10 : 10 < kindG bus k) {m : Nat} (hm : m = (trisOf nodes).length) (h0 : 0 < m) (h1 : ¬ 1 < m) {j : Nat} (hj : i0 % (m : Int) = (j : Int)) {x : Int} (hx : x = (trisOf nodes).getD j 0) : gateN bus ⟨k, i0, i1, i2⟩ nodes = ⟨13, [x], 0, 0⟩ := by
  subst hm; unfold gateN ix; rw [if_neg (show ¬ kindG bus k < 6 by omega), if_neg (show ¬ kindG bus k = 6 by omega), if_neg (show ¬ kindG bus k = 7 by omega), if_neg (show ¬ (kindG bus k = 9 ∨ kindG bus k = 10) by omega), if_pos ⟨h10, h0⟩, if_neg h1, hj, hx]; rfl
theorem gateN_bus2 (h10 : 10 < kindG bus k) {m : Nat} (hm : m = (trisOf nodes).length) (h1 : 1 < m) {j j' : Nat} (hj : i0 % (m : Int) = (j : Int)) (hj' : ((j : Int) + 1) % (m : Int) = (j' : Int)) {x y : Int} (hx : x = (trisOf nodes).getD j 0) (hy : y = (trisOf nodes).getD j' 0) : gateN bus ⟨k, i0, i1, i2⟩ nodes = ⟨13, [x, y], 0, 0⟩ := by
  subst hm; unfold gateN ix; rw [if_neg (show ¬ kindG bus k < 6 by omega), if_neg (show ¬ kindG bus k = 6 by omega), if_neg (show ¬ kindG bus k = 7 by omega), if_neg (show ¬ (kindG bus k = 9 ∨ kindG bus k = 10) by omega), if_pos ⟨h10, by omega⟩, if_pos h1, hj, hj', hx, hy]; rfl
theorem gateN_const (h6 : ¬ kindG bus k < 6) (h7 : ¬ kindG bus k = 6) (h8 : ¬ kindG bus k = 7) (h9 : ¬ kindG bus k = 9) (h9' : ¬ kindG bus k = 10) (h10 : ¬ (10 < kindG bus k ∧ 0 < (trisOf nodes).length)) (h : 240 < k) : gateN bus ⟨k, i0, i1, i2⟩ nodes = ⟨1 + i0 % 2, [], 0, 0⟩ := by
  unfold gateN; rw [if_neg h6, if_neg h7, if_neg h8, if_neg (show ¬ (kindG bus k = 9 ∨ kindG bus k = 10) by omega), if_neg h10, if_pos h]
theorem gateN_buf (hn : n = nodes.length) (h6 : ¬ kindG bus k < 6) (h7 : ¬ kindG bus k = 6) (h8 : ¬ kindG bus k = 7) (h9 : ¬ kindG bus k = 9) (h9' : ¬ kindG bus k = 10) (h10 : ¬ (10 < kindG bus k ∧ 0 < (trisOf nodes).length)) (h : ¬ 240 < k) (ha : i0 % (n : Int) = a) : gateN bus ⟨k, i0, i1, i2⟩ nodes = ⟨3, [a], 0, 0⟩ := by
  subst hn; unfold gateN ix; rw [if_neg h6, if_neg h7, if_neg h8, if_neg (show ¬ (kindG bus k = 9 ∨ kindG bus k = 10) by omega), if_neg h10, if_neg h, ha]
end

/-- The nodes before the gates. -/
def inputN : Nd := ⟨0, [], 0, 0⟩
def dffN (x : Int) : Nd := ⟨14, [x], 0, 0⟩
def firstN (x : Cx) : Nat := (x.inN % 4).toNat + 1
def dffsN (x : Cx) : Nat := (x.dffs % 3).toNat
def baseN (x : Cx) : List Nd := List.replicate (firstN x) inputN ++ List.replicate (dffsN x) (dffN 0) ++ (if x.mem = true then [⟨15, [], 0, 0⟩, ⟨15, [], 0, 1⟩] else [])
def gatesTo (x : Cx) : Nat → List Nd
  | 0 => baseN x
  | k + 1 => gatesTo x k ++ [gateN x.bus (x.gates.getD k default) (gatesTo x k)]
def gatesN (x : Cx) : Nat := min x.gates.length 8
def dataN (x : Cx) (i : Nat) : Int := if i = 0 then x.d0 else x.d1
/-- The flip-flops' data set, for the first k. -/
def dffTo (x : Cx) : Nat → List Nd
  | 0 => gatesTo x (gatesN x)
  | k + 1 => (dffTo x k).set (firstN x + k) (dffN (ix (dataN x k) (gatesTo x (gatesN x)).length))
def nodesN (x : Cx) : List Nd := dffTo x (dffsN x)
def sizeN (x : Cx) : Nat := (gatesTo x (gatesN x)).length
def memsN (x : Cx) : List Mm := if x.mem = true then [⟨[ix x.p0 (sizeN x)], [ix x.p1 (sizeN x), ix x.p2 (sizeN x)], ix x.p3 (sizeN x)⟩] else []
def digB (x : Nat) : UInt8 := UInt8.ofNat (48 + x)
def nameB (i : Nat) : ByteArray := ⟨#[110, digB (i / 10), digB (i % 10)]⟩
def outsN (x : Cx) : Nat := min x.outs.length 3
def outsTo (x : Cx) (k : Nat) : List Int := (List.range k).map fun i => ix (x.outs.getD i 0) (sizeN x)
/-- THE CIRCUIT of C. -/
def ofC (x : Cx) : Ck := ⟨nodesN x, (List.range (sizeN x)).map nameB, memsN x, outsTo x (outsN x) ++ [(sizeN x : Int) - 1]⟩

theorem gatesTo_len (x : Cx) : ∀ k, (gatesTo x k).length = (baseN x).length + k
  | 0 => rfl
  | k + 1 => by rw [gatesTo, List.length_append, gatesTo_len x k]; simp; omega
theorem baseN_len (x : Cx) : (baseN x).length = firstN x + dffsN x + (if x.mem = true then 2 else 0) := by
  unfold baseN
  rw [List.length_append, List.length_append, List.length_replicate, List.length_replicate]
  split <;> simp
theorem dffTo_len (x : Cx) : ∀ k, (dffTo x k).length = sizeN x
  | 0 => rfl
  | k + 1 => by rw [dffTo, List.length_set, dffTo_len x k]
theorem firstN_le (x : Cx) : 1 ≤ firstN x ∧ firstN x ≤ 4 := by unfold firstN; omega
theorem dffsN_le (x : Cx) : dffsN x ≤ 2 := by unfold dffsN; omega
theorem gatesN_le (x : Cx) : gatesN x ≤ 8 := by unfold gatesN; omega
theorem sizeN_le (x : Cx) : 1 ≤ sizeN x ∧ sizeN x ≤ 16 ∧ firstN x + dffsN x ≤ sizeN x := by
  have h1 := firstN_le x
  have h2 := dffsN_le x
  have h3 := gatesN_le x
  unfold sizeN
  rw [gatesTo_len, baseN_len]
  split <;> omega
theorem ofC_len (x : Cx) : (ofC x).nodes.length = sizeN x := dffTo_len x _
end Go.Proofs.YtfcdhoaccmckoaaGreatDoor
