/- The reference's Order. -/
import Derived.Test.YtfcdhoaccmckoaaGreatDoorLiv
import Derived.Test.YtfcdhoaccmckoaaGreatDoorRlp
import Derived.Test.YtfcdhoaccmckoaaGreatDoorRfl
import Derived.Test.YtfcdhoaccmckoaaGreatDoorExp
namespace Go.Proofs.YtfcdhoaccmckoaaGreatDoor
open Go.RowKit

/-- r is where s stands first, or -1. -/
def First (l : List ByteArray) (s : ByteArray) (r : Int) : Prop :=
  (r = -1 ∧ ∀ j : Nat, j < l.length → (s.toList == (l.getD j ByteArray.empty).toList) = false) ∨ ∃ k : Nat, k < l.length ∧ r = (k : Int) ∧ (s.toList == (l.getD k ByteArray.empty).toList) = true ∧ ∀ j : Nat, j < k → (s.toList == (l.getD j ByteArray.empty).toList) = false
theorem First.uniq {l : List ByteArray} {s : ByteArray} {r r' : Int} (h : First l s r) (h' : First l s r') : r = r' := by
  rcases h with ⟨rfl, h1⟩ | ⟨k, hk, rfl, h1, h2⟩ <;> rcases h' with ⟨rfl, h1'⟩ | ⟨k', hk', rfl, h1', h2'⟩
  · rfl
  · rw [h1 k' hk'] at h1'; cases h1'
  · rw [h1' k hk] at h1; cases h1
  · rcases Nat.lt_trichotomy k k' with h | h | h
    · rw [h2' k h] at h1; cases h1
    · rw [h]
    · rw [h2 k' h] at h1'; cases h1'
theorem First.ge {l : List ByteArray} {s : ByteArray} {r : Int} (h : First l s r) : -1 ≤ r ∧ r < l.length := by
  rcases h with ⟨rfl, _⟩ | ⟨k, hk, rfl, _⟩ <;> omega

theorem refComb_any (k : Int) (w : World) : Calls Tryz.prog 60 #[.int .u8 k] w fun e w' => e = .returned (.bool (cmb k)) ∧ w = w' := by
  obtain ⟨y, HY⟩ := named (cmb k)
  rw [← HY.out]
  by_cases h1 : 1 ≤ k
  all_goals
    go_enter Tryz.func60, Tryz.ntmps60
    go_wp2
    go_ret
    exact ⟨ret_bool (by rw [HY.out]; first | (simp [cmb, h1]; done) | (simp [cmb, h1]; omega)), rfl⟩

theorem nmb_cases (z : Int) : (nmb z = false ∧ (decide (z ≤ 32) = true ∨ (decide (z ≤ 32) = false ∧ decide (126 < z) = true) ∨ (decide (z ≤ 32) = false ∧ decide (126 < z) = false ∧ (z == 40) = true) ∨ (decide (z ≤ 32) = false ∧ decide (126 < z) = false ∧ (z == 40) = false ∧ (z == 41) = true) ∨
      (decide (z ≤ 32) = false ∧ decide (126 < z) = false ∧ (z == 40) = false ∧ (z == 41) = false ∧ (z == 61) = true) ∨ (decide (z ≤ 32) = false ∧ decide (126 < z) = false ∧ (z == 40) = false ∧ (z == 41) = false ∧ (z == 61) = false ∧ (z == 44) = true) ∨
      (decide (z ≤ 32) = false ∧ decide (126 < z) = false ∧ (z == 40) = false ∧ (z == 41) = false ∧ (z == 61) = false ∧ (z == 44) = false ∧ (z == 35) = true))) ∨
    (nmb z = true ∧ decide (z ≤ 32) = false ∧ decide (126 < z) = false ∧ (z == 40) = false ∧ (z == 41) = false ∧ (z == 61) = false ∧ (z == 44) = false ∧ (z == 35) = false) := by
  by_cases h1 : z ≤ 32
  · refine .inl ⟨?_, .inl (by simp [h1])⟩
    simp [nmb]; omega
  · by_cases h2 : 126 < z
    · refine .inl ⟨?_, .inr (.inl ⟨by simp [h1], by simp [h2]⟩)⟩
      simp [nmb]; omega
    · by_cases h3 : z = 40
      · subst h3; simp [nmb]
      · by_cases h4 : z = 41
        · subst h4; simp [nmb]
        · by_cases h5 : z = 61
          · subst h5; simp [nmb]
          · by_cases h6 : z = 44
            · subst h6; simp [nmb]
            · by_cases h7 : z = 35
              · subst h7; simp [nmb]
              · refine .inr ⟨?_, by simp [h1], by simp [h2], by simp [h3], by simp [h4], by simp [h5], by simp [h6], by simp [h7]⟩
                simp [nmb, h3, h4, h5, h6, h7]; omega

/-- What the search from behind keeps: r is where s stands first from k on, or -1. -/
def From (l : List ByteArray) (s : ByteArray) (k : Nat) (r : Int) : Prop :=
  (r = -1 ∧ ∀ j : Nat, k ≤ j → j < l.length → (s.toList == (l.getD j ByteArray.empty).toList) = false) ∨ ∃ m : Nat, k ≤ m ∧ m < l.length ∧ r = (m : Int) ∧ (s.toList == (l.getD m ByteArray.empty).toList) = true ∧ ∀ j : Nat, k ≤ j → j < m → (s.toList == (l.getD j ByteArray.empty).toList) = false
theorem From.first {l : List ByteArray} {s : ByteArray} {r : Int} (h : From l s 0 r) : First l s r := by
  rcases h with ⟨h1, h2⟩ | ⟨m, _, h1, h2, h3, h4⟩
  · exact .inl ⟨h1, fun j hj => h2 j (Nat.zero_le _) hj⟩
  · exact .inr ⟨m, h1, h2, h3, fun j hj => h4 j (Nat.zero_le _) hj⟩
theorem From.no {l : List ByteArray} {s : ByteArray} {r : Int} {k : Nat} (h : From l s (k + 1) r) (hk : (s.toList == (l.getD k ByteArray.empty).toList) = false) : From l s k r := by
  rcases h with ⟨h1, h2⟩ | ⟨m, h0, h1, h2, h3, h4⟩
  · refine .inl ⟨h1, fun j hj hl => ?_⟩
    by_cases e : j = k
    · rw [e]; exact hk
    · exact h2 j (by omega) hl
  · refine .inr ⟨m, by omega, h1, h2, h3, fun j hj hm => ?_⟩
    by_cases e : j = k
    · rw [e]; exact hk
    · exact h4 j (by omega) hm
theorem From.yes {l : List ByteArray} {s : ByteArray} {k : Nat} (hl : k < l.length) (hk : (s.toList == (l.getD k ByteArray.empty).toList) = true) : From l s k (k : Int) :=
  .inr ⟨k, Nat.le_refl _, hl, rfl, hk, fun j h1 h2 => by omega⟩

end Go.Proofs.YtfcdhoaccmckoaaGreatDoor

namespace Go.Proofs.YtfcdhoaccmckoaaGreatDoor
open Go.RowKit

/-- What stands while the reference's Levels runs. -/
structure RW (w : World) (vs : List Value) (wr : World) (out : List Int) : Prop where
  bel : Below w.heap.size w wr
  box : Fr wr w.heap.size 35 vs
  row : Row wr (w.heap.size + 1) out
section
variable {w wr w1 : World} {vs : List Value} {out : List Int}
theorem RW.next (h : RW w vs wr out) (hb : Below wr.heap.size wr w1) : RW w vs w1 out := ⟨joinB h.bel hb, h.box.below hb, h.row.below hb⟩
theorem RW.set (h : RW w vs wr out) (j : Nat) (x : Int) : RW w vs (wr.setCell ⟨w.heap.size + 1, j, none⟩ (.int .i64 x)) (out.set j x) :=
  ⟨h.bel.setCell (Nat.le_succ _) _, h.box.other (by show w.heap.size + 1 ≠ w.heap.size; omega) _, h.row.set j x⟩
theorem RW.drewN (h : RW w vs wr out) (n : Nat) : RW w vs (wr.drewN n) out := h.next (below_drewN (Below.refl _ _) n)
end
/-- Bounded by b. -/
def Bd (l : List Int) (b : Nat) : Prop := ∀ i : Nat, lat l i ≤ (b : Int)
theorem Bd.zero (n : Nat) : Bd (List.replicate n 0) 0 := fun i => by
  unfold lat; rw [List.getD_eq_getElem?_getD, List.getElem?_replicate]; split <;> exact Int.le_refl _
theorem Bd.pin {s : List Int × Bool} {b k : Nat} (h : Bd s.1 b) {x : Int} (hx : 0 ≤ x) : Bd (rpin k s x).1 (b + 1) := fun i => by
  have h1 := h i
  have h2 := h x.toNat
  rw [lat_nat _ hx] at h2
  unfold rpin
  split
  · show lat (s.1.set k _) i ≤ _
    rw [lat_set _ (by omega)]
    split <;> omega
  · omega
theorem Bd.le {l : List Int} {b b' : Nat} (h : Bd l b) (hb : b ≤ b') : Bd l b' := fun i => by have := h i; omega
theorem getD_in {l : List Int} {k : Nat} (h : k < l.length) : l.getD k 0 ∈ l := by
  rw [List.getD_eq_getElem?_getD, List.getElem?_eq_getElem h]; exact List.getElem_mem h
def RLev (c : Ck) (w : World) (e : Ending) (w' : World) : Prop :=
  Below w.heap.size w w' ∧ ((∃ L, Lvl c.nodes L ∧ e = .returned (.tuple #[.slice (some ⟨w.heap.size + 1, 0, none⟩) c.nodes.length c.nodes.length, .bool true]) ∧ Row w' (w.heap.size + 1) L)
    ∨ ((¬ ∃ L, Lvl c.nodes L) ∧ e = .returned (.tuple #[.slice none 0 0, .bool false])))

theorem made_zero (n : Nat) : (madeCells #[Value.int .i64 0] n).toList = (List.replicate n 0).map (Value.int .i64) := by
  rw [fillL_start (fun _ => .int .i64 0), ← fillL_end 0 (.int .i64 0) n]
  unfold fillL
  simp
set_option maxRecDepth 100000 in
set_option maxHeartbeats 8000000 in
theorem rlev_any (c : Ck) (v : Value) (w : World) (B : Nat) (hB : B ≤ w.heap.size) (hc : Cir w B v c) (hw : Wf c.nodes) (hsz : c.nodes.length ≤ 1000000) (hpn : ∀ k, k < c.nodes.length → (c.nodes.getD k default).ins.length ≤ 100) :
    Calls Tryz.prog 73 #[v] w (RLev c w) := by
  obtain ⟨v0, v1, v2, v3, rfl, hns, hss, hms, hos⟩ := hc
  obtain ⟨A0, b, o, c0, rfl, hA, -, -, hcell⟩ := id hns
  obtain ⟨A1, b1, o1, c1, rfl, -⟩ := id hss
  obtain ⟨A2, b2, o2, c2, rfl, -⟩ := id hms
  obtain ⟨A3, b3, o3, c3, rfl, -⟩ := id hos
  have hbW : Below w.heap.size w (w.alloc (.cells #[.slice A0 c.nodes.length c0, .slice A1 c.names.length c1, .slice A2 c.mems.length c2, .slice A3 c.outs.length c3] 35)) := (Below.refl _ _).alloc (Nat.le_refl _) _
  have hfr : Fr (w.alloc (.cells #[.slice A0 c.nodes.length c0, .slice A1 c.names.length c1, .slice A2 c.mems.length c2, .slice A3 c.outs.length c3] 35)) w.heap.size 35 [.slice A0 c.nodes.length c0, .slice A1 c.names.length c1, .slice A2 c.mems.length c2, .slice A3 c.outs.length c3] := Fr.made w _ _ rfl
  have HCE := Lib.hid hcell
  have HAA := Lib.hid hA
  have HWF := Lib.hid hw
  have HPN := Lib.hid hpn
  clear hns hss hms hos hcell hA hw hpn
  generalize c.names.length = n1 at hbW hfr ⊢
  generalize c.mems.length = n2 at hbW hfr ⊢
  generalize c.outs.length = n3 at hbW hfr ⊢
  obtain ⟨n, HN⟩ := named c.nodes.length
  rw [← HN.out] at hbW hsz hfr
  rw [← HN.out]
  obtain ⟨W, HW⟩ := named (w.alloc (.cells #[.slice A0 n c0, .slice A1 n1 c1, .slice A2 n2 c2, .slice A3 n3 c3] 35))
  have hzW : W.heap.size = w.heap.size + 1 := by rw [HW.out]; simp
  rw [← HW.out] at hbW hfr
  have x0 : W.cell? ⟨w.heap.size, 0, none⟩ = some (.slice A0 n c0) := hfr.cell 0
  have HBW := Lib.hid hbW
  have HZW := Lib.hid hzW
  have HFR := Lib.hid hfr
  have HX0 := Lib.hid x0
  clear hbW hzW hfr x0
  obtain ⟨NP, HNP⟩ := named (n * 100)
  have hNP : NP ≤ 100000000 := by rw [HNP.out]; omega
  obtain ⟨i0, hi, hz0, hz1, hz2⟩ := info_parts info_int
  have HI := Lib.hid (And.intro hi (And.intro hz0 (And.intro hz1 hz2)))
  clear hi hz0 hz1 hz2
  go_enter Tryz.func73, Tryz.ntmps73
  go_wp2_with (at_make; refine wpList_make_full _ rfl _ _ 33 rfl (w.heap.size + 1) 3 i0 (.int .i64 0) 1 Tryz.underlying33 HI.out.1 HI.out.2.1 HI.out.2.2.1 .i64 .i64 _ _ n rfl rfl rfl rfl ?b2 ?b3 ?b4 ?_)
  case b2 => rw [HI.out.2.2.2]; omega
  case b3 => unfold maxLen; omega
  case b4 => simp
  intro w2 hown hgr
  have hrow : Row w2 (w.heap.size + 1) (List.replicate n 0) := by
    unfold Row
    rw [List.length_replicate, ← made_zero]
    exact hown
  rw [← HW.out] at hgr
  have hst : RW w [.slice A0 n c0, .slice A1 n1 c1, .slice A2 n2 c2, .slice A3 n3 c3] w2 (List.replicate n 0) :=
    ⟨HBW.out.grown hgr HBW.out.size (fun k h => by cases h), HFR.out.kept hgr (by simp), hrow⟩
  have HST := Lib.hid hst
  clear hown hgr hrow hst
  go_wp2
  go_loopw [5] (fun i wr => ∃ (k : Nat) (out : List Int), i = .int .i64 k ∧ k ≤ n + 1 ∧ RW w [.slice A0 n c0, .slice A1 n1 c1, .slice A2 n2 c2, .slice A3 n3 c3] wr out ∧ RO c.nodes k out ∧ ((∃ L, Lvl c.nodes L) → k ≤ n) ∧ Bd out (k * NP)) (fun i _ => n + 1 - (intOf i).toNat)
  case atStart => exact ⟨0, _, rfl, by omega, HST.out, by rw [HN.out]; exact RO.start _, fun _ => Nat.zero_le _, (Bd.zero n).le (Nat.zero_le _)⟩
  case round =>
    clear HST
    obtain ⟨k, out, rfl, hk, hst, hro, hmore, hbd⟩ := hrel
    have y0 : wr.cell? ⟨w.heap.size, 0, none⟩ = some (.slice A0 n c0) := hst.box.cell 0
    have HRO := Lib.hid hro
    have HBD := Lib.hid hbd
    obtain ⟨KN, HKN⟩ := named (k * NP)
    have hKN : KN ≤ 1000001 * 100000000 := by rw [HKN.out]; exact Nat.mul_le_mul (by omega) hNP
    rw [← HKN.out] at HBD
    clear hbd
    have HMO := Lib.hid hmore
    have HS := Lib.hid hst
    clear hro hmore hst
    by_cases hkn : k ≤ n
    · go_wp2
      clear y0
      go_loopw [6, 7] (fun a i wx => ∃ (j : Nat) (s : List Int × Bool), i = .int .i64 j ∧ j ≤ n ∧ a = .bool s.2 ∧ RW w [.slice A0 n c0, .slice A1 n1 c1, .slice A2 n2 c2, .slice A3 n3 c3] wx s.1 ∧ RI c.nodes out j [] s ∧ Bd s.1 (KN + j * 100)) (fun _ i _ => n - (intOf i).toNat)
      case atStart => exact ⟨0, _, rfl, Nat.zero_le _, rfl, HS.out, HRO.out.begin, HBD.out.le (Nat.le_add_right _ _)⟩
      case round =>
        clear HS
        obtain ⟨j, ⟨lv, ag⟩, rfl, hj, rfl, hst, hri, hbj⟩ := hrel
        dsimp only at hst hri hbj ⊢
        have HBJ := Lib.hid hbj
        have y0 : wr.cell? ⟨w.heap.size, 0, none⟩ = some (.slice A0 n c0) := hst.box.cell 0
        have HS := Lib.hid hst
        have HRI := Lib.hid hri
        by_cases hjn : j < n
        · obtain rfl := HAA.out (by rw [← HN.out]; omega)
          obtain ⟨hlb, s5, h0, h1, h2, h3, h4, -⟩ := HCE.out j (by rw [← HN.out]; exact hjn)
          obtain ⟨A5, b5, o5, c5, rfl, hA5, -, hm5, hc5⟩ := h4.opens
          have hb0 : ∀ (p : Nat), wr.cell? ⟨b, p, none⟩ = w.cell? ⟨b, p, none⟩ := fun p => hst.bel.cell (p := ⟨b, p, none⟩) (by show b < w.heap.size; omega)
          rw [← hb0] at h0 h1 h2 h3
          have hlbr : b < wr.heap.size := by have := hst.bel.size; omega
          have HDEP : Hid (dep c.nodes (j : Int) = if cmb (c.nodes.getD j default).kind = true then (c.nodes.getD j default).ins else []) := Lib.hid rfl
          have hkd : ∃ y, cmb (c.nodes.getD j default).kind = y := ⟨_, rfl⟩
          obtain ⟨y, hy⟩ := hkd
          obtain ⟨kd, HKD⟩ := named (c.nodes.getD j default).kind
          obtain ⟨mm, HMM⟩ := named (c.nodes.getD j default).mem
          obtain ⟨bt, HBT⟩ := named (c.nodes.getD j default).bit
          rw [← HKD.out] at h0 hy HDEP
          rw [← HMM.out] at h2
          rw [← HBT.out] at h3
          obtain ⟨li, HLI⟩ := named (c.nodes.getD j default).ins
          rw [← HLI.out] at h1 hA5 hm5 hc5 HDEP
          obtain ⟨ni, HNI⟩ := named li.length
          rw [← HNI.out] at h1 hA5 hm5 hc5
          unfold maxLen at hm5
          have HC5 := Lib.hid hc5
          have HA5 := Lib.hid hA5
          have HY := Lib.hid hy
          have hrc := fun W => refComb_any kd W
          rw [hy] at hrc
          have HRC := Lib.hid hrc
          have hni : ni ≤ 100 := by rw [HNI.out, HLI.out]; exact HPN.out j (by rw [← HN.out]; exact hjn)
          clear hst hri hbj h4 hb0 hy hc5 hA5 hrc
          go_wp2
          obtain ⟨q8, HQ8⟩ := named wr.heap.size
          rw [← HQ8.out]
          have hst8 : RW w [.slice (some ⟨b, o, none⟩) n c0, .slice A1 n1 c1, .slice A2 n2 c2, .slice A3 n3 c3] (wr.alloc (.cells #[.int .u8 kd, .slice A5 ni c5, .int .i64 mm, .int .i64 bt] 54)) lv := HS.out.next (below_new (Below.refl _ _) _)
          have hfr8 : Fr (wr.alloc (.cells #[.int .u8 kd, .slice A5 ni c5, .int .i64 mm, .int .i64 bt] 54)) q8 54 [.int .u8 kd, .slice A5 ni c5, .int .i64 mm, .int .i64 bt] := by rw [HQ8.out]; exact Fr.made wr _ _ rfl
          have hq8 : w.heap.size + 1 < q8 := by rw [HQ8.out]; exact HS.out.row.lt
          have HS8 := Lib.hid hst8
          have HF8 := Lib.hid hfr8
          clear hst8 hfr8 HS y0 h0 h1 h2 h3
          go_loopw [6, 9] (fun a i wx => ∃ (m : Nat) (s : List Int × Bool), i = .int .i64 m ∧ m ≤ ni ∧ (y = false → m = 0) ∧ a = .bool s.2 ∧ RW w [.slice (some ⟨b, o, none⟩) n c0, .slice A1 n1 c1, .slice A2 n2 c2, .slice A3 n3 c3] wx s.1 ∧ Fr wx q8 54 [.int .u8 kd, .slice A5 ni c5, .int .i64 mm, .int .i64 bt] ∧ RI c.nodes out j (li.take m) s ∧ Bd s.1 (KN + j * 100 + m)) (fun _ i _ => ni - (intOf i).toNat)
          case atStart => exact ⟨0, (lv, ag), rfl, Nat.zero_le _, fun _ => rfl, rfl, HS8.out, HF8.out, HRI.out, HBJ.out⟩
          case round =>
            clear HS8 HF8 HRI HBJ
            obtain ⟨m, ⟨lm, am⟩, rfl, hm, hm0, rfl, hst, hfr, hri, hbm⟩ := hrel
            dsimp only at hst hfr hri hbm ⊢
            have y0 : wr.cell? ⟨w.heap.size, 0, none⟩ = some (.slice (some ⟨b, o, none⟩) n c0) := hst.box.cell 0
            have z0 : wr.cell? ⟨q8, 0, none⟩ = some (.int .u8 kd) := hfr.cell 0
            have z1 : wr.cell? ⟨q8, 1, none⟩ = some (.slice A5 ni c5) := hfr.cell 1
            have HS := Lib.hid hst
            have HRI := Lib.hid hri
            have HBM := Lib.hid hbm
            have HFR8 := Lib.hid hfr
            cases y
            · obtain rfl : m = 0 := hm0 rfl
              have hnx := (show RI c.nodes out j (dep c.nodes j) (lm, am) by rw [HDEP.out, HY.out, if_neg (by decide)]; exact hri).next
              have HNX := Lib.hid hnx
              clear hst hfr hri hbm hnx hm0
              by_cases hn0 : 0 < ni
              · go_wp2_with (go_at_call 60; (with_reducible refine (HRC.out _).mono ?_); rintro e w3 ⟨rfl, rfl⟩)
                go_roundw
                case rel => exact ⟨j + 1, (lm, am), by go_num, by omega, rfl, HS.out, HNX.out, HBM.out.le (by omega)⟩
                case measure => simp [intOf]; omega
              · go_wp2
                go_roundw
                case rel => exact ⟨j + 1, (lm, am), by go_num, by omega, rfl, HS.out, HNX.out, HBM.out.le (by omega)⟩
                case measure => simp [intOf]; omega
            · by_cases hmn : m < ni
              · obtain rfl := HA5.out (by omega)
                obtain ⟨hlb5, z2⟩ := HC5.out m hmn
                have hmem : li.getD m 0 ∈ dep c.nodes j := by rw [HDEP.out, HY.out, if_pos rfl]; exact getD_in (by rw [← HNI.out]; exact hmn)
                have hxb := HWF.out.dep (i := (j : Int)) (by rw [← HN.out]; simpa using hjn) hmem
                have hlt : li.take (m + 1) = li.take m ++ [li.getD m 0] := take_succ_getD li m (by rw [← HNI.out]; exact hmn)
                have hri' : RI c.nodes out j (li.take (m + 1)) (rpin j (lm, am) (li.getD m 0)) := by rw [hlt]; exact hri.pin HWF.out (by rw [← HN.out]; exact hjn) hmem
                have hbm' : Bd (rpin j (lm, am) (li.getD m 0)).1 (KN + j * 100 + m + 1) := hbm.pin hxb.1
                obtain ⟨x, HX⟩ := named (li.getD m 0)
                rw [← HX.out] at z2 hxb hri' hbm'
                obtain ⟨xn, rfl⟩ : ∃ xn : Nat, x = (xn : Int) := ⟨x.toNat, by omega⟩
                have z2' : wr.cell? ⟨b5, o5 + m, none⟩ = some (.int .i64 (xn : Int)) := (hst.bel.cell (p := ⟨b5, o5 + m, none⟩) (by show b5 < w.heap.size; omega)).trans z2
                have hxn : xn < n := by rw [HN.out]; omega
                have hlen : lm.length = n := by rw [HN.out]; exact hri.len
                have z3 := hst.row.cell (j := j) (by rw [hlen]; exact hjn)
                have z4 := hst.row.cell (j := xn) (by rw [hlen]; exact hxn)
                have z5 := hst.row.frozen j
                have hl0 := hri.pos xn
                have hl1 := hbm xn
                have hl2 := hri.pos j
                have hl3 := hbm j
                unfold rpin at hri' hbm'
                dsimp only at hri' hbm' hl0 hl1 hl2 hl3
                obtain ⟨lx, HLX⟩ := named (lat lm xn)
                obtain ⟨lj, HLJ⟩ := named (lat lm j)
                rw [← HLX.out] at z4 hl0 hl1 hri' hbm'
                rw [← HLJ.out] at z3 hl2 hl3 hri' hbm'
                have hj10 : KN + j * 100 + m ≤ 10000000000000000 := by omega
                have HRI' := Lib.hid hri'
                have HBM' := Lib.hid hbm'
                have HJ := Lib.hid hjn
                clear hst hfr hri hbm hm0 hri' hbm' hmem hlt hlen z2 HRI HBM
                by_cases hup : lj < lx + 1
                · have hri2 := HRI'.out
                  have hbm2 := HBM'.out
                  rw [if_pos hup] at hri2 hbm2
                  have HRI2 := Lib.hid hri2
                  have HBM2 := Lib.hid hbm2
                  clear hri2 hbm2 HRI' HBM'
                  go_wp2_with (go_at_call 60; (with_reducible refine (HRC.out _).mono ?_); rintro e w3 ⟨rfl, rfl⟩)
                  go_quiet (fail)
                  go_wp2
                  go_roundw
                  case rel => exact ⟨m + 1, _, by go_num, by omega, (fun h => by cases h), rfl, (HS.out.drewN nq).set j (lx + 1), ((HFR8.out.below (below_drewN (Below.refl _ _) nq)).other (by show w.heap.size + 1 ≠ q8; omega) _), HRI2.out, HBM2.out⟩
                  case measure => simp [intOf]; omega
                · have hri2 := HRI'.out
                  have hbm2 := HBM'.out
                  rw [if_neg hup] at hri2 hbm2
                  have HRI2 := Lib.hid hri2
                  have HBM2 := Lib.hid hbm2
                  clear hri2 hbm2 HRI' HBM'
                  go_wp2_with (go_at_call 60; (with_reducible refine (HRC.out _).mono ?_); rintro e w3 ⟨rfl, rfl⟩)
                  go_quiet (fail)
                  go_wp2
                  go_roundw
                  case rel => exact ⟨m + 1, _, by go_num, by omega, (fun h => by cases h), rfl, HS.out.drewN nq, HFR8.out.below (below_drewN (Below.refl _ _) nq), HRI2.out, HBM2.out⟩
                  case measure => simp [intOf]; omega
              · obtain rfl : ni = m := by omega
                have hnx := (show RI c.nodes out j (dep c.nodes j) (lm, am) by rw [HDEP.out, HY.out, if_pos rfl, ← List.take_length (l := li), ← HNI.out]; exact hri).next
                have HNX := Lib.hid hnx
                clear hst hfr hri hbm hnx hm0
                go_wp2
                go_roundw
                case rel => exact ⟨j + 1, (lm, am), by go_num, by omega, rfl, HS.out, HNX.out, HBM.out.le (by omega)⟩
                case measure => simp [intOf]; omega
        · obtain rfl : n = j := by omega
          clear hst hri hbj
          cases ag
          · go_wp2
            go_ret2
            refine ⟨HS.out.bel, .inl ⟨lv, ?_, ?_, HS.out.row⟩⟩
            · exact RO.stop HWF.out (by rw [← HN.out]; exact HRI.out) rfl
            · rw [← HN.out]; rfl
          · go_wp2
            go_roundw
            case rel =>
              refine ⟨k + 1, lv, by go_num, by omega, HS.out, RO.next HWF.out HRO.out (s := (lv, true)) (by rw [← HN.out]; exact HRI.out), fun hL => ?_, ?_⟩
              · have := RO.more HWF.out HRO.out (s := (lv, true)) (by rw [← HN.out]; exact HRI.out) rfl hL
                rw [HN.out]; exact this
              · refine HBJ.out.le ?_
                rw [Nat.succ_mul, ← HKN.out, HNP.out]; omega
            case measure => simp [intOf]; omega
    · obtain rfl : k = n + 1 := by omega
      have hno : ¬ ∃ L, Lvl c.nodes L := fun h => by have := HMO.out h; omega
      have HNO := Lib.hid hno
      have HB := Lib.hid HS.out.bel
      clear HMO hno
      go_wp2
      go_ret2
      exact ⟨HB.out, .inr ⟨HNO.out, rfl⟩⟩
end Go.Proofs.YtfcdhoaccmckoaaGreatDoor

namespace Go.Proofs.YtfcdhoaccmckoaaGreatDoor
open Go.RowKit

theorem ordTo_done {L : List Int} {n m : Nat} (h : (ordTo L n m).length = n) (hm : m ≤ n) (hL : ∀ i : Nat, i < n → 0 ≤ lat L i ∧ lat L i < (n : Int)) : ordTo L n m = ordTo L n n := by
  have hs : (ordTo L n m).Sublist (ordTo L n n) := sorted_sub (r := Lex L) (fun _ _ _ h h' => Lex.trans h h') Lex.irr (ordTo_sorted L n m) (ordTo_sorted L n n) fun x hx => by
    obtain ⟨i, rfl, h1, h2, h3⟩ := ordTo_mem.1 hx
    exact ordTo_mem.2 ⟨i, rfl, h1, h2, by omega⟩
  exact hs.eq_of_length_le (by rw [h]; exact ordTo_len L n n)

/-- What stands while the reference's Order runs. -/
structure OO (w : World) (vs : List Value) (g T : Nat) (L : List Int) (wr : World) (sv : Value) (l : List Int) : Prop where
  bel : Below w.heap.size w wr
  box : Fr wr w.heap.size 35 vs
  row : Row wr g L
  stk : Stk wr T sv l
  hg : g < T
  hw : w.heap.size < T
  hT : T ≤ wr.heap.size
theorem OO.push {w wr w1 : World} {vs : List Value} {g T : Nat} {L l : List Int} {sv v' : Value} {x : Int} {o : Obj} (h : OO w vs g T L wr sv l) (hown : w1.ownsRow T 3 1 v' (l.length + 1) (l.map (Value.int .i64) ++ [.int .i64 x])) (hgr : (wr.alloc o).grownBy w1 sv.ownBlock) : OO w vs g T L w1 v' (l ++ [x]) := by
  have hlt := World.ownsRow.lt h.stk
  have h1 := h.hg
  have h2 := h.hw
  have hq : ∀ q, sv.ownBlock = some q → T ≤ q := fun q e => (hlt q e).1
  have h3 := h.hT
  refine ⟨(below_new h.bel o).grown hgr (by simp; have := h.bel.size; omega) (fun q e => by have := hq q e; omega), ?_, (h.row.kept (World.grownBy_alloc wr o none) (by simp)).kept hgr (fun e => by have := hq g e.symm; omega), ?_, h1, h2, by have := hgr.size; simp at this; omega⟩
  · exact (h.box.alloc o).kept hgr (fun e => by have := hq _ e.symm; omega)
  · unfold Stk
    rw [List.length_append, List.map_append]
    exact hown

set_option maxRecDepth 100000 in
set_option maxHeartbeats 8000000 in
theorem rord_any (c : Ck) (v : Value) (w : World) (B : Nat) (hB : B ≤ w.heap.size) (hc : Cir w B v c) (hw : Wf c.nodes) (hsz : c.nodes.length ≤ 1000000) (hpn : ∀ k, k < c.nodes.length → (c.nodes.getD k default).ins.length ≤ 100) (L : List Int) (hL : Lvl c.nodes L) :
    Calls Tryz.prog 59 #[v] w fun e w' => (∃ s, e = .returned s ∧ Is w' w'.heap.size s (ordTo L c.nodes.length c.nodes.length)) ∧ Below w.heap.size w w' := by
  have hb0 := hc
  obtain ⟨v0, v1, v2, v3, rfl, hns, hss, hms, hos⟩ := hc
  obtain ⟨A0, b, o, c0, rfl, -⟩ := id hns
  obtain ⟨A1, b1, o1, c1, rfl, -⟩ := id hss
  obtain ⟨A2, b2, o2, c2, rfl, -⟩ := id hms
  obtain ⟨A3, b3, o3, c3, rfl, -⟩ := id hos
  have hbW : Below w.heap.size w (w.alloc (.cells #[.slice A0 c.nodes.length c0, .slice A1 c.names.length c1, .slice A2 c.mems.length c2, .slice A3 c.outs.length c3] 35)) := (Below.refl _ _).alloc (Nat.le_refl _) _
  have hfr : Fr (w.alloc (.cells #[.slice A0 c.nodes.length c0, .slice A1 c.names.length c1, .slice A2 c.mems.length c2, .slice A3 c.outs.length c3] 35)) w.heap.size 35 [.slice A0 c.nodes.length c0, .slice A1 c.names.length c1, .slice A2 c.mems.length c2, .slice A3 c.outs.length c3] := Fr.made w _ _ rfl
  have hlv := rlev_any c _ _ B (Nat.le_trans hB hbW.size) (hb0.below (hbW.mono hB)) hw hsz hpn
  have hbnd : ∀ i : Nat, i < c.nodes.length → 0 ≤ lat L i ∧ lat L i < (c.nodes.length : Int) := fun i hi => ⟨hL.nonneg hi, hL.bound hw hi⟩
  have hlv2 := hlv.mono (R' := fun e w' => e = .returned (.tuple #[.slice (some ⟨w.heap.size + 1 + 1, 0, none⟩) c.nodes.length c.nodes.length, .bool true]) ∧ Row w' (w.heap.size + 1 + 1) L ∧ Below (w.alloc (.cells #[.slice A0 c.nodes.length c0, .slice A1 c.names.length c1, .slice A2 c.mems.length c2, .slice A3 c.outs.length c3] 35)).heap.size (w.alloc (.cells #[.slice A0 c.nodes.length c0, .slice A1 c.names.length c1, .slice A2 c.mems.length c2, .slice A3 c.outs.length c3] 35)) w') fun e w' ⟨h1, h2⟩ => by
    rcases h2 with ⟨L', h3, h4, h5⟩ | ⟨h3, -⟩
    · have e1 : L' = L := h3.unique hw hL
      rw [e1] at h5
      have hz : (w.alloc (.cells #[.slice A0 c.nodes.length c0, .slice A1 c.names.length c1, .slice A2 c.mems.length c2, .slice A3 c.outs.length c3] 35)).heap.size = w.heap.size + 1 := by simp
      rw [hz] at h4 h5
      exact ⟨h4, h5, h1⟩
    · exact absurd ⟨L, hL⟩ h3
  have hlen : L.length = c.nodes.length := hL.1
  clear hlv hns hss hms hos hb0 hw hpn hL
  generalize c.names.length = n1 at hbW hfr hlv2 ⊢
  generalize c.mems.length = n2 at hbW hfr hlv2 ⊢
  generalize c.outs.length = n3 at hbW hfr hlv2 ⊢
  obtain ⟨n, HN⟩ := named c.nodes.length
  rw [← HN.out] at hbW hsz hfr hlv2 hbnd hlen
  rw [← HN.out]
  have HLV := Lib.hid hlv2
  have HBW := Lib.hid hbW
  have HFR := Lib.hid hfr
  have HBD := Lib.hid hbnd
  have HLN := Lib.hid hlen
  clear hlv2 hbW hfr hbnd hlen
  obtain ⟨i1, hi1, hz0, hz1, hz2⟩ := info_parts info_int
  have HI := Lib.hid (And.intro hi1 (And.intro hz0 (And.intro hz1 hz2)))
  clear hi1 hz0 hz1 hz2
  go_enter Tryz.func59, Tryz.ntmps59
  go_wp2_with (go_at_call 73; (with_reducible refine HLV.out.mono ?_); rintro e w1 ⟨rfl, hr, hb⟩; have HR := Lib.hid hr; have HB := Lib.hid hb; clear hr hb)
  obtain ⟨T, HT⟩ := named w1.heap.size
  obtain ⟨g, HG⟩ := named (w.heap.size + 1 + 1)
  have hR := HR.out
  rw [← HG.out] at hR
  rw [← HG.out]
  have hst : OO w [.slice A0 n c0, .slice A1 n1 c1, .slice A2 n2 c2, .slice A3 n3 c3] g T L w1 (.slice none 0 0) [] :=
    ⟨joinB HBW.out HB.out, HFR.out.below HB.out, hR, Stk.nil _ _, by rw [HT.out]; exact hR.lt, by have := hR.lt; rw [HT.out]; rw [HG.out] at this; omega, by rw [HT.out]; exact Nat.le_refl _⟩
  have HST := Lib.hid hst
  clear hst hR HR HB
  go_wp2
  go_loopw [5, 6] (fun sv i wr => ∃ m : Nat, i = .int .i64 m ∧ m ≤ n ∧ OO w [.slice A0 n c0, .slice A1 n1 c1, .slice A2 n2 c2, .slice A3 n3 c3] g T L wr sv (ordTo L n m)) (fun _ i _ => n - (intOf i).toNat)
  case atStart => exact ⟨0, rfl, Nat.zero_le _, HST.out⟩
  case round =>
    clear HST
    obtain ⟨m, rfl, hm, hst⟩ := hrel
    have y0 : wr.cell? ⟨w.heap.size, 0, none⟩ = some (.slice A0 n c0) := hst.box.cell 0
    have hol := ordTo_len L n m
    have hfull : m = n → (ordTo L n m).length = n := fun e => by rw [e]; exact ordTo_full HBD.out
    obtain ⟨A, cA, rfl, -⟩ := hst.stk.form
    have HS := Lib.hid hst
    have HF := Lib.hid hfull
    obtain ⟨k0, HK0⟩ := named (ordTo L n m).length
    rw [← HK0.out] at hol HS
    rw [← HK0.out]
    clear hst hfull
    by_cases hlt : k0 < n
    · have hmn : m < n := by
        by_cases e : m = n
        · have := HF.out e; have := HK0.out; omega
        · omega
      go_wp2
      clear y0
      go_loopw [5, 7] (fun sv i wx => ∃ k : Nat, i = .int .i64 k ∧ k ≤ n ∧ OO w [.slice A0 n c0, .slice A1 n1 c1, .slice A2 n2 c2, .slice A3 n3 c3] g T L wx sv (ordTo L n m ++ atLv L m k)) (fun _ i _ => n - (intOf i).toNat)
      case atStart => exact ⟨0, rfl, Nat.zero_le _, by simpa [atLv] using HS.out⟩
      case round =>
        clear HS
        obtain ⟨k, rfl, hk, hst⟩ := hrel
        have y0 : wr.cell? ⟨w.heap.size, 0, none⟩ = some (.slice A0 n c0) := hst.box.cell 0
        have hol2 : (ordTo L n m ++ atLv L m k).length ≤ 2000000 := by rw [List.length_append, ← HK0.out]; have := atLv_len L m k; omega
        obtain ⟨A2', cA2, rfl, -⟩ := hst.stk.form
        have hsu := atLv_succ L m k
        have hTl := hst.hT
        by_cases hkn : k < n
        · have z := hst.row.cell (j := k) (by rw [HLN.out]; exact hkn)
          obtain ⟨lk, HLK⟩ := named (lat L k)
          rw [← HLK.out] at z hsu
          have HSTK := Lib.hid hst.stk
          have HS := Lib.hid hst
          have HSU := Lib.hid hsu
          obtain ⟨l2, HL2⟩ := named (ordTo L n m ++ atLv L m k)
          rw [← HL2.out] at HSTK HS hol2
          rw [← HL2.out]
          clear hst hsu
          cases hv : lk == (m : Int)
          · have hsu := HSU.out
            rw [hv, if_neg (by decide)] at hsu
            have HSU2 := Lib.hid hsu
            clear hsu HSU
            go_wp2
            go_roundw
            case rel => exact ⟨k + 1, by go_num, by omega, by rw [HSU2.out, ← HL2.out]; exact HS.out⟩
            case measure => simp [intOf]; omega
          · have hsu := HSU.out
            rw [hv, if_pos rfl] at hsu
            have HSU2 := Lib.hid hsu
            clear hsu HSU
            go_wp2_with (at_builtin; refine wpList_append_own_at _ rfl _ _ 33 rfl T 3 i1 (.int .i64 0) 1 8 Tryz.underlying33 HI.out.1 HI.out.2.1 HI.out.2.2.1 HI.out.2.2.2 rfl (by decide) _ _ _ rfl (World.ownsRow.alloc HSTK.out _) ⟨wr.heap.size, 0, none⟩ 1 1 [.int .i64 (k : Int)] rfl rfl (one_new _ _ _) (ints_oneCell .i64 [(k : Int)]) (by unfold maxLen; omega) (by omega) (by simp; omega) ?_; intro v' w2 hown' hgrow hnil hloc; have HF2 := Lib.hid (HS.out.push hown' hgrow); clear hown' hgrow hnil hloc)
            go_roundw
            case rel => exact ⟨k + 1, by go_num, by omega, by rw [HSU2.out, ← List.append_assoc, ← HL2.out]; exact HF2.out⟩
            case measure => simp [intOf]; omega
        · obtain rfl : n = k := by omega
          have HS := Lib.hid hst
          clear hst hsu
          go_wp2
          go_roundw
          case rel => exact ⟨m + 1, by go_num, by omega, HS.out⟩
          case measure => simp [intOf]; omega
    · have hd := ordTo_done (L := L) (n := n) (m := m) (by rw [← HK0.out]; omega) hm HBD.out
      have hr : Is wr wr.heap.size (.slice A k0 cA) (ordTo L n m) := by have h := HS.out.stk; rw [HK0.out] at h ⊢; exact h.all (by rw [← HK0.out]; unfold maxLen; omega)
      rw [hd] at hr
      have HR := Lib.hid hr
      have HB := Lib.hid HS.out.bel
      clear hd hr HS
      go_wp2
      go_ret
      exact ⟨⟨_, rfl, HR.out⟩, HB.out⟩
def seenL (n : Nat) (l : List Int) : List Bool := (List.range n).map fun (j : Nat) => decide ((j : Int) ∈ l)
theorem seenL_len (n : Nat) (l : List Int) : (seenL n l).length = n := by simp [seenL]
theorem seenL_get {n : Nat} {l : List Int} {j : Nat} (h : j < n) : (seenL n l)[j]? = some (decide ((j : Int) ∈ l)) := by simp [seenL, h]
theorem seenL_set {n : Nat} {l : List Int} {y : Nat} : (seenL n l).set y true = seenL n (l ++ [(y : Int)]) := by
  apply List.ext_getElem?
  intro j
  by_cases hj : j < n
  · rw [List.getElem?_set, seenL_get hj, seenL_get hj, seenL_len]
    by_cases e : y = j
    · subst e; rw [if_pos rfl, if_pos hj]; simp
    · rw [if_neg e]
      have h1 : ((j : Int) ∈ l ++ [(y : Int)]) ↔ (j : Int) ∈ l := by
        rw [List.mem_append, List.mem_singleton]
        constructor
        · rintro (h | h)
          · exact h
          · omega
        · exact .inl
      rw [decide_eq_decide.2 h1]
  · rw [List.getElem?_eq_none (by simp [seenL_len]; omega), List.getElem?_eq_none (by simp [seenL_len]; omega)]
theorem seenL_nil (n : Nat) : seenL n [] = List.replicate n false := by
  apply List.ext_getElem?
  intro j
  by_cases hj : j < n
  · rw [seenL_get hj]; simp [hj]
  · rw [List.getElem?_eq_none (by simp [seenL_len]; omega), List.getElem?_eq_none (by simp; omega)]

/-- Element k of the order. -/
structure OrdAt (L : List Int) (n : Nat) (R : List Int) (k y : Nat) : Prop where
  at_ : R.getD k 0 = (y : Int)
  lt : y < n
  fresh : (y : Int) ∉ R.take k
  next : R.take (k + 1) = R.take k ++ [(y : Int)]
  prev : ∀ k', k = k' + 1 → Lex L (R.getD k' 0) y
  deps : ∀ x : Nat, x < n → lat L x < lat L y → (x : Int) ∈ R.take (k + 1)
theorem ordTo_at {L : List Int} {n : Nat} (hL : ∀ i : Nat, i < n → 0 ≤ lat L i ∧ lat L i < (n : Int)) {k : Nat} (hk : k < n) : ∃ y : Nat, OrdAt L n (ordTo L n n) k y := by
  have hlen := ordTo_full hL
  have hs := ordTo_sorted L n n
  obtain ⟨R, HR⟩ : ∃ R, R = ordTo L n n := ⟨_, rfl⟩
  have hall : ∀ x : Nat, x < n → (x : Int) ∈ R := fun x hx => by rw [HR]; exact ordTo_mem.2 ⟨x, rfl, hx, (hL x hx).1, (hL x hx).2⟩
  have hm : ∀ x ∈ R, ∃ i : Nat, x = (i : Int) ∧ i < n := fun x hx => by rw [HR] at hx; obtain ⟨i, h1, h2, -⟩ := ordTo_mem.1 hx; exact ⟨i, h1, h2⟩
  rw [← HR] at hlen hs ⊢
  clear HR
  have hkR : k < R.length := by omega
  have hin : R.getD k 0 ∈ R := getD_in hkR
  obtain ⟨y, hy, hyn⟩ := hm _ hin
  have hg : R[k] = (y : Int) := by rw [← hy, List.getD_eq_getElem?_getD, List.getElem?_eq_getElem hkR]; rfl
  have hlex : ∀ i j : Nat, (hi : i < R.length) → (hj : j < R.length) → i < j → Lex L R[i] R[j] := fun i j hi hj hij => (List.pairwise_iff_getElem.1 hs) i j hi hj hij
  refine ⟨y, hy, hyn, fun hf => ?_, ?_, fun k' e => ?_, fun x hx hlt => ?_⟩
  · obtain ⟨j, hj, e⟩ := List.getElem_of_mem hf
    have hj' : j < k := by rw [List.length_take] at hj; omega
    rw [List.getElem_take] at e
    have := hlex j k (by omega) hkR hj'
    rw [e, hg] at this
    exact Lex.irr _ this
  · rw [List.take_succ_eq_append_getElem hkR, hg]
  · subst e
    have := hlex k' (k' + 1) (by omega) hkR (by omega)
    rw [hg] at this
    rw [List.getD_eq_getElem?_getD, List.getElem?_eq_getElem (by omega)]
    exact this
  · obtain ⟨j, hj, e⟩ := List.getElem_of_mem (hall x hx)
    by_cases hjk : j ≤ k
    · rw [← e]
      refine List.mem_of_getElem? (i := j) ?_
      rw [List.getElem?_take, if_pos (by omega), List.getElem?_eq_getElem hj]
    · have := hlex k j hkR hj (by omega)
      rw [e, hg] at this
      rcases this with h | ⟨h, -⟩ <;> omega
end Go.Proofs.YtfcdhoaccmckoaaGreatDoor
