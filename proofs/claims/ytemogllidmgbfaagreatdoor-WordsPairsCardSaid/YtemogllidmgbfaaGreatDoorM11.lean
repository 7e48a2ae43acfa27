/- The texts Sor LgScal. -/
import Derived.Test.YtemogllidmgbfaaGreatDoorM10
import Derived.LoopN
import Derived.Test.YtemogllidmgbfaaGreatDoorRows
import Derived.Test.YtemogllidmgbfaaGreatDoorM01
import Derived.WalkKit
import Derived.WalkSpells
import Derived.WalkLawsBesides
import Derived.Lib.Hide
namespace Go.Proofs.YtemogllidmgbfaaGreatDoor
open Go.RowKit

def SortPost (L : List Int) (w : World) (B d g q n : Nat) (e : Ending) (w' : World) : Prop := e = .returned (.tuple #[]) ∧ ∃ R, SortTo L n n R ∧ SW w B d g q n L R w'

set_option maxHeartbeats 1000000 in
theorem stable_any (L : List Int) (n d g q B : Nat) (w : World) (hd : B ≤ d) (hg : d ≠ g) (hq : d ≠ q) (hL : L.length = n) (hn : n < 20) (hw : SW w B d g q n L (rng 0 n) w) :
    Calls Tryz.prog 105 #[.slice (some ⟨d, 0, none⟩) n n, .int .i64 n, .func (.func 89) #[] #[.pointer (some ⟨q, 0, none⟩)]] w (SortPost L w B d g q n) := by
  have HI := Lib.hid (insert_any L n d g q B w hd hg hq hL (by omega) hw)
  clear hw hL
  go_enter Tryz.func105, Tryz.ntmps105
  go_wp2
  refine wp_loop_rounds 1 ?_
  simp only [Code.rounds]
  go_wp2_with (go_at_call 123; (with_reducible refine HI.out.mono ?_); rintro e w' ⟨rfl, R, h1, h2⟩; have HR := Lib.hid h1; have HS := Lib.hid h2; clear h1 h2)
  refine wp_loop_rounds 1 ?_
  simp only [Code.rounds]
  go_wp2
  go_end0
  exact ⟨rfl, R, HR.out, HS.out⟩

set_option maxHeartbeats 400000 in
theorem sort_any (L : List Int) (n d g q B : Nat) (w : World) (hd : B ≤ d) (hg : d ≠ g) (hq : d ≠ q) (hL : L.length = n) (hn : n < 20) (hw : SW w B d g q n L (rng 0 n) w) :
    Calls Tryz.prog 88 #[.slice (some ⟨d, 0, none⟩) n n, .func (.func 89) #[] #[.pointer (some ⟨q, 0, none⟩)]] w (SortPost L w B d g q n) := by
  have HI := Lib.hid (stable_any L n d g q B w hd hg hq hL hn hw)
  clear hw hL
  go_enter Tryz.func88, Tryz.ntmps88
  go_wp2_with (go_at_call 105; (with_reducible refine HI.out.mono ?_); rintro e w' ⟨rfl, R, h1, h2⟩; have HR := Lib.hid h1; have HS := Lib.hid h2; clear h1 h2)
  go_end0
  exact ⟨rfl, R, HR.out, HS.out⟩

theorem fillL_rng (z : Value) (n : Nat) : fillL (fun j => .int .i64 (j : Int)) z n n = (rng 0 n).map (Value.int .i64) := by
  apply List.ext_getElem?
  intro j
  by_cases hj : j < n
  · rw [fillL_get _ _ _ _ _ hj, if_pos hj]; simp [rng, hj]
  · rw [List.getElem?_eq_none (by simp [fillL_len]; omega), List.getElem?_eq_none (by simp [rng]; omega)]

def OrdPost (c : Ck) (w : World) (e : Ending) (w' : World) : Prop :=
  Below w.heap.size w w' ∧ ((chkErr c = 0 ∧ shapeErr c = 0 ∧ ∃ L R d, Lvl c.nodes L ∧ (∀ i : Nat, i < c.nodes.length → lat L i < (c.nodes.length : Int)) ∧ SortTo L c.nodes.length c.nodes.length R ∧ w.heap.size ≤ d ∧ e = .returned (.tuple #[.slice (some ⟨d, 0, none⟩) c.nodes.length c.nodes.length, .int .i64 0]) ∧ Row w' d R)
    ∨ (chkErr c ≠ 0 ∧ e = .returned (.tuple #[.slice none 0 0, .int .i64 (chkErr c)])))

set_option maxRecDepth 100000 in
set_option maxHeartbeats 4000000 in
theorem order_any (c : Ck) (v : Value) (w : World) (B : Nat) (hB : B ≤ w.heap.size) (hT : Tabs w) (hc : Cir w B v c) (hn20 : c.nodes.length < 20) :
    Calls Tryz.prog 48 #[v] w (OrdPost c w) := by
  have hb0 := hc
  obtain ⟨v0, v1, v2, v3, rfl, hns, hss, hms, hos⟩ := hc
  obtain ⟨A0, b0, o0, c0, rfl, -⟩ := id hns
  obtain ⟨A1, b1, o1, c1, rfl, -⟩ := id hss
  obtain ⟨A2, b2, o2, c2, rfl, -⟩ := id hms
  obtain ⟨A3, b3, o3, c3, rfl, -⟩ := id hos
  have hbW : Below w.heap.size w (w.alloc (.cells #[.slice A0 c.nodes.length c0, .slice A1 c.names.length c1, .slice A2 c.mems.length c2, .slice A3 c.outs.length c3] 46)) := (Below.refl _ _).alloc (Nat.le_refl _) _
  have hL := levels_any c _ _ B (Nat.le_trans hB hbW.size) (hT.below hbW) (hb0.below (hbW.mono hB))
  clear hns hss hms hos hb0 hT
  by_cases hck : chkErr c = 0
  · have hL2 := hL.mono (R' := fun e w' => ∃ L g, e = .returned (.tuple #[.slice (some ⟨g, 0, none⟩) c.nodes.length c.nodes.length, .int .i64 0]) ∧ Below (w.alloc (.cells #[.slice A0 c.nodes.length c0, .slice A1 c.names.length c1, .slice A2 c.mems.length c2, .slice A3 c.outs.length c3] 46)).heap.size (w.alloc (.cells #[.slice A0 c.nodes.length c0, .slice A1 c.names.length c1, .slice A2 c.mems.length c2, .slice A3 c.outs.length c3] 46)) w' ∧ w.heap.size ≤ g ∧ Row w' g L ∧ shapeErr c = 0 ∧ Lvl c.nodes L ∧ (∀ i : Nat, i < c.nodes.length → lat L i < (c.nodes.length : Int))) fun e w' ⟨h1, h2⟩ => by
      rcases h2 with ⟨-, h0, L, g, hl, hbd, hg, he, hr⟩ | ⟨hne, -⟩
      · exact ⟨L, g, he, h1, Nat.le_trans hbW.size hg, hr, h0, hl, hbd⟩
      · exact absurd hck hne
    have HCK := Lib.hid hck
    clear hL hck
    generalize c.names.length = n1 at hL2 hbW ⊢
    generalize c.mems.length = n2 at hL2 hbW ⊢
    generalize c.outs.length = n3 at hL2 hbW ⊢
    obtain ⟨n, HN⟩ := named c.nodes.length
    rw [← HN.out] at hL2 hbW hn20
    rw [← HN.out]
    have HL := Lib.hid hL2
    have HBW := Lib.hid hbW
    clear hL2 hbW
    obtain ⟨i0, hi, hz0, hz1, hz2⟩ := info_parts info_int
    have HI := Lib.hid (And.intro hi (And.intro hz0 (And.intro hz1 hz2)))
    clear hi hz0 hz1 hz2
    go_enter Tryz.func48, Tryz.ntmps48
    go_wp2_with (first
      | (go_at_call 87; (with_reducible refine HL.out.mono ?_); rintro e w1 ⟨L, g, rfl, hb, hwg, hr, hsh, hl, hbd⟩; have HB1 := Lib.hid hb; have HR := Lib.hid hr; have HSH := Lib.hid hsh; have HLV := Lib.hid hl; have HBD := Lib.hid hbd; clear hb hr hsh hl hbd)
      | (at_make; refine wpList_make_full _ rfl _ _ 44 rfl w.heap.size 3 i0 (.int .i64 0) 1 Tryz.underlying44 HI.out.1 HI.out.2.1 HI.out.2.2.1 .i64 .i64 _ _ n rfl rfl rfl rfl ?b2 ?b3 ?b4 ?_))
    case b2 => rw [HI.out.2.2.2]; omega
    case b3 => unfold maxLen; omega
    case b4 => have := (joinB HBW.out HB1.out).size; simp; omega
    intro w2 hown hgr
    rw [fillL_start (fun j => .int .i64 (j : Int))] at hown
    obtain ⟨w1v, HW1⟩ := named (w1.alloc (.cells #[.slice (some ⟨g, 0, none⟩) n n] 44))
    have hz1 : w1v.heap.size = w1.heap.size + 1 := by rw [HW1.out]; simp
    rw [← HW1.out] at hgr
    have hb1v : Below w.heap.size w w1v := by rw [HW1.out]; exact below_new (joinB HBW.out HB1.out) _
    have hrv : Row w1v g L := by rw [HW1.out]; exact HR.out.below ((Below.refl _ _).alloc (Nat.le_refl _) _)
    have hcv : w1v.cell? ⟨w1.heap.size, 0, none⟩ = some (.slice (some ⟨g, 0, none⟩) n n) := by rw [HW1.out, World.cell?_alloc_at _ _ _ _ rfl]; rfl
    have hb2 : Below w.heap.size w w2 := hb1v.grown hgr hb1v.size (fun k h => by cases h)
    have hr2 : Row w2 g L := hrv.kept hgr (by simp)
    have hc2 : w2.cell? ⟨w1.heap.size, 0, none⟩ = some (.slice (some ⟨g, 0, none⟩) n n) := hgr.cell hcv (by simp)
    have hgl : g < w1.heap.size := HR.out.lt
    have hbz : w.heap.size ≤ w1.heap.size := (joinB HBW.out HB1.out).size
    have hsz2 : w1.heap.size + 1 < w2.heap.size := (World.ownsRow.lt hown _ rfl).2
    have HO := Lib.hid hown
    have HB2 := Lib.hid hb2
    have HR2 := Lib.hid hr2
    have HC2 := Lib.hid hc2
    obtain ⟨d, HD⟩ := named (w1.heap.size + 1)
    rw [← HD.out]
    rw [← HD.out] at HO
    obtain ⟨q, HQ⟩ := named w1.heap.size
    rw [← HQ.out] at HC2
    rw [← HQ.out]
    have hdg : d ≠ g := by rw [HD.out]; omega
    have hdq : d ≠ q := by rw [HD.out, HQ.out]; omega
    have hdw : w.heap.size ≤ d := by rw [HD.out]; omega
    have hqc : w2.cell? ⟨q, 0, none⟩ = some (.slice (some ⟨g, 0, none⟩) n n) := HC2.out
    have hdz : d < w2.heap.size := by rw [HD.out]; omega
    clear hown hgr hb2 hr2 hc2 hcv hrv hb1v hz1 hgl hbz hsz2 hwg
    go_wp2
    go_loopw [21] (fun i wr => ∃ k : Nat, k ≤ n ∧ i = .int .i64 k ∧ Below w.heap.size w wr ∧ wr.heap.size = w2.heap.size ∧ Row wr g L ∧ wr.cell? ⟨q, 0, none⟩ = some (.slice (some ⟨g, 0, none⟩) n n) ∧
      wr.ownsRow w.heap.size 3 1 (.slice (some ⟨d, 0, none⟩) n n) n (fillL (fun j => .int .i64 (j : Int)) (.int .i64 0) n k)) (fun i _ => n - (intOf i).toNat)
    case atStart => exact ⟨0, Nat.zero_le _, rfl, HB2.out, rfl, HR2.out, HC2.out, HO.out⟩
    case round =>
      clear HO HB2 HR2 HC2 hqc
      obtain ⟨k, hk, rfl, hb, hsz, hr, hqc, hown⟩ := hrel
      have HBL := Lib.hid hb
      have HO := Lib.hid hown
      have HR2 := Lib.hid hr
      have HSZ := Lib.hid hsz
      clear hb hown hr hsz
      by_cases hlt : k < n
      · have hfz : wr.frozen? ⟨d, k, none⟩ = false := HO.out.frozenAt k
        have hcl : wr.cell? ⟨d, k, none⟩ = some (.int .i64 0) := by
          rw [HO.out.cellAt k (by omega), fillL_get _ _ _ _ _ hlt, if_neg (by omega)]
        have HS := Lib.hid (HO.out.stored k (.int .i64 (k : Int))).1
        have HQC := Lib.hid hqc
        clear hqc
        go_wp2
        go_roundw
        case rel =>
          refine ⟨k + 1, by omega, by go_num, HBL.out.setCell hdw _, by rw [World.size_setCell]; exact HSZ.out, HR2.out.otherS hdg _, ?_, ?_⟩
          · rw [World.cell?_setCell_other _ _ _ _ (by simp [hdq])]; exact HQC.out
          · rw [← fillL_set (fun j => .int .i64 (j : Int)) (.int .i64 0) n k]; exact HS.out
        case measure => simp [intOf]; omega
      · obtain rfl : n = k := by omega
        have hrow : Row wr d (rng 0 n) := by
          have := HO.out
          rw [fillL_rng] at this
          unfold Row
          rw [rng_len, Nat.sub_zero]
          refine ⟨this.1, ?_⟩
          rcases this.2 with ⟨e, -⟩ | ⟨g', cap, cur, e, hb', hg', hle, hmx, hs', ht'⟩
          · cases e
          · simp only [Value.slice.injEq, Option.some.injEq, Addr.mk.injEq] at e
            obtain ⟨⟨rfl, -⟩, -, rfl⟩ := e
            exact .inr ⟨d, n, cur, rfl, Nat.le_refl _, hg', hle, hmx, hs', ht'⟩
        have hsort := sort_any L n d g q w.heap.size wr hdw hdg hdq (by rw [HLV.out.1, HN.out]) hn20 ⟨Below.refl _ _, rfl, hrow, HR2.out, hqc⟩
        have HSRT := Lib.hid hsort
        clear hsort hrow hqc
        go_wp2_with (go_at_call 88; (with_reducible refine HSRT.out.mono ?_); rintro e w4 ⟨rfl, R, h1, h2⟩; have HRR := Lib.hid h1; have HSS := Lib.hid h2; clear h1 h2)
        go_ret2
        unfold OrdPost
        rw [← HN.out]
        exact ⟨HBL.out.trans HSS.out.bel, .inl ⟨HCK.out, HSH.out, L, R, d, HLV.out, HBD.out, HRR.out, hdw, rfl, HSS.out.row⟩⟩
  · have hL2 := hL.mono (R' := fun e w' => e = .returned (.tuple #[.slice none 0 0, .int .i64 (chkErr c)]) ∧ Below (w.alloc (.cells #[.slice A0 c.nodes.length c0, .slice A1 c.names.length c1, .slice A2 c.mems.length c2, .slice A3 c.outs.length c3] 46)).heap.size (w.alloc (.cells #[.slice A0 c.nodes.length c0, .slice A1 c.names.length c1, .slice A2 c.mems.length c2, .slice A3 c.outs.length c3] 46)) w') fun e w' ⟨h1, h2⟩ => by
      rcases h2 with ⟨h0, -⟩ | ⟨-, he⟩
      · exact absurd h0 hck
      · exact ⟨he, h1⟩
    obtain ⟨z, HZ⟩ := named (chkErr c)
    rw [← HZ.out] at hL2 hck
    have hz : (z == 0) = false := by simpa using hck
    have HCK := Lib.hid hck
    clear hL hck
    generalize c.names.length = n1 at hL2 hbW ⊢
    generalize c.mems.length = n2 at hL2 hbW ⊢
    generalize c.outs.length = n3 at hL2 hbW ⊢
    obtain ⟨n, HN⟩ := named c.nodes.length
    rw [← HN.out] at hL2 hbW
    rw [← HN.out]
    have HL := Lib.hid hL2
    have HBW := Lib.hid hbW
    clear hL2 hbW
    go_enter Tryz.func48, Tryz.ntmps48
    go_wp2_with (go_at_call 87; (with_reducible refine HL.out.mono ?_); rintro e w1 ⟨rfl, hb⟩; have HB1 := Lib.hid hb; clear hb)
    go_ret2
    exact ⟨below_new (joinB HBW.out HB1.out) _, .inr ⟨by rw [← HZ.out]; exact HCK.out, by rw [← HZ.out]; rfl⟩⟩

end Go.Proofs.YtemogllidmgbfaaGreatDoor

namespace Go.Proofs.YtemogllidmgbfaaGreatDoor.Lg
open Go.RowKit

theorem ret_int {k : IntKind} {a b : Int} (h : a = b) : Ending.returned (.int k a) = .returned (.int k b) := by rw [h]
theorem ret_bool {a b : Bool} (h : a = b) : Ending.returned (.bool a) = .returned (.bool b) := by rw [h]

set_option maxHeartbeats 400000 in
theorem clean_any (a : Int) (w : World) : Calls Tryz.prog 67 #[.int .u8 a] w fun e w' => e = .returned (.int .u8 (cln a)) ∧ w = w' := by
  by_cases h : 3 < a
  · have hc : cln a = 2 := by simp [cln, h]
    rw [hc]
    go_enter Tryz.func67, Tryz.ntmps67
    go_wp2
    go_ret
    exact ⟨rfl, rfl⟩
  · have hc : cln a = a := by simp [cln, h]
    rw [hc]
    go_enter Tryz.func67, Tryz.ntmps67
    go_wp2
    go_ret
    exact ⟨rfl, rfl⟩

/-- A result under a name, its equation hidden from the walk. -/
theorem named {α : Type} (x : α) : ∃ y, Hid (y = x) := ⟨x, Lib.hid rfl⟩

set_option maxHeartbeats 400000 in
theorem known_any (a : Int) (w : World) : Calls Tryz.prog 75 #[.int .u8 a] w fun e w' => e = .returned (.bool (knw a)) ∧ w = w' := by
  obtain ⟨x, HX⟩ := named (knw a)
  rw [← HX.out]
  go_enter Tryz.func75, Tryz.ntmps75
  go_wp2
  all_goals go_ret
  all_goals exact ⟨ret_bool (by rw [HX.out]; simp [knw, *]), rfl⟩

set_option maxHeartbeats 400000 in
theorem read_any (a : Int) (w : World) : Calls Tryz.prog 29 #[.int .u8 a] w fun e w' => e = .returned (.int .u8 (rd a)) ∧ w = w' := by
  cases h : knw a
  all_goals
    obtain ⟨x, HX⟩ := named (rd a)
    rw [← HX.out]
    go_enter Tryz.func29, Tryz.ntmps29
    go_wp2_with (go_at_call 75; refine (known_any _ _).mono ?_; rintro e w' ⟨rfl, rfl⟩)
    go_ret
    exact ⟨ret_int (by rw [HX.out]; simp [rd, h]), rfl⟩

set_option maxHeartbeats 400000 in
theorem not_any (a : Int) (w : World) : Calls Tryz.prog 30 #[.int .u8 a] w fun e w' => e = .returned (.int .u8 (nt a)) ∧ w = w' := by
  rcases rd_cases a with h | h | h
  all_goals
    obtain ⟨x, HX⟩ := named (nt a)
    rw [← HX.out]
    go_enter Tryz.func30, Tryz.ntmps30
    go_wp2_with (go_at_call 29; refine (read_any _ _).mono ?_; rintro e w' ⟨rfl, rfl⟩)
    go_ret
    exact ⟨ret_int (by rw [HX.out]; simp [nt, h]), rfl⟩

set_option maxHeartbeats 400000 in
theorem tri_any (a b : Int) (w : World) : Calls Tryz.prog 35 #[.int .u8 a, .int .u8 b] w fun e w' => e = .returned (.int .u8 (tr a b)) ∧ w = w' := by
  rcases rd_cases a with h | h | h
  all_goals
    obtain ⟨x, HX⟩ := named (tr a b)
    rw [← HX.out]
    go_enter Tryz.func35, Tryz.ntmps35
    go_wp2_with (go_at_call 29; refine (read_any _ _).mono ?_; rintro e w' ⟨rfl, rfl⟩)
    go_ret
    exact ⟨ret_int (by rw [HX.out]; simp [tr, h]), rfl⟩

set_option maxHeartbeats 400000 in
theorem mux_any (s a b : Int) (w : World) : Calls Tryz.prog 34 #[.int .u8 s, .int .u8 a, .int .u8 b] w fun e w' => e = .returned (.int .u8 (mx s a b)) ∧ w = w' := by
  rcases rd_cases s with h | h | h
  · obtain ⟨x, HX⟩ := named (mx s a b)
    rw [← HX.out]
    go_enter Tryz.func34, Tryz.ntmps34
    go_wp2_with (go_at_call 29; refine (read_any _ _).mono ?_; rintro e w' ⟨rfl, rfl⟩)
    go_ret
    exact ⟨ret_int (by rw [HX.out]; simp [mx, h]), rfl⟩
  · obtain ⟨x, HX⟩ := named (mx s a b)
    rw [← HX.out]
    go_enter Tryz.func34, Tryz.ntmps34
    go_wp2_with (go_at_call 29; refine (read_any _ _).mono ?_; rintro e w' ⟨rfl, rfl⟩)
    go_ret
    exact ⟨ret_int (by rw [HX.out]; simp [mx, h]), rfl⟩
  · rcases rd_cases a with ha | ha | ha <;> rcases rd_cases b with hb | hb | hb
    all_goals
      obtain ⟨x, HX⟩ := named (mx s a b)
      rw [← HX.out]
      go_enter Tryz.func34, Tryz.ntmps34
      go_wp2_with (go_at_call 29; refine (read_any _ _).mono ?_; rintro e w' ⟨rfl, rfl⟩)
      go_ret
      exact ⟨ret_int (by rw [HX.out]; simp [mx, h, ha, hb]), rfl⟩

end Go.Proofs.YtemogllidmgbfaaGreatDoor.Lg
