/- The texts Srs Org Ruw Sme. -/
import Derived.Test.YtemogllidmgbfaaDoorM38
import Derived.Test.YtemogllidmgbfaaDoorM19
import Derived.Test.YtemogllidmgbfaaDoorM31
namespace Go.Proofs.YtemogllidmgbfaaDoor
open Go.RowKit

set_option maxRecDepth 100000 in
set_option maxHeartbeats 8000000 in
theorem stable_w (L : List Int) (n d g q B : Nat) (w w0 : World) (hd : B ≤ d) (hg : d ≠ g) (hq : d ≠ q) (hL : L.length = n) (hn : n ≤ 1000000) (hw : SV w0 B d g q n L w) :
    Calls Tryd.prog 68 #[.slice (some ⟨d, 0, none⟩) n n, .int .i64 n, .func (.func 57) #[] #[.pointer (some ⟨q, 0, none⟩)]] w (SVP w0 B d g q n L) := by
  have HI : Hid (∀ (a b : Nat) (W : World), b ≤ n → a ≤ n → SV w0 B d g q n L W → Calls Tryd.prog 81 #[.slice (some ⟨d, 0, none⟩) n n, .int .i64 (a : Int), .int .i64 (b : Int), .func (.func 57) #[] #[.pointer (some ⟨q, 0, none⟩)]] W (SVP w0 B d g q n L)) :=
    Lib.hid fun a b W hb ha hs => insert_w L n d g q B a b W w0 hd hg hq hL hn hb ha hs
  have HM : Hid (∀ (a m b : Nat) (W : World), a < m → m < b → b ≤ n → SV w0 B d g q n L W → Calls Tryd.prog 82 #[.slice (some ⟨d, 0, none⟩) n n, .int .i64 (a : Int), .int .i64 (m : Int), .int .i64 (b : Int), .func (.func 57) #[] #[.pointer (some ⟨q, 0, none⟩)]] W (SVP w0 B d g q n L)) :=
    Lib.hid fun a m b W h1 h2 h3 hs => sym_any L n d g q B w0 hd hg hq hL hn (b - a) a m b W (Nat.le_refl _) h1 h2 h3 hs
  have HW := Lib.hid hw
  clear hw hL
  go_enter Tryd.func68, Tryd.ntmps68
  go_wp2
  go_loopw [7, 8] (fun va vb wr => ∃ a b : Nat, va = .int .i64 a ∧ vb = .int .i64 b ∧ b = a + 20 ∧ a ≤ n ∧ SV w0 B d g q n L wr) (fun _ vb _ => n + 21 - (intOf vb).toNat)
  case atStart => exact ⟨0, 20, by first | rfl | go_num, by first | rfl | go_num, rfl, Nat.zero_le _, HW.out⟩
  case round =>
    clear HW
    obtain ⟨a, b, rfl, rfl, hb, han, hs⟩ := hrel
    have HS := Lib.hid hs
    have HBE := Lib.hid hb
    have hab : a < b := by omega
    have hbz : b ≤ a + 20 := by omega
    clear hs hb
    by_cases hlt : b ≤ n
    · go_wp2_with (go_at_call 81; (with_reducible refine (HI.out a b _ hlt han HS.out).mono ?_); rintro ee w2 ⟨rfl, h5⟩; have HS2 := Lib.hid h5; clear h5)
      go_roundw
      case rel => exact ⟨b, b + 20, by first | rfl | go_num, by first | rfl | go_num, rfl, by omega, HS2.out⟩
      case measure => simp [intOf]; omega
    · go_wp2_with (go_at_call 81; (with_reducible refine (HI.out a n _ (Nat.le_refl _) han HS.out).mono ?_); rintro ee w2 ⟨rfl, h5⟩; have HS2 := Lib.hid h5; clear h5)
      go_loopw [6] (fun vs wr => ∃ s : Nat, vs = .int .i64 s ∧ 20 ≤ s ∧ s ≤ 2 * n + 20 ∧ SV w0 B d g q n L wr) (fun vs _ => n - (intOf vs).toNat)
      case atStart => exact ⟨20, by first | rfl | go_num, by omega, by omega, HS2.out⟩
      case round =>
        clear HS2 HS
        obtain ⟨s, rfl, hs1, hs2, hs⟩ := hrel
        have HS := Lib.hid hs
        clear hs hlt han hab hbz
        by_cases hlt : s < n
        · go_wp2
          go_loopw [7, 8] (fun va vb wr => ∃ a2 b2 : Nat, va = .int .i64 a2 ∧ vb = .int .i64 b2 ∧ b2 = a2 + 2 * s ∧ a2 ≤ n ∧ SV w0 B d g q n L wr) (fun _ vb _ => n + 2 * s + 1 - (intOf vb).toNat)
          case atStart => exact ⟨0, 2 * s, by first | rfl | go_num, by first | rfl | go_num, by omega, Nat.zero_le _, HS.out⟩
          case round =>
            clear HS
            obtain ⟨a2, b2, rfl, rfl, hb2, ha2, hs⟩ := hrel
            have HS := Lib.hid hs
            have HB2E := Lib.hid hb2
            clear hs
            obtain ⟨m2, HM2⟩ := named (a2 + s)
            have u1 : IntKind.i64.wrap ((a2 : Int) + (s : Int)) = (m2 : Int) := by rw [IntKind.wrap_i64]; have := HM2.out; omega
            have h1 : a2 < m2 := by have := HM2.out; omega
            have h2 : m2 < b2 := by have := HM2.out; omega
            have u2 : IntKind.i64.wrap ((b2 : Int) + (IntKind.i64.wrap (2 * (s : Int)))) = ((b2 + 2 * s : Nat) : Int) := by rw [IntKind.wrap_i64, IntKind.wrap_i64]; omega
            have h3 : b2 ≤ n → b2 + 2 * s ≤ 4000000 := by omega
            clear hb2
            by_cases hle : b2 ≤ n
            · go_wp2_with (go_at_call 82; (with_reducible refine (HM.out a2 m2 b2 _ h1 h2 hle HS.out).mono ?_); rintro ee w2 ⟨rfl, h5⟩; have HS2 := Lib.hid h5; clear h5)
              go_roundw
              case rel => exact ⟨b2, b2 + 2 * s, by first | rfl | go_num, by first | rfl | go_num, by omega, by omega, HS2.out⟩
              case measure => simp [intOf]; omega
            · by_cases hmn : m2 < n
              · go_wp2_with (go_at_call 82; (with_reducible refine (HM.out a2 m2 n _ h1 hmn (Nat.le_refl _) HS.out).mono ?_); rintro ee w2 ⟨rfl, h5⟩; have HS2 := Lib.hid h5; clear h5)
                go_roundw
                case rel => exact ⟨2 * s, by first | rfl | go_num, by omega, by omega, HS2.out⟩
                case measure => simp [intOf]; omega
              · go_wp2
                go_roundw
                case rel => exact ⟨2 * s, by first | rfl | go_num, by omega, by omega, HS.out⟩
                case measure => simp [intOf]; omega
        · go_wp2
          go_end0
          exact ⟨rfl, HS.out⟩

set_option maxHeartbeats 400000 in
theorem sort_w (L : List Int) (n d g q B : Nat) (w w0 : World) (hd : B ≤ d) (hg : d ≠ g) (hq : d ≠ q) (hL : L.length = n) (hn : n ≤ 1000000) (hw : SV w0 B d g q n L w) :
    Calls Tryd.prog 56 #[.slice (some ⟨d, 0, none⟩) n n, .func (.func 57) #[] #[.pointer (some ⟨q, 0, none⟩)]] w (SVP w0 B d g q n L) := by
  have HI := Lib.hid (stable_w L n d g q B w w0 hd hg hq hL hn hw)
  clear hw hL
  go_enter Tryd.func56, Tryd.ntmps56
  go_wp2_with (go_at_call 68; (with_reducible refine HI.out.mono ?_); rintro e w' ⟨rfl, h1⟩; have HR := Lib.hid h1; clear h1)
  go_end0
  exact ⟨rfl, HR.out⟩

theorem rng_rg (n : Nat) : Rg n (rng 0 n) := ⟨by rw [rng_len, Nat.sub_zero], fun x hx => by
  simp [rng] at hx
  obtain ⟨j, hj, rfl⟩ := hx
  omega⟩
/-- Order seen from outside: the error of Check, and a list of the right length without one. -/
def OrdW (c : Ck) (w : World) (e : Ending) (w' : World) : Prop :=
  Below w.heap.size w w' ∧ ((chkErr c = 0 ∧ ∃ d, e = .returned (.tuple #[.slice (some ⟨d, 0, none⟩) c.nodes.length c.nodes.length, .int .i64 0])) ∨ (chkErr c ≠ 0 ∧ e = .returned (.tuple #[.slice none 0 0, .int .i64 (chkErr c)])))

set_option maxRecDepth 100000 in
set_option maxHeartbeats 4000000 in
theorem order_w (c : Ck) (v : Value) (w : World) (B : Nat) (hB : B ≤ w.heap.size) (hT : Tabs w) (hc : Cir w B v c) (hn20 : c.nodes.length ≤ 1000000) :
    Calls Tryd.prog 43 #[v] w (OrdW c w) := by
  have hb0 := hc
  obtain ⟨v0, v1, v2, v3, rfl, hns, hss, hms, hos⟩ := hc
  obtain ⟨A0, b0, o0, c0, rfl, -⟩ := id hns
  obtain ⟨A1, b1, o1, c1, rfl, -⟩ := id hss
  obtain ⟨A2, b2, o2, c2, rfl, -⟩ := id hms
  obtain ⟨A3, b3, o3, c3, rfl, -⟩ := id hos
  have hbW : Below w.heap.size w (w.alloc (.cells #[.slice A0 c.nodes.length c0, .slice A1 c.names.length c1, .slice A2 c.mems.length c2, .slice A3 c.outs.length c3] 56)) := (Below.refl _ _).alloc (Nat.le_refl _) _
  have hL := levels_any c _ _ B (Nat.le_trans hB hbW.size) (hT.below hbW) (hb0.below (hbW.mono hB))
  clear hns hss hms hos hb0 hT
  by_cases hck : chkErr c = 0
  · have hL2 := hL.mono (R' := fun e w' => ∃ L g, e = .returned (.tuple #[.slice (some ⟨g, 0, none⟩) c.nodes.length c.nodes.length, .int .i64 0]) ∧ Below (w.alloc (.cells #[.slice A0 c.nodes.length c0, .slice A1 c.names.length c1, .slice A2 c.mems.length c2, .slice A3 c.outs.length c3] 56)).heap.size (w.alloc (.cells #[.slice A0 c.nodes.length c0, .slice A1 c.names.length c1, .slice A2 c.mems.length c2, .slice A3 c.outs.length c3] 56)) w' ∧ w.heap.size ≤ g ∧ Row w' g L ∧ shapeErr c = 0 ∧ Lvl c.nodes L ∧ (∀ i : Nat, i < c.nodes.length → lat L i < (c.nodes.length : Int))) fun e w' ⟨h1, h2⟩ => by
      rcases h2 with ⟨-, h0, L, g, hl, hbd, hg, he, hr⟩ | ⟨hne, -⟩
      · exact ⟨L, g, he, h1, Nat.le_trans hbW.size hg, hr, h0, hl, hbd⟩
      · exact absurd hck hne
    have HCK := Lib.hid hck
    clear hL hck
    generalize c.names.length = n1 at hL2 hbW ⊢
    generalize c.mems.length = n2 at hL2 hbW ⊢
    generalize c.outs.length = n3 at hL2 hbW ⊢
    obtain ⟨n, HN⟩ := named c.nodes.length
    rw [← HN.out] at hL2 hbW hn20
    rw [← HN.out]
    have HL := Lib.hid hL2
    have HBW := Lib.hid hbW
    clear hL2 hbW
    obtain ⟨i0, hi, hz0, hz1, hz2⟩ := info_parts info_int
    have HI := Lib.hid (And.intro hi (And.intro hz0 (And.intro hz1 hz2)))
    clear hi hz0 hz1 hz2
    go_enter Tryd.func43, Tryd.ntmps43
    go_wp2_with (first
      | (go_at_call 55; (with_reducible refine HL.out.mono ?_); rintro e w1 ⟨L, g, rfl, hb, hwg, hr, hsh, hl, hbd⟩; have HB1 := Lib.hid hb; have HR := Lib.hid hr; have HSH := Lib.hid hsh; have HLV := Lib.hid hl; have HBD := Lib.hid hbd; clear hb hr hsh hl hbd)
      | (at_make; refine wpList_make_full _ rfl _ _ 54 rfl w.heap.size 3 i0 (.int .i64 0) 1 Tryd.underlying54 HI.out.1 HI.out.2.1 HI.out.2.2.1 .i64 .i64 _ _ n rfl rfl rfl rfl ?b2 ?b3 ?b4 ?_))
    case b2 => rw [HI.out.2.2.2]; omega
    case b3 => unfold maxLen; omega
    case b4 => have := (joinB HBW.out HB1.out).size; simp; omega
    intro w2 hown hgr
    rw [fillL_start (fun j => .int .i64 (j : Int))] at hown
    obtain ⟨w1v, HW1⟩ := named (w1.alloc (.cells #[.slice (some ⟨g, 0, none⟩) n n] 54))
    have hz1 : w1v.heap.size = w1.heap.size + 1 := by rw [HW1.out]; simp
    rw [← HW1.out] at hgr
    have hb1v : Below w.heap.size w w1v := by rw [HW1.out]; exact below_new (joinB HBW.out HB1.out) _
    have hrv : Row w1v g L := by rw [HW1.out]; exact HR.out.below ((Below.refl _ _).alloc (Nat.le_refl _) _)
    have hcv : w1v.cell? ⟨w1.heap.size, 0, none⟩ = some (.slice (some ⟨g, 0, none⟩) n n) := by rw [HW1.out, World.cell?_alloc_at _ _ _ _ rfl]; rfl
    have hb2 : Below w.heap.size w w2 := hb1v.grown hgr hb1v.size (fun k h => by cases h)
    have hr2 : Row w2 g L := hrv.kept hgr (by simp)
    have hc2 : w2.cell? ⟨w1.heap.size, 0, none⟩ = some (.slice (some ⟨g, 0, none⟩) n n) := hgr.cell hcv (by simp)
    have hgl : g < w1.heap.size := HR.out.lt
    have hbz : w.heap.size ≤ w1.heap.size := (joinB HBW.out HB1.out).size
    have hsz2 : w1.heap.size + 1 < w2.heap.size := (World.ownsRow.lt hown _ rfl).2
    have HO := Lib.hid hown
    have HB2 := Lib.hid hb2
    have HR2 := Lib.hid hr2
    have HC2 := Lib.hid hc2
    obtain ⟨d, HD⟩ := named (w1.heap.size + 1)
    rw [← HD.out]
    rw [← HD.out] at HO
    obtain ⟨q, HQ⟩ := named w1.heap.size
    rw [← HQ.out] at HC2
    rw [← HQ.out]
    have hdg : d ≠ g := by rw [HD.out]; omega
    have hdq : d ≠ q := by rw [HD.out, HQ.out]; omega
    have hdw : w.heap.size ≤ d := by rw [HD.out]; omega
    have hqc : w2.cell? ⟨q, 0, none⟩ = some (.slice (some ⟨g, 0, none⟩) n n) := HC2.out
    have hdz : d < w2.heap.size := by rw [HD.out]; omega
    clear hown hgr hb2 hr2 hc2 hcv hrv hb1v hz1 hgl hbz hsz2 hwg
    go_wp2
    go_loopw [21] (fun i wr => ∃ k : Nat, k ≤ n ∧ i = .int .i64 k ∧ Below w.heap.size w wr ∧ wr.heap.size = w2.heap.size ∧ Row wr g L ∧ wr.cell? ⟨q, 0, none⟩ = some (.slice (some ⟨g, 0, none⟩) n n) ∧
      wr.ownsRow w.heap.size 3 1 (.slice (some ⟨d, 0, none⟩) n n) n (fillL (fun j => .int .i64 (j : Int)) (.int .i64 0) n k)) (fun i _ => n - (intOf i).toNat)
    case atStart => exact ⟨0, Nat.zero_le _, rfl, HB2.out, rfl, HR2.out, HC2.out, HO.out⟩
    case round =>
      clear HO HB2 HR2 HC2 hqc
      obtain ⟨k, hk, rfl, hb, hsz, hr, hqc, hown⟩ := hrel
      have HBL := Lib.hid hb
      have HO := Lib.hid hown
      have HR2 := Lib.hid hr
      have HSZ := Lib.hid hsz
      clear hb hown hr hsz
      by_cases hlt : k < n
      · have hfz : wr.frozen? ⟨d, k, none⟩ = false := HO.out.frozenAt k
        have hcl : wr.cell? ⟨d, k, none⟩ = some (.int .i64 0) := by
          rw [HO.out.cellAt k (by omega), fillL_get _ _ _ _ _ hlt, if_neg (by omega)]
        have HS := Lib.hid (HO.out.stored k (.int .i64 (k : Int))).1
        have HQC := Lib.hid hqc
        clear hqc
        go_wp2
        go_roundw
        case rel =>
          refine ⟨k + 1, by omega, by go_num, HBL.out.setCell hdw _, by rw [World.size_setCell]; exact HSZ.out, HR2.out.otherS hdg _, ?_, ?_⟩
          · rw [World.cell?_setCell_other _ _ _ _ (by simp [hdq])]; exact HQC.out
          · rw [← fillL_set (fun j => .int .i64 (j : Int)) (.int .i64 0) n k]; exact HS.out
        case measure => simp [intOf]; omega
      · obtain rfl : n = k := by omega
        have hrow : Row wr d (rng 0 n) := by
          have := HO.out
          rw [fillL_rng] at this
          unfold Row
          rw [rng_len, Nat.sub_zero]
          refine ⟨this.1, ?_⟩
          rcases this.2 with ⟨e, -⟩ | ⟨g', cap, cur, e, hb', hg', hle, hmx, hs', ht'⟩
          · cases e
          · simp only [Value.slice.injEq, Option.some.injEq, Addr.mk.injEq] at e
            obtain ⟨⟨rfl, -⟩, -, rfl⟩ := e
            exact .inr ⟨d, n, cur, rfl, Nat.le_refl _, hg', hle, hmx, hs', ht'⟩
        have hsort := sort_w L n d g q w.heap.size wr wr hdw hdg hdq (by rw [HLV.out.1, HN.out]) hn20 ⟨rng 0 n, rng_rg n, Below.refl _ _, rfl, hrow, HR2.out, hqc⟩
        have HSRT := Lib.hid hsort
        clear hsort hrow hqc
        go_wp2_with (go_at_call 56; (with_reducible refine HSRT.out.mono ?_); rintro e w4 ⟨rfl, R, h1, h2⟩; have HRR := Lib.hid h1; have HSS := Lib.hid h2; clear h1 h2)
        go_ret2
        unfold OrdW
        rw [← HN.out]
        exact ⟨HBL.out.trans HSS.out.bel, .inl ⟨HCK.out, d, rfl⟩⟩
  · have hL2 := hL.mono (R' := fun e w' => e = .returned (.tuple #[.slice none 0 0, .int .i64 (chkErr c)]) ∧ Below (w.alloc (.cells #[.slice A0 c.nodes.length c0, .slice A1 c.names.length c1, .slice A2 c.mems.length c2, .slice A3 c.outs.length c3] 56)).heap.size (w.alloc (.cells #[.slice A0 c.nodes.length c0, .slice A1 c.names.length c1, .slice A2 c.mems.length c2, .slice A3 c.outs.length c3] 56)) w') fun e w' ⟨h1, h2⟩ => by
      rcases h2 with ⟨h0, -⟩ | ⟨-, he⟩
      · exact absurd h0 hck
      · exact ⟨he, h1⟩
    obtain ⟨z, HZ⟩ := named (chkErr c)
    rw [← HZ.out] at hL2 hck
    have hz : (z == 0) = false := by simpa using hck
    have HCK := Lib.hid hck
    clear hL hck
    generalize c.names.length = n1 at hL2 hbW ⊢
    generalize c.mems.length = n2 at hL2 hbW ⊢
    generalize c.outs.length = n3 at hL2 hbW ⊢
    obtain ⟨n, HN⟩ := named c.nodes.length
    rw [← HN.out] at hL2 hbW
    rw [← HN.out]
    have HL := Lib.hid hL2
    have HBW := Lib.hid hbW
    clear hL2 hbW
    go_enter Tryd.func43, Tryd.ntmps43
    go_wp2_with (go_at_call 55; (with_reducible refine HL.out.mono ?_); rintro e w1 ⟨rfl, hb⟩; have HB1 := Lib.hid hb; clear hb)
    go_ret2
    exact ⟨below_new (joinB HBW.out HB1.out) _, .inr ⟨by rw [← HZ.out]; exact HCK.out, by rw [← HZ.out]; rfl⟩⟩

end Go.Proofs.YtemogllidmgbfaaDoor

namespace Go.Proofs.YtemogllidmgbfaaDoor
open Go.RowKit

/-- Order at any node count: the error of Check, and a list of indices without one. -/
def OrdG (c : Ck) (w : World) (e : Ending) (w' : World) : Prop :=
  Below w.heap.size w w' ∧ ((chkErr c = 0 ∧ ∃ d R, Rg c.nodes.length R ∧ w.heap.size ≤ d ∧ e = .returned (.tuple #[.slice (some ⟨d, 0, none⟩) c.nodes.length c.nodes.length, .int .i64 0]) ∧ Row w' d R) ∨ (chkErr c ≠ 0 ∧ e = .returned (.tuple #[.slice none 0 0, .int .i64 (chkErr c)])))

set_option maxRecDepth 100000 in
set_option maxHeartbeats 4000000 in
theorem order_rg (c : Ck) (v : Value) (w : World) (B : Nat) (hB : B ≤ w.heap.size) (hT : Tabs w) (hc : Cir w B v c) (hn20 : c.nodes.length ≤ 1000000) :
    Calls Tryd.prog 43 #[v] w (OrdG c w) := by
  have hb0 := hc
  obtain ⟨v0, v1, v2, v3, rfl, hns, hss, hms, hos⟩ := hc
  obtain ⟨A0, b0, o0, c0, rfl, -⟩ := id hns
  obtain ⟨A1, b1, o1, c1, rfl, -⟩ := id hss
  obtain ⟨A2, b2, o2, c2, rfl, -⟩ := id hms
  obtain ⟨A3, b3, o3, c3, rfl, -⟩ := id hos
  have hbW : Below w.heap.size w (w.alloc (.cells #[.slice A0 c.nodes.length c0, .slice A1 c.names.length c1, .slice A2 c.mems.length c2, .slice A3 c.outs.length c3] 56)) := (Below.refl _ _).alloc (Nat.le_refl _) _
  have hL := levels_any c _ _ B (Nat.le_trans hB hbW.size) (hT.below hbW) (hb0.below (hbW.mono hB))
  clear hns hss hms hos hb0 hT
  by_cases hck : chkErr c = 0
  · have hL2 := hL.mono (R' := fun e w' => ∃ L g, e = .returned (.tuple #[.slice (some ⟨g, 0, none⟩) c.nodes.length c.nodes.length, .int .i64 0]) ∧ Below (w.alloc (.cells #[.slice A0 c.nodes.length c0, .slice A1 c.names.length c1, .slice A2 c.mems.length c2, .slice A3 c.outs.length c3] 56)).heap.size (w.alloc (.cells #[.slice A0 c.nodes.length c0, .slice A1 c.names.length c1, .slice A2 c.mems.length c2, .slice A3 c.outs.length c3] 56)) w' ∧ w.heap.size ≤ g ∧ Row w' g L ∧ shapeErr c = 0 ∧ Lvl c.nodes L ∧ (∀ i : Nat, i < c.nodes.length → lat L i < (c.nodes.length : Int))) fun e w' ⟨h1, h2⟩ => by
      rcases h2 with ⟨-, h0, L, g, hl, hbd, hg, he, hr⟩ | ⟨hne, -⟩
      · exact ⟨L, g, he, h1, Nat.le_trans hbW.size hg, hr, h0, hl, hbd⟩
      · exact absurd hck hne
    have HCK := Lib.hid hck
    clear hL hck
    generalize c.names.length = n1 at hL2 hbW ⊢
    generalize c.mems.length = n2 at hL2 hbW ⊢
    generalize c.outs.length = n3 at hL2 hbW ⊢
    obtain ⟨n, HN⟩ := named c.nodes.length
    rw [← HN.out] at hL2 hbW hn20
    rw [← HN.out]
    have HL := Lib.hid hL2
    have HBW := Lib.hid hbW
    clear hL2 hbW
    obtain ⟨i0, hi, hz0, hz1, hz2⟩ := info_parts info_int
    have HI := Lib.hid (And.intro hi (And.intro hz0 (And.intro hz1 hz2)))
    clear hi hz0 hz1 hz2
    go_enter Tryd.func43, Tryd.ntmps43
    go_wp2_with (first
      | (go_at_call 55; (with_reducible refine HL.out.mono ?_); rintro e w1 ⟨L, g, rfl, hb, hwg, hr, hsh, hl, hbd⟩; have HB1 := Lib.hid hb; have HR := Lib.hid hr; have HSH := Lib.hid hsh; have HLV := Lib.hid hl; have HBD := Lib.hid hbd; clear hb hr hsh hl hbd)
      | (at_make; refine wpList_make_full _ rfl _ _ 54 rfl w.heap.size 3 i0 (.int .i64 0) 1 Tryd.underlying54 HI.out.1 HI.out.2.1 HI.out.2.2.1 .i64 .i64 _ _ n rfl rfl rfl rfl ?b2 ?b3 ?b4 ?_))
    case b2 => rw [HI.out.2.2.2]; omega
    case b3 => unfold maxLen; omega
    case b4 => have := (joinB HBW.out HB1.out).size; simp; omega
    intro w2 hown hgr
    rw [fillL_start (fun j => .int .i64 (j : Int))] at hown
    obtain ⟨w1v, HW1⟩ := named (w1.alloc (.cells #[.slice (some ⟨g, 0, none⟩) n n] 54))
    have hz1 : w1v.heap.size = w1.heap.size + 1 := by rw [HW1.out]; simp
    rw [← HW1.out] at hgr
    have hb1v : Below w.heap.size w w1v := by rw [HW1.out]; exact below_new (joinB HBW.out HB1.out) _
    have hrv : Row w1v g L := by rw [HW1.out]; exact HR.out.below ((Below.refl _ _).alloc (Nat.le_refl _) _)
    have hcv : w1v.cell? ⟨w1.heap.size, 0, none⟩ = some (.slice (some ⟨g, 0, none⟩) n n) := by rw [HW1.out, World.cell?_alloc_at _ _ _ _ rfl]; rfl
    have hb2 : Below w.heap.size w w2 := hb1v.grown hgr hb1v.size (fun k h => by cases h)
    have hr2 : Row w2 g L := hrv.kept hgr (by simp)
    have hc2 : w2.cell? ⟨w1.heap.size, 0, none⟩ = some (.slice (some ⟨g, 0, none⟩) n n) := hgr.cell hcv (by simp)
    have hgl : g < w1.heap.size := HR.out.lt
    have hbz : w.heap.size ≤ w1.heap.size := (joinB HBW.out HB1.out).size
    have hsz2 : w1.heap.size + 1 < w2.heap.size := (World.ownsRow.lt hown _ rfl).2
    have HO := Lib.hid hown
    have HB2 := Lib.hid hb2
    have HR2 := Lib.hid hr2
    have HC2 := Lib.hid hc2
    obtain ⟨d, HD⟩ := named (w1.heap.size + 1)
    rw [← HD.out]
    rw [← HD.out] at HO
    obtain ⟨q, HQ⟩ := named w1.heap.size
    rw [← HQ.out] at HC2
    rw [← HQ.out]
    have hdg : d ≠ g := by rw [HD.out]; omega
    have hdq : d ≠ q := by rw [HD.out, HQ.out]; omega
    have hdw : w.heap.size ≤ d := by rw [HD.out]; omega
    have hqc : w2.cell? ⟨q, 0, none⟩ = some (.slice (some ⟨g, 0, none⟩) n n) := HC2.out
    have hdz : d < w2.heap.size := by rw [HD.out]; omega
    clear hown hgr hb2 hr2 hc2 hcv hrv hb1v hz1 hgl hbz hsz2 hwg
    go_wp2
    go_loopw [21] (fun i wr => ∃ k : Nat, k ≤ n ∧ i = .int .i64 k ∧ Below w.heap.size w wr ∧ wr.heap.size = w2.heap.size ∧ Row wr g L ∧ wr.cell? ⟨q, 0, none⟩ = some (.slice (some ⟨g, 0, none⟩) n n) ∧
      wr.ownsRow w.heap.size 3 1 (.slice (some ⟨d, 0, none⟩) n n) n (fillL (fun j => .int .i64 (j : Int)) (.int .i64 0) n k)) (fun i _ => n - (intOf i).toNat)
    case atStart => exact ⟨0, Nat.zero_le _, rfl, HB2.out, rfl, HR2.out, HC2.out, HO.out⟩
    case round =>
      clear HO HB2 HR2 HC2 hqc
      obtain ⟨k, hk, rfl, hb, hsz, hr, hqc, hown⟩ := hrel
      have HBL := Lib.hid hb
      have HO := Lib.hid hown
      have HR2 := Lib.hid hr
      have HSZ := Lib.hid hsz
      clear hb hown hr hsz
      by_cases hlt : k < n
      · have hfz : wr.frozen? ⟨d, k, none⟩ = false := HO.out.frozenAt k
        have hcl : wr.cell? ⟨d, k, none⟩ = some (.int .i64 0) := by
          rw [HO.out.cellAt k (by omega), fillL_get _ _ _ _ _ hlt, if_neg (by omega)]
        have HS := Lib.hid (HO.out.stored k (.int .i64 (k : Int))).1
        have HQC := Lib.hid hqc
        clear hqc
        go_wp2
        go_roundw
        case rel =>
          refine ⟨k + 1, by omega, by go_num, HBL.out.setCell hdw _, by rw [World.size_setCell]; exact HSZ.out, HR2.out.otherS hdg _, ?_, ?_⟩
          · rw [World.cell?_setCell_other _ _ _ _ (by simp [hdq])]; exact HQC.out
          · rw [← fillL_set (fun j => .int .i64 (j : Int)) (.int .i64 0) n k]; exact HS.out
        case measure => simp [intOf]; omega
      · obtain rfl : n = k := by omega
        have hrow : Row wr d (rng 0 n) := by
          have := HO.out
          rw [fillL_rng] at this
          unfold Row
          rw [rng_len, Nat.sub_zero]
          refine ⟨this.1, ?_⟩
          rcases this.2 with ⟨e, -⟩ | ⟨g', cap, cur, e, hb', hg', hle, hmx, hs', ht'⟩
          · cases e
          · simp only [Value.slice.injEq, Option.some.injEq, Addr.mk.injEq] at e
            obtain ⟨⟨rfl, -⟩, -, rfl⟩ := e
            exact .inr ⟨d, n, cur, rfl, Nat.le_refl _, hg', hle, hmx, hs', ht'⟩
        have hsort := sort_w L n d g q w.heap.size wr wr hdw hdg hdq (by rw [HLV.out.1, HN.out]) hn20 ⟨rng 0 n, rng_rg n, Below.refl _ _, rfl, hrow, HR2.out, hqc⟩
        have HSRT := Lib.hid hsort
        clear hsort hrow hqc
        go_wp2_with (go_at_call 56; (with_reducible refine HSRT.out.mono ?_); rintro e w4 ⟨rfl, R, h1, h2⟩; have HRR := Lib.hid h1; have HSS := Lib.hid h2; clear h1 h2)
        go_ret2
        unfold OrdG
        rw [← HN.out]
        exact ⟨HBL.out.trans HSS.out.bel, .inl ⟨HCK.out, d, R, HRR.out, hdw, rfl, HSS.out.row⟩⟩
  · have hL2 := hL.mono (R' := fun e w' => e = .returned (.tuple #[.slice none 0 0, .int .i64 (chkErr c)]) ∧ Below (w.alloc (.cells #[.slice A0 c.nodes.length c0, .slice A1 c.names.length c1, .slice A2 c.mems.length c2, .slice A3 c.outs.length c3] 56)).heap.size (w.alloc (.cells #[.slice A0 c.nodes.length c0, .slice A1 c.names.length c1, .slice A2 c.mems.length c2, .slice A3 c.outs.length c3] 56)) w') fun e w' ⟨h1, h2⟩ => by
      rcases h2 with ⟨h0, -⟩ | ⟨-, he⟩
      · exact absurd h0 hck
      · exact ⟨he, h1⟩
    obtain ⟨z, HZ⟩ := named (chkErr c)
    rw [← HZ.out] at hL2 hck
    have hz : (z == 0) = false := by simpa using hck
    have HCK := Lib.hid hck
    clear hL hck
    generalize c.names.length = n1 at hL2 hbW ⊢
    generalize c.mems.length = n2 at hL2 hbW ⊢
    generalize c.outs.length = n3 at hL2 hbW ⊢
    obtain ⟨n, HN⟩ := named c.nodes.length
    rw [← HN.out] at hL2 hbW
    rw [← HN.out]
    have HL := Lib.hid hL2
    have HBW := Lib.hid hbW
    clear hL2 hbW
    go_enter Tryd.func43, Tryd.ntmps43
    go_wp2_with (go_at_call 55; (with_reducible refine HL.out.mono ?_); rintro e w1 ⟨rfl, hb⟩; have HB1 := Lib.hid hb; clear hb)
    go_ret2
    exact ⟨below_new (joinB HBW.out HB1.out) _, .inr ⟨by rw [← HZ.out]; exact HCK.out, by rw [← HZ.out]; rfl⟩⟩

end Go.Proofs.YtemogllidmgbfaaDoor

namespace Go.Proofs.YtemogllidmgbfaaDoor
open Go.RowKit

def RunW (w : World) (e : Ending) (w' : World) : Prop :=
  ∃ A m c B n d D k f, e = .returned (.tuple #[.agg #[.slice A m c, .slice B n d], .slice D k f, .int .i64 0]) ∧ Below w.heap.size w w'

end Go.Proofs.YtemogllidmgbfaaDoor

namespace Go.Proofs.YtemogllidmgbfaaDoor
open Go.RowKit

end Go.Proofs.YtemogllidmgbfaaDoor
