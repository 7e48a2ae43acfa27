/- The texts Ofg Ofn Ofs Ofv Ofw Frk Hef Ofx Lcv. -/
import Derived.Test.YtemogllidmgbfaaDoorM32
import Derived.Test.YtemogllidmgbfaaDoorM17
import Derived.Test.YtemogllidmgbfaaDoorM30
import Derived.Test.YtemogllidmgbfaaDoorM19
import Derived.Laws.BytesArg
import Derived.Test.YtemogllidmgbfaaDoorM11
import Derived.Deep.DeepCutAuto
import Derived.Deep.CutBlock
import Derived.Deep.RegionHeld3
import Derived.Test.YtemogllidmgbfaaDoorM13
namespace Go.Proofs.YtemogllidmgbfaaDoor
open Go.RowKit

theorem isK_12 (x : Int) : isK [12] x = (x == 12) := by simp [isK, anyP]
theorem Fr.low {w w' : World} {B g : Nat} {t : TypeId} {cs : List Value} (h : Fr w g t cs) (hb : Below B w w') (hg : g < B) : Fr w' g t cs := by
  unfold Fr at *
  exact (hb.block g hg).trans h
theorem one_at {w : World} {b : Nat} {v : Value} (h : w.cell? ⟨b, 0, none⟩ = some v) : ∀ (j : Nat) (u : Value), [v][j]? = some u → w.cell? ((⟨b, 0, none⟩ : Addr).add j) = some u := by
  intro j u hj
  match j, hj with
  | 0, hj =>
    simp at hj
    subst hj
    simpa [Addr.add] using h
/-- What an append leaves beside its row. -/
theorem gate_app {w0 W w2 : World} {z z1 q2 : Nat} {T : TypeId} {cs1 cs2 : List Value} {v' : Value} (h1 : Fr W z1 T cs1) (h2 : Fr W q2 T cs2) (h0 : BelW w0 W) (hgr : W.grownBy w2 (some z)) (h01 : w0.heap.size ≤ z) (hz1 : z1 ≠ z) (hz2 : q2 ≠ z)
    (hloc : v'.ownBlock = some z ∨ v'.ownBlock = some W.heap.size) (hs1 : z1 < W.heap.size) (hs2 : q2 < W.heap.size) : Fr w2 z1 T cs1 ∧ Fr w2 q2 T cs2 ∧ BelW w0 w2 ∧ v'.ownBlock ≠ some z1 ∧ v'.ownBlock ≠ some q2 := by
  refine ⟨?_, ?_, ?_, ?_, ?_⟩
  · exact (hgr.block z1 hs1 (by simpa using hz1)).trans h1
  · exact (hgr.block q2 hs2 (by simpa using hz2)).trans h2
  · exact Below.grown h0 hgr (Below.size h0) (fun q hq => by simp at hq; omega)
  · rcases hloc with h | h <;> rw [h] <;> simp <;> omega
  · rcases hloc with h | h <;> rw [h] <;> simp <;> omega
theorem stk_set {w : World} {base b j : Nat} {v : Value} {l : List Int} (h : w.ownsRow base 3 1 v l.length (l.map (Value.int .i64))) (hb : v.ownBlock ≠ some b) (u : Value) : Stk (w.setCell ⟨b, j, none⟩ u) base v l :=
  World.ownsRow.kept h (grown_set w b j u) (.inr hb)
theorem Stk.set_other {w : World} {base b : Nat} {v : Value} {l : List Int} (h : Stk w base v l) (hb : v.ownBlock ≠ some b) (j : Nat) (u : Value) : Stk (w.setCell ⟨b, j, none⟩ u) base v l :=
  World.ownsRow.kept h (grown_set w b j u) (.inr hb)
def GatePost (nd : Nd) (w : World) (e : Ending) (w' : World) : Prop :=
  (∃ A cc, e = .returned (.agg #[.int .u8 nd.kind, .slice A nd.ins.length cc, .int .i64 nd.mem, .int .i64 nd.bit]) ∧ Is w' w'.heap.size (.slice A nd.ins.length cc) nd.ins ∧ ∀ a : Addr, A = some a → w.heap.size ≤ a.block) ∧ Below w.heap.size w w'

end Go.Proofs.YtemogllidmgbfaaDoor

namespace Go.Proofs.YtemogllidmgbfaaDoor
open Go.RowKit

theorem conv_name (w : World) (x y : Int) (s : ByteArray) (h : strOfNums [110, x, y] = s) :
    (convert 66 9 (.slice (some ⟨w.heap.size, 0, none⟩) 3 3)).run Tryd.prog (w.alloc (.cells #[.int .u8 110, .int .u8 x, .int .u8 y] 5)) = .ok (.string s) (w.alloc (.cells #[.int .u8 110, .int .u8 x, .int .u8 y] 5)) := by
  rw [← h]
  exact run_convert_bytes_arg (P := Tryd.prog) (w.alloc (.cells #[.int .u8 110, .int .u8 x, .int .u8 y] 5)) 66 5 Tryd.underlying66 Tryd.underlying5 w.heap.size 0 3 3 [110, x, y] rfl (fun i hi => by
    rw [World.cell?_alloc_at _ _ _ _ rfl]
    have h3 : i = 0 ∨ i = 1 ∨ i = 2 := by omega
    rcases h3 with rfl | rfl | rfl <;> rfl) 9 Tryd.underlying9

end Go.Proofs.YtemogllidmgbfaaDoor

namespace Go.Proofs.YtemogllidmgbfaaDoor
open Go.RowKit

def GAt (w : World) (_B b p : Nat) (g : Gx) : Prop := w.cell? ⟨b, p, none⟩ = some (.int .u8 g.kind) ∧ w.cell? ⟨b, p + 1, none⟩ = some (.int .u8 g.i0) ∧ w.cell? ⟨b, p + 2, none⟩ = some (.int .u8 g.i1) ∧ w.cell? ⟨b, p + 3, none⟩ = some (.int .u8 g.i2)
theorem stays_g : Stays GAt := fun w w' B B' b p x hb hB ⟨h0, h1, h2, h3⟩ hk => ⟨(hk ⟨b, p, none⟩ hb).trans h0, (hk ⟨b, p + 1, none⟩ hb).trans h1, (hk ⟨b, p + 2, none⟩ hb).trans h2, (hk ⟨b, p + 3, none⟩ hb).trans h3⟩
def Gs (w : World) (B : Nat) (v : Value) (l : List Gx) : Prop := Arr default 4 GAt w B v l
theorem Gs.below {w w' : World} {B : Nat} {v : Value} {l : List Gx} (h : Gs w B v l) (hb : Below B w w') : Gs w' B v l := Arr.keep stays_g h (Nat.le_refl _) fun _ hp => hb.cell hp

def xCs (x : Cx) (sG sO : Value) : List Value := [.int .u8 x.inN, .int .u8 x.dffs, .int .u8 x.d0, .int .u8 x.d1, .bool x.bus, .bool x.mem, .int .u8 x.p0, .int .u8 x.p1, .int .u8 x.p2, .int .u8 x.p3, sG, sO]
def nil4 : List Value := [.slice none 0 0, .slice none 0 0, .slice none 0 0, .slice none 0 0]
section
variable {xs : List Value} {w wr w1 w2 : World} {q1 q2 q3 T : Nat} {sN sS sM sO u : Value}
theorem Fr.grown {g : Nat} {t : TypeId} {cs : List Value} {R : Option Nat} (h : Fr wr g t cs) (hg : wr.grownBy w1 R) (hR : R ≠ some g) : Fr w1 g t cs :=
  (hg.block g h.lt (fun e => hR e.symm)).trans h
end
theorem gateN_kind (bus : Bool) (g : Gx) (nodes : List Nd) (hg : Gok g) : 0 ≤ (gateN bus g nodes).kind ∧ (gateN bus g nodes).kind ≤ 15 := by
  have h := kindG_ge bus g.kind
  have h0 := hg.2.1
  unfold U8 at h0
  unfold gateN
  repeat' split
  all_goals (dsimp only; omega)
theorem baseN_kind (x : Cx) : ∀ nd ∈ baseN x, 0 ≤ nd.kind ∧ nd.kind ≤ 15 := by
  intro nd hnd
  unfold baseN at hnd
  rw [List.mem_append, List.mem_append] at hnd
  rcases hnd with (h | h) | h
  · rw [(List.mem_replicate.1 h).2]; decide
  · rw [(List.mem_replicate.1 h).2]; decide
  · split at h
    · simp at h; rcases h with rfl | rfl <;> decide
    · simp at h
theorem gatesTo_kind (x : Cx) (hx : Cok x) : ∀ k, k ≤ x.gates.length → ∀ nd ∈ gatesTo x k, 0 ≤ nd.kind ∧ nd.kind ≤ 15
  | 0, _ => baseN_kind x
  | k + 1, hk => by
    intro nd hnd
    rw [gatesTo, List.mem_append] at hnd
    rcases hnd with h | h
    · exact gatesTo_kind x hx k (by omega) nd h
    · rw [List.mem_singleton.1 h]; exact gateN_kind _ _ _ (hx.gates k (by omega))
theorem getD_append_left' {α : Type} (d : α) (l l' : List α) (k : Nat) (h : k < l.length) : (l ++ l').getD k d = l.getD k d := by simp [List.getD_eq_getElem?_getD, List.getElem?_append_left h]
theorem baseN_dff (x : Cx) (k : Nat) (hk : k < dffsN x) : (baseN x).getD (firstN x + k) default = dffN 0 := by
  unfold baseN
  rw [getD_append_left' _ _ _ _ (by simp; omega), List.getD_eq_getElem?_getD, List.getElem?_append_right (by simp)]
  simp [hk]
theorem gatesTo_base (x : Cx) (j : Nat) (hj : j < (baseN x).length) : ∀ k, (gatesTo x k).getD j default = (baseN x).getD j default
  | 0 => rfl
  | k + 1 => by
    rw [gatesTo, getD_append_left' _ _ _ _ (by rw [gatesTo_len]; omega), gatesTo_base x j hj k]
theorem dffTo_at (x : Cx) (j : Nat) (hj : j < dffsN x) : ∀ k, k ≤ j → (dffTo x k).getD (firstN x + j) default = dffN 0
  | 0, _ => by
    have h := baseN_len x
    show (gatesTo x (gatesN x)).getD _ _ = _
    rw [gatesTo_base x _ (by rw [h]; omega), baseN_dff x j hj]
  | k + 1, hk => by
    have h := sizeN_le x
    rw [dffTo, getD_set' _ _ _ _ _ (by rw [dffTo_len]; omega), if_neg (by omega), dffTo_at x j hj k (by omega)]
theorem dffTo_kind (x : Cx) (k : Nat) (hk : k < dffsN x) (i : Nat) (hi : i = firstN x + k) : (14 : Int) = ((dffTo x k).getD i default).kind ∧ (0 : Int) = ((dffTo x k).getD i default).mem ∧ (0 : Int) = ((dffTo x k).getD i default).bit := by
  subst hi
  rw [dffTo_at x k hk k (Nat.le_refl _)]
  exact ⟨rfl, rfl, rfl⟩
theorem own_at {v : Value} {g9 H n c : Nat} (h : v.ownBlock = some g9 ∨ g9 = H) : (Value.slice (some ⟨g9, 0, none⟩) n c).ownBlock = v.ownBlock ∨ (Value.slice (some ⟨g9, 0, none⟩) n c).ownBlock = some H := by
  rcases h with h | h
  · exact .inl h.symm
  · exact .inr (by rw [← h]; rfl)
theorem own_len {w : World} {T : Nat} {e : TypeId} {sz : Nat} {v : Value} {n m : Nat} {xs : List Value} (h : n = m) (hr : w.ownsRow T e sz v (m + 1) xs) : w.ownsRow T e sz v (n + 1) xs := by rw [h]; exact hr
theorem outsTo_succ (x : Cx) (k : Nat) : outsTo x (k + 1) = outsTo x k ++ [ix (x.outs.getD k 0) (sizeN x)] := by simp [outsTo, List.range_succ]
theorem outsTo_len (x : Cx) (k : Nat) : (outsTo x k).length = k := by simp [outsTo]
theorem stk_al' {w : World} {T k : Nat} {v : Value} {l : List Int} (h : Stk w T v l) (hk : l.length = k) (o : Obj) : (w.alloc o).ownsRow T 3 1 v k (l.map (Value.int .i64)) := by
  subst hk; exact World.ownsRow.alloc h o
theorem stk_al {w : World} {T k : Nat} {v : Value} {l : List Int} (h : Stk w T v l) (hk : l.length = k) (o : Obj) : (w.alloc o).drew.ownsRow T 3 1 v k (l.map (Value.int .i64)) := stk_al' h hk o
theorem stk_of {w : World} {T k : Nat} {v : Value} {l l' : List Int} {y : Int} (e : l' = l ++ [y]) (hk : l.length = k) (h : w.ownsRow T 3 1 v (k + 1) (l.map (Value.int .i64) ++ [.int .i64 y])) : Stk w T v l' := by
  subst e hk
  unfold Stk
  rw [List.length_append, List.map_append]
  exact h
def nameV (k : Nat) : List Value := (List.range k).map fun i => Value.string (nameB i)
theorem nameV_succ (k : Nat) : nameV (k + 1) = nameV k ++ [.string (nameB k)] := by simp [nameV, List.range_succ]
theorem nameV_len (k : Nat) : (nameV k).length = k := by simp [nameV]
theorem dffTo_kinds (x : Cx) (hx : Cok x) : ∀ k, ∀ nd ∈ dffTo x k, 0 ≤ nd.kind ∧ nd.kind ≤ 15
  | 0 => gatesTo_kind x hx _ (by unfold gatesN; omega)
  | k + 1 => by
    intro nd hnd
    rw [dffTo] at hnd
    rcases List.mem_or_eq_of_mem_set hnd with h | rfl
    · exact dffTo_kinds x hx k nd h
    · exact ⟨show (0 : Int) ≤ 14 by decide, show (14 : Int) ≤ 15 by decide⟩
theorem ss_of {w : World} {T k : Nat} {v : Value} (h : w.ownsRow T 9 1 v k (nameV k)) : Ss w w.heap.size v ((List.range k).map nameB) := by
  rcases id h.2 with ⟨rfl, hn⟩ | ⟨g, cap, cur, rfl, hb, hg, hle, hm, -⟩
  · subst hn; exact Arr.nil _ _ _ _ _
  · refine ⟨_, g, 0, cap, by simp, fun _ => rfl, by simpa using hle, by simpa using Nat.le_trans hle hm, fun j hj => ⟨(Array.getElem?_eq_some_iff.1 hg).1, ?_⟩⟩
    have hj' : j < k := by simpa using hj
    have e : ((List.range k).map nameB).getD j ByteArray.empty = nameB j := by simp [hj', List.getD_eq_getElem?_getD]
    rw [e]
    refine ⟨?_, by show 3 ≤ maxLen; unfold maxLen; omega⟩
    rw [Nat.zero_add, h.cellAt _ (by omega), Nat.mul_one]
    simp [nameV, hj']
theorem of_fin {x : Cx} (hx : Cok x) {V1 wF : World} {T T2 H : Nat} {sN sS sM sO : Value} {ss : List Value} (hn : NR V1 T sN (nodesN x) ss) (hnm : V1.ownsRow T2 9 1 sS (sizeN x) (nameV (sizeN x))) (hT2 : T ≤ T2) (hM : Ms wF wF.heap.size sM (memsN x))
    (ho : Stk wF H sO (outsTo x (outsN x) ++ [(sizeN x : Int) - 1])) (hk : Kp T none V1 wF) : Cir wF wF.heap.size (.agg #[sN, sS, sM, sO]) (ofC x) := by
  have hz := sizeN_le x
  refine ⟨_, _, _, _, rfl, (hn.keep hk).reads (fun k hk' => ?_), ss_of (own_kp hnm hT2 hk (Classical.em _)), hM, ?_⟩
  · have h := dffTo_kinds x hx (dffsN x) ((nodesN x).getD k default) (getD_mem_nd hk')
    omega
  · refine ho.all ?_
    rw [List.length_append, outsTo_len]
    have : outsN x ≤ 3 := by unfold outsN; omega
    simp [maxLen]; omega
theorem info_node : (Tryd.prog.info? 73).map (fun i => (i.zero, i.size, i.bytes)) = some (some (.agg #[.int .u8 0, .slice none 0 0, .int .i64 0, .int .i64 0]), 4, 48) := by kernel_rfl
theorem rep_succ (k : Nat) (x : Nd) : List.replicate k x ++ [x] = List.replicate (k + 1) x := by rw [List.replicate_succ']
theorem four_new (w : World) (a b c d : Value) (t : TypeId) {n : Nat} (hn : n = w.heap.size) : ∀ (j : Nat) (x : Value), [a, b, c, d][j]? = some x → (w.alloc (.cells #[a, b, c, d] t)).cell? ((⟨n, 0, none⟩ : Addr).add j) = some x := by
  subst hn
  intro j x hj
  have hadd : (⟨w.heap.size, 0, none⟩ : Addr).add j = ⟨w.heap.size, j, none⟩ := by unfold Addr.add; split <;> simp_all
  rw [hadd, World.cell?_alloc_at _ _ _ _ rfl]
  simpa using hj
theorem eight_new (w : World) (a b c d e f g h : Value) (t : TypeId) {n : Nat} (hn : n = w.heap.size) : ∀ (j : Nat) (x : Value), [a, b, c, d, e, f, g, h][j]? = some x → (w.alloc (.cells #[a, b, c, d, e, f, g, h] t)).cell? ((⟨n, 0, none⟩ : Addr).add j) = some x := by
  subst hn
  intro j x hj
  have hadd : (⟨w.heap.size, 0, none⟩ : Addr).add j = ⟨w.heap.size, j, none⟩ := by unfold Addr.add; split <;> simp_all
  rw [hadd, World.cell?_alloc_at _ _ _ _ rfl]
  simpa using hj
end Go.Proofs.YtemogllidmgbfaaDoor

namespace Go.Proofs.YtemogllidmgbfaaDoor
open Go.RowKit

theorem ofTo_mem {nodes : List Nd} {kl : List Int} {k : Nat} {x : Int} (h : x ∈ ofTo nodes kl k) : ∃ i : Nat, x = (i : Int) ∧ i < k ∧ isK kl (nodes.getD i default).kind = true := by
  unfold ofTo at h
  obtain ⟨i, hi, rfl⟩ := List.mem_map.1 h
  obtain ⟨h1, h2⟩ := List.mem_filter.1 hi
  exact ⟨i, rfl, List.mem_range.1 h1, h2⟩
theorem ints_mem {l : List Int} {k : Nat} (h : k < l.length) : l.getD k 0 ∈ l := by
  rw [List.getD_eq_getElem?_getD, List.getElem?_eq_getElem h]; exact List.getElem_mem h
theorem tris_at {nodes : List Nd} {k : Nat} (h : k < (trisOf nodes).length) : ∃ i : Nat, (trisOf nodes).getD k 0 = (i : Int) ∧ i < nodes.length ∧ (nodes.getD i default).kind = 12 := by
  obtain ⟨i, h1, h2, h3⟩ := ofTo_mem (ints_mem h)
  rw [isK_12] at h3
  exact ⟨i, h1, h2, by simpa using h3⟩
/-- A gate's pins name earlier nodes; its number of pins fits; a Bus reads Tris. -/
structure Gate (nodes : List Nd) (nd : Nd) : Prop where
  lo : 1 ≤ nd.kind
  hi : nd.kind ≤ 13
  wid : Proofs.YtemogllidmgbfaaDoor.lo nd.kind ≤ nd.ins.length ∧ (nd.ins.length : Int) ≤ Proofs.YtemogllidmgbfaaDoor.hi nd.kind
  ins : ∀ y ∈ nd.ins, ∃ i : Nat, y = (i : Int) ∧ i < nodes.length
  bus : nd.kind = 13 → ∀ y ∈ nd.ins, (nodes.getD y.toNat default).kind = 12
  mem : nd.mem = 0
  bit : nd.bit = 0
theorem gate_good (bus : Bool) (g : Gx) (hg : Gok g) (nodes : List Nd) (h0 : 0 < nodes.length) : Gate nodes (gateN bus g nodes) := by
  obtain ⟨gk, g0, g1, g2⟩ := g
  obtain ⟨⟨hk0, hk1⟩, ⟨h00, h01⟩, -, -⟩ := hg
  dsimp only at hk0 hk1 h00 h01
  obtain ⟨ka, hka, hkal⟩ := ix_lt g0 h0
  obtain ⟨kb, hkb, hkbl⟩ := ix_lt g1 h0
  obtain ⟨kd, hkd, hkdl⟩ := ix_lt g2 h0
  have hr := kindG_ge bus gk
  unfold ix at hka hkb hkd
  by_cases h6 : kindG bus gk < 6
  · have hc : kindG bus gk = 0 ∨ kindG bus gk = 1 ∨ kindG bus gk = 2 ∨ kindG bus gk = 3 ∨ kindG bus gk = 4 ∨ kindG bus gk = 5 := by omega
    by_cases h128 : 128 ≤ gk
    · rw [gateN_lt3 rfl h6 h128 hka hkb hkd]
      refine ⟨by dsimp only; omega, by dsimp only; omega, ?_, ?_, (fun h => by dsimp only at h; omega), rfl, rfl⟩
      · dsimp only
        rcases hc with h | h | h | h | h | h <;> rw [h] <;> simp only [List.length_cons, List.length_nil] <;> exact ⟨by decide, by decide⟩
      · intro y hy
        simp only [List.mem_cons, List.not_mem_nil, or_false] at hy
        rcases hy with rfl | rfl | rfl
        · exact ⟨ka, rfl, hkal⟩
        · exact ⟨kb, rfl, hkbl⟩
        · exact ⟨kd, rfl, hkdl⟩
    · rw [gateN_lt rfl h6 h128 hka hkb]
      refine ⟨by dsimp only; omega, by dsimp only; omega, ?_, ?_, (fun h => by dsimp only at h; omega), rfl, rfl⟩
      · dsimp only
        rcases hc with h | h | h | h | h | h <;> rw [h] <;> simp only [List.length_cons, List.length_nil] <;> exact ⟨by decide, by decide⟩
      · intro y hy
        simp only [List.mem_cons, List.not_mem_nil, or_false] at hy
        rcases hy with rfl | rfl
        · exact ⟨ka, rfl, hkal⟩
        · exact ⟨kb, rfl, hkbl⟩
  · by_cases h7 : kindG bus gk = 6
    · rw [gateN_not rfl h6 h7 hka]
      refine ⟨(by dsimp only; first | decide | omega), (by dsimp only; first | decide | omega), ⟨(by dsimp only; simp only [List.length_cons, List.length_nil]; decide), (by dsimp only; simp only [List.length_cons, List.length_nil]; decide)⟩, ?_, (fun h => by dsimp only at h; omega), rfl, rfl⟩
      intro y hy
      obtain rfl := List.mem_singleton.1 hy
      exact ⟨ka, rfl, hkal⟩
    · by_cases h8 : kindG bus gk = 7
      · rw [gateN_mux rfl h6 h7 h8 hka hkb hkd]
        refine ⟨(by dsimp only; first | decide | omega), (by dsimp only; first | decide | omega), ⟨(by dsimp only; simp only [List.length_cons, List.length_nil]; decide), (by dsimp only; simp only [List.length_cons, List.length_nil]; decide)⟩, ?_, (fun h => by dsimp only at h; omega), rfl, rfl⟩
        intro y hy
        simp only [List.mem_cons, List.not_mem_nil, or_false] at hy
        rcases hy with rfl | rfl | rfl
        · exact ⟨ka, rfl, hkal⟩
        · exact ⟨kb, rfl, hkbl⟩
        · exact ⟨kd, rfl, hkdl⟩
      · by_cases h9 : kindG bus gk = 9 ∨ kindG bus gk = 10
        · rw [gateN_tri rfl h9 hka hkb]
          refine ⟨(by dsimp only; first | decide | omega), (by dsimp only; first | decide | omega), ⟨(by dsimp only; simp only [List.length_cons, List.length_nil]; decide), (by dsimp only; simp only [List.length_cons, List.length_nil]; decide)⟩, ?_, (fun h => by dsimp only at h; omega), rfl, rfl⟩
          intro y hy
          simp only [List.mem_cons, List.not_mem_nil, or_false] at hy
          rcases hy with rfl | rfl
          · exact ⟨ka, rfl, hkal⟩
          · exact ⟨kb, rfl, hkbl⟩
        · by_cases h10 : 10 < kindG bus gk ∧ 0 < (trisOf nodes).length
          · obtain ⟨kt, hkt, hktl⟩ := ix_lt g0 h10.2
            unfold ix at hkt
            obtain ⟨i, e1, e2, e3⟩ := tris_at hktl
            by_cases h1 : 1 < (trisOf nodes).length
            · obtain ⟨ku, hku, hkul⟩ := ix_lt ((kt : Int) + 1) h10.2
              unfold ix at hku
              obtain ⟨j, f1, f2, f3⟩ := tris_at hkul
              rw [gateN_bus2 h10.1 rfl h1 hkt hku rfl rfl, e1, f1]
              refine ⟨(by dsimp only; first | decide | omega), (by dsimp only; first | decide | omega), ⟨(by dsimp only; simp only [List.length_cons, List.length_nil]; decide), (by dsimp only; simp only [List.length_cons, List.length_nil]; decide)⟩, ?_, fun _ => ?_, rfl, rfl⟩
              · intro y hy
                simp only [List.mem_cons, List.not_mem_nil, or_false] at hy
                rcases hy with rfl | rfl
                · exact ⟨i, rfl, e2⟩
                · exact ⟨j, rfl, f2⟩
              · intro y hy
                simp only [List.mem_cons, List.not_mem_nil, or_false] at hy
                rcases hy with rfl | rfl
                · exact e3
                · exact f3
            · rw [gateN_bus1 h10.1 rfl h10.2 h1 hkt rfl, e1]
              refine ⟨(by dsimp only; first | decide | omega), (by dsimp only; first | decide | omega), ⟨(by dsimp only; simp only [List.length_cons, List.length_nil]; decide), (by dsimp only; simp only [List.length_cons, List.length_nil]; decide)⟩, ?_, fun _ => ?_, rfl, rfl⟩
              · intro y hy
                obtain rfl := List.mem_singleton.1 hy
                exact ⟨i, rfl, e2⟩
              · intro y hy
                obtain rfl := List.mem_singleton.1 hy
                exact e3
          · by_cases h240 : 240 < gk
            · rw [gateN_const h6 h7 h8 (fun h => h9 (.inl h)) (fun h => h9 (.inr h)) h10 h240]
              have hc : g0 % 2 = 0 ∨ g0 % 2 = 1 := by omega
              refine ⟨by dsimp only; omega, by dsimp only; omega, ?_, (fun y hy => absurd hy (List.not_mem_nil)), (fun h => by dsimp only at h; omega), rfl, rfl⟩
              dsimp only
              rcases hc with h | h <;> rw [h] <;> simp only [List.length_cons, List.length_nil] <;> exact ⟨by decide, by decide⟩
            · rw [gateN_buf rfl h6 h7 h8 (fun h => h9 (.inl h)) (fun h => h9 (.inr h)) h10 h240 hka]
              refine ⟨(by dsimp only; first | decide | omega), (by dsimp only; first | decide | omega), ⟨(by dsimp only; simp only [List.length_cons, List.length_nil]; decide), (by dsimp only; simp only [List.length_cons, List.length_nil]; decide)⟩, ?_, (fun h => by dsimp only at h; omega), rfl, rfl⟩
              intro y hy
              obtain rfl := List.mem_singleton.1 hy
              exact ⟨ka, rfl, hkal⟩

theorem gatesTo_pre (x : Cx) (k : Nat) {j : Nat} (hj : j < (gatesTo x k).length) : ∀ d, (gatesTo x (k + d)).getD j default = (gatesTo x k).getD j default
  | 0 => rfl
  | d + 1 => by
    have h1 := gatesTo_len x k
    have h2 := gatesTo_len x (k + d)
    rw [← Nat.add_assoc, gatesTo, getD_append_left' _ _ _ _ (by omega), gatesTo_pre x k hj d]
theorem gatesTo_at (x : Cx) {k m : Nat} (hk : k < m) : (gatesTo x m).getD ((baseN x).length + k) default = gateN x.bus (x.gates.getD k default) (gatesTo x k) := by
  have h1 := gatesTo_len x k
  have h2 := gatesTo_len x (k + 1)
  have h := gatesTo_pre x (k + 1) (j := (baseN x).length + k) (by omega) (m - (k + 1))
  rw [show k + 1 + (m - (k + 1)) = m by omega] at h
  rw [h, gatesTo, getD_snoc' _ _ _ _ (by omega), if_pos h1.symm]
theorem dffTo_other (x : Cx) {j : Nat} : ∀ k, k ≤ dffsN x → (j < firstN x ∨ firstN x + k ≤ j) → (dffTo x k).getD j default = (gatesTo x (gatesN x)).getD j default
  | 0, _, _ => rfl
  | k + 1, hk, hj => by
    have h := sizeN_le x
    rw [dffTo, getD_set' _ _ _ _ _ (by rw [dffTo_len]; omega), if_neg (by omega), dffTo_other x k (by omega) (by omega)]
theorem dffTo_done (x : Cx) {j : Nat} : ∀ k, j < k → k ≤ dffsN x → (dffTo x k).getD (firstN x + j) default = dffN (ix (dataN x j) (sizeN x))
  | k + 1, hj, hk => by
    have h := sizeN_le x
    rw [dffTo, getD_set' _ _ _ _ _ (by rw [dffTo_len]; omega)]
    by_cases e : j = k
    · subst e; rw [if_pos rfl]; rfl
    · rw [if_neg (by omega)]
      exact dffTo_done x k (by omega) (by omega)
/-- What a node of C is. -/
theorem node_cases (x : Cx) (hx : Cok x) (j : Nat) (hj : j < sizeN x) :
    (j < firstN x ∧ (nodesN x).getD j default = inputN) ∨ (∃ d, (nodesN x).getD j default = dffN (ix d (sizeN x))) ∨ (x.mem = true ∧ ((nodesN x).getD j default = ⟨15, [], 0, 0⟩ ∨ (nodesN x).getD j default = ⟨15, [], 0, 1⟩)) ∨
      ∃ k g, k < gatesN x ∧ j = (gatesTo x k).length ∧ Gok g ∧ (nodesN x).getD j default = gateN x.bus g (gatesTo x k) := by
  have hb := baseN_len x
  have hg := gatesTo_len x (gatesN x)
  have hs : sizeN x = (gatesTo x (gatesN x)).length := rfl
  have hgn : gatesN x ≤ x.gates.length := by unfold gatesN; omega
  by_cases h1 : j < firstN x
  · refine .inl ⟨h1, ?_⟩
    unfold nodesN
    rw [dffTo_other x _ (Nat.le_refl _) (.inl h1), gatesTo_base x j (by omega)]
    unfold baseN
    rw [List.append_assoc, getD_append_left' _ _ _ _ (by simpa using h1)]
    simp [List.getD_eq_getElem?_getD, h1]
  · by_cases h2 : j < firstN x + dffsN x
    · refine .inr (.inl ⟨dataN x (j - firstN x), ?_⟩)
      have h := dffTo_done x (j := j - firstN x) (dffsN x) (by omega) (Nat.le_refl _)
      rw [show firstN x + (j - firstN x) = j by omega] at h
      exact h
    · have h3 : (nodesN x).getD j default = (gatesTo x (gatesN x)).getD j default := dffTo_other x _ (Nat.le_refl _) (.inr (by omega))
      by_cases h4 : j < (baseN x).length
      · refine .inr (.inr (.inl ?_))
        rw [h3, gatesTo_base x j h4]
        cases hm : x.mem
        · rw [hm] at hb; simp at hb; omega
        · refine ⟨rfl, ?_⟩
          rw [hm] at hb
          simp at hb
          have e : baseN x = (List.replicate (firstN x) inputN ++ List.replicate (dffsN x) (dffN 0)) ++ [⟨15, [], 0, 0⟩, ⟨15, [], 0, 1⟩] := by unfold baseN; rw [hm, if_pos rfl]
          rw [e, List.getD_eq_getElem?_getD, List.getElem?_append_right (by simp; omega)]
          have hc : j - (firstN x + dffsN x) = 0 ∨ j - (firstN x + dffsN x) = 1 := by omega
          rcases hc with hc | hc
          · left; simp [hc]
          · right; simp [hc]
      · refine .inr (.inr (.inr ⟨j - (baseN x).length, x.gates.getD (j - (baseN x).length) default, by omega, ?_, hx.gates _ (by omega), ?_⟩))
        · rw [gatesTo_len]; omega
        · rw [h3]
          have h := gatesTo_at x (k := j - (baseN x).length) (m := gatesN x) (by omega)
          rw [show (baseN x).length + (j - (baseN x).length) = j by omega] at h
          exact h

theorem kind_same (x : Cx) (j : Nat) (hj : j < sizeN x) : ((nodesN x).getD j default).kind = ((gatesTo x (gatesN x)).getD j default).kind := by
  by_cases h : j < firstN x ∨ firstN x + dffsN x ≤ j
  · unfold nodesN; rw [dffTo_other x _ (Nat.le_refl _) h]
  · have h1 := dffTo_done x (j := j - firstN x) (dffsN x) (by omega) (Nat.le_refl _)
    have h2 := dffTo_at x (j - firstN x) (by omega) 0 (Nat.zero_le _)
    rw [show firstN x + (j - firstN x) = j by omega] at h1 h2
    rw [show nodesN x = dffTo x (dffsN x) from rfl, h1, show gatesTo x (gatesN x) = dffTo x 0 from rfl, h2]; rfl
theorem ix_in (a : Int) {n : Nat} (h : 0 < n) : 0 ≤ ix a n ∧ ix a n < (n : Int) := by
  obtain ⟨k, h1, h2⟩ := ix_lt a h
  omega
/-- Every node of C is as it should be. -/
theorem ofC_node (x : Cx) (hx : Cok x) (j : Nat) (hj : j < sizeN x) : nodeErr (ofC x) ((nodesN x).getD j default) = 0 := by
  have hz := sizeN_le x
  have hlen : (ofC x).nodes.length = sizeN x := ofC_len x
  unfold nodeErr
  rcases node_cases x hx j hj with ⟨-, h⟩ | ⟨d, h⟩ | ⟨hm, h⟩ | ⟨k, g, hk, hjk, hg, h⟩
  · rw [h]; rfl
  · have hi := ix_in d (n := sizeN x) (by omega)
    rw [h]
    have ha : areIdx (ofC x).nodes.length (dffN (ix d (sizeN x))).ins = true := areIdx_iff.2 (by
      intro y hy
      obtain rfl := List.mem_singleton.1 hy
      rw [hlen]; exact hi)
    rw [ha]
    rfl
  · have e : (ofC x).mems = memsN x := rfl
    have e2 : memsN x = [⟨[ix x.p0 (sizeN x)], [ix x.p1 (sizeN x), ix x.p2 (sizeN x)], ix x.p3 (sizeN x)⟩] := by unfold memsN; rw [if_pos hm]
    rcases h with h | h
    · rw [h]; unfold placeOk; rw [e, e2]; rfl
    · rw [h]; unfold placeOk; rw [e, e2]; rfl
  · have h0 : 0 < (gatesTo x k).length := by rw [gatesTo_len, baseN_len]; have := firstN_le x; omega
    have G := gate_good x.bus g hg (gatesTo x k) h0
    rw [h]
    have ha : areIdx (ofC x).nodes.length (gateN x.bus g (gatesTo x k)).ins = true := areIdx_iff.2 (by
      intro y hy
      obtain ⟨i, rfl, hi⟩ := G.ins y hy
      rw [hlen]; omega)
    have hb : ¬ ((gateN x.bus g (gatesTo x k)).kind = 13 ∧ anyP (notTri (ofC x)) (gateN x.bus g (gatesTo x k)).ins = true) := by
      rintro ⟨h13, hany⟩
      obtain ⟨y, hy, hn⟩ := List.any_eq_true.1 hany
      obtain ⟨i, rfl, hi⟩ := G.ins y hy
      have hk2 := G.bus h13 _ hy
      rw [Int.toNat_natCast] at hk2
      have h3 := gatesTo_pre x k hi (gatesN x - k)
      rw [show k + (gatesN x - k) = gatesN x by omega] at h3
      have h4 := kind_same x i (by omega)
      rw [h3, hk2] at h4
      unfold notTri at hn
      rw [Int.toNat_natCast, show (ofC x).nodes = nodesN x from rfl, h4] at hn
      cases hn
    have hp : placeOk (ofC x) (gateN x.bus g (gatesTo x k)) = true := by
      unfold placeOk
      have := G.hi
      rw [if_neg (by omega), G.mem, G.bit]; rfl
    have h1 := G.lo
    have h2 := G.hi
    have h3 := G.wid
    rw [if_neg (by omega), if_neg (by omega), if_neg (by omega), ha, if_neg (by decide), if_neg hb, hp]
    rfl

theorem names_ok : ∀ n : Nat, n ≤ 16 → namesOk ((List.range n).map nameB) = true := by
  intro n hn
  have hc : n = 0 ∨ n = 1 ∨ n = 2 ∨ n = 3 ∨ n = 4 ∨ n = 5 ∨ n = 6 ∨ n = 7 ∨ n = 8 ∨ n = 9 ∨ n = 10 ∨ n = 11 ∨ n = 12 ∨ n = 13 ∨ n = 14 ∨ n = 15 ∨ n = 16 := by omega
  rcases hc with rfl | rfl | rfl | rfl | rfl | rfl | rfl | rfl | rfl | rfl | rfl | rfl | rfl | rfl | rfl | rfl | rfl <;> decide +kernel
/-- The levels of the first k nodes, where every node reads earlier ones. -/
def lvTo (nodes : List Nd) : Nat → List Int
  | 0 => []
  | k + 1 => lvTo nodes k ++ [levf (lvTo nodes k) (dep nodes k)]
theorem lvTo_len (nodes : List Nd) : ∀ k, (lvTo nodes k).length = k
  | 0 => rfl
  | k + 1 => by rw [lvTo, List.length_append, lvTo_len nodes k]; rfl
theorem lvTo_pre (nodes : List Nd) (k : Nat) {x : Int} (hx : x.toNat < k) : ∀ d, lat (lvTo nodes (k + d)) x = lat (lvTo nodes k) x
  | 0 => rfl
  | d + 1 => by
    have h := lvTo_len nodes (k + d)
    rw [← Nat.add_assoc, lvTo]
    unfold lat
    rw [getD_append_left' _ _ _ _ (by omega)]
    exact lvTo_pre nodes k hx d
theorem lvl_of {nodes : List Nd} (h : ∀ i : Nat, i < nodes.length → ∀ y ∈ dep nodes i, y.toNat < i) : ∃ L, Lvl nodes L := by
  refine ⟨lvTo nodes nodes.length, lvTo_len _ _, fun i hi => ?_⟩
  have h1 := lvTo_pre nodes (i + 1) (x := (i : Int)) (by simp) (nodes.length - (i + 1))
  rw [show i + 1 + (nodes.length - (i + 1)) = nodes.length by omega] at h1
  have h2 : lat (lvTo nodes (i + 1)) (i : Int) = levf (lvTo nodes i) (dep nodes i) := by
    unfold lat
    rw [lvTo, Int.toNat_natCast, getD_snoc' _ _ _ _ (by rw [lvTo_len]; omega), if_pos (lvTo_len nodes i).symm]
  rw [h1, h2]
  refine levf_congr fun y hy => ?_
  have h3 := lvTo_pre nodes i (h i hi y hy) (nodes.length - i)
  rw [show i + (nodes.length - i) = nodes.length by omega] at h3
  exact h3.symm
theorem ofC_lvl (x : Cx) (hx : Cok x) : ∃ L, Lvl (nodesN x) L := by
  refine lvl_of fun i hi y hy => ?_
  rw [show (nodesN x).length = sizeN x from dffTo_len x _] at hi
  unfold dep depsOf at hy
  rw [Int.toNat_natCast] at hy
  rcases node_cases x hx i hi with ⟨-, h⟩ | ⟨d, h⟩ | ⟨-, h | h⟩ | ⟨k, g, hk, hik, hg, h⟩
  · rw [h] at hy; cases hy
  · rw [h, show cmb (dffN (ix d (sizeN x))).kind = false from rfl] at hy; cases hy
  · rw [h] at hy; cases hy
  · rw [h] at hy; cases hy
  · rw [h] at hy
    split at hy
    · obtain ⟨j, rfl, hj⟩ := (gate_good x.bus g hg (gatesTo x k) (by rw [gatesTo_len, baseN_len]; have := firstN_le x; omega)).ins y hy
      rw [Int.toNat_natCast]; omega
    · cases hy
theorem ofC_shape (x : Cx) (hx : Cok x) : shapeErr (ofC x) = 0 := by
  have hz := sizeN_le x
  have hlen : (ofC x).nodes.length = sizeN x := ofC_len x
  have hnm : (ofC x).names.length = sizeN x := by simp [ofC]
  have hml : (ofC x).mems.length ≤ 1 := by show (memsN x).length ≤ 1; unfold memsN; split <;> simp
  have hol : (ofC x).outs.length ≤ 4 := by
    show (outsTo x (outsN x) ++ _).length ≤ 4
    rw [List.length_append, outsTo_len]
    have : outsN x ≤ 3 := by unfold outsN; omega
    simp; omega
  have h1 : firstE (nodeErr (ofC x)) (ofC x).nodes = 0 := firstE_none default _ _ fun j hj => ofC_node x hx j (by rw [hlen] at hj; exact hj)
  have h2 : namesOk (ofC x).names = true := names_ok _ (by omega)
  have h3 : firstE (memErr (ofC x)) (ofC x).mems = 0 := by
    show firstE (memErr (ofC x)) (memsN x) = 0
    unfold memsN
    split
    · have p0 := ix_in x.p0 (n := sizeN x) (by omega)
      have p1 := ix_in x.p1 (n := sizeN x) (by omega)
      have p2 := ix_in x.p2 (n := sizeN x) (by omega)
      have p3 := ix_in x.p3 (n := sizeN x) (by omega)
      unfold firstE
      rw [if_pos]
      · rfl
      · unfold memErr
        rw [if_neg (by simp), if_neg]
        rw [hlen]
        rintro (h | h | h)
        · rw [isIdx_iff.2 p3] at h; cases h
        · rw [areIdx_iff.2 (fun y hy => by obtain rfl := List.mem_singleton.1 hy; exact p0)] at h; cases h
        · rw [areIdx_iff.2 (fun y hy => by simp only [List.mem_cons, List.not_mem_nil, or_false] at hy; rcases hy with rfl | rfl; exact p1; exact p2)] at h; cases h
    · rfl
  have h4 : areIdx (ofC x).nodes.length (ofC x).outs = true := areIdx_iff.2 (by
    intro y hy
    rw [hlen]
    rcases List.mem_append.1 (show y ∈ outsTo x (outsN x) ++ [(sizeN x : Int) - 1] from hy) with h | h
    · unfold outsTo at h
      obtain ⟨i, -, rfl⟩ := List.mem_map.1 h
      exact ix_in _ (by omega)
    · obtain rfl := List.mem_singleton.1 h
      omega)
  unfold shapeErr
  rw [if_neg (by omega), if_neg (by omega), h1, if_neg (by decide), h2, if_neg (by decide), h3, if_neg (by decide), h4]
  rfl
/-- THE CIRCUITS OF C ARE VALID. -/
theorem ofC_ok (x : Cx) (hx : Cok x) : chkErr (ofC x) = 0 := by
  unfold chkErr
  rw [if_neg (by rw [ofC_shape x hx]; decide), if_pos (show ∃ L, Lvl (ofC x).nodes L from ofC_lvl x hx)]
end Go.Proofs.YtemogllidmgbfaaDoor

namespace Go.Proofs.YtemogllidmgbfaaDoor
open Go.RowKit

end Go.Proofs.YtemogllidmgbfaaDoor

namespace Go.Proofs.YtemogllidmgbfaaDoor

section
variable {P : Program} {ops : Array Oper} {Q : Exit → Act → World → Prop} {md : Region.Mode} {S : World → Prop} {t : Nat}
/-- Two may come up. -/
theorem AnyX.fork {i j : Nat} {oi oj : Oper} {f : Nat} {listed : Array Bool} {a : Act} {w : World} (hr : Region.ready md ops listed = [i, j]) (hoi : ops[i]? = some oi) (hoj : ops[j]? = some oj)
    (hi : ∀ K' : Act → World → Prop, (∀ a' w', (i ≠ t → S w') → AnyX P md ops Q S t f (listed.setIfInBounds i true) a' w' → K' a' w') → if Region.wanted oi (yielded ops a.tmps) = true then Oper.wp P oi a w K' Q else K' (a.put oi.dst undef) w)
    (hj : ∀ K' : Act → World → Prop, (∀ a' w', (j ≠ t → S w') → AnyX P md ops Q S t f (listed.setIfInBounds j true) a' w' → K' a' w') → if Region.wanted oj (yielded ops a.tmps) = true then Oper.wp P oj a w K' Q else K' (a.put oj.dst undef) w) :
    AnyX P md ops Q S t (f + 1) listed a w := by
  refine ⟨fun h0 => absurd (hr.symm.trans h0) (by simp), fun k hk => ?_⟩
  rw [hr] at hk
  rcases List.mem_cons.1 hk with rfl | hk
  · exact wpOp_step hoi (fun K' hK => hi K' fun a' w' h1 h2 => hK a' w' ⟨h1, h2⟩)
  · obtain rfl := List.mem_singleton.1 hk
    exact wpOp_step hoj (fun K' hK => hj K' fun a' w' h1 h2 => hK a' w' ⟨h1, h2⟩)
end

end Go.Proofs.YtemogllidmgbfaaDoor

namespace Go.Proofs.YtemogllidmgbfaaDoor
open Go.RowKit

/-- s reads as the memories, whatever happens below T. -/
def MG (w : World) (T : Nat) (s : Value) (l : List Mm) : Prop := ∀ w', Kp T none w w' → Ms w' w'.heap.size s l
theorem MG.keep {w w' : World} {T : Nat} {s : Value} {l : List Mm} (h : MG w T s l) (hk : Kp T none w w') : MG w' T s l := fun w2 h2 => h w2 (hk.trans h2)
theorem MG.one {w : World} {T m a d : Nat} {x y z v : Int} (hm : T ≤ m) (ha : T ≤ a) (hd : T ≤ d) (c0 : w.cell? ⟨m, 0, none⟩ = some (.slice (some ⟨a, 0, none⟩) 1 1)) (c1 : w.cell? ⟨m, 1, none⟩ = some (.slice (some ⟨d, 0, none⟩) 2 2)) (c2 : w.cell? ⟨m, 2, none⟩ = some (.int .i64 v))
    (a0 : w.cell? ⟨a, 0, none⟩ = some (.int .i64 x)) (d0 : w.cell? ⟨d, 0, none⟩ = some (.int .i64 y)) (d1 : w.cell? ⟨d, 1, none⟩ = some (.int .i64 z)) : MG w T (.slice (some ⟨m, 0, none⟩) 1 1) [⟨[x], [y, z], v⟩] := by
  intro w' hk
  have key : ∀ b o u, T ≤ b → w.cell? ⟨b, o, none⟩ = some u → b < w'.heap.size ∧ w'.cell? ⟨b, o, none⟩ = some u := fun b o u hb hc => by
    have hl := cell_lt hc
    exact ⟨Nat.lt_of_lt_of_le hl hk.1, (World.cell?_of_block (hk.2 b hb hl (by simp))).trans hc⟩
  obtain ⟨m1, e0⟩ := key _ _ _ hm c0
  obtain ⟨-, e1⟩ := key _ _ _ hm c1
  obtain ⟨-, e2⟩ := key _ _ _ hm c2
  obtain ⟨a1, f0⟩ := key _ _ _ ha a0
  obtain ⟨d2, h0⟩ := key _ _ _ hd d0
  obtain ⟨-, h1⟩ := key _ _ _ hd d1
  refine ⟨some ⟨m, 0, none⟩, m, 0, 1, rfl, fun _ => rfl, by simp, by simp [maxLen], fun k hk' => ?_⟩
  obtain rfl : k = 0 := by simp at hk'; omega
  refine ⟨m1, _, _, e0, e1, e2, ⟨some ⟨a, 0, none⟩, a, 0, 1, rfl, fun _ => rfl, by simp, by simp [maxLen], fun j hj => ?_⟩, ⟨some ⟨d, 0, none⟩, d, 0, 2, rfl, fun _ => rfl, by simp, by simp [maxLen], fun j hj => ?_⟩⟩
  · obtain rfl : j = 0 := by simp at hj; omega
    exact ⟨a1, f0⟩
  · have h2 : j = 0 ∨ j = 1 := by simp at hj; omega
    rcases h2 with rfl | rfl
    · exact ⟨d2, h0⟩
    · exact ⟨d2, h1⟩
theorem cell_al {w : World} (o : Obj) {b j : Nat} {u : Value} (h : w.cell? ⟨b, j, none⟩ = some u) : (w.alloc o).cell? ⟨b, j, none⟩ = some u :=
  (((Below.refl _ _).alloc (Nat.le_refl _) o).cell (p := ⟨b, j, none⟩) (cell_lt h)).trans h
theorem cell_at (w : World) (cs : Array Value) (t : TypeId) {b : Nat} (hb : b = w.heap.size) (j : Nat) : (w.alloc (.cells cs t)).cell? ⟨b, j, none⟩ = cs[j]? := by
  subst hb; rw [World.cell?_alloc_at _ _ _ _ rfl]
theorem MG.made1 {wr w' : World} {T : Nat} {x y z v : Int} {t1 t2 t3 : TypeId} (hT : T ≤ wr.heap.size)
    (hk : Kp T none (((wr.alloc (.cells #[.int .i64 x] t1)).alloc (.cells #[.int .i64 y, .int .i64 z] t2)).alloc (.cells #[.slice (some ⟨wr.heap.size, 0, none⟩) 1 1, .slice (some ⟨wr.heap.size + 1, 0, none⟩) 2 2, .int .i64 v] t3)) w') :
    MG w' T (.slice (some ⟨wr.heap.size + 1 + 1, 0, none⟩) 1 1) [⟨[x], [y, z], v⟩] := by
  have h1 : (wr.alloc (.cells #[.int .i64 x] t1)).heap.size = wr.heap.size + 1 := by simp
  have h2 : ((wr.alloc (.cells #[.int .i64 x] t1)).alloc (.cells #[.int .i64 y, .int .i64 z] t2)).heap.size = wr.heap.size + 1 + 1 := by simp
  refine MG.keep (MG.one (a := wr.heap.size) (d := wr.heap.size + 1) (by omega) (by omega) (by omega) ?_ ?_ ?_ ?_ ?_ ?_) hk
  · rw [cell_at _ _ _ h2.symm]; rfl
  · rw [cell_at _ _ _ h2.symm]; rfl
  · rw [cell_at _ _ _ h2.symm]; rfl
  · refine cell_al _ (cell_al _ ?_); rw [cell_at _ _ _ rfl]; rfl
  · refine cell_al _ ?_; rw [cell_at _ _ _ h1.symm]; rfl
  · refine cell_al _ ?_; rw [cell_at _ _ _ h1.symm]; rfl
theorem MG.made2 {wr w' : World} {T : Nat} {x y z v : Int} {t1 t2 t3 : TypeId} (hT : T ≤ wr.heap.size)
    (hk : Kp T none (((wr.alloc (.cells #[.int .i64 y, .int .i64 z] t2)).alloc (.cells #[.int .i64 x] t1)).alloc (.cells #[.slice (some ⟨wr.heap.size + 1, 0, none⟩) 1 1, .slice (some ⟨wr.heap.size, 0, none⟩) 2 2, .int .i64 v] t3)) w') :
    MG w' T (.slice (some ⟨wr.heap.size + 1 + 1, 0, none⟩) 1 1) [⟨[x], [y, z], v⟩] := by
  have h1 : (wr.alloc (.cells #[.int .i64 y, .int .i64 z] t2)).heap.size = wr.heap.size + 1 := by simp
  have h2 : ((wr.alloc (.cells #[.int .i64 y, .int .i64 z] t2)).alloc (.cells #[.int .i64 x] t1)).heap.size = wr.heap.size + 1 + 1 := by simp
  refine MG.keep (MG.one (a := wr.heap.size + 1) (d := wr.heap.size) (by omega) (by omega) (by omega) ?_ ?_ ?_ ?_ ?_ ?_) hk
  · rw [cell_at _ _ _ h2.symm]; rfl
  · rw [cell_at _ _ _ h2.symm]; rfl
  · rw [cell_at _ _ _ h2.symm]; rfl
  · refine cell_al _ ?_; rw [cell_at _ _ _ h1.symm]; rfl
  · refine cell_al _ (cell_al _ ?_); rw [cell_at _ _ _ rfl]; rfl
  · refine cell_al _ (cell_al _ ?_); rw [cell_at _ _ _ rfl]; rfl
end Go.Proofs.YtemogllidmgbfaaDoor

namespace Go.Proofs.YtemogllidmgbfaaDoor
open Go.RowKit

end Go.Proofs.YtemogllidmgbfaaDoor

namespace Go.Proofs.YtemogllidmgbfaaDoor
open Go.RowKit


theorem hi_le (k : Int) : hi k ≤ 16 := by
  unfold hi
  split
  · decide
  · have h : ∀ i : Fin 16, spansL.getD (2 * i.val + 1) 0 ≤ 16 := by decide
    exact h ⟨k.toNat, by omega⟩
theorem chk_shape {c : Ck} (h : chkErr c = 0) : shapeErr c = 0 := by
  unfold chkErr at h
  by_cases e : shapeErr c = 0
  · exact e
  · rw [if_pos e] at h; exact absurd h e
/-- A valid circuit of fewer than 20 nodes, with its levels. -/
structure Vld (c : Ck) (L : List Int) (n : Nat) : Prop where
  ok : chkErr c = 0
  lvl : Lvl c.nodes L
  len : n = c.nodes.length
  few : n < 20
section
variable {c : Ck} {L : List Int} {n : Nat}
theorem Vld.wf (V : Vld c L n) : Wf c.nodes := wf_of_shape (chk_shape V.ok)
theorem Vld.bnd (V : Vld c L n) : ∀ i : Nat, i < n → 0 ≤ lat L i ∧ lat L i < (n : Int) := fun i hi => by
  rw [V.len] at hi
  have h1 := V.lvl.nonneg hi
  have h2 := V.lvl.bound V.wf hi
  rw [← V.len] at h2
  exact ⟨h1, h2⟩
theorem Vld.pins (V : Vld c L n) : ∀ k, k < c.nodes.length → (c.nodes.getD k default).ins.length ≤ 16 := fun k hk => by
  have h := (nodeErr_zero ((shape_zero (chk_shape V.ok)).2.2.2.2.1 _ (getD_mem_nd hk))).2.2.1
  have := hi_le (c.nodes.getD k default).kind
  omega
variable {w w1 W : World} {q : Nat} {A0 A1 A2 A3 : Option Addr} {n1 n2 n3 c0 c1 c2 c3 : Nat}
theorem lev_v (V : Vld c L n) (h : LC c w q A0 A1 A2 A3 n n1 n2 n3 c0 c1 c2 c3 w1) (hb : Below w1.heap.size w1 W) : Calls Tryd.prog 55 #[.agg #[.slice A0 n c0, .slice A1 n1 c1, .slice A2 n2 c2, .slice A3 n3 c3]] W
    fun e w' => (∃ g, e = .returned (.tuple #[.slice (some ⟨g, 0, none⟩) n n, .int .i64 0]) ∧ w1.heap.size ≤ g ∧ Row w' g L) ∧ Below w1.heap.size w1 w' ∧ LC c w q A0 A1 A2 A3 n n1 n2 n3 c0 c1 c2 c3 w' := by
  have hn := h.next hb
  refine (levels_any c _ W W.heap.size (Nat.le_refl _) hn.tabs hn.all).mono fun e w' ⟨h1, h2⟩ => ?_
  rcases h2 with ⟨-, -, L', g, h3, -, h4, h5, h6⟩ | ⟨h3, -⟩
  · rw [h3.unique V.wf V.lvl] at h6
    rw [← V.len] at h5
    exact ⟨⟨g, h5, Nat.le_trans hb.size h4, h6⟩, joinB hb h1, hn.next h1⟩
  · exact absurd V.ok h3
theorem ord_v (V : Vld c L n) (h : LC c w q A0 A1 A2 A3 n n1 n2 n3 c0 c1 c2 c3 w1) (hb : Below w1.heap.size w1 W) : Calls Tryd.prog 43 #[.agg #[.slice A0 n c0, .slice A1 n1 c1, .slice A2 n2 c2, .slice A3 n3 c3]] W
    fun e w' => (∃ d, e = .returned (.tuple #[.slice (some ⟨d, 0, none⟩) n n, .int .i64 0]) ∧ w1.heap.size ≤ d ∧ Row w' d (ordTo L n n)) ∧ Below w1.heap.size w1 w' ∧ LC c w q A0 A1 A2 A3 n n1 n2 n3 c0 c1 c2 c3 w' := by
  have hn := h.next hb
  refine (order_any c _ W W.heap.size (Nat.le_refl _) hn.tabs hn.all (by rw [← V.len]; exact V.few)).mono fun e w' ⟨h1, h2⟩ => ?_
  rcases h2 with ⟨-, -, L', R, d, h3, -, h4, h5, h6, h7⟩ | ⟨h3, -⟩
  · rw [h3.unique V.wf V.lvl, ← V.len] at h4
    rw [← V.len] at h6
    rw [ord_eq h4 V.bnd] at h7
    exact ⟨⟨d, h6, Nat.le_trans hb.size h5, h7⟩, joinB hb h1, hn.next h1⟩
  · exact absurd V.ok h3
end
theorem vld_c (x : Cx) (hx : Cok x) : ∃ L, Vld (ofC x) L (sizeN x) := by
  obtain ⟨L, hL⟩ := ofC_lvl x hx
  exact ⟨L, ofC_ok x hx, hL, (ofC_len x).symm, by have := sizeN_le x; omega⟩
/-- A row of truths of the call's own, in block g. -/
def BRow (w : World) (g : Nat) (l : List Bool) : Prop := w.ownsRow g 4 1 (.slice (some ⟨g, 0, none⟩) l.length l.length) l.length (l.map Value.bool)
section
variable {w w' : World} {g : Nat} {l : List Bool}
theorem BRow.cell (h : BRow w g l) {j : Nat} {b : Bool} (hj : l[j]? = some b) : w.cell? ⟨g, j, none⟩ = some (.bool b) := by
  have hl : j < l.length := (List.getElem?_eq_some_iff.1 hj).1
  rw [World.ownsRow.cellAt h j (by omega), List.getElem?_map, hj]; rfl
theorem BRow.frozen (h : BRow w g l) (j : Nat) : w.frozen? ⟨g, j, none⟩ = false := World.ownsRow.frozenAt h j
theorem BRow.set (h : BRow w g l) (j : Nat) (x : Bool) : BRow (w.setCell ⟨g, j, none⟩ (.bool x)) g (l.set j x) := by
  have := (World.ownsRow.stored h j (.bool x)).1
  unfold BRow
  rw [List.length_set, List.map_set]
  exact this
theorem BRow.lt (h : BRow w g l) : g < w.heap.size := (World.ownsRow.lt h g rfl).2
theorem BRow.kept {row : Option Nat} (h : BRow w g l) (hg : w.grownBy w' row) (hne : some g ≠ row) : BRow w' g l := World.ownsRow.kept h hg (.inr hne)
theorem BRow.below (h : BRow w g l) (hb : Below w.heap.size w w') : BRow w' g l :=
  h.kept (row := none) ⟨hb.os, hb.tape, hb.output, hb.size, fun i hi _ => hb.block i hi⟩ (by simp)
end
theorem info_bool : (Tryd.prog.info? 4).map (fun i => (i.zero, i.size, i.bytes)) = some (some (.bool false), 1, 1) := by kernel_rfl
theorem made_false (n : Nat) : (madeCells #[Value.bool false] n).toList = (List.replicate n false).map Value.bool := by
  apply List.ext_getElem?
  intro j
  by_cases hj : j < n
  · simp [madeCells, hj, Nat.mod_one]
  · rw [List.getElem?_eq_none (by simp [madeCells]; omega), List.getElem?_eq_none (by simp; omega)]
end Go.Proofs.YtemogllidmgbfaaDoor
