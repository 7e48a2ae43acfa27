/- The texts Pl9 Ts9 LgRefp Rfp Cht L9p Tx9 Lv9. -/
import Derived.Test.YtkaedfgmhfefjaaGreatDoorM36
import Derived.Test.YtkaedfgmhfefjaaGreatDoorM37
import Derived.Test.YtkaedfgmhfefjaaGreatDoorM38
import Derived.Test.YtkaedfgmhfefjaaGreatDoorM39
import Derived.Deep.RegionHeld3
import Derived.Test.YtkaedfgmhfefjaaGreatDoorM01
import Derived.Test.YtkaedfgmhfefjaaGreatDoorM25
import Derived.Test.YtkaedfgmhfefjaaGreatDoorM10
import Derived.Laws.BytesArg
import Derived.OwnWalk
namespace Go.Proofs.YtkaedfgmhfefjaaGreatDoor
open Go.RowKit
theorem takL9_k {l : List Int} (h : ∀ y ∈ l, k01 y) (h0 : l.length ≠ 0) (a n : Nat) : ∀ y ∈ takL9 l a n, k01 y := fun y hy => by
  obtain ⟨i, -, rfl⟩ := List.mem_map.1 hy
  unfold takV9
  rw [if_neg h0]
  rcases getD_k h ((a + i) % l.length) with e | e <;> rw [e] <;> first | exact .inl rfl | exact .inr rfl
theorem sofS_k {l : List Int} (h : ∀ y ∈ l, k01 y) (h0 : l.length ≠ 0) (c : Ck) (ns m : Nat) : KnS (sofS c ns m l) := by
  refine ⟨takL9_k h h0 _ _, fun ws hws l' hl' => ?_, fun l' hl' => ?_⟩
  · obtain ⟨k, -, rfl⟩ := List.mem_map.1 hws
    obtain ⟨i, -, rfl⟩ := List.mem_map.1 hl'
    exact takL9_k h h0 _ _
  · obtain ⟨k, -, rfl⟩ := List.mem_map.1 hl'
    exact takL9_k h h0 _ _
theorem takL9_in {l : List Int} (h : ∀ y ∈ l, 0 ≤ y ∧ y ≤ 255) (a n : Nat) : ∀ y ∈ takL9 l a n, 0 ≤ y ∧ y ≤ 3 := fun y hy => by
  obtain ⟨i, -, rfl⟩ := List.mem_map.1 hy
  have h2 := takV9_le l a i
  refine ⟨?_, by omega⟩
  unfold takV9
  split
  · decide
  · rename_i h0
    have hk : (a + i) % l.length < l.length := Nat.mod_lt _ (by omega)
    have h1 := (h _ (getD_inL hk)).1
    exact Int.tmod_nonneg _ h1
def mod2 (l : List Int) : List Int := l.map fun y => y.tmod 2
theorem mod2_k {l : List Int} (h : ∀ y ∈ l, 0 ≤ y ∧ y ≤ 255) : ∀ y ∈ mod2 l ++ [1], k01 y := fun y hy => by
  rcases List.mem_append.1 hy with hy | hy
  · obtain ⟨x, hx, rfl⟩ := List.mem_map.1 hy
    have h1 := h x hx
    have h2 := Int.tmod_lt_of_pos x (by decide : (0 : Int) < 2)
    have h3 := Int.tmod_nonneg 2 h1.1
    unfold k01
    omega
  · obtain rfl := List.mem_singleton.1 hy
    exact .inr rfl
theorem k01_in {l : List Int} (h : ∀ y ∈ l, k01 y) : ∀ y ∈ l, 0 ≤ y ∧ y ≤ 255 := fun y hy => by rcases h y hy with rfl | rfl <;> decide
theorem k01_in3 {l : List Int} (h : ∀ y ∈ l, k01 y) : ∀ y ∈ l, 0 ≤ y ∧ y ≤ 3 := fun y hy => by rcases h y hy with rfl | rfl <;> decide
theorem gateN_nt (g : Gx) (nodes : List Nd) : (gateN false g nodes).kind ≠ 12 := by
  have h9 : 0 ≤ kindG false g.kind ∧ kindG false g.kind < 9 := by unfold kindG; rw [if_neg (by decide)]; omega
  unfold gateN
  split
  · show 5 + kindG false g.kind ≠ 12; omega
  split
  · show (4 : Int) ≠ 12; decide
  split
  · show (11 : Int) ≠ 12; decide
  split
  · omega
  split
  · omega
  split
  · show 1 + g.i0 % 2 ≠ 12; omega
  · show (3 : Int) ≠ 12; decide
theorem gatesTo_nt {x : Cx} (hb : x.bus = false) : ∀ k, ∀ y ∈ gatesTo x k, y.kind ≠ 12
  | 0 => fun y hy => by
    have hy : y ∈ baseN x := hy
    unfold baseN at hy
    rw [List.mem_append, List.mem_append, List.mem_replicate, List.mem_replicate] at hy
    rcases hy with (⟨-, rfl⟩ | ⟨-, rfl⟩) | hy
    · show (0 : Int) ≠ 12; decide
    · show (14 : Int) ≠ 12; decide
    · split at hy
      · simp only [List.mem_cons, List.not_mem_nil, or_false] at hy
        rcases hy with rfl | rfl <;> (show (15 : Int) ≠ 12; decide)
      · cases hy
  | k + 1 => fun y hy => by
    rcases List.mem_append.1 (show y ∈ gatesTo x k ++ [gateN x.bus (x.gates.getD k default) (gatesTo x k)] from hy) with hy | hy
    · exact gatesTo_nt hb k y hy
    · obtain rfl := List.mem_singleton.1 hy
      rw [hb]
      exact gateN_nt _ _
theorem dffTo_nt {x : Cx} (hb : x.bus = false) : ∀ k, ∀ y ∈ dffTo x k, y.kind ≠ 12
  | 0 => gatesTo_nt hb _
  | k + 1 => fun y hy => by
    rcases List.mem_or_eq_of_mem_set (show y ∈ (dffTo x k).set _ _ from hy) with hy | rfl
    · exact dffTo_nt hb k y hy
    · show (14 : Int) ≠ 12; decide
theorem ofC_nt {x : Cx} (hb : x.bus = false) {c : Ck} (hc : c = ofC x) : ∀ i : Nat, i < c.nodes.length → (c.nodes.getD i default).kind ≠ 12 := fun i hi => by
  subst hc
  exact dffTo_nt hb _ _ (getD_mem_nd hi)
theorem cyN_run {c : Ck} {L : List Int} {n n1 n3 ni ns : Nat} (S : Cmt c L n n1 0 n3 ni ns) {s : Stt} {inp nets : List Int} (h : Net c.nodes (baseV n (ofTo c.nodes [0] n) (ofTo c.nodes [14] n) inp s.dff) nets) : cyN c L n s inp = nets := by
  have hlen := S.len
  refine Net.same S.vld.wf S.vld.lvl (cyN_net S.vld s inp) h fun i hi hc => ?_
  rw [lat_baseM hi, if_neg, show cyB c n s inp = baseV n (ofTo c.nodes [0] n) (ofTo c.nodes [14] n) inp s.dff by unfold cyB baseV; rw [hlen]]
  intro h15
  have hp := (nodeErr_zero ((shape_zero (chk_shape S.vld.ok)).2.2.2.2.1 _ (getD_mem_nd hi))).2.2.2.2.2
  unfold placeOk at hp
  rw [if_pos h15, Bool.and_eq_true, isIdx_iff] at hp
  rw [S.h2] at hp
  omega
theorem bitsL_next (c : Ck) (nets : List Int) {ns : Nat} (h : (nextV c nets).length = ns) : bitsL (nextV c nets) ns = nextV c nets := by
  subst h
  unfold bitsL cpyL
  rw [List.take_length, Nat.sub_self, List.replicate_zero, List.append_nil]
  refine (List.map_congr_left (g := id) fun y hy => ?_).trans (List.map_id _)
  unfold nextV at hy
  obtain ⟨i, -, rfl⟩ := List.mem_map.1 hy
  unfold dataV
  split
  · rcases rd_cases (valA nets ((c.nodes.getD i.toNat default).ins.getD 0 0)) with e | e | e <;> rw [e] <;> rfl
  · rfl
theorem SRow.setU {w : World} {D m k T : Nat} {f : Nat → List Int} (h : SRow w D f m k T) {b : Nat} {t : TypeId} {l : List Value} (hf : Fr w b t l) (q2 : t ≠ 41) (q3 : t ≠ 77) (j : Nat) (x : Value) : SRow (w.setCell ⟨b, j, none⟩ x) D f m k T := by
  obtain ⟨vs, gf, h1, h2, h3, h4⟩ := h
  exact ⟨vs, gf, h1.other (a := ⟨b, j, none⟩) (hf.apart9 h1 q2) x, h2, fun i hi => by
    obtain ⟨e, v, n, t⟩ := h3 i hi
    exact ⟨e, v.other (a := ⟨b, j, none⟩) (hf.apart9 v.fr q3) x, n, t⟩, h4⟩
theorem OSt.setU {w : World} {D1 D2 L m k1 k2 b : Nat} {nw : Nat → Nat} {fw : Nat → Nat → List Int} {fr : Nat → List Int} {t : TypeId} {l : List Value} (h : OSt w D1 D2 L m nw fw fr k1 k2) (hf : Fr w b t l) (q1 : t ≠ 43) (q2 : t ≠ 41) (q3 : t ≠ 77) (j : Nat) (x : Value) : OSt (w.setCell ⟨b, j, none⟩ x) D1 D2 L m nw fw fr k1 k2 := by
  obtain ⟨⟨vs, a1, a2, a3⟩, ⟨us, b1, b2, b3⟩, d1, d2, ne⟩ := h
  exact ⟨⟨vs, a1.other (a := ⟨b, j, none⟩) (hf.apart9 a1 q1) _, a2, fun i hi => by
    obtain ⟨D, T, e, s, l⟩ := a3 i hi
    exact ⟨D, T, e, s.setU hf q2 q3 j x, l⟩⟩, ⟨us, b1.other (a := ⟨b, j, none⟩) (hf.apart9 b1 q2) _, b2, fun i hi => by
    obtain ⟨g, e, v⟩ := b3 i hi
    exact ⟨g, e, v.other (a := ⟨b, j, none⟩) (hf.apart9 v.fr q3) _⟩⟩, d1, d2, ne⟩
def CyR (c : Ck) (ns m : Nat) (s : Stt) (nets : List Int) (w : World) (gB D1 D2 go gn g : Nat) : Prop :=
  VRow w g nets ∧ VRow w go (outV c nets) ∧ VRow w gn (nextV c nets) ∧ VRow w gB (bitsL (nextV c nets) ns) ∧ ∃ LL, OSt w D1 D2 LL m (fun k => (s.words.getD k []).length) (nxW c.mems s.words nets) (nxR c.mems s.words nets) m m
section
variable {c : Ck} {ns m : Nat} {s : Stt} {nets : List Int} {w w' : World} {gB D1 D2 go gn g : Nat}
theorem CyR.below (h : CyR c ns m s nets w gB D1 D2 go gn g) (hb : BelW w w') : CyR c ns m s nets w' gB D1 D2 go gn g := by
  obtain ⟨h1, h2, h3, h4, LL, h5⟩ := h
  exact ⟨h1.below hb, h2.below hb, h3.below hb, h4.below hb, LL, h5.below hb⟩
theorem CyR.setU (h : CyR c ns m s nets w gB D1 D2 go gn g) {q : Nat} {t : TypeId} {lx : List Value} (ht : t = 45 ∨ t = 49) (hf : Fr w q t lx) (j : Nat) (v : Value) : CyR c ns m s nets (w.setCell ⟨q, j, none⟩ v) gB D1 D2 go gn g := by
  obtain ⟨h1, h2, h3, h4, LL, h5⟩ := h
  have q1 : t ≠ 43 := by rcases ht with rfl | rfl <;> decide
  have q2 : t ≠ 41 := by rcases ht with rfl | rfl <;> decide
  have q3 : t ≠ 77 := by rcases ht with rfl | rfl <;> decide
  exact ⟨h1.other (a := ⟨q, j, none⟩) (hf.apart9 h1.fr q3) _, h2.other (a := ⟨q, j, none⟩) (hf.apart9 h2.fr q3) _, h3.other (a := ⟨q, j, none⟩) (hf.apart9 h3.fr q3) _, h4.other (a := ⟨q, j, none⟩) (hf.apart9 h4.fr q3) _, LL, h5.setU hf q1 q2 q3 j v⟩
end
theorem Cm.cycle0 {c : Ck} {L : List Int} {n n1 m n3 ni ns : Nat} {A0 A1 A2 A3 : Option Addr} {c0 c1 c2 c3 q : Nat} {W : World} (H : Cm c n n1 m n3 A0 A1 A2 A3 c0 c1 c2 c3 q W) (S : Cmt c L n n1 m n3 ni ns) {s : Stt} {inp : List Int} {As0 As1 As2 Ai : Option Addr} {d0 d1 d2 ci : Nat} (hS : StR W W.heap.size As0 As1 As2 ns m m d0 d1 d2 s) (hI : Ks W W.heap.size (.slice Ai ni ci) inp) (F : FitS c ns m s) (hl : inp.length = ni) (hv : ∀ y ∈ inp, 0 ≤ y ∧ y ≤ 3) :
    Calls Tryz.prog 9 #[.agg #[.slice A0 n c0, .slice A1 n1 c1, .slice A2 m c2, .slice A3 n3 c3], .agg #[.slice As0 ns d0, .slice As1 m d1, .slice As2 m d2], .slice Ai ni ci] W fun e w' => ∃ gB D1 D2 go gn g, e = .returned (.tuple #[.agg #[.slice (some ⟨gB, 0, none⟩) ns ns, .slice (some ⟨D1, 0, none⟩) m m, .slice (some ⟨D2, 0, none⟩) m m], .agg #[.slice (some ⟨go, 0, none⟩) n3 n3, .slice (some ⟨gn, 0, none⟩) ns ns], .slice (some ⟨g, 0, none⟩) n n, .int .i64 0])
      ∧ CyR c ns m s (cyN c L n s inp) w' gB D1 D2 go gn g ∧ BelW W w' := by
  have hk := S.cy F hl hv
  have hlo : ∀ l, (outV c l).length = n3 := fun l => by rw [← S.h3]; exact List.length_map _
  refine (mcycle_ok c s inp (fun R => R = ordTo L n n) A0 A1 A2 A3 As0 As1 As2 Ai n n1 m n3 c0 c1 c2 c3 m d0 d1 d2 ci ns ni W H.tabs H.cir hS hI hk fun W' hb => (H.next hb).order S).mono fun e w' ⟨R, gB, D1, D2, go, gn, g, hR, he, r1, r2, r3, r4, r5, r6⟩ => ?_
  subst hR
  rw [hlo] at he
  exact ⟨gB, D1, D2, go, gn, g, he, ⟨r1, r2, r3, r4, r5⟩, r6⟩
theorem CyR.str {c : Ck} {L : List Int} {n n1 m n3 ni ns : Nat} (S : Cmt c L n n1 m n3 ni ns) {s : Stt} (F : FitS c ns m s) {nets : List Int} {w : World} {gB D1 D2 go gn g : Nat} (h : CyR c ns m s nets w gB D1 D2 go gn g) : StR w w.heap.size (some ⟨gB, 0, none⟩) (some ⟨D1, 0, none⟩) (some ⟨D2, 0, none⟩) ns m m ns m m (nxtS c ns m s nets) := by
  obtain ⟨-, -, -, h4, LL, h5⟩ := h
  refine osts_reads h4 (bitsL_len _ _) h5 (by have := S.m1; unfold maxLen; omega) fun j hj => ?_
  rw [(F.wk j hj).1]
  obtain ⟨p, q⟩ := S.port j hj
  show 2 ^ (c.mems.getD j default).addr.length ≤ _
  rw [p]
  decide
theorem vrow_news {w : World} {g : Nat} {l : List Int} (h : VRow w g l) : ∀ j u, (l.map (Value.int .u8))[j]? = some u → w.cell? ((⟨g, 0, none⟩ : Addr).add j) = some u := fun j u hu => by
  have hj : j < l.length := by
    have := (List.getElem?_eq_some_iff.1 hu).1
    simpa using this
  have hadd : (⟨g, 0, none⟩ : Addr).add j = ⟨g, j, none⟩ := by unfold Addr.add; split <;> simp_all
  rw [hadd, h.cell hj]
  rw [List.getElem?_map, List.getElem?_eq_getElem hj] at hu
  rw [← Option.some.inj hu]
  unfold lat
  rw [Int.toNat_natCast, List.getD_eq_getElem?_getD, List.getElem?_eq_getElem hj]
  rfl
theorem step_own9 {P : Program} {ops : Array Oper} {o : Oper} {a : Act} {w : World} {K : Act → World → Prop} {Q : Exit → Act → World → Prop} {E : Prop} (hgd : o.guard = none) (s x : Operand) (t : TypeId)
    (ho : o.op = .call { callee := .builtin .append, args := #[s, x], argTypes := #[t, t] })
    (base : Nat) (e : TypeId) (i : TypeInfo) (z : Value) (ht : P.underlying t = some (.slice e)) (hi : P.info? e = some i) (hz : i.zero = some z) (hsize : i.size = 1) (hby : i.bytes = 1) (hzs : z.cells.size = 1)
    (v : Value) (n : Nat) (xs : List Value) (hs : a.eval s = v) (hown : w.ownsRow base e 1 v n xs) (ad : Addr) (m c : Nat) (news : List Value) (hx : a.eval x = .slice (some ad) m c)
    (hl : news.length = m) (hnews : ∀ j u, news[j]? = some u → w.cell? (ad.add j) = some u) (h1 : ∀ u ∈ news, u.oneCell' = true) (hnm : n + m ≤ 140737488355328) (hbase : base ≤ w.heap.size)
    (h : ∀ v' w', w'.ownsRow base e 1 v' (n + m) (xs ++ news) → w.grownBy w' v.ownBlock → K (a.put o.dst v') w') :
    if Region.wanted o (yielded ops a.tmps) = true then Oper.wp P o a w K Q else E := by
  have hw : Region.wanted o (yielded ops a.tmps) = true := by simp [Region.wanted, hgd]
  rw [if_pos hw]
  exact wp_append_own w s x t ho base e i z 1 1 ht hi hz hsize hby hzs (by decide) v n xs hs hown ad m c news hx (by rw [hl, Nat.mul_one]) hnews h1 (by unfold maxLen; omega) (by omega) hbase fun v' w' h2 h3 _ => h v' w' h2 h3
theorem addr_addN (b o j : Nat) : (⟨b, o, none⟩ : Addr).add j = ⟨b, o + j, none⟩ := by unfold Addr.add; split <;> simp_all
theorem ks_news {W : World} {B n c : Nat} {A : Option Addr} {l : List Int} (h : Ks W B (.slice A n c) l) (h0 : 0 < n) : ∃ b o, A = some ⟨b, o, none⟩ ∧ l.length = n ∧ ∀ j u, (l.map (Value.int .u8))[j]? = some u → W.cell? ((⟨b, o, none⟩ : Addr).add j) = some u := by
  obtain ⟨A', b, o, c', e, hA, -, -, hc⟩ := h
  simp only [Value.slice.injEq] at e
  obtain ⟨rfl, hn, rfl⟩ := e
  refine ⟨b, o, hA (by omega), hn.symm, fun j u hu => ?_⟩
  have hj : j < l.length := by
    have := (List.getElem?_eq_some_iff.1 hu).1
    simpa using this
  obtain ⟨-, h1⟩ := hc j hj
  rw [Nat.mul_one] at h1
  rw [addr_addN]
  refine Eq.trans h1 ?_
  rw [List.getElem?_map, List.getElem?_eq_getElem hj] at hu
  rw [← Option.some.inj hu, List.getD_eq_getElem?_getD, List.getElem?_eq_getElem hj]
  rfl
theorem bel_grown {V w w1 : World} {r : Option Nat} (hb : BelW V w) (hg : w.grownBy w1 r) (hq : ∀ q, r = some q → V.heap.size ≤ q) : BelW V w1 := hb.grown hg (Below.size hb) hq
theorem vapp {w1 : World} {B n m : Nat} {v' : Value} {l k : List Int} (hl : l.length = n) (hk : k.length = m) (ho : w1.ownsRow B 77 1 v' (n + m) (l.map (Value.int .u8) ++ k.map (Value.int .u8))) : VStk w1 B v' (l ++ k) := by
  unfold VStk
  rw [List.length_append, List.map_append, hl, hk]
  exact ho
theorem k_app {l k : List Int} (hl : ∀ y ∈ l, k01 y) (hk : ∀ y ∈ k, k01 y) : ∀ y ∈ l ++ k, k01 y := fun y hy => by
  rcases List.mem_append.1 hy with h | h
  · exact hl y h
  · exact hk y h
theorem Cm.kinds {c : Ck} {n n1 m n3 : Nat} {A0 A1 A2 A3 : Option Addr} {c0 c1 c2 c3 q : Nat} {W : World} (H : Cm c n n1 m n3 A0 A1 A2 A3 c0 c1 c2 c3 q W) (hn : c.nodes.length = n) : ∀ i : Nat, i < n → 0 ≤ (c.nodes.getD i default).kind := fun i hi => by
  obtain ⟨v0, v1, v2, v3, e, hN, -, -, -⟩ := H.cir
  obtain ⟨A, b, o, cc, e1, hA, -, -, hc⟩ := hN
  obtain ⟨hb, s, f0, f1, f2, f3, hs, k0, k1⟩ := hc i (by rw [hn]; exact hi)
  exact k0
theorem one_u8 (l : List Int) : ∀ u ∈ l.map (Value.int .u8), u.oneCell' = true := fun u hu => by
  obtain ⟨y, -, rfl⟩ := List.mem_map.1 hu
  rfl
theorem nxtS_w {c : Ck} {ns m : Nat} {s : Stt} (F : FitS c ns m s) (nets : List Int) {k : Nat} (hk : k < m) : ((nxtS c ns m s nets).words.getD k []).length = blN c.mems k ∧ ∀ i, i < blN c.mems k → (((nxtS c ns m s nets).words.getD k []).getD i []).length = (c.mems.getD k default).data.length := by
  have e : (nxtS c ns m s nets).words.getD k [] = (List.range (s.words.getD k []).length).map (nxW c.mems s.words nets k) := getD_range_map _ _ _ _ hk
  obtain ⟨f1, f2⟩ := F.wk k hk
  rw [e]
  refine ⟨by rw [List.length_map, List.length_range, f1], fun i hi => ?_⟩
  rw [getD_range_map _ _ _ _ (by rw [f1]; exact hi)]
  unfold nxW
  rw [stW_len]
  exact (f2 i hi).1
theorem nxtS_r {c : Ck} {ns m : Nat} {s : Stt} (F : FitS c ns m s) (nets : List Int) {k : Nat} (hk : k < m) : ((nxtS c ns m s nets).read.getD k []).length = (c.mems.getD k default).data.length := by
  have e : (nxtS c ns m s nets).read.getD k [] = nxR c.mems s.words nets k := getD_range_map _ _ _ _ hk
  rw [e]
  unfold nxR
  rw [lkS_len]
  exact ((F.wk k hk).2 0 (Nat.pow_pos (by decide))).1
theorem Cmt.cst {c : Ck} {L : List Int} {n n1 n3 ni ns : Nat} (S : Cmt c L n n1 0 n3 ni ns) : Cst c L n n1 n3 ni ns := ⟨S.vld, S.h1, S.h2, S.h3, S.hi, S.hs, S.outs⟩
end Go.Proofs.YtkaedfgmhfefjaaGreatDoor

namespace Go.Proofs.YtkaedfgmhfefjaaGreatDoor
open Go.RowKit
theorem results_row_tmp1 {P : Program} {fn : Func} {p t1 : Tmp} {ty : TypeId} (h : fn.results = #[.cell p ty, .tmp t1]) (tmps : Array Value) (w : World) (g : Nat) (t : TypeId) (cs : Array Value) (fr : Nat × Nat) (d : TypeDesc)
    (hp : tmps.getD p undef = .pointer (some ⟨g, 0, none⟩)) (hg : w.heap[g]? = some (.cells cs t fr)) (hu : P.underlying ty = some d) (hd : (match d with | .struct _ | .array _ _ => true | _ => false) = true) (hi : (P.info? ty).map (·.size) = some cs.size) :
    (results fn tmps).run P w = .ok (.tuple #[.agg cs, tmps.getD t1 undef]) w := by
  have q : tmps[p]?.getD undef = .pointer (some ⟨g, 0, none⟩) := by simpa using hp
  simp [results, h, q, asAddr, run_loadVar_row w g t ty cs fr d hg hu hd hi, Sem.run_bind, Result.andThen]
set_option maxRecDepth 100000 in
set_option maxHeartbeats 8000000 in
theorem step9_any {c : Ck} {L : List Int} {n n1 m n3 ni ns : Nat} {A0 A1 A2 A3 : Option Addr} {c0 c1 c2 c3 q : Nat} {w : World} (H : Cm c n n1 m n3 A0 A1 A2 A3 c0 c1 c2 c3 q w) (S : Cmt c L n n1 m n3 ni ns) {l a b : List Int} {A Aa Ab : Option Addr} {ml ma mb cl ca cb : Nat} (hl : Ks w w.heap.size (.slice A ml cl) l) (ha : Ks w w.heap.size (.slice Aa ma ca) a) (hb : Ks w w.heap.size (.slice Ab mb cb) b) (vl : ∀ x ∈ l, 0 ≤ x ∧ x ≤ 255) (va : ∀ x ∈ a, 0 ≤ x ∧ x ≤ 255) (vb : ∀ x ∈ b, 0 ≤ x ∧ x ≤ 255) :
    Calls Tryz.prog 8 #[.agg #[.slice A ml cl, .slice Aa ma ca, .slice Ab mb cb], .agg #[.slice A0 n c0, .slice A1 n1 c1, .slice A2 m c2, .slice A3 n3 c3]] w fun e w' => ∃ A7 c7 Aa1 ca1 Aa2 ca2 AI cI, e = .returned (.tuple #[.agg #[.slice A7 ns c7, .slice Aa1 m ca1, .slice Aa2 m ca2], .slice AI ni cI]) ∧ OwnS w' w.heap.size A7 Aa1 Aa2 ns m m c7 ca1 ca2 (sofS c ns m l) ∧ VStk w' w.heap.size (.slice AI ni cI) (takL a 4 ni) ∧ BelW w w' := by
  obtain ⟨W0, HW0⟩ := named (((w.alloc (.cells #[.slice A ml cl, .slice Aa ma ca, .slice Ab mb cb] 33)).alloc (.cells #[.slice A0 n c0, .slice A1 n1 c1, .slice A2 m c2, .slice A3 n3 c3] 39)).alloc (.cells #[.slice none 0 0, .slice none 0 0, .slice none 0 0] 45))
  have hb0 : BelW w W0 := by rw [HW0.out]; exact below_new (below_new (below_new (Below.refl _ _) _) _) _
  have hfy : Fr W0 w.heap.size 33 [.slice A ml cl, .slice Aa ma ca, .slice Ab mb cb] := by rw [HW0.out]; exact Fr.alloc (Fr.alloc (Fr.made _ [.slice A ml cl, .slice Aa ma ca, .slice Ab mb cb] _ rfl) _) _
  have hfc : Fr W0 (w.heap.size + 1) 39 [.slice A0 n c0, .slice A1 n1 c1, .slice A2 m c2, .slice A3 n3 c3] := by rw [HW0.out]; exact Fr.alloc (Fr.made _ [.slice A0 n c0, .slice A1 n1 c1, .slice A2 m c2, .slice A3 n3 c3] _ (by simp)) _
  have hft : Fr W0 (w.heap.size + 1 + 1) 45 [.slice none 0 0, .slice none 0 0, .slice none 0 0] := by rw [HW0.out]; exact Fr.made _ [.slice none 0 0, .slice none 0 0, .slice none 0 0] _ (by simp)
  obtain ⟨s, HS⟩ := named w.heap.size
  have HFT0 : Hid (s = w.heap.size) := HS
  rw [← HS.out] at hfy hfc hft
  have HCE : Hid (∀ W, BelW W0 W → W.cell? ⟨s, 0, none⟩ = some (.slice A ml cl) ∧ W.cell? ⟨s, 1, none⟩ = some (.slice Aa ma ca) ∧ W.cell? ⟨s, 2, none⟩ = some (.slice Ab mb cb) ∧ W.cell? ⟨s + 1, 0, none⟩ = some (.slice A0 n c0) ∧ W.cell? ⟨s + 1, 1, none⟩ = some (.slice A1 n1 c1) ∧ W.cell? ⟨s + 1, 2, none⟩ = some (.slice A2 m c2) ∧ W.cell? ⟨s + 1, 3, none⟩ = some (.slice A3 n3 c3)) := Lib.hid fun W h => ⟨(hfy.below h).cell 0, (hfy.below h).cell 1, (hfy.below h).cell 2, (hfc.below h).cell 0, (hfc.below h).cell 1, (hfc.below h).cell 2, (hfc.below h).cell 3⟩
  have HKP : Hid (∀ {v : Value} {x : List Int} {W : World}, BelW W0 W → Ks w w.heap.size v x → Ks W W.heap.size v x) := Lib.hid fun h hk => Arr.keep stays_u8 hk (joinB hb0 h).size fun _ hp => (joinB hb0 h).cell hp
  have HSO : Hid (∀ W, BelW W0 W → Calls Tryz.prog 23 #[.agg #[.slice A ml cl], .agg #[.slice A0 n c0, .slice A1 n1 c1, .slice A2 m c2, .slice A3 n3 c3]] W fun e w' => ∃ A7 c7 Aa1 ca1 Aa2 ca2, e = .returned (.agg #[.slice A7 ns c7, .slice Aa1 m ca1, .slice Aa2 m ca2]) ∧ OwnS w' W0.heap.size A7 Aa1 Aa2 ns m m c7 ca1 ca2 (sofS c ns m l) ∧ BelW W w') := Lib.hid fun W h => by
    have hbw := joinB hb0 h
    exact (sof9_any c l A A0 A1 A2 A3 n n1 m n3 c0 c1 c2 c3 ml cl ns W (H.next hbw).cir (HKP.out h hl) vl (by rw [S.len]; have := S.few; omega) S.hs' (by have := S.nsB; have := S.few; omega) (by have := S.m1; omega) (fun k hk => by obtain ⟨p, q⟩ := S.port k hk; omega) S.pos).mono fun e w' ⟨A7, c7, Aa1, ca1, Aa2, ca2, he, ho, hb⟩ => ⟨A7, c7, Aa1, ca1, Aa2, ca2, he, ho.low (Below.size h), hb⟩
  have HPO : Hid (∀ W, BelW W0 W → Calls Tryz.prog 32 #[.agg #[.slice Aa ma ca, .slice Ab mb cb], .agg #[.slice A0 n c0, .slice A1 n1 c1, .slice A2 m c2, .slice A3 n3 c3]] W fun e w' => ∃ AI cI AS cS, e = .returned (.agg #[.slice AI ni cI, .slice AS ns cS]) ∧ VStk w' W0.heap.size (.slice AI ni cI) (takL a 4 ni) ∧ BelW W w') := Lib.hid fun W h => by
    have hbw := joinB hb0 h
    exact ((H.next hbw).pOf S (HKP.out h ha) (HKP.out h hb) va vb).mono fun e w' ⟨AI, cI, AS, cS, he, r1, _, _, hb⟩ => ⟨AI, cI, AS, cS, he, r1.low (Below.size h), hb⟩
  have HB0 := Lib.hid hb0
  have HSZ : Hid (W0.heap.size = w.heap.size + 1 + 1 + 1) := Lib.hid (by rw [HW0.out]; simp)
  have HRB : Hid (∀ W, BelW W0 W → W.cell? ⟨s + 1 + 1, 0, none⟩ = some (.slice none 0 0) ∧ W.cell? ⟨s + 1 + 1, 1, none⟩ = some (.slice none 0 0) ∧ W.cell? ⟨s + 1 + 1, 2, none⟩ = some (.slice none 0 0) ∧ W.frozen? ⟨s + 1 + 1, 0, none⟩ = false ∧ W.frozen? ⟨s + 1 + 1, 1, none⟩ = false ∧ W.frozen? ⟨s + 1 + 1, 2, none⟩ = false) := Lib.hid fun W h => ⟨(hft.below h).cell 0, (hft.below h).cell 1, (hft.below h).cell 2, (hft.below h).frozen 0, (hft.below h).frozen 1, (hft.below h).frozen 2⟩
  have HS3 : Hid (∀ (W : World) (u0 u1 u2 : Value), BelW W0 W → (((W.setCell ⟨s + 1 + 1, 0, none⟩ u0).setCell ⟨s + 1 + 1, 1, none⟩ u1).setCell ⟨s + 1 + 1, 2, none⟩ u2).cell? ⟨s, 0, none⟩ = some (.slice A ml cl) ∧ (((W.setCell ⟨s + 1 + 1, 0, none⟩ u0).setCell ⟨s + 1 + 1, 1, none⟩ u1).setCell ⟨s + 1 + 1, 2, none⟩ u2).cell? ⟨s, 1, none⟩ = some (.slice Aa ma ca) ∧ (((W.setCell ⟨s + 1 + 1, 0, none⟩ u0).setCell ⟨s + 1 + 1, 1, none⟩ u1).setCell ⟨s + 1 + 1, 2, none⟩ u2).cell? ⟨s, 2, none⟩ = some (.slice Ab mb cb) ∧ (((W.setCell ⟨s + 1 + 1, 0, none⟩ u0).setCell ⟨s + 1 + 1, 1, none⟩ u1).setCell ⟨s + 1 + 1, 2, none⟩ u2).cell? ⟨s + 1, 0, none⟩ = some (.slice A0 n c0) ∧ (((W.setCell ⟨s + 1 + 1, 0, none⟩ u0).setCell ⟨s + 1 + 1, 1, none⟩ u1).setCell ⟨s + 1 + 1, 2, none⟩ u2).cell? ⟨s + 1, 1, none⟩ = some (.slice A1 n1 c1) ∧ (((W.setCell ⟨s + 1 + 1, 0, none⟩ u0).setCell ⟨s + 1 + 1, 1, none⟩ u1).setCell ⟨s + 1 + 1, 2, none⟩ u2).cell? ⟨s + 1, 2, none⟩ = some (.slice A2 m c2) ∧ (((W.setCell ⟨s + 1 + 1, 0, none⟩ u0).setCell ⟨s + 1 + 1, 1, none⟩ u1).setCell ⟨s + 1 + 1, 2, none⟩ u2).cell? ⟨s + 1, 3, none⟩ = some (.slice A3 n3 c3)) := Lib.hid fun W u0 u1 u2 h => by
    have g1 := (((hfy.below h).other (a := ⟨s + 1 + 1, 0, none⟩) (by show s + 1 + 1 ≠ s; omega) u0).other (a := ⟨s + 1 + 1, 1, none⟩) (by show s + 1 + 1 ≠ s; omega) u1).other (a := ⟨s + 1 + 1, 2, none⟩) (by show s + 1 + 1 ≠ s; omega) u2
    have g2 := (((hfc.below h).other (a := ⟨s + 1 + 1, 0, none⟩) (by show s + 1 + 1 ≠ s + 1; omega) u0).other (a := ⟨s + 1 + 1, 1, none⟩) (by show s + 1 + 1 ≠ s + 1; omega) u1).other (a := ⟨s + 1 + 1, 2, none⟩) (by show s + 1 + 1 ≠ s + 1; omega) u2
    exact ⟨g1.cell 0, g1.cell 1, g1.cell 2, g2.cell 0, g2.cell 1, g2.cell 2, g2.cell 3⟩
  have HFT := Lib.hid hft
  obtain ⟨x0, x1, x2, y0, y1, y2, y3⟩ := HCE.out W0 (Below.refl _ _)
  clear H S hl ha hb vl va vb hb0 hfy hfc hft
  go_enter Tryz.func8, Tryz.ntmps8
  go_upto_region 1 with (fail)
  rw [← HW0.out, ← HS.out]
  have h0 : BelW W0 W0 := Below.refl _ _
  have hfd : ∀ (B B' : Option Addr) (b1 b2 b3 b4 : Nat) (W : World), (Instr.field 73 (.agg #[.slice B b1 b2, .slice B' b3 b4]) 0).run Tryz.prog W = .ok (.slice B b1 b2) W := fun _ _ _ _ _ _ _ => by kernel_rfl
  go_region_held3 (fun w' => w'.cell? ⟨s, 0, none⟩ = some (.slice A ml cl) ∧ w'.cell? ⟨s, 1, none⟩ = some (.slice Aa ma ca) ∧ w'.cell? ⟨s, 2, none⟩ = some (.slice Ab mb cb) ∧ w'.cell? ⟨s + 1, 0, none⟩ = some (.slice A0 n c0) ∧ w'.cell? ⟨s + 1, 1, none⟩ = some (.slice A1 n1 c1) ∧ w'.cell? ⟨s + 1, 2, none⟩ = some (.slice A2 m c2) ∧ w'.cell? ⟨s + 1, 3, none⟩ = some (.slice A3 n3 c3))
    ((first | (with_reducible exact h14) | (refine HCE.out _ ?_; (with_reducible repeat (first | assumption | refine BelW.drew ?_))) | (refine HCE.out _ ?_; trivial)))
    (first
      | (go_at_call 23; (refine Calls.mono (HSO.out _ (BelW.drew h0)) ?_)
         rintro e w1 ⟨A7, c7, Aa1, ca1, Aa2, ca2, rfl, ho, hb1⟩
         have h1 : BelW W0 w1 := BelW.trans (BelW.drew h0) hb1)
      | (go_at_call 32; (refine Calls.mono (HPO.out _ h1) ?_)
         rintro e w2 ⟨AI, cI, AS, cS, rfl, hv, hb2⟩
         have ho2 := ho.below hb2
         have h2 : BelW W0 w2 := BelW.trans h1 hb2
         have h14 := HS3.out w2 (.slice A7 ns c7) (.slice Aa1 m ca1) (.slice Aa2 m ca2) h2
         obtain ⟨t0, t1, t2, t3, t4, t5⟩ := HRB.out w2 h2))
  have hlt : s + 1 + 1 < W0.heap.size := by rw [HSZ.out, HFT0.out]; omega
  have hle : w.heap.size ≤ s + 1 + 1 := by rw [HFT0.out]; omega
  have HOW := Lib.hid (((ho2.setS (a := ⟨s + 1 + 1, 0, none⟩) hlt (.slice A7 ns c7)).setS (a := ⟨s + 1 + 1, 1, none⟩) hlt (.slice Aa1 m ca1)).setS (a := ⟨s + 1 + 1, 2, none⟩) hlt (.slice Aa2 m ca2))
  have HVI := Lib.hid (((hv.setS (a := ⟨s + 1 + 1, 0, none⟩) hlt (.slice A7 ns c7)).setS (a := ⟨s + 1 + 1, 1, none⟩) hlt (.slice Aa1 m ca1)).setS (a := ⟨s + 1 + 1, 2, none⟩) hlt (.slice Aa2 m ca2))
  have HBE := Lib.hid ((((joinB HB0.out h2).setCell (p := ⟨s + 1 + 1, 0, none⟩) hle (.slice A7 ns c7)).setCell (p := ⟨s + 1 + 1, 1, none⟩) hle (.slice Aa1 m ca1)).setCell (p := ⟨s + 1 + 1, 2, none⟩) hle (.slice Aa2 m ca2))
  have HQ := Lib.hid ((((HFT.out.below h2).set 0 (.slice A7 ns c7)).set 1 (.slice Aa1 m ca1)).set 2 (.slice Aa2 m ca2))
  have HLO : Hid (w.heap.size ≤ W0.heap.size) := Lib.hid (by omega)
  clear h0 h1 h2 ho ho2 hv hb1 hb2 hlt hle h14 t0 t1 t2 t3 t4 t5 hfd
  go_wp2
  refine bodyPost_ret (results_row_tmp1 rfl _ _ _ _ _ _ _ rfl HQ.out Tryz.underlying45 rfl (by kernel_rfl)) rfl ?_
  exact ⟨A7, c7, Aa1, ca1, Aa2, ca2, AI, cI, rfl, HOW.out.low HLO.out, HVI.out.low HLO.out, HBE.out⟩
end Go.Proofs.YtkaedfgmhfefjaaGreatDoor

namespace Go.Proofs.YtkaedfgmhfefjaaGreatDoor.Lg
def cnt (x : Int) : List Int → Nat
  | [] => 0
  | v :: l => (if v = x then 1 else 0) + cnt x l
def bitI (b : Bool) : Int := if b = true then 1 else 0
def chc (v : Int) (bus : Bool) : List Int :=
  if v = 0 then [0] else if v = 1 then [1] else if bus = true ∧ v = 3 then [2] else if bus = true then [0, 1, 2] else [0, 1]
def fnK (q : Int) (ones zeros : Nat) (l : List Int) : Int :=
  if q = 1 then 0 else if q = 2 then 1
  else if q = 3 then bitI (l.getD 0 0 == 1) else if q = 4 then bitI (!(l.getD 0 0 == 1))
  else if q = 5 then bitI (zeros == 0) else if q = 6 then bitI (!(zeros == 0))
  else if q = 7 then bitI (decide (0 < ones)) else if q = 8 then bitI (!decide (0 < ones))
  else if q = 9 then bitI (ones % 2 == 1) else if q = 10 then bitI (!(ones % 2 == 1))
  else if q = 11 then (if l.getD 0 0 = 0 then l.getD 1 0 else l.getD 2 0)
  else if q = 12 then (if l.getD 0 0 = 0 then 2 else l.getD 1 0)
  else if q = 13 then (if ones + zeros = 0 then 2 else if 0 < ones ∧ 0 < zeros then 3 else bitI (decide (0 < ones)))
  else bitI (decide (0 < ones))
def fn (q : Int) (l : List Int) : Int := fnK q (cnt 1 l) (cnt 0 l) l
end Go.Proofs.YtkaedfgmhfefjaaGreatDoor.Lg

namespace Go.Proofs.YtkaedfgmhfefjaaGreatDoor
open Go.RowKit
def bw (w : List Int) (b : Nat) : List Int := if w.length ≤ b then [0, 1] else Lg.chc (w.getD b 0) false
end Go.Proofs.YtkaedfgmhfefjaaGreatDoor

namespace Go.Proofs.YtkaedfgmhfefjaaGreatDoor.Ch
open Go.RowKit
open Go.Proofs.YtkaedfgmhfefjaaGreatDoor.Lg
def Cht (w : World) : Prop := ∀ k, k < 4 → w.cell? ⟨0, k, none⟩ = some (.int .u8 (charsL.getD k 0))
theorem Cht.below {w w' : World} (h : Cht w) (hb : Below w.heap.size w w') : Cht w' := fun k hk => by
  have h0 := h k hk
  have hl : 0 < w.heap.size := by
    rcases Nat.lt_or_ge 0 w.heap.size with hl | hl
    · exact hl
    · simp [World.cell?, Array.getElem?_eq_none hl] at h0
  rw [← h0]; exact hb.cell (p := ⟨0, k, none⟩) hl
def vof (c : Int) : Int := if c = 49 then 1 else if c = 88 then 2 else if c = 90 then 3 else 0
def isv (c : Int) : Bool := decide (c = 48 ∨ c = 49 ∨ c = 88 ∨ c = 90)
set_option maxHeartbeats 1000000 in
theorem valueOf_ch (c : Int) (w : World) (h : Cht w) :
    Calls Tryz.prog 130 #[.int .u8 c] w fun e w' => e = .returned (.tuple #[.int .u8 (vof c), .bool (isv c)]) ∧ w = w' := by
  have c0 := h 0 (by decide)
  have c1 := h 1 (by decide)
  have c2 := h 2 (by decide)
  have c3 := h 3 (by decide)
  simp only [charsL, List.getD_cons_zero, List.getD_cons_succ] at c0 c1 c2 c3
  clear h
  have i0 : ∀ w, (Instr.index 23 (.agg #[.int .u8 48, .int .u8 49, .int .u8 88, .int .u8 90]) (.int .i64 0)).run Tryz.prog w = .ok (.int .u8 48) w := fun _ => by kernel_rfl
  have i1 : ∀ w, (Instr.index 23 (.agg #[.int .u8 48, .int .u8 49, .int .u8 88, .int .u8 90]) (.int .i64 1)).run Tryz.prog w = .ok (.int .u8 49) w := fun _ => by kernel_rfl
  have i2 : ∀ w, (Instr.index 23 (.agg #[.int .u8 48, .int .u8 49, .int .u8 88, .int .u8 90]) (.int .i64 2)).run Tryz.prog w = .ok (.int .u8 88) w := fun _ => by kernel_rfl
  have i3 : ∀ w, (Instr.index 23 (.agg #[.int .u8 48, .int .u8 49, .int .u8 88, .int .u8 90]) (.int .i64 3)).run Tryz.prog w = .ok (.int .u8 90) w := fun _ => by kernel_rfl
  obtain ⟨x, HX⟩ := named (vof c)
  obtain ⟨y, HY⟩ := named (isv c)
  rw [← HX.out, ← HY.out]
  by_cases h0 : c = 48
  · subst h0
    go_enter Tryz.func130, Tryz.ntmps130
    go_wp2
    refine wp_loop_rounds 5 ?_
    rw [rounds_succ]; go_wp2
    go_ret2
    exact ⟨by rw [HX.out, HY.out]; rfl, rfl⟩
  by_cases h1 : c = 49
  · subst h1
    go_enter Tryz.func130, Tryz.ntmps130
    go_wp2
    refine wp_loop_rounds 5 ?_
    rw [rounds_succ]; go_wp2
    rw [rounds_succ]; go_wp2
    go_ret2
    exact ⟨by rw [HX.out, HY.out]; rfl, rfl⟩
  by_cases h2 : c = 88
  · subst h2
    go_enter Tryz.func130, Tryz.ntmps130
    go_wp2
    refine wp_loop_rounds 5 ?_
    rw [rounds_succ]; go_wp2
    rw [rounds_succ]; go_wp2
    rw [rounds_succ]; go_wp2
    go_ret2
    exact ⟨by rw [HX.out, HY.out]; rfl, rfl⟩
  by_cases h3 : c = 90
  · subst h3
    go_enter Tryz.func130, Tryz.ntmps130
    go_wp2
    refine wp_loop_rounds 5 ?_
    rw [rounds_succ]; go_wp2
    rw [rounds_succ]; go_wp2
    rw [rounds_succ]; go_wp2
    rw [rounds_succ]; go_wp2
    go_ret2
    exact ⟨by rw [HX.out, HY.out]; rfl, rfl⟩
  have g0 : ((48 : Int) == c) = false := by simp; omega
  have g1 : ((49 : Int) == c) = false := by simp; omega
  have g2 : ((88 : Int) == c) = false := by simp; omega
  have g3 : ((90 : Int) == c) = false := by simp; omega
  go_enter Tryz.func130, Tryz.ntmps130
  go_wp2
  refine wp_loop_rounds 5 ?_
  rw [rounds_succ]; go_wp2
  rw [rounds_succ]; go_wp2
  rw [rounds_succ]; go_wp2
  rw [rounds_succ]; go_wp2
  rw [rounds_succ]; go_wp2
  go_ret2
  exact ⟨by rw [HX.out, HY.out]; simp [vof, isv, h0, h1, h2, h3], rfl⟩
def chr (s : ByteArray) (k : Nat) : Int := ((s.data.toList.getD k 0).toNat : Int)
theorem chr_at (s : ByteArray) (k : Nat) (h : k < s.size) : ((s[k]'h).toNat : Int) = chr s k := by
  unfold chr
  rw [List.getD_eq_getElem?_getD, List.getElem?_eq_getElem (by simpa using h)]
  rfl
def fillL (f : Nat → Value) (z : Value) (n k : Nat) : List Value := (List.range n).map fun j => if j < k then f j else z
theorem fillL_len (f : Nat → Value) (z : Value) (n k : Nat) : (fillL f z n k).length = n := by simp [fillL]
theorem fillL_get (f : Nat → Value) (z : Value) (n k j : Nat) (h : j < n) : (fillL f z n k)[j]? = some (if j < k then f j else z) := by
  simp [fillL, List.getElem?_map, List.getElem?_range h]
theorem fillL_set (f : Nat → Value) (z : Value) (n k : Nat) : (fillL f z n k).set k (f k) = fillL f z n (k + 1) := by
  apply List.ext_getElem?
  intro j
  by_cases hj : j < n
  · rw [List.getElem?_set, fillL_get _ _ _ _ _ hj, fillL_get _ _ _ _ _ hj, fillL_len]
    by_cases hk : k = j
    · subst hk; simp [hj]
    · rw [if_neg hk]
      by_cases h1 : j < k
      · rw [if_pos h1, if_pos (by omega)]
      · rw [if_neg h1, if_neg (by omega)]
  · rw [List.getElem?_eq_none (by simp [fillL_len]; omega), List.getElem?_eq_none (by simp [fillL_len]; omega)]
theorem fillL_start (f : Nat → Value) (z : Value) (n : Nat) : (madeCells #[z] n).toList = fillL f z n 0 := by
  apply List.ext_getElem?
  intro j
  by_cases hj : j < n
  · rw [fillL_get _ _ _ _ _ hj]; simp [madeCells, hj, Nat.mod_one]
  · rw [List.getElem?_eq_none (by simp [madeCells]; omega), List.getElem?_eq_none (by simp [fillL_len]; omega)]
theorem info_value : (Tryz.prog.info? 77).map (fun i => (i.zero, i.size, i.bytes)) = some (some (.int .u8 0), 1, 1) := by kernel_rfl
theorem info_byte : (Tryz.prog.info? 5).map (fun i => (i.zero, i.size, i.bytes)) = some (some (.int .u8 0), 1, 1) := by kernel_rfl
def ParsePost (s : ByteArray) (w : World) (e : Ending) (w' : World) : Prop :=
  Below w.heap.size w w' ∧
  (((∀ k, k < s.size → isv (chr s k) = true) ∧ e = .returned (.tuple #[.slice (some ⟨w.heap.size, 0, none⟩) s.size s.size, .int .i64 0]) ∧
    w'.ownsRow w.heap.size 77 1 (.slice (some ⟨w.heap.size, 0, none⟩) s.size s.size) s.size (fillL (fun j => .int .u8 (vof (chr s j))) (.int .u8 0) s.size s.size)) ∨
   ((∃ k, k < s.size ∧ isv (chr s k) = false) ∧ e = .returned (.tuple #[.slice none 0 0, .int .i64 4])))
set_option maxHeartbeats 1000000 in
theorem parse_ch (s : ByteArray) (w : World) (hsz : s.size ≤ 1000) (ht : Cht w) :
    Calls Tryz.prog 100 #[.string s] w (ParsePost s w) := by
  obtain ⟨i0, hi, hz0, hz1, hz2⟩ := info_parts info_value
  have HT := Lib.hid ht
  clear ht
  go_enter Tryz.func100, Tryz.ntmps100
  go_wp2_with (at_make; refine wpList_make_full _ rfl _ _ 41 rfl w.heap.size 77 i0 (.int .u8 0) 1 Tryz.underlying41 hi hz0 hz1 .i64 .i64 _ _ s.size rfl rfl rfl rfl ?b2 ?b3 ?b4 ?_)
  case b2 => rw [hz2]; omega
  case b3 => unfold maxLen; omega
  case b4 => exact Nat.le_refl _
  intro w1 hown hgr
  rw [fillL_start (fun j => .int .u8 (vof (chr s j)))] at hown
  have hb1 : Below w.heap.size w w1 := (Below.refl _ _).grown hgr (Nat.le_refl _) (fun k h => by cases h)
  have HO := Lib.hid hown
  have HBL := Lib.hid hb1
  clear hown hgr hb1 hz0 hz1 hz2 hi
  obtain ⟨g, hg⟩ : ∃ g, g = w.heap.size := ⟨_, rfl⟩
  rw [← hg]
  rw [← hg] at HO HBL
  have HG := Lib.hid hg
  clear hg
  go_wp2
  go_loopw [13] (fun i wr => ∃ k : Nat, k ≤ s.size ∧ i = .int .i64 k ∧ (∀ j, j < k → isv (chr s j) = true) ∧ Below g w wr ∧
    wr.ownsRow g 77 1 (.slice (some ⟨g, 0, none⟩) s.size s.size) s.size (fillL (fun j => .int .u8 (vof (chr s j))) (.int .u8 0) s.size k)) (fun i _ => s.size - (intOf i).toNat)
  case atStart => exact ⟨0, Nat.zero_le _, rfl, fun j hj => absurd hj (by omega), HBL.out, HO.out⟩
  case round =>
    clear HO HBL
    obtain ⟨k, hk, rfl, hall, hb, hown⟩ := hrel
    have HA := Lib.hid hall
    have HB := Lib.hid hb
    have HO := Lib.hid hown
    clear hall hb hown
    by_cases hlt : k < s.size
    · have HC := Lib.hid (chr_at s k hlt)
      have ht : Hid (Cht wr) := Lib.hid (HT.out.below (by rw [← HG.out]; exact HB.out))
      have hfz : wr.frozen? ⟨g, k, none⟩ = false := HO.out.frozenAt k
      have hcl : wr.cell? ⟨g, k, none⟩ = some (.int .u8 0) := by
        rw [HO.out.cellAt k (by omega), fillL_get _ _ _ _ _ hlt, if_neg (by omega)]
      cases hv : isv (chr s k)
      · go_wp2_with (go_at_call 130; refine (valueOf_ch _ _ ht.out).mono ?_; rintro e w' ⟨rfl, rfl⟩; rw [HC.out])
        go_ret2
        exact ⟨by rw [← HG.out]; exact HB.out, .inr ⟨⟨k, hlt, hv⟩, rfl⟩⟩
      · go_wp2_with (go_at_call 130; refine (valueOf_ch _ _ ht.out).mono ?_; rintro e w' ⟨rfl, rfl⟩; rw [HC.out])
        go_roundw
        case rel =>
          refine ⟨k + 1, by omega, by go_num, fun j hj => ?_, HB.out.setCell (Nat.le_refl g) _, ?_⟩
          · by_cases hjk : j = k
            · rw [hjk]; exact hv
            · exact HA.out j (by omega)
          · have := (HO.out.stored k (.int .u8 (vof (chr s k)))).1
            rw [fillL_set (fun j => .int .u8 (vof (chr s j)))] at this
            exact this
        case measure => simp [intOf]; omega
    · have hkn : k = s.size := by omega
      subst hkn
      go_wp2
      go_ret2
      exact ⟨by rw [← HG.out]; exact HB.out, .inl ⟨HA.out, by rw [← HG.out]; rfl, by rw [← HG.out]; exact HO.out⟩⟩
def tch (v : Int) : Int := charsL.getD (cln v).toNat 0
set_option maxHeartbeats 1000000 in
theorem text_ch {w : World} {B : Nat} {s : Value} {l : List Int} (hB : B ≤ w.heap.size) (hs : Vs w B s l) (hsz : l.length ≤ 1000) (hpos : ∀ k, k < l.length → 0 ≤ l.getD k 0) (ht : Cht w) :
    Calls Tryz.prog 47 #[s] w fun e w' => e = .returned (.string (strOfNums (l.map tch))) ∧ Below w.heap.size w w' := by
  obtain ⟨b, o, c, hv, hm, hc⟩ := hs
  clear hm
  obtain ⟨n, hn⟩ : ∃ n, n = l.length := ⟨_, rfl⟩
  have key : ∀ A, (0 < n → A = some ⟨b, o, none⟩) → s = .slice A n c → Calls Tryz.prog 47 #[s] w fun e w' => e = .returned (.string (strOfNums (l.map tch))) ∧ Below w.heap.size w w' := by
    intro A hA hsA
    subst hsA
    obtain ⟨y, HY⟩ := named (strOfNums (l.map tch))
    rw [← HY.out]
    obtain ⟨i0, hi, hz0, hz1, hz2⟩ := info_parts info_byte
    rw [← hn] at hsz hpos hc
    have HA := Lib.hid hA
    have HT := Lib.hid ht
    have HC := Lib.hid hc
    have HN := Lib.hid hn
    have HP := Lib.hid hpos
    have HB := Lib.hid hB
    clear ht hc hn hpos hB hA hv
    go_enter Tryz.func47, Tryz.ntmps47
    go_wp2_with (at_make; refine wpList_make_full _ rfl _ _ 25 rfl w.heap.size 5 i0 (.int .u8 0) 1 Tryz.underlying25 hi hz0 hz1 .i64 .i64 _ _ n rfl rfl rfl rfl ?b2 ?b3 ?b4 ?_)
    case b2 => rw [hz2]; omega
    case b3 => unfold maxLen; omega
    case b4 => exact Nat.le_refl _
    intro w1 hown hgr
    rw [fillL_start (fun j => .int .u8 (tch (l.getD j 0)))] at hown
    have hb1 : Below w.heap.size w w1 := (Below.refl _ _).grown hgr (Nat.le_refl _) (fun k h => by cases h)
    obtain ⟨g, hg⟩ : ∃ g, g = w.heap.size := ⟨_, rfl⟩
    rw [← hg] at hown hb1
    rw [← hg]
    have HO := Lib.hid hown
    have HBL := Lib.hid hb1
    have HG := Lib.hid hg
    clear hown hgr hb1 hz0 hz1 hz2 hi hg
    go_wp2
    go_loopw [11] (fun i wr => ∃ k : Nat, k ≤ n ∧ i = .int .i64 k ∧ Below g w wr ∧
      wr.ownsRow g 5 1 (.slice (some ⟨g, 0, none⟩) n n) n (fillL (fun j => .int .u8 (tch (l.getD j 0))) (.int .u8 0) n k)) (fun i _ => n - (intOf i).toNat)
    case atStart => exact ⟨0, Nat.zero_le _, rfl, HBL.out, HO.out⟩
    case round =>
      clear HO HBL
      obtain ⟨k, hk, rfl, hb, hown⟩ := hrel
      have HBL := Lib.hid hb
      have HO := Lib.hid hown
      clear hb hown
      by_cases hlt : k < n
      · obtain rfl := HA.out (by omega)
        have ht : Cht wr := HT.out.below (by rw [← HG.out]; exact HBL.out)
        have hfz : wr.frozen? ⟨g, k, none⟩ = false := HO.out.frozenAt k
        have hcl : wr.cell? ⟨g, k, none⟩ = some (.int .u8 0) := by
          rw [HO.out.cellAt k (by omega), fillL_get _ _ _ _ _ hlt, if_neg (by omega)]
        have hcv : wr.cell? ⟨b, o + k, none⟩ = some (.int .u8 (l.getD k 0)) :=
          (HBL.out.cell (p := ⟨b, o + k, none⟩) (by rw [HG.out]; exact Nat.lt_of_lt_of_le (HC.out k hlt).1 HB.out)).trans (HC.out k hlt).2
        have hp := cln_cases _ (HP.out k hlt)
        have HS := Lib.hid (HO.out.stored k (.int .u8 (tch (l.getD k 0)))).1
        obtain ⟨v, hv⟩ : ∃ v, v = l.getD k 0 := ⟨_, rfl⟩
        rw [← hv] at hcv hp HS
        have HV := Lib.hid hv
        clear hv
        rcases hp with h | h | h | h
        all_goals
          obtain ⟨q, HQ⟩ := named (tch v)
          rw [← HQ.out] at HS
          obtain rfl : q = _ := HQ.out.trans (by unfold tch; rw [h]; first | done | rfl)
          have hch := ht (cln v).toNat (by rw [h]; decide)
          rw [h] at hch
          simp only [charsL, Int.toNat_zero, Int.toNat_one, Int.reduceToNat, List.getD_cons_zero, List.getD_cons_succ] at hch
          have HT' := Lib.hid ht
          clear ht
          go_wp2_with (go_at_call 94; refine (clean_any _ _).mono ?_; rintro e w' ⟨rfl, rfl⟩; rw [h])
          go_roundw
          case rel =>
            refine ⟨k + 1, by omega, by go_num, HBL.out.setCell (Nat.le_refl g) _, ?_⟩
            have e := fillL_set (fun j => .int .u8 (tch (l.getD j 0))) (.int .u8 0) n k
            rw [← HV.out, ← HQ.out] at e
            rw [← e]; exact HS.out
          case measure => simp [intOf]; omega
      · have hkn : k = n := by omega
        subst hkn
        have hcv := run_convert_bytes_arg (P := Tryz.prog) wr 25 5 Tryz.underlying25 Tryz.underlying5 g 0 k k (l.map tch) (by rw [List.length_map, HN.out]) (fun i hi => by
          rw [Nat.zero_add, HO.out.cellAt i (by omega), fillL_get _ _ _ _ _ hi, if_pos hi]
          rw [List.getD_eq_getElem?_getD, List.getD_eq_getElem?_getD, List.getElem?_map, List.getElem?_eq_getElem (by rw [← HN.out]; exact hi)]
          rfl) 9 Tryz.underlying9
        rw [← HY.out] at hcv
        go_wp2
        go_ret
        exact ⟨rfl, by rw [← HG.out]; exact HBL.out⟩
  rcases hv with rfl | ⟨rfl, A, rfl⟩
  · exact key _ (fun _ => rfl) (by rw [hn])
  · exact key _ (fun h => absurd h (by simp [hn])) (by rw [hn]; rfl)
end Go.Proofs.YtkaedfgmhfefjaaGreatDoor.Ch

namespace Go.Proofs.YtkaedfgmhfefjaaGreatDoor
open Go.RowKit
def matB (l : List Int) (i : Nat) : Bool := ((List.range l.length).all fun k => !knw (l.getD k 0) || l.getD k 0 == ibit i k) && i >>> l.length == 0
theorem mat_eq (l : List Int) (i : Nat) : mat l i = matB l i := by
  refine Bool.eq_iff_iff.2 ?_
  rw [mat_iff]
  unfold matB okA
  simp only [Bool.and_eq_true, List.all_eq_true, List.mem_range, Bool.or_eq_true, Bool.not_eq_true', beq_iff_eq]
  refine and_congr (forall_congr' fun k => forall_congr' fun _ => ?_) Iff.rfl
  cases knw (l.getD k 0) <;> simp
def txtW (ws : List (List Int)) (k : Nat) : ByteArray := (List.range k).foldl (fun s i => (s ++ strOfNums ((ws.getD i []).map Ch.tch)) ++ ⟨#[44]⟩) ⟨#[]⟩
theorem txtW_succ (ws : List (List Int)) (k : Nat) : txtW ws (k + 1) = (txtW ws k ++ strOfNums ((ws.getD k []).map Ch.tch)) ++ ⟨#[44]⟩ := by
  unfold txtW
  rw [List.range_succ, List.foldl_append]; rfl
def W4 : List (List Int) := [[0, 0], [0, 1], [1, 0], [1, 1]]
def lkSB (ws : List (List Int)) (ad : List Int) (n k : Nat) : Bool × List Int := (List.range k).foldl (fun s i => if matB ad i = true then (true, if s.1 = true then agL s.2 (bitsL (ws.getD i []) n) else bitsL (ws.getD i []) n) else s) (false, List.replicate n 2)
theorem lkS_eq (ws : List (List Int)) (ad : List Int) (n k : Nat) : lkS ws ad n k = lkSB ws ad n k := by
  have h : (fun l i => mat l i) = matB := funext fun l => funext fun i => mat_eq l i
  unfold lkS lkSB lkStep
  simp only [mat_eq]
def stWB (ws : List (List Int)) (ad dt : List Int) (en : Int) (j : Nat) : List Int :=
  if en = 0 ∨ matB ad j = false then bitsL (ws.getD j []) (ws.getD j []).length
  else if certB en ad = true then bitsL dt (ws.getD j []).length
  else agL (bitsL (ws.getD j []) (ws.getD j []).length) (bitsL dt (ws.getD j []).length)
theorem stW_eq (ws : List (List Int)) (ad dt : List Int) (en : Int) (j : Nat) : stW ws ad dt en j = stWB ws ad dt en j := by
  unfold stW stWB
  simp only [mat_eq]
theorem l9_k1 : (lkS W4 [1, 0] 2 4).2 = [0, 1] := by rw [lkS_eq]; decide
theorem l9_k2 : (lkS W4 [2, 0] 2 4).2 = [0, 2] := by rw [lkS_eq]; decide
theorem l9_k3 : (lkS W4 [2, 2] 2 4).2 = [2, 2] := by rw [lkS_eq]; decide
theorem l9_s1 : (List.range 4).map (stW W4 [1, 2] [1, 1] 1) = [[0, 0], [2, 1], [1, 0], [1, 1]] := by rw [show stW W4 _ _ _ = stWB W4 _ _ _ from funext fun j => stW_eq _ _ _ _ j]; decide
theorem l9_s2 : (List.range 4).map (stW W4 [1, 0] [1, 1] 1) = [[0, 0], [1, 1], [1, 0], [1, 1]] := by rw [show stW W4 _ _ _ = stWB W4 _ _ _ from funext fun j => stW_eq _ _ _ _ j]; decide
theorem l9_s3 : (List.range 4).map (stW W4 [1, 0] [1, 1] 2) = [[0, 0], [2, 1], [1, 0], [1, 1]] := by rw [show stW W4 _ _ _ = stWB W4 _ _ _ from funext fun j => stW_eq _ _ _ _ j]; decide
end Go.Proofs.YtkaedfgmhfefjaaGreatDoor

namespace Go.Proofs.YtkaedfgmhfefjaaGreatDoor
open Go.RowKit
theorem Ks.lgvs {w : World} {B : Nat} {v : Value} {l : List Int} (h : Ks w B v l) : Lg.Vs w B v l := by
  obtain ⟨A, b, o, c, rfl, hA, -, hm, hc⟩ := h.opens
  refine ⟨b, o, c, ?_, hm, hc⟩
  by_cases h0 : 0 < l.length
  · rw [hA h0]; exact .inl rfl
  · have : l = [] := List.eq_nil_of_length_eq_zero (by omega)
    exact .inr ⟨this, A, by rw [this]; rfl⟩
theorem txtW_size (ws : List (List Int)) (k : Nat) (h : ∀ j, j < k → (ws.getD j []).length ≤ 1000) : (txtW ws k).size ≤ k * 1001 := by
  induction k with
  | zero => exact Nat.le_refl _
  | succ k ih =>
    rw [txtW_succ, ByteArray.size_append, ByteArray.size_append, strOfNums_size, List.length_map]
    have h1 := ih fun j hj => h j (by omega)
    have h2 := h k (by omega)
    have h3 : (⟨#[44]⟩ : ByteArray).size = 1 := rfl
    omega
set_option maxRecDepth 100000 in
set_option maxHeartbeats 4000000 in
theorem textw_any (ws : List (List Int)) (A : Option Addr) (m c : Nat) (w : World) (B : Nat) (hB : B ≤ w.heap.size) (hw : Wrds w B (.slice A m c) ws) (hm : m ≤ 1000) (hl : ∀ k, k < m → (ws.getD k []).length ≤ 1000 ∧ ∀ y ∈ ws.getD k [], 0 ≤ y) (hT : Ch.Cht w) :
    Calls Tryz.prog 14 #[.slice A m c] w fun e w' => e = .returned (.string (txtW ws m)) ∧ BelW w w' := by
  obtain ⟨A', b, o, c', e, hA, -, -, hc⟩ := hw
  simp only [Value.slice.injEq] at e
  obtain ⟨rfl, hml, rfl⟩ := e
  rw [← hml] at hA hc
  have HA := Lib.hid hA
  have HC : Hid (∀ k, k < m → ∃ A c n, ∀ W, BelW w W → W.cell? ⟨b, o + k, none⟩ = some (.slice A n c) ∧ Calls Tryz.prog 47 #[.slice A n c] W fun e w' => e = .returned (.string (strOfNums ((ws.getD k []).map Ch.tch))) ∧ Below W.heap.size W w') := Lib.hid fun k hk => by
    obtain ⟨hb, A, c, h1, h2⟩ := hc k hk
    rw [Nat.mul_one] at h1
    refine ⟨A, c, _, fun W h => ⟨(Below.cell h (p := ⟨b, o + k, none⟩) (Nat.lt_of_lt_of_le hb hB)).trans h1, ?_⟩⟩
    have h3 : Ks W W.heap.size (.slice A (ws.getD k []).length c) (ws.getD k []) := Arr.keep stays_u8 h2 (Nat.le_trans hB (Below.size h)) fun _ hp => Below.cell h (Nat.lt_of_lt_of_le hp hB)
    exact Ch.text_ch (Nat.le_refl _) h3.lgvs (hl k hk).1 (fun j hj => by
      rw [List.getD_eq_getElem?_getD, List.getElem?_eq_getElem hj]
      exact (hl k hk).2 _ (List.getElem_mem hj)) (hT.below h)
  have HS := Lib.hid (fun k => txtW_succ ws k)
  have hz : txtW ws 0 = ⟨#[]⟩ := rfl
  have HZ := Lib.hid hz
  have HSZ : Hid (∀ k, k ≤ m → (txtW ws k).size ≤ k * 1001) := Lib.hid fun k hk => txtW_size ws k fun j hj => (hl j (by omega)).1
  have HTZ : Hid (∀ k, k < m → (strOfNums ((ws.getD k []).map Ch.tch)).size ≤ 1000) := Lib.hid fun k hk => by rw [strOfNums_size, List.length_map]; exact (hl k hk).1
  clear hA hc hl hT hml hz
  go_enter Tryz.func14, Tryz.ntmps14
  go_wp2
  go_loopw [3, 4] (fun sv i wr => ∃ k : Nat, k ≤ m ∧ i = .int .i64 k ∧ sv = .string (txtW ws k) ∧ BelW w wr) (fun _ i _ => m - (intOf i).toNat)
  case atStart => exact ⟨0, Nat.zero_le _, rfl, by rw [HZ.out], Below.refl _ _⟩
  case round =>
    obtain ⟨k, hk, rfl, rfl, hb⟩ := hrel
    have HBR := Lib.hid hb
    by_cases hlt : k < m
    · obtain rfl := HA.out (by omega)
      obtain ⟨A2, c2, n2, hc2⟩ := HC.out k hlt
      have hk2 : (k : Int) < (m : Int) := by omega
      obtain ⟨x1, hcl⟩ := hc2 wr hb
      have HCL := Lib.hid hcl
      have HSK := Lib.hid (HS.out k)
      have hz1 := HSZ.out k hk
      have hz2 := HTZ.out k hlt
      obtain ⟨s, HSS⟩ := named (txtW ws k)
      rw [← HSS.out] at HSK hz1 ⊢
      obtain ⟨t, HTT⟩ := named (strOfNums ((ws.getD k []).map Ch.tch))
      rw [← HTT.out] at HSK HCL hz2
      have hz3 : ¬ 9223372036854775807 < s.size + t.size := by omega
      have hz4 : ¬ 9223372036854775807 < s.size + t.size + 1 := by omega
      clear hcl hc2 hb
      go_wp2_with (go_at_call 47; (with_reducible refine HCL.out.mono ?_); rintro e w4 ⟨rfl, hb4⟩; have HB4 : Hid (BelW wr w4) := Lib.hid hb4; clear hb4)
      go_roundw
      case rel => exact ⟨k + 1, by omega, by go_num, by rw [HSK.out], joinB HBR.out HB4.out⟩
      case measure => simp [intOf]; omega
    · obtain rfl : m = k := by omega
      go_wp2
      go_ret
      exact ⟨rfl, HBR.out⟩
def vlsB (s : ByteArray) : List Int := (List.range s.size).map fun k => Ch.vof (Ch.chr s k)
theorem vlsB_len (s : ByteArray) : (vlsB s).length = s.size := by simp [vlsB]
theorem vls_of {s : ByteArray} {w w' : World} {e : Ending} (hall : ∀ k, k < s.size → Ch.isv (Ch.chr s k) = true)
    (h : ((∀ k, k < s.size → Ch.isv (Ch.chr s k) = true) ∧ e = .returned (.tuple #[.slice (some ⟨w.heap.size, 0, none⟩) s.size s.size, .int .i64 0]) ∧ w'.ownsRow w.heap.size 77 1 (.slice (some ⟨w.heap.size, 0, none⟩) s.size s.size) s.size (Ch.fillL (fun j => .int .u8 (Ch.vof (Ch.chr s j))) (.int .u8 0) s.size s.size)) ∨ ((∃ k, k < s.size ∧ Ch.isv (Ch.chr s k) = false) ∧ e = .returned (.tuple #[.slice none 0 0, .int .i64 4]))) :
    e = .returned (.tuple #[.slice (some ⟨w.heap.size, 0, none⟩) s.size s.size, .int .i64 0]) ∧ Hid (VRow w' w.heap.size (vlsB s)) := by
  rcases h with ⟨-, he, ho⟩ | ⟨⟨k, hk, h⟩, -⟩
  · refine ⟨he, Lib.hid (VRow.of (B := w.heap.size) ?_ (vlsB_len s))⟩
    have e2 : Ch.fillL (fun j => .int .u8 (Ch.vof (Ch.chr s j))) (.int .u8 0) s.size s.size = (vlsB s).map (Value.int .u8) := by
      apply List.ext_getElem?
      intro j
      by_cases hj : j < s.size
      · rw [Ch.fillL_get _ _ _ _ _ hj, if_pos hj]; simp [vlsB, hj]
      · rw [List.getElem?_eq_none (by simp [Ch.fillL_len]; omega), List.getElem?_eq_none (by simp [vlsB_len]; omega)]
    rw [← e2]; exact ho
  · rw [hall k hk] at h; cases h
theorem vls_any (s : ByteArray) (w : World) (hsz : s.size ≤ 1000) (hT : Ch.Cht w) (hall : ∀ k, k < s.size → Ch.isv (Ch.chr s k) = true) :
    Calls Tryz.prog 56 #[.string s] w fun e w' => ∃ g, e = .returned (.slice (some ⟨g, 0, none⟩) s.size s.size) ∧ VRow w' g (vlsB s) ∧ w.heap.size ≤ g ∧ BelW w w' := by
  have HP := Lib.hid (Ch.parse_ch s w hsz hT)
  have HA := Lib.hid hall
  obtain ⟨n, HN⟩ := named s.size
  clear hall
  go_enter Tryz.func56, Tryz.ntmps56
  go_wp2_with (go_at_call 100; (with_reducible refine HP.out.mono ?_); rintro e w4 ⟨hb4, h4⟩; have HB4 : Hid (BelW w w4) := Lib.hid hb4; clear hb4; obtain ⟨rfl, ho⟩ : e = .returned (.tuple #[.slice (some ⟨w.heap.size, 0, none⟩) s.size s.size, .int .i64 0]) ∧ Hid (VRow w4 w.heap.size (vlsB s)) := vls_of HA.out h4)
  go_ret
  exact ⟨_, rfl, ho.out, Nat.le_refl _, HB4.out⟩
end Go.Proofs.YtkaedfgmhfefjaaGreatDoor

namespace Go.Proofs.YtkaedfgmhfefjaaGreatDoor
open Go.RowKit
theorem SRow.wrds {w : World} {D m T : Nat} {f : Nat → List Int} (h : SRow w D f m m T) (hm : m ≤ maxLen) : Wrds w w.heap.size (.slice (some ⟨D, 0, none⟩) m m) ((List.range m).map f) := by
  obtain ⟨gf, h1, -⟩ := h.open
  refine ⟨_, D, 0, m, by rw [List.length_map, List.length_range], fun _ => rfl, by simp, by simpa using hm, fun k hk => ⟨h.lt, ?_⟩⟩
  have hkm : k < m := by simpa using hk
  have e : ((List.range m).map f).getD k [] = f k := by simp [hkm, List.getD_eq_getElem?_getD]
  rw [e, Nat.mul_one, Nat.zero_add]
  obtain ⟨c1, c2, -⟩ := h1 k hkm
  exact ⟨_, _, c1, c2.ks⟩
theorem vls_at (s : ByteArray) (l : List Int) (n : Nat) (hn : s.size = n) (h : vlsB s = l) (hv : ∀ k, k < s.size → Ch.isv (Ch.chr s k) = true) (w W : World) (hT : Ch.Cht w) (hb : BelW w W) (h9 : n ≤ 1000) :
    Calls Tryz.prog 56 #[.string s] W fun e w' => ∃ g, e = .returned (.slice (some ⟨g, 0, none⟩) n n) ∧ VRow w' g l ∧ BelW W w' :=
  (vls_any s W (by omega) (hT.below hb) hv).mono fun e w' ⟨g, h1, h2, _, h3⟩ => ⟨g, by rw [h1, hn], by rw [← h]; exact h2, h3⟩
theorem txt_at (l : List Int) (s : ByteArray) (n : Nat) (hn : l.length = n) (h : strOfNums (l.map Ch.tch) = s) (hp : ∀ k, k < l.length → 0 ≤ l.getD k 0) (w W : World) (g : Nat) (hT : Ch.Cht w) (hb : BelW w W) (hv : VRow W g l) (h9 : n ≤ 1000) :
    Calls Tryz.prog 47 #[.slice (some ⟨g, 0, none⟩) n n] W fun e w' => e = .returned (.string s) ∧ BelW W w' := by
  subst hn h
  exact Ch.text_ch (Nat.le_refl _) hv.ks.lgvs h9 hp (hT.below hb)
theorem look_at (ws : List (List Int)) (ad r : List Int) (hr : (lkS ws ad 2 4).2 = r) (g gw : Nat) (W : World) (hw : Wrds W W.heap.size (.slice (some ⟨gw, 0, none⟩) 4 4) ws) (h0 : (ws.getD 0 []).length = 2) (hl : ad.length = 2) (hv : VRow W g ad) :
    Calls Tryz.prog 57 #[.slice (some ⟨gw, 0, none⟩) 4 4, .slice (some ⟨g, 0, none⟩) 2 2] W fun e w' => ∃ g, e = .returned (.slice (some ⟨g, 0, none⟩) 2 2) ∧ VRow w' g r ∧ BelW W w' := by
  have hk := hv.ks
  rw [hl] at hk
  subst hr
  exact look_any ws ad _ _ 4 4 2 2 2 W W.heap.size (Nat.le_refl _) hw hk (by decide) (by decide) h0.symm (by decide)
theorem store_at (ws : List (List Int)) (ad dt : List Int) (en : Int) (ga gd gw : Nat) (W : World) (hw : Wrds W W.heap.size (.slice (some ⟨gw, 0, none⟩) 4 4) ws) (h0 : ∀ k, k < 4 → (ws.getD k []).length ≤ 1000) (hl : ad.length = 2) (hd : dt.length = 2) (hv : VRow W ga ad) (hvd : VRow W gd dt) :
    Calls Tryz.prog 58 #[.slice (some ⟨gw, 0, none⟩) 4 4, .slice (some ⟨ga, 0, none⟩) 2 2, .slice (some ⟨gd, 0, none⟩) 2 2, .int .u8 en] W fun e w' => ∃ D T, e = .returned (.slice (some ⟨D, 0, none⟩) 4 4) ∧ SRow w' D (stW ws ad dt en) 4 4 T ∧ BelW W w' := by
  have hk := hv.ks
  rw [hl] at hk
  have hk2 := hvd.ks
  rw [hd] at hk2
  exact (store_any ws ad dt en _ _ _ 4 4 2 2 2 2 W W.heap.size (Nat.le_refl _) hw hk hk2 (by decide) (fun k hk => Nat.le_trans (h0 k hk) (by decide))).mono fun e w' ⟨D, T, h1, h2, _, h3⟩ => ⟨D, T, h1, h2, h3⟩
theorem wtxt_at (f : Nat → List Int) (L : List (List Int)) (s : ByteArray) (hf : (List.range 4).map f = L) (hs : txtW L 4 = s) (hl : ∀ k, k < 4 → (L.getD k []).length ≤ 1000 ∧ ∀ y ∈ L.getD k [], 0 ≤ y) (w W : World) (D T : Nat) (hT : Ch.Cht w) (hb : BelW w W) (hr : SRow W D f 4 4 T) :
    Calls Tryz.prog 14 #[.slice (some ⟨D, 0, none⟩) 4 4] W fun e w' => e = .returned (.string s) ∧ BelW W w' := by
  have h := hr.wrds (by decide)
  rw [hf] at h
  rw [← hs]
  exact textw_any L _ 4 4 W W.heap.size (Nat.le_refl _) h (by decide) hl (hT.below hb)
set_option maxRecDepth 100000 in
set_option maxHeartbeats 8000000 in
theorem lives9_any (w : World) (hT : Ch.Cht w) : Calls Tryz.prog 17 #[] w fun e w' => e = .returned (.bool true) ∧ BelW w w' := by
  have HV0 := Lib.hid (fun W (h : BelW w W) => vls_at ⟨#[48, 48]⟩ [0, 0] 2 rfl (by decide) (by decide) w W hT h (by decide))
  have HV1 := Lib.hid (fun W (h : BelW w W) => vls_at ⟨#[48, 49]⟩ [0, 1] 2 rfl (by decide) (by decide) w W hT h (by decide))
  have HV2 := Lib.hid (fun W (h : BelW w W) => vls_at ⟨#[49, 48]⟩ [1, 0] 2 rfl (by decide) (by decide) w W hT h (by decide))
  have HV3 := Lib.hid (fun W (h : BelW w W) => vls_at ⟨#[49, 49]⟩ [1, 1] 2 rfl (by decide) (by decide) w W hT h (by decide))
  have HV4 := Lib.hid (fun W (h : BelW w W) => vls_at ⟨#[88, 48]⟩ [2, 0] 2 rfl (by decide) (by decide) w W hT h (by decide))
  have HV5 := Lib.hid (fun W (h : BelW w W) => vls_at ⟨#[88, 88]⟩ [2, 2] 2 rfl (by decide) (by decide) w W hT h (by decide))
  have HV6 := Lib.hid (fun W (h : BelW w W) => vls_at ⟨#[49, 88]⟩ [1, 2] 2 rfl (by decide) (by decide) w W hT h (by decide))
  have HT0 := Lib.hid (fun W g (h : BelW w W) (hv : VRow W g [0, 1]) => txt_at [0, 1] ⟨#[48, 49]⟩ 2 rfl (by decide) (by decide) w W g hT h hv (by decide))
  have HT1 := Lib.hid (fun W g (h : BelW w W) (hv : VRow W g [0, 2]) => txt_at [0, 2] ⟨#[48, 88]⟩ 2 rfl (by decide) (by decide) w W g hT h hv (by decide))
  have HT2 := Lib.hid (fun W g (h : BelW w W) (hv : VRow W g [2, 2]) => txt_at [2, 2] ⟨#[88, 88]⟩ 2 rfl (by decide) (by decide) w W g hT h hv (by decide))
  have HW0 := Lib.hid (fun W D T (h : BelW w W) (hr : SRow W D (stW W4 [1, 2] [1, 1] 1) 4 4 T) => wtxt_at (stW W4 [1, 2] [1, 1] 1) [[0, 0], [2, 1], [1, 0], [1, 1]] ⟨#[48, 48, 44, 88, 49, 44, 49, 48, 44, 49, 49, 44]⟩ l9_s1 (by decide) (by decide) w W D T hT h hr)
  have HW1 := Lib.hid (fun W D T (h : BelW w W) (hr : SRow W D (stW W4 [1, 0] [1, 1] 1) 4 4 T) => wtxt_at (stW W4 [1, 0] [1, 1] 1) [[0, 0], [1, 1], [1, 0], [1, 1]] ⟨#[48, 48, 44, 49, 49, 44, 49, 48, 44, 49, 49, 44]⟩ l9_s2 (by decide) (by decide) w W D T hT h hr)
  have HW2 := Lib.hid (fun W D T (h : BelW w W) (hr : SRow W D (stW W4 [1, 0] [1, 1] 2) 4 4 T) => wtxt_at (stW W4 [1, 0] [1, 1] 2) [[0, 0], [2, 1], [1, 0], [1, 1]] ⟨#[48, 48, 44, 88, 49, 44, 49, 48, 44, 49, 49, 44]⟩ l9_s3 (by decide) (by decide) w W D T hT h hr)
  have hs : BelW w w := Below.refl _ _
  clear hT
  go_enter Tryz.func17, Tryz.ntmps17
  go_upto_region 1 with (fail)
  go_upto_region 2 with (first
    | (go_at_call 56; (with_reducible refine (HV0.out _ hs).mono ?_); rintro e wv ⟨g0, rfl, hvg0, hb⟩; replace hs : BelW w wv := hs.trans hb; clear hb)
    | (go_at_call 56; (with_reducible refine (HV1.out _ hs).mono ?_); rintro e wv ⟨g1, rfl, hvg1, hb⟩; replace hs : BelW w wv := hs.trans hb; replace hvg0 : VRow wv g0 [0, 0] := hvg0.below hb; clear hb)
    | (go_at_call 56; (with_reducible refine (HV2.out _ hs).mono ?_); rintro e wv ⟨g2, rfl, hvg2, hb⟩; replace hs : BelW w wv := hs.trans hb; replace hvg0 : VRow wv g0 [0, 0] := hvg0.below hb; replace hvg1 : VRow wv g1 [0, 1] := hvg1.below hb; clear hb)
    | (go_at_call 56; (with_reducible refine (HV3.out _ hs).mono ?_); rintro e wv ⟨g3, rfl, hvg3, hb⟩; replace hs : BelW w wv := hs.trans hb; replace hvg0 : VRow wv g0 [0, 0] := hvg0.below hb; replace hvg1 : VRow wv g1 [0, 1] := hvg1.below hb; replace hvg2 : VRow wv g2 [1, 0] := hvg2.below hb; clear hb))
  obtain ⟨w4, rfl⟩ : ∃ z, z = wv := ⟨_, rfl⟩
  obtain ⟨W5, HW5⟩ := named (w4.alloc (.cells #[.slice (some ⟨g0, 0, none⟩) 2 2, .slice (some ⟨g1, 0, none⟩) 2 2, .slice (some ⟨g2, 0, none⟩) 2 2, .slice (some ⟨g3, 0, none⟩) 2 2] 41))
  have hn5 : BelW w4 W5 := by rw [HW5.out]; exact below_new (Below.refl _ _) _
  have hf5 : Fr W5 w4.heap.size 41 [.slice (some ⟨g0, 0, none⟩) 2 2, .slice (some ⟨g1, 0, none⟩) 2 2, .slice (some ⟨g2, 0, none⟩) 2 2, .slice (some ⟨g3, 0, none⟩) 2 2] := by rw [HW5.out]; exact Fr.made _ [.slice (some ⟨g0, 0, none⟩) 2 2, .slice (some ⟨g1, 0, none⟩) 2 2, .slice (some ⟨g2, 0, none⟩) 2 2, .slice (some ⟨g3, 0, none⟩) 2 2] _ rfl
  obtain ⟨gw, HGW⟩ := named w4.heap.size
  rw [← HGW.out] at hf5
  rw [← HW5.out, ← HGW.out]
  have hwr : Wrds W5 W5.heap.size (.slice (some ⟨gw, 0, none⟩) 4 4) W4 := by
    refine ⟨_, gw, 0, 4, rfl, fun _ => rfl, by decide, by decide, fun k hk => ⟨hf5.lt, ?_⟩⟩
    have hk4 : k = 0 ∨ k = 1 ∨ k = 2 ∨ k = 3 := by simp [W4] at hk; omega
    rcases hk4 with rfl | rfl | rfl | rfl
    · exact ⟨_, _, hf5.cell 0, (hvg0.below hn5).ks⟩
    · exact ⟨_, _, hf5.cell 1, (hvg1.below hn5).ks⟩
    · exact ⟨_, _, hf5.cell 2, (hvg2.below hn5).ks⟩
    · exact ⟨_, _, hf5.cell 3, (hvg3.below hn5).ks⟩
  have hs5 : BelW w W5 := hs.trans hn5
  have HWR : Hid (∀ W, BelW W5 W → Wrds W W.heap.size (.slice (some ⟨gw, 0, none⟩) 4 4) W4) := Lib.hid fun W h => Arr.keep stays_wds hwr (Below.size h) fun _ hp => Below.cell h hp
  have HL0 := Lib.hid (fun W g (h : BelW W5 W) (hv : VRow W g [1, 0]) => look_at W4 [1, 0] [0, 1] l9_k1 g gw W (HWR.out W h) rfl rfl hv)
  have HL1 := Lib.hid (fun W g (h : BelW W5 W) (hv : VRow W g [2, 0]) => look_at W4 [2, 0] [0, 2] l9_k2 g gw W (HWR.out W h) rfl rfl hv)
  have HL2 := Lib.hid (fun W g (h : BelW W5 W) (hv : VRow W g [2, 2]) => look_at W4 [2, 2] [2, 2] l9_k3 g gw W (HWR.out W h) rfl rfl hv)
  have HS0 := Lib.hid (fun W ga gd (h : BelW W5 W) (hv : VRow W ga [1, 2]) (hd : VRow W gd [1, 1]) => store_at W4 [1, 2] [1, 1] 1 ga gd gw W (HWR.out W h) (by decide) rfl rfl hv hd)
  have HS1 := Lib.hid (fun W ga gd (h : BelW W5 W) (hv : VRow W ga [1, 0]) (hd : VRow W gd [1, 1]) => store_at W4 [1, 0] [1, 1] 1 ga gd gw W (HWR.out W h) (by decide) rfl rfl hv hd)
  have HS2 := Lib.hid (fun W ga gd (h : BelW W5 W) (hv : VRow W ga [1, 0]) (hd : VRow W gd [1, 1]) => store_at W4 [1, 0] [1, 1] 2 ga gd gw W (HWR.out W h) (by decide) rfl rfl hv hd)
  have HSS := Lib.hid hs5
  have h5 : BelW W5 W5 := Below.refl _ _
  clear hs hvg0 hvg1 hvg2 hvg3 hn5 hf5 hwr hs5
  go_upto_region 3 with (first
    | (go_at_call 56; (with_reducible refine (HV2.out _ (HSS.out.trans h5)).mono ?_); rintro e wv ⟨ga, rfl, hvga, hb⟩; replace h5 : BelW W5 wv := h5.trans hb; clear hb)
    | (go_at_call 56; (with_reducible refine (HV4.out _ (HSS.out.trans h5)).mono ?_); rintro e wv ⟨ga, rfl, hvga, hb⟩; replace h5 : BelW W5 wv := h5.trans hb; clear hb)
    | (go_at_call 56; (with_reducible refine (HV5.out _ (HSS.out.trans h5)).mono ?_); rintro e wv ⟨ga, rfl, hvga, hb⟩; replace h5 : BelW W5 wv := h5.trans hb; clear hb)
    | (go_at_call 57; (with_reducible refine (HL0.out _ _ h5 hvga).mono ?_); rintro e wl ⟨gl, rfl, hvgl, hb⟩; replace h5 : BelW W5 wl := h5.trans hb; clear hb hvga)
    | (go_at_call 57; (with_reducible refine (HL1.out _ _ h5 hvga).mono ?_); rintro e wl ⟨gl, rfl, hvgl, hb⟩; replace h5 : BelW W5 wl := h5.trans hb; clear hb hvga)
    | (go_at_call 57; (with_reducible refine (HL2.out _ _ h5 hvga).mono ?_); rintro e wl ⟨gl, rfl, hvgl, hb⟩; replace h5 : BelW W5 wl := h5.trans hb; clear hb hvga)
    | (go_at_call 47; (with_reducible refine (HT0.out _ _ (HSS.out.trans h5) hvgl).mono ?_); rintro e wt ⟨rfl, hb⟩; replace h5 : BelW W5 wt := h5.trans hb; clear hb hvgl)
    | (go_at_call 47; (with_reducible refine (HT1.out _ _ (HSS.out.trans h5) hvgl).mono ?_); rintro e wt ⟨rfl, hb⟩; replace h5 : BelW W5 wt := h5.trans hb; clear hb hvgl)
    | (go_at_call 47; (with_reducible refine (HT2.out _ _ (HSS.out.trans h5) hvgl).mono ?_); rintro e wt ⟨rfl, hb⟩; replace h5 : BelW W5 wt := h5.trans hb; clear hb hvgl))
  go_wp2_with (first
    | (go_at_call 56; (with_reducible refine (HV6.out _ (HSS.out.trans h5)).mono ?_); rintro e wv ⟨ga, rfl, hvga, hb⟩; replace h5 : BelW W5 wv := h5.trans hb; clear hb)
    | (go_at_call 56; (with_reducible refine (HV2.out _ (HSS.out.trans h5)).mono ?_); rintro e wv ⟨ga, rfl, hvga, hb⟩; replace h5 : BelW W5 wv := h5.trans hb; clear hb)
    | (go_at_call 56; (with_reducible refine (HV3.out _ (HSS.out.trans h5)).mono ?_); rintro e wv ⟨gd, rfl, hvgd, hb⟩; replace hvga := hvga.below hb; replace h5 : BelW W5 wv := h5.trans hb; clear hb)
    | (go_at_call 58; (with_reducible refine (HS0.out _ _ _ h5 hvga hvgd).mono ?_); rintro e ws ⟨D, T, rfl, hr, hb⟩; replace h5 : BelW W5 ws := h5.trans hb; clear hb hvga hvgd)
    | (go_at_call 58; (with_reducible refine (HS1.out _ _ _ h5 hvga hvgd).mono ?_); rintro e ws ⟨D, T, rfl, hr, hb⟩; replace h5 : BelW W5 ws := h5.trans hb; clear hb hvga hvgd)
    | (go_at_call 58; (with_reducible refine (HS2.out _ _ _ h5 hvga hvgd).mono ?_); rintro e ws ⟨D, T, rfl, hr, hb⟩; replace h5 : BelW W5 ws := h5.trans hb; clear hb hvga hvgd)
    | (go_at_call 14; (with_reducible refine (HW0.out _ _ _ (HSS.out.trans h5) hr).mono ?_); rintro e wt ⟨rfl, hb⟩; replace h5 : BelW W5 wt := h5.trans hb; clear hb hr)
    | (go_at_call 14; (with_reducible refine (HW1.out _ _ _ (HSS.out.trans h5) hr).mono ?_); rintro e wt ⟨rfl, hb⟩; replace h5 : BelW W5 wt := h5.trans hb; clear hb hr)
    | (go_at_call 14; (with_reducible refine (HW2.out _ _ _ (HSS.out.trans h5) hr).mono ?_); rintro e wt ⟨rfl, hb⟩; replace h5 : BelW W5 wt := h5.trans hb; clear hb hr))
  go_ret
  exact ⟨rfl, HSS.out.trans h5⟩
end Go.Proofs.YtkaedfgmhfefjaaGreatDoor
