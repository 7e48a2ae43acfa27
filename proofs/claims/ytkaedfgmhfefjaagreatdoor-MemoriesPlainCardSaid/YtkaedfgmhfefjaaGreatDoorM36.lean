/- The texts Bz9 Cm9 Nt9 Unp Knp Kn9 Ows Owx Wy9. -/
import Derived.Test.YtkaedfgmhfefjaaGreatDoorM35
import Derived.Test.YtkaedfgmhfefjaaGreatDoorM23
import Derived.Test.YtkaedfgmhfefjaaGreatDoorM12
import Derived.Test.YtkaedfgmhfefjaaGreatDoorM14
namespace Go.Proofs.YtkaedfgmhfefjaaGreatDoor
open Go.RowKit
section
variable (A0 A1 A2 A3 : Option Addr) (n0 n1 n2 n3 c0 c1 c2 c3 : Nat) (w : World)
end
end Go.Proofs.YtkaedfgmhfefjaaGreatDoor

namespace Go.Proofs.YtkaedfgmhfefjaaGreatDoor
open Go.RowKit
structure Cmt (c : Ck) (L : List Int) (n n1 m n3 ni ns : Nat) : Prop where
  vld : Vld c L n
  h1 : c.names.length = n1
  h2 : c.mems.length = m
  h3 : c.outs.length = n3
  hi : (ofTo c.nodes [0] n).length = ni
  hs : (ofTo c.nodes [14] n).length = ns
  m1 : m ≤ 1
  port : ∀ k, k < m → (c.mems.getD k default).addr.length = 1 ∧ (c.mems.getD k default).data.length = 2
  outs : c.outs.length ≤ 17592186044416
theorem getD_mem_mm {l : List Mm} {i : Nat} (h : i < l.length) : l.getD i default ∈ l := by
  rw [List.getD_eq_getElem?_getD, List.getElem?_eq_getElem h]; exact List.getElem_mem h
theorem memErr_zero {c : Ck} {x : Mm} (h : memErr c x = 0) : (0 ≤ x.write ∧ x.write < (c.nodes.length : Int)) ∧ (∀ y ∈ x.addr, 0 ≤ y ∧ y < (c.nodes.length : Int)) ∧ (∀ y ∈ x.data, 0 ≤ y ∧ y < (c.nodes.length : Int)) := by
  unfold memErr at h
  split at h
  · cases h
  split at h
  · cases h
  · rename_i h1 h2
    refine ⟨isIdx_iff.1 ?_, areIdx_iff.1 ?_, areIdx_iff.1 ?_⟩
    · refine (Bool.not_eq_false _).mp fun e => h2 (.inl e)
    · refine (Bool.not_eq_false _).mp fun e => h2 (.inr (.inl e))
    · refine (Bool.not_eq_false _).mp fun e => h2 (.inr (.inr e))
section
variable {c : Ck} {L : List Int} {n n1 m n3 ni ns : Nat}
theorem Cmt.len (S : Cmt c L n n1 m n3 ni ns) : c.nodes.length = n := S.vld.len.symm
theorem Cmt.few (S : Cmt c L n n1 m n3 ni ns) : n < 20 := S.vld.few
theorem Cmt.niB (S : Cmt c L n n1 m n3 ni ns) : ni ≤ n := by rw [← S.hi]; exact ofTo_len _ _ _
theorem Cmt.nsB (S : Cmt c L n n1 m n3 ni ns) : ns ≤ n := by rw [← S.hs]; exact ofTo_len _ _ _
theorem Cmt.hi' (S : Cmt c L n n1 m n3 ni ns) : (ofTo c.nodes [0] c.nodes.length).length = ni := by rw [S.len]; exact S.hi
theorem Cmt.hs' (S : Cmt c L n n1 m n3 ni ns) : (ofTo c.nodes [14] c.nodes.length).length = ns := by rw [S.len]; exact S.hs
theorem Cmt.pos (S : Cmt c L n n1 m n3 ni ns) : ∀ k, k < m → posS c.mems ns (k + 1) ≤ 10000000 := fun k hk => by
  have h1 := S.m1
  have h2 := S.nsB
  have h3 := S.few
  obtain rfl : k = 0 := by omega
  obtain ⟨p, q⟩ := S.port 0 hk
  show ns + 2 ^ (c.mems.getD 0 default).addr.length * (c.mems.getD 0 default).data.length + (c.mems.getD 0 default).data.length ≤ _
  rw [p, q]
  omega
theorem Cmt.idx (S : Cmt c L n n1 m n3 ni ns) : ∀ k, k < m → (∀ x ∈ (c.mems.getD k default).addr, 0 ≤ x ∧ x < (n : Int)) ∧ (∀ x ∈ (c.mems.getD k default).data, 0 ≤ x ∧ x < (n : Int)) ∧ 0 ≤ (c.mems.getD k default).write ∧ (c.mems.getD k default).write < (n : Int) := fun k hk => by
  have h := memErr_zero ((shape_zero (chk_shape S.vld.ok)).2.2.2.2.2.2.1 _ (getD_mem_mm (by rw [S.h2]; exact hk)))
  rw [S.len] at h
  exact ⟨h.2.1, h.2.2, h.1.1, h.1.2⟩
theorem Cmt.memOk (S : Cmt c L n n1 m n3 ni ns) {s : Stt} (F : FitS c ns m s) : MemOk c.nodes s.read := fun i hi hk => by
  have h := (nodeErr_zero ((shape_zero (chk_shape S.vld.ok)).2.2.2.2.1 _ (getD_mem_nd hi))).2.2.2.2.2
  unfold placeOk at h
  rw [if_pos hk, Bool.and_eq_true, isIdx_iff, isIdx_iff] at h
  obtain ⟨⟨a, b⟩, d, e⟩ := h
  rw [S.h2] at b
  have hm : (c.nodes.getD i default).mem.toNat < m := by omega
  refine ⟨a, by rw [F.rl]; exact b, d, ?_⟩
  rw [(F.rk _ hm).1]
  exact e
theorem Cmt.cy (S : Cmt c L n n1 m n3 ni ns) {s : Stt} {inp : List Int} (F : FitS c ns m s) (hl : inp.length = ni) (hv : ∀ y ∈ inp, 0 ≤ y ∧ y ≤ 3) : CyOk c s inp n ni ns m where
  hn := S.len
  hm := S.h2
  hni := S.hi'
  hns := S.hs'
  ck := ck_fits F hl fun j hj => (hv _ (getD_inL hj)).2
  li := hl
  ld := F.dl
  wf := S.vld.wf
  pins := S.vld.pins
  mem := S.memOk F
  nx := F.nx S.h2 fun k hk => by
    obtain ⟨a, b, d, e⟩ := S.idx k hk
    obtain ⟨p, q⟩ := S.port k hk
    exact ⟨a, b, d, e, by omega, by omega⟩
  nsz := by have := S.few; omega
  msz := by have := S.m1; omega
  port := fun k hk => by obtain ⟨p, q⟩ := S.port k hk; omega
  outs := S.outs
end
noncomputable def cyN (c : Ck) (L : List Int) (n : Nat) (s : Stt) (inp : List Int) : List Int := stmK c.nodes s.read (cyB c n s inp) (ordTo L n n) n
theorem cyN_len (c : Ck) (L : List Int) (n : Nat) (s : Stt) (inp : List Int) : (cyN c L n s inp).length = n := by
  unfold cyN cyB
  rw [stmK_len, asg_len, asg_len, List.length_replicate]
structure Cm (c : Ck) (n n1 m n3 : Nat) (A0 A1 A2 A3 : Option Addr) (c0 c1 c2 c3 q : Nat) (W : World) : Prop where
  tabs : Lg.Tabs W
  cir : Cir W W.heap.size (.agg #[.slice A0 n c0, .slice A1 n1 c1, .slice A2 m c2, .slice A3 n3 c3]) c
  box : Fr W q 39 [.slice A0 n c0, .slice A1 n1 c1, .slice A2 m c2, .slice A3 n3 c3]
section
variable {c : Ck} {L : List Int} {n n1 m n3 ni ns : Nat} {A0 A1 A2 A3 : Option Addr} {c0 c1 c2 c3 q : Nat} {W W' : World}
theorem Cm.next (H : Cm c n n1 m n3 A0 A1 A2 A3 c0 c1 c2 c3 q W) (hb : BelW W W') : Cm c n n1 m n3 A0 A1 A2 A3 c0 c1 c2 c3 q W' :=
  ⟨H.tabs.below hb, (H.cir.below hb).more (Below.size hb), H.box.below hb⟩
theorem Cm.cells (H : Cm c n n1 m n3 A0 A1 A2 A3 c0 c1 c2 c3 q W) : W.cell? ⟨q, 0, none⟩ = some (.slice A0 n c0) ∧ W.cell? ⟨q, 1, none⟩ = some (.slice A1 n1 c1) ∧ W.cell? ⟨q, 2, none⟩ = some (.slice A2 m c2) ∧ W.cell? ⟨q, 3, none⟩ = some (.slice A3 n3 c3) :=
  ⟨H.box.cell 0, H.box.cell 1, H.box.cell 2, H.box.cell 3⟩
theorem Cm.pOf (H : Cm c n n1 m n3 A0 A1 A2 A3 c0 c1 c2 c3 q W) (S : Cmt c L n n1 m n3 ni ns) {a b : List Int} {Aa Ab : Option Addr} {ma mb ca cb : Nat} (h1 : Ks W W.heap.size (.slice Aa ma ca) a) (h2 : Ks W W.heap.size (.slice Ab mb cb) b) (h3 : ∀ y ∈ a, 0 ≤ y ∧ y ≤ 255) (h4 : ∀ y ∈ b, 0 ≤ y ∧ y ≤ 255) :
    Calls Tryz.prog 32 #[.agg #[.slice Aa ma ca, .slice Ab mb cb], .agg #[.slice A0 n c0, .slice A1 n1 c1, .slice A2 m c2, .slice A3 n3 c3]] W fun e w' => ∃ AI cI AS cS, e = .returned (.agg #[.slice AI ni cI, .slice AS ns cS]) ∧ VStk w' W.heap.size (.slice AI ni cI) (takL a 4 ni) ∧ VStk w' W.heap.size (.slice AS ns cS) (takL b 3 ns) ∧ (∀ a b, (Value.slice AI ni cI).ownBlock = some a → (Value.slice AS ns cS).ownBlock = some b → a ≠ b) ∧ BelW W w' :=
  pOf_at c a b A0 A1 A2 A3 Aa Ab n n1 m n3 ni ns c0 c1 c2 c3 ma mb ca cb W W.heap.size (Nat.le_refl _) S.len S.h1 S.h2 S.h3 S.hi S.hs H.cir h1 h2 (by have := S.few; omega) h3 h4
theorem Cm.order (H : Cm c n n1 m n3 A0 A1 A2 A3 c0 c1 c2 c3 q W) (S : Cmt c L n n1 m n3 ni ns) :
    Calls Tryz.prog 33 #[.agg #[.slice A0 n c0, .slice A1 n1 c1, .slice A2 m c2, .slice A3 n3 c3]] W fun e w' => ∃ R d, (R = ordTo L n n ∧ R.length = n ∧ ∀ x ∈ R, 0 ≤ x ∧ x < (n : Int)) ∧ e = .returned (.tuple #[.slice (some ⟨d, 0, none⟩) n n, .int .i64 0]) ∧ W.heap.size ≤ d ∧ Row w' d R ∧ BelW W w' :=
  (order_any c _ W W.heap.size (Nat.le_refl _) (tabs_lg H.tabs) H.cir (by rw [S.len]; exact S.few)).mono fun e w' ⟨h1, h2⟩ => by
    rcases h2 with ⟨-, -, L', R, d, hl, -, hs, hd, he, hr⟩ | ⟨hne, -⟩
    · rw [hl.unique S.vld.wf S.vld.lvl] at hs
      rw [S.len] at hs he
      have e1 := ord_eq hs S.vld.bnd
      refine ⟨R, d, ⟨e1, ?_, fun x hx => ?_⟩, he, hd, hr, h1⟩
      · rw [e1]; exact ordTo_full S.vld.bnd
      · rw [e1] at hx
        obtain ⟨i, rfl, hi, -⟩ := ordTo_mem.1 hx
        omega
    · exact absurd S.vld.ok hne
theorem osts_reads {w : World} {gB D1 D2 LL : Nat} {ns m : Nat} {lo : List Int} {nw : Nat → Nat} {fw : Nat → Nat → List Int} {fr : Nat → List Int} (hB : VRow w gB lo) (hl : lo.length = ns) (h : OSt w D1 D2 LL m nw fw fr m m) (hm : m ≤ maxLen) (hn : ∀ j, j < m → nw j ≤ maxLen) :
    StR w w.heap.size (some ⟨gB, 0, none⟩) (some ⟨D1, 0, none⟩) (some ⟨D2, 0, none⟩) ns m m ns m m ⟨lo, (List.range m).map fun j => (List.range (nw j)).map (fw j), (List.range m).map fr⟩ := by
  obtain ⟨r1, r2⟩ := h.reads hm hn
  have r0 := hB.ks
  rw [hl] at r0
  exact ⟨r0, r1, r2⟩
theorem Cm.cycle (H : Cm c n n1 m n3 A0 A1 A2 A3 c0 c1 c2 c3 q W) (S : Cmt c L n n1 m n3 ni ns) {s : Stt} {inp : List Int} {As0 As1 As2 Ai : Option Addr} {d0 d1 d2 ci : Nat} (hS : StR W W.heap.size As0 As1 As2 ns m m d0 d1 d2 s) (hI : Ks W W.heap.size (.slice Ai ni ci) inp) (F : FitS c ns m s) (hl : inp.length = ni) (hv : ∀ y ∈ inp, 0 ≤ y ∧ y ≤ 3) :
    Calls Tryz.prog 9 #[.agg #[.slice A0 n c0, .slice A1 n1 c1, .slice A2 m c2, .slice A3 n3 c3], .agg #[.slice As0 ns d0, .slice As1 m d1, .slice As2 m d2], .slice Ai ni ci] W fun e w' => ∃ gB D1 D2 go gn g, e = .returned (.tuple #[.agg #[.slice (some ⟨gB, 0, none⟩) ns ns, .slice (some ⟨D1, 0, none⟩) m m, .slice (some ⟨D2, 0, none⟩) m m], .agg #[.slice (some ⟨go, 0, none⟩) n3 n3, .slice (some ⟨gn, 0, none⟩) ns ns], .slice (some ⟨g, 0, none⟩) n n, .int .i64 0])
      ∧ VRow w' g (cyN c L n s inp) ∧ VRow w' go (outV c (cyN c L n s inp)) ∧ VRow w' gn (nextV c (cyN c L n s inp)) ∧ StR w' w'.heap.size (some ⟨gB, 0, none⟩) (some ⟨D1, 0, none⟩) (some ⟨D2, 0, none⟩) ns m m ns m m (nxtS c ns m s (cyN c L n s inp)) ∧ BelW W w' := by
  have hk := S.cy F hl hv
  have hlo : ∀ l, (outV c l).length = n3 := fun l => by rw [← S.h3]; exact List.length_map _
  refine (mcycle_ok c s inp (fun R => R = ordTo L n n) A0 A1 A2 A3 As0 As1 As2 Ai n n1 m n3 c0 c1 c2 c3 m d0 d1 d2 ci ns ni W H.tabs H.cir hS hI hk fun W' hb => (H.next hb).order S).mono fun e w' ⟨R, gB, D1, D2, go, gn, g, hR, he, r1, r2, r3, r4, ⟨LL, r5⟩, r6⟩ => ?_
  subst hR
  rw [hlo] at he
  refine ⟨gB, D1, D2, go, gn, g, he, r1, r2, r3, ?_, r6⟩
  refine osts_reads r4 (bitsL_len _ _) r5 (by have := S.m1; unfold maxLen; omega) fun j hj => ?_
  have := (hk.nx.words j (by rw [S.h2]; exact hj)).2.1
  unfold maxLen
  omega
end
theorem ofc_m (x : Cx) (hx : Cok x) (sG sA : Value) (w W : World) (hb : BelW w W) (hG : Gs w w.heap.size sG x.gates) (hA : Ks w w.heap.size sA x.outs) {c : Ck} (hc : c = ofC x) {n : Nat} (hn : n = c.nodes.length) {m : Nat} (hm : m = c.mems.length) :
    Calls Tryz.prog 7 #[.agg #[.int .u8 x.inN, .int .u8 x.dffs, .int .u8 x.d0, .int .u8 x.d1, .bool x.bus, .bool x.mem, .int .u8 x.p0, .int .u8 x.p1, .int .u8 x.p2, .int .u8 x.p3, sG, sA]] W fun e w' => (∃ A0 A1 A2 A3 n1 n3 c0 c1 c2 c3, e = .returned (.agg #[.slice A0 n c0, .slice A1 n1 c1, .slice A2 m c2, .slice A3 n3 c3]) ∧ Cir w' w'.heap.size (.agg #[.slice A0 n c0, .slice A1 n1 c1, .slice A2 m c2, .slice A3 n3 c3]) c ∧ n1 = c.names.length ∧ n3 = c.outs.length) ∧ BelW W w' := by
  refine (ofc_any x hx sG sA W w.heap.size (Below.size hb) (hG.below hb) (Arr.keep stays_u8 hA (Nat.le_refl _) fun _ hp => Below.cell hb hp)).mono fun e w' ⟨⟨v, he, hc1⟩, hb1⟩ => ?_
  rw [← hc] at hc1
  have hc2 := hc1
  obtain ⟨v0, v1, v2, v3, rfl, g0, g1, g2, g3⟩ := hc2
  obtain ⟨A0, _, _, c0, rfl, -⟩ := id g0
  obtain ⟨A1, _, _, c1, rfl, -⟩ := id g1
  obtain ⟨A2, _, _, c2, rfl, -⟩ := id g2
  obtain ⟨A3, _, _, c3, rfl, -⟩ := id g3
  rw [← hm, ← hn] at hc1 he
  exact ⟨⟨A0, A1, A2, A3, _, _, c0, c1, c2, c3, he, hc1, rfl, rfl⟩, hb1⟩
theorem cmt_of (x : Cx) (hx : Cok x) {c : Ck} (hc : c = ofC x) {n n1 m n3 ni ns : Nat} (hn : n = c.nodes.length) (h1 : n1 = c.names.length) (hm : m = c.mems.length) (h3 : n3 = c.outs.length) (hi : ni = (ofTo c.nodes [0] n).length) (hs : ns = (ofTo c.nodes [14] n).length) : ∃ L, Cmt c L n n1 m n3 ni ns := by
  obtain ⟨L, V⟩ := vld_c x hx
  rw [← hc] at V
  have hlen := V.len
  rw [hlen, ← hn] at V
  have hml : c.mems = memsN x := by rw [hc]; rfl
  refine ⟨L, V, h1.symm, hm.symm, h3.symm, hi.symm, hs.symm, ?_, fun k hk => ?_, ?_⟩
  · rw [hm, hml]; unfold memsN; split <;> simp
  · rw [hm, hml] at hk
    rw [hml]
    unfold memsN at hk ⊢
    split at hk
    · rename_i h
      rw [if_pos h]
      obtain rfl : k = 0 := by simpa using hk
      exact ⟨rfl, rfl⟩
    · exact absurd hk (by simp)
  · have := ofC_outs4 x
    rw [← hc] at this
    omega
end Go.Proofs.YtkaedfgmhfefjaaGreatDoor

namespace Go.Proofs.YtkaedfgmhfefjaaGreatDoor
open Go.RowKit
theorem rd_cln (a : Int) : rd (cln a) = rd a := by
  unfold cln
  split
  · rcases knw_cases a with ⟨h, _⟩ | ⟨h, _⟩ | ⟨_, _, _, h⟩
    · omega
    · omega
    · rw [h]; decide
  · rfl
theorem cln_one (a : Int) : cln a = 1 ↔ a = 1 := by unfold cln; split <;> omega
theorem anyR_cln (x : Int) (l : List Int) : anyIs rd x (l.map cln) = anyIs rd x l := by
  unfold anyIs; rw [List.any_map]; congr 1; funext v; simp [Function.comp, rd_cln]
theorem anyC_cln (x : Int) (l : List Int) : anyIs cln x (l.map cln) = anyIs cln x l := by
  unfold anyIs; rw [List.any_map]; congr 1; funext v; simp [Function.comp, cln_cln]
theorem par_cln : ∀ l : List Int, par (l.map cln) = par l
  | [] => rfl
  | v :: l => by
    show par (cln v :: l.map cln) = par (v :: l)
    unfold par
    rw [par_cln l]
    simp only [cln_one]
theorem getD_cln (l : List Int) (k : Nat) : (l.map cln).getD k 0 = cln (l.getD k 0) := by
  rw [List.getD_eq_getElem?_getD, List.getD_eq_getElem?_getD, List.getElem?_map]
  cases l[k]? with
  | none => rfl
  | some v => rfl
theorem nt_cln (a : Int) : nt (cln a) = nt a := by unfold nt; rw [rd_cln]
theorem mx_cln (s a b : Int) : mx (cln s) (cln a) (cln b) = mx s a b := by unfold mx; rw [rd_cln, rd_cln, rd_cln]
theorem tr_cln (a b : Int) : tr (cln a) (cln b) = tr a b := by unfold tr; rw [rd_cln, rd_cln]
theorem andL_cln (l : List Int) : andL (l.map cln) = andL l := by unfold andL; rw [anyR_cln, anyR_cln]
theorem orL_cln (l : List Int) : orL (l.map cln) = orL l := by unfold orL; rw [anyR_cln, anyR_cln]
theorem xorL_cln (l : List Int) : xorL (l.map cln) = xorL l := by unfold xorL; rw [anyR_cln, par_cln]
theorem busL_cln (l : List Int) : busL (l.map cln) = busL l := by unfold busL conL; rw [anyC_cln, anyC_cln, anyC_cln]
theorem funL_cln (k : Int) (l : List Int) : funL k (l.map cln) = funL k l := by
  unfold funL
  rw [getD_cln, getD_cln, getD_cln, rd_cln, nt_cln, mx_cln, tr_cln, andL_cln, orL_cln, xorL_cln, busL_cln]
theorem evalL_cln (k : Int) (l : List Int) : evalL k (l.map cln) = evalL k l := by
  unfold evalL
  rw [List.length_map, funL_cln]
theorem gateR_eq (nodes : List Nd) (out : List Int) (i : Int) : gateR nodes out i = gateV nodes out i := by
  unfold gateR gateV
  rw [← evalL_cln, List.map_map]
  rfl
def baseM (nodes : List Nd) (rds : List (List Int)) (base : List Int) : List Int := (List.range nodes.length).map fun i => if (nodes.getD i default).kind = 15 then memV nodes rds (i : Nat) else lat base i
theorem lat_baseM {nodes : List Nd} {rds : List (List Int)} {base : List Int} {i : Nat} (hi : i < nodes.length) : lat (baseM nodes rds base) i = if (nodes.getD i default).kind = 15 then memV nodes rds (i : Nat) else lat base i := by
  unfold lat baseM
  rw [Int.toNat_natCast]
  rw [getD_range_map _ _ _ _ hi]
  rfl
structure StM (nodes : List Nd) (rds : List (List Int)) (base P out : List Int) : Prop where
  len : out.length = nodes.length
  off : ∀ i : Nat, i < nodes.length → cmb (nodes.getD i default).kind = false → (nodes.getD i default).kind ≠ 15 → lat out i = lat base i
  mem : ∀ y ∈ P, (nodes.getD y.toNat default).kind = 15 → lat out y = memV nodes rds y
  on : ∀ y ∈ P, cmb (nodes.getD y.toNat default).kind = true → lat out y = gateV nodes out y
theorem cmb_15 {k : Int} (h : k = 15) : cmb k = false := by subst h; decide
theorem StM.start (nodes : List Nd) (rds : List (List Int)) (base : List Int) (h : base.length = nodes.length) : StM nodes rds base [] base := ⟨h, fun _ _ _ _ => rfl, (fun y hy => by cases hy), (fun y hy => by cases hy)⟩
theorem StM.step {nodes : List Nd} {rds : List (List Int)} {base P out L : List Int} (hw : Wf nodes) (hL : Lvl nodes L) (h : StM nodes rds base P out) {x : Int} (h0 : 0 ≤ x) (hx : x < (nodes.length : Int))
    (hP : ∀ y ∈ P, 0 ≤ y ∧ y < (nodes.length : Int) ∧ y ≠ x ∧ lat L y ≤ lat L x) : StM nodes rds base (P ++ [x]) (stm nodes rds out x) := by
  have hset : ∀ v y : Int, 0 ≤ y → y ≠ x → lat (out.set x.toNat v) y = lat out y := fun v y hy hyx => by
    rw [lat_set _ hy, if_neg (fun e => hyx (by omega))]
  have hx2 : ∀ v : Int, lat (out.set x.toNat v) x = v := fun v => by
    rw [lat_set _ h0, if_pos ⟨by omega, by rw [h.len]; omega⟩]
  have hold : ∀ v y : Int, y ∈ P → cmb (nodes.getD y.toNat default).kind = true → lat (out.set x.toNat v) y = gateV nodes (out.set x.toNat v) y := fun v y hy hyc => by
    obtain ⟨p0, p1, p2, p3⟩ := hP y hy
    rw [hset v y p0 p2, h.on y hy hyc]
    refine gateV_congr fun z hz => ?_
    have hz' : z ∈ dep nodes y := by rw [dep_ins hyc]; exact hz
    have q := hw.dep (i := y) (by omega) hz'
    exact (hset v z q.1 fun e => by have := hL.lt p0 (by omega) hz'; rw [e] at this; omega).symm
  unfold stm
  by_cases hm : (nodes.getD x.toNat default).kind = 15
  · rw [if_pos hm]
    have hc := cmb_15 hm
    refine ⟨by rw [List.length_set]; exact h.len, fun i hi hn h15 => ?_, fun y hy hym => ?_, fun y hy hyc => ?_⟩
    · rw [hset _ i (by omega) (fun e => by rw [← e] at hm; rw [Int.toNat_natCast] at hm; exact h15 hm)]
      exact h.off i hi hn h15
    · rcases List.mem_append.1 hy with hy | hy
      · obtain ⟨p0, p1, p2, p3⟩ := hP y hy
        rw [hset _ y p0 p2]; exact h.mem y hy hym
      · obtain rfl : y = x := by simpa using hy
        rw [hx2]
    · rcases List.mem_append.1 hy with hy | hy
      · exact hold _ y hy hyc
      · obtain rfl : y = x := by simpa using hy
        rw [hc] at hyc; cases hyc
  · rw [if_neg hm]
    by_cases hc : cmb (nodes.getD x.toNat default).kind = true
    · rw [if_pos hc, gateR_eq]
      have hself : ∀ z ∈ (nodes.getD x.toNat default).ins, lat (out.set x.toNat (gateV nodes out x)) z = lat out z := fun z hz => by
        have hz' : z ∈ dep nodes x := by rw [dep_ins hc]; exact hz
        have := hw.dep (i := x) (by omega) hz'
        exact hset _ z this.1 fun e => by have := hL.lt h0 (by omega) hz'; rw [e] at this; omega
      refine ⟨by rw [List.length_set]; exact h.len, fun i hi hn h15 => ?_, fun y hy hym => ?_, fun y hy hyc => ?_⟩
      · rw [hset _ i (by omega) (fun e => by rw [← e] at hc; rw [Int.toNat_natCast] at hc; rw [hc] at hn; cases hn)]
        exact h.off i hi hn h15
      · rcases List.mem_append.1 hy with hy | hy
        · obtain ⟨p0, p1, p2, p3⟩ := hP y hy
          rw [hset _ y p0 p2]; exact h.mem y hy hym
        · obtain rfl : y = x := by simpa using hy
          exact absurd hym hm
      · rcases List.mem_append.1 hy with hy | hy
        · exact hold _ y hy hyc
        · obtain rfl : y = x := by simpa using hy
          rw [hx2]
          exact (gateV_congr hself).symm
    · rw [if_neg hc]
      refine ⟨h.len, h.off, fun y hy hym => ?_, fun y hy hyc => ?_⟩
      · rcases List.mem_append.1 hy with hy | hy
        · exact h.mem y hy hym
        · obtain rfl : y = x := by simpa using hy
          exact absurd hym hm
      · rcases List.mem_append.1 hy with hy | hy
        · exact h.on y hy hyc
        · obtain rfl : y = x := by simpa using hy
          exact absurd hyc hc
theorem StM.stop {nodes : List Nd} {rds : List (List Int)} {base P out : List Int} (h : StM nodes rds base P out) (hP : ∀ i : Nat, i < nodes.length → (i : Int) ∈ P) : Net nodes (baseM nodes rds base) out :=
  ⟨h.len, fun i hi => by
    by_cases hc : cmb (nodes.getD i default).kind = true
    · rw [if_pos hc]
      exact h.on i (hP i hi) (by rw [Int.toNat_natCast]; exact hc)
    · rw [if_neg hc, lat_baseM hi]
      by_cases hm : (nodes.getD i default).kind = 15
      · rw [if_pos hm]; exact h.mem i (hP i hi) (by rw [Int.toNat_natCast]; exact hm)
      · rw [if_neg hm]; exact h.off i hi (by simpa using hc) hm⟩
theorem ordTo_sort {c : Ck} {L : List Int} {n : Nat} (V : Vld c L n) : SortTo L n n (ordTo L n n) := by
  refine ⟨ordTo L n n, by simp [rng], ordTo_full V.bnd, Nat.le_refl _, ordTo_sorted L n n, fun x hx => ?_⟩
  obtain ⟨i, rfl, hi, -⟩ := ordTo_mem.1 hx
  omega
theorem cyN_net {c : Ck} {L : List Int} {n : Nat} (V : Vld c L n) (s : Stt) (inp : List Int) : Net c.nodes (baseM c.nodes s.read (cyB c n s inp)) (cyN c L n s inp) := by
  have hR := ordTo_sort V
  have hlen : (ordTo L n n).length = n := ordTo_full V.bnd
  have hn : c.nodes.length = n := V.len.symm
  have hB : (cyB c n s inp).length = c.nodes.length := by unfold cyB; rw [asg_len, asg_len, List.length_replicate, hn]
  have key : ∀ k, k ≤ n → StM c.nodes s.read (cyB c n s inp) ((ordTo L n n).take k) (stmK c.nodes s.read (cyB c n s inp) (ordTo L n n) k) := by
    intro k
    induction k with
    | zero => intro _; exact StM.start _ _ _ hB
    | succ k ih =>
      intro hk
      have h1 := ih (by omega)
      obtain ⟨p0, p1, p2⟩ := order_before hR (k := k) (by omega)
      have e : lat (ordTo L n n) k = (ordTo L n n).getD k 0 := by unfold lat; rw [Int.toNat_natCast]
      have e2 : (ordTo L n n).take (k + 1) = (ordTo L n n).take k ++ [lat (ordTo L n n) k] := by
        rw [e, List.take_succ_eq_append_getElem (by omega), List.getD_eq_getElem?_getD, List.getElem?_eq_getElem (by omega)]; rfl
      rw [stmK_succ _ _ _ _ _ (by omega), e2, ← e]
      exact h1.step V.wf V.lvl p0 (by rw [hn]; exact p1) fun y hy => by rw [hn]; exact p2 y hy
  refine (key n (Nat.le_refl _)).stop fun i hi => ?_
  rw [List.take_of_length_le (by omega)]
  have := V.bnd i (by omega)
  exact ordTo_mem.2 ⟨i, rfl, by omega, this.1, this.2⟩
end Go.Proofs.YtkaedfgmhfefjaaGreatDoor

namespace Go.Proofs.YtkaedfgmhfefjaaGreatDoor
theorem asg_cons (out : List Int) (x : Int) (l : List Int) (v : Int) (vs : List Int) : asg out (x :: l) (v :: vs) = asg (out.set x.toNat v) l vs := rfl
theorem asg_off : ∀ (l vs out : List Int) (i : Nat), (∀ y ∈ l, 0 ≤ y ∧ y ≠ (i : Int)) → lat (asg out l vs) i = lat out i := by
  intro l
  induction l with
  | nil => intro vs out i _; rfl
  | cons x l ih =>
    intro vs out i h
    cases vs with
    | nil => rfl
    | cons v vs =>
      rw [asg_cons, ih _ _ _ fun y hy => h y (List.mem_cons_of_mem _ hy), lat_set _ (by omega), if_neg (fun e => (h x List.mem_cons_self).2 (by have := (h x List.mem_cons_self).1; omega))]
theorem asg_on : ∀ (l vs out : List Int), l.Pairwise (· < ·) → (∀ y ∈ l, 0 ≤ y ∧ y < (out.length : Int)) → l.length = vs.length → ∀ k, k < l.length → lat (asg out l vs) (l.getD k 0) = vs.getD k 0 := by
  intro l
  induction l with
  | nil => intro vs out _ _ _ k hk; exact absurd hk (by simp)
  | cons x l ih =>
    intro vs out hp hr hl k hk
    cases vs with
    | nil => cases hl
    | cons v vs =>
      have hx := hr x List.mem_cons_self
      rw [asg_cons]
      cases k with
      | zero =>
        obtain ⟨j, rfl⟩ := Int.eq_ofNat_of_zero_le hx.1
        show lat _ (j : Int) = v
        rw [asg_off l vs _ j fun y hy => ⟨(hr y (List.mem_cons_of_mem _ hy)).1, fun e => by have := (List.pairwise_cons.1 hp).1 y hy; omega⟩, lat_set _ (by omega), if_pos ⟨by omega, by omega⟩]
      | succ k =>
        show lat _ (l.getD k 0) = vs.getD k 0
        exact ih vs _ (List.pairwise_cons.1 hp).2 (fun y hy => by rw [List.length_set]; exact hr y (List.mem_cons_of_mem _ hy)) (by simpa using hl) k (by simpa using hk)
theorem ofTo_pair (nodes : List Nd) (kl : List Int) (n : Nat) : (ofTo nodes kl n).Pairwise (· < ·) := by
  unfold ofTo
  rw [List.pairwise_map]
  exact (List.pairwise_lt_range.filter _).imp fun h => by omega
theorem ofTo_at {nodes : List Nd} {kl : List Int} : ∀ (n : Nat) {i : Nat}, i < n → isK kl (nodes.getD i default).kind = true → (ofTo nodes kl i).length < (ofTo nodes kl n).length ∧ (ofTo nodes kl n).getD (ofTo nodes kl i).length 0 = (i : Int) := by
  intro n
  induction n with
  | zero => intro i hi; exact absurd hi (by omega)
  | succ n ih =>
    intro i hi hk
    rw [ofTo_succ]
    by_cases e : i = n
    · subst e
      rw [if_pos hk]
      refine ⟨by simp, ?_⟩
      simp [List.getD_eq_getElem?_getD]
    · obtain ⟨h1, h2⟩ := ih (i := i) (by omega) hk
      refine ⟨by rw [List.length_append]; omega, ?_⟩
      rw [List.getD_eq_getElem?_getD, List.getElem?_append_left h1, ← List.getD_eq_getElem?_getD]
      exact h2
theorem base_in {nodes : List Nd} {n : Nat} {pin pst : List Int} (hi : (ofTo nodes [0] n).length = pin.length) {i : Nat} (hn : i < n) (hk : (nodes.getD i default).kind = 0) :
    lat (baseV n (ofTo nodes [0] n) (ofTo nodes [14] n) pin pst) i = pin.getD (ofTo nodes [0] i).length 0 := by
  have hat := ofTo_at n hn (kl := [0]) (nodes := nodes) (by rw [isK_one, hk]; rfl)
  unfold baseV
  rw [asg_off _ _ _ i fun y hy => ?_, ← hat.2]
  · exact asg_on _ _ _ (ofTo_pair _ _ _) (fun y hy => by have := ofTo_in hy; simp; omega) hi _ hat.1
  · obtain ⟨j, rfl, hj, hj2⟩ := ofTo_mem hy
    refine ⟨by omega, fun e => ?_⟩
    have : j = i := by omega
    subst this
    rw [isK_one, hk] at hj2
    simp at hj2
theorem base_st {nodes : List Nd} {n : Nat} {pin pst : List Int} (hs : (ofTo nodes [14] n).length = pst.length) {i : Nat} (hn : i < n) (hk : (nodes.getD i default).kind = 14) :
    lat (baseV n (ofTo nodes [0] n) (ofTo nodes [14] n) pin pst) i = pst.getD (ofTo nodes [14] i).length 0 := by
  have hat := ofTo_at n hn (kl := [14]) (nodes := nodes) (by rw [isK_one, hk]; rfl)
  unfold baseV
  rw [← hat.2]
  exact asg_on _ _ _ (ofTo_pair _ _ _) (fun y hy => by have := ofTo_in hy; simp [asg_len]; omega) hs _ hat.1
end Go.Proofs.YtkaedfgmhfefjaaGreatDoor

namespace Go.Proofs.YtkaedfgmhfefjaaGreatDoor
def k01 (v : Int) : Prop := v = 0 ∨ v = 1
instance (v : Int) : Decidable (k01 v) := inferInstanceAs (Decidable (v = 0 ∨ v = 1))
theorem knw_iff {v : Int} : knw v = true ↔ k01 v := by unfold knw k01; simp
theorem rd_k' {v : Int} (h : k01 v) : k01 (rd v) := by rcases h with rfl | rfl <;> decide
theorem nt_k {v : Int} (h : k01 v) : k01 (nt v) := by rcases h with rfl | rfl <;> decide
theorem getD_k {l : List Int} (h : ∀ y ∈ l, k01 y) (j : Nat) : k01 (l.getD j 0) := by
  rw [List.getD_eq_getElem?_getD]
  by_cases hj : j < l.length
  · rw [List.getElem?_eq_getElem hj]; exact h _ (List.getElem_mem hj)
  · rw [List.getElem?_eq_none (by omega)]; exact .inl rfl
theorem any2_k {l : List Int} (h : ∀ y ∈ l, k01 y) : anyIs rd 2 l = false := by
  refine List.any_eq_false.2 fun v hv => ?_
  rcases h v hv with rfl | rfl <;> decide
theorem eval_k {k : Int} {l : List Int} (hc : cmb k = true) (h12 : k ≠ 12) (h13 : k ≠ 13) (hlo : lo k ≤ (l.length : Int)) (hhi : (l.length : Int) ≤ hi k) (hl : ∀ y ∈ l, k01 y) : k01 (evalL k l) := by
  unfold evalL
  rw [if_neg (by omega)]
  have h2 := any2_k hl
  have ha : k01 (andL l) := by unfold andL; rw [h2]; split <;> first | exact .inl rfl | exact .inr rfl
  have ho : k01 (orL l) := by unfold orL; rw [h2]; split <;> first | exact .inl rfl | exact .inr rfl
  have hx : k01 (xorL l) := by unfold xorL; rw [h2]; exact par_cases l
  have hm : k01 (mx (l.getD 0 0) (l.getD 1 0) (l.getD 2 0)) := by
    have a := rd_k' (getD_k hl 1)
    have b := rd_k' (getD_k hl 2)
    unfold mx
    rcases (rd_k' (getD_k hl 0)) with e | e
    · rw [if_pos e]; exact a
    · rw [if_neg (by omega), if_pos e]; exact b
  have hr := rd_k' (getD_k hl 0)
  have hn := nt_k (getD_k hl 0)
  have hc' : 1 ≤ k ∧ k ≤ 11 := by unfold cmb at hc; simp at hc; omega
  unfold funL
  by_cases e1 : k = 1
  · rw [if_pos e1]; exact .inl rfl
  rw [if_neg e1]
  by_cases e2 : k = 2
  · rw [if_pos e2]; exact .inr rfl
  rw [if_neg e2]
  by_cases e3 : k = 3
  · rw [if_pos e3]; exact hr
  rw [if_neg e3]
  by_cases e4 : k = 4
  · rw [if_pos e4]; exact hn
  rw [if_neg e4]
  by_cases e5 : k = 5
  · rw [if_pos e5]; exact ha
  rw [if_neg e5]
  by_cases e6 : k = 6
  · rw [if_pos e6]; exact nt_k ha
  rw [if_neg e6]
  by_cases e7 : k = 7
  · rw [if_pos e7]; exact ho
  rw [if_neg e7]
  by_cases e8 : k = 8
  · rw [if_pos e8]; exact nt_k ho
  rw [if_neg e8]
  by_cases e9 : k = 9
  · rw [if_pos e9]; exact hx
  rw [if_neg e9]
  by_cases e10 : k = 10
  · rw [if_pos e10]; exact nt_k hx
  rw [if_neg e10, if_pos (by omega)]
  exact hm
theorem Net.known {nodes : List Nd} {base out L : List Int} (hw : Wf nodes) (hL : Lvl nodes L) (h : Net nodes base out)
    (hb : ∀ i : Nat, i < nodes.length → cmb (nodes.getD i default).kind = false → k01 (lat base i))
    (hk : ∀ i : Nat, i < nodes.length → cmb (nodes.getD i default).kind = true → (nodes.getD i default).kind ≠ 12 ∧ (nodes.getD i default).kind ≠ 13 ∧ lo (nodes.getD i default).kind ≤ ((nodes.getD i default).ins.length : Int) ∧ ((nodes.getD i default).ins.length : Int) ≤ hi (nodes.getD i default).kind) :
    ∀ i : Nat, i < nodes.length → k01 (lat out i) := by
  have key : ∀ (m : Nat) (i : Nat), i < nodes.length → lat L i < (m : Int) → k01 (lat out i) := by
    intro m
    induction m with
    | zero => intro i hi hlt; have := hL.nonneg hi; omega
    | succ m ih =>
      intro i hi hlt
      rw [h.2 i hi]
      by_cases hc : cmb (nodes.getD i default).kind = true
      · rw [if_pos hc]
        obtain ⟨h1, h2, h3, h4⟩ := hk i hi hc
        unfold gateV
        rw [Int.toNat_natCast]
        refine eval_k hc h1 h2 (by simpa using h3) (by simpa using h4) fun y hy => ?_
        obtain ⟨z, hz0, rfl⟩ := List.mem_map.1 hy
        have hz : z ∈ dep nodes i := by rw [dep_ins (by rw [Int.toNat_natCast]; exact hc), Int.toNat_natCast]; exact hz0
        have q := hw.dep (i := (i : Int)) (by omega) hz
        have hl := hL.lt (i := (i : Int)) (by omega) (by omega) hz
        obtain ⟨k, rfl⟩ := Int.eq_ofNat_of_zero_le q.1
        have := ih k (by omega) (by omega)
        rcases this with e | e <;> (show k01 (cln (lat out (k : Int)))) <;> rw [e] <;> first | exact .inl rfl | exact .inr rfl
      · rw [if_neg hc]
        exact hb i hi (by simpa using hc)
  exact fun i hi => key ((lat L i).toNat + 1) i hi (by have := hL.nonneg hi; omega)
theorem takL_k {l : List Int} (h0 : ∀ x ∈ l, 0 ≤ x ∧ x ≤ 255) (hl : l.length ≠ 0) (n : Nat) : ∀ x ∈ takL l 2 n, k01 x := fun x hx => by
  obtain ⟨i, -, rfl⟩ := List.mem_map.1 hx
  show k01 (takV l 2 i)
  unfold takV
  rw [if_neg hl]
  have hmem := h0 (l.getD (i % l.length) 0) (by rw [List.getD_eq_getElem?_getD, List.getElem?_eq_getElem (Nat.mod_lt _ (by omega))]; exact List.getElem_mem _)
  rw [Int.tmod_eq_emod_of_nonneg hmem.1]
  unfold k01
  omega
section
open Go.RowKit
variable {V V' wr : World} {q ni ns cI cS : Nat} {AI AS : Option Addr} {lI lS : List Int}
end
end Go.Proofs.YtkaedfgmhfefjaaGreatDoor

namespace Go.Proofs.YtkaedfgmhfefjaaGreatDoor
open Go.RowKit
theorem mat_known {ad : List Int} (h : ∀ y ∈ ad, k01 y) {i i' : Nat} (hi : mat ad i = true) (hi' : mat ad i' = true) : i = i' := by
  rw [mat_iff] at hi hi'
  refine Nat.eq_of_testBit_eq fun k => ?_
  by_cases hk : k < ad.length
  · have hkn : knw (ad.getD k 0) = true := knw_iff.2 (getD_k h k)
    have e := hi.1 k hk hkn
    have e' := hi'.1 k hk hkn
    rw [e] at e'
    unfold ibit at e'
    cases h1 : i.testBit k <;> cases h2 : i'.testBit k <;> rw [h1, h2] at e' <;> simp at e' ⊢
  · have hb : ∀ z : Nat, z >>> ad.length = 0 → z.testBit k = false := fun z hz => by
      have : (z >>> ad.length).testBit (k - ad.length) = z.testBit k := by rw [Nat.testBit_shiftRight]; congr 1; omega
      rw [← this, hz]; simp
    rw [hb i hi.2, hb i' hi'.2]
theorem bits_k {l : List Int} {n : Nat} (hl : n ≤ l.length) (h : ∀ y ∈ l, k01 y) : ∀ y ∈ bitsL l n, k01 y := fun y hy => by
  unfold bitsL cpyL at hy
  obtain ⟨z, hz, rfl⟩ := List.mem_map.1 hy
  rcases List.mem_append.1 hz with hz | hz
  · exact rd_k' (h z (List.mem_of_mem_take hz))
  · rw [List.mem_replicate] at hz; omega
theorem look_k {ws : List (List Int)} {ad : List Int} {n m : Nat} (had : ∀ y ∈ ad, k01 y) (hw : ∀ i, i < m → n ≤ (ws.getD i []).length ∧ ∀ y ∈ ws.getD i [], k01 y) (hm : 2 ^ ad.length ≤ m) : ∀ y ∈ (lkS ws ad n m).2, k01 y := fun y hy => by
  obtain ⟨j, hj, rfl⟩ := List.mem_iff_getElem.1 hy
  have hj' : j < n := by have h := hj; rw [lkS_len] at h; exact h
  obtain ⟨i, hi, hmi⟩ := mat_ex ad
  have hb := bits_k (hw i (by omega)).1 (hw i (by omega)).2
  have hx : k01 ((bitsL (ws.getD i []) n).getD j 0) := getD_k hb j
  have h := (lk_all ws ad n j hj' _ hx m).2 ⟨⟨i, by omega, hmi⟩, fun i' hi' hm' => by rw [mat_known had hm' hmi]⟩
  have e : (lkS ws ad n m).2[j] = (lkS ws ad n m).2.getD j 0 := by rw [List.getD_eq_getElem?_getD, List.getElem?_eq_getElem hj]; rfl
  rw [e, h.2]
  exact hx
theorem store_k {ws : List (List Int)} {ad dt : List Int} {en : Int} {j : Nat} (had : ∀ y ∈ ad, k01 y) (hl : (ws.getD j []).length ≤ dt.length) (hdt : ∀ y ∈ dt, k01 y) (hen : k01 en) (hw : ∀ y ∈ ws.getD j [], k01 y) : ∀ y ∈ stW ws ad dt en j, k01 y := by
  unfold stW
  split
  · exact bits_k (Nat.le_refl _) hw
  · rename_i h
    have h1 : en = 1 := by
      rcases hen with e | e
      · exact absurd (Or.inl e) h
      · exact e
    have h2 : certB en ad = true := by
      unfold certB
      rw [h1, anyP_no (fun k hk => by
        have := knw_iff.2 (getD_k had k)
        unfold unk; rw [this]; rfl)]
      rfl
    rw [if_pos h2]
    exact bits_k hl hdt
structure KnS (s : Stt) : Prop where
  d : ∀ y ∈ s.dff, k01 y
  w : ∀ ws ∈ s.words, ∀ l ∈ ws, ∀ y ∈ l, k01 y
  r : ∀ l ∈ s.read, ∀ y ∈ l, k01 y
theorem nvs_k {nets : List Int} (h : ∀ y ∈ nets, k01 y) (is : List Int) : ∀ y ∈ nvs nets is, k01 y := fun y hy => by
  unfold nvs at hy
  obtain ⟨x, -, rfl⟩ := List.mem_map.1 hy
  exact getD_k h _
theorem getD_mem_or {α : Type} (l : List α) (k : Nat) (d : α) : l.getD k d ∈ l ∨ l.getD k d = d := by
  by_cases h : k < l.length
  · rw [List.getD_eq_getElem?_getD, List.getElem?_eq_getElem h]; exact .inl (List.getElem_mem h)
  · exact .inr (getD_none l k d (by omega))
theorem KnS.word {s : Stt} (K : KnS s) (k i : Nat) : ∀ y ∈ (s.words.getD k []).getD i [], k01 y := by
  rcases getD_mem_or s.words k [] with h | h
  · rcases getD_mem_or (s.words.getD k []) i [] with h' | h'
    · exact K.w _ h _ h'
    · rw [h']; exact fun y hy => by cases hy
  · rw [h]; exact fun y hy => by cases hy
theorem KnS.reads {s : Stt} (K : KnS s) (k : Nat) : ∀ y ∈ s.read.getD k [], k01 y := by
  rcases getD_mem_or s.read k [] with h | h
  · exact K.r _ h
  · rw [h]; exact fun y hy => by cases hy
theorem valA_k {nets : List Int} (h : ∀ y ∈ nets, k01 y) {x : Int} (h0 : 0 ≤ x) (h1 : x < (nets.length : Int)) : k01 (valA nets x) := by
  unfold valA
  rw [if_neg (by omega)]
  have hk : k01 (lat nets x) := getD_k h x.toNat
  generalize lat nets x = y at hk ⊢
  rcases hk with rfl | rfl <;> first | exact .inl rfl | exact .inr rfl
theorem nextV_k {c : Ck} {L : List Int} {n n1 m n3 ni ns : Nat} (S : Cmt c L n n1 m n3 ni ns) {nets : List Int} (hl : nets.length = n) (h : ∀ y ∈ nets, k01 y) : ∀ y ∈ nextV c nets, k01 y := fun y hy => by
  unfold nextV at hy
  obtain ⟨x, hx, rfl⟩ := List.mem_map.1 hy
  obtain ⟨j, rfl, hj, hj2⟩ := ofTo_mem hx
  rw [Int.toNat_natCast]
  rw [isK_one] at hj2
  have hk : (c.nodes.getD j default).kind = 14 := by simpa using hj2
  have hn := nodeErr_zero ((shape_zero (chk_shape S.vld.ok)).2.2.2.2.1 _ (getD_mem_nd hj))
  have h1 := hn.2.1
  have h2 := hn.2.2.1
  rw [hk] at h1 h2
  have e1 : lo 14 = 1 := by decide
  have e2 : hi 14 = 1 := by decide
  have hlen : (c.nodes.getD j default).ins.length = 1 := by omega
  have hx := S.vld.wf j hj _ (getD_mem' (l := (c.nodes.getD j default).ins) (k := 0) (by omega))
  have hcl := S.len
  unfold dataV
  rw [if_pos hlen]
  exact rd_k' (valA_k h hx.1 (by omega))
theorem outV_k {c : Ck} {L : List Int} {n n1 m n3 ni ns : Nat} (S : Cmt c L n n1 m n3 ni ns) {nets : List Int} (hl : nets.length = n) (h : ∀ y ∈ nets, k01 y) : ∀ y ∈ outV c nets, k01 y := fun y hy => by
  unfold outV at hy
  obtain ⟨x, hx, rfl⟩ := List.mem_map.1 hy
  have ho := areIdx_iff.1 (shape_zero (chk_shape S.vld.ok)).2.2.2.2.2.2.2 x hx
  have hcl := S.len
  exact valA_k h ho.1 (by omega)
theorem next_k {c : Ck} {L : List Int} {n n1 m n3 ni ns : Nat} (S : Cmt c L n n1 m n3 ni ns) {s : Stt} (F : FitS c ns m s) (K : KnS s) {nets : List Int} (hl : nets.length = n) (h : ∀ y ∈ nets, k01 y) : KnS (nxtS c ns m s nets) := by
  refine ⟨bits_k (by unfold nextV; rw [List.length_map, S.hs']; exact Nat.le_refl _) (nextV_k S hl h), fun ws hws l hl => ?_, fun l hl => ?_⟩
  · obtain ⟨k, hk, rfl⟩ := List.mem_map.1 hws
    obtain ⟨i, hi, rfl⟩ := List.mem_map.1 hl
    have hk' : k < m := by simpa using hk
    have hi' : i < (s.words.getD k []).length := by simpa using hi
    obtain ⟨f1, f2⟩ := F.wk k hk'
    unfold nxW
    refine store_k (nvs_k h _) ?_ (nvs_k h _) (getD_k h _) (K.word k i)
    rw [(f2 i (by omega)).1]
    unfold nvs
    rw [List.length_map]
    exact Nat.le_refl _
  · obtain ⟨k, hk, rfl⟩ := List.mem_map.1 hl
    have hk' : k < m := by simpa using hk
    obtain ⟨f1, f2⟩ := F.wk k hk'
    have h0 : 0 < blN c.mems k := Nat.pow_pos (by decide)
    unfold nxR
    refine look_k (nvs_k h _) (fun i hi => ⟨?_, K.word k i⟩) ?_
    · rw [(f2 0 h0).1, (f2 i (by omega)).1]
      exact Nat.le_refl _
    · unfold nvs
      rw [List.length_map, f1]
      exact Nat.le_refl _
theorem cyN_k {c : Ck} {L : List Int} {n n1 m n3 ni ns : Nat} (S : Cmt c L n n1 m n3 ni ns) (hk : ∀ i : Nat, i < n → 0 ≤ (c.nodes.getD i default).kind) {s : Stt} (K : KnS s) (hd : s.dff.length = ns) {inp : List Int} (hl : inp.length = ni) (hi : ∀ y ∈ inp, k01 y) (h12 : ∀ i : Nat, i < n → (c.nodes.getD i default).kind ≠ 12) :
    ∀ y ∈ cyN c L n s inp, k01 y := by
  have hlen := S.len
  have key := Net.known S.vld.wf S.vld.lvl (cyN_net S.vld s inp) (fun i hin hc => ?_) (fun i hin hc => ?_)
  · intro y hy
    obtain ⟨j, hj, rfl⟩ := List.mem_iff_getElem.1 hy
    have hj' : j < n := by have h := hj; rw [cyN_len] at h; exact h
    have h := key j (by omega)
    unfold lat at h
    rw [Int.toNat_natCast, List.getD_eq_getElem?_getD, List.getElem?_eq_getElem hj] at h
    exact h
  · rw [lat_baseM hin]
    split
    · unfold memV; exact getD_k (K.reads _) _
    · rename_i h15
      have e1 : cyB c n s inp = baseV n (ofTo c.nodes [0] n) (ofTo c.nodes [14] n) inp s.dff := by unfold cyB baseV; rw [hlen]
      rw [e1]
      have h0 := hk i (by omega)
      have h16 := (nodeErr_zero ((shape_zero (chk_shape S.vld.ok)).2.2.2.2.1 _ (getD_mem_nd hin))).1
      have hcc : (c.nodes.getD i default).kind = 0 ∨ (c.nodes.getD i default).kind = 14 := by
        unfold cmb at hc
        simp only [Bool.and_eq_false_iff, decide_eq_false_iff_not] at hc
        omega
      rcases hcc with e | e
      · rw [base_in (by rw [S.hi, hl]) (by omega) e]; exact getD_k hi _
      · rw [base_st (by rw [S.hs, hd]) (by omega) e]; exact getD_k K.d _
  · have hn := nodeErr_zero ((shape_zero (chk_shape S.vld.ok)).2.2.2.2.1 _ (getD_mem_nd hin))
    refine ⟨h12 i (by omega), fun e => ?_, hn.2.1, hn.2.2.1⟩
    have h1 := hn.2.1
    rw [e] at h1
    have hl : 0 < (c.nodes.getD i default).ins.length := by
      have h13 : lo 13 = 1 := by decide
      omega
    have hx := S.vld.wf i hin _ (getD_mem' hl)
    have h2 := hn.2.2.2.2.1
    have h3 : anyP (notTri c) (c.nodes.getD i default).ins = false := by
      cases hh : anyP (notTri c) (c.nodes.getD i default).ins
      · rfl
      · exact absurd ⟨e, hh⟩ h2
    have h4 := List.any_eq_false.1 h3 _ (getD_mem' hl)
    obtain ⟨k, hk2⟩ := Int.eq_ofNat_of_zero_le hx.1
    have h5 := h12 k (by omega)
    unfold notTri at h4
    rw [hk2] at h4
    simp at h4
    exact h5 h4
end Go.Proofs.YtkaedfgmhfefjaaGreatDoor

namespace Go.Proofs.YtkaedfgmhfefjaaGreatDoor
open Go.RowKit
theorem own_ne9 {w : World} {b b' : Nat} {e e' : TypeId} {s s' n n' : Nat} {v u : Value} {xs ys : List Value} (he : e ≠ e') (h : w.ownsRow b e s v n xs) (h' : w.ownsRow b' e' s' u n' ys) : u.ownBlock = none ∨ u.ownBlock ≠ v.ownBlock := by
  rcases h'.2 with ⟨rfl, -⟩ | ⟨g', c', cur', rfl, -, hg', -⟩
  · exact .inl rfl
  · refine .inr fun e1 => ?_
    rcases h.2 with ⟨rfl, -⟩ | ⟨g, c, cur, rfl, -, hg, -⟩
    · simp [Value.ownBlock] at e1
    · simp only [Value.ownBlock, Option.some.injEq] at e1
      rw [e1] at hg'
      have h2 := Option.some.inj (hg.symm.trans hg')
      injection h2 with _ h3 _
      exact he h3
theorem own_bel {w w' : World} {b n s : Nat} {e : TypeId} {v : Value} {xs : List Value} (h : w.ownsRow b e s v n xs) (hb : BelW w w') : w'.ownsRow b e s v n xs := by
  refine World.ownsRow.kept h (row := none) ⟨hb.os, hb.tape, hb.output, hb.size, fun i hi _ => hb.block i hi⟩ ?_
  rcases ho : v.ownBlock with _ | q
  · exact .inl rfl
  · exact .inr (by simp)
theorem own_set {w : World} {b g n s : Nat} {e t : TypeId} {v : Value} {xs cs : List Value} (h : w.ownsRow b e s v n xs) (hf : Fr w g t cs) (he : t ≠ e) (j : Nat) (x : Value) : (w.setCell ⟨g, j, none⟩ x).ownsRow b e s v n xs := by
  refine World.ownsRow.kept h (grown_v (g := g) (World.grownBy.refl w _) j x) ?_
  rcases h.2 with ⟨rfl, -⟩ | ⟨g', c', cur', rfl, -, hg', -⟩
  · exact .inl rfl
  · refine .inr fun e1 => ?_
    simp only [Value.ownBlock, Option.some.injEq] at e1
    subst e1
    unfold Fr at hf
    have h2 := Option.some.inj (hf.symm.trans hg')
    injection h2 with _ h3 _
    exact he h3
theorem VStk.keptT {w w' : World} {B : Nat} {v : Value} {l : List Int} (h : VStk w B v l) {b s n : Nat} {e : TypeId} {u : Value} {xs : List Value} (hu : w.ownsRow b e s u n xs) (q1 : e ≠ 77) (hg : w.grownBy w' u.ownBlock) : VStk w' B v l := World.ownsRow.kept h hg (own_ne9 q1 hu h)
theorem VStk.setF {w : World} {B : Nat} {v : Value} {l : List Int} (h : VStk w B v l) {g : Nat} {t : TypeId} {cs : List Value} (hf : Fr w g t cs) (q1 : t ≠ 77) (j : Nat) (x : Value) : VStk (w.setCell ⟨g, j, none⟩ x) B v l := own_set h hf q1 j x
def WS (w : World) (B : Nat) (v : Value) (l : List (List Int)) : Prop :=
  ∃ vs : List Value, vs.length = l.length ∧ w.ownsRow B 41 1 v l.length vs ∧ ∀ j, j < l.length → ∃ A c, vs[j]? = some (.slice A (l.getD j []).length c) ∧ VStk w B (.slice A (l.getD j []).length c) (l.getD j [])
section
variable {w w' : World} {B : Nat} {v v' : Value} {l : List (List Int)}
theorem WS.nil (w : World) (B : Nat) : WS w B (.slice none 0 0) [] := ⟨[], rfl, World.ownsRow_nil _ _ _ _, fun j hj => absurd hj (by simp)⟩
theorem WS.below (h : WS w B v l) (hb : BelW w w') : WS w' B v l := by
  obtain ⟨vs, h1, h2, h3⟩ := h
  exact ⟨vs, h1, own_bel h2 hb, fun j hj => by obtain ⟨A, c, e, hp⟩ := h3 j hj; exact ⟨A, c, e, hp.below hb⟩⟩
theorem WS.keptT (h : WS w B v l) {b s n : Nat} {e : TypeId} {u : Value} {xs : List Value} (hu : w.ownsRow b e s u n xs) (q1 : e ≠ 41) (q2 : e ≠ 77) (hg : w.grownBy w' u.ownBlock) : WS w' B v l := by
  obtain ⟨vs, h1, h2, h3⟩ := h
  exact ⟨vs, h1, World.ownsRow.kept h2 hg (own_ne9 q1 hu h2), fun j hj => by
    obtain ⟨A, c, e, hp⟩ := h3 j hj
    exact ⟨A, c, e, hp.keptT hu q2 hg⟩⟩
theorem WS.setF (h : WS w B v l) {g : Nat} {t : TypeId} {cs : List Value} (hf : Fr w g t cs) (q1 : t ≠ 41) (q2 : t ≠ 77) (j : Nat) (x : Value) : WS (w.setCell ⟨g, j, none⟩ x) B v l := by
  obtain ⟨vs, h1, h2, h3⟩ := h
  exact ⟨vs, h1, own_set h2 hf q1 j x, fun j hj => by
    obtain ⟨A, c, e, hp⟩ := h3 j hj
    exact ⟨A, c, e, hp.setF hf q2 _ x⟩⟩
theorem WS.add {vs : List Value} {p : List Int} {A : Option Addr} {c : Nat} (h1 : vs.length = l.length) (h2 : w.ownsRow B 41 1 v l.length vs) (h3 : ∀ j, j < l.length → ∃ A c, vs[j]? = some (.slice A (l.getD j []).length c) ∧ VStk w B (.slice A (l.getD j []).length c) (l.getD j []))
    (hg : w.grownBy w' v.ownBlock) (ho : w'.ownsRow B 41 1 v' (l.length + 1) (vs ++ [.slice A p.length c])) (hp : VStk w B (.slice A p.length c) p) : WS w' B v' (l ++ [p]) := by
  have hlen : (l ++ [p]).length = l.length + 1 := by simp
  refine ⟨vs ++ [.slice A p.length c], by simp [h1], by rw [hlen]; exact ho, fun j hj => ?_⟩
  by_cases hlt : j < l.length
  · obtain ⟨A', c', e, hp'⟩ := h3 j hlt
    have e2 : (l ++ [p]).getD j [] = l.getD j [] := by rw [List.getD_eq_getElem?_getD, List.getElem?_append_left hlt, ← List.getD_eq_getElem?_getD]
    rw [e2]
    exact ⟨A', c', by rw [List.getElem?_append_left (by omega)]; exact e, hp'.keptT h2 (by decide) hg⟩
  · obtain rfl : j = l.length := by omega
    have e2 : (l ++ [p]).getD l.length [] = p := by rw [List.getD_eq_getElem?_getD, List.getElem?_append_right (Nat.le_refl _), Nat.sub_self]; rfl
    rw [e2]
    exact ⟨A, c, by rw [List.getElem?_append_right (by omega), h1, Nat.sub_self]; rfl, hp.keptT h2 (by decide) hg⟩
end
def WWS (w : World) (B : Nat) (v : Value) (l : List (List (List Int))) : Prop :=
  ∃ vs : List Value, vs.length = l.length ∧ w.ownsRow B 43 1 v l.length vs ∧ ∀ j, j < l.length → ∃ A c, vs[j]? = some (.slice A (l.getD j []).length c) ∧ WS w B (.slice A (l.getD j []).length c) (l.getD j [])
section
variable {w w' : World} {B : Nat} {v v' : Value} {l : List (List (List Int))}
theorem WWS.below (h : WWS w B v l) (hb : BelW w w') : WWS w' B v l := by
  obtain ⟨vs, h1, h2, h3⟩ := h
  exact ⟨vs, h1, own_bel h2 hb, fun j hj => by obtain ⟨A, c, e, hp⟩ := h3 j hj; exact ⟨A, c, e, hp.below hb⟩⟩
theorem WWS.setF (h : WWS w B v l) {g : Nat} {t : TypeId} {cs : List Value} (hf : Fr w g t cs) (q1 : t ≠ 43) (q2 : t ≠ 41) (q3 : t ≠ 77) (j : Nat) (x : Value) : WWS (w.setCell ⟨g, j, none⟩ x) B v l := by
  obtain ⟨vs, h1, h2, h3⟩ := h
  exact ⟨vs, h1, own_set h2 hf q1 j x, fun j hj => by
    obtain ⟨A, c, e, hp⟩ := h3 j hj
    exact ⟨A, c, e, hp.setF hf q2 q3 _ x⟩⟩
end
theorem WS.wds {w : World} {B : Nat} {v : Value} {l : List (List Int)} (h : WS w B v l) : Wrds w w.heap.size v l := by
  obtain ⟨vs, h1, h2, h3⟩ := h
  rcases id h2.2 with ⟨rfl, h0⟩ | ⟨g, cap, cur, rfl, hb, hg, hle, hm, -⟩
  · obtain rfl : l = [] := List.eq_nil_of_length_eq_zero h0
    exact Arr.nil _ _ _ _ _
  · refine ⟨some ⟨g, 0, none⟩, g, 0, cap, rfl, fun _ => rfl, hle, Nat.le_trans hle hm, fun k hk => ⟨(World.ownsRow.lt h2 g rfl).2, ?_⟩⟩
    obtain ⟨A, c, e, hp⟩ := h3 k hk
    refine ⟨A, c, ?_, hp.ks⟩
    rw [Nat.zero_add, Nat.mul_one, World.ownsRow.cellAt h2 k (by omega), e]
theorem WWS.wwss {w : World} {B : Nat} {v : Value} {l : List (List (List Int))} (h : WWS w B v l) : Wwss w w.heap.size v l := by
  obtain ⟨vs, h1, h2, h3⟩ := h
  rcases id h2.2 with ⟨rfl, h0⟩ | ⟨g, cap, cur, rfl, hb, hg, hle, hm, -⟩
  · obtain rfl : l = [] := List.eq_nil_of_length_eq_zero h0
    exact Arr.nil _ _ _ _ _
  · refine ⟨some ⟨g, 0, none⟩, g, 0, cap, rfl, fun _ => rfl, hle, Nat.le_trans hle hm, fun k hk => ⟨(World.ownsRow.lt h2 g rfl).2, ?_⟩⟩
    obtain ⟨A, c, e, hp⟩ := h3 k hk
    refine ⟨A, c, ?_, hp.wds⟩
    rw [Nat.zero_add, Nat.mul_one, World.ownsRow.cellAt h2 k (by omega), e]
end Go.Proofs.YtkaedfgmhfefjaaGreatDoor

namespace Go.Proofs.YtkaedfgmhfefjaaGreatDoor
open Go.RowKit
def Apart (x v : Value) : Prop := v.ownBlock = none ∨ v.ownBlock ≠ x.ownBlock
theorem WS.keptO {w w' : World} {B : Nat} {v : Value} {l : List (List Int)} (h : WS w B v l) {b s n : Nat} {u : Value} {xs : List Value} (hu : w.ownsRow b 41 s u n xs) (ha : Apart u v) (hg : w.grownBy w' u.ownBlock) : WS w' B v l := by
  obtain ⟨vs, h1, h2, h3⟩ := h
  exact ⟨vs, h1, World.ownsRow.kept h2 hg ha, fun j hj => by
    obtain ⟨A, c, e, hp⟩ := h3 j hj
    exact ⟨A, c, e, hp.keptT hu (by decide) hg⟩⟩
theorem WS.lt {w : World} {B : Nat} {v : Value} {l : List (List Int)} (h : WS w B v l) {q : Nat} (hq : v.ownBlock = some q) : B ≤ q ∧ q < w.heap.size := by
  obtain ⟨vs, h1, h2, -⟩ := h
  exact World.ownsRow.lt h2 q hq
theorem WS.low {w : World} {B B' : Nat} {v : Value} {l : List (List Int)} (h : WS w B v l) (hb : B' ≤ B) : WS w B' v l := by
  obtain ⟨vs, h1, h2, h3⟩ := h
  refine ⟨vs, h1, ⟨h2.1, ?_⟩, fun j hj => by
    obtain ⟨A, c, e, hp⟩ := h3 j hj
    exact ⟨A, c, e, hp.low hb⟩⟩
  rcases h2.2 with h4 | ⟨g, cap, cur, e, hb', h4⟩
  · exact .inl h4
  · exact .inr ⟨g, cap, cur, e, Nat.le_trans hb hb', h4⟩
def WWX (x : Value) (w : World) (B : Nat) (v : Value) (l : List (List (List Int))) : Prop :=
  ∃ vs : List Value, vs.length = l.length ∧ w.ownsRow B 43 1 v l.length vs ∧ ∀ j, j < l.length → ∃ A c, vs[j]? = some (.slice A (l.getD j []).length c) ∧ WS w B (.slice A (l.getD j []).length c) (l.getD j []) ∧ Apart x (.slice A (l.getD j []).length c)
section
variable {x x' : Value} {w w' : World} {B : Nat} {v v' : Value} {l : List (List (List Int))}
theorem WWX.nil (x : Value) (w : World) (B : Nat) : WWX x w B (.slice none 0 0) [] := ⟨[], rfl, World.ownsRow_nil _ _ _ _, fun j hj => absurd hj (by simp)⟩
theorem WWX.wws (h : WWX x w B v l) : WWS w B v l := by
  obtain ⟨vs, h1, h2, h3⟩ := h
  exact ⟨vs, h1, h2, fun j hj => by obtain ⟨A, c, e, hp, -⟩ := h3 j hj; exact ⟨A, c, e, hp⟩⟩
theorem WWX.below (h : WWX x w B v l) (hb : BelW w w') : WWX x w' B v l := by
  obtain ⟨vs, h1, h2, h3⟩ := h
  exact ⟨vs, h1, own_bel h2 hb, fun j hj => by obtain ⟨A, c, e, hp, ha⟩ := h3 j hj; exact ⟨A, c, e, hp.below hb, ha⟩⟩
theorem WWX.grow (h : WWX x w B v l) {b s n : Nat} {xs : List Value} (hu : w.ownsRow b 41 s x n xs) (hg : w.grownBy w' x.ownBlock) (hl : x'.ownBlock = x.ownBlock ∨ x'.ownBlock = some w.heap.size) : WWX x' w' B v l := by
  obtain ⟨vs, h1, h2, h3⟩ := h
  refine ⟨vs, h1, World.ownsRow.kept h2 hg (own_ne9 (by decide) hu h2), fun j hj => ?_⟩
  obtain ⟨A, c, e, hp, ha⟩ := h3 j hj
  refine ⟨A, c, e, hp.keptO hu ha hg, ?_⟩
  rcases hl with hl | hl
  · unfold Apart; rw [hl]; exact ha
  · rcases ho : (Value.slice A (l.getD j []).length c).ownBlock with _ | q
    · exact .inl ho
    · refine .inr fun e1 => ?_
      have h4 := (hp.lt ho).2
      rw [ho, hl] at e1
      injection e1 with e1
      omega
theorem WWX.setF (h : WWX x w B v l) {g : Nat} {t : TypeId} {cs : List Value} (hf : Fr w g t cs) (q1 : t ≠ 43) (q2 : t ≠ 41) (q3 : t ≠ 77) (j : Nat) (y : Value) : WWX x (w.setCell ⟨g, j, none⟩ y) B v l := by
  obtain ⟨vs, h1, h2, h3⟩ := h
  exact ⟨vs, h1, own_set h2 hf q1 j y, fun j hj => by
    obtain ⟨A, c, e, hp, ha⟩ := h3 j hj
    exact ⟨A, c, e, hp.setF hf q2 q3 _ y, ha⟩⟩
theorem WWX.add {vs : List Value} {p : List (List Int)} {A : Option Addr} {c : Nat} (h1 : vs.length = l.length) (h2 : w.ownsRow B 43 1 v l.length vs) (h3 : ∀ j, j < l.length → ∃ A c, vs[j]? = some (.slice A (l.getD j []).length c) ∧ WS w B (.slice A (l.getD j []).length c) (l.getD j []) ∧ Apart x (.slice A (l.getD j []).length c))
    (hg : w.grownBy w' v.ownBlock) (ho : w'.ownsRow B 43 1 v' (l.length + 1) (vs ++ [.slice A p.length c])) (hp : WS w B (.slice A p.length c) p) (hpx : Apart x (.slice A p.length c)) : WWX x w' B v' (l ++ [p]) := by
  have hlen : (l ++ [p]).length = l.length + 1 := by simp
  refine ⟨vs ++ [.slice A p.length c], by simp [h1], by rw [hlen]; exact ho, fun j hj => ?_⟩
  by_cases hlt : j < l.length
  · obtain ⟨A', c', e, hp', ha⟩ := h3 j hlt
    have e2 : (l ++ [p]).getD j [] = l.getD j [] := by rw [List.getD_eq_getElem?_getD, List.getElem?_append_left hlt, ← List.getD_eq_getElem?_getD]
    rw [e2]
    exact ⟨A', c', by rw [List.getElem?_append_left (by omega)]; exact e, hp'.keptT h2 (by decide) (by decide) hg, ha⟩
  · obtain rfl : j = l.length := by omega
    have e2 : (l ++ [p]).getD l.length [] = p := by rw [List.getD_eq_getElem?_getD, List.getElem?_append_right (Nat.le_refl _), Nat.sub_self]; rfl
    rw [e2]
    exact ⟨A, c, by rw [List.getElem?_append_right (by omega), h1, Nat.sub_self]; rfl, hp.keptT h2 (by decide) (by decide) hg, hpx⟩
end
end Go.Proofs.YtkaedfgmhfefjaaGreatDoor

namespace Go.Proofs.YtkaedfgmhfefjaaGreatDoor
open Go.RowKit
theorem WS.setS {w : World} {B : Nat} {v : Value} {l : List (List Int)} (h : WS w B v l) {a : Addr} (ha : a.block < B) (x : Value) : WS (w.setCell a x) B v l := by
  obtain ⟨vs, h1, h2, h3⟩ := h
  refine ⟨vs, h1, World.ownsRow.kept h2 (row := some a.block) ⟨rfl, rfl, rfl, by simp [World.setCell], fun i _ hne => Below.heap_setCell _ _ _ _ (fun e => hne (by rw [e]))⟩ ?_, fun j hj => by
    obtain ⟨A, c, e, hp⟩ := h3 j hj
    exact ⟨A, c, e, hp.setS ha x⟩⟩
  rcases ho : v.ownBlock with _ | q
  · exact .inl rfl
  · have := (World.ownsRow.lt h2 q ho).1
    exact .inr fun e => by injection e with e; omega
theorem WWS.setS {w : World} {B : Nat} {v : Value} {l : List (List (List Int))} (h : WWS w B v l) {a : Addr} (ha : a.block < B) (x : Value) : WWS (w.setCell a x) B v l := by
  obtain ⟨vs, h1, h2, h3⟩ := h
  refine ⟨vs, h1, World.ownsRow.kept h2 (row := some a.block) ⟨rfl, rfl, rfl, by simp [World.setCell], fun i _ hne => Below.heap_setCell _ _ _ _ (fun e => hne (by rw [e]))⟩ ?_, fun j hj => by
    obtain ⟨A, c, e, hp⟩ := h3 j hj
    exact ⟨A, c, e, hp.setS ha x⟩⟩
  rcases ho : v.ownBlock with _ | q
  · exact .inl rfl
  · have := (World.ownsRow.lt h2 q ho).1
    exact .inr fun e => by injection e with e; omega
theorem WWS.low {w : World} {B B' : Nat} {v : Value} {l : List (List (List Int))} (h : WWS w B v l) (hb : B' ≤ B) : WWS w B' v l := by
  obtain ⟨vs, h1, h2, h3⟩ := h
  refine ⟨vs, h1, ⟨h2.1, ?_⟩, fun j hj => by
    obtain ⟨A, c, e, hp⟩ := h3 j hj
    exact ⟨A, c, e, hp.low hb⟩⟩
  rcases h2.2 with h4 | ⟨g, cap, cur, e, hb', h4⟩
  · exact .inl h4
  · exact .inr ⟨g, cap, cur, e, Nat.le_trans hb hb', h4⟩
structure OwnS (w : World) (B : Nat) (A0 A1 A2 : Option Addr) (n0 n1 n2 c0 c1 c2 : Nat) (s : Stt) : Prop where
  o0 : VStk w B (.slice A0 n0 c0) s.dff
  o1 : WWS w B (.slice A1 n1 c1) s.words
  o2 : WS w B (.slice A2 n2 c2) s.read
section
variable {w w' : World} {B B' : Nat} {A0 A1 A2 : Option Addr} {n0 n1 n2 c0 c1 c2 : Nat} {s : Stt}
theorem OwnS.below (h : OwnS w B A0 A1 A2 n0 n1 n2 c0 c1 c2 s) (hb : BelW w w') : OwnS w' B A0 A1 A2 n0 n1 n2 c0 c1 c2 s := ⟨h.o0.below hb, h.o1.below hb, h.o2.below hb⟩
theorem OwnS.low (h : OwnS w B A0 A1 A2 n0 n1 n2 c0 c1 c2 s) (hb : B' ≤ B) : OwnS w B' A0 A1 A2 n0 n1 n2 c0 c1 c2 s := ⟨h.o0.low hb, h.o1.low hb, h.o2.low hb⟩
theorem OwnS.setS (h : OwnS w B A0 A1 A2 n0 n1 n2 c0 c1 c2 s) {a : Addr} (ha : a.block < B) (x : Value) : OwnS (w.setCell a x) B A0 A1 A2 n0 n1 n2 c0 c1 c2 s := ⟨h.o0.setS ha x, h.o1.setS ha x, h.o2.setS ha x⟩
theorem OwnS.str (h : OwnS w B A0 A1 A2 n0 n1 n2 c0 c1 c2 s) : StR w w.heap.size A0 A1 A2 n0 n1 n2 c0 c1 c2 s := ⟨h.o0.ks, h.o1.wwss, h.o2.wds⟩
end
theorem bel_push {V wo w1 : World} {o : Obj} {r : Option Nat} (hb : BelW V wo) (hg : (wo.alloc o).grownBy w1 r) (hq : ∀ q, r = some q → V.heap.size ≤ q) : BelW V w1 :=
  (Below.alloc hb (Below.size hb) o).grown hg (by have := Below.size hb; simp; omega) hq
theorem WS.push {V wo w1 : World} {o : Obj} {v v' : Value} {l : List (List Int)} {vs : List Value} {p : List Int} {A : Option Addr} {c : Nat} (hb : BelW V wo)
    (q1 : vs.length = l.length) (q2 : wo.ownsRow V.heap.size 41 1 v l.length vs) (q3 : ∀ j, j < l.length → ∃ A c, vs[j]? = some (.slice A (l.getD j []).length c) ∧ VStk wo V.heap.size (.slice A (l.getD j []).length c) (l.getD j []))
    (hg : (wo.alloc o).grownBy w1 v.ownBlock) (ho : w1.ownsRow V.heap.size 41 1 v' (l.length + 1) (vs ++ [.slice A p.length c])) (hp : VStk wo V.heap.size (.slice A p.length c) p) : BelW V w1 ∧ WS w1 V.heap.size v' (l ++ [p]) := by
  have hn : BelW wo (wo.alloc o) := below_new (Below.refl _ _) _
  refine ⟨bel_push hb hg fun q h => (World.ownsRow.lt q2 q h).1, ?_⟩
  exact WS.add q1 (World.ownsRow.alloc q2 o) (fun j hj => by obtain ⟨A, c, e, h⟩ := q3 j hj; exact ⟨A, c, e, h.below hn⟩) hg ho (hp.below hn)
theorem WWX.push {V wo w1 : World} {o : Obj} {x v v' : Value} {l : List (List (List Int))} {vs : List Value} {p : List (List Int)} {A : Option Addr} {c : Nat} (hb : BelW V wo)
    (q1 : vs.length = l.length) (q2 : wo.ownsRow V.heap.size 43 1 v l.length vs) (q3 : ∀ j, j < l.length → ∃ A c, vs[j]? = some (.slice A (l.getD j []).length c) ∧ WS wo V.heap.size (.slice A (l.getD j []).length c) (l.getD j []) ∧ Apart x (.slice A (l.getD j []).length c))
    (hg : (wo.alloc o).grownBy w1 v.ownBlock) (ho : w1.ownsRow V.heap.size 43 1 v' (l.length + 1) (vs ++ [.slice A p.length c])) (hp : WS wo V.heap.size (.slice A p.length c) p) (hpx : Apart x (.slice A p.length c)) : BelW V w1 ∧ WWX x w1 V.heap.size v' (l ++ [p]) := by
  have hn : BelW wo (wo.alloc o) := below_new (Below.refl _ _) _
  refine ⟨bel_push hb hg fun q h => (World.ownsRow.lt q2 q h).1, ?_⟩
  exact WWX.add q1 (World.ownsRow.alloc q2 o) (fun j hj => by obtain ⟨A, c, e, h, h'⟩ := q3 j hj; exact ⟨A, c, e, h.below hn, h'⟩) hg ho (hp.below hn) hpx
theorem Fr.grownT {wo w1 : World} {o : Obj} {g b s n : Nat} {t e : TypeId} {cs xs : List Value} {v : Value} (hf : Fr wo g t cs) (hr : wo.ownsRow b e s v n xs) (he : t ≠ e) (hg : (wo.alloc o).grownBy w1 v.ownBlock) : Fr w1 g t cs := by
  have h1 : Fr (wo.alloc o) g t cs := hf.alloc o
  unfold Fr at h1 ⊢
  rw [← h1]
  refine hg.block g (Fr.lt (t := t) (cs := cs) h1) fun e1 => ?_
  have h2 := World.ownsRow.alloc hr o
  rcases h2.2 with ⟨rfl, -⟩ | ⟨g', c', cur', rfl, -, hg', -⟩
  · simp [Value.ownBlock] at e1
  · simp only [Value.ownBlock, Option.some.injEq] at e1
    rw [← e1, h1] at hg'
    have h3 := Option.some.inj hg'
    injection h3 with _ h4 _
    exact he h4
theorem own_sl {w : World} {b n s : Nat} {e : TypeId} {v : Value} {xs : List Value} (h : w.ownsRow b e s v n xs) : ∃ A c, v = .slice A n c := by
  rcases h.2 with ⟨rfl, h0⟩ | ⟨g', c', cur', rfl, -⟩
  · exact ⟨none, 0, by rw [h0]⟩
  · exact ⟨_, _, rfl⟩
end Go.Proofs.YtkaedfgmhfefjaaGreatDoor
