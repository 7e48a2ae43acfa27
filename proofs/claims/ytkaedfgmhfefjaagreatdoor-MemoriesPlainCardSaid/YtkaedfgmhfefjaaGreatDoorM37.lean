/- The texts Bs9 Bt9 R17. -/
import Derived.Test.YtkaedfgmhfefjaaGreatDoorM36
import Derived.Test.YtkaedfgmhfefjaaGreatDoorM30
import Derived.Deep.AppendLies
import Derived.Test.YtkaedfgmhfefjaaGreatDoorM31
namespace Go.Proofs.YtkaedfgmhfefjaaGreatDoor
open Go.RowKit
def BStk (w : World) (base : Nat) (v : Value) (l : List Int) : Prop := w.ownsRow base 5 1 v l.length (l.map (Value.int .u8))
section
variable {w w' : World} {base : Nat} {v : Value} {l : List Int}
theorem BStk.nil (w : World) (base : Nat) : BStk w base (.slice none 0 0) [] := World.ownsRow_nil w base _ _
theorem BStk.below (h : BStk w base v l) (hb : BelW w w') : BStk w' base v l := own_bel h hb
theorem BStk.ks (h : BStk w base v l) : Ks w w.heap.size v l := by
  have hlt := World.ownsRow.lt h
  rcases id h.2 with ⟨rfl, hn⟩ | ⟨g, cap, cur, rfl, hb, hg, hle, hm, -⟩
  · obtain rfl : l = [] := List.eq_nil_of_length_eq_zero hn
    exact Arr.nil _ _ _ _ _
  · refine ⟨_, g, 0, cap, rfl, fun _ => rfl, hle, Nat.le_trans hle hm, fun j hj => ⟨(hlt g rfl).2, ?_⟩⟩
    show World.cell? _ _ = _
    rw [Nat.zero_add, Nat.mul_one, World.ownsRow.cellAt h j (by omega), List.getElem?_map, List.getElem?_eq_getElem hj]
    simp [List.getD_eq_getElem?_getD, List.getElem?_eq_getElem hj]
end
theorem addr_add0 (g : Nat) : (⟨g, 0, none⟩ : Addr).add 0 = ⟨g, 0, none⟩ := by unfold Addr.add; split <;> simp_all
theorem info_u8 : (Tryz.prog.info? 5).map (fun i => (i.zero, i.size, i.bytes)) = some (some (.int .u8 0), 1, 1) := by kernel_rfl
theorem Fr.grownR {w w1 : World} {g b s n : Nat} {t e : TypeId} {cs xs : List Value} {v : Value} (hf : Fr w g t cs) (hr : w.ownsRow b e s v n xs) (he : t ≠ e) (hg : w.grownBy w1 v.ownBlock) : Fr w1 g t cs := by
  unfold Fr at hf ⊢
  rw [← hf]
  refine hg.block g (Fr.lt (t := t) (cs := cs) hf) fun e1 => ?_
  rcases hr.2 with ⟨rfl, -⟩ | ⟨g', c', cur', rfl, -, hg', -⟩
  · simp [Value.ownBlock] at e1
  · simp only [Value.ownBlock, Option.some.injEq] at e1
    rw [← e1, hf] at hg'
    have h3 := Option.some.inj hg'
    injection h3 with _ h4 _
    exact he h4
theorem OwnS.setF {w : World} {B : Nat} {A0 A1 A2 : Option Addr} {n0 n1 n2 c0 c1 c2 : Nat} {s : Stt} (h : OwnS w B A0 A1 A2 n0 n1 n2 c0 c1 c2 s) {g : Nat} {t : TypeId} {cs : List Value} (hf : Fr w g t cs) (q1 : t ≠ 43) (q2 : t ≠ 41) (q3 : t ≠ 77) (j : Nat) (x : Value) : OwnS (w.setCell ⟨g, j, none⟩ x) B A0 A1 A2 n0 n1 n2 c0 c1 c2 s :=
  ⟨h.o0.setF hf q3 j x, h.o1.setF hf q1 q2 q3 j x, h.o2.setF hf q2 q3 j x⟩
section
variable {P : Program} {md : Region.Mode} {ops : Array Oper} {i : Nat} {a : Act} {w : World} {K : Act → World → Prop} {Q : Exit → Act → World → Prop}
theorem op_callSOf {d x y : Tmp} {deps : List Nat} (ho : OpAt md ops i (some d) (.call { callee := .value (.func 23), args := #[.tmp x, .tmp y], argTypes := #[29, 39] }) deps) (hP : P = Tryz.prog)
    {u v : Value} (hu : a.eval (.tmp x) = u) (hv : a.eval (.tmp y) = v) {R : Value → World → Prop} (hc : Calls Tryz.prog 23 #[u, v] w fun e w' => ∃ s', e = .returned s' ∧ R s' w')
    (h : ∀ z w', R z w' → K (a.put (some d) z) w') : wpOp P ops Q i K a w := by
  obtain ⟨o, ho, hgd, hd, hop, _⟩ := ho
  refine wpOp_step ho fun K' hK => ?_
  have hw : Region.wanted o (yielded ops a.tmps) = true := by simp [Region.wanted, hgd]
  rw [if_pos hw]
  subst hP
  unfold Oper.wp execOp
  simp only [hop]
  have kx : a.tmps[x]?.getD undef = u := by rw [← hu]; simp [Act.eval]
  have ky : a.tmps[y]?.getD undef = v := by rw [← hv]; simp [Act.eval]
  simp [go_sem, hd, kx, ky]
  with_reducible refine Calls.mono hc ?_
  rintro e w' ⟨v, rfl, hr⟩
  exact hK _ _ (h v w' hr)
theorem op_callKn {d x y : Tmp} {deps : List Nat} (ho : OpAt md ops i (some d) (.call { callee := .value (.func 28), args := #[.tmp x, .tmp y], argTypes := #[31, 39] }) deps) (hP : P = Tryz.prog)
    {u v : Value} (hu : a.eval (.tmp x) = u) (hv : a.eval (.tmp y) = v) {R : Value → World → Prop} (hc : Calls Tryz.prog 28 #[u, v] w fun e w' => ∃ s', e = .returned s' ∧ R s' w')
    (h : ∀ z w', R z w' → K (a.put (some d) z) w') : wpOp P ops Q i K a w := by
  obtain ⟨o, ho, hgd, hd, hop, _⟩ := ho
  refine wpOp_step ho fun K' hK => ?_
  have hw : Region.wanted o (yielded ops a.tmps) = true := by simp [Region.wanted, hgd]
  rw [if_pos hw]
  subst hP
  unfold Oper.wp execOp
  simp only [hop]
  have kx : a.tmps[x]?.getD undef = u := by rw [← hu]; simp [Act.eval]
  have ky : a.tmps[y]?.getD undef = v := by rw [← hv]; simp [Act.eval]
  simp [go_sem, hd, kx, ky]
  with_reducible refine Calls.mono hc ?_
  rintro e w' ⟨v, rfl, hr⟩
  exact hK _ _ (h v w' hr)
theorem op_callCyc {d x y z : Tmp} {deps : List Nat} (ho : OpAt md ops i (some d) (.call { callee := .value (.func 9), args := #[.tmp x, .tmp y, .tmp z], argTypes := #[39, 45, 41] }) deps) (hP : P = Tryz.prog)
    {u v r : Value} (hu : a.eval (.tmp x) = u) (hv : a.eval (.tmp y) = v) (hr : a.eval (.tmp z) = r) {R : Value → World → Prop} (hc : Calls Tryz.prog 9 #[u, v, r] w fun e w' => ∃ s', e = .returned s' ∧ R s' w')
    (h : ∀ z w', R z w' → K (a.put (some d) z) w') : wpOp P ops Q i K a w := by
  obtain ⟨o, ho, hgd, hd, hop, _⟩ := ho
  refine wpOp_step ho fun K' hK => ?_
  have hw : Region.wanted o (yielded ops a.tmps) = true := by simp [Region.wanted, hgd]
  rw [if_pos hw]
  subst hP
  unfold Oper.wp execOp
  simp only [hop]
  have kx : a.tmps[x]?.getD undef = u := by rw [← hu]; simp [Act.eval]
  have ky : a.tmps[y]?.getD undef = v := by rw [← hv]; simp [Act.eval]
  have kz : a.tmps[z]?.getD undef = r := by rw [← hr]; simp [Act.eval]
  simp [go_sem, hd, kx, ky, kz]
  with_reducible refine Calls.mono hc ?_
  rintro e w' ⟨v, rfl, hr⟩
  exact hK _ _ (h v w' hr)
theorem op_bslice {d : Tmp} {deps : List Nat} (ho : OpAt md ops i (some d) (.buildSlice 25 1 #[(0, .const (.int .u8 1))]) deps) (hP : P = Tryz.prog)
    (h : K (a.put (some d) (.slice (some ⟨w.heap.size, 0, none⟩) 1 1)) (w.alloc (.cells #[.int .u8 1] 5))) : wpOp P ops Q i K a w := by
  obtain ⟨o, ho, hgd, hd, hop, _⟩ := ho
  refine wpOp_step ho fun K' hK => ?_
  have hw : Region.wanted o (yielded ops a.tmps) = true := by simp [Region.wanted, hgd]
  rw [if_pos hw]
  subst hP
  have hk := hK _ _ h
  unfold Oper.wp execOp
  simp only [hop]
  simp [go_sem, hd]
  exact hk
theorem op_build1 {d x : Tmp} {deps : List Nat} (ho : OpAt md ops i (some d) (.build 29 #[(0, .tmp x)]) deps) (hP : P = Tryz.prog) {A : Option Addr} {n c : Nat} (hx : a.eval (.tmp x) = .slice A n c)
    (h : K (a.put (some d) (.agg #[.slice A n c])) w) : wpOp P ops Q i K a w := by
  obtain ⟨o, ho, hgd, hd, hop, _⟩ := ho
  refine wpOp_step ho fun K' hK => ?_
  have hw : Region.wanted o (yielded ops a.tmps) = true := by simp [Region.wanted, hgd]
  rw [if_pos hw]
  subst hP
  have hk := hK _ _ h
  unfold Oper.wp execOp
  simp only [hop]
  have hx2 : a.tmps[x]?.getD undef = .slice A n c := by rw [← hx]; simp [Act.eval]
  simp [go_sem, hd, hx2]
  exact hk
theorem op_appB {d x y : Tmp} {deps : List Nat} (ho : OpAt md ops i (some d) (.call { callee := .builtin .append, args := #[.tmp x, .tmp y], argTypes := #[25, 25] }) deps) (hP : P = Tryz.prog)
    {base n : Nat} {v : Value} {xs : List Value} {ad : Addr} {b : Int} (hx : a.eval (.tmp x) = v) (hy : a.eval (.tmp y) = .slice (some ad) 1 1) (hown : w.ownsRow base 5 1 v n xs) (hnews : ∀ j u, [Value.int .u8 b][j]? = some u → w.cell? (ad.add j) = some u) (h47 : n + 1 ≤ 140737488355328) (hbase : base ≤ w.heap.size)
    (h : ∀ g cap w', w'.ownsRow base 5 1 (.slice (some ⟨g, 0, none⟩) (n + 1) cap) (n + 1) (xs ++ [.int .u8 b]) → w.grownBy w' v.ownBlock → K (a.put (some d) (.slice (some ⟨g, 0, none⟩) (n + 1) cap)) w') : wpOp P ops Q i K a w := by
  obtain ⟨o, ho, hgd, hd, hop, _⟩ := ho
  refine wpOp_step ho fun K' hK => ?_
  subst hP
  obtain ⟨i1, hi1, hz0, hz1, hz2⟩ := info_parts info_u8
  refine step_append_lies _ hgd (.tmp x) (.tmp y) 25 hop base 5 i1 (.int .u8 0) 1 1 Tryz.underlying25 hi1 hz0 hz1 hz2 rfl (by decide) v n xs hx hown ad 1 1 [.int .u8 b] hy rfl hnews (fun u hu => by obtain rfl := List.mem_singleton.1 hu; rfl) (by decide) (by unfold maxLen; omega) (by omega) hbase _ rfl fun g cap w' h1 h2 _ _ => ?_
  rw [hd]
  exact hK _ _ (h g cap w' h1 h2)
end
end Go.Proofs.YtkaedfgmhfefjaaGreatDoor

namespace Go.Proofs.YtkaedfgmhfefjaaGreatDoor
open Go.RowKit
section
variable {P : Program} {md : Region.Mode} {ops : Array Oper} {i : Nat} {a : Act} {w : World} {K : Act → World → Prop} {Q : Exit → Act → World → Prop}
def earlyB (md : Region.Mode) (ops : Array Oper) : Bool := (List.range ops.size).all fun i => ((ops[i]?).map fun o => o.after.all fun e => !(Region.binds md e) || decide (e.on < i)).getD true
theorem earlyB_spec (h : earlyB md ops = true) {i : Nat} {o : Oper} (ho : ops[i]? = some o) {e : Edge} (he : e ∈ o.after) (hb : Region.binds md e = true) : e.on < i := by
  have hi : i < ops.size := (Array.getElem?_eq_some_iff.1 ho).1
  have h1 := List.all_eq_true.1 h i (List.mem_range.2 hi)
  rw [ho] at h1
  simp only [Option.map_some, Option.getD_some] at h1
  have h2 := Array.all_eq_true_iff_forall_mem.1 h1 e he
  rw [hb] at h2
  simpa using h2
theorem all_upB {l : Array Bool} (h : earlyB md ops = true) (hs : l.size = ops.size) (hr : Region.ready md ops l = []) (i : Nat) (hi : i < ops.size) : l.getD i false = true := by
  induction i using Nat.strongRecOn with
  | _ i ih =>
    by_cases hc : l.getD i false = true
    · exact hc
    · have hm : i ∈ Region.ready md ops l := by
        refine mem_ready.2 ⟨?_, ops[i], Array.getElem?_eq_getElem hi, fun e he hb => ?_⟩
        · have hi' : i < l.size := by omega
          simp [hi'] at hc ⊢
          exact hc
        · have := earlyB_spec h (Array.getElem?_eq_getElem hi) he hb
          exact ih e.on this (by omega)
      rw [hr] at hm
      cases hm
theorem op_move {d x : Tmp} {deps : List Nat} (ho : OpAt md ops i (some d) (.move (.tmp x)) deps) (hP : P = Tryz.prog) {u : Value} (hu : a.eval (.tmp x) = u) (h : K (a.put (some d) u) w) : wpOp P ops Q i K a w := by
  obtain ⟨o, ho, hgd, hd, hop, _⟩ := ho
  refine wpOp_step ho fun K' hK => ?_
  have hw : Region.wanted o (yielded ops a.tmps) = true := by simp [Region.wanted, hgd]
  rw [if_pos hw]
  subst hP
  have hk := hK _ _ h
  unfold Oper.wp execOp
  simp only [hop]
  have kx : a.tmps[x]?.getD undef = u := by rw [← hu]; simp [Act.eval]
  simp [go_sem, hd, kx]
  exact hk
theorem op_assign {d x : Tmp} {deps : List Nat} (ho : OpAt md ops i (some d) (.assign (.tmp x)) deps) (hP : P = Tryz.prog) {u : Value} (hu : a.eval (.tmp x) = u) (h : K (a.put (some d) u) w) : wpOp P ops Q i K a w := by
  obtain ⟨o, ho, hgd, hd, hop, _⟩ := ho
  refine wpOp_step ho fun K' hK => ?_
  have hw : Region.wanted o (yielded ops a.tmps) = true := by simp [Region.wanted, hgd]
  rw [if_pos hw]
  subst hP
  have hk := hK _ _ h
  unfold Oper.wp execOp
  simp only [hop]
  have kx : a.tmps[x]?.getD undef = u := by rw [← hu]; simp [Act.eval]
  simp [go_sem, hd, kx]
  exact hk
theorem op_extract0 {d x : Tmp} {deps : List Nat} (ho : OpAt md ops i (some d) (.extract (.tmp x) 0) deps) (hP : P = Tryz.prog) {u0 u1 u2 u3 : Value} (hu : a.eval (.tmp x) = .tuple #[u0, u1, u2, u3]) (h : K (a.put (some d) u0) w) : wpOp P ops Q i K a w := by
  obtain ⟨o, ho, hgd, hd, hop, _⟩ := ho
  refine wpOp_step ho fun K' hK => ?_
  have hw : Region.wanted o (yielded ops a.tmps) = true := by simp [Region.wanted, hgd]
  rw [if_pos hw]
  subst hP
  have hk := hK _ _ h
  unfold Oper.wp execOp
  simp only [hop]
  have kx : a.tmps[x]?.getD undef = .tuple #[u0, u1, u2, u3] := by rw [← hu]; simp [Act.eval]
  simp [go_sem, hd, kx]
  exact hk
theorem op_extract1 {d x : Tmp} {deps : List Nat} (ho : OpAt md ops i (some d) (.extract (.tmp x) 1) deps) (hP : P = Tryz.prog) {u0 u1 u2 u3 : Value} (hu : a.eval (.tmp x) = .tuple #[u0, u1, u2, u3]) (h : K (a.put (some d) u1) w) : wpOp P ops Q i K a w := by
  obtain ⟨o, ho, hgd, hd, hop, _⟩ := ho
  refine wpOp_step ho fun K' hK => ?_
  have hw : Region.wanted o (yielded ops a.tmps) = true := by simp [Region.wanted, hgd]
  rw [if_pos hw]
  subst hP
  have hk := hK _ _ h
  unfold Oper.wp execOp
  simp only [hop]
  have kx : a.tmps[x]?.getD undef = .tuple #[u0, u1, u2, u3] := by rw [← hu]; simp [Act.eval]
  simp [go_sem, hd, kx]
  exact hk
theorem op_extract2 {d x : Tmp} {deps : List Nat} (ho : OpAt md ops i (some d) (.extract (.tmp x) 2) deps) (hP : P = Tryz.prog) {u0 u1 u2 u3 : Value} (hu : a.eval (.tmp x) = .tuple #[u0, u1, u2, u3]) (h : K (a.put (some d) u2) w) : wpOp P ops Q i K a w := by
  obtain ⟨o, ho, hgd, hd, hop, _⟩ := ho
  refine wpOp_step ho fun K' hK => ?_
  have hw : Region.wanted o (yielded ops a.tmps) = true := by simp [Region.wanted, hgd]
  rw [if_pos hw]
  subst hP
  have hk := hK _ _ h
  unfold Oper.wp execOp
  simp only [hop]
  have kx : a.tmps[x]?.getD undef = .tuple #[u0, u1, u2, u3] := by rw [← hu]; simp [Act.eval]
  simp [go_sem, hd, kx]
  exact hk
theorem op_extract3 {d x : Tmp} {deps : List Nat} (ho : OpAt md ops i (some d) (.extract (.tmp x) 3) deps) (hP : P = Tryz.prog) {u0 u1 u2 u3 : Value} (hu : a.eval (.tmp x) = .tuple #[u0, u1, u2, u3]) (h : K (a.put (some d) u3) w) : wpOp P ops Q i K a w := by
  obtain ⟨o, ho, hgd, hd, hop, _⟩ := ho
  refine wpOp_step ho fun K' hK => ?_
  have hw : Region.wanted o (yielded ops a.tmps) = true := by simp [Region.wanted, hgd]
  rw [if_pos hw]
  subst hP
  have hk := hK _ _ h
  unfold Oper.wp execOp
  simp only [hop]
  have kx : a.tmps[x]?.getD undef = .tuple #[u0, u1, u2, u3] := by rw [← hu]; simp [Act.eval]
  simp [go_sem, hd, kx]
  exact hk
theorem op_fieldP {d x : Tmp} {deps : List Nat} (ho : OpAt md ops i (some d) (.field 73 (.tmp x) 0) deps) (hP : P = Tryz.prog) {A A' : Option Addr} {n k n' k' : Nat} (hu : a.eval (.tmp x) = .agg #[.slice A n k, .slice A' n' k']) (h : K (a.put (some d) (.slice A n k)) w) : wpOp P ops Q i K a w := by
  obtain ⟨o, ho, hgd, hd, hop, _⟩ := ho
  refine wpOp_step ho fun K' hK => ?_
  have hw : Region.wanted o (yielded ops a.tmps) = true := by simp [Region.wanted, hgd]
  rw [if_pos hw]
  subst hP
  have hk := hK _ _ h
  unfold Oper.wp execOp
  simp only [hop]
  have kx : a.tmps[x]?.getD undef = .agg #[.slice A n k, .slice A' n' k'] := by rw [← hu]; simp [Act.eval]
  have hfd : (Instr.field 73 (.agg #[.slice A n k, .slice A' n' k']) 0).run Tryz.prog w = .ok (.slice A n k) w := by kernel_rfl
  simp [go_sem, hd, kx, hfd]
  exact hk
theorem op_allocR {d : Tmp} {deps : List Nat} (ho : OpAt md ops i (some d) (.alloc 49) deps) (hP : P = Tryz.prog)
    (h : ∀ g w' l, g = w.heap.size → l.length = 2 → Fr w' g 49 l → Below w.heap.size w w' → K (a.put (some d) (.pointer (some ⟨g, 0, none⟩))) w') : wpOp P ops Q i K a w := by
  obtain ⟨o, ho, hgd, hd, hop, _⟩ := ho
  refine wpOp_step ho fun K' hK => ?_
  have hw : Region.wanted o (yielded ops a.tmps) = true := by simp [Region.wanted, hgd]
  rw [if_pos hw]
  subst hP
  have hk := hK _ _ (h w.heap.size (w.alloc (.cells #[.slice none 0 0, .slice none 0 0] 49)) [.slice none 0 0, .slice none 0 0] rfl rfl (Fr.made _ [.slice none 0 0, .slice none 0 0] _ rfl) (below_new (Below.refl _ _) _))
  unfold Oper.wp execOp
  simp only [hop]
  simp [go_sem, hd]
  exact hk
theorem op_storeR {p x : Operand} {deps : List Nat} (ho : OpAt md ops i none (.store 49 p x) deps) (hP : P = Tryz.prog)
    (g : Nat) (l : List Value) (s0 s1 : Option Addr) (m0 m1 k0 k1 : Nat) (hp : a.eval p = .pointer (some ⟨g, 0, none⟩)) (hx : a.eval x = .agg #[.slice s0 m0 k0, .slice s1 m1 k1]) (hl : l.length = 2) (hb : Fr w g 49 l)
    (h : K a ((w.setCell ⟨g, 0, none⟩ (.slice s0 m0 k0)).setCell ⟨g, 1, none⟩ (.slice s1 m1 k1))) : wpOp P ops Q i K a w := by
  obtain ⟨o, ho, hgd, hd, hop, _⟩ := ho
  refine wpOp_step ho fun K' hK => ?_
  have hw : Region.wanted o (yielded ops a.tmps) = true := by simp [Region.wanted, hgd]
  rw [if_pos hw]
  subst hP
  have hk := hK _ _ h
  have c0 := hb.cell 0
  have c1 := hb.cell 1
  have f0 := hb.frozen 0
  have f1 := hb.frozen 1
  match l, hl with
  | [y0, y1], _ =>
    simp at c0 c1
    unfold Oper.wp execOp
    simp only [hop, hp, hx]
    simp [go_sem, hd, c0, c1, f0, f1]
    exact hk
end
end Go.Proofs.YtkaedfgmhfefjaaGreatDoor

namespace Go.Proofs.YtkaedfgmhfefjaaGreatDoor
open Go.RowKit
def Gkc (a : Act) (v20 v21 v22 v23 v133 v139 v140 v141 v142 v143 v144 v145 : Value) : Act := ((((((((((((a.put (some 20) v20).put (some 21) v21).put (some 22) v22).put (some 23) v23).put (some 133) v133).put (some 139) v139).put (some 140) v140).put (some 141) v141).put (some 142) v142).put (some 143) v143).put (some 144) v144).put (some 145) v145)
section
variable (a : Act) (v20 v21 v22 v23 v133 v139 v140 v141 v142 v143 v144 v145 u : Value)
theorem Gkc.p20 : (Gkc a v20 v21 v22 v23 v133 v139 v140 v141 v142 v143 v144 v145).put (some 20) u = Gkc a u v21 v22 v23 v133 v139 v140 v141 v142 v143 v144 v145 := by
  simp only [Gkc, Act.put, Act.mk.injEq, and_true]; apply Array.ext_getElem?; intro i; by_cases h20 : 20 = i; (subst h20; simp [Array.getElem?_setIfInBounds]); by_cases h21 : 21 = i; (subst h21; simp [Array.getElem?_setIfInBounds]); by_cases h22 : 22 = i; (subst h22; simp [Array.getElem?_setIfInBounds]); by_cases h23 : 23 = i; (subst h23; simp [Array.getElem?_setIfInBounds]); by_cases h133 : 133 = i; (subst h133; simp [Array.getElem?_setIfInBounds]); by_cases h139 : 139 = i; (subst h139; simp [Array.getElem?_setIfInBounds]); by_cases h140 : 140 = i; (subst h140; simp [Array.getElem?_setIfInBounds]); by_cases h141 : 141 = i; (subst h141; simp [Array.getElem?_setIfInBounds]); by_cases h142 : 142 = i; (subst h142; simp [Array.getElem?_setIfInBounds]); by_cases h143 : 143 = i; (subst h143; simp [Array.getElem?_setIfInBounds]); by_cases h144 : 144 = i; (subst h144; simp [Array.getElem?_setIfInBounds]); by_cases h145 : 145 = i; (subst h145; simp [Array.getElem?_setIfInBounds]); simp [Array.getElem?_setIfInBounds, h20, h21, h22, h23, h133, h139, h140, h141, h142, h143, h144, h145]
theorem Gkc.p21 : (Gkc a v20 v21 v22 v23 v133 v139 v140 v141 v142 v143 v144 v145).put (some 21) u = Gkc a v20 u v22 v23 v133 v139 v140 v141 v142 v143 v144 v145 := by
  simp only [Gkc, Act.put, Act.mk.injEq, and_true]; apply Array.ext_getElem?; intro i; by_cases h20 : 20 = i; (subst h20; simp [Array.getElem?_setIfInBounds]); by_cases h21 : 21 = i; (subst h21; simp [Array.getElem?_setIfInBounds]); by_cases h22 : 22 = i; (subst h22; simp [Array.getElem?_setIfInBounds]); by_cases h23 : 23 = i; (subst h23; simp [Array.getElem?_setIfInBounds]); by_cases h133 : 133 = i; (subst h133; simp [Array.getElem?_setIfInBounds]); by_cases h139 : 139 = i; (subst h139; simp [Array.getElem?_setIfInBounds]); by_cases h140 : 140 = i; (subst h140; simp [Array.getElem?_setIfInBounds]); by_cases h141 : 141 = i; (subst h141; simp [Array.getElem?_setIfInBounds]); by_cases h142 : 142 = i; (subst h142; simp [Array.getElem?_setIfInBounds]); by_cases h143 : 143 = i; (subst h143; simp [Array.getElem?_setIfInBounds]); by_cases h144 : 144 = i; (subst h144; simp [Array.getElem?_setIfInBounds]); by_cases h145 : 145 = i; (subst h145; simp [Array.getElem?_setIfInBounds]); simp [Array.getElem?_setIfInBounds, h20, h21, h22, h23, h133, h139, h140, h141, h142, h143, h144, h145]
theorem Gkc.p22 : (Gkc a v20 v21 v22 v23 v133 v139 v140 v141 v142 v143 v144 v145).put (some 22) u = Gkc a v20 v21 u v23 v133 v139 v140 v141 v142 v143 v144 v145 := by
  simp only [Gkc, Act.put, Act.mk.injEq, and_true]; apply Array.ext_getElem?; intro i; by_cases h20 : 20 = i; (subst h20; simp [Array.getElem?_setIfInBounds]); by_cases h21 : 21 = i; (subst h21; simp [Array.getElem?_setIfInBounds]); by_cases h22 : 22 = i; (subst h22; simp [Array.getElem?_setIfInBounds]); by_cases h23 : 23 = i; (subst h23; simp [Array.getElem?_setIfInBounds]); by_cases h133 : 133 = i; (subst h133; simp [Array.getElem?_setIfInBounds]); by_cases h139 : 139 = i; (subst h139; simp [Array.getElem?_setIfInBounds]); by_cases h140 : 140 = i; (subst h140; simp [Array.getElem?_setIfInBounds]); by_cases h141 : 141 = i; (subst h141; simp [Array.getElem?_setIfInBounds]); by_cases h142 : 142 = i; (subst h142; simp [Array.getElem?_setIfInBounds]); by_cases h143 : 143 = i; (subst h143; simp [Array.getElem?_setIfInBounds]); by_cases h144 : 144 = i; (subst h144; simp [Array.getElem?_setIfInBounds]); by_cases h145 : 145 = i; (subst h145; simp [Array.getElem?_setIfInBounds]); simp [Array.getElem?_setIfInBounds, h20, h21, h22, h23, h133, h139, h140, h141, h142, h143, h144, h145]
theorem Gkc.p23 : (Gkc a v20 v21 v22 v23 v133 v139 v140 v141 v142 v143 v144 v145).put (some 23) u = Gkc a v20 v21 v22 u v133 v139 v140 v141 v142 v143 v144 v145 := by
  simp only [Gkc, Act.put, Act.mk.injEq, and_true]; apply Array.ext_getElem?; intro i; by_cases h20 : 20 = i; (subst h20; simp [Array.getElem?_setIfInBounds]); by_cases h21 : 21 = i; (subst h21; simp [Array.getElem?_setIfInBounds]); by_cases h22 : 22 = i; (subst h22; simp [Array.getElem?_setIfInBounds]); by_cases h23 : 23 = i; (subst h23; simp [Array.getElem?_setIfInBounds]); by_cases h133 : 133 = i; (subst h133; simp [Array.getElem?_setIfInBounds]); by_cases h139 : 139 = i; (subst h139; simp [Array.getElem?_setIfInBounds]); by_cases h140 : 140 = i; (subst h140; simp [Array.getElem?_setIfInBounds]); by_cases h141 : 141 = i; (subst h141; simp [Array.getElem?_setIfInBounds]); by_cases h142 : 142 = i; (subst h142; simp [Array.getElem?_setIfInBounds]); by_cases h143 : 143 = i; (subst h143; simp [Array.getElem?_setIfInBounds]); by_cases h144 : 144 = i; (subst h144; simp [Array.getElem?_setIfInBounds]); by_cases h145 : 145 = i; (subst h145; simp [Array.getElem?_setIfInBounds]); simp [Array.getElem?_setIfInBounds, h20, h21, h22, h23, h133, h139, h140, h141, h142, h143, h144, h145]
theorem Gkc.p133 : (Gkc a v20 v21 v22 v23 v133 v139 v140 v141 v142 v143 v144 v145).put (some 133) u = Gkc a v20 v21 v22 v23 u v139 v140 v141 v142 v143 v144 v145 := by
  simp only [Gkc, Act.put, Act.mk.injEq, and_true]; apply Array.ext_getElem?; intro i; by_cases h20 : 20 = i; (subst h20; simp [Array.getElem?_setIfInBounds]); by_cases h21 : 21 = i; (subst h21; simp [Array.getElem?_setIfInBounds]); by_cases h22 : 22 = i; (subst h22; simp [Array.getElem?_setIfInBounds]); by_cases h23 : 23 = i; (subst h23; simp [Array.getElem?_setIfInBounds]); by_cases h133 : 133 = i; (subst h133; simp [Array.getElem?_setIfInBounds]); by_cases h139 : 139 = i; (subst h139; simp [Array.getElem?_setIfInBounds]); by_cases h140 : 140 = i; (subst h140; simp [Array.getElem?_setIfInBounds]); by_cases h141 : 141 = i; (subst h141; simp [Array.getElem?_setIfInBounds]); by_cases h142 : 142 = i; (subst h142; simp [Array.getElem?_setIfInBounds]); by_cases h143 : 143 = i; (subst h143; simp [Array.getElem?_setIfInBounds]); by_cases h144 : 144 = i; (subst h144; simp [Array.getElem?_setIfInBounds]); by_cases h145 : 145 = i; (subst h145; simp [Array.getElem?_setIfInBounds]); simp [Array.getElem?_setIfInBounds, h20, h21, h22, h23, h133, h139, h140, h141, h142, h143, h144, h145]
theorem Gkc.p139 : (Gkc a v20 v21 v22 v23 v133 v139 v140 v141 v142 v143 v144 v145).put (some 139) u = Gkc a v20 v21 v22 v23 v133 u v140 v141 v142 v143 v144 v145 := by
  simp only [Gkc, Act.put, Act.mk.injEq, and_true]; apply Array.ext_getElem?; intro i; by_cases h20 : 20 = i; (subst h20; simp [Array.getElem?_setIfInBounds]); by_cases h21 : 21 = i; (subst h21; simp [Array.getElem?_setIfInBounds]); by_cases h22 : 22 = i; (subst h22; simp [Array.getElem?_setIfInBounds]); by_cases h23 : 23 = i; (subst h23; simp [Array.getElem?_setIfInBounds]); by_cases h133 : 133 = i; (subst h133; simp [Array.getElem?_setIfInBounds]); by_cases h139 : 139 = i; (subst h139; simp [Array.getElem?_setIfInBounds]); by_cases h140 : 140 = i; (subst h140; simp [Array.getElem?_setIfInBounds]); by_cases h141 : 141 = i; (subst h141; simp [Array.getElem?_setIfInBounds]); by_cases h142 : 142 = i; (subst h142; simp [Array.getElem?_setIfInBounds]); by_cases h143 : 143 = i; (subst h143; simp [Array.getElem?_setIfInBounds]); by_cases h144 : 144 = i; (subst h144; simp [Array.getElem?_setIfInBounds]); by_cases h145 : 145 = i; (subst h145; simp [Array.getElem?_setIfInBounds]); simp [Array.getElem?_setIfInBounds, h20, h21, h22, h23, h133, h139, h140, h141, h142, h143, h144, h145]
theorem Gkc.p140 : (Gkc a v20 v21 v22 v23 v133 v139 v140 v141 v142 v143 v144 v145).put (some 140) u = Gkc a v20 v21 v22 v23 v133 v139 u v141 v142 v143 v144 v145 := by
  simp only [Gkc, Act.put, Act.mk.injEq, and_true]; apply Array.ext_getElem?; intro i; by_cases h20 : 20 = i; (subst h20; simp [Array.getElem?_setIfInBounds]); by_cases h21 : 21 = i; (subst h21; simp [Array.getElem?_setIfInBounds]); by_cases h22 : 22 = i; (subst h22; simp [Array.getElem?_setIfInBounds]); by_cases h23 : 23 = i; (subst h23; simp [Array.getElem?_setIfInBounds]); by_cases h133 : 133 = i; (subst h133; simp [Array.getElem?_setIfInBounds]); by_cases h139 : 139 = i; (subst h139; simp [Array.getElem?_setIfInBounds]); by_cases h140 : 140 = i; (subst h140; simp [Array.getElem?_setIfInBounds]); by_cases h141 : 141 = i; (subst h141; simp [Array.getElem?_setIfInBounds]); by_cases h142 : 142 = i; (subst h142; simp [Array.getElem?_setIfInBounds]); by_cases h143 : 143 = i; (subst h143; simp [Array.getElem?_setIfInBounds]); by_cases h144 : 144 = i; (subst h144; simp [Array.getElem?_setIfInBounds]); by_cases h145 : 145 = i; (subst h145; simp [Array.getElem?_setIfInBounds]); simp [Array.getElem?_setIfInBounds, h20, h21, h22, h23, h133, h139, h140, h141, h142, h143, h144, h145]
theorem Gkc.p141 : (Gkc a v20 v21 v22 v23 v133 v139 v140 v141 v142 v143 v144 v145).put (some 141) u = Gkc a v20 v21 v22 v23 v133 v139 v140 u v142 v143 v144 v145 := by
  simp only [Gkc, Act.put, Act.mk.injEq, and_true]; apply Array.ext_getElem?; intro i; by_cases h20 : 20 = i; (subst h20; simp [Array.getElem?_setIfInBounds]); by_cases h21 : 21 = i; (subst h21; simp [Array.getElem?_setIfInBounds]); by_cases h22 : 22 = i; (subst h22; simp [Array.getElem?_setIfInBounds]); by_cases h23 : 23 = i; (subst h23; simp [Array.getElem?_setIfInBounds]); by_cases h133 : 133 = i; (subst h133; simp [Array.getElem?_setIfInBounds]); by_cases h139 : 139 = i; (subst h139; simp [Array.getElem?_setIfInBounds]); by_cases h140 : 140 = i; (subst h140; simp [Array.getElem?_setIfInBounds]); by_cases h141 : 141 = i; (subst h141; simp [Array.getElem?_setIfInBounds]); by_cases h142 : 142 = i; (subst h142; simp [Array.getElem?_setIfInBounds]); by_cases h143 : 143 = i; (subst h143; simp [Array.getElem?_setIfInBounds]); by_cases h144 : 144 = i; (subst h144; simp [Array.getElem?_setIfInBounds]); by_cases h145 : 145 = i; (subst h145; simp [Array.getElem?_setIfInBounds]); simp [Array.getElem?_setIfInBounds, h20, h21, h22, h23, h133, h139, h140, h141, h142, h143, h144, h145]
theorem Gkc.p142 : (Gkc a v20 v21 v22 v23 v133 v139 v140 v141 v142 v143 v144 v145).put (some 142) u = Gkc a v20 v21 v22 v23 v133 v139 v140 v141 u v143 v144 v145 := by
  simp only [Gkc, Act.put, Act.mk.injEq, and_true]; apply Array.ext_getElem?; intro i; by_cases h20 : 20 = i; (subst h20; simp [Array.getElem?_setIfInBounds]); by_cases h21 : 21 = i; (subst h21; simp [Array.getElem?_setIfInBounds]); by_cases h22 : 22 = i; (subst h22; simp [Array.getElem?_setIfInBounds]); by_cases h23 : 23 = i; (subst h23; simp [Array.getElem?_setIfInBounds]); by_cases h133 : 133 = i; (subst h133; simp [Array.getElem?_setIfInBounds]); by_cases h139 : 139 = i; (subst h139; simp [Array.getElem?_setIfInBounds]); by_cases h140 : 140 = i; (subst h140; simp [Array.getElem?_setIfInBounds]); by_cases h141 : 141 = i; (subst h141; simp [Array.getElem?_setIfInBounds]); by_cases h142 : 142 = i; (subst h142; simp [Array.getElem?_setIfInBounds]); by_cases h143 : 143 = i; (subst h143; simp [Array.getElem?_setIfInBounds]); by_cases h144 : 144 = i; (subst h144; simp [Array.getElem?_setIfInBounds]); by_cases h145 : 145 = i; (subst h145; simp [Array.getElem?_setIfInBounds]); simp [Array.getElem?_setIfInBounds, h20, h21, h22, h23, h133, h139, h140, h141, h142, h143, h144, h145]
theorem Gkc.p143 : (Gkc a v20 v21 v22 v23 v133 v139 v140 v141 v142 v143 v144 v145).put (some 143) u = Gkc a v20 v21 v22 v23 v133 v139 v140 v141 v142 u v144 v145 := by
  simp only [Gkc, Act.put, Act.mk.injEq, and_true]; apply Array.ext_getElem?; intro i; by_cases h20 : 20 = i; (subst h20; simp [Array.getElem?_setIfInBounds]); by_cases h21 : 21 = i; (subst h21; simp [Array.getElem?_setIfInBounds]); by_cases h22 : 22 = i; (subst h22; simp [Array.getElem?_setIfInBounds]); by_cases h23 : 23 = i; (subst h23; simp [Array.getElem?_setIfInBounds]); by_cases h133 : 133 = i; (subst h133; simp [Array.getElem?_setIfInBounds]); by_cases h139 : 139 = i; (subst h139; simp [Array.getElem?_setIfInBounds]); by_cases h140 : 140 = i; (subst h140; simp [Array.getElem?_setIfInBounds]); by_cases h141 : 141 = i; (subst h141; simp [Array.getElem?_setIfInBounds]); by_cases h142 : 142 = i; (subst h142; simp [Array.getElem?_setIfInBounds]); by_cases h143 : 143 = i; (subst h143; simp [Array.getElem?_setIfInBounds]); by_cases h144 : 144 = i; (subst h144; simp [Array.getElem?_setIfInBounds]); by_cases h145 : 145 = i; (subst h145; simp [Array.getElem?_setIfInBounds]); simp [Array.getElem?_setIfInBounds, h20, h21, h22, h23, h133, h139, h140, h141, h142, h143, h144, h145]
theorem Gkc.p144 : (Gkc a v20 v21 v22 v23 v133 v139 v140 v141 v142 v143 v144 v145).put (some 144) u = Gkc a v20 v21 v22 v23 v133 v139 v140 v141 v142 v143 u v145 := by
  simp only [Gkc, Act.put, Act.mk.injEq, and_true]; apply Array.ext_getElem?; intro i; by_cases h20 : 20 = i; (subst h20; simp [Array.getElem?_setIfInBounds]); by_cases h21 : 21 = i; (subst h21; simp [Array.getElem?_setIfInBounds]); by_cases h22 : 22 = i; (subst h22; simp [Array.getElem?_setIfInBounds]); by_cases h23 : 23 = i; (subst h23; simp [Array.getElem?_setIfInBounds]); by_cases h133 : 133 = i; (subst h133; simp [Array.getElem?_setIfInBounds]); by_cases h139 : 139 = i; (subst h139; simp [Array.getElem?_setIfInBounds]); by_cases h140 : 140 = i; (subst h140; simp [Array.getElem?_setIfInBounds]); by_cases h141 : 141 = i; (subst h141; simp [Array.getElem?_setIfInBounds]); by_cases h142 : 142 = i; (subst h142; simp [Array.getElem?_setIfInBounds]); by_cases h143 : 143 = i; (subst h143; simp [Array.getElem?_setIfInBounds]); by_cases h144 : 144 = i; (subst h144; simp [Array.getElem?_setIfInBounds]); by_cases h145 : 145 = i; (subst h145; simp [Array.getElem?_setIfInBounds]); simp [Array.getElem?_setIfInBounds, h20, h21, h22, h23, h133, h139, h140, h141, h142, h143, h144, h145]
theorem Gkc.p145 : (Gkc a v20 v21 v22 v23 v133 v139 v140 v141 v142 v143 v144 v145).put (some 145) u = Gkc a v20 v21 v22 v23 v133 v139 v140 v141 v142 v143 v144 u := by
  simp only [Gkc, Act.put, Act.mk.injEq, and_true]; apply Array.ext_getElem?; intro i; by_cases h20 : 20 = i; (subst h20; simp [Array.getElem?_setIfInBounds]); by_cases h21 : 21 = i; (subst h21; simp [Array.getElem?_setIfInBounds]); by_cases h22 : 22 = i; (subst h22; simp [Array.getElem?_setIfInBounds]); by_cases h23 : 23 = i; (subst h23; simp [Array.getElem?_setIfInBounds]); by_cases h133 : 133 = i; (subst h133; simp [Array.getElem?_setIfInBounds]); by_cases h139 : 139 = i; (subst h139; simp [Array.getElem?_setIfInBounds]); by_cases h140 : 140 = i; (subst h140; simp [Array.getElem?_setIfInBounds]); by_cases h141 : 141 = i; (subst h141; simp [Array.getElem?_setIfInBounds]); by_cases h142 : 142 = i; (subst h142; simp [Array.getElem?_setIfInBounds]); by_cases h143 : 143 = i; (subst h143; simp [Array.getElem?_setIfInBounds]); by_cases h144 : 144 = i; (subst h144; simp [Array.getElem?_setIfInBounds]); by_cases h145 : 145 = i; (subst h145; simp [Array.getElem?_setIfInBounds]); simp [Array.getElem?_setIfInBounds, h20, h21, h22, h23, h133, h139, h140, h141, h142, h143, h144, h145]
theorem Gkc.e20 (hz : 200 ≤ a.tmps.size) : (Gkc a v20 v21 v22 v23 v133 v139 v140 v141 v142 v143 v144 v145).eval (.tmp 20) = v20 := by
  have k20 : 20 < a.tmps.size := (by omega); have k21 : 21 < a.tmps.size := (by omega); have k22 : 22 < a.tmps.size := (by omega); have k23 : 23 < a.tmps.size := (by omega); have k133 : 133 < a.tmps.size := (by omega); have k139 : 139 < a.tmps.size := (by omega); have k140 : 140 < a.tmps.size := (by omega); have k141 : 141 < a.tmps.size := (by omega); have k142 : 142 < a.tmps.size := (by omega); have k143 : 143 < a.tmps.size := (by omega); have k144 : 144 < a.tmps.size := (by omega); have k145 : 145 < a.tmps.size := (by omega); simp [Gkc, Act.put, Act.eval, Array.getElem?_setIfInBounds, *]
theorem Gkc.e21 (hz : 200 ≤ a.tmps.size) : (Gkc a v20 v21 v22 v23 v133 v139 v140 v141 v142 v143 v144 v145).eval (.tmp 21) = v21 := by
  have k20 : 20 < a.tmps.size := (by omega); have k21 : 21 < a.tmps.size := (by omega); have k22 : 22 < a.tmps.size := (by omega); have k23 : 23 < a.tmps.size := (by omega); have k133 : 133 < a.tmps.size := (by omega); have k139 : 139 < a.tmps.size := (by omega); have k140 : 140 < a.tmps.size := (by omega); have k141 : 141 < a.tmps.size := (by omega); have k142 : 142 < a.tmps.size := (by omega); have k143 : 143 < a.tmps.size := (by omega); have k144 : 144 < a.tmps.size := (by omega); have k145 : 145 < a.tmps.size := (by omega); simp [Gkc, Act.put, Act.eval, Array.getElem?_setIfInBounds, *]
theorem Gkc.e133 (hz : 200 ≤ a.tmps.size) : (Gkc a v20 v21 v22 v23 v133 v139 v140 v141 v142 v143 v144 v145).eval (.tmp 133) = v133 := by
  have k20 : 20 < a.tmps.size := (by omega); have k21 : 21 < a.tmps.size := (by omega); have k22 : 22 < a.tmps.size := (by omega); have k23 : 23 < a.tmps.size := (by omega); have k133 : 133 < a.tmps.size := (by omega); have k139 : 139 < a.tmps.size := (by omega); have k140 : 140 < a.tmps.size := (by omega); have k141 : 141 < a.tmps.size := (by omega); have k142 : 142 < a.tmps.size := (by omega); have k143 : 143 < a.tmps.size := (by omega); have k144 : 144 < a.tmps.size := (by omega); have k145 : 145 < a.tmps.size := (by omega); simp [Gkc, Act.put, Act.eval, Array.getElem?_setIfInBounds, *]
theorem Gkc.e139 (hz : 200 ≤ a.tmps.size) : (Gkc a v20 v21 v22 v23 v133 v139 v140 v141 v142 v143 v144 v145).eval (.tmp 139) = v139 := by
  have k20 : 20 < a.tmps.size := (by omega); have k21 : 21 < a.tmps.size := (by omega); have k22 : 22 < a.tmps.size := (by omega); have k23 : 23 < a.tmps.size := (by omega); have k133 : 133 < a.tmps.size := (by omega); have k139 : 139 < a.tmps.size := (by omega); have k140 : 140 < a.tmps.size := (by omega); have k141 : 141 < a.tmps.size := (by omega); have k142 : 142 < a.tmps.size := (by omega); have k143 : 143 < a.tmps.size := (by omega); have k144 : 144 < a.tmps.size := (by omega); have k145 : 145 < a.tmps.size := (by omega); simp [Gkc, Act.put, Act.eval, Array.getElem?_setIfInBounds, *]
theorem Gkc.e140 (hz : 200 ≤ a.tmps.size) : (Gkc a v20 v21 v22 v23 v133 v139 v140 v141 v142 v143 v144 v145).eval (.tmp 140) = v140 := by
  have k20 : 20 < a.tmps.size := (by omega); have k21 : 21 < a.tmps.size := (by omega); have k22 : 22 < a.tmps.size := (by omega); have k23 : 23 < a.tmps.size := (by omega); have k133 : 133 < a.tmps.size := (by omega); have k139 : 139 < a.tmps.size := (by omega); have k140 : 140 < a.tmps.size := (by omega); have k141 : 141 < a.tmps.size := (by omega); have k142 : 142 < a.tmps.size := (by omega); have k143 : 143 < a.tmps.size := (by omega); have k144 : 144 < a.tmps.size := (by omega); have k145 : 145 < a.tmps.size := (by omega); simp [Gkc, Act.put, Act.eval, Array.getElem?_setIfInBounds, *]
theorem Gkc.e141 (hz : 200 ≤ a.tmps.size) : (Gkc a v20 v21 v22 v23 v133 v139 v140 v141 v142 v143 v144 v145).eval (.tmp 141) = v141 := by
  have k20 : 20 < a.tmps.size := (by omega); have k21 : 21 < a.tmps.size := (by omega); have k22 : 22 < a.tmps.size := (by omega); have k23 : 23 < a.tmps.size := (by omega); have k133 : 133 < a.tmps.size := (by omega); have k139 : 139 < a.tmps.size := (by omega); have k140 : 140 < a.tmps.size := (by omega); have k141 : 141 < a.tmps.size := (by omega); have k142 : 142 < a.tmps.size := (by omega); have k143 : 143 < a.tmps.size := (by omega); have k144 : 144 < a.tmps.size := (by omega); have k145 : 145 < a.tmps.size := (by omega); simp [Gkc, Act.put, Act.eval, Array.getElem?_setIfInBounds, *]
theorem Gkc.e142 (hz : 200 ≤ a.tmps.size) : (Gkc a v20 v21 v22 v23 v133 v139 v140 v141 v142 v143 v144 v145).eval (.tmp 142) = v142 := by
  have k20 : 20 < a.tmps.size := (by omega); have k21 : 21 < a.tmps.size := (by omega); have k22 : 22 < a.tmps.size := (by omega); have k23 : 23 < a.tmps.size := (by omega); have k133 : 133 < a.tmps.size := (by omega); have k139 : 139 < a.tmps.size := (by omega); have k140 : 140 < a.tmps.size := (by omega); have k141 : 141 < a.tmps.size := (by omega); have k142 : 142 < a.tmps.size := (by omega); have k143 : 143 < a.tmps.size := (by omega); have k144 : 144 < a.tmps.size := (by omega); have k145 : 145 < a.tmps.size := (by omega); simp [Gkc, Act.put, Act.eval, Array.getElem?_setIfInBounds, *]
theorem Gkc.e143 (hz : 200 ≤ a.tmps.size) : (Gkc a v20 v21 v22 v23 v133 v139 v140 v141 v142 v143 v144 v145).eval (.tmp 143) = v143 := by
  have k20 : 20 < a.tmps.size := (by omega); have k21 : 21 < a.tmps.size := (by omega); have k22 : 22 < a.tmps.size := (by omega); have k23 : 23 < a.tmps.size := (by omega); have k133 : 133 < a.tmps.size := (by omega); have k139 : 139 < a.tmps.size := (by omega); have k140 : 140 < a.tmps.size := (by omega); have k141 : 141 < a.tmps.size := (by omega); have k142 : 142 < a.tmps.size := (by omega); have k143 : 143 < a.tmps.size := (by omega); have k144 : 144 < a.tmps.size := (by omega); have k145 : 145 < a.tmps.size := (by omega); simp [Gkc, Act.put, Act.eval, Array.getElem?_setIfInBounds, *]
theorem Gkc.e144 (hz : 200 ≤ a.tmps.size) : (Gkc a v20 v21 v22 v23 v133 v139 v140 v141 v142 v143 v144 v145).eval (.tmp 144) = v144 := by
  have k20 : 20 < a.tmps.size := (by omega); have k21 : 21 < a.tmps.size := (by omega); have k22 : 22 < a.tmps.size := (by omega); have k23 : 23 < a.tmps.size := (by omega); have k133 : 133 < a.tmps.size := (by omega); have k139 : 139 < a.tmps.size := (by omega); have k140 : 140 < a.tmps.size := (by omega); have k141 : 141 < a.tmps.size := (by omega); have k142 : 142 < a.tmps.size := (by omega); have k143 : 143 < a.tmps.size := (by omega); have k144 : 144 < a.tmps.size := (by omega); have k145 : 145 < a.tmps.size := (by omega); simp [Gkc, Act.put, Act.eval, Array.getElem?_setIfInBounds, *]
theorem Gkc.e145 (hz : 200 ≤ a.tmps.size) : (Gkc a v20 v21 v22 v23 v133 v139 v140 v141 v142 v143 v144 v145).eval (.tmp 145) = v145 := by
  have k20 : 20 < a.tmps.size := (by omega); have k21 : 21 < a.tmps.size := (by omega); have k22 : 22 < a.tmps.size := (by omega); have k23 : 23 < a.tmps.size := (by omega); have k133 : 133 < a.tmps.size := (by omega); have k139 : 139 < a.tmps.size := (by omega); have k140 : 140 < a.tmps.size := (by omega); have k141 : 141 < a.tmps.size := (by omega); have k142 : 142 < a.tmps.size := (by omega); have k143 : 143 < a.tmps.size := (by omega); have k144 : 144 < a.tmps.size := (by omega); have k145 : 145 < a.tmps.size := (by omega); simp [Gkc, Act.put, Act.eval, Array.getElem?_setIfInBounds, *]
theorem Gkc.e134 (hz : 200 ≤ a.tmps.size) : (Gkc a v20 v21 v22 v23 v133 v139 v140 v141 v142 v143 v144 v145).eval (.tmp 134) = a.eval (.tmp 134) := by
  have k20 : 20 < a.tmps.size := (by omega); have k21 : 21 < a.tmps.size := (by omega); have k22 : 22 < a.tmps.size := (by omega); have k23 : 23 < a.tmps.size := (by omega); have k133 : 133 < a.tmps.size := (by omega); have k139 : 139 < a.tmps.size := (by omega); have k140 : 140 < a.tmps.size := (by omega); have k141 : 141 < a.tmps.size := (by omega); have k142 : 142 < a.tmps.size := (by omega); have k143 : 143 < a.tmps.size := (by omega); have k144 : 144 < a.tmps.size := (by omega); have k145 : 145 < a.tmps.size := (by omega); simp [Gkc, Act.put, Act.eval, Array.getElem?_setIfInBounds, *]
theorem Gkc.e135 (hz : 200 ≤ a.tmps.size) : (Gkc a v20 v21 v22 v23 v133 v139 v140 v141 v142 v143 v144 v145).eval (.tmp 135) = a.eval (.tmp 135) := by
  have k20 : 20 < a.tmps.size := (by omega); have k21 : 21 < a.tmps.size := (by omega); have k22 : 22 < a.tmps.size := (by omega); have k23 : 23 < a.tmps.size := (by omega); have k133 : 133 < a.tmps.size := (by omega); have k139 : 139 < a.tmps.size := (by omega); have k140 : 140 < a.tmps.size := (by omega); have k141 : 141 < a.tmps.size := (by omega); have k142 : 142 < a.tmps.size := (by omega); have k143 : 143 < a.tmps.size := (by omega); have k144 : 144 < a.tmps.size := (by omega); have k145 : 145 < a.tmps.size := (by omega); simp [Gkc, Act.put, Act.eval, Array.getElem?_setIfInBounds, *]
theorem Gkc.e137 (hz : 200 ≤ a.tmps.size) : (Gkc a v20 v21 v22 v23 v133 v139 v140 v141 v142 v143 v144 v145).eval (.tmp 137) = a.eval (.tmp 137) := by
  have k20 : 20 < a.tmps.size := (by omega); have k21 : 21 < a.tmps.size := (by omega); have k22 : 22 < a.tmps.size := (by omega); have k23 : 23 < a.tmps.size := (by omega); have k133 : 133 < a.tmps.size := (by omega); have k139 : 139 < a.tmps.size := (by omega); have k140 : 140 < a.tmps.size := (by omega); have k141 : 141 < a.tmps.size := (by omega); have k142 : 142 < a.tmps.size := (by omega); have k143 : 143 < a.tmps.size := (by omega); have k144 : 144 < a.tmps.size := (by omega); have k145 : 145 < a.tmps.size := (by omega); simp [Gkc, Act.put, Act.eval, Array.getElem?_setIfInBounds, *]
theorem Gkc.e138 (hz : 200 ≤ a.tmps.size) : (Gkc a v20 v21 v22 v23 v133 v139 v140 v141 v142 v143 v144 v145).eval (.tmp 138) = a.eval (.tmp 138) := by
  have k20 : 20 < a.tmps.size := (by omega); have k21 : 21 < a.tmps.size := (by omega); have k22 : 22 < a.tmps.size := (by omega); have k23 : 23 < a.tmps.size := (by omega); have k133 : 133 < a.tmps.size := (by omega); have k139 : 139 < a.tmps.size := (by omega); have k140 : 140 < a.tmps.size := (by omega); have k141 : 141 < a.tmps.size := (by omega); have k142 : 142 < a.tmps.size := (by omega); have k143 : 143 < a.tmps.size := (by omega); have k144 : 144 < a.tmps.size := (by omega); have k145 : 145 < a.tmps.size := (by omega); simp [Gkc, Act.put, Act.eval, Array.getElem?_setIfInBounds, *]
end
structure Ikc (inp : List Int) (ni ns m n3 n : Nat) (RS : World → Nat → Nat → Nat → Nat → Nat → Nat → Prop) (wb : World) (b5 b6 b7 b8 b9 b10 b11 b12 b13 b14 b15 b16 b17 b18 : Bool) (v20 v21 v22 v23 v133 v139 v140 v141 v142 v143 v144 v145 : Value) (w : World) : Prop where
  bel : BelW wb w
  k5 : b5 = true → ∃ AI cI AS cS, v139 = .agg #[.slice AI ni cI, .slice AS ns cS] ∧ VStk w wb.heap.size (.slice AI ni cI) inp
  k6 : b6 = true → ∃ AI cI, v140 = .slice AI ni cI ∧ VStk w wb.heap.size (.slice AI ni cI) inp
  k7 : b7 = true → ∃ gB D1 D2 go gn g, v141 = .tuple #[.agg #[.slice (some ⟨gB, 0, none⟩) ns ns, .slice (some ⟨D1, 0, none⟩) m m, .slice (some ⟨D2, 0, none⟩) m m], .agg #[.slice (some ⟨go, 0, none⟩) n3 n3, .slice (some ⟨gn, 0, none⟩) ns ns], .slice (some ⟨g, 0, none⟩) n n, .int .i64 0] ∧ RS w gB D1 D2 go gn g ∧ (b8 = true → v133 = .tuple #[.agg #[.slice (some ⟨gB, 0, none⟩) ns ns, .slice (some ⟨D1, 0, none⟩) m m, .slice (some ⟨D2, 0, none⟩) m m], .agg #[.slice (some ⟨go, 0, none⟩) n3 n3, .slice (some ⟨gn, 0, none⟩) ns ns], .slice (some ⟨g, 0, none⟩) n n, .int .i64 0]) ∧ (b9 = true → v142 = .agg #[.slice (some ⟨gB, 0, none⟩) ns ns, .slice (some ⟨D1, 0, none⟩) m m, .slice (some ⟨D2, 0, none⟩) m m]) ∧ (b10 = true → v143 = .agg #[.slice (some ⟨go, 0, none⟩) n3 n3, .slice (some ⟨gn, 0, none⟩) ns ns]) ∧ (b11 = true → v144 = .slice (some ⟨g, 0, none⟩) n n) ∧ (b12 = true → v145 = .int .i64 0) ∧ (b15 = true → ∃ q, v20 = .pointer (some ⟨q, 0, none⟩) ∧ wb.heap.size ≤ q ∧ Fr w q 45 [.slice (some ⟨gB, 0, none⟩) ns ns, .slice (some ⟨D1, 0, none⟩) m m, .slice (some ⟨D2, 0, none⟩) m m]) ∧ (b16 = true → ∃ q, v21 = .pointer (some ⟨q, 0, none⟩) ∧ wb.heap.size ≤ q ∧ Fr w q 49 [.slice (some ⟨go, 0, none⟩) n3 n3, .slice (some ⟨gn, 0, none⟩) ns ns]) ∧ (b17 = true → v22 = .slice (some ⟨g, 0, none⟩) n n) ∧ (b18 = true → v23 = .int .i64 0)
  a13 : b13 = true → b15 = false → ∃ q lx, v20 = .pointer (some ⟨q, 0, none⟩) ∧ wb.heap.size ≤ q ∧ lx.length = 3 ∧ Fr w q 45 lx
  a14 : b14 = true → b16 = false → ∃ q lx, v21 = .pointer (some ⟨q, 0, none⟩) ∧ wb.heap.size ≤ q ∧ lx.length = 2 ∧ Fr w q 49 lx
  d6 : b6 = true → b5 = true
  d7 : b7 = true → b6 = true
  d8 : b8 = true → b7 = true
  d9 : b9 = true → b8 = true
  d10 : b10 = true → b8 = true
  d11 : b11 = true → b8 = true
  d12 : b12 = true → b8 = true
  d15 : b15 = true → b9 = true
  d15a : b15 = true → b13 = true
  d16 : b16 = true → b10 = true
  d16a : b16 = true → b14 = true
  d17 : b17 = true → b11 = true
  d18 : b18 = true → b12 = true
section
variable {inp : List Int} {ni ns m n3 n : Nat} {RS : World → Nat → Nat → Nat → Nat → Nat → Nat → Prop} {wb : World} {b5 b6 b7 b8 b9 b10 b11 b12 b13 b14 b15 b16 b17 b18 : Bool} {v20 v21 v22 v23 v133 v139 v140 v141 v142 v143 v144 v145 : Value} {w w' : World}
theorem Ikc.next (hRb : ∀ w w' gB D1 D2 go gn g, RS w gB D1 D2 go gn g → BelW w w' → RS w' gB D1 D2 go gn g) (I : Ikc inp ni ns m n3 n RS wb b5 b6 b7 b8 b9 b10 b11 b12 b13 b14 b15 b16 b17 b18 v20 v21 v22 v23 v133 v139 v140 v141 v142 v143 v144 v145 w) (hb : BelW w w') : Ikc inp ni ns m n3 n RS wb b5 b6 b7 b8 b9 b10 b11 b12 b13 b14 b15 b16 b17 b18 v20 v21 v22 v23 v133 v139 v140 v141 v142 v143 v144 v145 w' :=
  ⟨joinB I.bel hb, fun e => by obtain ⟨x1, x2, x3, x4, h1, h2⟩ := I.k5 e; exact ⟨x1, x2, x3, x4, h1, h2.below hb⟩, fun e => by obtain ⟨x1, x2, h1, h2⟩ := I.k6 e; exact ⟨x1, x2, h1, h2.below hb⟩,
    fun e => by obtain ⟨gB, D1, D2, go, gn, g, h1, h2, h3, h4, h5, h6, h7, h8, h9, h10, h11⟩ := I.k7 e; exact ⟨gB, D1, D2, go, gn, g, h1, hRb _ _ _ _ _ _ _ _ h2 hb, h3, h4, h5, h6, h7, fun e => by obtain ⟨q, q1, q2, q3⟩ := h8 e; exact ⟨q, q1, q2, q3.below hb⟩, fun e => by obtain ⟨q, q1, q2, q3⟩ := h9 e; exact ⟨q, q1, q2, q3.below hb⟩, h10, h11⟩,
    fun e e' => by obtain ⟨q, lx, h1, h2, h3, h4⟩ := I.a13 e e'; exact ⟨q, lx, h1, h2, h3, h4.below hb⟩, fun e e' => by obtain ⟨q, lx, h1, h2, h3, h4⟩ := I.a14 e e'; exact ⟨q, lx, h1, h2, h3, h4.below hb⟩, I.d6, I.d7, I.d8, I.d9, I.d10, I.d11, I.d12, I.d15, I.d15a, I.d16, I.d16a, I.d17, I.d18⟩
end
def Jkc (inp : List Int) (ni ns m n3 n : Nat) (RS : World → Nat → Nat → Nat → Nat → Nat → Nat → Prop) (wb : World) (a9 : Act) (l : Array Bool) (a : Act) (w : World) : Prop :=
  ∃ (b5 b6 b7 b8 b9 b10 b11 b12 b13 b14 b15 b16 b17 b18 : Bool) (v20 v21 v22 v23 v133 v139 v140 v141 v142 v143 v144 v145 : Value), l = #[true, true, true, true, true, b5, b6, b7, b8, b9, b10, b11, b12, b13, b14, b15, b16, b17, b18] ∧ a = Gkc a9 v20 v21 v22 v23 v133 v139 v140 v141 v142 v143 v144 v145 ∧ Ikc inp ni ns m n3 n RS wb b5 b6 b7 b8 b9 b10 b11 b12 b13 b14 b15 b16 b17 b18 v20 v21 v22 v23 v133 v139 v140 v141 v142 v143 v144 v145 w
set_option maxHeartbeats 4000000 in
theorem r17_reg {Q : Exit → Act → World → Prop} {md : Region.Mode} {ops : Array Oper} {inp : List Int} {ni ns m n3 n : Nat} {RS : World → Nat → Nat → Nat → Nat → Nat → Nat → Prop} {wb : World} {sC sS sP : Value} (a9 : Act)
    (hsz : ops.size = 19) (hea : earlyB md ops = true) (hz : 200 ≤ a9.tmps.size)
    (h5 : OpAt md ops 5 (some 139) (.call { callee := .value (.func 28), args := #[.tmp 137, .tmp 138], argTypes := #[31, 39] }) [])
    (h6 : OpAt md ops 6 (some 140) (.field 73 (.tmp 139) 0) [5])
    (h7 : OpAt md ops 7 (some 141) (.call { callee := .value (.func 9), args := #[.tmp 134, .tmp 135, .tmp 140], argTypes := #[39, 45, 41] }) [6])
    (h8 : OpAt md ops 8 (some 133) (.move (.tmp 141)) [7])
    (h9 : OpAt md ops 9 (some 142) (.extract (.tmp 133) 0) [8])
    (h10 : OpAt md ops 10 (some 143) (.extract (.tmp 133) 1) [8])
    (h11 : OpAt md ops 11 (some 144) (.extract (.tmp 133) 2) [8])
    (h12 : OpAt md ops 12 (some 145) (.extract (.tmp 133) 3) [8])
    (h13 : OpAt md ops 13 (some 20) (.alloc 45) [])
    (h14 : OpAt md ops 14 (some 21) (.alloc 49) [])
    (h15 : OpAt md ops 15 none (.store 45 (.tmp 20) (.tmp 142)) [9, 13])
    (h16 : OpAt md ops 16 none (.store 49 (.tmp 21) (.tmp 143)) [10, 14])
    (h17 : OpAt md ops 17 (some 22) (.assign (.tmp 144)) [11])
    (h18 : OpAt md ops 18 (some 23) (.assign (.tmp 145)) [12])
    (e134 : a9.eval (.tmp 134) = sC) (e135 : a9.eval (.tmp 135) = sS) (e137 : a9.eval (.tmp 137) = sP) (e138 : a9.eval (.tmp 138) = sC)
    (hRb : ∀ w w' gB D1 D2 go gn g, RS w gB D1 D2 go gn g → BelW w w' → RS w' gB D1 D2 go gn g)
    (hRs : ∀ w gB D1 D2 go gn g q t lx, t = 45 ∨ t = 49 → RS w gB D1 D2 go gn g → Fr w q t lx → ∀ j v, RS (w.setCell ⟨q, j, none⟩ v) gB D1 D2 go gn g)
    (hkn : ∀ W, BelW wb W → Calls Tryz.prog 28 #[sP, sC] W fun e w' => ∃ s', e = .returned s' ∧ ∃ AI cI AS cS, s' = .agg #[.slice AI ni cI, .slice AS ns cS] ∧ VStk w' wb.heap.size (.slice AI ni cI) inp ∧ BelW W w')
    (hcy : ∀ W AI cI, BelW wb W → VStk W wb.heap.size (.slice AI ni cI) inp → Calls Tryz.prog 9 #[sC, sS, .slice AI ni cI] W fun e w' => ∃ s', e = .returned s' ∧ ∃ gB D1 D2 go gn g, s' = .tuple #[.agg #[.slice (some ⟨gB, 0, none⟩) ns ns, .slice (some ⟨D1, 0, none⟩) m m, .slice (some ⟨D2, 0, none⟩) m m], .agg #[.slice (some ⟨go, 0, none⟩) n3 n3, .slice (some ⟨gn, 0, none⟩) ns ns], .slice (some ⟨g, 0, none⟩) n n, .int .i64 0] ∧ RS w' gB D1 D2 go gn g ∧ BelW W w')
    (hfr : a9 = Gkc a9 undef undef undef undef undef undef undef undef undef undef undef undef)
    (hQ : ∀ v20 v21 v22 v23 v133 v139 v140 v141 v142 v143 v144 v145 w', Ikc inp ni ns m n3 n RS wb true true true true true true true true true true true true true true v20 v21 v22 v23 v133 v139 v140 v141 v142 v143 v144 v145 w' → Q .normal (Gkc a9 v20 v21 v22 v23 v133 v139 v140 v141 v142 v143 v144 v145) w')
    (w : World) (hw : BelW wb w) : wpAnyH Tryz.prog md ops Q (fun w' => BelW wb w') 14 #[true, true, true, true, true, false, false, false, false, false, false, false, false, false, false, false, false, false, false] a9 w := by
  refine held_inv (Jkc inp ni ns m n3 n RS wb a9) ?_ ?_ ?_ ?_ 14 _ a9 w (by decide) ?_
  · rintro l a w ⟨b5, b6, b7, b8, b9, b10, b11, b12, b13, b14, b15, b16, b17, b18, v20, v21, v22, v23, v133, v139, v140, v141, v142, v143, v144, v145, rfl, -⟩
    rw [hsz]; rfl
  · rintro l a w ⟨b5, b6, b7, b8, b9, b10, b11, b12, b13, b14, b15, b16, b17, b18, v20, v21, v22, v23, v133, v139, v140, v141, v142, v143, v144, v145, -, -, I⟩
    exact I.bel
  · rintro l a w i o ⟨b5, b6, b7, b8, b9, b10, b11, b12, b13, b14, b15, b16, b17, b18, v20, v21, v22, v23, v133, v139, v140, v141, v142, v143, v144, v145, rfl, rfl, I⟩ ho h0 hall
    have hi : i < 19 := hsz ▸ (Array.getElem?_eq_some_iff.1 ho).1
    have hcs : i = 0 ∨ i = 1 ∨ i = 2 ∨ i = 3 ∨ i = 4 ∨ i = 5 ∨ i = 6 ∨ i = 7 ∨ i = 8 ∨ i = 9 ∨ i = 10 ∨ i = 11 ∨ i = 12 ∨ i = 13 ∨ i = 14 ∨ i = 15 ∨ i = 16 ∨ i = 17 ∨ i = 18 := by omega
    rcases hcs with rfl | rfl | rfl | rfl | rfl | rfl | rfl | rfl | rfl | rfl | rfl | rfl | rfl | rfl | rfl | rfl | rfl | rfl | rfl
    · exact absurd (show true = false from h0) (by decide)
    · exact absurd (show true = false from h0) (by decide)
    · exact absurd (show true = false from h0) (by decide)
    · exact absurd (show true = false from h0) (by decide)
    · exact absurd (show true = false from h0) (by decide)
    · obtain rfl : b5 = false := h0
      obtain rfl : b6 = false := Bool.eq_false_iff.2 fun e => absurd (I.d6 e) (by simp)
      obtain rfl : b7 = false := Bool.eq_false_iff.2 fun e => absurd (I.d7 e) (by simp)
      obtain rfl : b8 = false := Bool.eq_false_iff.2 fun e => absurd (I.d8 e) (by simp)
      obtain rfl : b9 = false := Bool.eq_false_iff.2 fun e => absurd (I.d9 e) (by simp)
      obtain rfl : b10 = false := Bool.eq_false_iff.2 fun e => absurd (I.d10 e) (by simp)
      obtain rfl : b11 = false := Bool.eq_false_iff.2 fun e => absurd (I.d11 e) (by simp)
      obtain rfl : b12 = false := Bool.eq_false_iff.2 fun e => absurd (I.d12 e) (by simp)
      obtain rfl : b15 = false := Bool.eq_false_iff.2 fun e => absurd (I.d15 e) (by simp)
      obtain rfl : b16 = false := Bool.eq_false_iff.2 fun e => absurd (I.d16 e) (by simp)
      obtain rfl : b17 = false := Bool.eq_false_iff.2 fun e => absurd (I.d17 e) (by simp)
      obtain rfl : b18 = false := Bool.eq_false_iff.2 fun e => absurd (I.d18 e) (by simp)
      refine op_callKn h5 rfl ((Gkc.e137 _ _ _ _ _ _ _ _ _ _ _ _ _ hz).trans e137) ((Gkc.e138 _ _ _ _ _ _ _ _ _ _ _ _ _ hz).trans e138) (hkn w I.bel) fun v w' hr => ?_
      obtain ⟨AI, cI, AS, cS, rfl, hv, hb⟩ := hr
      have J := I.next hRb hb
      exact ⟨true, false, false, false, false, false, false, false, b13, b14, false, false, false, false, v20, v21, v22, v23, v133, _, v140, v141, v142, v143, v144, v145, rfl, Gkc.p139 .., J.bel, fun _ => ⟨AI, cI, AS, cS, rfl, hv⟩, J.k6, J.k7, J.a13, J.a14, (fun e => by cases e), J.d7, J.d8, J.d9, J.d10, J.d11, J.d12, J.d15, J.d15a, J.d16, J.d16a, J.d17, J.d18⟩
    · obtain rfl : b6 = false := h0
      obtain rfl : b5 = true := dep_of h6 ho hall 5 (by decide)
      obtain rfl : b7 = false := Bool.eq_false_iff.2 fun e => absurd (I.d7 e) (by simp)
      obtain rfl : b8 = false := Bool.eq_false_iff.2 fun e => absurd (I.d8 e) (by simp)
      obtain rfl : b9 = false := Bool.eq_false_iff.2 fun e => absurd (I.d9 e) (by simp)
      obtain rfl : b10 = false := Bool.eq_false_iff.2 fun e => absurd (I.d10 e) (by simp)
      obtain rfl : b11 = false := Bool.eq_false_iff.2 fun e => absurd (I.d11 e) (by simp)
      obtain rfl : b12 = false := Bool.eq_false_iff.2 fun e => absurd (I.d12 e) (by simp)
      obtain rfl : b15 = false := Bool.eq_false_iff.2 fun e => absurd (I.d15 e) (by simp)
      obtain rfl : b16 = false := Bool.eq_false_iff.2 fun e => absurd (I.d16 e) (by simp)
      obtain rfl : b17 = false := Bool.eq_false_iff.2 fun e => absurd (I.d17 e) (by simp)
      obtain rfl : b18 = false := Bool.eq_false_iff.2 fun e => absurd (I.d18 e) (by simp)
      obtain ⟨AI, cI, AS, cS, rfl, hv⟩ := I.k5 rfl
      refine op_fieldP h6 rfl (Gkc.e139 _ _ _ _ _ _ _ _ _ _ _ _ _ hz) ?_
      exact ⟨true, true, false, false, false, false, false, false, b13, b14, false, false, false, false, v20, v21, v22, v23, v133, _, _, v141, v142, v143, v144, v145, rfl, Gkc.p140 .., I.bel, I.k5, fun _ => ⟨AI, cI, rfl, hv⟩, I.k7, I.a13, I.a14, fun _ => rfl, (fun e => by cases e), I.d8, I.d9, I.d10, I.d11, I.d12, I.d15, I.d15a, I.d16, I.d16a, I.d17, I.d18⟩
    · obtain rfl : b7 = false := h0
      obtain rfl : b6 = true := dep_of h7 ho hall 6 (by decide)
      obtain rfl : b8 = false := Bool.eq_false_iff.2 fun e => absurd (I.d8 e) (by simp)
      obtain rfl : b9 = false := Bool.eq_false_iff.2 fun e => absurd (I.d9 e) (by simp)
      obtain rfl : b10 = false := Bool.eq_false_iff.2 fun e => absurd (I.d10 e) (by simp)
      obtain rfl : b11 = false := Bool.eq_false_iff.2 fun e => absurd (I.d11 e) (by simp)
      obtain rfl : b12 = false := Bool.eq_false_iff.2 fun e => absurd (I.d12 e) (by simp)
      obtain rfl : b15 = false := Bool.eq_false_iff.2 fun e => absurd (I.d15 e) (by simp)
      obtain rfl : b16 = false := Bool.eq_false_iff.2 fun e => absurd (I.d16 e) (by simp)
      obtain rfl : b17 = false := Bool.eq_false_iff.2 fun e => absurd (I.d17 e) (by simp)
      obtain rfl : b18 = false := Bool.eq_false_iff.2 fun e => absurd (I.d18 e) (by simp)
      obtain ⟨AI, cI, rfl, hv⟩ := I.k6 rfl
      refine op_callCyc h7 rfl ((Gkc.e134 _ _ _ _ _ _ _ _ _ _ _ _ _ hz).trans e134) ((Gkc.e135 _ _ _ _ _ _ _ _ _ _ _ _ _ hz).trans e135) (Gkc.e140 _ _ _ _ _ _ _ _ _ _ _ _ _ hz) (hcy w AI cI I.bel hv) fun v w' hr => ?_
      obtain ⟨gB, D1, D2, go, gn, g, rfl, hrs, hb⟩ := hr
      have J := I.next hRb hb
      exact ⟨b5, true, true, false, false, false, false, false, b13, b14, false, false, false, false, v20, v21, v22, v23, v133, v139, _, _, v142, v143, v144, v145, rfl, Gkc.p141 .., J.bel, J.k5, J.k6, fun _ => ⟨gB, D1, D2, go, gn, g, rfl, hrs, (fun e => by cases e), (fun e => by cases e), (fun e => by cases e), (fun e => by cases e), (fun e => by cases e), (fun e => by cases e), (fun e => by cases e), (fun e => by cases e), (fun e => by cases e)⟩, J.a13, J.a14, J.d6, fun _ => rfl, (fun e => by cases e), J.d9, J.d10, J.d11, J.d12, J.d15, J.d15a, J.d16, J.d16a, J.d17, J.d18⟩
    · obtain rfl : b8 = false := h0
      obtain rfl : b7 = true := dep_of h8 ho hall 7 (by decide)
      obtain rfl : b9 = false := Bool.eq_false_iff.2 fun e => absurd (I.d9 e) (by simp)
      obtain rfl : b10 = false := Bool.eq_false_iff.2 fun e => absurd (I.d10 e) (by simp)
      obtain rfl : b11 = false := Bool.eq_false_iff.2 fun e => absurd (I.d11 e) (by simp)
      obtain rfl : b12 = false := Bool.eq_false_iff.2 fun e => absurd (I.d12 e) (by simp)
      obtain rfl : b15 = false := Bool.eq_false_iff.2 fun e => absurd (I.d15 e) (by simp)
      obtain rfl : b16 = false := Bool.eq_false_iff.2 fun e => absurd (I.d16 e) (by simp)
      obtain rfl : b17 = false := Bool.eq_false_iff.2 fun e => absurd (I.d17 e) (by simp)
      obtain rfl : b18 = false := Bool.eq_false_iff.2 fun e => absurd (I.d18 e) (by simp)
      obtain ⟨gB, D1, D2, go, gn, g, h1', h2', h3', h4', h5', h6', h7', h8', h9', h10', h11'⟩ := I.k7 rfl
      refine op_move h8 rfl ((Gkc.e141 _ _ _ _ _ _ _ _ _ _ _ _ _ hz).trans h1') ?_
      exact ⟨b5, b6, true, true, false, false, false, false, b13, b14, false, false, false, false, v20, v21, v22, v23, _, v139, v140, v141, v142, v143, v144, v145, rfl, Gkc.p133 .., I.bel, I.k5, I.k6, fun _ => ⟨gB, D1, D2, go, gn, g, h1', h2', fun _ => rfl, h4', h5', h6', h7', h8', h9', h10', h11'⟩, I.a13, I.a14, I.d6, I.d7, fun _ => rfl, (fun e => by cases e), (fun e => by cases e), (fun e => by cases e), (fun e => by cases e), I.d15, I.d15a, I.d16, I.d16a, I.d17, I.d18⟩
    · obtain rfl : b9 = false := h0
      obtain rfl : b8 = true := dep_of h9 ho hall 8 (by decide)
      obtain rfl : b15 = false := Bool.eq_false_iff.2 fun e => absurd (I.d15 e) (by simp)
      obtain rfl : b7 = true := I.d8 rfl
      obtain ⟨gB, D1, D2, go, gn, g, h1', h2', h3', h4', h5', h6', h7', h8', h9', h10', h11'⟩ := I.k7 rfl
      refine op_extract0 h9 rfl ((Gkc.e133 _ _ _ _ _ _ _ _ _ _ _ _ _ hz).trans (h3' rfl)) ?_
      exact ⟨b5, b6, true, true, true, b10, b11, b12, b13, b14, false, b16, b17, b18, v20, v21, v22, v23, v133, v139, v140, v141, _, v143, v144, v145, rfl, Gkc.p142 .., I.bel, I.k5, I.k6, fun _ => ⟨gB, D1, D2, go, gn, g, h1', h2', h3', fun _ => rfl, h5', h6', h7', h8', h9', h10', h11'⟩, I.a13, I.a14, I.d6, I.d7, I.d8, fun _ => rfl, I.d10, I.d11, I.d12, (fun e => by cases e), (fun e => by cases e), I.d16, I.d16a, I.d17, I.d18⟩
    · obtain rfl : b10 = false := h0
      obtain rfl : b8 = true := dep_of h10 ho hall 8 (by decide)
      obtain rfl : b16 = false := Bool.eq_false_iff.2 fun e => absurd (I.d16 e) (by simp)
      obtain rfl : b7 = true := I.d8 rfl
      obtain ⟨gB, D1, D2, go, gn, g, h1', h2', h3', h4', h5', h6', h7', h8', h9', h10', h11'⟩ := I.k7 rfl
      refine op_extract1 h10 rfl ((Gkc.e133 _ _ _ _ _ _ _ _ _ _ _ _ _ hz).trans (h3' rfl)) ?_
      exact ⟨b5, b6, true, true, b9, true, b11, b12, b13, b14, b15, false, b17, b18, v20, v21, v22, v23, v133, v139, v140, v141, v142, _, v144, v145, rfl, Gkc.p143 .., I.bel, I.k5, I.k6, fun _ => ⟨gB, D1, D2, go, gn, g, h1', h2', h3', h4', fun _ => rfl, h6', h7', h8', h9', h10', h11'⟩, I.a13, I.a14, I.d6, I.d7, I.d8, I.d9, fun _ => rfl, I.d11, I.d12, I.d15, I.d15a, (fun e => by cases e), (fun e => by cases e), I.d17, I.d18⟩
    · obtain rfl : b11 = false := h0
      obtain rfl : b8 = true := dep_of h11 ho hall 8 (by decide)
      obtain rfl : b17 = false := Bool.eq_false_iff.2 fun e => absurd (I.d17 e) (by simp)
      obtain rfl : b7 = true := I.d8 rfl
      obtain ⟨gB, D1, D2, go, gn, g, h1', h2', h3', h4', h5', h6', h7', h8', h9', h10', h11'⟩ := I.k7 rfl
      refine op_extract2 h11 rfl ((Gkc.e133 _ _ _ _ _ _ _ _ _ _ _ _ _ hz).trans (h3' rfl)) ?_
      exact ⟨b5, b6, true, true, b9, b10, true, b12, b13, b14, b15, b16, false, b18, v20, v21, v22, v23, v133, v139, v140, v141, v142, v143, _, v145, rfl, Gkc.p144 .., I.bel, I.k5, I.k6, fun _ => ⟨gB, D1, D2, go, gn, g, h1', h2', h3', h4', h5', fun _ => rfl, h7', h8', h9', h10', h11'⟩, I.a13, I.a14, I.d6, I.d7, I.d8, I.d9, I.d10, fun _ => rfl, I.d12, I.d15, I.d15a, I.d16, I.d16a, (fun e => by cases e), I.d18⟩
    · obtain rfl : b12 = false := h0
      obtain rfl : b8 = true := dep_of h12 ho hall 8 (by decide)
      obtain rfl : b18 = false := Bool.eq_false_iff.2 fun e => absurd (I.d18 e) (by simp)
      obtain rfl : b7 = true := I.d8 rfl
      obtain ⟨gB, D1, D2, go, gn, g, h1', h2', h3', h4', h5', h6', h7', h8', h9', h10', h11'⟩ := I.k7 rfl
      refine op_extract3 h12 rfl ((Gkc.e133 _ _ _ _ _ _ _ _ _ _ _ _ _ hz).trans (h3' rfl)) ?_
      exact ⟨b5, b6, true, true, b9, b10, b11, true, b13, b14, b15, b16, b17, false, v20, v21, v22, v23, v133, v139, v140, v141, v142, v143, v144, _, rfl, Gkc.p145 .., I.bel, I.k5, I.k6, fun _ => ⟨gB, D1, D2, go, gn, g, h1', h2', h3', h4', h5', h6', fun _ => rfl, h8', h9', h10', h11'⟩, I.a13, I.a14, I.d6, I.d7, I.d8, I.d9, I.d10, I.d11, fun _ => rfl, I.d15, I.d15a, I.d16, I.d16a, I.d17, (fun e => by cases e)⟩
    · obtain rfl : b13 = false := h0
      obtain rfl : b15 = false := Bool.eq_false_iff.2 fun e => absurd (I.d15a e) (by simp)
      refine op_allocS h13 rfl fun q w' lx hg hll hX hb => ?_
      have J := I.next hRb hb
      exact ⟨b5, b6, b7, b8, b9, b10, b11, b12, true, b14, false, b16, b17, b18, _, v21, v22, v23, v133, v139, v140, v141, v142, v143, v144, v145, rfl, Gkc.p20 .., J.bel, J.k5, J.k6, fun e => (by obtain ⟨gB, D1, D2, go, gn, g, h1, h2, h3, h4, h5, h6, h7, h8, h9, h10, h11⟩ := J.k7 e; exact ⟨gB, D1, D2, go, gn, g, h1, h2, h3, h4, h5, h6, h7, fun e => (by cases e), h9, h10, h11⟩), fun _ _ => ⟨q, lx, rfl, hg ▸ Below.size I.bel, hll, hX⟩, J.a14, J.d6, J.d7, J.d8, J.d9, J.d10, J.d11, J.d12, (fun e => by cases e), (fun e => by cases e), J.d16, J.d16a, J.d17, J.d18⟩
    · obtain rfl : b14 = false := h0
      obtain rfl : b16 = false := Bool.eq_false_iff.2 fun e => absurd (I.d16a e) (by simp)
      refine op_allocR h14 rfl fun q w' lx hg hll hX hb => ?_
      have J := I.next hRb hb
      exact ⟨b5, b6, b7, b8, b9, b10, b11, b12, b13, true, b15, false, b17, b18, v20, _, v22, v23, v133, v139, v140, v141, v142, v143, v144, v145, rfl, Gkc.p21 .., J.bel, J.k5, J.k6, fun e => (by obtain ⟨gB, D1, D2, go, gn, g, h1, h2, h3, h4, h5, h6, h7, h8, h9, h10, h11⟩ := J.k7 e; exact ⟨gB, D1, D2, go, gn, g, h1, h2, h3, h4, h5, h6, h7, h8, fun e => (by cases e), h10, h11⟩), J.a13, fun _ _ => ⟨q, lx, rfl, hg ▸ Below.size I.bel, hll, hX⟩, J.d6, J.d7, J.d8, J.d9, J.d10, J.d11, J.d12, J.d15, J.d15a, (fun e => by cases e), (fun e => by cases e), J.d17, J.d18⟩
    · obtain rfl : b15 = false := h0
      obtain rfl : b9 = true := dep_of h15 ho hall 9 (by decide)
      obtain rfl : b13 = true := dep_of h15 ho hall 13 (by decide)
      obtain rfl : b8 = true := I.d9 rfl
      obtain rfl : b7 = true := I.d8 rfl
      obtain rfl : b6 = true := I.d7 rfl
      obtain rfl : b5 = true := I.d6 rfl
      obtain ⟨gB, D1, D2, go, gn, g, h1', h2', h3', h4', h5', h6', h7', h8', h9', h10', h11'⟩ := I.k7 rfl
      obtain ⟨q, lx, rfl, hq, hll, hX⟩ := I.a13 rfl rfl
      refine op_storeS h15 rfl q lx (some ⟨gB, 0, none⟩) (some ⟨D1, 0, none⟩) (some ⟨D2, 0, none⟩) ns m m ns m m (Gkc.e20 _ _ _ _ _ _ _ _ _ _ _ _ _ hz) ((Gkc.e142 _ _ _ _ _ _ _ _ _ _ _ _ _ hz).trans (h4' rfl)) hll hX ?_
      have hx1 := hX.set 0 (.slice (some ⟨gB, 0, none⟩) ns ns)
      have hx2 := hx1.set 1 (.slice (some ⟨D1, 0, none⟩) m m)
      have hx3 := hx2.set 2 (.slice (some ⟨D2, 0, none⟩) m m)
      have hb3 : BelW wb _ := ((I.bel.set (a := ⟨q, 0, none⟩) hq (.slice (some ⟨gB, 0, none⟩) ns ns)).set (a := ⟨q, 1, none⟩) hq (.slice (some ⟨D1, 0, none⟩) m m)).set (a := ⟨q, 2, none⟩) hq (.slice (some ⟨D2, 0, none⟩) m m)
      have hrs3 := hRs _ _ _ _ _ _ _ _ _ _ (.inl rfl) (hRs _ _ _ _ _ _ _ _ _ _ (.inl rfl) (hRs _ _ _ _ _ _ _ _ _ _ (.inl rfl) h2' hX 0 (.slice (some ⟨gB, 0, none⟩) ns ns)) hx1 1 (.slice (some ⟨D1, 0, none⟩) m m)) hx2 2 (.slice (some ⟨D2, 0, none⟩) m m)
      have hoth : ∀ {p : Nat} {l : List Value}, Fr w p 49 l → Fr (((w.setCell ⟨q, 0, none⟩ (.slice (some ⟨gB, 0, none⟩) ns ns)).setCell ⟨q, 1, none⟩ (.slice (some ⟨D1, 0, none⟩) m m)).setCell ⟨q, 2, none⟩ (.slice (some ⟨D2, 0, none⟩) m m)) p 49 l := fun hf => by
        have hne := hX.apart9 hf (by decide)
        exact ((hf.other (a := ⟨q, 0, none⟩) hne _).other (a := ⟨q, 1, none⟩) hne _).other (a := ⟨q, 2, none⟩) hne _
      have hvs : ∀ {v : Value} {l : List Int}, VStk w wb.heap.size v l → VStk (((w.setCell ⟨q, 0, none⟩ (.slice (some ⟨gB, 0, none⟩) ns ns)).setCell ⟨q, 1, none⟩ (.slice (some ⟨D1, 0, none⟩) m m)).setCell ⟨q, 2, none⟩ (.slice (some ⟨D2, 0, none⟩) m m)) wb.heap.size v l := fun hf => ((hf.setF hX (by decide) 0 _).setF hx1 (by decide) 1 _).setF hx2 (by decide) 2 _
      match lx, hll with
      | [_, _, _], _ =>
      exact ⟨true, true, true, true, true, b10, b11, b12, true, b14, true, b16, b17, b18, _, v21, v22, v23, v133, v139, v140, v141, v142, v143, v144, v145, rfl, rfl, hb3, fun e => (by obtain ⟨x1, x2, x3, x4, h1, h2⟩ := I.k5 e; exact ⟨x1, x2, x3, x4, h1, hvs h2⟩), fun e => (by obtain ⟨x1, x2, h1, h2⟩ := I.k6 e; exact ⟨x1, x2, h1, hvs h2⟩), fun _ => ⟨gB, D1, D2, go, gn, g, h1', hrs3, h3', h4', h5', h6', h7', fun _ => ⟨q, rfl, hq, hx3⟩, fun e => (by obtain ⟨p, p1, p2, p3⟩ := h9' e; exact ⟨p, p1, p2, hoth p3⟩), h10', h11'⟩, fun _ e => (by cases e), fun e e' => (by obtain ⟨p, lx, p1, p2, p3, p4⟩ := I.a14 e e'; exact ⟨p, lx, p1, p2, p3, hoth p4⟩), I.d6, I.d7, I.d8, I.d9, I.d10, I.d11, I.d12, fun _ => rfl, fun _ => rfl, I.d16, I.d16a, I.d17, I.d18⟩
    · obtain rfl : b16 = false := h0
      obtain rfl : b10 = true := dep_of h16 ho hall 10 (by decide)
      obtain rfl : b14 = true := dep_of h16 ho hall 14 (by decide)
      obtain rfl : b8 = true := I.d10 rfl
      obtain rfl : b7 = true := I.d8 rfl
      obtain rfl : b6 = true := I.d7 rfl
      obtain rfl : b5 = true := I.d6 rfl
      obtain ⟨gB, D1, D2, go, gn, g, h1', h2', h3', h4', h5', h6', h7', h8', h9', h10', h11'⟩ := I.k7 rfl
      obtain ⟨q, lx, rfl, hq, hll, hX⟩ := I.a14 rfl rfl
      refine op_storeR h16 rfl q lx (some ⟨go, 0, none⟩) (some ⟨gn, 0, none⟩) n3 ns n3 ns (Gkc.e21 _ _ _ _ _ _ _ _ _ _ _ _ _ hz) ((Gkc.e143 _ _ _ _ _ _ _ _ _ _ _ _ _ hz).trans (h5' rfl)) hll hX ?_
      have hx1 := hX.set 0 (.slice (some ⟨go, 0, none⟩) n3 n3)
      have hx2 := hx1.set 1 (.slice (some ⟨gn, 0, none⟩) ns ns)
      have hb3 : BelW wb _ := (I.bel.set (a := ⟨q, 0, none⟩) hq (.slice (some ⟨go, 0, none⟩) n3 n3)).set (a := ⟨q, 1, none⟩) hq (.slice (some ⟨gn, 0, none⟩) ns ns)
      have hrs3 := hRs _ _ _ _ _ _ _ _ _ _ (.inr rfl) (hRs _ _ _ _ _ _ _ _ _ _ (.inr rfl) h2' hX 0 (.slice (some ⟨go, 0, none⟩) n3 n3)) hx1 1 (.slice (some ⟨gn, 0, none⟩) ns ns)
      have hoth : ∀ {p : Nat} {l : List Value}, Fr w p 45 l → Fr ((w.setCell ⟨q, 0, none⟩ (.slice (some ⟨go, 0, none⟩) n3 n3)).setCell ⟨q, 1, none⟩ (.slice (some ⟨gn, 0, none⟩) ns ns)) p 45 l := fun hf => by
        have hne := hX.apart9 hf (by decide)
        exact (hf.other (a := ⟨q, 0, none⟩) hne _).other (a := ⟨q, 1, none⟩) hne _
      have hvs : ∀ {v : Value} {l : List Int}, VStk w wb.heap.size v l → VStk ((w.setCell ⟨q, 0, none⟩ (.slice (some ⟨go, 0, none⟩) n3 n3)).setCell ⟨q, 1, none⟩ (.slice (some ⟨gn, 0, none⟩) ns ns)) wb.heap.size v l := fun hf => (hf.setF hX (by decide) 0 _).setF hx1 (by decide) 1 _
      match lx, hll with
      | [_, _], _ =>
      exact ⟨true, true, true, true, b9, true, b11, b12, b13, true, b15, true, b17, b18, v20, _, v22, v23, v133, v139, v140, v141, v142, v143, v144, v145, rfl, rfl, hb3, fun e => (by obtain ⟨x1, x2, x3, x4, h1, h2⟩ := I.k5 e; exact ⟨x1, x2, x3, x4, h1, hvs h2⟩), fun e => (by obtain ⟨x1, x2, h1, h2⟩ := I.k6 e; exact ⟨x1, x2, h1, hvs h2⟩), fun _ => ⟨gB, D1, D2, go, gn, g, h1', hrs3, h3', h4', h5', h6', h7', fun e => (by obtain ⟨p, p1, p2, p3⟩ := h8' e; exact ⟨p, p1, p2, hoth p3⟩), fun _ => ⟨q, rfl, hq, hx2⟩, h10', h11'⟩, fun e e' => (by obtain ⟨p, lx, p1, p2, p3, p4⟩ := I.a13 e e'; exact ⟨p, lx, p1, p2, p3, hoth p4⟩), fun _ e => (by cases e), I.d6, I.d7, I.d8, I.d9, I.d10, I.d11, I.d12, I.d15, I.d15a, fun _ => rfl, fun _ => rfl, I.d17, I.d18⟩
    · obtain rfl : b17 = false := h0
      obtain rfl : b11 = true := dep_of h17 ho hall 11 (by decide)
      obtain rfl : b8 = true := I.d11 rfl
      obtain rfl : b7 = true := I.d8 rfl
      obtain ⟨gB, D1, D2, go, gn, g, h1', h2', h3', h4', h5', h6', h7', h8', h9', h10', h11'⟩ := I.k7 rfl
      refine op_assign h17 rfl ((Gkc.e144 _ _ _ _ _ _ _ _ _ _ _ _ _ hz).trans (h6' rfl)) ?_
      exact ⟨b5, b6, true, true, b9, b10, true, b12, b13, b14, b15, b16, true, b18, v20, v21, _, v23, v133, v139, v140, v141, v142, v143, v144, v145, rfl, Gkc.p22 .., I.bel, I.k5, I.k6, fun _ => ⟨gB, D1, D2, go, gn, g, h1', h2', h3', h4', h5', h6', h7', h8', h9', fun _ => rfl, h11'⟩, I.a13, I.a14, I.d6, I.d7, I.d8, I.d9, I.d10, I.d11, I.d12, I.d15, I.d15a, I.d16, I.d16a, fun _ => rfl, I.d18⟩
    · obtain rfl : b18 = false := h0
      obtain rfl : b12 = true := dep_of h18 ho hall 12 (by decide)
      obtain rfl : b8 = true := I.d12 rfl
      obtain rfl : b7 = true := I.d8 rfl
      obtain ⟨gB, D1, D2, go, gn, g, h1', h2', h3', h4', h5', h6', h7', h8', h9', h10', h11'⟩ := I.k7 rfl
      refine op_assign h18 rfl ((Gkc.e145 _ _ _ _ _ _ _ _ _ _ _ _ _ hz).trans (h7' rfl)) ?_
      exact ⟨b5, b6, true, true, b9, b10, b11, true, b13, b14, b15, b16, b17, true, v20, v21, v22, _, v133, v139, v140, v141, v142, v143, v144, v145, rfl, Gkc.p23 .., I.bel, I.k5, I.k6, fun _ => ⟨gB, D1, D2, go, gn, g, h1', h2', h3', h4', h5', h6', h7', h8', h9', h10', fun _ => rfl⟩, I.a13, I.a14, I.d6, I.d7, I.d8, I.d9, I.d10, I.d11, I.d12, I.d15, I.d15a, I.d16, I.d16a, I.d17, fun _ => rfl⟩
  · rintro l a w ⟨b5, b6, b7, b8, b9, b10, b11, b12, b13, b14, b15, b16, b17, b18, v20, v21, v22, v23, v133, v139, v140, v141, v142, v143, v144, v145, rfl, rfl, I⟩ hr
    have hs : (#[true, true, true, true, true, b5, b6, b7, b8, b9, b10, b11, b12, b13, b14, b15, b16, b17, b18] : Array Bool).size = ops.size := by rw [hsz]; rfl
    obtain rfl : b5 = true := all_upB hea hs hr 5 (by omega)
    obtain rfl : b6 = true := all_upB hea hs hr 6 (by omega)
    obtain rfl : b7 = true := all_upB hea hs hr 7 (by omega)
    obtain rfl : b8 = true := all_upB hea hs hr 8 (by omega)
    obtain rfl : b9 = true := all_upB hea hs hr 9 (by omega)
    obtain rfl : b10 = true := all_upB hea hs hr 10 (by omega)
    obtain rfl : b11 = true := all_upB hea hs hr 11 (by omega)
    obtain rfl : b12 = true := all_upB hea hs hr 12 (by omega)
    obtain rfl : b13 = true := all_upB hea hs hr 13 (by omega)
    obtain rfl : b14 = true := all_upB hea hs hr 14 (by omega)
    obtain rfl : b15 = true := all_upB hea hs hr 15 (by omega)
    obtain rfl : b16 = true := all_upB hea hs hr 16 (by omega)
    obtain rfl : b17 = true := all_upB hea hs hr 17 (by omega)
    obtain rfl : b18 = true := all_upB hea hs hr 18 (by omega)
    exact hQ _ _ _ _ _ _ _ _ _ _ _ _ _ I
  · exact ⟨false, false, false, false, false, false, false, false, false, false, false, false, false, false, undef, undef, undef, undef, undef, undef, undef, undef, undef, undef, undef, undef, rfl, hfr, hw, fun e => (by cases e), fun e => (by cases e), fun e => (by cases e), fun e => (by cases e), fun e => (by cases e), fun e => (by cases e), fun e => (by cases e), fun e => (by cases e), fun e => (by cases e), fun e => (by cases e), fun e => (by cases e), fun e => (by cases e), fun e => (by cases e), fun e => (by cases e), fun e => (by cases e), fun e => (by cases e), fun e => (by cases e), fun e => (by cases e)⟩
theorem r17_end {inp : List Int} {ni ns m n3 n : Nat} {RS : World → Nat → Nat → Nat → Nat → Nat → Nat → Prop} {wb : World} {v20 v21 v22 v23 v133 v139 v140 v141 v142 v143 v144 v145 : Value} {w : World} (I : Ikc inp ni ns m n3 n RS wb true true true true true true true true true true true true true true v20 v21 v22 v23 v133 v139 v140 v141 v142 v143 v144 v145 w) : ∃ gB D1 D2 go gn g q p, v20 = .pointer (some ⟨q, 0, none⟩) ∧ v21 = .pointer (some ⟨p, 0, none⟩) ∧ v22 = .slice (some ⟨g, 0, none⟩) n n ∧ v23 = .int .i64 0 ∧ Fr w q 45 [.slice (some ⟨gB, 0, none⟩) ns ns, .slice (some ⟨D1, 0, none⟩) m m, .slice (some ⟨D2, 0, none⟩) m m] ∧ Fr w p 49 [.slice (some ⟨go, 0, none⟩) n3 n3, .slice (some ⟨gn, 0, none⟩) ns ns] ∧ RS w gB D1 D2 go gn g ∧ BelW wb w := by
  obtain ⟨gB, D1, D2, go, gn, g, h1', h2', h3', h4', h5', h6', h7', h8', h9', h10', h11'⟩ := I.k7 rfl
  obtain ⟨q, q1, q2, q3⟩ := h8' rfl
  obtain ⟨p, p1, p2, p3⟩ := h9' rfl
  exact ⟨gB, D1, D2, go, gn, g, q, p, q1, p1, h10' rfl, h11' rfl, q3, p3, h2', I.bel⟩
end Go.Proofs.YtkaedfgmhfefjaaGreatDoor
