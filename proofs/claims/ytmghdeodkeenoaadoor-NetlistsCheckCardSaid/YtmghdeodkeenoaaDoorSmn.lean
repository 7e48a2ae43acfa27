/- The library's EqualFunc at nodes and memories, and Same: sameNode and sameMemory. -/
import Derived.Test.YtmghdeodkeenoaaDoorEqs
import Derived.Test.YtmghdeodkeenoaaDoorChk
namespace Go.Proofs.YtmghdeodkeenoaaDoor
open Go.RowKit

def ndEq (x y : Nd) : Bool := x.kind == y.kind && x.mem == y.mem && x.bit == y.bit && decide (x.ins = y.ins)
def mmEq (x y : Mm) : Bool := x.write == y.write && decide (x.addr = y.addr) && decide (x.data = y.data)

set_option maxHeartbeats 1000000 in
theorem sameNode_any (x x' : Nd) (s s' : Value) (w : World) (B B' : Nat) (hB : B ≤ w.heap.size) (hB' : B' ≤ w.heap.size) (h : Is w B s x.ins) (h' : Is w B' s' x'.ins) :
    Calls Tryd.prog 57 #[.agg #[.int .u8 x.kind, s, .int .i64 x.mem, .int .i64 x.bit], .agg #[.int .u8 x'.kind, s', .int .i64 x'.mem, .int .i64 x'.bit]] w
      fun e w' => e = .returned (.bool (ndEq x x')) ∧ Below w.heap.size w w' := by
  obtain ⟨y, HY⟩ := named (ndEq x x')
  rw [← HY.out]
  have hy : ndEq x x' = (x.kind == x'.kind && x.mem == x'.mem && x.bit == x'.bit && decide (x.ins = x'.ins)) := rfl
  have hE : ∀ w1, Below w.heap.size w w1 → Calls Tryd.prog 61 #[s, s'] w1 fun e w' => e = .returned (.bool (decide (x.ins = x'.ins))) ∧ ∃ n, w' = w1.drewN n :=
    fun w1 hb => eqI_any _ _ _ _ w1 B B' (h.below (hb.mono hB)) (h'.below (hb.mono hB'))
  obtain ⟨A, b, o, c, rfl, -, -, -, -⟩ := h.opens
  obtain ⟨A', b', o', c', rfl, -, -, -, -⟩ := h'.opens
  have HE := Lib.hid hE
  clear hE h h'
  generalize decide (x.ins = x'.ins) = di at hy HE
  generalize x.ins.length = n at HE ⊢
  generalize x'.ins.length = n' at HE ⊢
  generalize x.kind = k at hy ⊢
  generalize x'.kind = k' at hy ⊢
  generalize x.mem = m at hy ⊢
  generalize x'.mem = m' at hy ⊢
  generalize x.bit = t at hy ⊢
  generalize x'.bit = t' at hy ⊢
  have HYY := Lib.hid hy
  clear hy
  cases h1 : k == k'
  · have H1 := Lib.hid h1
    go_enter Tryd.func57, Tryd.ntmps57
    go_wp2
    go_ret
    exact ⟨ret_bool (by rw [HY.out, HYY.out, H1.out]; rfl), ((Below.refl _ _).alloc (Nat.le_refl _) _).alloc (by simp) _⟩
  cases h2 : m == m'
  · have H1 := Lib.hid h1
    have H2 := Lib.hid h2
    go_enter Tryd.func57, Tryd.ntmps57
    go_wp2
    go_ret
    exact ⟨ret_bool (by rw [HY.out, HYY.out, H1.out, H2.out]; rfl), ((Below.refl _ _).alloc (Nat.le_refl _) _).alloc (by simp) _⟩
  cases h3 : t == t'
  · have H1 := Lib.hid h1
    have H2 := Lib.hid h2
    have H3 := Lib.hid h3
    go_enter Tryd.func57, Tryd.ntmps57
    go_wp2
    go_ret
    exact ⟨ret_bool (by rw [HY.out, HYY.out, H1.out, H2.out, H3.out]; rfl), ((Below.refl _ _).alloc (Nat.le_refl _) _).alloc (by simp) _⟩
  · have H1 := Lib.hid h1
    have H2 := Lib.hid h2
    have H3 := Lib.hid h3
    go_enter Tryd.func57, Tryd.ntmps57
    go_wp2_with (go_at_call 61; (with_reducible refine (HE.out _ (((Below.refl _ _).alloc (Nat.le_refl _) _).alloc (by simp) _)).mono ?_); rintro e w' ⟨rfl, q, rfl⟩)
    go_ret
    exact ⟨ret_bool (by rw [HY.out, HYY.out, H1.out, H2.out, H3.out]; rfl), below_drewN (((Below.refl _ _).alloc (Nat.le_refl _) _).alloc (by simp) _) _⟩
set_option maxHeartbeats 1000000 in
theorem sameMem_any (x x' : Mm) (s t s' t' : Value) (w : World) (B B' : Nat) (hB : B ≤ w.heap.size) (hB' : B' ≤ w.heap.size) (h : Is w B s x.addr) (hd : Is w B t x.data) (h' : Is w B' s' x'.addr) (hd' : Is w B' t' x'.data) :
    Calls Tryd.prog 60 #[.agg #[s, t, .int .i64 x.write], .agg #[s', t', .int .i64 x'.write]] w
      fun e w' => e = .returned (.bool (mmEq x x')) ∧ Below w.heap.size w w' := by
  obtain ⟨y, HY⟩ := named (mmEq x x')
  rw [← HY.out]
  have hy : mmEq x x' = (x.write == x'.write && decide (x.addr = x'.addr) && decide (x.data = x'.data)) := rfl
  have hE : ∀ w1, Below w.heap.size w w1 → Calls Tryd.prog 61 #[s, s'] w1 fun e w' => e = .returned (.bool (decide (x.addr = x'.addr))) ∧ ∃ n, w' = w1.drewN n :=
    fun w1 hb => eqI_any _ _ _ _ w1 B B' (h.below (hb.mono hB)) (h'.below (hb.mono hB'))
  have hF : ∀ w1, Below w.heap.size w w1 → Calls Tryd.prog 61 #[t, t'] w1 fun e w' => e = .returned (.bool (decide (x.data = x'.data))) ∧ ∃ n, w' = w1.drewN n :=
    fun w1 hb => eqI_any _ _ _ _ w1 B B' (hd.below (hb.mono hB)) (hd'.below (hb.mono hB'))
  obtain ⟨A, b, o, c, rfl, -, -, -, -⟩ := h.opens
  obtain ⟨A', b', o', c', rfl, -, -, -, -⟩ := h'.opens
  obtain ⟨D, p, r, d, rfl, -, -, -, -⟩ := hd.opens
  obtain ⟨D', p', r', d', rfl, -, -, -, -⟩ := hd'.opens
  have HE := Lib.hid hE
  have HF := Lib.hid hF
  clear hE hF h h' hd hd'
  generalize decide (x.addr = x'.addr) = di at hy HE
  generalize decide (x.data = x'.data) = dj at hy HF
  generalize x.addr.length = n at HE ⊢
  generalize x'.addr.length = n' at HE ⊢
  generalize x.data.length = l at HF ⊢
  generalize x'.data.length = l' at HF ⊢
  generalize x.write = k at hy ⊢
  generalize x'.write = k' at hy ⊢
  have HYY := Lib.hid hy
  clear hy
  cases h1 : k == k'
  · have H1 := Lib.hid h1
    go_enter Tryd.func60, Tryd.ntmps60
    go_wp2
    go_ret
    exact ⟨ret_bool (by rw [HY.out, HYY.out, H1.out]; rfl), ((Below.refl _ _).alloc (Nat.le_refl _) _).alloc (by simp) _⟩
  have H1 := Lib.hid h1
  cases di
  · go_enter Tryd.func60, Tryd.ntmps60
    go_wp2_with (go_at_call 61; (with_reducible refine (HE.out _ (((Below.refl _ _).alloc (Nat.le_refl _) _).alloc (by simp) _)).mono ?_); rintro e w' ⟨rfl, q, rfl⟩)
    go_ret
    exact ⟨ret_bool (by rw [HY.out, HYY.out, H1.out]; rfl), below_drewN (((Below.refl _ _).alloc (Nat.le_refl _) _).alloc (by simp) _) _⟩
  · go_enter Tryd.func60, Tryd.ntmps60
    go_wp2_with (go_at_call 61; (with_reducible first | refine (HE.out _ (((Below.refl _ _).alloc (Nat.le_refl _) _).alloc (by simp) _)).mono ?_ | refine (HF.out _ (below_drewN (((Below.refl _ _).alloc (Nat.le_refl _) _).alloc (by simp) _) _)).mono ?_); rintro e w' ⟨rfl, q, rfl⟩)
    go_ret
    exact ⟨ret_bool (by rw [HY.out, HYY.out, H1.out]; rfl), below_drewN (((Below.refl _ _).alloc (Nat.le_refl _) _).alloc (by simp) _) _⟩
end Go.Proofs.YtmghdeodkeenoaaDoor
