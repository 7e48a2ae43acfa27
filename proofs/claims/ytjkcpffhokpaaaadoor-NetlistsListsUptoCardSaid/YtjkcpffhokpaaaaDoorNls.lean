/- NetlistsLists: the law's walk. -/
import Derived.Test.YtjkcpffhokpaaaaDoorNlp
import Derived.Deep.DeepCutAuto
import Derived.Deep.CutBlock
import Derived.Deep.RegionHeld3
namespace Go.Proofs.YtjkcpffhokpaaaaDoor
open Go.RowKit

section
variable {c : Ck} {w w1 W : World} {q n n0 n1 n2 n3 m : Nat} {A0 A1 A2 A3 : Option Addr} {c0 c1 c2 c3 : Nat} {kl : List Int}
theorem fan_n (hn : n = c.nodes.length) (hs : Small c) (hp : (nodP c.nodes c.nodes.length).length ≤ 1000000000000) (h : LC c w q A0 A1 A2 A3 n0 n1 n2 n3 c0 c1 c2 c3 w1) (hb : Below w1.heap.size w1 W) : Calls Tryd.prog 24 #[.agg #[.slice A0 n0 c0, .slice A1 n1 c1, .slice A2 n2 c2, .slice A3 n3 c3]] W
    fun e w' => (∃ g, e = .returned (.slice (some ⟨g, 0, none⟩) n n) ∧ Fos w' w'.heap.size (.slice (some ⟨g, 0, none⟩) n n) (fanL c.nodes)) ∧ Below w1.heap.size w1 w' ∧ LC c w q A0 A1 A2 A3 n0 n1 n2 n3 c0 c1 c2 c3 w' := by
  subst hn; exact fan_c hs hp h hb
theorem of_n (hn : n = c.nodes.length) (hm : m = (ofTo c.nodes kl n).length) (hs : Small c) (h : LC c w q A0 A1 A2 A3 n0 n1 n2 n3 c0 c1 c2 c3 w1) (hb : Below w1.heap.size w1 W) {s : Value} (hk : Ks W W.heap.size s kl) : Calls Tryd.prog 26 #[.agg #[.slice A0 n0 c0, .slice A1 n1 c1, .slice A2 n2 c2, .slice A3 n3 c3], s] W
    fun e w' => (∃ A, e = .returned (.slice A m m) ∧ Is w' w'.heap.size (.slice A m m) (ofTo c.nodes kl n)) ∧ Below w1.heap.size w1 w' ∧ LC c w q A0 A1 A2 A3 n0 n1 n2 n3 c0 c1 c2 c3 w' := by
  subst hn hm; exact ofk_c hs h hb hk
theorem ins_n (hn : n = c.nodes.length) (hm : m = (ofTo c.nodes [0] n).length) (hs : Small c) (h : LC c w q A0 A1 A2 A3 n0 n1 n2 n3 c0 c1 c2 c3 w1) (hb : Below w1.heap.size w1 W) : Calls Tryd.prog 28 #[.agg #[.slice A0 n0 c0, .slice A1 n1 c1, .slice A2 n2 c2, .slice A3 n3 c3]] W
    fun e w' => (∃ A, e = .returned (.slice A m m) ∧ Is w' w'.heap.size (.slice A m m) (ofTo c.nodes [0] n)) ∧ Below w1.heap.size w1 w' ∧ LC c w q A0 A1 A2 A3 n0 n1 n2 n3 c0 c1 c2 c3 w' := by
  subst hn hm; exact ins_c hs h hb
theorem sts_n (hn : n = c.nodes.length) (hm : m = (ofTo c.nodes [14] n).length) (hs : Small c) (h : LC c w q A0 A1 A2 A3 n0 n1 n2 n3 c0 c1 c2 c3 w1) (hb : Below w1.heap.size w1 W) : Calls Tryd.prog 29 #[.agg #[.slice A0 n0 c0, .slice A1 n1 c1, .slice A2 n2 c2, .slice A3 n3 c3]] W
    fun e w' => (∃ A, e = .returned (.slice A m m) ∧ Is w' w'.heap.size (.slice A m m) (ofTo c.nodes [14] n)) ∧ Below w1.heap.size w1 w' ∧ LC c w q A0 A1 A2 A3 n0 n1 n2 n3 c0 c1 c2 c3 w' := by
  subst hn hm; exact sts_c hs h hb
theorem rof_n (hn : n = c.nodes.length) (hs : Small c) (kd : Int) (h : LC c w q A0 A1 A2 A3 n0 n1 n2 n3 c0 c1 c2 c3 w1) (hb : Below w1.heap.size w1 W) : Calls Tryd.prog 27 #[.agg #[.slice A0 n0 c0, .slice A1 n1 c1, .slice A2 n2 c2, .slice A3 n3 c3], .int .u8 kd] W
    fun e w' => (∃ s, e = .returned s ∧ Is w' w'.heap.size s (ofTo c.nodes [kd] n)) ∧ Below w1.heap.size w1 w' ∧ LC c w q A0 A1 A2 A3 n0 n1 n2 n3 c0 c1 c2 c3 w' := by
  subst hn; exact rof_c hs kd h hb
theorem ris_n (hn : n = c.nodes.length) (x : Int) (h : LC c w q A0 A1 A2 A3 n0 n1 n2 n3 c0 c1 c2 c3 w1) (hb : Below w1.heap.size w1 W) : Calls Tryd.prog 30 #[.agg #[.slice A0 n0 c0, .slice A1 n1 c1, .slice A2 n2 c2, .slice A3 n3 c3], .int .i64 x] W
    fun e w' => e = .returned (.bool (isIdx n x)) ∧ Below w1.heap.size w1 w' ∧ LC c w q A0 A1 A2 A3 n0 n1 n2 n3 c0 c1 c2 c3 w' := by
  subst hn; exact ris_c x h hb
theorem ris_y {y : Bool} {x : Int} (hy : y = isIdx n x) (hn : n = c.nodes.length) (h : LC c w q A0 A1 A2 A3 n0 n1 n2 n3 c0 c1 c2 c3 w1) (hb : Below w1.heap.size w1 W) : Calls Tryd.prog 30 #[.agg #[.slice A0 n0 c0, .slice A1 n1 c1, .slice A2 n2 c2, .slice A3 n3 c3], .int .i64 x] W
    fun e w' => e = .returned (.bool y) ∧ Below w1.heap.size w1 w' ∧ LC c w q A0 A1 A2 A3 n0 n1 n2 n3 c0 c1 c2 c3 w' := by
  subst hy; exact ris_n hn x h hb
theorem int_n {l : List Int} (hm : m = l.length) (h : LC c w q A0 A1 A2 A3 n0 n1 n2 n3 c0 c1 c2 c3 w1) (hb : Below w1.heap.size w1 W) {A : Option Addr} {s : Value} (hi : Is w1 w1.heap.size (.slice A m m) l) (hs : Is w1 w1.heap.size s l) :
    Calls Tryd.prog 25 #[.slice A m m, s] W fun e w' => e = .returned (.int .i64 0) ∧ Below w1.heap.size w1 w' ∧ LC c w q A0 A1 A2 A3 n0 n1 n2 n3 c0 c1 c2 c3 w' := by
  subst hm; exact int_c h hb (hi.on hb) (hs.on hb)

theorem rfan_s {L : List (Int × Int × Int)} {j : Nat} (hn : n = c.nodes.length) (hL : L = nodP c.nodes c.nodes.length) (hm : m = (fan L j).length) (hp : (nodP c.nodes c.nodes.length).length ≤ 1000000000000) (h : LC c w q A0 A1 A2 A3 n0 n1 n2 n3 c0 c1 c2 c3 w1) (hb : Below w1.heap.size w1 W) : Calls Tryd.prog 31 #[.agg #[.slice A0 n0 c0, .slice A1 n1 c1, .slice A2 n2 c2, .slice A3 n3 c3], .int .i64 (j : Int)] W
    fun e w' => (∃ A cc, e = .returned (.slice A m cc) ∧ Lns w' w'.heap.size (.slice A m cc) (fan L j)) ∧ Below w1.heap.size w1 w' ∧ LC c w q A0 A1 A2 A3 n0 n1 n2 n3 c0 c1 c2 c3 w' := by
  subst hn hL hm
  refine (rfan_c j hp h hb).mono fun e w' ⟨⟨s, h1, h2⟩, h3, h4⟩ => ?_
  obtain ⟨A, b, o, cc, rfl, -⟩ := id h2
  exact ⟨⟨A, cc, h1, h2⟩, h3, h4⟩
/-- What stands in the loops: the argument, and the fanouts that Fanout gave. -/
def NS (c : Ck) (w : World) (q : Nat) (A0 A1 A2 A3 : Option Addr) (n0 n1 n2 n3 c0 c1 c2 c3 g n : Nat) (wr : World) : Prop :=
  LC c w q A0 A1 A2 A3 n0 n1 n2 n3 c0 c1 c2 c3 wr ∧ Fos wr wr.heap.size (.slice (some ⟨g, 0, none⟩) n n) (fanL c.nodes)
theorem NS.next {g : Nat} (h : NS c w q A0 A1 A2 A3 n0 n1 n2 n3 c0 c1 c2 c3 g n w1) (hb : Below w1.heap.size w1 W) : NS c w q A0 A1 A2 A3 n0 n1 n2 n3 c0 c1 c2 c3 g n W := ⟨h.1.next hb, h.2.on hb⟩
theorem NS.lc {g : Nat} (h : NS c w q A0 A1 A2 A3 n0 n1 n2 n3 c0 c1 c2 c3 g n w1) : LC c w q A0 A1 A2 A3 n0 n1 n2 n3 c0 c1 c2 c3 w1 := h.1
theorem Lns.on {v : Value} {l : List (Int × Int)} (h : Lns w w.heap.size v l) (hb : Below w.heap.size w W) : Lns W W.heap.size v l := Arr.keep stays_ln h hb.size fun _ hp => hb.cell hp
theorem fos_row {B g : Nat} {nodes : List Nd} (hn : n = nodes.length) (h : Fos w B (.slice (some ⟨g, 0, none⟩) n n) (fanL nodes)) {k : Nat} (hk : k < n) :
    ∃ A m, m = (fan (nodP nodes nodes.length) k).length ∧ w.cell? ⟨g, k, none⟩ = some (.slice A m m) ∧ Lns w B (.slice A m m) (fan (nodP nodes nodes.length) k) ∧ g < B := by
  obtain ⟨A, b, o, c', e1, hA, -, -, hc⟩ := h
  have hlen : (fanL nodes).length = nodes.length := by simp [fanL]
  simp only [Value.slice.injEq] at e1
  obtain ⟨rfl, h1, rfl⟩ := e1
  have := hA (by omega)
  simp only [Option.some.injEq, Addr.mk.injEq, and_true] at this
  obtain ⟨rfl, rfl⟩ := this
  obtain ⟨h1, A', h2, h3⟩ := hc k (by omega)
  rw [Nat.zero_add, Nat.mul_one] at h2
  have e : (fanL nodes).getD k [] = fan (nodP nodes nodes.length) k := by
    have : k < nodes.length := by omega
    simp [fanL, this, List.getD_eq_getElem?_getD]
  rw [e] at h2 h3
  exact ⟨A', _, rfl, h2, h3, h1⟩
theorem lns_at {B k : Nat} {A : Option Addr} {cc : Nat} {l : List (Int × Int)} (h : Lns w B (.slice A m cc) l) (hk : k < l.length) :
    ∃ b o, A = some ⟨b, o, none⟩ ∧ b < B ∧ w.cell? ⟨b, o + k * 2, none⟩ = some (.int .i64 (l.getD k (0, 0)).1) ∧ w.cell? ⟨b, o + k * 2 + 1, none⟩ = some (.int .i64 (l.getD k (0, 0)).2) := by
  obtain ⟨A', b, o, c', e1, hA, -, -, hc⟩ := h
  simp only [Value.slice.injEq] at e1
  obtain ⟨rfl, -, rfl⟩ := e1
  obtain ⟨h1, h2, h3⟩ := hc k hk
  exact ⟨b, o, hA (by omega), h1, h2, h3⟩
/-- A node's pins. -/
theorem pins_at (hn : n = c.nodes.length) (h : LC c w q A0 A1 A2 A3 n n1 n2 n3 c0 c1 c2 c3 w1) {k : Nat} (hk : k < n) :
    ∃ b o A4 c4 m, A0 = some ⟨b, o, none⟩ ∧ b < w1.heap.size ∧ m = (c.nodes.getD k default).ins.length ∧ m ≤ maxLen ∧ w1.cell? ⟨b, o + k * 4 + 1, none⟩ = some (.slice A4 m c4) ∧
      ∀ p, p < m → ∃ b4 o4, A4 = some ⟨b4, o4, none⟩ ∧ m ≤ c4 ∧ b4 < w1.heap.size ∧ w1.cell? ⟨b4, o4 + p, none⟩ = some (.int .i64 ((c.nodes.getD k default).ins.getD p 0)) := by
  obtain ⟨v0, v1, v2, v3, e, hns, -⟩ := h.all
  obtain ⟨A, b, o, cc, e0, hA, -, -, hc⟩ := hns
  simp only [Value.agg.injEq, Array.mk.injEq, List.cons.injEq, and_true] at e
  obtain ⟨e, -⟩ := e
  rw [← e] at e0
  simp only [Value.slice.injEq] at e0
  obtain ⟨rfl, h1, rfl⟩ := e0
  obtain ⟨hlb, s, g0, g1, g2, g3, g4, -⟩ := hc k (by omega)
  obtain ⟨A4, b4, o4, c4, rfl, hA4, hle, hm, hx⟩ := g4.opens
  exact ⟨b, o, A4, c4, _, hA (by omega), hlb, rfl, hm, g1, fun p hp => ⟨b4, o4, hA4 (by omega), hle, (hx p hp).1, (hx p hp).2⟩⟩
end

end Go.Proofs.YtjkcpffhokpaaaaDoor
