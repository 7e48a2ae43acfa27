/- The texts Sli Pan Pac. -/
import Derived.Test.YtcaikkfcjeojiaaDoorM03
import Derived.Deep.Slices
import Derived.Deep.Fields
import Derived.SliceStrings
import Derived.ChangeSame
import Derived.Test.YtcaikkfcjeojiaaDoorCards
import Derived.Test.YtcaikkfcjeojiaaDoorTie
import Derived.ProofKit
import Derived.OpenShut
import Derived.Deep.DeepHandedRow
import Derived.Lib.LaidTab
import Derived.Lib.SmallJoins
import Derived.MakeChecks
import Derived.Deep.Strs
namespace Go.Proofs.YtcaikkfcjeojiaaDoor
open Go.RowKit

/-- The slice value v reads as the list l: element k lies at cell o + k * sz of a block below B, as R says. -/
def Arr {α : Type} (d : α) (sz : Nat) (R : World → Nat → Nat → Nat → α → Prop) (w : World) (B : Nat) (v : Value) (l : List α) : Prop :=
  ∃ A b o c, v = .slice A l.length c ∧ (0 < l.length → A = some ⟨b, o, none⟩) ∧ l.length ≤ c ∧ l.length ≤ maxLen ∧ ∀ k, k < l.length → b < B ∧ R w B b (o + k * sz) (l.getD k d)
/-- R speaks of what lies below B alone. -/
def Stays {α : Type} (R : World → Nat → Nat → Nat → α → Prop) : Prop :=
  ∀ w w' B B' b p x, b < B → B ≤ B' → R w B b p x → (∀ q : Addr, q.block < B → w'.cell? q = w.cell? q) → R w' B' b p x
theorem Arr.keep {α : Type} {d : α} {sz : Nat} {R : World → Nat → Nat → Nat → α → Prop} (hR : Stays R) {w w' : World} {B B' : Nat} {v : Value} {l : List α} (h : Arr d sz R w B v l) (hB : B ≤ B') (hk : ∀ q : Addr, q.block < B → w'.cell? q = w.cell? q) : Arr d sz R w' B' v l := by
  obtain ⟨A, b, o, c, h1, h2, h3, h4, h5⟩ := h
  exact ⟨A, b, o, c, h1, h2, h3, h4, fun k hk' => ⟨Nat.lt_of_lt_of_le (h5 k hk').1 hB, hR _ _ _ _ _ _ _ (h5 k hk').1 hB (h5 k hk').2 hk⟩⟩
theorem Arr.nil {α : Type} (d : α) (sz : Nat) (R : World → Nat → Nat → Nat → α → Prop) (w : World) (B : Nat) : Arr d sz R w B (.slice none 0 0) [] :=
  ⟨none, 0, 0, 0, rfl, fun h => absurd h (by simp), by simp, by simp, fun k hk => absurd hk (by simp)⟩

def IntAt (w : World) (_B b p : Nat) (x : Int) : Prop := w.cell? ⟨b, p, none⟩ = some (.int .i64 x)
def StrAt (w : World) (_B b p : Nat) (x : ByteArray) : Prop := w.cell? ⟨b, p, none⟩ = some (.string x) ∧ x.size ≤ maxLen
def Is (w : World) (B : Nat) (v : Value) (l : List Int) : Prop := Arr 0 1 IntAt w B v l
def Ss (w : World) (B : Nat) (v : Value) (l : List ByteArray) : Prop := Arr ByteArray.empty 1 StrAt w B v l
def NdAt (w : World) (B b p : Nat) (x : Nd) : Prop :=
  ∃ s, w.cell? ⟨b, p, none⟩ = some (.int .u8 x.kind) ∧ w.cell? ⟨b, p + 1, none⟩ = some s ∧ w.cell? ⟨b, p + 2, none⟩ = some (.int .i64 x.mem) ∧ w.cell? ⟨b, p + 3, none⟩ = some (.int .i64 x.bit) ∧ Is w B s x.ins ∧ 0 ≤ x.kind ∧ x.kind ≤ 255
def MmAt (w : World) (B b p : Nat) (x : Mm) : Prop :=
  ∃ s t, w.cell? ⟨b, p, none⟩ = some s ∧ w.cell? ⟨b, p + 1, none⟩ = some t ∧ w.cell? ⟨b, p + 2, none⟩ = some (.int .i64 x.write) ∧ Is w B s x.addr ∧ Is w B t x.data
def Ns (w : World) (B : Nat) (v : Value) (l : List Nd) : Prop := Arr default 4 NdAt w B v l
def Ms (w : World) (B : Nat) (v : Value) (l : List Mm) : Prop := Arr default 3 MmAt w B v l
theorem stays_int : Stays IntAt := fun w w' B B' b p x hb hB h hk => (hk ⟨b, p, none⟩ hb).trans h
theorem stays_str : Stays StrAt := fun w w' B B' b p x hb hB h hk => ⟨(hk ⟨b, p, none⟩ hb).trans h.1, h.2⟩
theorem Is.keep {w w' : World} {B B' : Nat} {v : Value} {l : List Int} (h : Is w B v l) (hB : B ≤ B') (hk : ∀ q : Addr, q.block < B → w'.cell? q = w.cell? q) : Is w' B' v l := Arr.keep stays_int h hB hk
theorem stays_nd : Stays NdAt := fun w w' B B' b p x hb hB ⟨s, h0, h1, h2, h3, h4, h5, h6⟩ hk =>
  ⟨s, (hk ⟨b, p, none⟩ hb).trans h0, (hk ⟨b, p + 1, none⟩ hb).trans h1, (hk ⟨b, p + 2, none⟩ hb).trans h2, (hk ⟨b, p + 3, none⟩ hb).trans h3, h4.keep hB hk, h5, h6⟩
theorem stays_mm : Stays MmAt := fun w w' B B' b p x hb hB ⟨s, t, h0, h1, h2, h4, h5⟩ hk =>
  ⟨s, t, (hk ⟨b, p, none⟩ hb).trans h0, (hk ⟨b, p + 1, none⟩ hb).trans h1, (hk ⟨b, p + 2, none⟩ hb).trans h2, h4.keep hB hk, h5.keep hB hk⟩
theorem Ss.keep {w w' : World} {B B' : Nat} {v : Value} {l : List ByteArray} (h : Ss w B v l) (hB : B ≤ B') (hk : ∀ q : Addr, q.block < B → w'.cell? q = w.cell? q) : Ss w' B' v l := Arr.keep stays_str h hB hk
theorem Ns.keep {w w' : World} {B B' : Nat} {v : Value} {l : List Nd} (h : Ns w B v l) (hB : B ≤ B') (hk : ∀ q : Addr, q.block < B → w'.cell? q = w.cell? q) : Ns w' B' v l := Arr.keep stays_nd h hB hk
theorem Ms.keep {w w' : World} {B B' : Nat} {v : Value} {l : List Mm} (h : Ms w B v l) (hB : B ≤ B') (hk : ∀ q : Addr, q.block < B → w'.cell? q = w.cell? q) : Ms w' B' v l := Arr.keep stays_mm h hB hk
/-- v is the circuit x. -/
def Cir (w : World) (B : Nat) (v : Value) (x : Ck) : Prop :=
  ∃ v0 v1 v2 v3, v = .agg #[v0, v1, v2, v3] ∧ Ns w B v0 x.nodes ∧ Ss w B v1 x.names ∧ Ms w B v2 x.mems ∧ Is w B v3 x.outs
theorem Cir.keep {w w' : World} {B B' : Nat} {v : Value} {x : Ck} (h : Cir w B v x) (hB : B ≤ B') (hk : ∀ q : Addr, q.block < B → w'.cell? q = w.cell? q) : Cir w' B' v x := by
  obtain ⟨v0, v1, v2, v3, h0, h1, h2, h3, h4⟩ := h
  exact ⟨v0, v1, v2, v3, h0, h1.keep hB hk, h2.keep hB hk, h3.keep hB hk, h4.keep hB hk⟩
section
variable {w w' : World} {B B' : Nat} {v : Value}
theorem Is.below {l : List Int} (h : Is w B v l) (hb : Below B w w') : Is w' B v l := h.keep (Nat.le_refl _) fun _ hp => hb.cell hp
theorem Ss.below {l : List ByteArray} (h : Ss w B v l) (hb : Below B w w') : Ss w' B v l := h.keep (Nat.le_refl _) fun _ hp => hb.cell hp
theorem Ns.below {l : List Nd} (h : Ns w B v l) (hb : Below B w w') : Ns w' B v l := h.keep (Nat.le_refl _) fun _ hp => hb.cell hp
theorem Ms.below {l : List Mm} (h : Ms w B v l) (hb : Below B w w') : Ms w' B v l := h.keep (Nat.le_refl _) fun _ hp => hb.cell hp
theorem Cir.below {x : Ck} (h : Cir w B v x) (hb : Below B w w') : Cir w' B v x := h.keep (Nat.le_refl _) fun _ hp => hb.cell hp
theorem Is.more {l : List Int} (h : Is w B v l) (hB : B ≤ B') : Is w B' v l := h.keep hB fun _ _ => rfl
theorem Ss.more {l : List ByteArray} (h : Ss w B v l) (hB : B ≤ B') : Ss w B' v l := h.keep hB fun _ _ => rfl
theorem Ns.more {l : List Nd} (h : Ns w B v l) (hB : B ≤ B') : Ns w B' v l := h.keep hB fun _ _ => rfl
theorem Ms.more {l : List Mm} (h : Ms w B v l) (hB : B ≤ B') : Ms w B' v l := h.keep hB fun _ _ => rfl
theorem Cir.more {x : Ck} (h : Cir w B v x) (hB : B ≤ B') : Cir w B' v x := h.keep hB fun _ _ => rfl
theorem Is.opens {l : List Int} (h : Is w B v l) : ∃ A b o c, v = .slice A l.length c ∧ (0 < l.length → A = some ⟨b, o, none⟩) ∧ l.length ≤ c ∧ l.length ≤ maxLen ∧ ∀ k, k < l.length → b < B ∧ w.cell? ⟨b, o + k, none⟩ = some (.int .i64 (l.getD k 0)) := by
  obtain ⟨A, b, o, c, h1, h2, h3, h4, h5⟩ := h
  exact ⟨A, b, o, c, h1, h2, h3, h4, fun k hk => ⟨(h5 k hk).1, by have := (h5 k hk).2; rw [Nat.mul_one] at this; exact this⟩⟩
theorem Ss.opens {l : List ByteArray} (h : Ss w B v l) : ∃ A b o c, v = .slice A l.length c ∧ (0 < l.length → A = some ⟨b, o, none⟩) ∧ l.length ≤ c ∧ l.length ≤ maxLen ∧ ∀ k, k < l.length → b < B ∧ w.cell? ⟨b, o + k, none⟩ = some (.string (l.getD k ByteArray.empty)) ∧ (l.getD k ByteArray.empty).size ≤ maxLen := by
  obtain ⟨A, b, o, c, h1, h2, h3, h4, h5⟩ := h
  exact ⟨A, b, o, c, h1, h2, h3, h4, fun k hk => ⟨(h5 k hk).1, by have := (h5 k hk).2; rw [Nat.mul_one] at this; exact this⟩⟩
end

end Go.Proofs.YtcaikkfcjeojiaaDoor

namespace Go.Proofs.YtcaikkfcjeojiaaDoor
open Go.ChangeShapes Go.WideShapes Go.ChangeAt Go.RowKit

open Go.ChangeShapes Go.WideShapes Go.ChangeAt Go.RowKit

theorem rw_own : ownKnob Tryd.prog.godebug = none := by kernel_rfl
theorem rw_laidOut : laidOutB Tryd.prog = true := by kernel_rfl
section
variable {H : Type} {enc : TypeId × Value → H}

end

section
variable {H : Type} {enc : TypeId × Value → H} {P : Program}

theorem all_below (hl : laidOutB P = true) {W W' : World} (hb : Below W.heap.size W W') : ∀ {ts : List TypeId} {vs : List Value} {ds : List (DataW H)} {p : List MemPlace},
    (∀ t ∈ ts, P.readableRec t = true ∧ t < P.types.size) → DataW.TrodAll enc P W 0 (fun _ => true) true ts vs ds p → (∀ x ∈ p, x.block < W.heap.size) →
    DataW.TrodAll enc P W' 0 (fun b => decide (b < W.heap.size)) true ts vs ds p
  | [], vs, ds, p, _, h, _ => by
    obtain ⟨rfl, rfl, rfl⟩ := trodAll_nil h
    exact trodAll_mk0
  | t :: ts, vs, ds, p, hr, h, hp => by
    obtain ⟨v, vs', d, ds', p1, p2, rfl, rfl, rfl, h1, h2⟩ := trodAll_cons h
    have hr1 := hr t List.mem_cons_self
    exact trodAll_cons_mk (Below.trod hl hr1.1 hr1.2 h1 hb fun x hx => hp x (List.mem_append_left _ hx))
      (all_below hl hb (fun u hu => hr u (List.mem_cons_of_mem _ hu)) h2 fun x hx => hp x (List.mem_append_right _ hx))

/-- THE LAST STEP of a law: it returned true, and what was there is as it was. -/
theorem law_post (hl : laidOutB P = true) {f : Func} {s : ChangeSpec} {W W' : World} {args : Array Value} {ds : List (DataW H)} {before : List MemPlace} {tb : TypeId}
    (hv : s.vars = []) (hW : DataW.Whole enc P f.params.toList s.vars false W args.toList ds [] before) (hr : ∀ t ∈ f.params.toList, P.readableRec t = true ∧ t < P.types.size)
    (hres : f.resultTypes = #[tb]) (htb : P.underlying tb = some .bool) (hfn : s.fn H (ds ++ []) = { results := [.lit (.bool true)], args := ds }) (hb : Below W.heap.size W W') :
    s.post enc P f false true false false W args (.bool true) W' := by
  have hlt := hW.lt
  obtain ⟨p, q, hA, hV, he, hz, hn⟩ := id hW
  rw [hv] at hV
  obtain ⟨-, rfl⟩ := trodVars_none hV
  rw [List.append_nil] at he
  subst he
  refine ⟨ds, [], before, [], before, [], hW, ?_, ?_, ?_, hb.frame _, fun h => by cases h⟩
  · rw [hfn, hres]
    exact trodAll_cons_mk (shut_bool htb true) trodAll_mk0
  · rw [hfn]
    exact all_below hl hb hr hA fun x hx => hlt x hx
  · rw [hfn, hv]
    rfl
end

def relay (cs : Array Value) : Obj → Obj
  | .cells _ t fr => .cells cs t fr
  | o => o

end Go.Proofs.YtcaikkfcjeojiaaDoor

namespace Go.Proofs.YtcaikkfcjeojiaaDoor
open Go.ChangeShapes Go.WideShapes Go.ChangeAt Go.RowKit

section
variable {H : Type} {enc : TypeId × Value → H} {W : World} {base : Nat} {sp : Nat → Bool} {held : Bool}

/-- A slice opened, whatever its elements are. -/
theorem arr_of {α : Type} [Inhabited α] {d : α} {sz : Nat} {R : World → Nat → Nat → Nat → α → Prop} {t e : TypeId} {fuel : Nat} {cs : List Value} {x : DataW H × List MemPlace} (ht : Tryd.prog.underlying t = some (.slice e)) (hsz : Tryd.prog.cellsOf e = sz) (hpos : 0 < sz)
    (hel : ∀ b p cs' y n, cs'.length = sz → (∀ j, j < sz → W.cell? ⟨b, p + j, none⟩ = cs'[j]?) → DataW.trod enc Tryd.prog W base sp held n e cs' = some y → ∃ a : α, R W W.heap.size b p a)
    (h : DataW.trod enc Tryd.prog W base sp held fuel t cs = some x) : ∃ v l, cs = [v] ∧ Arr d sz R W W.heap.size v l := by
  rcases Go.Deep.open_slice ht h with ⟨rfl, -⟩ | ⟨a, len, cap, m, n, D, Pl, rfl, -, hl, hm, hmm, -, hx⟩
  · exact ⟨_, [], rfl, Arr.nil _ _ _ _ _⟩
  · have hlm : len ≤ m := by rw [hmm]; split <;> omega
    rw [hsz] at hx
    by_cases h0 : 0 < len
    · have hsp : a.spot = none := by
        obtain ⟨cs', h1, -⟩ := hx 0 (by omega)
        obtain ⟨-, h3, h4⟩ := World.cells?_some h1
        have := h4 0 hpos
        rw [List.getElem?_eq_getElem (by omega)] at this
        simpa [Addr.add] using World.cell?_spot this
      obtain ⟨b, o, spot⟩ := a
      obtain rfl : spot = none := hsp
      have hk : ∀ i, i < len → ∃ q : α, b < W.heap.size ∧ R W W.heap.size b (o + i * sz) q := fun i hi => by
        obtain ⟨cs', h1, h2⟩ := hx i (by omega)
        obtain ⟨-, h3, h4⟩ := World.cells?_some h1
        have hc : ∀ j, j < sz → W.cell? ⟨b, o + i * sz + j, none⟩ = cs'[j]? := fun j hj => by
          have := h4 j hj
          rw [Go.WideShapes.add_plain, Go.WideShapes.add_plain] at this
          exact this
        obtain ⟨q, hq⟩ := hel b (o + i * sz) cs' _ _ h3 hc h2
        refine ⟨q, ?_, hq⟩
        have := hc 0 hpos
        rw [List.getElem?_eq_getElem (by omega)] at this
        exact cell_lt this
      obtain ⟨f, hf⟩ := Go.Deep.choose_lt hk
      refine ⟨_, (List.range len).map f, rfl, some ⟨b, o, none⟩, b, o, cap, by simp, fun _ => rfl, by simpa using hl, by simp; omega, fun k hk' => ?_⟩
      have hkl : k < len := by simpa using hk'
      have e : ((List.range len).map f).getD k d = f k := by simp [hkl, List.getD_eq_getElem?_getD]
      rw [e]
      exact hf k hkl
    · obtain rfl : len = 0 := by omega
      exact ⟨_, [], rfl, some a, 0, 0, cap, rfl, fun h => absurd h (by simp), by simp, by simp, fun k hk => absurd hk (by simp)⟩

end

end Go.Proofs.YtcaikkfcjeojiaaDoor
