/- Slices as lists: of numbers, strings, nodes, memories; circuits in memory. -/
import Derived.Test.YtmghdeodkeenoaaDoorBas
namespace Go.Proofs.YtmghdeodkeenoaaDoor
open Go.RowKit

/-- The slice value v reads as the list l: element k lies at cell o + k * sz of a block below B, as R says. -/
def Arr {α : Type} (d : α) (sz : Nat) (R : World → Nat → Nat → Nat → α → Prop) (w : World) (B : Nat) (v : Value) (l : List α) : Prop :=
  ∃ A b o c, v = .slice A l.length c ∧ (0 < l.length → A = some ⟨b, o, none⟩) ∧ l.length ≤ c ∧ l.length ≤ maxLen ∧ ∀ k, k < l.length → b < B ∧ R w B b (o + k * sz) (l.getD k d)
/-- R speaks of what lies below B alone. -/
def Stays {α : Type} (R : World → Nat → Nat → Nat → α → Prop) : Prop :=
  ∀ w w' B B' b p x, b < B → B ≤ B' → R w B b p x → (∀ q : Addr, q.block < B → w'.cell? q = w.cell? q) → R w' B' b p x
theorem Arr.keep {α : Type} {d : α} {sz : Nat} {R : World → Nat → Nat → Nat → α → Prop} (hR : Stays R) {w w' : World} {B B' : Nat} {v : Value} {l : List α} (h : Arr d sz R w B v l) (hB : B ≤ B') (hk : ∀ q : Addr, q.block < B → w'.cell? q = w.cell? q) : Arr d sz R w' B' v l := by
  obtain ⟨A, b, o, c, h1, h2, h3, h4, h5⟩ := h
  exact ⟨A, b, o, c, h1, h2, h3, h4, fun k hk' => ⟨Nat.lt_of_lt_of_le (h5 k hk').1 hB, hR _ _ _ _ _ _ _ (h5 k hk').1 hB (h5 k hk').2 hk⟩⟩
theorem Arr.nil {α : Type} (d : α) (sz : Nat) (R : World → Nat → Nat → Nat → α → Prop) (w : World) (B : Nat) : Arr d sz R w B (.slice none 0 0) [] :=
  ⟨none, 0, 0, 0, rfl, fun h => absurd h (by simp), by simp, by simp, fun k hk => absurd hk (by simp)⟩

def IntAt (w : World) (_B b p : Nat) (x : Int) : Prop := w.cell? ⟨b, p, none⟩ = some (.int .i64 x)
def StrAt (w : World) (_B b p : Nat) (x : ByteArray) : Prop := w.cell? ⟨b, p, none⟩ = some (.string x) ∧ x.size ≤ maxLen
def Is (w : World) (B : Nat) (v : Value) (l : List Int) : Prop := Arr 0 1 IntAt w B v l
def Ss (w : World) (B : Nat) (v : Value) (l : List ByteArray) : Prop := Arr ByteArray.empty 1 StrAt w B v l
def NdAt (w : World) (B b p : Nat) (x : Nd) : Prop :=
  ∃ s, w.cell? ⟨b, p, none⟩ = some (.int .u8 x.kind) ∧ w.cell? ⟨b, p + 1, none⟩ = some s ∧ w.cell? ⟨b, p + 2, none⟩ = some (.int .i64 x.mem) ∧ w.cell? ⟨b, p + 3, none⟩ = some (.int .i64 x.bit) ∧ Is w B s x.ins ∧ 0 ≤ x.kind ∧ x.kind ≤ 255
def MmAt (w : World) (B b p : Nat) (x : Mm) : Prop :=
  ∃ s t, w.cell? ⟨b, p, none⟩ = some s ∧ w.cell? ⟨b, p + 1, none⟩ = some t ∧ w.cell? ⟨b, p + 2, none⟩ = some (.int .i64 x.write) ∧ Is w B s x.addr ∧ Is w B t x.data
def Ns (w : World) (B : Nat) (v : Value) (l : List Nd) : Prop := Arr default 4 NdAt w B v l
def Ms (w : World) (B : Nat) (v : Value) (l : List Mm) : Prop := Arr default 3 MmAt w B v l
theorem stays_int : Stays IntAt := fun w w' B B' b p x hb hB h hk => (hk ⟨b, p, none⟩ hb).trans h
theorem stays_str : Stays StrAt := fun w w' B B' b p x hb hB h hk => ⟨(hk ⟨b, p, none⟩ hb).trans h.1, h.2⟩
theorem Is.keep {w w' : World} {B B' : Nat} {v : Value} {l : List Int} (h : Is w B v l) (hB : B ≤ B') (hk : ∀ q : Addr, q.block < B → w'.cell? q = w.cell? q) : Is w' B' v l := Arr.keep stays_int h hB hk
theorem stays_nd : Stays NdAt := fun w w' B B' b p x hb hB ⟨s, h0, h1, h2, h3, h4, h5, h6⟩ hk =>
  ⟨s, (hk ⟨b, p, none⟩ hb).trans h0, (hk ⟨b, p + 1, none⟩ hb).trans h1, (hk ⟨b, p + 2, none⟩ hb).trans h2, (hk ⟨b, p + 3, none⟩ hb).trans h3, h4.keep hB hk, h5, h6⟩
theorem stays_mm : Stays MmAt := fun w w' B B' b p x hb hB ⟨s, t, h0, h1, h2, h4, h5⟩ hk =>
  ⟨s, t, (hk ⟨b, p, none⟩ hb).trans h0, (hk ⟨b, p + 1, none⟩ hb).trans h1, (hk ⟨b, p + 2, none⟩ hb).trans h2, h4.keep hB hk, h5.keep hB hk⟩
theorem Ss.keep {w w' : World} {B B' : Nat} {v : Value} {l : List ByteArray} (h : Ss w B v l) (hB : B ≤ B') (hk : ∀ q : Addr, q.block < B → w'.cell? q = w.cell? q) : Ss w' B' v l := Arr.keep stays_str h hB hk
theorem Ns.keep {w w' : World} {B B' : Nat} {v : Value} {l : List Nd} (h : Ns w B v l) (hB : B ≤ B') (hk : ∀ q : Addr, q.block < B → w'.cell? q = w.cell? q) : Ns w' B' v l := Arr.keep stays_nd h hB hk
theorem Ms.keep {w w' : World} {B B' : Nat} {v : Value} {l : List Mm} (h : Ms w B v l) (hB : B ≤ B') (hk : ∀ q : Addr, q.block < B → w'.cell? q = w.cell? q) : Ms w' B' v l := Arr.keep stays_mm h hB hk
/-- v is the circuit x. -/
def Cir (w : World) (B : Nat) (v : Value) (x : Ck) : Prop :=
  ∃ v0 v1 v2 v3, v = .agg #[v0, v1, v2, v3] ∧ Ns w B v0 x.nodes ∧ Ss w B v1 x.names ∧ Ms w B v2 x.mems ∧ Is w B v3 x.outs
theorem Cir.keep {w w' : World} {B B' : Nat} {v : Value} {x : Ck} (h : Cir w B v x) (hB : B ≤ B') (hk : ∀ q : Addr, q.block < B → w'.cell? q = w.cell? q) : Cir w' B' v x := by
  obtain ⟨v0, v1, v2, v3, h0, h1, h2, h3, h4⟩ := h
  exact ⟨v0, v1, v2, v3, h0, h1.keep hB hk, h2.keep hB hk, h3.keep hB hk, h4.keep hB hk⟩
section
variable {w w' : World} {B B' : Nat} {v : Value}
theorem Is.below {l : List Int} (h : Is w B v l) (hb : Below B w w') : Is w' B v l := h.keep (Nat.le_refl _) fun _ hp => hb.cell hp
theorem Ss.below {l : List ByteArray} (h : Ss w B v l) (hb : Below B w w') : Ss w' B v l := h.keep (Nat.le_refl _) fun _ hp => hb.cell hp
theorem Ns.below {l : List Nd} (h : Ns w B v l) (hb : Below B w w') : Ns w' B v l := h.keep (Nat.le_refl _) fun _ hp => hb.cell hp
theorem Ms.below {l : List Mm} (h : Ms w B v l) (hb : Below B w w') : Ms w' B v l := h.keep (Nat.le_refl _) fun _ hp => hb.cell hp
theorem Cir.below {x : Ck} (h : Cir w B v x) (hb : Below B w w') : Cir w' B v x := h.keep (Nat.le_refl _) fun _ hp => hb.cell hp
theorem Is.more {l : List Int} (h : Is w B v l) (hB : B ≤ B') : Is w B' v l := h.keep hB fun _ _ => rfl
theorem Ss.more {l : List ByteArray} (h : Ss w B v l) (hB : B ≤ B') : Ss w B' v l := h.keep hB fun _ _ => rfl
theorem Ns.more {l : List Nd} (h : Ns w B v l) (hB : B ≤ B') : Ns w B' v l := h.keep hB fun _ _ => rfl
theorem Ms.more {l : List Mm} (h : Ms w B v l) (hB : B ≤ B') : Ms w B' v l := h.keep hB fun _ _ => rfl
theorem Cir.more {x : Ck} (h : Cir w B v x) (hB : B ≤ B') : Cir w B' v x := h.keep hB fun _ _ => rfl
theorem Is.opens {l : List Int} (h : Is w B v l) : ∃ A b o c, v = .slice A l.length c ∧ (0 < l.length → A = some ⟨b, o, none⟩) ∧ l.length ≤ c ∧ l.length ≤ maxLen ∧ ∀ k, k < l.length → b < B ∧ w.cell? ⟨b, o + k, none⟩ = some (.int .i64 (l.getD k 0)) := by
  obtain ⟨A, b, o, c, h1, h2, h3, h4, h5⟩ := h
  exact ⟨A, b, o, c, h1, h2, h3, h4, fun k hk => ⟨(h5 k hk).1, by have := (h5 k hk).2; rw [Nat.mul_one] at this; exact this⟩⟩
theorem Ss.opens {l : List ByteArray} (h : Ss w B v l) : ∃ A b o c, v = .slice A l.length c ∧ (0 < l.length → A = some ⟨b, o, none⟩) ∧ l.length ≤ c ∧ l.length ≤ maxLen ∧ ∀ k, k < l.length → b < B ∧ w.cell? ⟨b, o + k, none⟩ = some (.string (l.getD k ByteArray.empty)) ∧ (l.getD k ByteArray.empty).size ≤ maxLen := by
  obtain ⟨A, b, o, c, h1, h2, h3, h4, h5⟩ := h
  exact ⟨A, b, o, c, h1, h2, h3, h4, fun k hk => ⟨(h5 k hk).1, by have := (h5 k hk).2; rw [Nat.mul_one] at this; exact this⟩⟩
end

end Go.Proofs.YtmghdeodkeenoaaDoor
