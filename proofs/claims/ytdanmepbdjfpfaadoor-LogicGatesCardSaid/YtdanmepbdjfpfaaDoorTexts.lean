/- The walk of the law on texts: for every string and every slice of values it returns true, and nothing that was there before changes. -/
import Derived.Test.YtdanmepbdjfpfaaDoorLives
namespace Go.Proofs.YtdanmepbdjfpfaaDoor
open Go.RowKit


/-- The values of a text. -/
def vals (s : ByteArray) (n : Nat) : List Int := (List.range n).map fun k => vof (chr s k)
theorem vals_len (s : ByteArray) (n : Nat) : (vals s n).length = n := by simp [vals]
theorem vals_get (s : ByteArray) (n k : Nat) (h : k < n) : (vals s n).getD k 0 = vof (chr s k) := by
  simp [vals, List.getD_eq_getElem?_getD, List.getElem?_map, List.getElem?_range h]

def GoodPost (s : ByteArray) (n : Nat) (w : World) (e : Ending) (w' : World) : Prop :=
  ∃ g, e = .returned (.tuple #[.slice (some ⟨g, 0, none⟩) n n, .int .i64 0]) ∧ Below w.heap.size w w' ∧ Vs w' w'.heap.size (.slice (some ⟨g, 0, none⟩) n n) (vals s n) ∧ ∀ k, k < n → w'.cell? ⟨g, k, none⟩ = some (.int .u8 (vof (chr s k)))

theorem parse_good (s : ByteArray) (n : Nat) (hn : s.size = n) (w : World) (hsz : n ≤ 1000) (ht : Tabs w) (h : ∀ k, k < n → isv (chr s k) = true) : Calls Tryd.prog 31 #[.string s] w (GoodPost s n w) := by
  subst hn
  refine (parse_any s w hsz ht).mono fun e w' ⟨hb, h'⟩ => ?_
  rcases h' with ⟨-, he, ho⟩ | ⟨⟨k, hk, hbad⟩, -⟩
  · have hcell : ∀ k, k < s.size → w'.cell? ⟨w.heap.size, k, none⟩ = some (.int .u8 (vof (chr s k))) := fun k hk => by
      rw [ho.cellAt k (by omega), fillL_get _ _ _ _ _ hk, if_pos hk]
    refine ⟨w.heap.size, he, hb, ⟨w.heap.size, 0, s.size, .inl (by rw [vals_len]), by rw [vals_len]; unfold maxLen; omega, fun k hk => ?_⟩, hcell⟩
    rw [vals_len] at hk
    refine ⟨?_, by rw [Nat.zero_add, hcell k hk, vals_get s _ k hk]⟩
    obtain ⟨-, h⟩ := ho
    rcases h with ⟨h, -⟩ | ⟨g, cap, cur, h1, -, h2, -⟩
    · cases h
    · simp only [Value.slice.injEq, Option.some.injEq, Addr.mk.injEq, and_true, true_and] at h1
      obtain ⟨rfl, -⟩ := h1
      rcases Nat.lt_or_ge w.heap.size w'.heap.size with h | h
      · exact h
      · rw [Array.getElem?_eq_none h] at h2; cases h2
  · exact absurd (h k hk) (by rw [hbad]; decide)

theorem parse_bad (s : ByteArray) (w : World) (hsz : s.size ≤ 1000) (ht : Tabs w) (h : ∃ k, k < s.size ∧ isv (chr s k) = false) :
    Calls Tryd.prog 31 #[.string s] w fun e w' => e = .returned (.tuple #[.slice none 0 0, .int .i64 4]) ∧ Below w.heap.size w w' := by
  refine (parse_any s w hsz ht).mono fun e w' ⟨hb, h'⟩ => ?_
  rcases h' with ⟨h', -⟩ | ⟨-, he⟩
  · obtain ⟨k, hk, hbad⟩ := h
    exact absurd (h' k hk) (by rw [hbad]; decide)
  · exact ⟨he, hb⟩

theorem isv_cases {c : Int} (h : isv c = true) : c = 48 ∨ c = 49 ∨ c = 88 ∨ c = 90 := of_decide_eq_true h
theorem tch_vof {c : Int} (h : isv c = true) : tch (vof c) = c := by
  rcases isv_cases h with rfl | rfl | rfl | rfl <;> decide
theorem vof_tch {v : Int} (h : 0 ≤ v) : vof (tch v) = cln v ∧ isv (tch v) = true ∧ 0 ≤ tch v ∧ tch v ≤ 255 := by
  unfold tch
  rcases cln_cases v h with e | e | e | e <;> rw [e] <;> decide

/-- The text of the values of a text of values is that text. -/
theorem text_back (s : ByteArray) (h : ∀ k, k < s.size → isv (chr s k) = true) : strOfNums ((vals s s.size).map tch) = s := by
  apply ByteArray.ext
  apply Array.toList_inj.1
  rw [strOfNums_data, List.map_map]
  apply List.ext_getElem?
  intro k
  by_cases hk : k < s.size
  · have h1 : (vals s s.size)[k]? = some (vof (chr s k)) := by simp [vals, List.getElem?_map, List.getElem?_range hk]
    have h2 : s.data.toList[k]? = some (s.data.toList.getD k 0) := by
      rw [List.getD_eq_getElem?_getD, List.getElem?_eq_getElem (by simpa using hk)]; rfl
    rw [List.getElem?_map, h1, h2]
    simp only [Option.map_some, Function.comp_apply, tch_vof (h k hk)]
    simp [chr]
  · rw [List.getElem?_eq_none (by simp [vals_len]; omega), List.getElem?_eq_none (by simpa using hk)]

theorem chr_nums (l : List Int) (k : Nat) (hk : k < l.length) (h : ∀ k, k < l.length → 0 ≤ l.getD k 0 ∧ l.getD k 0 ≤ 255) : chr (strOfNums l) k = l.getD k 0 := by
  have := h k hk
  unfold chr
  rw [strOfNums_data, List.getD_eq_getElem?_getD, List.getElem?_map, List.getElem?_eq_getElem hk]
  rw [List.getD_eq_getElem?_getD, List.getElem?_eq_getElem hk] at this ⊢
  simp only [Option.map_some, Option.getD_some] at this ⊢
  rw [UInt8.toNat_ofNat_of_lt' (by simp [UInt8.size]; omega)]
  omega
theorem chr_text (l : List Int) (h : ∀ k, k < l.length → 0 ≤ l.getD k 0) (k : Nat) (hk : k < l.length) : chr (strOfNums (l.map tch)) k = tch (l.getD k 0) := by
  have e : ∀ j, j < (l.map tch).length → (l.map tch).getD j 0 = tch (l.getD j 0) := fun j hj => by
    have hj' : j < l.length := by simpa using hj
    rw [List.getD_eq_getElem?_getD, List.getD_eq_getElem?_getD, List.getElem?_map, List.getElem?_eq_getElem hj']; rfl
  rw [chr_nums _ k (by simpa using hk) fun j hj => by rw [e j hj]; exact (vof_tch (h j (by simpa using hj))).2.2]
  exact e k (by simpa using hk)

/-- The wanted code of the first k bytes. -/
def wnt (s : ByteArray) : Nat → Int
  | 0 => 0
  | k + 1 => if isv (chr s k) = true then wnt s k else 4
theorem wnt_good (s : ByteArray) : ∀ k, (∀ j, j < k → isv (chr s j) = true) → wnt s k = 0
  | 0, _ => rfl
  | k + 1, h => by rw [wnt, if_pos (h k (by omega))]; exact wnt_good s k fun j hj => h j (by omega)
theorem wnt_bad (s : ByteArray) : ∀ k, (∃ j, j < k ∧ isv (chr s j) = false) → wnt s k = 4
  | 0, ⟨j, hj, _⟩ => absurd hj (by omega)
  | k + 1, ⟨j, hj, hb⟩ => by
    rw [wnt]
    by_cases hjk : j = k
    · subst hjk; rw [if_neg (by rw [hb]; decide)]
    · split
      · exact wnt_bad s k ⟨j, by omega, hb⟩
      · rfl
/-- The kinds of a byte, in the walk's own spelling. -/
theorem chr_ways (c : Int) : ((c != 48) = false ∧ isv c = true) ∨ ((c != 48) = true ∧ (c != 49) = false ∧ isv c = true) ∨ ((c != 48) = true ∧ (c != 49) = true ∧ (c != 88) = false ∧ isv c = true) ∨
    ((c != 48) = true ∧ (c != 49) = true ∧ (c != 88) = true ∧ (c != 90) = false ∧ isv c = true) ∨ ((c != 48) = true ∧ (c != 49) = true ∧ (c != 88) = true ∧ (c != 90) = true ∧ isv c = false) := by
  by_cases h0 : c = 48
  · subst h0; exact .inl (by decide)
  by_cases h1 : c = 49
  · subst h1; exact .inr (.inl (by decide))
  by_cases h2 : c = 88
  · subst h2; exact .inr (.inr (.inl (by decide)))
  by_cases h3 : c = 90
  · subst h3; exact .inr (.inr (.inr (.inl (by decide))))
  exact .inr (.inr (.inr (.inr (by simp [isv, h0, h1, h2, h3]))))

end Go.Proofs.YtdanmepbdjfpfaaDoor
