/- What all choices have in common, for and, or, xor and their opposites. -/
import Derived.Test.YtdanmepbdjfpfaaDoorAppp
namespace Go.Proofs.YtdanmepbdjfpfaaDoor

theorem ch_avoid {bus : Bool} (x : Int) {l : List Int} (h : ∀ v ∈ l, ∃ z ∈ chc v bus, z ≠ x) : ∃ m, Ch bus l m ∧ cnt x m = 0 := by
  induction l with
  | nil => exact ⟨[], trivial, rfl⟩
  | cons v l ih =>
    obtain ⟨m, hm, hc⟩ := ih fun u hu => h u (List.mem_cons_of_mem _ hu)
    obtain ⟨z, hz, hn⟩ := h v (by simp)
    exact ⟨z :: m, ⟨hz, hm⟩, by rw [cnt, if_neg hn, hc]⟩
theorem chc_f {v : Int} (h0 : v ≠ 0) (h1 : v ≠ 1) : chc v false = [0, 1] := by
  unfold chc; rw [if_neg h0, if_neg h1, if_neg (by simp), if_neg (by simp)]
theorem chc_avoid (x v : Int) (hv : v ≠ x) (hx : x = 0 ∨ x = 1) : ∃ z ∈ chc v false, z ≠ x := by
  by_cases h0 : v = 0
  · subst h0; exact ⟨0, by simp [chc], hv⟩
  · by_cases h1 : v = 1
    · subst h1; exact ⟨1, by simp [chc], hv⟩
    · rw [chc_f h0 h1]
      rcases hx with rfl | rfl
      · exact ⟨1, by simp, by decide⟩
      · exact ⟨0, by simp, by decide⟩
theorem rd0 {v : Int} (h : rd v = 0) : v = 0 := by rcases knw_cases v with ⟨h', _⟩ | ⟨_, _, e, _⟩ | ⟨_, _, _, e⟩ <;> omega
theorem rd1 {v : Int} (h : rd v = 1) : v = 1 := by rcases knw_cases v with ⟨_, _, e, _⟩ | ⟨h', _⟩ | ⟨_, _, _, e⟩ <;> omega
theorem rd2 {v : Int} (h : rd v = 2) : v ≠ 0 ∧ v ≠ 1 := by rcases knw_cases v with ⟨_, _, e, _⟩ | ⟨_, _, e, _⟩ | ⟨h0, h1, _, _⟩ <;> first | exact ⟨h0, h1⟩ | omega
theorem rd_n0 {v : Int} (h : rd v ≠ 0) : v ≠ 0 := by rintro rfl; exact h rfl
theorem rd_n1 {v : Int} (h : rd v ≠ 1) : v ≠ 1 := by rintro rfl; exact h rfl
theorem rd_n2 {v : Int} (h : rd v ≠ 2) : v = 0 ∨ v = 1 := by rcases knw_cases v with ⟨e, _⟩ | ⟨e, _⟩ | ⟨_, _, _, e⟩ <;> first | exact .inl e | exact .inr e | exact absurd e h
theorem chc_not (x v : Int) (hv : v = 0 ∨ v = 1) (hx : v ≠ x) : x ∉ chc v false := by
  rcases hv with rfl | rfl
  · simp [chc]; exact fun e => hx e.symm
  · simp [chc]; exact fun e => hx e.symm
theorem cS_ne (q : Int) (l : List Int) (bus : Bool) : (cS l bus).map (fnT q) ≠ [] := by
  intro e
  have := congrArg List.length e
  rw [List.length_map] at this
  have := cS_pos l bus
  simp_all
theorem fC_and (m : List Int) : fC 5 m = bitI (cnt 0 m == 0) := rfl
theorem fC_or (m : List Int) : fC 7 m = bitI (decide (0 < cnt 1 m)) := rfl
theorem fC_xor (m : List Int) : fC 9 m = bitI (cnt 1 m % 2 == 1) := rfl

theorem ap_and (l : List Int) : apL ((cS l false).map (fnT 5)) = andL l := by
  have hq : Count2 5 := by unfold Count2; omega
  have hne := cS_ne 5 l false
  unfold andL
  cases h0 : anyIs rd 0 l
  · rw [if_neg (by simp)]
    cases h2 : anyIs rd 2 l
    · rw [if_neg (by simp)]
      refine (apL_same (y := 1) hne fun x hx => ?_).trans rfl
      obtain ⟨m, hm, rfl⟩ := (fL_mem hq _ _ _).1 hx
      rw [fC_and, ch_not 0 hm fun v hv => chc_not 0 v (rd_n2 (any_not h2 v hv)) (rd_n0 (any_not h0 v hv))]; rfl
    · rw [if_pos rfl]
      obtain ⟨v, hv, e⟩ := any_mem h2
      obtain ⟨l1, l2, rfl⟩ := List.append_of_mem hv
      have hx := chc_f (rd2 e).1 (rd2 e).2
      obtain ⟨m1, hm1⟩ := ch_some false l1
      obtain ⟨m2, hm2⟩ := ch_some false l2
      have hA : Ch false (l1 ++ v :: l2) (m1 ++ 0 :: m2) := ch_app hm1 ⟨by rw [hx]; simp, hm2⟩
      have a0 : cnt 0 (m1 ++ 0 :: m2) = cnt 0 m1 + (1 + cnt 0 m2) := by rw [cnt_app, cnt]; rfl
      obtain ⟨mB, hB, hB0⟩ := ch_avoid (bus := false) 0 fun u hu => chc_avoid 0 u (rd_n0 (any_not h0 u hu)) (.inl rfl)
      refine apL_diff ((fL_mem hq _ _ _).2 ⟨_, hA, rfl⟩) ((fL_mem hq _ _ _).2 ⟨_, hB, rfl⟩) ?_
      rw [fC_and, fC_and, hB0, a0, beq_eq_false_iff_ne.2 (by omega : cnt 0 m1 + (1 + cnt 0 m2) ≠ 0)]
      decide
  · rw [if_pos rfl]
    obtain ⟨v, hv, e⟩ := any_mem h0
    obtain rfl := rd0 e
    refine (apL_same (y := 0) hne fun x hx => ?_).trans rfl
    obtain ⟨m, hm, rfl⟩ := (fL_mem hq _ _ _).1 hx
    have hp := ch_cnt 0 hm 0 hv rfl
    rw [fC_and, beq_eq_false_iff_ne.2 (by omega : cnt 0 m ≠ 0)]; rfl

theorem ap_or (l : List Int) : apL ((cS l false).map (fnT 7)) = orL l := by
  have hq : Count2 7 := by unfold Count2; omega
  have hne := cS_ne 7 l false
  unfold orL
  cases h0 : anyIs rd 1 l
  · rw [if_neg (by simp)]
    cases h2 : anyIs rd 2 l
    · rw [if_neg (by simp)]
      refine (apL_same (y := 0) hne fun x hx => ?_).trans rfl
      obtain ⟨m, hm, rfl⟩ := (fL_mem hq _ _ _).1 hx
      rw [fC_or, ch_not 1 hm fun v hv => chc_not 1 v (rd_n2 (any_not h2 v hv)) (rd_n1 (any_not h0 v hv))]; rfl
    · rw [if_pos rfl]
      obtain ⟨v, hv, e⟩ := any_mem h2
      obtain ⟨l1, l2, rfl⟩ := List.append_of_mem hv
      have hx := chc_f (rd2 e).1 (rd2 e).2
      obtain ⟨m1, hm1⟩ := ch_some false l1
      obtain ⟨m2, hm2⟩ := ch_some false l2
      have hA : Ch false (l1 ++ v :: l2) (m1 ++ 1 :: m2) := ch_app hm1 ⟨by rw [hx]; simp, hm2⟩
      have a0 : cnt 1 (m1 ++ 1 :: m2) = cnt 1 m1 + (1 + cnt 1 m2) := by rw [cnt_app, cnt]; rfl
      obtain ⟨mB, hB, hB0⟩ := ch_avoid (bus := false) 1 fun u hu => chc_avoid 1 u (rd_n1 (any_not h0 u hu)) (.inr rfl)
      refine apL_diff ((fL_mem hq _ _ _).2 ⟨_, hA, rfl⟩) ((fL_mem hq _ _ _).2 ⟨_, hB, rfl⟩) ?_
      rw [fC_or, fC_or, hB0, a0, decide_eq_true (by omega : 0 < cnt 1 m1 + (1 + cnt 1 m2))]
      decide
  · rw [if_pos rfl]
    obtain ⟨v, hv, e⟩ := any_mem h0
    obtain rfl := rd1 e
    refine (apL_same (y := 1) hne fun x hx => ?_).trans rfl
    obtain ⟨m, hm, rfl⟩ := (fL_mem hq _ _ _).1 hx
    have hp := ch_cnt 1 hm 1 hv rfl
    rw [fC_or, decide_eq_true hp]; rfl

theorem ch_known {l m : List Int} (h : Ch false l m) (hv : ∀ v ∈ l, v = 0 ∨ v = 1) : m = l := by
  induction l generalizing m with
  | nil => cases m with
    | nil => rfl
    | cons => exact absurd h id
  | cons v l ih => cases m with
    | nil => exact absurd h id
    | cons x m =>
      rw [ih h.2 fun u hu => hv u (List.mem_cons_of_mem _ hu)]
      have h1 := h.1
      rcases hv v (by simp) with rfl | rfl
      · rw [show chc 0 false = [0] from rfl] at h1
        rw [List.mem_singleton.1 h1]
      · rw [show chc 1 false = [1] from rfl] at h1
        rw [List.mem_singleton.1 h1]
theorem par_cnt (l : List Int) : bitI (cnt 1 l % 2 == 1) = par l := by
  induction l with
  | nil => rfl
  | cons v l ih =>
    rw [cnt, par]
    by_cases h : v = 1
    · rw [if_pos h, if_pos h, ← ih]
      rcases Nat.mod_two_eq_zero_or_one (cnt 1 l) with e | e
      · rw [e, show (1 + cnt 1 l) % 2 = 1 by omega]; rfl
      · rw [e, show (1 + cnt 1 l) % 2 = 0 by omega]; rfl
    · rw [if_neg h, if_neg h, Nat.zero_add, ih]
theorem ap_xor (l : List Int) : apL ((cS l false).map (fnT 9)) = xorL l := by
  have hq : Count2 9 := by unfold Count2; omega
  have hne := cS_ne 9 l false
  unfold xorL
  cases h2 : anyIs rd 2 l
  · rw [if_neg (by simp)]
    have e : apL ((cS l false).map (fnT 9)) = tabI (par l) := by
      refine apL_same hne fun x hx => ?_
      obtain ⟨m, hm, rfl⟩ := (fL_mem hq _ _ _).1 hx
      rw [fC_xor, ch_known hm fun v hv => rd_n2 (any_not h2 v hv), par_cnt]
    rw [e]
    rcases par_cases l with e | e <;> rw [e] <;> rfl
  · rw [if_pos rfl]
    obtain ⟨v, hv, e⟩ := any_mem h2
    obtain ⟨l1, l2, rfl⟩ := List.append_of_mem hv
    have hx := chc_f (rd2 e).1 (rd2 e).2
    obtain ⟨m1, hm1⟩ := ch_some false l1
    obtain ⟨m2, hm2⟩ := ch_some false l2
    have hA : Ch false (l1 ++ v :: l2) (m1 ++ 0 :: m2) := ch_app hm1 ⟨by rw [hx]; simp, hm2⟩
    have hB : Ch false (l1 ++ v :: l2) (m1 ++ 1 :: m2) := ch_app hm1 ⟨by rw [hx]; simp, hm2⟩
    have a1 : cnt 1 (m1 ++ 0 :: m2) = cnt 1 m1 + (0 + cnt 1 m2) := by rw [cnt_app, cnt]; rfl
    have b1 : cnt 1 (m1 ++ 1 :: m2) = cnt 1 m1 + (1 + cnt 1 m2) := by rw [cnt_app, cnt]; rfl
    refine apL_diff ((fL_mem hq _ _ _).2 ⟨_, hA, rfl⟩) ((fL_mem hq _ _ _).2 ⟨_, hB, rfl⟩) ?_
    rw [fC_xor, fC_xor, a1, b1]
    rcases Nat.mod_two_eq_zero_or_one (cnt 1 m1 + cnt 1 m2) with e | e
    · rw [show (cnt 1 m1 + (0 + cnt 1 m2)) % 2 = 0 by omega, show (cnt 1 m1 + (1 + cnt 1 m2)) % 2 = 1 by omega]; decide
    · rw [show (cnt 1 m1 + (0 + cnt 1 m2)) % 2 = 1 by omega, show (cnt 1 m1 + (1 + cnt 1 m2)) % 2 = 0 by omega]; decide

theorem apL_neg {L : List Int} (h0 : L ≠ []) (h : ∀ x ∈ L, x = 0 ∨ x = 1) : apL (L.map fun x => 1 - x) = nt (apL L) := by
  have h0' : (L.map fun x => 1 - x) ≠ [] := fun e => h0 (List.map_eq_nil_iff.1 e)
  by_cases ha : ∀ x ∈ L, x = 0
  · rw [apL_same h0 ha, apL_same (y := 1) h0' (fun x hx => by obtain ⟨z, hz, rfl⟩ := List.mem_map.1 hx; rw [ha z hz]; rfl)]; rfl
  · by_cases hb : ∀ x ∈ L, x = 1
    · rw [apL_same h0 hb, apL_same (y := 0) h0' (fun x hx => by obtain ⟨z, hz, rfl⟩ := List.mem_map.1 hx; rw [hb z hz]; rfl)]; rfl
    · obtain ⟨x, hx⟩ := Classical.not_forall.1 ha
      obtain ⟨hx, nx⟩ := Classical.not_imp.1 hx
      obtain ⟨z, hz⟩ := Classical.not_forall.1 hb
      obtain ⟨hz, nz⟩ := Classical.not_imp.1 hz
      have ex := h x hx
      have ez := h z hz
      rw [apL_diff hx hz (by omega), apL_diff (List.mem_map.2 ⟨x, hx, rfl⟩) (List.mem_map.2 ⟨z, hz, rfl⟩) (by omega)]; rfl
theorem bitI_not (b : Bool) : bitI (!b) = 1 - bitI b := by cases b <;> rfl
theorem bitI_two (b : Bool) : bitI b = 0 ∨ bitI b = 1 := by cases b <;> simp [bitI]
theorem neg_kind {q r : Int} (h : ∀ t, fnT r t = 1 - fnT q t) (h2 : ∀ t, fnT q t = 0 ∨ fnT q t = 1) (l : List Int) (bus : Bool) : apL ((cS l bus).map (fnT r)) = nt (apL ((cS l bus).map (fnT q))) := by
  rw [← apL_neg (cS_ne q l bus) (fun x hx => by obtain ⟨t, -, rfl⟩ := List.mem_map.1 hx; exact h2 t), List.map_map]
  exact congrArg (fun f => apL ((cS l bus).map f)) (funext h)
theorem ap_nand (l : List Int) : apL ((cS l false).map (fnT 6)) = nt (andL l) := by
  rw [← ap_and]; exact neg_kind (q := 5) (r := 6) (fun t => bitI_not _) (fun t => bitI_two _) l false
theorem ap_nor (l : List Int) : apL ((cS l false).map (fnT 8)) = nt (orL l) := by
  rw [← ap_or]; exact neg_kind (q := 7) (r := 8) (fun t => bitI_not _) (fun t => bitI_two _) l false
theorem ap_xnor (l : List Int) : apL ((cS l false).map (fnT 10)) = nt (xorL l) := by
  rw [← ap_xor]; exact neg_kind (q := 9) (r := 10) (fun t => bitI_not _) (fun t => bitI_two _) l false

/-- what Apply returns for a kind that goes by counts -/
def cntL (q : Int) (l : List Int) : Int :=
  if q = 5 then andL l else if q = 6 then nt (andL l) else if q = 7 then orL l else if q = 8 then nt (orL l) else if q = 9 then xorL l else if q = 10 then nt (xorL l) else busL l
theorem count_apply (q : Int) (hq : Counts q) (l : List Int) (s : Value) (n c b o : Nat) (A : Option Addr) (hv : s = .slice A n c) (hA : 0 < n → A = some ⟨b, o, none⟩) (w : World) (hn : n = l.length) (h7 : n ≤ 7) (h0 : ∀ v ∈ l, 0 ≤ v)
    (hc : ∀ k, k < n → b < w.heap.size ∧ w.cell? ⟨b, o + k, none⟩ = some (.int .u8 (l.getD k 0))) :
    Calls Tryd.prog 13 #[.int .u8 q, s] w fun e w' => e = .returned (.int .u8 (cntL q l)) ∧ RowKit.Below w.heap.size w w' := by
  have h := apply_cnt q l s n c b o A hv hA w hn h7 hq hc _ rfl (first_ways hq l _)
  have e : apL ((cS l (q == 13)).map (fnT q)) = cntL q l := by
    rcases hq with rfl | rfl | rfl | rfl | rfl | rfl | rfl
    · exact ap_and l
    · exact ap_nand l
    · exact ap_or l
    · exact ap_nor l
    · exact ap_xor l
    · exact ap_xnor l
    · exact ap_bus l h0
  rw [e] at h
  exact h

end Go.Proofs.YtdanmepbdjfpfaaDoor
