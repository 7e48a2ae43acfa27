/- The walks of hasPlace, checkNode, checkMemory and their closures. -/
import Derived.Test.YtfcdhoaccmckoaaGreatDoorSli
namespace Go.Proofs.YtfcdhoaccmckoaaGreatDoor
open Go.RowKit

/-- May a name contain the byte b? -/
def nmb (b : Int) : Bool := !(b == 40 || b == 41 || b == 61 || b == 44 || b == 35) && (decide (33 ≤ b) && decide (b ≤ 126))
/-- Is s a name? -/
def nameOk (s : List UInt8) : Bool := decide (0 < s.length) && decide (s.length ≤ 32) && s.all fun c => nmb (c.toNat : Int)

set_option maxHeartbeats 400000 in
theorem comb_any (k : Int) (w : World) : Calls Tryz.prog 23 #[.int .u8 k] w fun e w' => e = .returned (.bool (cmb k)) ∧ w = w' := by
  obtain ⟨y, HY⟩ := named (cmb k)
  rw [← HY.out]
  by_cases h1 : 1 ≤ k
  all_goals
    go_enter Tryz.func23, Tryz.ntmps23
    go_wp2
    go_ret
    exact ⟨ret_bool (by rw [HY.out]; first | (simp [cmb, h1]; done) | (simp [cmb, h1]; omega)), rfl⟩

set_option maxHeartbeats 400000 in
theorem idx_any (i : Int) (n : Nat) (w : World) : Calls Tryz.prog 98 #[.int .i64 i, .int .i64 n] w fun e w' => e = .returned (.bool (isIdx n i)) ∧ w = w' := by
  obtain ⟨y, HY⟩ := named (isIdx n i)
  rw [← HY.out]
  by_cases h1 : 0 ≤ i
  all_goals
    go_enter Tryz.func98, Tryz.ntmps98
    go_wp2
    go_ret
    exact ⟨ret_bool (by rw [HY.out]; first | (simp [isIdx, h1]; done) | (simp [isIdx, h1]; omega)), rfl⟩

set_option maxHeartbeats 400000 in
theorem nmb_any (b : Int) (w : World) : Calls Tryz.prog 104 #[.int .u8 b] w fun e w' => e = .returned (.bool (nmb b)) ∧ w = w' := by
  obtain ⟨y, HY⟩ := named (nmb b)
  rw [← HY.out]
  by_cases h1 : b = 40
  · subst h1; go_enter Tryz.func104, Tryz.ntmps104
    go_wp2
    go_ret
    exact ⟨ret_bool (by rw [HY.out]; rfl), rfl⟩
  by_cases h2 : b = 41
  · subst h2; go_enter Tryz.func104, Tryz.ntmps104
    go_wp2
    go_ret
    exact ⟨ret_bool (by rw [HY.out]; rfl), rfl⟩
  by_cases h3 : b = 61
  · subst h3; go_enter Tryz.func104, Tryz.ntmps104
    go_wp2
    go_ret
    exact ⟨ret_bool (by rw [HY.out]; rfl), rfl⟩
  by_cases h4 : b = 44
  · subst h4; go_enter Tryz.func104, Tryz.ntmps104
    go_wp2
    go_ret
    exact ⟨ret_bool (by rw [HY.out]; rfl), rfl⟩
  by_cases h5 : b = 35
  · subst h5; go_enter Tryz.func104, Tryz.ntmps104
    go_wp2
    go_ret
    exact ⟨ret_bool (by rw [HY.out]; rfl), rfl⟩
  by_cases h6 : 33 ≤ b
  all_goals
    go_enter Tryz.func104, Tryz.ntmps104
    go_wp2
    go_ret
    exact ⟨ret_bool (by rw [HY.out]; first | (simp [nmb, h1, h2, h3, h4, h5, h6]; done) | (simp [nmb, h1, h2, h3, h4, h5, h6]; omega)), rfl⟩

theorem name_no {s : List UInt8} (k : Nat) (h : k < s.length) (hf : nmb ((s.getD k 0).toNat : Int) = false) : nameOk s = false := by
  unfold nameOk
  have : (s.all fun c => nmb (c.toNat : Int)) = false := by
    rw [List.all_eq_false]
    refine ⟨s[k], List.getElem_mem h, ?_⟩
    rw [List.getD_eq_getElem?_getD, List.getElem?_eq_getElem h] at hf
    simpa using hf
  rw [this, Bool.and_false]
theorem name_yes {s : List UInt8} (h0 : 0 < s.length) (h1 : s.length ≤ 32) (h : ∀ k, k < s.length → nmb ((s.getD k 0).toNat : Int) = true) : nameOk s = true := by
  unfold nameOk
  have : (s.all fun c => nmb (c.toNat : Int)) = true := by
    rw [List.all_eq_true]
    intro c hc
    obtain ⟨k, hk, rfl⟩ := List.mem_iff_getElem.1 hc
    have := h k hk
    rwa [List.getD_eq_getElem?_getD, List.getElem?_eq_getElem hk] at this
  simp [this, h1, h0]

set_option maxHeartbeats 1000000 in
theorem isName_any (s : ByteArray) (w : World) : Calls Tryz.prog 96 #[.string s] w fun e w' => e = .returned (.bool (nameOk s.data.toList)) ∧ w = w' := by
  obtain ⟨y, HY⟩ := named (nameOk s.data.toList)
  rw [← HY.out]
  have hlen : s.data.toList.length = s.size := by simp
  have HL := Lib.hid hlen
  clear hlen
  by_cases he : s.data.toList = []
  · obtain rfl : s = ⟨#[]⟩ := by
      obtain ⟨⟨l⟩⟩ := s
      obtain rfl : l = [] := he
      rfl
    go_enter Tryz.func96, Tryz.ntmps96
    go_wp2
    go_ret
    exact ⟨ret_bool (by rw [HY.out]; rfl), rfl⟩
  · have hpos : 0 < s.size := by rw [← HL.out]; exact List.length_pos_iff.2 he
    have hemp : s.toList.isEmpty = false := by rw [ByteArray.toList_eq]; simpa using he
    have hne : ¬ s.toList = [] := by rw [ByteArray.toList_eq]; exact he
    have HE := Lib.hid he
    clear he
    by_cases h32 : s.size ≤ 32
    · have h32' : decide (32 < (s.size : Int)) = false := by simp; omega
      go_enter Tryz.func96, Tryz.ntmps96
      go_wp2_with fail
      go_loopw [13] (fun i wr => wr = w ∧ ∃ k : Nat, k ≤ s.size ∧ i = .int .i64 k ∧ ∀ j, j < k → nmb ((s.data.toList.getD j 0).toNat : Int) = true) (fun i _ => s.size - (intOf i).toNat)
      case atStart => exact ⟨rfl, 0, Nat.zero_le _, rfl, fun j hj => absurd hj (by omega)⟩
      case round =>
        obtain ⟨rfl, k, hk, rfl, hno⟩ := hrel
        have HNO := Lib.hid hno
        clear hno
        by_cases hlt : k < s.size
        · have hb : (((s[k]'hlt).toNat : Nat) : Int) = ((s.data.toList.getD k 0).toNat : Int) := by
            rw [List.getD_eq_getElem?_getD, List.getElem?_eq_getElem (by simpa using hlt)]; rfl
          have HB := Lib.hid hb
          clear hb
          cases hv : nmb ((s[k]'hlt).toNat : Int)
          · have HV := Lib.hid hv
            clear hv
            go_wp2_with (go_at_call 104; (with_reducible refine (nmb_any _ _).mono ?_); rintro e w' ⟨rfl, rfl⟩; rw [HV.out])
            go_ret
            exact ⟨ret_bool (by rw [HY.out]; exact (name_no k (by rw [HL.out]; exact hlt) (by rw [← HB.out]; exact HV.out)).symm), rfl⟩
          · have HV := Lib.hid hv
            clear hv
            go_wp2_with (go_at_call 104; (with_reducible refine (nmb_any _ _).mono ?_); rintro e w' ⟨rfl, rfl⟩; rw [HV.out])
            go_roundw
            case rel =>
              refine ⟨by trivial, k + 1, by omega, by go_num, fun j hj => ?_⟩
              by_cases hjk : j = k
              · rw [hjk, ← HB.out]; exact HV.out
              · exact HNO.out j (by omega)
            case measure => simp [intOf]; omega
        · go_wp2
          go_ret
          exact ⟨ret_bool (by rw [HY.out]; exact (name_yes (by rw [HL.out]; exact hpos) (by rw [HL.out]; exact h32) (fun j hj => HNO.out j (by rw [HL.out] at hj; omega))).symm), rfl⟩
    · have h32' : decide (32 < (s.size : Int)) = true := by simp; omega
      have hy : nameOk s.data.toList = false := by simp [nameOk, HL.out]; omega
      have HYY := Lib.hid hy
      clear hy
      go_enter Tryz.func96, Tryz.ntmps96
      go_wp2
      go_ret
      exact ⟨ret_bool (by rw [HY.out, HYY.out]), rfl⟩

end Go.Proofs.YtfcdhoaccmckoaaGreatDoor

namespace Go.Proofs.YtfcdhoaccmckoaaGreatDoor
open Go.RowKit

def anyP (p : Int → Bool) (l : List Int) : Bool := l.any p
theorem anyP_yes {p : Int → Bool} {l : List Int} (k : Nat) (hk : k < l.length) (h : p (l.getD k 0) = true) : anyP p l = true := by
  refine List.any_eq_true.2 ⟨l[k], List.getElem_mem hk, ?_⟩
  rwa [List.getD_eq_getElem?_getD, List.getElem?_eq_getElem hk] at h
theorem anyP_no {p : Int → Bool} {l : List Int} (h : ∀ j, j < l.length → p (l.getD j 0) = false) : anyP p l = false := by
  refine List.any_eq_false.2 fun v hv => ?_
  obtain ⟨k, hk, rfl⟩ := List.mem_iff_getElem.1 hv
  have := h k hk
  rw [List.getD_eq_getElem?_getD, List.getElem?_eq_getElem hk] at this
  simpa using this
def areIdx (n : Nat) (l : List Int) : Bool := !anyP (fun x => !isIdx n x) l

def IdxP (b : Bool) (w : World) (e : Ending) (w' : World) : Prop := ∃ i : Int, e = .returned (.int .i64 i) ∧ (0 ≤ i ↔ b = true) ∧ w = w'

set_option maxHeartbeats 1000000 in
theorem indexI_any (g : Nat) (env : Value) (p : Int → Bool) (l : List Int) (s : Value) (w : World) (B : Nat) (hs : Is w B s l)
    (hp : ∀ k, k < l.length → Calls Tryz.prog g #[.int .i64 (l.getD k 0), env] w fun e w' => e = .returned (.bool (p (l.getD k 0))) ∧ w = w') (hg : g = 97 ∨ g = 92) :
    Calls Tryz.prog 102 #[s, .func (.func g) #[] #[env]] w (IdxP (anyP p l) w) := by
  obtain ⟨A, b, o, c, rfl, hA, -, hm, hc⟩ := hs.opens
  unfold maxLen at hm
  have HC := Lib.hid hc
  have HP := Lib.hid hp
  have HAA := Lib.hid hA
  clear hc hp hA hs
  obtain ⟨n, hn⟩ : ∃ n, n = l.length := ⟨_, rfl⟩
  rw [← hn] at hm
  rw [← hn]
  have HN := Lib.hid hn
  clear hn
  rcases hg with rfl | rfl
  · go_enter Tryz.func102, Tryz.ntmps102
    go_wp2
    go_loopw [8] (fun i wr => wr = w ∧ ∃ k : Nat, k ≤ n ∧ i = .int .i64 k ∧ ∀ j, j < k → p (l.getD j 0) = false) (fun i _ => n - (intOf i).toNat)
    case atStart => exact ⟨rfl, 0, Nat.zero_le _, rfl, fun j hj => absurd hj (by omega)⟩
    case round =>
      obtain ⟨rfl, k, hk, rfl, hno⟩ := hrel
      have HNO := Lib.hid hno
      clear hno
      by_cases hlt : k < n
      · obtain rfl := HAA.out (by rw [← HN.out]; omega)
        have hcell := (HC.out k (by rw [← HN.out]; omega)).2
        obtain ⟨x, HX⟩ := named (l.getD k 0)
        rw [← HX.out] at hcell
        have hcall := HP.out k (by rw [← HN.out]; omega)
        rw [← HX.out] at hcall
        cases hv : p x
        · rw [hv] at hcall
          have HCALL := Lib.hid hcall
          have HV := Lib.hid hv
          clear hcall hv
          go_wp2_with (go_at_call 97; (with_reducible refine HCALL.out.mono ?_); rintro e w' ⟨rfl, rfl⟩)
          go_roundw
          case rel =>
            refine ⟨by trivial, k + 1, by omega, by go_num, fun j hj => ?_⟩
            by_cases hjk : j = k
            · rw [hjk, ← HX.out]; exact HV.out
            · exact HNO.out j (by omega)
          case measure => simp [intOf]; omega
        · rw [hv] at hcall
          have HCALL := Lib.hid hcall
          have HV := Lib.hid hv
          clear hcall hv
          go_wp2_with (go_at_call 97; (with_reducible refine HCALL.out.mono ?_); rintro e w' ⟨rfl, rfl⟩)
          go_ret
          exact ⟨k, rfl, ⟨fun _ => anyP_yes k (by rw [← HN.out]; omega) (by rw [← HX.out]; exact HV.out), fun _ => by omega⟩, rfl⟩
      · go_wp2
        go_ret
        exact ⟨-1, rfl, ⟨fun h => absurd h (by omega), fun h => by rw [anyP_no (fun j hj => HNO.out j (by rw [← HN.out] at hj; omega))] at h; cases h⟩, rfl⟩
  · go_enter Tryz.func102, Tryz.ntmps102
    go_wp2
    go_loopw [8] (fun i wr => wr = w ∧ ∃ k : Nat, k ≤ n ∧ i = .int .i64 k ∧ ∀ j, j < k → p (l.getD j 0) = false) (fun i _ => n - (intOf i).toNat)
    case atStart => exact ⟨rfl, 0, Nat.zero_le _, rfl, fun j hj => absurd hj (by omega)⟩
    case round =>
      obtain ⟨rfl, k, hk, rfl, hno⟩ := hrel
      have HNO := Lib.hid hno
      clear hno
      by_cases hlt : k < n
      · obtain rfl := HAA.out (by rw [← HN.out]; omega)
        have hcell := (HC.out k (by rw [← HN.out]; omega)).2
        obtain ⟨x, HX⟩ := named (l.getD k 0)
        rw [← HX.out] at hcell
        have hcall := HP.out k (by rw [← HN.out]; omega)
        rw [← HX.out] at hcall
        cases hv : p x
        · rw [hv] at hcall
          have HCALL := Lib.hid hcall
          have HV := Lib.hid hv
          clear hcall hv
          go_wp2_with (go_at_call 92; (with_reducible refine HCALL.out.mono ?_); rintro e w' ⟨rfl, rfl⟩)
          go_roundw
          case rel =>
            refine ⟨by trivial, k + 1, by omega, by go_num, fun j hj => ?_⟩
            by_cases hjk : j = k
            · rw [hjk, ← HX.out]; exact HV.out
            · exact HNO.out j (by omega)
          case measure => simp [intOf]; omega
        · rw [hv] at hcall
          have HCALL := Lib.hid hcall
          have HV := Lib.hid hv
          clear hcall hv
          go_wp2_with (go_at_call 92; (with_reducible refine HCALL.out.mono ?_); rintro e w' ⟨rfl, rfl⟩)
          go_ret
          exact ⟨k, rfl, ⟨fun _ => anyP_yes k (by rw [← HN.out]; omega) (by rw [← HX.out]; exact HV.out), fun _ => by omega⟩, rfl⟩
      · go_wp2
        go_ret
        exact ⟨-1, rfl, ⟨fun h => absurd h (by omega), fun h => by rw [anyP_no (fun j hj => HNO.out j (by rw [← HN.out] at hj; omega))] at h; cases h⟩, rfl⟩

set_option maxHeartbeats 400000 in
theorem containsI_any (g : Nat) (env : Value) (p : Int → Bool) (l : List Int) (s : Value) (w : World) (B : Nat) (hs : Is w B s l)
    (hp : ∀ k, k < l.length → Calls Tryz.prog g #[.int .i64 (l.getD k 0), env] w fun e w' => e = .returned (.bool (p (l.getD k 0))) ∧ w = w') (hg : g = 97 ∨ g = 92) :
    Calls Tryz.prog 91 #[s, .func (.func g) #[] #[env]] w fun e w' => e = .returned (.bool (anyP p l)) ∧ w = w' := by
  obtain ⟨y, HY⟩ := named (anyP p l)
  rw [← HY.out]
  have HI := Lib.hid (indexI_any g env p l s w B hs hp hg)
  clear hs hp hg
  go_enter Tryz.func91, Tryz.ntmps91
  go_wp2_with (go_at_call 102; (with_reducible refine HI.out.mono ?_); rintro e w' ⟨i, rfl, hi, rfl⟩; have HI2 := Lib.hid hi; clear hi)
  go_ret
  exact ⟨ret_bool (by rw [HY.out]; exact Bool.eq_iff_iff.2 (by simpa using HI2.out)), rfl⟩

set_option maxHeartbeats 400000 in
theorem areNets1_any (x : Int) (A : Option Addr) (n c : Nat) (q : Nat) (w : World) (h0 : w.cell? ⟨q, 0, none⟩ = some (.slice A n c)) :
    Calls Tryz.prog 97 #[.int .i64 x, .pointer (some ⟨q, 0, none⟩)] w fun e w' => e = .returned (.bool (!isIdx n x)) ∧ w = w' := by
  go_enter Tryz.func97, Tryz.ntmps97
  go_wp2_with (go_at_call 98; (with_reducible refine (idx_any _ _ _).mono ?_); rintro e w' ⟨rfl, rfl⟩)
  go_ret
  exact ⟨rfl, rfl⟩

set_option maxHeartbeats 400000 in
theorem areNets_any (A0 A1 A2 A3 : Option Addr) (n0 c0 n1 c1 n2 c2 n3 c3 : Nat) (l : List Int) (s : Value) (w : World) (B : Nat) (hB : B ≤ w.heap.size) (hs : Is w B s l) :
    Calls Tryz.prog 83 #[.agg #[.slice A0 n0 c0, .slice A1 n1 c1, .slice A2 n2 c2, .slice A3 n3 c3], s] w fun e w' => e = .returned (.bool (areIdx n0 l)) ∧ Below w.heap.size w w' := by
  have hb : Below w.heap.size w (w.alloc (.cells #[.slice A0 n0 c0, .slice A1 n1 c1, .slice A2 n2 c2, .slice A3 n3 c3] 35)) := (Below.refl _ _).alloc (Nat.le_refl _) _
  have hcell : (w.alloc (.cells #[.slice A0 n0 c0, .slice A1 n1 c1, .slice A2 n2 c2, .slice A3 n3 c3] 35)).cell? ⟨w.heap.size, 0, none⟩ = some (.slice A0 n0 c0) := by
    rw [World.cell?_alloc_at _ _ _ _ rfl]; rfl
  have hI := containsI_any 97 (.pointer (some ⟨w.heap.size, 0, none⟩)) (fun x => !isIdx n0 x) l s _ B (hs.below (hb.mono hB)) (fun k _ => areNets1_any _ A0 n0 c0 _ _ hcell) (.inl rfl)
  obtain ⟨y, HY⟩ := named (anyP (fun x => !isIdx n0 x) l)
  rw [← HY.out] at hI
  have HI := Lib.hid hI
  have HB := Lib.hid hb
  clear hI hcell hs hb
  go_enter Tryz.func83, Tryz.ntmps83
  go_wp2_with (go_at_call 91; (with_reducible refine HI.out.mono ?_); rintro e w' ⟨rfl, rfl⟩)
  go_ret
  exact ⟨ret_bool (by rw [areIdx, HY.out]), HB.out⟩

end Go.Proofs.YtfcdhoaccmckoaaGreatDoor

namespace Go.Proofs.YtfcdhoaccmckoaaGreatDoor
open Go.RowKit

def placeOk (c : Ck) (x : Nd) : Bool :=
  if x.kind = 15 then isIdx c.mems.length x.mem && isIdx (c.mems.getD x.mem.toNat default).data.length x.bit else x.mem == 0 && x.bit == 0
def notTri (c : Ck) (net : Int) : Bool := !((c.nodes.getD net.toNat default).kind == 12)
def nodeErr (c : Ck) (x : Nd) : Int :=
  if 15 < x.kind then 7 else if (x.ins.length : Int) < lo x.kind then 8 else if hi x.kind < (x.ins.length : Int) then 8
  else if areIdx c.nodes.length x.ins = false then 1
  else if x.kind = 13 ∧ anyP (notTri c) x.ins = true then 7
  else if placeOk c x = false then 1 else 0
def memErr (c : Ck) (x : Mm) : Int :=
  if x.addr.length < 1 ∨ 8 < x.addr.length ∨ x.data.length < 1 ∨ 32 < x.data.length then 8
  else if isIdx c.nodes.length x.write = false ∨ areIdx c.nodes.length x.addr = false ∨ areIdx c.nodes.length x.data = false then 1 else 0

theorem isIdx_iff {n : Nat} {i : Int} : isIdx n i = true ↔ 0 ≤ i ∧ i < (n : Int) := by simp [isIdx]
theorem areIdx_iff {n : Nat} {l : List Int} : areIdx n l = true ↔ ∀ x ∈ l, 0 ≤ x ∧ x < (n : Int) := by
  unfold areIdx anyP
  rw [Bool.not_eq_true', List.any_eq_false]
  constructor
  · intro h x hx
    have := h x hx
    exact isIdx_iff.1 (by simpa using this)
  · intro h x hx
    have := isIdx_iff.2 (h x hx)
    simp [this]

theorem getD_mem' {l : List Int} {k : Nat} (h : k < l.length) : l.getD k 0 ∈ l := by
  rw [List.getD_eq_getElem?_getD, List.getElem?_eq_getElem h]; exact List.getElem_mem h

set_option maxHeartbeats 400000 in
theorem tri1_any (c : Ck) (x : Int) (A : Option Addr) (cp : Nat) (q : Nat) (w : World) (B : Nat) (h0 : w.cell? ⟨q, 0, none⟩ = some (.slice A c.nodes.length cp)) (hn : Ns w B (.slice A c.nodes.length cp) c.nodes) (hx : 0 ≤ x ∧ x < (c.nodes.length : Int)) :
    Calls Tryz.prog 92 #[.int .i64 x, .pointer (some ⟨q, 0, none⟩)] w fun e w' => e = .returned (.bool (notTri c x)) ∧ w = w' := by
  obtain ⟨hx0, hx1⟩ := hx
  obtain ⟨k, rfl⟩ := Int.eq_ofNat_of_zero_le hx0
  obtain ⟨A', b, o, c', e, hA, -, hm, hc⟩ := hn
  simp only [Value.slice.injEq, true_and] at e
  obtain ⟨rfl, rfl⟩ := e
  have hk : k < c.nodes.length := by omega
  obtain rfl := hA (by omega)
  obtain ⟨hlt, s, h1, -⟩ := hc k hk
  obtain ⟨kd, HK⟩ := named (c.nodes.getD k default).kind
  rw [← HK.out] at h1
  have hy : notTri c (k : Int) = !(kd == 12) := by rw [HK.out]; rfl
  obtain ⟨y, HY⟩ := named (notTri c (k : Int))
  rw [← HY.out]
  have HYY := Lib.hid hy
  obtain ⟨n, HN⟩ := named c.nodes.length
  rw [← HN.out] at h0 hx1 hk hm
  unfold maxLen at hm
  clear hy hc hA
  go_enter Tryz.func92, Tryz.ntmps92
  go_wp2
  go_ret
  exact ⟨ret_bool (by rw [HY.out, HYY.out]; rfl), rfl⟩

/-- The number of bits of a memory, where it lies. -/
theorem mem_bits {c : Ck} {m : Nat} {A : Option Addr} {cp : Nat} {w : World} {B : Nat} (hn : Ms w B (.slice A c.mems.length cp) c.mems) (hm : m < c.mems.length) :
    ∃ b o, A = some ⟨b, o, none⟩ ∧ b < B ∧ ∃ A' d', w.cell? ⟨b, o + m * 3 + 1, none⟩ = some (.slice A' (c.mems.getD m default).data.length d') := by
  obtain ⟨A', b, o, c', e, hA, -, -, hc⟩ := hn
  simp only [Value.slice.injEq, true_and] at e
  obtain ⟨rfl, rfl⟩ := e
  obtain rfl := hA (by omega)
  obtain ⟨hlt, s, t, h0, h1, h2, h3, h4⟩ := hc m hm
  obtain ⟨A2, b2, o2, c2, rfl, -⟩ := h4
  exact ⟨b, o, rfl, hlt, A2, c2, h1⟩

set_option maxHeartbeats 1000000 in
theorem hasPlace_any (c : Ck) (x : Nd) (A0 A1 A2 A3 A4 : Option Addr) (n0 c0 n1 c1 c2 n3 c3 n4 c4 : Nat) (w : World) (B : Nat) (hB : B ≤ w.heap.size) (hn : Ms w B (.slice A2 c.mems.length c2) c.mems) :
    Calls Tryz.prog 93 #[.agg #[.slice A0 n0 c0, .slice A1 n1 c1, .slice A2 c.mems.length c2, .slice A3 n3 c3], .agg #[.int .u8 x.kind, .slice A4 n4 c4, .int .i64 x.mem, .int .i64 x.bit]] w
      fun e w' => e = .returned (.bool (placeOk c x)) ∧ Below w.heap.size w w' := by
  obtain ⟨y, HY⟩ := named (placeOk c x)
  rw [← HY.out]
  have hm2 : c.mems.length ≤ maxLen := by obtain ⟨_, _, _, _, e, _, _, h, _⟩ := hn; exact h
  unfold maxLen at hm2
  obtain ⟨kd, HK⟩ := named x.kind
  obtain ⟨mm, HM⟩ := named x.mem
  obtain ⟨bt, HT⟩ := named x.bit
  rw [← HK.out, ← HM.out, ← HT.out]
  have hy : placeOk c x = if kd = 15 then isIdx c.mems.length mm && isIdx (c.mems.getD mm.toNat default).data.length bt else mm == 0 && bt == 0 := by rw [HK.out, HM.out, HT.out]; rfl
  have hbits : ∀ m : Nat, m < c.mems.length → _ := fun m => mem_bits hn (m := m)
  obtain ⟨n, HN⟩ := named c.mems.length
  rw [← HN.out] at hm2 hy hbits
  rw [← HN.out]
  have HYY := Lib.hid hy
  have HB := Lib.hid hbits
  clear hy hn hbits
  by_cases h15 : kd = 15
  · subst h15
    cases hi : isIdx n mm
    · have HI := Lib.hid hi
      clear hi
      go_enter Tryz.func93, Tryz.ntmps93
      go_wp2
      go_quiet (first | (go_at_call 98; exact Calls.quiet_of_same ((idx_any _ _ _).mono fun _ _ h => ⟨h.1.trans (by rw [HI.out]), h.2.symm⟩)) | (go_at_call 98; exact Calls.quiet_of_same ((idx_any _ _ _).mono fun _ _ h => ⟨h.1, h.2.symm⟩)))
      go_wp2
      go_ret
      exact ⟨ret_bool (by rw [HY.out, HYY.out, if_pos trivial, HI.out]; rfl), below_drewN (((Below.refl _ _).alloc (Nat.le_refl _) _).alloc (by simp) _) _⟩
    · obtain ⟨h0, h1⟩ := isIdx_iff.1 hi
      obtain ⟨m, rfl⟩ := Int.eq_ofNat_of_zero_le h0
      obtain ⟨b, o, rfl, hlt, A', d', hcell⟩ := HB.out m (by omega)
      have hlt' : b < w.heap.size := by omega
      rw [Int.toNat_natCast] at HYY
      obtain ⟨d, HD⟩ := named (c.mems.getD m default).data.length
      rw [← HD.out] at hcell
      have HI := Lib.hid hi
      clear hi
      go_enter Tryz.func93, Tryz.ntmps93
      go_wp2
      go_quiet (first | (go_at_call 98; exact Calls.quiet_of_same ((idx_any _ _ _).mono fun _ _ h => ⟨h.1.trans (by rw [HI.out]), h.2.symm⟩)) | (go_at_call 98; exact Calls.quiet_of_same ((idx_any _ _ _).mono fun _ _ h => ⟨h.1, h.2.symm⟩)))
      go_wp2
      go_ret
      exact ⟨ret_bool (by rw [HY.out, HYY.out, if_pos trivial, HI.out, HD.out]; rfl), below_drewN (((Below.refl _ _).alloc (Nat.le_refl _) _).alloc (by simp) _) _⟩
  · have hne : (kd == 15) = false := by simpa using h15
    have H15 := Lib.hid h15
    clear h15
    cases h0 : mm == 0
    all_goals
      have H0 := Lib.hid h0
      go_enter Tryz.func93, Tryz.ntmps93
      go_wp2
      go_ret
      exact ⟨ret_bool (by rw [HY.out, HYY.out, if_neg H15.out, H0.out]; rfl), ((Below.refl _ _).alloc (Nat.le_refl _) _).alloc (by simp) _⟩

set_option maxHeartbeats 2000000 in
theorem checkNode_any (c : Ck) (x : Nd) (A0 A1 A2 A3 A4 : Option Addr) (c0 c1 c2 c3 c4 : Nat) (w : World) (B : Nat) (hB : B ≤ w.heap.size) (hT : Tabs w)
    (hns : Ns w B (.slice A0 c.nodes.length c0) c.nodes) (hms : Ms w B (.slice A2 c.mems.length c2) c.mems) (hin : Is w B (.slice A4 x.ins.length c4) x.ins) (hk : 0 ≤ x.kind) :
    Calls Tryz.prog 78 #[.agg #[.slice A0 c.nodes.length c0, .slice A1 c.names.length c1, .slice A2 c.mems.length c2, .slice A3 c.outs.length c3], .agg #[.int .u8 x.kind, .slice A4 x.ins.length c4, .int .i64 x.mem, .int .i64 x.bit]] w
      fun e w' => e = .returned (.int .i64 (nodeErr c x)) ∧ Below w.heap.size w w' := by
  obtain ⟨W, HW⟩ := named ((w.alloc (.cells #[.slice A0 c.nodes.length c0, .slice A1 c.names.length c1, .slice A2 c.mems.length c2, .slice A3 c.outs.length c3] 35)).alloc (.cells #[.int .u8 x.kind, .slice A4 x.ins.length c4, .int .i64 x.mem, .int .i64 x.bit] 54))
  have hbW : Below w.heap.size w W := by rw [HW.out]; exact ((Below.refl _ _).alloc (Nat.le_refl _) _).alloc (by simp) _
  have hbox : W.cell? ⟨w.heap.size, 0, none⟩ = some (.slice A0 c.nodes.length c0) := by
    rw [HW.out, World.cell?_alloc_past _ _ _ (by simp), World.cell?_alloc_at _ _ _ _ rfl]; rfl
  have hszW : w.heap.size + 2 = W.heap.size := by rw [HW.out]; simp
  have hF := fanin_any x.kind hk W (hT.below hbW)
  have hA : ∀ m, Calls Tryz.prog 83 #[.agg #[.slice A0 c.nodes.length c0, .slice A1 c.names.length c1, .slice A2 c.mems.length c2, .slice A3 c.outs.length c3], .slice A4 x.ins.length c4] (W.drewN m) fun e w' => e = .returned (.bool (areIdx c.nodes.length x.ins)) ∧ Below (W.drewN m).heap.size (W.drewN m) w' :=
    fun m => areNets_any _ _ _ _ _ _ _ _ _ _ _ _ _ _ _ B (Nat.le_trans hB (below_drewN hbW m).size) (hin.below ((below_drewN hbW m).mono hB))
  have hC : areIdx c.nodes.length x.ins = true → ∀ m w1, Below (W.drewN m).heap.size (W.drewN m) w1 → Calls Tryz.prog 91 #[.slice A4 x.ins.length c4, .func (.func 92) #[] #[.pointer (some ⟨w.heap.size, 0, none⟩)]] w1 fun e w' => e = .returned (.bool (anyP (notTri c) x.ins)) ∧ w1 = w' := by
    intro ha m w1 h1
    have hb1 : Below w.heap.size w w1 := joinB (below_drewN hbW m) h1
    have hcell : w1.cell? ⟨w.heap.size, 0, none⟩ = some (.slice A0 c.nodes.length c0) := by
      rw [h1.cell (p := ⟨w.heap.size, 0, none⟩) (by show w.heap.size < W.heap.size; omega)]; exact hbox
    exact containsI_any _ _ _ _ _ _ B (hin.below (hb1.mono hB)) (fun k hk' => tri1_any c _ A0 c0 _ w1 B hcell (hns.below (hb1.mono hB)) (areIdx_iff.1 ha _ (getD_mem' hk'))) (.inr rfl)
  have hP : ∀ m w1, Below (W.drewN m).heap.size (W.drewN m) w1 → Calls Tryz.prog 93 #[.agg #[.slice A0 c.nodes.length c0, .slice A1 c.names.length c1, .slice A2 c.mems.length c2, .slice A3 c.outs.length c3], .agg #[.int .u8 x.kind, .slice A4 x.ins.length c4, .int .i64 x.mem, .int .i64 x.bit]] w1 fun e w' => e = .returned (.bool (placeOk c x)) ∧ Below w1.heap.size w1 w' := by
    intro m w1 h1
    have hb1 : Below w.heap.size w w1 := joinB (below_drewN hbW m) h1
    exact hasPlace_any c x _ _ _ _ _ _ _ _ _ _ _ _ _ _ w1 B (Nat.le_trans hB hb1.size) (hms.below (hb1.mono hB))
  obtain ⟨y, HY⟩ := named (nodeErr c x)
  rw [← HY.out]
  have hy : nodeErr c x = if 15 < x.kind then 7 else if (x.ins.length : Int) < lo x.kind then 8 else if hi x.kind < (x.ins.length : Int) then 8 else if areIdx c.nodes.length x.ins = false then 1 else if x.kind = 13 ∧ anyP (notTri c) x.ins = true then 7 else if placeOk c x = false then 1 else 0 := rfl
  clear hns hms hin hT hbox
  generalize areIdx c.nodes.length x.ins = ok at hy hA hC
  generalize anyP (notTri c) x.ins = tri at hy hC
  generalize placeOk c x = pl at hy hP
  generalize lo x.kind = a at hy hF
  generalize hi x.kind = b at hy hF
  generalize x.kind = kd at hy hF hP hk HW ⊢
  generalize x.mem = mm at hP HW ⊢
  generalize x.bit = bt at hP HW ⊢
  generalize x.ins.length = ni at hy hA hC hP HW ⊢
  generalize c.nodes.length = n0 at hA hC hP HW ⊢
  generalize c.names.length = n1 at hA hP HW ⊢
  generalize c.mems.length = n2 at hA hP HW ⊢
  generalize c.outs.length = n3 at hA hP HW ⊢
  have HYY := Lib.hid hy
  obtain rfl := HW.out
  have HF := Lib.hid hF
  have HA := Lib.hid hA
  have HC := Lib.hid hC
  have HP := Lib.hid hP
  have HBW := Lib.hid hbW
  clear hy hF hA hC hP HW hbW hszW
  by_cases h15 : 15 < kd
  · have hv : nodeErr c x = 7 := by rw [HYY.out, if_pos h15]
    have HV := Lib.hid hv
    clear hv
    go_enter Tryz.func78, Tryz.ntmps78
    go_wp2_with (go_at_call 49; (with_reducible refine HF.out.mono ?_); rintro e w' ⟨rfl, m, rfl⟩)
    go_ret
    exact ⟨ret_int (by rw [HY.out, HV.out]), below_drewN HBW.out _⟩
  by_cases hl : (ni : Int) < a
  · have hv : nodeErr c x = 8 := by rw [HYY.out, if_neg h15, if_pos hl]
    have HV := Lib.hid hv
    clear hv
    go_enter Tryz.func78, Tryz.ntmps78
    go_wp2_with (go_at_call 49; (with_reducible refine HF.out.mono ?_); rintro e w' ⟨rfl, m, rfl⟩)
    go_ret
    exact ⟨ret_int (by rw [HY.out, HV.out]), below_drewN HBW.out _⟩
  by_cases hh : b < (ni : Int)
  · have hv : nodeErr c x = 8 := by rw [HYY.out, if_neg h15, if_neg hl, if_pos hh]
    have HV := Lib.hid hv
    clear hv
    go_enter Tryz.func78, Tryz.ntmps78
    go_wp2_with (go_at_call 49; (with_reducible refine HF.out.mono ?_); rintro e w' ⟨rfl, m, rfl⟩)
    go_ret
    exact ⟨ret_int (by rw [HY.out, HV.out]), below_drewN HBW.out _⟩
  cases ok
  · have hv : nodeErr c x = 1 := by rw [HYY.out, if_neg h15, if_neg hl, if_neg hh, if_pos rfl]
    have HV := Lib.hid hv
    clear hv
    go_enter Tryz.func78, Tryz.ntmps78
    go_wp2_with (first
        | (go_at_call 49; (with_reducible refine HF.out.mono ?_); rintro e w' ⟨rfl, m, rfl⟩)
        | (go_at_call 83; (with_reducible refine (HA.out _).mono ?_); rintro e w1 ⟨rfl, hb⟩; have HB1 := Lib.hid hb; obtain ⟨hc, hf⟩ := bcell hb; clear hb))
    go_ret
    exact ⟨ret_int (by rw [HY.out, HV.out]), joinB (below_drewN HBW.out _) HB1.out⟩
  have HCC := Lib.hid (HC.out rfl)
  clear HC
  have hok : ¬ (true = false) := by decide
  have HOK := Lib.hid hok
  clear hok
  cases h13 : (kd == 13)
  · have hn13 : ∀ q : Prop, ¬ (kd = 13 ∧ q) := fun q h => by rw [h.1] at h13; exact absurd h13 (by decide)
    have HN13 := Lib.hid hn13
    clear hn13
    cases pl
    · have hv : nodeErr c x = 1 := by rw [HYY.out, if_neg h15, if_neg hl, if_neg hh, if_neg HOK.out, if_neg (HN13.out _), if_pos rfl]
      have HV := Lib.hid hv
      clear hv
      go_enter Tryz.func78, Tryz.ntmps78
      go_wp2_with (first
          | (go_at_call 49; (with_reducible refine HF.out.mono ?_); rintro e w' ⟨rfl, m, rfl⟩)
          | (go_at_call 83; (with_reducible refine (HA.out _).mono ?_); rintro e w1 ⟨rfl, hb⟩; have HB1 := Lib.hid hb; obtain ⟨hc, hf⟩ := bcell hb; clear hb)
          | (go_at_call 93; (with_reducible refine (HP.out _ _ HB1.out).mono ?_); rintro e w2 ⟨rfl, hb⟩; have HB2 := Lib.hid hb; clear hb))
      go_ret
      exact ⟨ret_int (by rw [HY.out, HV.out]), joinB (joinB (below_drewN HBW.out _) HB1.out) HB2.out⟩
    · have hv : nodeErr c x = 0 := by rw [HYY.out, if_neg h15, if_neg hl, if_neg hh, if_neg HOK.out, if_neg (HN13.out _), if_neg HOK.out]
      have HV := Lib.hid hv
      clear hv
      go_enter Tryz.func78, Tryz.ntmps78
      go_wp2_with (first
          | (go_at_call 49; (with_reducible refine HF.out.mono ?_); rintro e w' ⟨rfl, m, rfl⟩)
          | (go_at_call 83; (with_reducible refine (HA.out _).mono ?_); rintro e w1 ⟨rfl, hb⟩; have HB1 := Lib.hid hb; obtain ⟨hc, hf⟩ := bcell hb; clear hb)
          | (go_at_call 93; (with_reducible refine (HP.out _ _ HB1.out).mono ?_); rintro e w2 ⟨rfl, hb⟩; have HB2 := Lib.hid hb; clear hb))
      go_ret
      exact ⟨ret_int (by rw [HY.out, HV.out]), joinB (joinB (below_drewN HBW.out _) HB1.out) HB2.out⟩
  · have hk13 : kd = 13 := by simpa using h13
    have HK13 := Lib.hid hk13
    clear hk13
    have hft : ∀ q : Prop, ¬ (q ∧ false = true) := fun q h => by cases h.2
    have HFT := Lib.hid hft
    clear hft
    cases tri
    · cases pl
      · have hv : nodeErr c x = 1 := by rw [HYY.out, if_neg h15, if_neg hl, if_neg hh, if_neg HOK.out, if_neg (HFT.out _), if_pos rfl]
        have HV := Lib.hid hv
        clear hv
        go_enter Tryz.func78, Tryz.ntmps78
        go_wp2_with (first
            | (go_at_call 49; (with_reducible refine HF.out.mono ?_); rintro e w' ⟨rfl, m, rfl⟩)
            | (go_at_call 83; (with_reducible refine (HA.out _).mono ?_); rintro e w1 ⟨rfl, hb⟩; have HB1 := Lib.hid hb; obtain ⟨hc, hf⟩ := bcell hb; clear hb)
            | (go_at_call 91; (with_reducible refine (HCC.out _ _ HB1.out).mono ?_); rintro e w2 ⟨rfl, rfl⟩)
            | (go_at_call 93; (with_reducible refine (HP.out _ _ HB1.out).mono ?_); rintro e w2 ⟨rfl, hb⟩; have HB2 := Lib.hid hb; clear hb))
        go_ret
        exact ⟨ret_int (by rw [HY.out, HV.out]), joinB (joinB (below_drewN HBW.out _) HB1.out) HB2.out⟩
      · have hv : nodeErr c x = 0 := by rw [HYY.out, if_neg h15, if_neg hl, if_neg hh, if_neg HOK.out, if_neg (HFT.out _), if_neg HOK.out]
        have HV := Lib.hid hv
        clear hv
        go_enter Tryz.func78, Tryz.ntmps78
        go_wp2_with (first
            | (go_at_call 49; (with_reducible refine HF.out.mono ?_); rintro e w' ⟨rfl, m, rfl⟩)
            | (go_at_call 83; (with_reducible refine (HA.out _).mono ?_); rintro e w1 ⟨rfl, hb⟩; have HB1 := Lib.hid hb; obtain ⟨hc, hf⟩ := bcell hb; clear hb)
            | (go_at_call 91; (with_reducible refine (HCC.out _ _ HB1.out).mono ?_); rintro e w2 ⟨rfl, rfl⟩)
            | (go_at_call 93; (with_reducible refine (HP.out _ _ HB1.out).mono ?_); rintro e w2 ⟨rfl, hb⟩; have HB2 := Lib.hid hb; clear hb))
        go_ret
        exact ⟨ret_int (by rw [HY.out, HV.out]), joinB (joinB (below_drewN HBW.out _) HB1.out) HB2.out⟩
    · have hv : nodeErr c x = 7 := by rw [HYY.out, if_neg h15, if_neg hl, if_neg hh, if_neg HOK.out, if_pos ⟨HK13.out, rfl⟩]
      have HV := Lib.hid hv
      clear hv
      go_enter Tryz.func78, Tryz.ntmps78
      go_wp2_with (first
          | (go_at_call 49; (with_reducible refine HF.out.mono ?_); rintro e w' ⟨rfl, m, rfl⟩)
          | (go_at_call 83; (with_reducible refine (HA.out _).mono ?_); rintro e w1 ⟨rfl, hb⟩; have HB1 := Lib.hid hb; obtain ⟨hc, hf⟩ := bcell hb; clear hb)
          | (go_at_call 91; (with_reducible refine (HCC.out _ _ HB1.out).mono ?_); rintro e w2 ⟨rfl, rfl⟩))
      go_ret
      exact ⟨ret_int (by rw [HY.out, HV.out]), joinB (below_drewN HBW.out _) HB1.out⟩

end Go.Proofs.YtfcdhoaccmckoaaGreatDoor
