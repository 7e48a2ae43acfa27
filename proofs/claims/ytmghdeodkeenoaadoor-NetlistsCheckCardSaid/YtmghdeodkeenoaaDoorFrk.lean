/- Drawn statements: two operations may come up. -/
import Derived.Test.YtmghdeodkeenoaaDoorHel
namespace Go.Proofs.YtmghdeodkeenoaaDoor

section
variable {P : Program} {ops : Array Oper} {Q : Exit → Act → World → Prop} {md : Region.Mode} {S : World → Prop} {t : Nat}
/-- Two may come up. -/
theorem AnyX.fork {i j : Nat} {oi oj : Oper} {f : Nat} {listed : Array Bool} {a : Act} {w : World} (hr : Region.ready md ops listed = [i, j]) (hoi : ops[i]? = some oi) (hoj : ops[j]? = some oj)
    (hi : ∀ K' : Act → World → Prop, (∀ a' w', (i ≠ t → S w') → AnyX P md ops Q S t f (listed.setIfInBounds i true) a' w' → K' a' w') → if Region.wanted oi (yielded ops a.tmps) = true then Oper.wp P oi a w K' Q else K' (a.put oi.dst undef) w)
    (hj : ∀ K' : Act → World → Prop, (∀ a' w', (j ≠ t → S w') → AnyX P md ops Q S t f (listed.setIfInBounds j true) a' w' → K' a' w') → if Region.wanted oj (yielded ops a.tmps) = true then Oper.wp P oj a w K' Q else K' (a.put oj.dst undef) w) :
    AnyX P md ops Q S t (f + 1) listed a w := by
  refine ⟨fun h0 => absurd (hr.symm.trans h0) (by simp), fun k hk => ?_⟩
  rw [hr] at hk
  rcases List.mem_cons.1 hk with rfl | hk
  · exact wpOp_step hoi (fun K' hK => hi K' fun a' w' h1 h2 => hK a' w' ⟨h1, h2⟩)
  · obtain rfl := List.mem_singleton.1 hk
    exact wpOp_step hoj (fun K' hK => hj K' fun a' w' h1 h2 => hK a' w' ⟨h1, h2⟩)
end

end Go.Proofs.YtmghdeodkeenoaaDoor
