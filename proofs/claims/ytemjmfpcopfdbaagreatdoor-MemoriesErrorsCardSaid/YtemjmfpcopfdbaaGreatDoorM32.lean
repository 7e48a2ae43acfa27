/- The texts Ab9. -/
import Derived.Test.YtemjmfpcopfdbaaGreatDoorM31
import Derived.Test.YtemjmfpcopfdbaaGreatDoorM16
import Derived.Deep.AppendLies
namespace Go.Proofs.YtemjmfpcopfdbaaGreatDoor
open Go.RowKit
theorem Wrds.at9{w:World}{B:Nat}{A:Option Addr}{n c:Nat}{ws:List (List Int)}(h:Wrds w B (.slice A n c) ws){i:Nat}(hi:i<n):∃b o Aw cw,A=some ⟨b,o,none⟩∧b<B∧w.cell? ⟨b,o+i,none⟩=some (.slice Aw (ws.getD i []).length cw)∧Ks w B (.slice Aw (ws.getD i []).length cw) (ws.getD i []):=by
 obtain⟨A',b,o,c',e,hA,-,-,hc⟩:=h
 simp only[Value.slice.injEq]at e
 obtain⟨rfl,hn,rfl⟩:=e
 obtain⟨hb,Aw,cw,h1,h2⟩:=hc i (by omega)
 rw[Nat.mul_one]at h1
 exact⟨b,o,Aw,cw,hA (by omega),hb,h1,h2⟩
theorem Wwss.at9{w:World}{B:Nat}{A:Option Addr}{n c:Nat}{ws:List (List (List Int))}(h:Wwss w B (.slice A n c) ws){k:Nat}(hk:k<n):∃b o Aw cw,A=some ⟨b,o,none⟩∧b<B∧w.cell? ⟨b,o+k,none⟩=some (.slice Aw (ws.getD k []).length cw)∧Wrds w B (.slice Aw (ws.getD k []).length cw) (ws.getD k []):=by
 obtain⟨A',b,o,c',e,hA,-,-,hc⟩:=h
 simp only[Value.slice.injEq]at e
 obtain⟨rfl,hn,rfl⟩:=e
 obtain⟨hb,Aw,cw,h1,h2⟩:=hc k (by omega)
 rw[Nat.mul_one]at h1
 exact⟨b,o,Aw,cw,hA (by omega),hb,h1,h2⟩
end Go.Proofs.YtemjmfpcopfdbaaGreatDoor
