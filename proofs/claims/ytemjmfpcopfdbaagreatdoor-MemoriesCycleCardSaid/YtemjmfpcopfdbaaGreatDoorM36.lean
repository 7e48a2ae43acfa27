/- The texts Lv9 Knp Kn9 Bs9 R17 R16. -/
import Derived.Test.YtemjmfpcopfdbaaGreatDoorM35
import Derived.Test.YtemjmfpcopfdbaaGreatDoorM31
import Derived.Test.YtemjmfpcopfdbaaGreatDoorM33
import Derived.Test.YtemjmfpcopfdbaaGreatDoorM19
import Derived.Test.YtemjmfpcopfdbaaGreatDoorM16
import Derived.Deep.AppendLies
namespace Go.Proofs.YtemjmfpcopfdbaaGreatDoor
open Go.RowKit
theorem SRow.wrds{w:World}{D m T:Nat}{f:Nat→List Int}(h:SRow w D f m m T)(hm:m≤maxLen):Wrds w w.heap.size (.slice (some ⟨D,0,none⟩) m m) ((List.range m).map f):=by
 obtain⟨gf,h1,-⟩:=h.open
 refine⟨_,D,0,m,by rw[List.length_map,List.length_range],fun _=>rfl,by simp,by simpa using hm,fun k hk=>⟨h.lt,?_⟩⟩
 have hkm:k<m:=by simpa using hk
 have e:((List.range m).map f).getD k []=f k:=by simp[hkm,List.getD_eq_getElem?_getD]
 rw[e,Nat.mul_one,Nat.zero_add]
 obtain⟨c1,c2,-⟩:=h1 k hkm
 exact⟨_,_,c1,c2.ks⟩
theorem vls_at(s:ByteArray)(l:List Int)(n:Nat)(hn:s.size=n)(h:vlsB s=l)(hv:∀k,k<s.size→Ch.isv (Ch.chr s k)=true)(w W:World)(hT:Ch.Cht w)(hb:BelW w W)(h9:n≤1000):
 Calls Tryz.prog 56 #[.string s] W fun e w'=>∃g,e=.returned (.slice (some ⟨g,0,none⟩) n n)∧VRow w' g l∧BelW W w':=
 (vls_any s W (by omega) (hT.below hb) hv).mono fun e w' ⟨g,h1,h2,_,h3⟩=>⟨g,by rw[h1,hn],by rw[←h];exact h2,h3⟩
theorem txt_at(l:List Int)(s:ByteArray)(n:Nat)(hn:l.length=n)(h:strOfNums (l.map Ch.tch)=s)(hp:∀k,k<l.length→0≤l.getD k 0)(w W:World)(g:Nat)(hT:Ch.Cht w)(hb:BelW w W)(hv:VRow W g l)(h9:n≤1000):
 Calls Tryz.prog 47 #[.slice (some ⟨g,0,none⟩) n n] W fun e w'=>e=.returned (.string s)∧BelW W w':=by
 subst hn h
 exact Ch.text_ch (Nat.le_refl _) hv.ks.lgvs h9 hp (hT.below hb)
theorem look_at(ws:List (List Int))(ad r:List Int)(hr:(lkS ws ad 2 4).2=r)(g gw:Nat)(W:World)(hw:Wrds W W.heap.size (.slice (some ⟨gw,0,none⟩) 4 4) ws)(h0:(ws.getD 0 []).length=2)(hl:ad.length=2)(hv:VRow W g ad):
 Calls Tryz.prog 57 #[.slice (some ⟨gw,0,none⟩) 4 4,.slice (some ⟨g,0,none⟩) 2 2] W fun e w'=>∃g,e=.returned (.slice (some ⟨g,0,none⟩) 2 2)∧VRow w' g r∧BelW W w':=by
 have hk:=hv.ks
 rw[hl]at hk
 subst hr
 exact look_any ws ad _ _ 4 4 2 2 2 W W.heap.size (Nat.le_refl _) hw hk (by decide) (by decide) h0.symm (by decide)
theorem store_at(ws:List (List Int))(ad dt:List Int)(en:Int)(ga gd gw:Nat)(W:World)(hw:Wrds W W.heap.size (.slice (some ⟨gw,0,none⟩) 4 4) ws)(h0:∀k,k<4→(ws.getD k []).length≤1000)(hl:ad.length=2)(hd:dt.length=2)(hv:VRow W ga ad)(hvd:VRow W gd dt):
 Calls Tryz.prog 58 #[.slice (some ⟨gw,0,none⟩) 4 4,.slice (some ⟨ga,0,none⟩) 2 2,.slice (some ⟨gd,0,none⟩) 2 2,.int .u8 en] W fun e w'=>∃D T,e=.returned (.slice (some ⟨D,0,none⟩) 4 4)∧SRow w' D (stW ws ad dt en) 4 4 T∧BelW W w':=by
 have hk:=hv.ks
 rw[hl]at hk
 have hk2:=hvd.ks
 rw[hd]at hk2
 exact (store_any ws ad dt en _ _ _ 4 4 2 2 2 2 W W.heap.size (Nat.le_refl _) hw hk hk2 (by decide) (fun k hk=>Nat.le_trans (h0 k hk) (by decide))).mono fun e w' ⟨D,T,h1,h2,_,h3⟩=>⟨D,T,h1,h2,h3⟩
theorem wtxt_at(f:Nat→List Int)(L:List (List Int))(s:ByteArray)(hf:(List.range 4).map f=L)(hs:txtW L 4=s)(hl:∀k,k<4→(L.getD k []).length≤1000∧∀y∈L.getD k [],0≤y)(w W:World)(D T:Nat)(hT:Ch.Cht w)(hb:BelW w W)(hr:SRow W D f 4 4 T):
 Calls Tryz.prog 14 #[.slice (some ⟨D,0,none⟩) 4 4] W fun e w'=>e=.returned (.string s)∧BelW W w':=by
 have h:=hr.wrds (by decide)
 rw[hf]at h
 rw[←hs]
 exact textw_any L _ 4 4 W W.heap.size (Nat.le_refl _) h (by decide) hl (hT.below hb)
set_option maxRecDepth 100000 in
set_option maxHeartbeats 8000000 in
theorem lives9_any(w:World)(hT:Ch.Cht w):Calls Tryz.prog 17 #[] w fun e w'=>e=.returned (.bool true)∧BelW w w':=by
 have HV0:=Lib.hid (fun W (h:BelW w W)=>vls_at ⟨#[48,48]⟩ [0,0] 2 rfl (by decide) (by decide) w W hT h (by decide))
 have HV1:=Lib.hid (fun W (h:BelW w W)=>vls_at ⟨#[48,49]⟩ [0,1] 2 rfl (by decide) (by decide) w W hT h (by decide))
 have HV2:=Lib.hid (fun W (h:BelW w W)=>vls_at ⟨#[49,48]⟩ [1,0] 2 rfl (by decide) (by decide) w W hT h (by decide))
 have HV3:=Lib.hid (fun W (h:BelW w W)=>vls_at ⟨#[49,49]⟩ [1,1] 2 rfl (by decide) (by decide) w W hT h (by decide))
 have HV4:=Lib.hid (fun W (h:BelW w W)=>vls_at ⟨#[88,48]⟩ [2,0] 2 rfl (by decide) (by decide) w W hT h (by decide))
 have HV5:=Lib.hid (fun W (h:BelW w W)=>vls_at ⟨#[88,88]⟩ [2,2] 2 rfl (by decide) (by decide) w W hT h (by decide))
 have HV6:=Lib.hid (fun W (h:BelW w W)=>vls_at ⟨#[49,88]⟩ [1,2] 2 rfl (by decide) (by decide) w W hT h (by decide))
 have HT0:=Lib.hid (fun W g (h:BelW w W) (hv:VRow W g [0,1])=>txt_at [0,1] ⟨#[48,49]⟩ 2 rfl (by decide) (by decide) w W g hT h hv (by decide))
 have HT1:=Lib.hid (fun W g (h:BelW w W) (hv:VRow W g [0,2])=>txt_at [0,2] ⟨#[48,88]⟩ 2 rfl (by decide) (by decide) w W g hT h hv (by decide))
 have HT2:=Lib.hid (fun W g (h:BelW w W) (hv:VRow W g [2,2])=>txt_at [2,2] ⟨#[88,88]⟩ 2 rfl (by decide) (by decide) w W g hT h hv (by decide))
 have HW0:=Lib.hid (fun W D T (h:BelW w W) (hr:SRow W D (stW W4 [1,2] [1,1] 1) 4 4 T)=>wtxt_at (stW W4 [1,2] [1,1] 1) [[0,0],[2,1],[1,0],[1,1]] ⟨#[48,48,44,88,49,44,49,48,44,49,49,44]⟩ l9_s1 (by decide) (by decide) w W D T hT h hr)
 have HW1:=Lib.hid (fun W D T (h:BelW w W) (hr:SRow W D (stW W4 [1,0] [1,1] 1) 4 4 T)=>wtxt_at (stW W4 [1,0] [1,1] 1) [[0,0],[1,1],[1,0],[1,1]] ⟨#[48,48,44,49,49,44,49,48,44,49,49,44]⟩ l9_s2 (by decide) (by decide) w W D T hT h hr)
 have HW2:=Lib.hid (fun W D T (h:BelW w W) (hr:SRow W D (stW W4 [1,0] [1,1] 2) 4 4 T)=>wtxt_at (stW W4 [1,0] [1,1] 2) [[0,0],[2,1],[1,0],[1,1]] ⟨#[48,48,44,88,49,44,49,48,44,49,49,44]⟩ l9_s3 (by decide) (by decide) w W D T hT h hr)
 have hs:BelW w w:=Below.refl _ _
 clear hT
 go_enter Tryz.func17,Tryz.ntmps17
 go_upto_region 1 with (fail)
 go_upto_region 2 with (first
  |(go_at_call 56;(with_reducible refine (HV0.out _ hs).mono ?_);rintro e wv ⟨g0,rfl,hvg0,hb⟩;replace hs:BelW w wv:=hs.trans hb;clear hb)
  |(go_at_call 56;(with_reducible refine (HV1.out _ hs).mono ?_);rintro e wv ⟨g1,rfl,hvg1,hb⟩;replace hs:BelW w wv:=hs.trans hb;replace hvg0:VRow wv g0 [0,0]:=hvg0.below hb;clear hb)
  |(go_at_call 56;(with_reducible refine (HV2.out _ hs).mono ?_);rintro e wv ⟨g2,rfl,hvg2,hb⟩;replace hs:BelW w wv:=hs.trans hb;replace hvg0:VRow wv g0 [0,0]:=hvg0.below hb;replace hvg1:VRow wv g1 [0,1]:=hvg1.below hb;clear hb)
  |(go_at_call 56;(with_reducible refine (HV3.out _ hs).mono ?_);rintro e wv ⟨g3,rfl,hvg3,hb⟩;replace hs:BelW w wv:=hs.trans hb;replace hvg0:VRow wv g0 [0,0]:=hvg0.below hb;replace hvg1:VRow wv g1 [0,1]:=hvg1.below hb;replace hvg2:VRow wv g2 [1,0]:=hvg2.below hb;clear hb))
 obtain⟨w4,rfl⟩:∃z,z=wv:=⟨_,rfl⟩
 obtain⟨W5,HW5⟩:=named (w4.alloc (.cells #[.slice (some ⟨g0,0,none⟩) 2 2,.slice (some ⟨g1,0,none⟩) 2 2,.slice (some ⟨g2,0,none⟩) 2 2,.slice (some ⟨g3,0,none⟩) 2 2] 41))
 have hn5:BelW w4 W5:=by rw[HW5.out];exact below_new (Below.refl _ _) _
 have hf5:Fr W5 w4.heap.size 41 [.slice (some ⟨g0,0,none⟩) 2 2,.slice (some ⟨g1,0,none⟩) 2 2,.slice (some ⟨g2,0,none⟩) 2 2,.slice (some ⟨g3,0,none⟩) 2 2]:=by rw[HW5.out];exact Fr.made _ [.slice (some ⟨g0,0,none⟩) 2 2,.slice (some ⟨g1,0,none⟩) 2 2,.slice (some ⟨g2,0,none⟩) 2 2,.slice (some ⟨g3,0,none⟩) 2 2] _ rfl
 obtain⟨gw,HGW⟩:=named w4.heap.size
 rw[←HGW.out]at hf5
 rw[←HW5.out,←HGW.out]
 have hwr:Wrds W5 W5.heap.size (.slice (some ⟨gw,0,none⟩) 4 4) W4:=by
  refine⟨_,gw,0,4,rfl,fun _=>rfl,by decide,by decide,fun k hk=>⟨hf5.lt,?_⟩⟩
  have hk4:k=0∨k=1∨k=2∨k=3:=by simp[W4]at hk;omega
  rcases hk4 with rfl|rfl|rfl|rfl
  ·exact⟨_,_,hf5.cell 0,(hvg0.below hn5).ks⟩
  ·exact⟨_,_,hf5.cell 1,(hvg1.below hn5).ks⟩
  ·exact⟨_,_,hf5.cell 2,(hvg2.below hn5).ks⟩
  ·exact⟨_,_,hf5.cell 3,(hvg3.below hn5).ks⟩
 have hs5:BelW w W5:=hs.trans hn5
 have HWR:Hid (∀W,BelW W5 W→Wrds W W.heap.size (.slice (some ⟨gw,0,none⟩) 4 4) W4):=Lib.hid fun W h=>Arr.keep stays_wds hwr (Below.size h) fun _ hp=>Below.cell h hp
 have HL0:=Lib.hid (fun W g (h:BelW W5 W) (hv:VRow W g [1,0])=>look_at W4 [1,0] [0,1] l9_k1 g gw W (HWR.out W h) rfl rfl hv)
 have HL1:=Lib.hid (fun W g (h:BelW W5 W) (hv:VRow W g [2,0])=>look_at W4 [2,0] [0,2] l9_k2 g gw W (HWR.out W h) rfl rfl hv)
 have HL2:=Lib.hid (fun W g (h:BelW W5 W) (hv:VRow W g [2,2])=>look_at W4 [2,2] [2,2] l9_k3 g gw W (HWR.out W h) rfl rfl hv)
 have HS0:=Lib.hid (fun W ga gd (h:BelW W5 W) (hv:VRow W ga [1,2]) (hd:VRow W gd [1,1])=>store_at W4 [1,2] [1,1] 1 ga gd gw W (HWR.out W h) (by decide) rfl rfl hv hd)
 have HS1:=Lib.hid (fun W ga gd (h:BelW W5 W) (hv:VRow W ga [1,0]) (hd:VRow W gd [1,1])=>store_at W4 [1,0] [1,1] 1 ga gd gw W (HWR.out W h) (by decide) rfl rfl hv hd)
 have HS2:=Lib.hid (fun W ga gd (h:BelW W5 W) (hv:VRow W ga [1,0]) (hd:VRow W gd [1,1])=>store_at W4 [1,0] [1,1] 2 ga gd gw W (HWR.out W h) (by decide) rfl rfl hv hd)
 have HSS:=Lib.hid hs5
 have h5:BelW W5 W5:=Below.refl _ _
 clear hs hvg0 hvg1 hvg2 hvg3 hn5 hf5 hwr hs5
 go_upto_region 3 with (first
  |(go_at_call 56;(with_reducible refine (HV2.out _ (HSS.out.trans h5)).mono ?_);rintro e wv ⟨ga,rfl,hvga,hb⟩;replace h5:BelW W5 wv:=h5.trans hb;clear hb)
  |(go_at_call 56;(with_reducible refine (HV4.out _ (HSS.out.trans h5)).mono ?_);rintro e wv ⟨ga,rfl,hvga,hb⟩;replace h5:BelW W5 wv:=h5.trans hb;clear hb)
  |(go_at_call 56;(with_reducible refine (HV5.out _ (HSS.out.trans h5)).mono ?_);rintro e wv ⟨ga,rfl,hvga,hb⟩;replace h5:BelW W5 wv:=h5.trans hb;clear hb)
  |(go_at_call 57;(with_reducible refine (HL0.out _ _ h5 hvga).mono ?_);rintro e wl ⟨gl,rfl,hvgl,hb⟩;replace h5:BelW W5 wl:=h5.trans hb;clear hb hvga)
  |(go_at_call 57;(with_reducible refine (HL1.out _ _ h5 hvga).mono ?_);rintro e wl ⟨gl,rfl,hvgl,hb⟩;replace h5:BelW W5 wl:=h5.trans hb;clear hb hvga)
  |(go_at_call 57;(with_reducible refine (HL2.out _ _ h5 hvga).mono ?_);rintro e wl ⟨gl,rfl,hvgl,hb⟩;replace h5:BelW W5 wl:=h5.trans hb;clear hb hvga)
  |(go_at_call 47;(with_reducible refine (HT0.out _ _ (HSS.out.trans h5) hvgl).mono ?_);rintro e wt ⟨rfl,hb⟩;replace h5:BelW W5 wt:=h5.trans hb;clear hb hvgl)
  |(go_at_call 47;(with_reducible refine (HT1.out _ _ (HSS.out.trans h5) hvgl).mono ?_);rintro e wt ⟨rfl,hb⟩;replace h5:BelW W5 wt:=h5.trans hb;clear hb hvgl)
  |(go_at_call 47;(with_reducible refine (HT2.out _ _ (HSS.out.trans h5) hvgl).mono ?_);rintro e wt ⟨rfl,hb⟩;replace h5:BelW W5 wt:=h5.trans hb;clear hb hvgl))
 go_wp2_with (first
  |(go_at_call 56;(with_reducible refine (HV6.out _ (HSS.out.trans h5)).mono ?_);rintro e wv ⟨ga,rfl,hvga,hb⟩;replace h5:BelW W5 wv:=h5.trans hb;clear hb)
  |(go_at_call 56;(with_reducible refine (HV2.out _ (HSS.out.trans h5)).mono ?_);rintro e wv ⟨ga,rfl,hvga,hb⟩;replace h5:BelW W5 wv:=h5.trans hb;clear hb)
  |(go_at_call 56;(with_reducible refine (HV3.out _ (HSS.out.trans h5)).mono ?_);rintro e wv ⟨gd,rfl,hvgd,hb⟩;replace hvga:=hvga.below hb;replace h5:BelW W5 wv:=h5.trans hb;clear hb)
  |(go_at_call 58;(with_reducible refine (HS0.out _ _ _ h5 hvga hvgd).mono ?_);rintro e ws ⟨D,T,rfl,hr,hb⟩;replace h5:BelW W5 ws:=h5.trans hb;clear hb hvga hvgd)
  |(go_at_call 58;(with_reducible refine (HS1.out _ _ _ h5 hvga hvgd).mono ?_);rintro e ws ⟨D,T,rfl,hr,hb⟩;replace h5:BelW W5 ws:=h5.trans hb;clear hb hvga hvgd)
  |(go_at_call 58;(with_reducible refine (HS2.out _ _ _ h5 hvga hvgd).mono ?_);rintro e ws ⟨D,T,rfl,hr,hb⟩;replace h5:BelW W5 ws:=h5.trans hb;clear hb hvga hvgd)
  |(go_at_call 14;(with_reducible refine (HW0.out _ _ _ (HSS.out.trans h5) hr).mono ?_);rintro e wt ⟨rfl,hb⟩;replace h5:BelW W5 wt:=h5.trans hb;clear hb hr)
  |(go_at_call 14;(with_reducible refine (HW1.out _ _ _ (HSS.out.trans h5) hr).mono ?_);rintro e wt ⟨rfl,hb⟩;replace h5:BelW W5 wt:=h5.trans hb;clear hb hr)
  |(go_at_call 14;(with_reducible refine (HW2.out _ _ _ (HSS.out.trans h5) hr).mono ?_);rintro e wt ⟨rfl,hb⟩;replace h5:BelW W5 wt:=h5.trans hb;clear hb hr))
 go_ret
 exact⟨rfl,HSS.out.trans h5⟩
def k01(v:Int):Prop:=v=0∨v=1
instance (v:Int):Decidable (k01 v):=inferInstanceAs (Decidable (v=0∨v=1))
section
variable {V V' wr:World} {q ni ns cI cS:Nat} {AI AS:Option Addr} {lI lS:List Int}
end
structure KnS(s:Stt):Prop where
 d:∀y∈s.dff,k01 y
 w:∀ws∈s.words,∀l∈ws,∀y∈l,k01 y
 r:∀l∈s.read,∀y∈l,k01 y
def BStk(w:World)(base:Nat)(v:Value)(l:List Int):Prop:=w.ownsRow base 5 1 v l.length (l.map (Value.int .u8))
section
variable {w w':World} {base:Nat} {v:Value} {l:List Int}
end
section
variable {P:Program} {md:Region.Mode} {ops:Array Oper} {i:Nat} {a:Act} {w:World} {K:Act→World→Prop} {Q:Exit→Act→World→Prop}
end
def Gkc(a:Act)(v20 v21 v22 v23 v133 v139 v140 v141 v142 v143 v144 v145:Value):Act:=((((((((((((a.put (some 20) v20).put (some 21) v21).put (some 22) v22).put (some 23) v23).put (some 133) v133).put (some 139) v139).put (some 140) v140).put (some 141) v141).put (some 142) v142).put (some 143) v143).put (some 144) v144).put (some 145) v145)
section
variable (a:Act) (v20 v21 v22 v23 v133 v139 v140 v141 v142 v143 v144 v145 u:Value)
end
structure Ikc(inp:List Int)(ni ns m n3 n:Nat)(RS:World→Nat→Nat→Nat→Nat→Nat→Nat→Prop)(wb:World)(b5 b6 b7 b8 b9 b10 b11 b12 b13 b14 b15 b16 b17 b18:Bool)(v20 v21 v22 v23 v133 v139 v140 v141 v142 v143 v144 v145:Value)(w:World):Prop where
 bel:BelW wb w
 k5:b5=true→∃AI cI AS cS,v139=.agg #[.slice AI ni cI,.slice AS ns cS]∧VStk w wb.heap.size (.slice AI ni cI) inp
 k6:b6=true→∃AI cI,v140=.slice AI ni cI∧VStk w wb.heap.size (.slice AI ni cI) inp
 k7:b7=true→∃gB D1 D2 go gn g,v141=.tuple #[.agg #[.slice (some ⟨gB,0,none⟩) ns ns,.slice (some ⟨D1,0,none⟩) m m,.slice (some ⟨D2,0,none⟩) m m],.agg #[.slice (some ⟨go,0,none⟩) n3 n3,.slice (some ⟨gn,0,none⟩) ns ns],.slice (some ⟨g,0,none⟩) n n,.int .i64 0]∧RS w gB D1 D2 go gn g∧(b8=true→v133=.tuple #[.agg #[.slice (some ⟨gB,0,none⟩) ns ns,.slice (some ⟨D1,0,none⟩) m m,.slice (some ⟨D2,0,none⟩) m m],.agg #[.slice (some ⟨go,0,none⟩) n3 n3,.slice (some ⟨gn,0,none⟩) ns ns],.slice (some ⟨g,0,none⟩) n n,.int .i64 0])∧(b9=true→v142=.agg #[.slice (some ⟨gB,0,none⟩) ns ns,.slice (some ⟨D1,0,none⟩) m m,.slice (some ⟨D2,0,none⟩) m m])∧(b10=true→v143=.agg #[.slice (some ⟨go,0,none⟩) n3 n3,.slice (some ⟨gn,0,none⟩) ns ns])∧(b11=true→v144=.slice (some ⟨g,0,none⟩) n n)∧(b12=true→v145=.int .i64 0)∧(b15=true→∃q,v20=.pointer (some ⟨q,0,none⟩)∧wb.heap.size≤q∧Fr w q 45 [.slice (some ⟨gB,0,none⟩) ns ns,.slice (some ⟨D1,0,none⟩) m m,.slice (some ⟨D2,0,none⟩) m m])∧(b16=true→∃q,v21=.pointer (some ⟨q,0,none⟩)∧wb.heap.size≤q∧Fr w q 49 [.slice (some ⟨go,0,none⟩) n3 n3,.slice (some ⟨gn,0,none⟩) ns ns])∧(b17=true→v22=.slice (some ⟨g,0,none⟩) n n)∧(b18=true→v23=.int .i64 0)
 a13:b13=true→b15=false→∃q lx,v20=.pointer (some ⟨q,0,none⟩)∧wb.heap.size≤q∧lx.length=3∧Fr w q 45 lx
 a14:b14=true→b16=false→∃q lx,v21=.pointer (some ⟨q,0,none⟩)∧wb.heap.size≤q∧lx.length=2∧Fr w q 49 lx
 d6:b6=true→b5=true
 d7:b7=true→b6=true
 d8:b8=true→b7=true
 d9:b9=true→b8=true
 d10:b10=true→b8=true
 d11:b11=true→b8=true
 d12:b12=true→b8=true
 d15:b15=true→b9=true
 d15a:b15=true→b13=true
 d16:b16=true→b10=true
 d16a:b16=true→b14=true
 d17:b17=true→b11=true
 d18:b18=true→b12=true
section
variable {inp:List Int} {ni ns m n3 n:Nat} {RS:World→Nat→Nat→Nat→Nat→Nat→Nat→Prop} {wb:World} {b5 b6 b7 b8 b9 b10 b11 b12 b13 b14 b15 b16 b17 b18:Bool} {v20 v21 v22 v23 v133 v139 v140 v141 v142 v143 v144 v145:Value} {w w':World}
end
def Gkq(a:Act)(v19 v128 v129 v130 v132:Value):Act:=(((((a.put (some 19) v19).put (some 128) v128).put (some 129) v129).put (some 130) v130).put (some 132) v132)
section
variable (a:Act) (v19 v128 v129 v130 v132 u:Value)
end
structure Ikq(Al:Option Addr)(n cl:Nat)(l:List Int)(c:Ck)(ns m:Nat)(wb:World)(b1 b2 b3 b5 b6 b7:Bool)(v19 v128 v129 v130 v132:Value)(w:World):Prop where
 bel:BelW wb w
 row:b2=false→BStk w wb.heap.size (.slice Al n cl) l
 s1:b1=true→b2=false→∃g,v128=.slice (some ⟨g,0,none⟩) 1 1∧Fr w g 5 [.int .u8 1]
 s2:b2=true→b7=false→∃A cc,v129=.slice A (n+1) cc∧Ks w w.heap.size (.slice A (n+1) cc) (l++[1])
 s3:b3=true→∃A cc,v129=.slice A (n+1) cc∧v130=.agg #[.slice A (n+1) cc]
 s5:b5=true→∃A0 A1 A2 k0 k1 k2,v132=.agg #[.slice A0 ns k0,.slice A1 m k1,.slice A2 m k2]∧OwnS w wb.heap.size A0 A1 A2 ns m m k0 k1 k2 (sofS c ns m (l++[1]))∧(b7=true→∃g,v19=.pointer (some ⟨g,0,none⟩)∧wb.heap.size≤g∧Fr w g 45 [.slice A0 ns k0,.slice A1 m k1,.slice A2 m k2])
 s6:b6=true→b7=false→∃g lx,v19=.pointer (some ⟨g,0,none⟩)∧wb.heap.size≤g∧lx.length=3∧Fr w g 45 lx
 d2:b2=true→b1=true
 d3:b3=true→b2=true
 d5:b5=true→b3=true
 d7:b7=true→b5=true
 d76:b7=true→b6=true
section
variable {Al:Option Addr} {n cl:Nat} {l:List Int} {c:Ck} {ns m:Nat} {wb:World} {b1 b2 b3 b5 b6 b7:Bool} {v19 v128 v129 v130 v132:Value} {w w':World}
end
end Go.Proofs.YtemjmfpcopfdbaaGreatDoor
