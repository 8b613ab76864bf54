import Derived.Test.YtpljdjmpamjkhaaGreatDoorQam
set_option linter.unusedVariables false
set_option linter.unusedSimpArgs false
set_option maxRecDepth 100000
set_option maxHeartbeats 4000000
namespace Go.Proofs.YtpljdjmpamjkhaaGreatDoor
open Go.RowKit Go.Lib
theorem Ff{w:World}{vu v:Value}{u l:List (List Nat)}(hu:Sv w vu (cC u))(hs:Sv w v (cC l))(hl:l.length<=256)(vK:u.length<=256)(hr:uY u)(hub:∀ s∈u,Bs s)(hm:∀ x∈l,x∈u) :
  Calls Tryz.prog 211 #[vu,v] w fun e w'=>(∃ v',e=.returned v'/\bF w' w.heap.size v' (l.map fun s=>(plT u s:Int)))/\Below w.heap.size w w':=by
 obtain⟨i0,hi,ch,hz1',bv⟩:=jeD Ag;have HU:=ae hu;have HS:=ae hs;have HR:=ae hr;have HM:=ae hm;have HUB:=ae hub;obtain⟨a,cap,rfl,aW,bC⟩:=hs.form1;rw[dP]at *;have hcm':cap<=9223372036854775807:=by unfold maxLen at bC;omega
 clear hs hu bC hr hm hub;obtain⟨D,hD⟩:∃ D,(l.map fun s=>(plT u s:Int))=D:=⟨_,rfl⟩;have hDl:D.length=l.length:=by rw[← hD,jen]
 have QF:jgf (∀ k (h:k<l.length),(aL D)[k]?=some (.int .i64 (plT u l[k]:Nat))):=ae (fun k h=>by rw[← hD];simp[aL,h]);rw[hD];have kY:=ae hDl;clear hD hDl;go_enter Tryz.func211,Tryz.ntmps211
 go_wp2_with (first | (refine jfo _ rfl _ _ 143 rfl w.heap.size 2 i0 (.int .i64 0) 1 Tryz.underlying143 hi ch hz1' .i64 .i64 _ _ l.length rfl rfl ?m1 ?m2 ?m3 ?m4 ?m5 ?_))
 case m1=>rfl
 case m2=>rfl
 case m3=>rw[bv];omega
 case m4=>unfold maxLen;omega
 case m5=>omega
 intro w4 gQ iZ;have bG:Below w.heap.size w w4:=(jej _ _).grown iZ (jek _) (fun k hk=>by cases hk)
 have ho4':w4.ownsRow w.heap.size 2 1 (.slice (some ⟨w.heap.size,0,none⟩) l.length l.length) l.length (dD (.int .i64 0) (aL D) 0):=by
  rw[mS,cy,kY.o,← jfO];simpa using gQ
 have eY:=ae ho4';have cp:=ae bG;clear gQ iZ bG ho4';go_wp2_with fail;go_loopw [15] (fun i wr=>∃ k:Nat,i=.int .i64 (k:Int)/\k<=l.length/\wr.ownsRow w.heap.size 2 1 (.slice (some ⟨w.heap.size,0,none⟩) l.length l.length) l.length (dD (.int .i64 0) (aL D) k)/\Below w.heap.size w wr) (fun i _=>l.length-(intOf i).toNat)
 case atStart=>exact⟨0,rfl,by omega,eY.o,cp.o⟩
 case round =>
  obtain⟨k,rfl,hk,how,az⟩:=hrel;have HB:=ae az;have HO:=ae how;have bH:=az.size;clear az how;by_cases aB:k<l.length
  ·have hkD:k<(aL D).length:=by rw[cy,kY.o];exact aB
   have hval:(aL D)[k]=.int .i64 (plT u l[k]:Nat):=by
    have:=QF.o k aB;rw[List.getElem?_eq_getElem hkD]at this;exact Option.some.inj this
   obtain⟨b,off,rfl,hb,dN⟩:=(HS.o.kept HB.o).at1 (cO aB);have hmem:=HM.o l[k] (jeo aB);have HSr:=ae (Fe (HU.o.kept HB.o) vK HR.o HUB.o hmem);have hplt:=(lj hmem).1;have jH:k<(dD (.int .i64 0) (aL D) k).length:=by rw[iF (by omega)];exact hkD
   have tT:=ae (ms (z:=.int .i64 0) hkD);rw[hval]at tT;rw[dM]at dN;clear hval hmem;generalize am l[k]=S at *;generalize plT u l[k]=pz at *;generalize hy:(dD (.int .i64 0) (aL D) k)[k]=y;have hyy:=List.getElem?_eq_getElem jH;rw[hy]at hyy;clear hy;go_wp2_with fail;refine HSr.o.mono ?_;rintro e w5 ⟨⟨r,rfl⟩,bD⟩;have fD:=bJ HO.o bD;have aQ:=ae (HB.o.trans (bD.mono bH));have Gn:=(fD.cellAt k (by omega)).trans hyy;have Gp:=fD.frozenAt k;have hST:=fD.stored k (.int .i64 (pz:Nat));rw[tT.o]at hST;have cP:=ae hST;have Mx:=(fD.lt w.heap.size rfl).2;clear hST bD fD;go_wp2_with fail;go_roundw
   case rel=>exact⟨k+1,by go_num,by omega,cP.o.1,cT aQ.o (jek _) _⟩
   case measure=>simp[intOf];omega
  ·obtain rfl:k=l.length:=by omega
   have e:dD (.int .i64 0) (aL D) l.length=aL D:=by
    have:=pg (.int .i64 0) (aL D);rwa[cy,kY.o]at this
   rw[e]at HO
   have HO':jgf (bF wr w.heap.size (.slice (some ⟨w.heap.size,0,none⟩) l.length l.length) D):=ae (by
    unfold bF;rw[kY.o];exact HO.o)
   clear HO e;go_wp2_with fail;go_ret
   exact⟨⟨_,rfl,HO'.o⟩,HB.o⟩
theorem eM{W W':World}{B p:Nat}{x:Value}(h:W.cell? ⟨p,0,none⟩=some x)(hb:Below B W W')(hp:p<B):W'.cell? ⟨p,0,none⟩=some x:=(hb.cell (p:=⟨p,0,none⟩) hp).trans h
theorem ol{l:List (List Nat)}(ht:Ts l)(hl:l.length<=256):(fH l).length<=21525:=(sZ ht hl).1
theorem yS{w:World}{g p:Nat}{v vl:Value}{l:List (List Nat)}(hg:Gs w g v [])(hp:p<g)(hc:w.cell? ⟨p,0,none⟩=some vl)(hs:Sv w vl (cC l))(gl:∀ k,vl.ownBlock=some k->k<g)(hl:l.length<=256)(ht:Ts l) :
  Calls Tryz.prog 205 #[.func (.func 168) #[] #[.pointer (some ⟨g,0,none⟩)],.pointer (some ⟨p,0,none⟩)] w (jC w g (plain l)):=by
 have HG:=ae hg;have CZ:=hg.lt;have HC:=ae hc;have HS:=ae hs;have sE:=ae gl;have HT:=ae ht;have Dj:=ae (fo (hg.kept (ak w (.cells #[.int .u8 0] 5))) (cH w 0).sv (by simp));have cK:(w.alloc (.cells #[.int .u8 0] 5)).heap.size=w.heap.size+1:=jel _ _;clear hg hc hs gl ht;go_enter Tryz.func205,Tryz.ntmps205
 go_wp2_with fail;refine Dj.o.mono ?_;rintro e w1 ⟨rfl,⟨v1,eZ⟩,aH,_⟩;have aP:=ae (((ak w (.cells #[.int .u8 0] 5)).mono (jeJ CZ)).trans aH);have lK:=eM HC.o aP.o hp;have Gj:=ae (uD eZ (by simp) (HS.o.keptB sE.o aP.o) sE.o hl HT.o);obtain⟨a,cap,rfl,_,_⟩:=HS.o.form1;clear eZ aH;go_wp2_with fail;refine Gj.o.mono ?_;rintro e w2 ⟨rfl,⟨v2,gY⟩,aE⟩;have Ld:=ae gY;have aN:=ae (aP.o.trans aE);clear gY aE;go_wp2_with fail;go_end0
 exact⟨rfl,⟨_,Ld.o⟩,aN.o⟩
theorem Cf{w:World}{vl:Value}{l:List (List Nat)}(hs:Sv w vl (cC l))(gl:∀ k,vl.ownBlock=some k->k<w.heap.size)(hl:l.length<=256)(ht:Ts l) :
  Calls Tryz.prog 172 #[vl] w (dA w (plain l)):=by
 obtain⟨a,cap,rfl,_,_⟩:=hs.form1
 have HGA:=ae (Uc (w:=w.alloc (.cells #[.slice a (cC l).length cap] 144)) (p:=.pointer (some ⟨w.heap.size,0,none⟩)) (bs:=plain l) (fun W hg hb=>by
  have hz:=jel w (.cells #[.slice a (cC l).length cap] 144);refine yS hg (by omega) ?_ ((hs.kept (ak w _)).kept hb) (fun k hk=>by have:=gl k hk;omega) hl ht;rw[hb.cell (p:=⟨w.heap.size,0,none⟩) (by show w.heap.size<_;omega)];exact aK _ _ _))
 have HB:=ae (ak w (.cells #[.slice a (cC l).length cap] 144));have hz:=jel w (.cells #[.slice a (cC l).length cap] 144);clear hs gl ht;generalize plain l=bs at *;generalize (cC l).length=n at *;go_enter Tryz.func172,Tryz.ntmps172
 go_wp2_with fail;refine HGA.o.mono ?_;rintro e w1 ⟨⟨v1,rfl,ei⟩,aH⟩;have eO:=ae (ei.low (B:=w.heap.size) (by omega));have aP:=ae (HB.o.trans (aH.mono (by omega)));clear ei aH;go_wp2_with fail;go_ret
 exact⟨⟨_,rfl,eO.o⟩,aP.o⟩
theorem yT{w:World}{g p q:Nat}{v vl vu:Value}{l:List (List Nat)}(hg:Gs w g v [])(hp:p<g)(hq:q<g)(Zg:w.cell? ⟨q,0,none⟩=some vu)(eX:w.cell? ⟨p,0,none⟩=some vl)
  (hs:Sv w vl (cC l)) (gl:∀ k,vl.ownBlock=some k->k<g) (hu:Sv w vu (cC (tuq l))) (jat:∀ k,vu.ownBlock=some k->k<g) (hl:l.length<=256) (ht:Ts l) :
  Calls Tryz.prog 210 #[.func (.func 168) #[] #[.pointer (some ⟨g,0,none⟩)],.pointer (some ⟨q,0,none⟩),.pointer (some ⟨p,0,none⟩)] w (jC w g (dt l)):=by
 have CZ:=hg.lt;have HCU:=ae Zg;have pQ:=ae eX;have HS:=ae hs;have HU:=ae hu;have sE:=ae gl;have VM:=ae jat;have HT:=ae ht;have vK:(tuq l).length<=256:=by have:=fO l;omega
 have htxl:=ol (lG ht) vK;have fK:=gL (en hl) (by rw[bY];exact hl);have sD:jgf (dt l=1::(uv (tuq l).length++(fH (tuq l)++cV (cN l)))):=rfl;have nB:=bO (n:=(tuq l).length) (by omega);have Dj:=ae (fo (hg.kept (ak w (.cells #[.int .u8 1] 5))) (cH w 1).sv (by simp));have cK:(w.alloc (.cells #[.int .u8 1] 5)).heap.size=w.heap.size+1:=jel _ _;obtain⟨a,cap,rfl,_,_⟩:=hs.form1;obtain⟨au,capu,rfl,_,_⟩:=hu.form1;rw[dP]at *;have HPU:=ae (dQ (tuq l).length (by omega));clear hg eX hs gl ht hu jat;go_enter Tryz.func210,Tryz.ntmps210
 go_wp2_with fail;refine Dj.o.mono ?_;rintro e w1 ⟨rfl,⟨v1,eZ⟩,aH,_⟩;have aP:=ae (((ak w (.cells #[.int .u8 1] 5)).mono (jeJ CZ)).trans aH);have tX:=ae eZ;have VN:=eM HCU.o aP.o hq;clear eZ aH Zg;go_wp2_with fail;refine(HPU.o _).mono ?_;rintro e w2 ⟨⟨v2,rfl,ft⟩,aE⟩;have Gj:=ae (fo (tX.o.kept aE) ft.sv (by simp;omega));have aN:=ae (aP.o.trans (aE.mono (jeJ tX.o.lt)));clear ft aE VN;go_wp2_with fail;refine Gj.o.mono ?_;rintro e w3 ⟨rfl,⟨v3,hg3⟩,aS,_⟩;have bN:=ae (aN.o.trans aS);have hcu3:=eM HCU.o bN.o hq;have Ln:=ae (uD hg3 (by simp;omega) (HU.o.keptB VM.o bN.o) VM.o vK (lG HT.o));clear hg3 aS;go_wp2_with fail;refine Ln.o.mono ?_;rintro e w4 ⟨rfl,⟨v4,iZ⟩,bG⟩;have cp:=ae (bN.o.trans bG);have WR:=ae iZ;have hcu4:=eM HCU.o cp.o hq;have hcl4:=eM pQ.o cp.o hp;have HP4:=ae (Ff (HU.o.keptB VM.o cp.o) (HS.o.keptB sE.o cp.o) hl vK (wV l) (fun s hs=>(lG HT.o s hs).2) (fun x hx=>jr.2 hx));clear iZ bG hcu3;go_wp2_with fail;refine HP4.o.mono ?_;rintro e w5 ⟨⟨v5,rfl,fD⟩,bD⟩;have hG5:=WR.o.kept bD;have QE:=ae hG5;have aQ:=ae (cp.o.trans (bD.mono (jeJ WR.o.lt)));have HP5:=ae (tv (l:=cN l) fD.sv (by rw[bY];exact hl) (en hl));clear fD bD hcu4 hcl4 hG5;go_wp2_with fail;refine HP5.o.mono ?_;rintro e w6 ⟨⟨v6,rfl,AU⟩,dW⟩;have HP6:=ae (fo (QE.o.kept dW) AU.sv (by simp;omega));have gW:=ae (aQ.o.trans (dW.mono (jeJ QE.o.lt)));clear AU dW;go_wp2_with fail;refine HP6.o.mono ?_;rintro e w7 ⟨rfl,⟨v7,hg7⟩,iR,_⟩
 have HG7:jgf (Gs w7 g v7 (dt l)):=ae (by
  rw[sD.o];simpa [jez]using hg7)
 have ir:=ae (gW.o.trans iR);clear hg7 iR;go_wp2_with fail;go_end0
 exact⟨rfl,⟨_,HG7.o⟩,ir.o⟩
theorem xN{W:World}{p T:Nat}{c:Array Value}(h:W.heap[p]?=some (.cells c T (0,0)))(hc:0<c.size):W.cell? ⟨p,0,none⟩=some c[0]/\W.frozen? ⟨p,0,none⟩=false :=
 ⟨by rw[ay h];simp[hc],by simp[World.frozen?,h]⟩
theorem JU{w:World}{B e size n q i:Nat}{v x:Value}{xs:List Value}(h:w.ownsRow B e size v n xs)(hq:∀ k,v.ownBlock=some k->k≠q):(w.setCell ⟨q,i,none⟩ x).ownsRow B e size v n xs:=by
 obtain⟨h0,h | ⟨g,cap,cur,rfl,h2,h3,h4⟩⟩:=h
 ·exact⟨h0,Or.inl h⟩
 ·exact⟨h0,Or.inr ⟨g,cap,cur,rfl,h2,(Below.heap_setCell _ _ _ _ (hq g rfl)).trans h3,h4⟩⟩
theorem Fg{w:World}{B e n q T:Nat}{v:Value}{xs:List Value}{c:Array Value}(h:w.ownsRow B e 1 v n xs)(hq:w.heap[q]?=some (.cells c T (0,0)))(hT:T≠e):∀ k,v.ownBlock=some k->k≠q:=by
 intro k hk e1;subst e1;obtain⟨h0,⟨rfl,_⟩ | ⟨g,cap,cur,rfl,h2,h3,h4⟩⟩:=h
 ·cases hk
 ·cases hk
  rw[hq]at h3;cases h3
  exact hT rfl
theorem Cg{w:World}{vl:Value}{l:List (List Nat)}(hs:Sv w vl (cC l))(gl:∀ k,vl.ownBlock=some k->k<w.heap.size)(hl:l.length<=256)(ht:Ts l) :
  Calls Tryz.prog 173 #[vl] w (dA w (dt l)):=by
 obtain⟨a,cap,rfl,_,_⟩:=hs.form1;have HS:=ae hs;have sE:=ae gl;have HT:=ae ht;rw[dP]at *;have mz:=ae (ak w (.cells #[.slice a l.length cap] 144));have Zh:=jel w (.cells #[.slice a l.length cap] 144);have HCX:=ae (aK w (.slice a l.length cap) 144);have pQ:=ae (JT (hs.kept mz.o) hl);clear hs gl ht;go_enter Tryz.func173,Tryz.ntmps173
 go_wp2_with fail;refine pQ.o.mono ?_;rintro e w1 ⟨⟨v1,rfl,ei⟩,aH⟩;have eO:=ae ei;have aP:=ae aH;have cK:=aH.size;obtain⟨a1,c1,rfl,_,_⟩:=aO ei;have CI:jgf ((w1.alloc (.cells #[.slice a1 l.length c1] 144)).heap[w1.heap.size]?=some (.cells #[.slice a1 l.length c1] 144 (0,0))):=ae (jeK _ _);have bv:=jel w1 (.cells #[.slice a1 l.length c1] 144);have hO2:=eO.o.kept (ak w1 (.cells #[.slice a1 l.length c1] 144));have dz:=ae hO2;have aE:=aP.o.trans ((ak w1 (.cells #[.slice a1 l.length c1] 144)).mono cK);have aN:=ae aE;have hlu:(upT l).length=l.length:=tD l
 have hS2:(w1.alloc (.cells #[.slice a1 l.length c1] 144)).ownsRow (w.alloc (.cells #[.slice a l.length cap] 144)).heap.size 9 1 (.slice a1 l.length c1) (upT l).length ((upT l).map encStr):=by
  rw[hlu,← Fb];exact hO2
 have HSO:=ae (Ps hS2 (by omega) (by omega));clear ei aH hO2 aE hS2 hlu;go_wp2_with fail;refine HSO.o.mono ?_;rintro e w3 ⟨rfl,fW,aS,MF⟩;have hlu:(upT l).length=l.length:=tD l;have zm:∀ k,(Value.slice a1 l.length c1).ownBlock=some k->k<w1.heap.size:=fun k hk=>(eO.o.lt k hk).2
 have MD:w3.heap[w1.heap.size]?=some (.cells #[.slice a1 l.length c1] 144 (0,0)):=(MF w1.heap.size (by omega) (fun e=>by have:=zm _ e;omega)).trans CI.o;have HQ3:=ae MD;obtain⟨Lk,iJ⟩:=xN MD (by simp);have iN:=aS.size;have bN:=ae (aN.o.trans aS);have hls:(qs (upT l)).length=l.length:=by rw[lv];exact hlu
 have ho3':w3.ownsRow (w.alloc (.cells #[.slice a l.length cap] 144)).heap.size 9 1 (.slice a1 l.length c1) (qs (upT l)).length ((qs (upT l)).map encStr):=by
  rw[lv];exact fW
 have HCO:=ae (Ce ho3' (by omega) (by omega));rw[JS (fun s hs=>(HT.o s hs).2),← Fb,tD]at HCO;simp only[List.getElem_toArray,jfZ]at Lk;clear fW ho3' aS MF MD hls hlu;go_wp2_with fail;refine HCO.o.mono ?_;rintro e w4 ⟨⟨v4,rfl,gQ⟩,bG,hk4⟩;have hq4:w4.heap[w1.heap.size]?=some (.cells #[.slice a1 l.length c1] 144 (0,0)):=(hk4 w1.heap.size (by omega) (fun e=>by have:=zm _ e;omega)).trans HQ3.o;obtain⟨hc4,pT⟩:=xN hq4 (by simp);simp only[List.getElem_toArray,jfZ]at hc4;have KR:=bG.size;have cp:=ae (bN.o.trans bG);obtain⟨a4,c4,rfl,_,_⟩:=aO gQ;have jcy:=Fg gQ hq4 (by decide);have hO5:=JU (i:=0) (x:=.slice a4 (tuq l).length c4) gQ jcy;have hq5:=cU hq4 0 (.slice a4 (tuq l).length c4);have aQ:=ae (cp.o.setCell (p:=⟨w1.heap.size,0,none⟩) (by show _<=w1.heap.size;omega) (.slice a4 (tuq l).length c4));have tU:(w4.setCell ⟨w1.heap.size,0,none⟩ (.slice a4 (tuq l).length c4)).heap.size=w4.heap.size:=World.size_setCell _ _ _
 have HGA:=ae (Ud (w:=w4.setCell ⟨w1.heap.size,0,none⟩ (.slice a4 (tuq l).length c4)) (p:=.pointer (some ⟨w1.heap.size,0,none⟩)) (q:=.pointer (some ⟨w.heap.size,0,none⟩)) (bs:=dt l) (fun W hg hb=>by
  have fK:Below (w.alloc (.cells #[.slice a l.length cap] 144)).heap.size (w.alloc (.cells #[.slice a l.length cap] 144)) W:=aQ.o.trans (hb.mono (by omega));have lC:Below w.heap.size w W:=mz.o.trans (fK.mono (by omega));refine yT (vu:=.slice a4 (tuq l).length c4) hg (by omega) (by omega) ?_ ?_ (HS.o.kept lC) (fun k hk=>by have:=sE.o k hk;omega) ?_ (fun k hk=>?_) hl HT.o
  ·rw[hb.cell (p:=⟨w1.heap.size,0,none⟩) (by show w1.heap.size<_;omega),ay hq5]
   rfl
  ·rw[fK.cell (p:=⟨w.heap.size,0,none⟩) (by show w.heap.size<_;omega)]
   exact HCX.o
  ·exact(Sv.of_own hO5).kept hb
  ·have:=(hO5.lt k hk).2
   omega))
 clear gQ bG hk4 hq4 jcy hO5 hq5;generalize dt l=bs at *;generalize tuq l=ul at *;go_wp2_with fail;refine HGA.o.mono ?_;rintro e w6 ⟨⟨v6,rfl,AU⟩,dW⟩;have my:=ae (AU.low (B:=w.heap.size) (by omega));have gW:=ae (mz.o.trans ((aQ.o.trans (dW.mono (by omega))).mono (by omega)));clear AU dW;go_wp2_with fail;go_ret
 exact⟨⟨_,rfl,my.o⟩,gW.o⟩
theorem yU{w:World}{vl:Value}{l:List (List Nat)}(hs:Sv w vl (cC l))(gl:∀ k,vl.ownBlock=some k->k<w.heap.size)(hl:l.length<=256)(ht:Ts l) :
  Calls Tryz.prog 130 #[vl] w (dA w (eS l)):=by
 have HE:=ae (Cf hs gl hl ht);have HP:=ae (fun(W:World) (hb:Below w.heap.size w W)=>Cg (hs.kept hb) (fun k hk=>jeH (gl k hk) hb.size) hl ht);have HW:jgf (eS l=if (dt l).length<(plain l).length then dt l else plain l):=rfl;clear hs gl ht;generalize eS l=wb at *;generalize dt l=bl at *;generalize plain l=bp at *;go_enter Tryz.func130,Tryz.ntmps130
 go_wp2_with fail;refine HE.o.mono ?_;rintro e w1 ⟨⟨v1,rfl,ei⟩,aH⟩;have eO:=ae ei;have aP:=ae aH;have cK:=aH.size;obtain⟨a1,c1,rfl⟩:=ei.len;clear ei aH;go_wp2_with fail;refine(HP.o _ aP.o).mono ?_;rintro e w2 ⟨⟨v2,rfl,ft⟩,aE⟩;have HO1':=ae (eO.o.kept aE);have dz:=ae (ft.low cK);have aN:=ae (aP.o.trans (aE.mono cK));obtain⟨a2,c2,rfl⟩:=ft.len;clear ft aE;by_cases h:bl.length<bp.length
 ·have h':(bl.length:Int)<(bp.length:Int):=by omega
  rw[jei h]at HW;clear h;go_wp2_with fail;go_ret
  rw[HW.o];exact⟨⟨_,rfl,dz.o⟩,aN.o⟩
 ·have h':¬ (bl.length:Int)<(bp.length:Int):=by omega
  rw[jeh h]at HW;clear h;go_wp2_with fail;go_ret
  rw[HW.o];exact⟨⟨_,rfl,HO1'.o⟩,aN.o⟩
theorem yV{w:World}{B e n:Nat}{v:Value}{xs:List Value}(h:w.ownsRow B e 1 v n xs):∀ k,v.ownBlock=some k->k<w.heap.size:=fun k hk=>(h.lt k hk).2
theorem JV{w:World}{g p q k:Nat}{v vl:Value}{l:List (Nat×Int×List Nat)}(hg:Gs w g v [])(hp:p<g)(hq:q<g)(eX:w.cell? ⟨p,0,none⟩=some vl)(dN:w.cell? ⟨q,0,none⟩=some (.int .u8 (k:Int)))
  (hs:Sv w vl (aJ l)) (gl:∀ k,vl.ownBlock=some k->k<g) (hc:Col k l) :
  Calls Tryz.prog 124 #[.func (.func 168) #[] #[.pointer (some ⟨g,0,none⟩)],.pointer (some ⟨p,0,none⟩),.pointer (some ⟨q,0,none⟩)] w (jC w g (ey k l)):=by
 have CZ:=hg.lt;have pQ:=ae eX;have lA:=ae dN;have HS:=ae hs;have sE:=ae gl;obtain⟨hk,hl,hcells⟩:=hc;have HC:=ae hcells;have hhd:=(ta (l:=l) hl).1;have Ll:jgf (ey k l=dO l++gE k l):=rfl;have Dj:=ae (Cc hg (by simp) hs hl);have hol:=ik l;obtain⟨a,cap,rfl,_,_⟩:=hs.form1;rw[aG]at *;clear hg hs gl hcells dN;obtain rfl | rfl | rfl:k=1∨k=2∨k=3:=by omega
 ·have ju:=je HC.o
  have fK:=gL ju.1 (by rw[jen];omega);have HI:=ae ju.1;have VO:=ae (wX l);clear ju;go_enter Tryz.func124,Tryz.ntmps124
  go_wp2_with fail;refine Dj.o.mono ?_;rintro e w1 ⟨rfl,⟨v1,eZ⟩,aH⟩;have tX:=ae eZ;have aP:=ae aH;have VP:=eM pQ.o aH hp;have VQ:=eM lA.o aH hq;have AY:=ae (JD (HS.o.keptB sE.o aH) hl HC.o);clear eZ aH eX;go_wp2_with fail;refine AY.o.mono ?_;rintro e w2 ⟨⟨v2,rfl,ft⟩,aE⟩;have Ld:=ae (tX.o.kept aE);have aN:=ae (aP.o.trans (aE.mono (jeJ tX.o.lt)));have nI:=ae (tv ft.sv (by rw[jen];omega) HI.o);clear ft aE VP VQ;go_wp2_with fail;refine nI.o.mono ?_;rintro e w3 ⟨⟨v3,rfl,fW⟩,aS⟩;have bN:=ae (aN.o.trans (aS.mono (jeJ Ld.o.lt)));have Ln:=ae (fo (Ld.o.kept aS) fW.sv (by simp only[jfi];omega));clear fW aS;go_wp2_with fail;refine Ln.o.mono ?_;rintro e w4 ⟨rfl,⟨v4,iZ⟩,bG,_⟩;rw[jfi,← VO.o,← Ll.o]at iZ;have WR:=ae iZ;have cp:=ae (bN.o.trans bG);clear iZ bG;go_wp2_with fail;go_end0
  exact⟨rfl,⟨_,WR.o⟩,cp.o⟩
 ·have ju:=fP HC.o
  have fK:=jD ju.1 (by rw[jen];omega);have HI:=ae ju.1;have VO:=ae (wY l);clear ju;go_enter Tryz.func124,Tryz.ntmps124
  go_wp2_with fail;refine Dj.o.mono ?_;rintro e w1 ⟨rfl,⟨v1,eZ⟩,aH⟩;have tX:=ae eZ;have aP:=ae aH;have VP:=eM pQ.o aH hp;have VQ:=eM lA.o aH hq;have AY:=ae (JF (HS.o.keptB sE.o aH) hl HC.o);clear eZ aH eX;go_wp2_with fail;refine AY.o.mono ?_;rintro e w2 ⟨⟨v2,rfl,ft⟩,aE⟩;have Ld:=ae (tX.o.kept aE);have aN:=ae (aP.o.trans (aE.mono (jeJ tX.o.lt)));have nI:=ae (Ar ft.sv HI.o);clear ft aE VP VQ;go_wp2_with fail;refine nI.o.mono ?_;rintro e w3 ⟨⟨v3,rfl,fW⟩,aS⟩;have bN:=ae (aN.o.trans (aS.mono (jeJ Ld.o.lt)));have Ln:=ae (fo (Ld.o.kept aS) fW.sv (by simp only[jfi];omega));clear fW aS;go_wp2_with fail;refine Ln.o.mono ?_;rintro e w4 ⟨rfl,⟨v4,iZ⟩,bG,_⟩;rw[jfi,← VO.o,← Ll.o]at iZ;have WR:=ae iZ;have cp:=ae (bN.o.trans bG);clear iZ bG;go_wp2_with fail;go_end0
  exact⟨rfl,⟨_,WR.o⟩,cp.o⟩
 ·have ju:=gR HC.o
  have fK:=(mM ju.1 (by rw[jen];omega)).1;have HI:=ae ju.1;have VO:=ae (wZ l);clear ju;go_enter Tryz.func124,Tryz.ntmps124
  go_wp2_with fail;refine Dj.o.mono ?_;rintro e w1 ⟨rfl,⟨v1,eZ⟩,aH⟩;have tX:=ae eZ;have aP:=ae aH;have VP:=eM pQ.o aH hp;have VQ:=eM lA.o aH hq;have AY:=ae (JE (HS.o.keptB sE.o aH) hl HC.o);clear eZ aH eX;go_wp2_with fail;refine AY.o.mono ?_;rintro e w2 ⟨⟨v2,rfl,ft⟩,aE⟩;have Ld:=ae (tX.o.kept aE);have aN:=ae (aP.o.trans (aE.mono (jeJ tX.o.lt)));have nI:=ae (yU ft.sv (yV ft) (by rw[jen];omega) HI.o);clear ft aE VP VQ;go_wp2_with fail;refine nI.o.mono ?_;rintro e w3 ⟨⟨v3,rfl,fW⟩,aS⟩;have bN:=ae (aN.o.trans (aS.mono (jeJ Ld.o.lt)));have Ln:=ae (fo (Ld.o.kept aS) fW.sv (by simp only[jfi];omega));clear fW aS;go_wp2_with fail;refine Ln.o.mono ?_;rintro e w4 ⟨rfl,⟨v4,iZ⟩,bG,_⟩;rw[jfi,← VO.o,← Ll.o]at iZ;have WR:=ae iZ;have cp:=ae (bN.o.trans bG);clear iZ bG;go_wp2_with fail;go_end0
  exact⟨rfl,⟨_,WR.o⟩,cp.o⟩
def tE(r:List Nat×Nat)(w:World)(e:Ending)(w':World):Prop:=(∃ v,e=.returned (.tuple #[v,.int .i64 (r.2:Int)])/\aD w' w.heap.size v r.1)/\Below w.heap.size w w'
theorem JW{k:Nat}{l:List (Nat×Int×List Nat)}(h:(dZ k l).2≠0):(dZ k l).1=[]:=by
 unfold dZ at h ⊢;split
 ·split
  ·next h1 h2 =>
   rw[jei h1,jei h2]at h;exact absurd rfl h
  ·rfl
 ·rfl
theorem Fh{k:Nat}{l:List (Nat×Int×List Nat)}(hf:∀ c∈l,aT c)(h:(dZ k l).2=0):Col k l:=by
 unfold dZ at h;split at h
 ·next h1 =>
  split at h
  ·next h2=>exact⟨⟨h1.1,h1.2.1⟩,h2.1,fun c hc=>(hf c hc).cellk (h1.2.2 c hc)⟩
  ·simp at h
 ·simp at h
theorem Ax{w:World}{vl:Value}{l:List (Nat×Int×List Nat)}(hs:Sv w vl (aJ l))(gl:∀ k,vl.ownBlock=some k->k<w.heap.size)(hf:∀ c∈l,aT c)(k:Nat) :
  Calls Tryz.prog 83 #[.int .u8 (k:Int),vl] w (tE (dZ k l) w):=by
 obtain⟨a,cap,rfl,_,_⟩:=hs.form1;have cK:=jel w (.cells #[.int .u8 (k:Int)] 50);have bv:=jel (w.alloc (.cells #[.int .u8 (k:Int)] 50)) (.cells #[.slice a (aJ l).length cap] 79);have aH:=ak w (.cells #[.int .u8 (k:Int)] 50);have aE:=ak (w.alloc (.cells #[.int .u8 (k:Int)] 50)) (.cells #[.slice a (aJ l).length cap] 79);have yx:=aH.trans (aE.mono (by omega));have fX:=ae yx;have Lb:=ae (JH (hs.kept yx) hf k);have WG:=ae (aK w (.int .u8 (k:Int)) 50);have HC2:=ae (aK (w.alloc (.cells #[.int .u8 (k:Int)] 50)) (.slice a (aJ l).length cap) 79);have HC1':jgf (((w.alloc (.cells #[.int .u8 (k:Int)] 50)).alloc (.cells #[.slice a (aJ l).length cap] 79)).cell? ⟨w.heap.size,0,none⟩=some (.int .u8 (k:Int))):=ae ((aE.cell (p:=⟨w.heap.size,0,none⟩) (by show w.heap.size<_;omega)).trans WG.o);have tV:=ae (JW (k:=k) (l:=l));have AZ:=ae (fun h=>Fh (k:=k) (l:=l) hf h);have HWC:=ae (fun h=>kx (k:=k) (l:=l) h)
 have HGA:=ae (fun(W1:World) (hw:Below ((w.alloc (.cells #[.int .u8 (k:Int)] 50)).alloc (.cells #[.slice a (aJ l).length cap] 79)).heap.size ((w.alloc (.cells #[.int .u8 (k:Int)] 50)).alloc (.cells #[.slice a (aJ l).length cap] 79)) W1) (ec:Col k l)=>Ub (w:=W1) (p:=.pointer (some ⟨w.heap.size+1,0,none⟩)) (q:=.pointer (some ⟨w.heap.size,0,none⟩)) (bs:=ey k l) (fun W hg hb=>by
  have jG:=hw.size;have aS:Below w.heap.size w W:=yx.trans ((hw.trans (hb.mono jG)).mono (by omega));refine JV (vl:=.slice a (aJ l).length cap) hg (by omega) (by omega) ?_ ?_ (hs.kept aS) (fun k hk=>by have:=gl k hk;omega) ec
  ·rw[hb.cell (p:=⟨w.heap.size+1,0,none⟩) (by show w.heap.size+1<_;omega),hw.cell (p:=⟨w.heap.size+1,0,none⟩) (by show w.heap.size+1<_;omega)]
   have:=HC2.o;rwa[cK]at this
  ·rw[hb.cell (p:=⟨w.heap.size,0,none⟩) (by show w.heap.size<_;omega),hw.cell (p:=⟨w.heap.size,0,none⟩) (by show w.heap.size<_;omega)]
   exact HC1'.o))
 clear hs gl hf aH aE yx;generalize dZ k l=wc at *;obtain⟨bs,er⟩:=wc;simp only at *;generalize (aJ l).length=n at *;by_cases he:er=0
 ·subst he
  have ec:=AZ.o rfl;have sO:jgf (bs=ey k l):=ae (by have:=HWC.o ec;simpa using this);have nA:=ae ec;clear ec;go_enter Tryz.func83,Tryz.ntmps83
  go_wp2_with fail;refine Lb.o.mono ?_;rintro e w1 ⟨rfl,aH⟩;have HGA1:=ae (HGA.o w1 aH nA.o);have aP:=ae (fX.o.trans (aH.mono (by omega)));have iN:=aH.size;clear aH;go_wp2_with fail;refine HGA1.o.mono ?_;rintro e w2 ⟨⟨v2,rfl,ft⟩,aE⟩;have dz:=ae (ft.low (B:=w.heap.size) (by omega));have aN:=ae (aP.o.trans (aE.mono (by omega)));clear ft aE;go_wp2_with fail;go_ret2
  rw[sO.o];exact⟨⟨_,rfl,dz.o⟩,aN.o⟩
 ·have fJ:((er:Int) != 0)=true:=by simpa using he
  have sO:jgf (bs=[]):=ae (tV.o he);clear he;go_enter Tryz.func83,Tryz.ntmps83
  go_wp2_with fail;refine Lb.o.mono ?_;rintro e w1 ⟨rfl,aH⟩;have aP:=ae (fX.o.trans (aH.mono (by omega)));clear aH;go_wp2_with fail;go_ret2
  rw[sO.o];exact⟨⟨_,rfl,aD.nil _ _⟩,aP.o⟩
theorem Sv.keptW{W W':World}{B:Nat}{v:Value}{xs:List Value}(h:Sv W v xs)(hv:0<xs.length->∀ k,v.ownBlock=some k->k<B)(hb:Below B W W'):Sv W' v xs:=by
 obtain⟨a,cap,rfl,h1,h2,h3,h4⟩:=h;refine⟨a,cap,rfl,h1,h2,h3,fun h0=>?_⟩;obtain⟨b,off,rfl,h5,h6⟩:=h4 h0;have hb':b<B:=hv h0 b rfl;exact⟨b,off,rfl,jeH h5 hb.size,fun j x hj=>(hb.cell (p:=⟨b,off+j,none⟩) hb').trans (h6 j x hj)⟩
def Rs(W:World)(p:Nat)(b:List Nat)(f:Nat):Prop :=
 ∃ a cap,W.heap[p]?=some (.cells #[.slice a b.length cap,.int .i64 (f:Int)] 271 (0,0))/\Sv W (.slice a b.length cap) (aF .u8 b)/\(0<b.length->∀ k,(Value.slice a b.length cap).ownBlock=some k->k<p)/\Bs b
theorem Rs.bs{W:World}{p:Nat}{b:List Nat}{f:Nat}(h:Rs W p b f):Bs b:=by obtain⟨_,_,_,_,_,h⟩:=h;exact h
theorem Rs.lt{W:World}{p:Nat}{b:List Nat}{f:Nat}(h:Rs W p b f):p<W.heap.size:=by obtain⟨_,_,h,_⟩:=h;exact(Array.getElem?_eq_some_iff.1 h).1
theorem Rs.kept{W W':World}{p B:Nat}{b:List Nat}{f:Nat}(h:Rs W p b f)(hb:Below B W W')(hp:p<B):Rs W' p b f:=by
 obtain⟨a,cap,h1,h2,h3,h4⟩:=h;exact⟨a,cap,(hb.block p hp).trans h1,h2.keptW (fun h0 k hk=>je0 (h3 (by rwa[ap]at h0) k hk) hp) hb,h3,h4⟩
theorem Sv.dropG{W:World}{a:Option Addr}{n cap:Nat}{xs:List Value}(h:Sv W (.slice a n cap) xs){k:Nat}(hk:k<=xs.length) :
  Sv W (.slice (if cap=k then a else a.map fun x=>x.add k) (xs.length-k) (cap-k)) (xs.drop k):=by
 obtain⟨a',cap',e,h1,h2,h3,h4⟩:=h;simp only[Value.slice.injEq]at e;obtain⟨rfl,rfl,rfl⟩:=e;refine⟨_,cap-k,by rw[jeR],by rw[jeR];omega,by omega,fun e=>?_,fun h0=>?_⟩
 ·by_cases hc:cap=k
  ·omega
  ·rw[jeh hc]at e
   have ha:a=none:=by cases a with | none=>rfl | some x=>simp at e
   have:=h3 ha;omega
 ·rw[jeR]at h0
  obtain⟨b,off,rfl,h5,h6⟩:=h4 (by omega);refine⟨b,off+k,?_,h5,fun j x hj=>?_⟩
  ·rw[jeh (by omega)]
   simp[lR]
  ·rw[List.getElem?_drop]at hj
   have:=h6 (k+j) x hj;rwa[← jfr]at this
theorem jE{a:Option Addr}{n cap m k c:Nat}{p:Nat}(h:∀ i,(Value.slice a n cap).ownBlock=some i->i<p):∀ i,(Value.slice (if c=k then a else a.map fun x=>x.add k) m (cap-k)).ownBlock=some i->i<p:=by
 intro i hi;cases a with
 | none =>
  split at hi<;>cases hi
 | some x =>
  refine h i ?_;split at hi
  ·exact hi
  ·simp only[jfu,Value.ownBlock]at hi ⊢
   unfold Addr.add at hi;split at hi<;>exact hi
theorem Rs.cells{W:World}{p:Nat}{b:List Nat}{f:Nat}(h:Rs W p b f) :
  ∃ a cap,W.cell? ⟨p,0,none⟩=some (.slice a b.length cap)/\W.cell? ⟨p,1,none⟩=some (.int .i64 (f:Int))/\W.frozen? ⟨p,0,none⟩=false/\W.frozen? ⟨p,1,none⟩=false /\
   b.length<=cap/\cap<=9223372036854775807/\Sv W (.slice a b.length cap) (aF .u8 b)/\(0<b.length->∀ k,(Value.slice a b.length cap).ownBlock=some k->k<p) /\
   (∀ f':Nat,Rs (W.setCell ⟨p,1,none⟩ (.int .i64 (f':Int))) p b f') /\
   (∀ k,k<=b.length->∃ A,(if cap=k then a else a.map fun x=>x.add k)=A/\Rs (W.setCell ⟨p,0,none⟩ (.slice A (b.length-k) (cap-k))) p (b.drop k) f) /\
   Rs (W.setCell ⟨p,0,none⟩ (.slice none 0 0)) p [] f:=by
 have aB:=h.lt;obtain⟨a,cap,h1,h2,h3,h4⟩:=h;have lO:∀ i (x:Value),Below p W (W.setCell ⟨p,i,none⟩ x):=fun i x=>(jej p W).setCell (jek _) x
 have bC:=h2.form1;obtain⟨a',cap',e,lK,ke⟩:=bC;rw[ap]at e lK;simp only[Value.slice.injEq]at e;obtain⟨rfl,_,rfl⟩:=e;refine⟨a,cap,by rw[ay h1];rfl,by rw[ay h1];rfl,by simp[World.frozen?,h1],by simp[World.frozen?,h1],lK,by unfold maxLen at ke;omega,h2,h3,fun f'=>?_,fun k hk=>?_,?_⟩
 ·exact⟨a,cap,by rw[cU h1];rfl,h2.keptW (fun h0=>h3 (by rwa[ap]at h0)) (lO 1 _),h3,h4⟩
 ·refine⟨_,rfl,?_⟩
  have hd:=h2.dropG (k:=k) (by rw[ap];exact hk);rw[ap]at hd;have hv:(aF .u8 b).drop k=aF .u8 (b.drop k):=by simp[aF,List.map_drop]
  rw[hv]at hd;have fK:0<b.length->∀ i,(Value.slice (if cap=k then a else a.map fun x=>x.add k) (b.length-k) (cap-k)).ownBlock=some i->i<p:=fun h0=>jE (m:=b.length-k) (k:=k) (c:=cap) (h3 h0)
  refine⟨_,cap-k,by rw[cU h1,jeR];rfl,?_,?_,h4.drop k⟩
  ·rw[jeR]
   exact hd.keptW (fun h0=>fK (by rw[ap,jeR]at h0;omega)) (lO 0 _)
  ·rw[jeR]
   exact fun h0=>fK (by omega)
 ·refine⟨none,0,by rw[cU h1];rfl,Sv.nil _,fun h0=>by simp at h0,fun x hx=>by simp at hx⟩
theorem cG{w:World}{p f:Nat}{b:List Nat}(h:Rs w p b f)(e:Nat) :
  Calls Tryz.prog 237 #[.pointer (some ⟨p,0,none⟩),.int .i64 (e:Int)] w fun r w'=>r=.returned (.tuple #[])/\Rs w' p b (orf f e)/\Fr p w.heap.size w w':=by
 have HS:=ae h;obtain⟨a,cap,h0,h1,h2,h3,h4,h5,h6,h7,h8,h9,nB⟩:=h.cells;have H8:=ae (h8 e);have HF:=ae ((Fr.refl p w.heap.size w).set 1 (.int .i64 (e:Int)));clear h h6 h7 h8 h9 nB;by_cases hf:((f:Int)==0)=true
 ·have hf':f=0:=by simpa using hf
  have HO:jgf (orf f e=e):=by show _=_;unfold orf;rw[jei hf']
  clear hf';go_enter Tryz.func237,Tryz.ntmps237
  go_wp2_with fail;go_end0
  rw[HO.o];exact⟨rfl,H8.o,HF.o⟩
 ·have hff:((f:Int)==0)=false:=by simpa using hf
  have HO:jgf (orf f e=f):=by show _=_;unfold orf;rw[jeh (fun e=>hf (by simp[e]))]
  clear hf;go_enter Tryz.func237,Tryz.ntmps237
  go_wp2_with fail;go_end0
  rw[HO.o];exact⟨rfl,HS.o,Fr.refl _ _ _⟩
theorem xO{w:World}{p f:Nat}{b:List Nat}(h:Rs w p b f) :
  Calls Tryz.prog 280 #[.pointer (some ⟨p,0,none⟩)] w fun r w'=>r=.returned (.tuple #[])/\Rs w' p b (orf f (if b.length=0 then 0 else 32))/\Fr p w.heap.size w w':=by
 have HS:=ae h;obtain⟨a,cap,h0,h1,h2,h3,h4,h5,h6,h7,h8,h9,nB⟩:=h.cells;have HR:=ae (cG h 32);clear h h6 h7 h8 h9 nB;by_cases hp:(b.length:Int) > 0
 ·rw[jeh (by omega)]
  go_enter Tryz.func280,Tryz.ntmps280
  go_wp2_with fail;refine HR.o.mono ?_;rintro e w1 ⟨rfl,eg,dh⟩;have ja:=ae eg;clear eg;go_wp2_with fail;go_end0
  exact⟨rfl,ja.o,dh⟩
 ·have dL:b.length=0:=by omega
  rw[jei dL];have HO:jgf (orf f 0=f):=by show _=_;unfold orf;split<;>simp_all
  clear dL;go_enter Tryz.func280,Tryz.ntmps280
  go_wp2_with fail;go_end0
  rw[HO.o];exact⟨rfl,HS.o,Fr.refl _ _ _⟩
def tkB(c:Nat)(b:List Nat):List Nat:=if b.length<c then [] else b.take c
def tkR(c:Nat)(b:List Nat):List Nat:=if b.length<c then b else b.drop c
def tkF(c:Nat)(b:List Nat)(f:Nat):Nat:=if b.length<c then orf f 30 else f
theorem ph{w:World}{p f:Nat}{b:List Nat}(h:Rs w p b f)(c:Nat)(hc:c<18446744073709551616) :
  Calls Tryz.prog 293 #[.pointer (some ⟨p,0,none⟩),.int .u64 (c:Int)] w fun r w'=>(∃ v,r=.returned v/\Sv w' v (aF .u8 (tkB c b)))/\Rs w' p (tkR c b) (tkF c b f)/\Fr p w.heap.size w w':=by
 have HS:=ae h;obtain⟨a,cap,h0,h1,h2,h3,h4,h5,h6,h7,h8,h9,nB⟩:=h.cells;have HR:=ae (cG h 30);by_cases hp:b.length<c
 ·have hp':(c:Int) > (b.length:Int):=by omega
  have HB:jgf (tkB c b=[]/\tkR c b=b/\tkF c b f=orf f 30):=⟨jei hp,jei hp,jei hp⟩;clear h h6 h7 h8 h9 nB hp;go_enter Tryz.func293,Tryz.ntmps293
  go_wp2_with fail;refine HR.o.mono ?_;rintro e w1 ⟨rfl,eg,dh⟩;have ja:=ae eg;have gp:=ae dh;clear eg dh;go_wp2_with fail;go_ret
  rw[HB.o.1,HB.o.2.1,HB.o.2.2];exact⟨⟨_,rfl,Sv.nil _⟩,ja.o,gp.o⟩
 ·have hp':¬ (c:Int) > (b.length:Int):=by omega
  have HB:jgf (tkB c b=b.take c/\tkR c b=b.drop c/\tkF c b f=f):=⟨jeh hp,jeh hp,jeh hp⟩;obtain⟨A,hA,hSA⟩:=h9 c (by omega);have lN:=ae hSA;have HF:=ae ((Fr.refl p w.heap.size w).set 0 (.slice A (b.length-c) (cap-c)))
  have hT:Sv w (.slice a c cap) (aF .u8 (b.take c)):=by
   have:=h6.take (k:=c) (by rw[ap];omega);rwa[← Ae]at this
  have hTb:0<(aF .u8 (b.take c)).length->∀ k,(Value.slice a c cap).ownBlock=some k->k<p:=fun h0 k hk=>h7 (by rw[ap,jeq]at h0;omega) k (by cases a with | none=>cases hk | some x=>exact hk)
  have HT:=ae (hT.keptW hTb ((jej p w).setCell (p:=⟨p,0,none⟩) (jek _) (.slice A (b.length-c) (cap-c))));clear h h6 h7 h8 h9 nB hp hSA hT hTb;go_enter Tryz.func293,Tryz.ntmps293
  go_wp2_with fail;go_ret
  rw[HB.o.1,HB.o.2.1,HB.o.2.2];exact⟨⟨_,rfl,HT.o⟩,lN.o,HF.o⟩
theorem uE{w:World}{p f:Nat}{b:List Nat}(h:Rs w p b f) :
  Calls Tryz.prog 311 #[.pointer (some ⟨p,0,none⟩)] w fun r w'=>r=.returned (.int .u64 ((gt b).1:Int))/\Rs w' p (b.drop (gt b).2.1) (orf f (gt b).2.2)/\Fr p w.heap.size w w':=by
 have HS:=ae h;have HB:=ae h.bs;obtain⟨a,cap,h0,h1,h2,h3,h4,h5,h6,h7,h8,h9,nB⟩:=h.cells;obtain⟨g1,g2,g3,g4⟩:=gd b;have HG:=ae (BA HB.o h6);clear h h6 h7 h8 h9 nB g4;generalize gt b=x at *;obtain⟨n,u,c⟩:=x;simp only at *;unfold kX at HG;go_enter Tryz.func311,Tryz.ntmps311
 go_wp2_with fail;refine HG.o.mono ?_;rintro e w1 ⟨rfl,rfl⟩;go_wp2_with fail;refine(cG HS.o c).mono ?_;rintro e w2 ⟨rfl,dR,dG⟩;obtain⟨A0,Cap,k0,k1,k2,k3,k4,k5,k6,k7,k8,k9,k10⟩:=dR.cells;obtain⟨A,hA,hSA⟩:=k9 u g2;have lN:=ae hSA;have gP:=ae (dG.set 0 (.slice A (b.length-u) (Cap-u)));clear dR dG k6 k7 k8 k9 k10 hSA h0 h1 h2 h3;go_wp2_with fail;go_ret
 exact⟨rfl,lN.o,gP.o⟩
def chX:List Nat->Nat
 | []=>0
 | x::_=>if x<=1 then x else 0
def chF(b:List Nat)(f:Nat):Nat :=
 match b with
 | []=>orf f 30
 | x::_=>if x<=1 then f else orf f 40
theorem om(x:Nat)(t:List Nat)(f:Nat):tkB 1 (x::t)=[x]/\tkR 1 (x::t)=t/\tkF 1 (x::t) f=f:=by
 refine⟨?_,?_,?_⟩
 ·unfold tkB;rw[jeh (by simp)];rfl
 ·unfold tkR;rw[jeh (by simp)];rfl
 ·unfold tkF;rw[jeh (by simp)]
theorem xP{w:World}{p f:Nat}{b:List Nat}(h:Rs w p b f) :
  Calls Tryz.prog 275 #[.pointer (some ⟨p,0,none⟩),.int .u8 0,.int .u8 1] w fun r w'=>r=.returned (.int .u8 (chX b:Int))/\Rs w' p b.tail (chF b f)/\Fr p w.heap.size w w':=by
 have HT:=ae (ph h 1 (by omega));have sO:=ae h.bs;have aB:=h.lt;clear h;cases b with
 | nil =>
  have HE:jgf (tkB 1 []=[]/\tkR 1 []=[]/\tkF 1 [] f=orf f 30):=⟨rfl,rfl,rfl⟩;rw[HE.o.1,HE.o.2.1,HE.o.2.2]at HT;go_enter Tryz.func275,Tryz.ntmps275
  go_wp2_with fail;refine HT.o.mono ?_;rintro e w1 ⟨⟨v1,rfl,Do⟩,eg,dh⟩;have ja:=ae eg;have gp:=ae dh;obtain⟨a,cap,rfl,_,_⟩:=Do.form1;rw[ap]at *;clear eg dh Do;go_wp2_with fail;go_ret
  exact⟨rfl,ja.o,gp.o⟩
 | cons x t =>
  rw[(om x t f).1,(om x t f).2.1,(om x t f).2.2]at HT;have hx:=sO.o x (by simp);go_enter Tryz.func275,Tryz.ntmps275
  go_wp2_with fail;refine HT.o.mono ?_;rintro e w1 ⟨⟨v1,rfl,Do⟩,eg,dh⟩;have ja:=ae eg;have gp:=ae dh;obtain⟨a,cap,rfl,_,bC⟩:=Do.form1;have hcm':cap<=9223372036854775807:=by unfold maxLen at bC;omega
  obtain⟨g,off,rfl,hg,bn⟩:=Do.at1 (k:=0) (x:=.int .u8 (x:Int)) rfl;rw[je9]at bn;rw[ap]at *;clear Do bC;by_cases GM:x<=1
  ·have HE:jgf (chX (x::t)=x/\chF (x::t) f=f):=⟨jei GM,jei GM⟩
   obtain rfl | rfl:x=0∨x=1:=by omega
   ·clear eg dh
    go_wp2_with fail;go_ret
    rw[HE.o.1,HE.o.2];exact⟨rfl,ja.o,gp.o⟩
   ·clear eg dh
    go_wp2_with fail;go_ret
    rw[HE.o.1,HE.o.2];exact⟨rfl,ja.o,gp.o⟩
  ·have HE:jgf (chX (x::t)=0/\chF (x::t) f=orf f 40):=⟨jeh GM,jeh GM⟩
   have qI:((x:Int) != 0)=true:=by
    have:(x:Int)≠0:=by omega
    simpa using this
   have Za:((x:Int) != 1)=true:=by
    have:(x:Int)≠1:=by omega
    simpa using this
   have HR:=ae (cG eg 40);clear eg dh GM;go_wp2_with fail;refine HR.o.mono ?_;rintro e w2 ⟨rfl,dR,dG⟩;have gj:=ae dR;have gP:=ae (gp.o.trans (dG.mono gp.o.size));clear dR dG;go_wp2_with fail;go_ret
   rw[HE.o.1,HE.o.2];exact⟨rfl,gj.o,gP.o⟩
theorem tF{c:Nat}{b:List Nat}(h:Bs b):Bs (tkB c b):=by
 unfold tkB;split
 ·exact fun x hx=>by simp at hx
 ·exact h.take c
theorem uF{w:World}{p f:Nat}{b:List Nat}(h:Rs w p b f)(n:Nat)(hn:n<=256) :
  Calls Tryz.prog 276 #[.pointer (some ⟨p,0,none⟩),.int .i64 (n:Int)] w fun r w'=>(∃ v,r=.returned v/\dJ w' w.heap.size v (unR (tkB (by8 n) b) n 1))/\Rs w' p (tkR (by8 n) b) (orf (tkF (by8 n) b f) (unE (tkB (by8 n) b) n 1))/\Fr p w.heap.size w w':=by
 have HB:=ae h.bs;have aB:=h.lt;have hby2:((n:Int)+8-1) / 8=((by8 n:Nat):Int):=by unfold by8;omega
 have fK:by8 n<=2048:=by unfold by8;omega
 have HT:=ae (ph h (by8 n) (by omega));have Qw:=ae (tF (c:=by8 n) h.bs);clear h;generalize by8 n=L at *;generalize tkB L b=tb at *;generalize tkR L b=tr at *;generalize tkF L b f=tf at *;go_enter Tryz.func276,Tryz.ntmps276
 go_wp2_with fail;refine HT.o.mono ?_;rintro e w1 ⟨⟨v1,rfl,Do⟩,eg,dh⟩;have ja:=ae eg;have gp:=ae dh;have cK:=dh.size;have HU:=ae (ui Do.sx Qw.o (n:Int) 1);clear eg dh Do;go_wp2_with fail;refine HU.o.mono ?_;rintro e w2 ⟨v2,rfl,ft,aE⟩;have dz:=ae (bg ft cK);have bv:=aE.size;have gj:=ae (ja.o.kept aE ja.o.lt);have gP:=ae (gp.o.trans (Fr.of_below (aE.mono cK)));clear ft aE;go_wp2_with fail;refine(cG gj.o _).mono ?_;rintro e w3 ⟨rfl,lB,iJ⟩;have nF:=ae lB;have dd:jgf (dJ w3 w.heap.size v2 (unR tb n 1)):=ae (iJ.own dz.o aB);have qE:=ae (gP.o.trans (iJ.mono (by omega)));clear lB iJ;go_wp2_with fail;go_ret
 exact⟨⟨_,rfl,dd.o⟩,nF.o,qE.o⟩
theorem no{w:World}{p f:Nat}{b:List Nat}(h:Rs w p b f)(n:Nat) :
  Calls Tryz.prog 278 #[.pointer (some ⟨p,0,none⟩),.int .i64 (n:Int)] w fun r w'=>(∃ v,r=.returned v/\bF w' w.heap.size v (bw b n).1)/\Rs w' p [] (orf f (bw b n).2)/\Fr p w.heap.size w w':=by
 have HS:=ae h;have aB:=h.lt;obtain⟨a,cap,h0,h1,h2,h3,h4,h5,h6,h7,h8,h9,nB⟩:=h.cells;have HR:=ae (EU h6 h.bs (n:Int));clear h h6 h7 h8 h9 nB;unfold kM at HR;generalize bw b n=rd at *;obtain⟨l,er⟩:=rd;simp only at *;go_enter Tryz.func278,Tryz.ntmps278
 go_wp2_with fail;refine HR.o.mono ?_;rintro e w1 ⟨⟨v1,rfl,ei⟩,aH⟩;have eO:=ae ei;have ja:=ae (HS.o.kept aH aB);have gp:=ae (Fr.of_below (p:=p) aH);have cK:=aH.size;clear ei aH h0 h1 h2 h3;go_wp2_with fail;refine(cG ja.o _).mono ?_;rintro e w2 ⟨rfl,dR,dG⟩;have dz:=ae (eO.o.fr dG aB);have gP:=ae (gp.o.trans (dG.mono cK));have bv:=dG.size;obtain⟨A0,Cap,k0,k1,k2,k3,k4,k5,k6,k7,k8,k9,k10⟩:=dR.cells;have nF:=ae k10;have qE:=ae (gP.o.set 0 (.slice none 0 0));have dd:=ae (dz.o.fr ((Fr.refl p w2.heap.size w2).set 0 (.slice none 0 0)) aB);clear dR dG k6 k7 k8 k9 k10;go_wp2_with fail;go_ret
 exact⟨⟨_,rfl,dd.o⟩,nF.o,qE.o⟩
theorem qt{w:World}{p f:Nat}{b:List Nat}(h:Rs w p b f)(n:Nat) :
  Calls Tryz.prog 312 #[.pointer (some ⟨p,0,none⟩),.int .i64 (n:Int)] w fun r w'=>(∃ v,r=.returned v/\bF w' w.heap.size v (bw (tkB (gt b).1 (b.drop (gt b).2.1)) n).1) /\
   Rs w' p (tkR (gt b).1 (b.drop (gt b).2.1)) (orf (tkF (gt b).1 (b.drop (gt b).2.1) (orf f (gt b).2.2)) (bw (tkB (gt b).1 (b.drop (gt b).2.1)) n).2)/\Fr p w.heap.size w w':=by
 have aB:=h.lt;have HN:=ae (uE h);have g1:=(gd b).1;have GK:=ae (tF (c:=(gt b).1) (h.bs.drop (gt b).2.1));clear h;generalize (gt b).1=sz at *;generalize b.drop (gt b).2.1=b1 at *;generalize orf f (gt b).2.2=f1 at *;have sy:=ae (fun(W:World) (hs:Rs W p b1 f1)=>ph hs sz g1);generalize tkB sz b1=tb at *;generalize tkR sz b1=tr at *;generalize tkF sz b1 f1=tf at *;have HRD:=ae (fun(W:World) (v:Value) (hv:Sv W v (aF .u8 tb))=>EU hv GK.o (n:Int));unfold kM at HRD;generalize bw tb n=rd at *;obtain⟨l,er⟩:=rd;simp only at *;go_enter Tryz.func312,Tryz.ntmps312
 go_wp2_with fail;refine HN.o.mono ?_;rintro e w1 ⟨rfl,eg,dh⟩;have HT:=ae (sy.o _ eg);have gp:=ae dh;have cK:=dh.size;clear eg dh;go_wp2_with fail;refine HT.o.mono ?_;rintro e w2 ⟨⟨v2,rfl,hv2⟩,dR,dG⟩;have gj:=ae dR;have gP:=ae (gp.o.trans (dG.mono cK));have bv:=dG.size;have HR:=ae (HRD.o _ _ hv2);clear dR dG hv2;go_wp2_with fail;refine HR.o.mono ?_;rintro e w3 ⟨⟨v3,rfl,fW⟩,aS⟩;have dd:=ae (bg fW (jet cK bv));have nF:=ae (gj.o.kept aS gj.o.lt);have qE:=ae (gP.o.trans (Fr.of_below (aS.mono (jet cK bv))));have iN:=aS.size;clear fW aS;go_wp2_with fail;refine(cG nF.o _).mono ?_;rintro e w4 ⟨rfl,ym,pT⟩;have eY:jgf (bF w4 w.heap.size v3 l):=ae (pT.own dd.o aB);have vM:=ae ym;have yy:=ae (qE.o.trans (pT.mono (by omega)));clear ym pT;go_wp2_with fail;go_ret
 exact⟨⟨_,rfl,eY.o⟩,vM.o,yy.o⟩
def Er(f:Nat):Prop:=f=0∨f=30∨f=31∨f=32∨f=40∨f=50
theorem Er.orf{f e:Nat}(h:Er f)(h2:Er e):Er (orf f e):=by
 unfold YtpljdjmpamjkhaaGreatDoor.orf;split
 ·exact h2
 ·exact h
theorem bL{f e:Nat}(h:orf f e=0):f=0/\e=0:=by
 unfold orf at h;split at h
 ·next h1=>exact⟨h1,h⟩
 ·next h1=>exact absurd h h1
def Es{α : Type}(d:List Nat->Except Nat (α×List Nat)):Prop:=∀ b e,d b=.error e->Er e
theorem Es.bind{α β : Type}{d:List Nat->Except Nat (α×List Nat)}{f:α->List Nat->Except Nat (β×List Nat)}(h1:Es d)(h2:∀ x,Es (f x)):Es (aC d f):=by
 intro b e h;unfold aC at h;split at h
 ·next x r _=>exact h2 x r e h
 ·next e' he =>
  cases h
  exact h1 b _ he
theorem Es.ok{α : Type}{x:List Nat->α×List Nat}:Es (fun r=>(.ok (x r):Except Nat (α×List Nat))):=fun b e h=>by cases h
theorem Es.err{α : Type}{e:Nat}(h:Er e):Es (fun _=>(.error e:Except Nat (α×List Nat))):=fun b e' h'=>by cases h';exact h
theorem Es.ite{α : Type}{c:Prop}[Decidable c]{d1 d2:List Nat->Except Nat (α×List Nat)}(h1:Es d1)(h2:¬ c->Es d2):Es (if c then d1 else d2):=by
 split
 ·exact h1
 ·next h=>exact h2 h
theorem Fi(b:List Nat):Er (gt b).2.2:=by
 obtain⟨_,_,_,h | ⟨h | h,_⟩⟩:=gd b
 ·exact Or.inl h
 ·exact Or.inr (Or.inl h)
 ·exact Or.inr (Or.inr (Or.inl h))
theorem Fj:Es wh:=fun b e h=>by
 unfold wh at h;split at h
 ·cases h
 ·cases h
  exact Fi b
theorem Ch:Es num:=fun b e h=>by
 unfold num at h;split at h
 ·cases h
 ·cases h
  exact Fi b
theorem JX{b:List Nat}{n w:Nat}(hn:n<=256)(hw:w<=64):Er (unE b n w):=by
 unfold unE;rw[jei (by omega)];split
 ·exact Or.inl rfl
 ·exact Or.inr (Or.inr (Or.inr (Or.inr (Or.inl rfl))))
theorem Ug{n w:Nat}(hn:n<=256)(hw:w<=64):Es (pkd n w):=fun b e h=>by
 unfold pkd at h;split at h
 ·cases h
  exact Or.inr (Or.inl rfl)
 ·split at h
  ·cases h
   exact Or.inr (Or.inr (Or.inr (Or.inl rfl)))
  ·split at h
   ·cases h
   ·cases h
    exact JX hn hw
theorem vD:Er 40:=Or.inr (Or.inr (Or.inr (Or.inr (Or.inl rfl))))
theorem er32:Er 32:=Or.inr (Or.inr (Or.inr (Or.inl rfl)))
theorem Yd:Er 30:=Or.inr (Or.inl rfl)
theorem er50:Er 50:=Or.inr (Or.inr (Or.inr (Or.inr (Or.inr rfl))))
theorem er0:Er 0:=Or.inl rfl
theorem Uh:∀ n,Es (rd0 n)
 | 0=>fun b e h=>by cases h
 | n+1=>by
  have:=(Fj).bind (f:=fun x=>aC (rd0 n) (fun l r=>.ok (x::l,r))) (fun x=>(Uh n).bind (fun l=>Es.ok));exact this
theorem Ui:∀ n last,Es (rd1 n last)
 | 0,_=>fun b e h=>by cases h
 | n+1,last=>by
  have:=(Fj).bind (f:=fun d=>aC (rd1 n (w64 (last+d))) (fun l r=>.ok (w64 (last+d)::l,r))) (fun d=>(Ui n _).bind (fun l=>Es.ok));exact this
theorem Uj:∀ f n,Es (rd2 f n)
 | 0,_=>fun b e h=>by cases h
 | f+1,n=>fun b e h=>by
  unfold rd2 at h;split at h
  ·cases h
  ·exact(Fj.bind (fun x=>Ch.bind (fun k=>Es.ite (Es.err vD) (fun _=>(Uj f (n-k)).bind (fun l=>Es.ok))))) b e h
theorem Uk:∀ m last,Es (rdU m last)
 | 0,_=>fun b e h=>by cases h
 | m+1,last=>fun b e h=>by
  unfold rdU at h;exact(Ch.bind (fun d=>Es.ite (Es.err vD) (fun _=>(Uk m _).bind (fun l=>Es.ok)))) b e h
theorem jby{n:Nat}(hn:n<=256):Es (rd3 n):=fun b e h=>by
 unfold rd3 at h;refine(Ch.bind (fun many=>Es.ite (Es.err vD) (fun hm=>Es.ite Es.ok (fun h0=>Fj.bind (fun x=>(Uk _ x).bind (fun u=>(Ug hn ?_).bind (fun p r e he=>?_))))))) b e h
 ·rw[eR]
  have:many-1<2 ^ 64:=by
   have:(2:Nat) ^ 64=18446744073709551616:=by decide
   omega
  exact this
 ·unfold picked at he
  split at he
  ·cases he
  ·cases he
   exact vD
theorem jbz{n:Nat}(hn:n<=256):Es (rd4 n):=fun b e h=>by
 unfold rd4 at h;split at h
 ·cases h
 ·exact(Fj.bind (fun x=>Ch.bind (fun w=>Es.ite (Es.err vD) (fun hw=>(Ug hn (by omega)).bind (fun p=>Es.ok))))) b e h
theorem jbA{c n:Nat}(hn:n<=256):Es (rdC c n):=by
 unfold rdC;split
 ·exact Uh n
 ·exact Ui n 0
 ·exact Uj n n
 ·exact jby hn
 ·exact jbz hn
theorem rR{b:List Nat}{n:Nat}(hn:n<=256):Er (bw b n).2:=by
 unfold bw;rw[jei (by omega)];split
 ·exact Yd
 ·next c t =>
  split
  ·exact er50
  ·split
   ·exact er0
   ·next e he =>
    unfold nh at he;split at he
    ·next e' he' =>
     cases he
     exact jbA (by omega) _ _ he'
    ·split at he
     ·split at he
      ·cases he
      ·cases he
       exact vD
     ·cases he
      exact er32
theorem qu{b:List Nat}{n:Nat}(hb:Bs b)(hn:n<=256):Is (bw b n).1/\(bw b n).1.length<=n:=by
 by_cases h:(bw b n).2=0
 ·obtain⟨h1,h2⟩:=jf hb h
  exact⟨h2,by omega⟩
 ·have:(bw b n).1=[]:=by
   unfold bw at h ⊢;rw[jei (by omega)]at h ⊢;split
   ·rfl
   ·next c t =>
    split
    ·rfl
    ·next h4 =>
     simp only[jeh h4]at h;split
     ·next l hl =>
      rw[hl]at h;exact absurd rfl h
     ·rfl
  rw[this];exact⟨fun x hx=>by simp at hx,by simp⟩
def RP{α : Type}(Ok:α->Prop)(G:α->List Nat->Prop)(f:Nat)(x:α)(b':List Nat)(f':Nat):Prop :=
 Er f'/\(f'=0->f=0/\Ok x)/\∀ y r,f=0->Ok y->G y r->f'=0/\x=y/\b'=r
def Ni(n:Nat)(l:List Int):Prop:=l.length=n/\Is l
def Nt(n:Nat)(l:List (List Nat)):Prop:=l.length=n/\Ts l
theorem gN{a r:List Nat}(f:Nat):tkB a.length (a++r)=a/\tkR a.length (a++r)=r/\tkF a.length (a++r) f=f:=by
 have h:¬ (a++r).length<a.length:=by rw[jem];omega
 refine⟨?_,?_,?_⟩
 ·unfold tkB;rw[jeh h,jfh]
 ·unfold tkR;rw[jeh h,je3]
 ·unfold tkF;rw[jeh h]
theorem Ci{c:Nat}{b:List Nat}{f:Nat}(h:Er f):Er (tkF c b f):=by
 unfold tkF;split
 ·exact h.orf Yd
 ·exact h
theorem rS{c:Nat}{b:List Nat}{f:Nat}(h:tkF c b f=0):f=0/\¬ b.length<c:=by
 unfold tkF at h;split at h
 ·have:=(bL h).2
  omega
 ·next h1=>exact⟨h,h1⟩
theorem JY{b:List Nat}{f n:Nat}(hb:Bs b)(hn:n<=256)(hf:Er f) :
  RP (Ni n) (fun l r=>b=cnt l++r) f (bw (tkB (gt b).1 (b.drop (gt b).2.1)) n).1 (tkR (gt b).1 (b.drop (gt b).2.1)) (orf (tkF (gt b).1 (b.drop (gt b).2.1) (orf f (gt b).2.2)) (bw (tkB (gt b).1 (b.drop (gt b).2.1)) n).2):=by
 refine⟨(Ci (hf.orf (Fi b))).orf (rR hn),fun h=>?_,fun l r h0 hl hg=>?_⟩
 ·obtain⟨h1,h2⟩:=bL h
  obtain⟨h3,h4⟩:=jf (tF (hb.drop _)) h2;exact⟨(bL (rS h1).1).1,by omega,h4⟩
 ·obtain⟨Rf,AO⟩:=hl
  have hs:=(kn AO (by omega)).1
  have vZ:gt b=((cV l).length,(uv (cV l).length).length,0):=by
   rw[hg];unfold cnt;rw[jez];exact mH _ (by omega) _
  have hd:b.drop (uv (cV l).length).length=cV l++r:=by
   rw[hg];unfold cnt;rw[jez,je3]
  have QG:=km AO (by omega);rw[Rf]at QG;rw[vZ];simp only;rw[hd,(gN (a:=cV l) (r:=r) 0).1,(gN (a:=cV l) (r:=r) 0).2.1,(gN (a:=cV l) (r:=r) (orf f 0)).2.2,QG,h0];exact⟨rfl,rfl,rfl⟩
theorem Sv.keptFr{W W':World}{p B:Nat}{v:Value}{xs:List Value}(h:Sv W v xs)(hv:∀ k,v.ownBlock=some k->k<B/\k≠p)(hf:Fr p B W W'):Sv W' v xs:=by
 obtain⟨a,cap,rfl,h1,h2,h3,h4⟩:=h;refine⟨a,cap,rfl,h1,h2,h3,fun h0=>?_⟩;obtain⟨b,off,rfl,h5,h6⟩:=h4 h0;have hb:=hv b rfl;exact⟨b,off,rfl,jeH h5 hf.size,fun j x hj=>(World.cell?_of_block (w:=W) (a:=⟨b,off+j,none⟩) (hf.block b hb.1 hb.2)).trans (h6 j x hj)⟩
def LI(sz:List Int)(b1:List Nat)(f1 j:Nat)(l:List (List Nat))(bj:List Nat)(fj:Nat):Prop :=
 l.length=j/\Ts l/\Er fj/\(fj=0->f1=0)/\∀ y r,f1=0->Ts y->em y=sz->b1=y.flatten++r->fj=0/\l=y.take j/\bj=(y.drop j).flatten++r
theorem LI.start{sz:List Int}{b1:List Nat}{f1:Nat}(hf:Er f1):LI sz b1 f1 0 [] b1 f1 :=
 ⟨rfl,fun s hs=>by simp at hs,hf,fun h=>h,fun y r h1 _ _ h4=>⟨h1,by simp,by simpa using h4⟩⟩
theorem Ye{c:Nat}{b:List Nat}:(tkB c b).length<=c:=by
 unfold tkB;split
 ·simp
 ·rw[jeq];omega
theorem LI.step{sz:List Int}{b1:List Nat}{f1 j:Nat}{l:List (List Nat)}{bj:List Nat}{fj:Nat}(h:LI sz b1 f1 j l bj fj)(hb:Bs bj)(hj:j<sz.length)(h0:0<=sz[j])(kU:sz[j]<=64) :
  LI sz b1 f1 (j+1) (l++[tkB sz[j].toNat bj]) (tkR sz[j].toNat bj) (tkF sz[j].toNat bj fj):=by
 obtain⟨h1,h2,h3,h4,h5⟩:=h;have hl:=Ye (c:=sz[j].toNat) (b:=bj);refine⟨by simp[h1],fun s hs=>?_,Ci h3,fun h=>h4 (rS h).1,fun y r a1 a2 a3 a4=>?_⟩
 ·rcases jeN.1 hs with hs | hs
  ·exact h2 s hs
  ·have:s=tkB sz[j].toNat bj:=by simpa using hs
   subst this;exact⟨by omega,tF hb⟩
 ·obtain⟨c1,c2,c3⟩:=h5 y r a1 a2 a3 a4
  have hy:j<y.length:=by rw[← a3,bM]at hj;exact hj
  have hz:sz[j]=(y[j].length:Int):=by
   have:(em y)[j]?=some (y[j].length:Int):=by simp[em,hy]
   rw[a3,List.getElem?_eq_getElem hj]at this;exact Option.some.inj this
  have hd:y.drop j=y[j]::y.drop (j+1):=je1 hy;rw[hd,jfH,jez]at c3;rw[hz,jeQ,c3,(gN (a:=y[j]) fj).1,(gN (a:=y[j]) fj).2.1,(gN (a:=y[j]) fj).2.2,c2,jeA hy];exact⟨c1,rfl,rfl⟩
theorem LI.bad{sz:List Int}{b b1 bz:List Nat}{f f1 j n:Nat}{l:List (List Nat)}{bj:List Nat}{fj:Nat}(hc:RP (Ni n) (fun l r=>b=cnt l++r) f sz b1 f1)(h:LI sz b1 f1 j l bj fj)(hj:j<sz.length)(hw:sz[j]<0∨64<sz[j]) :
  RP (Nt n) (fun l r=>b=fH l++r) f [] bz (orf fj 40):=by
 obtain⟨h1,h2,h3,h4,h5⟩:=h;refine⟨h3.orf vD,fun h=>absurd (bL h).2 (by omega),fun y r a1 a2 a3=>?_⟩;obtain⟨d1,d2,d3⟩:=hc.2.2 (em y) (y.flatten++r) a1 ⟨by rw[bM];exact a2.1,ig a2.2⟩ (by rw[a3];unfold fH;rw[jez]);have hy:j<y.length:=by rw[d2,bM]at hj;exact hj
 have hz:sz[j]=(y[j].length:Int):=by
  have:(em y)[j]?=some (y[j].length:Int):=by simp[em,hy]
  rw[← d2,List.getElem?_eq_getElem hj]at this;exact Option.some.inj this
 have:=(a2.2 _ (jeo hy)).1;omega
theorem LI.done{sz:List Int}{b b1:List Nat}{f f1 n:Nat}{l:List (List Nat)}{bj:List Nat}{fj:Nat}(hc:RP (Ni n) (fun l r=>b=cnt l++r) f sz b1 f1)(h:LI sz b1 f1 sz.length l bj fj) :
  RP (Nt n) (fun l r=>b=fH l++r) f l bj fj:=by
 obtain⟨h1,h2,h3,h4,h5⟩:=h;refine⟨h3,fun h=>?_,fun y r a1 a2 a3=>?_⟩
 ·obtain⟨e1,e2⟩:=hc.2.1 (h4 h)
  exact⟨e1,by rw[h1];exact e2.1,h2⟩
 ·obtain⟨d1,d2,d3⟩:=hc.2.2 (em y) (y.flatten++r) a1 ⟨by rw[bM];exact a2.1,ig a2.2⟩ (by rw[a3];unfold fH;rw[jez])
  obtain⟨c1,c2,c3⟩:=h5 y r d1 a2.2 d2.symm d3;have zf:sz.length=y.length:=by rw[d2,bM]
  rw[zf]at c2 c3;rw[jes]at c2;rw[jfg]at c3;exact⟨c1,c2,by simpa using c3⟩
def Ul(n:Nat)(G:List (List Nat)->List Nat->Prop)(p f:Nat)(w:World)(r:Ending)(w':World):Prop :=
 ∃ l b' f',(∃ v,r=.returned v/\eL w' w.heap.size v l)/\Ts l/\l.length<=n/\Rs w' p b' f'/\RP (Nt n) G f l b' f'/\Fr p w.heap.size w w'
theorem Fk{w:World}{p f:Nat}{b:List Nat}(h:Rs w p b f)(hf:Er f)(n:Nat)(hn:n<=256) :
  Calls Tryz.prog 298 #[.pointer (some ⟨p,0,none⟩),.int .i64 (n:Int)] w (Ul n (fun l r=>b=fH l++r) p f w):=by
 have aB:=h.lt;have kf:=ae (qt h n);have Ls:=ae (JY h.bs hn hf);have MG:=ae (qu (tF (c:=(gt b).1) (h.bs.drop (gt b).2.1)) hn);clear h;generalize (bw (tkB (gt b).1 (b.drop (gt b).2.1)) n).1=sz at *;generalize (orf (tkF (gt b).1 (b.drop (gt b).2.1) (orf f (gt b).2.2)) (bw (tkB (gt b).1 (b.drop (gt b).2.1)) n).2)=f1 at *;generalize tkR (gt b).1 (b.drop (gt b).2.1)=b1 at *;have hszl:=MG.o.2;go_enter Tryz.func298,Tryz.ntmps298
 go_wp2_with fail;refine kf.o.mono ?_;rintro e w1 ⟨⟨v1,rfl,ei⟩,eg,dh⟩;have ja:=ae eg;have gp:=ae dh;have cK:=dh.size;have QA:=ae ei.sv
 have yC:jgf (∀ k,v1.ownBlock=some k->k<w1.heap.size/\k≠p):=ae (fun k hk=>by
  have:=ei.lt k hk;exact⟨this.2,by omega⟩)
 obtain⟨a1,c1,rfl,lK,yq⟩:=aO ei;have hcm1':c1<=9223372036854775807:=by unfold maxLen at yq;omega
 clear eg dh ei yq;go_wp2_with fail;go_loopw [5,12] (fun o i wr=>∃(j:Nat) (l:List (List Nat)) (bj:List Nat) (fj:Nat),j<=sz.length/\i=.int .i64 (j:Int)/\eL wr w1.heap.size o l/\LI sz b1 f1 j l bj fj/\Rs wr p bj fj/\Fr p w1.heap.size w1 wr) (fun _ i _=>sz.length-(intOf i).toNat)
 case atStart=>exact⟨0,[],b1,f1,by omega,rfl,eL.nil _ _,LI.start Ls.o.1,ja.o,Fr.refl _ _ _⟩
 case round =>
  obtain⟨j,l,bj,fj,hj,rfl,aA,hli,hsj,hfj⟩:=hrel;have HO:=ae aA;have sD:=ae hli;have HSJ:=ae hsj;have HFJ:=ae hfj;have bH:=hfj.size;have kW:l.length=j:=hli.1;clear aA hli hsj hfj;by_cases tR:j<sz.length
  ·obtain⟨g,off,rfl,hg,bn⟩:=(QA.o.keptFr yC.o HFJ.o).at tR
   have cP:=ae (sD.o.step HSJ.o.bs tR);have tV:=ae (fun bz hw=>sD.o.bad (bz:=bz) Ls.o tR hw);have hjl':(j:Int)<(sz.length:Int):=(by omega);generalize sz[j]=z at *;by_cases ch:z<0
   ·go_wp2_with fail
    refine(cG HSJ.o 40).mono ?_;rintro e w3 ⟨rfl,lB,iJ⟩;have nF:=ae lB;have qE:=ae (gp.o.trans ((HFJ.o.trans (iJ.mono bH)).mono cK));clear lB iJ;go_wp2_with fail;go_ret
    exact⟨[],_,_,⟨_,rfl,eL.nil _ _⟩,fun s hs=>by simp at hs,by simp,nF.o,tV.o _ (Or.inl ch),qE.o⟩
   ·by_cases hz64:z > 64
    ·go_wp2_with fail
     refine(cG HSJ.o 40).mono ?_;rintro e w3 ⟨rfl,lB,iJ⟩;have nF:=ae lB;have qE:=ae (gp.o.trans ((HFJ.o.trans (iJ.mono bH)).mono cK));clear lB iJ;go_wp2_with fail;go_ret
     exact⟨[],_,_,⟨_,rfl,eL.nil _ _⟩,fun s hs=>by simp at hs,by simp,nF.o,tV.o _ (Or.inr (by omega)),qE.o⟩
    ·obtain⟨zn,rfl⟩:∃ zn:Nat,z=(zn:Int):=⟨z.toNat,by omega⟩
     have HST':=ae (cP.o (by omega) (by omega));rw[jeQ]at HST';have sy:=ae (ph HSJ.o zn (by omega));have yo:=ae (tF (c:=zn) HSJ.o.bs);clear cP tV;generalize tkB zn bj=tb at *;generalize tkR zn bj=tr at *;generalize tkF zn bj fj=tf at *;go_wp2_with fail;refine sy.o.mono ?_;rintro e w3 ⟨⟨v3,rfl,hv3⟩,lB,iJ⟩;have vL:=hv3.conv yo.o;have nF:=ae lB;have qE:=ae (HFJ.o.trans (iJ.mono bH));have iN:=iJ.size;have dd:jgf (eL w3 w1.heap.size _ l):=ae (iJ.own HO.o (by omega));clear lB iJ hv3;unfold txt at vL;have hlen':l.length<=100000:=(by omega);go_wp2_with (first | (at_builtin;refine cd rfl _ _ rfl w1.heap.size _ _ tb l rfl (dd.o.kept (ak _ _)) rfl (aK _ _ _) hlen' ?c2 ?_))
     case c2=>first | omega | (rw[jel];omega)
     intro v' w4 o4 b4;have eY:=ae o4;have bG:=((ak w3 (.cells #[txt tb] 9)).mono (show w1.heap.size<=w3.heap.size by omega)).trans b4;have vM:=ae (nF.o.kept bG (by omega));have yy:=ae (qE.o.then bG);clear o4 b4 bG;go_wp2_with fail;go_roundw
     case rel=>exact⟨j+1,l++[tb],tr,tf,by omega,by go_num,eY.o,HST'.o,vM.o,yy.o⟩
     case measure=>simp[intOf];omega
  ·have:j=sz.length:=by omega
   subst this;have HDN:=ae (sD.o.done Ls.o);have sC:=ae sD.o.2.1;have gi:¬ ((sz.length:Nat):Int)<(sz.length:Int):=(by omega);have Lb:=ae (gp.o.trans (HFJ.o.mono cK));go_wp2_with fail;go_ret
   exact⟨l,bj,fj,⟨_,rfl,bg HO.o cK⟩,sC.o,by omega,HSJ.o,HDN.o,Lb.o⟩
def byP(b:List Nat)(l:List (List Nat))(r:List Nat):Prop:=b=uv (tuq l).length++(fH (tuq l)++cV (cN l))/\r=[]
theorem Fl{b r:List Nat}{y:List (List Nat)}{n:Nat}(hn:n<=256)(hy:Nt n y)(hg:byP b y r):gt b=((tuq y).length,(uv (tuq y).length).length,0)/\b.drop (uv (tuq y).length).length=fH (tuq y)++cV (cN y)/\(tuq y).length<=n:=by
 have hl:=fO y;have h1:=hy.1;refine⟨?_,?_,by omega⟩
 ·rw[hg.1]
  exact mH _ (by omega) _
 ·rw[hg.1,je3]
theorem Um{b bz:List Nat}{f n:Nat}(hn:n<=256)(hf:Er f)(h:n<(gt b).1):RP (Nt n) (byP b) f [] bz (orf (orf f (gt b).2.2) 40):=by
 refine⟨(hf.orf (Fi b)).orf vD,fun h=>absurd (bL h).2 (by omega),fun y r a1 a2 a3=>?_⟩;obtain⟨h1,h2,h3⟩:=Fl hn a2 a3;rw[h1]at h;exact absurd h (by simp only;omega)
theorem Fm{b:List Nat}{f n:Nat}{u:List (List Nat)}{b2:List Nat}{f2:Nat}(hn:n<=256)(hc:RP (Nt (gt b).1) (fun l r=>b.drop (gt b).2.1=fH l++r) (orf f (gt b).2.2) u b2 f2){y:List (List Nat)}{r:List Nat}(h0:f=0)(hy:Nt n y)(hg:byP b y r) :
  f2=0/\u=tuq y/\bw b2 n=(cN y,0):=by
 obtain⟨h1,h2,h3⟩:=Fl hn hy hg;rw[h1]at hc;simp only at hc;rw[h2,h0]at hc;obtain⟨d1,d2,d3⟩:=hc.2.2 (tuq y) (cV (cN y)) rfl ⟨rfl,lG hy.2⟩ rfl;have hb:=km (en (l:=y) (by have:=hy.1;omega)) (by rw[bY];have:=hy.1;omega);rw[bY,hy.1]at hb;exact⟨d1,d2,by rw[d3];exact hb⟩
theorem Yf{b bz:List Nat}{f n j:Nat}{u:List (List Nat)}{b2:List Nat}{f2:Nat}(hn:n<=256)(hc:RP (Nt (gt b).1) (fun l r=>b.drop (gt b).2.1=fH l++r) (orf f (gt b).2.2) u b2 f2)
  (hj:j<(bw b2 n).1.length) (hw:(bw b2 n).1[j]<0∨(u.length:Int)<=(bw b2 n).1[j]):RP (Nt n) (byP b) f [] bz (orf (orf f2 (bw b2 n).2) 40):=by
 refine⟨(hc.1.orf (rR hn)).orf vD,fun h=>absurd (bL h).2 (by omega),fun y r a1 a2 a3=>?_⟩;obtain⟨h1,h2,h3⟩:=Fm hn hc a1 a2 a3
 have hm:∀ q∈(bw b2 n).1,q∈cN y:=fun q hq=>by
  rw[h3]at hq;exact hq
 have:=qd _ (hm _ (jeo hj));rw[← h2]at this;omega
theorem Un{b:List Nat}{f n:Nat}{u:List (List Nat)}{b2:List Nat}{f2:Nat}(hn:n<=256)(aE:Bs b2)(hu:Ts u)(hc:RP (Nt (gt b).1) (fun l r=>b.drop (gt b).2.1=fH l++r) (orf f (gt b).2.2) u b2 f2)
  (cZ:∀ q∈(bw b2 n).1,0<=q/\q<(u.length:Int)):RP (Nt n) (byP b) f ((bw b2 n).1.map fun q=>u.getD q.toNat []) [] (orf f2 (bw b2 n).2):=by
 refine⟨hc.1.orf (rR hn),fun h=>?_,fun y r a1 a2 a3=>?_⟩
 ·obtain⟨h1,h2⟩:=bL h
  obtain⟨h3,h4⟩:=hc.2.1 h1;obtain⟨h5,h6⟩:=jf aE h2;refine⟨(bL h3).1,by rw[jen];omega,fun s hs=>?_⟩;obtain⟨q,hq,rfl⟩:=jeF.1 hs;have nw:=cZ q hq;have aB:q.toNat<u.length:=by omega
  rw[List.getD_eq_getElem?_getD,List.getElem?_eq_getElem aB];exact hu _ (jeo aB)
 ·obtain⟨h1,h2,h3⟩:=Fm hn hc a1 a2 a3
  rw[h3,h1,h2];exact⟨rfl,qZ y,a3.2.symm⟩
theorem Yg{u:List (List Nat)}(hu:Ts u)(q:Nat):(u.getD q []).length<=64/\Bs (u.getD q []):=by
 rcases jeM q u.length with h | h
 ·rw[List.getD_eq_getElem?_getD,List.getElem?_eq_getElem h]
  exact hu _ (jeo h)
 ·rw[List.getD_eq_getElem?_getD,List.getElem?_eq_none h]
  exact⟨by simp,fun x hx=>by simp at hx⟩
theorem rT{w:World}{p f:Nat}{b:List Nat}(h:Rs w p b f)(hf:Er f)(n:Nat)(hn:n<=256) :
  Calls Tryz.prog 297 #[.pointer (some ⟨p,0,none⟩),.int .i64 (n:Int)] w (Ul n (byP b) p f w):=by
 have aB:=h.lt;have HN:=ae (uE h);have g1:=(gd b).1;have HMANY:=ae (fun bz h=>Um (b:=b) (bz:=bz) (f:=f) hn hf h);have tV:=ae (fun bz j u b2 f2 hc hj hw=>Yf (b:=b) (bz:=bz) (f:=f) (j:=j) (u:=u) (b2:=b2) (f2:=f2) hn hc hj hw);have jau:=ae (fun u b2 f2 aE hu hc cZ=>Un (b:=b) (f:=f) (u:=u) (b2:=b2) (f2:=f2) hn aE hu hc cZ);have HE1:=ae (hf.orf (Fi b));clear h;generalize (gt b).1=c at *;generalize b.drop (gt b).2.1=b1 at *;generalize orf f (gt b).2.2=f1 at *;go_enter Tryz.func297,Tryz.ntmps297
 go_wp2_with fail;refine HN.o.mono ?_;rintro e w1 ⟨rfl,eg,dh⟩;have ja:=ae eg;have gp:=ae dh;have cK:=dh.size;clear eg dh;by_cases hmany:n<c
 ·have hm':(c:Int) > (n:Int):=by omega
  go_wp2_with fail;refine(cG ja.o 40).mono ?_;rintro e w2 ⟨rfl,dR,dG⟩;have gj:=ae dR;have gP:=ae (gp.o.trans (dG.mono cK));clear dR dG;go_wp2_with fail;go_ret
  exact⟨[],_,_,⟨_,rfl,eL.nil _ _⟩,fun s hs=>by simp at hs,by simp,gj.o,HMANY.o _ hmany,gP.o⟩
 ·have hm':¬ (c:Int) > (n:Int):=by omega
  have HL:=ae (Fk ja.o HE1.o c (by omega));go_wp2_with fail;refine HL.o.mono ?_;rintro e w2 ⟨u,b2,f2,⟨v2,rfl,ft⟩,Dk,vK,dR,hrp2,dG⟩;have dz:=ae ft;have sC:=ae Dk;have HRP2:=ae hrp2;have gP:=ae (gp.o.trans (dG.mono cK));have bv:=dG.size;have aN:=ae dR.bs;have CL:=ae (no dR n);have MG:=ae (qu dR.bs hn);have HU2:=ae ft.sv;obtain⟨au,cu,rfl,Zg,hcmu⟩:=aO ft;have hcmu':cu<=9223372036854775807:=by unfold maxLen at hcmu;omega
  have HUB:jgf (∀ k,(Value.slice au u.length cu).ownBlock=some k->k<w2.heap.size/\k≠p):=ae (fun k hk=>by
   have:=ft.lt k hk;exact⟨this.2,by omega⟩)
  clear ft Dk dR hrp2 dG hcmu;have HBAD2:=ae (fun bz j hj hw=>tV.o bz j u b2 f2 HRP2.o hj hw);have jcA:=ae (fun cZ=>jau.o u b2 f2 aN.o sC.o HRP2.o cZ);clear tV jau;generalize (bw b2 n).1=pl at *;generalize orf f2 (bw b2 n).2=f3 at *;have hpll:=MG.o.2;go_wp2_with fail;refine CL.o.mono ?_;rintro e w3 ⟨⟨v3,rfl,fW⟩,lB,iJ⟩;have nF:=ae lB;have qE:=ae (gP.o.trans (iJ.mono (jet cK bv)));have iN:=iJ.size;have HU3:=ae (HU2.o.keptFr HUB.o iJ);have HV3:=ae fW.sv;have yC:jgf (∀ k,v3.ownBlock=some k->k<w3.heap.size):=ae (fun k hk=>(fW.lt k hk).2);have HUB3:jgf (∀ k,(Value.slice au u.length cu).ownBlock=some k->k<w3.heap.size):=ae (fun k hk=>by have:=(HUB.o k hk).1;omega);obtain⟨a3,c3,rfl,Lk,jb5⟩:=aO fW;have hcm3':c3<=9223372036854775807:=by unfold maxLen at jb5;omega
  clear fW lB iJ jb5;go_wp2_with fail;go_loopw [7,26] (fun o i wr=>∃ j:Nat,j<=pl.length/\i=.int .i64 (j:Int)/\eL wr w3.heap.size o ((pl.take j).map fun q=>u.getD q.toNat [])/\(∀ q∈pl.take j,0<=q/\q<(u.length:Int))/\Below w3.heap.size w3 wr) (fun _ i _=>pl.length-(intOf i).toNat)
  case atStart=>exact⟨0,by omega,rfl,eL.nil _ _,fun q hq=>by simp at hq,jej _ _⟩
  case round =>
   obtain⟨j,hj,rfl,aA,cZ,az⟩:=hrel;have HO:=ae aA;have QH:=ae cZ;have yp:=ae az;have bH:=az.size;have Gm:=ae (nF.o.kept az nF.o.lt);clear aA cZ az;by_cases tR:j<pl.length
   ·obtain⟨g,off,rfl,hg,bn⟩:=(HV3.o.keptB yC.o yp.o).at tR
    have GK:=ae (fun bz hw=>HBAD2.o bz j tR hw);have hjl':(j:Int)<(pl.length:Int):=(by omega);have sy:jgf (pl.take (j+1)=pl.take j++[pl[j]]):=ae (jeA tR);generalize pl[j]=z at *;by_cases ch:z<0
    ·go_wp2_with fail
     refine(cG Gm.o 40).mono ?_;rintro e w4 ⟨rfl,ym,pT⟩;have vM:=ae ym;have yy:=ae (qE.o.trans ((Fr.of_below (yp.o.mono (show w.heap.size<=w3.heap.size by omega))).trans (pT.mono (by omega))));clear ym pT;go_wp2_with fail;go_ret
     exact⟨[],_,_,⟨_,rfl,eL.nil _ _⟩,fun s hs=>by simp at hs,by simp,vM.o,GK.o _ (Or.inl ch),yy.o⟩
    ·by_cases hzu:z>=(u.length:Int)
     ·go_wp2_with fail
      refine(cG Gm.o 40).mono ?_;rintro e w4 ⟨rfl,ym,pT⟩;have vM:=ae ym;have yy:=ae (qE.o.trans ((Fr.of_below (yp.o.mono (show w.heap.size<=w3.heap.size by omega))).trans (pT.mono (by omega))));clear ym pT;go_wp2_with fail;go_ret
      exact⟨[],_,_,⟨_,rfl,eL.nil _ _⟩,fun s hs=>by simp at hs,by simp,vM.o,GK.o _ (Or.inr hzu),yy.o⟩
     ·obtain⟨zn,rfl⟩:∃ zn:Nat,z=(zn:Int):=⟨z.toNat,by omega⟩
      have hzn:zn<u.length:=(by omega);obtain⟨gu,offu,rfl,hgu,VR⟩:=(HU3.o.keptB HUB3.o yp.o).at1 (cO hzn);have dY:u.getD zn []=u[zn]:=by rw[List.getD_eq_getElem?_getD,List.getElem?_eq_getElem hzn];rfl
      have lz:jgf ((pl.take (j+1)).map (fun q=>u.getD q.toNat [])=((pl.take j).map fun q=>u.getD q.toNat [])++[u[zn]]):=ae (by
       rw[sy.o,jeE,jeT,je8,jeQ,dY])
      have MH:jgf (∀ q∈pl.take (j+1),0<=q/\q<(u.length:Int)):=ae (fun q hq=>by
       rw[sy.o]at hq;rcases jeN.1 hq with hq | hq
       ·exact QH.o q hq
       ·have:q=(zn:Int):=by simpa using hq
        omega)
      have hlen':((pl.take j).map fun q=>u.getD q.toNat []).length<=100000:=by rw[jen,jeq];omega
      rw[dM]at VR;clear GK sy dY;generalize ((pl.take j).map fun q=>u.getD q.toNat [])=L at *;generalize u[zn]=x at *;go_wp2_with (first | (at_builtin;refine cd rfl _ _ rfl w3.heap.size _ _ x L rfl (HO.o.kept (ak _ _)) rfl (aK _ _ _) hlen' ?c2 ?_))
      case c2=>first | omega | (rw[jel];omega)
      intro v' w5 o5 b5;have df:=ae o5;have aQ:=ae ((yp.o.alloc bH (.cells #[txt x] 9)).trans b5);clear o5 b5;go_wp2_with fail;go_roundw
      case rel=>exact⟨j+1,by omega,by go_num,by rw[lz.o];exact df.o,MH.o,aQ.o⟩
      case measure=>simp[intOf];omega
   ·have:j=pl.length:=by omega
    subst this;rw[jes]at HO QH;have HDN:=ae (jcA.o QH.o);have gi:¬ ((pl.length:Nat):Int)<(pl.length:Int):=(by omega);have Lb:=ae (qE.o.trans (Fr.of_below (p:=p) (yp.o.mono (show w.heap.size<=w3.heap.size by omega))))
    have VO:jgf (Ts (pl.map fun q=>u.getD q.toNat [])):=ae (fun s hs=>by
     obtain⟨q,_,rfl⟩:=jeF.1 hs;exact Yg sC.o q.toNat)
    have kW:(pl.map fun q=>u.getD q.toNat []).length<=n:=by rw[jen];omega
    generalize (pl.map fun q=>u.getD q.toNat [])=L at *;go_wp2_with fail;go_ret
    exact⟨L,[],f3,⟨_,rfl,bg HO.o (by omega)⟩,VO.o,kW,Gm.o,HDN.o,Lb.o⟩
def byW(b:List Nat)(l:List (List Nat))(r:List Nat):Prop:=b=eS l/\r=[]
theorem JZ{w:World}{p f:Nat}{b:List Nat}(h:Rs w p b f)(hf:Er f)(n:Nat)(hn:n<=256) :
  Calls Tryz.prog 279 #[.pointer (some ⟨p,0,none⟩),.int .i64 (n:Int)] w (Ul n (byW b) p f w):=by
 have HC:=ae (xP h)
 have hef:Er (chF b f):=by
  unfold chF;split
  ·exact hf.orf Yd
  ·split
   ·exact hf
   ·exact hf.orf vD
 have HEF:=ae hef
 have WE:chX b<=1:=by
  unfold chX;split
  ·omega
  ·split<;>omega
 have AY:jgf (chX b=1->∀ l b' f',RP (Nt n) (byP b.tail) (chF b f) l b' f'->RP (Nt n) (byW b) f l b' f'):=ae (fun hx l b' f' hr=>by
  obtain⟨r1,r2,r3⟩:=hr;cases b with
  | nil=>simp[chX]at hx
  | cons x t =>
   have GM:x=1:=by
    unfold chX at hx;simp only at hx;split at hx<;>omega
   subst GM;have hcf:chF (1::t) f=f:=by simp[chF]
   rw[hcf]at r2 r3;refine⟨r1,r2,fun y r a1 a2 a3=>r3 y r a1 a2 ⟨?_,a3.2⟩⟩;have h3:=a3.1;unfold eS at h3;split at h3
   ·unfold dt at h3
    simpa using h3
   ·unfold plain at h3
    simp at h3)
 have HW0:jgf (chX b≠1->∀ l b' f',RP (Nt n) (fun l r=>b.tail=fH l++r) (chF b f) l b' f'->RP (Nt n) (byW b) f l b' f'):=ae (fun hx l b' f' hr=>by
  obtain⟨r1,r2,r3⟩:=hr;refine⟨r1,fun h=>?_,fun y r a1 a2 a3=>?_⟩
  ·obtain⟨e1,e2⟩:=r2 h
   refine⟨?_,e2⟩;unfold chF at e1;split at e1
   ·exact(bL e1).1
   ·split at e1
    ·exact e1
    ·exact(bL e1).1
  ·have h3:=a3.1
   unfold eS at h3;split at h3
   ·unfold dt at h3
    rw[h3]at hx;exact absurd rfl hx
   ·unfold plain at h3
    have hcf:chF b f=f:=by rw[h3];simp[chF]
    have ht:b.tail=fH y:=by rw[h3];rfl
    rw[hcf]at r3;have:=r3 y [] a1 a2 (by show b.tail=fH y++[];rw[ht,jeG]);rw[a3.2];exact this)
 clear h;generalize chX b=x at *;generalize chF b f=f1 at *;by_cases hx:x=1
 ·have nI:=ae (AY.o hx)
  clear AY HW0;subst hx;go_enter Tryz.func279,Tryz.ntmps279
  go_wp2_with fail;refine HC.o.mono ?_;rintro e w1 ⟨rfl,eg,dh⟩;have gp:=ae dh;have cK:=dh.size;have HT:=ae (rT eg HEF.o n hn);clear eg dh;go_wp2_with fail;refine HT.o.mono ?_;rintro e w2 ⟨l,b2,f2,⟨v2,rfl,ft⟩,Dk,kW,dR,hrp,dG⟩;have dz:=ae (bg ft cK);have sC:=ae Dk;have gj:=ae dR;have Ls:=ae (nI.o l b2 f2 hrp);have gP:=ae (gp.o.trans (dG.mono cK));clear ft Dk dR hrp dG;go_wp2_with fail;go_ret
  exact⟨l,b2,f2,⟨_,rfl,dz.o⟩,sC.o,kW,gj.o,Ls.o,gP.o⟩
 ·have nI:=ae (HW0.o hx)
  clear AY HW0;obtain rfl:x=0:=by omega
  go_enter Tryz.func279,Tryz.ntmps279
  go_wp2_with fail;refine HC.o.mono ?_;rintro e w1 ⟨rfl,eg,dh⟩;have gp:=ae dh;have cK:=dh.size;have HT:=ae (Fk eg HEF.o n hn);clear eg dh;go_wp2_with fail;refine HT.o.mono ?_;rintro e w2 ⟨l,b2,f2,⟨v2,rfl,ft⟩,Dk,kW,dR,hrp,dG⟩;have dz:=ae (bg ft cK);have sC:=ae Dk;have gj:=ae dR;have Ls:=ae (nI.o l b2 f2 hrp);have gP:=ae (gp.o.trans (dG.mono cK));clear ft Dk dR hrp dG;go_wp2_with fail;go_ret
  exact⟨l,b2,f2,⟨_,rfl,dz.o⟩,sC.o,kW,gj.o,Ls.o,gP.o⟩
end Go.Proofs.YtpljdjmpamjkhaaGreatDoor
