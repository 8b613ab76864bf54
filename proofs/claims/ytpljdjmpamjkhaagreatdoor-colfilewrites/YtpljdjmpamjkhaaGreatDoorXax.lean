import Derived.Test.YtpljdjmpamjkhaaGreatDoorXaw
set_option linter.unusedVariables false
set_option linter.unusedSimpArgs false
set_option maxRecDepth 100000
set_option maxHeartbeats 4000000
namespace Go.Proofs.YtpljdjmpamjkhaaGreatDoor
open Go.RowKit Go.Lib
theorem yj{w:World}{g p q:Nat}{v vl vu:Value}{l:List (List Nat)}(hg:Gs w g v [])(hp:p<g)(hq:q<g)(Yp:w.cell? ⟨q,0,none⟩=some vu)(eQ:w.cell? ⟨p,0,none⟩=some vl)
  (hs:Sv w vl (cC l)) (gd:∀ k,vl.ownBlock=some k->k<g) (hu:Sv w vu (cC (tuq l))) (Zy:∀ k,vu.ownBlock=some k->k<g) (hl:l.length<=256) (ht:Ts l) :
  Calls Tryz.prog 210 #[.func (.func 168) #[] #[.pointer (some ⟨g,0,none⟩)],.pointer (some ⟨q,0,none⟩),.pointer (some ⟨p,0,none⟩)] w (js w g (dj l)):=by
 have Cd:=hg.lt;have HCU:=ae Yp;have qr:=ae eQ;have HS:=ae hs;have HU:=ae hu;have rT:=ae gd;have Va:=ae Zy;have HT:=ae ht;have uE:(tuq l).length<=256:=by have:=fL l;omega
 have htxl:=nT (ly ht) uE;have fT:=gI (ed hl) (by rw[bV];exact hl);have rS:jfp (dj l=1::(uv (tuq l).length++(fC (tuq l)++cQ (cL l)))):=rfl;have no:=bM (n:=(tuq l).length) (by omega);have Co:=ae (eW (hg.kept (am w (.cells #[.int .u8 1] 5))) (cG w 1).sv (by simp));have cP:(w.alloc (.cells #[.int .u8 1] 5)).heap.size=w.heap.size+1:=jdx _ _;obtain⟨a,cap,rfl,_,_⟩:=hs.form1;obtain⟨au,capu,rfl,_,_⟩:=hu.form1;rw[dL]at *;have HPU:=ae (dM (tuq l).length (by omega));clear hg eQ hs gd ht hu Zy;go_enter Tryz.func210,Tryz.ntmps210
 go_wp2_with fail;refine Co.o.mono ?_;rintro e w1 ⟨rfl,⟨v1,eS⟩,aH,_⟩;have aQ:=ae (((am w (.cells #[.int .u8 1] 5)).mono (jdU Cd)).trans aH);have tu:=ae eS;have jbQ:=eG HCU.o aQ.o hq;clear eS aH Yp;go_wp2_with fail;refine(HPU.o _).mono ?_;rintro e w2 ⟨⟨v2,rfl,eZ⟩,aE⟩;have Fx:=ae (eW (tu.o.kept aE) eZ.sv (by simp;omega));have aO:=ae (aQ.o.trans (aE.mono (jdU tu.o.lt)));clear eZ aE jbQ;go_wp2_with fail;refine Fx.o.mono ?_;rintro e w3 ⟨rfl,⟨v3,hg3⟩,aS,_⟩;have bP:=ae (aO.o.trans aS);have hcu3:=eG HCU.o bP.o hq;have KA:=ae (tV hg3 (by simp;omega) (HU.o.keptB Va.o bP.o) Va.o uE (ly HT.o));clear hg3 aS;go_wp2_with fail;refine KA.o.mono ?_;rintro e w4 ⟨rfl,⟨v4,iN⟩,bK⟩;have cx:=ae (bP.o.trans bK);have VY:=ae iN;have hcu4:=eG HCU.o cx.o hq;have hcl4:=eG qr.o cx.o hp;have HP4:=ae (En (HU.o.keptB Va.o cx.o) (HS.o.keptB rT.o cx.o) hl uE (vT l) (fun s hs=>(ly HT.o s hs).2) (fun x hx=>jf.2 hx));clear iN bK hcu3;go_wp2_with fail;refine HP4.o.mono ?_;rintro e w5 ⟨⟨v5,rfl,fZ⟩,bD⟩;have hG5:=VY.o.kept bD;have PW:=ae hG5;have aR:=ae (cx.o.trans (bD.mono (jdU VY.o.lt)));have HP5:=ae (sS (l:=cL l) fZ.sv (by rw[bV];exact hl) (ed hl));clear fZ bD hcu4 hcl4 hG5;go_wp2_with fail;refine HP5.o.mono ?_;rintro e w6 ⟨⟨v6,rfl,Cq⟩,ey⟩;have HP6:=ae (eW (PW.o.kept ey) Cq.sv (by simp;omega));have ja:=ae (aR.o.trans (ey.mono (jdU PW.o.lt)));clear Cq ey;go_wp2_with fail;refine HP6.o.mono ?_;rintro e w7 ⟨rfl,⟨v7,hg7⟩,ji,_⟩
 have HG7:jfp (Gs w7 g v7 (dj l)):=ae (by
  rw[rS.o];simpa [jdL]using hg7)
 have io:=ae (ja.o.trans ji);clear hg7 ji;go_wp2_with fail;go_end0
 exact⟨rfl,⟨_,HG7.o⟩,io.o⟩
theorem xf{W:World}{p T:Nat}{c:Array Value}(h:W.heap[p]?=some (.cells c T (0,0)))(hc:0<c.size):W.cell? ⟨p,0,none⟩=some c[0]/\W.frozen? ⟨p,0,none⟩=false :=
 ⟨by rw[ay h];simp[hc],by simp[World.frozen?,h]⟩
theorem Jm{w:World}{B e size n q i:Nat}{v x:Value}{xs:List Value}(h:w.ownsRow B e size v n xs)(hq:∀ k,v.ownBlock=some k->k≠q):(w.setCell ⟨q,i,none⟩ x).ownsRow B e size v n xs:=by
 obtain⟨h0,h | ⟨g,cap,cur,rfl,h2,h3,h4⟩⟩:=h
 ·exact⟨h0,Or.inl h⟩
 ·exact⟨h0,Or.inr ⟨g,cap,cur,rfl,h2,(Below.heap_setCell _ _ _ _ (hq g rfl)).trans h3,h4⟩⟩
theorem Eo{w:World}{B e n q T:Nat}{v:Value}{xs:List Value}{c:Array Value}(h:w.ownsRow B e 1 v n xs)(hq:w.heap[q]?=some (.cells c T (0,0)))(hT:T≠e):∀ k,v.ownBlock=some k->k≠q:=by
 intro k hk e1;subst e1;obtain⟨h0,⟨rfl,_⟩ | ⟨g,cap,cur,rfl,h2,h3,h4⟩⟩:=h
 ·cases hk
 ·cases hk
  rw[hq]at h3;cases h3
  exact hT rfl
theorem Bm{w:World}{vl:Value}{l:List (List Nat)}(hs:Sv w vl (cC l))(gd:∀ k,vl.ownBlock=some k->k<w.heap.size)(hl:l.length<=256)(ht:Ts l) :
  Calls Tryz.prog 173 #[vl] w (dw w (dj l)):=by
 obtain⟨a,cap,rfl,_,_⟩:=hs.form1;have HS:=ae hs;have rT:=ae gd;have HT:=ae ht;rw[dL]at *;have ms:=ae (am w (.cells #[.slice a l.length cap] 144));have Yq:=jdx w (.cells #[.slice a l.length cap] 144);have HCX:=ae (aK w (.slice a l.length cap) 144);have qr:=ae (Jl (hs.kept ms.o) hl);clear hs gd ht;go_enter Tryz.func173,Tryz.ntmps173
 go_wp2_with fail;refine qr.o.mono ?_;rintro e w1 ⟨⟨v1,rfl,eH⟩,aH⟩;have eY:=ae eH;have aQ:=ae aH;have cP:=aH.size;obtain⟨a1,c1,rfl,_,_⟩:=aM eH;have Fw:jfp ((w1.alloc (.cells #[.slice a1 l.length c1] 144)).heap[w1.heap.size]?=some (.cells #[.slice a1 l.length c1] 144 (0,0))):=ae (jdW _ _);have bv:=jdx w1 (.cells #[.slice a1 l.length c1] 144);have hO2:=eY.o.kept (am w1 (.cells #[.slice a1 l.length c1] 144));have du:=ae hO2;have aE:=aQ.o.trans ((am w1 (.cells #[.slice a1 l.length c1] 144)).mono cP);have aO:=ae aE;have hlu:(upT l).length=l.length:=sY l
 have hS2:(w1.alloc (.cells #[.slice a1 l.length c1] 144)).ownsRow (w.alloc (.cells #[.slice a l.length cap] 144)).heap.size 9 1 (.slice a1 l.length c1) (upT l).length ((upT l).map encStr):=by
  rw[hlu,← Ek];exact hO2
 have HSO:=ae (NJ hS2 (by omega) (by omega));clear eH aH hO2 aE hS2 hlu;go_wp2_with fail;refine HSO.o.mono ?_;rintro e w3 ⟨rfl,fA,aS,LY⟩;have hlu:(upT l).length=l.length:=sY l;have yB:∀ k,(Value.slice a1 l.length c1).ownBlock=some k->k<w1.heap.size:=fun k hk=>(eY.o.lt k hk).2
 have LW:w3.heap[w1.heap.size]?=some (.cells #[.slice a1 l.length c1] 144 (0,0)):=(LY w1.heap.size (by omega) (fun e=>by have:=yB _ e;omega)).trans Fw.o;have HQ3:=ae LW;obtain⟨Qw,gS⟩:=xf LW (by simp);have iH:=aS.size;have bP:=ae (aO.o.trans aS);have hls:(qe (upT l)).length=l.length:=by rw[lj];exact hlu
 have ho3':w3.ownsRow (w.alloc (.cells #[.slice a l.length cap] 144)).heap.size 9 1 (.slice a1 l.length c1) (qe (upT l)).length ((qe (upT l)).map encStr):=by
  rw[lj];exact fA
 have HCO:=ae (Bk ho3' (by omega) (by omega));rw[Jk (fun s hs=>(HT.o s hs).2),← Ek,sY]at HCO;simp only[List.getElem_toArray,je7]at Qw;clear fA ho3' aS LY LW hls hlu;go_wp2_with fail;refine HCO.o.mono ?_;rintro e w4 ⟨⟨v4,rfl,gN⟩,bK,hk4⟩;have hq4:w4.heap[w1.heap.size]?=some (.cells #[.slice a1 l.length c1] 144 (0,0)):=(hk4 w1.heap.size (by omega) (fun e=>by have:=yB _ e;omega)).trans HQ3.o;obtain⟨hc4,pG⟩:=xf hq4 (by simp);simp only[List.getElem_toArray,je7]at hc4;have Ki:=bK.size;have cx:=ae (bP.o.trans bK);obtain⟨a4,c4,rfl,_,_⟩:=aM gN;have jbR:=Eo gN hq4 (by decide);have hO5:=Jm (i:=0) (x:=.slice a4 (tuq l).length c4) gN jbR;have hq5:=dy hq4 0 (.slice a4 (tuq l).length c4);have aR:=ae (cx.o.setCell (p:=⟨w1.heap.size,0,none⟩) (by show _<=w1.heap.size;omega) (.slice a4 (tuq l).length c4));have uF:(w4.setCell ⟨w1.heap.size,0,none⟩ (.slice a4 (tuq l).length c4)).heap.size=w4.heap.size:=World.size_setCell _ _ _
 have HGA:=ae (Tr (w:=w4.setCell ⟨w1.heap.size,0,none⟩ (.slice a4 (tuq l).length c4)) (p:=.pointer (some ⟨w1.heap.size,0,none⟩)) (q:=.pointer (some ⟨w.heap.size,0,none⟩)) (bs:=dj l) (fun W hg hb=>by
  have fT:Below (w.alloc (.cells #[.slice a l.length cap] 144)).heap.size (w.alloc (.cells #[.slice a l.length cap] 144)) W:=aR.o.trans (hb.mono (by omega));have lu:Below w.heap.size w W:=ms.o.trans (fT.mono (by omega));refine yj (vu:=.slice a4 (tuq l).length c4) hg (by omega) (by omega) ?_ ?_ (HS.o.kept lu) (fun k hk=>by have:=rT.o k hk;omega) ?_ (fun k hk=>?_) hl HT.o
  ·rw[hb.cell (p:=⟨w1.heap.size,0,none⟩) (by show w1.heap.size<_;omega),ay hq5]
   rfl
  ·rw[fT.cell (p:=⟨w.heap.size,0,none⟩) (by show w.heap.size<_;omega)]
   exact HCX.o
  ·exact(Sv.of_own hO5).kept hb
  ·have:=(hO5.lt k hk).2
   omega))
 clear gN bK hk4 hq4 jbR hO5 hq5;generalize dj l=bs at *;generalize tuq l=ul at *;go_wp2_with fail;refine HGA.o.mono ?_;rintro e w6 ⟨⟨v6,rfl,Cq⟩,ey⟩;have mT:=ae (Cq.low (B:=w.heap.size) (by omega));have ja:=ae (ms.o.trans ((aR.o.trans (ey.mono (by omega))).mono (by omega)));clear Cq ey;go_wp2_with fail;go_ret
 exact⟨⟨_,rfl,mT.o⟩,ja.o⟩
theorem yk{w:World}{vl:Value}{l:List (List Nat)}(hs:Sv w vl (cC l))(gd:∀ k,vl.ownBlock=some k->k<w.heap.size)(hl:l.length<=256)(ht:Ts l) :
  Calls Tryz.prog 130 #[vl] w (dw w (eL l)):=by
 have HE:=ae (Bl hs gd hl ht);have HP:=ae (fun(W:World) (hb:Below w.heap.size w W)=>Bm (hs.kept hb) (fun k hk=>jdS (gd k hk) hb.size) hl ht);have HW:jfp (eL l=if (dj l).length<(plain l).length then dj l else plain l):=rfl;clear hs gd ht;generalize eL l=wb at *;generalize dj l=bl at *;generalize plain l=bp at *;go_enter Tryz.func130,Tryz.ntmps130
 go_wp2_with fail;refine HE.o.mono ?_;rintro e w1 ⟨⟨v1,rfl,eH⟩,aH⟩;have eY:=ae eH;have aQ:=ae aH;have cP:=aH.size;obtain⟨a1,c1,rfl⟩:=eH.len;clear eH aH;go_wp2_with fail;refine(HP.o _ aQ.o).mono ?_;rintro e w2 ⟨⟨v2,rfl,eZ⟩,aE⟩;have HO1':=ae (eY.o.kept aE);have du:=ae (eZ.low cP);have aO:=ae (aQ.o.trans (aE.mono cP));obtain⟨a2,c2,rfl⟩:=eZ.len;clear eZ aE;by_cases h:bl.length<bp.length
 ·have h':(bl.length:Int)<(bp.length:Int):=by omega
  rw[jdu h]at HW;clear h;go_wp2_with fail;go_ret
  rw[HW.o];exact⟨⟨_,rfl,du.o⟩,aO.o⟩
 ·have h':¬ (bl.length:Int)<(bp.length:Int):=by omega
  rw[jdt h]at HW;clear h;go_wp2_with fail;go_ret
  rw[HW.o];exact⟨⟨_,rfl,HO1'.o⟩,aO.o⟩
theorem yl{w:World}{B e n:Nat}{v:Value}{xs:List Value}(h:w.ownsRow B e 1 v n xs):∀ k,v.ownBlock=some k->k<w.heap.size:=fun k hk=>(h.lt k hk).2
theorem Jn{w:World}{g p q k:Nat}{v vl:Value}{l:List (Nat×Int×List Nat)}(hg:Gs w g v [])(hp:p<g)(hq:q<g)(eQ:w.cell? ⟨p,0,none⟩=some vl)(ek:w.cell? ⟨q,0,none⟩=some (.int .u8 (k:Int)))
  (hs:Sv w vl (aI l)) (gd:∀ k,vl.ownBlock=some k->k<g) (hc:Col k l) :
  Calls Tryz.prog 124 #[.func (.func 168) #[] #[.pointer (some ⟨g,0,none⟩)],.pointer (some ⟨p,0,none⟩),.pointer (some ⟨q,0,none⟩)] w (js w g (eo k l)):=by
 have Cd:=hg.lt;have qr:=ae eQ;have nk:=ae ek;have HS:=ae hs;have rT:=ae gd;obtain⟨hk,hl,hcells⟩:=hc;have HC:=ae hcells;have hhd:=(sE (l:=l) hl).1;have Ky:jfp (eo k l=dK l++gB k l):=rfl;have Co:=ae (Bi hg (by simp) hs hl);have hol:=ia l;obtain⟨a,cap,rfl,_,_⟩:=hs.form1;rw[aG]at *;clear hg hs gd hcells ek;obtain rfl | rfl | rfl:k=1∨k=2∨k=3:=by omega
 ·have jj:=iS HC.o
  have fT:=gI jj.1 (by rw[jdz];omega);have HI:=ae jj.1;have Vb:=ae (vV l);clear jj;go_enter Tryz.func124,Tryz.ntmps124
  go_wp2_with fail;refine Co.o.mono ?_;rintro e w1 ⟨rfl,⟨v1,eS⟩,aH⟩;have tu:=ae eS;have aQ:=ae aH;have Vc:=eG qr.o aH hp;have Vd:=eG nk.o aH hq;have Ah:=ae (Hv (HS.o.keptB rT.o aH) hl HC.o);clear eS aH eQ;go_wp2_with fail;refine Ah.o.mono ?_;rintro e w2 ⟨⟨v2,rfl,eZ⟩,aE⟩;have Kr:=ae (tu.o.kept aE);have aO:=ae (aQ.o.trans (aE.mono (jdU tu.o.lt)));have nB:=ae (sS eZ.sv (by rw[jdz];omega) HI.o);clear eZ aE Vc Vd;go_wp2_with fail;refine nB.o.mono ?_;rintro e w3 ⟨⟨v3,rfl,fA⟩,aS⟩;have bP:=ae (aO.o.trans (aS.mono (jdU Kr.o.lt)));have KA:=ae (eW (Kr.o.kept aS) fA.sv (by simp only[jeu];omega));clear fA aS;go_wp2_with fail;refine KA.o.mono ?_;rintro e w4 ⟨rfl,⟨v4,iN⟩,bK,_⟩;rw[jeu,← Vb.o,← Ky.o]at iN;have VY:=ae iN;have cx:=ae (bP.o.trans bK);clear iN bK;go_wp2_with fail;go_end0
  exact⟨rfl,⟨_,VY.o⟩,cx.o⟩
 ·have jj:=fM HC.o
  have fT:=jt jj.1 (by rw[jdz];omega);have HI:=ae jj.1;have Vb:=ae (vW l);clear jj;go_enter Tryz.func124,Tryz.ntmps124
  go_wp2_with fail;refine Co.o.mono ?_;rintro e w1 ⟨rfl,⟨v1,eS⟩,aH⟩;have tu:=ae eS;have aQ:=ae aH;have Vc:=eG qr.o aH hp;have Vd:=eG nk.o aH hq;have Ah:=ae (Hx (HS.o.keptB rT.o aH) hl HC.o);clear eS aH eQ;go_wp2_with fail;refine Ah.o.mono ?_;rintro e w2 ⟨⟨v2,rfl,eZ⟩,aE⟩;have Kr:=ae (tu.o.kept aE);have aO:=ae (aQ.o.trans (aE.mono (jdU tu.o.lt)));have nB:=ae (zF eZ.sv HI.o);clear eZ aE Vc Vd;go_wp2_with fail;refine nB.o.mono ?_;rintro e w3 ⟨⟨v3,rfl,fA⟩,aS⟩;have bP:=ae (aO.o.trans (aS.mono (jdU Kr.o.lt)));have KA:=ae (eW (Kr.o.kept aS) fA.sv (by simp only[jeu];omega));clear fA aS;go_wp2_with fail;refine KA.o.mono ?_;rintro e w4 ⟨rfl,⟨v4,iN⟩,bK,_⟩;rw[jeu,← Vb.o,← Ky.o]at iN;have VY:=ae iN;have cx:=ae (bP.o.trans bK);clear iN bK;go_wp2_with fail;go_end0
  exact⟨rfl,⟨_,VY.o⟩,cx.o⟩
 ·have jj:=gO HC.o
  have fT:=(mF jj.1 (by rw[jdz];omega)).1;have HI:=ae jj.1;have Vb:=ae (vX l);clear jj;go_enter Tryz.func124,Tryz.ntmps124
  go_wp2_with fail;refine Co.o.mono ?_;rintro e w1 ⟨rfl,⟨v1,eS⟩,aH⟩;have tu:=ae eS;have aQ:=ae aH;have Vc:=eG qr.o aH hp;have Vd:=eG nk.o aH hq;have Ah:=ae (Hw (HS.o.keptB rT.o aH) hl HC.o);clear eS aH eQ;go_wp2_with fail;refine Ah.o.mono ?_;rintro e w2 ⟨⟨v2,rfl,eZ⟩,aE⟩;have Kr:=ae (tu.o.kept aE);have aO:=ae (aQ.o.trans (aE.mono (jdU tu.o.lt)));have nB:=ae (yk eZ.sv (yl eZ) (by rw[jdz];omega) HI.o);clear eZ aE Vc Vd;go_wp2_with fail;refine nB.o.mono ?_;rintro e w3 ⟨⟨v3,rfl,fA⟩,aS⟩;have bP:=ae (aO.o.trans (aS.mono (jdU Kr.o.lt)));have KA:=ae (eW (Kr.o.kept aS) fA.sv (by simp only[jeu];omega));clear fA aS;go_wp2_with fail;refine KA.o.mono ?_;rintro e w4 ⟨rfl,⟨v4,iN⟩,bK,_⟩;rw[jeu,← Vb.o,← Ky.o]at iN;have VY:=ae iN;have cx:=ae (bP.o.trans bK);clear iN bK;go_wp2_with fail;go_end0
  exact⟨rfl,⟨_,VY.o⟩,cx.o⟩
def sZ(r:List Nat×Nat)(w:World)(e:Ending)(w':World):Prop:=(∃ v,e=.returned (.tuple #[v,.int .i64 (r.2:Int)])/\aD w' w.heap.size v r.1)/\Below w.heap.size w w'
theorem Jo{k:Nat}{l:List (Nat×Int×List Nat)}(h:(dU k l).2≠0):(dU k l).1=[]:=by
 unfold dU at h ⊢;split
 ·split
  ·next h1 h2 =>
   rw[jdu h1,jdu h2]at h;exact absurd rfl h
  ·rfl
 ·rfl
theorem Ep{k:Nat}{l:List (Nat×Int×List Nat)}(hf:∀ c∈l,aT c)(h:(dU k l).2=0):Col k l:=by
 unfold dU at h;split at h
 ·next h1 =>
  split at h
  ·next h2=>exact⟨⟨h1.1,h1.2.1⟩,h2.1,fun c hc=>(hf c hc).cellk (h1.2.2 c hc)⟩
  ·simp at h
 ·simp at h
theorem zK{w:World}{vl:Value}{l:List (Nat×Int×List Nat)}(hs:Sv w vl (aI l))(gd:∀ k,vl.ownBlock=some k->k<w.heap.size)(hf:∀ c∈l,aT c)(k:Nat) :
  Calls Tryz.prog 83 #[.int .u8 (k:Int),vl] w (sZ (dU k l) w):=by
 obtain⟨a,cap,rfl,_,_⟩:=hs.form1;have cP:=jdx w (.cells #[.int .u8 (k:Int)] 50);have bv:=jdx (w.alloc (.cells #[.int .u8 (k:Int)] 50)) (.cells #[.slice a (aI l).length cap] 79);have aH:=am w (.cells #[.int .u8 (k:Int)] 50);have aE:=am (w.alloc (.cells #[.int .u8 (k:Int)] 50)) (.cells #[.slice a (aI l).length cap] 79);have xO:=aH.trans (aE.mono (by omega));have gm:=ae xO;have Kq:=ae (Hz (hs.kept xO) hf k);have VP:=ae (aK w (.int .u8 (k:Int)) 50);have HC2:=ae (aK (w.alloc (.cells #[.int .u8 (k:Int)] 50)) (.slice a (aI l).length cap) 79);have HC1':jfp (((w.alloc (.cells #[.int .u8 (k:Int)] 50)).alloc (.cells #[.slice a (aI l).length cap] 79)).cell? ⟨w.heap.size,0,none⟩=some (.int .u8 (k:Int))):=ae ((aE.cell (p:=⟨w.heap.size,0,none⟩) (by show w.heap.size<_;omega)).trans VP.o);have ts:=ae (Jo (k:=k) (l:=l));have Ai:=ae (fun h=>Ep (k:=k) (l:=l) hf h);have HWC:=ae (fun h=>kp (k:=k) (l:=l) h)
 have HGA:=ae (fun(W1:World) (hw:Below ((w.alloc (.cells #[.int .u8 (k:Int)] 50)).alloc (.cells #[.slice a (aI l).length cap] 79)).heap.size ((w.alloc (.cells #[.int .u8 (k:Int)] 50)).alloc (.cells #[.slice a (aI l).length cap] 79)) W1) (dW:Col k l)=>Tp (w:=W1) (p:=.pointer (some ⟨w.heap.size+1,0,none⟩)) (q:=.pointer (some ⟨w.heap.size,0,none⟩)) (bs:=eo k l) (fun W hg hb=>by
  have jw:=hw.size;have aS:Below w.heap.size w W:=xO.trans ((hw.trans (hb.mono jw)).mono (by omega));refine Jn (vl:=.slice a (aI l).length cap) hg (by omega) (by omega) ?_ ?_ (hs.kept aS) (fun k hk=>by have:=gd k hk;omega) dW
  ·rw[hb.cell (p:=⟨w.heap.size+1,0,none⟩) (by show w.heap.size+1<_;omega),hw.cell (p:=⟨w.heap.size+1,0,none⟩) (by show w.heap.size+1<_;omega)]
   have:=HC2.o;rwa[cP]at this
  ·rw[hb.cell (p:=⟨w.heap.size,0,none⟩) (by show w.heap.size<_;omega),hw.cell (p:=⟨w.heap.size,0,none⟩) (by show w.heap.size<_;omega)]
   exact HC1'.o))
 clear hs gd hf aH aE xO;generalize dU k l=wc at *;obtain⟨bs,er⟩:=wc;simp only at *;generalize (aI l).length=n at *;by_cases he:er=0
 ·subst he
  have dW:=Ai.o rfl;have uK:jfp (bs=eo k l):=ae (by have:=HWC.o dW;simpa using this);have xH:=ae dW;clear dW;go_enter Tryz.func83,Tryz.ntmps83
  go_wp2_with fail;refine Kq.o.mono ?_;rintro e w1 ⟨rfl,aH⟩;have HGA1:=ae (HGA.o w1 aH xH.o);have aQ:=ae (gm.o.trans (aH.mono (by omega)));have iH:=aH.size;clear aH;go_wp2_with fail;refine HGA1.o.mono ?_;rintro e w2 ⟨⟨v2,rfl,eZ⟩,aE⟩;have du:=ae (eZ.low (B:=w.heap.size) (by omega));have aO:=ae (aQ.o.trans (aE.mono (by omega)));clear eZ aE;go_wp2_with fail;go_ret2
  rw[uK.o];exact⟨⟨_,rfl,du.o⟩,aO.o⟩
 ·have fF:((er:Int) != 0)=true:=by simpa using he
  have uK:jfp (bs=[]):=ae (ts.o he);clear he;go_enter Tryz.func83,Tryz.ntmps83
  go_wp2_with fail;refine Kq.o.mono ?_;rintro e w1 ⟨rfl,aH⟩;have aQ:=ae (gm.o.trans (aH.mono (by omega)));clear aH;go_wp2_with fail;go_ret2
  rw[uK.o];exact⟨⟨_,rfl,aD.nil _ _⟩,aQ.o⟩
theorem Sv.keptW{W W':World}{B:Nat}{v:Value}{xs:List Value}(h:Sv W v xs)(hv:0<xs.length->∀ k,v.ownBlock=some k->k<B)(hb:Below B W W'):Sv W' v xs:=by
 obtain⟨a,cap,rfl,h1,h2,h3,h4⟩:=h;refine⟨a,cap,rfl,h1,h2,h3,fun h0=>?_⟩;obtain⟨b,off,rfl,h5,h6⟩:=h4 h0;have hb':b<B:=hv h0 b rfl;exact⟨b,off,rfl,jdS h5 hb.size,fun j x hj=>(hb.cell (p:=⟨b,off+j,none⟩) hb').trans (h6 j x hj)⟩
def Rs(W:World)(p:Nat)(b:List Nat)(f:Nat):Prop :=
 ∃ a cap,W.heap[p]?=some (.cells #[.slice a b.length cap,.int .i64 (f:Int)] 271 (0,0))/\Sv W (.slice a b.length cap) (aF .u8 b)/\(0<b.length->∀ k,(Value.slice a b.length cap).ownBlock=some k->k<p)/\Bs b
theorem Rs.bs{W:World}{p:Nat}{b:List Nat}{f:Nat}(h:Rs W p b f):Bs b:=by obtain⟨_,_,_,_,_,h⟩:=h;exact h
theorem Rs.lt{W:World}{p:Nat}{b:List Nat}{f:Nat}(h:Rs W p b f):p<W.heap.size:=by obtain⟨_,_,h,_⟩:=h;exact(Array.getElem?_eq_some_iff.1 h).1
theorem Rs.kept{W W':World}{p B:Nat}{b:List Nat}{f:Nat}(h:Rs W p b f)(hb:Below B W W')(hp:p<B):Rs W' p b f:=by
 obtain⟨a,cap,h1,h2,h3,h4⟩:=h;exact⟨a,cap,(hb.block p hp).trans h1,h2.keptW (fun h0 k hk=>jea (h3 (by rwa[ar]at h0) k hk) hp) hb,h3,h4⟩
theorem Sv.dropG{W:World}{a:Option Addr}{n cap:Nat}{xs:List Value}(h:Sv W (.slice a n cap) xs){k:Nat}(hk:k<=xs.length) :
  Sv W (.slice (if cap=k then a else a.map fun x=>x.add k) (xs.length-k) (cap-k)) (xs.drop k):=by
 obtain⟨a',cap',e,h1,h2,h3,h4⟩:=h;simp only[Value.slice.injEq]at e;obtain⟨rfl,rfl,rfl⟩:=e;refine⟨_,cap-k,by rw[jd3],by rw[jd3];omega,by omega,fun e=>?_,fun h0=>?_⟩
 ·by_cases hc:cap=k
  ·omega
  ·rw[jdt hc]at e
   have ha:a=none:=by cases a with | none=>rfl | some x=>simp at e
   have:=h3 ha;omega
 ·rw[jd3]at h0
  obtain⟨b,off,rfl,h5,h6⟩:=h4 (by omega);refine⟨b,off+k,?_,h5,fun j x hj=>?_⟩
  ·rw[jdt (by omega)]
   simp[nh]
  ·rw[List.getElem?_drop]at hj
   have:=h6 (k+j) x hj;rwa[← jeD]at this
theorem ju{a:Option Addr}{n cap m k c:Nat}{p:Nat}(h:∀ i,(Value.slice a n cap).ownBlock=some i->i<p):∀ i,(Value.slice (if c=k then a else a.map fun x=>x.add k) m (cap-k)).ownBlock=some i->i<p:=by
 intro i hi;cases a with
 | none =>
  split at hi<;>cases hi
 | some x =>
  refine h i ?_;split at hi
  ·exact hi
  ·simp only[jeF,Value.ownBlock]at hi ⊢
   unfold Addr.add at hi;split at hi<;>exact hi
theorem Rs.cells{W:World}{p:Nat}{b:List Nat}{f:Nat}(h:Rs W p b f) :
  ∃ a cap,W.cell? ⟨p,0,none⟩=some (.slice a b.length cap)/\W.cell? ⟨p,1,none⟩=some (.int .i64 (f:Int))/\W.frozen? ⟨p,0,none⟩=false/\W.frozen? ⟨p,1,none⟩=false /\
   b.length<=cap/\cap<=9223372036854775807/\Sv W (.slice a b.length cap) (aF .u8 b)/\(0<b.length->∀ k,(Value.slice a b.length cap).ownBlock=some k->k<p) /\
   (∀ f':Nat,Rs (W.setCell ⟨p,1,none⟩ (.int .i64 (f':Int))) p b f') /\
   (∀ k,k<=b.length->∃ A,(if cap=k then a else a.map fun x=>x.add k)=A/\Rs (W.setCell ⟨p,0,none⟩ (.slice A (b.length-k) (cap-k))) p (b.drop k) f) /\
   Rs (W.setCell ⟨p,0,none⟩ (.slice none 0 0)) p [] f:=by
 have aB:=h.lt;obtain⟨a,cap,h1,h2,h3,h4⟩:=h;have lH:∀ i (x:Value),Below p W (W.setCell ⟨p,i,none⟩ x):=fun i x=>(jdv p W).setCell (jdw _) x
 have bw:=h2.form1;obtain⟨a',cap',e,lp,jT⟩:=bw;rw[ar]at e lp;simp only[Value.slice.injEq]at e;obtain⟨rfl,_,rfl⟩:=e;refine⟨a,cap,by rw[ay h1];rfl,by rw[ay h1];rfl,by simp[World.frozen?,h1],by simp[World.frozen?,h1],lp,by unfold maxLen at jT;omega,h2,h3,fun f'=>?_,fun k hk=>?_,?_⟩
 ·exact⟨a,cap,by rw[dy h1];rfl,h2.keptW (fun h0=>h3 (by rwa[ar]at h0)) (lH 1 _),h3,h4⟩
 ·refine⟨_,rfl,?_⟩
  have hd:=h2.dropG (k:=k) (by rw[ar];exact hk);rw[ar]at hd;have hv:(aF .u8 b).drop k=aF .u8 (b.drop k):=by simp[aF,List.map_drop]
  rw[hv]at hd;have fT:0<b.length->∀ i,(Value.slice (if cap=k then a else a.map fun x=>x.add k) (b.length-k) (cap-k)).ownBlock=some i->i<p:=fun h0=>ju (m:=b.length-k) (k:=k) (c:=cap) (h3 h0)
  refine⟨_,cap-k,by rw[dy h1,jd3];rfl,?_,?_,h4.drop k⟩
  ·rw[jd3]
   exact hd.keptW (fun h0=>fT (by rw[ar,jd3]at h0;omega)) (lH 0 _)
  ·rw[jd3]
   exact fun h0=>fT (by omega)
 ·refine⟨none,0,by rw[dy h1];rfl,Sv.nil _,fun h0=>by simp at h0,fun x hx=>by simp at hx⟩
theorem cF{w:World}{p f:Nat}{b:List Nat}(h:Rs w p b f)(e:Nat) :
  Calls Tryz.prog 237 #[.pointer (some ⟨p,0,none⟩),.int .i64 (e:Int)] w fun r w'=>r=.returned (.tuple #[])/\Rs w' p b (orf f e)/\Fr p w.heap.size w w':=by
 have HS:=ae h;obtain⟨a,cap,h0,h1,h2,h3,h4,h5,h6,h7,h8,h9,no⟩:=h.cells;have H8:=ae (h8 e);have HF:=ae ((Fr.refl p w.heap.size w).set 1 (.int .i64 (e:Int)));clear h h6 h7 h8 h9 no;by_cases hf:((f:Int)==0)=true
 ·have hf':f=0:=by simpa using hf
  have HO:jfp (orf f e=e):=by show _=_;unfold orf;rw[jdu hf']
  clear hf';go_enter Tryz.func237,Tryz.ntmps237
  go_wp2_with fail;go_end0
  rw[HO.o];exact⟨rfl,H8.o,HF.o⟩
 ·have hff:((f:Int)==0)=false:=by simpa using hf
  have HO:jfp (orf f e=f):=by show _=_;unfold orf;rw[jdt (fun e=>hf (by simp[e]))]
  clear hf;go_enter Tryz.func237,Tryz.ntmps237
  go_wp2_with fail;go_end0
  rw[HO.o];exact⟨rfl,HS.o,Fr.refl _ _ _⟩
theorem xg{w:World}{p f:Nat}{b:List Nat}(h:Rs w p b f) :
  Calls Tryz.prog 280 #[.pointer (some ⟨p,0,none⟩)] w fun r w'=>r=.returned (.tuple #[])/\Rs w' p b (orf f (if b.length=0 then 0 else 32))/\Fr p w.heap.size w w':=by
 have HS:=ae h;obtain⟨a,cap,h0,h1,h2,h3,h4,h5,h6,h7,h8,h9,no⟩:=h.cells;have HR:=ae (cF h 32);clear h h6 h7 h8 h9 no;by_cases hp:(b.length:Int) > 0
 ·rw[jdt (by omega)]
  go_enter Tryz.func280,Tryz.ntmps280
  go_wp2_with fail;refine HR.o.mono ?_;rintro e w1 ⟨rfl,ea,dv⟩;have jy:=ae ea;clear ea;go_wp2_with fail;go_end0
  exact⟨rfl,jy.o,dv⟩
 ·have dO:b.length=0:=by omega
  rw[jdu dO];have HO:jfp (orf f 0=f):=by show _=_;unfold orf;split<;>simp_all
  clear dO;go_enter Tryz.func280,Tryz.ntmps280
  go_wp2_with fail;go_end0
  rw[HO.o];exact⟨rfl,HS.o,Fr.refl _ _ _⟩
def tkB(c:Nat)(b:List Nat):List Nat:=if b.length<c then [] else b.take c
def tkR(c:Nat)(b:List Nat):List Nat:=if b.length<c then b else b.drop c
def tkF(c:Nat)(b:List Nat)(f:Nat):Nat:=if b.length<c then orf f 30 else f
theorem oP{w:World}{p f:Nat}{b:List Nat}(h:Rs w p b f)(c:Nat)(hc:c<18446744073709551616) :
  Calls Tryz.prog 293 #[.pointer (some ⟨p,0,none⟩),.int .u64 (c:Int)] w fun r w'=>(∃ v,r=.returned v/\Sv w' v (aF .u8 (tkB c b)))/\Rs w' p (tkR c b) (tkF c b f)/\Fr p w.heap.size w w':=by
 have HS:=ae h;obtain⟨a,cap,h0,h1,h2,h3,h4,h5,h6,h7,h8,h9,no⟩:=h.cells;have HR:=ae (cF h 30);by_cases hp:b.length<c
 ·have hp':(c:Int) > (b.length:Int):=by omega
  have HB:jfp (tkB c b=[]/\tkR c b=b/\tkF c b f=orf f 30):=⟨jdu hp,jdu hp,jdu hp⟩;clear h h6 h7 h8 h9 no hp;go_enter Tryz.func293,Tryz.ntmps293
  go_wp2_with fail;refine HR.o.mono ?_;rintro e w1 ⟨rfl,ea,dv⟩;have jy:=ae ea;have gp:=ae dv;clear ea dv;go_wp2_with fail;go_ret
  rw[HB.o.1,HB.o.2.1,HB.o.2.2];exact⟨⟨_,rfl,Sv.nil _⟩,jy.o,gp.o⟩
 ·have hp':¬ (c:Int) > (b.length:Int):=by omega
  have HB:jfp (tkB c b=b.take c/\tkR c b=b.drop c/\tkF c b f=f):=⟨jdt hp,jdt hp,jdt hp⟩;obtain⟨A,hA,hSA⟩:=h9 c (by omega);have lF:=ae hSA;have HF:=ae ((Fr.refl p w.heap.size w).set 0 (.slice A (b.length-c) (cap-c)))
  have hT:Sv w (.slice a c cap) (aF .u8 (b.take c)):=by
   have:=h6.take (k:=c) (by rw[ar];omega);rwa[← zu]at this
  have hTb:0<(aF .u8 (b.take c)).length->∀ k,(Value.slice a c cap).ownBlock=some k->k<p:=fun h0 k hk=>h7 (by rw[ar,jdC]at h0;omega) k (by cases a with | none=>cases hk | some x=>exact hk)
  have HT:=ae (hT.keptW hTb ((jdv p w).setCell (p:=⟨p,0,none⟩) (jdw _) (.slice A (b.length-c) (cap-c))));clear h h6 h7 h8 h9 no hp hSA hT hTb;go_enter Tryz.func293,Tryz.ntmps293
  go_wp2_with fail;go_ret
  rw[HB.o.1,HB.o.2.1,HB.o.2.2];exact⟨⟨_,rfl,HT.o⟩,lF.o,HF.o⟩
theorem tW{w:World}{p f:Nat}{b:List Nat}(h:Rs w p b f) :
  Calls Tryz.prog 311 #[.pointer (some ⟨p,0,none⟩)] w fun r w'=>r=.returned (.int .u64 ((gt b).1:Int))/\Rs w' p (b.drop (gt b).2.1) (orf f (gt b).2.2)/\Fr p w.heap.size w w':=by
 have HS:=ae h;have HB:=ae h.bs;obtain⟨a,cap,h0,h1,h2,h3,h4,h5,h6,h7,h8,h9,no⟩:=h.cells;obtain⟨g1,g2,g3,g4⟩:=fW b;have HG:=ae (AE HB.o h6);clear h h6 h7 h8 h9 no g4;generalize gt b=x at *;obtain⟨n,u,c⟩:=x;simp only at *;unfold kO at HG;go_enter Tryz.func311,Tryz.ntmps311
 go_wp2_with fail;refine HG.o.mono ?_;rintro e w1 ⟨rfl,rfl⟩;go_wp2_with fail;refine(cF HS.o c).mono ?_;rintro e w2 ⟨rfl,dN,dD⟩;obtain⟨A0,Cap,k0,k1,k2,k3,k4,k5,k6,k7,k8,k9,k10⟩:=dN.cells;obtain⟨A,hA,hSA⟩:=k9 u g2;have lF:=ae hSA;have gM:=ae (dD.set 0 (.slice A (b.length-u) (Cap-u)));clear dN dD k6 k7 k8 k9 k10 hSA h0 h1 h2 h3;go_wp2_with fail;go_ret
 exact⟨rfl,lF.o,gM.o⟩
def chX:List Nat->Nat
 | []=>0
 | x::_=>if x<=1 then x else 0
def chF(b:List Nat)(f:Nat):Nat :=
 match b with
 | []=>orf f 30
 | x::_=>if x<=1 then f else orf f 40
theorem nU(x:Nat)(t:List Nat)(f:Nat):tkB 1 (x::t)=[x]/\tkR 1 (x::t)=t/\tkF 1 (x::t) f=f:=by
 refine⟨?_,?_,?_⟩
 ·unfold tkB;rw[jdt (by simp)];rfl
 ·unfold tkR;rw[jdt (by simp)];rfl
 ·unfold tkF;rw[jdt (by simp)]
theorem xh{w:World}{p f:Nat}{b:List Nat}(h:Rs w p b f) :
  Calls Tryz.prog 275 #[.pointer (some ⟨p,0,none⟩),.int .u8 0,.int .u8 1] w fun r w'=>r=.returned (.int .u8 (chX b:Int))/\Rs w' p b.tail (chF b f)/\Fr p w.heap.size w w':=by
 have HT:=ae (oP h 1 (by omega));have uK:=ae h.bs;have aB:=h.lt;clear h;cases b with
 | nil =>
  have HE:jfp (tkB 1 []=[]/\tkR 1 []=[]/\tkF 1 [] f=orf f 30):=⟨rfl,rfl,rfl⟩;rw[HE.o.1,HE.o.2.1,HE.o.2.2]at HT;go_enter Tryz.func275,Tryz.ntmps275
  go_wp2_with fail;refine HT.o.mono ?_;rintro e w1 ⟨⟨v1,rfl,Cv⟩,ea,dv⟩;have jy:=ae ea;have gp:=ae dv;obtain⟨a,cap,rfl,_,_⟩:=Cv.form1;rw[ar]at *;clear ea dv Cv;go_wp2_with fail;go_ret
  exact⟨rfl,jy.o,gp.o⟩
 | cons x t =>
  rw[(nU x t f).1,(nU x t f).2.1,(nU x t f).2.2]at HT;have hx:=uK.o x (by simp);go_enter Tryz.func275,Tryz.ntmps275
  go_wp2_with fail;refine HT.o.mono ?_;rintro e w1 ⟨⟨v1,rfl,Cv⟩,ea,dv⟩;have jy:=ae ea;have gp:=ae dv;obtain⟨a,cap,rfl,_,bw⟩:=Cv.form1;have hcm':cap<=9223372036854775807:=by unfold maxLen at bw;omega
  obtain⟨g,off,rfl,hg,br⟩:=Cv.at1 (k:=0) (x:=.int .u8 (x:Int)) rfl;rw[jej]at br;rw[ar]at *;clear Cv bw;by_cases Gc:x<=1
  ·have HE:jfp (chX (x::t)=x/\chF (x::t) f=f):=⟨jdu Gc,jdu Gc⟩
   obtain rfl | rfl:x=0∨x=1:=by omega
   ·clear ea dv
    go_wp2_with fail;go_ret
    rw[HE.o.1,HE.o.2];exact⟨rfl,jy.o,gp.o⟩
   ·clear ea dv
    go_wp2_with fail;go_ret
    rw[HE.o.1,HE.o.2];exact⟨rfl,jy.o,gp.o⟩
  ·have HE:jfp (chX (x::t)=0/\chF (x::t) f=orf f 40):=⟨jdt Gc,jdt Gc⟩
   have qq:((x:Int) != 0)=true:=by
    have:(x:Int)≠0:=by omega
    simpa using this
   have Yl:((x:Int) != 1)=true:=by
    have:(x:Int)≠1:=by omega
    simpa using this
   have HR:=ae (cF ea 40);clear ea dv Gc;go_wp2_with fail;refine HR.o.mono ?_;rintro e w2 ⟨rfl,dN,dD⟩;have gl:=ae dN;have gM:=ae (gp.o.trans (dD.mono gp.o.size));clear dN dD;go_wp2_with fail;go_ret
   rw[HE.o.1,HE.o.2];exact⟨rfl,gl.o,gM.o⟩
theorem ta{c:Nat}{b:List Nat}(h:Bs b):Bs (tkB c b):=by
 unfold tkB;split
 ·exact fun x hx=>by simp at hx
 ·exact h.take c
theorem tX{w:World}{p f:Nat}{b:List Nat}(h:Rs w p b f)(n:Nat)(hn:n<=256) :
  Calls Tryz.prog 276 #[.pointer (some ⟨p,0,none⟩),.int .i64 (n:Int)] w fun r w'=>(∃ v,r=.returned v/\dH w' w.heap.size v (unR (tkB (by8 n) b) n 1))/\Rs w' p (tkR (by8 n) b) (orf (tkF (by8 n) b f) (unE (tkB (by8 n) b) n 1))/\Fr p w.heap.size w w':=by
 have HB:=ae h.bs;have aB:=h.lt;have hby2:((n:Int)+8-1) / 8=((by8 n:Nat):Int):=by unfold by8;omega
 have fT:by8 n<=2048:=by unfold by8;omega
 have HT:=ae (oP h (by8 n) (by omega));have PM:=ae (ta (c:=by8 n) h.bs);clear h;generalize by8 n=L at *;generalize tkB L b=tb at *;generalize tkR L b=tr at *;generalize tkF L b f=tf at *;go_enter Tryz.func276,Tryz.ntmps276
 go_wp2_with fail;refine HT.o.mono ?_;rintro e w1 ⟨⟨v1,rfl,Cv⟩,ea,dv⟩;have jy:=ae ea;have gp:=ae dv;have cP:=dv.size;have HU:=ae (tH Cv.sx PM.o (n:Int) 1);clear ea dv Cv;go_wp2_with fail;refine HU.o.mono ?_;rintro e w2 ⟨v2,rfl,eZ,aE⟩;have du:=ae (be eZ cP);have bv:=aE.size;have gl:=ae (jy.o.kept aE jy.o.lt);have gM:=ae (gp.o.trans (Fr.of_below (aE.mono cP)));clear eZ aE;go_wp2_with fail;refine(cF gl.o _).mono ?_;rintro e w3 ⟨rfl,lr,gS⟩;have ny:=ae lr;have dh:jfp (dH w3 w.heap.size v2 (unR tb n 1)):=ae (gS.own du.o aB);have qm:=ae (gM.o.trans (gS.mono (by omega)));clear lr gS;go_wp2_with fail;go_ret
 exact⟨⟨_,rfl,dh.o⟩,ny.o,qm.o⟩
theorem nf{w:World}{p f:Nat}{b:List Nat}(h:Rs w p b f)(n:Nat) :
  Calls Tryz.prog 278 #[.pointer (some ⟨p,0,none⟩),.int .i64 (n:Int)] w fun r w'=>(∃ v,r=.returned v/\bC w' w.heap.size v (bq b n).1)/\Rs w' p [] (orf f (bq b n).2)/\Fr p w.heap.size w w':=by
 have HS:=ae h;have aB:=h.lt;obtain⟨a,cap,h0,h1,h2,h3,h4,h5,h6,h7,h8,h9,no⟩:=h.cells;have HR:=ae (Ec h6 h.bs (n:Int));clear h h6 h7 h8 h9 no;unfold kG at HR;generalize bq b n=rd at *;obtain⟨l,er⟩:=rd;simp only at *;go_enter Tryz.func278,Tryz.ntmps278
 go_wp2_with fail;refine HR.o.mono ?_;rintro e w1 ⟨⟨v1,rfl,eH⟩,aH⟩;have eY:=ae eH;have jy:=ae (HS.o.kept aH aB);have gp:=ae (Fr.of_below (p:=p) aH);have cP:=aH.size;clear eH aH h0 h1 h2 h3;go_wp2_with fail;refine(cF jy.o _).mono ?_;rintro e w2 ⟨rfl,dN,dD⟩;have du:=ae (eY.o.fr dD aB);have gM:=ae (gp.o.trans (dD.mono cP));have bv:=dD.size;obtain⟨A0,Cap,k0,k1,k2,k3,k4,k5,k6,k7,k8,k9,k10⟩:=dN.cells;have ny:=ae k10;have qm:=ae (gM.o.set 0 (.slice none 0 0));have dh:=ae (du.o.fr ((Fr.refl p w2.heap.size w2).set 0 (.slice none 0 0)) aB);clear dN dD k6 k7 k8 k9 k10;go_wp2_with fail;go_ret
 exact⟨⟨_,rfl,dh.o⟩,ny.o,qm.o⟩
theorem qf{w:World}{p f:Nat}{b:List Nat}(h:Rs w p b f)(n:Nat) :
  Calls Tryz.prog 312 #[.pointer (some ⟨p,0,none⟩),.int .i64 (n:Int)] w fun r w'=>(∃ v,r=.returned v/\bC w' w.heap.size v (bq (tkB (gt b).1 (b.drop (gt b).2.1)) n).1) /\
   Rs w' p (tkR (gt b).1 (b.drop (gt b).2.1)) (orf (tkF (gt b).1 (b.drop (gt b).2.1) (orf f (gt b).2.2)) (bq (tkB (gt b).1 (b.drop (gt b).2.1)) n).2)/\Fr p w.heap.size w w':=by
 have aB:=h.lt;have HN:=ae (tW h);have g1:=(fW b).1;have FZ:=ae (ta (c:=(gt b).1) (h.bs.drop (gt b).2.1));clear h;generalize (gt b).1=sz at *;generalize b.drop (gt b).2.1=b1 at *;generalize orf f (gt b).2.2=f1 at *;have rP:=ae (fun(W:World) (hs:Rs W p b1 f1)=>oP hs sz g1);generalize tkB sz b1=tb at *;generalize tkR sz b1=tr at *;generalize tkF sz b1 f1=tf at *;have HRD:=ae (fun(W:World) (v:Value) (hv:Sv W v (aF .u8 tb))=>Ec hv FZ.o (n:Int));unfold kG at HRD;generalize bq tb n=rd at *;obtain⟨l,er⟩:=rd;simp only at *;go_enter Tryz.func312,Tryz.ntmps312
 go_wp2_with fail;refine HN.o.mono ?_;rintro e w1 ⟨rfl,ea,dv⟩;have HT:=ae (rP.o _ ea);have gp:=ae dv;have cP:=dv.size;clear ea dv;go_wp2_with fail;refine HT.o.mono ?_;rintro e w2 ⟨⟨v2,rfl,hv2⟩,dN,dD⟩;have gl:=ae dN;have gM:=ae (gp.o.trans (dD.mono cP));have bv:=dD.size;have HR:=ae (HRD.o _ _ hv2);clear dN dD hv2;go_wp2_with fail;refine HR.o.mono ?_;rintro e w3 ⟨⟨v3,rfl,fA⟩,aS⟩;have dh:=ae (be fA (jdF cP bv));have ny:=ae (gl.o.kept aS gl.o.lt);have qm:=ae (gM.o.trans (Fr.of_below (aS.mono (jdF cP bv))));have iH:=aS.size;clear fA aS;go_wp2_with fail;refine(cF ny.o _).mono ?_;rintro e w4 ⟨rfl,xF,pG⟩;have eR:jfp (bC w4 w.heap.size v3 l):=ae (pG.own dh.o aB);have uG:=ae xF;have Cr:=ae (qm.o.trans (pG.mono (by omega)));clear xF pG;go_wp2_with fail;go_ret
 exact⟨⟨_,rfl,eR.o⟩,uG.o,Cr.o⟩
end Go.Proofs.YtpljdjmpamjkhaaGreatDoor
