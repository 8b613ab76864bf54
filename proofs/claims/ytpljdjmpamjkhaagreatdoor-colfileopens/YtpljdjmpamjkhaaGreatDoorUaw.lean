import Derived.Test.YtpljdjmpamjkhaaGreatDoorUav
set_option linter.unusedVariables false
set_option linter.unusedSimpArgs false
set_option maxRecDepth 100000
set_option maxHeartbeats 4000000
namespace Go.Proofs.YtpljdjmpamjkhaaGreatDoor
open Go.RowKit Go.Lib
theorem ym{w:World}{g p q:Nat}{v vl vu:Value}{l:List (List Nat)}(hg:Gs w g v [])(hp:p<g)(hq:q<g)(XW:w.cell? ⟨q,0,none⟩=some vu)(eQ:w.cell? ⟨p,0,none⟩=some vl)
  (hs:Sv w vl (cA l)) (fW:∀ k,vl.ownBlock=some k->k<g) (hu:Sv w vu (cA (tuq l))) (Zm:∀ k,vu.ownBlock=some k->k<g) (hl:l.length<=256) (ht:Ts l) :
  Calls Tryz.prog 210 #[.func (.func 168) #[] #[.pointer (some ⟨g,0,none⟩)],.pointer (some ⟨q,0,none⟩),.pointer (some ⟨p,0,none⟩)] w (jt w g (dj l)):=by
 have Ck:=hg.lt;have HCU:=ae XW;have pw:=ae eQ;have HS:=ae hs;have HU:=ae hu;have rT:=ae fW;have UI:=ae Zm;have HT:=ae ht;have uK:(tuq l).length<=256:=by have:=fG l;omega
 have htxl:=nO (lr ht) uK;have fO:=gz (eb hl) (by rw[bV];exact hl);have rR:jfb (dj l=1::(uv (tuq l).length++(fA (tuq l)++cP (cK l)))):=rfl;have nk:=bJ (n:=(tuq l).length) (by omega);have Cu:=ae (eW (hg.kept (ak w (.cells #[.int .u8 1] 5))) (cF w 1).sv (by simp));have cY:(w.alloc (.cells #[.int .u8 1] 5)).heap.size=w.heap.size+1:=jdi _ _;obtain⟨a,cap,rfl,_,_⟩:=hs.form1;obtain⟨au,capu,rfl,_,_⟩:=hu.form1;rw[dG]at *;have HPU:=ae (dI (tuq l).length (by omega));clear hg eQ hs fW ht hu Zm;go_enter Tryz.func210,Tryz.ntmps210
 go_wp2_with fail;refine Cu.o.mono ?_;rintro e w1 ⟨rfl,⟨v1,eS⟩,aH,_⟩;have aR:=ae (((ak w (.cells #[.int .u8 1] 5)).mono (jdG Ck)).trans aH);have tw:=ae eS;have UJ:=eG HCU.o aR.o hq;clear eS aH XW;go_wp2_with fail;refine(HPU.o _).mono ?_;rintro e w2 ⟨⟨v2,rfl,fx⟩,aE⟩;have Fv:=ae (eW (tw.o.kept aE) fx.sv (by simp;omega));have aO:=ae (aR.o.trans (aE.mono (jdG tw.o.lt)));clear fx aE UJ;go_wp2_with fail;refine Fv.o.mono ?_;rintro e w3 ⟨rfl,⟨v3,hg3⟩,aQ,_⟩;have bN:=ae (aO.o.trans aQ);have hcu3:=eG HCU.o bN.o hq;have Kz:=ae (tW hg3 (by simp;omega) (HU.o.keptB UI.o bN.o) UI.o uK (lr HT.o));clear hg3 aQ;go_wp2_with fail;refine Kz.o.mono ?_;rintro e w4 ⟨rfl,⟨v4,iN⟩,bw⟩;have ce:=ae (bN.o.trans bw);have VL:=ae iN;have hcu4:=eG HCU.o ce.o hq;have hcl4:=eG pw.o ce.o hp;have HP4:=ae (Et (HU.o.keptB UI.o ce.o) (HS.o.keptB rT.o ce.o) hl uK (wl l) (fun s hs=>(lr HT.o s hs).2) (fun x hx=>jh.2 hx));clear iN bw hcu3;go_wp2_with fail;refine HP4.o.mono ?_;rintro e w5 ⟨⟨v5,rfl,fV⟩,br⟩;have hG5:=VL.o.kept br;have PE:=ae hG5;have aS:=ae (ce.o.trans (br.mono (jdG VL.o.lt)));have HP5:=ae (sU (l:=cK l) fV.sv (by rw[bV];exact hl) (eb hl));clear fV br hcu4 hcl4 hG5;go_wp2_with fail;refine HP5.o.mono ?_;rintro e w6 ⟨⟨v6,rfl,Ag⟩,dP⟩;have HP6:=ae (eW (PE.o.kept dP) Ag.sv (by simp;omega));have jc:=ae (aS.o.trans (dP.mono (jdG PE.o.lt)));clear Ag dP;go_wp2_with fail;refine HP6.o.mono ?_;rintro e w7 ⟨rfl,⟨v7,hg7⟩,jk,_⟩
 have HG7:jfb (Gs w7 g v7 (dj l)):=ae (by
  rw[rR.o];simpa [jdw]using hg7)
 have ic:=ae (jc.o.trans jk);clear hg7 jk;go_wp2_with fail;go_end0
 exact⟨rfl,⟨_,HG7.o⟩,ic.o⟩
theorem xl{W:World}{p T:Nat}{c:Array Value}(h:W.heap[p]?=some (.cells c T (0,0)))(hc:0<c.size):W.cell? ⟨p,0,none⟩=some c[0]/\W.frozen? ⟨p,0,none⟩=false :=
 ⟨by rw[ay h];simp[hc],by simp[World.frozen?,h]⟩
theorem Jj{w:World}{B e size n q i:Nat}{v x:Value}{xs:List Value}(h:w.ownsRow B e size v n xs)(hq:∀ k,v.ownBlock=some k->k≠q):(w.setCell ⟨q,i,none⟩ x).ownsRow B e size v n xs:=by
 obtain⟨h0,h | ⟨g,cap,cur,rfl,h2,h3,h4⟩⟩:=h
 ·exact⟨h0,Or.inl h⟩
 ·exact⟨h0,Or.inr ⟨g,cap,cur,rfl,h2,(Below.heap_setCell _ _ _ _ (hq g rfl)).trans h3,h4⟩⟩
theorem Eu{w:World}{B e n q T:Nat}{v:Value}{xs:List Value}{c:Array Value}(h:w.ownsRow B e 1 v n xs)(hq:w.heap[q]?=some (.cells c T (0,0)))(hT:T≠e):∀ k,v.ownBlock=some k->k≠q:=by
 intro k hk e1;subst e1;obtain⟨h0,⟨rfl,_⟩ | ⟨g,cap,cur,rfl,h2,h3,h4⟩⟩:=h
 ·cases hk
 ·cases hk
  rw[hq]at h3;cases h3
  exact hT rfl
theorem Bq{w:World}{vl:Value}{l:List (List Nat)}(hs:Sv w vl (cA l))(fW:∀ k,vl.ownBlock=some k->k<w.heap.size)(hl:l.length<=256)(ht:Ts l) :
  Calls Tryz.prog 173 #[vl] w (dw w (dj l)):=by
 obtain⟨a,cap,rfl,_,_⟩:=hs.form1;have HS:=ae hs;have rT:=ae fW;have HT:=ae ht;rw[dG]at *;have ml:=ae (ak w (.cells #[.slice a l.length cap] 144));have XX:=jdi w (.cells #[.slice a l.length cap] 144);have HCX:=ae (aL w (.slice a l.length cap) 144);have pw:=ae (Ji (hs.kept ml.o) hl);clear hs fW ht;go_enter Tryz.func173,Tryz.ntmps173
 go_wp2_with fail;refine pw.o.mono ?_;rintro e w1 ⟨⟨v1,rfl,eI⟩,aH⟩;have fC:=ae eI;have aR:=ae aH;have cY:=aH.size;obtain⟨a1,c1,rfl,_,_⟩:=aN eI;have BX:jfb ((w1.alloc (.cells #[.slice a1 l.length c1] 144)).heap[w1.heap.size]?=some (.cells #[.slice a1 l.length c1] 144 (0,0))):=ae (jdH _ _);have bn:=jdi w1 (.cells #[.slice a1 l.length c1] 144);have hO2:=fC.o.kept (ak w1 (.cells #[.slice a1 l.length c1] 144));have du:=ae hO2;have aE:=aR.o.trans ((ak w1 (.cells #[.slice a1 l.length c1] 144)).mono cY);have aO:=ae aE;have hlu:(upT l).length=l.length:=ta l
 have hS2:(w1.alloc (.cells #[.slice a1 l.length c1] 144)).ownsRow (w.alloc (.cells #[.slice a l.length cap] 144)).heap.size 9 1 (.slice a1 l.length c1) (upT l).length ((upT l).map encStr):=by
  rw[hlu,← En];exact hO2
 have HSO:=ae (Nx hS2 (by omega) (by omega));clear eI aH hO2 aE hS2 hlu;go_wp2_with fail;refine HSO.o.mono ?_;rintro e w3 ⟨rfl,fP,aQ,LR⟩;have hlu:(upT l).length=l.length:=ta l;have yE:∀ k,(Value.slice a1 l.length c1).ownBlock=some k->k<w1.heap.size:=fun k hk=>(fC.o.lt k hk).2
 have LO:w3.heap[w1.heap.size]?=some (.cells #[.slice a1 l.length c1] 144 (0,0)):=(LR w1.heap.size (by omega) (fun e=>by have:=yE _ e;omega)).trans BX.o;have HQ3:=ae LO;obtain⟨Kw,iz⟩:=xl LO (by simp);have iD:=aQ.size;have bN:=ae (aO.o.trans aQ);have hls:(qe (upT l)).length=l.length:=by rw[ld];exact hlu
 have ho3':w3.ownsRow (w.alloc (.cells #[.slice a l.length cap] 144)).heap.size 9 1 (.slice a1 l.length c1) (qe (upT l)).length ((qe (upT l)).map encStr):=by
  rw[ld];exact fP
 have HCO:=ae (Bo ho3' (by omega) (by omega));rw[Jh (fun s hs=>(HT.o s hs).2),← En,ta]at HCO;simp only[List.getElem_toArray,jeV]at Kw;clear fP ho3' aQ LR LO hls hlu;go_wp2_with fail;refine HCO.o.mono ?_;rintro e w4 ⟨⟨v4,rfl,gF⟩,bw,hk4⟩;have hq4:w4.heap[w1.heap.size]?=some (.cells #[.slice a1 l.length c1] 144 (0,0)):=(hk4 w1.heap.size (by omega) (fun e=>by have:=yE _ e;omega)).trans HQ3.o;obtain⟨hc4,pE⟩:=xl hq4 (by simp);simp only[List.getElem_toArray,jeV]at hc4;have Ke:=bw.size;have ce:=ae (bN.o.trans bw);obtain⟨a4,c4,rfl,_,_⟩:=aN gF;have jbC:=Eu gF hq4 (by decide);have hO5:=Jj (i:=0) (x:=.slice a4 (tuq l).length c4) gF jbC;have hq5:=cO hq4 0 (.slice a4 (tuq l).length c4);have aS:=ae (ce.o.setCell (p:=⟨w1.heap.size,0,none⟩) (by show _<=w1.heap.size;omega) (.slice a4 (tuq l).length c4));have vk:(w4.setCell ⟨w1.heap.size,0,none⟩ (.slice a4 (tuq l).length c4)).heap.size=w4.heap.size:=World.size_setCell _ _ _
 have HGA:=ae (Ta (w:=w4.setCell ⟨w1.heap.size,0,none⟩ (.slice a4 (tuq l).length c4)) (p:=.pointer (some ⟨w1.heap.size,0,none⟩)) (q:=.pointer (some ⟨w.heap.size,0,none⟩)) (bs:=dj l) (fun W hg hb=>by
  have fO:Below (w.alloc (.cells #[.slice a l.length cap] 144)).heap.size (w.alloc (.cells #[.slice a l.length cap] 144)) W:=aS.o.trans (hb.mono (by omega));have lm:Below w.heap.size w W:=ml.o.trans (fO.mono (by omega));refine ym (vu:=.slice a4 (tuq l).length c4) hg (by omega) (by omega) ?_ ?_ (HS.o.kept lm) (fun k hk=>by have:=rT.o k hk;omega) ?_ (fun k hk=>?_) hl HT.o
  ·rw[hb.cell (p:=⟨w1.heap.size,0,none⟩) (by show w1.heap.size<_;omega),ay hq5]
   rfl
  ·rw[fO.cell (p:=⟨w.heap.size,0,none⟩) (by show w.heap.size<_;omega)]
   exact HCX.o
  ·exact(Sv.of_own hO5).kept hb
  ·have:=(hO5.lt k hk).2
   omega))
 clear gF bw hk4 hq4 jbC hO5 hq5;generalize dj l=bs at *;generalize tuq l=ul at *;go_wp2_with fail;refine HGA.o.mono ?_;rintro e w6 ⟨⟨v6,rfl,Ag⟩,dP⟩;have ng:=ae (Ag.low (B:=w.heap.size) (by omega));have jc:=ae (ml.o.trans ((aS.o.trans (dP.mono (by omega))).mono (by omega)));clear Ag dP;go_wp2_with fail;go_ret
 exact⟨⟨_,rfl,ng.o⟩,jc.o⟩
theorem yn{w:World}{vl:Value}{l:List (List Nat)}(hs:Sv w vl (cA l))(fW:∀ k,vl.ownBlock=some k->k<w.heap.size)(hl:l.length<=256)(ht:Ts l) :
  Calls Tryz.prog 130 #[vl] w (dw w (eL l)):=by
 have HE:=ae (Bp hs fW hl ht);have HP:=ae (fun(W:World) (hb:Below w.heap.size w W)=>Bq (hs.kept hb) (fun k hk=>jdD (fW k hk) hb.size) hl ht);have HW:jfb (eL l=if (dj l).length<(plain l).length then dj l else plain l):=rfl;clear hs fW ht;generalize eL l=wb at *;generalize dj l=bl at *;generalize plain l=bp at *;go_enter Tryz.func130,Tryz.ntmps130
 go_wp2_with fail;refine HE.o.mono ?_;rintro e w1 ⟨⟨v1,rfl,eI⟩,aH⟩;have fC:=ae eI;have aR:=ae aH;have cY:=aH.size;obtain⟨a1,c1,rfl⟩:=eI.len;clear eI aH;go_wp2_with fail;refine(HP.o _ aR.o).mono ?_;rintro e w2 ⟨⟨v2,rfl,fx⟩,aE⟩;have HO1':=ae (fC.o.kept aE);have du:=ae (fx.low cY);have aO:=ae (aR.o.trans (aE.mono cY));obtain⟨a2,c2,rfl⟩:=fx.len;clear fx aE;by_cases h:bl.length<bp.length
 ·have h':(bl.length:Int)<(bp.length:Int):=by omega
  rw[jdf h]at HW;clear h;go_wp2_with fail;go_ret
  rw[HW.o];exact⟨⟨_,rfl,du.o⟩,aO.o⟩
 ·have h':¬ (bl.length:Int)<(bp.length:Int):=by omega
  rw[jde h]at HW;clear h;go_wp2_with fail;go_ret
  rw[HW.o];exact⟨⟨_,rfl,HO1'.o⟩,aO.o⟩
theorem yo{w:World}{B e n:Nat}{v:Value}{xs:List Value}(h:w.ownsRow B e 1 v n xs):∀ k,v.ownBlock=some k->k<w.heap.size:=fun k hk=>(h.lt k hk).2
theorem Jk{w:World}{g p q k:Nat}{v vl:Value}{l:List (Nat×Int×List Nat)}(hg:Gs w g v [])(hp:p<g)(hq:q<g)(eQ:w.cell? ⟨p,0,none⟩=some vl)(dR:w.cell? ⟨q,0,none⟩=some (.int .u8 (k:Int)))
  (hs:Sv w vl (aJ l)) (fW:∀ k,vl.ownBlock=some k->k<g) (hc:Col k l) :
  Calls Tryz.prog 124 #[.func (.func 168) #[] #[.pointer (some ⟨g,0,none⟩)],.pointer (some ⟨p,0,none⟩),.pointer (some ⟨q,0,none⟩)] w (jt w g (eo k l)):=by
 have Ck:=hg.lt;have pw:=ae eQ;have nf:=ae dR;have HS:=ae hs;have rT:=ae fW;obtain⟨hk,hl,hcells⟩:=hc;have HC:=ae hcells;have hhd:=(sH (l:=l) hl).1;have Kx:jfb (eo k l=dF l++gl k l):=rfl;have Cu:=ae (Bl hg (by simp) hs hl);have hol:=gU l;obtain⟨a,cap,rfl,_,_⟩:=hs.form1;rw[aG]at *;clear hg hs fW hcells dR;obtain rfl | rfl | rfl:k=1∨k=2∨k=3:=by omega
 ·have jl:=iU HC.o
  have fO:=gz jl.1 (by rw[jdk];omega);have HI:=ae jl.1;have UK:=ae (wn l);clear jl;go_enter Tryz.func124,Tryz.ntmps124
  go_wp2_with fail;refine Cu.o.mono ?_;rintro e w1 ⟨rfl,⟨v1,eS⟩,aH⟩;have tw:=ae eS;have aR:=ae aH;have UL:=eG pw.o aH hp;have UM:=eG nf.o aH hq;have Ak:=ae (Hr (HS.o.keptB rT.o aH) hl HC.o);clear eS aH eQ;go_wp2_with fail;refine Ak.o.mono ?_;rintro e w2 ⟨⟨v2,rfl,fx⟩,aE⟩;have Kp:=ae (tw.o.kept aE);have aO:=ae (aR.o.trans (aE.mono (jdG tw.o.lt)));have nt:=ae (sU fx.sv (by rw[jdk];omega) HI.o);clear fx aE UL UM;go_wp2_with fail;refine nt.o.mono ?_;rintro e w3 ⟨⟨v3,rfl,fP⟩,aQ⟩;have bN:=ae (aO.o.trans (aQ.mono (jdG Kp.o.lt)));have Kz:=ae (eW (Kp.o.kept aQ) fP.sv (by simp only[jee];omega));clear fP aQ;go_wp2_with fail;refine Kz.o.mono ?_;rintro e w4 ⟨rfl,⟨v4,iN⟩,bw,_⟩;rw[jee,← UK.o,← Kx.o]at iN;have VL:=ae iN;have ce:=ae (bN.o.trans bw);clear iN bw;go_wp2_with fail;go_end0
  exact⟨rfl,⟨_,VL.o⟩,ce.o⟩
 ·have jl:=fH HC.o
  have fO:=ju jl.1 (by rw[jdk];omega);have HI:=ae jl.1;have UK:=ae (wo l);clear jl;go_enter Tryz.func124,Tryz.ntmps124
  go_wp2_with fail;refine Cu.o.mono ?_;rintro e w1 ⟨rfl,⟨v1,eS⟩,aH⟩;have tw:=ae eS;have aR:=ae aH;have UL:=eG pw.o aH hp;have UM:=eG nf.o aH hq;have Ak:=ae (Ht (HS.o.keptB rT.o aH) hl HC.o);clear eS aH eQ;go_wp2_with fail;refine Ak.o.mono ?_;rintro e w2 ⟨⟨v2,rfl,fx⟩,aE⟩;have Kp:=ae (tw.o.kept aE);have aO:=ae (aR.o.trans (aE.mono (jdG tw.o.lt)));have nt:=ae (zI fx.sv HI.o);clear fx aE UL UM;go_wp2_with fail;refine nt.o.mono ?_;rintro e w3 ⟨⟨v3,rfl,fP⟩,aQ⟩;have bN:=ae (aO.o.trans (aQ.mono (jdG Kp.o.lt)));have Kz:=ae (eW (Kp.o.kept aQ) fP.sv (by simp only[jee];omega));clear fP aQ;go_wp2_with fail;refine Kz.o.mono ?_;rintro e w4 ⟨rfl,⟨v4,iN⟩,bw,_⟩;rw[jee,← UK.o,← Kx.o]at iN;have VL:=ae iN;have ce:=ae (bN.o.trans bw);clear iN bw;go_wp2_with fail;go_end0
  exact⟨rfl,⟨_,VL.o⟩,ce.o⟩
 ·have jl:=gG HC.o
  have fO:=(mz jl.1 (by rw[jdk];omega)).1;have HI:=ae jl.1;have UK:=ae (ws l);clear jl;go_enter Tryz.func124,Tryz.ntmps124
  go_wp2_with fail;refine Cu.o.mono ?_;rintro e w1 ⟨rfl,⟨v1,eS⟩,aH⟩;have tw:=ae eS;have aR:=ae aH;have UL:=eG pw.o aH hp;have UM:=eG nf.o aH hq;have Ak:=ae (Hs (HS.o.keptB rT.o aH) hl HC.o);clear eS aH eQ;go_wp2_with fail;refine Ak.o.mono ?_;rintro e w2 ⟨⟨v2,rfl,fx⟩,aE⟩;have Kp:=ae (tw.o.kept aE);have aO:=ae (aR.o.trans (aE.mono (jdG tw.o.lt)));have nt:=ae (yn fx.sv (yo fx) (by rw[jdk];omega) HI.o);clear fx aE UL UM;go_wp2_with fail;refine nt.o.mono ?_;rintro e w3 ⟨⟨v3,rfl,fP⟩,aQ⟩;have bN:=ae (aO.o.trans (aQ.mono (jdG Kp.o.lt)));have Kz:=ae (eW (Kp.o.kept aQ) fP.sv (by simp only[jee];omega));clear fP aQ;go_wp2_with fail;refine Kz.o.mono ?_;rintro e w4 ⟨rfl,⟨v4,iN⟩,bw,_⟩;rw[jee,← UK.o,← Kx.o]at iN;have VL:=ae iN;have ce:=ae (bN.o.trans bw);clear iN bw;go_wp2_with fail;go_end0
  exact⟨rfl,⟨_,VL.o⟩,ce.o⟩
def tc(r:List Nat×Nat)(w:World)(e:Ending)(w':World):Prop:=(∃ v,e=.returned (.tuple #[v,.int .i64 (r.2:Int)])/\aD w' w.heap.size v r.1)/\Below w.heap.size w w'
theorem Jl{k:Nat}{l:List (Nat×Int×List Nat)}(h:(dS k l).2≠0):(dS k l).1=[]:=by
 unfold dS at h ⊢;split
 ·split
  ·next h1 h2 =>
   rw[jdf h1,jdf h2]at h;exact absurd rfl h
  ·rfl
 ·rfl
theorem Ev{k:Nat}{l:List (Nat×Int×List Nat)}(hf:∀ c∈l,aV c)(h:(dS k l).2=0):Col k l:=by
 unfold dS at h;split at h
 ·next h1 =>
  split at h
  ·next h2=>exact⟨⟨h1.1,h1.2.1⟩,h2.1,fun c hc=>(hf c hc).cellk (h1.2.2 c hc)⟩
  ·simp at h
 ·simp at h
theorem zN{w:World}{vl:Value}{l:List (Nat×Int×List Nat)}(hs:Sv w vl (aJ l))(fW:∀ k,vl.ownBlock=some k->k<w.heap.size)(hf:∀ c∈l,aV c)(k:Nat) :
  Calls Tryz.prog 83 #[.int .u8 (k:Int),vl] w (tc (dS k l) w):=by
 obtain⟨a,cap,rfl,_,_⟩:=hs.form1;have cY:=jdi w (.cells #[.int .u8 (k:Int)] 50);have bn:=jdi (w.alloc (.cells #[.int .u8 (k:Int)] 50)) (.cells #[.slice a (aJ l).length cap] 79);have aH:=ak w (.cells #[.int .u8 (k:Int)] 50);have aE:=ak (w.alloc (.cells #[.int .u8 (k:Int)] 50)) (.cells #[.slice a (aJ l).length cap] 79);have xS:=aH.trans (aE.mono (by omega));have ge:=ae xS;have Ko:=ae (Hv (hs.kept xS) hf k);have VA:=ae (aL w (.int .u8 (k:Int)) 50);have HC2:=ae (aL (w.alloc (.cells #[.int .u8 (k:Int)] 50)) (.slice a (aJ l).length cap) 79);have HC1':jfb (((w.alloc (.cells #[.int .u8 (k:Int)] 50)).alloc (.cells #[.slice a (aJ l).length cap] 79)).cell? ⟨w.heap.size,0,none⟩=some (.int .u8 (k:Int))):=ae ((aE.cell (p:=⟨w.heap.size,0,none⟩) (by show w.heap.size<_;omega)).trans VA.o);have tv:=ae (Jl (k:=k) (l:=l));have Al:=ae (fun h=>Ev (k:=k) (l:=l) hf h);have HWC:=ae (fun h=>kl (k:=k) (l:=l) h)
 have HGA:=ae (fun(W1:World) (hw:Below ((w.alloc (.cells #[.int .u8 (k:Int)] 50)).alloc (.cells #[.slice a (aJ l).length cap] 79)).heap.size ((w.alloc (.cells #[.int .u8 (k:Int)] 50)).alloc (.cells #[.slice a (aJ l).length cap] 79)) W1) (dV:Col k l)=>SY (w:=W1) (p:=.pointer (some ⟨w.heap.size+1,0,none⟩)) (q:=.pointer (some ⟨w.heap.size,0,none⟩)) (bs:=eo k l) (fun W hg hb=>by
  have jx:=hw.size;have aQ:Below w.heap.size w W:=xS.trans ((hw.trans (hb.mono jx)).mono (by omega));refine Jk (vl:=.slice a (aJ l).length cap) hg (by omega) (by omega) ?_ ?_ (hs.kept aQ) (fun k hk=>by have:=fW k hk;omega) dV
  ·rw[hb.cell (p:=⟨w.heap.size+1,0,none⟩) (by show w.heap.size+1<_;omega),hw.cell (p:=⟨w.heap.size+1,0,none⟩) (by show w.heap.size+1<_;omega)]
   have:=HC2.o;rwa[cY]at this
  ·rw[hb.cell (p:=⟨w.heap.size,0,none⟩) (by show w.heap.size<_;omega),hw.cell (p:=⟨w.heap.size,0,none⟩) (by show w.heap.size<_;omega)]
   exact HC1'.o))
 clear hs fW hf aH aE xS;generalize dS k l=wc at *;obtain⟨bs,er⟩:=wc;simp only at *;generalize (aJ l).length=n at *;by_cases he:er=0
 ·subst he
  have dV:=Al.o rfl;have ur:jfb (bs=eo k l):=ae (by have:=HWC.o dV;simpa using this);have nj:=ae dV;clear dV;go_enter Tryz.func83,Tryz.ntmps83
  go_wp2_with fail;refine Ko.o.mono ?_;rintro e w1 ⟨rfl,aH⟩;have HGA1:=ae (HGA.o w1 aH nj.o);have aR:=ae (ge.o.trans (aH.mono (by omega)));have iD:=aH.size;clear aH;go_wp2_with fail;refine HGA1.o.mono ?_;rintro e w2 ⟨⟨v2,rfl,fx⟩,aE⟩;have du:=ae (fx.low (B:=w.heap.size) (by omega));have aO:=ae (aR.o.trans (aE.mono (by omega)));clear fx aE;go_wp2_with fail;go_ret2
  rw[ur.o];exact⟨⟨_,rfl,du.o⟩,aO.o⟩
 ·have fQ:((er:Int) != 0)=true:=by simpa using he
  have ur:jfb (bs=[]):=ae (tv.o he);clear he;go_enter Tryz.func83,Tryz.ntmps83
  go_wp2_with fail;refine Ko.o.mono ?_;rintro e w1 ⟨rfl,aH⟩;have aR:=ae (ge.o.trans (aH.mono (by omega)));clear aH;go_wp2_with fail;go_ret2
  rw[ur.o];exact⟨⟨_,rfl,aD.nil _ _⟩,aR.o⟩
theorem Sv.keptW{W W':World}{B:Nat}{v:Value}{xs:List Value}(h:Sv W v xs)(hv:0<xs.length->∀ k,v.ownBlock=some k->k<B)(hb:Below B W W'):Sv W' v xs:=by
 obtain⟨a,cap,rfl,h1,h2,h3,h4⟩:=h;refine⟨a,cap,rfl,h1,h2,h3,fun h0=>?_⟩;obtain⟨b,off,rfl,h5,h6⟩:=h4 h0;have hb':b<B:=hv h0 b rfl;exact⟨b,off,rfl,jdD h5 hb.size,fun j x hj=>(hb.cell (p:=⟨b,off+j,none⟩) hb').trans (h6 j x hj)⟩
def Rs(W:World)(p:Nat)(b:List Nat)(f:Nat):Prop :=
 ∃ a cap,W.heap[p]?=some (.cells #[.slice a b.length cap,.int .i64 (f:Int)] 271 (0,0))/\Sv W (.slice a b.length cap) (aF .u8 b)/\(0<b.length->∀ k,(Value.slice a b.length cap).ownBlock=some k->k<p)/\Bs b
theorem Rs.bs{W:World}{p:Nat}{b:List Nat}{f:Nat}(h:Rs W p b f):Bs b:=by obtain⟨_,_,_,_,_,h⟩:=h;exact h
theorem Rs.lt{W:World}{p:Nat}{b:List Nat}{f:Nat}(h:Rs W p b f):p<W.heap.size:=by obtain⟨_,_,h,_⟩:=h;exact(Array.getElem?_eq_some_iff.1 h).1
theorem Rs.kept{W W':World}{p B:Nat}{b:List Nat}{f:Nat}(h:Rs W p b f)(hb:Below B W W')(hp:p<B):Rs W' p b f:=by
 obtain⟨a,cap,h1,h2,h3,h4⟩:=h;exact⟨a,cap,(hb.block p hp).trans h1,h2.keptW (fun h0 k hk=>jdW (h3 (by rwa[ap]at h0) k hk) hp) hb,h3,h4⟩
theorem Sv.dropG{W:World}{a:Option Addr}{n cap:Nat}{xs:List Value}(h:Sv W (.slice a n cap) xs){k:Nat}(hk:k<=xs.length) :
  Sv W (.slice (if cap=k then a else a.map fun x=>x.add k) (xs.length-k) (cap-k)) (xs.drop k):=by
 obtain⟨a',cap',e,h1,h2,h3,h4⟩:=h;simp only[Value.slice.injEq]at e;obtain⟨rfl,rfl,rfl⟩:=e;refine⟨_,cap-k,by rw[jdN],by rw[jdN];omega,by omega,fun e=>?_,fun h0=>?_⟩
 ·by_cases hc:cap=k
  ·omega
  ·rw[jde hc]at e
   have ha:a=none:=by cases a with | none=>rfl | some x=>simp at e
   have:=h3 ha;omega
 ·rw[jdN]at h0
  obtain⟨b,off,rfl,h5,h6⟩:=h4 (by omega);refine⟨b,off+k,?_,h5,fun j x hj=>?_⟩
  ·rw[jde (by omega)]
   simp[pI]
  ·rw[List.getElem?_drop]at hj
   have:=h6 (k+j) x hj;rwa[← jeo]at this
theorem jv{a:Option Addr}{n cap m k c:Nat}{p:Nat}(h:∀ i,(Value.slice a n cap).ownBlock=some i->i<p):∀ i,(Value.slice (if c=k then a else a.map fun x=>x.add k) m (cap-k)).ownBlock=some i->i<p:=by
 intro i hi;cases a with
 | none =>
  split at hi<;>cases hi
 | some x =>
  refine h i ?_;split at hi
  ·exact hi
  ·simp only[jeq,Value.ownBlock]at hi ⊢
   unfold Addr.add at hi;split at hi<;>exact hi
theorem Rs.cells{W:World}{p:Nat}{b:List Nat}{f:Nat}(h:Rs W p b f) :
  ∃ a cap,W.cell? ⟨p,0,none⟩=some (.slice a b.length cap)/\W.cell? ⟨p,1,none⟩=some (.int .i64 (f:Int))/\W.frozen? ⟨p,0,none⟩=false/\W.frozen? ⟨p,1,none⟩=false /\
   b.length<=cap/\cap<=9223372036854775807/\Sv W (.slice a b.length cap) (aF .u8 b)/\(0<b.length->∀ k,(Value.slice a b.length cap).ownBlock=some k->k<p) /\
   (∀ f':Nat,Rs (W.setCell ⟨p,1,none⟩ (.int .i64 (f':Int))) p b f') /\
   (∀ k,k<=b.length->∃ A,(if cap=k then a else a.map fun x=>x.add k)=A/\Rs (W.setCell ⟨p,0,none⟩ (.slice A (b.length-k) (cap-k))) p (b.drop k) f) /\
   Rs (W.setCell ⟨p,0,none⟩ (.slice none 0 0)) p [] f:=by
 have aC:=h.lt;obtain⟨a,cap,h1,h2,h3,h4⟩:=h;have lC:∀ i (x:Value),Below p W (W.setCell ⟨p,i,none⟩ x):=fun i x=>(jdg p W).setCell (jdh _) x
 have bx:=h2.form1;obtain⟨a',cap',e,ly,kF⟩:=bx;rw[ap]at e ly;simp only[Value.slice.injEq]at e;obtain⟨rfl,_,rfl⟩:=e;refine⟨a,cap,by rw[ay h1];rfl,by rw[ay h1];rfl,by simp[World.frozen?,h1],by simp[World.frozen?,h1],ly,by unfold maxLen at kF;omega,h2,h3,fun f'=>?_,fun k hk=>?_,?_⟩
 ·exact⟨a,cap,by rw[cO h1];rfl,h2.keptW (fun h0=>h3 (by rwa[ap]at h0)) (lC 1 _),h3,h4⟩
 ·refine⟨_,rfl,?_⟩
  have hd:=h2.dropG (k:=k) (by rw[ap];exact hk);rw[ap]at hd;have hv:(aF .u8 b).drop k=aF .u8 (b.drop k):=by simp[aF,List.map_drop]
  rw[hv]at hd;have fO:0<b.length->∀ i,(Value.slice (if cap=k then a else a.map fun x=>x.add k) (b.length-k) (cap-k)).ownBlock=some i->i<p:=fun h0=>jv (m:=b.length-k) (k:=k) (c:=cap) (h3 h0)
  refine⟨_,cap-k,by rw[cO h1,jdN];rfl,?_,?_,h4.drop k⟩
  ·rw[jdN]
   exact hd.keptW (fun h0=>fO (by rw[ap,jdN]at h0;omega)) (lC 0 _)
  ·rw[jdN]
   exact fun h0=>fO (by omega)
 ·refine⟨none,0,by rw[cO h1];rfl,Sv.nil _,fun h0=>by simp at h0,fun x hx=>by simp at hx⟩
theorem cD{w:World}{p f:Nat}{b:List Nat}(h:Rs w p b f)(e:Nat) :
  Calls Tryz.prog 237 #[.pointer (some ⟨p,0,none⟩),.int .i64 (e:Int)] w fun r w'=>r=.returned (.tuple #[])/\Rs w' p b (orf f e)/\Fr p w.heap.size w w':=by
 have HS:=ae h;obtain⟨a,cap,h0,h1,h2,h3,h4,h5,h6,h7,h8,h9,nk⟩:=h.cells;have H8:=ae (h8 e);have HF:=ae ((Fr.refl p w.heap.size w).set 1 (.int .i64 (e:Int)));clear h h6 h7 h8 h9 nk;by_cases hf:((f:Int)==0)=true
 ·have hf':f=0:=by simpa using hf
  have HO:jfb (orf f e=e):=by show _=_;unfold orf;rw[jdf hf']
  clear hf';go_enter Tryz.func237,Tryz.ntmps237
  go_wp2_with fail;go_end0
  rw[HO.o];exact⟨rfl,H8.o,HF.o⟩
 ·have hff:((f:Int)==0)=false:=by simpa using hf
  have HO:jfb (orf f e=f):=by show _=_;unfold orf;rw[jde (fun e=>hf (by simp[e]))]
  clear hf;go_enter Tryz.func237,Tryz.ntmps237
  go_wp2_with fail;go_end0
  rw[HO.o];exact⟨rfl,HS.o,Fr.refl _ _ _⟩
theorem xm{w:World}{p f:Nat}{b:List Nat}(h:Rs w p b f) :
  Calls Tryz.prog 280 #[.pointer (some ⟨p,0,none⟩)] w fun r w'=>r=.returned (.tuple #[])/\Rs w' p b (orf f (if b.length=0 then 0 else 32))/\Fr p w.heap.size w w':=by
 have HS:=ae h;obtain⟨a,cap,h0,h1,h2,h3,h4,h5,h6,h7,h8,h9,nk⟩:=h.cells;have HR:=ae (cD h 32);clear h h6 h7 h8 h9 nk;by_cases hp:(b.length:Int) > 0
 ·rw[jde (by omega)]
  go_enter Tryz.func280,Tryz.ntmps280
  go_wp2_with fail;refine HR.o.mono ?_;rintro e w1 ⟨rfl,ek,dv⟩;have iO:=ae ek;clear ek;go_wp2_with fail;go_end0
  exact⟨rfl,iO.o,dv⟩
 ·have dY:b.length=0:=by omega
  rw[jdf dY];have HO:jfb (orf f 0=f):=by show _=_;unfold orf;split<;>simp_all
  clear dY;go_enter Tryz.func280,Tryz.ntmps280
  go_wp2_with fail;go_end0
  rw[HO.o];exact⟨rfl,HS.o,Fr.refl _ _ _⟩
def tkB(c:Nat)(b:List Nat):List Nat:=if b.length<c then [] else b.take c
def tkR(c:Nat)(b:List Nat):List Nat:=if b.length<c then b else b.drop c
def tkF(c:Nat)(b:List Nat)(f:Nat):Nat:=if b.length<c then orf f 30 else f
theorem oM{w:World}{p f:Nat}{b:List Nat}(h:Rs w p b f)(c:Nat)(hc:c<18446744073709551616) :
  Calls Tryz.prog 293 #[.pointer (some ⟨p,0,none⟩),.int .u64 (c:Int)] w fun r w'=>(∃ v,r=.returned v/\Sv w' v (aF .u8 (tkB c b)))/\Rs w' p (tkR c b) (tkF c b f)/\Fr p w.heap.size w w':=by
 have HS:=ae h;obtain⟨a,cap,h0,h1,h2,h3,h4,h5,h6,h7,h8,h9,nk⟩:=h.cells;have HR:=ae (cD h 30);by_cases hp:b.length<c
 ·have hp':(c:Int) > (b.length:Int):=by omega
  have HB:jfb (tkB c b=[]/\tkR c b=b/\tkF c b f=orf f 30):=⟨jdf hp,jdf hp,jdf hp⟩;clear h h6 h7 h8 h9 nk hp;go_enter Tryz.func293,Tryz.ntmps293
  go_wp2_with fail;refine HR.o.mono ?_;rintro e w1 ⟨rfl,ek,dv⟩;have iO:=ae ek;have gg:=ae dv;clear ek dv;go_wp2_with fail;go_ret
  rw[HB.o.1,HB.o.2.1,HB.o.2.2];exact⟨⟨_,rfl,Sv.nil _⟩,iO.o,gg.o⟩
 ·have hp':¬ (c:Int) > (b.length:Int):=by omega
  have HB:jfb (tkB c b=b.take c/\tkR c b=b.drop c/\tkF c b f=f):=⟨jde hp,jde hp,jde hp⟩;obtain⟨A,hA,hSA⟩:=h9 c (by omega);have lA:=ae hSA;have HF:=ae ((Fr.refl p w.heap.size w).set 0 (.slice A (b.length-c) (cap-c)))
  have hT:Sv w (.slice a c cap) (aF .u8 (b.take c)):=by
   have:=h6.take (k:=c) (by rw[ap];omega);rwa[← zv]at this
  have hTb:0<(aF .u8 (b.take c)).length->∀ k,(Value.slice a c cap).ownBlock=some k->k<p:=fun h0 k hk=>h7 (by rw[ap,jdo]at h0;omega) k (by cases a with | none=>cases hk | some x=>exact hk)
  have HT:=ae (hT.keptW hTb ((jdg p w).setCell (p:=⟨p,0,none⟩) (jdh _) (.slice A (b.length-c) (cap-c))));clear h h6 h7 h8 h9 nk hp hSA hT hTb;go_enter Tryz.func293,Tryz.ntmps293
  go_wp2_with fail;go_ret
  rw[HB.o.1,HB.o.2.1,HB.o.2.2];exact⟨⟨_,rfl,HT.o⟩,lA.o,HF.o⟩
theorem tX{w:World}{p f:Nat}{b:List Nat}(h:Rs w p b f) :
  Calls Tryz.prog 311 #[.pointer (some ⟨p,0,none⟩)] w fun r w'=>r=.returned (.int .u64 ((gt b).1:Int))/\Rs w' p (b.drop (gt b).2.1) (orf f (gt b).2.2)/\Fr p w.heap.size w w':=by
 have HS:=ae h;have HB:=ae h.bs;obtain⟨a,cap,h0,h1,h2,h3,h4,h5,h6,h7,h8,h9,nk⟩:=h.cells;obtain⟨g1,g2,g3,g4⟩:=fS b;have HG:=ae (AJ HB.o h6);clear h h6 h7 h8 h9 nk g4;generalize gt b=x at *;obtain⟨n,u,c⟩:=x;simp only at *;unfold kL at HG;go_enter Tryz.func311,Tryz.ntmps311
 go_wp2_with fail;refine HG.o.mono ?_;rintro e w1 ⟨rfl,rfl⟩;go_wp2_with fail;refine(cD HS.o c).mono ?_;rintro e w2 ⟨rfl,ei,dO⟩;obtain⟨A0,Cap,k0,k1,k2,k3,k4,k5,k6,k7,k8,k9,k10⟩:=ei.cells;obtain⟨A,hA,hSA⟩:=k9 u g2;have lA:=ae hSA;have gD:=ae (dO.set 0 (.slice A (b.length-u) (Cap-u)));clear ei dO k6 k7 k8 k9 k10 hSA h0 h1 h2 h3;go_wp2_with fail;go_ret
 exact⟨rfl,lA.o,gD.o⟩
def chX:List Nat->Nat
 | []=>0
 | x::_=>if x<=1 then x else 0
def chF(b:List Nat)(f:Nat):Nat :=
 match b with
 | []=>orf f 30
 | x::_=>if x<=1 then f else orf f 40
theorem nP(x:Nat)(t:List Nat)(f:Nat):tkB 1 (x::t)=[x]/\tkR 1 (x::t)=t/\tkF 1 (x::t) f=f:=by
 refine⟨?_,?_,?_⟩
 ·unfold tkB;rw[jde (by simp)];rfl
 ·unfold tkR;rw[jde (by simp)];rfl
 ·unfold tkF;rw[jde (by simp)]
theorem xn{w:World}{p f:Nat}{b:List Nat}(h:Rs w p b f) :
  Calls Tryz.prog 275 #[.pointer (some ⟨p,0,none⟩),.int .u8 0,.int .u8 1] w fun r w'=>r=.returned (.int .u8 (chX b:Int))/\Rs w' p b.tail (chF b f)/\Fr p w.heap.size w w':=by
 have HT:=ae (oM h 1 (by omega));have ur:=ae h.bs;have aC:=h.lt;clear h;cases b with
 | nil =>
  have HE:jfb (tkB 1 []=[]/\tkR 1 []=[]/\tkF 1 [] f=orf f 30):=⟨rfl,rfl,rfl⟩;rw[HE.o.1,HE.o.2.1,HE.o.2.2]at HT;go_enter Tryz.func275,Tryz.ntmps275
  go_wp2_with fail;refine HT.o.mono ?_;rintro e w1 ⟨⟨v1,rfl,Cz⟩,ek,dv⟩;have iO:=ae ek;have gg:=ae dv;obtain⟨a,cap,rfl,_,_⟩:=Cz.form1;rw[ap]at *;clear ek dv Cz;go_wp2_with fail;go_ret
  exact⟨rfl,iO.o,gg.o⟩
 | cons x t =>
  rw[(nP x t f).1,(nP x t f).2.1,(nP x t f).2.2]at HT;have hx:=ur.o x (by simp);go_enter Tryz.func275,Tryz.ntmps275
  go_wp2_with fail;refine HT.o.mono ?_;rintro e w1 ⟨⟨v1,rfl,Cz⟩,ek,dv⟩;have iO:=ae ek;have gg:=ae dv;obtain⟨a,cap,rfl,_,bx⟩:=Cz.form1;have hcm':cap<=9223372036854775807:=by unfold maxLen at bx;omega
  obtain⟨g,off,rfl,hg,bq⟩:=Cz.at1 (k:=0) (x:=.int .u8 (x:Int)) rfl;rw[jd9]at bq;rw[ap]at *;clear Cz bx;by_cases FZ:x<=1
  ·have HE:jfb (chX (x::t)=x/\chF (x::t) f=f):=⟨jdf FZ,jdf FZ⟩
   obtain rfl | rfl:x=0∨x=1:=by omega
   ·clear ek dv
    go_wp2_with fail;go_ret
    rw[HE.o.1,HE.o.2];exact⟨rfl,iO.o,gg.o⟩
   ·clear ek dv
    go_wp2_with fail;go_ret
    rw[HE.o.1,HE.o.2];exact⟨rfl,iO.o,gg.o⟩
  ·have HE:jfb (chX (x::t)=0/\chF (x::t) f=orf f 40):=⟨jde FZ,jde FZ⟩
   have qs:((x:Int) != 0)=true:=by
    have:(x:Int)≠0:=by omega
    simpa using this
   have XS:((x:Int) != 1)=true:=by
    have:(x:Int)≠1:=by omega
    simpa using this
   have HR:=ae (cD ek 40);clear ek dv FZ;go_wp2_with fail;refine HR.o.mono ?_;rintro e w2 ⟨rfl,ei,dO⟩;have gE:=ae ei;have gD:=ae (gg.o.trans (dO.mono gg.o.size));clear ei dO;go_wp2_with fail;go_ret
   rw[HE.o.1,HE.o.2];exact⟨rfl,gE.o,gD.o⟩
theorem td{c:Nat}{b:List Nat}(h:Bs b):Bs (tkB c b):=by
 unfold tkB;split
 ·exact fun x hx=>by simp at hx
 ·exact h.take c
theorem tY{w:World}{p f:Nat}{b:List Nat}(h:Rs w p b f)(n:Nat)(hn:n<=256) :
  Calls Tryz.prog 276 #[.pointer (some ⟨p,0,none⟩),.int .i64 (n:Int)] w fun r w'=>(∃ v,r=.returned v/\dD w' w.heap.size v (unR (tkB (by8 n) b) n 1))/\Rs w' p (tkR (by8 n) b) (orf (tkF (by8 n) b f) (unE (tkB (by8 n) b) n 1))/\Fr p w.heap.size w w':=by
 have HB:=ae h.bs;have aC:=h.lt;have hby2:((n:Int)+8-1) / 8=((by8 n:Nat):Int):=by unfold by8;omega
 have fO:by8 n<=2048:=by unfold by8;omega
 have HT:=ae (oM h (by8 n) (by omega));have Pv:=ae (td (c:=by8 n) h.bs);clear h;generalize by8 n=L at *;generalize tkB L b=tb at *;generalize tkR L b=tr at *;generalize tkF L b f=tf at *;go_enter Tryz.func276,Tryz.ntmps276
 go_wp2_with fail;refine HT.o.mono ?_;rintro e w1 ⟨⟨v1,rfl,Cz⟩,ek,dv⟩;have iO:=ae ek;have gg:=ae dv;have cY:=dv.size;have HU:=ae (tH Cz.sx Pv.o (n:Int) 1);clear ek dv Cz;go_wp2_with fail;refine HU.o.mono ?_;rintro e w2 ⟨v2,rfl,fx,aE⟩;have du:=ae (be fx cY);have bn:=aE.size;have gE:=ae (iO.o.kept aE iO.o.lt);have gD:=ae (gg.o.trans (Fr.of_below (aE.mono cY)));clear fx aE;go_wp2_with fail;refine(cD gE.o _).mono ?_;rintro e w3 ⟨rfl,ll,iz⟩;have no:=ae ll;have cZ:jfb (dD w3 w.heap.size v2 (unR tb n 1)):=ae (iz.own du.o aC);have qp:=ae (gD.o.trans (iz.mono (by omega)));clear ll iz;go_wp2_with fail;go_ret
 exact⟨⟨_,rfl,cZ.o⟩,no.o,qp.o⟩
theorem mX{w:World}{p f:Nat}{b:List Nat}(h:Rs w p b f)(n:Nat) :
  Calls Tryz.prog 278 #[.pointer (some ⟨p,0,none⟩),.int .i64 (n:Int)] w fun r w'=>(∃ v,r=.returned v/\bv w' w.heap.size v (bo b n).1)/\Rs w' p [] (orf f (bo b n).2)/\Fr p w.heap.size w w':=by
 have HS:=ae h;have aC:=h.lt;obtain⟨a,cap,h0,h1,h2,h3,h4,h5,h6,h7,h8,h9,nk⟩:=h.cells;have HR:=ae (Eg h6 h.bs (n:Int));clear h h6 h7 h8 h9 nk;unfold kC at HR;generalize bo b n=rd at *;obtain⟨l,er⟩:=rd;simp only at *;go_enter Tryz.func278,Tryz.ntmps278
 go_wp2_with fail;refine HR.o.mono ?_;rintro e w1 ⟨⟨v1,rfl,eI⟩,aH⟩;have fC:=ae eI;have iO:=ae (HS.o.kept aH aC);have gg:=ae (Fr.of_below (p:=p) aH);have cY:=aH.size;clear eI aH h0 h1 h2 h3;go_wp2_with fail;refine(cD iO.o _).mono ?_;rintro e w2 ⟨rfl,ei,dO⟩;have du:=ae (fC.o.fr dO aC);have gD:=ae (gg.o.trans (dO.mono cY));have bn:=dO.size;obtain⟨A0,Cap,k0,k1,k2,k3,k4,k5,k6,k7,k8,k9,k10⟩:=ei.cells;have no:=ae k10;have qp:=ae (gD.o.set 0 (.slice none 0 0));have cZ:=ae (du.o.fr ((Fr.refl p w2.heap.size w2).set 0 (.slice none 0 0)) aC);clear ei dO k6 k7 k8 k9 k10;go_wp2_with fail;go_ret
 exact⟨⟨_,rfl,cZ.o⟩,no.o,qp.o⟩
theorem qf{w:World}{p f:Nat}{b:List Nat}(h:Rs w p b f)(n:Nat) :
  Calls Tryz.prog 312 #[.pointer (some ⟨p,0,none⟩),.int .i64 (n:Int)] w fun r w'=>(∃ v,r=.returned v/\bv w' w.heap.size v (bo (tkB (gt b).1 (b.drop (gt b).2.1)) n).1) /\
   Rs w' p (tkR (gt b).1 (b.drop (gt b).2.1)) (orf (tkF (gt b).1 (b.drop (gt b).2.1) (orf f (gt b).2.2)) (bo (tkB (gt b).1 (b.drop (gt b).2.1)) n).2)/\Fr p w.heap.size w w':=by
 have aC:=h.lt;have HN:=ae (tX h);have g1:=(fS b).1;have FY:=ae (td (c:=(gt b).1) (h.bs.drop (gt b).2.1));clear h;generalize (gt b).1=sz at *;generalize b.drop (gt b).2.1=b1 at *;generalize orf f (gt b).2.2=f1 at *;have rP:=ae (fun(W:World) (hs:Rs W p b1 f1)=>oM hs sz g1);generalize tkB sz b1=tb at *;generalize tkR sz b1=tr at *;generalize tkF sz b1 f1=tf at *;have HRD:=ae (fun(W:World) (v:Value) (hv:Sv W v (aF .u8 tb))=>Eg hv FY.o (n:Int));unfold kC at HRD;generalize bo tb n=rd at *;obtain⟨l,er⟩:=rd;simp only at *;go_enter Tryz.func312,Tryz.ntmps312
 go_wp2_with fail;refine HN.o.mono ?_;rintro e w1 ⟨rfl,ek,dv⟩;have HT:=ae (rP.o _ ek);have gg:=ae dv;have cY:=dv.size;clear ek dv;go_wp2_with fail;refine HT.o.mono ?_;rintro e w2 ⟨⟨v2,rfl,hv2⟩,ei,dO⟩;have gE:=ae ei;have gD:=ae (gg.o.trans (dO.mono cY));have bn:=dO.size;have HR:=ae (HRD.o _ _ hv2);clear ei dO hv2;go_wp2_with fail;refine HR.o.mono ?_;rintro e w3 ⟨⟨v3,rfl,fP⟩,aQ⟩;have cZ:=ae (be fP (jdq cY bn));have no:=ae (gE.o.kept aQ gE.o.lt);have qp:=ae (gD.o.trans (Fr.of_below (aQ.mono (jdq cY bn))));have iD:=aQ.size;clear fP aQ;go_wp2_with fail;refine(cD no.o _).mono ?_;rintro e w4 ⟨rfl,xK,pE⟩;have eR:jfb (bv w4 w.heap.size v3 l):=ae (pE.own cZ.o aC);have uM:=ae xK;have xT:=ae (qp.o.trans (pE.mono (by omega)));clear xK pE;go_wp2_with fail;go_ret
 exact⟨⟨_,rfl,eR.o⟩,uM.o,xT.o⟩
end Go.Proofs.YtpljdjmpamjkhaaGreatDoor
