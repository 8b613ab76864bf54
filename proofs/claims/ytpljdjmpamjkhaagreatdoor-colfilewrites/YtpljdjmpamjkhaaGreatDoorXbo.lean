import Derived.Test.YtpljdjmpamjkhaaGreatDoorXbn
set_option linter.unusedVariables false
set_option linter.unusedSimpArgs false
set_option maxRecDepth 100000
set_option maxHeartbeats 8000000
namespace Go.Proofs.YtpljdjmpamjkhaaGreatDoor
open Go.RowKit Go.Lib
theorem BM{w:World}{v:Value}(hs:Sv w v (aL [])):Calls Tryz.prog 135 #[.int .i64 4,v] w (mI (lR []) w):=by
 obtain⟨a,cap,rfl,aW,bw⟩:=hs.form;clear hs aW bw;go_enter Tryz.func135,Tryz.ntmps135
 go_wp2_with fail;go_ret2
 exact⟨⟨_,rfl,aD.nil _ _⟩,jdv _ _⟩
theorem Fm{l:List Int}(h:0<(cH l).length):(cH l)[0]=gX l:=by
 unfold gX;revert h
 generalize cH l=u;intro h;cases u with
 | nil=>simp at h
 | cons y t=>rfl
theorem BN{w:World}{v:Value}{l:List Int}(hs:Sv w v (aL l))(hl:l.length<=256)(hi:Is l)(hp:0<l.length) :
  Calls Tryz.prog 135 #[.int .i64 4,v] w (mI (lR l) w):=by
 have HI:=ae hi;have HS:=ae hs;have PU:=ae (wH hs hl);have hup:=nE hp;have HLF:=ae (Fm hup);have HE:=ae (tM hp);have rS:=ae (hi _ (gY hp));have uD:=ae (nF (l:=l));have BR:=ae (lQ hi);have no:=fq (hi _ (gY hp));have LJ:=Gy (lQ hi);have hps:=kY (p:=di l) (x:=(wd (di l):Int)) (by rw[fX];omega);have kQ:=ae (fX l);have HG:jfp (∀ k (h:k<l.length) (h2:k<(di l).length),(di l)[k]=(l[k]-gX l).toNat):=ae (fun k h h2=>by simp[di]);have HUW:jfp (uv (wd (di l))=[wd (di l)]):=vJ (by omega);obtain⟨a,cap,rfl,aW,bw⟩:=hs.form;have uT:¬ (l.length:Int) > 256:=by omega
 have hlen0:((l.length:Int)==0)=false:=jdG.2 (by omega);clear hs hi aW bw;obtain⟨D,hD⟩:∃ D,di l=D:=⟨_,rfl⟩;rw[hD]at HE BR LJ hps kQ HG HUW;obtain⟨lo,hlo⟩:∃ lo,gX l=lo:=⟨_,rfl⟩;rw[hlo]at HE rS uD HLF HG no;clear hD hlo;go_enter Tryz.func135,Tryz.ntmps135
 go_wp2_with fail;refine PU.o.mono ?_;rintro e w1 ⟨⟨vu,rfl,ou⟩,aH⟩;have aQ:=ae aH;have cP:=aH.size;obtain⟨gu,cu,rfl,_,_⟩:=oJ ou hup;obtain⟨b',off',Ad,_,Yp⟩:=ou.sv.at hup;cases Ad
 rw[HLF.o,jej]at Yp;clear ou aH;have hup3:(0:Int)<((cH l).length:Int):=by omega
 go_wp2_with fail;go_loopw [18,19] (fun vm i wr=>∃ k:Nat,k<=l.length/\i=.int .i64 (k:Int)/\dH wr w1.heap.size vm (D.take k)/\Below w1.heap.size w1 wr) (fun _ i _=>l.length-(intOf i).toNat)
 case atStart=>exact⟨0,by omega,rfl,dH.nil _ _,jdv _ _⟩
 case round =>
  obtain⟨k,hk,rfl,hoP,hbP⟩:=hrel;have kl:=ae hoP;have YH:=ae hbP;have hzP:=hbP.size;clear hoP hbP Yp;by_cases uI:k<l.length
  ·have Kt:(k:Int)<(l.length:Int):=by omega
   have hkD:k<D.length:=by rw[kQ.o];exact uI
   obtain⟨bl,offl,rfl,fT,eQ⟩:=(HS.o.kept (aQ.o.trans (YH.o.mono cP))).at uI;have rP:=ae (jdM hkD);have hval:=HG.o k uI hkD;have h1:=HI.o.get uI;have h2:=rS.o;have h3:=uD.o _ (jdA uI);unfold I64 at h1 h2;obtain⟨X,hX⟩:∃ X,IntKind.u64.wrap l[k]=X:=⟨_,rfl⟩;obtain⟨Y,hY⟩:∃ Y,IntKind.u64.wrap lo=Y:=⟨_,rfl⟩
   have hXY:IntKind.u64.wrap (X-Y)=((D[k]:Nat):Int):=by
    rw[← hX,← hY,hval,jd0,jd0,jd0];omega
   have yv:(D.take k).length<=256:=by rw[jdC];omega
   clear hval h1 h2 h3;generalize l[k]=x at *;generalize D[k]=q at *;generalize D.take k=ys at *;have nw:=ae (kl.o.kept (de wr (.cells #[.int .u64 (q:Int)] 92)));have fd:=ae (YH.o.alloc hzP (.cells #[.int .u64 (q:Int)] 92));go_wp2_with (first | (at_builtin;refine jF rfl _ _ rfl w1.heap.size _ _ q ys rfl nw.o rfl (aK _ _ _) ?c2 ?c3 ?_))
   case c2=>omega
   case c3=>first | omega | (rw[jdx];omega)
   intro v7 w7 o7 b7;have iD:=ae o7;have io:=ae (fd.o.trans b7);clear o7 b7;go_wp2_with fail;go_roundw
   case rel=>exact⟨k+1,by omega,by go_num,by rw[rP.o];exact iD.o,io.o⟩
   case measure=>simp[intOf];omega
  ·obtain rfl:k=l.length:=by omega
   have Kt:¬ (l.length:Int)<(l.length:Int):=(by omega);rw[← kQ.o,jdE]at kl;have YI:=ae (jO kl.o.sv.sx BR.o);have PD:=ae (fun x=>mG kl.o.sv.sx BR.o x);generalize wd D=W at *;go_wp2_with fail;refine YI.o.mono ?_;rintro e w8 ⟨rfl,rfl⟩;go_wp2_with fail;refine(PD.o _).mono ?_;rintro e w9 ⟨v9,rfl,o9,pD⟩;have UJ:jfp (aD w9 w8.heap.size v9 (bi D (W:Int))):=o9;have pF:=ae (aQ.o.trans ((YH.o.trans (pD.mono hzP)).mono cP));have Yf:=pF.o.size;clear o9 pD;generalize bi D (W:Int)=PK at *;go_wp2_with fail;refine(dm rS.o _).mono ?_;rintro e w10 ⟨⟨v10,rfl,o10⟩,Cj⟩;have Qf:=ae o10;have HB910:=ae Cj;have uL:=ae (pF.o.trans (Cj.mono Yf));have hz10:=Cj.size;clear o10 Cj;have FX:=ae (cG w10 W);have PE:=ae (de w10 (.cells #[.int .u8 (W:Int)] 5));have YJ:=ae (Qf.o.kept PE.o);go_wp2_with (first | (at_builtin;refine ax rfl _ _ rfl w9.heap.size _ _ (wv lo) [W] rfl YJ.o rfl FX.o.sv ?d1 ?d2 ?_))
   case d1=>simp;omega
   case d2=>first | omega | (rw[jdx];omega)
   intro vA wA oA bA;have nw:=ae oA;have HB10A:=ae ((PE.o.mono hz10).trans bA);have jcp:=ae (HB910.o.trans HB10A.o);have HPA:=ae (UJ.o.kept jcp.o);have fd:=ae (pF.o.trans (jcp.o.mono Yf));have hzA:=jcp.o.size;clear oA bA;go_wp2_with (first | (at_builtin;refine ax rfl _ _ rfl w9.heap.size _ _ (wv lo++[W]) PK rfl nw.o rfl HPA.o.sv ?e1 ?e2 ?_))
   case e1=>simp;omega
   case e2=>omega
   intro vB wB oB bB
   have Af:jfp (aD wB w.heap.size vB (lR l)):=ae (by
    rw[HE.o,HUW.o];have:=oB.low Yf;simpa using this)
   have gm:=ae (fd.o.trans (bB.mono Yf));clear oB bB;go_wp2_with fail;go_ret2
   exact⟨⟨_,rfl,Af.o⟩,gm.o⟩
theorem Fo{w:World}{v:Value}{l:List Int}(hs:Sv w v (aL l))(hl:l.length<=256)(hi:Is l):Calls Tryz.prog 135 #[.int .i64 4,v] w (mI (lR l) w):=by
 rcases jel l.length with h0 | h0
 ·obtain rfl:l=[]:=jdV h0
  exact BM hs
 ·exact BN hs hl hi h0
theorem rM{w:World}{v:Value}{l:List Int}(hs:Sv w v (aL l))(c:Nat)(hno:¬ (c<=4/\l.length<=256)) :
  Calls Tryz.prog 135 #[.int .i64 (c:Int),v] w fun e w'=>(∃ v',e=.returned (.tuple #[v',.bool false])/\aD w' w.heap.size v' [])/\Below w.heap.size w w':=by
 obtain⟨a,cap,rfl,aW,bw⟩:=hs.form;have hm:l.length<=9223372036854775807:=by unfold maxLen at bw;omega
 clear hs aW bw;by_cases h5:(c:Int) > 4
 ·go_enter Tryz.func135,Tryz.ntmps135
  go_wp2_with fail;go_ret2
  exact⟨⟨_,rfl,aD.nil _ _⟩,jdv _ _⟩
 ·have uT:(l.length:Int) > 256:=by omega
  go_enter Tryz.func135,Tryz.ntmps135
  go_wp2_with fail;go_ret2
  exact⟨⟨_,rfl,aD.nil _ _⟩,jdv _ _⟩
theorem yt{w:World}{v:Value}{l:List Int}(hs:Sv w v (aL l))(hi:Is l)(c:Nat) :
  Calls Tryz.prog 135 #[.int .i64 (c:Int),v] w fun e w'=>(∃ v',e=.returned (.tuple #[v',.bool (decide (c<=4/\l.length<=256))])/\aD w' w.heap.size v' (Dz c l))/\Below w.heap.size w w':=by
 by_cases h:c<=4/\l.length<=256
 ·rw[jdO h]
  unfold Dz;rw[jdu h];obtain⟨h4,hl⟩:=h;obtain rfl | rfl | rfl | rfl | rfl:c=0∨c=1∨c=2∨c=3∨c=4:=by omega
  ·exact DF hs hl hi
  ·exact DG hs hl hi
  ·exact DH hs hl hi
  ·exact Fl hs hl hi
  ·exact Fo hs hl hi
 ·rw[jdK h]
  unfold Dz;rw[jdt h];exact rM hs c h
theorem Um(l:List Int)(k:Nat):bst l (k+1)=if k=0 then [k]++im k l else if (im k l).length+1<(bst l k).length then [k]++im k l else bst l k:=by
 cases k with
 | zero=>rfl
 | succ k=>rw[jdt (by omega)];rfl
theorem Fp{w:World}{v:Value}{l:List Int}(hs:Sv w v (aL l))(hl:l.length<=256)(hi:Is l) :
  Calls Tryz.prog 88 #[v] w fun e w'=>(∃ v',e=.returned (.tuple #[v',.bool true])/\aD w' w.heap.size v' (jC l 4))/\Below w.heap.size w w':=by
 have HS:=ae hs;obtain⟨a,cap,rfl,aW,bw⟩:=hs.form
 have qn:jfp (∀ k,(bst l k).length<=5131):=by
  intro k;cases k with
  | zero=>simp[bst]
  | succ k =>
   obtain⟨c,_,e⟩:=jm l k;rw[bst,e];have:=(eD c hi hl).1;simp
   omega
 have HESZ:jfp (∀ k,(im k l).length<=5130):=fun k=>(eD k hi hl).1
 have HEN:jfp (∀ W (k:Nat),k<=4->Sv W (.slice a l.length cap) (aL l)->Calls Tryz.prog 135 #[.int .i64 (k:Int),.slice a l.length cap] W fun e w'=>(∃ v',e=.returned (.tuple #[v',.bool true])/\aD w' W.heap.size v' (im k l))/\Below W.heap.size W w'):=ae (fun W k hk h=>by
  have:=yt h hi k;rwa[jdO (⟨hk,hl⟩:k<=4/\l.length<=256),show Dz k l=im k l from jdu ⟨hk,hl⟩]at this)
 clear hs aW bw hi;go_enter Tryz.func88,Tryz.ntmps88
 go_wp2_with fail;go_loopw [4,5] (fun b i wr=>∃ k:Nat,k<=5/\i=.int .i64 (k:Int)/\aD wr w.heap.size b (bst l k)/\Below w.heap.size w wr) (fun _ i _=>5-(intOf i).toNat)
 case atStart=>exact⟨0,by omega,rfl,aD.nil _ _,jdv _ _⟩
 case round =>
  obtain⟨k,hk,rfl,aA,az⟩:=hrel;have HO:=ae aA;have HB:=ae az;have bF:=az.size;obtain⟨ab,cb,rfl⟩:=aA.len;have fT:=qn.o k;have hel:=HESZ.o k;have HT:=ae (Um l k);clear aA az;by_cases hk5:(k:Int)<5
  ·have HENk:=ae (HEN.o wr k (by omega) (HS.o.kept HB.o))
   generalize bst l k=B0 at *;generalize im k l=EC at *;go_wp2_with fail;refine HENk.o.mono ?_;rintro e w3 ⟨⟨v3,rfl,fA⟩,aS⟩;have dh:=ae fA;have bP:=ae (HB.o.trans (aS.mono bF));have Af:=ae (HO.o.kept aS);have iH:=bP.o.size;obtain⟨a3,c3,rfl⟩:=fA.len;clear fA aS;have nl:=ae (cG w3 k);have fd:=ae (de w3 (.cells #[.int .u8 (k:Int)] 5));have QI:=ae (dh.o.kept fd.o);by_cases ql:((k:Int)==0)=true
   ·have hk0':k=0:=by simpa using ql
    have FK:jfp (bst l (k+1)=[k]++EC):=ae (by rw[HT.o,jdu hk0']);clear hk0';go_wp2_with (first | (at_builtin;refine ax rfl _ _ rfl w3.heap.size _ _ [k] EC rfl nl.o rfl QI.o.sv ?c1 ?c2 ?_))
    case c1=>simp;omega
    case c2=>first | omega | (rw[jdx];omega)
    intro v4 w4 o4 b4;have eR:=ae (o4.low iH);have cx:=ae (bP.o.trans ((fd.o.trans b4).mono iH));clear o4 b4;go_wp2_with fail;go_roundw
    case rel=>exact⟨k+1,by omega,by go_num,by rw[FK.o];exact eR.o,cx.o⟩
    case measure=>simp[intOf];omega
   ·have hk0f:((k:Int)==0)=false:=by simpa using ql
    have hk0':¬ k=0:=by simpa using ql
    by_cases aB:EC.length+1<B0.length
    ·have FK:jfp (bst l (k+1)=[k]++EC):=ae (by rw[HT.o,jdt hk0',jdu aB])
     have Cc:(EC.length:Int)+1<(B0.length:Int):=(by omega);clear hk0' ql aB;go_wp2_with (first | (at_builtin;refine ax rfl _ _ rfl w3.heap.size _ _ [k] EC rfl nl.o rfl QI.o.sv ?c1 ?c2 ?_))
     case c1=>simp;omega
     case c2=>first | omega | (rw[jdx];omega)
     intro v4 w4 o4 b4;have eR:=ae (o4.low iH);have cx:=ae (bP.o.trans ((fd.o.trans b4).mono iH));clear o4 b4;go_wp2_with fail;go_roundw
     case rel=>exact⟨k+1,by omega,by go_num,by rw[FK.o];exact eR.o,cx.o⟩
     case measure=>simp[intOf];omega
    ·have FK:jfp (bst l (k+1)=B0):=ae (by rw[HT.o,jdt hk0',jdt aB])
     have Cc:¬ (EC.length:Int)+1<(B0.length:Int):=(by omega);clear hk0' ql aB;go_wp2_with fail;go_roundw
     case rel=>exact⟨k+1,by omega,by go_num,by rw[FK.o];exact Af.o,bP.o⟩
     case measure=>simp[intOf];omega
  ·obtain rfl:k=5:=by omega
   go_wp2_with fail;go_ret2
   exact⟨⟨_,rfl,HO.o⟩,HB.o⟩
theorem Ka{w:World}{v:Value}{l:List Int}(hs:Sv w v (aL l))(hi:Is l)(hl:¬ l.length<=256) :
  Calls Tryz.prog 88 #[v] w fun e w'=>(∃ v',e=.returned (.tuple #[v',.bool false])/\aD w' w.heap.size v' [])/\Below w.heap.size w w':=by
 have HEN:=ae (rM hs 0 (fun h=>hl h.2));clear hs hi hl;go_enter Tryz.func88,Tryz.ntmps88
 go_wp2_with fail;refine wp_loop_rounds 1 ?_;rw[rounds_succ];go_wp2_with fail;refine HEN.o.mono ?_;rintro e w3 ⟨⟨v3,rfl,fA⟩,aS⟩;go_wp2_with fail;go_ret2
 exact⟨⟨_,rfl,aD.nil _ _⟩,aS⟩
theorem jv{w:World}{v:Value}{l:List Int}(hs:Sv w v (aL l))(hi:Is l) :
  Calls Tryz.prog 88 #[v] w fun e w'=>(∃ v',e=.returned (.tuple #[v',.bool (decide (l.length<=256))])/\aD w' w.heap.size v' (DR l))/\Below w.heap.size w w':=by
 unfold DR;by_cases h:l.length<=256
 ·rw[jdO h,jdu h]
  exact Fp hs h hi
 ·rw[jdK h,jdt h]
  exact Ka hs hi h
def rN(x:List Nat)(u pre:List (List Nat))(d:Bool)(k:Nat):Prop:=pre++(if d then u.drop k else jD x (u.drop k))=jD x u
theorem rN.step{x:List Nat}{u pre:List (List Nat)}{d:Bool}{k:Nat}(h:rN x u pre d k)(hk:k<u.length) :
  (d=true->rN x u (pre++[u[k]]) true (k+1))/\(d=false->u[k]=x->rN x u (pre++[u[k]]) true (k+1))/\(d=false->x<u[k]->rN x u ((pre++[x])++[u[k]]) true (k+1))/\(d=false->u[k]≠x->¬ x<u[k]->rN x u (pre++[u[k]]) false (k+1)):=by
 unfold rN at *;rw[jec hk]at h;refine⟨fun hd=>?_,fun hd he=>?_,fun hd he=>?_,fun hd he hn=>?_⟩
 ·subst hd
  rw[jdu rfl]at h ⊢;rw[← h];simp
 ·subst hd
  rw[jdt (by simp),jD,jdu he.symm]at h;rw[jdu rfl,← h];simp
 ·subst hd
  rw[jdt (by simp),jD,jdt (fun e=>je3 u[k] (by rw[e]at he;exact he)),jdu he]at h;rw[jdu rfl,← h];simp
 ·subst hd
  rw[jdt (by simp),jD,jdt (fun e=>he e.symm),jdt hn]at h;rw[jdt (by simp),← h];simp
theorem rN.last{x:List Nat}{u pre:List (List Nat)}{d:Bool}(h:rN x u pre d u.length):(d=true->pre=jD x u)/\(d=false->pre++[x]=jD x u):=by
 unfold rN at h;rw[jer]at h;refine⟨fun hd=>?_,fun hd=>?_⟩
 ·subst hd
  simpa using h
 ·subst hd
  simpa [jD]using h
theorem rN.len{x:List Nat}{u pre:List (List Nat)}{d:Bool}{k:Nat}(h:rN x u pre d k):pre.length<=u.length+1:=by
 unfold rN at h;have h1:=jdB List.length h;have h2:=nG (x:=x) (u:=u);rw[jdy]at h1;omega
theorem ud{w:World}{v:Value}{l:List (List Nat)}(hs:Sv w v (cC l))(hl:l.length<=256)(hb:∀ s∈l,Bs s) :
  Calls Tryz.prog 89 #[v] w fun e w'=>(∃ v',e=.returned v'/\eF w' w.heap.size v' (tuq l))/\Below w.heap.size w w':=by
 have HS:=ae hs;have uK:=ae hb;obtain⟨a,cap,rfl,aW,bw⟩:=hs.form1;rw[dL]at *;have hcm':cap<=9223372036854775807:=by unfold maxLen at bw;omega
 clear hs bw hb;go_enter Tryz.func89,Tryz.ntmps89
 go_wp2_with fail;go_loopw [3,4] (fun vo i wr=>∃ k:Nat,k<=l.length/\i=.int .i64 (k:Int)/\eF wr w.heap.size vo (tuq (l.take k))/\Below w.heap.size w wr) (fun _ i _=>l.length-(intOf i).toNat)
 case atStart=>exact⟨0,by omega,rfl,eF.nil _ _,jdv _ _⟩
 case round =>
  obtain⟨i,hi,rfl,how,az⟩:=hrel;have HO:=ae how;have HB:=ae az;have bF:=az.size;obtain⟨ao,co,rfl,hco,hcom⟩:=aM how;have hcom':co<=9223372036854775807:=by unfold maxLen at hcom;omega
  clear how az;by_cases aB:i<l.length
  ·have oZ:(i:Int)<(l.length:Int):=by omega
   have HU:=ae (xX aB);have uE:=fL (l.take i);rw[jdC]at uE;obtain⟨bl,offl,rfl,fT,eQ⟩:=(HS.o.kept HB.o).at1 (cM aB);rw[dJ]at eQ;have ms:=ae (uK.o l[i] (jdA aB));have HBU:jfp (∀ s∈tuq (l.take i),Bs s):=ae (fun s hs=>uK.o s (jek (jf.1 hs)));generalize l[i]=x at *;generalize tuq (l.take i)=u at *;have UN:u.length<=256:=(by omega);generalize wr=W1 at *;go_wp2_with fail;go_loopw [5,6,7] (fun vn vd j wq=>∃(k:Nat) (pre:List (List Nat)) (d:Bool),k<=u.length/\j=.int .i64 (k:Int)/\vd=.bool d/\eF wq W1.heap.size vn pre/\rN x u pre d k/\Below W1.heap.size W1 wq) (fun _ _ j _=>u.length-(intOf j).toNat)
   case atStart=>exact⟨0,[],false,by omega,rfl,rfl,eF.nil _ _,rfl,jdv _ _⟩
   case round =>
    obtain⟨k,pre,d,hk,rfl,rfl,hon,hia,yC⟩:=hrel;have Ac:=ae hon;have HIA:=ae hia;have pb:=ae yC;have yA:=yC.size;have kN:=hia.len;obtain⟨an,cn,rfl,_,_⟩:=aM hon;clear hon hia yC;have fd:jfp (∀ n z,Below W1.heap.size W1 ((wr.drewN n).alloc (.cells #[.string (ak z)] 9))):=fun n z=>(ap pb.o n).alloc yA _
    have Ku:jfp (∀ n z,W1.heap.size<=((wr.drewN n).alloc (.cells #[.string (ak z)] 9)).heap.size):=fun n z=>by rw[jdx];exact Nat.le_succ_of_le yA
    have nw:jfp (∀ n z,eF ((wr.drewN n).alloc (.cells #[.string (ak z)] 9)) W1.heap.size (.slice an pre.length cn) pre):=fun n z=>(Ac.o.kept (ap (jdv _ _) n)).kept (de _ _)
    by_cases pC:k<u.length
    ·have jbw:(k:Int)<(u.length:Int):=by omega
     obtain⟨b2,off2,Ad,aE,FF⟩:=HO.o.sv.at1 (cM pC);rw[dJ]at FF;have Ct:=ae (HBU.o u[k] (jdA pC));cases Ad
     have jT:=(pb.o.cell (p:=⟨b2,off2+k,none⟩) aE).trans FF;have jbx:=(pb.o.cell (p:=⟨bl,offl+i,none⟩) fT).trans eQ;have HSt:=ae (HIA.o.step pC);have jby:=ae FF;clear HIA FF;generalize u[k]=y at *
     have Ga:jfp (((ak y).toList==(ak x).toList)=decide (y=x)):=ae (by
      rw[bE,bE];by_cases e:y=x
      ·rw[e];simp
      ·rw[jdK e]
       exact jdG.2 (fun h=>e (by rw[← ft Ct.o,← ft ms.o,h])))
     have FX:jfp (Op.bytesLess (ak x).toList (ak y).toList=decide (x<y)):=ae (by
      rw[bE,bE];exact nC ms.o Ct.o)
     cases d with
     | true =>
      have rX:=ae (HSt.o.1 rfl);by_cases xJ:y=x
      ·have Kv:((ak y).toList==(ak x).toList)=true:=Ga.o.trans (jdO xJ)
       clear xJ;go_wp2_with fail;go_quiet (fail)
       go_wp2_with fail;go_quiet (fail)
       go_wp2_with (first | (at_builtin;refine bY rfl _ _ rfl W1.heap.size _ _ y pre rfl (nw.o _ y) rfl (aK _ _ _) ?c2 ?c3 ?_))
       case c2=>omega
       case c3=>first | omega | exact Ku.o _ _
       intro v7 w7 o7 b7;have iD:=ae o7;have io:=ae ((fd.o _ y).trans b7);clear o7 b7;go_wp2_with fail;go_roundw
       case rel=>exact⟨k+1,_,true,by omega,by go_num,rfl,iD.o,rX.o,io.o⟩
       case measure=>simp[intOf];omega
      ·have jbz:((ak y).toList==(ak x).toList)=false:=Ga.o.trans (jdK xJ)
       clear xJ;go_wp2_with fail;go_quiet (fail)
       go_wp2_with fail;go_quiet (fail)
       go_wp2_with (first | (at_builtin;refine bY rfl _ _ rfl W1.heap.size _ _ y pre rfl (nw.o _ y) rfl (aK _ _ _) ?c2 ?c3 ?_))
       case c2=>omega
       case c3=>first | omega | exact Ku.o _ _
       intro v7 w7 o7 b7;have iD:=ae o7;have io:=ae ((fd.o _ y).trans b7);clear o7 b7;go_wp2_with fail;go_roundw
       case rel=>exact⟨k+1,_,true,by omega,by go_num,rfl,iD.o,rX.o,io.o⟩
       case measure=>simp[intOf];omega
     | false =>
      by_cases xJ:y=x
      ·have rX:=ae (HSt.o.2.1 rfl xJ)
       have Kv:((ak y).toList==(ak x).toList)=true:=Ga.o.trans (jdO xJ);clear xJ;go_wp2_with fail;go_quiet (fail)
       go_wp2_with fail;go_quiet (fail)
       go_wp2_with (first | (at_builtin;refine bY rfl _ _ rfl W1.heap.size _ _ y pre rfl (nw.o _ y) rfl (aK _ _ _) ?c2 ?c3 ?_))
       case c2=>omega
       case c3=>first | omega | exact Ku.o _ _
       intro v7 w7 o7 b7;have iD:=ae o7;have io:=ae ((fd.o _ y).trans b7);clear o7 b7;go_wp2_with fail;go_roundw
       case rel=>exact⟨k+1,_,true,by omega,by go_num,rfl,iD.o,rX.o,io.o⟩
       case measure=>simp[intOf];omega
      ·have jbz:((ak y).toList==(ak x).toList)=false:=Ga.o.trans (jdK xJ)
       have Kw:y≠x:=xJ;clear xJ;by_cases Cn:x<y
       ·have jbA:Op.bytesLess (ak x).toList (ak y).toList=true:=FX.o.trans (jdO Cn)
        have rX:=ae (HSt.o.2.2.1 rfl Cn);clear Kw Cn;go_wp2_with fail;go_quiet (fail)
        go_wp2_with fail;go_quiet (fail)
        go_wp2_with (first | (at_builtin;refine bY rfl _ _ rfl W1.heap.size _ _ x pre rfl (nw.o _ x) rfl (aK _ _ _) ?c2 ?c3 ?_))
        case c2=>omega
        case c3=>first | omega | exact Ku.o _ _
        intro v6 w6 o6 b6;have mT:=ae o6;have ja:=ae ((fd.o _ x).trans b6);have hc6:=(ja.o.cell (p:=⟨b2,off2+k,none⟩) aE).trans jby.o;have FD:=ja.o.size;have Af:=ae (o6.kept (de w6 (.cells #[.string (ak y)] 9)));clear o6 b6;go_wp2_with (first | (at_builtin;refine bY rfl _ _ rfl W1.heap.size _ _ y (pre++[x]) rfl Af.o rfl (aK _ _ _) ?c2 ?c3 ?_))
        case c2=>simp;omega
        case c3=>first | omega | (rw[jdx];omega)
        intro v7 w7 o7 b7;have o7':eF w7 W1.heap.size v7 (pre++[x]++[y]):=by simpa using o7
        have iD:=ae o7';have io:=ae ((ja.o.alloc FD (.cells #[.string (ak y)] 9)).trans b7);clear o7 o7' b7;go_wp2_with fail;go_roundw
        case rel=>exact⟨k+1,_,true,by omega,by go_num,rfl,iD.o,rX.o,io.o⟩
        case measure=>simp[intOf];omega
       ·have jbA:Op.bytesLess (ak x).toList (ak y).toList=false:=FX.o.trans (jdK Cn)
        have rX:=ae (HSt.o.2.2.2 rfl Kw Cn);clear Kw Cn;go_wp2_with fail;go_quiet (fail)
        go_wp2_with fail;go_quiet (fail)
        go_wp2_with (first | (at_builtin;refine bY rfl _ _ rfl W1.heap.size _ _ y pre rfl (nw.o _ y) rfl (aK _ _ _) ?c2 ?c3 ?_))
        case c2=>omega
        case c3=>first | omega | exact Ku.o _ _
        intro v7 w7 o7 b7;have iD:=ae o7;have io:=ae ((fd.o _ y).trans b7);clear o7 b7;go_wp2_with fail;go_roundw
        case rel=>exact⟨k+1,_,false,by omega,by go_num,rfl,iD.o,rX.o,io.o⟩
        case measure=>simp[intOf];omega
    ·obtain rfl:k=u.length:=by omega
     have jbw:¬ (u.length:Int)<(u.length:Int):=(by omega);have Yi:=ae HIA.o.last;cases d with
     | true =>
      have e:=Yi.o.1 rfl;have jbB:jfp (eF wr w.heap.size (.slice an pre.length cn) (tuq (l.take (i+1)))):=ae (by rw[HU.o,← e];exact be Ac.o bF);clear e;go_wp2_with fail;go_roundw
      case rel=>exact⟨i+1,by omega,by go_num,jbB.o,HB.o.trans (pb.o.mono bF)⟩
      case measure=>simp[intOf];omega
     | false =>
      have HE:=ae (Yi.o.2 rfl);have jbx:=(pb.o.cell (p:=⟨bl,offl+i,none⟩) fT).trans eQ;have yD:=ae (Ac.o.kept (de wr (.cells #[.string (ak x)] 9)));have yE:=ae (pb.o.alloc yA (.cells #[.string (ak x)] 9));go_wp2_with (first | (at_builtin;refine bY rfl _ _ rfl W1.heap.size _ _ x pre rfl yD.o rfl (aK _ _ _) ?c2 ?c3 ?_))
      case c2=>omega
      case c3=>first | omega | (rw[jdx];omega)
      intro v7 w7 o7 b7;have iD:jfp (eF w7 w.heap.size v7 (tuq (l.take (i+1)))):=ae (by rw[HU.o,← HE.o];exact be o7 bF);have io:=ae (HB.o.trans ((yE.o.trans b7).mono bF));clear o7 b7;go_wp2_with fail;go_roundw
      case rel=>exact⟨i+1,by omega,by go_num,iD.o,io.o⟩
      case measure=>simp[intOf];omega
  ·obtain rfl:i=l.length:=by omega
   have oZ:¬ (l.length:Int)<(l.length:Int):=(by omega);rw[jdE]at HO;go_wp2_with fail;go_ret
   exact⟨⟨_,rfl,HO.o⟩,HB.o⟩
def Ap(a b:Value):Prop:=∀ g,a.ownBlock=some g->b.ownBlock≠some g
theorem Ap.symm{a b:Value}(h:Ap a b):Ap b a:=fun g hg h2=>h g h2 hg
theorem Ap.of_types{w:World}{B B' e e' n n':Nat}{v v':Value}{xs xs':List Value}(h:w.ownsRow B e 1 v n xs)(h':w.ownsRow B' e' 1 v' n' xs')(fF:e≠e'):Ap v v':=by
 intro g hg hg';obtain⟨_,⟨rfl,_⟩ | ⟨k,cap,cur,rfl,_,h3,_⟩⟩:=h
 ·cases hg
 ·obtain⟨_,⟨rfl,_⟩ | ⟨k',cap',cur',rfl,_,h3',_⟩⟩:=h'
  ·cases hg'
  ·cases hg
   cases hg'
   rw[h3]at h3';cases h3'
   exact fF rfl
theorem dA{W w':World}{B e n:Nat}{v u:Value}{xs:List Value}(h:W.ownsRow B e 1 v n xs)(hg:W.grownBy w' u.ownBlock)(ha:Ap v u):w'.ownsRow B e 1 v n xs:=by
 refine h.kept hg ?_;cases hv:v.ownBlock with
 | none=>exact Or.inl rfl
 | some g=>exact Or.inr (fun e=>ha g hv e.symm)
theorem Ap.grow{a a' b:Value}{n:Nat}(h:Ap a b)(hn:a'.ownBlock=a.ownBlock∨a'.ownBlock=some n)(hb:∀ k,b.ownBlock=some k->k<n):Ap a' b:=by
 intro g hg ik;rcases hn with hn | hn
 ·exact h g (by rw[← hn];exact hg) ik
 ·have e:n=g:=Option.some.inj (hn.symm.trans hg)
  have:=hb g ik;omega
theorem mr{w:World}{ops:Array Oper}{rest:List Oper}{o:Oper}{a:Act}{Q:Exit->Act->World->Prop}(ex:o.guard=none)(s x:Operand)
  (ho:o.op=.call { callee:=.builtin .append,args:=#[s,x],argTypes:=#[143,143] })
  (base:Nat) (v:Value) (g:Nat) (z:Int) (l0:List Int) (hs:a.eval s=v) (aA:bC w base v l0) (hx:a.eval x=.slice (some ⟨g,0,none⟩) 1 1) (hc:w.cell? ⟨g,0,none⟩=some (.int .i64 z))
  (hbytes:l0.length<=100000) (aJ:base<=w.heap.size)
  (h:∀ v' w',bC w' base v' (l0++[z])->w.grownBy w' v.ownBlock->wpList Tryz.prog ops Q rest (a.put o.dst v') w') :
  wpList Tryz.prog ops Q (o::rest) a w:=by
 obtain⟨i0,hi,ct,hz1',bv⟩:=jdP zw;unfold bC at *
 refine jeb (w:=w) ex s x 143 ho base 2 i0 (.int .i64 0) 1 8 Tryz.underlying143 hi ct hz1' bv rfl (by decide) v l0.length (aL l0) hs aA ⟨g,0,none⟩ 1 1 [.int .i64 z] hx rfl ?_ (fun u hu=>by
  have:u=.int .i64 z:=by simpa using hu
  subst this;rfl) (by unfold maxLen;omega) (by omega) aJ ?_
 ·intro j u hu
  rw[mv];cases j with
  | zero =>
   simp only[List.getElem?_cons_zero,Option.some.injEq]at hu;rw[← hu];exact hc
  | succ j=>simp at hu
 ·intro v' w' o1 g1 _ _
  refine h v' w' ?_ g1;rw[qR,jdy];exact o1
theorem iZ{w:World}{ops:Array Oper}{rest:List Oper}{o:Oper}{a:Act}{Q:Exit->Act->World->Prop}(ex:o.guard=none)(s x:Operand)
  (ho:o.op=.call { callee:=.builtin .append,args:=#[s,x],argTypes:=#[142,142] })
  (base:Nat) (v:Value) (g:Nat) (z:Nat) (l0:List Nat) (hs:a.eval s=v) (aA:dH w base v l0) (hx:a.eval x=.slice (some ⟨g,0,none⟩) 1 1) (hc:w.cell? ⟨g,0,none⟩=some (.int .u64 (z:Int)))
  (hbytes:l0.length<=100000) (aJ:base<=w.heap.size)
  (h:∀ v' w',dH w' base v' (l0++[z])->w.grownBy w' v.ownBlock->(v'.ownBlock=v.ownBlock∨v'.ownBlock=some w.heap.size)->wpList Tryz.prog ops Q rest (a.put o.dst v') w') :
  wpList Tryz.prog ops Q (o::rest) a w:=by
 obtain⟨i0,hi,ct,hz1',bv⟩:=jdP pM;unfold dH at *
 refine jeb (w:=w) ex s x 142 ho base 92 i0 (.int .u64 0) 1 8 Tryz.underlying142 hi ct hz1' bv rfl (by decide) v l0.length (aF .u64 l0) hs aA ⟨g,0,none⟩ 1 1 [.int .u64 (z:Int)] hx rfl ?_ (fun u hu=>by
  have:u=.int .u64 (z:Int):=by simpa using hu
  subst this;rfl) (by unfold maxLen;omega) (by omega) aJ ?_
 ·intro j u hu
  rw[mv];cases j with
  | zero =>
   simp only[List.getElem?_cons_zero,Option.some.injEq]at hu;rw[← hu];exact hc
  | succ j=>simp at hu
 ·intro v' w' o1 g1 _ g2
  refine h v' w' ?_ g1 g2;rw[cd,jdy];exact o1
theorem rO{w:World}{ops:Array Oper}{rest:List Oper}{o:Oper}{a:Act}{Q:Exit->Act->World->Prop}(ex:o.guard=none)(s x:Operand)
  (ho:o.op=.call { callee:=.builtin .append,args:=#[s,x],argTypes:=#[144,144] })
  (base:Nat) (v:Value) (g:Nat) (z:List Nat) (l0:List (List Nat)) (hs:a.eval s=v) (aA:eF w base v l0) (hx:a.eval x=.slice (some ⟨g,0,none⟩) 1 1) (hc:w.cell? ⟨g,0,none⟩=some (txt z))
  (hbytes:l0.length<=100000) (aJ:base<=w.heap.size)
  (h:∀ v' w',eF w' base v' (l0++[z])->w.grownBy w' v.ownBlock->wpList Tryz.prog ops Q rest (a.put o.dst v') w') :
  wpList Tryz.prog ops Q (o::rest) a w:=by
 obtain⟨i0,hi,ct,hz1',bv⟩:=jdP YZ;unfold eF at *
 refine jeb (w:=w) ex s x 144 ho base 9 i0 (.string ⟨#[]⟩) 1 16 Tryz.underlying144 hi ct hz1' bv rfl (by decide) v l0.length (cC l0) hs aA ⟨g,0,none⟩ 1 1 [txt z] hx rfl ?_ (fun u hu=>by
  have:u=txt z:=by simpa using hu
  subst this;rfl) (by unfold maxLen;omega) (by omega) aJ ?_
 ·intro j u hu
  rw[mv];cases j with
  | zero =>
   simp only[List.getElem?_cons_zero,Option.some.injEq]at hu;rw[← hu];exact hc
  | succ j=>simp at hu
 ·intro v' w' o1 g1 _ _
  refine h v' w' ?_ g1;rw[pt,jdy];exact o1
theorem tj{w:World}{ops:Array Oper}{rest:List Oper}{o:Oper}{a:Act}{Q:Exit->Act->World->Prop}(ex:o.guard=none)(s x:Operand)
  (ho:o.op=.call { callee:=.builtin .append,args:=#[s,x],argTypes:=#[30,9] })
  (base:Nat) (v:Value) (l0 z:List Nat) (hs:a.eval s=v) (aA:aD w base v l0) (hx:a.eval x=.string (ak z)) (hz:Bs z)
  (hbytes:l0.length+z.length<=140737488355328) (aJ:base<=w.heap.size)
  (h:∀ v' w',aD w' base v' (l0++z)->w.grownBy w' v.ownBlock->wpList Tryz.prog ops Q rest (a.put o.dst v') w') :
  wpList Tryz.prog ops Q (o::rest) a w:=by
 obtain⟨i0,hi,ct,hz1',bv⟩:=jdP jk;unfold aD at *;refine wpList_append_own_string (w:=w) ex s x 30 9 ho base 5 i0 Tryz.underlying30 Tryz.underlying9 hi ct hz1' bv v l0.length (aF .u8 l0) hs aA (ak z) hx (by rw[bg];unfold maxLen;omega) (by rw[bg];exact hbytes) aJ ?_;intro v' w' o1 g1 _;refine h v' w' ?_ g1;rw[bg]at o1
 have e:strCells (ak z)=aF .u8 z:=by
  unfold strCells ak aF;simp only[jd8];apply jeq
  intro y hy;have:=hz y hy;simp[jen this]
 rw[e]at o1;rw[cd,jdy];exact o1
theorem tk{w:World}{v:Value}{l:List Nat}(hs:Sv w v (aF .u64 l))(h2:∀ x∈l,x<18446744073709551616):Calls Tryz.prog 87 #[v] w (dw w (bi l 1)):=by
 have HB:=ae (mG hs.sx h2 1);clear hs h2;generalize bi l 1=bs at *;generalize can l 1=bb at *;go_enter Tryz.func87,Tryz.ntmps87
 go_wp2_with fail;refine HB.o.mono ?_;rintro e w1 ⟨v1,rfl,eH,aH⟩;have eY:=ae eH;have aQ:=ae aH;clear eH aH;go_wp2_with fail;go_ret
 exact⟨⟨_,rfl,eY.o⟩,aQ.o⟩
theorem xx{w:World}{v:Value}{l:List Int}(hs:Sv w v (aL l))(hl:l.length<=256)(hi:Is l):Calls Tryz.prog 136 #[v] w (dw w (cnt l)):=by
 have HB:=ae (jv hs hi);rw[kg hl]at HB;have bR:=gI hi hl;have kP:jfp (cnt l=uv (cQ l).length++cQ l):=rfl;clear hs hi;generalize cnt l=cn at *;generalize cQ l=bs at *;have no:=bM (n:=bs.length) (by omega);have HP:=ae (bG bs.length (by omega));go_enter Tryz.func136,Tryz.ntmps136
 go_wp2_with fail;refine HB.o.mono ?_;rintro e w1 ⟨⟨v1,rfl,eH⟩,aH⟩;have eY:=ae eH;have aQ:=ae aH;have cP:=aH.size;obtain⟨a1,c1,rfl⟩:=eH.len;clear eH aH;go_wp2_with fail;refine(HP.o _).mono ?_;rintro e w2 ⟨⟨v2,rfl,eZ⟩,aE⟩;have du:=ae (eZ.low cP);have aO:=ae aE;have bv:=aE.size;clear eZ aE;go_wp2_with (first | (at_builtin;refine ax rfl _ _ rfl w.heap.size _ _ (uv bs.length) bs rfl du.o rfl (eY.o.kept aO.o).sv ?c1 ?c2 ?_))
 case c1=>omega
 case c2=>omega
 intro v4 w4 o4 b4;have eR:=ae o4;have cx:=ae ((aQ.o.trans (aO.o.mono cP)).trans b4);clear o4 b4;go_wp2_with fail;go_ret
 rw[kP.o];exact⟨⟨_,rfl,eR.o⟩,cx.o⟩
theorem uC{l:List (List Nat)}{k:Nat}(h:k<l.length):ec (l.take (k+1))=ec (l.take k)++[((ak l[k]).size:Int)]:=by
 unfold ec;rw[jdM h,jdQ,bg];rfl
theorem jR{w:World}{v:Value}{l:List (List Nat)}(hs:Sv w v (cC l))(hl:l.length<=256)(ht:Ts l):Calls Tryz.prog 90 #[v] w (dw w (fC l)):=by
 have HS:=ae hs;have HT:=ae ht;obtain⟨a,cap,rfl,aW,bw⟩:=hs.form1;rw[dL]at *;have hcm':cap<=9223372036854775807:=by unfold maxLen at bw;omega
 have Zx:jfp (fC l=cnt (ec l)++l.flatten):=rfl;have LQ:=ae (fun k=>iV ht hl k);have HSI:=ae (gZ ht)
 have eQ:(cnt (ec l)).length<=5141:=by
  have h1:=gI (gZ ht) (by rw[bJ];exact hl);have h2:=bM (n:=(cQ (ec l)).length) (by omega);unfold cnt;rw[jdy];omega
 have kj:=iV ht hl l.length;rw[jdE]at kj;clear hs bw ht;generalize fC l=TX at *;go_enter Tryz.func90,Tryz.ntmps90
 go_wp2_with fail;go_loopw [3,4,5] (fun o q i wr=>∃ j:Nat,j<=l.length/\i=.int .i64 (j:Int)/\bC wr w.heap.size o (ec (l.take j))/\aD wr w.heap.size q (l.take j).flatten/\Below w.heap.size w wr) (fun _ _ i _=>l.length-(intOf i).toNat)
 case atStart=>exact⟨0,by omega,rfl,bC.nil _ _,aD.nil _ _,jdv _ _⟩
 case round =>
  obtain⟨j,hj,rfl,aA,ZV,az⟩:=hrel;have HO:=ae aA;have Af:=ae ZV;have HB:=ae az;have bF:=az.size;clear aA ZV az;by_cases aB:j<l.length
  ·obtain⟨g,off,rfl,hg,br⟩:=HS.o.at1 (cM aB)
   rw[dJ]at br;have HCE:=ae br;have jcr:=(HB.o.cell (p:=⟨g,off+j,none⟩) hg).trans br;have hlt':(j:Int)<(l.length:Int):=(by omega);have HZS:=ae (uC aB);have tq:=ae (li aB);have hlen':(ec (l.take j)).length<=100000:=by rw[bJ,jdC];omega
   have rU:=LQ.o j;obtain⟨Kg,XZ⟩:=HT.o _ (jdA aB);have xQ:=ae XZ;clear br XZ;generalize l[j]=x at *;generalize hfj:(l.take j).flatten=FJ at *;generalize ec (l.take j)=SJ at *;clear hfj;go_wp2_with (first | (at_builtin;refine mr rfl _ _ rfl w.heap.size _ _ ((ak x).size:Int) SJ rfl (HO.o.kept (am _ _)) rfl (aK _ _ _) hlen' ?c2 ?_))
   case c2=>first | omega | (rw[jdx];omega)
   intro v5 w5 o5 g5;have hob:aD wr w.heap.size _ FJ:=Af.o;have LK:=Ap.of_types hob HO.o (by decide);have Vz:=ae (show aD w5 w.heap.size _ FJ from dA (bL hob (am wr (.cells #[.int .i64 ((ak x).size:Int)] 2))) g5 LK);have dE:=ae o5;have bD:Below w.heap.size w w5:=(HB.o.alloc bF (.cells #[.int .i64 ((ak x).size:Int)] 2)).grown g5 (by rw[jdx];omega) (fun k hk=>(HO.o.lt k hk).1);have aR:=ae bD;have uF:=bD.size;have hcell5:=(bD.cell (p:=⟨g,off+j,none⟩) hg).trans HCE.o;clear o5 g5 hob LK bD jcr;go_wp2_with (first | (at_builtin;refine tj rfl _ _ rfl w.heap.size _ FJ x rfl Vz.o rfl xQ.o ?d1 ?d2 ?_))
   case d1=>omega
   case d2=>omega
   intro v6 w6 o6 g6;have LK:=Ap.of_types dE.o Vz.o (by decide);have mT:=ae (show bC w6 w.heap.size v5 (SJ++[((ak x).size:Int)]) from dA dE.o g6 LK);have HOB6:=ae o6;have ja:=ae (aR.o.grown g6 uF (fun k hk=>(Vz.o.lt k hk).1));clear o6 g6 LK;go_wp2_with fail;go_roundw
   case rel=>exact⟨j+1,by omega,by go_num,by rw[HZS.o];exact mT.o,by rw[tq.o];exact HOB6.o,ja.o⟩
   case measure=>simp[intOf];omega
  ·obtain rfl:j=l.length:=by omega
   rw[jdE]at HO Af;have gj:¬ ((l.length:Nat):Int)<(l.length:Int):=(by omega);have HCT:=ae (xx HO.o.sv (by rw[bJ];exact hl) HSI.o);generalize cnt (ec l)=CN at *;generalize l.flatten=FL at *;go_wp2_with fail;refine HCT.o.mono ?_;rintro e w5 ⟨⟨v5,rfl,o5⟩,bD⟩;have dE:=ae (o5.low bF);have Vz:=ae (Af.o.kept bD);have aR:=ae (HB.o.trans (bD.mono bF));have uF:=bD.size;clear o5 bD;go_wp2_with (first | (at_builtin;refine ax rfl _ _ rfl w.heap.size _ _ CN FL rfl dE.o rfl Vz.o.sv ?e1 ?e2 ?_))
   case e1=>omega
   case e2=>omega
   intro v6 w6 o6 b6;have mT:=ae o6;have ja:=ae (aR.o.trans b6);clear o6 b6;go_wp2_with fail;go_ret
   rw[Zx.o];exact⟨⟨_,rfl,mT.o⟩,ja.o⟩
end Go.Proofs.YtpljdjmpamjkhaaGreatDoor
