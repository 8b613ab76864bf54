import Derived.Test.YtpljdjmpamjkhaaGreatDoorUbl
set_option linter.unusedVariables false
set_option linter.unusedSimpArgs false
set_option maxRecDepth 100000
set_option maxHeartbeats 8000000
namespace Go.Proofs.YtpljdjmpamjkhaaGreatDoor
open Go.RowKit Go.Lib
theorem BT{w:World}{v:Value}(hs:Sv w v (aK [])):Calls Tryz.prog 135 #[.int .i64 4,v] w (mC (lN []) w):=by
 obtain⟨a,cap,rfl,aY,bx⟩:=hs.form;clear hs aY bx;go_enter Tryz.func135,Tryz.ntmps135
 go_wp2_with fail;go_ret2
 exact⟨⟨_,rfl,aD.nil _ _⟩,jdg _ _⟩
theorem Fm{l:List Int}(h:0<(cG l).length):(cG l)[0]=gQ l:=by
 unfold gQ;revert h
 generalize cG l=u;intro h;cases u with
 | nil=>simp at h
 | cons y t=>rfl
theorem BU{w:World}{v:Value}{l:List Int}(hs:Sv w v (aK l))(hl:l.length<=256)(hi:Is l)(hp:0<l.length) :
  Calls Tryz.prog 135 #[.int .i64 4,v] w (mC (lN l) w):=by
 have HI:=ae hi;have HS:=ae hs;have PD:=ae (wN hs hl);have hup:=nz hp;have HLF:=ae (Fm hup);have HE:=ae (tM hp);have rR:=ae (hi _ (gR hp));have uJ:=ae (nA (l:=l));have Ca:=ae (lM hi);have nk:=fh (hi _ (gR hp));have LA:=Gu (lM hi);have hps:=kV (p:=di l) (x:=(wd (di l):Int)) (by rw[fT];omega);have kM:=ae (fT l);have HG:jfb (∀ k (h:k<l.length) (h2:k<(di l).length),(di l)[k]=(l[k]-gQ l).toNat):=ae (fun k h h2=>by simp[di]);have HUW:jfb (uv (wd (di l))=[wd (di l)]):=vQ (by omega);obtain⟨a,cap,rfl,aY,bx⟩:=hs.form;have ve:¬ (l.length:Int) > 256:=by omega
 have hlen0:((l.length:Int)==0)=false:=jdt.2 (by omega);clear hs hi aY bx;obtain⟨D,hD⟩:∃ D,di l=D:=⟨_,rfl⟩;rw[hD]at HE Ca LA hps kM HG HUW;obtain⟨lo,hlo⟩:∃ lo,gQ l=lo:=⟨_,rfl⟩;rw[hlo]at HE rR uJ HLF HG nk;clear hD hlo;go_enter Tryz.func135,Tryz.ntmps135
 go_wp2_with fail;refine PD.o.mono ?_;rintro e w1 ⟨⟨vu,rfl,ou⟩,aH⟩;have aR:=ae aH;have cY:=aH.size;obtain⟨gu,cu,rfl,_,_⟩:=oG ou hup;obtain⟨b',off',Ae,_,XW⟩:=ou.sv.at hup;cases Ae
 rw[HLF.o,jd9]at XW;clear ou aH;have hup3:(0:Int)<((cG l).length:Int):=by omega
 go_wp2_with fail;go_loopw [18,19] (fun vm i wr=>∃ k:Nat,k<=l.length/\i=.int .i64 (k:Int)/\dD wr w1.heap.size vm (D.take k)/\Below w1.heap.size w1 wr) (fun _ i _=>l.length-(intOf i).toNat)
 case atStart=>exact⟨0,by omega,rfl,dD.nil _ _,jdg _ _⟩
 case round =>
  obtain⟨k,hk,rfl,hoP,hbP⟩:=hrel;have iG:=ae hoP;have Yq:=ae hbP;have hzP:=hbP.size;clear hoP hbP XW;by_cases uO:k<l.length
  ·have Kr:(k:Int)<(l.length:Int):=by omega
   have hkD:k<D.length:=by rw[kM.o];exact uO
   obtain⟨bl,offl,rfl,fO,eQ⟩:=(HS.o.kept (aR.o.trans (Yq.o.mono cY))).at uO;have rP:=ae (jdx hkD);have hval:=HG.o k uO hkD;have h1:=HI.o.get uO;have h2:=rR.o;have h3:=uJ.o _ (jdl uO);unfold I64 at h1 h2;obtain⟨X,hX⟩:∃ X,IntKind.u64.wrap l[k]=X:=⟨_,rfl⟩;obtain⟨Y,hY⟩:∃ Y,IntKind.u64.wrap lo=Y:=⟨_,rfl⟩
   have hXY:IntKind.u64.wrap (X-Y)=((D[k]:Nat):Int):=by
    rw[← hX,← hY,hval,jdL,jdL,jdL];omega
   have yx:(D.take k).length<=256:=by rw[jdo];omega
   clear hval h1 h2 h3;generalize l[k]=x at *;generalize D[k]=q at *;generalize D.take k=ys at *;have nm:=ae (iG.o.kept (dd wr (.cells #[.int .u64 (q:Int)] 92)));have eY:=ae (Yq.o.alloc hzP (.cells #[.int .u64 (q:Int)] 92));go_wp2_with (first | (at_builtin;refine jE rfl _ _ rfl w1.heap.size _ _ q ys rfl nm.o rfl (aL _ _ _) ?c2 ?c3 ?_))
   case c2=>omega
   case c3=>first | omega | (rw[jdi];omega)
   intro v7 w7 o7 b7;have iy:=ae o7;have ic:=ae (eY.o.trans b7);clear o7 b7;go_wp2_with fail;go_roundw
   case rel=>exact⟨k+1,by omega,by go_num,by rw[rP.o];exact iy.o,ic.o⟩
   case measure=>simp[intOf];omega
  ·obtain rfl:k=l.length:=by omega
   have Kr:¬ (l.length:Int)<(l.length:Int):=(by omega);rw[← kM.o,jdp]at iG;have Yr:=ae (jP iG.o.sv.sx Ca.o);have Pr:=ae (fun x=>mA iG.o.sv.sx Ca.o x);generalize wd D=W at *;go_wp2_with fail;refine Yr.o.mono ?_;rintro e w8 ⟨rfl,rfl⟩;go_wp2_with fail;refine(Pr.o _).mono ?_;rintro e w9 ⟨v9,rfl,o9,pB⟩;have Us:jfb (aD w9 w8.heap.size v9 (bg D (W:Int))):=o9;have pD:=ae (aR.o.trans ((Yq.o.trans (pB.mono hzP)).mono cY));have XN:=pD.o.size;clear o9 pB;generalize bg D (W:Int)=PK at *;go_wp2_with fail;refine(dm rR.o _).mono ?_;rintro e w10 ⟨⟨v10,rfl,o10⟩,Cq⟩;have PR:=ae o10;have HB910:=ae Cq;have uS:=ae (pD.o.trans (Cq.mono XN));have hz10:=Cq.size;clear o10 Cq;have FX:=ae (cF w10 W);have Ps:=ae (dd w10 (.cells #[.int .u8 (W:Int)] 5));have Ys:=ae (PR.o.kept Ps.o);go_wp2_with (first | (at_builtin;refine ax rfl _ _ rfl w9.heap.size _ _ (wv lo) [W] rfl Ys.o rfl FX.o.sv ?d1 ?d2 ?_))
   case d1=>simp;omega
   case d2=>first | omega | (rw[jdi];omega)
   intro vA wA oA bA;have nm:=ae oA;have HB10A:=ae ((Ps.o.mono hz10).trans bA);have jb8:=ae (HB910.o.trans HB10A.o);have HPA:=ae (Us.o.kept jb8.o);have eY:=ae (pD.o.trans (jb8.o.mono XN));have hzA:=jb8.o.size;clear oA bA;go_wp2_with (first | (at_builtin;refine ax rfl _ _ rfl w9.heap.size _ _ (wv lo++[W]) PK rfl nm.o rfl HPA.o.sv ?e1 ?e2 ?_))
   case e1=>simp;omega
   case e2=>omega
   intro vB wB oB bB
   have Ai:jfb (aD wB w.heap.size vB (lN l)):=ae (by
    rw[HE.o,HUW.o];have:=oB.low XN;simpa using this)
   have ge:=ae (eY.o.trans (bB.mono XN));clear oB bB;go_wp2_with fail;go_ret2
   exact⟨⟨_,rfl,Ai.o⟩,ge.o⟩
theorem Fo{w:World}{v:Value}{l:List Int}(hs:Sv w v (aK l))(hl:l.length<=256)(hi:Is l):Calls Tryz.prog 135 #[.int .i64 4,v] w (mC (lN l) w):=by
 rcases jd4 l.length with h0 | h0
 ·obtain rfl:l=[]:=jdF h0
  exact BT hs
 ·exact BU hs hl hi h0
theorem rM{w:World}{v:Value}{l:List Int}(hs:Sv w v (aK l))(c:Nat)(hno:¬ (c<=4/\l.length<=256)) :
  Calls Tryz.prog 135 #[.int .i64 (c:Int),v] w fun e w'=>(∃ v',e=.returned (.tuple #[v',.bool false])/\aD w' w.heap.size v' [])/\Below w.heap.size w w':=by
 obtain⟨a,cap,rfl,aY,bx⟩:=hs.form;have hm:l.length<=9223372036854775807:=by unfold maxLen at bx;omega
 clear hs aY bx;by_cases h5:(c:Int) > 4
 ·go_enter Tryz.func135,Tryz.ntmps135
  go_wp2_with fail;go_ret2
  exact⟨⟨_,rfl,aD.nil _ _⟩,jdg _ _⟩
 ·have ve:(l.length:Int) > 256:=by omega
  go_enter Tryz.func135,Tryz.ntmps135
  go_wp2_with fail;go_ret2
  exact⟨⟨_,rfl,aD.nil _ _⟩,jdg _ _⟩
theorem yv{w:World}{v:Value}{l:List Int}(hs:Sv w v (aK l))(hi:Is l)(c:Nat) :
  Calls Tryz.prog 135 #[.int .i64 (c:Int),v] w fun e w'=>(∃ v',e=.returned (.tuple #[v',.bool (decide (c<=4/\l.length<=256))])/\aD w' w.heap.size v' (DD c l))/\Below w.heap.size w w':=by
 by_cases h:c<=4/\l.length<=256
 ·rw[jdy h]
  unfold DD;rw[jdf h];obtain⟨h4,hl⟩:=h;obtain rfl | rfl | rfl | rfl | rfl:c=0∨c=1∨c=2∨c=3∨c=4:=by omega
  ·exact DJ hs hl hi
  ·exact DK hs hl hi
  ·exact DL hs hl hi
  ·exact Fl hs hl hi
  ·exact Fo hs hl hi
 ·rw[jds h]
  unfold DD;rw[jde h];exact rM hs c h
theorem TV(l:List Int)(k:Nat):bst l (k+1)=if k=0 then [k]++ib k l else if (ib k l).length+1<(bst l k).length then [k]++ib k l else bst l k:=by
 cases k with
 | zero=>rfl
 | succ k=>rw[jde (by omega)];rfl
theorem Fp{w:World}{v:Value}{l:List Int}(hs:Sv w v (aK l))(hl:l.length<=256)(hi:Is l) :
  Calls Tryz.prog 88 #[v] w fun e w'=>(∃ v',e=.returned (.tuple #[v',.bool true])/\aD w' w.heap.size v' (jB l 4))/\Below w.heap.size w w':=by
 have HS:=ae hs;obtain⟨a,cap,rfl,aY,bx⟩:=hs.form
 have rS:jfb (∀ k,(bst l k).length<=5131):=by
  intro k;cases k with
  | zero=>simp[bst]
  | succ k =>
   obtain⟨c,_,e⟩:=jo l k;rw[bst,e];have:=(eC c hi hl).1;simp
   omega
 have HESZ:jfb (∀ k,(ib k l).length<=5130):=fun k=>(eC k hi hl).1
 have HEN:jfb (∀ W (k:Nat),k<=4->Sv W (.slice a l.length cap) (aK l)->Calls Tryz.prog 135 #[.int .i64 (k:Int),.slice a l.length cap] W fun e w'=>(∃ v',e=.returned (.tuple #[v',.bool true])/\aD w' W.heap.size v' (ib k l))/\Below W.heap.size W w'):=ae (fun W k hk h=>by
  have:=yv h hi k;rwa[jdy (⟨hk,hl⟩:k<=4/\l.length<=256),show DD k l=ib k l from jdf ⟨hk,hl⟩]at this)
 clear hs aY bx hi;go_enter Tryz.func88,Tryz.ntmps88
 go_wp2_with fail;go_loopw [4,5] (fun b i wr=>∃ k:Nat,k<=5/\i=.int .i64 (k:Int)/\aD wr w.heap.size b (bst l k)/\Below w.heap.size w wr) (fun _ i _=>5-(intOf i).toNat)
 case atStart=>exact⟨0,by omega,rfl,aD.nil _ _,jdg _ _⟩
 case round =>
  obtain⟨k,hk,rfl,aA,az⟩:=hrel;have HO:=ae aA;have HB:=ae az;have bP:=az.size;obtain⟨ab,cb,rfl⟩:=aA.len;have fO:=rS.o k;have hel:=HESZ.o k;have HT:=ae (TV l k);clear aA az;by_cases hk5:(k:Int)<5
  ·have HENk:=ae (HEN.o wr k (by omega) (HS.o.kept HB.o))
   generalize bst l k=B0 at *;generalize ib k l=EC at *;go_wp2_with fail;refine HENk.o.mono ?_;rintro e w3 ⟨⟨v3,rfl,fP⟩,aQ⟩;have cZ:=ae fP;have bN:=ae (HB.o.trans (aQ.mono bP));have Ai:=ae (HO.o.kept aQ);have iD:=bN.o.size;obtain⟨a3,c3,rfl⟩:=fP.len;clear fP aQ;have ni:=ae (cF w3 k);have eY:=ae (dd w3 (.cells #[.int .u8 (k:Int)] 5));have Qt:=ae (cZ.o.kept eY.o);by_cases qm:((k:Int)==0)=true
   ·have hk0':k=0:=by simpa using qm
    have Ao:jfb (bst l (k+1)=[k]++EC):=ae (by rw[HT.o,jdf hk0']);clear hk0';go_wp2_with (first | (at_builtin;refine ax rfl _ _ rfl w3.heap.size _ _ [k] EC rfl ni.o rfl Qt.o.sv ?c1 ?c2 ?_))
    case c1=>simp;omega
    case c2=>first | omega | (rw[jdi];omega)
    intro v4 w4 o4 b4;have eR:=ae (o4.low iD);have ce:=ae (bN.o.trans ((eY.o.trans b4).mono iD));clear o4 b4;go_wp2_with fail;go_roundw
    case rel=>exact⟨k+1,by omega,by go_num,by rw[Ao.o];exact eR.o,ce.o⟩
    case measure=>simp[intOf];omega
   ·have hk0f:((k:Int)==0)=false:=by simpa using qm
    have hk0':¬ k=0:=by simpa using qm
    by_cases aC:EC.length+1<B0.length
    ·have Ao:jfb (bst l (k+1)=[k]++EC):=ae (by rw[HT.o,jde hk0',jdf aC])
     have Cj:(EC.length:Int)+1<(B0.length:Int):=(by omega);clear hk0' qm aC;go_wp2_with (first | (at_builtin;refine ax rfl _ _ rfl w3.heap.size _ _ [k] EC rfl ni.o rfl Qt.o.sv ?c1 ?c2 ?_))
     case c1=>simp;omega
     case c2=>first | omega | (rw[jdi];omega)
     intro v4 w4 o4 b4;have eR:=ae (o4.low iD);have ce:=ae (bN.o.trans ((eY.o.trans b4).mono iD));clear o4 b4;go_wp2_with fail;go_roundw
     case rel=>exact⟨k+1,by omega,by go_num,by rw[Ao.o];exact eR.o,ce.o⟩
     case measure=>simp[intOf];omega
    ·have Ao:jfb (bst l (k+1)=B0):=ae (by rw[HT.o,jde hk0',jde aC])
     have Cj:¬ (EC.length:Int)+1<(B0.length:Int):=(by omega);clear hk0' qm aC;go_wp2_with fail;go_roundw
     case rel=>exact⟨k+1,by omega,by go_num,by rw[Ao.o];exact Ai.o,bN.o⟩
     case measure=>simp[intOf];omega
  ·obtain rfl:k=5:=by omega
   go_wp2_with fail;go_ret2
   exact⟨⟨_,rfl,HO.o⟩,HB.o⟩
theorem JU{w:World}{v:Value}{l:List Int}(hs:Sv w v (aK l))(hi:Is l)(hl:¬ l.length<=256) :
  Calls Tryz.prog 88 #[v] w fun e w'=>(∃ v',e=.returned (.tuple #[v',.bool false])/\aD w' w.heap.size v' [])/\Below w.heap.size w w':=by
 have HEN:=ae (rM hs 0 (fun h=>hl h.2));clear hs hi hl;go_enter Tryz.func88,Tryz.ntmps88
 go_wp2_with fail;refine wp_loop_rounds 1 ?_;rw[rounds_succ];go_wp2_with fail;refine HEN.o.mono ?_;rintro e w3 ⟨⟨v3,rfl,fP⟩,aQ⟩;go_wp2_with fail;go_ret2
 exact⟨⟨_,rfl,aD.nil _ _⟩,aQ⟩
theorem jw{w:World}{v:Value}{l:List Int}(hs:Sv w v (aK l))(hi:Is l) :
  Calls Tryz.prog 88 #[v] w fun e w'=>(∃ v',e=.returned (.tuple #[v',.bool (decide (l.length<=256))])/\aD w' w.heap.size v' (DV l))/\Below w.heap.size w w':=by
 unfold DV;by_cases h:l.length<=256
 ·rw[jdy h,jdf h]
  exact Fp hs h hi
 ·rw[jds h,jde h]
  exact JU hs hi h
def rN(x:List Nat)(u pre:List (List Nat))(d:Bool)(k:Nat):Prop:=pre++(if d then u.drop k else jC x (u.drop k))=jC x u
theorem rN.step{x:List Nat}{u pre:List (List Nat)}{d:Bool}{k:Nat}(h:rN x u pre d k)(hk:k<u.length) :
  (d=true->rN x u (pre++[u[k]]) true (k+1))/\(d=false->u[k]=x->rN x u (pre++[u[k]]) true (k+1))/\(d=false->x<u[k]->rN x u ((pre++[x])++[u[k]]) true (k+1))/\(d=false->u[k]≠x->¬ x<u[k]->rN x u (pre++[u[k]]) false (k+1)):=by
 unfold rN at *;rw[jdX hk]at h;refine⟨fun hd=>?_,fun hd he=>?_,fun hd he=>?_,fun hd he hn=>?_⟩
 ·subst hd
  rw[jdf rfl]at h ⊢;rw[← h];simp
 ·subst hd
  rw[jde (by simp),jC,jdf he.symm]at h;rw[jdf rfl,← h];simp
 ·subst hd
  rw[jde (by simp),jC,jde (fun e=>jeQ u[k] (by rw[e]at he;exact he)),jdf he]at h;rw[jdf rfl,← h];simp
 ·subst hd
  rw[jde (by simp),jC,jde (fun e=>he e.symm),jde hn]at h;rw[jde (by simp),← h];simp
theorem rN.last{x:List Nat}{u pre:List (List Nat)}{d:Bool}(h:rN x u pre d u.length):(d=true->pre=jC x u)/\(d=false->pre++[x]=jC x u):=by
 unfold rN at h;rw[jeb]at h;refine⟨fun hd=>?_,fun hd=>?_⟩
 ·subst hd
  simpa using h
 ·subst hd
  simpa [jC]using h
theorem rN.len{x:List Nat}{u pre:List (List Nat)}{d:Bool}{k:Nat}(h:rN x u pre d k):pre.length<=u.length+1:=by
 unfold rN at h;have h1:=jdm List.length h;have h2:=nB (x:=x) (u:=u);rw[jdj]at h1;omega
theorem ug{w:World}{v:Value}{l:List (List Nat)}(hs:Sv w v (cA l))(hl:l.length<=256)(hb:∀ s∈l,Bs s) :
  Calls Tryz.prog 89 #[v] w fun e w'=>(∃ v',e=.returned v'/\eF w' w.heap.size v' (tuq l))/\Below w.heap.size w w':=by
 have HS:=ae hs;have ur:=ae hb;obtain⟨a,cap,rfl,aY,bx⟩:=hs.form1;rw[dG]at *;have hcm':cap<=9223372036854775807:=by unfold maxLen at bx;omega
 clear hs bx hb;go_enter Tryz.func89,Tryz.ntmps89
 go_wp2_with fail;go_loopw [3,4] (fun vo i wr=>∃ k:Nat,k<=l.length/\i=.int .i64 (k:Int)/\eF wr w.heap.size vo (tuq (l.take k))/\Below w.heap.size w wr) (fun _ i _=>l.length-(intOf i).toNat)
 case atStart=>exact⟨0,by omega,rfl,eF.nil _ _,jdg _ _⟩
 case round =>
  obtain⟨i,hi,rfl,how,az⟩:=hrel;have HO:=ae how;have HB:=ae az;have bP:=az.size;obtain⟨ao,co,rfl,hco,hcom⟩:=aN how;have hcom':co<=9223372036854775807:=by unfold maxLen at hcom;omega
  clear how az;by_cases aC:i<l.length
  ·have mO:(i:Int)<(l.length:Int):=by omega
   have HU:=ae (yb aC);have uK:=fG (l.take i);rw[jdo]at uK;obtain⟨bl,offl,rfl,fO,eQ⟩:=(HS.o.kept HB.o).at1 (cL aC);rw[en]at eQ;have ml:=ae (ur.o l[i] (jdl aC));have HBU:jfb (∀ s∈tuq (l.take i),Bs s):=ae (fun s hs=>ur.o s (jd3 (jh.1 hs)));generalize l[i]=x at *;generalize tuq (l.take i)=u at *;have Uv:u.length<=256:=(by omega);generalize wr=W1 at *;go_wp2_with fail;go_loopw [5,6,7] (fun vn vd j wq=>∃(k:Nat) (pre:List (List Nat)) (d:Bool),k<=u.length/\j=.int .i64 (k:Int)/\vd=.bool d/\eF wq W1.heap.size vn pre/\rN x u pre d k/\Below W1.heap.size W1 wq) (fun _ _ j _=>u.length-(intOf j).toNat)
   case atStart=>exact⟨0,[],false,by omega,rfl,rfl,eF.nil _ _,rfl,jdg _ _⟩
   case round =>
    obtain⟨k,pre,d,hk,rfl,rfl,hon,hia,uP⟩:=hrel;have Ad:=ae hon;have HIA:=ae hia;have oX:=ae uP;have yD:=uP.size;have kK:=hia.len;obtain⟨an,cn,rfl,_,_⟩:=aN hon;clear hon hia uP;have eY:jfb (∀ n z,Below W1.heap.size W1 ((wr.drewN n).alloc (.cells #[.string (am z)] 9))):=fun n z=>(ar oX.o n).alloc yD _
    have Ks:jfb (∀ n z,W1.heap.size<=((wr.drewN n).alloc (.cells #[.string (am z)] 9)).heap.size):=fun n z=>by rw[jdi];exact Nat.le_succ_of_le yD
    have nm:jfb (∀ n z,eF ((wr.drewN n).alloc (.cells #[.string (am z)] 9)) W1.heap.size (.slice an pre.length cn) pre):=fun n z=>(Ad.o.kept (ar (jdg _ _) n)).kept (dd _ _)
    by_cases pu:k<u.length
    ·have jbj:(k:Int)<(u.length:Int):=by omega
     obtain⟨b2,off2,Ae,aE,FD⟩:=HO.o.sv.at1 (cL pu);rw[en]at FD;have Cy:=ae (HBU.o u[k] (jdl pu));cases Ae
     have kF:=(oX.o.cell (p:=⟨b2,off2+k,none⟩) aE).trans FD;have jbk:=(oX.o.cell (p:=⟨bl,offl+i,none⟩) fO).trans eQ;have HSt:=ae (HIA.o.step pu);have jbl:=ae FD;clear HIA FD;generalize u[k]=y at *
     have Cf:jfb (((am y).toList==(am x).toList)=decide (y=x)):=ae (by
      rw[bC,bC];by_cases e:y=x
      ·rw[e];simp
      ·rw[jds e]
       exact jdt.2 (fun h=>e (by rw[← fo Cy.o,← fo ml.o,h])))
     have FX:jfb (Op.bytesLess (am x).toList (am y).toList=decide (x<y)):=ae (by
      rw[bC,bC];exact nw ml.o Cy.o)
     cases d with
     | true =>
      have rY:=ae (HSt.o.1 rfl);by_cases xO:y=x
      ·have Kt:((am y).toList==(am x).toList)=true:=Cf.o.trans (jdy xO)
       clear xO;go_wp2_with fail;go_quiet (fail)
       go_wp2_with fail;go_quiet (fail)
       go_wp2_with (first | (at_builtin;refine bX rfl _ _ rfl W1.heap.size _ _ y pre rfl (nm.o _ y) rfl (aL _ _ _) ?c2 ?c3 ?_))
       case c2=>omega
       case c3=>first | omega | exact Ks.o _ _
       intro v7 w7 o7 b7;have iy:=ae o7;have ic:=ae ((eY.o _ y).trans b7);clear o7 b7;go_wp2_with fail;go_roundw
       case rel=>exact⟨k+1,_,true,by omega,by go_num,rfl,iy.o,rY.o,ic.o⟩
       case measure=>simp[intOf];omega
      ·have jbm:((am y).toList==(am x).toList)=false:=Cf.o.trans (jds xO)
       clear xO;go_wp2_with fail;go_quiet (fail)
       go_wp2_with fail;go_quiet (fail)
       go_wp2_with (first | (at_builtin;refine bX rfl _ _ rfl W1.heap.size _ _ y pre rfl (nm.o _ y) rfl (aL _ _ _) ?c2 ?c3 ?_))
       case c2=>omega
       case c3=>first | omega | exact Ks.o _ _
       intro v7 w7 o7 b7;have iy:=ae o7;have ic:=ae ((eY.o _ y).trans b7);clear o7 b7;go_wp2_with fail;go_roundw
       case rel=>exact⟨k+1,_,true,by omega,by go_num,rfl,iy.o,rY.o,ic.o⟩
       case measure=>simp[intOf];omega
     | false =>
      by_cases xO:y=x
      ·have rY:=ae (HSt.o.2.1 rfl xO)
       have Kt:((am y).toList==(am x).toList)=true:=Cf.o.trans (jdy xO);clear xO;go_wp2_with fail;go_quiet (fail)
       go_wp2_with fail;go_quiet (fail)
       go_wp2_with (first | (at_builtin;refine bX rfl _ _ rfl W1.heap.size _ _ y pre rfl (nm.o _ y) rfl (aL _ _ _) ?c2 ?c3 ?_))
       case c2=>omega
       case c3=>first | omega | exact Ks.o _ _
       intro v7 w7 o7 b7;have iy:=ae o7;have ic:=ae ((eY.o _ y).trans b7);clear o7 b7;go_wp2_with fail;go_roundw
       case rel=>exact⟨k+1,_,true,by omega,by go_num,rfl,iy.o,rY.o,ic.o⟩
       case measure=>simp[intOf];omega
      ·have jbm:((am y).toList==(am x).toList)=false:=Cf.o.trans (jds xO)
       have Ku:y≠x:=xO;clear xO;by_cases Ct:x<y
       ·have jbn:Op.bytesLess (am x).toList (am y).toList=true:=FX.o.trans (jdy Ct)
        have rY:=ae (HSt.o.2.2.1 rfl Ct);clear Ku Ct;go_wp2_with fail;go_quiet (fail)
        go_wp2_with fail;go_quiet (fail)
        go_wp2_with (first | (at_builtin;refine bX rfl _ _ rfl W1.heap.size _ _ x pre rfl (nm.o _ x) rfl (aL _ _ _) ?c2 ?c3 ?_))
        case c2=>omega
        case c3=>first | omega | exact Ks.o _ _
        intro v6 w6 o6 b6;have ng:=ae o6;have jc:=ae ((eY.o _ x).trans b6);have hc6:=(jc.o.cell (p:=⟨b2,off2+k,none⟩) aE).trans jbl.o;have FB:=jc.o.size;have Ai:=ae (o6.kept (dd w6 (.cells #[.string (am y)] 9)));clear o6 b6;go_wp2_with (first | (at_builtin;refine bX rfl _ _ rfl W1.heap.size _ _ y (pre++[x]) rfl Ai.o rfl (aL _ _ _) ?c2 ?c3 ?_))
        case c2=>simp;omega
        case c3=>first | omega | (rw[jdi];omega)
        intro v7 w7 o7 b7;have o7':eF w7 W1.heap.size v7 (pre++[x]++[y]):=by simpa using o7
        have iy:=ae o7';have ic:=ae ((jc.o.alloc FB (.cells #[.string (am y)] 9)).trans b7);clear o7 o7' b7;go_wp2_with fail;go_roundw
        case rel=>exact⟨k+1,_,true,by omega,by go_num,rfl,iy.o,rY.o,ic.o⟩
        case measure=>simp[intOf];omega
       ·have jbn:Op.bytesLess (am x).toList (am y).toList=false:=FX.o.trans (jds Ct)
        have rY:=ae (HSt.o.2.2.2 rfl Ku Ct);clear Ku Ct;go_wp2_with fail;go_quiet (fail)
        go_wp2_with fail;go_quiet (fail)
        go_wp2_with (first | (at_builtin;refine bX rfl _ _ rfl W1.heap.size _ _ y pre rfl (nm.o _ y) rfl (aL _ _ _) ?c2 ?c3 ?_))
        case c2=>omega
        case c3=>first | omega | exact Ks.o _ _
        intro v7 w7 o7 b7;have iy:=ae o7;have ic:=ae ((eY.o _ y).trans b7);clear o7 b7;go_wp2_with fail;go_roundw
        case rel=>exact⟨k+1,_,false,by omega,by go_num,rfl,iy.o,rY.o,ic.o⟩
        case measure=>simp[intOf];omega
    ·obtain rfl:k=u.length:=by omega
     have jbj:¬ (u.length:Int)<(u.length:Int):=(by omega);have Qi:=ae HIA.o.last;cases d with
     | true =>
      have e:=Qi.o.1 rfl;have jbo:jfb (eF wr w.heap.size (.slice an pre.length cn) (tuq (l.take (i+1)))):=ae (by rw[HU.o,← e];exact be Ad.o bP);clear e;go_wp2_with fail;go_roundw
      case rel=>exact⟨i+1,by omega,by go_num,jbo.o,HB.o.trans (oX.o.mono bP)⟩
      case measure=>simp[intOf];omega
     | false =>
      have HE:=ae (Qi.o.2 rfl);have jbk:=(oX.o.cell (p:=⟨bl,offl+i,none⟩) fO).trans eQ;have yF:=ae (Ad.o.kept (dd wr (.cells #[.string (am x)] 9)));have yG:=ae (oX.o.alloc yD (.cells #[.string (am x)] 9));go_wp2_with (first | (at_builtin;refine bX rfl _ _ rfl W1.heap.size _ _ x pre rfl yF.o rfl (aL _ _ _) ?c2 ?c3 ?_))
      case c2=>omega
      case c3=>first | omega | (rw[jdi];omega)
      intro v7 w7 o7 b7;have iy:jfb (eF w7 w.heap.size v7 (tuq (l.take (i+1)))):=ae (by rw[HU.o,← HE.o];exact be o7 bP);have ic:=ae (HB.o.trans ((yG.o.trans b7).mono bP));clear o7 b7;go_wp2_with fail;go_roundw
      case rel=>exact⟨i+1,by omega,by go_num,iy.o,ic.o⟩
      case measure=>simp[intOf];omega
  ·obtain rfl:i=l.length:=by omega
   have mO:¬ (l.length:Int)<(l.length:Int):=(by omega);rw[jdp]at HO;go_wp2_with fail;go_ret
   exact⟨⟨_,rfl,HO.o⟩,HB.o⟩
def Ap(a b:Value):Prop:=∀ g,a.ownBlock=some g->b.ownBlock≠some g
theorem Ap.symm{a b:Value}(h:Ap a b):Ap b a:=fun g hg h2=>h g h2 hg
theorem Ap.of_types{w:World}{B B' e e' n n':Nat}{v v':Value}{xs xs':List Value}(h:w.ownsRow B e 1 v n xs)(h':w.ownsRow B' e' 1 v' n' xs')(fQ:e≠e'):Ap v v':=by
 intro g hg hg';obtain⟨_,⟨rfl,_⟩ | ⟨k,cap,cur,rfl,_,h3,_⟩⟩:=h
 ·cases hg
 ·obtain⟨_,⟨rfl,_⟩ | ⟨k',cap',cur',rfl,_,h3',_⟩⟩:=h'
  ·cases hg'
  ·cases hg
   cases hg'
   rw[h3]at h3';cases h3'
   exact fQ rfl
theorem dy{W w':World}{B e n:Nat}{v u:Value}{xs:List Value}(h:W.ownsRow B e 1 v n xs)(hg:W.grownBy w' u.ownBlock)(ha:Ap v u):w'.ownsRow B e 1 v n xs:=by
 refine h.kept hg ?_;cases hv:v.ownBlock with
 | none=>exact Or.inl rfl
 | some g=>exact Or.inr (fun e=>ha g hv e.symm)
theorem Ap.grow{a a' b:Value}{n:Nat}(h:Ap a b)(hn:a'.ownBlock=a.ownBlock∨a'.ownBlock=some n)(hb:∀ k,b.ownBlock=some k->k<n):Ap a' b:=by
 intro g hg gM;rcases hn with hn | hn
 ·exact h g (by rw[← hn];exact hg) gM
 ·have e:n=g:=Option.some.inj (hn.symm.trans hg)
  have:=hb g gM;omega
theorem mj{w:World}{ops:Array Oper}{rest:List Oper}{o:Oper}{a:Act}{Q:Exit->Act->World->Prop}(eg:o.guard=none)(s x:Operand)
  (ho:o.op=.call { callee:=.builtin .append,args:=#[s,x],argTypes:=#[143,143] })
  (base:Nat) (v:Value) (g:Nat) (z:Int) (l0:List Int) (hs:a.eval s=v) (aA:bv w base v l0) (hx:a.eval x=.slice (some ⟨g,0,none⟩) 1 1) (hc:w.cell? ⟨g,0,none⟩=some (.int .i64 z))
  (hbytes:l0.length<=100000) (aI:base<=w.heap.size)
  (h:∀ v' w',bv w' base v' (l0++[z])->w.grownBy w' v.ownBlock->wpList Tryz.prog ops Q rest (a.put o.dst v') w') :
  wpList Tryz.prog ops Q (o::rest) a w:=by
 obtain⟨i0,hi,cm,hz1',bn⟩:=jdA zx;unfold bv at *
 refine jdU (w:=w) eg s x 143 ho base 2 i0 (.int .i64 0) 1 8 Tryz.underlying143 hi cm hz1' bn rfl (by decide) v l0.length (aK l0) hs aA ⟨g,0,none⟩ 1 1 [.int .i64 z] hx rfl ?_ (fun u hu=>by
  have:u=.int .i64 z:=by simpa using hu
  subst this;rfl) (by unfold maxLen;omega) (by omega) aI ?_
 ·intro j u hu
  rw[mq];cases j with
  | zero =>
   simp only[List.getElem?_cons_zero,Option.some.injEq]at hu;rw[← hu];exact hc
  | succ j=>simp at hu
 ·intro v' w' o1 g1 _ _
  refine h v' w' ?_ g1;rw[qR,jdj];exact o1
theorem jb{w:World}{ops:Array Oper}{rest:List Oper}{o:Oper}{a:Act}{Q:Exit->Act->World->Prop}(eg:o.guard=none)(s x:Operand)
  (ho:o.op=.call { callee:=.builtin .append,args:=#[s,x],argTypes:=#[142,142] })
  (base:Nat) (v:Value) (g:Nat) (z:Nat) (l0:List Nat) (hs:a.eval s=v) (aA:dD w base v l0) (hx:a.eval x=.slice (some ⟨g,0,none⟩) 1 1) (hc:w.cell? ⟨g,0,none⟩=some (.int .u64 (z:Int)))
  (hbytes:l0.length<=100000) (aI:base<=w.heap.size)
  (h:∀ v' w',dD w' base v' (l0++[z])->w.grownBy w' v.ownBlock->(v'.ownBlock=v.ownBlock∨v'.ownBlock=some w.heap.size)->wpList Tryz.prog ops Q rest (a.put o.dst v') w') :
  wpList Tryz.prog ops Q (o::rest) a w:=by
 obtain⟨i0,hi,cm,hz1',bn⟩:=jdA pL;unfold dD at *
 refine jdU (w:=w) eg s x 142 ho base 92 i0 (.int .u64 0) 1 8 Tryz.underlying142 hi cm hz1' bn rfl (by decide) v l0.length (aF .u64 l0) hs aA ⟨g,0,none⟩ 1 1 [.int .u64 (z:Int)] hx rfl ?_ (fun u hu=>by
  have:u=.int .u64 (z:Int):=by simpa using hu
  subst this;rfl) (by unfold maxLen;omega) (by omega) aI ?_
 ·intro j u hu
  rw[mq];cases j with
  | zero =>
   simp only[List.getElem?_cons_zero,Option.some.injEq]at hu;rw[← hu];exact hc
  | succ j=>simp at hu
 ·intro v' w' o1 g1 _ g2
  refine h v' w' ?_ g1 g2;rw[cd,jdj];exact o1
theorem rO{w:World}{ops:Array Oper}{rest:List Oper}{o:Oper}{a:Act}{Q:Exit->Act->World->Prop}(eg:o.guard=none)(s x:Operand)
  (ho:o.op=.call { callee:=.builtin .append,args:=#[s,x],argTypes:=#[144,144] })
  (base:Nat) (v:Value) (g:Nat) (z:List Nat) (l0:List (List Nat)) (hs:a.eval s=v) (aA:eF w base v l0) (hx:a.eval x=.slice (some ⟨g,0,none⟩) 1 1) (hc:w.cell? ⟨g,0,none⟩=some (txt z))
  (hbytes:l0.length<=100000) (aI:base<=w.heap.size)
  (h:∀ v' w',eF w' base v' (l0++[z])->w.grownBy w' v.ownBlock->wpList Tryz.prog ops Q rest (a.put o.dst v') w') :
  wpList Tryz.prog ops Q (o::rest) a w:=by
 obtain⟨i0,hi,cm,hz1',bn⟩:=jdA YJ;unfold eF at *
 refine jdU (w:=w) eg s x 144 ho base 9 i0 (.string ⟨#[]⟩) 1 16 Tryz.underlying144 hi cm hz1' bn rfl (by decide) v l0.length (cA l0) hs aA ⟨g,0,none⟩ 1 1 [txt z] hx rfl ?_ (fun u hu=>by
  have:u=txt z:=by simpa using hu
  subst this;rfl) (by unfold maxLen;omega) (by omega) aI ?_
 ·intro j u hu
  rw[mq];cases j with
  | zero =>
   simp only[List.getElem?_cons_zero,Option.some.injEq]at hu;rw[← hu];exact hc
  | succ j=>simp at hu
 ·intro v' w' o1 g1 _ _
  refine h v' w' ?_ g1;rw[pq,jdj];exact o1
theorem tm{w:World}{ops:Array Oper}{rest:List Oper}{o:Oper}{a:Act}{Q:Exit->Act->World->Prop}(eg:o.guard=none)(s x:Operand)
  (ho:o.op=.call { callee:=.builtin .append,args:=#[s,x],argTypes:=#[30,9] })
  (base:Nat) (v:Value) (l0 z:List Nat) (hs:a.eval s=v) (aA:aD w base v l0) (hx:a.eval x=.string (am z)) (hz:Bs z)
  (hbytes:l0.length+z.length<=140737488355328) (aI:base<=w.heap.size)
  (h:∀ v' w',aD w' base v' (l0++z)->w.grownBy w' v.ownBlock->wpList Tryz.prog ops Q rest (a.put o.dst v') w') :
  wpList Tryz.prog ops Q (o::rest) a w:=by
 obtain⟨i0,hi,cm,hz1',bn⟩:=jdA jm;unfold aD at *;refine wpList_append_own_string (w:=w) eg s x 30 9 ho base 5 i0 Tryz.underlying30 Tryz.underlying9 hi cm hz1' bn v l0.length (aF .u8 l0) hs aA (am z) hx (by rw[bm];unfold maxLen;omega) (by rw[bm];exact hbytes) aI ?_;intro v' w' o1 g1 _;refine h v' w' ?_ g1;rw[bm]at o1
 have e:strCells (am z)=aF .u8 z:=by
  unfold strCells am aF;simp only[jdT];apply jef
  intro y hy;have:=hz y hy;simp[jd7 this]
 rw[e]at o1;rw[cd,jdj];exact o1
theorem tn{w:World}{v:Value}{l:List Nat}(hs:Sv w v (aF .u64 l))(h2:∀ x∈l,x<18446744073709551616):Calls Tryz.prog 87 #[v] w (dw w (bg l 1)):=by
 have HB:=ae (mA hs.sx h2 1);clear hs h2;generalize bg l 1=bs at *;generalize can l 1=bb at *;go_enter Tryz.func87,Tryz.ntmps87
 go_wp2_with fail;refine HB.o.mono ?_;rintro e w1 ⟨v1,rfl,eI,aH⟩;have fC:=ae eI;have aR:=ae aH;clear eI aH;go_wp2_with fail;go_ret
 exact⟨⟨_,rfl,fC.o⟩,aR.o⟩
theorem xC{w:World}{v:Value}{l:List Int}(hs:Sv w v (aK l))(hl:l.length<=256)(hi:Is l):Calls Tryz.prog 136 #[v] w (dw w (cnt l)):=by
 have HB:=ae (jw hs hi);rw[kb hl]at HB;have bR:=gz hi hl;have mY:jfb (cnt l=uv (cP l).length++cP l):=rfl;clear hs hi;generalize cnt l=cn at *;generalize cP l=bs at *;have nk:=bJ (n:=bs.length) (by omega);have HP:=ae (bD bs.length (by omega));go_enter Tryz.func136,Tryz.ntmps136
 go_wp2_with fail;refine HB.o.mono ?_;rintro e w1 ⟨⟨v1,rfl,eI⟩,aH⟩;have fC:=ae eI;have aR:=ae aH;have cY:=aH.size;obtain⟨a1,c1,rfl⟩:=eI.len;clear eI aH;go_wp2_with fail;refine(HP.o _).mono ?_;rintro e w2 ⟨⟨v2,rfl,fx⟩,aE⟩;have du:=ae (fx.low cY);have aO:=ae aE;have bn:=aE.size;clear fx aE;go_wp2_with (first | (at_builtin;refine ax rfl _ _ rfl w.heap.size _ _ (uv bs.length) bs rfl du.o rfl (fC.o.kept aO.o).sv ?c1 ?c2 ?_))
 case c1=>omega
 case c2=>omega
 intro v4 w4 o4 b4;have eR:=ae o4;have ce:=ae ((aR.o.trans (aO.o.mono cY)).trans b4);clear o4 b4;go_wp2_with fail;go_ret
 rw[mY.o];exact⟨⟨_,rfl,eR.o⟩,ce.o⟩
theorem uI{l:List (List Nat)}{k:Nat}(h:k<l.length):ea (l.take (k+1))=ea (l.take k)++[((am l[k]).size:Int)]:=by
 unfold ea;rw[jdx h,jdC,bm];rfl
theorem jR{w:World}{v:Value}{l:List (List Nat)}(hs:Sv w v (cA l))(hl:l.length<=256)(ht:Ts l):Calls Tryz.prog 90 #[v] w (dw w (fA l)):=by
 have HS:=ae hs;have HT:=ae ht;obtain⟨a,cap,rfl,aY,bx⟩:=hs.form1;rw[dG]at *;have hcm':cap<=9223372036854775807:=by unfold maxLen at bx;omega
 have Zl:jfb (fA l=cnt (ea l)++l.flatten):=rfl;have LG:=ae (fun k=>iX ht hl k);have HSI:=ae (gS ht)
 have eQ:(cnt (ea l)).length<=5141:=by
  have h1:=gz (gS ht) (by rw[bH];exact hl);have h2:=bJ (n:=(cP (ea l)).length) (by omega);unfold cnt;rw[jdj];omega
 have jT:=iX ht hl l.length;rw[jdp]at jT;clear hs bx ht;generalize fA l=TX at *;go_enter Tryz.func90,Tryz.ntmps90
 go_wp2_with fail;go_loopw [3,4,5] (fun o q i wr=>∃ j:Nat,j<=l.length/\i=.int .i64 (j:Int)/\bv wr w.heap.size o (ea (l.take j))/\aD wr w.heap.size q (l.take j).flatten/\Below w.heap.size w wr) (fun _ _ i _=>l.length-(intOf i).toNat)
 case atStart=>exact⟨0,by omega,rfl,bv.nil _ _,aD.nil _ _,jdg _ _⟩
 case round =>
  obtain⟨j,hj,rfl,aA,ZL,az⟩:=hrel;have HO:=ae aA;have Ai:=ae ZL;have HB:=ae az;have bP:=az.size;clear aA ZL az;by_cases aC:j<l.length
  ·obtain⟨g,off,rfl,hg,bq⟩:=HS.o.at1 (cL aC)
   rw[en]at bq;have HCE:=ae bq;have jca:=(HB.o.cell (p:=⟨g,off+j,none⟩) hg).trans bq;have hlt':(j:Int)<(l.length:Int):=(by omega);have HZS:=ae (uI aC);have tu:=ae (kZ aC);have hlen':(ea (l.take j)).length<=100000:=by rw[bH,jdo];omega
   have rU:=LG.o j;obtain⟨Kc,XH⟩:=HT.o _ (jdl aC);have Ci:=ae XH;clear bq XH;generalize l[j]=x at *;generalize hfj:(l.take j).flatten=FJ at *;generalize ea (l.take j)=SJ at *;clear hfj;go_wp2_with (first | (at_builtin;refine mj rfl _ _ rfl w.heap.size _ _ ((am x).size:Int) SJ rfl (HO.o.kept (ak _ _)) rfl (aL _ _ _) hlen' ?c2 ?_))
   case c2=>first | omega | (rw[jdi];omega)
   intro v5 w5 o5 g5;have hob:aD wr w.heap.size _ FJ:=Ai.o;have LC:=Ap.of_types hob HO.o (by decide);have Vj:=ae (show aD w5 w.heap.size _ FJ from dy (bI hob (ak wr (.cells #[.int .i64 ((am x).size:Int)] 2))) g5 LC);have dJ:=ae o5;have br:Below w.heap.size w w5:=(HB.o.alloc bP (.cells #[.int .i64 ((am x).size:Int)] 2)).grown g5 (by rw[jdi];omega) (fun k hk=>(HO.o.lt k hk).1);have aS:=ae br;have vk:=br.size;have hcell5:=(br.cell (p:=⟨g,off+j,none⟩) hg).trans HCE.o;clear o5 g5 hob LC br jca;go_wp2_with (first | (at_builtin;refine tm rfl _ _ rfl w.heap.size _ FJ x rfl Vj.o rfl Ci.o ?d1 ?d2 ?_))
   case d1=>omega
   case d2=>omega
   intro v6 w6 o6 g6;have LC:=Ap.of_types dJ.o Vj.o (by decide);have ng:=ae (show bv w6 w.heap.size v5 (SJ++[((am x).size:Int)]) from dy dJ.o g6 LC);have HOB6:=ae o6;have jc:=ae (aS.o.grown g6 vk (fun k hk=>(Vj.o.lt k hk).1));clear o6 g6 LC;go_wp2_with fail;go_roundw
   case rel=>exact⟨j+1,by omega,by go_num,by rw[HZS.o];exact ng.o,by rw[tu.o];exact HOB6.o,jc.o⟩
   case measure=>simp[intOf];omega
  ·obtain rfl:j=l.length:=by omega
   rw[jdp]at HO Ai;have gL:¬ ((l.length:Nat):Int)<(l.length:Int):=(by omega);have HCT:=ae (xC HO.o.sv (by rw[bH];exact hl) HSI.o);generalize cnt (ea l)=CN at *;generalize l.flatten=FL at *;go_wp2_with fail;refine HCT.o.mono ?_;rintro e w5 ⟨⟨v5,rfl,o5⟩,br⟩;have dJ:=ae (o5.low bP);have Vj:=ae (Ai.o.kept br);have aS:=ae (HB.o.trans (br.mono bP));have vk:=br.size;clear o5 br;go_wp2_with (first | (at_builtin;refine ax rfl _ _ rfl w.heap.size _ _ CN FL rfl dJ.o rfl Vj.o.sv ?e1 ?e2 ?_))
   case e1=>omega
   case e2=>omega
   intro v6 w6 o6 b6;have ng:=ae o6;have jc:=ae (aS.o.trans b6);clear o6 b6;go_wp2_with fail;go_ret
   rw[Zl.o];exact⟨⟨_,rfl,ng.o⟩,jc.o⟩
end Go.Proofs.YtpljdjmpamjkhaaGreatDoor
