import Derived.Test.YtpljdjmpamjkhaaGreatDoorSav
set_option linter.all false
set_option maxRecDepth 100000
set_option maxHeartbeats 8000000
namespace Go.Proofs.YtpljdjmpamjkhaaGreatDoor
open Tryz
open Go.RowKit Go.Lib
def Sc.take{W:World}{a:Option Addr}{n cap:Nat}{l:Row}(h:Sc W (.slice a n cap) l){k:Nat}(hk:k<=l.length):Sc W (.slice a k cap) (l.take k):=by
 obtain⟨a',cap',e,h1,h2,h4⟩:=h;simp only[Value.slice.injEq]at e;obtain⟨rfl,_,rfl⟩:=e;have hl:(l.take k).length=k:=by rw[jeH];omega
 refine⟨a,cap,by rw[hl],by omega,h2,λh0=>?_⟩;obtain⟨b,off,h5,h6,h7⟩:=h4 (by omega);refine⟨b,off,h5,h6,λj x hx=>h7 j x ?_⟩;have e:gd l=gd (l.take k)++gd (l.drop k):=by rw[<- qF,jfz]
 have hj:=(List.getElem?_eq_some_iff.1 hx).1;rw[e,List.getElem?_append_left hj];exact hx
def VJ(l:List (Value×Row)):Prop:=l.length<=300/\∀ x∈l,x.2.length<=20/\∀ c∈x.2,aI c
def FS{w:World}{v:Value}{rs:List Row}(hs:Sr w v rs)(ho:∀ r∈rs,∀ c∈r,Okc c) :
  Calls prog 11 #[v] w λe w'=>(∃ v' l,e=.returned v'/\Oc w' w.heap.size v' l/\VJ l)/\jgu w w':=by
 have HS:=ae hs;have HO:=ae ho;obtain⟨a,cap,rfl,bg,bx⟩:=hs.form;have hcm':cap<=9223372036854775807:=by unfold maxLen at bx;omega
 clear hs bx ho;go_enter func11,ntmps11
 go_wp2_with fail;go_loopw [3,4] (λo i wr=>∃(j:Nat) (l:List (Value×Row)),j<=rs.length/\j<=300/\i=.int .i64 (j:Int)/\Oc wr w.heap.size o l/\l.length=j/\VJ l/\jgu w wr) (λ_ i _=>rs.length-(intOf i).toNat)
 case atStart=>exact⟨0,[],by omega,by omega,rfl,Oc.nil _ _,rfl,⟨by simp,λx hx=>by simp at hx⟩,jez _ _⟩
 case round =>
  obtain⟨j,l,hj,hj3,rfl,how,jE,hf10,ao⟩:=hrel;have sL:=ae how;have HB:=ae ao;have CQ:=ae hf10;have HLJ:=ae jE;have bF:=ao.size;obtain⟨la,lc,rfl,De,qs,_⟩:=how.form;clear how ao hf10 jE;by_cases ar:j<rs.length
  ·have hlt':(j:Int)<(rs.length:Int):=by omega
   by_cases h3:j<300
   ·have h3':(j:Int)<300:=by omega
    obtain⟨g,off,rv,rfl,hg,bC,Dj⟩:=(HS.o.kept HB.o).at ar;have AO:=ae (HO.o _ (jeD ar));generalize rs[j]=r at *;obtain⟨ra,rc,rfl,Rg,CT⟩:=Dj.form;have hrc2':rc<=9223372036854775807:=by unfold maxLen at CT;omega
    obtain⟨m,hm⟩:∃ m,min r.length 20=m:=⟨_,rfl⟩;have hml:m<=r.length:=(by omega);have hm20:m<=20:=(by omega);have Rn:min (r.length:Int) 20=(m:Int):=(by omega);have hm0:(0:Int)<=(m:Int):=(by omega);have hmc:(m:Int)<=(rc:Int):=(by omega);have RK:((m:Nat):Int).toNat=m:=(by omega);have gx:=Dj.take hml
    have GQ:jgt (∀ U,jgu wr U->Calls prog 38 #[.slice ra m rc] U λe w'=>∃ ra' rc',e=.returned (.slice ra' m rc')/\dQ w' wr.heap.size (.slice ra' m rc') ((r.take m).map aH)/\jgu wr w'/\Oc w' w.heap.size (.slice la l.length lc) l/\jgu w w'/\∀ o,(w'.alloc o).heap.size=w'.heap.size+1):=ae (λU hU=>by
     refine(Hj (gx.kept hU) (by rw[jeH];omega)).mono ?_;rintro e w' ⟨⟨v',rfl,ho'⟩,hb'⟩;have ap:=ai hU hb';have bH:((r.take m).map aH).length=m:=by rw[jeE,jeH];omega
     obtain⟨ra',rc',rfl,_,_⟩:=bn ho';rw[bH];have eA:=dQ.low' ho' hU.size;rw[bH]at eA;exact⟨ra',rc',rfl,eA,ap,sL.o.kept ap,HB.o.trans (ap.mono bF),λo=>jeB _ _⟩)
    have iy:jgt (((r.take m).map aH).length<=20/\∀ c∈(r.take m).map aH,aI c):=ae ⟨by rw[jeE,jeH];omega,λc hc=>by
     obtain⟨x,hx,rfl⟩:=jeN.1 hc;exact dX (AO.o x (jfn hx))⟩
    generalize (r.take m).map aH=r2 at *;clear Dj gx hm;go_upto_region 5 with fail
    refine wp_region_noPanic ?_
    go_region_law (first
     | (refine yT (by rfl) _ _ (by rfl) w.heap.size _ _ l [(.slice ra' m rc',r2)] (by rfl) ?_ (by rfl) ?_ ?_ ?_ ?_ ?_;exact dK.o.kept (aj _ _);exact lm (aV _ _ _) (by rw[jeB];omega);(intro x hx;rw[je9.1 hx];exact(sy.o.kept (aj _ _)).low' bF);(have:=HLJ.o;simp only[je7];omega);(rw[jeB];have:=bq.o.size;omega);intro v6 w6 o6 b6;have oJ:=ae o6;have fV:=ae ((bq.o.alloc bq.o.size _).trans b6);clear o6 b6;dsimp only)
     | (go_simp;go_at_call 38;refine(GQ.o _ ?_).mono ?_;exact ak (jez wr.heap.size wr) _;rintro e w5 ⟨ra',rc',rfl,eQ,bQ,hl5,hw5,sk⟩;have sy:=ae eQ;have bq:=ae hw5;have dK:=ae hl5;clear eQ bQ hl5 hw5;dsimp only)
     | fail)
    all_goals refine NoPanic.normal ?_
    all_goals go_wp2_with fail
    all_goals go_roundw
    all_goals first
     | (simp[intOf];omega)
     | refine⟨j+1,_,by omega,by omega,by go_num,oJ.o,by rw[jeC,HLJ.o];rfl,⟨by rw[jeC,HLJ.o];simp only[je7];omega,λx hx=>?_⟩,fV.o⟩
    all_goals rcases je1.1 hx with hx | hx
    all_goals first
     | exact CQ.o.2 x hx
     | (rw[je9.1 hx];exact iy.o)
   ·have h3':¬ (j:Int)<300:=by omega
    go_wp2_with fail;go_ret
    first | exact⟨⟨_,_,rfl,sL.o,CQ.o⟩,HB.o⟩ | exact⟨⟨_,rfl,_,sL.o,CQ.o⟩,HB.o⟩
  ·have ed:¬ (j:Int)<(rs.length:Int):=by omega
   go_wp2_with fail;go_ret
   first | exact⟨⟨_,_,rfl,sL.o,CQ.o⟩,HB.o⟩ | exact⟨⟨_,rfl,_,sL.o,CQ.o⟩,HB.o⟩
def VK(w:World)(l:Row)(hl:l.length<=256):OwnV (w.alloc (.cells (aE l).toArray 78)) w.heap.size (.slice (some ⟨w.heap.size,0,none⟩) l.length l.length) l :=
 jf0 (e:=78) (size:=1) w (aE l).toArray l.length (base:=w.heap.size) (jeA _) (by unfold maxLen;omega) (by simp[aE])
def jcw(w:World)(l:Row)(hl:l.length<=256):dQ (w.alloc (.cells (gd l).toArray 52)) w.heap.size (.slice (some ⟨w.heap.size,0,none⟩) l.length l.length) l :=
 jf0 (e:=52) (size:=3) w (gd l).toArray l.length (base:=w.heap.size) (jeA _) (by unfold maxLen;omega) (by simp[mq])
def VL(W:World):let W3:=W.alloc (.cells #[.iface 2 (.int .i64 1),.iface 9 (.string ⟨#[97]⟩)] 78);let W4:=W3.alloc (.cells #[.iface 2 (.int .i64 2),.nilIface] 78)
  Rv (W4.alloc (.cells #[.slice (some ⟨W.heap.size,0,none⟩) 2 2,.slice (some ⟨W.heap.size+1,0,none⟩) 2 2] 79)) (.slice (some ⟨W.heap.size+1+1,0,none⟩) 2 2) rA/\jgu W (W4.alloc (.cells #[.slice (some ⟨W.heap.size,0,none⟩) 2 2,.slice (some ⟨W.heap.size+1,0,none⟩) 2 2] 79)):=by
 intro W3 W4;have h3:OwnV W3 W.heap.size (.slice (some ⟨W.heap.size,0,none⟩) 2 2) rA1:=VK W rA1 (by decide);have h4:OwnV W4 W3.heap.size (.slice (some ⟨W3.heap.size,0,none⟩) 2 2) rA2:=VK W3 rA2 (by decide);have z3:W3.heap.size=W.heap.size+1:=jeB _ _;have z4:W4.heap.size=W.heap.size+1+1:=by show (W3.alloc _).heap.size=_;rw[jeB,z3]
 rw[z3]at h4;have b3:jgu W3 W4:=aj _ _;have b4:=aj W4 (.cells #[.slice (some ⟨W.heap.size,0,none⟩) 2 2,.slice (some ⟨W.heap.size+1,0,none⟩) 2 2] 79);obtain⟨c0,c1⟩:=aS W4 (.slice (some ⟨W.heap.size,0,none⟩) 2 2) (.slice (some ⟨W.heap.size+1,0,none⟩) 2 2) 79;have z5:(W4.alloc (.cells #[.slice (some ⟨W.heap.size,0,none⟩) 2 2,.slice (some ⟨W.heap.size+1,0,none⟩) 2 2] 79)).heap.size=W.heap.size+3:=by rw[jeB,z4]
 refine⟨⟨_,2,rfl,jeA _,by unfold maxLen;omega,λe=>(by cases e),λ_=>⟨W.heap.size+1+1,0,rfl,by omega,λj hj=>?_⟩⟩,?_⟩
 ·rw[z4]at c0 c1
  have hj2:j<2:=hj;obtain rfl | rfl:j=0∨j=1:=by omega
  ·exact⟨_,c0,((h3.kept b3).kept b4).sv⟩
  ·exact⟨_,c1,(h4.kept b4).sv⟩
 ·exact(((jez _ _).alloc (jeA _) _).alloc (by rw[z3];omega) _).alloc (by rw[z4];omega) _
def rW(W:World):eF W (.slice none 0 0) []:=⟨none,0,rfl,jeA _,by unfold maxLen;omega,λh=>by simp at h⟩
def Mt{fs:List Fd}{p:List Row}(h:gG fs p):∀ s∈(grp fs p).2,Oks s:=λs hs=>by
 obtain⟨i,_,rfl⟩:=jeN.1 hs;have:=gE (fO h i);exact⟨this.1.okc,this.2.okc⟩
def gsA:List Gr:=[grp fq [rA1],grp fq [rA2]]
def ZJ:bJ gsA=rA:=rfl
def oksA:∀ g∈gsA,∀ s∈g.2,Oks s:=λg hg=>by
 have fY:g=grp fq [rA1]∨g=grp fq [rA2]:=by simpa [gsA]using hg
 rcases fY with rfl | rfl
 ·exact Mt λr hr=>pj r (by rw[je9.1 hr];simp[rA])
 ·exact Mt λr hr=>pj r (by rw[je9.1 hr];simp[rA])
def jaW:gsA.filter (qj fq pA)=[grp fq [rA2]]:=by
 have h1:qj fq pA (grp fq [rA1])=false:=mayA1;have h2:qj fq pA (grp fq [rA2])=true:=mayA2;unfold gsA;simp[jgh,h1,h2]
def jcx:cU fq pA gsA=1:=by unfold cU;rw[jaW];rfl
def jcy:dz fq pA gsA=[rA2]:=by
 unfold dz;rw[jaW]
 have h:dq fq pA [rA2]=[rA2]:=by
  unfold dq yS;rw[jgh,jcu];rfl
 show [grp fq [rA2]].flatMap _=_
 simp only[jfQ,List.flatMap_nil,jeS];exact h
def jcz:Okp pA:=⟨by omega,by omega,⟨by decide,⟨by decide,by decide⟩,λx hx=>by simp at hx⟩,trivial⟩
def lenpA:Len pA:=⟨by decide,trivial⟩
def idxB(o:B3){x:Nat}(hx:x<3){xi:Int}(h:xi=x)(w:World):(Instr.index 123 (.agg #[.bool o.1,.bool o.2.1,.bool o.2.2]) (.int .i64 xi)).run prog w=.ok (.bool (dR o x)) w:=by
 obtain⟨h0,h1,h2⟩:=idx3 (.bool o.1) (.bool o.2.1) (.bool o.2.2) w;obtain⟨rfl,rfl⟩ | ⟨rfl,rfl⟩ | ⟨rfl,rfl⟩:(x=0/\xi=0)∨(x=1/\xi=1)∨(x=2/\xi=2):=by omega
 ·exact h0
 ·exact h1
 ·exact h2
def Mu{J:Nat->Nat->Nat}{g:Nat}(hcf:∀ args W,(callFunc g args).run prog W=.ok (.enter g args) W)(hJ:∀ x y:Nat,x<=2->y<=2->J x y<=2/\∀ W:World,Calls prog g #[.int .u8 (x:Int),.int .u8 (y:Int)] W λe w'=>e=.returned (.int .u8 ((J x y:Nat):Int))/\w'=W)(a b:B3)(w:World):Calls prog 156 #[b3V a,b3V b,.func (.func g) #[] #[]] w λe w'=>e=.returned (b3V (pO J a b 3))/\jgu w w':=by
 have HJJ:=ae hJ;obtain⟨R,hR⟩:∃ R,pO J a b 3=R:=⟨_,rfl⟩;rw[hR];have HTJ:=ae hR;clear hR hJ;have hw1:=Flg.new w a;have az:=aj w (.cells #[.bool a.1,.bool a.2.1,.bool a.2.2] 123);have s1:(w.alloc (.cells #[.bool a.1,.bool a.2.1,.bool a.2.2] 123)).heap.size=w.heap.size+1:=jeB _ _;generalize hA:w.alloc (.cells #[.bool a.1,.bool a.2.1,.bool a.2.2] 123)=A at *;have nX:=Flg.new A b;have ap:=aj A (.cells #[.bool b.1,.bool b.2.1,.bool b.2.2] 123);have s2:(A.alloc (.cells #[.bool b.1,.bool b.2.1,.bool b.2.2] 123)).heap.size=A.heap.size+1:=jeB _ _;generalize hB:A.alloc (.cells #[.bool b.1,.bool b.2.1,.bool b.2.2] 123)=B at *;have Dl:=Flg.new B (false,false,false);have aJ:=aj B (.cells #[.bool false,.bool false,.bool false] 123);have s3:(B.alloc (.cells #[.bool false,.bool false,.bool false] 123)).heap.size=B.heap.size+1:=jeB _ _;simp only at Dl;generalize hC:B.alloc (.cells #[.bool false,.bool false,.bool false] 123)=C at *;have hw4:=Flg.new C (false,false,false);have bD:=aj C (.cells #[.bool false,.bool false,.bool false] 123);have s4:(C.alloc (.cells #[.bool false,.bool false,.bool false] 123)).heap.size=C.heap.size+1:=jeB _ _;simp only at hw4;generalize hD:C.alloc (.cells #[.bool false,.bool false,.bool false] 123)=D at *;have Df:=ae (ai (ai (ai az ap) aJ) bD);have dN:=ae (((hw1.kept ap).kept aJ).kept bD);have eW:=ae ((nX.kept aJ).kept bD);have mU:=ae (Dl.kept bD);have ya:=ae hw4;have oM:jgt (A.heap.size=w.heap.size+1/\B.heap.size=w.heap.size+2/\C.heap.size=w.heap.size+3/\D.heap.size=w.heap.size+4):=ae ⟨s1,by omega,by omega,by omega⟩;clear hw1 nX Dl hw4 az ap aJ bD s1 s2 s3 s4;obtain⟨⟨p0,p1,p2⟩,_,_⟩:=dN.o.facts;unfold b3V;go_enter func156,ntmps156
 go_wp2_with fail;clear hA hB hC hD p0 p1 p2;go_loopw [13] (λi wr=>∃ x:Nat,x<=3/\i=.int .i64 (x:Int)/\Flg wr C.heap.size (pO J a b x)/\Fr C.heap.size D.heap.size D wr) (λi _=>3-(intOf i).toNat)
 case atStart=>exact⟨0,by omega,rfl,ya.o,Fr.refl _ _ _⟩
 case round =>
  obtain⟨x,hx,rfl,eI,dA⟩:=hrel;have ql:=ae eI;have iy:=ae dA;clear eI dA
  have aG:jgt (∀ U,Fr C.heap.size D.heap.size D U->Flg U A.heap.size b/\Flg U B.heap.size (false,false,false)):=ae (λU h=>by
   have hz:=oM.o;unfold Flg;have f2:=eW.o;have f3:=mU.o;unfold Flg at f2 f3;rw[h.block A.heap.size (by omega) (by omega),h.block B.heap.size (by omega) (by omega)];exact⟨f2,f3⟩)
  by_cases hx3:x<3
  ·have hx3':(x:Int)<3:=by omega
   obtain⟨⟨q0,q1,q2⟩,_,_⟩:=(aG.o _ iy.o).1.facts;have XJ:jgt (pO J a b (x+1)=vm J a b x 3 (pO J a b x)):=ae rfl;obtain⟨T,hT⟩:∃ T,T=pO J a b x:=⟨_,rfl⟩;rw[<- hT]at XJ ql;have HXA:jgt (∀ y,vm J a b x (y+1) T=EA J a b x y (vm J a b x y T)):=ae (λy=>rfl);have zj:jgt (vm J a b x 0 T=T):=ae rfl;obtain⟨ox,hox⟩:∃ ox,dR a x=ox:=⟨_,rfl⟩;obtain⟨xi,hxi⟩:∃ xi:Int,xi=x:=⟨_,rfl⟩;have ia:=λW=>idxB a hx3 hxi W
   unfold EA at HXA;rw[hox]at ia HXA;have HJX:=ae (λy hy=>HJJ.o x y (by omega) hy);rw[<- hxi]at HJX ⊢;generalize vm J a b x=RW at *;generalize J x=JX at *;clear hT hox;obtain⟨rfl,rfl⟩ | ⟨rfl,rfl⟩ | ⟨rfl,rfl⟩:(x=0/\xi=0)∨(x=1/\xi=1)∨(x=2/\xi=2):=by omega
   all_goals
    clear hx hx3 hx3' hxi;go_wp2_with fail;clear q0 q1 q2;go_loopw [18] (λi wr'=>∃ y:Nat,y<=3/\i=.int .i64 (y:Int)/\Flg wr' C.heap.size (RW y T)/\Fr C.heap.size D.heap.size D wr') (λi _=>3-(intOf i).toNat)
    case atStart=>exact⟨0,by omega,rfl,by rw[zj.o];exact ql.o,iy.o⟩
    case round =>
     obtain⟨y,hy,rfl,eI,dA⟩:=hrel;have tT:=ae eI;have tU:=ae dA;clear eI dA ql iy zj;by_cases hy3:y<3
     ·have HY:=ae (HXA.o y)
      generalize RW y T=OUT at *;generalize hyn:RW (y+1) T=NX at *;have HYE:jgt (∀ U p,Flg U p NX->Flg U p (RW (y+1) T)):=ae (λU p h=>by rw[hyn];exact h);obtain⟨⟨z0,z1,z2⟩,⟨t0,t1,t2⟩,hp⟩:=tT.o.facts;obtain⟨ky,hky⟩:∃ ky,dR b y=ky:=⟨_,rfl⟩;obtain⟨yi,Wp⟩:∃ yi:Int,yi=y:=⟨_,rfl⟩;have ib:=λW=>idxB b hy3 Wp W
      rw[hky]at ib HY;obtain⟨hj,hc⟩:=HJX.o y (by omega);generalize JX y=j at *;obtain⟨ji,hji⟩:∃ ji:Int,ji=j:=⟨_,rfl⟩;rw[<- Wp,<- hji]at hc;rw[<- Wp];have HC:=ae hc;clear hyn hky hc;obtain⟨rfl,rfl⟩ | ⟨rfl,rfl⟩ | ⟨rfl,rfl⟩:(y=0/\yi=0)∨(y=1/\yi=1)∨(y=2/\yi=2):=by omega
      all_goals
       clear hy hy3 Wp;by_cases GI:ox=true/\ky=true
       ·obtain⟨rfl,rfl⟩:=GI
        have HY3:jgt (NX=YW j OUT):=ae (by rw[HY.o,jey rfl,jey rfl]);obtain⟨rfl,rfl⟩ | ⟨rfl,rfl⟩ | ⟨rfl,rfl⟩:(j=0/\ji=0)∨(j=1/\ji=1)∨(j=2/\ji=2):=by omega
        all_goals
         clear hj hji;go_wp2_with fail;refine(HC.o _).mono ?_;rintro e w3 ⟨rfl,rfl⟩;go_wp2_with fail;go_roundw
         case rel=>exact⟨_,by omega,by go_num,HYE.o _ _ (by rw[HY3.o];exact tT.o.set _ (by omega)),tU.o.set _ _⟩
         case measure=>simp[intOf]
       ·have HY3:jgt (NX=OUT):=ae (by rw[HY.o];cases ox<;>cases ky<;>first | rfl | exact absurd ⟨rfl,rfl⟩ GI)
        clear hji hj;cases ox<;>cases ky<;>try exact absurd ⟨rfl,rfl⟩ GI
        all_goals
         clear GI;go_wp2_with fail;go_roundw
         case rel=>exact⟨_,by omega,by go_num,HYE.o _ _ (by rw[HY3.o];exact tT.o),tU.o⟩
         case measure=>simp[intOf]
     ·obtain rfl:y=3:=by omega
      rw[<- XJ.o]at tT;go_wp2_with fail;go_roundw
      case rel=>exact⟨_,by omega,by go_num,tT.o,tU.o⟩
      case measure=>simp[intOf]
  ·obtain rfl:x=3:=by omega
   have HE:=ae HTJ.o;rw[HE.o]at ql;obtain⟨⟨z0,z1,z2⟩,_,_⟩:=ql.o.facts;obtain⟨⟨r0,r1,r2⟩,⟨t0,t1,t2⟩,_⟩:=(aG.o _ iy.o).2.facts;go_wp2_with fail;refine bodyPost_ret (v:=.agg #[.bool R.1,.bool R.2.1,.bool R.2.2]) (by simp[results,results156,go_sem,r0,r1,r2]) rfl ⟨rfl,?_⟩;have hz:=oM.o;have hpz:w.heap.size<=B.heap.size:=(by omega);refine(((?_:jgu w wr).setCell (p:=⟨B.heap.size,0,none⟩) hpz _).setCell (p:=⟨B.heap.size,1,none⟩) hpz _).setCell (p:=⟨B.heap.size,2,none⟩) hpz _;exact Df.o.trans (iy.o.below (by omega) (by omega))
def VM(a b:B3)(w:World):Calls prog 156 #[b3V a,b3V b,.func (.func 157) #[] #[]] w λe w'=>e=.returned (b3V (xo a b))/\jgu w w':=by
 rw[<- EB];exact Mu (λ_ _=>by kernel_rfl) (λx y hx hy=>⟨by omega,λW=>andN hx hy W⟩) a b w
def VN(a b:B3)(w:World):Calls prog 156 #[b3V a,b3V b,.func (.func 158) #[] #[]] w λe w'=>e=.returned (b3V (xp a b))/\jgu w w':=by
 rw[<- ED];exact Mu (λ_ _=>by kernel_rfl) (λx y hx hy=>⟨by omega,λW=>orN hx hy W⟩) a b w
def Flg.put{W:World}{p:Nat}{o:B3}(h:Flg W p o)(a b c:Bool):Flg (((W.setCell ⟨p,0,none⟩ (.bool a)).setCell ⟨p,1,none⟩ (.bool b)).setCell ⟨p,2,none⟩ (.bool c)) p (a,b,c):=by
 unfold Flg at *;rw[aT (aT (aT h 0 (.bool a)) 1 (.bool b)) 2 (.bool c)];rfl
def Flg.other{W:World}{p q:Nat}{o:B3}(h:Flg W q o)(hn:q≠p)(a b c:Value):Flg (((W.setCell ⟨p,0,none⟩ a).setCell ⟨p,1,none⟩ b).setCell ⟨p,2,none⟩ c) q o:=by
 unfold Flg at *;rw[heap_setCell_other _ ⟨p,2,none⟩ q _ hn,heap_setCell_other _ ⟨p,1,none⟩ q _ hn,heap_setCell_other _ ⟨p,0,none⟩ q _ hn];exact h
def Acc(w wr:World)(p:Nat)(o:B3):Prop:=jgu w wr/\Flg wr p o/\Flg wr w.heap.size (false,false,false)/\w.heap.size<p
def Acc.kept{w wr w':World}{p:Nat}{o:B3}(h:Acc w wr p o)(hb:jgu wr w'):Acc w w' p o:=⟨ai h.1 hb,h.2.1.kept hb,h.2.2.1.kept hb,h.2.2.2⟩
def Acc.put{w wr:World}{p:Nat}{o:B3}(h:Acc w wr p o)(n:B3):Acc w (((wr.setCell ⟨p,0,none⟩ (.bool n.1)).setCell ⟨p,1,none⟩ (.bool n.2.1)).setCell ⟨p,2,none⟩ (.bool n.2.2)) p n :=
 ⟨set3 h.1 (jeV h.2.2.2) _ _ _,h.2.1.put _ _ _,h.2.2.1.other (Nat.ne_of_lt h.2.2.2) _ _ _,h.2.2.2⟩
def FT{q si:Nat}{fv rv:Value}{l:List Fd}{r:List Stt}(dA:∀ x∈r,Oks x)(t:PT):Okp t->∀(w:World) (b off:Nat),pZ w q si fv rv l r->ew w b off t ->
  Calls prog 112 #[.pointer (some ⟨q,0,none⟩),.pointer (some ⟨b,off,none⟩)] w λe w'=>e=.returned (b3V (bI l r t))/\jgu w w':=by
 refine PT.ind (P:=λt=>Okp t->∀(w:World) (b off:Nat),pZ w q si fv rv l r->ew w b off t->Calls prog 112 #[.pointer (some ⟨q,0,none⟩),.pointer (some ⟨b,off,none⟩)] w λe w'=>e=.returned (b3V (bI l r t))/\jgu w w') (λop f c ks ih dD w b off hr hlies=>?_) t;have nh:=ae ih;have iy:=ae dA;simp only[Okp]at dD;obtain⟨_,_,mJ,iv⟩:=dD;have AO:=ae mJ;have mZ:=ae iv.get;have ni:=ae hr;obtain⟨a,cap,Lu,Lv⟩:=hlies.open;have Lt:=ae Lu;have HK0:=ae Lv;have cm:=Flg.new w (false,false,false);have az:=aj w (.cells #[.bool false,.bool false,.bool false] 123);simp only at cm;have sA:(w.alloc (.cells #[.bool false,.bool false,.bool false] 123)).heap.size=w.heap.size+1:=jeB _ _;have jD:=ae sA;generalize hA:w.alloc (.cells #[.bool false,.bool false,.bool false] 123)=A at *;have dN:=ae cm;have aL:=ae az;have sq:=Lu.kept az;obtain⟨_,_,Gv,Lh,mj⟩:=Lv.form;simp only[Value.slice.injEq]at Gv;obtain⟨rfl,_,rfl⟩:=Gv;have hkm':ks.length<=9223372036854775807:=by unfold maxLen at mj;omega
 obtain⟨cy,x0,x1,x2,x3,x4,x5⟩:=sq;clear hr hlies Lu Lv mJ iv dA ih mj cm az sA;have HD:jgt (bI l r (.node op f c ks)=if op=6 then mayAnd l r ks (false,false,true) else if op=7 then mayOr l r ks (true,false,false) else if op=8 then mayNot l r ks else fD l r op f c):=ae (by simp only[bI]);generalize bI l r (.node op f c ks)=R at *;by_cases h6:op=6
 ·subst h6
  rw[jey rfl]at HD;have HD':jgt (R=mayAnd l r (ks.drop 0) (false,false,true)):=HD;clear HD;go_enter func112,ntmps112
  go_wp2_with fail;clear hA;refine(tj 2 (by omega) _).mono ?_;rintro e w1 ⟨rfl,qp⟩;have bW:w.heap.size<w1.heap.size:=by have:=qp.size;have:=jD.o;omega
  have hfD:=Flg.new w1 (false,false,true);have hbD:=aj w1 (.cells #[.bool false,.bool false,.bool true] 123);simp only at hfD;have tQ:jgt (Acc w (w1.alloc (.cells #[.bool false,.bool false,.bool true] 123)) w1.heap.size (false,false,true)):=ae ⟨ai (ai aL.o qp) hbD,hfD,(dN.o.kept qp).kept hbD,bW⟩;have hnD:=((Lt.o.kept aL.o).kept qp).kept hbD;obtain⟨hb0',x0',x1',x2',x3',x4',x5'⟩:=hnD;clear x0 x1 x2 x3 x4 x5 cy qp hfD hbD;rw[show (decide (2=0))=false from rfl,show (decide (2=1))=false from rfl,show (decide (2=2))=true from rfl];go_wp2_with fail;generalize w1.heap.size=p5 at *;go_loopw [21] (λi wr=>∃(k:Nat) (acc:B3),k<=ks.length/\i=.int .i64 (k:Int)/\R=mayAnd l r (ks.drop k) acc/\Acc w wr p5 acc) (λi _=>ks.length-(intOf i).toNat)
  case atStart=>exact⟨0,_,by omega,rfl,HD'.o,tQ.o⟩
  case round =>
   obtain⟨k,acc,hk,rfl,fR,kR⟩:=hrel;have HF:=ae fR;have HA:=ae kR;clear fR kR HD' x0' x1' x2' x3' x4' x5';obtain⟨⟨p0,p1,p2⟩,⟨t0,t1,t2⟩,hpz⟩:=HA.o.2.1.facts;by_cases ar:k<ks.length
   ·obtain⟨g,o,rfl,gA⟩:=(HK0.o.kept HA.o.1).at ar
    have hlt':(k:Int)<(ks.length:Int):=(by omega);obtain⟨oL,x0,x1,x2,x3,x4,x5⟩:=Lt.o.kept HA.o.1;have HT:=ae (HF.o.trans (uz ar acc))
    have HS:jgt (∀ U,jgu wr U->U.cell? ⟨p5,0,none⟩=some (.bool acc.1)/\U.cell? ⟨p5,1,none⟩=some (.bool acc.2.1)/\U.cell? ⟨p5,2,none⟩=some (.bool acc.2.2)/\U.cell? ⟨b,off+5,none⟩=some (.slice (some ⟨g,o,none⟩) ks.length cap)):=ae (λU hU=>by
     obtain⟨⟨q0,q1,q2⟩,_,_⟩:=(HA.o.2.1.kept hU).facts;obtain⟨_,_,_,_,_,_,q5⟩:=(Lt.o.kept HA.o.1).kept hU;exact⟨q0,q1,q2,q5⟩)
    have HC:jgt (∀ U,jgu wr U->Calls prog 112 #[.pointer (some ⟨q,0,none⟩),.pointer (some ⟨g,o+k*6,none⟩)] U λe w'=>e=.returned (.agg #[.bool (bI l r ks[k]).1,.bool (bI l r ks[k]).2.1,.bool (bI l r ks[k]).2.2])/\jgu wr w'/\w'.cell? ⟨p5,0,none⟩=some (.bool acc.1)/\w'.cell? ⟨p5,1,none⟩=some (.bool acc.2.1)/\w'.cell? ⟨p5,2,none⟩=some (.bool acc.2.2)/\w'.cell? ⟨b,off+5,none⟩=some (.slice (some ⟨g,o,none⟩) ks.length cap)):=ae (λU hU=>by
     refine(nh.o ks[k] (jeD ar) (mZ.o _ (jeD ar)) U g (o+k*6) ((ni.o.kept HA.o.1).kept hU) (ew.kept hU _ _ _ gA)).mono ?_;rintro e w6 ⟨rfl,ct⟩;have h7:=ai hU ct;exact⟨rfl,h7,HS.o _ h7⟩)
    have HTG:jgt (∀ U,jgu wr U->Calls prog 156 #[.agg #[.bool acc.1,.bool acc.2.1,.bool acc.2.2],.agg #[.bool (bI l r ks[k]).1,.bool (bI l r ks[k]).2.1,.bool (bI l r ks[k]).2.2],.func (.func 157) #[] #[]] U λe w'=>e=.returned (.agg #[.bool (xo acc (bI l r ks[k])).1,.bool (xo acc (bI l r ks[k])).2.1,.bool (xo acc (bI l r ks[k])).2.2])/\jgu wr w'/\(w'.cell? ⟨p5,0,none⟩=some (.bool acc.1)/\w'.cell? ⟨p5,1,none⟩=some (.bool acc.2.1)/\w'.cell? ⟨p5,2,none⟩=some (.bool acc.2.2)/\w'.cell? ⟨b,off+5,none⟩=some (.slice (some ⟨g,o,none⟩) ks.length cap))/\(w'.frozen? ⟨p5,0,none⟩=false/\w'.frozen? ⟨p5,1,none⟩=false/\w'.frozen? ⟨p5,2,none⟩=false)):=ae (λU hU=>by
     refine(VM acc (bI l r ks[k]) U).mono ?_;rintro e w6 ⟨rfl,ct⟩;have h7:=ai hU ct;exact⟨rfl,h7,HS.o _ h7,(HA.o.2.1.kept h7).facts.2.1⟩)
    generalize bI l r ks[k]=ev at *;generalize xo acc ev=NV at *;obtain⟨ac0,ac1,ac2⟩:=acc;obtain⟨ev0,ev1,ev2⟩:=ev;obtain⟨nv0,nv1,nv2⟩:=NV;clear gA HF x0 x1 x2 x3 x4 HS;go_wp2_with fail
    go_region_with (first
     | (go_at_call 112;refine(HC.o _ ?_).mono ?_;(first | exact(jez _ _).drew | exact ak (jez _ _) _);rintro e w6 ⟨rfl,ct,GM⟩;have fV:=ae ct;clear ct)
     | (go_at_call 156;refine(HTG.o _ ?_).mono ?_;(first | exact fV.o | exact fV.o.drew | exact ak fV.o _);rintro e w7 ⟨rfl,gJ,jaz,hfz⟩;have jK:=ae gJ;clear gJ))
    all_goals clear GM jaz hfz p0 p1 p2 t0 t1 t2 x5 HC HTG
    all_goals go_wp2_with fail
    all_goals go_roundw
    all_goals first | (case rel=>exact⟨k+1,(nv0,nv1,nv2),by omega,by go_num,HT.o,(HA.o.kept jK.o).put (nv0,nv1,nv2)⟩) | (case measure=>simp[intOf];omega)
   ·obtain rfl:k=ks.length:=by omega
    have ed:¬ ((ks.length:Nat):Int)<(ks.length:Int):=(by omega);have HT:=ae (HF.o.trans (xu acc));obtain⟨⟨r0,r1,r2⟩,⟨s0,s1,s2⟩,_⟩:=HA.o.2.2.1.facts;have dC:¬ p5=w.heap.size:=by have:=HA.o.2.2.2;omega
    have sn:¬ w.heap.size=p5:=by have:=HA.o.2.2.2;omega
    clear HF;go_wp2_with fail;refine bodyPost_ret (v:=.agg #[.bool acc.1,.bool acc.2.1,.bool acc.2.2]) (by simp[results,results112,go_sem,r0,r1,r2,dC,sn]) rfl ⟨?_,set3 HA.o.1 (jeA _) _ _ _⟩;rw[HT.o];rfl
 have n6:((op:Int)==6)=false:=jeF.2 (by omega);by_cases h7:op=7
 ·subst h7
  rw[jex (by omega),jey rfl]at HD;have HD':jgt (R=mayOr l r (ks.drop 0) (true,false,false)):=HD;clear HD;go_enter func112,ntmps112
  go_wp2_with fail;clear hA;refine(tj 0 (by omega) _).mono ?_;rintro e w1 ⟨rfl,qp⟩;have bW:w.heap.size<w1.heap.size:=by have:=qp.size;have:=jD.o;omega
  have hfD:=Flg.new w1 (true,false,false);have hbD:=aj w1 (.cells #[.bool true,.bool false,.bool false] 123);simp only at hfD;have tQ:jgt (Acc w (w1.alloc (.cells #[.bool true,.bool false,.bool false] 123)) w1.heap.size (true,false,false)):=ae ⟨ai (ai aL.o qp) hbD,hfD,(dN.o.kept qp).kept hbD,bW⟩;have hnD:=((Lt.o.kept aL.o).kept qp).kept hbD;obtain⟨hb0',x0',x1',x2',x3',x4',x5'⟩:=hnD;clear x0 x1 x2 x3 x4 x5 cy qp hfD hbD;rw[show (decide (0=0))=true from rfl,show (decide (0=1))=false from rfl,show (decide (0=2))=false from rfl];go_wp2_with fail;generalize w1.heap.size=p5 at *;go_loopw [44] (λi wr=>∃(k:Nat) (acc:B3),k<=ks.length/\i=.int .i64 (k:Int)/\R=mayOr l r (ks.drop k) acc/\Acc w wr p5 acc) (λi _=>ks.length-(intOf i).toNat)
  case atStart=>exact⟨0,_,by omega,rfl,HD'.o,tQ.o⟩
  case round =>
   obtain⟨k,acc,hk,rfl,fR,kR⟩:=hrel;have HF:=ae fR;have HA:=ae kR;clear fR kR HD' x0' x1' x2' x3' x4' x5';obtain⟨⟨p0,p1,p2⟩,⟨t0,t1,t2⟩,hpz⟩:=HA.o.2.1.facts;by_cases ar:k<ks.length
   ·obtain⟨g,o,rfl,gA⟩:=(HK0.o.kept HA.o.1).at ar
    have hlt':(k:Int)<(ks.length:Int):=(by omega);obtain⟨oL,x0,x1,x2,x3,x4,x5⟩:=Lt.o.kept HA.o.1;have HT:=ae (HF.o.trans (xr ar acc))
    have HS:jgt (∀ U,jgu wr U->U.cell? ⟨p5,0,none⟩=some (.bool acc.1)/\U.cell? ⟨p5,1,none⟩=some (.bool acc.2.1)/\U.cell? ⟨p5,2,none⟩=some (.bool acc.2.2)/\U.cell? ⟨b,off+5,none⟩=some (.slice (some ⟨g,o,none⟩) ks.length cap)):=ae (λU hU=>by
     obtain⟨⟨q0,q1,q2⟩,_,_⟩:=(HA.o.2.1.kept hU).facts;obtain⟨_,_,_,_,_,_,q5⟩:=(Lt.o.kept HA.o.1).kept hU;exact⟨q0,q1,q2,q5⟩)
    have HC:jgt (∀ U,jgu wr U->Calls prog 112 #[.pointer (some ⟨q,0,none⟩),.pointer (some ⟨g,o+k*6,none⟩)] U λe w'=>e=.returned (.agg #[.bool (bI l r ks[k]).1,.bool (bI l r ks[k]).2.1,.bool (bI l r ks[k]).2.2])/\jgu wr w'/\w'.cell? ⟨p5,0,none⟩=some (.bool acc.1)/\w'.cell? ⟨p5,1,none⟩=some (.bool acc.2.1)/\w'.cell? ⟨p5,2,none⟩=some (.bool acc.2.2)/\w'.cell? ⟨b,off+5,none⟩=some (.slice (some ⟨g,o,none⟩) ks.length cap)):=ae (λU hU=>by
     refine(nh.o ks[k] (jeD ar) (mZ.o _ (jeD ar)) U g (o+k*6) ((ni.o.kept HA.o.1).kept hU) (ew.kept hU _ _ _ gA)).mono ?_;rintro e w6 ⟨rfl,ct⟩;have h7:=ai hU ct;exact⟨rfl,h7,HS.o _ h7⟩)
    have HTG:jgt (∀ U,jgu wr U->Calls prog 156 #[.agg #[.bool acc.1,.bool acc.2.1,.bool acc.2.2],.agg #[.bool (bI l r ks[k]).1,.bool (bI l r ks[k]).2.1,.bool (bI l r ks[k]).2.2],.func (.func 158) #[] #[]] U λe w'=>e=.returned (.agg #[.bool (xp acc (bI l r ks[k])).1,.bool (xp acc (bI l r ks[k])).2.1,.bool (xp acc (bI l r ks[k])).2.2])/\jgu wr w'/\(w'.cell? ⟨p5,0,none⟩=some (.bool acc.1)/\w'.cell? ⟨p5,1,none⟩=some (.bool acc.2.1)/\w'.cell? ⟨p5,2,none⟩=some (.bool acc.2.2)/\w'.cell? ⟨b,off+5,none⟩=some (.slice (some ⟨g,o,none⟩) ks.length cap))/\(w'.frozen? ⟨p5,0,none⟩=false/\w'.frozen? ⟨p5,1,none⟩=false/\w'.frozen? ⟨p5,2,none⟩=false)):=ae (λU hU=>by
     refine(VN acc (bI l r ks[k]) U).mono ?_;rintro e w6 ⟨rfl,ct⟩;have h7:=ai hU ct;exact⟨rfl,h7,HS.o _ h7,(HA.o.2.1.kept h7).facts.2.1⟩)
    generalize bI l r ks[k]=ev at *;generalize xp acc ev=NV at *;obtain⟨ac0,ac1,ac2⟩:=acc;obtain⟨ev0,ev1,ev2⟩:=ev;obtain⟨nv0,nv1,nv2⟩:=NV;clear gA HF x0 x1 x2 x3 x4 HS;go_wp2_with fail
    go_region_with (first
     | (go_at_call 112;refine(HC.o _ ?_).mono ?_;(first | exact(jez _ _).drew | exact ak (jez _ _) _);rintro e w6 ⟨rfl,ct,GM⟩;have fV:=ae ct;clear ct)
     | (go_at_call 156;refine(HTG.o _ ?_).mono ?_;(first | exact fV.o | exact fV.o.drew | exact ak fV.o _);rintro e w7 ⟨rfl,gJ,jaz,hfz⟩;have jK:=ae gJ;clear gJ))
    all_goals clear GM jaz hfz p0 p1 p2 t0 t1 t2 x5 HC HTG
    all_goals go_wp2_with fail
    all_goals go_roundw
    all_goals first | (case rel=>exact⟨k+1,(nv0,nv1,nv2),by omega,by go_num,HT.o,(HA.o.kept jK.o).put (nv0,nv1,nv2)⟩) | (case measure=>simp[intOf];omega)
   ·obtain rfl:k=ks.length:=by omega
    have ed:¬ ((ks.length:Nat):Int)<(ks.length:Int):=(by omega);have HT:=ae (HF.o.trans (Aj acc));obtain⟨⟨r0,r1,r2⟩,⟨s0,s1,s2⟩,_⟩:=HA.o.2.2.1.facts;have dC:¬ p5=w.heap.size:=by have:=HA.o.2.2.2;omega
    have sn:¬ w.heap.size=p5:=by have:=HA.o.2.2.2;omega
    clear HF;go_wp2_with fail;refine bodyPost_ret (v:=.agg #[.bool acc.1,.bool acc.2.1,.bool acc.2.2]) (by simp[results,results112,go_sem,r0,r1,r2,dC,sn]) rfl ⟨?_,set3 HA.o.1 (jeA _) _ _ _⟩;rw[HT.o];rfl
 have n7:((op:Int)==7)=false:=jeF.2 (by omega);rw[jex h6,jex h7]at HD;obtain⟨⟨p0,p1,p2⟩,⟨t0,t1,t2⟩,hpz⟩:=dN.o.facts;by_cases h8:op=8
 ·subst h8
  rw[jey rfl]at HD;cases ks with
  | nil =>
   have HD':jgt (R=(false,true,false)):=ae (by rw[HD.o];simp only[mayNot]);clear HD;simp only[jeZ]at *;go_enter func112,ntmps112
   go_wp2_with fail;refine(tj 1 (by omega) _).mono ?_;rintro e w1 ⟨rfl,qp⟩;rw[show (decide (1=0))=false from rfl,show (decide (1=1))=true from rfl,show (decide (1=2))=false from rfl];obtain⟨⟨r0,r1,r2⟩,⟨s0,s1,s2⟩,_⟩:=(dN.o.kept qp).facts;have aG:=ae (ai aL.o qp);clear qp p0 p1 p2 t0 t1 t2 hA;go_wp2_with fail;refine bodyPost_ret (v:=.agg #[.bool false,.bool true,.bool false]) (by simp[results,results112,go_sem,r0,r1,r2]) rfl ⟨?_,set3 aG.o (jeA _) _ _ _⟩;rw[HD'.o];rfl
  | cons k0 ks0 =>
   have HD':jgt (R=Ue (bI l r k0)):=ae (by rw[HD.o];simp only[mayNot]);obtain⟨g,o,rfl,gA⟩:=(HK0.o.kept aL.o).at (i:=0) (by simp);have hlt':(0:Int)<((k0::ks0).length:Int):=by simp only[jeI];omega
   have hz:(((k0::ks0).length:Int)==0)=false:=jeF.2 (by omega);have HC:=ae (nh.o k0 (by simp) (mZ.o _ (by simp)) A g (o+0*6) (ni.o.kept aL.o) (by simpa using gA));rw[Nat.zero_mul,jfk]at HC;generalize bI l r k0=ev at *;obtain⟨ev0,ev1,ev2⟩:=ev;clear gA HD;generalize (k0::ks0).length=n at *;go_enter func112,ntmps112
   go_wp2_with fail;refine HC.o.mono ?_;rintro e w2 ⟨rfl,ap⟩;have aG:=ae (ai aL.o ap);have eW:=ae (dN.o.kept ap);clear ap p0 p1 p2 t0 t1 t2 hA;unfold b3V;go_wp2_with fail;refine(Pp ev0 ev1 ev2 _).mono ?_;rintro e w3 ⟨rfl,aJ⟩;obtain⟨⟨r0,r1,r2⟩,⟨s0,s1,s2⟩,_⟩:=(eW.o.kept aJ).facts;have aY:=ae (ai aG.o aJ);clear aJ;go_wp2_with fail;refine bodyPost_ret (v:=.agg #[.bool ev2,.bool ev1,.bool ev0]) (by simp[results,results112,go_sem,r0,r1,r2]) rfl ⟨?_,set3 aY.o (jeA _) _ _ _⟩;rw[HD'.o];rfl
 ·have n8:((op:Int)==8)=false:=jeF.2 (by omega)
  rw[jex h8]at HD;clear h6 h7 h8;have HC:=ae (qc (ni.o.kept aL.o) (Lt.o.kept aL.o) AO.o iy.o);generalize fD l r op f c=ev at *;obtain⟨ev0,ev1,ev2⟩:=ev;go_enter func112,ntmps112
  go_wp2_with fail;refine HC.o.mono ?_;rintro e w2 ⟨rfl,ap⟩;have aG:=ae (ai aL.o ap);have eW:=ae (dN.o.kept ap);obtain⟨⟨r0,r1,r2⟩,⟨s0,s1,s2⟩,_⟩:=eW.o.facts;clear ap p0 p1 p2 t0 t1 t2 hA;unfold b3V;go_wp2_with fail;refine bodyPost_ret (v:=.agg #[.bool ev0,.bool ev1,.bool ev2]) (by simp[results,results112,go_sem,r0,r1,r2]) rfl ⟨?_,set3 aG.o (jeA _) _ _ _⟩;rw[HD.o];rfl
def Mv{w:World}{op f si:Nat}{c:Cl}{ks:List PT}{kv fv rv:Value}{l:List Fd}{r:List Stt}(hk:eF w kv ks)(dD:Okp (.node op f c ks))(hs:Sf w fv l)(hv:Ss w rv r)(dA:∀ x∈r,Oks x) :
  Calls prog 66 #[.agg #[.int .u8 (op:Int),.int .u32 (f:Int),.int .u8 (c.1:Int),.int .i64 c.2.1,.string (bytesT c.2.2),kv],.agg #[.int .u32 (si:Int),fv],rv] w λe w'=>e=.returned (b3V (bI l r (.node op f c ks)))/\jgu w w':=by
 have HC:=ae (λ(U:World) (b off q:Nat) hr hl=>FT (q:=q) (si:=si) (fv:=fv) (rv:=rv) (l:=l) dA (.node op f c ks) dD U b off hr hl);have HK:=ae hk;have HS:=ae hs;have HV:=ae hv;generalize bI l r (.node op f c ks)=R at *;obtain⟨R0,R1,R2⟩:=R;obtain⟨ka,kcap,rfl,_,_⟩:=hk.form;obtain⟨fa,fcap,rfl,_,_⟩:=hs.form;obtain⟨ra,rcap,rfl,_,_⟩:=hv.form;clear hk hs hv dD dA;have hn:=fE w op f c (.slice ka ks.length kcap);have az:=aj w (.cells #[.int .u8 (op:Int),.int .u32 (f:Int),.int .u8 (c.1:Int),.int .i64 c.2.1,.string (bytesT c.2.2),.slice ka ks.length kcap] 63);generalize hA:w.alloc (.cells #[.int .u8 (op:Int),.int .u32 (f:Int),.int .u8 (c.1:Int),.int .i64 c.2.1,.string (bytesT c.2.2),.slice ka ks.length kcap] 63)=A at *;have ap:=aj A (.cells #[.int .u32 (si:Int),.slice fa l.length fcap] 25);obtain⟨e0,e1⟩:=aS A (.int .u32 (si:Int)) (.slice fa l.length fcap) 25;have hzA:A.heap.size<(A.alloc (.cells #[.int .u32 (si:Int),.slice fa l.length fcap] 25)).heap.size:=by rw[jeB];omega
 generalize hB:A.alloc (.cells #[.int .u32 (si:Int),.slice fa l.length fcap] 25)=B at *;have aJ:=aj B (.cells #[.bool false,.bool false,.bool false] 123);have iC:=Flg.new B (false,false,false);simp only at iC;have g0:=(aJ.cell (p:=⟨A.heap.size,0,none⟩) hzA).trans e0;have g1:=(aJ.cell (p:=⟨A.heap.size,1,none⟩) hzA).trans e1;generalize hC:B.alloc (.cells #[.bool false,.bool false,.bool false] 123)=C at *;have bD:=aj C (.cells #[.int .u32 (si:Int),.slice fa l.length fcap,.slice ra r.length rcap] 175);obtain⟨k0,k1,k2⟩:=cO C (.int .u32 (si:Int)) (.slice fa l.length fcap) (.slice ra r.length rcap) 175;have hz:C.heap.size<(C.alloc (.cells #[.int .u32 (si:Int),.slice fa l.length fcap,.slice ra r.length rcap] 175)).heap.size:=by rw[jeB];omega
 generalize hD:C.alloc (.cells #[.int .u32 (si:Int),.slice fa l.length fcap,.slice ra r.length rcap] 175)=D at *;have iz:jgu w D:=ai (ai (ai az ap) aJ) bD;have WK:jgt (pZ D C.heap.size si (.slice fa l.length fcap) (.slice ra r.length rcap) l r):=ae ⟨hz,k0,k1,k2,HS.o.kept iz,HV.o.kept iz⟩;have za:jgt (ew D w.heap.size 0 (.node op f c ks)):=ae (ew.shut (((hn.kept ap).kept aJ).kept bD) (HK.o.kept iz));have cN:=ae iz;have XO:=ae (iC.kept bD);have CV:jgt (w.heap.size<=B.heap.size):=ae (by have:=az.size;have:=ap.size;omega);clear hn az ap aJ bD iz k0 k1 k2 hz iC;go_enter func66,ntmps66
 go_wp2_with fail;refine(HC.o _ _ _ _ WK.o za.o).mono ?_;rintro e w2 ⟨rfl,ap⟩;have aG:=ae (ai cN.o ap);obtain⟨⟨r0,r1,r2⟩,⟨s0,s1,s2⟩,_⟩:=(XO.o.kept ap).facts;clear ap hA hB hC hD e0 e1 g0 g1;unfold b3V;go_wp2_with fail;refine bodyPost_ret (v:=.agg #[.bool R0,.bool R1,.bool R2]) (by simp[results,results66,go_sem,r0,r1,r2]) rfl ⟨?_,set3 aG.o CV.o _ _ _⟩;rfl
 mutual
def lY:PT->Nat
 | .node _ _ _ ks=>1+cntAll ks
def cntAll:List PT->Nat
 | []=>0
 | k::ks=>lY k+cntAll ks
 end
 mutual
def dpM:PT->Nat
 | .node _ _ _ ks=>1+dpAll ks
def dpAll:List PT->Nat
 | []=>0
 | k::ks=>max (dpM k) (dpAll ks)
 end
def pm(a b:List PT):cntAll (a++b)=cntAll a+cntAll b:=by
 induction a with
 | nil=>simp[cntAll]
 | cons x a ih=>simp only[je5,cntAll,ih];omega
def rX(a b:List PT):dpAll (a++b)=max (dpAll a) (dpAll b):=by
 induction a with
 | nil=>simp[dpAll]
 | cons x a ih=>simp only[je5,dpAll,ih];omega
def FU{ks:List PT}{k:Nat}(h:k<ks.length):cntAll (ks.take (k+1))=cntAll (ks.take k)+lY ks[k]/\dpAll (ks.take (k+1))=max (dpAll (ks.take k)) (dpM ks[k]):=by
 rw[jeO h,pm,rX];simp[cntAll,dpAll]
def VO(ks:List PT)(k:Nat):cntAll (ks.take k)<=cntAll ks/\dpAll (ks.take k)<=dpAll ks:=by
 have h1:=pm (ks.take k) (ks.drop k);have h2:=rX (ks.take k) (ks.drop k);rw[jfz]at h1 h2;omega
def Mw(w:World)(t:PT)(m d:Nat)(e:Ending)(w':World):Prop:=(∃ n:Int,e=.returned (.int .i64 n)/\-1<=n/\n<100/\(lY t<=m->dpM t<=d->n=(m:Int)-(lY t:Nat))/\(¬ (lY t<=m/\dpM t<=d)->n<0))/\w'=w
def Qx(t:PT):∀(w:World) (b off m d:Nat),m<100->d<100->ew w b off t->Calls prog 110 #[.pointer (some ⟨b,off,none⟩),.int .i64 (m:Int),.int .i64 (d:Int)] w (Mw w t m d):=by
 refine PT.ind (P:=λt=>∀(w:World) (b off m d:Nat),m<100->d<100->ew w b off t->Calls prog 110 #[.pointer (some ⟨b,off,none⟩),.int .i64 (m:Int),.int .i64 (d:Int)] w (Mw w t m d)) (λop f c ks ih w b off m d hm hd hlies=>?_) t;have nh:=ae ih;obtain⟨a,cap,sq,nY⟩:=hlies.open;have HK:=ae nY;have hkf:=nY.form;obtain⟨_,_,Gv,Lh,mj⟩:=hkf;simp only[Value.slice.injEq]at Gv;obtain⟨rfl,_,rfl⟩:=Gv;have hkm':ks.length<=9223372036854775807:=by unfold maxLen at mj;omega
 have ix:jgt (lY (.node op f c ks)=1+cntAll ks/\dpM (.node op f c ks)=1+dpAll ks):=ae (by simp only[lY,dpM];exact⟨trivial,trivial⟩);clear hlies nY ih mj;obtain⟨cy,x0,x1,x2,x3,x4,x5⟩:=sq;have HP0:jgt (∀ w',m=0∨d=0->w'=w->Mw w (.node op f c ks) m d (.returned (.int .i64 (-1))) w'):=ae (λw' h hw=>⟨⟨-1,rfl,by omega,by omega,λh1 h2=>by have:=ix.o;omega,λ_=>by omega⟩,hw⟩);by_cases hm0:m=0
 ·subst hm0
  go_enter func110,ntmps110
  go_wp2_with fail;go_ret
  exact HP0.o _ (by simp) rfl
 have hm0':((m:Int)==0)=false:=jeF.2 (by omega);by_cases hd0:d=0
 ·subst hd0
  go_enter func110,ntmps110
  go_wp2_with fail;go_ret
  exact HP0.o _ (by simp) rfl
 have hd0':((d:Int)==0)=false:=jeF.2 (by omega);have HMD:jgt (0<m/\0<d/\m<100/\d<100):=ae ⟨by omega,by omega,hm,hd⟩;clear HP0;go_enter func110,ntmps110
 go_wp2_with fail;go_loopw [1,21] (λs i wr=>∃ k n:Nat,k<=ks.length/\i=.int .i64 (k:Int)/\s=.int .i64 (n:Int)/\n<100/\(n+1+cntAll (ks.take k)=m/\dpAll (ks.take k)+1<=d)/\wr=w) (λ_ i _=>ks.length-(intOf i).toNat)
 case atStart=>exact⟨0,m-1,by omega,rfl,by congr 1;omega,by omega,⟨by simp[cntAll];omega,by simp[dpAll];omega⟩,rfl⟩
 case round =>
  obtain⟨k,n,hk,rfl,rfl,hn,mY,rfl⟩:=hrel;have Lt:=ae mY;clear mY;by_cases ar:k<ks.length
  ·obtain⟨g,o,rfl,gA⟩:=HK.o.at ar
   have hlt':(k:Int)<(ks.length:Int):=(by omega);have hdd:((d:Int)-1)=((d-1:Nat):Int):=(by omega);have HC:jgt (∀ z:Int,z=(d:Int)-1->Calls prog 110 #[.pointer (some ⟨g,o+k*6,none⟩),.int .i64 (n:Int),.int .i64 z] wr (Mw wr ks[k] n (d-1))):=ae (λz hz=>by rw[hz,hdd];exact nh.o ks[k] (jeD ar) wr g (o+k*6) n (d-1) hn (by omega) gA);have HCT:=ae (FU ar);have mH:=ae (VO ks (k+1));clear gA hdd;generalize ks[k]=kid at *;go_wp2_with fail;refine(HC.o _ (by omega)).mono ?_;rintro e w2 ⟨⟨z,rfl,bW,aX,gy,se⟩,rfl⟩;have HZ3:=ae gy;have HZ4:=ae se;clear gy se;by_cases hz:z<0
   ·go_wp2_with fail
    go_ret
    have h1:=HCT.o;have h2:=mH.o;have h3:=ix.o;have h4:=HZ3.o;have h5:=Lt.o;have h6:=HMD.o
    exact⟨⟨z,rfl,bW,aX,λa b=>by
     have:=h4 (by omega) (by omega);omega,λ_=>hz⟩,rfl⟩
   ·obtain⟨zn,rfl⟩:∃ zn:Nat,z=(zn:Int):=⟨z.toNat,by omega⟩
    have HF:jgt (lY kid<=n/\dpM kid<=d-1):=ae (by
     by_cases h:lY kid<=n/\dpM kid<=d-1
     ·exact h
     ·have:=HZ4.o h
      omega)
    have HE:jgt (zn+lY kid=n):=ae (by
     have:=HZ3.o HF.o.1 HF.o.2;omega)
    go_wp2_with fail;go_roundw
    case rel=>exact⟨k+1,zn,by omega,by go_num,rfl,by omega,by
     have h1:=HCT.o;have h2:=HE.o;have h3:=HF.o;have h5:=Lt.o;have h6:=HMD.o;omega,trivial⟩
    case measure=>simp[intOf];omega
  ·obtain rfl:k=ks.length:=by omega
   have ed:¬ ((ks.length:Nat):Int)<(ks.length:Int):=(by omega);rw[jeJ]at Lt;go_wp2_with fail;go_ret
   have h3:=ix.o;have h5:=Lt.o;have h6:=HMD.o;exact⟨⟨(n:Int),rfl,by omega,by omega,λ_ _=>by omega,λh=>by omega⟩,rfl⟩
def yU(l:List Fd)(t:PT):Int:=if lY t<=32/\dpM t<=8 then eV l t else 90
def uQ{w:World}{op f si:Nat}{c:Cl}{ks:List PT}{kv fv:Value}{l:List Fd}(hk:eF w kv ks)(dD:Okp (.node op f c ks))(hs:Sf w fv l) :
  Calls prog 65 #[.agg #[.int .u8 (op:Int),.int .u32 (f:Int),.int .u8 (c.1:Int),.int .i64 c.2.1,.string (bytesT c.2.2),kv],.agg #[.int .u32 (si:Int),fv]] w λe w'=>e=.returned (.int .i64 (yU l (.node op f c ks)))/\jgu w w':=by
 have HK:=ae hk;have HS:=ae hs;have HO:=ae dD;obtain⟨ka,kcap,rfl,_,_⟩:=hk.form;obtain⟨fa,fcap,rfl,_,_⟩:=hs.form;clear hk hs dD;have hn:=fE w op f c (.slice ka ks.length kcap);have az:=aj w (.cells #[.int .u8 (op:Int),.int .u32 (f:Int),.int .u8 (c.1:Int),.int .i64 c.2.1,.string (bytesT c.2.2),.slice ka ks.length kcap] 63);generalize hA:w.alloc (.cells #[.int .u8 (op:Int),.int .u32 (f:Int),.int .u8 (c.1:Int),.int .i64 c.2.1,.string (bytesT c.2.2),.slice ka ks.length kcap] 63)=A at *;have ap:=aj A (.cells #[.int .u32 (si:Int),.slice fa l.length fcap] 25);obtain⟨e0,e1⟩:=aS A (.int .u32 (si:Int)) (.slice fa l.length fcap) 25;generalize hB:A.alloc (.cells #[.int .u32 (si:Int),.slice fa l.length fcap] 25)=B at *;have iz:jgu w B:=ai az ap;have za:jgt (ew B w.heap.size 0 (.node op f c ks)):=ae (ew.shut (hn.kept ap) (HK.o.kept iz));have uU:=ae (HS.o.kept iz);have cN:=ae iz;clear hn az ap iz;generalize hT:PT.node op f c ks=T at *;go_enter func65,ntmps65
 go_wp2_with fail;refine(Qx T _ _ _ 32 8 (by omega) (by omega) za.o).mono ?_;rintro e w2 ⟨⟨z,rfl,bW,aX,gy,se⟩,rfl⟩;have HZ3:=ae gy;have HZ4:=ae se;clear gy se;by_cases hz:z<0
 ·have HM:jgt (yU l T=90):=ae (by
   unfold yU;rw[jex];rintro⟨h1,h2⟩;have:=HZ3.o h1 h2;omega)
  go_wp2_with fail;go_ret
  rw[HM.o];exact⟨rfl,cN.o⟩
 ·have HM:jgt (yU l T=eV l T):=ae (by
   unfold yU;rw[jey];by_cases h:lY T<=32/\dpM T<=8
   ·exact h
   ·exact absurd (HZ4.o h) hz)
  go_wp2_with fail;refine(xU T HO.o _ _ _ uU.o za.o).mono ?_;rintro e w3 ⟨rfl,aJ⟩;have aY:=ae aJ;clear aJ;go_wp2_with fail;go_ret
  rw[HM.o];exact⟨rfl,ai cN.o aY.o⟩
def xor8{a b:Nat}(ha:a<256)(hb:b<256):bits .xor .u8 (a:Int) (b:Int)=((a ^^^ b:Nat):Int):=u8_xor_nat a b ha hb
def FV{w:World}(ht:Tab w):Calls prog 9 #[] w λe w'=>e=.returned (.bool true)/\jgu w w':=by
 have HT:=ae ht;clear ht;go_enter func9,ntmps9
 go_wp2_with fail;refine(Qu _).mono ?_;rintro e w1 ⟨⟨v1,rfl,o1⟩,az⟩;obtain⟨a1,c1,rfl,_,_⟩:=bn o1;simp only[show fq.length=2 from rfl]at *;have ap:=aj w1 (.cells #[.int .u32 1,.slice a1 2 c1] 25);have aX:(w1.alloc (.cells #[.int .u32 1,.slice a1 2 c1] 25)).heap.size=w1.heap.size+1:=jeB _ _;obtain⟨x0,x1⟩:=aS w1 (.int .u32 1) (.slice a1 2 c1) 25;obtain⟨uW,iV⟩:=VL (w1.alloc (.cells #[.int .u32 1,.slice a1 2 c1] 25));rw[aX]at uW iV;have tV:=ai az ap;have zk:=ae (ai tV (iV.mono (by omega)));have HW:=ae (nT (HT.o.kept zk.o) ((o1.sf.kept ap).kept (iV.mono (by omega))) uW okA (show (1:Nat)<4294967296 by omega) (λr hr=>(pj r hr).2) 1);rw[VH]at HW;simp only at HW;have HTW:=ae (HT.o.kept zk.o);clear az ap uW iV tV o1 aX;go_wp2_with fail;refine HW.o.mono ?_;rintro e w6 ⟨⟨v6,rfl,o6⟩,ct⟩;have oJ:=ae o6;have HT6:=ae (HTW.o.kept ct);have fV:=ae (ai zk.o ct);have jdA:=o6.sv;obtain⟨a6,c6,rfl,_,_⟩:=bn o6;have AU:=ae (qi HT6.o jdA bsA (by have:=jcs.2;omega));have HSV6:=ae jdA;clear ct o6 jdA HW HTW zk x0 x1;go_wp2_with fail;refine AU.o.mono ?_;rintro e w7 ⟨⟨c,hc,_⟩ | ⟨id,fs,g,gs,fp,fv,ho,rfl,vQ,RU⟩,gJ⟩
 ·rw[jaV]at hc;cases hc
 rw[jaV]at ho;simp only[Except.ok.injEq,Prod.mk.injEq]at ho;obtain⟨rfl,rfl,rfl,rfl⟩:=ho;have zi:jgt (Fil w7 w6.heap.size fp 1 fv gsA):=ae vQ;have yY:=ae RU;have jK:=ae (ai fV.o gJ);have HT7:=ae (HT6.o.kept gJ);have HSV7:=ae (HSV6.o.kept gJ);have WK:=ae (KO zi.o (by rw[ZJ];decide));rw[ZJ]at WK;simp only[show (rA.length:Int)=2 from rfl]at WK;clear vQ RU gJ AU HSV6;go_wp2_with fail;refine WK.o.mono ?_;rintro e w8 ⟨rfl,kO⟩;have HF8:=ae (zi.o.kept kO);have Xl:=ae (yY.o.kept kO);have xZ:=ae (ai jK.o kO);have HT8:=ae (HT7.o.kept kO);have HSV8:=ae (HSV7.o.kept kO);have sI:=ae (Cv HF8.o);simp only[show (gsA.length:Int)=2 from rfl]at sI;clear kO WK zi yY HT7 HSV7;go_wp2_with fail;refine sI.o.mono ?_;rintro e w8' ⟨rfl,rfl⟩;clear sI
 have GS:=ae (xX (op:=1) (f:=1) (c:=(1,2,[])) (ks:=[]) HF8.o Xl.o.sf (rW _) (λU rv r hU iF WO=>Ez (rW U) jcz lenpA (Xl.o.sf.kept hU) iF WO) (λU rv sts hU hss hos=>Mv (rW U) jcz (Xl.o.sf.kept hU) hss hos) (λr hr=>by
  rw[ZJ]at hr;exact⟨by have:=ob (pj r hr).1;rw[this];decide,(pj r hr).2⟩) (by rw[ZJ];decide) (by decide) oksA 0 1 [rA2] (λ_=>⟨jcx.symm,jcy.symm⟩) (λh=>absurd rfl h) (λU hU=>by
  refine(uQ (op:=1) (f:=1) (c:=(1,2,[])) (ks:=[]) (si:=1) (rW U) jcz (Xl.o.sf.kept hU)).mono ?_;rintro e w' ⟨rfl,hb⟩;exact⟨by rw[show yU fq (.node 1 1 (1,2,[]) [])=0 by unfold yU;rw[jey (by simp[lY,cntAll,dpM,dpAll])];exact jct],hb⟩))
 simp only[dF]at GS;go_wp2_with fail;refine GS.o.mono ?_;rintro e w9 ⟨⟨v9,l9,rfl,ho9,hsn9⟩,yr⟩
 obtain⟨rv,rfl⟩:∃ rv,l9=[(rv,rA2)]:=by
  match l9,hsn9 with
  | [(rv,r)],h =>
   have:r=rA2:=by simpa using h
   exact⟨rv,by rw[this]⟩
 obtain⟨a9,c9,rfl,_,_⟩:=ho9.form;obtain⟨g9,rfl,hg9,Xm,Xn⟩:=ho9.at (k:=0) (show 0<1 by omega);simp only[jeI,jeZ,jeU,jfY]at *;obtain⟨ra9,rc9,rfl,_,_⟩:=bn Xn;simp only[show rA2.length=2 from rfl]at *;have HR9:=ae Xn;have HCE:=ae Xm;have HB9:=ae (ai xZ.o yr);have HT9:=ae (HT8.o.kept yr);have HSV9:=ae (HSV8.o.kept yr);have HG9:=ae hg9;have XB:=ae (en w9 (.cells #[] 5));have RE:=ae (wy w9);have iw:=ae (HSV9.o.kept XB.o);have QM:=jcs;clear yr ho9 hsn9 Xn Xm hg9 GS HSV8 HT8 HF8 Xl;go_wp2_with (first | (at_builtin;refine eE rfl _ _ rfl w9.heap.size _ _ [] bA rfl ?q1 rfl ?q2 ?k1 ?k2 ?_))
 case q1=>exact RE.o
 case q2=>exact iw.o
 case k1=>simp only[jeZ];omega
 case k2=>rw[jeB];omega
 intro v10 w10 o10 b10 _ _;have jbG:=XB.o.trans b10;obtain⟨g,cap,rfl,hBg,RD⟩:=o10.form (by omega);obtain⟨eP,dA⟩:=o10.at QM.1;have hx5:=bsA _ (jeD QM.1);have hxx:bits .xor .u8 ((bA[5]'QM.1:Nat):Int) 1=((bA[5]'QM.1 ^^^ 1:Nat):Int):=xor8 (b:=1) hx5 (by omega);have cF:=ae (o10.stored 5 (bA[5]'QM.1 ^^^ 1));have hB11:jgu w9 (w10.setCell ⟨g,5,none⟩ (.int .u8 ((bA[5]'QM.1 ^^^ 1:Nat):Int))):=jbG.setCell hBg _;have jaE:=ae hB11
 have HX8:jgt (Bs (bA.set 5 (bA[5]'QM.1 ^^^ 1))):=ae (λx hx=>by
  rcases List.mem_or_eq_of_mem_set hx with h | rfl
  ·exact bsA x h
  ·have:bA[5]'QM.1 ^^^ 1<2 ^ 8:=jgm hx5 (by omega)
   omega)
 have HTU:=ae turnA;have HBL:jgt ((bA.set 5 (bA[5]'QM.1 ^^^ 1)).length=bA.length):=ae jf7;have HOP2:=ae (qi (HT9.o.kept hB11) cF.o.sv HX8.o (by rw[HBL.o];omega));have hlt5:(5:Int)<(bA.length:Int):=by omega
 clear XB RE iw o10 b10 jbG hB11;generalize bA.set 5 (bA[5]'QM.1 ^^^ 1)=bB at *;generalize bA[5]'QM.1 ^^^ 1=z at *;generalize bA[5]'QM.1=y at *;go_wp2_with fail;refine HOP2.o.mono ?_;rintro e w12 ⟨⟨c,hc,rfl⟩ | ⟨id,fs,g',gs,fp',fv',ho,_⟩,tV⟩
 case inr=>rw[HTU.o]at ho;cases ho
 rw[HTU.o]at hc;obtain rfl:101=c:=by simpa using hc
 have jaF:=jaE.o.trans (tV.mono jaE.o.size);have bC:=(jaF.cell (p:=⟨g9,0,none⟩) HG9.o).trans HCE.o;have ft:=HR9.o.kept jaF;have zk:=ae (ai HB9.o jaF);have CR:=ae (Ac ft.sv Cx (by decide));clear tV jaF hc HOP2 ft;go_wp2_with fail;refine CR.o.mono ?_;rintro e w13 ⟨⟨v13,rfl,o13⟩,GC⟩;have Xo:=ae (ai zk.o GC);have iV:=aj w13 (.cells #[.int .u8 1,.int .i64 2,.string ⟨#[]⟩,.int .u8 0,.int .i64 0,.string ⟨#[]⟩] 52);have Xk:dQ (w13.alloc (.cells #[.int .u8 1,.int .i64 2,.string ⟨#[]⟩,.int .u8 0,.int .i64 0,.string ⟨#[]⟩] 52)) w13.heap.size (.slice (some ⟨w13.heap.size,0,none⟩) 2 2) rA2:=jcw w13 rA2 (by decide);have sg:=ae (ut (o13.sc.kept iV) Xk.sc (λc hc=>(Cx c hc).bsA) (λc hc=>(Cx c hc).bsA));obtain⟨a13,c13,rfl,_,_⟩:=bn o13;have HBL2:=ae (ai Xo.o iV);simp only[show rA2.length=2 from rfl,decide_true]at *;clear o13 GC iV Xk CR bC;go_wp2_with fail;refine sg.o.mono ?_;rintro e w14 ⟨rfl,hb14⟩;have HB14:=ae (ai HBL2.o hb14);clear hb14;go_wp2_with fail;go_ret
 exact⟨rfl,HB14.o⟩
def VP(fs:List Fd)(most:Nat)(l:List (Value×Row)):Prop:=VJ l/\l.length<=most/\∀ x∈l,iY fs x.2=0
def VP.fit{fs:List Fd}{most:Nat}{l:List (Value×Row)}(h:VP fs most l):gG fs (l.map Prod.snd):=λr hr=>by
 obtain⟨x,hx,rfl⟩:=jeN.1 hr;exact⟨h.2.2 x hx,(h.1.2 x hx).2⟩
def Ocb(W:World)(B B2:Nat)(v:Value)(l:List (Value×Row)):Prop:=W.ownsRow B 58 1 v l.length (l.map Prod.fst)/\∀ x∈l,dQ W B2 x.1 x.2
def Ocb.nil(W:World)(B B2:Nat):Ocb W B B2 (.slice none 0 0) []:=⟨jfh _ _ _ _,λx hx=>by simp at hx⟩
def Ocb.kept{W W':World}{B B2:Nat}{v:Value}{l:List (Value×Row)}(h:Ocb W B B2 v l)(hb:jgu W W'):Ocb W' B B2 v l:=⟨bv h.1 hb,λx hx=>(h.2 x hx).kept hb⟩
def Ocb.oc{W:World}{B B2 B':Nat}{v:Value}{l:List (Value×Row)}(h:Ocb W B B2 v l)(h1:B'<=B)(h2:B'<=B2):Oc W B' v l:=⟨tE h.1 h1,λx hx=>dQ.low' (h.2 x hx) h2⟩
def yV{w:World}(ty:TypeId)(base base2:Nat)(v vx:Value)(l0 l:List (Value×Row))(ax:Ocb w base base2 v l0)(eg:Sv w vx (l.map Prod.fst))(hr:∀ x∈l,dQ w base2 x.1 x.2)(hbytes:l0.length+l.length<=1000000)(aF:base<=w.heap.size) :
  ∃ v' w',(Builtin.append_ #[26,26] ty #[v,vx]).run prog w=.ok v' w'/\Ocb w' base base2 v' (l0++l)/\Below base w w':=by
 obtain⟨i0,hi,bR,hz1',aX⟩:=jeT Ku;obtain⟨ad,cap,rfl,h1,h2,h3,h4⟩:=eg;rw[jeE]at *
 have one:∀ x∈l.map Prod.fst,x.oneCell'=true:=λx hx=>by
  obtain⟨y,hy,rfl⟩:=jeN.1 hx;obtain⟨a,n,c,e⟩:=dI (hr y hy);rw[e];rfl
 cases ad with
 | none =>
  have hc:=h3 rfl;subst hc;have hl:l=[]:=jeW (by omega);subst hl;have hr:=jgb (P:=prog) (w:=w) base 26 ty 58 i0 1 underlying26 hi v l0.length (l0.map Prod.fst) ax.1;refine⟨v,w,hr,by rw[jeS];exact ax,jez _ _⟩
 | some ad =>
  obtain⟨v',w',vP,o1,g1,_,e1⟩:=run_append_own_at (P:=prog) w base 26 ty 58 i0 (.slice none 0 0) 1 24 underlying26 hi bR hz1' aX rfl (by decide) v l0.length (l0.map Prod.fst) ax.1 ad l.length cap (l.map Prod.fst) (by rw[jeE];omega)
   (λj u hu=>by
    have hj:j<l.length:=by
     have:=(List.getElem?_eq_some_iff.1 hu).1;rwa[jeE]at this
    obtain⟨b,off,h5,_,h6⟩:=h4 (by omega);cases h5
    rw[kP];exact h6 j u hu) one (by unfold maxLen;omega) (by omega) aF
  have keep:∀ y:Value×Row,dQ w base2 y.1 y.2->dQ w' base2 y.1 y.2:=λy hy =>
   bT hy λk hk=>g1.block k (aN hy hk).2.1 (λe=>ey hy ax.1 (by decide) hk e.symm)
  refine⟨v',w',vP,⟨?_,λy hy=>?_⟩,(jez base w).grown g1 aF (λk hk=>(ax.1.lt k hk).1)⟩
  ·rw[jeC,jeR]
   exact o1
  ·rcases je1.1 hy with hy | hy
   ·exact keep y (ax.2 y hy)
   ·exact keep y (hr y hy)
def CA{w:World}{o:Oper}{a:Act}{K:Act->World->Prop}{Q:Exit->Act->World->Prop}(s x:Operand)
  (ho:o.op=.call { callee:=.builtin .append,args:=#[s,x],argTypes:=#[26,26] })
  (base base2:Nat) (v vx:Value) (l0 l:List (Value×Row)) (hs:a.eval s=v) (ax:Ocb w base base2 v l0) (hx:a.eval x=vx) (eg:Sv w vx (l.map Prod.fst)) (hr:∀ x∈l,dQ w base2 x.1 x.2) (hbytes:l0.length+l.length<=1000000) (aF:base<=w.heap.size)
  (h:∀ v' w',Ocb w' base base2 v' (l0++l)->Below base w w'->K (a.put o.dst v') w'):Oper.wp prog o a w K Q:=by
 obtain⟨v',w',hr,h2,h3⟩:=yV o.type base base2 v vx l0 l ax eg hr hbytes aF;unfold Oper.wp execOp;simp only[ho,resolve,invoke,builtin,Sem.run_bind,Sem.run_pure,Result.andThen_ok,jfN,je4,jfr,hs,hx,hr];exact h v' w' h2 h3
def tK{w:World}{ops:Array Oper}{rest:List Oper}{o:Oper}{a:Act}{Q:Exit->Act->World->Prop}(ef:o.guard=none)(s x:Operand)
  (ho:o.op=.call { callee:=.builtin .append,args:=#[s,x],argTypes:=#[26,26] })
  (base base2:Nat) (v vx:Value) (l0 l:List (Value×Row)) (hs:a.eval s=v) (ax:Ocb w base base2 v l0) (hx:a.eval x=vx) (eg:Sv w vx (l.map Prod.fst)) (hr:∀ x∈l,dQ w base2 x.1 x.2) (hbytes:l0.length+l.length<=1000000) (aF:base<=w.heap.size)
  (h:∀ v' w',Ocb w' base base2 v' (l0++l)->Below base w w'->wpList prog ops Q rest (a.put o.dst v') w') :
  wpList prog ops Q (o::rest) a w :=
 wpList_plain ef λK hK=>CA s x ho base base2 v vx l0 l hs ax hx eg hr hbytes aF λv' w' h1 h2=>hK _ _ (h v' w' h1 h2)
def KQ{w:World}{v fv:Value}{fs:List Fd}{rs:List Row}(hs:Sr w v rs)(hf:Sf w fv fs)(ho:∀ r∈rs,∀ c∈r,Okc c)(id:Nat)(most:Nat) :
  Calls prog 16 #[.agg #[.int .u32 (id:Int),fv],v,.int .i64 (most:Int)] w λe w'=>(∃ v' l,e=.returned v'/\Oc w' w.heap.size v' l/\VP fs most l)/\jgu w w':=by
 obtain⟨fa,fc,rfl,_,_⟩:=hf.form;obtain⟨a,cap,rfl,_,_⟩:=hs.form;have cy:=aj w (.cells #[.int .u32 (id:Int),.slice fa fs.length fc] 25);obtain⟨x0,x1⟩:=aS w (.int .u32 (id:Int)) (.slice fa fs.length fc) 25;have bR:(w.alloc (.cells #[.int .u32 (id:Int),.slice fa fs.length fc] 25)).heap.size=w.heap.size+1:=jeB _ _;generalize hA:w.alloc (.cells #[.int .u32 (id:Int),.slice fa fs.length fc] 25)=A at *
 have HT:jgt (∀ U,jgu A U->U.cell? ⟨w.heap.size,0,none⟩=some (.int .u32 (id:Int))/\U.cell? ⟨w.heap.size,1,none⟩=some (.slice fa fs.length fc)):=ae (λU hU =>
  ⟨(hU.cell (p:=⟨w.heap.size,0,none⟩) (by show w.heap.size<_;omega)).trans x0,(hU.cell (p:=⟨w.heap.size,1,none⟩) (by show w.heap.size<_;omega)).trans x1⟩)
 have GT:=ae (FS (hs.kept cy) ho);have HS:=ae (hf.kept cy);have ce:=ae cy;have HZ0:=ae bR;clear hs hf ho cy x0 x1 bR;go_enter func16,ntmps16
 go_wp2_with fail;try rw[hA]
 clear hA;refine GT.o.mono ?_;rintro e w1 ⟨⟨v1,rs2,rfl,dM,cm⟩,az⟩;have fX:=ae dM;have aL:=ae az;have dN:=ae cm;obtain⟨a1,c1,rfl,ju,jv,_⟩:=dM.form;have hc2':c1<=9223372036854775807:=by unfold maxLen at jv;omega
 have sj:=cm.1;clear dM az cm;go_wp2_with fail;go_loopw [7,9] (λo i wr=>∃(j:Nat) (l:List (Value×Row)),j<=rs2.length/\i=.int .i64 (j:Int)/\Ocb wr w1.heap.size A.heap.size o l/\l.length<=j/\l.length<=most/\(∀ x∈l,(x.2.length<=20/\∀ c∈x.2,aI c)/\iY fs x.2=0)/\jgu w1 wr) (λ_ i _=>rs2.length-(intOf i).toNat)
 case atStart=>exact⟨0,[],by omega,rfl,Ocb.nil _ _ _,by simp,by simp,λx hx=>by simp at hx,jez _ _⟩
 case round =>
  obtain⟨j,l,hj,rfl,how,hlj,hlm,eI,ao⟩:=hrel;have sL:=ae how;have HB:=ae (ai aL.o ao);have HBR:=ae ao;have ql:=ae eI;have bF:=(ai aL.o ao).size;have jdB:=ao.size;obtain⟨la,lc,rfl,De,hl2'⟩:=bn how.1;clear how ao eI;by_cases ar:j<rs2.length
  ·have hlt':(j:Int)<(rs2.length:Int):=by omega
   by_cases hm:l.length<most
   ·have hm':(l.length:Int)<(most:Int):=by omega
    obtain⟨g,rfl,hg,bC,mJ⟩:=(fX.o.kept HBR.o).at ar;obtain⟨d0,d1⟩:=HT.o wr HB.o;have HRJ:=ae (dN.o.2 _ (jeD ar));obtain⟨ra,rc,uW,Rg,CT⟩:=bn mJ
    have CQ:jgt (∀ U,jgu wr U->Calls prog 43 #[.agg #[.int .u32 (id:Int),.slice fa fs.length fc],.slice ra rs2[j].2.length rc] U λe w'=>e=.returned (.int .i64 (iY fs rs2[j].2:Int))/\jgu wr w'):=ae (λU hU=>by
     have h1:=mJ.sc.kept hU;rw[uW]at h1;refine(Jp (HS.o.kept (HB.o.trans (hU.mono bF))) h1 id).mono ?_;rintro e w' ⟨rfl,hb⟩;exact⟨rfl,ai hU hb⟩)
    rw[uW]at bC mJ;have AO:=ae mJ;have HCE:jgt (∀ U,jgu wr U->U.cell? ⟨g,j,none⟩=some (.slice ra rs2[j].2.length rc)):=ae (λU hU=>(hU.cell (p:=⟨g,j,none⟩) hg).trans bC);obtain⟨F,hF⟩:∃ F,iY fs rs2[j].2=F:=⟨_,rfl⟩;rw[hF]at CQ;have WD:=ae hF;clear mJ uW hF;generalize rs2[j].2=r at *;go_upto_region 6 with fail
    go_cut [30] from 39 (λv wx=>v=.bool ((F:Int)==0)/\jgu wr wx)
    case first =>
     refine wp_region_noPanic ?_
     go_region_law (first
      | (go_simp;go_at_call 43;refine(CQ.o _ ?_).mono ?_;exact ak (jez wr.heap.size wr) _;rintro e w5 ⟨rfl,bQ⟩;have bq:=ae bQ;clear bQ;dsimp only)
      | fail)
     all_goals refine NoPanic.normal ?_
     all_goals go_wp2_with fail
     all_goals go_meet
     all_goals exact⟨rfl,bq.o⟩
    case rest =>
    obtain⟨rfl,yj⟩:=hcut;obtain⟨w5,hw5⟩:∃ w5,w5=wc:=⟨_,rfl⟩;subst hw5;have bq:=ae yj;have sk:=yj.size;have dK:=ae (sL.o.kept yj);have sy:=ae (AO.o.kept yj);have eP:=HCE.o w5 yj;clear yj bC d0 d1 sL AO CQ HCE;by_cases hF0:F=0
    ·have hFz:((F:Int)==0)=true:=by rw[hF0];rfl
     have ix:=ae (aV w5 (.slice ra r.length rc) 58);go_wp2_with (first | (at_builtin;refine tK rfl _ _ rfl w1.heap.size A.heap.size _ _ l [(.slice ra r.length rc,r)] rfl (dK.o.kept (aj _ _)) rfl (lm ix.o (by rw[jeB];omega)) ?c1 ?c2 ?c3 ?_))
     case c1 =>
      intro x hx;rw[je9.1 hx];exact(sy.o.kept (aj _ _)).low' (jeA _)
     case c2=>simp only[je7];omega
     case c3=>rw[jeB];omega
     intro v' w6 o6 b6;have oJ:=ae o6;have fV:=ae (((HBR.o.trans (bq.o.mono jdB)).alloc (jeK jdB sk) _).trans b6);clear o6 b6;go_wp2_with fail;go_roundw
     case rel =>
      refine⟨j+1,_,by omega,by go_num,oJ.o,by rw[jeC];simp only[je7];omega,by rw[jeC];simp only[je7];omega,λx hx=>?_,fV.o⟩;rcases je1.1 hx with hx | hx
      ·exact ql.o x hx
      ·rw[je9.1 hx];exact⟨HRJ.o,WD.o.trans hF0⟩
     case measure=>simp[intOf];omega
    ·have hFz:((F:Int)==0)=false:=by simp;omega
     have fV:=ae (HBR.o.trans (bq.o.mono jdB));go_wp2_with fail;go_roundw
     case rel=>exact⟨j+1,l,by omega,by go_num,dK.o,by omega,hlm,ql.o,fV.o⟩
     case measure=>simp[intOf];omega
   ·have hm':¬ (l.length:Int)<(most:Int):=by omega
    have hzw:w.heap.size<=A.heap.size:=by have:=HZ0.o;omega
    have sp:w.heap.size<=w1.heap.size:=jeK hzw aL.o.size;have Xp:jgt (VP fs most l):=ae ⟨⟨by omega,λx hx=>(ql.o x hx).1⟩,hlm,λx hx=>(ql.o x hx).2⟩;go_wp2_with fail;go_ret
    first | exact⟨⟨_,_,rfl,sL.o.oc sp hzw,Xp.o⟩,ai ce.o HB.o⟩ | exact⟨⟨_,rfl,_,sL.o.oc sp hzw,Xp.o⟩,ai ce.o HB.o⟩
  ·have ed:¬ (j:Int)<(rs2.length:Int):=by omega
   have hzw:w.heap.size<=A.heap.size:=by have:=HZ0.o;omega
   have sp:w.heap.size<=w1.heap.size:=jeK hzw aL.o.size;have Xp:jgt (VP fs most l):=ae ⟨⟨by omega,λx hx=>(ql.o x hx).1⟩,hlm,λx hx=>(ql.o x hx).2⟩;go_wp2_with fail;go_ret
   first | exact⟨⟨_,_,rfl,sL.o.oc sp hzw,Xp.o⟩,ai ce.o HB.o⟩ | exact⟨⟨_,rfl,_,sL.o.oc sp hzw,Xp.o⟩,ai ce.o HB.o⟩
end Go.Proofs.YtpljdjmpamjkhaaGreatDoor
