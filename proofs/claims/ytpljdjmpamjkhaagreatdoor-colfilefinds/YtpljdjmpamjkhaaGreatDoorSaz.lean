import Derived.Test.YtpljdjmpamjkhaaGreatDoorSay
set_option linter.all false
set_option maxRecDepth 100000
set_option maxHeartbeats 8000000
namespace Go.Proofs.YtpljdjmpamjkhaaGreatDoor
open Tryz
open Go.RowKit Go.Lib
def Mz{p n:Nat}{W W':World}(h:Fr p n W W'){q:Addr}(h1:q.block<n)(h2:q.block≠p):W'.cell? q=W.cell? q:=by
 unfold World.cell?;rw[h.block q.block h1 h2]
def Flg.fr{p n k:Nat}{W W':World}{o:B3}(h:Flg W k o)(hf:Fr p n W W')(h1:k<n)(h2:k≠p):Flg W' k o:=by
 unfold Flg at *;rw[hf.block k h1 h2];exact h
def Gb(l:List Fd)(r:List Stt)(si:Nat)(t:PT):Prop:=∀(op f:Nat) (c:Cl) (ks:List PT),t=.node op f c ks->Okp t->jT t->∀(w:World) (kv fv rv:Value),Sf w fv l->Ss w rv r->eF w kv ks ->
  Calls prog 68 #[.agg #[.int .u8 (op:Int),.int .u32 (f:Int),.int .u8 (c.1:Int),.int .i64 c.2.1,.string (bytesT c.2.2),kv],.agg #[.int .u32 (si:Int),fv],rv] w λe w'=>e=.returned (b3V (bI l r t))/\jgu w w'
def Flg.get{W:World}{p x:Nat}{o:B3}(h:Flg W p o)(hx:x<3):W.cell? ⟨p,x,none⟩=some (.bool (dR o x)):=by
 obtain⟨⟨h0,h1,h2⟩,_⟩:=h.facts;obtain rfl | rfl | rfl:x=0∨x=1∨x=2:=by omega
 ·exact h0
 ·exact h1
 ·exact h2
def jcD:Bool->B3->B3->B3
 | true=>xp
 | false=>xo
def Wc:Bool->List Fd->List Stt->List PT->B3->B3
 | true=>mayOr
 | false=>mayAnd
def QI(s:Bool)(a b:B3):pO (jnS s) a b 3=jcD s a b:=by
 cases s
 ·exact EB a b
 ·exact ED a b
def QJ(s:Bool){l:List Fd}{r:List Stt}{ks:List PT}{i:Nat}(h:i<ks.length)(a:B3):Wc s l r (ks.drop i) a=Wc s l r (ks.drop (i+1)) (jcD s a (bI l r ks[i])):=by
 cases s
 ·exact uz h a
 ·exact xr h a
def Wd(s:Bool){l:List Fd}{r:List Stt}{ks:List PT}(a:B3):Wc s l r (ks.drop ks.length) a=a:=by
 cases s
 ·exact xu a
 ·exact Aj a
def We{si:Nat}{l:List Fd}{r:List Stt}(dA:∀ x∈r,Oks x)(op f:Nat)(c:Cl)(ks:List PT)(ih:∀ k∈ks,Gb l r si k)(s:Bool)(qo:op=cond s 7 6)(dD:Okp (.node op f c ks))(dB:jT (.node op f c ks))(w:World)(kv fv rv:Value)(hs:Sf w fv l)(hr:Ss w rv r)(hk:eF w kv ks) :
  Calls prog 68 #[.agg #[.int .u8 (op:Int),.int .u32 (f:Int),.int .u8 (c.1:Int),.int .i64 c.2.1,.string (bytesT c.2.2),kv],.agg #[.int .u32 (si:Int),fv],rv] w λe w'=>e=.returned (b3V (bI l r (.node op f c ks)))/\jgu w w':=by
 simp only[Okp]at dD;simp only[jT]at dB;obtain⟨_,_,mJ,iv⟩:=dD;obtain⟨⟨Gg,XW,GD⟩,oa⟩:=dB;have nh:=ae ih;have HK:=ae hk;have HS:=ae hs;have HR:=ae hr;have AO:=ae mJ;have mZ:=ae iv.get;have iw:=ae oa.get;have MJ:=ae GD;have iy:=ae dA;obtain⟨ka,kcap,rfl,Lh,mj⟩:=hk.form;obtain⟨fa,fcap,rfl,_,_⟩:=hs.form;obtain⟨ra,rcap,rfl,_,CJ⟩:=hr.form;have hkm':ks.length<=9223372036854775807:=by unfold maxLen at mj;omega
 have hrm':rcap<=9223372036854775807:=by unfold maxLen at CJ;omega
 clear hk hs hr ih mj CJ iv mJ oa GD dA;obtain⟨iz,hn,e0,e1,hsB⟩:=AC w op f c (.slice ka ks.length kcap) si (.slice fa l.length fcap);generalize hZ:(w.alloc (.cells #[.int .u8 (op:Int),.int .u32 (f:Int),.int .u8 (c.1:Int),.int .i64 c.2.1,.string (bytesT c.2.2),.slice ka ks.length kcap] 63)).alloc (.cells #[.int .u32 (si:Int),.slice fa l.length fcap] 25)=Z at *;have cN:=ae iz;have HN:=ae hn;have wg:=ae (HK.o.kept cN.o);have uU:=ae (HS.o.kept cN.o);have Xq:=ae (HR.o.kept cN.o);obtain⟨cy,x0,x1,x2,x3,x4,x5⟩:=HN.o;clear hn iz HK HS HR;have q6:((op:Int)==6)=!s:=by rw[qo];cases s<;>rfl
 have q7:((op:Int)==7)=s:=by rw[qo];cases s<;>rfl
 have HD:jgt (bI l r (.node op f c ks)=Wc s l r (ks.drop 0) (s,false,!s)):=ae (by rw[qo];cases s<;>simp only[bI,cond]<;>rfl);generalize bI l r (.node op f c ks)=R at *;have cm:=Flg.new Z (false,false,false);have hbF:=aj Z (.cells #[.bool false,.bool false,.bool false] 123);simp only at cm;have cM:=Flg.new (Z.alloc (.cells #[.bool false,.bool false,.bool false] 123)) (s,false,!s);have hbG:=aj (Z.alloc (.cells #[.bool false,.bool false,.bool false] 123)) (.cells #[.bool s,.bool false,.bool (!s)] 123);simp only at cM;have hsZ:(Z.alloc (.cells #[.bool false,.bool false,.bool false] 123)).heap.size=Z.heap.size+1:=jeB _ _;have tQ:jgt (Acc Z ((Z.alloc (.cells #[.bool false,.bool false,.bool false] 123)).alloc (.cells #[.bool s,.bool false,.bool (!s)] 123)) (Z.heap.size+1) (s,false,!s)):=ae ⟨ai hbF hbG,hsZ ▸ cM,cm.kept hbG,by omega⟩;have HZS:=ae hsB;have sp:w.heap.size+1<Z.heap.size:=by omega
 clear cm cM hbF hbG hsZ qo Gg XW;subst hZ;clear hsB;obtain⟨J,hJ⟩:∃ J,jnS s=J:=⟨_,rfl⟩;have HTG:=ae (QI s);have cF:=ae (λi h a=>QJ s (l:=l) (r:=r) (ks:=ks) (i:=i) h a);have HEN:=ae (λa=>Wd s (l:=l) (r:=r) (ks:=ks) a);rw[hJ]at HTG;generalize Wc s l r=MS at *;generalize jcD s=TS at *;cases s
 all_goals
  simp only[Bool.not_true,Bool.not_false]at *;have HJ:=ae hJ;clear hJ;go_enter func68,ntmps68
  go_upto_region 6 with fail
  generalize (w.alloc (.cells #[.int .u8 (op:Int),.int .u32 (f:Int),.int .u8 (c.1:Int),.int .i64 c.2.1,.string (bytesT c.2.2),.slice ka ks.length kcap] 63)).alloc (.cells #[.int .u32 (si:Int),.slice fa l.length fcap] 25)=Z at *;have hzq:=HZS.o;have HP7:jgt (Z.heap.size+1=w.heap.size+1+1+1):=ae (by omega);have AV:jgt (Z.heap.size=w.heap.size+1+1):=ae (by omega);rw[HP7.o]at tQ;clear x0 x1 x2 x3 x4 x5 hzq;go_wp2_with fail;go_loopw [8] (λi wr=>∃(k:Nat) (o:B3),k<=ks.length/\i=.int .i64 (k:Int)/\R=MS (ks.drop k) o/\Acc Z wr (w.heap.size+1+1+1) o) (λi _=>ks.length-(intOf i).toNat)
  case atStart=>exact⟨0,_,by omega,rfl,HD.o,tQ.o⟩
  case round =>
   obtain⟨k,o,hk,rfl,fR,kR⟩:=hrel;have HF:=ae fR;have HA:=ae kR;clear fR kR HD tQ;obtain⟨hb1',x0,x1,x2,x3,x4,x5⟩:=HN.o.kept HA.o.1;by_cases ar:k<ks.length
   ·obtain⟨g,off,rfl,gA⟩:=(wg.o.kept HA.o.1).at ar
    have hlt':(k:Int)<(ks.length:Int):=(by omega);have HT:=ae (HF.o.trans (cF.o k ar o));have sg:=ae (uU.o.kept HA.o.1);have RX:=ae (Xq.o.kept HA.o.1);have HM:=ae (nh.o ks[k] (jeD ar));have XU:=ae (mZ.o ks[k] (jeD ar));have Gk:=ae (iw.o ks[k] (jeD ar));generalize ks[k]=kid at *;obtain⟨op1,f1,c1,ks1⟩:=kid;obtain⟨a1,cap1,eX,ec⟩:=gA.open;have Rh:=ae ec;have me:=ae eX;have RM:=ae (λ(U:World) (hU:jgu wr U)=>HM.o op1 f1 c1 ks1 rfl XU.o Gk.o U _ _ _ (sg.o.kept hU) (RX.o.kept hU) (Rh.o.kept hU));generalize bI l r (.node op1 f1 c1 ks1)=kb at *;obtain⟨kb0,kb1,kb2⟩:=kb;have Ri:=ae e0;have Di:=ae e1
    have MW:jgt (∀ U,jgu wr U->(U.cell? ⟨w.heap.size+1,0,none⟩=some (.int .u32 (si:Int))/\U.cell? ⟨w.heap.size+1,1,none⟩=some (.slice fa l.length fcap))/\U.cell? ⟨w.heap.size,0+5,none⟩=some (.slice (some ⟨g,off,none⟩) ks.length kcap)/\U.cell? ⟨g,off+k*6,none⟩=some (.int .u8 (op1:Int))/\U.cell? ⟨g,off+k*6+1,none⟩=some (.int .u32 (f1:Int))/\U.cell? ⟨g,off+k*6+2,none⟩=some (.int .u8 (c1.1:Int))/\U.cell? ⟨g,off+k*6+3,none⟩=some (.int .i64 c1.2.1)/\U.cell? ⟨g,off+k*6+4,none⟩=some (.string (bytesT c1.2.2))/\U.cell? ⟨g,off+k*6+5,none⟩=some (.slice a1 ks1.length cap1)):=ae (λU hU=>by
     have mK:=ai HA.o.1 hU;obtain⟨_,y0,y1,y2,y3,y4,y5⟩:=me.o.kept hU;obtain⟨_,_,_,_,_,_,z5⟩:=HN.o.kept mK;exact⟨⟨(mK.cell (p:=⟨w.heap.size+1,0,none⟩) sp).trans Ri.o,(mK.cell (p:=⟨w.heap.size+1,1,none⟩) sp).trans Di.o⟩,z5,y0,y1,y2,y3,y4,y5⟩)
    have H68:jgt (∀ U,jgu wr U->Calls prog 68 #[.agg #[.int .u8 (op1:Int),.int .u32 (f1:Int),.int .u8 (c1.1:Int),.int .i64 c1.2.1,.string (bytesT c1.2.2),.slice a1 ks1.length cap1],.agg #[.int .u32 (si:Int),.slice fa l.length fcap],.slice ra r.length rcap] U λe w'=>e=.returned (.agg #[.bool kb0,.bool kb1,.bool kb2])/\jgu wr w'):=ae (λU hU=>(RM.o U hU).mono λe w' h=>⟨h.1,ai hU h.2⟩);have H68b:jgt (∀ U,jgu wr U->Flg U wr.heap.size (false,false,false)->Calls prog 68 #[.agg #[.int .u8 (op1:Int),.int .u32 (f1:Int),.int .u8 (c1.1:Int),.int .i64 c1.2.1,.string (bytesT c1.2.2),.slice a1 ks1.length cap1],.agg #[.int .u32 (si:Int),.slice fa l.length fcap],.slice ra r.length rcap] U λe w'=>e=.returned (.agg #[.bool kb0,.bool kb1,.bool kb2])/\jgu wr w'/\Flg w' wr.heap.size (false,false,false)):=ae (λU hU eI=>(RM.o U hU).mono λe w' h=>⟨h.1,ai hU h.2,eI.kept h.2⟩);clear gA HF eX ec x0 x1 x2 x3 x4 RM;go_upto_region 9 with fail
    clear x5 e0 e1;obtain⟨⟨q0,q1⟩,z5,y0,y1,y2,y3,y4,y5⟩:=MW.o wr (jez _ _);obtain⟨⟨q0',q1'⟩,z5',y0',y1',y2',y3',y4',y5'⟩:=MW.o (wr.alloc (.cells #[.bool false,.bool false,.bool false] 123)) (aj _ _);go_cut [9] from 252 (λv wx=>∃ p9,v=.pointer (some ⟨p9,0,none⟩)/\Flg wx p9 (kb0,kb1,kb2)/\wr.heap.size<=p9/\jgu wr wx)
    case first =>
     refine wp_region_noPanic ?_
     go_region_law (first
      | (go_simp;go_at_call 68;refine(H68b.o _ ?_ ?_).mono ?_;(first | exact(aj _ _).drew | exact aj _ _ | exact((jez _ _).drew).alloc (jeA _) _ | exact(ak (jez _ _) _).alloc (jeA _) _);(first | exact Flg.new _ (false,false,false));rintro e y ⟨rfl,mK,eI⟩;obtain⟨⟨q0,q1⟩,z5,y0,y1,y2,y3,y4,y5⟩:=MW.o y mK;obtain⟨⟨v0,v1,v2⟩,⟨t0,t1,t2⟩,_⟩:=eI.facts;have XO:=ae eI;have CV:=ae mK;clear mK eI;dsimp only)
      | (go_simp;go_at_call 68;refine(H68.o _ ?_).mono ?_;(first | exact(jez _ _).drew | exact ak (jez _ _) _);rintro e y ⟨rfl,mK⟩;obtain⟨⟨q0,q1⟩,z5,y0,y1,y2,y3,y4,y5⟩:=MW.o y mK;have CV:=ae mK;clear mK;dsimp only)
      | fail)
     all_goals refine NoPanic.normal ?_
     all_goals go_wp2_with fail
     all_goals go_meet
     all_goals first | exact⟨_,rfl,Flg.new _ (kb0,kb1,kb2),CV.o.size,CV.o.alloc CV.o.size _⟩ | exact⟨_,rfl,XO.o.put kb0 kb1 kb2,jeA _,set3 CV.o (jeA _) _ _ _⟩
    case rest =>
    obtain⟨p9,rfl,hf9,hp9,sJ⟩:=hcut;obtain⟨X,hX⟩:∃ X,X=wc:=⟨_,rfl⟩;subst hX;obtain⟨o0,o1,o2⟩:=o;have HAX:=ae (HA.o.kept sJ);have h7:=HA.o.2.1.facts.2.2;have h9:=hf9.facts.2.2;have hD0:=Flg.new X (false,false,false);have hbD:=aj X (.cells #[.bool false,.bool false,.bool false] 123);simp only at hD0;have hsD:(X.alloc (.cells #[.bool false,.bool false,.bool false] 123)).heap.size=X.heap.size+1:=jeB _ _;have HD9:=ae (hf9.kept hbD);have HAD:=ae (HAX.o.kept hbD);have HND:=ae (HN.o.kept HAD.o.1);have HDQ:=ae hD0;have HTJ:jgt (pO (J) (o0,o1,o2) (kb0,kb1,kb2) 3=TS (o0,o1,o2) (kb0,kb1,kb2)):=ae (HTG.o _ _);clear q0 q1 z5 y0 y1 y2 y3 y4 y5 q0' q1' z5' y0' y1' y2' y3' y4' y5' hf9 sJ hD0 hbD MW H68 H68b HM XU Gk Rh me sg RX Ri Di HAX;go_upto_region 11 with fail
    generalize X.alloc (.cells #[.bool false,.bool false,.bool false] 123)=D at *;generalize X.heap.size=p10 at *;have HSD:jgt (D.heap.size=p10+1/\p9<p10/\w.heap.size+1+1+1<wr.heap.size/\wr.heap.size<=p9/\w.heap.size<wr.heap.size):=ae ⟨hsD,h9,h7,hp9,hb1'⟩
    have Dh:jgt (∀ U,Fr p10 D.heap.size D U->Flg U (w.heap.size+1+1+1) (o0,o1,o2)/\Flg U p9 (kb0,kb1,kb2)/\U.cell? ⟨w.heap.size,0,none⟩=some (.int .u8 (op:Int))):=ae (λU hU=>by
     obtain⟨g1,g2,g3,g4,g5⟩:=HSD.o;exact⟨HAD.o.2.1.fr hU (by omega) (by omega),HD9.o.fr hU (by omega) (by omega),(Mz hU (q:=⟨w.heap.size,0,none⟩) (show w.heap.size<_ by omega) (show w.heap.size≠_ by omega)).trans HND.o.2.1⟩)
    have HAF:jgt (∀ U,Fr p10 D.heap.size D U->Acc Z U (w.heap.size+1+1+1) (o0,o1,o2)):=ae (λU hU=>by
     obtain⟨g1,g2,g3,g4,g5⟩:=HSD.o;have g6:=AV.o;exact⟨HAD.o.1.trans (hU.below (by omega) (by omega)),HAD.o.2.1.fr hU (by omega) (by omega),HAD.o.2.2.1.fr hU (by omega) (by omega),HAD.o.2.2.2⟩)
    clear hsD h9 h7 hp9 hb1';go_wp2_with fail;go_loopw [11] (λi wa=>∃ x:Nat,x<=3/\i=.int .i64 (x:Int)/\Flg wa p10 (pO (J) (o0,o1,o2) (kb0,kb1,kb2) x)/\Fr p10 D.heap.size D wa) (λi _=>3-(intOf i).toNat)
    case atStart=>exact⟨0,by omega,rfl,HDQ.o,Fr.refl _ _ _⟩
    case round =>
     obtain⟨x,hx,rfl,eI,dA⟩:=hrel;have ql:=ae eI;have iy:=ae dA;clear eI dA HDQ;by_cases hx3:x<3
     ·have XJ:jgt (pO J (o0,o1,o2) (kb0,kb1,kb2) (x+1)=vm J (o0,o1,o2) (kb0,kb1,kb2) x 3 (pO J (o0,o1,o2) (kb0,kb1,kb2) x)):=ae rfl
      obtain⟨T,hT⟩:∃ T,T=pO J (o0,o1,o2) (kb0,kb1,kb2) x:=⟨_,rfl⟩;rw[<- hT]at XJ ql;have HXA:jgt (∀ y,vm J (o0,o1,o2) (kb0,kb1,kb2) x (y+1) T=EA J (o0,o1,o2) (kb0,kb1,kb2) x y (vm J (o0,o1,o2) (kb0,kb1,kb2) x y T)):=ae (λy=>rfl);have zj:jgt (vm J (o0,o1,o2) (kb0,kb1,kb2) x 0 T=T):=ae rfl;obtain⟨ox,hox⟩:∃ ox,dR (o0,o1,o2) x=ox:=⟨_,rfl⟩;obtain⟨xi,hxi⟩:∃ xi:Int,xi=x:=⟨_,rfl⟩;unfold EA at HXA;rw[hox]at HXA;have HOX:jgt (∀ U,Fr p10 D.heap.size D U->U.cell? ⟨w.heap.size+1+1+1,x,none⟩=some (.bool ox)):=ae (λU hU=>by rw[<- hox];exact(Dh.o U hU).1.get hx3);rw[<- hxi];generalize vm J (o0,o1,o2) (kb0,kb1,kb2) x=RW at *;clear hT hox;obtain⟨rfl,rfl⟩ | ⟨rfl,rfl⟩ | ⟨rfl,rfl⟩:(x=0/\xi=0)∨(x=1/\xi=1)∨(x=2/\xi=2):=by omega
      all_goals
       clear hx hx3 hxi;go_wp2_with fail;go_loopw [12] (λi wb=>∃ y:Nat,y<=3/\i=.int .i64 (y:Int)/\Flg wb p10 (RW y T)/\Fr p10 D.heap.size D wb) (λi _=>3-(intOf i).toNat)
       case atStart=>exact⟨0,by omega,rfl,by rw[zj.o];exact ql.o,iy.o⟩
       case round =>
        obtain⟨y,hy,rfl,eI,dA⟩:=hrel;have tT:=ae eI;have tU:=ae dA;clear eI dA ql iy zj;by_cases hy3:y<3
        ·have HY:=ae (HXA.o y)
         generalize RW y T=OUT at *;generalize hyn:RW (y+1) T=NX at *;have HYE:jgt (∀ U,Flg U p10 NX->Flg U p10 (RW (y+1) T)):=ae (λU h=>by rw[hyn];exact h);obtain⟨⟨z0,z1,z2⟩,⟨t0,t1,t2⟩,hpz⟩:=tT.o.facts;obtain⟨ky,hky⟩:∃ ky,dR (kb0,kb1,kb2) y=ky:=⟨_,rfl⟩;obtain⟨yi,Wp⟩:∃ yi:Int,yi=y:=⟨_,rfl⟩;have a0:=HOX.o _ tU.o;have b0:=(Dh.o _ tU.o).2.1.get hy3;have xop:=(Dh.o _ tU.o).2.2;have a1:=λj=>HOX.o _ (tU.o.set j (.bool true))
         have b1:=λj=>(Dh.o _ (tU.o.set j (.bool true))).2.1.get hy3
         have xop1:=λj=>(Dh.o _ (tU.o.set j (.bool true))).2.2
         rw[hky]at HY b0;simp only[hky]at b1;rw[<- Wp];clear hyn hky;obtain⟨rfl,rfl⟩ | ⟨rfl,rfl⟩ | ⟨rfl,rfl⟩:(y=0/\yi=0)∨(y=1/\yi=1)∨(y=2/\yi=2):=by omega
         all_goals
          clear hy hy3 Wp;by_cases GI:ox=true/\ky=true
          ·obtain⟨rfl,rfl⟩:=GI
           have HY3:=ae (HY.o.trans ((jey rfl).trans (jey rfl)));have m1:∀ a b:Int,min a b=if a<=b then a else b:=λ_ _=>rfl;have m2:∀ a b:Int,max a b=if a<=b then b else a:=λ_ _=>rfl;go_wp2_with fail;go_roundw
           case rel=>exact⟨_,by omega,by go_num,HYE.o _ (by rw[HY3.o,<- HJ.o];exact tT.o.set _ (by decide)),tU.o.set _ _⟩
           case measure=>simp[intOf]
          ·have HY3:jgt (NX=OUT):=ae (by rw[HY.o];cases ox<;>cases ky<;>first | rfl | exact absurd ⟨rfl,rfl⟩ GI)
           clear a1 b1 xop1;cases ox<;>cases ky<;>try exact absurd ⟨rfl,rfl⟩ GI
           all_goals
            clear GI;go_wp2_with fail;go_roundw
            case rel=>exact⟨_,by omega,by go_num,HYE.o _ (by rw[HY3.o];exact tT.o),tU.o⟩
            case measure=>simp[intOf]
        ·obtain rfl:y=3:=by omega
         rw[<- XJ.o]at tT;go_wp2_with fail;go_roundw
         case rel=>exact⟨_,by omega,by go_num,tT.o,tU.o⟩
         case measure=>simp[intOf]
     ·obtain rfl:x=3:=by omega
      rw[HTJ.o]at ql;have HNV:=ae HT.o;generalize TS (o0,o1,o2) (kb0,kb1,kb2)=nv at *;obtain⟨n0,n1,n2⟩:=nv;obtain⟨⟨z0,z1,z2⟩,_,_⟩:=ql.o.facts;have HA7:=ae (HAF.o _ iy.o);obtain⟨⟨a0,a1',a2⟩,⟨t0,t1,t2⟩,_⟩:=HA7.o.2.1.facts;go_wp2_with fail;go_roundw
      case rel=>exact⟨k+1,(n0,n1,n2),by omega,by go_num,HNV.o,HA7.o.put (n0,n1,n2)⟩
      case measure=>simp[intOf];omega
   ·obtain rfl:k=ks.length:=by omega
    have ed:¬ ((ks.length:Nat):Int)<(ks.length:Int):=(by omega);have HT:=ae (HF.o.trans (HEN.o o));obtain⟨o0,o1,o2⟩:=o;obtain⟨⟨a0,a1',a2⟩,_,_⟩:=HA.o.2.1.facts;have RQ:=HA.o.2.2.1;rw[AV.o]at RQ;obtain⟨⟨r0,r1,r2⟩,⟨t0,t1,t2⟩,_⟩:=RQ.facts;clear HF RQ;go_wp2_with fail;refine bodyPost_ret (v:=.agg #[.bool o0,.bool o1,.bool o2]) (by simp[results,results68,go_sem,r0,r1,r2]) rfl ⟨by rw[HT.o];rfl,?_⟩;have GO:=AV.o;have hz8:=cN.o.size;exact set3 (ai cN.o HA.o.1) (by omega) _ _ _
def ZM{si:Nat}{l:List Fd}{r:List Stt}(dA:∀ x∈r,Oks x)(op f:Nat)(c:Cl)(ks:List PT)(ih:∀ k∈ks,Gb l r si k)(qo:op=8)(dD:Okp (.node op f c ks))(dB:jT (.node op f c ks))(w:World)(kv fv rv:Value)(hs:Sf w fv l)(hr:Ss w rv r)(hk:eF w kv ks) :
  Calls prog 68 #[.agg #[.int .u8 (op:Int),.int .u32 (f:Int),.int .u8 (c.1:Int),.int .i64 c.2.1,.string (bytesT c.2.2),kv],.agg #[.int .u32 (si:Int),fv],rv] w λe w'=>e=.returned (b3V (bI l r (.node op f c ks)))/\jgu w w':=by
 simp only[Okp]at dD;simp only[jT]at dB;obtain⟨_,_,mJ,iv⟩:=dD;obtain⟨⟨Gg,XW,GD⟩,oa⟩:=dB;have nh:=ae ih;have HK:=ae hk;have HS:=ae hs;have HR:=ae hr;have AO:=ae mJ;have mZ:=ae iv.get;have iw:=ae oa.get;have MJ:=ae GD;have iy:=ae dA;obtain⟨ka,kcap,rfl,Lh,mj⟩:=hk.form;obtain⟨fa,fcap,rfl,_,_⟩:=hs.form;obtain⟨ra,rcap,rfl,_,CJ⟩:=hr.form;have hkm':ks.length<=9223372036854775807:=by unfold maxLen at mj;omega
 have hrm':rcap<=9223372036854775807:=by unfold maxLen at CJ;omega
 clear hk hs hr ih mj CJ iv mJ oa GD dA;obtain⟨iz,hn,e0,e1,hsB⟩:=AC w op f c (.slice ka ks.length kcap) si (.slice fa l.length fcap);generalize hZ0:(w.alloc (.cells #[.int .u8 (op:Int),.int .u32 (f:Int),.int .u8 (c.1:Int),.int .i64 c.2.1,.string (bytesT c.2.2),.slice ka ks.length kcap] 63)).alloc (.cells #[.int .u32 (si:Int),.slice fa l.length fcap] 25)=Z0 at *;have cN:=ae iz;have HN:=ae hn;have wg:=ae (HK.o.kept cN.o);have uU:=ae (HS.o.kept cN.o);have Xq:=ae (HR.o.kept cN.o);obtain⟨cy,x0,x1,x2,x3,x4,x5⟩:=HN.o;clear hn iz HK HS HR;have q6:((op:Int)==6)=false:=jeF.2 (by omega);have q7:((op:Int)==7)=false:=jeF.2 (by omega);have q8:((op:Int)==8)=true:=by rw[qo];rfl
 have AU:=ae qo;have cm:=Flg.new Z0 (false,false,false);have hbF:=aj Z0 (.cells #[.bool false,.bool false,.bool false] 123);simp only at cm;rw[hsB]at cm;have sp:w.heap.size+1<Z0.heap.size:=by omega
 have jD:jgt ((Z0.alloc (.cells #[.bool false,.bool false,.bool false] 123)).heap.size=w.heap.size+1+1+1):=ae (by rw[jeB,hsB]);have dN:=ae cm;have fx:=ae (ai cN.o hbF);have yu:=ae (HN.o.kept hbF);have sg:=ae (uU.o.kept hbF);have RX:=ae (Xq.o.kept hbF);have HKR:=ae (wg.o.kept hbF);have hE0:=(hbF.cell (p:=⟨w.heap.size+1,0,none⟩) sp).trans e0;have hE1:=(hbF.cell (p:=⟨w.heap.size+1,1,none⟩) sp).trans e1;have Ri:=ae hE0;have Di:=ae hE1;clear cm hbF e0 e1 hsB x0 x1 x2 x3 x4 x5 cy sp hE0 hE1;clear qo Gg XW;subst hZ0;cases ks with
 | nil =>
  have HD:jgt (bI l r (.node op f c [])=(false,true,false)):=ae (by
   rw[AU.o];simp only[bI,mayNot];rfl)
  generalize bI l r (.node op f c [])=R at *;have tN:([]:List PT).length=0:=rfl;rw[tN]at *;obtain⟨cy,x0,x1,x2,x3,x4,x5⟩:=yu.o;obtain⟨⟨r0,r1,r2⟩,⟨t0,t1,t2⟩,_⟩:=dN.o.facts;go_enter func68,ntmps68
  go_wp2_with fail;refine bodyPost_ret (v:=.agg #[.bool false,.bool true,.bool false]) (by simp[results,results68,go_sem,r0,r1,r2]) rfl ⟨by rw[HD.o];rfl,?_⟩;exact cN.o.alloc cN.o.size _
 | cons kid ks' =>
 have HD:jgt (bI l r (.node op f c (kid::ks'))=Ue (bI l r kid)):=ae (by
  rw[AU.o];simp only[bI,mayNot];rfl)
 generalize bI l r (.node op f c (kid::ks'))=R at *;obtain⟨g,o,rfl,gA⟩:=HKR.o.at (i:=0) (by simp);simp only[jfY,Nat.zero_mul,jfk]at gA;have HM:=ae (nh.o kid (by simp));have XU:=ae (mZ.o kid (by simp));have Gk:=ae (iw.o kid (by simp));obtain⟨op1,f1,c1,ks1⟩:=kid;obtain⟨a1,cap1,eX,ec⟩:=gA.open;have Rh:=ae ec;have me:=ae eX;have De:¬ (((PT.node op1 f1 c1 ks1::ks').length:Nat):Int)=0:=by simp only[jeI];omega
 have qs:((((PT.node op1 f1 c1 ks1::ks').length:Nat):Int)==0)=false:=jeF.2 De;have hl3:0<(PT.node op1 f1 c1 ks1::ks').length:=by simp
 have hl4:(0:Int)<(((PT.node op1 f1 c1 ks1::ks').length:Nat):Int):=by omega
 generalize (PT.node op1 f1 c1 ks1::ks').length=m at *;obtain⟨cy,x0,x1,x2,x3,x4,x5⟩:=yu.o;clear gA eX ec;go_enter func68,ntmps68
 go_upto_region 24 with fail
 generalize ((w.alloc (.cells #[.int .u8 (op:Int),.int .u32 (f:Int),.int .u8 (c.1:Int),.int .i64 c.2.1,.string (bytesT c.2.2),.slice (some ⟨g,o,none⟩) m kcap] 63)).alloc (.cells #[.int .u32 (si:Int),.slice fa l.length fcap] 25)).alloc (.cells #[.bool false,.bool false,.bool false] 123)=A at *;have RM:=ae (λ(U:World) (hU:jgu A U)=>HM.o op1 f1 c1 ks1 rfl XU.o Gk.o U _ _ _ (sg.o.kept hU) (RX.o.kept hU) (Rh.o.kept hU));generalize bI l r (.node op1 f1 c1 ks1)=kb at *;obtain⟨kb0,kb1,kb2⟩:=kb
 have MW:jgt (∀ U,jgu A U->(U.cell? ⟨w.heap.size+1,0,none⟩=some (.int .u32 (si:Int))/\U.cell? ⟨w.heap.size+1,1,none⟩=some (.slice fa l.length fcap))/\U.cell? ⟨w.heap.size,0+5,none⟩=some (.slice (some ⟨g,o,none⟩) m kcap)/\U.cell? ⟨g,o,none⟩=some (.int .u8 (op1:Int))/\U.cell? ⟨g,o+1,none⟩=some (.int .u32 (f1:Int))/\U.cell? ⟨g,o+2,none⟩=some (.int .u8 (c1.1:Int))/\U.cell? ⟨g,o+3,none⟩=some (.int .i64 c1.2.1)/\U.cell? ⟨g,o+4,none⟩=some (.string (bytesT c1.2.2))/\U.cell? ⟨g,o+5,none⟩=some (.slice a1 ks1.length cap1)):=ae (λU hU=>by
  obtain⟨_,y0,y1,y2,y3,y4,y5⟩:=me.o.kept hU;obtain⟨_,_,_,_,_,_,z5⟩:=yu.o.kept hU;have hz:=jD.o;exact⟨⟨(hU.cell (p:=⟨w.heap.size+1,0,none⟩) (show w.heap.size+1<_ by omega)).trans Ri.o,(hU.cell (p:=⟨w.heap.size+1,1,none⟩) (show w.heap.size+1<_ by omega)).trans Di.o⟩,z5,y0,y1,y2,y3,y4,y5⟩)
 have H68:jgt (∀ U,jgu A U->Calls prog 68 #[.agg #[.int .u8 (op1:Int),.int .u32 (f1:Int),.int .u8 (c1.1:Int),.int .i64 c1.2.1,.string (bytesT c1.2.2),.slice a1 ks1.length cap1],.agg #[.int .u32 (si:Int),.slice fa l.length fcap],.slice ra r.length rcap] U λe w'=>e=.returned (.agg #[.bool kb0,.bool kb1,.bool kb2])/\jgu A w'):=ae (λU hU=>(RM.o U hU).mono λe w' h=>⟨h.1,ai hU h.2⟩);have H68b:jgt (∀ U,jgu A U->Flg U A.heap.size (false,false,false)->Calls prog 68 #[.agg #[.int .u8 (op1:Int),.int .u32 (f1:Int),.int .u8 (c1.1:Int),.int .i64 c1.2.1,.string (bytesT c1.2.2),.slice a1 ks1.length cap1],.agg #[.int .u32 (si:Int),.slice fa l.length fcap],.slice ra r.length rcap] U λe w'=>e=.returned (.agg #[.bool kb0,.bool kb1,.bool kb2])/\jgu A w'/\Flg w' A.heap.size (false,false,false)):=ae (λU hU eI=>(RM.o U hU).mono λe w' h=>⟨h.1,ai hU h.2,eI.kept h.2⟩);clear x0 x1 x2 x3 x4 RM;go_upto_region 26 with fail
 clear x5;obtain⟨⟨q0,q1⟩,z5,y0,y1,y2,y3,y4,y5⟩:=MW.o A (jez _ _);obtain⟨⟨q0',q1'⟩,z5',y0',y1',y2',y3',y4',y5'⟩:=MW.o (A.alloc (.cells #[.bool false,.bool false,.bool false] 123)) (aj _ _);go_cut [13] from 252 (λv wx=>∃ p9,v=.pointer (some ⟨p9,0,none⟩)/\Flg wx p9 (kb0,kb1,kb2)/\A.heap.size<=p9/\jgu A wx)
 case first =>
  refine wp_region_noPanic ?_
  go_region_law (first
   | (go_simp;go_at_call 68;refine(H68b.o _ ?_ ?_).mono ?_;(first | exact(aj _ _).drew | exact aj _ _ | exact((jez _ _).drew).alloc (jeA _) _ | exact(ak (jez _ _) _).alloc (jeA _) _);(first | exact Flg.new _ (false,false,false));rintro e y ⟨rfl,mK,eI⟩;obtain⟨⟨q0,q1⟩,z5,y0,y1,y2,y3,y4,y5⟩:=MW.o y mK;obtain⟨⟨v0,v1,v2⟩,⟨t0,t1,t2⟩,_⟩:=eI.facts;have XO:=ae eI;have CV:=ae mK;clear mK eI;dsimp only)
   | (go_simp;go_at_call 68;refine(H68.o _ ?_).mono ?_;(first | exact(jez _ _).drew | exact ak (jez _ _) _);rintro e y ⟨rfl,mK⟩;obtain⟨⟨q0,q1⟩,z5,y0,y1,y2,y3,y4,y5⟩:=MW.o y mK;have CV:=ae mK;clear mK;dsimp only)
   | fail)
  all_goals refine NoPanic.normal ?_
  all_goals go_wp2_with fail
  all_goals go_meet
  all_goals first | exact⟨_,rfl,Flg.new _ (kb0,kb1,kb2),CV.o.size,CV.o.alloc CV.o.size _⟩ | exact⟨_,rfl,XO.o.put kb0 kb1 kb2,jeA _,set3 CV.o (jeA _) _ _ _⟩
 case rest =>
 obtain⟨p9,rfl,hf9,hp9,sJ⟩:=hcut;have qm:=ae (ai fx.o sJ);have MV:=ae (dN.o.kept sJ);obtain⟨⟨v0,v1,v2⟩,_,_⟩:=hf9.facts;obtain⟨⟨r0,r1,r2⟩,⟨t0,t1,t2⟩,_⟩:=MV.o.facts;clear q0 q1 z5 y0 y1 y2 y3 y4 y5 q0' q1' z5' y0' y1' y2' y3' y4' y5' hf9 sJ hp9;go_wp2_with fail;refine bodyPost_ret (v:=.agg #[.bool kb2,.bool kb1,.bool kb0]) (by simp[results,results68,go_sem,r0,r1,r2]) rfl ⟨by rw[HD.o];rfl,?_⟩;exact set3 qm.o (by omega) _ _ _
def eq3{R:B3}{a b c:Bool}(h:R=(a,b,c)):b3V R=.agg #[.bool a,.bool b,.bool c]:=by rw[h];rfl
def Wf(u:Bool)(v lo hi:Cl)(hg:Bool):(!(hg && decide (aD v lo=0) && decide (aD v hi=0) && iN v),u,decide (0<=aD v lo) && !(hg && decide (0<aD v hi)))
  = ((((!decide (aD v lo=0)) || !hg || !decide (aD v hi=0)) || !iN v),u,(!decide (aD v lo<0)) && (!hg || !decide (aD hi v<0))):=by
 have h1:decide (0<=aD v lo)=!decide (aD v lo<0):=by
  rw[<- decide_not];exact decide_eq_decide.2 (by omega)
 have h2:decide (0<aD v hi)=decide (aD hi v<0):=by
  rw[eM v hi];exact decide_eq_decide.2 (by omega)
 rw[h1,h2];generalize decide (aD v lo=0)=a;generalize decide (aD v hi=0)=b;generalize decide (aD v lo<0)=d;generalize decide (aD hi v<0)=e;generalize iN v=m;cases hg<;>cases a<;>cases b<;>cases d<;>cases e<;>cases m<;>rfl
def Wg(u:Bool)(v lo hi:Cl)(hg:Bool):(!(hg && decide (0<aD v hi)),u,decide (0<aD v lo))=((!hg || !decide (aD hi v<0)),u,decide (aD lo v<0)):=by
 have h2:decide (0<aD v hi)=decide (aD hi v<0):=by
  rw[eM v hi];exact decide_eq_decide.2 (by omega)
 have h1:decide (0<aD v lo)=decide (aD lo v<0):=by
  rw[eM v lo];exact decide_eq_decide.2 (by omega)
 rw[h1,h2];generalize decide (aD hi v<0)=e;cases hg<;>cases e<;>rfl
def KU(u:Bool)(v lo hi:Cl)(hg:Bool):(!(hg && decide (0<=aD v hi)),u,decide (0<=aD v lo))=((!hg || decide (aD v hi<0)),u,!decide (aD v lo<0)):=by
 have h1:decide (0<=aD v lo)=!decide (aD v lo<0):=by
  rw[<- decide_not];exact decide_eq_decide.2 (by omega)
 have h2:decide (0<=aD v hi)=!decide (aD v hi<0):=by
  rw[<- decide_not];exact decide_eq_decide.2 (by omega)
 rw[h1,h2];generalize decide (aD v hi<0)=e;cases hg<;>cases e<;>rfl
def AG{v:Cl}(hf:aI v):(v.1=3->(!iN v)=decide (4<=(V (lb (bytesT v.2.2))).length))/\(v.1≠3->iN v=true):=by
 unfold iN;refine⟨λ_=>?_,λh=>?_⟩
 ·rw[<- decide_not]
  exact decide_eq_decide.2 (by omega)
 ·have h2:v.2.2=[]:=by
   rcases hf with rfl | ⟨n,rfl,_⟩ | ⟨n,rfl,_⟩ | ⟨s,rfl,_,_⟩
   ·rfl
   ·rfl
   ·rfl
   ·exact absurd rfl h
  rw[h2];refine jeP ?_;have:=sM (lb (bytesT []));rw[bK,be]at this;simp only[jeZ]at this;omega
def jaY(k n:Int)(s:ByteArray)(k' n':Int)(s':ByteArray)(w:World):(binOp .neq 52 (.agg #[.int .u8 k,.int .i64 n,.string s]) (.agg #[.int .u8 k',.int .i64 n',.string s'])).run prog w=.ok (.bool (!decide (cv k n s k' n' s'=0))) w:=by
 by_cases h:cv k n s k' n' s'=0
 ·obtain⟨rfl,rfl,rfl⟩:=(rh _ _ _ _ _ _).1 h
  rw[jeP h];simp[go_sem]
 ·rw[jeM h]
  have h2:¬ (k=k'/\n=n'/\s=s'):=λe=>h ((rh _ _ _ _ _ _).2 e)
  by_cases h3:k=k'
  ·subst h3
   by_cases h4:n=n'
   ·subst h4
    have h5:¬ s=s':=λe=>h2 ⟨rfl,rfl,e⟩
    have h6:¬ s.toList=s'.toList:=λe=>h5 (by
     rw[ByteArray.toList_eq,ByteArray.toList_eq]at e;cases s
     cases s'
     congr 1
     exact Array.toList_inj.1 e)
    simp[go_sem,h6]
   ·simp[go_sem,h4]
  ·simp[go_sem,h3]
def Flg.set2{W:World}{p:Nat}{a b c:Bool}(h:Flg W p (a,b,c))(x:Bool):Flg (W.setCell ⟨p,2,none⟩ (.bool x)) p (a,b,x):=by
 unfold Flg at *;rw[aT h 2 (.bool x)];rfl
def Flg.set0{W:World}{p:Nat}{a b c:Bool}(h:Flg W p (a,b,c))(x:Bool):Flg (W.setCell ⟨p,0,none⟩ (.bool x)) p (x,b,c):=by
 unfold Flg at *;rw[aT h 0 (.bool x)];rfl
structure Six (U:World) (w p6 p15 p17 p18 p19 op:Nat) (s:Stt) (v lo hi:Cl):Prop where
 o:U.cell? ⟨w,0,none⟩=some (.int .u8 (op:Int))
 s1:U.cell? ⟨p15,1,none⟩=some (.int .i64 s.nulls)
 s3:U.cell? ⟨p15,3,none⟩=some (.bool s.high)
 v0:U.cell? ⟨p17,0,none⟩=some (.int .u8 (v.1:Int))/\U.cell? ⟨p17,1,none⟩=some (.int .i64 v.2.1)/\U.cell? ⟨p17,2,none⟩=some (.string (bytesT v.2.2))
 l0:U.cell? ⟨p18,0,none⟩=some (.int .u8 (lo.1:Int))/\U.cell? ⟨p18,1,none⟩=some (.int .i64 lo.2.1)/\U.cell? ⟨p18,2,none⟩=some (.string (bytesT lo.2.2))
 h0:U.cell? ⟨p19,0,none⟩=some (.int .u8 (hi.1:Int))/\U.cell? ⟨p19,1,none⟩=some (.int .i64 hi.2.1)/\U.cell? ⟨p19,2,none⟩=some (.string (bytesT hi.2.2))
 f:Flg U p6 (false,false,false)
def Ceb.cells{W:World}{p:Nat}{x y z:Value}(h:Ceb W p x y z):W.cell? ⟨p,0,none⟩=some x/\W.cell? ⟨p,1,none⟩=some y/\W.cell? ⟨p,2,none⟩=some z:=by
 unfold Ceb at h;exact⟨by rw[an h];rfl,by rw[an h];rfl,by rw[an h];rfl⟩
def Ceb.fr{p n k:Nat}{W W':World}{x y z:Value}(h:Ceb W k x y z)(hf:Fr p n W W')(h1:k<n)(h2:k≠p):Ceb W' k x y z:=by
 unfold Ceb at *;rw[hf.block k h1 h2];exact h
def Stb.fr{p n k:Nat}{W W':World}{st:Stt}(h:Stb W k st)(hf:Fr p n W W')(h1:k<n)(h2:k≠p):Stb W' k st:=by
 unfold Stb at *;rw[hf.block k h1 h2];exact h
def ZN{si:Nat}{l:List Fd}{r:List Stt}(dA:∀ x∈r,Oks x)(op f:Nat)(c:Cl)(ks:List PT)(ih:∀ k∈ks,Gb l r si k)(qo:op<=5)(dD:Okp (.node op f c ks))(dB:jT (.node op f c ks))(w:World)(kv fv rv:Value)(hs:Sf w fv l)(hr:Ss w rv r)(hk:eF w kv ks) :
  Calls prog 68 #[.agg #[.int .u8 (op:Int),.int .u32 (f:Int),.int .u8 (c.1:Int),.int .i64 c.2.1,.string (bytesT c.2.2),kv],.agg #[.int .u32 (si:Int),fv],rv] w λe w'=>e=.returned (b3V (bI l r (.node op f c ks)))/\jgu w w':=by
 simp only[Okp]at dD;simp only[jT]at dB;obtain⟨_,_,mJ,iv⟩:=dD;obtain⟨⟨Gg,XW,GD⟩,oa⟩:=dB;have nh:=ae ih;have HK:=ae hk;have HS:=ae hs;have HR:=ae hr;have AO:=ae mJ;have mZ:=ae iv.get;have iw:=ae oa.get;have MJ:=ae GD;have iy:=ae dA;obtain⟨ka,kcap,rfl,Lh,mj⟩:=hk.form;obtain⟨fa,fcap,rfl,_,_⟩:=hs.form;obtain⟨ra,rcap,rfl,_,CJ⟩:=hr.form;have hkm':ks.length<=9223372036854775807:=by unfold maxLen at mj;omega
 have hrm':rcap<=9223372036854775807:=by unfold maxLen at CJ;omega
 clear hk hs hr ih mj CJ iv mJ oa GD dA;obtain⟨iz,hn,e0,e1,hsB⟩:=AC w op f c (.slice ka ks.length kcap) si (.slice fa l.length fcap);generalize hZ0:(w.alloc (.cells #[.int .u8 (op:Int),.int .u32 (f:Int),.int .u8 (c.1:Int),.int .i64 c.2.1,.string (bytesT c.2.2),.slice ka ks.length kcap] 63)).alloc (.cells #[.int .u32 (si:Int),.slice fa l.length fcap] 25)=Z0 at *;have cN:=ae iz;have HN:=ae hn;have wg:=ae (HK.o.kept cN.o);have uU:=ae (HS.o.kept cN.o);have Xq:=ae (HR.o.kept cN.o);obtain⟨cy,x0,x1,x2,x3,x4,x5⟩:=HN.o;clear hn iz HK HS HR
 have HD:jgt (bI l r (.node op f c ks)=fD l r op f c):=ae (by
  simp only[bI];rw[jex (by omega),jex (by omega),jex (by omega)])
 have Lg:=ae (λh=>uL (l:=l) (r:=r) (op:=op) (f:=f) (c:=c) h);have Gu:=ae (λ(j:Nat) h hj=>uM (l:=l) (r:=r) (op:=op) (f:=f) (c:=c) (j:=j) h hj);have vK:=ae (λ(j:Nat) h hj=>Av (l:=l) (r:=r) (op:=op) (f:=f) (c:=c) (j:=j) h hj);generalize fD l r op f c=R0 at *;generalize bI l r (.node op f c ks)=R at *;have q6:((op:Int)==6)=false:=jeF.2 (by omega);have q7:((op:Int)==7)=false:=jeF.2 (by omega);have q8:((op:Int)==8)=false:=jeF.2 (by omega);have cm:=Flg.new Z0 (false,false,false);have hbF:=aj Z0 (.cells #[.bool false,.bool false,.bool false] 123);simp only at cm;rw[hsB]at cm;have sp:w.heap.size+1<Z0.heap.size:=by omega
 have jD:jgt ((Z0.alloc (.cells #[.bool false,.bool false,.bool false] 123)).heap.size=w.heap.size+1+1+1):=ae (by rw[jeB,hsB]);have dN:=ae cm;have fx:=ae (ai cN.o hbF);have yu:=ae (HN.o.kept hbF);have sg:=ae (uU.o.kept hbF);have RX:=ae (Xq.o.kept hbF);have HKR:=ae (wg.o.kept hbF);have hE0:=(hbF.cell (p:=⟨w.heap.size+1,0,none⟩) sp).trans e0;have hE1:=(hbF.cell (p:=⟨w.heap.size+1,1,none⟩) sp).trans e1;have Ri:=ae hE0;have Di:=ae hE1;clear cm hbF e0 e1 hsB x0 x1 x2 x3 x4 x5 cy sp hE0 hE1;have kS:=ae (λU (hU:Below ((Z0.alloc (.cells #[.bool false,.bool false,.bool false] 123))).heap.size ((Z0.alloc (.cells #[.bool false,.bool false,.bool false] 123))) U)=>mC (sg.o.kept hU) si f);obtain⟨cy,x0,x1,x2,x3,x4,x5⟩:=yu.o;subst hZ0;go_enter func68,ntmps68
 go_upto_region 28 with fail
 generalize ((w.alloc (.cells #[.int .u8 (op:Int),.int .u32 (f:Int),.int .u8 (c.1:Int),.int .i64 c.2.1,.string (bytesT c.2.2),.slice ka ks.length kcap] 63)).alloc (.cells #[.int .u32 (si:Int),.slice fa l.length fcap] 25)).alloc (.cells #[.bool false,.bool false,.bool false] 123)=A at *;obtain⟨e0,e1⟩:=And.intro Ri.o Di.o;have XX:=ae (kS.o A (jez _ _));clear kS;cases hp:dV l f with
 | none =>
  rw[hp]at XX;simp only[plz]at XX;have ni:=ae (Lg.o hp);go_wp2_with fail;refine XX.o.mono ?_;rintro e w2 ⟨rfl,ap⟩;have aG:=ae (ai fx.o ap);obtain⟨⟨r0,r1,r2⟩,⟨t0,t1,t2⟩,_⟩:=(dN.o.kept ap).facts;clear ap x0 x1 x2 x3 x4 x5 e0 e1;go_wp2_with fail;refine bodyPost_ret (v:=.agg #[.bool true,.bool true,.bool true]) (by simp[results,results68,go_sem,r0,r1,r2]) rfl ⟨by rw[HD.o,ni.o];rfl,?_⟩;exact set3 aG.o (by omega) _ _ _
 | some j =>
 rw[hp]at XX;simp only[plz]at XX;have hjn:¬ (j:Int)<0:=by omega
 by_cases hj:j<r.length
 case neg =>
  have ni:=ae (Gu.o j hp hj);have hjr:(r.length:Int)<=(j:Int):=by omega
  go_wp2_with fail;refine XX.o.mono ?_;rintro e w2 ⟨rfl,ap⟩;have aG:=ae (ai fx.o ap);obtain⟨⟨r0,r1,r2⟩,⟨t0,t1,t2⟩,_⟩:=(dN.o.kept ap).facts;clear ap x0 x1 x2 x3 x4 x5 e0 e1;go_wp2_with fail;refine bodyPost_ret (v:=.agg #[.bool true,.bool true,.bool true]) (by simp[results,results68,go_sem,r0,r1,r2]) rfl ⟨by rw[HD.o,ni.o];rfl,?_⟩;exact set3 aG.o (by omega) _ _ _
 have ni:=ae (vK.o j hp hj);have hjr:¬ (r.length:Int)<=(j:Int):=by omega
 have hjr':(j:Int)<(r.length:Int):=by omega
 have HFX:=ae (iy.o r[j] (jeD hj));clear hp Lg Gu vK;go_wp2_with fail;refine XX.o.mono ?_;rintro e w2 ⟨rfl,ap⟩;have aG:=ae (ai fx.o ap);have mV:=ae (yu.o.kept ap);have eW:=ae (dN.o.kept ap);obtain⟨gb,goff,rfl,hgs⟩:=(RX.o.kept ap).at hj;have aX:=ap.size;have Gw:jgt (w.heap.size+1+1<w2.heap.size):=ae (by have:=jD.o;omega);clear ap x0 x1 x2 x3 x4 x5 e0 e1 XX aX yu sg RX HKR Ri Di dN;generalize r[j]=s at *;obtain⟨_,⟨y0,y1,y2,y3⟩,⟨y4,y5,y6⟩,y7,y8,y9⟩:=hgs;have jdG:jgt (Stb (w2.alloc (.cells #[.int .i64 s.rows,.int .i64 s.nulls,.bool s.some,.bool s.high,.int .u8 (s.lo.1:Int),.int .i64 s.lo.2.1,.string (bytesT s.lo.2.2),.int .u8 (s.hi.1:Int),.int .i64 s.hi.2.1,.string (bytesT s.hi.2.2)] 54)) w2.heap.size s):=ae (Stb.new w2 s);have sJ:=aj w2 (.cells #[.int .i64 s.rows,.int .i64 s.nulls,.bool s.some,.bool s.high,.int .u8 (s.lo.1:Int),.int .i64 s.lo.2.1,.string (bytesT s.lo.2.2),.int .u8 (s.hi.1:Int),.int .i64 s.hi.2.1,.string (bytesT s.hi.2.2)] 54);have hsx:(w2.alloc (.cells #[.int .i64 s.rows,.int .i64 s.nulls,.bool s.some,.bool s.high,.int .u8 (s.lo.1:Int),.int .i64 s.lo.2.1,.string (bytesT s.lo.2.2),.int .u8 (s.hi.1:Int),.int .i64 s.hi.2.1,.string (bytesT s.hi.2.2)] 54)).heap.size=w2.heap.size+1:=jeB _ _;have uV:=ae (mV.o.kept sJ);have mU:=ae (eW.o.kept sJ);have aY:=ae (ai aG.o sJ);go_upto_region 32 with fail
 clear y0 y1 y2 y3 y4 y5 y6 y7 y8 y9;generalize w2.alloc (.cells #[.int .i64 s.rows,.int .i64 s.nulls,.bool s.some,.bool s.high,.int .u8 (s.lo.1:Int),.int .i64 s.lo.2.1,.string (bytesT s.lo.2.2),.int .u8 (s.hi.1:Int),.int .i64 s.hi.2.1,.string (bytesT s.hi.2.2)] 54)=X at *;have HZ3:jgt (w.heap.size+1+1<w2.heap.size/\X.heap.size=w2.heap.size+1):=ae ⟨Gw.o,hsx⟩;generalize w2.heap.size=p15 at *;clear sJ hsx;obtain⟨_,⟨y0,y1,y2,y3⟩,⟨y4,y5,y6⟩,y7,y8,y9⟩:=jdG.o.at;simp only[jeU]at y0 y1 y2 y3 y4 y5 y6 y7 y8 y9;obtain⟨hb0',x0,x1,x2,x3,x4,x5⟩:=uV.o;obtain⟨⟨r0,r1,r2⟩,⟨t0,t1,t2⟩,_⟩:=mU.o.facts;by_cases h5:op=5
 ·have jw:jgt (R=(s.some,false,decide (0<s.nulls))):=ae (by rw[HD.o,ni.o];unfold nI;rw[jey h5])
  have q5:((op:Int)==5)=true:=by rw[h5];rfl
  clear h5;go_wp2_with fail;refine bodyPost_ret (v:=.agg #[.bool s.some,.bool false,.bool (decide (0<s.nulls))]) (by simp[results,results68,go_sem,r0,r1,r2]) rfl ⟨by rw[eq3 jw.o],?_⟩;exact set3 aY.o (by omega) _ _ _
 have q5:((op:Int)==5)=false:=jeF.2 (by omega);by_cases Gf:s.some=true
 case neg =>
  have yc:s.some=false:=by simpa using Gf
  have jw:jgt (R=(false,decide (0<s.nulls),false)):=ae (by rw[HD.o,ni.o];unfold nI;rw[jex h5,jex Gf]);rw[yc]at y2;have Lc:=aj X (.cells #[.bool false,.bool (decide (0<s.nulls)),.bool false] 123);obtain⟨⟨r0',r1',r2'⟩,⟨t0',t1',t2'⟩,_⟩:=(mU.o.kept Lc).facts;have rZ:∀(X:World) (o:Obj) (i:Nat),w.heap.size+1+1<X.heap.size->(X.alloc o).cell? ⟨w.heap.size+1+1,i,none⟩=X.cell? ⟨w.heap.size+1+1,i,none⟩:=λX o i h=>(aj X o).cell h
  have hw6:w.heap.size+1+1<X.heap.size:=by have:=HZ3.o;omega
  have zf:=set3 aY.o (show w.heap.size<=w.heap.size+1+1 by omega) (.bool false) (.bool (decide (0<s.nulls))) (.bool false);have WN:=ae zf;clear h5 Gf yc Lc zf;go_wp2_with fail;refine bodyPost_ret (v:=.agg #[.bool false,.bool (decide (0<s.nulls)),.bool false]) (by simp[results,results68,go_sem,rZ,hw6,r0,r1,r2,r0',r1',r2']) rfl ⟨by rw[eq3 jw.o],?_⟩;exact WN.o.alloc WN.o.size _
 have jw:jgt (R=kD (decide (0<s.nulls)) op c s):=ae (by rw[HD.o,ni.o];unfold nI;rw[jex h5,jey Gf]);rw[Gf]at y2;have jdH:=Flg.new X (false,decide (0<s.nulls),false);have Lc:=aj X (.cells #[.bool false,.bool (decide (0<s.nulls)),.bool false] 123);have MO:(X.alloc (.cells #[.bool false,.bool (decide (0<s.nulls)),.bool false] 123)).heap.size=X.heap.size+1:=jeB _ _;simp only at jdH;have HF16:=ae jdH;have HN4:=ae (uV.o.kept Lc);have ya:=ae (mU.o.kept Lc);have HSB4:=ae (jdG.o.kept Lc);have cL:=ae (ai aY.o Lc);have HZ4:=ae MO;clear h5 Gf jdH Lc MO;go_upto_region 37 with fail
 clear x0 x1 x2 x3 x4 x5 y0 y1 y2 y3 y4 y5 y6 y7 y8 y9 r0 r1 r2 t0 t1 t2 hb0';generalize X.alloc (.cells #[.bool false,.bool (decide (0<s.nulls)),.bool false] 123)=O at *;have HZ5:jgt (w.heap.size+1+1<p15/\p15<X.heap.size/\O.heap.size=X.heap.size+1):=ae ⟨HZ3.o.1,by have:=HZ3.o;omega,HZ4.o⟩;generalize X.heap.size=p16 at *;clear Gw HZ3 HZ4 uV mU jdG aY mV eW aG;obtain⟨_,x0,x1,x2,x3,x4,x5⟩:=HN4.o;have ME:=ae (no c O);obtain⟨vv,MP⟩:∃ vv,vv=aH c:=⟨_,rfl⟩;have HFV:jgt (aI vv):=ae (by rw[MP];exact dX AO.o);obtain⟨lo,hlo⟩:∃ lo,lo=aH s.lo:=⟨_,rfl⟩;obtain⟨hi,AM⟩:∃ hi,hi=aH s.hi:=⟨_,rfl⟩;have CR:=ae (λW=>no s.lo W);have HC3:=ae (λW=>no s.hi W);rw[<- MP]at ME;rw[<- hlo]at CR;rw[<- AM]at HC3;have HVV:=ae MP;have XG:=ae hlo;have HHI:=ae AM;clear MP hlo AM;go_wp2_with fail;refine ME.o.mono ?_;rintro e w3 ⟨rfl,aJ⟩;have hbv:=aj w3 (.cells #[.int .u8 (vv.1:Int),.int .i64 vv.2.1,.string (bytesT vv.2.2)] 52);have HV4:=ae (Ceb.new w3 (.int .u8 (vv.1:Int)) (.int .i64 vv.2.1) (.string (bytesT vv.2.2)));have hOV:=ai aJ hbv;have HN5:=ae (HN4.o.kept hOV);have Gp:=ae (ya.o.kept hOV);have oK:=ae (HSB4.o.kept hOV);have dK:=ae (HF16.o.kept hOV);have bq:=ae (ai cL.o hOV);have kT:(w3.alloc (.cells #[.int .u8 (vv.1:Int),.int .i64 vv.2.1,.string (bytesT vv.2.2)] 52)).heap.size=w3.heap.size+1:=jeB _ _;have gy:=aJ.size;clear x0 x1 x2 x3 x4 x5 aJ hbv hOV ME;go_upto_region 38 with fail
 generalize w3.alloc (.cells #[.int .u8 (vv.1:Int),.int .i64 vv.2.1,.string (bytesT vv.2.2)] 52)=V5 at *;generalize w3.heap.size=p17 at *;have HZ6:jgt (w.heap.size+1+1<p15/\p15<p16/\p16<p17/\V5.heap.size=p17+1):=ae ⟨HZ5.o.1,HZ5.o.2.1,by have:=HZ5.o;omega,kT⟩;clear kT gy HN4 ya HSB4 HF16 cL HZ5;obtain⟨_,⟨y0,y1,y2,y3⟩,⟨y4,y5,y6⟩,y7,y8,y9⟩:=oK.o.at;simp only[jeU]at y0 y1 y2 y3 y4 y5 y6 y7 y8 y9;go_wp2_with fail;refine(CR.o _).mono ?_;rintro e w4 ⟨rfl,bD⟩;have hbv:=aj w4 (.cells #[.int .u8 (lo.1:Int),.int .i64 lo.2.1,.string (bytesT lo.2.2)] 52);have XL:=ae (Ceb.new w4 (.int .u8 (lo.1:Int)) (.int .i64 lo.2.1) (.string (bytesT lo.2.2)));have hOV:=ai bD hbv;have HN6:=ae (HN5.o.kept hOV);have MV:=ae (Gp.o.kept hOV);have HS6:=ae (oK.o.kept hOV);have oJ:=ae (dK.o.kept hOV);have Xf:=ae (HV4.o.kept hOV);have fV:=ae (ai bq.o hOV);have kT:(w4.alloc (.cells #[.int .u8 (lo.1:Int),.int .i64 lo.2.1,.string (bytesT lo.2.2)] 52)).heap.size=w4.heap.size+1:=jeB _ _;have gy:=bD.size;clear y0 y1 y2 y3 y4 y5 y6 y7 y8 y9 bD hbv hOV CR;go_upto_region 39 with fail
 generalize w4.alloc (.cells #[.int .u8 (lo.1:Int),.int .i64 lo.2.1,.string (bytesT lo.2.2)] 52)=L6 at *;generalize w4.heap.size=p18 at *;have HZ7:jgt (w.heap.size+1+1<p15/\p15<p16/\p16<p17/\p17<p18/\L6.heap.size=p18+1):=ae ⟨HZ6.o.1,HZ6.o.2.1,HZ6.o.2.2.1,by have:=HZ6.o;omega,kT⟩;clear kT gy HN5 Gp oK dK HV4 bq HZ6;obtain⟨_,⟨y0,y1,y2,y3⟩,⟨y4,y5,y6⟩,y7,y8,y9⟩:=HS6.o.at;simp only[jeU]at y0 y1 y2 y3 y4 y5 y6 y7 y8 y9;go_wp2_with fail;refine(HC3.o _).mono ?_;rintro e w5 ⟨rfl,bQ⟩;have hbv:=aj w5 (.cells #[.int .u8 (hi.1:Int),.int .i64 hi.2.1,.string (bytesT hi.2.2)] 52);have HH7:=ae (Ceb.new w5 (.int .u8 (hi.1:Int)) (.int .i64 hi.2.1) (.string (bytesT hi.2.2)));have hOV:=ai bQ hbv;have HN7:=ae (HN6.o.kept hOV);have HF7:=ae (MV.o.kept hOV);have QS:=ae (HS6.o.kept hOV);have oV:=ae (oJ.o.kept hOV);have HV7:=ae (Xf.o.kept hOV);have HL7:=ae (XL.o.kept hOV);have jK:=ae (ai fV.o hOV);have kT:(w5.alloc (.cells #[.int .u8 (hi.1:Int),.int .i64 hi.2.1,.string (bytesT hi.2.2)] 52)).heap.size=w5.heap.size+1:=jeB _ _;have gy:=bQ.size;clear y0 y1 y2 y3 y4 y5 y6 y7 y8 y9 bQ hbv hOV HC3;go_upto_region 40 with fail
 generalize w5.alloc (.cells #[.int .u8 (hi.1:Int),.int .i64 hi.2.1,.string (bytesT hi.2.2)] 52)=Y at *;generalize w5.heap.size=p19 at *;have HZ8:jgt (w.heap.size+1+1<p15/\p15<p16/\p16<p17/\p17<p18/\p18<p19/\Y.heap.size=p19+1):=ae ⟨HZ7.o.1,HZ7.o.2.1,HZ7.o.2.2.1,HZ7.o.2.2.2.1,by have:=HZ7.o;omega,kT⟩;clear kT gy HN6 MV HS6 oJ Xf XL fV HZ7
 have GV:jgt (∀ U,Fr p16 Y.heap.size Y U->Six U w.heap.size (w.heap.size+1+1) p15 p17 p18 p19 op s vv lo hi):=ae (λU hU=>by
  obtain⟨g1,g2,g3,g4,g5,g6⟩:=HZ8.o;have gx:=(QS.o.fr hU (by omega) (by omega)).at;obtain⟨_,⟨y0,y1,y2,y3⟩,_,_⟩:=gx;simp only[jeU]at y0 y1 y2 y3;exact⟨(Mz hU (q:=⟨w.heap.size,0,none⟩) (show w.heap.size<_ by omega) (show w.heap.size≠_ by omega)).trans HN7.o.2.1,y1,y3,(HV7.o.fr hU (by omega) (by omega)).cells,(HL7.o.fr hU (by omega) (by omega)).cells,(HH7.o.fr hU (by omega) (by omega)).cells,HF7.o.fr hU (by omega) (by omega)⟩)
 have nW:jgt (∀ U,Fr p16 Y.heap.size Y U->jgu w U):=ae (λU hU=>by
  obtain⟨g1,g2,g3,g4,g5,g6⟩:=HZ8.o;exact jK.o.trans (hU.below (by omega) (by omega)))
 have AV:jgt (w.heap.size<=w.heap.size+1+1):=ae (by omega);have fZ:jgt (R=kD (decide (0<s.nulls)) op c s):=jw;obtain⟨d1,d2,d3,⟨v0,v1,v2⟩,⟨l0,l1,l2⟩,⟨i0,i1,i2⟩,Ld⟩:=GV.o Y (Fr.refl _ _ _);obtain⟨⟨r0,r1,r2⟩,⟨t0,t1,t2⟩,_⟩:=Ld.facts;obtain⟨⟨m0,m1,m2⟩,⟨n0,n1,n2⟩,_⟩:=oV.o.facts
 have jdF:op=1∨op=2∨op=3∨op=4:=by
  have h5:¬ op=5:=λh=>by rw[h]at q5;simp at q5
  omega
 clear jw Ld q5 q6 q7 q8 qo Gg XW;rcases jdF with rfl | rfl | rfl | rfl
 ·have jL:jgt (R=((((!decide (aD vv lo=0)) || !s.high || !decide (aD vv hi=0)) || !iN vv),decide (0<s.nulls),(!decide (aD vv lo<0)) && (!s.high || !decide (aD hi vv<0)))):=ae (by
   rw[fZ.o,JE,<- HVV.o,<- XG.o,<- HHI.o];exact Wf _ _ _ _ _)
  have HL1:=ae (λW=>pp vv lo W);have RY:=ae (λW=>pp hi vv W);have ng:=VR (vv.1:Int) vv.2.1 (bytesT vv.2.2) (lo.1:Int) lo.2.1 (bytesT lo.2.2);have nc:=VR (vv.1:Int) vv.2.1 (bytesT vv.2.2) (hi.1:Int) hi.2.1 (bytesT hi.2.2);have Gt:=jaY (vv.1:Int) vv.2.1 (bytesT vv.2.2) (lo.1:Int) lo.2.1 (bytesT lo.2.2);have vY:=jaY (vv.1:Int) vv.2.1 (bytesT vv.2.2) (hi.1:Int) hi.2.1 (bytesT hi.2.2);rw[show cv (vv.1:Int) vv.2.1 (bytesT vv.2.2) (lo.1:Int) lo.2.1 (bytesT lo.2.2)=aD vv lo from rfl]at Gt;rw[show cv (vv.1:Int) vv.2.1 (bytesT vv.2.2) (hi.1:Int) hi.2.1 (bytesT hi.2.2)=aD vv hi from rfl]at vY;clear ng nc;generalize decide (aD vv lo<0)=b1 at *;generalize decide (aD hi vv<0)=b2 at *;generalize decide (aD vv lo=0)=e1 at *;generalize decide (aD vv hi=0)=e2 at *;generalize decide (0<s.nulls)=u at *;obtain⟨hg,Ry⟩:∃ hg,hg=s.high:=⟨_,rfl⟩;rw[<- Ry]at jL d3;have HHG:=ae Ry;clear Ry;have HN12:=ae Gt;have HN22:=ae vY;clear Gt vY;go_upto_region 43 with fail
  go_cut [179] from 252 (λv wx=>v=.bool (!b1 && (!hg || !b2))/\Fr p16 Y.heap.size Y wx/\Flg wx p16 (false,u,!b1 && (!hg || !b2)))
  case first =>
   go_wp2_with fail;refine(HL1.o _).mono ?_;rintro e w6 ⟨rfl,ct⟩;have ym:Fr p16 Y.heap.size Y w6:=(Fr.refl _ _ _).then ct
   have lB:=ae ym;have AL:=ae (oV.o.kept ct);obtain⟨d1',d2',d3',⟨v0',v1',v2'⟩,⟨l0',l1',l2'⟩,⟨i0',i1',i2'⟩,_⟩:=GV.o _ ym;obtain⟨⟨m0',m1',m2'⟩,⟨n0',n1',n2'⟩,_⟩:=AL.o.facts;rw[<- HHG.o]at d3';clear d1 d2 d3 v0 v1 v2 l0 l1 l2 i0 i1 i2 r0 r1 r2 t0 t1 t2 m0 m1 m2 n0 n1 n2 ct ym;cases b1 with
   | true =>
    go_wp2_with fail;go_meet
    exact⟨rfl,lB.o.set 2 _,AL.o.set2 false⟩
   | false =>
    cases hg with
    | false =>
     go_wp2_with fail;go_meet
     exact⟨rfl,lB.o.set 2 _,AL.o.set2 true⟩
    | true =>
     go_wp2_with fail;refine(RY.o _).mono ?_;rintro e w7 ⟨rfl,gJ⟩;have zm:Fr p16 Y.heap.size Y w7:=lB.o.then (gJ.mono lB.o.size)
     have zp:=ae zm;have Db:=ae (AL.o.kept gJ);obtain⟨⟨m0,m1,m2⟩,⟨n0,n1,n2⟩,_⟩:=Db.o.facts;clear gJ zm;go_wp2_with fail;go_meet
     exact⟨by cases b2<;>rfl,zp.o.set 2 _,by have h:=Db.o.set2 (!b2);cases b2<;>exact h⟩
  case rest =>
  obtain⟨rfl,dA,hfo⟩:=hcut;have lB:=ae dA;have AL:=ae hfo;clear d1 d2 d3 v0 v1 v2 l0 l1 l2 i0 i1 i2 r0 r1 r2 t0 t1 t2 m0 m1 m2 n0 n1 n2;generalize (!b1 && (!hg || !b2))=o2 at *;obtain⟨d1,d2,d3,⟨v0,v1,v2⟩,⟨l0,l1,l2⟩,⟨i0,i1,i2⟩,_⟩:=GV.o _ dA;obtain⟨⟨m0,m1,m2⟩,⟨n0,n1,n2⟩,_⟩:=hfo.facts;rw[<- HHG.o]at d3;have Gt:=HN12.o;have vY:=HN22.o;clear dA hfo;go_upto_region 44 with fail
  go_cut [193] from 252 (λv wx=>v=.bool ((!e1) || !hg || !e2)/\Fr p16 Y.heap.size Y wx/\Flg wx p16 ((!e1) || !hg || !e2,u,o2))
  case first =>
   cases e1 with
   | false =>
    go_wp2_with fail;go_meet
    exact⟨rfl,lB.o.set 0 _,AL.o.set0 true⟩
   | true =>
    cases hg with
    | false =>
     go_wp2_with fail;go_meet
     exact⟨rfl,lB.o.set 0 _,AL.o.set0 true⟩
    | true =>
     go_wp2_with fail;go_meet
     exact⟨rfl,lB.o.set 0 _,AL.o.set0 (!e2)⟩
  case rest =>
  obtain⟨rfl,dA,hfo⟩:=hcut;have zp:=ae dA;have Db:=ae hfo;clear d1 d2 d3 v0 v1 v2 l0 l1 l2 i0 i1 i2 m0 m1 m2 n0 n1 n2 Gt vY;generalize ((!e1) || !hg || !e2)=o0 at *;obtain⟨d1,d2,d3,⟨v0,v1,v2⟩,⟨l0,l1,l2⟩,⟨i0,i1,i2⟩,Ld⟩:=GV.o _ dA;obtain⟨⟨m0,m1,m2⟩,⟨n0,n1,n2⟩,_⟩:=hfo.facts;obtain⟨⟨r0,r1,r2⟩,⟨t0,t1,t2⟩,_⟩:=Ld.facts;have AN:=ae (nW.o _ dA);clear dA hfo Ld;by_cases h3:vv.1=3
  case neg =>
   have sK:jgt (R=(o0,u,o2)):=ae (by
    rw[jL.o,(AG HFV.o).2 h3];simp)
   have q3:((vv.1:Int)==3)=false:=jeF.2 (by omega);clear h3;go_wp2_with fail;refine bodyPost_ret (v:=.agg #[.bool o0,.bool u,.bool o2]) (by simp[results,results68,go_sem,r0,r1,r2,m0,m1,m2]) rfl ⟨by rw[eq3 sK.o],?_⟩;exact set3 AN.o AV.o _ _ _
  have sK:jgt (R=(o0 || decide (4<=(V (lb (bytesT vv.2.2))).length),u,o2)):=ae (by
   rw[jL.o,(AG HFV.o).1 h3])
  have q3:((vv.1:Int)==3)=true:=by rw[h3];rfl
  have HSG:=ae (λW=>iL (bytesT vv.2.2) (by have:=aI.short HFV.o;omega) W);clear h3;go_wp2_with fail;refine(HSG.o _).mono ?_;rintro e w8 ⟨⟨sa,sb,rfl,hoa,_⟩,kO⟩;obtain⟨⟨aa,ac,rfl,_⟩,_⟩:=fC hoa;have jaH:Fr p16 Y.heap.size Y w8:=zp.o.then (kO.mono zp.o.size)
  have Rz:=ae jaH;have oW:=ae (Db.o.kept kO);generalize hvl:(V (lb (bytesT vv.2.2))).length=vl at *;clear d1 d2 d3 v0 v1 v2 l0 l1 l2 i0 i1 i2 m0 m1 m2 n0 n1 n2 r0 r1 r2 t0 t1 t2 kO hoa hvl;obtain⟨⟨m0,m1,m2⟩,⟨n0,n1,n2⟩,_⟩:=oW.o.facts;obtain⟨⟨r0,r1,r2⟩,⟨t0,t1,t2⟩,_⟩:=(GV.o _ jaH).f.facts;have CW:=ae (oW.o.set0 (o0 || decide (4<=vl)));have HFR9:=ae (jaH.set 0 (.bool (o0 || decide (4<=vl))));obtain⟨⟨m0',m1',m2'⟩,_,_⟩:=CW.o.facts;obtain⟨⟨r0',r1',r2'⟩,⟨t0',t1',t2'⟩,_⟩:=(GV.o _ HFR9.o).f.facts;have CV:=ae (nW.o _ HFR9.o);clear jaH;cases o0 with
  | true =>
   simp only[Bool.true_or]at sK m0' m1' m2' r0' r1' r2' t0' t1' t2' CV;go_wp2_with fail;refine bodyPost_ret (v:=.agg #[.bool true,.bool u,.bool o2]) (by simp[results,results68,go_sem,r0',r1',r2',m0',m1',m2']) rfl ⟨by rw[eq3 sK.o],?_⟩;exact set3 CV.o AV.o _ _ _
  | false =>
   simp only[Bool.false_or]at sK m0' m1' m2' r0' r1' r2' t0' t1' t2' CV;have hdd:decide (4<=vl)=decide ((4:Int)<=(vl:Int)):=decide_eq_decide.2 (by omega);rw[hdd]at sK m0' m1' m2' r0' r1' r2' t0' t1' t2' CV;clear hdd;go_wp2_with fail;refine bodyPost_ret (v:=.agg #[.bool (decide ((4:Int)<=(vl:Int))),.bool u,.bool o2]) (by simp[results,results68,go_sem,r0',r1',r2',m0',m1',m2']) rfl ⟨by rw[eq3 sK.o],?_⟩;exact set3 CV.o AV.o _ _ _
 ·have jL:jgt (R=((!s.high || !decide (aD hi vv<0)),decide (0<s.nulls),decide (aD lo vv<0))):=ae (by
   rw[fZ.o,JF,<- HVV.o,<- XG.o,<- HHI.o];exact Wg _ _ _ _ _)
  have HL1:=ae (λW=>pp lo vv W);have RY:=ae (λW=>pp hi vv W);generalize decide (aD lo vv<0)=b1 at *;generalize decide (aD hi vv<0)=b2 at *;generalize hnu:decide (0<s.nulls)=u at *;go_wp2_with fail;refine(HL1.o _).mono ?_;rintro e w6 ⟨rfl,ct⟩;have ym:Fr p16 Y.heap.size Y w6:=(Fr.refl _ _ _).then ct
  have AL:=ae (oV.o.kept ct);have lB:=ae (ym.set 2 (.bool (b1)));obtain⟨d1',d2',d3',⟨v0',v1',v2'⟩,⟨l0',l1',l2'⟩,⟨i0',i1',i2'⟩,_⟩:=GV.o _ ym;obtain⟨d1s,d2s,d3s,⟨v0s,v1s,v2s⟩,⟨l0s,l1s,l2s⟩,⟨i0s,i1s,i2s⟩,Xs⟩:=GV.o _ lB.o;obtain⟨⟨m0',m1',m2'⟩,⟨n0',n1',n2'⟩,_⟩:=AL.o.facts
  have Db:jgt (Flg (w6.setCell ⟨p16,2,none⟩ (.bool (b1))) p16 (false,u,b1)):=ae (by
   have h:=AL.o;unfold Flg at *;rw[aT h 2 (.bool (b1))];rfl)
  obtain⟨⟨r0s,r1s,r2s⟩,⟨t0s,t1s,t2s⟩,_⟩:=Xs.facts;obtain⟨⟨m0s,m1s,m2s⟩,⟨n0s,n1s,n2s⟩,_⟩:=Db.o.facts;clear d1 d2 d3 v0 v1 v2 l0 l1 l2 i0 i1 i2 r0 r1 r2 t0 t1 t2 m0 m1 m2 n0 n1 n2 ct Xs ym;cases Ry:s.high with
  | false =>
   rw[Ry]at d3' d3s jL
   have oW:jgt (Flg ((w6.setCell ⟨p16,2,none⟩ (.bool (b1))).setCell ⟨p16,0,none⟩ (.bool true)) p16 (true,u,b1)):=ae (by
    have h:=Db.o;unfold Flg at *;rw[aT h 0 (.bool true)];rfl)
   have zp:=ae (lB.o.set 0 (.bool true));obtain⟨⟨m0t,m1t,m2t⟩,_,_⟩:=oW.o.facts;obtain⟨⟨r0t,r1t,r2t⟩,⟨t0t,t1t,t2t⟩,_⟩:=(GV.o _ zp.o).f.facts;have AN:=ae (nW.o _ zp.o);clear Ry;go_wp2_with fail;refine bodyPost_ret (v:=.agg #[.bool true,.bool u,.bool (b1)]) (by simp[results,results68,go_sem,r0t,r1t,r2t,m0t,m1t,m2t]) rfl ⟨by rw[jL.o];rfl,?_⟩;exact set3 AN.o AV.o _ _ _
  | true =>
   rw[Ry]at d3' d3s jL;clear Ry;go_wp2_with fail;refine(RY.o _).mono ?_;rintro e w7 ⟨rfl,gJ⟩;have zm:Fr p16 Y.heap.size Y w7:=lB.o.then (gJ.mono lB.o.size)
   have CW:=ae (Db.o.kept gJ);have Rz:=ae (zm.set 0 (.bool (!b2)))
   have jdJ:jgt (Flg (w7.setCell ⟨p16,0,none⟩ (.bool (!b2))) p16 (!b2,u,b1)):=ae (by
    have h:=CW.o;unfold Flg at *;rw[aT h 0 (.bool (!b2))];rfl)
   obtain⟨⟨m0u,m1u,m2u⟩,⟨n0u,n1u,n2u⟩,_⟩:=CW.o.facts;obtain⟨⟨r0u,r1u,r2u⟩,⟨t0u,t1u,t2u⟩,_⟩:=(GV.o _ zm).f.facts;obtain⟨⟨m0t,m1t,m2t⟩,_,_⟩:=jdJ.o.facts;obtain⟨⟨r0t,r1t,r2t⟩,⟨t0t,t1t,t2t⟩,_⟩:=(GV.o _ Rz.o).f.facts;have AN:=ae (nW.o _ Rz.o);clear d1' d2' d3' v0' v1' v2' l0' l1' l2' i0' i1' i2' d1s d2s d3s v0s v1s v2s l0s l1s l2s i0s i1s i2s gJ zm m0' m1' m2' n0' n1' n2';go_wp2_with fail;refine bodyPost_ret (v:=.agg #[.bool (!b2),.bool u,.bool (b1)]) (by simp[results,results68,go_sem,r0t,r1t,r2t,m0t,m1t,m2t]) rfl ⟨by rw[jL.o];rfl,?_⟩;exact set3 AN.o AV.o _ _ _
 ·have jL:jgt (R=((!s.high || decide (aD vv hi<0)),decide (0<s.nulls),!decide (aD vv lo<0))):=ae (by
   rw[fZ.o,JG,<- HVV.o,<- XG.o,<- HHI.o];exact KU _ _ _ _ _)
  have HL1:=ae (λW=>pp vv lo W);have RY:=ae (λW=>pp vv hi W);generalize decide (aD vv lo<0)=b1 at *;generalize decide (aD vv hi<0)=b2 at *;generalize hnu:decide (0<s.nulls)=u at *;go_wp2_with fail;refine(HL1.o _).mono ?_;rintro e w6 ⟨rfl,ct⟩;have ym:Fr p16 Y.heap.size Y w6:=(Fr.refl _ _ _).then ct
  have AL:=ae (oV.o.kept ct);have lB:=ae (ym.set 2 (.bool (!b1)));obtain⟨d1',d2',d3',⟨v0',v1',v2'⟩,⟨l0',l1',l2'⟩,⟨i0',i1',i2'⟩,_⟩:=GV.o _ ym;obtain⟨d1s,d2s,d3s,⟨v0s,v1s,v2s⟩,⟨l0s,l1s,l2s⟩,⟨i0s,i1s,i2s⟩,Xs⟩:=GV.o _ lB.o;obtain⟨⟨m0',m1',m2'⟩,⟨n0',n1',n2'⟩,_⟩:=AL.o.facts
  have Db:jgt (Flg (w6.setCell ⟨p16,2,none⟩ (.bool (!b1))) p16 (false,u,!b1)):=ae (by
   have h:=AL.o;unfold Flg at *;rw[aT h 2 (.bool (!b1))];rfl)
  obtain⟨⟨r0s,r1s,r2s⟩,⟨t0s,t1s,t2s⟩,_⟩:=Xs.facts;obtain⟨⟨m0s,m1s,m2s⟩,⟨n0s,n1s,n2s⟩,_⟩:=Db.o.facts;clear d1 d2 d3 v0 v1 v2 l0 l1 l2 i0 i1 i2 r0 r1 r2 t0 t1 t2 m0 m1 m2 n0 n1 n2 ct Xs ym;cases Ry:s.high with
  | false =>
   rw[Ry]at d3' d3s jL
   have oW:jgt (Flg ((w6.setCell ⟨p16,2,none⟩ (.bool (!b1))).setCell ⟨p16,0,none⟩ (.bool true)) p16 (true,u,!b1)):=ae (by
    have h:=Db.o;unfold Flg at *;rw[aT h 0 (.bool true)];rfl)
   have zp:=ae (lB.o.set 0 (.bool true));obtain⟨⟨m0t,m1t,m2t⟩,_,_⟩:=oW.o.facts;obtain⟨⟨r0t,r1t,r2t⟩,⟨t0t,t1t,t2t⟩,_⟩:=(GV.o _ zp.o).f.facts;have AN:=ae (nW.o _ zp.o);clear Ry;go_wp2_with fail;refine bodyPost_ret (v:=.agg #[.bool true,.bool u,.bool (!b1)]) (by simp[results,results68,go_sem,r0t,r1t,r2t,m0t,m1t,m2t]) rfl ⟨by rw[jL.o];rfl,?_⟩;exact set3 AN.o AV.o _ _ _
  | true =>
   rw[Ry]at d3' d3s jL;clear Ry;go_wp2_with fail;refine(RY.o _).mono ?_;rintro e w7 ⟨rfl,gJ⟩;have zm:Fr p16 Y.heap.size Y w7:=lB.o.then (gJ.mono lB.o.size)
   have CW:=ae (Db.o.kept gJ);have Rz:=ae (zm.set 0 (.bool (b2)))
   have jdJ:jgt (Flg (w7.setCell ⟨p16,0,none⟩ (.bool (b2))) p16 (b2,u,!b1)):=ae (by
    have h:=CW.o;unfold Flg at *;rw[aT h 0 (.bool (b2))];rfl)
   obtain⟨⟨m0u,m1u,m2u⟩,⟨n0u,n1u,n2u⟩,_⟩:=CW.o.facts;obtain⟨⟨r0u,r1u,r2u⟩,⟨t0u,t1u,t2u⟩,_⟩:=(GV.o _ zm).f.facts;obtain⟨⟨m0t,m1t,m2t⟩,_,_⟩:=jdJ.o.facts;obtain⟨⟨r0t,r1t,r2t⟩,⟨t0t,t1t,t2t⟩,_⟩:=(GV.o _ Rz.o).f.facts;have AN:=ae (nW.o _ Rz.o);clear d1' d2' d3' v0' v1' v2' l0' l1' l2' i0' i1' i2' d1s d2s d3s v0s v1s v2s l0s l1s l2s i0s i1s i2s gJ zm m0' m1' m2' n0' n1' n2';go_wp2_with fail;refine bodyPost_ret (v:=.agg #[.bool (b2),.bool u,.bool (!b1)]) (by simp[results,results68,go_sem,r0t,r1t,r2t,m0t,m1t,m2t]) rfl ⟨by rw[jL.o];rfl,?_⟩;exact set3 AN.o AV.o _ _ _
 ·have jL:jgt (R=(true,decide (0<s.nulls),true)):=ae (by rw[fZ.o,JH])
  have AN:=ae (nW.o Y (Fr.refl _ _ _));go_wp2_with fail;refine bodyPost_ret (v:=.agg #[.bool true,.bool (decide (0<s.nulls)),.bool true]) (by simp[results,results68,go_sem,r0,r1,r2]) rfl ⟨by rw[eq3 jL.o],?_⟩;exact set3 AN.o AV.o _ _ _
def KV{si:Nat}{l:List Fd}{r:List Stt}(dA:∀ x∈r,Oks x)(t:PT):Gb l r si t:=by
 refine PT.ind (P:=λt=>Gb l r si t) (λop f c ks ih=>?_) t;intro op' f' c' ks' he dD dB w kv fv rv hs hr hk;simp only[PT.node.injEq]at he;obtain⟨rfl,rfl,rfl,rfl⟩:=he;have h8:=dB;simp only[jT]at h8;have qo:op<=5∨op=6∨op=7∨op=8:=by omega
 rcases qo with h | h | h | h
 ·exact ZN dA op f c ks ih h dD dB w kv fv rv hs hr hk
 ·exact We dA op f c ks ih false h dD dB w kv fv rv hs hr hk
 ·exact We dA op f c ks ih true h dD dB w kv fv rv hs hr hk
 ·exact ZM dA op f c ks ih h dD dB w kv fv rv hs hr hk
def vE{w:World}{v:Value}{rs:List Row}(hs:Sr w v rs)(hl:rs.length<=1000){k:Nat}(hk:∀ r∈rs,k<r.length) :
  Calls prog 26 #[v,.int .i64 (k:Int)] w λe w'=>(∃ v',e=.returned v'/\dQ w' w.heap.size v' (cx rs k))/\jgu w w':=by
 have HS:=ae hs;have HK:=ae hk;obtain⟨a,cap,rfl,bg,bx⟩:=hs.form;have hcm':cap<=9223372036854775807:=by unfold maxLen at bx;omega
 have gV:(cx rs k).length=rs.length:=cK rs k;obtain⟨D,hD⟩:∃ D,cx rs k=D:=⟨_,rfl⟩;have WS:jgt (∀ j (h:j<rs.length),∃ h2:j<D.length,D[j]=rs[j].getD k nul):=ae (λj h=>by subst hD;exact⟨by omega,by simp[cx]⟩);rw[hD]at gV ⊢;have mH:=ae gV;clear hs bx hk hD gV;go_enter func26,ntmps26
 go_wp2_with fail;go_loopw [5,6] (λo i wr=>∃ j:Nat,j<=rs.length/\i=.int .i64 (j:Int)/\dQ wr w.heap.size o (D.take j)/\jgu w wr) (λ_ i _=>rs.length-(intOf i).toNat)
 case atStart=>exact⟨0,by omega,rfl,dQ.nil _ _,jez _ _⟩
 case round =>
  obtain⟨j,hj,rfl,ax,ao⟩:=hrel;have HO:=ae ax;have HB:=ae ao;have bF:=ao.size;clear ax ao;by_cases ar:j<rs.length
  ·obtain⟨g,off,rv,rfl,hg,bC,Dj⟩:=(HS.o.kept HB.o).at ar
   obtain⟨hjD,hDj⟩:=WS.o j ar;have uS:=HK.o _ (jeD ar);obtain⟨ra,rc,rfl,Rg,CT⟩:=Dj.form;obtain⟨b2,o2,rfl,ap,x0,x1,x2⟩:=Dj.at uS;have eP:rs[j].getD k nul=rs[j][k]:=by rw[List.getD_eq_getElem?_getD,List.getElem?_eq_getElem uS];rfl
   rw[eP]at hDj;have hrc2':rc<=9223372036854775807:=by unfold maxLen at CT;omega
   have hlt':(j:Int)<(rs.length:Int):=(by omega);have hkl':(k:Int)<(rs[j].length:Int):=(by omega);have mf:jgt (D.take (j+1)=D.take j++[D[j]]):=ae (jeO hjD);have hlen':(D.take j).length<=100000:=by rw[jeH];omega
   rw[hDj]at mf;generalize rs[j][k]=fc at *;generalize D.take j=LL at *;generalize rs[j].length=rl at *;have ix:=ae (cO wr (.int .u8 (fc.1:Int)) (.int .i64 fc.2.1) (txt fc.2.2) 52);clear Dj hDj eP;unfold txt at *;go_wp2_with (first | (at_builtin;refine jy rfl _ _ rfl w.heap.size _ _ fc LL rfl (HO.o.kept (aj _ _)) rfl ix.o.1 ix.o.2.1 ix.o.2.2 hlen' ?c2 ?_))
   case c2=>first | omega | (rw[jeB];omega)
   intro v' w5 o5 b5;have dK:=ae o5;have bq:=ae ((HB.o.alloc bF _).trans b5);clear o5 b5;go_wp2_with fail;go_roundw
   case rel=>exact⟨j+1,by omega,by go_num,by rw[mf.o];exact dK.o,bq.o⟩
   case measure=>simp[intOf];omega
  ·obtain rfl:j=rs.length:=by omega
   rw[<- mH.o,jeJ]at HO;have ed:¬ ((rs.length:Nat):Int)<(rs.length:Int):=(by omega);go_wp2_with fail;go_ret
   exact⟨⟨_,rfl,HO.o⟩,HB.o⟩
def Sr.cut{W:World}{b off n cap:Nat}{rs:List Row}(h:Sr W (.slice (some ⟨b,off,none⟩) n cap) rs){i m:Nat}(him:i+m<=rs.length):Sr W (.slice (some ⟨b,off+i,none⟩) m (cap-i)) ((rs.drop i).take m):=by
 obtain⟨a',cap',e,h1,h2,h4⟩:=h;simp only[Value.slice.injEq]at e;obtain⟨rfl,_,rfl⟩:=e;have hl:((rs.drop i).take m).length=m:=by rw[jeH,jeX];omega
 refine⟨_,cap-i,by rw[hl],by omega,by unfold maxLen at *;omega,λh0=>?_⟩;obtain⟨b',off',e,h5,h6⟩:=h4 (by omega);cases e
 refine⟨b,off+i,rfl,h5,λj hj=>?_⟩;obtain⟨rv,h7,h8⟩:=h6 (i+j) (by omega);refine⟨rv,by rw[jfG];exact h7,?_⟩;have:((rs.drop i).take m)[j]=rs[i+j]'(by omega):=by simp
 rw[this];exact h8
def jaZ(W:World)(gs:List (Value×List Row)):Prop:=∀ x∈gs,Sr W x.1 x.2
def ZO:(prog.info? 26).map (λi=>(i.zero,i.size,i.bytes))=some (some (.slice none 0 0),1,24):=by kernel_rfl
def vF{w0 w:World}{v:Value}{rs:List Row}(Da:Sr w0 v rs)(iz:jgu w0 w)(hl:rs.length<=1000){g:Nat}(dP:1<=g)(fY:g<=64) :
  Calls prog 46 #[v,.int .i64 (g:Int)] w λe w'=>(∃ v' gs,e=.returned v'/\w'.ownsRow w.heap.size 26 1 v' gs.length (gs.map Prod.fst)/\jaZ w0 gs/\gs.map Prod.snd=xF g rs)/\jgu w w':=by
 obtain⟨i0,hi,bR,hz1',aX⟩:=jeT ZO;have HS:=ae Da;obtain⟨a,cap,rfl,bg,bx⟩:=Da.form;have hcm':cap<=9223372036854775807:=by unfold maxLen at bx;omega
 have XK:=ae (λj=>kH (n:=rs.length) (j:=j) (show 0<g by omega));have HPR:jgt (xF g rs=(List.range (nps g rs.length)).map (prt g rs)):=ae rfl;rw[HPR.o];clear HPR
 have oM:jgt (nps g rs.length<=1000):=ae (by
  rcases je0 1000 (nps g rs.length)with h | h
  ·have:=(XK.o 1000).1 h
   have:1000*1<=1000*g:=jfJ _ dP;omega
  ·exact h)
 generalize nps g rs.length=N at *;clear Da iz bx;go_enter func46,ntmps46
 go_wp2_with fail;go_loopw [5,6] (λo i wr=>∃(j:Nat) (gs:List (Value×List Row)),j<=N/\i=.int .i64 ((j*g:Nat):Int)/\gs.map Prod.snd=(List.range j).map (prt g rs)/\wr.ownsRow w.heap.size 26 1 o gs.length (gs.map Prod.fst)/\jaZ w0 gs/\jgu w wr) (λ_ i _=>rs.length+64-(intOf i).toNat)
 case atStart=>exact⟨0,[],by omega,by simp,rfl,jfh _ _ _ _,λx hx=>by simp at hx,jez _ _⟩
 case round =>
  obtain⟨j,gs,hj,rfl,oX,ax,Gh,ao⟩:=hrel;have HO:=ae ax;have HB:=ae ao;have iw:=ae oX;have XP:gs.length=j:=by have:=jeG List.length oX;simpa using this
  have XS:=ae XP;have bF:=ao.size;obtain⟨la,lc,rfl,De,qs⟩:=bn ax;have sg:=ae HS.o;have HSS:=ae Gh;clear ax ao oX XP Gh;by_cases ar:j<N
  ·have hjg:=(XK.o j).1 ar
   obtain⟨b,off,rv,rfl,hb,_⟩:=sg.o.at hjg;obtain⟨p,hp⟩:∃ p,j*g=p:=⟨_,rfl⟩;have HP:=ae hp;have XX:jgt ((j+1)*g=p+g):=ae (by rw[jfd,jfT,hp]);rw[hp]at hjg ⊢;obtain⟨m,hm⟩:∃ m,min rs.length (p+g)-p=m:=⟨_,rfl⟩;have Rn:min (rs.length:Int) ((p:Int)+(g:Int))=((p+m:Nat):Int):=(by omega)
   have HPT:jgt (prt g rs j=(rs.drop p).take m):=ae (by
    unfold prt;rw[hp];apply List.ext_getElem?
    intro q;rw[List.getElem?_take,List.getElem?_take,List.getElem?_drop];by_cases h1:q<g
    ·rw[jey h1]
     by_cases h2:q<m
     ·rw[jey h2]
     ·rw[jex h2,List.getElem?_eq_none (by omega)]
    ·rw[jex h1,jex (by omega)])
   have HCU:=ae (sg.o.cut (i:=p) (m:=m) (by omega));have hjg':(p:Int)<(rs.length:Int):=(by omega);have hlt':((p:Nat):Int)<=((p+m:Nat):Int):=(by omega);have hpc:((p+m:Nat):Int)<=(cap:Int):=(by omega);have hpm:((p+m:Nat):Int).toNat=p+m:=(by omega);have hpn:((p:Nat):Int).toNat=p:=(by omega);have hdm:p+m-p=m:=(by omega);have hw1:IntKind.i64.wrap ((p:Int)+(g:Int))=(p:Int)+(g:Int):=by rw[jfq];omega
   have hd2:((p+m:Nat):Int)-(p:Int)=(m:Int):=(by omega);have hgl3:gs.length<=1000:=by have:=XS.o;have:=oM.o;omega
   have ix:=ae (aV wr (.slice (some ⟨b,off+p,none⟩) m (cap-p)) 26);clear hm hp;go_wp2_with (first | (at_builtin;refine jfw (w:=_) rfl _ _ 93 rfl w.heap.size 26 i0 (.slice none 0 0) 1 24 underlying93 hi bR hz1' aX rfl (by decide) (.slice la gs.length lc) gs.length (gs.map Prod.fst) rfl ?q0 ⟨wr.heap.size,0,none⟩ 1 1 [.slice (some ⟨b,off+p,none⟩) m (cap-p)] rfl rfl ?q1 ?q2 ?q3 ?q4 ?q5 ?_))
   case q0=>exact bv HO.o (aj _ _)
   case q1 =>
    intro j2 u hu;rw[oP];cases j2 with
    | zero =>
     simp only[List.getElem?_cons_zero,Option.some.injEq]at hu;rw[<- hu];exact ix.o
    | succ j2=>simp at hu
   case q2 =>
    intro u hu;rw[je9.1 hu];rfl
   case q3=>unfold maxLen;omega
   case q4=>omega
   case q5=>rw[jeB];omega
   intro v' w5 o5 g5 _ e5;have dK:=ae o5;have bq:=ae ((HB.o.alloc bF (.cells #[.slice (some ⟨b,off+p,none⟩) m (cap-p)] 26)).grown g5 (by rw[jeB];omega) (λk hk=>(World.ownsRow.lt (bv HO.o (aj wr (.cells #[.slice (some ⟨b,off+p,none⟩) m (cap-p)] 26))) k hk).1));clear o5 g5 e5;go_wp2_with fail;go_roundw
   case rel =>
    refine⟨j+1,gs++[(.slice (some ⟨b,off+p,none⟩) m (cap-p),prt g rs j)],by omega,by rw[XX.o];rfl,by rw[jeR,iw.o,jfL,jeR];rfl,?_,λx hx=>?_,bq.o⟩
    ·rw[jeC,jeR]
     exact dK.o
    ·rcases je1.1 hx with hx | hx
     ·exact HSS.o x hx
     ·rw[je9.1 hx,HPT.o]
      exact HCU.o
   case measure=>simp[intOf];omega
  ·have hjN:¬ j*g<rs.length:=λh=>ar ((XK.o j).2 h)
   obtain rfl:j=N:=by omega
   obtain⟨p,hp⟩:∃ p,j*g=p:=⟨_,rfl⟩;rw[hp]at hjN ⊢;have ed:¬ (p:Int)<(rs.length:Int):=(by omega);go_wp2_with fail;go_ret
   first | exact⟨⟨_,gs,rfl,HO.o,HSS.o,iw.o⟩,HB.o⟩ | exact⟨⟨_,rfl,gs,HO.o,HSS.o,iw.o⟩,HB.o⟩
end Go.Proofs.YtpljdjmpamjkhaaGreatDoor
