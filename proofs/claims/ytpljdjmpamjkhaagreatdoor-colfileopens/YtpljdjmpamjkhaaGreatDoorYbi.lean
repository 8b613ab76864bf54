import Derived.Test.YtpljdjmpamjkhaaGreatDoorYbe
import Derived.Test.YtpljdjmpamjkhaaGreatDoorYbh
import Derived.Deep.QuietTactic
import Derived.BigQuiet
set_option linter.unusedVariables false
set_option linter.unusedSimpArgs false
set_option maxRecDepth 100000
set_option maxHeartbeats 4000000
namespace Go.Proofs.YtpljdjmpamjkhaaGreatDoor
open Go.RowKit Go.Lib
theorem GC{w:World}{p f:Nat}{b:List Nat}(h:Rs w p b f)(hf:Er f)(k n:Nat)(hk:1<=k/\k<=3)(hn:n<=256) :
  Calls Tryz.prog 263 #[.pointer (some ⟨p,0,none⟩),.int .u8 (k:Int),.int .i64 (n:Int)] w (JL k n b p f w):=by
 obtain rfl | rfl | rfl:k=1∨k=2∨k=3:=by omega
 ·exact Qw h hf n hn
 ·exact Qx h hf n hn
 ·exact Qy h hf n hn
def CP(k n:Nat)(b:List Nat)(l:List (Nat×Int×List Nat))(f':Nat):Prop :=
 Er f'/\(f'=0->Col k l/\l.length=n)/\(f'≠0->l=[])/\∀ y,Col k y->y.length=n->b=em k y->f'=0/\l=y
theorem DO{k:Nat}:∀{t:List Nat} {s:List (Nat×Int×List Nat)},(∀ c∈s,gh k c)->∀ c∈gR t s,gh k c:=fun{t s} h=>(nX (P:=gh k) (Or.inl rfl) h).2
theorem T7{k n:Nat}{b b1 b2:List Nat}{th:List Nat}{s:List (Nat×Int×List Nat)}{f1 f2:Nat}(h1:RP (Nu n) (byH b n) 0 th b1 f1)(h2:RP (Nv k th.sum) (byT k b1) f1 s b2 f2)(hn:f2≠0):CP k n b [] f2:=by
 refine⟨h2.1,fun h=>absurd h hn,fun _=>rfl,fun y a1 a2 a3=>?_⟩;obtain⟨d1,d2,d3⟩:=h1.2.2 (bJ y) (gi k y) rfl ⟨by rw[bg];exact a2,dU y⟩ ⟨y,a2,rfl,a3⟩;have ho:=Cs y;obtain⟨e1,_⟩:=h2.2.2 (bS y) [] d1 ⟨by rw[d2,nV],fun c hc=>⟨a1.2.2 c (ji hc).1,(ji hc).2⟩⟩ ⟨by rw[d3];unfold gi;rw[ho],rfl⟩;exact absurd e1 hn
theorem QE{k n:Nat}{b b1 b2:List Nat}{th:List Nat}{s:List (Nat×Int×List Nat)}{f1:Nat}(hk:1<=k/\k<=3)(hn:n<=256)(h1:RP (Nu n) (byH b n) 0 th b1 f1)(h2:RP (Nv k th.sum) (byT k b1) f1 s b2 0):CP k n b (gR th s) 0:=by
 obtain⟨g1,g2⟩:=h2.2.1 rfl;obtain⟨_,g3⟩:=h1.2.1 g1;refine⟨er0,fun _=>⟨⟨hk,by rw[iu,g3.1];exact hn,DO fun c hc=>(g2.2 c hc).1⟩,by rw[iu,g3.1]⟩,fun h=>absurd rfl h,fun y a1 a2 a3=>⟨rfl,?_⟩⟩;obtain⟨d1,d2,d3⟩:=h1.2.2 (bJ y) (gi k y) rfl ⟨by rw[bg];exact a2,dU y⟩ ⟨y,a2,rfl,a3⟩;have ho:=Cs y;obtain⟨_,e2,_⟩:=h2.2.2 (bS y) [] d1 ⟨by rw[d2,nV],fun c hc=>⟨a1.2.2 c (ji hc).1,(ji hc).2⟩⟩ ⟨by rw[d3];unfold gi;rw[ho],rfl⟩;rw[d2,e2];exact pC a1.2.2
theorem GD{w:World}{p:Nat}{b:List Nat}(h:Rs w p b 0)(k n:Nat)(hk:1<=k/\k<=3)(hn:n<=256) :
  Calls Tryz.prog 235 #[.pointer (some ⟨p,0,none⟩),.int .u8 (k:Int),.int .i64 (n:Int)] w fun r w'=>∃ l b' f',(∃ v,r=.returned v/\OwnV w' w.heap.size v l)/\Rs w' p b' f'/\CP k n b l f'/\Fr p w.heap.size w w':=by
 have aB:=h.lt;have HN:=ae (Lv h er0 n hn);have zP:=ae (fun b1 b2 th s f1 h1 h2=>QE (k:=k) (n:=n) (b:=b) (b1:=b1) (b2:=b2) (th:=th) (s:=s) (f1:=f1) hk hn h1 h2);have HK:=ae hk;clear h hk;go_enter Tryz.func235,Tryz.ntmps235
 go_wp2_with fail;refine HN.out.mono ?_;rintro e w1 ⟨th,b1,f1,⟨v1,rfl,eG⟩,Hd,M5,eg,ME,dt⟩;have fA:=ae eG;have zS:=ae Hd;have iM:=ae eg;have HRP1:=ae ME;have gd:=ae dt;have cW:=dt.size;have nI:th.sum<=256:=by have:=qX Hd;omega
 have zH:=ae (Qu (dB.sv eG) Hd (by omega));have HVA:=ae (GC eg ME.1 k th.sum HK.out nI)
 have xA:Hid (∀ j,v1.ownBlock=some j->j<w1.heap.size/\j≠p):=ae (fun j hj=>by
  have:=eG.lt j hj;exact⟨this.2,by omega⟩)
 clear eG Hd eg ME dt;go_wp2_with fail;refine zH.out.mono ?_;rintro e w2 ⟨rfl,rfl⟩;go_wp2_with fail;refine HVA.out.mono ?_;rintro e w3 ⟨s,b3,f3,⟨v3,rfl,fN⟩,kX,hrp3,ix⟩;have cX:=ae fN;have m7:=ae kX;have Yv:=ae hrp3;have p7:=ae (gd.out.trans (ix.mono cW));have iB:=ix.size;have Kg:=ae ((dB.sv fA.out).keptFr xA.out ix);obtain⟨a0,cap0,k0,k1,k2,k3,k4,k5,k6,k7,k8,k9,k10⟩:=kX.cells;clear fN kX hrp3 ix k0 k2 k3 k4 k5 k6 k7 k8 k9 k10;by_cases uH:f3=0
 ·subst uH
  have RZ:=ae (zP.out b1 b3 th s f1 HRP1.out Yv.out);obtain⟨g1,g2⟩:=Yv.out.2.1 rfl;have ZE:=ae (Gz Kg.out zS.out (by omega) (OwnV.sv cX.out) g2.1 (fun c hc=>(g2.2 c hc).2));clear g1 g2;generalize gR th s=L at *;go_wp2_with fail;refine ZE.out.mono ?_;rintro e w4 ⟨⟨v4,rfl,gD⟩,bv⟩;have eP:=ae (aZ (B:=w.heap.size) gD (by omega));have um:=ae (m7.out.kept bv m7.out.lt);have xx:=ae (p7.out.trans (Fr.of_below (bv.mono (by omega))));clear gD bv;go_wp2_with fail;go_ret
  exact⟨L,_,0,⟨_,rfl,eP.out⟩,um.out,RZ.out,xx.out⟩
 ·have fO:((f3:Int) != 0)=true:=by simpa using uH
  have RZ:=ae (T7 (k:=k) HRP1.out Yv.out uH);clear uH;go_wp2_with fail;go_ret
  exact⟨[],_,f3,⟨_,rfl,OwnV.nil _ _⟩,m7.out,RZ.out,p7.out⟩
theorem AW{w:World}{vb vl:Value}{b:List Nat}{l:List (Nat×Int×List Nat)}{k:Nat}(hb:Sv w vb (aE .u8 b))(h8:Bs b)(hs:Sv w vl (aI l))(fU:∀ k,vl.ownBlock=some k->k<w.heap.size)(hc:Col k l) :
  Calls Tryz.prog 236 #[.int .u8 (k:Int),vb,vl] w fun e w'=>e=.returned (.bool (decide (em k l=b)))/\Below w.heap.size w w':=by
 have HW:=ae (zq hs fU (fun c hcc=>(hc.2.2 c hcc).fine) k);rw[kb hc]at HW;have HB:=ae hb;have H8:=ae h8;have M0:=ae (il hc).2;clear hb h8 hs fU hc;unfold sJ at HW;generalize em k l=cb at *;go_enter Tryz.func236,Tryz.ntmps236
 go_wp2_with fail;refine HW.out.mono ?_;rintro e w1 ⟨⟨v1,rfl,eG⟩,aG⟩;have Bv:=ae (oo eG.sv (HB.out.kept aG) M0.out H8.out);have aQ:=ae aG;clear eG aG;go_wp2_with fail;refine Bv.out.mono ?_;rintro e w2 ⟨rfl,rfl⟩;go_wp2_with fail;go_ret
 exact⟨rfl,aQ.out⟩
def tH(k:Nat)(b:List Nat)(n:Int)(l:List (Nat×Int×List Nat))(er:Nat):Prop :=
 if 1<=k/\k<=3 then
  (if 0<=n/\n<=256 then (er=0/\gj k b n.toNat=some l)∨(er≠0/\Er er/\l=[]/\gj k b n.toNat=none) else er=1/\l=[])
 else er=10/\l=[]
def QF(k:Nat)(b:List Nat)(n:Int)(w:World)(e:Ending)(w':World):Prop :=
 ∃(v:Value) (l:List (Nat×Int×List Nat)) (er:Nat),e=.returned (.tuple #[v,.int .i64 (er:Int)])/\OwnV w' w.heap.size v l/\tH k b n l er/\Below w.heap.size w w'
theorem LH{k n:Nat}{b:List Nat}{l:List (Nat×Int×List Nat)}{er:Nat}(hk:1<=k/\k<=3)(hn:n<=256)(h:(er=0/\gj k b n=some l)∨(er≠0/\Er er/\l=[]/\gj k b n=none)):tH k b (n:Int) l er:=by
 unfold tH;rw[if_pos hk,if_pos (by omega),jah];exact h
theorem T9{k n:Nat}{b:List Nat}{l:List (Nat×Int×List Nat)}{f':Nat}(hk:1<=k/\k<=3)(hn:n<=256)(hb:Bs b)(hc:CP k n b l f')(h:¬ (f'=0/\em k l=b)):gj k b n=none:=by
 cases e:gj k b n with
 | none=>rfl
 | some y =>
  obtain⟨h1,h2,h3⟩:=(lJ hk hn hb).1 e;obtain⟨d1,d2⟩:=hc.2.2.2 y h1 h2 h3.symm;exact absurd ⟨d1,by rw[d2];exact h3⟩ h
theorem GE{w:World}{vb:Value}{b:List Nat}(hb:Sv w vb (aE .u8 b))(h8:Bs b)(k n:Nat)(hk:1<=k/\k<=3)(hn:n<=256) :
  Calls Tryz.prog 214 #[.int .u8 (k:Int),vb,.int .i64 (n:Int)] w (QF k b (n:Int) w):=by
 have Ya:=ae hb;have H8:=ae h8;have xl:=ae (jb k);rw[decide_eq_true hk]at xl;have dW:=hb;obtain⟨a,cap,rfl,aX,bw⟩:=hb.form1;rw[ap]at *;have qa:¬ (n:Int)<0:=by omega
 have UM:¬ (n:Int) > 256:=by omega
 have cP:Hid (Rs (w.alloc (.cells #[.slice a b.length cap,.int .i64 0] 271)) w.heap.size b 0):=ae (by
  refine⟨a,cap,Do _ _,dW.kept (ak w _),fun h0 j hj=>?_,h8⟩;obtain⟨a',cap',e,_,_,_,h4⟩:=dW;rw[ap]at e h4;simp only[Value.slice.injEq]at e;obtain⟨rfl,_,_⟩:=e;obtain⟨g,off,rfl,h5,_⟩:=h4 h0;cases hj
  exact h5)
 have hza:=ZS w (.cells #[.slice a b.length cap,.int .i64 0] 271);have HCO:=ae (GD cP.out k n hk hn);have eW:=ae (ak w (.cells #[.slice a b.length cap,.int .i64 0] 271));have HK:=ae hk;have V6:=ae (fun l f' hc h=>T9 (k:=k) (n:=n) (b:=b) (l:=l) (f':=f') hk hn h8 hc h);have HTM:=ae (fun l er h=>LH (k:=k) (n:=n) (b:=b) (l:=l) (er:=er) hk hn h);have HIFF:=ae (fun l=>(lJ (k:=k) (n:=n) (b:=b) (l:=l) hk hn h8).2);clear hb dW h8 hk aX bw;go_enter Tryz.func214,Tryz.ntmps214
 go_wp2_with fail;refine(xl.out _).mono ?_;rintro e w1 ⟨rfl,rfl⟩;go_wp2_with fail;refine HCO.out.mono ?_;rintro e w2 ⟨l,b2,f2,⟨v2,rfl,fq⟩,ef,S0,dM⟩;have aD:Below w1.heap.size w1 w2:=eW.out.trans (dM.below (ZR _) (by omega));have dr:=ae (aZ (B:=w1.heap.size) fq (by omega));have gC:=ae ef;have RZ:=ae S0;have aN:=ae aD;have bm:=aD.size;have jC:=ef.lt;obtain⟨a0,cap0,k0,k1,k2,k3,k4,k5,k6,k7,k8,k9,k10⟩:=ef.cells;obtain⟨av,cv,rfl,_,_⟩:=aM fq;have UP:=ae (OwnV.sv fq);have xA:=ae (fun j hj=>(fq.lt j hj).2);clear fq ef S0 dM aD k0 k2 k3 k4 k5 k6 k7 k8 k9 k10;by_cases uH:f2=0
 ·subst uH
  obtain⟨dT,bQ⟩:=RZ.out.2.1 rfl;have Jb:=ae (AW (Ya.out.kept aN.out) H8.out UP.out xA.out dT);have mX:=ae dT;have Bu:=ae bQ;clear dT bQ;by_cases heq:em k l=b
  ·rw[decide_eq_true heq]at Jb
   have MJ:=ae (HTM.out l 0 (Or.inl ⟨rfl,HIFF.out l ⟨mX.out,Bu.out,heq⟩⟩));clear heq;go_wp2_with fail;refine Jb.out.mono ?_;rintro e w3 ⟨rfl,aP⟩;have cX:=ae (bH dr.out aP);have bM:=ae (aN.out.trans (aP.mono bm));have hk1':=(gC.out.kept aP jC).cells;obtain⟨a3,cap3,q0,q1,q2,q3,q4,q5,q6,q7,q8,q9,q10⟩:=hk1';clear aP q0 q2 q3 q4 q5 q6 q7 q8 q9 q10 k1;go_wp2_with fail;go_ret2
   exact⟨_,l,0,rfl,cX.out,MJ.out,bM.out⟩
  ·rw[decide_eq_false heq]at Jb
   have MJ:=ae (HTM.out [] 40 (Or.inr ⟨by omega,ub,rfl,V6.out l 0 RZ.out (fun h=>heq h.2)⟩));clear heq;go_wp2_with fail;refine Jb.out.mono ?_;rintro e w3 ⟨rfl,aP⟩;have bM:=ae (aN.out.trans (aP.mono bm));have iB:=aP.size;have m7:=ae (gC.out.kept aP jC);clear aP k1;go_wp2_with fail;refine(cB m7.out 40).mono ?_;rintro e w4 ⟨rfl,xn,pj⟩;rw[eT]at xn;have b9:=ae (bM.out.trans (pj.below (ZR _) (by omega)));obtain⟨a3,cap3,q0,q1,q2,q3,q4,q5,q6,q7,q8,q9,q10⟩:=xn.cells;clear xn pj q0 q2 q3 q4 q5 q6 q7 q8 q9 q10;go_wp2_with fail;go_quiet (fail)
   go_wp2_with fail;go_ret2
   exact⟨_,[],40,rfl,OwnV.nil _ _,MJ.out,b9.out.trans ⟨rfl,rfl,rfl,ZR _,fun _ _=>rfl⟩⟩
 ·have fO:((f2:Int) != 0)=true:=by simpa using uH
  have yk:((f2:Int)==0)=false:=by simpa using uH
  have MJ:=ae (HTM.out [] f2 (Or.inr ⟨uH,RZ.out.1,rfl,V6.out l f2 RZ.out (fun h=>uH h.1)⟩));clear uH;go_wp2_with fail;go_quiet (fail)
  go_wp2_with fail;go_ret2
  exact⟨_,[],f2,rfl,OwnV.nil _ _,MJ.out,aN.out.trans ⟨rfl,rfl,rfl,ZR _,fun _ _=>rfl⟩⟩
theorem LJ{w:World}{vb:Value}{b:List Nat}(hb:Sv w vb (aE .u8 b))(h8:Bs b)(k:Nat)(n:Int) :
  Calls Tryz.prog 214 #[.int .u8 (k:Int),vb,.int .i64 n] w (QF k b n w):=by
 by_cases hk:1<=k/\k<=3
 ·by_cases hn:0<=n/\n<=256
  ·obtain⟨m,rfl⟩:∃ m:Nat,n=(m:Int):=⟨n.toNat,by omega⟩
   exact GE hb h8 k m hk (by omega)
  ·have xl:=ae (jb k)
   rw[decide_eq_true hk]at xl;have MJ:Hid (tH k b n [] 1):=ae (by unfold tH;rw[if_pos hk,if_neg hn];exact⟨rfl,rfl⟩);obtain⟨a,cap,rfl,_,_⟩:=hb.form1;clear hb h8 hk;by_cases h0:n<0
   ·clear hn
    go_enter Tryz.func214,Tryz.ntmps214
    go_wp2_with fail;refine(xl.out _).mono ?_;rintro e w1 ⟨rfl,rfl⟩;go_wp2_with fail;go_ret2
    exact⟨_,[],1,rfl,OwnV.nil _ _,MJ.out,ZQ _ _⟩
   ·have h1:n > 256:=by omega
    clear hn;go_enter Tryz.func214,Tryz.ntmps214
    go_wp2_with fail;refine(xl.out _).mono ?_;rintro e w1 ⟨rfl,rfl⟩;go_wp2_with fail;go_ret2
    exact⟨_,[],1,rfl,OwnV.nil _ _,MJ.out,ZQ _ _⟩
 ·have xl:=ae (jb k)
  rw[decide_eq_false hk]at xl;have MJ:Hid (tH k b n [] 10):=ae (by unfold tH;rw[if_neg hk];exact⟨rfl,rfl⟩);obtain⟨a,cap,rfl,_,_⟩:=hb.form1;clear hb h8 hk;go_enter Tryz.func214,Tryz.ntmps214
  go_wp2_with fail;refine(xl.out _).mono ?_;rintro e w1 ⟨rfl,rfl⟩;go_wp2_with fail;go_ret2
  exact⟨_,[],10,rfl,OwnV.nil _ _,MJ.out,ZQ _ _⟩
theorem gI(k:Nat)(l:List Nat):(aE .u8 l).take k=aE .u8 (l.take k):=by simp[aE,ja6]
theorem kw(k:Nat)(l:List Nat):(aE .u8 l).drop k=aE .u8 (l.drop k):=by simp[aE,List.map_drop]
theorem AX(a b:List Nat)(h:b.length<=a.length):decide (a.take b.length=b)=b.isPrefixOf a:=by
 rw[jba,decide_eq_true_eq,jaW];constructor
 ·intro e
  rw[← e];exact List.take_prefix _ _
 ·rintro⟨t,rfl⟩
  exact jaF
theorem AY(a b:List Nat)(h:a.length<b.length):b.isPrefixOf a=false:=by
 rw[Bool.eq_false_iff,ne_eq,jaW];intro e;have:=e.length_le;omega
theorem QG{w:World}{va vb:Value}{a b:List Nat}(ha:Sv w va (aE .u8 a))(hb:Sv w vb (aE .u8 b))(h8:Bs a)(h9:Bs b) :
  Calls Tryz.prog 94 #[va,vb] w fun e w'=>e=.returned (.bool (b.isPrefixOf a))/\w'=w:=by
 obtain⟨aa,ca,rfl,lp,kx⟩:=ha.form1;obtain⟨ab,cb,rfl,Hw,Zu⟩:=hb.form1;rw[ap]at *;rw[ap]at *;have hc2':ca<=9223372036854775807:=by unfold maxLen at kx;omega
 by_cases h:b.length<=a.length
 ·have hT:=ha.take (k:=b.length) (by rw[ap];exact h)
  rw[gI]at hT;have HE:=ae (oo hT hb (h8.take b.length) h9);have HP:=ae (AX a b h);have gJ:(a.length:Int)>=(b.length:Int):=by omega
  have oH:b.length<=ca:=by omega
  clear ha hb h8 h9 hT;generalize decide (a.take b.length=b)=d at *;go_enter Tryz.func94,Tryz.ntmps94
  go_wp2_with fail;refine HE.out.mono ?_;rintro e w1 ⟨rfl,rfl⟩;go_wp2_with fail;go_ret
  rw[← HP.out];exact⟨rfl,rfl⟩
 ·have gJ:¬ (a.length:Int)>=(b.length:Int):=by omega
  have HP:=ae (AY a b (by omega));clear ha hb h8 h9;go_enter Tryz.func94,Tryz.ntmps94
  go_wp2_with fail;go_ret
  rw[HP.out];exact⟨rfl,rfl⟩
theorem DP{w:World}{aa:Option Addr}{ca:Nat}{vb:Value}{a b:List Nat}(ha:Sv w (.slice aa a.length ca) (aE .u8 a))(hb:Sv w vb (aE .u8 b))(h8:Bs a)(h9:Bs b) :
  Calls Tryz.prog 52 #[.slice aa a.length ca,vb] w fun e w'=>(∃ v,e=.returned (.tuple #[v,.bool (b.isPrefixOf a)])/\Sv w' v (aE .u8 (if b.isPrefixOf a=true then a.drop b.length else a))/\(∀ p,(∀ i,(Value.slice aa a.length ca).ownBlock=some i->i<p)->∀ i,v.ownBlock=some i->i<p))/\w'=w:=by
 have HP:=ae (QG ha hb h8 h9);obtain⟨ab,cb,rfl,Hw,Zu⟩:=hb.form1;have HA:=ae ha;obtain⟨a',cap',e,lp,kx,hn,_⟩:=ha;simp only[Value.slice.injEq]at e;obtain⟨rfl,_,rfl⟩:=e;simp only[ap]at *;have hc2':ca<=9223372036854775807:=by unfold maxLen at kx;omega
 clear hb h8 h9;have kD:b.isPrefixOf a=true->b.length<=a.length:=fun h=>(jaW.1 h).length_le
 generalize b.isPrefixOf a=px at *;cases px
 case true =>
  have hl:b.length<=a.length:=kD rfl;have hD:=HA.out.dropG (k:=b.length) (by rw[ap];exact hl);rw[kw,ap]at hD;obtain⟨A,hA⟩:∃ A,(if ca=b.length then aa else aa.map fun x=>x.add b.length)=A:=⟨_,rfl⟩;have HBK:=ae (fun(p:Nat) (hp:∀ i,(Value.slice aa a.length ca).ownBlock=some i->i<p)=>jo (m:=a.length-b.length) (k:=b.length) (c:=ca) hp);rw[hA]at hD HBK;have HD:=ae hD;have HAA:=ae hA;have oH:(b.length:Int)<=(ca:Int):=by omega
  have hle2:(b.length:Int)<=(a.length:Int):=by omega
  clear hD HA kD;go_enter Tryz.func52,Tryz.ntmps52
  go_wp2_with fail;refine HP.out.mono ?_;rintro e w1 ⟨rfl,rfl⟩;go_wp2_with fail;go_ret2
  exact⟨⟨_,rfl,HD.out,HBK.out⟩,rfl⟩
 case false =>
  clear kD;go_enter Tryz.func52,Tryz.ntmps52
  go_wp2_with fail;refine HP.out.mono ?_;rintro e w1 ⟨rfl,rfl⟩;go_wp2_with fail;go_ret2
  exact⟨⟨_,rfl,by simpa using HA.out,fun p hp=>hp⟩,rfl⟩
theorem DQ:∀(a:List Nat) (x:Nat),leN (a++[x])=leN a+x*2 ^ (8*a.length)
 | [],x=>by simp[leN]
 | y::a,x=>by
  have h:=DQ a x
  have e:2 ^ (8*(y::a).length)=256*2 ^ (8*a.length):=by
   rw[ZW,jaR,jaK,jak]
  show y+256*leN (a++[x])=(y+256*leN a)+_
  rw[h,e,jaR,Nat.mul_left_comm x 256];omega
theorem join8{n c k:Nat}(hk:k<=3)(hn:n<2 ^ (8*k))(hc:c<256):bits .or .u64 (n:Int) (IntKind.u64.wrap ((c:Int)*2 ^ (8*k)))=((n+c*2 ^ (8*k):Nat):Int):=by
 have h1:2 ^ (8*k)<=2 ^ 24:=jaY (by omega) (by omega);have h2:c*2 ^ (8*k)<=255*2 ^ 24:=jbd (by omega) h1;have e:(c:Int)*2 ^ (8*k)=((c*2 ^ (8*k):Nat):Int):=by simp
 rw[e,wraps_u64 _ (by omega) (by omega)]
 have e2:bits .or .u64 (n:Int) ((c*2 ^ (8*k):Nat):Int)=(n:Int)+((c*2 ^ (8*k):Nat):Int):=by
  apply bits_join_low .u64 64 (by decide) wraps_u64 (8*k)
  ·omega
  ·have:(n:Int)<((2 ^ (8*k):Nat):Int):=by omega
   simpa using this
  ·omega
  ·omega
  ·simp
  ·omega
 rw[e2];omega
theorem AZ{w:World}{v:Value}{l:List Nat}(hs:Sv w v (aE .u8 l))(h8:Bs l)(hl:l.length<=4) :
  Calls Tryz.prog 138 #[v] w fun e w'=>e=.returned (.int .u64 ((leN l:Nat):Int))/\w'=w:=by
 have HS:=ae hs;obtain⟨a,cap,rfl,lp,kx⟩:=hs.form1;simp only[ap]at *;have H8:=ae h8;clear hs h8;go_enter Tryz.func138,Tryz.ntmps138
 go_wp2_with fail;go_loopw [3,8] (fun n i w'=>w'=w/\∃ k:Nat,k<=l.length/\i=.int .i64 (k:Int)/\n=.int .u64 ((leN (l.take k):Nat):Int)) (fun _ i _=>l.length-(intOf i).toNat)
 case atStart=>exact⟨rfl,0,by omega,rfl,rfl⟩
 case round =>
  obtain⟨rfl,k,hk,rfl,rfl⟩:=hrel;by_cases aB:k<l.length
  ·obtain⟨b,off,rfl,hb,dP⟩:=HS.out.at1 (bR aB)
   have hlt':(k:Int)<(l.length:Int):=by omega
   have oH:=Gb (b:=l.take k) (fun x hx=>H8.out x (jaw hx));rw[ZX,jaJ (by omega)]at oH;have eO:=H8.out _ (ZV aB);have hj:=join8 (show k<=3 by omega) oH eO
   have sY:Hid (leN (l.take (k+1))=leN (l.take k)+l[k]*2 ^ (8*k)):=ae (by
    rw[Z5 aB,DQ,ZX,jaJ (by omega)])
   have h9:IntKind.i64.wrap (8*(k:Int))=8*(k:Int):=by rw[jam];omega
   have mY:(8*(k:Int)).toNat=8*k:=by omega
   have h11:IntKind.u64.wrap ((l[k]:Nat):Int)=((l[k]:Nat):Int):=by rw[jag];omega
   generalize l[k]=c at *;generalize leN (l.take k)=n at *;go_wp2_with fail;go_roundw
   case rel=>exact⟨trivial,k+1,by omega,by go_num,by rw[sY.out];simp⟩
   case measure=>simp[intOf];omega
  ·obtain rfl:k=l.length:=by omega
   have gJ:¬ ((l.length:Nat):Int)<(l.length:Int):=by omega
   go_wp2_with fail;go_ret
   exact⟨rfl,rfl⟩
def spl(b:List Nat):Option (List Nat×List Nat) :=
 if b.length<4 then none else if b.length-4<leN (b.drop (b.length-4)) then none
 else some (b.take (b.length-4-leN (b.drop (b.length-4))),(b.take (b.length-4)).drop (b.length-4-leN (b.drop (b.length-4))))
def nE(p:Nat)(v:Value):Prop:=∀ i,v.ownBlock=some i->i<p
theorem LK{w:World}{v:Value}{b:List Nat}(hs:Sv w v (aE .u8 b))(h8:Bs b)(hl:b.length<=100000000)(hw:nE w.heap.size v) :
  Calls Tryz.prog 95 #[v] w fun e w'=>(∃ v1 v2,e=.returned (.tuple #[v1,v2,.bool (spl b).isSome])/\(∀ x y,spl b=some (x,y)->Sv w' v1 (aE .u8 x)/\Sv w' v2 (aE .u8 y)/\nE w.heap.size v1/\nE w.heap.size v2))/\Below w.heap.size w w':=by
 have HS:=ae hs;obtain⟨a',cap,e,lp,kx,hn,hx⟩:=hs;simp only[ap]at *;subst e;have hc2':cap<=9223372036854775807:=by unfold maxLen at kx;omega
 have oI:b.length<=9223372036854775807:=by omega
 by_cases h4:b.length<4
 ·have HP:Hid (spl b=none):=ae (if_pos h4)
  have aB:(b.length:Int)-4<0:=by omega
  clear h8;go_enter Tryz.func95,Tryz.ntmps95
  go_wp2_with fail;go_ret3
  rw[HP.out];exact⟨⟨_,_,rfl,fun x y h=>by cases h⟩,ZQ _ _⟩
 ·obtain⟨n,qb⟩:∃ n,b.length=n+4:=⟨b.length-4,by omega⟩
  have hD:=HS.out.dropG (k:=n) (by rw[ap];omega);rw[kw,ap,qb]at hD;obtain⟨A,hA⟩:∃ A,(if cap=n then a' else a'.map fun x=>x.add n)=A:=⟨_,rfl⟩;rw[hA,show n+4-n=4 by omega]at hD
  have hln:leN (b.drop n)<4294967296:=by
   have:=Gb (b:=b.drop n) (fun x hx=>h8 x (jbc hx));rw[jai,qb,show n+4-n=4 by omega]at this;simpa using this
  have HNU:=ae (AZ hD (h8.drop n) (by rw[jai,qb];omega))
  have HP:Hid (spl b=if n<leN (b.drop n) then none else some (b.take (n-leN (b.drop n)),(b.take n).drop (n-leN (b.drop n)))):=ae (by
   unfold spl;rw[if_neg h4,show b.length-4=n by omega])
  have oH:(b.length:Int)-4=(n:Int):=by omega
  have qa:¬ (n:Int)<0:=by omega
  have UM:(n:Int)<=(cap:Int):=by omega
  have VU:(n:Int)<=(b.length:Int):=by omega
  have HAA:=ae hA;have BQ:=ae qb;rw[qb]at lp hw ⊢;clear qb;have hle':((n+4:Nat):Int)-4=(n:Int):=by omega
  clear hD h8 oH hx;generalize hN:leN (b.drop n)=N at *;clear hN;go_enter Tryz.func95,Tryz.ntmps95
  have hBE:∀ p,nE p (.slice a' (n+4) cap)->∀ m k,nE p (.slice (if cap=k then a' else a'.map fun x=>x.add k) m (cap-k)):=fun p hp m k=>jo (m:=m) (k:=k) (c:=cap) hp
  go_wp2_with fail;refine HNU.out.mono ?_;rintro e w1 ⟨rfl,rfl⟩;by_cases uF:n<N
  ·have hgt':(N:Int) > (n:Int):=by omega
   have En:Hid (spl b=none):=ae (by rw[HP.out,if_pos uF]);clear HP;go_wp2_with fail;go_ret3
   rw[En.out];exact⟨⟨_,_,rfl,fun x y h=>by cases h⟩,ZQ _ _⟩
  ·have hgt':¬ (N:Int) > (n:Int):=by omega
   obtain⟨m,hm⟩:∃ m,n=m+N:=⟨n-N,by omega⟩;have Rz:n-N=m:=by omega
   have En:Hid (spl b=some (b.take m,(b.take n).drop m)):=ae (by rw[HP.out,if_neg uF,Rz]);have hT:=HS.out.take (k:=m) (by rw[ap,BQ.out];omega);have hD1:=HS.out.take (k:=n) (by rw[ap,BQ.out];omega);have yh:(aE .u8 b).length=n+4:=by rw[ap];exact BQ.out
   have hD2:=hD1.dropG (k:=m) (by rw[ZX,yh];omega);rw[gI]at hT;rw[gI,kw]at hD2;obtain⟨A2,hA2⟩:∃ A2,(if cap=m then a' else a'.map fun x=>x.add m)=A2:=⟨_,rfl⟩;have hle3:(aE .u8 (b.take n)).length-m=N:=by rw[ap,ZX,BQ.out];omega
   have hB2:=hBE _ hw N m;have bw:¬ cap=m:=by omega
   rw[if_neg bw]at hA2 hD2 hB2;clear hA2;rw[hle3]at hD2;have hB1:nE w1.heap.size (.slice a' m cap):=fun i hi=>hw i (by cases a' with | none=>cases hi | some x=>exact hi)
   have HT:=ae hT;have yl:=ae hD2;have aQ:=ae hB1;have aN:=ae hB2;have p9:(n:Int)-(N:Int)=(m:Int):=by omega
   have kz:(0:Int)<=(m:Int):=by omega
   have Kb:(m:Int)<=(cap:Int):=by omega
   have hk4:(m:Int)<=(n:Int):=by omega
   have hk5:(n:Int)<=(cap:Int):=by omega
   have RI:(m:Int).toNat=m:=by omega
   have hk7:(n:Int).toNat=n:=by omega
   have hk8:n-m=N:=by omega
   have hk9:IntKind.i64.wrap (N:Int)=(N:Int):=by rw[jam];omega
   clear hT hD1 hD2 HP hB1 hB2 hBE Rz yh hle3 hw hm;go_wp2_with fail;go_quiet (fail)
   go_wp2_with fail;go_ret3
   rw[En.out];refine⟨⟨_,_,rfl,fun x y h=>?_⟩,below_drewN (ZQ _ _) _⟩;simp only[Option.some.injEq,Prod.mk.injEq]at h;obtain⟨rfl,rfl⟩:=h;exact⟨HT.out.kept (below_drewN (ZQ _ _) _),yl.out.kept (below_drewN (ZQ _ _) _),aQ.out,aN.out⟩
end Go.Proofs.YtpljdjmpamjkhaaGreatDoor
