import Derived.Test.YtpljdjmpamjkhaaGreatDoorYbi
import Derived.Test.YtpljdjmpamjkhaaGreatDoorYau
import Derived.Test.YtpljdjmpamjkhaaGreatDoorYbf
import Derived.Test.YtpljdjmpamjkhaaGreatDoorYat
import Derived.Test.YtpljdjmpamjkhaaGreatDoorYao
import Derived.Test.YtpljdjmpamjkhaaGreatDoorProg
import Derived.ProofKit
import Derived.OpenShut
import Derived.ShutString
import Derived.ChangeOld
import Derived.ChangeMaps5
import Derived.Below
import Derived.Deep.Slices
import Derived.Deep.Strs
import Derived.Lib.SmallJoins
set_option linter.unusedVariables false
set_option linter.unusedSimpArgs false
set_option maxRecDepth 100000
set_option maxHeartbeats 4000000
namespace Go.Proofs.YtpljdjmpamjkhaaGreatDoor
open Go.RowKit Go.Lib
def R3(W:World)(p:Nat)(c f:List Nat)(fl:Bool):Prop :=
 ∃ a cap a' cap',W.heap[p]?=some (.cells #[.slice a c.length cap,.slice a' f.length cap',.bool fl] 157 (0,0)) /\
  (Sv W (.slice a c.length cap) (aE .u8 c)/\(∀ k,(Value.slice a c.length cap).ownBlock=some k->k<p)/\Bs c) /\
  (Sv W (.slice a' f.length cap') (aE .u8 f)/\(∀ k,(Value.slice a' f.length cap').ownBlock=some k->k<p)/\Bs f)
theorem R3.lt{W:World}{p:Nat}{c f:List Nat}{fl:Bool}(h:R3 W p c f fl):p<W.heap.size:=by obtain⟨_,_,_,_,h,_⟩:=h;exact(Array.getElem?_eq_some_iff.1 h).1
theorem R3.bs{W:World}{p:Nat}{c f:List Nat}{fl:Bool}(h:R3 W p c f fl):Bs c/\Bs f:=by obtain⟨_,_,_,_,_,h1,h2⟩:=h;exact⟨h1.2.2,h2.2.2⟩
theorem R3.kept{W W':World}{p B:Nat}{c f:List Nat}{fl:Bool}(h:R3 W p c f fl)(hb:Below B W W')(hp:p<B):R3 W' p c f fl:=by
 obtain⟨a,cap,a',cap',h1,⟨h2,h3,h4⟩,h5,h6,h7⟩:=h;exact⟨a,cap,a',cap',(hb.block p hp).trans h1,⟨h2.keptW (fun _ k hk=>jaq (h3 k hk) hp) hb,h3,h4⟩,h5.keptW (fun _ k hk=>jaq (h6 k hk) hp) hb,h6,h7⟩
theorem OwnV.of_le{W:World}{B B':Nat}{v:Value}{l:List Cl}(h:OwnV W B v l)(hB:B'<=B):OwnV W B' v l:=by
 refine⟨h.1,?_⟩;rcases h.2 with hn | ⟨g,cap,cur,hv,hb,r⟩
 ·exact .inl hn
 ·exact .inr ⟨g,cap,cur,hv,ZZ hB hb,r⟩
theorem iW{W:World}{p i:Nat}(x:Value):Below p W (W.setCell ⟨p,i,none⟩ x):=(ZQ p W).setCell (ZR _) x
theorem R3.cells{W:World}{p:Nat}{c f:List Nat}{fl:Bool}(h:R3 W p c f fl) :
  ∃ a cap a' cap',(W.cell? ⟨p,0,none⟩=some (.slice a c.length cap)/\W.cell? ⟨p,1,none⟩=some (.slice a' f.length cap')/\W.cell? ⟨p,2,none⟩=some (.bool fl)) /\
   (W.frozen? ⟨p,0,none⟩=false/\W.frozen? ⟨p,1,none⟩=false/\W.frozen? ⟨p,2,none⟩=false) /\
   (c.length<=cap/\cap<=9223372036854775807/\f.length<=cap'/\cap'<=9223372036854775807) /\
   (Sv W (.slice a c.length cap) (aE .u8 c)/\(∀ k,(Value.slice a c.length cap).ownBlock=some k->k<p)) /\
   (Sv W (.slice a' f.length cap') (aE .u8 f)/\(∀ k,(Value.slice a' f.length cap').ownBlock=some k->k<p)) /\
   (∀ fl',R3 (W.setCell ⟨p,2,none⟩ (.bool fl')) p c f fl') /\
   (∀ k,k<=c.length->∃ A,(if cap=k then a else a.map fun x=>x.add k)=A/\R3 (W.setCell ⟨p,0,none⟩ (.slice A (c.length-k) (cap-k))) p (c.drop k) f fl) /\
   (∀ k,k<=f.length->∃ A,(if cap'=k then a' else a'.map fun x=>x.add k)=A/\R3 (W.setCell ⟨p,1,none⟩ (.slice A (f.length-k) (cap'-k))) p c (f.drop k) fl) /\
   (∀ v g,Sv W v (aE .u8 g)->Bs g->(∀ k,v.ownBlock=some k->k<p)->R3 (W.setCell ⟨p,1,none⟩ v) p c g fl):=by
 obtain⟨a,cap,a',cap',h1,⟨h2,h3,h4⟩,h5,h6,h7⟩:=h;have eg:∀ i (x:Value),Sv (W.setCell ⟨p,i,none⟩ x) (.slice a c.length cap) (aE .u8 c):=fun i x=>h2.keptW (fun _=>h3) (iW x)
 have ef:∀ i (x:Value),Sv (W.setCell ⟨p,i,none⟩ x) (.slice a' f.length cap') (aE .u8 f):=fun i x=>h5.keptW (fun _=>h6) (iW x)
 obtain⟨x1,c1,e1,lp,kx⟩:=h2.form1;obtain⟨x2,c2,e2,Hw,Zu⟩:=h5.form1;rw[ap]at e1 lp e2 Hw;simp only[Value.slice.injEq]at e1 e2;obtain⟨rfl,_,rfl⟩:=e1;obtain⟨rfl,_,rfl⟩:=e2
 refine⟨a,cap,a',cap',⟨by rw[ax h1];rfl,by rw[ax h1];rfl,by rw[ax h1];rfl⟩,⟨by simp[World.frozen?,h1],by simp[World.frozen?,h1],by simp[World.frozen?,h1]⟩,
  ⟨lp,by unfold maxLen at kx;omega,Hw,by unfold maxLen at Zu;omega⟩,⟨h2,h3⟩,⟨h5,h6⟩,fun fl'=>?_,fun k hk=>?_,fun k hk=>?_,fun v g hv hg hvb=>?_⟩
 ·exact⟨a,cap,a',cap',by rw[cM h1];rfl,⟨eg _ _,h3,h4⟩,ef _ _,h6,h7⟩
 ·refine⟨_,rfl,?_⟩
  have hd:=h2.dropG (k:=k) (by rw[ap];exact hk);rw[ap,kw]at hd;have fM:=jo (m:=c.length-k) (k:=k) (c:=cap) h3;refine⟨_,cap-k,a',cap',by rw[cM h1,jai];rfl,⟨?_,?_,h4.drop k⟩,ef _ _,h6,h7⟩
  ·rw[jai]
   exact hd.keptW (fun _=>fM) (iW _)
  ·rw[jai]
   exact fM
 ·refine⟨_,rfl,?_⟩
  have hd:=h5.dropG (k:=k) (by rw[ap];exact hk);rw[ap,kw]at hd;have fM:=jo (m:=f.length-k) (k:=k) (c:=cap') h6;refine⟨a,cap,_,cap'-k,by rw[cM h1,jai];rfl,⟨eg _ _,h3,h4⟩,?_,?_,h7.drop k⟩
  ·rw[jai]
   exact hd.keptW (fun _=>fM) (iW _)
  ·rw[jai]
   exact fM
 ·obtain⟨av,cv,rfl,_,_⟩:=hv.form1
  rw[ap]at *;exact⟨a,cap,av,cv,by rw[cM h1];rfl,⟨eg _ _,h3,h4⟩,hv.keptW (fun _=>hvb) (iW _),hvb,hg⟩
theorem R3.cells2{W U:World}{p:Nat}{c f:List Nat}{fl:Bool}(h:R3 W p c f fl)(hU:Below W.heap.size W U){a:Option Addr}{n cap:Nat}(hc:W.cell? ⟨p,1,none⟩=some (.slice a n cap)) :
  Sv U (.slice a f.length cap) (aE .u8 f)/\∀ i,(Value.slice a f.length cap).ownBlock=some i->i<p:=by
 obtain⟨_,_,a',cap',⟨_,c1,_⟩,_,_,_,⟨s1,s2⟩,_⟩:=(h.kept hU h.lt).cells;rw[hU.cell h.lt,hc]at c1;simp only[Option.some.injEq,Value.slice.injEq]at c1;obtain⟨rfl,rfl,rfl⟩:=c1;exact⟨s1,s2⟩
theorem pT{w:World}{p:Nat}{c f:List Nat}{fl:Bool}(h:R3 w p c f fl)(lo hi:Nat)(h1:lo<=9223372036854775807)(h2:hi<=9223372036854775807) :
  Calls Tryz.prog 141 #[.pointer (some ⟨p,0,none⟩),.int .i64 (lo:Int),.int .i64 (hi:Int)] w fun r w'=>r=.returned (.int .i64 (fY lo hi f:Int))/\R3 w' p c (dC f) (fl || lS lo hi f)/\Fr p w.heap.size w w':=by
 obtain⟨a,cap,a',cap',⟨c0,c1,c2⟩,⟨f0,f1,f2⟩,⟨l1,l2,l3,l4⟩,_,⟨s1,s2⟩,_,_,k1,_⟩:=h.cells;obtain⟨g1,g2,g3,g4⟩:=fQ f;have HG:=ae (Ak h.bs.2 s1);obtain⟨A,hA,hR⟩:=k1 (gt f).2.1 g2;have HF:=ae ((Fr.refl p w.heap.size w).set 1 (.slice A (f.length-(gt f).2.1) (cap'-(gt f).2.1)));have HR:=ae hR;have HB:Hid (lS lo hi f=!decide ((gt f).2.2=0/\lo<=(gt f).1/\(gt f).1<=hi)):=ae rfl;have HV:Hid (fY lo hi f=if lS lo hi f=true then 0 else (gt f).1):=ae rfl;have HT:Hid (dC f=f.drop (gt f).2.1):=ae rfl;rw[HT.out];clear h k1 s1 s2 hR HT;generalize lS lo hi f=bd at *;generalize fY lo hi f=vw at *;generalize gt f=x at *;obtain⟨n,u,er⟩:=x;simp only at *;unfold kE at HG;have hu:(u:Int)<=(f.length:Int):=by omega
 have Zh:IntKind.u64.wrap (lo:Int)=(lo:Int):=by rw[jag];omega
 have pf:IntKind.u64.wrap (hi:Int)=(hi:Int):=by rw[jag];omega
 obtain⟨A0,Cap,B0,Cap',⟨d0,d1,d2⟩,⟨e0,e1,e2⟩,_,_,_,k2,_,_,_⟩:=HR.out.cells;have HK2:=ae (k2 true);have gB:=ae (HF.out.set 2 (.bool true));clear k2;by_cases her:er=0
 ·subst her
  have fO:(((0:Nat):Int) != 0)=false:=by simp
  by_cases hlo:n<lo
  ·have hb:bd=true:=by rw[HB.out];simp;omega
   subst hb;have hv:vw=0:=by rw[HV.out];rfl
   subst hv;rw[Bool.or_true];have aB:(n:Int)<(lo:Int):=by omega
   clear HB HV;go_enter Tryz.func141,Tryz.ntmps141
   go_wp2_with fail;refine HG.out.mono ?_;rintro e w1 ⟨rfl,rfl⟩;go_wp2_with fail;go_ret
   exact⟨rfl,HK2.out,gB.out⟩
  ·have hnlt:¬ (n:Int)<(lo:Int):=by omega
   by_cases Hl:hi<n
   ·have hb:bd=true:=by rw[HB.out];simp;omega
    subst hb;have hv:vw=0:=by rw[HV.out];rfl
    subst hv;rw[Bool.or_true];have uF:(n:Int) > (hi:Int):=by omega
    clear HB HV;go_enter Tryz.func141,Tryz.ntmps141
    go_wp2_with fail;refine HG.out.mono ?_;rintro e w1 ⟨rfl,rfl⟩;go_wp2_with fail;go_ret
    exact⟨rfl,HK2.out,gB.out⟩
   ·have hb:bd=false:=by rw[HB.out];simp;omega
    subst hb;have hv:vw=n:=by rw[HV.out];rfl
    subst hv;rw[Bool.or_false];have uF:¬ (vw:Int) > (hi:Int):=by omega
    have hwn:IntKind.i64.wrap (vw:Int)=(vw:Int):=by rw[jam];omega
    clear HB HV;go_enter Tryz.func141,Tryz.ntmps141
    go_wp2_with fail;refine HG.out.mono ?_;rintro e w1 ⟨rfl,rfl⟩;go_wp2_with fail;go_ret
    exact⟨rfl,HR.out,HF.out⟩
 ·have hb:bd=true:=by rw[HB.out];simp;omega
  subst hb;have hv:vw=0:=by rw[HV.out];rfl
  subst hv;rw[Bool.or_true]
  have fO:((er:Int) != 0)=true:=by
   have:(er:Int)≠0:=by omega
   simpa using this
  clear HB HV;go_enter Tryz.func141,Tryz.ntmps141
  go_wp2_with fail;refine HG.out.mono ?_;rintro e w1 ⟨rfl,rfl⟩;go_wp2_with fail;go_ret
  exact⟨rfl,HK2.out,gB.out⟩
theorem LM{w:World}{p:Nat}{c f:List Nat}{fl:Bool}(h:R3 w p c f fl)(k n:Nat)(hk:1<=k/\k<=3)(hn:n<=64)(eO:c.length<=100000000) :
  Calls Tryz.prog 181 #[.pointer (some ⟨p,0,none⟩),.int .u8 (k:Int),.int .i64 (n:Int)] w fun r w'=>∃ v,r=.returned v/\OwnV w' w.heap.size v (iq k n (c,f,fl)).1/\R3 w' p (iq k n (c,f,fl)).2.1 (iq k n (c,f,fl)).2.2.1 (iq k n (c,f,fl)).2.2.2/\Fr p w.heap.size w w':=by
 have aB:=h.lt;have HW:=ae (pT h 0 c.length (by omega) (by omega));have HM:Hid (iq k n (c,f,fl)=((gj k (c.take (fY 0 c.length f)) n).getD [],(c.drop (fY 0 c.length f),dC f,(fl || lS 0 c.length f) || (gj k (c.take (fY 0 c.length f)) n).isNone))):=ae rfl;have Yj:=qP 0 c.length f;obtain⟨a,cap,a',cap',⟨c0,c1,c2⟩,⟨f0,f1,f2⟩,⟨l1,l2,l3,l4⟩,y1,y2,y3,y4,y5⟩:=h.cells;clear h y1 y2 y3 y4 y5;rw[HM.out];clear HM;obtain⟨g,hg⟩:∃ g,(fl || lS 0 c.length f)=g:=⟨_,rfl⟩;rw[hg]at HW ⊢;clear hg;generalize fY 0 c.length f=m at *;generalize dC f=rf at *;obtain⟨L,hL⟩:∃ L,(gj k (c.take m) n).getD []=L:=⟨_,rfl⟩;obtain⟨D,hD⟩:∃ D,(gj k (c.take m) n).isNone=D:=⟨_,rfl⟩;rw[hL,hD];have Hg:=ae (And.intro hL hD);clear hL hD;go_enter Tryz.func181,Tryz.ntmps181
 go_wp2_with fail;refine HW.out.mono ?_;rintro e w1 ⟨rfl,eg,dt⟩;clear c0 c1 c2 f0 f1 f2 l1 l2 l3 l4;obtain⟨a,cap,a',cap',⟨c0,c1,c2⟩,⟨f0,f1,f2⟩,⟨l1,l2,l3,l4⟩,⟨t1,t2⟩,y1,y2,y3,y4⟩:=eg.cells;have hT:=t1.take (k:=m) (by rw[ap];exact Yj);rw[gI]at hT;have HC:=ae (LJ hT (eg.bs.1.take m) k n);have iM:=ae eg;have gd:=ae dt;have Hv:(m:Int)<=(c.length:Int):=by omega
 have oI:(m:Int)<=(cap:Int):=by omega
 have rz:=ae dt.size;clear eg dt t1 t2 hT y1 y2 y3 y4;go_wp2_with fail;refine HC.out.mono ?_;rintro e w2 ⟨v,l,er,rfl,ho,ht,hb⟩;have ef:=iM.out.kept hb iM.out.lt;have dM:=gd.out.then (hb.mono rz.out)
 have dr:=ae ho;have gC:=ae ef;have gB:=ae dM;have VN:gj k (c.take m) n=none∨∃ y,gj k (c.take m) n=some y:=by cases gj k (c.take m) n<;>simp
 have MJ:Hid (L=l/\D=((er:Int) != 0)):=ae (by
  rw[← Hg.out.1,← Hg.out.2];unfold tH at ht;rw[if_pos hk,if_pos (by omega),jah]at ht;rcases ht with ⟨rfl,e⟩ | ⟨h0,_,rfl,e⟩
  ·rw[e];exact⟨rfl,by simp⟩
  ·rw[e]
   have:((er:Int) != 0)=true:=by
    have:(er:Int)≠0:=by omega
    simpa using this
   exact⟨rfl,by rw[this];rfl⟩)
 obtain⟨rfl,hd0⟩:=MJ.out;have hd:=hd0.symm;clear MJ hd0
 have i6:Hid (R3 (w2.setCell ⟨p,2,none⟩ (.bool (g || D))) p c rf (g || D)):=ae (by
  obtain⟨_,_,_,_,_,_,_,_,_,k2,_⟩:=gC.out.cells;exact k2 _)
 have p7:=ae (gB.out.set 2 (.bool (g || D)));clear c0 c1 c2 f0 f1 f2 l1 l2 l3 l4 Hv oI;obtain⟨a2,cap2,a2',cap2',⟨c0,c1,c2⟩,⟨f0,f1,f2⟩,⟨l1,l2,l3,l4⟩,y1,y2,y3,y4,y5⟩:=gC.out.cells;obtain⟨a3,cap3,a3',cap3',⟨q0,q1,q2⟩,z0,x1,z1,z2,x2,y0,x3⟩:=i6.out.cells;have M7:=q0;rw[show (w2.setCell ⟨p,2,none⟩ (.bool (g || D))).cell? ⟨p,0,none⟩=w2.cell? ⟨p,0,none⟩ from World.cell?_setCell_other _ _ _ _ (by simp),c0]at M7;simp only[Option.some.injEq,Value.slice.injEq,true_and]at M7;obtain⟨rfl,rfl⟩:=M7;obtain⟨A,hA,hR4⟩:=y0 m Yj;have Hv:(m:Int)<=(c.length:Int):=by omega
 have oI:(m:Int)<=(cap2:Int):=by omega
 have zT:=ae hR4;have xx:=ae (p7.out.set 0 (.slice A (c.length-m) (cap2-m)));have eP:=ae (show OwnV _ w1.heap.size v L from Fr.own (((Fr.refl p w2.heap.size w2).set 2 (.bool (g || D))).set 0 (.slice A (c.length-m) (cap2-m))) dr.out iM.out.lt);have HSZ1:=ae rz.out;clear y0 y1 y2 y3 y4 y5 x1 x2 x3 hR4 ef dM hb ho ht VN q0 q1 q2 z0 z1 z2;have hsz0:w.heap.size<=w1.heap.size:=rz.out;rcases g with _ | _<;>rcases D with _ | _
 all_goals
  go_wp2_with fail;go_ret
  exact⟨_,rfl,OwnV.of_le eP.out HSZ1.out,zT.out,xx.out⟩
theorem DR{w:World}{p:Nat}{c f:List Nat}{fl:Bool}(h:R3 w p c f fl){v:Value}{l:List Cl}(hs:Sv w v (aI l))(hf:∀ x∈l,aU x)(hl:l.length<=256) :
  Calls Tryz.prog 182 #[.pointer (some ⟨p,0,none⟩),v] w fun r w'=>r=.returned (ua (ct l))/\R3 w' p (pM l (c,f,fl)).1 (pM l (c,f,fl)).2.1 (pM l (c,f,fl)).2.2/\Fr p w.heap.size w w':=by
 have aB:=h.lt;have ce:=Stb.new w stZ;have dW:=ak w (.cells #[.int .i64 0,.int .i64 0,.bool false,.bool false,.int .u8 0,.int .i64 0,.string ⟨#[]⟩,.int .u8 0,.int .i64 0,.string ⟨#[]⟩] 54);have hz0':Stb (w.alloc (.cells #[.int .i64 0,.int .i64 0,.bool false,.bool false,.int .u8 0,.int .i64 0,.string ⟨#[]⟩,.int .u8 0,.int .i64 0,.string ⟨#[]⟩] 54)) w.heap.size stZ:=ce;have yb:=hs.kept dW;have UT:=ae (h.kept dW aB);obtain⟨⟨M1,M2,M3⟩,hM⟩:∃ R:S3,pM l (c,f,fl)=R:=⟨_,rfl⟩;have HM:Hid ((M1,M2,M3)=if (es (ct l)).isPrefixOf f=true then (c,f.drop (es (ct l)).length,fl) else (c,f,true)):=ae (hM.symm.trans rfl);rw[hM];clear hM;obtain⟨m1,m2⟩:=kp hf;obtain⟨nn,m3,m4⟩:=kU l;have m5:∃ n:Nat,(ct l).nulls=(n:Int)/\n<=1000000:=⟨nn,m3,by omega⟩;have cP:=ae (nA m1 m2 m5);have tS:=ae (ov m1 m2 m5).2;have ZF:=ae (zi yb hf (by omega));have X8:=ae hz0';have cC:=ae dW;have sA:(w.alloc (.cells #[.int .i64 0,.int .i64 0,.bool false,.bool false,.int .u8 0,.int .i64 0,.string ⟨#[]⟩,.int .u8 0,.int .i64 0,.string ⟨#[]⟩] 54)).heap.size=w.heap.size+1:=ZS _ _;have rz:=ae sA;obtain⟨a,cap,rfl,aX,bw⟩:=hs.form1;rw[aF]at *;clear hs hf dW ce hz0' yb m1 m2 m3 m4 m5 sA h;generalize hA:w.alloc (.cells #[.int .i64 0,.int .i64 0,.bool false,.bool false,.int .u8 0,.int .i64 0,.string ⟨#[]⟩,.int .u8 0,.int .i64 0,.string ⟨#[]⟩] 54)=A at *;generalize es (ct l)=sb at *;generalize ct l=st at *;obtain⟨x1,x2,x3,x4,⟨y1,y2,y3⟩,z1,z2,z3⟩:=st;unfold ua at *;simp only at *;go_enter Tryz.func182,Tryz.ntmps182
 go_wp2_with fail;try rw[hA]
 refine ZF.out.mono ?_;rintro e w1 ⟨rfl,aG⟩;have rL:=ae (UT.out.kept aG UT.out.lt);have aQ:=ae aG;have ZD:=ae (X8.out.kept aG);have ur:=ak w1 (.cells #[.int .i64 x1,.int .i64 x2,.bool x3,.bool x4,.int .u8 (y1:Int),.int .i64 y2,.string (am y3),.int .u8 (z1:Int),.int .i64 z2,.string (am z3)] 54);have HQ:=ae (show Stb _ w1.heap.size ⟨x1,x2,x3,x4,(y1,y2,y3),(z1,z2,z3)⟩ from Stb.new w1 ⟨x1,x2,x3,x4,(y1,y2,y3),(z1,z2,z3)⟩);have i6:=ae (rL.out.kept ur rL.out.lt);have J6:=ae (ZD.out.kept ur);have aN:=ae ur;have sB:(w1.alloc (.cells #[.int .i64 x1,.int .i64 x2,.bool x3,.bool x4,.int .u8 (y1:Int),.int .i64 y2,.string (am y3),.int .u8 (z1:Int),.int .i64 z2,.string (am z3)] 54)).heap.size=w1.heap.size+1:=ZS _ _;have Ya:=ae sB;clear aG ur hA UT X8 sB;generalize hB:w1.alloc (.cells #[.int .i64 x1,.int .i64 x2,.bool x3,.bool x4,.int .u8 (y1:Int),.int .i64 y2,.string (am y3),.int .u8 (z1:Int),.int .i64 z2,.string (am z3)] 54)=B at *;go_upto_region 2 with fail
 try rw[hB]
 obtain⟨a1,cap1,a1',cap1',⟨c0,c1,c2⟩,⟨f0,f1,f2⟩,⟨l1,l2,l3,l4⟩,k1,⟨s1,s2⟩,k3,k4,k5,k6⟩:=i6.out.cells;obtain⟨_,⟨q0,q1,q2,q3⟩,⟨q4,q5,q6⟩,q7,q8,q9⟩:=HQ.out.at;simp only[jaf]at q0 q1 q2 q3 q4 q5 q6 q7 q8 q9
 have SR:Hid (∀ U,Below B.heap.size B U->Calls Tryz.prog 84 #[.agg #[.int .i64 x1,.int .i64 x2,.bool x3,.bool x4,.int .u8 (y1:Int),.int .i64 y2,.string (am y3),.int .u8 (z1:Int),.int .i64 z2,.string (am z3)]] U fun e w'=>∃ v,e=.returned v/\Sv w' v (aE .u8 sb)/\Below B.heap.size B w'/\w'.cell? ⟨p,1,none⟩=some (.slice a1' f.length cap1')):=ae (fun U hU=>by
  refine(cP.out U).mono ?_;rintro e w' ⟨⟨v,rfl,ho⟩,hb⟩;have xw:=ai hU hb;exact⟨v,rfl,ho.sv,xw,(xw.cell i6.out.lt).trans c1⟩)
 have M0:Hid (∀ U vb,Below B.heap.size B U->Sv U vb (aE .u8 sb)->Calls Tryz.prog 52 #[.slice a1' f.length cap1',vb] U fun e w'=>(∃ v,e=.returned (.tuple #[v,.bool (sb.isPrefixOf f)])/\Sv w' v (aE .u8 (if sb.isPrefixOf f=true then f.drop sb.length else f))/\∀ i,v.ownBlock=some i->i<p)/\w'=U):=ae (fun U vb hU hvb=>by
  refine(DP (i6.out.cells2 hU c1).1 hvb i6.out.bs.2 tS.out).mono ?_;rintro e w' ⟨⟨v,rfl,hv,hvp⟩,rfl⟩;exact⟨⟨v,rfl,hv,hvp p (i6.out.cells2 hU c1).2⟩,rfl⟩)
 clear k1 s1 s2 k3 k4 k5 k6;generalize sb.isPrefixOf f=px at *;go_cut [6,7] from 10 (fun s6 s7 wx=>s7=.bool px/\Sv wx s6 (aE .u8 (if px=true then f.drop sb.length else f))/\(∀ i,s6.ownBlock=some i->i<p)/\Below B.heap.size B wx)
 case first =>
  refine wp_region_noPanic ?_
  go_region_law (first
   | (go_simp;go_at_call 84;refine(SR.out _ ?_).mono ?_;exact below_drewN (ZQ B.heap.size B) _;rintro e w5 ⟨v5,rfl,nJ,bq,Yo⟩;have rI:=ae nJ;have aR:=ae bq;clear nJ bq;dsimp only)
   | (go_simp;go_at_call 52;refine(M0.out _ _ aR.out rI.out).mono ?_;rintro e w6 ⟨⟨v6,rfl,yf,ZG⟩,rfl⟩;have HS6:=ae yf;have Yc:=ae ZG;clear yf ZG;dsimp only)
   | fail)
  all_goals refine NoPanic.normal ?_
  all_goals (go_wp2_with fail;go_meet)
  all_goals exact⟨rfl,HS6.out,Yc.out,aR.out⟩
 case rest =>
 clear c0 c1 c2 f0 f1 f2 l1 l2 l3 l4 q0 q1 q2 q3 q4 q5 q6 q7 q8 q9 SR M0 cP ZF;obtain⟨rfl,yf,ZG,dN⟩:=hcut;have HG:Hid (Bs (if px=true then f.drop sb.length else f)):=ae (by have:=i6.out.bs.2;split;exact this.drop _;exact this);have V7:=i6.out.kept dN i6.out.lt;have iB:=J6.out.kept dN;have J8:=HQ.out.kept dN;have kY:Below w.heap.size w wc:=ai cC.out (ai aQ.out (ai aN.out dN));have hsw:w.heap.size<w1.heap.size:=by have:=rz.out;have:=aQ.out.size;omega
 have jq:w.heap.size<=wc.heap.size:=kY.size;obtain⟨g,hg⟩:∃ g,(fl || !px)=g:=⟨_,rfl⟩;obtain⟨G,hG⟩:∃ G,(if px=true then f.drop sb.length else f)=G:=⟨_,rfl⟩;rw[hG]at yf HG
 have H6:Hid ((M1,M2,M3)=(c,G,g)):=ae (by
  rw[HM.out,← hG,← hg];cases px<;>simp)
 have ix:Fr p w.heap.size w wc:=Fr.of_below kY;obtain⟨a1,cap1,a1',cap1',⟨c0,c1,c2⟩,⟨f0,f1,f2⟩,⟨l1,l2,l3,l4⟩,k1,k2,k3,k4,k5,k6⟩:=V7.cells;have V8:=k3 g;have pj:=ix.set 2 (.bool g);obtain⟨_,_,_,_,_,_,_,_,_,_,_,_,k7⟩:=V8.cells;have M6:=k7 u6 G (yf.keptW (fun _=>ZG) (iW _)) HG.out ZG;have js:=pj.set 1 u6;have Zv:=(J8.other (p:=p) (by have:=aB;omega) 2 (.bool g)).other (p:=p) (by have:=aB;omega) 1 u6;have uG:=(iB.other (p:=p) (by have:=aB;omega) 2 (.bool g)).other (p:=p) (by have:=aB;omega) 1 u6;have jd:=P4 (W:=(wc.setCell ⟨p,2,none⟩ (.bool g)).setCell ⟨p,1,none⟩ u6) (ZQ w.heap.size _) (ZR _) (.int .i64 x1) (.int .i64 x2) (.bool x3) (.bool x4) (.int .u8 (y1:Int)) (.int .i64 y2) (.string (am y3)) (.int .u8 (z1:Int)) (.int .i64 z2) (.string (am z3));have ET:=ae (M6.kept jd aB);have EU:=ae (js.trans (Fr.of_below jd));obtain⟨_,⟨q0,q1,q2,q3⟩,⟨q4,q5,q6⟩,q7,q8,q9⟩:=J8.at;obtain⟨_,⟨r0,r1,r2,r3⟩,⟨r4,r5,r6⟩,r7,r8,r9⟩:=iB.at;simp only[jaf]at q0 q1 q2 q3 q4 q5 q6 q7 q8 q9 r0 r1 r2 r3 r4 r5 r6 r7 r8 r9;have fg:=J8.frozen;have fz:=iB.frozen;have UM:¬ w1.heap.size=w.heap.size:=by omega
 have VU:¬ w.heap.size=w1.heap.size:=by omega
 have hn3:¬ p=w.heap.size:=by omega
 have hn4:¬ p=w1.heap.size:=by omega
 have hn5:¬ w.heap.size=p:=by omega
 have hn6:¬ w1.heap.size=p:=by omega
 have ib:∃ a6 n6 c6,u6=.slice a6 n6 c6:=by obtain⟨_,_,h,_⟩:=yf.form1;exact⟨_,_,_,h⟩
 obtain⟨a6,n6,c6,rfl⟩:=ib;clear k1 k2 k3 k4 k5 k6 k7 V8 pj M6 js Zv uG jd V7 iB J8 yf ZG dN ix hG kY HM
 have Bv:Hid (∀ W,R3 W p c G g->R3 W p M1 M2 M3):=ae (fun W hW=>by
  have e:=H6.out;simp only[Prod.mk.injEq]at e;rw[e.1,e.2.1,e.2.2];exact hW)
 cases fl<;>cases px
 all_goals
  simp only[Bool.not_true,Bool.not_false,Bool.or_false,Bool.or_true,Bool.true_or,Bool.false_or]at hg;subst hg;go_wp2_with fail;refine bodyPost_ret (v:=.agg #[.int .i64 x1,.int .i64 x2,.bool x3,.bool x4,.int .u8 (y1:Int),.int .i64 y2,.string (am y3),.int .u8 (z1:Int),.int .i64 z2,.string (am z3)]) (by simp[results,Tryz.results182,go_sem,UM,VU,hn3,hn4,hn5,hn6,r0,r1,r2,r3,r4,r5,r6,r7,r8,r9]) rfl ⟨rfl,Bv.out _ ET.out,EU.out⟩
def Ss(W:World)(v:Value)(l:List Stt):Prop:=∃ a cap,v=.slice a l.length cap/\l.length<=cap/\cap<=maxLen/\(0<l.length->∃ b off,a=some ⟨b,off,none⟩/\∀ j (h:j<l.length),FY W b (off+j*10) l[j])
theorem Ss.kept{W W':World}{v:Value}{l:List Stt}(h:Ss W v l)(hb:Below W.heap.size W W'):Ss W' v l:=by
 obtain⟨a,cap,h1,h2,h3,h4⟩:=h;refine⟨a,cap,h1,h2,h3,fun h0=>?_⟩;obtain⟨b,off,h5,h6⟩:=h4 h0;exact⟨b,off,h5,fun j h=>(h6 j h).kept hb⟩
theorem Ss.form{W:World}{v:Value}{l:List Stt}(h:Ss W v l):∃ a cap,v=.slice a l.length cap/\l.length<=cap/\cap<=maxLen:=by
 obtain⟨a,cap,h1,h2,h3,_⟩:=h;exact⟨a,cap,h1,h2,h3⟩
theorem Ss.at{W:World}{a:Option Addr}{n cap:Nat}{l:List Stt}(h:Ss W (.slice a n cap) l){i:Nat}(hi:i<l.length):∃ g o,a=some ⟨g,o,none⟩/\FY W g (o+i*10) l[i]:=by
 obtain⟨a',cap',e,_,_,h4⟩:=h;simp only[Value.slice.injEq]at e;obtain⟨rfl,_,_⟩:=e;obtain⟨g,o,rfl,h6⟩:=h4 (by omega);exact⟨g,o,rfl,h6 i hi⟩
def sM(W:World)(q si:Nat)(fv sv:Value)(l:List Fd)(r:List Stt):Prop :=
 q<W.heap.size/\W.cell? ⟨q,0,none⟩=some (.int .u32 (si:Int))/\W.cell? ⟨q,1,none⟩=some fv/\W.cell? ⟨q,2,none⟩=some sv/\Sf W fv l/\Ss W sv r
theorem sM.kept{W W':World}{q si:Nat}{fv rv:Value}{l:List Fd}{r:List Stt}(h:sM W q si fv rv l r)(hb:Below W.heap.size W W'):sM W' q si fv rv l r:=by
 obtain⟨h0,h1,h2,h3,h4,h5⟩:=h;have e:∀ o,W'.cell? ⟨q,o,none⟩=W.cell? ⟨q,o,none⟩:=fun o=>(kI hb).1 q o h0
 exact⟨Z9 h0 hb.size,by rw[e];exact h1,by rw[e];exact h2,by rw[e];exact h3,h4.kept hb,h5.kept hb⟩
theorem DS{l:List Fd}{r:List Stt}{op f:Nat}{c:Cl}(h:iG l f=none):ko l r op f c=(true,true,true):=by unfold ko;rw[h]
theorem DT{l:List Fd}{r:List Stt}{op f j:Nat}{c:Cl}(h:iG l f=some j)(hj:¬ j<r.length):ko l r op f c=(true,true,true):=by
 unfold ko;rw[h];simp only;rw[List.getElem?_eq_none (by omega)]
theorem LN{l:List Fd}{r:List Stt}{op f j:Nat}{c:Cl}(h:iG l f=some j)(hj:j<r.length):ko l r op f c=FU op c r[j]:=by
 unfold ko;rw[h];simp only;rw[List.getElem?_eq_getElem hj]
open Go.ChangeShapes Go.WideShapes Go.ChangeAt Go.Joins
theorem own:ownKnob Tryz.prog.godebug=none:=by kernel_rfl
theorem Ua:laidOutB Tryz.prog=true:=by kernel_rfl
theorem LO{W:World}{B:Nat}{a:Addr}{cs:List Value}(h:W.cells? B a 1=some cs):∃ c,cs=[c]/\W.cell? a=some c:=by
 obtain⟨_,hl,hc⟩:=World.cells?_some h;match cs,hl with
 | [c],_=>exact⟨c,rfl,by simpa [Addr.add]using hc 0 (by omega)⟩
theorem Xl:Tryz.prog.cellsOf 5=1:=by kernel_rfl
theorem GF{H:Type}{enc:TypeId×Value->H}{W:World}{spare:Nat->Bool}{held:Bool}{a:Option Addr}{len cap:Nat}{d:DataW H}{p:List MemPlace}
  (h:DataW.Trod enc Tryz.prog W 0 spare held 30 (.slice a len cap) d p):∃ l:List Nat,Sv W (.slice a len cap) (aE .u8 l)/\Bs l:=by
 obtain⟨fuel,hf⟩:=h;rcases Deep.open_slice Tryz.underlying30 hf with ⟨h1,_⟩ | ⟨a1,l1,c1,m,n,D,Pl,h1,_,hlc,hm,hmm,_,hcells⟩
 ·simp[Value.cells]at h1
  obtain⟨rfl,rfl,rfl⟩:=h1;exact⟨[],Sv.nil _,fun x hx=>by simp at hx⟩
 ·simp[Value.cells]at h1
  obtain⟨rfl,rfl,rfl⟩:=h1;rw[Xl]at hcells;have hlm:len<=m:=by rw[hmm];split<;>omega
  have hone:∀ i,i<len->∃ x:Nat,x<256/\W.cell? (a1.add i)=some (.int .u8 (x:Int)):=by
   intro i hi;obtain⟨cs,hc,ht⟩:=hcells i (by omega);rw[ja8]at hc;obtain⟨c0,rfl,e0⟩:=LO hc;obtain⟨k,q0,_,wk⟩:=DataW.trod_int Tryz.underlying5 ht;simp at q0
   subst q0;have hb:=bounds_u8 wk;refine⟨k.toNat,by omega,?_⟩;rw[e0];congr 2
   omega
  obtain⟨f,dM⟩:=Deep.choose_lt hone;have bQ:(aE .u8 ((List.range len).map f)).length=len:=by simp[aE]
  refine⟨(List.range len).map f,⟨some a1,cap,by rw[bQ],by omega,by omega,fun h=>(by cases h),fun h0=>?_⟩,?_⟩
  ·obtain⟨b,off,spot⟩:=a1
   have hspot:spot=none:=by
    have:=World.cell?_spot (dM 0 (by omega)).2;simpa [Addr.add]using this
   subst hspot
   have hb:b<W.heap.size:=by
    obtain⟨cs,hc,_⟩:=hcells 0 (by omega);have:=World.cells?_block hc (by omega);simpa [Addr.add]using this
   refine⟨b,off,rfl,hb,fun j x hj=>?_⟩
   have rF:j<len:=by
    have:=(List.getElem?_eq_some_iff.1 hj).1;omega
   have h3:=(dM j rF).2;rw[pp]at h3;rw[h3,← hj];simp[aE,rF]
  ·intro x hx
   obtain⟨i,hi,rfl⟩:=jaa.1 hx;exact(dM i (by simpa using hi)).1
theorem Xm:(Tryz.prog.info? 58).map (fun i=>(i.zero,i.size,i.bytes))=some (some (.slice none 0 0),1,24):=by kernel_rfl
theorem Xn:(Tryz.prog.info? 54).map (fun i=>(i.zero,i.size,i.bytes))=some (some (.agg #[.int .i64 0,.int .i64 0,.bool false,.bool false,.int .u8 0,.int .i64 0,.string ⟨#[]⟩,.int .u8 0,.int .i64 0,.string ⟨#[]⟩]),10,88):=by kernel_rfl
def Sr(W:World)(v:Value)(rs:List (List Cl)):Prop :=
 ∃ a cap,v=.slice a rs.length cap/\rs.length<=cap/\cap<=maxLen/\(0<rs.length->∃ b off,a=some ⟨b,off,none⟩/\b<W.heap.size/\∀ j (h:j<rs.length),∃ rv,W.cell? ⟨b,off+j,none⟩=some rv/\Sc W rv rs[j])
theorem Sr.kept{W W':World}{v:Value}{rs:List (List Cl)}(h:Sr W v rs)(hb:Below W.heap.size W W'):Sr W' v rs:=by
 obtain⟨a,cap,h1,h2,h3,h4⟩:=h;refine⟨a,cap,h1,h2,h3,fun h0=>?_⟩;obtain⟨b,off,h5,h6,h7⟩:=h4 h0;refine⟨b,off,h5,Z9 h6 hb.size,fun j hj=>?_⟩;obtain⟨rv,h8,h9⟩:=h7 j hj;exact⟨rv,(hb.cell (p:=⟨b,off+j,none⟩) h6).trans h8,h9.kept hb⟩
theorem Sr.form{W:World}{v:Value}{rs:List (List Cl)}(h:Sr W v rs):∃ a cap,v=.slice a rs.length cap/\rs.length<=cap/\cap<=maxLen:=by
 obtain⟨a,cap,h1,h2,h3,_⟩:=h;exact⟨a,cap,h1,h2,h3⟩
theorem Sr.at{W:World}{a:Option Addr}{n cap:Nat}{rs:List (List Cl)}(h:Sr W (.slice a n cap) rs){k:Nat}(hk:k<rs.length) :
  ∃ b off rv,a=some ⟨b,off,none⟩/\b<W.heap.size/\W.cell? ⟨b,off+k,none⟩=some rv/\Sc W rv rs[k]:=by
 obtain⟨a',cap',e,h1,h2,h4⟩:=h;simp only[Value.slice.injEq]at e;obtain⟨rfl,_,_⟩:=e;obtain⟨b,off,rfl,h5,h6⟩:=h4 (by omega);obtain⟨rv,h7,h8⟩:=h6 k hk;exact⟨b,off,rv,rfl,h5,h7,h8⟩
theorem zv{W:World}{B B' e size n:Nat}{v:Value}{xs:List Value}(h:W.ownsRow B e size v n xs)(hb:B'<=B):W.ownsRow B' e size v n xs:=by
 rcases h with ⟨h0,h1 | ⟨g,cap,cur,rfl,h2,h3⟩⟩
 ·exact⟨h0,.inl h1⟩
 ·exact⟨h0,.inr ⟨g,cap,cur,rfl,ZZ hb h2,h3⟩⟩
def rk(l:List Stt):List Value:=l.flatMap celS
theorem ro:∀ l:List Stt,(rk l).length=l.length*10
 | []=>rfl
 | c::t=>by
  show (celS c++rk t).length=_
  rw[ZT,ro t,ZW];simp[celS]
  omega
theorem zw:∀{l:List Stt} {j:Nat} (h:j<l.length) {i:Nat} (hi:i<10),(rk l)[j*10+i]?=(celS l[j])[i]?
 | c::t,0,h,i,hi=>by
  show (celS c++rk t)[0*10+i]?=_
  rw[List.getElem?_append_left (by simp[celS];omega)];simp
 | c::t,j+1,h,i,hi=>by
  have ih:=zw (l:=t) (j:=j) (by simpa using h) hi;show (celS c++rk t)[(j+1)*10+i]?=_
  rw[List.getElem?_append_right (by simp[celS];omega)];simp only[celS,ZW,jad];rw[show (j+1)*10+i-(0+1+1+1+1+1+1+1+1+1+1)=j*10+i by omega,ih];rfl
def Xo(W:World)(B:Nat)(v:Value)(l:List Stt):Prop:=W.ownsRow B 54 10 v l.length (rk l)
theorem Xo.ss{W:World}{B:Nat}{v:Value}{l:List Stt}(h:Xo W B v l):Ss W v l:=by
 rcases h with ⟨h0,⟨rfl,h1⟩ | ⟨g,cap,cur,rfl,h2,h3,h4,h5,h6,h7⟩⟩
 ·refine⟨none,0,by rw[h1],by omega,by unfold maxLen;omega,fun h=>by omega⟩
 ·refine⟨_,cap,rfl,h4,h5,fun _=>⟨g,0,rfl,fun j hj=>?_⟩⟩
  have hc:∀ i,i<10->W.cell? ⟨g,0+j*10+i,none⟩=(celS l[j])[i]?:=fun i hi=>by
   rw[jaf,← zw hj hi];have aB:j*10+i<(rk l).length:=by rw[ro];omega
   obtain⟨x,hx⟩:∃ x,(rk l)[j*10+i]?=some x:=⟨_,List.getElem?_eq_getElem aB⟩;rw[hx];simp only[World.cell?,h3];have MS:(rk l)[j*10+i]?=some x:=by rw[hx]
   rw[← h7]at MS;have jC:=(List.getElem?_eq_some_iff.1 MS).1;rw[ZX]at jC;rw[List.getElem?_take_of_lt (by omega)]at MS;simpa using MS
  exact⟨(Array.getElem?_eq_some_iff.1 h3).1,⟨hc 0 (by omega),hc 1 (by omega),hc 2 (by omega),hc 3 (by omega)⟩,⟨hc 4 (by omega),hc 5 (by omega),hc 6 (by omega)⟩,hc 7 (by omega),hc 8 (by omega),hc 9 (by omega)⟩
end Go.Proofs.YtpljdjmpamjkhaaGreatDoor
