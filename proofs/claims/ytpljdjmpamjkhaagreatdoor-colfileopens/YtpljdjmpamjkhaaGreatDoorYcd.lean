import Derived.Test.YtpljdjmpamjkhaaGreatDoorYah
import Derived.Test.YtpljdjmpamjkhaaGreatDoorYbz
import Derived.Deep.RegionWith
import Derived.Deep.RegionHeld3
import Derived.Test.YtpljdjmpamjkhaaGreatDoorYbv
import Derived.Test.YtpljdjmpamjkhaaGreatDoorYbt
import Derived.Test.YtpljdjmpamjkhaaGreatDoorYcc
import Derived.Test.YtpljdjmpamjkhaaGreatDoorRows
import Derived.Test.YtpljdjmpamjkhaaGreatDoorCards
import Derived.Test.YtpljdjmpamjkhaaGreatDoorTie
import Derived.Test.YtpljdjmpamjkhaaGreatDoorYbj
import Derived.Test.YtpljdjmpamjkhaaGreatDoorYay
import Derived.Lib.LaidTab
import Derived.LaidMore
import Derived.JoinedOf
set_option linter.unusedVariables false
set_option linter.unusedSimpArgs false
set_option maxRecDepth 100000
set_option maxHeartbeats 20000000
namespace Go.Proofs.YtpljdjmpamjkhaaGreatDoor
open Go.RowKit Go.Lib
theorem tO{w:World}{v:Value}{l:List Nat}(hs:SvK w v l)(h8:Bs l)(hl:l.length<=100000000) :
  Calls Tryz.prog 33 #[v] w fun e w'=>(∃ u,e=.returned (.tuple #[u,.bool (ep l).isSome])/\SvK w' u ((ep l).getD []))/\Below w.heap.size w w':=by
 have HS:=ae hs;have H8:=ae h8;obtain⟨a,cap,rfl,h1,h2⟩:=hs.form;have oI:l.length<=9223372036854775807:=by omega
 by_cases h4:l.length<4
 ·rw[tA h4]
  have aB:(l.length:Int)<4:=by omega
  have hl4:l.length<=4:=by omega
  clear hs h8 h1 h2 h4 HS H8 oI;generalize l.length=L at *;go_enter Tryz.func33,Tryz.ntmps33
  go_wp2_with fail;go_quiet (fail)
  go_wp2_with fail;go_ret2
  exact⟨⟨_,rfl,SvK.nil _⟩,below_drewN (ZQ _ _) _⟩
 ·obtain⟨n,hn⟩:∃ n,l.length=n+4:=⟨l.length-4,by omega⟩
  have EO:n<=l.length:=by omega
  obtain⟨ad,rfl⟩:∃ ad,a=some ad:=by
   obtain⟨a',c',e1,_,_,_,h5⟩:=hs;simp only[Value.slice.injEq]at e1;obtain⟨rfl,_,_⟩:=e1;obtain⟨b,off,h6,_⟩:=h5 (by omega);exact⟨_,h6⟩
  have hA:=hs.take EO;have HA:=ae hA
  have iE:Hid (ep l=if bK (l.take n)=l then some (l.take n) else none):=by
   show _=_
   unfold ep;rw[hn,jbx];simp
  have bQ:(l.take n).length<=100000000:=by rw[ZX];omega
  have HSE:=ae (nG (hA.kept (ZQ w.heap.size w).drew) (h8.take n) bQ);have tS:=ae (h8.take n).seal;have Bv:=ae (uE tS.out h8);have VQ:=ae (fun(W:World) (h:Below w.heap.size w W)=>(HS.out.kept h).conv H8.out);have Zk:=ae (fun(W:World) (u:Value) (h:SvK W u (bK (l.take n)))=>h.conv tS.out);unfold txt at VQ Zk;have VV:n<=cap:=by omega
  obtain⟨L,hL⟩:∃ L,l.length=L:=⟨_,rfl⟩;have aB:¬ (L:Int)<4:=by omega
  have jC:(4:Int)<=(L:Int):=by omega
  have hdec:decide ((L:Int)<4)=false:=decide_eq_false aB;have Hj:IntKind.i64.wrap ((L:Int)-4)=(L:Int)-4:=by rw[jam];omega
  have aG:(0:Int)<=(L:Int)-4:=by omega
  have aD:(L:Int)-4<=(cap:Int):=by omega
  have aP:((L:Int)-4).toNat=n:=by omega
  have VN:(0:Int)<=(n:Int):=by omega
  have hcap0:¬ cap=0:=by omega
  have hnc:(n:Int)<=(cap:Int):=by omega
  have hL9:L<=100000004:=by omega
  rw[hL]at HS VQ ⊢;have Hf:=VQ.out w.drew (ZQ _ _).drew;generalize ep l=R at *;generalize bK (l.take n)=M at *;generalize l.take n=m at *;clear hs h8 h1 h2 hA oI bQ hL hn EO h4 hl;go_enter Tryz.func33,Tryz.ntmps33
  go_wp2_with fail;refine wp_region_noPanic ?_;go_region_held (fun w'=>(convert 30 9 (.slice (some ad) L cap)).run Tryz.prog w'=.ok (.string ⟨(l.map Nat.toUInt8).toArray⟩) w') (first | assumption | go_keep) (first | (go_at_call 32;refine HSE.out.mono ?_;rintro e w2 ⟨⟨u2,rfl,o2⟩,aD⟩;have uk:=Zk.out _ _ o2.svK;have kz:=VQ.out _ ((ZQ _ _).drew.trans aD);clear o2))
  refine NoPanic.normal ?_;have aN:=ae ((ZQ w.heap.size w).drew.trans aD);have Bm:=ae (HA.out.kept aN.out);rw[Bv.out];clear uk kz Hf VQ Zk Bv HSE aD;by_cases nK:M=l
  ·have HR:Hid (R=some m):=by show _=_;rw[iE.out,if_pos nK]
   rw[decide_eq_true nK];clear nK iE;go_wp2_with fail;go_ret2
   rw[HR.out];exact⟨⟨_,rfl,Bm.out⟩,aN.out⟩
  ·have HR:Hid (R=none):=by show _=_;rw[iE.out,if_neg nK]
   rw[decide_eq_false nK];clear nK iE;go_wp2_with fail;go_ret2
   rw[HR.out];exact⟨⟨_,rfl,SvK.nil _⟩,aN.out⟩
theorem Rd{b:List Nat}{id g:Nat}{fs:List Fd}{gs:List Gr}(h8:Bs b)(h:jl b=.ok (id,fs,g,gs)) :
  chk id fs=0/\id<4294967296/\(∀ f∈fs,Okf f)/\1<=g/\g<=64/\(bP gs).length<=256/\DY fs (bP gs)/\bT id fs (bP gs) (g:Int)=(b,0):=by
 unfold jl at h;split at h
 ·cases h
 ·next t ht =>
  split at h
  ·split at h
   ·cases h
   ·next x hx =>
    split at h
    ·next hw =>
     cases h
     obtain⟨q1,q2,q3,q4,q5,q6,q7,_⟩:=tJ (b:=t.drop 3) (fun y hy=>(mB ht h8).1 y (jbc hy)) hx;exact⟨q1,q2,q3,q4,q5,q6,q7,hw⟩
    ·cases h
  ·cases h
theorem nH(b:List Nat):jl b=match ep b with
  | none=>.error 101
  | some t=>if t.take 3=[67,70,49] then (match iI (t.drop 3)with
    | none=>.error 102
    | some x=>if bT x.1 x.2.1 (bP x.2.2.2) x.2.2.1=(b,0) then .ok x else .error 102) else .error 100:=rfl
theorem G8{b:List Nat}(h:ep b=none):jl b=.error 101:=by rw[nH,h]
theorem Mf{b t:List Nat}(h:ep b=some t)(h3:t.take 3≠[67,70,49]):jl b=.error 100:=by
 rw[nH,h];simp only;rw[if_neg h3]
theorem G9{b t:List Nat}{c:Nat}(h:ep b=some t)(h3:t.take 3=[67,70,49])(he:jl b=.error c):c=102:=by
 rw[nH,h]at he;simp only at he;rw[if_pos h3]at he;split at he
 ·cases he;rfl
 ·split at he
  ·cases he
  ·cases he;rfl
theorem Mg{b:List Nat}{x:Nat×List Fd×Nat×List Gr}(h:jl b=.ok x):∃ t,ep b=some t/\t.take 3=[67,70,49]:=by
 unfold jl at h;split at h
 ·cases h
 ·next t ht =>
  split at h
  ·next h3=>exact⟨t,ht,h3⟩
  ·cases h
theorem Mh{id:Nat}{fs:List Fd}{rows:List Row}{g:Int}(ho:∀ f∈fs,Okf f)(mR:id<4294967296)(hf:∀ r∈rows,∀ c∈r,aU c):Bs (bT id fs rows g).1:=by
 unfold bT;split
 ·exact fun x hx=>by simp at hx
 ·next h0 =>
  split
  ·exact fun x hx=>by simp at hx
  ·obtain⟨hc,⟨eQ,gK⟩,hl,lq⟩:=kV (Decidable.not_not.1 h0)
   exact(lX ho mR hc hl (by omega) (by omega) (fun r hh=>⟨lY lq r hh,hf r hh⟩)).2.seal
namespace OpensLaw
theorem walk{w:World}(ht:Tab w){v:Value}{b0:List Nat}(hs:Sv w v (aE .u8 b0))(h8:Bs b0)(s:Bool) :
  Calls Tryz.prog 6 #[v,.bool s] w fun e w'=>e=.returned (.bool true)/\Below w.heap.size w w':=by
 obtain⟨a0,cap0,rfl,hcp0,hcm0⟩:=hs.form1;rw[ap]at *;have hcm0':cap0<=9223372036854775807:=by unfold maxLen at hcm0;omega
 have HT:=ae ht;have HS:=ae hs;have H8:=ae h8;have HAL:=ae (Ec ht);clear ht hs h8 hcm0;go_enter Tryz.func6,Tryz.ntmps6
 go_wp2_with fail;refine HAL.out.mono ?_;rintro e w1 ⟨rfl,aG⟩;have aQ:=ae aG;have RU:=ae (HT.out.kept aG);have iM:=ae (HS.out.kept aG);clear aG HAL HT HS;by_cases MC:(b0.length:Int) > 20000
 ·go_wp2_with fail
  go_ret
  exact⟨rfl,aQ.out⟩
 have zQ:b0.length<=20000:=by omega
 go_upto_if 18 with fail
 go_cut [0] from 91 (fun v wx=>∃ a cap b,v=.slice a b.length cap/\Sv wx (.slice a b.length cap) (aE .u8 b)/\Bs b/\b.length<=20004/\Below w.heap.size w wx/\Tab wx)
 case first =>
  cases s with
  | false =>
   go_wp2_with fail;go_meet
   exact⟨a0,cap0,b0,rfl,iM.out,H8.out,by omega,aQ.out,RU.out⟩
  | true =>
   have V5:=ae (nG iM.out.toK H8.out (by omega));go_wp2_with fail;refine V5.out.mono ?_;rintro e w2 ⟨⟨v2,rfl,o2⟩,aD⟩;have ib:=o2.sv;obtain⟨a2,c2,rfl,_,_⟩:=bF o2;have zL:=ae ib;have aN:=ae (ai aQ.out aD);have zS:=ae (RU.out.kept aD);clear o2 ib aD V5;go_wp2_with fail;go_meet
   exact⟨a2,c2,bK b0,rfl,zL.out,H8.out.seal,by rw[jV];omega,aN.out,zS.out⟩
 case rest =>
 obtain⟨a,cap,b,rfl,ib,kA,fM,ay,Zc⟩:=hcut;obtain⟨w2,pf⟩:∃ w2,w2=wc:=⟨_,rfl⟩;subst pf;have zL:=ae ib;have aN:=ae ay;have zS:=ae Zc;have iE:=ae (pV Zc ib kA (by omega));have p6:=ae kA;clear ib kA ay Zc iM RU MC;go_wp2_with fail;refine iE.out.mono ?_;rintro e w3 ⟨⟨c,SQ,rfl⟩ | ⟨id,fs,g,gs,fp,fv,jr,rfl,uy,Na⟩,aP⟩
 ·have bM:=ae (ai aN.out aP)
  have EM:=ae (tO (zL.out.kept aP).toK p6.out (by omega));have UL:=ae SQ;clear aP SQ iE;go_wp2_with fail;refine EM.out.mono ?_;rintro e w4 ⟨⟨u,rfl,su⟩,bv⟩;have b9:=ae (ai bM.out bv);cases BU:ep b with
  | none =>
   have hce:c=101:=by have h:=UL.out;rw[G8 BU]at h;cases h;rfl
   subst hce;clear su bv EM;simp only[Option.isSome];go_wp2_with fail;go_ret
   exact⟨rfl,b9.out⟩
  | some t =>
   rw[BU]at su;simp only[Option.getD,Option.isSome]at *;obtain⟨t8,tl⟩:=mB BU p6.out;obtain⟨au,cu,rfl,RK,RQ⟩:=su.toS.form1;rw[ap]at *;have hcu2':cu<=9223372036854775807:=by unfold maxLen at RQ;omega
   by_cases h3:t.take 3=[67,70,49]
   ·have hce:=G9 BU h3 UL.out
    subst hce;have hl3:3<=t.length:=by have:=congrArg List.length h3;rw[ZX]at this;simp at this;omega
    have iK:=Sv.take su.toS (k:=3) (by rw[ap];exact hl3);rw[gI,h3]at iK;have uk:=iK.conv (by intro x hx;simp at hx;omega);unfold txt at uk;obtain⟨Y,hY⟩:∃ Y,([67,70,49]:List Nat).map Nat.toUInt8=Y:=⟨_,rfl⟩;have Wh:(Y==[67,70,49])=true:=by rw[← hY];rfl
    rw[hY]at uk;have mF:¬ (t.length:Int)<3:=by omega
    have oD:¬ cu=0:=by omega
    have Hw:(3:Int)<=(cu:Int):=by omega
    clear su bv EM iK h3 t8 tl BU hY;go_wp2_with fail;go_ret
    exact⟨rfl,b9.out⟩
   ·have hce:c=100:=by have h:=UL.out;rw[Mf BU h3]at h;cases h;rfl
    subst hce;by_cases mF:(t.length:Int)<3
    ·clear su bv EM t8 tl BU h3
     go_wp2_with fail;go_ret
     exact⟨rfl,b9.out⟩
    ·have iK:=Sv.take su.toS (k:=3) (by rw[ap];omega)
     rw[gI]at iK;have ht8:Bs (t.take 3):=fun x hx=>t8 x (jaw hx)
     have uk:=iK.conv ht8;have oD:¬ cu=0:=by omega
     have Hw:(3:Int)<=(cu:Int):=by omega
     unfold txt at uk;have Wh:=uE ht8 (b:=[67,70,49]) (by intro x hx;simp at hx;omega);rw[decide_eq_false h3]at Wh;obtain⟨Y,hY⟩:∃ Y,(t.take 3).map Nat.toUInt8=Y:=⟨_,rfl⟩;rw[hY]at uk Wh;have hbe2:(Y==[67,70,49])=false:=Wh;clear su bv EM iK h3 t8 tl BU hY ht8 Wh;go_wp2_with fail;go_ret
     exact⟨rfl,b9.out⟩
 ·obtain⟨dP,mR,ho,eQ,gK,xk,Wu,Hj⟩:=Rd p6.out jr
  obtain⟨t,BU,h3⟩:=Mg jr;have jM:=(my dP).2.1;have bM:=ae (ai aN.out aP);have Zd:=ae (zL.out.kept aP);have EM:=ae (tO Zd.out.toK p6.out (by omega));have xq:=ae uy;have xl:=ae Na;have HO:=ae ho;have mX:=ae Wu;have Jb:=ae Hj;clear aP uy Na ho Wu Hj jr iE zL dP;go_wp2_with fail;refine EM.out.mono ?_;rintro e w4 ⟨⟨u,rfl,su⟩,bv⟩;rw[BU]at su ⊢;simp only[Option.getD,Option.isSome]at *;obtain⟨t8,tl⟩:=mB BU p6.out;obtain⟨au,cu,rfl,RK,RQ⟩:=su.toS.form1;rw[ap]at *;have hcu2':cu<=9223372036854775807:=by unfold maxLen at RQ;omega
  have hl3:3<=t.length:=by have:=congrArg List.length h3;rw[ZX]at this;simp at this;omega
  have iK:=Sv.take su.toS (k:=3) (by rw[ap];exact hl3);rw[gI,h3]at iK;have uk:=iK.conv (by intro x hx;simp at hx;omega);unfold txt at uk;obtain⟨Y,hY⟩:∃ Y,([67,70,49]:List Nat).map Nat.toUInt8=Y:=⟨_,rfl⟩;have Wh:(Y==[67,70,49])=true:=by rw[← hY];rfl
  rw[hY]at uk;have mF:¬ (t.length:Int)<3:=by omega
  have oD:¬ cu=0:=by omega
  have Hw:(3:Int)<=(cu:Int):=by omega
  have b9:=ae (ai bM.out bv);have HSV4:=ae (Zd.out.kept bv);have xx:=ae (xq.out.kept bv);have HOF4:=ae (xl.out.kept bv);have MB:=ae (zz xx.out (fun r hr=>by have:=(mX.out r hr).1;omega) (by omega));clear su bv EM iK h3 t8 tl BU hY xq xl Zd;go_wp2_with fail;refine MB.out.mono ?_;rintro e w5 ⟨⟨v5,l5,rfl,o5,hsn5⟩,bq⟩;have Vo:=o5.rv;rw[hsn5]at Vo;have MX:=ae (QY Vo (fun r hr=>(mX.out r hr).2) (by omega) (fun r hr=>by have:=(mX.out r hr).1;omega));have aR:=ae (ai b9.out bq);have HSV5:=ae (HSV4.out.kept bq);have xy:=ae (xx.out.kept bq);have HOF5:=ae (HOF4.out.kept bq);obtain⟨a5,c5,rfl,_⟩:=Vo.form;clear bq o5 hsn5 Vo MB HSV4 xx HOF4;go_wp2_with fail;refine MX.out.mono ?_;rintro e w6 ⟨⟨v6,l6,rfl,o6,Sa⟩,dN⟩;have Vp:=o6.sr;rw[Sa]at Vp;have i5:=ae (ai aR.out dN);have U9:=ae (HSV5.out.kept dN);have EU:=ae (xy.out.kept dN);have HOF6:=ae (HOF5.out.kept dN);obtain⟨a6,c6,rfl,_,_⟩:=Vp.form;have H20:Hid (∀ U,Below w6.heap.size w6 U->Calls Tryz.prog 20 #[.pointer (some ⟨fp,0,none⟩)] U fun e w'=>e=.returned (.int .i64 ((bP gs).length:Int))/\Below U.heap.size U w'):=ae (fun U hU=>wX (EU.out.kept hU) (by omega))
  have H19:Hid (∀ U,Below w6.heap.size w6 U->Calls Tryz.prog 19 #[.pointer (some ⟨fp,0,none⟩)] U fun e w'=>∃ a c,e=.returned (.agg #[.int .u32 (id:Int),.slice a fs.length c])/\Sf w' (.slice a fs.length c) fs/\Below U.heap.size U w'):=ae (fun U hU=>by
   refine(Bd (EU.out.kept hU) ((HOF6.out.sf).kept hU) (by omega)).mono ?_;rintro e w' ⟨⟨v',rfl,how'⟩,hb'⟩;have hsf':=how'.sf;obtain⟨a',c',rfl,_,_⟩:=hsf'.form;exact⟨a',c',rfl,hsf',hb'⟩)
  have H14:Hid (∀ U a c (k:Nat),Below w6.heap.size w6 U->Sf U (.slice a fs.length c) fs->Calls Tryz.prog 14 #[.agg #[.int .u32 (id:Int),.slice a fs.length c],.slice a6 (bP gs).length c6,.int .i64 (k:Int)] U fun e w'=>(∃ v',e=.returned (.tuple #[v',.int .i64 ((bT id fs (bP gs) (k:Int)).2:Int)])/\aC w' U.heap.size v' (bT id fs (bP gs) (k:Int)).1)/\Below U.heap.size U w'):=ae (fun U a c k hU xB =>
   xg xB (Vp.kept hU) HO.out mR (fun r hr=>(mX.out r hr).2) (by omega) k)
  have tS:Hid (∀ k:Nat,Bs (bT id fs (bP gs) (k:Int)).1):=ae (fun k=>Mh HO.out mR (fun r hr=>(mX.out r hr).2));clear dN o6 Sa Vp MX HSV5 xy HOF5 EU HOF6 mX;generalize bP gs=rs at *;go_wp2_with fail;go_loopw [10] (fun i wr=>∃(k:Nat),i=.int .i64 (k:Int)/\1<=k/\k<=g/\Below w6.heap.size w6 wr) (fun i _=>65-(intOf i).toNat)
  case atStart=>exact⟨1,rfl,by omega,by omega,ZQ _ _⟩
  case round =>
   obtain⟨k,rfl,p9,hkg,ay⟩:=hrel;have oH:(k:Int)<=64:=by omega
   have HB:=ae ay;have H19':=ae (H19.out wr HB.out);clear ay;go_wp2_with fail;refine H19'.out.mono ?_;rintro e x1 ⟨a7,c7,rfl,hsf7,hbx1⟩;have HBX1:=ae (ai HB.out hbx1);have H14':=ae (H14.out x1 a7 c7 k HBX1.out hsf7);have BO:=tS.out k;have hwg:k=g->bT id fs rs (k:Int)=(b,0):=fun h=>by rw[h];exact Jb.out
   clear hbx1 hsf7 H19';generalize bT id fs rs (k:Int)=WM at *;obtain⟨wb,we⟩:=WM;simp only at BO H14';go_wp2_with fail;refine H14'.out.mono ?_;rintro e x2 ⟨⟨v8,rfl,o8⟩,hbx2⟩;have SD:=ae (ai HBX1.out hbx2);have hcv1:=o8.sv.conv BO;have U1:=(U9.out.kept SD.out).conv p6.out;unfold txt at hcv1 U1;have ur:=uE BO p6.out;obtain⟨a8,c8,rfl,_,_⟩:=bF o8;clear hbx2 o8 H14';by_cases hwe:(we:Int)=0
   ·by_cases heq:wb=b
    ·have H20':=ae (H20.out x2 SD.out)
     rw[decide_eq_true heq]at ur;subst heq;clear BO hwg;generalize List.map Nat.toUInt8 wb=Z at *;go_wp2_with fail;refine H20'.out.mono ?_;rintro e x3 ⟨rfl,ED⟩;have EE:=ae (ai i5.out (ai SD.out ED));clear ED H20';go_wp2_with fail;go_ret
     exact⟨rfl,EE.out⟩
    ·rw[decide_eq_false heq]at ur
     have EO:k≠g:=fun h=>by have:=hwg h;simp only[Prod.mk.injEq]at this;exact heq this.1
     generalize wb.map Nat.toUInt8=X at *;generalize b.map Nat.toUInt8=Z at *;go_wp2_with fail;go_roundw
     case rel=>exact⟨k+1,by go_num,by omega,by omega,SD.out⟩
     case measure=>simp[intOf];omega
   ·have EO:k≠g:=fun h=>by have:=hwg h;simp only[Prod.mk.injEq]at this;exact hwe (by rw[this.2];rfl)
    clear hcv1 U1 ur;go_wp2_with fail;go_roundw
    case rel=>exact⟨k+1,by go_num,by omega,by omega,SD.out⟩
    case measure=>simp[intOf];omega
end OpensLaw
abbrev Em : List (String × DataW Unit) := [("catchment/crc.halves", Rows.laid_catchment_crc_halves)]
def XC:List Int:=[0,498536548,997073096,651767980,1994146192,1802195444,1303535960,1342533948,3988292384,4027552580,3604390888,3412177804,2607071920,2262029012,2685067896,3183342108]
theorem JX : Tryz.prog.globalNamed "catchment/crc.halves" = some 0 := by kernel_rfl
theorem Uu:(Tryz.prog.globals[0]?).map (·.type)=some 245:=by kernel_rfl
theorem Uv:Tryz.prog.cellsOf 22=1:=by kernel_rfl
theorem Re:Tryz.prog.cellsOf 245=16:=by kernel_rfl
theorem XD:∀ i,i<16->XC.getD i 0=((ew 4 i:Nat):Int):=by decide +kernel
theorem Uw{W:World}(h:laidMetH Tryz.prog Em W):Tab W:=by
 rw[MakeChecks.laidMetH_plain _ _ _ (by kernel_rfl)]at h;have hT : TabIs Tryz.prog W "catchment/crc.halves" .u32 XC := tabIs_of_head JX Uu Tryz.underlying245 Tryz.underlying22 Uv Re h
 have hc:∀ i:Nat,i<16->W.cell? ⟨0,i,none⟩=some (.int .u32 ((ew 4 i:Nat):Int)):=fun i hi=>by
  have:=hT.cell JX i (by simpa [XC]using hi);rw[this,XD i hi]
 refine⟨?_,hc⟩;have h0:=hc 0 (by omega);rcases jax W.heap.size with hz | hz
 ·exfalso
  unfold World.cell? at h0;simp[hz]at h0
 ·exact hz
theorem Rf(os:Os)(args:Array Value):laidMetH Tryz.prog Em ((World.doorLaid Tryz.prog 400 os).forCall (fun _ _=>0) ⟨#[],args,[]⟩).memory :=
 laidMetH_of_parts3 (fuel:=8) (laidMet_of_run' 8 (by kernel_rfl) (by kernel_rfl)) (by kernel_rfl) (by kernel_rfl)
open Go
theorem pX:joinedFacts Tryz.prog 6 Tryz.f6 Rows.colfileOpensSpec Rows.colfileOpensRow=true:=by
 unfold joinedFacts;simp only[Bool.and_eq_true];and_intros
 all_goals (as_aux_lemma=>kernel_rfl)
end Go.Proofs.YtpljdjmpamjkhaaGreatDoor
