import Derived.Test.YtpljdjmpamjkhaaGreatDoorXbl
import Derived.Test.YtpljdjmpamjkhaaGreatDoorXbm
set_option linter.unusedVariables false
set_option linter.unusedSimpArgs false
set_option maxRecDepth 100000
set_option maxHeartbeats 8000000
namespace Go.Proofs.YtpljdjmpamjkhaaGreatDoor
open Go.RowKit Go.Lib
theorem xor8{a b:Nat}(ha:a<256)(hb:b<256):bits .xor .u8 (a:Int) (b:Int)=((a ^^^ b:Nat):Int):=u8_xor_nat a b ha hb
theorem Fi{w:World}(ht:Tab w):Calls Tryz.prog 9 #[] w fun e w'=>e=.returned (.bool true)/\Below w.heap.size w w':=by
 have HT:=ae ht;clear ht;go_enter Tryz.func9,Tryz.ntmps9
 go_wp2_with fail;refine(Pm _).mono ?_;rintro e w1 ⟨⟨v1,rfl,o1⟩,aH⟩;obtain⟨a1,c1,rfl,_,_⟩:=bI o1;simp only[show fE.length=2 from rfl]at *;have aE:=am w1 (.cells #[.int .u32 1,.slice a1 2 c1] 25);have bv:(w1.alloc (.cells #[.int .u32 1,.slice a1 2 c1] 25)).heap.size=w1.heap.size+1:=jdx _ _;obtain⟨x0,x1⟩:=bx w1 (.int .u32 1) (.slice a1 2 c1) 25;obtain⟨xS,fT⟩:=Uk (w1.alloc (.cells #[.int .u32 1,.slice a1 2 c1] 25));rw[bv]at xS fT;have pg:=ai aH aE;have Ci:=ae (ai pg (fT.mono (Nat.le_of_eq bv)));have HW:=ae (nW (HT.o.kept Ci.o) ((o1.sf.kept aE).kept (fT.mono (Nat.le_of_eq bv))) xS okA (show (1:Nat)<4294967296 by omega) (fun r hr=>(pw r hr).2) 1);rw[Uh]at HW;simp only at HW;have HTW:=ae (HT.o.kept Ci.o);clear aH aE xS fT pg o1 bv;go_wp2_with fail;refine HW.o.mono ?_;rintro e w6 ⟨⟨v6,rfl,o6⟩,ey⟩;have mT:=ae o6;have HT6:=ae (HTW.o.kept ey);have ja:=ae (ai Ci.o ey);have jcn:=o6.sv;obtain⟨a6,c6,rfl,_,_⟩:=bI o6;have kl:=ae (xt HT6.o jcn bsA (by have:=jaY.2;omega));have HSV6:=ae jcn;clear ey o6 jcn HW HTW Ci x0 x1;go_wp2_with fail;refine kl.o.mono ?_;rintro e w7 ⟨⟨c,hc,_⟩ | ⟨id,fs,g,gs,fp,fv,ho,rfl,Cg,Yz⟩,ji⟩
 ·rw[Zc]at hc;cases hc
 rw[Zc]at ho;simp only[Except.ok.injEq,Prod.mk.injEq]at ho;obtain⟨rfl,rfl,rfl,rfl⟩:=ho;have FP:jfp (Fil w7 w6.heap.size fp 1 fv gsA):=ae Cg;have Ab:=ae Yz;have io:=ae (ai ja.o ji);have HT7:=ae (HT6.o.kept ji);have HSV7:=ae (HSV6.o.kept ji);have Wg:=ae (JV FP.o (by rw[XO];decide));rw[XO]at Wg;simp only[show (rA.length:Int)=2 from rfl]at Wg;clear Cg Yz ji kl HSV6;go_wp2_with fail;refine Wg.o.mono ?_;rintro e w8 ⟨rfl,lD⟩;have HF8:=ae (FP.o.kept lD);have Vv:=ae (Ab.o.kept lD);have xD:=ae (ai io.o lD);have HT8:=ae (HT7.o.kept lD);have HSV8:=ae (HSV7.o.kept lD);have sd:=ae (BC HF8.o);simp only[show (gsA.length:Int)=2 from rfl]at sd;clear lD Wg FP Ab HT7 HSV7;go_wp2_with fail;refine sd.o.mono ?_;rintro e w8' ⟨rfl,rfl⟩;clear sd
 have Cb:=ae (JZ (op:=1) (f:=1) (c:=(1,2,[])) (ks:=[]) HF8.o Vv.o.sf (rL _) (fun U rv r hU iO Vp=>eval1 rfl (rL U) ja5 lenpA (Vv.o.sf.kept hU) iO Vp) (fun U rv sts hU hss hos=>may1 rfl (rL U) ja5 (Vv.o.sf.kept hU) hss hos) (fun r hr=>by
  rw[XO]at hr;exact⟨by have:=qy (pw r hr).1;rw[this];decide,(pw r hr).2⟩) (by rw[XO];decide) (by decide) oksA 0 1 [rA2] (fun _=>⟨ja3.symm,ja4.symm⟩) (fun h=>absurd rfl h) (fun U hU=>by
  refine(ja6 (op:=1) (f:=1) (c:=(1,2,[])) (ks:=[]) (si:=1) rfl rfl (rL U) ja5 (Vv.o.sf.kept hU)).mono ?_;rintro e w' ⟨⟨n,rfl,hn⟩,hb⟩;have Yl:=hn 1 1 (1,2,[]) rfl;rw[Yl];exact⟨by rw[show mQ fE (.node 1 1 (1,2,[]) [])=0 from jaZ],hb⟩))
 simp only[en]at Cb;go_wp2_with fail;refine Cb.o.mono ?_;rintro e w9 ⟨⟨v9,l9,rfl,Ye,hsn9⟩,pD⟩
 obtain⟨rv,rfl⟩:∃ rv,l9=[(rv,rA2)]:=by
  match l9,hsn9 with
  | [(rv,r)],h =>
   have:r=rA2:=by simpa using h
   exact⟨rv,by rw[this]⟩
 obtain⟨a9,c9,rfl,_,_⟩:=Ye.form;obtain⟨g9,rfl,hg9,Vw,Vx⟩:=Ye.at (k:=0) (show 0<1 by omega);simp only[jdD,jdX,jdZ,je7]at *;obtain⟨ra9,rc9,rfl,_,_⟩:=bI Vx;simp only[show rA2.length=2 from rfl]at *;have HR9:=ae Vx;have HCE:=ae Vw;have pF:=ae (ai xD.o pD);have HT9:=ae (HT8.o.kept pD);have HSV9:=ae (HSV8.o.kept pD);have HG9:=ae hg9;have Cs:=ae (dt w9 (.cells #[] 5));have LO:=ae (vk w9);have tw:=ae (HSV9.o.kept Cs.o);have PA:=jaY;clear pD Ye hsn9 Vx Vw hg9 Cb HSV8 HT8 HF8 Vv;go_wp2_with (first | (at_builtin;refine aV rfl _ _ rfl w9.heap.size _ _ [] bA rfl ?q1 rfl ?q2 ?k1 ?k2 ?_))
 case q1=>exact LO.o
 case q2=>exact tw.o
 case k1=>simp only[jdX];omega
 case k2=>rw[jdx];omega
 intro v10 w10 o10 b10 _ _;have ZS:=Cs.o.trans b10;obtain⟨g,cap,rfl,hBg,PC⟩:=o10.form (by omega);obtain⟨ek,lH⟩:=o10.at PA.1;have hx5:=bsA _ (jdA PA.1);have Wa:bits .xor .u8 ((bA[5]'PA.1:Nat):Int) 1=((bA[5]'PA.1 ^^^ 1:Nat):Int):=xor8 (b:=1) hx5 (by omega);have cU:=ae (o10.stored 5 (bA[5]'PA.1 ^^^ 1));have hB11:Below w9.heap.size w9 (w10.setCell ⟨g,5,none⟩ (.int .u8 ((bA[5]'PA.1 ^^^ 1:Nat):Int))):=ZS.setCell hBg _;have YF:=ae hB11
 have HX8:jfp (Bs (bA.set 5 (bA[5]'PA.1 ^^^ 1))):=ae (fun x hx=>by
  rcases List.mem_or_eq_of_mem_set hx with h | rfl
  ·exact bsA x h
  ·have:bA[5]'PA.1 ^^^ 1<2 ^ 8:=jfh hx5 (by omega)
   omega)
 have HTU:=ae turnA;have PE:jfp ((bA.set 5 (bA[5]'PA.1 ^^^ 1)).length=bA.length):=ae jeS;have HOP2:=ae (xt (HT9.o.kept hB11) cU.o.sv HX8.o (by rw[PE.o];omega));have hlt5:(5:Int)<(bA.length:Int):=by omega
 clear Cs LO tw o10 b10 ZS hB11;generalize bA.set 5 (bA[5]'PA.1 ^^^ 1)=bB at *;generalize bA[5]'PA.1 ^^^ 1=z at *;generalize bA[5]'PA.1=y at *;go_wp2_with fail;refine HOP2.o.mono ?_;rintro e w12 ⟨⟨c,hc,rfl⟩ | ⟨id,fs,g',gs,fp',fv',ho,_⟩,pg⟩
 case inr=>rw[HTU.o]at ho;cases ho
 rw[HTU.o]at hc;obtain rfl:101=c:=by simpa using hc
 have YG:=YF.o.trans (pg.mono YF.o.size);have br:=(YG.cell (p:=⟨g9,0,none⟩) HG9.o).trans HCE.o;have jX:=HR9.o.kept YG;have Ci:=ae (ai pF.o YG);have HC2:=ae (Nb jX.sv BI (by decide));clear pg YG hc HOP2 jX;go_wp2_with fail;refine HC2.o.mono ?_;rintro e w13 ⟨⟨v13,rfl,o13⟩,KL⟩;have Vy:=ae (ai Ci.o KL);have fT:=am w13 (.cells #[.int .u8 1,.int .i64 2,.string ⟨#[]⟩,.int .u8 0,.int .i64 0,.string ⟨#[]⟩] 52);have xA:fH (w13.alloc (.cells #[.int .u8 1,.int .i64 2,.string ⟨#[]⟩,.int .u8 0,.int .i64 0,.string ⟨#[]⟩] 52)) w13.heap.size (.slice (some ⟨w13.heap.size,0,none⟩) 2 2) rA2:=ja2 w13 rA2 (by decide);have FA:=ae (DK (o13.sc.kept fT) xA.sc (fun c hc=>(BI c hc).bsA) (fun c hc=>(BI c hc).bsA));obtain⟨a13,c13,rfl,_,_⟩:=bI o13;have HBL2:=ae (ai Vy.o fT);simp only[show rA2.length=2 from rfl,decide_true]at *;clear o13 KL fT xA HC2 br;go_wp2_with fail;refine FA.o.mono ?_;rintro e w14 ⟨rfl,hb14⟩;have jco:=ae (ai HBL2.o hb14);clear hb14;go_wp2_with fail;go_ret
 exact⟨rfl,jco.o⟩
theorem Fj{s:List Nat}(c:Nat)(n:Int)(hc:(c:Int)≠1)(jT:(c:Int)≠2)(hl:s.length<=64)(h8:Bs s)(w:World) :
  Calls Tryz.prog 91 #[.agg #[.int .u8 (c:Int),.int .i64 n,.string (ak s)]] w (dw w (uv s.length++s)):=by
 have HE:=ae (ru h8);have UE:IntKind.u64.wrap (s.length:Int)=(s.length:Int):=by rw[jd0];omega
 have jw:(ak s).size=s.length:=bg s;have HV:=ae (bG s.length (by omega));have uE:=bM (n:=s.length) (by omega);have h1:((c:Int)==1)=false:=jdG.2 hc;have h2:((c:Int)==2)=false:=jdG.2 jT;obtain⟨x0,x1,x2⟩:=dx w (.int .u8 (c:Int)) (.int .i64 n) (.string (ak s)) 52;have hz:w.heap.size<(w.alloc (.cells #[.int .u8 (c:Int),.int .i64 n,.string (ak s)] 52)).heap.size:=by rw[jdx];omega
 have ce:=ae (am w (.cells #[.int .u8 (c:Int),.int .i64 n,.string (ak s)] 52));generalize hW:w.alloc (.cells #[.int .u8 (c:Int),.int .i64 n,.string (ak s)] 52)=W at *
 have em:jfp (∀ n W',Below W.heap.size (W.drewN n) W'->W'.cell? ⟨w.heap.size,2,none⟩=some (.string (ak s))/\Below W.heap.size W W'/\W.heap.size<=W'.heap.size):=ae (fun n W' h=>by
  have hb':Below W.heap.size W W':=(ap (jdv _ _) n).trans h;exact⟨(hb'.cell (p:=⟨w.heap.size,2,none⟩) hz).trans x2,hb',hb'.size⟩)
 generalize hP:uv s.length=P at *;have hPp:0<P.length:=by rw[← hP];exact mz _
 clear hP hc jT h8;go_enter Tryz.func91,Tryz.ntmps91
 go_wp2_with fail;try rw[hW]
 clear hW
 go_region_held3 (fun w'=>w'.cell? ⟨w.heap.size,2,none⟩=some (.string (ak s))) (go_keep) (first
  | (go_at_call 45;refine(HV.o _).mono ?_;rintro e w2 ⟨⟨v2,rfl,cB⟩,aE⟩;obtain⟨Kx,py,hm3⟩:=em.o _ _ aE;have KB:=ae py;have du:=ae cB;clear aE py cB)
  | (refine mZ (by rfl) _ _ (by rfl) W.heap.size _ P (ak s) (by rfl) ?_ (by rfl) ?_ ?_ ?_;exact(be du.o (by simp));omega;omega;intro v3 w3 o3 b3;have se:=(b3.cell (p:=⟨w.heap.size,2,none⟩) hz).trans Kx;have dh:=ae o3;have bP:=ae (KB.o.trans b3);clear o3 b3))
 all_goals go_wp2_with fail
 all_goals go_ret
 all_goals rw[HE.o]at dh
 all_goals exact⟨⟨_,rfl,be dh.o ce.o.size⟩,ai ce.o bP.o⟩
theorem Pr{n:Int}(h:I64 n)(w:World):Calls Tryz.prog 91 #[.agg #[.int .u8 1,.int .i64 n,.string ⟨#[]⟩]] w (dw w (wv n)):=by
 have HV:=ae (dm h);obtain⟨x0,x1,x2⟩:=dx w (.int .u8 1) (.int .i64 n) (.string ⟨#[]⟩) 52;have ce:=ae (am w (.cells #[.int .u8 1,.int .i64 n,.string ⟨#[]⟩] 52));go_enter Tryz.func91,Tryz.ntmps91
 go_wp2_with fail;refine(HV.o _).mono ?_;rintro e w1 ⟨⟨v1,rfl,o1⟩,aH⟩;have HO:=ae o1;have HB:=ae aH;clear o1 aH;go_wp2_with fail;go_ret
 exact⟨⟨_,rfl,be HO.o ce.o.size⟩,ai ce.o HB.o⟩
theorem Ps{n:Nat}(h:n<2)(w:World):Calls Tryz.prog 91 #[.agg #[.int .u8 2,.int .i64 (n:Int),.string ⟨#[]⟩]] w (dw w [n]):=by
 obtain⟨x0,x1,x2⟩:=dx w (.int .u8 2) (.int .i64 (n:Int)) (.string ⟨#[]⟩) 52;have UE:IntKind.u8.wrap (n:Int)=(n:Int):=by rw[IntKind.wrap_u8];omega
 have ce:=ae (am w (.cells #[.int .u8 2,.int .i64 (n:Int),.string ⟨#[]⟩] 52));have HL:=ae (cG (w.alloc (.cells #[.int .u8 2,.int .i64 (n:Int),.string ⟨#[]⟩] 52)) n);have aQ:=ae (am (w.alloc (.cells #[.int .u8 2,.int .i64 (n:Int),.string ⟨#[]⟩] 52)) (.cells #[.int .u8 (n:Int)] 5));have hz:(w.alloc (.cells #[.int .u8 2,.int .i64 (n:Int),.string ⟨#[]⟩] 52)).heap.size=w.heap.size+1:=jdx _ _;go_enter Tryz.func91,Tryz.ntmps91
 go_wp2_with fail;go_ret
 have H1:=be HL.o ce.o.size;rw[hz]at H1;exact⟨⟨_,rfl,H1⟩,ai ce.o aQ.o⟩
theorem Fk{c:Cl}(h:aT c)(w:World):Calls Tryz.prog 91 #[.agg #[.int .u8 (c.1:Int),.int .i64 c.2.1,.string (ak c.2.2)]] w (dw w (gG c)):=by
 rcases h with rfl | ⟨n,rfl,h1⟩ | ⟨n,rfl,h1⟩ | ⟨s,rfl,h1,h2⟩
 ·have:=Fj (s:=[]) 0 0 (by decide) (by decide) (by simp) (fun x hx=>by simp at hx) w
  exact this
 ·have:=Pr h1 w
  exact this
 ·have:=Ps h1 w
  have e:gG ((2,(n:Int),[]):Cl)=[n]:=by
   unfold gG;rw[jdt (by simp),jdu (by simp)];simp only;congr 1
   omega
  rw[e];exact this
 ·have:=Fj (s:=s) 3 0 (by decide) (by decide) h1 h2 w
  exact this
theorem xw{st:Stt}(h1:aT st.lo)(h2:aT st.hi)(hn:∃ n:Nat,st.nulls=(n:Int)/\n<=1000000)(ZK:st.some=false->st.high=false)(w:World):Calls Tryz.prog 48 #[ux st] w (dw w (et st)):=by
 obtain⟨n,hn,LH⟩:=hn;obtain⟨r,nu,so,hi,lo,hh⟩:=st;simp only at hn h1 h2 ZK;subst hn;have HC:=ae (bG n (by omega));have HL:=ae (Fk h1);have HH:=ae (Fk h2);have UL:=mg h1;have Aa:=mg h2;have hu:=bM (n:=n) (by omega);have UE:IntKind.u64.wrap (n:Int)=(n:Int):=by rw[jd0];omega
 have HE:jfp (et ⟨r,(n:Int),so,hi,lo,hh⟩=uv n++[yh ⟨r,(n:Int),so,hi,lo,hh⟩]++((if so=true then gG lo else [])++(if hi=true then gG hh else []))):=ae (by unfold et;rw[jd1]);have HFG:jfp (yh ⟨r,(n:Int),so,hi,lo,hh⟩=(if so=true then 1 else 0)+(if hi=true then 2 else 0)):=ae rfl;rw[HFG.o]at HE;clear HFG;obtain⟨SB,hSB⟩:∃ SB,et ⟨r,(n:Int),so,hi,lo,hh⟩=SB:=⟨_,rfl⟩;rw[hSB]at HE ⊢;clear hSB;unfold ux;have ce:=ae (am w (.cells #[.int .i64 r,.int .i64 (n:Int),.bool so,.bool hi,.int .u8 (lo.1:Int),.int .i64 lo.2.1,.string (ak lo.2.2),.int .u8 (hh.1:Int),.int .i64 hh.2.1,.string (ak hh.2.2)] 54));have hz:w.heap.size<(w.alloc (.cells #[.int .i64 r,.int .i64 (n:Int),.bool so,.bool hi,.int .u8 (lo.1:Int),.int .i64 lo.2.1,.string (ak lo.2.2),.int .u8 (hh.1:Int),.int .i64 hh.2.1,.string (ak hh.2.2)] 54)).heap.size:=by rw[jdx];omega
 have jW:=jdW w (.cells #[.int .i64 r,.int .i64 (n:Int),.bool so,.bool hi,.int .u8 (lo.1:Int),.int .i64 lo.2.1,.string (ak lo.2.2),.int .u8 (hh.1:Int),.int .i64 hh.2.1,.string (ak hh.2.2)] 54);generalize hW:w.alloc (.cells #[.int .i64 r,.int .i64 (n:Int),.bool so,.bool hi,.int .u8 (lo.1:Int),.int .i64 lo.2.1,.string (ak lo.2.2),.int .u8 (hh.1:Int),.int .i64 hh.2.1,.string (ak hh.2.2)] 54)=W at *;generalize lo.1=l0 at *;generalize lo.2.1=l1 at *;generalize ak lo.2.2=l2 at *;generalize hh.1=h0 at *;generalize hh.2.1=h1' at *;generalize ak hh.2.2=h2' at *;generalize gG lo=BL at *;generalize gG hh=BH at *
 have HT:jfp (∀ U,Below W.heap.size W U->U.cell? ⟨w.heap.size,1,none⟩=some (.int .i64 (n:Int))/\U.cell? ⟨w.heap.size,2,none⟩=some (.bool so)/\U.cell? ⟨w.heap.size,3,none⟩=some (.bool hi)/\U.cell? ⟨w.heap.size,4,none⟩=some (.int .u8 (l0:Int))/\U.cell? ⟨w.heap.size,5,none⟩=some (.int .i64 l1)/\U.cell? ⟨w.heap.size,6,none⟩=some (.string l2)/\U.cell? ⟨w.heap.size,7,none⟩=some (.int .u8 (h0:Int))/\U.cell? ⟨w.heap.size,8,none⟩=some (.int .i64 h1')/\U.cell? ⟨w.heap.size,9,none⟩=some (.string h2')):=ae (fun U hb=>by
  have hU:=(hb.block w.heap.size hz).trans jW;refine⟨?_,?_,?_,?_,?_,?_,?_,?_,?_⟩<;>(rw[ay hU];rfl))
 clear jW;have HZW:=ae hz;generalize uv n=P at *;obtain⟨x1,x2,x3,x4,x5,x6,x7,x8,x9⟩:=HT.o W (jdv _ _);go_enter Tryz.func48,Tryz.ntmps48
 go_wp2_with fail;try rw[hW]
 clear hW;refine(HC.o _).mono ?_;rintro e w1 ⟨⟨v1,rfl,o1⟩,aH⟩;have eY:jfp (aD w1 W.heap.size v1 P):=ae o1;have aQ:=ae aH;clear o1 aH x1 x2 x3 x4 x5 x6 x7 x8 x9;obtain⟨x1,x2,x3,x4,x5,x6,x7,x8,x9⟩:=HT.o w1 aQ.o;have cP:=aQ.o.size;obtain⟨pa,pc,rfl,_,_⟩:=bI eY.o;cases so with
 | false =>
  have Kn:=ZK rfl;subst Kn;go_wp2_with (first | (at_builtin;refine aV rfl _ _ rfl W.heap.size _ _ P [0] rfl ?qa1 rfl ?qb1 ?c1 ?c2 ?_))
  case qa1=>exact(eY.o.kept (am _ _))
  case qb1=>exact(cG w1 0).sv
  case c1=>simp only[jd6];omega
  case c2=>rw[jdx];omega
  intro v2 w2 o2 b2 _ _;have du:=ae o2;have aO:=ae ((aQ.o.alloc cP _).trans b2);clear o2 b2;go_wp2_with fail;go_ret
  have HQ:aD w2 W.heap.size v2 SB:=by rw[HE.o];simpa using du.o
  exact⟨⟨_,rfl,be HQ (by omega)⟩,ai ce.o aO.o⟩
 | true =>
  cases hi with
  | true =>
   go_wp2_with (first | (at_builtin;refine aV rfl _ _ rfl W.heap.size _ _ P [3] rfl ?qa2 rfl ?qb2 ?c1 ?c2 ?_))
   case qa2=>exact(eY.o.kept (am _ _))
   case qb2=>exact(cG w1 3).sv
   case c1=>simp only[jd6];omega
   case c2=>rw[jdx];omega
   intro v2 w2 o2 b2 _ _;have du:=ae o2;have aO:=ae ((aQ.o.alloc cP _).trans b2);clear o2 b2 x1 x2 x3 x4 x5 x6 x7 x8 x9;obtain⟨x1,x2,x3,x4,x5,x6,x7,x8,x9⟩:=HT.o w2 aO.o;go_wp2_with fail;refine(HL.o _).mono ?_;rintro e w3 ⟨⟨v3,rfl,o3⟩,aS⟩;have dh:=ae o3;have KA:=ae (du.o.kept aS);have bP:=ae (ai aO.o aS);have iH:=bP.o.size;clear o3 aS x1 x2 x3 x4 x5 x6 x7 x8 x9 du;obtain⟨x1,x2,x3,x4,x5,x6,x7,x8,x9⟩:=HT.o w3 bP.o;go_wp2_with (first | (at_builtin;refine aV rfl _ _ rfl W.heap.size _ _ (P++[3]) BL rfl ?qa3 rfl ?qb3 ?c3 ?c4 ?_))
   case qa3=>exact KA.o
   case qb3=>exact dh.o.sv
   case c3=>simp only[jdD,jdX,jdy];omega
   case c4=>exact iH
   intro v4 w4 o4 b4 _ _;have eR:=ae o4;have cx:=ae (bP.o.trans b4);clear o4 b4 x1 x2 x3 x4 x5 x6 x7 x8 x9;obtain⟨x1,x2,x3,x4,x5,x6,x7,x8,x9⟩:=HT.o w4 cx.o;go_wp2_with fail;refine(HH.o _).mono ?_;rintro e w5 ⟨⟨v5,rfl,o5⟩,bD⟩;have dE:=ae o5;have HP5:=ae (eR.o.kept bD);have aR:=ae (ai cx.o bD);have uF:=aR.o.size;clear o5 bD x1 x2 x3 x4 x5 x6 x7 x8 x9 eR;go_wp2_with (first | (at_builtin;refine aV rfl _ _ rfl W.heap.size _ _ (P++3::BL) BH rfl ?qa4 rfl ?qb4 ?c5 ?c6 ?_))
   case qa4=>exact HP5.o
   case qb4=>exact dE.o.sv
   case c5=>simp only[jdD,jdy];omega
   case c6=>exact uF
   intro v6 w6 o6 b6 _ _;have mT:=ae o6;have ja:=ae (aR.o.trans b6);clear o6 b6;go_wp2_with fail;go_ret
   have HQ:aD w6 W.heap.size v6 SB:=by rw[HE.o];simpa using mT.o
   exact⟨⟨_,rfl,be HQ (by omega)⟩,ai ce.o ja.o⟩
  | false =>
   go_wp2_with (first | (at_builtin;refine aV rfl _ _ rfl W.heap.size _ _ P [1] rfl ?qa5 rfl ?qb5 ?c1 ?c2 ?_))
   case qa5=>exact(eY.o.kept (am _ _))
   case qb5=>exact(cG w1 1).sv
   case c1=>simp only[jd6];omega
   case c2=>rw[jdx];omega
   intro v2 w2 o2 b2 _ _;have du:=ae o2;have aO:=ae ((aQ.o.alloc cP _).trans b2);clear o2 b2 x1 x2 x3 x4 x5 x6 x7 x8 x9;obtain⟨x1,x2,x3,x4,x5,x6,x7,x8,x9⟩:=HT.o w2 aO.o;go_wp2_with fail;refine(HL.o _).mono ?_;rintro e w3 ⟨⟨v3,rfl,o3⟩,aS⟩;have dh:=ae o3;have KA:=ae (du.o.kept aS);have bP:=ae (ai aO.o aS);have iH:=bP.o.size;clear o3 aS x1 x2 x3 x4 x5 x6 x7 x8 x9 du;go_wp2_with (first | (at_builtin;refine aV rfl _ _ rfl W.heap.size _ _ (P++[1]) BL rfl ?qa6 rfl ?qb6 ?c3 ?c4 ?_))
   case qa6=>exact KA.o
   case qb6=>exact dh.o.sv
   case c3=>simp only[jdD,jdX,jdy];omega
   case c4=>exact iH
   intro v4 w4 o4 b4 _ _;have eR:=ae o4;have cx:=ae (bP.o.trans b4);clear o4 b4;go_wp2_with fail;go_ret
   have HQ:aD w4 W.heap.size v4 SB:=by rw[HE.o];simpa using eR.o
   exact⟨⟨_,rfl,be HQ (by omega)⟩,ai ce.o cx.o⟩
theorem uA{w:World}{v:Value}{rs:List Row}(hs:Sr w v rs)(hl:rs.length<=1000){k:Nat}(hk:∀ r∈rs,k<r.length) :
  Calls Tryz.prog 26 #[v,.int .i64 (k:Int)] w fun e w'=>(∃ v',e=.returned v'/\fH w' w.heap.size v' (cW rs k))/\Below w.heap.size w w':=by
 have HS:=ae hs;have HK:=ae hk;obtain⟨a,cap,rfl,aW,bw⟩:=hs.form;have hcm':cap<=9223372036854775807:=by unfold maxLen at bw;omega
 have eQ:(cW rs k).length=rs.length:=dr rs k;obtain⟨D,hD⟩:∃ D,cW rs k=D:=⟨_,rfl⟩;have PY:jfp (∀ j (h:j<rs.length),∃ h2:j<D.length,D[j]=rs[j].getD k nul):=ae (fun j h=>by subst hD;exact⟨by omega,by simp[cW]⟩);rw[hD]at eQ ⊢;have qr:=ae eQ;clear hs bw hk hD eQ;go_enter Tryz.func26,Tryz.ntmps26
 go_wp2_with fail;go_loopw [5,6] (fun o i wr=>∃ j:Nat,j<=rs.length/\i=.int .i64 (j:Int)/\fH wr w.heap.size o (D.take j)/\Below w.heap.size w wr) (fun _ i _=>rs.length-(intOf i).toNat)
 case atStart=>exact⟨0,by omega,rfl,fH.nil _ _,jdv _ _⟩
 case round =>
  obtain⟨j,hj,rfl,aA,az⟩:=hrel;have HO:=ae aA;have HB:=ae az;have bF:=az.size;clear aA az;by_cases aB:j<rs.length
  ·obtain⟨g,off,rv,rfl,hg,br,Cu⟩:=(HS.o.kept HB.o).at aB
   obtain⟨hjD,hDj⟩:=PY.o j aB;have pC:=HK.o _ (jdA aB);obtain⟨ra,rc,rfl,Vg,FI⟩:=Cu.form;obtain⟨b2,o2,rfl,aE,x0,x1,x2⟩:=Cu.at pC;have ek:rs[j].getD k nul=rs[j][k]:=by rw[List.getD_eq_getElem?_getD,List.getElem?_eq_getElem pC];rfl
   rw[ek]at hDj;have hrc2':rc<=9223372036854775807:=by unfold maxLen at FI;omega
   have hlt':(j:Int)<(rs.length:Int):=(by omega);have hkl':(k:Int)<(rs[j].length:Int):=(by omega);have lE:jfp (D.take (j+1)=D.take j++[D[j]]):=ae (jdM hjD);have hlen':(D.take j).length<=100000:=by rw[jdC];omega
   rw[hDj]at lE;generalize rs[j][k]=fc at *;generalize D.take j=LL at *;generalize rs[j].length=rl at *;have kP:=ae (dx wr (.int .u8 (fc.1:Int)) (.int .i64 fc.2.1) (txt fc.2.2) 52);clear Cu hDj ek;unfold txt at *;go_wp2_with (first | (at_builtin;refine jB rfl _ _ rfl w.heap.size _ _ fc LL rfl (HO.o.kept (am _ _)) rfl kP.o.1 kP.o.2.1 kP.o.2.2 hlen' ?c2 ?_))
   case c2=>first | omega | (rw[jdx];omega)
   intro v' w5 o5 b5;have dE:=ae o5;have aR:=ae ((HB.o.alloc bF _).trans b5);clear o5 b5;go_wp2_with fail;go_roundw
   case rel=>exact⟨j+1,by omega,by go_num,by rw[lE.o];exact dE.o,aR.o⟩
   case measure=>simp[intOf];omega
  ·obtain rfl:j=rs.length:=by omega
   rw[← qr.o,jdE]at HO;have gj:¬ ((rs.length:Nat):Int)<(rs.length:Int):=(by omega);go_wp2_with fail;go_ret
   exact⟨⟨_,rfl,HO.o⟩,HB.o⟩
theorem Sr.cut{W:World}{b off n cap:Nat}{rs:List Row}(h:Sr W (.slice (some ⟨b,off,none⟩) n cap) rs){i m:Nat}(him:i+m<=rs.length):Sr W (.slice (some ⟨b,off+i,none⟩) m (cap-i)) ((rs.drop i).take m):=by
 obtain⟨a',cap',e,h1,h2,h4⟩:=h;simp only[Value.slice.injEq]at e;obtain⟨rfl,_,rfl⟩:=e;have hl:((rs.drop i).take m).length=m:=by rw[jdC,jd3];omega
 refine⟨_,cap-i,by rw[hl],by omega,by unfold maxLen at *;omega,fun h0=>?_⟩;obtain⟨b',off',e,h5,h6⟩:=h4 (by omega);cases e
 refine⟨b,off+i,rfl,h5,fun j hj=>?_⟩;obtain⟨rv,h7,h8⟩:=h6 (i+j) (by omega);refine⟨rv,by rw[jeD];exact h7,?_⟩;have:((rs.drop i).take m)[j]=rs[i+j]'(by omega):=by simp
 rw[this];exact h8
def Zf(W:World)(gs:List (Value×List Row)):Prop:=∀ x∈gs,Sr W x.1 x.2
theorem XR:(Tryz.prog.info? 26).map (fun i=>(i.zero,i.size,i.bytes))=some (some (.slice none 0 0),1,24):=by kernel_rfl
theorem uB{w0 w:World}{v:Value}{rs:List Row}(yw:Sr w0 v rs)(lu:Below w0.heap.size w0 w)(hl:rs.length<=1000){g:Nat}(eS:1<=g)(ik:g<=64) :
  Calls Tryz.prog 46 #[v,.int .i64 (g:Int)] w fun e w'=>(∃ v' gs,e=.returned v'/\w'.ownsRow w.heap.size 26 1 v' gs.length (gs.map Prod.fst)/\Zf w0 gs/\gs.map Prod.snd=Je g rs)/\Below w.heap.size w w':=by
 obtain⟨i0,hi,ct,hz1',bv⟩:=jdP XR;have HS:=ae yw;obtain⟨a,cap,rfl,aW,bw⟩:=yw.form;have hcm':cap<=9223372036854775807:=by unfold maxLen at bw;omega
 have Wc:=ae (fun j=>kH (n:=rs.length) (j:=j) (show 0<g by omega));have HPR:jfp (Je g rs=(List.range (nps g rs.length)).map (prt g rs)):=ae rfl;rw[HPR.o];clear HPR
 have qn:jfp (nps g rs.length<=1000):=ae (by
  rcases jdY 1000 (nps g rs.length)with h | h
  ·have:=(Wc.o 1000).1 h
   have:1000*1<=1000*g:=jey _ eS;omega
  ·exact h)
 generalize nps g rs.length=N at *;clear yw lu bw;go_enter Tryz.func46,Tryz.ntmps46
 go_wp2_with fail;go_loopw [5,6] (fun o i wr=>∃(j:Nat) (gs:List (Value×List Row)),j<=N/\i=.int .i64 ((j*g:Nat):Int)/\gs.map Prod.snd=(List.range j).map (prt g rs)/\wr.ownsRow w.heap.size 26 1 o gs.length (gs.map Prod.fst)/\Zf w0 gs/\Below w.heap.size w wr) (fun _ i _=>rs.length+64-(intOf i).toNat)
 case atStart=>exact⟨0,[],by omega,by simp,rfl,jeo _ _ _ _,fun x hx=>by simp at hx,jdv _ _⟩
 case round =>
  obtain⟨j,gs,hj,rfl,uW,aA,PB,az⟩:=hrel;have HO:=ae aA;have HB:=ae az;have tw:=ae uW;have Yx:gs.length=j:=by have:=jdB List.length uW;simpa using this
  have HGL:=ae Yx;have bF:=az.size;obtain⟨la,lc,rfl,UL,Aa⟩:=bI aA;have FA:=ae HS.o;have HSS:=ae PB;clear aA az uW Yx PB;by_cases aB:j<N
  ·have hjg:=(Wc.o j).1 aB
   obtain⟨b,off,rv,rfl,hb,_⟩:=FA.o.at hjg;obtain⟨p,hp⟩:∃ p,j*g=p:=⟨_,rfl⟩;have HP:=ae hp;have HPA:jfp ((j+1)*g=p+g):=ae (by rw[jd9,jeB,hp]);rw[hp]at hjg ⊢;obtain⟨m,hm⟩:∃ m,min rs.length (p+g)-p=m:=⟨_,rfl⟩;have Qi:min (rs.length:Int) ((p:Int)+(g:Int))=((p+m:Nat):Int):=(by omega)
   have HPT:jfp (prt g rs j=(rs.drop p).take m):=ae (by
    unfold prt;rw[hp];apply List.ext_getElem?
    intro q;rw[List.getElem?_take,List.getElem?_take,List.getElem?_drop];by_cases h1:q<g
    ·rw[jdu h1]
     by_cases h2:q<m
     ·rw[jdu h2]
     ·rw[jdt h2,List.getElem?_eq_none (by omega)]
    ·rw[jdt h1,jdt (by omega)])
   have HCU:=ae (FA.o.cut (i:=p) (m:=m) (by omega));have hjg':(p:Int)<(rs.length:Int):=(by omega);have hlt':((p:Nat):Int)<=((p+m:Nat):Int):=(by omega);have hpc:((p+m:Nat):Int)<=(cap:Int):=(by omega);have hpm:((p+m:Nat):Int).toNat=p+m:=(by omega);have hpn:((p:Nat):Int).toNat=p:=(by omega);have hdm:p+m-p=m:=(by omega);have hw1:IntKind.i64.wrap ((p:Int)+(g:Int))=(p:Int)+(g:Int):=by rw[jd7];omega
   have hd2:((p+m:Nat):Int)-(p:Int)=(m:Int):=(by omega);have hgl3:gs.length<=1000:=by have:=HGL.o;have:=qn.o;omega
   have kP:=ae (aK wr (.slice (some ⟨b,off+p,none⟩) m (cap-p)) 26);clear hm hp;go_wp2_with (first | (at_builtin;refine jeb (w:=_) rfl _ _ 93 rfl w.heap.size 26 i0 (.slice none 0 0) 1 24 Tryz.underlying93 hi ct hz1' bv rfl (by decide) (.slice la gs.length lc) gs.length (gs.map Prod.fst) rfl ?q0 ⟨wr.heap.size,0,none⟩ 1 1 [.slice (some ⟨b,off+p,none⟩) m (cap-p)] rfl rfl ?q1 ?q2 ?q3 ?q4 ?q5 ?_))
   case q0=>exact bL HO.o (am _ _)
   case q1 =>
    intro j2 u hu;rw[mv];cases j2 with
    | zero =>
     simp only[List.getElem?_cons_zero,Option.some.injEq]at hu;rw[← hu];exact kP.o
    | succ j2=>simp at hu
   case q2 =>
    intro u hu;rw[jef.1 hu];rfl
   case q3=>unfold maxLen;omega
   case q4=>omega
   case q5=>rw[jdx];omega
   intro v' w5 o5 g5 _ e5;have dE:=ae o5;have aR:=ae ((HB.o.alloc bF (.cells #[.slice (some ⟨b,off+p,none⟩) m (cap-p)] 26)).grown g5 (by rw[jdx];omega) (fun k hk=>(World.ownsRow.lt (bL HO.o (am wr (.cells #[.slice (some ⟨b,off+p,none⟩) m (cap-p)] 26))) k hk).1));clear o5 g5 e5;go_wp2_with fail;go_roundw
   case rel =>
    refine⟨j+1,gs++[(.slice (some ⟨b,off+p,none⟩) m (cap-p),prt g rs j)],by omega,by rw[HPA.o];rfl,by rw[jdQ,tw.o,jeN,jdQ];rfl,?_,fun x hx=>?_,aR.o⟩
    ·rw[jdy,jdQ]
     exact dE.o
    ·rcases jd2.1 hx with hx | hx
     ·exact HSS.o x hx
     ·rw[jef.1 hx,HPT.o]
      exact HCU.o
   case measure=>simp[intOf];omega
  ·have hjN:¬ j*g<rs.length:=fun h=>aB ((Wc.o j).2 h)
   obtain rfl:j=N:=by omega
   obtain⟨p,hp⟩:∃ p,j*g=p:=⟨_,rfl⟩;rw[hp]at hjN ⊢;have gj:¬ (p:Int)<(rs.length:Int):=(by omega);go_wp2_with fail;go_ret
   first | exact⟨⟨_,gs,rfl,HO.o,HSS.o,tw.o⟩,HB.o⟩ | exact⟨⟨_,rfl,gs,HO.o,HSS.o,tw.o⟩,HB.o⟩
theorem Fl{w:World}{v:Value}{l:List Int}(hs:Sv w v (aL l))(hl:l.length<=256)(hi:Is l) :
  Calls Tryz.prog 135 #[.int .i64 3,v] w (mI (pP l) w):=by
 have HI:jfp (Is (cH l)):=lP hi;have HS:=ae hs;have PU:=ae (wH hs hl);have HF:jfp (pP l=uv (cH l).length++(il (cH l)++bi (l.map (pl (cH l))) (wd (l.map (pl (cH l))):Int))):=rfl;have HUR:=ae (gW l);have Km:jfp (∀ x∈l,x∈cH l):=fun x hx=>gz.2 hx
 have UI:jfp (∀ x∈l.map (pl (cH l)),x<18446744073709551616):=wC hl;have uE:=fK l;have hps:=kY (p:=l.map (pl (cH l))) (x:=(wd (l.map (pl (cH l))):Int)) (by rw[jdz];omega);have HSU:=ae (lT (lP hi)).1;obtain⟨a,cap,rfl,aW,bw⟩:=hs.form;have uT:¬ (l.length:Int) > 256:=by omega
 clear hs hi aW bw;generalize cH l=u at *;have HP:=ae hps;clear hps;go_enter Tryz.func135,Tryz.ntmps135
 go_wp2_with fail;refine PU.o.mono ?_;rintro e w1 ⟨⟨vu,rfl,ou⟩,aH⟩;have HU1:=ae ou;have aQ:=ae aH;have cP:=aH.size;obtain⟨au,cu,rfl⟩:=ou.len;clear ou aH;have UN:u.length<=256:=by omega
 go_wp2_with fail;refine(bG u.length (by omega) _).mono ?_;rintro e w2 ⟨⟨v2,rfl,o2⟩,aE⟩;have du:=ae o2;have aO:=ae aE;clear o2 aE;have no:=bM (n:=u.length) (by omega);generalize uv u.length=un at *;go_wp2_with fail;go_loopw [6,13] (fun b i wr=>∃ k:Nat,k<=u.length/\i=.int .i64 (k:Int)/\aD wr w1.heap.size b (un++il (u.take k))/\Below w1.heap.size w1 wr) (fun _ i _=>u.length-(intOf i).toNat)
 case atStart=>exact⟨0,by omega,rfl,by rw[jeU,il,jdT];exact du.o,aO.o⟩
 case round =>
  obtain⟨k,hk,rfl,aA,az⟩:=hrel;have HO:=ae aA;have HB:=ae az;have bF:=az.size;clear aA az;by_cases aB:k<u.length
  ·have oZ:(k:Int)<(u.length:Int):=by omega
   obtain⟨b,off,Ad,hb,BW⟩:=HU1.o.sv.at aB;cases Ad
   have ek:=(HB.o.cell (p:=⟨b,off+k,none⟩) hb).trans BW;clear BW;have HX:=ae (HI.o.get aB);have jw:=(lT (HI.o.take k)).1;rw[jdC]at jw;have Fz:=fq (HI.o.get aB);cases k with
   | zero =>
    have HT:=ae (Dy aB);rw[jej]at ek;generalize il (u.take 0)=acc at *;generalize u[0]=x at *;go_wp2_with fail;refine(dm HX.o _).mono ?_;rintro e w3 ⟨⟨v3,rfl,ZT⟩,aS⟩;have dh:=ae ZT;have HOk:=ae (HO.o.kept aS);have bP:=ae (HB.o.trans (aS.mono bF));have iH:=bP.o.size;clear ZT aS;go_wp2_with (first | (at_builtin;refine ax rfl _ _ rfl w1.heap.size _ _ (un++acc) (wv x) rfl HOk.o rfl dh.o.sv ?c1 ?c2 ?_))
    case c1=>simp;omega
    case c2=>omega
    intro v4 w4 o4 b4;have o4':aD w4 w1.heap.size v4 (un++il (u.take 1)):=by rw[HT.o,← jdL];simpa using o4
    have eR:=ae o4';have cx:=ae (bP.o.trans b4);clear o4 o4' b4;go_wp2_with fail;go_roundw
    case rel=>exact⟨1,by omega,by go_num,eR.o,cx.o⟩
    case measure=>simp[intOf];omega
   | succ k =>
    obtain⟨b',off',Ad,_,ZU⟩:=HU1.o.sv.at (show k<u.length by omega);cases Ad
    have Yc:=(HB.o.cell (p:=⟨b,off+k,none⟩) hb).trans ZU;clear ZU;have yy:=ae (HI.o.get (show k<u.length by omega));have jU:u[k]<u[k+1]:=je5.1 HUR.o k (k+1) (by omega) aB (by omega);have HT:=ae (zt aB);have h1:=HX.o;have h2:=yy.o;unfold I64 at h1 h2;have hd:(u[k+1]-u[k]).toNat<18446744073709551616:=(by omega);have UH:=bM hd;have tn:=mz (u[k+1]-u[k]).toNat;have ql:(((k+1:Nat):Int)==0)=false:=jdG.2 (by omega);have hj1:(0:Int)<=(k:Int)+1:=(by omega);have LN:(k:Int)+1<(u.length:Int):=(by omega);have hj3:((k:Int)+1).toNat=k+1:=(by omega);have hj4:(0:Int)<=(k:Int):=(by omega);have hj5:(k:Int)<(u.length:Int):=(by omega);have hj6:IntKind.i64.wrap ((k:Int)+1-1)=(k:Int):=by rw[jd7];omega
    have hj7:(k:Int)+1-1=(k:Int):=(by omega);have Qs:IntKind.i64.wrap (k:Int)=(k:Int):=by rw[jd7];omega
    obtain⟨X,hX⟩:∃ X,IntKind.u64.wrap u[k+1]=X:=⟨_,rfl⟩;obtain⟨Y,hY⟩:∃ Y,IntKind.u64.wrap u[k]=Y:=⟨_,rfl⟩
    have hD:IntKind.u64.wrap (X-Y)=(((u[k+1]-u[k]).toNat:Nat):Int):=by
     rw[← hX,← hY,jd0,jd0,jd0];omega
    have kQ:=ae hd;clear h1 h2 hd jU;generalize u[k+1]=x at *;generalize u[k]=y at *;generalize il (u.take (k+1))=acc at *;generalize (x-y).toNat=d at *
    have em:jfp (∀ n W',Below wr.heap.size (wr.drewN n) W'->W'.cell? ⟨b,off+(k+1),none⟩=some (.int .i64 x)/\W'.cell? ⟨b,off+k,none⟩=some (.int .i64 y)/\aD W' w1.heap.size u6 (un++acc)/\Below w1.heap.size w1 W'/\w1.heap.size<=W'.heap.size):=ae (fun n W' h=>by
     have hb':Below wr.heap.size wr W':=(ap (jdv _ _) n).trans h;have lu:=HB.o.trans (hb'.mono bF);exact⟨(hb'.cell (p:=⟨b,off+(k+1),none⟩) (jdS hb bF)).trans ek,(hb'.cell (p:=⟨b,off+k,none⟩) (jdS hb bF)).trans Yc,HO.o.kept hb',lu,lu.size⟩)
    have bR:(un++acc).length+(uv d).length<=100000:=by simp;omega
    go_wp2_with fail
    go_region_held3 (fun w'=>w'.cell? ⟨b,off+(k+1),none⟩=some (.int .i64 x)/\w'.cell? ⟨b,off+k,none⟩=some (.int .i64 y)) (go_keep) (first
     | (go_at_call 45;refine(bG d kQ.o _).mono ?_;rintro e w2 ⟨⟨v2,rfl,cB⟩,aE⟩;obtain⟨Kx,py,hm3,hm4,hm5⟩:=em.o _ _ aE;have UO:=ae hm3;have PO:=ae hm4;have du:=ae cB;clear aE hm3 hm4 cB)
     | (refine po (by rfl) _ _ (by rfl) w1.heap.size _ _ _ (un++acc) (uv d) (by rfl) UO.o (by rfl) du.o tn bR hm5 ?_;intro v3 w3 o3 b3;have se:=(b3.cell (p:=⟨b,off+(k+1),none⟩) hb).trans Kx;have nj:=(b3.cell (p:=⟨b,off+k,none⟩) hb).trans py;have dh:=ae o3;have bP:=ae (PO.o.trans b3);clear o3 b3))
    all_goals go_wp2_with fail
    all_goals go_roundw
    case rel=>exact⟨k+1+1,by omega,by go_num,by rw[HT.o,← jdL];simpa using dh.o,bP.o⟩
    case measure=>simp[intOf];omega
  ·obtain rfl:k=u.length:=by omega
   have oZ:¬ (u.length:Int)<(u.length:Int):=(by omega);rw[jdE]at HO;have HUZ:=ae (HU1.o.kept HB.o);have qn:=ae (HS.o.kept (aQ.o.trans (HB.o.mono cP)));generalize wr=W5 at *;go_wp2_with fail;go_loopw [12,14] (fun vp i wr=>∃ k:Nat,k<=l.length/\i=.int .i64 (k:Int)/\dH wr W5.heap.size vp ((l.take k).map (pl u))/\Below W5.heap.size W5 wr) (fun _ i _=>l.length-(intOf i).toNat)
   case atStart=>exact⟨0,by omega,rfl,dH.nil _ _,jdv _ _⟩
   case round =>
    obtain⟨k,hk,rfl,hoP,hbP⟩:=hrel;have kl:=ae hoP;have YH:=ae hbP;have hzP:=hbP.size;clear hoP hbP;by_cases uI:k<l.length
    ·have Kt:(k:Int)<(l.length:Int):=by omega
     obtain⟨bl,offl,rfl,fT,eQ⟩:=(qn.o.kept YH.o).at uI;have HPLC:=ae (Ha (HUZ.o.kept YH.o).sv UN l[k] (Km.o _ (jdA uI)));have rP:=ae (jdM uI);obtain⟨ys,yz⟩:∃ ys,(l.take k).map (pl u)=ys:=⟨_,rfl⟩;have yv:ys.length<=256:=by rw[← yz,jdz,jdC];omega
     rw[yz]at kl;have Ko:=ae yz;clear yz;obtain⟨q,hq⟩:∃ q,pl u l[k]=q:=⟨_,rfl⟩;rw[hq]at HPLC;have HQ:=ae hq;clear hq;generalize l[k]=x at *;have nw:=ae (kl.o.kept (de wr (.cells #[.int .u64 (q:Int)] 92)));have fd:=ae (YH.o.alloc hzP (.cells #[.int .u64 (q:Int)] 92));go_wp2_with fail;refine HPLC.o.mono ?_;rintro e w8 ⟨rfl,rfl⟩;go_wp2_with (first | (at_builtin;refine jF rfl _ _ rfl W5.heap.size _ _ q ys rfl nw.o rfl (aK _ _ _) ?c2 ?c3 ?_))
     case c2=>omega
     case c3=>first | omega | (rw[jdx];omega)
     intro v7 w7 o7 b7;have iD:=ae o7;have io:=ae (fd.o.trans b7);clear o7 b7;go_wp2_with fail;go_roundw
     case rel =>
      refine⟨k+1,by omega,by go_num,?_,io.o⟩;rw[rP.o,jdQ,Ko.o,List.map_singleton,HQ.o];exact iD.o
     case measure=>simp[intOf];omega
    ·obtain rfl:k=l.length:=by omega
     have Kt:¬ (l.length:Int)<(l.length:Int):=(by omega);rw[jdE]at kl;obtain⟨P,hP⟩:∃ P,l.map (pl u)=P:=⟨_,rfl⟩;rw[hP]at kl UI HF HP;have yD:=ae (HO.o.kept YH.o);have YI:=ae (jO kl.o.sv.sx UI.o);have hps:=HP.o;have hsu:=HSU.o;clear hP;go_wp2_with fail;refine YI.o.mono ?_;rintro e w8 ⟨rfl,rfl⟩;go_wp2_with fail;refine(mG kl.o.sv.sx UI.o _).mono ?_;rintro e w9 ⟨v9,rfl,o9,pD⟩;have UJ:jfp (aD w9 w8.heap.size v9 (bi P (wd P:Int))):=o9;have HO19:=ae (yD.o.kept pD);have pF:=ae (HB.o.trans ((YH.o.trans (pD.mono hzP)).mono bF));have Yf:=pF.o.size;clear o9 pD;generalize bi P (wd P:Int)=PK at *;go_wp2_with (first | (at_builtin;refine ax rfl _ _ rfl w1.heap.size _ _ (un++il u) PK rfl HO19.o rfl UJ.o.sv ?d1 ?d2 ?_))
     case d1=>simp;omega
     case d2=>omega
     intro vA wA oA bA
     have nw:jfp (aD wA w.heap.size vA (pP l)):=ae (by
      rw[HF.o];have:=oA.low cP;simpa using this)
     have fd:=ae (aQ.o.trans ((pF.o.trans bA).mono cP));clear oA bA;go_wp2_with fail;go_ret2
     exact⟨⟨_,rfl,nw.o⟩,fd.o⟩
end Go.Proofs.YtpljdjmpamjkhaaGreatDoor
