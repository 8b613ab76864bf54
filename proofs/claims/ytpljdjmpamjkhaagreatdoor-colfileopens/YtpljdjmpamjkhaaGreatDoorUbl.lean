import Derived.Test.YtpljdjmpamjkhaaGreatDoorUbj
import Derived.Test.YtpljdjmpamjkhaaGreatDoorUbk
set_option linter.unusedVariables false
set_option linter.unusedSimpArgs false
set_option maxRecDepth 100000
set_option maxHeartbeats 8000000
namespace Go.Proofs.YtpljdjmpamjkhaaGreatDoor
open Go.RowKit Go.Lib
theorem xor8{a b:Nat}(ha:a<256)(hb:b<256):bits .xor .u8 (a:Int) (b:Int)=((a ^^^ b:Nat):Int):=u8_xor_nat a b ha hb
theorem Fi{w:World}(ht:Tab w):Calls Tryz.prog 9 #[] w fun e w'=>e=.returned (.bool true)/\Below w.heap.size w w':=by
 have HT:=ae ht;clear ht;go_enter Tryz.func9,Tryz.ntmps9
 go_wp2_with fail;refine(NX _).mono ?_;rintro e w1 ⟨⟨v1,rfl,o1⟩,aH⟩;obtain⟨a1,c1,rfl,_,_⟩:=bG o1;simp only[show fB.length=2 from rfl]at *;have aE:=ak w1 (.cells #[.int .u32 1,.slice a1 2 c1] 25);have bn:(w1.alloc (.cells #[.int .u32 1,.slice a1 2 c1] 25)).heap.size=w1.heap.size+1:=jdi _ _;obtain⟨x0,x1⟩:=bF w1 (.int .u32 1) (.slice a1 2 c1) 25;obtain⟨Ar,fO⟩:=TS (w1.alloc (.cells #[.int .u32 1,.slice a1 2 c1] 25));rw[bn]at Ar fO;have pd:=ai aH aE;have Cp:=ae (ai pd (fO.mono (Nat.le_of_eq bn)));have HW:=ae (ub (HT.o.kept Cp.o) ((o1.sf.kept aE).kept (fO.mono (Nat.le_of_eq bn))) Ar okA (show (1:Nat)<4294967296 by omega) (fun r hr=>(pt r hr).2) 1);rw[TO]at HW;simp only at HW;have HTW:=ae (HT.o.kept Cp.o);clear aH aE Ar fO pd o1 bn;go_wp2_with fail;refine HW.o.mono ?_;rintro e w6 ⟨⟨v6,rfl,o6⟩,dP⟩;have ng:=ae o6;have HT6:=ae (HTW.o.kept dP);have jc:=ae (ai Cp.o dP);have jb6:=o6.sv;obtain⟨a6,c6,rfl,_,_⟩:=bG o6;have iG:=ae (qj HT6.o jb6 bsA (by have:=jaQ.2;omega));have Yn:=ae jb6;clear dP o6 jb6 HW HTW Cp x0 x1;go_wp2_with fail;refine iG.o.mono ?_;rintro e w7 ⟨⟨c,hc,_⟩ | ⟨id,fs,g,gs,fp,fv,ho,rfl,uT,Qs⟩,jk⟩
 ·rw[YM]at hc;cases hc
 rw[YM]at ho;simp only[Except.ok.injEq,Prod.mk.injEq]at ho;obtain⟨rfl,rfl,rfl,rfl⟩:=ho;have xN:jfb (Fil w7 w6.heap.size fp 1 fv gsA):=ae uT;have xI:=ae Qs;have ic:=ae (ai jc.o jk);have HT7:=ae (HT6.o.kept jk);have HSV7:=ae (Yn.o.kept jk);have FS:=ae (xy xN.o (by rw[Xw];decide));rw[Xw]at FS;simp only[show (rA.length:Int)=2 from rfl]at FS;clear uT Qs jk iG Yn;go_wp2_with fail;refine FS.o.mono ?_;rintro e w8 ⟨rfl,kH⟩;have HF8:=ae (xN.o.kept kH);have Vf:=ae (xI.o.kept kH);have qo:=ae (ai ic.o kH);have HT8:=ae (HT7.o.kept kH);have HSV8:=ae (HSV7.o.kept kH);have se:=ae (BG HF8.o);simp only[show (gsA.length:Int)=2 from rfl]at se;clear kH FS xN xI HT7 HSV7;go_wp2_with fail;refine se.o.mono ?_;rintro e w8' ⟨rfl,rfl⟩;clear se
 have PB:=ae (JT (op:=1) (f:=1) (c:=(1,2,[])) (ks:=[]) HF8.o Vf.o.sf (rL _) (fun U rv r hU ie ZF=>eval1 rfl (rL U) jaX lenpA (Vf.o.sf.kept hU) ie ZF) (fun U rv sts hU hss hos=>may1 rfl (rL U) jaX (Vf.o.sf.kept hU) hss hos) (fun r hr=>by
  rw[Xw]at hr;exact⟨by have:=qy (pt r hr).1;rw[this];decide,(pt r hr).2⟩) (by rw[Xw];decide) (by decide) oksA 0 1 [rA2] (fun _=>⟨jaV.symm,jaW.symm⟩) (fun h=>absurd rfl h) (fun U hU=>by
  refine(jaY (op:=1) (f:=1) (c:=(1,2,[])) (ks:=[]) (si:=1) rfl rfl (rL U) jaX (Vf.o.sf.kept hU)).mono ?_;rintro e w' ⟨⟨n,rfl,hn⟩,hb⟩;have XS:=hn 1 1 (1,2,[]) rfl;rw[XS];exact⟨by rw[show mL fB (.node 1 1 (1,2,[]) [])=0 from jaR],hb⟩))
 simp only[iQ]at PB;go_wp2_with fail;refine PB.o.mono ?_;rintro e w9 ⟨⟨v9,l9,rfl,XM,hsn9⟩,pB⟩
 obtain⟨rv,rfl⟩:∃ rv,l9=[(rv,rA2)]:=by
  match l9,hsn9 with
  | [(rv,r)],h =>
   have:r=rA2:=by simpa using h
   exact⟨rv,by rw[this]⟩
 obtain⟨a9,c9,rfl,_,_⟩:=XM.form;obtain⟨g9,rfl,hg9,Vg,Vh⟩:=XM.at (k:=0) (show 0<1 by omega);simp only[jdn,jdI,jdK,jeV]at *;obtain⟨ra9,rc9,rfl,_,_⟩:=bG Vh;simp only[show rA2.length=2 from rfl]at *;have HR9:=ae Vh;have HCE:=ae Vg;have pD:=ae (ai qo.o pB);have HT9:=ae (HT8.o.kept pB);have HSV9:=ae (HSV8.o.kept pB);have HG9:=ae hg9;have Cx:=ae (dt w9 (.cells #[] 5));have LD:=ae (vJ w9);have tz:=ae (HSV9.o.kept Cx.o);have Po:=jaQ;clear pB XM hsn9 Vh Vg hg9 PB HSV8 HT8 HF8 Vf;go_wp2_with (first | (at_builtin;refine aU rfl _ _ rfl w9.heap.size _ _ [] bA rfl ?q1 rfl ?q2 ?k1 ?k2 ?_))
 case q1=>exact LD.o
 case q2=>exact tz.o
 case k1=>simp only[jdI];omega
 case k2=>rw[jdi];omega
 intro v10 w10 o10 b10 _ _;have ZI:=Cx.o.trans b10;obtain⟨g,cap,rfl,hBg,Pq⟩:=o10.form (by omega);obtain⟨dR,lC⟩:=o10.at Po.1;have hx5:=bsA _ (jdl Po.1);have VN:bits .xor .u8 ((bA[5]'Po.1:Nat):Int) 1=((bA[5]'Po.1 ^^^ 1:Nat):Int):=xor8 (b:=1) hx5 (by omega);have cT:=ae (o10.stored 5 (bA[5]'Po.1 ^^^ 1));have hB11:Below w9.heap.size w9 (w10.setCell ⟨g,5,none⟩ (.int .u8 ((bA[5]'Po.1 ^^^ 1:Nat):Int))):=ZI.setCell hBg _;have Yo:=ae hB11
 have HX8:jfb (Bs (bA.set 5 (bA[5]'Po.1 ^^^ 1))):=ae (fun x hx=>by
  rcases List.mem_or_eq_of_mem_set hx with h | rfl
  ·exact bsA x h
  ·have:bA[5]'Po.1 ^^^ 1<2 ^ 8:=je3 hx5 (by omega)
   omega)
 have HTU:=ae turnA;have Ps:jfb ((bA.set 5 (bA[5]'Po.1 ^^^ 1)).length=bA.length):=ae jeC;have HOP2:=ae (qj (HT9.o.kept hB11) cT.o.sv HX8.o (by rw[Ps.o];omega));have hlt5:(5:Int)<(bA.length:Int):=by omega
 clear Cx LD tz o10 b10 ZI hB11;generalize bA.set 5 (bA[5]'Po.1 ^^^ 1)=bB at *;generalize bA[5]'Po.1 ^^^ 1=z at *;generalize bA[5]'Po.1=y at *;go_wp2_with fail;refine HOP2.o.mono ?_;rintro e w12 ⟨⟨c,hc,rfl⟩ | ⟨id,fs,g',gs,fp',fv',ho,_⟩,pd⟩
 case inr=>rw[HTU.o]at ho;cases ho
 rw[HTU.o]at hc;obtain rfl:101=c:=by simpa using hc
 have Yp:=Yo.o.trans (pd.mono Yo.o.size);have bq:=(Yp.cell (p:=⟨g9,0,none⟩) HG9.o).trans HCE.o;have jV:=HR9.o.kept Yp;have Cp:=ae (ai pD.o Yp);have HC2:=ae (zB jV.sv BN (by decide));clear pd Yp hc HOP2 jV;go_wp2_with fail;refine HC2.o.mono ?_;rintro e w13 ⟨⟨v13,rfl,o13⟩,KH⟩;have Vi:=ae (ai Cp.o KH);have fO:=ak w13 (.cells #[.int .u8 1,.int .i64 2,.string ⟨#[]⟩,.int .u8 0,.int .i64 0,.string ⟨#[]⟩] 52);have xF:hO (w13.alloc (.cells #[.int .u8 1,.int .i64 2,.string ⟨#[]⟩,.int .u8 0,.int .i64 0,.string ⟨#[]⟩] 52)) w13.heap.size (.slice (some ⟨w13.heap.size,0,none⟩) 2 2) rA2:=jaU w13 rA2 (by decide);have Fy:=ae (DO (o13.sc.kept fO) xF.sc (fun c hc=>(BN c hc).bsA) (fun c hc=>(BN c hc).bsA));obtain⟨a13,c13,rfl,_,_⟩:=bG o13;have HBL2:=ae (ai Vi.o fO);simp only[show rA2.length=2 from rfl,decide_true]at *;clear o13 KH fO xF HC2 bq;go_wp2_with fail;refine Fy.o.mono ?_;rintro e w14 ⟨rfl,hb14⟩;have jb7:=ae (ai HBL2.o hb14);clear hb14;go_wp2_with fail;go_ret
 exact⟨rfl,jb7.o⟩
theorem Fj{s:List Nat}(c:Nat)(n:Int)(hc:(c:Int)≠1)(kF:(c:Int)≠2)(hl:s.length<=64)(h8:Bs s)(w:World) :
  Calls Tryz.prog 91 #[.agg #[.int .u8 (c:Int),.int .i64 n,.string (am s)]] w (dw w (uv s.length++s)):=by
 have HE:=ae (ru h8);have Kj:IntKind.u64.wrap (s.length:Int)=(s.length:Int):=by rw[jdL];omega
 have jx:(am s).size=s.length:=bm s;have HV:=ae (bD s.length (by omega));have uK:=bJ (n:=s.length) (by omega);have h1:((c:Int)==1)=false:=jdt.2 hc;have h2:((c:Int)==2)=false:=jdt.2 kF;obtain⟨x0,x1,x2⟩:=dH w (.int .u8 (c:Int)) (.int .i64 n) (.string (am s)) 52;have hz:w.heap.size<(w.alloc (.cells #[.int .u8 (c:Int),.int .i64 n,.string (am s)] 52)).heap.size:=by rw[jdi];omega
 have cE:=ae (ak w (.cells #[.int .u8 (c:Int),.int .i64 n,.string (am s)] 52));generalize hW:w.alloc (.cells #[.int .u8 (c:Int),.int .i64 n,.string (am s)] 52)=W at *
 have em:jfb (∀ n W',Below W.heap.size (W.drewN n) W'->W'.cell? ⟨w.heap.size,2,none⟩=some (.string (am s))/\Below W.heap.size W W'/\W.heap.size<=W'.heap.size):=ae (fun n W' h=>by
  have hb':Below W.heap.size W W':=(ar (jdg _ _) n).trans h;exact⟨(hb'.cell (p:=⟨w.heap.size,2,none⟩) hz).trans x2,hb',hb'.size⟩)
 generalize hP:uv s.length=P at *;have hPp:0<P.length:=by rw[← hP];exact mt _
 clear hP hc kF h8;go_enter Tryz.func91,Tryz.ntmps91
 go_wp2_with fail;try rw[hW]
 clear hW
 go_region_held3 (fun w'=>w'.cell? ⟨w.heap.size,2,none⟩=some (.string (am s))) (go_keep) (first
  | (go_at_call 45;refine(HV.o _).mono ?_;rintro e w2 ⟨⟨v2,rfl,cz⟩,aE⟩;obtain⟨Kv,oW,hm3⟩:=em.o _ _ aE;have KA:=ae oW;have du:=ae cz;clear aE oW cz)
  | (refine mU (by rfl) _ _ (by rfl) W.heap.size _ P (am s) (by rfl) ?_ (by rfl) ?_ ?_ ?_;exact(be du.o (by simp));omega;omega;intro v3 w3 o3 b3;have sg:=(b3.cell (p:=⟨w.heap.size,2,none⟩) hz).trans Kv;have cZ:=ae o3;have bN:=ae (KA.o.trans b3);clear o3 b3))
 all_goals go_wp2_with fail
 all_goals go_ret
 all_goals rw[HE.o]at cZ
 all_goals exact⟨⟨_,rfl,be cZ.o cE.o.size⟩,ai cE.o bN.o⟩
theorem Pb{n:Int}(h:I64 n)(w:World):Calls Tryz.prog 91 #[.agg #[.int .u8 1,.int .i64 n,.string ⟨#[]⟩]] w (dw w (wv n)):=by
 have HV:=ae (dm h);obtain⟨x0,x1,x2⟩:=dH w (.int .u8 1) (.int .i64 n) (.string ⟨#[]⟩) 52;have cE:=ae (ak w (.cells #[.int .u8 1,.int .i64 n,.string ⟨#[]⟩] 52));go_enter Tryz.func91,Tryz.ntmps91
 go_wp2_with fail;refine(HV.o _).mono ?_;rintro e w1 ⟨⟨v1,rfl,o1⟩,aH⟩;have HO:=ae o1;have HB:=ae aH;clear o1 aH;go_wp2_with fail;go_ret
 exact⟨⟨_,rfl,be HO.o cE.o.size⟩,ai cE.o HB.o⟩
theorem Pc{n:Nat}(h:n<2)(w:World):Calls Tryz.prog 91 #[.agg #[.int .u8 2,.int .i64 (n:Int),.string ⟨#[]⟩]] w (dw w [n]):=by
 obtain⟨x0,x1,x2⟩:=dH w (.int .u8 2) (.int .i64 (n:Int)) (.string ⟨#[]⟩) 52;have Kj:IntKind.u8.wrap (n:Int)=(n:Int):=by rw[IntKind.wrap_u8];omega
 have cE:=ae (ak w (.cells #[.int .u8 2,.int .i64 (n:Int),.string ⟨#[]⟩] 52));have HL:=ae (cF (w.alloc (.cells #[.int .u8 2,.int .i64 (n:Int),.string ⟨#[]⟩] 52)) n);have aR:=ae (ak (w.alloc (.cells #[.int .u8 2,.int .i64 (n:Int),.string ⟨#[]⟩] 52)) (.cells #[.int .u8 (n:Int)] 5));have hz:(w.alloc (.cells #[.int .u8 2,.int .i64 (n:Int),.string ⟨#[]⟩] 52)).heap.size=w.heap.size+1:=jdi _ _;go_enter Tryz.func91,Tryz.ntmps91
 go_wp2_with fail;go_ret
 have H1:=be HL.o cE.o.size;rw[hz]at H1;exact⟨⟨_,rfl,H1⟩,ai cE.o aR.o⟩
theorem Fk{c:Cl}(h:aV c)(w:World):Calls Tryz.prog 91 #[.agg #[.int .u8 (c.1:Int),.int .i64 c.2.1,.string (am c.2.2)]] w (dw w (gx c)):=by
 rcases h with rfl | ⟨n,rfl,h1⟩ | ⟨n,rfl,h1⟩ | ⟨s,rfl,h1,h2⟩
 ·have:=Fj (s:=[]) 0 0 (by decide) (by decide) (by simp) (fun x hx=>by simp at hx) w
  exact this
 ·have:=Pb h1 w
  exact this
 ·have:=Pc h1 w
  have e:gx ((2,(n:Int),[]):Cl)=[n]:=by
   unfold gx;rw[jde (by simp),jdf (by simp)];simp only;congr 1
   omega
  rw[e];exact this
 ·have:=Fj (s:=s) 3 0 (by decide) (by decide) h1 h2 w
  exact this
theorem xB{st:Stt}(h1:aV st.lo)(h2:aV st.hi)(hn:∃ n:Nat,st.nulls=(n:Int)/\n<=1000000)(Zz:st.some=false->st.high=false)(w:World):Calls Tryz.prog 48 #[uC st] w (dw w (ew st)):=by
 obtain⟨n,hn,Zi⟩:=hn;obtain⟨r,nu,so,hi,lo,hh⟩:=st;simp only at hn h1 h2 Zz;subst hn;have HC:=ae (bD n (by omega));have HL:=ae (Fk h1);have HH:=ae (Fk h2);have Za:=mb h1;have BZ:=mb h2;have hu:=bJ (n:=n) (by omega);have Kj:IntKind.u64.wrap (n:Int)=(n:Int):=by rw[jdL];omega
 have HE:jfb (ew ⟨r,(n:Int),so,hi,lo,hh⟩=uv n++[yk ⟨r,(n:Int),so,hi,lo,hh⟩]++((if so=true then gx lo else [])++(if hi=true then gx hh else []))):=ae (by unfold ew;rw[jdM]);have HFG:jfb (yk ⟨r,(n:Int),so,hi,lo,hh⟩=(if so=true then 1 else 0)+(if hi=true then 2 else 0)):=ae rfl;rw[HFG.o]at HE;clear HFG;obtain⟨SB,hSB⟩:∃ SB,ew ⟨r,(n:Int),so,hi,lo,hh⟩=SB:=⟨_,rfl⟩;rw[hSB]at HE ⊢;clear hSB;unfold uC;have cE:=ae (ak w (.cells #[.int .i64 r,.int .i64 (n:Int),.bool so,.bool hi,.int .u8 (lo.1:Int),.int .i64 lo.2.1,.string (am lo.2.2),.int .u8 (hh.1:Int),.int .i64 hh.2.1,.string (am hh.2.2)] 54));have hz:w.heap.size<(w.alloc (.cells #[.int .i64 r,.int .i64 (n:Int),.bool so,.bool hi,.int .u8 (lo.1:Int),.int .i64 lo.2.1,.string (am lo.2.2),.int .u8 (hh.1:Int),.int .i64 hh.2.1,.string (am hh.2.2)] 54)).heap.size:=by rw[jdi];omega
 have jU:=jdH w (.cells #[.int .i64 r,.int .i64 (n:Int),.bool so,.bool hi,.int .u8 (lo.1:Int),.int .i64 lo.2.1,.string (am lo.2.2),.int .u8 (hh.1:Int),.int .i64 hh.2.1,.string (am hh.2.2)] 54);generalize hW:w.alloc (.cells #[.int .i64 r,.int .i64 (n:Int),.bool so,.bool hi,.int .u8 (lo.1:Int),.int .i64 lo.2.1,.string (am lo.2.2),.int .u8 (hh.1:Int),.int .i64 hh.2.1,.string (am hh.2.2)] 54)=W at *;generalize lo.1=l0 at *;generalize lo.2.1=l1 at *;generalize am lo.2.2=l2 at *;generalize hh.1=h0 at *;generalize hh.2.1=h1' at *;generalize am hh.2.2=h2' at *;generalize gx lo=BL at *;generalize gx hh=BH at *
 have HT:jfb (∀ U,Below W.heap.size W U->U.cell? ⟨w.heap.size,1,none⟩=some (.int .i64 (n:Int))/\U.cell? ⟨w.heap.size,2,none⟩=some (.bool so)/\U.cell? ⟨w.heap.size,3,none⟩=some (.bool hi)/\U.cell? ⟨w.heap.size,4,none⟩=some (.int .u8 (l0:Int))/\U.cell? ⟨w.heap.size,5,none⟩=some (.int .i64 l1)/\U.cell? ⟨w.heap.size,6,none⟩=some (.string l2)/\U.cell? ⟨w.heap.size,7,none⟩=some (.int .u8 (h0:Int))/\U.cell? ⟨w.heap.size,8,none⟩=some (.int .i64 h1')/\U.cell? ⟨w.heap.size,9,none⟩=some (.string h2')):=ae (fun U hb=>by
  have hU:=(hb.block w.heap.size hz).trans jU;refine⟨?_,?_,?_,?_,?_,?_,?_,?_,?_⟩<;>(rw[ay hU];rfl))
 clear jU;have HZW:=ae hz;generalize uv n=P at *;obtain⟨x1,x2,x3,x4,x5,x6,x7,x8,x9⟩:=HT.o W (jdg _ _);go_enter Tryz.func48,Tryz.ntmps48
 go_wp2_with fail;try rw[hW]
 clear hW;refine(HC.o _).mono ?_;rintro e w1 ⟨⟨v1,rfl,o1⟩,aH⟩;have fC:jfb (aD w1 W.heap.size v1 P):=ae o1;have aR:=ae aH;clear o1 aH x1 x2 x3 x4 x5 x6 x7 x8 x9;obtain⟨x1,x2,x3,x4,x5,x6,x7,x8,x9⟩:=HT.o w1 aR.o;have cY:=aR.o.size;obtain⟨pa,pc,rfl,_,_⟩:=bG fC.o;cases so with
 | false =>
  have Kl:=Zz rfl;subst Kl;go_wp2_with (first | (at_builtin;refine aU rfl _ _ rfl W.heap.size _ _ P [0] rfl ?qa1 rfl ?qb1 ?c1 ?c2 ?_))
  case qa1=>exact(fC.o.kept (ak _ _))
  case qb1=>exact(cF w1 0).sv
  case c1=>simp only[jdS];omega
  case c2=>rw[jdi];omega
  intro v2 w2 o2 b2 _ _;have du:=ae o2;have aO:=ae ((aR.o.alloc cY _).trans b2);clear o2 b2;go_wp2_with fail;go_ret
  have HQ:aD w2 W.heap.size v2 SB:=by rw[HE.o];simpa using du.o
  exact⟨⟨_,rfl,be HQ (by omega)⟩,ai cE.o aO.o⟩
 | true =>
  cases hi with
  | true =>
   go_wp2_with (first | (at_builtin;refine aU rfl _ _ rfl W.heap.size _ _ P [3] rfl ?qa2 rfl ?qb2 ?c1 ?c2 ?_))
   case qa2=>exact(fC.o.kept (ak _ _))
   case qb2=>exact(cF w1 3).sv
   case c1=>simp only[jdS];omega
   case c2=>rw[jdi];omega
   intro v2 w2 o2 b2 _ _;have du:=ae o2;have aO:=ae ((aR.o.alloc cY _).trans b2);clear o2 b2 x1 x2 x3 x4 x5 x6 x7 x8 x9;obtain⟨x1,x2,x3,x4,x5,x6,x7,x8,x9⟩:=HT.o w2 aO.o;go_wp2_with fail;refine(HL.o _).mono ?_;rintro e w3 ⟨⟨v3,rfl,o3⟩,aQ⟩;have cZ:=ae o3;have Kz:=ae (du.o.kept aQ);have bN:=ae (ai aO.o aQ);have iD:=bN.o.size;clear o3 aQ x1 x2 x3 x4 x5 x6 x7 x8 x9 du;obtain⟨x1,x2,x3,x4,x5,x6,x7,x8,x9⟩:=HT.o w3 bN.o;go_wp2_with (first | (at_builtin;refine aU rfl _ _ rfl W.heap.size _ _ (P++[3]) BL rfl ?qa3 rfl ?qb3 ?c3 ?c4 ?_))
   case qa3=>exact Kz.o
   case qb3=>exact cZ.o.sv
   case c3=>simp only[jdn,jdI,jdj];omega
   case c4=>exact iD
   intro v4 w4 o4 b4 _ _;have eR:=ae o4;have ce:=ae (bN.o.trans b4);clear o4 b4 x1 x2 x3 x4 x5 x6 x7 x8 x9;obtain⟨x1,x2,x3,x4,x5,x6,x7,x8,x9⟩:=HT.o w4 ce.o;go_wp2_with fail;refine(HH.o _).mono ?_;rintro e w5 ⟨⟨v5,rfl,o5⟩,br⟩;have dJ:=ae o5;have HP5:=ae (eR.o.kept br);have aS:=ae (ai ce.o br);have vk:=aS.o.size;clear o5 br x1 x2 x3 x4 x5 x6 x7 x8 x9 eR;go_wp2_with (first | (at_builtin;refine aU rfl _ _ rfl W.heap.size _ _ (P++3::BL) BH rfl ?qa4 rfl ?qb4 ?c5 ?c6 ?_))
   case qa4=>exact HP5.o
   case qb4=>exact dJ.o.sv
   case c5=>simp only[jdn,jdj];omega
   case c6=>exact vk
   intro v6 w6 o6 b6 _ _;have ng:=ae o6;have jc:=ae (aS.o.trans b6);clear o6 b6;go_wp2_with fail;go_ret
   have HQ:aD w6 W.heap.size v6 SB:=by rw[HE.o];simpa using ng.o
   exact⟨⟨_,rfl,be HQ (by omega)⟩,ai cE.o jc.o⟩
  | false =>
   go_wp2_with (first | (at_builtin;refine aU rfl _ _ rfl W.heap.size _ _ P [1] rfl ?qa5 rfl ?qb5 ?c1 ?c2 ?_))
   case qa5=>exact(fC.o.kept (ak _ _))
   case qb5=>exact(cF w1 1).sv
   case c1=>simp only[jdS];omega
   case c2=>rw[jdi];omega
   intro v2 w2 o2 b2 _ _;have du:=ae o2;have aO:=ae ((aR.o.alloc cY _).trans b2);clear o2 b2 x1 x2 x3 x4 x5 x6 x7 x8 x9;obtain⟨x1,x2,x3,x4,x5,x6,x7,x8,x9⟩:=HT.o w2 aO.o;go_wp2_with fail;refine(HL.o _).mono ?_;rintro e w3 ⟨⟨v3,rfl,o3⟩,aQ⟩;have cZ:=ae o3;have Kz:=ae (du.o.kept aQ);have bN:=ae (ai aO.o aQ);have iD:=bN.o.size;clear o3 aQ x1 x2 x3 x4 x5 x6 x7 x8 x9 du;go_wp2_with (first | (at_builtin;refine aU rfl _ _ rfl W.heap.size _ _ (P++[1]) BL rfl ?qa6 rfl ?qb6 ?c3 ?c4 ?_))
   case qa6=>exact Kz.o
   case qb6=>exact cZ.o.sv
   case c3=>simp only[jdn,jdI,jdj];omega
   case c4=>exact iD
   intro v4 w4 o4 b4 _ _;have eR:=ae o4;have ce:=ae (bN.o.trans b4);clear o4 b4;go_wp2_with fail;go_ret
   have HQ:aD w4 W.heap.size v4 SB:=by rw[HE.o];simpa using eR.o
   exact⟨⟨_,rfl,be HQ (by omega)⟩,ai cE.o ce.o⟩
theorem uG{w:World}{v:Value}{rs:List Row}(hs:Sr w v rs)(hl:rs.length<=1000){k:Nat}(hk:∀ r∈rs,k<r.length) :
  Calls Tryz.prog 26 #[v,.int .i64 (k:Int)] w fun e w'=>(∃ v',e=.returned v'/\hO w' w.heap.size v' (cV rs k))/\Below w.heap.size w w':=by
 have HS:=ae hs;have HK:=ae hk;obtain⟨a,cap,rfl,aY,bx⟩:=hs.form;have hcm':cap<=9223372036854775807:=by unfold maxLen at bx;omega
 have eQ:(cV rs k).length=rs.length:=dr rs k;obtain⟨D,hD⟩:∃ D,cV rs k=D:=⟨_,rfl⟩;have PG:jfb (∀ j (h:j<rs.length),∃ h2:j<D.length,D[j]=rs[j].getD k nul):=ae (fun j h=>by subst hD;exact⟨by omega,by simp[cV]⟩);rw[hD]at eQ ⊢;have pw:=ae eQ;clear hs bx hk hD eQ;go_enter Tryz.func26,Tryz.ntmps26
 go_wp2_with fail;go_loopw [5,6] (fun o i wr=>∃ j:Nat,j<=rs.length/\i=.int .i64 (j:Int)/\hO wr w.heap.size o (D.take j)/\Below w.heap.size w wr) (fun _ i _=>rs.length-(intOf i).toNat)
 case atStart=>exact⟨0,by omega,rfl,hO.nil _ _,jdg _ _⟩
 case round =>
  obtain⟨j,hj,rfl,aA,az⟩:=hrel;have HO:=ae aA;have HB:=ae az;have bP:=az.size;clear aA az;by_cases aC:j<rs.length
  ·obtain⟨g,off,rv,rfl,hg,bq,LQ⟩:=(HS.o.kept HB.o).at aC
   obtain⟨hjD,hDj⟩:=PG.o j aC;have pu:=HK.o _ (jdl aC);obtain⟨ra,rc,rfl,XY,PP⟩:=LQ.form;obtain⟨b2,o2,rfl,aE,x0,x1,x2⟩:=LQ.at pu;have dR:rs[j].getD k nul=rs[j][k]:=by rw[List.getD_eq_getElem?_getD,List.getElem?_eq_getElem pu];rfl
   rw[dR]at hDj;have hrc2':rc<=9223372036854775807:=by unfold maxLen at PP;omega
   have hlt':(j:Int)<(rs.length:Int):=(by omega);have hkl':(k:Int)<(rs[j].length:Int):=(by omega);have nh:jfb (D.take (j+1)=D.take j++[D[j]]):=ae (jdx hjD);have hlen':(D.take j).length<=100000:=by rw[jdo];omega
   rw[hDj]at nh;generalize rs[j][k]=fc at *;generalize D.take j=LL at *;generalize rs[j].length=rl at *;have mY:=ae (dH wr (.int .u8 (fc.1:Int)) (.int .i64 fc.2.1) (txt fc.2.2) 52);clear LQ hDj dR;unfold txt at *;go_wp2_with (first | (at_builtin;refine mQ rfl _ _ rfl w.heap.size _ _ fc LL rfl (HO.o.kept (ak _ _)) rfl mY.o.1 mY.o.2.1 mY.o.2.2 hlen' ?c2 ?_))
   case c2=>first | omega | (rw[jdi];omega)
   intro v' w5 o5 b5;have dJ:=ae o5;have aS:=ae ((HB.o.alloc bP _).trans b5);clear o5 b5;go_wp2_with fail;go_roundw
   case rel=>exact⟨j+1,by omega,by go_num,by rw[nh.o];exact dJ.o,aS.o⟩
   case measure=>simp[intOf];omega
  ·obtain rfl:j=rs.length:=by omega
   rw[← pw.o,jdp]at HO;have gL:¬ ((rs.length:Nat):Int)<(rs.length:Int):=(by omega);go_wp2_with fail;go_ret
   exact⟨⟨_,rfl,HO.o⟩,HB.o⟩
theorem Sr.cut{W:World}{b off n cap:Nat}{rs:List Row}(h:Sr W (.slice (some ⟨b,off,none⟩) n cap) rs){i m:Nat}(him:i+m<=rs.length):Sr W (.slice (some ⟨b,off+i,none⟩) m (cap-i)) ((rs.drop i).take m):=by
 obtain⟨a',cap',e,h1,h2,h4⟩:=h;simp only[Value.slice.injEq]at e;obtain⟨rfl,_,rfl⟩:=e;have hl:((rs.drop i).take m).length=m:=by rw[jdo,jdN];omega
 refine⟨_,cap-i,by rw[hl],by omega,by unfold maxLen at *;omega,fun h0=>?_⟩;obtain⟨b',off',e,h5,h6⟩:=h4 (by omega);cases e
 refine⟨b,off+i,rfl,h5,fun j hj=>?_⟩;obtain⟨rv,h7,h8⟩:=h6 (i+j) (by omega);refine⟨rv,by rw[jeo];exact h7,?_⟩;have:((rs.drop i).take m)[j]=rs[i+j]'(by omega):=by simp
 rw[this];exact h8
def YO(W:World)(gs:List (Value×List Row)):Prop:=∀ x∈gs,Sr W x.1 x.2
theorem Xz:(Tryz.prog.info? 26).map (fun i=>(i.zero,i.size,i.bytes))=some (some (.slice none 0 0),1,24):=by kernel_rfl
theorem uH{w0 w:World}{v:Value}{rs:List Row}(yy:Sr w0 v rs)(lm:Below w0.heap.size w0 w)(hl:rs.length<=1000){g:Nat}(eS:1<=g)(gM:g<=64) :
  Calls Tryz.prog 46 #[v,.int .i64 (g:Int)] w fun e w'=>(∃ v' gs,e=.returned v'/\w'.ownsRow w.heap.size 26 1 v' gs.length (gs.map Prod.fst)/\YO w0 gs/\gs.map Prod.snd=Ja g rs)/\Below w.heap.size w w':=by
 obtain⟨i0,hi,cm,hz1',bn⟩:=jdA Xz;have HS:=ae yy;obtain⟨a,cap,rfl,aY,bx⟩:=yy.form;have hcm':cap<=9223372036854775807:=by unfold maxLen at bx;omega
 have VQ:=ae (fun j=>kD (n:=rs.length) (j:=j) (show 0<g by omega));have HPR:jfb (Ja g rs=(List.range (nps g rs.length)).map (prt g rs)):=ae rfl;rw[HPR.o];clear HPR
 have rS:jfb (nps g rs.length<=1000):=ae (by
  rcases jdJ 1000 (nps g rs.length)with h | h
  ·have:=(VQ.o 1000).1 h
   have:1000*1<=1000*g:=jei _ eS;omega
  ·exact h)
 generalize nps g rs.length=N at *;clear yy lm bx;go_enter Tryz.func46,Tryz.ntmps46
 go_wp2_with fail;go_loopw [5,6] (fun o i wr=>∃(j:Nat) (gs:List (Value×List Row)),j<=N/\i=.int .i64 ((j*g:Nat):Int)/\gs.map Prod.snd=(List.range j).map (prt g rs)/\wr.ownsRow w.heap.size 26 1 o gs.length (gs.map Prod.fst)/\YO w0 gs/\Below w.heap.size w wr) (fun _ i _=>rs.length+64-(intOf i).toNat)
 case atStart=>exact⟨0,[],by omega,by simp,rfl,jd8 _ _ _ _,fun x hx=>by simp at hx,jdg _ _⟩
 case round =>
  obtain⟨j,gs,hj,rfl,vE,aA,Pp,az⟩:=hrel;have HO:=ae aA;have HB:=ae az;have tz:=ae vE;have Ye:gs.length=j:=by have:=jdm List.length vE;simpa using this
  have HGL:=ae Ye;have bP:=az.size;obtain⟨la,lc,rfl,Za,BZ⟩:=bG aA;have Fy:=ae HS.o;have HSS:=ae Pp;clear aA az vE Ye Pp;by_cases aC:j<N
  ·have hjg:=(VQ.o j).1 aC
   obtain⟨b,off,rv,rfl,hb,_⟩:=Fy.o.at hjg;obtain⟨p,hp⟩:∃ p,j*g=p:=⟨_,rfl⟩;have HP:=ae hp;have HPA:jfb ((j+1)*g=p+g):=ae (by rw[jdV,jem,hp]);rw[hp]at hjg ⊢;obtain⟨m,hm⟩:∃ m,min rs.length (p+g)-p=m:=⟨_,rfl⟩;have Qq:min (rs.length:Int) ((p:Int)+(g:Int))=((p+m:Nat):Int):=(by omega)
   have HPT:jfb (prt g rs j=(rs.drop p).take m):=ae (by
    unfold prt;rw[hp];apply List.ext_getElem?
    intro q;rw[List.getElem?_take,List.getElem?_take,List.getElem?_drop];by_cases h1:q<g
    ·rw[jdf h1]
     by_cases h2:q<m
     ·rw[jdf h2]
     ·rw[jde h2,List.getElem?_eq_none (by omega)]
    ·rw[jde h1,jde (by omega)])
   have HCU:=ae (Fy.o.cut (i:=p) (m:=m) (by omega));have hjg':(p:Int)<(rs.length:Int):=(by omega);have hlt':((p:Nat):Int)<=((p+m:Nat):Int):=(by omega);have hpc:((p+m:Nat):Int)<=(cap:Int):=(by omega);have hpm:((p+m:Nat):Int).toNat=p+m:=(by omega);have hpn:((p:Nat):Int).toNat=p:=(by omega);have hdm:p+m-p=m:=(by omega);have hw1:IntKind.i64.wrap ((p:Int)+(g:Int))=(p:Int)+(g:Int):=by rw[jdR];omega
   have hd2:((p+m:Nat):Int)-(p:Int)=(m:Int):=(by omega);have hgl3:gs.length<=1000:=by have:=HGL.o;have:=rS.o;omega
   have mY:=ae (aL wr (.slice (some ⟨b,off+p,none⟩) m (cap-p)) 26);clear hm hp;go_wp2_with (first | (at_builtin;refine jdU (w:=_) rfl _ _ 93 rfl w.heap.size 26 i0 (.slice none 0 0) 1 24 Tryz.underlying93 hi cm hz1' bn rfl (by decide) (.slice la gs.length lc) gs.length (gs.map Prod.fst) rfl ?q0 ⟨wr.heap.size,0,none⟩ 1 1 [.slice (some ⟨b,off+p,none⟩) m (cap-p)] rfl rfl ?q1 ?q2 ?q3 ?q4 ?q5 ?_))
   case q0=>exact bI HO.o (ak _ _)
   case q1 =>
    intro j2 u hu;rw[mq];cases j2 with
    | zero =>
     simp only[List.getElem?_cons_zero,Option.some.injEq]at hu;rw[← hu];exact mY.o
    | succ j2=>simp at hu
   case q2 =>
    intro u hu;rw[jd5.1 hu];rfl
   case q3=>unfold maxLen;omega
   case q4=>omega
   case q5=>rw[jdi];omega
   intro v' w5 o5 g5 _ e5;have dJ:=ae o5;have aS:=ae ((HB.o.alloc bP (.cells #[.slice (some ⟨b,off+p,none⟩) m (cap-p)] 26)).grown g5 (by rw[jdi];omega) (fun k hk=>(World.ownsRow.lt (bI HO.o (ak wr (.cells #[.slice (some ⟨b,off+p,none⟩) m (cap-p)] 26))) k hk).1));clear o5 g5 e5;go_wp2_with fail;go_roundw
   case rel =>
    refine⟨j+1,gs++[(.slice (some ⟨b,off+p,none⟩) m (cap-p),prt g rs j)],by omega,by rw[HPA.o];rfl,by rw[jdC,tz.o,jey,jdC];rfl,?_,fun x hx=>?_,aS.o⟩
    ·rw[jdj,jdC]
     exact dJ.o
    ·rcases jdO.1 hx with hx | hx
     ·exact HSS.o x hx
     ·rw[jd5.1 hx,HPT.o]
      exact HCU.o
   case measure=>simp[intOf];omega
  ·have hjN:¬ j*g<rs.length:=fun h=>aC ((VQ.o j).2 h)
   obtain rfl:j=N:=by omega
   obtain⟨p,hp⟩:∃ p,j*g=p:=⟨_,rfl⟩;rw[hp]at hjN ⊢;have gL:¬ (p:Int)<(rs.length:Int):=(by omega);go_wp2_with fail;go_ret
   first | exact⟨⟨_,gs,rfl,HO.o,HSS.o,tz.o⟩,HB.o⟩ | exact⟨⟨_,rfl,gs,HO.o,HSS.o,tz.o⟩,HB.o⟩
theorem Fl{w:World}{v:Value}{l:List Int}(hs:Sv w v (aK l))(hl:l.length<=256)(hi:Is l) :
  Calls Tryz.prog 135 #[.int .i64 3,v] w (mC (pO l) w):=by
 have HI:jfb (Is (cG l)):=lL hi;have HS:=ae hs;have PD:=ae (wN hs hl);have HF:jfb (pO l=uv (cG l).length++(ia (cG l)++bg (l.map (pl (cG l))) (wd (l.map (pl (cG l))):Int))):=rfl;have HUR:=ae (gP l);have Kk:jfb (∀ x∈l,x∈cG l):=fun x hx=>gi.2 hx
 have Ur:jfb (∀ x∈l.map (pl (cG l)),x<18446744073709551616):=wI hl;have uK:=fF l;have hps:=kV (p:=l.map (pl (cG l))) (x:=(wd (l.map (pl (cG l))):Int)) (by rw[jdk];omega);have HSU:=ae (lP (lL hi)).1;obtain⟨a,cap,rfl,aY,bx⟩:=hs.form;have ve:¬ (l.length:Int) > 256:=by omega
 clear hs hi aY bx;generalize cG l=u at *;have HP:=ae hps;clear hps;go_enter Tryz.func135,Tryz.ntmps135
 go_wp2_with fail;refine PD.o.mono ?_;rintro e w1 ⟨⟨vu,rfl,ou⟩,aH⟩;have HU1:=ae ou;have aR:=ae aH;have cY:=aH.size;obtain⟨au,cu,rfl⟩:=ou.len;clear ou aH;have Uv:u.length<=256:=by omega
 go_wp2_with fail;refine(bD u.length (by omega) _).mono ?_;rintro e w2 ⟨⟨v2,rfl,o2⟩,aE⟩;have du:=ae o2;have aO:=ae aE;clear o2 aE;have nk:=bJ (n:=u.length) (by omega);generalize uv u.length=un at *;go_wp2_with fail;go_loopw [6,13] (fun b i wr=>∃ k:Nat,k<=u.length/\i=.int .i64 (k:Int)/\aD wr w1.heap.size b (un++ia (u.take k))/\Below w1.heap.size w1 wr) (fun _ i _=>u.length-(intOf i).toNat)
 case atStart=>exact⟨0,by omega,rfl,by rw[jeF,ia,jdB];exact du.o,aO.o⟩
 case round =>
  obtain⟨k,hk,rfl,aA,az⟩:=hrel;have HO:=ae aA;have HB:=ae az;have bP:=az.size;clear aA az;by_cases aC:k<u.length
  ·have mO:(k:Int)<(u.length:Int):=by omega
   obtain⟨b,off,Ae,hb,Cd⟩:=HU1.o.sv.at aC;cases Ae
   have dR:=(HB.o.cell (p:=⟨b,off+k,none⟩) hb).trans Cd;clear Cd;have HX:=ae (HI.o.get aC);have jx:=(lP (HI.o.take k)).1;rw[jdo]at jx;have Fx:=fh (HI.o.get aC);cases k with
   | zero =>
    have HT:=ae (DC aC);rw[jd9]at dR;generalize ia (u.take 0)=acc at *;generalize u[0]=x at *;go_wp2_with fail;refine(dm HX.o _).mono ?_;rintro e w3 ⟨⟨v3,rfl,ZJ⟩,aQ⟩;have cZ:=ae ZJ;have HOk:=ae (HO.o.kept aQ);have bN:=ae (HB.o.trans (aQ.mono bP));have iD:=bN.o.size;clear ZJ aQ;go_wp2_with (first | (at_builtin;refine ax rfl _ _ rfl w1.heap.size _ _ (un++acc) (wv x) rfl HOk.o rfl cZ.o.sv ?c1 ?c2 ?_))
    case c1=>simp;omega
    case c2=>omega
    intro v4 w4 o4 b4;have o4':aD w4 w1.heap.size v4 (un++ia (u.take 1)):=by rw[HT.o,← jdw];simpa using o4
    have eR:=ae o4';have ce:=ae (bN.o.trans b4);clear o4 o4' b4;go_wp2_with fail;go_roundw
    case rel=>exact⟨1,by omega,by go_num,eR.o,ce.o⟩
    case measure=>simp[intOf];omega
   | succ k =>
    obtain⟨b',off',Ae,_,ZK⟩:=HU1.o.sv.at (show k<u.length by omega);cases Ae
    have XK:=(HB.o.cell (p:=⟨b,off+k,none⟩) hb).trans ZK;clear ZK;have yA:=ae (HI.o.get (show k<u.length by omega));have jJ:u[k]<u[k+1]:=jeT.1 HUR.o k (k+1) (by omega) aC (by omega);have HT:=ae (zu aC);have h1:=HX.o;have h2:=yA.o;unfold I64 at h1 h2;have hd:(u[k+1]-u[k]).toNat<18446744073709551616:=(by omega);have Uq:=bJ hd;have tq:=mt (u[k+1]-u[k]).toNat;have qm:(((k+1:Nat):Int)==0)=false:=jdt.2 (by omega);have hj1:(0:Int)<=(k:Int)+1:=(by omega);have Qd:(k:Int)+1<(u.length:Int):=(by omega);have hj3:((k:Int)+1).toNat=k+1:=(by omega);have hj4:(0:Int)<=(k:Int):=(by omega);have hj5:(k:Int)<(u.length:Int):=(by omega);have hj6:IntKind.i64.wrap ((k:Int)+1-1)=(k:Int):=by rw[jdR];omega
    have hj7:(k:Int)+1-1=(k:Int):=(by omega);have Qe:IntKind.i64.wrap (k:Int)=(k:Int):=by rw[jdR];omega
    obtain⟨X,hX⟩:∃ X,IntKind.u64.wrap u[k+1]=X:=⟨_,rfl⟩;obtain⟨Y,hY⟩:∃ Y,IntKind.u64.wrap u[k]=Y:=⟨_,rfl⟩
    have hD:IntKind.u64.wrap (X-Y)=(((u[k+1]-u[k]).toNat:Nat):Int):=by
     rw[← hX,← hY,jdL,jdL,jdL];omega
    have kM:=ae hd;clear h1 h2 hd jJ;generalize u[k+1]=x at *;generalize u[k]=y at *;generalize ia (u.take (k+1))=acc at *;generalize (x-y).toNat=d at *
    have em:jfb (∀ n W',Below wr.heap.size (wr.drewN n) W'->W'.cell? ⟨b,off+(k+1),none⟩=some (.int .i64 x)/\W'.cell? ⟨b,off+k,none⟩=some (.int .i64 y)/\aD W' w1.heap.size u6 (un++acc)/\Below w1.heap.size w1 W'/\w1.heap.size<=W'.heap.size):=ae (fun n W' h=>by
     have hb':Below wr.heap.size wr W':=(ar (jdg _ _) n).trans h;have lm:=HB.o.trans (hb'.mono bP);exact⟨(hb'.cell (p:=⟨b,off+(k+1),none⟩) (jdD hb bP)).trans dR,(hb'.cell (p:=⟨b,off+k,none⟩) (jdD hb bP)).trans XK,HO.o.kept hb',lm,lm.size⟩)
    have bR:(un++acc).length+(uv d).length<=100000:=by simp;omega
    go_wp2_with fail
    go_region_held3 (fun w'=>w'.cell? ⟨b,off+(k+1),none⟩=some (.int .i64 x)/\w'.cell? ⟨b,off+k,none⟩=some (.int .i64 y)) (go_keep) (first
     | (go_at_call 45;refine(bD d kM.o _).mono ?_;rintro e w2 ⟨⟨v2,rfl,cz⟩,aE⟩;obtain⟨Kv,oW,hm3,hm4,hm5⟩:=em.o _ _ aE;have Uw:=ae hm3;have Px:=ae hm4;have du:=ae cz;clear aE hm3 hm4 cz)
     | (refine pj (by rfl) _ _ (by rfl) w1.heap.size _ _ _ (un++acc) (uv d) (by rfl) Uw.o (by rfl) du.o tq bR hm5 ?_;intro v3 w3 o3 b3;have sg:=(b3.cell (p:=⟨b,off+(k+1),none⟩) hb).trans Kv;have nc:=(b3.cell (p:=⟨b,off+k,none⟩) hb).trans oW;have cZ:=ae o3;have bN:=ae (Px.o.trans b3);clear o3 b3))
    all_goals go_wp2_with fail
    all_goals go_roundw
    case rel=>exact⟨k+1+1,by omega,by go_num,by rw[HT.o,← jdw];simpa using cZ.o,bN.o⟩
    case measure=>simp[intOf];omega
  ·obtain rfl:k=u.length:=by omega
   have mO:¬ (u.length:Int)<(u.length:Int):=(by omega);rw[jdp]at HO;have HUZ:=ae (HU1.o.kept HB.o);have rS:=ae (HS.o.kept (aR.o.trans (HB.o.mono cY)));generalize wr=W5 at *;go_wp2_with fail;go_loopw [12,14] (fun vp i wr=>∃ k:Nat,k<=l.length/\i=.int .i64 (k:Int)/\dD wr W5.heap.size vp ((l.take k).map (pl u))/\Below W5.heap.size W5 wr) (fun _ i _=>l.length-(intOf i).toNat)
   case atStart=>exact⟨0,by omega,rfl,dD.nil _ _,jdg _ _⟩
   case round =>
    obtain⟨k,hk,rfl,hoP,hbP⟩:=hrel;have iG:=ae hoP;have Yq:=ae hbP;have hzP:=hbP.size;clear hoP hbP;by_cases uO:k<l.length
    ·have Kr:(k:Int)<(l.length:Int):=by omega
     obtain⟨bl,offl,rfl,fO,eQ⟩:=(rS.o.kept Yq.o).at uO;have HPLC:=ae (GW (HUZ.o.kept Yq.o).sv Uv l[k] (Kk.o _ (jdl uO)));have rP:=ae (jdx uO);obtain⟨ys,yB⟩:∃ ys,(l.take k).map (pl u)=ys:=⟨_,rfl⟩;have yx:ys.length<=256:=by rw[← yB,jdk,jdo];omega
     rw[yB]at iG;have Km:=ae yB;clear yB;obtain⟨q,hq⟩:∃ q,pl u l[k]=q:=⟨_,rfl⟩;rw[hq]at HPLC;have HQ:=ae hq;clear hq;generalize l[k]=x at *;have nm:=ae (iG.o.kept (dd wr (.cells #[.int .u64 (q:Int)] 92)));have eY:=ae (Yq.o.alloc hzP (.cells #[.int .u64 (q:Int)] 92));go_wp2_with fail;refine HPLC.o.mono ?_;rintro e w8 ⟨rfl,rfl⟩;go_wp2_with (first | (at_builtin;refine jE rfl _ _ rfl W5.heap.size _ _ q ys rfl nm.o rfl (aL _ _ _) ?c2 ?c3 ?_))
     case c2=>omega
     case c3=>first | omega | (rw[jdi];omega)
     intro v7 w7 o7 b7;have iy:=ae o7;have ic:=ae (eY.o.trans b7);clear o7 b7;go_wp2_with fail;go_roundw
     case rel =>
      refine⟨k+1,by omega,by go_num,?_,ic.o⟩;rw[rP.o,jdC,Km.o,List.map_singleton,HQ.o];exact iy.o
     case measure=>simp[intOf];omega
    ·obtain rfl:k=l.length:=by omega
     have Kr:¬ (l.length:Int)<(l.length:Int):=(by omega);rw[jdp]at iG;obtain⟨P,hP⟩:∃ P,l.map (pl u)=P:=⟨_,rfl⟩;rw[hP]at iG Ur HF HP;have yF:=ae (HO.o.kept Yq.o);have Yr:=ae (jP iG.o.sv.sx Ur.o);have hps:=HP.o;have hsu:=HSU.o;clear hP;go_wp2_with fail;refine Yr.o.mono ?_;rintro e w8 ⟨rfl,rfl⟩;go_wp2_with fail;refine(mA iG.o.sv.sx Ur.o _).mono ?_;rintro e w9 ⟨v9,rfl,o9,pB⟩;have Us:jfb (aD w9 w8.heap.size v9 (bg P (wd P:Int))):=o9;have HO19:=ae (yF.o.kept pB);have pD:=ae (HB.o.trans ((Yq.o.trans (pB.mono hzP)).mono bP));have XN:=pD.o.size;clear o9 pB;generalize bg P (wd P:Int)=PK at *;go_wp2_with (first | (at_builtin;refine ax rfl _ _ rfl w1.heap.size _ _ (un++ia u) PK rfl HO19.o rfl Us.o.sv ?d1 ?d2 ?_))
     case d1=>simp;omega
     case d2=>omega
     intro vA wA oA bA
     have nm:jfb (aD wA w.heap.size vA (pO l)):=ae (by
      rw[HF.o];have:=oA.low cY;simpa using this)
     have eY:=ae (aR.o.trans ((pD.o.trans bA).mono cY));clear oA bA;go_wp2_with fail;go_ret2
     exact⟨⟨_,rfl,nm.o⟩,eY.o⟩
end Go.Proofs.YtpljdjmpamjkhaaGreatDoor
