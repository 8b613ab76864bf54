import Derived.Test.YtpljdjmpamjkhaaGreatDoorYbt
import Derived.Test.YtpljdjmpamjkhaaGreatDoorYbu
import Derived.Test.YtpljdjmpamjkhaaGreatDoorYax
import Derived.Test.YtpljdjmpamjkhaaGreatDoorYak
import Derived.Test.YtpljdjmpamjkhaaGreatDoorYbf
import Derived.Test.YtpljdjmpamjkhaaGreatDoorYbm
set_option linter.unusedVariables false
set_option linter.unusedSimpArgs false
set_option maxRecDepth 100000
set_option maxHeartbeats 8000000
namespace Go.Proofs.YtpljdjmpamjkhaaGreatDoor
open Go.RowKit Go.Lib
theorem xor8{a b:Nat}(ha:a<256)(hb:b<256):bits .xor .u8 (a:Int) (b:Int)=((a ^^^ b:Nat):Int):=u8_xor_nat a b ha hb
theorem Ec{w:World}(ht:Tab w):Calls Tryz.prog 9 #[] w fun e w'=>e=.returned (.bool true)/\Below w.heap.size w w':=by
 have HT:=ae ht;clear ht;go_enter Tryz.func9,Tryz.ntmps9
 go_wp2_with fail;refine(LX _).mono ?_;rintro e w1 ⟨⟨v1,rfl,o1⟩,aG⟩;obtain⟨a1,c1,rfl,_,_⟩:=bF o1;simp only[show fy.length=2 from rfl]at *;have aD:=ak w1 (.cells #[.int .u32 1,.slice a1 2 c1] 25);have bm:(w1.alloc (.cells #[.int .u32 1,.slice a1 2 c1] 25)).heap.size=w1.heap.size+1:=ZS _ _;obtain⟨x0,x1⟩:=bE w1 (.int .u32 1) (.slice a1 2 c1) 25;obtain⟨zU,fM⟩:=Q0 (w1.alloc (.cells #[.int .u32 1,.slice a1 2 c1] 25));rw[bm]at zU fM;have oN:=ai aG aD;have BF:=ae (ai oN (fM.mono (Nat.le_of_eq bm)));have HW:=ae (tG (HT.out.kept BF.out) ((o1.sf.kept aD).kept (fM.mono (Nat.le_of_eq bm))) zU okA (show (1:Nat)<4294967296 by omega) (fun r hr=>(pb r hr).2) 1);rw[QW]at HW;simp only at HW;have HTW:=ae (HT.out.kept BF.out);clear aG aD zU fM oN o1 bm;go_wp2_with fail;refine HW.out.mono ?_;rintro e w6 ⟨⟨v6,rfl,o6⟩,dN⟩;have mU:=ae o6;have HT6:=ae (HTW.out.kept dN);have i5:=ae (ai BF.out dN);have YI:=o6.sv;obtain⟨a6,c6,rfl,_,_⟩:=bF o6;have iE:=ae (pV HT6.out YI bsA (by have:=Xs.2;omega));have U9:=ae YI;clear dN o6 YI HW HTW BF x0 x1;go_wp2_with fail;refine iE.out.mono ?_;rintro e w7 ⟨⟨c,hc,_⟩ | ⟨id,fs,g,gs,fp,fv,ho,rfl,uy,Na⟩,jd⟩
 ·rw[Vy]at hc;cases hc
 rw[Vy]at ho;simp only[Except.ok.injEq,Prod.mk.injEq]at ho;obtain⟨rfl,rfl,rfl,rfl⟩:=ho;have xq:Hid (Fil w7 w6.heap.size fp 1 fv gsA):=ae uy;have xl:=ae Na;have ia:=ae (ai i5.out jd);have ZN:=ae (HT6.out.kept jd);have HSV7:=ae (U9.out.kept jd);have EM:=ae (wX xq.out (by rw[Uq];decide));rw[Uq]at EM;simp only[show (rA.length:Int)=2 from rfl]at EM;clear uy Na jd iE U9;go_wp2_with fail;refine EM.out.mono ?_;rintro e w8 ⟨rfl,kA⟩;have XQ:=ae (xq.out.kept kA);have Se:=ae (xl.out.kept kA);have p6:=ae (ai ia.out kA);have HT8:=ae (ZN.out.kept kA);have HSV8:=ae (HSV7.out.kept kA);have rJ:=ae (A6 XQ.out);simp only[show (gsA.length:Int)=2 from rfl]at rJ;clear kA EM xq xl ZN HSV7;go_wp2_with fail;refine rJ.out.mono ?_;rintro e w8' ⟨rfl,rfl⟩;clear rJ
 have Mv:=ae (G0 (op:=1) (f:=1) (c:=(1,2,[])) (ks:=[]) XQ.out Se.out.sf (rp _) (fun U rv r hU ib Wi=>eval1 rfl (rp U) Xz lenpA (Se.out.sf.kept hU) ib Wi) (fun U rv sts hU hss hos=>may1 rfl (rp U) Xz (Se.out.sf.kept hU) hss hos) (fun r hr=>by
  rw[Uq]at hr;exact⟨by have:=qg (pb r hr).1;rw[this];decide,(pb r hr).2⟩) (by rw[Uq];decide) (by decide) oksA 0 1 [rA2] (fun _=>⟨Xx.symm,Xy.symm⟩) (fun h=>absurd rfl h) (fun U hU=>by
  refine(XA (op:=1) (f:=1) (c:=(1,2,[])) (ks:=[]) (si:=1) rfl rfl (rp U) Xz (Se.out.sf.kept hU)).mono ?_;rintro e w' ⟨⟨n,rfl,hn⟩,hb⟩;have UM:=hn 1 1 (1,2,[]) rfl;rw[UM];exact⟨by rw[show mC fy (.node 1 1 (1,2,[]) [])=0 from Xt],hb⟩))
 simp only[iO]at Mv;go_wp2_with fail;refine Mv.out.mono ?_;rintro e w9 ⟨⟨v9,l9,rfl,UG,hsn9⟩,pg⟩
 obtain⟨rv,rfl⟩:∃ rv,l9=[(rv,rA2)]:=by
  match l9,hsn9 with
  | [(rv,r)],h =>
   have:r=rA2:=by simpa using h
   exact⟨rv,by rw[this]⟩
 obtain⟨a9,c9,rfl,_,_⟩:=UG.form;obtain⟨g9,rfl,hg9,Sg,Sh⟩:=UG.at (k:=0) (show 0<1 by omega);simp only[ZW,jad,jaf,jbj]at *;obtain⟨ra9,rc9,rfl,_,_⟩:=bF Sh;simp only[show rA2.length=2 from rfl]at *;have HR9:=ae Sh;have HCE:=ae Sg;have pi:=ae (ai p6.out pg);have HT9:=ae (HT8.out.kept pg);have HSV9:=ae (HSV8.out.kept pg);have HG9:=ae hg9;have BQ:=ae (dq w9 (.cells #[] 5));have J0:=ae (uO w9);have sY:=ae (HSV9.out.kept BQ.out);have Mi:=Xs;clear pg UG hsn9 Sh Sg hg9 Mv HSV8 HT8 XQ Se;go_wp2_with (first | (at_builtin;refine aT rfl _ _ rfl w9.heap.size _ _ [] bA rfl ?q1 rfl ?q2 ?k1 ?k2 ?_))
 case q1=>exact J0.out
 case q2=>exact sY.out
 case k1=>simp only[jad];omega
 case k2=>rw[ZS];omega
 intro v10 w10 o10 b10 _ _;have Wl:=BQ.out.trans b10;obtain⟨g,cap,rfl,hBg,Mk⟩:=o10.form (by omega);obtain⟨dP,lv⟩:=o10.at Mi.1;have hx5:=bsA _ (ZV Mi.1);have SY:bits .xor .u8 ((bA[5]'Mi.1:Nat):Int) 1=((bA[5]'Mi.1 ^^^ 1:Nat):Int):=xor8 (b:=1) hx5 (by omega);have cP:=ae (o10.stored 5 (bA[5]'Mi.1 ^^^ 1));have hB11:Below w9.heap.size w9 (w10.setCell ⟨g,5,none⟩ (.int .u8 ((bA[5]'Mi.1 ^^^ 1:Nat):Int))):=Wl.setCell hBg _;have Va:=ae hB11
 have X5:Hid (Bs (bA.set 5 (bA[5]'Mi.1 ^^^ 1))):=ae (fun x hx=>by
  rcases List.mem_or_eq_of_mem_set hx with h | rfl
  ·exact bsA x h
  ·have:bA[5]'Mi.1 ^^^ 1<2 ^ 8:=jbr hx5 (by omega)
   omega)
 have HTU:=ae turnA;have Mm:Hid ((bA.set 5 (bA[5]'Mi.1 ^^^ 1)).length=bA.length):=ae ja4;have HOP2:=ae (pV (HT9.out.kept hB11) cP.out.sv X5.out (by rw[Mm.out];omega));have hlt5:(5:Int)<(bA.length:Int):=by omega
 clear BQ J0 sY o10 b10 Wl hB11;generalize bA.set 5 (bA[5]'Mi.1 ^^^ 1)=bB at *;generalize bA[5]'Mi.1 ^^^ 1=z at *;generalize bA[5]'Mi.1=y at *;go_wp2_with fail;refine HOP2.out.mono ?_;rintro e w12 ⟨⟨c,hc,rfl⟩ | ⟨id,fs,g',gs,fp',fv',ho,_⟩,oN⟩
 case inr=>rw[HTU.out]at ho;cases ho
 rw[HTU.out]at hc;obtain rfl:101=c:=by simpa using hc
 have Vb:=Va.out.trans (oN.mono Va.out.size);have bo:=(Vb.cell (p:=⟨g9,0,none⟩) HG9.out).trans HCE.out;have jO:=HR9.out.kept Vb;have BF:=ae (ai pi.out Vb);have Yf:=ae (zc jO.sv Bc (by decide));clear oN Vb hc HOP2 jO;go_wp2_with fail;refine Yf.out.mono ?_;rintro e w13 ⟨⟨v13,rfl,o13⟩,Jf⟩;have Si:=ae (ai BF.out Jf);have fM:=ak w13 (.cells #[.int .u8 1,.int .i64 2,.string ⟨#[]⟩,.int .u8 0,.int .i64 0,.string ⟨#[]⟩] 52);have xh:gY (w13.alloc (.cells #[.int .u8 1,.int .i64 2,.string ⟨#[]⟩,.int .u8 0,.int .i64 0,.string ⟨#[]⟩] 52)) w13.heap.size (.slice (some ⟨w13.heap.size,0,none⟩) 2 2) rA2:=Xw w13 rA2 (by decide);have Et:=ae (C7 (o13.sc.kept fM) xh.sc (fun c hc=>(Bc c hc).bsA) (fun c hc=>(Bc c hc).bsA));obtain⟨a13,c13,rfl,_,_⟩:=bF o13;have HBL2:=ae (ai Si.out fM);simp only[show rA2.length=2 from rfl,decide_true]at *;clear o13 Jf fM xh Yf bo;go_wp2_with fail;refine Et.out.mono ?_;rintro e w14 ⟨rfl,hb14⟩;have YJ:=ae (ai HBL2.out hb14);clear hb14;go_wp2_with fail;go_ret
 exact⟨rfl,YJ.out⟩
theorem Ed{s:List Nat}(c:Nat)(n:Int)(hc:(c:Int)≠1)(kx:(c:Int)≠2)(hl:s.length<=64)(h8:Bs s)(w:World) :
  Calls Tryz.prog 91 #[.agg #[.int .u8 (c:Int),.int .i64 n,.string (am s)]] w (du w (uv s.length++s)):=by
 have HE:=ae (qR h8);have Hj:IntKind.u64.wrap (s.length:Int)=(s.length:Int):=by rw[jag];omega
 have jq:(am s).size=s.length:=bi s;have HV:=ae (bC s.length (by omega));have uj:=bI (n:=s.length) (by omega);have h1:((c:Int)==1)=false:=Z1.2 hc;have h2:((c:Int)==2)=false:=Z1.2 kx;obtain⟨x0,x1,x2⟩:=dF w (.int .u8 (c:Int)) (.int .i64 n) (.string (am s)) 52;have hz:w.heap.size<(w.alloc (.cells #[.int .u8 (c:Int),.int .i64 n,.string (am s)] 52)).heap.size:=by rw[ZS];omega
 have cC:=ae (ak w (.cells #[.int .u8 (c:Int),.int .i64 n,.string (am s)] 52));generalize hW:w.alloc (.cells #[.int .u8 (c:Int),.int .i64 n,.string (am s)] 52)=W at *
 have ei:Hid (∀ n W',Below W.heap.size (W.drewN n) W'->W'.cell? ⟨w.heap.size,2,none⟩=some (.string (am s))/\Below W.heap.size W W'/\W.heap.size<=W'.heap.size):=ae (fun n W' h=>by
  have hb':Below W.heap.size W W':=(below_drewN (ZQ _ _) n).trans h;exact⟨(hb'.cell (p:=⟨w.heap.size,2,none⟩) hz).trans x2,hb',hb'.size⟩)
 generalize hP:uv s.length=P at *;have hPp:0<P.length:=by rw[← hP];exact mg _
 clear hP hc kx h8;go_enter Tryz.func91,Tryz.ntmps91
 go_wp2_with fail;try rw[hW]
 clear hW
 go_region_held3 (fun w'=>w'.cell? ⟨w.heap.size,2,none⟩=some (.string (am s))) (go_keep) (first
  | (go_at_call 45;refine(HV.out _).mono ?_;rintro e w2 ⟨⟨v2,rfl,cx⟩,aD⟩;obtain⟨Hv,oI,X1⟩:=ei.out _ _ aD;have H6:=ae oI;have dr:=ae cx;clear aD oI cx)
  | (refine mL (by rfl) _ _ (by rfl) W.heap.size _ P (am s) (by rfl) ?_ (by rfl) ?_ ?_ ?_;exact(aZ dr.out (by simp));omega;omega;intro v3 w3 o3 b3;have rK:=(b3.cell (p:=⟨w.heap.size,2,none⟩) hz).trans Hv;have cX:=ae o3;have bM:=ae (H6.out.trans b3);clear o3 b3))
 all_goals go_wp2_with fail
 all_goals go_ret
 all_goals rw[HE.out]at cX
 all_goals exact⟨⟨_,rfl,aZ cX.out cC.out.size⟩,ai cC.out bM.out⟩
theorem L6{n:Int}(h:I64 n)(w:World):Calls Tryz.prog 91 #[.agg #[.int .u8 1,.int .i64 n,.string ⟨#[]⟩]] w (du w (wv n)):=by
 have HV:=ae (di h);obtain⟨x0,x1,x2⟩:=dF w (.int .u8 1) (.int .i64 n) (.string ⟨#[]⟩) 52;have cC:=ae (ak w (.cells #[.int .u8 1,.int .i64 n,.string ⟨#[]⟩] 52));go_enter Tryz.func91,Tryz.ntmps91
 go_wp2_with fail;refine(HV.out _).mono ?_;rintro e w1 ⟨⟨v1,rfl,o1⟩,aG⟩;have HO:=ae o1;have HB:=ae aG;clear o1 aG;go_wp2_with fail;go_ret
 exact⟨⟨_,rfl,aZ HO.out cC.out.size⟩,ai cC.out HB.out⟩
theorem L7{n:Nat}(h:n<2)(w:World):Calls Tryz.prog 91 #[.agg #[.int .u8 2,.int .i64 (n:Int),.string ⟨#[]⟩]] w (du w [n]):=by
 obtain⟨x0,x1,x2⟩:=dF w (.int .u8 2) (.int .i64 (n:Int)) (.string ⟨#[]⟩) 52;have Hj:IntKind.u8.wrap (n:Int)=(n:Int):=by rw[IntKind.wrap_u8];omega
 have cC:=ae (ak w (.cells #[.int .u8 2,.int .i64 (n:Int),.string ⟨#[]⟩] 52));have HL:=ae (cD (w.alloc (.cells #[.int .u8 2,.int .i64 (n:Int),.string ⟨#[]⟩] 52)) n);have aQ:=ae (ak (w.alloc (.cells #[.int .u8 2,.int .i64 (n:Int),.string ⟨#[]⟩] 52)) (.cells #[.int .u8 (n:Int)] 5));have hz:(w.alloc (.cells #[.int .u8 2,.int .i64 (n:Int),.string ⟨#[]⟩] 52)).heap.size=w.heap.size+1:=ZS _ _;go_enter Tryz.func91,Tryz.ntmps91
 go_wp2_with fail;go_ret
 have H1:=aZ HL.out cC.out.size;rw[hz]at H1;exact⟨⟨_,rfl,H1⟩,ai cC.out aQ.out⟩
theorem Ee{c:Cl}(h:aU c)(w:World):Calls Tryz.prog 91 #[.agg #[.int .u8 (c.1:Int),.int .i64 c.2.1,.string (am c.2.2)]] w (du w (gq c)):=by
 rcases h with rfl | ⟨n,rfl,h1⟩ | ⟨n,rfl,h1⟩ | ⟨s,rfl,h1,h2⟩
 ·have:=Ed (s:=[]) 0 0 (by decide) (by decide) (by simp) (fun x hx=>by simp at hx) w
  exact this
 ·have:=L6 h1 w
  exact this
 ·have:=L7 h1 w
  have e:gq ((2,(n:Int),[]):Cl)=[n]:=by
   unfold gq;rw[if_neg (by simp),if_pos (by simp)];simp only;congr 1
   omega
  rw[e];exact this
 ·have:=Ed (s:=s) 3 0 (by decide) (by decide) h1 h2 w
  exact this
theorem xd{st:Stt}(h1:aU st.lo)(h2:aU st.hi)(hn:∃ n:Nat,st.nulls=(n:Int)/\n<=1000000)(Wc:st.some=false->st.high=false)(w:World):Calls Tryz.prog 48 #[ua st] w (du w (es st)):=by
 obtain⟨n,hn,VU⟩:=hn;obtain⟨r,nu,so,hi,lo,hh⟩:=st;simp only at hn h1 h2 Wc;subst hn;have HC:=ae (bC n (by omega));have HL:=ae (Ee h1);have HH:=ae (Ee h2);have VM:=lT h1;have Bo:=lT h2;have hu:=bI (n:=n) (by omega);have Hj:IntKind.u64.wrap (n:Int)=(n:Int):=by rw[jag];omega
 have HE:Hid (es ⟨r,(n:Int),so,hi,lo,hh⟩=uv n++[xO ⟨r,(n:Int),so,hi,lo,hh⟩]++((if so=true then gq lo else [])++(if hi=true then gq hh else []))):=ae (by unfold es;rw[jah]);have HFG:Hid (xO ⟨r,(n:Int),so,hi,lo,hh⟩=(if so=true then 1 else 0)+(if hi=true then 2 else 0)):=ae rfl;rw[HFG.out]at HE;clear HFG;obtain⟨SB,hSB⟩:∃ SB,es ⟨r,(n:Int),so,hi,lo,hh⟩=SB:=⟨_,rfl⟩;rw[hSB]at HE ⊢;clear hSB;unfold ua;have cC:=ae (ak w (.cells #[.int .i64 r,.int .i64 (n:Int),.bool so,.bool hi,.int .u8 (lo.1:Int),.int .i64 lo.2.1,.string (am lo.2.2),.int .u8 (hh.1:Int),.int .i64 hh.2.1,.string (am hh.2.2)] 54));have hz:w.heap.size<(w.alloc (.cells #[.int .i64 r,.int .i64 (n:Int),.bool so,.bool hi,.int .u8 (lo.1:Int),.int .i64 lo.2.1,.string (am lo.2.2),.int .u8 (hh.1:Int),.int .i64 hh.2.1,.string (am hh.2.2)] 54)).heap.size:=by rw[ZS];omega
 have jN:=heap_alloc_new w (.cells #[.int .i64 r,.int .i64 (n:Int),.bool so,.bool hi,.int .u8 (lo.1:Int),.int .i64 lo.2.1,.string (am lo.2.2),.int .u8 (hh.1:Int),.int .i64 hh.2.1,.string (am hh.2.2)] 54);generalize hW:w.alloc (.cells #[.int .i64 r,.int .i64 (n:Int),.bool so,.bool hi,.int .u8 (lo.1:Int),.int .i64 lo.2.1,.string (am lo.2.2),.int .u8 (hh.1:Int),.int .i64 hh.2.1,.string (am hh.2.2)] 54)=W at *;generalize lo.1=l0 at *;generalize lo.2.1=l1 at *;generalize am lo.2.2=l2 at *;generalize hh.1=h0 at *;generalize hh.2.1=h1' at *;generalize am hh.2.2=h2' at *;generalize gq lo=BL at *;generalize gq hh=BH at *
 have HT:Hid (∀ U,Below W.heap.size W U->U.cell? ⟨w.heap.size,1,none⟩=some (.int .i64 (n:Int))/\U.cell? ⟨w.heap.size,2,none⟩=some (.bool so)/\U.cell? ⟨w.heap.size,3,none⟩=some (.bool hi)/\U.cell? ⟨w.heap.size,4,none⟩=some (.int .u8 (l0:Int))/\U.cell? ⟨w.heap.size,5,none⟩=some (.int .i64 l1)/\U.cell? ⟨w.heap.size,6,none⟩=some (.string l2)/\U.cell? ⟨w.heap.size,7,none⟩=some (.int .u8 (h0:Int))/\U.cell? ⟨w.heap.size,8,none⟩=some (.int .i64 h1')/\U.cell? ⟨w.heap.size,9,none⟩=some (.string h2')):=ae (fun U hb=>by
  have hU:=(hb.block w.heap.size hz).trans jN;refine⟨?_,?_,?_,?_,?_,?_,?_,?_,?_⟩<;>(rw[ax hU];rfl))
 clear jN;have HZW:=ae hz;generalize uv n=P at *;obtain⟨x1,x2,x3,x4,x5,x6,x7,x8,x9⟩:=HT.out W (ZQ _ _);go_enter Tryz.func48,Tryz.ntmps48
 go_wp2_with fail;try rw[hW]
 clear hW;refine(HC.out _).mono ?_;rintro e w1 ⟨⟨v1,rfl,o1⟩,aG⟩;have fA:Hid (aC w1 W.heap.size v1 P):=ae o1;have aQ:=ae aG;clear o1 aG x1 x2 x3 x4 x5 x6 x7 x8 x9;obtain⟨x1,x2,x3,x4,x5,x6,x7,x8,x9⟩:=HT.out w1 aQ.out;have cW:=aQ.out.size;obtain⟨pa,pc,rfl,_,_⟩:=bF fA.out;cases so with
 | false =>
  have Hl:=Wc rfl;subst Hl;go_wp2_with (first | (at_builtin;refine aT rfl _ _ rfl W.heap.size _ _ P [0] rfl ?qa1 rfl ?qb1 ?c1 ?c2 ?_))
  case qa1=>exact(fA.out.kept (ak _ _))
  case qb1=>exact(cD w1 0).sv
  case c1=>simp only[jan];omega
  case c2=>rw[ZS];omega
  intro v2 w2 o2 b2 _ _;have dr:=ae o2;have aN:=ae ((aQ.out.alloc cW _).trans b2);clear o2 b2;go_wp2_with fail;go_ret
  have HQ:aC w2 W.heap.size v2 SB:=by rw[HE.out];simpa using dr.out
  exact⟨⟨_,rfl,aZ HQ (by omega)⟩,ai cC.out aN.out⟩
 | true =>
  cases hi with
  | true =>
   go_wp2_with (first | (at_builtin;refine aT rfl _ _ rfl W.heap.size _ _ P [3] rfl ?qa2 rfl ?qb2 ?c1 ?c2 ?_))
   case qa2=>exact(fA.out.kept (ak _ _))
   case qb2=>exact(cD w1 3).sv
   case c1=>simp only[jan];omega
   case c2=>rw[ZS];omega
   intro v2 w2 o2 b2 _ _;have dr:=ae o2;have aN:=ae ((aQ.out.alloc cW _).trans b2);clear o2 b2 x1 x2 x3 x4 x5 x6 x7 x8 x9;obtain⟨x1,x2,x3,x4,x5,x6,x7,x8,x9⟩:=HT.out w2 aN.out;go_wp2_with fail;refine(HL.out _).mono ?_;rintro e w3 ⟨⟨v3,rfl,o3⟩,aP⟩;have cX:=ae o3;have Hz:=ae (dr.out.kept aP);have bM:=ae (ai aN.out aP);have iB:=bM.out.size;clear o3 aP x1 x2 x3 x4 x5 x6 x7 x8 x9 dr;obtain⟨x1,x2,x3,x4,x5,x6,x7,x8,x9⟩:=HT.out w3 bM.out;go_wp2_with (first | (at_builtin;refine aT rfl _ _ rfl W.heap.size _ _ (P++[3]) BL rfl ?qa3 rfl ?qb3 ?c3 ?c4 ?_))
   case qa3=>exact Hz.out
   case qb3=>exact cX.out.sv
   case c3=>simp only[ZW,jad,ZT];omega
   case c4=>exact iB
   intro v4 w4 o4 b4 _ _;have eP:=ae o4;have b9:=ae (bM.out.trans b4);clear o4 b4 x1 x2 x3 x4 x5 x6 x7 x8 x9;obtain⟨x1,x2,x3,x4,x5,x6,x7,x8,x9⟩:=HT.out w4 b9.out;go_wp2_with fail;refine(HH.out _).mono ?_;rintro e w5 ⟨⟨v5,rfl,o5⟩,bq⟩;have dH:=ae o5;have HP5:=ae (eP.out.kept bq);have aR:=ae (ai b9.out bq);have uG:=aR.out.size;clear o5 bq x1 x2 x3 x4 x5 x6 x7 x8 x9 eP;go_wp2_with (first | (at_builtin;refine aT rfl _ _ rfl W.heap.size _ _ (P++3::BL) BH rfl ?qa4 rfl ?qb4 ?c5 ?c6 ?_))
   case qa4=>exact HP5.out
   case qb4=>exact dH.out.sv
   case c5=>simp only[ZW,ZT];omega
   case c6=>exact uG
   intro v6 w6 o6 b6 _ _;have mU:=ae o6;have i5:=ae (aR.out.trans b6);clear o6 b6;go_wp2_with fail;go_ret
   have HQ:aC w6 W.heap.size v6 SB:=by rw[HE.out];simpa using mU.out
   exact⟨⟨_,rfl,aZ HQ (by omega)⟩,ai cC.out i5.out⟩
  | false =>
   go_wp2_with (first | (at_builtin;refine aT rfl _ _ rfl W.heap.size _ _ P [1] rfl ?qa5 rfl ?qb5 ?c1 ?c2 ?_))
   case qa5=>exact(fA.out.kept (ak _ _))
   case qb5=>exact(cD w1 1).sv
   case c1=>simp only[jan];omega
   case c2=>rw[ZS];omega
   intro v2 w2 o2 b2 _ _;have dr:=ae o2;have aN:=ae ((aQ.out.alloc cW _).trans b2);clear o2 b2 x1 x2 x3 x4 x5 x6 x7 x8 x9;obtain⟨x1,x2,x3,x4,x5,x6,x7,x8,x9⟩:=HT.out w2 aN.out;go_wp2_with fail;refine(HL.out _).mono ?_;rintro e w3 ⟨⟨v3,rfl,o3⟩,aP⟩;have cX:=ae o3;have Hz:=ae (dr.out.kept aP);have bM:=ae (ai aN.out aP);have iB:=bM.out.size;clear o3 aP x1 x2 x3 x4 x5 x6 x7 x8 x9 dr;go_wp2_with (first | (at_builtin;refine aT rfl _ _ rfl W.heap.size _ _ (P++[1]) BL rfl ?qa6 rfl ?qb6 ?c3 ?c4 ?_))
   case qa6=>exact Hz.out
   case qb6=>exact cX.out.sv
   case c3=>simp only[ZW,jad,ZT];omega
   case c4=>exact iB
   intro v4 w4 o4 b4 _ _;have eP:=ae o4;have b9:=ae (bM.out.trans b4);clear o4 b4;go_wp2_with fail;go_ret
   have HQ:aC w4 W.heap.size v4 SB:=by rw[HE.out];simpa using eP.out
   exact⟨⟨_,rfl,aZ HQ (by omega)⟩,ai cC.out b9.out⟩
theorem uf{w:World}{v:Value}{rs:List Row}(hs:Sr w v rs)(hl:rs.length<=1000){k:Nat}(hk:∀ r∈rs,k<r.length) :
  Calls Tryz.prog 26 #[v,.int .i64 (k:Int)] w fun e w'=>(∃ v',e=.returned v'/\gY w' w.heap.size v' (cT rs k))/\Below w.heap.size w w':=by
 have HS:=ae hs;have HK:=ae hk;obtain⟨a,cap,rfl,aX,bw⟩:=hs.form;have hcm':cap<=9223372036854775807:=by unfold maxLen at bw;omega
 have eO:(cT rs k).length=rs.length:=dp rs k;obtain⟨D,hD⟩:∃ D,cT rs k=D:=⟨_,rfl⟩;have Mz:Hid (∀ j (h:j<rs.length),∃ h2:j<D.length,D[j]=rs[j].getD k nul):=ae (fun j h=>by subst hD;exact⟨by omega,by simp[cT]⟩);rw[hD]at eO ⊢;have pe:=ae eO;clear hs bw hk hD eO;go_enter Tryz.func26,Tryz.ntmps26
 go_wp2_with fail;go_loopw [5,6] (fun o i wr=>∃ j:Nat,j<=rs.length/\i=.int .i64 (j:Int)/\gY wr w.heap.size o (D.take j)/\Below w.heap.size w wr) (fun _ i _=>rs.length-(intOf i).toNat)
 case atStart=>exact⟨0,by omega,rfl,gY.nil _ _,ZQ _ _⟩
 case round =>
  obtain⟨j,hj,rfl,az,ay⟩:=hrel;have HO:=ae az;have HB:=ae ay;have bO:=ay.size;clear az ay;by_cases aB:j<rs.length
  ·obtain⟨g,off,rv,rfl,hg,bo,Ka⟩:=(HS.out.kept HB.out).at aB
   obtain⟨hjD,hDj⟩:=Mz.out j aB;have pd:=HK.out _ (ZV aB);obtain⟨ra,rc,rfl,US,MG⟩:=Ka.form;obtain⟨b2,o2,rfl,aD,x0,x1,x2⟩:=Ka.at pd;have dP:rs[j].getD k nul=rs[j][k]:=by rw[List.getD_eq_getElem?_getD,List.getElem?_eq_getElem pd];rfl
   rw[dP]at hDj;have hrc2':rc<=9223372036854775807:=by unfold maxLen at MG;omega
   have hlt':(j:Int)<(rs.length:Int):=by omega
   have hkl':(k:Int)<(rs[j].length:Int):=by omega
   have mV:Hid (D.take (j+1)=D.take j++[D[j]]):=ae (Z5 hjD);have hlen':(D.take j).length<=100000:=by rw[ZX];omega
   rw[hDj]at mV;generalize rs[j][k]=fc at *;generalize D.take j=LL at *;generalize rs[j].length=rl at *;have mP:=ae (dF wr (.int .u8 (fc.1:Int)) (.int .i64 fc.2.1) (txt fc.2.2) 52);clear Ka hDj dP;unfold txt at *;go_wp2_with (first | (at_builtin;refine mH rfl _ _ rfl w.heap.size _ _ fc LL rfl (HO.out.kept (ak _ _)) rfl mP.out.1 mP.out.2.1 mP.out.2.2 hlen' ?c2 ?_))
   case c2=>first | omega | (rw[ZS];omega)
   intro v' w5 o5 b5;have dH:=ae o5;have aR:=ae ((HB.out.alloc bO _).trans b5);clear o5 b5;go_wp2_with fail;go_roundw
   case rel=>exact⟨j+1,by omega,by go_num,by rw[mV.out];exact dH.out,aR.out⟩
   case measure=>simp[intOf];omega
  ·obtain rfl:j=rs.length:=by omega
   rw[← pe.out,ZY]at HO;have gJ:¬ ((rs.length:Nat):Int)<(rs.length:Int):=by omega
   go_wp2_with fail;go_ret
   exact⟨⟨_,rfl,HO.out⟩,HB.out⟩
theorem Sr.cut{W:World}{b off n cap:Nat}{rs:List Row}(h:Sr W (.slice (some ⟨b,off,none⟩) n cap) rs){i m:Nat}(him:i+m<=rs.length):Sr W (.slice (some ⟨b,off+i,none⟩) m (cap-i)) ((rs.drop i).take m):=by
 obtain⟨a',cap',e,h1,h2,h4⟩:=h;simp only[Value.slice.injEq]at e;obtain⟨rfl,_,rfl⟩:=e;have hl:((rs.drop i).take m).length=m:=by rw[ZX,jai];omega
 refine⟨_,cap-i,by rw[hl],by omega,by unfold maxLen at *;omega,fun h0=>?_⟩;obtain⟨b',off',e,h5,h6⟩:=h4 (by omega);cases e
 refine⟨b,off+i,rfl,h5,fun j hj=>?_⟩;obtain⟨rv,h7,h8⟩:=h6 (i+j) (by omega);refine⟨rv,by rw[jaQ];exact h7,?_⟩;have:((rs.drop i).take m)[j]=rs[i+j]'(by omega):=by simp
 rw[this];exact h8
def VA(W:World)(gs:List (Value×List Row)):Prop:=∀ x∈gs,Sr W x.1 x.2
theorem Ut:(Tryz.prog.info? 26).map (fun i=>(i.zero,i.size,i.bytes))=some (some (.slice none 0 0),1,24):=by kernel_rfl
theorem ug{w0 w:World}{v:Value}{rs:List Row}(yb:Sr w0 v rs)(kY:Below w0.heap.size w0 w)(hl:rs.length<=1000){g:Nat}(eQ:1<=g)(gK:g<=64) :
  Calls Tryz.prog 46 #[v,.int .i64 (g:Int)] w fun e w'=>(∃ v' gs,e=.returned v'/\w'.ownsRow w.heap.size 26 1 v' gs.length (gs.map Prod.fst)/\VA w0 gs/\gs.map Prod.snd=Ge g rs)/\Below w.heap.size w w':=by
 obtain⟨i0,hi,ce,hz1',bm⟩:=info_parts Ut;have HS:=ae yb;obtain⟨a,cap,rfl,aX,bw⟩:=yb.form;have hcm':cap<=9223372036854775807:=by unfold maxLen at bw;omega
 have S1:=ae (fun j=>ku (n:=rs.length) (j:=j) (show 0<g by omega));have HPR:Hid (Ge g rs=(List.range (nps g rs.length)).map (prt g rs)):=ae rfl;rw[HPR.out];clear HPR
 have rz:Hid (nps g rs.length<=1000):=ae (by
  rcases jae 1000 (nps g rs.length)with h | h
  ·have:=(S1.out 1000).1 h
   have:1000*1<=1000*g:=jaL _ eQ;omega
  ·exact h)
 generalize nps g rs.length=N at *;clear yb kY bw;go_enter Tryz.func46,Tryz.ntmps46
 go_wp2_with fail;go_loopw [5,6] (fun o i wr=>∃(j:Nat) (gs:List (Value×List Row)),j<=N/\i=.int .i64 ((j*g:Nat):Int)/\gs.map Prod.snd=(List.range j).map (prt g rs)/\wr.ownsRow w.heap.size 26 1 o gs.length (gs.map Prod.fst)/\VA w0 gs/\Below w.heap.size w wr) (fun _ i _=>rs.length+64-(intOf i).toNat)
 case atStart=>exact⟨0,[],by omega,by simp,rfl,jaB _ _ _ _,fun x hx=>by simp at hx,ZQ _ _⟩
 case round =>
  obtain⟨j,gs,hj,rfl,uJ,az,Mj,ay⟩:=hrel;have HO:=ae az;have HB:=ae ay;have sY:=ae uJ;have UZ:gs.length=j:=by have:=congrArg List.length uJ;simpa using this
  have ZL:=ae UZ;have bO:=ay.size;obtain⟨la,lc,rfl,VM,Bo⟩:=bF az;have Et:=ae HS.out;have ZF:=ae Mj;clear az ay uJ UZ Mj;by_cases aB:j<N
  ·have hjg:=(S1.out j).1 aB
   obtain⟨b,off,rv,rfl,hb,_⟩:=Et.out.at hjg;obtain⟨p,hp⟩:∃ p,j*g=p:=⟨_,rfl⟩;have HP:=ae hp;have HPA:Hid ((j+1)*g=p+g):=ae (by rw[jap,jaO,hp]);rw[hp]at hjg ⊢;obtain⟨m,hm⟩:∃ m,min rs.length (p+g)-p=m:=⟨_,rfl⟩;have M8:min (rs.length:Int) ((p:Int)+(g:Int))=((p+m:Nat):Int):=by omega
   have HPT:Hid (prt g rs j=(rs.drop p).take m):=ae (by
    unfold prt;rw[hp];apply List.ext_getElem?
    intro q;rw[List.getElem?_take,List.getElem?_take,List.getElem?_drop];by_cases h1:q<g
    ·rw[if_pos h1]
     by_cases h2:q<m
     ·rw[if_pos h2]
     ·rw[if_neg h2,List.getElem?_eq_none (by omega)]
    ·rw[if_neg h1,if_neg (by omega)])
   have HCU:=ae (Et.out.cut (i:=p) (m:=m) (by omega));have hjg':(p:Int)<(rs.length:Int):=by omega
   have hlt':((p:Nat):Int)<=((p+m:Nat):Int):=by omega
   have hpc:((p+m:Nat):Int)<=(cap:Int):=by omega
   have hpm:((p+m:Nat):Int).toNat=p+m:=by omega
   have hpn:((p:Nat):Int).toNat=p:=by omega
   have hdm:p+m-p=m:=by omega
   have Zh:IntKind.i64.wrap ((p:Int)+(g:Int))=(p:Int)+(g:Int):=by rw[jam];omega
   have hd2:((p+m:Nat):Int)-(p:Int)=(m:Int):=by omega
   have hgl3:gs.length<=1000:=by have:=ZL.out;have:=rz.out;omega
   have mP:=ae (aK wr (.slice (some ⟨b,off+p,none⟩) m (cap-p)) 26);clear hm hp;go_wp2_with (first | (at_builtin;refine wpList_append_own_at (w:=_) rfl _ _ 93 rfl w.heap.size 26 i0 (.slice none 0 0) 1 24 Tryz.underlying93 hi ce hz1' bm rfl (by decide) (.slice la gs.length lc) gs.length (gs.map Prod.fst) rfl ?q0 ⟨wr.heap.size,0,none⟩ 1 1 [.slice (some ⟨b,off+p,none⟩) m (cap-p)] rfl rfl ?q1 ?q2 ?q3 ?q4 ?q5 ?_))
   case q0=>exact bH HO.out (ak _ _)
   case q1 =>
    intro j2 u hu;rw[md];cases j2 with
    | zero =>
     simp only[List.getElem?_cons_zero,Option.some.injEq]at hu;rw[← hu];exact mP.out
    | succ j2=>simp at hu
   case q2 =>
    intro u hu;rw[jay.1 hu];rfl
   case q3=>unfold maxLen;omega
   case q4=>omega
   case q5=>rw[ZS];omega
   intro v' w5 o5 g5 _ e5;have dH:=ae o5;have aR:=ae ((HB.out.alloc bO (.cells #[.slice (some ⟨b,off+p,none⟩) m (cap-p)] 26)).grown g5 (by rw[ZS];omega) (fun k hk=>(World.ownsRow.lt (bH HO.out (ak wr (.cells #[.slice (some ⟨b,off+p,none⟩) m (cap-p)] 26))) k hk).1));clear o5 g5 e5;go_wp2_with fail;go_roundw
   case rel =>
    refine⟨j+1,gs++[(.slice (some ⟨b,off+p,none⟩) m (cap-p),prt g rs j)],by omega,by rw[HPA.out];rfl,by rw[Z8,sY.out,ja0,Z8];rfl,?_,fun x hx=>?_,aR.out⟩
    ·rw[ZT,Z8]
     exact dH.out
    ·rcases jaj.1 hx with hx | hx
     ·exact ZF.out x hx
     ·rw[jay.1 hx,HPT.out]
      exact HCU.out
   case measure=>simp[intOf];omega
  ·have hjN:¬ j*g<rs.length:=fun h=>aB ((S1.out j).2 h)
   obtain rfl:j=N:=by omega
   obtain⟨p,hp⟩:∃ p,j*g=p:=⟨_,rfl⟩;rw[hp]at hjN ⊢;have gJ:¬ (p:Int)<(rs.length:Int):=by omega
   go_wp2_with fail;go_ret
   first | exact⟨⟨_,gs,rfl,HO.out,ZF.out,sY.out⟩,HB.out⟩ | exact⟨⟨_,rfl,gs,HO.out,ZF.out,sY.out⟩,HB.out⟩
end Go.Proofs.YtpljdjmpamjkhaaGreatDoor
