import Derived.Test.YtpljdjmpamjkhaaGreatDoorWar
set_option linter.unusedVariables false
set_option linter.unusedSimpArgs false
set_option maxRecDepth 100000
set_option maxHeartbeats 4000000
namespace Go.Proofs.YtpljdjmpamjkhaaGreatDoor
open Go.RowKit Go.Lib
theorem Sv.toK{W:World}{v:Value}{l:List Nat}(h:Sv W v (az .u8 l)):SvK W v l:=by
 obtain⟨a,cap,h1,h2,h3,h4,h5⟩:=h;rw[am]at *;refine⟨a,cap,h1,h2,h3,h4,fun h0=>?_⟩;obtain⟨b,off,h6,h7,h8⟩:=h5 h0;exact⟨b,off,h6,h7,fun j hj=>h8 j _ (bG hj)⟩
theorem JU(id:Nat)(fs:List Fd):Bs (ep id fs):=by
 unfold ep;refine Bs.app (Bs.app fM fM) ?_;intro x hx;unfold iB at hx;obtain⟨f,_,hf⟩:=List.mem_flatMap.1 hx;unfold gZ at hf;exact Bs.app (Bs.app (Bs.app (Bs.app fM fM) (zv _)) fM) fM x hf
theorem mD{id:Nat}{fs:List Fd}(hc:chk id fs=0):szs fs<5000/\fs.length<=8/\0<fs.length:=by
 obtain⟨hrise,h0,h8,hi0⟩:=ow hc
 have kJ:fe [] fs=0:=by
  unfold chk at hc;rw[Yx (by omega)]at hc;exact hc
 have hn:=oy kJ
 have:∀ m:List Fd,(∀ f∈m,f.2.1.size<=16)->szs m<=16*m.length:=by
  intro m;induction m with
  | nil=>intro _;simp[szs]
  | cons x t ih =>
   intro hx;have h1:=ih (fun f hf=>hx f (ZX _ hf));have h2:=hx x (List.mem_cons_self ..);unfold szs at *;simp only[Zh,List.sum_cons,YI];omega
 have:=this fs hn;omega
theorem Bo{id:Nat}{fs:List Fd}{rs:List Row}{g:Nat}(ho:∀ f∈fs,Okf f)(nl:id<4294967296)(hc:chk id fs=0)(pS:rs.length<=256)(ew:1<=g)(gx:g<=64)(dK:jv fs rs):(il id fs rs g).length<=400000/\Bs (il id fs rs g):=by
 obtain⟨hz,hl,_⟩:=mD hc;have hk:=fS hc;have h1:=gj ho (by omega) hz fs.length;rw[YK]at h1;have h2:=iF id (by omega);have h3:=iF fs.length (by omega);have h4:=iF rs.length (by omega);have h5:=iF g (by omega)
 have hft:∀ j,(ftK fs (prt g rs j) fs.length).length<=1360/\Bs (ftK fs (prt g rs j) fs.length):=fun j=>by
  have mO:(prt g rs j).length<=256:=by rw[bZ];omega
  have:=tc (dK.part g j) mO (fun k jJ=>eE (dK.part g j) hk mO jJ) (YA _);exact⟨by omega,this.2⟩
 have h6:=jw (m:=1360) (fun j=>(hft j).1) (List.range (nps g rs.length));have h7:=kI (n:=rs.length) ew pS;rw[List.length_range]at h6;have h8:1360*nps g rs.length<=1360*256:=ZT _ h7;have h9:(ftJ fs g rs (nps g rs.length)).length<=1360*nps g rs.length:=h6;unfold il;refine⟨?_,Bs.app (Bs.app (Bs.app (JU _ _) fM) fM) (yF (fun j=>(hft j).2) _)⟩;simp only[YC];unfold ep;simp only[YC];omega
theorem lX{id:Nat}{fs:List Fd}{rs:List Row}{g:Nat}(ho:∀ f∈fs,Okf f)(nl:id<4294967296)(hc:chk id fs=0)(pS:rs.length<=256)(ew:1<=g)(gx:g<=64)(dK:jv fs rs):(dw id fs rs g).length<=60000000/\Bs (dw id fs rs g):=by
 obtain⟨hz,hl,_⟩:=mD hc;have hk:=fS hc;obtain⟨f1,f2⟩:=Bo ho nl hc pS ew gx dK
 have qb:∀ j,(fq fs (prt g rs j) fs.length).length<=172800/\Bs (fq fs (prt g rs j) fs.length):=fun j=>by
  have mO:(prt g rs j).length<=256:=by rw[bZ];omega
  have:=pH (p:=prt g rs j) (fun k jJ=>eE (dK.part g j) hk mO jJ) (YA _);exact⟨by omega,this.2⟩
 have h6:=jw (m:=172800) (fun j=>(qb j).1) (List.range (nps g rs.length));have h7:=kI (n:=rs.length) ew pS;rw[List.length_range]at h6;have h8:172800*nps g rs.length<=172800*256:=ZT _ h7;have h9:(mN fs g rs (nps g rs.length)).length<=172800*nps g rs.length:=h6;unfold dw kF;refine⟨?_,Bs.app (fun x hx=>?_) (Bs.app (Bs.app (yF (fun j=>(qb j).2) _) f2) (qI _))⟩
 ·simp only[YC,YI,Zc,le4]
  omega
 ·simp only[YQ,jaw,or_false]at hx
  omega
theorem pI{fs:List Fd}:∀{rs:List Row},lS fs rs=0->∀ r∈rs,gW fs r=0
 | [],_,r,hr=>by simp at hr
 | x::t,h,r,hr=>by
  unfold lS at h;by_cases h0:gW fs x=0
  ·rw[Yy h0]at h
   rcases YQ.1 hr with rfl | hr
   ·exact h0
   ·exact pI h r hr
  ·rw[Yx h0]at h
   exact absurd h h0
theorem JV{fs:List Fd}{rs:List Row}{k:Nat}(h:k<rs.length):lS fs (rs.drop k)=if gW fs rs[k]=0 then lS fs (rs.drop (k+1)) else gW fs rs[k]:=by
 rw[Zz h];rfl
theorem Bp{w:World}{fv rv:Value}{fs:List Fd}{rs:List Row}{id:Nat}(hs:Sf w fv fs)(hr:Rv w rv rs)(hf:∀ r∈rs,∀ c∈r,aI c)(g:Int) :
  Calls Tryz.prog 39 #[.agg #[.int .u32 (id:Int),fv],rv,.int .i64 g] w fun e w'=>e=.returned (.int .i64 (en id fs rs g:Int))/\Below w.heap.size w w':=by
 obtain⟨fa,fcap,rfl,hfc1,hfc2⟩:=hs.form;obtain⟨ra,rcap,rfl,KS,zc,hra⟩:=hr.form;have cO:=aj w (.cells #[.int .u32 (id:Int),.slice fa fs.length fcap] 25);have kk:=Zb w (.cells #[.int .u32 (id:Int),.slice fa fs.length fcap] 25);have ll:(w.alloc (.cells #[.int .u32 (id:Int),.slice fa fs.length fcap] 25)).heap.size=w.heap.size+1:=YB _ _;have HS:=ae (hs.kept cO);have HR:=ae (hr.kept cO);have bV:=ae cO
 have HT:jaH (∀ U,Below (w.alloc (.cells #[.int .u32 (id:Int),.slice fa fs.length fcap] 25)).heap.size (w.alloc (.cells #[.int .u32 (id:Int),.slice fa fs.length fcap] 25)) U->U.cell? ⟨w.heap.size,0,none⟩=some (.int .u32 (id:Int))/\U.cell? ⟨w.heap.size,1,none⟩=some (.slice fa fs.length fcap)):=ae (fun U hb=>by
  have hU:=(hb.block w.heap.size (by omega)).trans kk;constructor<;>(rw[an hU];rfl))
 have HF:=ae hf;generalize hA:w.alloc (.cells #[.int .u32 (id:Int),.slice fa fs.length fcap] 25)=A at *;clear hs hr cO kk hf ll;obtain⟨c0,c1⟩:=HT.o A (Yz _ _);have HW:jaH (en id fs rs g=if chk id fs≠0 then chk id fs else if g<1∨64<g then 1 else if 256<rs.length then 5 else lS fs rs):=ae rfl;generalize en id fs rs g=FW at *;go_enter Tryz.func39,Tryz.ntmps39
 go_wp2_with fail;try rw[hA]
 clear hA;refine(xe HS.o id).mono ?_;rintro e w1 ⟨rfl,aA⟩;have aN:=ae aA;clear aA c0 c1;obtain⟨c0,c1⟩:=HT.o w1 aN.o;by_cases hc:chk id fs=0
 ·have hcz:(((chk id fs:Nat):Int) != 0)=false:=by simp[hc]
  have mI:jaH (FW=if g<1∨64<g then 1 else if 256<rs.length then 5 else lS fs rs):=ae (by rw[HW.o,Yx (by omega)]);clear HW;generalize chk id fs=ck at *;by_cases ew:g<1
  ·have zf:jaH (FW=1):=ae (by rw[mI.o,Yy (Or.inl ew)])
   go_wp2_with fail;go_ret
   exact⟨by rw[zf.o];rfl,ag bV.o aN.o⟩
  ·by_cases gx:64<g
   ·have zf:jaH (FW=1):=ae (by rw[mI.o,Yy (Or.inr gx)])
    have hg2':g > 64:=gx;go_wp2_with fail;go_ret
    exact⟨by rw[zf.o];rfl,ag bV.o aN.o⟩
   ·have hg2':¬ g > 64:=gx
    have zf:jaH (FW=if 256<rs.length then 5 else lS fs rs):=ae (by rw[mI.o,Yx (by omega)]);clear mI;by_cases hl:256<rs.length
    ·have RA:jaH (FW=5):=ae (by rw[zf.o,Yy hl])
     have hl':(rs.length:Int) > 256:=(by omega);go_wp2_with fail;go_ret
     exact⟨by rw[RA.o];rfl,ag bV.o aN.o⟩
    ·have RA:jaH (FW=lS fs rs):=ae (by rw[zf.o,Yx hl])
     have hl':¬ (rs.length:Int) > 256:=(by omega);clear zf;go_wp2_with fail;go_loopw [27] (fun i wr=>∃ k:Nat,k<=rs.length/\i=.int .i64 (k:Int)/\lS fs rs=lS fs (rs.drop k)/\Below A.heap.size A wr) (fun i _=>rs.length-(intOf i).toNat)
     case atStart=>exact⟨0,by omega,rfl,rfl,aN.o⟩
     case round =>
      obtain⟨k,hk,rfl,kJ,ao⟩:=hrel;have Qo:=ae kJ;have HB:=ae ao;clear kJ ao;obtain⟨d0,d1⟩:=HT.o wr HB.o;by_cases ar:k<rs.length
      ·have hlt':(k:Int)<(rs.length:Int):=by omega
       obtain⟨bb,off,rw',rfl,hb,ek,fV⟩:=(HR.o.kept HB.o).at ar;obtain⟨a3,cap3,rfl,_,_⟩:=fV.form1;have co:=ae (JV (fs:=fs) ar);have Ch:=ae (Tb (HS.o.kept HB.o) fV (HF.o _ (YF ar)) id);clear fV;generalize (aC rs[k]).length=nv at *;generalize gW fs rs[k]=fm at *;go_wp2_with fail;refine Ch.o.mono ?_;rintro e w5 ⟨rfl,bv⟩;have aJ:=ae (ag HB.o bv);clear bv d0 d1 ek;by_cases hm:fm=0
       ·subst hm
        have hmz:((((0:Nat)):Int) != 0)=false:=rfl;have Ub:jaH (lS fs (rs.drop k)=lS fs (rs.drop (k+1))):=ae (by rw[co.o,Yy rfl]);clear co;go_wp2_with fail;go_roundw
        case rel=>exact⟨k+1,by omega,by go_num,by rw[Qo.o,Ub.o],aJ.o⟩
        case measure=>simp[intOf];omega
       ·have hmz:(((fm:Nat):Int) != 0)=true:=by simp[hm]
        have Ub:jaH (FW=fm):=ae (by rw[RA.o,Qo.o,co.o,Yx hm]);clear co Qo RA;go_wp2_with fail;go_ret
        exact⟨by rw[Ub.o];rfl,ag bV.o aJ.o⟩
      ·obtain rfl:k=rs.length:=by omega
       have eO:¬ ((rs.length:Nat):Int)<(rs.length:Int):=(by omega);have HE0:jaH (FW=0):=ae (by rw[RA.o,Qo.o,ZO];rfl);clear Qo RA;go_wp2_with fail;go_ret
       exact⟨by rw[HE0.o];rfl,ag bV.o HB.o⟩
 ·have hcz:(((chk id fs:Nat):Int) != 0)=true:=by simp[hc]
  have mI:jaH (FW=chk id fs):=ae (by rw[HW.o,Yy hc]);clear HW;generalize chk id fs=ck at *;go_wp2_with fail;go_ret
  exact⟨by rw[mI.o];rfl,ag bV.o aN.o⟩
theorem lY{id:Nat}{fs:List Fd}{rs:List Row}{g:Int}(h:en id fs rs g=0):chk id fs=0/\(1<=g/\g<=64)/\rs.length<=256/\lS fs rs=0:=by
 unfold en at h;by_cases h1:chk id fs=0
 ·rw[Yx (by omega)]at h
  by_cases h2:g<1∨64<g
  ·rw[Yy h2]at h
   cases h
  ·rw[Yx h2]at h
   by_cases h3:256<rs.length
   ·rw[Yy h3]at h
    cases h
   ·rw[Yx h3]at h
    exact⟨h1,by omega,by omega,h⟩
 ·rw[Yy h1]at h
  exact absurd h h1
theorem lZ{w:World}{fv rv:Value}{fs:List Fd}{rs:List Row}{id:Nat}(ht:Tab w)(hs:Sf w fv fs)(hr:Rv w rv rs)(ho:∀ f∈fs,Okf f)(nl:id<4294967296)(hf:∀ r∈rs,∀ c∈r,aI c)(g:Int) :
  Calls Tryz.prog 12 #[.agg #[.int .u32 (id:Int),fv],rv,.int .i64 g] w fun e w'=>(∃ v,e=.returned (.tuple #[v,.int .i64 ((dG id fs rs g).2:Int)])/\aG w' w.heap.size v (dG id fs rs g).1)/\Below w.heap.size w w':=by
 obtain⟨fa,fcap,rfl,hfc1,hfc2⟩:=hs.form;obtain⟨ra,rcap,rfl,KS,zc,hra⟩:=hr.form;have cO:=aj w (.cells #[.int .u32 (id:Int),.slice fa fs.length fcap] 25);have kk:=Zb w (.cells #[.int .u32 (id:Int),.slice fa fs.length fcap] 25);have ll:(w.alloc (.cells #[.int .u32 (id:Int),.slice fa fs.length fcap] 25)).heap.size=w.heap.size+1:=YB _ _;have HS:=ae (hs.kept cO);have HR:=ae (hr.kept cO);have xx:=ae (ht.kept cO);have bV:=ae cO
 have HT:jaH (∀ U,Below (w.alloc (.cells #[.int .u32 (id:Int),.slice fa fs.length fcap] 25)).heap.size (w.alloc (.cells #[.int .u32 (id:Int),.slice fa fs.length fcap] 25)) U->U.cell? ⟨w.heap.size,0,none⟩=some (.int .u32 (id:Int))/\U.cell? ⟨w.heap.size,1,none⟩=some (.slice fa fs.length fcap)):=ae (fun U hb=>by
  have hU:=(hb.block w.heap.size (by omega)).trans kk;constructor<;>(rw[an hU];rfl))
 have HF:=ae hf;have HO:=ae ho;generalize hA:w.alloc (.cells #[.int .u32 (id:Int),.slice fa fs.length fcap] 25)=A at *;clear hs hr cO kk hf ll ht ho;have Ch:=ae (Bp (id:=id) HS.o HR.o HF.o g);obtain⟨c0,c1⟩:=HT.o A (Yz _ _);have HW:jaH (dG id fs rs g=if en id fs rs g≠0 then ([],en id fs rs g) else if 65536<(br (dw id fs rs g.toNat)).length then ([],4) else (br (dw id fs rs g.toNat),0)):=ae rfl;generalize dG id fs rs g=WM at *;go_enter Tryz.func12,Tryz.ntmps12
 go_wp2_with fail;try rw[hA]
 clear hA;refine Ch.o.mono ?_;rintro e w1 ⟨rfl,aA⟩;have aN:=ae aA;clear aA c0 c1;obtain⟨c0,c1⟩:=HT.o w1 aN.o;by_cases hc:en id fs rs g=0
 ·have hcz:(((en id fs rs g:Nat):Int) != 0)=false:=by simp[hc]
  obtain⟨h1,⟨h2,h3⟩,h4,h5⟩:=lY hc;have dK:jv fs rs:=fun r hr=>⟨pI h5 r hr,HF.o r hr⟩
  obtain⟨n,rfl⟩:∃ n:Nat,g=(n:Int):=⟨g.toNat,by omega⟩;rw[Ze]at HW;obtain⟨hz,hl,_⟩:=mD h1;obtain⟨t1,t2⟩:=lX HO.o nl h1 h4 (show 1<=n by omega) (show n<=64 by omega) dK;have HTX:=ae (Pn (HS.o.kept aN.o) (HR.o.kept aN.o) HO.o nl hl hz h4 (show 1<=n by omega) (show n<=64 by omega) dK (fS h1));have mI:jaH (WM=if 65536<(br (dw id fs rs n)).length then ([],4) else (br (dw id fs rs n),0)):=ae (by rw[HW.o,Yx (by omega)]);have Yk:=ae t2;clear HW Ch h1 h2 h3 h5 dK t2;generalize en id fs rs n=FW at *;generalize dw id fs rs n=TX at *;go_wp2_with fail;refine HTX.o.mono ?_;rintro e w2 ⟨⟨v2,rfl,o2⟩,ay⟩;have aK:=ae (ag aN.o ay);have HSL:=ae (AO (xx.o.kept aK.o) o2.sv.toK Yk.o (by omega));clear o2 ay c0 c1;go_wp2_with fail;refine HSL.o.mono ?_;rintro e w3 ⟨⟨v3,rfl,o3⟩,aO⟩;obtain⟨a3,cap3,rfl,_,_⟩:=aM o3;have dx:=ae (bE o3 (YG bV.o.size aK.o.size));have bT:=ae (ag aK.o aO);clear o3 aO;have et:(br TX).length<=60000004:=by rw[iX];omega
  generalize br TX=ST at *;by_cases Xe:65536<ST.length
  ·have hbig':(ST.length:Int) > 65536:=by omega
   have zf:jaH (WM=([],4)):=ae (by rw[mI.o,Yy Xe]);go_wp2_with fail;go_ret2
   exact⟨⟨_,by rw[zf.o];rfl,by rw[zf.o];exact aG.nil _ _⟩,ag bV.o bT.o⟩
  ·have hbig':¬ (ST.length:Int) > 65536:=by omega
   have zf:jaH (WM=(ST,0)):=ae (by rw[mI.o,Yx Xe]);go_wp2_with fail;go_ret2
   exact⟨⟨_,by rw[zf.o];rfl,by rw[zf.o];exact dx.o⟩,ag bV.o bT.o⟩
 ·have hcz:(((en id fs rs g:Nat):Int) != 0)=true:=by simp[hc]
  have mI:jaH (WM=([],en id fs rs g)):=ae (by rw[HW.o,Yy hc]);clear HW Ch;generalize en id fs rs g=FW at *;go_wp2_with fail;go_ret2
  exact⟨⟨_,by rw[mI.o];rfl,by rw[mI.o];exact aG.nil _ _⟩,ag bV.o aN.o⟩
theorem Ey{w:World}{p f:Nat}{b:List Nat}(h:Rs w p b f)(hf:Er f)(k n:Nat)(hk:1<=k/\k<=3)(hn:n<=256) :
  Calls Tryz.prog 263 #[.pointer (some ⟨p,0,none⟩),.int .u8 (k:Int),.int .i64 (n:Int)] w (Gd k n b p f w):=by
 obtain rfl | rfl | rfl:k=1∨k=2∨k=3:=by omega
 ·exact Pg h hf n hn
 ·exact Ph h hf n hn
 ·exact Pi h hf n hn
def CP(k n:Nat)(b:List Nat)(l:List (Nat×Int×List Nat))(f':Nat):Prop :=
 Er f'/\(f'=0->Col k l/\l.length=n)/\(f'≠0->l=[])/\∀ y,Col k y->y.length=n->b=dS k y->f'=0/\l=y
theorem Bq{k:Nat}:∀{t:List Nat} {s:List (Nat×Int×List Nat)},(∀ c∈s,fN k c)->∀ c∈fO t s,fN k c:=fun{t s} h=>(mt (P:=fN k) (Or.inl rfl) h).2
theorem Tc{k n:Nat}{b b1 b2:List Nat}{th:List Nat}{s:List (Nat×Int×List Nat)}{f1 f2:Nat}(h1:RP (Nu n) (byH b n) 0 th b1 f1)(h2:RP (Nv k th.sum) (byT k b1) f1 s b2 f2)(hn:f2≠0):CP k n b [] f2:=by
 refine⟨h2.1,fun h=>absurd h hn,fun _=>rfl,fun y a1 a2 a3=>?_⟩;obtain⟨d1,d2,d3⟩:=h1.2.2 (cD y) (iE k y) rfl ⟨by rw[aT];exact a2,eg y⟩ ⟨y,a2,rfl,a3⟩;have ho:=zS y;obtain⟨e1,_⟩:=h2.2.2 (bH y) [] d1 ⟨by rw[d2,mr],fun c hc=>⟨a1.2.2 c (ji hc).1,(ji hc).2⟩⟩ ⟨by rw[d3];unfold iE;rw[ho],rfl⟩;exact absurd e1 hn
theorem Po{k n:Nat}{b b1 b2:List Nat}{th:List Nat}{s:List (Nat×Int×List Nat)}{f1:Nat}(hk:1<=k/\k<=3)(hn:n<=256)(h1:RP (Nu n) (byH b n) 0 th b1 f1)(h2:RP (Nv k th.sum) (byT k b1) f1 s b2 0):CP k n b (fO th s) 0:=by
 obtain⟨g1,g2⟩:=h2.2.1 rfl;obtain⟨_,g3⟩:=h1.2.1 g1;refine⟨er0,fun _=>⟨⟨hk,by rw[gw,g3.1];exact hn,Bq fun c hc=>(g2.2 c hc).1⟩,by rw[gw,g3.1]⟩,fun h=>absurd rfl h,fun y a1 a2 a3=>⟨rfl,?_⟩⟩;obtain⟨d1,d2,d3⟩:=h1.2.2 (cD y) (iE k y) rfl ⟨by rw[aT];exact a2,eg y⟩ ⟨y,a2,rfl,a3⟩;have ho:=zS y;obtain⟨_,e2,_⟩:=h2.2.2 (bH y) [] d1 ⟨by rw[d2,mr],fun c hc=>⟨a1.2.2 c (ji hc).1,(ji hc).2⟩⟩ ⟨by rw[d3];unfold iE;rw[ho],rfl⟩;rw[d2,e2];exact nF a1.2.2
theorem Ez{w:World}{p:Nat}{b:List Nat}(h:Rs w p b 0)(k n:Nat)(hk:1<=k/\k<=3)(hn:n<=256) :
  Calls Tryz.prog 235 #[.pointer (some ⟨p,0,none⟩),.int .u8 (k:Int),.int .i64 (n:Int)] w fun r w'=>∃ l b' f',(∃ v,r=.returned v/\OwnV w' w.heap.size v l)/\Rs w' p b' f'/\CP k n b l f'/\Fr p w.heap.size w w':=by
 have ar:=h.lt;have HN:=ae (JL h er0 n hn);have QF:=ae (fun b1 b2 th s f1 h1 h2=>Po (k:=k) (n:=n) (b:=b) (b1:=b1) (b2:=b2) (th:=th) (s:=s) (f1:=f1) hk hn h1 h2);have HK:=ae hk;clear h hk;go_enter Tryz.func235,Tryz.ntmps235
 go_wp2_with fail;refine HN.o.mono ?_;rintro e w1 ⟨th,b1,f1,⟨v1,rfl,dI⟩,Fh,KO,da,KR,cB⟩;have fK:=ae dI;have Yk:=ae Fh;have gI:=ae da;have HRP1:=ae KR;have eB:=ae cB;have cG:=cB.size;have mQ:th.sum<=256:=by have:=pB Fh;omega
 have HON:=ae (Pe (em.sv dI) Fh (by omega));have Rf:=ae (Ey da KR.1 k th.sum HK.o mQ)
 have KQ:jaH (∀ j,v1.ownBlock=some j->j<w1.heap.size/\j≠p):=ae (fun j hj=>by
  have:=dI.lt j hj;exact⟨this.2,by omega⟩)
 clear dI Fh da KR cB;go_wp2_with fail;refine HON.o.mono ?_;rintro e w2 ⟨rfl,rfl⟩;go_wp2_with fail;refine Rf.o.mono ?_;rintro e w3 ⟨s,b3,f3,⟨v3,rfl,eR⟩,jX,hrp3,gC⟩;have dx:=ae eR;have lC:=ae jX;have Xs:=ae hrp3;have og:=ae (eB.o.trans (gC.mono cG));have jE:=gC.size;have HT3:=ae ((em.sv fK.o).keptFr KQ.o gC);obtain⟨a0,cap0,k0,k1,k2,k3,k4,k5,k6,k7,k8,k9,k10⟩:=jX.cells;clear eR jX hrp3 gC k0 k2 k3 k4 k5 k6 k7 k8 k9 k10;by_cases tg:f3=0
 ·subst tg
  have QO:=ae (QF.o b1 b3 th s f1 HRP1.o Xs.o);obtain⟨g1,g2⟩:=Xs.o.2.1 rfl;have Yl:=ae (Ev HT3.o Yk.o (by omega) (OwnV.sv dx.o) g2.1 (fun c hc=>(g2.2 c hc).2));clear g1 g2;generalize fO th s=L at *;go_wp2_with fail;refine Yl.o.mono ?_;rintro e w4 ⟨⟨v4,rfl,fC⟩,bm⟩;have fU:=ae (bE (B:=w.heap.size) fC (by omega));have vP:=ae (lC.o.kept bm lC.o.lt);have zj:=ae (og.o.trans (Fr.of_below (bm.mono (by omega))));clear fC bm;go_wp2_with fail;go_ret
  exact⟨L,_,0,⟨_,rfl,fU.o⟩,vP.o,QO.o,zj.o⟩
 ·have fb:((f3:Int) != 0)=true:=by simpa using tg
  have QO:=ae (Tc (k:=k) HRP1.o Xs.o tg);clear tg;go_wp2_with fail;go_ret
  exact⟨[],_,f3,⟨_,rfl,OwnV.nil _ _⟩,lC.o,QO.o,og.o⟩
theorem yG{w:World}{vb vl:Value}{b:List Nat}{l:List (Nat×Int×List Nat)}{k:Nat}(hb:Sv w vb (az .u8 b))(h8:Bs b)(hs:Sv w vl (aC l))(eQ:∀ k,vl.ownBlock=some k->k<w.heap.size)(hc:Col k l) :
  Calls Tryz.prog 236 #[.int .u8 (k:Int),vb,vl] w fun e w'=>e=.returned (.bool (decide (dS k l=b)))/\Below w.heap.size w w':=by
 have HW:=ae (xg hs eQ (fun c hcc=>(hc.2.2 c hcc).fine) k);rw[nG hc]at HW;have HB:=ae hb;have H8:=ae h8;have TW:=ae (ie hc).2;clear hb h8 hs eQ hc;unfold xf at HW;generalize dS k l=cb at *;go_enter Tryz.func236,Tryz.ntmps236
 go_wp2_with fail;refine HW.o.mono ?_;rintro e w1 ⟨⟨v1,rfl,dI⟩,aA⟩;have Ce:=ae (mA dI.sv (HB.o.kept aA) TW.o H8.o);have aN:=ae aA;clear dI aA;go_wp2_with fail;refine Ce.o.mono ?_;rintro e w2 ⟨rfl,rfl⟩;go_wp2_with fail;go_ret
 exact⟨rfl,aN.o⟩
def rW(k:Nat)(b:List Nat)(n:Int)(l:List (Nat×Int×List Nat))(er:Nat):Prop :=
 if 1<=k/\k<=3 then
  (if 0<=n/\n<=256 then (er=0/\fh k b n.toNat=some l)∨(er≠0/\Er er/\l=[]/\fh k b n.toNat=none) else er=1/\l=[])
 else er=10/\l=[]
def Pp(k:Nat)(b:List Nat)(n:Int)(w:World)(e:Ending)(w':World):Prop :=
 ∃(v:Value) (l:List (Nat×Int×List Nat)) (er:Nat),e=.returned (.tuple #[v,.int .i64 (er:Int)])/\OwnV w' w.heap.size v l/\rW k b n l er/\Below w.heap.size w w'
theorem JW{k n:Nat}{b:List Nat}{l:List (Nat×Int×List Nat)}{er:Nat}(hk:1<=k/\k<=3)(hn:n<=256)(h:(er=0/\fh k b n=some l)∨(er≠0/\Er er/\l=[]/\fh k b n=none)):rW k b (n:Int) l er:=by
 unfold rW;rw[Yy hk,Yy (by omega),Ze];exact h
theorem Td{k n:Nat}{b:List Nat}{l:List (Nat×Int×List Nat)}{f':Nat}(hk:1<=k/\k<=3)(hn:n<=256)(hb:Bs b)(hc:CP k n b l f')(h:¬ (f'=0/\dS k l=b)):fh k b n=none:=by
 cases e:fh k b n with
 | none=>rfl
 | some y =>
  obtain⟨h1,h2,h3⟩:=(kA hk hn hb).1 e;obtain⟨d1,d2⟩:=hc.2.2.2 y h1 h2 h3.symm;exact absurd ⟨d1,by rw[d2];exact h3⟩ h
theorem EA{w:World}{vb:Value}{b:List Nat}(hb:Sv w vb (az .u8 b))(h8:Bs b)(k n:Nat)(hk:1<=k/\k<=3)(hn:n<=256) :
  Calls Tryz.prog 214 #[.int .u8 (k:Int),vb,.int .i64 (n:Int)] w (Pp k b (n:Int) w):=by
 have WV:=ae hb;have H8:=ae h8;have yW:=ae (gU k);rw[YT hk]at yW;have cO:=hb;obtain⟨a,cap,rfl,aV,bw⟩:=hb.form1;rw[am]at *;have mP:¬ (n:Int)<0:=by omega
 have Qp:¬ (n:Int) > 256:=by omega
 have co:jaH (Rs (w.alloc (.cells #[.slice a b.length cap,.int .i64 0] 271)) w.heap.size b 0):=ae (by
  refine⟨a,cap,AL _ _,cO.kept (aj w _),fun h0 j hj=>?_,h8⟩;obtain⟨a',cap',e,_,_,_,h4⟩:=cO;rw[am]at e h4;simp only[Value.slice.injEq]at e;obtain⟨rfl,_,_⟩:=e;obtain⟨g,off,rfl,h5,_⟩:=h4 h0;cases hj
  exact h5)
 have hza:=YB w (.cells #[.slice a b.length cap,.int .i64 0] 271);have HCO:=ae (Ez co.o k n hk hn);have jB:=ae (aj w (.cells #[.slice a b.length cap,.int .i64 0] 271));have HK:=ae hk;have UZ:=ae (fun l f' hc h=>Td (k:=k) (n:=n) (b:=b) (l:=l) (f':=f') hk hn h8 hc h);have HTM:=ae (fun l er h=>JW (k:=k) (n:=n) (b:=b) (l:=l) (er:=er) hk hn h);have HIFF:=ae (fun l=>(kA (k:=k) (n:=n) (b:=b) (l:=l) hk hn h8).2);clear hb cO h8 hk aV bw;go_enter Tryz.func214,Tryz.ntmps214
 go_wp2_with fail;refine(yW.o _).mono ?_;rintro e w1 ⟨rfl,rfl⟩;go_wp2_with fail;refine HCO.o.mono ?_;rintro e w2 ⟨l,b2,f2,⟨v2,rfl,ex⟩,cP,Xf,cK⟩;have ay:Below w1.heap.size w1 w2:=jB.o.trans (cK.below (YA _) (by omega));have ec:=ae (bE (B:=w1.heap.size) ex (by omega));have eP:=ae cP;have QO:=ae Xf;have aK:=ae ay;have bh:=ay.size;have ir:=cP.lt;obtain⟨a0,cap0,k0,k1,k2,k3,k4,k5,k6,k7,k8,k9,k10⟩:=cP.cells;obtain⟨av,cv,rfl,_,_⟩:=aM ex;have WP:=ae (OwnV.sv ex);have KQ:=ae (fun j hj=>(ex.lt j hj).2);clear ex cP Xf cK ay k0 k2 k3 k4 k5 k6 k7 k8 k9 k10;by_cases tg:f2=0
 ·subst tg
  obtain⟨eZ,bg⟩:=QO.o.2.1 rfl;have KL:=ae (yG (WV.o.kept aK.o) H8.o WP.o KQ.o eZ);have Fu:=ae eZ;have Fo:=ae bg;clear eZ bg;by_cases heq:dS k l=b
  ·rw[YT heq]at KL
   have KU:=ae (HTM.o l 0 (Or.inl ⟨rfl,HIFF.o l ⟨Fu.o,Fo.o,heq⟩⟩));clear heq;go_wp2_with fail;refine KL.o.mono ?_;rintro e w3 ⟨rfl,aO⟩;have dx:=ae (bP ec.o aO);have bT:=ae (aK.o.trans (aO.mono bh));have hk1':=(eP.o.kept aO ir).cells;obtain⟨a3,cap3,q0,q1,q2,q3,q4,q5,q6,q7,q8,q9,q10⟩:=hk1';clear aO q0 q2 q3 q4 q5 q6 q7 q8 q9 q10 k1;go_wp2_with fail;go_ret2
   exact⟨_,l,0,rfl,dx.o,KU.o,bT.o⟩
  ·rw[YO heq]at KL
   have KU:=ae (HTM.o [] 40 (Or.inr ⟨by omega,sJ,rfl,UZ.o l 0 QO.o (fun h=>heq h.2)⟩));clear heq;go_wp2_with fail;refine KL.o.mono ?_;rintro e w3 ⟨rfl,aO⟩;have bT:=ae (aK.o.trans (aO.mono bh));have jE:=aO.size;have lC:=ae (eP.o.kept aO ir);clear aO k1;go_wp2_with fail;refine(bS lC.o 40).mono ?_;rintro e w4 ⟨rfl,uN,no⟩;rw[dY]at uN;have cA:=ae (bT.o.trans (no.below (YA _) (by omega)));obtain⟨a3,cap3,q0,q1,q2,q3,q4,q5,q6,q7,q8,q9,q10⟩:=uN.cells;clear uN no q0 q2 q3 q4 q5 q6 q7 q8 q9 q10;go_wp2_with fail;go_quiet (fail)
   go_wp2_with fail;go_ret2
   exact⟨_,[],40,rfl,OwnV.nil _ _,KU.o,cA.o.trans ⟨rfl,rfl,rfl,YA _,fun _ _=>rfl⟩⟩
 ·have fb:((f2:Int) != 0)=true:=by simpa using tg
  have vR:((f2:Int)==0)=false:=by simpa using tg
  have KU:=ae (HTM.o [] f2 (Or.inr ⟨tg,QO.o.1,rfl,UZ.o l f2 QO.o (fun h=>tg h.1)⟩));clear tg;go_wp2_with fail;go_quiet (fail)
  go_wp2_with fail;go_ret2
  exact⟨_,[],f2,rfl,OwnV.nil _ _,KU.o,aK.o.trans ⟨rfl,rfl,rfl,YA _,fun _ _=>rfl⟩⟩
theorem JX{w:World}{vb:Value}{b:List Nat}(hb:Sv w vb (az .u8 b))(h8:Bs b)(k:Nat)(n:Int) :
  Calls Tryz.prog 214 #[.int .u8 (k:Int),vb,.int .i64 n] w (Pp k b n w):=by
 by_cases hk:1<=k/\k<=3
 ·by_cases hn:0<=n/\n<=256
  ·obtain⟨m,rfl⟩:∃ m:Nat,n=(m:Int):=⟨n.toNat,by omega⟩
   exact EA hb h8 k m hk (by omega)
  ·have yW:=ae (gU k)
   rw[YT hk]at yW;have KU:jaH (rW k b n [] 1):=ae (by unfold rW;rw[Yy hk,Yx hn];exact⟨rfl,rfl⟩);obtain⟨a,cap,rfl,_,_⟩:=hb.form1;clear hb h8 hk;by_cases h0:n<0
   ·clear hn
    go_enter Tryz.func214,Tryz.ntmps214
    go_wp2_with fail;refine(yW.o _).mono ?_;rintro e w1 ⟨rfl,rfl⟩;go_wp2_with fail;go_ret2
    exact⟨_,[],1,rfl,OwnV.nil _ _,KU.o,Yz _ _⟩
   ·have h1:n > 256:=by omega
    clear hn;go_enter Tryz.func214,Tryz.ntmps214
    go_wp2_with fail;refine(yW.o _).mono ?_;rintro e w1 ⟨rfl,rfl⟩;go_wp2_with fail;go_ret2
    exact⟨_,[],1,rfl,OwnV.nil _ _,KU.o,Yz _ _⟩
 ·have yW:=ae (gU k)
  rw[YO hk]at yW;have KU:jaH (rW k b n [] 10):=ae (by unfold rW;rw[Yx hk];exact⟨rfl,rfl⟩);obtain⟨a,cap,rfl,_,_⟩:=hb.form1;clear hb h8 hk;go_enter Tryz.func214,Tryz.ntmps214
  go_wp2_with fail;refine(yW.o _).mono ?_;rintro e w1 ⟨rfl,rfl⟩;go_wp2_with fail;go_ret2
  exact⟨_,[],10,rfl,OwnV.nil _ _,KU.o,Yz _ _⟩
theorem ld(k:Nat)(l:List Nat):(az .u8 l).take k=az .u8 (l.take k):=by simp[az,jah]
theorem jx(k:Nat)(l:List Nat):(az .u8 l).drop k=az .u8 (l.drop k):=by simp[az,List.map_drop]
theorem yH(a b:List Nat)(h:b.length<=a.length):decide (a.take b.length=b)=b.isPrefixOf a:=by
 rw[jaj,Zu,ZV];constructor
 ·intro e
  rw[← e];exact List.take_prefix _ _
 ·rintro⟨t,rfl⟩
  exact ZB
theorem yI(a b:List Nat)(h:a.length<b.length):b.isPrefixOf a=false:=by
 rw[Bool.eq_false_iff,ne_eq,ZV];intro e;have:=e.length_le;omega
theorem Pq{w:World}{va vb:Value}{a b:List Nat}(ha:Sv w va (az .u8 a))(hb:Sv w vb (az .u8 b))(h8:Bs a)(h9:Bs b) :
  Calls Tryz.prog 94 #[va,vb] w fun e w'=>e=.returned (.bool (b.isPrefixOf a))/\w'=w:=by
 obtain⟨aa,ca,rfl,jy,jH⟩:=ha.form1;obtain⟨ab,cb,rfl,TZ,Yd⟩:=hb.form1;rw[am]at *;rw[am]at *;have hc2':ca<=9223372036854775807:=by unfold maxLen at jH;omega
 by_cases h:b.length<=a.length
 ·have hT:=ha.take (k:=b.length) (by rw[am];exact h)
  rw[ld]at hT;have HE:=ae (mA hT hb (h8.take b.length) h9);have HP:=ae (yH a b h);have eO:(a.length:Int)>=(b.length:Int):=by omega
  have ob:b.length<=ca:=by omega
  clear ha hb h8 h9 hT;generalize decide (a.take b.length=b)=d at *;go_enter Tryz.func94,Tryz.ntmps94
  go_wp2_with fail;refine HE.o.mono ?_;rintro e w1 ⟨rfl,rfl⟩;go_wp2_with fail;go_ret
  rw[← HP.o];exact⟨rfl,rfl⟩
 ·have eO:¬ (a.length:Int)>=(b.length:Int):=by omega
  have HP:=ae (yI a b (by omega));clear ha hb h8 h9;go_enter Tryz.func94,Tryz.ntmps94
  go_wp2_with fail;go_ret
  rw[HP.o];exact⟨rfl,rfl⟩
theorem Br{w:World}{aa:Option Addr}{ca:Nat}{vb:Value}{a b:List Nat}(ha:Sv w (.slice aa a.length ca) (az .u8 a))(hb:Sv w vb (az .u8 b))(h8:Bs a)(h9:Bs b) :
  Calls Tryz.prog 52 #[.slice aa a.length ca,vb] w fun e w'=>(∃ v,e=.returned (.tuple #[v,.bool (b.isPrefixOf a)])/\Sv w' v (az .u8 (if b.isPrefixOf a=true then a.drop b.length else a))/\(∀ p,(∀ i,(Value.slice aa a.length ca).ownBlock=some i->i<p)->∀ i,v.ownBlock=some i->i<p))/\w'=w:=by
 have HP:=ae (Pq ha hb h8 h9);obtain⟨ab,cb,rfl,TZ,Yd⟩:=hb.form1;have HA:=ae ha;obtain⟨a',cap',e,jy,jH,hn,_⟩:=ha;simp only[Value.slice.injEq]at e;obtain⟨rfl,_,rfl⟩:=e;simp only[am]at *;have hc2':ca<=9223372036854775807:=by unfold maxLen at jH;omega
 clear hb h8 h9;have mO:b.isPrefixOf a=true->b.length<=a.length:=fun h=>(ZV.1 h).length_le
 generalize b.isPrefixOf a=px at *;cases px
 case true =>
  have hl:b.length<=a.length:=mO rfl;have hD:=HA.o.dropG (k:=b.length) (by rw[am];exact hl);rw[jx,am]at hD;obtain⟨A,hA⟩:∃ A,(if ca=b.length then aa else aa.map fun x=>x.add b.length)=A:=⟨_,rfl⟩;have HBK:=ae (fun(p:Nat) (hp:∀ i,(Value.slice aa a.length ca).ownBlock=some i->i<p)=>ip (m:=a.length-b.length) (k:=b.length) (c:=ca) hp);rw[hA]at hD HBK;have HD:=ae hD;have HAA:=ae hA;have ob:(b.length:Int)<=(ca:Int):=by omega
  have hle2:(b.length:Int)<=(a.length:Int):=by omega
  clear hD HA mO;go_enter Tryz.func52,Tryz.ntmps52
  go_wp2_with fail;refine HP.o.mono ?_;rintro e w1 ⟨rfl,rfl⟩;go_wp2_with fail;go_ret2
  exact⟨⟨_,rfl,HD.o,HBK.o⟩,rfl⟩
 case false =>
  clear mO;go_enter Tryz.func52,Tryz.ntmps52
  go_wp2_with fail;refine HP.o.mono ?_;rintro e w1 ⟨rfl,rfl⟩;go_wp2_with fail;go_ret2
  exact⟨⟨_,rfl,by simpa using HA.o,fun p hp=>hp⟩,rfl⟩
theorem Bt:∀(a:List Nat) (x:Nat),leN (a++[x])=leN a+x*2 ^ (8*a.length)
 | [],x=>by simp[leN]
 | y::a,x=>by
  have h:=Bt a x
  have e:2 ^ (8*(y::a).length)=256*2 ^ (8*a.length):=by
   rw[YI,ZQ,ZM,Zi]
  show y+256*leN (a++[x])=(y+256*leN a)+_
  rw[h,e,ZQ,Nat.mul_left_comm x 256];omega
theorem join8{n c k:Nat}(hk:k<=3)(hn:n<2 ^ (8*k))(hc:c<256):bits .or .u64 (n:Int) (IntKind.u64.wrap ((c:Int)*2 ^ (8*k)))=((n+c*2 ^ (8*k):Nat):Int):=by
 have h1:2 ^ (8*k)<=2 ^ 24:=jag (by omega) (by omega);have h2:c*2 ^ (8*k)<=255*2 ^ 24:=Nat.mul_le_mul (by omega) h1;have e:(c:Int)*2 ^ (8*k)=((c*2 ^ (8*k):Nat):Int):=by simp
 rw[e,wraps_u64 _ (by omega) (by omega)]
 have e2:bits .or .u64 (n:Int) ((c*2 ^ (8*k):Nat):Int)=(n:Int)+((c*2 ^ (8*k):Nat):Int):=by
  apply bits_join_low .u64 64 (by decide) wraps_u64 (8*k)
  ·omega
  ·have:(n:Int)<((2 ^ (8*k):Nat):Int):=by omega
   simpa using this
  ·omega
  ·omega
  ·simp
  ·omega
 rw[e2];omega
theorem yJ{w:World}{v:Value}{l:List Nat}(hs:Sv w v (az .u8 l))(h8:Bs l)(hl:l.length<=4) :
  Calls Tryz.prog 138 #[v] w fun e w'=>e=.returned (.int .u64 ((leN l:Nat):Int))/\w'=w:=by
 have HS:=ae hs;obtain⟨a,cap,rfl,jy,jH⟩:=hs.form1;simp only[am]at *;have H8:=ae h8;clear hs h8;go_enter Tryz.func138,Tryz.ntmps138
 go_wp2_with fail;go_loopw [3,8] (fun n i w'=>w'=w/\∃ k:Nat,k<=l.length/\i=.int .i64 (k:Int)/\n=.int .u64 ((leN (l.take k):Nat):Int)) (fun _ i _=>l.length-(intOf i).toNat)
 case atStart=>exact⟨rfl,0,by omega,rfl,rfl⟩
 case round =>
  obtain⟨rfl,k,hk,rfl,rfl⟩:=hrel;by_cases ar:k<l.length
  ·obtain⟨b,off,rfl,hb,ek⟩:=HS.o.at1 (bG ar)
   have hlt':(k:Int)<(l.length:Int):=(by omega);have ob:=DY (b:=l.take k) (fun x hx=>H8.o x (ZA hx));rw[YH,ZG (by omega)]at ob;have fT:=H8.o _ (YF ar);have hj:=join8 (show k<=3 by omega) ob fT
   have qg:jaH (leN (l.take (k+1))=leN (l.take k)+l[k]*2 ^ (8*k)):=ae (by
    rw[YP ar,Bt,YH,ZG (by omega)])
   have h9:IntKind.i64.wrap (8*(k:Int))=8*(k:Int):=by rw[Zy];omega
   have sO:(8*(k:Int)).toNat=8*k:=(by omega);have h11:IntKind.u64.wrap ((l[k]:Nat):Int)=((l[k]:Nat):Int):=by rw[Zr];omega
   generalize l[k]=c at *;generalize leN (l.take k)=n at *;go_wp2_with fail;go_roundw
   case rel=>exact⟨trivial,k+1,by omega,by go_num,by rw[qg.o];simp⟩
   case measure=>simp[intOf];omega
  ·obtain rfl:k=l.length:=by omega
   have eO:¬ ((l.length:Nat):Int)<(l.length:Int):=(by omega);go_wp2_with fail;go_ret
   exact⟨rfl,rfl⟩
def spl(b:List Nat):Option (List Nat×List Nat) :=
 if b.length<4 then none else if b.length-4<leN (b.drop (b.length-4)) then none
 else some (b.take (b.length-4-leN (b.drop (b.length-4))),(b.take (b.length-4)).drop (b.length-4-leN (b.drop (b.length-4))))
def mb(p:Nat)(v:Value):Prop:=∀ i,v.ownBlock=some i->i<p
theorem JY{w:World}{v:Value}{b:List Nat}(hs:Sv w v (az .u8 b))(h8:Bs b)(hl:b.length<=100000000)(hw:mb w.heap.size v) :
  Calls Tryz.prog 95 #[v] w fun e w'=>(∃ v1 v2,e=.returned (.tuple #[v1,v2,.bool (spl b).isSome])/\(∀ x y,spl b=some (x,y)->Sv w' v1 (az .u8 x)/\Sv w' v2 (az .u8 y)/\mb w.heap.size v1/\mb w.heap.size v2))/\Below w.heap.size w w':=by
 have HS:=ae hs;obtain⟨a',cap,e,jy,jH,hn,hx⟩:=hs;simp only[am]at *;subst e;have hc2':cap<=9223372036854775807:=by unfold maxLen at jH;omega
 have uS:b.length<=9223372036854775807:=by omega
 by_cases h4:b.length<4
 ·have HP:jaH (spl b=none):=ae (Yy h4)
  have ar:(b.length:Int)-4<0:=by omega
  clear h8;go_enter Tryz.func95,Tryz.ntmps95
  go_wp2_with fail;go_ret3
  rw[HP.o];exact⟨⟨_,_,rfl,fun x y h=>by cases h⟩,Yz _ _⟩
 ·obtain⟨n,se⟩:∃ n,b.length=n+4:=⟨b.length-4,by omega⟩
  have hD:=HS.o.dropG (k:=n) (by rw[am];omega);rw[jx,am,se]at hD;obtain⟨A,hA⟩:∃ A,(if cap=n then a' else a'.map fun x=>x.add n)=A:=⟨_,rfl⟩;rw[hA,show n+4-n=4 by omega]at hD
  have hln:leN (b.drop n)<4294967296:=by
   have:=DY (b:=b.drop n) (fun x hx=>h8 x (jav hx));rw[Zf,se,show n+4-n=4 by omega]at this;simpa using this
  have HNU:=ae (yJ hD (h8.drop n) (by rw[Zf,se];omega))
  have HP:jaH (spl b=if n<leN (b.drop n) then none else some (b.take (n-leN (b.drop n)),(b.take n).drop (n-leN (b.drop n)))):=ae (by
   unfold spl;rw[Yx h4,show b.length-4=n by omega])
  have ob:(b.length:Int)-4=(n:Int):=by omega
  have mP:¬ (n:Int)<0:=by omega
  have Qp:(n:Int)<=(cap:Int):=by omega
  have Kv:(n:Int)<=(b.length:Int):=by omega
  have HAA:=ae hA;have Rq:=ae se;rw[se]at jy hw ⊢;clear se;have hle':((n+4:Nat):Int)-4=(n:Int):=by omega
  clear hD h8 ob hx;generalize hN:leN (b.drop n)=N at *;clear hN;go_enter Tryz.func95,Tryz.ntmps95
  have hBE:∀ p,mb p (.slice a' (n+4) cap)->∀ m k,mb p (.slice (if cap=k then a' else a'.map fun x=>x.add k) m (cap-k)):=fun p hp m k=>ip (m:=m) (k:=k) (c:=cap) hp
  go_wp2_with fail;refine HNU.o.mono ?_;rintro e w1 ⟨rfl,rfl⟩;by_cases Ct:n<N
  ·have hgt':(N:Int) > (n:Int):=by omega
   have Qd:jaH (spl b=none):=ae (by rw[HP.o,Yy Ct]);clear HP;go_wp2_with fail;go_ret3
   rw[Qd.o];exact⟨⟨_,_,rfl,fun x y h=>by cases h⟩,Yz _ _⟩
  ·have hgt':¬ (N:Int) > (n:Int):=by omega
   obtain⟨m,hm⟩:∃ m,n=m+N:=⟨n-N,by omega⟩;have Li:n-N=m:=(by omega);have Qd:jaH (spl b=some (b.take m,(b.take n).drop m)):=ae (by rw[HP.o,Yx Ct,Li]);have hT:=HS.o.take (k:=m) (by rw[am,Rq.o];omega);have hD1:=HS.o.take (k:=n) (by rw[am,Rq.o];omega);have vQ:(az .u8 b).length=n+4:=by rw[am];exact Rq.o
   have hD2:=hD1.dropG (k:=m) (by rw[YH,vQ];omega);rw[ld]at hT;rw[ld,jx]at hD2;obtain⟨A2,hA2⟩:∃ A2,(if cap=m then a' else a'.map fun x=>x.add m)=A2:=⟨_,rfl⟩;have hle3:(az .u8 (b.take n)).length-m=N:=by rw[am,YH,Rq.o];omega
   have hB2:=hBE _ hw N m;have bw:¬ cap=m:=(by omega);rw[Yx bw]at hA2 hD2 hB2;clear hA2;rw[hle3]at hD2;have hB1:mb w1.heap.size (.slice a' m cap):=fun i hi=>hw i (by cases a' with | none=>cases hi | some x=>exact hi)
   have HT:=ae hT;have sU:=ae hD2;have aN:=ae hB1;have aK:=ae hB2;have sP:(n:Int)-(N:Int)=(m:Int):=(by omega);have jJ:(0:Int)<=(m:Int):=(by omega);have UT:(m:Int)<=(cap:Int):=(by omega);have hk4:(m:Int)<=(n:Int):=(by omega);have hk5:(n:Int)<=(cap:Int):=(by omega);have Lm:(m:Int).toNat=m:=(by omega);have hk7:(n:Int).toNat=n:=(by omega);have hk8:n-m=N:=(by omega);have hk9:IntKind.i64.wrap (N:Int)=(N:Int):=by rw[Zy];omega
   clear hT hD1 hD2 HP hB1 hB2 hBE Li vQ hle3 hw hm;go_wp2_with fail;go_quiet (fail)
   go_wp2_with fail;go_ret3
   rw[Qd.o];refine⟨⟨_,_,rfl,fun x y h=>?_⟩,ak (Yz _ _) _⟩;simp only[Option.some.injEq,Prod.mk.injEq]at h;obtain⟨rfl,rfl⟩:=h;exact⟨HT.o.kept (ak (Yz _ _) _),sU.o.kept (ak (Yz _ _) _),aN.o,aK.o⟩
def R3(W:World)(p:Nat)(c f:List Nat)(fl:Bool):Prop :=
 ∃ a cap a' cap',W.heap[p]?=some (.cells #[.slice a c.length cap,.slice a' f.length cap',.bool fl] 157 (0,0)) /\
  (Sv W (.slice a c.length cap) (az .u8 c)/\(∀ k,(Value.slice a c.length cap).ownBlock=some k->k<p)/\Bs c) /\
  (Sv W (.slice a' f.length cap') (az .u8 f)/\(∀ k,(Value.slice a' f.length cap').ownBlock=some k->k<p)/\Bs f)
theorem R3.lt{W:World}{p:Nat}{c f:List Nat}{fl:Bool}(h:R3 W p c f fl):p<W.heap.size:=by obtain⟨_,_,_,_,h,_⟩:=h;exact(Array.getElem?_eq_some_iff.1 h).1
theorem R3.bs{W:World}{p:Nat}{c f:List Nat}{fl:Bool}(h:R3 W p c f fl):Bs c/\Bs f:=by obtain⟨_,_,_,_,_,h1,h2⟩:=h;exact⟨h1.2.2,h2.2.2⟩
theorem R3.kept{W W':World}{p B:Nat}{c f:List Nat}{fl:Bool}(h:R3 W p c f fl)(hb:Below B W W')(hp:p<B):R3 W' p c f fl:=by
 obtain⟨a,cap,a',cap',h1,⟨h2,h3,h4⟩,h5,h6,h7⟩:=h;exact⟨a,cap,a',cap',(hb.block p hp).trans h1,⟨h2.keptW (fun _ k hk=>Zm (h3 k hk) hp) hb,h3,h4⟩,h5.keptW (fun _ k hk=>Zm (h6 k hk) hp) hb,h6,h7⟩
theorem OwnV.of_le{W:World}{B B':Nat}{v:Value}{l:List Cl}(h:OwnV W B v l)(hB:B'<=B):OwnV W B' v l:=by
 refine⟨h.1,?_⟩;rcases h.2 with hn | ⟨g,cap,cur,hv,hb,r⟩
 ·exact .inl hn
 ·exact .inr ⟨g,cap,cur,hv,YG hB hb,r⟩
theorem gO{W:World}{p i:Nat}(x:Value):Below p W (W.setCell ⟨p,i,none⟩ x):=(Yz p W).setCell (YA _) x
theorem R3.cells{W:World}{p:Nat}{c f:List Nat}{fl:Bool}(h:R3 W p c f fl) :
  ∃ a cap a' cap',(W.cell? ⟨p,0,none⟩=some (.slice a c.length cap)/\W.cell? ⟨p,1,none⟩=some (.slice a' f.length cap')/\W.cell? ⟨p,2,none⟩=some (.bool fl)) /\
   (W.frozen? ⟨p,0,none⟩=false/\W.frozen? ⟨p,1,none⟩=false/\W.frozen? ⟨p,2,none⟩=false) /\
   (c.length<=cap/\cap<=9223372036854775807/\f.length<=cap'/\cap'<=9223372036854775807) /\
   (Sv W (.slice a c.length cap) (az .u8 c)/\(∀ k,(Value.slice a c.length cap).ownBlock=some k->k<p)) /\
   (Sv W (.slice a' f.length cap') (az .u8 f)/\(∀ k,(Value.slice a' f.length cap').ownBlock=some k->k<p)) /\
   (∀ fl',R3 (W.setCell ⟨p,2,none⟩ (.bool fl')) p c f fl') /\
   (∀ k,k<=c.length->∃ A,(if cap=k then a else a.map fun x=>x.add k)=A/\R3 (W.setCell ⟨p,0,none⟩ (.slice A (c.length-k) (cap-k))) p (c.drop k) f fl) /\
   (∀ k,k<=f.length->∃ A,(if cap'=k then a' else a'.map fun x=>x.add k)=A/\R3 (W.setCell ⟨p,1,none⟩ (.slice A (f.length-k) (cap'-k))) p c (f.drop k) fl) /\
   (∀ v g,Sv W v (az .u8 g)->Bs g->(∀ k,v.ownBlock=some k->k<p)->R3 (W.setCell ⟨p,1,none⟩ v) p c g fl):=by
 obtain⟨a,cap,a',cap',h1,⟨h2,h3,h4⟩,h5,h6,h7⟩:=h;have da:∀ i (x:Value),Sv (W.setCell ⟨p,i,none⟩ x) (.slice a c.length cap) (az .u8 c):=fun i x=>h2.keptW (fun _=>h3) (gO x)
 have cP:∀ i (x:Value),Sv (W.setCell ⟨p,i,none⟩ x) (.slice a' f.length cap') (az .u8 f):=fun i x=>h5.keptW (fun _=>h6) (gO x)
 obtain⟨x1,c1,e1,jy,jH⟩:=h2.form1;obtain⟨x2,c2,e2,TZ,Yd⟩:=h5.form1;rw[am]at e1 jy e2 TZ;simp only[Value.slice.injEq]at e1 e2;obtain⟨rfl,_,rfl⟩:=e1;obtain⟨rfl,_,rfl⟩:=e2
 refine⟨a,cap,a',cap',⟨by rw[an h1];rfl,by rw[an h1];rfl,by rw[an h1];rfl⟩,⟨by simp[World.frozen?,h1],by simp[World.frozen?,h1],by simp[World.frozen?,h1]⟩,
  ⟨jy,by unfold maxLen at jH;omega,TZ,by unfold maxLen at Yd;omega⟩,⟨h2,h3⟩,⟨h5,h6⟩,fun fl'=>?_,fun k hk=>?_,fun k hk=>?_,fun v g hv hg hvb=>?_⟩
 ·exact⟨a,cap,a',cap',by rw[ce h1];rfl,⟨da _ _,h3,h4⟩,cP _ _,h6,h7⟩
 ·refine⟨_,rfl,?_⟩
  have hd:=h2.dropG (k:=k) (by rw[am];exact hk);rw[am,jx]at hd;have gV:=ip (m:=c.length-k) (k:=k) (c:=cap) h3;refine⟨_,cap-k,a',cap',by rw[ce h1,Zf];rfl,⟨?_,?_,h4.drop k⟩,cP _ _,h6,h7⟩
  ·rw[Zf]
   exact hd.keptW (fun _=>gV) (gO _)
  ·rw[Zf]
   exact gV
 ·refine⟨_,rfl,?_⟩
  have hd:=h5.dropG (k:=k) (by rw[am];exact hk);rw[am,jx]at hd;have gV:=ip (m:=f.length-k) (k:=k) (c:=cap') h6;refine⟨a,cap,_,cap'-k,by rw[ce h1,Zf];rfl,⟨da _ _,h3,h4⟩,?_,?_,h7.drop k⟩
  ·rw[Zf]
   exact hd.keptW (fun _=>gV) (gO _)
  ·rw[Zf]
   exact gV
 ·obtain⟨av,cv,rfl,_,_⟩:=hv.form1
  rw[am]at *;exact⟨a,cap,av,cv,by rw[ce h1];rfl,⟨da _ _,h3,h4⟩,hv.keptW (fun _=>hvb) (gO _),hvb,hg⟩
theorem R3.cells2{W U:World}{p:Nat}{c f:List Nat}{fl:Bool}(h:R3 W p c f fl)(hU:Below W.heap.size W U){a:Option Addr}{n cap:Nat}(hc:W.cell? ⟨p,1,none⟩=some (.slice a n cap)) :
  Sv U (.slice a f.length cap) (az .u8 f)/\∀ i,(Value.slice a f.length cap).ownBlock=some i->i<p:=by
 obtain⟨_,_,a',cap',⟨_,c1,_⟩,_,_,_,⟨s1,s2⟩,_⟩:=(h.kept hU h.lt).cells;rw[hU.cell h.lt,hc]at c1;simp only[Option.some.injEq,Value.slice.injEq]at c1;obtain⟨rfl,rfl,rfl⟩:=c1;exact⟨s1,s2⟩
theorem nX{w:World}{p:Nat}{c f:List Nat}{fl:Bool}(h:R3 w p c f fl)(lo hi:Nat)(h1:lo<=9223372036854775807)(h2:hi<=9223372036854775807) :
  Calls Tryz.prog 141 #[.pointer (some ⟨p,0,none⟩),.int .i64 (lo:Int),.int .i64 (hi:Int)] w fun r w'=>r=.returned (.int .i64 (eY lo hi f:Int))/\R3 w' p c (cN f) (fl || kG lo hi f)/\Fr p w.heap.size w w':=by
 obtain⟨a,cap,a',cap',⟨c0,c1,c2⟩,⟨f0,f1,f2⟩,⟨l1,l2,l3,l4⟩,_,⟨s1,s2⟩,_,_,k1,_⟩:=h.cells;obtain⟨g1,g2,g3,g4⟩:=eI f;have HG:=ae (xQ h.bs.2 s1);obtain⟨A,hA,hR⟩:=k1 (gt f).2.1 g2;have HF:=ae ((Fr.refl p w.heap.size w).set 1 (.slice A (f.length-(gt f).2.1) (cap'-(gt f).2.1)));have HR:=ae hR;have HB:jaH (kG lo hi f=!decide ((gt f).2.2=0/\lo<=(gt f).1/\(gt f).1<=hi)):=ae rfl;have HV:jaH (eY lo hi f=if kG lo hi f=true then 0 else (gt f).1):=ae rfl;have HT:jaH (cN f=f.drop (gt f).2.1):=ae rfl;rw[HT.o];clear h k1 s1 s2 hR HT;generalize kG lo hi f=bd at *;generalize eY lo hi f=vw at *;generalize gt f=x at *;obtain⟨n,u,er⟩:=x;simp only at *;unfold jG at HG;have hu:(u:Int)<=(f.length:Int):=by omega
 have hw1:IntKind.u64.wrap (lo:Int)=(lo:Int):=by rw[Zr];omega
 have np:IntKind.u64.wrap (hi:Int)=(hi:Int):=by rw[Zr];omega
 obtain⟨A0,Cap,B0,Cap',⟨d0,d1,d2⟩,⟨e0,e1,e2⟩,_,_,_,k2,_,_,_⟩:=HR.o.cells;have HK2:=ae (k2 true);have eT:=ae (HF.o.set 2 (.bool true));clear k2;by_cases her:er=0
 ·subst her
  have fb:(((0:Nat):Int) != 0)=false:=by simp
  by_cases hlo:n<lo
  ·have hb:bd=true:=by rw[HB.o];simp;omega
   subst hb;have hv:vw=0:=by rw[HV.o];rfl
   subst hv;rw[Bool.or_true];have ar:(n:Int)<(lo:Int):=(by omega);clear HB HV;go_enter Tryz.func141,Tryz.ntmps141
   go_wp2_with fail;refine HG.o.mono ?_;rintro e w1 ⟨rfl,rfl⟩;go_wp2_with fail;go_ret
   exact⟨rfl,HK2.o,eT.o⟩
  ·have hnlt:¬ (n:Int)<(lo:Int):=by omega
   by_cases KB:hi<n
   ·have hb:bd=true:=by rw[HB.o];simp;omega
    subst hb;have hv:vw=0:=by rw[HV.o];rfl
    subst hv;rw[Bool.or_true];have Ct:(n:Int) > (hi:Int):=(by omega);clear HB HV;go_enter Tryz.func141,Tryz.ntmps141
    go_wp2_with fail;refine HG.o.mono ?_;rintro e w1 ⟨rfl,rfl⟩;go_wp2_with fail;go_ret
    exact⟨rfl,HK2.o,eT.o⟩
   ·have hb:bd=false:=by rw[HB.o];simp;omega
    subst hb;have hv:vw=n:=by rw[HV.o];rfl
    subst hv;rw[Bool.or_false];have Ct:¬ (vw:Int) > (hi:Int):=(by omega);have hwn:IntKind.i64.wrap (vw:Int)=(vw:Int):=by rw[Zy];omega
    clear HB HV;go_enter Tryz.func141,Tryz.ntmps141
    go_wp2_with fail;refine HG.o.mono ?_;rintro e w1 ⟨rfl,rfl⟩;go_wp2_with fail;go_ret
    exact⟨rfl,HR.o,HF.o⟩
 ·have hb:bd=true:=by rw[HB.o];simp;omega
  subst hb;have hv:vw=0:=by rw[HV.o];rfl
  subst hv;rw[Bool.or_true]
  have fb:((er:Int) != 0)=true:=by
   have:(er:Int)≠0:=by omega
   simpa using this
  clear HB HV;go_enter Tryz.func141,Tryz.ntmps141
  go_wp2_with fail;refine HG.o.mono ?_;rintro e w1 ⟨rfl,rfl⟩;go_wp2_with fail;go_ret
  exact⟨rfl,HK2.o,eT.o⟩
theorem JZ{w:World}{p:Nat}{c f:List Nat}{fl:Bool}(h:R3 w p c f fl)(k n:Nat)(hk:1<=k/\k<=3)(hn:n<=64)(fT:c.length<=100000000) :
  Calls Tryz.prog 181 #[.pointer (some ⟨p,0,none⟩),.int .u8 (k:Int),.int .i64 (n:Int)] w fun r w'=>∃ v,r=.returned v/\OwnV w' w.heap.size v (gm k n (c,f,fl)).1/\R3 w' p (gm k n (c,f,fl)).2.1 (gm k n (c,f,fl)).2.2.1 (gm k n (c,f,fl)).2.2.2/\Fr p w.heap.size w w':=by
 have ar:=h.lt;have HW:=ae (nX h 0 c.length (by omega) (by omega));have HM:jaH (gm k n (c,f,fl)=((fh k (c.take (eY 0 c.length f)) n).getD [],(c.drop (eY 0 c.length f),cN f,(fl || kG 0 c.length f) || (fh k (c.take (eY 0 c.length f)) n).isNone))):=ae rfl;have Xg:=pj 0 c.length f;obtain⟨a,cap,a',cap',⟨c0,c1,c2⟩,⟨f0,f1,f2⟩,⟨l1,l2,l3,l4⟩,y1,y2,y3,y4,y5⟩:=h.cells;clear h y1 y2 y3 y4 y5;rw[HM.o];clear HM;obtain⟨g,hg⟩:∃ g,(fl || kG 0 c.length f)=g:=⟨_,rfl⟩;rw[hg]at HW ⊢;clear hg;generalize eY 0 c.length f=m at *;generalize cN f=rf at *;obtain⟨L,hL⟩:∃ L,(fh k (c.take m) n).getD []=L:=⟨_,rfl⟩;obtain⟨D,hD⟩:∃ D,(fh k (c.take m) n).isNone=D:=⟨_,rfl⟩;rw[hL,hD];have HLD:=ae (And.intro hL hD);clear hL hD;go_enter Tryz.func181,Tryz.ntmps181
 go_wp2_with fail;refine HW.o.mono ?_;rintro e w1 ⟨rfl,da,cB⟩;clear c0 c1 c2 f0 f1 f2 l1 l2 l3 l4;obtain⟨a,cap,a',cap',⟨c0,c1,c2⟩,⟨f0,f1,f2⟩,⟨l1,l2,l3,l4⟩,⟨t1,t2⟩,y1,y2,y3,y4⟩:=da.cells;have hT:=t1.take (k:=m) (by rw[am];exact Xg);rw[ld]at hT;have HC:=ae (JX hT (da.bs.1.take m) k n);have gI:=ae da;have eB:=ae cB;have Ua:(m:Int)<=(c.length:Int):=by omega
 have uS:(m:Int)<=(cap:Int):=by omega
 have uX:=ae cB.size;clear da cB t1 t2 hT y1 y2 y3 y4;go_wp2_with fail;refine HC.o.mono ?_;rintro e w2 ⟨v,l,er,rfl,ho,ht,hb⟩;have cP:=gI.o.kept hb gI.o.lt;have cK:=eB.o.then (hb.mono uX.o)
 have ec:=ae ho;have eP:=ae cP;have eT:=ae cK;have TT:fh k (c.take m) n=none∨∃ y,fh k (c.take m) n=some y:=by cases fh k (c.take m) n<;>simp
 have KU:jaH (L=l/\D=((er:Int) != 0)):=ae (by
  rw[← HLD.o.1,← HLD.o.2];unfold rW at ht;rw[Yy hk,Yy (by omega),Ze]at ht;rcases ht with ⟨rfl,e⟩ | ⟨h0,_,rfl,e⟩
  ·rw[e];exact⟨rfl,by simp⟩
  ·rw[e]
   have:((er:Int) != 0)=true:=by
    have:(er:Int)≠0:=by omega
    simpa using this
   exact⟨rfl,by rw[this];rfl⟩)
 obtain⟨rfl,hd0⟩:=KU.o;have hd:=hd0.symm;clear KU hd0
 have jF:jaH (R3 (w2.setCell ⟨p,2,none⟩ (.bool (g || D))) p c rf (g || D)):=ae (by
  obtain⟨_,_,_,_,_,_,_,_,_,k2,_⟩:=eP.o.cells;exact k2 _)
 have og:=ae (eT.o.set 2 (.bool (g || D)));clear c0 c1 c2 f0 f1 f2 l1 l2 l3 l4 Ua uS;obtain⟨a2,cap2,a2',cap2',⟨c0,c1,c2⟩,⟨f0,f1,f2⟩,⟨l1,l2,l3,l4⟩,y1,y2,y3,y4,y5⟩:=eP.o.cells;obtain⟨a3,cap3,a3',cap3',⟨q0,q1,q2⟩,z0,x1,z1,z2,x2,y0,x3⟩:=jF.o.cells;have Lq:=q0;rw[show (w2.setCell ⟨p,2,none⟩ (.bool (g || D))).cell? ⟨p,0,none⟩=w2.cell? ⟨p,0,none⟩ from World.cell?_setCell_other _ _ _ _ (by simp),c0]at Lq;simp only[Option.some.injEq,Value.slice.injEq,true_and]at Lq;obtain⟨rfl,rfl⟩:=Lq;obtain⟨A,hA,hR4⟩:=y0 m Xg;have Ua:(m:Int)<=(c.length:Int):=by omega
 have uS:(m:Int)<=(cap2:Int):=by omega
 have xA:=ae hR4;have zj:=ae (og.o.set 0 (.slice A (c.length-m) (cap2-m)));have fU:=ae (show OwnV _ w1.heap.size v L from Fr.own (((Fr.refl p w2.heap.size w2).set 2 (.bool (g || D))).set 0 (.slice A (c.length-m) (cap2-m))) ec.o gI.o.lt);have HSZ1:=ae uX.o;clear y0 y1 y2 y3 y4 y5 x1 x2 x3 hR4 cP cK hb ho ht TT q0 q1 q2 z0 z1 z2;have hsz0:w.heap.size<=w1.heap.size:=uX.o;rcases g with _ | _<;>rcases D with _ | _
 all_goals
  go_wp2_with fail;go_ret
  exact⟨_,rfl,OwnV.of_le fU.o HSZ1.o,xA.o,zj.o⟩
theorem Bu{w:World}{p:Nat}{c f:List Nat}{fl:Bool}(h:R3 w p c f fl){v:Value}{l:List Cl}(hs:Sv w v (aC l))(hf:∀ x∈l,aI x)(hl:l.length<=256) :
  Calls Tryz.prog 182 #[.pointer (some ⟨p,0,none⟩),v] w fun r w'=>r=.returned (kU (bJ l))/\R3 w' p (nQ l (c,f,fl)).1 (nQ l (c,f,fl)).2.1 (nQ l (c,f,fl)).2.2/\Fr p w.heap.size w w':=by
 have ar:=h.lt;have bN:=Stb.new w stZ;have cO:=aj w (.cells #[.int .i64 0,.int .i64 0,.bool false,.bool false,.int .u8 0,.int .i64 0,.string ⟨#[]⟩,.int .u8 0,.int .i64 0,.string ⟨#[]⟩] 54);have hz0':Stb (w.alloc (.cells #[.int .i64 0,.int .i64 0,.bool false,.bool false,.int .u8 0,.int .i64 0,.string ⟨#[]⟩,.int .u8 0,.int .i64 0,.string ⟨#[]⟩] 54)) w.heap.size stZ:=bN;have Gv:=hs.kept cO;have Uc:=ae (h.kept cO ar);obtain⟨⟨M1,M2,M3⟩,hM⟩:∃ R:S3,nQ l (c,f,fl)=R:=⟨_,rfl⟩;have HM:jaH ((M1,M2,M3)=if (eS (bJ l)).isPrefixOf f=true then (c,f.drop (eS (bJ l)).length,fl) else (c,f,true)):=ae (hM.symm.trans rfl);rw[hM];clear hM;obtain⟨m1,m2⟩:=kV hf;obtain⟨nn,m3,m4⟩:=lW l;have m5:∃ n:Nat,(bJ l).nulls=(n:Int)/\n<=1000000:=⟨nn,m3,by omega⟩;have co:=ae (lT m1 m2 m5);have Cg:=ae (qP m1 m2 m5).2;have Ym:=ae (qF Gv hf (by omega));have Rx:=ae hz0';have bV:=ae cO;have sA:(w.alloc (.cells #[.int .i64 0,.int .i64 0,.bool false,.bool false,.int .u8 0,.int .i64 0,.string ⟨#[]⟩,.int .u8 0,.int .i64 0,.string ⟨#[]⟩] 54)).heap.size=w.heap.size+1:=YB _ _;have uX:=ae sA;obtain⟨a,cap,rfl,aV,bw⟩:=hs.form1;rw[ax]at *;clear hs hf cO bN hz0' Gv m1 m2 m3 m4 m5 sA h;generalize hA:w.alloc (.cells #[.int .i64 0,.int .i64 0,.bool false,.bool false,.int .u8 0,.int .i64 0,.string ⟨#[]⟩,.int .u8 0,.int .i64 0,.string ⟨#[]⟩] 54)=A at *;generalize eS (bJ l)=sb at *;generalize bJ l=st at *;obtain⟨x1,x2,x3,x4,⟨y1,y2,y3⟩,z1,z2,z3⟩:=st;unfold kU at *;simp only at *;go_enter Tryz.func182,Tryz.ntmps182
 go_wp2_with fail;try rw[hA]
 refine Ym.o.mono ?_;rintro e w1 ⟨rfl,aA⟩;have qf:=ae (Uc.o.kept aA Uc.o.lt);have aN:=ae aA;have Yj:=ae (Rx.o.kept aA);have KN:=aj w1 (.cells #[.int .i64 x1,.int .i64 x2,.bool x3,.bool x4,.int .u8 (y1:Int),.int .i64 y2,.string (ai y3),.int .u8 (z1:Int),.int .i64 z2,.string (ai z3)] 54);have HQ:=ae (show Stb _ w1.heap.size ⟨x1,x2,x3,x4,(y1,y2,y3),(z1,z2,z3)⟩ from Stb.new w1 ⟨x1,x2,x3,x4,(y1,y2,y3),(z1,z2,z3)⟩);have jF:=ae (qf.o.kept KN qf.o.lt);have Gz:=ae (Yj.o.kept KN);have aK:=ae KN;have sB:(w1.alloc (.cells #[.int .i64 x1,.int .i64 x2,.bool x3,.bool x4,.int .u8 (y1:Int),.int .i64 y2,.string (ai y3),.int .u8 (z1:Int),.int .i64 z2,.string (ai z3)] 54)).heap.size=w1.heap.size+1:=YB _ _;have WV:=ae sB;clear aA KN hA Uc Rx sB;generalize hB:w1.alloc (.cells #[.int .i64 x1,.int .i64 x2,.bool x3,.bool x4,.int .u8 (y1:Int),.int .i64 y2,.string (ai y3),.int .u8 (z1:Int),.int .i64 z2,.string (ai z3)] 54)=B at *;go_upto_region 2 with fail
 try rw[hB]
 obtain⟨a1,cap1,a1',cap1',⟨c0,c1,c2⟩,⟨f0,f1,f2⟩,⟨l1,l2,l3,l4⟩,k1,⟨s1,s2⟩,k3,k4,k5,k6⟩:=jF.o.cells;obtain⟨_,⟨q0,q1,q2,q3⟩,⟨q4,q5,q6⟩,q7,q8,q9⟩:=HQ.o.at;simp only[YY]at q0 q1 q2 q3 q4 q5 q6 q7 q8 q9
 have Cy:jaH (∀ U,Below B.heap.size B U->Calls Tryz.prog 84 #[.agg #[.int .i64 x1,.int .i64 x2,.bool x3,.bool x4,.int .u8 (y1:Int),.int .i64 y2,.string (ai y3),.int .u8 (z1:Int),.int .i64 z2,.string (ai z3)]] U fun e w'=>∃ v,e=.returned v/\Sv w' v (az .u8 sb)/\Below B.heap.size B w'/\w'.cell? ⟨p,1,none⟩=some (.slice a1' f.length cap1')):=ae (fun U hU=>by
  refine(co.o U).mono ?_;rintro e w' ⟨⟨v,rfl,ho⟩,hb⟩;have sd:=ag hU hb;exact⟨v,rfl,ho.sv,sd,(sd.cell jF.o.lt).trans c1⟩)
 have TW:jaH (∀ U vb,Below B.heap.size B U->Sv U vb (az .u8 sb)->Calls Tryz.prog 52 #[.slice a1' f.length cap1',vb] U fun e w'=>(∃ v,e=.returned (.tuple #[v,.bool (sb.isPrefixOf f)])/\Sv w' v (az .u8 (if sb.isPrefixOf f=true then f.drop sb.length else f))/\∀ i,v.ownBlock=some i->i<p)/\w'=U):=ae (fun U vb hU hvb=>by
  refine(Br (jF.o.cells2 hU c1).1 hvb jF.o.bs.2 Cg.o).mono ?_;rintro e w' ⟨⟨v,rfl,hv,hvp⟩,rfl⟩;exact⟨⟨v,rfl,hv,hvp p (jF.o.cells2 hU c1).2⟩,rfl⟩)
 clear k1 s1 s2 k3 k4 k5 k6;generalize sb.isPrefixOf f=px at *;go_cut [6,7] from 10 (fun s6 s7 wx=>s7=.bool px/\Sv wx s6 (az .u8 (if px=true then f.drop sb.length else f))/\(∀ i,s6.ownBlock=some i->i<p)/\Below B.heap.size B wx)
 case first =>
  refine wp_region_noPanic ?_
  go_region_law (first
   | (go_simp;go_at_call 84;refine(Cy.o _ ?_).mono ?_;exact ak (Yz B.heap.size B) _;rintro e w5 ⟨v5,rfl,lD,bv,Xl⟩;have om:=ae lD;have aJ:=ae bv;clear lD bv;dsimp only)
   | (go_simp;go_at_call 52;refine(TW.o _ _ aJ.o om.o).mono ?_;rintro e w6 ⟨⟨v6,rfl,uM,Yn⟩,rfl⟩;have HS6:=ae uM;have WW:=ae Yn;clear uM Yn;dsimp only)
   | fail)
  all_goals refine NoPanic.normal ?_
  all_goals (go_wp2_with fail;go_meet)
  all_goals exact⟨rfl,HS6.o,WW.o,aJ.o⟩
 case rest =>
 clear c0 c1 c2 f0 f1 f2 l1 l2 l3 l4 q0 q1 q2 q3 q4 q5 q6 q7 q8 q9 Cy TW co Ym;obtain⟨rfl,uM,Yn,dP⟩:=hcut;have HG:jaH (Bs (if px=true then f.drop sb.length else f)):=ae (by have:=jF.o.bs.2;split;exact this.drop _;exact this);have Va:=jF.o.kept dP jF.o.lt;have jE:=Gz.o.kept dP;have KM:=HQ.o.kept dP;have lE:Below w.heap.size w wc:=ag bV.o (ag aN.o (ag aK.o dP));have hsw:w.heap.size<w1.heap.size:=by have:=uX.o;have:=aN.o.size;omega
 have ll:w.heap.size<=wc.heap.size:=lE.size;obtain⟨g,hg⟩:∃ g,(fl || !px)=g:=⟨_,rfl⟩;obtain⟨G,hG⟩:∃ G,(if px=true then f.drop sb.length else f)=G:=⟨_,rfl⟩;rw[hG]at uM HG
 have KJ:jaH ((M1,M2,M3)=(c,G,g)):=ae (by
  rw[HM.o,← hG,← hg];cases px<;>simp)
 have gC:Fr p w.heap.size w wc:=Fr.of_below lE;obtain⟨a1,cap1,a1',cap1',⟨c0,c1,c2⟩,⟨f0,f1,f2⟩,⟨l1,l2,l3,l4⟩,k1,k2,k3,k4,k5,k6⟩:=Va.cells;have Vb:=k3 g;have no:=gC.set 2 (.bool g);obtain⟨_,_,_,_,_,_,_,_,_,_,_,_,k7⟩:=Vb.cells;have Lo:=k7 u6 G (uM.keptW (fun _=>Yn) (gO _)) HG.o Yn;have gD:=no.set 1 u6;have Ye:=(KM.other (p:=p) (by have:=ar;omega) 2 (.bool g)).other (p:=p) (by have:=ar;omega) 1 u6;have zi:=(jE.other (p:=p) (by have:=ar;omega) 2 (.bool g)).other (p:=p) (by have:=ar;omega) 1 u6;have jK:=Ay (W:=(wc.setCell ⟨p,2,none⟩ (.bool g)).setCell ⟨p,1,none⟩ u6) (Yz w.heap.size _) (YA _) (.int .i64 x1) (.int .i64 x2) (.bool x3) (.bool x4) (.int .u8 (y1:Int)) (.int .i64 y2) (.string (ai y3)) (.int .u8 (z1:Int)) (.int .i64 z2) (.string (ai z3));have CA:=ae (Lo.kept jK ar);have Ui:=ae (gD.trans (Fr.of_below jK));obtain⟨_,⟨q0,q1,q2,q3⟩,⟨q4,q5,q6⟩,q7,q8,q9⟩:=KM.at;obtain⟨_,⟨r0,r1,r2,r3⟩,⟨r4,r5,r6⟩,r7,r8,r9⟩:=jE.at;simp only[YY]at q0 q1 q2 q3 q4 q5 q6 q7 q8 q9 r0 r1 r2 r3 r4 r5 r6 r7 r8 r9;have fg:=KM.frozen;have fz:=jE.frozen;have Qp:¬ w1.heap.size=w.heap.size:=by omega
 have Kv:¬ w.heap.size=w1.heap.size:=by omega
 have hn3:¬ p=w.heap.size:=by omega
 have hn4:¬ p=w1.heap.size:=by omega
 have hn5:¬ w.heap.size=p:=by omega
 have hn6:¬ w1.heap.size=p:=by omega
 have fV:∃ a6 n6 c6,u6=.slice a6 n6 c6:=by obtain⟨_,_,h,_⟩:=uM.form1;exact⟨_,_,_,h⟩
 obtain⟨a6,n6,c6,rfl⟩:=fV;clear k1 k2 k3 k4 k5 k6 k7 Vb no Lo gD Ye zi jK Va jE KM uM Yn dP gC hG lE HM
 have Ce:jaH (∀ W,R3 W p c G g->R3 W p M1 M2 M3):=ae (fun W hW=>by
  have e:=KJ.o;simp only[Prod.mk.injEq]at e;rw[e.1,e.2.1,e.2.2];exact hW)
 cases fl<;>cases px
 all_goals
  simp only[Bool.not_true,Bool.not_false,Bool.or_false,Bool.or_true,Bool.true_or,Bool.false_or]at hg;subst hg;go_wp2_with fail;refine bodyPost_ret (v:=.agg #[.int .i64 x1,.int .i64 x2,.bool x3,.bool x4,.int .u8 (y1:Int),.int .i64 y2,.string (ai y3),.int .u8 (z1:Int),.int .i64 z2,.string (ai z3)]) (by simp[results,Tryz.results182,go_sem,Qp,Kv,hn3,hn4,hn5,hn6,r0,r1,r2,r3,r4,r5,r6,r7,r8,r9]) rfl ⟨rfl,Ce.o _ CA.o,Ui.o⟩
def Ss(W:World)(v:Value)(l:List Stt):Prop:=∃ a cap,v=.slice a l.length cap/\l.length<=cap/\cap<=maxLen/\(0<l.length->∃ b off,a=some ⟨b,off,none⟩/\∀ j (h:j<l.length),DO W b (off+j*10) l[j])
theorem Ss.kept{W W':World}{v:Value}{l:List Stt}(h:Ss W v l)(hb:Below W.heap.size W W'):Ss W' v l:=by
 obtain⟨a,cap,h1,h2,h3,h4⟩:=h;refine⟨a,cap,h1,h2,h3,fun h0=>?_⟩;obtain⟨b,off,h5,h6⟩:=h4 h0;exact⟨b,off,h5,fun j h=>(h6 j h).kept hb⟩
theorem Ss.form{W:World}{v:Value}{l:List Stt}(h:Ss W v l):∃ a cap,v=.slice a l.length cap/\l.length<=cap/\cap<=maxLen:=by
 obtain⟨a,cap,h1,h2,h3,_⟩:=h;exact⟨a,cap,h1,h2,h3⟩
theorem Ss.at{W:World}{a:Option Addr}{n cap:Nat}{l:List Stt}(h:Ss W (.slice a n cap) l){i:Nat}(hi:i<l.length):∃ g o,a=some ⟨g,o,none⟩/\DO W g (o+i*10) l[i]:=by
 obtain⟨a',cap',e,_,_,h4⟩:=h;simp only[Value.slice.injEq]at e;obtain⟨rfl,_,_⟩:=e;obtain⟨g,o,rfl,h6⟩:=h4 (by omega);exact⟨g,o,rfl,h6 i hi⟩
def qQ(W:World)(q si:Nat)(fv sv:Value)(l:List Fd)(r:List Stt):Prop :=
 q<W.heap.size/\W.cell? ⟨q,0,none⟩=some (.int .u32 (si:Int))/\W.cell? ⟨q,1,none⟩=some fv/\W.cell? ⟨q,2,none⟩=some sv/\Sf W fv l/\Ss W sv r
theorem qQ.kept{W W':World}{q si:Nat}{fv rv:Value}{l:List Fd}{r:List Stt}(h:qQ W q si fv rv l r)(hb:Below W.heap.size W W'):qQ W' q si fv rv l r:=by
 obtain⟨h0,h1,h2,h3,h4,h5⟩:=h;have e:∀ o,W'.cell? ⟨q,o,none⟩=W.cell? ⟨q,o,none⟩:=fun o=>(fd hb).1 q o h0
 exact⟨Za h0 hb.size,by rw[e];exact h1,by rw[e];exact h2,by rw[e];exact h3,h4.kept hb,h5.kept hb⟩
theorem Bv{l:List Fd}{r:List Stt}{op f:Nat}{c:Cl}(h:gF l f=none):js l r op f c=(true,true,true):=by unfold js;rw[h]
theorem Bw{l:List Fd}{r:List Stt}{op f j:Nat}{c:Cl}(h:gF l f=some j)(hj:¬ j<r.length):js l r op f c=(true,true,true):=by
 unfold js;rw[h];simp only;rw[List.getElem?_eq_none (by omega)]
theorem Ka{l:List Fd}{r:List Stt}{op f j:Nat}{c:Cl}(h:gF l f=some j)(hj:j<r.length):js l r op f c=DL op c r[j]:=by
 unfold js;rw[h];simp only;rw[List.getElem?_eq_getElem hj]
end Go.Proofs.YtpljdjmpamjkhaaGreatDoor
