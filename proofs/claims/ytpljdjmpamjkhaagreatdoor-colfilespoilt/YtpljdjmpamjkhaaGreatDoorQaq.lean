import Derived.Test.YtpljdjmpamjkhaaGreatDoorQap
import Derived.Lib.SmallJoins
set_option linter.unusedVariables false
set_option linter.unusedSimpArgs false
set_option maxRecDepth 100000
set_option maxHeartbeats 4000000
namespace Go.Proofs.YtpljdjmpamjkhaaGreatDoor
open Go.RowKit Go.Lib
theorem Sv.toK{W:World}{v:Value}{l:List Nat}(h:Sv W v (aF .u8 l)):SvK W v l:=by
 obtain⟨a,cap,h1,h2,h3,h4,h5⟩:=h;rw[ap]at *;refine⟨a,cap,h1,h2,h3,h4,fun h0=>?_⟩;obtain⟨b,off,h6,h7,h8⟩:=h5 h0;exact⟨b,off,h6,h7,fun j hj=>h8 j _ (bU hj)⟩
theorem SvK.toS{W:World}{v:Value}{l:List Nat}(h:SvK W v l):Sv W v (aF .u8 l):=by
 obtain⟨a,cap,h1,h2,h3,h4,h5⟩:=h;refine⟨a,cap,by rw[ap];exact h1,by rw[ap];exact h2,h3,h4,fun h0=>?_⟩;rw[ap]at h0;obtain⟨b,off,h6,h7,h8⟩:=h5 h0;refine⟨b,off,h6,h7,fun j x hj=>?_⟩
 have tR:j<l.length:=by
  have:=(List.getElem?_eq_some_iff.1 hj).1;rwa[ap]at this
 rw[bU tR]at hj;cases hj
 exact h8 j tR
theorem PD(id:Nat)(fs:List Fd):Bs (dH id fs):=by
 unfold dH;refine Bs.app (Bs.app hO hO) ?_;intro x hx;unfold ia at hx;obtain⟨f,_,hf⟩:=List.mem_flatMap.1 hx;unfold ix at hf;exact Bs.app (Bs.app (Bs.app (Bs.app hO hO) (Dv _)) hO) hO x hf
theorem mU{id:Nat}{fs:List Fd}(hc:chk id fs=0):szs fs<5000/\fs.length<=8/\0<fs.length:=by
 obtain⟨hrise,h0,h8,hi0⟩:=qN hc
 have kT:fe [] fs=0:=by
  unfold chk at hc;rw[jeh (by omega)]at hc;exact hc
 have hn:=qP kT
 have:∀ m:List Fd,(∀ f∈m,f.2.1.size<=16)->szs m<=16*m.length:=by
  intro m;induction m with
  | nil=>intro _;simp[szs]
  | cons x t ih =>
   intro hx;have h1:=ih (fun f hf=>hx f (jfB _ hf));have h2:=hx x (List.mem_cons_self ..);unfold szs at *;simp only[jeT,List.sum_cons,jer];omega
 have:=this fs hn;omega
theorem rZ{id:Nat}{fs:List Fd}{rs:List Row}{g:Nat}(ho:∀ f∈fs,Okf f)(lM:id<4294967296)(hc:chk id fs=0)(nD:rs.length<=256)(eZ:1<=g)(gY:g<=64)(dq:jR fs rs):(gm id fs rs g).length<=400000/\Bs (gm id fs rs g):=by
 obtain⟨hz,hl,_⟩:=mU hc;have hk:=ip hc;have h1:=fQ ho (by omega) hz fs.length;rw[jes]at h1;have h2:=gH id (by omega);have h3:=gH fs.length (by omega);have h4:=gH rs.length (by omega);have h5:=gH g (by omega)
 have hft:∀ j,(ftK fs (prt g rs j) fs.length).length<=1360/\Bs (ftK fs (prt g rs j) fs.length):=fun j=>by
  have kV:(prt g rs j).length<=256:=by rw[cm];omega
  have:=pj (dq.part g j) kV (fun k kQ=>fq (dq.part g j) hk kV kQ) (jek _);exact⟨by omega,this.2⟩
 have h6:=iH (m:=1360) (fun j=>(hft j).1) (List.range (nps g rs.length));have h7:=kr (n:=rs.length) eZ nD;rw[jf7]at h6;have h8:1360*nps g rs.length<=1360*256:=jfm _ h7;have h9:(ftJ fs g rs (nps g rs.length)).length<=1360*nps g rs.length:=h6;unfold gm;refine⟨?_,Bs.app (Bs.app (Bs.app (PD _ _) hO) hO) (Cm (fun j=>(hft j).2) _)⟩;simp only[jem];unfold dH;simp only[jem];omega
theorem kO{id:Nat}{fs:List Fd}{rs:List Row}{g:Nat}(ho:∀ f∈fs,Okf f)(lM:id<4294967296)(hc:chk id fs=0)(nD:rs.length<=256)(eZ:1<=g)(gY:g<=64)(dq:jR fs rs):(dy id fs rs g).length<=60000000/\Bs (dy id fs rs g):=by
 obtain⟨hz,hl,_⟩:=mU hc;have hk:=ip hc;obtain⟨f1,f2⟩:=rZ ho lM hc nD eZ gY dq
 have nC:∀ j,(eU fs (prt g rs j) fs.length).length<=172800/\Bs (eU fs (prt g rs j) fs.length):=fun j=>by
  have kV:(prt g rs j).length<=256:=by rw[cm];omega
  have:=mu (p:=prt g rs j) (fun k kQ=>fq (dq.part g j) hk kV kQ) (jek _);exact⟨by omega,this.2⟩
 have h6:=iH (m:=172800) (fun j=>(nC j).1) (List.range (nps g rs.length));have h7:=kr (n:=rs.length) eZ nD;rw[jf7]at h6;have h8:172800*nps g rs.length<=172800*256:=jfm _ h7;have h9:(iD fs g rs (nps g rs.length)).length<=172800*nps g rs.length:=h6;unfold dy mn;refine⟨?_,Bs.app (fun x hx=>?_) (Bs.app (Bs.app (Cm (fun j=>(nC j).2) _) f2) (tz _))⟩
 ·simp only[jem,jer,jeL,le4]
  omega
 ·simp only[jeC,jf2,or_false]at hx
  omega
theorem mv{fs:List Fd}:∀{rs:List Row},kL fs rs=0->∀ r∈rs,iO fs r=0
 | [],_,r,hr=>by simp at hr
 | x::t,h,r,hr=>by
  unfold kL at h;by_cases h0:iO fs x=0
  ·rw[jei h0]at h
   rcases jeC.1 hr with rfl | hr
   ·exact h0
   ·exact mv h r hr
  ·rw[jeh h0]at h
   exact absurd h h0
theorem AA{fs:List Fd}{rs:List Row}{k:Nat}(h:k<rs.length):kL fs (rs.drop k)=if iO fs rs[k]=0 then kL fs (rs.drop (k+1)) else iO fs rs[k]:=by
 rw[je1 h];rfl
theorem Fv{w:World}{fv rv:Value}{fs:List Fd}{rs:List Row}{id:Nat}(hs:Sf w fv fs)(hr:Rv w rv rs)(hf:∀ r∈rs,∀ c∈r,aT c)(g:Int) :
  Calls Tryz.prog 39 #[.agg #[.int .u32 (id:Int),fv],rv,.int .i64 g] w fun e w'=>e=.returned (.int .i64 (eb id fs rs g:Int))/\Below w.heap.size w w':=by
 obtain⟨fa,fcap,rfl,jcG,jcH⟩:=hs.form;obtain⟨ra,rcap,rfl,QM,Da,hra⟩:=hr.form;have dL:=ak w (.cells #[.int .u32 (id:Int),.slice fa fs.length fcap] 25);have kh:=jeK w (.cells #[.int .u32 (id:Int),.slice fa fs.length fcap] 25);have jG:(w.alloc (.cells #[.int .u32 (id:Int),.slice fa fs.length fcap] 25)).heap.size=w.heap.size+1:=jel _ _;have HS:=ae (hs.kept dL);have HR:=ae (hr.kept dL);have ce:=ae dL
 have HT:jgf (∀ U,Below (w.alloc (.cells #[.int .u32 (id:Int),.slice fa fs.length fcap] 25)).heap.size (w.alloc (.cells #[.int .u32 (id:Int),.slice fa fs.length fcap] 25)) U->U.cell? ⟨w.heap.size,0,none⟩=some (.int .u32 (id:Int))/\U.cell? ⟨w.heap.size,1,none⟩=some (.slice fa fs.length fcap)):=ae (fun U hb=>by
  have hU:=(hb.block w.heap.size (by omega)).trans kh;constructor<;>(rw[ay hU];rfl))
 have HF:=ae hf;generalize hA:w.alloc (.cells #[.int .u32 (id:Int),.slice fa fs.length fcap] 25)=A at *;clear hs hr dL kh hf jG;obtain⟨c0,c1⟩:=HT.o A (jej _ _);have HW:jgf (eb id fs rs g=if chk id fs≠0 then chk id fs else if g<1∨64<g then 1 else if 256<rs.length then 5 else kL fs rs):=ae rfl;generalize eb id fs rs g=FW at *;go_enter Tryz.func39,Tryz.ntmps39
 go_wp2_with fail;try rw[hA]
 clear hA;refine(Av HS.o id).mono ?_;rintro e w1 ⟨rfl,aH⟩;have aP:=ae aH;clear aH c0 c1;obtain⟨c0,c1⟩:=HT.o w1 aP.o;by_cases hc:chk id fs=0
 ·have hcz:(((chk id fs:Nat):Int) != 0)=false:=by simp[hc]
  have nI:jgf (FW=if g<1∨64<g then 1 else if 256<rs.length then 5 else kL fs rs):=ae (by rw[HW.o,jeh (by omega)]);clear HW;generalize chk id fs=ck at *;by_cases eZ:g<1
  ·have zv:jgf (FW=1):=ae (by rw[nI.o,jei (Or.inl eZ)])
   go_wp2_with fail;go_ret
   exact⟨by rw[zv.o];rfl,ai ce.o aP.o⟩
  ·by_cases gY:64<g
   ·have zv:jgf (FW=1):=ae (by rw[nI.o,jei (Or.inr gY)])
    have hg2':g > 64:=gY;go_wp2_with fail;go_ret
    exact⟨by rw[zv.o];rfl,ai ce.o aP.o⟩
   ·have hg2':¬ g > 64:=gY
    have zv:jgf (FW=if 256<rs.length then 5 else kL fs rs):=ae (by rw[nI.o,jeh (by omega)]);clear nI;by_cases hl:256<rs.length
    ·have WX:jgf (FW=5):=ae (by rw[zv.o,jei hl])
     have hl':(rs.length:Int) > 256:=(by omega);go_wp2_with fail;go_ret
     exact⟨by rw[WX.o];rfl,ai ce.o aP.o⟩
    ·have WX:jgf (FW=kL fs rs):=ae (by rw[zv.o,jeh hl])
     have hl':¬ (rs.length:Int) > 256:=(by omega);clear zv;go_wp2_with fail;go_loopw [27] (fun i wr=>∃ k:Nat,k<=rs.length/\i=.int .i64 (k:Int)/\kL fs rs=kL fs (rs.drop k)/\Below A.heap.size A wr) (fun i _=>rs.length-(intOf i).toNat)
     case atStart=>exact⟨0,by omega,rfl,rfl,aP.o⟩
     case round =>
      obtain⟨k,hk,rfl,kT,az⟩:=hrel;have GJ:=ae kT;have HB:=ae az;clear kT az;obtain⟨d0,d1⟩:=HT.o wr HB.o;by_cases aB:k<rs.length
      ·have hlt':(k:Int)<(rs.length:Int):=by omega
       obtain⟨bb,off,rw',rfl,hb,dN,gX⟩:=(HR.o.kept HB.o).at aB;obtain⟨a3,cap3,rfl,_,_⟩:=gX.form1;have cP:=ae (AA (fs:=fs) aB);have AX:=ae (Yi (HS.o.kept HB.o) gX (HF.o _ (jeo aB)) id);clear gX;generalize (aJ rs[k]).length=nv at *;generalize iO fs rs[k]=fm at *;go_wp2_with fail;refine AX.o.mono ?_;rintro e w5 ⟨rfl,bD⟩;have aQ:=ae (ai HB.o bD);clear bD d0 d1 dN;by_cases hm:fm=0
       ·subst hm
        have hmz:((((0:Nat)):Int) != 0)=false:=rfl;have QL:jgf (kL fs (rs.drop k)=kL fs (rs.drop (k+1))):=ae (by rw[cP.o,jei rfl]);clear cP;go_wp2_with fail;go_roundw
        case rel=>exact⟨k+1,by omega,by go_num,by rw[GJ.o,QL.o],aQ.o⟩
        case measure=>simp[intOf];omega
       ·have hmz:(((fm:Nat):Int) != 0)=true:=by simp[hm]
        have QL:jgf (FW=fm):=ae (by rw[WX.o,GJ.o,cP.o,jeh hm]);clear cP GJ WX;go_wp2_with fail;go_ret
        exact⟨by rw[QL.o];rfl,ai ce.o aQ.o⟩
      ·obtain rfl:k=rs.length:=by omega
       have gi:¬ ((rs.length:Nat):Int)<(rs.length:Int):=(by omega);have HE0:jgf (FW=0):=ae (by rw[WX.o,GJ.o,jfg];rfl);clear GJ WX;go_wp2_with fail;go_ret
       exact⟨by rw[HE0.o];rfl,ai ce.o HB.o⟩
 ·have hcz:(((chk id fs:Nat):Int) != 0)=true:=by simp[hc]
  have nI:jgf (FW=chk id fs):=ae (by rw[HW.o,jei hc]);clear HW;generalize chk id fs=ck at *;go_wp2_with fail;go_ret
  exact⟨by rw[nI.o];rfl,ai ce.o aP.o⟩
theorem lx{id:Nat}{fs:List Fd}{rs:List Row}{g:Int}(h:eb id fs rs g=0):chk id fs=0/\(1<=g/\g<=64)/\rs.length<=256/\kL fs rs=0:=by
 unfold eb at h;by_cases h1:chk id fs=0
 ·rw[jeh (by omega)]at h
  by_cases h2:g<1∨64<g
  ·rw[jei h2]at h
   cases h
  ·rw[jeh h2]at h
   by_cases h3:256<rs.length
   ·rw[jei h3]at h
    cases h
   ·rw[jeh h3]at h
    exact⟨h1,by omega,by omega,h⟩
 ·rw[jei h1]at h
  exact absurd h h1
theorem oq{w:World}{fv rv:Value}{fs:List Fd}{rs:List Row}{id:Nat}(ht:Tab w)(hs:Sf w fv fs)(hr:Rv w rv rs)(ho:∀ f∈fs,Okf f)(lM:id<4294967296)(hf:∀ r∈rs,∀ c∈r,aT c)(g:Int) :
  Calls Tryz.prog 12 #[.agg #[.int .u32 (id:Int),fv],rv,.int .i64 g] w fun e w'=>(∃ v,e=.returned (.tuple #[v,.int .i64 ((bW id fs rs g).2:Int)])/\aD w' w.heap.size v (bW id fs rs g).1)/\Below w.heap.size w w':=by
 obtain⟨fa,fcap,rfl,jcG,jcH⟩:=hs.form;obtain⟨ra,rcap,rfl,QM,Da,hra⟩:=hr.form;have dL:=ak w (.cells #[.int .u32 (id:Int),.slice fa fs.length fcap] 25);have kh:=jeK w (.cells #[.int .u32 (id:Int),.slice fa fs.length fcap] 25);have jG:(w.alloc (.cells #[.int .u32 (id:Int),.slice fa fs.length fcap] 25)).heap.size=w.heap.size+1:=jel _ _;have HS:=ae (hs.kept dL);have HR:=ae (hr.kept dL);have yo:=ae (ht.kept dL);have ce:=ae dL
 have HT:jgf (∀ U,Below (w.alloc (.cells #[.int .u32 (id:Int),.slice fa fs.length fcap] 25)).heap.size (w.alloc (.cells #[.int .u32 (id:Int),.slice fa fs.length fcap] 25)) U->U.cell? ⟨w.heap.size,0,none⟩=some (.int .u32 (id:Int))/\U.cell? ⟨w.heap.size,1,none⟩=some (.slice fa fs.length fcap)):=ae (fun U hb=>by
  have hU:=(hb.block w.heap.size (by omega)).trans kh;constructor<;>(rw[ay hU];rfl))
 have HF:=ae hf;have HO:=ae ho;generalize hA:w.alloc (.cells #[.int .u32 (id:Int),.slice fa fs.length fcap] 25)=A at *;clear hs hr dL kh hf jG ht ho;have AX:=ae (Fv (id:=id) HS.o HR.o HF.o g);obtain⟨c0,c1⟩:=HT.o A (jej _ _);have HW:jgf (bW id fs rs g=if eb id fs rs g≠0 then ([],eb id fs rs g) else if 65536<(bE (dy id fs rs g.toNat)).length then ([],4) else (bE (dy id fs rs g.toNat),0)):=ae rfl;generalize bW id fs rs g=WM at *;go_enter Tryz.func12,Tryz.ntmps12
 go_wp2_with fail;try rw[hA]
 clear hA;refine AX.o.mono ?_;rintro e w1 ⟨rfl,aH⟩;have aP:=ae aH;clear aH c0 c1;obtain⟨c0,c1⟩:=HT.o w1 aP.o;by_cases hc:eb id fs rs g=0
 ·have hcz:(((eb id fs rs g:Nat):Int) != 0)=false:=by simp[hc]
  obtain⟨h1,⟨h2,h3⟩,h4,h5⟩:=lx hc;have dq:jR fs rs:=fun r hr=>⟨mv h5 r hr,HF.o r hr⟩
  obtain⟨n,rfl⟩:∃ n:Nat,g=(n:Int):=⟨g.toNat,by omega⟩;rw[jeQ]at HW;obtain⟨hz,hl,_⟩:=mU h1;obtain⟨t1,t2⟩:=kO HO.o lM h1 h4 (show 1<=n by omega) (show n<=64 by omega) dq;have HTX:=ae (Ux (HS.o.kept aP.o) (HR.o.kept aP.o) HO.o lM hl hz h4 (show 1<=n by omega) (show n<=64 by omega) dq (ip h1));have nI:jgf (WM=if 65536<(bE (dy id fs rs n)).length then ([],4) else (bE (dy id fs rs n),0)):=ae (by rw[HW.o,jeh (by omega)]);have Bc:=ae t2;clear HW AX h1 h2 h3 h5 dq t2;generalize eb id fs rs n=FW at *;generalize dy id fs rs n=TX at *;go_wp2_with fail;refine HTX.o.mono ?_;rintro e w2 ⟨⟨v2,rfl,o2⟩,aE⟩;have aN:=ae (ai aP.o aE);have HSL:=ae (EY (yo.o.kept aN.o) o2.sv.toK Bc.o (by omega));clear o2 aE c0 c1;go_wp2_with fail;refine HSL.o.mono ?_;rintro e w3 ⟨⟨v3,rfl,o3⟩,aS⟩;obtain⟨a3,cap3,rfl,_,_⟩:=aO o3;have dd:=ae (bg o3 (jet ce.o.size aN.o.size));have bN:=ae (ai aN.o aS);clear o3 aS;have eN:(bE TX).length<=60000004:=by rw[jh];omega
  generalize bE TX=ST at *;by_cases QI:65536<ST.length
  ·have hbig':(ST.length:Int) > 65536:=by omega
   have zv:jgf (WM=([],4)):=ae (by rw[nI.o,jei QI]);go_wp2_with fail;go_ret2
   exact⟨⟨_,by rw[zv.o];rfl,by rw[zv.o];exact aD.nil _ _⟩,ai ce.o bN.o⟩
  ·have hbig':¬ (ST.length:Int) > 65536:=by omega
   have zv:jgf (WM=(ST,0)):=ae (by rw[nI.o,jeh QI]);go_wp2_with fail;go_ret2
   exact⟨⟨_,by rw[zv.o];rfl,by rw[zv.o];exact dd.o⟩,ai ce.o bN.o⟩
 ·have hcz:(((eb id fs rs g:Nat):Int) != 0)=true:=by simp[hc]
  have nI:jgf (WM=([],eb id fs rs g)):=ae (by rw[HW.o,jei hc]);clear HW AX;generalize eb id fs rs g=FW at *;go_wp2_with fail;go_ret2
  exact⟨⟨_,by rw[nI.o];rfl,by rw[nI.o];exact aD.nil _ _⟩,ai ce.o aP.o⟩
theorem Kg{w:World}{p f:Nat}{b:List Nat}(h:Rs w p b f)(hf:Er f)(k n:Nat)(hk:1<=k/\k<=3)(hn:n<=256) :
  Calls Tryz.prog 263 #[.pointer (some ⟨p,0,none⟩),.int .u8 (k:Int),.int .i64 (n:Int)] w (Mf k n b p f w):=by
 obtain rfl | rfl | rfl:k=1∨k=2∨k=3:=by omega
 ·exact Uq h hf n hn
 ·exact Ur h hf n hn
 ·exact Us h hf n hn
def CP(k n:Nat)(b:List Nat)(l:List (Nat×Int×List Nat))(f':Nat):Prop :=
 Er f'/\(f'=0->Col k l/\l.length=n)/\(f'≠0->l=[])/\∀ y,Col k y->y.length=n->b=ey k y->f'=0/\l=y
theorem Fw{k:Nat}:∀{t:List Nat} {s:List (Nat×Int×List Nat)},(∀ c∈s,gD k c)->∀ c∈ij t s,gD k c:=fun{t s} h=>(oW (P:=gD k) (Or.inl rfl) h).2
theorem Yj{k n:Nat}{b b1 b2:List Nat}{th:List Nat}{s:List (Nat×Int×List Nat)}{f1 f2:Nat}(h1:RP (Nu n) (byH b n) 0 th b1 f1)(h2:RP (Nv k th.sum) (byT k b1) f1 s b2 f2)(hn:f2≠0):CP k n b [] f2:=by
 refine⟨h2.1,fun h=>absurd h hn,fun _=>rfl,fun y a1 a2 a3=>?_⟩;obtain⟨d1,d2,d3⟩:=h1.2.2 (bP y) (gE k y) rfl ⟨by rw[br];exact a2,ee y⟩ ⟨y,a2,rfl,a3⟩;have ho:=DS y;obtain⟨e1,_⟩:=h2.2.2 (bV y) [] d1 ⟨by rw[d2,oU],fun c hc=>⟨a1.2.2 c (jy hc).1,(jy hc).2⟩⟩ ⟨by rw[d3];unfold gE;rw[ho],rfl⟩;exact absurd e1 hn
theorem Uy{k n:Nat}{b b1 b2:List Nat}{th:List Nat}{s:List (Nat×Int×List Nat)}{f1:Nat}(hk:1<=k/\k<=3)(hn:n<=256)(h1:RP (Nu n) (byH b n) 0 th b1 f1)(h2:RP (Nv k th.sum) (byT k b1) f1 s b2 0):CP k n b (ij th s) 0:=by
 obtain⟨g1,g2⟩:=h2.2.1 rfl;obtain⟨_,g3⟩:=h1.2.1 g1;refine⟨er0,fun _=>⟨⟨hk,by rw[iG,g3.1];exact hn,Fw fun c hc=>(g2.2 c hc).1⟩,by rw[iG,g3.1]⟩,fun h=>absurd rfl h,fun y a1 a2 a3=>⟨rfl,?_⟩⟩;obtain⟨d1,d2,d3⟩:=h1.2.2 (bP y) (gE k y) rfl ⟨by rw[br];exact a2,ee y⟩ ⟨y,a2,rfl,a3⟩;have ho:=DS y;obtain⟨_,e2,_⟩:=h2.2.2 (bV y) [] d1 ⟨by rw[d2,oU],fun c hc=>⟨a1.2.2 c (jy hc).1,(jy hc).2⟩⟩ ⟨by rw[d3];unfold gE;rw[ho],rfl⟩;rw[d2,e2];exact qe a1.2.2
theorem Kh{w:World}{p:Nat}{b:List Nat}(h:Rs w p b 0)(k n:Nat)(hk:1<=k/\k<=3)(hn:n<=256) :
  Calls Tryz.prog 235 #[.pointer (some ⟨p,0,none⟩),.int .u8 (k:Int),.int .i64 (n:Int)] w fun r w'=>∃ l b' f',(∃ v,r=.returned v/\OwnV w' w.heap.size v l)/\Rs w' p b' f'/\CP k n b l f'/\Fr p w.heap.size w w':=by
 have aB:=h.lt;have HN:=ae (Pu h er0 n hn);have AZ:=ae (fun b1 b2 th s f1 h1 h2=>Uy (k:=k) (n:=n) (b:=b) (b1:=b1) (b2:=b2) (th:=th) (s:=s) (f1:=f1) hk hn h1 h2);have HK:=ae hk;clear h hk;go_enter Tryz.func235,Tryz.ntmps235
 go_wp2_with fail;refine HN.o.mono ?_;rintro e w1 ⟨th,b1,f1,⟨v1,rfl,ei⟩,KQ,Lr,eg,QK,dh⟩;have eO:=ae ei;have Bc:=ae KQ;have ja:=ae eg;have HRP1:=ae QK;have gp:=ae dh;have cK:=dh.size;have oG:th.sum<=256:=by have:=rU KQ;omega
 have AP:=ae (Uo (dJ.sv ei) KQ (by omega));have HVA:=ae (Kg eg QK.1 k th.sum HK.o oG)
 have yC:jgf (∀ j,v1.ownBlock=some j->j<w1.heap.size/\j≠p):=ae (fun j hj=>by
  have:=ei.lt j hj;exact⟨this.2,by omega⟩)
 clear ei KQ eg QK dh;go_wp2_with fail;refine AP.o.mono ?_;rintro e w2 ⟨rfl,rfl⟩;go_wp2_with fail;refine HVA.o.mono ?_;rintro e w3 ⟨s,b3,f3,⟨v3,rfl,fW⟩,lB,hrp3,iJ⟩;have dd:=ae fW;have nF:=ae lB;have jcP:=ae hrp3;have qE:=ae (gp.o.trans (iJ.mono cK));have iN:=iJ.size;have MK:=ae ((dJ.sv eO.o).keptFr yC.o iJ);obtain⟨a0,cap0,k0,k1,k2,k3,k4,k5,k6,k7,k8,k9,k10⟩:=lB.cells;clear fW lB hrp3 iJ k0 k2 k3 k4 k5 k6 k7 k8 k9 k10;by_cases wl:f3=0
 ·subst wl
  have VZ:=ae (AZ.o b1 b3 th s f1 HRP1.o jcP.o);obtain⟨g1,g2⟩:=jcP.o.2.1 rfl;have HSP:=ae (Kd MK.o Bc.o (by omega) (OwnV.sv dd.o) g2.1 (fun c hc=>(g2.2 c hc).2));clear g1 g2;generalize ij th s=L at *;go_wp2_with fail;refine HSP.o.mono ?_;rintro e w4 ⟨⟨v4,rfl,gQ⟩,bG⟩;have eY:=ae (bg (B:=w.heap.size) gQ (by omega));have vM:=ae (nF.o.kept bG nF.o.lt);have yy:=ae (qE.o.trans (Fr.of_below (bG.mono (by omega))));clear gQ bG;go_wp2_with fail;go_ret
  exact⟨L,_,0,⟨_,rfl,eY.o⟩,vM.o,VZ.o,yy.o⟩
 ·have fJ:((f3:Int) != 0)=true:=by simpa using wl
  have VZ:=ae (Yj (k:=k) HRP1.o jcP.o wl);clear wl;go_wp2_with fail;go_ret
  exact⟨[],_,f3,⟨_,rfl,OwnV.nil _ _⟩,nF.o,VZ.o,qE.o⟩
theorem Cn{w:World}{vb vl:Value}{b:List Nat}{l:List (Nat×Int×List Nat)}{k:Nat}(hb:Sv w vb (aF .u8 b))(h8:Bs b)(hs:Sv w vl (aJ l))(gl:∀ k,vl.ownBlock=some k->k<w.heap.size)(hc:Col k l) :
  Calls Tryz.prog 236 #[.int .u8 (k:Int),vb,vl] w fun e w'=>e=.returned (.bool (decide (ey k l=b)))/\Below w.heap.size w w':=by
 have HW:=ae (Ax hs gl (fun c hcc=>(hc.2.2 c hcc).fine) k);rw[kx hc]at HW;have HB:=ae hb;have H8:=ae h8;have Rk:=ae (iB hc).2;clear hb h8 hs gl hc;unfold tE at HW;generalize ey k l=cb at *;go_enter Tryz.func236,Tryz.ntmps236
 go_wp2_with fail;refine HW.o.mono ?_;rintro e w1 ⟨⟨v1,rfl,ei⟩,aH⟩;have CV:=ae (pf ei.sv (HB.o.kept aH) Rk.o H8.o);have aP:=ae aH;clear ei aH;go_wp2_with fail;refine CV.o.mono ?_;rintro e w2 ⟨rfl,rfl⟩;go_wp2_with fail;go_ret
 exact⟨rfl,aP.o⟩
def uI(k:Nat)(b:List Nat)(n:Int)(l:List (Nat×Int×List Nat))(er:Nat):Prop :=
 if 1<=k/\k<=3 then
  (if 0<=n/\n<=256 then (er=0/\gF k b n.toNat=some l)∨(er≠0/\Er er/\l=[]/\gF k b n.toNat=none) else er=1/\l=[])
 else er=10/\l=[]
def Uz(k:Nat)(b:List Nat)(n:Int)(w:World)(e:Ending)(w':World):Prop :=
 ∃(v:Value) (l:List (Nat×Int×List Nat)) (er:Nat),e=.returned (.tuple #[v,.int .i64 (er:Int)])/\OwnV w' w.heap.size v l/\uI k b n l er/\Below w.heap.size w w'
theorem PE{k n:Nat}{b:List Nat}{l:List (Nat×Int×List Nat)}{er:Nat}(hk:1<=k/\k<=3)(hn:n<=256)(h:(er=0/\gF k b n=some l)∨(er≠0/\Er er/\l=[]/\gF k b n=none)):uI k b (n:Int) l er:=by
 unfold uI;rw[jei hk,jei (by omega),jeQ];exact h
theorem Yk{k n:Nat}{b:List Nat}{l:List (Nat×Int×List Nat)}{f':Nat}(hk:1<=k/\k<=3)(hn:n<=256)(hb:Bs b)(hc:CP k n b l f')(h:¬ (f'=0/\ey k l=b)):gF k b n=none:=by
 cases e:gF k b n with
 | none=>rfl
 | some y =>
  obtain⟨h1,h2,h3⟩:=(md hk hn hb).1 e;obtain⟨d1,d2⟩:=hc.2.2.2 y h1 h2 h3.symm;exact absurd ⟨d1,by rw[d2];exact h3⟩ h
theorem Ki{w:World}{vb:Value}{b:List Nat}(hb:Sv w vb (aF .u8 b))(h8:Bs b)(k n:Nat)(hk:1<=k/\k<=3)(hn:n<=256) :
  Calls Tryz.prog 214 #[.int .u8 (k:Int),vb,.int .i64 (n:Int)] w (Uz k b (n:Int) w):=by
 have Zf:=ae hb;have H8:=ae h8;have yi:=ae (js k);rw[jeB hk]at yi;have dL:=hb;obtain⟨a,cap,rfl,aW,bC⟩:=hb.form1;rw[ap]at *;have qI:¬ (n:Int)<0:=by omega
 have Za:¬ (n:Int) > 256:=by omega
 have cP:jgf (Rs (w.alloc (.cells #[.slice a b.length cap,.int .i64 0] 271)) w.heap.size b 0):=ae (by
  refine⟨a,cap,ET _ _,dL.kept (ak w _),fun h0 j hj=>?_,h8⟩;obtain⟨a',cap',e,_,_,_,h4⟩:=dL;rw[ap]at e h4;simp only[Value.slice.injEq]at e;obtain⟨rfl,_,_⟩:=e;obtain⟨g,off,rfl,h5,_⟩:=h4 h0;cases hj
  exact h5)
 have hza:=jel w (.cells #[.slice a b.length cap,.int .i64 0] 271);have HCO:=ae (Kh cP.o k n hk hn);have fx:=ae (ak w (.cells #[.slice a b.length cap,.int .i64 0] 271));have HK:=ae hk;have jaA:=ae (fun l f' hc h=>Yk (k:=k) (n:=n) (b:=b) (l:=l) (f':=f') hk hn h8 hc h);have HTM:=ae (fun l er h=>PE (k:=k) (n:=n) (b:=b) (l:=l) (er:=er) hk hn h);have HIFF:=ae (fun l=>(md (k:=k) (n:=n) (b:=b) (l:=l) hk hn h8).2);clear hb dL h8 hk aW bC;go_enter Tryz.func214,Tryz.ntmps214
 go_wp2_with fail;refine(yi.o _).mono ?_;rintro e w1 ⟨rfl,rfl⟩;go_wp2_with fail;refine HCO.o.mono ?_;rintro e w2 ⟨l,b2,f2,⟨v2,rfl,ft⟩,dR,WU,dG⟩;have aE:Below w1.heap.size w1 w2:=fx.o.trans (dG.below (jek _) (by omega));have dz:=ae (bg (B:=w1.heap.size) ft (by omega));have gj:=ae dR;have VZ:=ae WU;have aN:=ae aE;have bv:=aE.size;have jT:=dR.lt;obtain⟨a0,cap0,k0,k1,k2,k3,k4,k5,k6,k7,k8,k9,k10⟩:=dR.cells;obtain⟨av,cv,rfl,_,_⟩:=aO ft;have Ze:=ae (OwnV.sv ft);have yC:=ae (fun j hj=>(ft.lt j hj).2);clear ft dR WU dG aE k0 k2 k3 k4 k5 k6 k7 k8 k9 k10;by_cases wl:f2=0
 ·subst wl
  obtain⟨ec,bR⟩:=VZ.o.2.1 rfl;have Lq:=ae (Cn (Zf.o.kept aN.o) H8.o Ze.o yC.o ec);have nA:=ae ec;have CU:=ae bR;clear ec bR;by_cases heq:ey k l=b
  ·rw[jeB heq]at Lq
   have QP:=ae (HTM.o l 0 (Or.inl ⟨rfl,HIFF.o l ⟨nA.o,CU.o,heq⟩⟩));clear heq;go_wp2_with fail;refine Lq.o.mono ?_;rintro e w3 ⟨rfl,aS⟩;have dd:=ae (bJ dz.o aS);have bN:=ae (aN.o.trans (aS.mono bv));have hk1':=(gj.o.kept aS jT).cells;obtain⟨a3,cap3,q0,q1,q2,q3,q4,q5,q6,q7,q8,q9,q10⟩:=hk1';clear aS q0 q2 q3 q4 q5 q6 q7 q8 q9 q10 k1;go_wp2_with fail;go_ret2
   exact⟨_,l,0,rfl,dd.o,QP.o,bN.o⟩
  ·rw[jeu heq]at Lq
   have QP:=ae (HTM.o [] 40 (Or.inr ⟨by omega,vD,rfl,jaA.o l 0 VZ.o (fun h=>heq h.2)⟩));clear heq;go_wp2_with fail;refine Lq.o.mono ?_;rintro e w3 ⟨rfl,aS⟩;have bN:=ae (aN.o.trans (aS.mono bv));have iN:=aS.size;have nF:=ae (gj.o.kept aS jT);clear aS k1;go_wp2_with fail;refine(cG nF.o 40).mono ?_;rintro e w4 ⟨rfl,ym,pT⟩;rw[fh]at ym;have cp:=ae (bN.o.trans (pT.below (jek _) (by omega)));obtain⟨a3,cap3,q0,q1,q2,q3,q4,q5,q6,q7,q8,q9,q10⟩:=ym.cells;clear ym pT q0 q2 q3 q4 q5 q6 q7 q8 q9 q10;go_wp2_with fail;go_quiet (fail)
   go_wp2_with fail;go_ret2
   exact⟨_,[],40,rfl,OwnV.nil _ _,QP.o,cp.o.trans ⟨rfl,rfl,rfl,jek _,fun _ _=>rfl⟩⟩
 ·have fJ:((f2:Int) != 0)=true:=by simpa using wl
  have zq:((f2:Int)==0)=false:=by simpa using wl
  have QP:=ae (HTM.o [] f2 (Or.inr ⟨wl,VZ.o.1,rfl,jaA.o l f2 VZ.o (fun h=>wl h.1)⟩));clear wl;go_wp2_with fail;go_quiet (fail)
  go_wp2_with fail;go_ret2
  exact⟨_,[],f2,rfl,OwnV.nil _ _,QP.o,aN.o.trans ⟨rfl,rfl,rfl,jek _,fun _ _=>rfl⟩⟩
theorem PG{w:World}{vb:Value}{b:List Nat}(hb:Sv w vb (aF .u8 b))(h8:Bs b)(k:Nat)(n:Int) :
  Calls Tryz.prog 214 #[.int .u8 (k:Int),vb,.int .i64 n] w (Uz k b n w):=by
 by_cases hk:1<=k/\k<=3
 ·by_cases hn:0<=n/\n<=256
  ·obtain⟨m,rfl⟩:∃ m:Nat,n=(m:Int):=⟨n.toNat,by omega⟩
   exact Ki hb h8 k m hk (by omega)
  ·have yi:=ae (js k)
   rw[jeB hk]at yi;have QP:jgf (uI k b n [] 1):=ae (by unfold uI;rw[jei hk,jeh hn];exact⟨rfl,rfl⟩);obtain⟨a,cap,rfl,_,_⟩:=hb.form1;clear hb h8 hk;by_cases h0:n<0
   ·clear hn
    go_enter Tryz.func214,Tryz.ntmps214
    go_wp2_with fail;refine(yi.o _).mono ?_;rintro e w1 ⟨rfl,rfl⟩;go_wp2_with fail;go_ret2
    exact⟨_,[],1,rfl,OwnV.nil _ _,QP.o,jej _ _⟩
   ·have h1:n > 256:=by omega
    clear hn;go_enter Tryz.func214,Tryz.ntmps214
    go_wp2_with fail;refine(yi.o _).mono ?_;rintro e w1 ⟨rfl,rfl⟩;go_wp2_with fail;go_ret2
    exact⟨_,[],1,rfl,OwnV.nil _ _,QP.o,jej _ _⟩
 ·have yi:=ae (js k)
  rw[jeu hk]at yi;have QP:jgf (uI k b n [] 10):=ae (by unfold uI;rw[jeh hk];exact⟨rfl,rfl⟩);obtain⟨a,cap,rfl,_,_⟩:=hb.form1;clear hb h8 hk;go_enter Tryz.func214,Tryz.ntmps214
  go_wp2_with fail;refine(yi.o _).mono ?_;rintro e w1 ⟨rfl,rfl⟩;go_wp2_with fail;go_ret2
  exact⟨_,[],10,rfl,OwnV.nil _ _,QP.o,jej _ _⟩
theorem fU(k:Nat)(l:List Nat):(aF .u8 l).take k=aF .u8 (l.take k):=by simp[aF,jfJ]
theorem kP(k:Nat)(l:List Nat):(aF .u8 l).drop k=aF .u8 (l.drop k):=by simp[aF,List.map_drop]
theorem Co(a b:List Nat)(h:b.length<=a.length):decide (a.take b.length=b)=b.isPrefixOf a:=by
 rw[jfN,je7,jfy];constructor
 ·intro e
  rw[← e];exact List.take_prefix _ _
 ·rintro⟨t,rfl⟩
  exact jfh
theorem Cp(a b:List Nat)(h:a.length<b.length):b.isPrefixOf a=false:=by
 rw[Bool.eq_false_iff,ne_eq,jfy];intro e;have:=e.length_le;omega
theorem UA{w:World}{va vb:Value}{a b:List Nat}(ha:Sv w va (aF .u8 a))(hb:Sv w vb (aF .u8 b))(h8:Bs a)(h9:Bs b) :
  Calls Tryz.prog 94 #[va,vb] w fun e w'=>e=.returned (.bool (b.isPrefixOf a))/\w'=w:=by
 obtain⟨aa,ca,rfl,lK,ke⟩:=ha.form1;obtain⟨ab,cb,rfl,Lk,hc4⟩:=hb.form1;rw[ap]at *;rw[ap]at *;have hc2':ca<=9223372036854775807:=by unfold maxLen at ke;omega
 by_cases h:b.length<=a.length
 ·have hT:=ha.take (k:=b.length) (by rw[ap];exact h)
  rw[fU]at hT;have HE:=ae (pf hT hb (h8.take b.length) h9);have HP:=ae (Co a b h);have gi:(a.length:Int)>=(b.length:Int):=by omega
  have pt:b.length<=ca:=by omega
  clear ha hb h8 h9 hT;generalize decide (a.take b.length=b)=d at *;go_enter Tryz.func94,Tryz.ntmps94
  go_wp2_with fail;refine HE.o.mono ?_;rintro e w1 ⟨rfl,rfl⟩;go_wp2_with fail;go_ret
  rw[← HP.o];exact⟨rfl,rfl⟩
 ·have gi:¬ (a.length:Int)>=(b.length:Int):=by omega
  have HP:=ae (Cp a b (by omega));clear ha hb h8 h9;go_enter Tryz.func94,Tryz.ntmps94
  go_wp2_with fail;go_ret
  rw[HP.o];exact⟨rfl,rfl⟩
theorem Fx{w:World}{aa:Option Addr}{ca:Nat}{vb:Value}{a b:List Nat}(ha:Sv w (.slice aa a.length ca) (aF .u8 a))(hb:Sv w vb (aF .u8 b))(h8:Bs a)(h9:Bs b) :
  Calls Tryz.prog 52 #[.slice aa a.length ca,vb] w fun e w'=>(∃ v,e=.returned (.tuple #[v,.bool (b.isPrefixOf a)])/\Sv w' v (aF .u8 (if b.isPrefixOf a=true then a.drop b.length else a))/\(∀ p,(∀ i,(Value.slice aa a.length ca).ownBlock=some i->i<p)->∀ i,v.ownBlock=some i->i<p))/\w'=w:=by
 have HP:=ae (UA ha hb h8 h9);obtain⟨ab,cb,rfl,Lk,hc4⟩:=hb.form1;have HA:=ae ha;obtain⟨a',cap',e,lK,ke,hn,_⟩:=ha;simp only[Value.slice.injEq]at e;obtain⟨rfl,_,rfl⟩:=e;simp only[ap]at *;have hc2':ca<=9223372036854775807:=by unfold maxLen at ke;omega
 clear hb h8 h9;have kV:b.isPrefixOf a=true->b.length<=a.length:=fun h=>(jfy.1 h).length_le
 generalize b.isPrefixOf a=px at *;cases px
 case true =>
  have hl:b.length<=a.length:=kV rfl;have hD:=HA.o.dropG (k:=b.length) (by rw[ap];exact hl);rw[kP,ap]at hD;obtain⟨A,hA⟩:∃ A,(if ca=b.length then aa else aa.map fun x=>x.add b.length)=A:=⟨_,rfl⟩;have HBK:=ae (fun(p:Nat) (hp:∀ i,(Value.slice aa a.length ca).ownBlock=some i->i<p)=>jE (m:=a.length-b.length) (k:=b.length) (c:=ca) hp);rw[hA]at hD HBK;have HD:=ae hD;have HAA:=ae hA;have pt:(b.length:Int)<=(ca:Int):=by omega
  have hle2:(b.length:Int)<=(a.length:Int):=by omega
  clear hD HA kV;go_enter Tryz.func52,Tryz.ntmps52
  go_wp2_with fail;refine HP.o.mono ?_;rintro e w1 ⟨rfl,rfl⟩;go_wp2_with fail;go_ret2
  exact⟨⟨_,rfl,HD.o,HBK.o⟩,rfl⟩
 case false =>
  clear kV;go_enter Tryz.func52,Tryz.ntmps52
  go_wp2_with fail;refine HP.o.mono ?_;rintro e w1 ⟨rfl,rfl⟩;go_wp2_with fail;go_ret2
  exact⟨⟨_,rfl,by simpa using HA.o,fun p hp=>hp⟩,rfl⟩
theorem Fy:∀(a:List Nat) (x:Nat),leN (a++[x])=leN a+x*2 ^ (8*a.length)
 | [],x=>by simp[leN]
 | y::a,x=>by
  have h:=Fy a x
  have e:2 ^ (8*(y::a).length)=256*2 ^ (8*a.length):=by
   rw[jer,jft,jfl,jeU]
  show y+256*leN (a++[x])=(y+256*leN a)+_
  rw[h,e,jft,Nat.mul_left_comm x 256];omega
theorem join8{n c k:Nat}(hk:k<=3)(hn:n<2 ^ (8*k))(hc:c<256):bits .or .u64 (n:Int) (IntKind.u64.wrap ((c:Int)*2 ^ (8*k)))=((n+c*2 ^ (8*k):Nat):Int):=by
 have h1:2 ^ (8*k)<=2 ^ 24:=jfA (by omega) (by omega);have h2:c*2 ^ (8*k)<=255*2 ^ 24:=jfT (by omega) h1;have e:(c:Int)*2 ^ (8*k)=((c*2 ^ (8*k):Nat):Int):=by simp
 rw[e,wraps_u64 _ (by omega) (by omega)]
 have e2:bits .or .u64 (n:Int) ((c*2 ^ (8*k):Nat):Int)=(n:Int)+((c*2 ^ (8*k):Nat):Int):=by
  apply bits_join_low .u64 64 (by decide) wraps_u64 (8*k)
  ·omega
  ·have:(n:Int)<((2 ^ (8*k):Nat):Int):=by omega
   simpa using this
  ·omega
  ·omega
  ·simp
  ·omega
 rw[e2];omega
theorem Cq{w:World}{v:Value}{l:List Nat}(hs:Sv w v (aF .u8 l))(h8:Bs l)(hl:l.length<=4) :
  Calls Tryz.prog 138 #[v] w fun e w'=>e=.returned (.int .u64 ((leN l:Nat):Int))/\w'=w:=by
 have HS:=ae hs;obtain⟨a,cap,rfl,lK,ke⟩:=hs.form1;simp only[ap]at *;have H8:=ae h8;clear hs h8;go_enter Tryz.func138,Tryz.ntmps138
 go_wp2_with fail;go_loopw [3,8] (fun n i w'=>w'=w/\∃ k:Nat,k<=l.length/\i=.int .i64 (k:Int)/\n=.int .u64 ((leN (l.take k):Nat):Int)) (fun _ i _=>l.length-(intOf i).toNat)
 case atStart=>exact⟨rfl,0,by omega,rfl,rfl⟩
 case round =>
  obtain⟨rfl,k,hk,rfl,rfl⟩:=hrel;by_cases aB:k<l.length
  ·obtain⟨b,off,rfl,hb,dN⟩:=HS.o.at1 (bU aB)
   have hlt':(k:Int)<(l.length:Int):=(by omega);have pt:=JJ (b:=l.take k) (fun x hx=>H8.o x (je2 hx));rw[jeq,jfk (by omega)]at pt;have eX:=H8.o _ (jeo aB);have hj:=join8 (show k<=3 by omega) pt eX
   have pV:jgf (leN (l.take (k+1))=leN (l.take k)+l[k]*2 ^ (8*k)):=ae (by
    rw[jeA aB,Fy,jeq,jfk (by omega)])
   have h9:IntKind.i64.wrap (8*(k:Int))=8*(k:Int):=by rw[jeV];omega
   have nB:(8*(k:Int)).toNat=8*k:=(by omega);have h11:IntKind.u64.wrap ((l[k]:Nat):Int)=((l[k]:Nat):Int):=by rw[jeP];omega
   generalize l[k]=c at *;generalize leN (l.take k)=n at *;go_wp2_with fail;go_roundw
   case rel=>exact⟨trivial,k+1,by omega,by go_num,by rw[pV.o];simp⟩
   case measure=>simp[intOf];omega
  ·obtain rfl:k=l.length:=by omega
   have gi:¬ ((l.length:Nat):Int)<(l.length:Int):=(by omega);go_wp2_with fail;go_ret
   exact⟨rfl,rfl⟩
def spl(b:List Nat):Option (List Nat×List Nat) :=
 if b.length<4 then none else if b.length-4<leN (b.drop (b.length-4)) then none
 else some (b.take (b.length-4-leN (b.drop (b.length-4))),(b.take (b.length-4)).drop (b.length-4-leN (b.drop (b.length-4))))
def ot(p:Nat)(v:Value):Prop:=∀ i,v.ownBlock=some i->i<p
theorem PH{w:World}{v:Value}{b:List Nat}(hs:Sv w v (aF .u8 b))(h8:Bs b)(hl:b.length<=100000000)(hw:ot w.heap.size v) :
  Calls Tryz.prog 95 #[v] w fun e w'=>(∃ v1 v2,e=.returned (.tuple #[v1,v2,.bool (spl b).isSome])/\(∀ x y,spl b=some (x,y)->Sv w' v1 (aF .u8 x)/\Sv w' v2 (aF .u8 y)/\ot w.heap.size v1/\ot w.heap.size v2))/\Below w.heap.size w w':=by
 have HS:=ae hs;obtain⟨a',cap,e,lK,ke,hn,hx⟩:=hs;simp only[ap]at *;subst e;have hc2':cap<=9223372036854775807:=by unfold maxLen at ke;omega
 have oD:b.length<=9223372036854775807:=by omega
 by_cases h4:b.length<4
 ·have HP:jgf (spl b=none):=ae (jei h4)
  have aB:(b.length:Int)-4<0:=by omega
  clear h8;go_enter Tryz.func95,Tryz.ntmps95
  go_wp2_with fail;go_ret3
  rw[HP.o];exact⟨⟨_,_,rfl,fun x y h=>by cases h⟩,jej _ _⟩
 ·obtain⟨n,qJ⟩:∃ n,b.length=n+4:=⟨b.length-4,by omega⟩
  have hD:=HS.o.dropG (k:=n) (by rw[ap];omega);rw[kP,ap,qJ]at hD;obtain⟨A,hA⟩:∃ A,(if cap=n then a' else a'.map fun x=>x.add n)=A:=⟨_,rfl⟩;rw[hA,show n+4-n=4 by omega]at hD
  have hln:leN (b.drop n)<4294967296:=by
   have:=JJ (b:=b.drop n) (fun x hx=>h8 x (jfS hx));rw[jeR,qJ,show n+4-n=4 by omega]at this;simpa using this
  have HNU:=ae (Cq hD (h8.drop n) (by rw[jeR,qJ];omega))
  have HP:jgf (spl b=if n<leN (b.drop n) then none else some (b.take (n-leN (b.drop n)),(b.take n).drop (n-leN (b.drop n)))):=ae (by
   unfold spl;rw[jeh h4,show b.length-4=n by omega])
  have pt:(b.length:Int)-4=(n:Int):=by omega
  have qI:¬ (n:Int)<0:=by omega
  have Za:(n:Int)<=(cap:Int):=by omega
  have Mt:(n:Int)<=(b.length:Int):=by omega
  have HAA:=ae hA;have Dm:=ae qJ;rw[qJ]at lK hw ⊢;clear qJ;have hle':((n+4:Nat):Int)-4=(n:Int):=by omega
  clear hD h8 pt hx;generalize hN:leN (b.drop n)=N at *;clear hN;go_enter Tryz.func95,Tryz.ntmps95
  have hBE:∀ p,ot p (.slice a' (n+4) cap)->∀ m k,ot p (.slice (if cap=k then a' else a'.map fun x=>x.add k) m (cap-k)):=fun p hp m k=>jE (m:=m) (k:=k) (c:=cap) hp
  go_wp2_with fail;refine HNU.o.mono ?_;rintro e w1 ⟨rfl,rfl⟩;by_cases vZ:n<N
  ·have hgt':(N:Int) > (n:Int):=by omega
   have Gj:jgf (spl b=none):=ae (by rw[HP.o,jei vZ]);clear HP;go_wp2_with fail;go_ret3
   rw[Gj.o];exact⟨⟨_,_,rfl,fun x y h=>by cases h⟩,jej _ _⟩
  ·have hgt':¬ (N:Int) > (n:Int):=by omega
   obtain⟨m,hm⟩:∃ m,n=m+N:=⟨n-N,by omega⟩;have Rh:n-N=m:=(by omega);have Gj:jgf (spl b=some (b.take m,(b.take n).drop m)):=ae (by rw[HP.o,jeh vZ,Rh]);have hT:=HS.o.take (k:=m) (by rw[ap,Dm.o];omega);have hD1:=HS.o.take (k:=n) (by rw[ap,Dm.o];omega);have zm:(aF .u8 b).length=n+4:=by rw[ap];exact Dm.o
   have hD2:=hD1.dropG (k:=m) (by rw[jeq,zm];omega);rw[fU]at hT;rw[fU,kP]at hD2;obtain⟨A2,hA2⟩:∃ A2,(if cap=m then a' else a'.map fun x=>x.add m)=A2:=⟨_,rfl⟩;have hle3:(aF .u8 (b.take n)).length-m=N:=by rw[ap,jeq,Dm.o];omega
   have hB2:=hBE _ hw N m;have bC:¬ cap=m:=(by omega);rw[jeh bC]at hA2 hD2 hB2;clear hA2;rw[hle3]at hD2;have hB1:ot w1.heap.size (.slice a' m cap):=fun i hi=>hw i (by cases a' with | none=>cases hi | some x=>exact hi)
   have HT:=ae hT;have zt:=ae hD2;have aP:=ae hB1;have aN:=ae hB2;have qA:(n:Int)-(N:Int)=(m:Int):=(by omega);have kQ:(0:Int)<=(m:Int):=(by omega);have MF:(m:Int)<=(cap:Int):=(by omega);have hk4:(m:Int)<=(n:Int):=(by omega);have hk5:(n:Int)<=(cap:Int):=(by omega);have VL:(m:Int).toNat=m:=(by omega);have hk7:(n:Int).toNat=n:=(by omega);have hk8:n-m=N:=(by omega);have hk9:IntKind.i64.wrap (N:Int)=(N:Int):=by rw[jeV];omega
   clear hT hD1 hD2 HP hB1 hB2 hBE Rh zm hle3 hw hm;go_wp2_with fail;go_quiet (fail)
   go_wp2_with fail;go_ret3
   rw[Gj.o];refine⟨⟨_,_,rfl,fun x y h=>?_⟩,ar (jej _ _) _⟩;simp only[Option.some.injEq,Prod.mk.injEq]at h;obtain⟨rfl,rfl⟩:=h;exact⟨HT.o.kept (ar (jej _ _) _),zt.o.kept (ar (jej _ _) _),aP.o,aN.o⟩
def R3(W:World)(p:Nat)(c f:List Nat)(fl:Bool):Prop :=
 ∃ a cap a' cap',W.heap[p]?=some (.cells #[.slice a c.length cap,.slice a' f.length cap',.bool fl] 157 (0,0)) /\
  (Sv W (.slice a c.length cap) (aF .u8 c)/\(∀ k,(Value.slice a c.length cap).ownBlock=some k->k<p)/\Bs c) /\
  (Sv W (.slice a' f.length cap') (aF .u8 f)/\(∀ k,(Value.slice a' f.length cap').ownBlock=some k->k<p)/\Bs f)
theorem R3.lt{W:World}{p:Nat}{c f:List Nat}{fl:Bool}(h:R3 W p c f fl):p<W.heap.size:=by obtain⟨_,_,_,_,h,_⟩:=h;exact(Array.getElem?_eq_some_iff.1 h).1
theorem R3.bs{W:World}{p:Nat}{c f:List Nat}{fl:Bool}(h:R3 W p c f fl):Bs c/\Bs f:=by obtain⟨_,_,_,_,_,h1,h2⟩:=h;exact⟨h1.2.2,h2.2.2⟩
theorem R3.kept{W W':World}{p B:Nat}{c f:List Nat}{fl:Bool}(h:R3 W p c f fl)(hb:Below B W W')(hp:p<B):R3 W' p c f fl:=by
 obtain⟨a,cap,a',cap',h1,⟨h2,h3,h4⟩,h5,h6,h7⟩:=h;exact⟨a,cap,a',cap',(hb.block p hp).trans h1,⟨h2.keptW (fun _ k hk=>je0 (h3 k hk) hp) hb,h3,h4⟩,h5.keptW (fun _ k hk=>je0 (h6 k hk) hp) hb,h6,h7⟩
theorem OwnV.of_le{W:World}{B B':Nat}{v:Value}{l:List Cl}(h:OwnV W B v l)(hB:B'<=B):OwnV W B' v l:=by
 refine⟨h.1,?_⟩;rcases h.2 with hn | ⟨g,cap,cur,hv,hb,r⟩
 ·exact .inl hn
 ·exact .inr ⟨g,cap,cur,hv,jet hB hb,r⟩
theorem jj{W:World}{p i:Nat}(x:Value):Below p W (W.setCell ⟨p,i,none⟩ x):=(jej p W).setCell (jek _) x
theorem R3.cells{W:World}{p:Nat}{c f:List Nat}{fl:Bool}(h:R3 W p c f fl) :
  ∃ a cap a' cap',(W.cell? ⟨p,0,none⟩=some (.slice a c.length cap)/\W.cell? ⟨p,1,none⟩=some (.slice a' f.length cap')/\W.cell? ⟨p,2,none⟩=some (.bool fl)) /\
   (W.frozen? ⟨p,0,none⟩=false/\W.frozen? ⟨p,1,none⟩=false/\W.frozen? ⟨p,2,none⟩=false) /\
   (c.length<=cap/\cap<=9223372036854775807/\f.length<=cap'/\cap'<=9223372036854775807) /\
   (Sv W (.slice a c.length cap) (aF .u8 c)/\(∀ k,(Value.slice a c.length cap).ownBlock=some k->k<p)) /\
   (Sv W (.slice a' f.length cap') (aF .u8 f)/\(∀ k,(Value.slice a' f.length cap').ownBlock=some k->k<p)) /\
   (∀ fl',R3 (W.setCell ⟨p,2,none⟩ (.bool fl')) p c f fl') /\
   (∀ k,k<=c.length->∃ A,(if cap=k then a else a.map fun x=>x.add k)=A/\R3 (W.setCell ⟨p,0,none⟩ (.slice A (c.length-k) (cap-k))) p (c.drop k) f fl) /\
   (∀ k,k<=f.length->∃ A,(if cap'=k then a' else a'.map fun x=>x.add k)=A/\R3 (W.setCell ⟨p,1,none⟩ (.slice A (f.length-k) (cap'-k))) p c (f.drop k) fl) /\
   (∀ v g,Sv W v (aF .u8 g)->Bs g->(∀ k,v.ownBlock=some k->k<p)->R3 (W.setCell ⟨p,1,none⟩ v) p c g fl):=by
 obtain⟨a,cap,a',cap',h1,⟨h2,h3,h4⟩,h5,h6,h7⟩:=h;have eg:∀ i (x:Value),Sv (W.setCell ⟨p,i,none⟩ x) (.slice a c.length cap) (aF .u8 c):=fun i x=>h2.keptW (fun _=>h3) (jj x)
 have dR:∀ i (x:Value),Sv (W.setCell ⟨p,i,none⟩ x) (.slice a' f.length cap') (aF .u8 f):=fun i x=>h5.keptW (fun _=>h6) (jj x)
 obtain⟨x1,c1,e1,lK,ke⟩:=h2.form1;obtain⟨x2,c2,e2,Lk,hc4⟩:=h5.form1;rw[ap]at e1 lK e2 Lk;simp only[Value.slice.injEq]at e1 e2;obtain⟨rfl,_,rfl⟩:=e1;obtain⟨rfl,_,rfl⟩:=e2
 refine⟨a,cap,a',cap',⟨by rw[ay h1];rfl,by rw[ay h1];rfl,by rw[ay h1];rfl⟩,⟨by simp[World.frozen?,h1],by simp[World.frozen?,h1],by simp[World.frozen?,h1]⟩,
  ⟨lK,by unfold maxLen at ke;omega,Lk,by unfold maxLen at hc4;omega⟩,⟨h2,h3⟩,⟨h5,h6⟩,fun fl'=>?_,fun k hk=>?_,fun k hk=>?_,fun v g hv hg hvb=>?_⟩
 ·exact⟨a,cap,a',cap',by rw[cU h1];rfl,⟨eg _ _,h3,h4⟩,dR _ _,h6,h7⟩
 ·refine⟨_,rfl,?_⟩
  have hd:=h2.dropG (k:=k) (by rw[ap];exact hk);rw[ap,kP]at hd;have fK:=jE (m:=c.length-k) (k:=k) (c:=cap) h3;refine⟨_,cap-k,a',cap',by rw[cU h1,jeR];rfl,⟨?_,?_,h4.drop k⟩,dR _ _,h6,h7⟩
  ·rw[jeR]
   exact hd.keptW (fun _=>fK) (jj _)
  ·rw[jeR]
   exact fK
 ·refine⟨_,rfl,?_⟩
  have hd:=h5.dropG (k:=k) (by rw[ap];exact hk);rw[ap,kP]at hd;have fK:=jE (m:=f.length-k) (k:=k) (c:=cap') h6;refine⟨a,cap,_,cap'-k,by rw[cU h1,jeR];rfl,⟨eg _ _,h3,h4⟩,?_,?_,h7.drop k⟩
  ·rw[jeR]
   exact hd.keptW (fun _=>fK) (jj _)
  ·rw[jeR]
   exact fK
 ·obtain⟨av,cv,rfl,_,_⟩:=hv.form1
  rw[ap]at *;exact⟨a,cap,av,cv,by rw[cU h1];rfl,⟨eg _ _,h3,h4⟩,hv.keptW (fun _=>hvb) (jj _),hvb,hg⟩
theorem R3.cells2{W U:World}{p:Nat}{c f:List Nat}{fl:Bool}(h:R3 W p c f fl)(hU:Below W.heap.size W U){a:Option Addr}{n cap:Nat}(hc:W.cell? ⟨p,1,none⟩=some (.slice a n cap)) :
  Sv U (.slice a f.length cap) (aF .u8 f)/\∀ i,(Value.slice a f.length cap).ownBlock=some i->i<p:=by
 obtain⟨_,_,a',cap',⟨_,c1,_⟩,_,_,_,⟨s1,s2⟩,_⟩:=(h.kept hU h.lt).cells;rw[hU.cell h.lt,hc]at c1;simp only[Option.some.injEq,Value.slice.injEq]at c1;obtain⟨rfl,rfl,rfl⟩:=c1;exact⟨s1,s2⟩
theorem qv{w:World}{p:Nat}{c f:List Nat}{fl:Bool}(h:R3 w p c f fl)(lo hi:Nat)(h1:lo<=9223372036854775807)(h2:hi<=9223372036854775807) :
  Calls Tryz.prog 141 #[.pointer (some ⟨p,0,none⟩),.int .i64 (lo:Int),.int .i64 (hi:Int)] w fun r w'=>r=.returned (.int .i64 (gy lo hi f:Int))/\R3 w' p c (dK f) (fl || mq lo hi f)/\Fr p w.heap.size w w':=by
 obtain⟨a,cap,a',cap',⟨c0,c1,c2⟩,⟨f0,f1,f2⟩,⟨l1,l2,l3,l4⟩,_,⟨s1,s2⟩,_,_,k1,_⟩:=h.cells;obtain⟨g1,g2,g3,g4⟩:=gd f;have HG:=ae (BA h.bs.2 s1);obtain⟨A,hA,hR⟩:=k1 (gt f).2.1 g2;have HF:=ae ((Fr.refl p w.heap.size w).set 1 (.slice A (f.length-(gt f).2.1) (cap'-(gt f).2.1)));have HR:=ae hR;have HB:jgf (mq lo hi f=!decide ((gt f).2.2=0/\lo<=(gt f).1/\(gt f).1<=hi)):=ae rfl;have HV:jgf (gy lo hi f=if mq lo hi f=true then 0 else (gt f).1):=ae rfl;have HT:jgf (dK f=f.drop (gt f).2.1):=ae rfl;rw[HT.o];clear h k1 s1 s2 hR HT;generalize mq lo hi f=bd at *;generalize gy lo hi f=vw at *;generalize gt f=x at *;obtain⟨n,u,er⟩:=x;simp only at *;unfold kX at HG;have hu:(u:Int)<=(f.length:Int):=by omega
 have hw1:IntKind.u64.wrap (lo:Int)=(lo:Int):=by rw[jeP];omega
 have pR:IntKind.u64.wrap (hi:Int)=(hi:Int):=by rw[jeP];omega
 obtain⟨A0,Cap,B0,Cap',⟨d0,d1,d2⟩,⟨e0,e1,e2⟩,_,_,_,k2,_,_,_⟩:=HR.o.cells;have HK2:=ae (k2 true);have gP:=ae (HF.o.set 2 (.bool true));clear k2;by_cases her:er=0
 ·subst her
  have fJ:(((0:Nat):Int) != 0)=false:=by simp
  by_cases hlo:n<lo
  ·have hb:bd=true:=by rw[HB.o];simp;omega
   subst hb;have hv:vw=0:=by rw[HV.o];rfl
   subst hv;rw[Bool.or_true];have aB:(n:Int)<(lo:Int):=(by omega);clear HB HV;go_enter Tryz.func141,Tryz.ntmps141
   go_wp2_with fail;refine HG.o.mono ?_;rintro e w1 ⟨rfl,rfl⟩;go_wp2_with fail;go_ret
   exact⟨rfl,HK2.o,gP.o⟩
  ·have hnlt:¬ (n:Int)<(lo:Int):=by omega
   by_cases KY:hi<n
   ·have hb:bd=true:=by rw[HB.o];simp;omega
    subst hb;have hv:vw=0:=by rw[HV.o];rfl
    subst hv;rw[Bool.or_true];have vZ:(n:Int) > (hi:Int):=(by omega);clear HB HV;go_enter Tryz.func141,Tryz.ntmps141
    go_wp2_with fail;refine HG.o.mono ?_;rintro e w1 ⟨rfl,rfl⟩;go_wp2_with fail;go_ret
    exact⟨rfl,HK2.o,gP.o⟩
   ·have hb:bd=false:=by rw[HB.o];simp;omega
    subst hb;have hv:vw=n:=by rw[HV.o];rfl
    subst hv;rw[Bool.or_false];have vZ:¬ (vw:Int) > (hi:Int):=(by omega);have hwn:IntKind.i64.wrap (vw:Int)=(vw:Int):=by rw[jeV];omega
    clear HB HV;go_enter Tryz.func141,Tryz.ntmps141
    go_wp2_with fail;refine HG.o.mono ?_;rintro e w1 ⟨rfl,rfl⟩;go_wp2_with fail;go_ret
    exact⟨rfl,HR.o,HF.o⟩
 ·have hb:bd=true:=by rw[HB.o];simp;omega
  subst hb;have hv:vw=0:=by rw[HV.o];rfl
  subst hv;rw[Bool.or_true]
  have fJ:((er:Int) != 0)=true:=by
   have:(er:Int)≠0:=by omega
   simpa using this
  clear HB HV;go_enter Tryz.func141,Tryz.ntmps141
  go_wp2_with fail;refine HG.o.mono ?_;rintro e w1 ⟨rfl,rfl⟩;go_wp2_with fail;go_ret
  exact⟨rfl,HK2.o,gP.o⟩
theorem PI{w:World}{p:Nat}{c f:List Nat}{fl:Bool}(h:R3 w p c f fl)(k n:Nat)(hk:1<=k/\k<=3)(hn:n<=64)(eX:c.length<=100000000) :
  Calls Tryz.prog 181 #[.pointer (some ⟨p,0,none⟩),.int .u8 (k:Int),.int .i64 (n:Int)] w fun r w'=>∃ v,r=.returned v/\OwnV w' w.heap.size v (iE k n (c,f,fl)).1/\R3 w' p (iE k n (c,f,fl)).2.1 (iE k n (c,f,fl)).2.2.1 (iE k n (c,f,fl)).2.2.2/\Fr p w.heap.size w w':=by
 have aB:=h.lt;have HW:=ae (qv h 0 c.length (by omega) (by omega));have HM:jgf (iE k n (c,f,fl)=((gF k (c.take (gy 0 c.length f)) n).getD [],(c.drop (gy 0 c.length f),dK f,(fl || mq 0 c.length f) || (gF k (c.take (gy 0 c.length f)) n).isNone))):=ae rfl;have hvl:=rM 0 c.length f;obtain⟨a,cap,a',cap',⟨c0,c1,c2⟩,⟨f0,f1,f2⟩,⟨l1,l2,l3,l4⟩,y1,y2,y3,y4,y5⟩:=h.cells;clear h y1 y2 y3 y4 y5;rw[HM.o];clear HM;obtain⟨g,hg⟩:∃ g,(fl || mq 0 c.length f)=g:=⟨_,rfl⟩;rw[hg]at HW ⊢;clear hg;generalize gy 0 c.length f=m at *;generalize dK f=rf at *;obtain⟨L,hL⟩:∃ L,(gF k (c.take m) n).getD []=L:=⟨_,rfl⟩;obtain⟨D,hD⟩:∃ D,(gF k (c.take m) n).isNone=D:=⟨_,rfl⟩;rw[hL,hD];have KT:=ae (And.intro hL hD);clear hL hD;go_enter Tryz.func181,Tryz.ntmps181
 go_wp2_with fail;refine HW.o.mono ?_;rintro e w1 ⟨rfl,eg,dh⟩;clear c0 c1 c2 f0 f1 f2 l1 l2 l3 l4;obtain⟨a,cap,a',cap',⟨c0,c1,c2⟩,⟨f0,f1,f2⟩,⟨l1,l2,l3,l4⟩,⟨t1,t2⟩,y1,y2,y3,y4⟩:=eg.cells;have hT:=t1.take (k:=m) (by rw[ap];exact hvl);rw[fU]at hT;have HC:=ae (PG hT (eg.bs.1.take m) k n);have ja:=ae eg;have gp:=ae dh;have Lj:(m:Int)<=(c.length:Int):=by omega
 have oD:(m:Int)<=(cap:Int):=by omega
 have qG:=ae dh.size;clear eg dh t1 t2 hT y1 y2 y3 y4;go_wp2_with fail;refine HC.o.mono ?_;rintro e w2 ⟨v,l,er,rfl,ho,ht,hb⟩;have dR:=ja.o.kept hb ja.o.lt;have dG:=gp.o.then (hb.mono qG.o)
 have dz:=ae ho;have gj:=ae dR;have gP:=ae dG;have Zb:gF k (c.take m) n=none∨∃ y,gF k (c.take m) n=some y:=by cases gF k (c.take m) n<;>simp
 have QP:jgf (L=l/\D=((er:Int) != 0)):=ae (by
  rw[← KT.o.1,← KT.o.2];unfold uI at ht;rw[jei hk,jei (by omega),jeQ]at ht;rcases ht with ⟨rfl,e⟩ | ⟨h0,_,rfl,e⟩
  ·rw[e];exact⟨rfl,by simp⟩
  ·rw[e]
   have:((er:Int) != 0)=true:=by
    have:(er:Int)≠0:=by omega
    simpa using this
   exact⟨rfl,by rw[this];rfl⟩)
 obtain⟨rfl,hd0⟩:=QP.o;have hd:=hd0.symm;clear QP hd0
 have jn:jgf (R3 (w2.setCell ⟨p,2,none⟩ (.bool (g || D))) p c rf (g || D)):=ae (by
  obtain⟨_,_,_,_,_,_,_,_,_,k2,_⟩:=gj.o.cells;exact k2 _)
 have qE:=ae (gP.o.set 2 (.bool (g || D)));clear c0 c1 c2 f0 f1 f2 l1 l2 l3 l4 Lj oD;obtain⟨a2,cap2,a2',cap2',⟨c0,c1,c2⟩,⟨f0,f1,f2⟩,⟨l1,l2,l3,l4⟩,y1,y2,y3,y4,y5⟩:=gj.o.cells;obtain⟨a3,cap3,a3',cap3',⟨q0,q1,q2⟩,z0,x1,z1,z2,x2,y0,x3⟩:=jn.o.cells;have Rn:=q0;rw[show (w2.setCell ⟨p,2,none⟩ (.bool (g || D))).cell? ⟨p,0,none⟩=w2.cell? ⟨p,0,none⟩ from World.cell?_setCell_other _ _ _ _ (by simp),c0]at Rn;simp only[Option.some.injEq,Value.slice.injEq,true_and]at Rn;obtain⟨rfl,rfl⟩:=Rn;obtain⟨A,hA,hR4⟩:=y0 m hvl;have Lj:(m:Int)<=(c.length:Int):=by omega
 have oD:(m:Int)<=(cap2:Int):=by omega
 have Bd:=ae hR4;have yy:=ae (qE.o.set 0 (.slice A (c.length-m) (cap2-m)));have eY:=ae (show OwnV _ w1.heap.size v L from Fr.own (((Fr.refl p w2.heap.size w2).set 2 (.bool (g || D))).set 0 (.slice A (c.length-m) (cap2-m))) dz.o ja.o.lt);have HSZ1:=ae qG.o;clear y0 y1 y2 y3 y4 y5 x1 x2 x3 hR4 dR dG hb ho ht Zb q0 q1 q2 z0 z1 z2;have hsz0:w.heap.size<=w1.heap.size:=qG.o;rcases g with _ | _<;>rcases D with _ | _
 all_goals
  go_wp2_with fail;go_ret
  exact⟨_,rfl,OwnV.of_le eY.o HSZ1.o,Bd.o,yy.o⟩
theorem Fz{w:World}{p:Nat}{c f:List Nat}{fl:Bool}(h:R3 w p c f fl){v:Value}{l:List Cl}(hs:Sv w v (aJ l))(hf:∀ x∈l,aT x)(hl:l.length<=256) :
  Calls Tryz.prog 182 #[.pointer (some ⟨p,0,none⟩),v] w fun r w'=>r=.returned (vC (cA l))/\R3 w' p (qo l (c,f,fl)).1 (qo l (c,f,fl)).2.1 (qo l (c,f,fl)).2.2/\Fr p w.heap.size w w':=by
 have aB:=h.lt;have ch:=Stb.new w stZ;have dL:=ak w (.cells #[.int .i64 0,.int .i64 0,.bool false,.bool false,.int .u8 0,.int .i64 0,.string ⟨#[]⟩,.int .u8 0,.int .i64 0,.string ⟨#[]⟩] 54);have hz0':Stb (w.alloc (.cells #[.int .i64 0,.int .i64 0,.bool false,.bool false,.int .u8 0,.int .i64 0,.string ⟨#[]⟩,.int .u8 0,.int .i64 0,.string ⟨#[]⟩] 54)) w.heap.size stZ:=ch;have zg:=hs.kept dL;have Zi:=ae (h.kept dL aB);obtain⟨⟨M1,M2,M3⟩,hM⟩:∃ R:S3,qo l (c,f,fl)=R:=⟨_,rfl⟩;have HM:jgf ((M1,M2,M3)=if (eD (cA l)).isPrefixOf f=true then (c,f.drop (eD (cA l)).length,fl) else (c,f,true)):=ae (hM.symm.trans rfl);rw[hM];clear hM;obtain⟨m1,m2⟩:=kJ hf;obtain⟨nn,m3,m4⟩:=lw l;have m5:∃ n:Nat,(cA l).nulls=(n:Int)/\n<=1000000:=⟨nn,m3,by omega⟩;have cP:=ae (oe m1 m2 m5);have sO:=ae (pi m1 m2 m5).2;have HSS:=ae (Aq zg hf (by omega));have WQ:=ae hz0';have ce:=ae dL;have sA:(w.alloc (.cells #[.int .i64 0,.int .i64 0,.bool false,.bool false,.int .u8 0,.int .i64 0,.string ⟨#[]⟩,.int .u8 0,.int .i64 0,.string ⟨#[]⟩] 54)).heap.size=w.heap.size+1:=jel _ _;have qG:=ae sA;obtain⟨a,cap,rfl,aW,bC⟩:=hs.form1;rw[aG]at *;clear hs hf dL ch hz0' zg m1 m2 m3 m4 m5 sA h;generalize hA:w.alloc (.cells #[.int .i64 0,.int .i64 0,.bool false,.bool false,.int .u8 0,.int .i64 0,.string ⟨#[]⟩,.int .u8 0,.int .i64 0,.string ⟨#[]⟩] 54)=A at *;generalize eD (cA l)=sb at *;generalize cA l=st at *;obtain⟨x1,x2,x3,x4,⟨y1,y2,y3⟩,z1,z2,z3⟩:=st;unfold vC at *;simp only at *;go_enter Tryz.func182,Tryz.ntmps182
 go_wp2_with fail;try rw[hA]
 refine HSS.o.mono ?_;rintro e w1 ⟨rfl,aH⟩;have sP:=ae (Zi.o.kept aH Zi.o.lt);have aP:=ae aH;have HZ1:=ae (WQ.o.kept aH);have vP:=ak w1 (.cells #[.int .i64 x1,.int .i64 x2,.bool x3,.bool x4,.int .u8 (y1:Int),.int .i64 y2,.string (am y3),.int .u8 (z1:Int),.int .i64 z2,.string (am z3)] 54);have HQ:=ae (show Stb _ w1.heap.size ⟨x1,x2,x3,x4,(y1,y2,y3),(z1,z2,z3)⟩ from Stb.new w1 ⟨x1,x2,x3,x4,(y1,y2,y3),(z1,z2,z3)⟩);have jn:=ae (sP.o.kept vP sP.o.lt);have MB:=ae (HZ1.o.kept vP);have aN:=ae vP;have sB:(w1.alloc (.cells #[.int .i64 x1,.int .i64 x2,.bool x3,.bool x4,.int .u8 (y1:Int),.int .i64 y2,.string (am y3),.int .u8 (z1:Int),.int .i64 z2,.string (am z3)] 54)).heap.size=w1.heap.size+1:=jel _ _;have Zf:=ae sB;clear aH vP hA Zi WQ sB;generalize hB:w1.alloc (.cells #[.int .i64 x1,.int .i64 x2,.bool x3,.bool x4,.int .u8 (y1:Int),.int .i64 y2,.string (am y3),.int .u8 (z1:Int),.int .i64 z2,.string (am z3)] 54)=B at *;go_upto_region 2 with fail
 try rw[hB]
 obtain⟨a1,cap1,a1',cap1',⟨c0,c1,c2⟩,⟨f0,f1,f2⟩,⟨l1,l2,l3,l4⟩,k1,⟨s1,s2⟩,k3,k4,k5,k6⟩:=jn.o.cells;obtain⟨_,⟨q0,q1,q2,q3⟩,⟨q4,q5,q6⟩,q7,q8,q9⟩:=HQ.o.at;simp only[jeO]at q0 q1 q2 q3 q4 q5 q6 q7 q8 q9
 have Rj:jgf (∀ U,Below B.heap.size B U->Calls Tryz.prog 84 #[.agg #[.int .i64 x1,.int .i64 x2,.bool x3,.bool x4,.int .u8 (y1:Int),.int .i64 y2,.string (am y3),.int .u8 (z1:Int),.int .i64 z2,.string (am z3)]] U fun e w'=>∃ v,e=.returned v/\Sv w' v (aF .u8 sb)/\Below B.heap.size B w'/\w'.cell? ⟨p,1,none⟩=some (.slice a1' f.length cap1')):=ae (fun U hU=>by
  refine(cP.o U).mono ?_;rintro e w' ⟨⟨v,rfl,ho⟩,hb⟩;have yx:=ai hU hb;exact⟨v,rfl,ho.sv,yx,(yx.cell jn.o.lt).trans c1⟩)
 have Rk:jgf (∀ U vb,Below B.heap.size B U->Sv U vb (aF .u8 sb)->Calls Tryz.prog 52 #[.slice a1' f.length cap1',vb] U fun e w'=>(∃ v,e=.returned (.tuple #[v,.bool (sb.isPrefixOf f)])/\Sv w' v (aF .u8 (if sb.isPrefixOf f=true then f.drop sb.length else f))/\∀ i,v.ownBlock=some i->i<p)/\w'=U):=ae (fun U vb hU hvb=>by
  refine(Fx (jn.o.cells2 hU c1).1 hvb jn.o.bs.2 sO.o).mono ?_;rintro e w' ⟨⟨v,rfl,hv,hvp⟩,rfl⟩;exact⟨⟨v,rfl,hv,hvp p (jn.o.cells2 hU c1).2⟩,rfl⟩)
 clear k1 s1 s2 k3 k4 k5 k6;generalize sb.isPrefixOf f=px at *;go_cut [6,7] from 10 (fun s6 s7 wx=>s7=.bool px/\Sv wx s6 (aF .u8 (if px=true then f.drop sb.length else f))/\(∀ i,s6.ownBlock=some i->i<p)/\Below B.heap.size B wx)
 case first =>
  refine wp_region_noPanic ?_
  go_region_law (first
   | (go_simp;go_at_call 84;refine(Rj.o _ ?_).mono ?_;exact ar (jej B.heap.size B) _;rintro e w5 ⟨v5,rfl,nG,bD,hc5⟩;have qF:=ae nG;have aQ:=ae bD;clear nG bD;dsimp only)
   | (go_simp;go_at_call 52;refine(Rk.o _ _ aQ.o qF.o).mono ?_;rintro e w6 ⟨⟨v6,rfl,yl,hp6⟩,rfl⟩;have HS6:=ae yl;have HP6:=ae hp6;clear yl hp6;dsimp only)
   | fail)
  all_goals refine NoPanic.normal ?_
  all_goals (go_wp2_with fail;go_meet)
  all_goals exact⟨rfl,HS6.o,HP6.o,aQ.o⟩
 case rest =>
 clear c0 c1 c2 f0 f1 f2 l1 l2 l3 l4 q0 q1 q2 q3 q4 q5 q6 q7 q8 q9 Rj Rk cP HSS;obtain⟨rfl,yl,hp6,dW⟩:=hcut;have HG:jgf (Bs (if px=true then f.drop sb.length else f)):=ae (by have:=jn.o.bs.2;split;exact this.drop _;exact this);have hr3:=jn.o.kept dW jn.o.lt;have iN:=MB.o.kept dW;have MD:=HQ.o.kept dW;have lC:Below w.heap.size w wc:=ai ce.o (ai aP.o (ai aN.o dW));have hsw:w.heap.size<w1.heap.size:=by have:=qG.o;have:=aP.o.size;omega
 have jG:w.heap.size<=wc.heap.size:=lC.size;obtain⟨g,hg⟩:∃ g,(fl || !px)=g:=⟨_,rfl⟩;obtain⟨G,hG⟩:∃ G,(if px=true then f.drop sb.length else f)=G:=⟨_,rfl⟩;rw[hG]at yl HG
 have Lo:jgf ((M1,M2,M3)=(c,G,g)):=ae (by
  rw[HM.o,← hG,← hg];cases px<;>simp)
 have iJ:Fr p w.heap.size w wc:=Fr.of_below lC;obtain⟨a1,cap1,a1',cap1',⟨c0,c1,c2⟩,⟨f0,f1,f2⟩,⟨l1,l2,l3,l4⟩,k1,k2,k3,k4,k5,k6⟩:=hr3.cells;have hr4:=k3 g;have pT:=iJ.set 2 (.bool g);obtain⟨_,_,_,_,_,_,_,_,_,_,_,_,k7⟩:=hr4.cells;have Rm:=k7 u6 G (yl.keptW (fun _=>hp6) (jj _)) HG.o hp6;have iS:=pT.set 1 u6;have hq5:=(MD.other (p:=p) (by have:=aB;omega) 2 (.bool g)).other (p:=p) (by have:=aB;omega) 1 u6;have tU:=(iN.other (p:=p) (by have:=aB;omega) 2 (.bool g)).other (p:=p) (by have:=aB;omega) 1 u6;have iR:=TM (W:=(wc.setCell ⟨p,2,none⟩ (.bool g)).setCell ⟨p,1,none⟩ u6) (jej w.heap.size _) (jek _) (.int .i64 x1) (.int .i64 x2) (.bool x3) (.bool x4) (.int .u8 (y1:Int)) (.int .i64 y2) (.string (am y3)) (.int .u8 (z1:Int)) (.int .i64 z2) (.string (am z3));have GN:=ae (Rm.kept iR aB);have GO:=ae (iS.trans (Fr.of_below iR));obtain⟨_,⟨q0,q1,q2,q3⟩,⟨q4,q5,q6⟩,q7,q8,q9⟩:=MD.at;obtain⟨_,⟨r0,r1,r2,r3⟩,⟨r4,r5,r6⟩,r7,r8,r9⟩:=iN.at;simp only[jeO]at q0 q1 q2 q3 q4 q5 q6 q7 q8 q9 r0 r1 r2 r3 r4 r5 r6 r7 r8 r9;have fg:=MD.frozen;have fz:=iN.frozen;have Za:¬ w1.heap.size=w.heap.size:=by omega
 have Mt:¬ w.heap.size=w1.heap.size:=by omega
 have hn3:¬ p=w.heap.size:=by omega
 have hn4:¬ p=w1.heap.size:=by omega
 have hn5:¬ w.heap.size=p:=by omega
 have hn6:¬ w1.heap.size=p:=by omega
 have gX:∃ a6 n6 c6,u6=.slice a6 n6 c6:=by obtain⟨_,_,h,_⟩:=yl.form1;exact⟨_,_,_,h⟩
 obtain⟨a6,n6,c6,rfl⟩:=gX;clear k1 k2 k3 k4 k5 k6 k7 hr4 pT Rm iS hq5 tU iR hr3 iN MD yl hp6 dW iJ hG lC HM
 have CV:jgf (∀ W,R3 W p c G g->R3 W p M1 M2 M3):=ae (fun W hW=>by
  have e:=Lo.o;simp only[Prod.mk.injEq]at e;rw[e.1,e.2.1,e.2.2];exact hW)
 cases fl<;>cases px
 all_goals
  simp only[Bool.not_true,Bool.not_false,Bool.or_false,Bool.or_true,Bool.true_or,Bool.false_or]at hg;subst hg;go_wp2_with fail;refine bodyPost_ret (v:=.agg #[.int .i64 x1,.int .i64 x2,.bool x3,.bool x4,.int .u8 (y1:Int),.int .i64 y2,.string (am y3),.int .u8 (z1:Int),.int .i64 z2,.string (am z3)]) (by simp[results,Tryz.results182,go_sem,Za,Mt,hn3,hn4,hn5,hn6,r0,r1,r2,r3,r4,r5,r6,r7,r8,r9]) rfl ⟨rfl,CV.o _ GN.o,GO.o⟩
def Ss(W:World)(v:Value)(l:List Stt):Prop:=∃ a cap,v=.slice a l.length cap/\l.length<=cap/\cap<=maxLen/\(0<l.length->∃ b off,a=some ⟨b,off,none⟩/\∀ j (h:j<l.length),Jz W b (off+j*10) l[j])
theorem Ss.kept{W W':World}{v:Value}{l:List Stt}(h:Ss W v l)(hb:Below W.heap.size W W'):Ss W' v l:=by
 obtain⟨a,cap,h1,h2,h3,h4⟩:=h;refine⟨a,cap,h1,h2,h3,fun h0=>?_⟩;obtain⟨b,off,h5,h6⟩:=h4 h0;exact⟨b,off,h5,fun j h=>(h6 j h).kept hb⟩
theorem Ss.form{W:World}{v:Value}{l:List Stt}(h:Ss W v l):∃ a cap,v=.slice a l.length cap/\l.length<=cap/\cap<=maxLen:=by
 obtain⟨a,cap,h1,h2,h3,_⟩:=h;exact⟨a,cap,h1,h2,h3⟩
theorem Ss.at{W:World}{a:Option Addr}{n cap:Nat}{l:List Stt}(h:Ss W (.slice a n cap) l){i:Nat}(hi:i<l.length):∃ g o,a=some ⟨g,o,none⟩/\Jz W g (o+i*10) l[i]:=by
 obtain⟨a',cap',e,_,_,h4⟩:=h;simp only[Value.slice.injEq]at e;obtain⟨rfl,_,_⟩:=e;obtain⟨g,o,rfl,h6⟩:=h4 (by omega);exact⟨g,o,rfl,h6 i hi⟩
def tH(W:World)(q si:Nat)(fv sv:Value)(l:List Fd)(r:List Stt):Prop :=
 q<W.heap.size/\W.cell? ⟨q,0,none⟩=some (.int .u32 (si:Int))/\W.cell? ⟨q,1,none⟩=some fv/\W.cell? ⟨q,2,none⟩=some sv/\Sf W fv l/\Ss W sv r
theorem tH.kept{W W':World}{q si:Nat}{fv rv:Value}{l:List Fd}{r:List Stt}(h:tH W q si fv rv l r)(hb:Below W.heap.size W W'):tH W' q si fv rv l r:=by
 obtain⟨h0,h1,h2,h3,h4,h5⟩:=h;have e:∀ o,W'.cell? ⟨q,o,none⟩=W.cell? ⟨q,o,none⟩:=fun o=>(gz hb).1 q o h0
 exact⟨jeH h0 hb.size,by rw[e];exact h1,by rw[e];exact h2,by rw[e];exact h3,h4.kept hb,h5.kept hb⟩
theorem FA{l:List Fd}{r:List Stt}{op f:Nat}{c:Cl}(h:iV l f=none):kI l r op f c=(true,true,true):=by unfold kI;rw[h]
theorem FB{l:List Fd}{r:List Stt}{op f j:Nat}{c:Cl}(h:iV l f=some j)(hj:¬ j<r.length):kI l r op f c=(true,true,true):=by
 unfold kI;rw[h];simp only;rw[List.getElem?_eq_none (by omega)]
theorem PJ{l:List Fd}{r:List Stt}{op f j:Nat}{c:Cl}(h:iV l f=some j)(hj:j<r.length):kI l r op f c=Jv op c r[j]:=by
 unfold kI;rw[h];simp only;rw[List.getElem?_eq_getElem hj]
open Go.ChangeShapes Go.WideShapes Go.ChangeAt Go.Joins
theorem own:ownKnob Tryz.prog.godebug=none:=by kernel_rfl
theorem Mh:laidOutB Tryz.prog=true:=by kernel_rfl
theorem PM{W:World}{B:Nat}{a:Addr}{cs:List Value}(h:W.cells? B a 1=some cs):∃ c,cs=[c]/\W.cell? a=some c:=by
 obtain⟨_,hl,hc⟩:=World.cells?_some h;match cs,hl with
 | [c],_=>exact⟨c,rfl,by simpa [Addr.add]using hc 0 (by omega)⟩
theorem Yl:Tryz.prog.cellsOf 52=3:=by kernel_rfl
theorem Kj{H:Type}{enc:TypeId×Value->H}{W:World}{spare:Nat->Bool}{held:Bool}{a:Option Addr}{len cap:Nat}{d:DataW H}{p:List MemPlace}
  (h:DataW.Trod enc Tryz.prog W 0 spare held 58 (.slice a len cap) d p):∃ l:List (Nat×Int×List Nat),Sc W (.slice a len cap) l/\∀ c∈l,Okc c:=by
 obtain⟨fuel,hf⟩:=h;rcases Deep.open_slice Tryz.underlying58 hf with ⟨h1,_⟩ | ⟨a1,l1,c1,m,n,D,Pl,h1,_,hlc,hm,hmm,_,hcells⟩
 ·simp[Value.cells]at h1
  obtain⟨rfl,rfl,rfl⟩:=h1;exact⟨[],⟨none,0,rfl,jek _,by unfold maxLen;omega,fun h=>by simp at h⟩,fun x hx=>by simp at hx⟩
 ·simp[Value.cells]at h1
  obtain⟨rfl,rfl,rfl⟩:=h1;rw[Yl]at hcells;have hlm:len<=m:=by rw[hmm];split<;>omega
  have Wa:∀ i,i<len->∃ x:Nat×Int×List Nat,Okc x/\W.cell? ((a1.add (i*3)).add 0)=some (.int .u8 (x.1:Int))/\W.cell? ((a1.add (i*3)).add 1)=some (.int .i64 x.2.1)/\W.cell? ((a1.add (i*3)).add 2)=some (txt x.2.2):=by
   intro i hi;obtain⟨cs,hc,ht⟩:=hcells i (by omega);obtain⟨c0,c1,c2,rfl,e0,e1,e2⟩:=Dz hc;obtain⟨y0,y1,y2,m1,_,_,t0,t1,t2⟩:=Deep.trod_struct3 Tryz.underlying52 ht;have k28:Tryz.prog.cellsOf 50=1:=by kernel_rfl
   have k9:Tryz.prog.cellsOf 9=1:=by kernel_rfl
   have k2:Tryz.prog.cellsOf 2=1:=by kernel_rfl
   simp only[k28,k9,k2]at t0 t1 t2;obtain⟨k,q0,_,wk⟩:=DataW.trod_int Tryz.underlying50 t0;obtain⟨n,q1,_,wn⟩:=DataW.trod_int Tryz.underlying2 t1;obtain⟨s,q2,_⟩:=DataW.trod_string Tryz.underlying9 t2;simp at q0 q1 q2
   subst q0 q1 q2;have hk:=bounds_u8 wk;have hn:=bounds_i64 wn;have hI:I64 n:=⟨hn.1,by have:=hn.2;omega⟩;have Lt:((k.toNat:Nat):Int)=k:=(by omega);refine⟨(k.toNat,n,de s),⟨show k.toNat<256 by omega,hI,Dv s⟩,?_,e1,?_⟩
   ·show _=some (Value.int .u8 ((k.toNat:Nat):Int))
    rw[e0,Lt]
   ·rw[e2,dM,ua]
  obtain⟨f,dG⟩:=Deep.choose_lt Wa;have kW:((List.range len).map f).length=len:=by simp
  refine⟨(List.range len).map f,⟨some a1,cap,by rw[kW],by rw[kW];omega,by omega,fun h0=>?_⟩,?_⟩
  ·rw[kW]at h0
   obtain⟨b,off,spot⟩:=a1
   have Gx:spot=none:=by
    have:=World.cell?_spot (dG 0 (by omega)).2.1;simpa [Addr.add]using this
   subst Gx
   have hb:b<W.heap.size:=by
    obtain⟨cs,hc,_⟩:=hcells 0 (by omega);have:=World.cells?_block hc (by omega);simpa [Addr.add]using this
   refine⟨b,off,rfl,hb,fun j x hj=>?_⟩
   have tR:j<len*3:=by
    have:=(List.getElem?_eq_some_iff.1 hj).1;rw[mE,kW]at this;exact this
   have hi:j / 3<len:=(by omega);have Ra:j / 3<((List.range len).map f).length:=by rw[kW];exact hi
   obtain⟨g0,g1,g2⟩:=sU Ra;obtain⟨_,k0,k1,k2⟩:=dG (j / 3) hi;rw[lR,lR]at k0 k1 k2;have kT:((List.range len).map f)[j / 3]=f (j / 3):=by simp
   rw[kT]at g0 g1 g2;obtain h | h | h:j=j / 3*3∨j=j / 3*3+1∨j=j / 3*3+2:=by omega
   ·rw[h]at hj ⊢
    rw[g0]at hj;rw[← hj,← k0];rfl
   ·rw[h]at hj ⊢
    rw[g1]at hj;rw[← hj,← k1];rfl
   ·rw[h]at hj ⊢
    rw[g2]at hj;rw[← hj,← k2];rfl
  ·intro x hx
   obtain⟨i,hi,rfl⟩:=jeF.1 hx;exact(dG i (by simpa using hi)).1
theorem Ym:Tryz.prog.cellsOf 81=4:=by kernel_rfl
theorem Yn:Tryz.prog.cellsOf 25=2:=by kernel_rfl
theorem Kk{W:World}{base:Nat}{a:Addr}{cs:List Value}(h:W.cells? base a 4=some cs):∃ c0 c1 c2 c3,cs=[c0,c1,c2,c3]/\W.cell? (a.add 0)=some c0/\W.cell? (a.add 1)=some c1/\W.cell? (a.add 2)=some c2/\W.cell? (a.add 3)=some c3:=by
 obtain⟨_,hl,hc⟩:=World.cells?_some h;match cs,hl with
 | [c0,c1,c2,c3],_=>exact⟨c0,c1,c2,c3,rfl,by simpa using hc 0 (by omega),by simpa using hc 1 (by omega),by simpa using hc 2 (by omega),by simpa using hc 3 (by omega)⟩
theorem FC{H:Type}{enc:TypeId×Value->H}{W:World}{spare:Nat->Bool}{held:Bool}{fuel:Nat}{v:Value}{y:DataW H×List MemPlace}
  (hf:DataW.trod enc Tryz.prog W 0 spare held fuel 23 [v]=some y):∃ l:List Fd,Sf W v l/\∀ f∈l,Okf f:=by
 rcases Deep.open_slice Tryz.underlying23 hf with ⟨h1,_⟩ | ⟨a1,len,cap,m,n,D,Pl,h1,_,hlc,hm,hmm,_,hcells⟩
 ·simp at h1
  subst h1;exact⟨[],Sf.nil _,fun x hx=>by simp at hx⟩
 ·simp at h1
  subst h1;rw[Ym]at hcells;have hlm:len<=m:=by rw[hmm];split<;>omega
  have Wa:∀ i,i<len->∃ x:Fd,Okf x/\W.cell? ((a1.add (i*4)).add 0)=some (.int .u32 (x.1:Int))/\W.cell? ((a1.add (i*4)).add 1)=some (.string x.2.1)/\W.cell? ((a1.add (i*4)).add 2)=some (.int .u8 (x.2.2.1:Int))/\W.cell? ((a1.add (i*4)).add 3)=some (.bool x.2.2.2):=by
   intro i hi;obtain⟨cs,hc,ht⟩:=hcells i (by omega);obtain⟨c0,c1,c2,c3,rfl,e0,e1,e2,e3⟩:=Kk hc;obtain⟨y0,y1,y2,y3,m1,_,_,t0,t1,t2,t3⟩:=trod_struct4 Tryz.underlying81 ht;have k22:Tryz.prog.cellsOf 22=1:=by kernel_rfl
   have k9:Tryz.prog.cellsOf 9=1:=by kernel_rfl
   have k31:Tryz.prog.cellsOf 50=1:=by kernel_rfl
   have k4:Tryz.prog.cellsOf 4=1:=by kernel_rfl
   simp only[k22,k9,k31,k4]at t0 t1 t2 t3;obtain⟨k,q0,_,wk⟩:=DataW.trod_int Tryz.underlying22 t0;obtain⟨s,q1,_⟩:=DataW.trod_string Tryz.underlying9 t1;obtain⟨n,q2,_,wn⟩:=DataW.trod_int Tryz.underlying50 t2;obtain⟨bo,q3,_⟩:=DataW.trod_bool Tryz.underlying4 t3;simp at q0 q1 q2 q3
   subst q0 q1 q2 q3;have hk:=bounds_u32 wk;have hn:=bounds_u8 wn;have Lt:((k.toNat:Nat):Int)=k:=(by omega);have fJ:((n.toNat:Nat):Int)=n:=(by omega);refine⟨(k.toNat,s,n.toNat,bo),⟨show k.toNat<4294967296 by omega,show n.toNat<256 by omega⟩,?_,e1,?_,e3⟩
   ·show _=some (Value.int .u32 ((k.toNat:Nat):Int))
    rw[e0,Lt]
   ·show _=some (Value.int .u8 ((n.toNat:Nat):Int))
    rw[e2,fJ]
  obtain⟨f,dG⟩:=Deep.choose_lt Wa;have kW:((List.range len).map f).length=len:=by simp
  refine⟨(List.range len).map f,⟨some a1,cap,by rw[kW],by rw[kW];omega,by omega,fun h=>by(cases h),fun h0=>?_⟩,?_⟩
  ·rw[kW]at h0
   obtain⟨b,off,spot⟩:=a1
   have Gx:spot=none:=by
    have:=World.cell?_spot (dG 0 (by omega)).2.1;simpa [Addr.add]using this
   subst Gx
   have hb:b<W.heap.size:=by
    obtain⟨cs,hc,_⟩:=hcells 0 (by omega);have:=World.cells?_block hc (by omega);simpa [Addr.add]using this
   refine⟨b,off,rfl,hb,fun j x hj=>?_⟩
   have tR:j<len*4:=by
    have:=(List.getElem?_eq_some_iff.1 hj).1;rw[gh,kW]at this;exact this
   have hi:j / 4<len:=(by omega);have Ra:j / 4<((List.range len).map f).length:=by rw[kW];exact hi
   obtain⟨g0,g1,g2,g3⟩:=ti Ra;obtain⟨_,k0,k1,k2,k3⟩:=dG (j / 4) hi;rw[lR,lR]at k0 k1 k2 k3;have kT:((List.range len).map f)[j / 4]=f (j / 4):=by simp
   rw[kT]at g0 g1 g2 g3;obtain h | h | h | h:j=j / 4*4∨j=j / 4*4+1∨j=j / 4*4+2∨j=j / 4*4+3:=by omega
   ·rw[h]at hj ⊢
    rw[g0]at hj;rw[← hj,← k0];rfl
   ·rw[h]at hj ⊢
    rw[g1]at hj;rw[← hj,← k1];rfl
   ·rw[h]at hj ⊢
    rw[g2]at hj;rw[← hj,← k2];rfl
   ·rw[h]at hj ⊢
    rw[g3]at hj;rw[← hj,← k3];rfl
  ·intro x hx
   obtain⟨i,hi,rfl⟩:=jeF.1 hx;exact(dG i (by simpa using hi)).1
theorem FD{H:Type}{enc:TypeId×Value->H}{W:World}{r:Reach}{b0:Nat}{spare:Nat->Bool}{held:Bool}{v:Value}{d:DataW H}{p:List MemPlace}
  (hv:Value.okWide Tryz.prog W r b0 25 v) (h:DataW.Trod enc Tryz.prog W 0 spare held 25 v d p) :
  ∃(id:Nat) (u:Value) (l:List Fd),v=.agg #[.int .u32 (id:Int),u]/\id<4294967296/\Sf W u l/\∀ f∈l,Okf f:=by
 obtain⟨c0,c1,y0,y1,m,rfl,_,_,h0,h1⟩:=open_agg2 Tryz.underlying25 (by kernel_rfl) Yn hv h;obtain⟨k,e0,_,wk⟩:=DataW.trod_int Tryz.underlying22 h0;simp at e0
 subst e0;have hk:=bounds_u32 wk;obtain⟨l,hl,ho⟩:=FC h1;obtain⟨n,rfl⟩:=jfx hk.1;exact⟨n,c1,l,rfl,by omega,hl,ho⟩
end Go.Proofs.YtpljdjmpamjkhaaGreatDoor
