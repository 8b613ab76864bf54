import Derived.Test.YtpljdjmpamjkhaaGreatDoorXbb
set_option linter.unusedVariables false
set_option linter.unusedSimpArgs false
set_option maxRecDepth 100000
set_option maxHeartbeats 4000000
namespace Go.Proofs.YtpljdjmpamjkhaaGreatDoor
open Go.RowKit Go.Lib
theorem Jy(f:Fd){c:Cl}(hc:aT c)(w:World):Calls Tryz.prog 117 #[pX f,cY c] w fun e w'=>e=.returned (.int .i64 (qu f c:Int))/\Below w.heap.size w w':=by
 have HV:=ae (lK hc.val);obtain⟨i,n,k,nd⟩:=f;unfold pX;simp only;have QF:∀ w,(binOp .eql 78 .nilIface .nilIface).run Tryz.prog w=.ok (.bool true) w:=fun w=>by kernel_rfl
 have se:∀ t v w,(binOp .eql 78 (.iface t v) .nilIface).run Tryz.prog w=.ok (.bool false) w:=fun t v w=>by kernel_rfl
 have HM:jfp (qu (i,n,k,nd) c=if c.1=0 then (if nd=true then 82 else 0) else if c.1≠k then 10 else if 64<c.2.2.length then 5 else 0):=ae rfl;generalize qu (i,n,k,nd) c=R at *;have ce:=ae (am w (.cells #[.int .u32 (i:Int),.string n,.int .u8 (k:Int),.bool nd] 81));obtain⟨c0,c1,c2,c3⟩:=iU w (.int .u32 (i:Int)) (.string n) (.int .u8 (k:Int)) (.bool nd) 81;have hz:w.heap.size<(w.alloc (.cells #[.int .u32 (i:Int),.string n,.int .u8 (k:Int),.bool nd] 81)).heap.size:=by rw[jdx];omega
 generalize hW:w.alloc (.cells #[.int .u32 (i:Int),.string n,.int .u8 (k:Int),.bool nd] 81)=W at *;have hs:=bg c.2.2;generalize hS:ak c.2.2=S at *
 have bR:(S.size:Int)<=64:=by
  rcases hc with rfl | ⟨m,rfl,_⟩ | ⟨m,rfl,_⟩ | ⟨m,rfl,h,_⟩
  ·rw[hs];decide
  ·rw[hs];simp
  ·rw[hs];simp
  ·rw[hs];simp only;omega
 have ZD:¬ 64<c.2.2.length:=by omega
 have hvf:c.1=0/\cY c=.nilIface∨c.1≠0/\∃ t u,cY c=.iface t u:=by
  by_cases h0:c.1=0
  ·exact Or.inl ⟨h0,ov c h0⟩
  ·exact Or.inr ⟨h0,jY c h0⟩
 generalize c.2.1=cn at *;generalize c.2.2.length=cl at *;clear hS hs hc;generalize c.1=ck at *;generalize cY c=vc at *;rcases hvf with ⟨rfl,rfl⟩ | ⟨h0,t,u,rfl⟩
 ·rw[jdu rfl]at HM
  go_enter Tryz.func117,Tryz.ntmps117
  go_wp2_with fail;try rw[hW]
  clear hW;refine(HV.o _).mono ?_;rintro e w1 ⟨rfl,aH⟩;have d3:=(aH.cell (p:=⟨w.heap.size,3,none⟩) hz).trans c3;have aQ:=ae (ai ce.o aH);have cP:=aH.size;have FG:w.heap.size<w1.heap.size:=by omega
  clear aH c0 c1 c2 c3;cases nd
  ·rw[jdt (by simp)]at HM
   go_wp2_with fail;go_ret
   rw[HM.o];exact⟨rfl,aQ.o.alloc aQ.o.size _⟩
  ·rw[jdu rfl]at HM
   go_wp2_with fail;go_ret
   rw[HM.o];exact⟨rfl,aQ.o.alloc aQ.o.size _⟩
 ·rw[jdt h0]at HM
  go_enter Tryz.func117,Tryz.ntmps117
  go_wp2_with fail;try rw[hW]
  clear hW;refine(HV.o _).mono ?_;rintro e w1 ⟨rfl,aH⟩;have d2:=(aH.cell (p:=⟨w.heap.size,2,none⟩) hz).trans c2;have aQ:=ae (ai ce.o aH);have cP:=aH.size;have FG:w.heap.size<w1.heap.size:=by omega
  clear aH c0 c1 c2 c3;by_cases hk:ck=k
  ·subst hk
   rw[jdt (by simp),jdt ZD]at HM;go_wp2_with fail;go_ret
   rw[HM.o];exact⟨rfl,aQ.o.alloc aQ.o.size _⟩
  ·rw[jdu hk]at HM
   have hk':((ck:Int) != (k:Int))=true:=by simp;omega
   clear hk;go_wp2_with fail;go_ret
   rw[HM.o];exact⟨rfl,aQ.o.alloc aQ.o.size _⟩
theorem Xt{w:World}{v rv:Value}{l:List Fd}{r:List Cl}(hs:Sf w v l)(hr:Sv w rv (aI r))(hf:∀ c∈r,aT c)(si:Nat):Calls Tryz.prog 78 #[.agg #[.int .u32 (si:Int),v],rv] w fun e w'=>e=.returned (.int .i64 (jK l r:Int))/\Below w.heap.size w w':=by
 obtain⟨a,cap,rfl,aW,bw⟩:=hs.form;obtain⟨ra,rcap,rfl,UP,UQ⟩:=hr.form1;rw[aG]at *;have hrcm':rcap<=9223372036854775807:=by unfold maxLen at UQ;omega
 have dO:=am w (.cells #[.int .u32 (si:Int),.slice a l.length cap] 25);have ce:=ae dO;have HS:=ae (hs.kept dO);have HR:=ae (hr.kept dO);have Cb:=ae hf;obtain⟨c0,c1⟩:=bx w (.int .u32 (si:Int)) (.slice a l.length cap) 25;have hz:w.heap.size<(w.alloc (.cells #[.int .u32 (si:Int),.slice a l.length cap] 25)).heap.size:=by rw[jdx];omega
 clear hs hr hf dO UQ;generalize hW:w.alloc (.cells #[.int .u32 (si:Int),.slice a l.length cap] 25)=W at *;by_cases fF:r.length≠l.length
 ·have HM:jfp (jK l r=1):=ae (jdu fF)
  have hne':((r.length:Int) != (l.length:Int))=true:=by simp only[bne_iff_ne];omega
  clear fF;go_enter Tryz.func78,Tryz.ntmps78
  go_wp2_with fail;go_ret
  rw[HM.o];refine⟨rfl,?_⟩;first | exact ce.o | (rw[hW];exact ce.o)
 ·have pE:r.length=l.length:=by omega
  have HM:jfp (jK l r=qv (l.drop 0) (r.drop 0)):=ae (jdt fF);have Yb:=ae pE;rw[pE]at UP HR ⊢;generalize jK l r=R at *;clear fF pE;go_enter Tryz.func78,Tryz.ntmps78
  go_wp2_with fail;try rw[hW]
  clear hW;go_loopw [17] (fun i wr=>∃ k:Nat,k<=l.length/\i=.int .i64 (k:Int)/\R=qv (l.drop k) (r.drop k)/\Below W.heap.size W wr) (fun i _=>l.length-(intOf i).toNat)
  case atStart=>exact⟨0,by omega,rfl,HM.o,jdv _ _⟩
  case round =>
   obtain⟨k,hk,rfl,kL,az⟩:=hrel;have HF:=ae kL;have HB:=ae az;have bF:=az.size;clear kL az HM;by_cases aB:k<l.length
   ·obtain⟨b,off,rfl,hb,x0,x1,x2,x3⟩:=(HS.o.kept HB.o).at aB
    have PP:k<r.length:=by have:=Yb.o;omega
    obtain⟨rb,roff,rfl,hrb,hrc⟩:=(HR.o.kept HB.o).at1 (cN PP);have HT:=ae (HF.o.trans (yO aB PP));have hlt':(k:Int)<(l.length:Int):=(by omega);have jbE:(0:Int)<=(k:Int):=(by omega);have HMF:=ae (Jy l[k] (Cb.o r[k] (jdA PP)));generalize qu l[k] r[k]=Q at *;generalize XX:cY r[k]=vr at *
    have hvf:vr=.nilIface∨∃ t u,vr=.iface t u:=by
     rw[← XX];by_cases h0:r[k].1=0
     ·exact Or.inl (ov _ h0)
     ·exact Or.inr (jY _ h0)
    clear XX;generalize l[k]=f at *;obtain⟨f0,f1,f2,f3⟩:=f;unfold pX at HMF;simp only at *;have qt:=am wr (.cells #[.int .u32 (f0:Int),.string f1,.int .u8 (f2:Int),.bool f3] 81);have hrc':=(qt.cell (p:=⟨rb,roff+k,none⟩) hrb).trans hrc;obtain⟨g0,g1,g2,g3⟩:=iU wr (.int .u32 (f0:Int)) (.string f1) (.int .u8 (f2:Int)) (.bool f3) 81;have aO:=ae (HB.o.trans (qt.mono bF));have jw:(wr.alloc (.cells #[.int .u32 (f0:Int),.string f1,.int .u8 (f2:Int),.bool f3] 81)).heap.size=wr.heap.size+1:=jdx _ _;clear qt;rcases hvf with rfl | ⟨vt,vu,rfl⟩
    all_goals
     go_wp2_with fail;generalize hV:wr.alloc (.cells #[.int .u32 (f0:Int),.string f1,.int .u8 (f2:Int),.bool f3] 81)=V at *;clear hV x0 x1 x2 x3 hrc;have em:jfp (∀ U W',Below V.heap.size V U->Below U.heap.size U W'->Below W.heap.size W W'):=ae (fun U W' h1 h2=>ai aO.o (ai h1 h2));go_region_with (first | (go_at_call 117;refine(HMF.o _).mono ?_;rintro e w2 ⟨rfl,aE⟩))
     all_goals
      have gm:=ae (em.o _ _ (by first | exact(jdv _ _).drew | exact ap (jdv _ _) _ | exact jdv _ _) aE);clear aE hrc' g0 g1 g2 g3 c0 c1;by_cases hQ:Q=0
      ·rw[jdu hQ]at HT
       subst hQ;go_wp2_with fail;go_roundw
       case rel=>exact⟨k+1,by omega,by go_num,HT.o,gm.o⟩
       case measure=>simp[intOf];omega
      ·rw[jdt hQ]at HT
       have hQ':((Q:Int) != 0)=true:=by simp[hQ]
       clear hQ;go_wp2_with fail;go_ret
       rw[HT.o];exact⟨rfl,ai ce.o gm.o⟩
   ·obtain rfl:k=l.length:=by omega
    have gj:¬ ((l.length:Nat):Int)<(l.length:Int):=(by omega);have HT:=ae (HF.o.trans (CA l _));clear HF;go_wp2_with fail;go_ret
    rw[HT.o];exact⟨rfl,ai ce.o HB.o⟩
theorem Sv.toK{W:World}{v:Value}{l:List Nat}(h:Sv W v (aF .u8 l)):SvK W v l:=by
 obtain⟨a,cap,h1,h2,h3,h4,h5⟩:=h;rw[ar]at *;refine⟨a,cap,h1,h2,h3,h4,fun h0=>?_⟩;obtain⟨b,off,h6,h7,h8⟩:=h5 h0;exact⟨b,off,h6,h7,fun j hj=>h8 j _ (bU hj)⟩
theorem NU(id:Nat)(fs:List Fd):Bs (dF id fs):=by
 unfold dF;refine Bs.app (Bs.app gU gU) ?_;intro x hx;unfold gV at hx;obtain⟨f,_,hf⟩:=List.mem_flatMap.1 hx;unfold iq at hf;exact Bs.app (Bs.app (Bs.app (Bs.app gU gU) (CC _)) gU) gU x hf
theorem oS{id:Nat}{fs:List Fd}(hc:chk id fs=0):szs fs<5000/\fs.length<=8/\0<fs.length:=by
 obtain⟨hrise,h0,h8,hi0⟩:=qx hc
 have kL:fe [] fs=0:=by
  unfold chk at hc;rw[jdt (by omega)]at hc;exact hc
 have hn:=qz kL
 have:∀ m:List Fd,(∀ f∈m,f.2.1.size<=16)->szs m<=16*m.length:=by
  intro m;induction m with
  | nil=>intro _;simp[szs]
  | cons x t ih =>
   intro hx;have h1:=ih (fun f hf=>hx f (jeM _ hf));have h2:=hx x (List.mem_cons_self ..);unfold szs at *;simp only[jd5,List.sum_cons,jdD];omega
 have:=this fs hn;omega
theorem rI{id:Nat}{fs:List Fd}{rs:List Row}{g:Nat}(ho:∀ f∈fs,Okf f)(np:id<4294967296)(hc:chk id fs=0)(pE:rs.length<=256)(eS:1<=g)(ik:g<=64)(dC:jQ fs rs):(ge id fs rs g).length<=400000/\Bs (ge id fs rs g):=by
 obtain⟨hz,hl,_⟩:=oS hc;have hk:=ig hc;have h1:=fN ho (by omega) hz fs.length;rw[jdE]at h1;have h2:=gE id (by omega);have h3:=gE fs.length (by omega);have h4:=gE rs.length (by omega);have h5:=gE g (by omega)
 have hft:∀ j,(ftK fs (prt g rs j) fs.length).length<=1360/\Bs (ftK fs (prt g rs j) fs.length):=fun j=>by
  have kN:(prt g rs j).length<=256:=by rw[bZ];omega
  have:=oR (dC.part g j) kN (fun k lq=>eX (dC.part g j) hk kN lq) (jdw _);exact⟨by omega,this.2⟩
 have h6:=iC (m:=1360) (fun j=>(hft j).1) (List.range (nps g rs.length));have h7:=ki (n:=rs.length) eS pE;rw[jfi]at h6;have h8:1360*nps g rs.length<=1360*256:=jey _ h7;have h9:(ftJ fs g rs (nps g rs.length)).length<=1360*nps g rs.length:=h6;unfold ge;refine⟨?_,Bs.app (Bs.app (Bs.app (NU _ _) gU) gU) (Bt (fun j=>(hft j).2) _)⟩;simp only[jdy];unfold dF;simp only[jdy];omega
theorem mn{id:Nat}{fs:List Fd}{rs:List Row}{g:Nat}(ho:∀ f∈fs,Okf f)(np:id<4294967296)(hc:chk id fs=0)(pE:rs.length<=256)(eS:1<=g)(ik:g<=64)(dC:jQ fs rs):(ew id fs rs g).length<=60000000/\Bs (ew id fs rs g):=by
 obtain⟨hz,hl,_⟩:=oS hc;have hk:=ig hc;obtain⟨f1,f2⟩:=rI ho np hc pE eS ik dC
 have nt:∀ j,(eN fs (prt g rs j) fs.length).length<=172800/\Bs (eN fs (prt g rs j) fs.length):=fun j=>by
  have kN:(prt g rs j).length<=256:=by rw[bZ];omega
  have:=ml (p:=prt g rs j) (fun k lq=>eX (dC.part g j) hk kN lq) (jdw _);exact⟨by omega,this.2⟩
 have h6:=iC (m:=172800) (fun j=>(nt j).1) (List.range (nps g rs.length));have h7:=ki (n:=rs.length) eS pE;rw[jfi]at h6;have h8:172800*nps g rs.length<=172800*256:=jey _ h7;have h9:(iy fs g rs (nps g rs.length)).length<=172800*nps g rs.length:=h6;unfold ew md;refine⟨?_,Bs.app (fun x hx=>?_) (Bs.app (Bs.app (Bt (fun j=>(nt j).2) _) f2) (sU _))⟩
 ·simp only[jdy,jdD,jdX,le4]
  omega
 ·simp only[jdN,jfc,or_false]at hx
  omega
theorem mo{fs:List Fd}:∀{rs:List Row},kF fs rs=0->∀ r∈rs,jK fs r=0
 | [],_,r,hr=>by simp at hr
 | x::t,h,r,hr=>by
  unfold kF at h;by_cases h0:jK fs x=0
  ·rw[jdu h0]at h
   rcases jdN.1 hr with rfl | hr
   ·exact h0
   ·exact mo h r hr
  ·rw[jdt h0]at h
   exact absurd h h0
theorem zN{fs:List Fd}{rs:List Row}{k:Nat}(h:k<rs.length):kF fs (rs.drop k)=if jK fs rs[k]=0 then kF fs (rs.drop (k+1)) else jK fs rs[k]:=by
 rw[jec h];rfl
theorem EF{w:World}{fv rv:Value}{fs:List Fd}{rs:List Row}{id:Nat}(hs:Sf w fv fs)(hr:Rv w rv rs)(hf:∀ r∈rs,∀ c∈r,aT c)(g:Int) :
  Calls Tryz.prog 39 #[.agg #[.int .u32 (id:Int),fv],rv,.int .i64 g] w fun e w'=>e=.returned (.int .i64 (dV id fs rs g:Int))/\Below w.heap.size w w':=by
 obtain⟨fa,fcap,rfl,jb0,jb1⟩:=hs.form;obtain⟨ra,rcap,rfl,Vg,FI,hra⟩:=hr.form;have dO:=am w (.cells #[.int .u32 (id:Int),.slice fa fs.length fcap] 25);have jW:=jdW w (.cells #[.int .u32 (id:Int),.slice fa fs.length fcap] 25);have jw:(w.alloc (.cells #[.int .u32 (id:Int),.slice fa fs.length fcap] 25)).heap.size=w.heap.size+1:=jdx _ _;have HS:=ae (hs.kept dO);have HR:=ae (hr.kept dO);have ce:=ae dO
 have HT:jfp (∀ U,Below (w.alloc (.cells #[.int .u32 (id:Int),.slice fa fs.length fcap] 25)).heap.size (w.alloc (.cells #[.int .u32 (id:Int),.slice fa fs.length fcap] 25)) U->U.cell? ⟨w.heap.size,0,none⟩=some (.int .u32 (id:Int))/\U.cell? ⟨w.heap.size,1,none⟩=some (.slice fa fs.length fcap)):=ae (fun U hb=>by
  have hU:=(hb.block w.heap.size (by omega)).trans jW;constructor<;>(rw[ay hU];rfl))
 have HF:=ae hf;generalize hA:w.alloc (.cells #[.int .u32 (id:Int),.slice fa fs.length fcap] 25)=A at *;clear hs hr dO jW hf jw;obtain⟨c0,c1⟩:=HT.o A (jdv _ _);have HW:jfp (dV id fs rs g=if chk id fs≠0 then chk id fs else if g<1∨64<g then 1 else if 256<rs.length then 5 else kF fs rs):=ae rfl;generalize dV id fs rs g=FW at *;go_enter Tryz.func39,Tryz.ntmps39
 go_wp2_with fail;try rw[hA]
 clear hA;refine(zI HS.o id).mono ?_;rintro e w1 ⟨rfl,aH⟩;have aQ:=ae aH;clear aH c0 c1;obtain⟨c0,c1⟩:=HT.o w1 aQ.o;by_cases hc:chk id fs=0
 ·have hcz:(((chk id fs:Nat):Int) != 0)=false:=by simp[hc]
  have nB:jfp (FW=if g<1∨64<g then 1 else if 256<rs.length then 5 else kF fs rs):=ae (by rw[HW.o,jdt (by omega)]);clear HW;generalize chk id fs=ck at *;by_cases eS:g<1
  ·have yI:jfp (FW=1):=ae (by rw[nB.o,jdu (Or.inl eS)])
   go_wp2_with fail;go_ret
   exact⟨by rw[yI.o];rfl,ai ce.o aQ.o⟩
  ·by_cases ik:64<g
   ·have yI:jfp (FW=1):=ae (by rw[nB.o,jdu (Or.inr ik)])
    have hg2':g > 64:=ik;go_wp2_with fail;go_ret
    exact⟨by rw[yI.o];rfl,ai ce.o aQ.o⟩
   ·have hg2':¬ g > 64:=ik
    have yI:jfp (FW=if 256<rs.length then 5 else kF fs rs):=ae (by rw[nB.o,jdt (by omega)]);clear nB;by_cases hl:256<rs.length
    ·have Wd:jfp (FW=5):=ae (by rw[yI.o,jdu hl])
     have hl':(rs.length:Int) > 256:=(by omega);go_wp2_with fail;go_ret
     exact⟨by rw[Wd.o];rfl,ai ce.o aQ.o⟩
    ·have Wd:jfp (FW=kF fs rs):=ae (by rw[yI.o,jdt hl])
     have hl':¬ (rs.length:Int) > 256:=(by omega);clear yI;go_wp2_with fail;go_loopw [27] (fun i wr=>∃ k:Nat,k<=rs.length/\i=.int .i64 (k:Int)/\kF fs rs=kF fs (rs.drop k)/\Below A.heap.size A wr) (fun i _=>rs.length-(intOf i).toNat)
     case atStart=>exact⟨0,by omega,rfl,rfl,aQ.o⟩
     case round =>
      obtain⟨k,hk,rfl,kL,az⟩:=hrel;have LP:=ae kL;have HB:=ae az;clear kL az;obtain⟨d0,d1⟩:=HT.o wr HB.o;by_cases aB:k<rs.length
      ·have hlt':(k:Int)<(rs.length:Int):=by omega
       obtain⟨bb,off,rw',rfl,hb,ek,iO⟩:=(HR.o.kept HB.o).at aB;obtain⟨a3,cap3,rfl,_,_⟩:=iO.form1;have cU:=ae (zN (fs:=fs) aB);have Gb:=ae (Xt (HS.o.kept HB.o) iO (HF.o _ (jdA aB)) id);clear iO;generalize (aI rs[k]).length=nv at *;generalize jK fs rs[k]=fm at *;go_wp2_with fail;refine Gb.o.mono ?_;rintro e w5 ⟨rfl,bD⟩;have aR:=ae (ai HB.o bD);clear bD d0 d1 ek;by_cases hm:fm=0
       ·subst hm
        have hmz:((((0:Nat)):Int) != 0)=false:=rfl;have Qc:jfp (kF fs (rs.drop k)=kF fs (rs.drop (k+1))):=ae (by rw[cU.o,jdu rfl]);clear cU;go_wp2_with fail;go_roundw
        case rel=>exact⟨k+1,by omega,by go_num,by rw[LP.o,Qc.o],aR.o⟩
        case measure=>simp[intOf];omega
       ·have hmz:(((fm:Nat):Int) != 0)=true:=by simp[hm]
        have Qc:jfp (FW=fm):=ae (by rw[Wd.o,LP.o,cU.o,jdt hm]);clear cU LP Wd;go_wp2_with fail;go_ret
        exact⟨by rw[Qc.o];rfl,ai ce.o aR.o⟩
      ·obtain rfl:k=rs.length:=by omega
       have gj:¬ ((rs.length:Nat):Int)<(rs.length:Int):=(by omega);have HE0:jfp (FW=0):=ae (by rw[Wd.o,LP.o,jer];rfl);clear LP Wd;go_wp2_with fail;go_ret
       exact⟨by rw[HE0.o];rfl,ai ce.o HB.o⟩
 ·have hcz:(((chk id fs:Nat):Int) != 0)=true:=by simp[hc]
  have nB:jfp (FW=chk id fs):=ae (by rw[HW.o,jdu hc]);clear HW;generalize chk id fs=ck at *;go_wp2_with fail;go_ret
  exact⟨by rw[nB.o];rfl,ai ce.o aQ.o⟩
theorem lm{id:Nat}{fs:List Fd}{rs:List Row}{g:Int}(h:dV id fs rs g=0):chk id fs=0/\(1<=g/\g<=64)/\rs.length<=256/\kF fs rs=0:=by
 unfold dV at h;by_cases h1:chk id fs=0
 ·rw[jdt (by omega)]at h
  by_cases h2:g<1∨64<g
  ·rw[jdu h2]at h
   cases h
  ·rw[jdt h2]at h
   by_cases h3:256<rs.length
   ·rw[jdu h3]at h
    cases h
   ·rw[jdt h3]at h
    exact⟨h1,by omega,by omega,h⟩
 ·rw[jdu h1]at h
  exact absurd h h1
theorem nW{w:World}{fv rv:Value}{fs:List Fd}{rs:List Row}{id:Nat}(ht:Tab w)(hs:Sf w fv fs)(hr:Rv w rv rs)(ho:∀ f∈fs,Okf f)(np:id<4294967296)(hf:∀ r∈rs,∀ c∈r,aT c)(g:Int) :
  Calls Tryz.prog 12 #[.agg #[.int .u32 (id:Int),fv],rv,.int .i64 g] w fun e w'=>(∃ v,e=.returned (.tuple #[v,.int .i64 ((bT id fs rs g).2:Int)])/\aD w' w.heap.size v (bT id fs rs g).1)/\Below w.heap.size w w':=by
 obtain⟨fa,fcap,rfl,jb0,jb1⟩:=hs.form;obtain⟨ra,rcap,rfl,Vg,FI,hra⟩:=hr.form;have dO:=am w (.cells #[.int .u32 (id:Int),.slice fa fs.length fcap] 25);have jW:=jdW w (.cells #[.int .u32 (id:Int),.slice fa fs.length fcap] 25);have jw:(w.alloc (.cells #[.int .u32 (id:Int),.slice fa fs.length fcap] 25)).heap.size=w.heap.size+1:=jdx _ _;have HS:=ae (hs.kept dO);have HR:=ae (hr.kept dO);have xQ:=ae (ht.kept dO);have ce:=ae dO
 have HT:jfp (∀ U,Below (w.alloc (.cells #[.int .u32 (id:Int),.slice fa fs.length fcap] 25)).heap.size (w.alloc (.cells #[.int .u32 (id:Int),.slice fa fs.length fcap] 25)) U->U.cell? ⟨w.heap.size,0,none⟩=some (.int .u32 (id:Int))/\U.cell? ⟨w.heap.size,1,none⟩=some (.slice fa fs.length fcap)):=ae (fun U hb=>by
  have hU:=(hb.block w.heap.size (by omega)).trans jW;constructor<;>(rw[ay hU];rfl))
 have HF:=ae hf;have HO:=ae ho;generalize hA:w.alloc (.cells #[.int .u32 (id:Int),.slice fa fs.length fcap] 25)=A at *;clear hs hr dO jW hf jw ht ho;have Gb:=ae (EF (id:=id) HS.o HR.o HF.o g);obtain⟨c0,c1⟩:=HT.o A (jdv _ _);have HW:jfp (bT id fs rs g=if dV id fs rs g≠0 then ([],dV id fs rs g) else if 65536<(bX (ew id fs rs g.toNat)).length then ([],4) else (bX (ew id fs rs g.toNat),0)):=ae rfl;generalize bT id fs rs g=WM at *;go_enter Tryz.func12,Tryz.ntmps12
 go_wp2_with fail;try rw[hA]
 clear hA;refine Gb.o.mono ?_;rintro e w1 ⟨rfl,aH⟩;have aQ:=ae aH;clear aH c0 c1;obtain⟨c0,c1⟩:=HT.o w1 aQ.o;by_cases hc:dV id fs rs g=0
 ·have hcz:(((dV id fs rs g:Nat):Int) != 0)=false:=by simp[hc]
  obtain⟨h1,⟨h2,h3⟩,h4,h5⟩:=lm hc;have dC:jQ fs rs:=fun r hr=>⟨mo h5 r hr,HF.o r hr⟩
  obtain⟨n,rfl⟩:∃ n:Nat,g=(n:Int):=⟨g.toNat,by omega⟩;rw[jd1]at HW;obtain⟨hz,hl,_⟩:=oS h1;obtain⟨t1,t2⟩:=mn HO.o np h1 h4 (show 1<=n by omega) (show n<=64 by omega) dC;have Zx:=ae (TM (HS.o.kept aQ.o) (HR.o.kept aQ.o) HO.o np hl hz h4 (show 1<=n by omega) (show n<=64 by omega) dC (ig h1));have nB:jfp (WM=if 65536<(bX (ew id fs rs n)).length then ([],4) else (bX (ew id fs rs n),0)):=ae (by rw[HW.o,jdt (by omega)]);have FK:=ae t2;clear HW Gb h1 h2 h3 h5 dC t2;generalize dV id fs rs n=FW at *;generalize ew id fs rs n=TX at *;go_wp2_with fail;refine Zx.o.mono ?_;rintro e w2 ⟨⟨v2,rfl,o2⟩,aE⟩;have aO:=ae (ai aQ.o aE);have HSL:=ae (Eg (xQ.o.kept aO.o) o2.sv.toK FK.o (by omega));clear o2 aE c0 c1;go_wp2_with fail;refine HSL.o.mono ?_;rintro e w3 ⟨⟨v3,rfl,o3⟩,aS⟩;obtain⟨a3,cap3,rfl,_,_⟩:=aM o3;have dh:=ae (be o3 (jdF ce.o.size aO.o.size));have bP:=ae (ai aO.o aS);clear o3 aS;have fG:(bX TX).length<=60000004:=by rw[lZ];omega
  generalize bX TX=ST at *;by_cases Yr:65536<ST.length
  ·have hbig':(ST.length:Int) > 65536:=by omega
   have yI:jfp (WM=([],4)):=ae (by rw[nB.o,jdu Yr]);go_wp2_with fail;go_ret2
   exact⟨⟨_,by rw[yI.o];rfl,by rw[yI.o];exact aD.nil _ _⟩,ai ce.o bP.o⟩
  ·have hbig':¬ (ST.length:Int) > 65536:=by omega
   have yI:jfp (WM=(ST,0)):=ae (by rw[nB.o,jdt Yr]);go_wp2_with fail;go_ret2
   exact⟨⟨_,by rw[yI.o];rfl,by rw[yI.o];exact dh.o⟩,ai ce.o bP.o⟩
 ·have hcz:(((dV id fs rs g:Nat):Int) != 0)=true:=by simp[hc]
  have nB:jfp (WM=([],dV id fs rs g)):=ae (by rw[HW.o,jdu hc]);clear HW Gb;generalize dV id fs rs g=FW at *;go_wp2_with fail;go_ret2
  exact⟨⟨_,by rw[nB.o];rfl,by rw[nB.o];exact aD.nil _ _⟩,ai ce.o aQ.o⟩
theorem Jz{w:World}{p f:Nat}{b:List Nat}(h:Rs w p b f)(hf:Er f)(k n:Nat)(hk:1<=k/\k<=3)(hn:n<=256) :
  Calls Tryz.prog 263 #[.pointer (some ⟨p,0,none⟩),.int .u8 (k:Int),.int .i64 (n:Int)] w (Lq k n b p f w):=by
 obtain rfl | rfl | rfl:k=1∨k=2∨k=3:=by omega
 ·exact TF h hf n hn
 ·exact TG h hf n hn
 ·exact TH h hf n hn
def CP(k n:Nat)(b:List Nat)(l:List (Nat×Int×List Nat))(f':Nat):Prop :=
 Er f'/\(f'=0->Col k l/\l.length=n)/\(f'≠0->l=[])/\∀ y,Col k y->y.length=n->b=eo k y->f'=0/\l=y
theorem EG{k:Nat}:∀{t:List Nat} {s:List (Nat×Int×List Nat)},(∀ c∈s,gA k c)->∀ c∈hO t s,gA k c:=fun{t s} h=>(oG (P:=gA k) (Or.inl rfl) h).2
theorem Xu{k n:Nat}{b b1 b2:List Nat}{th:List Nat}{s:List (Nat×Int×List Nat)}{f1 f2:Nat}(h1:RP (Nu n) (byH b n) 0 th b1 f1)(h2:RP (Nv k th.sum) (byT k b1) f1 s b2 f2)(hn:f2≠0):CP k n b [] f2:=by
 refine⟨h2.1,fun h=>absurd h hn,fun _=>rfl,fun y a1 a2 a3=>?_⟩;obtain⟨d1,d2,d3⟩:=h1.2.2 (bN y) (gB k y) rfl ⟨by rw[bn];exact a2,dY y⟩ ⟨y,a2,rfl,a3⟩;have ho:=De y;obtain⟨e1,_⟩:=h2.2.2 (bS y) [] d1 ⟨by rw[d2,oE],fun c hc=>⟨a1.2.2 c (jn hc).1,(jn hc).2⟩⟩ ⟨by rw[d3];unfold gB;rw[ho],rfl⟩;exact absurd e1 hn
theorem TN{k n:Nat}{b b1 b2:List Nat}{th:List Nat}{s:List (Nat×Int×List Nat)}{f1:Nat}(hk:1<=k/\k<=3)(hn:n<=256)(h1:RP (Nu n) (byH b n) 0 th b1 f1)(h2:RP (Nv k th.sum) (byT k b1) f1 s b2 0):CP k n b (hO th s) 0:=by
 obtain⟨g1,g2⟩:=h2.2.1 rfl;obtain⟨_,g3⟩:=h1.2.1 g1;refine⟨er0,fun _=>⟨⟨hk,by rw[iB,g3.1];exact hn,EG fun c hc=>(g2.2 c hc).1⟩,by rw[iB,g3.1]⟩,fun h=>absurd rfl h,fun y a1 a2 a3=>⟨rfl,?_⟩⟩;obtain⟨d1,d2,d3⟩:=h1.2.2 (bN y) (gB k y) rfl ⟨by rw[bn];exact a2,dY y⟩ ⟨y,a2,rfl,a3⟩;have ho:=De y;obtain⟨_,e2,_⟩:=h2.2.2 (bS y) [] d1 ⟨by rw[d2,oE],fun c hc=>⟨a1.2.2 c (jn hc).1,(jn hc).2⟩⟩ ⟨by rw[d3];unfold gB;rw[ho],rfl⟩;rw[d2,e2];exact pR a1.2.2
theorem JA{w:World}{p:Nat}{b:List Nat}(h:Rs w p b 0)(k n:Nat)(hk:1<=k/\k<=3)(hn:n<=256) :
  Calls Tryz.prog 235 #[.pointer (some ⟨p,0,none⟩),.int .u8 (k:Int),.int .i64 (n:Int)] w fun r w'=>∃ l b' f',(∃ v,r=.returned v/\OwnV w' w.heap.size v l)/\Rs w' p b' f'/\CP k n b l f'/\Fr p w.heap.size w w':=by
 have aB:=h.lt;have HN:=ae (NL h er0 n hn);have Ai:=ae (fun b1 b2 th s f1 h1 h2=>TN (k:=k) (n:=n) (b:=b) (b1:=b1) (b2:=b2) (th:=th) (s:=s) (f1:=f1) hk hn h1 h2);have HK:=ae hk;clear h hk;go_enter Tryz.func235,Tryz.ntmps235
 go_wp2_with fail;refine HN.o.mono ?_;rintro e w1 ⟨th,b1,f1,⟨v1,rfl,eH⟩,Kh,QD,ea,Qb,dv⟩;have eY:=ae eH;have FK:=ae Kh;have jy:=ae ea;have HRP1:=ae Qb;have gp:=ae dv;have cP:=dv.size;have nZ:th.sum<=256:=by have:=rD Kh;omega
 have Ac:=ae (TD (dH.sv eH) Kh (by omega));have HVA:=ae (Jz ea Qb.1 k th.sum HK.o nZ)
 have xR:jfp (∀ j,v1.ownBlock=some j->j<w1.heap.size/\j≠p):=ae (fun j hj=>by
  have:=eH.lt j hj;exact⟨this.2,by omega⟩)
 clear eH Kh ea Qb dv;go_wp2_with fail;refine Ac.o.mono ?_;rintro e w2 ⟨rfl,rfl⟩;go_wp2_with fail;refine HVA.o.mono ?_;rintro e w3 ⟨s,b3,f3,⟨v3,rfl,fA⟩,lr,hrp3,gS⟩;have dh:=ae fA;have ny:=ae lr;have jca:=ae hrp3;have qm:=ae (gp.o.trans (gS.mono cP));have iH:=gS.size;have Md:=ae ((dH.sv eY.o).keptFr xR.o gS);obtain⟨a0,cap0,k0,k1,k2,k3,k4,k5,k6,k7,k8,k9,k10⟩:=lr.cells;clear fA lr hrp3 gS k0 k2 k3 k4 k5 k6 k7 k8 k9 k10;by_cases uU:f3=0
 ·subst uU
  have Vm:=ae (Ai.o b1 b3 th s f1 HRP1.o jca.o);obtain⟨g1,g2⟩:=jca.o.2.1 rfl;have HSP:=ae (Jv Md.o FK.o (by omega) (OwnV.sv dh.o) g2.1 (fun c hc=>(g2.2 c hc).2));clear g1 g2;generalize hO th s=L at *;go_wp2_with fail;refine HSP.o.mono ?_;rintro e w4 ⟨⟨v4,rfl,gN⟩,bK⟩;have eR:=ae (be (B:=w.heap.size) gN (by omega));have uG:=ae (ny.o.kept bK ny.o.lt);have Cr:=ae (qm.o.trans (Fr.of_below (bK.mono (by omega))));clear gN bK;go_wp2_with fail;go_ret
  exact⟨L,_,0,⟨_,rfl,eR.o⟩,uG.o,Vm.o,Cr.o⟩
 ·have fF:((f3:Int) != 0)=true:=by simpa using uU
  have Vm:=ae (Xu (k:=k) HRP1.o jca.o uU);clear uU;go_wp2_with fail;go_ret
  exact⟨[],_,f3,⟨_,rfl,OwnV.nil _ _⟩,ny.o,Vm.o,qm.o⟩
theorem Bu{w:World}{vb vl:Value}{b:List Nat}{l:List (Nat×Int×List Nat)}{k:Nat}(hb:Sv w vb (aF .u8 b))(h8:Bs b)(hs:Sv w vl (aI l))(gd:∀ k,vl.ownBlock=some k->k<w.heap.size)(hc:Col k l) :
  Calls Tryz.prog 236 #[.int .u8 (k:Int),vb,vl] w fun e w'=>e=.returned (.bool (decide (eo k l=b)))/\Below w.heap.size w w':=by
 have HW:=ae (zK hs gd (fun c hcc=>(hc.2.2 c hcc).fine) k);rw[kp hc]at HW;have HB:=ae hb;have H8:=ae h8;have QB:=ae (iw hc).2;clear hb h8 hs gd hc;unfold sZ at HW;generalize eo k l=cb at *;go_enter Tryz.func236,Tryz.ntmps236
 go_wp2_with fail;refine HW.o.mono ?_;rintro e w1 ⟨⟨v1,rfl,eH⟩,aH⟩;have Ga:=ae (oN eH.sv (HB.o.kept aH) QB.o H8.o);have aQ:=ae aH;clear eH aH;go_wp2_with fail;refine Ga.o.mono ?_;rintro e w2 ⟨rfl,rfl⟩;go_wp2_with fail;go_ret
 exact⟨rfl,aQ.o⟩
def ua(k:Nat)(b:List Nat)(n:Int)(l:List (Nat×Int×List Nat))(er:Nat):Prop :=
 if 1<=k/\k<=3 then
  (if 0<=n/\n<=256 then (er=0/\gC k b n.toNat=some l)∨(er≠0/\Er er/\l=[]/\gC k b n.toNat=none) else er=1/\l=[])
 else er=10/\l=[]
def TO(k:Nat)(b:List Nat)(n:Int)(w:World)(e:Ending)(w':World):Prop :=
 ∃(v:Value) (l:List (Nat×Int×List Nat)) (er:Nat),e=.returned (.tuple #[v,.int .i64 (er:Int)])/\OwnV w' w.heap.size v l/\ua k b n l er/\Below w.heap.size w w'
theorem NV{k n:Nat}{b:List Nat}{l:List (Nat×Int×List Nat)}{er:Nat}(hk:1<=k/\k<=3)(hn:n<=256)(h:(er=0/\gC k b n=some l)∨(er≠0/\Er er/\l=[]/\gC k b n=none)):ua k b (n:Int) l er:=by
 unfold ua;rw[jdu hk,jdu (by omega),jd1];exact h
theorem Xv{k n:Nat}{b:List Nat}{l:List (Nat×Int×List Nat)}{f':Nat}(hk:1<=k/\k<=3)(hn:n<=256)(hb:Bs b)(hc:CP k n b l f')(h:¬ (f'=0/\eo k l=b)):gC k b n=none:=by
 cases e:gC k b n with
 | none=>rfl
 | some y =>
  obtain⟨h1,h2,h3⟩:=(lU hk hn hb).1 e;obtain⟨d1,d2⟩:=hc.2.2.2 y h1 h2 h3.symm;exact absurd ⟨d1,by rw[d2];exact h3⟩ h
theorem JB{w:World}{vb:Value}{b:List Nat}(hb:Sv w vb (aF .u8 b))(h8:Bs b)(k n:Nat)(hk:1<=k/\k<=3)(hn:n<=256) :
  Calls Tryz.prog 214 #[.int .u8 (k:Int),vb,.int .i64 (n:Int)] w (TO k b (n:Int) w):=by
 have HSB:=ae hb;have H8:=ae h8;have Ab:=ae (jg k);rw[jdO hk]at Ab;have dO:=hb;obtain⟨a,cap,rfl,aW,bw⟩:=hb.form1;rw[ar]at *;have qq:¬ (n:Int)<0:=by omega
 have Yl:¬ (n:Int) > 256:=by omega
 have cU:jfp (Rs (w.alloc (.cells #[.slice a b.length cap,.int .i64 0] 271)) w.heap.size b 0):=ae (by
  refine⟨a,cap,Eb _ _,dO.kept (am w _),fun h0 j hj=>?_,h8⟩;obtain⟨a',cap',e,_,_,_,h4⟩:=dO;rw[ar]at e h4;simp only[Value.slice.injEq]at e;obtain⟨rfl,_,_⟩:=e;obtain⟨g,off,rfl,h5,_⟩:=h4 h0;cases hj
  exact h5)
 have hza:=jdx w (.cells #[.slice a b.length cap,.int .i64 0] 271);have HCO:=ae (JA cU.o k n hk hn);have fd:=ae (am w (.cells #[.slice a b.length cap,.int .i64 0] 271));have HK:=ae hk;have ZE:=ae (fun l f' hc h=>Xv (k:=k) (n:=n) (b:=b) (l:=l) (f':=f') hk hn h8 hc h);have HTM:=ae (fun l er h=>NV (k:=k) (n:=n) (b:=b) (l:=l) (er:=er) hk hn h);have HIFF:=ae (fun l=>(lU (k:=k) (n:=n) (b:=b) (l:=l) hk hn h8).2);clear hb dO h8 hk aW bw;go_enter Tryz.func214,Tryz.ntmps214
 go_wp2_with fail;refine(Ab.o _).mono ?_;rintro e w1 ⟨rfl,rfl⟩;go_wp2_with fail;refine HCO.o.mono ?_;rintro e w2 ⟨l,b2,f2,⟨v2,rfl,eZ⟩,dN,Wb,dD⟩;have aE:Below w1.heap.size w1 w2:=fd.o.trans (dD.below (jdw _) (by omega));have du:=ae (be (B:=w1.heap.size) eZ (by omega));have gl:=ae dN;have Vm:=ae Wb;have aO:=ae aE;have bv:=aE.size;have jU:=dN.lt;obtain⟨a0,cap0,k0,k1,k2,k3,k4,k5,k6,k7,k8,k9,k10⟩:=dN.cells;obtain⟨av,cv,rfl,_,_⟩:=aM eZ;have Yo:=ae (OwnV.sv eZ);have xR:=ae (fun j hj=>(eZ.lt j hj).2);clear eZ dN Wb dD aE k0 k2 k3 k4 k5 k6 k7 k8 k9 k10;by_cases uU:f2=0
 ·subst uU
  obtain⟨dW,bR⟩:=Vm.o.2.1 rfl;have PX:=ae (Bu (HSB.o.kept aO.o) H8.o Yo.o xR.o dW);have xH:=ae dW;have BX:=ae bR;clear dW bR;by_cases heq:eo k l=b
  ·rw[jdO heq]at PX
   have Qg:=ae (HTM.o l 0 (Or.inl ⟨rfl,HIFF.o l ⟨xH.o,BX.o,heq⟩⟩));clear heq;go_wp2_with fail;refine PX.o.mono ?_;rintro e w3 ⟨rfl,aS⟩;have dh:=ae (bL du.o aS);have bP:=ae (aO.o.trans (aS.mono bv));have hk1':=(gl.o.kept aS jU).cells;obtain⟨a3,cap3,q0,q1,q2,q3,q4,q5,q6,q7,q8,q9,q10⟩:=hk1';clear aS q0 q2 q3 q4 q5 q6 q7 q8 q9 q10 k1;go_wp2_with fail;go_ret2
   exact⟨_,l,0,rfl,dh.o,Qg.o,bP.o⟩
  ·rw[jdK heq]at PX
   have Qg:=ae (HTM.o [] 40 (Or.inr ⟨by omega,uy,rfl,ZE.o l 0 Vm.o (fun h=>heq h.2)⟩));clear heq;go_wp2_with fail;refine PX.o.mono ?_;rintro e w3 ⟨rfl,aS⟩;have bP:=ae (aO.o.trans (aS.mono bv));have iH:=aS.size;have ny:=ae (gl.o.kept aS jU);clear aS k1;go_wp2_with fail;refine(cF ny.o 40).mono ?_;rintro e w4 ⟨rfl,xF,pG⟩;rw[eV]at xF;have cx:=ae (bP.o.trans (pG.below (jdw _) (by omega)));obtain⟨a3,cap3,q0,q1,q2,q3,q4,q5,q6,q7,q8,q9,q10⟩:=xF.cells;clear xF pG q0 q2 q3 q4 q5 q6 q7 q8 q9 q10;go_wp2_with fail;go_quiet (fail)
   go_wp2_with fail;go_ret2
   exact⟨_,[],40,rfl,OwnV.nil _ _,Qg.o,cx.o.trans ⟨rfl,rfl,rfl,jdw _,fun _ _=>rfl⟩⟩
 ·have fF:((f2:Int) != 0)=true:=by simpa using uU
  have yF:((f2:Int)==0)=false:=by simpa using uU
  have Qg:=ae (HTM.o [] f2 (Or.inr ⟨uU,Vm.o.1,rfl,ZE.o l f2 Vm.o (fun h=>uU h.1)⟩));clear uU;go_wp2_with fail;go_quiet (fail)
  go_wp2_with fail;go_ret2
  exact⟨_,[],f2,rfl,OwnV.nil _ _,Qg.o,aO.o.trans ⟨rfl,rfl,rfl,jdw _,fun _ _=>rfl⟩⟩
theorem NW{w:World}{vb:Value}{b:List Nat}(hb:Sv w vb (aF .u8 b))(h8:Bs b)(k:Nat)(n:Int) :
  Calls Tryz.prog 214 #[.int .u8 (k:Int),vb,.int .i64 n] w (TO k b n w):=by
 by_cases hk:1<=k/\k<=3
 ·by_cases hn:0<=n/\n<=256
  ·obtain⟨m,rfl⟩:∃ m:Nat,n=(m:Int):=⟨n.toNat,by omega⟩
   exact JB hb h8 k m hk (by omega)
  ·have Ab:=ae (jg k)
   rw[jdO hk]at Ab;have Qg:jfp (ua k b n [] 1):=ae (by unfold ua;rw[jdu hk,jdt hn];exact⟨rfl,rfl⟩);obtain⟨a,cap,rfl,_,_⟩:=hb.form1;clear hb h8 hk;by_cases h0:n<0
   ·clear hn
    go_enter Tryz.func214,Tryz.ntmps214
    go_wp2_with fail;refine(Ab.o _).mono ?_;rintro e w1 ⟨rfl,rfl⟩;go_wp2_with fail;go_ret2
    exact⟨_,[],1,rfl,OwnV.nil _ _,Qg.o,jdv _ _⟩
   ·have h1:n > 256:=by omega
    clear hn;go_enter Tryz.func214,Tryz.ntmps214
    go_wp2_with fail;refine(Ab.o _).mono ?_;rintro e w1 ⟨rfl,rfl⟩;go_wp2_with fail;go_ret2
    exact⟨_,[],1,rfl,OwnV.nil _ _,Qg.o,jdv _ _⟩
 ·have Ab:=ae (jg k)
  rw[jdK hk]at Ab;have Qg:jfp (ua k b n [] 10):=ae (by unfold ua;rw[jdt hk];exact⟨rfl,rfl⟩);obtain⟨a,cap,rfl,_,_⟩:=hb.form1;clear hb h8 hk;go_enter Tryz.func214,Tryz.ntmps214
  go_wp2_with fail;refine(Ab.o _).mono ?_;rintro e w1 ⟨rfl,rfl⟩;go_wp2_with fail;go_ret2
  exact⟨_,[],10,rfl,OwnV.nil _ _,Qg.o,jdv _ _⟩
theorem mN(k:Nat)(l:List Nat):(aF .u8 l).take k=aF .u8 (l.take k):=by simp[aF,jeT]
theorem kI(k:Nat)(l:List Nat):(aF .u8 l).drop k=aF .u8 (l.drop k):=by simp[aF,List.map_drop]
theorem Bv(a b:List Nat)(h:b.length<=a.length):decide (a.take b.length=b)=b.isPrefixOf a:=by
 rw[jeX,jei,jeI];constructor
 ·intro e
  rw[← e];exact List.take_prefix _ _
 ·rintro⟨t,rfl⟩
  exact jet
theorem Bw(a b:List Nat)(h:a.length<b.length):b.isPrefixOf a=false:=by
 rw[Bool.eq_false_iff,ne_eq,jeI];intro e;have:=e.length_le;omega
theorem TP{w:World}{va vb:Value}{a b:List Nat}(ha:Sv w va (aF .u8 a))(hb:Sv w vb (aF .u8 b))(h8:Bs a)(h9:Bs b) :
  Calls Tryz.prog 94 #[va,vb] w fun e w'=>e=.returned (.bool (b.isPrefixOf a))/\w'=w:=by
 obtain⟨aa,ca,rfl,lp,jT⟩:=ha.form1;obtain⟨ab,cb,rfl,Qw,hc4⟩:=hb.form1;rw[ar]at *;rw[ar]at *;have hc2':ca<=9223372036854775807:=by unfold maxLen at jT;omega
 by_cases h:b.length<=a.length
 ·have hT:=ha.take (k:=b.length) (by rw[ar];exact h)
  rw[mN]at hT;have HE:=ae (oN hT hb (h8.take b.length) h9);have HP:=ae (Bv a b h);have gj:(a.length:Int)>=(b.length:Int):=by omega
  have pB:b.length<=ca:=by omega
  clear ha hb h8 h9 hT;generalize decide (a.take b.length=b)=d at *;go_enter Tryz.func94,Tryz.ntmps94
  go_wp2_with fail;refine HE.o.mono ?_;rintro e w1 ⟨rfl,rfl⟩;go_wp2_with fail;go_ret
  rw[← HP.o];exact⟨rfl,rfl⟩
 ·have gj:¬ (a.length:Int)>=(b.length:Int):=by omega
  have HP:=ae (Bw a b (by omega));clear ha hb h8 h9;go_enter Tryz.func94,Tryz.ntmps94
  go_wp2_with fail;go_ret
  rw[HP.o];exact⟨rfl,rfl⟩
theorem EH{w:World}{aa:Option Addr}{ca:Nat}{vb:Value}{a b:List Nat}(ha:Sv w (.slice aa a.length ca) (aF .u8 a))(hb:Sv w vb (aF .u8 b))(h8:Bs a)(h9:Bs b) :
  Calls Tryz.prog 52 #[.slice aa a.length ca,vb] w fun e w'=>(∃ v,e=.returned (.tuple #[v,.bool (b.isPrefixOf a)])/\Sv w' v (aF .u8 (if b.isPrefixOf a=true then a.drop b.length else a))/\(∀ p,(∀ i,(Value.slice aa a.length ca).ownBlock=some i->i<p)->∀ i,v.ownBlock=some i->i<p))/\w'=w:=by
 have HP:=ae (TP ha hb h8 h9);obtain⟨ab,cb,rfl,Qw,hc4⟩:=hb.form1;have HA:=ae ha;obtain⟨a',cap',e,lp,jT,hn,_⟩:=ha;simp only[Value.slice.injEq]at e;obtain⟨rfl,_,rfl⟩:=e;simp only[ar]at *;have hc2':ca<=9223372036854775807:=by unfold maxLen at jT;omega
 clear hb h8 h9;have kN:b.isPrefixOf a=true->b.length<=a.length:=fun h=>(jeI.1 h).length_le
 generalize b.isPrefixOf a=px at *;cases px
 case true =>
  have hl:b.length<=a.length:=kN rfl;have hD:=HA.o.dropG (k:=b.length) (by rw[ar];exact hl);rw[kI,ar]at hD;obtain⟨A,hA⟩:∃ A,(if ca=b.length then aa else aa.map fun x=>x.add b.length)=A:=⟨_,rfl⟩;have HBK:=ae (fun(p:Nat) (hp:∀ i,(Value.slice aa a.length ca).ownBlock=some i->i<p)=>ju (m:=a.length-b.length) (k:=b.length) (c:=ca) hp);rw[hA]at hD HBK;have HD:=ae hD;have HAA:=ae hA;have pB:(b.length:Int)<=(ca:Int):=by omega
  have hle2:(b.length:Int)<=(a.length:Int):=by omega
  clear hD HA kN;go_enter Tryz.func52,Tryz.ntmps52
  go_wp2_with fail;refine HP.o.mono ?_;rintro e w1 ⟨rfl,rfl⟩;go_wp2_with fail;go_ret2
  exact⟨⟨_,rfl,HD.o,HBK.o⟩,rfl⟩
 case false =>
  clear kN;go_enter Tryz.func52,Tryz.ntmps52
  go_wp2_with fail;refine HP.o.mono ?_;rintro e w1 ⟨rfl,rfl⟩;go_wp2_with fail;go_ret2
  exact⟨⟨_,rfl,by simpa using HA.o,fun p hp=>hp⟩,rfl⟩
end Go.Proofs.YtpljdjmpamjkhaaGreatDoor
