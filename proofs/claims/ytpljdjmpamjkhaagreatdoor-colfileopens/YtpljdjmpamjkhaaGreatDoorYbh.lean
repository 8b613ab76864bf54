import Derived.Test.YtpljdjmpamjkhaaGreatDoorYao
import Derived.Test.YtpljdjmpamjkhaaGreatDoorYap
import Derived.Test.YtpljdjmpamjkhaaGreatDoorYbg
import Derived.Test.YtpljdjmpamjkhaaGreatDoorYax
import Derived.Test.YtpljdjmpamjkhaaGreatDoorYay
set_option linter.unusedVariables false
set_option linter.unusedSimpArgs false
set_option maxRecDepth 100000
set_option maxHeartbeats 4000000
namespace Go.Proofs.YtpljdjmpamjkhaaGreatDoor
open Go.RowKit Go.Lib
theorem GB(f:Fd){c:Cl}(hc:aU c)(w:World):Calls Tryz.prog 117 #[pI f,de c] w fun e w'=>e=.returned (.int .i64 (qc f c:Int))/\Below w.heap.size w w':=by
 have HV:=ae (ly hc.val);obtain⟨i,n,k,nd⟩:=f;unfold pI;simp only;have M7:∀ w,(binOp .eql 78 .nilIface .nilIface).run Tryz.prog w=.ok (.bool true) w:=fun w=>by kernel_rfl
 have rK:∀ t v w,(binOp .eql 78 (.iface t v) .nilIface).run Tryz.prog w=.ok (.bool false) w:=fun t v w=>by kernel_rfl
 have HM:Hid (qc (i,n,k,nd) c=if c.1=0 then (if nd=true then 82 else 0) else if c.1≠k then 10 else if 64<c.2.2.length then 5 else 0):=ae rfl;generalize qc (i,n,k,nd) c=R at *;have cC:=ae (ak w (.cells #[.int .u32 (i:Int),.string n,.int .u8 (k:Int),.bool nd] 81));obtain⟨c0,c1,c2,c3⟩:=iU w (.int .u32 (i:Int)) (.string n) (.int .u8 (k:Int)) (.bool nd) 81;have hz:w.heap.size<(w.alloc (.cells #[.int .u32 (i:Int),.string n,.int .u8 (k:Int),.bool nd] 81)).heap.size:=by rw[ZS];omega
 generalize hW:w.alloc (.cells #[.int .u32 (i:Int),.string n,.int .u8 (k:Int),.bool nd] 81)=W at *;have hs:=bi c.2.2;generalize hS:am c.2.2=S at *
 have bQ:(S.size:Int)<=64:=by
  rcases hc with rfl | ⟨m,rfl,_⟩ | ⟨m,rfl,_⟩ | ⟨m,rfl,h,_⟩
  ·rw[hs];decide
  ·rw[hs];simp
  ·rw[hs];simp
  ·rw[hs];simp only;omega
 have V3:¬ 64<c.2.2.length:=by omega
 have hvf:c.1=0/\de c=.nilIface∨c.1≠0/\∃ t u,de c=.iface t u:=by
  by_cases h0:c.1=0
  ·exact Or.inl ⟨h0,rP c h0⟩
  ·exact Or.inr ⟨h0,lz c h0⟩
 generalize c.2.1=cn at *;generalize c.2.2.length=cl at *;clear hS hs hc;generalize c.1=ck at *;generalize de c=vc at *;rcases hvf with ⟨rfl,rfl⟩ | ⟨h0,t,u,rfl⟩
 ·rw[if_pos rfl]at HM
  go_enter Tryz.func117,Tryz.ntmps117
  go_wp2_with fail;try rw[hW]
  clear hW;refine(HV.out _).mono ?_;rintro e w1 ⟨rfl,aG⟩;have d3:=(aG.cell (p:=⟨w.heap.size,3,none⟩) hz).trans c3;have aQ:=ae (ai cC.out aG);have cW:=aG.size;have Ez:w.heap.size<w1.heap.size:=by omega
  clear aG c0 c1 c2 c3;cases nd
  ·rw[if_neg (by simp)]at HM
   go_wp2_with fail;go_ret
   rw[HM.out];exact⟨rfl,aQ.out.alloc aQ.out.size _⟩
  ·rw[if_pos rfl]at HM
   go_wp2_with fail;go_ret
   rw[HM.out];exact⟨rfl,aQ.out.alloc aQ.out.size _⟩
 ·rw[if_neg h0]at HM
  go_enter Tryz.func117,Tryz.ntmps117
  go_wp2_with fail;try rw[hW]
  clear hW;refine(HV.out _).mono ?_;rintro e w1 ⟨rfl,aG⟩;have d2:=(aG.cell (p:=⟨w.heap.size,2,none⟩) hz).trans c2;have aQ:=ae (ai cC.out aG);have cW:=aG.size;have Ez:w.heap.size<w1.heap.size:=by omega
  clear aG c0 c1 c2 c3;by_cases hk:ck=k
  ·subst hk
   rw[if_neg (by simp),if_neg V3]at HM;go_wp2_with fail;go_ret
   rw[HM.out];exact⟨rfl,aQ.out.alloc aQ.out.size _⟩
  ·rw[if_pos hk]at HM
   have hk':((ck:Int) != (k:Int))=true:=by simp;omega
   clear hk;go_wp2_with fail;go_ret
   rw[HM.out];exact⟨rfl,aQ.out.alloc aQ.out.size _⟩
theorem T6{w:World}{v rv:Value}{l:List Fd}{r:List Cl}(hs:Sf w v l)(hr:Sv w rv (aI r))(hf:∀ c∈r,aU c)(si:Nat):Calls Tryz.prog 78 #[.agg #[.int .u32 (si:Int),v],rv] w fun e w'=>e=.returned (.int .i64 (jE l r:Int))/\Below w.heap.size w w':=by
 obtain⟨a,cap,rfl,aX,bw⟩:=hs.form;obtain⟨ra,rcap,rfl,Ru,Rx⟩:=hr.form1;rw[aF]at *;have hrcm':rcap<=9223372036854775807:=by unfold maxLen at Rx;omega
 have dW:=ak w (.cells #[.int .u32 (si:Int),.slice a l.length cap] 25);have cC:=ae dW;have HS:=ae (hs.kept dW);have HR:=ae (hr.kept dW);have Mv:=ae hf;obtain⟨c0,c1⟩:=bE w (.int .u32 (si:Int)) (.slice a l.length cap) 25;have hz:w.heap.size<(w.alloc (.cells #[.int .u32 (si:Int),.slice a l.length cap] 25)).heap.size:=by rw[ZS];omega
 clear hs hr hf dW Rx;generalize hW:w.alloc (.cells #[.int .u32 (si:Int),.slice a l.length cap] 25)=W at *;by_cases fO:r.length≠l.length
 ·have HM:Hid (jE l r=1):=ae (if_pos fO)
  have hne':((r.length:Int) != (l.length:Int))=true:=by simp only[bne_iff_ne];omega
  clear fO;go_enter Tryz.func78,Tryz.ntmps78
  go_wp2_with fail;go_ret
  rw[HM.out];refine⟨rfl,?_⟩;first | exact cC.out | (rw[hW];exact cC.out)
 ·have ph:r.length=l.length:=by omega
  have HM:Hid (jE l r=qd (l.drop 0) (r.drop 0)):=ae (if_neg fO);have UD:=ae ph;rw[ph]at Ru HR ⊢;generalize jE l r=R at *;clear fO ph;go_enter Tryz.func78,Tryz.ntmps78
  go_wp2_with fail;try rw[hW]
  clear hW;go_loopw [17] (fun i wr=>∃ k:Nat,k<=l.length/\i=.int .i64 (k:Int)/\R=qd (l.drop k) (r.drop k)/\Below W.heap.size W wr) (fun i _=>l.length-(intOf i).toNat)
  case atStart=>exact⟨0,by omega,rfl,HM.out,ZQ _ _⟩
  case round =>
   obtain⟨k,hk,rfl,lq,ay⟩:=hrel;have HF:=ae lq;have HB:=ae ay;have bO:=ay.size;clear lq ay HM;by_cases aB:k<l.length
   ·obtain⟨b,off,rfl,hb,x0,x1,x2,x3⟩:=(HS.out.kept HB.out).at aB
    have Ms:k<r.length:=by have:=UD.out;omega
    obtain⟨rb,roff,rfl,hrb,hrc⟩:=(HR.out.kept HB.out).at1 (cK Ms);have HT:=ae (HF.out.trans (yt aB Ms));have hlt':(k:Int)<(l.length:Int):=by omega
    have X3:(0:Int)<=(k:Int):=by omega
    have HMF:=ae (GB l[k] (Mv.out r[k] (ZV Ms)));generalize qc l[k] r[k]=Q at *;generalize Uz:de r[k]=vr at *
    have hvf:vr=.nilIface∨∃ t u,vr=.iface t u:=by
     rw[← Uz];by_cases h0:r[k].1=0
     ·exact Or.inl (rP _ h0)
     ·exact Or.inr (lz _ h0)
    clear Uz;generalize l[k]=f at *;obtain⟨f0,f1,f2,f3⟩:=f;unfold pI at HMF;simp only at *;have qb:=ak wr (.cells #[.int .u32 (f0:Int),.string f1,.int .u8 (f2:Int),.bool f3] 81);have hrc':=(qb.cell (p:=⟨rb,roff+k,none⟩) hrb).trans hrc;obtain⟨g0,g1,g2,g3⟩:=iU wr (.int .u32 (f0:Int)) (.string f1) (.int .u8 (f2:Int)) (.bool f3) 81;have aN:=ae (HB.out.trans (qb.mono bO));have jq:(wr.alloc (.cells #[.int .u32 (f0:Int),.string f1,.int .u8 (f2:Int),.bool f3] 81)).heap.size=wr.heap.size+1:=ZS _ _;clear qb;rcases hvf with rfl | ⟨vt,vu,rfl⟩
    all_goals
     go_wp2_with fail;generalize hV:wr.alloc (.cells #[.int .u32 (f0:Int),.string f1,.int .u8 (f2:Int),.bool f3] 81)=V at *;clear hV x0 x1 x2 x3 hrc;have ei:Hid (∀ U W',Below V.heap.size V U->Below U.heap.size U W'->Below W.heap.size W W'):=ae (fun U W' h1 h2=>ai aN.out (ai h1 h2));go_region_with (first | (go_at_call 117;refine(HMF.out _).mono ?_;rintro e w2 ⟨rfl,aD⟩))
     all_goals
      have fZ:=ae (ei.out _ _ (by first | exact(ZQ _ _).drew | exact below_drewN (ZQ _ _) _ | exact ZQ _ _) aD);clear aD hrc' g0 g1 g2 g3 c0 c1;by_cases hQ:Q=0
      ·rw[if_pos hQ]at HT
       subst hQ;go_wp2_with fail;go_roundw
       case rel=>exact⟨k+1,by omega,by go_num,HT.out,fZ.out⟩
       case measure=>simp[intOf];omega
      ·rw[if_neg hQ]at HT
       have hQ':((Q:Int) != 0)=true:=by simp[hQ]
       clear hQ;go_wp2_with fail;go_ret
       rw[HT.out];exact⟨rfl,ai cC.out fZ.out⟩
   ·obtain rfl:k=l.length:=by omega
    have gJ:¬ ((l.length:Nat):Int)<(l.length:Int):=by omega
    have HT:=ae (HF.out.trans (B4 l _));clear HF;go_wp2_with fail;go_ret
    rw[HT.out];exact⟨rfl,ai cC.out HB.out⟩
theorem Sv.toK{W:World}{v:Value}{l:List Nat}(h:Sv W v (aE .u8 l)):SvK W v l:=by
 obtain⟨a,cap,h1,h2,h3,h4,h5⟩:=h;rw[ap]at *;refine⟨a,cap,h1,h2,h3,h4,fun h0=>?_⟩;obtain⟨b,off,h6,h7,h8⟩:=h5 h0;exact⟨b,off,h6,h7,fun j hj=>h8 j _ (bR hj)⟩
theorem SvK.toS{W:World}{v:Value}{l:List Nat}(h:SvK W v l):Sv W v (aE .u8 l):=by
 obtain⟨a,cap,h1,h2,h3,h4,h5⟩:=h;refine⟨a,cap,by rw[ap];exact h1,by rw[ap];exact h2,h3,h4,fun h0=>?_⟩;rw[ap]at h0;obtain⟨b,off,h6,h7,h8⟩:=h5 h0;refine⟨b,off,h6,h7,fun j x hj=>?_⟩
 have rF:j<l.length:=by
  have:=(List.getElem?_eq_some_iff.1 hj).1;rwa[ap]at this
 rw[bR rF]at hj;cases hj
 exact h8 j rF
theorem LG(id:Nat)(fs:List Fd):Bs (dz id fs):=by
 unfold dz;refine Bs.app (Bs.app gL gL) ?_;intro x hx;unfold gM at hx;obtain⟨f,_,hf⟩:=List.mem_flatMap.1 hx;unfold ie at hf;exact Bs.app (Bs.app (Bs.app (Bs.app gL gL) (Nj _)) gL) gL x hf
theorem my{id:Nat}{fs:List Fd}(hc:chk id fs=0):szs fs<5000/\fs.length<=8/\0<fs.length:=by
 obtain⟨hrise,h0,h8,hi0⟩:=qf hc
 have lq:fe [] fs=0:=by
  unfold chk at hc;rw[if_neg (by omega)]at hc;exact hc
 have hn:=qh lq
 have:∀ m:List Fd,(∀ f∈m,f.2.1.size<=16)->szs m<=16*m.length:=by
  intro m;induction m with
  | nil=>intro _;simp[szs]
  | cons x t ih =>
   intro hx;have h1:=ih (fun f hf=>hx f (jaZ _ hf));have h2:=hx x (List.mem_cons_self ..);unfold szs at *;simp only[jal,List.sum_cons,ZW];omega
 have:=this fs hn;omega
theorem rh{id:Nat}{fs:List Fd}{rs:List Row}{g:Nat}(ho:∀ f∈fs,Okf f)(mR:id<4294967296)(hc:chk id fs=0)(ph:rs.length<=256)(eQ:1<=g)(gK:g<=64)(dy:jJ fs rs):(fV id fs rs g).length<=400000/\Bs (fV id fs rs g):=by
 obtain⟨hz,hl,_⟩:=my hc;have hk:=gW hc;have h1:=fG ho (by omega) hz fs.length;rw[ZY]at h1;have h2:=gm id (by omega);have h3:=gm fs.length (by omega);have h4:=gm rs.length (by omega);have h5:=gm g (by omega)
 have hft:∀ j,(ftK fs (prt g rs j) fs.length).length<=1360/\Bs (ftK fs (prt g rs j) fs.length):=fun j=>by
  have kD:(prt g rs j).length<=256:=by rw[bY];omega
  have:=ow (dy.part g j) kD (fun k kz=>eV (dy.part g j) hk kD kz) (ZR _);exact⟨by omega,this.2⟩
 have h6:=iv (m:=1360) (fun j=>(hft j).1) (List.range (nps g rs.length));have h7:=jW (n:=rs.length) eQ ph;rw[jbs]at h6;have h8:1360*nps g rs.length<=1360*256:=jaL _ h7;have h9:(ftJ fs g rs (nps g rs.length)).length<=1360*nps g rs.length:=h6;unfold fV;refine⟨?_,Bs.app (Bs.app (Bs.app (LG _ _) gL) gL) (AV (fun j=>(hft j).2) _)⟩;simp only[ZT];unfold dz;simp only[ZT];omega
theorem lX{id:Nat}{fs:List Fd}{rs:List Row}{g:Nat}(ho:∀ f∈fs,Okf f)(mR:id<4294967296)(hc:chk id fs=0)(ph:rs.length<=256)(eQ:1<=g)(gK:g<=64)(dy:jJ fs rs):(et id fs rs g).length<=60000000/\Bs (et id fs rs g):=by
 obtain⟨hz,hl,_⟩:=my hc;have hk:=gW hc;obtain⟨f1,f2⟩:=rh ho mR hc ph eQ gK dy
 have mZ:∀ j,(eL fs (prt g rs j) fs.length).length<=172800/\Bs (eL fs (prt g rs j) fs.length):=fun j=>by
  have kD:(prt g rs j).length<=256:=by rw[bY];omega
  have:=lW (p:=prt g rs j) (fun k kz=>eV (dy.part g j) hk kD kz) (ZR _);exact⟨by omega,this.2⟩
 have h6:=iv (m:=172800) (fun j=>(mZ j).1) (List.range (nps g rs.length));have h7:=jW (n:=rs.length) eQ ph;rw[jbs]at h6;have h8:172800*nps g rs.length<=172800*256:=jaL _ h7;have h9:(ip fs g rs (nps g rs.length)).length<=172800*nps g rs.length:=h6;unfold et lQ;refine⟨?_,Bs.app (fun x hx=>?_) (Bs.app (Bs.app (AV (fun j=>(mZ j).2) _) f2) (sD _))⟩
 ·simp only[ZT,ZW,jad,le4]
  omega
 ·simp only[Z6,jbm,or_false]at hx
  omega
theorem lY{fs:List Fd}:∀{rs:List Row},kr fs rs=0->∀ r∈rs,jE fs r=0
 | [],_,r,hr=>by simp at hr
 | x::t,h,r,hr=>by
  unfold kr at h;by_cases h0:jE fs x=0
  ·rw[if_pos h0]at h
   rcases Z6.1 hr with rfl | hr
   ·exact h0
   ·exact lY h r hr
  ·rw[if_neg h0]at h
   exact absurd h h0
theorem zu{fs:List Fd}{rs:List Row}{k:Nat}(h:k<rs.length):kr fs (rs.drop k)=if jE fs rs[k]=0 then kr fs (rs.drop (k+1)) else jE fs rs[k]:=by
 rw[jar h];rfl
theorem DN{w:World}{fv rv:Value}{fs:List Fd}{rs:List Row}{id:Nat}(hs:Sf w fv fs)(hr:Rv w rv rs)(hf:∀ r∈rs,∀ c∈r,aU c)(g:Int) :
  Calls Tryz.prog 39 #[.agg #[.int .u32 (id:Int),fv],rv,.int .i64 g] w fun e w'=>e=.returned (.int .i64 (dS id fs rs g:Int))/\Below w.heap.size w w':=by
 obtain⟨fa,fcap,rfl,Ym,Yn⟩:=hs.form;obtain⟨ra,rcap,rfl,US,MG,Zn⟩:=hr.form;have dW:=ak w (.cells #[.int .u32 (id:Int),.slice fa fs.length fcap] 25);have jN:=heap_alloc_new w (.cells #[.int .u32 (id:Int),.slice fa fs.length fcap] 25);have jq:(w.alloc (.cells #[.int .u32 (id:Int),.slice fa fs.length fcap] 25)).heap.size=w.heap.size+1:=ZS _ _;have HS:=ae (hs.kept dW);have HR:=ae (hr.kept dW);have cC:=ae dW
 have HT:Hid (∀ U,Below (w.alloc (.cells #[.int .u32 (id:Int),.slice fa fs.length fcap] 25)).heap.size (w.alloc (.cells #[.int .u32 (id:Int),.slice fa fs.length fcap] 25)) U->U.cell? ⟨w.heap.size,0,none⟩=some (.int .u32 (id:Int))/\U.cell? ⟨w.heap.size,1,none⟩=some (.slice fa fs.length fcap)):=ae (fun U hb=>by
  have hU:=(hb.block w.heap.size (by omega)).trans jN;constructor<;>(rw[ax hU];rfl))
 have HF:=ae hf;generalize hA:w.alloc (.cells #[.int .u32 (id:Int),.slice fa fs.length fcap] 25)=A at *;clear hs hr dW jN hf jq;obtain⟨c0,c1⟩:=HT.out A (ZQ _ _);have HW:Hid (dS id fs rs g=if chk id fs≠0 then chk id fs else if g<1∨64<g then 1 else if 256<rs.length then 5 else kr fs rs):=ae rfl;generalize dS id fs rs g=FW at *;go_enter Tryz.func39,Tryz.ntmps39
 go_wp2_with fail;try rw[hA]
 clear hA;refine(zm HS.out id).mono ?_;rintro e w1 ⟨rfl,aG⟩;have aQ:=ae aG;clear aG c0 c1;obtain⟨c0,c1⟩:=HT.out w1 aQ.out;by_cases hc:chk id fs=0
 ·have hcz:(((chk id fs:Nat):Int) != 0)=false:=by simp[hc]
  have na:Hid (FW=if g<1∨64<g then 1 else if 256<rs.length then 5 else kr fs rs):=ae (by rw[HW.out,if_neg (by omega)]);clear HW;generalize chk id fs=ck at *;by_cases eQ:g<1
  ·have ym:Hid (FW=1):=ae (by rw[na.out,if_pos (Or.inl eQ)])
   go_wp2_with fail;go_ret
   exact⟨by rw[ym.out];rfl,ai cC.out aQ.out⟩
  ·by_cases gK:64<g
   ·have ym:Hid (FW=1):=ae (by rw[na.out,if_pos (Or.inr gK)])
    have hg2':g > 64:=gK;go_wp2_with fail;go_ret
    exact⟨by rw[ym.out];rfl,ai cC.out aQ.out⟩
   ·have hg2':¬ g > 64:=gK
    have ym:Hid (FW=if 256<rs.length then 5 else kr fs rs):=ae (by rw[na.out,if_neg (by omega)]);clear na;by_cases hl:256<rs.length
    ·have S2:Hid (FW=5):=ae (by rw[ym.out,if_pos hl])
     have hl':(rs.length:Int) > 256:=by omega
     go_wp2_with fail;go_ret
     exact⟨by rw[S2.out];rfl,ai cC.out aQ.out⟩
    ·have S2:Hid (FW=kr fs rs):=ae (by rw[ym.out,if_neg hl])
     have hl':¬ (rs.length:Int) > 256:=by omega
     clear ym;go_wp2_with fail;go_loopw [27] (fun i wr=>∃ k:Nat,k<=rs.length/\i=.int .i64 (k:Int)/\kr fs rs=kr fs (rs.drop k)/\Below A.heap.size A wr) (fun i _=>rs.length-(intOf i).toNat)
     case atStart=>exact⟨0,by omega,rfl,rfl,aQ.out⟩
     case round =>
      obtain⟨k,hk,rfl,lq,ay⟩:=hrel;have J1:=ae lq;have HB:=ae ay;clear lq ay;obtain⟨d0,d1⟩:=HT.out wr HB.out;by_cases aB:k<rs.length
      ·have hlt':(k:Int)<(rs.length:Int):=by omega
       obtain⟨bb,off,rw',rfl,hb,dP,ib⟩:=(HR.out.kept HB.out).at aB;obtain⟨a3,cap3,rfl,_,_⟩:=ib.form1;have cP:=ae (zu (fs:=fs) aB);have SZ:=ae (T6 (HS.out.kept HB.out) ib (HF.out _ (ZV aB)) id);clear ib;generalize (aI rs[k]).length=nv at *;generalize jE fs rs[k]=fm at *;go_wp2_with fail;refine SZ.out.mono ?_;rintro e w5 ⟨rfl,bq⟩;have aR:=ae (ai HB.out bq);clear bq d0 d1 dP;by_cases hm:fm=0
       ·subst hm
        have Yu:((((0:Nat)):Int) != 0)=false:=rfl;have MF:Hid (kr fs (rs.drop k)=kr fs (rs.drop (k+1))):=ae (by rw[cP.out,if_pos rfl]);clear cP;go_wp2_with fail;go_roundw
        case rel=>exact⟨k+1,by omega,by go_num,by rw[J1.out,MF.out],aR.out⟩
        case measure=>simp[intOf];omega
       ·have Yu:(((fm:Nat):Int) != 0)=true:=by simp[hm]
        have MF:Hid (FW=fm):=ae (by rw[S2.out,J1.out,cP.out,if_neg hm]);clear cP J1 S2;go_wp2_with fail;go_ret
        exact⟨by rw[MF.out];rfl,ai cC.out aR.out⟩
      ·obtain rfl:k=rs.length:=by omega
       have gJ:¬ ((rs.length:Nat):Int)<(rs.length:Int):=by omega
       have HE0:Hid (FW=0):=ae (by rw[S2.out,J1.out,jaE];rfl);clear J1 S2;go_wp2_with fail;go_ret
       exact⟨by rw[HE0.out];rfl,ai cC.out HB.out⟩
 ·have hcz:(((chk id fs:Nat):Int) != 0)=true:=by simp[hc]
  have na:Hid (FW=chk id fs):=ae (by rw[HW.out,if_pos hc]);clear HW;generalize chk id fs=ck at *;go_wp2_with fail;go_ret
  exact⟨by rw[na.out];rfl,ai cC.out aQ.out⟩
theorem kV{id:Nat}{fs:List Fd}{rs:List Row}{g:Int}(h:dS id fs rs g=0):chk id fs=0/\(1<=g/\g<=64)/\rs.length<=256/\kr fs rs=0:=by
 unfold dS at h;by_cases h1:chk id fs=0
 ·rw[if_neg (by omega)]at h
  by_cases h2:g<1∨64<g
  ·rw[if_pos h2]at h
   cases h
  ·rw[if_neg h2]at h
   by_cases h3:256<rs.length
   ·rw[if_pos h3]at h
    cases h
   ·rw[if_neg h3]at h
    exact⟨h1,by omega,by omega,h⟩
 ·rw[if_pos h1]at h
  exact absurd h h1
theorem tG{w:World}{fv rv:Value}{fs:List Fd}{rs:List Row}{id:Nat}(ht:Tab w)(hs:Sf w fv fs)(hr:Rv w rv rs)(ho:∀ f∈fs,Okf f)(mR:id<4294967296)(hf:∀ r∈rs,∀ c∈r,aU c)(g:Int) :
  Calls Tryz.prog 12 #[.agg #[.int .u32 (id:Int),fv],rv,.int .i64 g] w fun e w'=>(∃ v,e=.returned (.tuple #[v,.int .i64 ((bT id fs rs g).2:Int)])/\aC w' w.heap.size v (bT id fs rs g).1)/\Below w.heap.size w w':=by
 obtain⟨fa,fcap,rfl,Ym,Yn⟩:=hs.form;obtain⟨ra,rcap,rfl,US,MG,Zn⟩:=hr.form;have dW:=ak w (.cells #[.int .u32 (id:Int),.slice fa fs.length fcap] 25);have jN:=heap_alloc_new w (.cells #[.int .u32 (id:Int),.slice fa fs.length fcap] 25);have jq:(w.alloc (.cells #[.int .u32 (id:Int),.slice fa fs.length fcap] 25)).heap.size=w.heap.size+1:=ZS _ _;have HS:=ae (hs.kept dW);have HR:=ae (hr.kept dW);have Bz:=ae (ht.kept dW);have cC:=ae dW
 have HT:Hid (∀ U,Below (w.alloc (.cells #[.int .u32 (id:Int),.slice fa fs.length fcap] 25)).heap.size (w.alloc (.cells #[.int .u32 (id:Int),.slice fa fs.length fcap] 25)) U->U.cell? ⟨w.heap.size,0,none⟩=some (.int .u32 (id:Int))/\U.cell? ⟨w.heap.size,1,none⟩=some (.slice fa fs.length fcap)):=ae (fun U hb=>by
  have hU:=(hb.block w.heap.size (by omega)).trans jN;constructor<;>(rw[ax hU];rfl))
 have HF:=ae hf;have HO:=ae ho;generalize hA:w.alloc (.cells #[.int .u32 (id:Int),.slice fa fs.length fcap] 25)=A at *;clear hs hr dW jN hf jq ht ho;have SZ:=ae (DN (id:=id) HS.out HR.out HF.out g);obtain⟨c0,c1⟩:=HT.out A (ZQ _ _);have HW:Hid (bT id fs rs g=if dS id fs rs g≠0 then ([],dS id fs rs g) else if 65536<(bK (et id fs rs g.toNat)).length then ([],4) else (bK (et id fs rs g.toNat),0)):=ae rfl;generalize bT id fs rs g=WM at *;go_enter Tryz.func12,Tryz.ntmps12
 go_wp2_with fail;try rw[hA]
 clear hA;refine SZ.out.mono ?_;rintro e w1 ⟨rfl,aG⟩;have aQ:=ae aG;clear aG c0 c1;obtain⟨c0,c1⟩:=HT.out w1 aQ.out;by_cases hc:dS id fs rs g=0
 ·have hcz:(((dS id fs rs g:Nat):Int) != 0)=false:=by simp[hc]
  obtain⟨h1,⟨h2,h3⟩,h4,h5⟩:=kV hc;have dy:jJ fs rs:=fun r hr=>⟨lY h5 r hr,HF.out r hr⟩
  obtain⟨n,rfl⟩:∃ n:Nat,g=(n:Int):=⟨g.toNat,by omega⟩;rw[jah]at HW;obtain⟨hz,hl,_⟩:=my h1;obtain⟨t1,t2⟩:=lX HO.out mR h1 h4 (show 1<=n by omega) (show n<=64 by omega) dy;have VX:=ae (QD (HS.out.kept aQ.out) (HR.out.kept aQ.out) HO.out mR hl hz h4 (show 1<=n by omega) (show n<=64 by omega) dy (gW h1));have na:Hid (WM=if 65536<(bK (et id fs rs n)).length then ([],4) else (bK (et id fs rs n),0)):=ae (by rw[HW.out,if_neg (by omega)]);have zS:=ae t2;clear HW SZ h1 h2 h3 h5 dy t2;generalize dS id fs rs n=FW at *;generalize et id fs rs n=TX at *;go_wp2_with fail;refine VX.out.mono ?_;rintro e w2 ⟨⟨v2,rfl,o2⟩,aD⟩;have aN:=ae (ai aQ.out aD);have V5:=ae (Dt (Bz.out.kept aN.out) o2.sv.toK zS.out (by omega));clear o2 aD c0 c1;go_wp2_with fail;refine V5.out.mono ?_;rintro e w3 ⟨⟨v3,rfl,o3⟩,aP⟩;obtain⟨a3,cap3,rfl,_,_⟩:=aM o3;have cX:=ae (aZ o3 (ZZ cC.out.size aN.out.size));have bM:=ae (ai aN.out aP);clear o3 aP;have fo:(bK TX).length<=60000004:=by rw[jV];omega
  generalize bK TX=ST at *;by_cases MC:65536<ST.length
  ·have hbig':(ST.length:Int) > 65536:=by omega
   have ym:Hid (WM=([],4)):=ae (by rw[na.out,if_pos MC]);go_wp2_with fail;go_ret2
   exact⟨⟨_,by rw[ym.out];rfl,by rw[ym.out];exact aC.nil _ _⟩,ai cC.out bM.out⟩
  ·have hbig':¬ (ST.length:Int) > 65536:=by omega
   have ym:Hid (WM=(ST,0)):=ae (by rw[na.out,if_neg MC]);go_wp2_with fail;go_ret2
   exact⟨⟨_,by rw[ym.out];rfl,by rw[ym.out];exact cX.out⟩,ai cC.out bM.out⟩
 ·have hcz:(((dS id fs rs g:Nat):Int) != 0)=true:=by simp[hc]
  have na:Hid (WM=([],dS id fs rs g)):=ae (by rw[HW.out,if_pos hc]);clear HW SZ;generalize dS id fs rs g=FW at *;go_wp2_with fail;go_ret2
  exact⟨⟨_,by rw[na.out];rfl,by rw[na.out];exact aC.nil _ _⟩,ai cC.out aQ.out⟩
end Go.Proofs.YtpljdjmpamjkhaaGreatDoor
