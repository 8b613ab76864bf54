import Derived.Test.YtpljdjmpamjkhaaGreatDoorUba
set_option linter.unusedVariables false
set_option linter.unusedSimpArgs false
set_option maxRecDepth 100000
set_option maxHeartbeats 4000000
namespace Go.Proofs.YtpljdjmpamjkhaaGreatDoor
open Go.RowKit Go.Lib
theorem Ju(f:Fd){c:Cl}(hc:aV c)(w:World):Calls Tryz.prog 117 #[pW f,dh c] w fun e w'=>e=.returned (.int .i64 (qu f c:Int))/\Below w.heap.size w w':=by
 have HV:=ae (lF hc.val);obtain⟨i,n,k,nd⟩:=f;unfold pW;simp only;have Qp:∀ w,(binOp .eql 78 .nilIface .nilIface).run Tryz.prog w=.ok (.bool true) w:=fun w=>by kernel_rfl
 have sg:∀ t v w,(binOp .eql 78 (.iface t v) .nilIface).run Tryz.prog w=.ok (.bool false) w:=fun t v w=>by kernel_rfl
 have HM:jfb (qu (i,n,k,nd) c=if c.1=0 then (if nd=true then 82 else 0) else if c.1≠k then 10 else if 64<c.2.2.length then 5 else 0):=ae rfl;generalize qu (i,n,k,nd) c=R at *;have cE:=ae (ak w (.cells #[.int .u32 (i:Int),.string n,.int .u8 (k:Int),.bool nd] 81));obtain⟨c0,c1,c2,c3⟩:=iW w (.int .u32 (i:Int)) (.string n) (.int .u8 (k:Int)) (.bool nd) 81;have hz:w.heap.size<(w.alloc (.cells #[.int .u32 (i:Int),.string n,.int .u8 (k:Int),.bool nd] 81)).heap.size:=by rw[jdi];omega
 generalize hW:w.alloc (.cells #[.int .u32 (i:Int),.string n,.int .u8 (k:Int),.bool nd] 81)=W at *;have hs:=bm c.2.2;generalize hS:am c.2.2=S at *
 have bR:(S.size:Int)<=64:=by
  rcases hc with rfl | ⟨m,rfl,_⟩ | ⟨m,rfl,_⟩ | ⟨m,rfl,h,_⟩
  ·rw[hs];decide
  ·rw[hs];simp
  ·rw[hs];simp
  ·rw[hs];simp only;omega
 have Zr:¬ 64<c.2.2.length:=by omega
 have hvf:c.1=0/\dh c=.nilIface∨c.1≠0/\∃ t u,dh c=.iface t u:=by
  by_cases h0:c.1=0
  ·exact Or.inl ⟨h0,sw c h0⟩
  ·exact Or.inr ⟨h0,lG c h0⟩
 generalize c.2.1=cn at *;generalize c.2.2.length=cl at *;clear hS hs hc;generalize c.1=ck at *;generalize dh c=vc at *;rcases hvf with ⟨rfl,rfl⟩ | ⟨h0,t,u,rfl⟩
 ·rw[jdf rfl]at HM
  go_enter Tryz.func117,Tryz.ntmps117
  go_wp2_with fail;try rw[hW]
  clear hW;refine(HV.o _).mono ?_;rintro e w1 ⟨rfl,aH⟩;have d3:=(aH.cell (p:=⟨w.heap.size,3,none⟩) hz).trans c3;have aR:=ae (ai cE.o aH);have cY:=aH.size;have FE:w.heap.size<w1.heap.size:=by omega
  clear aH c0 c1 c2 c3;cases nd
  ·rw[jde (by simp)]at HM
   go_wp2_with fail;go_ret
   rw[HM.o];exact⟨rfl,aR.o.alloc aR.o.size _⟩
  ·rw[jdf rfl]at HM
   go_wp2_with fail;go_ret
   rw[HM.o];exact⟨rfl,aR.o.alloc aR.o.size _⟩
 ·rw[jde h0]at HM
  go_enter Tryz.func117,Tryz.ntmps117
  go_wp2_with fail;try rw[hW]
  clear hW;refine(HV.o _).mono ?_;rintro e w1 ⟨rfl,aH⟩;have d2:=(aH.cell (p:=⟨w.heap.size,2,none⟩) hz).trans c2;have aR:=ae (ai cE.o aH);have cY:=aH.size;have FE:w.heap.size<w1.heap.size:=by omega
  clear aH c0 c1 c2 c3;by_cases hk:ck=k
  ·subst hk
   rw[jde (by simp),jde Zr]at HM;go_wp2_with fail;go_ret
   rw[HM.o];exact⟨rfl,aR.o.alloc aR.o.size _⟩
  ·rw[jdf hk]at HM
   have hk':((ck:Int) != (k:Int))=true:=by simp;omega
   clear hk;go_wp2_with fail;go_ret
   rw[HM.o];exact⟨rfl,aR.o.alloc aR.o.size _⟩
theorem Xd{w:World}{v rv:Value}{l:List Fd}{r:List Cl}(hs:Sf w v l)(hr:Sv w rv (aJ r))(hf:∀ c∈r,aV c)(si:Nat):Calls Tryz.prog 78 #[.agg #[.int .u32 (si:Int),v],rv] w fun e w'=>e=.returned (.int .i64 (jL l r:Int))/\Below w.heap.size w w':=by
 obtain⟨a,cap,rfl,aY,bx⟩:=hs.form;obtain⟨ra,rcap,rfl,Ux,Uy⟩:=hr.form1;rw[aG]at *;have hrcm':rcap<=9223372036854775807:=by unfold maxLen at Uy;omega
 have dY:=ak w (.cells #[.int .u32 (si:Int),.slice a l.length cap] 25);have cE:=ae dY;have HS:=ae (hs.kept dY);have HR:=ae (hr.kept dY);have PB:=ae hf;obtain⟨c0,c1⟩:=bF w (.int .u32 (si:Int)) (.slice a l.length cap) 25;have hz:w.heap.size<(w.alloc (.cells #[.int .u32 (si:Int),.slice a l.length cap] 25)).heap.size:=by rw[jdi];omega
 clear hs hr hf dY Uy;generalize hW:w.alloc (.cells #[.int .u32 (si:Int),.slice a l.length cap] 25)=W at *;by_cases fQ:r.length≠l.length
 ·have HM:jfb (jL l r=1):=ae (jdf fQ)
  have hne':((r.length:Int) != (l.length:Int))=true:=by simp only[bne_iff_ne];omega
  clear fQ;go_enter Tryz.func78,Tryz.ntmps78
  go_wp2_with fail;go_ret
  rw[HM.o];refine⟨rfl,?_⟩;first | exact cE.o | (rw[hW];exact cE.o)
 ·have pC:r.length=l.length:=by omega
  have HM:jfb (jL l r=qv (l.drop 0) (r.drop 0)):=ae (jde fQ);have XJ:=ae pC;rw[pC]at Ux HR ⊢;generalize jL l r=R at *;clear fQ pC;go_enter Tryz.func78,Tryz.ntmps78
  go_wp2_with fail;try rw[hW]
  clear hW;go_loopw [17] (fun i wr=>∃ k:Nat,k<=l.length/\i=.int .i64 (k:Int)/\R=qv (l.drop k) (r.drop k)/\Below W.heap.size W wr) (fun i _=>l.length-(intOf i).toNat)
  case atStart=>exact⟨0,by omega,rfl,HM.o,jdg _ _⟩
  case round =>
   obtain⟨k,hk,rfl,lz,az⟩:=hrel;have HF:=ae lz;have HB:=ae az;have bP:=az.size;clear lz az HM;by_cases aC:k<l.length
   ·obtain⟨b,off,rfl,hb,x0,x1,x2,x3⟩:=(HS.o.kept HB.o).at aC
    have Py:k<r.length:=by have:=XJ.o;omega
    obtain⟨rb,roff,rfl,hrb,hrc⟩:=(HR.o.kept HB.o).at1 (cM Py);have HT:=ae (HF.o.trans (yP aC Py));have hlt':(k:Int)<(l.length:Int):=(by omega);have jbr:(0:Int)<=(k:Int):=(by omega);have HMF:=ae (Ju l[k] (PB.o r[k] (jdl Py)));generalize qu l[k] r[k]=Q at *;generalize XF:dh r[k]=vr at *
    have hvf:vr=.nilIface∨∃ t u,vr=.iface t u:=by
     rw[← XF];by_cases h0:r[k].1=0
     ·exact Or.inl (sw _ h0)
     ·exact Or.inr (lG _ h0)
    clear XF;generalize l[k]=f at *;obtain⟨f0,f1,f2,f3⟩:=f;unfold pW at HMF;simp only at *;have qt:=ak wr (.cells #[.int .u32 (f0:Int),.string f1,.int .u8 (f2:Int),.bool f3] 81);have hrc':=(qt.cell (p:=⟨rb,roff+k,none⟩) hrb).trans hrc;obtain⟨g0,g1,g2,g3⟩:=iW wr (.int .u32 (f0:Int)) (.string f1) (.int .u8 (f2:Int)) (.bool f3) 81;have aO:=ae (HB.o.trans (qt.mono bP));have jx:(wr.alloc (.cells #[.int .u32 (f0:Int),.string f1,.int .u8 (f2:Int),.bool f3] 81)).heap.size=wr.heap.size+1:=jdi _ _;clear qt;rcases hvf with rfl | ⟨vt,vu,rfl⟩
    all_goals
     go_wp2_with fail;generalize hV:wr.alloc (.cells #[.int .u32 (f0:Int),.string f1,.int .u8 (f2:Int),.bool f3] 81)=V at *;clear hV x0 x1 x2 x3 hrc;have em:jfb (∀ U W',Below V.heap.size V U->Below U.heap.size U W'->Below W.heap.size W W'):=ae (fun U W' h1 h2=>ai aO.o (ai h1 h2));go_region_with (first | (go_at_call 117;refine(HMF.o _).mono ?_;rintro e w2 ⟨rfl,aE⟩))
     all_goals
      have ge:=ae (em.o _ _ (by first | exact(jdg _ _).drew | exact ar (jdg _ _) _ | exact jdg _ _) aE);clear aE hrc' g0 g1 g2 g3 c0 c1;by_cases hQ:Q=0
      ·rw[jdf hQ]at HT
       subst hQ;go_wp2_with fail;go_roundw
       case rel=>exact⟨k+1,by omega,by go_num,HT.o,ge.o⟩
       case measure=>simp[intOf];omega
      ·rw[jde hQ]at HT
       have hQ':((Q:Int) != 0)=true:=by simp[hQ]
       clear hQ;go_wp2_with fail;go_ret
       rw[HT.o];exact⟨rfl,ai cE.o ge.o⟩
   ·obtain rfl:k=l.length:=by omega
    have gL:¬ ((l.length:Nat):Int)<(l.length:Int):=(by omega);have HT:=ae (HF.o.trans (CG l _));clear HF;go_wp2_with fail;go_ret
    rw[HT.o];exact⟨rfl,ai cE.o HB.o⟩
theorem Sv.toK{W:World}{v:Value}{l:List Nat}(h:Sv W v (aF .u8 l)):SvK W v l:=by
 obtain⟨a,cap,h1,h2,h3,h4,h5⟩:=h;rw[ap]at *;refine⟨a,cap,h1,h2,h3,h4,fun h0=>?_⟩;obtain⟨b,off,h6,h7,h8⟩:=h5 h0;exact⟨b,off,h6,h7,fun j hj=>h8 j _ (bS hj)⟩
theorem SvK.toS{W:World}{v:Value}{l:List Nat}(h:SvK W v l):Sv W v (aF .u8 l):=by
 obtain⟨a,cap,h1,h2,h3,h4,h5⟩:=h;refine⟨a,cap,by rw[ap];exact h1,by rw[ap];exact h2,h3,h4,fun h0=>?_⟩;rw[ap]at h0;obtain⟨b,off,h6,h7,h8⟩:=h5 h0;refine⟨b,off,h6,h7,fun j x hj=>?_⟩
 have rX:j<l.length:=by
  have:=(List.getElem?_eq_some_iff.1 hj).1;rwa[ap]at this
 rw[bS rX]at hj;cases hj
 exact h8 j rX
theorem NI(id:Nat)(fs:List Fd):Bs (dB id fs):=by
 unfold dB;refine Bs.app (Bs.app gN gN) ?_;intro x hx;unfold gO at hx;obtain⟨f,_,hf⟩:=List.mem_flatMap.1 hx;unfold ij at hf;exact Bs.app (Bs.app (Bs.app (Bs.app gN gN) (Qz _)) gN) gN x hf
theorem mH{id:Nat}{fs:List Fd}(hc:chk id fs=0):szs fs<5000/\fs.length<=8/\0<fs.length:=by
 obtain⟨hrise,h0,h8,hi0⟩:=qx hc
 have lz:fe [] fs=0:=by
  unfold chk at hc;rw[jde (by omega)]at hc;exact hc
 have hn:=qz lz
 have:∀ m:List Fd,(∀ f∈m,f.2.1.size<=16)->szs m<=16*m.length:=by
  intro m;induction m with
  | nil=>intro _;simp[szs]
  | cons x t ih =>
   intro hx;have h1:=ih (fun f hf=>hx f (jex _ hf));have h2:=hx x (List.mem_cons_self ..);unfold szs at *;simp only[jdQ,List.sum_cons,jdn];omega
 have:=this fs hn;omega
theorem rI{id:Nat}{fs:List Fd}{rs:List Row}{g:Nat}(ho:∀ f∈fs,Okf f)(na:id<4294967296)(hc:chk id fs=0)(pC:rs.length<=256)(eS:1<=g)(gM:g<=64)(dA:jQ fs rs):(fX id fs rs g).length<=400000/\Bs (fX id fs rs g):=by
 obtain⟨hz,hl,_⟩:=mH hc;have hk:=gY hc;have h1:=fI ho (by omega) hz fs.length;rw[jdp]at h1;have h2:=gq id (by omega);have h3:=gq fs.length (by omega);have h4:=gq rs.length (by omega);have h5:=gq g (by omega)
 have hft:∀ j,(ftK fs (prt g rs j) fs.length).length<=1360/\Bs (ftK fs (prt g rs j) fs.length):=fun j=>by
  have kK:(prt g rs j).length<=256:=by rw[bZ];omega
  have:=oO (dA.part g j) kK (fun k kG=>eX (dA.part g j) hk kK kG) (jdh _);exact⟨by omega,this.2⟩
 have h6:=ix (m:=1360) (fun j=>(hft j).1) (List.range (nps g rs.length));have h7:=kg (n:=rs.length) eS pC;rw[je4]at h6;have h8:1360*nps g rs.length<=1360*256:=jei _ h7;have h9:(ftJ fs g rs (nps g rs.length)).length<=1360*nps g rs.length:=h6;unfold fX;refine⟨?_,Bs.app (Bs.app (Bs.app (NI _ _) gN) gN) (Bw (fun j=>(hft j).2) _)⟩;simp only[jdj];unfold dB;simp only[jdj];omega
theorem mf{id:Nat}{fs:List Fd}{rs:List Row}{g:Nat}(ho:∀ f∈fs,Okf f)(na:id<4294967296)(hc:chk id fs=0)(pC:rs.length<=256)(eS:1<=g)(gM:g<=64)(dA:jQ fs rs):(ex id fs rs g).length<=60000000/\Bs (ex id fs rs g):=by
 obtain⟨hz,hl,_⟩:=mH hc;have hk:=gY hc;obtain⟨f1,f2⟩:=rI ho na hc pC eS gM dA
 have nl:∀ j,(eN fs (prt g rs j) fs.length).length<=172800/\Bs (eN fs (prt g rs j) fs.length):=fun j=>by
  have kK:(prt g rs j).length<=256:=by rw[bZ];omega
  have:=me (p:=prt g rs j) (fun k kG=>eX (dA.part g j) hk kK kG) (jdh _);exact⟨by omega,this.2⟩
 have h6:=ix (m:=172800) (fun j=>(nl j).1) (List.range (nps g rs.length));have h7:=kg (n:=rs.length) eS pC;rw[je4]at h6;have h8:172800*nps g rs.length<=172800*256:=jei _ h7;have h9:(ir fs g rs (nps g rs.length)).length<=172800*nps g rs.length:=h6;unfold ex lX;refine⟨?_,Bs.app (fun x hx=>?_) (Bs.app (Bs.app (Bw (fun j=>(nl j).2) _) f2) (sW _))⟩
 ·simp only[jdj,jdn,jdI,le4]
  omega
 ·simp only[jdz,jeY,or_false]at hx
  omega
theorem mg{fs:List Fd}:∀{rs:List Row},kB fs rs=0->∀ r∈rs,jL fs r=0
 | [],_,r,hr=>by simp at hr
 | x::t,h,r,hr=>by
  unfold kB at h;by_cases h0:jL fs x=0
  ·rw[jdf h0]at h
   rcases jdz.1 hr with rfl | hr
   ·exact h0
   ·exact mg h r hr
  ·rw[jde h0]at h
   exact absurd h h0
theorem zQ{fs:List Fd}{rs:List Row}{k:Nat}(h:k<rs.length):kB fs (rs.drop k)=if jL fs rs[k]=0 then kB fs (rs.drop (k+1)) else jL fs rs[k]:=by
 rw[jdX h];rfl
theorem EI{w:World}{fv rv:Value}{fs:List Fd}{rs:List Row}{id:Nat}(hs:Sf w fv fs)(hr:Rv w rv rs)(hf:∀ r∈rs,∀ c∈r,aV c)(g:Int) :
  Calls Tryz.prog 39 #[.agg #[.int .u32 (id:Int),fv],rv,.int .i64 g] w fun e w'=>e=.returned (.int .i64 (dU id fs rs g:Int))/\Below w.heap.size w w':=by
 obtain⟨fa,fcap,rfl,jbK,jbL⟩:=hs.form;obtain⟨ra,rcap,rfl,XY,PP,hra⟩:=hr.form;have dY:=ak w (.cells #[.int .u32 (id:Int),.slice fa fs.length fcap] 25);have jU:=jdH w (.cells #[.int .u32 (id:Int),.slice fa fs.length fcap] 25);have jx:(w.alloc (.cells #[.int .u32 (id:Int),.slice fa fs.length fcap] 25)).heap.size=w.heap.size+1:=jdi _ _;have HS:=ae (hs.kept dY);have HR:=ae (hr.kept dY);have cE:=ae dY
 have HT:jfb (∀ U,Below (w.alloc (.cells #[.int .u32 (id:Int),.slice fa fs.length fcap] 25)).heap.size (w.alloc (.cells #[.int .u32 (id:Int),.slice fa fs.length fcap] 25)) U->U.cell? ⟨w.heap.size,0,none⟩=some (.int .u32 (id:Int))/\U.cell? ⟨w.heap.size,1,none⟩=some (.slice fa fs.length fcap)):=ae (fun U hb=>by
  have hU:=(hb.block w.heap.size (by omega)).trans jU;constructor<;>(rw[ay hU];rfl))
 have HF:=ae hf;generalize hA:w.alloc (.cells #[.int .u32 (id:Int),.slice fa fs.length fcap] 25)=A at *;clear hs hr dY jU hf jx;obtain⟨c0,c1⟩:=HT.o A (jdg _ _);have HW:jfb (dU id fs rs g=if chk id fs≠0 then chk id fs else if g<1∨64<g then 1 else if 256<rs.length then 5 else kB fs rs):=ae rfl;generalize dU id fs rs g=FW at *;go_enter Tryz.func39,Tryz.ntmps39
 go_wp2_with fail;try rw[hA]
 clear hA;refine(zL HS.o id).mono ?_;rintro e w1 ⟨rfl,aH⟩;have aR:=ae aH;clear aH c0 c1;obtain⟨c0,c1⟩:=HT.o w1 aR.o;by_cases hc:chk id fs=0
 ·have hcz:(((chk id fs:Nat):Int) != 0)=false:=by simp[hc]
  have nt:jfb (FW=if g<1∨64<g then 1 else if 256<rs.length then 5 else kB fs rs):=ae (by rw[HW.o,jde (by omega)]);clear HW;generalize chk id fs=ck at *;by_cases eS:g<1
  ·have yJ:jfb (FW=1):=ae (by rw[nt.o,jdf (Or.inl eS)])
   go_wp2_with fail;go_ret
   exact⟨by rw[yJ.o];rfl,ai cE.o aR.o⟩
  ·by_cases gM:64<g
   ·have yJ:jfb (FW=1):=ae (by rw[nt.o,jdf (Or.inr gM)])
    have hg2':g > 64:=gM;go_wp2_with fail;go_ret
    exact⟨by rw[yJ.o];rfl,ai cE.o aR.o⟩
   ·have hg2':¬ g > 64:=gM
    have yJ:jfb (FW=if 256<rs.length then 5 else kB fs rs):=ae (by rw[nt.o,jde (by omega)]);clear nt;by_cases hl:256<rs.length
    ·have VR:jfb (FW=5):=ae (by rw[yJ.o,jdf hl])
     have hl':(rs.length:Int) > 256:=(by omega);go_wp2_with fail;go_ret
     exact⟨by rw[VR.o];rfl,ai cE.o aR.o⟩
    ·have VR:jfb (FW=kB fs rs):=ae (by rw[yJ.o,jde hl])
     have hl':¬ (rs.length:Int) > 256:=(by omega);clear yJ;go_wp2_with fail;go_loopw [27] (fun i wr=>∃ k:Nat,k<=rs.length/\i=.int .i64 (k:Int)/\kB fs rs=kB fs (rs.drop k)/\Below A.heap.size A wr) (fun i _=>rs.length-(intOf i).toNat)
     case atStart=>exact⟨0,by omega,rfl,rfl,aR.o⟩
     case round =>
      obtain⟨k,hk,rfl,lz,az⟩:=hrel;have LE:=ae lz;have HB:=ae az;clear lz az;obtain⟨d0,d1⟩:=HT.o wr HB.o;by_cases aC:k<rs.length
      ·have hlt':(k:Int)<(rs.length:Int):=by omega
       obtain⟨bb,off,rw',rfl,hb,dR,ie⟩:=(HR.o.kept HB.o).at aC;obtain⟨a3,cap3,rfl,_,_⟩:=ie.form1;have cT:=ae (zQ (fs:=fs) aC);have VO:=ae (Xd (HS.o.kept HB.o) ie (HF.o _ (jdl aC)) id);clear ie;generalize (aJ rs[k]).length=nv at *;generalize jL fs rs[k]=fm at *;go_wp2_with fail;refine VO.o.mono ?_;rintro e w5 ⟨rfl,br⟩;have aS:=ae (ai HB.o br);clear br d0 d1 dR;by_cases hm:fm=0
       ·subst hm
        have hmz:((((0:Nat)):Int) != 0)=false:=rfl;have PO:jfb (kB fs (rs.drop k)=kB fs (rs.drop (k+1))):=ae (by rw[cT.o,jdf rfl]);clear cT;go_wp2_with fail;go_roundw
        case rel=>exact⟨k+1,by omega,by go_num,by rw[LE.o,PO.o],aS.o⟩
        case measure=>simp[intOf];omega
       ·have hmz:(((fm:Nat):Int) != 0)=true:=by simp[hm]
        have PO:jfb (FW=fm):=ae (by rw[VR.o,LE.o,cT.o,jde hm]);clear cT LE VR;go_wp2_with fail;go_ret
        exact⟨by rw[PO.o];rfl,ai cE.o aS.o⟩
      ·obtain rfl:k=rs.length:=by omega
       have gL:¬ ((rs.length:Nat):Int)<(rs.length:Int):=(by omega);have HE0:jfb (FW=0):=ae (by rw[VR.o,LE.o,jeb];rfl);clear LE VR;go_wp2_with fail;go_ret
       exact⟨by rw[HE0.o];rfl,ai cE.o HB.o⟩
 ·have hcz:(((chk id fs:Nat):Int) != 0)=true:=by simp[hc]
  have nt:jfb (FW=chk id fs):=ae (by rw[HW.o,jdf hc]);clear HW;generalize chk id fs=ck at *;go_wp2_with fail;go_ret
  exact⟨by rw[nt.o];rfl,ai cE.o aR.o⟩
theorem li{id:Nat}{fs:List Fd}{rs:List Row}{g:Int}(h:dU id fs rs g=0):chk id fs=0/\(1<=g/\g<=64)/\rs.length<=256/\kB fs rs=0:=by
 unfold dU at h;by_cases h1:chk id fs=0
 ·rw[jde (by omega)]at h
  by_cases h2:g<1∨64<g
  ·rw[jdf h2]at h
   cases h
  ·rw[jde h2]at h
   by_cases h3:256<rs.length
   ·rw[jdf h3]at h
    cases h
   ·rw[jde h3]at h
    exact⟨h1,by omega,by omega,h⟩
 ·rw[jdf h1]at h
  exact absurd h h1
theorem ub{w:World}{fv rv:Value}{fs:List Fd}{rs:List Row}{id:Nat}(ht:Tab w)(hs:Sf w fv fs)(hr:Rv w rv rs)(ho:∀ f∈fs,Okf f)(na:id<4294967296)(hf:∀ r∈rs,∀ c∈r,aV c)(g:Int) :
  Calls Tryz.prog 12 #[.agg #[.int .u32 (id:Int),fv],rv,.int .i64 g] w fun e w'=>(∃ v,e=.returned (.tuple #[v,.int .i64 ((bU id fs rs g).2:Int)])/\aD w' w.heap.size v (bU id fs rs g).1)/\Below w.heap.size w w':=by
 obtain⟨fa,fcap,rfl,jbK,jbL⟩:=hs.form;obtain⟨ra,rcap,rfl,XY,PP,hra⟩:=hr.form;have dY:=ak w (.cells #[.int .u32 (id:Int),.slice fa fs.length fcap] 25);have jU:=jdH w (.cells #[.int .u32 (id:Int),.slice fa fs.length fcap] 25);have jx:(w.alloc (.cells #[.int .u32 (id:Int),.slice fa fs.length fcap] 25)).heap.size=w.heap.size+1:=jdi _ _;have HS:=ae (hs.kept dY);have HR:=ae (hr.kept dY);have Ci:=ae (ht.kept dY);have cE:=ae dY
 have HT:jfb (∀ U,Below (w.alloc (.cells #[.int .u32 (id:Int),.slice fa fs.length fcap] 25)).heap.size (w.alloc (.cells #[.int .u32 (id:Int),.slice fa fs.length fcap] 25)) U->U.cell? ⟨w.heap.size,0,none⟩=some (.int .u32 (id:Int))/\U.cell? ⟨w.heap.size,1,none⟩=some (.slice fa fs.length fcap)):=ae (fun U hb=>by
  have hU:=(hb.block w.heap.size (by omega)).trans jU;constructor<;>(rw[ay hU];rfl))
 have HF:=ae hf;have HO:=ae ho;generalize hA:w.alloc (.cells #[.int .u32 (id:Int),.slice fa fs.length fcap] 25)=A at *;clear hs hr dY jU hf jx ht ho;have VO:=ae (EI (id:=id) HS.o HR.o HF.o g);obtain⟨c0,c1⟩:=HT.o A (jdg _ _);have HW:jfb (bU id fs rs g=if dU id fs rs g≠0 then ([],dU id fs rs g) else if 65536<(bL (ex id fs rs g.toNat)).length then ([],4) else (bL (ex id fs rs g.toNat),0)):=ae rfl;generalize bU id fs rs g=WM at *;go_enter Tryz.func12,Tryz.ntmps12
 go_wp2_with fail;try rw[hA]
 clear hA;refine VO.o.mono ?_;rintro e w1 ⟨rfl,aH⟩;have aR:=ae aH;clear aH c0 c1;obtain⟨c0,c1⟩:=HT.o w1 aR.o;by_cases hc:dU id fs rs g=0
 ·have hcz:(((dU id fs rs g:Nat):Int) != 0)=false:=by simp[hc]
  obtain⟨h1,⟨h2,h3⟩,h4,h5⟩:=li hc;have dA:jQ fs rs:=fun r hr=>⟨mg h5 r hr,HF.o r hr⟩
  obtain⟨n,rfl⟩:∃ n:Nat,g=(n:Int):=⟨g.toNat,by omega⟩;rw[jdM]at HW;obtain⟨hz,hl,_⟩:=mH h1;obtain⟨t1,t2⟩:=mf HO.o na h1 h4 (show 1<=n by omega) (show n<=64 by omega) dA;have Zl:=ae (Tv (HS.o.kept aR.o) (HR.o.kept aR.o) HO.o na hl hz h4 (show 1<=n by omega) (show n<=64 by omega) dA (gY h1));have nt:jfb (WM=if 65536<(bL (ex id fs rs n)).length then ([],4) else (bL (ex id fs rs n),0)):=ae (by rw[HW.o,jde (by omega)]);have Ao:=ae t2;clear HW VO h1 h2 h3 h5 dA t2;generalize dU id fs rs n=FW at *;generalize ex id fs rs n=TX at *;go_wp2_with fail;refine Zl.o.mono ?_;rintro e w2 ⟨⟨v2,rfl,o2⟩,aE⟩;have aO:=ae (ai aR.o aE);have Zs:=ae (Ek (Ci.o.kept aO.o) o2.sv.toK Ao.o (by omega));clear o2 aE c0 c1;go_wp2_with fail;refine Zs.o.mono ?_;rintro e w3 ⟨⟨v3,rfl,o3⟩,aQ⟩;obtain⟨a3,cap3,rfl,_,_⟩:=aN o3;have cZ:=ae (be o3 (jdq cE.o.size aO.o.size));have bN:=ae (ai aO.o aQ);clear o3 aQ;have ft:(bL TX).length<=60000004:=by rw[kf];omega
  generalize bL TX=ST at *;by_cases PJ:65536<ST.length
  ·have hbig':(ST.length:Int) > 65536:=by omega
   have yJ:jfb (WM=([],4)):=ae (by rw[nt.o,jdf PJ]);go_wp2_with fail;go_ret2
   exact⟨⟨_,by rw[yJ.o];rfl,by rw[yJ.o];exact aD.nil _ _⟩,ai cE.o bN.o⟩
  ·have hbig':¬ (ST.length:Int) > 65536:=by omega
   have yJ:jfb (WM=(ST,0)):=ae (by rw[nt.o,jde PJ]);go_wp2_with fail;go_ret2
   exact⟨⟨_,by rw[yJ.o];rfl,by rw[yJ.o];exact cZ.o⟩,ai cE.o bN.o⟩
 ·have hcz:(((dU id fs rs g:Nat):Int) != 0)=true:=by simp[hc]
  have nt:jfb (WM=([],dU id fs rs g)):=ae (by rw[HW.o,jdf hc]);clear HW VO;generalize dU id fs rs g=FW at *;go_wp2_with fail;go_ret2
  exact⟨⟨_,by rw[nt.o];rfl,by rw[nt.o];exact aD.nil _ _⟩,ai cE.o aR.o⟩
theorem Jv{w:World}{p f:Nat}{b:List Nat}(h:Rs w p b f)(hf:Er f)(k n:Nat)(hk:1<=k/\k<=3)(hn:n<=256) :
  Calls Tryz.prog 263 #[.pointer (some ⟨p,0,none⟩),.int .u8 (k:Int),.int .i64 (n:Int)] w (Ln k n b p f w):=by
 obtain rfl | rfl | rfl:k=1∨k=2∨k=3:=by omega
 ·exact Tn h hf n hn
 ·exact To h hf n hn
 ·exact Tp h hf n hn
def CP(k n:Nat)(b:List Nat)(l:List (Nat×Int×List Nat))(f':Nat):Prop :=
 Er f'/\(f'=0->Col k l/\l.length=n)/\(f'≠0->l=[])/\∀ y,Col k y->y.length=n->b=eo k y->f'=0/\l=y
theorem EJ{k:Nat}:∀{t:List Nat} {s:List (Nat×Int×List Nat)},(∀ c∈s,gj k c)->∀ c∈gT t s,gj k c:=fun{t s} h=>(oD (P:=gj k) (Or.inl rfl) h).2
theorem Xe{k n:Nat}{b b1 b2:List Nat}{th:List Nat}{s:List (Nat×Int×List Nat)}{f1 f2:Nat}(h1:RP (Nu n) (byH b n) 0 th b1 f1)(h2:RP (Nv k th.sum) (byT k b1) f1 s b2 f2)(hn:f2≠0):CP k n b [] f2:=by
 refine⟨h2.1,fun h=>absurd h hn,fun _=>rfl,fun y a1 a2 a3=>?_⟩;obtain⟨d1,d2,d3⟩:=h1.2.2 (bK y) (gl k y) rfl ⟨by rw[bi];exact a2,dW y⟩ ⟨y,a2,rfl,a3⟩;have ho:=Di y;obtain⟨e1,_⟩:=h2.2.2 (bT y) [] d1 ⟨by rw[d2,ox],fun c hc=>⟨a1.2.2 c (jp hc).1,(jp hc).2⟩⟩ ⟨by rw[d3];unfold gl;rw[ho],rfl⟩;exact absurd e1 hn
theorem Tw{k n:Nat}{b b1 b2:List Nat}{th:List Nat}{s:List (Nat×Int×List Nat)}{f1:Nat}(hk:1<=k/\k<=3)(hn:n<=256)(h1:RP (Nu n) (byH b n) 0 th b1 f1)(h2:RP (Nv k th.sum) (byT k b1) f1 s b2 0):CP k n b (gT th s) 0:=by
 obtain⟨g1,g2⟩:=h2.2.1 rfl;obtain⟨_,g3⟩:=h1.2.1 g1;refine⟨er0,fun _=>⟨⟨hk,by rw[iw,g3.1];exact hn,EJ fun c hc=>(g2.2 c hc).1⟩,by rw[iw,g3.1]⟩,fun h=>absurd rfl h,fun y a1 a2 a3=>⟨rfl,?_⟩⟩;obtain⟨d1,d2,d3⟩:=h1.2.2 (bK y) (gl k y) rfl ⟨by rw[bi];exact a2,dW y⟩ ⟨y,a2,rfl,a3⟩;have ho:=Di y;obtain⟨_,e2,_⟩:=h2.2.2 (bT y) [] d1 ⟨by rw[d2,ox],fun c hc=>⟨a1.2.2 c (jp hc).1,(jp hc).2⟩⟩ ⟨by rw[d3];unfold gl;rw[ho],rfl⟩;rw[d2,e2];exact pQ a1.2.2
theorem Jw{w:World}{p:Nat}{b:List Nat}(h:Rs w p b 0)(k n:Nat)(hk:1<=k/\k<=3)(hn:n<=256) :
  Calls Tryz.prog 235 #[.pointer (some ⟨p,0,none⟩),.int .u8 (k:Int),.int .i64 (n:Int)] w fun r w'=>∃ l b' f',(∃ v,r=.returned v/\OwnV w' w.heap.size v l)/\Rs w' p b' f'/\CP k n b l f'/\Fr p w.heap.size w w':=by
 have aC:=h.lt;have HN:=ae (Nz h er0 n hn);have Al:=ae (fun b1 b2 th s f1 h1 h2=>Tw (k:=k) (n:=n) (b:=b) (b1:=b1) (b2:=b2) (th:=th) (s:=s) (f1:=f1) hk hn h1 h2);have HK:=ae hk;clear h hk;go_enter Tryz.func235,Tryz.ntmps235
 go_wp2_with fail;refine HN.o.mono ?_;rintro e w1 ⟨th,b1,f1,⟨v1,rfl,eI⟩,Kd,Qn,ek,PN,dv⟩;have fC:=ae eI;have Ao:=ae Kd;have iO:=ae ek;have HRP1:=ae PN;have gg:=ae dv;have cY:=dv.size;have nV:th.sum<=256:=by have:=rD Kd;omega
 have Ad:=ae (Tl (dD.sv eI) Kd (by omega));have HVA:=ae (Jv ek PN.1 k th.sum HK.o nV)
 have xW:jfb (∀ j,v1.ownBlock=some j->j<w1.heap.size/\j≠p):=ae (fun j hj=>by
  have:=eI.lt j hj;exact⟨this.2,by omega⟩)
 clear eI Kd ek PN dv;go_wp2_with fail;refine Ad.o.mono ?_;rintro e w2 ⟨rfl,rfl⟩;go_wp2_with fail;refine HVA.o.mono ?_;rintro e w3 ⟨s,b3,f3,⟨v3,rfl,fP⟩,ll,hrp3,iz⟩;have cZ:=ae fP;have no:=ae ll;have jbT:=ae hrp3;have qp:=ae (gg.o.trans (iz.mono cY));have iD:=iz.size;have LW:=ae ((dD.sv fC.o).keptFr xW.o iz);obtain⟨a0,cap0,k0,k1,k2,k3,k4,k5,k6,k7,k8,k9,k10⟩:=ll.cells;clear fP ll hrp3 iz k0 k2 k3 k4 k5 k6 k7 k8 k9 k10;by_cases vC:f3=0
 ·subst vC
  have UW:=ae (Al.o b1 b3 th s f1 HRP1.o jbT.o);obtain⟨g1,g2⟩:=jbT.o.2.1 rfl;have HSP:=ae (Js LW.o Ao.o (by omega) (OwnV.sv cZ.o) g2.1 (fun c hc=>(g2.2 c hc).2));clear g1 g2;generalize gT th s=L at *;go_wp2_with fail;refine HSP.o.mono ?_;rintro e w4 ⟨⟨v4,rfl,gF⟩,bw⟩;have eR:=ae (be (B:=w.heap.size) gF (by omega));have uM:=ae (no.o.kept bw no.o.lt);have xT:=ae (qp.o.trans (Fr.of_below (bw.mono (by omega))));clear gF bw;go_wp2_with fail;go_ret
  exact⟨L,_,0,⟨_,rfl,eR.o⟩,uM.o,UW.o,xT.o⟩
 ·have fQ:((f3:Int) != 0)=true:=by simpa using vC
  have UW:=ae (Xe (k:=k) HRP1.o jbT.o vC);clear vC;go_wp2_with fail;go_ret
  exact⟨[],_,f3,⟨_,rfl,OwnV.nil _ _⟩,no.o,UW.o,qp.o⟩
theorem Bx{w:World}{vb vl:Value}{b:List Nat}{l:List (Nat×Int×List Nat)}{k:Nat}(hb:Sv w vb (aF .u8 b))(h8:Bs b)(hs:Sv w vl (aJ l))(fW:∀ k,vl.ownBlock=some k->k<w.heap.size)(hc:Col k l) :
  Calls Tryz.prog 236 #[.int .u8 (k:Int),vb,vl] w fun e w'=>e=.returned (.bool (decide (eo k l=b)))/\Below w.heap.size w w':=by
 have HW:=ae (zN hs fW (fun c hcc=>(hc.2.2 c hcc).fine) k);rw[kl hc]at HW;have HB:=ae hb;have H8:=ae h8;have Ql:=ae (io hc).2;clear hb h8 hs fW hc;unfold tc at HW;generalize eo k l=cb at *;go_enter Tryz.func236,Tryz.ntmps236
 go_wp2_with fail;refine HW.o.mono ?_;rintro e w1 ⟨⟨v1,rfl,eI⟩,aH⟩;have Cf:=ae (oK eI.sv (HB.o.kept aH) Ql.o H8.o);have aR:=ae aH;clear eI aH;go_wp2_with fail;refine Cf.o.mono ?_;rintro e w2 ⟨rfl,rfl⟩;go_wp2_with fail;go_ret
 exact⟨rfl,aR.o⟩
def ud(k:Nat)(b:List Nat)(n:Int)(l:List (Nat×Int×List Nat))(er:Nat):Prop :=
 if 1<=k/\k<=3 then
  (if 0<=n/\n<=256 then (er=0/\gm k b n.toNat=some l)∨(er≠0/\Er er/\l=[]/\gm k b n.toNat=none) else er=1/\l=[])
 else er=10/\l=[]
def Tx(k:Nat)(b:List Nat)(n:Int)(w:World)(e:Ending)(w':World):Prop :=
 ∃(v:Value) (l:List (Nat×Int×List Nat)) (er:Nat),e=.returned (.tuple #[v,.int .i64 (er:Int)])/\OwnV w' w.heap.size v l/\ud k b n l er/\Below w.heap.size w w'
theorem NJ{k n:Nat}{b:List Nat}{l:List (Nat×Int×List Nat)}{er:Nat}(hk:1<=k/\k<=3)(hn:n<=256)(h:(er=0/\gm k b n=some l)∨(er≠0/\Er er/\l=[]/\gm k b n=none)):ud k b (n:Int) l er:=by
 unfold ud;rw[jdf hk,jdf (by omega),jdM];exact h
theorem Xf{k n:Nat}{b:List Nat}{l:List (Nat×Int×List Nat)}{f':Nat}(hk:1<=k/\k<=3)(hn:n<=256)(hb:Bs b)(hc:CP k n b l f')(h:¬ (f'=0/\eo k l=b)):gm k b n=none:=by
 cases e:gm k b n with
 | none=>rfl
 | some y =>
  obtain⟨h1,h2,h3⟩:=(lQ hk hn hb).1 e;obtain⟨d1,d2⟩:=hc.2.2.2 y h1 h2 h3.symm;exact absurd ⟨d1,by rw[d2];exact h3⟩ h
theorem Jy{w:World}{vb:Value}{b:List Nat}(hb:Sv w vb (aF .u8 b))(h8:Bs b)(k n:Nat)(hk:1<=k/\k<=3)(hn:n<=256) :
  Calls Tryz.prog 214 #[.int .u8 (k:Int),vb,.int .i64 (n:Int)] w (Tx k b (n:Int) w):=by
 have HSB:=ae hb;have H8:=ae h8;have xI:=ae (ji k);rw[jdy hk]at xI;have dY:=hb;obtain⟨a,cap,rfl,aY,bx⟩:=hb.form1;rw[ap]at *;have qs:¬ (n:Int)<0:=by omega
 have XS:¬ (n:Int) > 256:=by omega
 have cT:jfb (Rs (w.alloc (.cells #[.slice a b.length cap,.int .i64 0] 271)) w.heap.size b 0):=ae (by
  refine⟨a,cap,Ef _ _,dY.kept (ak w _),fun h0 j hj=>?_,h8⟩;obtain⟨a',cap',e,_,_,_,h4⟩:=dY;rw[ap]at e h4;simp only[Value.slice.injEq]at e;obtain⟨rfl,_,_⟩:=e;obtain⟨g,off,rfl,h5,_⟩:=h4 h0;cases hj
  exact h5)
 have hza:=jdi w (.cells #[.slice a b.length cap,.int .i64 0] 271);have HCO:=ae (Jw cT.o k n hk hn);have eY:=ae (ak w (.cells #[.slice a b.length cap,.int .i64 0] 271));have HK:=ae hk;have Zt:=ae (fun l f' hc h=>Xf (k:=k) (n:=n) (b:=b) (l:=l) (f':=f') hk hn h8 hc h);have HTM:=ae (fun l er h=>NJ (k:=k) (n:=n) (b:=b) (l:=l) (er:=er) hk hn h);have HIFF:=ae (fun l=>(lQ (k:=k) (n:=n) (b:=b) (l:=l) hk hn h8).2);clear hb dY h8 hk aY bx;go_enter Tryz.func214,Tryz.ntmps214
 go_wp2_with fail;refine(xI.o _).mono ?_;rintro e w1 ⟨rfl,rfl⟩;go_wp2_with fail;refine HCO.o.mono ?_;rintro e w2 ⟨l,b2,f2,⟨v2,rfl,fx⟩,ei,VP,dO⟩;have aE:Below w1.heap.size w1 w2:=eY.o.trans (dO.below (jdh _) (by omega));have du:=ae (be (B:=w1.heap.size) fx (by omega));have gE:=ae ei;have UW:=ae VP;have aO:=ae aE;have bn:=aE.size;have jJ:=ei.lt;obtain⟨a0,cap0,k0,k1,k2,k3,k4,k5,k6,k7,k8,k9,k10⟩:=ei.cells;obtain⟨av,cv,rfl,_,_⟩:=aN fx;have XV:=ae (OwnV.sv fx);have xW:=ae (fun j hj=>(fx.lt j hj).2);clear fx ei VP dO aE k0 k2 k3 k4 k5 k6 k7 k8 k9 k10;by_cases vC:f2=0
 ·subst vC
  obtain⟨dV,bR⟩:=UW.o.2.1 rfl;have KD:=ae (Bx (HSB.o.kept aO.o) H8.o XV.o xW.o dV);have nj:=ae dV;have Ce:=ae bR;clear dV bR;by_cases heq:eo k l=b
  ·rw[jdy heq]at KD
   have PS:=ae (HTM.o l 0 (Or.inl ⟨rfl,HIFF.o l ⟨nj.o,Ce.o,heq⟩⟩));clear heq;go_wp2_with fail;refine KD.o.mono ?_;rintro e w3 ⟨rfl,aQ⟩;have cZ:=ae (bI du.o aQ);have bN:=ae (aO.o.trans (aQ.mono bn));have hk1':=(gE.o.kept aQ jJ).cells;obtain⟨a3,cap3,q0,q1,q2,q3,q4,q5,q6,q7,q8,q9,q10⟩:=hk1';clear aQ q0 q2 q3 q4 q5 q6 q7 q8 q9 q10 k1;go_wp2_with fail;go_ret2
   exact⟨_,l,0,rfl,cZ.o,PS.o,bN.o⟩
  ·rw[jds heq]at KD
   have PS:=ae (HTM.o [] 40 (Or.inr ⟨by omega,uD,rfl,Zt.o l 0 UW.o (fun h=>heq h.2)⟩));clear heq;go_wp2_with fail;refine KD.o.mono ?_;rintro e w3 ⟨rfl,aQ⟩;have bN:=ae (aO.o.trans (aQ.mono bn));have iD:=aQ.size;have no:=ae (gE.o.kept aQ jJ);clear aQ k1;go_wp2_with fail;refine(cD no.o 40).mono ?_;rintro e w4 ⟨rfl,xK,pE⟩;rw[eV]at xK;have ce:=ae (bN.o.trans (pE.below (jdh _) (by omega)));obtain⟨a3,cap3,q0,q1,q2,q3,q4,q5,q6,q7,q8,q9,q10⟩:=xK.cells;clear xK pE q0 q2 q3 q4 q5 q6 q7 q8 q9 q10;go_wp2_with fail;go_quiet (fail)
   go_wp2_with fail;go_ret2
   exact⟨_,[],40,rfl,OwnV.nil _ _,PS.o,ce.o.trans ⟨rfl,rfl,rfl,jdh _,fun _ _=>rfl⟩⟩
 ·have fQ:((f2:Int) != 0)=true:=by simpa using vC
  have yH:((f2:Int)==0)=false:=by simpa using vC
  have PS:=ae (HTM.o [] f2 (Or.inr ⟨vC,UW.o.1,rfl,Zt.o l f2 UW.o (fun h=>vC h.1)⟩));clear vC;go_wp2_with fail;go_quiet (fail)
  go_wp2_with fail;go_ret2
  exact⟨_,[],f2,rfl,OwnV.nil _ _,PS.o,aO.o.trans ⟨rfl,rfl,rfl,jdh _,fun _ _=>rfl⟩⟩
theorem NK{w:World}{vb:Value}{b:List Nat}(hb:Sv w vb (aF .u8 b))(h8:Bs b)(k:Nat)(n:Int) :
  Calls Tryz.prog 214 #[.int .u8 (k:Int),vb,.int .i64 n] w (Tx k b n w):=by
 by_cases hk:1<=k/\k<=3
 ·by_cases hn:0<=n/\n<=256
  ·obtain⟨m,rfl⟩:∃ m:Nat,n=(m:Int):=⟨n.toNat,by omega⟩
   exact Jy hb h8 k m hk (by omega)
  ·have xI:=ae (ji k)
   rw[jdy hk]at xI;have PS:jfb (ud k b n [] 1):=ae (by unfold ud;rw[jdf hk,jde hn];exact⟨rfl,rfl⟩);obtain⟨a,cap,rfl,_,_⟩:=hb.form1;clear hb h8 hk;by_cases h0:n<0
   ·clear hn
    go_enter Tryz.func214,Tryz.ntmps214
    go_wp2_with fail;refine(xI.o _).mono ?_;rintro e w1 ⟨rfl,rfl⟩;go_wp2_with fail;go_ret2
    exact⟨_,[],1,rfl,OwnV.nil _ _,PS.o,jdg _ _⟩
   ·have h1:n > 256:=by omega
    clear hn;go_enter Tryz.func214,Tryz.ntmps214
    go_wp2_with fail;refine(xI.o _).mono ?_;rintro e w1 ⟨rfl,rfl⟩;go_wp2_with fail;go_ret2
    exact⟨_,[],1,rfl,OwnV.nil _ _,PS.o,jdg _ _⟩
 ·have xI:=ae (ji k)
  rw[jds hk]at xI;have PS:jfb (ud k b n [] 10):=ae (by unfold ud;rw[jde hk];exact⟨rfl,rfl⟩);obtain⟨a,cap,rfl,_,_⟩:=hb.form1;clear hb h8 hk;go_enter Tryz.func214,Tryz.ntmps214
  go_wp2_with fail;refine(xI.o _).mono ?_;rintro e w1 ⟨rfl,rfl⟩;go_wp2_with fail;go_ret2
  exact⟨_,[],10,rfl,OwnV.nil _ _,PS.o,jdg _ _⟩
theorem gK(k:Nat)(l:List Nat):(aF .u8 l).take k=aF .u8 (l.take k):=by simp[aF,jeE]
theorem kE(k:Nat)(l:List Nat):(aF .u8 l).drop k=aF .u8 (l.drop k):=by simp[aF,List.map_drop]
theorem Bz(a b:List Nat)(h:b.length<=a.length):decide (a.take b.length=b)=b.isPrefixOf a:=by
 rw[jeI,jd2,jeu];constructor
 ·intro e
  rw[← e];exact List.take_prefix _ _
 ·rintro⟨t,rfl⟩
  exact jec
theorem BA(a b:List Nat)(h:a.length<b.length):b.isPrefixOf a=false:=by
 rw[Bool.eq_false_iff,ne_eq,jeu];intro e;have:=e.length_le;omega
theorem Ty{w:World}{va vb:Value}{a b:List Nat}(ha:Sv w va (aF .u8 a))(hb:Sv w vb (aF .u8 b))(h8:Bs a)(h9:Bs b) :
  Calls Tryz.prog 94 #[va,vb] w fun e w'=>e=.returned (.bool (b.isPrefixOf a))/\w'=w:=by
 obtain⟨aa,ca,rfl,ly,kF⟩:=ha.form1;obtain⟨ab,cb,rfl,Kw,hc4⟩:=hb.form1;rw[ap]at *;rw[ap]at *;have hc2':ca<=9223372036854775807:=by unfold maxLen at kF;omega
 by_cases h:b.length<=a.length
 ·have hT:=ha.take (k:=b.length) (by rw[ap];exact h)
  rw[gK]at hT;have HE:=ae (oK hT hb (h8.take b.length) h9);have HP:=ae (Bz a b h);have gL:(a.length:Int)>=(b.length:Int):=by omega
  have oV:b.length<=ca:=by omega
  clear ha hb h8 h9 hT;generalize decide (a.take b.length=b)=d at *;go_enter Tryz.func94,Tryz.ntmps94
  go_wp2_with fail;refine HE.o.mono ?_;rintro e w1 ⟨rfl,rfl⟩;go_wp2_with fail;go_ret
  rw[← HP.o];exact⟨rfl,rfl⟩
 ·have gL:¬ (a.length:Int)>=(b.length:Int):=by omega
  have HP:=ae (BA a b (by omega));clear ha hb h8 h9;go_enter Tryz.func94,Tryz.ntmps94
  go_wp2_with fail;go_ret
  rw[HP.o];exact⟨rfl,rfl⟩
theorem EK{w:World}{aa:Option Addr}{ca:Nat}{vb:Value}{a b:List Nat}(ha:Sv w (.slice aa a.length ca) (aF .u8 a))(hb:Sv w vb (aF .u8 b))(h8:Bs a)(h9:Bs b) :
  Calls Tryz.prog 52 #[.slice aa a.length ca,vb] w fun e w'=>(∃ v,e=.returned (.tuple #[v,.bool (b.isPrefixOf a)])/\Sv w' v (aF .u8 (if b.isPrefixOf a=true then a.drop b.length else a))/\(∀ p,(∀ i,(Value.slice aa a.length ca).ownBlock=some i->i<p)->∀ i,v.ownBlock=some i->i<p))/\w'=w:=by
 have HP:=ae (Ty ha hb h8 h9);obtain⟨ab,cb,rfl,Kw,hc4⟩:=hb.form1;have HA:=ae ha;obtain⟨a',cap',e,ly,kF,hn,_⟩:=ha;simp only[Value.slice.injEq]at e;obtain⟨rfl,_,rfl⟩:=e;simp only[ap]at *;have hc2':ca<=9223372036854775807:=by unfold maxLen at kF;omega
 clear hb h8 h9;have kK:b.isPrefixOf a=true->b.length<=a.length:=fun h=>(jeu.1 h).length_le
 generalize b.isPrefixOf a=px at *;cases px
 case true =>
  have hl:b.length<=a.length:=kK rfl;have hD:=HA.o.dropG (k:=b.length) (by rw[ap];exact hl);rw[kE,ap]at hD;obtain⟨A,hA⟩:∃ A,(if ca=b.length then aa else aa.map fun x=>x.add b.length)=A:=⟨_,rfl⟩;have HBK:=ae (fun(p:Nat) (hp:∀ i,(Value.slice aa a.length ca).ownBlock=some i->i<p)=>jv (m:=a.length-b.length) (k:=b.length) (c:=ca) hp);rw[hA]at hD HBK;have HD:=ae hD;have HAA:=ae hA;have oV:(b.length:Int)<=(ca:Int):=by omega
  have hle2:(b.length:Int)<=(a.length:Int):=by omega
  clear hD HA kK;go_enter Tryz.func52,Tryz.ntmps52
  go_wp2_with fail;refine HP.o.mono ?_;rintro e w1 ⟨rfl,rfl⟩;go_wp2_with fail;go_ret2
  exact⟨⟨_,rfl,HD.o,HBK.o⟩,rfl⟩
 case false =>
  clear kK;go_enter Tryz.func52,Tryz.ntmps52
  go_wp2_with fail;refine HP.o.mono ?_;rintro e w1 ⟨rfl,rfl⟩;go_wp2_with fail;go_ret2
  exact⟨⟨_,rfl,by simpa using HA.o,fun p hp=>hp⟩,rfl⟩
end Go.Proofs.YtpljdjmpamjkhaaGreatDoor
