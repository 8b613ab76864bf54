import Derived.Test.YtpljdjmpamjkhaaGreatDoorUas
set_option linter.unusedVariables false
set_option linter.unusedSimpArgs false
set_option maxRecDepth 100000
set_option maxHeartbeats 4000000
namespace Go.Proofs.YtpljdjmpamjkhaaGreatDoor
open Go.RowKit Go.Lib
theorem oK{w:World}{va vb:Value}{a b:List Nat}(ha:Sv w va (aF .u8 a))(hb:Sv w vb (aF .u8 b))(h8:Bs a)(h9:Bs b) :
  Calls Tryz.prog 92 #[va,vb] w fun e w'=>e=.returned (.bool (decide (a=b)))/\w'=w:=by
 have XT:=ha.conv h8;have Vz:=hb.conv h9;have HE:=ae (QA h8 h9);clear ha hb;unfold txt at XT Vz;generalize a.map Nat.toUInt8=x at *;generalize b.map Nat.toUInt8=y at *;go_enter Tryz.func92,Tryz.ntmps92
 go_wp2_with fail;go_ret
 refine⟨?_,rfl⟩
 have e:(x==y)=decide (a=b):=by
  by_cases h:a=b
  ·rw[jdy h,HE.o.2 h]
   simp
  ·rw[jds h]
   simp
   exact fun e=>h (HE.o.1 e)
 rw[← e];rfl
theorem Np(k:IntKind)(c:Nat)(t:List Nat):aF k (c::t)=.int k (c:Int)::aF k t:=rfl
theorem Sv.uncons{W:World}{v:Value}{c:Nat}{t:List Nat}(h:Sv W v (aF .u8 (c::t))) :
  ∃ g off cap,v=.slice (some ⟨g,off,none⟩) (t.length+1) cap/\t.length+1<=cap/\cap<=maxLen/\g<W.heap.size/\W.cell? ⟨g,off,none⟩=some (.int .u8 (c:Int)) /\
   (∀ j (h:j<t.length),W.cell? ⟨g,off+1+j,none⟩=some (.int .u8 (t[j]:Int))) /\
   ∃ A,(if cap=1 then (some ⟨g,off,none⟩:Option Addr) else some ⟨g,off+1,none⟩)=A/\Sv W (.slice A t.length (cap-1)) (aF .u8 t):=by
 have h0:=h;obtain⟨a,cap,rfl,h1,h2,h3,h4⟩:=h;rw[ap,jdn]at *;obtain⟨g,off,rfl,h5,h6⟩:=h4 (by omega);refine⟨g,off,cap,rfl,h1,h2,h5,by simpa using h6 0 _ rfl,fun j hj=>?_,?_⟩
 ·have:=h6 (j+1) _ (bS (k:=.u8) (l:=c::t) (j:=j+1) (by simpa using hj))
  rw[show off+1+j=off+(j+1) by omega,this];simp
 ·obtain⟨A,hA,hSA⟩:=AW h0 (k:=1) (by rw[ap];simp)
  refine⟨A,hA,?_⟩;rw[Np]at hSA;simpa using hSA
theorem Ee{w:World}{vb vl:Value}{c:Nat}{t:List Nat}{l:List Int}(hb:Sv w vb (aF .u8 (c::t)))(h8:Bs (c::t))(hc:c<=4)(hs:Sv w vl (aK l))(hl:l.length<=256)(hi:Is l) :
  Calls Tryz.prog 309 #[vb,vl] w fun e w'=>e=.returned (.bool (decide (ib c l=t)))/\Below w.heap.size w w':=by
 have HEn:=ae (GR hs hi c (by omega));have Pv:jfb (Bs t):=fun x hx=>h8 x (by simp[hx])
 have xL:=ae (eC c hi hl).2;have nX:c<=4/\l.length<=256:=⟨hc,hl⟩;have HEM:jfb (DD c l=ib c l):=jdf nX;rw[jdy nX]at HEn;obtain⟨g,off,cap,rfl,h1,h2,h3,h4,_,A,hA,hSA⟩:=hb.uncons;have lA:=ae hSA;have bx:cap<=9223372036854775807:=by unfold maxLen at h2;omega
 clear hb hs hi hSA h8 nX h2;go_enter Tryz.func309,Tryz.ntmps309
 go_wp2_with fail;refine HEn.o.mono ?_;rintro e w1 ⟨⟨v1,rfl,eI⟩,aH⟩;rw[HEM.o]at eI;have fC:=ae eI;have aR:=ae aH;clear eI aH;go_wp2_with fail;refine(oK fC.o.sv (lA.o.kept aR.o) xL.o Pv.o).mono ?_;rintro e w2 ⟨rfl,rfl⟩;go_wp2_with fail;go_ret
 exact⟨rfl,aR.o⟩
theorem SS{c n:Nat}{t:List Nat}{l:List Int}(hc:c<=4)(hn:n<=256)(h:aB (rdC c n) (fin c t) t=.ok (l,[])):bo (c::t) (n:Int)=(l,0):=by
 rw[zw]at h;unfold bo;rw[jdf (by omega)];simp only;rw[jde (by omega),jdM];cases hr:mS c n t with
 | ok m=>rw[hr]at h;simp at h;rw[h]
 | error e=>rw[hr]at h;simp at h
theorem Nq{c n e:Nat}{t:List Nat}(hc:c<=4)(hn:n<=256)(h:aB (rdC c n) (fin c t) t=.error e):bo (c::t) (n:Int)=([],e):=by
 rw[zw]at h;unfold bo;rw[jdf (by omega)];simp only;rw[jde (by omega),jdM];cases hr:mS c n t with
 | ok m=>rw[hr]at h;simp at h
 | error e=>rw[hr]at h;simp at h;rw[h]
theorem Ef(w:World)(o:Obj):(w.alloc o).heap[w.heap.size]?=some o:=by
 unfold World.alloc;simp only[Array.getElem?_push_size]
theorem dt(w:World)(o:Obj):Below w.heap.size w (w.alloc o):=(jdg _ _).alloc (jdh _) _
def kC(r:List Int×Nat)(w:World)(e:Ending)(w':World):Prop:=(∃ v,e=.returned (.tuple #[v,.int .i64 (r.2:Int)])/\bv w' w.heap.size v r.1)/\Below w.heap.size w w'
theorem SU{w:World}{vb:Value}(n:Int)(hn:¬ (0<=n/\n<=256)):Calls Tryz.prog 296 #[vb,.int .i64 n] w (kC ([],1) w):=by
 by_cases h0:n<0
 ·clear hn
  go_enter Tryz.func296,Tryz.ntmps296
  go_wp2_with fail;go_ret2
  exact⟨⟨_,rfl,bv.nil _ _⟩,jdg _ _⟩
 ·have h1:n > 256:=by omega
  clear hn;go_enter Tryz.func296,Tryz.ntmps296
  go_wp2_with fail;go_ret2
  exact⟨⟨_,rfl,bv.nil _ _⟩,jdg _ _⟩
theorem Nr{w:World}{vb:Value}(hb:Sv w vb [])(n:Int)(hn:0<=n/\n<=256):Calls Tryz.prog 296 #[vb,.int .i64 n] w (kC ([],30) w):=by
 obtain⟨a,cap,rfl,_⟩:=hb;have h0:¬ n<0:=by omega
 have h1:¬ n > 256:=by omega
 clear hn;go_enter Tryz.func296,Tryz.ntmps296
 go_wp2_with fail;go_ret2
 exact⟨⟨_,rfl,bv.nil _ _⟩,jdg _ _⟩
theorem Jd{w:World}{vb:Value}{c:Nat}{t:List Nat}(hb:Sv w vb (aF .u8 (c::t)))(h8:Bs (c::t))(hc:4<c)(n:Int)(hn:0<=n/\n<=256):Calls Tryz.prog 296 #[vb,.int .i64 n] w (kC ([],50) w):=by
 obtain⟨g,off,cap,rfl,h1,h2,h3,h4,_⟩:=hb.uncons;have h5:¬ n<0:=by omega
 have h6:¬ n > 256:=by omega
 have h7:(c:Int)>=5:=by omega
 have h9:=h8 c (by simp);have bx:cap<=9223372036854775807:=by unfold maxLen at h2;omega
 have bR:(((t.length+1:Nat):Int)==0)=false:=jdt.2 (by omega);clear hn hb h8 h2;go_enter Tryz.func296,Tryz.ntmps296
 go_wp2_with fail;go_ret2
 exact⟨⟨_,rfl,bv.nil _ _⟩,jdg _ _⟩
theorem Ns{w:World}{vb:Value}{c:Nat}{t:List Nat}(hb:Sv w vb (aF .u8 (c::t)))(h8:Bs (c::t))(hc:c<=4)(n:Nat)(hn:n<=256):Calls Tryz.prog 296 #[vb,.int .i64 (n:Int)] w (kC (bo (c::t) (n:Int)) w):=by
 have HSB:=ae hb;have H8:=ae h8;obtain⟨g,off,cap,rfl,h1,h2,h3,h4,h4b,A,hA,hSA⟩:=hb.uncons;have lA:=ae hSA;have h5:¬ (n:Int)<0:=by omega
 have h6:¬ (n:Int) > 256:=by omega
 have h7:¬ (c:Int)>=5:=by omega
 have bx:cap<=9223372036854775807:=by unfold maxLen at h2;omega
 have bR:(((t.length+1:Nat):Int)==0)=false:=jdt.2 (by omega)
 have cT:jfb (StC 333 (w.alloc (.cells #[.slice A t.length (cap-1),.int .i64 0] 333)) w.heap.size t 0):=ae (by
  have hh:(w.alloc (.cells #[.slice A t.length (cap-1),.int .i64 0] 333)).heap[w.heap.size]?=some (.cells #[.slice A t.length (cap-1),.int .i64 0] 333 (0,0)):=by
   exact Ef _ _
  have Cw:Bs t:=fun x hx=>h8 x (by simp[hx])
  by_cases aY:cap=1
  ·rw[jdf aY]at hA
   subst hA;exact⟨g,off,cap-1,hh,h3,by omega,by omega,Cw,fun j hj=>by omega⟩
  ·rw[jde aY]at hA
   subst hA;exact⟨g,off+1,cap-1,hh,h3,by omega,by omega,Cw,fun j hj=>((dt w _).cell (p:=⟨g,off+1+j,none⟩) h3).trans (h4b j hj)⟩)
 have HG:jfb (ec (aB (rdC c n) (fin c t) t) (aB (rdC c n) (fin c t)) t 0):=⟨fun _=>rfl,fun h=>absurd rfl h⟩;have LJ:=ae (fun l h=>SS (c:=c) (n:=n) (t:=t) (l:=l) hc hn h);have HER:=ae (fun e h=>Nq (c:=c) (n:=n) (t:=t) (e:=e) hc hn h);have rR:=ae (RZ (fun r h=>RJ c t [] h) cT.o hn hc HG.o);generalize aB (rdC c n) (fin c t) t=D at *;generalize bo (c::t) (n:Int)=R at *;clear hb h8 h2 hSA h4b HG;go_enter Tryz.func296,Tryz.ntmps296
 go_wp2_with fail;refine rR.o.mono ?_;rintro e w2 ⟨l,b2,f2,⟨v2,rfl,fx⟩,YS,BZ,ei,gM,dO⟩;have du:=ae fx;have rY:=ae YS;have gE:=ae ei;have Kp:=ae gM;have aE:Below w.heap.size w w2:=(dt w _).trans (dO.below (jdh _) (by rw[jdi];omega));have aO:=ae aE;have bn:=aE.size;have jJ:=ei.lt;clear fx YS ei gM dO aE;go_wp2_with fail;refine(Lg gE.o).mono ?_;rintro e w3 ⟨rfl,ll,iz⟩;have aQ:Below w.heap.size w w3:=aO.o.trans (iz.below (jdh _) bn);have cZ:=ae (du.o.fr iz (by rw[jdi];omega));have bN:=ae aQ;have iD:=aQ.size
 have XQ:jfb ((orf f2 (if b2.length=0 then 0 else 32)=0->D=if ib c l=t then .ok (l,[]) else .error 40)/\(orf f2 (if b2.length=0 then 0 else 32)≠0->D=.error (orf f2 (if b2.length=0 then 0 else 32)))):=ae (by
  obtain⟨q1,q2⟩:=Kp.o;by_cases hf:f2=0
  ·subst hf
   rw[eV];have q3:=q1 rfl;unfold fin at q3;by_cases fO:b2.length=0
   ·rw[jdf fO]at q3 ⊢
    exact⟨fun _=>q3,fun e=>absurd rfl e⟩
   ·rw[jde fO]at q3 ⊢
    exact⟨fun e=>by omega,fun _=>q3⟩
  ·rw[eB hf]
   exact⟨fun e=>absurd e hf,q2⟩)
 generalize orf f2 (if b2.length=0 then 0 else 32)=f3 at *;have no:=ae ll;obtain⟨G,O,C,k0,k1,k2,k3,k4,k5,k6,k7,k8,k9⟩:=ll.cells;clear ll iz aQ k0 k2 k3 k4 k5 k6 k7 k8 k9;have Zg:=ae (cZ.o.low (show w.heap.size<=(w.alloc (.cells #[.slice A t.length (cap-1),.int .i64 0] 333)).heap.size by rw[jdi];omega));by_cases vC:((f3:Int)==0)=true
 ·have hf0':f3=0:=by simpa using vC
  have hD:=XQ.o.1 hf0';subst hf0';have KD:=ae (Ee (HSB.o.kept bN.o) H8.o hc cZ.o.sv (by omega) rY.o);by_cases hw:ib c l=t
  ·rw[jdf hw]at hD
   rw[jdy hw]at KD;have HR:=ae (LJ.o l hD);clear hD hw vC;go_wp2_with fail;refine KD.o.mono ?_;rintro e w4 ⟨rfl,bw⟩;obtain⟨G',O',C',j0,j1,j2,j3,j4,j5,j6,j7,j8,j9⟩:=(no.o.kept bw no.o.lt).cells;have ce:=ae (bN.o.trans (bw.mono iD));have eR:=ae (Zg.o.kept bw);clear bw j0 j2 j3 j4 j5 j6 j7 j8 j9 k1;go_wp2_with fail;go_ret2
   rw[HR.o];exact⟨⟨_,rfl,eR.o⟩,ce.o⟩
  ·rw[jde hw]at hD
   rw[jds hw]at KD;have HR:=ae (HER.o 40 hD);clear hD hw vC;go_wp2_with fail;refine KD.o.mono ?_;rintro e w4 ⟨rfl,bw⟩;have uM:=ae (no.o.kept bw no.o.lt);have ce:=ae (bN.o.trans (bw.mono iD));have Ke:=ce.o.size;clear bw k1;go_wp2_with fail;refine(dp uM.o 40).mono ?_;rintro e w5 ⟨rfl,nW,jz⟩;rw[eV]at nW;obtain⟨G',O',C',j0,j1,j2,j3,j4,j5,j6,j7,j8,j9⟩:=nW.cells;have aS:=ae (ce.o.trans (jz.below (jdh _) Ke));clear nW jz j0 j2 j3 j4 j5 j6 j7 j8 j9;go_wp2_with fail;go_quiet (fail)
   go_wp2_with fail;go_ret2
   rw[HR.o];exact⟨⟨_,rfl,bv.nil _ _⟩,ar aS.o _⟩
 ·have hff:((f3:Int)==0)=false:=by simpa using vC
  have Zb:((f3:Int) != 0)=true:=by simpa using vC
  have hD:=XQ.o.2 (fun e=>vC (by simp[e]));have HR:=ae (HER.o f3 hD);clear hD vC;go_wp2_with fail;go_quiet (fail)
  go_wp2_with fail;go_ret2
  rw[HR.o];exact⟨⟨_,rfl,bv.nil _ _⟩,ar bN.o _⟩
theorem Eg{w:World}{vb:Value}{b:List Nat}(hb:Sv w vb (aF .u8 b))(h8:Bs b)(n:Int):Calls Tryz.prog 296 #[vb,.int .i64 n] w (kC (bo b n) w):=by
 by_cases hn:0<=n/\n<=256
 ·cases b with
  | nil =>
   have e:bo [] n=([],30):=by unfold bo;rw[jdf hn]
   rw[e];exact Nr hb n hn
  | cons c t =>
   by_cases hc:c<=4
   ·obtain⟨m,rfl⟩:=jeS hn.1
    exact Ns hb h8 hc m (by omega)
   ·have e:bo (c::t) n=([],50):=by unfold bo;rw[jdf hn];simp only;rw[jdf (by omega)]
    rw[e];exact Jd hb h8 (by omega) n hn
 ·have e:bo b n=([],1):=by unfold bo;rw[jde hn]
  rw[e];exact SU n hn
def SvK(W:World)(v:Value)(l:List Nat):Prop :=
 ∃ a cap,v=.slice a l.length cap/\l.length<=cap/\cap<=maxLen/\(a=none->cap=0) /\
  (0<l.length->∃ b off,a=some ⟨b,off,none⟩/\b<W.heap.size/\∀ j (h:j<l.length),W.cell? ⟨b,off+j,none⟩=some (.int .u8 (l[j]:Int)))
theorem SvK.kept{W W':World}{v:Value}{l:List Nat}(h:SvK W v l)(hb:Below W.heap.size W W'):SvK W' v l:=by
 obtain⟨a,cap,rfl,h1,h2,h3,h4⟩:=h;refine⟨a,cap,rfl,h1,h2,h3,fun h0=>?_⟩;obtain⟨b,off,rfl,h5,h6⟩:=h4 h0;exact⟨b,off,rfl,jdD h5 hb.size,fun j hj=>(hb.cell (p:=⟨b,off+j,none⟩) h5).trans (h6 j hj)⟩
theorem SvK.nil(W:World):SvK W (.slice none 0 0) []:=⟨none,0,rfl,jdh _,by unfold maxLen;omega,fun _=>rfl,fun h=>by simp at h⟩
theorem SvK.of_own{W:World}{B e n:Nat}{v:Value}{l:List Nat}(h:W.ownsRow B e 1 v n (aF .u8 l)):SvK W v l:=by
 have hl:l.length=n:=by have:=h.1;simpa [aF]using this
 obtain⟨_,h1⟩:=id h;rcases h1 with ⟨rfl,rfl⟩ | ⟨g,cap,cur,rfl,hb,hg,h4,h5,_⟩
 ·exact⟨none,0,by rw[hl],by omega,by unfold maxLen;omega,fun _=>rfl,fun h0=>by omega⟩
 ·refine⟨_,cap,by rw[hl],by omega,h5,fun h=>(by cases h),fun _=>⟨g,0,rfl,(Array.getElem?_eq_some_iff.1 hg).1,fun j hj=>?_⟩⟩
  have:=h.cells (g:=g) rfl j _ (bS hj);rw[mq]at this;rwa[jdK]
theorem SvK.form{W:World}{v:Value}{l:List Nat}(h:SvK W v l):∃ a cap,v=.slice a l.length cap/\l.length<=cap/\cap<=maxLen:=by
 obtain⟨a,cap,h0,h1,h2,_⟩:=h;exact⟨a,cap,h0,h1,h2⟩
theorem SvK.take{W:World}{a:Option Addr}{n cap:Nat}{l:List Nat}(h:SvK W (.slice a n cap) l){k:Nat}(hk:k<=l.length):SvK W (.slice a k cap) (l.take k):=by
 obtain⟨a',c,h1,h2,h3,h4,h5⟩:=h;simp only[Value.slice.injEq]at h1;obtain⟨rfl,_,rfl⟩:=h1;have hl:(l.take k).length=k:=by rw[jdo];omega
 refine⟨_,cap,by rw[hl],by omega,h3,h4,fun h0=>?_⟩;obtain⟨b',off',h6,h7,h8⟩:=h5 (by omega);refine⟨b',off',h6,h7,fun j hj=>?_⟩;rw[h8 j (by omega),List.getElem_take]
theorem SvK.conv{W:World}{v:Value}{l:List Nat}(h:SvK W v l)(h8:Bs l):(convert 30 9 v).run Tryz.prog W=.ok (txt l) W:=by
 obtain⟨a,cap,rfl,h1,h2,_,h3⟩:=h;rcases jd4 l.length with h0 | hp
 ·obtain rfl:l=[]:=jdF h0
  first
   | exact run_convert_bytes_back_empty W 30 9 5 a cap Tryz.underlying30 Tryz.underlying5 Tryz.underlying9
   | (cases a<;>rfl)
   | (cases a<;>kernel_rfl)
 ·obtain⟨b,off,rfl,h4,h5⟩:=h3 hp
  have:=run_convert_bytes_back W 30 9 5 ⟨b,off,none⟩ cap (l.map Nat.toUInt8) Tryz.underlying30 Tryz.underlying5 Tryz.underlying9 (fun j hj=>by
   have hj':j<l.length:=by simpa using hj
   rw[pI,h5 j hj'];have h9:=h8 l[j] (jdl hj');congr 2
   simp[jd7 h9])
  rw[jdk]at this;exact this
theorem SV{x y:Nat}(hx:x<256)(hy:y<256)(h:x.toUInt8=y.toUInt8):x=y:=by
 have:=jdm UInt8.toNat h;simpa [jd7 hx,jd7 hy]using this
theorem xk:∀{a b:List Nat},Bs a->Bs b->a.map Nat.toUInt8=b.map Nat.toUInt8->a=b
 | [],[],_,_,_=>rfl
 | [],_::_,_,_,h=>by simp at h
 | _::_,[],_,_,h=>by simp at h
 | x::a,y::b,ha,hb,h=>by
  simp only[jdQ,List.cons.injEq]at h;rw[SV (ha x (by simp)) (hb y (by simp)) h.1,xk (fun z hz=>ha z (by simp[hz])) (fun z hz=>hb z (by simp[hz])) h.2]
theorem aD.svK{W:World}{B:Nat}{v:Value}{bs:List Nat}(h:aD W B v bs):SvK W v bs:=SvK.of_own h
theorem aD.form{W:World}{B:Nat}{v:Value}{bs:List Nat}(h:aD W B v bs)(hp:0<bs.length):∃ g cap,v=.slice (some ⟨g,0,none⟩) bs.length cap/\B<=g/\g<W.heap.size:=by
 obtain⟨hl,h1⟩:=id h;rcases h1 with ⟨rfl,h0⟩ | ⟨g,cap,cur,rfl,hb,hg,h4⟩
 ·omega
 ·exact⟨g,cap,rfl,hb,(Array.getElem?_eq_some_iff.1 hg).1⟩
theorem aD.at{W:World}{B g n cap:Nat}{bs:List Nat}(h:aD W B (.slice (some ⟨g,0,none⟩) n cap) bs){j:Nat}(hj:j<bs.length):W.cell? ⟨g,j,none⟩=some (.int .u8 (bs[j]:Int))/\W.frozen? ⟨g,j,none⟩=false:=by
 have hn:n=bs.length:=by
  obtain⟨a,cap,h1,_⟩:=h.svK;simp only[Value.slice.injEq]at h1;exact h1.2.1
 subst hn;unfold aD at h;exact⟨(h.cellAt j (by omega)).trans (bS hj),h.frozenAt j⟩
theorem aD.stored{W:World}{B g n cap:Nat}{bs:List Nat}(h:aD W B (.slice (some ⟨g,0,none⟩) n cap) bs)(j c:Nat):aD (W.setCell ⟨g,j,none⟩ (.int .u8 (c:Int))) B (.slice (some ⟨g,0,none⟩) n cap) (bs.set j c):=by
 have hn:n=bs.length:=by
  obtain⟨a,cap,h1,_⟩:=h.svK;simp only[Value.slice.injEq]at h1;exact h1.2.1
 subst hn;unfold aD at *;have:=(h.stored j (.int .u8 (c:Int))).1;rw[ki]at this;rw[jeC];exact this
theorem ed{w:World}{ops:Array Oper}{rest:List Oper}{o:Oper}{a:Act}{Q:Exit->Act->World->Prop}(eg:o.guard=none)(s x:Operand)
  (ho:o.op=.call { callee:=.builtin .append,args:=#[s,x],argTypes:=#[30,30] })
  (base:Nat) (v vx:Value) (l0 l:List Nat) (hs:a.eval s=v) (aA:aD w base v l0) (hx:a.eval x=vx) (ft:SvK w vx l)
  (hbytes:l0.length+l.length<=140737488355328) (aI:base<=w.heap.size)
  (h:∀ v' w',aD w' base v' (l0++l)->Below base w w'->wpList Tryz.prog ops Q rest (a.put o.dst v') w') :
  wpList Tryz.prog ops Q (o::rest) a w:=by
 obtain⟨i0,hi,cm,hz1',bn⟩:=jdA jm;unfold aD at *;obtain⟨ad,cap,rfl,h1,h2,h3,h4⟩:=ft;cases ad with
 | none =>
  have hc:=h3 rfl;subst hc;have hl:l=[]:=jdF (by omega);subst hl;refine wpList_plain eg fun K hK=>?_
  have hr:=jeJ (P:=Tryz.prog) (w:=w) base 30 o.type 5 i0 1 Tryz.underlying30 hi v l0.length (aF .u8 l0) aA;unfold Oper.wp execOp;simp only[ho,resolve,invoke,builtin,Sem.run_bind,Sem.run_pure,Result.andThen_ok,jes,jdQ,jed,hs,hx,hr,jdI];refine hK _ _ (h v w ?_ (jdg _ _));rw[jdB];exact aA
 | some ad =>
  refine jdU (w:=w) eg s x 30 ho base 5 i0 (.int .u8 0) 1 1 Tryz.underlying30 hi cm hz1' bn rfl (by decide) v l0.length (aF .u8 l0) hs aA ad l.length cap (aF .u8 l) hx (by rw[ap];omega) ?_ (fR _ _) (by unfold maxLen;omega) (by omega) aI ?_
  ·intro j u hu
   have hj:j<l.length:=by
    have:=(List.getElem?_eq_some_iff.1 hu).1;rwa[ap]at this
   obtain⟨b,off,h5,_,h6⟩:=h4 (by omega);cases h5
   rw[pI,h6 j hj];rw[bS hj]at hu;exact hu
  ·intro v' w' o1 g1 _ _
   refine h v' w' ?_ ((jdg base w).grown g1 aI (fun k hk=>(aA.lt k hk).1));rw[cd,jdj];exact o1
def Tab(W:World):Prop:=0<W.heap.size/\∀ i:Nat,i<16->W.cell? ⟨0,i,none⟩=some (.int .u32 ((ey 4 i:Nat):Int))
theorem Tab.kept{W W':World}(h:Tab W)(hb:Below W.heap.size W W'):Tab W' :=
 ⟨jdD h.1 hb.size,fun i hi=>(hb.cell (p:=⟨0,i,none⟩) h.1).trans (h.2 i hi)⟩
theorem Eh{w:World}(ht:Tab w)(s:Nat)(hs:s<4294967296):Calls Tryz.prog 165 #[.int .u32 (s:Int)] w fun e w'=>e=.returned (.int .u32 ((ey 4 s:Nat):Int))/\w'=w:=by
 have hc:=ht.2 (s % 16) (Nat.mod_lt _ (by omega));have uO:=Nj 4 s;have aC:=rp 4 (c:=s % 16) (by omega);have hx:=u32_xor_nat (s / 16) (ey 4 (s % 16)) (by omega) aC;rw[Nat.xor_comm,← uO]at hx;clear uO;obtain⟨r,hr⟩:∃ r,s % 16=r:=⟨_,rfl⟩;obtain⟨q,hq⟩:∃ q,s / 16=q:=⟨_,rfl⟩;have hr16:r<16:=by omega
 have ha:bits .and .u32 (s:Int) 15=(r:Int):=by
  have:=u32_and_nat s 15 hs (by omega);rw[nat_mask4,hr]at this;exact this
 have nc:(s:Int) / 16=(q:Int):=by omega
 rw[hr]at hc hx;rw[hq]at hx;generalize ey 4 r=t at *;generalize ey 4 s=u at *;clear hr hq;go_enter Tryz.func165,Tryz.ntmps165
 go_wp2_with fail;go_ret
 exact⟨rfl,rfl⟩
theorem Ei{c:Nat}{l:List Nat}{k:Nat}(h:k<l.length):run c (l.take (k+1))=byt (run c (l.take k)) l[k]:=by
 rw[jdx h,SQ]
theorem Bs.get{l:List Nat}(h:Bs l){k:Nat}(hk:k<l.length):l[k]<256:=h _ (jdl hk)
theorem Bs.le4(s:Nat):Bs (le4 s):=sW s
theorem Bs.seal{b:List Nat}(h:Bs b):Bs (bL b):=h.append (Bs.le4 _)
theorem SW{w:World}{v:Value}{l:List Nat}(ht:Tab w)(hs:SvK w v l)(h8:Bs l)(c:Nat)(hc:c<4294967296) :
  Calls Tryz.prog 118 #[.int .u32 (c:Int),v] w fun e w'=>e=.returned (.int .u32 ((mZ c l:Nat):Int))/\w'=w:=by
 obtain⟨a,cap,rfl,h1,h2,_,eQ⟩:=hs;have oW:l.length<=9223372036854775807:=by unfold maxLen at h2;omega
 have HC:=ae eQ;have H8:=ae h8;have HT:=ae ht
 have VC:bits .xor .u32 IntKind.u32.max (c:Int)=((c ^^^ 4294967295:Nat):Int):=by
  have:=u32_xor_nat 4294967295 c (by omega) hc;rw[Nat.xor_comm]at this;exact this
 have yy:c ^^^ 4294967295<4294967296:=kA hc (by omega);have HE:jfb (mZ c l=run (c ^^^ 4294967295) l ^^^ 4294967295):=ae rfl;have HE:=HE;generalize mZ c l=R at *;generalize c ^^^ 4294967295=s0 at *;clear eQ h8 ht h1 h2;go_enter Tryz.func118,Tryz.ntmps118
 go_wp2_with fail;go_loopw [5,12] (fun st i w'=>w'=w/\∃ k:Nat,k<=l.length/\i=.int .i64 (k:Int)/\st=.int .u32 ((run s0 (l.take k):Nat):Int)) (fun _ i _=>l.length-(intOf i).toNat)
 case atStart=>exact⟨rfl,0,by omega,rfl,rfl⟩
 case round =>
  obtain⟨rfl,k,hk,rfl,rfl⟩:=hrel;by_cases aC:k<l.length
  ·obtain⟨b,off,rfl,hb,bq⟩:=HC.o (by omega)
   have dR:=bq k aC;have hx8:=H8.o.get aC;have ft:run s0 (l.take k)<4294967296:=sV yy (H8.o.take k)
   have HN:jfb (run s0 (l.take (k+1))=ey 4 (ey 4 (run s0 (l.take k) ^^^ l[k]))):=by
    show _=_
    rw[Ei aC];exact nL 4 4 _
   clear bq;generalize l[k]=x at *;generalize run s0 (l.take k)=s at *;have VN:=u32_xor_nat s x ft (by omega);have yx:s ^^^ x<4294967296:=kA ft (by omega);generalize s ^^^ x=y at *;have hy1:ey 4 y<4294967296:=rp 4 yx;go_wp2_with fail;refine(Eh HT.o y yx).mono ?_;rintro e w1 ⟨rfl,rfl⟩;generalize ey 4 y=y1 at *;go_wp2_with fail;refine(Eh HT.o y1 hy1).mono ?_;rintro e w2 ⟨rfl,rfl⟩;generalize ey 4 y1=y2 at *;go_wp2_with fail;go_roundw
   case rel=>exact⟨trivial,k+1,by omega,by go_num,by rw[HN.o]⟩
   case measure=>simp[intOf];omega
  ·obtain rfl:k=l.length:=by omega
   rw[jdp];have ft:run s0 l<4294967296:=sV yy H8.o;have VN:=u32_xor_nat 4294967295 (run s0 l) (by omega) ft;rw[Nat.xor_comm,← HE.o]at VN;have hxx':bits .xor .u32 IntKind.u32.max ((run s0 l:Nat):Int)=(R:Int):=VN;clear VN;generalize run s0 l=s at *;go_wp2_with fail;go_ret
   exact⟨rfl,rfl⟩
theorem WV{w:World}{v:Value}{l:List Nat}(ht:Tab w)(hs:SvK w v l)(h8:Bs l) :
  Calls Tryz.prog 79 #[v] w fun e w'=>e=.returned (.int .u32 ((mZ 0 l:Nat):Int))/\w'=w:=by
 have HM:=ae (SW ht hs h8 0 (by omega));obtain⟨a,cap,rfl,h1,h2⟩:=hs.form;clear hs h8 ht;generalize mZ 0 l=R at *;go_enter Tryz.func79,Tryz.ntmps79
 go_wp2_with fail;refine HM.o.mono ?_;rintro e w1 ⟨rfl,rfl⟩;go_wp2_with fail;go_ret
 exact⟨rfl,rfl⟩
theorem Ej(x:Nat):IntKind.u8.wrap ((x:Nat):Int)=((x % 256:Nat):Int):=by rw[IntKind.wrap_u8];omega
theorem Ek{w:World}{v:Value}{l:List Nat}(ht:Tab w)(hs:SvK w v l)(h8:Bs l)(hl:l.length<=100000000) :
  Calls Tryz.prog 40 #[v] w (dw w (bL l)):=by
 have HO:=ae (WV ht hs h8);have HS:=ae hs;have HE:jfb (bL l=l++le4 (mZ 0 l)):=ae rfl;have hc:=uY (c:=0) (by omega) h8;obtain⟨a,cap,rfl,h1,h2⟩:=hs.form;clear hs h8 ht h1 h2;generalize mZ 0 l=c at *;have sg:(c:Int) / 256=((c / 256:Nat):Int):=by omega
 have nc:(c:Int) / 65536=((c / 65536:Nat):Int):=by omega
 have LO:(c:Int) / 16777216=((c / 16777216:Nat):Int):=by omega
 have HD:jfb (le4 c=[c % 256,c / 256 % 256,c / 65536 % 256,c / 16777216 % 256]):=ae rfl;have g0:=Ej c;have g1:=Ej (c / 256);have g2:=Ej (c / 65536);have g3:=Ej (c / 16777216);generalize c / 256=c1 at *;generalize c / 65536=c2 at *;generalize c / 16777216=c3 at *;generalize c % 256=d0 at *;generalize c1 % 256=d1 at *;generalize c2 % 256=d2 at *;generalize c3 % 256=d3 at *;obtain⟨i0,hi,cm,hz1',bn⟩:=jdA jm;go_enter Tryz.func40,Tryz.ntmps40
 go_wp2_with fail;refine HO.o.mono ?_;rintro e w1 ⟨rfl,rfl⟩;go_wp2_with (first | (refine wpList_make_own _ rfl _ _ 30 rfl w1.heap.size 5 i0 (.int .u8 0) 1 Tryz.underlying30 hi cm hz1' .i64 .i64 _ (l.length+4) rfl rfl ?m1 ?m2 ?m3 ?m4 ?_))
 case m1=>first | rfl | omega
 case m2=>rw[bn];omega
 case m3=>unfold maxLen;omega
 case m4=>omega
 intro w2 fx gM;have aE:Below w1.heap.size w1 w2:=(jdg _ _).grown gM (jdh _) (fun k hk=>by cases hk);have ho2':aD w2 w1.heap.size (.slice (some ⟨w1.heap.size,0,none⟩) 0 (l.length+4)) []:=fx;have du:=ae ho2';have aO:=ae aE;have gE:=ae (HS.o.kept aE);have jx:=aE.size;clear fx gM aE ho2';go_wp2_with (first | (at_builtin;refine ed rfl _ _ rfl w1.heap.size _ _ [] l rfl du.o rfl gE.o ?c1 ?c2 ?_))
 case c1=>simp;omega
 case c2=>omega
 intro v3 w3 o3 aQ;have cZ:=ae o3;have bN:=ae (aO.o.trans aQ);have hsz3:=aQ.size;clear o3 aQ;have UC:jfb (aD (w3.alloc (.cells #[.int .u8 (d0:Int),.int .u8 (d1:Int),.int .u8 (d2:Int),.int .u8 (d3:Int)] 5)) w3.heap.size (.slice (some ⟨w3.heap.size,0,none⟩) 4 4) [d0,d1,d2,d3]):=ae (oo w3 [d0,d1,d2,d3] (by unfold maxLen;simp));have eR:=ae (cZ.o.kept (dt w3 (.cells #[.int .u8 (d0:Int),.int .u8 (d1:Int),.int .u8 (d2:Int),.int .u8 (d3:Int)] 5)));go_wp2_with (first | (at_builtin;refine ed rfl _ _ rfl w1.heap.size _ _ ([]++l) [d0,d1,d2,d3] rfl ?q1 rfl ?q2 ?c3 ?c4 ?_))
 case q1=>exact eR.o
 case q2=>exact UC.o.svK
 case c3=>simp;omega
 case c4=>rw[jdi];omega
 intro v5 w5 o5 br;try rw[jee]at o5
 rw[← HD.o,← HE.o]at o5;have dJ:=ae o5;have aS:=ae (bN.o.trans (((dt w3 (.cells #[.int .u8 (d0:Int),.int .u8 (d1:Int),.int .u8 (d2:Int),.int .u8 (d3:Int)] 5)).mono (by omega)).trans br));clear o5 br;go_wp2_with fail;go_ret
 exact⟨⟨_,rfl,dJ.o⟩,aS.o⟩
theorem uZ{a b:List Nat}(ha:Bs a)(hb:Bs b):(a.map Nat.toUInt8==b.map Nat.toUInt8)=decide (a=b):=by
 rw[jeI];simp only[beq_iff_eq,jd2];exact⟨xk ha hb,fun h=>by rw[h]⟩
theorem Je{w:World}{v u:Value}{a b:List Nat}(ha:SvK w v a)(hb:SvK w u b)(ha8:Bs a)(kH:Bs b) :
  Calls Tryz.prog 92 #[v,u] w fun e w'=>e=.returned (.bool (decide (a=b)))/\w'=w:=by
 have ly:=ha.conv ha8;have kF:=hb.conv kH;have HE:=ae (uZ ha8 kH);obtain⟨a1,cap1,rfl,_,_⟩:=ha.form;obtain⟨a2,cap2,rfl,_,_⟩:=hb.form;unfold txt at ly kF;generalize a.map Nat.toUInt8=x at *;generalize b.map Nat.toUInt8=y at *;generalize decide (a=b)=t at *;clear ha hb ha8 kH;go_enter Tryz.func92,Tryz.ntmps92
 go_wp2_with fail;go_ret
 refine⟨?_,rfl⟩;rw[← HE.o];simp
theorem Jf{w:World}{v:Value}{l:List Nat}(hs:SvK w v l)(hl:l.length<=100000000) :
  Calls Tryz.prog 93 #[v] w (dw w l):=by
 have HS:=ae hs;obtain⟨ad,cap,rfl,h1,h2,h3,_⟩:=hs;cases ad with
 | none =>
  have hc:=h3 rfl;subst hc;have qn:l=[]:=jdF (by omega);subst qn;have hq:(binOp .eql 30 (.slice none 0 0) (.slice none 0 0)).run Tryz.prog w=.ok (.bool true) w:=jeM w 30 5 none 0 0 0 0 Tryz.underlying30;go_enter Tryz.func93,Tryz.ntmps93
  go_wp2_with fail;go_ret
  exact⟨⟨_,rfl,aD.nil _ _⟩,jdg _ _⟩
 | some ad =>
  have HN:=ae (vJ w);have gE:=ae (HS.o.kept (dt w (.cells #[] 5)));clear h3;have hq:(binOp .eql 30 (.slice (some ad) l.length cap) (.slice none 0 0)).run Tryz.prog w=.ok (.bool false) w:=jeM w 30 5 (some ad) l.length cap 0 0 Tryz.underlying30;go_enter Tryz.func93,Tryz.ntmps93
  go_wp2_with (first | (at_builtin;refine ed rfl _ _ rfl w.heap.size _ _ [] l rfl ?q1 rfl ?q2 ?c1 ?c2 ?_))
  case q1=>exact HN.o
  case q2=>exact gE.o
  case c1=>simp;omega
  case c2=>rw[jdi];omega
  intro v3 w3 o3 aQ;have cZ:=ae o3;have bN:=ae ((dt w (.cells #[] 5)).trans aQ);clear o3 aQ;go_wp2_with fail;go_ret
  exact⟨⟨_,rfl,cZ.o⟩,bN.o⟩
def jaB(w:World)(o:Option (List Nat))(e:Ending)(w':World):Prop:=(∃ v,e=.returned (.tuple #[v,.bool o.isSome])/\aD w' w.heap.size v (o.getD []))/\Below w.heap.size w w'
theorem tV{l:List Nat}(h:l.length<4):et l=none:=by
 unfold et;rw[jde (by omega)]
theorem SX{w:World}{v:Value}{l:List Nat}(ht:Tab w)(hs:SvK w v l)(h8:Bs l)(hl:l.length<=100000000) :
  Calls Tryz.prog 51 #[v] w (jaB w (et l)):=by
 have HS:=ae hs;obtain⟨a,cap,rfl,h1,h2⟩:=hs.form;have oW:l.length<=9223372036854775807:=by omega
 by_cases h4:l.length<4
 ·rw[tV h4]
  have aC:(l.length:Int)-4<0:=by omega
  clear hs h8 ht h1 h2;go_enter Tryz.func51,Tryz.ntmps51
  go_wp2_with fail;go_ret2
  exact⟨⟨_,rfl,aD.nil _ _⟩,jdg _ _⟩
 ·obtain⟨n,hn⟩:∃ n,l.length=n+4:=⟨l.length-4,by omega⟩
  have qs:¬ (n:Int)<0:=by omega
  have FU:n<=l.length:=by omega
  have hA:=hs.take FU;have HA:=ae hA;have H8:=ae h8;have H8t:=ae (h8.take n);have HSE:=ae (Ek ht hA (h8.take n) (by rw[jdo];omega))
  have iG:jfb (et l=if bL (l.take n)=l then some (l.take n) else none):=by
   show _=_
   unfold et;rw[hn,je9];simp
  have oV:(l.length:Int)-4=(n:Int):=by omega
  have bR:(l.take n).length<=100000000:=by rw[jdo];omega
  have Zj:n<=cap:=by omega
  rw[hn]at HS;rw[hn];clear hs h8 ht h1 h2 hA oW;have H8s:=ae H8t.o.seal;generalize et l=R at *;generalize l.take n=m at *;go_enter Tryz.func51,Tryz.ntmps51
  go_wp2_with fail;refine HSE.o.mono ?_;rintro e w1 ⟨⟨v1,rfl,o1⟩,aH⟩;have Zk:=ae (Je (HS.o.kept aH) o1.svK H8.o H8s.o);have UG:=ae (HA.o.kept aH);have aR:=ae aH;clear o1 aH;by_cases nX:bL m=l
  ·rw[nX,jdy rfl]at Zk
   have HR:jfb (R=some m):=by show _=_;rw[iG.o,jdf nX]
   clear nX iG H8s;go_wp2_with fail;refine Zk.o.mono ?_;rintro e w2 ⟨rfl,rfl⟩;go_wp2_with fail;refine(Jf UG.o bR).mono ?_;rintro e w3 ⟨⟨v3,rfl,o3⟩,aQ⟩;have cZ:=ae o3;have bN:=ae aQ;clear o3 aQ;go_wp2_with fail;go_ret2
   rw[HR.o];refine⟨⟨_,rfl,?_⟩,ai aR.o bN.o⟩;exact cZ.o.low aR.o.size
  ·rw[jds (fun h=>nX h.symm)]at Zk
   have HR:jfb (R=none):=by show _=_;rw[iG.o,jde nX]
   clear nX iG H8s;go_wp2_with fail;refine Zk.o.mono ?_;rintro e w2 ⟨rfl,rfl⟩;go_wp2_with fail;go_ret2
   rw[HR.o];exact⟨⟨_,rfl,aD.nil _ _⟩,aR.o⟩
theorem sY{w:World}{ops:Array Oper}{rest:List Oper}{o:Oper}{a:Act}{Q:Exit->Act->World->Prop}(eg:o.guard=none)(s x:Operand)
  (ho:o.op=.call { callee:=.builtin .append,args:=#[s,x],argTypes:=#[30,30] })
  (base:Nat) (v vx:Value) (l0 l:List Nat) (hs:a.eval s=v) (aA:aD w base v l0) (hx:a.eval x=vx) (ft:Sv w vx (aF .u8 l))
  (hbytes:l0.length+l.length<=140737488355328) (aI:base<=w.heap.size)
  (h:∀ v' w',aD w' base v' (l0++l)->w.grownBy w' v.ownBlock->wpList Tryz.prog ops Q rest (a.put o.dst v') w') :
  wpList Tryz.prog ops Q (o::rest) a w:=by
 obtain⟨i0,hi,cm,hz1',bn⟩:=jdA jm;unfold aD at *;obtain⟨ad,cap,rfl,h1,h2,h3,h4⟩:=ft;rw[ap]at *;cases ad with
 | none =>
  have hc:=h3 rfl;subst hc;have hl:l=[]:=jdF (by omega);subst hl;refine wpList_plain eg fun K hK=>?_
  have hr:=jeJ (P:=Tryz.prog) (w:=w) base 30 o.type 5 i0 1 Tryz.underlying30 hi v l0.length (aF .u8 l0) aA;unfold Oper.wp execOp;simp only[ho,resolve,invoke,builtin,Sem.run_bind,Sem.run_pure,Result.andThen_ok,jes,jdQ,jed,hs,hx,hr,jdI];refine hK _ _ (h v w ?_ ⟨rfl,rfl,rfl,jdh _,fun _ _ _=>rfl⟩);rw[jdB];exact aA
 | some ad =>
  refine jdU (w:=w) eg s x 30 ho base 5 i0 (.int .u8 0) 1 1 Tryz.underlying30 hi cm hz1' bn rfl (by decide) v l0.length (aF .u8 l0) hs aA ad l.length cap (aF .u8 l) hx (by rw[ap];omega) ?_ (fR _ _) (by unfold maxLen;omega) (by omega) aI ?_
  ·intro j u hu
   have hj:j<l.length:=by
    have:=(List.getElem?_eq_some_iff.1 hu).1;rwa[ap]at this
   obtain⟨b,off,h5,_,h6⟩:=h4 (by omega);cases h5
   rw[pI];exact h6 j u hu
  ·intro v' w' o1 g1 _ _
   refine h v' w' ?_ g1;rw[cd,jdj];exact o1
def Gs(W:World)(g:Nat)(v:Value)(bs:List Nat):Prop:=W.heap[g]?=some (.cells #[v] 30 (0,0))/\aD W (g+1) v bs
theorem Gs.lt{W:World}{g:Nat}{v:Value}{bs:List Nat}(h:Gs W g v bs):g<W.heap.size:=(Array.getElem?_eq_some_iff.1 h.1).1
theorem Gs.kept{W W':World}{g:Nat}{v:Value}{bs:List Nat}(h:Gs W g v bs)(hb:Below W.heap.size W W'):Gs W' g v bs:=⟨(hb.block g h.lt).trans h.1,h.2.kept hb⟩
def WX(w:World)(g:Nat)(v:Value)(bs:List Nat)(e:Ending)(w':World):Prop :=
 e=.returned (.tuple #[])/\(∃ v',Gs w' g v' bs)/\Below g w w'/\∀ k,k<w.heap.size->k≠g->v.ownBlock≠some k->w'.heap[k]?=w.heap[k]?
def jt(w:World)(g:Nat)(bs:List Nat)(e:Ending)(w':World):Prop:=e=.returned (.tuple #[])/\(∃ v',Gs w' g v' bs)/\Below g w w'
theorem eW{w:World}{g:Nat}{v vp:Value}{bs ps:List Nat}(h:Gs w g v bs)(hp:Sv w vp (aF .u8 ps))(hl:bs.length+ps.length<=1000000) :
  Calls Tryz.prog 168 #[vp,.pointer (some ⟨g,0,none⟩)] w (WX w g v (bs++ps)):=by
 have aC:=h.lt;have HG:=ae h;have HP:=ae hp;have hc:w.cell? ⟨g,0,none⟩=some v:=by rw[ay h.1];rfl
 have hfz:w.frozen? ⟨g,0,none⟩=false:=by simp[World.frozen?,h.1]
 clear h hp;go_enter Tryz.func168,Tryz.ntmps168
 go_wp2_with (first | (at_builtin;refine sY rfl _ _ rfl (g+1) _ _ bs ps rfl HG.o.2 rfl HP.o ?c1 ?c2 ?_))
 case c1=>omega
 case c2=>omega
 intro v' w1 o1 g1
 have fQ:some g≠v.ownBlock:=fun e=>by
  have:=(HG.o.2.lt g e.symm).1;omega
 have hh:w1.heap[g]?=some (.cells #[v] 30 (0,0)):=(g1.block g aC fQ).trans HG.o.1;have ly:w1.cell? ⟨g,0,none⟩=some v:=by rw[ay hh];rfl
 have hfz1:w1.frozen? ⟨g,0,none⟩=false:=by simp[World.frozen?,hh]
 obtain⟨a1,c1,rfl⟩:=o1.len;have fC:=ae o1;have tw:=ae g1;have HH:=ae hh;clear o1 g1 hh hc hfz;go_wp2_with fail;go_end0
 have Ky:=cO HH.o 0 (.slice a1 (bs++ps).length c1);rw[← jdj];refine⟨rfl,⟨_,Ky,?_⟩,?_,?_⟩
 ·have:=Fr.own (p:=g) ((Fr.refl g w1.heap.size w1).set 0 (.slice a1 (bs++ps).length c1)) fC.o (by omega)
  exact this
 ·exact((jdg g w).grown tw.o (by omega) (fun k hk=>by have:=(HG.o.2.lt k hk).1;omega)).setCell (jdh _) _
 ·intro k hk hkg hkv
  rw[Below.heap_setCell _ _ _ _ hkg];exact tw.o.block k hk (fun e=>hkv e.symm)
theorem SY{w:World}{p q:Value}{bs:List Nat}
  (H:∀ W,Gs W w.heap.size (.slice none 0 0) []->Below w.heap.size w W->Calls Tryz.prog 124 #[.func (.func 168) #[] #[.pointer (some ⟨w.heap.size,0,none⟩)],p,q] W (jt W w.heap.size bs)) :
  Calls Tryz.prog 123 #[.func (.func 124) #[] #[p,q]] w (dw w bs):=by
 have HH:=ae H;clear H;go_enter Tryz.func123,Tryz.ntmps123
 go_wp2_with fail;refine(HH.o _ ?g1 ?g2).mono ?_
 case g1=>exact⟨jdH _ _,aD.nil _ _⟩
 case g2=>exact ak _ _
 rintro e w1 ⟨rfl,⟨v1,eS⟩,aH⟩;have ly:w1.cell? ⟨w.heap.size,0,none⟩=some v1:=by rw[ay eS.1];rfl
 have tw:=ae eS;have aR:=ae ((ak w (.cells #[.slice none 0 0] 30)).trans aH);clear eS aH;go_wp2_with fail;go_ret
 exact⟨⟨_,rfl,tw.o.2.low (by omega)⟩,aR.o⟩
theorem SZ{w:World}{p:Value}{bs:List Nat}
  (H:∀ W,Gs W w.heap.size (.slice none 0 0) []->Below w.heap.size w W->Calls Tryz.prog 205 #[.func (.func 168) #[] #[.pointer (some ⟨w.heap.size,0,none⟩)],p] W (jt W w.heap.size bs)) :
  Calls Tryz.prog 123 #[.func (.func 205) #[] #[p]] w (dw w bs):=by
 have HH:=ae H;clear H;go_enter Tryz.func123,Tryz.ntmps123
 go_wp2_with fail;refine(HH.o _ ?g1 ?g2).mono ?_
 case g1=>exact⟨jdH _ _,aD.nil _ _⟩
 case g2=>exact ak _ _
 rintro e w1 ⟨rfl,⟨v1,eS⟩,aH⟩;have ly:w1.cell? ⟨w.heap.size,0,none⟩=some v1:=by rw[ay eS.1];rfl
 have tw:=ae eS;have aR:=ae ((ak w (.cells #[.slice none 0 0] 30)).trans aH);clear eS aH;go_wp2_with fail;go_ret
 exact⟨⟨_,rfl,tw.o.2.low (by omega)⟩,aR.o⟩
theorem Ta{w:World}{p q:Value}{bs:List Nat}
  (H:∀ W,Gs W w.heap.size (.slice none 0 0) []->Below w.heap.size w W->Calls Tryz.prog 210 #[.func (.func 168) #[] #[.pointer (some ⟨w.heap.size,0,none⟩)],p,q] W (jt W w.heap.size bs)) :
  Calls Tryz.prog 123 #[.func (.func 210) #[] #[p,q]] w (dw w bs):=by
 have HH:=ae H;clear H;go_enter Tryz.func123,Tryz.ntmps123
 go_wp2_with fail;refine(HH.o _ ?g1 ?g2).mono ?_
 case g1=>exact⟨jdH _ _,aD.nil _ _⟩
 case g2=>exact ak _ _
 rintro e w1 ⟨rfl,⟨v1,eS⟩,aH⟩;have ly:w1.cell? ⟨w.heap.size,0,none⟩=some v1:=by rw[ay eS.1];rfl
 have tw:=ae eS;have aR:=ae ((ak w (.cells #[.slice none 0 0] 30)).trans aH);clear eS aH;go_wp2_with fail;go_ret
 exact⟨⟨_,rfl,tw.o.2.low (by omega)⟩,aR.o⟩
end Go.Proofs.YtpljdjmpamjkhaaGreatDoor
