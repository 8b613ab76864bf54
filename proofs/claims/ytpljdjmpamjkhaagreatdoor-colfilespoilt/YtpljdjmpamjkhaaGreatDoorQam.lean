import Derived.Test.YtpljdjmpamjkhaaGreatDoorQal
set_option linter.unusedVariables false
set_option linter.unusedSimpArgs false
set_option maxRecDepth 100000
set_option maxHeartbeats 4000000
namespace Go.Proofs.YtpljdjmpamjkhaaGreatDoor
open Go.RowKit Go.Lib
theorem pf{w:World}{va vb:Value}{a b:List Nat}(ha:Sv w va (aF .u8 a))(hb:Sv w vb (aF .u8 b))(h8:Bs a)(h9:Bs b) :
  Calls Tryz.prog 92 #[va,vb] w fun e w'=>e=.returned (.bool (decide (a=b)))/\w'=w:=by
 have Zc:=ha.conv h8;have WF:=hb.conv h9;have HE:=ae (Rz h8 h9);clear ha hb;unfold txt at Zc WF;generalize a.map Nat.toUInt8=x at *;generalize b.map Nat.toUInt8=y at *;go_enter Tryz.func92,Tryz.ntmps92
 go_wp2_with fail;go_ret
 refine⟨?_,rfl⟩
 have e:(x==y)=decide (a=b):=by
  by_cases h:a=b
  ·rw[jeB h,HE.o.2 h]
   simp
  ·rw[jeu h]
   simp
   exact fun e=>h (HE.o.1 e)
 rw[← e];rfl
theorem Pn(k:IntKind)(c:Nat)(t:List Nat):aF k (c::t)=.int k (c:Int)::aF k t:=rfl
theorem Sv.uncons{W:World}{v:Value}{c:Nat}{t:List Nat}(h:Sv W v (aF .u8 (c::t))) :
  ∃ g off cap,v=.slice (some ⟨g,off,none⟩) (t.length+1) cap/\t.length+1<=cap/\cap<=maxLen/\g<W.heap.size/\W.cell? ⟨g,off,none⟩=some (.int .u8 (c:Int)) /\
   (∀ j (h:j<t.length),W.cell? ⟨g,off+1+j,none⟩=some (.int .u8 (t[j]:Int))) /\
   ∃ A,(if cap=1 then (some ⟨g,off,none⟩:Option Addr) else some ⟨g,off+1,none⟩)=A/\Sv W (.slice A t.length (cap-1)) (aF .u8 t):=by
 have h0:=h;obtain⟨a,cap,rfl,h1,h2,h3,h4⟩:=h;rw[ap,jer]at *;obtain⟨g,off,rfl,h5,h6⟩:=h4 (by omega);refine⟨g,off,cap,rfl,h1,h2,h5,by simpa using h6 0 _ rfl,fun j hj=>?_,?_⟩
 ·have:=h6 (j+1) _ (bU (k:=.u8) (l:=c::t) (j:=j+1) (by simpa using hj))
  rw[show off+1+j=off+(j+1) by omega,this];simp
 ·obtain⟨A,hA,hSA⟩:=BN h0 (k:=1) (by rw[ap];simp)
  refine⟨A,hA,?_⟩;rw[Pn]at hSA;simpa using hSA
theorem ES{w:World}{vb vl:Value}{c:Nat}{t:List Nat}{l:List Int}(hb:Sv w vb (aF .u8 (c::t)))(h8:Bs (c::t))(hc:c<=4)(hs:Sv w vl (aL l))(hl:l.length<=256)(hi:Is l) :
  Calls Tryz.prog 309 #[vb,vl] w fun e w'=>e=.returned (.bool (decide (iv c l=t)))/\Below w.heap.size w w':=by
 have HEn:=ae (Jd hs hi c (by omega));have Qw:jgf (Bs t):=fun x hx=>h8 x (by simp[hx])
 have yp:=ae (eI c hi hl).2;have oH:c<=4/\l.length<=256:=⟨hc,hl⟩;have HEM:jgf (En c l=iv c l):=jei oH;rw[jeB oH]at HEn;obtain⟨g,off,cap,rfl,h1,h2,h3,h4,_,A,hA,hSA⟩:=hb.uncons;have lN:=ae hSA;have bC:cap<=9223372036854775807:=by unfold maxLen at h2;omega
 clear hb hs hi hSA h8 oH h2;go_enter Tryz.func309,Tryz.ntmps309
 go_wp2_with fail;refine HEn.o.mono ?_;rintro e w1 ⟨⟨v1,rfl,ei⟩,aH⟩;rw[HEM.o]at ei;have eO:=ae ei;have aP:=ae aH;clear ei aH;go_wp2_with fail;refine(pf eO.o.sv (lN.o.kept aP.o) yp.o Qw.o).mono ?_;rintro e w2 ⟨rfl,rfl⟩;go_wp2_with fail;go_ret
 exact⟨rfl,aP.o⟩
theorem TV{c n:Nat}{t:List Nat}{l:List Int}(hc:c<=4)(hn:n<=256)(h:aC (rdC c n) (fin c t) t=.ok (l,[])):bw (c::t) (n:Int)=(l,0):=by
 rw[Af]at h;unfold bw;rw[jei (by omega)];simp only;rw[jeh (by omega),jeQ];cases hr:nh c n t with
 | ok m=>rw[hr]at h;simp at h;rw[h]
 | error e=>rw[hr]at h;simp at h
theorem Po{c n e:Nat}{t:List Nat}(hc:c<=4)(hn:n<=256)(h:aC (rdC c n) (fin c t) t=.error e):bw (c::t) (n:Int)=([],e):=by
 rw[Af]at h;unfold bw;rw[jei (by omega)];simp only;rw[jeh (by omega),jeQ];cases hr:nh c n t with
 | ok m=>rw[hr]at h;simp at h
 | error e=>rw[hr]at h;simp at h;rw[h]
theorem ET(w:World)(o:Obj):(w.alloc o).heap[w.heap.size]?=some o:=by
 unfold World.alloc;simp only[Array.getElem?_push_size]
theorem cF(w:World)(o:Obj):Below w.heap.size w (w.alloc o):=(jej _ _).alloc (jek _) _
def kM(r:List Int×Nat)(w:World)(e:Ending)(w':World):Prop:=(∃ v,e=.returned (.tuple #[v,.int .i64 (r.2:Int)])/\bF w' w.heap.size v r.1)/\Below w.heap.size w w'
theorem TW{w:World}{vb:Value}(n:Int)(hn:¬ (0<=n/\n<=256)):Calls Tryz.prog 296 #[vb,.int .i64 n] w (kM ([],1) w):=by
 by_cases h0:n<0
 ·clear hn
  go_enter Tryz.func296,Tryz.ntmps296
  go_wp2_with fail;go_ret2
  exact⟨⟨_,rfl,bF.nil _ _⟩,jej _ _⟩
 ·have h1:n > 256:=by omega
  clear hn;go_enter Tryz.func296,Tryz.ntmps296
  go_wp2_with fail;go_ret2
  exact⟨⟨_,rfl,bF.nil _ _⟩,jej _ _⟩
theorem Pp{w:World}{vb:Value}(hb:Sv w vb [])(n:Int)(hn:0<=n/\n<=256):Calls Tryz.prog 296 #[vb,.int .i64 n] w (kM ([],30) w):=by
 obtain⟨a,cap,rfl,_⟩:=hb;have h0:¬ n<0:=by omega
 have h1:¬ n > 256:=by omega
 clear hn;go_enter Tryz.func296,Tryz.ntmps296
 go_wp2_with fail;go_ret2
 exact⟨⟨_,rfl,bF.nil _ _⟩,jej _ _⟩
theorem JO{w:World}{vb:Value}{c:Nat}{t:List Nat}(hb:Sv w vb (aF .u8 (c::t)))(h8:Bs (c::t))(hc:4<c)(n:Int)(hn:0<=n/\n<=256):Calls Tryz.prog 296 #[vb,.int .i64 n] w (kM ([],50) w):=by
 obtain⟨g,off,cap,rfl,h1,h2,h3,h4,_⟩:=hb.uncons;have h5:¬ n<0:=by omega
 have h6:¬ n > 256:=by omega
 have h7:(c:Int)>=5:=by omega
 have h9:=h8 c (by simp);have bC:cap<=9223372036854775807:=by unfold maxLen at h2;omega
 have bR:(((t.length+1:Nat):Int)==0)=false:=jev.2 (by omega);clear hn hb h8 h2;go_enter Tryz.func296,Tryz.ntmps296
 go_wp2_with fail;go_ret2
 exact⟨⟨_,rfl,bF.nil _ _⟩,jej _ _⟩
theorem Pq{w:World}{vb:Value}{c:Nat}{t:List Nat}(hb:Sv w vb (aF .u8 (c::t)))(h8:Bs (c::t))(hc:c<=4)(n:Nat)(hn:n<=256):Calls Tryz.prog 296 #[vb,.int .i64 (n:Int)] w (kM (bw (c::t) (n:Int)) w):=by
 have Zf:=ae hb;have H8:=ae h8;obtain⟨g,off,cap,rfl,h1,h2,h3,h4,h4b,A,hA,hSA⟩:=hb.uncons;have lN:=ae hSA;have h5:¬ (n:Int)<0:=by omega
 have h6:¬ (n:Int) > 256:=by omega
 have h7:¬ (c:Int)>=5:=by omega
 have bC:cap<=9223372036854775807:=by unfold maxLen at h2;omega
 have bR:(((t.length+1:Nat):Int)==0)=false:=jev.2 (by omega)
 have cP:jgf (StC 333 (w.alloc (.cells #[.slice A t.length (cap-1),.int .i64 0] 333)) w.heap.size t 0):=ae (by
  have hh:(w.alloc (.cells #[.slice A t.length (cap-1),.int .i64 0] 333)).heap[w.heap.size]?=some (.cells #[.slice A t.length (cap-1),.int .i64 0] 333 (0,0)):=by
   exact ET _ _
  have zj:Bs t:=fun x hx=>h8 x (by simp[hx])
  by_cases aW:cap=1
  ·rw[jei aW]at hA
   subst hA;exact⟨g,off,cap-1,hh,h3,by omega,by omega,zj,fun j hj=>by omega⟩
  ·rw[jeh aW]at hA
   subst hA;exact⟨g,off+1,cap-1,hh,h3,by omega,by omega,zj,fun j hj=>((cF w _).cell (p:=⟨g,off+1+j,none⟩) h3).trans (h4b j hj)⟩)
 have HG:jgf (eo (aC (rdC c n) (fin c t) t) (aC (rdC c n) (fin c t)) t 0):=⟨fun _=>rfl,fun h=>absurd rfl h⟩;have Mz:=ae (fun l h=>TV (c:=c) (n:=n) (t:=t) (l:=l) hc hn h);have HER:=ae (fun e h=>Po (c:=c) (n:=n) (t:=t) (e:=e) hc hn h);have sD:=ae (Tm (fun r h=>SZ c t [] h) cP.o hn hc HG.o);generalize aC (rdC c n) (fin c t) t=D at *;generalize bw (c::t) (n:Int)=R at *;clear hb h8 h2 hSA h4b HG;go_enter Tryz.func296,Tryz.ntmps296
 go_wp2_with fail;refine sD.o.mono ?_;rintro e w2 ⟨l,b2,f2,⟨v2,rfl,ft⟩,Ra,AO,dR,gY,dG⟩;have dz:=ae ft;have sK:=ae Ra;have gj:=ae dR;have Ld:=ae gY;have aE:Below w.heap.size w w2:=(cF w _).trans (dG.below (jek _) (by rw[jel];omega));have aN:=ae aE;have bv:=aE.size;have jT:=dR.lt;clear ft Ra dR gY dG aE;go_wp2_with fail;refine(LY gj.o).mono ?_;rintro e w3 ⟨rfl,lB,iJ⟩;have aS:Below w.heap.size w w3:=aN.o.trans (iJ.below (jek _) bv);have dd:=ae (dz.o.fr iJ (by rw[jel];omega));have bN:=ae aS;have iN:=aS.size
 have YY:jgf ((orf f2 (if b2.length=0 then 0 else 32)=0->D=if iv c l=t then .ok (l,[]) else .error 40)/\(orf f2 (if b2.length=0 then 0 else 32)≠0->D=.error (orf f2 (if b2.length=0 then 0 else 32)))):=ae (by
  obtain⟨q1,q2⟩:=Ld.o;by_cases hf:f2=0
  ·subst hf
   rw[fh];have q3:=q1 rfl;unfold fin at q3;by_cases fK:b2.length=0
   ·rw[jei fK]at q3 ⊢
    exact⟨fun _=>q3,fun e=>absurd rfl e⟩
   ·rw[jeh fK]at q3 ⊢
    exact⟨fun e=>by omega,fun _=>q3⟩
  ·rw[eH hf]
   exact⟨fun e=>absurd e hf,q2⟩)
 generalize orf f2 (if b2.length=0 then 0 else 32)=f3 at *;have nF:=ae lB;obtain⟨G,O,C,k0,k1,k2,k3,k4,k5,k6,k7,k8,k9⟩:=lB.cells;clear lB iJ aS k0 k2 k3 k4 k5 k6 k7 k8 k9;have HLO:=ae (dd.o.low (show w.heap.size<=(w.alloc (.cells #[.slice A t.length (cap-1),.int .i64 0] 333)).heap.size by rw[jel];omega));by_cases wl:((f3:Int)==0)=true
 ·have hf0':f3=0:=by simpa using wl
  have hD:=YY.o.1 hf0';subst hf0';have Lq:=ae (ES (Zf.o.kept bN.o) H8.o hc dd.o.sv (by omega) sK.o);by_cases hw:iv c l=t
  ·rw[jei hw]at hD
   rw[jeB hw]at Lq;have HR:=ae (Mz.o l hD);clear hD hw wl;go_wp2_with fail;refine Lq.o.mono ?_;rintro e w4 ⟨rfl,bG⟩;obtain⟨G',O',C',j0,j1,j2,j3,j4,j5,j6,j7,j8,j9⟩:=(nF.o.kept bG nF.o.lt).cells;have cp:=ae (bN.o.trans (bG.mono iN));have eY:=ae (HLO.o.kept bG);clear bG j0 j2 j3 j4 j5 j6 j7 j8 j9 k1;go_wp2_with fail;go_ret2
   rw[HR.o];exact⟨⟨_,rfl,eY.o⟩,cp.o⟩
  ·rw[jeh hw]at hD
   rw[jeu hw]at Lq;have HR:=ae (HER.o 40 hD);clear hD hw wl;go_wp2_with fail;refine Lq.o.mono ?_;rintro e w4 ⟨rfl,bG⟩;have vM:=ae (nF.o.kept bG nF.o.lt);have cp:=ae (bN.o.trans (bG.mono iN));have KR:=cp.o.size;clear bG k1;go_wp2_with fail;refine(dv vM.o 40).mono ?_;rintro e w5 ⟨rfl,nG,iS⟩;rw[fh]at nG;obtain⟨G',O',C',j0,j1,j2,j3,j4,j5,j6,j7,j8,j9⟩:=nG.cells;have aQ:=ae (cp.o.trans (iS.below (jek _) KR));clear nG iS j0 j2 j3 j4 j5 j6 j7 j8 j9;go_wp2_with fail;go_quiet (fail)
   go_wp2_with fail;go_ret2
   rw[HR.o];exact⟨⟨_,rfl,bF.nil _ _⟩,ar aQ.o _⟩
 ·have hff:((f3:Int)==0)=false:=by simpa using wl
  have Zb:((f3:Int) != 0)=true:=by simpa using wl
  have hD:=YY.o.2 (fun e=>wl (by simp[e]));have HR:=ae (HER.o f3 hD);clear hD wl;go_wp2_with fail;go_quiet (fail)
  go_wp2_with fail;go_ret2
  rw[HR.o];exact⟨⟨_,rfl,bF.nil _ _⟩,ar bN.o _⟩
theorem EU{w:World}{vb:Value}{b:List Nat}(hb:Sv w vb (aF .u8 b))(h8:Bs b)(n:Int):Calls Tryz.prog 296 #[vb,.int .i64 n] w (kM (bw b n) w):=by
 by_cases hn:0<=n/\n<=256
 ·cases b with
  | nil =>
   have e:bw [] n=([],30):=by unfold bw;rw[jei hn]
   rw[e];exact Pp hb n hn
  | cons c t =>
   by_cases hc:c<=4
   ·obtain⟨m,rfl⟩:=jfx hn.1
    exact Pq hb h8 hc m (by omega)
   ·have e:bw (c::t) n=([],50):=by unfold bw;rw[jei hn];simp only;rw[jei (by omega)]
    rw[e];exact JO hb h8 (by omega) n hn
 ·have e:bw b n=([],1):=by unfold bw;rw[jeh hn]
  rw[e];exact TW n hn
def SvK(W:World)(v:Value)(l:List Nat):Prop :=
 ∃ a cap,v=.slice a l.length cap/\l.length<=cap/\cap<=maxLen/\(a=none->cap=0) /\
  (0<l.length->∃ b off,a=some ⟨b,off,none⟩/\b<W.heap.size/\∀ j (h:j<l.length),W.cell? ⟨b,off+j,none⟩=some (.int .u8 (l[j]:Int)))
theorem SvK.kept{W W':World}{v:Value}{l:List Nat}(h:SvK W v l)(hb:Below W.heap.size W W'):SvK W' v l:=by
 obtain⟨a,cap,rfl,h1,h2,h3,h4⟩:=h;refine⟨a,cap,rfl,h1,h2,h3,fun h0=>?_⟩;obtain⟨b,off,rfl,h5,h6⟩:=h4 h0;exact⟨b,off,rfl,jeH h5 hb.size,fun j hj=>(hb.cell (p:=⟨b,off+j,none⟩) h5).trans (h6 j hj)⟩
theorem SvK.nil(W:World):SvK W (.slice none 0 0) []:=⟨none,0,rfl,jek _,by unfold maxLen;omega,fun _=>rfl,fun h=>by simp at h⟩
theorem SvK.of_own{W:World}{B e n:Nat}{v:Value}{l:List Nat}(h:W.ownsRow B e 1 v n (aF .u8 l)):SvK W v l:=by
 have hl:l.length=n:=by have:=h.1;simpa [aF]using this
 obtain⟨_,h1⟩:=id h;rcases h1 with ⟨rfl,rfl⟩ | ⟨g,cap,cur,rfl,hb,hg,h4,h5,_⟩
 ·exact⟨none,0,by rw[hl],by omega,by unfold maxLen;omega,fun _=>rfl,fun h0=>by omega⟩
 ·refine⟨_,cap,by rw[hl],by omega,h5,fun h=>(by cases h),fun _=>⟨g,0,rfl,(Array.getElem?_eq_some_iff.1 hg).1,fun j hj=>?_⟩⟩
  have:=h.cells (g:=g) rfl j _ (bU hj);rw[mC]at this;rwa[jeO]
theorem SvK.form{W:World}{v:Value}{l:List Nat}(h:SvK W v l):∃ a cap,v=.slice a l.length cap/\l.length<=cap/\cap<=maxLen:=by
 obtain⟨a,cap,h0,h1,h2,_⟩:=h;exact⟨a,cap,h0,h1,h2⟩
theorem SvK.take{W:World}{a:Option Addr}{n cap:Nat}{l:List Nat}(h:SvK W (.slice a n cap) l){k:Nat}(hk:k<=l.length):SvK W (.slice a k cap) (l.take k):=by
 obtain⟨a',c,h1,h2,h3,h4,h5⟩:=h;simp only[Value.slice.injEq]at h1;obtain⟨rfl,_,rfl⟩:=h1;have hl:(l.take k).length=k:=by rw[jeq];omega
 refine⟨_,cap,by rw[hl],by omega,h3,h4,fun h0=>?_⟩;obtain⟨b',off',h6,h7,h8⟩:=h5 (by omega);refine⟨b',off',h6,h7,fun j hj=>?_⟩;rw[h8 j (by omega),List.getElem_take]
theorem SvK.conv{W:World}{v:Value}{l:List Nat}(h:SvK W v l)(h8:Bs l):(convert 30 9 v).run Tryz.prog W=.ok (txt l) W:=by
 obtain⟨a,cap,rfl,h1,h2,_,h3⟩:=h;rcases jfa l.length with h0 | hp
 ·obtain rfl:l=[]:=jeI h0
  first
   | exact run_convert_bytes_back_empty W 30 9 5 a cap Tryz.underlying30 Tryz.underlying5 Tryz.underlying9
   | (cases a<;>rfl)
   | (cases a<;>kernel_rfl)
 ·obtain⟨b,off,rfl,h4,h5⟩:=h3 hp
  have:=run_convert_bytes_back W 30 9 5 ⟨b,off,none⟩ cap (l.map Nat.toUInt8) Tryz.underlying30 Tryz.underlying5 Tryz.underlying9 (fun j hj=>by
   have hj':j<l.length:=by simpa using hj
   rw[lR,h5 j hj'];have h9:=h8 l[j] (jeo hj');congr 2
   simp[jfd h9])
  rw[jen]at this;exact this
theorem TY{x y:Nat}(hx:x<256)(hy:y<256)(h:x.toUInt8=y.toUInt8):x=y:=by
 have:=jep UInt8.toNat h;simpa [jfd hx,jfd hy]using this
theorem xM:∀{a b:List Nat},Bs a->Bs b->a.map Nat.toUInt8=b.map Nat.toUInt8->a=b
 | [],[],_,_,_=>rfl
 | [],_::_,_,_,h=>by simp at h
 | _::_,[],_,_,h=>by simp at h
 | x::a,y::b,ha,hb,h=>by
  simp only[jeT,List.cons.injEq]at h;rw[TY (ha x (by simp)) (hb y (by simp)) h.1,xM (fun z hz=>ha z (by simp[hz])) (fun z hz=>hb z (by simp[hz])) h.2]
theorem aD.svK{W:World}{B:Nat}{v:Value}{bs:List Nat}(h:aD W B v bs):SvK W v bs:=SvK.of_own h
theorem aD.form{W:World}{B:Nat}{v:Value}{bs:List Nat}(h:aD W B v bs)(hp:0<bs.length):∃ g cap,v=.slice (some ⟨g,0,none⟩) bs.length cap/\B<=g/\g<W.heap.size:=by
 obtain⟨hl,h1⟩:=id h;rcases h1 with ⟨rfl,h0⟩ | ⟨g,cap,cur,rfl,hb,hg,h4⟩
 ·omega
 ·exact⟨g,cap,rfl,hb,(Array.getElem?_eq_some_iff.1 hg).1⟩
theorem aD.at{W:World}{B g n cap:Nat}{bs:List Nat}(h:aD W B (.slice (some ⟨g,0,none⟩) n cap) bs){j:Nat}(hj:j<bs.length):W.cell? ⟨g,j,none⟩=some (.int .u8 (bs[j]:Int))/\W.frozen? ⟨g,j,none⟩=false:=by
 have hn:n=bs.length:=by
  obtain⟨a,cap,h1,_⟩:=h.svK;simp only[Value.slice.injEq]at h1;exact h1.2.1
 subst hn;unfold aD at h;exact⟨(h.cellAt j (by omega)).trans (bU hj),h.frozenAt j⟩
theorem aD.stored{W:World}{B g n cap:Nat}{bs:List Nat}(h:aD W B (.slice (some ⟨g,0,none⟩) n cap) bs)(j c:Nat):aD (W.setCell ⟨g,j,none⟩ (.int .u8 (c:Int))) B (.slice (some ⟨g,0,none⟩) n cap) (bs.set j c):=by
 have hn:n=bs.length:=by
  obtain⟨a,cap,h1,_⟩:=h.svK;simp only[Value.slice.injEq]at h1;exact h1.2.1
 subst hn;unfold aD at *;have:=(h.stored j (.int .u8 (c:Int))).1;rw[ku]at this;rw[jfD];exact this
theorem dC{w:World}{ops:Array Oper}{rest:List Oper}{o:Oper}{a:Act}{Q:Exit->Act->World->Prop}(dY:o.guard=none)(s x:Operand)
  (ho:o.op=.call { callee:=.builtin .append,args:=#[s,x],argTypes:=#[30,30] })
  (base:Nat) (v vx:Value) (l0 l:List Nat) (hs:a.eval s=v) (aA:aD w base v l0) (hx:a.eval x=vx) (eN:SvK w vx l)
  (hbytes:l0.length+l.length<=140737488355328) (aI:base<=w.heap.size)
  (h:∀ v' w',aD w' base v' (l0++l)->Below base w w'->wpList Tryz.prog ops Q rest (a.put o.dst v') w') :
  wpList Tryz.prog ops Q (o::rest) a w:=by
 obtain⟨i0,hi,ch,hz1',bv⟩:=jeD jv;unfold aD at *;obtain⟨ad,cap,rfl,h1,h2,h3,h4⟩:=eN;cases ad with
 | none =>
  have hc:=h3 rfl;subst hc;have hl:l=[]:=jeI (by omega);subst hl;refine wpList_plain dY fun K hK=>?_
  have hr:=jfI (P:=Tryz.prog) (w:=w) base 30 o.type 5 i0 1 Tryz.underlying30 hi v l0.length (aF .u8 l0) aA;unfold Oper.wp execOp;simp only[ho,resolve,invoke,builtin,Sem.run_bind,Sem.run_pure,Result.andThen_ok,jfs,jeT,je8,hs,hx,hr,jeL];refine hK _ _ (h v w ?_ (jej _ _));rw[jeG];exact aA
 | some ad =>
  refine jeY (w:=w) dY s x 30 ho base 5 i0 (.int .u8 0) 1 1 Tryz.underlying30 hi ch hz1' bv rfl (by decide) v l0.length (aF .u8 l0) hs aA ad l.length cap (aF .u8 l) hx (by rw[ap];omega) ?_ (fY _ _) (by unfold maxLen;omega) (by omega) aI ?_
  ·intro j u hu
   have hj:j<l.length:=by
    have:=(List.getElem?_eq_some_iff.1 hu).1;rwa[ap]at this
   obtain⟨b,off,h5,_,h6⟩:=h4 (by omega);cases h5
   rw[lR,h6 j hj];rw[bU hj]at hu;exact hu
  ·intro v' w' o1 g1 _ _
   refine h v' w' ?_ ((jej base w).grown g1 aI (fun k hk=>(aA.lt k hk).1));rw[ct,jem];exact o1
def Tab(W:World):Prop:=0<W.heap.size/\∀ i:Nat,i<16->W.cell? ⟨0,i,none⟩=some (.int .u32 ((eE 4 i:Nat):Int))
theorem Tab.kept{W W':World}(h:Tab W)(hb:Below W.heap.size W W'):Tab W' :=
 ⟨jeH h.1 hb.size,fun i hi=>(hb.cell (p:=⟨0,i,none⟩) h.1).trans (h.2 i hi)⟩
theorem EV{w:World}(ht:Tab w)(s:Nat)(hs:s<4294967296):Calls Tryz.prog 165 #[.int .u32 (s:Int)] w fun e w'=>e=.returned (.int .u32 ((eE 4 s:Nat):Int))/\w'=w:=by
 have hc:=ht.2 (s % 16) (Nat.mod_lt _ (by omega));have vO:=Ph 4 s;have aB:=rK 4 (c:=s % 16) (by omega);have hx:=u32_xor_nat (s / 16) (eE 4 (s % 16)) (by omega) aB;rw[Nat.xor_comm,← vO]at hx;clear vO;obtain⟨r,hr⟩:∃ r,s % 16=r:=⟨_,rfl⟩;obtain⟨q,hq⟩:∃ q,s / 16=q:=⟨_,rfl⟩;have hr16:r<16:=by omega
 have ha:bits .and .u32 (s:Int) 15=(r:Int):=by
  have:=u32_and_nat s 15 hs (by omega);rw[nat_mask4,hr]at this;exact this
 have nw:(s:Int) / 16=(q:Int):=by omega
 rw[hr]at hc hx;rw[hq]at hx;generalize eE 4 r=t at *;generalize eE 4 s=u at *;clear hr hq;go_enter Tryz.func165,Tryz.ntmps165
 go_wp2_with fail;go_ret
 exact⟨rfl,rfl⟩
theorem EW{c:Nat}{l:List Nat}{k:Nat}(h:k<l.length):run c (l.take (k+1))=byt (run c (l.take k)) l[k]:=by
 rw[jeA h,TS]
theorem Bs.get{l:List Nat}(h:Bs l){k:Nat}(hk:k<l.length):l[k]<256:=h _ (jeo hk)
theorem Bs.le4(s:Nat):Bs (le4 s):=tz s
theorem Bs.seal{b:List Nat}(h:Bs b):Bs (bE b):=h.append (Bs.le4 _)
theorem TZ{w:World}{v:Value}{l:List Nat}(ht:Tab w)(hs:SvK w v l)(h8:Bs l)(c:Nat)(hc:c<4294967296) :
  Calls Tryz.prog 118 #[.int .u32 (c:Int),v] w fun e w'=>e=.returned (.int .u32 ((nt c l:Nat):Int))/\w'=w:=by
 obtain⟨a,cap,rfl,h1,h2,_,eX⟩:=hs;have oD:l.length<=9223372036854775807:=by unfold maxLen at h2;omega
 have HC:=ae eX;have H8:=ae h8;have HT:=ae ht
 have WI:bits .xor .u32 IntKind.u32.max (c:Int)=((c ^^^ 4294967295:Nat):Int):=by
  have:=u32_xor_nat 4294967295 c (by omega) hc;rw[Nat.xor_comm]at this;exact this
 have zg:c ^^^ 4294967295<4294967296:=kK hc (by omega);have HE:jgf (nt c l=run (c ^^^ 4294967295) l ^^^ 4294967295):=ae rfl;have HE:=HE;generalize nt c l=R at *;generalize c ^^^ 4294967295=s0 at *;clear eX h8 ht h1 h2;go_enter Tryz.func118,Tryz.ntmps118
 go_wp2_with fail;go_loopw [5,12] (fun st i w'=>w'=w/\∃ k:Nat,k<=l.length/\i=.int .i64 (k:Int)/\st=.int .u32 ((run s0 (l.take k):Nat):Int)) (fun _ i _=>l.length-(intOf i).toNat)
 case atStart=>exact⟨rfl,0,by omega,rfl,rfl⟩
 case round =>
  obtain⟨rfl,k,hk,rfl,rfl⟩:=hrel;by_cases aB:k<l.length
  ·obtain⟨b,off,rfl,hb,bn⟩:=HC.o (by omega)
   have dN:=bn k aB;have hx8:=H8.o.get aB;have eN:run s0 (l.take k)<4294967296:=tw zg (H8.o.take k)
   have HN:jgf (run s0 (l.take (k+1))=eE 4 (eE 4 (run s0 (l.take k) ^^^ l[k]))):=by
    show _=_
    rw[EW aB];exact nY 4 4 _
   clear bn;generalize l[k]=x at *;generalize run s0 (l.take k)=s at *;have WT:=u32_xor_nat s x eN (by omega);have zf:s ^^^ x<4294967296:=kK eN (by omega);generalize s ^^^ x=y at *;have hy1:eE 4 y<4294967296:=rK 4 zf;go_wp2_with fail;refine(EV HT.o y zf).mono ?_;rintro e w1 ⟨rfl,rfl⟩;generalize eE 4 y=y1 at *;go_wp2_with fail;refine(EV HT.o y1 hy1).mono ?_;rintro e w2 ⟨rfl,rfl⟩;generalize eE 4 y1=y2 at *;go_wp2_with fail;go_roundw
   case rel=>exact⟨trivial,k+1,by omega,by go_num,by rw[HN.o]⟩
   case measure=>simp[intOf];omega
  ·obtain rfl:k=l.length:=by omega
   rw[jes];have eN:run s0 l<4294967296:=tw zg H8.o;have WT:=u32_xor_nat 4294967295 (run s0 l) (by omega) eN;rw[Nat.xor_comm,← HE.o]at WT;have hxx':bits .xor .u32 IntKind.u32.max ((run s0 l:Nat):Int)=(R:Int):=WT;clear WT;generalize run s0 l=s at *;go_wp2_with fail;go_ret
   exact⟨rfl,rfl⟩
theorem Yb{w:World}{v:Value}{l:List Nat}(ht:Tab w)(hs:SvK w v l)(h8:Bs l) :
  Calls Tryz.prog 79 #[v] w fun e w'=>e=.returned (.int .u32 ((nt 0 l:Nat):Int))/\w'=w:=by
 have HM:=ae (TZ ht hs h8 0 (by omega));obtain⟨a,cap,rfl,h1,h2⟩:=hs.form;clear hs h8 ht;generalize nt 0 l=R at *;go_enter Tryz.func79,Tryz.ntmps79
 go_wp2_with fail;refine HM.o.mono ?_;rintro e w1 ⟨rfl,rfl⟩;go_wp2_with fail;go_ret
 exact⟨rfl,rfl⟩
theorem EX(x:Nat):IntKind.u8.wrap ((x:Nat):Int)=((x % 256:Nat):Int):=by rw[IntKind.wrap_u8];omega
theorem EY{w:World}{v:Value}{l:List Nat}(ht:Tab w)(hs:SvK w v l)(h8:Bs l)(hl:l.length<=100000000) :
  Calls Tryz.prog 40 #[v] w (dA w (bE l)):=by
 have HO:=ae (Yb ht hs h8);have HS:=ae hs;have HE:jgf (bE l=l++le4 (nt 0 l)):=ae rfl;have hc:=vX (c:=0) (by omega) h8;obtain⟨a,cap,rfl,h1,h2⟩:=hs.form;clear hs h8 ht h1 h2;generalize nt 0 l=c at *;have sN:(c:Int) / 256=((c / 256:Nat):Int):=by omega
 have nw:(c:Int) / 65536=((c / 65536:Nat):Int):=by omega
 have MD:(c:Int) / 16777216=((c / 16777216:Nat):Int):=by omega
 have HD:jgf (le4 c=[c % 256,c / 256 % 256,c / 65536 % 256,c / 16777216 % 256]):=ae rfl;have g0:=EX c;have g1:=EX (c / 256);have g2:=EX (c / 65536);have g3:=EX (c / 16777216);generalize c / 256=c1 at *;generalize c / 65536=c2 at *;generalize c / 16777216=c3 at *;generalize c % 256=d0 at *;generalize c1 % 256=d1 at *;generalize c2 % 256=d2 at *;generalize c3 % 256=d3 at *;obtain⟨i0,hi,ch,hz1',bv⟩:=jeD jv;go_enter Tryz.func40,Tryz.ntmps40
 go_wp2_with fail;refine HO.o.mono ?_;rintro e w1 ⟨rfl,rfl⟩;go_wp2_with (first | (refine wpList_make_own _ rfl _ _ 30 rfl w1.heap.size 5 i0 (.int .u8 0) 1 Tryz.underlying30 hi ch hz1' .i64 .i64 _ (l.length+4) rfl rfl ?m1 ?m2 ?m3 ?m4 ?_))
 case m1=>first | rfl | omega
 case m2=>rw[bv];omega
 case m3=>unfold maxLen;omega
 case m4=>omega
 intro w2 ft gY;have aE:Below w1.heap.size w1 w2:=(jej _ _).grown gY (jek _) (fun k hk=>by cases hk);have ho2':aD w2 w1.heap.size (.slice (some ⟨w1.heap.size,0,none⟩) 0 (l.length+4)) []:=ft;have dz:=ae ho2';have aN:=ae aE;have gj:=ae (HS.o.kept aE);have jG:=aE.size;clear ft gY aE ho2';go_wp2_with (first | (at_builtin;refine dC rfl _ _ rfl w1.heap.size _ _ [] l rfl dz.o rfl gj.o ?c1 ?c2 ?_))
 case c1=>simp;omega
 case c2=>omega
 intro v3 w3 o3 aS;have dd:=ae o3;have bN:=ae (aN.o.trans aS);have hsz3:=aS.size;clear o3 aS;have VG:jgf (aD (w3.alloc (.cells #[.int .u8 (d0:Int),.int .u8 (d1:Int),.int .u8 (d2:Int),.int .u8 (d3:Int)] 5)) w3.heap.size (.slice (some ⟨w3.heap.size,0,none⟩) 4 4) [d0,d1,d2,d3]):=ae (oO w3 [d0,d1,d2,d3] (by unfold maxLen;simp));have eY:=ae (dd.o.kept (cF w3 (.cells #[.int .u8 (d0:Int),.int .u8 (d1:Int),.int .u8 (d2:Int),.int .u8 (d3:Int)] 5)));go_wp2_with (first | (at_builtin;refine dC rfl _ _ rfl w1.heap.size _ _ ([]++l) [d0,d1,d2,d3] rfl ?q1 rfl ?q2 ?c3 ?c4 ?_))
 case q1=>exact eY.o
 case q2=>exact VG.o.svK
 case c3=>simp;omega
 case c4=>rw[jel];omega
 intro v5 w5 o5 bD;try rw[jfi]at o5
 rw[← HD.o,← HE.o]at o5;have df:=ae o5;have aQ:=ae (bN.o.trans (((cF w3 (.cells #[.int .u8 (d0:Int),.int .u8 (d1:Int),.int .u8 (d2:Int),.int .u8 (d3:Int)] 5)).mono (by omega)).trans bD));clear o5 bD;go_wp2_with fail;go_ret
 exact⟨⟨_,rfl,df.o⟩,aQ.o⟩
theorem vY{a b:List Nat}(ha:Bs a)(hb:Bs b):(a.map Nat.toUInt8==b.map Nat.toUInt8)=decide (a=b):=by
 rw[jfN];simp only[beq_iff_eq,je7];exact⟨xM ha hb,fun h=>by rw[h]⟩
theorem JP{w:World}{v u:Value}{a b:List Nat}(ha:SvK w v a)(hb:SvK w u b)(ha8:Bs a)(kR:Bs b) :
  Calls Tryz.prog 92 #[v,u] w fun e w'=>e=.returned (.bool (decide (a=b)))/\w'=w:=by
 have lK:=ha.conv ha8;have ke:=hb.conv kR;have HE:=ae (vY ha8 kR);obtain⟨a1,cap1,rfl,_,_⟩:=ha.form;obtain⟨a2,cap2,rfl,_,_⟩:=hb.form;unfold txt at lK ke;generalize a.map Nat.toUInt8=x at *;generalize b.map Nat.toUInt8=y at *;generalize decide (a=b)=t at *;clear ha hb ha8 kR;go_enter Tryz.func92,Tryz.ntmps92
 go_wp2_with fail;go_ret
 refine⟨?_,rfl⟩;rw[← HE.o];simp
theorem JQ{w:World}{v:Value}{l:List Nat}(hs:SvK w v l)(hl:l.length<=100000000) :
  Calls Tryz.prog 93 #[v] w (dA w l):=by
 have HS:=ae hs;obtain⟨ad,cap,rfl,h1,h2,h3,_⟩:=hs;cases ad with
 | none =>
  have hc:=h3 rfl;subst hc;have qC:l=[]:=jeI (by omega);subst qC;have hq:(binOp .eql 30 (.slice none 0 0) (.slice none 0 0)).run Tryz.prog w=.ok (.bool true) w:=jfQ w 30 5 none 0 0 0 0 Tryz.underlying30;go_enter Tryz.func93,Tryz.ntmps93
  go_wp2_with fail;go_ret
  exact⟨⟨_,rfl,aD.nil _ _⟩,jej _ _⟩
 | some ad =>
  have HN:=ae (qQ w);have gj:=ae (HS.o.kept (cF w (.cells #[] 5)));clear h3;have hq:(binOp .eql 30 (.slice (some ad) l.length cap) (.slice none 0 0)).run Tryz.prog w=.ok (.bool false) w:=jfQ w 30 5 (some ad) l.length cap 0 0 Tryz.underlying30;go_enter Tryz.func93,Tryz.ntmps93
  go_wp2_with (first | (at_builtin;refine dC rfl _ _ rfl w.heap.size _ _ [] l rfl ?q1 rfl ?q2 ?c1 ?c2 ?_))
  case q1=>exact HN.o
  case q2=>exact gj.o
  case c1=>simp;omega
  case c2=>rw[jel];omega
  intro v3 w3 o3 aS;have dd:=ae o3;have bN:=ae ((cF w (.cells #[] 5)).trans aS);clear o3 aS;go_wp2_with fail;go_ret
  exact⟨⟨_,rfl,dd.o⟩,bN.o⟩
def jbx(w:World)(o:Option (List Nat))(e:Ending)(w':World):Prop:=(∃ v,e=.returned (.tuple #[v,.bool o.isSome])/\aD w' w.heap.size v (o.getD []))/\Below w.heap.size w w'
theorem uC{l:List Nat}(h:l.length<4):eC l=none:=by
 unfold eC;rw[jeh (by omega)]
theorem Ua{w:World}{v:Value}{l:List Nat}(ht:Tab w)(hs:SvK w v l)(h8:Bs l)(hl:l.length<=100000000) :
  Calls Tryz.prog 51 #[v] w (jbx w (eC l)):=by
 have HS:=ae hs;obtain⟨a,cap,rfl,h1,h2⟩:=hs.form;have oD:l.length<=9223372036854775807:=by omega
 by_cases h4:l.length<4
 ·rw[uC h4]
  have aB:(l.length:Int)-4<0:=by omega
  clear hs h8 ht h1 h2;go_enter Tryz.func51,Tryz.ntmps51
  go_wp2_with fail;go_ret2
  exact⟨⟨_,rfl,aD.nil _ _⟩,jej _ _⟩
 ·obtain⟨n,hn⟩:∃ n,l.length=n+4:=⟨l.length-4,by omega⟩
  have qI:¬ (n:Int)<0:=by omega
  have GF:n<=l.length:=by omega
  have hA:=hs.take GF;have HA:=ae hA;have H8:=ae h8;have H8t:=ae (h8.take n);have HSE:=ae (EY ht hA (h8.take n) (by rw[jeq];omega))
  have iT:jgf (eC l=if bE (l.take n)=l then some (l.take n) else none):=by
   show _=_
   unfold eC;rw[hn,jgc];simp
  have pt:(l.length:Int)-4=(n:Int):=by omega
  have bR:(l.take n).length<=100000000:=by rw[jeq];omega
  have jaq:n<=cap:=by omega
  rw[hn]at HS;rw[hn];clear hs h8 ht h1 h2 hA oD;have H8s:=ae H8t.o.seal;generalize eC l=R at *;generalize l.take n=m at *;go_enter Tryz.func51,Tryz.ntmps51
  go_wp2_with fail;refine HSE.o.mono ?_;rintro e w1 ⟨⟨v1,rfl,o1⟩,aH⟩;have HE1:=ae (JP (HS.o.kept aH) o1.svK H8.o H8s.o);have VK:=ae (HA.o.kept aH);have aP:=ae aH;clear o1 aH;by_cases oH:bE m=l
  ·rw[oH,jeB rfl]at HE1
   have HR:jgf (R=some m):=by show _=_;rw[iT.o,jei oH]
   clear oH iT H8s;go_wp2_with fail;refine HE1.o.mono ?_;rintro e w2 ⟨rfl,rfl⟩;go_wp2_with fail;refine(JQ VK.o bR).mono ?_;rintro e w3 ⟨⟨v3,rfl,o3⟩,aS⟩;have dd:=ae o3;have bN:=ae aS;clear o3 aS;go_wp2_with fail;go_ret2
   rw[HR.o];refine⟨⟨_,rfl,?_⟩,ai aP.o bN.o⟩;exact dd.o.low aP.o.size
  ·rw[jeu (fun h=>oH h.symm)]at HE1
   have HR:jgf (R=none):=by show _=_;rw[iT.o,jeh oH]
   clear oH iT H8s;go_wp2_with fail;refine HE1.o.mono ?_;rintro e w2 ⟨rfl,rfl⟩;go_wp2_with fail;go_ret2
   rw[HR.o];exact⟨⟨_,rfl,aD.nil _ _⟩,aP.o⟩
theorem tB{w:World}{ops:Array Oper}{rest:List Oper}{o:Oper}{a:Act}{Q:Exit->Act->World->Prop}(dY:o.guard=none)(s x:Operand)
  (ho:o.op=.call { callee:=.builtin .append,args:=#[s,x],argTypes:=#[30,30] })
  (base:Nat) (v vx:Value) (l0 l:List Nat) (hs:a.eval s=v) (aA:aD w base v l0) (hx:a.eval x=vx) (eN:Sv w vx (aF .u8 l))
  (hbytes:l0.length+l.length<=140737488355328) (aI:base<=w.heap.size)
  (h:∀ v' w',aD w' base v' (l0++l)->w.grownBy w' v.ownBlock->wpList Tryz.prog ops Q rest (a.put o.dst v') w') :
  wpList Tryz.prog ops Q (o::rest) a w:=by
 obtain⟨i0,hi,ch,hz1',bv⟩:=jeD jv;unfold aD at *;obtain⟨ad,cap,rfl,h1,h2,h3,h4⟩:=eN;rw[ap]at *;cases ad with
 | none =>
  have hc:=h3 rfl;subst hc;have hl:l=[]:=jeI (by omega);subst hl;refine wpList_plain dY fun K hK=>?_
  have hr:=jfI (P:=Tryz.prog) (w:=w) base 30 o.type 5 i0 1 Tryz.underlying30 hi v l0.length (aF .u8 l0) aA;unfold Oper.wp execOp;simp only[ho,resolve,invoke,builtin,Sem.run_bind,Sem.run_pure,Result.andThen_ok,jfs,jeT,je8,hs,hx,hr,jeL];refine hK _ _ (h v w ?_ ⟨rfl,rfl,rfl,jek _,fun _ _ _=>rfl⟩);rw[jeG];exact aA
 | some ad =>
  refine jeY (w:=w) dY s x 30 ho base 5 i0 (.int .u8 0) 1 1 Tryz.underlying30 hi ch hz1' bv rfl (by decide) v l0.length (aF .u8 l0) hs aA ad l.length cap (aF .u8 l) hx (by rw[ap];omega) ?_ (fY _ _) (by unfold maxLen;omega) (by omega) aI ?_
  ·intro j u hu
   have hj:j<l.length:=by
    have:=(List.getElem?_eq_some_iff.1 hu).1;rwa[ap]at this
   obtain⟨b,off,h5,_,h6⟩:=h4 (by omega);cases h5
   rw[lR];exact h6 j u hu
  ·intro v' w' o1 g1 _ _
   refine h v' w' ?_ g1;rw[ct,jem];exact o1
def Gs(W:World)(g:Nat)(v:Value)(bs:List Nat):Prop:=W.heap[g]?=some (.cells #[v] 30 (0,0))/\aD W (g+1) v bs
theorem Gs.lt{W:World}{g:Nat}{v:Value}{bs:List Nat}(h:Gs W g v bs):g<W.heap.size:=(Array.getElem?_eq_some_iff.1 h.1).1
theorem Gs.kept{W W':World}{g:Nat}{v:Value}{bs:List Nat}(h:Gs W g v bs)(hb:Below W.heap.size W W'):Gs W' g v bs:=⟨(hb.block g h.lt).trans h.1,h.2.kept hb⟩
def Yc(w:World)(g:Nat)(v:Value)(bs:List Nat)(e:Ending)(w':World):Prop :=
 e=.returned (.tuple #[])/\(∃ v',Gs w' g v' bs)/\Below g w w'/\∀ k,k<w.heap.size->k≠g->v.ownBlock≠some k->w'.heap[k]?=w.heap[k]?
def jC(w:World)(g:Nat)(bs:List Nat)(e:Ending)(w':World):Prop:=e=.returned (.tuple #[])/\(∃ v',Gs w' g v' bs)/\Below g w w'
theorem fo{w:World}{g:Nat}{v vp:Value}{bs ps:List Nat}(h:Gs w g v bs)(hp:Sv w vp (aF .u8 ps))(hl:bs.length+ps.length<=1000000) :
  Calls Tryz.prog 168 #[vp,.pointer (some ⟨g,0,none⟩)] w (Yc w g v (bs++ps)):=by
 have aB:=h.lt;have HG:=ae h;have HP:=ae hp;have hc:w.cell? ⟨g,0,none⟩=some v:=by rw[ay h.1];rfl
 have hfz:w.frozen? ⟨g,0,none⟩=false:=by simp[World.frozen?,h.1]
 clear h hp;go_enter Tryz.func168,Tryz.ntmps168
 go_wp2_with (first | (at_builtin;refine tB rfl _ _ rfl (g+1) _ _ bs ps rfl HG.o.2 rfl HP.o ?c1 ?c2 ?_))
 case c1=>omega
 case c2=>omega
 intro v' w1 o1 g1
 have fJ:some g≠v.ownBlock:=fun e=>by
  have:=(HG.o.2.lt g e.symm).1;omega
 have hh:w1.heap[g]?=some (.cells #[v] 30 (0,0)):=(g1.block g aB fJ).trans HG.o.1;have lK:w1.cell? ⟨g,0,none⟩=some v:=by rw[ay hh];rfl
 have hfz1:w1.frozen? ⟨g,0,none⟩=false:=by simp[World.frozen?,hh]
 obtain⟨a1,c1,rfl⟩:=o1.len;have eO:=ae o1;have tX:=ae g1;have HH:=ae hh;clear o1 g1 hh hc hfz;go_wp2_with fail;go_end0
 have Lm:=cU HH.o 0 (.slice a1 (bs++ps).length c1);rw[← jem];refine⟨rfl,⟨_,Lm,?_⟩,?_,?_⟩
 ·have:=Fr.own (p:=g) ((Fr.refl g w1.heap.size w1).set 0 (.slice a1 (bs++ps).length c1)) eO.o (by omega)
  exact this
 ·exact((jej g w).grown tX.o (by omega) (fun k hk=>by have:=(HG.o.2.lt k hk).1;omega)).setCell (jek _) _
 ·intro k hk hkg hkv
  rw[Below.heap_setCell _ _ _ _ hkg];exact tX.o.block k hk (fun e=>hkv e.symm)
theorem Ub{w:World}{p q:Value}{bs:List Nat}
  (H:∀ W,Gs W w.heap.size (.slice none 0 0) []->Below w.heap.size w W->Calls Tryz.prog 124 #[.func (.func 168) #[] #[.pointer (some ⟨w.heap.size,0,none⟩)],p,q] W (jC W w.heap.size bs)) :
  Calls Tryz.prog 123 #[.func (.func 124) #[] #[p,q]] w (dA w bs):=by
 have HH:=ae H;clear H;go_enter Tryz.func123,Tryz.ntmps123
 go_wp2_with fail;refine(HH.o _ ?g1 ?g2).mono ?_
 case g1=>exact⟨jeK _ _,aD.nil _ _⟩
 case g2=>exact ak _ _
 rintro e w1 ⟨rfl,⟨v1,eZ⟩,aH⟩;have lK:w1.cell? ⟨w.heap.size,0,none⟩=some v1:=by rw[ay eZ.1];rfl
 have tX:=ae eZ;have aP:=ae ((ak w (.cells #[.slice none 0 0] 30)).trans aH);clear eZ aH;go_wp2_with fail;go_ret
 exact⟨⟨_,rfl,tX.o.2.low (by omega)⟩,aP.o⟩
theorem Uc{w:World}{p:Value}{bs:List Nat}
  (H:∀ W,Gs W w.heap.size (.slice none 0 0) []->Below w.heap.size w W->Calls Tryz.prog 205 #[.func (.func 168) #[] #[.pointer (some ⟨w.heap.size,0,none⟩)],p] W (jC W w.heap.size bs)) :
  Calls Tryz.prog 123 #[.func (.func 205) #[] #[p]] w (dA w bs):=by
 have HH:=ae H;clear H;go_enter Tryz.func123,Tryz.ntmps123
 go_wp2_with fail;refine(HH.o _ ?g1 ?g2).mono ?_
 case g1=>exact⟨jeK _ _,aD.nil _ _⟩
 case g2=>exact ak _ _
 rintro e w1 ⟨rfl,⟨v1,eZ⟩,aH⟩;have lK:w1.cell? ⟨w.heap.size,0,none⟩=some v1:=by rw[ay eZ.1];rfl
 have tX:=ae eZ;have aP:=ae ((ak w (.cells #[.slice none 0 0] 30)).trans aH);clear eZ aH;go_wp2_with fail;go_ret
 exact⟨⟨_,rfl,tX.o.2.low (by omega)⟩,aP.o⟩
theorem Ud{w:World}{p q:Value}{bs:List Nat}
  (H:∀ W,Gs W w.heap.size (.slice none 0 0) []->Below w.heap.size w W->Calls Tryz.prog 210 #[.func (.func 168) #[] #[.pointer (some ⟨w.heap.size,0,none⟩)],p,q] W (jC W w.heap.size bs)) :
  Calls Tryz.prog 123 #[.func (.func 210) #[] #[p,q]] w (dA w bs):=by
 have HH:=ae H;clear H;go_enter Tryz.func123,Tryz.ntmps123
 go_wp2_with fail;refine(HH.o _ ?g1 ?g2).mono ?_
 case g1=>exact⟨jeK _ _,aD.nil _ _⟩
 case g2=>exact ak _ _
 rintro e w1 ⟨rfl,⟨v1,eZ⟩,aH⟩;have lK:w1.cell? ⟨w.heap.size,0,none⟩=some v1:=by rw[ay eZ.1];rfl
 have tX:=ae eZ;have aP:=ae ((ak w (.cells #[.slice none 0 0] 30)).trans aH);clear eZ aH;go_wp2_with fail;go_ret
 exact⟨⟨_,rfl,tX.o.2.low (by omega)⟩,aP.o⟩
theorem Pr{w w':World}{B e size n g cap:Nat}{xs:List Value}(h:w.ownsRow B e size (.slice (some ⟨g,0,none⟩) n cap) n xs)(hb:w'.heap[g]?=w.heap[g]?):w'.ownsRow B e size (.slice (some ⟨g,0,none⟩) n cap) n xs:=by
 obtain⟨h0,h | ⟨g',cap',cur,h1,h2,h3,h4⟩⟩:=h
 ·exact⟨h0,Or.inl h⟩
 ·cases h1
  exact⟨h0,Or.inr ⟨g,cap,cur,rfl,h2,hb.trans h3,h4⟩⟩
theorem jQ{l:List (Nat×Int×List Nat)}{j:Nat}(h:j<l.length):bP (l.take (j+1))=bP (l.take j)++[if l[j].1=0 then 0 else 1]:=by
 unfold bP;rw[jeA h,jeE];rfl
theorem EZ{l:List (Nat×Int×List Nat)}(h:¬ 0∈bP l):dO l=[0]:=jeh h
theorem Aw{l:List (Nat×Int×List Nat)}(h:0∈bP l):dO l=[1]++bm (bP l) 1:=jei h
theorem jD{l:List Nat}(h:∀ x∈l,x<2)(hl:l.length<=256):(bm l 1).length<=32:=by
 rw[eP h hl];unfold by8;omega
theorem Cc{w:World}{g:Nat}{v vl:Value}{bs:List Nat}{l:List (Nat×Int×List Nat)}(hg:Gs w g v bs)(zj:bs.length<=100000)(hs:Sv w vl (aJ l))(hl:l.length<=256) :
  Calls Tryz.prog 125 #[.func (.func 168) #[] #[.pointer (some ⟨g,0,none⟩)],vl] w (jC w g (bs++dO l)):=by
 obtain⟨i0,hi,ch,hz1',bv⟩:=jeD pZ;have HG:=ae hg;have CZ:=hg.lt;have HS:=ae hs;obtain⟨a,cap,rfl,aW,bC⟩:=hs.form1;rw[aG]at *;have hcm':cap<=9223372036854775807:=by unfold maxLen at bC;omega
 have H2:=ae (ee l);have HSH:=ae (jD (ee l) (by rw[br];exact hl));have HN:=ae (EZ (l:=l));have HY:=ae (Aw (l:=l));obtain⟨D,hD⟩:∃ D,bP l=D:=⟨_,rfl⟩;have hDl:D.length=l.length:=by rw[← hD,br]
 have QF:jgf (∀ k (h:k<l.length),D[k]?=some (if l[k].1=0 then 0 else 1)):=ae (fun k h=>by rw[← hD];simp[bP,h]);rw[hD]at H2 HSH HN HY;have HD:=ae hD;have kY:=ae hDl;clear hs bC hD hDl hg;go_enter Tryz.func125,Tryz.ntmps125
 go_wp2_with (first | (refine jfo _ rfl _ _ 142 rfl w.heap.size 92 i0 (.int .u64 0) 1 Tryz.underlying142 hi ch hz1' .i64 .i64 _ _ l.length rfl rfl ?m1 ?m2 ?m3 ?m4 ?m5 ?_))
 case m1=>rfl
 case m2=>rfl
 case m3=>rw[bv];omega
 case m4=>unfold maxLen;omega
 case m5=>omega
 intro w4 gQ iZ;have bG:Below w.heap.size w w4:=(jej _ _).grown iZ (jek _) (fun k hk=>by cases hk)
 have ho4':w4.ownsRow w.heap.size 92 1 (.slice (some ⟨w.heap.size,0,none⟩) l.length l.length) l.length (aF .u64 (fill D 0)):=by
  rw[oY,kY.o,← ko];simpa using gQ
 have eY:=ae ho4';have cp:=ae bG;clear gQ iZ bG ho4';go_wp2_with fail;go_loopw [5,13] (fun o i wr=>∃ k:Nat,o=.bool (decide (0∈bP (l.take k)))/\i=.int .i64 (k:Int)/\k<=l.length/\wr.ownsRow w.heap.size 92 1 (.slice (some ⟨w.heap.size,0,none⟩) l.length l.length) l.length (aF .u64 (fill D k))/\Below w.heap.size w wr) (fun _ i _=>l.length-(intOf i).toNat)
 case atStart=>exact⟨0,rfl,rfl,by omega,eY.o,cp.o⟩
 case round =>
  obtain⟨k,rfl,rfl,hk,how,az⟩:=hrel;have HB:=ae az;have HO:=ae how;have bH:=az.size;clear az how;by_cases aB:k<l.length
  ·have hkD:k<D.length:=by rw[kY.o];exact aB
   have hval:D[k]=if l[k].1=0 then 0 else 1:=by
    have:=QF.o k aB;rw[List.getElem?_eq_getElem hkD]at this;exact Option.some.inj this
   obtain⟨b,off,rfl,hb,dN⟩:=(HS.o.kept HB.o).at1 (cQ aB);have jH:k<(fill D k).length:=by rw[lm (by omega)];exact hkD
   have tT:=ae (rp hkD);have sC:=ae (jQ aB);have HVF:=ae (kj l[k]);have HVN:=ae (oP l[k]);have fD:=HO.o;have Gn:=(fD.cellAt k (by omega)).trans (bU jH);have Gp:=fD.frozenAt k;have hST:=fD.stored k (.int .u64 (D[k]:Int));rw[ku,tT.o]at hST;have cP:=ae hST;have Mx:=(fD.lt w.heap.size rfl).2;clear hST fD;generalize l[k]=c at *;generalize (fill D k)[k]=y at *;generalize D[k]=z at *;by_cases h0:c.1=0
   ·rw[HVN.o h0]at dN
    rw[jei h0]at hval sC;subst hval;have HFl:jgf (decide (0∈bP (l.take (k+1)))=true):=ae (jeB (by rw[sC.o];simp));clear HVF HVN h0;have Qw:=ae (xF false);generalize decide (0∈bP (l.take k))=fl at *;cases fl
    ·go_wp2_with fail
     refine(Qw.o _).mono ?_;rintro e w5 ⟨rfl,rfl⟩;go_wp2_with fail;go_roundw
     case rel=>exact⟨k+1,by rw[HFl.o],by go_num,by omega,cP.o.1,cT HB.o (jek _) _⟩
     case measure=>simp[intOf];omega
    ·go_wp2_with fail
     refine(Qw.o _).mono ?_;rintro e w5 ⟨rfl,rfl⟩;go_wp2_with fail;go_roundw
     case rel=>exact⟨k+1,by rw[HFl.o],by go_num,by omega,cP.o.1,cT HB.o (jek _) _⟩
     case measure=>simp[intOf];omega
   ·obtain⟨tt,uu,hvv⟩:=HVF.o h0
    rw[hvv]at dN;rw[jeh h0]at hval sC;subst hval;have HFl:jgf (decide (0∈bP (l.take (k+1)))=decide (0∈bP (l.take k))):=ae (by rw[sC.o];simp);clear HVF HVN h0 hvv;have Qw:=ae (xF true);generalize decide (0∈bP (l.take k))=fl at *;cases fl
    ·go_wp2_with fail
     refine(Qw.o _).mono ?_;rintro e w5 ⟨rfl,rfl⟩;go_wp2_with fail;go_roundw
     case rel=>exact⟨k+1,by rw[HFl.o],by go_num,by omega,cP.o.1,cT HB.o (jek _) _⟩
     case measure=>simp[intOf];omega
    ·go_wp2_with fail
     refine(Qw.o _).mono ?_;rintro e w5 ⟨rfl,rfl⟩;go_wp2_with fail;go_roundw
     case rel=>exact⟨k+1,by rw[HFl.o],by go_num,by omega,cP.o.1,cT HB.o (jek _) _⟩
     case measure=>simp[intOf];omega
  ·obtain rfl:k=l.length:=by omega
   have e:fill D l.length=D:=by
    have:=ro D;rwa[kY.o]at this
   rw[e]at HO;rw[jes,HD.o];have HGr:=ae (HG.o.kept HB.o);clear e;by_cases h0:0∈D
   ·rw[jeB h0]
    have HHB:=ae (HY.o h0);have Dj:=ae (fo (HGr.o.kept (ak wr (.cells #[.int .u8 1] 5))) (cH wr 1).sv (by simp;omega));have cK:(wr.alloc (.cells #[.int .u8 1] 5)).heap.size=wr.heap.size+1:=jel _ _;clear HN HY h0;go_wp2_with fail;refine Dj.o.mono ?_;rintro e w6 ⟨rfl,⟨v6,ME⟩,dW,VL⟩;have Mx:=(HO.o.lt w.heap.size rfl).2
    have AU:dJ w6 w.heap.size (.slice (some ⟨w.heap.size,0,none⟩) l.length l.length) D:=by
     unfold dJ;rw[kY.o];refine Pr (bJ HO.o (ak wr (.cells #[.int .u8 1] 5))) (VL w.heap.size (by omega) (by omega) (fun e=>?_));have:=(HG.o.2.lt w.heap.size e).2;omega
    have Gq:=dW.size;have kS:=ae ME;have gW:=ae ((HB.o.mono (jeJ CZ)).trans (((ak wr (.cells #[.int .u8 1] 5)).mono (by omega)).trans dW));have HP6:=ae (Ar AU.sv H2.o);clear ME dW VL AU;go_wp2_with fail;refine HP6.o.mono ?_;rintro e w7 ⟨⟨v7,rfl,YS⟩,iR⟩;have HP7:=ae (fo (kS.o.kept iR) YS.sv (by have:=HSH.o;simp;omega));have ir:=ae (gW.o.trans (iR.mono (by omega)));clear YS iR;go_wp2_with fail;refine HP7.o.mono ?_;rintro e w8 ⟨rfl,⟨v8,hg8⟩,kR,_⟩;rw[jez]at hg8;have HG8:=ae hg8;have qD:=ae (ir.o.trans kR);clear hg8 kR;go_wp2_with fail;go_end0
    rw[HHB.o];exact⟨rfl,⟨_,HG8.o⟩,qD.o⟩
   ·rw[jeu h0]
    have HHB:=ae (HN.o h0);have Dj:=ae (fo (HGr.o.kept (ak wr (.cells #[.int .u8 0] 5))) (cH wr 0).sv (by simp;omega));have cK:(wr.alloc (.cells #[.int .u8 0] 5)).heap.size=wr.heap.size+1:=jel _ _;clear HN HY h0;go_wp2_with fail;refine Dj.o.mono ?_;rintro e w6 ⟨rfl,⟨v6,ME⟩,dW,VL⟩;have kS:=ae ME;have gW:=ae ((HB.o.mono (jeJ CZ)).trans (((ak wr (.cells #[.int .u8 0] 5)).mono (by omega)).trans dW));clear ME dW VL;go_wp2_with fail;go_end0
    rw[HHB.o];exact⟨rfl,⟨_,kS.o⟩,gW.o⟩
def dD(z:Value)(l:List Value)(i:Nat):List Value:=l.take i++List.replicate (l.length-i) z
theorem mS(z:Value)(l:List Value):dD z l 0=List.replicate l.length z:=by simp[dD]
theorem pg(z:Value)(l:List Value):dD z l l.length=l:=by simp[dD]
theorem iF{z:Value}{l:List Value}{i:Nat}(h:i<=l.length):(dD z l i).length=l.length:=by simp[dD];omega
theorem ms{z:Value}{l:List Value}{i:Nat}(h:i<l.length):(dD z l i).set i l[i]=dD z l (i+1):=by
 unfold dD
 rw[List.set_append_right _ _ (by simp;omega),jeq,jfk (by omega),jfM,show l.length-i=(l.length-(i+1))+1 by omega,
  List.replicate_succ,jew,jeA h,jez]
 rfl
theorem Sv.keptB{W W':World}{B:Nat}{v:Value}{xs:List Value}(h:Sv W v xs)(hv:∀ k,v.ownBlock=some k->k<B)(hb:Below B W W'):Sv W' v xs:=by
 obtain⟨a,cap,rfl,h1,h2,h3,h4⟩:=h;refine⟨a,cap,rfl,h1,h2,h3,fun h0=>?_⟩;obtain⟨b,off,rfl,h5,h6⟩:=h4 h0;have hb':b<B:=hv b rfl;exact⟨b,off,rfl,jeH h5 hb.size,fun j x hj=>(hb.cell (p:=⟨b,off+j,none⟩) hb').trans (h6 j x hj)⟩
theorem tC(W:World)(o:Obj):Below W.heap.size W (W.drew.alloc o):=by
 have h1:Below W.heap.size W W.drew:=⟨rfl,rfl,rfl,jek _,fun _ _=>rfl⟩;exact h1.alloc (jek _) _
theorem JR{s:List Nat}(hb:Bs s)(hl:s.length<=140737488355328)(W:World):∃ g cap W',(convert 9 30 (.string (am s))).run Tryz.prog W=.ok (.slice (some ⟨g,0,none⟩) s.length cap) W'/\Sv W' (.slice (some ⟨g,0,none⟩) s.length cap) (aF .u8 s)/\Below W.heap.size W W'/\W'.heap.size=W.heap.size+1:=by
 have hr:=run_bytes_of_string (P:=Tryz.prog) W 9 30 5 (am s) Tryz.underlying9 Tryz.underlying30 Tryz.underlying5;rw[bi]at hr;refine⟨_,_,_,hr,?_,tC _ _,?_⟩
 ·have gi:=grownCap_ge W s.length 0 5
  have pt:=grownCap_le_maxLen W s.length 0 5 (by unfold maxLen;omega);refine⟨_,_,by rw[ap],by rw[ap];exact gi,pt,fun e=>by(cases e),fun h0=>⟨_,_,rfl,by rw[jel];show W.heap.size<W.heap.size+1;omega,fun j x hj=>?_⟩⟩
  have hj':j<s.length:=by
   have:=(List.getElem?_eq_some_iff.1 hj).1;rwa[ap]at this
  rw[bU hj']at hj;have hh:(W.drew.alloc (.cells (bytesRow (am s) (grownCap W s.length 0 5)) 5 ((bytesRow (am s) (grownCap W s.length 0 5)).size,(bytesRow (am s) (grownCap W s.length 0 5)).size+1))).heap[W.heap.size]?=some (.cells (bytesRow (am s) (grownCap W s.length 0 5)) 5 ((bytesRow (am s) (grownCap W s.length 0 5)).size,(bytesRow (am s) (grownCap W s.length 0 5)).size+1)):=jeK W.drew _;rw[jeO,ay hh,← hj];unfold bytesRow am;have hx:s[j]<256:=hb _ (jeo hj');rw[Array.getElem?_append_left (by simpa using hj')];simp[hj',jfd hx]
 ·rw[jel]
  rfl
theorem gL{l:List Int}(hi:Is l)(hl:l.length<=256):(cV l).length<=5131:=(kn hi hl).1
theorem Fa{w:World}{v:Value}{l:List Int}(hs:Sv w v (aL l))(hl:l.length<=256)(hi:Is l):Calls Tryz.prog 231 #[v] w (dA w (cnt l)):=by
 have HB:=ae (tv hs hl hi);have bR:=gL hi hl;have kf:jgf (cnt l=uv (cV l).length++cV l):=rfl;clear hs hi;generalize cnt l=cn at *;generalize cV l=bs at *;have nB:=bO (n:=bs.length) (by omega);have HP:=ae (dQ bs.length (by omega));go_enter Tryz.func231,Tryz.ntmps231
 go_wp2_with fail;refine HB.o.mono ?_;rintro e w1 ⟨⟨v1,rfl,ei⟩,aH⟩;have eO:=ae ei;have aP:=ae aH;have cK:=aH.size;obtain⟨a1,c1,rfl⟩:=ei.len;clear ei aH;go_wp2_with fail;refine(HP.o _).mono ?_;rintro e w2 ⟨⟨v2,rfl,ft⟩,aE⟩;have dz:=ae (ft.low cK);have aN:=ae aE;have bv:=aE.size;clear ft aE;go_wp2_with (first | (at_builtin;refine ax rfl _ _ rfl w.heap.size _ _ (uv bs.length) bs rfl dz.o rfl (eO.o.kept aN.o).sv ?c1 ?c2 ?_))
 case c1=>omega
 case c2=>omega
 intro v4 w4 o4 b4;have eY:=ae o4;have cp:=ae ((aP.o.trans (aN.o.mono cK)).trans b4);clear o4 b4;go_wp2_with fail;go_ret
 rw[kf.o];exact⟨⟨_,rfl,eY.o⟩,cp.o⟩
theorem lu{l:List (List Nat)}{k:Nat}(h:k<l.length):(l.take (k+1)).flatten=(l.take k).flatten++l[k]:=by
 rw[jeA h,jf0];simp
theorem ji{l:List (List Nat)}(ht:Ts l)(hl:l.length<=256)(k:Nat):(l.take k).flatten.length<=16384:=by
 have h:=(oT (l:=l.take k) fun s hs=>ht s (je2 hs)).1;rw[jeq]at h;omega
theorem uD{w:World}{g:Nat}{v vl:Value}{bs:List Nat}{l:List (List Nat)}(hg:Gs w g v bs)(zj:bs.length<=100000)(hs:Sv w vl (cC l))(gl:∀ k,vl.ownBlock=some k->k<g)(hl:l.length<=256)(ht:Ts l) :
  Calls Tryz.prog 206 #[.func (.func 168) #[] #[.pointer (some ⟨g,0,none⟩)],vl] w (jC w g (bs++fH l)):=by
 obtain⟨i0,hi,ch,hz1',bv⟩:=jeD Ag;have HG:=ae hg;have CZ:=hg.lt;have HS:=ae hs;have HT:=ae ht;have sE:=ae gl;obtain⟨a,cap,rfl,aW,bC⟩:=hs.form1;rw[dP]at *;have hcm':cap<=9223372036854775807:=by unfold maxLen at bC;omega
 have HTX:jgf (fH l=cnt (em l)++l.flatten):=rfl;have zr:=ae (fun k=>ji ht hl k);obtain⟨D,hD⟩:∃ D,em l=D:=⟨_,rfl⟩;have hDl:D.length=l.length:=by rw[← hD,bM]
 have HDI:jgf (Is D):=ae (hD ▸ ig ht);have QF:jgf (∀ k (h:k<l.length),(aL D)[k]?=some (.int .i64 ((am l[k]).size:Int))):=ae (fun k h=>by rw[← hD];simp[em,aL,h,bi]);rw[hD]at HTX;have kY:=ae hDl
 have eX:(cnt D).length<=5141:=by
  have h1:=gL HDI.o (by omega);have h2:=bO (n:=(cV D).length) (by omega);unfold cnt;rw[jem];omega
 clear hs bC hD hDl hg ht gl;go_enter Tryz.func206,Tryz.ntmps206
 go_wp2_with (first | (refine jfo _ rfl _ _ 143 rfl w.heap.size 2 i0 (.int .i64 0) 1 Tryz.underlying143 hi ch hz1' .i64 .i64 _ _ l.length rfl rfl ?m1 ?m2 ?m3 ?m4 ?m5 ?_))
 case m1=>rfl
 case m2=>rfl
 case m3=>rw[bv];omega
 case m4=>unfold maxLen;omega
 case m5=>omega
 intro w4 gQ iZ;have bG:Below w.heap.size w w4:=(jej _ _).grown iZ (jek _) (fun k hk=>by cases hk)
 have ho4':w4.ownsRow w.heap.size 2 1 (.slice (some ⟨w.heap.size,0,none⟩) l.length l.length) l.length (dD (.int .i64 0) (aL D) 0):=by
  rw[mS,cy,kY.o,← jfO];simpa using gQ
 have eY:=ae ho4';have cp:=ae bG;clear gQ iZ bG ho4';go_wp2_with fail;go_loopw [14] (fun i wr=>∃ k:Nat,i=.int .i64 (k:Int)/\k<=l.length/\wr.ownsRow w.heap.size 2 1 (.slice (some ⟨w.heap.size,0,none⟩) l.length l.length) l.length (dD (.int .i64 0) (aL D) k)/\Below w.heap.size w wr) (fun i _=>l.length-(intOf i).toNat)
 case atStart=>exact⟨0,rfl,by omega,eY.o,cp.o⟩
 case round =>
  obtain⟨k,rfl,hk,how,az⟩:=hrel;have HB:=ae az;have HO:=ae how;have bH:=az.size;clear az how;by_cases aB:k<l.length
  ·have hkD:k<(aL D).length:=by rw[cy,kY.o];exact aB
   have hval:(aL D)[k]=.int .i64 ((am l[k]).size:Int):=by
    have:=QF.o k aB;rw[List.getElem?_eq_getElem hkD]at this;exact Option.some.inj this
   obtain⟨b,off,rfl,hb,dN⟩:=(HS.o.kept HB.o).at1 (cO aB);have jH:k<(dD (.int .i64 0) (aL D) k).length:=by rw[iF (by omega)];exact hkD
   have tT:=ae (ms (z:=.int .i64 0) hkD);have fD:=HO.o;have Gn:=(fD.cellAt k (by omega)).trans (List.getElem?_eq_getElem jH);have Gp:=fD.frozenAt k;have hST:=fD.stored k (.int .i64 ((am l[k]).size:Int));rw[← hval,tT.o]at hST;rw[hval]at hST;have cP:=ae hST;have Mx:=(fD.lt w.heap.size rfl).2;have jG:(am l[k]).size<=64:=by rw[bi];exact(HT.o _ (jeo aB)).1
   rw[dM]at dN;clear hST fD hval;generalize (dD (.int .i64 0) (aL D) k)[k]=y at *;generalize am l[k]=S at *;go_wp2_with fail;go_roundw
   case rel=>exact⟨k+1,by go_num,by omega,cP.o.1,cT HB.o (jek _) _⟩
   case measure=>simp[intOf];omega
  ·obtain rfl:k=l.length:=by omega
   have e:dD (.int .i64 0) (aL D) l.length=aL D:=by
    have:=pg (.int .i64 0) (aL D);rwa[cy,kY.o]at this
   rw[e]at HO
   have ho':bF wr w.heap.size (.slice (some ⟨w.heap.size,0,none⟩) l.length l.length) D:=by
    unfold bF;rw[kY.o];exact HO.o
   have HCT:=ae (Fa ho'.sv (by rw[kY.o];exact hl) HDI.o);have HGr:=ae (HG.o.kept HB.o);clear e ho' HO;go_wp2_with fail;refine HCT.o.mono ?_;rintro e w6 ⟨⟨v6,rfl,AU⟩,dW⟩;have HP6:=ae (fo (HGr.o.kept dW) AU.sv (by omega));have gW:=ae (HB.o.trans (dW.mono bH));have Gq:=dW.size;clear AU dW;go_wp2_with fail;refine HP6.o.mono ?_;rintro e w7 ⟨rfl,⟨v7,hg7⟩,iR,_⟩;have HG7:=ae hg7;have ir:=ae ((gW.o.mono (jeJ CZ)).trans iR);clear hg7 iR;go_wp2_with fail;go_loopw [31] (fun i wr=>∃ k:Nat,i=.int .i64 (k:Int)/\k<=l.length/\(∃ v',Gs wr g v' (bs++cnt D++(l.take k).flatten))/\Below g w wr) (fun i _=>l.length-(intOf i).toNat)
   case atStart=>exact⟨0,rfl,by omega,⟨v7,by simpa using HG7.o⟩,ir.o⟩
   case round =>
    obtain⟨k,rfl,hk,⟨vq,hgq⟩,vP⟩:=hrel;have HGQ:=ae hgq;have pu:=ae vP;have zl:=vP.size;clear hgq vP;by_cases aB:k<l.length
    ·obtain⟨b,off,rfl,hb,dN⟩:=(HS.o.keptB sE.o pu.o).at1 (cO aB)
     obtain⟨Dk,YP⟩:=HT.o _ (jeo aB);obtain⟨gc,cc,wc,vL,yB,hbc,hzc⟩:=JR YP (by omega) wr;rw[dM]at dN;have AX:=ae (lu aB);have jH:=zr.o k;have HPQ:=ae (fo (HGQ.o.kept hbc) yB (by simp only[jem];omega));have HBC:=ae (pu.o.trans (hbc.mono (jet (jeJ HGQ.o.lt) (jek _))));have fK:g<wr.heap.size:=HGQ.o.lt;clear yB hbc YP Dk;generalize am l[k]=S at *;generalize l[k]=x at *;go_wp2_with fail;refine HPQ.o.mono ?_;rintro e w8 ⟨rfl,⟨v8,hg8⟩,kR,_⟩;rw[jez,← AX.o]at hg8;have HG8:=ae hg8;have qD:=ae (HBC.o.trans kR);clear hg8 kR;go_wp2_with fail;go_roundw
     case rel=>exact⟨k+1,by go_num,by omega,⟨_,HG8.o⟩,qD.o⟩
     case measure=>simp[intOf];omega
    ·obtain rfl:k=l.length:=by omega
     rw[jes,jez,← HTX.o]at HGQ;go_wp2_with fail;go_end0
     exact⟨rfl,⟨_,HGQ.o⟩,pu.o⟩
open Go.Shelf
theorem Ue:∀{a b:List UInt8},a<b↔a.map UInt8.toNat<b.map UInt8.toNat
 | [],[]=>by simp
 | [],y::t=>by simp
 | x::s,[]=>by simp
 | x::s,y::t=>by
  have ih:=Ue (a:=s) (b:=t);have h3:(x::s<y::t)↔(x<y∨x=y/\s<t):=List.cons_lt_cons_iff;have h4:(x.toNat::s.map UInt8.toNat<y.toNat::t.map UInt8.toNat)↔(x.toNat<y.toNat∨x.toNat=y.toNat/\s.map UInt8.toNat<t.map UInt8.toNat):=List.cons_lt_cons_iff;have h5:x=y↔x.toNat=y.toNat:=⟨fun e=>by rw[e],fun e=>UInt8.toNat_inj.1 e⟩;rw[jeT,jeT,h3,h4,ih,UInt8.lt_iff_toNat_lt,h5]
theorem Uf{x y:List UInt8}(h1:x≠y)(h2:¬ y<x):x<y:=by
 rcases List.le_iff_lt_or_eq.1 (show x<=y from h2)with h | h
 ·exact h
 ·exact absurd h h1
def qs(l:List (List UInt8)):List (List UInt8):=l.mergeSort fun x y=>decide (x<=y)
theorem lv(l:List (List UInt8)):(qs l).length=l.length:=List.length_mergeSort l
theorem mT{l:List (List UInt8)}:∀ m,m<=l.length->∀ z,z∈compactUpTo l.toArray m↔z∈l.take m
 | 0,_,z=>by simp[compactUpTo]
 | m+1,hm,z=>by
  have ih:=mT (l:=l) m (by omega);have hg:l.toArray[m]! = l[m]:=by simp[show m<l.length by omega]
  rw[compactUpTo_succ,jeN,ih z,jeA (by omega),jeN,hg];by_cases hk:keeps l.toArray m=true
  ·rw[jei hk]
  ·rw[jeh hk]
   constructor
   ·rintro(h | h)
    ·exact Or.inl h
    ·simp at h
   ·rintro(h | h)
    ·exact Or.inl h
    ·left
     have h':z=l[m]:=by simpa using h
     unfold keeps at hk;simp only[je7]at hk;have eZ:l.toArray[m-1]! = l[m-1]:=by simp[show m-1<l.length by omega]
     rw[hg,eZ]at hk;have hm0:m≠0:=fun e=>hk (Or.inl e)
     have he:l[m]=l[m-1]:=Decidable.byContradiction fun e=>hk (Or.inr e)
     rw[h',he];exact jge.2 ⟨m-1,by omega,rfl⟩
theorem nl{l:List (List UInt8)}(hs:l.Pairwise (·<=·)):∀ m,m<=l.length->(compactUpTo l.toArray m).Pairwise (· < ·)
 | 0,_=>by simp[compactUpTo]
 | m+1,hm=>by
  have ih:=nl hs m (by omega);have hg:l.toArray[m]! = l[m]:=by simp[show m<l.length by omega]
  rw[compactUpTo_succ,hg];by_cases hk:keeps l.toArray m=true
  ·rw[jei hk]
   refine List.pairwise_append.2 ⟨ih,by simp,fun a ha b hb=>?_⟩;have hb':b=l[m]:=by simpa using hb
   subst hb';have h1:=(mT m (by omega) a).1 ha;obtain⟨j,hj,rfl⟩:=jge.1 h1;have hjm:j<m:=(by omega);unfold keeps at hk;simp only[je7]at hk;have eZ:l.toArray[m-1]! = l[m-1]:=by simp[show m-1<l.length by omega]
   rw[hg,eZ]at hk
   have h2:l[m]≠l[m-1]:=by
    rcases hk with h | h
    ·omega
    ·exact h
   have h3:l[m-1]<=l[m]:=jfW.1 hs (m-1) m (by omega) (by omega) (by omega)
   have h4:l[j]<=l[m-1]:=by
    rcases jeM j (m-1)with h | h
    ·exact jfW.1 hs j (m-1) (by omega) (by omega) h
    ·have:j=m-1:=by omega
     subst this;exact List.le_refl _
   have h5:l[m-1]<l[m]:=Uf (fun e=>h2 e.symm) h3;exact List.lt_of_le_of_lt h4 h5
  ·rw[jeh hk,jeG]
   exact ih
theorem Cd(l:List (List UInt8)):(Lib.compact (qs l)).map (fun s=>s.map UInt8.toNat)=tuq (l.map fun s=>s.map UInt8.toNat):=by
 have hs:(qs l).Pairwise (·<=·):=by
  have:=List.pairwise_mergeSort (le:=fun x y:List UInt8=>decide (x<=y)) (fun a b c h1 h2=>by simp only[je7]at *;exact List.le_trans h1 h2) (fun a b=>by simp only[Bool.or_eq_true,je7];exact List.le_total a b) l;exact this.imp (fun h=>by simpa using h)
 refine uf ?_ (wV _) (fun z=>?_)
 ·exact List.pairwise_map.2 ((nl hs _ (jek _)).imp fun h=>Ue.1 h)
 ·rw[jr]
  have hm:=fun y=>mT (l:=qs l) (qs l).length (jek _) y
  rw[jes]at hm;unfold Lib.compact;simp only[jeF,hm];constructor
  ·rintro⟨y,hy,rfl⟩
   exact⟨y,List.mem_mergeSort.1 hy,rfl⟩
  ·rintro⟨y,hy,rfl⟩
   exact⟨y,List.mem_mergeSort.2 hy,rfl⟩
def upT(l:List (List Nat)):List (List UInt8):=l.map fun s=>s.map Nat.toUInt8
def dnT(l:List (List UInt8)):List (List Nat):=l.map fun s=>s.map UInt8.toNat
theorem Fb(l:List (List Nat)):cC l=(upT l).map encStr:=by
 unfold cC upT;rw[jeW];rfl
theorem up_dn(u:List (List UInt8)):upT (dnT u)=u:=by
 unfold upT dnT;rw[jeW];conv=>rhs;rw[← jfj u]
 apply jff
 intro s _;simp only[Function.comp,jeW,id];conv=>rhs;rw[← jfj s]
 apply jff
 intro x _;simp
theorem dn_up{l:List (List Nat)}(h:∀ s∈l,Bs s):dnT (upT l)=l:=by
 unfold upT dnT;rw[jeW];conv=>rhs;rw[← jfj l]
 apply jff
 intro s hs;exact fE (h s hs)
theorem tD(l:List (List Nat)):(upT l).length=l.length:=jen _
theorem JS{l:List (List Nat)}(h:∀ s∈l,Bs s):Lib.compact (qs (upT l))=upT (tuq l):=by
 have h1:=Cd (upT l);have h2:(upT l).map (fun s=>s.map UInt8.toNat)=l:=dn_up h;rw[h2]at h1;rw[← h1];exact(up_dn _).symm
theorem Sv.texts{W:World}{b off n cap:Nat}{l:List (List Nat)}(h:Sv W (.slice (some ⟨b,off,none⟩) n cap) (cC l)):∀ j,j<(l.map am).length->W.cell? ⟨b,off+j,none⟩=some (.string ((l.map am).getD j ByteArray.empty)):=by
 intro j hj;rw[jen]at hj;obtain⟨b',off',h1,_,h2⟩:=h.at1 (cO hj);cases h1
 rw[h2,dM];simp[List.getD_eq_getElem?_getD,hj]
theorem JT{w:World}{v:Value}{l:List (List Nat)}(hs:Sv w v (cC l))(hl:l.length<=256) :
  Calls Tryz.prog 207 #[v] w fun e w'=>(∃ v',e=.returned v'/\eL w' w.heap.size v' l)/\Below w.heap.size w w':=by
 have zg:=hs;obtain⟨a,cap,rfl,h1,h2,h3,h4⟩:=hs;rw[dP]at *;cases a with
 | none =>
  have hc:=h3 rfl;have qC:l=[]:=jeI (by omega);subst qC;refine Calls.mono (AnyG.slices_Clone_string_nil lH _ _ w) ?_;rintro e w' ⟨rfl,rfl⟩;exact⟨⟨_,rfl,eL.nil _ _⟩,jej _ _⟩
 | some a =>
  rcases jfa l.length with h0 | h0
  ·have qC:l=[]:=jeI h0
   subst qC;refine Calls.mono (AnyG.slices_Clone_string_zero lH a cap w) ?_;rintro e w' ⟨v',rfl,ho,_,hb⟩;exact⟨⟨_,rfl,ho⟩,hb⟩
  ·obtain⟨b,off,h5,h6,h7⟩:=h4 h0
   cases h5
   refine Calls.mono (AnyG.slices_Clone_string lH b off l.length cap (l.map am) w (by rw[jen];omega) (by omega) zg.texts) ?_;rintro e w' ⟨v',rfl,ho,_,hb⟩;rw[je4 (by rw[jen];omega),jeW]at ho;exact⟨⟨_,rfl,ho⟩,hb⟩
theorem rQ{α : Type}[Inhabited α]{enc:α->Value}{w:World}{g q k:Nat}{d:Array α}(h:k≠g):(Sort.putRow enc (Sort.ahead w q) g 0 d).heap[k]?=w.heap[k]?:=by
 simp[Sort.putRow,Sort.mapBlock,Sort.ahead,Array.getElem?_modify,Ne.symm h]
theorem Ps{w:World}{B:Nat}{v:Value}{zs:List (List UInt8)}(h:w.ownsRow B 9 1 v zs.length (zs.map encStr))(hl:zs.length<=256)(hB:B<=w.heap.size) :
  Calls Tryz.prog 208 #[v] w fun e w'=>e=.returned (.tuple #[])/\w'.ownsRow B 9 1 v zs.length ((qs zs).map encStr)/\Below B w w'/\∀ k,k<w.heap.size->v.ownBlock≠some k->w'.heap[k]?=w.heap[k]?:=by
 by_cases hv:v=.slice none 0 0
 ·subst hv
  have qC:zs=[]:=by
   rcases h.2 with ⟨_,h2⟩ | ⟨g,cap,cur,h2,_⟩
   ·exact jeI h2
   ·cases h2
  subst qC;refine Calls.mono (AnyM.slices_Sort_string_none rz none 0 w) ?_;rintro e w' ⟨rfl,rfl⟩;exact⟨rfl,(by unfold qs;rw[List.mergeSort_nil];exact h),jej _ _,fun _ _ _=>rfl⟩
 ·obtain⟨g,cap,rfl,hb,hg,hc,hm,bR,hH⟩:=holds_of_ownsRow (enc:=encStr) h hv
  refine Calls.mono (AnyM.slices_Sort_string rz g 0 cap zs w hH hg (by omega)) ?_;rintro e w' ⟨rfl,n,os,rfl⟩;have h1:=ownsRow_putRow (enc:=encStr) (q:=n) (k:=zs.length) (ys:=qs zs) h (lv zs) (jek _);have aH:=below_putRow (enc:=encStr) (q:=n) (d:=(qs zs).toArray) (jej B w) hb;refine⟨rfl,?_,aH.trans (kB os (by have:=aH.size;omega)),fun k hk fJ=>?_⟩
  ·rw[je4 (by rw[lv];omega)]at h1
   exact bJ h1 (kB os (jek _))
  ·have hkg:k≠g:=fun e=>fJ (by rw[e];rfl)
   have h2:=rQ (enc:=encStr) (w:=w) (q:=n) (d:=(qs zs).toArray) hkg;have h3:=aH.size;exact((kB (w:=Sort.putRow encStr (Sort.ahead w n) g 0 (qs zs).toArray) os (jek _)).block k (jeH hk h3)).trans h2
theorem Ce{w:World}{B:Nat}{v:Value}{zs:List (List UInt8)}(h:w.ownsRow B 9 1 v zs.length (zs.map encStr))(hl:zs.length<=256)(hB:B<=w.heap.size) :
  Calls Tryz.prog 209 #[v] w fun e w'=>(∃ v',e=.returned v'/\w'.ownsRow B 9 1 v' (Lib.compact zs).length ((Lib.compact zs).map encStr))/\Below B w w'/\∀ k,k<w.heap.size->v.ownBlock≠some k->w'.heap[k]?=w.heap[k]?:=by
 by_cases hv:v=.slice none 0 0
 ·subst hv
  have qC:zs=[]:=by
   rcases h.2 with ⟨_,h2⟩ | ⟨g,cap,cur,h2,_⟩
   ·exact jeI h2
   ·cases h2
  subst qC;refine Calls.mono (AnyG.slices_Compact_string_empty pF none 0 w) ?_;rintro e w' ⟨rfl,rfl⟩;exact⟨⟨_,rfl,h⟩,jej _ _,fun _ _ _=>rfl⟩
 ·obtain⟨g,cap,rfl,hb,hg,hc,hm,bR,hH⟩:=holds_of_ownsRow (enc:=encStr) h hv
  have pt:=Lib.compact_length_le zs;refine Calls.mono (AnyG.slices_Compact_string pF g 0 cap zs w hH (by omega) (by omega)) ?_;rintro e w' ⟨rfl,q,rfl⟩;have h1:=ownsRow_putRow (enc:=encStr) (q:=q) (k:=(Lib.compact zs).length) (ys:=Lib.compact zs++List.replicate (zs.length-(Lib.compact zs).length) []) h (by simp;omega) (by omega);rw[jfh]at h1;exact⟨⟨_,rfl,h1⟩,below_putRow (enc:=encStr) (jej B w) hb,fun k hk fJ=>rQ (fun e=>fJ (by rw[e];rfl))⟩
theorem Fc{u:List (List Nat)}{x:List Nat}(hr:uY u)(hx:x∈u){t:Nat}(ht:t<u.length):u[t]<x↔t<plT u x:=by
 obtain⟨h1,h2⟩:=lj hx;rw[List.getElem?_eq_getElem h1]at h2;have h3:u[plT u x]=x:=Option.some.inj h2;have hp:=jfW.1 hr;constructor
 ·intro h
  rcases jeM t (plT u x)with h4 | h4
  ·exact h4
  ·rcases jeM (plT u x) t with h5 | h5
   ·have h6:=hp _ _ h1 ht h5
    rw[h3]at h6;exact absurd (sY h h6) (jfU _)
   ·obtain rfl:t=plT u x:=by omega
    rw[h3]at h;exact absurd h (jfU _)
 ·intro h
  have:=hp _ _ ht h1 h;rwa[h3]at this
theorem Fe{w:World}{v:Value}{u:List (List Nat)}(hs:Sv w v (cC u))(hl:u.length<=256)(hr:uY u)(hu:∀ s∈u,Bs s){x:List Nat}(hx:x∈u) :
  Calls Tryz.prog 234 #[v,.string (am x)] w fun e w'=>(∃ r,e=.returned (.tuple #[.int .i64 (plT u x:Nat),r]))/\Below w.heap.size w w':=by
 have zg:=hs;obtain⟨a,cap,rfl,h1,h2,h3,h4⟩:=hs;rw[dP]at *;have tQ:0<u.length:=List.length_pos_of_mem hx;obtain⟨b,off,rfl,h6,h7⟩:=h4 tQ;refine Calls.mono (Any2.slices_BinarySearch_string SO b off u.length cap (fun t=>(u.map am).getD t (am x)) (am x) w (by omega) ?_) ?_
 ·intro j hj
  have:=h7 j _ (cO hj);rw[this,dM];simp[List.getD_eq_getElem?_getD,hj]
 ·rintro e w' ⟨rfl,q,rfl⟩
  have hk:=(lj hx).1
  have zj:Lib.bsGo (fun t=>Op.bytesLess ((u.map am).getD t (am x)).toList (am x).toList) u.length 0 u.length=plT u x:=by
   refine Lib.bsGo_spec _ (plT u x) ?_ ?_ _ _ _ (by omega) (by omega) (by omega)
   ·intro t ht
    have Lr:t<u.length:=(by omega);have e1:(u.map am).getD t (am x)=am u[t]:=by simp[List.getD_eq_getElem?_getD,Lr]
    simp only[e1,bI];rw[nK (hu _ (jeo Lr)) (hu _ hx)];exact jeB ((Fc hr hx Lr).2 ht)
   ·intro t ht
    rcases jeM t u.length with Lr | Lr
    ·have e1:(u.map am).getD t (am x)=am u[t]:=by simp[List.getD_eq_getElem?_getD,Lr]
     simp only[e1,bI];rw[nK (hu _ (jeo Lr)) (hu _ hx)];refine jeu (fun h=>?_);have:=(Fc hr hx Lr).1 h;omega
    ·have e1:(u.map am).getD t (am x)=am x:=by
      rw[List.getD_eq_getElem?_getD,List.getElem?_eq_none (by rw[jen];omega)];rfl
     simp only[e1,bI];rw[nK (hu _ hx) (hu _ hx)];exact jeu (jfU _)
  rw[zj];exact⟨⟨_,rfl⟩,ar (jej _ _) q⟩
end Go.Proofs.YtpljdjmpamjkhaaGreatDoor
