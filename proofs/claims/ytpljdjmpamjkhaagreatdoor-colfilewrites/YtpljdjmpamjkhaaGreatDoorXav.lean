import Derived.Test.YtpljdjmpamjkhaaGreatDoorXat
set_option linter.unusedVariables false
set_option linter.unusedSimpArgs false
set_option maxRecDepth 100000
set_option maxHeartbeats 4000000
namespace Go.Proofs.YtpljdjmpamjkhaaGreatDoor
open Go.RowKit Go.Lib
theorem oN{w:World}{va vb:Value}{a b:List Nat}(ha:Sv w va (aF .u8 a))(hb:Sv w vb (aF .u8 b))(h8:Bs a)(h9:Bs b) :
  Calls Tryz.prog 92 #[va,vb] w fun e w'=>e=.returned (.bool (decide (a=b)))/\w'=w:=by
 have Ym:=ha.conv h8;have VO:=hb.conv h9;have HE:=ae (QO h8 h9);clear ha hb;unfold txt at Ym VO;generalize a.map Nat.toUInt8=x at *;generalize b.map Nat.toUInt8=y at *;go_enter Tryz.func92,Tryz.ntmps92
 go_wp2_with fail;go_ret
 refine⟨?_,rfl⟩
 have e:(x==y)=decide (a=b):=by
  by_cases h:a=b
  ·rw[jdO h,HE.o.2 h]
   simp
  ·rw[jdK h]
   simp
   exact fun e=>h (HE.o.1 e)
 rw[← e];rfl
theorem NE(k:IntKind)(c:Nat)(t:List Nat):aF k (c::t)=.int k (c:Int)::aF k t:=rfl
theorem Sv.uncons{W:World}{v:Value}{c:Nat}{t:List Nat}(h:Sv W v (aF .u8 (c::t))) :
  ∃ g off cap,v=.slice (some ⟨g,off,none⟩) (t.length+1) cap/\t.length+1<=cap/\cap<=maxLen/\g<W.heap.size/\W.cell? ⟨g,off,none⟩=some (.int .u8 (c:Int)) /\
   (∀ j (h:j<t.length),W.cell? ⟨g,off+1+j,none⟩=some (.int .u8 (t[j]:Int))) /\
   ∃ A,(if cap=1 then (some ⟨g,off,none⟩:Option Addr) else some ⟨g,off+1,none⟩)=A/\Sv W (.slice A t.length (cap-1)) (aF .u8 t):=by
 have h0:=h;obtain⟨a,cap,rfl,h1,h2,h3,h4⟩:=h;rw[ar,jdD]at *;obtain⟨g,off,rfl,h5,h6⟩:=h4 (by omega);refine⟨g,off,cap,rfl,h1,h2,h5,by simpa using h6 0 _ rfl,fun j hj=>?_,?_⟩
 ·have:=h6 (j+1) _ (bU (k:=.u8) (l:=c::t) (j:=j+1) (by simpa using hj))
  rw[show off+1+j=off+(j+1) by omega,this];simp
 ·obtain⟨A,hA,hSA⟩:=AQ h0 (k:=1) (by rw[ar];simp)
  refine⟨A,hA,?_⟩;rw[NE]at hSA;simpa using hSA
theorem Ea{w:World}{vb vl:Value}{c:Nat}{t:List Nat}{l:List Int}(hb:Sv w vb (aF .u8 (c::t)))(h8:Bs (c::t))(hc:c<=4)(hs:Sv w vl (aL l))(hl:l.length<=256)(hi:Is l) :
  Calls Tryz.prog 309 #[vb,vl] w fun e w'=>e=.returned (.bool (decide (im c l=t)))/\Below w.heap.size w w':=by
 have HEn:=ae (GV hs hi c (by omega));have PM:jfp (Bs t):=fun x hx=>h8 x (by simp[hx])
 have xG:=ae (eD c hi hl).2;have yH:c<=4/\l.length<=256:=⟨hc,hl⟩;have HEM:jfp (Dz c l=im c l):=jdu yH;rw[jdO yH]at HEn;obtain⟨g,off,cap,rfl,h1,h2,h3,h4,_,A,hA,hSA⟩:=hb.uncons;have lF:=ae hSA;have bw:cap<=9223372036854775807:=by unfold maxLen at h2;omega
 clear hb hs hi hSA h8 yH h2;go_enter Tryz.func309,Tryz.ntmps309
 go_wp2_with fail;refine HEn.o.mono ?_;rintro e w1 ⟨⟨v1,rfl,eH⟩,aH⟩;rw[HEM.o]at eH;have eY:=ae eH;have aQ:=ae aH;clear eH aH;go_wp2_with fail;refine(oN eY.o.sv (lF.o.kept aQ.o) xG.o PM.o).mono ?_;rintro e w2 ⟨rfl,rfl⟩;go_wp2_with fail;go_ret
 exact⟨rfl,aQ.o⟩
theorem Tk{c n:Nat}{t:List Nat}{l:List Int}(hc:c<=4)(hn:n<=256)(h:aC (rdC c n) (fin c t) t=.ok (l,[])):bq (c::t) (n:Int)=(l,0):=by
 rw[zv]at h;unfold bq;rw[jdu (by omega)];simp only;rw[jdt (by omega),jd1];cases hr:mX c n t with
 | ok m=>rw[hr]at h;simp at h;rw[h]
 | error e=>rw[hr]at h;simp at h
theorem NF{c n e:Nat}{t:List Nat}(hc:c<=4)(hn:n<=256)(h:aC (rdC c n) (fin c t) t=.error e):bq (c::t) (n:Int)=([],e):=by
 rw[zv]at h;unfold bq;rw[jdu (by omega)];simp only;rw[jdt (by omega),jd1];cases hr:mX c n t with
 | ok m=>rw[hr]at h;simp at h
 | error e=>rw[hr]at h;simp at h;rw[h]
theorem Eb(w:World)(o:Obj):(w.alloc o).heap[w.heap.size]?=some o:=by
 unfold World.alloc;simp only[Array.getElem?_push_size]
theorem dt(w:World)(o:Obj):Below w.heap.size w (w.alloc o):=(jdv _ _).alloc (jdw _) _
def kG(r:List Int×Nat)(w:World)(e:Ending)(w':World):Prop:=(∃ v,e=.returned (.tuple #[v,.int .i64 (r.2:Int)])/\bC w' w.heap.size v r.1)/\Below w.heap.size w w'
theorem Tl{w:World}{vb:Value}(n:Int)(hn:¬ (0<=n/\n<=256)):Calls Tryz.prog 296 #[vb,.int .i64 n] w (kG ([],1) w):=by
 by_cases h0:n<0
 ·clear hn
  go_enter Tryz.func296,Tryz.ntmps296
  go_wp2_with fail;go_ret2
  exact⟨⟨_,rfl,bC.nil _ _⟩,jdv _ _⟩
 ·have h1:n > 256:=by omega
  clear hn;go_enter Tryz.func296,Tryz.ntmps296
  go_wp2_with fail;go_ret2
  exact⟨⟨_,rfl,bC.nil _ _⟩,jdv _ _⟩
theorem NG{w:World}{vb:Value}(hb:Sv w vb [])(n:Int)(hn:0<=n/\n<=256):Calls Tryz.prog 296 #[vb,.int .i64 n] w (kG ([],30) w):=by
 obtain⟨a,cap,rfl,_⟩:=hb;have h0:¬ n<0:=by omega
 have h1:¬ n > 256:=by omega
 clear hn;go_enter Tryz.func296,Tryz.ntmps296
 go_wp2_with fail;go_ret2
 exact⟨⟨_,rfl,bC.nil _ _⟩,jdv _ _⟩
theorem Jg{w:World}{vb:Value}{c:Nat}{t:List Nat}(hb:Sv w vb (aF .u8 (c::t)))(h8:Bs (c::t))(hc:4<c)(n:Int)(hn:0<=n/\n<=256):Calls Tryz.prog 296 #[vb,.int .i64 n] w (kG ([],50) w):=by
 obtain⟨g,off,cap,rfl,h1,h2,h3,h4,_⟩:=hb.uncons;have h5:¬ n<0:=by omega
 have h6:¬ n > 256:=by omega
 have h7:(c:Int)>=5:=by omega
 have h9:=h8 c (by simp);have bw:cap<=9223372036854775807:=by unfold maxLen at h2;omega
 have bR:(((t.length+1:Nat):Int)==0)=false:=jdG.2 (by omega);clear hn hb h8 h2;go_enter Tryz.func296,Tryz.ntmps296
 go_wp2_with fail;go_ret2
 exact⟨⟨_,rfl,bC.nil _ _⟩,jdv _ _⟩
theorem NH{w:World}{vb:Value}{c:Nat}{t:List Nat}(hb:Sv w vb (aF .u8 (c::t)))(h8:Bs (c::t))(hc:c<=4)(n:Nat)(hn:n<=256):Calls Tryz.prog 296 #[vb,.int .i64 (n:Int)] w (kG (bq (c::t) (n:Int)) w):=by
 have HSB:=ae hb;have H8:=ae h8;obtain⟨g,off,cap,rfl,h1,h2,h3,h4,h4b,A,hA,hSA⟩:=hb.uncons;have lF:=ae hSA;have h5:¬ (n:Int)<0:=by omega
 have h6:¬ (n:Int) > 256:=by omega
 have h7:¬ (c:Int)>=5:=by omega
 have bw:cap<=9223372036854775807:=by unfold maxLen at h2;omega
 have bR:(((t.length+1:Nat):Int)==0)=false:=jdG.2 (by omega)
 have cU:jfp (StC 333 (w.alloc (.cells #[.slice A t.length (cap-1),.int .i64 0] 333)) w.heap.size t 0):=ae (by
  have hh:(w.alloc (.cells #[.slice A t.length (cap-1),.int .i64 0] 333)).heap[w.heap.size]?=some (.cells #[.slice A t.length (cap-1),.int .i64 0] 333 (0,0)):=by
   exact Eb _ _
  have PJ:Bs t:=fun x hx=>h8 x (by simp[hx])
  by_cases aW:cap=1
  ·rw[jdu aW]at hA
   subst hA;exact⟨g,off,cap-1,hh,h3,by omega,by omega,PJ,fun j hj=>by omega⟩
  ·rw[jdt aW]at hA
   subst hA;exact⟨g,off+1,cap-1,hh,h3,by omega,by omega,PJ,fun j hj=>((dt w _).cell (p:=⟨g,off+1+j,none⟩) h3).trans (h4b j hj)⟩)
 have HG:jfp (ee (aC (rdC c n) (fin c t) t) (aC (rdC c n) (fin c t)) t 0):=⟨fun _=>rfl,fun h=>absurd rfl h⟩;have LS:=ae (fun l h=>Tk (c:=c) (n:=n) (t:=t) (l:=l) hc hn h);have HER:=ae (fun e h=>NF (c:=c) (n:=n) (t:=t) (e:=e) hc hn h);have rS:=ae (Sz (fun r h=>Sg c t [] h) cU.o hn hc HG.o);generalize aC (rdC c n) (fin c t) t=D at *;generalize bq (c::t) (n:Int)=R at *;clear hb h8 h2 hSA h4b HG;go_enter Tryz.func296,Tryz.ntmps296
 go_wp2_with fail;refine rS.o.mono ?_;rintro e w2 ⟨l,b2,f2,⟨v2,rfl,eZ⟩,Qr,Aa,dN,ik,dD⟩;have du:=ae eZ;have rX:=ae Qr;have gl:=ae dN;have Kr:=ae ik;have aE:Below w.heap.size w w2:=(dt w _).trans (dD.below (jdw _) (by rw[jdx];omega));have aO:=ae aE;have bv:=aE.size;have jU:=dN.lt;clear eZ Qr dN ik dD aE;go_wp2_with fail;refine(Lj gl.o).mono ?_;rintro e w3 ⟨rfl,lr,gS⟩;have aS:Below w.heap.size w w3:=aO.o.trans (gS.below (jdw _) bv);have dh:=ae (du.o.fr gS (by rw[jdx];omega));have bP:=ae aS;have iH:=aS.size
 have Yk:jfp ((orf f2 (if b2.length=0 then 0 else 32)=0->D=if im c l=t then .ok (l,[]) else .error 40)/\(orf f2 (if b2.length=0 then 0 else 32)≠0->D=.error (orf f2 (if b2.length=0 then 0 else 32)))):=ae (by
  obtain⟨q1,q2⟩:=Kr.o;by_cases hf:f2=0
  ·subst hf
   rw[eV];have q3:=q1 rfl;unfold fin at q3;by_cases fT:b2.length=0
   ·rw[jdu fT]at q3 ⊢
    exact⟨fun _=>q3,fun e=>absurd rfl e⟩
   ·rw[jdt fT]at q3 ⊢
    exact⟨fun e=>by omega,fun _=>q3⟩
  ·rw[eC hf]
   exact⟨fun e=>absurd e hf,q2⟩)
 generalize orf f2 (if b2.length=0 then 0 else 32)=f3 at *;have ny:=ae lr;obtain⟨G,O,C,k0,k1,k2,k3,k4,k5,k6,k7,k8,k9⟩:=lr.cells;clear lr gS aS k0 k2 k3 k4 k5 k6 k7 k8 k9;have Zu:=ae (dh.o.low (show w.heap.size<=(w.alloc (.cells #[.slice A t.length (cap-1),.int .i64 0] 333)).heap.size by rw[jdx];omega));by_cases uU:((f3:Int)==0)=true
 ·have hf0':f3=0:=by simpa using uU
  have hD:=Yk.o.1 hf0';subst hf0';have PX:=ae (Ea (HSB.o.kept bP.o) H8.o hc dh.o.sv (by omega) rX.o);by_cases hw:im c l=t
  ·rw[jdu hw]at hD
   rw[jdO hw]at PX;have HR:=ae (LS.o l hD);clear hD hw uU;go_wp2_with fail;refine PX.o.mono ?_;rintro e w4 ⟨rfl,bK⟩;obtain⟨G',O',C',j0,j1,j2,j3,j4,j5,j6,j7,j8,j9⟩:=(ny.o.kept bK ny.o.lt).cells;have cx:=ae (bP.o.trans (bK.mono iH));have eR:=ae (Zu.o.kept bK);clear bK j0 j2 j3 j4 j5 j6 j7 j8 j9 k1;go_wp2_with fail;go_ret2
   rw[HR.o];exact⟨⟨_,rfl,eR.o⟩,cx.o⟩
  ·rw[jdt hw]at hD
   rw[jdK hw]at PX;have HR:=ae (HER.o 40 hD);clear hD hw uU;go_wp2_with fail;refine PX.o.mono ?_;rintro e w4 ⟨rfl,bK⟩;have uG:=ae (ny.o.kept bK ny.o.lt);have cx:=ae (bP.o.trans (bK.mono iH));have Ki:=cx.o.size;clear bK k1;go_wp2_with fail;refine(dp uG.o 40).mono ?_;rintro e w5 ⟨rfl,nz,jV⟩;rw[eV]at nz;obtain⟨G',O',C',j0,j1,j2,j3,j4,j5,j6,j7,j8,j9⟩:=nz.cells;have aR:=ae (cx.o.trans (jV.below (jdw _) Ki));clear nz jV j0 j2 j3 j4 j5 j6 j7 j8 j9;go_wp2_with fail;go_quiet (fail)
   go_wp2_with fail;go_ret2
   rw[HR.o];exact⟨⟨_,rfl,bC.nil _ _⟩,ap aR.o _⟩
 ·have hff:((f3:Int)==0)=false:=by simpa using uU
  have Zq:((f3:Int) != 0)=true:=by simpa using uU
  have hD:=Yk.o.2 (fun e=>uU (by simp[e]));have HR:=ae (HER.o f3 hD);clear hD uU;go_wp2_with fail;go_quiet (fail)
  go_wp2_with fail;go_ret2
  rw[HR.o];exact⟨⟨_,rfl,bC.nil _ _⟩,ap bP.o _⟩
theorem Ec{w:World}{vb:Value}{b:List Nat}(hb:Sv w vb (aF .u8 b))(h8:Bs b)(n:Int):Calls Tryz.prog 296 #[vb,.int .i64 n] w (kG (bq b n) w):=by
 by_cases hn:0<=n/\n<=256
 ·cases b with
  | nil =>
   have e:bq [] n=([],30):=by unfold bq;rw[jdu hn]
   rw[e];exact NG hb n hn
  | cons c t =>
   by_cases hc:c<=4
   ·obtain⟨m,rfl⟩:=jeY hn.1
    exact NH hb h8 hc m (by omega)
   ·have e:bq (c::t) n=([],50):=by unfold bq;rw[jdu hn];simp only;rw[jdu (by omega)]
    rw[e];exact Jg hb h8 (by omega) n hn
 ·have e:bq b n=([],1):=by unfold bq;rw[jdt hn]
  rw[e];exact Tl n hn
def SvK(W:World)(v:Value)(l:List Nat):Prop :=
 ∃ a cap,v=.slice a l.length cap/\l.length<=cap/\cap<=maxLen/\(a=none->cap=0) /\
  (0<l.length->∃ b off,a=some ⟨b,off,none⟩/\b<W.heap.size/\∀ j (h:j<l.length),W.cell? ⟨b,off+j,none⟩=some (.int .u8 (l[j]:Int)))
theorem SvK.kept{W W':World}{v:Value}{l:List Nat}(h:SvK W v l)(hb:Below W.heap.size W W'):SvK W' v l:=by
 obtain⟨a,cap,rfl,h1,h2,h3,h4⟩:=h;refine⟨a,cap,rfl,h1,h2,h3,fun h0=>?_⟩;obtain⟨b,off,rfl,h5,h6⟩:=h4 h0;exact⟨b,off,rfl,jdS h5 hb.size,fun j hj=>(hb.cell (p:=⟨b,off+j,none⟩) h5).trans (h6 j hj)⟩
theorem SvK.of_own{W:World}{B e n:Nat}{v:Value}{l:List Nat}(h:W.ownsRow B e 1 v n (aF .u8 l)):SvK W v l:=by
 have hl:l.length=n:=by have:=h.1;simpa [aF]using this
 obtain⟨_,h1⟩:=id h;rcases h1 with ⟨rfl,rfl⟩ | ⟨g,cap,cur,rfl,hb,hg,h4,h5,_⟩
 ·exact⟨none,0,by rw[hl],by omega,by unfold maxLen;omega,fun _=>rfl,fun h0=>by omega⟩
 ·refine⟨_,cap,by rw[hl],by omega,h5,fun h=>(by cases h),fun _=>⟨g,0,rfl,(Array.getElem?_eq_some_iff.1 hg).1,fun j hj=>?_⟩⟩
  have:=h.cells (g:=g) rfl j _ (bU hj);rw[mv]at this;rwa[jdZ]
theorem SvK.form{W:World}{v:Value}{l:List Nat}(h:SvK W v l):∃ a cap,v=.slice a l.length cap/\l.length<=cap/\cap<=maxLen:=by
 obtain⟨a,cap,h0,h1,h2,_⟩:=h;exact⟨a,cap,h0,h1,h2⟩
theorem SvK.take{W:World}{a:Option Addr}{n cap:Nat}{l:List Nat}(h:SvK W (.slice a n cap) l){k:Nat}(hk:k<=l.length):SvK W (.slice a k cap) (l.take k):=by
 obtain⟨a',c,h1,h2,h3,h4,h5⟩:=h;simp only[Value.slice.injEq]at h1;obtain⟨rfl,_,rfl⟩:=h1;have hl:(l.take k).length=k:=by rw[jdC];omega
 refine⟨_,cap,by rw[hl],by omega,h3,h4,fun h0=>?_⟩;obtain⟨b',off',h6,h7,h8⟩:=h5 (by omega);refine⟨b',off',h6,h7,fun j hj=>?_⟩;rw[h8 j (by omega),List.getElem_take]
theorem SvK.conv{W:World}{v:Value}{l:List Nat}(h:SvK W v l)(h8:Bs l):(convert 30 9 v).run Tryz.prog W=.ok (txt l) W:=by
 obtain⟨a,cap,rfl,h1,h2,_,h3⟩:=h;rcases jel l.length with h0 | hp
 ·obtain rfl:l=[]:=jdV h0
  first
   | exact run_convert_bytes_back_empty W 30 9 5 a cap Tryz.underlying30 Tryz.underlying5 Tryz.underlying9
   | (cases a<;>rfl)
   | (cases a<;>kernel_rfl)
 ·obtain⟨b,off,rfl,h4,h5⟩:=h3 hp
  have:=run_convert_bytes_back W 30 9 5 ⟨b,off,none⟩ cap (l.map Nat.toUInt8) Tryz.underlying30 Tryz.underlying5 Tryz.underlying9 (fun j hj=>by
   have hj':j<l.length:=by simpa using hj
   rw[nh,h5 j hj'];have h9:=h8 l[j] (jdA hj');congr 2
   simp[jen h9])
  rw[jdz]at this;exact this
theorem Tm{x y:Nat}(hx:x<256)(hy:y<256)(h:x.toUInt8=y.toUInt8):x=y:=by
 have:=jdB UInt8.toNat h;simpa [jen hx,jen hy]using this
theorem xe:∀{a b:List Nat},Bs a->Bs b->a.map Nat.toUInt8=b.map Nat.toUInt8->a=b
 | [],[],_,_,_=>rfl
 | [],_::_,_,_,h=>by simp at h
 | _::_,[],_,_,h=>by simp at h
 | x::a,y::b,ha,hb,h=>by
  simp only[jd5,List.cons.injEq]at h;rw[Tm (ha x (by simp)) (hb y (by simp)) h.1,xe (fun z hz=>ha z (by simp[hz])) (fun z hz=>hb z (by simp[hz])) h.2]
theorem aD.svK{W:World}{B:Nat}{v:Value}{bs:List Nat}(h:aD W B v bs):SvK W v bs:=SvK.of_own h
theorem aD.form{W:World}{B:Nat}{v:Value}{bs:List Nat}(h:aD W B v bs)(hp:0<bs.length):∃ g cap,v=.slice (some ⟨g,0,none⟩) bs.length cap/\B<=g/\g<W.heap.size:=by
 obtain⟨hl,h1⟩:=id h;rcases h1 with ⟨rfl,h0⟩ | ⟨g,cap,cur,rfl,hb,hg,h4⟩
 ·omega
 ·exact⟨g,cap,rfl,hb,(Array.getElem?_eq_some_iff.1 hg).1⟩
theorem aD.at{W:World}{B g n cap:Nat}{bs:List Nat}(h:aD W B (.slice (some ⟨g,0,none⟩) n cap) bs){j:Nat}(hj:j<bs.length):W.cell? ⟨g,j,none⟩=some (.int .u8 (bs[j]:Int))/\W.frozen? ⟨g,j,none⟩=false:=by
 have hn:n=bs.length:=by
  obtain⟨a,cap,h1,_⟩:=h.svK;simp only[Value.slice.injEq]at h1;exact h1.2.1
 subst hn;unfold aD at h;exact⟨(h.cellAt j (by omega)).trans (bU hj),h.frozenAt j⟩
theorem aD.stored{W:World}{B g n cap:Nat}{bs:List Nat}(h:aD W B (.slice (some ⟨g,0,none⟩) n cap) bs)(j c:Nat):aD (W.setCell ⟨g,j,none⟩ (.int .u8 (c:Int))) B (.slice (some ⟨g,0,none⟩) n cap) (bs.set j c):=by
 have hn:n=bs.length:=by
  obtain⟨a,cap,h1,_⟩:=h.svK;simp only[Value.slice.injEq]at h1;exact h1.2.1
 subst hn;unfold aD at *;have:=(h.stored j (.int .u8 (c:Int))).1;rw[kn]at this;rw[jeS];exact this
theorem ef{w:World}{ops:Array Oper}{rest:List Oper}{o:Oper}{a:Act}{Q:Exit->Act->World->Prop}(ex:o.guard=none)(s x:Operand)
  (ho:o.op=.call { callee:=.builtin .append,args:=#[s,x],argTypes:=#[30,30] })
  (base:Nat) (v vx:Value) (l0 l:List Nat) (hs:a.eval s=v) (aA:aD w base v l0) (hx:a.eval x=vx) (fG:SvK w vx l)
  (hbytes:l0.length+l.length<=140737488355328) (aJ:base<=w.heap.size)
  (h:∀ v' w',aD w' base v' (l0++l)->Below base w w'->wpList Tryz.prog ops Q rest (a.put o.dst v') w') :
  wpList Tryz.prog ops Q (o::rest) a w:=by
 obtain⟨i0,hi,ct,hz1',bv⟩:=jdP jk;unfold aD at *;obtain⟨ad,cap,rfl,h1,h2,h3,h4⟩:=fG;cases ad with
 | none =>
  have hc:=h3 rfl;subst hc;have hl:l=[]:=jdV (by omega);subst hl;refine wpList_plain ex fun K hK=>?_
  have hr:=je9 (P:=Tryz.prog) (w:=w) base 30 o.type 5 i0 1 Tryz.underlying30 hi v l0.length (aF .u8 l0) aA;unfold Oper.wp execOp;simp only[ho,resolve,invoke,builtin,Sem.run_bind,Sem.run_pure,Result.andThen_ok,jeJ,jd5,jes,hs,hx,hr,jdX];refine hK _ _ (h v w ?_ (jdv _ _));rw[jdT];exact aA
 | some ad =>
  refine jeb (w:=w) ex s x 30 ho base 5 i0 (.int .u8 0) 1 1 Tryz.underlying30 hi ct hz1' bv rfl (by decide) v l0.length (aF .u8 l0) hs aA ad l.length cap (aF .u8 l) hx (by rw[ar];omega) ?_ (fU _ _) (by unfold maxLen;omega) (by omega) aJ ?_
  ·intro j u hu
   have hj:j<l.length:=by
    have:=(List.getElem?_eq_some_iff.1 hu).1;rwa[ar]at this
   obtain⟨b,off,h5,_,h6⟩:=h4 (by omega);cases h5
   rw[nh,h6 j hj];rw[bU hj]at hu;exact hu
  ·intro v' w' o1 g1 _ _
   refine h v' w' ?_ ((jdv base w).grown g1 aJ (fun k hk=>(aA.lt k hk).1));rw[cd,jdy];exact o1
def Tab(W:World):Prop:=0<W.heap.size/\∀ i:Nat,i<16->W.cell? ⟨0,i,none⟩=some (.int .u32 ((ez 4 i:Nat):Int))
theorem Tab.kept{W W':World}(h:Tab W)(hb:Below W.heap.size W W'):Tab W' :=
 ⟨jdS h.1 hb.size,fun i hi=>(hb.cell (p:=⟨0,i,none⟩) h.1).trans (h.2 i hi)⟩
theorem Ed{w:World}(ht:Tab w)(s:Nat)(hs:s<4294967296):Calls Tryz.prog 165 #[.int .u32 (s:Int)] w fun e w'=>e=.returned (.int .u32 ((ez 4 s:Nat):Int))/\w'=w:=by
 have hc:=ht.2 (s % 16) (Nat.mod_lt _ (by omega));have uI:=Nz 4 s;have aB:=ro 4 (c:=s % 16) (by omega);have hx:=u32_xor_nat (s / 16) (ez 4 (s % 16)) (by omega) aB;rw[Nat.xor_comm,← uI]at hx;clear uI;obtain⟨r,hr⟩:∃ r,s % 16=r:=⟨_,rfl⟩;obtain⟨q,hq⟩:∃ q,s / 16=q:=⟨_,rfl⟩;have hr16:r<16:=by omega
 have ha:bits .and .u32 (s:Int) 15=(r:Int):=by
  have:=u32_and_nat s 15 hs (by omega);rw[nat_mask4,hr]at this;exact this
 have nj:(s:Int) / 16=(q:Int):=by omega
 rw[hr]at hc hx;rw[hq]at hx;generalize ez 4 r=t at *;generalize ez 4 s=u at *;clear hr hq;go_enter Tryz.func165,Tryz.ntmps165
 go_wp2_with fail;go_ret
 exact⟨rfl,rfl⟩
theorem Ee{c:Nat}{l:List Nat}{k:Nat}(h:k<l.length):run c (l.take (k+1))=byt (run c (l.take k)) l[k]:=by
 rw[jdM h,Ti]
theorem Bs.get{l:List Nat}(h:Bs l){k:Nat}(hk:k<l.length):l[k]<256:=h _ (jdA hk)
theorem Bs.le4(s:Nat):Bs (le4 s):=sU s
theorem Bs.seal{b:List Nat}(h:Bs b):Bs (bX b):=h.append (Bs.le4 _)
theorem Tn{w:World}{v:Value}{l:List Nat}(ht:Tab w)(hs:SvK w v l)(h8:Bs l)(c:Nat)(hc:c<4294967296) :
  Calls Tryz.prog 118 #[.int .u32 (c:Int),v] w fun e w'=>e=.returned (.int .u32 ((ni c l:Nat):Int))/\w'=w:=by
 obtain⟨a,cap,rfl,h1,h2,_,eQ⟩:=hs;have py:l.length<=9223372036854775807:=by unfold maxLen at h2;omega
 have HC:=ae eQ;have H8:=ae h8;have HT:=ae ht
 have VR:bits .xor .u32 IntKind.u32.max (c:Int)=((c ^^^ 4294967295:Nat):Int):=by
  have:=u32_xor_nat 4294967295 c (by omega) hc;rw[Nat.xor_comm]at this;exact this
 have yw:c ^^^ 4294967295<4294967296:=kE hc (by omega);have HE:jfp (ni c l=run (c ^^^ 4294967295) l ^^^ 4294967295):=ae rfl;have HE:=HE;generalize ni c l=R at *;generalize c ^^^ 4294967295=s0 at *;clear eQ h8 ht h1 h2;go_enter Tryz.func118,Tryz.ntmps118
 go_wp2_with fail;go_loopw [5,12] (fun st i w'=>w'=w/\∃ k:Nat,k<=l.length/\i=.int .i64 (k:Int)/\st=.int .u32 ((run s0 (l.take k):Nat):Int)) (fun _ i _=>l.length-(intOf i).toNat)
 case atStart=>exact⟨rfl,0,by omega,rfl,rfl⟩
 case round =>
  obtain⟨rfl,k,hk,rfl,rfl⟩:=hrel;by_cases aB:k<l.length
  ·obtain⟨b,off,rfl,hb,br⟩:=HC.o (by omega)
   have ek:=br k aB;have hx8:=H8.o.get aB;have fG:run s0 (l.take k)<4294967296:=sT yw (H8.o.take k)
   have HN:jfp (run s0 (l.take (k+1))=ez 4 (ez 4 (run s0 (l.take k) ^^^ l[k]))):=by
    show _=_
    rw[Ee aB];exact nQ 4 4 _
   clear br;generalize l[k]=x at *;generalize run s0 (l.take k)=s at *;have Wa:=u32_xor_nat s x fG (by omega);have yv:s ^^^ x<4294967296:=kE fG (by omega);generalize s ^^^ x=y at *;have hy1:ez 4 y<4294967296:=ro 4 yv;go_wp2_with fail;refine(Ed HT.o y yv).mono ?_;rintro e w1 ⟨rfl,rfl⟩;generalize ez 4 y=y1 at *;go_wp2_with fail;refine(Ed HT.o y1 hy1).mono ?_;rintro e w2 ⟨rfl,rfl⟩;generalize ez 4 y1=y2 at *;go_wp2_with fail;go_roundw
   case rel=>exact⟨trivial,k+1,by omega,by go_num,by rw[HN.o]⟩
   case measure=>simp[intOf];omega
  ·obtain rfl:k=l.length:=by omega
   rw[jdE];have fG:run s0 l<4294967296:=sT yw H8.o;have Wa:=u32_xor_nat 4294967295 (run s0 l) (by omega) fG;rw[Nat.xor_comm,← HE.o]at Wa;have hxx':bits .xor .u32 IntKind.u32.max ((run s0 l:Nat):Int)=(R:Int):=Wa;clear Wa;generalize run s0 l=s at *;go_wp2_with fail;go_ret
   exact⟨rfl,rfl⟩
theorem Xl{w:World}{v:Value}{l:List Nat}(ht:Tab w)(hs:SvK w v l)(h8:Bs l) :
  Calls Tryz.prog 79 #[v] w fun e w'=>e=.returned (.int .u32 ((ni 0 l:Nat):Int))/\w'=w:=by
 have HM:=ae (Tn ht hs h8 0 (by omega));obtain⟨a,cap,rfl,h1,h2⟩:=hs.form;clear hs h8 ht;generalize ni 0 l=R at *;go_enter Tryz.func79,Tryz.ntmps79
 go_wp2_with fail;refine HM.o.mono ?_;rintro e w1 ⟨rfl,rfl⟩;go_wp2_with fail;go_ret
 exact⟨rfl,rfl⟩
theorem Ef(x:Nat):IntKind.u8.wrap ((x:Nat):Int)=((x % 256:Nat):Int):=by rw[IntKind.wrap_u8];omega
theorem Eg{w:World}{v:Value}{l:List Nat}(ht:Tab w)(hs:SvK w v l)(h8:Bs l)(hl:l.length<=100000000) :
  Calls Tryz.prog 40 #[v] w (dw w (bX l)):=by
 have HO:=ae (Xl ht hs h8);have HS:=ae hs;have HE:jfp (bX l=l++le4 (ni 0 l)):=ae rfl;have hc:=uQ (c:=0) (by omega) h8;obtain⟨a,cap,rfl,h1,h2⟩:=hs.form;clear hs h8 ht h1 h2;generalize ni 0 l=c at *;have se:(c:Int) / 256=((c / 256:Nat):Int):=by omega
 have nj:(c:Int) / 65536=((c / 65536:Nat):Int):=by omega
 have LW:(c:Int) / 16777216=((c / 16777216:Nat):Int):=by omega
 have HD:jfp (le4 c=[c % 256,c / 256 % 256,c / 65536 % 256,c / 16777216 % 256]):=ae rfl;have g0:=Ef c;have g1:=Ef (c / 256);have g2:=Ef (c / 65536);have g3:=Ef (c / 16777216);generalize c / 256=c1 at *;generalize c / 65536=c2 at *;generalize c / 16777216=c3 at *;generalize c % 256=d0 at *;generalize c1 % 256=d1 at *;generalize c2 % 256=d2 at *;generalize c3 % 256=d3 at *;obtain⟨i0,hi,ct,hz1',bv⟩:=jdP jk;go_enter Tryz.func40,Tryz.ntmps40
 go_wp2_with fail;refine HO.o.mono ?_;rintro e w1 ⟨rfl,rfl⟩;go_wp2_with (first | (refine wpList_make_own _ rfl _ _ 30 rfl w1.heap.size 5 i0 (.int .u8 0) 1 Tryz.underlying30 hi ct hz1' .i64 .i64 _ (l.length+4) rfl rfl ?m1 ?m2 ?m3 ?m4 ?_))
 case m1=>first | rfl | omega
 case m2=>rw[bv];omega
 case m3=>unfold maxLen;omega
 case m4=>omega
 intro w2 eZ ik;have aE:Below w1.heap.size w1 w2:=(jdv _ _).grown ik (jdw _) (fun k hk=>by cases hk);have ho2':aD w2 w1.heap.size (.slice (some ⟨w1.heap.size,0,none⟩) 0 (l.length+4)) []:=eZ;have du:=ae ho2';have aO:=ae aE;have gl:=ae (HS.o.kept aE);have jw:=aE.size;clear eZ ik aE ho2';go_wp2_with (first | (at_builtin;refine ef rfl _ _ rfl w1.heap.size _ _ [] l rfl du.o rfl gl.o ?c1 ?c2 ?_))
 case c1=>simp;omega
 case c2=>omega
 intro v3 w3 o3 aS;have dh:=ae o3;have bP:=ae (aO.o.trans aS);have hsz3:=aS.size;clear o3 aS;have UT:jfp (aD (w3.alloc (.cells #[.int .u8 (d0:Int),.int .u8 (d1:Int),.int .u8 (d2:Int),.int .u8 (d3:Int)] 5)) w3.heap.size (.slice (some ⟨w3.heap.size,0,none⟩) 4 4) [d0,d1,d2,d3]):=ae (ot w3 [d0,d1,d2,d3] (by unfold maxLen;simp));have eR:=ae (dh.o.kept (dt w3 (.cells #[.int .u8 (d0:Int),.int .u8 (d1:Int),.int .u8 (d2:Int),.int .u8 (d3:Int)] 5)));go_wp2_with (first | (at_builtin;refine ef rfl _ _ rfl w1.heap.size _ _ ([]++l) [d0,d1,d2,d3] rfl ?q1 rfl ?q2 ?c3 ?c4 ?_))
 case q1=>exact eR.o
 case q2=>exact UT.o.svK
 case c3=>simp;omega
 case c4=>rw[jdx];omega
 intro v5 w5 o5 bD;try rw[jeu]at o5
 rw[← HD.o,← HE.o]at o5;have dE:=ae o5;have aR:=ae (bP.o.trans (((dt w3 (.cells #[.int .u8 (d0:Int),.int .u8 (d1:Int),.int .u8 (d2:Int),.int .u8 (d3:Int)] 5)).mono (by omega)).trans bD));clear o5 bD;go_wp2_with fail;go_ret
 exact⟨⟨_,rfl,dE.o⟩,aR.o⟩
theorem Xm{a b:List Nat}(ha:Bs a)(hb:Bs b):(a.map Nat.toUInt8==b.map Nat.toUInt8)=decide (a=b):=by
 rw[jeX];simp only[beq_iff_eq,jei];exact⟨xe ha hb,fun h=>by rw[h]⟩
theorem Jh{w:World}{v u:Value}{a b:List Nat}(ha:SvK w v a)(hb:SvK w u b)(ha8:Bs a)(lD:Bs b) :
  Calls Tryz.prog 92 #[v,u] w fun e w'=>e=.returned (.bool (decide (a=b)))/\w'=w:=by
 have lp:=ha.conv ha8;have jT:=hb.conv lD;have HE:=ae (Xm ha8 lD);obtain⟨a1,cap1,rfl,_,_⟩:=ha.form;obtain⟨a2,cap2,rfl,_,_⟩:=hb.form;unfold txt at lp jT;generalize a.map Nat.toUInt8=x at *;generalize b.map Nat.toUInt8=y at *;generalize decide (a=b)=t at *;clear ha hb ha8 lD;go_enter Tryz.func92,Tryz.ntmps92
 go_wp2_with fail;go_ret
 refine⟨?_,rfl⟩;rw[← HE.o];simp
theorem Ji{w:World}{v:Value}{l:List Nat}(hs:SvK w v l)(hl:l.length<=100000000) :
  Calls Tryz.prog 93 #[v] w (dw w l):=by
 have HS:=ae hs;obtain⟨ad,cap,rfl,h1,h2,h3,_⟩:=hs;cases ad with
 | none =>
  have hc:=h3 rfl;subst hc;have rR:l=[]:=jdV (by omega);subst rR;have hq:(binOp .eql 30 (.slice none 0 0) (.slice none 0 0)).run Tryz.prog w=.ok (.bool true) w:=jfk w 30 5 none 0 0 0 0 Tryz.underlying30;go_enter Tryz.func93,Tryz.ntmps93
  go_wp2_with fail;go_ret
  exact⟨⟨_,rfl,aD.nil _ _⟩,jdv _ _⟩
 | some ad =>
  have HN:=ae (vk w);have gl:=ae (HS.o.kept (dt w (.cells #[] 5)));clear h3;have hq:(binOp .eql 30 (.slice (some ad) l.length cap) (.slice none 0 0)).run Tryz.prog w=.ok (.bool false) w:=jfk w 30 5 (some ad) l.length cap 0 0 Tryz.underlying30;go_enter Tryz.func93,Tryz.ntmps93
  go_wp2_with (first | (at_builtin;refine ef rfl _ _ rfl w.heap.size _ _ [] l rfl ?q1 rfl ?q2 ?c1 ?c2 ?_))
  case q1=>exact HN.o
  case q2=>exact gl.o
  case c1=>simp;omega
  case c2=>rw[jdx];omega
  intro v3 w3 o3 aS;have dh:=ae o3;have bP:=ae ((dt w (.cells #[] 5)).trans aS);clear o3 aS;go_wp2_with fail;go_ret
  exact⟨⟨_,rfl,dh.o⟩,bP.o⟩
def jaK(w:World)(o:Option (List Nat))(e:Ending)(w':World):Prop:=(∃ v,e=.returned (.tuple #[v,.bool o.isSome])/\aD w' w.heap.size v (o.getD []))/\Below w.heap.size w w'
theorem Eh{l:List Nat}(h:l.length<4):jq l=none:=by
 unfold jq;rw[jdt (by omega)]
theorem To{w:World}{v:Value}{l:List Nat}(ht:Tab w)(hs:SvK w v l)(h8:Bs l)(hl:l.length<=100000000) :
  Calls Tryz.prog 51 #[v] w (jaK w (jq l)):=by
 have HS:=ae hs;obtain⟨a,cap,rfl,h1,h2⟩:=hs.form;have py:l.length<=9223372036854775807:=by omega
 by_cases h4:l.length<4
 ·rw[Eh h4]
  have aB:(l.length:Int)-4<0:=by omega
  clear hs h8 ht h1 h2;go_enter Tryz.func51,Tryz.ntmps51
  go_wp2_with fail;go_ret2
  exact⟨⟨_,rfl,aD.nil _ _⟩,jdv _ _⟩
 ·obtain⟨n,hn⟩:∃ n,l.length=n+4:=⟨l.length-4,by omega⟩
  have qq:¬ (n:Int)<0:=by omega
  have UB:n<=l.length:=by omega
  have hA:=hs.take UB;have HA:=ae hA;have H8:=ae h8;have H8t:=ae (h8.take n);have HSE:=ae (Eg ht hA (h8.take n) (by rw[jdC];omega))
  have kl:jfp (jq l=if bX (l.take n)=l then some (l.take n) else none):=by
   show _=_
   unfold jq;rw[hn,Nat.add_sub_cancel];simp
  have pB:(l.length:Int)-4=(n:Int):=by omega
  have bR:(l.take n).length<=100000000:=by rw[jdC];omega
  have hncap:n<=cap:=by omega
  rw[hn]at HS;rw[hn];clear hs h8 ht h1 h2 hA py;have H8s:=ae H8t.o.seal;generalize jq l=R at *;generalize l.take n=m at *;go_enter Tryz.func51,Tryz.ntmps51
  go_wp2_with fail;refine HSE.o.mono ?_;rintro e w1 ⟨⟨v1,rfl,o1⟩,aH⟩;have Zw:=ae (Jh (HS.o.kept aH) o1.svK H8.o H8s.o);have UY:=ae (HA.o.kept aH);have aQ:=ae aH;clear o1 aH;by_cases yH:bX m=l
  ·rw[yH,jdO rfl]at Zw
   have HR:jfp (R=some m):=by show _=_;rw[kl.o,jdu yH]
   clear yH kl H8s;go_wp2_with fail;refine Zw.o.mono ?_;rintro e w2 ⟨rfl,rfl⟩;go_wp2_with fail;refine(Ji UY.o bR).mono ?_;rintro e w3 ⟨⟨v3,rfl,o3⟩,aS⟩;have dh:=ae o3;have bP:=ae aS;clear o3 aS;go_wp2_with fail;go_ret2
   rw[HR.o];refine⟨⟨_,rfl,?_⟩,ai aQ.o bP.o⟩;exact dh.o.low aQ.o.size
  ·rw[jdK (fun h=>yH h.symm)]at Zw
   have HR:jfp (R=none):=by show _=_;rw[kl.o,jdt yH]
   clear yH kl H8s;go_wp2_with fail;refine Zw.o.mono ?_;rintro e w2 ⟨rfl,rfl⟩;go_wp2_with fail;go_ret2
   rw[HR.o];exact⟨⟨_,rfl,aD.nil _ _⟩,aQ.o⟩
theorem sW{w:World}{ops:Array Oper}{rest:List Oper}{o:Oper}{a:Act}{Q:Exit->Act->World->Prop}(ex:o.guard=none)(s x:Operand)
  (ho:o.op=.call { callee:=.builtin .append,args:=#[s,x],argTypes:=#[30,30] })
  (base:Nat) (v vx:Value) (l0 l:List Nat) (hs:a.eval s=v) (aA:aD w base v l0) (hx:a.eval x=vx) (fG:Sv w vx (aF .u8 l))
  (hbytes:l0.length+l.length<=140737488355328) (aJ:base<=w.heap.size)
  (h:∀ v' w',aD w' base v' (l0++l)->w.grownBy w' v.ownBlock->wpList Tryz.prog ops Q rest (a.put o.dst v') w') :
  wpList Tryz.prog ops Q (o::rest) a w:=by
 obtain⟨i0,hi,ct,hz1',bv⟩:=jdP jk;unfold aD at *;obtain⟨ad,cap,rfl,h1,h2,h3,h4⟩:=fG;rw[ar]at *;cases ad with
 | none =>
  have hc:=h3 rfl;subst hc;have hl:l=[]:=jdV (by omega);subst hl;refine wpList_plain ex fun K hK=>?_
  have hr:=je9 (P:=Tryz.prog) (w:=w) base 30 o.type 5 i0 1 Tryz.underlying30 hi v l0.length (aF .u8 l0) aA;unfold Oper.wp execOp;simp only[ho,resolve,invoke,builtin,Sem.run_bind,Sem.run_pure,Result.andThen_ok,jeJ,jd5,jes,hs,hx,hr,jdX];refine hK _ _ (h v w ?_ ⟨rfl,rfl,rfl,jdw _,fun _ _ _=>rfl⟩);rw[jdT];exact aA
 | some ad =>
  refine jeb (w:=w) ex s x 30 ho base 5 i0 (.int .u8 0) 1 1 Tryz.underlying30 hi ct hz1' bv rfl (by decide) v l0.length (aF .u8 l0) hs aA ad l.length cap (aF .u8 l) hx (by rw[ar];omega) ?_ (fU _ _) (by unfold maxLen;omega) (by omega) aJ ?_
  ·intro j u hu
   have hj:j<l.length:=by
    have:=(List.getElem?_eq_some_iff.1 hu).1;rwa[ar]at this
   obtain⟨b,off,h5,_,h6⟩:=h4 (by omega);cases h5
   rw[nh];exact h6 j u hu
  ·intro v' w' o1 g1 _ _
   refine h v' w' ?_ g1;rw[cd,jdy];exact o1
def Gs(W:World)(g:Nat)(v:Value)(bs:List Nat):Prop:=W.heap[g]?=some (.cells #[v] 30 (0,0))/\aD W (g+1) v bs
theorem Gs.lt{W:World}{g:Nat}{v:Value}{bs:List Nat}(h:Gs W g v bs):g<W.heap.size:=(Array.getElem?_eq_some_iff.1 h.1).1
theorem Gs.kept{W W':World}{g:Nat}{v:Value}{bs:List Nat}(h:Gs W g v bs)(hb:Below W.heap.size W W'):Gs W' g v bs:=⟨(hb.block g h.lt).trans h.1,h.2.kept hb⟩
def Xn(w:World)(g:Nat)(v:Value)(bs:List Nat)(e:Ending)(w':World):Prop :=
 e=.returned (.tuple #[])/\(∃ v',Gs w' g v' bs)/\Below g w w'/\∀ k,k<w.heap.size->k≠g->v.ownBlock≠some k->w'.heap[k]?=w.heap[k]?
def js(w:World)(g:Nat)(bs:List Nat)(e:Ending)(w':World):Prop:=e=.returned (.tuple #[])/\(∃ v',Gs w' g v' bs)/\Below g w w'
theorem eW{w:World}{g:Nat}{v vp:Value}{bs ps:List Nat}(h:Gs w g v bs)(hp:Sv w vp (aF .u8 ps))(hl:bs.length+ps.length<=1000000) :
  Calls Tryz.prog 168 #[vp,.pointer (some ⟨g,0,none⟩)] w (Xn w g v (bs++ps)):=by
 have aB:=h.lt;have HG:=ae h;have HP:=ae hp;have hc:w.cell? ⟨g,0,none⟩=some v:=by rw[ay h.1];rfl
 have hfz:w.frozen? ⟨g,0,none⟩=false:=by simp[World.frozen?,h.1]
 clear h hp;go_enter Tryz.func168,Tryz.ntmps168
 go_wp2_with (first | (at_builtin;refine sW rfl _ _ rfl (g+1) _ _ bs ps rfl HG.o.2 rfl HP.o ?c1 ?c2 ?_))
 case c1=>omega
 case c2=>omega
 intro v' w1 o1 g1
 have fF:some g≠v.ownBlock:=fun e=>by
  have:=(HG.o.2.lt g e.symm).1;omega
 have hh:w1.heap[g]?=some (.cells #[v] 30 (0,0)):=(g1.block g aB fF).trans HG.o.1;have lp:w1.cell? ⟨g,0,none⟩=some v:=by rw[ay hh];rfl
 have hfz1:w1.frozen? ⟨g,0,none⟩=false:=by simp[World.frozen?,hh]
 obtain⟨a1,c1,rfl⟩:=o1.len;have eY:=ae o1;have tu:=ae g1;have HH:=ae hh;clear o1 g1 hh hc hfz;go_wp2_with fail;go_end0
 have Kz:=dy HH.o 0 (.slice a1 (bs++ps).length c1);rw[← jdy];refine⟨rfl,⟨_,Kz,?_⟩,?_,?_⟩
 ·have:=Fr.own (p:=g) ((Fr.refl g w1.heap.size w1).set 0 (.slice a1 (bs++ps).length c1)) eY.o (by omega)
  exact this
 ·exact((jdv g w).grown tu.o (by omega) (fun k hk=>by have:=(HG.o.2.lt k hk).1;omega)).setCell (jdw _) _
 ·intro k hk hkg hkv
  rw[Below.heap_setCell _ _ _ _ hkg];exact tu.o.block k hk (fun e=>hkv e.symm)
theorem Tp{w:World}{p q:Value}{bs:List Nat}
  (H:∀ W,Gs W w.heap.size (.slice none 0 0) []->Below w.heap.size w W->Calls Tryz.prog 124 #[.func (.func 168) #[] #[.pointer (some ⟨w.heap.size,0,none⟩)],p,q] W (js W w.heap.size bs)) :
  Calls Tryz.prog 123 #[.func (.func 124) #[] #[p,q]] w (dw w bs):=by
 have HH:=ae H;clear H;go_enter Tryz.func123,Tryz.ntmps123
 go_wp2_with fail;refine(HH.o _ ?g1 ?g2).mono ?_
 case g1=>exact⟨jdW _ _,aD.nil _ _⟩
 case g2=>exact am _ _
 rintro e w1 ⟨rfl,⟨v1,eS⟩,aH⟩;have lp:w1.cell? ⟨w.heap.size,0,none⟩=some v1:=by rw[ay eS.1];rfl
 have tu:=ae eS;have aQ:=ae ((am w (.cells #[.slice none 0 0] 30)).trans aH);clear eS aH;go_wp2_with fail;go_ret
 exact⟨⟨_,rfl,tu.o.2.low (by omega)⟩,aQ.o⟩
theorem Tq{w:World}{p:Value}{bs:List Nat}
  (H:∀ W,Gs W w.heap.size (.slice none 0 0) []->Below w.heap.size w W->Calls Tryz.prog 205 #[.func (.func 168) #[] #[.pointer (some ⟨w.heap.size,0,none⟩)],p] W (js W w.heap.size bs)) :
  Calls Tryz.prog 123 #[.func (.func 205) #[] #[p]] w (dw w bs):=by
 have HH:=ae H;clear H;go_enter Tryz.func123,Tryz.ntmps123
 go_wp2_with fail;refine(HH.o _ ?g1 ?g2).mono ?_
 case g1=>exact⟨jdW _ _,aD.nil _ _⟩
 case g2=>exact am _ _
 rintro e w1 ⟨rfl,⟨v1,eS⟩,aH⟩;have lp:w1.cell? ⟨w.heap.size,0,none⟩=some v1:=by rw[ay eS.1];rfl
 have tu:=ae eS;have aQ:=ae ((am w (.cells #[.slice none 0 0] 30)).trans aH);clear eS aH;go_wp2_with fail;go_ret
 exact⟨⟨_,rfl,tu.o.2.low (by omega)⟩,aQ.o⟩
theorem Tr{w:World}{p q:Value}{bs:List Nat}
  (H:∀ W,Gs W w.heap.size (.slice none 0 0) []->Below w.heap.size w W->Calls Tryz.prog 210 #[.func (.func 168) #[] #[.pointer (some ⟨w.heap.size,0,none⟩)],p,q] W (js W w.heap.size bs)) :
  Calls Tryz.prog 123 #[.func (.func 210) #[] #[p,q]] w (dw w bs):=by
 have HH:=ae H;clear H;go_enter Tryz.func123,Tryz.ntmps123
 go_wp2_with fail;refine(HH.o _ ?g1 ?g2).mono ?_
 case g1=>exact⟨jdW _ _,aD.nil _ _⟩
 case g2=>exact am _ _
 rintro e w1 ⟨rfl,⟨v1,eS⟩,aH⟩;have lp:w1.cell? ⟨w.heap.size,0,none⟩=some v1:=by rw[ay eS.1];rfl
 have tu:=ae eS;have aQ:=ae ((am w (.cells #[.slice none 0 0] 30)).trans aH);clear eS aH;go_wp2_with fail;go_ret
 exact⟨⟨_,rfl,tu.o.2.low (by omega)⟩,aQ.o⟩
end Go.Proofs.YtpljdjmpamjkhaaGreatDoor
