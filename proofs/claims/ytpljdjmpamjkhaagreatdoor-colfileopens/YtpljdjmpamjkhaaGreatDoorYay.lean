import Derived.Test.YtpljdjmpamjkhaaGreatDoorYac
import Derived.Test.YtpljdjmpamjkhaaGreatDoorYav
import Derived.Test.YtpljdjmpamjkhaaGreatDoorYam
import Derived.Test.YtpljdjmpamjkhaaGreatDoorYab
import Derived.Test.YtpljdjmpamjkhaaGreatDoorYal
import Derived.Test.YtpljdjmpamjkhaaGreatDoorYaw
import Derived.Test.YtpljdjmpamjkhaaGreatDoorProg
import Derived.WalkKit
import Derived.WalkLawsBesides
import Derived.Outline
import Derived.WalkSpells
import Derived.Lib.OthersKept
import Derived.Maps.AppendAt
import Derived.Laws.OwnMore
import Derived.BigQuiet
import Derived.BigRegion
import Derived.Lib.VarintBits
import Derived.Test.YtpljdjmpamjkhaaGreatDoorYaf
import Derived.Laws.BitsAllLaws
set_option linter.unusedVariables false
set_option linter.unusedSimpArgs false
set_option maxRecDepth 100000
set_option maxHeartbeats 4000000
namespace Go.Proofs.YtpljdjmpamjkhaaGreatDoor
open Go.RowKit Go.Lib
theorem oo{w:World}{va vb:Value}{a b:List Nat}(ha:Sv w va (aE .u8 a))(hb:Sv w vb (aE .u8 b))(h8:Bs a)(h9:Bs b) :
  Calls Tryz.prog 92 #[va,vb] w fun e w'=>e=.returned (.bool (decide (a=b)))/\w'=w:=by
 have UN:=ha.conv h8;have SH:=hb.conv h9;have HE:=ae (Nk h8 h9);clear ha hb;unfold txt at UN SH;generalize a.map Nat.toUInt8=x at *;generalize b.map Nat.toUInt8=y at *;go_enter Tryz.func92,Tryz.ntmps92
 go_wp2_with fail;go_ret
 refine⟨?_,rfl⟩
 have e:(x==y)=decide (a=b):=by
  by_cases h:a=b
  ·rw[decide_eq_true h,HE.out.2 h]
   simp
  ·rw[decide_eq_false h]
   simp
   exact fun e=>h (HE.out.1 e)
 rw[← e];rfl
theorem Lo(k:IntKind)(c:Nat)(t:List Nat):aE k (c::t)=.int k (c:Int)::aE k t:=rfl
theorem Sv.uncons{W:World}{v:Value}{c:Nat}{t:List Nat}(h:Sv W v (aE .u8 (c::t))) :
  ∃ g off cap,v=.slice (some ⟨g,off,none⟩) (t.length+1) cap/\t.length+1<=cap/\cap<=maxLen/\g<W.heap.size/\W.cell? ⟨g,off,none⟩=some (.int .u8 (c:Int)) /\
   (∀ j (h:j<t.length),W.cell? ⟨g,off+1+j,none⟩=some (.int .u8 (t[j]:Int))) /\
   ∃ A,(if cap=1 then (some ⟨g,off,none⟩:Option Addr) else some ⟨g,off+1,none⟩)=A/\Sv W (.slice A t.length (cap-1)) (aE .u8 t):=by
 have h0:=h;obtain⟨a,cap,rfl,h1,h2,h3,h4⟩:=h;rw[ap,ZW]at *;obtain⟨g,off,rfl,h5,h6⟩:=h4 (by omega);refine⟨g,off,cap,rfl,h1,h2,h5,by simpa using h6 0 _ rfl,fun j hj=>?_,?_⟩
 ·have:=h6 (j+1) _ (bR (k:=.u8) (l:=c::t) (j:=j+1) (by simpa using hj))
  rw[show off+1+j=off+(j+1) by omega,this];simp
 ·obtain⟨A,hA,hSA⟩:=Ax h0 (k:=1) (by rw[ap];simp)
  refine⟨A,hA,?_⟩;rw[Lo]at hSA;simpa using hSA
theorem Dn{w:World}{vb vl:Value}{c:Nat}{t:List Nat}{l:List Int}(hb:Sv w vb (aE .u8 (c::t)))(h8:Bs (c::t))(hc:c<=4)(hs:Sv w vl (aJ l))(hl:l.length<=256)(hi:Is l) :
  Calls Tryz.prog 309 #[vb,vl] w fun e w'=>e=.returned (.bool (decide (hO c l=t)))/\Below w.heap.size w w':=by
 have HEn:=ae (Fz hs hi c (by omega));have Mp:Hid (Bs t):=fun x hx=>h8 x (by simp[hx])
 have xo:=ae (eA c hi hl).2;have nK:c<=4/\l.length<=256:=⟨hc,hl⟩;have HEM:Hid (CT c l=hO c l):=if_pos nK;rw[decide_eq_true nK]at HEn;obtain⟨g,off,cap,rfl,h1,h2,h3,h4,_,A,hA,hSA⟩:=hb.uncons;have lr:=ae hSA;have bw:cap<=9223372036854775807:=by unfold maxLen at h2;omega
 clear hb hs hi hSA h8 nK h2;go_enter Tryz.func309,Tryz.ntmps309
 go_wp2_with fail;refine HEn.out.mono ?_;rintro e w1 ⟨⟨v1,rfl,eG⟩,aG⟩;rw[HEM.out]at eG;have fA:=ae eG;have aQ:=ae aG;clear eG aG;go_wp2_with fail;refine(oo fA.out.sv (lr.out.kept aQ.out) xo.out Mp.out).mono ?_;rintro e w2 ⟨rfl,rfl⟩;go_wp2_with fail;go_ret
 exact⟨rfl,aQ.out⟩
theorem Qc{c n:Nat}{t:List Nat}{l:List Int}(hc:c<=4)(hn:n<=256)(h:aA (rdC c n) (fin c t) t=.ok (l,[])):bn (c::t) (n:Int)=(l,0):=by
 rw[yX]at h;unfold bn;rw[if_pos (by omega)];simp only;rw[if_neg (by omega),jah];cases hr:mJ c n t with
 | ok m=>rw[hr]at h;simp at h;rw[h]
 | error e=>rw[hr]at h;simp at h
theorem Lp{c n e:Nat}{t:List Nat}(hc:c<=4)(hn:n<=256)(h:aA (rdC c n) (fin c t) t=.error e):bn (c::t) (n:Int)=([],e):=by
 rw[yX]at h;unfold bn;rw[if_pos (by omega)];simp only;rw[if_neg (by omega),jah];cases hr:mJ c n t with
 | ok m=>rw[hr]at h;simp at h
 | error e=>rw[hr]at h;simp at h;rw[h]
theorem Do(w:World)(o:Obj):(w.alloc o).heap[w.heap.size]?=some o:=by
 unfold World.alloc;simp only[Array.getElem?_push_size]
theorem dq(w:World)(o:Obj):Below w.heap.size w (w.alloc o):=(ZQ _ _).alloc (ZR _) _
def kt(r:List Int×Nat)(w:World)(e:Ending)(w':World):Prop:=(∃ v,e=.returned (.tuple #[v,.int .i64 (r.2:Int)])/\br w' w.heap.size v r.1)/\Below w.heap.size w w'
theorem Qd{w:World}{vb:Value}(n:Int)(hn:¬ (0<=n/\n<=256)):Calls Tryz.prog 296 #[vb,.int .i64 n] w (kt ([],1) w):=by
 by_cases h0:n<0
 ·clear hn
  go_enter Tryz.func296,Tryz.ntmps296
  go_wp2_with fail;go_ret2
  exact⟨⟨_,rfl,br.nil _ _⟩,ZQ _ _⟩
 ·have h1:n > 256:=by omega
  clear hn;go_enter Tryz.func296,Tryz.ntmps296
  go_wp2_with fail;go_ret2
  exact⟨⟨_,rfl,br.nil _ _⟩,ZQ _ _⟩
theorem Lq{w:World}{vb:Value}(hb:Sv w vb [])(n:Int)(hn:0<=n/\n<=256):Calls Tryz.prog 296 #[vb,.int .i64 n] w (kt ([],30) w):=by
 obtain⟨a,cap,rfl,_⟩:=hb;have h0:¬ n<0:=by omega
 have h1:¬ n > 256:=by omega
 clear hn;go_enter Tryz.func296,Tryz.ntmps296
 go_wp2_with fail;go_ret2
 exact⟨⟨_,rfl,br.nil _ _⟩,ZQ _ _⟩
theorem Gh{w:World}{vb:Value}{c:Nat}{t:List Nat}(hb:Sv w vb (aE .u8 (c::t)))(h8:Bs (c::t))(hc:4<c)(n:Int)(hn:0<=n/\n<=256):Calls Tryz.prog 296 #[vb,.int .i64 n] w (kt ([],50) w):=by
 obtain⟨g,off,cap,rfl,h1,h2,h3,h4,_⟩:=hb.uncons;have h5:¬ n<0:=by omega
 have h6:¬ n > 256:=by omega
 have h7:(c:Int)>=5:=by omega
 have h9:=h8 c (by simp);have bw:cap<=9223372036854775807:=by unfold maxLen at h2;omega
 have bQ:(((t.length+1:Nat):Int)==0)=false:=Z1.2 (by omega);clear hn hb h8 h2;go_enter Tryz.func296,Tryz.ntmps296
 go_wp2_with fail;go_ret2
 exact⟨⟨_,rfl,br.nil _ _⟩,ZQ _ _⟩
theorem Lr{w:World}{vb:Value}{c:Nat}{t:List Nat}(hb:Sv w vb (aE .u8 (c::t)))(h8:Bs (c::t))(hc:c<=4)(n:Nat)(hn:n<=256):Calls Tryz.prog 296 #[vb,.int .i64 (n:Int)] w (kt (bn (c::t) (n:Int)) w):=by
 have Ya:=ae hb;have H8:=ae h8;obtain⟨g,off,cap,rfl,h1,h2,h3,h4,h4b,A,hA,hSA⟩:=hb.uncons;have lr:=ae hSA;have h5:¬ (n:Int)<0:=by omega
 have h6:¬ (n:Int) > 256:=by omega
 have h7:¬ (c:Int)>=5:=by omega
 have bw:cap<=9223372036854775807:=by unfold maxLen at h2;omega
 have bQ:(((t.length+1:Nat):Int)==0)=false:=Z1.2 (by omega)
 have cP:Hid (StC 333 (w.alloc (.cells #[.slice A t.length (cap-1),.int .i64 0] 333)) w.heap.size t 0):=ae (by
  have hh:(w.alloc (.cells #[.slice A t.length (cap-1),.int .i64 0] 333)).heap[w.heap.size]?=some (.cells #[.slice A t.length (cap-1),.int .i64 0] 333 (0,0)):=by
   exact Do _ _
  have BO:Bs t:=fun x hx=>h8 x (by simp[hx])
  by_cases aX:cap=1
  ·rw[if_pos aX]at hA
   subst hA;exact⟨g,off,cap-1,hh,h3,by omega,by omega,BO,fun j hj=>by omega⟩
  ·rw[if_neg aX]at hA
   subst hA;exact⟨g,off+1,cap-1,hh,h3,by omega,by omega,BO,fun j hj=>((dq w _).cell (p:=⟨g,off+1+j,none⟩) h3).trans (h4b j hj)⟩)
 have HG:Hid (ea (aA (rdC c n) (fin c t) t) (aA (rdC c n) (fin c t)) t 0):=⟨fun _=>rfl,fun h=>absurd rfl h⟩;have J4:=ae (fun l h=>Qc (c:=c) (n:=n) (t:=t) (l:=l) hc hn h);have HER:=ae (fun e h=>Lp (c:=c) (n:=n) (t:=t) (e:=e) hc hn h);have ry:=ae (Px (fun r h=>Pj c t [] h) cP.out hn hc HG.out);generalize aA (rdC c n) (fin c t) t=D at *;generalize bn (c::t) (n:Int)=R at *;clear hb h8 h2 hSA h4b HG;go_enter Tryz.func296,Tryz.ntmps296
 go_wp2_with fail;refine ry.out.mono ?_;rintro e w2 ⟨l,b2,f2,⟨v2,rfl,fq⟩,VE,Bo,ef,gK,dM⟩;have dr:=ae fq;have rG:=ae VE;have gC:=ae ef;have Hp:=ae gK;have aD:Below w.heap.size w w2:=(dq w _).trans (dM.below (ZR _) (by rw[ZS];omega));have aN:=ae aD;have bm:=aD.size;have jC:=ef.lt;clear fq VE ef gK dM aD;go_wp2_with fail;refine(JE gC.out).mono ?_;rintro e w3 ⟨rfl,kX,ix⟩;have aP:Below w.heap.size w w3:=aN.out.trans (ix.below (ZR _) bm);have cX:=ae (dr.out.fr ix (by rw[ZS];omega));have bM:=ae aP;have iB:=aP.size
 have UK:Hid ((orf f2 (if b2.length=0 then 0 else 32)=0->D=if hO c l=t then .ok (l,[]) else .error 40)/\(orf f2 (if b2.length=0 then 0 else 32)≠0->D=.error (orf f2 (if b2.length=0 then 0 else 32)))):=ae (by
  obtain⟨q1,q2⟩:=Hp.out;by_cases hf:f2=0
  ·subst hf
   rw[eT];have q3:=q1 rfl;unfold fin at q3;by_cases fM:b2.length=0
   ·rw[if_pos fM]at q3 ⊢
    exact⟨fun _=>q3,fun e=>absurd rfl e⟩
   ·rw[if_neg fM]at q3 ⊢
    exact⟨fun e=>by omega,fun _=>q3⟩
  ·rw[ez hf]
   exact⟨fun e=>absurd e hf,q2⟩)
 generalize orf f2 (if b2.length=0 then 0 else 32)=f3 at *;have m7:=ae kX;obtain⟨G,O,C,k0,k1,k2,k3,k4,k5,k6,k7,k8,k9⟩:=kX.cells;clear kX ix aP k0 k2 k3 k4 k5 k6 k7 k8 k9;have VS:=ae (cX.out.low (show w.heap.size<=(w.alloc (.cells #[.slice A t.length (cap-1),.int .i64 0] 333)).heap.size by rw[ZS];omega));by_cases uH:((f3:Int)==0)=true
 ·have hf0':f3=0:=by simpa using uH
  have hD:=UK.out.1 hf0';subst hf0';have Jb:=ae (Dn (Ya.out.kept bM.out) H8.out hc cX.out.sv (by omega) rG.out);by_cases hw:hO c l=t
  ·rw[if_pos hw]at hD
   rw[decide_eq_true hw]at Jb;have HR:=ae (J4.out l hD);clear hD hw uH;go_wp2_with fail;refine Jb.out.mono ?_;rintro e w4 ⟨rfl,bv⟩;obtain⟨G',O',C',j0,j1,j2,j3,j4,j5,j6,j7,j8,j9⟩:=(m7.out.kept bv m7.out.lt).cells;have b9:=ae (bM.out.trans (bv.mono iB));have eP:=ae (VS.out.kept bv);clear bv j0 j2 j3 j4 j5 j6 j7 j8 j9 k1;go_wp2_with fail;go_ret2
   rw[HR.out];exact⟨⟨_,rfl,eP.out⟩,b9.out⟩
  ·rw[if_neg hw]at hD
   rw[decide_eq_false hw]at Jb;have HR:=ae (HER.out 40 hD);clear hD hw uH;go_wp2_with fail;refine Jb.out.mono ?_;rintro e w4 ⟨rfl,bv⟩;have um:=ae (m7.out.kept bv m7.out.lt);have b9:=ae (bM.out.trans (bv.mono iB));have He:=b9.out.size;clear bv k1;go_wp2_with fail;refine(dj um.out 40).mono ?_;rintro e w5 ⟨rfl,nJ,js⟩;rw[eT]at nJ;obtain⟨G',O',C',j0,j1,j2,j3,j4,j5,j6,j7,j8,j9⟩:=nJ.cells;have aR:=ae (b9.out.trans (js.below (ZR _) He));clear nJ js j0 j2 j3 j4 j5 j6 j7 j8 j9;go_wp2_with fail;go_quiet (fail)
   go_wp2_with fail;go_ret2
   rw[HR.out];exact⟨⟨_,rfl,br.nil _ _⟩,below_drewN aR.out _⟩
 ·have hff:((f3:Int)==0)=false:=by simpa using uH
  have VN:((f3:Int) != 0)=true:=by simpa using uH
  have hD:=UK.out.2 (fun e=>uH (by simp[e]));have HR:=ae (HER.out f3 hD);clear hD uH;go_wp2_with fail;go_quiet (fail)
  go_wp2_with fail;go_ret2
  rw[HR.out];exact⟨⟨_,rfl,br.nil _ _⟩,below_drewN bM.out _⟩
theorem Dp{w:World}{vb:Value}{b:List Nat}(hb:Sv w vb (aE .u8 b))(h8:Bs b)(n:Int):Calls Tryz.prog 296 #[vb,.int .i64 n] w (kt (bn b n) w):=by
 by_cases hn:0<=n/\n<=256
 ·cases b with
  | nil =>
   have e:bn [] n=([],30):=by unfold bn;rw[if_pos hn]
   rw[e];exact Lq hb n hn
  | cons c t =>
   by_cases hc:c<=4
   ·obtain⟨m,rfl⟩:=jbg hn.1
    exact Lr hb h8 hc m (by omega)
   ·have e:bn (c::t) n=([],50):=by unfold bn;rw[if_pos hn];simp only;rw[if_pos (by omega)]
    rw[e];exact Gh hb h8 (by omega) n hn
 ·have e:bn b n=([],1):=by unfold bn;rw[if_neg hn]
  rw[e];exact Qd n hn
def SvK(W:World)(v:Value)(l:List Nat):Prop :=
 ∃ a cap,v=.slice a l.length cap/\l.length<=cap/\cap<=maxLen/\(a=none->cap=0) /\
  (0<l.length->∃ b off,a=some ⟨b,off,none⟩/\b<W.heap.size/\∀ j (h:j<l.length),W.cell? ⟨b,off+j,none⟩=some (.int .u8 (l[j]:Int)))
theorem SvK.kept{W W':World}{v:Value}{l:List Nat}(h:SvK W v l)(hb:Below W.heap.size W W'):SvK W' v l:=by
 obtain⟨a,cap,rfl,h1,h2,h3,h4⟩:=h;refine⟨a,cap,rfl,h1,h2,h3,fun h0=>?_⟩;obtain⟨b,off,rfl,h5,h6⟩:=h4 h0;exact⟨b,off,rfl,Z9 h5 hb.size,fun j hj=>(hb.cell (p:=⟨b,off+j,none⟩) h5).trans (h6 j hj)⟩
theorem SvK.nil(W:World):SvK W (.slice none 0 0) []:=⟨none,0,rfl,ZR _,by unfold maxLen;omega,fun _=>rfl,fun h=>by simp at h⟩
theorem SvK.of_own{W:World}{B e n:Nat}{v:Value}{l:List Nat}(h:W.ownsRow B e 1 v n (aE .u8 l)):SvK W v l:=by
 have hl:l.length=n:=by have:=h.1;simpa [aE]using this
 obtain⟨_,h1⟩:=id h;rcases h1 with ⟨rfl,rfl⟩ | ⟨g,cap,cur,rfl,hb,hg,h4,h5,_⟩
 ·exact⟨none,0,by rw[hl],by omega,by unfold maxLen;omega,fun _=>rfl,fun h0=>by omega⟩
 ·refine⟨_,cap,by rw[hl],by omega,h5,fun h=>(by cases h),fun _=>⟨g,0,rfl,(Array.getElem?_eq_some_iff.1 hg).1,fun j hj=>?_⟩⟩
  have:=h.cells (g:=g) rfl j _ (bR hj);rw[md]at this;rwa[jaf]
theorem SvK.form{W:World}{v:Value}{l:List Nat}(h:SvK W v l):∃ a cap,v=.slice a l.length cap/\l.length<=cap/\cap<=maxLen:=by
 obtain⟨a,cap,h0,h1,h2,_⟩:=h;exact⟨a,cap,h0,h1,h2⟩
theorem SvK.take{W:World}{a:Option Addr}{n cap:Nat}{l:List Nat}(h:SvK W (.slice a n cap) l){k:Nat}(hk:k<=l.length):SvK W (.slice a k cap) (l.take k):=by
 obtain⟨a',c,h1,h2,h3,h4,h5⟩:=h;simp only[Value.slice.injEq]at h1;obtain⟨rfl,_,rfl⟩:=h1;have hl:(l.take k).length=k:=by rw[ZX];omega
 refine⟨_,cap,by rw[hl],by omega,h3,h4,fun h0=>?_⟩;obtain⟨b',off',h6,h7,h8⟩:=h5 (by omega);refine⟨b',off',h6,h7,fun j hj=>?_⟩;rw[h8 j (by omega),List.getElem_take]
theorem SvK.conv{W:World}{v:Value}{l:List Nat}(h:SvK W v l)(h8:Bs l):(convert 30 9 v).run Tryz.prog W=.ok (txt l) W:=by
 obtain⟨a,cap,rfl,h1,h2,_,h3⟩:=h;rcases jax l.length with h0 | hp
 ·obtain rfl:l=[]:=jab h0
  first
   | exact run_convert_bytes_back_empty W 30 9 5 a cap Tryz.underlying30 Tryz.underlying5 Tryz.underlying9
   | (cases a<;>rfl)
   | (cases a<;>kernel_rfl)
 ·obtain⟨b,off,rfl,h4,h5⟩:=h3 hp
  have:=run_convert_bytes_back W 30 9 5 ⟨b,off,none⟩ cap (l.map Nat.toUInt8) Tryz.underlying30 Tryz.underlying5 Tryz.underlying9 (fun j hj=>by
   have hj':j<l.length:=by simpa using hj
   rw[pp,h5 j hj'];have h9:=h8 l[j] (ZV hj');congr 2
   simp[jaA h9])
  rw[ZU]at this;exact this
theorem Qe{x y:Nat}(hx:x<256)(hy:y<256)(h:x.toUInt8=y.toUInt8):x=y:=by
 have:=congrArg UInt8.toNat h;simpa [jaA hx,jaA hy]using this
theorem wK:∀{a b:List Nat},Bs a->Bs b->a.map Nat.toUInt8=b.map Nat.toUInt8->a=b
 | [],[],_,_,_=>rfl
 | [],_::_,_,_,h=>by simp at h
 | _::_,[],_,_,h=>by simp at h
 | x::a,y::b,ha,hb,h=>by
  simp only[jal,List.cons.injEq]at h;rw[Qe (ha x (by simp)) (hb y (by simp)) h.1,wK (fun z hz=>ha z (by simp[hz])) (fun z hz=>hb z (by simp[hz])) h.2]
theorem aC.svK{W:World}{B:Nat}{v:Value}{bs:List Nat}(h:aC W B v bs):SvK W v bs:=SvK.of_own h
theorem aC.form{W:World}{B:Nat}{v:Value}{bs:List Nat}(h:aC W B v bs)(hp:0<bs.length):∃ g cap,v=.slice (some ⟨g,0,none⟩) bs.length cap/\B<=g/\g<W.heap.size:=by
 obtain⟨hl,h1⟩:=id h;rcases h1 with ⟨rfl,h0⟩ | ⟨g,cap,cur,rfl,hb,hg,h4⟩
 ·omega
 ·exact⟨g,cap,rfl,hb,(Array.getElem?_eq_some_iff.1 hg).1⟩
theorem aC.at{W:World}{B g n cap:Nat}{bs:List Nat}(h:aC W B (.slice (some ⟨g,0,none⟩) n cap) bs){j:Nat}(hj:j<bs.length):W.cell? ⟨g,j,none⟩=some (.int .u8 (bs[j]:Int))/\W.frozen? ⟨g,j,none⟩=false:=by
 have hn:n=bs.length:=by
  obtain⟨a,cap,h1,_⟩:=h.svK;simp only[Value.slice.injEq]at h1;exact h1.2.1
 subst hn;unfold aC at h;exact⟨(h.cellAt j (by omega)).trans (bR hj),h.frozenAt j⟩
theorem aC.stored{W:World}{B g n cap:Nat}{bs:List Nat}(h:aC W B (.slice (some ⟨g,0,none⟩) n cap) bs)(j c:Nat):aC (W.setCell ⟨g,j,none⟩ (.int .u8 (c:Int))) B (.slice (some ⟨g,0,none⟩) n cap) (bs.set j c):=by
 have hn:n=bs.length:=by
  obtain⟨a,cap,h1,_⟩:=h.svK;simp only[Value.slice.injEq]at h1;exact h1.2.1
 subst hn;unfold aC at *;have:=(h.stored j (.int .u8 (c:Int))).1;rw[jY]at this;rw[ja4];exact this
theorem eb{w:World}{ops:Array Oper}{rest:List Oper}{o:Oper}{a:Act}{Q:Exit->Act->World->Prop}(ee:o.guard=none)(s x:Operand)
  (ho:o.op=.call { callee:=.builtin .append,args:=#[s,x],argTypes:=#[30,30] })
  (base:Nat) (v vx:Value) (l0 l:List Nat) (hs:a.eval s=v) (az:aC w base v l0) (hx:a.eval x=vx) (fo:SvK w vx l)
  (hbytes:l0.length+l.length<=140737488355328) (aH:base<=w.heap.size)
  (h:∀ v' w',aC w' base v' (l0++l)->Below base w w'->wpList Tryz.prog ops Q rest (a.put o.dst v') w') :
  wpList Tryz.prog ops Q (o::rest) a w:=by
 obtain⟨i0,hi,ce,hz1',bm⟩:=info_parts jf;unfold aC at *;obtain⟨ad,cap,rfl,h1,h2,h3,h4⟩:=fo;cases ad with
 | none =>
  have hc:=h3 rfl;subst hc;have hl:l=[]:=jab (by omega);subst hl;refine wpList_plain ee fun K hK=>?_
  have hr:=run_append_owned_none (P:=Tryz.prog) (w:=w) base 30 o.type 5 i0 1 Tryz.underlying30 hi v l0.length (aE .u8 l0) az;unfold Oper.wp execOp;simp only[ho,resolve,invoke,builtin,Sem.run_bind,Sem.run_pure,Result.andThen_ok,jaU,jal,jaG,hs,hx,hr,jad];refine hK _ _ (h v w ?_ (ZQ _ _));rw[Z7];exact az
 | some ad =>
  refine wpList_append_own_at (w:=w) ee s x 30 ho base 5 i0 (.int .u8 0) 1 1 Tryz.underlying30 hi ce hz1' bm rfl (by decide) v l0.length (aE .u8 l0) hs az ad l.length cap (aE .u8 l) hx (by rw[ap];omega) ?_ (fP _ _) (by unfold maxLen;omega) (by omega) aH ?_
  ·intro j u hu
   have hj:j<l.length:=by
    have:=(List.getElem?_eq_some_iff.1 hu).1;rwa[ap]at this
   obtain⟨b,off,h5,_,h6⟩:=h4 (by omega);cases h5
   rw[pp,h6 j hj];rw[bR hj]at hu;exact hu
  ·intro v' w' o1 g1 _ _
   refine h v' w' ?_ ((ZQ base w).grown g1 aH (fun k hk=>(az.lt k hk).1));rw[bZ,ZT];exact o1
def Tab(W:World):Prop:=0<W.heap.size/\∀ i:Nat,i<16->W.cell? ⟨0,i,none⟩=some (.int .u32 ((ew 4 i:Nat):Int))
theorem Tab.kept{W W':World}(h:Tab W)(hb:Below W.heap.size W W'):Tab W' :=
 ⟨Z9 h.1 hb.size,fun i hi=>(hb.cell (p:=⟨0,i,none⟩) h.1).trans (h.2 i hi)⟩
theorem Dq{w:World}(ht:Tab w)(s:Nat)(hs:s<4294967296):Calls Tryz.prog 165 #[.int .u32 (s:Int)] w fun e w'=>e=.returned (.int .u32 ((ew 4 s:Nat):Int))/\w'=w:=by
 have hc:=ht.2 (s % 16) (Nat.mod_lt _ (by omega));have uq:=Lj 4 s;have aB:=qN 4 (c:=s % 16) (by omega);have hx:=u32_xor_nat (s / 16) (ew 4 (s % 16)) (by omega) aB;rw[Nat.xor_comm,← uq]at hx;clear uq;obtain⟨r,hr⟩:∃ r,s % 16=r:=⟨_,rfl⟩;obtain⟨q,hq⟩:∃ q,s / 16=q:=⟨_,rfl⟩;have hr16:r<16:=by omega
 have ha:bits .and .u32 (s:Int) 15=(r:Int):=by
  have:=u32_and_nat s 15 hs (by omega);rw[nat_mask4,hr]at this;exact this
 have mS:(s:Int) / 16=(q:Int):=by omega
 rw[hr]at hc hx;rw[hq]at hx;generalize ew 4 r=t at *;generalize ew 4 s=u at *;clear hr hq;go_enter Tryz.func165,Tryz.ntmps165
 go_wp2_with fail;go_ret
 exact⟨rfl,rfl⟩
theorem Dr{c:Nat}{l:List Nat}{k:Nat}(h:k<l.length):run c (l.take (k+1))=byt (run c (l.take k)) l[k]:=by
 rw[Z5 h,Qa]
theorem Bs.get{l:List Nat}(h:Bs l){k:Nat}(hk:k<l.length):l[k]<256:=h _ (ZV hk)
theorem Bs.le4(s:Nat):Bs (le4 s):=sD s
theorem Bs.seal{b:List Nat}(h:Bs b):Bs (bK b):=h.append (Bs.le4 _)
theorem Qf{w:World}{v:Value}{l:List Nat}(ht:Tab w)(hs:SvK w v l)(h8:Bs l)(c:Nat)(hc:c<4294967296) :
  Calls Tryz.prog 118 #[.int .u32 (c:Int),v] w fun e w'=>e=.returned (.int .u32 ((mQ c l:Nat):Int))/\w'=w:=by
 obtain⟨a,cap,rfl,h1,h2,_,eO⟩:=hs;have oI:l.length<=9223372036854775807:=by unfold maxLen at h2;omega
 have HC:=ae eO;have H8:=ae h8;have HT:=ae ht
 have SL:bits .xor .u32 IntKind.u32.max (c:Int)=((c ^^^ 4294967295:Nat):Int):=by
  have:=u32_xor_nat 4294967295 c (by omega) hc;rw[Nat.xor_comm]at this;exact this
 have yb:c ^^^ 4294967295<4294967296:=kq hc (by omega);have HE:Hid (mQ c l=run (c ^^^ 4294967295) l ^^^ 4294967295):=ae rfl;have HE:=HE;generalize mQ c l=R at *;generalize c ^^^ 4294967295=s0 at *;clear eO h8 ht h1 h2;go_enter Tryz.func118,Tryz.ntmps118
 go_wp2_with fail;go_loopw [5,12] (fun st i w'=>w'=w/\∃ k:Nat,k<=l.length/\i=.int .i64 (k:Int)/\st=.int .u32 ((run s0 (l.take k):Nat):Int)) (fun _ i _=>l.length-(intOf i).toNat)
 case atStart=>exact⟨rfl,0,by omega,rfl,rfl⟩
 case round =>
  obtain⟨rfl,k,hk,rfl,rfl⟩:=hrel;by_cases aB:k<l.length
  ·obtain⟨b,off,rfl,hb,bo⟩:=HC.out (by omega)
   have dP:=bo k aB;have hx8:=H8.out.get aB;have fo:run s0 (l.take k)<4294967296:=sC yb (H8.out.take k)
   have HN:Hid (run s0 (l.take (k+1))=ew 4 (ew 4 (run s0 (l.take k) ^^^ l[k]))):=by
    show _=_
    rw[Dr aB];exact ny 4 4 _
   clear bo;generalize l[k]=x at *;generalize run s0 (l.take k)=s at *;have SY:=u32_xor_nat s x fo (by omega);have ya:s ^^^ x<4294967296:=kq fo (by omega);generalize s ^^^ x=y at *;have hy1:ew 4 y<4294967296:=qN 4 ya;go_wp2_with fail;refine(Dq HT.out y ya).mono ?_;rintro e w1 ⟨rfl,rfl⟩;generalize ew 4 y=y1 at *;go_wp2_with fail;refine(Dq HT.out y1 hy1).mono ?_;rintro e w2 ⟨rfl,rfl⟩;generalize ew 4 y1=y2 at *;go_wp2_with fail;go_roundw
   case rel=>exact⟨trivial,k+1,by omega,by go_num,by rw[HN.out]⟩
   case measure=>simp[intOf];omega
  ·obtain rfl:k=l.length:=by omega
   rw[ZY];have fo:run s0 l<4294967296:=sC yb H8.out;have SY:=u32_xor_nat 4294967295 (run s0 l) (by omega) fo;rw[Nat.xor_comm,← HE.out]at SY;have hxx':bits .xor .u32 IntKind.u32.max ((run s0 l:Nat):Int)=(R:Int):=SY;clear SY;generalize run s0 l=s at *;go_wp2_with fail;go_ret
   exact⟨rfl,rfl⟩
theorem TW{w:World}{v:Value}{l:List Nat}(ht:Tab w)(hs:SvK w v l)(h8:Bs l) :
  Calls Tryz.prog 79 #[v] w fun e w'=>e=.returned (.int .u32 ((mQ 0 l:Nat):Int))/\w'=w:=by
 have HM:=ae (Qf ht hs h8 0 (by omega));obtain⟨a,cap,rfl,h1,h2⟩:=hs.form;clear hs h8 ht;generalize mQ 0 l=R at *;go_enter Tryz.func79,Tryz.ntmps79
 go_wp2_with fail;refine HM.out.mono ?_;rintro e w1 ⟨rfl,rfl⟩;go_wp2_with fail;go_ret
 exact⟨rfl,rfl⟩
theorem Ds(x:Nat):IntKind.u8.wrap ((x:Nat):Int)=((x % 256:Nat):Int):=by rw[IntKind.wrap_u8];omega
theorem Dt{w:World}{v:Value}{l:List Nat}(ht:Tab w)(hs:SvK w v l)(h8:Bs l)(hl:l.length<=100000000) :
  Calls Tryz.prog 40 #[v] w (du w (bK l)):=by
 have HO:=ae (TW ht hs h8);have HS:=ae hs;have HE:Hid (bK l=l++le4 (mQ 0 l)):=ae rfl;have hc:=uD (c:=0) (by omega) h8;obtain⟨a,cap,rfl,h1,h2⟩:=hs.form;clear hs h8 ht h1 h2;generalize mQ 0 l=c at *;have rK:(c:Int) / 256=((c / 256:Nat):Int):=by omega
 have mS:(c:Int) / 65536=((c / 65536:Nat):Int):=by omega
 have J8:(c:Int) / 16777216=((c / 16777216:Nat):Int):=by omega
 have HD:Hid (le4 c=[c % 256,c / 256 % 256,c / 65536 % 256,c / 16777216 % 256]):=ae rfl;have g0:=Ds c;have g1:=Ds (c / 256);have g2:=Ds (c / 65536);have g3:=Ds (c / 16777216);generalize c / 256=c1 at *;generalize c / 65536=c2 at *;generalize c / 16777216=c3 at *;generalize c % 256=d0 at *;generalize c1 % 256=d1 at *;generalize c2 % 256=d2 at *;generalize c3 % 256=d3 at *;obtain⟨i0,hi,ce,hz1',bm⟩:=info_parts jf;go_enter Tryz.func40,Tryz.ntmps40
 go_wp2_with fail;refine HO.out.mono ?_;rintro e w1 ⟨rfl,rfl⟩;go_wp2_with (first | (refine wpList_make_own _ rfl _ _ 30 rfl w1.heap.size 5 i0 (.int .u8 0) 1 Tryz.underlying30 hi ce hz1' .i64 .i64 _ (l.length+4) rfl rfl ?m1 ?m2 ?m3 ?m4 ?_))
 case m1=>first | rfl | omega
 case m2=>rw[bm];omega
 case m3=>unfold maxLen;omega
 case m4=>omega
 intro w2 fq gK;have aD:Below w1.heap.size w1 w2:=(ZQ _ _).grown gK (ZR _) (fun k hk=>by cases hk);have ho2':aC w2 w1.heap.size (.slice (some ⟨w1.heap.size,0,none⟩) 0 (l.length+4)) []:=fq;have dr:=ae ho2';have aN:=ae aD;have gC:=ae (HS.out.kept aD);have jq:=aD.size;clear fq gK aD ho2';go_wp2_with (first | (at_builtin;refine eb rfl _ _ rfl w1.heap.size _ _ [] l rfl dr.out rfl gC.out ?c1 ?c2 ?_))
 case c1=>simp;omega
 case c2=>omega
 intro v3 w3 o3 aP;have cX:=ae o3;have bM:=ae (aN.out.trans aP);have hsz3:=aP.size;clear o3 aP;have RC:Hid (aC (w3.alloc (.cells #[.int .u8 (d0:Int),.int .u8 (d1:Int),.int .u8 (d2:Int),.int .u8 (d3:Int)] 5)) w3.heap.size (.slice (some ⟨w3.heap.size,0,none⟩) 4 4) [d0,d1,d2,d3]):=ae (nQ w3 [d0,d1,d2,d3] (by unfold maxLen;simp));have eP:=ae (cX.out.kept (dq w3 (.cells #[.int .u8 (d0:Int),.int .u8 (d1:Int),.int .u8 (d2:Int),.int .u8 (d3:Int)] 5)));go_wp2_with (first | (at_builtin;refine eb rfl _ _ rfl w1.heap.size _ _ ([]++l) [d0,d1,d2,d3] rfl ?q1 rfl ?q2 ?c3 ?c4 ?_))
 case q1=>exact eP.out
 case q2=>exact RC.out.svK
 case c3=>simp;omega
 case c4=>rw[ZS];omega
 intro v5 w5 o5 bq;try rw[jaH]at o5
 rw[← HD.out,← HE.out]at o5;have dH:=ae o5;have aR:=ae (bM.out.trans (((dq w3 (.cells #[.int .u8 (d0:Int),.int .u8 (d1:Int),.int .u8 (d2:Int),.int .u8 (d3:Int)] 5)).mono (by omega)).trans bq));clear o5 bq;go_wp2_with fail;go_ret
 exact⟨⟨_,rfl,dH.out⟩,aR.out⟩
theorem uE{a b:List Nat}(ha:Bs a)(hb:Bs b):(a.map Nat.toUInt8==b.map Nat.toUInt8)=decide (a=b):=by
 rw[jba];simp only[beq_iff_eq,decide_eq_true_eq];exact⟨wK ha hb,fun h=>by rw[h]⟩
theorem Gi{w:World}{v u:Value}{a b:List Nat}(ha:SvK w v a)(hb:SvK w u b)(ha8:Bs a)(kA:Bs b) :
  Calls Tryz.prog 92 #[v,u] w fun e w'=>e=.returned (.bool (decide (a=b)))/\w'=w:=by
 have lp:=ha.conv ha8;have kx:=hb.conv kA;have HE:=ae (uE ha8 kA);obtain⟨a1,cap1,rfl,_,_⟩:=ha.form;obtain⟨a2,cap2,rfl,_,_⟩:=hb.form;unfold txt at lp kx;generalize a.map Nat.toUInt8=x at *;generalize b.map Nat.toUInt8=y at *;generalize decide (a=b)=t at *;clear ha hb ha8 kA;go_enter Tryz.func92,Tryz.ntmps92
 go_wp2_with fail;go_ret
 refine⟨?_,rfl⟩;rw[← HE.out];simp
theorem Gj{w:World}{v:Value}{l:List Nat}(hs:SvK w v l)(hl:l.length<=100000000) :
  Calls Tryz.prog 93 #[v] w (du w l):=by
 have HS:=ae hs;obtain⟨ad,cap,rfl,h1,h2,h3,_⟩:=hs;cases ad with
 | none =>
  have hc:=h3 rfl;subst hc;have pZ:l=[]:=jab (by omega);subst pZ;have hq:(binOp .eql 30 (.slice none 0 0) (.slice none 0 0)).run Tryz.prog w=.ok (.bool true) w:=run_eql_slice_nil w 30 5 none 0 0 0 0 Tryz.underlying30;go_enter Tryz.func93,Tryz.ntmps93
  go_wp2_with fail;go_ret
  exact⟨⟨_,rfl,aC.nil _ _⟩,ZQ _ _⟩
 | some ad =>
  have HN:=ae (uO w);have gC:=ae (HS.out.kept (dq w (.cells #[] 5)));clear h3;have hq:(binOp .eql 30 (.slice (some ad) l.length cap) (.slice none 0 0)).run Tryz.prog w=.ok (.bool false) w:=run_eql_slice_nil w 30 5 (some ad) l.length cap 0 0 Tryz.underlying30;go_enter Tryz.func93,Tryz.ntmps93
  go_wp2_with (first | (at_builtin;refine eb rfl _ _ rfl w.heap.size _ _ [] l rfl ?q1 rfl ?q2 ?c1 ?c2 ?_))
  case q1=>exact HN.out
  case q2=>exact gC.out
  case c1=>simp;omega
  case c2=>rw[ZS];omega
  intro v3 w3 o3 aP;have cX:=ae o3;have bM:=ae ((dq w (.cells #[] 5)).trans aP);clear o3 aP;go_wp2_with fail;go_ret
  exact⟨⟨_,rfl,cX.out⟩,bM.out⟩
def Xd(w:World)(o:Option (List Nat))(e:Ending)(w':World):Prop:=(∃ v,e=.returned (.tuple #[v,.bool o.isSome])/\aC w' w.heap.size v (o.getD []))/\Below w.heap.size w w'
theorem tA{l:List Nat}(h:l.length<4):ep l=none:=by
 unfold ep;rw[if_neg (by omega)]
theorem Qg{w:World}{v:Value}{l:List Nat}(ht:Tab w)(hs:SvK w v l)(h8:Bs l)(hl:l.length<=100000000) :
  Calls Tryz.prog 51 #[v] w (Xd w (ep l)):=by
 have HS:=ae hs;obtain⟨a,cap,rfl,h1,h2⟩:=hs.form;have oI:l.length<=9223372036854775807:=by omega
 by_cases h4:l.length<4
 ·rw[tA h4]
  have aB:(l.length:Int)-4<0:=by omega
  clear hs h8 ht h1 h2;go_enter Tryz.func51,Tryz.ntmps51
  go_wp2_with fail;go_ret2
  exact⟨⟨_,rfl,aC.nil _ _⟩,ZQ _ _⟩
 ·obtain⟨n,hn⟩:∃ n,l.length=n+4:=⟨l.length-4,by omega⟩
  have qa:¬ (n:Int)<0:=by omega
  have EO:n<=l.length:=by omega
  have hA:=hs.take EO;have HA:=ae hA;have H8:=ae h8;have H8t:=ae (h8.take n);have HSE:=ae (Dt ht hA (h8.take n) (by rw[ZX];omega))
  have iE:Hid (ep l=if bK (l.take n)=l then some (l.take n) else none):=by
   show _=_
   unfold ep;rw[hn,jbx];simp
  have oH:(l.length:Int)-4=(n:Int):=by omega
  have bQ:(l.take n).length<=100000000:=by rw[ZX];omega
  have VV:n<=cap:=by omega
  rw[hn]at HS;rw[hn];clear hs h8 ht h1 h2 hA oI;have H8s:=ae H8t.out.seal;generalize ep l=R at *;generalize l.take n=m at *;go_enter Tryz.func51,Tryz.ntmps51
  go_wp2_with fail;refine HSE.out.mono ?_;rintro e w1 ⟨⟨v1,rfl,o1⟩,aG⟩;have VW:=ae (Gi (HS.out.kept aG) o1.svK H8.out H8s.out);have RH:=ae (HA.out.kept aG);have aQ:=ae aG;clear o1 aG;by_cases nK:bK m=l
  ·rw[nK,decide_eq_true rfl]at VW
   have HR:Hid (R=some m):=by show _=_;rw[iE.out,if_pos nK]
   clear nK iE H8s;go_wp2_with fail;refine VW.out.mono ?_;rintro e w2 ⟨rfl,rfl⟩;go_wp2_with fail;refine(Gj RH.out bQ).mono ?_;rintro e w3 ⟨⟨v3,rfl,o3⟩,aP⟩;have cX:=ae o3;have bM:=ae aP;clear o3 aP;go_wp2_with fail;go_ret2
   rw[HR.out];refine⟨⟨_,rfl,?_⟩,ai aQ.out bM.out⟩;exact cX.out.low aQ.out.size
  ·rw[decide_eq_false (fun h=>nK h.symm)]at VW
   have HR:Hid (R=none):=by show _=_;rw[iE.out,if_neg nK]
   clear nK iE H8s;go_wp2_with fail;refine VW.out.mono ?_;rintro e w2 ⟨rfl,rfl⟩;go_wp2_with fail;go_ret2
   rw[HR.out];exact⟨⟨_,rfl,aC.nil _ _⟩,aQ.out⟩
end Go.Proofs.YtpljdjmpamjkhaaGreatDoor
