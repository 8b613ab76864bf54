import Derived.Test.YtpljdjmpamjkhaaGreatDoorWap
import Derived.RangeFuncNested
import Derived.RangeFuncBound
import Derived.Lib.SlBytesConst
set_option linter.unusedVariables false
set_option linter.unusedSimpArgs false
set_option maxRecDepth 100000
set_option maxHeartbeats 4000000
namespace Go.Proofs.YtpljdjmpamjkhaaGreatDoor
open Go.RowKit Go.Lib
def Rv(W:World)(v:Value)(rs:List Row):Prop :=
 ∃ a cap,v=.slice a rs.length cap/\rs.length<=cap/\cap<=maxLen/\(a=none->cap=0)/\(0<rs.length->∃ b off,a=some ⟨b,off,none⟩/\b<W.heap.size/\∀ j (h:j<rs.length),∃ rv,W.cell? ⟨b,off+j,none⟩=some rv/\Sv W rv (aC rs[j]))
theorem Rv.kept{W W':World}{v:Value}{rs:List Row}(h:Rv W v rs)(hb:Below W.heap.size W W'):Rv W' v rs:=by
 obtain⟨a,cap,h1,h2,h3,h4,h5⟩:=h;refine⟨a,cap,h1,h2,h3,h4,fun h0=>?_⟩;obtain⟨b,off,h6,h7,h8⟩:=h5 h0;refine⟨b,off,h6,Za h7 hb.size,fun j hj=>?_⟩;obtain⟨rv,h9,sO⟩:=h8 j hj;exact⟨rv,(hb.cell (p:=⟨b,off+j,none⟩) h7).trans h9,sO.kept hb⟩
theorem Rv.nil(W:World):Rv W (.slice none 0 0) []:=⟨none,0,rfl,YA _,by unfold maxLen;omega,fun _=>rfl,fun h=>by simp at h⟩
theorem Rv.form{W:World}{v:Value}{rs:List Row}(h:Rv W v rs):∃ a cap,v=.slice a rs.length cap/\rs.length<=cap/\cap<=9223372036854775807/\(a=none->cap=0):=by
 obtain⟨a,cap,h1,h2,h3,h4,_⟩:=h;exact⟨a,cap,h1,h2,by unfold maxLen at h3;omega,h4⟩
theorem Rv.at{W:World}{a:Option Addr}{n cap:Nat}{rs:List Row}(h:Rv W (.slice a n cap) rs){k:Nat}(hk:k<rs.length) :
  ∃ b off rv,a=some ⟨b,off,none⟩/\b<W.heap.size/\W.cell? ⟨b,off+k,none⟩=some rv/\Sv W rv (aC rs[k]):=by
 obtain⟨a',cap',e,h1,h2,h3,h4⟩:=h;simp only[Value.slice.injEq]at e;obtain⟨rfl,_,_⟩:=e;obtain⟨b,off,rfl,h5,h6⟩:=h4 (by omega);obtain⟨rv,h7,h8⟩:=h6 k hk;exact⟨b,off,rv,rfl,h5,h7,h8⟩
theorem uy(c:Cl):cp c=.nilIface∨∃ t u,cp c=.iface t u:=by
 unfold cp;split
 ·exact Or.inl rfl
 ·split
  ·exact Or.inr ⟨_,_,rfl⟩
  ·split<;>exact Or.inr ⟨_,_,rfl⟩
theorem pD{w:World}{v:Value}{rs:List Row}(hs:Rv w v rs)(hl:rs.length<=1000){c:Nat}(hc:∀ r∈rs,c<r.length) :
  Calls Tryz.prog 58 #[v,.int .i64 (c:Int)] w fun e w'=>(∃ v',e=.returned v'/\OwnV w' w.heap.size v' (bq rs c))/\Below w.heap.size w w':=by
 obtain⟨i0,hi,bN,hz1',bh⟩:=YW qi;have HS:=ae hs;obtain⟨a,cap,rfl,aV,bw,_⟩:=hs.form;obtain⟨D,hD⟩:∃ D,bq rs c=D:=⟨_,rfl⟩;have hDl:D.length=rs.length:=by rw[← hD,bR]
 have QB:jaH (∀ k (h:k<rs.length),(aC rs[k])[c]?=some (cp (rs[k].getD c nul))/\∃ h2:k<(aC D).length,(aC D)[k]=cp (rs[k].getD c nul)):=ae (fun k h=>by
  have h3:=hc _ (YF h);refine⟨by simp[aC,List.getD_eq_getElem?_getD,List.getElem?_eq_getElem h3],by rw[ax];omega,?_⟩;simp[aC,← hD,bq])
 rw[hD];have ln:=ae hDl;clear hs hD hDl hc;go_enter Tryz.func58,Tryz.ntmps58
 go_wp2_with (first | (refine ZJ _ rfl _ _ 79 rfl w.heap.size 78 i0 .nilIface 1 Tryz.underlying79 hi bN hz1' .i64 .i64 _ _ rs.length rfl rfl ?m1 ?m2 ?m3 ?m4 ?m5 ?_))
 case m1=>rfl
 case m2=>rfl
 case m3=>rw[bh];omega
 case m4=>unfold maxLen;omega
 case m5=>omega
 intro w4 fC gH;have bm:Below w.heap.size w w4:=(Yz _ _).grown gH (YA _) (fun k hk=>by cases hk)
 have ho4':w4.ownsRow w.heap.size 78 1 (.slice (some ⟨w.heap.size,0,none⟩) rs.length rs.length) rs.length (cI .nilIface (aC D) 0):=by
  rw[kY,ax,ln.o,← jal];simpa using fC
 have fU:=ae ho4';have cA:=ae bm;clear fC gH bm ho4';go_wp2_with fail;go_loopw [13] (fun i wr=>∃ k:Nat,i=.int .i64 (k:Int)/\k<=rs.length/\wr.ownsRow w.heap.size 78 1 (.slice (some ⟨w.heap.size,0,none⟩) rs.length rs.length) rs.length (cI .nilIface (aC D) k)/\Below w.heap.size w wr) (fun i _=>rs.length-(intOf i).toNat)
 case atStart=>exact⟨0,rfl,by omega,fU.o,cA.o⟩
 case round =>
  obtain⟨k,rfl,hk,how,ao⟩:=hrel;have HB:=ae ao;have HO:=ae how;have bM:=ao.size;clear ao how;by_cases ar:k<rs.length
  ·obtain⟨hval,hkD,GD⟩:=QB.o k ar
   obtain⟨b,off,rv,rfl,hb,ek,fV⟩:=(HS.o.kept HB.o).at ar;have Xg:=ax rs[k];obtain⟨ra,rcap,rfl,KS,zc⟩:=fV.form1;obtain⟨b2,off2,rfl,ay,Rn⟩:=fV.at1 hval;have hclt:=(List.getElem?_eq_some_iff.1 hval).1;have hlt':(k:Int)<(rs.length:Int):=(by omega);have hclt':(c:Int)<((aC rs[k]).length:Int):=(by omega);have ja:k<(cI .nilIface (aC D) k).length:=by rw[gq (by omega)];exact hkD
   have hrc2':rcap<=9223372036854775807:=by unfold maxLen at zc;omega
   rcases uy (rs[k].getD c nul)with h0 | ⟨tt,uu,h0⟩
   all_goals rw[h0]at Rn GD
   all_goals have uV:=ae (kH (z:=.nilIface) hkD)
   all_goals rw[GD]at uV
   all_goals have eo:=HO.o
   all_goals have Ca:=(eo.cellAt k (by omega)).trans (List.getElem?_eq_getElem ja)
   all_goals have Cb:=eo.frozenAt k
   ·have hST:=eo.stored k .nilIface
    rw[uV.o]at hST;have co:=ae hST;clear hST eo hval GD fV h0 Xg;generalize (cI .nilIface (aC D) k)[k]=y at *;generalize (aC rs[k]).length=m at *;go_wp2_with fail;go_roundw
    case rel=>exact⟨k+1,by go_num,by omega,co.o.1,cH HB.o (YA _) _⟩
    case measure=>simp[intOf];omega
   ·have hST:=eo.stored k (.iface tt uu)
    rw[uV.o]at hST;have co:=ae hST;clear hST eo hval GD fV h0 Xg;generalize (cI .nilIface (aC D) k)[k]=y at *;generalize (aC rs[k]).length=m at *;go_wp2_with fail;go_roundw
    case rel=>exact⟨k+1,by go_num,by omega,co.o.1,cH HB.o (YA _) _⟩
    case measure=>simp[intOf];omega
  ·obtain rfl:k=rs.length:=by omega
   have e:cI .nilIface (aC D) rs.length=aC D:=by
    have:=mB .nilIface (aC D);rwa[ax,ln.o]at this
   rw[e]at HO
   have HO':jaH (OwnV wr w.heap.size (.slice (some ⟨w.heap.size,0,none⟩) rs.length rs.length) D):=ae (by
    unfold OwnV;rw[ln.o];exact HO.o)
   have eO:¬ ((rs.length:Nat):Int)<(rs.length:Int):=(by omega);clear HO e;go_wp2_with fail;go_ret
   exact⟨⟨_,rfl,HO'.o⟩,HB.o⟩
theorem bZ(g:Nat)(rs:List Row)(j:Nat):(prt g rs j).length=min (rs.length-j*g) g:=by
 unfold prt;rw[YH,Zf];omega
def jv(fs:List Fd)(rs:List Row):Prop:=∀ r∈rs,gW fs r=0/\∀ c∈r,aI c
theorem jv.part{fs:List Fd}{rs:List Row}(h:jv fs rs)(g j:Nat):jv fs (prt g rs j):=fun r hr=>h r (jav (ZA hr))
theorem Bj:∀{fs:List Fd} {r:Row} {k:Nat},ot fs r=0->r.length=fs.length->∀(h:k<fs.length) (h2:k<r.length),oq fs[k] r[k]=0
 | f::t,c::r,k,h,hl,h1,h2=>by
  unfold ot at h;by_cases hm:oq f c=0
  ·rw[Yy hm]at h
   cases k with
   | zero=>exact hm
   | succ k=>exact Bj (k:=k) h (by simpa using hl) (by simpa using h1) (by simpa using h2)
  ·rw[Yx hm]at h
   exact absurd h hm
 | [],r,k,h,hl,h1,h2=>by simp at h1
 | f::t,[],k,h,hl,h1,h2=>by simp at h2
theorem JP{f:Fd}{c:Cl}(h:oq f c=0):c.1=0∨c.1=f.2.2.1:=by
 unfold oq at h;by_cases h0:c.1=0
 ·exact Or.inl h0
 ·rw[Yx h0]at h
  by_cases h1:c.1≠f.2.2.1
  ·rw[Yy h1]at h
   cases h
  ·exact Or.inr (by omega)
theorem eE{fs:List Fd}{p:List Row}(h:jv fs p)(hk:∀ f∈fs,1<=f.2.2.1/\f.2.2.1<=3)(hl:p.length<=256){k:Nat}(te:k<fs.length):Col (lA fs k) (bq p k):=by
 rw[lR te];refine⟨hk _ (YF te),by rw[bR];exact hl,fun c hc=>?_⟩;obtain⟨r,hr,rfl⟩:=YS.1 hc;obtain⟨h1,h2⟩:=h r hr;have h3:=ox h1;have ar:k<r.length:=by omega
 rw[List.getD_eq_getElem?_getD,List.getElem?_eq_getElem ar]
 have hf:ot fs r=0:=by
  unfold gW at h1;rwa[Yx (by omega)]at h1
 exact(h2 _ (YF ar)).cellk (JP (Bj hf h3 te ar))
theorem Ta{k n:Nat}{l:List Cl}(hc:Col k l)(hn:l.length=n)(c b:List Nat):gm k n (dS k l++c,uv (dS k l).length++b,false)=(l,c,b,false):=by
 have hs:=(ie hc).1;obtain⟨h1,h2,h3⟩:=nP (lo:=0) (hi:=(dS k l++c).length) (n:=(dS k l).length) (Zq _) (by simp) (by omega) b;unfold gm;simp only[h1,h2,h3];rw[ZB,Zn,← hn,Dg hc];rfl
theorem Pj{fs:List Fd}{p:List Row}{n:Nat}(eZ:∀ k,k<fs.length->Col (lA fs k) (bq p k))(hn:p.length=n):∀{k:Nat},k<=fs.length->∀ c b:List Nat,
  grK fs n (fq fs p k++c,ftK fs p k++b,false) k=(eD n ((List.range k).map (bq p)),((List.range k).map fun i=>bJ (bq p i)),(c,b,false)):=by
 intro k;induction k with
 | zero =>
  intro _ c b;show (List.replicate n ([]:Row),([]:List Stt),_)=_
  simp[un,fq,ftK]
 | succ k ih =>
  intro hk c b;rw[pm (by omega),mz,pi,YR,YR,YR,ih (by omega)];have bg:(bq p k).length=n:=by rw[bR];exact hn
  have hc:=eZ k (by omega);rw[lR (by omega)]at hc;unfold grS;simp only[lR (show k<fs.length by omega)];rw[Ta hc bg];simp only[SQ];rw[uo bg,jac,YX,YX];rfl
def grp(fs:List Fd)(p:List Row):Gr:=(p,(List.range fs.length).map fun i=>bJ (bq p i))
theorem Pk{fs:List Fd}{g:Nat}{rs:List Row}(hr:jv fs rs)(hk:∀ f∈fs,1<=f.2.2.1/\f.2.2.1<=3)(hg:g<=64):∀(j:Nat) (c b:List Nat),
  fiJ fs g rs.length (mN fs g rs j++c,ftJ fs g rs j++b,false) j=((List.range j).map fun i=>grp fs (prt g rs i),(c,b,false)):=by
 intro j;induction j with
 | zero=>intro c b;rfl
 | succ j ih =>
  intro c b;have hp:=hr.part g j;have hl:=bZ g rs j;have h1:=Pj (fs:=fs) (p:=prt g rs j) (fun k te=>eE hp hk (by omega) te) rfl (YA _) c b;rw[hl]at h1
  have h0:fiJ fs g rs.length (mN fs g rs (j+1)++c,ftJ fs g rs (j+1)++b,false) j=((List.range j).map fun i=>grp fs (prt g rs i),(fq fs (prt g rs j) fs.length++c,ftK fs (prt g rs j) fs.length++b,false)):=by
   rw[xd,AC,YR,YR];exact ih _ _
  have iO:eD (min (rs.length-j*g) g) ((List.range fs.length).map (bq (prt g rs j)))=prt g rs j:=by
   rw[← hl];exact AE (fun r vO=>ox (hp r vO).1)
  show ((fiJ fs g rs.length _ j).1++[_],_)=_
  rw[h0];simp only;rw[h1,iO,jac,YX];rfl
theorem Pm(g:Nat)(hg:0<g):nps g 0=0:=by
 unfold nps;rw[YY,Nat.div_eq_of_lt (by omega)]
theorem kh{g n j:Nat}(hg:0<g):j<nps g n↔j*g<n:=by
 unfold nps;constructor
 ·intro h
  have h1:=(Nat.le_div_iff_mul_le hg).1 (show j+1<=(n+g-1) / g by omega);rw[Zt]at h1;omega
 ·intro h
  have:j+1<=(n+g-1) / g:=(Nat.le_div_iff_mul_le hg).2 (by rw[Zt];omega);omega
theorem xh{g:Nat}{rs:List Row}:∀ j:Nat,((List.range j).map (prt g rs)).flatten=rs.take (j*g)
 | 0=>by simp
 | j+1=>by
  rw[jac,YX,jas,xh j];simp only[Zh,Zs,jab,List.flatten_nil,YZ];unfold prt;rw[Zt,jad,List.take_add]
theorem yE{g:Nat}(hg:0<g)(rs:List Row):(prts g rs).flatten=rs:=by
 unfold prts;rw[xh];apply Zo
 have h:=(kh (n:=rs.length) (j:=nps g rs.length) hg);omega
theorem Bk(fs:List Fd){g:Nat}(hg:0<g)(rs:List Row):aZ ((List.range (nps g rs.length)).map fun i=>grp fs (prt g rs i))=rs:=by
 unfold aZ;rw[Zk];exact yE hg rs
theorem Bl:∀{l a:List Fd},fe a l=0->∀ f∈l,1<=f.2.2.1/\f.2.2.1<=3
 | [],_,_=>fun f hf=>by simp at hf
 | f::t,a,h=>by
  unfold fe at h;by_cases hm:eU a f=0
  ·rw[Yy hm]at h
   intro x hx;rcases YQ.1 hx with rfl | hx
   ·unfold eU at hm
    unfold jN at hm;simp only[jat]at hm;repeat' (split at hm)
    all_goals first | (cases hm;done) | omega
   ·exact Bl h x hx
  ·rw[Yx hm]at h
   exact absurd h hm
theorem fS{id:Nat}{l:List Fd}(h:chk id l=0):∀ f∈l,1<=f.2.2.1/\f.2.2.1<=3:=by
 unfold chk at h;split at h
 ·cases h
 ·exact Bl h
theorem Ew{id:Nat}{fs:List Fd}{rs:List Row}{g:Nat}(nl:id<4294967296)(ho:∀ f∈fs,Okf f)(hc:chk id fs=0)(hr:jv fs rs)(hl:rs.length<=256)(ew:1<=g)(gx:g<=64)
  (ll:(il id fs rs g).length<4294967296):im (kF id fs rs g)=some (id,fs,g,(List.range (nps g rs.length)).map fun i=>grp fs (prt g rs i)):=by
 obtain⟨hrise,h0,h8,hi0⟩:=ow hc
 have hz:szs fs<5000:=by
  have kJ:fe [] fs=0:=by
   unfold chk at hc;rw[Yx (by omega)]at hc;exact hc
  have hn:=oy kJ
  have:∀ m:List Fd,(∀ f∈m,f.2.1.size<=16)->szs m<=16*m.length:=by
   intro m;induction m with
   | nil=>intro _;simp[szs]
   | cons x t ih =>
    intro hx;have h1:=ih (fun f hf=>hx f (ZX _ hf));have h2:=hx x (List.mem_cons_self ..);unfold szs at *;simp only[Zh,List.sum_cons,YI];omega
  have:=this fs hn;omega
 have bg:(kF id fs rs g).length-4=(mN fs g rs (nps g rs.length)++il id fs rs g).length:=by
  unfold kF;rw[YC];simp[le4]
 have h4:¬ (kF id fs rs g).length<4:=by
  unfold kF;rw[YC];simp[le4]
 have hd:(kF id fs rs g).drop ((kF id fs rs g).length-4)=le4 (il id fs rs g).length:=by
  rw[bg];unfold kF;rw[Zn]
 have ht:(kF id fs rs g).take ((kF id fs rs g).length-4)=mN fs g rs (nps g rs.length)++il id fs rs g:=by
  rw[bg];unfold kF;rw[ZB]
 have Qc:leN (le4 (il id fs rs g).length)=(il id fs rs g).length:=yu ll
 have hcut:(kF id fs rs g).length-4-(il id fs rs g).length=(mN fs g rs (nps g rs.length)).length:=by
  rw[bg,YC];omega
 have Qa:(kF id fs rs g).take (mN fs g rs (nps g rs.length)).length=mN fs g rs (nps g rs.length):=by
  unfold kF;rw[YR,ZB]
 unfold im;rw[Yx h4,hd,Qc,Yx (by rw[bg,YC];omega),ht,hcut,Zn,Qa]
 have hun:cw (il id fs rs g)=.ok ((id,fs),uv rs.length++(uv g++ftJ fs g rs (nps g rs.length))):=by
  unfold il;rw[YR,YR];have h1:=zE nl ho hz (by omega) (uv rs.length++(uv g++ftJ fs g rs (nps g rs.length)));rw[Yy hc]at h1;exact h1
 rw[hun];simp only;obtain⟨a1,a2,a3⟩:=nP (lo:=0) (hi:=256) (n:=rs.length) (Zq _) hl (by omega) (uv g++ftJ fs g rs (nps g rs.length));obtain⟨b1,b2,b3⟩:=nP (lo:=1) (hi:=64) (n:=g) ew gx (by omega) (ftJ fs g rs (nps g rs.length))
 have hrest:fR fs (mN fs g rs (nps g rs.length)) (uv rs.length++(uv g++ftJ fs g rs (nps g rs.length)))=((List.range (nps g rs.length)).map fun i=>grp fs (prt g rs i),([],[],false)):=by
  unfold fR;rw[a1,a2,a3,b1,b2,b3];have:=Pk hr (fS hc) gx (nps g rs.length) [] [];rw[YZ,YZ]at this;exact this
 rw[hrest,a3,b2];rfl
open Go.Shelf
attribute [local go_sem] Oper.semAt_some
def xi(b off n g j:Nat):Value:=if j*g<n then .slice (some ⟨b,off+j*g,none⟩) (min g (n-j*g)) (min g (n-j*g)) else .slice none 0 0
def KC(p q:Nat)(A B:World):Prop:=B.heap[p]?=A.heap[p]?/\B.heap[q]?=A.heap[q]?
theorem KC.refl(p q:Nat)(A:World):KC p q A A:=⟨rfl,rfl⟩
theorem KC.trans{p q:Nat}{A B C:World}(h:KC p q A B)(k:KC p q B C):KC p q A C:=⟨k.1.trans h.1,k.2.trans h.2⟩
theorem KC.drewN{p q:Nat}{A B:World}(h:KC p q A B)(n:Nat):KC p q A (B.drewN n):=h
theorem KC.cells{p q:Nat}{A B:World}(h:KC p q A B):(∀ i,B.cell? ⟨p,i,none⟩=A.cell? ⟨p,i,none⟩)/\∀ i,B.cell? ⟨q,i,none⟩=A.cell? ⟨q,i,none⟩ :=
 ⟨fun i=>by simp only[World.cell?,h.1],fun i=>by simp only[World.cell?,h.2]⟩
theorem JQ(m:Nat)(hm:1<=m)(l Bs Bn b off n cap g:Nat)(ew:1<=g)(gx:g<=64)(hn:n<=256)(jy:n<=cap)(jH:cap<=9223372036854775807)(J Jx:List Nat->World->Prop)
  (hY:∀ pre x W,J pre W->pre.length<nps g n->YieldAt Fence.wide (m-1) Tryz.prog l #[xi b off n g x] W fun e W' =>
   (e=.returned (.bool true)/\J (pre++[x]) W'/\KC Bs Bn W W')∨(e=.returned (.bool false)/\Jx (pre++[x]) W'))
  (hJd:∀ pre W k,J pre W->J pre (World.drewN W k))
  (W:World) (hBs:W.cell? ⟨Bs,0,none⟩=some (.slice (some ⟨b,off,none⟩) n cap)) (hBn:W.cell? ⟨Bn,0,none⟩=some (.int .i64 (g:Int))) (h0:J [] W) :
  CallsIn Fence.wide m Tryz.prog 121 #[.func (.yield l) #[] #[],.pointer (some ⟨Bs,0,none⟩),.pointer (some ⟨Bn,0,none⟩)] W fun e W'=>(∃ v,e=.returned v) /\
   ((∃ ys,ys=List.range (nps g n)/\J ys W')∨(∃ pre,(∃ k,pre=List.range k)/\Jx pre W')):=by
 refine callsIn_of_wp Tryz.func121 rfl trivial ?_ rfl;simp only[Tryz.ntmps121,List.size_toArray,YI,Zc,Nat.reduceAdd,Nat.reduceSub,Array.replicate_succ,Array.replicate_zero,List.push_toArray,List.append_toArray,ZD,Zv];have Yi:jaH (∀ k,k<nps g n↔k*g<n):=ae (fun k=>kh (by omega));gi_wp2
 gi_loopw [4] (fun i wr=>∃ k:Nat,k<=nps g n/\i=.int .i64 ((k*g:Nat):Int)/\J (List.range k) wr/\KC Bs Bn W wr)
  (fun i _=>n+64-(intOf i).toNat)
 case atStart=>exact⟨0,Zq _,by simp,h0,KC.refl _ _ _⟩
 case round =>
  obtain⟨k,hk,rfl,hJs,uU⟩:=hrel;have Xh:=ae hJs;have jz:=ae uU;have Rn:wr.cell? ⟨Bs,0,none⟩=some (.slice (some ⟨b,off,none⟩) n cap):=(uU.cells.1 0).trans hBs;have xt:wr.cell? ⟨Bn,0,none⟩=some (.int .i64 (g:Int)):=(uU.cells.2 0).trans hBn;have jI:jaH (∀ W',KC Bs Bn wr W'->W'.cell? ⟨Bn,0,none⟩=some (.int .i64 (g:Int))):=ae (fun W' h=>(h.cells.2 0).trans xt);have HJD:=ae hJd;clear hJs uU hJd;by_cases ar:k*g<n
  ·have Qe:k<nps g n:=(Yi.o k).2 ar
   have HK1:jaH (k+1<=nps g n/\(k+1)*g=k*g+g):=ae ⟨Qe,by rw[Zt,jad]⟩;have HY:=ae (fun q=>hY _ k _ (HJD.o _ wr q Xh.o) (by simpa using Qe));have HP:jaH (xi b off n g k=.slice (some ⟨b,off+k*g,none⟩) (min g (n-k*g)) (min g (n-k*g))):=ae (by unfold xi;rw[Yy ar]);have Xi:jaH (List.range (k+1)=List.range k++[k]):=ae jac;have hkg:k*g<=256:=(by omega);clear hY Qe hk;generalize hi:k*g=i at *;have h1:(0:Int)<=(i:Int):=(by omega);have h2:(i:Int)<=(n:Int):=(by omega);have h3:(i:Int)<=(cap:Int):=(by omega);have h4:(i:Int).toNat=i:=(by omega);have hlt':(i:Int)<(n:Int):=(by omega);have hE:min (g:Int) ((n-i:Nat):Int)=((min g (n-i):Nat):Int):=(by omega);have hE1:1<=min g (n-i):=(by omega);have hE2:min g (n-i)<=n-i:=(by omega);gi_wp2
   gi_quiet (fail)
   clear hE;generalize min g (n-i)=E at *;obtain⟨fn,tmps,assign,body,hy,hR⟩:=HY.o nq;rw[HP.o]at hy;have HR:=ae hR;clear hR HY HP;have hcs2:(wr.drewN nq).cell? ⟨Bs,0,none⟩=some (.slice (some ⟨b,off,none⟩) n cap):=Rn;have h5:(i:Int)+(E:Int)<=(cap:Int):=(by omega);have h6:(i:Int)<=(i:Int)+(E:Int):=(by omega);have h7:IntKind.i64.wrap ((i:Int)+(E:Int))=(i:Int)+(E:Int):=by rw[Zy];omega
   have h8:((i:Int)+(E:Int)).toNat=i+E:=(by omega);have h9:(0:Int)<=(i:Int)+(E:Int):=(by omega);have sO:¬ E=0:=(by omega);gi_wp2
   refine HR.o.mono ?_;rintro e W3 (⟨rfl,hJ3,UT⟩ | ⟨rfl,hJx3⟩)
   ·have hcn3:=jI.o _ (((KC.refl Bs Bn wr).drewN nq).trans UT)
    have HJ3:=ae hJ3;have HK3:=ae UT;clear hJ3 UT Rn xt hcs2;gi_wp2
    go_roundw
    case rel=>exact⟨k+1,HK1.o.1,by rw[HK1.o.2];go_num,by rw[Xi.o];exact HJ3.o,(jz.o.drewN nq).trans HK3.o⟩
    case measure=>simp[intOf];omega
   ·gi_wp2
    refine bodyPost_ret (results_none rfl _ _ _) rfl ?_;exact⟨⟨_,rfl⟩,.inr ⟨_,⟨k+1,Xi.o.symm⟩,hJx3⟩⟩
  ·have Rm:k=nps g n:=by
    have:=Yi.o k;omega
   subst Rm;have hlt':¬ (((nps g n*g:Nat)):Int)<(n:Int):=(by omega);clear Yi ar hk;generalize nps g n*g=q at *;gi_wp2
   go_end0
   exact⟨⟨_,rfl⟩,.inl Xh.o⟩
theorem JR(a:Option Addr)(n cap g:Nat)(hg:1<=g)(w:World) :
  Calls Tryz.prog 82 #[.slice a n cap,.int .i64 (g:Int)] w fun e w'=>e=.returned (.func (.func 121) #[] #[.pointer (some ⟨w.heap.size,0,none⟩),.pointer (some ⟨w.heap.size+1,0,none⟩)])/\w'=(w.alloc (.cells #[.slice a n cap] 34)).alloc (.cells #[.int .i64 (g:Int)] 3):=by
 have ar:¬ (g:Int)<1:=by omega
 go_enter Tryz.func82,Tryz.ntmps82
 go_wp2_with fail;go_ret
 simp
theorem Rv.part{W:World}{b off cap g:Nat}{rs:List Row}(h:Rv W (.slice (some ⟨b,off,none⟩) rs.length cap) rs)(hl:rs.length<=256)(j:Nat):Rv W (xi b off rs.length g j) (prt g rs j):=by
 obtain⟨a',cap',e,h1,h2,h3,h4⟩:=h;simp only[Value.slice.injEq]at e;obtain⟨rfl,_,rfl⟩:=e;have mO:=bZ g rs j;unfold xi;by_cases ar:j*g<rs.length
 ·rw[Yy ar]
  obtain⟨b',off',e,h5,h6⟩:=h4 (by omega);cases e
  refine⟨some ⟨b,off+j*g,none⟩,min g (rs.length-j*g),by rw[mO,Nat.min_comm],by rw[mO,Nat.min_comm];exact YA _,by unfold maxLen;omega,fun h=>(by cases h),fun h0=>⟨b,off+j*g,rfl,h5,fun k hk=>?_⟩⟩;rw[mO]at hk;obtain⟨rv,h7,h8⟩:=h6 (j*g+k) (by omega);refine⟨rv,by rw[ZR];exact h7,?_⟩;have:(prt g rs j)[k]'(by rw[mO];exact hk)=rs[j*g+k]'(by omega):=by simp[prt]
  rw[this];exact h8
 ·rw[Yx ar]
  have:prt g rs j=[]:=YU (by rw[mO];omega);rw[this];exact Rv.nil W
def LitM(W:World)(base:Nat)(v:Value)(l:List Nat):Prop:=l=[67,70,49]/\∃ g,v=.slice (some ⟨g,0,none⟩) 3 3/\base<=g/\W.heap[g]?=some (.cells #[.int .u8 67,.int .u8 70,.int .u8 49] 5 (3,4))
def fJ(W:World)(base:Nat)(v:Value)(l:List Nat):Prop:=aG W base v l∨LitM W base v l
theorem fJ.grown{W W':World}{base:Nat}{row:Option Nat}{v:Value}{l:List Nat}(h:fJ W base v l)(hg:W.grownBy W' row)(fb:v.ownBlock=none∨v.ownBlock≠row):fJ W' base v l:=by
 rcases h with h | ⟨h1,g,rfl,h2,h3⟩
 ·exact Or.inl (World.ownsRow.kept h hg fb)
 ·refine Or.inr ⟨h1,g,rfl,h2,?_⟩
  have ar:=(Array.getElem?_eq_some_iff.1 h3).1
  rw[hg.block g ar (by
   rcases fb with h | h
   ·simp[Value.ownBlock]at h
   ·simpa [Value.ownBlock]using h)]
  exact h3
theorem fJ.kept{W W':World}{base:Nat}{v:Value}{l:List Nat}(h:fJ W base v l)(hb:Below W.heap.size W W'):fJ W' base v l:=by
 rcases h with h | ⟨h1,g,rfl,h2,h3⟩
 ·exact Or.inl (h.kept hb)
 ·exact Or.inr ⟨h1,g,rfl,h2,(hb.block g (Array.getElem?_eq_some_iff.1 h3).1).trans h3⟩
theorem fJ.lt{W:World}{base:Nat}{v:Value}{l:List Nat}(h:fJ W base v l):∀ k,v.ownBlock=some k->base<=k/\k<W.heap.size:=by
 intro k hk;rcases h with h | ⟨h1,g,rfl,h2,h3⟩
 ·exact World.ownsRow.lt h k hk
 ·simp[Value.ownBlock]at hk
  subst hk;exact⟨h2,(Array.getElem?_eq_some_iff.1 h3).1⟩
theorem fJ.block{W:World}{base:Nat}{v:Value}{l:List Nat}(h:fJ W base v l):∀ k,v.ownBlock=some k->∃ cur fz,W.heap[k]?=some (.cells cur 5 fz):=by
 intro k hk;rcases h with h | ⟨h1,g,rfl,h2,h3⟩
 ·rcases h.2 with ⟨rfl,_⟩ | ⟨g,cap,cur,rfl,_,Lk,_⟩
  ·simp[Value.ownBlock]at hk
  ·simp[Value.ownBlock]at hk
   subst hk;exact⟨_,_,Lk⟩
 ·simp[Value.ownBlock]at hk
  subst hk;exact⟨_,_,h3⟩
theorem fJ.slice{W:World}{base:Nat}{v:Value}{l:List Nat}(h:fJ W base v l):∃ a cap,v=.slice a l.length cap:=by
 rcases h with h | ⟨rfl,g,rfl,_⟩
 ·obtain⟨a,cap,e,_⟩:=aM h
  exact⟨a,cap,e⟩
 ·exact⟨_,_,rfl⟩
theorem fJ.sv{W:World}{base:Nat}{v:Value}{l:List Nat}(h:fJ W base v l):Sv W v (az .u8 l):=by
 rcases h with h | ⟨rfl,g,rfl,_,h3⟩
 ·exact h.sv
 ·refine⟨_,3,rfl,YA _,by unfold maxLen;omega,fun h=>(by cases h),fun _=>⟨g,0,rfl,(Array.getElem?_eq_some_iff.1 h3).1,fun j x hj=>?_⟩⟩
  rw[an h3,YY];simpa [az]using hj
theorem pE{W:World}{B:Nat}{t:TypeId}{u:Value}(hB:Boxed W B t u)(ht:t≠5){base:Nat}{v:Value}{l:List Nat}(h:fJ W base v l):some B≠v.ownBlock:=fun e=>by
 obtain⟨cur,fz,h1⟩:=h.block B e.symm;have:=(show W.heap[B]?=_ from hB).symm.trans h1;simp at this
 exact ht this.2.1
theorem pF{w:World}(ty:TypeId)(base:Nat)(v vx:Value)(l0 l:List Nat)(aw:fJ w base v l0)(et:Sv w vx (az .u8 l))(hp:0<l.length)(hbytes:l0.length+l.length<=140737488355328)(aD:base<=w.heap.size) :
  ∃ v' w',(Builtin.append_ #[30,30] ty #[v,vx]).run Tryz.prog w=.ok v' w'/\aG w' base v' (l0++l)/\w.grownBy w' v.ownBlock/\(v'.ownBlock=v.ownBlock∨v'.ownBlock=some w.heap.size):=by
 rcases aw with aw | ⟨rfl,g,rfl,hg,kk⟩
 ·exact nh ty base v vx l0 l aw et hbytes aD
 ·obtain⟨i0,hi,bN,hz1',bh⟩:=YW lF
  obtain⟨ad,cap,rfl,h1,h2,h3,h4⟩:=et;rw[am]at *;obtain⟨b,off,rfl,h5,h6⟩:=h4 hp
  have Xd:∀ j u,(az .u8 l)[j]?=some u->w.cell? ((⟨b,off,none⟩:Addr).add j)=some u:=fun j u hu=>by
   rw[kq];exact h6 j u hu
  have hold:∀ j u,(az .u8 [67,70,49])[j]?=some u->w.cell? ((⟨g,0,none⟩:Addr).add j)=some u:=fun j u hu=>by
   rw[kq,YY,an kk];simpa [az]using hu
  have GE:([67,70,49]:List Nat).length=3:=rfl
  have hr:=run_append_grow (P:=Tryz.prog) w 30 ty 5 i0 (.int .u8 0) Tryz.underlying30 hi bN ⟨g,0,none⟩ 3 3 (az .u8 [67,70,49]) (by rw[hz1'];rfl) hold ⟨b,off,none⟩ l.length cap (az .u8 l) (by rw[am,hz1',Nat.mul_one]) Xd (by omega) (by omega)
   (by rw[bh];exact growslice_fits (by omega) (by omega))
  refine⟨_,_,hr,?_,⟨rfl,rfl,rfl,by simp,fun k hk _=>Below.heap_alloc w.drew _ k hk⟩,Or.inr rfl⟩;have eO:=grownCap_ge w (3+l.length) 3 5;have bw:grownCap w (3+l.length) 3 5<=maxLen:=grownCap_le_maxLen w (3+l.length) 3 5 (by unfold maxLen;omega);unfold aG;rw[YC,GE];refine⟨by rw[am,YC,GE];omega,.inr ⟨w.heap.size,_,_,rfl,aD,Zb w.drew _,eO,bw,?_,?_⟩⟩
  ·simp only[Array.size_append,List.size_toArray,size_zeroCells,am,GE,Value.cells]
   simp
   omega
  ·simp only[Array.toList_append,YR]
   rw[← YR,← dL];have hl4:(3+l.length)*1=(az .u8 ([67,70,49]++l)).length:=by rw[am,YC,GE];omega
   rw[hl4];exact ZB
theorem rV{w:World}{o:Oper}{a:Act}{K:Act->World->Prop}{Q:Exit->Act->World->Prop}(s x:Operand)
  (ho:o.op=.call { callee:=.builtin .append,args:=#[s,x],argTypes:=#[30,30] })
  (base:Nat) (v vx:Value) (l0 l:List Nat) (hs:a.eval s=v) (aw:fJ w base v l0) (hx:a.eval x=vx) (et:Sv w vx (az .u8 l)) (hp:0<l.length) (hbytes:l0.length+l.length<=140737488355328) (aD:base<=w.heap.size)
  (h:∀ v' w',aG w' base v' (l0++l)->w.grownBy w' v.ownBlock->(v'.ownBlock=v.ownBlock∨v'.ownBlock=some w.heap.size)->K (a.put o.dst v') w'):Oper.wp Tryz.prog o a w K Q:=by
 obtain⟨v',w',hr,h2,h3,h4⟩:=pF o.type base v vx l0 l aw et hp hbytes aD;unfold Oper.wp execOp;simp only[ho,resolve,invoke,builtin,Sem.run_bind,Sem.run_pure,Result.andThen_ok,ZP,Zh,Zs,hs,hx,hr];exact h v' w' h2 h3 h4
theorem ki{w:World}{ops:Array Oper}{o:Oper}{a:Act}{K:Act->World->Prop}{Q:Exit->Act->World->Prop}{E:Prop}(dO:o.guard=none)(s x:Operand)
  (ho:o.op=.call { callee:=.builtin .append,args:=#[s,x],argTypes:=#[30,30] })
  (base:Nat) (v vx:Value) (l0 l:List Nat) (hs:a.eval s=v) (aw:fJ w base v l0) (hx:a.eval x=vx) (et:Sv w vx (az .u8 l)) (hp:0<l.length) (hbytes:l0.length+l.length<=140737488355328) (aD:base<=w.heap.size)
  (h:∀ v' w',aG w' base v' (l0++l)->w.grownBy w' v.ownBlock->(v'.ownBlock=v.ownBlock∨v'.ownBlock=some w.heap.size)->K (a.put o.dst v') w') :
  if Region.wanted o (yielded ops a.tmps)=true then Oper.wp Tryz.prog o a w K Q else E:=by
 have hw:Region.wanted o (yielded ops a.tmps)=true:=by simp[Region.wanted,dO]
 rw[Yy hw];exact rV s x ho base v vx l0 l hs aw hx et hp hbytes aD h
theorem sK{w:World}{ops:Array Oper}{rest:List Oper}{o:Oper}{a:Act}{Q:Exit->Act->World->Prop}(dO:o.guard=none)(s x:Operand)
  (ho:o.op=.call { callee:=.builtin .append,args:=#[s,x],argTypes:=#[30,30] })
  (base:Nat) (v vx:Value) (l0 l:List Nat) (hs:a.eval s=v) (aw:fJ w base v l0) (hx:a.eval x=vx) (et:Sv w vx (az .u8 l)) (hp:0<l.length) (hbytes:l0.length+l.length<=140737488355328) (aD:base<=w.heap.size)
  (h:∀ v' w',aG w' base v' (l0++l)->w.grownBy w' v.ownBlock->(v'.ownBlock=v.ownBlock∨v'.ownBlock=some w.heap.size)->wpList Tryz.prog ops Q rest (a.put o.dst v') w') :
  wpList Tryz.prog ops Q (o::rest) a w :=
 wpList_plain dO fun K hK=>rV s x ho base v vx l0 l hs aw hx et hp hbytes aD fun v' w' h1 h2 h3=>hK _ _ (h v' w' h1 h2 h3)
theorem cy{F:Fence}{n:Nat}{w:World}{o:Oper}{a:Act}{K:Act->World->Prop}{Q:Exit->Act->World->Prop}(s x:Operand)
  (ho:o.op=.call { callee:=.builtin .append,args:=#[s,x],argTypes:=#[30,30] })
  (base:Nat) (v vx:Value) (l0 l:List Nat) (hs:a.eval s=v) (aw:fJ w base v l0) (hx:a.eval x=vx) (et:Sv w vx (az .u8 l)) (hp:0<l.length) (hbytes:l0.length+l.length<=140737488355328) (aD:base<=w.heap.size)
  (h:∀ v' w',aG w' base v' (l0++l)->w.grownBy w' v.ownBlock->(v'.ownBlock=v.ownBlock∨v'.ownBlock=some w.heap.size)->K (a.put o.dst v') w'):Oper.wpIn F n Tryz.prog o a w K Q:=by
 obtain⟨v',w',hr,h2,h3,h4⟩:=pF o.type base v vx l0 l aw et hp hbytes aD;unfold Oper.wpIn;refine⟨by simp[Oper.about,ho,resolve,Target.leads,Sem.run_pure],?_⟩;rw[Oper.semAt_plain F _ _ (by rw[ho];intro c hc';cases hc')];simp[execOp,ho,resolve,invoke,builtin,hs,hx,hr,Result.andThen]
 exact h v' w' h2 h3 h4
theorem pG{F:Fence}{n:Nat}{w:World}{ops:Array Oper}{rest:List Oper}{o:Oper}{a:Act}{Q:Exit->Act->World->Prop}(dO:o.guard=none)(s x:Operand)
  (ho:o.op=.call { callee:=.builtin .append,args:=#[s,x],argTypes:=#[30,30] })
  (base:Nat) (v vx:Value) (l0 l:List Nat) (hs:a.eval s=v) (aw:fJ w base v l0) (hx:a.eval x=vx) (et:Sv w vx (az .u8 l)) (hp:0<l.length) (hbytes:l0.length+l.length<=140737488355328) (aD:base<=w.heap.size)
  (h:∀ v' w',aG w' base v' (l0++l)->w.grownBy w' v.ownBlock->(v'.ownBlock=v.ownBlock∨v'.ownBlock=some w.heap.size)->wpListIn F n Tryz.prog ops Q rest (a.put o.dst v') w') :
  wpListIn F n Tryz.prog ops Q (o::rest) a w :=
 wpListIn_plain dO fun K hK=>cy s x ho base v vx l0 l hs aw hx et hp hbytes aD fun v' w' h1 h2 h3=>hK _ _ (h v' w' h1 h2 h3)
def Bx2(W:World)(base B1 B2:Nat)(v1 v2:Value)(l1 l2:List Nat):Prop :=
 Boxed W B1 30 v1/\Boxed W B2 30 v2/\B1≠B2/\fJ W base v1 l1/\fJ W base v2 l2/\mX v1 v2/\base<=B1/\base<=B2
theorem Bx2.swap{W:World}{base B1 B2:Nat}{v1 v2:Value}{l1 l2:List Nat}(h:Bx2 W base B1 B2 v1 v2 l1 l2):Bx2 W base B2 B1 v2 v1 l2 l1:=by
 obtain⟨a,b,c,d,e,f,g,i⟩:=h;exact⟨b,a,c.symm,e,d,f.symm,i,g⟩
theorem Bx2.kept{W W':World}{base B1 B2:Nat}{v1 v2:Value}{l1 l2:List Nat}(h:Bx2 W base B1 B2 v1 v2 l1 l2)(hb:Below W.heap.size W W'):Bx2 W' base B1 B2 v1 v2 l1 l2:=by
 obtain⟨a,b,c,d,e,f,g,i⟩:=h;exact⟨(hb.block B1 a.lt).trans a,(hb.block B2 b.lt).trans b,c,d.kept hb,e.kept hb,f,g,i⟩
theorem Bx2.cells{W:World}{base B1 B2:Nat}{v1 v2:Value}{l1 l2:List Nat}(h:Bx2 W base B1 B2 v1 v2 l1 l2):(W.cell? ⟨B1,0,none⟩=some v1/\W.frozen? ⟨B1,0,none⟩=false)/\(W.cell? ⟨B2,0,none⟩=some v2/\W.frozen? ⟨B2,0,none⟩=false) :=
 ⟨⟨h.1.cell,h.1.frozen⟩,h.2.1.cell,h.2.1.frozen⟩
theorem Bx2.app{W w1:World}{base B1 B2:Nat}{v1 v2 v':Value}{l1 l2 l':List Nat}(h:Bx2 W base B1 B2 v1 v2 l1 l2)(aD:base<=W.heap.size)
  (ho:aG w1 base v' l') (hg:W.grownBy w1 v1.ownBlock) (he:v'.ownBlock=v1.ownBlock∨v'.ownBlock=some W.heap.size) :
  (w1.cell? ⟨B1,0,none⟩=some v1/\w1.frozen? ⟨B1,0,none⟩=false)/\Bx2 (w1.setCell ⟨B1,0,none⟩ v') base B1 B2 v' v2 l' l2/\Below base W (w1.setCell ⟨B1,0,none⟩ v'):=by
 obtain⟨a,b,c,d,e,f,g,i⟩:=h;have zm:Boxed w1 B1 30 v1:=a.kept hg (pE a (by decide) d);have WR:Boxed w1 B2 30 v2:=b.kept hg (pE b (by decide) d);have h2:fJ w1 base v2 l2:=e.grown hg f.symm.ne;have hb:Below base W w1:=(Yz base W).grown hg aD (fun k hk=>(d.lt k hk).1)
 refine⟨⟨zm.cell,zm.frozen⟩,⟨zm.set v',WR.kept (grownBy_setCell' w1 B1 v') (by intro e;exact c (by cases e;rfl)),c,Or.inl (World.ownsRow.kept ho (grownBy_setCell' w1 B1 v') (Or.inr (zm.not_row (by decide) ho).symm)),
  h2.grown (grownBy_setCell' w1 B1 v') (Or.inr (pE zm (by decide) h2).symm),f.grow he (fun k hk=>(e.lt k hk).2),g,i⟩,?_⟩
 exact hb.setCell (p:=⟨B1,0,none⟩) g v'
theorem dq{W W':World}(h:Below W.heap.size W W'):KeepsOthers W W':=by
 refine KeepsOthers.of_grownBy (row:=none) ⟨h.os,h.tape,h.output,h.size,fun k hk _=>h.block k hk⟩ (fun j o e=>by cases e)
theorem Bx2.keeps{W w1:World}{base B1 B2:Nat}{v1 v2 v':Value}{l1 l2:List Nat}(h:Bx2 W base B1 B2 v1 v2 l1 l2)(hg:W.grownBy w1 v1.ownBlock):KeepsOthers W (w1.setCell ⟨B1,0,none⟩ v'):=by
 obtain⟨a,b,c,d,e,f,g,i⟩:=h;refine(KeepsOthers.of_grownBy hg fun j o ej hj=>?_).trans (KeepsOthers.setCell _ _ _);obtain⟨cur,fz,h1⟩:=d.block j ej;rw[h1]at hj;cases hj
 rfl
theorem Bx2.other{W w1:World}{base B1 B2 p:Nat}{v1 v2 v':Value}{l1 l2:List Nat}(h:Bx2 W base B1 B2 v1 v2 l1 l2)(hg:W.grownBy w1 v1.ownBlock){t:TypeId}{u:Value}(hp:Boxed W p t u)(ht:t≠5)(Fh:t≠30):Boxed (w1.setCell ⟨B1,0,none⟩ v') p t u:=by
 obtain⟨a,b,c,d,e,f,g,i⟩:=h;have h1:Boxed w1 p t u:=hp.kept hg (pE hp ht d);refine h1.kept (grownBy_setCell' w1 B1 v') (fun e=>?_);cases e
 have:=(show _=_ from hp).symm.trans (show _=_ from a);simp at this
 exact Fh this.2
theorem Bx2.turned{W W':World}{base B1 B2:Nat}{v1 v2:Value}{l1 l2:List Nat}{row:Option Nat}(h:Bx2 W base B1 B2 v1 v2 l1 l2)(hg:W.grownBy W' row)(hr:∀ r,row=some r->∃ o:Obj,W.heap[r]?=some o/\o.isCells=false):Bx2 W' base B1 B2 v1 v2 l1 l2:=by
 obtain⟨a,b,c,d,e,f,g,i⟩:=h
 have hbox:∀{p t v},Boxed W p t v->some p≠row:=fun hp e=>by
  obtain⟨o,h1,h2⟩:=hr _ e.symm;rw[show W.heap[_]?=_ from hp]at h1;cases h1
  cases h2
 have iO:∀{v l},fJ W base v l->v.ownBlock=none∨v.ownBlock≠row:=fun{v l} hv=>by
  cases hb:v.ownBlock with
  | none=>exact Or.inl rfl
  | some k =>
   refine Or.inr fun e=>?_
   obtain⟨o,h1,h2⟩:=hr _ e.symm;obtain⟨cur,fz,h3⟩:=hv.block k hb;rw[h3]at h1;cases h1
   cases h2
 exact⟨a.kept hg (hbox a),b.kept hg (hbox b),c,d.grown hg (iO d),e.grown hg (iO e),f,g,i⟩
theorem fJ.deferred{W W':World}{base D:Nat}{v:Value}{l:List Nat}{o:Obj}(h:fJ W base v l)(hg:W.grownBy W' v.ownBlock)(hD:W.heap[D]?=some o)(ho:o.isCells=false):W'.heap[D]?=some o:=by
 refine(hg.block D (Array.getElem?_eq_some_iff.1 hD).1 (fun e=>?_)).trans hD;obtain⟨cur,fz,h1⟩:=h.block D e.symm;rw[h1]at hD;cases hD
 cases ho
theorem Bx2.keepV{W w1:World}{base B1 B2:Nat}{v1 v2 v':Value}{l1 l2:List Nat}(h:Bx2 W base B1 B2 v1 v2 l1 l2)(hg:W.grownBy w1 v1.ownBlock){B e size n:Nat}{u:Value}{xs:List Value}(hv:W.ownsRow B e size u n xs)(he:e≠5)(he2:e≠30):(w1.setCell ⟨B1,0,none⟩ v').ownsRow B e size u n xs:=by
 obtain⟨a,b,c,d,e',f,g,i⟩:=h
 have h1:w1.ownsRow B e size u n xs:=hv.kept hg (by
  cases hb:u.ownBlock with
  | none=>exact Or.inl rfl
  | some k =>
   refine Or.inr fun e1=>?_
   obtain⟨cur,fz,h3⟩:=d.block k e1.symm;rcases hv.2 with ⟨rfl,_⟩ | ⟨g,cap,cur2,rfl,_,Lk,_⟩
   ·simp[Value.ownBlock]at hb
   ·simp[Value.ownBlock]at hb
    subst hb;rw[h3]at Lk;simp at Lk
    exact he Lk.2.1.symm)
 have zm:Boxed w1 B1 30 v1:=a.kept hg (pE a (by decide) d);exact h1.kept (grownBy_setCell' w1 B1 v') (Or.inr (zm.not_row (fun e1=>he2 e1.symm) h1).symm)
theorem JS{W W':World}{D:Nat}{o:Obj}(hb:Below W.heap.size W W')(hD:W.heap[D]?=some o):W'.heap[D]?=some o:=(hb.block D (Array.getElem?_eq_some_iff.1 hD).1).trans hD
theorem fJ.below{W W':World}{base:Nat}{v:Value}{l:List Nat}(h:fJ W base v l)(hg:W.grownBy W' v.ownBlock)(hb:base<=W.heap.size):Below base W W':=(Yz base W).grown hg hb (fun k hk=>(h.lt k hk).1)
attribute [local go_sem] Oper.semAt_some
theorem lW(cs:List Cl):∃ n:Nat,(bJ cs).nulls=(n:Int)/\n<=cs.length:=by
 unfold bJ;split
 ·exact⟨cs.length,rfl,YA _⟩
 ·next x r h =>
  have hl:(aP cs).length<=cs.length:=jao _ _;rw[h]at hl;exact⟨cs.length-(x::r).length,by show (cs.length:Int)-_=_;omega,by omega⟩
theorem iY{fs:List Fd}{p:List Row}(h:jv fs p)(k:Nat):∀ c∈bq p k,aI c:=fun c hc=>by
 obtain⟨r,hr,rfl⟩:=YS.1 hc;rw[List.getD_eq_getElem?_getD];cases hg:r[k]? with
 | none=>exact Or.inl rfl
 | some y=>exact(h r hr).2 y (List.mem_of_getElem? hg)
theorem qP{st:Stt}(h1:aI st.lo)(h2:aI st.hi)(hn:∃ n:Nat,st.nulls=(n:Int)/\n<=1000000):(eS st).length<=160/\Bs (eS st):=by
 obtain⟨n,hn,Kv⟩:=hn;have hu:=cC (n:=n) (by omega);have b1:=pp h1;have b2:=pp h2
 have hb:∀{c:Cl},aI c->Bs (iA c):=fun{c} hc=>by
  unfold iA;split
  ·exact fM
  ·split
   ·intro x hx
    have:=Zl.1 hx;omega
   ·refine Bs.app fM ?_
    rcases hc with rfl | ⟨m,rfl,_⟩ | ⟨m,rfl,_⟩ | ⟨s,rfl,_,h8⟩
    ·exact fun x hx=>by simp[nul]at hx
    ·exact fun x hx=>by simp at hx
    ·exact fun x hx=>by simp at hx
    ·exact h8
 unfold eS;rw[hn,Ze];refine⟨?_,Bs.app (Bs.app fM (fun x hx=>?_)) (Bs.app ?_ ?_)⟩
 ·simp only[YC,Zj]
  split<;>split<;>(try simp only[Zc])<;>omega
 ·have:=Zl.1 hx
  have:=SR st;omega
 ·split
  ·exact hb h1
  ·exact fun x hx=>by simp at hx
 ·split
  ·exact hb h2
  ·exact fun x hx=>by simp at hx
theorem Ge{fs:List Fd}{p:List Row}(h:jv fs p)(hl:p.length<=256)(k:Nat):aI (bJ (bq p k)).lo/\aI (bJ (bq p k)).hi/\∃ n:Nat,(bJ (bq p k)).nulls=(n:Int)/\n<=1000000:=by
 obtain⟨h1,h2⟩:=kV (iY h k);obtain⟨n,h3,h4⟩:=lW (bq p k);rw[bR]at h4;exact⟨h1,h2,n,h3,by omega⟩
theorem pH{fs:List Fd}{p:List Row}(eZ:∀ k,k<fs.length->Col (lA fs k) (bq p k)):∀{k:Nat},k<=fs.length->(fq fs p k).length<=21600*k/\Bs (fq fs p k):=by
 intro k;induction k with
 | zero=>exact fun _=>⟨by simp[fq],fun x hx=>by simp[fq]at hx⟩
 | succ k ih =>
  intro hk;obtain⟨h1,h2⟩:=ih (by omega);obtain⟨h3,h4⟩:=ie (eZ k (by omega));rw[mz];exact⟨by rw[YC];omega,Bs.app h2 h4⟩
theorem tc{fs:List Fd}{p:List Row}(h:jv fs p)(hl:p.length<=256)(eZ:∀ k,k<fs.length->Col (lA fs k) (bq p k)):∀{k:Nat},k<=fs.length->(ftK fs p k).length<=170*k/\Bs (ftK fs p k):=by
 intro k;induction k with
 | zero=>exact fun _=>⟨by simp[ftK],fun x hx=>by simp[ftK]at hx⟩
 | succ k ih =>
  intro hk;obtain⟨h1,h2⟩:=ih (by omega);obtain⟨h3,h4⟩:=ie (eZ k (by omega));obtain⟨a1,a2,a3⟩:=Ge h hl k;obtain⟨b1,b2⟩:=qP a1 a2 a3;have hu:=cC (n:=(dS (lA fs k) (bq p k)).length) (by omega);rw[pi];exact⟨by simp only[YC];omega,Bs.app h2 (Bs.app fM b2)⟩
theorem jw{f:Nat->List Nat}{m:Nat}(h:∀ j,(f j).length<=m):∀ pre:List Nat,(pre.flatMap f).length<=m*pre.length
 | []=>by simp
 | j::t=>by
  have:=jw h t;have:=h j;rw[jaa,YC,YI,ZQ];omega
theorem yF{f:Nat->List Nat}(h:∀ j,Bs (f j)):∀ pre:List Nat,Bs (pre.flatMap f)
 | []=>fun x hx=>by simp at hx
 | j::t=>by
  rw[jaa];exact Bs.app (h j) (yF h t)
theorem kI{g n:Nat}(hg:1<=g)(hn:n<=256):nps g n<=256:=by
 rcases Zd 256 (nps g n)with h | h
 ·have:=(kh (j:=256) (show 0<g by omega)).1 h
  have:256*1<=256*g:=ZT _ hg;omega
 ·exact h
theorem Bm(m:Nat)(hm:1<=m)(l Bs Bn cap:Nat)(a:Option Addr)(J:List Nat->World->Prop)(W:World)(hBs:W.cell? ⟨Bs,0,none⟩=some (.slice a 0 cap))(h0:J [] W) :
  CallsIn Fence.wide m Tryz.prog 121 #[.func (.yield l) #[] #[],.pointer (some ⟨Bs,0,none⟩),.pointer (some ⟨Bn,0,none⟩)] W fun e W'=>(∃ v,e=.returned v)/\J [] W':=by
 refine callsIn_of_wp Tryz.func121 rfl trivial ?_ rfl;simp only[Tryz.ntmps121,List.size_toArray,YI,Zc,Nat.reduceAdd,Nat.reduceSub,Array.replicate_succ,Array.replicate_zero,List.push_toArray,List.append_toArray,ZD,Zv];gi_wp2
 gi_loopw [4] (fun i wr=>i=.int .i64 0/\wr=W) (fun _ _=>0)
 case atStart=>exact⟨rfl,rfl⟩
 case round =>
  obtain⟨rfl,rfl⟩:=hrel;gi_wp2
  go_end0
  exact⟨⟨_,rfl⟩,h0⟩
theorem JT{w:World}{ra:Option Addr}{rcap:Nat}{rs:List Row}(hr:Rv w (.slice ra rs.length rcap) rs)(hl:rs.length<=256){g:Nat}(ew:1<=g)(gx:g<=64)(m:Nat)(hm:1<=m) :
  ∃ PV:Nat->Value,(∀ W,Rv W (.slice ra rs.length rcap) rs->∀ j,Rv W (PV j) (prt g rs j))/\∀(p q:Nat) (Z:World),Z.cell? ⟨p,0,none⟩=some (.slice ra rs.length rcap)->Z.cell? ⟨q,0,none⟩=some (.int .i64 (g:Int))->p<Z.heap.size->q<Z.heap.size ->
   SeqStopsK Fence.wide m Tryz.prog 121 #[.pointer (some ⟨p,0,none⟩),.pointer (some ⟨q,0,none⟩)] (fun j=>#[PV j]) (KC p q) (fun ys=>ys=List.range (nps g rs.length)) (fun pre=>∃ k,pre=List.range k) (nps g rs.length) Z:=by
 obtain⟨a',cap',e,h1,h2,h3,h4⟩:=hr;simp only[Value.slice.injEq]at e;obtain⟨rfl,_,rfl⟩:=e;have bw:rcap<=9223372036854775807:=by unfold maxLen at h2;omega
 rcases Zw rs.length with h0 | h0
 ·have UX:rs=[]:=YU h0
  subst UX;refine⟨fun _=>.slice none 0 0,fun W _ j=>?_,fun p q Z hp hq Xj od l J Jx W hW hJ hJx hY h00=>?_⟩
  ·have:prt g ([]:List Row) j=[]:=by simp[prt]
   rw[this];exact Rv.nil W
  ·have hn:nps g ([]:List Row).length=0:=Pm g (by omega)
   rw[hn];refine(Bm m hm l p q rcap ra J W ((hW.cell (p:=⟨p,0,none⟩) Xj).trans hp) h00).mono ?_;rintro e W' ⟨he,hj⟩;exact⟨he,.inl ⟨[],rfl,hj⟩⟩
 ·obtain⟨b,off,rfl,h5,h6⟩:=h4 h0
  refine⟨xi b off rs.length g,fun W hW j=>hW.part hl j,fun p q Z hp hq Xj od l J Jx W hW hJ hJx hY h00=>?_⟩;refine(JQ m hm l p q b off rs.length rcap g ew gx hl h1 bw J Jx hY (fun pre U k hU=>hJ pre U _ none hU ⟨rfl,rfl,rfl,YA _,fun _ _ _=>rfl⟩ (fun r e=>by cases e)) W ((hW.cell (p:=⟨p,0,none⟩) Xj).trans hp) ((hW.cell (p:=⟨q,0,none⟩) od).trans hq) h00).mono ?_;rintro e W' ⟨he,⟨ys,rfl,hj⟩ | ⟨pre,hk,hj⟩⟩
  ·exact⟨he,.inl ⟨_,rfl,hj⟩⟩
  ·exact⟨he,.inr ⟨_,hk,hj⟩⟩
end Go.Proofs.YtpljdjmpamjkhaaGreatDoor
