import Derived.Test.YtpljdjmpamjkhaaGreatDoorQan
import Derived.Laws.CopyOwn
import Derived.RangeFuncNested
import Derived.RangeFuncBound
import Derived.Lib.SlBytesConst
set_option linter.unusedVariables false
set_option linter.unusedSimpArgs false
set_option maxRecDepth 100000
set_option maxHeartbeats 4000000
namespace Go.Proofs.YtpljdjmpamjkhaaGreatDoor
open Go.RowKit Go.Lib
def oo(n m:Nat):List Value:=List.replicate m (.int .u64 1)++List.replicate (n-m) (.int .u64 0)
theorem uG{n m:Nat}(h:m<=n):(oo n m).length=n:=by simp[oo];omega
theorem Fo{n m c:Nat}(h:m+c<=n):splice (oo n m) m (List.replicate c (.int .u64 1))=oo n (m+c):=by
 unfold splice oo
 have h1:(List.replicate m (Value.int .u64 1)++List.replicate (n-m) (Value.int .u64 0)).take m=List.replicate m (Value.int .u64 1):=by
  rw[List.take_append_of_le_length (by simp)];exact je4 (by simp)
 have h2:(List.replicate m (Value.int .u64 1)++List.replicate (n-m) (Value.int .u64 0)).drop (m+(List.replicate c (Value.int .u64 1)).length)=List.replicate (n-(m+c)) (Value.int .u64 0):=by
  rw[List.drop_append,jf1 (by simp)];simp
  omega
 rw[h1,h2,← jez,List.replicate_append_replicate]
theorem Fp(n:Nat)(hn:n<=256)(w:World):Calls Tryz.prog 295 #[.int .u64 1,.int .u64 (n:Int)] w fun e w'=>e=.returned (.tuple #[.int .u64 0,.int .u64 (n:Int)])/\w'=w:=by
 have:=Any.bits_Mul XA 1 n (by omega) (by omega) w;have h1:1*n / 18446744073709551616=0:=by omega
 have h2:1*n % 18446744073709551616=n:=by omega
 rw[h1,h2]at this;exact this
theorem jbB:(Tryz.prog.info? 92).map (·.size)=some 1:=by kernel_rfl
theorem Fq{W:World}{T n m sl dl sc dc c:Nat}{ad:Addr}(ki:W.heap[T]?=some (.cells (oo n m).toArray 92 (0,0)))(hc:c=Nat.min sl dl)(dq:m+c<=n)(jcC:∀ j,j<c->W.cell? (ad.add j)=some (.int .u64 1)) :
  ∃ W',(Builtin.copy_ #[142,142] 3 #[.slice (some ⟨T,m,none⟩) dl dc,.slice (some ad) sl sc]).run Tryz.prog W=.ok (.int .i64 (c:Int)) W'/\W'.heap[T]?=some (.cells (oo n (m+c)).toArray 92 (0,0))/\Below T W W'/\W'.heap.size=W.heap.size:=by
 have hl:(List.replicate c (Value.int .u64 1)).length=c:=List.length_replicate
 have zu:=run_copy_row (P:=Tryz.prog) W 142 142 3 92 T m dl dc ad sl sc (oo n m).toArray 92 (List.replicate c (.int .u64 1)) Tryz.underlying142 jbB ki (by rw[hl];exact hc) (fun j v hj=>by
  rw[List.getElem?_replicate]at hj;split at hj
  ·next h =>
   cases hj
   exact jcC j h
  ·cases hj) (by rw[hl];simp[uG (show m<=n by omega)];exact dq) (fun v hv=>by rw[jf5 hv];rfl)
 have hs:=Fo dq;unfold splice at hs;rw[hl]at zu hs;rw[← jez]at hs;simp only[List.toList_toArray]at zu;rw[hs]at zu;refine⟨_,zu,?_,below_setRow (jej _ _) (jek _) _,by simp[World.setRow]⟩;exact setRow_heap W T _ _ 92 _ ki
theorem Ka{w:World}{g:Nat}(hc:w.cell? ⟨g,0,none⟩=some (.int .u64 1))(n:Nat)(hn:n<=256) :
  Calls Tryz.prog 277 #[.slice (some ⟨g,0,none⟩) 1 1,.int .i64 (n:Int)] w fun e w'=>(∃ v,e=.returned v/\dJ w' w.heap.size v (List.replicate n 1))/\Below w.heap.size w w':=by
 obtain⟨i0,hi,ch,hz1',bv⟩:=jeD pZ;have HC:=ae hc;have hg:=World.block_lt_of_cell? w _ hc;simp only at hg;have HM:=ae (Fp n hn);have Zb:¬ (n:Int)<0:=by omega
 have QI:¬ (n:Int) > 9223372036854775807:=by omega
 clear hc;go_enter Tryz.func277,Tryz.ntmps277
 go_wp2_with fail;refine(HM.o _).mono ?_;rintro e w1 ⟨rfl,rfl⟩;go_wp2_with (first | (refine jfo _ rfl _ _ 142 rfl w1.heap.size 92 i0 (.int .u64 0) 1 Tryz.underlying142 hi ch hz1' .i64 .i64 _ _ n rfl rfl ?m1 ?m2 ?m3 ?m4 ?m5 ?_))
 case m1=>rfl
 case m2=>rfl
 case m3=>rw[bv];omega
 case m4=>unfold maxLen;omega
 case m5=>omega
 intro w4 gQ iZ;have bG:Below w1.heap.size w1 w4:=(jej _ _).grown iZ (jek _) (fun k hk=>by cases hk)
 have ki:w4.heap[w1.heap.size]?=some (.cells (oo n 0).toArray 92 (0,0)):=by
  obtain⟨h0,⟨h,_⟩ | ⟨g',cap',cur,h1,h2,h3,h4,h5,h6,h7⟩⟩:=gQ
  ·cases h
  ·cases h1
   rw[h3]
   have e1:cur=(oo n 0).toArray:=by
    apply Array.toList_inj.1
    rw[je4 (by simp;omega)]at h7;rw[h7,jfO];simp[oo]
   rw[e1]
 have VS:=(bG.cell (p:=⟨g,0,none⟩) hg).trans HC.o
 obtain⟨w5,WU,Rm,bD,tU⟩:=Fq (c:=Nat.min 1 n) (sl:=1) (dl:=n) (sc:=1) (dc:=n) (ad:=⟨g,0,none⟩) ki rfl (by have:=Nat.min_le_right 1 n;show 0+min 1 n<=n;omega) (fun j hj=>by
  have:j=0:=by have:=Nat.min_le_left 1 n;have h:j<min 1 n:=hj;omega
  subst this;rw[mC];exact VS)
 rw[jeO]at Rm;have sG:=ae Rm;have aQ:=ae (bG.trans bD);have Rh:Nat.min 1 n<=n:=Nat.min_le_right 1 n
 have hmn1:n=0∨1<=Nat.min 1 n:=by
  rcases jfa n with h | h
  ·exact Or.inl h
  ·right
   show 1<=min 1 n
   omega
 have HMN:=ae hmn1;clear gQ iZ bG ki VS Rm bD tU hmn1;generalize Nat.min 1 n=mm at *;go_wp2_with fail;go_loopw [8] (fun i wr=>∃ m:Nat,i=.int .i64 (m:Int)/\m<=n/\(n=0∨1<=m)/\wr.heap[w1.heap.size]?=some (.cells (oo n m).toArray 92 (0,0))/\Below w1.heap.size w1 wr) (fun i _=>n-(intOf i).toNat)
 case atStart=>exact⟨mm,rfl,Rh,HMN.o,sG.o,aQ.o⟩
 case round =>
  obtain⟨m,rfl,hm,Lj,ki,az⟩:=hrel;have HR:=ae ki;have HB:=ae az;have QJ:=ae Lj;clear ki az Lj WU;by_cases aB:m<n
  ·have hm0:1<=m:=by have:=QJ.o;omega
   have hlt':(m:Int)<(n:Int):=(by omega);have hRd:wr.drew.heap[w1.heap.size]?=some (.cells (oo n m).toArray 92 (0,0)):=HR.o;have hBd:Below w1.heap.size wr wr.drew:=⟨rfl,rfl,rfl,jek _,fun _ _=>rfl⟩
   obtain⟨w6,WU,VT,dW,Gq⟩:=Fq (W:=wr.drew) (c:=Nat.min m (n-m)) (sl:=m) (dl:=n-m) (sc:=n) (dc:=n-m) (ad:=⟨w1.heap.size,0,none⟩) hRd rfl (by show m+min m (n-m)<=n;omega) (fun j hj=>by
    have h:j<min m (n-m):=hj;rw[mC,ay hRd];unfold oo;rw[List.getElem?_toArray,List.getElem?_append_left (by rw[List.length_replicate];omega),List.getElem?_replicate,jei (by omega)])
   have lK:1<=Nat.min m (n-m):=by show 1<=min m (n-m);omega
   have ke:m+Nat.min m (n-m)<=n:=by show m+min m (n-m)<=n;omega
   have GN:=ae VT;have gW:=ae ((HB.o.trans hBd).trans dW);have fJ:¬ n=m:=(by omega);clear VT dW Gq hRd hBd;generalize Nat.min m (n-m)=c at *;have hwrap:IntKind.i64.wrap ((m:Int)+(c:Int))=(m:Int)+(c:Int):=by rw[jeV];omega
   go_wp2_with fail;go_region
   go_wp2_with fail;go_roundw
   case rel=>exact⟨m+c,by go_num,ke,Or.inr (by omega),GN.o,gW.o⟩
   case measure=>simp[intOf];omega
  ·obtain rfl:m=n:=by omega
   have HO:jgf (dJ wr w1.heap.size (.slice (some ⟨w1.heap.size,0,none⟩) m m) (List.replicate m 1)):=ae (by
    unfold dJ;refine⟨by rw[ap];simp,Or.inr ⟨w1.heap.size,m,(oo m m).toArray,by simp,jek _,HR.o,by simp,by unfold maxLen;omega,by simp[uG (jek m)],?_⟩⟩;have:oo m m=aF .u64 (List.replicate m 1):=by simp[oo,aF]
    rw[this];simp[aF])
   have gi:¬ ((m:Nat):Int)<(m:Int):=(by omega);go_wp2_with fail;go_ret
   exact⟨⟨_,rfl,HO.o⟩,HB.o⟩
def Nu(n:Nat)(l:List Nat):Prop:=l.length=n/\∀ x∈l,x<2
def byH(b:List Nat)(n:Nat)(x r:List Nat):Prop:=∃ l:List (Nat×Int×List Nat),l.length=n/\x=bP l/\b=dO l++r
theorem Pt{b:List Nat}{f n:Nat}(hf:Er f)(hn:n<=256)(hx:chX b=1):RP (Nu n) (byH b n) f (unR (tkB (by8 n) b.tail) n 1) (tkR (by8 n) b.tail) (orf (tkF (by8 n) b.tail (chF b f)) (unE (tkB (by8 n) b.tail) n 1)):=by
 have hb:∃ t,b=1::t/\chF b f=f:=by
  cases b with
  | nil=>simp[chX]at hx
  | cons x t =>
   have:x=1:=by
    unfold chX at hx;simp only at hx;split at hx<;>omega
   subst this;exact⟨t,rfl,by simp[chF]⟩
 obtain⟨t,rfl,hcf⟩:=hb;rw[hcf,List.tail_cons];refine⟨(Ci hf).orf (show Er (unE _ n ((1:Nat):Int)) from JX hn (by omega)),fun h=>?_,fun y r a1 a2 a3=>?_⟩
 ·obtain⟨h1,h2⟩:=bL h
  exact⟨(rS h1).1,ll h2⟩
 ·obtain⟨l,rfl,rfl,a6⟩:=a3
  unfold dO at a6;split at a6
  ·have h2:=ee l
   have hl:=eP h2 (by rw[br];exact hn);have QG:=oV h2 (by rw[br];exact hn);rw[br]at hl QG;have ht:t=bm (bP l) 1++r:=by simpa using a6
   rw[ht,← hl,(gN (a:=bm (bP l) 1) f).1,(gN (a:=bm (bP l) 1) f).2.1,(gN (a:=bm (bP l) 1) f).2.2,QG.1,QG.2,a1];exact⟨rfl,rfl,rfl⟩
  ·simp at a6
theorem Kb{b:List Nat}{f n:Nat}(hf:Er f)(hn:n<=256)(hx:chX b≠1):RP (Nu n) (byH b n) f (List.replicate n 1) b.tail (chF b f):=by
 have hef:Er (chF b f)/\(chF b f=0->f=0):=by
  unfold chF;split
  ·exact⟨hf.orf Yd,fun h=>(bL h).1⟩
  ·split
   ·exact⟨hf,fun h=>h⟩
   ·exact⟨hf.orf vD,fun h=>(bL h).1⟩
 refine⟨hef.1,fun h=>⟨hef.2 h,by simp,fun x hx=>by have:=jf5 hx;omega⟩,fun y r a1 a2 a3=>?_⟩;obtain⟨l,rfl,rfl,a6⟩:=a3;unfold dO at a6;split at a6
 ·rw[a6]at hx
  exact absurd rfl hx
 ·next h0 =>
  have hcf:chF b f=f:=by rw[a6];simp[chF]
  rw[hcf,a6];exact⟨a1,(wW h0).symm,rfl⟩
theorem Pu{w:World}{p f:Nat}{b:List Nat}(h:Rs w p b f)(hf:Er f)(n:Nat)(hn:n<=256) :
  Calls Tryz.prog 262 #[.pointer (some ⟨p,0,none⟩),.int .i64 (n:Int)] w fun r w'=>∃ l b' f',(∃ v,r=.returned v/\dJ w' w.heap.size v l)/\(∀ x∈l,x<2)/\l.length<=n/\Rs w' p b' f'/\RP (Nu n) (byH b n) f l b' f'/\Fr p w.heap.size w w':=by
 have HC:=ae (xP h);have aB:=h.lt;have H1:=ae (fun hx=>Pt (b:=b) hf hn hx);have H0:=ae (fun hx=>Kb (b:=b) hf hn hx)
 have WE:chX b<=1:=by
  unfold chX;split
  ·omega
  ·split<;>omega
 clear h;generalize chX b=x at *;generalize chF b f=f1 at *;generalize b.tail=b1 at *;by_cases hx:x=1
 ·have HR:=ae (H1.o hx)
  clear H1 H0;subst hx;go_enter Tryz.func262,Tryz.ntmps262
  go_wp2_with fail;refine HC.o.mono ?_;rintro e w1 ⟨rfl,eg,dh⟩;have gp:=ae dh;have cK:=dh.size;have HP:=ae (uF eg n hn);clear eg dh;go_wp2_with fail;refine HP.o.mono ?_;rintro e w2 ⟨⟨v2,rfl,ft⟩,dR,dG⟩;have dz:=ae (bg ft cK);have gj:=ae dR;have gP:=ae (gp.o.trans (dG.mono cK));clear ft dR dG
  have jav:(∀ x∈unR (tkB (by8 n) b1) n 1,x<2)/\(unR (tkB (by8 n) b1) n 1).length<=n:=by
   by_cases h0:unE (tkB (by8 n) b1) n 1=0
   ·exact⟨(ll h0).2,Nat.le_of_eq (ll h0).1⟩
   ·rw[xg h0]
    exact⟨fun x hx=>by simp at hx,by simp⟩
  have MG:=ae jav;clear jav;go_wp2_with fail;go_ret
  exact⟨_,_,_,⟨_,rfl,dz.o⟩,MG.o.1,MG.o.2,gj.o,HR.o,gP.o⟩
 ·have HR:=ae (H0.o hx)
  clear H1 H0;obtain rfl:x=0:=by omega
  go_enter Tryz.func262,Tryz.ntmps262
  go_wp2_with fail;refine HC.o.mono ?_;rintro e w1 ⟨rfl,eg,dh⟩;have gp:=ae dh;have cK:=dh.size;have ja:=ae eg;have HP:=ae (Ka (aK w1 (.int .u64 1) 92) n hn);have bv:=jel w1 (.cells #[.int .u64 1] 92);have aP:=ae (ak w1 (.cells #[.int .u64 1] 92));clear eg dh;go_wp2_with fail;refine HP.o.mono ?_;rintro e w2 ⟨⟨v2,rfl,ft⟩,aE⟩;have dz:=ae (bg (B:=w.heap.size) ft (by omega));have aS:=aP.o.trans (aE.mono (by omega));have gj:=ae (ja.o.kept aS ja.o.lt);have gP:=ae (gp.o.trans (Fr.of_below (aS.mono cK)));clear ft aE aS;go_wp2_with fail;go_ret
  exact⟨_,_,_,⟨_,rfl,dz.o⟩,fun x hx=>by have:=jf5 hx;omega,by simp,gj.o,HR.o,gP.o⟩
theorem pO{l:List Nat}{k:Nat}(h:k<l.length):(l.take (k+1)).sum=(l.take k).sum+l[k]:=by
 rw[jeA h,List.sum_append];simp
theorem rU:∀{l:List Nat},(∀ x∈l,x<2)->l.sum<=l.length
 | [],_=>by simp
 | x::t,h=>by
  have ih:=rU (l:=t) fun y hy=>h y (by simp[hy])
  have:=h x (by simp);rw[List.sum_cons,jer];omega
theorem Uo{w:World}{v:Value}{l:List Nat}(hs:Sv w v (aF .u64 l))(h2:∀ x∈l,x<2)(hl:l.length<=256) :
  Calls Tryz.prog 264 #[v] w fun e w'=>e=.returned (.int .i64 (l.sum:Int))/\w'=w:=by
 have HS:=ae hs;have H2:=ae h2;obtain⟨a,cap,rfl,aW,bC⟩:=hs.form1;rw[ap]at *;have hcm':cap<=9223372036854775807:=by unfold maxLen at bC;omega
 clear hs h2 bC;go_enter Tryz.func264,Tryz.ntmps264
 go_wp2_with fail;go_loopw [3,8] (fun o i wr=>∃ k:Nat,k<=l.length/\o=.int .i64 ((l.take k).sum:Int)/\i=.int .i64 (k:Int)/\wr=w) (fun _ i _=>l.length-(intOf i).toNat)
 case atStart=>exact⟨0,by omega,rfl,rfl,rfl⟩
 case round =>
  obtain⟨k,hk,rfl,rfl,rfl⟩:=hrel
  have oG:(l.take k).sum<=256:=by
   have:=rU (l:=l.take k) fun x hx=>H2.o x (je2 hx)
   rw[jeq]at this;omega
  by_cases aB:k<l.length
  ·obtain⟨b,off,rfl,hb,dN⟩:=HS.o.at1 (bU aB)
   have HT:=ae (pO aB);have hx:=H2.o l[k] (jeo aB);have hlt':(k:Int)<(l.length:Int):=(by omega);generalize l[k]=x at *;generalize (l.take k).sum=s at *;go_wp2_with fail;go_roundw
   case rel=>exact⟨k+1,by omega,by rw[HT.o];go_num,by go_num,trivial⟩
   case measure=>simp[intOf];omega
  ·obtain rfl:k=l.length:=by omega
   rw[jes];have gi:¬ ((l.length:Nat):Int)<(l.length:Int):=(by omega);go_wp2_with fail;go_ret
   exact⟨rfl,rfl⟩
def Nv(k n:Nat)(l:List (Nat×Int×List Nat)):Prop:=l.length=n/\∀ c∈l,gD k c/\c.1≠0
def byT(k:Nat)(b:List Nat)(l:List (Nat×Int×List Nat))(r:List Nat):Prop:=b=gE k l/\r=[]
theorem xQ{l:List (Nat×Int×List Nat)}(h:∀ c∈l,c.1≠0):bV l=l:=by
 unfold bV;rw[List.filter_eq_self];intro c hc;simpa using h c hc
theorem Up{f:Nat}{b:List Nat}(h:Er f):Er (orf f (if b.length=0 then 0 else 32)):=by
 refine h.orf ?_;split
 ·exact er0
 ·exact er32
theorem jbC{b:List Nat}{f n:Nat}(hb:Bs b)(hf:Er f)(hn:n<=256):RP (Nv 1 n) (byT 1 b) f ((bw b n).1.map fun z=>(1,z,[])) [] (orf f (bw b n).2):=by
 refine⟨hf.orf (rR hn),fun h=>?_,fun y r a1 a2 a3=>?_⟩
 ·obtain⟨h1,h2⟩:=bL h
  obtain⟨h3,h4⟩:=jf hb h2;refine⟨h1,by rw[jen];omega,fun c hc=>?_⟩;obtain⟨z,hz,rfl⟩:=jeF.1 hc;exact⟨Or.inr (Or.inl ⟨rfl,z,rfl,h4 z hz⟩),by simp⟩
 ·have ho:=xQ fun c hc=>(a2.2 c hc).2
  have ju:=je fun c hc=>(a2.2 c hc).1
  rw[ho]at ju;have aE:b=cV (y.map fun c=>c.2.1):=by rw[a3.1,wX,ho]
  have QG:=km ju.1 (by rw[jen];have:=a2.1;omega);rw[jen,a2.1]at QG;rw[aE,QG,a1,a3.2];exact⟨rfl,ju.2,rfl⟩
theorem jbD{b:List Nat}{f n:Nat}(hf:Er f)(hn:n<=256):RP (Nv 2 n) (byT 2 b) f ((unR (tkB (by8 n) b) n 1).map fun(x:Nat)=>(2,(x:Int),[])) (tkR (by8 n) b) (orf (orf (tkF (by8 n) b f) (unE (tkB (by8 n) b) n 1)) (if (tkR (by8 n) b).length=0 then 0 else 32)):=by
 refine⟨Up ((Ci hf).orf (show Er (unE _ n ((1:Nat):Int)) from JX hn (by omega))),fun h=>?_,fun y r a1 a2 a3=>?_⟩
 ·obtain⟨h1,h2⟩:=bL (bL h).1
  obtain⟨h3,h4⟩:=ll h2;refine⟨(rS h1).1,by rw[jen];exact h3,fun c hc=>?_⟩;obtain⟨z,hz,rfl⟩:=jeF.1 hc;exact⟨Or.inr (Or.inr (Or.inl ⟨rfl,z,rfl,h4 z hz⟩)),by simp⟩
 ·have ho:=xQ fun c hc=>(a2.2 c hc).2
  have ju:=fP fun c hc=>(a2.2 c hc).1
  rw[ho]at ju;have aE:b=bm (y.map fun c=>c.2.1.toNat) 1++[]:=by rw[a3.1,wY,ho,jeG]
  have hm:(y.map fun c=>c.2.1.toNat).length<=256:=by rw[jen];have:=a2.1;omega
  have hl:=eP ju.1 hm;have QG:=oV ju.1 hm;rw[jen,a2.1]at hl QG;rw[aE,← hl,(gN (a:=bm (y.map fun c=>c.2.1.toNat) 1) (r:=[]) f).1,(gN (a:=bm (y.map fun c=>c.2.1.toNat) 1) (r:=[]) f).2.1,(gN (a:=bm (y.map fun c=>c.2.1.toNat) 1) (r:=[]) f).2.2,QG.1,QG.2,a1,a3.2];exact⟨rfl,ju.2,rfl⟩
theorem jbE{b b1:List Nat}{f f1 n:Nat}{l:List (List Nat)}(h:RP (Nt n) (byW b) f l b1 f1):RP (Nv 3 n) (byT 3 b) f (l.map fun s=>(3,0,s)) b1 (orf f1 (if b1.length=0 then 0 else 32)):=by
 obtain⟨r1,r2,r3⟩:=h;refine⟨Up r1,fun h=>?_,fun y r a1 a2 a3=>?_⟩
 ·obtain⟨h1,h2,h3⟩:=r2 (bL h).1
  refine⟨h1,by rw[jen];exact h2,fun c hc=>?_⟩;obtain⟨s,hs,rfl⟩:=jeF.1 hc;exact⟨Or.inr (Or.inr (Or.inr ⟨rfl,s,rfl,h3 s hs⟩)),by simp⟩
 ·have ho:=xQ fun c hc=>(a2.2 c hc).2
  have ju:=gR fun c hc=>(a2.2 c hc).1
  rw[ho]at ju;obtain⟨d1,d2,d3⟩:=r3 (y.map fun c=>c.2.2) [] a1 ⟨by rw[jen];exact a2.1,ju.1⟩ ⟨by rw[a3.1,wZ,ho],rfl⟩;rw[d2,d3,d1,a3.2];exact⟨rfl,ju.2,rfl⟩
def Mf(k n:Nat)(b:List Nat)(p f:Nat)(w:World)(r:Ending)(w':World):Prop :=
 ∃ l b' f',(∃ v,r=.returned v/\OwnV w' w.heap.size v l)/\Rs w' p b' f'/\RP (Nv k n) (byT k b) f l b' f'/\Fr p w.heap.size w w'
theorem Uq{w:World}{p f:Nat}{b:List Nat}(h:Rs w p b f)(hf:Er f)(n:Nat)(hn:n<=256) :
  Calls Tryz.prog 263 #[.pointer (some ⟨p,0,none⟩),.int .u8 1,.int .i64 (n:Int)] w (Mf 1 n b p f w):=by
 have aB:=h.lt;have HN:=ae (no h n);have Ls:=ae (jbC h.bs hf hn);have MG:=ae (qu h.bs hn);clear h;generalize (bw b n).1=L at *;generalize orf f (bw b n).2=f1 at *;have kW:=MG.o.2;go_enter Tryz.func263,Tryz.ntmps263
 go_wp2_with fail;refine HN.o.mono ?_;rintro e w1 ⟨⟨v1,rfl,ei⟩,eg,dh⟩;have ja:=ae eg;have gp:=ae dh;have cK:=dh.size;have QA:=ae (Sv.of_own ei);have yC:jgf (∀ j,v1.ownBlock=some j->j<w1.heap.size):=ae (fun j hj=>(ei.lt j hj).2);obtain⟨a1,c1,rfl,lK,yq⟩:=aO ei;have hcm1':c1<=9223372036854775807:=by unfold maxLen at yq;omega
 clear eg dh ei yq;go_wp2_with fail;go_loopw [7,21] (fun o i wr=>∃ j:Nat,j<=L.length/\i=.int .i64 (j:Int)/\OwnV wr w1.heap.size o ((L.take j).map (fun z=>((1,z,[]):Nat×Int×List Nat)))/\Below w1.heap.size w1 wr) (fun _ i _=>L.length-(intOf i).toNat)
 case atStart=>exact⟨0,by omega,rfl,OwnV.nil _ _,jej _ _⟩
 case round =>
  obtain⟨j,hj,rfl,aA,az⟩:=hrel;have HO:=ae aA;have HB:=ae az;have bH:=az.size;clear aA az;by_cases tR:j<L.length
  ·obtain⟨g,off,rfl,hg,bn⟩:=(QA.o.keptB yC.o HB.o).at1 (pb tR)
   have hjl':(j:Int)<(L.length:Int):=(by omega)
   have lz:jgf ((L.take (j+1)).map (fun z=>((1,z,[]):Nat×Int×List Nat))=(L.take j).map (fun z=>((1,z,[]):Nat×Int×List Nat))++[(fun z=>((1,z,[]):Nat×Int×List Nat)) L[j]]):=ae (by
    rw[jeA tR,jeE];rfl)
   have hlen':((L.take j).map (fun z=>((1,z,[]):Nat×Int×List Nat))).length<=100000:=by rw[jen,jeq];omega
   generalize L[j]=z at *;generalize (L.take j).map (fun z=>((1,z,[]):Nat×Int×List Nat))=LL at *;go_wp2_with (first | (at_builtin;refine ed rfl _ _ rfl w1.heap.size _ _ (1,z,[]) LL rfl (HO.o.kept (ak _ _)) rfl (aK _ _ _) hlen' ?c2 ?_))
   case c2=>first | omega | (rw[jel];omega)
   intro v' w5 o5 b5;have df:=ae o5;have aQ:=ae ((HB.o.alloc bH _).trans b5);clear o5 b5;go_wp2_with fail;go_roundw
   case rel=>exact⟨j+1,by omega,by go_num,by rw[lz.o];exact df.o,aQ.o⟩
   case measure=>simp[intOf];omega
  ·obtain rfl:j=L.length:=by omega
   rw[jes]at HO;have gi:¬ ((L.length:Nat):Int)<(L.length:Int):=(by omega);have Gm:=ae (ja.o.kept HB.o ja.o.lt);have np:=ae (gp.o.trans (Fr.of_below (p:=p) (HB.o.mono cK)));generalize L.map (fun z=>((1,z,[]):Nat×Int×List Nat))=X at *;go_wp2_with fail;refine(xO Gm.o).mono ?_;rintro e w5 ⟨rfl,nG,iS⟩;have df:jgf (OwnV w5 w1.heap.size _ X):=ae (iS.own HO.o (by omega));have qF:=ae nG;have yz:=ae (np.o.trans (iS.mono (by omega)));clear nG iS;go_wp2_with fail;go_ret
   exact⟨X,_,_,⟨_,rfl,bg df.o cK⟩,qF.o,(by rw[show orf f1 (if ([]:List Nat).length=0 then 0 else 32)=f1 by unfold orf;split<;>simp_all];exact Ls.o),yz.o⟩
theorem Ur{w:World}{p f:Nat}{b:List Nat}(h:Rs w p b f)(hf:Er f)(n:Nat)(hn:n<=256) :
  Calls Tryz.prog 263 #[.pointer (some ⟨p,0,none⟩),.int .u8 2,.int .i64 (n:Int)] w (Mf 2 n b p f w):=by
 have aB:=h.lt;have HN:=ae (uF h n hn);have Ls:=ae (jbD (b:=b) hf hn)
 have MG:jgf ((∀ x∈unR (tkB (by8 n) b) n 1,x<2)/\(unR (tkB (by8 n) b) n 1).length<=n):=ae (by
  by_cases h0:unE (tkB (by8 n) b) n 1=0
  ·exact⟨(ll h0).2,Nat.le_of_eq (ll h0).1⟩
  ·rw[xg h0]
   exact⟨fun x hx=>by simp at hx,by simp⟩)
 clear h;generalize unR (tkB (by8 n) b) n 1=L at *;generalize orf (tkF (by8 n) b f) (unE (tkB (by8 n) b) n 1)=f1 at *;generalize tkR (by8 n) b=b1 at *;have kW:=MG.o.2;go_enter Tryz.func263,Tryz.ntmps263
 go_wp2_with fail;refine HN.o.mono ?_;rintro e w1 ⟨⟨v1,rfl,ei⟩,eg,dh⟩;have ja:=ae eg;have gp:=ae dh;have cK:=dh.size;have QA:=ae (Sv.of_own ei);have yC:jgf (∀ j,v1.ownBlock=some j->j<w1.heap.size):=ae (fun j hj=>(ei.lt j hj).2);obtain⟨a1,c1,rfl,lK,yq⟩:=aO ei;have hcm1':c1<=9223372036854775807:=by unfold maxLen at yq;omega
 clear eg dh ei yq;go_wp2_with fail;go_loopw [7,37] (fun o i wr=>∃ j:Nat,j<=L.length/\i=.int .i64 (j:Int)/\OwnV wr w1.heap.size o ((L.take j).map (fun(x:Nat)=>((2,(x:Int),[]):Nat×Int×List Nat)))/\Below w1.heap.size w1 wr) (fun _ i _=>L.length-(intOf i).toNat)
 case atStart=>exact⟨0,by omega,rfl,OwnV.nil _ _,jej _ _⟩
 case round =>
  obtain⟨j,hj,rfl,aA,az⟩:=hrel;have HO:=ae aA;have HB:=ae az;have bH:=az.size;clear aA az;by_cases tR:j<L.length
  ·obtain⟨g,off,rfl,hg,bn⟩:=(QA.o.keptB yC.o HB.o).at1 (bU tR)
   have hjl':(j:Int)<(L.length:Int):=(by omega)
   have lz:jgf ((L.take (j+1)).map (fun(x:Nat)=>((2,(x:Int),[]):Nat×Int×List Nat))=(L.take j).map (fun(x:Nat)=>((2,(x:Int),[]):Nat×Int×List Nat))++[(fun(x:Nat)=>((2,(x:Int),[]):Nat×Int×List Nat)) L[j]]):=ae (by
    rw[jeA tR,jeE];rfl)
   have hlen':((L.take j).map (fun(x:Nat)=>((2,(x:Int),[]):Nat×Int×List Nat))).length<=100000:=by rw[jen,jeq];omega
   have WE:=MG.o.1 L[j] (jeo tR);generalize L[j]=x at *;generalize (L.take j).map (fun(x:Nat)=>((2,(x:Int),[]):Nat×Int×List Nat))=LL at *;obtain rfl | rfl:x=0∨x=1:=by omega
   ·skip
    go_wp2_with (first | (at_builtin;refine ed rfl _ _ rfl w1.heap.size _ _ (2,((0:Nat):Int),[]) LL rfl (HO.o.kept (ak _ _)) rfl (aK _ _ _) hlen' ?c2 ?_))
    case c2=>first | omega | (rw[jel];omega)
    intro v' w5 o5 b5;have df:=ae o5;have aQ:=ae ((HB.o.alloc bH _).trans b5);clear o5 b5;go_wp2_with fail;go_roundw
    case rel=>exact⟨j+1,by omega,by go_num,by rw[lz.o];exact df.o,aQ.o⟩
    case measure=>simp[intOf];omega
   ·skip
    go_wp2_with (first | (at_builtin;refine ed rfl _ _ rfl w1.heap.size _ _ (2,((1:Nat):Int),[]) LL rfl (HO.o.kept (ak _ _)) rfl (aK _ _ _) hlen' ?c2 ?_))
    case c2=>first | omega | (rw[jel];omega)
    intro v' w5 o5 b5;have df:=ae o5;have aQ:=ae ((HB.o.alloc bH _).trans b5);clear o5 b5;go_wp2_with fail;go_roundw
    case rel=>exact⟨j+1,by omega,by go_num,by rw[lz.o];exact df.o,aQ.o⟩
    case measure=>simp[intOf];omega
  ·obtain rfl:j=L.length:=by omega
   rw[jes]at HO;have gi:¬ ((L.length:Nat):Int)<(L.length:Int):=(by omega);have Gm:=ae (ja.o.kept HB.o ja.o.lt);have np:=ae (gp.o.trans (Fr.of_below (p:=p) (HB.o.mono cK)));generalize L.map (fun(x:Nat)=>((2,(x:Int),[]):Nat×Int×List Nat))=X at *;go_wp2_with fail;refine(xO Gm.o).mono ?_;rintro e w5 ⟨rfl,nG,iS⟩;have df:jgf (OwnV w5 w1.heap.size _ X):=ae (iS.own HO.o (by omega));have qF:=ae nG;have yz:=ae (np.o.trans (iS.mono (by omega)));clear nG iS;go_wp2_with fail;go_ret
   exact⟨X,_,_,⟨_,rfl,bg df.o cK⟩,qF.o,Ls.o,yz.o⟩
theorem Us{w:World}{p f:Nat}{b:List Nat}(h:Rs w p b f)(hf:Er f)(n:Nat)(hn:n<=256) :
  Calls Tryz.prog 263 #[.pointer (some ⟨p,0,none⟩),.int .u8 3,.int .i64 (n:Int)] w (Mf 3 n b p f w):=by
 have aB:=h.lt;have HN:=ae (JZ h hf n hn);clear h;go_enter Tryz.func263,Tryz.ntmps263
 go_wp2_with fail;refine HN.o.mono ?_;rintro e w1 ⟨L,b1,f1,⟨v1,rfl,ei⟩,Dk,kW,eg,QK,dh⟩;have Ls:=ae (jbE QK);clear Dk QK;have ja:=ae eg;have gp:=ae dh;have cK:=dh.size;have QA:=ae (Sv.of_own ei);have yC:jgf (∀ j,v1.ownBlock=some j->j<w1.heap.size):=ae (fun j hj=>(ei.lt j hj).2);obtain⟨a1,c1,rfl,lK,yq⟩:=aO ei;have hcm1':c1<=9223372036854775807:=by unfold maxLen at yq;omega
 clear eg dh ei yq;go_wp2_with fail;go_loopw [7,54] (fun o i wr=>∃ j:Nat,j<=L.length/\i=.int .i64 (j:Int)/\OwnV wr w1.heap.size o ((L.take j).map (fun s=>((3,0,s):Nat×Int×List Nat)))/\Below w1.heap.size w1 wr) (fun _ i _=>L.length-(intOf i).toNat)
 case atStart=>exact⟨0,by omega,rfl,OwnV.nil _ _,jej _ _⟩
 case round =>
  obtain⟨j,hj,rfl,aA,az⟩:=hrel;have HO:=ae aA;have HB:=ae az;have bH:=az.size;clear aA az;by_cases tR:j<L.length
  ·obtain⟨g,off,rfl,hg,bn⟩:=(QA.o.keptB yC.o HB.o).at1 (cO tR)
   have hjl':(j:Int)<(L.length:Int):=(by omega)
   have lz:jgf ((L.take (j+1)).map (fun s=>((3,0,s):Nat×Int×List Nat))=(L.take j).map (fun s=>((3,0,s):Nat×Int×List Nat))++[(fun s=>((3,0,s):Nat×Int×List Nat)) L[j]]):=ae (by
    rw[jeA tR,jeE];rfl)
   have hlen':((L.take j).map (fun s=>((3,0,s):Nat×Int×List Nat))).length<=100000:=by rw[jen,jeq];omega
   rw[dM]at bn;generalize L[j]=s at *;generalize (L.take j).map (fun s=>((3,0,s):Nat×Int×List Nat))=LL at *;go_wp2_with (first | (at_builtin;refine ed rfl _ _ rfl w1.heap.size _ _ (3,0,s) LL rfl (HO.o.kept (ak _ _)) rfl (aK _ _ _) hlen' ?c2 ?_))
   case c2=>first | omega | (rw[jel];omega)
   intro v' w5 o5 b5;have df:=ae o5;have aQ:=ae ((HB.o.alloc bH _).trans b5);clear o5 b5;go_wp2_with fail;go_roundw
   case rel=>exact⟨j+1,by omega,by go_num,by rw[lz.o];exact df.o,aQ.o⟩
   case measure=>simp[intOf];omega
  ·obtain rfl:j=L.length:=by omega
   rw[jes]at HO;have gi:¬ ((L.length:Nat):Int)<(L.length:Int):=(by omega);have Gm:=ae (ja.o.kept HB.o ja.o.lt);have np:=ae (gp.o.trans (Fr.of_below (p:=p) (HB.o.mono cK)));generalize L.map (fun s=>((3,0,s):Nat×Int×List Nat))=X at *;go_wp2_with fail;refine(xO Gm.o).mono ?_;rintro e w5 ⟨rfl,nG,iS⟩;have df:jgf (OwnV w5 w1.heap.size _ X):=ae (iS.own HO.o (by omega));have qF:=ae nG;have yz:=ae (np.o.trans (iS.mono (by omega)));clear nG iS;go_wp2_with fail;go_ret
   exact⟨X,_,_,⟨_,rfl,bg df.o cK⟩,qF.o,Ls.o,yz.o⟩
theorem iG:∀(t:List Nat) (s:List (Nat×Int×List Nat)),(ij t s).length=t.length
 | [],s=>rfl
 | x::t,s=>by
  unfold ij;split
  ·rw[jer,jer,iG t s]
  ·rw[jer,jer,iG t s.tail]
theorem tG:∀{t:List Nat} {s:List (Nat×Int×List Nat)} {j:Nat},(∀ x∈t,x<2)->(h:j<t.length)->(ij t s)[j]?=some (if t[j]=0 then nul else s.getD (t.take j).sum nul)
 | x::t,s,0,h2,h=>by
  unfold ij;by_cases hx:x=0
  ·simp[hx]
  ·cases s<;>simp[hx]
 | x::t,s,j+1,h2,h=>by
  have ht:∀ y∈t,y<2:=fun y hy=>h2 y (by simp[hy])
  unfold ij;by_cases hx:x=0
  ·have:=tG (s:=s) ht (show j<t.length by simpa using h)
   simp[hx,this]
  ·have GM:x=1:=by have:=h2 x (by simp);omega
   have:=tG (s:=s.tail) ht (show j<t.length by simpa using h);rw[jeh hx,List.getElem?_cons_succ,this]
   have e:s.tail.getD (t.take j).sum nul=s.getD (1+(t.take j).sum) nul:=by
    cases s with
    | nil=>simp
    | cons c s=>simp[List.getD_eq_getElem?_getD,Nat.add_comm 1]
   simp only[e,GM,List.getElem_cons_succ,jf3,List.sum_cons]
theorem Kc{z:Value}{l:List Value}{i:Nat}(h:i<l.length)(he:l[i]=z):dD z l (i+1)=dD z l i:=by
 rw[← ms h,he]
 have hg:(dD z l i)[i]?=some z:=by
  unfold dD;rw[List.getElem?_append_right (by rw[jeq];omega),jeq,jfk (by omega),jfM,List.getElem?_replicate,jei (by omega)]
 apply List.ext_getElem?
 intro k;rw[List.getElem?_set];by_cases hk:i=k
 ·subst hk
  rw[jei rfl,hg,jei (by rw[iF (by omega)];exact h)]
 ·rw[jeh hk]
theorem Kd{w:World}{vt vs:Value}{t:List Nat}{s:List (Nat×Int×List Nat)}(ht:Sv w vt (aF .u64 t))(h2:∀ x∈t,x<2)(hl:t.length<=256)(hs:Sv w vs (aJ s))(oG:s.length=t.sum)(hnz:∀ c∈s,c.1≠0) :
  Calls Tryz.prog 265 #[vt,vs] w fun e w'=>(∃ v',e=.returned v'/\OwnV w' w.heap.size v' (ij t s))/\Below w.heap.size w w':=by
 obtain⟨i0,hi,ch,hz1',bv⟩:=jeD wG;have HT:=ae ht;have HS:=ae hs;have H2:=ae h2;have HNZ:=ae hnz;obtain⟨a,cap,rfl,aW,bC⟩:=ht.form1;obtain⟨a2,cap2,rfl,Vs,zh⟩:=hs.form1;rw[ap]at *;rw[aG]at *;have hcm':cap<=9223372036854775807:=by unfold maxLen at bC;omega
 have hcm2':cap2<=9223372036854775807:=by unfold maxLen at zh;omega
 have QL:=ae (rU h2);obtain⟨D,hD⟩:∃ D,ij t s=D:=⟨_,rfl⟩;have hDl:D.length=t.length:=by rw[← hD,iG]
 have QF:jgf (∀ k (h:k<t.length),(aJ D)[k]?=some (da (if t[k]=0 then nul else s.getD (t.take k).sum nul))):=ae (fun k h=>by
  have:=tG (s:=s) h2 h;rw[hD]at this;simp[aJ,this])
 rw[hD];have kY:=ae hDl;have HSUM:=ae oG;clear ht hs bC zh hD hDl h2 hnz;go_enter Tryz.func265,Tryz.ntmps265
 go_wp2_with (first | (refine jfo _ rfl _ _ 79 rfl w.heap.size 78 i0 .nilIface 1 Tryz.underlying79 hi ch hz1' .i64 .i64 _ _ t.length rfl rfl ?m1 ?m2 ?m3 ?m4 ?m5 ?_))
 case m1=>rfl
 case m2=>rfl
 case m3=>rw[bv];omega
 case m4=>unfold maxLen;omega
 case m5=>omega
 intro w4 gQ iZ;have bG:Below w.heap.size w w4:=(jej _ _).grown iZ (jek _) (fun k hk=>by cases hk)
 have ho4':w4.ownsRow w.heap.size 78 1 (.slice (some ⟨w.heap.size,0,none⟩) t.length t.length) t.length (dD .nilIface (aJ D) 0):=by
  rw[mS,aG,kY.o,← jfO];simpa using gQ
 have eY:=ae ho4';have cp:=ae bG;clear gQ iZ bG ho4';go_wp2_with fail;go_loopw [6,14] (fun o i wr=>∃ k:Nat,o=.int .i64 ((t.take k).sum:Int)/\i=.int .i64 (k:Int)/\k<=t.length/\wr.ownsRow w.heap.size 78 1 (.slice (some ⟨w.heap.size,0,none⟩) t.length t.length) t.length (dD .nilIface (aJ D) k)/\Below w.heap.size w wr) (fun _ i _=>t.length-(intOf i).toNat)
 case atStart=>exact⟨0,rfl,rfl,by omega,eY.o,cp.o⟩
 case round =>
  obtain⟨k,rfl,rfl,hk,how,az⟩:=hrel;have HB:=ae az;have HO:=ae how;have bH:=az.size;clear az how;by_cases aB:k<t.length
  ·have hkD:k<(aJ D).length:=by rw[aG,kY.o];exact aB
   have hval:(aJ D)[k]=da (if t[k]=0 then nul else s.getD (t.take k).sum nul):=by
    have:=QF.o k aB;rw[List.getElem?_eq_getElem hkD]at this;exact Option.some.inj this
   obtain⟨b,off,rfl,hb,dN⟩:=(HT.o.kept HB.o).at1 (bU aB);have WE:=H2.o t[k] (jeo aB);have sC:=ae (pO aB);have hlt':(k:Int)<(t.length:Int):=(by omega)
   have hsk:(t.take k).sum<=256:=by
    have:=rU (l:=t.take k) fun x hx=>H2.o x (je2 hx)
    rw[jeq]at this;omega
   by_cases hx:t[k]=0
   ·rw[jei hx]at hval
    have tT:=ae (Kc (z:=.nilIface) hkD hval);rw[hx]at dN sC;clear hval hx WE;generalize (t.take k).sum=sm at *;go_wp2_with fail;go_roundw
    case rel=>exact⟨k+1,by rw[sC.o,je9],by go_num,by omega,by rw[tT.o];exact HO.o,HB.o⟩
    case measure=>simp[intOf];omega
   ·have GM:t[k]=1:=by omega
    rw[jeh hx]at hval
    have eN:(t.take k).sum<s.length:=by
     have h1:(t.take (k+1)).sum<=t.sum:=by
      conv=>rhs;rw[← jfF (k+1) t,List.sum_append]
      omega
     rw[sC.o,GM]at h1;rw[HSUM.o];omega
    have dY:s.getD (t.take k).sum nul=s[(t.take k).sum]:=by rw[List.getD_eq_getElem?_getD,List.getElem?_eq_getElem eN];rfl
    rw[dY]at hval;obtain⟨b2,off2,rfl,aE,KS⟩:=(HS.o.kept HB.o).at1 (cQ eN);obtain⟨tt,uu,hvv⟩:=kj s[(t.take k).sum] (HNZ.o _ (jeo eN));rw[hvv]at KS hval;rw[GM]at dN sC;have jH:k<(dD .nilIface (aJ D) k).length:=by rw[iF (by omega)];exact hkD
    have tT:=ae (ms (z:=.nilIface) hkD);rw[hval]at tT;have fD:=HO.o;have Gn:=(fD.cellAt k (by omega)).trans (List.getElem?_eq_getElem jH);have Gp:=fD.frozenAt k;have hST:=fD.stored k (.iface tt uu);rw[tT.o]at hST;have cP:=ae hST;have Mx:=(fD.lt w.heap.size rfl).2;clear hST fD hval hvv dY hx GM WE;generalize (dD .nilIface (aJ D) k)[k]=y at *;generalize (t.take k).sum=sm at *;have hsl':(sm:Int)<(s.length:Int):=(by omega);go_wp2_with fail;go_roundw
    case rel=>exact⟨k+1,by rw[sC.o];go_num,by go_num,by omega,cP.o.1,cT HB.o (jek _) _⟩
    case measure=>simp[intOf];omega
  ·obtain rfl:k=t.length:=by omega
   have e:dD .nilIface (aJ D) t.length=aJ D:=by
    have:=pg .nilIface (aJ D);rwa[aG,kY.o]at this
   rw[e]at HO
   have HO':jgf (OwnV wr w.heap.size (.slice (some ⟨w.heap.size,0,none⟩) t.length t.length) D):=ae (by
    unfold OwnV;rw[kY.o];exact HO.o)
   have gi:¬ ((t.length:Nat):Int)<(t.length:Int):=(by omega);clear HO e;go_wp2_with fail;go_ret
   exact⟨⟨_,rfl,HO'.o⟩,HB.o⟩
def rV(n k:Nat):List Nat:=(le4 n).take k++List.replicate (4-k) 0
theorem Pv(n:Nat){k:Nat}(h:k<=4):(rV n k).length=4:=by
 unfold rV;simp[le4]
 omega
theorem Pw(n:Nat){k:Nat}(h:k<4):(rV n k).set k (n / 2 ^ (8*k) % 256)=rV n (k+1):=by
 have hk:k=0∨k=1∨k=2∨k=3:=by omega
 rcases hk with rfl | rfl | rfl | rfl<;>simp[rV,le4]
theorem Px(n:Nat)(hn:n<9223372036854775808)(w:World):Calls Tryz.prog 85 #[.int .i64 (n:Int)] w (dA w (le4 n)):=by
 obtain⟨i0,hi,ch,hz1',bv⟩:=jeD jv;go_enter Tryz.func85,Tryz.ntmps85
 go_wp2_with (first | (refine jfo _ rfl _ _ 30 rfl w.heap.size 5 i0 (.int .u8 0) 1 Tryz.underlying30 hi ch hz1' .i64 .i64 _ _ 4 rfl rfl ?m1 ?m2 ?m3 ?m4 ?m5 ?_))
 case m1=>rfl
 case m2=>rfl
 case m3=>rw[bv];omega
 case m4=>unfold maxLen;omega
 case m5=>omega
 intro w4 gQ iZ;have bG:Below w.heap.size w w4:=(jej _ _).grown iZ (jek _) (fun k hk=>by cases hk)
 have eY:jgf (aD w4 w.heap.size (.slice (some ⟨w.heap.size,0,none⟩) 4 4) (rV n 0)):=ae (by
  unfold aD;have h9:=gQ;rw[ko]at h9;exact h9)
 have cp:=ae bG;clear gQ iZ bG;go_wp2_with fail;go_loopw [8] (fun i wr=>∃ k:Nat,k<=4/\i=.int .i64 (k:Int)/\aD wr w.heap.size (.slice (some ⟨w.heap.size,0,none⟩) 4 4) (rV n k)/\Below w.heap.size w wr) (fun i _=>4-(intOf i).toNat)
 case atStart=>exact⟨0,by omega,rfl,eY.o,cp.o⟩
 case round =>
  obtain⟨k,hk,rfl,aA,az⟩:=hrel;have HO:=ae aA;have HB:=ae az;have bH:=az.size;clear aA az;by_cases aB:k<4
  ·have hlt':(k:Int)<4:=by omega
   have bR:(rV n k).length=4:=Pv n hk;obtain⟨hc,hf⟩:=HO.o.at (j:=k) (by omega);have cP:=ae (HO.o.stored k (n / 2 ^ (8*k) % 256));have tT:=ae (Pw n aB);rw[tT.o]at cP;have AR:((n / 2 ^ (8*k) % 256:Nat):Int)=(n:Int) / 2 ^ (8*k) % 256:=by simp
   rw[AR]at cP;clear tT AR;go_wp2_with fail;go_roundw
   case rel=>exact⟨k+1,by omega,by go_num,cP.o,cT HB.o (jek _) _⟩
   case measure=>simp[intOf];omega
  ·obtain rfl:k=4:=by omega
   have gi:¬ ((4:Nat):Int)<4:=(by omega);go_wp2_with fail;go_ret
   refine⟨⟨_,rfl,?_⟩,HB.o⟩;simpa [rV,le4]using HO.o
def Rv(W:World)(v:Value)(rs:List Row):Prop :=
 ∃ a cap,v=.slice a rs.length cap/\rs.length<=cap/\cap<=maxLen/\(a=none->cap=0)/\(0<rs.length->∃ b off,a=some ⟨b,off,none⟩/\b<W.heap.size/\∀ j (h:j<rs.length),∃ rv,W.cell? ⟨b,off+j,none⟩=some rv/\Sv W rv (aJ rs[j]))
theorem Rv.kept{W W':World}{v:Value}{rs:List Row}(h:Rv W v rs)(hb:Below W.heap.size W W'):Rv W' v rs:=by
 obtain⟨a,cap,h1,h2,h3,h4,h5⟩:=h;refine⟨a,cap,h1,h2,h3,h4,fun h0=>?_⟩;obtain⟨b,off,h6,h7,h8⟩:=h5 h0;refine⟨b,off,h6,jeH h7 hb.size,fun j hj=>?_⟩;obtain⟨rv,h9,nB⟩:=h8 j hj;exact⟨rv,(hb.cell (p:=⟨b,off+j,none⟩) h7).trans h9,nB.kept hb⟩
theorem Rv.nil(W:World):Rv W (.slice none 0 0) []:=⟨none,0,rfl,jek _,by unfold maxLen;omega,fun _=>rfl,fun h=>by simp at h⟩
theorem Rv.form{W:World}{v:Value}{rs:List Row}(h:Rv W v rs):∃ a cap,v=.slice a rs.length cap/\rs.length<=cap/\cap<=9223372036854775807/\(a=none->cap=0):=by
 obtain⟨a,cap,h1,h2,h3,h4,_⟩:=h;exact⟨a,cap,h1,h2,by unfold maxLen at h3;omega,h4⟩
theorem Rv.at{W:World}{a:Option Addr}{n cap:Nat}{rs:List Row}(h:Rv W (.slice a n cap) rs){k:Nat}(hk:k<rs.length) :
  ∃ b off rv,a=some ⟨b,off,none⟩/\b<W.heap.size/\W.cell? ⟨b,off+k,none⟩=some rv/\Sv W rv (aJ rs[k]):=by
 obtain⟨a',cap',e,h1,h2,h3,h4⟩:=h;simp only[Value.slice.injEq]at e;obtain⟨rfl,_,_⟩:=e;obtain⟨b,off,rfl,h5,h6⟩:=h4 (by omega);obtain⟨rv,h7,h8⟩:=h6 k hk;exact⟨b,off,rv,rfl,h5,h7,h8⟩
theorem xR(c:Cl):da c=.nilIface∨∃ t u,da c=.iface t u:=by
 unfold da;split
 ·exact Or.inl rfl
 ·split
  ·exact Or.inr ⟨_,_,rfl⟩
  ·split<;>exact Or.inr ⟨_,_,rfl⟩
theorem Cj{w:World}{v:Value}{rs:List Row}(hs:Rv w v rs)(hl:rs.length<=1000){c:Nat}(hc:∀ r∈rs,c<r.length) :
  Calls Tryz.prog 58 #[v,.int .i64 (c:Int)] w fun e w'=>(∃ v',e=.returned v'/\OwnV w' w.heap.size v' (cY rs c))/\Below w.heap.size w w':=by
 obtain⟨i0,hi,ch,hz1',bv⟩:=jeD wG;have HS:=ae hs;obtain⟨a,cap,rfl,aW,bC,_⟩:=hs.form;obtain⟨D,hD⟩:∃ D,cY rs c=D:=⟨_,rfl⟩;have hDl:D.length=rs.length:=by rw[← hD,dx]
 have QF:jgf (∀ k (h:k<rs.length),(aJ rs[k])[c]?=some (da (rs[k].getD c nul))/\∃ h2:k<(aJ D).length,(aJ D)[k]=da (rs[k].getD c nul)):=ae (fun k h=>by
  have h3:=hc _ (jeo h);refine⟨by simp[aJ,List.getD_eq_getElem?_getD,List.getElem?_eq_getElem h3],by rw[aG];omega,?_⟩;simp[aJ,← hD,cY])
 rw[hD];have kY:=ae hDl;clear hs hD hDl hc;go_enter Tryz.func58,Tryz.ntmps58
 go_wp2_with (first | (refine jfo _ rfl _ _ 79 rfl w.heap.size 78 i0 .nilIface 1 Tryz.underlying79 hi ch hz1' .i64 .i64 _ _ rs.length rfl rfl ?m1 ?m2 ?m3 ?m4 ?m5 ?_))
 case m1=>rfl
 case m2=>rfl
 case m3=>rw[bv];omega
 case m4=>unfold maxLen;omega
 case m5=>omega
 intro w4 gQ iZ;have bG:Below w.heap.size w w4:=(jej _ _).grown iZ (jek _) (fun k hk=>by cases hk)
 have ho4':w4.ownsRow w.heap.size 78 1 (.slice (some ⟨w.heap.size,0,none⟩) rs.length rs.length) rs.length (dD .nilIface (aJ D) 0):=by
  rw[mS,aG,kY.o,← jfO];simpa using gQ
 have eY:=ae ho4';have cp:=ae bG;clear gQ iZ bG ho4';go_wp2_with fail;go_loopw [13] (fun i wr=>∃ k:Nat,i=.int .i64 (k:Int)/\k<=rs.length/\wr.ownsRow w.heap.size 78 1 (.slice (some ⟨w.heap.size,0,none⟩) rs.length rs.length) rs.length (dD .nilIface (aJ D) k)/\Below w.heap.size w wr) (fun i _=>rs.length-(intOf i).toNat)
 case atStart=>exact⟨0,rfl,by omega,eY.o,cp.o⟩
 case round =>
  obtain⟨k,rfl,hk,how,az⟩:=hrel;have HB:=ae az;have HO:=ae how;have bH:=az.size;clear az how;by_cases aB:k<rs.length
  ·obtain⟨hval,hkD,MI⟩:=QF.o k aB
   obtain⟨b,off,rv,rfl,hb,dN,gX⟩:=(HS.o.kept HB.o).at aB;have hvl:=aG rs[k];obtain⟨ra,rcap,rfl,QM,Da⟩:=gX.form1;obtain⟨b2,off2,rfl,aE,KS⟩:=gX.at1 hval;have hclt:=(List.getElem?_eq_some_iff.1 hval).1;have hlt':(k:Int)<(rs.length:Int):=(by omega);have hclt':(c:Int)<((aJ rs[k]).length:Int):=(by omega);have jH:k<(dD .nilIface (aJ D) k).length:=by rw[iF (by omega)];exact hkD
   have hrc2':rcap<=9223372036854775807:=by unfold maxLen at Da;omega
   rcases xR (rs[k].getD c nul)with h0 | ⟨tt,uu,h0⟩
   all_goals rw[h0]at KS MI
   all_goals have tT:=ae (ms (z:=.nilIface) hkD)
   all_goals rw[MI]at tT
   all_goals have fD:=HO.o
   all_goals have Gn:=(fD.cellAt k (by omega)).trans (List.getElem?_eq_getElem jH)
   all_goals have Gp:=fD.frozenAt k
   ·have hST:=fD.stored k .nilIface
    rw[tT.o]at hST;have cP:=ae hST;clear hST fD hval MI gX h0 hvl;generalize (dD .nilIface (aJ D) k)[k]=y at *;generalize (aJ rs[k]).length=m at *;go_wp2_with fail;go_roundw
    case rel=>exact⟨k+1,by go_num,by omega,cP.o.1,cT HB.o (jek _) _⟩
    case measure=>simp[intOf];omega
   ·have hST:=fD.stored k (.iface tt uu)
    rw[tT.o]at hST;have cP:=ae hST;clear hST fD hval MI gX h0 hvl;generalize (dD .nilIface (aJ D) k)[k]=y at *;generalize (aJ rs[k]).length=m at *;go_wp2_with fail;go_roundw
    case rel=>exact⟨k+1,by go_num,by omega,cP.o.1,cT HB.o (jek _) _⟩
    case measure=>simp[intOf];omega
  ·obtain rfl:k=rs.length:=by omega
   have e:dD .nilIface (aJ D) rs.length=aJ D:=by
    have:=pg .nilIface (aJ D);rwa[aG,kY.o]at this
   rw[e]at HO
   have HO':jgf (OwnV wr w.heap.size (.slice (some ⟨w.heap.size,0,none⟩) rs.length rs.length) D):=ae (by
    unfold OwnV;rw[kY.o];exact HO.o)
   have gi:¬ ((rs.length:Nat):Int)<(rs.length:Int):=(by omega);clear HO e;go_wp2_with fail;go_ret
   exact⟨⟨_,rfl,HO'.o⟩,HB.o⟩
theorem cm(g:Nat)(rs:List Row)(j:Nat):(prt g rs j).length=min (rs.length-j*g) g:=by
 unfold prt;rw[jeq,jeR];omega
def jR(fs:List Fd)(rs:List Row):Prop:=∀ r∈rs,iO fs r=0/\∀ c∈r,aT c
theorem jR.part{fs:List Fd}{rs:List Row}(h:jR fs rs)(g j:Nat):jR fs (prt g rs j):=fun r hr=>h r (jfS (je2 hr))
theorem Fs:∀{fs:List Fd} {r:Row} {k:Nat},qL fs r=0->r.length=fs.length->∀(h:k<fs.length) (h2:k<r.length),qK fs[k] r[k]=0
 | f::t,c::r,k,h,hl,h1,h2=>by
  unfold qL at h;by_cases hm:qK f c=0
  ·rw[jei hm]at h
   cases k with
   | zero=>exact hm
   | succ k=>exact Fs (k:=k) h (by simpa using hl) (by simpa using h1) (by simpa using h2)
  ·rw[jeh hm]at h
   exact absurd h hm
 | [],r,k,h,hl,h1,h2=>by simp at h1
 | f::t,[],k,h,hl,h1,h2=>by simp at h2
theorem Py{f:Fd}{c:Cl}(h:qK f c=0):c.1=0∨c.1=f.2.2.1:=by
 unfold qK at h;by_cases h0:c.1=0
 ·exact Or.inl h0
 ·rw[jeh h0]at h
  by_cases h1:c.1≠f.2.2.1
  ·rw[jei h1]at h
   cases h
  ·exact Or.inr (by omega)
theorem fq{fs:List Fd}{p:List Row}(h:jR fs p)(hk:∀ f∈fs,1<=f.2.2.1/\f.2.2.1<=3)(hl:p.length<=256){k:Nat}(oF:k<fs.length):Col (mj fs k) (cY p k):=by
 rw[ml oF];refine⟨hk _ (jeo oF),by rw[dx];exact hl,fun c hc=>?_⟩;obtain⟨r,hr,rfl⟩:=jeF.1 hc;obtain⟨h1,h2⟩:=h r hr;have h3:=qO h1;have aB:k<r.length:=by omega
 rw[List.getD_eq_getElem?_getD,List.getElem?_eq_getElem aB]
 have hf:qL fs r=0:=by
  unfold iO at h1;rwa[jeh (by omega)]at h1
 exact(h2 _ (jeo aB)).cellk (Py (Fs hf h3 oF aB))
theorem Yh{k n:Nat}{l:List Cl}(hc:Col k l)(hn:l.length=n)(c b:List Nat):iE k n (ey k l++c,uv (ey k l).length++b,false)=(l,c,b,false):=by
 have hs:=(iB hc).1;obtain⟨h1,h2,h3⟩:=qn (lo:=0) (hi:=(ey k l++c).length) (n:=(ey k l).length) (je6 _) (by simp) (by omega) b;unfold iE;simp only[h1,h2,h3];rw[jfh,je3,← hn,Hs hc];rfl
theorem Ut{fs:List Fd}{p:List Row}{n:Nat}(ec:∀ k,k<fs.length->Col (mj fs k) (cY p k))(hn:p.length=n):∀{k:Nat},k<=fs.length->∀ c b:List Nat,
  grK fs n (eU fs p k++c,ftK fs p k++b,false) k=(fS n ((List.range k).map (cY p)),((List.range k).map fun i=>cA (cY p i)),(c,b,false)):=by
 intro k;induction k with
 | zero =>
  intro _ c b;show (List.replicate n ([]:Row),([]:List Stt),_)=_
  simp[xK,eU,ftK]
 | succ k ih =>
  intro hk c b;rw[rN (by omega),mo,nZ,jez,jez,jez,ih (by omega)];have bR:(cY p k).length=n:=by rw[dx];exact hn
  have hc:=ec k (by omega);rw[ml (by omega)]at hc;unfold grS;simp only[ml (show k<fs.length by omega)];rw[Yh hc bR];simp only[XZ];rw[xL bR,jfC,jeE,jeE];rfl
def grp(fs:List Fd)(p:List Row):Gr:=(p,(List.range fs.length).map fun i=>cA (cY p i))
theorem Uu{fs:List Fd}{g:Nat}{rs:List Row}(hr:jR fs rs)(hk:∀ f∈fs,1<=f.2.2.1/\f.2.2.1<=3)(hg:g<=64):∀(j:Nat) (c b:List Nat),
  fiJ fs g rs.length (iD fs g rs j++c,ftJ fs g rs j++b,false) j=((List.range j).map fun i=>grp fs (prt g rs i),(c,b,false)):=by
 intro j;induction j with
 | zero=>intro c b;rfl
 | succ j ih =>
  intro c b;have hp:=hr.part g j;have hl:=cm g rs j;have h1:=Ut (fs:=fs) (p:=prt g rs j) (fun k oF=>fq hp hk (by omega) oF) rfl (jek _) c b;rw[hl]at h1
  have h0:fiJ fs g rs.length (iD fs g rs (j+1)++c,ftJ fs g rs (j+1)++b,false) j=((List.range j).map fun i=>grp fs (prt g rs i),(eU fs (prt g rs j) fs.length++c,ftK fs (prt g rs j) fs.length++b,false)):=by
   rw[tA,xH,jez,jez];exact ih _ _
  have ki:fS (min (rs.length-j*g) g) ((List.range fs.length).map (cY (prt g rs j)))=prt g rs j:=by
   rw[← hl];exact EN (fun r CK=>qO (hp r CK).1)
  show ((fiJ fs g rs.length _ j).1++[_],_)=_
  rw[h0];simp only;rw[h1,ki,jfC,jeE];rfl
theorem Uv(g:Nat)(hg:0<g):nps g 0=0:=by
 unfold nps;rw[jeO,Nat.div_eq_of_lt (by omega)]
theorem kN{g n j:Nat}(hg:0<g):j<nps g n↔j*g<n:=by
 unfold nps;constructor
 ·intro h
  have h1:=(Nat.le_div_iff_mul_le hg).1 (show j+1<=(n+g-1) / g by omega);rw[jeZ]at h1;omega
 ·intro h
  have:j+1<=(n+g-1) / g:=(Nat.le_div_iff_mul_le hg).2 (by rw[jeZ];omega);omega
theorem Ay{g:Nat}{rs:List Row}:∀ j:Nat,((List.range j).map (prt g rs)).flatten=rs.take (j*g)
 | 0=>by simp
 | j+1=>by
  rw[jfC,jeE,jf0,Ay j];simp only[jeT,je8,jfH,List.flatten_nil,jeG];unfold prt;rw[jeZ,jfp,List.take_add]
theorem Ck{g:Nat}(hg:0<g)(rs:List Row):(JL g rs).flatten=rs:=by
 unfold JL;rw[Ay];apply je4
 have h:=(kN (n:=rs.length) (j:=nps g rs.length) hg);omega
theorem Uw(fs:List Fd){g:Nat}(hg:0<g)(rs:List Row):bT ((List.range (nps g rs.length)).map fun i=>grp fs (prt g rs i))=rs:=by
 unfold bT;rw[jeW];exact Ck hg rs
theorem Ft:∀{l a:List Fd},fe a l=0->∀ f∈l,1<=f.2.2.1/\f.2.2.1<=3
 | [],_,_=>fun f hf=>by simp at hf
 | f::t,a,h=>by
  unfold fe at h;by_cases hm:gq a f=0
  ·rw[jei hm]at h
   intro x hx;rcases jeC.1 hx with rfl | hx
   ·unfold gq at hm
    unfold ld at hm;simp only[jfP]at hm;repeat' (split at hm)
    all_goals first | (cases hm;done) | omega
   ·exact Ft h x hx
  ·rw[jeh hm]at h
   exact absurd h hm
theorem ip{id:Nat}{l:List Fd}(h:chk id l=0):∀ f∈l,1<=f.2.2.1/\f.2.2.1<=3:=by
 unfold chk at h;split at h
 ·cases h
 ·exact Ft h
theorem Ke{id:Nat}{fs:List Fd}{rs:List Row}{g:Nat}(lM:id<4294967296)(ho:∀ f∈fs,Okf f)(hc:chk id fs=0)(hr:jR fs rs)(hl:rs.length<=256)(eZ:1<=g)(gY:g<=64)
  (jG:(gm id fs rs g).length<4294967296):iW (mn id fs rs g)=some (id,fs,g,(List.range (nps g rs.length)).map fun i=>grp fs (prt g rs i)):=by
 obtain⟨hrise,h0,h8,hi0⟩:=qN hc
 have hz:szs fs<5000:=by
  have kT:fe [] fs=0:=by
   unfold chk at hc;rw[jeh (by omega)]at hc;exact hc
  have hn:=qP kT
  have:∀ m:List Fd,(∀ f∈m,f.2.1.size<=16)->szs m<=16*m.length:=by
   intro m;induction m with
   | nil=>intro _;simp[szs]
   | cons x t ih =>
    intro hx;have h1:=ih (fun f hf=>hx f (jfB _ hf));have h2:=hx x (List.mem_cons_self ..);unfold szs at *;simp only[jeT,List.sum_cons,jer];omega
  have:=this fs hn;omega
 have bR:(mn id fs rs g).length-4=(iD fs g rs (nps g rs.length)++gm id fs rs g).length:=by
  unfold mn;rw[jem];simp[le4]
 have h4:¬ (mn id fs rs g).length<4:=by
  unfold mn;rw[jem];simp[le4]
 have hd:(mn id fs rs g).drop ((mn id fs rs g).length-4)=le4 (gm id fs rs g).length:=by
  rw[bR];unfold mn;rw[je3]
 have ht:(mn id fs rs g).take ((mn id fs rs g).length-4)=iD fs g rs (nps g rs.length)++gm id fs rs g:=by
  rw[bR];unfold mn;rw[jfh]
 have Vp:leN (le4 (gm id fs rs g).length)=(gm id fs rs g).length:=Ca jG
 have hcut:(mn id fs rs g).length-4-(gm id fs rs g).length=(iD fs g rs (nps g rs.length)).length:=by
  rw[bR,jem];omega
 have YL:(mn id fs rs g).take (iD fs g rs (nps g rs.length)).length=iD fs g rs (nps g rs.length):=by
  unfold mn;rw[jez,jfh]
 unfold iW;rw[jeh h4,hd,Vp,jeh (by rw[bR,jem];omega),ht,hcut,je3,YL]
 have hun:di (gm id fs rs g)=.ok ((id,fs),uv rs.length++(uv g++ftJ fs g rs (nps g rs.length))):=by
  unfold gm;rw[jez,jez];have h1:=DE lM ho hz (by omega) (uv rs.length++(uv g++ftJ fs g rs (nps g rs.length)));rw[jei hc]at h1;exact h1
 rw[hun];simp only;obtain⟨a1,a2,a3⟩:=qn (lo:=0) (hi:=256) (n:=rs.length) (je6 _) hl (by omega) (uv g++ftJ fs g rs (nps g rs.length));obtain⟨b1,b2,b3⟩:=qn (lo:=1) (hi:=64) (n:=g) eZ gY (by omega) (ftJ fs g rs (nps g rs.length))
 have hrest:io fs (iD fs g rs (nps g rs.length)) (uv rs.length++(uv g++ftJ fs g rs (nps g rs.length)))=((List.range (nps g rs.length)).map fun i=>grp fs (prt g rs i),([],[],false)):=by
  unfold io;rw[a1,a2,a3,b1,b2,b3];have:=Uu hr (ip hc) gY (nps g rs.length) [] [];rw[jeG,jeG]at this;exact this
 rw[hrest,a3,b2];rfl
open Go.Shelf
attribute [local go_sem] Oper.semAt_some
def Az(b off n g j:Nat):Value:=if j*g<n then .slice (some ⟨b,off+j*g,none⟩) (min g (n-j*g)) (min g (n-j*g)) else .slice none 0 0
def KC(p q:Nat)(A B:World):Prop:=B.heap[p]?=A.heap[p]?/\B.heap[q]?=A.heap[q]?
theorem KC.refl(p q:Nat)(A:World):KC p q A A:=⟨rfl,rfl⟩
theorem KC.trans{p q:Nat}{A B C:World}(h:KC p q A B)(k:KC p q B C):KC p q A C:=⟨k.1.trans h.1,k.2.trans h.2⟩
theorem KC.drewN{p q:Nat}{A B:World}(h:KC p q A B)(n:Nat):KC p q A (B.drewN n):=h
theorem KC.cells{p q:Nat}{A B:World}(h:KC p q A B):(∀ i,B.cell? ⟨p,i,none⟩=A.cell? ⟨p,i,none⟩)/\∀ i,B.cell? ⟨q,i,none⟩=A.cell? ⟨q,i,none⟩ :=
 ⟨fun i=>by simp only[World.cell?,h.1],fun i=>by simp only[World.cell?,h.2]⟩
theorem Pz(m:Nat)(hm:1<=m)(l Bs Bn b off n cap g:Nat)(eZ:1<=g)(gY:g<=64)(hn:n<=256)(lK:n<=cap)(ke:cap<=9223372036854775807)(J Jx:List Nat->World->Prop)
  (hY:∀ pre x W,J pre W->pre.length<nps g n->YieldAt Fence.wide (m-1) Tryz.prog l #[Az b off n g x] W fun e W' =>
   (e=.returned (.bool true)/\J (pre++[x]) W'/\KC Bs Bn W W')∨(e=.returned (.bool false)/\Jx (pre++[x]) W'))
  (hJd:∀ pre W k,J pre W->J pre (World.drewN W k))
  (W:World) (hBs:W.cell? ⟨Bs,0,none⟩=some (.slice (some ⟨b,off,none⟩) n cap)) (hBn:W.cell? ⟨Bn,0,none⟩=some (.int .i64 (g:Int))) (h0:J [] W) :
  CallsIn Fence.wide m Tryz.prog 121 #[.func (.yield l) #[] #[],.pointer (some ⟨Bs,0,none⟩),.pointer (some ⟨Bn,0,none⟩)] W fun e W'=>(∃ v,e=.returned v) /\
   ((∃ ys,ys=List.range (nps g n)/\J ys W')∨(∃ pre,(∃ k,pre=List.range k)/\Jx pre W')):=by
 refine callsIn_of_wp Tryz.func121 rfl trivial ?_ rfl;simp only[Tryz.ntmps121,List.size_toArray,jer,jeL,Nat.reduceAdd,Nat.reduceSub,Array.replicate_succ,Array.replicate_zero,List.push_toArray,List.append_toArray,jfi,jfc];have WV:jgf (∀ k,k<nps g n↔k*g<n):=ae (fun k=>kN (by omega));gi_wp2
 gi_loopw [4] (fun i wr=>∃ k:Nat,k<=nps g n/\i=.int .i64 ((k*g:Nat):Int)/\J (List.range k) wr/\KC Bs Bn W wr)
  (fun i _=>n+64-(intOf i).toNat)
 case atStart=>exact⟨0,je6 _,by simp,h0,KC.refl _ _ _⟩
 case round =>
  obtain⟨k,hk,rfl,hJs,yw⟩:=hrel;have HJS:=ae hJs;have lz:=ae yw;have KS:wr.cell? ⟨Bs,0,none⟩=some (.slice (some ⟨b,off,none⟩) n cap):=(yw.cells.1 0).trans hBs;have AM:wr.cell? ⟨Bn,0,none⟩=some (.int .i64 (g:Int)):=(yw.cells.2 0).trans hBn;have kf:jgf (∀ W',KC Bs Bn wr W'->W'.cell? ⟨Bn,0,none⟩=some (.int .i64 (g:Int))):=ae (fun W' h=>(h.cells.2 0).trans AM);have HJD:=ae hJd;clear hJs yw hJd;by_cases aB:k*g<n
  ·have GF:k<nps g n:=(WV.o k).2 aB
   have HK1:jgf (k+1<=nps g n/\(k+1)*g=k*g+g):=ae ⟨GF,by rw[jeZ,jfp]⟩;have HY:=ae (fun q=>hY _ k _ (HJD.o _ wr q HJS.o) (by simpa using GF));have HP:jgf (Az b off n g k=.slice (some ⟨b,off+k*g,none⟩) (min g (n-k*g)) (min g (n-k*g))):=ae (by unfold Az;rw[jei aB]);have HRK:jgf (List.range (k+1)=List.range k++[k]):=ae jfC;have hkg:k*g<=256:=(by omega);clear hY GF hk;generalize hi:k*g=i at *;have h1:(0:Int)<=(i:Int):=(by omega);have h2:(i:Int)<=(n:Int):=(by omega);have h3:(i:Int)<=(cap:Int):=(by omega);have h4:(i:Int).toNat=i:=(by omega);have hlt':(i:Int)<(n:Int):=(by omega);have hE:min (g:Int) ((n-i:Nat):Int)=((min g (n-i):Nat):Int):=(by omega);have hE1:1<=min g (n-i):=(by omega);have hE2:min g (n-i)<=n-i:=(by omega);gi_wp2
   gi_quiet (fail)
   clear hE;generalize min g (n-i)=E at *;obtain⟨fn,tmps,assign,body,hy,hR⟩:=HY.o nq;rw[HP.o]at hy;have HR:=ae hR;clear hR HY HP;have hcs2:(wr.drewN nq).cell? ⟨Bs,0,none⟩=some (.slice (some ⟨b,off,none⟩) n cap):=KS;have h5:(i:Int)+(E:Int)<=(cap:Int):=(by omega);have h6:(i:Int)<=(i:Int)+(E:Int):=(by omega);have h7:IntKind.i64.wrap ((i:Int)+(E:Int))=(i:Int)+(E:Int):=by rw[jeV];omega
   have h8:((i:Int)+(E:Int)).toNat=i+E:=(by omega);have h9:(0:Int)<=(i:Int)+(E:Int):=(by omega);have nB:¬ E=0:=(by omega);gi_wp2
   refine HR.o.mono ?_;rintro e W3 (⟨rfl,hJ3,MF⟩ | ⟨rfl,hJx3⟩)
   ·have hcn3:=kf.o _ (((KC.refl Bs Bn wr).drewN nq).trans MF)
    have HJ3:=ae hJ3;have HK3:=ae MF;clear hJ3 MF KS AM hcs2;gi_wp2
    go_roundw
    case rel=>exact⟨k+1,HK1.o.1,by rw[HK1.o.2];go_num,by rw[HRK.o];exact HJ3.o,(lz.o.drewN nq).trans HK3.o⟩
    case measure=>simp[intOf];omega
   ·gi_wp2
    refine bodyPost_ret (results_none rfl _ _ _) rfl ?_;exact⟨⟨_,rfl⟩,.inr ⟨_,⟨k+1,HRK.o.symm⟩,hJx3⟩⟩
  ·have GH:k=nps g n:=by
    have:=WV.o k;omega
   subst GH;have hlt':¬ (((nps g n*g:Nat)):Int)<(n:Int):=(by omega);clear WV aB hk;generalize nps g n*g=q at *;gi_wp2
   go_end0
   exact⟨⟨_,rfl⟩,.inl HJS.o⟩
theorem PA(a:Option Addr)(n cap g:Nat)(hg:1<=g)(w:World) :
  Calls Tryz.prog 82 #[.slice a n cap,.int .i64 (g:Int)] w fun e w'=>e=.returned (.func (.func 121) #[] #[.pointer (some ⟨w.heap.size,0,none⟩),.pointer (some ⟨w.heap.size+1,0,none⟩)])/\w'=(w.alloc (.cells #[.slice a n cap] 34)).alloc (.cells #[.int .i64 (g:Int)] 3):=by
 have aB:¬ (g:Int)<1:=by omega
 go_enter Tryz.func82,Tryz.ntmps82
 go_wp2_with fail;go_ret
 simp
theorem Rv.part{W:World}{b off cap g:Nat}{rs:List Row}(h:Rv W (.slice (some ⟨b,off,none⟩) rs.length cap) rs)(hl:rs.length<=256)(j:Nat):Rv W (Az b off rs.length g j) (prt g rs j):=by
 obtain⟨a',cap',e,h1,h2,h3,h4⟩:=h;simp only[Value.slice.injEq]at e;obtain⟨rfl,_,rfl⟩:=e;have kV:=cm g rs j;unfold Az;by_cases aB:j*g<rs.length
 ·rw[jei aB]
  obtain⟨b',off',e,h5,h6⟩:=h4 (by omega);cases e
  refine⟨some ⟨b,off+j*g,none⟩,min g (rs.length-j*g),by rw[kV,Nat.min_comm],by rw[kV,Nat.min_comm];exact jek _,by unfold maxLen;omega,fun h=>(by cases h),fun h0=>⟨b,off+j*g,rfl,h5,fun k hk=>?_⟩⟩;rw[kV]at hk;obtain⟨rv,h7,h8⟩:=h6 (j*g+k) (by omega);refine⟨rv,by rw[jfr];exact h7,?_⟩;have:(prt g rs j)[k]'(by rw[kV];exact hk)=rs[j*g+k]'(by omega):=by simp[prt]
  rw[this];exact h8
 ·rw[jeh aB]
  have:prt g rs j=[]:=jeI (by rw[kV];omega);rw[this];exact Rv.nil W
def LitM(W:World)(base:Nat)(v:Value)(l:List Nat):Prop:=l=[67,70,49]/\∃ g,v=.slice (some ⟨g,0,none⟩) 3 3/\base<=g/\W.heap[g]?=some (.cells #[.int .u8 67,.int .u8 70,.int .u8 49] 5 (3,4))
def fT(W:World)(base:Nat)(v:Value)(l:List Nat):Prop:=aD W base v l∨LitM W base v l
theorem fT.grown{W W':World}{base:Nat}{row:Option Nat}{v:Value}{l:List Nat}(h:fT W base v l)(hg:W.grownBy W' row)(fJ:v.ownBlock=none∨v.ownBlock≠row):fT W' base v l:=by
 rcases h with h | ⟨h1,g,rfl,h2,h3⟩
 ·exact Or.inl (World.ownsRow.kept h hg fJ)
 ·refine Or.inr ⟨h1,g,rfl,h2,?_⟩
  have aB:=(Array.getElem?_eq_some_iff.1 h3).1
  rw[hg.block g aB (by
   rcases fJ with h | h
   ·simp[Value.ownBlock]at h
   ·simpa [Value.ownBlock]using h)]
  exact h3
theorem fT.kept{W W':World}{base:Nat}{v:Value}{l:List Nat}(h:fT W base v l)(hb:Below W.heap.size W W'):fT W' base v l:=by
 rcases h with h | ⟨h1,g,rfl,h2,h3⟩
 ·exact Or.inl (h.kept hb)
 ·exact Or.inr ⟨h1,g,rfl,h2,(hb.block g (Array.getElem?_eq_some_iff.1 h3).1).trans h3⟩
theorem fT.lt{W:World}{base:Nat}{v:Value}{l:List Nat}(h:fT W base v l):∀ k,v.ownBlock=some k->base<=k/\k<W.heap.size:=by
 intro k hk;rcases h with h | ⟨h1,g,rfl,h2,h3⟩
 ·exact World.ownsRow.lt h k hk
 ·simp[Value.ownBlock]at hk
  subst hk;exact⟨h2,(Array.getElem?_eq_some_iff.1 h3).1⟩
theorem fT.block{W:World}{base:Nat}{v:Value}{l:List Nat}(h:fT W base v l):∀ k,v.ownBlock=some k->∃ cur fz,W.heap[k]?=some (.cells cur 5 fz):=by
 intro k hk;rcases h with h | ⟨h1,g,rfl,h2,h3⟩
 ·rcases h.2 with ⟨rfl,_⟩ | ⟨g,cap,cur,rfl,_,QB,_⟩
  ·simp[Value.ownBlock]at hk
  ·simp[Value.ownBlock]at hk
   subst hk;exact⟨_,_,QB⟩
 ·simp[Value.ownBlock]at hk
  subst hk;exact⟨_,_,h3⟩
theorem fT.slice{W:World}{base:Nat}{v:Value}{l:List Nat}(h:fT W base v l):∃ a cap,v=.slice a l.length cap:=by
 rcases h with h | ⟨rfl,g,rfl,_⟩
 ·obtain⟨a,cap,e,_⟩:=aO h
  exact⟨a,cap,e⟩
 ·exact⟨_,_,rfl⟩
theorem fT.sv{W:World}{base:Nat}{v:Value}{l:List Nat}(h:fT W base v l):Sv W v (aF .u8 l):=by
 rcases h with h | ⟨rfl,g,rfl,_,h3⟩
 ·exact h.sv
 ·refine⟨_,3,rfl,jek _,by unfold maxLen;omega,fun h=>(by cases h),fun _=>⟨g,0,rfl,(Array.getElem?_eq_some_iff.1 h3).1,fun j x hj=>?_⟩⟩
  rw[ay h3,jeO];simpa [aF]using hj
theorem rW{W:World}{B:Nat}{t:TypeId}{u:Value}(hB:Boxed W B t u)(ht:t≠5){base:Nat}{v:Value}{l:List Nat}(h:fT W base v l):some B≠v.ownBlock:=fun e=>by
 obtain⟨cur,fz,h1⟩:=h.block B e.symm;have:=(show W.heap[B]?=_ from hB).symm.trans h1;simp at this
 exact ht this.2.1
theorem rX{w:World}(ty:TypeId)(base:Nat)(v vx:Value)(l0 l:List Nat)(aA:fT w base v l0)(eN:Sv w vx (aF .u8 l))(hp:0<l.length)(hbytes:l0.length+l.length<=140737488355328)(aI:base<=w.heap.size) :
  ∃ v' w',(Builtin.append_ #[30,30] ty #[v,vx]).run Tryz.prog w=.ok v' w'/\aD w' base v' (l0++l)/\w.grownBy w' v.ownBlock/\(v'.ownBlock=v.ownBlock∨v'.ownBlock=some w.heap.size):=by
 rcases aA with aA | ⟨rfl,g,rfl,hg,kh⟩
 ·exact pL ty base v vx l0 l aA eN hbytes aI
 ·obtain⟨i0,hi,ch,hz1',bv⟩:=jeD jv
  obtain⟨ad,cap,rfl,h1,h2,h3,h4⟩:=eN;rw[ap]at *;obtain⟨b,off,rfl,h5,h6⟩:=h4 hp
  have jcC:∀ j u,(aF .u8 l)[j]?=some u->w.cell? ((⟨b,off,none⟩:Addr).add j)=some u:=fun j u hu=>by
   rw[lR];exact h6 j u hu
  have hold:∀ j u,(aF .u8 [67,70,49])[j]?=some u->w.cell? ((⟨g,0,none⟩:Addr).add j)=some u:=fun j u hu=>by
   rw[lR,jeO,ay kh];simpa [aF]using hu
  have MJ:([67,70,49]:List Nat).length=3:=rfl
  have hr:=run_append_grow (P:=Tryz.prog) w 30 ty 5 i0 (.int .u8 0) Tryz.underlying30 hi ch ⟨g,0,none⟩ 3 3 (aF .u8 [67,70,49]) (by rw[hz1'];rfl) hold ⟨b,off,none⟩ l.length cap (aF .u8 l) (by rw[ap,hz1',jfL]) jcC (by omega) (by omega)
   (by rw[bv];exact growslice_fits (by omega) (by omega))
  refine⟨_,_,hr,?_,⟨rfl,rfl,rfl,by simp,fun k hk _=>Below.heap_alloc w.drew _ k hk⟩,Or.inr rfl⟩;have gi:=grownCap_ge w (3+l.length) 3 5;have bC:grownCap w (3+l.length) 3 5<=maxLen:=grownCap_le_maxLen w (3+l.length) 3 5 (by unfold maxLen;omega);unfold aD;rw[jem,MJ];refine⟨by rw[ap,jem,MJ];omega,.inr ⟨w.heap.size,_,_,rfl,aI,jeK w.drew _,gi,bC,?_,?_⟩⟩
  ·simp only[Array.size_append,List.size_toArray,size_zeroCells,ap,MJ,Value.cells]
   simp
   omega
  ·simp only[Array.toList_append,jez]
   rw[← jez,← ct];have hl4:(3+l.length)*1=(aF .u8 ([67,70,49]++l)).length:=by rw[ap,jem,MJ];omega
   rw[hl4];exact jfh
theorem uH{w:World}{o:Oper}{a:Act}{K:Act->World->Prop}{Q:Exit->Act->World->Prop}(s x:Operand)
  (ho:o.op=.call { callee:=.builtin .append,args:=#[s,x],argTypes:=#[30,30] })
  (base:Nat) (v vx:Value) (l0 l:List Nat) (hs:a.eval s=v) (aA:fT w base v l0) (hx:a.eval x=vx) (eN:Sv w vx (aF .u8 l)) (hp:0<l.length) (hbytes:l0.length+l.length<=140737488355328) (aI:base<=w.heap.size)
  (h:∀ v' w',aD w' base v' (l0++l)->w.grownBy w' v.ownBlock->(v'.ownBlock=v.ownBlock∨v'.ownBlock=some w.heap.size)->K (a.put o.dst v') w'):Oper.wp Tryz.prog o a w K Q:=by
 obtain⟨v',w',hr,h2,h3,h4⟩:=rX o.type base v vx l0 l aA eN hp hbytes aI;unfold Oper.wp execOp;simp only[ho,resolve,invoke,builtin,Sem.run_bind,Sem.run_pure,Result.andThen_ok,jfs,jeT,je8,hs,hx,hr];exact h v' w' h2 h3 h4
theorem lJ{w:World}{ops:Array Oper}{o:Oper}{a:Act}{K:Act->World->Prop}{Q:Exit->Act->World->Prop}{E:Prop}(dY:o.guard=none)(s x:Operand)
  (ho:o.op=.call { callee:=.builtin .append,args:=#[s,x],argTypes:=#[30,30] })
  (base:Nat) (v vx:Value) (l0 l:List Nat) (hs:a.eval s=v) (aA:fT w base v l0) (hx:a.eval x=vx) (eN:Sv w vx (aF .u8 l)) (hp:0<l.length) (hbytes:l0.length+l.length<=140737488355328) (aI:base<=w.heap.size)
  (h:∀ v' w',aD w' base v' (l0++l)->w.grownBy w' v.ownBlock->(v'.ownBlock=v.ownBlock∨v'.ownBlock=some w.heap.size)->K (a.put o.dst v') w') :
  if Region.wanted o (yielded ops a.tmps)=true then Oper.wp Tryz.prog o a w K Q else E:=by
 have hw:Region.wanted o (yielded ops a.tmps)=true:=by simp[Region.wanted,dY]
 rw[jei hw];exact uH s x ho base v vx l0 l hs aA hx eN hp hbytes aI h
theorem jS{w:World}{ops:Array Oper}{rest:List Oper}{o:Oper}{a:Act}{Q:Exit->Act->World->Prop}(dY:o.guard=none)(s x:Operand)
  (ho:o.op=.call { callee:=.builtin .append,args:=#[s,x],argTypes:=#[30,30] })
  (base:Nat) (v vx:Value) (l0 l:List Nat) (hs:a.eval s=v) (aA:fT w base v l0) (hx:a.eval x=vx) (eN:Sv w vx (aF .u8 l)) (hp:0<l.length) (hbytes:l0.length+l.length<=140737488355328) (aI:base<=w.heap.size)
  (h:∀ v' w',aD w' base v' (l0++l)->w.grownBy w' v.ownBlock->(v'.ownBlock=v.ownBlock∨v'.ownBlock=some w.heap.size)->wpList Tryz.prog ops Q rest (a.put o.dst v') w') :
  wpList Tryz.prog ops Q (o::rest) a w :=
 wpList_plain dY fun K hK=>uH s x ho base v vx l0 l hs aA hx eN hp hbytes aI fun v' w' h1 h2 h3=>hK _ _ (h v' w' h1 h2 h3)
theorem dp{F:Fence}{n:Nat}{w:World}{o:Oper}{a:Act}{K:Act->World->Prop}{Q:Exit->Act->World->Prop}(s x:Operand)
  (ho:o.op=.call { callee:=.builtin .append,args:=#[s,x],argTypes:=#[30,30] })
  (base:Nat) (v vx:Value) (l0 l:List Nat) (hs:a.eval s=v) (aA:fT w base v l0) (hx:a.eval x=vx) (eN:Sv w vx (aF .u8 l)) (hp:0<l.length) (hbytes:l0.length+l.length<=140737488355328) (aI:base<=w.heap.size)
  (h:∀ v' w',aD w' base v' (l0++l)->w.grownBy w' v.ownBlock->(v'.ownBlock=v.ownBlock∨v'.ownBlock=some w.heap.size)->K (a.put o.dst v') w'):Oper.wpIn F n Tryz.prog o a w K Q:=by
 obtain⟨v',w',hr,h2,h3,h4⟩:=rX o.type base v vx l0 l aA eN hp hbytes aI;unfold Oper.wpIn;refine⟨by simp[Oper.about,ho,resolve,Target.leads,Sem.run_pure],?_⟩;rw[Oper.semAt_plain F _ _ (by rw[ho];intro c hc';cases hc')];simp[execOp,ho,resolve,invoke,builtin,hs,hx,hr,Result.andThen]
 exact h v' w' h2 h3 h4
theorem rY{F:Fence}{n:Nat}{w:World}{ops:Array Oper}{rest:List Oper}{o:Oper}{a:Act}{Q:Exit->Act->World->Prop}(dY:o.guard=none)(s x:Operand)
  (ho:o.op=.call { callee:=.builtin .append,args:=#[s,x],argTypes:=#[30,30] })
  (base:Nat) (v vx:Value) (l0 l:List Nat) (hs:a.eval s=v) (aA:fT w base v l0) (hx:a.eval x=vx) (eN:Sv w vx (aF .u8 l)) (hp:0<l.length) (hbytes:l0.length+l.length<=140737488355328) (aI:base<=w.heap.size)
  (h:∀ v' w',aD w' base v' (l0++l)->w.grownBy w' v.ownBlock->(v'.ownBlock=v.ownBlock∨v'.ownBlock=some w.heap.size)->wpListIn F n Tryz.prog ops Q rest (a.put o.dst v') w') :
  wpListIn F n Tryz.prog ops Q (o::rest) a w :=
 wpListIn_plain dY fun K hK=>dp s x ho base v vx l0 l hs aA hx eN hp hbytes aI fun v' w' h1 h2 h3=>hK _ _ (h v' w' h1 h2 h3)
def Bx2(W:World)(base B1 B2:Nat)(v1 v2:Value)(l1 l2:List Nat):Prop :=
 Boxed W B1 30 v1/\Boxed W B2 30 v2/\B1≠B2/\fT W base v1 l1/\fT W base v2 l2/\nQ v1 v2/\base<=B1/\base<=B2
theorem Bx2.swap{W:World}{base B1 B2:Nat}{v1 v2:Value}{l1 l2:List Nat}(h:Bx2 W base B1 B2 v1 v2 l1 l2):Bx2 W base B2 B1 v2 v1 l2 l1:=by
 obtain⟨a,b,c,d,e,f,g,i⟩:=h;exact⟨b,a,c.symm,e,d,f.symm,i,g⟩
theorem Bx2.kept{W W':World}{base B1 B2:Nat}{v1 v2:Value}{l1 l2:List Nat}(h:Bx2 W base B1 B2 v1 v2 l1 l2)(hb:Below W.heap.size W W'):Bx2 W' base B1 B2 v1 v2 l1 l2:=by
 obtain⟨a,b,c,d,e,f,g,i⟩:=h;exact⟨(hb.block B1 a.lt).trans a,(hb.block B2 b.lt).trans b,c,d.kept hb,e.kept hb,f,g,i⟩
theorem Bx2.cells{W:World}{base B1 B2:Nat}{v1 v2:Value}{l1 l2:List Nat}(h:Bx2 W base B1 B2 v1 v2 l1 l2):(W.cell? ⟨B1,0,none⟩=some v1/\W.frozen? ⟨B1,0,none⟩=false)/\(W.cell? ⟨B2,0,none⟩=some v2/\W.frozen? ⟨B2,0,none⟩=false) :=
 ⟨⟨h.1.cell,h.1.frozen⟩,h.2.1.cell,h.2.1.frozen⟩
theorem Bx2.app{W w1:World}{base B1 B2:Nat}{v1 v2 v':Value}{l1 l2 l':List Nat}(h:Bx2 W base B1 B2 v1 v2 l1 l2)(aI:base<=W.heap.size)
  (ho:aD w1 base v' l') (hg:W.grownBy w1 v1.ownBlock) (he:v'.ownBlock=v1.ownBlock∨v'.ownBlock=some W.heap.size) :
  (w1.cell? ⟨B1,0,none⟩=some v1/\w1.frozen? ⟨B1,0,none⟩=false)/\Bx2 (w1.setCell ⟨B1,0,none⟩ v') base B1 B2 v' v2 l' l2/\Below base W (w1.setCell ⟨B1,0,none⟩ v'):=by
 obtain⟨a,b,c,d,e,f,g,i⟩:=h;have Do:Boxed w1 B1 30 v1:=a.kept hg (rW a (by decide) d);have hv2:Boxed w1 B2 30 v2:=b.kept hg (rW b (by decide) d);have h2:fT w1 base v2 l2:=e.grown hg f.symm.ne;have hb:Below base W w1:=(jej base W).grown hg aI (fun k hk=>(d.lt k hk).1)
 refine⟨⟨Do.cell,Do.frozen⟩,⟨Do.set v',hv2.kept (grownBy_setCell' w1 B1 v') (by intro e;exact c (by cases e;rfl)),c,Or.inl (World.ownsRow.kept ho (grownBy_setCell' w1 B1 v') (Or.inr (Do.not_row (by decide) ho).symm)),
  h2.grown (grownBy_setCell' w1 B1 v') (Or.inr (rW Do (by decide) h2).symm),f.grow he (fun k hk=>(e.lt k hk).2),g,i⟩,?_⟩
 exact hb.setCell (p:=⟨B1,0,none⟩) g v'
theorem ep{W W':World}(h:Below W.heap.size W W'):KeepsOthers W W':=by
 refine KeepsOthers.of_grownBy (row:=none) ⟨h.os,h.tape,h.output,h.size,fun k hk _=>h.block k hk⟩ (fun j o e=>by cases e)
theorem Bx2.keeps{W w1:World}{base B1 B2:Nat}{v1 v2 v':Value}{l1 l2:List Nat}(h:Bx2 W base B1 B2 v1 v2 l1 l2)(hg:W.grownBy w1 v1.ownBlock):KeepsOthers W (w1.setCell ⟨B1,0,none⟩ v'):=by
 obtain⟨a,b,c,d,e,f,g,i⟩:=h;refine(KeepsOthers.of_grownBy hg fun j o ej hj=>?_).trans (KeepsOthers.setCell _ _ _);obtain⟨cur,fz,h1⟩:=d.block j ej;rw[h1]at hj;cases hj
 rfl
theorem Bx2.other{W w1:World}{base B1 B2 p:Nat}{v1 v2 v':Value}{l1 l2:List Nat}(h:Bx2 W base B1 B2 v1 v2 l1 l2)(hg:W.grownBy w1 v1.ownBlock){t:TypeId}{u:Value}(hp:Boxed W p t u)(ht:t≠5)(KQ:t≠30):Boxed (w1.setCell ⟨B1,0,none⟩ v') p t u:=by
 obtain⟨a,b,c,d,e,f,g,i⟩:=h;have h1:Boxed w1 p t u:=hp.kept hg (rW hp ht d);refine h1.kept (grownBy_setCell' w1 B1 v') (fun e=>?_);cases e
 have:=(show _=_ from hp).symm.trans (show _=_ from a);simp at this
 exact KQ this.2
theorem Bx2.turned{W W':World}{base B1 B2:Nat}{v1 v2:Value}{l1 l2:List Nat}{row:Option Nat}(h:Bx2 W base B1 B2 v1 v2 l1 l2)(hg:W.grownBy W' row)(hr:∀ r,row=some r->∃ o:Obj,W.heap[r]?=some o/\o.isCells=false):Bx2 W' base B1 B2 v1 v2 l1 l2:=by
 obtain⟨a,b,c,d,e,f,g,i⟩:=h
 have hbox:∀{p t v},Boxed W p t v->some p≠row:=fun hp e=>by
  obtain⟨o,h1,h2⟩:=hr _ e.symm;rw[show W.heap[_]?=_ from hp]at h1;cases h1
  cases h2
 have ki:∀{v l},fT W base v l->v.ownBlock=none∨v.ownBlock≠row:=fun{v l} hv=>by
  cases hb:v.ownBlock with
  | none=>exact Or.inl rfl
  | some k =>
   refine Or.inr fun e=>?_
   obtain⟨o,h1,h2⟩:=hr _ e.symm;obtain⟨cur,fz,h3⟩:=hv.block k hb;rw[h3]at h1;cases h1
   cases h2
 exact⟨a.kept hg (hbox a),b.kept hg (hbox b),c,d.grown hg (ki d),e.grown hg (ki e),f,g,i⟩
theorem fT.deferred{W W':World}{base D:Nat}{v:Value}{l:List Nat}{o:Obj}(h:fT W base v l)(hg:W.grownBy W' v.ownBlock)(hD:W.heap[D]?=some o)(ho:o.isCells=false):W'.heap[D]?=some o:=by
 refine(hg.block D (Array.getElem?_eq_some_iff.1 hD).1 (fun e=>?_)).trans hD;obtain⟨cur,fz,h1⟩:=h.block D e.symm;rw[h1]at hD;cases hD
 cases ho
theorem Bx2.keepV{W w1:World}{base B1 B2:Nat}{v1 v2 v':Value}{l1 l2:List Nat}(h:Bx2 W base B1 B2 v1 v2 l1 l2)(hg:W.grownBy w1 v1.ownBlock){B e size n:Nat}{u:Value}{xs:List Value}(hv:W.ownsRow B e size u n xs)(he:e≠5)(he2:e≠30):(w1.setCell ⟨B1,0,none⟩ v').ownsRow B e size u n xs:=by
 obtain⟨a,b,c,d,e',f,g,i⟩:=h
 have h1:w1.ownsRow B e size u n xs:=hv.kept hg (by
  cases hb:u.ownBlock with
  | none=>exact Or.inl rfl
  | some k =>
   refine Or.inr fun e1=>?_
   obtain⟨cur,fz,h3⟩:=d.block k e1.symm;rcases hv.2 with ⟨rfl,_⟩ | ⟨g,cap,cur2,rfl,_,QB,_⟩
   ·simp[Value.ownBlock]at hb
   ·simp[Value.ownBlock]at hb
    subst hb;rw[h3]at QB;simp at QB
    exact he QB.2.1.symm)
 have Do:Boxed w1 B1 30 v1:=a.kept hg (rW a (by decide) d);exact h1.kept (grownBy_setCell' w1 B1 v') (Or.inr (Do.not_row (fun e1=>he2 e1.symm) h1).symm)
theorem PB{W W':World}{D:Nat}{o:Obj}(hb:Below W.heap.size W W')(hD:W.heap[D]?=some o):W'.heap[D]?=some o:=(hb.block D (Array.getElem?_eq_some_iff.1 hD).1).trans hD
theorem fT.below{W W':World}{base:Nat}{v:Value}{l:List Nat}(h:fT W base v l)(hg:W.grownBy W' v.ownBlock)(hb:base<=W.heap.size):Below base W W':=(jej base W).grown hg hb (fun k hk=>(h.lt k hk).1)
end Go.Proofs.YtpljdjmpamjkhaaGreatDoor
