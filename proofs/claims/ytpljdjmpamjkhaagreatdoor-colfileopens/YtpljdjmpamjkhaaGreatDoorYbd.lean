import Derived.Test.YtpljdjmpamjkhaaGreatDoorYbc
import Derived.Laws.CopyOwn
set_option linter.unusedVariables false
set_option linter.unusedSimpArgs false
set_option maxRecDepth 100000
set_option maxHeartbeats 4000000
namespace Go.Proofs.YtpljdjmpamjkhaaGreatDoor
open Go.RowKit Go.Lib
def nD(n m:Nat):List Value:=List.replicate m (.int .u64 1)++List.replicate (n-m) (.int .u64 0)
theorem tE{n m:Nat}(h:m<=n):(nD n m).length=n:=by simp[nD];omega
theorem DH{n m c:Nat}(h:m+c<=n):splice (nD n m) m (List.replicate c (.int .u64 1))=nD n (m+c):=by
 unfold splice nD
 have h1:(List.replicate m (Value.int .u64 1)++List.replicate (n-m) (Value.int .u64 0)).take m=List.replicate m (Value.int .u64 1):=by
  rw[List.take_append_of_le_length (by simp)];exact jat (by simp)
 have h2:(List.replicate m (Value.int .u64 1)++List.replicate (n-m) (Value.int .u64 0)).drop (m+(List.replicate c (Value.int .u64 1)).length)=List.replicate (n-(m+c)) (Value.int .u64 0):=by
  rw[List.drop_append,jbl (by simp)];simp
  omega
 rw[h1,h2,← Z4,List.replicate_append_replicate]
theorem DI(n:Nat)(hn:n<=256)(w:World):Calls Tryz.prog 295 #[.int .u64 1,.int .u64 (n:Int)] w fun e w'=>e=.returned (.tuple #[.int .u64 0,.int .u64 (n:Int)])/\w'=w:=by
 have:=Any.bits_Mul Tu 1 n (by omega) (by omega) w;have h1:1*n / 18446744073709551616=0:=by omega
 have h2:1*n % 18446744073709551616=n:=by omega
 rw[h1,h2]at this;exact this
theorem Xh:(Tryz.prog.info? 92).map (·.size)=some 1:=by kernel_rfl
theorem DJ{W:World}{T n m sl dl sc dc c:Nat}{ad:Addr}(jO:W.heap[T]?=some (.cells (nD n m).toArray 92 (0,0)))(hc:c=Nat.min sl dl)(dy:m+c<=n)(Yi:∀ j,j<c->W.cell? (ad.add j)=some (.int .u64 1)) :
  ∃ W',(Builtin.copy_ #[142,142] 3 #[.slice (some ⟨T,m,none⟩) dl dc,.slice (some ad) sl sc]).run Tryz.prog W=.ok (.int .i64 (c:Int)) W'/\W'.heap[T]?=some (.cells (nD n (m+c)).toArray 92 (0,0))/\Below T W W'/\W'.heap.size=W.heap.size:=by
 have hl:(List.replicate c (Value.int .u64 1)).length=c:=List.length_replicate
 have EB:=run_copy_row (P:=Tryz.prog) W 142 142 3 92 T m dl dc ad sl sc (nD n m).toArray 92 (List.replicate c (.int .u64 1)) Tryz.underlying142 Xh jO (by rw[hl];exact hc) (fun j v hj=>by
  rw[List.getElem?_replicate]at hj;split at hj
  ·next h =>
   cases hj
   exact Yi j h
  ·cases hj) (by rw[hl];simp[tE (show m<=n by omega)];exact dy) (fun v hv=>by rw[jbp hv];rfl)
 have hs:=DH dy;unfold splice at hs;rw[hl]at EB hs;rw[← Z4]at hs;simp only[List.toList_toArray]at EB;rw[hs]at EB;refine⟨_,EB,?_,below_setRow (ZQ _ _) (ZR _) _,by simp[World.setRow]⟩;exact setRow_heap W T _ _ 92 _ jO
theorem Gw{w:World}{g:Nat}(hc:w.cell? ⟨g,0,none⟩=some (.int .u64 1))(n:Nat)(hn:n<=256) :
  Calls Tryz.prog 277 #[.slice (some ⟨g,0,none⟩) 1 1,.int .i64 (n:Int)] w fun e w'=>(∃ v,e=.returned v/\dB w' w.heap.size v (List.replicate n 1))/\Below w.heap.size w w':=by
 obtain⟨i0,hi,ce,hz1',bm⟩:=info_parts pt;have HC:=ae hc;have hg:=World.block_lt_of_cell? w _ hc;simp only at hg;have HM:=ae (DI n hn);have VN:¬ (n:Int)<0:=by omega
 have MC:¬ (n:Int) > 9223372036854775807:=by omega
 clear hc;go_enter Tryz.func277,Tryz.ntmps277
 go_wp2_with fail;refine(HM.out _).mono ?_;rintro e w1 ⟨rfl,rfl⟩;go_wp2_with (first | (refine wpList_make_full _ rfl _ _ 142 rfl w1.heap.size 92 i0 (.int .u64 0) 1 Tryz.underlying142 hi ce hz1' .i64 .i64 _ _ n rfl rfl ?m1 ?m2 ?m3 ?m4 ?m5 ?_))
 case m1=>rfl
 case m2=>rfl
 case m3=>rw[bm];omega
 case m4=>unfold maxLen;omega
 case m5=>omega
 intro w4 gD iL;have bv:Below w1.heap.size w1 w4:=(ZQ _ _).grown iL (ZR _) (fun k hk=>by cases hk)
 have jO:w4.heap[w1.heap.size]?=some (.cells (nD n 0).toArray 92 (0,0)):=by
  obtain⟨h0,⟨h,_⟩ | ⟨g',cap',cur,h1,h2,h3,h4,h5,h6,h7⟩⟩:=gD
  ·cases h
  ·cases h1
   rw[h3]
   have e1:cur=(nD n 0).toArray:=by
    apply Array.toList_inj.1
    rw[jat (by simp;omega)]at h7;rw[h7,toList_madeCells_one];simp[nD]
   rw[e1]
 have RS:=(bv.cell (p:=⟨g,0,none⟩) hg).trans HC.out
 obtain⟨w5,S0,M6,bq,uG⟩:=DJ (c:=Nat.min 1 n) (sl:=1) (dl:=n) (sc:=1) (dc:=n) (ad:=⟨g,0,none⟩) jO rfl (by have:=Nat.min_le_right 1 n;show 0+min 1 n<=n;omega) (fun j hj=>by
  have:j=0:=by have:=Nat.min_le_left 1 n;have h:j<min 1 n:=hj;omega
  subst this;rw[md];exact RS)
 rw[jaf]at M6;have uw:=ae M6;have aR:=ae (bv.trans bq);have Rz:Nat.min 1 n<=n:=Nat.min_le_right 1 n
 have hmn1:n=0∨1<=Nat.min 1 n:=by
  rcases jax n with h | h
  ·exact Or.inl h
  ·right
   show 1<=min 1 n
   omega
 have HMN:=ae hmn1;clear gD iL bv jO RS M6 bq uG hmn1;generalize Nat.min 1 n=mm at *;go_wp2_with fail;go_loopw [8] (fun i wr=>∃ m:Nat,i=.int .i64 (m:Int)/\m<=n/\(n=0∨1<=m)/\wr.heap[w1.heap.size]?=some (.cells (nD n m).toArray 92 (0,0))/\Below w1.heap.size w1 wr) (fun i _=>n-(intOf i).toNat)
 case atStart=>exact⟨mm,rfl,Rz,HMN.out,uw.out,aR.out⟩
 case round =>
  obtain⟨m,rfl,hm,Hv,jO,ay⟩:=hrel;have HR:=ae jO;have HB:=ae ay;have MD:=ae Hv;clear jO ay Hv S0;by_cases aB:m<n
  ·have Zg:1<=m:=by have:=MD.out;omega
   have hlt':(m:Int)<(n:Int):=by omega
   have hRd:wr.drew.heap[w1.heap.size]?=some (.cells (nD n m).toArray 92 (0,0)):=HR.out;have hBd:Below w1.heap.size wr wr.drew:=⟨rfl,rfl,rfl,ZR _,fun _ _=>rfl⟩
   obtain⟨w6,S0,RT,dN,Ew⟩:=DJ (W:=wr.drew) (c:=Nat.min m (n-m)) (sl:=m) (dl:=n-m) (sc:=n) (dc:=n-m) (ad:=⟨w1.heap.size,0,none⟩) hRd rfl (by show m+min m (n-m)<=n;omega) (fun j hj=>by
    have h:j<min m (n-m):=hj;rw[md,ax hRd];unfold nD;rw[List.getElem?_toArray,List.getElem?_append_left (by rw[List.length_replicate];omega),List.getElem?_replicate,if_pos (by omega)])
   have lp:1<=Nat.min m (n-m):=by show 1<=min m (n-m);omega
   have kx:m+Nat.min m (n-m)<=n:=by show m+min m (n-m)<=n;omega
   have ET:=ae RT;have i5:=ae ((HB.out.trans hBd).trans dN);have fO:¬ n=m:=by omega
   clear RT dN Ew hRd hBd;generalize Nat.min m (n-m)=c at *;have hwrap:IntKind.i64.wrap ((m:Int)+(c:Int))=(m:Int)+(c:Int):=by rw[jam];omega
   go_wp2_with fail;go_region
   go_wp2_with fail;go_roundw
   case rel=>exact⟨m+c,by go_num,kx,Or.inr (by omega),ET.out,i5.out⟩
   case measure=>simp[intOf];omega
  ·obtain rfl:m=n:=by omega
   have HO:Hid (dB wr w1.heap.size (.slice (some ⟨w1.heap.size,0,none⟩) m m) (List.replicate m 1)):=ae (by
    unfold dB;refine⟨by rw[ap];simp,Or.inr ⟨w1.heap.size,m,(nD m m).toArray,by simp,ZR _,HR.out,by simp,by unfold maxLen;omega,by simp[tE (ZR m)],?_⟩⟩;have:nD m m=aE .u64 (List.replicate m 1):=by simp[nD,aE]
    rw[this];simp[aE])
   have gJ:¬ ((m:Nat):Int)<(m:Int):=by omega
   go_wp2_with fail;go_ret
   exact⟨⟨_,rfl,HO.out⟩,HB.out⟩
def Nu(n:Nat)(l:List Nat):Prop:=l.length=n/\∀ x∈l,x<2
def byH(b:List Nat)(n:Nat)(x r:List Nat):Prop:=∃ l:List (Nat×Int×List Nat),l.length=n/\x=bJ l/\b=dD l++r
theorem Lu{b:List Nat}{f n:Nat}(hf:Er f)(hn:n<=256)(hx:chX b=1):RP (Nu n) (byH b n) f (unR (tkB (by8 n) b.tail) n 1) (tkR (by8 n) b.tail) (orf (tkF (by8 n) b.tail (chF b f)) (unE (tkB (by8 n) b.tail) n 1)):=by
 have hb:∃ t,b=1::t/\chF b f=f:=by
  cases b with
  | nil=>simp[chX]at hx
  | cons x t =>
   have:x=1:=by
    unfold chX at hx;simp only at hx;split at hx<;>omega
   subst this;exact⟨t,rfl,by simp[chF]⟩
 obtain⟨t,rfl,Yh⟩:=hb;rw[Yh,List.tail_cons];refine⟨(AQ hf).orf (show Er (unE _ n ((1:Nat):Int)) from Gt hn (by omega)),fun h=>?_,fun y r a1 a2 a3=>?_⟩
 ·obtain⟨h1,h2⟩:=bD h
  exact⟨(qV h1).1,kM h2⟩
 ·obtain⟨l,rfl,rfl,a6⟩:=a3
  unfold dD at a6;split at a6
  ·have h2:=dU l
   have hl:=eF h2 (by rw[bg];exact hn);have MA:=nW h2 (by rw[bg];exact hn);rw[bg]at hl MA;have ht:t=be (bJ l) 1++r:=by simpa using a6
   rw[ht,← hl,(gA (a:=be (bJ l) 1) f).1,(gA (a:=be (bJ l) 1) f).2.1,(gA (a:=be (bJ l) 1) f).2.2,MA.1,MA.2,a1];exact⟨rfl,rfl,rfl⟩
  ·simp at a6
theorem Gx{b:List Nat}{f n:Nat}(hf:Er f)(hn:n<=256)(hx:chX b≠1):RP (Nu n) (byH b n) f (List.replicate n 1) b.tail (chF b f):=by
 have hef:Er (chF b f)/\(chF b f=0->f=0):=by
  unfold chF;split
  ·exact⟨hf.orf TZ,fun h=>(bD h).1⟩
  ·split
   ·exact⟨hf,fun h=>h⟩
   ·exact⟨hf.orf ub,fun h=>(bD h).1⟩
 refine⟨hef.1,fun h=>⟨hef.2 h,by simp,fun x hx=>by have:=jbp hx;omega⟩,fun y r a1 a2 a3=>?_⟩;obtain⟨l,rfl,rfl,a6⟩:=a3;unfold dD at a6;split at a6
 ·rw[a6]at hx
  exact absurd rfl hx
 ·next h0 =>
  have Yh:chF b f=f:=by rw[a6];simp[chF]
  rw[Yh,a6];exact⟨a1,(vF h0).symm,rfl⟩
theorem Lv{w:World}{p f:Nat}{b:List Nat}(h:Rs w p b f)(hf:Er f)(n:Nat)(hn:n<=256) :
  Calls Tryz.prog 262 #[.pointer (some ⟨p,0,none⟩),.int .i64 (n:Int)] w fun r w'=>∃ l b' f',(∃ v,r=.returned v/\dB w' w.heap.size v l)/\(∀ x∈l,x<2)/\l.length<=n/\Rs w' p b' f'/\RP (Nu n) (byH b n) f l b' f'/\Fr p w.heap.size w w':=by
 have HC:=ae (wN h);have aB:=h.lt;have H1:=ae (fun hx=>Lu (b:=b) hf hn hx);have H0:=ae (fun hx=>Gx (b:=b) hf hn hx)
 have SG:chX b<=1:=by
  unfold chX;split
  ·omega
  ·split<;>omega
 clear h;generalize chX b=x at *;generalize chF b f=f1 at *;generalize b.tail=b1 at *;by_cases hx:x=1
 ·have HR:=ae (H1.out hx)
  clear H1 H0;subst hx;go_enter Tryz.func262,Tryz.ntmps262
  go_wp2_with fail;refine HC.out.mono ?_;rintro e w1 ⟨rfl,eg,dt⟩;have gd:=ae dt;have cW:=dt.size;have HP:=ae (tD eg n hn);clear eg dt;go_wp2_with fail;refine HP.out.mono ?_;rintro e w2 ⟨⟨v2,rfl,fq⟩,ef,dM⟩;have dr:=ae (aZ fq cW);have gC:=ae ef;have gB:=ae (gd.out.trans (dM.mono cW));clear fq ef dM
  have V0:(∀ x∈unR (tkB (by8 n) b1) n 1,x<2)/\(unR (tkB (by8 n) b1) n 1).length<=n:=by
   by_cases h0:unE (tkB (by8 n) b1) n 1=0
   ·exact⟨(kM h0).2,Nat.le_of_eq (kM h0).1⟩
   ·rw[vM h0]
    exact⟨fun x hx=>by simp at hx,by simp⟩
  have Kc:=ae V0;clear V0;go_wp2_with fail;go_ret
  exact⟨_,_,_,⟨_,rfl,dr.out⟩,Kc.out.1,Kc.out.2,gC.out,HR.out,gB.out⟩
 ·have HR:=ae (H0.out hx)
  clear H1 H0;obtain rfl:x=0:=by omega
  go_enter Tryz.func262,Tryz.ntmps262
  go_wp2_with fail;refine HC.out.mono ?_;rintro e w1 ⟨rfl,eg,dt⟩;have gd:=ae dt;have cW:=dt.size;have iM:=ae eg;have HP:=ae (Gw (aK w1 (.int .u64 1) 92) n hn);have bm:=ZS w1 (.cells #[.int .u64 1] 92);have aQ:=ae (ak w1 (.cells #[.int .u64 1] 92));clear eg dt;go_wp2_with fail;refine HP.out.mono ?_;rintro e w2 ⟨⟨v2,rfl,fq⟩,aD⟩;have dr:=ae (aZ (B:=w.heap.size) fq (by omega));have aP:=aQ.out.trans (aD.mono (by omega));have gC:=ae (iM.out.kept aP iM.out.lt);have gB:=ae (gd.out.trans (Fr.of_below (aP.mono cW)));clear fq aD aP;go_wp2_with fail;go_ret
  exact⟨_,_,_,⟨_,rfl,dr.out⟩,fun x hx=>by have:=jbp hx;omega,by simp,gC.out,HR.out,gB.out⟩
theorem oZ{l:List Nat}{k:Nat}(h:k<l.length):(l.take (k+1)).sum=(l.take k).sum+l[k]:=by
 rw[Z5 h,List.sum_append];simp
theorem qX:∀{l:List Nat},(∀ x∈l,x<2)->l.sum<=l.length
 | [],_=>by simp
 | x::t,h=>by
  have ih:=qX (l:=t) fun y hy=>h y (by simp[hy])
  have:=h x (by simp);rw[List.sum_cons,ZW];omega
theorem Qu{w:World}{v:Value}{l:List Nat}(hs:Sv w v (aE .u64 l))(h2:∀ x∈l,x<2)(hl:l.length<=256) :
  Calls Tryz.prog 264 #[v] w fun e w'=>e=.returned (.int .i64 (l.sum:Int))/\w'=w:=by
 have HS:=ae hs;have H2:=ae h2;obtain⟨a,cap,rfl,aX,bw⟩:=hs.form1;rw[ap]at *;have hcm':cap<=9223372036854775807:=by unfold maxLen at bw;omega
 clear hs h2 bw;go_enter Tryz.func264,Tryz.ntmps264
 go_wp2_with fail;go_loopw [3,8] (fun o i wr=>∃ k:Nat,k<=l.length/\o=.int .i64 ((l.take k).sum:Int)/\i=.int .i64 (k:Int)/\wr=w) (fun _ i _=>l.length-(intOf i).toNat)
 case atStart=>exact⟨0,by omega,rfl,rfl,rfl⟩
 case round =>
  obtain⟨k,hk,rfl,rfl,rfl⟩:=hrel
  have nI:(l.take k).sum<=256:=by
   have:=qX (l:=l.take k) fun x hx=>H2.out x (jaw hx)
   rw[ZX]at this;omega
  by_cases aB:k<l.length
  ·obtain⟨b,off,rfl,hb,dP⟩:=HS.out.at1 (bR aB)
   have HT:=ae (oZ aB);have hx:=H2.out l[k] (ZV aB);have hlt':(k:Int)<(l.length:Int):=by omega
   generalize l[k]=x at *;generalize (l.take k).sum=s at *;go_wp2_with fail;go_roundw
   case rel=>exact⟨k+1,by omega,by rw[HT.out];go_num,by go_num,trivial⟩
   case measure=>simp[intOf];omega
  ·obtain rfl:k=l.length:=by omega
   rw[ZY];have gJ:¬ ((l.length:Nat):Int)<(l.length:Int):=by omega
   go_wp2_with fail;go_ret
   exact⟨rfl,rfl⟩
def Nv(k n:Nat)(l:List (Nat×Int×List Nat)):Prop:=l.length=n/\∀ c∈l,gh k c/\c.1≠0
def byT(k:Nat)(b:List Nat)(l:List (Nat×Int×List Nat))(r:List Nat):Prop:=b=gi k l/\r=[]
theorem wO{l:List (Nat×Int×List Nat)}(h:∀ c∈l,c.1≠0):bS l=l:=by
 unfold bS;rw[List.filter_eq_self];intro c hc;simpa using h c hc
theorem Qv{f:Nat}{b:List Nat}(h:Er f):Er (orf f (if b.length=0 then 0 else 32)):=by
 refine h.orf ?_;split
 ·exact er0
 ·exact er32
theorem Xi{b:List Nat}{f n:Nat}(hb:Bs b)(hf:Er f)(hn:n<=256):RP (Nv 1 n) (byT 1 b) f ((bn b n).1.map fun z=>(1,z,[])) [] (orf f (bn b n).2):=by
 refine⟨hf.orf (qU hn),fun h=>?_,fun y r a1 a2 a3=>?_⟩
 ·obtain⟨h1,h2⟩:=bD h
  obtain⟨h3,h4⟩:=iT hb h2;refine⟨h1,by rw[ZU];omega,fun c hc=>?_⟩;obtain⟨z,hz,rfl⟩:=jaa.1 hc;exact⟨Or.inr (Or.inl ⟨rfl,z,rfl,h4 z hz⟩),by simp⟩
 ·have ho:=wO fun c hc=>(a2.2 c hc).2
  have je:=iS fun c hc=>(a2.2 c hc).1
  rw[ho]at je;have aD:b=cN (y.map fun c=>c.2.1):=by rw[a3.1,vG,ho]
  have MA:=jQ je.1 (by rw[ZU];have:=a2.1;omega);rw[ZU,a2.1]at MA;rw[aD,MA,a1,a3.2];exact⟨rfl,je.2,rfl⟩
theorem Xj{b:List Nat}{f n:Nat}(hf:Er f)(hn:n<=256):RP (Nv 2 n) (byT 2 b) f ((unR (tkB (by8 n) b) n 1).map fun(x:Nat)=>(2,(x:Int),[])) (tkR (by8 n) b) (orf (orf (tkF (by8 n) b f) (unE (tkB (by8 n) b) n 1)) (if (tkR (by8 n) b).length=0 then 0 else 32)):=by
 refine⟨Qv ((AQ hf).orf (show Er (unE _ n ((1:Nat):Int)) from Gt hn (by omega))),fun h=>?_,fun y r a1 a2 a3=>?_⟩
 ·obtain⟨h1,h2⟩:=bD (bD h).1
  obtain⟨h3,h4⟩:=kM h2;refine⟨(qV h1).1,by rw[ZU];exact h3,fun c hc=>?_⟩;obtain⟨z,hz,rfl⟩:=jaa.1 hc;exact⟨Or.inr (Or.inr (Or.inl ⟨rfl,z,rfl,h4 z hz⟩)),by simp⟩
 ·have ho:=wO fun c hc=>(a2.2 c hc).2
  have je:=fF fun c hc=>(a2.2 c hc).1
  rw[ho]at je;have aD:b=be (y.map fun c=>c.2.1.toNat) 1++[]:=by rw[a3.1,vH,ho,Z7]
  have hm:(y.map fun c=>c.2.1.toNat).length<=256:=by rw[ZU];have:=a2.1;omega
  have hl:=eF je.1 hm;have MA:=nW je.1 hm;rw[ZU,a2.1]at hl MA;rw[aD,← hl,(gA (a:=be (y.map fun c=>c.2.1.toNat) 1) (r:=[]) f).1,(gA (a:=be (y.map fun c=>c.2.1.toNat) 1) (r:=[]) f).2.1,(gA (a:=be (y.map fun c=>c.2.1.toNat) 1) (r:=[]) f).2.2,MA.1,MA.2,a1,a3.2];exact⟨rfl,je.2,rfl⟩
theorem Xk{b b1:List Nat}{f f1 n:Nat}{l:List (List Nat)}(h:RP (Nt n) (byW b) f l b1 f1):RP (Nv 3 n) (byT 3 b) f (l.map fun s=>(3,0,s)) b1 (orf f1 (if b1.length=0 then 0 else 32)):=by
 obtain⟨r1,r2,r3⟩:=h;refine⟨Qv r1,fun h=>?_,fun y r a1 a2 a3=>?_⟩
 ·obtain⟨h1,h2,h3⟩:=r2 (bD h).1
  refine⟨h1,by rw[ZU];exact h2,fun c hc=>?_⟩;obtain⟨s,hs,rfl⟩:=jaa.1 hc;exact⟨Or.inr (Or.inr (Or.inr ⟨rfl,s,rfl,h3 s hs⟩)),by simp⟩
 ·have ho:=wO fun c hc=>(a2.2 c hc).2
  have je:=gE fun c hc=>(a2.2 c hc).1
  rw[ho]at je;obtain⟨d1,d2,d3⟩:=r3 (y.map fun c=>c.2.2) [] a1 ⟨by rw[ZU];exact a2.1,je.1⟩ ⟨by rw[a3.1,vI,ho],rfl⟩;rw[d2,d3,d1,a3.2];exact⟨rfl,je.2,rfl⟩
def JL(k n:Nat)(b:List Nat)(p f:Nat)(w:World)(r:Ending)(w':World):Prop :=
 ∃ l b' f',(∃ v,r=.returned v/\OwnV w' w.heap.size v l)/\Rs w' p b' f'/\RP (Nv k n) (byT k b) f l b' f'/\Fr p w.heap.size w w'
theorem Qw{w:World}{p f:Nat}{b:List Nat}(h:Rs w p b f)(hf:Er f)(n:Nat)(hn:n<=256) :
  Calls Tryz.prog 263 #[.pointer (some ⟨p,0,none⟩),.int .u8 1,.int .i64 (n:Int)] w (JL 1 n b p f w):=by
 have aB:=h.lt;have HN:=ae (mO h n);have Jc:=ae (Xi h.bs hf hn);have Kc:=ae (pS h.bs hn);clear h;generalize (bn b n).1=L at *;generalize orf f (bn b n).2=f1 at *;have zQ:=Kc.out.2;go_enter Tryz.func263,Tryz.ntmps263
 go_wp2_with fail;refine HN.out.mono ?_;rintro e w1 ⟨⟨v1,rfl,eG⟩,eg,dt⟩;have iM:=ae eg;have gd:=ae dt;have cW:=dt.size;have Mt:=ae (Sv.of_own eG);have xA:Hid (∀ j,v1.ownBlock=some j->j<w1.heap.size):=ae (fun j hj=>(eG.lt j hj).2);obtain⟨a1,c1,rfl,lp,xp⟩:=aM eG;have hcm1':c1<=9223372036854775807:=by unfold maxLen at xp;omega
 clear eg dt eG xp;go_wp2_with fail;go_loopw [7,21] (fun o i wr=>∃ j:Nat,j<=L.length/\i=.int .i64 (j:Int)/\OwnV wr w1.heap.size o ((L.take j).map (fun z=>((1,z,[]):Nat×Int×List Nat)))/\Below w1.heap.size w1 wr) (fun _ i _=>L.length-(intOf i).toNat)
 case atStart=>exact⟨0,by omega,rfl,OwnV.nil _ _,ZQ _ _⟩
 case round =>
  obtain⟨j,hj,rfl,az,ay⟩:=hrel;have HO:=ae az;have HB:=ae ay;have bO:=ay.size;clear az ay;by_cases rF:j<L.length
  ·obtain⟨g,off,rfl,hg,bo⟩:=(Mt.out.keptB xA.out HB.out).at1 (oe rF)
   have hjl':(j:Int)<(L.length:Int):=by omega
   have mV:Hid ((L.take (j+1)).map (fun z=>((1,z,[]):Nat×Int×List Nat))=(L.take j).map (fun z=>((1,z,[]):Nat×Int×List Nat))++[(fun z=>((1,z,[]):Nat×Int×List Nat)) L[j]]):=ae (by
    rw[Z5 rF,Z8];rfl)
   have hlen':((L.take j).map (fun z=>((1,z,[]):Nat×Int×List Nat))).length<=100000:=by rw[ZU,ZX];omega
   generalize L[j]=z at *;generalize (L.take j).map (fun z=>((1,z,[]):Nat×Int×List Nat))=LL at *;go_wp2_with (first | (at_builtin;refine gz rfl _ _ rfl w1.heap.size _ _ (1,z,[]) LL rfl (HO.out.kept (ak _ _)) rfl (aK _ _ _) hlen' ?c2 ?_))
   case c2=>first | omega | (rw[ZS];omega)
   intro v' w5 o5 b5;have dH:=ae o5;have aR:=ae ((HB.out.alloc bO _).trans b5);clear o5 b5;go_wp2_with fail;go_roundw
   case rel=>exact⟨j+1,by omega,by go_num,by rw[mV.out];exact dH.out,aR.out⟩
   case measure=>simp[intOf];omega
  ·obtain rfl:j=L.length:=by omega
   rw[ZY]at HO;have gJ:¬ ((L.length:Nat):Int)<(L.length:Int):=by omega
   have Et:=ae (iM.out.kept HB.out iM.out.lt);have m8:=ae (gd.out.trans (Fr.of_below (p:=p) (HB.out.mono cW)));generalize L.map (fun z=>((1,z,[]):Nat×Int×List Nat))=X at *;go_wp2_with fail;refine(wM Et.out).mono ?_;rintro e w5 ⟨rfl,nJ,js⟩;have dH:Hid (OwnV w5 w1.heap.size _ X):=ae (js.own HO.out (by omega));have rI:=ae nJ;have xy:=ae (m8.out.trans (js.mono (by omega)));clear nJ js;go_wp2_with fail;go_ret
   exact⟨X,_,_,⟨_,rfl,aZ dH.out cW⟩,rI.out,(by rw[show orf f1 (if ([]:List Nat).length=0 then 0 else 32)=f1 by unfold orf;split<;>simp_all];exact Jc.out),xy.out⟩
theorem Qx{w:World}{p f:Nat}{b:List Nat}(h:Rs w p b f)(hf:Er f)(n:Nat)(hn:n<=256) :
  Calls Tryz.prog 263 #[.pointer (some ⟨p,0,none⟩),.int .u8 2,.int .i64 (n:Int)] w (JL 2 n b p f w):=by
 have aB:=h.lt;have HN:=ae (tD h n hn);have Jc:=ae (Xj (b:=b) hf hn)
 have Kc:Hid ((∀ x∈unR (tkB (by8 n) b) n 1,x<2)/\(unR (tkB (by8 n) b) n 1).length<=n):=ae (by
  by_cases h0:unE (tkB (by8 n) b) n 1=0
  ·exact⟨(kM h0).2,Nat.le_of_eq (kM h0).1⟩
  ·rw[vM h0]
   exact⟨fun x hx=>by simp at hx,by simp⟩)
 clear h;generalize unR (tkB (by8 n) b) n 1=L at *;generalize orf (tkF (by8 n) b f) (unE (tkB (by8 n) b) n 1)=f1 at *;generalize tkR (by8 n) b=b1 at *;have zQ:=Kc.out.2;go_enter Tryz.func263,Tryz.ntmps263
 go_wp2_with fail;refine HN.out.mono ?_;rintro e w1 ⟨⟨v1,rfl,eG⟩,eg,dt⟩;have iM:=ae eg;have gd:=ae dt;have cW:=dt.size;have Mt:=ae (Sv.of_own eG);have xA:Hid (∀ j,v1.ownBlock=some j->j<w1.heap.size):=ae (fun j hj=>(eG.lt j hj).2);obtain⟨a1,c1,rfl,lp,xp⟩:=aM eG;have hcm1':c1<=9223372036854775807:=by unfold maxLen at xp;omega
 clear eg dt eG xp;go_wp2_with fail;go_loopw [7,37] (fun o i wr=>∃ j:Nat,j<=L.length/\i=.int .i64 (j:Int)/\OwnV wr w1.heap.size o ((L.take j).map (fun(x:Nat)=>((2,(x:Int),[]):Nat×Int×List Nat)))/\Below w1.heap.size w1 wr) (fun _ i _=>L.length-(intOf i).toNat)
 case atStart=>exact⟨0,by omega,rfl,OwnV.nil _ _,ZQ _ _⟩
 case round =>
  obtain⟨j,hj,rfl,az,ay⟩:=hrel;have HO:=ae az;have HB:=ae ay;have bO:=ay.size;clear az ay;by_cases rF:j<L.length
  ·obtain⟨g,off,rfl,hg,bo⟩:=(Mt.out.keptB xA.out HB.out).at1 (bR rF)
   have hjl':(j:Int)<(L.length:Int):=by omega
   have mV:Hid ((L.take (j+1)).map (fun(x:Nat)=>((2,(x:Int),[]):Nat×Int×List Nat))=(L.take j).map (fun(x:Nat)=>((2,(x:Int),[]):Nat×Int×List Nat))++[(fun(x:Nat)=>((2,(x:Int),[]):Nat×Int×List Nat)) L[j]]):=ae (by
    rw[Z5 rF,Z8];rfl)
   have hlen':((L.take j).map (fun(x:Nat)=>((2,(x:Int),[]):Nat×Int×List Nat))).length<=100000:=by rw[ZU,ZX];omega
   have SG:=Kc.out.1 L[j] (ZV rF);generalize L[j]=x at *;generalize (L.take j).map (fun(x:Nat)=>((2,(x:Int),[]):Nat×Int×List Nat))=LL at *;obtain rfl | rfl:x=0∨x=1:=by omega
   ·skip
    go_wp2_with (first | (at_builtin;refine gz rfl _ _ rfl w1.heap.size _ _ (2,((0:Nat):Int),[]) LL rfl (HO.out.kept (ak _ _)) rfl (aK _ _ _) hlen' ?c2 ?_))
    case c2=>first | omega | (rw[ZS];omega)
    intro v' w5 o5 b5;have dH:=ae o5;have aR:=ae ((HB.out.alloc bO _).trans b5);clear o5 b5;go_wp2_with fail;go_roundw
    case rel=>exact⟨j+1,by omega,by go_num,by rw[mV.out];exact dH.out,aR.out⟩
    case measure=>simp[intOf];omega
   ·skip
    go_wp2_with (first | (at_builtin;refine gz rfl _ _ rfl w1.heap.size _ _ (2,((1:Nat):Int),[]) LL rfl (HO.out.kept (ak _ _)) rfl (aK _ _ _) hlen' ?c2 ?_))
    case c2=>first | omega | (rw[ZS];omega)
    intro v' w5 o5 b5;have dH:=ae o5;have aR:=ae ((HB.out.alloc bO _).trans b5);clear o5 b5;go_wp2_with fail;go_roundw
    case rel=>exact⟨j+1,by omega,by go_num,by rw[mV.out];exact dH.out,aR.out⟩
    case measure=>simp[intOf];omega
  ·obtain rfl:j=L.length:=by omega
   rw[ZY]at HO;have gJ:¬ ((L.length:Nat):Int)<(L.length:Int):=by omega
   have Et:=ae (iM.out.kept HB.out iM.out.lt);have m8:=ae (gd.out.trans (Fr.of_below (p:=p) (HB.out.mono cW)));generalize L.map (fun(x:Nat)=>((2,(x:Int),[]):Nat×Int×List Nat))=X at *;go_wp2_with fail;refine(wM Et.out).mono ?_;rintro e w5 ⟨rfl,nJ,js⟩;have dH:Hid (OwnV w5 w1.heap.size _ X):=ae (js.own HO.out (by omega));have rI:=ae nJ;have xy:=ae (m8.out.trans (js.mono (by omega)));clear nJ js;go_wp2_with fail;go_ret
   exact⟨X,_,_,⟨_,rfl,aZ dH.out cW⟩,rI.out,Jc.out,xy.out⟩
theorem Qy{w:World}{p f:Nat}{b:List Nat}(h:Rs w p b f)(hf:Er f)(n:Nat)(hn:n<=256) :
  Calls Tryz.prog 263 #[.pointer (some ⟨p,0,none⟩),.int .u8 3,.int .i64 (n:Int)] w (JL 3 n b p f w):=by
 have aB:=h.lt;have HN:=ae (Gv h hf n hn);clear h;go_enter Tryz.func263,Tryz.ntmps263
 go_wp2_with fail;refine HN.out.mono ?_;rintro e w1 ⟨L,b1,f1,⟨v1,rfl,eG⟩,Hc,zQ,eg,ME,dt⟩;have Jc:=ae (Xk ME);clear Hc ME;have iM:=ae eg;have gd:=ae dt;have cW:=dt.size;have Mt:=ae (Sv.of_own eG);have xA:Hid (∀ j,v1.ownBlock=some j->j<w1.heap.size):=ae (fun j hj=>(eG.lt j hj).2);obtain⟨a1,c1,rfl,lp,xp⟩:=aM eG;have hcm1':c1<=9223372036854775807:=by unfold maxLen at xp;omega
 clear eg dt eG xp;go_wp2_with fail;go_loopw [7,54] (fun o i wr=>∃ j:Nat,j<=L.length/\i=.int .i64 (j:Int)/\OwnV wr w1.heap.size o ((L.take j).map (fun s=>((3,0,s):Nat×Int×List Nat)))/\Below w1.heap.size w1 wr) (fun _ i _=>L.length-(intOf i).toNat)
 case atStart=>exact⟨0,by omega,rfl,OwnV.nil _ _,ZQ _ _⟩
 case round =>
  obtain⟨j,hj,rfl,az,ay⟩:=hrel;have HO:=ae az;have HB:=ae ay;have bO:=ay.size;clear az ay;by_cases rF:j<L.length
  ·obtain⟨g,off,rfl,hg,bo⟩:=(Mt.out.keptB xA.out HB.out).at1 (cJ rF)
   have hjl':(j:Int)<(L.length:Int):=by omega
   have mV:Hid ((L.take (j+1)).map (fun s=>((3,0,s):Nat×Int×List Nat))=(L.take j).map (fun s=>((3,0,s):Nat×Int×List Nat))++[(fun s=>((3,0,s):Nat×Int×List Nat)) L[j]]):=ae (by
    rw[Z5 rF,Z8];rfl)
   have hlen':((L.take j).map (fun s=>((3,0,s):Nat×Int×List Nat))).length<=100000:=by rw[ZU,ZX];omega
   rw[ek]at bo;generalize L[j]=s at *;generalize (L.take j).map (fun s=>((3,0,s):Nat×Int×List Nat))=LL at *;go_wp2_with (first | (at_builtin;refine gz rfl _ _ rfl w1.heap.size _ _ (3,0,s) LL rfl (HO.out.kept (ak _ _)) rfl (aK _ _ _) hlen' ?c2 ?_))
   case c2=>first | omega | (rw[ZS];omega)
   intro v' w5 o5 b5;have dH:=ae o5;have aR:=ae ((HB.out.alloc bO _).trans b5);clear o5 b5;go_wp2_with fail;go_roundw
   case rel=>exact⟨j+1,by omega,by go_num,by rw[mV.out];exact dH.out,aR.out⟩
   case measure=>simp[intOf];omega
  ·obtain rfl:j=L.length:=by omega
   rw[ZY]at HO;have gJ:¬ ((L.length:Nat):Int)<(L.length:Int):=by omega
   have Et:=ae (iM.out.kept HB.out iM.out.lt);have m8:=ae (gd.out.trans (Fr.of_below (p:=p) (HB.out.mono cW)));generalize L.map (fun s=>((3,0,s):Nat×Int×List Nat))=X at *;go_wp2_with fail;refine(wM Et.out).mono ?_;rintro e w5 ⟨rfl,nJ,js⟩;have dH:Hid (OwnV w5 w1.heap.size _ X):=ae (js.own HO.out (by omega));have rI:=ae nJ;have xy:=ae (m8.out.trans (js.mono (by omega)));clear nJ js;go_wp2_with fail;go_ret
   exact⟨X,_,_,⟨_,rfl,aZ dH.out cW⟩,rI.out,Jc.out,xy.out⟩
end Go.Proofs.YtpljdjmpamjkhaaGreatDoor
