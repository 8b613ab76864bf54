import Derived.Test.YtpljdjmpamjkhaaGreatDoorSaq
import Derived.Lib.SmallJoins
set_option linter.all false
set_option maxRecDepth 100000
set_option maxHeartbeats 8000000
namespace Go.Proofs.YtpljdjmpamjkhaaGreatDoor
open Tryz
open Go.RowKit Go.Lib
def mD(k:Nat)(l:List Nat):(aA .u8 l).take k=aA .u8 (l.take k):=by simp[aA,jf3]
def kJ(k:Nat)(l:List Nat):(aA .u8 l).drop k=aA .u8 (l.drop k):=by simp[aA,List.map_drop]
def Cn(a b:List Nat)(h:b.length<=a.length):decide (a.take b.length=b)=b.isPrefixOf a:=by
 rw[jfK,jfb,jfP];constructor
 ·intro e
  rw[<- e];exact List.take_prefix _ _
 ·rintro⟨t,rfl⟩
  exact jfo
def Co(a b:List Nat)(h:a.length<b.length):b.isPrefixOf a=false:=by
 rw[Bool.eq_false_iff,ne_eq,jfP];intro e;have:=e.length_le;omega
def Vo{w:World}{va vb:Value}{a b:List Nat}(ha:Sv w va (aA .u8 a))(hb:Sv w vb (aA .u8 b))(h8:Bs a)(h9:Bs b) :
  Calls prog 94 #[va,vb] w λe w'=>e=.returned (.bool (b.isPrefixOf a))/\w'=w:=by
 obtain⟨aa,ca,rfl,ju,jv⟩:=ha.form1;obtain⟨ab,cb,rfl,Gx,hc4⟩:=hb.form1;rw[am]at *;rw[am]at *;have hc2':ca<=9223372036854775807:=by unfold maxLen at jv;omega
 by_cases h:b.length<=a.length
 ·have hT:=ha.take (k:=b.length) (by rw[am];exact h)
  rw[mD]at hT;have HE:=ae (oC hT hb (h8.take b.length) h9);have HP:=ae (Cn a b h);have ed:(a.length:Int)>=(b.length:Int):=by omega
  have oT:b.length<=ca:=by omega
  clear ha hb h8 h9 hT;generalize decide (a.take b.length=b)=d at *;go_enter func94,ntmps94
  go_wp2_with fail;refine HE.o.mono ?_;rintro e w1 ⟨rfl,rfl⟩;go_wp2_with fail;go_ret
  rw[<- HP.o];exact⟨rfl,rfl⟩
 ·have ed:¬ (a.length:Int)>=(b.length:Int):=by omega
  have HP:=ae (Co a b (by omega));clear ha hb h8 h9;go_enter func94,ntmps94
  go_wp2_with fail;go_ret
  rw[HP.o];exact⟨rfl,rfl⟩
def Fy{w:World}{aa:Option Addr}{ca:Nat}{vb:Value}{a b:List Nat}(ha:Sv w (.slice aa a.length ca) (aA .u8 a))(hb:Sv w vb (aA .u8 b))(h8:Bs a)(h9:Bs b) :
  Calls prog 52 #[.slice aa a.length ca,vb] w λe w'=>(∃ v,e=.returned (.tuple #[v,.bool (b.isPrefixOf a)])/\Sv w' v (aA .u8 (if b.isPrefixOf a=true then a.drop b.length else a))/\(∀ p,(∀ i,(Value.slice aa a.length ca).ownBlock=some i->i<p)->∀ i,v.ownBlock=some i->i<p))/\w'=w:=by
 have HP:=ae (Vo ha hb h8 h9);obtain⟨ab,cb,rfl,Gx,hc4⟩:=hb.form1;have HA:=ae ha;obtain⟨a',cap',e,ju,jv,hn,_⟩:=ha;simp only[Value.slice.injEq]at e;obtain⟨rfl,_,rfl⟩:=e;simp only[am]at *;have hc2':ca<=9223372036854775807:=by unfold maxLen at jv;omega
 clear hb h8 h9;have mT:b.isPrefixOf a=true->b.length<=a.length:=λh=>(jfP.1 h).length_le
 generalize b.isPrefixOf a=px at *;cases px
 case true =>
  have hl:b.length<=a.length:=mT rfl;have hD:=HA.o.dropG (k:=b.length) (by rw[am];exact hl);rw[kJ,am]at hD;obtain⟨A,hA⟩:∃ A,(if ca=b.length then aa else aa.map λx=>x.add b.length)=A:=⟨_,rfl⟩;have HBK:=ae (λ(p:Nat) (hp:∀ i,(Value.slice aa a.length ca).ownBlock=some i->i<p)=>js (m:=a.length-b.length) (k:=b.length) (c:=ca) hp);rw[hA]at hD HBK;have HD:=ae hD;have HAA:=ae hA;have oT:(b.length:Int)<=(ca:Int):=by omega
  have hle2:(b.length:Int)<=(a.length:Int):=by omega
  clear hD HA mT;go_enter func52,ntmps52
  go_wp2_with fail;refine HP.o.mono ?_;rintro e w1 ⟨rfl,rfl⟩;go_wp2_with fail;go_ret2
  exact⟨⟨_,rfl,HD.o,HBK.o⟩,rfl⟩
 case false =>
  clear mT;go_enter func52,ntmps52
  go_wp2_with fail;refine HP.o.mono ?_;rintro e w1 ⟨rfl,rfl⟩;go_wp2_with fail;go_ret2
  exact⟨⟨_,rfl,by simpa using HA.o,λp hp=>hp⟩,rfl⟩
def Fz:∀(a:List Nat) (x:Nat),leN (a++[x])=leN a+x*2 ^ (8*a.length)
 | [],x=>by simp[leN]
 | y::a,x=>by
  have h:=Fz a x
  have e:2 ^ (8*(y::a).length)=256*2 ^ (8*a.length):=by
   rw[jeI,jfI,jfD,je6]
  show y+256*leN (a++[x])=(y+256*leN a)+_
  rw[h,e,jfI,Nat.mul_left_comm x 256];omega
def join8{n c k:Nat}(hk:k<=3)(hn:n<2 ^ (8*k))(hc:c<256):bits .or .u64 (n:Int) (IntKind.u64.wrap ((c:Int)*2 ^ (8*k)))=((n+c*2 ^ (8*k):Nat):Int):=by
 have h1:2 ^ (8*k)<=2 ^ 24:=jf1 (by omega) (by omega);have h2:c*2 ^ (8*k)<=255*2 ^ 24:=Nat.mul_le_mul (by omega) h1;have e:(c:Int)*2 ^ (8*k)=((c*2 ^ (8*k):Nat):Int):=by simp
 rw[e,wraps_u64 _ (by omega) (by omega)]
 have e2:bits .or .u64 (n:Int) ((c*2 ^ (8*k):Nat):Int)=(n:Int)+((c*2 ^ (8*k):Nat):Int):=by
  apply bits_join_low .u64 64 (by decide) wraps_u64 (8*k)
  ·omega
  ·have:(n:Int)<((2 ^ (8*k):Nat):Int):=by omega
   simpa using this
  ·omega
  ·omega
  ·simp
  ·omega
 rw[e2];omega
def Cp{w:World}{v:Value}{l:List Nat}(hs:Sv w v (aA .u8 l))(h8:Bs l)(hl:l.length<=4) :
  Calls prog 138 #[v] w λe w'=>e=.returned (.int .u64 ((leN l:Nat):Int))/\w'=w:=by
 have HS:=ae hs;obtain⟨a,cap,rfl,ju,jv⟩:=hs.form1;simp only[am]at *;have H8:=ae h8;clear hs h8;go_enter func138,ntmps138
 go_wp2_with fail;go_loopw [3,8] (λn i w'=>w'=w/\∃ k:Nat,k<=l.length/\i=.int .i64 (k:Int)/\n=.int .u64 ((leN (l.take k):Nat):Int)) (λ_ i _=>l.length-(intOf i).toNat)
 case atStart=>exact⟨rfl,0,by omega,rfl,rfl⟩
 case round =>
  obtain⟨rfl,k,hk,rfl,rfl⟩:=hrel;by_cases ar:k<l.length
  ·obtain⟨b,off,rfl,hb,eP⟩:=HS.o.at1 (bN ar)
   have hlt':(k:Int)<(l.length:Int):=(by omega);have oT:=JQ (b:=l.take k) (λx hx=>H8.o x (jfn hx));rw[jeH,jfp (by omega)]at oT;have gV:=H8.o _ (jeD ar);have hj:=join8 (show k<=3 by omega) oT gV
   have iw:jgt (leN (l.take (k+1))=leN (l.take k)+l[k]*2 ^ (8*k)):=ae (by
    rw[jeO ar,Fz,jeH,jfp (by omega)])
   have h9:IntKind.i64.wrap (8*(k:Int))=8*(k:Int):=by rw[jfq];omega
   have vJ:(8*(k:Int)).toNat=8*k:=(by omega);have h11:IntKind.u64.wrap ((l[k]:Nat):Int)=((l[k]:Nat):Int):=by rw[jfm];omega
   generalize l[k]=c at *;generalize leN (l.take k)=n at *;go_wp2_with fail;go_roundw
   case rel=>exact⟨trivial,k+1,by omega,by go_num,by rw[iw.o];simp⟩
   case measure=>simp[intOf];omega
  ·obtain rfl:k=l.length:=by omega
   have ed:¬ ((l.length:Nat):Int)<(l.length:Int):=(by omega);go_wp2_with fail;go_ret
   exact⟨rfl,rfl⟩
def spl(b:List Nat):Option (List Nat×List Nat) :=
 if b.length<4 then none else if b.length-4<leN (b.drop (b.length-4)) then none
 else some (b.take (b.length-4-leN (b.drop (b.length-4))),(b.take (b.length-4)).drop (b.length-4-leN (b.drop (b.length-4))))
def nU(p:Nat)(v:Value):Prop:=∀ i,v.ownBlock=some i->i<p
def Qh{w:World}{v:Value}{b:List Nat}(hs:Sv w v (aA .u8 b))(h8:Bs b)(hl:b.length<=100000000)(hw:nU w.heap.size v) :
  Calls prog 95 #[v] w λe w'=>(∃ v1 v2,e=.returned (.tuple #[v1,v2,.bool (spl b).isSome])/\(∀ x y,spl b=some (x,y)->Sv w' v1 (aA .u8 x)/\Sv w' v2 (aA .u8 y)/\nU w.heap.size v1/\nU w.heap.size v2))/\jgu w w':=by
 have HS:=ae hs;obtain⟨a',cap,e,ju,jv,hn,hx⟩:=hs;simp only[am]at *;subst e;have hc2':cap<=9223372036854775807:=by unfold maxLen at jv;omega
 have vH:b.length<=9223372036854775807:=by omega
 by_cases h4:b.length<4
 ·have HP:jgt (spl b=none):=ae (jey h4)
  have ar:(b.length:Int)-4<0:=by omega
  clear h8;go_enter func95,ntmps95
  go_wp2_with fail;go_ret3
  rw[HP.o];exact⟨⟨_,_,rfl,λx y h=>by cases h⟩,jez _ _⟩
 ·obtain⟨n,oL⟩:∃ n,b.length=n+4:=⟨b.length-4,by omega⟩
  have hD:=HS.o.dropG (k:=n) (by rw[am];omega);rw[kJ,am,oL]at hD;obtain⟨A,hA⟩:∃ A,(if cap=n then a' else a'.map λx=>x.add n)=A:=⟨_,rfl⟩;rw[hA,show n+4-n=4 by omega]at hD
  have hln:leN (b.drop n)<4294967296:=by
   have:=JQ (b:=b.drop n) (λx hx=>h8 x (jgi hx));rw[jeX,oL,show n+4-n=4 by omega]at this;simpa using this
  have HNU:=ae (Cp hD (h8.drop n) (by rw[jeX,oL];omega))
  have HP:jgt (spl b=if n<leN (b.drop n) then none else some (b.take (n-leN (b.drop n)),(b.take n).drop (n-leN (b.drop n)))):=ae (by
   unfold spl;rw[jex h4,show b.length-4=n by omega])
  have oT:(b.length:Int)-4=(n:Int):=by omega
  have mY:¬ (n:Int)<0:=by omega
  have Gt:(n:Int)<=(cap:Int):=by omega
  have vY:(n:Int)<=(b.length:Int):=by omega
  have HAA:=ae hA;have XB:=ae oL;rw[oL]at ju hw ⊢;clear oL;have hle':((n+4:Nat):Int)-4=(n:Int):=by omega
  clear hD h8 oT hx;generalize hN:leN (b.drop n)=N at *;clear hN;go_enter func95,ntmps95
  have hBE:∀ p,nU p (.slice a' (n+4) cap)->∀ m k,nU p (.slice (if cap=k then a' else a'.map λx=>x.add k) m (cap-k)):=λp hp m k=>js (m:=m) (k:=k) (c:=cap) hp
  go_wp2_with fail;refine HNU.o.mono ?_;rintro e w1 ⟨rfl,rfl⟩;by_cases Gl:n<N
  ·have hgt':(N:Int) > (n:Int):=by omega
   have Wr:jgt (spl b=none):=ae (by rw[HP.o,jey Gl]);clear HP;go_wp2_with fail;go_ret3
   rw[Wr.o];exact⟨⟨_,_,rfl,λx y h=>by cases h⟩,jez _ _⟩
  ·have hgt':¬ (N:Int) > (n:Int):=by omega
   obtain⟨m,hm⟩:∃ m,n=m+N:=⟨n-N,by omega⟩;have RK:n-N=m:=(by omega);have Wr:jgt (spl b=some (b.take m,(b.take n).drop m)):=ae (by rw[HP.o,jex Gl,RK]);have hT:=HS.o.take (k:=m) (by rw[am,XB.o];omega);have hD1:=HS.o.take (k:=n) (by rw[am,XB.o];omega);have vN:(aA .u8 b).length=n+4:=by rw[am];exact XB.o
   have hD2:=hD1.dropG (k:=m) (by rw[jeH,vN];omega);rw[mD]at hT;rw[mD,kJ]at hD2;obtain⟨A2,hA2⟩:∃ A2,(if cap=m then a' else a'.map λx=>x.add m)=A2:=⟨_,rfl⟩;have hle3:(aA .u8 (b.take n)).length-m=N:=by rw[am,jeH,XB.o];omega
   have hB2:=hBE _ hw N m;have bx:¬ cap=m:=(by omega);rw[jex bx]at hA2 hD2 hB2;clear hA2;rw[hle3]at hD2;have hB1:nU w1.heap.size (.slice a' m cap):=λi hi=>hw i (by cases a' with | none=>cases hi | some x=>exact hi)
   have HT:=ae hT;have na:=ae hD2;have aL:=ae hB1;have aG:=ae hB2;have yp:(n:Int)-(N:Int)=(m:Int):=(by omega);have mX:(0:Int)<=(m:Int):=(by omega);have hk3:(m:Int)<=(cap:Int):=(by omega);have hk4:(m:Int)<=(n:Int):=(by omega);have hk5:(n:Int)<=(cap:Int):=(by omega);have WT:(m:Int).toNat=m:=(by omega);have hk7:(n:Int).toNat=n:=(by omega);have hk8:n-m=N:=(by omega);have hk9:IntKind.i64.wrap (N:Int)=(N:Int):=by rw[jfq];omega
   clear hT hD1 hD2 HP hB1 hB2 hBE RK vN hle3 hw hm;go_wp2_with fail;go_quiet (fail)
   go_wp2_with fail;go_ret3
   rw[Wr.o];refine⟨⟨_,_,rfl,λx y h=>?_⟩,ak (jez _ _) _⟩;simp only[Option.some.injEq,Prod.mk.injEq]at h;obtain⟨rfl,rfl⟩:=h;exact⟨HT.o.kept (ak (jez _ _) _),na.o.kept (ak (jez _ _) _),aL.o,aG.o⟩
def R3(W:World)(p:Nat)(c f:List Nat)(fl:Bool):Prop :=
 ∃ a cap a' cap',W.heap[p]?=some (.cells #[.slice a c.length cap,.slice a' f.length cap',.bool fl] 157 (0,0)) /\
  (Sv W (.slice a c.length cap) (aA .u8 c)/\(∀ k,(Value.slice a c.length cap).ownBlock=some k->k<p)/\Bs c) /\
  (Sv W (.slice a' f.length cap') (aA .u8 f)/\(∀ k,(Value.slice a' f.length cap').ownBlock=some k->k<p)/\Bs f)
def R3.lt{W:World}{p:Nat}{c f:List Nat}{fl:Bool}(h:R3 W p c f fl):p<W.heap.size:=by obtain⟨_,_,_,_,h,_⟩:=h;exact(Array.getElem?_eq_some_iff.1 h).1
def R3.bs{W:World}{p:Nat}{c f:List Nat}{fl:Bool}(h:R3 W p c f fl):Bs c/\Bs f:=by obtain⟨_,_,_,_,_,h1,h2⟩:=h;exact⟨h1.2.2,h2.2.2⟩
def R3.kept{W W':World}{p B:Nat}{c f:List Nat}{fl:Bool}(h:R3 W p c f fl)(hb:Below B W W')(hp:p<B):R3 W' p c f fl:=by
 obtain⟨a,cap,a',cap',h1,⟨h2,h3,h4⟩,h5,h6,h7⟩:=h;exact⟨a,cap,a',cap',(hb.block p hp).trans h1,⟨h2.keptW (λ_ k hk=>jff (h3 k hk) hp) hb,h3,h4⟩,h5.keptW (λ_ k hk=>jff (h6 k hk) hp) hb,h6,h7⟩
def OwnV.of_le{W:World}{B B':Nat}{v:Value}{l:List Cl}(h:OwnV W B v l)(hB:B'<=B):OwnV W B' v l:=by
 refine⟨h.1,?_⟩;rcases h.2 with hn | ⟨g,cap,cur,hv,hb,r⟩
 ·exact .inl hn
 ·exact .inr ⟨g,cap,cur,hv,jeK hB hb,r⟩
def iP{W:World}{p i:Nat}(x:Value):Below p W (W.setCell ⟨p,i,none⟩ x):=(jez p W).setCell (jeA _) x
def R3.cells{W:World}{p:Nat}{c f:List Nat}{fl:Bool}(h:R3 W p c f fl) :
  ∃ a cap a' cap',(W.cell? ⟨p,0,none⟩=some (.slice a c.length cap)/\W.cell? ⟨p,1,none⟩=some (.slice a' f.length cap')/\W.cell? ⟨p,2,none⟩=some (.bool fl)) /\
   (W.frozen? ⟨p,0,none⟩=false/\W.frozen? ⟨p,1,none⟩=false/\W.frozen? ⟨p,2,none⟩=false) /\
   (c.length<=cap/\cap<=9223372036854775807/\f.length<=cap'/\cap'<=9223372036854775807) /\
   (Sv W (.slice a c.length cap) (aA .u8 c)/\(∀ k,(Value.slice a c.length cap).ownBlock=some k->k<p)) /\
   (Sv W (.slice a' f.length cap') (aA .u8 f)/\(∀ k,(Value.slice a' f.length cap').ownBlock=some k->k<p)) /\
   (∀ fl',R3 (W.setCell ⟨p,2,none⟩ (.bool fl')) p c f fl') /\
   (∀ k,k<=c.length->∃ A,(if cap=k then a else a.map λx=>x.add k)=A/\R3 (W.setCell ⟨p,0,none⟩ (.slice A (c.length-k) (cap-k))) p (c.drop k) f fl) /\
   (∀ k,k<=f.length->∃ A,(if cap'=k then a' else a'.map λx=>x.add k)=A/\R3 (W.setCell ⟨p,1,none⟩ (.slice A (f.length-k) (cap'-k))) p c (f.drop k) fl) /\
   (∀ v g,Sv W v (aA .u8 g)->Bs g->(∀ k,v.ownBlock=some k->k<p)->R3 (W.setCell ⟨p,1,none⟩ v) p c g fl):=by
 obtain⟨a,cap,a',cap',h1,⟨h2,h3,h4⟩,h5,h6,h7⟩:=h;have dr:∀ i (x:Value),Sv (W.setCell ⟨p,i,none⟩ x) (.slice a c.length cap) (aA .u8 c):=λi x=>h2.keptW (λ_=>h3) (iP x)
 have cV:∀ i (x:Value),Sv (W.setCell ⟨p,i,none⟩ x) (.slice a' f.length cap') (aA .u8 f):=λi x=>h5.keptW (λ_=>h6) (iP x)
 obtain⟨x1,c1,e1,ju,jv⟩:=h2.form1;obtain⟨x2,c2,e2,Gx,hc4⟩:=h5.form1;rw[am]at e1 ju e2 Gx;simp only[Value.slice.injEq]at e1 e2;obtain⟨rfl,_,rfl⟩:=e1;obtain⟨rfl,_,rfl⟩:=e2
 refine⟨a,cap,a',cap',⟨by rw[an h1];rfl,by rw[an h1];rfl,by rw[an h1];rfl⟩,⟨by simp[World.frozen?,h1],by simp[World.frozen?,h1],by simp[World.frozen?,h1]⟩,
  ⟨ju,by unfold maxLen at jv;omega,Gx,by unfold maxLen at hc4;omega⟩,⟨h2,h3⟩,⟨h5,h6⟩,λfl'=>?_,λk hk=>?_,λk hk=>?_,λv g hv hg hvb=>?_⟩
 ·exact⟨a,cap,a',cap',by rw[cQ h1];rfl,⟨dr _ _,h3,h4⟩,cV _ _,h6,h7⟩
 ·refine⟨_,rfl,?_⟩
  have hd:=h2.dropG (k:=k) (by rw[am];exact hk);rw[am,kJ]at hd;have iV:=js (m:=c.length-k) (k:=k) (c:=cap) h3;refine⟨_,cap-k,a',cap',by rw[cQ h1,jeX];rfl,⟨?_,?_,h4.drop k⟩,cV _ _,h6,h7⟩
  ·rw[jeX]
   exact hd.keptW (λ_=>iV) (iP _)
  ·rw[jeX]
   exact iV
 ·refine⟨_,rfl,?_⟩
  have hd:=h5.dropG (k:=k) (by rw[am];exact hk);rw[am,kJ]at hd;have iV:=js (m:=f.length-k) (k:=k) (c:=cap') h6;refine⟨a,cap,_,cap'-k,by rw[cQ h1,jeX];rfl,⟨dr _ _,h3,h4⟩,?_,?_,h7.drop k⟩
  ·rw[jeX]
   exact hd.keptW (λ_=>iV) (iP _)
  ·rw[jeX]
   exact iV
 ·obtain⟨av,cv,rfl,_,_⟩:=hv.form1
  rw[am]at *;exact⟨a,cap,av,cv,by rw[cQ h1];rfl,⟨dr _ _,h3,h4⟩,hv.keptW (λ_=>hvb) (iP _),hvb,hg⟩
def R3.cells2{W U:World}{p:Nat}{c f:List Nat}{fl:Bool}(h:R3 W p c f fl)(hU:jgu W U){a:Option Addr}{n cap:Nat}(hc:W.cell? ⟨p,1,none⟩=some (.slice a n cap)) :
  Sv U (.slice a f.length cap) (aA .u8 f)/\∀ i,(Value.slice a f.length cap).ownBlock=some i->i<p:=by
 obtain⟨_,_,a',cap',⟨_,c1,_⟩,_,_,_,⟨s1,s2⟩,_⟩:=(h.kept hU h.lt).cells;rw[hU.cell h.lt,hc]at c1;simp only[Option.some.injEq,Value.slice.injEq]at c1;obtain⟨rfl,rfl,rfl⟩:=c1;exact⟨s1,s2⟩
def pY{w:World}{p:Nat}{c f:List Nat}{fl:Bool}(h:R3 w p c f fl)(lo hi:Nat)(h1:lo<=9223372036854775807)(h2:hi<=9223372036854775807) :
  Calls prog 141 #[.pointer (some ⟨p,0,none⟩),.int .i64 (lo:Int),.int .i64 (hi:Int)] w λr w'=>r=.returned (.int .i64 (fU lo hi f:Int))/\R3 w' p c (db f) (fl || lV lo hi f)/\Fr p w.heap.size w w':=by
 obtain⟨a,cap,a',cap',⟨c0,c1,c2⟩,⟨f0,f1,f2⟩,⟨l1,l2,l3,l4⟩,_,⟨s1,s2⟩,_,_,k1,_⟩:=h.cells;obtain⟨g1,g2,g3,g4⟩:=fK f;have HG:=ae (Bk h.bs.2 s1);obtain⟨A,hA,hR⟩:=k1 (gt f).2.1 g2;have HF:=ae ((Fr.refl p w.heap.size w).set 1 (.slice A (f.length-(gt f).2.1) (cap'-(gt f).2.1)));have HR:=ae hR;have HB:jgt (lV lo hi f=!decide ((gt f).2.2=0/\lo<=(gt f).1/\(gt f).1<=hi)):=ae rfl;have HV:jgt (fU lo hi f=if lV lo hi f=true then 0 else (gt f).1):=ae rfl;have HT:jgt (db f=f.drop (gt f).2.1):=ae rfl;rw[HT.o];clear h k1 s1 s2 hR HT;generalize lV lo hi f=bd at *;generalize fU lo hi f=vw at *;generalize gt f=x at *;obtain⟨n,u,er⟩:=x;simp only at *;unfold kQ at HG;have hu:(u:Int)<=(f.length:Int):=by omega
 have hw1:IntKind.u64.wrap (lo:Int)=(lo:Int):=by rw[jfm];omega
 have nX:IntKind.u64.wrap (hi:Int)=(hi:Int):=by rw[jfm];omega
 obtain⟨A0,Cap,B0,Cap',⟨d0,d1,d2⟩,⟨e0,e1,e2⟩,_,_,_,k2,_,_,_⟩:=HR.o.cells;have HK2:=ae (k2 true);have eW:=ae (HF.o.set 2 (.bool true));clear k2;by_cases her:er=0
 ·subst her
  have dC:(((0:Nat):Int) != 0)=false:=by simp
  by_cases hlo:n<lo
  ·have hb:bd=true:=by rw[HB.o];simp;omega
   subst hb;have hv:vw=0:=by rw[HV.o];rfl
   subst hv;rw[Bool.or_true];have ar:(n:Int)<(lo:Int):=(by omega);clear HB HV;go_enter func141,ntmps141
   go_wp2_with fail;refine HG.o.mono ?_;rintro e w1 ⟨rfl,rfl⟩;go_wp2_with fail;go_ret
   exact⟨rfl,HK2.o,eW.o⟩
  ·have hnlt:¬ (n:Int)<(lo:Int):=by omega
   by_cases AM:hi<n
   ·have hb:bd=true:=by rw[HB.o];simp;omega
    subst hb;have hv:vw=0:=by rw[HV.o];rfl
    subst hv;rw[Bool.or_true];have Gl:(n:Int) > (hi:Int):=(by omega);clear HB HV;go_enter func141,ntmps141
    go_wp2_with fail;refine HG.o.mono ?_;rintro e w1 ⟨rfl,rfl⟩;go_wp2_with fail;go_ret
    exact⟨rfl,HK2.o,eW.o⟩
   ·have hb:bd=false:=by rw[HB.o];simp;omega
    subst hb;have hv:vw=n:=by rw[HV.o];rfl
    subst hv;rw[Bool.or_false];have Gl:¬ (vw:Int) > (hi:Int):=(by omega);have hwn:IntKind.i64.wrap (vw:Int)=(vw:Int):=by rw[jfq];omega
    clear HB HV;go_enter func141,ntmps141
    go_wp2_with fail;refine HG.o.mono ?_;rintro e w1 ⟨rfl,rfl⟩;go_wp2_with fail;go_ret
    exact⟨rfl,HR.o,HF.o⟩
 ·have hb:bd=true:=by rw[HB.o];simp;omega
  subst hb;have hv:vw=0:=by rw[HV.o];rfl
  subst hv;rw[Bool.or_true]
  have dC:((er:Int) != 0)=true:=by
   have:(er:Int)≠0:=by omega
   simpa using this
  clear HB HV;go_enter func141,ntmps141
  go_wp2_with fail;refine HG.o.mono ?_;rintro e w1 ⟨rfl,rfl⟩;go_wp2_with fail;go_ret
  exact⟨rfl,HK2.o,eW.o⟩
def Qi{w:World}{p:Nat}{c f:List Nat}{fl:Bool}(h:R3 w p c f fl)(k n:Nat)(hk:1<=k/\k<=3)(hn:n<=64)(gV:c.length<=100000000) :
  Calls prog 181 #[.pointer (some ⟨p,0,none⟩),.int .u8 (k:Int),.int .i64 (n:Int)] w λr w'=>∃ v,r=.returned v/\OwnV w' w.heap.size v (ip k n (c,f,fl)).1/\R3 w' p (ip k n (c,f,fl)).2.1 (ip k n (c,f,fl)).2.2.1 (ip k n (c,f,fl)).2.2.2/\Fr p w.heap.size w w':=by
 have ar:=h.lt;have HW:=ae (pY h 0 c.length (by omega) (by omega));have HM:jgt (ip k n (c,f,fl)=((ge k (c.take (fU 0 c.length f)) n).getD [],(c.drop (fU 0 c.length f),db f,(fl || lV 0 c.length f) || (ge k (c.take (fU 0 c.length f)) n).isNone))):=ae rfl;have hvl:=rB 0 c.length f;obtain⟨a,cap,a',cap',⟨c0,c1,c2⟩,⟨f0,f1,f2⟩,⟨l1,l2,l3,l4⟩,y1,y2,y3,y4,y5⟩:=h.cells;clear h y1 y2 y3 y4 y5;rw[HM.o];clear HM;obtain⟨g,hg⟩:∃ g,(fl || lV 0 c.length f)=g:=⟨_,rfl⟩;rw[hg]at HW ⊢;clear hg;generalize fU 0 c.length f=m at *;generalize db f=rf at *;obtain⟨L,hL⟩:∃ L,(ge k (c.take m) n).getD []=L:=⟨_,rfl⟩;obtain⟨D,hD⟩:∃ D,(ge k (c.take m) n).isNone=D:=⟨_,rfl⟩;rw[hL,hD];have HLD:=ae (And.intro hL hD);clear hL hD;go_enter func181,ntmps181
 go_wp2_with fail;refine HW.o.mono ?_;rintro e w1 ⟨rfl,dr,cm⟩;clear c0 c1 c2 f0 f1 f2 l1 l2 l3 l4;obtain⟨a,cap,a',cap',⟨c0,c1,c2⟩,⟨f0,f1,f2⟩,⟨l1,l2,l3,l4⟩,⟨t1,t2⟩,y1,y2,y3,y4⟩:=dr.cells;have hT:=t1.take (k:=m) (by rw[am];exact hvl);rw[mD]at hT;have HC:=ae (Qg hT (dr.bs.1.take m) k n);have iW:=ae dr;have dN:=ae cm;have CY:(m:Int)<=(c.length:Int):=by omega
 have vH:(m:Int)<=(cap:Int):=by omega
 have oM:=ae cm.size;clear dr cm t1 t2 hT y1 y2 y3 y4;go_wp2_with fail;refine HC.o.mono ?_;rintro e w2 ⟨v,l,er,rfl,ho,ht,hb⟩;have cV:=iW.o.kept hb iW.o.lt;have cM:=dN.o.then (hb.mono oM.o)
 have eb:=ae ho;have fJ:=ae cV;have eW:=ae cM;have hnn:ge k (c.take m) n=none∨∃ y,ge k (c.take m) n=some y:=by cases ge k (c.take m) n<;>simp
 have Rl:jgt (L=l/\D=((er:Int) != 0)):=ae (by
  rw[<- HLD.o.1,<- HLD.o.2];unfold uK at ht;rw[jey hk,jey (by omega),je3]at ht;rcases ht with ⟨rfl,e⟩ | ⟨h0,_,rfl,e⟩
  ·rw[e];exact⟨rfl,by simp⟩
  ·rw[e]
   have:((er:Int) != 0)=true:=by
    have:(er:Int)≠0:=by omega
    simpa using this
   exact⟨rfl,by rw[this];rfl⟩)
 obtain⟨rfl,hd0⟩:=Rl.o;have hd:=hd0.symm;clear Rl hd0
 have fZ:jgt (R3 (w2.setCell ⟨p,2,none⟩ (.bool (g || D))) p c rf (g || D)):=ae (by
  obtain⟨_,_,_,_,_,_,_,_,_,k2,_⟩:=fJ.o.cells;exact k2 _)
 have mU:=ae (eW.o.set 2 (.bool (g || D)));clear c0 c1 c2 f0 f1 f2 l1 l2 l3 l4 CY vH;obtain⟨a2,cap2,a2',cap2',⟨c0,c1,c2⟩,⟨f0,f1,f2⟩,⟨l1,l2,l3,l4⟩,y1,y2,y3,y4,y5⟩:=fJ.o.cells;obtain⟨a3,cap3,a3',cap3',⟨q0,q1,q2⟩,z0,x1,z1,z2,x2,y0,x3⟩:=fZ.o.cells;have RN:=q0;rw[show (w2.setCell ⟨p,2,none⟩ (.bool (g || D))).cell? ⟨p,0,none⟩=w2.cell? ⟨p,0,none⟩ from World.cell?_setCell_other _ _ _ _ (by simp),c0]at RN;simp only[Option.some.injEq,Value.slice.injEq,true_and]at RN;obtain⟨rfl,rfl⟩:=RN;obtain⟨A,hA,hR4⟩:=y0 m hvl;have CY:(m:Int)<=(c.length:Int):=by omega
 have vH:(m:Int)<=(cap2:Int):=by omega
 have sK:=ae hR4;have ya:=ae (mU.o.set 0 (.slice A (c.length-m) (cap2-m)));have gT:=ae (show OwnV _ w1.heap.size v L from Fr.own (((Fr.refl p w2.heap.size w2).set 2 (.bool (g || D))).set 0 (.slice A (c.length-m) (cap2-m))) eb.o iW.o.lt);have HSZ1:=ae oM.o;clear y0 y1 y2 y3 y4 y5 x1 x2 x3 hR4 cV cM hb ho ht hnn q0 q1 q2 z0 z1 z2;have hsz0:w.heap.size<=w1.heap.size:=oM.o;rcases g with _ | _<;>rcases D with _ | _
 all_goals
  go_wp2_with fail;go_ret
  exact⟨_,rfl,OwnV.of_le gT.o HSZ1.o,sK.o,ya.o⟩
def FA{w:World}{p:Nat}{c f:List Nat}{fl:Bool}(h:R3 w p c f fl){v:Value}{l:List Cl}(hs:Sv w v (aE l))(hf:∀ x∈l,aI x)(hl:l.length<=256) :
  Calls prog 182 #[.pointer (some ⟨p,0,none⟩),v] w λr w'=>r=.returned (xz (bO l))/\R3 w' p (pR l (c,f,fl)).1 (pR l (c,f,fl)).2.1 (pR l (c,f,fl)).2.2/\Fr p w.heap.size w w':=by
 have ar:=h.lt;have bR:=Stb.new w stZ;have cy:=aj w (.cells #[.int .i64 0,.int .i64 0,.bool false,.bool false,.int .u8 0,.int .i64 0,.string ⟨#[]⟩,.int .u8 0,.int .i64 0,.string ⟨#[]⟩] 54);have hz0':Stb (w.alloc (.cells #[.int .i64 0,.int .i64 0,.bool false,.bool false,.int .u8 0,.int .i64 0,.string ⟨#[]⟩,.int .u8 0,.int .i64 0,.string ⟨#[]⟩] 54)) w.heap.size stZ:=bR;have Da:=hs.kept cy;have ni:=ae (h.kept cy ar);obtain⟨⟨M1,M2,M3⟩,hM⟩:∃ R:S3,pR l (c,f,fl)=R:=⟨_,rfl⟩;have HM:jgt ((M1,M2,M3)=if (fQ (bO l)).isPrefixOf f=true then (c,f.drop (fQ (bO l)).length,fl) else (c,f,true)):=ae (hM.symm.trans rfl);rw[hM];clear hM;obtain⟨m1,m2⟩:=gE hf;obtain⟨nn,m3,m4⟩:=nQ l;have m5:∃ n:Nat,(bO l).nulls=(n:Int)/\n<=1000000:=⟨nn,m3,by omega⟩;have cF:=ae (nM m1 m2 m5);have ze:=ae (tD m1 m2 m5).2;have HSS:=ae (Ak Da hf (by omega));have HZ0:=ae hz0';have ce:=ae cy;have sA:(w.alloc (.cells #[.int .i64 0,.int .i64 0,.bool false,.bool false,.int .u8 0,.int .i64 0,.string ⟨#[]⟩,.int .u8 0,.int .i64 0,.string ⟨#[]⟩] 54)).heap.size=w.heap.size+1:=jeB _ _;have oM:=ae sA;obtain⟨a,cap,rfl,bg,bx⟩:=hs.form1;rw[ay]at *;clear hs hf cy bR hz0' Da m1 m2 m3 m4 m5 sA h;generalize hA:w.alloc (.cells #[.int .i64 0,.int .i64 0,.bool false,.bool false,.int .u8 0,.int .i64 0,.string ⟨#[]⟩,.int .u8 0,.int .i64 0,.string ⟨#[]⟩] 54)=A at *;generalize fQ (bO l)=sb at *;generalize bO l=st at *;obtain⟨x1,x2,x3,x4,⟨y1,y2,y3⟩,z1,z2,z3⟩:=st;unfold xz at *;simp only at *;go_enter func182,ntmps182
 go_wp2_with fail;try rw[hA]
 refine HSS.o.mono ?_;rintro e w1 ⟨rfl,az⟩;have jw:=ae (ni.o.kept az ni.o.lt);have aL:=ae az;have HZ1:=ae (HZ0.o.kept az);have QY:=aj w1 (.cells #[.int .i64 x1,.int .i64 x2,.bool x3,.bool x4,.int .u8 (y1:Int),.int .i64 y2,.string (bytesT y3),.int .u8 (z1:Int),.int .i64 z2,.string (bytesT z3)] 54);have HQ:=ae (show Stb _ w1.heap.size ⟨x1,x2,x3,x4,(y1,y2,y3),(z1,z2,z3)⟩ from Stb.new w1 ⟨x1,x2,x3,x4,(y1,y2,y3),(z1,z2,z3)⟩);have fZ:=ae (jw.o.kept QY jw.o.lt);have Gw:=ae (HZ1.o.kept QY);have aG:=ae QY;have sB:(w1.alloc (.cells #[.int .i64 x1,.int .i64 x2,.bool x3,.bool x4,.int .u8 (y1:Int),.int .i64 y2,.string (bytesT y3),.int .u8 (z1:Int),.int .i64 z2,.string (bytesT z3)] 54)).heap.size=w1.heap.size+1:=jeB _ _;have uU:=ae sB;clear az QY hA ni HZ0 sB;generalize hB:w1.alloc (.cells #[.int .i64 x1,.int .i64 x2,.bool x3,.bool x4,.int .u8 (y1:Int),.int .i64 y2,.string (bytesT y3),.int .u8 (z1:Int),.int .i64 z2,.string (bytesT z3)] 54)=B at *;go_upto_region 2 with fail
 try rw[hB]
 obtain⟨a1,cap1,a1',cap1',⟨c0,c1,c2⟩,⟨f0,f1,f2⟩,⟨l1,l2,l3,l4⟩,k1,⟨s1,s2⟩,k3,k4,k5,k6⟩:=fZ.o.cells;obtain⟨_,⟨q0,q1,q2,q3⟩,⟨q4,q5,q6⟩,q7,q8,q9⟩:=HQ.o.at;simp only[jeU]at q0 q1 q2 q3 q4 q5 q6 q7 q8 q9
 have GQ:jgt (∀ U,jgu B U->Calls prog 84 #[.agg #[.int .i64 x1,.int .i64 x2,.bool x3,.bool x4,.int .u8 (y1:Int),.int .i64 y2,.string (bytesT y3),.int .u8 (z1:Int),.int .i64 z2,.string (bytesT z3)]] U λe w'=>∃ v,e=.returned v/\Sv w' v (aA .u8 sb)/\jgu B w'/\w'.cell? ⟨p,1,none⟩=some (.slice a1' f.length cap1')):=ae (λU hU=>by
  refine(cF.o U).mono ?_;rintro e w' ⟨⟨v,rfl,ho⟩,hb⟩;have sd:=ai hU hb;exact⟨v,rfl,ho.sv,sd,(sd.cell fZ.o.lt).trans c1⟩)
 have HCB:jgt (∀ U vb,jgu B U->Sv U vb (aA .u8 sb)->Calls prog 52 #[.slice a1' f.length cap1',vb] U λe w'=>(∃ v,e=.returned (.tuple #[v,.bool (sb.isPrefixOf f)])/\Sv w' v (aA .u8 (if sb.isPrefixOf f=true then f.drop sb.length else f))/\∀ i,v.ownBlock=some i->i<p)/\w'=U):=ae (λU vb hU hvb=>by
  refine(Fy (fZ.o.cells2 hU c1).1 hvb fZ.o.bs.2 ze.o).mono ?_;rintro e w' ⟨⟨v,rfl,hv,hvp⟩,rfl⟩;exact⟨⟨v,rfl,hv,hvp p (fZ.o.cells2 hU c1).2⟩,rfl⟩)
 clear k1 s1 s2 k3 k4 k5 k6;generalize sb.isPrefixOf f=px at *;go_cut [6,7] from 10 (λs6 s7 wx=>s7=.bool px/\Sv wx s6 (aA .u8 (if px=true then f.drop sb.length else f))/\(∀ i,s6.ownBlock=some i->i<p)/\jgu B wx)
 case first =>
  refine wp_region_noPanic ?_
  go_region_law (first
   | (go_simp;go_at_call 84;refine(GQ.o _ ?_).mono ?_;exact ak (jez B.heap.size B) _;rintro e w5 ⟨v5,rfl,kT,bQ,hc5⟩;have oK:=ae kT;have bq:=ae bQ;clear kT bQ;dsimp only)
   | (go_simp;go_at_call 52;refine(HCB.o _ _ bq.o oK.o).mono ?_;rintro e w6 ⟨⟨v6,rfl,Dd,hp6⟩,rfl⟩;have HS6:=ae Dd;have AV:=ae hp6;clear Dd hp6;dsimp only)
   | fail)
  all_goals refine NoPanic.normal ?_
  all_goals (go_wp2_with fail;go_meet)
  all_goals exact⟨rfl,HS6.o,AV.o,bq.o⟩
 case rest =>
 clear c0 c1 c2 f0 f1 f2 l1 l2 l3 l4 q0 q1 q2 q3 q4 q5 q6 q7 q8 q9 GQ HCB cF HSS;obtain⟨rfl,Dd,hp6,ct⟩:=hcut;have HG:jgt (Bs (if px=true then f.drop sb.length else f)):=ae (by have:=fZ.o.bs.2;split;exact this.drop _;exact this);have hr3:=fZ.o.kept ct fZ.o.lt;have gy:=Gw.o.kept ct;have Ll:=HQ.o.kept ct;have iz:jgu w wc:=ai ce.o (ai aL.o (ai aG.o ct));have hsw:w.heap.size<w1.heap.size:=by have:=oM.o;have:=aL.o.size;omega
 have lA:w.heap.size<=wc.heap.size:=iz.size;obtain⟨g,hg⟩:∃ g,(fl || !px)=g:=⟨_,rfl⟩;obtain⟨G,hG⟩:∃ G,(if px=true then f.drop sb.length else f)=G:=⟨_,rfl⟩;rw[hG]at Dd HG
 have QX:jgt ((M1,M2,M3)=(c,G,g)):=ae (by
  rw[HM.o,<- hG,<- hg];cases px<;>simp)
 have iC:Fr p w.heap.size w wc:=Fr.of_below iz;obtain⟨a1,cap1,a1',cap1',⟨c0,c1,c2⟩,⟨f0,f1,f2⟩,⟨l1,l2,l3,l4⟩,k1,k2,k3,k4,k5,k6⟩:=hr3.cells;have hr4:=k3 g;have pt:=iC.set 2 (.bool g);obtain⟨_,_,_,_,_,_,_,_,_,_,_,_,k7⟩:=hr4.cells;have RO:=k7 u6 G (Dd.keptW (λ_=>hp6) (iP _)) HG.o hp6;have iX:=pt.set 1 u6;have hq5:=(Ll.other (p:=p) (by have:=ar;omega) 2 (.bool g)).other (p:=p) (by have:=ar;omega) 1 u6;have sk:=(gy.other (p:=p) (by have:=ar;omega) 2 (.bool g)).other (p:=p) (by have:=ar;omega) 1 u6;have gJ:=Ux (W:=(wc.setCell ⟨p,2,none⟩ (.bool g)).setCell ⟨p,1,none⟩ u6) (jez w.heap.size _) (jeA _) (.int .i64 x1) (.int .i64 x2) (.bool x3) (.bool x4) (.int .u8 (y1:Int)) (.int .i64 y2) (.string (bytesT y3)) (.int .u8 (z1:Int)) (.int .i64 z2) (.string (bytesT z3));have Re:=ae (RO.kept gJ ar);have MV:=ae (iX.trans (Fr.of_below gJ));obtain⟨_,⟨q0,q1,q2,q3⟩,⟨q4,q5,q6⟩,q7,q8,q9⟩:=Ll.at;obtain⟨_,⟨r0,r1,r2,r3⟩,⟨r4,r5,r6⟩,r7,r8,r9⟩:=gy.at;simp only[jeU]at q0 q1 q2 q3 q4 q5 q6 q7 q8 q9 r0 r1 r2 r3 r4 r5 r6 r7 r8 r9;have fg:=Ll.frozen;have fz:=gy.frozen;have Gt:¬ w1.heap.size=w.heap.size:=by omega
 have vY:¬ w.heap.size=w1.heap.size:=by omega
 have RS:¬ p=w.heap.size:=by omega
 have hn4:¬ p=w1.heap.size:=by omega
 have hn5:¬ w.heap.size=p:=by omega
 have hn6:¬ w1.heap.size=p:=by omega
 have iF:∃ a6 n6 c6,u6=.slice a6 n6 c6:=by obtain⟨_,_,h,_⟩:=Dd.form1;exact⟨_,_,_,h⟩
 obtain⟨a6,n6,c6,rfl⟩:=iF;clear k1 k2 k3 k4 k5 k6 k7 hr4 pt RO iX hq5 sk gJ hr3 gy Ll Dd hp6 ct iC hG iz HM
 have WH:jgt (∀ W,R3 W p c G g->R3 W p M1 M2 M3):=ae (λW hW=>by
  have e:=QX.o;simp only[Prod.mk.injEq]at e;rw[e.1,e.2.1,e.2.2];exact hW)
 cases fl<;>cases px
 all_goals
  simp only[Bool.not_true,Bool.not_false,Bool.or_false,Bool.or_true,Bool.true_or,Bool.false_or]at hg;subst hg;go_wp2_with fail;refine bodyPost_ret (v:=.agg #[.int .i64 x1,.int .i64 x2,.bool x3,.bool x4,.int .u8 (y1:Int),.int .i64 y2,.string (bytesT y3),.int .u8 (z1:Int),.int .i64 z2,.string (bytesT z3)]) (by simp[results,results182,go_sem,Gt,vY,RS,hn4,hn5,hn6,r0,r1,r2,r3,r4,r5,r6,r7,r8,r9]) rfl ⟨rfl,WH.o _ Re.o,MV.o⟩
def Ss(W:World)(v:Value)(l:List Stt):Prop:=∃ a cap,v=.slice a l.length cap/\l.length<=cap/\cap<=maxLen/\(0<l.length->∃ b off,a=some ⟨b,off,none⟩/\∀ j (h:j<l.length),JD W b (off+j*10) l[j])
def Ss.kept{W W':World}{v:Value}{l:List Stt}(h:Ss W v l)(hb:jgu W W'):Ss W' v l:=by
 obtain⟨a,cap,h1,h2,h3,h4⟩:=h;refine⟨a,cap,h1,h2,h3,λh0=>?_⟩;obtain⟨b,off,h5,h6⟩:=h4 h0;exact⟨b,off,h5,λj h=>(h6 j h).kept hb⟩
def Ss.form{W:World}{v:Value}{l:List Stt}(h:Ss W v l):∃ a cap,v=.slice a l.length cap/\l.length<=cap/\cap<=maxLen:=by
 obtain⟨a,cap,h1,h2,h3,_⟩:=h;exact⟨a,cap,h1,h2,h3⟩
def Ss.at{W:World}{a:Option Addr}{n cap:Nat}{l:List Stt}(h:Ss W (.slice a n cap) l){i:Nat}(hi:i<l.length):∃ g o,a=some ⟨g,o,none⟩/\JD W g (o+i*10) l[i]:=by
 obtain⟨a',cap',e,_,_,h4⟩:=h;simp only[Value.slice.injEq]at e;obtain⟨rfl,_,_⟩:=e;obtain⟨g,o,rfl,h6⟩:=h4 (by omega);exact⟨g,o,rfl,h6 i hi⟩
def pZ(W:World)(q si:Nat)(fv sv:Value)(l:List Fd)(r:List Stt):Prop :=
 q<W.heap.size/\W.cell? ⟨q,0,none⟩=some (.int .u32 (si:Int))/\W.cell? ⟨q,1,none⟩=some fv/\W.cell? ⟨q,2,none⟩=some sv/\Sf W fv l/\Ss W sv r
def pZ.kept{W W':World}{q si:Nat}{fv rv:Value}{l:List Fd}{r:List Stt}(h:pZ W q si fv rv l r)(hb:jgu W W'):pZ W' q si fv rv l r:=by
 obtain⟨h0,h1,h2,h3,h4,h5⟩:=h;have e:∀ o,W'.cell? ⟨q,o,none⟩=W.cell? ⟨q,o,none⟩:=λo=>(fA hb).1 q o h0
 exact⟨jeY h0 hb.size,by rw[e];exact h1,by rw[e];exact h2,by rw[e];exact h3,h4.kept hb,h5.kept hb⟩
def uL{l:List Fd}{r:List Stt}{op f:Nat}{c:Cl}(h:dV l f=none):fD l r op f c=(true,true,true):=by unfold fD;rw[h]
def uM{l:List Fd}{r:List Stt}{op f j:Nat}{c:Cl}(h:dV l f=some j)(hj:¬ j<r.length):fD l r op f c=(true,true,true):=by
 unfold fD;rw[h];simp only;rw[List.getElem?_eq_none (by omega)]
def Av{l:List Fd}{r:List Stt}{op f j:Nat}{c:Cl}(h:dV l f=some j)(hj:j<r.length):fD l r op f c=nI op c r[j]:=by
 unfold fD;rw[h];simp only;rw[List.getElem?_eq_getElem hj]
def qc{w:World}{q si b off op f:Nat}{c:Cl}{kv fv rv:Value}{l:List Fd}{r:List Stt}(hr:pZ w q si fv rv l r)(hn:et w b off op f c kv)(dD:Okc c)(dA:∀ x∈r,Oks x) :
  Calls prog 160 #[.pointer (some ⟨q,0,none⟩),.pointer (some ⟨b,off,none⟩)] w λe w'=>e=.returned (b3V (fD l r op f c))/\jgu w w':=by
 have HO:=ae dD;have iy:=ae dA;have Lg:=ae (λh=>uL (l:=l) (r:=r) (op:=op) (f:=f) (c:=c) h);have Gu:=ae (λ(j:Nat) h hj=>uM (l:=l) (r:=r) (op:=op) (f:=f) (c:=c) (j:=j) h hj);have vK:=ae (λ(j:Nat) h hj=>Av (l:=l) (r:=r) (op:=op) (f:=f) (c:=c) (j:=j) h hj);generalize fD l r op f c=R at *;have cm:=Flg.new w (false,false,false);have az:=aj w (.cells #[.bool false,.bool false,.bool false] 123);simp only at cm;have aL:=ae az;have HR:=ae (hr.kept az);have HN:=ae (hn.kept az);have dN:=ae cm;have lA:(w.alloc (.cells #[.bool false,.bool false,.bool false] 123)).heap.size=w.heap.size+1:=jeB _ _;have oM:=ae lA;generalize hA:w.alloc (.cells #[.bool false,.bool false,.bool false] 123)=A at *;clear hr hn cm az dD dA lA;have kS:=ae (λ(U:World) (hU:jgu A U)=>tg (HR.o.2.2.2.2.1.kept hU) si f);obtain⟨RN,y0,y1,y2,yc,iF⟩:=HR.o;obtain⟨cy,x0,x1,x2,x3,x4,x5⟩:=HN.o;obtain⟨fa,fcap,rfl,hfc,XC⟩:=yc.form;obtain⟨ra,rcap,rfl,hrc,CJ⟩:=iF.form;clear yc iF;have CK:∀ s:aB (λx=>jgu A x),s.w.cell? ⟨q,0,none⟩=some (.int .u32 (si:Int)):=λs=>(s.ok.cell (p:=⟨q,0,none⟩) RN).trans y0
 have mh:∀ s:aB (λx=>jgu A x),s.w.cell? ⟨q,1,none⟩=some (.slice fa l.length fcap):=λs=>(s.ok.cell (p:=⟨q,1,none⟩) RN).trans y1
 have qt:∀ s:aB (λx=>jgu A x),s.w.cell? ⟨b,off+1,none⟩=some (.int .u32 (f:Int)):=λs=>(s.ok.cell (p:=⟨b,off+1,none⟩) cy).trans x1
 haveI:Nonempty (aB (λx=>jgu A x)):=⟨aB.mk A (jez _ _)⟩
 go_enter func160,ntmps160
 go_wp2_with fail;refine aP (S:=λx=>jgu A x) (by kernel_rfl) (by kernel_rfl) (by first | exact(jez _ _).drew | (rw[hA];exact(jez _ _).drew)) ?_;repeat (go_big_quiet_step ((go_at_call 193;exact(kS.o _ (aB.ok _)).mono (λe w' h=>⟨h.1,aB.mk w' (ai (aB.ok _) h.2),rfl⟩))))
 refine wpQuiet_nil ?_;rintro _ ⟨s2,rfl⟩;obtain⟨w2,nX⟩:∃ x,x=s2.w:=⟨_,rfl⟩;have ap:=s2.ok;rw[<- nX]at ap ⊢;have aG:=ae (ai aL.o ap);have fZ:=ae (HR.o.kept ap);have mV:=ae (HN.o.kept ap);have eW:=ae (dN.o.kept ap);have Gw:jgt (w.heap.size<w2.heap.size):=ae (by have:=ap.size;have:=oM.o;omega);clear nX ap CK mh qt x0 x1 x2 x3 x4 x5 y0 y1 y2 HR HN dN hA RN cy;obtain⟨⟨p0,p1,p2⟩,⟨t0,t1,t2⟩,_⟩:=eW.o.facts;cases hp:dV l f with
 | none =>
  have HA:=ae (Lg.o hp);simp only[Option.isSome_none,Option.getD_none];clear hp Lg Gu vK;go_wp2_with fail;refine bodyPost_ret (v:=.agg #[.bool true,.bool true,.bool true]) (by simp[results,results160,go_sem,p0,p1,p2]) rfl ⟨?_,set3 aG.o (jeA _) _ _ _⟩;rw[HA.o];rfl
 | some j =>
  simp only[Option.isSome_some,Option.getD_some];by_cases hj:j<r.length
  ·have HA:=ae (vK.o j hp hj)
   obtain⟨RN,y0,y1,y2,_,iF⟩:=fZ.o;have hj':¬ (j:Int)>=(r.length:Int):=(by omega);have hj2:(j:Int)<(r.length:Int):=(by omega);obtain⟨rb,roff,rfl,gx⟩:=iF.at hj;have HOS:=ae (iy.o r[j] (jeD hj));generalize r[j]=st at *;have HSTT:=ae gx;obtain⟨srows,snulls,ssome,shigh,slo,shi⟩:=st;have hst':=gx;obtain⟨hrb,⟨d0,d1,d2,d3⟩,⟨d4,d5,d6⟩,d7,d8,d9⟩:=hst';simp only at d0 d1 d2 d3 d4 d5 d6 d7 d8 d9;have aY:=ae (ai aG.o (aj w2 (.cells #[.int .i64 srows,.int .i64 snulls,.bool ssome,.bool shigh,.int .u8 (slo.1:Int),.int .i64 slo.2.1,.string (bytesT slo.2.2),.int .u8 (shi.1:Int),.int .i64 shi.2.1,.string (bytesT shi.2.2)] 54)));have aJ:=aj w2 (.cells #[.int .i64 srows,.int .i64 snulls,.bool ssome,.bool shigh,.int .u8 (slo.1:Int),.int .i64 slo.2.1,.string (bytesT slo.2.2),.int .u8 (shi.1:Int),.int .i64 shi.2.1,.string (bytesT shi.2.2)] 54);have hS3:=Stb.new w2 (⟨srows,snulls,ssome,shigh,slo,shi⟩:Stt);simp only at hS3;have uV:=ae (mV.o.kept aJ);have mU:=ae (eW.o.kept aJ);have s3:(w2.alloc (.cells #[.int .i64 srows,.int .i64 snulls,.bool ssome,.bool shigh,.int .u8 (slo.1:Int),.int .i64 slo.2.1,.string (bytesT slo.2.2),.int .u8 (shi.1:Int),.int .i64 shi.2.1,.string (bytesT shi.2.2)] 54)).heap.size=w2.heap.size+1:=jeB _ _;have nf:=ae hS3;generalize hE:w2.alloc (.cells #[.int .i64 srows,.int .i64 snulls,.bool ssome,.bool shigh,.int .u8 (slo.1:Int),.int .i64 slo.2.1,.string (bytesT slo.2.2),.int .u8 (shi.1:Int),.int .i64 shi.2.1,.string (bytesT shi.2.2)] 54)=E at *;have HEZ:jgt (E.heap.size=w2.heap.size+1):=ae s3;clear iF gx hp Lg Gu vK iy aJ s3 hS3;obtain⟨cy,x0,x1,x2,x3,x4,x5⟩:=uV.o;obtain⟨_,⟨e0,e1,e2,e3⟩,⟨e4,e5,e6⟩,e7,e8,e9⟩:=nf.o.at;simp only[jeU]at e0 e1 e2 e3 e4 e5 e6 e7 e8 e9;obtain⟨⟨p0',p1',p2'⟩,⟨t0',t1',t2'⟩,_⟩:=mU.o.facts;by_cases h5:op=5
   ·subst h5
    go_wp2_with fail;refine bodyPost_ret (v:=.agg #[.bool ssome,.bool false,.bool (decide (0<snulls))]) (by simp[results,results160,go_sem,p0',p1',p2']) rfl ⟨?_,set3 aY.o (jeA _) _ _ _⟩;rw[HA.o];rfl
   ·have n5:((op:Int)==5)=false:=jeF.2 (by omega)
    have HAX:jgt (R=if ssome=true then kD (decide (0<snulls)) op c (⟨srows,snulls,ssome,shigh,slo,shi⟩:Stt) else (false,decide (0<snulls),false)):=ae (by rw[HA.o];unfold nI;rw[jex h5]);clear HA h5;have hfF:=Flg.new E (false,decide (0<snulls),false);have hbF:=aj E (.cells #[.bool false,.bool (decide (0<snulls)),.bool false] 123);simp only at hfF;have sF:(E.alloc (.cells #[.bool false,.bool (decide (0<snulls)),.bool false] 123)).heap.size=E.heap.size+1:=jeB _ _;have RI:=ae hfF;have HNF:=ae (uV.o.kept hbF);have zc:jgt (∀ X,Below (E.alloc (.cells #[.bool false,.bool (decide (0<snulls)),.bool false] 123)).heap.size (E.alloc (.cells #[.bool false,.bool (decide (0<snulls)),.bool false] 123)) X->JD X w2.heap.size 0 (⟨srows,snulls,ssome,shigh,slo,shi⟩:Stt)/\Flg X w.heap.size (false,false,false)/\Flg X E.heap.size (false,decide (0<snulls),false)):=ae (λX h=>⟨(nf.o.at.kept hbF).kept h,(mU.o.kept hbF).kept h,RI.o.kept h⟩);have cL:=ae (ai aY.o hbF);obtain⟨⟨_,⟨g0,g1,g2,g3⟩,⟨g4,g5,g6⟩,g7,g8,g9⟩,hfg,hfh⟩:=zc.o _ (jez _ _);simp only[jeU]at g0 g1 g2 g3 g4 g5 g6 g7 g8 g9;obtain⟨⟨u0,u1,u2⟩,⟨s0,s1,s2'⟩,_⟩:=hfg.facts;obtain⟨⟨v0,v1,v2⟩,⟨q0',q1',q2'⟩,hvz⟩:=hfh.facts;clear hfF hbF sF hfg hfh;have HEW:jgt (w.heap.size<E.heap.size):=ae (by have:=Gw.o;have:=HEZ.o;omega);have dC:¬ E.heap.size=w.heap.size:=by have:=HEW.o;omega
    have sn:¬ w.heap.size=E.heap.size:=by have:=HEW.o;omega
    cases ssome
    ·have HAX':jgt (R=(false,decide (0<snulls),false)):=ae (by rw[HAX.o];rfl)
     go_wp2_with fail;have rZ:∀(X:World) (o:Obj) (i:Nat),w.heap.size<X.heap.size->(X.alloc o).cell? ⟨w.heap.size,i,none⟩=X.cell? ⟨w.heap.size,i,none⟩:=λX o i h=>(aj X o).cell h
     have hew:=HEW.o;have zf:=set3 aY.o (jeA _) (.bool false) (.bool (decide (0<snulls))) (.bool false);refine bodyPost_ret (v:=.agg #[.bool false,.bool (decide (0<snulls)),.bool false]) (by simp[results,results160,go_sem,rZ,hew,p0',p1',p2']) rfl ⟨?_,zf.alloc zf.size _⟩;rw[HAX'.o];rfl
    ·have HAX':jgt (R=kD (decide (0<snulls)) op c ⟨srows,snulls,true,shigh,slo,shi⟩):=ae (by rw[HAX.o];rfl)
     have HC:=ae (λ(U:World) (hU:Below (E.alloc (.cells #[.bool false,.bool (decide (0<snulls)),.bool false] 123)).heap.size (E.alloc (.cells #[.bool false,.bool (decide (0<snulls)),.bool false] 123)) U)=>BP (HNF.o.kept hU) HO.o (decide (0<snulls)) ⟨srows,snulls,true,shigh,slo,shi⟩ HOS.o);simp only at HC;generalize kD (decide (0<snulls)) op c ⟨srows,snulls,true,shigh,slo,shi⟩=WM at *;clear HAX;go_wp2_with fail;refine(HC.o _ (jez _ _)).mono ?_;rintro e w5 ⟨rfl,bQ⟩;obtain⟨_,hfg,hfh⟩:=zc.o _ bQ;have bq:=ae (ai cL.o bQ);clear bQ u0 u1 u2 s0 s1 s2' v0 v1 v2 q0' q1' q2' g0 g1 g2 g3 g4 g5 g6 g7 g8 g9 hE e0 e1 e2 e3 e4 e5 e6 e7 e8 e9 p0' p1' p2' t0' t1' t2' x0 x1 x2 x3 x4 x5 hvz;obtain⟨⟨u0,u1,u2⟩,⟨s0,s1,s2'⟩,_⟩:=hfg.facts;obtain⟨⟨v0,v1,v2⟩,⟨q0',q1',q2'⟩,hvz⟩:=hfh.facts;clear hfg hfh;unfold b3V;go_wp2_with fail;refine bodyPost_ret (v:=.agg #[.bool WM.1,.bool WM.2.1,.bool WM.2.2]) (by simp[results,results160,go_sem,u0,u1,u2,dC,sn]) rfl ⟨?_,set3 (set3 bq.o (by have:=HEW.o;omega) _ _ _) (jeA _) _ _ _⟩;rw[HAX'.o];rfl
  ·have HA:=ae (Gu.o j hp hj)
   obtain⟨_,y0,y1,y2,_,iF⟩:=fZ.o;have hj':(j:Int)>=(r.length:Int):=(by omega);clear hp Lg Gu vK iF;go_wp2_with fail;refine bodyPost_ret (v:=.agg #[.bool true,.bool true,.bool true]) (by simp[results,results160,go_sem,p0,p1,p2]) rfl ⟨?_,set3 aG.o (jeA _) _ _ _⟩;rw[HA.o];rfl
open Go.ChangeShapes Go.WideShapes Go.ChangeAt Go.Joins
def own:ownKnob prog.godebug=none:=by kernel_rfl
def Cq:laidOutB prog=true:=by kernel_rfl
def Qj{W:World}{B:Nat}{a:Addr}{cs:List Value}(h:W.cells? B a 1=some cs):∃ c,cs=[c]/\W.cell? a=some c:=by
 obtain⟨_,hl,hc⟩:=World.cells?_some h;match cs,hl with
 | [c],_=>exact⟨c,rfl,by simpa [Addr.add]using hc 0 (by omega)⟩
def Zr:prog.cellsOf 52=3:=by kernel_rfl
def Kq{H:Type}{enc:TypeId×Value->H}{W:World}{spare:Nat->Bool}{held:Bool}{a:Option Addr}{len cap:Nat}{d:DataW H}{p:List MemPlace}
  (h:DataW.Trod enc prog W 0 spare held 58 (.slice a len cap) d p):∃ l:jgv,Sc W (.slice a len cap) l/\∀ c∈l,Okc c:=by
 obtain⟨fuel,hf⟩:=h;rcases Deep.open_slice underlying58 hf with ⟨h1,_⟩ | ⟨a1,l1,c1,m,n,D,Pl,h1,_,hlc,hm,hmm,_,hcells⟩
 ·simp[Value.cells]at h1
  obtain⟨rfl,rfl,rfl⟩:=h1;exact⟨[],⟨none,0,rfl,jeA _,by unfold maxLen;omega,λh=>by simp at h⟩,λx hx=>by simp at hx⟩
 ·simp[Value.cells]at h1
  obtain⟨rfl,rfl,rfl⟩:=h1;rw[Zr]at hcells;have hlm:len<=m:=by rw[hmm];split<;>omega
  have Lr:∀ i,i<len->∃ x:jgw,Okc x/\W.cell? ((a1.add (i*3)).add 0)=some (.int .u8 (x.1:Int))/\W.cell? ((a1.add (i*3)).add 1)=some (.int .i64 x.2.1)/\W.cell? ((a1.add (i*3)).add 2)=some (txt x.2.2):=by
   intro i hi;obtain⟨cs,hc,ht⟩:=hcells i (by omega);obtain⟨c0,c1,c2,rfl,e0,e1,e2⟩:=Du hc;obtain⟨y0,y1,y2,m1,_,_,t0,t1,t2⟩:=Deep.trod_struct3 underlying52 ht;have k28:prog.cellsOf 50=1:=by kernel_rfl
   have k9:prog.cellsOf 9=1:=by kernel_rfl
   have k2:prog.cellsOf 2=1:=by kernel_rfl
   simp only[k28,k9,k2]at t0 t1 t2;obtain⟨k,q0,_,wk⟩:=DataW.trod_int underlying50 t0;obtain⟨n,q1,_,wn⟩:=DataW.trod_int underlying2 t1;obtain⟨s,q2,_⟩:=DataW.trod_string underlying9 t2;simp at q0 q1 q2
   subst q0 q1 q2;have hk:=bounds_u8 wk;have hn:=bounds_i64 wn;have hI:I64 n:=⟨hn.1,by have:=hn.2;omega⟩;have Gv:((k.toNat:Nat):Int)=k:=(by omega);refine⟨(k.toNat,n,ei s),⟨show k.toNat<256 by omega,hI,wo s⟩,?_,e1,?_⟩
   ·show _=some (Value.int .u8 ((k.toNat:Nat):Int))
    rw[e0,Gv]
   ·rw[e2,gB,nk]
  obtain⟨f,cM⟩:=Deep.choose_lt Lr;have jE:((List.range len).map f).length=len:=by simp
  refine⟨(List.range len).map f,⟨some a1,cap,by rw[jE],by rw[jE];omega,by omega,λh0=>?_⟩,?_⟩
  ·rw[jE]at h0
   obtain⟨b,off,spot⟩:=a1
   have Gz:spot=none:=by
    have:=World.cell?_spot (cM 0 (by omega)).2.1;simpa [Addr.add]using this
   subst Gz
   have hb:b<W.heap.size:=by
    obtain⟨cs,hc,_⟩:=hcells 0 (by omega);have:=World.cells?_block hc (by omega);simpa [Addr.add]using this
   refine⟨b,off,rfl,hb,λj x hj=>?_⟩
   have vG:j<len*3:=by
    have:=(List.getElem?_eq_some_iff.1 hj).1;rw[mq,jE]at this;exact this
   have hi:j / 3<len:=(by omega);have MF:j / 3<((List.range len).map f).length:=by rw[jE];exact hi
   obtain⟨g0,g1,g2⟩:=sO MF;obtain⟨_,k0,k1,k2⟩:=cM (j / 3) hi;rw[kP,kP]at k0 k1 k2;have fR:((List.range len).map f)[j / 3]=f (j / 3):=by simp
   rw[fR]at g0 g1 g2;obtain h | h | h:j=j / 3*3∨j=j / 3*3+1∨j=j / 3*3+2:=by omega
   ·rw[h]at hj ⊢
    rw[g0]at hj;rw[<- hj,<- k0];rfl
   ·rw[h]at hj ⊢
    rw[g1]at hj;rw[<- hj,<- k1];rfl
   ·rw[h]at hj ⊢
    rw[g2]at hj;rw[<- hj,<- k2];rfl
  ·intro x hx
   obtain⟨i,hi,rfl⟩:=jeN.1 hx;exact(cM i (by simpa using hi)).1
def Zs:prog.cellsOf 81=4:=by kernel_rfl
def Zt:prog.cellsOf 25=2:=by kernel_rfl
def Kr{W:World}{base:Nat}{a:Addr}{cs:List Value}(h:W.cells? base a 4=some cs):∃ c0 c1 c2 c3,cs=[c0,c1,c2,c3]/\W.cell? (a.add 0)=some c0/\W.cell? (a.add 1)=some c1/\W.cell? (a.add 2)=some c2/\W.cell? (a.add 3)=some c3:=by
 obtain⟨_,hl,hc⟩:=World.cells?_some h;match cs,hl with
 | [c0,c1,c2,c3],_=>exact⟨c0,c1,c2,c3,rfl,by simpa using hc 0 (by omega),by simpa using hc 1 (by omega),by simpa using hc 2 (by omega),by simpa using hc 3 (by omega)⟩
def FB{H:Type}{enc:TypeId×Value->H}{W:World}{spare:Nat->Bool}{held:Bool}{fuel:Nat}{v:Value}{y:DataW H×List MemPlace}
  (hf:DataW.trod enc prog W 0 spare held fuel 23 [v]=some y):∃ l:List Fd,Sf W v l/\∀ f∈l,Okf f:=by
 rcases Deep.open_slice underlying23 hf with ⟨h1,_⟩ | ⟨a1,len,cap,m,n,D,Pl,h1,_,hlc,hm,hmm,_,hcells⟩
 ·simp at h1
  subst h1;exact⟨[],Sf.nil _,λx hx=>by simp at hx⟩
 ·simp at h1
  subst h1;rw[Zs]at hcells;have hlm:len<=m:=by rw[hmm];split<;>omega
  have Lr:∀ i,i<len->∃ x:Fd,Okf x/\W.cell? ((a1.add (i*4)).add 0)=some (.int .u32 (x.1:Int))/\W.cell? ((a1.add (i*4)).add 1)=some (.string x.2.1)/\W.cell? ((a1.add (i*4)).add 2)=some (.int .u8 (x.2.2.1:Int))/\W.cell? ((a1.add (i*4)).add 3)=some (.bool x.2.2.2):=by
   intro i hi;obtain⟨cs,hc,ht⟩:=hcells i (by omega);obtain⟨c0,c1,c2,c3,rfl,e0,e1,e2,e3⟩:=Kr hc;obtain⟨y0,y1,y2,y3,m1,_,_,t0,t1,t2,t3⟩:=trod_struct4 underlying81 ht;have k22:prog.cellsOf 22=1:=by kernel_rfl
   have k9:prog.cellsOf 9=1:=by kernel_rfl
   have k31:prog.cellsOf 50=1:=by kernel_rfl
   have k4:prog.cellsOf 4=1:=by kernel_rfl
   simp only[k22,k9,k31,k4]at t0 t1 t2 t3;obtain⟨k,q0,_,wk⟩:=DataW.trod_int underlying22 t0;obtain⟨s,q1,_⟩:=DataW.trod_string underlying9 t1;obtain⟨n,q2,_,wn⟩:=DataW.trod_int underlying50 t2;obtain⟨bo,q3,_⟩:=DataW.trod_bool underlying4 t3;simp at q0 q1 q2 q3
   subst q0 q1 q2 q3;have hk:=bounds_u32 wk;have hn:=bounds_u8 wn;have Gv:((k.toNat:Nat):Int)=k:=(by omega);have dC:((n.toNat:Nat):Int)=n:=(by omega);refine⟨(k.toNat,s,n.toNat,bo),⟨show k.toNat<4294967296 by omega,show n.toNat<256 by omega⟩,?_,e1,?_,e3⟩
   ·show _=some (Value.int .u32 ((k.toNat:Nat):Int))
    rw[e0,Gv]
   ·show _=some (Value.int .u8 ((n.toNat:Nat):Int))
    rw[e2,dC]
  obtain⟨f,cM⟩:=Deep.choose_lt Lr;have jE:((List.range len).map f).length=len:=by simp
  refine⟨(List.range len).map f,⟨some a1,cap,by rw[jE],by rw[jE];omega,by omega,λh=>by(cases h),λh0=>?_⟩,?_⟩
  ·rw[jE]at h0
   obtain⟨b,off,spot⟩:=a1
   have Gz:spot=none:=by
    have:=World.cell?_spot (cM 0 (by omega)).2.1;simpa [Addr.add]using this
   subst Gz
   have hb:b<W.heap.size:=by
    obtain⟨cs,hc,_⟩:=hcells 0 (by omega);have:=World.cells?_block hc (by omega);simpa [Addr.add]using this
   refine⟨b,off,rfl,hb,λj x hj=>?_⟩
   have vG:j<len*4:=by
    have:=(List.getElem?_eq_some_iff.1 hj).1;rw[jS,jE]at this;exact this
   have hi:j / 4<len:=(by omega);have MF:j / 4<((List.range len).map f).length:=by rw[jE];exact hi
   obtain⟨g0,g1,g2,g3⟩:=te MF;obtain⟨_,k0,k1,k2,k3⟩:=cM (j / 4) hi;rw[kP,kP]at k0 k1 k2 k3;have fR:((List.range len).map f)[j / 4]=f (j / 4):=by simp
   rw[fR]at g0 g1 g2 g3;obtain h | h | h | h:j=j / 4*4∨j=j / 4*4+1∨j=j / 4*4+2∨j=j / 4*4+3:=by omega
   ·rw[h]at hj ⊢
    rw[g0]at hj;rw[<- hj,<- k0];rfl
   ·rw[h]at hj ⊢
    rw[g1]at hj;rw[<- hj,<- k1];rfl
   ·rw[h]at hj ⊢
    rw[g2]at hj;rw[<- hj,<- k2];rfl
   ·rw[h]at hj ⊢
    rw[g3]at hj;rw[<- hj,<- k3];rfl
  ·intro x hx
   obtain⟨i,hi,rfl⟩:=jeN.1 hx;exact(cM i (by simpa using hi)).1
def FC{H:Type}{enc:TypeId×Value->H}{W:World}{r:Reach}{b0:Nat}{spare:Nat->Bool}{held:Bool}{v:Value}{d:DataW H}{p:List MemPlace}
  (hv:Value.okWide prog W r b0 25 v) (h:DataW.Trod enc prog W 0 spare held 25 v d p) :
  ∃(id:Nat) (u:Value) (l:List Fd),v=.agg #[.int .u32 (id:Int),u]/\id<4294967296/\Sf W u l/\∀ f∈l,Okf f:=by
 obtain⟨c0,c1,y0,y1,m,rfl,_,_,h0,h1⟩:=open_agg2 underlying25 (by kernel_rfl) Zt hv h;obtain⟨k,e0,_,wk⟩:=DataW.trod_int underlying22 h0;simp at e0
 subst e0;have hk:=bounds_u32 wk;obtain⟨l,hl,ho⟩:=FB h1;obtain⟨n,rfl⟩:=jf8 hk.1;exact⟨n,c1,l,rfl,by omega,hl,ho⟩
def Ml:prog.cellsOf 63=6:=by kernel_rfl
def Aw{W:World}{base:Nat}{a:Addr}{cs:List Value}{n:Nat}(h:W.cells? base a n=some cs)(hn:0<n):cs.length=n/\(∀ j,j<n->W.cell? (a.add j)=cs[j]?)/\a.block<W.heap.size/\a.spot=none:=by
 have hb:=World.cells?_block h hn;obtain⟨_,hl,hc⟩:=World.cells?_some h;refine⟨hl,λj hj=>hc j hj,hb,?_⟩;have h0:=hc 0 hn;rw[List.getElem?_eq_getElem (by omega)]at h0;have:=World.cell?_spot h0;obtain⟨b,off,spot⟩:=a;simpa [Addr.add]using this
def Ks{H:Type}{enc:TypeId×Value->H}{W:World}{spare:Nat->Bool}{held:Bool}{fuel:Nat}{c0 c1 c2:Value}{y:DataW H×List MemPlace}
  (hf:DataW.trod enc prog W 0 spare held fuel 52 [c0,c1,c2]=some y):∃ x:Cl,Okc x/\c0=.int .u8 (x.1:Int)/\c1=.int .i64 x.2.1/\c2=.string (bytesT x.2.2):=by
 obtain⟨y0,y1,y2,m1,_,_,t0,t1,t2⟩:=Deep.trod_struct3 underlying52 hf;have k28:prog.cellsOf 50=1:=by kernel_rfl
 have k9:prog.cellsOf 9=1:=by kernel_rfl
 have k2:prog.cellsOf 2=1:=by kernel_rfl
 simp only[k28,k9,k2]at t0 t1 t2;obtain⟨k,q0,_,wk⟩:=DataW.trod_int underlying50 t0;obtain⟨n,q1,_,wn⟩:=DataW.trod_int underlying2 t1;obtain⟨s,q2,_⟩:=DataW.trod_string underlying9 t2;simp at q0 q1 q2
 subst q0 q1 q2;have hk:=bounds_u8 wk;have hn:=bounds_i64 wn;have hI:I64 n:=⟨hn.1,by have:=hn.2;omega⟩;have Gv:((k.toNat:Nat):Int)=k:=by omega
 refine⟨(k.toNat,n,ei s),⟨show k.toNat<256 by omega,hI,wo s⟩,?_,rfl,?_⟩
 ·show _=(Value.int .u8 ((k.toNat:Nat):Int))
  rw[Gv]
 ·rw[nk]
def KidsAt.of{W:World}:∀{ks:List PT} {g o:Nat},(∀ i (h:i<ks.length),ew W g (o+i*6) ks[i])->KidsAt W g o ks
 | [],g,o,_=>by simp[KidsAt]
 | k::ks,g,o,h=>by
  simp only[KidsAt];have h00:=h 0 (by simp);rw[Nat.zero_mul,jfk]at h00;refine⟨h00,KidsAt.of λi hi=>?_⟩;have:=h (i+1) (by simpa using hi);rw[show o+6+i*6=o+(i+1)*6 by omega];simpa using this
def Qk{H:Type}{enc:TypeId×Value->H}{W:World}{spare:Nat->Bool}{held:Bool}:∀(fuel:Nat) (cs:List Value) (y:DataW H×List MemPlace),DataW.trod enc prog W 0 spare held fuel 63 cs=some y ->
  ∃(op f:Nat) (c:Cl) (ks:List PT) (kv:Value),cs=[.int .u8 (op:Int),.int .u32 (f:Int),.int .u8 (c.1:Int),.int .i64 c.2.1,.string (bytesT c.2.2),kv]/\eF W kv ks/\Okp (.node op f c ks):=by
 intro fuel;induction fuel using Nat.strongRecOn with
 | _ fuel ih =>
  intro cs y h;obtain⟨xs,n,yd,_,hl,Xy,hfs⟩:=DataW.trod_struct underlying63 h;rw[Ml]at hl
  obtain⟨c0,c1,c2,c3,c4,c5,rfl⟩:∃ c0 c1 c2 c3 c4 c5,cs=[c0,c1,c2,c3,c4,c5]:=by
   match cs,hl with
   | [c0,c1,c2,c3,c4,c5],_=>exact⟨c0,c1,c2,c3,c4,c5,rfl⟩
  have hx:xs.length=4:=by simpa using Xy
  obtain⟨y0,y1,y2,y3,rfl⟩:∃ y0 y1 y2 y3,xs=[y0,y1,y2,y3]:=by
   match xs,hx with
   | [y0,y1,y2,y3],_=>exact⟨y0,y1,y2,y3,rfl⟩
  have k5:prog.cellsOf 5=1:=by kernel_rfl
  have k36:prog.cellsOf 22=1:=by kernel_rfl
  have k27:prog.cellsOf 52=3:=by kernel_rfl
  have k37:prog.cellsOf 61=1:=by kernel_rfl
  have t0:=hfs 0 _ rfl;change DataW.trod enc prog W 0 spare held n 5 (([c0,c1,c2,c3,c4,c5].drop 0).take (prog.cellsOf 5))=some y0 at t0
  rw[k5]at t0;change DataW.trod enc prog W 0 spare held n 5 [c0]=some y0 at t0
  have t1:=hfs 1 _ rfl;change DataW.trod enc prog W 0 spare held n 22 (([c0,c1,c2,c3,c4,c5].drop 1).take (prog.cellsOf 22))=some y1 at t1
  rw[k36]at t1;change DataW.trod enc prog W 0 spare held n 22 [c1]=some y1 at t1
  have t2:=hfs 2 _ rfl;change DataW.trod enc prog W 0 spare held n 52 (([c0,c1,c2,c3,c4,c5].drop 2).take (prog.cellsOf 52))=some y2 at t2
  rw[k27]at t2;change DataW.trod enc prog W 0 spare held n 52 [c2,c3,c4]=some y2 at t2
  have t3:=hfs 3 _ rfl;change DataW.trod enc prog W 0 spare held n 61 (([c0,c1,c2,c3,c4,c5].drop 5).take (prog.cellsOf 61))=some y3 at t3
  rw[k37]at t3;change DataW.trod enc prog W 0 spare held n 61 [c5]=some y3 at t3
  obtain⟨op,q0,_,wop⟩:=DataW.trod_int underlying5 t0;obtain⟨f,q1,_,wf⟩:=DataW.trod_int underlying22 t1;simp at q0 q1
  subst q0 q1;have qo:=bounds_u8 wop;have hf:=bounds_u32 wf;obtain⟨c,mJ,rfl,rfl,rfl⟩:=Ks t2;obtain⟨on,rfl⟩:=jf8 qo.1;obtain⟨fn,rfl⟩:=jf8 hf.1;rcases DataW.trod_slice underlying61 t3 with ⟨h1,_⟩ | ⟨a,len,cap,elems,rest,n',hnn,h1,_,_,hlc,bx,hel,hcells,_,_⟩
  ·simp at h1
   subst h1;refine⟨on,fn,c,[],_,rfl,eF.nil _,?_⟩;simp only[Okp,OkpAll];exact⟨by omega,by omega,mJ,trivial⟩
  ·simp at h1
   subst h1;rw[Ml]at hcells;by_cases h0:len=0
   ·subst h0
    refine⟨on,fn,c,[],_,rfl,⟨some a,cap,rfl,by simp,bx,λh=>by simp at h⟩,?_⟩;simp only[Okp,OkpAll];exact⟨by omega,by omega,mJ,trivial⟩
   ·have hsp0:a.spot=none:=by
     have hci:=hcells 0 (by omega);rw[List.getElem?_eq_getElem (by omega)]at hci;obtain⟨cs',CZ,_⟩:=jge.1 hci;have:=(Aw CZ (by omega)).2.2.2;simpa [Addr.add]using this
    obtain⟨b,off,spot⟩:=a;simp only at hsp0;subst hsp0
    have Lr:∀ i,i<len->∃ k:PT,Okp k/\ew W b (off+i*6) k:=by
     intro i hi;have hci:=hcells i hi;rw[List.getElem?_eq_getElem (by omega)]at hci;obtain⟨cs',CZ,htr⟩:=jge.1 hci;obtain⟨op',f',c',ks',kv',rfl,hk',ho'⟩:=ih n' (by omega) cs' _ htr;obtain⟨_,hcc,sd,_⟩:=Aw CZ (by omega);rw[kP]at sd
     have hk:∀ j,j<6->W.cell? ⟨b,off+i*6+j,none⟩=[Value.int .u8 (op':Int),.int .u32 (f':Int),.int .u8 (c'.1:Int),.int .i64 c'.2.1,.string (bytesT c'.2.2),kv'][j]?:=λj hj=>by
      have:=hcc j hj;rwa[kP,kP]at this
     exact⟨.node op' f' c' ks',ho',ew.shut ⟨sd,hk 0 (by omega),hk 1 (by omega),hk 2 (by omega),hk 3 (by omega),hk 4 (by omega),hk 5 (by omega)⟩ hk'⟩
    haveI:Inhabited PT:=⟨.node 0 0 nul []⟩
    obtain⟨g,hg⟩:=Deep.choose_lt Lr;have jE:((List.range len).map g).length=len:=by simp
    refine⟨on,fn,c,(List.range len).map g,_,rfl,⟨some ⟨b,off,none⟩,cap,by rw[jE],by rw[jE];omega,bx,λ_=>⟨b,off,rfl,KidsAt.of λi hi=>?_⟩⟩,?_⟩
    ·have MF:i<len:=by rwa[jE]at hi
     have:=(hg i MF).2;simpa using this
    ·simp only[Okp]
     refine⟨by omega,by omega,mJ,OkpAll.of λk hk=>?_⟩;obtain⟨i,hi,rfl⟩:=jeN.1 hk;exact(hg i (by simpa using hi)).1
def Kt{H:Type}{enc:TypeId×Value->H}{W:World}{r:Reach}{b0:Nat}{spare:Nat->Bool}{held:Bool}{v:Value}{d:DataW H}{p:List MemPlace}
  (hv:Value.okWide prog W r b0 63 v) (h:DataW.Trod enc prog W 0 spare held 63 v d p) :
  ∃(op f:Nat) (c:Cl) (ks:List PT) (kv:Value),v=.agg #[.int .u8 (op:Int),.int .u32 (f:Int),.int .u8 (c.1:Int),.int .i64 c.2.1,.string (bytesT c.2.2),kv]/\eF W kv ks/\Okp (.node op f c ks):=by
 obtain⟨cs,rfl,lA⟩:=okWide_struct underlying63 hv;obtain⟨fuel,hf⟩:=h;have hf':DataW.trod enc prog W 0 spare held fuel 63 cs.toList=some (d,p):=hf;obtain⟨op,f,c,ks,kv,CZ,hk,ho⟩:=Qk fuel _ _ hf';refine⟨op,f,c,ks,kv,?_,hk,ho⟩;congr 1
 exact Array.toList_inj.1 CZ
def Ku:(prog.info? 58).map (λi=>(i.zero,i.size,i.bytes))=some (some (.slice none 0 0),1,24):=by kernel_rfl
def Vp:(prog.info? 54).map (λi=>(i.zero,i.size,i.bytes))=some (some (.agg #[.int .i64 0,.int .i64 0,.bool false,.bool false,.int .u8 0,.int .i64 0,.string ⟨#[]⟩,.int .u8 0,.int .i64 0,.string ⟨#[]⟩]),10,88):=by kernel_rfl
def Sr(W:World)(v:Value)(rs:List (List Cl)):Prop :=
 ∃ a cap,v=.slice a rs.length cap/\rs.length<=cap/\cap<=maxLen/\(0<rs.length->∃ b off,a=some ⟨b,off,none⟩/\b<W.heap.size/\∀ j (h:j<rs.length),∃ rv,W.cell? ⟨b,off+j,none⟩=some rv/\Sc W rv rs[j])
def Sr.kept{W W':World}{v:Value}{rs:List (List Cl)}(h:Sr W v rs)(hb:jgu W W'):Sr W' v rs:=by
 obtain⟨a,cap,h1,h2,h3,h4⟩:=h;refine⟨a,cap,h1,h2,h3,λh0=>?_⟩;obtain⟨b,off,h5,h6,h7⟩:=h4 h0;refine⟨b,off,h5,jeY h6 hb.size,λj hj=>?_⟩;obtain⟨rv,h8,h9⟩:=h7 j hj;exact⟨rv,(hb.cell (p:=⟨b,off+j,none⟩) h6).trans h8,h9.kept hb⟩
def Sr.form{W:World}{v:Value}{rs:List (List Cl)}(h:Sr W v rs):∃ a cap,v=.slice a rs.length cap/\rs.length<=cap/\cap<=maxLen:=by
 obtain⟨a,cap,h1,h2,h3,_⟩:=h;exact⟨a,cap,h1,h2,h3⟩
def Sr.at{W:World}{a:Option Addr}{n cap:Nat}{rs:List (List Cl)}(h:Sr W (.slice a n cap) rs){k:Nat}(hk:k<rs.length) :
  ∃ b off rv,a=some ⟨b,off,none⟩/\b<W.heap.size/\W.cell? ⟨b,off+k,none⟩=some rv/\Sc W rv rs[k]:=by
 obtain⟨a',cap',e,h1,h2,h4⟩:=h;simp only[Value.slice.injEq]at e;obtain⟨rfl,_,_⟩:=e;obtain⟨b,off,rfl,h5,h6⟩:=h4 (by omega);obtain⟨rv,h7,h8⟩:=h6 k hk;exact⟨b,off,rv,rfl,h5,h7,h8⟩
def Ql{H:Type}{enc:TypeId×Value->H}{W:World}{spare:Nat->Bool}{held:Bool}{a:Option Addr}{len cap:Nat}{d:DataW H}{p:List MemPlace}
  (h:DataW.Trod enc prog W 0 spare held 26 (.slice a len cap) d p):∃ l:List (List Cl),Sr W (.slice a len cap) l/\∀ x∈l,∀ c∈x,Okc c:=by
 obtain⟨fuel,hf⟩:=h;rcases Deep.open_slice underlying26 hf with ⟨h1,_⟩ | ⟨a1,l1,c1,m,n,D,Pl,h1,_,hlc,hm,hmm,_,hcells⟩
 ·simp[Value.cells]at h1
  obtain⟨rfl,rfl,rfl⟩:=h1;exact⟨[],⟨none,0,rfl,jeA _,by unfold maxLen;omega,λh=>by simp at h⟩,λx hx=>by simp at hx⟩
 ·simp[Value.cells]at h1
  obtain⟨rfl,rfl,rfl⟩:=h1;have cells58:prog.cellsOf 58=1:=by kernel_rfl
  rw[cells58]at hcells;have hlm:len<=m:=by rw[hmm];split<;>omega
  have Lr:∀ i,i<len->∃ x:List Cl,(∀ c∈x,Okc c)/\∃ rv,W.cell? (a1.add i)=some rv/\Sc W rv x:=by
   intro i hi;obtain⟨cs,hc,ht⟩:=hcells i (by omega);rw[Nat.mul_one]at hc;obtain⟨c0,rfl,e0⟩:=Qj hc;rcases DataW.trod_slice underlying58 ht with ⟨h1,_⟩ | ⟨a',len',cap',elems,rest,n',hnn,h1,_⟩
   ·simp at h1
    subst h1;exact⟨[],λc hc=>by simp at hc,_,e0,none,0,rfl,jeA _,by unfold maxLen;omega,λh=>by simp at h⟩
   ·simp at h1
    subst h1;obtain⟨x,hx,hox⟩:=Kq (d:=_) (p:=_) ⟨_,ht⟩;exact⟨x,hox,_,e0,hx⟩
  obtain⟨f,cM⟩:=Deep.choose_lt Lr;have jE:((List.range len).map f).length=len:=by simp
  refine⟨(List.range len).map f,⟨some a1,cap,by rw[jE],by rw[jE];omega,by omega,λh0=>?_⟩,?_⟩
  ·rw[jE]at h0
   obtain⟨b,off,spot⟩:=a1
   have Gz:spot=none:=by
    obtain⟨_,rv,h1,_⟩:=cM 0 (by omega);have:=World.cell?_spot h1;simpa [Addr.add]using this
   subst Gz
   have hb:b<W.heap.size:=by
    obtain⟨cs,hc,_⟩:=hcells 0 (by omega);have:=World.cells?_block hc (by omega);simpa [Addr.add]using this
   refine⟨b,off,rfl,hb,λj hj=>?_⟩;have hj2:j<len:=by rwa[jE]at hj
   obtain⟨_,rv,h1,h2⟩:=cM j hj2;rw[kP]at h1;exact⟨rv,h1,by simpa using h2⟩
  ·intro x hx
   obtain⟨i,hi,rfl⟩:=jeN.1 hx;exact(cM i (by simpa using hi)).1
def tE{W:World}{B B' e size n:Nat}{v:Value}{xs:List Value}(h:W.ownsRow B e size v n xs)(hb:B'<=B):W.ownsRow B' e size v n xs:=by
 rcases h with ⟨h0,h1 | ⟨g,cap,cur,rfl,h2,h3⟩⟩
 ·exact⟨h0,.inl h1⟩
 ·exact⟨h0,.inr ⟨g,cap,cur,rfl,jeK hb h2,h3⟩⟩
def kK(l:List Stt):List Value:=l.flatMap celS
def Cr(a b:List Stt):kK (a++b)=kK a++kK b:=jfH
def rT:∀ l:List Stt,(kK l).length=l.length*10
 | []=>rfl
 | c::t=>by
  show (celS c++kK t).length=_
  rw[jeC,rT t,jeI];simp[celS]
  omega
def Ax:∀{l:List Stt} {j:Nat} (h:j<l.length) {i:Nat} (hi:i<10),(kK l)[j*10+i]?=(celS l[j])[i]?
 | c::t,0,h,i,hi=>by
  show (celS c++kK t)[0*10+i]?=_
  rw[List.getElem?_append_left (by simp[celS];omega)];simp
 | c::t,j+1,h,i,hi=>by
  have ih:=Ax (l:=t) (j:=j) (by simpa using h) hi;show (celS c++kK t)[(j+1)*10+i]?=_
  rw[List.getElem?_append_right (by simp[celS];omega)];simp only[celS,jeI,jeZ];rw[show (j+1)*10+i-(0+1+1+1+1+1+1+1+1+1+1)=j*10+i by omega,ih];rfl
def tF(W:World)(B:Nat)(v:Value)(l:List Stt):Prop:=W.ownsRow B 54 10 v l.length (kK l)
def tF.nil(W:World)(B:Nat):tF W B (.slice none 0 0) []:=jfh _ _ _ _
def tF.kept{w w':World}{B:Nat}{v:Value}{l:List Stt}(h:tF w B v l)(hb:jgu w w'):tF w' B v l:=bv h hb
def tF.ss{W:World}{B:Nat}{v:Value}{l:List Stt}(h:tF W B v l):Ss W v l:=by
 rcases h with ⟨h0,⟨rfl,h1⟩ | ⟨g,cap,cur,rfl,h2,h3,h4,h5,h6,h7⟩⟩
 ·refine⟨none,0,by rw[h1],by omega,by unfold maxLen;omega,λh=>by omega⟩
 ·refine⟨_,cap,rfl,h4,h5,λ_=>⟨g,0,rfl,λj hj=>?_⟩⟩
  have hc:∀ i,i<10->W.cell? ⟨g,0+j*10+i,none⟩=(celS l[j])[i]?:=λi hi=>by
   rw[jeU,<- Ax hj hi];have ar:j*10+i<(kK l).length:=by rw[rT];omega
   obtain⟨x,hx⟩:∃ x,(kK l)[j*10+i]?=some x:=⟨_,List.getElem?_eq_getElem ar⟩;rw[hx];simp only[World.cell?,h3];have hj2:(kK l)[j*10+i]?=some x:=by rw[hx]
   rw[<- h7]at hj2;have jt:=(List.getElem?_eq_some_iff.1 hj2).1;rw[jeH]at jt;rw[List.getElem?_take_of_lt (by omega)]at hj2;simpa using hj2
  exact⟨(Array.getElem?_eq_some_iff.1 h3).1,⟨hc 0 (by omega),hc 1 (by omega),hc 2 (by omega),hc 3 (by omega)⟩,⟨hc 4 (by omega),hc 5 (by omega),hc 6 (by omega)⟩,hc 7 (by omega),hc 8 (by omega),hc 9 (by omega)⟩
def vB{w:World}{ops:Array Oper}{rest:List Oper}{o:Oper}{a:Act}{Q:Exit->Act->World->Prop}(ef:o.guard=none)(s x:Operand)
  (ho:o.op=.call { callee:=.builtin .append,args:=#[s,x],argTypes:=#[107,107] })
  (base:Nat) (v:Value) (g:Nat) (z:Stt) (l0:List Stt) (hs:a.eval s=v) (ax:tF w base v l0) (hx:a.eval x=.slice (some ⟨g,0,none⟩) 1 1)
  (hc:Stb w g z) (hbytes:l0.length<=100000) (aF:base<=w.heap.size)
  (h:∀ v' w',tF w' base v' (l0++[z])->Below base w w'->wpList prog ops Q rest (a.put o.dst v') w') :
  wpList prog ops Q (o::rest) a w:=by
 obtain⟨i0,hi,bR,hz1',aX⟩:=jeT Vp;unfold tF at *
 refine jfw (w:=w) ef s x 107 ho base 54 i0 (.agg #[.int .i64 0,.int .i64 0,.bool false,.bool false,.int .u8 0,.int .i64 0,.string ⟨#[]⟩,.int .u8 0,.int .i64 0,.string ⟨#[]⟩]) 10 88 underlying107 hi bR hz1' aX rfl (by decide) v l0.length (kK l0) hs ax ⟨g,0,none⟩ 1 1 (celS z) hx rfl ?_ (λu hu=>by
  unfold celS at hu;simp only[jeL,jgc,or_false]at hu;rcases hu with rfl | rfl | rfl | rfl | rfl | rfl | rfl | rfl | rfl | rfl<;>rfl) (by unfold maxLen;omega) (by omega) aF ?_
 ·intro j u hu
  rw[oP];unfold Stb at hc;rw[an hc];unfold celS at hu;simpa using hu
 ·intro v' w' o1 g1 _ _
  refine h v' w' ?_ ((jez base w).grown g1 aF (λk hk=>(ax.lt k hk).1));rw[Cr,jeC];have:kK [z]=celS z:=by simp[kK]
  rw[this];exact o1
end Go.Proofs.YtpljdjmpamjkhaaGreatDoor
