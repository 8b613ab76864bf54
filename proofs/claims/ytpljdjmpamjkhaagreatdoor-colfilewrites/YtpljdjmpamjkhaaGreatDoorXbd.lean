import Derived.Test.YtpljdjmpamjkhaaGreatDoorXbc
import Derived.Lib.SmallJoins
set_option linter.unusedVariables false
set_option linter.unusedSimpArgs false
set_option maxRecDepth 100000
set_option maxHeartbeats 4000000
namespace Go.Proofs.YtpljdjmpamjkhaaGreatDoor
open Go.RowKit Go.Lib
theorem EI:∀(a:List Nat) (x:Nat),leN (a++[x])=leN a+x*2 ^ (8*a.length)
 | [],x=>by simp[leN]
 | y::a,x=>by
  have h:=EI a x
  have e:2 ^ (8*(y::a).length)=256*2 ^ (8*a.length):=by
   rw[jdD,jeE,jex,jd4]
  show y+256*leN (a++[x])=(y+256*leN a)+_
  rw[h,e,jeE,Nat.mul_left_comm x 256];omega
theorem join8{n c k:Nat}(hk:k<=3)(hn:n<2 ^ (8*k))(hc:c<256):bits .or .u64 (n:Int) (IntKind.u64.wrap ((c:Int)*2 ^ (8*k)))=((n+c*2 ^ (8*k):Nat):Int):=by
 have h1:2 ^ (8*k)<=2 ^ 24:=jeL (by omega) (by omega);have h2:c*2 ^ (8*k)<=255*2 ^ 24:=je2 (by omega) h1;have e:(c:Int)*2 ^ (8*k)=((c*2 ^ (8*k):Nat):Int):=by simp
 rw[e,wraps_u64 _ (by omega) (by omega)]
 have e2:bits .or .u64 (n:Int) ((c*2 ^ (8*k):Nat):Int)=(n:Int)+((c*2 ^ (8*k):Nat):Int):=by
  apply bits_join_low .u64 64 (by decide) wraps_u64 (8*k)
  ·omega
  ·have:(n:Int)<((2 ^ (8*k):Nat):Int):=by omega
   simpa using this
  ·omega
  ·omega
  ·simp
  ·omega
 rw[e2];omega
theorem Bx{w:World}{v:Value}{l:List Nat}(hs:Sv w v (aF .u8 l))(h8:Bs l)(hl:l.length<=4) :
  Calls Tryz.prog 138 #[v] w fun e w'=>e=.returned (.int .u64 ((leN l:Nat):Int))/\w'=w:=by
 have HS:=ae hs;obtain⟨a,cap,rfl,lp,jT⟩:=hs.form1;simp only[ar]at *;have H8:=ae h8;clear hs h8;go_enter Tryz.func138,Tryz.ntmps138
 go_wp2_with fail;go_loopw [3,8] (fun n i w'=>w'=w/\∃ k:Nat,k<=l.length/\i=.int .i64 (k:Int)/\n=.int .u64 ((leN (l.take k):Nat):Int)) (fun _ i _=>l.length-(intOf i).toNat)
 case atStart=>exact⟨rfl,0,by omega,rfl,rfl⟩
 case round =>
  obtain⟨rfl,k,hk,rfl,rfl⟩:=hrel;by_cases aB:k<l.length
  ·obtain⟨b,off,rfl,hb,ek⟩:=HS.o.at1 (bU aB)
   have hlt':(k:Int)<(l.length:Int):=(by omega);have pB:=Jb (b:=l.take k) (fun x hx=>H8.o x (jek hx));rw[jdC,jew (by omega)]at pB;have eQ:=H8.o _ (jdA aB);have hj:=join8 (show k<=3 by omega) pB eQ
   have tw:jfp (leN (l.take (k+1))=leN (l.take k)+l[k]*2 ^ (8*k)):=ae (by
    rw[jdM aB,EI,jdC,jew (by omega)])
   have h9:IntKind.i64.wrap (8*(k:Int))=8*(k:Int):=by rw[jd7];omega
   have no:(8*(k:Int)).toNat=8*k:=(by omega);have h11:IntKind.u64.wrap ((l[k]:Nat):Int)=((l[k]:Nat):Int):=by rw[jd0];omega
   generalize l[k]=c at *;generalize leN (l.take k)=n at *;go_wp2_with fail;go_roundw
   case rel=>exact⟨trivial,k+1,by omega,by go_num,by rw[tw.o];simp⟩
   case measure=>simp[intOf];omega
  ·obtain rfl:k=l.length:=by omega
   have gj:¬ ((l.length:Nat):Int)<(l.length:Int):=(by omega);go_wp2_with fail;go_ret
   exact⟨rfl,rfl⟩
def spl(b:List Nat):Option (List Nat×List Nat) :=
 if b.length<4 then none else if b.length-4<leN (b.drop (b.length-4)) then none
 else some (b.take (b.length-4-leN (b.drop (b.length-4))),(b.take (b.length-4)).drop (b.length-4-leN (b.drop (b.length-4))))
def nX(p:Nat)(v:Value):Prop:=∀ i,v.ownBlock=some i->i<p
theorem NX{w:World}{v:Value}{b:List Nat}(hs:Sv w v (aF .u8 b))(h8:Bs b)(hl:b.length<=100000000)(hw:nX w.heap.size v) :
  Calls Tryz.prog 95 #[v] w fun e w'=>(∃ v1 v2,e=.returned (.tuple #[v1,v2,.bool (spl b).isSome])/\(∀ x y,spl b=some (x,y)->Sv w' v1 (aF .u8 x)/\Sv w' v2 (aF .u8 y)/\nX w.heap.size v1/\nX w.heap.size v2))/\Below w.heap.size w w':=by
 have HS:=ae hs;obtain⟨a',cap,e,lp,jT,hn,hx⟩:=hs;simp only[ar]at *;subst e;have hc2':cap<=9223372036854775807:=by unfold maxLen at jT;omega
 have py:b.length<=9223372036854775807:=by omega
 by_cases h4:b.length<4
 ·have HP:jfp (spl b=none):=ae (jdu h4)
  have aB:(b.length:Int)-4<0:=by omega
  clear h8;go_enter Tryz.func95,Tryz.ntmps95
  go_wp2_with fail;go_ret3
  rw[HP.o];exact⟨⟨_,_,rfl,fun x y h=>by cases h⟩,jdv _ _⟩
 ·obtain⟨n,qt⟩:∃ n,b.length=n+4:=⟨b.length-4,by omega⟩
  have hD:=HS.o.dropG (k:=n) (by rw[ar];omega);rw[kI,ar,qt]at hD;obtain⟨A,hA⟩:∃ A,(if cap=n then a' else a'.map fun x=>x.add n)=A:=⟨_,rfl⟩;rw[hA,show n+4-n=4 by omega]at hD
  have hln:leN (b.drop n)<4294967296:=by
   have:=Jb (b:=b.drop n) (fun x hx=>h8 x (jfb hx));rw[jd3,qt,show n+4-n=4 by omega]at this;simpa using this
  have HNU:=ae (Bx hD (h8.drop n) (by rw[jd3,qt];omega))
  have HP:jfp (spl b=if n<leN (b.drop n) then none else some (b.take (n-leN (b.drop n)),(b.take n).drop (n-leN (b.drop n)))):=ae (by
   unfold spl;rw[jdt h4,show b.length-4=n by omega])
  have pB:(b.length:Int)-4=(n:Int):=by omega
  have qq:¬ (n:Int)<0:=by omega
  have Yl:(n:Int)<=(cap:Int):=by omega
  have LH:(n:Int)<=(b.length:Int):=by omega
  have HAA:=ae hA;have Cs:=ae qt;rw[qt]at lp hw ⊢;clear qt;have hle':((n+4:Nat):Int)-4=(n:Int):=by omega
  clear hD h8 pB hx;generalize hN:leN (b.drop n)=N at *;clear hN;go_enter Tryz.func95,Tryz.ntmps95
  have hBE:∀ p,nX p (.slice a' (n+4) cap)->∀ m k,nX p (.slice (if cap=k then a' else a'.map fun x=>x.add k) m (cap-k)):=fun p hp m k=>ju (m:=m) (k:=k) (c:=cap) hp
  go_wp2_with fail;refine HNU.o.mono ?_;rintro e w1 ⟨rfl,rfl⟩;by_cases uT:n<N
  ·have hgt':(N:Int) > (n:Int):=by omega
   have Fx:jfp (spl b=none):=ae (by rw[HP.o,jdu uT]);clear HP;go_wp2_with fail;go_ret3
   rw[Fx.o];exact⟨⟨_,_,rfl,fun x y h=>by cases h⟩,jdv _ _⟩
  ·have hgt':¬ (N:Int) > (n:Int):=by omega
   obtain⟨m,hm⟩:∃ m,n=m+N:=⟨n-N,by omega⟩;have Qy:n-N=m:=(by omega);have Fx:jfp (spl b=some (b.take m,(b.take n).drop m)):=ae (by rw[HP.o,jdt uT,Qy]);have hT:=HS.o.take (k:=m) (by rw[ar,Cs.o];omega);have hD1:=HS.o.take (k:=n) (by rw[ar,Cs.o];omega);have yB:(aF .u8 b).length=n+4:=by rw[ar];exact Cs.o
   have hD2:=hD1.dropG (k:=m) (by rw[jdC,yB];omega);rw[mN]at hT;rw[mN,kI]at hD2;obtain⟨A2,hA2⟩:∃ A2,(if cap=m then a' else a'.map fun x=>x.add m)=A2:=⟨_,rfl⟩;have hle3:(aF .u8 (b.take n)).length-m=N:=by rw[ar,jdC,Cs.o];omega
   have hB2:=hBE _ hw N m;have bw:¬ cap=m:=(by omega);rw[jdt bw]at hA2 hD2 hB2;clear hA2;rw[hle3]at hD2;have hB1:nX w1.heap.size (.slice a' m cap):=fun i hi=>hw i (by cases a' with | none=>cases hi | some x=>exact hi)
   have HT:=ae hT;have yG:=ae hD2;have aQ:=ae hB1;have aO:=ae hB2;have qp:(n:Int)-(N:Int)=(m:Int):=(by omega);have lq:(0:Int)<=(m:Int):=(by omega);have LY:(m:Int)<=(cap:Int):=(by omega);have hk4:(m:Int)<=(n:Int):=(by omega);have hk5:(n:Int)<=(cap:Int):=(by omega);have UZ:(m:Int).toNat=m:=(by omega);have hk7:(n:Int).toNat=n:=(by omega);have hk8:n-m=N:=(by omega);have hk9:IntKind.i64.wrap (N:Int)=(N:Int):=by rw[jd7];omega
   clear hT hD1 hD2 HP hB1 hB2 hBE Qy yB hle3 hw hm;go_wp2_with fail;go_quiet (fail)
   go_wp2_with fail;go_ret3
   rw[Fx.o];refine⟨⟨_,_,rfl,fun x y h=>?_⟩,ap (jdv _ _) _⟩;simp only[Option.some.injEq,Prod.mk.injEq]at h;obtain⟨rfl,rfl⟩:=h;exact⟨HT.o.kept (ap (jdv _ _) _),yG.o.kept (ap (jdv _ _) _),aQ.o,aO.o⟩
def R3(W:World)(p:Nat)(c f:List Nat)(fl:Bool):Prop :=
 ∃ a cap a' cap',W.heap[p]?=some (.cells #[.slice a c.length cap,.slice a' f.length cap',.bool fl] 157 (0,0)) /\
  (Sv W (.slice a c.length cap) (aF .u8 c)/\(∀ k,(Value.slice a c.length cap).ownBlock=some k->k<p)/\Bs c) /\
  (Sv W (.slice a' f.length cap') (aF .u8 f)/\(∀ k,(Value.slice a' f.length cap').ownBlock=some k->k<p)/\Bs f)
theorem R3.lt{W:World}{p:Nat}{c f:List Nat}{fl:Bool}(h:R3 W p c f fl):p<W.heap.size:=by obtain⟨_,_,_,_,h,_⟩:=h;exact(Array.getElem?_eq_some_iff.1 h).1
theorem R3.bs{W:World}{p:Nat}{c f:List Nat}{fl:Bool}(h:R3 W p c f fl):Bs c/\Bs f:=by obtain⟨_,_,_,_,_,h1,h2⟩:=h;exact⟨h1.2.2,h2.2.2⟩
theorem R3.kept{W W':World}{p B:Nat}{c f:List Nat}{fl:Bool}(h:R3 W p c f fl)(hb:Below B W W')(hp:p<B):R3 W' p c f fl:=by
 obtain⟨a,cap,a',cap',h1,⟨h2,h3,h4⟩,h5,h6,h7⟩:=h;exact⟨a,cap,a',cap',(hb.block p hp).trans h1,⟨h2.keptW (fun _ k hk=>jea (h3 k hk) hp) hb,h3,h4⟩,h5.keptW (fun _ k hk=>jea (h6 k hk) hp) hb,h6,h7⟩
theorem OwnV.of_le{W:World}{B B':Nat}{v:Value}{l:List Cl}(h:OwnV W B v l)(hB:B'<=B):OwnV W B' v l:=by
 refine⟨h.1,?_⟩;rcases h.2 with hn | ⟨g,cap,cur,hv,hb,r⟩
 ·exact .inl hn
 ·exact .inr ⟨g,cap,cur,hv,jdF hB hb,r⟩
theorem iW{W:World}{p i:Nat}(x:Value):Below p W (W.setCell ⟨p,i,none⟩ x):=(jdv p W).setCell (jdw _) x
theorem R3.cells{W:World}{p:Nat}{c f:List Nat}{fl:Bool}(h:R3 W p c f fl) :
  ∃ a cap a' cap',(W.cell? ⟨p,0,none⟩=some (.slice a c.length cap)/\W.cell? ⟨p,1,none⟩=some (.slice a' f.length cap')/\W.cell? ⟨p,2,none⟩=some (.bool fl)) /\
   (W.frozen? ⟨p,0,none⟩=false/\W.frozen? ⟨p,1,none⟩=false/\W.frozen? ⟨p,2,none⟩=false) /\
   (c.length<=cap/\cap<=9223372036854775807/\f.length<=cap'/\cap'<=9223372036854775807) /\
   (Sv W (.slice a c.length cap) (aF .u8 c)/\(∀ k,(Value.slice a c.length cap).ownBlock=some k->k<p)) /\
   (Sv W (.slice a' f.length cap') (aF .u8 f)/\(∀ k,(Value.slice a' f.length cap').ownBlock=some k->k<p)) /\
   (∀ fl',R3 (W.setCell ⟨p,2,none⟩ (.bool fl')) p c f fl') /\
   (∀ k,k<=c.length->∃ A,(if cap=k then a else a.map fun x=>x.add k)=A/\R3 (W.setCell ⟨p,0,none⟩ (.slice A (c.length-k) (cap-k))) p (c.drop k) f fl) /\
   (∀ k,k<=f.length->∃ A,(if cap'=k then a' else a'.map fun x=>x.add k)=A/\R3 (W.setCell ⟨p,1,none⟩ (.slice A (f.length-k) (cap'-k))) p c (f.drop k) fl) /\
   (∀ v g,Sv W v (aF .u8 g)->Bs g->(∀ k,v.ownBlock=some k->k<p)->R3 (W.setCell ⟨p,1,none⟩ v) p c g fl):=by
 obtain⟨a,cap,a',cap',h1,⟨h2,h3,h4⟩,h5,h6,h7⟩:=h;have ea:∀ i (x:Value),Sv (W.setCell ⟨p,i,none⟩ x) (.slice a c.length cap) (aF .u8 c):=fun i x=>h2.keptW (fun _=>h3) (iW x)
 have dN:∀ i (x:Value),Sv (W.setCell ⟨p,i,none⟩ x) (.slice a' f.length cap') (aF .u8 f):=fun i x=>h5.keptW (fun _=>h6) (iW x)
 obtain⟨x1,c1,e1,lp,jT⟩:=h2.form1;obtain⟨x2,c2,e2,Qw,hc4⟩:=h5.form1;rw[ar]at e1 lp e2 Qw;simp only[Value.slice.injEq]at e1 e2;obtain⟨rfl,_,rfl⟩:=e1;obtain⟨rfl,_,rfl⟩:=e2
 refine⟨a,cap,a',cap',⟨by rw[ay h1];rfl,by rw[ay h1];rfl,by rw[ay h1];rfl⟩,⟨by simp[World.frozen?,h1],by simp[World.frozen?,h1],by simp[World.frozen?,h1]⟩,
  ⟨lp,by unfold maxLen at jT;omega,Qw,by unfold maxLen at hc4;omega⟩,⟨h2,h3⟩,⟨h5,h6⟩,fun fl'=>?_,fun k hk=>?_,fun k hk=>?_,fun v g hv hg hvb=>?_⟩
 ·exact⟨a,cap,a',cap',by rw[dy h1];rfl,⟨ea _ _,h3,h4⟩,dN _ _,h6,h7⟩
 ·refine⟨_,rfl,?_⟩
  have hd:=h2.dropG (k:=k) (by rw[ar];exact hk);rw[ar,kI]at hd;have fT:=ju (m:=c.length-k) (k:=k) (c:=cap) h3;refine⟨_,cap-k,a',cap',by rw[dy h1,jd3];rfl,⟨?_,?_,h4.drop k⟩,dN _ _,h6,h7⟩
  ·rw[jd3]
   exact hd.keptW (fun _=>fT) (iW _)
  ·rw[jd3]
   exact fT
 ·refine⟨_,rfl,?_⟩
  have hd:=h5.dropG (k:=k) (by rw[ar];exact hk);rw[ar,kI]at hd;have fT:=ju (m:=f.length-k) (k:=k) (c:=cap') h6;refine⟨a,cap,_,cap'-k,by rw[dy h1,jd3];rfl,⟨ea _ _,h3,h4⟩,?_,?_,h7.drop k⟩
  ·rw[jd3]
   exact hd.keptW (fun _=>fT) (iW _)
  ·rw[jd3]
   exact fT
 ·obtain⟨av,cv,rfl,_,_⟩:=hv.form1
  rw[ar]at *;exact⟨a,cap,av,cv,by rw[dy h1];rfl,⟨ea _ _,h3,h4⟩,hv.keptW (fun _=>hvb) (iW _),hvb,hg⟩
theorem R3.cells2{W U:World}{p:Nat}{c f:List Nat}{fl:Bool}(h:R3 W p c f fl)(hU:Below W.heap.size W U){a:Option Addr}{n cap:Nat}(hc:W.cell? ⟨p,1,none⟩=some (.slice a n cap)) :
  Sv U (.slice a f.length cap) (aF .u8 f)/\∀ i,(Value.slice a f.length cap).ownBlock=some i->i<p:=by
 obtain⟨_,_,a',cap',⟨_,c1,_⟩,_,_,_,⟨s1,s2⟩,_⟩:=(h.kept hU h.lt).cells;rw[hU.cell h.lt,hc]at c1;simp only[Option.some.injEq,Value.slice.injEq]at c1;obtain⟨rfl,rfl,rfl⟩:=c1;exact⟨s1,s2⟩
theorem qh{w:World}{p:Nat}{c f:List Nat}{fl:Bool}(h:R3 w p c f fl)(lo hi:Nat)(h1:lo<=9223372036854775807)(h2:hi<=9223372036854775807) :
  Calls Tryz.prog 141 #[.pointer (some ⟨p,0,none⟩),.int .i64 (lo:Int),.int .i64 (hi:Int)] w fun r w'=>r=.returned (.int .i64 (gi lo hi f:Int))/\R3 w' p c (dI f) (fl || mf lo hi f)/\Fr p w.heap.size w w':=by
 obtain⟨a,cap,a',cap',⟨c0,c1,c2⟩,⟨f0,f1,f2⟩,⟨l1,l2,l3,l4⟩,_,⟨s1,s2⟩,_,_,k1,_⟩:=h.cells;obtain⟨g1,g2,g3,g4⟩:=fW f;have HG:=ae (AE h.bs.2 s1);obtain⟨A,hA,hR⟩:=k1 (gt f).2.1 g2;have HF:=ae ((Fr.refl p w.heap.size w).set 1 (.slice A (f.length-(gt f).2.1) (cap'-(gt f).2.1)));have HR:=ae hR;have HB:jfp (mf lo hi f=!decide ((gt f).2.2=0/\lo<=(gt f).1/\(gt f).1<=hi)):=ae rfl;have HV:jfp (gi lo hi f=if mf lo hi f=true then 0 else (gt f).1):=ae rfl;have HT:jfp (dI f=f.drop (gt f).2.1):=ae rfl;rw[HT.o];clear h k1 s1 s2 hR HT;generalize mf lo hi f=bd at *;generalize gi lo hi f=vw at *;generalize gt f=x at *;obtain⟨n,u,er⟩:=x;simp only at *;unfold kO at HG;have hu:(u:Int)<=(f.length:Int):=by omega
 have hw1:IntKind.u64.wrap (lo:Int)=(lo:Int):=by rw[jd0];omega
 have qs:IntKind.u64.wrap (hi:Int)=(hi:Int):=by rw[jd0];omega
 obtain⟨A0,Cap,B0,Cap',⟨d0,d1,d2⟩,⟨e0,e1,e2⟩,_,_,_,k2,_,_,_⟩:=HR.o.cells;have HK2:=ae (k2 true);have gM:=ae (HF.o.set 2 (.bool true));clear k2;by_cases her:er=0
 ·subst her
  have fF:(((0:Nat):Int) != 0)=false:=by simp
  by_cases hlo:n<lo
  ·have hb:bd=true:=by rw[HB.o];simp;omega
   subst hb;have hv:vw=0:=by rw[HV.o];rfl
   subst hv;rw[Bool.or_true];have aB:(n:Int)<(lo:Int):=(by omega);clear HB HV;go_enter Tryz.func141,Tryz.ntmps141
   go_wp2_with fail;refine HG.o.mono ?_;rintro e w1 ⟨rfl,rfl⟩;go_wp2_with fail;go_ret
   exact⟨rfl,HK2.o,gM.o⟩
  ·have hnlt:¬ (n:Int)<(lo:Int):=by omega
   by_cases Kn:hi<n
   ·have hb:bd=true:=by rw[HB.o];simp;omega
    subst hb;have hv:vw=0:=by rw[HV.o];rfl
    subst hv;rw[Bool.or_true];have uT:(n:Int) > (hi:Int):=(by omega);clear HB HV;go_enter Tryz.func141,Tryz.ntmps141
    go_wp2_with fail;refine HG.o.mono ?_;rintro e w1 ⟨rfl,rfl⟩;go_wp2_with fail;go_ret
    exact⟨rfl,HK2.o,gM.o⟩
   ·have hb:bd=false:=by rw[HB.o];simp;omega
    subst hb;have hv:vw=n:=by rw[HV.o];rfl
    subst hv;rw[Bool.or_false];have uT:¬ (vw:Int) > (hi:Int):=(by omega);have hwn:IntKind.i64.wrap (vw:Int)=(vw:Int):=by rw[jd7];omega
    clear HB HV;go_enter Tryz.func141,Tryz.ntmps141
    go_wp2_with fail;refine HG.o.mono ?_;rintro e w1 ⟨rfl,rfl⟩;go_wp2_with fail;go_ret
    exact⟨rfl,HR.o,HF.o⟩
 ·have hb:bd=true:=by rw[HB.o];simp;omega
  subst hb;have hv:vw=0:=by rw[HV.o];rfl
  subst hv;rw[Bool.or_true]
  have fF:((er:Int) != 0)=true:=by
   have:(er:Int)≠0:=by omega
   simpa using this
  clear HB HV;go_enter Tryz.func141,Tryz.ntmps141
  go_wp2_with fail;refine HG.o.mono ?_;rintro e w1 ⟨rfl,rfl⟩;go_wp2_with fail;go_ret
  exact⟨rfl,HK2.o,gM.o⟩
theorem NY{w:World}{p:Nat}{c f:List Nat}{fl:Bool}(h:R3 w p c f fl)(k n:Nat)(hk:1<=k/\k<=3)(hn:n<=64)(eQ:c.length<=100000000) :
  Calls Tryz.prog 181 #[.pointer (some ⟨p,0,none⟩),.int .u8 (k:Int),.int .i64 (n:Int)] w fun r w'=>∃ v,r=.returned v/\OwnV w' w.heap.size v (iz k n (c,f,fl)).1/\R3 w' p (iz k n (c,f,fl)).2.1 (iz k n (c,f,fl)).2.2.1 (iz k n (c,f,fl)).2.2.2/\Fr p w.heap.size w w':=by
 have aB:=h.lt;have HW:=ae (qh h 0 c.length (by omega) (by omega));have HM:jfp (iz k n (c,f,fl)=((gC k (c.take (gi 0 c.length f)) n).getD [],(c.drop (gi 0 c.length f),dI f,(fl || mf 0 c.length f) || (gC k (c.take (gi 0 c.length f)) n).isNone))):=ae rfl;have hvl:=rq 0 c.length f;obtain⟨a,cap,a',cap',⟨c0,c1,c2⟩,⟨f0,f1,f2⟩,⟨l1,l2,l3,l4⟩,y1,y2,y3,y4,y5⟩:=h.cells;clear h y1 y2 y3 y4 y5;rw[HM.o];clear HM;obtain⟨g,hg⟩:∃ g,(fl || mf 0 c.length f)=g:=⟨_,rfl⟩;rw[hg]at HW ⊢;clear hg;generalize gi 0 c.length f=m at *;generalize dI f=rf at *;obtain⟨L,hL⟩:∃ L,(gC k (c.take m) n).getD []=L:=⟨_,rfl⟩;obtain⟨D,hD⟩:∃ D,(gC k (c.take m) n).isNone=D:=⟨_,rfl⟩;rw[hL,hD];have Kj:=ae (And.intro hL hD);clear hL hD;go_enter Tryz.func181,Tryz.ntmps181
 go_wp2_with fail;refine HW.o.mono ?_;rintro e w1 ⟨rfl,ea,dv⟩;clear c0 c1 c2 f0 f1 f2 l1 l2 l3 l4;obtain⟨a,cap,a',cap',⟨c0,c1,c2⟩,⟨f0,f1,f2⟩,⟨l1,l2,l3,l4⟩,⟨t1,t2⟩,y1,y2,y3,y4⟩:=ea.cells;have hT:=t1.take (k:=m) (by rw[ar];exact hvl);rw[mN]at hT;have HC:=ae (NW hT (ea.bs.1.take m) k n);have jy:=ae ea;have gp:=ae dv;have Kx:(m:Int)<=(c.length:Int):=by omega
 have py:(m:Int)<=(cap:Int):=by omega
 have qn:=ae dv.size;clear ea dv t1 t2 hT y1 y2 y3 y4;go_wp2_with fail;refine HC.o.mono ?_;rintro e w2 ⟨v,l,er,rfl,ho,ht,hb⟩;have dN:=jy.o.kept hb jy.o.lt;have dD:=gp.o.then (hb.mono qn.o)
 have du:=ae ho;have gl:=ae dN;have gM:=ae dD;have Zq:gC k (c.take m) n=none∨∃ y,gC k (c.take m) n=some y:=by cases gC k (c.take m) n<;>simp
 have Qg:jfp (L=l/\D=((er:Int) != 0)):=ae (by
  rw[← Kj.o.1,← Kj.o.2];unfold ua at ht;rw[jdu hk,jdu (by omega),jd1]at ht;rcases ht with ⟨rfl,e⟩ | ⟨h0,_,rfl,e⟩
  ·rw[e];exact⟨rfl,by simp⟩
  ·rw[e]
   have:((er:Int) != 0)=true:=by
    have:(er:Int)≠0:=by omega
    simpa using this
   exact⟨rfl,by rw[this];rfl⟩)
 obtain⟨rfl,hd0⟩:=Qg.o;have hd:=hd0.symm;clear Qg hd0
 have jb:jfp (R3 (w2.setCell ⟨p,2,none⟩ (.bool (g || D))) p c rf (g || D)):=ae (by
  obtain⟨_,_,_,_,_,_,_,_,_,k2,_⟩:=gl.o.cells;exact k2 _)
 have qm:=ae (gM.o.set 2 (.bool (g || D)));clear c0 c1 c2 f0 f1 f2 l1 l2 l3 l4 Kx py;obtain⟨a2,cap2,a2',cap2',⟨c0,c1,c2⟩,⟨f0,f1,f2⟩,⟨l1,l2,l3,l4⟩,y1,y2,y3,y4,y5⟩:=gl.o.cells;obtain⟨a3,cap3,a3',cap3',⟨q0,q1,q2⟩,z0,x1,z1,z2,x2,y0,x3⟩:=jb.o.cells;have QF:=q0;rw[show (w2.setCell ⟨p,2,none⟩ (.bool (g || D))).cell? ⟨p,0,none⟩=w2.cell? ⟨p,0,none⟩ from World.cell?_setCell_other _ _ _ _ (by simp),c0]at QF;simp only[Option.some.injEq,Value.slice.injEq,true_and]at QF;obtain⟨rfl,rfl⟩:=QF;obtain⟨A,hA,hR4⟩:=y0 m hvl;have Kx:(m:Int)<=(c.length:Int):=by omega
 have py:(m:Int)<=(cap2:Int):=by omega
 have Al:=ae hR4;have Cr:=ae (qm.o.set 0 (.slice A (c.length-m) (cap2-m)));have eR:=ae (show OwnV _ w1.heap.size v L from Fr.own (((Fr.refl p w2.heap.size w2).set 2 (.bool (g || D))).set 0 (.slice A (c.length-m) (cap2-m))) du.o jy.o.lt);have HSZ1:=ae qn.o;clear y0 y1 y2 y3 y4 y5 x1 x2 x3 hR4 dN dD hb ho ht Zq q0 q1 q2 z0 z1 z2;have hsz0:w.heap.size<=w1.heap.size:=qn.o;rcases g with _ | _<;>rcases D with _ | _
 all_goals
  go_wp2_with fail;go_ret
  exact⟨_,rfl,OwnV.of_le eR.o HSZ1.o,Al.o,Cr.o⟩
theorem EJ{w:World}{p:Nat}{c f:List Nat}{fl:Bool}(h:R3 w p c f fl){v:Value}{l:List Cl}(hs:Sv w v (aI l))(hf:∀ x∈l,aT x)(hl:l.length<=256) :
  Calls Tryz.prog 182 #[.pointer (some ⟨p,0,none⟩),v] w fun r w'=>r=.returned (ux (cA l))/\R3 w' p (qa l (c,f,fl)).1 (qa l (c,f,fl)).2.1 (qa l (c,f,fl)).2.2/\Fr p w.heap.size w w':=by
 have aB:=h.lt;have ct:=Stb.new w stZ;have dO:=am w (.cells #[.int .i64 0,.int .i64 0,.bool false,.bool false,.int .u8 0,.int .i64 0,.string ⟨#[]⟩,.int .u8 0,.int .i64 0,.string ⟨#[]⟩] 54);have hz0':Stb (w.alloc (.cells #[.int .i64 0,.int .i64 0,.bool false,.bool false,.int .u8 0,.int .i64 0,.string ⟨#[]⟩,.int .u8 0,.int .i64 0,.string ⟨#[]⟩] 54)) w.heap.size stZ:=ct;have yw:=hs.kept dO;have Ys:=ae (h.kept dO aB);obtain⟨⟨M1,M2,M3⟩,hM⟩:∃ R:S3,qa l (c,f,fl)=R:=⟨_,rfl⟩;have HM:jfp ((M1,M2,M3)=if (et (cA l)).isPrefixOf f=true then (c,f.drop (et (cA l)).length,fl) else (c,f,true)):=ae (hM.symm.trans rfl);rw[hM];clear hM;obtain⟨m1,m2⟩:=kD hf;obtain⟨nn,m3,m4⟩:=ll l;have m5:∃ n:Nat,(cA l).nulls=(n:Int)/\n<=1000000:=⟨nn,m3,by omega⟩;have cU:=ae (nS m1 m2 m5);have uK:=ae (oQ m1 m2 m5).2;have HSS:=ae (zE yw hf (by omega));have HZ0:=ae hz0';have ce:=ae dO;have sA:(w.alloc (.cells #[.int .i64 0,.int .i64 0,.bool false,.bool false,.int .u8 0,.int .i64 0,.string ⟨#[]⟩,.int .u8 0,.int .i64 0,.string ⟨#[]⟩] 54)).heap.size=w.heap.size+1:=jdx _ _;have qn:=ae sA;obtain⟨a,cap,rfl,aW,bw⟩:=hs.form1;rw[aG]at *;clear hs hf dO ct hz0' yw m1 m2 m3 m4 m5 sA h;generalize hA:w.alloc (.cells #[.int .i64 0,.int .i64 0,.bool false,.bool false,.int .u8 0,.int .i64 0,.string ⟨#[]⟩,.int .u8 0,.int .i64 0,.string ⟨#[]⟩] 54)=A at *;generalize et (cA l)=sb at *;generalize cA l=st at *;obtain⟨x1,x2,x3,x4,⟨y1,y2,y3⟩,z1,z2,z3⟩:=st;unfold ux at *;simp only at *;go_enter Tryz.func182,Tryz.ntmps182
 go_wp2_with fail;try rw[hA]
 refine HSS.o.mono ?_;rintro e w1 ⟨rfl,aH⟩;have sg:=ae (Ys.o.kept aH Ys.o.lt);have aQ:=ae aH;have HZ1:=ae (HZ0.o.kept aH);have yC:=am w1 (.cells #[.int .i64 x1,.int .i64 x2,.bool x3,.bool x4,.int .u8 (y1:Int),.int .i64 y2,.string (ak y3),.int .u8 (z1:Int),.int .i64 z2,.string (ak z3)] 54);have HQ:=ae (show Stb _ w1.heap.size ⟨x1,x2,x3,x4,(y1,y2,y3),(z1,z2,z3)⟩ from Stb.new w1 ⟨x1,x2,x3,x4,(y1,y2,y3),(z1,z2,z3)⟩);have jb:=ae (sg.o.kept yC sg.o.lt);have LU:=ae (HZ1.o.kept yC);have aO:=ae yC;have sB:(w1.alloc (.cells #[.int .i64 x1,.int .i64 x2,.bool x3,.bool x4,.int .u8 (y1:Int),.int .i64 y2,.string (ak y3),.int .u8 (z1:Int),.int .i64 z2,.string (ak z3)] 54)).heap.size=w1.heap.size+1:=jdx _ _;have HSB:=ae sB;clear aH yC hA Ys HZ0 sB;generalize hB:w1.alloc (.cells #[.int .i64 x1,.int .i64 x2,.bool x3,.bool x4,.int .u8 (y1:Int),.int .i64 y2,.string (ak y3),.int .u8 (z1:Int),.int .i64 z2,.string (ak z3)] 54)=B at *;go_upto_region 2 with fail
 try rw[hB]
 obtain⟨a1,cap1,a1',cap1',⟨c0,c1,c2⟩,⟨f0,f1,f2⟩,⟨l1,l2,l3,l4⟩,k1,⟨s1,s2⟩,k3,k4,k5,k6⟩:=jb.o.cells;obtain⟨_,⟨q0,q1,q2,q3⟩,⟨q4,q5,q6⟩,q7,q8,q9⟩:=HQ.o.at;simp only[jdZ]at q0 q1 q2 q3 q4 q5 q6 q7 q8 q9
 have QA:jfp (∀ U,Below B.heap.size B U->Calls Tryz.prog 84 #[.agg #[.int .i64 x1,.int .i64 x2,.bool x3,.bool x4,.int .u8 (y1:Int),.int .i64 y2,.string (ak y3),.int .u8 (z1:Int),.int .i64 z2,.string (ak z3)]] U fun e w'=>∃ v,e=.returned v/\Sv w' v (aF .u8 sb)/\Below B.heap.size B w'/\w'.cell? ⟨p,1,none⟩=some (.slice a1' f.length cap1')):=ae (fun U hU=>by
  refine(cU.o U).mono ?_;rintro e w' ⟨⟨v,rfl,ho⟩,hb⟩;have xO:=ai hU hb;exact⟨v,rfl,ho.sv,xO,(xO.cell jb.o.lt).trans c1⟩)
 have QB:jfp (∀ U vb,Below B.heap.size B U->Sv U vb (aF .u8 sb)->Calls Tryz.prog 52 #[.slice a1' f.length cap1',vb] U fun e w'=>(∃ v,e=.returned (.tuple #[v,.bool (sb.isPrefixOf f)])/\Sv w' v (aF .u8 (if sb.isPrefixOf f=true then f.drop sb.length else f))/\∀ i,v.ownBlock=some i->i<p)/\w'=U):=ae (fun U vb hU hvb=>by
  refine(EH (jb.o.cells2 hU c1).1 hvb jb.o.bs.2 uK.o).mono ?_;rintro e w' ⟨⟨v,rfl,hv,hvp⟩,rfl⟩;exact⟨⟨v,rfl,hv,hvp p (jb.o.cells2 hU c1).2⟩,rfl⟩)
 clear k1 s1 s2 k3 k4 k5 k6;generalize sb.isPrefixOf f=px at *;go_cut [6,7] from 10 (fun s6 s7 wx=>s7=.bool px/\Sv wx s6 (aF .u8 (if px=true then f.drop sb.length else f))/\(∀ i,s6.ownBlock=some i->i<p)/\Below B.heap.size B wx)
 case first =>
  refine wp_region_noPanic ?_
  go_region_law (first
   | (go_simp;go_at_call 84;refine(QA.o _ ?_).mono ?_;exact ap (jdv B.heap.size B) _;rintro e w5 ⟨v5,rfl,nz,bD,hc5⟩;have rZ:=ae nz;have aR:=ae bD;clear nz bD;dsimp only)
   | (go_simp;go_at_call 52;refine(QB.o _ _ aR.o rZ.o).mono ?_;rintro e w6 ⟨⟨v6,rfl,xE,hp6⟩,rfl⟩;have HS6:=ae xE;have HP6:=ae hp6;clear xE hp6;dsimp only)
   | fail)
  all_goals refine NoPanic.normal ?_
  all_goals (go_wp2_with fail;go_meet)
  all_goals exact⟨rfl,HS6.o,HP6.o,aR.o⟩
 case rest =>
 clear c0 c1 c2 f0 f1 f2 l1 l2 l3 l4 q0 q1 q2 q3 q4 q5 q6 q7 q8 q9 QA QB cU HSS;obtain⟨rfl,xE,hp6,ey⟩:=hcut;have HG:jfp (Bs (if px=true then f.drop sb.length else f)):=ae (by have:=jb.o.bs.2;split;exact this.drop _;exact this);have ZF:=jb.o.kept ey jb.o.lt;have iH:=LU.o.kept ey;have LW:=HQ.o.kept ey;have lu:Below w.heap.size w wc:=ai ce.o (ai aQ.o (ai aO.o ey));have hsw:w.heap.size<w1.heap.size:=by have:=qn.o;have:=aQ.o.size;omega
 have jw:w.heap.size<=wc.heap.size:=lu.size;obtain⟨g,hg⟩:∃ g,(fl || !px)=g:=⟨_,rfl⟩;obtain⟨G,hG⟩:∃ G,(if px=true then f.drop sb.length else f)=G:=⟨_,rfl⟩;rw[hG]at xE HG
 have KB:jfp ((M1,M2,M3)=(c,G,g)):=ae (by
  rw[HM.o,← hG,← hg];cases px<;>simp)
 have gS:Fr p w.heap.size w wc:=Fr.of_below lu;obtain⟨a1,cap1,a1',cap1',⟨c0,c1,c2⟩,⟨f0,f1,f2⟩,⟨l1,l2,l3,l4⟩,k1,k2,k3,k4,k5,k6⟩:=ZF.cells;have ZG:=k3 g;have pG:=gS.set 2 (.bool g);obtain⟨_,_,_,_,_,_,_,_,_,_,_,_,k7⟩:=ZG.cells;have QE:=k7 u6 G (xE.keptW (fun _=>hp6) (iW _)) HG.o hp6;have jV:=pG.set 1 u6;have hq5:=(LW.other (p:=p) (by have:=aB;omega) 2 (.bool g)).other (p:=p) (by have:=aB;omega) 1 u6;have uF:=(iH.other (p:=p) (by have:=aB;omega) 2 (.bool g)).other (p:=p) (by have:=aB;omega) 1 u6;have ji:=Tc (W:=(wc.setCell ⟨p,2,none⟩ (.bool g)).setCell ⟨p,1,none⟩ u6) (jdv w.heap.size _) (jdw _) (.int .i64 x1) (.int .i64 x2) (.bool x3) (.bool x4) (.int .u8 (y1:Int)) (.int .i64 y2) (.string (ak y3)) (.int .u8 (z1:Int)) (.int .i64 z2) (.string (ak z3));have Gd:=ae (QE.kept ji aB);have QG:=ae (jV.trans (Fr.of_below ji));obtain⟨_,⟨q0,q1,q2,q3⟩,⟨q4,q5,q6⟩,q7,q8,q9⟩:=LW.at;obtain⟨_,⟨r0,r1,r2,r3⟩,⟨r4,r5,r6⟩,r7,r8,r9⟩:=iH.at;simp only[jdZ]at q0 q1 q2 q3 q4 q5 q6 q7 q8 q9 r0 r1 r2 r3 r4 r5 r6 r7 r8 r9;have fg:=LW.frozen;have fz:=iH.frozen;have Yl:¬ w1.heap.size=w.heap.size:=by omega
 have LH:¬ w.heap.size=w1.heap.size:=by omega
 have hn3:¬ p=w.heap.size:=by omega
 have hn4:¬ p=w1.heap.size:=by omega
 have hn5:¬ w.heap.size=p:=by omega
 have hn6:¬ w1.heap.size=p:=by omega
 have iO:∃ a6 n6 c6,u6=.slice a6 n6 c6:=by obtain⟨_,_,h,_⟩:=xE.form1;exact⟨_,_,_,h⟩
 obtain⟨a6,n6,c6,rfl⟩:=iO;clear k1 k2 k3 k4 k5 k6 k7 ZG pG QE jV hq5 uF ji ZF iH LW xE hp6 ey gS hG lu HM
 have Ga:jfp (∀ W,R3 W p c G g->R3 W p M1 M2 M3):=ae (fun W hW=>by
  have e:=KB.o;simp only[Prod.mk.injEq]at e;rw[e.1,e.2.1,e.2.2];exact hW)
 cases fl<;>cases px
 all_goals
  simp only[Bool.not_true,Bool.not_false,Bool.or_false,Bool.or_true,Bool.true_or,Bool.false_or]at hg;subst hg;go_wp2_with fail;refine bodyPost_ret (v:=.agg #[.int .i64 x1,.int .i64 x2,.bool x3,.bool x4,.int .u8 (y1:Int),.int .i64 y2,.string (ak y3),.int .u8 (z1:Int),.int .i64 z2,.string (ak z3)]) (by simp[results,Tryz.results182,go_sem,Yl,LH,hn3,hn4,hn5,hn6,r0,r1,r2,r3,r4,r5,r6,r7,r8,r9]) rfl ⟨rfl,Ga.o _ Gd.o,QG.o⟩
def Ss(W:World)(v:Value)(l:List Stt):Prop:=∃ a cap,v=.slice a l.length cap/\l.length<=cap/\cap<=maxLen/\(0<l.length->∃ b off,a=some ⟨b,off,none⟩/\∀ j (h:j<l.length),Hr W b (off+j*10) l[j])
theorem Ss.kept{W W':World}{v:Value}{l:List Stt}(h:Ss W v l)(hb:Below W.heap.size W W'):Ss W' v l:=by
 obtain⟨a,cap,h1,h2,h3,h4⟩:=h;refine⟨a,cap,h1,h2,h3,fun h0=>?_⟩;obtain⟨b,off,h5,h6⟩:=h4 h0;exact⟨b,off,h5,fun j h=>(h6 j h).kept hb⟩
theorem Ss.form{W:World}{v:Value}{l:List Stt}(h:Ss W v l):∃ a cap,v=.slice a l.length cap/\l.length<=cap/\cap<=maxLen:=by
 obtain⟨a,cap,h1,h2,h3,_⟩:=h;exact⟨a,cap,h1,h2,h3⟩
theorem Ss.at{W:World}{a:Option Addr}{n cap:Nat}{l:List Stt}(h:Ss W (.slice a n cap) l){i:Nat}(hi:i<l.length):∃ g o,a=some ⟨g,o,none⟩/\Hr W g (o+i*10) l[i]:=by
 obtain⟨a',cap',e,_,_,h4⟩:=h;simp only[Value.slice.injEq]at e;obtain⟨rfl,_,_⟩:=e;obtain⟨g,o,rfl,h6⟩:=h4 (by omega);exact⟨g,o,rfl,h6 i hi⟩
def td(W:World)(q si:Nat)(fv sv:Value)(l:List Fd)(r:List Stt):Prop :=
 q<W.heap.size/\W.cell? ⟨q,0,none⟩=some (.int .u32 (si:Int))/\W.cell? ⟨q,1,none⟩=some fv/\W.cell? ⟨q,2,none⟩=some sv/\Sf W fv l/\Ss W sv r
theorem td.kept{W W':World}{q si:Nat}{fv rv:Value}{l:List Fd}{r:List Stt}(h:td W q si fv rv l r)(hb:Below W.heap.size W W'):td W' q si fv rv l r:=by
 obtain⟨h0,h1,h2,h3,h4,h5⟩:=h;have e:∀ o,W'.cell? ⟨q,o,none⟩=W.cell? ⟨q,o,none⟩:=fun o=>(gq hb).1 q o h0
 exact⟨jdS h0 hb.size,by rw[e];exact h1,by rw[e];exact h2,by rw[e];exact h3,h4.kept hb,h5.kept hb⟩
theorem EK{l:List Fd}{r:List Stt}{op f:Nat}{c:Cl}(h:iL l f=none):kC l r op f c=(true,true,true):=by unfold kC;rw[h]
theorem EL{l:List Fd}{r:List Stt}{op f j:Nat}{c:Cl}(h:iL l f=some j)(hj:¬ j<r.length):kC l r op f c=(true,true,true):=by
 unfold kC;rw[h];simp only;rw[List.getElem?_eq_none (by omega)]
theorem NZ{l:List Fd}{r:List Stt}{op f j:Nat}{c:Cl}(h:iL l f=some j)(hj:j<r.length):kC l r op f c=Ho op c r[j]:=by
 unfold kC;rw[h];simp only;rw[List.getElem?_eq_getElem hj]
open Go.ChangeShapes Go.WideShapes Go.ChangeAt Go.Joins
theorem own:ownKnob Tryz.prog.godebug=none:=by kernel_rfl
theorem Ls:laidOutB Tryz.prog=true:=by kernel_rfl
theorem Pa{W:World}{B:Nat}{a:Addr}{cs:List Value}(h:W.cells? B a 1=some cs):∃ c,cs=[c]/\W.cell? a=some c:=by
 obtain⟨_,hl,hc⟩:=World.cells?_some h;match cs,hl with
 | [c],_=>exact⟨c,rfl,by simpa [Addr.add]using hc 0 (by omega)⟩
theorem Xw:Tryz.prog.cellsOf 52=3:=by kernel_rfl
theorem JC{H:Type}{enc:TypeId×Value->H}{W:World}{spare:Nat->Bool}{held:Bool}{a:Option Addr}{len cap:Nat}{d:DataW H}{p:List MemPlace}
  (h:DataW.Trod enc Tryz.prog W 0 spare held 58 (.slice a len cap) d p):∃ l:List (Nat×Int×List Nat),Sc W (.slice a len cap) l/\∀ c∈l,Okc c:=by
 obtain⟨fuel,hf⟩:=h;rcases Deep.open_slice Tryz.underlying58 hf with ⟨h1,_⟩ | ⟨a1,l1,c1,m,n,D,Pl,h1,_,hlc,hm,hmm,_,hcells⟩
 ·simp[Value.cells]at h1
  obtain⟨rfl,rfl,rfl⟩:=h1;exact⟨[],⟨none,0,rfl,jdw _,by unfold maxLen;omega,fun h=>by simp at h⟩,fun x hx=>by simp at hx⟩
 ·simp[Value.cells]at h1
  obtain⟨rfl,rfl,rfl⟩:=h1;rw[Xw]at hcells;have hlm:len<=m:=by rw[hmm];split<;>omega
  have Vn:∀ i,i<len->∃ x:Nat×Int×List Nat,Okc x/\W.cell? ((a1.add (i*3)).add 0)=some (.int .u8 (x.1:Int))/\W.cell? ((a1.add (i*3)).add 1)=some (.int .i64 x.2.1)/\W.cell? ((a1.add (i*3)).add 2)=some (txt x.2.2):=by
   intro i hi;obtain⟨cs,hc,ht⟩:=hcells i (by omega);obtain⟨c0,c1,c2,rfl,e0,e1,e2⟩:=CG hc;obtain⟨y0,y1,y2,m1,_,_,t0,t1,t2⟩:=Deep.trod_struct3 Tryz.underlying52 ht;have k28:Tryz.prog.cellsOf 50=1:=by kernel_rfl
   have k9:Tryz.prog.cellsOf 9=1:=by kernel_rfl
   have k2:Tryz.prog.cellsOf 2=1:=by kernel_rfl
   simp only[k28,k9,k2]at t0 t1 t2;obtain⟨k,q0,_,wk⟩:=DataW.trod_int Tryz.underlying50 t0;obtain⟨n,q1,_,wn⟩:=DataW.trod_int Tryz.underlying2 t1;obtain⟨s,q2,_⟩:=DataW.trod_string Tryz.underlying9 t2;simp at q0 q1 q2
   subst q0 q1 q2;have hk:=bounds_u8 wk;have hn:=bounds_i64 wn;have hI:I64 n:=⟨hn.1,by have:=hn.2;omega⟩;have KF:((k.toNat:Nat):Int)=k:=(by omega);refine⟨(k.toNat,n,da s),⟨show k.toNat<256 by omega,hI,CC s⟩,?_,e1,?_⟩
   ·show _=some (Value.int .u8 ((k.toNat:Nat):Int))
    rw[e0,KF]
   ·rw[e2,dJ,tA]
  obtain⟨f,dD⟩:=Deep.choose_lt Vn;have mU:((List.range len).map f).length=len:=by simp
  refine⟨(List.range len).map f,⟨some a1,cap,by rw[mU],by rw[mU];omega,by omega,fun h0=>?_⟩,?_⟩
  ·rw[mU]at h0
   obtain⟨b,off,spot⟩:=a1
   have FM:spot=none:=by
    have:=World.cell?_spot (dD 0 (by omega)).2.1;simpa [Addr.add]using this
   subst FM
   have hb:b<W.heap.size:=by
    obtain⟨cs,hc,_⟩:=hcells 0 (by omega);have:=World.cells?_block hc (by omega);simpa [Addr.add]using this
   refine⟨b,off,rfl,hb,fun j x hj=>?_⟩
   have uS:j<len*3:=by
    have:=(List.getElem?_eq_some_iff.1 hj).1;rw[mx,mU]at this;exact this
   have hi:j / 3<len:=(by omega);have Qr:j / 3<((List.range len).map f).length:=by rw[mU];exact hi
   obtain⟨g0,g1,g2⟩:=sq Qr;obtain⟨_,k0,k1,k2⟩:=dD (j / 3) hi;rw[nh,nh]at k0 k1 k2;have kL:((List.range len).map f)[j / 3]=f (j / 3):=by simp
   rw[kL]at g0 g1 g2;obtain h | h | h:j=j / 3*3∨j=j / 3*3+1∨j=j / 3*3+2:=by omega
   ·rw[h]at hj ⊢
    rw[g0]at hj;rw[← hj,← k0];rfl
   ·rw[h]at hj ⊢
    rw[g1]at hj;rw[← hj,← k1];rfl
   ·rw[h]at hj ⊢
    rw[g2]at hj;rw[← hj,← k2];rfl
  ·intro x hx
   obtain⟨i,hi,rfl⟩:=jdR.1 hx;exact(dD i (by simpa using hi)).1
theorem Xx:Tryz.prog.cellsOf 81=4:=by kernel_rfl
theorem Xy:Tryz.prog.cellsOf 25=2:=by kernel_rfl
theorem JD{W:World}{base:Nat}{a:Addr}{cs:List Value}(h:W.cells? base a 4=some cs):∃ c0 c1 c2 c3,cs=[c0,c1,c2,c3]/\W.cell? (a.add 0)=some c0/\W.cell? (a.add 1)=some c1/\W.cell? (a.add 2)=some c2/\W.cell? (a.add 3)=some c3:=by
 obtain⟨_,hl,hc⟩:=World.cells?_some h;match cs,hl with
 | [c0,c1,c2,c3],_=>exact⟨c0,c1,c2,c3,rfl,by simpa using hc 0 (by omega),by simpa using hc 1 (by omega),by simpa using hc 2 (by omega),by simpa using hc 3 (by omega)⟩
theorem EM{H:Type}{enc:TypeId×Value->H}{W:World}{spare:Nat->Bool}{held:Bool}{fuel:Nat}{v:Value}{y:DataW H×List MemPlace}
  (hf:DataW.trod enc Tryz.prog W 0 spare held fuel 23 [v]=some y):∃ l:List Fd,Sf W v l/\∀ f∈l,Okf f:=by
 rcases Deep.open_slice Tryz.underlying23 hf with ⟨h1,_⟩ | ⟨a1,len,cap,m,n,D,Pl,h1,_,hlc,hm,hmm,_,hcells⟩
 ·simp at h1
  subst h1;exact⟨[],Sf.nil _,fun x hx=>by simp at hx⟩
 ·simp at h1
  subst h1;rw[Xx]at hcells;have hlm:len<=m:=by rw[hmm];split<;>omega
  have Vn:∀ i,i<len->∃ x:Fd,Okf x/\W.cell? ((a1.add (i*4)).add 0)=some (.int .u32 (x.1:Int))/\W.cell? ((a1.add (i*4)).add 1)=some (.string x.2.1)/\W.cell? ((a1.add (i*4)).add 2)=some (.int .u8 (x.2.2.1:Int))/\W.cell? ((a1.add (i*4)).add 3)=some (.bool x.2.2.2):=by
   intro i hi;obtain⟨cs,hc,ht⟩:=hcells i (by omega);obtain⟨c0,c1,c2,c3,rfl,e0,e1,e2,e3⟩:=JD hc;obtain⟨y0,y1,y2,y3,m1,_,_,t0,t1,t2,t3⟩:=trod_struct4 Tryz.underlying81 ht;have k22:Tryz.prog.cellsOf 22=1:=by kernel_rfl
   have k9:Tryz.prog.cellsOf 9=1:=by kernel_rfl
   have k31:Tryz.prog.cellsOf 50=1:=by kernel_rfl
   have k4:Tryz.prog.cellsOf 4=1:=by kernel_rfl
   simp only[k22,k9,k31,k4]at t0 t1 t2 t3;obtain⟨k,q0,_,wk⟩:=DataW.trod_int Tryz.underlying22 t0;obtain⟨s,q1,_⟩:=DataW.trod_string Tryz.underlying9 t1;obtain⟨n,q2,_,wn⟩:=DataW.trod_int Tryz.underlying50 t2;obtain⟨bo,q3,_⟩:=DataW.trod_bool Tryz.underlying4 t3;simp at q0 q1 q2 q3
   subst q0 q1 q2 q3;have hk:=bounds_u32 wk;have hn:=bounds_u8 wn;have KF:((k.toNat:Nat):Int)=k:=(by omega);have fF:((n.toNat:Nat):Int)=n:=(by omega);refine⟨(k.toNat,s,n.toNat,bo),⟨show k.toNat<4294967296 by omega,show n.toNat<256 by omega⟩,?_,e1,?_,e3⟩
   ·show _=some (Value.int .u32 ((k.toNat:Nat):Int))
    rw[e0,KF]
   ·show _=some (Value.int .u8 ((n.toNat:Nat):Int))
    rw[e2,fF]
  obtain⟨f,dD⟩:=Deep.choose_lt Vn;have mU:((List.range len).map f).length=len:=by simp
  refine⟨(List.range len).map f,⟨some a1,cap,by rw[mU],by rw[mU];omega,by omega,fun h=>by(cases h),fun h0=>?_⟩,?_⟩
  ·rw[mU]at h0
   obtain⟨b,off,spot⟩:=a1
   have FM:spot=none:=by
    have:=World.cell?_spot (dD 0 (by omega)).2.1;simpa [Addr.add]using this
   subst FM
   have hb:b<W.heap.size:=by
    obtain⟨cs,hc,_⟩:=hcells 0 (by omega);have:=World.cells?_block hc (by omega);simpa [Addr.add]using this
   refine⟨b,off,rfl,hb,fun j x hj=>?_⟩
   have uS:j<len*4:=by
    have:=(List.getElem?_eq_some_iff.1 hj).1;rw[jP,mU]at this;exact this
   have hi:j / 4<len:=(by omega);have Qr:j / 4<((List.range len).map f).length:=by rw[mU];exact hi
   obtain⟨g0,g1,g2,g3⟩:=sK Qr;obtain⟨_,k0,k1,k2,k3⟩:=dD (j / 4) hi;rw[nh,nh]at k0 k1 k2 k3;have kL:((List.range len).map f)[j / 4]=f (j / 4):=by simp
   rw[kL]at g0 g1 g2 g3;obtain h | h | h | h:j=j / 4*4∨j=j / 4*4+1∨j=j / 4*4+2∨j=j / 4*4+3:=by omega
   ·rw[h]at hj ⊢
    rw[g0]at hj;rw[← hj,← k0];rfl
   ·rw[h]at hj ⊢
    rw[g1]at hj;rw[← hj,← k1];rfl
   ·rw[h]at hj ⊢
    rw[g2]at hj;rw[← hj,← k2];rfl
   ·rw[h]at hj ⊢
    rw[g3]at hj;rw[← hj,← k3];rfl
  ·intro x hx
   obtain⟨i,hi,rfl⟩:=jdR.1 hx;exact(dD i (by simpa using hi)).1
theorem EN{H:Type}{enc:TypeId×Value->H}{W:World}{r:Reach}{b0:Nat}{spare:Nat->Bool}{held:Bool}{v:Value}{d:DataW H}{p:List MemPlace}
  (hv:Value.okWide Tryz.prog W r b0 25 v) (h:DataW.Trod enc Tryz.prog W 0 spare held 25 v d p) :
  ∃(id:Nat) (u:Value) (l:List Fd),v=.agg #[.int .u32 (id:Int),u]/\id<4294967296/\Sf W u l/\∀ f∈l,Okf f:=by
 obtain⟨c0,c1,y0,y1,m,rfl,_,_,h0,h1⟩:=open_agg2 Tryz.underlying25 (by kernel_rfl) Xy hv h;obtain⟨k,e0,_,wk⟩:=DataW.trod_int Tryz.underlying22 h0;simp at e0
 subst e0;have hk:=bounds_u32 wk;obtain⟨l,hl,ho⟩:=EM h1;obtain⟨n,rfl⟩:=jeY hk.1;exact⟨n,c1,l,rfl,by omega,hl,ho⟩
end Go.Proofs.YtpljdjmpamjkhaaGreatDoor
