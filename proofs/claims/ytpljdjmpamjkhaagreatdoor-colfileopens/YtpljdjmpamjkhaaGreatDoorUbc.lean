import Derived.Test.YtpljdjmpamjkhaaGreatDoorUbb
import Derived.Lib.SmallJoins
set_option linter.unusedVariables false
set_option linter.unusedSimpArgs false
set_option maxRecDepth 100000
set_option maxHeartbeats 4000000
namespace Go.Proofs.YtpljdjmpamjkhaaGreatDoor
open Go.RowKit Go.Lib
theorem EL:∀(a:List Nat) (x:Nat),leN (a++[x])=leN a+x*2 ^ (8*a.length)
 | [],x=>by simp[leN]
 | y::a,x=>by
  have h:=EL a x
  have e:2 ^ (8*(y::a).length)=256*2 ^ (8*a.length):=by
   rw[jdn,jep,jeh,jdP]
  show y+256*leN (a++[x])=(y+256*leN a)+_
  rw[h,e,jep,Nat.mul_left_comm x 256];omega
theorem join8{n c k:Nat}(hk:k<=3)(hn:n<2 ^ (8*k))(hc:c<256):bits .or .u64 (n:Int) (IntKind.u64.wrap ((c:Int)*2 ^ (8*k)))=((n+c*2 ^ (8*k):Nat):Int):=by
 have h1:2 ^ (8*k)<=2 ^ 24:=jew (by omega) (by omega);have h2:c*2 ^ (8*k)<=255*2 ^ 24:=jeP (by omega) h1;have e:(c:Int)*2 ^ (8*k)=((c*2 ^ (8*k):Nat):Int):=by simp
 rw[e,wraps_u64 _ (by omega) (by omega)]
 have e2:bits .or .u64 (n:Int) ((c*2 ^ (8*k):Nat):Int)=(n:Int)+((c*2 ^ (8*k):Nat):Int):=by
  apply bits_join_low .u64 64 (by decide) wraps_u64 (8*k)
  ·omega
  ·have:(n:Int)<((2 ^ (8*k):Nat):Int):=by omega
   simpa using this
  ·omega
  ·omega
  ·simp
  ·omega
 rw[e2];omega
theorem BB{w:World}{v:Value}{l:List Nat}(hs:Sv w v (aF .u8 l))(h8:Bs l)(hl:l.length<=4) :
  Calls Tryz.prog 138 #[v] w fun e w'=>e=.returned (.int .u64 ((leN l:Nat):Int))/\w'=w:=by
 have HS:=ae hs;obtain⟨a,cap,rfl,ly,kF⟩:=hs.form1;simp only[ap]at *;have H8:=ae h8;clear hs h8;go_enter Tryz.func138,Tryz.ntmps138
 go_wp2_with fail;go_loopw [3,8] (fun n i w'=>w'=w/\∃ k:Nat,k<=l.length/\i=.int .i64 (k:Int)/\n=.int .u64 ((leN (l.take k):Nat):Int)) (fun _ i _=>l.length-(intOf i).toNat)
 case atStart=>exact⟨rfl,0,by omega,rfl,rfl⟩
 case round =>
  obtain⟨rfl,k,hk,rfl,rfl⟩:=hrel;by_cases aC:k<l.length
  ·obtain⟨b,off,rfl,hb,dR⟩:=HS.o.at1 (bS aC)
   have hlt':(k:Int)<(l.length:Int):=(by omega);have oV:=Hx (b:=l.take k) (fun x hx=>H8.o x (jd3 hx));rw[jdo,jeg (by omega)]at oV;have eQ:=H8.o _ (jdl aC);have hj:=join8 (show k<=3 by omega) oV eQ
   have tz:jfb (leN (l.take (k+1))=leN (l.take k)+l[k]*2 ^ (8*k)):=ae (by
    rw[jdx aC,EL,jdo,jeg (by omega)])
   have h9:IntKind.i64.wrap (8*(k:Int))=8*(k:Int):=by rw[jdR];omega
   have nk:(8*(k:Int)).toNat=8*k:=(by omega);have h11:IntKind.u64.wrap ((l[k]:Nat):Int)=((l[k]:Nat):Int):=by rw[jdL];omega
   generalize l[k]=c at *;generalize leN (l.take k)=n at *;go_wp2_with fail;go_roundw
   case rel=>exact⟨trivial,k+1,by omega,by go_num,by rw[tz.o];simp⟩
   case measure=>simp[intOf];omega
  ·obtain rfl:k=l.length:=by omega
   have gL:¬ ((l.length:Nat):Int)<(l.length:Int):=(by omega);go_wp2_with fail;go_ret
   exact⟨rfl,rfl⟩
def spl(b:List Nat):Option (List Nat×List Nat) :=
 if b.length<4 then none else if b.length-4<leN (b.drop (b.length-4)) then none
 else some (b.take (b.length-4-leN (b.drop (b.length-4))),(b.take (b.length-4)).drop (b.length-4-leN (b.drop (b.length-4))))
def nR(p:Nat)(v:Value):Prop:=∀ i,v.ownBlock=some i->i<p
theorem NL{w:World}{v:Value}{b:List Nat}(hs:Sv w v (aF .u8 b))(h8:Bs b)(hl:b.length<=100000000)(hw:nR w.heap.size v) :
  Calls Tryz.prog 95 #[v] w fun e w'=>(∃ v1 v2,e=.returned (.tuple #[v1,v2,.bool (spl b).isSome])/\(∀ x y,spl b=some (x,y)->Sv w' v1 (aF .u8 x)/\Sv w' v2 (aF .u8 y)/\nR w.heap.size v1/\nR w.heap.size v2))/\Below w.heap.size w w':=by
 have HS:=ae hs;obtain⟨a',cap,e,ly,kF,hn,hx⟩:=hs;simp only[ap]at *;subst e;have hc2':cap<=9223372036854775807:=by unfold maxLen at kF;omega
 have oW:b.length<=9223372036854775807:=by omega
 by_cases h4:b.length<4
 ·have HP:jfb (spl b=none):=ae (jdf h4)
  have aC:(b.length:Int)-4<0:=by omega
  clear h8;go_enter Tryz.func95,Tryz.ntmps95
  go_wp2_with fail;go_ret3
  rw[HP.o];exact⟨⟨_,_,rfl,fun x y h=>by cases h⟩,jdg _ _⟩
 ·obtain⟨n,qt⟩:∃ n,b.length=n+4:=⟨b.length-4,by omega⟩
  have hD:=HS.o.dropG (k:=n) (by rw[ap];omega);rw[kE,ap,qt]at hD;obtain⟨A,hA⟩:∃ A,(if cap=n then a' else a'.map fun x=>x.add n)=A:=⟨_,rfl⟩;rw[hA,show n+4-n=4 by omega]at hD
  have hln:leN (b.drop n)<4294967296:=by
   have:=Hx (b:=b.drop n) (fun x hx=>h8 x (jeO hx));rw[jdN,qt,show n+4-n=4 by omega]at this;simpa using this
  have HNU:=ae (BB hD (h8.drop n) (by rw[jdN,qt];omega))
  have HP:jfb (spl b=if n<leN (b.drop n) then none else some (b.take (n-leN (b.drop n)),(b.take n).drop (n-leN (b.drop n)))):=ae (by
   unfold spl;rw[jde h4,show b.length-4=n by omega])
  have oV:(b.length:Int)-4=(n:Int):=by omega
  have qs:¬ (n:Int)<0:=by omega
  have XS:(n:Int)<=(cap:Int):=by omega
  have Zi:(n:Int)<=(b.length:Int):=by omega
  have HAA:=ae hA;have Cx:=ae qt;rw[qt]at ly hw ⊢;clear qt;have hle':((n+4:Nat):Int)-4=(n:Int):=by omega
  clear hD h8 oV hx;generalize hN:leN (b.drop n)=N at *;clear hN;go_enter Tryz.func95,Tryz.ntmps95
  have hBE:∀ p,nR p (.slice a' (n+4) cap)->∀ m k,nR p (.slice (if cap=k then a' else a'.map fun x=>x.add k) m (cap-k)):=fun p hp m k=>jv (m:=m) (k:=k) (c:=cap) hp
  go_wp2_with fail;refine HNU.o.mono ?_;rintro e w1 ⟨rfl,rfl⟩;by_cases ve:n<N
  ·have hgt':(N:Int) > (n:Int):=by omega
   have Fv:jfb (spl b=none):=ae (by rw[HP.o,jdf ve]);clear HP;go_wp2_with fail;go_ret3
   rw[Fv.o];exact⟨⟨_,_,rfl,fun x y h=>by cases h⟩,jdg _ _⟩
  ·have hgt':¬ (N:Int) > (n:Int):=by omega
   obtain⟨m,hm⟩:∃ m,n=m+N:=⟨n-N,by omega⟩;have UA:n-N=m:=(by omega);have Fv:jfb (spl b=some (b.take m,(b.take n).drop m)):=ae (by rw[HP.o,jde ve,UA]);have hT:=HS.o.take (k:=m) (by rw[ap,Cx.o];omega);have hD1:=HS.o.take (k:=n) (by rw[ap,Cx.o];omega);have yE:(aF .u8 b).length=n+4:=by rw[ap];exact Cx.o
   have hD2:=hD1.dropG (k:=m) (by rw[jdo,yE];omega);rw[gK]at hT;rw[gK,kE]at hD2;obtain⟨A2,hA2⟩:∃ A2,(if cap=m then a' else a'.map fun x=>x.add m)=A2:=⟨_,rfl⟩;have hle3:(aF .u8 (b.take n)).length-m=N:=by rw[ap,jdo,Cx.o];omega
   have hB2:=hBE _ hw N m;have bx:¬ cap=m:=(by omega);rw[jde bx]at hA2 hD2 hB2;clear hA2;rw[hle3]at hD2;have hB1:nR w1.heap.size (.slice a' m cap):=fun i hi=>hw i (by cases a' with | none=>cases hi | some x=>exact hi)
   have HT:=ae hT;have yI:=ae hD2;have aR:=ae hB1;have aO:=ae hB2;have qr:(n:Int)-(N:Int)=(m:Int):=(by omega);have kG:(0:Int)<=(m:Int):=(by omega);have LR:(m:Int)<=(cap:Int):=(by omega);have hk4:(m:Int)<=(n:Int):=(by omega);have hk5:(n:Int)<=(cap:Int):=(by omega);have UH:(m:Int).toNat=m:=(by omega);have hk7:(n:Int).toNat=n:=(by omega);have hk8:n-m=N:=(by omega);have hk9:IntKind.i64.wrap (N:Int)=(N:Int):=by rw[jdR];omega
   clear hT hD1 hD2 HP hB1 hB2 hBE UA yE hle3 hw hm;go_wp2_with fail;go_quiet (fail)
   go_wp2_with fail;go_ret3
   rw[Fv.o];refine⟨⟨_,_,rfl,fun x y h=>?_⟩,ar (jdg _ _) _⟩;simp only[Option.some.injEq,Prod.mk.injEq]at h;obtain⟨rfl,rfl⟩:=h;exact⟨HT.o.kept (ar (jdg _ _) _),yI.o.kept (ar (jdg _ _) _),aR.o,aO.o⟩
def R3(W:World)(p:Nat)(c f:List Nat)(fl:Bool):Prop :=
 ∃ a cap a' cap',W.heap[p]?=some (.cells #[.slice a c.length cap,.slice a' f.length cap',.bool fl] 157 (0,0)) /\
  (Sv W (.slice a c.length cap) (aF .u8 c)/\(∀ k,(Value.slice a c.length cap).ownBlock=some k->k<p)/\Bs c) /\
  (Sv W (.slice a' f.length cap') (aF .u8 f)/\(∀ k,(Value.slice a' f.length cap').ownBlock=some k->k<p)/\Bs f)
theorem R3.lt{W:World}{p:Nat}{c f:List Nat}{fl:Bool}(h:R3 W p c f fl):p<W.heap.size:=by obtain⟨_,_,_,_,h,_⟩:=h;exact(Array.getElem?_eq_some_iff.1 h).1
theorem R3.bs{W:World}{p:Nat}{c f:List Nat}{fl:Bool}(h:R3 W p c f fl):Bs c/\Bs f:=by obtain⟨_,_,_,_,_,h1,h2⟩:=h;exact⟨h1.2.2,h2.2.2⟩
theorem R3.kept{W W':World}{p B:Nat}{c f:List Nat}{fl:Bool}(h:R3 W p c f fl)(hb:Below B W W')(hp:p<B):R3 W' p c f fl:=by
 obtain⟨a,cap,a',cap',h1,⟨h2,h3,h4⟩,h5,h6,h7⟩:=h;exact⟨a,cap,a',cap',(hb.block p hp).trans h1,⟨h2.keptW (fun _ k hk=>jdW (h3 k hk) hp) hb,h3,h4⟩,h5.keptW (fun _ k hk=>jdW (h6 k hk) hp) hb,h6,h7⟩
theorem OwnV.of_le{W:World}{B B':Nat}{v:Value}{l:List Cl}(h:OwnV W B v l)(hB:B'<=B):OwnV W B' v l:=by
 refine⟨h.1,?_⟩;rcases h.2 with hn | ⟨g,cap,cur,hv,hb,r⟩
 ·exact .inl hn
 ·exact .inr ⟨g,cap,cur,hv,jdq hB hb,r⟩
theorem iY{W:World}{p i:Nat}(x:Value):Below p W (W.setCell ⟨p,i,none⟩ x):=(jdg p W).setCell (jdh _) x
theorem R3.cells{W:World}{p:Nat}{c f:List Nat}{fl:Bool}(h:R3 W p c f fl) :
  ∃ a cap a' cap',(W.cell? ⟨p,0,none⟩=some (.slice a c.length cap)/\W.cell? ⟨p,1,none⟩=some (.slice a' f.length cap')/\W.cell? ⟨p,2,none⟩=some (.bool fl)) /\
   (W.frozen? ⟨p,0,none⟩=false/\W.frozen? ⟨p,1,none⟩=false/\W.frozen? ⟨p,2,none⟩=false) /\
   (c.length<=cap/\cap<=9223372036854775807/\f.length<=cap'/\cap'<=9223372036854775807) /\
   (Sv W (.slice a c.length cap) (aF .u8 c)/\(∀ k,(Value.slice a c.length cap).ownBlock=some k->k<p)) /\
   (Sv W (.slice a' f.length cap') (aF .u8 f)/\(∀ k,(Value.slice a' f.length cap').ownBlock=some k->k<p)) /\
   (∀ fl',R3 (W.setCell ⟨p,2,none⟩ (.bool fl')) p c f fl') /\
   (∀ k,k<=c.length->∃ A,(if cap=k then a else a.map fun x=>x.add k)=A/\R3 (W.setCell ⟨p,0,none⟩ (.slice A (c.length-k) (cap-k))) p (c.drop k) f fl) /\
   (∀ k,k<=f.length->∃ A,(if cap'=k then a' else a'.map fun x=>x.add k)=A/\R3 (W.setCell ⟨p,1,none⟩ (.slice A (f.length-k) (cap'-k))) p c (f.drop k) fl) /\
   (∀ v g,Sv W v (aF .u8 g)->Bs g->(∀ k,v.ownBlock=some k->k<p)->R3 (W.setCell ⟨p,1,none⟩ v) p c g fl):=by
 obtain⟨a,cap,a',cap',h1,⟨h2,h3,h4⟩,h5,h6,h7⟩:=h;have ek:∀ i (x:Value),Sv (W.setCell ⟨p,i,none⟩ x) (.slice a c.length cap) (aF .u8 c):=fun i x=>h2.keptW (fun _=>h3) (iY x)
 have ei:∀ i (x:Value),Sv (W.setCell ⟨p,i,none⟩ x) (.slice a' f.length cap') (aF .u8 f):=fun i x=>h5.keptW (fun _=>h6) (iY x)
 obtain⟨x1,c1,e1,ly,kF⟩:=h2.form1;obtain⟨x2,c2,e2,Kw,hc4⟩:=h5.form1;rw[ap]at e1 ly e2 Kw;simp only[Value.slice.injEq]at e1 e2;obtain⟨rfl,_,rfl⟩:=e1;obtain⟨rfl,_,rfl⟩:=e2
 refine⟨a,cap,a',cap',⟨by rw[ay h1];rfl,by rw[ay h1];rfl,by rw[ay h1];rfl⟩,⟨by simp[World.frozen?,h1],by simp[World.frozen?,h1],by simp[World.frozen?,h1]⟩,
  ⟨ly,by unfold maxLen at kF;omega,Kw,by unfold maxLen at hc4;omega⟩,⟨h2,h3⟩,⟨h5,h6⟩,fun fl'=>?_,fun k hk=>?_,fun k hk=>?_,fun v g hv hg hvb=>?_⟩
 ·exact⟨a,cap,a',cap',by rw[cO h1];rfl,⟨ek _ _,h3,h4⟩,ei _ _,h6,h7⟩
 ·refine⟨_,rfl,?_⟩
  have hd:=h2.dropG (k:=k) (by rw[ap];exact hk);rw[ap,kE]at hd;have fO:=jv (m:=c.length-k) (k:=k) (c:=cap) h3;refine⟨_,cap-k,a',cap',by rw[cO h1,jdN];rfl,⟨?_,?_,h4.drop k⟩,ei _ _,h6,h7⟩
  ·rw[jdN]
   exact hd.keptW (fun _=>fO) (iY _)
  ·rw[jdN]
   exact fO
 ·refine⟨_,rfl,?_⟩
  have hd:=h5.dropG (k:=k) (by rw[ap];exact hk);rw[ap,kE]at hd;have fO:=jv (m:=f.length-k) (k:=k) (c:=cap') h6;refine⟨a,cap,_,cap'-k,by rw[cO h1,jdN];rfl,⟨ek _ _,h3,h4⟩,?_,?_,h7.drop k⟩
  ·rw[jdN]
   exact hd.keptW (fun _=>fO) (iY _)
  ·rw[jdN]
   exact fO
 ·obtain⟨av,cv,rfl,_,_⟩:=hv.form1
  rw[ap]at *;exact⟨a,cap,av,cv,by rw[cO h1];rfl,⟨ek _ _,h3,h4⟩,hv.keptW (fun _=>hvb) (iY _),hvb,hg⟩
theorem R3.cells2{W U:World}{p:Nat}{c f:List Nat}{fl:Bool}(h:R3 W p c f fl)(hU:Below W.heap.size W U){a:Option Addr}{n cap:Nat}(hc:W.cell? ⟨p,1,none⟩=some (.slice a n cap)) :
  Sv U (.slice a f.length cap) (aF .u8 f)/\∀ i,(Value.slice a f.length cap).ownBlock=some i->i<p:=by
 obtain⟨_,_,a',cap',⟨_,c1,_⟩,_,_,_,⟨s1,s2⟩,_⟩:=(h.kept hU h.lt).cells;rw[hU.cell h.lt,hc]at c1;simp only[Option.some.injEq,Value.slice.injEq]at c1;obtain⟨rfl,rfl,rfl⟩:=c1;exact⟨s1,s2⟩
theorem qh{w:World}{p:Nat}{c f:List Nat}{fl:Bool}(h:R3 w p c f fl)(lo hi:Nat)(h1:lo<=9223372036854775807)(h2:hi<=9223372036854775807) :
  Calls Tryz.prog 141 #[.pointer (some ⟨p,0,none⟩),.int .i64 (lo:Int),.int .i64 (hi:Int)] w fun r w'=>r=.returned (.int .i64 (gd lo hi f:Int))/\R3 w' p c (dE f) (fl || lZ lo hi f)/\Fr p w.heap.size w w':=by
 obtain⟨a,cap,a',cap',⟨c0,c1,c2⟩,⟨f0,f1,f2⟩,⟨l1,l2,l3,l4⟩,_,⟨s1,s2⟩,_,_,k1,_⟩:=h.cells;obtain⟨g1,g2,g3,g4⟩:=fS f;have HG:=ae (AJ h.bs.2 s1);obtain⟨A,hA,hR⟩:=k1 (gt f).2.1 g2;have HF:=ae ((Fr.refl p w.heap.size w).set 1 (.slice A (f.length-(gt f).2.1) (cap'-(gt f).2.1)));have HR:=ae hR;have HB:jfb (lZ lo hi f=!decide ((gt f).2.2=0/\lo<=(gt f).1/\(gt f).1<=hi)):=ae rfl;have HV:jfb (gd lo hi f=if lZ lo hi f=true then 0 else (gt f).1):=ae rfl;have HT:jfb (dE f=f.drop (gt f).2.1):=ae rfl;rw[HT.o];clear h k1 s1 s2 hR HT;generalize lZ lo hi f=bd at *;generalize gd lo hi f=vw at *;generalize gt f=x at *;obtain⟨n,u,er⟩:=x;simp only at *;unfold kL at HG;have hu:(u:Int)<=(f.length:Int):=by omega
 have hw1:IntKind.u64.wrap (lo:Int)=(lo:Int):=by rw[jdL];omega
 have py:IntKind.u64.wrap (hi:Int)=(hi:Int):=by rw[jdL];omega
 obtain⟨A0,Cap,B0,Cap',⟨d0,d1,d2⟩,⟨e0,e1,e2⟩,_,_,_,k2,_,_,_⟩:=HR.o.cells;have HK2:=ae (k2 true);have gD:=ae (HF.o.set 2 (.bool true));clear k2;by_cases her:er=0
 ·subst her
  have fQ:(((0:Nat):Int) != 0)=false:=by simp
  by_cases hlo:n<lo
  ·have hb:bd=true:=by rw[HB.o];simp;omega
   subst hb;have hv:vw=0:=by rw[HV.o];rfl
   subst hv;rw[Bool.or_true];have aC:(n:Int)<(lo:Int):=(by omega);clear HB HV;go_enter Tryz.func141,Tryz.ntmps141
   go_wp2_with fail;refine HG.o.mono ?_;rintro e w1 ⟨rfl,rfl⟩;go_wp2_with fail;go_ret
   exact⟨rfl,HK2.o,gD.o⟩
  ·have hnlt:¬ (n:Int)<(lo:Int):=by omega
   by_cases Kl:hi<n
   ·have hb:bd=true:=by rw[HB.o];simp;omega
    subst hb;have hv:vw=0:=by rw[HV.o];rfl
    subst hv;rw[Bool.or_true];have ve:(n:Int) > (hi:Int):=(by omega);clear HB HV;go_enter Tryz.func141,Tryz.ntmps141
    go_wp2_with fail;refine HG.o.mono ?_;rintro e w1 ⟨rfl,rfl⟩;go_wp2_with fail;go_ret
    exact⟨rfl,HK2.o,gD.o⟩
   ·have hb:bd=false:=by rw[HB.o];simp;omega
    subst hb;have hv:vw=n:=by rw[HV.o];rfl
    subst hv;rw[Bool.or_false];have ve:¬ (vw:Int) > (hi:Int):=(by omega);have hwn:IntKind.i64.wrap (vw:Int)=(vw:Int):=by rw[jdR];omega
    clear HB HV;go_enter Tryz.func141,Tryz.ntmps141
    go_wp2_with fail;refine HG.o.mono ?_;rintro e w1 ⟨rfl,rfl⟩;go_wp2_with fail;go_ret
    exact⟨rfl,HR.o,HF.o⟩
 ·have hb:bd=true:=by rw[HB.o];simp;omega
  subst hb;have hv:vw=0:=by rw[HV.o];rfl
  subst hv;rw[Bool.or_true]
  have fQ:((er:Int) != 0)=true:=by
   have:(er:Int)≠0:=by omega
   simpa using this
  clear HB HV;go_enter Tryz.func141,Tryz.ntmps141
  go_wp2_with fail;refine HG.o.mono ?_;rintro e w1 ⟨rfl,rfl⟩;go_wp2_with fail;go_ret
  exact⟨rfl,HK2.o,gD.o⟩
theorem NM{w:World}{p:Nat}{c f:List Nat}{fl:Bool}(h:R3 w p c f fl)(k n:Nat)(hk:1<=k/\k<=3)(hn:n<=64)(eQ:c.length<=100000000) :
  Calls Tryz.prog 181 #[.pointer (some ⟨p,0,none⟩),.int .u8 (k:Int),.int .i64 (n:Int)] w fun r w'=>∃ v,r=.returned v/\OwnV w' w.heap.size v (iu k n (c,f,fl)).1/\R3 w' p (iu k n (c,f,fl)).2.1 (iu k n (c,f,fl)).2.2.1 (iu k n (c,f,fl)).2.2.2/\Fr p w.heap.size w w':=by
 have aC:=h.lt;have HW:=ae (qh h 0 c.length (by omega) (by omega));have HM:jfb (iu k n (c,f,fl)=((gm k (c.take (gd 0 c.length f)) n).getD [],(c.drop (gd 0 c.length f),dE f,(fl || lZ 0 c.length f) || (gm k (c.take (gd 0 c.length f)) n).isNone))):=ae rfl;have hvl:=rr 0 c.length f;obtain⟨a,cap,a',cap',⟨c0,c1,c2⟩,⟨f0,f1,f2⟩,⟨l1,l2,l3,l4⟩,y1,y2,y3,y4,y5⟩:=h.cells;clear h y1 y2 y3 y4 y5;rw[HM.o];clear HM;obtain⟨g,hg⟩:∃ g,(fl || lZ 0 c.length f)=g:=⟨_,rfl⟩;rw[hg]at HW ⊢;clear hg;generalize gd 0 c.length f=m at *;generalize dE f=rf at *;obtain⟨L,hL⟩:∃ L,(gm k (c.take m) n).getD []=L:=⟨_,rfl⟩;obtain⟨D,hD⟩:∃ D,(gm k (c.take m) n).isNone=D:=⟨_,rfl⟩;rw[hL,hD];have Kg:=ae (And.intro hL hD);clear hL hD;go_enter Tryz.func181,Tryz.ntmps181
 go_wp2_with fail;refine HW.o.mono ?_;rintro e w1 ⟨rfl,ek,dv⟩;clear c0 c1 c2 f0 f1 f2 l1 l2 l3 l4;obtain⟨a,cap,a',cap',⟨c0,c1,c2⟩,⟨f0,f1,f2⟩,⟨l1,l2,l3,l4⟩,⟨t1,t2⟩,y1,y2,y3,y4⟩:=ek.cells;have hT:=t1.take (k:=m) (by rw[ap];exact hvl);rw[gK]at hT;have HC:=ae (NK hT (ek.bs.1.take m) k n);have iO:=ae ek;have gg:=ae dv;have Kv:(m:Int)<=(c.length:Int):=by omega
 have oW:(m:Int)<=(cap:Int):=by omega
 have rS:=ae dv.size;clear ek dv t1 t2 hT y1 y2 y3 y4;go_wp2_with fail;refine HC.o.mono ?_;rintro e w2 ⟨v,l,er,rfl,ho,ht,hb⟩;have ei:=iO.o.kept hb iO.o.lt;have dO:=gg.o.then (hb.mono rS.o)
 have du:=ae ho;have gE:=ae ei;have gD:=ae dO;have Zb:gm k (c.take m) n=none∨∃ y,gm k (c.take m) n=some y:=by cases gm k (c.take m) n<;>simp
 have PS:jfb (L=l/\D=((er:Int) != 0)):=ae (by
  rw[← Kg.o.1,← Kg.o.2];unfold ud at ht;rw[jdf hk,jdf (by omega),jdM]at ht;rcases ht with ⟨rfl,e⟩ | ⟨h0,_,rfl,e⟩
  ·rw[e];exact⟨rfl,by simp⟩
  ·rw[e]
   have:((er:Int) != 0)=true:=by
    have:(er:Int)≠0:=by omega
    simpa using this
   exact⟨rfl,by rw[this];rfl⟩)
 obtain⟨rfl,hd0⟩:=PS.o;have hd:=hd0.symm;clear PS hd0
 have jd:jfb (R3 (w2.setCell ⟨p,2,none⟩ (.bool (g || D))) p c rf (g || D)):=ae (by
  obtain⟨_,_,_,_,_,_,_,_,_,k2,_⟩:=gE.o.cells;exact k2 _)
 have qp:=ae (gD.o.set 2 (.bool (g || D)));clear c0 c1 c2 f0 f1 f2 l1 l2 l3 l4 Kv oW;obtain⟨a2,cap2,a2',cap2',⟨c0,c1,c2⟩,⟨f0,f1,f2⟩,⟨l1,l2,l3,l4⟩,y1,y2,y3,y4,y5⟩:=gE.o.cells;obtain⟨a3,cap3,a3',cap3',⟨q0,q1,q2⟩,z0,x1,z1,z2,x2,y0,x3⟩:=jd.o.cells;have Qp:=q0;rw[show (w2.setCell ⟨p,2,none⟩ (.bool (g || D))).cell? ⟨p,0,none⟩=w2.cell? ⟨p,0,none⟩ from World.cell?_setCell_other _ _ _ _ (by simp),c0]at Qp;simp only[Option.some.injEq,Value.slice.injEq,true_and]at Qp;obtain⟨rfl,rfl⟩:=Qp;obtain⟨A,hA,hR4⟩:=y0 m hvl;have Kv:(m:Int)<=(c.length:Int):=by omega
 have oW:(m:Int)<=(cap2:Int):=by omega
 have Aq:=ae hR4;have xT:=ae (qp.o.set 0 (.slice A (c.length-m) (cap2-m)));have eR:=ae (show OwnV _ w1.heap.size v L from Fr.own (((Fr.refl p w2.heap.size w2).set 2 (.bool (g || D))).set 0 (.slice A (c.length-m) (cap2-m))) du.o iO.o.lt);have HSZ1:=ae rS.o;clear y0 y1 y2 y3 y4 y5 x1 x2 x3 hR4 ei dO hb ho ht Zb q0 q1 q2 z0 z1 z2;have hsz0:w.heap.size<=w1.heap.size:=rS.o;rcases g with _ | _<;>rcases D with _ | _
 all_goals
  go_wp2_with fail;go_ret
  exact⟨_,rfl,OwnV.of_le eR.o HSZ1.o,Aq.o,xT.o⟩
theorem EM{w:World}{p:Nat}{c f:List Nat}{fl:Bool}(h:R3 w p c f fl){v:Value}{l:List Cl}(hs:Sv w v (aJ l))(hf:∀ x∈l,aV x)(hl:l.length<=256) :
  Calls Tryz.prog 182 #[.pointer (some ⟨p,0,none⟩),v] w fun r w'=>r=.returned (uC (cy l))/\R3 w' p (qa l (c,f,fl)).1 (qa l (c,f,fl)).2.1 (qa l (c,f,fl)).2.2/\Fr p w.heap.size w w':=by
 have aC:=h.lt;have cm:=Stb.new w stZ;have dY:=ak w (.cells #[.int .i64 0,.int .i64 0,.bool false,.bool false,.int .u8 0,.int .i64 0,.string ⟨#[]⟩,.int .u8 0,.int .i64 0,.string ⟨#[]⟩] 54);have hz0':Stb (w.alloc (.cells #[.int .i64 0,.int .i64 0,.bool false,.bool false,.int .u8 0,.int .i64 0,.string ⟨#[]⟩,.int .u8 0,.int .i64 0,.string ⟨#[]⟩] 54)) w.heap.size stZ:=cm;have yy:=hs.kept dY;have XZ:=ae (h.kept dY aC);obtain⟨⟨M1,M2,M3⟩,hM⟩:∃ R:S3,qa l (c,f,fl)=R:=⟨_,rfl⟩;have HM:jfb ((M1,M2,M3)=if (ew (cy l)).isPrefixOf f=true then (c,f.drop (ew (cy l)).length,fl) else (c,f,true)):=ae (hM.symm.trans rfl);rw[hM];clear hM;obtain⟨m1,m2⟩:=kz hf;obtain⟨nn,m3,m4⟩:=lh l;have m5:∃ n:Nat,(cy l).nulls=(n:Int)/\n<=1000000:=⟨nn,m3,by omega⟩;have cT:=ae (nN m1 m2 m5);have ur:=ae (oN m1 m2 m5).2;have HSS:=ae (zH yy hf (by omega));have HZ0:=ae hz0';have cE:=ae dY;have sA:(w.alloc (.cells #[.int .i64 0,.int .i64 0,.bool false,.bool false,.int .u8 0,.int .i64 0,.string ⟨#[]⟩,.int .u8 0,.int .i64 0,.string ⟨#[]⟩] 54)).heap.size=w.heap.size+1:=jdi _ _;have rS:=ae sA;obtain⟨a,cap,rfl,aY,bx⟩:=hs.form1;rw[aG]at *;clear hs hf dY cm hz0' yy m1 m2 m3 m4 m5 sA h;generalize hA:w.alloc (.cells #[.int .i64 0,.int .i64 0,.bool false,.bool false,.int .u8 0,.int .i64 0,.string ⟨#[]⟩,.int .u8 0,.int .i64 0,.string ⟨#[]⟩] 54)=A at *;generalize ew (cy l)=sb at *;generalize cy l=st at *;obtain⟨x1,x2,x3,x4,⟨y1,y2,y3⟩,z1,z2,z3⟩:=st;unfold uC at *;simp only at *;go_enter Tryz.func182,Tryz.ntmps182
 go_wp2_with fail;try rw[hA]
 refine HSS.o.mono ?_;rintro e w1 ⟨rfl,aH⟩;have sj:=ae (XZ.o.kept aH XZ.o.lt);have aR:=ae aH;have HZ1:=ae (HZ0.o.kept aH);have uP:=ak w1 (.cells #[.int .i64 x1,.int .i64 x2,.bool x3,.bool x4,.int .u8 (y1:Int),.int .i64 y2,.string (am y3),.int .u8 (z1:Int),.int .i64 z2,.string (am z3)] 54);have HQ:=ae (show Stb _ w1.heap.size ⟨x1,x2,x3,x4,(y1,y2,y3),(z1,z2,z3)⟩ from Stb.new w1 ⟨x1,x2,x3,x4,(y1,y2,y3),(z1,z2,z3)⟩);have jd:=ae (sj.o.kept uP sj.o.lt);have LM:=ae (HZ1.o.kept uP);have aO:=ae uP;have sB:(w1.alloc (.cells #[.int .i64 x1,.int .i64 x2,.bool x3,.bool x4,.int .u8 (y1:Int),.int .i64 y2,.string (am y3),.int .u8 (z1:Int),.int .i64 z2,.string (am z3)] 54)).heap.size=w1.heap.size+1:=jdi _ _;have HSB:=ae sB;clear aH uP hA XZ HZ0 sB;generalize hB:w1.alloc (.cells #[.int .i64 x1,.int .i64 x2,.bool x3,.bool x4,.int .u8 (y1:Int),.int .i64 y2,.string (am y3),.int .u8 (z1:Int),.int .i64 z2,.string (am z3)] 54)=B at *;go_upto_region 2 with fail
 try rw[hB]
 obtain⟨a1,cap1,a1',cap1',⟨c0,c1,c2⟩,⟨f0,f1,f2⟩,⟨l1,l2,l3,l4⟩,k1,⟨s1,s2⟩,k3,k4,k5,k6⟩:=jd.o.cells;obtain⟨_,⟨q0,q1,q2,q3⟩,⟨q4,q5,q6⟩,q7,q8,q9⟩:=HQ.o.at;simp only[jdK]at q0 q1 q2 q3 q4 q5 q6 q7 q8 q9
 have VH:jfb (∀ U,Below B.heap.size B U->Calls Tryz.prog 84 #[.agg #[.int .i64 x1,.int .i64 x2,.bool x3,.bool x4,.int .u8 (y1:Int),.int .i64 y2,.string (am y3),.int .u8 (z1:Int),.int .i64 z2,.string (am z3)]] U fun e w'=>∃ v,e=.returned v/\Sv w' v (aF .u8 sb)/\Below B.heap.size B w'/\w'.cell? ⟨p,1,none⟩=some (.slice a1' f.length cap1')):=ae (fun U hU=>by
  refine(cT.o U).mono ?_;rintro e w' ⟨⟨v,rfl,ho⟩,hb⟩;have xS:=ai hU hb;exact⟨v,rfl,ho.sv,xS,(xS.cell jd.o.lt).trans c1⟩)
 have Ql:jfb (∀ U vb,Below B.heap.size B U->Sv U vb (aF .u8 sb)->Calls Tryz.prog 52 #[.slice a1' f.length cap1',vb] U fun e w'=>(∃ v,e=.returned (.tuple #[v,.bool (sb.isPrefixOf f)])/\Sv w' v (aF .u8 (if sb.isPrefixOf f=true then f.drop sb.length else f))/\∀ i,v.ownBlock=some i->i<p)/\w'=U):=ae (fun U vb hU hvb=>by
  refine(EK (jd.o.cells2 hU c1).1 hvb jd.o.bs.2 ur.o).mono ?_;rintro e w' ⟨⟨v,rfl,hv,hvp⟩,rfl⟩;exact⟨⟨v,rfl,hv,hvp p (jd.o.cells2 hU c1).2⟩,rfl⟩)
 clear k1 s1 s2 k3 k4 k5 k6;generalize sb.isPrefixOf f=px at *;go_cut [6,7] from 10 (fun s6 s7 wx=>s7=.bool px/\Sv wx s6 (aF .u8 (if px=true then f.drop sb.length else f))/\(∀ i,s6.ownBlock=some i->i<p)/\Below B.heap.size B wx)
 case first =>
  refine wp_region_noPanic ?_
  go_region_law (first
   | (go_simp;go_at_call 84;refine(VH.o _ ?_).mono ?_;exact ar (jdg B.heap.size B) _;rintro e w5 ⟨v5,rfl,nW,br,hc5⟩;have sd:=ae nW;have aS:=ae br;clear nW br;dsimp only)
   | (go_simp;go_at_call 52;refine(Ql.o _ _ aS.o sd.o).mono ?_;rintro e w6 ⟨⟨v6,rfl,yC,hp6⟩,rfl⟩;have HS6:=ae yC;have HP6:=ae hp6;clear yC hp6;dsimp only)
   | fail)
  all_goals refine NoPanic.normal ?_
  all_goals (go_wp2_with fail;go_meet)
  all_goals exact⟨rfl,HS6.o,HP6.o,aS.o⟩
 case rest =>
 clear c0 c1 c2 f0 f1 f2 l1 l2 l3 l4 q0 q1 q2 q3 q4 q5 q6 q7 q8 q9 VH Ql cT HSS;obtain⟨rfl,yC,hp6,dP⟩:=hcut;have HG:jfb (Bs (if px=true then f.drop sb.length else f)):=ae (by have:=jd.o.bs.2;split;exact this.drop _;exact this);have Zu:=jd.o.kept dP jd.o.lt;have iD:=LM.o.kept dP;have LO:=HQ.o.kept dP;have lm:Below w.heap.size w wc:=ai cE.o (ai aR.o (ai aO.o dP));have hsw:w.heap.size<w1.heap.size:=by have:=rS.o;have:=aR.o.size;omega
 have jx:w.heap.size<=wc.heap.size:=lm.size;obtain⟨g,hg⟩:∃ g,(fl || !px)=g:=⟨_,rfl⟩;obtain⟨G,hG⟩:∃ G,(if px=true then f.drop sb.length else f)=G:=⟨_,rfl⟩;rw[hG]at yC HG
 have KA:jfb ((M1,M2,M3)=(c,G,g)):=ae (by
  rw[HM.o,← hG,← hg];cases px<;>simp)
 have iz:Fr p w.heap.size w wc:=Fr.of_below lm;obtain⟨a1,cap1,a1',cap1',⟨c0,c1,c2⟩,⟨f0,f1,f2⟩,⟨l1,l2,l3,l4⟩,k1,k2,k3,k4,k5,k6⟩:=Zu.cells;have Zv:=k3 g;have pE:=iz.set 2 (.bool g);obtain⟨_,_,_,_,_,_,_,_,_,_,_,_,k7⟩:=Zv.cells;have Qo:=k7 u6 G (yC.keptW (fun _=>hp6) (iY _)) HG.o hp6;have jz:=pE.set 1 u6;have hq5:=(LO.other (p:=p) (by have:=aC;omega) 2 (.bool g)).other (p:=p) (by have:=aC;omega) 1 u6;have vk:=(iD.other (p:=p) (by have:=aC;omega) 2 (.bool g)).other (p:=p) (by have:=aC;omega) 1 u6;have jk:=SI (W:=(wc.setCell ⟨p,2,none⟩ (.bool g)).setCell ⟨p,1,none⟩ u6) (jdg w.heap.size _) (jdh _) (.int .i64 x1) (.int .i64 x2) (.bool x3) (.bool x4) (.int .u8 (y1:Int)) (.int .i64 y2) (.string (am y3)) (.int .u8 (z1:Int)) (.int .i64 z2) (.string (am z3));have Ga:=ae (Qo.kept jk aC);have Gb:=ae (jz.trans (Fr.of_below jk));obtain⟨_,⟨q0,q1,q2,q3⟩,⟨q4,q5,q6⟩,q7,q8,q9⟩:=LO.at;obtain⟨_,⟨r0,r1,r2,r3⟩,⟨r4,r5,r6⟩,r7,r8,r9⟩:=iD.at;simp only[jdK]at q0 q1 q2 q3 q4 q5 q6 q7 q8 q9 r0 r1 r2 r3 r4 r5 r6 r7 r8 r9;have fg:=LO.frozen;have fz:=iD.frozen;have XS:¬ w1.heap.size=w.heap.size:=by omega
 have Zi:¬ w.heap.size=w1.heap.size:=by omega
 have hn3:¬ p=w.heap.size:=by omega
 have hn4:¬ p=w1.heap.size:=by omega
 have hn5:¬ w.heap.size=p:=by omega
 have hn6:¬ w1.heap.size=p:=by omega
 have ie:∃ a6 n6 c6,u6=.slice a6 n6 c6:=by obtain⟨_,_,h,_⟩:=yC.form1;exact⟨_,_,_,h⟩
 obtain⟨a6,n6,c6,rfl⟩:=ie;clear k1 k2 k3 k4 k5 k6 k7 Zv pE Qo jz hq5 vk jk Zu iD LO yC hp6 dP iz hG lm HM
 have Cf:jfb (∀ W,R3 W p c G g->R3 W p M1 M2 M3):=ae (fun W hW=>by
  have e:=KA.o;simp only[Prod.mk.injEq]at e;rw[e.1,e.2.1,e.2.2];exact hW)
 cases fl<;>cases px
 all_goals
  simp only[Bool.not_true,Bool.not_false,Bool.or_false,Bool.or_true,Bool.true_or,Bool.false_or]at hg;subst hg;go_wp2_with fail;refine bodyPost_ret (v:=.agg #[.int .i64 x1,.int .i64 x2,.bool x3,.bool x4,.int .u8 (y1:Int),.int .i64 y2,.string (am y3),.int .u8 (z1:Int),.int .i64 z2,.string (am z3)]) (by simp[results,Tryz.results182,go_sem,XS,Zi,hn3,hn4,hn5,hn6,r0,r1,r2,r3,r4,r5,r6,r7,r8,r9]) rfl ⟨rfl,Cf.o _ Ga.o,Gb.o⟩
def Ss(W:World)(v:Value)(l:List Stt):Prop:=∃ a cap,v=.slice a l.length cap/\l.length<=cap/\cap<=maxLen/\(0<l.length->∃ b off,a=some ⟨b,off,none⟩/\∀ j (h:j<l.length),Hn W b (off+j*10) l[j])
theorem Ss.kept{W W':World}{v:Value}{l:List Stt}(h:Ss W v l)(hb:Below W.heap.size W W'):Ss W' v l:=by
 obtain⟨a,cap,h1,h2,h3,h4⟩:=h;refine⟨a,cap,h1,h2,h3,fun h0=>?_⟩;obtain⟨b,off,h5,h6⟩:=h4 h0;exact⟨b,off,h5,fun j h=>(h6 j h).kept hb⟩
theorem Ss.form{W:World}{v:Value}{l:List Stt}(h:Ss W v l):∃ a cap,v=.slice a l.length cap/\l.length<=cap/\cap<=maxLen:=by
 obtain⟨a,cap,h1,h2,h3,_⟩:=h;exact⟨a,cap,h1,h2,h3⟩
theorem Ss.at{W:World}{a:Option Addr}{n cap:Nat}{l:List Stt}(h:Ss W (.slice a n cap) l){i:Nat}(hi:i<l.length):∃ g o,a=some ⟨g,o,none⟩/\Hn W g (o+i*10) l[i]:=by
 obtain⟨a',cap',e,_,_,h4⟩:=h;simp only[Value.slice.injEq]at e;obtain⟨rfl,_,_⟩:=e;obtain⟨g,o,rfl,h6⟩:=h4 (by omega);exact⟨g,o,rfl,h6 i hi⟩
def tg(W:World)(q si:Nat)(fv sv:Value)(l:List Fd)(r:List Stt):Prop :=
 q<W.heap.size/\W.cell? ⟨q,0,none⟩=some (.int .u32 (si:Int))/\W.cell? ⟨q,1,none⟩=some fv/\W.cell? ⟨q,2,none⟩=some sv/\Sf W fv l/\Ss W sv r
theorem tg.kept{W W':World}{q si:Nat}{fv rv:Value}{l:List Fd}{r:List Stt}(h:tg W q si fv rv l r)(hb:Below W.heap.size W W'):tg W' q si fv rv l r:=by
 obtain⟨h0,h1,h2,h3,h4,h5⟩:=h;have e:∀ o,W'.cell? ⟨q,o,none⟩=W.cell? ⟨q,o,none⟩:=fun o=>(kP hb).1 q o h0
 exact⟨jdD h0 hb.size,by rw[e];exact h1,by rw[e];exact h2,by rw[e];exact h3,h4.kept hb,h5.kept hb⟩
theorem EN{l:List Fd}{r:List Stt}{op f:Nat}{c:Cl}(h:iI l f=none):kx l r op f c=(true,true,true):=by unfold kx;rw[h]
theorem EO{l:List Fd}{r:List Stt}{op f j:Nat}{c:Cl}(h:iI l f=some j)(hj:¬ j<r.length):kx l r op f c=(true,true,true):=by
 unfold kx;rw[h];simp only;rw[List.getElem?_eq_none (by omega)]
theorem NN{l:List Fd}{r:List Stt}{op f j:Nat}{c:Cl}(h:iI l f=some j)(hj:j<r.length):kx l r op f c=Hk op c r[j]:=by
 unfold kx;rw[h];simp only;rw[List.getElem?_eq_getElem hj]
open Go.ChangeShapes Go.WideShapes Go.ChangeAt Go.Joins
theorem own:ownKnob Tryz.prog.godebug=none:=by kernel_rfl
theorem Xg:laidOutB Tryz.prog=true:=by kernel_rfl
theorem NO{W:World}{B:Nat}{a:Addr}{cs:List Value}(h:W.cells? B a 1=some cs):∃ c,cs=[c]/\W.cell? a=some c:=by
 obtain⟨_,hl,hc⟩:=World.cells?_some h;match cs,hl with
 | [c],_=>exact⟨c,rfl,by simpa [Addr.add]using hc 0 (by omega)⟩
theorem jaJ:Tryz.prog.cellsOf 5=1:=by kernel_rfl
theorem Jz{H:Type}{enc:TypeId×Value->H}{W:World}{spare:Nat->Bool}{held:Bool}{a:Option Addr}{len cap:Nat}{d:DataW H}{p:List MemPlace}
  (h:DataW.Trod enc Tryz.prog W 0 spare held 30 (.slice a len cap) d p):∃ l:List Nat,Sv W (.slice a len cap) (aF .u8 l)/\Bs l:=by
 obtain⟨fuel,hf⟩:=h;rcases Deep.open_slice Tryz.underlying30 hf with ⟨h1,_⟩ | ⟨a1,l1,c1,m,n,D,Pl,h1,_,hlc,hm,hmm,_,hcells⟩
 ·simp[Value.cells]at h1
  obtain⟨rfl,rfl,rfl⟩:=h1;exact⟨[],Sv.nil _,fun x hx=>by simp at hx⟩
 ·simp[Value.cells]at h1
  obtain⟨rfl,rfl,rfl⟩:=h1;rw[jaJ]at hcells;have hlm:len<=m:=by rw[hmm];split<;>omega
  have hone:∀ i,i<len->∃ x:Nat,x<256/\W.cell? (a1.add i)=some (.int .u8 (x:Int)):=by
   intro i hi;obtain⟨cs,hc,ht⟩:=hcells i (by omega);rw[jeG]at hc;obtain⟨c0,rfl,e0⟩:=NO hc;obtain⟨k,q0,_,wk⟩:=DataW.trod_int Tryz.underlying5 ht;simp at q0
   subst q0;have hb:=bounds_u8 wk;refine⟨k.toNat,by omega,?_⟩;rw[e0];congr 2
   omega
  obtain⟨f,dO⟩:=Deep.choose_lt hone;have bR:(aF .u8 ((List.range len).map f)).length=len:=by simp[aF]
  refine⟨(List.range len).map f,⟨some a1,cap,by rw[bR],by omega,by omega,fun h=>(by cases h),fun h0=>?_⟩,?_⟩
  ·obtain⟨b,off,spot⟩:=a1
   have hspot:spot=none:=by
    have:=World.cell?_spot (dO 0 (by omega)).2;simpa [Addr.add]using this
   subst hspot
   have hb:b<W.heap.size:=by
    obtain⟨cs,hc,_⟩:=hcells 0 (by omega);have:=World.cells?_block hc (by omega);simpa [Addr.add]using this
   refine⟨b,off,rfl,hb,fun j x hj=>?_⟩
   have rX:j<len:=by
    have:=(List.getElem?_eq_some_iff.1 hj).1;omega
   have h3:=(dO j rX).2;rw[pI]at h3;rw[h3,← hj];simp[aF,rX]
  ·intro x hx
   obtain⟨i,hi,rfl⟩:=jdE.1 hx;exact(dO i (by simpa using hi)).1
theorem jaK:(Tryz.prog.info? 58).map (fun i=>(i.zero,i.size,i.bytes))=some (some (.slice none 0 0),1,24):=by kernel_rfl
theorem jaL:(Tryz.prog.info? 54).map (fun i=>(i.zero,i.size,i.bytes))=some (some (.agg #[.int .i64 0,.int .i64 0,.bool false,.bool false,.int .u8 0,.int .i64 0,.string ⟨#[]⟩,.int .u8 0,.int .i64 0,.string ⟨#[]⟩]),10,88):=by kernel_rfl
def Sr(W:World)(v:Value)(rs:List (List Cl)):Prop :=
 ∃ a cap,v=.slice a rs.length cap/\rs.length<=cap/\cap<=maxLen/\(0<rs.length->∃ b off,a=some ⟨b,off,none⟩/\b<W.heap.size/\∀ j (h:j<rs.length),∃ rv,W.cell? ⟨b,off+j,none⟩=some rv/\Sc W rv rs[j])
theorem Sr.kept{W W':World}{v:Value}{rs:List (List Cl)}(h:Sr W v rs)(hb:Below W.heap.size W W'):Sr W' v rs:=by
 obtain⟨a,cap,h1,h2,h3,h4⟩:=h;refine⟨a,cap,h1,h2,h3,fun h0=>?_⟩;obtain⟨b,off,h5,h6,h7⟩:=h4 h0;refine⟨b,off,h5,jdD h6 hb.size,fun j hj=>?_⟩;obtain⟨rv,h8,h9⟩:=h7 j hj;exact⟨rv,(hb.cell (p:=⟨b,off+j,none⟩) h6).trans h8,h9.kept hb⟩
theorem Sr.form{W:World}{v:Value}{rs:List (List Cl)}(h:Sr W v rs):∃ a cap,v=.slice a rs.length cap/\rs.length<=cap/\cap<=maxLen:=by
 obtain⟨a,cap,h1,h2,h3,_⟩:=h;exact⟨a,cap,h1,h2,h3⟩
theorem Sr.at{W:World}{a:Option Addr}{n cap:Nat}{rs:List (List Cl)}(h:Sr W (.slice a n cap) rs){k:Nat}(hk:k<rs.length) :
  ∃ b off rv,a=some ⟨b,off,none⟩/\b<W.heap.size/\W.cell? ⟨b,off+k,none⟩=some rv/\Sc W rv rs[k]:=by
 obtain⟨a',cap',e,h1,h2,h4⟩:=h;simp only[Value.slice.injEq]at e;obtain⟨rfl,_,_⟩:=e;obtain⟨b,off,rfl,h5,h6⟩:=h4 (by omega);obtain⟨rv,h7,h8⟩:=h6 k hk;exact⟨b,off,rv,rfl,h5,h7,h8⟩
theorem zR{W:World}{B B' e size n:Nat}{v:Value}{xs:List Value}(h:W.ownsRow B e size v n xs)(hb:B'<=B):W.ownsRow B' e size v n xs:=by
 rcases h with ⟨h0,h1 | ⟨g,cap,cur,rfl,h2,h3⟩⟩
 ·exact⟨h0,.inl h1⟩
 ·exact⟨h0,.inr ⟨g,cap,cur,rfl,jdq hb h2,h3⟩⟩
def rJ(l:List Stt):List Value:=l.flatMap celS
theorem rK:∀ l:List Stt,(rJ l).length=l.length*10
 | []=>rfl
 | c::t=>by
  show (celS c++rJ t).length=_
  rw[jdj,rK t,jdn];simp[celS]
  omega
theorem zS:∀{l:List Stt} {j:Nat} (h:j<l.length) {i:Nat} (hi:i<10),(rJ l)[j*10+i]?=(celS l[j])[i]?
 | c::t,0,h,i,hi=>by
  show (celS c++rJ t)[0*10+i]?=_
  rw[List.getElem?_append_left (by simp[celS];omega)];simp
 | c::t,j+1,h,i,hi=>by
  have ih:=zS (l:=t) (j:=j) (by simpa using h) hi;show (celS c++rJ t)[(j+1)*10+i]?=_
  rw[List.getElem?_append_right (by simp[celS];omega)];simp only[celS,jdn,jdI];rw[show (j+1)*10+i-(0+1+1+1+1+1+1+1+1+1+1)=j*10+i by omega,ih];rfl
def jaM(W:World)(B:Nat)(v:Value)(l:List Stt):Prop:=W.ownsRow B 54 10 v l.length (rJ l)
theorem jaM.ss{W:World}{B:Nat}{v:Value}{l:List Stt}(h:jaM W B v l):Ss W v l:=by
 rcases h with ⟨h0,⟨rfl,h1⟩ | ⟨g,cap,cur,rfl,h2,h3,h4,h5,h6,h7⟩⟩
 ·refine⟨none,0,by rw[h1],by omega,by unfold maxLen;omega,fun h=>by omega⟩
 ·refine⟨_,cap,rfl,h4,h5,fun _=>⟨g,0,rfl,fun j hj=>?_⟩⟩
  have hc:∀ i,i<10->W.cell? ⟨g,0+j*10+i,none⟩=(celS l[j])[i]?:=fun i hi=>by
   rw[jdK,← zS hj hi];have aC:j*10+i<(rJ l).length:=by rw[rK];omega
   obtain⟨x,hx⟩:∃ x,(rJ l)[j*10+i]?=some x:=⟨_,List.getElem?_eq_getElem aC⟩;rw[hx];simp only[World.cell?,h3];have Qd:(rJ l)[j*10+i]?=some x:=by rw[hx]
   rw[← h7]at Qd;have jJ:=(List.getElem?_eq_some_iff.1 Qd).1;rw[jdo]at jJ;rw[List.getElem?_take_of_lt (by omega)]at Qd;simpa using Qd
  exact⟨(Array.getElem?_eq_some_iff.1 h3).1,⟨hc 0 (by omega),hc 1 (by omega),hc 2 (by omega),hc 3 (by omega)⟩,⟨hc 4 (by omega),hc 5 (by omega),hc 6 (by omega)⟩,hc 7 (by omega),hc 8 (by omega),hc 9 (by omega)⟩
end Go.Proofs.YtpljdjmpamjkhaaGreatDoor
