import Derived.Test.YtpljdjmpamjkhaaGreatDoorXai
set_option linter.unusedVariables false
set_option linter.unusedSimpArgs false
set_option maxRecDepth 100000
set_option maxHeartbeats 8000000
namespace Go.Proofs.YtpljdjmpamjkhaaGreatDoor
open Go.RowKit Go.Lib
def Laid(W:World)(B:Nat)(v:Value)(t V:Nat):Prop :=
 ∃ bs:List Nat,W.ownsRow B 5 1 v (by8 t) (aF .u8 bs)/\bs.length=by8 t/\(∀ x∈bs,x<256)/\pk 8 bs=V
def MQ(W:World)(B:Nat)(v:Value)(t V:Nat):Prop :=
 ∃ bs:List Nat,W.ownsRow B 5 1 v (by8 (t+1)) (aF .u8 bs)/\bs.length=by8 (t+1)/\(∀ x∈bs,x<256)/\pk 8 bs=V
theorem Laid.room{W:World}{B:Nat}{v:Value}{t V:Nat}(h:Laid W B v t V)(h0:t % 8≠0):MQ W B v t V:=by
 obtain⟨bs,h1,h2,h3,h4⟩:=h;have e:=(MN h0).1;exact⟨bs,by rw[e];exact h1,by rw[e];exact h2,h3,h4⟩
theorem MQ.skip{W:World}{B:Nat}{v:Value}{t V:Nat}(h:MQ W B v t V):Laid W B v (t+1) V:=h
theorem qQ(t:Nat):t / 8<by8 (t+1)/\0<by8 (t+1):=by unfold by8;omega
theorem MQ.lay{W:World}{B:Nat}{v:Value}{t V r j p L:Nat}(h:MQ W B v t V)(hV:V<2 ^ t)(hr:t % 8=r)(hj:t / 8=j)(hp:2 ^ r=p)(hL:by8 (t+1)=L) :
  ∃ g cap x c:Nat,v=.slice (some ⟨g,0,none⟩) L cap/\B<=g/\g<W.heap.size/\W.cell? ⟨g,j,none⟩=some (.int .u8 (x:Int))/\W.frozen? ⟨g,j,none⟩=false /\
   c<256/\(x:Int)+(p:Int)=(c:Int)/\Laid (W.setCell ⟨g,j,none⟩ (.int .u8 (c:Int))) B v (t+1) (V+2 ^ t):=by
 subst hr hj hp hL;obtain⟨bs,h1,h2,h3,h4⟩:=h;obtain⟨g,cap,rfl,hB,hg⟩:=oJ h1 (qQ t).2;have hj:t / 8<bs.length:=by rw[h2];exact(qQ t).1
 have hx:=Dm h3 (by rw[h4];exact hV) hj;have hp:2 ^ (t % 8)<=2 ^ 7:=jeL (by omega) (by omega);have hs:=RM hj 1;rw[jeB,jeB,h4]at hs;have kJ:=(h1.stored (t / 8) (.int .u8 ((bs[t / 8]+2 ^ (t % 8):Nat):Int))).1;rw[kn]at kJ
 exact⟨g,cap,bs[t / 8],bs[t / 8]+2 ^ (t % 8),rfl,hB,hg,(h1.cellAt (t / 8) (by rw[jeV];exact(qQ t).1)).trans (bU hj),h1.frozenAt _,by omega,by omega,
  _,kJ,by rw[jeS];exact h2,RN h3 (by omega),hs⟩
theorem pow8{r:Nat}(h:r<8):IntKind.u8.wrap (2 ^ r)=((2 ^ r:Nat):Int):=by
 have hp:2 ^ r<=2 ^ 7:=jeL (by omega) (by omega);have e:(2:Int) ^ r=((2 ^ r:Nat):Int):=by simp
 rw[e];generalize 2 ^ r=p at *;rw[wraps_u8 _ (by omega) (by omega)]
theorem jaw{V n k t0:Nat}(h:n / 2 ^ k % 2=1):V+n % 2 ^ k*2 ^ t0+2 ^ (t0+k)=V+n % 2 ^ (k+1)*2 ^ t0:=by
 rw[qM n k,h,jeV,jd9,jex,jd4 (2 ^ t0) (2 ^ k)];omega
theorem WH{V n k t0:Nat}(h:n / 2 ^ k % 2=0):V+n % 2 ^ k*2 ^ t0=V+n % 2 ^ (k+1)*2 ^ t0:=by
 rw[qM n k,h,Nat.mul_zero,jej]
theorem RT{V n k t0:Nat}(h:V<2 ^ t0):V+n % 2 ^ k*2 ^ t0<2 ^ (t0+k):=ze h
theorem Dq{w:World}{v:Value}{l:List Nat}(hs:Sx .u64 w v l)(kM:∀ x∈l,x<18446744073709551616)(ww:Nat)(PI:ww<=64)(hl:l.length<=256)(LJ:wd l<=ww) :
  Calls Tryz.prog 134 #[v,.int .i64 (ww:Int)] w fun e w'=>∃ v',e=.returned (.tuple #[v',.bool true])/\Laid w' w.heap.size v' (l.length*ww) (pk ww l)/\Below w.heap.size w w':=by
 have HW:=ae (jO hs kM);obtain⟨a,cap,rfl,hm,eQ⟩:=hs;have uT:¬ ((wd l:Nat):Int) > (ww:Int):=by omega
 have hw0:decide ((ww:Int)<0)=false:=jdK (by omega);have hw1:decide (64<(ww:Int))=false:=jdK (by omega);have hw3:decide (ww<wd l)=false:=jdK (by omega);have qs:decide (256<(l.length:Int))=false:=jdK (by omega);have HF:=ae (qG.1 LJ);have HC:=ae eQ;have BR:=ae kM;obtain⟨i0,hi,ct,hz1',bv⟩:=jdP jk;clear eQ kM LJ hm;go_enter Tryz.func134,Tryz.ntmps134
 go_wp2_with fail;refine HW.o.mono ?_;rintro e w2 ⟨rfl,rfl⟩;go_wp2_with fail;go_loopw [6,7,8] (fun out at_ ii wr=>∃ i t:Nat,ii=.int .i64 (i:Int)/\at_=.int .i64 (t:Int)/\i<=l.length/\t=i*ww/\Laid wr w2.heap.size out t (pk ww (l.take i))/\Below w2.heap.size w2 wr) (fun _ _ ii _=>l.length-(intOf ii).toNat)
 case atStart=>exact⟨0,0,rfl,rfl,by omega,by simp,⟨[],gD _ _ _,rfl,by simp,by simp[pk]⟩,jdv _ _⟩
 case round =>
  obtain⟨i,t0,rfl,rfl,hil,Zk,uh,az⟩:=hrel;have Kj:=ae uh;have HB:=ae az;have HT0:=ae Zk;by_cases aB:i<l.length
  ·obtain⟨b,off,rfl,hb,br⟩:=HC.o (by omega)
   have nk:=ae (br i aB);have hn64:=BR.o _ (jdA aB);have dC:=HF.o _ (jdA aB);have rQ:=ae (qD ww aB);have HV0:=ae (Do HF.o hil)
   have XZ:t0<=16384:=by
    rw[Zk];exact jdF (je2 (show i<=256 by omega) PI) (by omega)
   rw[← Zk]at HV0;clear br uh az Zk;have jbg:=ae dC;clear dC;generalize l[i]=n at *;generalize pk ww (l.take i)=V at *;go_wp2_with fail;go_loopw [6,7,9] (fun out at_ kk wr=>∃ k t:Nat,kk=.int .i64 (k:Int)/\at_=.int .i64 (t:Int)/\k<=ww/\t=t0+k/\Laid wr w2.heap.size out t (V+n % 2 ^ k*2 ^ t0)/\Below w2.heap.size w2 wr) (fun _ _ kk _=>ww-(intOf kk).toNat)
   case atStart=>exact⟨0,t0,rfl,rfl,by omega,by omega,by simpa [Nat.mod_one]using Kj.o,HB.o⟩
   case round =>
    obtain⟨k,t,rfl,rfl,hkw,ht,uh,az⟩:=hrel;clear Kj HB;have Kj:=ae uh;have HB:=ae az;have ek:=(az.cell (p:=⟨b,off+i,none⟩) hb).trans nk.o;have bF:=az.size;have htt:t<=20000:=(by omega);clear uh az;by_cases FV:k<ww
    ·have HVL:jfp (V+n % 2 ^ k*2 ^ t0<2 ^ t):=ae (by rw[ht];exact RT HV0.o)
     have HT:=ae ht;have Ac:=ae (fun h=>jaw (V:=V) (n:=n) (k:=k) (t0:=t0) h);rw[← ht]at Ac;have Kk:=ae (fun h=>WH (V:=V) (n:=n) (k:=k) (t0:=t0) h);obtain⟨q,hq⟩:∃ q,n / 2 ^ k=q:=⟨_,rfl⟩;have hqi:(n:Int) / 2 ^ k=(q:Int):=by rw[← hq];simp
     have hqn:q<=n:=by rw[← hq];exact Nat.div_le_self _ _
     rw[hq]at Ac Kk;clear hq;clear ht;obtain⟨r,hr⟩:∃ r,t % 8=r:=⟨_,rfl⟩;obtain⟨j,hj⟩:∃ j,t / 8=j:=⟨_,rfl⟩;obtain⟨p,hp⟩:∃ p,2 ^ r=p:=⟨_,rfl⟩;obtain⟨L1,hL1⟩:∃ L,by8 (t+1)=L:=⟨_,rfl⟩;have Cp:(t:Int) % 8=(r:Int):=(by omega);have hji:(t:Int) / 8=(j:Int):=(by omega);have hr8:r<8:=(by omega);have hp8:=pow8 hr8;rw[hp]at hp8;have hjr:j<L1:=by rw[← hL1,← hj];exact(qQ t).1
     have lD:L1<=2501:=by rw[← hL1];unfold by8;omega
     have HR:=ae hr;have HJ:=ae hj;have HP:=ae hp;have Zn:=ae hL1;clear hr hj hp hL1;by_cases h0:r=0
     ·have h0b:((r:Int)==0)=true:=by rw[h0];rfl
      have HE8:=ae (MM (HR.o.trans h0));obtain⟨L0,hL0⟩:∃ L,by8 t=L:=⟨_,rfl⟩;have pD:L0<=2501:=by rw[← hL0];unfold by8;omega
      obtain⟨bs,o0,l0,s0,p0⟩:=Kj.o;rw[hL0]at o0 l0 HE8;have HO0:=ae o0;have Zo:=ae l0;have HS0:=ae s0;have HP0:=ae p0;clear o0 l0 s0 p0 h0 hL0;go_wp2_with (first | (at_builtin;refine jeb _ rfl _ _ 30 rfl w2.heap.size 5 i0 (.int .u8 0) 1 1 Tryz.underlying30 hi ct hz1' bv rfl (by decide) _ _ _ rfl (HO0.o.alloc _) ⟨wr.heap.size,0,none⟩ 1 1 [.int .u8 0] rfl rfl ?c1 ?c2 ?c3 ?c4 ?c5 ?_))
      case c1=>exact cell_one_new _ _ _
      case c2=>first | rfl | (intro u hu;simp at hu;subst hu;rfl)
      case c3=>unfold maxLen;omega
      case c4=>omega
      case c5=>first | omega | (simp;omega)
      intro v1 w3 o1 g1 _ e1;have aQ:=ae ((HB.o.alloc (by omega) _).grown g1 (by simp;omega) (fun k hk=>(HO0.o.lt k hk).1))
      have Ya:jfp (MQ w3 w2.heap.size v1 t (V+n % 2 ^ k*2 ^ t0)):=by
       refine ae ⟨bs++[0],?_,?_,?_,?_⟩
       ·rw[HE8.o.1,cd];exact o1
       ·rw[jdy,Zo.o,HE8.o.1];rfl
       ·intro x hx
        rcases jd2.1 hx with hx | hx
        ·exact HS0.o x hx
        ·simp at hx;omega
       ·rw[Rh];exact HP0.o
      have hck3:=(aQ.o.cell (p:=⟨b,off+i,none⟩) hb).trans nk.o;clear o1 g1 e1 ek;by_cases Kl:q % 2=1
      ·have hbi1:(q:Int) % 2=1:=by omega
       obtain⟨g,cap2,x,c,rfl,hBg,PC,hcx,lH,hc8,hxc,yu⟩:=Ya.o.lay HVL.o HR.o HJ.o HP.o Zn.o;rw[Ac.o Kl]at yu;have xC:=ae yu;clear yu Kj HVL Ac Kk Kl Ya;go_wp2_with fail;go_roundw
       case rel=>exact⟨k+1,t+1,by go_num,by go_num,by omega,by have:=HT.o;omega,xC.o,cO aQ.o hBg _⟩
       case measure=>simp[intOf];omega
      ·have VT:q % 2=0:=by omega
       have hbi0:(q:Int) % 2=0:=(by omega);have yu:=Ya.o.skip;rw[Kk.o VT]at yu;have xC:=ae yu;clear yu Kj HVL Ac Kk Kl Ya VT;go_wp2_with fail;go_roundw
       case rel=>exact⟨k+1,t+1,by go_num,by go_num,by omega,by have:=HT.o;omega,xC.o,aQ.o⟩
       case measure=>simp[intOf];omega
     ·have h0b:((r:Int)==0)=false:=by rw[jdG];omega
      have Ya:=ae (Kj.o.room (by rw[HR.o];exact h0));clear h0;by_cases Kl:q % 2=1
      ·have hbi1:(q:Int) % 2=1:=by omega
       obtain⟨g,cap2,x,c,rfl,hBg,PC,hcx,lH,hc8,hxc,yu⟩:=Ya.o.lay HVL.o HR.o HJ.o HP.o Zn.o;rw[Ac.o Kl]at yu;have xC:=ae yu;clear yu Kj HVL Ac Kk Kl Ya;go_wp2_with fail;go_roundw
       case rel=>exact⟨k+1,t+1,by go_num,by go_num,by omega,by have:=HT.o;omega,xC.o,cO HB.o hBg _⟩
       case measure=>simp[intOf];omega
      ·have VT:q % 2=0:=by omega
       have hbi0:(q:Int) % 2=0:=(by omega);have yu:=Ya.o.skip;rw[Kk.o VT]at yu;have xC:=ae yu;clear yu Kj HVL Ac Kk Kl Ya VT;go_wp2_with fail;go_roundw
       case rel=>exact⟨k+1,t+1,by go_num,by go_num,by omega,by have:=HT.o;omega,xC.o,HB.o⟩
       case measure=>simp[intOf];omega
    ·obtain rfl:k=ww:=by omega
     have yu:=Kj.o;rw[jen jbg.o,HT0.o,jd4 i k,← rQ.o]at yu;have xC:=ae yu;have HT:jfp (t=(i+1)*k):=ae (by rw[ht,HT0.o,jd9,jeB]);clear yu Kj ht;go_wp2_with fail;go_roundw
     case rel=>exact⟨i+1,t,by go_num,rfl,by omega,HT.o,xC.o,HB.o⟩
     case measure=>simp[intOf];omega
  ·obtain rfl:i=l.length:=by omega
   rw[jdE,Zk]at uh;have xC:=ae uh;clear uh az Zk Kj;go_wp2_with fail;go_ret2
   exact⟨_,rfl,xC.o,HB.o⟩
theorem mG{w:World}{v:Value}{l:List Nat}(hs:Sx .u64 w v l)(kM:∀ x∈l,x<18446744073709551616)(x:Int) :
  Calls Tryz.prog 134 #[v,.int .i64 x] w fun e w'=>∃ v',e=.returned (.tuple #[v',.bool (can l x)])/\w'.ownsRow w.heap.size 5 1 v' (bi l x).length (aF .u8 (bi l x))/\Below w.heap.size w w':=by
 cases lC:can l x with
 | true =>
  have hc:=lC;unfold can at hc;simp only[jei]at hc;obtain⟨h1,h2,h3,h4⟩:=hc;obtain⟨ww,rfl⟩:=jeY h1;refine(Dq hs kM ww (by omega) h3 h4).mono ?_;rintro e w' ⟨v',rfl,⟨bs,o1,o2,o3,o4⟩,hb⟩;refine⟨v',rfl,?_,hb⟩;rw[← zg lC o3 o2 o4,o2];exact o1
 | false =>
  rw[wl lC]
  have hno:¬ (0<=x/\x<=64/\l.length<=256/\wd l<=x.toNat):=by
   unfold can at lC;simpa only[je0]using lC
  have HW:=ae (jO hs kM);obtain⟨a,cap,rfl,hm,eQ⟩:=hs;have py:l.length<=9223372036854775807:=by unfold maxLen at hm;omega
  clear eQ kM lC hm;by_cases h0:x<0
  ·clear hno HW
   go_enter Tryz.func134,Tryz.ntmps134
   go_wp2_with fail;go_ret2
   exact⟨_,rfl,gD _ _ _,jdv _ _⟩
  ·by_cases h1:x > 64
   ·clear hno HW
    go_enter Tryz.func134,Tryz.ntmps134
    go_wp2_with fail;go_ret2
    exact⟨_,rfl,gD _ _ _,jdv _ _⟩
   ·by_cases h2:(l.length:Int) > 256
    ·clear hno HW
     go_enter Tryz.func134,Tryz.ntmps134
     go_wp2_with fail;go_ret2
     exact⟨_,rfl,gD _ _ _,jdv _ _⟩
    ·have uT:((wd l:Nat):Int) > x:=by
      have:¬ wd l<=x.toNat:=fun h=>hno ⟨by omega,by omega,by omega,h⟩
      omega
     clear hno;go_enter Tryz.func134,Tryz.ntmps134
     go_wp2_with fail;refine HW.o.mono ?_;rintro e w2 ⟨rfl,rfl⟩;go_wp2_with fail;go_ret2
     exact⟨_,rfl,gD _ _ _,jdv _ _⟩
theorem Lh(x:Int)(h0:-9223372036854775808<=x)(h1:x<=9223372036854775807):bits .xor .i64 (-1) x=-x-1:=by
 by_cases h:x<0
 ·show IntKind.i64.wrap ((BitVec.ofInt 64 (-1) ^^^ BitVec.ofInt 64 x).toNat:Int)=_
  have e1:(BitVec.ofInt 64 (-1)).toNat=2 ^ 64-1:=by decide
  have e2:(BitVec.ofInt 64 x).toNat=(x+18446744073709551616).toNat:=by
   rw[BitVec.toNat_ofInt];omega
  rw[BitVec.toNat_xor,e1,e2,xor_ones64 _ (by omega),jd7];omega
 ·obtain⟨n,rfl⟩:=jeY (a:=x) (by omega)
  exact i64_not n (by omega)
theorem jax{z:Int}(h0:-9223372036854775808<=z)(h:z<0):bits .or .u64 (IntKind.u64.wrap (IntKind.u64.wrap (-z-1)*2)) 1=((zigzag z:Nat):Int):=by
 have e:IntKind.u64.wrap (IntKind.u64.wrap (-z-1)*2)=(-z-1)*2:=by rw[jd0,jd0];omega
 rw[e,bits_join .u64 64 (by decide) wraps_u64 1 _ _ (by omega) (by omega) (by omega) (by omega) (by omega) (by omega)];unfold zigzag;rw[jdt (by omega)];omega
theorem GQ(z:Int)(h0:-9223372036854775808<=z)(h1:z<=9223372036854775807)(w:World) :
  Calls Tryz.prog 174 #[.int .i64 z] w fun e w'=>(∃ v,e=.returned v/\w'.ownsRow w.heap.size 5 1 v (uvarint (zigzag z)).length (aX (uvarint (zigzag z))))/\Below w.heap.size w w':=by
 have HP:=ae (CQ (zigzag z) (zigzag_lt h0 h1));by_cases h:z<0
 ·have hx:=Lh z h0 h1
  have HE:=ae (jax h0 h);go_enter Tryz.func174,Tryz.ntmps174
  go_wp2_with fail;rw[HE.o];refine(HP.o _).mono ?_;rintro e w2 ⟨⟨v,rfl,aA⟩,hb⟩;have HO:=ae aA;clear aA;go_wp2_with fail;go_ret
  exact⟨⟨_,rfl,HO.o⟩,hb⟩
 ·have HE:=ae (zigzag_nonneg (x:=z) (by omega))
  go_enter Tryz.func174,Tryz.ntmps174
  go_wp2_with fail;rw[← HE.o];refine(HP.o _).mono ?_;rintro e w2 ⟨⟨v,rfl,aA⟩,hb⟩;have HO:=ae aA;clear aA;go_wp2_with fail;go_ret
  exact⟨⟨_,rfl,HO.o⟩,hb⟩
theorem ya(z:Int)(h0:-9223372036854775808<=z)(h1:z<=9223372036854775807)(w:World) :
  Calls Tryz.prog 137 #[.int .i64 z] w fun e w'=>(∃ v,e=.returned v/\w'.ownsRow w.heap.size 5 1 v (uvarint (zigzag z)).length (aX (uvarint (zigzag z))))/\Below w.heap.size w w':=by
 have HP:=ae (vK (zigzag z) (zigzag_lt h0 h1));by_cases h:z>=0
 ·have HE:=ae (zigzag_nonneg (x:=z) (by omega))
  go_enter Tryz.func137,Tryz.ntmps137
  go_wp2_with fail;rw[Int.mul_comm,← HE.o];refine(HP.o _).mono ?_;rintro e w2 ⟨⟨v,rfl,aA⟩,hb⟩;have HO:=ae aA;clear aA;go_wp2_with fail;go_ret
  exact⟨⟨_,rfl,HO.o⟩,hb⟩
 ·have he:2*-(z+1)+1=((zigzag z:Nat):Int):=by unfold zigzag;rw[jdt (by omega)];omega
  have HE:=ae he;clear he;go_enter Tryz.func137,Tryz.ntmps137
  go_wp2_with fail;rw[HE.o];refine(HP.o _).mono ?_;rintro e w2 ⟨⟨v,rfl,aA⟩,hb⟩;have HO:=ae aA;clear aA;go_wp2_with fail;go_ret
  exact⟨⟨_,rfl,HO.o⟩,hb⟩
theorem GR{w:World}{v:Value}{l:List UInt8}(h:Sl w v l):Calls Tryz.prog 324 #[v] w fun e w'=>e=kO .i64 (fI (fB l).1) (fB l).2.1 (fB l).2.2/\w'=w:=by
 have HG:=ae (KV h);obtain⟨f1,f2,f3,f4⟩:=yV l;clear h;generalize fB l=x at *;obtain⟨n,u,c⟩:=x;simp only at *;unfold kO at *;clear f2;go_enter Tryz.func324,Tryz.ntmps324
 go_wp2_with fail;refine HG.o.mono ?_;rintro e w1 ⟨rfl,rfl⟩;by_cases h0:c=0
 ·subst h0
  clear f4;have HU:jfp (∀ m:Int,m=fI n->m=fI n):=fun m h=>h
  have ha:=u64_and1 (n:Int) (by omega) (by omega);by_cases hp:n % 2=0
  ·have hb:((n:Int) % 2==1)=false:=by simp;omega
   go_wp2_with fail;go_ret3
   unfold fI;rw[jdu hp];exact⟨rfl,rfl⟩
  ·have hb:((n:Int) % 2==1)=true:=by simp;omega
   have hx:=Lh ((n:Int) / 2) (by omega) (by omega);go_wp2_with fail;go_ret3
   unfold fI;rw[jdt hp];exact⟨rfl,rfl⟩
 ·have fF:((c:Int) != 0)=true:=Rd (by omega) h0
  obtain⟨rfl,rfl⟩:n=0/\u=0:=by omega
  go_wp2_with fail;go_ret3
  exact⟨rfl,rfl⟩
end Go.Proofs.YtpljdjmpamjkhaaGreatDoor
