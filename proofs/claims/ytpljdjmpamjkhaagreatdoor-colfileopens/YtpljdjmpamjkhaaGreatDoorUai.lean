import Derived.Test.YtpljdjmpamjkhaaGreatDoorUah
set_option linter.unusedVariables false
set_option linter.unusedSimpArgs false
set_option maxRecDepth 100000
set_option maxHeartbeats 8000000
namespace Go.Proofs.YtpljdjmpamjkhaaGreatDoor
open Go.RowKit Go.Lib
def Laid(W:World)(B:Nat)(v:Value)(t V:Nat):Prop :=
 ∃ bs:List Nat,W.ownsRow B 5 1 v (by8 t) (aF .u8 bs)/\bs.length=by8 t/\(∀ x∈bs,x<256)/\pk 8 bs=V
def MH(W:World)(B:Nat)(v:Value)(t V:Nat):Prop :=
 ∃ bs:List Nat,W.ownsRow B 5 1 v (by8 (t+1)) (aF .u8 bs)/\bs.length=by8 (t+1)/\(∀ x∈bs,x<256)/\pk 8 bs=V
theorem Laid.room{W:World}{B:Nat}{v:Value}{t V:Nat}(h:Laid W B v t V)(h0:t % 8≠0):MH W B v t V:=by
 obtain⟨bs,h1,h2,h3,h4⟩:=h;have e:=(ME h0).1;exact⟨bs,by rw[e];exact h1,by rw[e];exact h2,h3,h4⟩
theorem MH.skip{W:World}{B:Nat}{v:Value}{t V:Nat}(h:MH W B v t V):Laid W B v (t+1) V:=h
theorem qQ(t:Nat):t / 8<by8 (t+1)/\0<by8 (t+1):=by unfold by8;omega
theorem MH.lay{W:World}{B:Nat}{v:Value}{t V r j p L:Nat}(h:MH W B v t V)(hV:V<2 ^ t)(hr:t % 8=r)(hj:t / 8=j)(hp:2 ^ r=p)(hL:by8 (t+1)=L) :
  ∃ g cap x c:Nat,v=.slice (some ⟨g,0,none⟩) L cap/\B<=g/\g<W.heap.size/\W.cell? ⟨g,j,none⟩=some (.int .u8 (x:Int))/\W.frozen? ⟨g,j,none⟩=false /\
   c<256/\(x:Int)+(p:Int)=(c:Int)/\Laid (W.setCell ⟨g,j,none⟩ (.int .u8 (c:Int))) B v (t+1) (V+2 ^ t):=by
 subst hr hj hp hL;obtain⟨bs,h1,h2,h3,h4⟩:=h;obtain⟨g,cap,rfl,hB,hg⟩:=oG h1 (qQ t).2;have hj:t / 8<bs.length:=by rw[h2];exact(qQ t).1
 have hx:=Dq h3 (by rw[h4];exact hV) hj;have hp:2 ^ (t % 8)<=2 ^ 7:=jew (by omega) (by omega);have hs:=Ro hj 1;rw[jem,jem,h4]at hs;have iM:=(h1.stored (t / 8) (.int .u8 ((bs[t / 8]+2 ^ (t % 8):Nat):Int))).1;rw[ki]at iM
 exact⟨g,cap,bs[t / 8],bs[t / 8]+2 ^ (t % 8),rfl,hB,hg,(h1.cellAt (t / 8) (by rw[jeG];exact(qQ t).1)).trans (bS hj),h1.frozenAt _,by omega,by omega,
  _,iM,by rw[jeC];exact h2,Rp h3 (by omega),hs⟩
theorem pow8{r:Nat}(h:r<8):IntKind.u8.wrap (2 ^ r)=((2 ^ r:Nat):Int):=by
 have hp:2 ^ r<=2 ^ 7:=jew (by omega) (by omega);have e:(2:Int) ^ r=((2 ^ r:Nat):Int):=by simp
 rw[e];generalize 2 ^ r=p at *;rw[wraps_u8 _ (by omega) (by omega)]
theorem jao{V n k t0:Nat}(h:n / 2 ^ k % 2=1):V+n % 2 ^ k*2 ^ t0+2 ^ (t0+k)=V+n % 2 ^ (k+1)*2 ^ t0:=by
 rw[qM n k,h,jeG,jdV,jeh,jdP (2 ^ t0) (2 ^ k)];omega
theorem Wq{V n k t0:Nat}(h:n / 2 ^ k % 2=0):V+n % 2 ^ k*2 ^ t0=V+n % 2 ^ (k+1)*2 ^ t0:=by
 rw[qM n k,h,Nat.mul_zero,jd9]
theorem Ru{V n k t0:Nat}(h:V<2 ^ t0):V+n % 2 ^ k*2 ^ t0<2 ^ (t0+k):=zf h
theorem Du{w:World}{v:Value}{l:List Nat}(hs:Sx .u64 w v l)(kJ:∀ x∈l,x<18446744073709551616)(ww:Nat)(Pu:ww<=64)(hl:l.length<=256)(LA:wd l<=ww) :
  Calls Tryz.prog 134 #[v,.int .i64 (ww:Int)] w fun e w'=>∃ v',e=.returned (.tuple #[v',.bool true])/\Laid w' w.heap.size v' (l.length*ww) (pk ww l)/\Below w.heap.size w w':=by
 have HW:=ae (jP hs kJ);obtain⟨a,cap,rfl,hm,eQ⟩:=hs;have ve:¬ ((wd l:Nat):Int) > (ww:Int):=by omega
 have hw0:decide ((ww:Int)<0)=false:=jds (by omega);have hw1:decide (64<(ww:Int))=false:=jds (by omega);have hw3:decide (ww<wd l)=false:=jds (by omega);have py:decide (256<(l.length:Int))=false:=jds (by omega);have HF:=ae (qG.1 LA);have HC:=ae eQ;have Ca:=ae kJ;obtain⟨i0,hi,cm,hz1',bn⟩:=jdA jm;clear eQ kJ LA hm;go_enter Tryz.func134,Tryz.ntmps134
 go_wp2_with fail;refine HW.o.mono ?_;rintro e w2 ⟨rfl,rfl⟩;go_wp2_with fail;go_loopw [6,7,8] (fun out at_ ii wr=>∃ i t:Nat,ii=.int .i64 (i:Int)/\at_=.int .i64 (t:Int)/\i<=l.length/\t=i*ww/\Laid wr w2.heap.size out t (pk ww (l.take i))/\Below w2.heap.size w2 wr) (fun _ _ ii _=>l.length-(intOf ii).toNat)
 case atStart=>exact⟨0,0,rfl,rfl,by omega,by simp,⟨[],gp _ _ _,rfl,by simp,by simp[pk]⟩,jdg _ _⟩
 case round =>
  obtain⟨i,t0,rfl,rfl,hil,YU,um,az⟩:=hrel;have Kg:=ae um;have HB:=ae az;have HT0:=ae YU;by_cases aC:i<l.length
  ·obtain⟨b,off,rfl,hb,bq⟩:=HC.o (by omega)
   have nf:=ae (bq i aC);have hn64:=Ca.o _ (jdl aC);have dA:=HF.o _ (jdl aC);have rQ:=ae (qD ww aC);have HV0:=ae (Ds HF.o hil)
   have XH:t0<=16384:=by
    rw[YU];exact jdq (jeP (show i<=256 by omega) Pu) (by omega)
   rw[← YU]at HV0;clear bq um az YU;have ja4:=ae dA;clear dA;generalize l[i]=n at *;generalize pk ww (l.take i)=V at *;go_wp2_with fail;go_loopw [6,7,9] (fun out at_ kk wr=>∃ k t:Nat,kk=.int .i64 (k:Int)/\at_=.int .i64 (t:Int)/\k<=ww/\t=t0+k/\Laid wr w2.heap.size out t (V+n % 2 ^ k*2 ^ t0)/\Below w2.heap.size w2 wr) (fun _ _ kk _=>ww-(intOf kk).toNat)
   case atStart=>exact⟨0,t0,rfl,rfl,by omega,by omega,by simpa [Nat.mod_one]using Kg.o,HB.o⟩
   case round =>
    obtain⟨k,t,rfl,rfl,hkw,ht,um,az⟩:=hrel;clear Kg HB;have Kg:=ae um;have HB:=ae az;have dR:=(az.cell (p:=⟨b,off+i,none⟩) hb).trans nf.o;have bP:=az.size;have htt:t<=20000:=(by omega);clear um az;by_cases FV:k<ww
    ·have HVL:jfb (V+n % 2 ^ k*2 ^ t0<2 ^ t):=ae (by rw[ht];exact Ru HV0.o)
     have HT:=ae ht;have Ad:=ae (fun h=>jao (V:=V) (n:=n) (k:=k) (t0:=t0) h);rw[← ht]at Ad;have Kh:=ae (fun h=>Wq (V:=V) (n:=n) (k:=k) (t0:=t0) h);obtain⟨q,hq⟩:∃ q,n / 2 ^ k=q:=⟨_,rfl⟩;have hqi:(n:Int) / 2 ^ k=(q:Int):=by rw[← hq];simp
     have hqn:q<=n:=by rw[← hq];exact Nat.div_le_self _ _
     rw[hq]at Ad Kh;clear hq;clear ht;obtain⟨r,hr⟩:∃ r,t % 8=r:=⟨_,rfl⟩;obtain⟨j,hj⟩:∃ j,t / 8=j:=⟨_,rfl⟩;obtain⟨p,hp⟩:∃ p,2 ^ r=p:=⟨_,rfl⟩;obtain⟨L1,hL1⟩:∃ L,by8 (t+1)=L:=⟨_,rfl⟩;have Cv:(t:Int) % 8=(r:Int):=(by omega);have hji:(t:Int) / 8=(j:Int):=(by omega);have hr8:r<8:=(by omega);have hp8:=pow8 hr8;rw[hp]at hp8;have hjr:j<L1:=by rw[← hL1,← hj];exact(qQ t).1
     have kH:L1<=2501:=by rw[← hL1];unfold by8;omega
     have HR:=ae hr;have HJ:=ae hj;have HP:=ae hp;have YX:=ae hL1;clear hr hj hp hL1;by_cases h0:r=0
     ·have h0b:((r:Int)==0)=true:=by rw[h0];rfl
      have HE8:=ae (MD (HR.o.trans h0));obtain⟨L0,hL0⟩:∃ L,by8 t=L:=⟨_,rfl⟩;have pB:L0<=2501:=by rw[← hL0];unfold by8;omega
      obtain⟨bs,o0,l0,s0,p0⟩:=Kg.o;rw[hL0]at o0 l0 HE8;have HO0:=ae o0;have YY:=ae l0;have HS0:=ae s0;have HP0:=ae p0;clear o0 l0 s0 p0 h0 hL0;go_wp2_with (first | (at_builtin;refine jdU _ rfl _ _ 30 rfl w2.heap.size 5 i0 (.int .u8 0) 1 1 Tryz.underlying30 hi cm hz1' bn rfl (by decide) _ _ _ rfl (HO0.o.alloc _) ⟨wr.heap.size,0,none⟩ 1 1 [.int .u8 0] rfl rfl ?c1 ?c2 ?c3 ?c4 ?c5 ?_))
      case c1=>exact cell_one_new _ _ _
      case c2=>first | rfl | (intro u hu;simp at hu;subst hu;rfl)
      case c3=>unfold maxLen;omega
      case c4=>omega
      case c5=>first | omega | (simp;omega)
      intro v1 w3 o1 g1 _ e1;have aR:=ae ((HB.o.alloc (by omega) _).grown g1 (by simp;omega) (fun k hk=>(HO0.o.lt k hk).1))
      have XI:jfb (MH w3 w2.heap.size v1 t (V+n % 2 ^ k*2 ^ t0)):=by
       refine ae ⟨bs++[0],?_,?_,?_,?_⟩
       ·rw[HE8.o.1,cd];exact o1
       ·rw[jdj,YY.o,HE8.o.1];rfl
       ·intro x hx
        rcases jdO.1 hx with hx | hx
        ·exact HS0.o x hx
        ·simp at hx;omega
       ·rw[QP];exact HP0.o
      have hck3:=(aR.o.cell (p:=⟨b,off+i,none⟩) hb).trans nf.o;clear o1 g1 e1 dR;by_cases Ki:q % 2=1
      ·have hbi1:(q:Int) % 2=1:=by omega
       obtain⟨g,cap2,x,c,rfl,hBg,Pq,hcx,lC,hc8,hxc,yw⟩:=XI.o.lay HVL.o HR.o HJ.o HP.o YX.o;rw[Ad.o Ki]at yw;have xJ:=ae yw;clear yw Kg HVL Ad Kh Ki XI;go_wp2_with fail;go_roundw
       case rel=>exact⟨k+1,t+1,by go_num,by go_num,by omega,by have:=HT.o;omega,xJ.o,cN aR.o hBg _⟩
       case measure=>simp[intOf];omega
      ·have VE:q % 2=0:=by omega
       have hbi0:(q:Int) % 2=0:=(by omega);have yw:=XI.o.skip;rw[Kh.o VE]at yw;have xJ:=ae yw;clear yw Kg HVL Ad Kh Ki XI VE;go_wp2_with fail;go_roundw
       case rel=>exact⟨k+1,t+1,by go_num,by go_num,by omega,by have:=HT.o;omega,xJ.o,aR.o⟩
       case measure=>simp[intOf];omega
     ·have h0b:((r:Int)==0)=false:=by rw[jdt];omega
      have XI:=ae (Kg.o.room (by rw[HR.o];exact h0));clear h0;by_cases Ki:q % 2=1
      ·have hbi1:(q:Int) % 2=1:=by omega
       obtain⟨g,cap2,x,c,rfl,hBg,Pq,hcx,lC,hc8,hxc,yw⟩:=XI.o.lay HVL.o HR.o HJ.o HP.o YX.o;rw[Ad.o Ki]at yw;have xJ:=ae yw;clear yw Kg HVL Ad Kh Ki XI;go_wp2_with fail;go_roundw
       case rel=>exact⟨k+1,t+1,by go_num,by go_num,by omega,by have:=HT.o;omega,xJ.o,cN HB.o hBg _⟩
       case measure=>simp[intOf];omega
      ·have VE:q % 2=0:=by omega
       have hbi0:(q:Int) % 2=0:=(by omega);have yw:=XI.o.skip;rw[Kh.o VE]at yw;have xJ:=ae yw;clear yw Kg HVL Ad Kh Ki XI VE;go_wp2_with fail;go_roundw
       case rel=>exact⟨k+1,t+1,by go_num,by go_num,by omega,by have:=HT.o;omega,xJ.o,HB.o⟩
       case measure=>simp[intOf];omega
    ·obtain rfl:k=ww:=by omega
     have yw:=Kg.o;rw[jd7 ja4.o,HT0.o,jdP i k,← rQ.o]at yw;have xJ:=ae yw;have HT:jfb (t=(i+1)*k):=ae (by rw[ht,HT0.o,jdV,jem]);clear yw Kg ht;go_wp2_with fail;go_roundw
     case rel=>exact⟨i+1,t,by go_num,rfl,by omega,HT.o,xJ.o,HB.o⟩
     case measure=>simp[intOf];omega
  ·obtain rfl:i=l.length:=by omega
   rw[jdp,YU]at um;have xJ:=ae um;clear um az YU Kg;go_wp2_with fail;go_ret2
   exact⟨_,rfl,xJ.o,HB.o⟩
theorem mA{w:World}{v:Value}{l:List Nat}(hs:Sx .u64 w v l)(kJ:∀ x∈l,x<18446744073709551616)(x:Int) :
  Calls Tryz.prog 134 #[v,.int .i64 x] w fun e w'=>∃ v',e=.returned (.tuple #[v',.bool (can l x)])/\w'.ownsRow w.heap.size 5 1 v' (bg l x).length (aF .u8 (bg l x))/\Below w.heap.size w w':=by
 cases lx:can l x with
 | true =>
  have hc:=lx;unfold can at hc;simp only[jd2]at hc;obtain⟨h1,h2,h3,h4⟩:=hc;obtain⟨ww,rfl⟩:=jeS h1;refine(Du hs kJ ww (by omega) h3 h4).mono ?_;rintro e w' ⟨v',rfl,⟨bs,o1,o2,o3,o4⟩,hb⟩;refine⟨v',rfl,?_,hb⟩;rw[← zh lx o3 o2 o4,o2];exact o1
 | false =>
  rw[wD lx]
  have hno:¬ (0<=x/\x<=64/\l.length<=256/\wd l<=x.toNat):=by
   unfold can at lx;simpa only[jeL]using lx
  have HW:=ae (jP hs kJ);obtain⟨a,cap,rfl,hm,eQ⟩:=hs;have oW:l.length<=9223372036854775807:=by unfold maxLen at hm;omega
  clear eQ kJ lx hm;by_cases h0:x<0
  ·clear hno HW
   go_enter Tryz.func134,Tryz.ntmps134
   go_wp2_with fail;go_ret2
   exact⟨_,rfl,gp _ _ _,jdg _ _⟩
  ·by_cases h1:x > 64
   ·clear hno HW
    go_enter Tryz.func134,Tryz.ntmps134
    go_wp2_with fail;go_ret2
    exact⟨_,rfl,gp _ _ _,jdg _ _⟩
   ·by_cases h2:(l.length:Int) > 256
    ·clear hno HW
     go_enter Tryz.func134,Tryz.ntmps134
     go_wp2_with fail;go_ret2
     exact⟨_,rfl,gp _ _ _,jdg _ _⟩
    ·have ve:((wd l:Nat):Int) > x:=by
      have:¬ wd l<=x.toNat:=fun h=>hno ⟨by omega,by omega,by omega,h⟩
      omega
     clear hno;go_enter Tryz.func134,Tryz.ntmps134
     go_wp2_with fail;refine HW.o.mono ?_;rintro e w2 ⟨rfl,rfl⟩;go_wp2_with fail;go_ret2
     exact⟨_,rfl,gp _ _ _,jdg _ _⟩
theorem Le(x:Int)(h0:-9223372036854775808<=x)(h1:x<=9223372036854775807):bits .xor .i64 (-1) x=-x-1:=by
 by_cases h:x<0
 ·show IntKind.i64.wrap ((BitVec.ofInt 64 (-1) ^^^ BitVec.ofInt 64 x).toNat:Int)=_
  have e1:(BitVec.ofInt 64 (-1)).toNat=2 ^ 64-1:=by decide
  have e2:(BitVec.ofInt 64 x).toNat=(x+18446744073709551616).toNat:=by
   rw[BitVec.toNat_ofInt];omega
  rw[BitVec.toNat_xor,e1,e2,xor_ones64 _ (by omega),jdR];omega
 ·obtain⟨n,rfl⟩:=jeS (a:=x) (by omega)
  exact i64_not n (by omega)
theorem jap{z:Int}(h0:-9223372036854775808<=z)(h:z<0):bits .or .u64 (IntKind.u64.wrap (IntKind.u64.wrap (-z-1)*2)) 1=((zigzag z:Nat):Int):=by
 have e:IntKind.u64.wrap (IntKind.u64.wrap (-z-1)*2)=(-z-1)*2:=by rw[jdL,jdL];omega
 rw[e,bits_join .u64 64 (by decide) wraps_u64 1 _ _ (by omega) (by omega) (by omega) (by omega) (by omega) (by omega)];unfold zigzag;rw[jde (by omega)];omega
theorem GM(z:Int)(h0:-9223372036854775808<=z)(h1:z<=9223372036854775807)(w:World) :
  Calls Tryz.prog 174 #[.int .i64 z] w fun e w'=>(∃ v,e=.returned v/\w'.ownsRow w.heap.size 5 1 v (uvarint (zigzag z)).length (aW (uvarint (zigzag z))))/\Below w.heap.size w w':=by
 have HP:=ae (CV (zigzag z) (zigzag_lt h0 h1));by_cases h:z<0
 ·have hx:=Le z h0 h1
  have HE:=ae (jap h0 h);go_enter Tryz.func174,Tryz.ntmps174
  go_wp2_with fail;rw[HE.o];refine(HP.o _).mono ?_;rintro e w2 ⟨⟨v,rfl,aA⟩,hb⟩;have HO:=ae aA;clear aA;go_wp2_with fail;go_ret
  exact⟨⟨_,rfl,HO.o⟩,hb⟩
 ·have HE:=ae (zigzag_nonneg (x:=z) (by omega))
  go_enter Tryz.func174,Tryz.ntmps174
  go_wp2_with fail;rw[← HE.o];refine(HP.o _).mono ?_;rintro e w2 ⟨⟨v,rfl,aA⟩,hb⟩;have HO:=ae aA;clear aA;go_wp2_with fail;go_ret
  exact⟨⟨_,rfl,HO.o⟩,hb⟩
theorem ye(z:Int)(h0:-9223372036854775808<=z)(h1:z<=9223372036854775807)(w:World) :
  Calls Tryz.prog 137 #[.int .i64 z] w fun e w'=>(∃ v,e=.returned v/\w'.ownsRow w.heap.size 5 1 v (uvarint (zigzag z)).length (aW (uvarint (zigzag z))))/\Below w.heap.size w w':=by
 have HP:=ae (vR (zigzag z) (zigzag_lt h0 h1));by_cases h:z>=0
 ·have HE:=ae (zigzag_nonneg (x:=z) (by omega))
  go_enter Tryz.func137,Tryz.ntmps137
  go_wp2_with fail;rw[Int.mul_comm,← HE.o];refine(HP.o _).mono ?_;rintro e w2 ⟨⟨v,rfl,aA⟩,hb⟩;have HO:=ae aA;clear aA;go_wp2_with fail;go_ret
  exact⟨⟨_,rfl,HO.o⟩,hb⟩
 ·have he:2*-(z+1)+1=((zigzag z:Nat):Int):=by unfold zigzag;rw[jde (by omega)];omega
  have HE:=ae he;clear he;go_enter Tryz.func137,Tryz.ntmps137
  go_wp2_with fail;rw[HE.o];refine(HP.o _).mono ?_;rintro e w2 ⟨⟨v,rfl,aA⟩,hb⟩;have HO:=ae aA;clear aA;go_wp2_with fail;go_ret
  exact⟨⟨_,rfl,HO.o⟩,hb⟩
theorem GN{w:World}{v:Value}{l:List UInt8}(h:Sl w v l):Calls Tryz.prog 324 #[v] w fun e w'=>e=kL .i64 (fD (fy l).1) (fy l).2.1 (fy l).2.2/\w'=w:=by
 have HG:=ae (KS h);obtain⟨f1,f2,f3,f4⟩:=yW l;clear h;generalize fy l=x at *;obtain⟨n,u,c⟩:=x;simp only at *;unfold kL at *;clear f2;go_enter Tryz.func324,Tryz.ntmps324
 go_wp2_with fail;refine HG.o.mono ?_;rintro e w1 ⟨rfl,rfl⟩;by_cases h0:c=0
 ·subst h0
  clear f4;have HU:jfb (∀ m:Int,m=fD n->m=fD n):=fun m h=>h
  have ha:=u64_and1 (n:Int) (by omega) (by omega);by_cases hp:n % 2=0
  ·have hb:((n:Int) % 2==1)=false:=by simp;omega
   go_wp2_with fail;go_ret3
   unfold fD;rw[jdf hp];exact⟨rfl,rfl⟩
  ·have hb:((n:Int) % 2==1)=true:=by simp;omega
   have hx:=Le ((n:Int) / 2) (by omega) (by omega);go_wp2_with fail;go_ret3
   unfold fD;rw[jde hp];exact⟨rfl,rfl⟩
 ·have fQ:((c:Int) != 0)=true:=QL (by omega) h0
  obtain⟨rfl,rfl⟩:n=0/\u=0:=by omega
  go_wp2_with fail;go_ret3
  exact⟨rfl,rfl⟩
end Go.Proofs.YtpljdjmpamjkhaaGreatDoor
