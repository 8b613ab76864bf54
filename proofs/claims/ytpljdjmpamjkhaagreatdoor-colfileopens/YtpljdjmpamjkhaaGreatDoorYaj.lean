import Derived.Test.YtpljdjmpamjkhaaGreatDoorYai
import Derived.Test.YtpljdjmpamjkhaaGreatDoorYab
import Derived.Test.YtpljdjmpamjkhaaGreatDoorYae
import Derived.Test.YtpljdjmpamjkhaaGreatDoorYaf
import Derived.WalkKit
import Derived.WalkLawsBesides
import Derived.Outline
import Derived.WalkSpells
import Derived.Lib.OthersKept
import Derived.Maps.AppendAt
import Derived.Deep.RegionHeld3
set_option linter.unusedVariables false
set_option linter.unusedSimpArgs false
set_option maxRecDepth 100000
set_option maxHeartbeats 8000000
namespace Go.Proofs.YtpljdjmpamjkhaaGreatDoor
open Go.RowKit Go.Lib
def Laid(W:World)(B:Nat)(v:Value)(t V:Nat):Prop :=
 ∃ bs:List Nat,W.ownsRow B 5 1 v (by8 t) (aE .u8 bs)/\bs.length=by8 t/\(∀ x∈bs,x<256)/\pk 8 bs=V
def KT(W:World)(B:Nat)(v:Value)(t V:Nat):Prop :=
 ∃ bs:List Nat,W.ownsRow B 5 1 v (by8 (t+1)) (aE .u8 bs)/\bs.length=by8 (t+1)/\(∀ x∈bs,x<256)/\pk 8 bs=V
theorem Laid.room{W:World}{B:Nat}{v:Value}{t V:Nat}(h:Laid W B v t V)(h0:t % 8≠0):KT W B v t V:=by
 obtain⟨bs,h1,h2,h3,h4⟩:=h;have e:=(KQ h0).1;exact⟨bs,by rw[e];exact h1,by rw[e];exact h2,h3,h4⟩
theorem KT.skip{W:World}{B:Nat}{v:Value}{t V:Nat}(h:KT W B v t V):Laid W B v (t+1) V:=h
theorem qy(t:Nat):t / 8<by8 (t+1)/\0<by8 (t+1):=by unfold by8;omega
theorem KT.lay{W:World}{B:Nat}{v:Value}{t V r j p L:Nat}(h:KT W B v t V)(hV:V<2 ^ t)(hr:t % 8=r)(hj:t / 8=j)(hp:2 ^ r=p)(hL:by8 (t+1)=L) :
  ∃ g cap x c:Nat,v=.slice (some ⟨g,0,none⟩) L cap/\B<=g/\g<W.heap.size/\W.cell? ⟨g,j,none⟩=some (.int .u8 (x:Int))/\W.frozen? ⟨g,j,none⟩=false /\
   c<256/\(x:Int)+(p:Int)=(c:Int)/\Laid (W.setCell ⟨g,j,none⟩ (.int .u8 (c:Int))) B v (t+1) (V+2 ^ t):=by
 subst hr hj hp hL;obtain⟨bs,h1,h2,h3,h4⟩:=h;obtain⟨g,cap,rfl,hB,hg⟩:=n0 h1 (qy t).2;have hj:t / 8<bs.length:=by rw[h2];exact(qy t).1
 have hx:=CA h3 (by rw[h4];exact hV) hj;have hp:2 ^ (t % 8)<=2 ^ 7:=jaY (by omega) (by omega);have hs:=N3 hj 1;rw[jaO,jaO,h4]at hs;have iK:=(h1.stored (t / 8) (.int .u8 ((bs[t / 8]+2 ^ (t % 8):Nat):Int))).1;rw[jY]at iK
 exact⟨g,cap,bs[t / 8],bs[t / 8]+2 ^ (t % 8),rfl,hB,hg,(h1.cellAt (t / 8) (by rw[ja8];exact(qy t).1)).trans (bR hj),h1.frozenAt _,by omega,by omega,
  _,iK,by rw[ja4];exact h2,N4 h3 (by omega),hs⟩
theorem pow8{r:Nat}(h:r<8):IntKind.u8.wrap (2 ^ r)=((2 ^ r:Nat):Int):=by
 have hp:2 ^ r<=2 ^ 7:=jaY (by omega) (by omega);have e:(2:Int) ^ r=((2 ^ r:Nat):Int):=by simp
 rw[e];generalize 2 ^ r=p at *;rw[wraps_u8 _ (by omega) (by omega)]
theorem WU{V n k t0:Nat}(h:n / 2 ^ k % 2=1):V+n % 2 ^ k*2 ^ t0+2 ^ (t0+k)=V+n % 2 ^ (k+1)*2 ^ t0:=by
 rw[qu n k,h,ja8,jap,jaK,jak (2 ^ t0) (2 ^ k)];omega
theorem Tt{V n k t0:Nat}(h:n / 2 ^ k % 2=0):V+n % 2 ^ k*2 ^ t0=V+n % 2 ^ (k+1)*2 ^ t0:=by
 rw[qu n k,h,Nat.mul_zero,jaC]
theorem N8{V n k t0:Nat}(h:V<2 ^ t0):V+n % 2 ^ k*2 ^ t0<2 ^ (t0+k):=yJ h
theorem CF{w:World}{v:Value}{l:List Nat}(hs:Sx .u64 w v l)(kC:∀ x∈l,x<18446744073709551616)(ww:Nat)(Mo:ww<=64)(hl:l.length<=256)(JY:wd l<=ww) :
  Calls Tryz.prog 134 #[v,.int .i64 (ww:Int)] w fun e w'=>∃ v',e=.returned (.tuple #[v',.bool true])/\Laid w' w.heap.size v' (l.length*ww) (pk ww l)/\Below w.heap.size w w':=by
 have HW:=ae (jI hs kC);obtain⟨a,cap,rfl,hm,eO⟩:=hs;have uF:¬ ((wd l:Nat):Int) > (ww:Int):=by omega
 have hw0:decide ((ww:Int)<0)=false:=decide_eq_false (by omega);have Zh:decide (64<(ww:Int))=false:=decide_eq_false (by omega);have hw3:decide (ww<wd l)=false:=decide_eq_false (by omega);have pf:decide (256<(l.length:Int))=false:=decide_eq_false (by omega);have HF:=ae (qo.1 JY);have HC:=ae eO;have Bp:=ae kC;obtain⟨i0,hi,ce,hz1',bm⟩:=info_parts jf;clear eO kC JY hm;go_enter Tryz.func134,Tryz.ntmps134
 go_wp2_with fail;refine HW.out.mono ?_;rintro e w2 ⟨rfl,rfl⟩;go_wp2_with fail;go_loopw [6,7,8] (fun out at_ ii wr=>∃ i t:Nat,ii=.int .i64 (i:Int)/\at_=.int .i64 (t:Int)/\i<=l.length/\t=i*ww/\Laid wr w2.heap.size out t (pk ww (l.take i))/\Below w2.heap.size w2 wr) (fun _ _ ii _=>l.length-(intOf ii).toNat)
 case atStart=>exact⟨0,0,rfl,rfl,by omega,by simp,⟨[],gl _ _ _,rfl,by simp,by simp[pk]⟩,ZQ _ _⟩
 case round =>
  obtain⟨i,t0,rfl,rfl,hil,VG,tP,ay⟩:=hrel;have Hg:=ae tP;have HB:=ae ay;have HT0:=ae VG;by_cases aB:i<l.length
  ·obtain⟨b,off,rfl,hb,bo⟩:=HC.out (by omega)
   have mT:=ae (bo i aB);have hn64:=Bp.out _ (ZV aB);have dy:=HF.out _ (ZV aB);have rx:=ae (ql ww aB);have HV0:=ae (CD HF.out hil)
   have UB:t0<=16384:=by
    rw[VG];exact ZZ (jbd (show i<=256 by omega) Mo) (by omega)
   rw[← VG]at HV0;clear bo tP ay VG;have XG:=ae dy;clear dy;generalize l[i]=n at *;generalize pk ww (l.take i)=V at *;go_wp2_with fail;go_loopw [6,7,9] (fun out at_ kk wr=>∃ k t:Nat,kk=.int .i64 (k:Int)/\at_=.int .i64 (t:Int)/\k<=ww/\t=t0+k/\Laid wr w2.heap.size out t (V+n % 2 ^ k*2 ^ t0)/\Below w2.heap.size w2 wr) (fun _ _ kk _=>ww-(intOf kk).toNat)
   case atStart=>exact⟨0,t0,rfl,rfl,by omega,by omega,by simpa [Nat.mod_one]using Hg.out,HB.out⟩
   case round =>
    obtain⟨k,t,rfl,rfl,hkw,ht,tP,ay⟩:=hrel;clear Hg HB;have Hg:=ae tP;have HB:=ae ay;have dP:=(ay.cell (p:=⟨b,off+i,none⟩) hb).trans mT.out;have bO:=ay.size;have htt:t<=20000:=by omega
    clear tP ay;by_cases EP:k<ww
    ·have Zi:Hid (V+n % 2 ^ k*2 ^ t0<2 ^ t):=ae (by rw[ht];exact N8 HV0.out)
     have HT:=ae ht;have zH:=ae (fun h=>WU (V:=V) (n:=n) (k:=k) (t0:=t0) h);rw[← ht]at zH;have Hh:=ae (fun h=>Tt (V:=V) (n:=n) (k:=k) (t0:=t0) h);obtain⟨q,hq⟩:∃ q,n / 2 ^ k=q:=⟨_,rfl⟩;have hqi:(n:Int) / 2 ^ k=(q:Int):=by rw[← hq];simp
     have hqn:q<=n:=by rw[← hq];exact Nat.div_le_self _ _
     rw[hq]at zH Hh;clear hq;clear ht;obtain⟨r,hr⟩:∃ r,t % 8=r:=⟨_,rfl⟩;obtain⟨j,hj⟩:∃ j,t / 8=j:=⟨_,rfl⟩;obtain⟨p,hp⟩:∃ p,2 ^ r=p:=⟨_,rfl⟩;obtain⟨L1,hL1⟩:∃ L,by8 (t+1)=L:=⟨_,rfl⟩;have BN:(t:Int) % 8=(r:Int):=by omega
     have hji:(t:Int) / 8=(j:Int):=by omega
     have hr8:r<8:=by omega
     have hp8:=pow8 hr8;rw[hp]at hp8;have hjr:j<L1:=by rw[← hL1,← hj];exact(qy t).1
     have kA:L1<=2501:=by rw[← hL1];unfold by8;omega
     have HR:=ae hr;have HJ:=ae hj;have HP:=ae hp;have VJ:=ae hL1;clear hr hj hp hL1;by_cases h0:r=0
     ·have h0b:((r:Int)==0)=true:=by rw[h0];rfl
      have HE8:=ae (KP (HR.out.trans h0));obtain⟨L0,hL0⟩:∃ L,by8 t=L:=⟨_,rfl⟩;have pg:L0<=2501:=by rw[← hL0];unfold by8;omega
      obtain⟨bs,o0,l0,s0,p0⟩:=Hg.out;rw[hL0]at o0 l0 HE8;have HO0:=ae o0;have VK:=ae l0;have HS0:=ae s0;have XH:=ae p0;clear o0 l0 s0 p0 h0 hL0;go_wp2_with (first | (at_builtin;refine wpList_append_own_at _ rfl _ _ 30 rfl w2.heap.size 5 i0 (.int .u8 0) 1 1 Tryz.underlying30 hi ce hz1' bm rfl (by decide) _ _ _ rfl (HO0.out.alloc _) ⟨wr.heap.size,0,none⟩ 1 1 [.int .u8 0] rfl rfl ?c1 ?c2 ?c3 ?c4 ?c5 ?_))
      case c1=>exact cell_one_new _ _ _
      case c2=>first | rfl | (intro u hu;simp at hu;subst hu;rfl)
      case c3=>unfold maxLen;omega
      case c4=>omega
      case c5=>first | omega | (simp;omega)
      intro v1 w3 o1 g1 _ e1;have aQ:=ae ((HB.out.alloc (by omega) _).grown g1 (by simp;omega) (fun k hk=>(HO0.out.lt k hk).1))
      have UC:Hid (KT w3 w2.heap.size v1 t (V+n % 2 ^ k*2 ^ t0)):=by
       refine ae ⟨bs++[0],?_,?_,?_,?_⟩
       ·rw[HE8.out.1,bZ];exact o1
       ·rw[ZT,VK.out,HE8.out.1];rfl
       ·intro x hx
        rcases jaj.1 hx with hx | hx
        ·exact HS0.out x hx
        ·simp at hx;omega
       ·rw[ND];exact XH.out
      have hck3:=(aQ.out.cell (p:=⟨b,off+i,none⟩) hb).trans mT.out;clear o1 g1 e1 dP;by_cases Hi:q % 2=1
      ·have hbi1:(q:Int) % 2=1:=by omega
       obtain⟨g,cap2,x,c,rfl,hBg,Mk,hcx,lv,hc8,hxc,xZ⟩:=UC.out.lay Zi.out HR.out HJ.out HP.out VJ.out;rw[zH.out Hi]at xZ;have xm:=ae xZ;clear xZ Hg Zi zH Hh Hi UC;go_wp2_with fail;go_roundw
       case rel=>exact⟨k+1,t+1,by go_num,by go_num,by omega,by have:=HT.out;omega,xm.out,cL aQ.out hBg _⟩
       case measure=>simp[intOf];omega
      ·have SO:q % 2=0:=by omega
       have hbi0:(q:Int) % 2=0:=by omega
       have xZ:=UC.out.skip;rw[Hh.out SO]at xZ;have xm:=ae xZ;clear xZ Hg Zi zH Hh Hi UC SO;go_wp2_with fail;go_roundw
       case rel=>exact⟨k+1,t+1,by go_num,by go_num,by omega,by have:=HT.out;omega,xm.out,aQ.out⟩
       case measure=>simp[intOf];omega
     ·have h0b:((r:Int)==0)=false:=by rw[Z1];omega
      have UC:=ae (Hg.out.room (by rw[HR.out];exact h0));clear h0;by_cases Hi:q % 2=1
      ·have hbi1:(q:Int) % 2=1:=by omega
       obtain⟨g,cap2,x,c,rfl,hBg,Mk,hcx,lv,hc8,hxc,xZ⟩:=UC.out.lay Zi.out HR.out HJ.out HP.out VJ.out;rw[zH.out Hi]at xZ;have xm:=ae xZ;clear xZ Hg Zi zH Hh Hi UC;go_wp2_with fail;go_roundw
       case rel=>exact⟨k+1,t+1,by go_num,by go_num,by omega,by have:=HT.out;omega,xm.out,cL HB.out hBg _⟩
       case measure=>simp[intOf];omega
      ·have SO:q % 2=0:=by omega
       have hbi0:(q:Int) % 2=0:=by omega
       have xZ:=UC.out.skip;rw[Hh.out SO]at xZ;have xm:=ae xZ;clear xZ Hg Zi zH Hh Hi UC SO;go_wp2_with fail;go_roundw
       case rel=>exact⟨k+1,t+1,by go_num,by go_num,by omega,by have:=HT.out;omega,xm.out,HB.out⟩
       case measure=>simp[intOf];omega
    ·obtain rfl:k=ww:=by omega
     have xZ:=Hg.out;rw[jaA XG.out,HT0.out,jak i k,← rx.out]at xZ;have xm:=ae xZ;have HT:Hid (t=(i+1)*k):=ae (by rw[ht,HT0.out,jap,jaO]);clear xZ Hg ht;go_wp2_with fail;go_roundw
     case rel=>exact⟨i+1,t,by go_num,rfl,by omega,HT.out,xm.out,HB.out⟩
     case measure=>simp[intOf];omega
  ·obtain rfl:i=l.length:=by omega
   rw[ZY,VG]at tP;have xm:=ae tP;clear tP ay VG Hg;go_wp2_with fail;go_ret2
   exact⟨_,rfl,xm.out,HB.out⟩
theorem mr{w:World}{v:Value}{l:List Nat}(hs:Sx .u64 w v l)(kC:∀ x∈l,x<18446744073709551616)(x:Int) :
  Calls Tryz.prog 134 #[v,.int .i64 x] w fun e w'=>∃ v',e=.returned (.tuple #[v',.bool (can l x)])/\w'.ownsRow w.heap.size 5 1 v' (be l x).length (aE .u8 (be l x))/\Below w.heap.size w w':=by
 cases ln:can l x with
 | true =>
  have hc:=ln;unfold can at hc;simp only[decide_eq_true_eq]at hc;obtain⟨h1,h2,h3,h4⟩:=hc;obtain⟨ww,rfl⟩:=jbg h1;refine(CF hs kC ww (by omega) h3 h4).mono ?_;rintro e w' ⟨v',rfl,⟨bs,o1,o2,o3,o4⟩,hb⟩;refine⟨v',rfl,?_,hb⟩;rw[← yL ln o3 o2 o4,o2];exact o1
 | false =>
  rw[vL ln]
  have XI:¬ (0<=x/\x<=64/\l.length<=256/\wd l<=x.toNat):=by
   unfold can at ln;simpa only[decide_eq_false_iff_not]using ln
  have HW:=ae (jI hs kC);obtain⟨a,cap,rfl,hm,eO⟩:=hs;have oI:l.length<=9223372036854775807:=by unfold maxLen at hm;omega
  clear eO kC ln hm;by_cases h0:x<0
  ·clear XI HW
   go_enter Tryz.func134,Tryz.ntmps134
   go_wp2_with fail;go_ret2
   exact⟨_,rfl,gl _ _ _,ZQ _ _⟩
  ·by_cases h1:x > 64
   ·clear XI HW
    go_enter Tryz.func134,Tryz.ntmps134
    go_wp2_with fail;go_ret2
    exact⟨_,rfl,gl _ _ _,ZQ _ _⟩
   ·by_cases h2:(l.length:Int) > 256
    ·clear XI HW
     go_enter Tryz.func134,Tryz.ntmps134
     go_wp2_with fail;go_ret2
     exact⟨_,rfl,gl _ _ _,ZQ _ _⟩
    ·have uF:((wd l:Nat):Int) > x:=by
      have:¬ wd l<=x.toNat:=fun h=>XI ⟨by omega,by omega,by omega,h⟩
      omega
     clear XI;go_enter Tryz.func134,Tryz.ntmps134
     go_wp2_with fail;refine HW.out.mono ?_;rintro e w2 ⟨rfl,rfl⟩;go_wp2_with fail;go_ret2
     exact⟨_,rfl,gl _ _ _,ZQ _ _⟩
theorem JC(x:Int)(h0:-9223372036854775808<=x)(h1:x<=9223372036854775807):bits .xor .i64 (-1) x=-x-1:=by
 by_cases h:x<0
 ·show IntKind.i64.wrap ((BitVec.ofInt 64 (-1) ^^^ BitVec.ofInt 64 x).toNat:Int)=_
  have e1:(BitVec.ofInt 64 (-1)).toNat=2 ^ 64-1:=by decide
  have e2:(BitVec.ofInt 64 x).toNat=(x+18446744073709551616).toNat:=by
   rw[BitVec.toNat_ofInt];omega
  rw[BitVec.toNat_xor,e1,e2,xor_ones64 _ (by omega),jam];omega
 ·obtain⟨n,rfl⟩:=jbg (a:=x) (by omega)
  exact i64_not n (by omega)
theorem WV{z:Int}(h0:-9223372036854775808<=z)(h:z<0):bits .or .u64 (IntKind.u64.wrap (IntKind.u64.wrap (-z-1)*2)) 1=((zigzag z:Nat):Int):=by
 have e:IntKind.u64.wrap (IntKind.u64.wrap (-z-1)*2)=(-z-1)*2:=by rw[jag,jag];omega
 rw[e,bits_join .u64 64 (by decide) wraps_u64 1 _ _ (by omega) (by omega) (by omega) (by omega) (by omega) (by omega)];unfold zigzag;rw[if_neg (by omega)];omega
theorem Fu(z:Int)(h0:-9223372036854775808<=z)(h1:z<=9223372036854775807)(w:World) :
  Calls Tryz.prog 174 #[.int .i64 z] w fun e w'=>(∃ v,e=.returned v/\w'.ownsRow w.heap.size 5 1 v (uvarint (zigzag z)).length (aV (uvarint (zigzag z))))/\Below w.heap.size w w':=by
 have HP:=ae (Ce (zigzag z) (zigzag_lt h0 h1));by_cases h:z<0
 ·have hx:=JC z h0 h1
  have HE:=ae (WV h0 h);go_enter Tryz.func174,Tryz.ntmps174
  go_wp2_with fail;rw[HE.out];refine(HP.out _).mono ?_;rintro e w2 ⟨⟨v,rfl,az⟩,hb⟩;have HO:=ae az;clear az;go_wp2_with fail;go_ret
  exact⟨⟨_,rfl,HO.out⟩,hb⟩
 ·have HE:=ae (zigzag_nonneg (x:=z) (by omega))
  go_enter Tryz.func174,Tryz.ntmps174
  go_wp2_with fail;rw[← HE.out];refine(HP.out _).mono ?_;rintro e w2 ⟨⟨v,rfl,az⟩,hb⟩;have HO:=ae az;clear az;go_wp2_with fail;go_ret
  exact⟨⟨_,rfl,HO.out⟩,hb⟩
theorem xI(z:Int)(h0:-9223372036854775808<=z)(h1:z<=9223372036854775807)(w:World) :
  Calls Tryz.prog 137 #[.int .i64 z] w fun e w'=>(∃ v,e=.returned v/\w'.ownsRow w.heap.size 5 1 v (uvarint (zigzag z)).length (aV (uvarint (zigzag z))))/\Below w.heap.size w w':=by
 have HP:=ae (uW (zigzag z) (zigzag_lt h0 h1));by_cases h:z>=0
 ·have HE:=ae (zigzag_nonneg (x:=z) (by omega))
  go_enter Tryz.func137,Tryz.ntmps137
  go_wp2_with fail;rw[Int.mul_comm,← HE.out];refine(HP.out _).mono ?_;rintro e w2 ⟨⟨v,rfl,az⟩,hb⟩;have HO:=ae az;clear az;go_wp2_with fail;go_ret
  exact⟨⟨_,rfl,HO.out⟩,hb⟩
 ·have he:2*-(z+1)+1=((zigzag z:Nat):Int):=by unfold zigzag;rw[if_neg (by omega)];omega
  have HE:=ae he;clear he;go_enter Tryz.func137,Tryz.ntmps137
  go_wp2_with fail;rw[HE.out];refine(HP.out _).mono ?_;rintro e w2 ⟨⟨v,rfl,az⟩,hb⟩;have HO:=ae az;clear az;go_wp2_with fail;go_ret
  exact⟨⟨_,rfl,HO.out⟩,hb⟩
theorem Fv{w:World}{v:Value}{l:List UInt8}(h:Sl w v l):Calls Tryz.prog 324 #[v] w fun e w'=>e=kE .i64 (fB (ft l).1) (ft l).2.1 (ft l).2.2/\w'=w:=by
 have HG:=ae (Jp h);obtain⟨f1,f2,f3,f4⟩:=yA l;clear h;generalize ft l=x at *;obtain⟨n,u,c⟩:=x;simp only at *;unfold kE at *;clear f2;go_enter Tryz.func324,Tryz.ntmps324
 go_wp2_with fail;refine HG.out.mono ?_;rintro e w1 ⟨rfl,rfl⟩;by_cases h0:c=0
 ·subst h0
  clear f4;have HU:Hid (∀ m:Int,m=fB n->m=fB n):=fun m h=>h
  have ha:=u64_and1 (n:Int) (by omega) (by omega);by_cases hp:n % 2=0
  ·have hb:((n:Int) % 2==1)=false:=by simp;omega
   go_wp2_with fail;go_ret3
   unfold fB;rw[if_pos hp];exact⟨rfl,rfl⟩
  ·have hb:((n:Int) % 2==1)=true:=by simp;omega
   have hx:=JC ((n:Int) / 2) (by omega) (by omega);go_wp2_with fail;go_ret3
   unfold fB;rw[if_neg hp];exact⟨rfl,rfl⟩
 ·have fO:((c:Int) != 0)=true:=Nz (by omega) h0
  obtain⟨rfl,rfl⟩:n=0/\u=0:=by omega
  go_wp2_with fail;go_ret3
  exact⟨rfl,rfl⟩
end Go.Proofs.YtpljdjmpamjkhaaGreatDoor
