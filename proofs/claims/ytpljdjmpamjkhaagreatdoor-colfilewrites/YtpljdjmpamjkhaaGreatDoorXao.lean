import Derived.Test.YtpljdjmpamjkhaaGreatDoorXan
set_option linter.unusedVariables false
set_option linter.unusedSimpArgs false
set_option maxRecDepth 100000
set_option maxHeartbeats 4000000
namespace Go.Proofs.YtpljdjmpamjkhaaGreatDoor
open Go.RowKit Go.Lib
theorem iU(w:World)(x y z u:Value)(t:Nat):(w.alloc (.cells #[x,y,z,u] t)).cell? ⟨w.heap.size,0,none⟩=some x/\(w.alloc (.cells #[x,y,z,u] t)).cell? ⟨w.heap.size,1,none⟩=some y/\(w.alloc (.cells #[x,y,z,u] t)).cell? ⟨w.heap.size,2,none⟩=some z/\(w.alloc (.cells #[x,y,z,u] t)).cell? ⟨w.heap.size,3,none⟩=some u:=by
 have h:=jdW w (.cells #[x,y,z,u] t);exact⟨by rw[ay h];rfl,by rw[ay h];rfl,by rw[ay h];rfl,by rw[ay h];rfl⟩
theorem bx(w:World)(x y:Value)(t:Nat):(w.alloc (.cells #[x,y] t)).cell? ⟨w.heap.size,0,none⟩=some x/\(w.alloc (.cells #[x,y] t)).cell? ⟨w.heap.size,1,none⟩=some y:=by
 have h:=jdW w (.cells #[x,y] t);exact⟨by rw[ay h];rfl,by rw[ay h];rfl⟩
theorem wK{W:World}{v:Value}{l:List Fd}(h:Sf W v l)(n:Nat):Sf (W.drewN n) v l:=h.kept (ap (jdv _ _) n)
theorem sL{w:World}{v:Value}{l:List Fd}(hs:Sf w v l)(si id:Nat):Calls Tryz.prog 193 #[.agg #[.int .u32 (si:Int),v],.int .u32 (id:Int)] w fun e w'=>e=.returned (.tuple #[.int .i64 (((iL l id).getD 0:Nat):Int),.bool (iL l id).isSome])/\Below w.heap.size w w':=by
 obtain⟨a,cap,rfl,aW,bw⟩:=hs.form;have ce:=ae (am w (.cells #[.int .u32 (si:Int),.slice a l.length cap] 25));have HS:=ae (hs.kept (am w (.cells #[.int .u32 (si:Int),.slice a l.length cap] 25)));have HP:jfp (iL l id=km id 0 (l.drop 0)):=ae rfl;generalize iL l id=P at *;clear hs;generalize hW:w.alloc (.cells #[.int .u32 (si:Int),.slice a l.length cap] 25)=W at *;have hW':=hW;obtain⟨c0,c1⟩:=bx w (.int .u32 (si:Int)) (.slice a l.length cap) 25;rw[hW]at c0 c1;go_enter Tryz.func193,Tryz.ntmps193
 go_wp2_with fail;try rw[hW]
 clear hW hW' c0 c1;go_loopw [11] (fun i wr=>∃ k:Nat,k<=l.length/\i=.int .i64 (k:Int)/\P=km id k (l.drop k)/\Below W.heap.size W wr) (fun i _=>l.length-(intOf i).toNat)
 case atStart=>exact⟨0,by omega,rfl,HP.o,jdv _ _⟩
 case round =>
  obtain⟨k,hk,rfl,kL,az⟩:=hrel;have HF:=ae kL;have HB:=ae az;have bF:=az.size;clear kL az HP;by_cases aB:k<l.length
  ·obtain⟨b,off,rfl,hb,x0,x1,x2,x3⟩:=(HS.o.kept HB.o).at aB
   have HT:=ae (HF.o.trans (Cz aB));have hlt':(k:Int)<(l.length:Int):=(by omega);generalize l[k]=f at *;obtain⟨f0,f1,f2,f3⟩:=f;simp only at *;have aO:=ae (HB.o.trans ((am wr (.cells #[.int .u32 (f0:Int),.string f1,.int .u8 (f2:Int),.bool f3] 81)).mono bF));by_cases hq:f0=id
   ·rw[jdu hq]at HT
    have hq':((f0:Int)==(id:Int))=true:=by rw[hq];simp
    subst hq;go_wp2_with fail;go_ret2
    rw[HT.o];exact⟨rfl,ai ce.o aO.o⟩
   ·rw[jdt hq]at HT
    have hq':((f0:Int)==(id:Int))=false:=jdG.2 (by omega);clear hq;go_wp2_with fail;go_roundw
    case rel=>exact⟨k+1,by omega,by go_num,HT.o,aO.o⟩
    case measure=>simp[intOf];omega
  ·obtain rfl:k=l.length:=by omega
   have gj:¬ ((l.length:Nat):Int)<(l.length:Int):=(by omega);have HT:=ae (HF.o.trans (Gf l id));clear HF;go_wp2_with fail;go_ret2
   rw[HT.o];exact⟨rfl,ai ce.o HB.o⟩
theorem Hc{w:World}{v rv:Value}{l:List Fd}{r:List Cl}(hs:Sf w v l)(hr:Sc w rv r)(si:Nat):Calls Tryz.prog 43 #[.agg #[.int .u32 (si:Int),v],rv] w fun e w'=>e=.returned (.int .i64 (jK l r:Int))/\Below w.heap.size w w':=by
 obtain⟨a,cap,rfl,aW,bw⟩:=hs.form;obtain⟨ra,rcap,rfl,UP,UQ⟩:=hr.form;have hrcm':rcap<=9223372036854775807:=by unfold maxLen at UQ;omega
 have dO:=am w (.cells #[.int .u32 (si:Int),.slice a l.length cap] 25);have ce:=ae dO;have HS:=ae (hs.kept dO);have HR:=ae (hr.kept dO);obtain⟨c0,c1⟩:=bx w (.int .u32 (si:Int)) (.slice a l.length cap) 25;have hz:w.heap.size<(w.alloc (.cells #[.int .u32 (si:Int),.slice a l.length cap] 25)).heap.size:=by rw[jdx];omega
 clear hs hr dO UQ;generalize hW:w.alloc (.cells #[.int .u32 (si:Int),.slice a l.length cap] 25)=W at *;by_cases fF:r.length≠l.length
 ·have HM:jfp (jK l r=1):=ae (jdu fF)
  have hne':((r.length:Int) != (l.length:Int))=true:=by simp only[bne_iff_ne];omega
  clear fF;go_enter Tryz.func43,Tryz.ntmps43
  go_wp2_with fail;go_ret
  rw[HM.o];refine⟨rfl,?_⟩;first | exact ce.o | (rw[hW];exact ce.o)
 ·have pE:r.length=l.length:=by omega
  have HM:jfp (jK l r=qv (l.drop 0) (r.drop 0)):=ae (jdt fF);have Yb:=ae pE;rw[pE]at UP HR ⊢;generalize jK l r=R at *;clear fF pE;go_enter Tryz.func43,Tryz.ntmps43
  go_wp2_with fail;try rw[hW]
  clear hW;go_loopw [5] (fun i wr=>∃ k:Nat,k<=l.length/\i=.int .i64 (k:Int)/\R=qv (l.drop k) (r.drop k)/\Below W.heap.size W wr) (fun i _=>l.length-(intOf i).toNat)
  case atStart=>exact⟨0,by omega,rfl,HM.o,jdv _ _⟩
  case round =>
   obtain⟨k,hk,rfl,kL,az⟩:=hrel;have HF:=ae kL;have HB:=ae az;have bF:=az.size;have d1:=(az.cell (p:=⟨w.heap.size,1,none⟩) hz).trans c1;clear kL az HM;by_cases aB:k<l.length
   ·obtain⟨b,off,rfl,hb,x0,x1,x2,x3⟩:=(HS.o.kept HB.o).at aB
    have PP:k<r.length:=by have:=Yb.o;omega
    obtain⟨rb,roff,rfl,hrb,y0,y1,y2⟩:=(HR.o.kept HB.o).at PP;have HT:=ae (HF.o.trans (yO aB PP));have hlt':(k:Int)<(l.length:Int):=(by omega);have jbE:(0:Int)<=(k:Int):=(by omega);have HQ:jfp (qu l[k] r[k]=if r[k].1=0 then (if l[k].2.2.2=true then 82 else 0) else if r[k].1≠l[k].2.2.1 then 10 else if 64<r[k].2.2.length then 5 else 0):=ae rfl;generalize qu l[k] r[k]=Q at *;rw[dJ]at y2;have hS:=bg r[k].2.2;generalize ak r[k].2.2=S at *;generalize r[k].2.2.length=cl at *;generalize r[k].2.1=cn at *;generalize r[k].1=ck at *;generalize l[k].2.2.1=f2 at *;generalize l[k].2.2.2=f3 at *;have qt:=am wr (.cells #[.int .u8 (ck:Int),.int .i64 cn,.string S] 52);have aO:=ae (HB.o.trans (qt.mono bF));have e1:=(qt.cell (p:=⟨w.heap.size,1,none⟩) (show w.heap.size<_ by omega)).trans d1;have e2:=(qt.cell (p:=⟨b,off+k*4+2,none⟩) hb).trans x2;have e3:=(qt.cell (p:=⟨b,off+k*4+3,none⟩) hb).trans x3;have PI:w.heap.size<wr.heap.size:=(by omega);clear qt;by_cases q0:ck=0
    ·have q0':((ck:Int)==0)=true:=by rw[q0];rfl
     rw[jdu q0]at HQ;clear q0;cases f3
     ·rw[jdt (by simp)]at HQ
      rw[jdu HQ.o]at HT;go_wp2_with fail;go_roundw
      case rel=>exact⟨k+1,by omega,by go_num,HT.o,aO.o⟩
      case measure=>simp[intOf];omega
     ·rw[jdu rfl]at HQ
      rw[HQ.o,jdt (by omega)]at HT;go_wp2_with fail;go_ret
      rw[HT.o];exact⟨rfl,ai ce.o aO.o⟩
    ·have q0':((ck:Int)==0)=false:=jdG.2 (by omega)
     rw[jdt q0]at HQ;clear q0;by_cases q1:ck=f2
     ·rw[jdt (by simpa using q1)]at HQ
      have q1':((ck:Int) != (f2:Int))=false:=by simp[q1]
      clear q1;by_cases q2:64<cl
      ·have q2':(S.size:Int) > 64:=by omega
       rw[jdu q2]at HQ;rw[HQ.o,jdt (by omega)]at HT;clear q2;go_wp2_with fail;go_quiet (fail)
       go_wp2_with fail;go_ret
       rw[HT.o];exact⟨rfl,ap (ai ce.o aO.o) _⟩
      ·have q2':¬ (S.size:Int) > 64:=by omega
       rw[jdt q2]at HQ;rw[jdu HQ.o]at HT;clear q2;go_wp2_with fail;go_quiet (fail)
       go_wp2_with fail;go_roundw
       case rel=>exact⟨k+1,by omega,by go_num,HT.o,ap aO.o _⟩
       case measure=>simp[intOf];omega
     ·rw[jdu q1]at HQ
      have q1':((ck:Int) != (f2:Int))=true:=by simp only[bne_iff_ne];omega
      rw[HQ.o,jdt (by omega)]at HT;clear q1;go_wp2_with fail;go_quiet (fail)
      go_wp2_with fail;go_ret
      rw[HT.o];exact⟨rfl,ap (ai ce.o aO.o) _⟩
   ·obtain rfl:k=l.length:=by omega
    have gj:¬ ((l.length:Nat):Int)<(l.length:Int):=(by omega);have HT:=ae (HF.o.trans (CA l _));clear HF;go_wp2_with fail;go_ret
    rw[HT.o];exact⟨rfl,ai ce.o HB.o⟩
def MX(w:World)(l:List Fd)(e:Ending)(w':World):Prop:=(∃ g:Bool,e=.returned (.bool g)/\(g=false->l.length<=100/\szs l<5000))/\Below w.heap.size w w'
theorem MY{w:World}{v:Value}{l:List Fd}(hs:Sf w v l)(id:Nat):Calls Tryz.prog 10 #[.agg #[.int .u32 (id:Int),v]] w (MX w l):=by
 obtain⟨a,cap,rfl,aW,bw⟩:=hs.form;have ce:=ae (am w (.cells #[.int .u32 (id:Int),.slice a l.length cap] 25));have HS:=ae (hs.kept (am w (.cells #[.int .u32 (id:Int),.slice a l.length cap] 25)));obtain⟨c0,c1⟩:=bx w (.int .u32 (id:Int)) (.slice a l.length cap) 25;clear hs;generalize hW:w.alloc (.cells #[.int .u32 (id:Int),.slice a l.length cap] 25)=W at *;go_enter Tryz.func10,Tryz.ntmps10
 go_wp2_with fail;try rw[hW]
 clear hW;go_loopw [3,4] (fun n i wr=>∃ k s:Nat,wr=W/\k<=l.length/\k<=100/\i=.int .i64 (k:Int)/\n=.int .i64 (s:Int)/\s<10000/\(s<5000->s=szs (l.take k))) (fun _ i _=>l.length-(intOf i).toNat)
 case atStart=>exact⟨0,0,rfl,by omega,by omega,rfl,rfl,by omega,fun _=>by simp[szs]⟩
 case round =>
  obtain⟨k,s,rfl,hk,hk100,rfl,rfl,ea,dN⟩:=hrel;have gl:=ae dN;clear dN;by_cases aB:k<l.length
  ·have hlt':(k:Int)<(l.length:Int):=by omega
   by_cases qp:(k:Int)<100
   ·by_cases nz:(s:Int)<5000
    ·obtain⟨b,off,rfl,hb,x0,x1,x2,x3⟩:=HS.o.at aB
     have qn:=ae (xU aB);have HSE:=ae (gl.o (by omega));generalize l[k].2.1=nm at *;have Yj:∃ q:Nat,min (nm.size:Int) 5000=(q:Int)/\q<=5000/\(q<5000->q=nm.size):=⟨min nm.size 5000,by omega,by omega,by omega⟩;obtain h | h | h:(nm.size:Int)<5000∨(nm.size:Int)=5000∨(5000:Int)<(nm.size:Int):=by omega
     ·have h2:¬ (5000:Int)<(nm.size:Int):=by omega
      have h3:((nm.size:Int)==5000)=false:=jdG.2 (by omega);have h4:(nm.size:Int)<=5000:=(by omega);have h5:¬ (5000:Int)<=(nm.size:Int):=(by omega);clear Yj;go_wp2_with fail;go_roundw
      case rel=>exact⟨k+1,s+nm.size,trivial,by omega,by omega,by go_num,by go_num,by omega,fun _=>by rw[qn.o,HSE.o]⟩
      case measure=>simp[intOf];omega
     ·clear Yj
      go_wp2_with fail;go_roundw
      case rel=>exact⟨k+1,s+5000,trivial,by omega,by omega,by go_num,by go_num,by omega,fun h=>by omega⟩
      case measure=>simp[intOf];omega
     ·have h2:¬ (nm.size:Int)<5000:=by omega
      have h3:((nm.size:Int)==5000)=false:=jdG.2 (by omega);have h4:(5000:Int)<=(nm.size:Int):=(by omega);have h5:¬ (nm.size:Int)<=5000:=(by omega);clear Yj;go_wp2_with fail;go_roundw
      case rel=>exact⟨k+1,s+5000,trivial,by omega,by omega,by go_num,by go_num,by omega,fun h=>by omega⟩
      case measure=>simp[intOf];omega
    ·by_cases hl:(l.length:Int) > 100
     ·go_wp2_with fail
      go_ret
      exact⟨⟨true,rfl,fun h=>by cases h⟩,ce.o⟩
     ·have xE:(s:Int)>=5000:=by omega
      go_wp2_with fail;go_ret
      exact⟨⟨true,rfl,fun h=>by cases h⟩,ce.o⟩
   ·have hl:(l.length:Int) > 100:=by omega
    go_wp2_with fail;go_ret
    exact⟨⟨true,rfl,fun h=>by cases h⟩,ce.o⟩
  ·obtain rfl:k=l.length:=by omega
   have gj:¬ ((l.length:Nat):Int)<(l.length:Int):=(by omega);have hl:¬ (l.length:Int) > 100:=(by omega);by_cases xE:(s:Int)>=5000
   ·go_wp2_with fail
    go_ret
    exact⟨⟨true,rfl,fun h=>by cases h⟩,ce.o⟩
   ·have h2:=gl.o
    rw[jdE]at h2;have H2:=ae (h2 (by omega));clear h2;go_wp2_with fail;go_ret
    exact⟨⟨false,rfl,fun h=>⟨by omega,by rw[← H2.o];omega⟩⟩,ce.o⟩
theorem tP(c:Nat)(w:World):Calls Tryz.prog 224 #[.int .i32 (c:Int)] w fun e w'=>e=.returned (.bool (eB c))/\w'=w:=by
 by_cases h1:48<=(c:Int)
 ·by_cases h2:(c:Int)<=57
  ·have HN:jfp (eB c=true):=ae (jdO (by omega))
   go_enter Tryz.func224,Tryz.ntmps224
   go_wp2;go_ret
   rw[HN.o];exact⟨rfl,rfl⟩
  ·have HN:jfp (eB c=false):=ae (jdK (by omega))
   go_enter Tryz.func224,Tryz.ntmps224
   go_wp2;go_ret
   rw[HN.o];exact⟨rfl,rfl⟩
 ·have HN:jfp (eB c=false):=ae (jdK (by omega))
  go_enter Tryz.func224,Tryz.ntmps224
  go_wp2;go_ret
  rw[HN.o];exact⟨rfl,rfl⟩
theorem DI(c:Nat)(w:World):Calls Tryz.prog 223 #[.int .i32 (c:Int)] w fun e w'=>e=.returned (.bool (gJ c || eB c))/\w'=w:=by
 have HD:=ae (tP c);have HL:jfp (gJ c=(decide (97<=c/\c<=122) || decide (c=95) || decide (127<c))):=ae rfl;by_cases h1:97<=(c:Int)/\(c:Int)<=122
 ·obtain⟨h1,h2⟩:=h1
  have HN:jfp ((gJ c || eB c)=true):=ae (by rw[HL.o,jdO (show 97<=c/\c<=122 by omega)];rfl);rw[HN.o];go_enter Tryz.func223,Tryz.ntmps223
  go_wp2;go_ret
  exact⟨rfl,rfl⟩
 ·have hh:¬ (97<=c/\c<=122):=by omega
  have HB:jfp ((gJ c || eB c)=(eB c || decide (c=95) || decide (127<c))):=ae (by
   rw[HL.o,jdK hh];cases eB c<;>cases decide (c=95)<;>cases decide (127<c)<;>rfl)
  rw[HB.o];clear hh;generalize eB c=dg at *;have UR:97<=(c:Int)/\¬ (c:Int)<=122∨¬ 97<=(c:Int):=by omega
  clear h1;rcases UR with ⟨h1,h2⟩ | h1
  all_goals
   go_enter Tryz.func223,Tryz.ntmps223
   go_wp2_with fail;refine(HD.o _).mono ?_;rintro e w1 ⟨rfl,rfl⟩;cases dg
   ·by_cases h3:c=95
    ·have h3':((c:Int)==95)=true:=by simp;omega
     have HV:jfp ((false || decide (c=95) || decide (127<c))=true):=ae (by rw[jdO h3];rfl);clear h3;go_wp2_with fail;go_ret
     rw[HV.o];exact⟨rfl,rfl⟩
    ·have h3':((c:Int)==95)=false:=by simp;omega
     have HV:jfp ((false || decide (c=95) || decide (127<c))=decide (127<(c:Int))):=ae (by
      rw[jdK h3];by_cases h4:127<c
      ·rw[jdO h4,jdO (by omega)];rfl
      ·rw[jdK h4,jdK (by omega)];rfl)
     clear h3;go_wp2_with fail;go_ret
     rw[HV.o];exact⟨rfl,rfl⟩
   ·go_wp2_with fail
    go_ret
    exact⟨rfl,rfl⟩
theorem SA{u:List (Nat×Nat)}(h:∀ x∈u,1<=x.2){k:Nat}(hk:k<=u.length):eJ u k=0↔k=0:=by
 cases k with
 | zero=>simp
 | succ k =>
  cases u with
  | nil=>simp at hk
  | cons x t =>
   have:=h x (by simp);unfold eJ;simp
   omega
theorem WS{l:List UInt8}{p k:Nat}(h:At l p k):p=0↔k=0:=by
 rw[h.2.2.1];exact SA (fun x hx=>(Wj _ l (jdw _) x hx).2) h.2.2.2
theorem MZ{l:List UInt8}{p k:Nat}(h:At l p k)(hp:p<l.length):dQ k ((V l).drop k)=(kR k (aP (l.drop p)).1 && dQ (k+1) ((V l).drop (k+1))):=by
 have h1:=h.lt hp;rw[h1,pi,yL h1]
theorem Hd(k c:Nat):kR k c=((gJ c || eB c) && !(decide (k=0) && eB c)):=by
 unfold kR;by_cases hk:k=0
 ·subst hk
  have h1:eB c=true->gJ c=false:=by
   unfold eB gJ;simp
   omega
  cases hd:eB c
  ·simp
  ·rw[h1 hd];simp
 ·have:0<k:=by omega
  simp[hk,this]
theorem ye(s:ByteArray)(w:World):Calls Tryz.prog 197 #[.string s] w fun e w'=>e=.returned (.bool (named s))/\Below w.heap.size w w':=by
 have hL:=cJ s;by_cases h1:s.size=0
 ·have HN:jfp (named s=false):=ae (by unfold named;rw[jdK (by omega)];rfl)
  rw[HN.o]
  have hs:s=⟨#[]⟩:=by
   apply GL
   exact jdV (hL.trans h1)
  subst hs;clear hL h1;go_enter Tryz.func197,Tryz.ntmps197
  go_wp2_with fail;go_ret
  exact⟨rfl,jdv _ _⟩
 ·have fF:(s.toList==([]:List UInt8))=false:=by
   cases h:(s.toList==([]:List UInt8))with
   | false=>rfl
   | true =>
    exfalso
    rw[beq_iff_eq,ByteArray.toList_eq]at h;have:=jdB List.length h;have h3:s.size=0:=this;omega
  have yF:s.toList.isEmpty=false:=by
   cases h:s.toList with
   | nil=>rw[h]at fF;simp at fF
   | cons=>rfl
  by_cases h2:(s.size:Int) > 16
  ·have HN:jfp (named s=false):=ae (by unfold named;rw[jdK (by omega)];rfl)
   rw[HN.o];clear h1;go_enter Tryz.func197,Tryz.ntmps197
   go_wp2_with fail;go_ret
   exact⟨rfl,jdv _ _⟩
  ·have HN:jfp (named s=(dP (lb s) && dQ 0 (V (lb s)))):=ae (by unfold named;rw[jdO (by omega)];rfl)
   rw[HN.o];have HC:=ae (sG s (by omega));clear HN h1;generalize dP (lb s)=cl at *;go_enter Tryz.func197,Tryz.ntmps197
   go_wp2_with fail;refine(HC.o _).mono ?_;rintro e w1 ⟨rfl,aH⟩;have aQ:=ae aH;clear aH;cases cl
   ·go_wp2_with fail
    go_ret
    exact⟨rfl,aQ.o⟩
   ·go_wp2_with fail
    go_loopw [3,4] (fun i r w'=>∃ p k:Nat,w'=w1.iter s p/\At (lb s) p k/\dQ 0 (V (lb s))=dQ k ((V (lb s)).drop k)) (fun _ _ w'=>s.size-w'.iterPos w1.heap.size)
    case atStart=>exact⟨0,0,rfl,At.zero _,rfl⟩
    case round =>
     obtain⟨p,k,rfl,lG,ex⟩:=hrel;by_cases hp:p<s.size
     ·have xM:∀ ty,(Instr.next (.pointer (some ⟨w1.heap.size,0,none⟩)) true ty).run Tryz.prog (w1.iter s p)=_:=fun ty=>run_next_any w1 s p ty hp
      rw[lV]at xM;have hw:=dB _ (jd (l:=lb s) (p:=p) (by omega));have HN:=ae (lG.next (by omega));have HG:=ae (ex.trans (MZ lG (by omega)));have hz:=WS lG;clear lG ex;generalize (aP ((lb s).drop p))=u at *;obtain⟨c,wd⟩:=u;simp only at *;have HS:=ae (Hd k c);have HO:=ae (DI c);have HD:=ae (tP c);have HW:=ae hw;clear hw;cases hlet:(gJ c || eB c)with
      | false =>
       rw[hlet]at HO HS;clear hz;go_wp2_with fail;refine(HO.o _).mono ?_;rintro e w2 ⟨rfl,rfl⟩;go_wp2_with fail;go_ret
       refine⟨?_,aQ.o.trans ((ep _ _ _).mono aQ.o.size)⟩;rw[Bool.true_and,HG.o,HS.o];rfl
      | true =>
       rw[hlet]at HO HS;by_cases hp0:p=0
       ·obtain rfl:k=0:=hz.1 hp0
        subst hp0;clear hz;cases hdg:eB c with
        | false =>
         rw[hdg]at HD HS;go_wp2_with fail;refine(HO.o _).mono ?_;rintro e w2 ⟨rfl,rfl⟩;go_wp2_with fail;refine(HD.o _).mono ?_;rintro e w2 ⟨rfl,rfl⟩;go_wp2_with fail;go_roundw
         case rel=>exact⟨_,1,rfl,by simpa using HN.o,by rw[HG.o,HS.o];rfl⟩
         case measure=>have:=HW.o;simp at this ⊢;omega
        | true =>
         rw[hdg]at HD HS;go_wp2_with fail;refine(HO.o _).mono ?_;rintro e w2 ⟨rfl,rfl⟩;go_wp2_with fail;refine(HD.o _).mono ?_;rintro e w2 ⟨rfl,rfl⟩;go_wp2_with fail;go_ret
         refine⟨?_,aQ.o.trans ((ep _ _ _).mono aQ.o.size)⟩;rw[Bool.true_and,HG.o,HS.o];rfl
       ·have ql:¬ k=0:=fun h=>hp0 (hz.2 h)
        have hpb:((p:Int)==0)=false:=by simp[hp0]
        rw[jdK ql]at HS;clear hz ql hp0;go_wp2_with fail;refine(HO.o _).mono ?_;rintro e w2 ⟨rfl,rfl⟩;go_wp2_with fail;go_roundw
        case rel=>exact⟨_,k+1,rfl,HN.o,by rw[HG.o,HS.o];rfl⟩
        case measure=>have:=HW.o;simp at this ⊢;omega
     ·have xM:∀ ty,(Instr.next (.pointer (some ⟨w1.heap.size,0,none⟩)) true ty).run Tryz.prog (w1.iter s p)=_:=fun ty=>run_next_end w1 s p ty hp
      have HE:jfp (k=(V (lb s)).length/\p=(lb s).length):=lG.end (by omega);clear lG;have HG:=ae ex;clear ex;go_wp2_with fail;go_ret
      refine⟨?_,aQ.o.trans ((ep _ _ _).mono aQ.o.size)⟩;rw[Bool.true_and,HG.o,HE.o.1,jer];rfl
theorem DJ{v:Value}{k n:Int}{s:ByteArray}(h:Val v k n s)(w:World):Calls Tryz.prog 76 #[v] w fun e w'=>e=.returned (.agg #[.int .u8 k,.int .i64 n,.string s])/\Below w.heap.size w w':=by
 have t1:=Av;have t2:=Gh;have t3:=Aw;have t4:=Gi;have t5:=Gj;have t6:=Ax;have t7:=Gk;have t8:=Gl;have t9:=Gm;rcases h with ⟨rfl,rfl,rfl,rfl⟩ | ⟨rfl,rfl,rfl⟩ | ⟨b,rfl,rfl,rfl,rfl⟩ | ⟨rfl,rfl,rfl⟩
 ·go_enter Tryz.func76,Tryz.ntmps76
  go_wp2;exact bodyPost_ret (v:=.agg #[.int .u8 0,.int .i64 0,.string ⟨#[]⟩]) (by simp[results,Tryz.results76,go_sem]) rfl ⟨rfl,(jdv _ _).alloc (jdw _) _⟩
 ·go_enter Tryz.func76,Tryz.ntmps76
  go_wp2;exact bodyPost_ret (v:=.agg #[.int .u8 1,.int .i64 n,.string ⟨#[]⟩]) (by simp[results,Tryz.results76,go_sem]) rfl ⟨rfl,(jdv _ _).alloc (jdw _) _⟩
 ·cases b
  ·go_enter Tryz.func76,Tryz.ntmps76
   go_wp2;exact bodyPost_ret (v:=.agg #[.int .u8 2,.int .i64 0,.string ⟨#[]⟩]) (by simp[results,Tryz.results76,go_sem]) rfl ⟨rfl,(jdv _ _).alloc (jdw _) _⟩
  ·go_enter Tryz.func76,Tryz.ntmps76
   go_wp2;exact bodyPost_ret (v:=.agg #[.int .u8 2,.int .i64 1,.string ⟨#[]⟩]) (by simp[results,Tryz.results76,go_sem]) rfl ⟨rfl,(jdv _ _).alloc (jdw _) _⟩
 ·go_enter Tryz.func76,Tryz.ntmps76
  go_wp2;exact bodyPost_ret (v:=.agg #[.int .u8 3,.int .i64 0,.string s]) (by simp[results,Tryz.results76,go_sem]) rfl ⟨rfl,(jdv _ _).alloc (jdw _) _⟩
theorem Na{c:Nat×Int×List Nat}(h:aT c)(w:World):Calls Tryz.prog 76 #[cY c] w fun e w'=>e=.returned (.agg #[.int .u8 (c.1:Int),.int .i64 c.2.1,.string (ak c.2.2)])/\Below w.heap.size w w':=DJ h.val w
theorem Nb{w:World}{v:Value}{l:List (Nat×Int×List Nat)}(hs:Sv w v (aI l))(hf:∀ c∈l,aT c)(hl:l.length<=600) :
  Calls Tryz.prog 37 #[v] w fun e w'=>(∃ v',e=.returned v'/\fH w' w.heap.size v' l)/\Below w.heap.size w w':=by
 have HS:=ae hs;have HK:=ae hf;obtain⟨a,cap,rfl,aW,bw⟩:=hs.form1;rw[aG]at *;have hcm':cap<=9223372036854775807:=by unfold maxLen at bw;omega
 clear hs bw hf;go_enter Tryz.func37,Tryz.ntmps37
 go_wp2_with fail;go_loopw [3,4] (fun o i wr=>∃ j:Nat,j<=l.length/\i=.int .i64 (j:Int)/\fH wr w.heap.size o (l.take j)/\Below w.heap.size w wr) (fun _ i _=>l.length-(intOf i).toNat)
 case atStart=>exact⟨0,by omega,rfl,fH.nil _ _,jdv _ _⟩
 case round =>
  obtain⟨j,hj,rfl,aA,az⟩:=hrel;have HO:=ae aA;have HB:=ae az;have bF:=az.size;clear aA az;by_cases aB:j<l.length
  ·obtain⟨g,off,rfl,hg,br⟩:=(HS.o.kept HB.o).at1 (cN aB)
   have hlt':(j:Int)<(l.length:Int):=(by omega);have lE:jfp (l.take (j+1)=l.take j++[l[j]]):=ae (jdM aB);have hlen':(l.take j).length<=100000:=by rw[jdC];omega
   have HVA:=ae (Na (HK.o l[j] (jdA aB)));generalize l[j]=fc at *;generalize l.take j=LL at *;generalize cY fc=vc at *;go_wp2_with fail;refine(HVA.o _).mono ?_;rintro e w1 ⟨rfl,aH⟩;have eY:=ae (HO.o.kept aH);have aQ:=ae (HB.o.trans (aH.mono bF));have cP:=aH.size;have kP:=ae (dx w1 (.int .u8 (fc.1:Int)) (.int .i64 fc.2.1) (.string (ak fc.2.2)) 52);clear aH br;go_wp2_with (first | (at_builtin;refine jB rfl _ _ rfl w.heap.size _ _ fc LL rfl (eY.o.kept (am _ _)) rfl kP.o.1 kP.o.2.1 kP.o.2.2 hlen' ?c2 ?_))
   case c2=>first | omega | (rw[jdx];omega)
   intro v' w5 o5 b5;have dE:=ae o5;have aR:=ae ((aQ.o.alloc (jdF bF cP) _).trans b5);clear o5 b5;go_wp2_with fail;go_roundw
   case rel=>exact⟨j+1,by omega,by go_num,by rw[lE.o];exact dE.o,aR.o⟩
   case measure=>simp[intOf];omega
  ·obtain rfl:j=l.length:=by omega
   rw[jdE]at HO;have gj:¬ ((l.length:Nat):Int)<(l.length:Int):=(by omega);go_wp2_with fail;go_ret
   exact⟨⟨_,rfl,HO.o⟩,HB.o⟩
theorem DK{w:World}{v1 v2:Value}{l m:List (Nat×Int×List Nat)}(h1:Sc w v1 l)(h2:Sc w v2 m)(aH:∀ c∈l,Bs c.2.2)(aE:∀ c∈m,Bs c.2.2) :
  Calls Tryz.prog 36 #[v1,v2] w fun e w'=>e=.returned (.bool (decide (l=m)))/\Below w.heap.size w w':=by
 have jy:=ae h1;have gl:=ae h2;have aQ:=ae aH;have aO:=ae aE;obtain⟨a,cap,rfl,aW,bw⟩:=h1.form;obtain⟨a2,cap2,rfl,UF,yx⟩:=h2.form;have hcm':cap<=9223372036854775807:=by unfold maxLen at bw;omega
 have hcm2':cap2<=9223372036854775807:=by unfold maxLen at yx;omega
 clear h1 h2 aH aE bw yx;by_cases bR:l.length=m.length
 ·have fF:(((l.length:Nat):Int) != (m.length:Int))=false:=by simp[bR]
  have BX:=ae bR;clear bR;go_enter Tryz.func36,Tryz.ntmps36
  go_wp2_with fail;go_loopw [5] (fun i wr=>∃ j:Nat,j<=l.length/\i=.int .i64 (j:Int)/\l.take j=m.take j/\Below w.heap.size w wr) (fun i _=>l.length-(intOf i).toNat)
  case atStart=>exact⟨0,by omega,rfl,rfl,jdv _ _⟩
  case round =>
   obtain⟨j,hj,rfl,Zr,az⟩:=hrel;have VQ:=ae Zr;have HB:=ae az;clear Zr az;by_cases aB:j<l.length
   ·have jbF:j<m.length:=by have:=BX.o;omega
    obtain⟨g,off,rfl,hg,c0,c1,c2⟩:=(jy.o.kept HB.o).at aB;obtain⟨g2,off2,rfl,ik,d0,d1,d2⟩:=(gl.o.kept HB.o).at jbF;have hlt':(j:Int)<(l.length:Int):=(by omega);have hltm':(j:Int)<(m.length:Int):=(by omega);have lE:=ae (fun he=>Az aB jbF VQ.o he);have Qx:jfp (l[j]≠m[j]->decide (l=m)=false):=ae (fun h=>jdK (fun e=>h (by subst e;rfl)));have HBC:=ae (aQ.o l[j] (jdA aB));have FZ:=ae (aO.o m[j] (jdA jbF));rw[dJ]at c2 d2;generalize l[j]=c at *;generalize m[j]=d at *;obtain⟨ck,cn,cs⟩:=c;obtain⟨dk,dn,ds⟩:=d;simp only at *;by_cases hk:ck=dk
    ·subst hk
     by_cases hn:cn=dn
     ·subst hn
      by_cases hs:cs=ds
      ·subst hs
       have HN':=ae (lE.o rfl);clear lE Qx;generalize ak cs=S at *;go_wp2_with fail;go_quiet (fail)
       go_wp2_with fail;go_roundw
       case rel=>exact⟨j+1,by omega,by go_num,HN'.o,HB.o.trans ⟨rfl,rfl,rfl,jdw _,fun _ _=>rfl⟩⟩
       case measure=>simp[intOf];omega
      ·have HNE':=ae (Qx.o (fun e=>hs (by simpa using e)))
       have hss:((ak cs).toList==(ak ds).toList)=false:=by
        rw[bE,bE];exact jdG.2 (fun e=>hs (by rw[← ft HBC.o,← ft FZ.o,e]))
       clear lE Qx hs;generalize ak cs=S at *;generalize ak ds=T at *;go_wp2_with fail;go_quiet (fail)
       go_wp2_with fail;go_ret
       rw[HNE'.o];exact⟨rfl,HB.o.trans ⟨rfl,rfl,rfl,jdw _,fun _ _=>rfl⟩⟩
     ·have HNE':=ae (Qx.o (fun e=>hn (by have:=jdB (fun t=>t.2.1) e;simpa using this)))
      have Zq:(cn==dn)=false:=jdG.2 hn;clear lE Qx hn;generalize ak cs=S at *;generalize ak ds=T at *;go_wp2_with fail;go_quiet (fail)
      go_wp2_with fail;go_ret
      rw[HNE'.o];exact⟨rfl,HB.o.trans ⟨rfl,rfl,rfl,jdw _,fun _ _=>rfl⟩⟩
    ·have HNE':=ae (Qx.o (fun e=>hk (by have:=jdB (fun t=>t.1) e;simpa using this)))
     have FV:((ck:Int)==(dk:Int))=false:=jdG.2 (by omega);clear lE Qx hk;generalize ak cs=S at *;generalize ak ds=T at *;go_wp2_with fail;go_quiet (fail)
     go_wp2_with fail;go_ret
     rw[HNE'.o];exact⟨rfl,HB.o.trans ⟨rfl,rfl,rfl,jdw _,fun _ _=>rfl⟩⟩
   ·obtain rfl:j=l.length:=by omega
    have Ga:jfp (decide (l=m)=true):=ae (jdO (by
     have:=VQ.o;rw[jdE]at this;rw[this,BX.o,jdE]))
    have gj:¬ ((l.length:Nat):Int)<(l.length:Int):=(by omega);go_wp2_with fail;go_ret
    rw[Ga.o];exact⟨rfl,HB.o⟩
 ·have fF:(((l.length:Nat):Int) != (m.length:Int))=true:=by
   have:(l.length:Int)≠(m.length:Int):=by omega
   simpa using this
  have Ga:jfp (decide (l=m)=false):=ae (jdK (fun e=>bR (by rw[e])));clear bR;go_enter Tryz.func36,Tryz.ntmps36
  go_wp2_with fail;go_ret
  rw[Ga.o];exact⟨rfl,jdv _ _⟩
theorem AY(k:Nat)(w:World):Calls Tryz.prog 164 #[.int .u8 (k:Int)] w fun e w'=>e=.returned (.bool (kS k))/\w'=w:=by
 by_cases h1:((k:Int)==1)=true
 ·have hk:k=1:=by have:(k:Int)=1:=(by simpa using h1);omega
  subst hk;go_enter Tryz.func164,Tryz.ntmps164
  go_wp2;go_ret
  exact⟨rfl,rfl⟩
 ·by_cases h2:((k:Int)==2)=true
  ·have hk:k=2:=by have:(k:Int)=2:=(by simpa using h2);omega
   subst hk;go_enter Tryz.func164,Tryz.ntmps164
   go_wp2;go_ret
   exact⟨rfl,rfl⟩
  ·by_cases h3:((k:Int)==3)=true
   ·have hk:k=3:=by have:(k:Int)=3:=(by simpa using h3);omega
    subst hk;go_enter Tryz.func164,Tryz.ntmps164
    go_wp2;go_ret
    exact⟨rfl,rfl⟩
   ·have h1':((k:Int)==1)=false:=by simpa using h1
    have h2':((k:Int)==2)=false:=by simpa using h2
    have h3':((k:Int)==3)=false:=by simpa using h3
    have HN:jfp (kS k=false):=ae (by
     have a1:(k:Int)≠1:=by simpa using h1
     have a2:(k:Int)≠2:=by simpa using h2
     have a3:(k:Int)≠3:=by simpa using h3
     exact jdK (by omega))
    rw[HN.o];clear h1 h2 h3;go_enter Tryz.func164,Tryz.ntmps164
    go_wp2;go_ret
    exact⟨rfl,rfl⟩
theorem He{w:World}{v:Value}{l:List Fd}(hs:Sf w v l):Calls Tryz.prog 162 #[v] w fun e w'=>e=.returned (.int .u32 (eT l:Int))/\w'=w:=by
 obtain⟨a,cap,rfl,aW,bw⟩:=hs.form;by_cases hl:l.length=0
 ·have h0:((l.length:Int)==0)=true:=by simp[hl]
  have HN:jfp (eT l=0):=ae (by rw[jdV hl];rfl);clear hs hl;go_enter Tryz.func162,Tryz.ntmps162
  go_wp2;go_ret
  rw[HN.o];exact⟨rfl,rfl⟩
 ·obtain⟨b,off,rfl,hb,c0,c1,c2,c3⟩:=hs.at (k:=l.length-1) (by omega)
  have HN:=ae (Mh (l:=l) (by omega));have h0:((l.length:Int)==0)=false:=by simp[hl]
  obtain⟨m,hm⟩:∃ m,l.length=m+1:=⟨l.length-1,by omega⟩;have hq:((l.length:Int)-1)=(m:Int):=by omega
  have e1:l.length-1=m:=by omega
  generalize hx:(l[l.length-1]'(by omega)).1=x at *;rw[e1]at c0;clear hs hx c1 c2 c3 e1 hl;go_enter Tryz.func162,Tryz.ntmps162
  go_wp2;go_ret
  rw[HN.o];exact⟨rfl,rfl⟩
end Go.Proofs.YtpljdjmpamjkhaaGreatDoor
