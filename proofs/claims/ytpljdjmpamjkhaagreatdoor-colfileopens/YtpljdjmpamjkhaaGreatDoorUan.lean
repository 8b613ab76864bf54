import Derived.Test.YtpljdjmpamjkhaaGreatDoorUam
set_option linter.unusedVariables false
set_option linter.unusedSimpArgs false
set_option maxRecDepth 100000
set_option maxHeartbeats 4000000
namespace Go.Proofs.YtpljdjmpamjkhaaGreatDoor
open Go.RowKit Go.Lib
theorem iW(w:World)(x y z u:Value)(t:Nat):(w.alloc (.cells #[x,y,z,u] t)).cell? ⟨w.heap.size,0,none⟩=some x/\(w.alloc (.cells #[x,y,z,u] t)).cell? ⟨w.heap.size,1,none⟩=some y/\(w.alloc (.cells #[x,y,z,u] t)).cell? ⟨w.heap.size,2,none⟩=some z/\(w.alloc (.cells #[x,y,z,u] t)).cell? ⟨w.heap.size,3,none⟩=some u:=by
 have h:=jdH w (.cells #[x,y,z,u] t);exact⟨by rw[ay h];rfl,by rw[ay h];rfl,by rw[ay h];rfl,by rw[ay h];rfl⟩
theorem bF(w:World)(x y:Value)(t:Nat):(w.alloc (.cells #[x,y] t)).cell? ⟨w.heap.size,0,none⟩=some x/\(w.alloc (.cells #[x,y] t)).cell? ⟨w.heap.size,1,none⟩=some y:=by
 have h:=jdH w (.cells #[x,y] t);exact⟨by rw[ay h];rfl,by rw[ay h];rfl⟩
theorem wP{W:World}{v:Value}{l:List Fd}(h:Sf W v l)(n:Nat):Sf (W.drewN n) v l:=h.kept (ar (jdg _ _) n)
theorem sN{w:World}{v:Value}{l:List Fd}(hs:Sf w v l)(si id:Nat):Calls Tryz.prog 193 #[.agg #[.int .u32 (si:Int),v],.int .u32 (id:Int)] w fun e w'=>e=.returned (.tuple #[.int .i64 (((iI l id).getD 0:Nat):Int),.bool (iI l id).isSome])/\Below w.heap.size w w':=by
 obtain⟨a,cap,rfl,aY,bx⟩:=hs.form;have cE:=ae (ak w (.cells #[.int .u32 (si:Int),.slice a l.length cap] 25));have HS:=ae (hs.kept (ak w (.cells #[.int .u32 (si:Int),.slice a l.length cap] 25)));have HP:jfb (iI l id=kh id 0 (l.drop 0)):=ae rfl;generalize iI l id=P at *;clear hs;generalize hW:w.alloc (.cells #[.int .u32 (si:Int),.slice a l.length cap] 25)=W at *;have hW':=hW;obtain⟨c0,c1⟩:=bF w (.int .u32 (si:Int)) (.slice a l.length cap) 25;rw[hW]at c0 c1;go_enter Tryz.func193,Tryz.ntmps193
 go_wp2_with fail;try rw[hW]
 clear hW hW' c0 c1;go_loopw [11] (fun i wr=>∃ k:Nat,k<=l.length/\i=.int .i64 (k:Int)/\P=kh id k (l.drop k)/\Below W.heap.size W wr) (fun i _=>l.length-(intOf i).toNat)
 case atStart=>exact⟨0,by omega,rfl,HP.o,jdg _ _⟩
 case round =>
  obtain⟨k,hk,rfl,lz,az⟩:=hrel;have HF:=ae lz;have HB:=ae az;have bP:=az.size;clear lz az HP;by_cases aC:k<l.length
  ·obtain⟨b,off,rfl,hb,x0,x1,x2,x3⟩:=(HS.o.kept HB.o).at aC
   have HT:=ae (HF.o.trans (CF aC));have hlt':(k:Int)<(l.length:Int):=(by omega);generalize l[k]=f at *;obtain⟨f0,f1,f2,f3⟩:=f;simp only at *;have aO:=ae (HB.o.trans ((ak wr (.cells #[.int .u32 (f0:Int),.string f1,.int .u8 (f2:Int),.bool f3] 81)).mono bP));by_cases hq:f0=id
   ·rw[jdf hq]at HT
    have hq':((f0:Int)==(id:Int))=true:=by rw[hq];simp
    subst hq;go_wp2_with fail;go_ret2
    rw[HT.o];exact⟨rfl,ai cE.o aO.o⟩
   ·rw[jde hq]at HT
    have hq':((f0:Int)==(id:Int))=false:=jdt.2 (by omega);clear hq;go_wp2_with fail;go_roundw
    case rel=>exact⟨k+1,by omega,by go_num,HT.o,aO.o⟩
    case measure=>simp[intOf];omega
  ·obtain rfl:k=l.length:=by omega
   have gL:¬ ((l.length:Nat):Int)<(l.length:Int):=(by omega);have HT:=ae (HF.o.trans (Gd l id));clear HF;go_wp2_with fail;go_ret2
   rw[HT.o];exact⟨rfl,ai cE.o HB.o⟩
theorem GY{w:World}{v rv:Value}{l:List Fd}{r:List Cl}(hs:Sf w v l)(hr:Sc w rv r)(si:Nat):Calls Tryz.prog 43 #[.agg #[.int .u32 (si:Int),v],rv] w fun e w'=>e=.returned (.int .i64 (jL l r:Int))/\Below w.heap.size w w':=by
 obtain⟨a,cap,rfl,aY,bx⟩:=hs.form;obtain⟨ra,rcap,rfl,Ux,Uy⟩:=hr.form;have hrcm':rcap<=9223372036854775807:=by unfold maxLen at Uy;omega
 have dY:=ak w (.cells #[.int .u32 (si:Int),.slice a l.length cap] 25);have cE:=ae dY;have HS:=ae (hs.kept dY);have HR:=ae (hr.kept dY);obtain⟨c0,c1⟩:=bF w (.int .u32 (si:Int)) (.slice a l.length cap) 25;have hz:w.heap.size<(w.alloc (.cells #[.int .u32 (si:Int),.slice a l.length cap] 25)).heap.size:=by rw[jdi];omega
 clear hs hr dY Uy;generalize hW:w.alloc (.cells #[.int .u32 (si:Int),.slice a l.length cap] 25)=W at *;by_cases fQ:r.length≠l.length
 ·have HM:jfb (jL l r=1):=ae (jdf fQ)
  have hne':((r.length:Int) != (l.length:Int))=true:=by simp only[bne_iff_ne];omega
  clear fQ;go_enter Tryz.func43,Tryz.ntmps43
  go_wp2_with fail;go_ret
  rw[HM.o];refine⟨rfl,?_⟩;first | exact cE.o | (rw[hW];exact cE.o)
 ·have pC:r.length=l.length:=by omega
  have HM:jfb (jL l r=qv (l.drop 0) (r.drop 0)):=ae (jde fQ);have XJ:=ae pC;rw[pC]at Ux HR ⊢;generalize jL l r=R at *;clear fQ pC;go_enter Tryz.func43,Tryz.ntmps43
  go_wp2_with fail;try rw[hW]
  clear hW;go_loopw [5] (fun i wr=>∃ k:Nat,k<=l.length/\i=.int .i64 (k:Int)/\R=qv (l.drop k) (r.drop k)/\Below W.heap.size W wr) (fun i _=>l.length-(intOf i).toNat)
  case atStart=>exact⟨0,by omega,rfl,HM.o,jdg _ _⟩
  case round =>
   obtain⟨k,hk,rfl,lz,az⟩:=hrel;have HF:=ae lz;have HB:=ae az;have bP:=az.size;have d1:=(az.cell (p:=⟨w.heap.size,1,none⟩) hz).trans c1;clear lz az HM;by_cases aC:k<l.length
   ·obtain⟨b,off,rfl,hb,x0,x1,x2,x3⟩:=(HS.o.kept HB.o).at aC
    have Py:k<r.length:=by have:=XJ.o;omega
    obtain⟨rb,roff,rfl,hrb,y0,y1,y2⟩:=(HR.o.kept HB.o).at Py;have HT:=ae (HF.o.trans (yP aC Py));have hlt':(k:Int)<(l.length:Int):=(by omega);have jbr:(0:Int)<=(k:Int):=(by omega);have HQ:jfb (qu l[k] r[k]=if r[k].1=0 then (if l[k].2.2.2=true then 82 else 0) else if r[k].1≠l[k].2.2.1 then 10 else if 64<r[k].2.2.length then 5 else 0):=ae rfl;generalize qu l[k] r[k]=Q at *;rw[en]at y2;have hS:=bm r[k].2.2;generalize am r[k].2.2=S at *;generalize r[k].2.2.length=cl at *;generalize r[k].2.1=cn at *;generalize r[k].1=ck at *;generalize l[k].2.2.1=f2 at *;generalize l[k].2.2.2=f3 at *;have qt:=ak wr (.cells #[.int .u8 (ck:Int),.int .i64 cn,.string S] 52);have aO:=ae (HB.o.trans (qt.mono bP));have e1:=(qt.cell (p:=⟨w.heap.size,1,none⟩) (show w.heap.size<_ by omega)).trans d1;have e2:=(qt.cell (p:=⟨b,off+k*4+2,none⟩) hb).trans x2;have e3:=(qt.cell (p:=⟨b,off+k*4+3,none⟩) hb).trans x3;have Pu:w.heap.size<wr.heap.size:=(by omega);clear qt;by_cases q0:ck=0
    ·have q0':((ck:Int)==0)=true:=by rw[q0];rfl
     rw[jdf q0]at HQ;clear q0;cases f3
     ·rw[jde (by simp)]at HQ
      rw[jdf HQ.o]at HT;go_wp2_with fail;go_roundw
      case rel=>exact⟨k+1,by omega,by go_num,HT.o,aO.o⟩
      case measure=>simp[intOf];omega
     ·rw[jdf rfl]at HQ
      rw[HQ.o,jde (by omega)]at HT;go_wp2_with fail;go_ret
      rw[HT.o];exact⟨rfl,ai cE.o aO.o⟩
    ·have q0':((ck:Int)==0)=false:=jdt.2 (by omega)
     rw[jde q0]at HQ;clear q0;by_cases q1:ck=f2
     ·rw[jde (by simpa using q1)]at HQ
      have q1':((ck:Int) != (f2:Int))=false:=by simp[q1]
      clear q1;by_cases q2:64<cl
      ·have q2':(S.size:Int) > 64:=by omega
       rw[jdf q2]at HQ;rw[HQ.o,jde (by omega)]at HT;clear q2;go_wp2_with fail;go_quiet (fail)
       go_wp2_with fail;go_ret
       rw[HT.o];exact⟨rfl,ar (ai cE.o aO.o) _⟩
      ·have q2':¬ (S.size:Int) > 64:=by omega
       rw[jde q2]at HQ;rw[jdf HQ.o]at HT;clear q2;go_wp2_with fail;go_quiet (fail)
       go_wp2_with fail;go_roundw
       case rel=>exact⟨k+1,by omega,by go_num,HT.o,ar aO.o _⟩
       case measure=>simp[intOf];omega
     ·rw[jdf q1]at HQ
      have q1':((ck:Int) != (f2:Int))=true:=by simp only[bne_iff_ne];omega
      rw[HQ.o,jde (by omega)]at HT;clear q1;go_wp2_with fail;go_quiet (fail)
      go_wp2_with fail;go_ret
      rw[HT.o];exact⟨rfl,ar (ai cE.o aO.o) _⟩
   ·obtain rfl:k=l.length:=by omega
    have gL:¬ ((l.length:Nat):Int)<(l.length:Int):=(by omega);have HT:=ae (HF.o.trans (CG l _));clear HF;go_wp2_with fail;go_ret
    rw[HT.o];exact⟨rfl,ai cE.o HB.o⟩
theorem tP(c:Nat)(w:World):Calls Tryz.prog 224 #[.int .i32 (c:Int)] w fun e w'=>e=.returned (.bool (eA c))/\w'=w:=by
 by_cases h1:48<=(c:Int)
 ·by_cases h2:(c:Int)<=57
  ·have HN:jfb (eA c=true):=ae (jdy (by omega))
   go_enter Tryz.func224,Tryz.ntmps224
   go_wp2;go_ret
   rw[HN.o];exact⟨rfl,rfl⟩
  ·have HN:jfb (eA c=false):=ae (jds (by omega))
   go_enter Tryz.func224,Tryz.ntmps224
   go_wp2;go_ret
   rw[HN.o];exact⟨rfl,rfl⟩
 ·have HN:jfb (eA c=false):=ae (jds (by omega))
  go_enter Tryz.func224,Tryz.ntmps224
  go_wp2;go_ret
  rw[HN.o];exact⟨rfl,rfl⟩
theorem DM(c:Nat)(w:World):Calls Tryz.prog 223 #[.int .i32 (c:Int)] w fun e w'=>e=.returned (.bool (gA c || eA c))/\w'=w:=by
 have HD:=ae (tP c);have HL:jfb (gA c=(decide (97<=c/\c<=122) || decide (c=95) || decide (127<c))):=ae rfl;by_cases h1:97<=(c:Int)/\(c:Int)<=122
 ·obtain⟨h1,h2⟩:=h1
  have HN:jfb ((gA c || eA c)=true):=ae (by rw[HL.o,jdy (show 97<=c/\c<=122 by omega)];rfl);rw[HN.o];go_enter Tryz.func223,Tryz.ntmps223
  go_wp2;go_ret
  exact⟨rfl,rfl⟩
 ·have hh:¬ (97<=c/\c<=122):=by omega
  have HB:jfb ((gA c || eA c)=(eA c || decide (c=95) || decide (127<c))):=ae (by
   rw[HL.o,jds hh];cases eA c<;>cases decide (c=95)<;>cases decide (127<c)<;>rfl)
  rw[HB.o];clear hh;generalize eA c=dg at *;have Uz:97<=(c:Int)/\¬ (c:Int)<=122∨¬ 97<=(c:Int):=by omega
  clear h1;rcases Uz with ⟨h1,h2⟩ | h1
  all_goals
   go_enter Tryz.func223,Tryz.ntmps223
   go_wp2_with fail;refine(HD.o _).mono ?_;rintro e w1 ⟨rfl,rfl⟩;cases dg
   ·by_cases h3:c=95
    ·have h3':((c:Int)==95)=true:=by simp;omega
     have HV:jfb ((false || decide (c=95) || decide (127<c))=true):=ae (by rw[jdy h3];rfl);clear h3;go_wp2_with fail;go_ret
     rw[HV.o];exact⟨rfl,rfl⟩
    ·have h3':((c:Int)==95)=false:=by simp;omega
     have HV:jfb ((false || decide (c=95) || decide (127<c))=decide (127<(c:Int))):=ae (by
      rw[jds h3];by_cases h4:127<c
      ·rw[jdy h4,jdy (by omega)];rfl
      ·rw[jds h4,jds (by omega)];rfl)
     clear h3;go_wp2_with fail;go_ret
     rw[HV.o];exact⟨rfl,rfl⟩
   ·go_wp2_with fail
    go_ret
    exact⟨rfl,rfl⟩
theorem Sb{u:List (Nat×Nat)}(h:∀ x∈u,1<=x.2){k:Nat}(hk:k<=u.length):eJ u k=0↔k=0:=by
 cases k with
 | zero=>simp
 | succ k =>
  cases u with
  | nil=>simp at hk
  | cons x t =>
   have:=h x (by simp);unfold eJ;simp
   omega
theorem WB{l:List UInt8}{p k:Nat}(h:At l p k):p=0↔k=0:=by
 rw[h.2.2.1];exact Sb (fun x hx=>(VW _ l (jdh _) x hx).2) h.2.2.2
theorem MO{l:List UInt8}{p k:Nat}(h:At l p k)(hp:p<l.length):dL k ((V l).drop k)=(kN k (aP (l.drop p)).1 && dL (k+1) ((V l).drop (k+1))):=by
 have h1:=h.lt hp;rw[h1,pf,yM h1]
theorem GZ(k c:Nat):kN k c=((gA c || eA c) && !(decide (k=0) && eA c)):=by
 unfold kN;by_cases hk:k=0
 ·subst hk
  have h1:eA c=true->gA c=false:=by
   unfold eA gA;simp
   omega
  cases hd:eA c
  ·simp
  ·rw[h1 hd];simp
 ·have:0<k:=by omega
  simp[hk,this]
theorem yh(s:ByteArray)(w:World):Calls Tryz.prog 197 #[.string s] w fun e w'=>e=.returned (.bool (named s))/\Below w.heap.size w w':=by
 have hL:=cI s;by_cases h1:s.size=0
 ·have HN:jfb (named s=false):=ae (by unfold named;rw[jds (by omega)];rfl)
  rw[HN.o]
  have hs:s=⟨#[]⟩:=by
   apply GH
   exact jdF (hL.trans h1)
  subst hs;clear hL h1;go_enter Tryz.func197,Tryz.ntmps197
  go_wp2_with fail;go_ret
  exact⟨rfl,jdg _ _⟩
 ·have fQ:(s.toList==([]:List UInt8))=false:=by
   cases h:(s.toList==([]:List UInt8))with
   | false=>rfl
   | true =>
    exfalso
    rw[beq_iff_eq,ByteArray.toList_eq]at h;have:=jdm List.length h;have h3:s.size=0:=this;omega
  have yH:s.toList.isEmpty=false:=by
   cases h:s.toList with
   | nil=>rw[h]at fQ;simp at fQ
   | cons=>rfl
  by_cases h2:(s.size:Int) > 16
  ·have HN:jfb (named s=false):=ae (by unfold named;rw[jds (by omega)];rfl)
   rw[HN.o];clear h1;go_enter Tryz.func197,Tryz.ntmps197
   go_wp2_with fail;go_ret
   exact⟨rfl,jdg _ _⟩
  ·have HN:jfb (named s=(dK (lb s) && dL 0 (V (lb s)))):=ae (by unfold named;rw[jdy (by omega)];rfl)
   rw[HN.o];have HC:=ae (sI s (by omega));clear HN h1;generalize dK (lb s)=cl at *;go_enter Tryz.func197,Tryz.ntmps197
   go_wp2_with fail;refine(HC.o _).mono ?_;rintro e w1 ⟨rfl,aH⟩;have aR:=ae aH;clear aH;cases cl
   ·go_wp2_with fail
    go_ret
    exact⟨rfl,aR.o⟩
   ·go_wp2_with fail
    go_loopw [3,4] (fun i r w'=>∃ p k:Nat,w'=w1.iter s p/\At (lb s) p k/\dL 0 (V (lb s))=dL k ((V (lb s)).drop k)) (fun _ _ w'=>s.size-w'.iterPos w1.heap.size)
    case atStart=>exact⟨0,0,rfl,At.zero _,rfl⟩
    case round =>
     obtain⟨p,k,rfl,lB,eg⟩:=hrel;by_cases hp:p<s.size
     ·have xR:∀ ty,(Instr.next (.pointer (some ⟨w1.heap.size,0,none⟩)) true ty).run Tryz.prog (w1.iter s p)=_:=fun ty=>run_next_any w1 s p ty hp
      rw[lR]at xR;have hw:=dz _ (jf (l:=lb s) (p:=p) (by omega));have HN:=ae (lB.next (by omega));have HG:=ae (eg.trans (MO lB (by omega)));have hz:=WB lB;clear lB eg;generalize (aP ((lb s).drop p))=u at *;obtain⟨c,wd⟩:=u;simp only at *;have HS:=ae (GZ k c);have HO:=ae (DM c);have HD:=ae (tP c);have HW:=ae hw;clear hw;cases hlet:(gA c || eA c)with
      | false =>
       rw[hlet]at HO HS;clear hz;go_wp2_with fail;refine(HO.o _).mono ?_;rintro e w2 ⟨rfl,rfl⟩;go_wp2_with fail;go_ret
       refine⟨?_,aR.o.trans ((ep _ _ _).mono aR.o.size)⟩;rw[Bool.true_and,HG.o,HS.o];rfl
      | true =>
       rw[hlet]at HO HS;by_cases hp0:p=0
       ·obtain rfl:k=0:=hz.1 hp0
        subst hp0;clear hz;cases hdg:eA c with
        | false =>
         rw[hdg]at HD HS;go_wp2_with fail;refine(HO.o _).mono ?_;rintro e w2 ⟨rfl,rfl⟩;go_wp2_with fail;refine(HD.o _).mono ?_;rintro e w2 ⟨rfl,rfl⟩;go_wp2_with fail;go_roundw
         case rel=>exact⟨_,1,rfl,by simpa using HN.o,by rw[HG.o,HS.o];rfl⟩
         case measure=>have:=HW.o;simp at this ⊢;omega
        | true =>
         rw[hdg]at HD HS;go_wp2_with fail;refine(HO.o _).mono ?_;rintro e w2 ⟨rfl,rfl⟩;go_wp2_with fail;refine(HD.o _).mono ?_;rintro e w2 ⟨rfl,rfl⟩;go_wp2_with fail;go_ret
         refine⟨?_,aR.o.trans ((ep _ _ _).mono aR.o.size)⟩;rw[Bool.true_and,HG.o,HS.o];rfl
       ·have qm:¬ k=0:=fun h=>hp0 (hz.2 h)
        have hpb:((p:Int)==0)=false:=by simp[hp0]
        rw[jds qm]at HS;clear hz qm hp0;go_wp2_with fail;refine(HO.o _).mono ?_;rintro e w2 ⟨rfl,rfl⟩;go_wp2_with fail;go_roundw
        case rel=>exact⟨_,k+1,rfl,HN.o,by rw[HG.o,HS.o];rfl⟩
        case measure=>have:=HW.o;simp at this ⊢;omega
     ·have xR:∀ ty,(Instr.next (.pointer (some ⟨w1.heap.size,0,none⟩)) true ty).run Tryz.prog (w1.iter s p)=_:=fun ty=>run_next_end w1 s p ty hp
      have HE:jfb (k=(V (lb s)).length/\p=(lb s).length):=lB.end (by omega);clear lB;have HG:=ae eg;clear eg;go_wp2_with fail;go_ret
      refine⟨?_,aR.o.trans ((ep _ _ _).mono aR.o.size)⟩;rw[Bool.true_and,HG.o,HE.o.1,jeb];rfl
theorem DN{v:Value}{k n:Int}{s:ByteArray}(h:Val v k n s)(w:World):Calls Tryz.prog 76 #[v] w fun e w'=>e=.returned (.agg #[.int .u8 k,.int .i64 n,.string s])/\Below w.heap.size w w':=by
 have t1:=Az;have t2:=Gf;have t3:=AA;have t4:=Gg;have t5:=Gh;have t6:=AB;have t7:=Gi;have t8:=Gj;have t9:=Gk;rcases h with ⟨rfl,rfl,rfl,rfl⟩ | ⟨rfl,rfl,rfl⟩ | ⟨b,rfl,rfl,rfl,rfl⟩ | ⟨rfl,rfl,rfl⟩
 ·go_enter Tryz.func76,Tryz.ntmps76
  go_wp2;exact bodyPost_ret (v:=.agg #[.int .u8 0,.int .i64 0,.string ⟨#[]⟩]) (by simp[results,Tryz.results76,go_sem]) rfl ⟨rfl,(jdg _ _).alloc (jdh _) _⟩
 ·go_enter Tryz.func76,Tryz.ntmps76
  go_wp2;exact bodyPost_ret (v:=.agg #[.int .u8 1,.int .i64 n,.string ⟨#[]⟩]) (by simp[results,Tryz.results76,go_sem]) rfl ⟨rfl,(jdg _ _).alloc (jdh _) _⟩
 ·cases b
  ·go_enter Tryz.func76,Tryz.ntmps76
   go_wp2;exact bodyPost_ret (v:=.agg #[.int .u8 2,.int .i64 0,.string ⟨#[]⟩]) (by simp[results,Tryz.results76,go_sem]) rfl ⟨rfl,(jdg _ _).alloc (jdh _) _⟩
  ·go_enter Tryz.func76,Tryz.ntmps76
   go_wp2;exact bodyPost_ret (v:=.agg #[.int .u8 2,.int .i64 1,.string ⟨#[]⟩]) (by simp[results,Tryz.results76,go_sem]) rfl ⟨rfl,(jdg _ _).alloc (jdh _) _⟩
 ·go_enter Tryz.func76,Tryz.ntmps76
  go_wp2;exact bodyPost_ret (v:=.agg #[.int .u8 3,.int .i64 0,.string s]) (by simp[results,Tryz.results76,go_sem]) rfl ⟨rfl,(jdg _ _).alloc (jdh _) _⟩
theorem MP{c:Nat×Int×List Nat}(h:aV c)(w:World):Calls Tryz.prog 76 #[dh c] w fun e w'=>e=.returned (.agg #[.int .u8 (c.1:Int),.int .i64 c.2.1,.string (am c.2.2)])/\Below w.heap.size w w':=DN h.val w
theorem zB{w:World}{v:Value}{l:List (Nat×Int×List Nat)}(hs:Sv w v (aJ l))(hf:∀ c∈l,aV c)(hl:l.length<=600) :
  Calls Tryz.prog 37 #[v] w fun e w'=>(∃ v',e=.returned v'/\hO w' w.heap.size v' l)/\Below w.heap.size w w':=by
 have HS:=ae hs;have HK:=ae hf;obtain⟨a,cap,rfl,aY,bx⟩:=hs.form1;rw[aG]at *;have hcm':cap<=9223372036854775807:=by unfold maxLen at bx;omega
 clear hs bx hf;go_enter Tryz.func37,Tryz.ntmps37
 go_wp2_with fail;go_loopw [3,4] (fun o i wr=>∃ j:Nat,j<=l.length/\i=.int .i64 (j:Int)/\hO wr w.heap.size o (l.take j)/\Below w.heap.size w wr) (fun _ i _=>l.length-(intOf i).toNat)
 case atStart=>exact⟨0,by omega,rfl,hO.nil _ _,jdg _ _⟩
 case round =>
  obtain⟨j,hj,rfl,aA,az⟩:=hrel;have HO:=ae aA;have HB:=ae az;have bP:=az.size;clear aA az;by_cases aC:j<l.length
  ·obtain⟨g,off,rfl,hg,bq⟩:=(HS.o.kept HB.o).at1 (cM aC)
   have hlt':(j:Int)<(l.length:Int):=(by omega);have nh:jfb (l.take (j+1)=l.take j++[l[j]]):=ae (jdx aC);have hlen':(l.take j).length<=100000:=by rw[jdo];omega
   have HVA:=ae (MP (HK.o l[j] (jdl aC)));generalize l[j]=fc at *;generalize l.take j=LL at *;generalize dh fc=vc at *;go_wp2_with fail;refine(HVA.o _).mono ?_;rintro e w1 ⟨rfl,aH⟩;have fC:=ae (HO.o.kept aH);have aR:=ae (HB.o.trans (aH.mono bP));have cY:=aH.size;have mY:=ae (dH w1 (.int .u8 (fc.1:Int)) (.int .i64 fc.2.1) (.string (am fc.2.2)) 52);clear aH bq;go_wp2_with (first | (at_builtin;refine mQ rfl _ _ rfl w.heap.size _ _ fc LL rfl (fC.o.kept (ak _ _)) rfl mY.o.1 mY.o.2.1 mY.o.2.2 hlen' ?c2 ?_))
   case c2=>first | omega | (rw[jdi];omega)
   intro v' w5 o5 b5;have dJ:=ae o5;have aS:=ae ((aR.o.alloc (jdq bP cY) _).trans b5);clear o5 b5;go_wp2_with fail;go_roundw
   case rel=>exact⟨j+1,by omega,by go_num,by rw[nh.o];exact dJ.o,aS.o⟩
   case measure=>simp[intOf];omega
  ·obtain rfl:j=l.length:=by omega
   rw[jdp]at HO;have gL:¬ ((l.length:Nat):Int)<(l.length:Int):=(by omega);go_wp2_with fail;go_ret
   exact⟨⟨_,rfl,HO.o⟩,HB.o⟩
theorem DO{w:World}{v1 v2:Value}{l m:List (Nat×Int×List Nat)}(h1:Sc w v1 l)(h2:Sc w v2 m)(aH:∀ c∈l,Bs c.2.2)(aE:∀ c∈m,Bs c.2.2) :
  Calls Tryz.prog 36 #[v1,v2] w fun e w'=>e=.returned (.bool (decide (l=m)))/\Below w.heap.size w w':=by
 have iO:=ae h1;have gE:=ae h2;have aR:=ae aH;have aO:=ae aE;obtain⟨a,cap,rfl,aY,bx⟩:=h1.form;obtain⟨a2,cap2,rfl,Uo,yz⟩:=h2.form;have hcm':cap<=9223372036854775807:=by unfold maxLen at bx;omega
 have hcm2':cap2<=9223372036854775807:=by unfold maxLen at yz;omega
 clear h1 h2 aH aE bx yz;by_cases bR:l.length=m.length
 ·have fQ:(((l.length:Nat):Int) != (m.length:Int))=false:=by simp[bR]
  have Ce:=ae bR;clear bR;go_enter Tryz.func36,Tryz.ntmps36
  go_wp2_with fail;go_loopw [5] (fun i wr=>∃ j:Nat,j<=l.length/\i=.int .i64 (j:Int)/\l.take j=m.take j/\Below w.heap.size w wr) (fun i _=>l.length-(intOf i).toNat)
  case atStart=>exact⟨0,by omega,rfl,rfl,jdg _ _⟩
  case round =>
   obtain⟨j,hj,rfl,Zc,az⟩:=hrel;have VB:=ae Zc;have HB:=ae az;clear Zc az;by_cases aC:j<l.length
   ·have jbs:j<m.length:=by have:=Ce.o;omega
    obtain⟨g,off,rfl,hg,c0,c1,c2⟩:=(iO.o.kept HB.o).at aC;obtain⟨g2,off2,rfl,gM,d0,d1,d2⟩:=(gE.o.kept HB.o).at jbs;have hlt':(j:Int)<(l.length:Int):=(by omega);have hltm':(j:Int)<(m.length:Int):=(by omega);have nh:=ae (fun he=>AD aC jbs VB.o he);have Qj:jfb (l[j]≠m[j]->decide (l=m)=false):=ae (fun h=>jds (fun e=>h (by subst e;rfl)));have HBC:=ae (aR.o l[j] (jdl aC));have FY:=ae (aO.o m[j] (jdl jbs));rw[en]at c2 d2;generalize l[j]=c at *;generalize m[j]=d at *;obtain⟨ck,cn,cs⟩:=c;obtain⟨dk,dn,ds⟩:=d;simp only at *;by_cases hk:ck=dk
    ·subst hk
     by_cases hn:cn=dn
     ·subst hn
      by_cases hs:cs=ds
      ·subst hs
       have HN':=ae (nh.o rfl);clear nh Qj;generalize am cs=S at *;go_wp2_with fail;go_quiet (fail)
       go_wp2_with fail;go_roundw
       case rel=>exact⟨j+1,by omega,by go_num,HN'.o,HB.o.trans ⟨rfl,rfl,rfl,jdh _,fun _ _=>rfl⟩⟩
       case measure=>simp[intOf];omega
      ·have HNE':=ae (Qj.o (fun e=>hs (by simpa using e)))
       have hss:((am cs).toList==(am ds).toList)=false:=by
        rw[bC,bC];exact jdt.2 (fun e=>hs (by rw[← fo HBC.o,← fo FY.o,e]))
       clear nh Qj hs;generalize am cs=S at *;generalize am ds=T at *;go_wp2_with fail;go_quiet (fail)
       go_wp2_with fail;go_ret
       rw[HNE'.o];exact⟨rfl,HB.o.trans ⟨rfl,rfl,rfl,jdh _,fun _ _=>rfl⟩⟩
     ·have HNE':=ae (Qj.o (fun e=>hn (by have:=jdm (fun t=>t.2.1) e;simpa using this)))
      have Zb:(cn==dn)=false:=jdt.2 hn;clear nh Qj hn;generalize am cs=S at *;generalize am ds=T at *;go_wp2_with fail;go_quiet (fail)
      go_wp2_with fail;go_ret
      rw[HNE'.o];exact⟨rfl,HB.o.trans ⟨rfl,rfl,rfl,jdh _,fun _ _=>rfl⟩⟩
    ·have HNE':=ae (Qj.o (fun e=>hk (by have:=jdm (fun t=>t.1) e;simpa using this)))
     have FV:((ck:Int)==(dk:Int))=false:=jdt.2 (by omega);clear nh Qj hk;generalize am cs=S at *;generalize am ds=T at *;go_wp2_with fail;go_quiet (fail)
     go_wp2_with fail;go_ret
     rw[HNE'.o];exact⟨rfl,HB.o.trans ⟨rfl,rfl,rfl,jdh _,fun _ _=>rfl⟩⟩
   ·obtain rfl:j=l.length:=by omega
    have Cf:jfb (decide (l=m)=true):=ae (jdy (by
     have:=VB.o;rw[jdp]at this;rw[this,Ce.o,jdp]))
    have gL:¬ ((l.length:Nat):Int)<(l.length:Int):=(by omega);go_wp2_with fail;go_ret
    rw[Cf.o];exact⟨rfl,HB.o⟩
 ·have fQ:(((l.length:Nat):Int) != (m.length:Int))=true:=by
   have:(l.length:Int)≠(m.length:Int):=by omega
   simpa using this
  have Cf:jfb (decide (l=m)=false):=ae (jds (fun e=>bR (by rw[e])));clear bR;go_enter Tryz.func36,Tryz.ntmps36
  go_wp2_with fail;go_ret
  rw[Cf.o];exact⟨rfl,jdg _ _⟩
theorem Bc(k:Nat)(w:World):Calls Tryz.prog 164 #[.int .u8 (k:Int)] w fun e w'=>e=.returned (.bool (kO k))/\w'=w:=by
 by_cases h1:((k:Int)==1)=true
 ·have hk:k=1:=by have:(k:Int)=1:=(by simpa using h1);omega
  subst hk;go_enter Tryz.func164,Tryz.ntmps164
  go_wp2;go_ret
  exact⟨rfl,rfl⟩
 ·by_cases h2:((k:Int)==2)=true
  ·have hk:k=2:=by have:(k:Int)=2:=(by simpa using h2);omega
   subst hk;go_enter Tryz.func164,Tryz.ntmps164
   go_wp2;go_ret
   exact⟨rfl,rfl⟩
  ·by_cases h3:((k:Int)==3)=true
   ·have hk:k=3:=by have:(k:Int)=3:=(by simpa using h3);omega
    subst hk;go_enter Tryz.func164,Tryz.ntmps164
    go_wp2;go_ret
    exact⟨rfl,rfl⟩
   ·have h1':((k:Int)==1)=false:=by simpa using h1
    have h2':((k:Int)==2)=false:=by simpa using h2
    have h3':((k:Int)==3)=false:=by simpa using h3
    have HN:jfb (kO k=false):=ae (by
     have a1:(k:Int)≠1:=by simpa using h1
     have a2:(k:Int)≠2:=by simpa using h2
     have a3:(k:Int)≠3:=by simpa using h3
     exact jds (by omega))
    rw[HN.o];clear h1 h2 h3;go_enter Tryz.func164,Tryz.ntmps164
    go_wp2;go_ret
    exact⟨rfl,rfl⟩
theorem Ha{w:World}{v:Value}{l:List Fd}(hs:Sf w v l):Calls Tryz.prog 162 #[v] w fun e w'=>e=.returned (.int .u32 (eT l:Int))/\w'=w:=by
 obtain⟨a,cap,rfl,aY,bx⟩:=hs.form;by_cases hl:l.length=0
 ·have h0:((l.length:Int)==0)=true:=by simp[hl]
  have HN:jfb (eT l=0):=ae (by rw[jdF hl];rfl);clear hs hl;go_enter Tryz.func162,Tryz.ntmps162
  go_wp2;go_ret
  rw[HN.o];exact⟨rfl,rfl⟩
 ·obtain⟨b,off,rfl,hb,c0,c1,c2,c3⟩:=hs.at (k:=l.length-1) (by omega)
  have HN:=ae (Ma (l:=l) (by omega));have h0:((l.length:Int)==0)=false:=by simp[hl]
  obtain⟨m,hm⟩:∃ m,l.length=m+1:=⟨l.length-1,by omega⟩;have hq:((l.length:Int)-1)=(m:Int):=by omega
  have e1:l.length-1=m:=by omega
  generalize hx:(l[l.length-1]'(by omega)).1=x at *;rw[e1]at c0;clear hs hx c1 c2 c3 e1 hl;go_enter Tryz.func162,Tryz.ntmps162
  go_wp2;go_ret
  rw[HN.o];exact⟨rfl,rfl⟩
theorem Sd{w:World}{B:Nat}{v:Value}{u:List (Nat×Nat)}(h:w.ownsRow B 3 1 v u.length (sgn u u.length)):∃ a cap,v=.slice a u.length cap/\u.length<=cap/\cap<=maxLen/\∀ k (hk:k<u.length),∃ g,a=some ⟨g,0,none⟩/\w.cell? ⟨g,k,none⟩=some (.int .i64 (u[k].1:Int)):=by
 obtain⟨a,cap,rfl,h1,h2⟩:=aN h;refine⟨a,cap,rfl,h1,h2,fun k hk=>?_⟩;obtain⟨g,cap',e,_,_,hc⟩:=(sp h).2 (by omega);simp only[Value.slice.injEq]at e;exact⟨g,e.1,hc k _ (La hk)⟩
theorem WD{u:List (Nat×Nat)}{k:Nat}(hk:k<u.length):dL k (u.drop k)=(kN k u[k].1 && dL (k+1) (u.drop (k+1))):=by
 rw[jdX hk,pf]
theorem DP{k c:Nat}(h:97<=c/\c<=122∨c=95∨127<c):kN k c=true:=by
 unfold kN gA;simp
 omega
theorem Hb{k c:Nat}(h1:48<=c)(h2:c<=57)(hk:0<k):kN k c=true:=by
 unfold kN eA;simp[hk]
 omega
theorem Se{c:Nat}(h:¬ (97<=c/\c<=122∨c=95∨127<c)):kN 0 c=false:=by
 unfold kN gA;simp
 omega
theorem MQ{k c:Nat}(h:¬ (97<=c/\c<=122∨c=95∨127<c))(h2:¬ (48<=c/\c<=57)):kN k c=false:=by
 unfold kN gA eA;simp
 omega
theorem MR(s:ByteArray)(w:World):Calls Tryz.prog 49 #[.string s] w fun e w'=>e=.returned (.bool (named s))/\Below w.heap.size w w':=by
 by_cases h1:(s.size:Int)<1
 ·have HN:jfb (named s=false):=ae (by unfold named;rw[jds (by omega)];rfl)
  go_enter Tryz.func49,Tryz.ntmps49
  go_wp2_with fail;go_ret
  rw[HN.o];exact⟨rfl,jdg _ _⟩
 ·by_cases h2:(s.size:Int) > 16
  ·have HN:jfb (named s=false):=ae (by unfold named;rw[jds (by omega)];rfl)
   go_enter Tryz.func49,Tryz.ntmps49
   go_wp2_with fail;go_ret
   rw[HN.o];exact⟨rfl,jdg _ _⟩
  ·have HN:jfb (named s=(dK (lb s) && dL 0 (V (lb s)))):=ae (by unfold named;rw[jdy (by omega)];rfl)
   have HC:=ae (oE s (by omega));have hV:=CD (lb s);have hL:=cI s;have hV16:(V (lb s)).length<=16:=(by omega);clear hV hL;generalize dK (lb s)=cl at *;generalize V (lb s)=u at *;go_enter Tryz.func49,Tryz.ntmps49
   go_wp2_with fail;refine(HC.o _).mono ?_;rintro e w1 ⟨⟨va,vb,rfl,eI,fx⟩,aH⟩;obtain⟨a,cap,rfl,aY,bx,bq⟩:=Sd eI;have HCE:=ae bq;have aR:=ae aH;have hcm':cap<=9223372036854775807:=by unfold maxLen at bx;omega
   clear eI fx aH bq bx HC;go_wp2_with fail;go_loopw [6] (fun i w'=>∃ k:Nat,w'=w1/\i=.int .i64 (k:Int)/\k<=u.length/\dL 0 u=dL k (u.drop k)) (fun i _=>u.length-(intOf i).toNat)
   case atStart=>exact⟨0,rfl,rfl,by omega,rfl⟩
   case round =>
    obtain⟨k,rfl,rfl,hk,eg⟩:=hrel;have HG:=ae eg;clear eg;by_cases aC:k<u.length
    ·obtain⟨g,rfl,hc⟩:=HCE.o k aC
     have HS:=ae (HG.o.trans (WD aC));generalize u[k].1=c at *;by_cases hA:97<=c/\c<=122∨c=95∨127<c
     ·have HK:=ae (DP (k:=k) hA)
      have hd:(48<=(c:Int)/\(c:Int)<=57)∨(c:Int)<48∨¬ (c:Int)<=57:=(by omega);rcases hA with ⟨q1,q2⟩ | q1 | q1
      ·have t1:(c:Int)>=97:=by omega
       have t2:(c:Int)<=122:=(by omega);have t3:(c:Int)>=48:=(by omega);have t4:¬ (c:Int)<=57:=(by omega);clear hd;go_wp2_with fail;go_roundw
       case rel=>exact⟨k+1,trivial,by go_num,by omega,by rw[HS.o,HK.o];rfl⟩
       case measure=>simp[intOf];omega
      ·have t0:((c:Int)==95)=true:=by simp;omega
       subst q1;clear hd;go_wp2_with fail;go_roundw
       case rel=>exact⟨k+1,trivial,by go_num,by omega,by rw[HS.o,HK.o];rfl⟩
       case measure=>simp[intOf];omega
      ·have t0:((c:Int)==95)=false:=by simp;omega
       have t1:(c:Int)>=97:=(by omega);have t2:¬ (c:Int)<=122:=(by omega);have t3:(c:Int)>=48:=(by omega);have t4:¬ (c:Int)<=57:=(by omega);have t5:(c:Int) > 127:=(by omega);clear hd;go_wp2_with fail;go_roundw
       case rel=>exact⟨k+1,trivial,by go_num,by omega,by rw[HS.o,HK.o];rfl⟩
       case measure=>simp[intOf];omega
     ·have t0:((c:Int)==95)=false:=by simp;omega
      have t5:¬ (c:Int) > 127:=(by omega);by_cases hD:48<=c/\c<=57
      ·have t1:¬ (c:Int)>=97:=by omega
       have t3:(c:Int)>=48:=(by omega);have t4:(c:Int)<=57:=(by omega);by_cases qm:k=0
       ·subst qm
        have HK:=ae (Se hA);clear hA hD;go_wp2_with fail;go_ret
        refine⟨?_,aR.o⟩;rw[HN.o,HS.o,HK.o];simp
       ·have HK:=ae (Hb (k:=k) hD.1 hD.2 (by omega))
        have hkp:(k:Int) > 0:=(by omega);have hkp2:0<k:=(by omega);clear hA hD qm;go_wp2_with fail;go_roundw
        case rel=>exact⟨k+1,trivial,by go_num,by omega,by rw[HS.o,HK.o];rfl⟩
        case measure=>simp[intOf];omega
      ·have HK:=ae (MQ (k:=k) hA hD)
       have XT:(c:Int)<48∨(57<(c:Int)/\(c:Int)<97)∨(122<(c:Int)):=(by omega);clear hA hD;rcases XT with q | ⟨q,q'⟩ | q
       ·have t1:¬ (c:Int)>=97:=by omega
        have t3:¬ (c:Int)>=48:=(by omega);go_wp2_with fail;go_ret
        refine⟨?_,aR.o⟩;rw[HN.o,HS.o,HK.o];simp
       ·have t1:¬ (c:Int)>=97:=by omega
        have t3:(c:Int)>=48:=(by omega);have t4:¬ (c:Int)<=57:=(by omega);go_wp2_with fail;go_ret
        refine⟨?_,aR.o⟩;rw[HN.o,HS.o,HK.o];simp
       ·have t1:(c:Int)>=97:=by omega
        have t2:¬ (c:Int)<=122:=(by omega);have t3:(c:Int)>=48:=(by omega);have t4:¬ (c:Int)<=57:=(by omega);go_wp2_with fail;go_ret
        refine⟨?_,aR.o⟩;rw[HN.o,HS.o,HK.o];simp
    ·obtain rfl:k=u.length:=by omega
     have gL:¬ ((u.length:Nat):Int)<(u.length:Int):=(by omega);go_wp2_with fail;go_ret
     refine⟨?_,aR.o⟩;rw[HN.o,HG.o,jeb];simp[dL]
theorem WE{w:World}{v:Value}{l:List Fd}(hs:Sf w v l)(n:ByteArray):Calls Tryz.prog 50 #[v,.string n] w fun e w'=>e=.returned (.bool (oT l n))/\w'=w:=by
 have HS:=ae hs;obtain⟨a,cap,rfl,aY,bx⟩:=hs.form;clear hs;go_enter Tryz.func50,Tryz.ntmps50
 go_wp2_with fail;go_loopw [5] (fun i w'=>∃ k:Nat,w'=w/\i=.int .i64 (k:Int)/\k<=l.length/\oT l n=oT (l.drop k) n) (fun i _=>l.length-(intOf i).toNat)
 case atStart=>exact⟨0,rfl,rfl,by omega,rfl⟩
 case round =>
  obtain⟨k,rfl,rfl,hk,eg⟩:=hrel;have HG:=ae eg;clear eg;by_cases aC:k<l.length
  ·obtain⟨b,off,rfl,hb,c0,c1,c2,c3⟩:=HS.o.at aC
   have HT:=ae (HG.o.trans (yN (n:=n) aC));have hlt':(k:Int)<(l.length:Int):=(by omega);generalize l[k].2.1=m at *;have Zd:=Ba m n;clear c0 c2 c3;by_cases UA:m=n
   ·subst UA
    have hse':(m.toList==m.toList)=true:=by rw[Ba];simp
    clear Zd;go_wp2_with fail;go_ret
    refine⟨?_,rfl⟩;rw[HT.o];simp
   ·have hse':(m.toList==n.toList)=false:=by rw[Ba,jds UA]
    have HM:=ae (jds UA);clear Zd UA;go_wp2_with fail;go_roundw
    case rel=>exact⟨k+1,trivial,by go_num,by omega,by rw[HT.o,HM.o];rfl⟩
    case measure=>simp[intOf];omega
  ·obtain rfl:k=l.length:=by omega
   have gL:¬ ((l.length:Nat):Int)<(l.length:Int):=(by omega);go_wp2_with fail;go_ret
   refine⟨?_,rfl⟩;rw[HG.o,jeb];rfl
theorem Sg{w:World}(f:Fd)(n:ByteArray){B:Nat}(hB:B<w.heap.size)(hc:w.cell? ⟨B,0,none⟩=some (.string n)) :
  Calls Tryz.prog 199 #[pW f,.pointer (some ⟨B,0,none⟩)] w fun e w'=>e=.returned (.bool (decide (f.2.1=n)))/\Below w.heap.size w w':=by
 unfold pW;have HE:=ae (Ba f.2.1 n);generalize f.2.1=m at *;generalize f.1=x0 at *;generalize f.2.2.1=x2 at *;generalize f.2.2.2=x3 at *;go_enter Tryz.func199,Tryz.ntmps199
 go_wp2_with fail;go_ret
 refine⟨?_,(jdg _ _).alloc (jdh _) _⟩;rw[← HE.o];rfl
theorem MS{w:World}{v:Value}{l:List Fd}(hs:Sf w v l)(n:ByteArray){B:Nat}(hB:B<w.heap.size)(hc:w.cell? ⟨B,0,none⟩=some (.string n)) :
  Calls Tryz.prog 225 #[v,.func (.func 199) #[] #[.pointer (some ⟨B,0,none⟩)]] w fun e w'=>(∃ z:Int,e=.returned (.int .i64 z)/\decide (z>=0)=oT l n)/\Below w.heap.size w w':=by
 have HS:=ae hs;have HC:=ae hc;obtain⟨a,cap,rfl,aY,bx⟩:=hs.form;clear hs hc;go_enter Tryz.func225,Tryz.ntmps225
 go_wp2_with fail;go_loopw [8] (fun i w'=>∃ k:Nat,i=.int .i64 (k:Int)/\k<=l.length/\oT l n=oT (l.drop k) n/\Below w.heap.size w w') (fun i _=>l.length-(intOf i).toNat)
 case atStart=>exact⟨0,rfl,by omega,rfl,jdg _ _⟩
 case round =>
  obtain⟨k,rfl,hk,eg,az⟩:=hrel;have HG:=ae eg;have HB:=ae az;have bP:=az.size;clear eg az;by_cases aC:k<l.length
  ·obtain⟨b,off,rfl,hb,c0,c1,c2,c3⟩:=(HS.o.kept HB.o).at aC
   have HT:=ae (HG.o.trans (yN (n:=n) aC));have hlt':(k:Int)<(l.length:Int):=(by omega);have lA:=ae (Sg l[k] n (w:=wr) (B:=B) (by omega) ((HB.o.cell (p:=⟨B,0,none⟩) hB).trans HC.o));unfold pW at lA;generalize decide (l[k].2.1=n)=d at *;generalize l[k].1=x0 at *;generalize l[k].2.1=x1 at *;generalize l[k].2.2.1=x2 at *;generalize l[k].2.2.2=x3 at *;go_wp2_with fail;refine lA.o.mono ?_;rintro e w2 ⟨rfl,aE⟩;have aO:=ae (HB.o.trans (aE.mono bP));clear aE c0 c1 c2 c3;cases d
   ·go_wp2_with fail
    go_roundw
    case rel=>exact⟨k+1,by go_num,by omega,by rw[HT.o];rfl,aO.o⟩
    case measure=>simp[intOf];omega
   ·go_wp2_with fail
    go_ret
    refine⟨⟨_,rfl,?_⟩,aO.o⟩;rw[HT.o,Bool.true_or];simp
  ·obtain rfl:k=l.length:=by omega
   have gL:¬ ((l.length:Nat):Int)<(l.length:Int):=(by omega);go_wp2_with fail;go_ret
   refine⟨⟨_,rfl,?_⟩,HB.o⟩;rw[HG.o,jeb];rfl
theorem Bd{w:World}{v:Value}{l:List Fd}(hs:Sf w v l)(n:ByteArray){B:Nat}(hB:B<w.heap.size)(hc:w.cell? ⟨B,0,none⟩=some (.string n)) :
  Calls Tryz.prog 198 #[v,.func (.func 199) #[] #[.pointer (some ⟨B,0,none⟩)]] w fun e w'=>e=.returned (.bool (oT l n))/\Below w.heap.size w w':=by
 have HI:=ae (MS hs n hB hc);clear hs hc;go_enter Tryz.func198,Tryz.ntmps198
 go_wp2_with fail;refine HI.o.mono ?_;rintro e w1 ⟨⟨z,rfl,hz⟩,aH⟩;have HZ:=ae hz;have HB:=ae aH;clear hz aH;go_wp2_with fail;go_ret
 refine⟨?_,HB.o⟩;rw[← HZ.o];rfl
theorem wQ{w:World}{v:Value}{l:List Fd}(hs:Sf w v l)(n:ByteArray):Calls Tryz.prog 163 #[v,.string n] w fun e w'=>e=.returned (.bool (vG l n))/\Below w.heap.size w w':=by
 have hmf:∀(fn:Fn) (first cap:Array Value) (w:World),(Instr.makeFunc fn first cap).run Tryz.prog w=.ok (.func fn first cap) w:=fun _ _ _ _=>rfl
 have HM:=ae (yh n);have HS:=ae (hs.kept (ak w (.cells #[.string n] 9)));have HF:jfb (vG l n=(named n && !oT l n)):=ae rfl;have HC0:=ae (aL w (.string n) 9);clear hs;go_enter Tryz.func163,Tryz.ntmps163
 go_wp2_with fail;refine(HM.o _).mono ?_;rintro e w1 ⟨rfl,aH⟩;have iO:=ae (HS.o.kept aH);have VA:=ae ((aH.cell (p:=⟨w.heap.size,0,none⟩) (by show w.heap.size<_;rw[jdi];omega)).trans HC0.o);have cY:=aH.size;rw[jdi]at cY;have aR:=ae (ai (ak w (.cells #[.string n] 9)) aH);clear aH;cases hnm:named n with
 | false =>
  rw[hnm]at HF;clear hnm;go_wp2_with fail;go_ret
  rw[HF.o];exact⟨rfl,aR.o⟩
 | true =>
  rw[hnm]at HF;clear hnm;go_wp2_with fail;refine(Bd iO.o n (B:=w.heap.size) (by omega) VA.o).mono ?_;rintro e w2 ⟨rfl,aE⟩;have aO:=ae (ai aR.o aE);clear aE;go_wp2_with fail;go_ret
  rw[HF.o];exact⟨rfl,aO.o⟩
end Go.Proofs.YtpljdjmpamjkhaaGreatDoor
