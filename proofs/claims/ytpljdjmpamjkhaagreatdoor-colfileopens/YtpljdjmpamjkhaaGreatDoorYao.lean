import Derived.Test.YtpljdjmpamjkhaaGreatDoorYac
import Derived.Test.YtpljdjmpamjkhaaGreatDoorYag
import Derived.Test.YtpljdjmpamjkhaaGreatDoorYab
import Derived.Test.YtpljdjmpamjkhaaGreatDoorYae
import Derived.Deep.Slices
set_option linter.unusedVariables false
set_option linter.unusedSimpArgs false
set_option maxRecDepth 100000
set_option maxHeartbeats 4000000
namespace Go.Proofs.YtpljdjmpamjkhaaGreatDoor
open Go.RowKit Go.Lib
def vW(f:Fd):List Value:=[.int .u32 (f.1:Int),.string f.2.1,.int .u8 (f.2.2.1:Int),.bool f.2.2.2]
def pI(f:Fd):Value:=.agg #[.int .u32 (f.1:Int),.string f.2.1,.int .u8 (f.2.2.1:Int),.bool f.2.2.2]
def eB(l:List Fd):List Value:=l.flatMap vW
theorem qG(a b:List Fd):eB (a++b)=eB a++eB b:=jaV
theorem kl(c:Fd)(l:List Fd):eB (c::l)=vW c++eB l:=ja2
theorem io:∀ l:List Fd,(eB l).length=l.length*4
 | []=>rfl
 | c::t=>by
  rw[kl,ZT,io t,ZW];simp[vW]
  omega
theorem zb:∀{l:List Fd} {j:Nat} (h:j<l.length),(eB l)[j*4]?=some (.int .u32 (l[j].1:Int))/\(eB l)[j*4+1]?=some (.string l[j].2.1)/\(eB l)[j*4+2]?=some (.int .u8 (l[j].2.2.1:Int))/\(eB l)[j*4+3]?=some (.bool l[j].2.2.2)
 | c::t,0,h=>by simp[kl,vW]
 | c::t,j+1,h=>by
  have ih:=zb (l:=t) (j:=j) (by simpa using h);rw[kl]
  have e:∀ k,(vW c++eB t)[(j+1)*4+k]?=(eB t)[j*4+k]?:=fun k=>by
   rw[List.getElem?_append_right (by simp[vW];omega)];simp only[vW,ZW,jad];congr 1
   omega
  have e0:=e 0;simp only[jaC]at e0;rw[e0,e 1,e 2,e 3];simpa using ih
theorem Az(f:Fd):∀ u∈vW f,u.oneCell'=true:=by
 intro u hu;unfold vW at hu;simp only[Z6,jbm,or_false]at hu;rcases hu with rfl | rfl | rfl | rfl<;>rfl
theorem oU(l:List Fd):∀ u∈eB l,u.oneCell'=true:=by
 intro u hu;obtain⟨f,_,h⟩:=List.mem_flatMap.1 hu;exact Az f u h
theorem FF(l:List Fd)(k:Nat):eB (l.take k)=(eB l).take (k*4):=by
 induction l generalizing k with
 | nil=>simp[eB]
 | cons f t ih =>
  cases k with
  | zero=>simp[eB]
  | succ k =>
   have hl:(vW f).length=4:=rfl;rw[jbn,kl,kl,ih,List.take_append,hl,jat (l:=vW f) (by rw[hl];omega)];congr 2
   omega
def Sf(W:World)(v:Value)(l:List Fd):Prop :=
 ∃ a cap,v=.slice a l.length cap/\l.length<=cap/\cap<=maxLen/\(a=none->cap=0)/\(0<l.length->∃ b off,a=some ⟨b,off,none⟩/\b<W.heap.size/\∀ j x,(eB l)[j]?=some x->W.cell? ⟨b,off+j,none⟩=some x)
theorem Sf.kept{W W':World}{v:Value}{l:List Fd}(h:Sf W v l)(hb:Below W.heap.size W W'):Sf W' v l:=by
 obtain⟨a,cap,h1,h2,h3,h0,h4⟩:=h;refine⟨a,cap,h1,h2,h3,h0,fun h0=>?_⟩;obtain⟨b,off,h5,h6,h7⟩:=h4 h0;exact⟨b,off,h5,Z9 h6 hb.size,fun j x hj=>(hb.cell (p:=⟨b,off+j,none⟩) h6).trans (h7 j x hj)⟩
theorem Sf.form{W:World}{v:Value}{l:List Fd}(h:Sf W v l):∃ a cap,v=.slice a l.length cap/\l.length<=cap/\cap<=9223372036854775807:=by
 obtain⟨a,cap,h1,h2,h3,_⟩:=h;exact⟨a,cap,h1,h2,by unfold maxLen at h3;omega⟩
theorem Sf.at{W:World}{a:Option Addr}{n cap:Nat}{l:List Fd}(h:Sf W (.slice a n cap) l){k:Nat}(hk:k<l.length) :
  ∃ b off,a=some ⟨b,off,none⟩/\b<W.heap.size/\W.cell? ⟨b,off+k*4,none⟩=some (.int .u32 (l[k].1:Int))/\W.cell? ⟨b,off+k*4+1,none⟩=some (.string l[k].2.1)/\W.cell? ⟨b,off+k*4+2,none⟩=some (.int .u8 (l[k].2.2.1:Int))/\W.cell? ⟨b,off+k*4+3,none⟩=some (.bool l[k].2.2.2):=by
 obtain⟨a',cap',e,h1,h2,h0,h4⟩:=h;simp only[Value.slice.injEq]at e;obtain⟨rfl,_,_⟩:=e;obtain⟨b,off,rfl,h5,h6⟩:=h4 (by omega);obtain⟨c0,c1,c2,c3⟩:=zb hk;refine⟨b,off,rfl,h5,h6 _ _ c0,?_,?_,?_⟩
 ·rw[jaQ]
  exact h6 _ _ c1
 ·rw[jaQ]
  exact h6 _ _ c2
 ·rw[jaQ]
  exact h6 _ _ c3
theorem Sf.take{W:World}{a:Option Addr}{n cap:Nat}{l:List Fd}(h:Sf W (.slice a n cap) l){k:Nat}(hk:k<=l.length):Sf W (.slice a k cap) (l.take k):=by
 obtain⟨a',c,h1,h2,h3,h4,h5⟩:=h;simp only[Value.slice.injEq]at h1;obtain⟨rfl,_,rfl⟩:=h1;have hl:(l.take k).length=k:=by rw[ZX];omega
 refine⟨_,cap,by rw[hl],by omega,h3,h4,fun h0=>?_⟩;obtain⟨b',off',h6,h7,h8⟩:=h5 (by omega);refine⟨b',off',h6,h7,fun j x hj=>h8 j x ?_⟩;rw[FF,List.getElem?_take]at hj;split at hj
 ·exact hj
 ·cases hj
def dR(W:World)(B:Nat)(v:Value)(l:List Fd):Prop:=W.ownsRow B 81 4 v l.length (eB l)
theorem dR.nil(W:World)(B:Nat):dR W B (.slice none 0 0) []:=jaB _ _ _ _
theorem dR.kept{w w':World}{B:Nat}{v:Value}{l:List Fd}(h:dR w B v l)(hb:Below w.heap.size w w'):dR w' B v l:=bH h hb
theorem dR.low{W:World}{B B':Nat}{v:Value}{l:List Fd}(h:dR W B' v l)(hb:B<=B'):dR W B v l:=aZ h hb
theorem dR.sf{W:World}{B:Nat}{v:Value}{l:List Fd}(h:dR W B v l):Sf W v l:=by
 rcases h with ⟨h0,⟨rfl,h1⟩ | ⟨g,cap,cur,rfl,h2,h3,h4,h5,h6,h7⟩⟩
 ·refine⟨none,0,by rw[h1],by omega,by unfold maxLen;omega,fun _=>rfl,fun h=>by omega⟩
 ·refine⟨_,cap,rfl,h4,h5,fun h=>by(cases h),fun _=>⟨g,0,rfl,(Array.getElem?_eq_some_iff.1 h3).1,fun j x hj=>?_⟩⟩
  rw[jaf];simp only[World.cell?,h3];rw[← h7]at hj;have aB:=(List.getElem?_eq_some_iff.1 hj).1;rw[ZX]at aB;rw[List.getElem?_take_of_lt (by omega)]at hj;simpa using hj
theorem pJ(w:World)(l:List Fd)(hl:l.length<=maxLen):dR (w.alloc (.cells (eB l).toArray 81)) w.heap.size (.slice (some ⟨w.heap.size,0,none⟩) l.length l.length) l:=by
 have:=jaT (e:=81) (size:=4) w (eB l).toArray l.length (base:=w.heap.size) (ZR _) hl (by simp[io]);exact this
theorem Py:(Tryz.prog.info? 81).map (fun i=>(i.zero,i.size,i.bytes))=some (some (.agg #[.int .u32 0,.string ⟨#[]⟩,.int .u8 0,.bool false]),4,32):=by kernel_rfl
theorem sd{w:World}{ops:Array Oper}{rest:List Oper}{o:Oper}{a:Act}{Q:Exit->Act->World->Prop}(ee:o.guard=none)(s x:Operand)
  (ho:o.op=.call { callee:=.builtin .append,args:=#[s,x],argTypes:=#[23,23] })
  (base:Nat) (v vx:Value) (l0 l:List Fd) (hs:a.eval s=v) (az:dR w base v l0) (hx:a.eval x=vx) (fo:Sf w vx l)
  (hbytes:l0.length+l.length<=100000) (aH:base<=w.heap.size)
  (h:∀ v' w',dR w' base v' (l0++l)->Below base w w'->wpList Tryz.prog ops Q rest (a.put o.dst v') w') :
  wpList Tryz.prog ops Q (o::rest) a w:=by
 obtain⟨i0,hi,ce,hz1',bm⟩:=info_parts Py;unfold dR at *;obtain⟨ad,cap,rfl,h1,h2,h3,h4⟩:=fo;cases ad with
 | none =>
  have hc:=h3 rfl;subst hc;have hl:l=[]:=jab (by omega);subst hl;refine wpList_plain ee fun K hK=>?_
  have hr:=run_append_owned_none (P:=Tryz.prog) (w:=w) base 23 o.type 81 i0 4 Tryz.underlying23 hi v l0.length (eB l0) az;unfold Oper.wp execOp;simp only[ho,resolve,invoke,builtin,Sem.run_bind,Sem.run_pure,Result.andThen_ok,jaU,jal,jaG,hs,hx,hr,jad];refine hK _ _ (h v w ?_ (ZQ _ _));rw[Z7];exact az
 | some ad =>
  refine wpList_append_own_at (w:=w) ee s x 23 ho base 81 i0 (.agg #[.int .u32 0,.string ⟨#[]⟩,.int .u8 0,.bool false]) 4 32 Tryz.underlying23 hi ce hz1' bm rfl (by decide) v l0.length (eB l0) hs az ad l.length cap (eB l) hx (by rw[io]) ?_ (oU _) (by unfold maxLen;omega) (by omega) aH ?_
  ·intro j u hu
   have hj:j<l.length*4:=by
    have:=(List.getElem?_eq_some_iff.1 hu).1;rwa[io]at this
   obtain⟨b,off,h5,_,h6⟩:=h4 (by omega);cases h5
   rw[pp];exact h6 j u hu
  ·intro v' w' o1 g1 _ _
   refine h v' w' ?_ ((ZQ base w).grown g1 aH (fun k hk=>(az.lt k hk).1));rw[qG,ZT];exact o1
theorem AA(w:World)(f:Fd):dR (w.alloc (.cells #[.int .u32 (f.1:Int),.string f.2.1,.int .u8 (f.2.2.1:Int),.bool f.2.2.2] 81)) w.heap.size (.slice (some ⟨w.heap.size,0,none⟩) 1 1) [f]:=pJ w [f] (by unfold maxLen;simp)
theorem AB(s t:ByteArray):(s.toList==t.toList)=decide (s=t):=by
 rw[jba];simp only[beq_iff_eq,decide_eq_true_eq];constructor
 ·intro h
  rw[ByteArray.toList_eq,ByteArray.toList_eq]at h;exact Fo h
 ·intro h;rw[h]
def bL(S:World->Prop):Type:={x:World // S x}
def bL.w{S:World->Prop}(s:bL S):World:=s.val
theorem bL.ok{S:World->Prop}(s:bL S):S s.w:=s.property
def bL.mk{S:World->Prop}(x:World)(h:S x):bL S:=⟨x,h⟩
theorem cp{P:Program}{id:Nat}{Q:Exit->Act->World->Prop}{a:Act}{w:World}{l:List Oper}{S:World->Prop}(hm:P.follows .mixedOrders=true)(hB:Region.lexB .any l.toArray=true)(hS:S w.drew)
  (h:wpQuiet P l.toArray (fun w'=>∃ s:bL S,w'=s.w) (fun a'=>∀ w',(∃ s:bL S,w'=s.w)->Q .normal a' w') l a):(Code.region id l.toArray true).wp P Q a w :=
 wp_region_quiet (C:=fun w'=>∃ s:bL S,w'=s.w) hm hB ⟨bL.mk _ hS,rfl⟩ (by simpa using h)
theorem iU(w:World)(x y z u:Value)(t:Nat):(w.alloc (.cells #[x,y,z,u] t)).cell? ⟨w.heap.size,0,none⟩=some x/\(w.alloc (.cells #[x,y,z,u] t)).cell? ⟨w.heap.size,1,none⟩=some y/\(w.alloc (.cells #[x,y,z,u] t)).cell? ⟨w.heap.size,2,none⟩=some z/\(w.alloc (.cells #[x,y,z,u] t)).cell? ⟨w.heap.size,3,none⟩=some u:=by
 have h:=heap_alloc_new w (.cells #[x,y,z,u] t);exact⟨by rw[ax h];rfl,by rw[ax h];rfl,by rw[ax h];rfl,by rw[ax h];rfl⟩
theorem bE(w:World)(x y:Value)(t:Nat):(w.alloc (.cells #[x,y] t)).cell? ⟨w.heap.size,0,none⟩=some x/\(w.alloc (.cells #[x,y] t)).cell? ⟨w.heap.size,1,none⟩=some y:=by
 have h:=heap_alloc_new w (.cells #[x,y] t);exact⟨by rw[ax h];rfl,by rw[ax h];rfl⟩
theorem vX{W:World}{v:Value}{l:List Fd}(h:Sf W v l)(n:Nat):Sf (W.drewN n) v l:=h.kept (below_drewN (ZQ _ _) n)
theorem se{w:World}{v:Value}{l:List Fd}(hs:Sf w v l)(si id:Nat):Calls Tryz.prog 193 #[.agg #[.int .u32 (si:Int),v],.int .u32 (id:Int)] w fun e w'=>e=.returned (.tuple #[.int .i64 (((iG l id).getD 0:Nat):Int),.bool (iG l id).isSome])/\Below w.heap.size w w':=by
 obtain⟨a,cap,rfl,aX,bw⟩:=hs.form;have cC:=ae (ak w (.cells #[.int .u32 (si:Int),.slice a l.length cap] 25));have HS:=ae (hs.kept (ak w (.cells #[.int .u32 (si:Int),.slice a l.length cap] 25)));have HP:Hid (iG l id=jX id 0 (l.drop 0)):=ae rfl;generalize iG l id=P at *;clear hs;generalize hW:w.alloc (.cells #[.int .u32 (si:Int),.slice a l.length cap] 25)=W at *;have hW':=hW;obtain⟨c0,c1⟩:=bE w (.int .u32 (si:Int)) (.slice a l.length cap) 25;rw[hW]at c0 c1;go_enter Tryz.func193,Tryz.ntmps193
 go_wp2_with fail;try rw[hW]
 clear hW hW' c0 c1;go_loopw [11] (fun i wr=>∃ k:Nat,k<=l.length/\i=.int .i64 (k:Int)/\P=jX id k (l.drop k)/\Below W.heap.size W wr) (fun i _=>l.length-(intOf i).toNat)
 case atStart=>exact⟨0,by omega,rfl,HP.out,ZQ _ _⟩
 case round =>
  obtain⟨k,hk,rfl,lq,ay⟩:=hrel;have HF:=ae lq;have HB:=ae ay;have bO:=ay.size;clear lq ay HP;by_cases aB:k<l.length
  ·obtain⟨b,off,rfl,hb,x0,x1,x2,x3⟩:=(HS.out.kept HB.out).at aB
   have HT:=ae (HF.out.trans (BZ aB));have hlt':(k:Int)<(l.length:Int):=by omega
   generalize l[k]=f at *;obtain⟨f0,f1,f2,f3⟩:=f;simp only at *;have aN:=ae (HB.out.trans ((ak wr (.cells #[.int .u32 (f0:Int),.string f1,.int .u8 (f2:Int),.bool f3] 81)).mono bO));by_cases hq:f0=id
   ·rw[if_pos hq]at HT
    have hq':((f0:Int)==(id:Int))=true:=by rw[hq];simp
    subst hq;go_wp2_with fail;go_ret2
    rw[HT.out];exact⟨rfl,ai cC.out aN.out⟩
   ·rw[if_neg hq]at HT
    have hq':((f0:Int)==(id:Int))=false:=Z1.2 (by omega);clear hq;go_wp2_with fail;go_roundw
    case rel=>exact⟨k+1,by omega,by go_num,HT.out,aN.out⟩
    case measure=>simp[intOf];omega
  ·obtain rfl:k=l.length:=by omega
   have gJ:¬ ((l.length:Nat):Int)<(l.length:Int):=by omega
   have HT:=ae (HF.out.trans (EW l id));clear HF;go_wp2_with fail;go_ret2
   rw[HT.out];exact⟨rfl,ai cC.out HB.out⟩
theorem FG{w:World}{v rv:Value}{l:List Fd}{r:List Cl}(hs:Sf w v l)(hr:Sc w rv r)(si:Nat):Calls Tryz.prog 43 #[.agg #[.int .u32 (si:Int),v],rv] w fun e w'=>e=.returned (.int .i64 (jE l r:Int))/\Below w.heap.size w w':=by
 obtain⟨a,cap,rfl,aX,bw⟩:=hs.form;obtain⟨ra,rcap,rfl,Ru,Rx⟩:=hr.form;have hrcm':rcap<=9223372036854775807:=by unfold maxLen at Rx;omega
 have dW:=ak w (.cells #[.int .u32 (si:Int),.slice a l.length cap] 25);have cC:=ae dW;have HS:=ae (hs.kept dW);have HR:=ae (hr.kept dW);obtain⟨c0,c1⟩:=bE w (.int .u32 (si:Int)) (.slice a l.length cap) 25;have hz:w.heap.size<(w.alloc (.cells #[.int .u32 (si:Int),.slice a l.length cap] 25)).heap.size:=by rw[ZS];omega
 clear hs hr dW Rx;generalize hW:w.alloc (.cells #[.int .u32 (si:Int),.slice a l.length cap] 25)=W at *;by_cases fO:r.length≠l.length
 ·have HM:Hid (jE l r=1):=ae (if_pos fO)
  have hne':((r.length:Int) != (l.length:Int))=true:=by simp only[bne_iff_ne];omega
  clear fO;go_enter Tryz.func43,Tryz.ntmps43
  go_wp2_with fail;go_ret
  rw[HM.out];refine⟨rfl,?_⟩;first | exact cC.out | (rw[hW];exact cC.out)
 ·have ph:r.length=l.length:=by omega
  have HM:Hid (jE l r=qd (l.drop 0) (r.drop 0)):=ae (if_neg fO);have UD:=ae ph;rw[ph]at Ru HR ⊢;generalize jE l r=R at *;clear fO ph;go_enter Tryz.func43,Tryz.ntmps43
  go_wp2_with fail;try rw[hW]
  clear hW;go_loopw [5] (fun i wr=>∃ k:Nat,k<=l.length/\i=.int .i64 (k:Int)/\R=qd (l.drop k) (r.drop k)/\Below W.heap.size W wr) (fun i _=>l.length-(intOf i).toNat)
  case atStart=>exact⟨0,by omega,rfl,HM.out,ZQ _ _⟩
  case round =>
   obtain⟨k,hk,rfl,lq,ay⟩:=hrel;have HF:=ae lq;have HB:=ae ay;have bO:=ay.size;have d1:=(ay.cell (p:=⟨w.heap.size,1,none⟩) hz).trans c1;clear lq ay HM;by_cases aB:k<l.length
   ·obtain⟨b,off,rfl,hb,x0,x1,x2,x3⟩:=(HS.out.kept HB.out).at aB
    have Ms:k<r.length:=by have:=UD.out;omega
    obtain⟨rb,roff,rfl,hrb,y0,y1,y2⟩:=(HR.out.kept HB.out).at Ms;have HT:=ae (HF.out.trans (yt aB Ms));have hlt':(k:Int)<(l.length:Int):=by omega
    have X3:(0:Int)<=(k:Int):=by omega
    have HQ:Hid (qc l[k] r[k]=if r[k].1=0 then (if l[k].2.2.2=true then 82 else 0) else if r[k].1≠l[k].2.2.1 then 10 else if 64<r[k].2.2.length then 5 else 0):=ae rfl;generalize qc l[k] r[k]=Q at *;rw[ek]at y2;have hS:=bi r[k].2.2;generalize am r[k].2.2=S at *;generalize r[k].2.2.length=cl at *;generalize r[k].2.1=cn at *;generalize r[k].1=ck at *;generalize l[k].2.2.1=f2 at *;generalize l[k].2.2.2=f3 at *;have qb:=ak wr (.cells #[.int .u8 (ck:Int),.int .i64 cn,.string S] 52);have aN:=ae (HB.out.trans (qb.mono bO));have e1:=(qb.cell (p:=⟨w.heap.size,1,none⟩) (show w.heap.size<_ by omega)).trans d1;have e2:=(qb.cell (p:=⟨b,off+k*4+2,none⟩) hb).trans x2;have e3:=(qb.cell (p:=⟨b,off+k*4+3,none⟩) hb).trans x3;have Mo:w.heap.size<wr.heap.size:=by omega
    clear qb;by_cases q0:ck=0
    ·have q0':((ck:Int)==0)=true:=by rw[q0];rfl
     rw[if_pos q0]at HQ;clear q0;cases f3
     ·rw[if_neg (by simp)]at HQ
      rw[if_pos HQ.out]at HT;go_wp2_with fail;go_roundw
      case rel=>exact⟨k+1,by omega,by go_num,HT.out,aN.out⟩
      case measure=>simp[intOf];omega
     ·rw[if_pos rfl]at HQ
      rw[HQ.out,if_neg (by omega)]at HT;go_wp2_with fail;go_ret
      rw[HT.out];exact⟨rfl,ai cC.out aN.out⟩
    ·have q0':((ck:Int)==0)=false:=Z1.2 (by omega)
     rw[if_neg q0]at HQ;clear q0;by_cases q1:ck=f2
     ·rw[if_neg (by simpa using q1)]at HQ
      have q1':((ck:Int) != (f2:Int))=false:=by simp[q1]
      clear q1;by_cases q2:64<cl
      ·have q2':(S.size:Int) > 64:=by omega
       rw[if_pos q2]at HQ;rw[HQ.out,if_neg (by omega)]at HT;clear q2;go_wp2_with fail;go_quiet (fail)
       go_wp2_with fail;go_ret
       rw[HT.out];exact⟨rfl,below_drewN (ai cC.out aN.out) _⟩
      ·have q2':¬ (S.size:Int) > 64:=by omega
       rw[if_neg q2]at HQ;rw[if_pos HQ.out]at HT;clear q2;go_wp2_with fail;go_quiet (fail)
       go_wp2_with fail;go_roundw
       case rel=>exact⟨k+1,by omega,by go_num,HT.out,below_drewN aN.out _⟩
       case measure=>simp[intOf];omega
     ·rw[if_pos q1]at HQ
      have q1':((ck:Int) != (f2:Int))=true:=by simp only[bne_iff_ne];omega
      rw[HQ.out,if_neg (by omega)]at HT;clear q1;go_wp2_with fail;go_quiet (fail)
      go_wp2_with fail;go_ret
      rw[HT.out];exact⟨rfl,below_drewN (ai cC.out aN.out) _⟩
   ·obtain rfl:k=l.length:=by omega
    have gJ:¬ ((l.length:Nat):Int)<(l.length:Int):=by omega
    have HT:=ae (HF.out.trans (B4 l _));clear HF;go_wp2_with fail;go_ret
    rw[HT.out];exact⟨rfl,ai cC.out HB.out⟩
theorem tq(c:Nat)(w:World):Calls Tryz.prog 224 #[.int .i32 (c:Int)] w fun e w'=>e=.returned (.bool (ey c))/\w'=w:=by
 by_cases h1:48<=(c:Int)
 ·by_cases h2:(c:Int)<=57
  ·have HN:Hid (ey c=true):=ae (decide_eq_true (by omega))
   go_enter Tryz.func224,Tryz.ntmps224
   go_wp2;go_ret
   rw[HN.out];exact⟨rfl,rfl⟩
  ·have HN:Hid (ey c=false):=ae (decide_eq_false (by omega))
   go_enter Tryz.func224,Tryz.ntmps224
   go_wp2;go_ret
   rw[HN.out];exact⟨rfl,rfl⟩
 ·have HN:Hid (ey c=false):=ae (decide_eq_false (by omega))
  go_enter Tryz.func224,Tryz.ntmps224
  go_wp2;go_ret
  rw[HN.out];exact⟨rfl,rfl⟩
theorem C5(c:Nat)(w:World):Calls Tryz.prog 223 #[.int .i32 (c:Int)] w fun e w'=>e=.returned (.bool (gy c || ey c))/\w'=w:=by
 have HD:=ae (tq c);have HL:Hid (gy c=(decide (97<=c/\c<=122) || decide (c=95) || decide (127<c))):=ae rfl;by_cases h1:97<=(c:Int)/\(c:Int)<=122
 ·obtain⟨h1,h2⟩:=h1
  have HN:Hid ((gy c || ey c)=true):=ae (by rw[HL.out,decide_eq_true (show 97<=c/\c<=122 by omega)];rfl);rw[HN.out];go_enter Tryz.func223,Tryz.ntmps223
  go_wp2;go_ret
  exact⟨rfl,rfl⟩
 ·have hh:¬ (97<=c/\c<=122):=by omega
  have HB:Hid ((gy c || ey c)=(ey c || decide (c=95) || decide (127<c))):=ae (by
   rw[HL.out,decide_eq_false hh];cases ey c<;>cases decide (c=95)<;>cases decide (127<c)<;>rfl)
  rw[HB.out];clear hh;generalize ey c=dg at *;have Ry:97<=(c:Int)/\¬ (c:Int)<=122∨¬ 97<=(c:Int):=by omega
  clear h1;rcases Ry with ⟨h1,h2⟩ | h1
  all_goals
   go_enter Tryz.func223,Tryz.ntmps223
   go_wp2_with fail;refine(HD.out _).mono ?_;rintro e w1 ⟨rfl,rfl⟩;cases dg
   ·by_cases h3:c=95
    ·have h3':((c:Int)==95)=true:=by simp;omega
     have HV:Hid ((false || decide (c=95) || decide (127<c))=true):=ae (by rw[decide_eq_true h3];rfl);clear h3;go_wp2_with fail;go_ret
     rw[HV.out];exact⟨rfl,rfl⟩
    ·have h3':((c:Int)==95)=false:=by simp;omega
     have HV:Hid ((false || decide (c=95) || decide (127<c))=decide (127<(c:Int))):=ae (by
      rw[decide_eq_false h3];by_cases h4:127<c
      ·rw[decide_eq_true h4,decide_eq_true (by omega)];rfl
      ·rw[decide_eq_false h4,decide_eq_false (by omega)];rfl)
     clear h3;go_wp2_with fail;go_ret
     rw[HV.out];exact⟨rfl,rfl⟩
   ·go_wp2_with fail
    go_ret
    exact⟨rfl,rfl⟩
theorem Pz{u:List (Nat×Nat)}(h:∀ x∈u,1<=x.2){k:Nat}(hk:k<=u.length):eH u k=0↔k=0:=by
 cases k with
 | zero=>simp
 | succ k =>
  cases u with
  | nil=>simp at hk
  | cons x t =>
   have:=h x (by simp);unfold eH;simp
   omega
theorem TD{l:List UInt8}{p k:Nat}(h:At l p k):p=0↔k=0:=by
 rw[h.2.2.1];exact Pz (fun x hx=>(S8 _ l (ZR _) x hx).2) h.2.2.2
theorem K0{l:List UInt8}{p k:Nat}(h:At l p k)(hp:p<l.length):dJ k ((V l).drop k)=(kG k (aO (l.drop p)).1 && dJ (k+1) ((V l).drop (k+1))):=by
 have h1:=h.lt hp;rw[h1,oP,yp h1]
theorem FH(k c:Nat):kG k c=((gy c || ey c) && !(decide (k=0) && ey c)):=by
 unfold kG;by_cases hk:k=0
 ·subst hk
  have h1:ey c=true->gy c=false:=by
   unfold ey gy;simp
   omega
  cases hd:ey c
  ·simp
  ·rw[h1 hd];simp
 ·have:0<k:=by omega
  simp[hk,this]
theorem xL(s:ByteArray)(w:World):Calls Tryz.prog 197 #[.string s] w fun e w'=>e=.returned (.bool (named s))/\Below w.heap.size w w':=by
 have hL:=cG s;by_cases h1:s.size=0
 ·have HN:Hid (named s=false):=ae (by unfold named;rw[decide_eq_false (by omega)];rfl)
  rw[HN.out]
  have hs:s=⟨#[]⟩:=by
   apply Fo
   exact jab (hL.trans h1)
  subst hs;clear hL h1;go_enter Tryz.func197,Tryz.ntmps197
  go_wp2_with fail;go_ret
  exact⟨rfl,ZQ _ _⟩
 ·have fO:(s.toList==([]:List UInt8))=false:=by
   cases h:(s.toList==([]:List UInt8))with
   | false=>rfl
   | true =>
    exfalso
    rw[beq_iff_eq,ByteArray.toList_eq]at h;have:=congrArg List.length h;have h3:s.size=0:=this;omega
  have yk:s.toList.isEmpty=false:=by
   cases h:s.toList with
   | nil=>rw[h]at fO;simp at fO
   | cons=>rfl
  by_cases h2:(s.size:Int) > 16
  ·have HN:Hid (named s=false):=ae (by unfold named;rw[decide_eq_false (by omega)];rfl)
   rw[HN.out];clear h1;go_enter Tryz.func197,Tryz.ntmps197
   go_wp2_with fail;go_ret
   exact⟨rfl,ZQ _ _⟩
  ·have HN:Hid (named s=(dI (lb s) && dJ 0 (V (lb s)))):=ae (by unfold named;rw[decide_eq_true (by omega)];rfl)
   rw[HN.out];have HC:=ae (rW s (by omega));clear HN h1;generalize dI (lb s)=cl at *;go_enter Tryz.func197,Tryz.ntmps197
   go_wp2_with fail;refine(HC.out _).mono ?_;rintro e w1 ⟨rfl,aG⟩;have aQ:=ae aG;clear aG;cases cl
   ·go_wp2_with fail
    go_ret
    exact⟨rfl,aQ.out⟩
   ·go_wp2_with fail
    go_loopw [3,4] (fun i r w'=>∃ p k:Nat,w'=w1.iter s p/\At (lb s) p k/\dJ 0 (V (lb s))=dJ k ((V (lb s)).drop k)) (fun _ _ w'=>s.size-w'.iterPos w1.heap.size)
    case atStart=>exact⟨0,0,rfl,At.zero _,rfl⟩
    case round =>
     obtain⟨p,k,rfl,lu,ee⟩:=hrel;by_cases hp:p<s.size
     ·have xv:∀ ty,(Instr.next (.pointer (some ⟨w1.heap.size,0,none⟩)) true ty).run Tryz.prog (w1.iter s p)=_:=fun ty=>run_next_any w1 s p ty hp
      rw[lK]at xv;have hw:=dx _ (i8 (l:=lb s) (p:=p) (by omega));have HN:=ae (lu.next (by omega));have HG:=ae (ee.trans (K0 lu (by omega)));have hz:=TD lu;clear lu ee;generalize (aO ((lb s).drop p))=u at *;obtain⟨c,wd⟩:=u;simp only at *;have HS:=ae (FH k c);have HO:=ae (C5 c);have HD:=ae (tq c);have HW:=ae hw;clear hw;cases hlet:(gy c || ey c)with
      | false =>
       rw[hlet]at HO HS;clear hz;go_wp2_with fail;refine(HO.out _).mono ?_;rintro e w2 ⟨rfl,rfl⟩;go_wp2_with fail;go_ret
       refine⟨?_,aQ.out.trans ((en _ _ _).mono aQ.out.size)⟩;rw[Bool.true_and,HG.out,HS.out];rfl
      | true =>
       rw[hlet]at HO HS;by_cases hp0:p=0
       ·obtain rfl:k=0:=hz.1 hp0
        subst hp0;clear hz;cases hdg:ey c with
        | false =>
         rw[hdg]at HD HS;go_wp2_with fail;refine(HO.out _).mono ?_;rintro e w2 ⟨rfl,rfl⟩;go_wp2_with fail;refine(HD.out _).mono ?_;rintro e w2 ⟨rfl,rfl⟩;go_wp2_with fail;go_roundw
         case rel=>exact⟨_,1,rfl,by simpa using HN.out,by rw[HG.out,HS.out];rfl⟩
         case measure=>have:=HW.out;simp at this ⊢;omega
        | true =>
         rw[hdg]at HD HS;go_wp2_with fail;refine(HO.out _).mono ?_;rintro e w2 ⟨rfl,rfl⟩;go_wp2_with fail;refine(HD.out _).mono ?_;rintro e w2 ⟨rfl,rfl⟩;go_wp2_with fail;go_ret
         refine⟨?_,aQ.out.trans ((en _ _ _).mono aQ.out.size)⟩;rw[Bool.true_and,HG.out,HS.out];rfl
       ·have pY:¬ k=0:=fun h=>hp0 (hz.2 h)
        have hpb:((p:Int)==0)=false:=by simp[hp0]
        rw[decide_eq_false pY]at HS;clear hz pY hp0;go_wp2_with fail;refine(HO.out _).mono ?_;rintro e w2 ⟨rfl,rfl⟩;go_wp2_with fail;go_roundw
        case rel=>exact⟨_,k+1,rfl,HN.out,by rw[HG.out,HS.out];rfl⟩
        case measure=>have:=HW.out;simp at this ⊢;omega
     ·have xv:∀ ty,(Instr.next (.pointer (some ⟨w1.heap.size,0,none⟩)) true ty).run Tryz.prog (w1.iter s p)=_:=fun ty=>run_next_end w1 s p ty hp
      have HE:Hid (k=(V (lb s)).length/\p=(lb s).length):=lu.end (by omega);clear lu;have HG:=ae ee;clear ee;go_wp2_with fail;go_ret
      refine⟨?_,aQ.out.trans ((en _ _ _).mono aQ.out.size)⟩;rw[Bool.true_and,HG.out,HE.out.1,jaE];rfl
theorem C6{v:Value}{k n:Int}{s:ByteArray}(h:Val v k n s)(w:World):Calls Tryz.prog 76 #[v] w fun e w'=>e=.returned (.agg #[.int .u8 k,.int .i64 n,.string s])/\Below w.heap.size w w':=by
 have t1:=Ab;have t2:=EY;have t3:=Ac;have t4:=EZ;have t5:=E0;have t6:=Ad;have t7:=E1;have t8:=E2;have t9:=E3;rcases h with ⟨rfl,rfl,rfl,rfl⟩ | ⟨rfl,rfl,rfl⟩ | ⟨b,rfl,rfl,rfl,rfl⟩ | ⟨rfl,rfl,rfl⟩
 ·go_enter Tryz.func76,Tryz.ntmps76
  go_wp2;exact bodyPost_ret (v:=.agg #[.int .u8 0,.int .i64 0,.string ⟨#[]⟩]) (by simp[results,Tryz.results76,go_sem]) rfl ⟨rfl,(ZQ _ _).alloc (ZR _) _⟩
 ·go_enter Tryz.func76,Tryz.ntmps76
  go_wp2;exact bodyPost_ret (v:=.agg #[.int .u8 1,.int .i64 n,.string ⟨#[]⟩]) (by simp[results,Tryz.results76,go_sem]) rfl ⟨rfl,(ZQ _ _).alloc (ZR _) _⟩
 ·cases b
  ·go_enter Tryz.func76,Tryz.ntmps76
   go_wp2;exact bodyPost_ret (v:=.agg #[.int .u8 2,.int .i64 0,.string ⟨#[]⟩]) (by simp[results,Tryz.results76,go_sem]) rfl ⟨rfl,(ZQ _ _).alloc (ZR _) _⟩
  ·go_enter Tryz.func76,Tryz.ntmps76
   go_wp2;exact bodyPost_ret (v:=.agg #[.int .u8 2,.int .i64 1,.string ⟨#[]⟩]) (by simp[results,Tryz.results76,go_sem]) rfl ⟨rfl,(ZQ _ _).alloc (ZR _) _⟩
 ·go_enter Tryz.func76,Tryz.ntmps76
  go_wp2;exact bodyPost_ret (v:=.agg #[.int .u8 3,.int .i64 0,.string s]) (by simp[results,Tryz.results76,go_sem]) rfl ⟨rfl,(ZQ _ _).alloc (ZR _) _⟩
end Go.Proofs.YtpljdjmpamjkhaaGreatDoor
