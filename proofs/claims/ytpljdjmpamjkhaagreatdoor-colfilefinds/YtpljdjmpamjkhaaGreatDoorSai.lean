import Derived.Test.YtpljdjmpamjkhaaGreatDoorSac
import Derived.Test.YtpljdjmpamjkhaaGreatDoorSae
set_option linter.all false
set_option maxRecDepth 100000
set_option maxHeartbeats 4000000
namespace Go.Proofs.YtpljdjmpamjkhaaGreatDoor
open Tryz
open Go.RowKit Go.Lib
def xc(f:Fd):List Value:=[.int .u32 (f.1:Int),.string f.2.1,.int .u8 (f.2.2.1:Int),.bool f.2.2.2]
def pN(f:Fd):Value:=.agg #[.int .u32 (f.1:Int),.string f.2.1,.int .u8 (f.2.2.1:Int),.bool f.2.2.2]
def eZ(l:List Fd):List Value:=l.flatMap xc
def BI(a b:List Fd):eZ (a++b)=eZ a++eZ b:=jfH
def kz(c:Fd)(l:List Fd):eZ (c::l)=xc c++eZ l:=jfQ
def jS:∀ l:List Fd,(eZ l).length=l.length*4
 | []=>rfl
 | c::t=>by
  rw[kz,jeC,jS t,jeI];simp[xc]
  omega
def te:∀{l:List Fd} {j:Nat} (h:j<l.length),(eZ l)[j*4]?=some (.int .u32 (l[j].1:Int))/\(eZ l)[j*4+1]?=some (.string l[j].2.1)/\(eZ l)[j*4+2]?=some (.int .u8 (l[j].2.2.1:Int))/\(eZ l)[j*4+3]?=some (.bool l[j].2.2.2)
 | c::t,0,h=>by simp[kz,xc]
 | c::t,j+1,h=>by
  have ih:=te (l:=t) (j:=j) (by simpa using h);rw[kz]
  have e:∀ k,(xc c++eZ t)[(j+1)*4+k]?=(eZ t)[j*4+k]?:=λk=>by
   rw[List.getElem?_append_right (by simp[xc];omega)];simp only[xc,jeI,jeZ];congr 1
   omega
  have e0:=e 0;simp only[jfk]at e0;rw[e0,e 1,e 2,e 3];simpa using ih
def BJ(f:Fd):∀ u∈xc f,u.oneCell'=true:=by
 intro u hu;unfold xc at hu;simp only[jeL,jgc,or_false]at hu;rcases hu with rfl | rfl | rfl | rfl<;>rfl
def yC(l:List Fd):∀ u∈eZ l,u.oneCell'=true:=by
 intro u hu;obtain⟨f,_,h⟩:=List.mem_flatMap.1 hu;exact BJ f u h
def Jo(l:List Fd)(k:Nat):eZ (l.take k)=(eZ l).take (k*4):=by
 induction l generalizing k with
 | nil=>simp[eZ]
 | cons f t ih =>
  cases k with
  | zero=>simp[eZ]
  | succ k =>
   have hl:(xc f).length=4:=rfl;rw[jf2,kz,kz,ih,List.take_append,hl,jfi (l:=xc f) (by rw[hl];omega)];congr 2
   omega
def Sf(W:World)(v:Value)(l:List Fd):Prop :=
 ∃ a cap,v=.slice a l.length cap/\l.length<=cap/\cap<=maxLen/\(a=none->cap=0)/\(0<l.length->∃ b off,a=some ⟨b,off,none⟩/\b<W.heap.size/\∀ j x,(eZ l)[j]?=some x->W.cell? ⟨b,off+j,none⟩=some x)
def Sf.kept{W W':World}{v:Value}{l:List Fd}(h:Sf W v l)(hb:jgu W W'):Sf W' v l:=by
 obtain⟨a,cap,h1,h2,h3,h0,h4⟩:=h;refine⟨a,cap,h1,h2,h3,h0,λh0=>?_⟩;obtain⟨b,off,h5,h6,h7⟩:=h4 h0;exact⟨b,off,h5,jeY h6 hb.size,λj x hj=>(hb.cell (p:=⟨b,off+j,none⟩) h6).trans (h7 j x hj)⟩
def Sf.nil(W:World):Sf W (.slice none 0 0) []:=⟨none,0,rfl,jeA _,by unfold maxLen;omega,λ_=>rfl,λh=>by simp at h⟩
def Sf.form{W:World}{v:Value}{l:List Fd}(h:Sf W v l):∃ a cap,v=.slice a l.length cap/\l.length<=cap/\cap<=9223372036854775807:=by
 obtain⟨a,cap,h1,h2,h3,_⟩:=h;exact⟨a,cap,h1,h2,by unfold maxLen at h3;omega⟩
def Sf.at{W:World}{a:Option Addr}{n cap:Nat}{l:List Fd}(h:Sf W (.slice a n cap) l){k:Nat}(hk:k<l.length) :
  ∃ b off,a=some ⟨b,off,none⟩/\b<W.heap.size/\W.cell? ⟨b,off+k*4,none⟩=some (.int .u32 (l[k].1:Int))/\W.cell? ⟨b,off+k*4+1,none⟩=some (.string l[k].2.1)/\W.cell? ⟨b,off+k*4+2,none⟩=some (.int .u8 (l[k].2.2.1:Int))/\W.cell? ⟨b,off+k*4+3,none⟩=some (.bool l[k].2.2.2):=by
 obtain⟨a',cap',e,h1,h2,h0,h4⟩:=h;simp only[Value.slice.injEq]at e;obtain⟨rfl,_,_⟩:=e;obtain⟨b,off,rfl,h5,h6⟩:=h4 (by omega);obtain⟨c0,c1,c2,c3⟩:=te hk;refine⟨b,off,rfl,h5,h6 _ _ c0,?_,?_,?_⟩
 ·rw[jfG]
  exact h6 _ _ c1
 ·rw[jfG]
  exact h6 _ _ c2
 ·rw[jfG]
  exact h6 _ _ c3
def Sf.take{W:World}{a:Option Addr}{n cap:Nat}{l:List Fd}(h:Sf W (.slice a n cap) l){k:Nat}(hk:k<=l.length):Sf W (.slice a k cap) (l.take k):=by
 obtain⟨a',c,h1,h2,h3,h4,h5⟩:=h;simp only[Value.slice.injEq]at h1;obtain⟨rfl,_,rfl⟩:=h1;have hl:(l.take k).length=k:=by rw[jeH];omega
 refine⟨_,cap,by rw[hl],by omega,h3,h4,λh0=>?_⟩;obtain⟨b',off',h6,h7,h8⟩:=h5 (by omega);refine⟨b',off',h6,h7,λj x hj=>h8 j x ?_⟩;rw[Jo,List.getElem?_take]at hj;split at hj
 ·exact hj
 ·cases hj
def fh(W:World)(B:Nat)(v:Value)(l:List Fd):Prop:=W.ownsRow B 81 4 v l.length (eZ l)
def fh.nil(W:World)(B:Nat):fh W B (.slice none 0 0) []:=jfh _ _ _ _
def fh.kept{w w':World}{B:Nat}{v:Value}{l:List Fd}(h:fh w B v l)(hb:jgu w w'):fh w' B v l:=bv h hb
def fh.low{W:World}{B B':Nat}{v:Value}{l:List Fd}(h:fh W B' v l)(hb:B<=B'):fh W B v l:=bL h hb
def fh.sf{W:World}{B:Nat}{v:Value}{l:List Fd}(h:fh W B v l):Sf W v l:=by
 rcases h with ⟨h0,⟨rfl,h1⟩ | ⟨g,cap,cur,rfl,h2,h3,h4,h5,h6,h7⟩⟩
 ·refine⟨none,0,by rw[h1],by omega,by unfold maxLen;omega,λ_=>rfl,λh=>by omega⟩
 ·refine⟨_,cap,rfl,h4,h5,λh=>by(cases h),λ_=>⟨g,0,rfl,(Array.getElem?_eq_some_iff.1 h3).1,λj x hj=>?_⟩⟩
  rw[jeU];simp only[World.cell?,h3];rw[<- h7]at hj;have ar:=(List.getElem?_eq_some_iff.1 hj).1;rw[jeH]at ar;rw[List.getElem?_take_of_lt (by omega)]at hj;simpa using hj
def xd(w:World)(l:List Fd)(hl:l.length<=maxLen):fh (w.alloc (.cells (eZ l).toArray 81)) w.heap.size (.slice (some ⟨w.heap.size,0,none⟩) l.length l.length) l:=by
 have:=jf0 (e:=81) (size:=4) w (eZ l).toArray l.length (base:=w.heap.size) (jeA _) hl (by simp[jS]);exact this
def jcb:(prog.info? 81).map (λi=>(i.zero,i.size,i.bytes))=some (some (.agg #[.int .u32 0,.string ⟨#[]⟩,.int .u8 0,.bool false]),4,32):=by kernel_rfl
def YG(w:World)(f:Fd):fh (w.alloc (.cells #[.int .u32 (f.1:Int),.string f.2.1,.int .u8 (f.2.2.1:Int),.bool f.2.2.2] 81)) w.heap.size (.slice (some ⟨w.heap.size,0,none⟩) 1 1) [f]:=xd w [f] (by unfold maxLen;simp)
def BK(s t:ByteArray):(s.toList==t.toList)=decide (s=t):=by
 rw[jfK];simp only[beq_iff_eq,jfb];constructor
 ·intro h
  rw[ByteArray.toList_eq,ByteArray.toList_eq]at h;exact Hy h
 ·intro h;rw[h]
def aB(S:World->Prop):Type:={x:World // S x}
def aB.w{S:World->Prop}(s:aB S):World:=s.val
def aB.ok{S:World->Prop}(s:aB S):S s.w:=s.property
def aB.mk{S:World->Prop}(x:World)(h:S x):aB S:=⟨x,h⟩
def aP{P:Program}{id:Nat}{Q:Exit->Act->World->Prop}{a:Act}{w:World}{l:List Oper}{S:World->Prop}(hm:P.follows .mixedOrders=true)(hB:Region.lexB .any l.toArray=true)(hS:S w.drew)
  (h:wpQuiet P l.toArray (λw'=>∃ s:aB S,w'=s.w) (λa'=>∀ w',(∃ s:aB S,w'=s.w)->Q .normal a' w') l a):(Code.region id l.toArray true).wp P Q a w :=
 wp_region_quiet (C:=λw'=>∃ s:aB S,w'=s.w) hm hB ⟨aB.mk _ hS,rfl⟩ (by simpa using h)
def iM(w:World)(x y z u:Value)(t:Nat):(w.alloc (.cells #[x,y,z,u] t)).cell? ⟨w.heap.size,0,none⟩=some x/\(w.alloc (.cells #[x,y,z,u] t)).cell? ⟨w.heap.size,1,none⟩=some y/\(w.alloc (.cells #[x,y,z,u] t)).cell? ⟨w.heap.size,2,none⟩=some z/\(w.alloc (.cells #[x,y,z,u] t)).cell? ⟨w.heap.size,3,none⟩=some u:=by
 have h:=je2 w (.cells #[x,y,z,u] t);exact⟨by rw[an h];rfl,by rw[an h];rfl,by rw[an h];rfl,by rw[an h];rfl⟩
def aS(w:World)(x y:Value)(t:Nat):(w.alloc (.cells #[x,y] t)).cell? ⟨w.heap.size,0,none⟩=some x/\(w.alloc (.cells #[x,y] t)).cell? ⟨w.heap.size,1,none⟩=some y:=by
 have h:=je2 w (.cells #[x,y] t);exact⟨by rw[an h];rfl,by rw[an h];rfl⟩
def xe{W:World}{v:Value}{l:List Fd}(h:Sf W v l)(n:Nat):Sf (W.drewN n) v l:=h.kept (ak (jez _ _) n)
def tg{w:World}{v:Value}{l:List Fd}(hs:Sf w v l)(si id:Nat):Calls prog 193 #[.agg #[.int .u32 (si:Int),v],.int .u32 (id:Int)] w λe w'=>e=.returned (.tuple #[.int .i64 (((dV l id).getD 0:Nat):Int),.bool (dV l id).isSome])/\jgu w w':=by
 obtain⟨a,cap,rfl,bg,bx⟩:=hs.form;have ce:=ae (aj w (.cells #[.int .u32 (si:Int),.slice a l.length cap] 25));have HS:=ae (hs.kept (aj w (.cells #[.int .u32 (si:Int),.slice a l.length cap] 25)));have HP:jgt (dV l id=iH id 0 (l.drop 0)):=ae rfl;generalize dV l id=P at *;clear hs;generalize hW:w.alloc (.cells #[.int .u32 (si:Int),.slice a l.length cap] 25)=W at *;have hW':=hW;obtain⟨c0,c1⟩:=aS w (.int .u32 (si:Int)) (.slice a l.length cap) 25;rw[hW]at c0 c1;go_enter func193,ntmps193
 go_wp2_with fail;try rw[hW]
 clear hW hW' c0 c1;go_loopw [11] (λi wr=>∃ k:Nat,k<=l.length/\i=.int .i64 (k:Int)/\P=iH id k (l.drop k)/\jgu W wr) (λi _=>l.length-(intOf i).toNat)
 case atStart=>exact⟨0,by omega,rfl,HP.o,jez _ _⟩
 case round =>
  obtain⟨k,hk,rfl,fR,ao⟩:=hrel;have HF:=ae fR;have HB:=ae ao;have bF:=ao.size;clear fR ao HP;by_cases ar:k<l.length
  ·obtain⟨b,off,rfl,hb,x0,x1,x2,x3⟩:=(HS.o.kept HB.o).at ar
   have HT:=ae (HF.o.trans (tW ar));have hlt':(k:Int)<(l.length:Int):=(by omega);generalize l[k]=f at *;obtain⟨f0,f1,f2,f3⟩:=f;simp only at *;have aG:=ae (HB.o.trans ((aj wr (.cells #[.int .u32 (f0:Int),.string f1,.int .u8 (f2:Int),.bool f3] 81)).mono bF));by_cases hq:f0=id
   ·rw[jey hq]at HT
    have hq':((f0:Int)==(id:Int))=true:=by rw[hq];simp
    subst hq;go_wp2_with fail;go_ret2
    rw[HT.o];exact⟨rfl,ai ce.o aG.o⟩
   ·rw[jex hq]at HT
    have hq':((f0:Int)==(id:Int))=false:=jeF.2 (by omega);clear hq;go_wp2_with fail;go_roundw
    case rel=>exact⟨k+1,by omega,by go_num,HT.o,aG.o⟩
    case measure=>simp[intOf];omega
  ·obtain rfl:k=l.length:=by omega
   have ed:¬ ((l.length:Nat):Int)<(l.length:Int):=(by omega);have HT:=ae (HF.o.trans (wl l id));clear HF;go_wp2_with fail;go_ret2
   rw[HT.o];exact⟨rfl,ai ce.o HB.o⟩
def plz(p:Option Nat):Int:=match p with
 | none=>-1
 | some k=>(k:Int)
def Jp{w:World}{v rv:Value}{l:List Fd}{r:List Cl}(hs:Sf w v l)(hr:Sc w rv r)(si:Nat):Calls prog 43 #[.agg #[.int .u32 (si:Int),v],rv] w λe w'=>e=.returned (.int .i64 (iY l r:Int))/\jgu w w':=by
 obtain⟨a,cap,rfl,bg,bx⟩:=hs.form;obtain⟨ra,rcap,rfl,WE,WF⟩:=hr.form;have hrcm':rcap<=9223372036854775807:=by unfold maxLen at WF;omega
 have cy:=aj w (.cells #[.int .u32 (si:Int),.slice a l.length cap] 25);have ce:=ae cy;have HS:=ae (hs.kept cy);have HR:=ae (hr.kept cy);obtain⟨c0,c1⟩:=aS w (.int .u32 (si:Int)) (.slice a l.length cap) 25;have hz:w.heap.size<(w.alloc (.cells #[.int .u32 (si:Int),.slice a l.length cap] 25)).heap.size:=by rw[jeB];omega
 clear hs hr cy WF;generalize hW:w.alloc (.cells #[.int .u32 (si:Int),.slice a l.length cap] 25)=W at *;by_cases dC:r.length≠l.length
 ·have HM:jgt (iY l r=1):=ae (jey dC)
  have hne':((r.length:Int) != (l.length:Int))=true:=by simp only[bne_iff_ne];omega
  clear dC;go_enter func43,ntmps43
  go_wp2_with fail;go_ret
  rw[HM.o];refine⟨rfl,?_⟩;first | exact ce.o | (rw[hW];exact ce.o)
 ·have sj:r.length=l.length:=by omega
  have HM:jgt (iY l r=qx (l.drop 0) (r.drop 0)):=ae (jex dC);have MH:=ae sj;rw[sj]at WE HR ⊢;generalize iY l r=R at *;clear dC sj;go_enter func43,ntmps43
  go_wp2_with fail;try rw[hW]
  clear hW;go_loopw [5] (λi wr=>∃ k:Nat,k<=l.length/\i=.int .i64 (k:Int)/\R=qx (l.drop k) (r.drop k)/\jgu W wr) (λi _=>l.length-(intOf i).toNat)
  case atStart=>exact⟨0,by omega,rfl,HM.o,jez _ _⟩
  case round =>
   obtain⟨k,hk,rfl,fR,ao⟩:=hrel;have HF:=ae fR;have HB:=ae ao;have bF:=ao.size;have d1:=(ao.cell (p:=⟨w.heap.size,1,none⟩) hz).trans c1;clear fR ao HM;by_cases ar:k<l.length
   ·obtain⟨b,off,rfl,hb,x0,x1,x2,x3⟩:=(HS.o.kept HB.o).at ar
    have QT:k<r.length:=by have:=MH.o;omega
    obtain⟨rb,roff,rfl,hrb,y0,y1,y2⟩:=(HR.o.kept HB.o).at QT;have HT:=ae (HF.o.trans (zw ar QT));have hlt':(k:Int)<(l.length:Int):=(by omega);have jc3:(0:Int)<=(k:Int):=(by omega);have HQ:jgt (qw l[k] r[k]=if r[k].1=0 then (if l[k].2.2.2=true then 82 else 0) else if r[k].1≠l[k].2.2.1 then 10 else if 64<r[k].2.2.length then 5 else 0):=ae rfl;generalize qw l[k] r[k]=Q at *;rw[gB]at y2;have hS:=be r[k].2.2;generalize bytesT r[k].2.2=S at *;generalize r[k].2.2.length=cl at *;generalize r[k].2.1=cn at *;generalize r[k].1=ck at *;generalize l[k].2.2.1=f2 at *;generalize l[k].2.2.2=f3 at *;have oL:=aj wr (.cells #[.int .u8 (ck:Int),.int .i64 cn,.string S] 52);have aG:=ae (HB.o.trans (oL.mono bF));have e1:=(oL.cell (p:=⟨w.heap.size,1,none⟩) (show w.heap.size<_ by omega)).trans d1;have e2:=(oL.cell (p:=⟨b,off+k*4+2,none⟩) hb).trans x2;have e3:=(oL.cell (p:=⟨b,off+k*4+3,none⟩) hb).trans x3;have Xz:w.heap.size<wr.heap.size:=(by omega);clear oL;by_cases q0:ck=0
    ·have q0':((ck:Int)==0)=true:=by rw[q0];rfl
     rw[jey q0]at HQ;clear q0;cases f3
     ·rw[jex (by simp)]at HQ
      rw[jey HQ.o]at HT;go_wp2_with fail;go_roundw
      case rel=>exact⟨k+1,by omega,by go_num,HT.o,aG.o⟩
      case measure=>simp[intOf];omega
     ·rw[jey rfl]at HQ
      rw[HQ.o,jex (by omega)]at HT;go_wp2_with fail;go_ret
      rw[HT.o];exact⟨rfl,ai ce.o aG.o⟩
    ·have q0':((ck:Int)==0)=false:=jeF.2 (by omega)
     rw[jex q0]at HQ;clear q0;by_cases q1:ck=f2
     ·rw[jex (by simpa using q1)]at HQ
      have q1':((ck:Int) != (f2:Int))=false:=by simp[q1]
      clear q1;by_cases q2:64<cl
      ·have q2':(S.size:Int) > 64:=by omega
       rw[jey q2]at HQ;rw[HQ.o,jex (by omega)]at HT;clear q2;go_wp2_with fail;go_quiet (fail)
       go_wp2_with fail;go_ret
       rw[HT.o];exact⟨rfl,ak (ai ce.o aG.o) _⟩
      ·have q2':¬ (S.size:Int) > 64:=by omega
       rw[jex q2]at HQ;rw[jey HQ.o]at HT;clear q2;go_wp2_with fail;go_quiet (fail)
       go_wp2_with fail;go_roundw
       case rel=>exact⟨k+1,by omega,by go_num,HT.o,ak aG.o _⟩
       case measure=>simp[intOf];omega
     ·rw[jey q1]at HQ
      have q1':((ck:Int) != (f2:Int))=true:=by simp only[bne_iff_ne];omega
      rw[HQ.o,jex (by omega)]at HT;clear q1;go_wp2_with fail;go_quiet (fail)
      go_wp2_with fail;go_ret
      rw[HT.o];exact⟨rfl,ak (ai ce.o aG.o) _⟩
   ·obtain rfl:k=l.length:=by omega
    have ed:¬ ((l.length:Nat):Int)<(l.length:Int):=(by omega);have HT:=ae (HF.o.trans (Dq l _));clear HF;go_wp2_with fail;go_ret
    rw[HT.o];exact⟨rfl,ai ce.o HB.o⟩
def Pd(w:World)(l:List Fd)(e:Ending)(w':World):Prop:=(∃ g:Bool,e=.returned (.bool g)/\(g=false->l.length<=100/\szs l<5000))/\jgu w w'
def Pe{w:World}{v:Value}{l:List Fd}(hs:Sf w v l)(id:Nat):Calls prog 10 #[.agg #[.int .u32 (id:Int),v]] w (Pd w l):=by
 obtain⟨a,cap,rfl,bg,bx⟩:=hs.form;have ce:=ae (aj w (.cells #[.int .u32 (id:Int),.slice a l.length cap] 25));have HS:=ae (hs.kept (aj w (.cells #[.int .u32 (id:Int),.slice a l.length cap] 25)));obtain⟨c0,c1⟩:=aS w (.int .u32 (id:Int)) (.slice a l.length cap) 25;clear hs;generalize hW:w.alloc (.cells #[.int .u32 (id:Int),.slice a l.length cap] 25)=W at *;go_enter func10,ntmps10
 go_wp2_with fail;try rw[hW]
 clear hW;go_loopw [3,4] (λn i wr=>∃ k s:Nat,wr=W/\k<=l.length/\k<=100/\i=.int .i64 (k:Int)/\n=.int .i64 (s:Int)/\s<10000/\(s<5000->s=szs (l.take k))) (λ_ i _=>l.length-(intOf i).toNat)
 case atStart=>exact⟨0,0,rfl,by omega,by omega,rfl,rfl,by omega,λ_=>by simp[szs]⟩
 case round =>
  obtain⟨k,s,rfl,hk,hk100,rfl,rfl,dr,cV⟩:=hrel;have fJ:=ae cV;clear cV;by_cases ar:k<l.length
  ·have hlt':(k:Int)<(l.length:Int):=by omega
   by_cases yp:(k:Int)<100
   ·by_cases kT:(s:Int)<5000
    ·obtain⟨b,off,rfl,hb,x0,x1,x2,x3⟩:=HS.o.at ar
     have oM:=ae (yv ar);have HSE:=ae (fJ.o (by omega));generalize l[k].2.1=nm at *;have zd:∃ q:Nat,min (nm.size:Int) 5000=(q:Int)/\q<=5000/\(q<5000->q=nm.size):=⟨min nm.size 5000,by omega,by omega,by omega⟩;obtain h | h | h:(nm.size:Int)<5000∨(nm.size:Int)=5000∨(5000:Int)<(nm.size:Int):=by omega
     ·have h2:¬ (5000:Int)<(nm.size:Int):=by omega
      have h3:((nm.size:Int)==5000)=false:=jeF.2 (by omega);have h4:(nm.size:Int)<=5000:=(by omega);have h5:¬ (5000:Int)<=(nm.size:Int):=(by omega);clear zd;go_wp2_with fail;go_roundw
      case rel=>exact⟨k+1,s+nm.size,trivial,by omega,by omega,by go_num,by go_num,by omega,λ_=>by rw[oM.o,HSE.o]⟩
      case measure=>simp[intOf];omega
     ·clear zd
      go_wp2_with fail;go_roundw
      case rel=>exact⟨k+1,s+5000,trivial,by omega,by omega,by go_num,by go_num,by omega,λh=>by omega⟩
      case measure=>simp[intOf];omega
     ·have h2:¬ (nm.size:Int)<5000:=by omega
      have h3:((nm.size:Int)==5000)=false:=jeF.2 (by omega);have h4:(5000:Int)<=(nm.size:Int):=(by omega);have h5:¬ (nm.size:Int)<=5000:=(by omega);clear zd;go_wp2_with fail;go_roundw
      case rel=>exact⟨k+1,s+5000,trivial,by omega,by omega,by go_num,by go_num,by omega,λh=>by omega⟩
      case measure=>simp[intOf];omega
    ·by_cases hl:(l.length:Int) > 100
     ·go_wp2_with fail
      go_ret
      exact⟨⟨true,rfl,λh=>by cases h⟩,ce.o⟩
     ·have Dd:(s:Int)>=5000:=by omega
      go_wp2_with fail;go_ret
      exact⟨⟨true,rfl,λh=>by cases h⟩,ce.o⟩
   ·have hl:(l.length:Int) > 100:=by omega
    go_wp2_with fail;go_ret
    exact⟨⟨true,rfl,λh=>by cases h⟩,ce.o⟩
  ·obtain rfl:k=l.length:=by omega
   have ed:¬ ((l.length:Nat):Int)<(l.length:Int):=(by omega);have hl:¬ (l.length:Int) > 100:=(by omega);by_cases Dd:(s:Int)>=5000
   ·go_wp2_with fail
    go_ret
    exact⟨⟨true,rfl,λh=>by cases h⟩,ce.o⟩
   ·have h2:=fJ.o
    rw[jeJ]at h2;have H2:=ae (h2 (by omega));clear h2;go_wp2_with fail;go_ret
    exact⟨⟨false,rfl,λh=>⟨by omega,by rw[<- H2.o];omega⟩⟩,ce.o⟩
def ur(c:Nat)(w:World):Calls prog 224 #[.int .i32 (c:Int)] w λe w'=>e=.returned (.bool (dU c))/\w'=w:=by
 by_cases h1:48<=(c:Int)
 ·by_cases h2:(c:Int)<=57
  ·have HN:jgt (dU c=true):=ae (jeP (by omega))
   go_enter func224,ntmps224
   go_wp2;go_ret
   rw[HN.o];exact⟨rfl,rfl⟩
  ·have HN:jgt (dU c=false):=ae (jeM (by omega))
   go_enter func224,ntmps224
   go_wp2;go_ret
   rw[HN.o];exact⟨rfl,rfl⟩
 ·have HN:jgt (dU c=false):=ae (jeM (by omega))
  go_enter func224,ntmps224
  go_wp2;go_ret
  rw[HN.o];exact⟨rfl,rfl⟩
def Eo(c:Nat)(w:World):Calls prog 223 #[.int .i32 (c:Int)] w λe w'=>e=.returned (.bool (gm c || dU c))/\w'=w:=by
 have HD:=ae (ur c);have HL:jgt (gm c=(decide (97<=c/\c<=122) || decide (c=95) || decide (127<c))):=ae rfl;by_cases h1:97<=(c:Int)/\(c:Int)<=122
 ·obtain⟨h1,h2⟩:=h1
  have HN:jgt ((gm c || dU c)=true):=ae (by rw[HL.o,jeP (show 97<=c/\c<=122 by omega)];rfl);rw[HN.o];go_enter func223,ntmps223
  go_wp2;go_ret
  exact⟨rfl,rfl⟩
 ·have hh:¬ (97<=c/\c<=122):=by omega
  have HB:jgt ((gm c || dU c)=(dU c || decide (c=95) || decide (127<c))):=ae (by
   rw[HL.o,jeM hh];cases dU c<;>cases decide (c=95)<;>cases decide (127<c)<;>rfl)
  rw[HB.o];clear hh;generalize dU c=dg at *;have WG:97<=(c:Int)/\¬ (c:Int)<=122∨¬ 97<=(c:Int):=by omega
  clear h1;rcases WG with ⟨h1,h2⟩ | h1
  all_goals
   go_enter func223,ntmps223
   go_wp2_with fail;refine(HD.o _).mono ?_;rintro e w1 ⟨rfl,rfl⟩;cases dg
   ·by_cases h3:c=95
    ·have h3':((c:Int)==95)=true:=by simp;omega
     have HV:jgt ((false || decide (c=95) || decide (127<c))=true):=ae (by rw[jeP h3];rfl);clear h3;go_wp2_with fail;go_ret
     rw[HV.o];exact⟨rfl,rfl⟩
    ·have h3':((c:Int)==95)=false:=by simp;omega
     have HV:jgt ((false || decide (c=95) || decide (127<c))=decide (127<(c:Int))):=ae (by
      rw[jeM h3];by_cases h4:127<c
      ·rw[jeP h4,jeP (by omega)];rfl
      ·rw[jeM h4,jeM (by omega)];rfl)
     clear h3;go_wp2_with fail;go_ret
     rw[HV.o];exact⟨rfl,rfl⟩
   ·go_wp2_with fail
    go_ret
    exact⟨rfl,rfl⟩
def TK{u:List (Nat×Nat)}(h:∀ x∈u,1<=x.2){k:Nat}(hk:k<=u.length):eo u k=0↔k=0:=by
 cases k with
 | zero=>simp
 | succ k =>
  cases u with
  | nil=>simp at hk
  | cons x t =>
   have:=h x (by simp);unfold eo;simp
   omega
def YH{l:List UInt8}{p k:Nat}(h:At l p k):p=0↔k=0:=by
 rw[h.2.2.1];exact TK (λx hx=>(Ya _ l (jeA _) x hx).2) h.2.2.2
def Pf{l:List UInt8}{p k:Nat}(h:At l p k)(hp:p<l.length):di k ((V l).drop k)=(kV k (aK (l.drop p)).1 && di (k+1) ((V l).drop (k+1))):=by
 have h1:=h.lt hp;rw[h1,oZ,zt h1]
def Jq(k c:Nat):kV k c=((gm c || dU c) && !(decide (k=0) && dU c)):=by
 unfold kV;by_cases hk:k=0
 ·subst hk
  have h1:dU c=true->gm c=false:=by
   unfold dU gm;simp
   omega
  cases hd:dU c
  ·simp
  ·rw[h1 hd];simp
 ·have:0<k:=by omega
  simp[hk,this]
def yD(s:ByteArray)(w:World):Calls prog 197 #[.string s] w λe w'=>e=.returned (.bool (named s))/\jgu w w':=by
 have hL:=bK s;by_cases h1:s.size=0
 ·have HN:jgt (named s=false):=ae (by unfold named;rw[jeM (by omega)];rfl)
  rw[HN.o]
  have hs:s=⟨#[]⟩:=by
   apply Hy
   exact jeW (hL.trans h1)
  subst hs;clear hL h1;go_enter func197,ntmps197
  go_wp2_with fail;go_ret
  exact⟨rfl,jez _ _⟩
 ·have dC:(s.toList==([]:List UInt8))=false:=by
   cases h:(s.toList==([]:List UInt8))with
   | false=>rfl
   | true =>
    exfalso
    rw[beq_iff_eq,ByteArray.toList_eq]at h;have:=jeG List.length h;have h3:s.size=0:=this;omega
  have sn:s.toList.isEmpty=false:=by
   cases h:s.toList with
   | nil=>rw[h]at dC;simp at dC
   | cons=>rfl
  by_cases h2:(s.size:Int) > 16
  ·have HN:jgt (named s=false):=ae (by unfold named;rw[jeM (by omega)];rfl)
   rw[HN.o];clear h1;go_enter func197,ntmps197
   go_wp2_with fail;go_ret
   exact⟨rfl,jez _ _⟩
  ·have HN:jgt (named s=(cX (lb s) && di 0 (V (lb s)))):=ae (by unfold named;rw[jeP (by omega)];rfl)
   rw[HN.o];have HC:=ae (sY s (by omega));clear HN h1;generalize cX (lb s)=cl at *;go_enter func197,ntmps197
   go_wp2_with fail;refine(HC.o _).mono ?_;rintro e w1 ⟨rfl,az⟩;have aL:=ae az;clear az;cases cl
   ·go_wp2_with fail
    go_ret
    exact⟨rfl,aL.o⟩
   ·go_wp2_with fail
    go_loopw [3,4] (λi r w'=>∃ p k:Nat,w'=w1.iter s p/\At (lb s) p k/\di 0 (V (lb s))=di k ((V (lb s)).drop k)) (λ_ _ w'=>s.size-w'.iterPos w1.heap.size)
    case atStart=>exact⟨0,0,rfl,At.zero _,rfl⟩
    case round =>
     obtain⟨p,k,rfl,lD,ef⟩:=hrel;by_cases hp:p<s.size
     ·have yo:∀ ty,(Instr.next (.pointer (some ⟨w1.heap.size,0,none⟩)) true ty).run prog (w1.iter s p)=_:=λty=>run_next_any w1 s p ty hp
      rw[ke]at yo;have hw:=cC _ (gX (l:=lb s) (p:=p) (by omega));have HN:=ae (lD.next (by omega));have HG:=ae (ef.trans (Pf lD (by omega)));have hz:=YH lD;clear lD ef;generalize (aK ((lb s).drop p))=u at *;obtain⟨c,wd⟩:=u;simp only at *;have HS:=ae (Jq k c);have HO:=ae (Eo c);have HD:=ae (ur c);have HW:=ae hw;clear hw;cases hlet:(gm c || dU c)with
      | false =>
       rw[hlet]at HO HS;clear hz;go_wp2_with fail;refine(HO.o _).mono ?_;rintro e w2 ⟨rfl,rfl⟩;go_wp2_with fail;go_ret
       refine⟨?_,aL.o.trans ((dG _ _ _).mono aL.o.size)⟩;rw[Bool.true_and,HG.o,HS.o];rfl
      | true =>
       rw[hlet]at HO HS;by_cases hp0:p=0
       ·obtain rfl:k=0:=hz.1 hp0
        subst hp0;clear hz;cases hdg:dU c with
        | false =>
         rw[hdg]at HD HS;go_wp2_with fail;refine(HO.o _).mono ?_;rintro e w2 ⟨rfl,rfl⟩;go_wp2_with fail;refine(HD.o _).mono ?_;rintro e w2 ⟨rfl,rfl⟩;go_wp2_with fail;go_roundw
         case rel=>exact⟨_,1,rfl,by simpa using HN.o,by rw[HG.o,HS.o];rfl⟩
         case measure=>have:=HW.o;simp at this ⊢;omega
        | true =>
         rw[hdg]at HD HS;go_wp2_with fail;refine(HO.o _).mono ?_;rintro e w2 ⟨rfl,rfl⟩;go_wp2_with fail;refine(HD.o _).mono ?_;rintro e w2 ⟨rfl,rfl⟩;go_wp2_with fail;go_ret
         refine⟨?_,aL.o.trans ((dG _ _ _).mono aL.o.size)⟩;rw[Bool.true_and,HG.o,HS.o];rfl
       ·have vL:¬ k=0:=λh=>hp0 (hz.2 h)
        have hpb:((p:Int)==0)=false:=by simp[hp0]
        rw[jeM vL]at HS;clear hz vL hp0;go_wp2_with fail;refine(HO.o _).mono ?_;rintro e w2 ⟨rfl,rfl⟩;go_wp2_with fail;go_roundw
        case rel=>exact⟨_,k+1,rfl,HN.o,by rw[HG.o,HS.o];rfl⟩
        case measure=>have:=HW.o;simp at this ⊢;omega
     ·have yo:∀ ty,(Instr.next (.pointer (some ⟨w1.heap.size,0,none⟩)) true ty).run prog (w1.iter s p)=_:=λty=>run_next_end w1 s p ty hp
      have HE:jgt (k=(V (lb s)).length/\p=(lb s).length):=lD.end (by omega);clear lD;have HG:=ae ef;clear ef;go_wp2_with fail;go_ret
      refine⟨?_,aL.o.trans ((dG _ _ _).mono aL.o.size)⟩;rw[Bool.true_and,HG.o,HE.o.1,jfg];rfl
def Ep{v:Value}{k n:Int}{s:ByteArray}(h:Val v k n s)(w:World):Calls prog 76 #[v] w λe w'=>e=.returned (.agg #[.int .u8 k,.int .i64 n,.string s])/\jgu w w':=by
 have t1:=Ba;have t2:=GZ;have t3:=Bc;have t4:=Ha;have t5:=Hb;have t6:=Bd;have t7:=Hc;have t8:=Hd;have t9:=He;rcases h with ⟨rfl,rfl,rfl,rfl⟩ | ⟨rfl,rfl,rfl⟩ | ⟨b,rfl,rfl,rfl,rfl⟩ | ⟨rfl,rfl,rfl⟩
 ·go_enter func76,ntmps76
  go_wp2;exact bodyPost_ret (v:=.agg #[.int .u8 0,.int .i64 0,.string ⟨#[]⟩]) (by simp[results,results76,go_sem]) rfl ⟨rfl,(jez _ _).alloc (jeA _) _⟩
 ·go_enter func76,ntmps76
  go_wp2;exact bodyPost_ret (v:=.agg #[.int .u8 1,.int .i64 n,.string ⟨#[]⟩]) (by simp[results,results76,go_sem]) rfl ⟨rfl,(jez _ _).alloc (jeA _) _⟩
 ·cases b
  ·go_enter func76,ntmps76
   go_wp2;exact bodyPost_ret (v:=.agg #[.int .u8 2,.int .i64 0,.string ⟨#[]⟩]) (by simp[results,results76,go_sem]) rfl ⟨rfl,(jez _ _).alloc (jeA _) _⟩
  ·go_enter func76,ntmps76
   go_wp2;exact bodyPost_ret (v:=.agg #[.int .u8 2,.int .i64 1,.string ⟨#[]⟩]) (by simp[results,results76,go_sem]) rfl ⟨rfl,(jez _ _).alloc (jeA _) _⟩
 ·go_enter func76,ntmps76
  go_wp2;exact bodyPost_ret (v:=.agg #[.int .u8 3,.int .i64 0,.string s]) (by simp[results,results76,go_sem]) rfl ⟨rfl,(jez _ _).alloc (jeA _) _⟩
def Pg{c:jgw}(h:aI c)(w:World):Calls prog 76 #[cz c] w λe w'=>e=.returned (.agg #[.int .u8 (c.1:Int),.int .i64 c.2.1,.string (bytesT c.2.2)])/\jgu w w':=Ep h.val w
def Ac{w:World}{v:Value}{l:jgv}(hs:Sv w v (aE l))(hf:∀ c∈l,aI c)(hl:l.length<=600) :
  Calls prog 37 #[v] w λe w'=>(∃ v',e=.returned v'/\dQ w' w.heap.size v' l)/\jgu w w':=by
 have HS:=ae hs;have HK:=ae hf;obtain⟨a,cap,rfl,bg,bx⟩:=hs.form1;rw[ay]at *;have hcm':cap<=9223372036854775807:=by unfold maxLen at bx;omega
 clear hs bx hf;go_enter func37,ntmps37
 go_wp2_with fail;go_loopw [3,4] (λo i wr=>∃ j:Nat,j<=l.length/\i=.int .i64 (j:Int)/\dQ wr w.heap.size o (l.take j)/\jgu w wr) (λ_ i _=>l.length-(intOf i).toNat)
 case atStart=>exact⟨0,by omega,rfl,dQ.nil _ _,jez _ _⟩
 case round =>
  obtain⟨j,hj,rfl,ax,ao⟩:=hrel;have HO:=ae ax;have HB:=ae ao;have bF:=ao.size;clear ax ao;by_cases ar:j<l.length
  ·obtain⟨g,off,rfl,hg,bC⟩:=(HS.o.kept HB.o).at1 (cw ar)
   have hlt':(j:Int)<(l.length:Int):=(by omega);have mf:jgt (l.take (j+1)=l.take j++[l[j]]):=ae (jeO ar);have hlen':(l.take j).length<=100000:=by rw[jeH];omega
   have HVA:=ae (Pg (HK.o l[j] (jeD ar)));generalize l[j]=fc at *;generalize l.take j=LL at *;generalize cz fc=vc at *;go_wp2_with fail;refine(HVA.o _).mono ?_;rintro e w1 ⟨rfl,az⟩;have fX:=ae (HO.o.kept az);have aL:=ae (HB.o.trans (az.mono bF));have bW:=az.size;have ix:=ae (cO w1 (.int .u8 (fc.1:Int)) (.int .i64 fc.2.1) (.string (bytesT fc.2.2)) 52);clear az bC;go_wp2_with (first | (at_builtin;refine jy rfl _ _ rfl w.heap.size _ _ fc LL rfl (fX.o.kept (aj _ _)) rfl ix.o.1 ix.o.2.1 ix.o.2.2 hlen' ?c2 ?_))
   case c2=>first | omega | (rw[jeB];omega)
   intro v' w5 o5 b5;have dK:=ae o5;have bq:=ae ((aL.o.alloc (jeK bF bW) _).trans b5);clear o5 b5;go_wp2_with fail;go_roundw
   case rel=>exact⟨j+1,by omega,by go_num,by rw[mf.o];exact dK.o,bq.o⟩
   case measure=>simp[intOf];omega
  ·obtain rfl:j=l.length:=by omega
   rw[jeJ]at HO;have ed:¬ ((l.length:Nat):Int)<(l.length:Int):=(by omega);go_wp2_with fail;go_ret
   exact⟨⟨_,rfl,HO.o⟩,HB.o⟩
def ut{w:World}{v1 v2:Value}{l m:jgv}(h1:Sc w v1 l)(h2:Sc w v2 m)(az:∀ c∈l,Bs c.2.2)(ap:∀ c∈m,Bs c.2.2) :
  Calls prog 36 #[v1,v2] w λe w'=>e=.returned (.bool (decide (l=m)))/\jgu w w':=by
 have iW:=ae h1;have fJ:=ae h2;have aL:=ae az;have aG:=ae ap;obtain⟨a,cap,rfl,bg,bx⟩:=h1.form;obtain⟨a2,cap2,rfl,MG,tO⟩:=h2.form;have hcm':cap<=9223372036854775807:=by unfold maxLen at bx;omega
 have hcm2':cap2<=9223372036854775807:=by unfold maxLen at tO;omega
 clear h1 h2 az ap bx tO;by_cases bH:l.length=m.length
 ·have dC:(((l.length:Nat):Int) != (m.length:Int))=false:=by simp[bH]
  have QU:=ae bH;clear bH;go_enter func36,ntmps36
  go_wp2_with fail;go_loopw [5] (λi wr=>∃ j:Nat,j<=l.length/\i=.int .i64 (j:Int)/\l.take j=m.take j/\jgu w wr) (λi _=>l.length-(intOf i).toNat)
  case atStart=>exact⟨0,by omega,rfl,rfl,jez _ _⟩
  case round =>
   obtain⟨j,hj,rfl,MK,ao⟩:=hrel;have Gk:=ae MK;have HB:=ae ao;clear MK ao;by_cases ar:j<l.length
   ·have jc4:j<m.length:=by have:=QU.o;omega
    obtain⟨g,off,rfl,hg,c0,c1,c2⟩:=(iW.o.kept HB.o).at ar;obtain⟨g2,off2,rfl,fY,d0,d1,d2⟩:=(fJ.o.kept HB.o).at jc4;have hlt':(j:Int)<(l.length:Int):=(by omega);have hltm':(j:Int)<(m.length:Int):=(by omega);have mf:=ae (λhe=>qH ar jc4 Gk.o he);have ML:jgt (l[j]≠m[j]->decide (l=m)=false):=ae (λh=>jeM (λe=>h (by subst e;rfl)));have HBC:=ae (aL.o l[j] (jeD ar));have Df:=ae (aG.o m[j] (jeD jc4));rw[gB]at c2 d2;generalize l[j]=c at *;generalize m[j]=d at *;obtain⟨ck,cn,cs⟩:=c;obtain⟨dk,dn,ds⟩:=d;simp only at *;by_cases hk:ck=dk
    ·subst hk
     by_cases hn:cn=dn
     ·subst hn
      by_cases hs:cs=ds
      ·subst hs
       have HN':=ae (mf.o rfl);clear mf ML;generalize bytesT cs=S at *;go_wp2_with fail;go_quiet (fail)
       go_wp2_with fail;go_roundw
       case rel=>exact⟨j+1,by omega,by go_num,HN'.o,HB.o.trans ⟨rfl,rfl,rfl,jeA _,λ_ _=>rfl⟩⟩
       case measure=>simp[intOf];omega
      ·have HNE':=ae (ML.o (λe=>hs (by simpa using e)))
       have hss:((bytesT cs).toList==(bytesT ds).toList)=false:=by
        rw[dE,dE];exact jeF.2 (λe=>hs (by rw[<- kU HBC.o,<- kU Df.o,e]))
       clear mf ML hs;generalize bytesT cs=S at *;generalize bytesT ds=T at *;go_wp2_with fail;go_quiet (fail)
       go_wp2_with fail;go_ret
       rw[HNE'.o];exact⟨rfl,HB.o.trans ⟨rfl,rfl,rfl,jeA _,λ_ _=>rfl⟩⟩
     ·have HNE':=ae (ML.o (λe=>hn (by have:=jeG (λt=>t.2.1) e;simpa using this)))
      have hnn:(cn==dn)=false:=jeF.2 hn;clear mf ML hn;generalize bytesT cs=S at *;generalize bytesT ds=T at *;go_wp2_with fail;go_quiet (fail)
      go_wp2_with fail;go_ret
      rw[HNE'.o];exact⟨rfl,HB.o.trans ⟨rfl,rfl,rfl,jeA _,λ_ _=>rfl⟩⟩
    ·have HNE':=ae (ML.o (λe=>hk (by have:=jeG (λt=>t.1) e;simpa using this)))
     have GM:((ck:Int)==(dk:Int))=false:=jeF.2 (by omega);clear mf ML hk;generalize bytesT cs=S at *;generalize bytesT ds=T at *;go_wp2_with fail;go_quiet (fail)
     go_wp2_with fail;go_ret
     rw[HNE'.o];exact⟨rfl,HB.o.trans ⟨rfl,rfl,rfl,jeA _,λ_ _=>rfl⟩⟩
   ·obtain rfl:j=l.length:=by omega
    have WH:jgt (decide (l=m)=true):=ae (jeP (by
     have:=Gk.o;rw[jeJ]at this;rw[this,QU.o,jeJ]))
    have ed:¬ ((l.length:Nat):Int)<(l.length:Int):=(by omega);go_wp2_with fail;go_ret
    rw[WH.o];exact⟨rfl,HB.o⟩
 ·have dC:(((l.length:Nat):Int) != (m.length:Int))=true:=by
   have:(l.length:Int)≠(m.length:Int):=by omega
   simpa using this
  have WH:jgt (decide (l=m)=false):=ae (jeM (λe=>bH (by rw[e])));clear bH;go_enter func36,ntmps36
  go_wp2_with fail;go_ret
  rw[WH.o];exact⟨rfl,jez _ _⟩
def BL(k:Nat)(w:World):Calls prog 164 #[.int .u8 (k:Int)] w λe w'=>e=.returned (.bool (kW k))/\w'=w:=by
 by_cases h1:((k:Int)==1)=true
 ·have hk:k=1:=by have:(k:Int)=1:=(by simpa using h1);omega
  subst hk;go_enter func164,ntmps164
  go_wp2;go_ret
  exact⟨rfl,rfl⟩
 ·by_cases h2:((k:Int)==2)=true
  ·have hk:k=2:=by have:(k:Int)=2:=(by simpa using h2);omega
   subst hk;go_enter func164,ntmps164
   go_wp2;go_ret
   exact⟨rfl,rfl⟩
  ·by_cases h3:((k:Int)==3)=true
   ·have hk:k=3:=by have:(k:Int)=3:=(by simpa using h3);omega
    subst hk;go_enter func164,ntmps164
    go_wp2;go_ret
    exact⟨rfl,rfl⟩
   ·have h1':((k:Int)==1)=false:=by simpa using h1
    have h2':((k:Int)==2)=false:=by simpa using h2
    have h3':((k:Int)==3)=false:=by simpa using h3
    have HN:jgt (kW k=false):=ae (by
     have a1:(k:Int)≠1:=by simpa using h1
     have a2:(k:Int)≠2:=by simpa using h2
     have a3:(k:Int)≠3:=by simpa using h3
     exact jeM (by omega))
    rw[HN.o];clear h1 h2 h3;go_enter func164,ntmps164
    go_wp2;go_ret
    exact⟨rfl,rfl⟩
def Jr{w:World}{v:Value}{l:List Fd}(hs:Sf w v l):Calls prog 162 #[v] w λe w'=>e=.returned (.int .u32 (eB l:Int))/\w'=w:=by
 obtain⟨a,cap,rfl,bg,bx⟩:=hs.form;by_cases hl:l.length=0
 ·have h0:((l.length:Int)==0)=true:=by simp[hl]
  have HN:jgt (eB l=0):=ae (by rw[jeW hl];rfl);clear hs hl;go_enter func162,ntmps162
  go_wp2;go_ret
  rw[HN.o];exact⟨rfl,rfl⟩
 ·obtain⟨b,off,rfl,hb,c0,c1,c2,c3⟩:=hs.at (k:=l.length-1) (by omega)
  have HN:=ae (Na (l:=l) (by omega));have h0:((l.length:Int)==0)=false:=by simp[hl]
  obtain⟨m,hm⟩:∃ m,l.length=m+1:=⟨l.length-1,by omega⟩;have hq:((l.length:Int)-1)=(m:Int):=by omega
  have e1:l.length-1=m:=by omega
  generalize hx:(l[l.length-1]'(by omega)).1=x at *;rw[e1]at c0;clear hs hx c1 c2 c3 e1 hl;go_enter func162,ntmps162
  go_wp2;go_ret
  rw[HN.o];exact⟨rfl,rfl⟩
def TL{w:World}{B:Nat}{v:Value}{u:List (Nat×Nat)}(h:w.ownsRow B 3 1 v u.length (sgn u u.length)):∃ a cap,v=.slice a u.length cap/\u.length<=cap/\cap<=maxLen/\∀ k (hk:k<u.length),∃ g,a=some ⟨g,0,none⟩/\w.cell? ⟨g,k,none⟩=some (.int .i64 (u[k].1:Int)):=by
 obtain⟨a,cap,rfl,h1,h2⟩:=aZ h;refine⟨a,cap,rfl,h1,h2,λk hk=>?_⟩;obtain⟨g,cap',e,_,_,hc⟩:=(zy h).2 (by omega);simp only[Value.slice.injEq]at e;exact⟨g,e.1,hc k _ (LU hk)⟩
def YI{u:List (Nat×Nat)}{k:Nat}(hk:k<u.length):di k (u.drop k)=(kV k u[k].1 && di (k+1) (u.drop (k+1))):=by
 rw[je8 hk,oZ]
def Et{k c:Nat}(h:97<=c/\c<=122∨c=95∨127<c):kV k c=true:=by
 unfold kV gm;simp
 omega
def Js{k c:Nat}(h1:48<=c)(h2:c<=57)(hk:0<k):kV k c=true:=by
 unfold kV dU;simp[hk]
 omega
def TM{c:Nat}(h:¬ (97<=c/\c<=122∨c=95∨127<c)):kV 0 c=false:=by
 unfold kV gm;simp
 omega
def Ph{k c:Nat}(h:¬ (97<=c/\c<=122∨c=95∨127<c))(h2:¬ (48<=c/\c<=57)):kV k c=false:=by
 unfold kV gm dU;simp
 omega
def Pi(s:ByteArray)(w:World):Calls prog 49 #[.string s] w λe w'=>e=.returned (.bool (named s))/\jgu w w':=by
 by_cases h1:(s.size:Int)<1
 ·have HN:jgt (named s=false):=ae (by unfold named;rw[jeM (by omega)];rfl)
  go_enter func49,ntmps49
  go_wp2_with fail;go_ret
  rw[HN.o];exact⟨rfl,jez _ _⟩
 ·by_cases h2:(s.size:Int) > 16
  ·have HN:jgt (named s=false):=ae (by unfold named;rw[jeM (by omega)];rfl)
   go_enter func49,ntmps49
   go_wp2_with fail;go_ret
   rw[HN.o];exact⟨rfl,jez _ _⟩
  ·have HN:jgt (named s=(cX (lb s) && di 0 (V (lb s)))):=ae (by unfold named;rw[jeP (by omega)];rfl)
   have HC:=ae (iL s (by omega));have hV:=sM (lb s);have hL:=bK s;have hV16:(V (lb s)).length<=16:=(by omega);clear hV hL;generalize cX (lb s)=cl at *;generalize V (lb s)=u at *;go_enter func49,ntmps49
   go_wp2_with fail;refine(HC.o _).mono ?_;rintro e w1 ⟨⟨va,vb,rfl,dM,eA⟩,az⟩;obtain⟨a,cap,rfl,bg,bx,bC⟩:=TL dM;have HCE:=ae bC;have aL:=ae az;have hcm':cap<=9223372036854775807:=by unfold maxLen at bx;omega
   clear dM eA az bC bx HC;go_wp2_with fail;go_loopw [6] (λi w'=>∃ k:Nat,w'=w1/\i=.int .i64 (k:Int)/\k<=u.length/\di 0 u=di k (u.drop k)) (λi _=>u.length-(intOf i).toNat)
   case atStart=>exact⟨0,rfl,rfl,by omega,rfl⟩
   case round =>
    obtain⟨k,rfl,rfl,hk,ef⟩:=hrel;have HG:=ae ef;clear ef;by_cases ar:k<u.length
    ·obtain⟨g,rfl,hc⟩:=HCE.o k ar
     have HS:=ae (HG.o.trans (YI ar));generalize u[k].1=c at *;by_cases hA:97<=c/\c<=122∨c=95∨127<c
     ·have HK:=ae (Et (k:=k) hA)
      have hd:(48<=(c:Int)/\(c:Int)<=57)∨(c:Int)<48∨¬ (c:Int)<=57:=(by omega);rcases hA with ⟨q1,q2⟩ | q1 | q1
      ·have t1:(c:Int)>=97:=by omega
       have t2:(c:Int)<=122:=(by omega);have t3:(c:Int)>=48:=(by omega);have t4:¬ (c:Int)<=57:=(by omega);clear hd;go_wp2_with fail;go_roundw
       case rel=>exact⟨k+1,trivial,by go_num,by omega,by rw[HS.o,HK.o];rfl⟩
       case measure=>simp[intOf];omega
      ·have t0:((c:Int)==95)=true:=by simp;omega
       subst q1;clear hd;go_wp2_with fail;go_roundw
       case rel=>exact⟨k+1,trivial,by go_num,by omega,by rw[HS.o,HK.o];rfl⟩
       case measure=>simp[intOf];omega
      ·have t0:((c:Int)==95)=false:=by simp;omega
       have t1:(c:Int)>=97:=(by omega);have t2:¬ (c:Int)<=122:=(by omega);have t3:(c:Int)>=48:=(by omega);have t4:¬ (c:Int)<=57:=(by omega);have t5:(c:Int) > 127:=(by omega);clear hd;go_wp2_with fail;go_roundw
       case rel=>exact⟨k+1,trivial,by go_num,by omega,by rw[HS.o,HK.o];rfl⟩
       case measure=>simp[intOf];omega
     ·have t0:((c:Int)==95)=false:=by simp;omega
      have t5:¬ (c:Int) > 127:=(by omega);by_cases hD:48<=c/\c<=57
      ·have t1:¬ (c:Int)>=97:=by omega
       have t3:(c:Int)>=48:=(by omega);have t4:(c:Int)<=57:=(by omega);by_cases vL:k=0
       ·subst vL
        have HK:=ae (TM hA);clear hA hD;go_wp2_with fail;go_ret
        refine⟨?_,aL.o⟩;rw[HN.o,HS.o,HK.o];simp
       ·have HK:=ae (Js (k:=k) hD.1 hD.2 (by omega))
        have hkp:(k:Int) > 0:=(by omega);have hkp2:0<k:=(by omega);clear hA hD vL;go_wp2_with fail;go_roundw
        case rel=>exact⟨k+1,trivial,by go_num,by omega,by rw[HS.o,HK.o];rfl⟩
        case measure=>simp[intOf];omega
      ·have HK:=ae (Ph (k:=k) hA hD)
       have Xw:(c:Int)<48∨(57<(c:Int)/\(c:Int)<97)∨(122<(c:Int)):=(by omega);clear hA hD;rcases Xw with q | ⟨q,q'⟩ | q
       ·have t1:¬ (c:Int)>=97:=by omega
        have t3:¬ (c:Int)>=48:=(by omega);go_wp2_with fail;go_ret
        refine⟨?_,aL.o⟩;rw[HN.o,HS.o,HK.o];simp
       ·have t1:¬ (c:Int)>=97:=by omega
        have t3:(c:Int)>=48:=(by omega);have t4:¬ (c:Int)<=57:=(by omega);go_wp2_with fail;go_ret
        refine⟨?_,aL.o⟩;rw[HN.o,HS.o,HK.o];simp
       ·have t1:(c:Int)>=97:=by omega
        have t2:¬ (c:Int)<=122:=(by omega);have t3:(c:Int)>=48:=(by omega);have t4:¬ (c:Int)<=57:=(by omega);go_wp2_with fail;go_ret
        refine⟨?_,aL.o⟩;rw[HN.o,HS.o,HK.o];simp
    ·obtain rfl:k=u.length:=by omega
     have ed:¬ ((u.length:Nat):Int)<(u.length:Int):=(by omega);go_wp2_with fail;go_ret
     refine⟨?_,aL.o⟩;rw[HN.o,HG.o,jfg];simp[di]
def YJ{w:World}{v:Value}{l:List Fd}(hs:Sf w v l)(n:ByteArray):Calls prog 50 #[v,.string n] w λe w'=>e=.returned (.bool (oO l n))/\w'=w:=by
 have HS:=ae hs;obtain⟨a,cap,rfl,bg,bx⟩:=hs.form;clear hs;go_enter func50,ntmps50
 go_wp2_with fail;go_loopw [5] (λi w'=>∃ k:Nat,w'=w/\i=.int .i64 (k:Int)/\k<=l.length/\oO l n=oO (l.drop k) n) (λi _=>l.length-(intOf i).toNat)
 case atStart=>exact⟨0,rfl,rfl,by omega,rfl⟩
 case round =>
  obtain⟨k,rfl,rfl,hk,ef⟩:=hrel;have HG:=ae ef;clear ef;by_cases ar:k<l.length
  ·obtain⟨b,off,rfl,hb,c0,c1,c2,c3⟩:=HS.o.at ar
   have HT:=ae (HG.o.trans (zu (n:=n) ar));have hlt':(k:Int)<(l.length:Int):=(by omega);generalize l[k].2.1=m at *;have hse:=BK m n;clear c0 c2 c3;by_cases RK:m=n
   ·subst RK
    have hse':(m.toList==m.toList)=true:=by rw[BK];simp
    clear hse;go_wp2_with fail;go_ret
    refine⟨?_,rfl⟩;rw[HT.o];simp
   ·have hse':(m.toList==n.toList)=false:=by rw[BK,jeM RK]
    have HM:=ae (jeM RK);clear hse RK;go_wp2_with fail;go_roundw
    case rel=>exact⟨k+1,trivial,by go_num,by omega,by rw[HT.o,HM.o];rfl⟩
    case measure=>simp[intOf];omega
  ·obtain rfl:k=l.length:=by omega
   have ed:¬ ((l.length:Nat):Int)<(l.length:Int):=(by omega);go_wp2_with fail;go_ret
   refine⟨?_,rfl⟩;rw[HG.o,jfg];rfl
def TN{w:World}(f:Fd)(n:ByteArray){B:Nat}(hB:B<w.heap.size)(hc:w.cell? ⟨B,0,none⟩=some (.string n)) :
  Calls prog 199 #[pN f,.pointer (some ⟨B,0,none⟩)] w λe w'=>e=.returned (.bool (decide (f.2.1=n)))/\jgu w w':=by
 unfold pN;have HE:=ae (BK f.2.1 n);generalize f.2.1=m at *;generalize f.1=x0 at *;generalize f.2.2.1=x2 at *;generalize f.2.2.2=x3 at *;go_enter func199,ntmps199
 go_wp2_with fail;go_ret
 refine⟨?_,(jez _ _).alloc (jeA _) _⟩;rw[<- HE.o];rfl
def Pj{w:World}{v:Value}{l:List Fd}(hs:Sf w v l)(n:ByteArray){B:Nat}(hB:B<w.heap.size)(hc:w.cell? ⟨B,0,none⟩=some (.string n)) :
  Calls prog 225 #[v,.func (.func 199) #[] #[.pointer (some ⟨B,0,none⟩)]] w λe w'=>(∃ z:Int,e=.returned (.int .i64 z)/\decide (z>=0)=oO l n)/\jgu w w':=by
 have HS:=ae hs;have HC:=ae hc;obtain⟨a,cap,rfl,bg,bx⟩:=hs.form;clear hs hc;go_enter func225,ntmps225
 go_wp2_with fail;go_loopw [8] (λi w'=>∃ k:Nat,i=.int .i64 (k:Int)/\k<=l.length/\oO l n=oO (l.drop k) n/\jgu w w') (λi _=>l.length-(intOf i).toNat)
 case atStart=>exact⟨0,rfl,by omega,rfl,jez _ _⟩
 case round =>
  obtain⟨k,rfl,hk,ef,ao⟩:=hrel;have HG:=ae ef;have HB:=ae ao;have bF:=ao.size;clear ef ao;by_cases ar:k<l.length
  ·obtain⟨b,off,rfl,hb,c0,c1,c2,c3⟩:=(HS.o.kept HB.o).at ar
   have HT:=ae (HG.o.trans (zu (n:=n) ar));have hlt':(k:Int)<(l.length:Int):=(by omega);have jD:=ae (TN l[k] n (w:=wr) (B:=B) (by omega) ((HB.o.cell (p:=⟨B,0,none⟩) hB).trans HC.o));unfold pN at jD;generalize decide (l[k].2.1=n)=d at *;generalize l[k].1=x0 at *;generalize l[k].2.1=x1 at *;generalize l[k].2.2.1=x2 at *;generalize l[k].2.2.2=x3 at *;go_wp2_with fail;refine jD.o.mono ?_;rintro e w2 ⟨rfl,ap⟩;have aG:=ae (HB.o.trans (ap.mono bF));clear ap c0 c1 c2 c3;cases d
   ·go_wp2_with fail
    go_roundw
    case rel=>exact⟨k+1,by go_num,by omega,by rw[HT.o];rfl,aG.o⟩
    case measure=>simp[intOf];omega
   ·go_wp2_with fail
    go_ret
    refine⟨⟨_,rfl,?_⟩,aG.o⟩;rw[HT.o,Bool.true_or];simp
  ·obtain rfl:k=l.length:=by omega
   have ed:¬ ((l.length:Nat):Int)<(l.length:Int):=(by omega);go_wp2_with fail;go_ret
   refine⟨⟨_,rfl,?_⟩,HB.o⟩;rw[HG.o,jfg];rfl
def BM{w:World}{v:Value}{l:List Fd}(hs:Sf w v l)(n:ByteArray){B:Nat}(hB:B<w.heap.size)(hc:w.cell? ⟨B,0,none⟩=some (.string n)) :
  Calls prog 198 #[v,.func (.func 199) #[] #[.pointer (some ⟨B,0,none⟩)]] w λe w'=>e=.returned (.bool (oO l n))/\jgu w w':=by
 have HI:=ae (Pj hs n hB hc);clear hs hc;go_enter func198,ntmps198
 go_wp2_with fail;refine HI.o.mono ?_;rintro e w1 ⟨⟨z,rfl,hz⟩,az⟩;have HZ:=ae hz;have HB:=ae az;clear hz az;go_wp2_with fail;go_ret
 refine⟨?_,HB.o⟩;rw[<- HZ.o];rfl
def xf{w:World}{v:Value}{l:List Fd}(hs:Sf w v l)(n:ByteArray):Calls prog 163 #[v,.string n] w λe w'=>e=.returned (.bool (free l n))/\jgu w w':=by
 have hmf:∀(fn:Fn) (first cap:Array Value) (w:World),(Instr.makeFunc fn first cap).run prog w=.ok (.func fn first cap) w:=λ_ _ _ _=>rfl
 have HM:=ae (yD n);have HS:=ae (hs.kept (aj w (.cells #[.string n] 9)));have HF:jgt (free l n=(named n && !oO l n)):=ae rfl;have RM:=ae (aV w (.string n) 9);clear hs;go_enter func163,ntmps163
 go_wp2_with fail;refine(HM.o _).mono ?_;rintro e w1 ⟨rfl,az⟩;have iW:=ae (HS.o.kept az);have ME:=ae ((az.cell (p:=⟨w.heap.size,0,none⟩) (by show w.heap.size<_;rw[jeB];omega)).trans RM.o);have bW:=az.size;rw[jeB]at bW;have aL:=ae (ai (aj w (.cells #[.string n] 9)) az);clear az;cases hnm:named n with
 | false =>
  rw[hnm]at HF;clear hnm;go_wp2_with fail;go_ret
  rw[HF.o];exact⟨rfl,aL.o⟩
 | true =>
  rw[hnm]at HF;clear hnm;go_wp2_with fail;refine(BM iW.o n (B:=w.heap.size) (by omega) ME.o).mono ?_;rintro e w2 ⟨rfl,ap⟩;have aG:=ae (ai aL.o ap);clear ap;go_wp2_with fail;go_ret
  rw[HF.o];exact⟨rfl,aG.o⟩
def Jt{w:World}{v:Value}{l:List Fd}(hs:Sf w v l)(f:Fd):Calls prog 116 #[v,pN f] w λe w'=>e=.returned (.int .i64 (fS l f:Int))/\jgu w w':=by
 unfold pN;obtain⟨i,n,k,nd⟩:=f;simp only;have HM:jgt (fS l (i,n,k,nd)=if i<=eB l then 81 else if free l n=false then 80 else if kW k=false then 10 else if (nd != decide (l.length=0))=true∨(l.length=0/\k=2) then 82 else 0):=ae rfl;generalize fS l (i,n,k,nd)=R at *;have HS:=ae (hs.kept (aj w (.cells #[.int .u32 (i:Int),.string n,.int .u8 (k:Int),.bool nd] 81)));have ce:=ae (aj w (.cells #[.int .u32 (i:Int),.string n,.int .u8 (k:Int),.bool nd] 81));obtain⟨c0,c1,c2,c3⟩:=iM w (.int .u32 (i:Int)) (.string n) (.int .u8 (k:Int)) (.bool nd) 81;have C1:=ae c1;have C2:=ae c2;have C3:=ae c3;have hz:w.heap.size<(w.alloc (.cells #[.int .u32 (i:Int),.string n,.int .u8 (k:Int),.bool nd] 81)).heap.size:=by rw[jeB];omega
 clear c1 c2 c3;generalize hW:w.alloc (.cells #[.int .u32 (i:Int),.string n,.int .u8 (k:Int),.bool nd] 81)=W at *;have HL:=ae (λm=>Jr (xe HS.o m));have iy:=ae (λm=>xf (xe HS.o m) n);obtain⟨a,cap,rfl,bg,bx⟩:=hs.form;have HKK:=ae (BL k);obtain⟨ky,hky⟩:∃ ky,((l.length:Int)==0)=ky:=⟨_,rfl⟩
 have HD:jgt (decide (l.length=0)=ky):=ae (by
  rw[<- hky];by_cases h:l.length=0
  ·rw[jeP h];simp[h]
  ·rw[jeM h];simp[h])
 have HLB:jgt ((l.length=0)↔ky=true):=ae (by rw[<- hky];simp);rw[HD.o]at HM;clear hs bg bx;have za:=ae (show eB l=eB l from rfl);generalize eB l=la at *;have oT:((i:Int)<=(la:Int))↔i<=la:=by omega
 go_enter func116,ntmps116
 go_wp2_with fail;try rw[hW]
 clear hW;by_cases hi:i<=la
 ·have hi':(i:Int)<=(la:Int):=by omega
  rw[jey hi]at HM;clear oT hi;go_quiet ((go_at_call 162;exact Calls.quiet_of_same (HL.o _)))
  go_wp2_with fail;go_ret
  rw[HM.o];exact⟨rfl,ak ce.o _⟩
 ·have hi':¬ (i:Int)<=(la:Int):=by omega
  rw[jex hi]at HM;clear oT hi;go_quiet ((go_at_call 162;exact Calls.quiet_of_same (HL.o _)))
  have c1:=C1.o;go_wp2_with fail;refine(iy.o _).mono ?_;rintro e w1 ⟨rfl,az⟩;have hbW:=(ak (jez W.heap.size W) _).trans az;have aL:=ae (ai ce.o hbW);have c2:=(hbW.cell (p:=⟨w.heap.size,2,none⟩) hz).trans C2.o;have c3:=(hbW.cell (p:=⟨w.heap.size,3,none⟩) hz).trans C3.o;have C3':=ae c3;clear az hbW c0 c1;by_cases hf:free l n=false
  ·rw[jey hf]at HM
   rw[hf];clear hf c2 c3;go_wp2_with fail;go_ret
   rw[HM.o];exact⟨rfl,aL.o⟩
  ·rw[jex hf]at HM
   have hf':free l n=true:=by simpa using hf
   rw[hf'];clear hf hf' c3;go_wp2_with fail;refine(HKK.o _).mono ?_;rintro e w2 ⟨rfl,rfl⟩;by_cases hk:kW k=false
   ·rw[jey hk]at HM
    rw[hk];clear hk;go_wp2_with fail;go_ret
    rw[HM.o];exact⟨rfl,aL.o⟩
   ·rw[jex hk]at HM
    have hk':kW k=true:=by simpa using hk
    rw[hk'];clear hk hk';have c3:=C3'.o;cases nd
    ·cases ky
     ·have HR:jgt (R=0):=by
       show _=_
       rw[HM.o];exact jex (λh=>by rcases h with h | ⟨h,_⟩;(· cases h);(· have:=HLB.o.1 h;cases this))
      clear HM;go_wp2_with fail;go_ret
      rw[HR.o];exact⟨rfl,aL.o⟩
     ·have HR:jgt (R=82):=by show _=_;rw[HM.o];exact jey (Or.inl rfl)
      clear HM;go_wp2_with fail;go_ret
      rw[HR.o];exact⟨rfl,aL.o⟩
    ·cases ky
     ·have HR:jgt (R=82):=by show _=_;rw[HM.o];exact jey (Or.inl rfl)
      clear HM;go_wp2_with fail;go_ret
      rw[HR.o];exact⟨rfl,aL.o⟩
     ·by_cases h2:k=2
      ·have HR:jgt (R=82):=by show _=_;rw[HM.o];exact jey (Or.inr ⟨HLB.o.2 rfl,h2⟩)
       have h2':((k:Int)==2)=true:=by simp;omega
       clear HM h2;go_wp2_with fail;go_ret
       rw[HR.o];exact⟨rfl,aL.o⟩
      ·have HR:jgt (R=0):=by show _=_;rw[HM.o];exact jex (λh=>by rcases h with h | ⟨_,h⟩;(· cases h);(· exact h2 h))
       have h2':((k:Int)==2)=false:=by simp;omega
       clear HM h2;go_wp2_with fail;go_ret
       rw[HR.o];exact⟨rfl,aL.o⟩
def re{w:World}{ops:Array Oper}{rest:List Oper}{o:Oper}{a:Act}{Q:Exit->Act->World->Prop}(ef:o.guard=none)(s x:Operand)
  (ho:o.op=.call { callee:=.builtin .append,args:=#[s,x],argTypes:=#[30,9] })
  (base:Nat) (v:Value) (l0:List Nat) (z:ByteArray) (hs:a.eval s=v) (ax:aM w base v l0) (hx:a.eval x=.string z)
  (hbytes:l0.length+z.size<=140737488355328) (aF:base<=w.heap.size)
  (h:∀ v' w',aM w' base v' (l0++ei z)->Below base w w'->wpList prog ops Q rest (a.put o.dst v') w') :
  wpList prog ops Q (o::rest) a w:=by
 obtain⟨i0,hi,bR,hz1',aX⟩:=jeT nl;unfold aM at *;refine wpList_append_own_string (w:=w) ef s x 30 9 ho base 5 i0 underlying30 underlying9 hi bR hz1' aX v l0.length (aA .u8 l0) hs ax z hx (by unfold maxLen;omega) (by exact hbytes) aF ?_;intro v' w' o1 g1 _;refine h v' w' ?_ ((jez base w).grown g1 aF (λk hk=>(ax.lt k hk).1))
 have e:strCells z=aA .u8 (ei z):=by
  unfold strCells aA ei;rw[ByteArray.toList_eq];simp[jfa,Function.comp_def]
 rw[e]at o1;rw[ek,jeC,lG];exact o1
def TO(b:Bool)(w:World):Calls prog 166 #[.bool b] w λe w'=>e=.returned (.int .u64 ((iZ b:Nat):Int))/\w'=w:=by
 cases b
 all_goals
  go_enter func166,ntmps166
  go_wp2;go_ret
  exact⟨rfl,rfl⟩
def jJ(n:Nat)(h:n<18446744073709551616):(uv n).length<=10:=cG h
def yE(f:Fd)(hf:Okf f)(hs:f.2.1.size<5000)(w:World):Calls prog 120 #[pN f] w (ee w (jb f)):=by
 unfold pN;obtain⟨i,n,k,nd⟩:=f;have h1:i<4294967296:=hf.1;have h2:k<256:=hf.2;simp only at *;have HP:jgt (jb (i,n,k,nd)=uv i++uv n.size++ei n++uv k++uv (iZ nd)):=ae rfl;have eI:iZ nd<2:=by unfold iZ;split<;>omega
 have WI:=ae (de i (by omega));have HV2:=ae (de n.size (by omega));have HV3:=ae (de k (by omega));have HV4:=ae (de (iZ nd) (by omega));have ql:=ae (TO nd);have u1:=jJ i (by omega);have u2:=jJ n.size (by omega);have u3:=jJ k (by omega);have u4:=jJ (iZ nd) (by omega);have hnl:=lG n;have ce:=ae (aj w (.cells #[.int .u32 (i:Int),.string n,.int .u8 (k:Int),.bool nd] 81));have hz:w.heap.size<(w.alloc (.cells #[.int .u32 (i:Int),.string n,.int .u8 (k:Int),.bool nd] 81)).heap.size:=by rw[jeB];omega
 have HT:jgt (∀ U,Below (w.alloc (.cells #[.int .u32 (i:Int),.string n,.int .u8 (k:Int),.bool nd] 81)).heap.size (w.alloc (.cells #[.int .u32 (i:Int),.string n,.int .u8 (k:Int),.bool nd] 81)) U->U.cell? ⟨w.heap.size,0,none⟩=some (.int .u32 (i:Int))/\U.cell? ⟨w.heap.size,1,none⟩=some (.string n)/\U.cell? ⟨w.heap.size,2,none⟩=some (.int .u8 (k:Int))/\U.cell? ⟨w.heap.size,3,none⟩=some (.bool nd)):=ae (λU h=>by
  obtain⟨c0,c1,c2,c3⟩:=iM w (.int .u32 (i:Int)) (.string n) (.int .u8 (k:Int)) (.bool nd) 81;exact⟨(h.cell (p:=⟨w.heap.size,0,none⟩) hz).trans c0,(h.cell (p:=⟨w.heap.size,1,none⟩) hz).trans c1,(h.cell (p:=⟨w.heap.size,2,none⟩) hz).trans c2,(h.cell (p:=⟨w.heap.size,3,none⟩) hz).trans c3⟩)
 generalize hW:w.alloc (.cells #[.int .u32 (i:Int),.string n,.int .u8 (k:Int),.bool nd] 81)=W at *;obtain⟨c0,c1,c2,c3⟩:=HT.o W (jez _ _);clear hf;generalize uv i=p1 at *;generalize uv n.size=p2 at *;generalize uv k=p3 at *;generalize uv (iZ nd)=p4 at *;generalize iZ nd=fl at *;go_enter func120,ntmps120
 go_wp2_with fail;try rw[hW]
 clear hW;refine(WI.o _).mono ?_;rintro e w1 ⟨⟨v1,rfl,o1⟩,az⟩;have fX:=ae o1;have WJ:=ae az;clear o1 az c0 c1 c2 c3;obtain⟨c0,c1,c2,c3⟩:=HT.o _ WJ.o;go_wp2_with fail;refine(HV2.o _).mono ?_;rintro e w2 ⟨⟨v2,rfl,o2⟩,ap⟩;have HO1k:=ae (fX.o.kept ap);have eb:=ae o2.sv;have GN:=ae (ai WJ.o ap);clear o2 ap c0 c1 c2 c3;obtain⟨c0,c1,c2,c3⟩:=HT.o _ GN.o;go_wp2_with (first | (at_builtin;refine aC rfl _ _ rfl W.heap.size _ _ p1 p2 rfl HO1k.o rfl eb.o ?d1 ?d2 ?_))
 case d1=>omega
 case d2=>exact GN.o.size
 intro v3 w3 o3 aJ;have dL:jgt (aM w3 W.heap.size v3 (p1++p2)):=ae (by simpa using o3);have HX3:=ae (GN.o.trans aJ);clear o3 aJ c0 c1 c2 c3;obtain⟨c0,c1,c2,c3⟩:=HT.o _ HX3.o;go_wp2_with (first | (at_builtin;refine re rfl _ _ rfl W.heap.size _ (p1++p2) n rfl dL.o rfl ?d3 ?d4 ?_))
 case d3=>first | (simp only[jeC];omega) | (simp;omega) | omega
 case d4=>exact HX3.o.size
 intro v4 w4 o4 bD;have gT:jgt (aM w4 W.heap.size v4 (p1++p2++ei n)):=ae (by simpa using o4);have HX4:=ae (HX3.o.trans bD);clear o4 bD c0 c1 c2 c3;obtain⟨c0,c1,c2,c3⟩:=HT.o _ HX4.o;go_wp2_with fail;refine(HV3.o _).mono ?_;rintro e w5 ⟨⟨v5,rfl,o5⟩,bQ⟩;have HO4k:=ae (gT.o.kept bQ);have dK:=ae o5.sv;have HX5:=ae (ai HX4.o bQ);clear o5 bQ c0 c1 c2 c3;obtain⟨c0,c1,c2,c3⟩:=HT.o _ HX5.o;go_wp2_with (first | (at_builtin;refine aC rfl _ _ rfl W.heap.size _ _ (p1++p2++ei n) p3 rfl HO4k.o rfl dK.o ?d5 ?d6 ?_))
 case d5=>first | (simp only[jeC];omega) | (simp;omega) | omega
 case d6=>exact HX5.o.size
 intro v6 w6 o6 ct;have oJ:jgt (aM w6 W.heap.size v6 (p1++p2++ei n++p3)):=ae (by simpa using o6);have XA:=ae (HX5.o.trans ct);clear o6 ct c0 c1 c2 c3;obtain⟨c0,c1,c2,c3⟩:=HT.o _ XA.o;go_wp2_with fail;refine(ql.o _).mono ?_;rintro e w7 ⟨rfl,rfl⟩;go_wp2_with fail;refine(HV4.o _).mono ?_;rintro e w8 ⟨⟨v8,rfl,o8⟩,kO⟩;have HO6k:=ae (oJ.o.kept kO);have AL:=ae o8.sv;have HX8:=ae (ai XA.o kO);clear o8 kO c0 c1 c2 c3;go_wp2_with (first | (at_builtin;refine aC rfl _ _ rfl W.heap.size _ _ (p1++p2++ei n++p3) p4 rfl HO6k.o rfl AL.o ?d7 ?d8 ?_))
 case d7=>first | (simp only[jeC];omega) | (simp;omega) | omega
 case d8=>exact HX8.o.size
 intro v9 w9 o9 yr;have Db:jgt (aM w9 W.heap.size v9 (p1++p2++ei n++p3++p4)):=ae (by simpa using o9);have HX9:=ae (HX8.o.trans yr);clear o9 yr;go_wp2_with fail;go_ret
 rw[HP.o];exact⟨⟨_,rfl,bL Db.o ce.o.size⟩,ai ce.o HX9.o⟩
def yF{l:List Fd}(hz:szs l<5000){k:Nat}(hk:k<l.length):l[k].2.1.size<5000:=by
 have:=LH (jeD hk);omega
def il{l:List Fd}(ho:∀ f∈l,Okf f)(hl:l.length<=100)(hz:szs l<5000)(k:Nat):(jF (l.take k)).length<=10000:=by
 have h1:=Nh (l:=l.take k) (λf hf=>ho f (jfn hf)) (jgq (tX l k) hz);have h2:=tX l k;have h3:(l.take k).length<=100:=by rw[jeH];omega
 omega
def TP{w:World}{v:Value}{l:List Fd}(hs:Sf w v l)(ho:∀ f∈l,Okf f)(hl:l.length<=100)(hz:szs l<5000)(id:Nat)(pq:id<4294967296) :
  Calls prog 80 #[.agg #[.int .u32 (id:Int),v]] w (ee w (eY id l)):=by
 obtain⟨a,cap,rfl,bg,bx⟩:=hs.form;have mZ:=ae ho;have HP:jgt (eY id l=uv id++uv l.length++jF l):=ae rfl;have kS:=ae (il ho hl hz);have oM:=ae (λk=>yF (k:=k) hz);have WI:=ae (de id (by omega));have HV2:=ae (de l.length (by omega));have u1:=jJ id (by omega);have u2:=jJ l.length (by omega);have cy:=aj w (.cells #[.int .u32 (id:Int),.slice a l.length cap] 25);have sp:w.heap.size<(w.alloc (.cells #[.int .u32 (id:Int),.slice a l.length cap] 25)).heap.size:=by rw[jeB];omega
 have HT:jgt (∀ U,Below (w.alloc (.cells #[.int .u32 (id:Int),.slice a l.length cap] 25)).heap.size (w.alloc (.cells #[.int .u32 (id:Int),.slice a l.length cap] 25)) U->Sf U (.slice a l.length cap) l/\U.cell? ⟨w.heap.size,0,none⟩=some (.int .u32 (id:Int))/\U.cell? ⟨w.heap.size,1,none⟩=some (.slice a l.length cap)):=ae (λU h=>by
  obtain⟨c0,c1⟩:=aS w (.int .u32 (id:Int)) (.slice a l.length cap) 25;exact⟨(hs.kept cy).kept h,(h.cell (p:=⟨w.heap.size,0,none⟩) sp).trans c0,(h.cell (p:=⟨w.heap.size,1,none⟩) sp).trans c1⟩)
 have ce:=ae cy;clear hs cy ho;generalize hW:w.alloc (.cells #[.int .u32 (id:Int),.slice a l.length cap] 25)=W at *;obtain⟨_,c0,c1⟩:=HT.o W (jez _ _);generalize uv id=p1 at *;generalize uv l.length=p2 at *;go_enter func80,ntmps80
 go_wp2_with fail;try rw[hW]
 clear hW;refine(WI.o _).mono ?_;rintro e w1 ⟨⟨v1,rfl,o1⟩,az⟩;have fX:=ae o1;have WJ:=ae az;clear o1 az c0 c1;obtain⟨_,c0,c1⟩:=HT.o _ WJ.o;go_wp2_with fail;refine(HV2.o _).mono ?_;rintro e w2 ⟨⟨v2,rfl,o2⟩,ap⟩;have HO1k:=ae (fX.o.kept ap);have eb:=ae o2.sv;have GN:=ae (ai WJ.o ap);clear o2 ap c0 c1;go_wp2_with (first | (at_builtin;refine aC rfl _ _ rfl W.heap.size _ _ p1 p2 rfl HO1k.o rfl eb.o ?d1 ?d2 ?_))
 case d1=>omega
 case d2=>exact GN.o.size
 intro v3 w3 o3 aJ;have dL:=ae o3;have HX3:=ae (GN.o.trans aJ);clear o3 aJ;obtain⟨_,c0,c1⟩:=HT.o _ HX3.o;go_wp2_with fail;clear c0 c1;go_loopw [3,20] (λb i wr=>∃ k:Nat,k<=l.length/\i=.int .i64 (k:Int)/\aM wr W.heap.size b (p1++p2++jF (l.take k))/\jgu W wr) (λ_ i _=>l.length-(intOf i).toNat)
 case atStart=>exact⟨0,by omega,rfl,by simpa [jF]using dL.o,HX3.o⟩
 case round =>
  obtain⟨k,hk,rfl,ax,ao⟩:=hrel;have HO:=ae ax;have HB:=ae ao;have bF:=ao.size;clear ax ao;by_cases ar:k<l.length
  ·obtain⟨b,off,rfl,hb,x0,x1,x2,x3⟩:=(HT.o _ HB.o).1.at ar
   have hlt':(k:Int)<(l.length:Int):=(by omega);have cF:=ae (pC ar);have HPF:=ae (yE l[k] (mZ.o _ (jeD ar)) (oM.o k ar));have hplen:=kS.o k
   have hpf:(jb l[k]).length<=5100:=by
    have h1:=zD (mZ.o _ (jeD ar)) (by have:=oM.o k ar;omega);have h2:=oM.o k ar;omega
   generalize jb l[k]=PF at *;generalize jF (l.take k)=PL at *;generalize l[k]=f at *;obtain⟨f0,f1,f2,f3⟩:=f;unfold pN at HPF;simp only at *;have XB:=ae (aj wr (.cells #[.int .u32 (f0:Int),.string f1,.int .u8 (f2:Int),.bool f3] 81));go_wp2_with fail;refine(HPF.o _).mono ?_;rintro e w5 ⟨⟨v5,rfl,o5⟩,bQ⟩;have hbT:=ai XB.o bQ;have dK:=ae (HO.o.kept hbT);have oJ:=ae o5.sv;have HX5:=ae (ai HB.o hbT);clear o5 bQ hbT x0 x1 x2 x3;go_wp2_with (first | (at_builtin;refine aC rfl _ _ rfl W.heap.size _ _ (p1++p2++PL) PF rfl dK.o rfl oJ.o ?d3 ?d4 ?_))
   case d3=>first | (simp only[jeC];omega) | (simp;omega) | omega
   case d4=>exact HX5.o.size
   intro v7 w7 o7 gJ;have oV:jgt (aM w7 W.heap.size v7 (p1++p2++PL++PF)):=ae (by simpa using o7);have HX7:=ae (HX5.o.trans gJ);clear o7 gJ;go_wp2_with fail;go_roundw
   case rel=>exact⟨k+1,by omega,by go_num,by rw[cF.o,<- jeQ];exact oV.o,HX7.o⟩
   case measure=>simp[intOf];omega
  ·obtain rfl:k=l.length:=by omega
   have ed:¬ ((l.length:Nat):Int)<(l.length:Int):=(by omega);rw[jeJ]at HO;go_wp2_with fail;go_ret
   rw[HP.o];exact⟨⟨_,rfl,bL HO.o ce.o.size⟩,ai ce.o HB.o⟩
end Go.Proofs.YtpljdjmpamjkhaaGreatDoor
