import Derived.Test.YtpljdjmpamjkhaaGreatDoorSab
set_option linter.all false
set_option maxRecDepth 100000
set_option maxHeartbeats 2000000
namespace Go.Proofs.YtpljdjmpamjkhaaGreatDoor
open Tryz
open Go.RowKit Go.Lib
def Hy{a b:ByteArray}(h:lb a=lb b):a=b:=by
 cases a;cases b
 simp[lb]at h
 subst h;rfl
def gD(s:ByteArray)(a e:Nat):lb (s.extract a e)=((lb s).drop a).take (e-a):=by
 simp[lb,ByteArray.data_extract,Array.toList_extract,List.extract_eq_take_drop]
def ke(s:ByteArray)(p:Nat):Utf8.decode s p=aK ((lb s).drop p):=Dp s p
def mv{k:IntKind}{a b:Int}(h:a=b):Ending.returned (.int k a)=.returned (.int k b):=by rw[h]
def da{a b:Bool}(h:a=b):Ending.returned (.bool a)=.returned (.bool b):=by rw[h]
def zK(s:ByteArray):s.toList=lb s:=ByteArray.toList_eq s
def DQ(b a:List UInt8):(a.take b.length==b)=b.isPrefixOf a:=by
 rw[jfK];simp only[beq_iff_eq,jfP];constructor
 ·intro h;rw[<- h];exact List.take_prefix _ _
 ·rintro⟨t,rfl⟩;simp
def wS(a b:ByteArray)(w:World):Calls prog 215 #[.string a,.string b] w λe w'=>e=.returned (.bool ((lb b).isPrefixOf (lb a)))/\w'=w:=by
 have ha:=bK a;have hb:=bK b;by_cases h:(a.size:Int)>=b.size
 ·go_enter func215,ntmps215
  go_wp2;go_ret
  refine⟨da ?_,rfl⟩;rw[zK,zK,gD,<- DQ];simp[hb]
 ·go_enter func215,ntmps215
  go_wp2;go_ret
  refine⟨da ?_,rfl⟩;cases hp:(lb b).isPrefixOf (lb a)with
  | false=>rfl
  | true =>
   obtain⟨y,hy⟩:=jfP.1 hp;have:=jeG List.length hy;simp at this
   omega
def yy(a b:ByteArray)(w:World):Calls prog 183 #[.string a,.string b] w λe w'=>e=.returned (.bool ((lb b).isPrefixOf (lb a)))/\w'=w:=by
 go_enter func183,ntmps183
 go_wp2_with fail;refine(wS _ _ _).mono ?_;rintro e w1 ⟨rfl,rfl⟩;go_wp2_with fail;go_ret
 exact⟨rfl,rfl⟩
def dG(w:World)(s:ByteArray)(p:Nat):jgu w (w.iter s p):=(jez _ _).alloc (jeA _) _
def yz{l:List UInt8}{p k:Nat}(h:At l p k)(hp:p<l.length)(ha:((V l).take k).all ok=true):((V l).take (k+1)).all ok=ok (aK (l.drop p)):=by
 rw[wi h hp,List.all_append,ha];simp
def DR{u:List (Nat×Nat)}{k:Nat}(h:(u.take k).all ok=false):u.all ok=false:=by
 cases hu:u.all ok with
 | false=>rfl
 | true =>
  rw[List.all_eq_true]at hu;rw[List.all_eq_false]at h;obtain⟨x,hx,Xv⟩:=h;exact absurd (hu x (jfn hx)) Xv
def sY(s:ByteArray)(hs:s.size<=100000)(w:World) :
  Calls prog 146 #[.string s] w λe w'=>e=.returned (.bool (cX (lb s)))/\jgu w w':=by
 have hL:=bK s;go_enter func146,ntmps146
 go_wp2;go_loopw [3] (λi w'=>∃ p k:Nat,w'=w.iter s p/\At (lb s) p k/\((V (lb s)).take k).all ok=true) (λ_ w'=>s.size-w'.iterPos w.heap.size)
 case atStart=>exact⟨0,0,rfl,At.zero _,rfl⟩
 case round =>
  obtain⟨p,k,rfl,lD,ch⟩:=hrel;by_cases hp:p<s.size
  ·have yo:∀ ty,(Instr.next (.pointer (some ⟨w.heap.size,0,none⟩)) true ty).run prog (w.iter s p)=_:=λty=>run_next_any w s p ty hp
   rw[ke]at yo;have hw:=cC _ (gX (l:=lb s) (p:=p) (by omega));have hn:=lD.next (by omega)
   have rZ:=yz lD (by omega) ch;have gx:=AX (l:=(lb s).drop p) (gX (by omega));clear lD ch;generalize (aK ((lb s).drop p))=u at *;obtain⟨c,wd⟩:=u;simp only at *;by_cases hc:c=65533
   ·subst hc
    have dr:=gx rfl;clear gx;go_wp2_with fail;refine(yy _ _ _).mono ?_;rintro e w1 ⟨rfl,rfl⟩
    have cV:(lb { data:=#[239,191,189] }).isPrefixOf (lb (s.extract p s.size))=ok (65533,wd):=by
     rw[<- dr,gD,jfi (by simp;omega)];rfl
    rw[cV];clear dr cV;cases ho:ok (65533,wd)with
    | true =>
     go_wp2_with fail;go_roundw
     case rel=>exact⟨_,k+1,rfl,hn,by rw[rZ,ho]⟩
     case measure=>simp;omega
    | false =>
     go_wp2_with fail;go_ret
     exact⟨da (by rw[cX,DR (k:=k+1)];rw[rZ,ho]),dG _ _ _⟩
   ·have RC:((c:Int)==65533)=false:=by simp;omega
    have ho:ok (c,wd)=true:=by simp[ok,hc]
    clear gx;go_wp2_with fail;go_roundw
    case rel=>exact⟨_,k+1,rfl,hn,by rw[rZ,ho]⟩
    case measure=>simp;omega
  ·have yo:∀ ty,(Instr.next (.pointer (some ⟨w.heap.size,0,none⟩)) true ty).run prog (w.iter s p)=_:=λty=>run_next_end w s p ty hp
   have HE:jgt (k=(V (lb s)).length/\p=(lb s).length):=lD.end (by omega);clear lD;go_wp2_with fail;go_ret
   refine⟨da ?_,dG _ _ _⟩;rw[HE.o.1,jeJ]at ch;exact ch.symm
def B(s:ByteArray)(k:Nat):Nat:=((lb s).getD k 0).toNat
def nt(s:ByteArray)(k:Nat):B s k<256:=UInt8.toNat_lt _
def ue(s:ByteArray)(k:Nat)(h:k<s.size):(s[k]'h).toNat=B s k:=by
 unfold B;have h2:k<(lb s).length:=h;rw[List.getD_eq_getElem?_getD,List.getElem?_eq_getElem h2];rfl
def ij(s:ByteArray):aK (lb s)=Lib.decodeN s.size (B s 0) (B s 1) (B s 2) (B s 3):=rfl
def jk(s:ByteArray)(k:Nat):wrap64 (B s k:Int)=B s k:=by
 have:=nt s k;unfold wrap64;omega
def acc(s:ByteArray)(a:Int):Nat->Int
 | 0=>a
 | k+1=>if k=0 then a else acc s a k*64+B s k-128
def cE{s:ByteArray}{c wd:Nat}{o:Bool}(h:aK (lb s)=(c,wd))(ho:ok (c,wd)=o):Ending.returned (.tuple #[.int .i64 (c:Int),.int .i64 (wd:Int),.bool o])=Ending.returned (.tuple #[.int .i64 ((aK (lb s)).1:Int),.int .i64 ((aK (lb s)).2:Int),.bool (ok (aK (lb s)))]):=by
 rw[h,ho]
def lO{s:ByteArray}{x:Int}{wd:Nat}{o:Bool}(h:aK (lb s)=(x.toNat,wd))(hx:x=(x.toNat:Int))(ho:ok (x.toNat,wd)=o):Ending.returned (.tuple #[.int .i64 x,.int .i64 wd,.bool o])=Ending.returned (.tuple #[.int .i64 ((aK (lb s)).1:Int),.int .i64 ((aK (lb s)).2:Int),.bool (ok (aK (lb s)))]):=by
 rw[h,ho];show _=Ending.returned (.tuple #[.int .i64 (x.toNat:Int),.int .i64 wd,.bool o])
 rw[<- hx]
def SS(s:ByteArray)(h0:0<s.size)(hb:B s 0<128)(w:World) :
  Calls prog 108 #[.string s] w λe w'=>e=Ending.returned (.tuple #[.int .i64 ((aK (lb s)).1:Int),.int .i64 ((aK (lb s)).2:Int),.bool (ok (aK (lb s)))])/\w'=w:=by
 have hu:aK (lb s)=(B s 0,1):=by rw[ij];simp only[Lib.decodeN];rw[jey hb]
 have hg:=ue s 0 h0;have hw:=jk s 0;have HU:jgt (aK (lb s)=(B s 0,1)):=hu;clear hu;generalize B s 0=b at *;have h1:(b:Int)<128:=by omega
 go_enter func108,ntmps108
 go_wp2_with fail;go_ret3
 refine⟨?_,rfl⟩;exact cE HU.o (by simp[ok];omega)
def zL(s:ByteArray)(h0:0<s.size)(hb:128<=B s 0)(ap:B s 0<194∨245<=B s 0)(w:World) :
  Calls prog 108 #[.string s] w λe w'=>e=Ending.returned (.tuple #[.int .i64 ((aK (lb s)).1:Int),.int .i64 ((aK (lb s)).2:Int),.bool (ok (aK (lb s)))])/\w'=w:=by
 have hu:aK (lb s)=(65533,1):=by
  have:=nt s 0;have:=nt s 1;have:=nt s 2;have:=nt s 3;rw[ij];simp only[Lib.decodeN];rw[jex (by omega)];split
  ·rw[jex (by omega)]
  ·rw[jex (by omega)]
   split
   ·rw[jex (by omega)]
   ·rfl
 have hg:=ue s 0 h0;have hw:=jk s 0;have HU:jgt (aK (lb s)=(65533,1)):=hu;clear hu;generalize B s 0=b at *;have h1:¬ (b:Int)<128:=by omega
 rcases ap with ap | ap
 ·have h2:¬ (b:Int)>=194:=by omega
  have h3:¬ (b:Int)>=224:=by omega
  have h4:¬ (b:Int)>=240:=by omega
  go_enter func108,ntmps108
  go_wp2_with fail;go_ret3
  exact⟨cE HU.o rfl,rfl⟩
 ·have h2:(b:Int)>=194:=by omega
  have h3:(b:Int)>=224:=by omega
  have h4:(b:Int)>=240:=by omega
  have h5:¬ (b:Int)<224:=by omega
  have h6:¬ (b:Int)<240:=by omega
  have h7:¬ (b:Int)<245:=by omega
  go_enter func108,ntmps108
  go_wp2_with fail;go_ret3
  exact⟨cE HU.o rfl,rfl⟩
def DS(s:ByteArray)(hb:194<=B s 0)(ap:B s 0<224)(hs:s.size<2):aK (lb s)=(65533,1):=by
 rw[ij];simp only[Lib.decodeN];rw[jex (by omega),jex (by omega),jex (by omega),jex (by omega)]
def NB(s:ByteArray)(hb:194<=B s 0)(ap:B s 0<224)(j:Nat)(h1:1<=j)(h2:j<2)(hj:B s j<128∨192<=B s j):aK (lb s)=(65533,1):=by
 have:=nt s 1;have:=nt s 2;have:=nt s 3
 have hc:(B s 1<128∨192<=B s 1):=by
  obtain rfl:j=1:=by omega
  exact hj
 rw[ij];simp only[Lib.decodeN];rw[jex (by omega),jex (by omega),jex (by omega),jex (by omega)]
def NC(s:ByteArray)(hb:194<=B s 0)(ap:B s 0<224)(hj:∀ j,1<=j->j<2->128<=B s j/\B s j<192)(x:Int)(hx:x=acc s (B s 0-192) 2)
  (ho:x<128∨x > 1114111∨(x>=55296/\x<57344)):aK (lb s)=(65533,1):=by
 have:=hj 1 (by omega) (by omega);simp[acc]at hx
 rw[ij];simp only[Lib.decodeN];rw[jex (by omega)];split
 ·rw[jex (by omega)]
 ·split
  ·rw[jex (by omega)]
  ·split
   ·rw[jex (by omega)]
   ·rfl
def SU(s:ByteArray)(hb:194<=B s 0)(ap:B s 0<224)(hs:2<=s.size)(hj:∀ j,1<=j->j<2->128<=B s j/\B s j<192)(x:Int)(hx:x=acc s (B s 0-192) 2)
  (h1:¬ x<128) (h2:¬ x > 1114111) (h3:¬ (x>=55296/\x<57344)):aK (lb s)=(x.toNat,2):=by
 have:=hj 1 (by omega) (by omega);simp[acc]at hx
 rw[ij];simp only[Lib.decodeN];rw[jex (by omega)];split
 ·first | (exfalso;omega) | (rw[jey (by omega)];congr 1;omega)
 ·split
  ·first | (exfalso;omega) | (rw[jey (by omega)];congr 1;omega)
  ·first | (exfalso;omega) | (rw[jey (by omega),jey (by omega)];congr 1;omega)
def Yo(s:ByteArray)(hb:194<=B s 0)(ap:B s 0<224)(k:Nat)(h1:1<=k)(h2:k<=2)(hj:∀ j,1<=j->j<k->128<=B s j/\B s j<192):0<=acc s (B s 0-192) k/\acc s (B s 0-192) k<=33554432:=by
 obtain rfl | rfl | rfl | rfl:k=1∨k=2∨k=3∨k=4:=by omega
 ·simp[acc];omega
 ·have:=hj 1 (by omega) (by omega)
  simp[acc];omega
 ·have:=hj 1 (by omega) (by omega)
  have:=hj 2 (by omega) (by omega);simp[acc];omega
 ·have:=hj 1 (by omega) (by omega)
  have:=hj 2 (by omega) (by omega);have:=hj 3 (by omega) (by omega);simp[acc];omega
def jbZ(s:ByteArray)(h0:0<s.size)(hs:s.size<=100000)(hb:194<=B s 0)(ap:B s 0<224)(w:World) :
  Calls prog 108 #[.string s] w λe w'=>e=Ending.returned (.tuple #[.int .i64 ((aK (lb s)).1:Int),.int .i64 ((aK (lb s)).2:Int),.bool (ok (aK (lb s)))])/\w'=w:=by
 have HS:jgt (∀ h:s.size<2,aK (lb s)=(65533,1)):=λh=>DS s hb ap h
 have HBad:jgt (∀(j:Nat) (h1:1<=j) (h2:j<2) (hj:B s j<128∨192<=B s j),aK (lb s)=(65533,1)):=NB s hb ap;have HOut:jgt _:=NC s hb ap;have HIn:jgt _:=SU s hb ap;have HA:jgt _:=Yo s hb ap;have hg:=ue s 0 h0;have hw:=jk s 0;have ha1:((B s 0:Int)-192)=acc s (B s 0-192) 1:=rfl;generalize hA:acc s (B s 0-192)=A at *;have vK:jgt (acc s (B s 0-192)=A):=hA;clear hA;generalize sd:B s 0=b at *;clear sd;have h1:¬ (b:Int)<128:=by omega
 have t0:(b:Int)>=194:=by omega
 have t1:(b:Int)<224:=by omega
 by_cases hl:(s.size:Int)<2
 ·go_enter func108,ntmps108
  go_wp2_with fail;go_ret3
  exact⟨cE (HS.o (by omega)) rfl,rfl⟩
 ·have qs:2<=s.size:=by omega
  go_enter func108,ntmps108
  go_wp2_with fail;go_loopw [8,9] (λn i w'=>w'=w/\∃ k:Nat,i=.int .i64 k/\1<=k/\k<=2/\n=.int .i64 (A k)/\∀ j,1<=j->j<k->128<=B s j/\B s j<192) (λ_ i _=>2-(intOf i).toNat)
  case atStart=>exact⟨rfl,1,rfl,by omega,by omega,rfl,λj h1 h2=>by omega⟩
  case round =>
   obtain⟨rfl,k,rfl,yp,mX,rfl,hj⟩:=hrel;have hAk:=HA.o k yp mX hj;clear ha1;by_cases ar:k<2
   ·have hgk:=ue s k (by omega)
    have hwk:=jk s k
    have hAs:A (k+1)=A k*64+B s k-128:=by
     rw[<- vK.o,acc,jex (by omega)]
    have hBk:=nt s k;have HJ:jgt (∀ j,1<=j->j<k->128<=B s j/\B s j<192):=hj;have HBk:jgt (B s k=B s k):=rfl;clear hj;by_cases ju:(B s k:Int)<128
    ·have sH:=HBad.o k yp ar (by omega)
     have HU:jgt (aK (lb s)=(65533,1)):=sH;clear sH hAs;generalize B s k=bk at *;go_wp2_with fail;go_ret3
     exact⟨cE HU.o rfl,rfl⟩
    ·by_cases jv:(B s k:Int)>=192
     ·have sH:=HBad.o k yp ar (by omega)
      have HU:jgt (aK (lb s)=(65533,1)):=sH;clear sH hAs;generalize B s k=bk at *;go_wp2_with fail;go_ret3
      exact⟨cE HU.o rfl,rfl⟩
     ·have HN:jgt (∀ j,1<=j->j<k+1->128<=B s j/\B s j<192):=by
       intro j h1 h2;by_cases h3:j<k
       ·exact HJ.o j h1 h3
       ·obtain rfl:j=k:=by omega
        omega
      have fJ:jgt (A (k+1)=A k*64+B s k-128):=hAs;clear hAs;generalize B s k=bk at *;go_wp2_with fail;go_roundw
      case rel=>exact⟨trivial,k+1,by go_num,by omega,by omega,by rw[fJ.o],HN.o⟩
      case measure=>simp[intOf];omega
   ·obtain rfl:k=2:=by omega
    have HX:jgt (∀ x:Int,x=A 2->∀ j,1<=j->j<2->128<=B s j/\B s j<192):=λ_ _=>hj
    have HO:=HOut.o hj (A 2) rfl;have HI:=HIn.o qs hj (A 2) rfl;have eb:jgt _:=HO;have MD:jgt _:=HI;clear HO HI hj;generalize A 2=x at *;by_cases t1:x<128
    ·go_wp2_with fail
     go_ret3
     exact⟨cE (eb.o (Or.inl t1)) rfl,rfl⟩
    ·by_cases t2:x > 1114111
     ·go_wp2_with fail
      go_ret3
      exact⟨cE (eb.o (Or.inr (Or.inl t2))) rfl,rfl⟩
     ·by_cases t3:x>=55296
      ·by_cases t4:x<57344
       ·go_wp2_with fail
        go_ret3
        exact⟨cE (eb.o (Or.inr (Or.inr ⟨t3,t4⟩))) rfl,rfl⟩
       ·have hz:x=(x.toNat:Int):=by omega
        have HZ:jgt (x=(x.toNat:Int)):=hz;clear hz;go_wp2_with fail;go_ret3
        exact⟨lO (wd:=2) (MD.o t1 t2 (by omega)) HZ.o (iG (by decide)),rfl⟩
      ·have hz:x=(x.toNat:Int):=by omega
       have HZ:jgt (x=(x.toNat:Int)):=hz;clear hz;go_wp2_with fail;go_ret3
       exact⟨lO (wd:=2) (MD.o t1 t2 (by omega)) HZ.o (iG (by decide)),rfl⟩
def DT(s:ByteArray)(hb:224<=B s 0)(ap:B s 0<240)(hs:s.size<3):aK (lb s)=(65533,1):=by
 rw[ij];simp only[Lib.decodeN];rw[jex (by omega),jex (by omega),jex (by omega),jex (by omega)]
def ND(s:ByteArray)(hb:224<=B s 0)(ap:B s 0<240)(j:Nat)(h1:1<=j)(h2:j<3)(hj:B s j<128∨192<=B s j):aK (lb s)=(65533,1):=by
 have:=nt s 1;have:=nt s 2;have:=nt s 3
 have hc:(B s 1<128∨192<=B s 1)∨(B s 2<128∨192<=B s 2):=by
  obtain rfl | rfl:j=1∨j=2:=by omega
  all_goals omega
 rw[ij];simp only[Lib.decodeN];rw[jex (by omega),jex (by omega),jex (by omega),jex (by omega)]
def NE(s:ByteArray)(hb:224<=B s 0)(ap:B s 0<240)(hj:∀ j,1<=j->j<3->128<=B s j/\B s j<192)(x:Int)(hx:x=acc s (B s 0-224) 3)
  (ho:x<2048∨x > 1114111∨(x>=55296/\x<57344)):aK (lb s)=(65533,1):=by
 have:=hj 1 (by omega) (by omega);have:=hj 2 (by omega) (by omega);simp[acc]at hx
 rw[ij];simp only[Lib.decodeN];rw[jex (by omega)];split
 ·rw[jex (by omega)]
 ·split
  ·rw[jex (by omega)]
  ·split
   ·rw[jex (by omega)]
   ·rfl
def SV(s:ByteArray)(hb:224<=B s 0)(ap:B s 0<240)(hs:3<=s.size)(hj:∀ j,1<=j->j<3->128<=B s j/\B s j<192)(x:Int)(hx:x=acc s (B s 0-224) 3)
  (h1:¬ x<2048) (h2:¬ x > 1114111) (h3:¬ (x>=55296/\x<57344)):aK (lb s)=(x.toNat,3):=by
 have:=hj 1 (by omega) (by omega);have:=hj 2 (by omega) (by omega);simp[acc]at hx
 rw[ij];simp only[Lib.decodeN];rw[jex (by omega)];split
 ·first | (exfalso;omega) | (rw[jey (by omega)];congr 1;omega)
 ·split
  ·first | (exfalso;omega) | (rw[jey (by omega)];congr 1;omega)
  ·first | (exfalso;omega) | (rw[jey (by omega),jey (by omega)];congr 1;omega)
def Yp(s:ByteArray)(hb:224<=B s 0)(ap:B s 0<240)(k:Nat)(h1:1<=k)(h2:k<=3)(hj:∀ j,1<=j->j<k->128<=B s j/\B s j<192):0<=acc s (B s 0-224) k/\acc s (B s 0-224) k<=33554432:=by
 obtain rfl | rfl | rfl | rfl:k=1∨k=2∨k=3∨k=4:=by omega
 ·simp[acc];omega
 ·have:=hj 1 (by omega) (by omega)
  simp[acc];omega
 ·have:=hj 1 (by omega) (by omega)
  have:=hj 2 (by omega) (by omega);simp[acc];omega
 ·have:=hj 1 (by omega) (by omega)
  have:=hj 2 (by omega) (by omega);have:=hj 3 (by omega) (by omega);simp[acc];omega
def jb0(s:ByteArray)(h0:0<s.size)(hs:s.size<=100000)(hb:224<=B s 0)(ap:B s 0<240)(w:World) :
  Calls prog 108 #[.string s] w λe w'=>e=Ending.returned (.tuple #[.int .i64 ((aK (lb s)).1:Int),.int .i64 ((aK (lb s)).2:Int),.bool (ok (aK (lb s)))])/\w'=w:=by
 have HS:jgt (∀ h:s.size<3,aK (lb s)=(65533,1)):=λh=>DT s hb ap h
 have HBad:jgt (∀(j:Nat) (h1:1<=j) (h2:j<3) (hj:B s j<128∨192<=B s j),aK (lb s)=(65533,1)):=ND s hb ap;have HOut:jgt _:=NE s hb ap;have HIn:jgt _:=SV s hb ap;have HA:jgt _:=Yp s hb ap;have hg:=ue s 0 h0;have hw:=jk s 0;have ha1:((B s 0:Int)-224)=acc s (B s 0-224) 1:=rfl;generalize hA:acc s (B s 0-224)=A at *;have vK:jgt (acc s (B s 0-224)=A):=hA;clear hA;generalize sd:B s 0=b at *;clear sd;have h1:¬ (b:Int)<128:=by omega
 have t0:(b:Int)>=194:=by omega
 have t1:¬ (b:Int)<224:=by omega
 have t2:(b:Int)>=224:=by omega
 have t3:(b:Int)<240:=by omega
 by_cases hl:(s.size:Int)<3
 ·go_enter func108,ntmps108
  go_wp2_with fail;go_ret3
  exact⟨cE (HS.o (by omega)) rfl,rfl⟩
 ·have qs:3<=s.size:=by omega
  go_enter func108,ntmps108
  go_wp2_with fail;go_loopw [8,9] (λn i w'=>w'=w/\∃ k:Nat,i=.int .i64 k/\1<=k/\k<=3/\n=.int .i64 (A k)/\∀ j,1<=j->j<k->128<=B s j/\B s j<192) (λ_ i _=>3-(intOf i).toNat)
  case atStart=>exact⟨rfl,1,rfl,by omega,by omega,rfl,λj h1 h2=>by omega⟩
  case round =>
   obtain⟨rfl,k,rfl,yp,mX,rfl,hj⟩:=hrel;have hAk:=HA.o k yp mX hj;clear ha1;by_cases ar:k<3
   ·have hgk:=ue s k (by omega)
    have hwk:=jk s k
    have hAs:A (k+1)=A k*64+B s k-128:=by
     rw[<- vK.o,acc,jex (by omega)]
    have hBk:=nt s k;have HJ:jgt (∀ j,1<=j->j<k->128<=B s j/\B s j<192):=hj;have HBk:jgt (B s k=B s k):=rfl;clear hj;by_cases ju:(B s k:Int)<128
    ·have sH:=HBad.o k yp ar (by omega)
     have HU:jgt (aK (lb s)=(65533,1)):=sH;clear sH hAs;generalize B s k=bk at *;go_wp2_with fail;go_ret3
     exact⟨cE HU.o rfl,rfl⟩
    ·by_cases jv:(B s k:Int)>=192
     ·have sH:=HBad.o k yp ar (by omega)
      have HU:jgt (aK (lb s)=(65533,1)):=sH;clear sH hAs;generalize B s k=bk at *;go_wp2_with fail;go_ret3
      exact⟨cE HU.o rfl,rfl⟩
     ·have HN:jgt (∀ j,1<=j->j<k+1->128<=B s j/\B s j<192):=by
       intro j h1 h2;by_cases h3:j<k
       ·exact HJ.o j h1 h3
       ·obtain rfl:j=k:=by omega
        omega
      have fJ:jgt (A (k+1)=A k*64+B s k-128):=hAs;clear hAs;generalize B s k=bk at *;go_wp2_with fail;go_roundw
      case rel=>exact⟨trivial,k+1,by go_num,by omega,by omega,by rw[fJ.o],HN.o⟩
      case measure=>simp[intOf];omega
   ·obtain rfl:k=3:=by omega
    have HX:jgt (∀ x:Int,x=A 3->∀ j,1<=j->j<3->128<=B s j/\B s j<192):=λ_ _=>hj
    have HO:=HOut.o hj (A 3) rfl;have HI:=HIn.o qs hj (A 3) rfl;have eb:jgt _:=HO;have MD:jgt _:=HI;clear HO HI hj;generalize A 3=x at *;by_cases t1:x<2048
    ·go_wp2_with fail
     go_ret3
     exact⟨cE (eb.o (Or.inl t1)) rfl,rfl⟩
    ·by_cases t2:x > 1114111
     ·go_wp2_with fail
      go_ret3
      exact⟨cE (eb.o (Or.inr (Or.inl t2))) rfl,rfl⟩
     ·by_cases t3:x>=55296
      ·by_cases t4:x<57344
       ·go_wp2_with fail
        go_ret3
        exact⟨cE (eb.o (Or.inr (Or.inr ⟨t3,t4⟩))) rfl,rfl⟩
       ·have hz:x=(x.toNat:Int):=by omega
        have HZ:jgt (x=(x.toNat:Int)):=hz;clear hz;go_wp2_with fail;go_ret3
        exact⟨lO (wd:=3) (MD.o t1 t2 (by omega)) HZ.o (iG (by decide)),rfl⟩
      ·have hz:x=(x.toNat:Int):=by omega
       have HZ:jgt (x=(x.toNat:Int)):=hz;clear hz;go_wp2_with fail;go_ret3
       exact⟨lO (wd:=3) (MD.o t1 t2 (by omega)) HZ.o (iG (by decide)),rfl⟩
def DU(s:ByteArray)(hb:240<=B s 0)(ap:B s 0<245)(hs:s.size<4):aK (lb s)=(65533,1):=by
 rw[ij];simp only[Lib.decodeN];rw[jex (by omega),jex (by omega),jex (by omega),jex (by omega)]
def NF(s:ByteArray)(hb:240<=B s 0)(ap:B s 0<245)(j:Nat)(h1:1<=j)(h2:j<4)(hj:B s j<128∨192<=B s j):aK (lb s)=(65533,1):=by
 have:=nt s 1;have:=nt s 2;have:=nt s 3
 have hc:(B s 1<128∨192<=B s 1)∨(B s 2<128∨192<=B s 2)∨(B s 3<128∨192<=B s 3):=by
  obtain rfl | rfl | rfl:j=1∨j=2∨j=3:=by omega
  all_goals omega
 rw[ij];simp only[Lib.decodeN];rw[jex (by omega),jex (by omega),jex (by omega),jex (by omega)]
def NG(s:ByteArray)(hb:240<=B s 0)(ap:B s 0<245)(hj:∀ j,1<=j->j<4->128<=B s j/\B s j<192)(x:Int)(hx:x=acc s (B s 0-240) 4)
  (ho:x<65536∨x > 1114111∨(x>=55296/\x<57344)):aK (lb s)=(65533,1):=by
 have:=hj 1 (by omega) (by omega);have:=hj 2 (by omega) (by omega);have:=hj 3 (by omega) (by omega);simp[acc]at hx
 rw[ij];simp only[Lib.decodeN];rw[jex (by omega)];split
 ·rw[jex (by omega)]
 ·split
  ·rw[jex (by omega)]
  ·split
   ·rw[jex (by omega)]
   ·rfl
def SW(s:ByteArray)(hb:240<=B s 0)(ap:B s 0<245)(hs:4<=s.size)(hj:∀ j,1<=j->j<4->128<=B s j/\B s j<192)(x:Int)(hx:x=acc s (B s 0-240) 4)
  (h1:¬ x<65536) (h2:¬ x > 1114111) (h3:¬ (x>=55296/\x<57344)):aK (lb s)=(x.toNat,4):=by
 have:=hj 1 (by omega) (by omega);have:=hj 2 (by omega) (by omega);have:=hj 3 (by omega) (by omega);simp[acc]at hx
 rw[ij];simp only[Lib.decodeN];rw[jex (by omega)];split
 ·first | (exfalso;omega) | (rw[jey (by omega)];congr 1;omega)
 ·split
  ·first | (exfalso;omega) | (rw[jey (by omega)];congr 1;omega)
  ·first | (exfalso;omega) | (rw[jey (by omega),jey (by omega)];congr 1;omega)
def Yq(s:ByteArray)(hb:240<=B s 0)(ap:B s 0<245)(k:Nat)(h1:1<=k)(h2:k<=4)(hj:∀ j,1<=j->j<k->128<=B s j/\B s j<192):0<=acc s (B s 0-240) k/\acc s (B s 0-240) k<=33554432:=by
 obtain rfl | rfl | rfl | rfl:k=1∨k=2∨k=3∨k=4:=by omega
 ·simp[acc];omega
 ·have:=hj 1 (by omega) (by omega)
  simp[acc];omega
 ·have:=hj 1 (by omega) (by omega)
  have:=hj 2 (by omega) (by omega);simp[acc];omega
 ·have:=hj 1 (by omega) (by omega)
  have:=hj 2 (by omega) (by omega);have:=hj 3 (by omega) (by omega);simp[acc];omega
def jb1(s:ByteArray)(h0:0<s.size)(hs:s.size<=100000)(hb:240<=B s 0)(ap:B s 0<245)(w:World) :
  Calls prog 108 #[.string s] w λe w'=>e=Ending.returned (.tuple #[.int .i64 ((aK (lb s)).1:Int),.int .i64 ((aK (lb s)).2:Int),.bool (ok (aK (lb s)))])/\w'=w:=by
 have HS:jgt (∀ h:s.size<4,aK (lb s)=(65533,1)):=λh=>DU s hb ap h
 have HBad:jgt (∀(j:Nat) (h1:1<=j) (h2:j<4) (hj:B s j<128∨192<=B s j),aK (lb s)=(65533,1)):=NF s hb ap;have HOut:jgt _:=NG s hb ap;have HIn:jgt _:=SW s hb ap;have HA:jgt _:=Yq s hb ap;have hg:=ue s 0 h0;have hw:=jk s 0;have ha1:((B s 0:Int)-240)=acc s (B s 0-240) 1:=rfl;generalize hA:acc s (B s 0-240)=A at *;have vK:jgt (acc s (B s 0-240)=A):=hA;clear hA;generalize sd:B s 0=b at *;clear sd;have h1:¬ (b:Int)<128:=by omega
 have t0:(b:Int)>=194:=by omega
 have t1:¬ (b:Int)<224:=by omega
 have t2:(b:Int)>=224:=by omega
 have t3:¬ (b:Int)<240:=by omega
 have t4:(b:Int)>=240:=by omega
 have t5:(b:Int)<245:=by omega
 by_cases hl:(s.size:Int)<4
 ·go_enter func108,ntmps108
  go_wp2_with fail;go_ret3
  exact⟨cE (HS.o (by omega)) rfl,rfl⟩
 ·have qs:4<=s.size:=by omega
  go_enter func108,ntmps108
  go_wp2_with fail;go_loopw [8,9] (λn i w'=>w'=w/\∃ k:Nat,i=.int .i64 k/\1<=k/\k<=4/\n=.int .i64 (A k)/\∀ j,1<=j->j<k->128<=B s j/\B s j<192) (λ_ i _=>4-(intOf i).toNat)
  case atStart=>exact⟨rfl,1,rfl,by omega,by omega,rfl,λj h1 h2=>by omega⟩
  case round =>
   obtain⟨rfl,k,rfl,yp,mX,rfl,hj⟩:=hrel;have hAk:=HA.o k yp mX hj;clear ha1;by_cases ar:k<4
   ·have hgk:=ue s k (by omega)
    have hwk:=jk s k
    have hAs:A (k+1)=A k*64+B s k-128:=by
     rw[<- vK.o,acc,jex (by omega)]
    have hBk:=nt s k;have HJ:jgt (∀ j,1<=j->j<k->128<=B s j/\B s j<192):=hj;have HBk:jgt (B s k=B s k):=rfl;clear hj;by_cases ju:(B s k:Int)<128
    ·have sH:=HBad.o k yp ar (by omega)
     have HU:jgt (aK (lb s)=(65533,1)):=sH;clear sH hAs;generalize B s k=bk at *;go_wp2_with fail;go_ret3
     exact⟨cE HU.o rfl,rfl⟩
    ·by_cases jv:(B s k:Int)>=192
     ·have sH:=HBad.o k yp ar (by omega)
      have HU:jgt (aK (lb s)=(65533,1)):=sH;clear sH hAs;generalize B s k=bk at *;go_wp2_with fail;go_ret3
      exact⟨cE HU.o rfl,rfl⟩
     ·have HN:jgt (∀ j,1<=j->j<k+1->128<=B s j/\B s j<192):=by
       intro j h1 h2;by_cases h3:j<k
       ·exact HJ.o j h1 h3
       ·obtain rfl:j=k:=by omega
        omega
      have fJ:jgt (A (k+1)=A k*64+B s k-128):=hAs;clear hAs;generalize B s k=bk at *;go_wp2_with fail;go_roundw
      case rel=>exact⟨trivial,k+1,by go_num,by omega,by omega,by rw[fJ.o],HN.o⟩
      case measure=>simp[intOf];omega
   ·obtain rfl:k=4:=by omega
    have HX:jgt (∀ x:Int,x=A 4->∀ j,1<=j->j<4->128<=B s j/\B s j<192):=λ_ _=>hj
    have HO:=HOut.o hj (A 4) rfl;have HI:=HIn.o qs hj (A 4) rfl;have eb:jgt _:=HO;have MD:jgt _:=HI;clear HO HI hj;generalize A 4=x at *;by_cases t1:x<65536
    ·go_wp2_with fail
     go_ret3
     exact⟨cE (eb.o (Or.inl t1)) rfl,rfl⟩
    ·by_cases t2:x > 1114111
     ·go_wp2_with fail
      go_ret3
      exact⟨cE (eb.o (Or.inr (Or.inl t2))) rfl,rfl⟩
     ·by_cases t3:x>=55296
      ·by_cases t4:x<57344
       ·go_wp2_with fail
        go_ret3
        exact⟨cE (eb.o (Or.inr (Or.inr ⟨t3,t4⟩))) rfl,rfl⟩
       ·have hz:x=(x.toNat:Int):=by omega
        have HZ:jgt (x=(x.toNat:Int)):=hz;clear hz;go_wp2_with fail;go_ret3
        exact⟨lO (wd:=4) (MD.o t1 t2 (by omega)) HZ.o (iG (by decide)),rfl⟩
      ·have hz:x=(x.toNat:Int):=by omega
       have HZ:jgt (x=(x.toNat:Int)):=hz;clear hz;go_wp2_with fail;go_ret3
       exact⟨lO (wd:=4) (MD.o t1 t2 (by omega)) HZ.o (iG (by decide)),rfl⟩
def SX(s:ByteArray)(hs:s.size<=100000)(h0:0<s.size)(w:World) :
  Calls prog 108 #[.string s] w λe w'=>e=.returned (.tuple #[.int .i64 (aK (lb s)).1,.int .i64 (aK (lb s)).2,.bool (ok (aK (lb s)))])/\w'=w:=by
 by_cases h1:B s 0<128
 ·exact SS s h0 h1 w
 ·by_cases h2:B s 0<194
  ·exact zL s h0 (by omega) (Or.inl h2) w
  ·by_cases h3:B s 0<224
   ·exact jbZ s h0 hs (by omega) h3 w
   ·by_cases h4:B s 0<240
    ·exact jb0 s h0 hs (by omega) h4 w
    ·by_cases h5:B s 0<245
     ·exact jb1 s h0 hs (by omega) h5 w
     ·exact zL s h0 (by omega) (Or.inr (by omega)) w
def sgn(u:List (Nat×Nat))(k:Nat):List Value:=(u.take k).map λx=>Value.int .i64 (x.1:Int)
def ats(u:List (Nat×Nat))(k:Nat):List Value:=(List.range k).map λj=>Value.int .i64 (eo u j:Int)
def SY{l:List UInt8}{p k:Nat}(h:At l p k)(hp:p<l.length):sgn (V l) (k+1)=sgn (V l) k++[.int .i64 ((aK (l.drop p)).1:Int)]:=by
 unfold sgn;rw[wi h hp];simp
def SZ{l:List UInt8}{p k:Nat}(h:At l p k):ats (V l) (k+1)=ats (V l) k++[.int .i64 (p:Int)]:=by
 unfold ats;rw[jfL,jeR,h.2.2.1];rfl
def pd(a b:Value):Prop:=∀ g,a.ownBlock=some g->b.ownBlock≠some g
def pd.symm{a b:Value}(h:pd a b):pd b a:=λg hg h2=>h g h2 hg
def pd.ne{a b:Value}(h:pd a b):a.ownBlock=none∨a.ownBlock≠b.ownBlock:=by
 cases ha:a.ownBlock with
 | none=>exact Or.inl rfl
 | some g=>exact Or.inr (λh2=>h g ha h2.symm)
def pd.grow{a a' b:Value}{n:Nat}(h:pd a b)(hn:a'.ownBlock=a.ownBlock∨a'.ownBlock=some n)(hb:∀ k,b.ownBlock=some k->k<n):pd a' b:=by
 intro g hg h2;rcases hn with hn | hn
 ·exact h g (hn ▸ hg) h2
 ·rw[hn]at hg
  have:=hb g h2;have:=Option.some.inj hg;omega
def info3:(prog.info? 3).map (λi=>(i.zero,i.size,i.bytes))=some (some (.int .i64 0),1,8):=by kernel_rfl
def iL(s:ByteArray)(hs:s.size<=100000)(w:World) :
  Calls prog 60 #[.string s] w λe w'=>(∃ a b,e=.returned (.tuple #[a,b,.bool (cX (lb s))])/\w'.ownsRow w.heap.size 3 1 a (V (lb s)).length (sgn (V (lb s)) (V (lb s)).length)/\w'.ownsRow w.heap.size 3 1 b (V (lb s)).length (ats (V (lb s)) (V (lb s)).length))/\jgu w w':=by
 obtain⟨i0,hi,bR,hz1',aX⟩:=jeT info3;have hL:=bK s;have hV:=sM (lb s);go_enter func60,ntmps60
 go_wp2_with fail;go_loopw [5,6,7,8] (λa b c i wr=>∃ p k:Nat,At (lb s) p k/\i=.int .i64 p/\c=.bool (((V (lb s)).take k).all ok)/\wr.ownsRow w.heap.size 3 1 a k (sgn (V (lb s)) k)/\wr.ownsRow w.heap.size 3 1 b k (ats (V (lb s)) k)/\pd a b/\jgu w wr) (λ_ _ _ i _=>s.size-(intOf i).toNat)
 case atStart=>exact⟨0,0,At.zero _,rfl,rfl,jfh _ _ _ _,jfh _ _ _ _,(λg hg=>by simp[Value.ownBlock]at hg),jez _ _⟩
 case round =>
  obtain⟨p,k,lD,rfl,rfl,ax,gj,hap,ao⟩:=hrel;by_cases hp:p<s.size
  ·have hk:=lD.len (by omega)
   have hw:=cC _ (gX (l:=lb s) (p:=p) (by omega));simp only[jeX]at hw;have HN:=ae (lD.next (by omega));have HS:=ae (SY lD (by omega));have HA:=ae (SZ lD);have HT:=ae (wi lD (by omega));have HO:=ae ax;have eb:=ae gj;have HP:=ae hap;have HB:=ae ao;have bF:=ao.size;clear lD ax gj hap ao;have hex:lb (s.extract p s.size)=(lb s).drop p:=by rw[gD,jfi (by simp;omega)]
   have hes:(s.extract p s.size).size=s.size-p:=by rw[<- bK,hex];simp;omega
   have hc:=SX (s.extract p s.size) (by omega) (by omega);rw[hex]at hc;have HC:=ae hc;clear hc hex hes;generalize aK ((lb s).drop p)=u at *;obtain⟨c,wd⟩:=u;simp only at *;generalize ju:((V (lb s)).take k).all ok=ck at *;have ME:=ae ju;clear ju;go_wp2_with fail;refine(HC.o _).mono ?_;rintro e w1 ⟨rfl,rfl⟩;go_wp2_with (first | (at_builtin;refine jfw _ rfl _ _ 114 rfl w.heap.size 3 i0 (.int .i64 0) 1 8 underlying114 hi bR hz1' aX rfl (by decide) _ _ _ rfl (HO.o.alloc _) ⟨w1.heap.size,0,none⟩ 1 1 [.int .i64 (c:Int)] rfl rfl ?c1 ?c2 ?c3 ?c4 ?c5 ?_))
   case c1=>exact cell_one_new _ _ _
   case c2=>intro u hu;simp at hu;subst hu;rfl
   case c3=>unfold maxLen;omega
   case c4=>omega
   case c5=>simp;omega
   intro v1 w2 o1 g1 _ e1;have hz2w:=g1.size;simp at hz2w
   have fX:=ae o1;have dL:=ae ((eb.o.alloc (.cells #[.int .i64 (c:Int)] 3)).kept g1 HP.o.symm.ne);have GJ:=ae (HP.o.grow e1 (λk hk=>by have:=(eb.o.lt k hk).2;simp;omega));have aL:=ae ((HB.o.alloc (by omega) _).grown g1 (by simp;omega) (λk hk=>(HO.o.lt k hk).1));clear o1 g1 e1;go_wp2_with (first | (at_builtin;refine jfw _ rfl _ _ 114 rfl w.heap.size 3 i0 (.int .i64 0) 1 8 underlying114 hi bR hz1' aX rfl (by decide) _ _ _ rfl (dL.o.alloc _) ⟨w2.heap.size,0,none⟩ 1 1 [.int .i64 (p:Int)] rfl rfl ?d1 ?d2 ?d3 ?d4 ?d5 ?_))
   case d1=>exact cell_one_new _ _ _
   case d2=>intro u hu;simp at hu;subst hu;rfl
   case d3=>unfold maxLen;omega
   case d4=>omega
   case d5=>simp;omega
   intro v2 w3 o2 g2 _ e2;have gT:=ae o2;have dK:=ae ((fX.o.alloc (.cells #[.int .i64 (p:Int)] 3)).kept g2 GJ.o.ne);have Wr:=ae (GJ.o.symm.grow e2 (λk hk=>by have:=(fX.o.lt k hk).2;simp;omega)).symm;have aG:=ae ((aL.o.alloc (by omega) _).grown g2 (by simp;omega) (λk hk=>(dL.o.lt k hk).1));clear o2 g2 e2;cases ck
   all_goals
    go_wp2_with fail;go_roundw
    case rel =>
     refine⟨p+wd,k+1,HN.o,by go_num,?_,?_,?_,Wr.o,aG.o⟩
     ·rw[HT.o,List.all_append,ME.o];simp
     ·rw[HS.o];exact dK.o
     ·rw[HA.o];exact gT.o
    case measure=>simp[intOf];omega
  ·have he:=lD.end (by omega)
   have HE:=ae he;clear he lD;go_wp2_with fail;go_ret3
   obtain⟨rfl,_⟩:=HE.o;exact⟨⟨_,_,(by rw[jeJ];rfl),ax,gj⟩,ao⟩
def LT{u:List (Nat×Nat)}{n j:Nat}(h:j<n):(ats u n)[j]?=some (.int .i64 (eo u j:Int)):=by
 simp[ats,h]
def LU{u:List (Nat×Nat)}{j:Nat}(h:j<u.length):(sgn u u.length)[j]?=some (.int .i64 (u[j].1:Int)):=by
 simp[sgn,h]
def vU{l:List UInt8}:∀ k,k<=(V l).length->At l (eo (V l) k) k:=by
 intro k;induction k with
 | zero=>intro _;rw[offs_zero];exact At.zero l
 | succ k ih =>
  intro hk;have h:=ih (by omega)
  have ar:eo (V l) k<l.length:=by
   rcases je0 (eo (V l) k) l.length with h1 | h1
   ·exact h1
   ·have:=(h.end (by omega)).1
    omega
  have h2:=h.next ar
  rw[h2.2.2.1]at h2;exact h2
def zM(s:ByteArray)(hs:s.size<=100000)(w:World) :
  Calls prog 188 #[.string s] w λe w'=>e=.returned (.int .i64 (V (lb s)).length)/\jgu w w':=by
 have hL:=bK s;have hV:=sM (lb s);go_enter func188,ntmps188
 go_wp2;go_loopw [3] (λn w'=>∃ p k:Nat,w'=w.iter s p/\n=.int .i64 k/\At (lb s) p k) (λ_ w'=>s.size-w'.iterPos w.heap.size)
 case atStart=>exact⟨0,0,rfl,rfl,At.zero _⟩
 case round =>
  obtain⟨p,k,rfl,rfl,lD⟩:=hrel;by_cases hp:p<s.size
  ·have yo:∀ ty,(Instr.next (.pointer (some ⟨w.heap.size,0,none⟩)) true ty).run prog (w.iter s p)=_:=λty=>run_next_any w s p ty hp
   rw[ke]at yo;have hk:=lD.len (by omega);have hw:=cC _ (gX (l:=lb s) (p:=p) (by omega));have hn:=lD.next (by omega)
   clear lD;go_wp2;go_roundw
   case rel=>exact⟨_,k+1,rfl,by go_num,hn⟩
   case measure=>simp;omega
  ·have yo:∀ ty,(Instr.next (.pointer (some ⟨w.heap.size,0,none⟩)) true ty).run prog (w.iter s p)=_:=λty=>run_next_end w s p ty hp
   have HE:jgt (k=(V (lb s)).length/\p=(lb s).length):=lD.end (by omega);clear lD;go_wp2;go_ret
   exact⟨mv (by rw[HE.o.1]),dG _ _ _⟩
def bE(l:List UInt8)(n:Int):List UInt8:=l.take (eo (V l) n.toNat)
def qR(u:List (Nat×Nat))(k:Nat)(h:u.length<=k):eo u k=eo u u.length:=by
 unfold eo;rw[jfi h,jeJ]
def zN(s:ByteArray)(n:Int)(hs:s.size<=100000)(w:World) :
  Calls prog 147 #[.string s,.int .i64 n] w λe w'=>(∃ t,e=.returned (.string t)/\lb t=bE (lb s) n)/\jgu w w':=by
 have hL:=bK s;have hV:=sM (lb s);go_enter func147,ntmps147
 go_wp2;go_loopw [5] (λm w'=>∃ p k:Nat,w'=w.iter s p/\m=.int .i64 k/\At (lb s) p k/\(k=0∨(k:Int)<=n)) (λ_ w'=>s.size-w'.iterPos w.heap.size)
 case atStart=>exact⟨0,0,rfl,rfl,At.zero _,Or.inl rfl⟩
 case round =>
  obtain⟨p,k,rfl,rfl,lD,CX⟩:=hrel;by_cases hp:p<s.size
  ·have yo:∀ ty,(Instr.next (.pointer (some ⟨w.heap.size,0,none⟩)) true ty).run prog (w.iter s p)=_:=λty=>run_next_any w s p ty hp
   rw[ke]at yo;have hk:=lD.len (by omega);have hw:=cC _ (gX (l:=lb s) (p:=p) (by omega));have hn:=lD.next (by omega)
   have HPO:jgt (p=eo (V (lb s)) k):=lD.2.2.1;clear lD;by_cases hg:(k:Int)>=n
   ·go_wp2_with fail
    go_ret
    refine⟨⟨_,rfl,?_⟩,dG _ _ _⟩;have hnk:n.toNat=k:=(by omega);rw[bE,hnk,<- HPO.o,gD];simp
   ·go_wp2_with fail
    go_roundw
    case rel=>exact⟨_,k+1,rfl,by go_num,hn,Or.inr (by omega)⟩
    case measure=>simp;omega
  ·have yo:∀ ty,(Instr.next (.pointer (some ⟨w.heap.size,0,none⟩)) true ty).run prog (w.iter s p)=_:=λty=>run_next_end w s p ty hp
   have HE:jgt (k=(V (lb s)).length/\p=(lb s).length):=lD.end (by omega);have HPO:jgt (p=eo (V (lb s)) k):=lD.2.2.1;clear lD;go_wp2_with fail;go_ret
   refine⟨⟨_,rfl,?_⟩,dG _ _ _⟩;rw[bE];have hpo:=HPO.o;have he:=HE.o
   have ed:(lb s).length<=eo (V (lb s)) n.toNat:=by
    by_cases vL:(V (lb s)).length<=n.toNat
    ·rw[qR _ _ vL,<- HE.o.1,<- HPO.o];omega
    ·have:k=0:=by omega
     rw[this]at hpo;simp at hpo
     omega
   rw[jfi ed]
def fC{w:World}{B e n:Nat}{v:Value}{xs:List Value}(h:w.ownsRow B e 1 v n xs):(∃ ad cap,v=.slice ad n cap/\∀ g,ad=some g->g.spot=none)/\(0<n->∃ g cap,v=.slice (some ⟨g,0,none⟩) n cap/\g<w.heap.size/\B<=g/\∀ j x,xs[j]?=some x->w.cell? ⟨g,j,none⟩=some x):=by
 obtain⟨hl,h1⟩:=id h;rcases h1 with ⟨rfl,rfl⟩ | ⟨g,cap,cur,rfl,hb,hg,h4⟩
 ·exact⟨⟨none,0,rfl,λg hg=>by cases hg⟩,λh=>by omega⟩
 ·refine⟨⟨_,cap,rfl,λx hx=>by cases hx;rfl⟩,λ_=>⟨g,cap,rfl,(Array.getElem?_eq_some_iff.1 hg).1,hb,λj x hx=>?_⟩⟩
  have:=h.cells (g:=g) rfl j x hx;have KY:(⟨g,0,none⟩:Addr).add j=⟨g,j,none⟩:=by unfold Addr.add;split<;>simp_all
  rwa[KY]at this
def BB(s:ByteArray)(n:Int)(hs:s.size<=100000)(w:World) :
  Calls prog 62 #[.string s,.int .i64 n] w λe w'=>(∃ t,e=.returned (.string t)/\lb t=bE (lb s) n)/\jgu w w':=by
 have hL:=bK s;have hV:=sM (lb s);have HEx:=ae (gD s);go_enter func62,ntmps62
 go_wp2_with fail;refine(iL s hs _).mono ?_;rintro e w1 ⟨⟨a,b,rfl,ha,hb⟩,ao⟩;have HB:=ae ao;have hz:=ao.size;clear ao ha;obtain⟨⟨ad,cap,rfl,_⟩,hcells⟩:=fC hb;clear hb;by_cases h1:n<1
 ·clear hcells
  go_wp2_with fail;go_ret
  refine⟨⟨_,rfl,?_⟩,HB.o⟩;have:n.toNat=0:=by omega
  rw[bE,this,offs_zero];rfl
 ·by_cases h2:n>=((V (lb s)).length:Int)
  ·clear hcells
   go_wp2_with fail;go_ret
   refine⟨⟨_,rfl,?_⟩,HB.o⟩;have h3:=(vU (l:=lb s) (V (lb s)).length (by omega))
   have h4:eo (V (lb s)) (V (lb s)).length=(lb s).length:=by
    rcases je0 (eo (V (lb s)) (V (lb s)).length) (lb s).length with h5 | h5
    ·have:=h3.len h5;omega
    ·exact(h3.end (by omega)).2
   rw[bE,qR _ _ (by omega),jfi (by omega)]
  ·obtain⟨g,cap2,eg,hg,_,hc⟩:=hcells (by omega)
   obtain⟨k,rfl⟩:∃ k:Nat,n=k:=⟨n.toNat,by omega⟩;simp only[Value.slice.injEq]at eg;obtain⟨rfl,_,rfl⟩:=eg;have eP:=hc k _ (LT (by omega));have hol:=(vU (l:=lb s) k (by omega)).1;clear hc;generalize ho:eo (V (lb s)) k=o at *;have yY:jgt (eo (V (lb s)) k=o):=ho;clear ho;go_wp2_with fail;go_ret
   refine⟨⟨_,rfl,?_⟩,HB.o⟩;rw[HEx.o,bE,je3,yY.o];simp
def nx(r:Nat):Nat:=if r=55295 then 57344 else r+1
def Ta{r:Nat}(h:vr r)(hg:r≠1114111):vr (nx r):=by
 unfold vr nx at *;split<;>omega
def Tb(r:Nat)(h:r<=1114111)(w:World):Calls prog 216 #[.int .i32 (r:Int)] w λe w'=>e=.returned (.int .i32 (nx r:Int))/\w'=w:=by
 by_cases h1:r=55295
 ·subst h1
  go_enter func216,ntmps216
  go_wp2_with fail;go_ret
  exact⟨rfl,rfl⟩
 ·have h2:((r:Int)==55295)=false:=by simp;omega
  go_enter func216,ntmps216
  go_wp2_with fail;go_ret
  refine⟨mv ?_,rfl⟩;unfold nx;rw[jex h1];go_num
def gg(u:List (Nat×Nat)):Nat->Option Nat
 | 0=>none
 | k+1=>if (u.getD k (0,0)).1=1114111 then gg u k else some k
def nw{u:List (Nat×Nat)}:∀{k i:Nat},gg u k=some i->i<k/\(u.getD i (0,0)).1≠1114111:=by
 intro k;induction k with
 | zero=>intro i h;cases h
 | succ k ih =>
  intro i h;simp only[gg]at h;split at h
  ·have:=ih h;exact⟨by omega,this.2⟩
  ·obtain rfl:=Option.some.inj h
   rename_i h2
   exact⟨by omega,h2⟩
def upL(l:List UInt8)(k:Nat):Option (List UInt8):=(gg (V l) k).map λi=>l.take (eo (V l) i)++cW (nx ((V l).getD i (0,0)).1)
def jR(l:List UInt8):Option (List UInt8):=upL l (V l).length
def LV(u:List (Nat×Nat))(k:Nat)(p c:Int):Prop :=
 match gg u k with
 | none=>p=-1
 | some i=>p=eo u i/\c=nx (u.getD i (0,0)).1
def NH{l:List UInt8}{p k:Nat}(h:At l p k)(hp:p<l.length):(V l).getD k (0,0)=aK (l.drop p):=by
 rw[List.getD_eq_getElem?_getD,h.get hp];rfl
def zO(a b:ByteArray):lb (a++b)=lb a++lb b:=by
 simp[lb,ByteArray.data_append]
def lb_eq(s:ByteArray):lb s=s.data.toList:=rfl
def NI{c:Nat}(h:vr c):lb (Utf8.encode (c:Int))=cW c:=by
 rw[lb_eq];exact MZ c h
def LW(e:Ending)(x:Option (List UInt8)):Prop:=∃ t o,e=.returned (.tuple #[.string t,.bool o])/\o=x.isSome/\lb t=x.getD []
def Hz(s:ByteArray)(hs:s.size<=100000)(w:World) :
  Calls prog 189 #[.string s] w λe w'=>LW e (jR (lb s))/\jgu w w':=by
 have hL:=bK s;have hV:=sM (lb s);have HEx:=ae (gD s);have HAp:=ae zO;go_enter func189,ntmps189
 go_wp2_with fail;go_loopw [4,5] (λa c w'=>∃(p k:Nat) (x y:Int),w'=w.iter s p/\a=.int .i64 x/\c=.int .i32 y/\At (lb s) p k/\LV (V (lb s)) k x y) (λ_ _ w'=>s.size-w'.iterPos w.heap.size)
 case atStart=>exact⟨0,0,-1,1114111,rfl,rfl,rfl,At.zero _,rfl⟩
 case round =>
  obtain⟨p,k,x,y,rfl,rfl,rfl,lD,mT⟩:=hrel;by_cases hp:p<s.size
  ·have yo:∀ ty,(Instr.next (.pointer (some ⟨w.heap.size,0,none⟩)) true ty).run prog (w.iter s p)=_:=λty=>run_next_any w s p ty hp
   rw[ke]at yo;have hw:=cC _ (gX (l:=lb s) (p:=p) (by omega));have ZV:=LE _ (gX (l:=lb s) (p:=p) (by omega));have HN:=ae (lD.next (by omega));have HPO:jgt (p=eo (V (lb s)) k):=lD.2.2.1;have HG:=ae (NH lD (by omega));have kS:=ae mT;clear lD mT;generalize aK ((lb s).drop p)=u at *;obtain⟨c,wd⟩:=u;simp only at *;have hc:c<=1114111:=by unfold vr at ZV;omega
   clear ZV;by_cases hg:c=1114111
   ·subst hg
    go_wp2_with fail;go_roundw
    case rel =>
     refine⟨_,k+1,x,y,rfl,rfl,rfl,HN.o,?_⟩;have h1:=kS.o;unfold LV at h1 ⊢;rw[gg,HG.o,jey rfl];exact h1
    case measure=>simp;omega
   ·have dC:((c:Int) != 1114111)=true:=by simp;omega
    go_wp2_with fail;refine(Tb c hc _).mono ?_;rintro e w1 ⟨rfl,rfl⟩;go_wp2_with fail;go_roundw
    case rel =>
     refine⟨_,k+1,_,_,rfl,rfl,rfl,HN.o,?_⟩;unfold LV;rw[gg,HG.o,jex hg];simp only;rw[HG.o];exact⟨by rw[HPO.o],rfl⟩
    case measure=>simp;omega
  ·have yo:∀ ty,(Instr.next (.pointer (some ⟨w.heap.size,0,none⟩)) true ty).run prog (w.iter s p)=_:=λty=>run_next_end w s p ty hp
   have HE:=ae (lD.end (by omega));clear lD;obtain⟨rfl,hpe⟩:=HE.o;clear HE hpe;unfold LV at mT;cases hlg:gg (V (lb s)) (V (lb s)).length with
   | none =>
    rw[hlg]at mT;simp only at mT;subst mT;have HLG:=ae hlg;clear hlg;go_wp2_with fail;go_ret2
    refine⟨⟨_,_,rfl,?_,?_⟩,dG _ _ _⟩
    ·rw[jR,upL,HLG.o];rfl
    ·rw[jR,upL,HLG.o];rfl
   | some i =>
    rw[hlg]at mT;simp only at mT;obtain⟨rfl,rfl⟩:=mT;have HLG:=ae hlg;have hil:=nw hlg;have hoi:=(vU (l:=lb s) i (by omega)).1
    have hvx:vr (nx ((V (lb s)).getD i (0,0)).1):=by
     refine Ta ?_ hil.2;have MF:i<(V (lb s)).length:=hil.1;rw[List.getD_eq_getElem?_getD,List.getElem?_eq_getElem MF];exact(Ya _ _ (jeA _) _ (jeD MF)).1
    have HE:=ae (NI hvx);clear hlg hil hvx;generalize ho:eo (V (lb s)) i=o at *;have HO:jgt (eo (V (lb s)) i=o):=ho;clear ho;generalize hc:nx ((V (lb s)).getD i (0,0)).1=c at *;have HC:jgt (nx ((V (lb s)).getD i (0,0)).1=c):=hc;clear hc;generalize hE:Utf8.encode (c:Int)=E at *;have hEs:E.size<=4:=by rw[<- bK,HE.o];exact(gW c).2
    have hXs:(s.extract 0 o).size<=100000:=by rw[<- bK,HEx.o];simp;omega
    have hneg:¬ (o:Int)<0:=(by omega)
    have KZ:∀ w,(convert 21 9 (.int .i32 (c:Int))).run prog w=.ok (.string E) w:=λw=>by
     rw[run_convert_int_string w 21 9 .i32 c (by kernel_rfl) underlying9,hE]
    clear hE;have KY:∀ w,(Op.stringOp .add (s.extract 0 o) E).run prog w=.ok (.string (s.extract 0 o++E)) w:=λw=>run_string_add_sum w _ _ (by omega)
    go_wp2_with fail;go_ret2
    refine⟨⟨_,_,rfl,?_,?_⟩,dG _ _ _⟩
    ·rw[jR,upL,HLG.o];rfl
    ·rw[jR,upL,HLG.o,HAp.o,HEx.o,HE.o,jfC,HO.o,HC.o]
     simp
def eR(l:List UInt8)(n:Int):Option (List UInt8) :=
 if cX l=true then (if ((V l).length:Int)<=n then some l else jR (bE l n)) else none
def pH(l:List UInt8)(n:Int):(bE l n).length<=l.length:=by
 unfold bE;simp;omega
def NJ(s:ByteArray)(n:Int)(hs:s.size<=100000)(w:World) :
  Calls prog 153 #[.string s,.int .i64 n] w λe w'=>LW e (eR (lb s) n)/\jgu w w':=by
 have hL:=bK s;have hV:=sM (lb s);go_enter func153,ntmps153
 go_wp2_with fail;refine(sY s hs _).mono ?_;rintro e w1 ⟨rfl,az⟩;have HX:jgt (eR (lb s) n=if cX (lb s)=true then (if ((V (lb s)).length:Int)<=n then some (lb s) else jR (bE (lb s) n)) else none):=rfl;cases hc:cX (lb s)with
 | false =>
  have HB:=ae az;rw[hc]at HX;clear az hc;go_wp2_with fail;go_ret2
  rw[HX.o];exact⟨⟨_,_,rfl,rfl,rfl⟩,HB.o⟩
 | true =>
  have HB:=ae az;rw[hc]at HX;have hz:=az.size;clear az hc;go_wp2_with fail;refine(zM s hs _).mono ?_;rintro e w2 ⟨rfl,ap⟩;have aG:=ae ap;have aX:=ap.size;clear ap;by_cases oT:((V (lb s)).length:Int)<=n
  ·rw[jey oT]at HX
   go_wp2_with fail;go_ret2
   rw[HX.o];exact⟨⟨_,_,rfl,rfl,rfl⟩,HB.o.trans (aG.o.mono hz)⟩
  ·rw[jex oT]at HX
   go_wp2_with fail;refine(zN s n hs _).mono ?_;rintro e w3 ⟨⟨t,rfl,ht⟩,aJ⟩;have aY:=ae aJ;have gy:=aJ.size;have HT:=ae ht
   have GK:t.size<=100000:=by
    have:=pH (lb s) n;rw[<- ht,bK,bK]at this;omega
   clear aJ ht;go_wp2_with fail;refine(Hz t GK _).mono ?_;rintro e w4 ⟨⟨t2,o,rfl,ho,La⟩,bD⟩;have cL:=ae bD;have se:=bD.size;have H2:=ae (And.intro ho La);clear bD ho La;go_wp2_with fail;go_ret2
   rw[HX.o];refine⟨⟨t2,o,rfl,?_⟩,((HB.o.trans (aG.o.mono hz)).trans (aY.o.mono (by omega))).trans (cL.o.mono (by omega))⟩;simp only[if_true];rw[<- HT.o];exact H2.o
def lk:List Nat->List Nat->Bool
 | [],t=>t.isEmpty
 | c::p,t=>if c=37 then (List.range (t.length+1)).any (λj=>lk p (t.drop j)) else
   match t with
   | []=>false
   | x::t'=>(c==95 || c==x) && lk p t'
def fit(c x:Nat):Bool:=c==95 || c==x
def ny(p t:List Nat):lk (37::p) t=true↔∃ j,j<=t.length/\lk p (t.drop j)=true:=by
 simp only[lk,if_true,List.any_eq_true,List.mem_range];constructor
 ·rintro⟨j,h1,h2⟩;exact⟨j,by omega,h2⟩
 ·rintro⟨j,h1,h2⟩;exact⟨j,by omega,h2⟩
def nz{c:Nat}(hc:c≠37)(p:List Nat)(x:Nat)(t:List Nat):lk (c::p) (x::t)=(fit c x && lk p t):=by
 simp only[lk,hc,if_false,fit]
def lP{c:Nat}(hc:c≠37)(p:List Nat):lk (c::p) []=false:=by
 simp only[lk,hc,if_false]
def gO(p q:List Nat):∀ t,lk (p++q) t=true↔∃ j,j<=t.length/\lk p (t.take j)=true/\lk q (t.drop j)=true:=by
 induction p with
 | nil =>
  intro t;constructor
  ·intro h;exact⟨0,by omega,rfl,by simpa using h⟩
  ·rintro⟨j,hj,h1,h2⟩
   have:j=0∨t=[]:=by
    simp only[lk,List.isEmpty_iff,List.take_eq_nil_iff]at h1;rcases h1 with h1 | h1
    ·exact Or.inl h1
    ·exact Or.inr h1
   rcases this with rfl | rfl
   ·simpa using h2
   ·simpa using h2
 | cons c p ih =>
  intro t;by_cases hc:c=37
  ·subst hc
   rw[je5,ny];constructor
   ·rintro⟨j,hj,h⟩
    obtain⟨k,hk,h1,h2⟩:=(ih _).1 h;simp at hk
    refine⟨j+k,by omega,(ny _ _).2 ⟨j,by simp;omega,?_⟩,by rw[<- jfe];exact h2⟩;rw[List.drop_take];rwa[show j+k-j=k by omega]
   ·rintro⟨m,hm,h1,h2⟩
    obtain⟨j,hj,h3⟩:=(ny _ _).1 h1;simp at hj
    refine⟨j,by omega,(ih _).2 ⟨m-j,by simp;omega,?_,?_⟩⟩
    ·rwa[List.drop_take]at h3
    ·rw[jfe,show j+(m-j)=m by omega];exact h2
  ·cases t with
   | nil =>
    rw[je5,lP hc];constructor
    ·intro h;cases h
    ·rintro⟨j,_,h1,_⟩
     rw[List.take_nil,lP hc]at h1;cases h1
   | cons x t =>
    rw[je5,nz hc,jfF,ih];constructor
    ·rintro⟨hf,j,hj,h1,h2⟩
     exact⟨j+1,by simp;omega,by rw[jf2,nz hc,hf,h1];rfl,by simpa using h2⟩
    ·rintro⟨j,hj,h1,h2⟩
     cases j with
     | zero=>rw[jfW,lP hc]at h1;cases h1
     | succ j =>
      rw[jf2,nz hc,jfF]at h1;exact⟨h1.1,j,by simpa using hj,h1.2,by simpa using h2⟩
def pI{p:List Nat}(hp:∀ c∈p,c≠37):∀ t,lk p t=true->t.length=p.length:=by
 induction p with
 | nil=>intro t h;simp[lk]at h;simp[h]
 | cons c p ih =>
  intro t h;have hc:=hp c (by simp);cases t with
  | nil=>rw[lP hc]at h;cases h
  | cons x t =>
   rw[nz hc,jfF]at h;simp[ih (λc hc=>hp c (by simp[hc])) t h.2]
def DV(p t:List Nat):lk (p++[37]) t=true↔∃ j,j<=t.length/\lk p (t.take j)=true:=by
 rw[gO];constructor
 ·rintro⟨j,h1,h2,_⟩;exact⟨j,h1,h2⟩
 ·rintro⟨j,h1,h2⟩
  exact⟨j,h1,h2,(ny _ _).2 ⟨(t.drop j).length,by omega,by rw[jfg];rfl⟩⟩
def uf{c:Nat}(hc:c≠37)(p t:List Nat)(x:Nat):lk (p++[c]) (t++[x])=(lk p t && fit c x):=by
 rw[jfK,gO,jfF];constructor
 ·rintro⟨j,h1,h2,h3⟩
  have hl:=pI (p:=[c]) (by simpa using hc) _ h3;simp at hl h1
  have hj:j=t.length:=by omega
  subst hj;rw[jfo]at h2;rw[jfc,nz hc,jfF]at h3;exact⟨h2,h3.1⟩
 ·rintro⟨h1,h2⟩
  exact⟨t.length,by simp,by rwa[jfo],by rw[jfc,nz hc,h2];rfl⟩
def DW{c:Nat}(hc:c≠37)(p:List Nat):lk (p++[c]) []=false:=by
 cases h:lk (p++[c]) []with
 | false=>rfl
 | true =>
  obtain⟨j,h1,h2,h3⟩:=(gO _ _ _).1 h;rw[List.drop_nil,lP hc]at h3;cases h3
def Tc(p:List Nat):lk p []=p.all (·==37):=by
 induction p with
 | nil=>rfl
 | cons c p ih =>
  by_cases hc:c=37
  ·subst hc
   rw[jfK,ny];simp[ih]
  ·rw[lP hc];simp[hc]
def jl(P T:List Nat)(t p:Nat)(again:Int)(from':Nat):Prop :=
 t<=T.length/\p<=P.length/\from'<=t /\
 ((again=-1/\from'=0/\lk P T=lk (P.drop p) (T.drop t)) ∨
  ∃ a:Nat,again=a/\a<=p/\p-a=t-from'/\(∀ c∈(P.drop a).take (p-a),c≠37)/\lk ((P.drop a).take (p-a)) ((T.drop from').take (t-from'))=true /\
   (lk P T=true↔∃ j,from'<=j/\j<=T.length/\lk (P.drop a) (T.drop j)=true))
def jl.zero(P T:List Nat):jl P T 0 0 (-1) 0:=⟨by omega,by omega,by omega,Or.inl ⟨rfl,rfl,by simp⟩⟩
def n1{a p:Nat}(h:a<=p):a+(p-a)=p:=by omega
def n2{a p:Nat}(h:a<=p):p+1-a=(p-a)+1:=by omega
def n3{f t j:Nat}(h:f<=t)(h2:t<=j):f+(t-f+(j-t))=j:=by omega
def n5{f t j T:Nat}(h:f<=t)(h2:t<=j)(h3:j<=T):j-t<=T-f-(t-f):=by omega
def n6{a p f t:Nat}(h:a<=p)(h2:f<=t)(h3:p-a=t-f):p+1-a=t+1-f:=by omega
def n7{j m t T s:Nat}(h:min m (T-j)=s)(h2:min (t-j) (T-j)=s)(hm:m<=T-j)(ht:t<T)(hj:j<=t):j+m=t:=by omega
def n8{j m f T s:Nat}(h:min m (T-j)=s)(h2:T-f=s)(hm:m<=T-j)(hf:f<=j)(hj:j<=T):T<=j+m:=by omega
def n9{f T:Nat}(h:f<=T):T<=f+(T-f):=by omega
def kr(P:List Nat){a p:Nat}(h:a<=p):P.drop a=(P.drop a).take (p-a)++P.drop p:=by
 have:=(jfz (p-a) (P.drop a)).symm;rwa[jfe,n1 h]at this
def nA{P:List Nat}{p c:Nat}(h:P[p]?=some c):P.drop p=c::P.drop (p+1):=by
 obtain⟨h1,h2⟩:=List.getElem?_eq_some_iff.1 h;rw[je8 h1,h2]
def jl.star{P T:List Nat}{t p:Nat}{again:Int}{from':Nat}(h:jl P T t p again from')(hc:P[p]?=some 37):jl P T t (p+1) ((p+1:Nat):Int) t:=by
 obtain⟨ht,hp,hf,h⟩:=h;have Gg:p<P.length:=(List.getElem?_eq_some_iff.1 hc).1;have hd:=nA hc;refine⟨ht,by omega,by omega,Or.inr ⟨p+1,rfl,by omega,by omega,by simp,by simp[lk],?_⟩⟩;rcases h with ⟨_,_,h⟩ | ⟨a,_,ha,hpa,Ws,CF,h⟩
 ·rw[h,hd,ny]
  constructor
  ·rintro⟨j,h1,h2⟩
   simp at h1
   exact⟨t+j,by omega,by omega,by rwa[jfe]at h2⟩
  ·rintro⟨j,h1,h2,h3⟩
   exact⟨j-t,by simp;omega,by rw[jfe,n1 h1];exact h3⟩
 ·rw[h]
  have eg:((T.drop from').take (t-from')).length=((P.drop a).take (p-a)).length:=pI Ws _ CF;constructor
  ·rintro⟨j,h1,h2,h3⟩
   rw[kr P ha,hd]at h3;obtain⟨m,hm,h4,h5⟩:=(gO _ _ _).1 h3;obtain⟨q,hq,h6⟩:=(ny _ _).1 h5;have hl:=pI Ws _ h4;simp at hl hm hq eg
   refine⟨j+(m+q),by omega,by omega,?_⟩;rwa[jfe,jfe]at h6
  ·rintro⟨j,h1,h2,h3⟩
   refine⟨from',by omega,by omega,?_⟩;rw[kr P ha,hd];refine(gO _ _ _).2 ⟨t-from',by rw[jeX];exact Nat.sub_le_sub_right ht _,CF,(ny _ _).2 ⟨j-t,by simp only[jeX];exact n5 hf h1 h2,?_⟩⟩;rw[jfe,jfe,n3 hf h1];exact h3
def jl.step{P T:List Nat}{t p:Nat}{again:Int}{from' c x:Nat}(h:jl P T t p again from')(hc:P[p]?=some c)(hx:T[t]?=some x)(hn:c≠37)(hf:fit c x=true):jl P T (t+1) (p+1) again from':=by
 obtain⟨ht,hp,GL,h⟩:=h;have Gg:p<P.length:=(List.getElem?_eq_some_iff.1 hc).1;have ht1:t<T.length:=(List.getElem?_eq_some_iff.1 hx).1;refine⟨by omega,by omega,by omega,?_⟩;rcases h with ⟨h1,h2,h⟩ | ⟨a,h1,ha,hpa,Ws,CF,h⟩
 ·refine Or.inl ⟨h1,h2,?_⟩
  rw[h,nA hc,nA hx,nz hn,hf];rfl
 ·refine Or.inr ⟨a,h1,Nat.le_succ_of_le ha,n6 ha GL hpa,?_,?_,h⟩
  ·intro d hd
   rw[n2 ha,jf5]at hd;rw[je1]at hd;rcases hd with hd | hd
   ·exact Ws d hd
   ·rw[List.getElem?_drop,n1 ha,hc]at hd
    simp at hd
    omega
  ·rw[n2 ha,jf5,List.getElem?_drop,n1 ha,hc]
   rw[n2 GL,jf5,List.getElem?_drop,n1 GL,hx];show lk (_++[c]) (_++[x])=true
   rw[uf hn,CF,hf];rfl
def zP{P T:List Nat}{t p x:Nat}(hx:T[t]?=some x)(hm:∀ c,P[p]?=some c->c≠37/\fit c x=false):lk (P.drop p) (T.drop t)=false:=by
 rw[nA hx];cases hc:P[p]? with
 | none =>
  rw[jfM (List.getElem?_eq_none_iff.1 hc)];rfl
 | some c =>
  obtain⟨h1,h2⟩:=hm c hc;rw[nA hc,nz h1,h2];rfl
def jl.back{P T:List Nat}{t p:Nat}{a from' x:Nat}(h:jl P T t p (a:Int) from')(hx:T[t]?=some x)(hm:∀ c,P[p]?=some c->c≠37/\fit c x=false):jl P T (from'+1) a (a:Int) (from'+1):=by
 obtain⟨ht,hp,GL,h⟩:=h;have ht1:t<T.length:=(List.getElem?_eq_some_iff.1 hx).1;have hmis:=zP hx hm;rcases h with ⟨h1,_⟩ | ⟨a',h1,ha,hpa,Ws,CF,h⟩
 ·omega
 ·obtain rfl:a=a':=by omega
  refine⟨by omega,by omega,by omega,Or.inr ⟨a,rfl,by omega,by omega,by simp,by simp[lk],?_⟩⟩;rw[h];constructor
  ·rintro⟨j,h2,h3,h4⟩
   refine⟨j,?_,h3,h4⟩;rcases je0 from' j with h5 | h5
   ·omega
   ·exfalso
    obtain rfl:j=from':=by omega
    rw[kr P ha]at h4;obtain⟨m,CY,h6,h7⟩:=(gO _ _ _).1 h4;have hl:=pI Ws _ h6;have qs:=pI Ws _ CF;simp only[jeH,jeX]at hl qs CY;rw[jfe,n7 hl qs CY ht1 GL,hmis]at h7;cases h7
  ·rintro⟨j,h2,h3,h4⟩
   exact⟨j,by omega,h3,h4⟩
def jl.fail{P T:List Nat}{t p:Nat}{from' x:Nat}(h:jl P T t p (-1) from')(hx:T[t]?=some x)(hm:∀ c,P[p]?=some c->c≠37/\fit c x=false):lk P T=false:=by
 obtain⟨ht,hp,GL,h⟩:=h;rcases h with ⟨_,_,h⟩ | ⟨a,h1,_⟩
 ·rw[h];exact zP hx hm
 ·omega
def jl.end{P T:List Nat}{p:Nat}{again:Int}{from':Nat}(h:jl P T T.length p again from'):lk P T=(P.drop p).all (·==37):=by
 obtain⟨ht,hp,GL,h⟩:=h;rcases h with ⟨_,_,h⟩ | ⟨a,h1,ha,hpa,Ws,CF,h⟩
 ·rw[h,jfg,Tc]
 ·rw[jfK,h,<- Tc]
  have qs:=pI Ws _ CF;constructor
  ·rintro⟨j,h2,h3,h4⟩
   rw[kr P ha]at h4;obtain⟨m,CY,h6,h7⟩:=(gO _ _ _).1 h4;have hl:=pI Ws _ h6;simp only[jeH,jeX,Nat.min_self]at hl qs CY;have jcN:T.drop (j+m)=[]:=jfM (n8 hl qs CY h2 h3);rwa[jfe,jcN]at h7
  ·intro h2
   refine⟨from',by omega,GL,?_⟩;rw[kr P ha];refine(gO _ _ _).2 ⟨T.length-from',by simp,CF,?_⟩;have jcN:T.drop (from'+(T.length-from'))=[]:=jfM (n9 GL);rw[jfe,jcN];exact h2
def far(a f g K:Nat):Nat:=(a*K+f)*K+g
def jaP{a f g g' K:Nat}(h:g'<g):far a f g' K<far a f g K:=by unfold far;omega
def jaQ{a f f' g g' K:Nat}(h:f'<f)(hg:g'<K):far a f' g' K<far a f g K:=by
 unfold far;have h1:(a*K+f'+1)*K<=(a*K+f)*K:=jgf _ (by omega);rw[jfd _ 1]at h1;omega
def far_a{a a' f f' g g' K:Nat}(h:a'<a)(hf:f'<K)(hg:g'<K):far a' f' g' K<far a f g K:=by
 unfold far;have h0:(a'+1)*K<=a*K:=jgf _ (by omega);rw[jfd]at h0;have h1:(a'*K+f'+1)*K<=(a*K+f)*K:=jgf _ (by omega);rw[jfd _ 1]at h1;omega
def ik(w:World)(g off:Nat)(Q:List Nat):Prop:=∀(j c:Nat),Q[j]?=some c->w.cell? ⟨g,off+j,none⟩=some (.int .i32 (c:Int))
def DX(Q:List Nat)(g off cap:Nat)(hQ:Q.length<=100000)(w:World)(hr:0<Q.length->ik w g off Q) :
  Calls prog 299 #[.slice (some ⟨g,off,none⟩) Q.length cap] w λe w'=>e=.returned (.bool (Q.all (·==37)))/\w'=w:=by
 have HR:=ae hr;clear hr;go_enter func299,ntmps299
 go_wp2_with fail;go_loopw [7] (λi w'=>w'=w/\∃ k:Nat,i=.int .i64 k/\k<=Q.length/\(Q.take k).all (·==37)=true) (λi _=>Q.length-(intOf i).toNat)
 case atStart=>exact⟨rfl,0,rfl,by omega,by simp⟩
 case round =>
  obtain⟨rfl,k,rfl,hk,ch⟩:=hrel;by_cases ar:k<Q.length
  ·have hg:Q[k]?=some Q[k]:=List.getElem?_eq_getElem ar
   have bC:=HR.o (by omega) k _ hg;have HT:jgt (∀(h:Q.take (k+1)=Q.take k++[Q[k]]),True):=λ_=>trivial
   have HTk:=ae (jeO ar);have HM:=ae (jeD ar);have HA:=ae ch;clear ch hg;generalize Q[k]=c at *;by_cases hc:c=37
   ·subst hc
    go_wp2_with fail;go_roundw
    case rel=>exact⟨trivial,k+1,by go_num,by omega,by rw[HTk.o,List.all_append,HA.o];rfl⟩
    case measure=>simp[intOf];omega
   ·have dC:((c:Int) != 37)=true:=by simp;omega
    go_wp2_with fail;go_ret
    refine⟨da ?_,rfl⟩;symm
    rw[List.all_eq_false];exact⟨c,HM.o,by simpa using hc⟩
  ·have uS:k=Q.length:=by omega
   have HK:=ae uS;clear uS;go_wp2_with fail;go_ret
   refine⟨da ?_,rfl⟩;rw[HK.o,jeJ]at ch;exact ch.symm
def ak{B:Nat}{a w:World}(h:Below B a w)(q:Nat):Below B a (w.drewN q):=h.trans ⟨rfl,rfl,rfl,jeA _,λ_ _=>rfl⟩
def DY(T P:List Nat)(g1 c1 g2 c2:Nat)(hT:T.length<=100000)(hP:P.length<=100000)(jv:P.length<=c2)(w:World)(dP:g1<w.heap.size)(fY:g2<w.heap.size)(h1:ik w g1 0 T)(h2:ik w g2 0 P) :
  Calls prog 281 #[.slice (some ⟨g1,0,none⟩) T.length c1,.slice (some ⟨g2,0,none⟩) P.length c2] w λe w'=>e=.returned (.bool (lk P T))/\jgu w w':=by
 have H1:=ae h1;have H2:=ae h2;clear h1 h2;go_enter func281,ntmps281
 go_wp2_with fail;go_loopw [5,6,7,8] (λa b c d wr=>jgu w wr/\∃(t p f:Nat) (ag:Int),a=.int .i64 t/\b=.int .i64 p/\c=.int .i64 ag/\d=.int .i64 f/\jl P T t p ag f) (λa b c d _=>far (P.length+1-intOf c).toNat (T.length+1-(intOf d).toNat) (T.length+1-(intOf a).toNat) (T.length+2))
 case atStart=>exact⟨jez _ _,0,0,0,-1,rfl,rfl,rfl,rfl,jl.zero P T⟩
 case round =>
  obtain⟨ao,t,p,f,ag,rfl,rfl,rfl,rfl,gx⟩:=hrel;have HB:=ae ao;have HS:=ae gx;have ht:=gx.1;have hp:=gx.2.1;have hf:=gx.2.2.1
  have hag:-1<=ag/\ag<=p:=by
   rcases gx.2.2.2 with ⟨h,_⟩ | ⟨a,h,h2,_⟩
   ·omega
   ·omega
  have H1r:jgt (∀(j c:Nat),T[j]?=some c->wr.cell? ⟨g1,j,none⟩=some (.int .i32 (c:Int))):=λj c hj=>by
   have:=H1.o j c hj;rw[jeU]at this;exact(ao.cell (p:=⟨g1,j,none⟩) dP).trans this
  have H2r:jgt (∀(j c:Nat),P[j]?=some c->wr.cell? ⟨g2,j,none⟩=some (.int .i32 (c:Int))):=λj c hj=>by
   have:=H2.o j c hj;rw[jeU]at this;exact(ao.cell (p:=⟨g2,j,none⟩) fY).trans this
  have yZ:ag=-1∨∃ a:Nat,ag=a:=by
   rcases gx.2.2.2 with ⟨h,_⟩ | ⟨a,h,h2,_⟩
   ·exact Or.inl h
   ·exact Or.inr ⟨a,h⟩
  clear ao gx;by_cases ar:t<T.length
  ·have hx:T[t]?=some T[t]:=List.getElem?_eq_getElem ar
   have hcx:=H1r.o t _ hx;have HX:=ae hx;clear hx;generalize T[t]=x at *;by_cases mT:p<P.length
   ·have hc:P[p]?=some P[p]:=List.getElem?_eq_getElem mT
    have hcc:=H2r.o p _ hc;have HC:=ae hc;clear hc;generalize P[p]=c at *;by_cases h37:c=37
    ·subst h37
     go_wp2_with fail;go_roundw
     case rel=>exact⟨HB.o,t,p+1,t,((p+1:Nat):Int),rfl,by go_num,by go_num,rfl,HS.o.star HC.o⟩
     case measure=>simp[intOf];exact far_a (by omega) (by omega) (by omega)
    ·have h37b:((c:Int)==37)=false:=by simp;omega
     by_cases h95:c=95
     ·subst h95
      go_wp2_with fail;go_quiet (fail)
      go_wp2_with fail;go_roundw
      case rel=>exact⟨ak HB.o _,t+1,p+1,f,ag,by go_num,by go_num,rfl,rfl,HS.o.step HC.o HX.o h37 rfl⟩
      case measure=>simp[intOf];exact jaP (by omega)
     ·have h95b:((c:Int)==95)=false:=by simp;omega
      by_cases Wt:c=x
      ·subst Wt
       go_wp2_with fail;go_quiet (fail)
       go_wp2_with fail;go_roundw
       case rel=>exact⟨ak HB.o _,t+1,p+1,f,ag,by go_num,by go_num,rfl,rfl,HS.o.step HC.o HX.o h37 (by simp[fit])⟩
       case measure=>simp[intOf];exact jaP (by omega)
      ·have hcxb:((c:Int)==(x:Int))=false:=by simp;omega
       have HMS:jgt (∀ c',P[p]?=some c'->c'≠37/\fit c' x=false):=λc' h'=>by
         have hq:=HC.o.symm.trans h';obtain rfl:=Option.some.inj hq;exact⟨h37,by simp[fit,h95,Wt]⟩
       rcases yZ with yZ | ⟨a,yZ⟩
       ·subst yZ
        go_wp2_with fail;go_quiet (fail)
        go_wp2_with fail;go_ret
        exact⟨da (HS.o.fail HX.o HMS.o).symm,ak HB.o _⟩
       ·subst yZ
        have hag0:((a:Int)>=0):=(by omega);go_wp2_with fail;go_quiet (fail)
        go_wp2_with fail;go_roundw
        case rel=>exact⟨ak HB.o _,f+1,a,f+1,(a:Int),by go_num,rfl,rfl,by go_num,HS.o.back HX.o HMS.o⟩
        case measure=>simp[intOf];exact jaQ (by omega) (by omega)
   ·have ja3:P[p]?=none:=List.getElem?_eq_none (by omega)
    have HN:=ae ja3;clear ja3
    have HMS:jgt (∀ c',P[p]?=some c'->c'≠37/\fit c' x=false):=λc' h'=>by
      rw[HN.o]at h';cases h'
    rcases yZ with yZ | ⟨a,yZ⟩
    ·subst yZ
     go_wp2_with fail;go_quiet (fail)
     go_wp2_with fail;go_ret
     exact⟨da (HS.o.fail HX.o HMS.o).symm,ak HB.o _⟩
    ·subst yZ
     have hag0:((a:Int)>=0):=(by omega);go_wp2_with fail;go_quiet (fail)
     go_wp2_with fail;go_roundw
     case rel=>exact⟨ak HB.o _,f+1,a,f+1,(a:Int),by go_num,rfl,rfl,by go_num,HS.o.back HX.o HMS.o⟩
     case measure=>simp[intOf];exact jaQ (by omega) (by omega)
  ·have hte:t=T.length:=by omega
   have gx:=HS.o;rw[hte]at gx;have HE:=ae gx.end;have hln:(P.drop p).length=P.length-p:=by simp
   by_cases hpc:p=c2
   ·subst hpc
    have ft:0<(P.drop p).length->ik wr g2 0 (P.drop p):=λh=>by omega
    have nV:=DX (P.drop p) g2 0 0 (by omega) wr ft;rw[hln,show P.length-p=0 by omega]at nV;have mH:=ae nV;clear hte gx ft hln nV;go_wp2_with fail;refine mH.o.mono ?_;rintro e w1 ⟨rfl,rfl⟩;go_wp2_with fail;go_ret
    exact⟨da HE.o.symm,HB.o⟩
   ·have ft:0<(P.drop p).length->ik wr g2 p (P.drop p):=λ_ j c hj=>by
     rw[List.getElem?_drop]at hj;exact H2r.o (p+j) c hj
    have nV:=DX (P.drop p) g2 p (c2-p) (by omega) wr ft;rw[hln]at nV;have mH:=ae nV;clear hte gx ft hln nV;go_wp2_with fail;refine mH.o.mono ?_;rintro e w1 ⟨rfl,rfl⟩;go_wp2_with fail;go_ret
    exact⟨da HE.o.symm,HB.o⟩
def BC(s:ByteArray):∀(b p:Nat) (acc:Array Value),s.size<=p+b->(Conv.runesFrom s b p acc).toList=acc.toList++(V ((lb s).drop p)).map λu=>Value.int .i32 (u.1:Int):=by
 have hL:=bK s;intro b;induction b with
 | zero =>
  intro p acc h;have hd:(lb s).drop p=[]:=jfM (by omega);rw[hd];simp[Conv.runesFrom]
 | succ b ih =>
  intro p acc h;unfold Conv.runesFrom;by_cases hp:p<s.size
  ·rw[jey hp]
   have dC:=gX (l:=lb s) (p:=p) (by omega);have hw:=cC _ dC;simp only[ke];rw[ih _ _ (by omega),nj dC,jfe];simp
  ·rw[jex hp]
   have hd:(lb s).drop p=[]:=jfM (by omega);rw[hd];simp
def zQ(s:ByteArray):(Conv.runesFrom s s.size 0 #[]).toList=(br (lb s)).map λ(r:Nat)=>Value.int .i32 (r:Int):=by
 rw[BC s s.size 0 #[] (by omega)];simp[br]
def sZ(l:List UInt8):(br l).length=(V l).length:=by simp[br]
def LX{w:World}{C:Array Value}{e:TypeId}{Q:List Nat}{n:Nat}{z:Value}(h:C.toList=Q.map λ(r:Nat)=>Value.int .i32 (r:Int)):ik (w.alloc (.cells (C++Array.replicate n z) e)) w.heap.size 0 Q:=by
 intro j c hj;rw[jeU];have vG:j<Q.length:=(List.getElem?_eq_some_iff.1 hj).1;have gV:C.size=Q.length:=by rw[<- Array.length_toList,h];simp
 have h1:(w.alloc (.cells (C++Array.replicate n z) e)).cell? ⟨w.heap.size,j,none⟩=(C++Array.replicate n z)[j]?:=World.cell?_alloc_mark w _ e (0,0) j;rw[h1,Array.getElem?_append_left (by omega),<- Array.getElem?_toList,h,List.getElem?_map,hj];rfl
def Td(s p:ByteArray)(hs:s.size<=100000)(hp:p.size<=100000)(w:World) :
  Calls prog 267 #[.string s,.string p] w λe w'=>e=.returned (.bool (lk (br (lb p)) (br (lb s))))/\jgu w w':=by
 have CZ:∀ w:World,(convert 9 306 (.string s)).run prog w=_:=λw=>run_runes_of_string w 9 306 21 s underlying9 underlying306 underlying21 (by have:=size_runesFrom s s.size 0 #[];simp at this;omega)
 have Wu:∀ w:World,(convert 9 306 (.string p)).run prog w=_:=λw=>run_runes_of_string w 9 306 21 p underlying9 underlying306 underlying21 (by have:=size_runesFrom p p.size 0 #[];simp at this;omega)
 have hR1:=zQ s;have hR2:=zQ p;have l1:=sM (lb s);have l2:=sM (lb p);rw[bK,<- sZ]at l1 l2;generalize hA:Conv.runesFrom s s.size 0 #[]=A at *;generalize hB:Conv.runesFrom p p.size 0 #[]=B at *;clear hA hB;have hAs:A.size=(br (lb s)).length:=by rw[<- Array.length_toList,hR1];simp
 have hBs:B.size=(br (lb p)).length:=by rw[<- Array.length_toList,hR2];simp
 rw[hAs]at CZ;rw[hBs]at Wu;have jw:=ae hR1;have fZ:=ae hR2;clear hR1 hR2 hAs hBs;generalize br (lb s)=T at *;generalize br (lb p)=P at *;go_enter func267,ntmps267
 go_wp2_with fail;generalize Xw:grownCap w T.length 0 21=ca at *;generalize ZW:w.alloc (Obj.cells (A++Array.replicate (ca-T.length) (Value.int IntKind.i32 0)) 21)=wa;have hra:ik wa w.heap.size 0 T:=by rw[<- ZW];exact LX jw.o
 have hza:wa.heap.size=w.heap.size+1:=by rw[<- ZW];simp
 have Lb:jgu w wa:=by rw[<- ZW];exact(jez _ _).alloc (jeA _) _
 have RC:=grownCap_ge wa.drew P.length 0 21;generalize grownCap wa.drew P.length 0 21=cb at *;generalize hwb:wa.alloc (Obj.cells (B++Array.replicate (cb-P.length) (Value.int IntKind.i32 0)) 21)=wb;have hrb:ik wb (w.heap.size+1) 0 P:=by rw[<- hwb,<- hza];exact LX fZ.o
 have sd:jgu wa wb:=by rw[<- hwb];exact(jez _ _).alloc (jeA _) _
 have hzb:wb.heap.size=w.heap.size+2:=by rw[<- hwb,World.alloc];simp[hza]
 have hra2:ik wb w.heap.size 0 T:=λj c hj=>(sd.cell (p:=⟨w.heap.size,0+j,none⟩) (by show w.heap.size<wa.heap.size;omega)).trans (hra j c hj)
 have vK:jgt (ik wb.drew.drew w.heap.size 0 T):=hra2;have aG:jgt (ik wb.drew.drew (w.heap.size+1) 0 P):=hrb;have cN:jgt (jgu w wb.drew.drew):=(Lb.trans (sd.mono (by omega))).trans ⟨rfl,rfl,rfl,jeA _,λ_ _=>rfl⟩;have hzd:wb.drew.drew.heap.size=w.heap.size+2:=hzb;clear hra Lb hrb sd hra2;refine(DY T P w.heap.size ca (w.heap.size+1) cb (by omega) (by omega) RC wb.drew.drew (by omega) (by omega) vK.o aG.o).mono ?_;rintro e w1 ⟨rfl,az⟩;go_wp2_with fail;go_ret
 exact⟨rfl,cN.o.trans (az.mono (by omega))⟩
end Go.Proofs.YtpljdjmpamjkhaaGreatDoor
