import Derived.Test.YtpljdjmpamjkhaaGreatDoorXab
set_option linter.unusedVariables false
set_option linter.unusedSimpArgs false
set_option maxRecDepth 100000
set_option maxHeartbeats 2000000
namespace Go.Proofs.YtpljdjmpamjkhaaGreatDoor
open Go.RowKit Go.Lib
theorem GL{a b:ByteArray}(h:lb a=lb b):a=b:=by
 cases a;cases b
 simp[lb]at h
 subst h;rfl
theorem gP(s:ByteArray)(a e:Nat):lb (s.extract a e)=((lb s).drop a).take (e-a):=by
 simp[lb,ByteArray.data_extract,Array.toList_extract,List.extract_eq_take_drop]
theorem lV(s:ByteArray)(p:Nat):Utf8.decode s p=aP ((lb s).drop p):=Cy s p
theorem Lb{k:IntKind}{a b:Int}(h:a=b):Ending.returned (.int k a)=.returned (.int k b):=by rw[h]
theorem kq{a b:Bool}(h:a=b):Ending.returned (.bool a)=.returned (.bool b):=by rw[h]
theorem yZ(s:ByteArray):s.toList=lb s:=ByteArray.toList_eq s
theorem Dh(b a:List UInt8):(a.take b.length==b)=b.isPrefixOf a:=by
 rw[jeX];simp only[beq_iff_eq,jeI];constructor
 ·intro h;rw[← h];exact List.take_prefix _ _
 ·rintro⟨t,rfl⟩;simp
theorem vZ(a b:ByteArray)(w:World):Calls Tryz.prog 215 #[.string a,.string b] w fun e w'=>e=.returned (.bool ((lb b).isPrefixOf (lb a)))/\w'=w:=by
 have ha:=cJ a;have hb:=cJ b;by_cases h:(a.size:Int)>=b.size
 ·go_enter Tryz.func215,Tryz.ntmps215
  go_wp2;go_ret
  refine⟨kq ?_,rfl⟩;rw[yZ,yZ,gP,← Dh];simp[hb]
 ·go_enter Tryz.func215,Tryz.ntmps215
  go_wp2;go_ret
  refine⟨kq ?_,rfl⟩;cases hp:(lb b).isPrefixOf (lb a)with
  | false=>rfl
  | true =>
   obtain⟨y,hy⟩:=jeI.1 hp;have:=jdB List.length hy;simp at this
   omega
theorem xY(a b:ByteArray)(w:World):Calls Tryz.prog 183 #[.string a,.string b] w fun e w'=>e=.returned (.bool ((lb b).isPrefixOf (lb a)))/\w'=w:=by
 go_enter Tryz.func183,Tryz.ntmps183
 go_wp2_with fail;refine(vZ _ _ _).mono ?_;rintro e w1 ⟨rfl,rfl⟩;go_wp2_with fail;go_ret
 exact⟨rfl,rfl⟩
theorem ep(w:World)(s:ByteArray)(p:Nat):Below w.heap.size w (w.iter s p):=(jdv _ _).alloc (jdw _) _
theorem xZ{l:List UInt8}{p k:Nat}(h:At l p k)(hp:p<l.length)(ha:((V l).take k).all ok=true):((V l).take (k+1)).all ok=ok (aP (l.drop p)):=by
 rw[uX h hp,List.all_append,ha];simp
theorem Di{u:List (Nat×Nat)}{k:Nat}(h:(u.take k).all ok=false):u.all ok=false:=by
 cases hu:u.all ok with
 | false=>rfl
 | true =>
  rw[List.all_eq_true]at hu;rw[List.all_eq_false]at h;obtain⟨x,hx,VN⟩:=h;exact absurd (hu x (jek hx)) VN
theorem sG(s:ByteArray)(hs:s.size<=100000)(w:World) :
  Calls Tryz.prog 146 #[.string s] w fun e w'=>e=.returned (.bool (dP (lb s)))/\Below w.heap.size w w':=by
 have hL:=cJ s;go_enter Tryz.func146,Tryz.ntmps146
 go_wp2;go_loopw [3] (fun i w'=>∃ p k:Nat,w'=w.iter s p/\At (lb s) p k/\((V (lb s)).take k).all ok=true) (fun _ w'=>s.size-w'.iterPos w.heap.size)
 case atStart=>exact⟨0,0,rfl,At.zero _,rfl⟩
 case round =>
  obtain⟨p,k,rfl,lG,cX⟩:=hrel;by_cases hp:p<s.size
  ·have xM:∀ ty,(Instr.next (.pointer (some ⟨w.heap.size,0,none⟩)) true ty).run Tryz.prog (w.iter s p)=_:=fun ty=>run_next_any w s p ty hp
   rw[lV]at xM;have hw:=dB _ (jd (l:=lb s) (p:=p) (by omega));have hn:=lG.next (by omega)
   have xN:=xZ lG (by omega) cX;have kJ:=Ar (l:=(lb s).drop p) (jd (by omega));clear lG cX;generalize (aP ((lb s).drop p))=u at *;obtain⟨c,wd⟩:=u;simp only at *;by_cases hc:c=65533
   ·subst hc
    have ea:=kJ rfl;clear kJ;go_wp2_with fail;refine(xY _ _ _).mono ?_;rintro e w1 ⟨rfl,rfl⟩
    have dN:(lb { data:=#[239,191,189] }).isPrefixOf (lb (s.extract p s.size))=ok (65533,wd):=by
     rw[← ea,gP,jee (by simp;omega)];rfl
    rw[dN];clear ea dN;cases ho:ok (65533,wd)with
    | true =>
     go_wp2_with fail;go_roundw
     case rel=>exact⟨_,k+1,rfl,hn,by rw[xN,ho]⟩
     case measure=>simp;omega
    | false =>
     go_wp2_with fail;go_ret
     exact⟨kq (by rw[dP,Di (k:=k+1)];rw[xN,ho]),ep _ _ _⟩
   ·have VO:((c:Int)==65533)=false:=by simp;omega
    have ho:ok (c,wd)=true:=by simp[ok,hc]
    clear kJ;go_wp2_with fail;go_roundw
    case rel=>exact⟨_,k+1,rfl,hn,by rw[xN,ho]⟩
    case measure=>simp;omega
  ·have xM:∀ ty,(Instr.next (.pointer (some ⟨w.heap.size,0,none⟩)) true ty).run Tryz.prog (w.iter s p)=_:=fun ty=>run_next_end w s p ty hp
   have HE:jfp (k=(V (lb s)).length/\p=(lb s).length):=lG.end (by omega);clear lG;go_wp2_with fail;go_ret
   refine⟨kq ?_,ep _ _ _⟩;rw[HE.o.1,jdE]at cX;exact cX.symm
def B(s:ByteArray)(k:Nat):Nat:=((lb s).getD k 0).toNat
theorem nH(s:ByteArray)(k:Nat):B s k<256:=UInt8.toNat_lt _
theorem tF(s:ByteArray)(k:Nat)(h:k<s.size):(s[k]'h).toNat=B s k:=by
 unfold B;have h2:k<(lb s).length:=h;rw[List.getD_eq_getElem?_getD,List.getElem?_eq_getElem h2];rfl
theorem ix(s:ByteArray):aP (lb s)=Lib.decodeN s.size (B s 0) (B s 1) (B s 2) (B s 3):=rfl
theorem jo(s:ByteArray)(k:Nat):wrap64 (B s k:Int)=B s k:=by
 have:=nH s k;unfold wrap64;omega
def acc(s:ByteArray)(a:Int):Nat->Int
 | 0=>a
 | k+1=>if k=0 then a else acc s a k*64+B s k-128
theorem dd{s:ByteArray}{c wd:Nat}{o:Bool}(h:aP (lb s)=(c,wd))(ho:ok (c,wd)=o):Ending.returned (.tuple #[.int .i64 (c:Int),.int .i64 (wd:Int),.bool o])=Ending.returned (.tuple #[.int .i64 ((aP (lb s)).1:Int),.int .i64 ((aP (lb s)).2:Int),.bool (ok (aP (lb s)))]):=by
 rw[h,ho]
theorem lW{s:ByteArray}{x:Int}{wd:Nat}{o:Bool}(h:aP (lb s)=(x.toNat,wd))(hx:x=(x.toNat:Int))(ho:ok (x.toNat,wd)=o):Ending.returned (.tuple #[.int .i64 x,.int .i64 wd,.bool o])=Ending.returned (.tuple #[.int .i64 ((aP (lb s)).1:Int),.int .i64 ((aP (lb s)).2:Int),.bool (ok (aP (lb s)))]):=by
 rw[h,ho];show _=Ending.returned (.tuple #[.int .i64 (x.toNat:Int),.int .i64 wd,.bool o])
 rw[← hx]
theorem RC(s:ByteArray)(h0:0<s.size)(hb:B s 0<128)(w:World) :
  Calls Tryz.prog 108 #[.string s] w fun e w'=>e=Ending.returned (.tuple #[.int .i64 ((aP (lb s)).1:Int),.int .i64 ((aP (lb s)).2:Int),.bool (ok (aP (lb s)))])/\w'=w:=by
 have hu:aP (lb s)=(B s 0,1):=by rw[ix];simp only[Lib.decodeN];rw[jdu hb]
 have hg:=tF s 0 h0;have hw:=jo s 0;have HU:jfp (aP (lb s)=(B s 0,1)):=hu;clear hu;generalize B s 0=b at *;have h1:(b:Int)<128:=by omega
 go_enter Tryz.func108,Tryz.ntmps108
 go_wp2_with fail;go_ret3
 refine⟨?_,rfl⟩;exact dd HU.o (by simp[ok];omega)
theorem za(s:ByteArray)(h0:0<s.size)(hb:128<=B s 0)(aE:B s 0<194∨245<=B s 0)(w:World) :
  Calls Tryz.prog 108 #[.string s] w fun e w'=>e=Ending.returned (.tuple #[.int .i64 ((aP (lb s)).1:Int),.int .i64 ((aP (lb s)).2:Int),.bool (ok (aP (lb s)))])/\w'=w:=by
 have hu:aP (lb s)=(65533,1):=by
  have:=nH s 0;have:=nH s 1;have:=nH s 2;have:=nH s 3;rw[ix];simp only[Lib.decodeN];rw[jdt (by omega)];split
  ·rw[jdt (by omega)]
  ·rw[jdt (by omega)]
   split
   ·rw[jdt (by omega)]
   ·rfl
 have hg:=tF s 0 h0;have hw:=jo s 0;have HU:jfp (aP (lb s)=(65533,1)):=hu;clear hu;generalize B s 0=b at *;have h1:¬ (b:Int)<128:=by omega
 rcases aE with aE | aE
 ·have h2:¬ (b:Int)>=194:=by omega
  have h3:¬ (b:Int)>=224:=by omega
  have h4:¬ (b:Int)>=240:=by omega
  go_enter Tryz.func108,Tryz.ntmps108
  go_wp2_with fail;go_ret3
  exact⟨dd HU.o rfl,rfl⟩
 ·have h2:(b:Int)>=194:=by omega
  have h3:(b:Int)>=224:=by omega
  have h4:(b:Int)>=240:=by omega
  have h5:¬ (b:Int)<224:=by omega
  have h6:¬ (b:Int)<240:=by omega
  have h7:¬ (b:Int)<245:=by omega
  go_enter Tryz.func108,Tryz.ntmps108
  go_wp2_with fail;go_ret3
  exact⟨dd HU.o rfl,rfl⟩
theorem Dj(s:ByteArray)(hb:194<=B s 0)(aE:B s 0<224)(hs:s.size<2):aP (lb s)=(65533,1):=by
 rw[ix];simp only[Lib.decodeN];rw[jdt (by omega),jdt (by omega),jdt (by omega),jdt (by omega)]
theorem MD(s:ByteArray)(hb:194<=B s 0)(aE:B s 0<224)(j:Nat)(h1:1<=j)(h2:j<2)(hj:B s j<128∨192<=B s j):aP (lb s)=(65533,1):=by
 have:=nH s 1;have:=nH s 2;have:=nH s 3
 have hc:(B s 1<128∨192<=B s 1):=by
  obtain rfl:j=1:=by omega
  exact hj
 rw[ix];simp only[Lib.decodeN];rw[jdt (by omega),jdt (by omega),jdt (by omega),jdt (by omega)]
theorem ME(s:ByteArray)(hb:194<=B s 0)(aE:B s 0<224)(hj:∀ j,1<=j->j<2->128<=B s j/\B s j<192)(x:Int)(hx:x=acc s (B s 0-192) 2)
  (ho:x<128∨x > 1114111∨(x>=55296/\x<57344)):aP (lb s)=(65533,1):=by
 have:=hj 1 (by omega) (by omega);simp[acc]at hx
 rw[ix];simp only[Lib.decodeN];rw[jdt (by omega)];split
 ·rw[jdt (by omega)]
 ·split
  ·rw[jdt (by omega)]
  ·split
   ·rw[jdt (by omega)]
   ·rfl
theorem RD(s:ByteArray)(hb:194<=B s 0)(aE:B s 0<224)(hs:2<=s.size)(hj:∀ j,1<=j->j<2->128<=B s j/\B s j<192)(x:Int)(hx:x=acc s (B s 0-192) 2)
  (h1:¬ x<128) (h2:¬ x > 1114111) (h3:¬ (x>=55296/\x<57344)):aP (lb s)=(x.toNat,2):=by
 have:=hj 1 (by omega) (by omega);simp[acc]at hx
 rw[ix];simp only[Lib.decodeN];rw[jdt (by omega)];split
 ·first | (exfalso;omega) | (rw[jdu (by omega)];congr 1;omega)
 ·split
  ·first | (exfalso;omega) | (rw[jdu (by omega)];congr 1;omega)
  ·first | (exfalso;omega) | (rw[jdu (by omega),jdu (by omega)];congr 1;omega)
theorem Wx(s:ByteArray)(hb:194<=B s 0)(aE:B s 0<224)(k:Nat)(h1:1<=k)(h2:k<=2)(hj:∀ j,1<=j->j<k->128<=B s j/\B s j<192):0<=acc s (B s 0-192) k/\acc s (B s 0-192) k<=33554432:=by
 obtain rfl | rfl | rfl | rfl:k=1∨k=2∨k=3∨k=4:=by omega
 ·simp[acc];omega
 ·have:=hj 1 (by omega) (by omega)
  simp[acc];omega
 ·have:=hj 1 (by omega) (by omega)
  have:=hj 2 (by omega) (by omega);simp[acc];omega
 ·have:=hj 1 (by omega) (by omega)
  have:=hj 2 (by omega) (by omega);have:=hj 3 (by omega) (by omega);simp[acc];omega
theorem jao(s:ByteArray)(h0:0<s.size)(hs:s.size<=100000)(hb:194<=B s 0)(aE:B s 0<224)(w:World) :
  Calls Tryz.prog 108 #[.string s] w fun e w'=>e=Ending.returned (.tuple #[.int .i64 ((aP (lb s)).1:Int),.int .i64 ((aP (lb s)).2:Int),.bool (ok (aP (lb s)))])/\w'=w:=by
 have HS:jfp (∀ h:s.size<2,aP (lb s)=(65533,1)):=fun h=>Dj s hb aE h
 have HBad:jfp (∀(j:Nat) (h1:1<=j) (h2:j<2) (hj:B s j<128∨192<=B s j),aP (lb s)=(65533,1)):=MD s hb aE;have HOut:jfp _:=ME s hb aE;have HIn:jfp _:=RD s hb aE;have HA:jfp _:=Wx s hb aE;have hg:=tF s 0 h0;have hw:=jo s 0;have ha1:((B s 0:Int)-192)=acc s (B s 0-192) 1:=rfl;generalize hA:acc s (B s 0-192)=A at *;have Fw:jfp (acc s (B s 0-192)=A):=hA;clear hA;generalize xO:B s 0=b at *;clear xO;have h1:¬ (b:Int)<128:=by omega
 have t0:(b:Int)>=194:=by omega
 have t1:(b:Int)<224:=by omega
 by_cases hl:(s.size:Int)<2
 ·go_enter Tryz.func108,Tryz.ntmps108
  go_wp2_with fail;go_ret3
  exact⟨dd (HS.o (by omega)) rfl,rfl⟩
 ·have Aa:2<=s.size:=by omega
  go_enter Tryz.func108,Tryz.ntmps108
  go_wp2_with fail;go_loopw [8,9] (fun n i w'=>w'=w/\∃ k:Nat,i=.int .i64 k/\1<=k/\k<=2/\n=.int .i64 (A k)/\∀ j,1<=j->j<k->128<=B s j/\B s j<192) (fun _ i _=>2-(intOf i).toNat)
  case atStart=>exact⟨rfl,1,rfl,by omega,by omega,rfl,fun j h1 h2=>by omega⟩
  case round =>
   obtain⟨rfl,k,rfl,qp,lq,rfl,hj⟩:=hrel;have hAk:=HA.o k qp lq hj;clear ha1;by_cases aB:k<2
   ·have hgk:=tF s k (by omega)
    have hwk:=jo s k
    have hAs:A (k+1)=A k*64+B s k-128:=by
     rw[← Fw.o,acc,jdt (by omega)]
    have hBk:=nH s k;have HJ:jfp (∀ j,1<=j->j<k->128<=B s j/\B s j<192):=hj;have HBk:jfp (B s k=B s k):=rfl;clear hj;by_cases lp:(B s k:Int)<128
    ·have nt:=HBad.o k qp aB (by omega)
     have HU:jfp (aP (lb s)=(65533,1)):=nt;clear nt hAs;generalize B s k=bk at *;go_wp2_with fail;go_ret3
     exact⟨dd HU.o rfl,rfl⟩
    ·by_cases jT:(B s k:Int)>=192
     ·have nt:=HBad.o k qp aB (by omega)
      have HU:jfp (aP (lb s)=(65533,1)):=nt;clear nt hAs;generalize B s k=bk at *;go_wp2_with fail;go_ret3
      exact⟨dd HU.o rfl,rfl⟩
     ·have HN:jfp (∀ j,1<=j->j<k+1->128<=B s j/\B s j<192):=by
       intro j h1 h2;by_cases h3:j<k
       ·exact HJ.o j h1 h3
       ·obtain rfl:j=k:=by omega
        omega
      have gl:jfp (A (k+1)=A k*64+B s k-128):=hAs;clear hAs;generalize B s k=bk at *;go_wp2_with fail;go_roundw
      case rel=>exact⟨trivial,k+1,by go_num,by omega,by omega,by rw[gl.o],HN.o⟩
      case measure=>simp[intOf];omega
   ·obtain rfl:k=2:=by omega
    have HX:jfp (∀ x:Int,x=A 2->∀ j,1<=j->j<2->128<=B s j/\B s j<192):=fun _ _=>hj
    have HO:=HOut.o hj (A 2) rfl;have HI:=HIn.o Aa hj (A 2) rfl;have du:jfp _:=HO;have rX:jfp _:=HI;clear HO HI hj;generalize A 2=x at *;by_cases t1:x<128
    ·go_wp2_with fail
     go_ret3
     exact⟨dd (du.o (Or.inl t1)) rfl,rfl⟩
    ·by_cases t2:x > 1114111
     ·go_wp2_with fail
      go_ret3
      exact⟨dd (du.o (Or.inr (Or.inl t2))) rfl,rfl⟩
     ·by_cases t3:x>=55296
      ·by_cases t4:x<57344
       ·go_wp2_with fail
        go_ret3
        exact⟨dd (du.o (Or.inr (Or.inr ⟨t3,t4⟩))) rfl,rfl⟩
       ·have hz:x=(x.toNat:Int):=by omega
        have HZ:jfp (x=(x.toNat:Int)):=hz;clear hz;go_wp2_with fail;go_ret3
        exact⟨lW (wd:=2) (rX.o t1 t2 (by omega)) HZ.o (iP (by decide)),rfl⟩
      ·have hz:x=(x.toNat:Int):=by omega
       have HZ:jfp (x=(x.toNat:Int)):=hz;clear hz;go_wp2_with fail;go_ret3
       exact⟨lW (wd:=2) (rX.o t1 t2 (by omega)) HZ.o (iP (by decide)),rfl⟩
theorem Dk(s:ByteArray)(hb:224<=B s 0)(aE:B s 0<240)(hs:s.size<3):aP (lb s)=(65533,1):=by
 rw[ix];simp only[Lib.decodeN];rw[jdt (by omega),jdt (by omega),jdt (by omega),jdt (by omega)]
theorem MF(s:ByteArray)(hb:224<=B s 0)(aE:B s 0<240)(j:Nat)(h1:1<=j)(h2:j<3)(hj:B s j<128∨192<=B s j):aP (lb s)=(65533,1):=by
 have:=nH s 1;have:=nH s 2;have:=nH s 3
 have hc:(B s 1<128∨192<=B s 1)∨(B s 2<128∨192<=B s 2):=by
  obtain rfl | rfl:j=1∨j=2:=by omega
  all_goals omega
 rw[ix];simp only[Lib.decodeN];rw[jdt (by omega),jdt (by omega),jdt (by omega),jdt (by omega)]
theorem MG(s:ByteArray)(hb:224<=B s 0)(aE:B s 0<240)(hj:∀ j,1<=j->j<3->128<=B s j/\B s j<192)(x:Int)(hx:x=acc s (B s 0-224) 3)
  (ho:x<2048∨x > 1114111∨(x>=55296/\x<57344)):aP (lb s)=(65533,1):=by
 have:=hj 1 (by omega) (by omega);have:=hj 2 (by omega) (by omega);simp[acc]at hx
 rw[ix];simp only[Lib.decodeN];rw[jdt (by omega)];split
 ·rw[jdt (by omega)]
 ·split
  ·rw[jdt (by omega)]
  ·split
   ·rw[jdt (by omega)]
   ·rfl
theorem RE(s:ByteArray)(hb:224<=B s 0)(aE:B s 0<240)(hs:3<=s.size)(hj:∀ j,1<=j->j<3->128<=B s j/\B s j<192)(x:Int)(hx:x=acc s (B s 0-224) 3)
  (h1:¬ x<2048) (h2:¬ x > 1114111) (h3:¬ (x>=55296/\x<57344)):aP (lb s)=(x.toNat,3):=by
 have:=hj 1 (by omega) (by omega);have:=hj 2 (by omega) (by omega);simp[acc]at hx
 rw[ix];simp only[Lib.decodeN];rw[jdt (by omega)];split
 ·first | (exfalso;omega) | (rw[jdu (by omega)];congr 1;omega)
 ·split
  ·first | (exfalso;omega) | (rw[jdu (by omega)];congr 1;omega)
  ·first | (exfalso;omega) | (rw[jdu (by omega),jdu (by omega)];congr 1;omega)
theorem Wy(s:ByteArray)(hb:224<=B s 0)(aE:B s 0<240)(k:Nat)(h1:1<=k)(h2:k<=3)(hj:∀ j,1<=j->j<k->128<=B s j/\B s j<192):0<=acc s (B s 0-224) k/\acc s (B s 0-224) k<=33554432:=by
 obtain rfl | rfl | rfl | rfl:k=1∨k=2∨k=3∨k=4:=by omega
 ·simp[acc];omega
 ·have:=hj 1 (by omega) (by omega)
  simp[acc];omega
 ·have:=hj 1 (by omega) (by omega)
  have:=hj 2 (by omega) (by omega);simp[acc];omega
 ·have:=hj 1 (by omega) (by omega)
  have:=hj 2 (by omega) (by omega);have:=hj 3 (by omega) (by omega);simp[acc];omega
theorem jap(s:ByteArray)(h0:0<s.size)(hs:s.size<=100000)(hb:224<=B s 0)(aE:B s 0<240)(w:World) :
  Calls Tryz.prog 108 #[.string s] w fun e w'=>e=Ending.returned (.tuple #[.int .i64 ((aP (lb s)).1:Int),.int .i64 ((aP (lb s)).2:Int),.bool (ok (aP (lb s)))])/\w'=w:=by
 have HS:jfp (∀ h:s.size<3,aP (lb s)=(65533,1)):=fun h=>Dk s hb aE h
 have HBad:jfp (∀(j:Nat) (h1:1<=j) (h2:j<3) (hj:B s j<128∨192<=B s j),aP (lb s)=(65533,1)):=MF s hb aE;have HOut:jfp _:=MG s hb aE;have HIn:jfp _:=RE s hb aE;have HA:jfp _:=Wy s hb aE;have hg:=tF s 0 h0;have hw:=jo s 0;have ha1:((B s 0:Int)-224)=acc s (B s 0-224) 1:=rfl;generalize hA:acc s (B s 0-224)=A at *;have Fw:jfp (acc s (B s 0-224)=A):=hA;clear hA;generalize xO:B s 0=b at *;clear xO;have h1:¬ (b:Int)<128:=by omega
 have t0:(b:Int)>=194:=by omega
 have t1:¬ (b:Int)<224:=by omega
 have t2:(b:Int)>=224:=by omega
 have t3:(b:Int)<240:=by omega
 by_cases hl:(s.size:Int)<3
 ·go_enter Tryz.func108,Tryz.ntmps108
  go_wp2_with fail;go_ret3
  exact⟨dd (HS.o (by omega)) rfl,rfl⟩
 ·have Aa:3<=s.size:=by omega
  go_enter Tryz.func108,Tryz.ntmps108
  go_wp2_with fail;go_loopw [8,9] (fun n i w'=>w'=w/\∃ k:Nat,i=.int .i64 k/\1<=k/\k<=3/\n=.int .i64 (A k)/\∀ j,1<=j->j<k->128<=B s j/\B s j<192) (fun _ i _=>3-(intOf i).toNat)
  case atStart=>exact⟨rfl,1,rfl,by omega,by omega,rfl,fun j h1 h2=>by omega⟩
  case round =>
   obtain⟨rfl,k,rfl,qp,lq,rfl,hj⟩:=hrel;have hAk:=HA.o k qp lq hj;clear ha1;by_cases aB:k<3
   ·have hgk:=tF s k (by omega)
    have hwk:=jo s k
    have hAs:A (k+1)=A k*64+B s k-128:=by
     rw[← Fw.o,acc,jdt (by omega)]
    have hBk:=nH s k;have HJ:jfp (∀ j,1<=j->j<k->128<=B s j/\B s j<192):=hj;have HBk:jfp (B s k=B s k):=rfl;clear hj;by_cases lp:(B s k:Int)<128
    ·have nt:=HBad.o k qp aB (by omega)
     have HU:jfp (aP (lb s)=(65533,1)):=nt;clear nt hAs;generalize B s k=bk at *;go_wp2_with fail;go_ret3
     exact⟨dd HU.o rfl,rfl⟩
    ·by_cases jT:(B s k:Int)>=192
     ·have nt:=HBad.o k qp aB (by omega)
      have HU:jfp (aP (lb s)=(65533,1)):=nt;clear nt hAs;generalize B s k=bk at *;go_wp2_with fail;go_ret3
      exact⟨dd HU.o rfl,rfl⟩
     ·have HN:jfp (∀ j,1<=j->j<k+1->128<=B s j/\B s j<192):=by
       intro j h1 h2;by_cases h3:j<k
       ·exact HJ.o j h1 h3
       ·obtain rfl:j=k:=by omega
        omega
      have gl:jfp (A (k+1)=A k*64+B s k-128):=hAs;clear hAs;generalize B s k=bk at *;go_wp2_with fail;go_roundw
      case rel=>exact⟨trivial,k+1,by go_num,by omega,by omega,by rw[gl.o],HN.o⟩
      case measure=>simp[intOf];omega
   ·obtain rfl:k=3:=by omega
    have HX:jfp (∀ x:Int,x=A 3->∀ j,1<=j->j<3->128<=B s j/\B s j<192):=fun _ _=>hj
    have HO:=HOut.o hj (A 3) rfl;have HI:=HIn.o Aa hj (A 3) rfl;have du:jfp _:=HO;have rX:jfp _:=HI;clear HO HI hj;generalize A 3=x at *;by_cases t1:x<2048
    ·go_wp2_with fail
     go_ret3
     exact⟨dd (du.o (Or.inl t1)) rfl,rfl⟩
    ·by_cases t2:x > 1114111
     ·go_wp2_with fail
      go_ret3
      exact⟨dd (du.o (Or.inr (Or.inl t2))) rfl,rfl⟩
     ·by_cases t3:x>=55296
      ·by_cases t4:x<57344
       ·go_wp2_with fail
        go_ret3
        exact⟨dd (du.o (Or.inr (Or.inr ⟨t3,t4⟩))) rfl,rfl⟩
       ·have hz:x=(x.toNat:Int):=by omega
        have HZ:jfp (x=(x.toNat:Int)):=hz;clear hz;go_wp2_with fail;go_ret3
        exact⟨lW (wd:=3) (rX.o t1 t2 (by omega)) HZ.o (iP (by decide)),rfl⟩
      ·have hz:x=(x.toNat:Int):=by omega
       have HZ:jfp (x=(x.toNat:Int)):=hz;clear hz;go_wp2_with fail;go_ret3
       exact⟨lW (wd:=3) (rX.o t1 t2 (by omega)) HZ.o (iP (by decide)),rfl⟩
theorem Dl(s:ByteArray)(hb:240<=B s 0)(aE:B s 0<245)(hs:s.size<4):aP (lb s)=(65533,1):=by
 rw[ix];simp only[Lib.decodeN];rw[jdt (by omega),jdt (by omega),jdt (by omega),jdt (by omega)]
theorem MH(s:ByteArray)(hb:240<=B s 0)(aE:B s 0<245)(j:Nat)(h1:1<=j)(h2:j<4)(hj:B s j<128∨192<=B s j):aP (lb s)=(65533,1):=by
 have:=nH s 1;have:=nH s 2;have:=nH s 3
 have hc:(B s 1<128∨192<=B s 1)∨(B s 2<128∨192<=B s 2)∨(B s 3<128∨192<=B s 3):=by
  obtain rfl | rfl | rfl:j=1∨j=2∨j=3:=by omega
  all_goals omega
 rw[ix];simp only[Lib.decodeN];rw[jdt (by omega),jdt (by omega),jdt (by omega),jdt (by omega)]
theorem MI(s:ByteArray)(hb:240<=B s 0)(aE:B s 0<245)(hj:∀ j,1<=j->j<4->128<=B s j/\B s j<192)(x:Int)(hx:x=acc s (B s 0-240) 4)
  (ho:x<65536∨x > 1114111∨(x>=55296/\x<57344)):aP (lb s)=(65533,1):=by
 have:=hj 1 (by omega) (by omega);have:=hj 2 (by omega) (by omega);have:=hj 3 (by omega) (by omega);simp[acc]at hx
 rw[ix];simp only[Lib.decodeN];rw[jdt (by omega)];split
 ·rw[jdt (by omega)]
 ·split
  ·rw[jdt (by omega)]
  ·split
   ·rw[jdt (by omega)]
   ·rfl
theorem RG(s:ByteArray)(hb:240<=B s 0)(aE:B s 0<245)(hs:4<=s.size)(hj:∀ j,1<=j->j<4->128<=B s j/\B s j<192)(x:Int)(hx:x=acc s (B s 0-240) 4)
  (h1:¬ x<65536) (h2:¬ x > 1114111) (h3:¬ (x>=55296/\x<57344)):aP (lb s)=(x.toNat,4):=by
 have:=hj 1 (by omega) (by omega);have:=hj 2 (by omega) (by omega);have:=hj 3 (by omega) (by omega);simp[acc]at hx
 rw[ix];simp only[Lib.decodeN];rw[jdt (by omega)];split
 ·first | (exfalso;omega) | (rw[jdu (by omega)];congr 1;omega)
 ·split
  ·first | (exfalso;omega) | (rw[jdu (by omega)];congr 1;omega)
  ·first | (exfalso;omega) | (rw[jdu (by omega),jdu (by omega)];congr 1;omega)
theorem Wz(s:ByteArray)(hb:240<=B s 0)(aE:B s 0<245)(k:Nat)(h1:1<=k)(h2:k<=4)(hj:∀ j,1<=j->j<k->128<=B s j/\B s j<192):0<=acc s (B s 0-240) k/\acc s (B s 0-240) k<=33554432:=by
 obtain rfl | rfl | rfl | rfl:k=1∨k=2∨k=3∨k=4:=by omega
 ·simp[acc];omega
 ·have:=hj 1 (by omega) (by omega)
  simp[acc];omega
 ·have:=hj 1 (by omega) (by omega)
  have:=hj 2 (by omega) (by omega);simp[acc];omega
 ·have:=hj 1 (by omega) (by omega)
  have:=hj 2 (by omega) (by omega);have:=hj 3 (by omega) (by omega);simp[acc];omega
theorem jaq(s:ByteArray)(h0:0<s.size)(hs:s.size<=100000)(hb:240<=B s 0)(aE:B s 0<245)(w:World) :
  Calls Tryz.prog 108 #[.string s] w fun e w'=>e=Ending.returned (.tuple #[.int .i64 ((aP (lb s)).1:Int),.int .i64 ((aP (lb s)).2:Int),.bool (ok (aP (lb s)))])/\w'=w:=by
 have HS:jfp (∀ h:s.size<4,aP (lb s)=(65533,1)):=fun h=>Dl s hb aE h
 have HBad:jfp (∀(j:Nat) (h1:1<=j) (h2:j<4) (hj:B s j<128∨192<=B s j),aP (lb s)=(65533,1)):=MH s hb aE;have HOut:jfp _:=MI s hb aE;have HIn:jfp _:=RG s hb aE;have HA:jfp _:=Wz s hb aE;have hg:=tF s 0 h0;have hw:=jo s 0;have ha1:((B s 0:Int)-240)=acc s (B s 0-240) 1:=rfl;generalize hA:acc s (B s 0-240)=A at *;have Fw:jfp (acc s (B s 0-240)=A):=hA;clear hA;generalize xO:B s 0=b at *;clear xO;have h1:¬ (b:Int)<128:=by omega
 have t0:(b:Int)>=194:=by omega
 have t1:¬ (b:Int)<224:=by omega
 have t2:(b:Int)>=224:=by omega
 have t3:¬ (b:Int)<240:=by omega
 have t4:(b:Int)>=240:=by omega
 have t5:(b:Int)<245:=by omega
 by_cases hl:(s.size:Int)<4
 ·go_enter Tryz.func108,Tryz.ntmps108
  go_wp2_with fail;go_ret3
  exact⟨dd (HS.o (by omega)) rfl,rfl⟩
 ·have Aa:4<=s.size:=by omega
  go_enter Tryz.func108,Tryz.ntmps108
  go_wp2_with fail;go_loopw [8,9] (fun n i w'=>w'=w/\∃ k:Nat,i=.int .i64 k/\1<=k/\k<=4/\n=.int .i64 (A k)/\∀ j,1<=j->j<k->128<=B s j/\B s j<192) (fun _ i _=>4-(intOf i).toNat)
  case atStart=>exact⟨rfl,1,rfl,by omega,by omega,rfl,fun j h1 h2=>by omega⟩
  case round =>
   obtain⟨rfl,k,rfl,qp,lq,rfl,hj⟩:=hrel;have hAk:=HA.o k qp lq hj;clear ha1;by_cases aB:k<4
   ·have hgk:=tF s k (by omega)
    have hwk:=jo s k
    have hAs:A (k+1)=A k*64+B s k-128:=by
     rw[← Fw.o,acc,jdt (by omega)]
    have hBk:=nH s k;have HJ:jfp (∀ j,1<=j->j<k->128<=B s j/\B s j<192):=hj;have HBk:jfp (B s k=B s k):=rfl;clear hj;by_cases lp:(B s k:Int)<128
    ·have nt:=HBad.o k qp aB (by omega)
     have HU:jfp (aP (lb s)=(65533,1)):=nt;clear nt hAs;generalize B s k=bk at *;go_wp2_with fail;go_ret3
     exact⟨dd HU.o rfl,rfl⟩
    ·by_cases jT:(B s k:Int)>=192
     ·have nt:=HBad.o k qp aB (by omega)
      have HU:jfp (aP (lb s)=(65533,1)):=nt;clear nt hAs;generalize B s k=bk at *;go_wp2_with fail;go_ret3
      exact⟨dd HU.o rfl,rfl⟩
     ·have HN:jfp (∀ j,1<=j->j<k+1->128<=B s j/\B s j<192):=by
       intro j h1 h2;by_cases h3:j<k
       ·exact HJ.o j h1 h3
       ·obtain rfl:j=k:=by omega
        omega
      have gl:jfp (A (k+1)=A k*64+B s k-128):=hAs;clear hAs;generalize B s k=bk at *;go_wp2_with fail;go_roundw
      case rel=>exact⟨trivial,k+1,by go_num,by omega,by omega,by rw[gl.o],HN.o⟩
      case measure=>simp[intOf];omega
   ·obtain rfl:k=4:=by omega
    have HX:jfp (∀ x:Int,x=A 4->∀ j,1<=j->j<4->128<=B s j/\B s j<192):=fun _ _=>hj
    have HO:=HOut.o hj (A 4) rfl;have HI:=HIn.o Aa hj (A 4) rfl;have du:jfp _:=HO;have rX:jfp _:=HI;clear HO HI hj;generalize A 4=x at *;by_cases t1:x<65536
    ·go_wp2_with fail
     go_ret3
     exact⟨dd (du.o (Or.inl t1)) rfl,rfl⟩
    ·by_cases t2:x > 1114111
     ·go_wp2_with fail
      go_ret3
      exact⟨dd (du.o (Or.inr (Or.inl t2))) rfl,rfl⟩
     ·by_cases t3:x>=55296
      ·by_cases t4:x<57344
       ·go_wp2_with fail
        go_ret3
        exact⟨dd (du.o (Or.inr (Or.inr ⟨t3,t4⟩))) rfl,rfl⟩
       ·have hz:x=(x.toNat:Int):=by omega
        have HZ:jfp (x=(x.toNat:Int)):=hz;clear hz;go_wp2_with fail;go_ret3
        exact⟨lW (wd:=4) (rX.o t1 t2 (by omega)) HZ.o (iP (by decide)),rfl⟩
      ·have hz:x=(x.toNat:Int):=by omega
       have HZ:jfp (x=(x.toNat:Int)):=hz;clear hz;go_wp2_with fail;go_ret3
       exact⟨lW (wd:=4) (rX.o t1 t2 (by omega)) HZ.o (iP (by decide)),rfl⟩
theorem RH(s:ByteArray)(hs:s.size<=100000)(h0:0<s.size)(w:World) :
  Calls Tryz.prog 108 #[.string s] w fun e w'=>e=.returned (.tuple #[.int .i64 (aP (lb s)).1,.int .i64 (aP (lb s)).2,.bool (ok (aP (lb s)))])/\w'=w:=by
 by_cases h1:B s 0<128
 ·exact RC s h0 h1 w
 ·by_cases h2:B s 0<194
  ·exact za s h0 (by omega) (Or.inl h2) w
  ·by_cases h3:B s 0<224
   ·exact jao s h0 hs (by omega) h3 w
   ·by_cases h4:B s 0<240
    ·exact jap s h0 hs (by omega) h4 w
    ·by_cases h5:B s 0<245
     ·exact jaq s h0 hs (by omega) h5 w
     ·exact za s h0 (by omega) (Or.inr (by omega)) w
def sgn(u:List (Nat×Nat))(k:Nat):List Value:=(u.take k).map fun x=>Value.int .i64 (x.1:Int)
def ats(u:List (Nat×Nat))(k:Nat):List Value:=(List.range k).map fun j=>Value.int .i64 (eJ u j:Int)
theorem RI{l:List UInt8}{p k:Nat}(h:At l p k)(hp:p<l.length):sgn (V l) (k+1)=sgn (V l) k++[.int .i64 ((aP (l.drop p)).1:Int)]:=by
 unfold sgn;rw[uX h hp];simp
theorem RJ{l:List UInt8}{p k:Nat}(h:At l p k):ats (V l) (k+1)=ats (V l) k++[.int .i64 (p:Int)]:=by
 unfold ats;rw[jeN,jdQ,h.2.2.1];rfl
def nI(a b:Value):Prop:=∀ g,a.ownBlock=some g->b.ownBlock≠some g
theorem nI.symm{a b:Value}(h:nI a b):nI b a:=fun g hg h2=>h g h2 hg
theorem nI.ne{a b:Value}(h:nI a b):a.ownBlock=none∨a.ownBlock≠b.ownBlock:=by
 cases ha:a.ownBlock with
 | none=>exact Or.inl rfl
 | some g=>exact Or.inr (fun h2=>h g ha h2.symm)
theorem nI.grow{a a' b:Value}{n:Nat}(h:nI a b)(hn:a'.ownBlock=a.ownBlock∨a'.ownBlock=some n)(hb:∀ k,b.ownBlock=some k->k<n):nI a' b:=by
 intro g hg h2;rcases hn with hn | hn
 ·exact h g (hn ▸ hg) h2
 ·rw[hn]at hg
  have:=hb g h2;have:=Option.some.inj hg;omega
theorem info3:(Tryz.prog.info? 3).map (fun i=>(i.zero,i.size,i.bytes))=some (some (.int .i64 0),1,8):=by kernel_rfl
theorem oH(s:ByteArray)(hs:s.size<=100000)(w:World) :
  Calls Tryz.prog 60 #[.string s] w fun e w'=>(∃ a b,e=.returned (.tuple #[a,b,.bool (dP (lb s))])/\w'.ownsRow w.heap.size 3 1 a (V (lb s)).length (sgn (V (lb s)) (V (lb s)).length)/\w'.ownsRow w.heap.size 3 1 b (V (lb s)).length (ats (V (lb s)) (V (lb s)).length))/\Below w.heap.size w w':=by
 obtain⟨i0,hi,ct,hz1',bv⟩:=jdP info3;have hL:=cJ s;have hV:=Cx (lb s);go_enter Tryz.func60,Tryz.ntmps60
 go_wp2_with fail;go_loopw [5,6,7,8] (fun a b c i wr=>∃ p k:Nat,At (lb s) p k/\i=.int .i64 p/\c=.bool (((V (lb s)).take k).all ok)/\wr.ownsRow w.heap.size 3 1 a k (sgn (V (lb s)) k)/\wr.ownsRow w.heap.size 3 1 b k (ats (V (lb s)) k)/\nI a b/\Below w.heap.size w wr) (fun _ _ _ i _=>s.size-(intOf i).toNat)
 case atStart=>exact⟨0,0,At.zero _,rfl,rfl,jeo _ _ _ _,jeo _ _ _ _,(fun g hg=>by simp[Value.ownBlock]at hg),jdv _ _⟩
 case round =>
  obtain⟨p,k,lG,rfl,rfl,aA,cB,LK,az⟩:=hrel;by_cases hp:p<s.size
  ·have hk:=lG.len (by omega)
   have hw:=dB _ (jd (l:=lb s) (p:=p) (by omega));simp only[jd3]at hw;have HN:=ae (lG.next (by omega));have HS:=ae (RI lG (by omega));have HA:=ae (RJ lG);have HT:=ae (uX lG (by omega));have HO:=ae aA;have du:=ae cB;have HP:=ae LK;have HB:=ae az;have bF:=az.size;clear lG aA cB LK az;have hex:lb (s.extract p s.size)=(lb s).drop p:=by rw[gP,jee (by simp;omega)]
   have hes:(s.extract p s.size).size=s.size-p:=by rw[← cJ,hex];simp;omega
   have hc:=RH (s.extract p s.size) (by omega) (by omega);rw[hex]at hc;have HC:=ae hc;clear hc hex hes;generalize aP ((lb s).drop p)=u at *;obtain⟨c,wd⟩:=u;simp only at *;generalize lp:((V (lb s)).take k).all ok=ck at *;have VP:=ae lp;clear lp;go_wp2_with fail;refine(HC.o _).mono ?_;rintro e w1 ⟨rfl,rfl⟩;go_wp2_with (first | (at_builtin;refine jeb _ rfl _ _ 114 rfl w.heap.size 3 i0 (.int .i64 0) 1 8 Tryz.underlying114 hi ct hz1' bv rfl (by decide) _ _ _ rfl (HO.o.alloc _) ⟨w1.heap.size,0,none⟩ 1 1 [.int .i64 (c:Int)] rfl rfl ?c1 ?c2 ?c3 ?c4 ?c5 ?_))
   case c1=>exact cell_one_new _ _ _
   case c2=>intro u hu;simp at hu;subst hu;rfl
   case c3=>unfold maxLen;omega
   case c4=>omega
   case c5=>simp;omega
   intro v1 w2 o1 g1 _ e1;have hz2w:=g1.size;simp at hz2w
   have eY:=ae o1;have dh:=ae ((du.o.alloc (.cells #[.int .i64 (c:Int)] 3)).kept g1 HP.o.symm.ne);have Co:=ae (HP.o.grow e1 (fun k hk=>by have:=(du.o.lt k hk).2;simp;omega));have aQ:=ae ((HB.o.alloc (by omega) _).grown g1 (by simp;omega) (fun k hk=>(HO.o.lt k hk).1));clear o1 g1 e1;go_wp2_with (first | (at_builtin;refine jeb _ rfl _ _ 114 rfl w.heap.size 3 i0 (.int .i64 0) 1 8 Tryz.underlying114 hi ct hz1' bv rfl (by decide) _ _ _ rfl (dh.o.alloc _) ⟨w2.heap.size,0,none⟩ 1 1 [.int .i64 (p:Int)] rfl rfl ?d1 ?d2 ?d3 ?d4 ?d5 ?_))
   case d1=>exact cell_one_new _ _ _
   case d2=>intro u hu;simp at hu;subst hu;rfl
   case d3=>unfold maxLen;omega
   case d4=>omega
   case d5=>simp;omega
   intro v2 w3 o2 g2 _ e2;have eR:=ae o2;have dE:=ae ((eY.o.alloc (.cells #[.int .i64 (p:Int)] 3)).kept g2 Co.o.ne);have Fx:=ae (Co.o.symm.grow e2 (fun k hk=>by have:=(eY.o.lt k hk).2;simp;omega)).symm;have aO:=ae ((aQ.o.alloc (by omega) _).grown g2 (by simp;omega) (fun k hk=>(dh.o.lt k hk).1));clear o2 g2 e2;cases ck
   all_goals
    go_wp2_with fail;go_roundw
    case rel =>
     refine⟨p+wd,k+1,HN.o,by go_num,?_,?_,?_,Fx.o,aO.o⟩
     ·rw[HT.o,List.all_append,VP.o];simp
     ·rw[HS.o];exact dE.o
     ·rw[HA.o];exact eR.o
    case measure=>simp[intOf];omega
  ·have he:=lG.end (by omega)
   have HE:=ae he;clear he lG;go_wp2_with fail;go_ret3
   obtain⟨rfl,_⟩:=HE.o;exact⟨⟨_,_,(by rw[jdE];rfl),aA,cB⟩,az⟩
theorem Lc{u:List (Nat×Nat)}{n j:Nat}(h:j<n):(ats u n)[j]?=some (.int .i64 (eJ u j:Int)):=by
 simp[ats,h]
theorem Ld{u:List (Nat×Nat)}{j:Nat}(h:j<u.length):(sgn u u.length)[j]?=some (.int .i64 (u[j].1:Int)):=by
 simp[sgn,h]
theorem uP{l:List UInt8}:∀ k,k<=(V l).length->At l (eJ (V l) k) k:=by
 intro k;induction k with
 | zero=>intro _;rw[offs_zero];exact At.zero l
 | succ k ih =>
  intro hk;have h:=ih (by omega)
  have aB:eJ (V l) k<l.length:=by
   rcases jdY (eJ (V l) k) l.length with h1 | h1
   ·exact h1
   ·have:=(h.end (by omega)).1
    omega
  have h2:=h.next aB
  rw[h2.2.2.1]at h2;exact h2
end Go.Proofs.YtpljdjmpamjkhaaGreatDoor
