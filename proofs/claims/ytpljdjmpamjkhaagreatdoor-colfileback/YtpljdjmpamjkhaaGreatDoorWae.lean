import Derived.Test.YtpljdjmpamjkhaaGreatDoorWab
set_option linter.unusedVariables false
set_option linter.unusedSimpArgs false
set_option maxRecDepth 100000
set_option maxHeartbeats 2000000
namespace Go.Proofs.YtpljdjmpamjkhaaGreatDoor
open Go.RowKit Go.Lib
theorem Dh{a b:ByteArray}(h:lb a=lb b):a=b:=by
 cases a;cases b
 simp[lb]at h
 subst h;rfl
theorem fF(s:ByteArray)(a e:Nat):lb (s.extract a e)=((lb s).drop a).take (e-a):=by
 simp[lb,ByteArray.data_extract,Array.toList_extract,List.extract_eq_take_drop]
theorem kB(s:ByteArray)(p:Nat):Utf8.decode s p=aF ((lb s).drop p):=zr s p
theorem FN{k:IntKind}{a b:Int}(h:a=b):Ending.returned (.int k a)=.returned (.int k b):=by rw[h]
theorem jk{a b:Bool}(h:a=b):Ending.returned (.bool a)=.returned (.bool b):=by rw[h]
theorem wE(s:ByteArray):s.toList=lb s:=ByteArray.toList_eq s
theorem zV(b a:List UInt8):(a.take b.length==b)=b.isPrefixOf a:=by
 rw[jaj];simp only[beq_iff_eq,ZV];constructor
 ·intro h;rw[← h];exact List.take_prefix _ _
 ·rintro⟨t,rfl⟩;simp
theorem tL(a b:ByteArray)(w:World):Calls Tryz.prog 215 #[.string a,.string b] w fun e w'=>e=.returned (.bool ((lb b).isPrefixOf (lb a)))/\w'=w:=by
 have ha:=bX a;have hb:=bX b;by_cases h:(a.size:Int)>=b.size
 ·go_enter Tryz.func215,Tryz.ntmps215
  go_wp2;go_ret
  refine⟨jk ?_,rfl⟩;rw[wE,wE,fF,← zV];simp[hb]
 ·go_enter Tryz.func215,Tryz.ntmps215
  go_wp2;go_ret
  refine⟨jk ?_,rfl⟩;cases hp:(lb b).isPrefixOf (lb a)with
  | false=>rfl
  | true =>
   obtain⟨y,hy⟩:=ZV.1 hp;have:=YE List.length hy;simp at this
   omega
theorem vh(a b:ByteArray)(w:World):Calls Tryz.prog 183 #[.string a,.string b] w fun e w'=>e=.returned (.bool ((lb b).isPrefixOf (lb a)))/\w'=w:=by
 go_enter Tryz.func183,Tryz.ntmps183
 go_wp2_with fail;refine(tL _ _ _).mono ?_;rintro e w1 ⟨rfl,rfl⟩;go_wp2_with fail;go_ret
 exact⟨rfl,rfl⟩
theorem dt(w:World)(s:ByteArray)(p:Nat):Below w.heap.size w (w.iter s p):=(Yz _ _).alloc (YA _) _
theorem vi{l:List UInt8}{p k:Nat}(h:At l p k)(hp:p<l.length)(ha:((V l).take k).all ok=true):((V l).take (k+1)).all ok=ok (aF (l.drop p)):=by
 rw[ti h hp,List.all_append,ha];simp
theorem zW{u:List (Nat×Nat)}{k:Nat}(h:(u.take k).all ok=false):u.all ok=false:=by
 cases hu:u.all ok with
 | false=>rfl
 | true =>
  rw[List.all_eq_true]at hu;rw[List.all_eq_false]at h;obtain⟨x,hx,Rh⟩:=h;exact absurd (hu x (ZA hx)) Rh
theorem qs(s:ByteArray)(hs:s.size<=100000)(w:World) :
  Calls Tryz.prog 146 #[.string s] w fun e w'=>e=.returned (.bool (cV (lb s)))/\Below w.heap.size w w':=by
 have hL:=bX s;go_enter Tryz.func146,Tryz.ntmps146
 go_wp2;go_loopw [3] (fun i w'=>∃ p k:Nat,w'=w.iter s p/\At (lb s) p k/\((V (lb s)).take k).all ok=true) (fun _ w'=>s.size-w'.iterPos w.heap.size)
 case atStart=>exact⟨0,0,rfl,At.zero _,rfl⟩
 case round =>
  obtain⟨p,k,rfl,kl,cz⟩:=hrel;by_cases hp:p<s.size
  ·have uU:∀ ty,(Instr.next (.pointer (some ⟨w.heap.size,0,none⟩)) true ty).run Tryz.prog (w.iter s p)=_:=fun ty=>run_next_any w s p ty hp
   rw[kB]at uU;have hw:=cJ _ (gT (l:=lb s) (p:=p) (by omega));have hn:=kl.next (by omega)
   have qa:=vi kl (by omega) cz;have iq:=xF (l:=(lb s).drop p) (gT (by omega));clear kl cz;generalize (aF ((lb s).drop p))=u at *;obtain⟨c,wd⟩:=u;simp only at *;by_cases hc:c=65533
   ·subst hc
    have da:=iq rfl;clear iq;go_wp2_with fail;refine(vh _ _ _).mono ?_;rintro e w1 ⟨rfl,rfl⟩
    have cP:(lb { data:=#[239,191,189] }).isPrefixOf (lb (s.extract p s.size))=ok (65533,wd):=by
     rw[← da,fF,Zo (by simp;omega)];rfl
    rw[cP];clear da cP;cases ho:ok (65533,wd)with
    | true =>
     go_wp2_with fail;go_roundw
     case rel=>exact⟨_,k+1,rfl,hn,by rw[qa,ho]⟩
     case measure=>simp;omega
    | false =>
     go_wp2_with fail;go_ret
     exact⟨jk (by rw[cV,zW (k:=k+1)];rw[qa,ho]),dt _ _ _⟩
   ·have Ri:((c:Int)==65533)=false:=by simp;omega
    have ho:ok (c,wd)=true:=by simp[ok,hc]
    clear iq;go_wp2_with fail;go_roundw
    case rel=>exact⟨_,k+1,rfl,hn,by rw[qa,ho]⟩
    case measure=>simp;omega
  ·have uU:∀ ty,(Instr.next (.pointer (some ⟨w.heap.size,0,none⟩)) true ty).run Tryz.prog (w.iter s p)=_:=fun ty=>run_next_end w s p ty hp
   have HE:jaH (k=(V (lb s)).length/\p=(lb s).length):=kl.end (by omega);clear kl;go_wp2_with fail;go_ret
   refine⟨jk ?_,dt _ _ _⟩;rw[HE.o.1,YK]at cz;exact cz.symm
def B(s:ByteArray)(k:Nat):Nat:=((lb s).getD k 0).toNat
theorem lH(s:ByteArray)(k:Nat):B s k<256:=UInt8.toNat_lt _
theorem ry(s:ByteArray)(k:Nat)(h:k<s.size):(s[k]'h).toNat=B s k:=by
 unfold B;have h2:k<(lb s).length:=h;rw[List.getD_eq_getElem?_getD,List.getElem?_eq_getElem h2];rfl
theorem gi(s:ByteArray):aF (lb s)=Lib.decodeN s.size (B s 0) (B s 1) (B s 2) (B s 3):=rfl
theorem ig(s:ByteArray)(k:Nat):wrap64 (B s k:Int)=B s k:=by
 have:=lH s k;unfold wrap64;omega
def acc(s:ByteArray)(a:Int):Nat->Int
 | 0=>a
 | k+1=>if k=0 then a else acc s a k*64+B s k-128
theorem cx{s:ByteArray}{c wd:Nat}{o:Bool}(h:aF (lb s)=(c,wd))(ho:ok (c,wd)=o):Ending.returned (.tuple #[.int .i64 (c:Int),.int .i64 (wd:Int),.bool o])=Ending.returned (.tuple #[.int .i64 ((aF (lb s)).1:Int),.int .i64 ((aF (lb s)).2:Int),.bool (ok (aF (lb s)))]):=by
 rw[h,ho]
theorem kC{s:ByteArray}{x:Int}{wd:Nat}{o:Bool}(h:aF (lb s)=(x.toNat,wd))(hx:x=(x.toNat:Int))(ho:ok (x.toNat,wd)=o):Ending.returned (.tuple #[.int .i64 x,.int .i64 wd,.bool o])=Ending.returned (.tuple #[.int .i64 ((aF (lb s)).1:Int),.int .i64 ((aF (lb s)).2:Int),.bool (ok (aF (lb s)))]):=by
 rw[h,ho];show _=Ending.returned (.tuple #[.int .i64 (x.toNat:Int),.int .i64 wd,.bool o])
 rw[← hx]
theorem Mk(s:ByteArray)(h0:0<s.size)(hb:B s 0<128)(w:World) :
  Calls Tryz.prog 108 #[.string s] w fun e w'=>e=Ending.returned (.tuple #[.int .i64 ((aF (lb s)).1:Int),.int .i64 ((aF (lb s)).2:Int),.bool (ok (aF (lb s)))])/\w'=w:=by
 have hu:aF (lb s)=(B s 0,1):=by rw[gi];simp only[Lib.decodeN];rw[Yy hb]
 have hg:=ry s 0 h0;have hw:=ig s 0;have HU:jaH (aF (lb s)=(B s 0,1)):=hu;clear hu;generalize B s 0=b at *;have h1:(b:Int)<128:=by omega
 go_enter Tryz.func108,Tryz.ntmps108
 go_wp2_with fail;go_ret3
 refine⟨?_,rfl⟩;exact cx HU.o (by simp[ok];omega)
theorem wF(s:ByteArray)(h0:0<s.size)(hb:128<=B s 0)(ay:B s 0<194∨245<=B s 0)(w:World) :
  Calls Tryz.prog 108 #[.string s] w fun e w'=>e=Ending.returned (.tuple #[.int .i64 ((aF (lb s)).1:Int),.int .i64 ((aF (lb s)).2:Int),.bool (ok (aF (lb s)))])/\w'=w:=by
 have hu:aF (lb s)=(65533,1):=by
  have:=lH s 0;have:=lH s 1;have:=lH s 2;have:=lH s 3;rw[gi];simp only[Lib.decodeN];rw[Yx (by omega)];split
  ·rw[Yx (by omega)]
  ·rw[Yx (by omega)]
   split
   ·rw[Yx (by omega)]
   ·rfl
 have hg:=ry s 0 h0;have hw:=ig s 0;have HU:jaH (aF (lb s)=(65533,1)):=hu;clear hu;generalize B s 0=b at *;have h1:¬ (b:Int)<128:=by omega
 rcases ay with ay | ay
 ·have h2:¬ (b:Int)>=194:=by omega
  have h3:¬ (b:Int)>=224:=by omega
  have h4:¬ (b:Int)>=240:=by omega
  go_enter Tryz.func108,Tryz.ntmps108
  go_wp2_with fail;go_ret3
  exact⟨cx HU.o rfl,rfl⟩
 ·have h2:(b:Int)>=194:=by omega
  have h3:(b:Int)>=224:=by omega
  have h4:(b:Int)>=240:=by omega
  have h5:¬ (b:Int)<224:=by omega
  have h6:¬ (b:Int)<240:=by omega
  have h7:¬ (b:Int)<245:=by omega
  go_enter Tryz.func108,Tryz.ntmps108
  go_wp2_with fail;go_ret3
  exact⟨cx HU.o rfl,rfl⟩
theorem zX(s:ByteArray)(hb:194<=B s 0)(ay:B s 0<224)(hs:s.size<2):aF (lb s)=(65533,1):=by
 rw[gi];simp only[Lib.decodeN];rw[Yx (by omega),Yx (by omega),Yx (by omega),Yx (by omega)]
theorem He(s:ByteArray)(hb:194<=B s 0)(ay:B s 0<224)(j:Nat)(h1:1<=j)(h2:j<2)(hj:B s j<128∨192<=B s j):aF (lb s)=(65533,1):=by
 have:=lH s 1;have:=lH s 2;have:=lH s 3
 have hc:(B s 1<128∨192<=B s 1):=by
  obtain rfl:j=1:=by omega
  exact hj
 rw[gi];simp only[Lib.decodeN];rw[Yx (by omega),Yx (by omega),Yx (by omega),Yx (by omega)]
theorem Hf(s:ByteArray)(hb:194<=B s 0)(ay:B s 0<224)(hj:∀ j,1<=j->j<2->128<=B s j/\B s j<192)(x:Int)(hx:x=acc s (B s 0-192) 2)
  (ho:x<128∨x > 1114111∨(x>=55296/\x<57344)):aF (lb s)=(65533,1):=by
 have:=hj 1 (by omega) (by omega);simp[acc]at hx
 rw[gi];simp only[Lib.decodeN];rw[Yx (by omega)];split
 ·rw[Yx (by omega)]
 ·split
  ·rw[Yx (by omega)]
  ·split
   ·rw[Yx (by omega)]
   ·rfl
theorem Ml(s:ByteArray)(hb:194<=B s 0)(ay:B s 0<224)(hs:2<=s.size)(hj:∀ j,1<=j->j<2->128<=B s j/\B s j<192)(x:Int)(hx:x=acc s (B s 0-192) 2)
  (h1:¬ x<128) (h2:¬ x > 1114111) (h3:¬ (x>=55296/\x<57344)):aF (lb s)=(x.toNat,2):=by
 have:=hj 1 (by omega) (by omega);simp[acc]at hx
 rw[gi];simp only[Lib.decodeN];rw[Yx (by omega)];split
 ·first | (exfalso;omega) | (rw[Yy (by omega)];congr 1;omega)
 ·split
  ·first | (exfalso;omega) | (rw[Yy (by omega)];congr 1;omega)
  ·first | (exfalso;omega) | (rw[Yy (by omega),Yy (by omega)];congr 1;omega)
theorem RY(s:ByteArray)(hb:194<=B s 0)(ay:B s 0<224)(k:Nat)(h1:1<=k)(h2:k<=2)(hj:∀ j,1<=j->j<k->128<=B s j/\B s j<192):0<=acc s (B s 0-192) k/\acc s (B s 0-192) k<=33554432:=by
 obtain rfl | rfl | rfl | rfl:k=1∨k=2∨k=3∨k=4:=by omega
 ·simp[acc];omega
 ·have:=hj 1 (by omega) (by omega)
  simp[acc];omega
 ·have:=hj 1 (by omega) (by omega)
  have:=hj 2 (by omega) (by omega);simp[acc];omega
 ·have:=hj 1 (by omega) (by omega)
  have:=hj 2 (by omega) (by omega);have:=hj 3 (by omega) (by omega);simp[acc];omega
theorem VC(s:ByteArray)(h0:0<s.size)(hs:s.size<=100000)(hb:194<=B s 0)(ay:B s 0<224)(w:World) :
  Calls Tryz.prog 108 #[.string s] w fun e w'=>e=Ending.returned (.tuple #[.int .i64 ((aF (lb s)).1:Int),.int .i64 ((aF (lb s)).2:Int),.bool (ok (aF (lb s)))])/\w'=w:=by
 have HS:jaH (∀ h:s.size<2,aF (lb s)=(65533,1)):=fun h=>zX s hb ay h
 have HBad:jaH (∀(j:Nat) (h1:1<=j) (h2:j<2) (hj:B s j<128∨192<=B s j),aF (lb s)=(65533,1)):=He s hb ay;have HOut:jaH _:=Hf s hb ay;have HIn:jaH _:=Ml s hb ay;have HA:jaH _:=RY s hb ay;have hg:=ry s 0 h0;have hw:=ig s 0;have ha1:((B s 0:Int)-192)=acc s (B s 0-192) 1:=rfl;generalize hA:acc s (B s 0-192)=A at *;have BV:jaH (acc s (B s 0-192)=A):=hA;clear hA;generalize sd:B s 0=b at *;clear sd;have h1:¬ (b:Int)<128:=by omega
 have t0:(b:Int)>=194:=by omega
 have t1:(b:Int)<224:=by omega
 by_cases hl:(s.size:Int)<2
 ·go_enter Tryz.func108,Tryz.ntmps108
  go_wp2_with fail;go_ret3
  exact⟨cx (HS.o (by omega)) rfl,rfl⟩
 ·have yV:2<=s.size:=by omega
  go_enter Tryz.func108,Tryz.ntmps108
  go_wp2_with fail;go_loopw [8,9] (fun n i w'=>w'=w/\∃ k:Nat,i=.int .i64 k/\1<=k/\k<=2/\n=.int .i64 (A k)/\∀ j,1<=j->j<k->128<=B s j/\B s j<192) (fun _ i _=>2-(intOf i).toNat)
  case atStart=>exact⟨rfl,1,rfl,by omega,by omega,rfl,fun j h1 h2=>by omega⟩
  case round =>
   obtain⟨rfl,k,rfl,sP,jJ,rfl,hj⟩:=hrel;have hAk:=HA.o k sP jJ hj;clear ha1;by_cases ar:k<2
   ·have hgk:=ry s k (by omega)
    have hwk:=ig s k
    have hAs:A (k+1)=A k*64+B s k-128:=by
     rw[← BV.o,acc,Yx (by omega)]
    have hBk:=lH s k;have HJ:jaH (∀ j,1<=j->j<k->128<=B s j/\B s j<192):=hj;have HBk:jaH (B s k=B s k):=rfl;clear hj;by_cases jy:(B s k:Int)<128
    ·have qb:=HBad.o k sP ar (by omega)
     have HU:jaH (aF (lb s)=(65533,1)):=qb;clear qb hAs;generalize B s k=bk at *;go_wp2_with fail;go_ret3
     exact⟨cx HU.o rfl,rfl⟩
    ·by_cases jH:(B s k:Int)>=192
     ·have qb:=HBad.o k sP ar (by omega)
      have HU:jaH (aF (lb s)=(65533,1)):=qb;clear qb hAs;generalize B s k=bk at *;go_wp2_with fail;go_ret3
      exact⟨cx HU.o rfl,rfl⟩
     ·have HN:jaH (∀ j,1<=j->j<k+1->128<=B s j/\B s j<192):=by
       intro j h1 h2;by_cases h3:j<k
       ·exact HJ.o j h1 h3
       ·obtain rfl:j=k:=by omega
        omega
      have eP:jaH (A (k+1)=A k*64+B s k-128):=hAs;clear hAs;generalize B s k=bk at *;go_wp2_with fail;go_roundw
      case rel=>exact⟨trivial,k+1,by go_num,by omega,by omega,by rw[eP.o],HN.o⟩
      case measure=>simp[intOf];omega
   ·obtain rfl:k=2:=by omega
    have HX:jaH (∀ x:Int,x=A 2->∀ j,1<=j->j<2->128<=B s j/\B s j<192):=fun _ _=>hj
    have HO:=HOut.o hj (A 2) rfl;have HI:=HIn.o yV hj (A 2) rfl;have ec:jaH _:=HO;have Rj:jaH _:=HI;clear HO HI hj;generalize A 2=x at *;by_cases t1:x<128
    ·go_wp2_with fail
     go_ret3
     exact⟨cx (ec.o (Or.inl t1)) rfl,rfl⟩
    ·by_cases t2:x > 1114111
     ·go_wp2_with fail
      go_ret3
      exact⟨cx (ec.o (Or.inr (Or.inl t2))) rfl,rfl⟩
     ·by_cases t3:x>=55296
      ·by_cases t4:x<57344
       ·go_wp2_with fail
        go_ret3
        exact⟨cx (ec.o (Or.inr (Or.inr ⟨t3,t4⟩))) rfl,rfl⟩
       ·have hz:x=(x.toNat:Int):=by omega
        have HZ:jaH (x=(x.toNat:Int)):=hz;clear hz;go_wp2_with fail;go_ret3
        exact⟨kC (wd:=2) (Rj.o t1 t2 (by omega)) HZ.o (gJ (by decide)),rfl⟩
      ·have hz:x=(x.toNat:Int):=by omega
       have HZ:jaH (x=(x.toNat:Int)):=hz;clear hz;go_wp2_with fail;go_ret3
       exact⟨kC (wd:=2) (Rj.o t1 t2 (by omega)) HZ.o (gJ (by decide)),rfl⟩
theorem zY(s:ByteArray)(hb:224<=B s 0)(ay:B s 0<240)(hs:s.size<3):aF (lb s)=(65533,1):=by
 rw[gi];simp only[Lib.decodeN];rw[Yx (by omega),Yx (by omega),Yx (by omega),Yx (by omega)]
theorem Hg(s:ByteArray)(hb:224<=B s 0)(ay:B s 0<240)(j:Nat)(h1:1<=j)(h2:j<3)(hj:B s j<128∨192<=B s j):aF (lb s)=(65533,1):=by
 have:=lH s 1;have:=lH s 2;have:=lH s 3
 have hc:(B s 1<128∨192<=B s 1)∨(B s 2<128∨192<=B s 2):=by
  obtain rfl | rfl:j=1∨j=2:=by omega
  all_goals omega
 rw[gi];simp only[Lib.decodeN];rw[Yx (by omega),Yx (by omega),Yx (by omega),Yx (by omega)]
theorem Hh(s:ByteArray)(hb:224<=B s 0)(ay:B s 0<240)(hj:∀ j,1<=j->j<3->128<=B s j/\B s j<192)(x:Int)(hx:x=acc s (B s 0-224) 3)
  (ho:x<2048∨x > 1114111∨(x>=55296/\x<57344)):aF (lb s)=(65533,1):=by
 have:=hj 1 (by omega) (by omega);have:=hj 2 (by omega) (by omega);simp[acc]at hx
 rw[gi];simp only[Lib.decodeN];rw[Yx (by omega)];split
 ·rw[Yx (by omega)]
 ·split
  ·rw[Yx (by omega)]
  ·split
   ·rw[Yx (by omega)]
   ·rfl
theorem Mm(s:ByteArray)(hb:224<=B s 0)(ay:B s 0<240)(hs:3<=s.size)(hj:∀ j,1<=j->j<3->128<=B s j/\B s j<192)(x:Int)(hx:x=acc s (B s 0-224) 3)
  (h1:¬ x<2048) (h2:¬ x > 1114111) (h3:¬ (x>=55296/\x<57344)):aF (lb s)=(x.toNat,3):=by
 have:=hj 1 (by omega) (by omega);have:=hj 2 (by omega) (by omega);simp[acc]at hx
 rw[gi];simp only[Lib.decodeN];rw[Yx (by omega)];split
 ·first | (exfalso;omega) | (rw[Yy (by omega)];congr 1;omega)
 ·split
  ·first | (exfalso;omega) | (rw[Yy (by omega)];congr 1;omega)
  ·first | (exfalso;omega) | (rw[Yy (by omega),Yy (by omega)];congr 1;omega)
theorem RZ(s:ByteArray)(hb:224<=B s 0)(ay:B s 0<240)(k:Nat)(h1:1<=k)(h2:k<=3)(hj:∀ j,1<=j->j<k->128<=B s j/\B s j<192):0<=acc s (B s 0-224) k/\acc s (B s 0-224) k<=33554432:=by
 obtain rfl | rfl | rfl | rfl:k=1∨k=2∨k=3∨k=4:=by omega
 ·simp[acc];omega
 ·have:=hj 1 (by omega) (by omega)
  simp[acc];omega
 ·have:=hj 1 (by omega) (by omega)
  have:=hj 2 (by omega) (by omega);simp[acc];omega
 ·have:=hj 1 (by omega) (by omega)
  have:=hj 2 (by omega) (by omega);have:=hj 3 (by omega) (by omega);simp[acc];omega
theorem VD(s:ByteArray)(h0:0<s.size)(hs:s.size<=100000)(hb:224<=B s 0)(ay:B s 0<240)(w:World) :
  Calls Tryz.prog 108 #[.string s] w fun e w'=>e=Ending.returned (.tuple #[.int .i64 ((aF (lb s)).1:Int),.int .i64 ((aF (lb s)).2:Int),.bool (ok (aF (lb s)))])/\w'=w:=by
 have HS:jaH (∀ h:s.size<3,aF (lb s)=(65533,1)):=fun h=>zY s hb ay h
 have HBad:jaH (∀(j:Nat) (h1:1<=j) (h2:j<3) (hj:B s j<128∨192<=B s j),aF (lb s)=(65533,1)):=Hg s hb ay;have HOut:jaH _:=Hh s hb ay;have HIn:jaH _:=Mm s hb ay;have HA:jaH _:=RZ s hb ay;have hg:=ry s 0 h0;have hw:=ig s 0;have ha1:((B s 0:Int)-224)=acc s (B s 0-224) 1:=rfl;generalize hA:acc s (B s 0-224)=A at *;have BV:jaH (acc s (B s 0-224)=A):=hA;clear hA;generalize sd:B s 0=b at *;clear sd;have h1:¬ (b:Int)<128:=by omega
 have t0:(b:Int)>=194:=by omega
 have t1:¬ (b:Int)<224:=by omega
 have t2:(b:Int)>=224:=by omega
 have t3:(b:Int)<240:=by omega
 by_cases hl:(s.size:Int)<3
 ·go_enter Tryz.func108,Tryz.ntmps108
  go_wp2_with fail;go_ret3
  exact⟨cx (HS.o (by omega)) rfl,rfl⟩
 ·have yV:3<=s.size:=by omega
  go_enter Tryz.func108,Tryz.ntmps108
  go_wp2_with fail;go_loopw [8,9] (fun n i w'=>w'=w/\∃ k:Nat,i=.int .i64 k/\1<=k/\k<=3/\n=.int .i64 (A k)/\∀ j,1<=j->j<k->128<=B s j/\B s j<192) (fun _ i _=>3-(intOf i).toNat)
  case atStart=>exact⟨rfl,1,rfl,by omega,by omega,rfl,fun j h1 h2=>by omega⟩
  case round =>
   obtain⟨rfl,k,rfl,sP,jJ,rfl,hj⟩:=hrel;have hAk:=HA.o k sP jJ hj;clear ha1;by_cases ar:k<3
   ·have hgk:=ry s k (by omega)
    have hwk:=ig s k
    have hAs:A (k+1)=A k*64+B s k-128:=by
     rw[← BV.o,acc,Yx (by omega)]
    have hBk:=lH s k;have HJ:jaH (∀ j,1<=j->j<k->128<=B s j/\B s j<192):=hj;have HBk:jaH (B s k=B s k):=rfl;clear hj;by_cases jy:(B s k:Int)<128
    ·have qb:=HBad.o k sP ar (by omega)
     have HU:jaH (aF (lb s)=(65533,1)):=qb;clear qb hAs;generalize B s k=bk at *;go_wp2_with fail;go_ret3
     exact⟨cx HU.o rfl,rfl⟩
    ·by_cases jH:(B s k:Int)>=192
     ·have qb:=HBad.o k sP ar (by omega)
      have HU:jaH (aF (lb s)=(65533,1)):=qb;clear qb hAs;generalize B s k=bk at *;go_wp2_with fail;go_ret3
      exact⟨cx HU.o rfl,rfl⟩
     ·have HN:jaH (∀ j,1<=j->j<k+1->128<=B s j/\B s j<192):=by
       intro j h1 h2;by_cases h3:j<k
       ·exact HJ.o j h1 h3
       ·obtain rfl:j=k:=by omega
        omega
      have eP:jaH (A (k+1)=A k*64+B s k-128):=hAs;clear hAs;generalize B s k=bk at *;go_wp2_with fail;go_roundw
      case rel=>exact⟨trivial,k+1,by go_num,by omega,by omega,by rw[eP.o],HN.o⟩
      case measure=>simp[intOf];omega
   ·obtain rfl:k=3:=by omega
    have HX:jaH (∀ x:Int,x=A 3->∀ j,1<=j->j<3->128<=B s j/\B s j<192):=fun _ _=>hj
    have HO:=HOut.o hj (A 3) rfl;have HI:=HIn.o yV hj (A 3) rfl;have ec:jaH _:=HO;have Rj:jaH _:=HI;clear HO HI hj;generalize A 3=x at *;by_cases t1:x<2048
    ·go_wp2_with fail
     go_ret3
     exact⟨cx (ec.o (Or.inl t1)) rfl,rfl⟩
    ·by_cases t2:x > 1114111
     ·go_wp2_with fail
      go_ret3
      exact⟨cx (ec.o (Or.inr (Or.inl t2))) rfl,rfl⟩
     ·by_cases t3:x>=55296
      ·by_cases t4:x<57344
       ·go_wp2_with fail
        go_ret3
        exact⟨cx (ec.o (Or.inr (Or.inr ⟨t3,t4⟩))) rfl,rfl⟩
       ·have hz:x=(x.toNat:Int):=by omega
        have HZ:jaH (x=(x.toNat:Int)):=hz;clear hz;go_wp2_with fail;go_ret3
        exact⟨kC (wd:=3) (Rj.o t1 t2 (by omega)) HZ.o (gJ (by decide)),rfl⟩
      ·have hz:x=(x.toNat:Int):=by omega
       have HZ:jaH (x=(x.toNat:Int)):=hz;clear hz;go_wp2_with fail;go_ret3
       exact⟨kC (wd:=3) (Rj.o t1 t2 (by omega)) HZ.o (gJ (by decide)),rfl⟩
theorem zZ(s:ByteArray)(hb:240<=B s 0)(ay:B s 0<245)(hs:s.size<4):aF (lb s)=(65533,1):=by
 rw[gi];simp only[Lib.decodeN];rw[Yx (by omega),Yx (by omega),Yx (by omega),Yx (by omega)]
theorem Hi(s:ByteArray)(hb:240<=B s 0)(ay:B s 0<245)(j:Nat)(h1:1<=j)(h2:j<4)(hj:B s j<128∨192<=B s j):aF (lb s)=(65533,1):=by
 have:=lH s 1;have:=lH s 2;have:=lH s 3
 have hc:(B s 1<128∨192<=B s 1)∨(B s 2<128∨192<=B s 2)∨(B s 3<128∨192<=B s 3):=by
  obtain rfl | rfl | rfl:j=1∨j=2∨j=3:=by omega
  all_goals omega
 rw[gi];simp only[Lib.decodeN];rw[Yx (by omega),Yx (by omega),Yx (by omega),Yx (by omega)]
theorem Hj(s:ByteArray)(hb:240<=B s 0)(ay:B s 0<245)(hj:∀ j,1<=j->j<4->128<=B s j/\B s j<192)(x:Int)(hx:x=acc s (B s 0-240) 4)
  (ho:x<65536∨x > 1114111∨(x>=55296/\x<57344)):aF (lb s)=(65533,1):=by
 have:=hj 1 (by omega) (by omega);have:=hj 2 (by omega) (by omega);have:=hj 3 (by omega) (by omega);simp[acc]at hx
 rw[gi];simp only[Lib.decodeN];rw[Yx (by omega)];split
 ·rw[Yx (by omega)]
 ·split
  ·rw[Yx (by omega)]
  ·split
   ·rw[Yx (by omega)]
   ·rfl
theorem Mn(s:ByteArray)(hb:240<=B s 0)(ay:B s 0<245)(hs:4<=s.size)(hj:∀ j,1<=j->j<4->128<=B s j/\B s j<192)(x:Int)(hx:x=acc s (B s 0-240) 4)
  (h1:¬ x<65536) (h2:¬ x > 1114111) (h3:¬ (x>=55296/\x<57344)):aF (lb s)=(x.toNat,4):=by
 have:=hj 1 (by omega) (by omega);have:=hj 2 (by omega) (by omega);have:=hj 3 (by omega) (by omega);simp[acc]at hx
 rw[gi];simp only[Lib.decodeN];rw[Yx (by omega)];split
 ·first | (exfalso;omega) | (rw[Yy (by omega)];congr 1;omega)
 ·split
  ·first | (exfalso;omega) | (rw[Yy (by omega)];congr 1;omega)
  ·first | (exfalso;omega) | (rw[Yy (by omega),Yy (by omega)];congr 1;omega)
theorem Sa(s:ByteArray)(hb:240<=B s 0)(ay:B s 0<245)(k:Nat)(h1:1<=k)(h2:k<=4)(hj:∀ j,1<=j->j<k->128<=B s j/\B s j<192):0<=acc s (B s 0-240) k/\acc s (B s 0-240) k<=33554432:=by
 obtain rfl | rfl | rfl | rfl:k=1∨k=2∨k=3∨k=4:=by omega
 ·simp[acc];omega
 ·have:=hj 1 (by omega) (by omega)
  simp[acc];omega
 ·have:=hj 1 (by omega) (by omega)
  have:=hj 2 (by omega) (by omega);simp[acc];omega
 ·have:=hj 1 (by omega) (by omega)
  have:=hj 2 (by omega) (by omega);have:=hj 3 (by omega) (by omega);simp[acc];omega
theorem VE(s:ByteArray)(h0:0<s.size)(hs:s.size<=100000)(hb:240<=B s 0)(ay:B s 0<245)(w:World) :
  Calls Tryz.prog 108 #[.string s] w fun e w'=>e=Ending.returned (.tuple #[.int .i64 ((aF (lb s)).1:Int),.int .i64 ((aF (lb s)).2:Int),.bool (ok (aF (lb s)))])/\w'=w:=by
 have HS:jaH (∀ h:s.size<4,aF (lb s)=(65533,1)):=fun h=>zZ s hb ay h
 have HBad:jaH (∀(j:Nat) (h1:1<=j) (h2:j<4) (hj:B s j<128∨192<=B s j),aF (lb s)=(65533,1)):=Hi s hb ay;have HOut:jaH _:=Hj s hb ay;have HIn:jaH _:=Mn s hb ay;have HA:jaH _:=Sa s hb ay;have hg:=ry s 0 h0;have hw:=ig s 0;have ha1:((B s 0:Int)-240)=acc s (B s 0-240) 1:=rfl;generalize hA:acc s (B s 0-240)=A at *;have BV:jaH (acc s (B s 0-240)=A):=hA;clear hA;generalize sd:B s 0=b at *;clear sd;have h1:¬ (b:Int)<128:=by omega
 have t0:(b:Int)>=194:=by omega
 have t1:¬ (b:Int)<224:=by omega
 have t2:(b:Int)>=224:=by omega
 have t3:¬ (b:Int)<240:=by omega
 have t4:(b:Int)>=240:=by omega
 have t5:(b:Int)<245:=by omega
 by_cases hl:(s.size:Int)<4
 ·go_enter Tryz.func108,Tryz.ntmps108
  go_wp2_with fail;go_ret3
  exact⟨cx (HS.o (by omega)) rfl,rfl⟩
 ·have yV:4<=s.size:=by omega
  go_enter Tryz.func108,Tryz.ntmps108
  go_wp2_with fail;go_loopw [8,9] (fun n i w'=>w'=w/\∃ k:Nat,i=.int .i64 k/\1<=k/\k<=4/\n=.int .i64 (A k)/\∀ j,1<=j->j<k->128<=B s j/\B s j<192) (fun _ i _=>4-(intOf i).toNat)
  case atStart=>exact⟨rfl,1,rfl,by omega,by omega,rfl,fun j h1 h2=>by omega⟩
  case round =>
   obtain⟨rfl,k,rfl,sP,jJ,rfl,hj⟩:=hrel;have hAk:=HA.o k sP jJ hj;clear ha1;by_cases ar:k<4
   ·have hgk:=ry s k (by omega)
    have hwk:=ig s k
    have hAs:A (k+1)=A k*64+B s k-128:=by
     rw[← BV.o,acc,Yx (by omega)]
    have hBk:=lH s k;have HJ:jaH (∀ j,1<=j->j<k->128<=B s j/\B s j<192):=hj;have HBk:jaH (B s k=B s k):=rfl;clear hj;by_cases jy:(B s k:Int)<128
    ·have qb:=HBad.o k sP ar (by omega)
     have HU:jaH (aF (lb s)=(65533,1)):=qb;clear qb hAs;generalize B s k=bk at *;go_wp2_with fail;go_ret3
     exact⟨cx HU.o rfl,rfl⟩
    ·by_cases jH:(B s k:Int)>=192
     ·have qb:=HBad.o k sP ar (by omega)
      have HU:jaH (aF (lb s)=(65533,1)):=qb;clear qb hAs;generalize B s k=bk at *;go_wp2_with fail;go_ret3
      exact⟨cx HU.o rfl,rfl⟩
     ·have HN:jaH (∀ j,1<=j->j<k+1->128<=B s j/\B s j<192):=by
       intro j h1 h2;by_cases h3:j<k
       ·exact HJ.o j h1 h3
       ·obtain rfl:j=k:=by omega
        omega
      have eP:jaH (A (k+1)=A k*64+B s k-128):=hAs;clear hAs;generalize B s k=bk at *;go_wp2_with fail;go_roundw
      case rel=>exact⟨trivial,k+1,by go_num,by omega,by omega,by rw[eP.o],HN.o⟩
      case measure=>simp[intOf];omega
   ·obtain rfl:k=4:=by omega
    have HX:jaH (∀ x:Int,x=A 4->∀ j,1<=j->j<4->128<=B s j/\B s j<192):=fun _ _=>hj
    have HO:=HOut.o hj (A 4) rfl;have HI:=HIn.o yV hj (A 4) rfl;have ec:jaH _:=HO;have Rj:jaH _:=HI;clear HO HI hj;generalize A 4=x at *;by_cases t1:x<65536
    ·go_wp2_with fail
     go_ret3
     exact⟨cx (ec.o (Or.inl t1)) rfl,rfl⟩
    ·by_cases t2:x > 1114111
     ·go_wp2_with fail
      go_ret3
      exact⟨cx (ec.o (Or.inr (Or.inl t2))) rfl,rfl⟩
     ·by_cases t3:x>=55296
      ·by_cases t4:x<57344
       ·go_wp2_with fail
        go_ret3
        exact⟨cx (ec.o (Or.inr (Or.inr ⟨t3,t4⟩))) rfl,rfl⟩
       ·have hz:x=(x.toNat:Int):=by omega
        have HZ:jaH (x=(x.toNat:Int)):=hz;clear hz;go_wp2_with fail;go_ret3
        exact⟨kC (wd:=4) (Rj.o t1 t2 (by omega)) HZ.o (gJ (by decide)),rfl⟩
      ·have hz:x=(x.toNat:Int):=by omega
       have HZ:jaH (x=(x.toNat:Int)):=hz;clear hz;go_wp2_with fail;go_ret3
       exact⟨kC (wd:=4) (Rj.o t1 t2 (by omega)) HZ.o (gJ (by decide)),rfl⟩
theorem Mo(s:ByteArray)(hs:s.size<=100000)(h0:0<s.size)(w:World) :
  Calls Tryz.prog 108 #[.string s] w fun e w'=>e=.returned (.tuple #[.int .i64 (aF (lb s)).1,.int .i64 (aF (lb s)).2,.bool (ok (aF (lb s)))])/\w'=w:=by
 by_cases h1:B s 0<128
 ·exact Mk s h0 h1 w
 ·by_cases h2:B s 0<194
  ·exact wF s h0 (by omega) (Or.inl h2) w
  ·by_cases h3:B s 0<224
   ·exact VC s h0 hs (by omega) h3 w
   ·by_cases h4:B s 0<240
    ·exact VD s h0 hs (by omega) h4 w
    ·by_cases h5:B s 0<245
     ·exact VE s h0 hs (by omega) h5 w
     ·exact wF s h0 (by omega) (Or.inr (by omega)) w
def sgn(u:List (Nat×Nat))(k:Nat):List Value:=(u.take k).map fun x=>Value.int .i64 (x.1:Int)
def ats(u:List (Nat×Nat))(k:Nat):List Value:=(List.range k).map fun j=>Value.int .i64 (dQ u j:Int)
theorem Mp{l:List UInt8}{p k:Nat}(h:At l p k)(hp:p<l.length):sgn (V l) (k+1)=sgn (V l) k++[.int .i64 ((aF (l.drop p)).1:Int)]:=by
 unfold sgn;rw[ti h hp];simp
theorem Mq{l:List UInt8}{p k:Nat}(h:At l p k):ats (V l) (k+1)=ats (V l) k++[.int .i64 (p:Int)]:=by
 unfold ats;rw[jac,YX,h.2.2.1];rfl
def mX(a b:Value):Prop:=∀ g,a.ownBlock=some g->b.ownBlock≠some g
theorem mX.symm{a b:Value}(h:mX a b):mX b a:=fun g hg h2=>h g h2 hg
theorem mX.ne{a b:Value}(h:mX a b):a.ownBlock=none∨a.ownBlock≠b.ownBlock:=by
 cases ha:a.ownBlock with
 | none=>exact Or.inl rfl
 | some g=>exact Or.inr (fun h2=>h g ha h2.symm)
theorem mX.grow{a a' b:Value}{n:Nat}(h:mX a b)(hn:a'.ownBlock=a.ownBlock∨a'.ownBlock=some n)(hb:∀ k,b.ownBlock=some k->k<n):mX a' b:=by
 intro g hg h2;rcases hn with hn | hn
 ·exact h g (hn ▸ hg) h2
 ·rw[hn]at hg
  have:=hb g h2;have:=Option.some.inj hg;omega
theorem info3:(Tryz.prog.info? 3).map (fun i=>(i.zero,i.size,i.bytes))=some (some (.int .i64 0),1,8):=by kernel_rfl
theorem mu(s:ByteArray)(hs:s.size<=100000)(w:World) :
  Calls Tryz.prog 60 #[.string s] w fun e w'=>(∃ a b,e=.returned (.tuple #[a,b,.bool (cV (lb s))])/\w'.ownsRow w.heap.size 3 1 a (V (lb s)).length (sgn (V (lb s)) (V (lb s)).length)/\w'.ownsRow w.heap.size 3 1 b (V (lb s)).length (ats (V (lb s)) (V (lb s)).length))/\Below w.heap.size w w':=by
 obtain⟨i0,hi,bN,hz1',bh⟩:=YW info3;have hL:=bX s;have hV:=zq (lb s);go_enter Tryz.func60,Tryz.ntmps60
 go_wp2_with fail;go_loopw [5,6,7,8] (fun a b c i wr=>∃ p k:Nat,At (lb s) p k/\i=.int .i64 p/\c=.bool (((V (lb s)).take k).all ok)/\wr.ownsRow w.heap.size 3 1 a k (sgn (V (lb s)) k)/\wr.ownsRow w.heap.size 3 1 b k (ats (V (lb s)) k)/\mX a b/\Below w.heap.size w wr) (fun _ _ _ i _=>s.size-(intOf i).toNat)
 case atStart=>exact⟨0,0,At.zero _,rfl,rfl,Zx _ _ _ _,Zx _ _ _ _,(fun g hg=>by simp[Value.ownBlock]at hg),Yz _ _⟩
 case round =>
  obtain⟨p,k,kl,rfl,rfl,aw,fx,UE,ao⟩:=hrel;by_cases hp:p<s.size
  ·have hk:=kl.len (by omega)
   have hw:=cJ _ (gT (l:=lb s) (p:=p) (by omega));simp only[Zf]at hw;have HN:=ae (kl.next (by omega));have HS:=ae (Mp kl (by omega));have HA:=ae (Mq kl);have HT:=ae (ti kl (by omega));have HO:=ae aw;have ec:=ae fx;have HP:=ae UE;have HB:=ae ao;have bM:=ao.size;clear kl aw fx UE ao;have hex:lb (s.extract p s.size)=(lb s).drop p:=by rw[fF,Zo (by simp;omega)]
   have hes:(s.extract p s.size).size=s.size-p:=by rw[← bX,hex];simp;omega
   have hc:=Mo (s.extract p s.size) (by omega) (by omega);rw[hex]at hc;have HC:=ae hc;clear hc hex hes;generalize aF ((lb s).drop p)=u at *;obtain⟨c,wd⟩:=u;simp only at *;generalize jy:((V (lb s)).take k).all ok=ck at *;have Rk:=ae jy;clear jy;go_wp2_with fail;refine(HC.o _).mono ?_;rintro e w1 ⟨rfl,rfl⟩;go_wp2_with (first | (at_builtin;refine ZI _ rfl _ _ 114 rfl w.heap.size 3 i0 (.int .i64 0) 1 8 Tryz.underlying114 hi bN hz1' bh rfl (by decide) _ _ _ rfl (HO.o.alloc _) ⟨w1.heap.size,0,none⟩ 1 1 [.int .i64 (c:Int)] rfl rfl ?c1 ?c2 ?c3 ?c4 ?c5 ?_))
   case c1=>exact cell_one_new _ _ _
   case c2=>intro u hu;simp at hu;subst hu;rfl
   case c3=>unfold maxLen;omega
   case c4=>omega
   case c5=>simp;omega
   intro v1 w2 o1 g1 _ e1;have hz2w:=g1.size;simp at hz2w
   have fK:=ae o1;have dx:=ae ((ec.o.alloc (.cells #[.int .i64 (c:Int)] 3)).kept g1 HP.o.symm.ne);have Cr:=ae (HP.o.grow e1 (fun k hk=>by have:=(ec.o.lt k hk).2;simp;omega));have aN:=ae ((HB.o.alloc (by omega) _).grown g1 (by simp;omega) (fun k hk=>(HO.o.lt k hk).1));clear o1 g1 e1;go_wp2_with (first | (at_builtin;refine ZI _ rfl _ _ 114 rfl w.heap.size 3 i0 (.int .i64 0) 1 8 Tryz.underlying114 hi bN hz1' bh rfl (by decide) _ _ _ rfl (dx.o.alloc _) ⟨w2.heap.size,0,none⟩ 1 1 [.int .i64 (p:Int)] rfl rfl ?d1 ?d2 ?d3 ?d4 ?d5 ?_))
   case d1=>exact cell_one_new _ _ _
   case d2=>intro u hu;simp at hu;subst hu;rfl
   case d3=>unfold maxLen;omega
   case d4=>omega
   case d5=>simp;omega
   intro v2 w3 o2 g2 _ e2;have fU:=ae o2;have cQ:=ae ((fK.o.alloc (.cells #[.int .i64 (p:Int)] 3)).kept g2 Cr.o.ne);have Qd:=ae (Cr.o.symm.grow e2 (fun k hk=>by have:=(fK.o.lt k hk).2;simp;omega)).symm;have aK:=ae ((aN.o.alloc (by omega) _).grown g2 (by simp;omega) (fun k hk=>(dx.o.lt k hk).1));clear o2 g2 e2;cases ck
   all_goals
    go_wp2_with fail;go_roundw
    case rel =>
     refine⟨p+wd,k+1,HN.o,by go_num,?_,?_,?_,Qd.o,aK.o⟩
     ·rw[HT.o,List.all_append,Rk.o];simp
     ·rw[HS.o];exact cQ.o
     ·rw[HA.o];exact fU.o
    case measure=>simp[intOf];omega
  ·have he:=kl.end (by omega)
   have HE:=ae he;clear he kl;go_wp2_with fail;go_ret3
   obtain⟨rfl,_⟩:=HE.o;exact⟨⟨_,_,(by rw[YK];rfl),aw,fx⟩,ao⟩
theorem FO{u:List (Nat×Nat)}{n j:Nat}(h:j<n):(ats u n)[j]?=some (.int .i64 (dQ u j:Int)):=by
 simp[ats,h]
theorem FP{u:List (Nat×Nat)}{j:Nat}(h:j<u.length):(sgn u u.length)[j]?=some (.int .i64 (u[j].1:Int)):=by
 simp[sgn,h]
theorem sZ{l:List UInt8}:∀ k,k<=(V l).length->At l (dQ (V l) k) k:=by
 intro k;induction k with
 | zero=>intro _;rw[offs_zero];exact At.zero l
 | succ k ih =>
  intro hk;have h:=ih (by omega)
  have ar:dQ (V l) k<l.length:=by
   rcases Zd (dQ (V l) k) l.length with h1 | h1
   ·exact h1
   ·have:=(h.end (by omega)).1
    omega
  have h2:=h.next ar
  rw[h2.2.2.1]at h2;exact h2
theorem wG(s:ByteArray)(hs:s.size<=100000)(w:World) :
  Calls Tryz.prog 188 #[.string s] w fun e w'=>e=.returned (.int .i64 (V (lb s)).length)/\Below w.heap.size w w':=by
 have hL:=bX s;have hV:=zq (lb s);go_enter Tryz.func188,Tryz.ntmps188
 go_wp2;go_loopw [3] (fun n w'=>∃ p k:Nat,w'=w.iter s p/\n=.int .i64 k/\At (lb s) p k) (fun _ w'=>s.size-w'.iterPos w.heap.size)
 case atStart=>exact⟨0,0,rfl,rfl,At.zero _⟩
 case round =>
  obtain⟨p,k,rfl,rfl,kl⟩:=hrel;by_cases hp:p<s.size
  ·have uU:∀ ty,(Instr.next (.pointer (some ⟨w.heap.size,0,none⟩)) true ty).run Tryz.prog (w.iter s p)=_:=fun ty=>run_next_any w s p ty hp
   rw[kB]at uU;have hk:=kl.len (by omega);have hw:=cJ _ (gT (l:=lb s) (p:=p) (by omega));have hn:=kl.next (by omega)
   clear kl;go_wp2;go_roundw
   case rel=>exact⟨_,k+1,rfl,by go_num,hn⟩
   case measure=>simp;omega
  ·have uU:∀ ty,(Instr.next (.pointer (some ⟨w.heap.size,0,none⟩)) true ty).run Tryz.prog (w.iter s p)=_:=fun ty=>run_next_end w s p ty hp
   have HE:jaH (k=(V (lb s)).length/\p=(lb s).length):=kl.end (by omega);clear kl;go_wp2;go_ret
   exact⟨FN (by rw[HE.o.1]),dt _ _ _⟩
def bC(l:List UInt8)(n:Int):List UInt8:=l.take (dQ (V l) n.toNat)
theorem oO(u:List (Nat×Nat))(k:Nat)(h:u.length<=k):dQ u k=dQ u u.length:=by
 unfold dQ;rw[Zo h,YK]
theorem wH(s:ByteArray)(n:Int)(hs:s.size<=100000)(w:World) :
  Calls Tryz.prog 147 #[.string s,.int .i64 n] w fun e w'=>(∃ t,e=.returned (.string t)/\lb t=bC (lb s) n)/\Below w.heap.size w w':=by
 have hL:=bX s;have hV:=zq (lb s);go_enter Tryz.func147,Tryz.ntmps147
 go_wp2;go_loopw [5] (fun m w'=>∃ p k:Nat,w'=w.iter s p/\m=.int .i64 k/\At (lb s) p k/\(k=0∨(k:Int)<=n)) (fun _ w'=>s.size-w'.iterPos w.heap.size)
 case atStart=>exact⟨0,0,rfl,rfl,At.zero _,Or.inl rfl⟩
 case round =>
  obtain⟨p,k,rfl,rfl,kl,Qe⟩:=hrel;by_cases hp:p<s.size
  ·have uU:∀ ty,(Instr.next (.pointer (some ⟨w.heap.size,0,none⟩)) true ty).run Tryz.prog (w.iter s p)=_:=fun ty=>run_next_any w s p ty hp
   rw[kB]at uU;have hk:=kl.len (by omega);have hw:=cJ _ (gT (l:=lb s) (p:=p) (by omega));have hn:=kl.next (by omega)
   have XQ:jaH (p=dQ (V (lb s)) k):=kl.2.2.1;clear kl;by_cases hg:(k:Int)>=n
   ·go_wp2_with fail
    go_ret
    refine⟨⟨_,rfl,?_⟩,dt _ _ _⟩;have hnk:n.toNat=k:=(by omega);rw[bC,hnk,← XQ.o,fF];simp
   ·go_wp2_with fail
    go_roundw
    case rel=>exact⟨_,k+1,rfl,by go_num,hn,Or.inr (by omega)⟩
    case measure=>simp;omega
  ·have uU:∀ ty,(Instr.next (.pointer (some ⟨w.heap.size,0,none⟩)) true ty).run Tryz.prog (w.iter s p)=_:=fun ty=>run_next_end w s p ty hp
   have HE:jaH (k=(V (lb s)).length/\p=(lb s).length):=kl.end (by omega);have XQ:jaH (p=dQ (V (lb s)) k):=kl.2.2.1;clear kl;go_wp2_with fail;go_ret
   refine⟨⟨_,rfl,?_⟩,dt _ _ _⟩;rw[bC];have hpo:=XQ.o;have he:=HE.o
   have eO:(lb s).length<=dQ (V (lb s)) n.toNat:=by
    by_cases uK:(V (lb s)).length<=n.toNat
    ·rw[oO _ _ uK,← HE.o.1,← XQ.o];omega
    ·have:k=0:=by omega
     rw[this]at hpo;simp at hpo
     omega
   rw[Zo eO]
theorem oP{w:World}{B e n:Nat}{v:Value}{xs:List Value}(h:w.ownsRow B e 1 v n xs):(∃ ad cap,v=.slice ad n cap/\∀ g,ad=some g->g.spot=none)/\(0<n->∃ g cap,v=.slice (some ⟨g,0,none⟩) n cap/\g<w.heap.size/\B<=g/\∀ j x,xs[j]?=some x->w.cell? ⟨g,j,none⟩=some x):=by
 obtain⟨hl,h1⟩:=id h;rcases h1 with ⟨rfl,rfl⟩ | ⟨g,cap,cur,rfl,hb,hg,h4⟩
 ·exact⟨⟨none,0,rfl,fun g hg=>by cases hg⟩,fun h=>by omega⟩
 ·refine⟨⟨_,cap,rfl,fun x hx=>by cases hx;rfl⟩,fun _=>⟨g,cap,rfl,(Array.getElem?_eq_some_iff.1 hg).1,hb,fun j x hx=>?_⟩⟩
  have:=h.cells (g:=g) rfl j x hx;have Ff:(⟨g,0,none⟩:Addr).add j=⟨g,j,none⟩:=by unfold Addr.add;split<;>simp_all
  rwa[Ff]at this
theorem ye(s:ByteArray)(n:Int)(hs:s.size<=100000)(w:World) :
  Calls Tryz.prog 62 #[.string s,.int .i64 n] w fun e w'=>(∃ t,e=.returned (.string t)/\lb t=bC (lb s) n)/\Below w.heap.size w w':=by
 have hL:=bX s;have hV:=zq (lb s);have HEx:=ae (fF s);go_enter Tryz.func62,Tryz.ntmps62
 go_wp2_with fail;refine(mu s hs _).mono ?_;rintro e w1 ⟨⟨a,b,rfl,ha,hb⟩,ao⟩;have HB:=ae ao;have hz:=ao.size;clear ao ha;obtain⟨⟨ad,cap,rfl,_⟩,hcells⟩:=oP hb;clear hb;by_cases h1:n<1
 ·clear hcells
  go_wp2_with fail;go_ret
  refine⟨⟨_,rfl,?_⟩,HB.o⟩;have:n.toNat=0:=by omega
  rw[bC,this,offs_zero];rfl
 ·by_cases h2:n>=((V (lb s)).length:Int)
  ·clear hcells
   go_wp2_with fail;go_ret
   refine⟨⟨_,rfl,?_⟩,HB.o⟩;have h3:=(sZ (l:=lb s) (V (lb s)).length (by omega))
   have h4:dQ (V (lb s)) (V (lb s)).length=(lb s).length:=by
    rcases Zd (dQ (V (lb s)) (V (lb s)).length) (lb s).length with h5 | h5
    ·have:=h3.len h5;omega
    ·exact(h3.end (by omega)).2
   rw[bC,oO _ _ (by omega),Zo (by omega)]
  ·obtain⟨g,cap2,et,hg,_,hc⟩:=hcells (by omega)
   obtain⟨k,rfl⟩:∃ k:Nat,n=k:=⟨n.toNat,by omega⟩;simp only[Value.slice.injEq]at et;obtain⟨rfl,_,rfl⟩:=et;have ek:=hc k _ (FO (by omega));have hol:=(sZ (l:=lb s) k (by omega)).1;clear hc;generalize ho:dQ (V (lb s)) k=o at *;have yW:jaH (dQ (V (lb s)) k=o):=ho;clear ho;go_wp2_with fail;go_ret
   refine⟨⟨_,rfl,?_⟩,HB.o⟩;rw[HEx.o,bC,Ze,yW.o];simp
def nx(r:Nat):Nat:=if r=55295 then 57344 else r+1
theorem Uv{r:Nat}(h:vr r)(hg:r≠1114111):vr (nx r):=by
 unfold vr nx at *;split<;>omega
theorem Mr(r:Nat)(h:r<=1114111)(w:World):Calls Tryz.prog 216 #[.int .i32 (r:Int)] w fun e w'=>e=.returned (.int .i32 (nx r:Int))/\w'=w:=by
 by_cases h1:r=55295
 ·subst h1
  go_enter Tryz.func216,Tryz.ntmps216
  go_wp2_with fail;go_ret
  exact⟨rfl,rfl⟩
 ·have h2:((r:Int)==55295)=false:=by simp;omega
  go_enter Tryz.func216,Tryz.ntmps216
  go_wp2_with fail;go_ret
  refine⟨FN ?_,rfl⟩;unfold nx;rw[Yx h1];go_num
def fP(u:List (Nat×Nat)):Nat->Option Nat
 | 0=>none
 | k+1=>if (u.getD k (0,0)).1=1114111 then fP u k else some k
theorem oQ{u:List (Nat×Nat)}:∀{k i:Nat},fP u k=some i->i<k/\(u.getD i (0,0)).1≠1114111:=by
 intro k;induction k with
 | zero=>intro i h;cases h
 | succ k ih =>
  intro i h;simp only[fP]at h;split at h
  ·have:=ih h;exact⟨by omega,this.2⟩
  ·obtain rfl:=Option.some.inj h
   rename_i h2
   exact⟨by omega,h2⟩
def upL(l:List UInt8)(k:Nat):Option (List UInt8):=(fP (V l) k).map fun i=>l.take (dQ (V l) i)++dd (nx ((V l).getD i (0,0)).1)
def iN(l:List UInt8):Option (List UInt8):=upL l (V l).length
def FQ(u:List (Nat×Nat))(k:Nat)(p c:Int):Prop :=
 match fP u k with
 | none=>p=-1
 | some i=>p=dQ u i/\c=nx (u.getD i (0,0)).1
theorem Hk{l:List UInt8}{p k:Nat}(h:At l p k)(hp:p<l.length):(V l).getD k (0,0)=aF (l.drop p):=by
 rw[List.getD_eq_getElem?_getD,h.get hp];rfl
theorem wI(a b:ByteArray):lb (a++b)=lb a++lb b:=by
 simp[lb,ByteArray.data_append]
theorem lb_eq(s:ByteArray):lb s=s.data.toList:=rfl
theorem Hl{c:Nat}(h:vr c):lb (Utf8.encode (c:Int))=dd c:=by
 rw[lb_eq];exact GH c h
def FR(e:Ending)(x:Option (List UInt8)):Prop:=∃ t o,e=.returned (.tuple #[.string t,.bool o])/\o=x.isSome/\lb t=x.getD []
theorem Di(s:ByteArray)(hs:s.size<=100000)(w:World) :
  Calls Tryz.prog 189 #[.string s] w fun e w'=>FR e (iN (lb s))/\Below w.heap.size w w':=by
 have hL:=bX s;have hV:=zq (lb s);have HEx:=ae (fF s);have HAp:=ae wI;go_enter Tryz.func189,Tryz.ntmps189
 go_wp2_with fail;go_loopw [4,5] (fun a c w'=>∃(p k:Nat) (x y:Int),w'=w.iter s p/\a=.int .i64 x/\c=.int .i32 y/\At (lb s) p k/\FQ (V (lb s)) k x y) (fun _ _ w'=>s.size-w'.iterPos w.heap.size)
 case atStart=>exact⟨0,0,-1,1114111,rfl,rfl,rfl,At.zero _,rfl⟩
 case round =>
  obtain⟨p,k,x,y,rfl,rfl,rfl,kl,mO⟩:=hrel;by_cases hp:p<s.size
  ·have uU:∀ ty,(Instr.next (.pointer (some ⟨w.heap.size,0,none⟩)) true ty).run Tryz.prog (w.iter s p)=_:=fun ty=>run_next_any w s p ty hp
   rw[kB]at uU;have hw:=cJ _ (gT (l:=lb s) (p:=p) (by omega));have TI:=FA _ (gT (l:=lb s) (p:=p) (by omega));have HN:=ae (kl.next (by omega));have XQ:jaH (p=dQ (V (lb s)) k):=kl.2.2.1;have HG:=ae (Hk kl (by omega));have zh:=ae mO;clear kl mO;generalize aF ((lb s).drop p)=u at *;obtain⟨c,wd⟩:=u;simp only at *;have hc:c<=1114111:=by unfold vr at TI;omega
   clear TI;by_cases hg:c=1114111
   ·subst hg
    go_wp2_with fail;go_roundw
    case rel =>
     refine⟨_,k+1,x,y,rfl,rfl,rfl,HN.o,?_⟩;have h1:=zh.o;unfold FQ at h1 ⊢;rw[fP,HG.o,Yy rfl];exact h1
    case measure=>simp;omega
   ·have fb:((c:Int) != 1114111)=true:=by simp;omega
    go_wp2_with fail;refine(Mr c hc _).mono ?_;rintro e w1 ⟨rfl,rfl⟩;go_wp2_with fail;go_roundw
    case rel =>
     refine⟨_,k+1,_,_,rfl,rfl,rfl,HN.o,?_⟩;unfold FQ;rw[fP,HG.o,Yx hg];simp only;rw[HG.o];exact⟨by rw[XQ.o],rfl⟩
    case measure=>simp;omega
  ·have uU:∀ ty,(Instr.next (.pointer (some ⟨w.heap.size,0,none⟩)) true ty).run Tryz.prog (w.iter s p)=_:=fun ty=>run_next_end w s p ty hp
   have HE:=ae (kl.end (by omega));clear kl;obtain⟨rfl,hpe⟩:=HE.o;clear HE hpe;unfold FQ at mO;cases hlg:fP (V (lb s)) (V (lb s)).length with
   | none =>
    rw[hlg]at mO;simp only at mO;subst mO;have UF:=ae hlg;clear hlg;go_wp2_with fail;go_ret2
    refine⟨⟨_,_,rfl,?_,?_⟩,dt _ _ _⟩
    ·rw[iN,upL,UF.o];rfl
    ·rw[iN,upL,UF.o];rfl
   | some i =>
    rw[hlg]at mO;simp only at mO;obtain⟨rfl,rfl⟩:=mO;have UF:=ae hlg;have hil:=oQ hlg;have hoi:=(sZ (l:=lb s) i (by omega)).1
    have hvx:vr (nx ((V (lb s)).getD i (0,0)).1):=by
     refine Uv ?_ hil.2;have Ld:i<(V (lb s)).length:=hil.1;rw[List.getD_eq_getElem?_getD,List.getElem?_eq_getElem Ld];exact(RH _ _ (YA _) _ (YF Ld)).1
    have HE:=ae (Hl hvx);clear hlg hil hvx;generalize ho:dQ (V (lb s)) i=o at *;have HO:jaH (dQ (V (lb s)) i=o):=ho;clear ho;generalize hc:nx ((V (lb s)).getD i (0,0)).1=c at *;have HC:jaH (nx ((V (lb s)).getD i (0,0)).1=c):=hc;clear hc;generalize hE:Utf8.encode (c:Int)=E at *;have hEs:E.size<=4:=by rw[← bX,HE.o];exact(fX c).2
    have hXs:(s.extract 0 o).size<=100000:=by rw[← bX,HEx.o];simp;omega
    have hneg:¬ (o:Int)<0:=(by omega)
    have Le:∀ w,(convert 21 9 (.int .i32 (c:Int))).run Tryz.prog w=.ok (.string E) w:=fun w=>by
     rw[run_convert_int_string w 21 9 .i32 c (by kernel_rfl) Tryz.underlying9,hE]
    clear hE;have Ff:∀ w,(Op.stringOp .add (s.extract 0 o) E).run Tryz.prog w=.ok (.string (s.extract 0 o++E)) w:=fun w=>run_string_add_sum w _ _ (by omega)
    go_wp2_with fail;go_ret2
    refine⟨⟨_,_,rfl,?_,?_⟩,dt _ _ _⟩
    ·rw[iN,upL,UF.o];rfl
    ·rw[iN,upL,UF.o,HAp.o,HEx.o,HE.o,ZU,HO.o,HC.o]
     simp
def fG(l:List UInt8)(n:Int):Option (List UInt8) :=
 if cV l=true then (if ((V l).length:Int)<=n then some l else iN (bC l n)) else none
theorem nH(l:List UInt8)(n:Int):(bC l n).length<=l.length:=by
 unfold bC;simp;omega
theorem Hm(s:ByteArray)(n:Int)(hs:s.size<=100000)(w:World) :
  Calls Tryz.prog 153 #[.string s,.int .i64 n] w fun e w'=>FR e (fG (lb s) n)/\Below w.heap.size w w':=by
 have hL:=bX s;have hV:=zq (lb s);go_enter Tryz.func153,Tryz.ntmps153
 go_wp2_with fail;refine(qs s hs _).mono ?_;rintro e w1 ⟨rfl,aA⟩;have HX:jaH (fG (lb s) n=if cV (lb s)=true then (if ((V (lb s)).length:Int)<=n then some (lb s) else iN (bC (lb s) n)) else none):=rfl;cases hc:cV (lb s)with
 | false =>
  have HB:=ae aA;rw[hc]at HX;clear aA hc;go_wp2_with fail;go_ret2
  rw[HX.o];exact⟨⟨_,_,rfl,rfl,rfl⟩,HB.o⟩
 | true =>
  have HB:=ae aA;rw[hc]at HX;have hz:=aA.size;clear aA hc;go_wp2_with fail;refine(wG s hs _).mono ?_;rintro e w2 ⟨rfl,ay⟩;have aK:=ae ay;have bh:=ay.size;clear ay;by_cases ob:((V (lb s)).length:Int)<=n
  ·rw[Yy ob]at HX
   go_wp2_with fail;go_ret2
   rw[HX.o];exact⟨⟨_,_,rfl,rfl,rfl⟩,HB.o.trans (aK.o.mono hz)⟩
  ·rw[Yx ob]at HX
   go_wp2_with fail;refine(wH s n hs _).mono ?_;rintro e w3 ⟨⟨t,rfl,ht⟩,aO⟩;have bT:=ae aO;have jE:=aO.size;have HT:=ae ht
   have Cs:t.size<=100000:=by
    have:=nH (lb s) n;rw[← ht,bX,bX]at this;omega
   clear aO ht;go_wp2_with fail;refine(Di t Cs _).mono ?_;rintro e w4 ⟨⟨t2,o,rfl,ho,Fh⟩,bm⟩;have cA:=ae bm;have Kx:=bm.size;have H2:=ae (And.intro ho Fh);clear bm ho Fh;go_wp2_with fail;go_ret2
   rw[HX.o];refine⟨⟨t2,o,rfl,?_⟩,((HB.o.trans (aK.o.mono hz)).trans (bT.o.mono (by omega))).trans (cA.o.mono (by omega))⟩;simp only[if_true];rw[← HT.o];exact H2.o
def lk:List Nat->List Nat->Bool
 | [],t=>t.isEmpty
 | c::p,t=>if c=37 then (List.range (t.length+1)).any (fun j=>lk p (t.drop j)) else
   match t with
   | []=>false
   | x::t'=>(c==95 || c==x) && lk p t'
theorem ak{B:Nat}{a w:World}(h:Below B a w)(q:Nat):Below B a (w.drewN q):=h.trans ⟨rfl,rfl,rfl,YA _,fun _ _=>rfl⟩
end Go.Proofs.YtpljdjmpamjkhaaGreatDoor
