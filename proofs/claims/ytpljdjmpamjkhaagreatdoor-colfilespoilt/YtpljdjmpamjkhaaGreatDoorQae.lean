import Derived.Test.YtpljdjmpamjkhaaGreatDoorQab
set_option linter.unusedVariables false
set_option linter.unusedSimpArgs false
set_option maxRecDepth 100000
set_option maxHeartbeats 2000000
namespace Go.Proofs.YtpljdjmpamjkhaaGreatDoor
open Go.RowKit Go.Lib
theorem Ht{a b:ByteArray}(h:lb a=lb b):a=b:=by
 cases a;cases b
 simp[lb]at h
 subst h;rfl
theorem gS(s:ByteArray)(a e:Nat):lb (s.extract a e)=((lb s).drop a).take (e-a):=by
 simp[lb,ByteArray.data_extract,Array.toList_extract,List.extract_eq_take_drop]
theorem me(s:ByteArray)(p:Nat):Utf8.decode s p=aR ((lb s).drop p):=Ds s p
theorem LQ{k:IntKind}{a b:Int}(h:a=b):Ending.returned (.int k a)=.returned (.int k b):=by rw[h]
theorem kz{a b:Bool}(h:a=b):Ending.returned (.bool a)=.returned (.bool b):=by rw[h]
theorem zM(s:ByteArray):s.toList=lb s:=ByteArray.toList_eq s
theorem DV(b a:List UInt8):(a.take b.length==b)=b.isPrefixOf a:=by
 rw[jfN];simp only[beq_iff_eq,jfy];constructor
 ·intro h;rw[← h];exact List.take_prefix _ _
 ·rintro⟨t,rfl⟩;simp
theorem xe(a b:ByteArray)(w:World):Calls Tryz.prog 215 #[.string a,.string b] w fun e w'=>e=.returned (.bool ((lb b).isPrefixOf (lb a)))/\w'=w:=by
 have ha:=cL a;have hb:=cL b;by_cases h:(a.size:Int)>=b.size
 ·go_enter Tryz.func215,Tryz.ntmps215
  go_wp2;go_ret
  refine⟨kz ?_,rfl⟩;rw[zM,zM,gS,← DV];simp[hb]
 ·go_enter Tryz.func215,Tryz.ntmps215
  go_wp2;go_ret
  refine⟨kz ?_,rfl⟩;cases hp:(lb b).isPrefixOf (lb a)with
  | false=>rfl
  | true =>
   obtain⟨y,hy⟩:=jfy.1 hp;have:=jep List.length hy;simp at this
   omega
theorem yJ(a b:ByteArray)(w:World):Calls Tryz.prog 183 #[.string a,.string b] w fun e w'=>e=.returned (.bool ((lb b).isPrefixOf (lb a)))/\w'=w:=by
 go_enter Tryz.func183,Tryz.ntmps183
 go_wp2_with fail;refine(xe _ _ _).mono ?_;rintro e w1 ⟨rfl,rfl⟩;go_wp2_with fail;go_ret
 exact⟨rfl,rfl⟩
theorem ez(w:World)(s:ByteArray)(p:Nat):Below w.heap.size w (w.iter s p):=(jej _ _).alloc (jek _) _
theorem yK{l:List UInt8}{p k:Nat}(h:At l p k)(hp:p<l.length)(ha:((V l).take k).all ok=true):((V l).take (k+1)).all ok=ok (aR (l.drop p)):=by
 rw[ws h hp,List.all_append,ha];simp
theorem DW{u:List (Nat×Nat)}{k:Nat}(h:(u.take k).all ok=false):u.all ok=false:=by
 cases hu:u.all ok with
 | false=>rfl
 | true =>
  rw[List.all_eq_true]at hu;rw[List.all_eq_false]at h;obtain⟨x,hx,WE⟩:=h;exact absurd (hu x (je2 hx)) WE
theorem tc(s:ByteArray)(hs:s.size<=100000)(w:World) :
  Calls Tryz.prog 146 #[.string s] w fun e w'=>e=.returned (.bool (dS (lb s)))/\Below w.heap.size w w':=by
 have hL:=cL s;go_enter Tryz.func146,Tryz.ntmps146
 go_wp2;go_loopw [3] (fun i w'=>∃ p k:Nat,w'=w.iter s p/\At (lb s) p k/\((V (lb s)).take k).all ok=true) (fun _ w'=>s.size-w'.iterPos w.heap.size)
 case atStart=>exact⟨0,0,rfl,At.zero _,rfl⟩
 case round =>
  obtain⟨p,k,rfl,kg,cZ⟩:=hrel;by_cases hp:p<s.size
  ·have yw:∀ ty,(Instr.next (.pointer (some ⟨w.heap.size,0,none⟩)) true ty).run Tryz.prog (w.iter s p)=_:=fun ty=>run_next_any w s p ty hp
   rw[me]at yw;have hw:=dF _ (jp (l:=lb s) (p:=p) (by omega));have hn:=kg.next (by omega)
   have yh:=yK kg (by omega) cZ;have gV:=Bl (l:=(lb s).drop p) (jp (by omega));clear kg cZ;generalize (aR ((lb s).drop p))=u at *;obtain⟨c,wd⟩:=u;simp only at *;by_cases hc:c=65533
   ·subst hc
    have eg:=gV rfl;clear gV;go_wp2_with fail;refine(yJ _ _ _).mono ?_;rintro e w1 ⟨rfl,rfl⟩
    have dR:(lb { data:=#[239,191,189] }).isPrefixOf (lb (s.extract p s.size))=ok (65533,wd):=by
     rw[← eg,gS,je4 (by simp;omega)];rfl
    rw[dR];clear eg dR;cases ho:ok (65533,wd)with
    | true =>
     go_wp2_with fail;go_roundw
     case rel=>exact⟨_,k+1,rfl,hn,by rw[yh,ho]⟩
     case measure=>simp;omega
    | false =>
     go_wp2_with fail;go_ret
     exact⟨kz (by rw[dS,DW (k:=k+1)];rw[yh,ho]),ez _ _ _⟩
   ·have WF:((c:Int)==65533)=false:=by simp;omega
    have ho:ok (c,wd)=true:=by simp[ok,hc]
    clear gV;go_wp2_with fail;go_roundw
    case rel=>exact⟨_,k+1,rfl,hn,by rw[yh,ho]⟩
    case measure=>simp;omega
  ·have yw:∀ ty,(Instr.next (.pointer (some ⟨w.heap.size,0,none⟩)) true ty).run Tryz.prog (w.iter s p)=_:=fun ty=>run_next_end w s p ty hp
   have HE:jgf (k=(V (lb s)).length/\p=(lb s).length):=kg.end (by omega);clear kg;go_wp2_with fail;go_ret
   refine⟨kz ?_,ez _ _ _⟩;rw[HE.o.1,jes]at cZ;exact cZ.symm
def B(s:ByteArray)(k:Nat):Nat:=((lb s).getD k 0).toNat
theorem nP(s:ByteArray)(k:Nat):B s k<256:=UInt8.toNat_lt _
theorem ug(s:ByteArray)(k:Nat)(h:k<s.size):(s[k]'h).toNat=B s k:=by
 unfold B;have h2:k<(lb s).length:=h;rw[List.getD_eq_getElem?_getD,List.getElem?_eq_getElem h2];rfl
theorem iC(s:ByteArray):aR (lb s)=Lib.decodeN s.size (B s 0) (B s 1) (B s 2) (B s 3):=rfl
theorem jz(s:ByteArray)(k:Nat):wrap64 (B s k:Int)=B s k:=by
 have:=nP s k;unfold wrap64;omega
def acc(s:ByteArray)(a:Int):Nat->Int
 | 0=>a
 | k+1=>if k=0 then a else acc s a k*64+B s k-128
theorem dj{s:ByteArray}{c wd:Nat}{o:Bool}(h:aR (lb s)=(c,wd))(ho:ok (c,wd)=o):Ending.returned (.tuple #[.int .i64 (c:Int),.int .i64 (wd:Int),.bool o])=Ending.returned (.tuple #[.int .i64 ((aR (lb s)).1:Int),.int .i64 ((aR (lb s)).2:Int),.bool (ok (aR (lb s)))]):=by
 rw[h,ho]
theorem mf{s:ByteArray}{x:Int}{wd:Nat}{o:Bool}(h:aR (lb s)=(x.toNat,wd))(hx:x=(x.toNat:Int))(ho:ok (x.toNat,wd)=o):Ending.returned (.tuple #[.int .i64 x,.int .i64 wd,.bool o])=Ending.returned (.tuple #[.int .i64 ((aR (lb s)).1:Int),.int .i64 ((aR (lb s)).2:Int),.bool (ok (aR (lb s)))]):=by
 rw[h,ho];show _=Ending.returned (.tuple #[.int .i64 (x.toNat:Int),.int .i64 wd,.bool o])
 rw[← hx]
theorem Su(s:ByteArray)(h0:0<s.size)(hb:B s 0<128)(w:World) :
  Calls Tryz.prog 108 #[.string s] w fun e w'=>e=Ending.returned (.tuple #[.int .i64 ((aR (lb s)).1:Int),.int .i64 ((aR (lb s)).2:Int),.bool (ok (aR (lb s)))])/\w'=w:=by
 have hu:aR (lb s)=(B s 0,1):=by rw[iC];simp only[Lib.decodeN];rw[jei hb]
 have hg:=ug s 0 h0;have hw:=jz s 0;have HU:jgf (aR (lb s)=(B s 0,1)):=hu;clear hu;generalize B s 0=b at *;have h1:(b:Int)<128:=by omega
 go_enter Tryz.func108,Tryz.ntmps108
 go_wp2_with fail;go_ret3
 refine⟨?_,rfl⟩;exact dj HU.o (by simp[ok];omega)
theorem zN(s:ByteArray)(h0:0<s.size)(hb:128<=B s 0)(aE:B s 0<194∨245<=B s 0)(w:World) :
  Calls Tryz.prog 108 #[.string s] w fun e w'=>e=Ending.returned (.tuple #[.int .i64 ((aR (lb s)).1:Int),.int .i64 ((aR (lb s)).2:Int),.bool (ok (aR (lb s)))])/\w'=w:=by
 have hu:aR (lb s)=(65533,1):=by
  have:=nP s 0;have:=nP s 1;have:=nP s 2;have:=nP s 3;rw[iC];simp only[Lib.decodeN];rw[jeh (by omega)];split
  ·rw[jeh (by omega)]
  ·rw[jeh (by omega)]
   split
   ·rw[jeh (by omega)]
   ·rfl
 have hg:=ug s 0 h0;have hw:=jz s 0;have HU:jgf (aR (lb s)=(65533,1)):=hu;clear hu;generalize B s 0=b at *;have h1:¬ (b:Int)<128:=by omega
 rcases aE with aE | aE
 ·have h2:¬ (b:Int)>=194:=by omega
  have h3:¬ (b:Int)>=224:=by omega
  have h4:¬ (b:Int)>=240:=by omega
  go_enter Tryz.func108,Tryz.ntmps108
  go_wp2_with fail;go_ret3
  exact⟨dj HU.o rfl,rfl⟩
 ·have h2:(b:Int)>=194:=by omega
  have h3:(b:Int)>=224:=by omega
  have h4:(b:Int)>=240:=by omega
  have h5:¬ (b:Int)<224:=by omega
  have h6:¬ (b:Int)<240:=by omega
  have h7:¬ (b:Int)<245:=by omega
  go_enter Tryz.func108,Tryz.ntmps108
  go_wp2_with fail;go_ret3
  exact⟨dj HU.o rfl,rfl⟩
theorem DX(s:ByteArray)(hb:194<=B s 0)(aE:B s 0<224)(hs:s.size<2):aR (lb s)=(65533,1):=by
 rw[iC];simp only[Lib.decodeN];rw[jeh (by omega),jeh (by omega),jeh (by omega),jeh (by omega)]
theorem Np(s:ByteArray)(hb:194<=B s 0)(aE:B s 0<224)(j:Nat)(h1:1<=j)(h2:j<2)(hj:B s j<128∨192<=B s j):aR (lb s)=(65533,1):=by
 have:=nP s 1;have:=nP s 2;have:=nP s 3
 have hc:(B s 1<128∨192<=B s 1):=by
  obtain rfl:j=1:=by omega
  exact hj
 rw[iC];simp only[Lib.decodeN];rw[jeh (by omega),jeh (by omega),jeh (by omega),jeh (by omega)]
theorem Nq(s:ByteArray)(hb:194<=B s 0)(aE:B s 0<224)(hj:∀ j,1<=j->j<2->128<=B s j/\B s j<192)(x:Int)(hx:x=acc s (B s 0-192) 2)
  (ho:x<128∨x > 1114111∨(x>=55296/\x<57344)):aR (lb s)=(65533,1):=by
 have:=hj 1 (by omega) (by omega);simp[acc]at hx
 rw[iC];simp only[Lib.decodeN];rw[jeh (by omega)];split
 ·rw[jeh (by omega)]
 ·split
  ·rw[jeh (by omega)]
  ·split
   ·rw[jeh (by omega)]
   ·rfl
theorem Sw(s:ByteArray)(hb:194<=B s 0)(aE:B s 0<224)(hs:2<=s.size)(hj:∀ j,1<=j->j<2->128<=B s j/\B s j<192)(x:Int)(hx:x=acc s (B s 0-192) 2)
  (h1:¬ x<128) (h2:¬ x > 1114111) (h3:¬ (x>=55296/\x<57344)):aR (lb s)=(x.toNat,2):=by
 have:=hj 1 (by omega) (by omega);simp[acc]at hx
 rw[iC];simp only[Lib.decodeN];rw[jeh (by omega)];split
 ·first | (exfalso;omega) | (rw[jei (by omega)];congr 1;omega)
 ·split
  ·first | (exfalso;omega) | (rw[jei (by omega)];congr 1;omega)
  ·first | (exfalso;omega) | (rw[jei (by omega),jei (by omega)];congr 1;omega)
theorem Xr(s:ByteArray)(hb:194<=B s 0)(aE:B s 0<224)(k:Nat)(h1:1<=k)(h2:k<=2)(hj:∀ j,1<=j->j<k->128<=B s j/\B s j<192):0<=acc s (B s 0-192) k/\acc s (B s 0-192) k<=33554432:=by
 obtain rfl | rfl | rfl | rfl:k=1∨k=2∨k=3∨k=4:=by omega
 ·simp[acc];omega
 ·have:=hj 1 (by omega) (by omega)
  simp[acc];omega
 ·have:=hj 1 (by omega) (by omega)
  have:=hj 2 (by omega) (by omega);simp[acc];omega
 ·have:=hj 1 (by omega) (by omega)
  have:=hj 2 (by omega) (by omega);have:=hj 3 (by omega) (by omega);simp[acc];omega
theorem jbc(s:ByteArray)(h0:0<s.size)(hs:s.size<=100000)(hb:194<=B s 0)(aE:B s 0<224)(w:World) :
  Calls Tryz.prog 108 #[.string s] w fun e w'=>e=Ending.returned (.tuple #[.int .i64 ((aR (lb s)).1:Int),.int .i64 ((aR (lb s)).2:Int),.bool (ok (aR (lb s)))])/\w'=w:=by
 have HS:jgf (∀ h:s.size<2,aR (lb s)=(65533,1)):=fun h=>DX s hb aE h
 have HBad:jgf (∀(j:Nat) (h1:1<=j) (h2:j<2) (hj:B s j<128∨192<=B s j),aR (lb s)=(65533,1)):=Np s hb aE;have HOut:jgf _:=Nq s hb aE;have HIn:jgf _:=Sw s hb aE;have HA:jgf _:=Xr s hb aE;have hg:=ug s 0 h0;have hw:=jz s 0;have ha1:((B s 0:Int)-192)=acc s (B s 0-192) 1:=rfl;generalize hA:acc s (B s 0-192)=A at *;have CI:jgf (acc s (B s 0-192)=A):=hA;clear hA;generalize yx:B s 0=b at *;clear yx;have h1:¬ (b:Int)<128:=by omega
 have t0:(b:Int)>=194:=by omega
 have t1:(b:Int)<224:=by omega
 by_cases hl:(s.size:Int)<2
 ·go_enter Tryz.func108,Tryz.ntmps108
  go_wp2_with fail;go_ret3
  exact⟨dj (HS.o (by omega)) rfl,rfl⟩
 ·have AO:2<=s.size:=by omega
  go_enter Tryz.func108,Tryz.ntmps108
  go_wp2_with fail;go_loopw [8,9] (fun n i w'=>w'=w/\∃ k:Nat,i=.int .i64 k/\1<=k/\k<=2/\n=.int .i64 (A k)/\∀ j,1<=j->j<k->128<=B s j/\B s j<192) (fun _ i _=>2-(intOf i).toNat)
  case atStart=>exact⟨rfl,1,rfl,by omega,by omega,rfl,fun j h1 h2=>by omega⟩
  case round =>
   obtain⟨rfl,k,rfl,qA,kQ,rfl,hj⟩:=hrel;have hAk:=HA.o k qA kQ hj;clear ha1;by_cases aB:k<2
   ·have hgk:=ug s k (by omega)
    have hwk:=jz s k
    have hAs:A (k+1)=A k*64+B s k-128:=by
     rw[← CI.o,acc,jeh (by omega)]
    have hBk:=nP s k;have HJ:jgf (∀ j,1<=j->j<k->128<=B s j/\B s j<192):=hj;have HBk:jgf (B s k=B s k):=rfl;clear hj;by_cases lK:(B s k:Int)<128
    ·have nC:=HBad.o k qA aB (by omega)
     have HU:jgf (aR (lb s)=(65533,1)):=nC;clear nC hAs;generalize B s k=bk at *;go_wp2_with fail;go_ret3
     exact⟨dj HU.o rfl,rfl⟩
    ·by_cases ke:(B s k:Int)>=192
     ·have nC:=HBad.o k qA aB (by omega)
      have HU:jgf (aR (lb s)=(65533,1)):=nC;clear nC hAs;generalize B s k=bk at *;go_wp2_with fail;go_ret3
      exact⟨dj HU.o rfl,rfl⟩
     ·have HN:jgf (∀ j,1<=j->j<k+1->128<=B s j/\B s j<192):=by
       intro j h1 h2;by_cases h3:j<k
       ·exact HJ.o j h1 h3
       ·obtain rfl:j=k:=by omega
        omega
      have gj:jgf (A (k+1)=A k*64+B s k-128):=hAs;clear hAs;generalize B s k=bk at *;go_wp2_with fail;go_roundw
      case rel=>exact⟨trivial,k+1,by go_num,by omega,by omega,by rw[gj.o],HN.o⟩
      case measure=>simp[intOf];omega
   ·obtain rfl:k=2:=by omega
    have HX:jgf (∀ x:Int,x=A 2->∀ j,1<=j->j<2->128<=B s j/\B s j<192):=fun _ _=>hj
    have HO:=HOut.o hj (A 2) rfl;have HI:=HIn.o AO hj (A 2) rfl;have dz:jgf _:=HO;have sK:jgf _:=HI;clear HO HI hj;generalize A 2=x at *;by_cases t1:x<128
    ·go_wp2_with fail
     go_ret3
     exact⟨dj (dz.o (Or.inl t1)) rfl,rfl⟩
    ·by_cases t2:x > 1114111
     ·go_wp2_with fail
      go_ret3
      exact⟨dj (dz.o (Or.inr (Or.inl t2))) rfl,rfl⟩
     ·by_cases t3:x>=55296
      ·by_cases t4:x<57344
       ·go_wp2_with fail
        go_ret3
        exact⟨dj (dz.o (Or.inr (Or.inr ⟨t3,t4⟩))) rfl,rfl⟩
       ·have hz:x=(x.toNat:Int):=by omega
        have HZ:jgf (x=(x.toNat:Int)):=hz;clear hz;go_wp2_with fail;go_ret3
        exact⟨mf (wd:=2) (sK.o t1 t2 (by omega)) HZ.o (jb (by decide)),rfl⟩
      ·have hz:x=(x.toNat:Int):=by omega
       have HZ:jgf (x=(x.toNat:Int)):=hz;clear hz;go_wp2_with fail;go_ret3
       exact⟨mf (wd:=2) (sK.o t1 t2 (by omega)) HZ.o (jb (by decide)),rfl⟩
theorem DY(s:ByteArray)(hb:224<=B s 0)(aE:B s 0<240)(hs:s.size<3):aR (lb s)=(65533,1):=by
 rw[iC];simp only[Lib.decodeN];rw[jeh (by omega),jeh (by omega),jeh (by omega),jeh (by omega)]
theorem Nr(s:ByteArray)(hb:224<=B s 0)(aE:B s 0<240)(j:Nat)(h1:1<=j)(h2:j<3)(hj:B s j<128∨192<=B s j):aR (lb s)=(65533,1):=by
 have:=nP s 1;have:=nP s 2;have:=nP s 3
 have hc:(B s 1<128∨192<=B s 1)∨(B s 2<128∨192<=B s 2):=by
  obtain rfl | rfl:j=1∨j=2:=by omega
  all_goals omega
 rw[iC];simp only[Lib.decodeN];rw[jeh (by omega),jeh (by omega),jeh (by omega),jeh (by omega)]
theorem Ns(s:ByteArray)(hb:224<=B s 0)(aE:B s 0<240)(hj:∀ j,1<=j->j<3->128<=B s j/\B s j<192)(x:Int)(hx:x=acc s (B s 0-224) 3)
  (ho:x<2048∨x > 1114111∨(x>=55296/\x<57344)):aR (lb s)=(65533,1):=by
 have:=hj 1 (by omega) (by omega);have:=hj 2 (by omega) (by omega);simp[acc]at hx
 rw[iC];simp only[Lib.decodeN];rw[jeh (by omega)];split
 ·rw[jeh (by omega)]
 ·split
  ·rw[jeh (by omega)]
  ·split
   ·rw[jeh (by omega)]
   ·rfl
theorem Sy(s:ByteArray)(hb:224<=B s 0)(aE:B s 0<240)(hs:3<=s.size)(hj:∀ j,1<=j->j<3->128<=B s j/\B s j<192)(x:Int)(hx:x=acc s (B s 0-224) 3)
  (h1:¬ x<2048) (h2:¬ x > 1114111) (h3:¬ (x>=55296/\x<57344)):aR (lb s)=(x.toNat,3):=by
 have:=hj 1 (by omega) (by omega);have:=hj 2 (by omega) (by omega);simp[acc]at hx
 rw[iC];simp only[Lib.decodeN];rw[jeh (by omega)];split
 ·first | (exfalso;omega) | (rw[jei (by omega)];congr 1;omega)
 ·split
  ·first | (exfalso;omega) | (rw[jei (by omega)];congr 1;omega)
  ·first | (exfalso;omega) | (rw[jei (by omega),jei (by omega)];congr 1;omega)
theorem Xs(s:ByteArray)(hb:224<=B s 0)(aE:B s 0<240)(k:Nat)(h1:1<=k)(h2:k<=3)(hj:∀ j,1<=j->j<k->128<=B s j/\B s j<192):0<=acc s (B s 0-224) k/\acc s (B s 0-224) k<=33554432:=by
 obtain rfl | rfl | rfl | rfl:k=1∨k=2∨k=3∨k=4:=by omega
 ·simp[acc];omega
 ·have:=hj 1 (by omega) (by omega)
  simp[acc];omega
 ·have:=hj 1 (by omega) (by omega)
  have:=hj 2 (by omega) (by omega);simp[acc];omega
 ·have:=hj 1 (by omega) (by omega)
  have:=hj 2 (by omega) (by omega);have:=hj 3 (by omega) (by omega);simp[acc];omega
theorem jbd(s:ByteArray)(h0:0<s.size)(hs:s.size<=100000)(hb:224<=B s 0)(aE:B s 0<240)(w:World) :
  Calls Tryz.prog 108 #[.string s] w fun e w'=>e=Ending.returned (.tuple #[.int .i64 ((aR (lb s)).1:Int),.int .i64 ((aR (lb s)).2:Int),.bool (ok (aR (lb s)))])/\w'=w:=by
 have HS:jgf (∀ h:s.size<3,aR (lb s)=(65533,1)):=fun h=>DY s hb aE h
 have HBad:jgf (∀(j:Nat) (h1:1<=j) (h2:j<3) (hj:B s j<128∨192<=B s j),aR (lb s)=(65533,1)):=Nr s hb aE;have HOut:jgf _:=Ns s hb aE;have HIn:jgf _:=Sy s hb aE;have HA:jgf _:=Xs s hb aE;have hg:=ug s 0 h0;have hw:=jz s 0;have ha1:((B s 0:Int)-224)=acc s (B s 0-224) 1:=rfl;generalize hA:acc s (B s 0-224)=A at *;have CI:jgf (acc s (B s 0-224)=A):=hA;clear hA;generalize yx:B s 0=b at *;clear yx;have h1:¬ (b:Int)<128:=by omega
 have t0:(b:Int)>=194:=by omega
 have t1:¬ (b:Int)<224:=by omega
 have t2:(b:Int)>=224:=by omega
 have t3:(b:Int)<240:=by omega
 by_cases hl:(s.size:Int)<3
 ·go_enter Tryz.func108,Tryz.ntmps108
  go_wp2_with fail;go_ret3
  exact⟨dj (HS.o (by omega)) rfl,rfl⟩
 ·have AO:3<=s.size:=by omega
  go_enter Tryz.func108,Tryz.ntmps108
  go_wp2_with fail;go_loopw [8,9] (fun n i w'=>w'=w/\∃ k:Nat,i=.int .i64 k/\1<=k/\k<=3/\n=.int .i64 (A k)/\∀ j,1<=j->j<k->128<=B s j/\B s j<192) (fun _ i _=>3-(intOf i).toNat)
  case atStart=>exact⟨rfl,1,rfl,by omega,by omega,rfl,fun j h1 h2=>by omega⟩
  case round =>
   obtain⟨rfl,k,rfl,qA,kQ,rfl,hj⟩:=hrel;have hAk:=HA.o k qA kQ hj;clear ha1;by_cases aB:k<3
   ·have hgk:=ug s k (by omega)
    have hwk:=jz s k
    have hAs:A (k+1)=A k*64+B s k-128:=by
     rw[← CI.o,acc,jeh (by omega)]
    have hBk:=nP s k;have HJ:jgf (∀ j,1<=j->j<k->128<=B s j/\B s j<192):=hj;have HBk:jgf (B s k=B s k):=rfl;clear hj;by_cases lK:(B s k:Int)<128
    ·have nC:=HBad.o k qA aB (by omega)
     have HU:jgf (aR (lb s)=(65533,1)):=nC;clear nC hAs;generalize B s k=bk at *;go_wp2_with fail;go_ret3
     exact⟨dj HU.o rfl,rfl⟩
    ·by_cases ke:(B s k:Int)>=192
     ·have nC:=HBad.o k qA aB (by omega)
      have HU:jgf (aR (lb s)=(65533,1)):=nC;clear nC hAs;generalize B s k=bk at *;go_wp2_with fail;go_ret3
      exact⟨dj HU.o rfl,rfl⟩
     ·have HN:jgf (∀ j,1<=j->j<k+1->128<=B s j/\B s j<192):=by
       intro j h1 h2;by_cases h3:j<k
       ·exact HJ.o j h1 h3
       ·obtain rfl:j=k:=by omega
        omega
      have gj:jgf (A (k+1)=A k*64+B s k-128):=hAs;clear hAs;generalize B s k=bk at *;go_wp2_with fail;go_roundw
      case rel=>exact⟨trivial,k+1,by go_num,by omega,by omega,by rw[gj.o],HN.o⟩
      case measure=>simp[intOf];omega
   ·obtain rfl:k=3:=by omega
    have HX:jgf (∀ x:Int,x=A 3->∀ j,1<=j->j<3->128<=B s j/\B s j<192):=fun _ _=>hj
    have HO:=HOut.o hj (A 3) rfl;have HI:=HIn.o AO hj (A 3) rfl;have dz:jgf _:=HO;have sK:jgf _:=HI;clear HO HI hj;generalize A 3=x at *;by_cases t1:x<2048
    ·go_wp2_with fail
     go_ret3
     exact⟨dj (dz.o (Or.inl t1)) rfl,rfl⟩
    ·by_cases t2:x > 1114111
     ·go_wp2_with fail
      go_ret3
      exact⟨dj (dz.o (Or.inr (Or.inl t2))) rfl,rfl⟩
     ·by_cases t3:x>=55296
      ·by_cases t4:x<57344
       ·go_wp2_with fail
        go_ret3
        exact⟨dj (dz.o (Or.inr (Or.inr ⟨t3,t4⟩))) rfl,rfl⟩
       ·have hz:x=(x.toNat:Int):=by omega
        have HZ:jgf (x=(x.toNat:Int)):=hz;clear hz;go_wp2_with fail;go_ret3
        exact⟨mf (wd:=3) (sK.o t1 t2 (by omega)) HZ.o (jb (by decide)),rfl⟩
      ·have hz:x=(x.toNat:Int):=by omega
       have HZ:jgf (x=(x.toNat:Int)):=hz;clear hz;go_wp2_with fail;go_ret3
       exact⟨mf (wd:=3) (sK.o t1 t2 (by omega)) HZ.o (jb (by decide)),rfl⟩
theorem DZ(s:ByteArray)(hb:240<=B s 0)(aE:B s 0<245)(hs:s.size<4):aR (lb s)=(65533,1):=by
 rw[iC];simp only[Lib.decodeN];rw[jeh (by omega),jeh (by omega),jeh (by omega),jeh (by omega)]
theorem Nw(s:ByteArray)(hb:240<=B s 0)(aE:B s 0<245)(j:Nat)(h1:1<=j)(h2:j<4)(hj:B s j<128∨192<=B s j):aR (lb s)=(65533,1):=by
 have:=nP s 1;have:=nP s 2;have:=nP s 3
 have hc:(B s 1<128∨192<=B s 1)∨(B s 2<128∨192<=B s 2)∨(B s 3<128∨192<=B s 3):=by
  obtain rfl | rfl | rfl:j=1∨j=2∨j=3:=by omega
  all_goals omega
 rw[iC];simp only[Lib.decodeN];rw[jeh (by omega),jeh (by omega),jeh (by omega),jeh (by omega)]
theorem Nx(s:ByteArray)(hb:240<=B s 0)(aE:B s 0<245)(hj:∀ j,1<=j->j<4->128<=B s j/\B s j<192)(x:Int)(hx:x=acc s (B s 0-240) 4)
  (ho:x<65536∨x > 1114111∨(x>=55296/\x<57344)):aR (lb s)=(65533,1):=by
 have:=hj 1 (by omega) (by omega);have:=hj 2 (by omega) (by omega);have:=hj 3 (by omega) (by omega);simp[acc]at hx
 rw[iC];simp only[Lib.decodeN];rw[jeh (by omega)];split
 ·rw[jeh (by omega)]
 ·split
  ·rw[jeh (by omega)]
  ·split
   ·rw[jeh (by omega)]
   ·rfl
theorem Sz(s:ByteArray)(hb:240<=B s 0)(aE:B s 0<245)(hs:4<=s.size)(hj:∀ j,1<=j->j<4->128<=B s j/\B s j<192)(x:Int)(hx:x=acc s (B s 0-240) 4)
  (h1:¬ x<65536) (h2:¬ x > 1114111) (h3:¬ (x>=55296/\x<57344)):aR (lb s)=(x.toNat,4):=by
 have:=hj 1 (by omega) (by omega);have:=hj 2 (by omega) (by omega);have:=hj 3 (by omega) (by omega);simp[acc]at hx
 rw[iC];simp only[Lib.decodeN];rw[jeh (by omega)];split
 ·first | (exfalso;omega) | (rw[jei (by omega)];congr 1;omega)
 ·split
  ·first | (exfalso;omega) | (rw[jei (by omega)];congr 1;omega)
  ·first | (exfalso;omega) | (rw[jei (by omega),jei (by omega)];congr 1;omega)
theorem Xt(s:ByteArray)(hb:240<=B s 0)(aE:B s 0<245)(k:Nat)(h1:1<=k)(h2:k<=4)(hj:∀ j,1<=j->j<k->128<=B s j/\B s j<192):0<=acc s (B s 0-240) k/\acc s (B s 0-240) k<=33554432:=by
 obtain rfl | rfl | rfl | rfl:k=1∨k=2∨k=3∨k=4:=by omega
 ·simp[acc];omega
 ·have:=hj 1 (by omega) (by omega)
  simp[acc];omega
 ·have:=hj 1 (by omega) (by omega)
  have:=hj 2 (by omega) (by omega);simp[acc];omega
 ·have:=hj 1 (by omega) (by omega)
  have:=hj 2 (by omega) (by omega);have:=hj 3 (by omega) (by omega);simp[acc];omega
theorem jbe(s:ByteArray)(h0:0<s.size)(hs:s.size<=100000)(hb:240<=B s 0)(aE:B s 0<245)(w:World) :
  Calls Tryz.prog 108 #[.string s] w fun e w'=>e=Ending.returned (.tuple #[.int .i64 ((aR (lb s)).1:Int),.int .i64 ((aR (lb s)).2:Int),.bool (ok (aR (lb s)))])/\w'=w:=by
 have HS:jgf (∀ h:s.size<4,aR (lb s)=(65533,1)):=fun h=>DZ s hb aE h
 have HBad:jgf (∀(j:Nat) (h1:1<=j) (h2:j<4) (hj:B s j<128∨192<=B s j),aR (lb s)=(65533,1)):=Nw s hb aE;have HOut:jgf _:=Nx s hb aE;have HIn:jgf _:=Sz s hb aE;have HA:jgf _:=Xt s hb aE;have hg:=ug s 0 h0;have hw:=jz s 0;have ha1:((B s 0:Int)-240)=acc s (B s 0-240) 1:=rfl;generalize hA:acc s (B s 0-240)=A at *;have CI:jgf (acc s (B s 0-240)=A):=hA;clear hA;generalize yx:B s 0=b at *;clear yx;have h1:¬ (b:Int)<128:=by omega
 have t0:(b:Int)>=194:=by omega
 have t1:¬ (b:Int)<224:=by omega
 have t2:(b:Int)>=224:=by omega
 have t3:¬ (b:Int)<240:=by omega
 have t4:(b:Int)>=240:=by omega
 have t5:(b:Int)<245:=by omega
 by_cases hl:(s.size:Int)<4
 ·go_enter Tryz.func108,Tryz.ntmps108
  go_wp2_with fail;go_ret3
  exact⟨dj (HS.o (by omega)) rfl,rfl⟩
 ·have AO:4<=s.size:=by omega
  go_enter Tryz.func108,Tryz.ntmps108
  go_wp2_with fail;go_loopw [8,9] (fun n i w'=>w'=w/\∃ k:Nat,i=.int .i64 k/\1<=k/\k<=4/\n=.int .i64 (A k)/\∀ j,1<=j->j<k->128<=B s j/\B s j<192) (fun _ i _=>4-(intOf i).toNat)
  case atStart=>exact⟨rfl,1,rfl,by omega,by omega,rfl,fun j h1 h2=>by omega⟩
  case round =>
   obtain⟨rfl,k,rfl,qA,kQ,rfl,hj⟩:=hrel;have hAk:=HA.o k qA kQ hj;clear ha1;by_cases aB:k<4
   ·have hgk:=ug s k (by omega)
    have hwk:=jz s k
    have hAs:A (k+1)=A k*64+B s k-128:=by
     rw[← CI.o,acc,jeh (by omega)]
    have hBk:=nP s k;have HJ:jgf (∀ j,1<=j->j<k->128<=B s j/\B s j<192):=hj;have HBk:jgf (B s k=B s k):=rfl;clear hj;by_cases lK:(B s k:Int)<128
    ·have nC:=HBad.o k qA aB (by omega)
     have HU:jgf (aR (lb s)=(65533,1)):=nC;clear nC hAs;generalize B s k=bk at *;go_wp2_with fail;go_ret3
     exact⟨dj HU.o rfl,rfl⟩
    ·by_cases ke:(B s k:Int)>=192
     ·have nC:=HBad.o k qA aB (by omega)
      have HU:jgf (aR (lb s)=(65533,1)):=nC;clear nC hAs;generalize B s k=bk at *;go_wp2_with fail;go_ret3
      exact⟨dj HU.o rfl,rfl⟩
     ·have HN:jgf (∀ j,1<=j->j<k+1->128<=B s j/\B s j<192):=by
       intro j h1 h2;by_cases h3:j<k
       ·exact HJ.o j h1 h3
       ·obtain rfl:j=k:=by omega
        omega
      have gj:jgf (A (k+1)=A k*64+B s k-128):=hAs;clear hAs;generalize B s k=bk at *;go_wp2_with fail;go_roundw
      case rel=>exact⟨trivial,k+1,by go_num,by omega,by omega,by rw[gj.o],HN.o⟩
      case measure=>simp[intOf];omega
   ·obtain rfl:k=4:=by omega
    have HX:jgf (∀ x:Int,x=A 4->∀ j,1<=j->j<4->128<=B s j/\B s j<192):=fun _ _=>hj
    have HO:=HOut.o hj (A 4) rfl;have HI:=HIn.o AO hj (A 4) rfl;have dz:jgf _:=HO;have sK:jgf _:=HI;clear HO HI hj;generalize A 4=x at *;by_cases t1:x<65536
    ·go_wp2_with fail
     go_ret3
     exact⟨dj (dz.o (Or.inl t1)) rfl,rfl⟩
    ·by_cases t2:x > 1114111
     ·go_wp2_with fail
      go_ret3
      exact⟨dj (dz.o (Or.inr (Or.inl t2))) rfl,rfl⟩
     ·by_cases t3:x>=55296
      ·by_cases t4:x<57344
       ·go_wp2_with fail
        go_ret3
        exact⟨dj (dz.o (Or.inr (Or.inr ⟨t3,t4⟩))) rfl,rfl⟩
       ·have hz:x=(x.toNat:Int):=by omega
        have HZ:jgf (x=(x.toNat:Int)):=hz;clear hz;go_wp2_with fail;go_ret3
        exact⟨mf (wd:=4) (sK.o t1 t2 (by omega)) HZ.o (jb (by decide)),rfl⟩
      ·have hz:x=(x.toNat:Int):=by omega
       have HZ:jgf (x=(x.toNat:Int)):=hz;clear hz;go_wp2_with fail;go_ret3
       exact⟨mf (wd:=4) (sK.o t1 t2 (by omega)) HZ.o (jb (by decide)),rfl⟩
theorem SA(s:ByteArray)(hs:s.size<=100000)(h0:0<s.size)(w:World) :
  Calls Tryz.prog 108 #[.string s] w fun e w'=>e=.returned (.tuple #[.int .i64 (aR (lb s)).1,.int .i64 (aR (lb s)).2,.bool (ok (aR (lb s)))])/\w'=w:=by
 by_cases h1:B s 0<128
 ·exact Su s h0 h1 w
 ·by_cases h2:B s 0<194
  ·exact zN s h0 (by omega) (Or.inl h2) w
  ·by_cases h3:B s 0<224
   ·exact jbc s h0 hs (by omega) h3 w
   ·by_cases h4:B s 0<240
    ·exact jbd s h0 hs (by omega) h4 w
    ·by_cases h5:B s 0<245
     ·exact jbe s h0 hs (by omega) h5 w
     ·exact zN s h0 (by omega) (Or.inr (by omega)) w
def sgn(u:List (Nat×Nat))(k:Nat):List Value:=(u.take k).map fun x=>Value.int .i64 (x.1:Int)
def ats(u:List (Nat×Nat))(k:Nat):List Value:=(List.range k).map fun j=>Value.int .i64 (eQ u j:Int)
theorem SC{l:List UInt8}{p k:Nat}(h:At l p k)(hp:p<l.length):sgn (V l) (k+1)=sgn (V l) k++[.int .i64 ((aR (l.drop p)).1:Int)]:=by
 unfold sgn;rw[ws h hp];simp
theorem SD{l:List UInt8}{p k:Nat}(h:At l p k):ats (V l) (k+1)=ats (V l) k++[.int .i64 (p:Int)]:=by
 unfold ats;rw[jfC,jeE,h.2.2.1];rfl
def nQ(a b:Value):Prop:=∀ g,a.ownBlock=some g->b.ownBlock≠some g
theorem nQ.symm{a b:Value}(h:nQ a b):nQ b a:=fun g hg h2=>h g h2 hg
theorem nQ.ne{a b:Value}(h:nQ a b):a.ownBlock=none∨a.ownBlock≠b.ownBlock:=by
 cases ha:a.ownBlock with
 | none=>exact Or.inl rfl
 | some g=>exact Or.inr (fun h2=>h g ha h2.symm)
theorem nQ.grow{a a' b:Value}{n:Nat}(h:nQ a b)(hn:a'.ownBlock=a.ownBlock∨a'.ownBlock=some n)(hb:∀ k,b.ownBlock=some k->k<n):nQ a' b:=by
 intro g hg h2;rcases hn with hn | hn
 ·exact h g (hn ▸ hg) h2
 ·rw[hn]at hg
  have:=hb g h2;have:=Option.some.inj hg;omega
theorem info3:(Tryz.prog.info? 3).map (fun i=>(i.zero,i.size,i.bytes))=some (some (.int .i64 0),1,8):=by kernel_rfl
theorem oX(s:ByteArray)(hs:s.size<=100000)(w:World) :
  Calls Tryz.prog 60 #[.string s] w fun e w'=>(∃ a b,e=.returned (.tuple #[a,b,.bool (dS (lb s))])/\w'.ownsRow w.heap.size 3 1 a (V (lb s)).length (sgn (V (lb s)) (V (lb s)).length)/\w'.ownsRow w.heap.size 3 1 b (V (lb s)).length (ats (V (lb s)) (V (lb s)).length))/\Below w.heap.size w w':=by
 obtain⟨i0,hi,ch,hz1',bv⟩:=jeD info3;have hL:=cL s;have hV:=Dr (lb s);go_enter Tryz.func60,Tryz.ntmps60
 go_wp2_with fail;go_loopw [5,6,7,8] (fun a b c i wr=>∃ p k:Nat,At (lb s) p k/\i=.int .i64 p/\c=.bool (((V (lb s)).take k).all ok)/\wr.ownsRow w.heap.size 3 1 a k (sgn (V (lb s)) k)/\wr.ownsRow w.heap.size 3 1 b k (ats (V (lb s)) k)/\nQ a b/\Below w.heap.size w wr) (fun _ _ _ i _=>s.size-(intOf i).toNat)
 case atStart=>exact⟨0,0,At.zero _,rfl,rfl,jfb _ _ _ _,jfb _ _ _ _,(fun g hg=>by simp[Value.ownBlock]at hg),jej _ _⟩
 case round =>
  obtain⟨p,k,kg,rfl,rfl,aA,cB,Mv,az⟩:=hrel;by_cases hp:p<s.size
  ·have hk:=kg.len (by omega)
   have hw:=dF _ (jp (l:=lb s) (p:=p) (by omega));simp only[jeR]at hw;have HN:=ae (kg.next (by omega));have HS:=ae (SC kg (by omega));have HA:=ae (SD kg);have HT:=ae (ws kg (by omega));have HO:=ae aA;have dz:=ae cB;have HP:=ae Mv;have HB:=ae az;have bH:=az.size;clear kg aA cB Mv az;have hex:lb (s.extract p s.size)=(lb s).drop p:=by rw[gS,je4 (by simp;omega)]
   have hes:(s.extract p s.size).size=s.size-p:=by rw[← cL,hex];simp;omega
   have hc:=SA (s.extract p s.size) (by omega) (by omega);rw[hex]at hc;have HC:=ae hc;clear hc hex hes;generalize aR ((lb s).drop p)=u at *;obtain⟨c,wd⟩:=u;simp only at *;generalize lK:((V (lb s)).take k).all ok=ck at *;have WG:=ae lK;clear lK;go_wp2_with fail;refine(HC.o _).mono ?_;rintro e w1 ⟨rfl,rfl⟩;go_wp2_with (first | (at_builtin;refine jeY _ rfl _ _ 114 rfl w.heap.size 3 i0 (.int .i64 0) 1 8 Tryz.underlying114 hi ch hz1' bv rfl (by decide) _ _ _ rfl (HO.o.alloc _) ⟨w1.heap.size,0,none⟩ 1 1 [.int .i64 (c:Int)] rfl rfl ?c1 ?c2 ?c3 ?c4 ?c5 ?_))
   case c1=>exact cell_one_new _ _ _
   case c2=>intro u hu;simp at hu;subst hu;rfl
   case c3=>unfold maxLen;omega
   case c4=>omega
   case c5=>simp;omega
   intro v1 w2 o1 g1 _ e1;have hz2w:=g1.size;simp at hz2w
   have eO:=ae o1;have dd:=ae ((dz.o.alloc (.cells #[.int .i64 (c:Int)] 3)).kept g1 HP.o.symm.ne);have Dj:=ae (HP.o.grow e1 (fun k hk=>by have:=(dz.o.lt k hk).2;simp;omega));have aP:=ae ((HB.o.alloc (by omega) _).grown g1 (by simp;omega) (fun k hk=>(HO.o.lt k hk).1));clear o1 g1 e1;go_wp2_with (first | (at_builtin;refine jeY _ rfl _ _ 114 rfl w.heap.size 3 i0 (.int .i64 0) 1 8 Tryz.underlying114 hi ch hz1' bv rfl (by decide) _ _ _ rfl (dd.o.alloc _) ⟨w2.heap.size,0,none⟩ 1 1 [.int .i64 (p:Int)] rfl rfl ?d1 ?d2 ?d3 ?d4 ?d5 ?_))
   case d1=>exact cell_one_new _ _ _
   case d2=>intro u hu;simp at hu;subst hu;rfl
   case d3=>unfold maxLen;omega
   case d4=>omega
   case d5=>simp;omega
   intro v2 w3 o2 g2 _ e2;have eY:=ae o2;have df:=ae ((eO.o.alloc (.cells #[.int .i64 (p:Int)] 3)).kept g2 Dj.o.ne);have Gj:=ae (Dj.o.symm.grow e2 (fun k hk=>by have:=(eO.o.lt k hk).2;simp;omega)).symm;have aN:=ae ((aP.o.alloc (by omega) _).grown g2 (by simp;omega) (fun k hk=>(dd.o.lt k hk).1));clear o2 g2 e2;cases ck
   all_goals
    go_wp2_with fail;go_roundw
    case rel =>
     refine⟨p+wd,k+1,HN.o,by go_num,?_,?_,?_,Gj.o,aN.o⟩
     ·rw[HT.o,List.all_append,WG.o];simp
     ·rw[HS.o];exact df.o
     ·rw[HA.o];exact eY.o
    case measure=>simp[intOf];omega
  ·have he:=kg.end (by omega)
   have HE:=ae he;clear he kg;go_wp2_with fail;go_ret3
   obtain⟨rfl,_⟩:=HE.o;exact⟨⟨_,_,(by rw[jes];rfl),aA,cB⟩,az⟩
theorem LR{u:List (Nat×Nat)}{n j:Nat}(h:j<n):(ats u n)[j]?=some (.int .i64 (eQ u j:Int)):=by
 simp[ats,h]
theorem LS{u:List (Nat×Nat)}{j:Nat}(h:j<u.length):(sgn u u.length)[j]?=some (.int .i64 (u[j].1:Int)):=by
 simp[sgn,h]
theorem vW{l:List UInt8}:∀ k,k<=(V l).length->At l (eQ (V l) k) k:=by
 intro k;induction k with
 | zero=>intro _;rw[offs_zero];exact At.zero l
 | succ k ih =>
  intro hk;have h:=ih (by omega)
  have aB:eQ (V l) k<l.length:=by
   rcases jeM (eQ (V l) k) l.length with h1 | h1
   ·exact h1
   ·have:=(h.end (by omega)).1
    omega
  have h2:=h.next aB
  rw[h2.2.2.1]at h2;exact h2
theorem zO(s:ByteArray)(hs:s.size<=100000)(w:World) :
  Calls Tryz.prog 188 #[.string s] w fun e w'=>e=.returned (.int .i64 (V (lb s)).length)/\Below w.heap.size w w':=by
 have hL:=cL s;have hV:=Dr (lb s);go_enter Tryz.func188,Tryz.ntmps188
 go_wp2;go_loopw [3] (fun n w'=>∃ p k:Nat,w'=w.iter s p/\n=.int .i64 k/\At (lb s) p k) (fun _ w'=>s.size-w'.iterPos w.heap.size)
 case atStart=>exact⟨0,0,rfl,rfl,At.zero _⟩
 case round =>
  obtain⟨p,k,rfl,rfl,kg⟩:=hrel;by_cases hp:p<s.size
  ·have yw:∀ ty,(Instr.next (.pointer (some ⟨w.heap.size,0,none⟩)) true ty).run Tryz.prog (w.iter s p)=_:=fun ty=>run_next_any w s p ty hp
   rw[me]at yw;have hk:=kg.len (by omega);have hw:=dF _ (jp (l:=lb s) (p:=p) (by omega));have hn:=kg.next (by omega)
   clear kg;go_wp2;go_roundw
   case rel=>exact⟨_,k+1,rfl,by go_num,hn⟩
   case measure=>simp;omega
  ·have yw:∀ ty,(Instr.next (.pointer (some ⟨w.heap.size,0,none⟩)) true ty).run Tryz.prog (w.iter s p)=_:=fun ty=>run_next_end w s p ty hp
   have HE:jgf (k=(V (lb s)).length/\p=(lb s).length):=kg.end (by omega);clear kg;go_wp2;go_ret
   exact⟨LQ (by rw[HE.o.1]),ez _ _ _⟩
def bZ(l:List UInt8)(n:Int):List UInt8:=l.take (eQ (V l) n.toNat)
theorem re(u:List (Nat×Nat))(k:Nat)(h:u.length<=k):eQ u k=eQ u u.length:=by
 unfold eQ;rw[je4 h,jes]
theorem zP(s:ByteArray)(n:Int)(hs:s.size<=100000)(w:World) :
  Calls Tryz.prog 147 #[.string s,.int .i64 n] w fun e w'=>(∃ t,e=.returned (.string t)/\lb t=bZ (lb s) n)/\Below w.heap.size w w':=by
 have hL:=cL s;have hV:=Dr (lb s);go_enter Tryz.func147,Tryz.ntmps147
 go_wp2;go_loopw [5] (fun m w'=>∃ p k:Nat,w'=w.iter s p/\m=.int .i64 k/\At (lb s) p k/\(k=0∨(k:Int)<=n)) (fun _ w'=>s.size-w'.iterPos w.heap.size)
 case atStart=>exact⟨0,0,rfl,rfl,At.zero _,Or.inl rfl⟩
 case round =>
  obtain⟨p,k,rfl,rfl,kg,GF⟩:=hrel;by_cases hp:p<s.size
  ·have yw:∀ ty,(Instr.next (.pointer (some ⟨w.heap.size,0,none⟩)) true ty).run Tryz.prog (w.iter s p)=_:=fun ty=>run_next_any w s p ty hp
   rw[me]at yw;have hk:=kg.len (by omega);have hw:=dF _ (jp (l:=lb s) (p:=p) (by omega));have hn:=kg.next (by omega)
   have HPO:jgf (p=eQ (V (lb s)) k):=kg.2.2.1;clear kg;by_cases hg:(k:Int)>=n
   ·go_wp2_with fail
    go_ret
    refine⟨⟨_,rfl,?_⟩,ez _ _ _⟩;have hnk:n.toNat=k:=(by omega);rw[bZ,hnk,← HPO.o,gS];simp
   ·go_wp2_with fail
    go_roundw
    case rel=>exact⟨_,k+1,rfl,by go_num,hn,Or.inr (by omega)⟩
    case measure=>simp;omega
  ·have yw:∀ ty,(Instr.next (.pointer (some ⟨w.heap.size,0,none⟩)) true ty).run Tryz.prog (w.iter s p)=_:=fun ty=>run_next_end w s p ty hp
   have HE:jgf (k=(V (lb s)).length/\p=(lb s).length):=kg.end (by omega);have HPO:jgf (p=eQ (V (lb s)) k):=kg.2.2.1;clear kg;go_wp2_with fail;go_ret
   refine⟨⟨_,rfl,?_⟩,ez _ _ _⟩;rw[bZ];have hpo:=HPO.o;have he:=HE.o
   have gi:(lb s).length<=eQ (V (lb s)) n.toNat:=by
    by_cases qB:(V (lb s)).length<=n.toNat
    ·rw[re _ _ qB,← HE.o.1,← HPO.o];omega
    ·have:k=0:=by omega
     rw[this]at hpo;simp at hpo
     omega
   rw[je4 gi]
theorem rg{w:World}{B e n:Nat}{v:Value}{xs:List Value}(h:w.ownsRow B e 1 v n xs):(∃ ad cap,v=.slice ad n cap/\∀ g,ad=some g->g.spot=none)/\(0<n->∃ g cap,v=.slice (some ⟨g,0,none⟩) n cap/\g<w.heap.size/\B<=g/\∀ j x,xs[j]?=some x->w.cell? ⟨g,j,none⟩=some x):=by
 obtain⟨hl,h1⟩:=id h;rcases h1 with ⟨rfl,rfl⟩ | ⟨g,cap,cur,rfl,hb,hg,h4⟩
 ·exact⟨⟨none,0,rfl,fun g hg=>by cases hg⟩,fun h=>by omega⟩
 ·refine⟨⟨_,cap,rfl,fun x hx=>by cases hx;rfl⟩,fun _=>⟨g,cap,rfl,(Array.getElem?_eq_some_iff.1 hg).1,hb,fun j x hx=>?_⟩⟩
  have:=h.cells (g:=g) rfl j x hx;have KO:(⟨g,0,none⟩:Addr).add j=⟨g,j,none⟩:=by unfold Addr.add;split<;>simp_all
  rwa[KO]at this
theorem BJ(s:ByteArray)(n:Int)(hs:s.size<=100000)(w:World) :
  Calls Tryz.prog 62 #[.string s,.int .i64 n] w fun e w'=>(∃ t,e=.returned (.string t)/\lb t=bZ (lb s) n)/\Below w.heap.size w w':=by
 have hL:=cL s;have hV:=Dr (lb s);have HEx:=ae (gS s);go_enter Tryz.func62,Tryz.ntmps62
 go_wp2_with fail;refine(oX s hs _).mono ?_;rintro e w1 ⟨⟨a,b,rfl,ha,hb⟩,az⟩;have HB:=ae az;have hz:=az.size;clear az ha;obtain⟨⟨ad,cap,rfl,_⟩,hcells⟩:=rg hb;clear hb;by_cases h1:n<1
 ·clear hcells
  go_wp2_with fail;go_ret
  refine⟨⟨_,rfl,?_⟩,HB.o⟩;have:n.toNat=0:=by omega
  rw[bZ,this,offs_zero];rfl
 ·by_cases h2:n>=((V (lb s)).length:Int)
  ·clear hcells
   go_wp2_with fail;go_ret
   refine⟨⟨_,rfl,?_⟩,HB.o⟩;have h3:=(vW (l:=lb s) (V (lb s)).length (by omega))
   have h4:eQ (V (lb s)) (V (lb s)).length=(lb s).length:=by
    rcases jeM (eQ (V (lb s)) (V (lb s)).length) (lb s).length with h5 | h5
    ·have:=h3.len h5;omega
    ·exact(h3.end (by omega)).2
   rw[bZ,re _ _ (by omega),je4 (by omega)]
  ·obtain⟨g,cap2,eN,hg,_,hc⟩:=hcells (by omega)
   obtain⟨k,rfl⟩:∃ k:Nat,n=k:=⟨n.toNat,by omega⟩;simp only[Value.slice.injEq]at eN;obtain⟨rfl,_,rfl⟩:=eN;have dN:=hc k _ (LR (by omega));have hol:=(vW (l:=lb s) k (by omega)).1;clear hc;generalize ho:eQ (V (lb s)) k=o at *;have yi:jgf (eQ (V (lb s)) k=o):=ho;clear ho;go_wp2_with fail;go_ret
   refine⟨⟨_,rfl,?_⟩,HB.o⟩;rw[HEx.o,bZ,jeQ,yi.o];simp
def nx(r:Nat):Nat:=if r=55295 then 57344 else r+1
theorem ZP{r:Nat}(h:vr r)(hg:r≠1114111):vr (nx r):=by
 unfold vr nx at *;split<;>omega
theorem SF(r:Nat)(h:r<=1114111)(w:World):Calls Tryz.prog 216 #[.int .i32 (r:Int)] w fun e w'=>e=.returned (.int .i32 (nx r:Int))/\w'=w:=by
 by_cases h1:r=55295
 ·subst h1
  go_enter Tryz.func216,Tryz.ntmps216
  go_wp2_with fail;go_ret
  exact⟨rfl,rfl⟩
 ·have h2:((r:Int)==55295)=false:=by simp;omega
  go_enter Tryz.func216,Tryz.ntmps216
  go_wp2_with fail;go_ret
  refine⟨LQ ?_,rfl⟩;unfold nx;rw[jeh h1];go_num
def il(u:List (Nat×Nat)):Nat->Option Nat
 | 0=>none
 | k+1=>if (u.getD k (0,0)).1=1114111 then il u k else some k
theorem rh{u:List (Nat×Nat)}:∀{k i:Nat},il u k=some i->i<k/\(u.getD i (0,0)).1≠1114111:=by
 intro k;induction k with
 | zero=>intro i h;cases h
 | succ k ih =>
  intro i h;simp only[il]at h;split at h
  ·have:=ih h;exact⟨by omega,this.2⟩
  ·obtain rfl:=Option.some.inj h
   rename_i h2
   exact⟨by omega,h2⟩
def upL(l:List UInt8)(k:Nat):Option (List UInt8):=(il (V l) k).map fun i=>l.take (eQ (V l) i)++dX (nx ((V l).getD i (0,0)).1)
def jX(l:List UInt8):Option (List UInt8):=upL l (V l).length
def LT(u:List (Nat×Nat))(k:Nat)(p c:Int):Prop :=
 match il u k with
 | none=>p=-1
 | some i=>p=eQ u i/\c=nx (u.getD i (0,0)).1
theorem Ny{l:List UInt8}{p k:Nat}(h:At l p k)(hp:p<l.length):(V l).getD k (0,0)=aR (l.drop p):=by
 rw[List.getD_eq_getElem?_getD,h.get hp];rfl
theorem zQ(a b:ByteArray):lb (a++b)=lb a++lb b:=by
 simp[lb,ByteArray.data_append]
theorem lb_eq(s:ByteArray):lb s=s.data.toList:=rfl
theorem Nz{c:Nat}(h:vr c):lb (Utf8.encode (c:Int))=dX c:=by
 rw[lb_eq];exact MP c h
def LU(e:Ending)(x:Option (List UInt8)):Prop:=∃ t o,e=.returned (.tuple #[.string t,.bool o])/\o=x.isSome/\lb t=x.getD []
theorem Hu(s:ByteArray)(hs:s.size<=100000)(w:World) :
  Calls Tryz.prog 189 #[.string s] w fun e w'=>LU e (jX (lb s))/\Below w.heap.size w w':=by
 have hL:=cL s;have hV:=Dr (lb s);have HEx:=ae (gS s);have HAp:=ae zQ;go_enter Tryz.func189,Tryz.ntmps189
 go_wp2_with fail;go_loopw [4,5] (fun a c w'=>∃(p k:Nat) (x y:Int),w'=w.iter s p/\a=.int .i64 x/\c=.int .i32 y/\At (lb s) p k/\LT (V (lb s)) k x y) (fun _ _ w'=>s.size-w'.iterPos w.heap.size)
 case atStart=>exact⟨0,0,-1,1114111,rfl,rfl,rfl,At.zero _,rfl⟩
 case round =>
  obtain⟨p,k,x,y,rfl,rfl,rfl,kg,kV⟩:=hrel;by_cases hp:p<s.size
  ·have yw:∀ ty,(Instr.next (.pointer (some ⟨w.heap.size,0,none⟩)) true ty).run Tryz.prog (w.iter s p)=_:=fun ty=>run_next_any w s p ty hp
   rw[me]at yw;have hw:=dF _ (jp (l:=lb s) (p:=p) (by omega));have YN:=LA _ (jp (l:=lb s) (p:=p) (by omega));have HN:=ae (kg.next (by omega));have HPO:jgf (p=eQ (V (lb s)) k):=kg.2.2.1;have HG:=ae (Ny kg (by omega));have sL:=ae kV;clear kg kV;generalize aR ((lb s).drop p)=u at *;obtain⟨c,wd⟩:=u;simp only at *;have hc:c<=1114111:=by unfold vr at YN;omega
   clear YN;by_cases hg:c=1114111
   ·subst hg
    go_wp2_with fail;go_roundw
    case rel =>
     refine⟨_,k+1,x,y,rfl,rfl,rfl,HN.o,?_⟩;have h1:=sL.o;unfold LT at h1 ⊢;rw[il,HG.o,jei rfl];exact h1
    case measure=>simp;omega
   ·have fJ:((c:Int) != 1114111)=true:=by simp;omega
    go_wp2_with fail;refine(SF c hc _).mono ?_;rintro e w1 ⟨rfl,rfl⟩;go_wp2_with fail;go_roundw
    case rel =>
     refine⟨_,k+1,_,_,rfl,rfl,rfl,HN.o,?_⟩;unfold LT;rw[il,HG.o,jeh hg];simp only;rw[HG.o];exact⟨by rw[HPO.o],rfl⟩
    case measure=>simp;omega
  ·have yw:∀ ty,(Instr.next (.pointer (some ⟨w.heap.size,0,none⟩)) true ty).run Tryz.prog (w.iter s p)=_:=fun ty=>run_next_end w s p ty hp
   have HE:=ae (kg.end (by omega));clear kg;obtain⟨rfl,hpe⟩:=HE.o;clear HE hpe;unfold LT at kV;cases hlg:il (V (lb s)) (V (lb s)).length with
   | none =>
    rw[hlg]at kV;simp only at kV;subst kV;have HLG:=ae hlg;clear hlg;go_wp2_with fail;go_ret2
    refine⟨⟨_,_,rfl,?_,?_⟩,ez _ _ _⟩
    ·rw[jX,upL,HLG.o];rfl
    ·rw[jX,upL,HLG.o];rfl
   | some i =>
    rw[hlg]at kV;simp only at kV;obtain⟨rfl,rfl⟩:=kV;have HLG:=ae hlg;have hil:=rh hlg;have hoi:=(vW (l:=lb s) i (by omega)).1
    have hvx:vr (nx ((V (lb s)).getD i (0,0)).1):=by
     refine ZP ?_ hil.2;have Ra:i<(V (lb s)).length:=hil.1;rw[List.getD_eq_getElem?_getD,List.getElem?_eq_getElem Ra];exact(Xd _ _ (jek _) _ (jeo Ra)).1
    have HE:=ae (Nz hvx);clear hlg hil hvx;generalize ho:eQ (V (lb s)) i=o at *;have HO:jgf (eQ (V (lb s)) i=o):=ho;clear ho;generalize hc:nx ((V (lb s)).getD i (0,0)).1=c at *;have HC:jgf (nx ((V (lb s)).getD i (0,0)).1=c):=hc;clear hc;generalize hE:Utf8.encode (c:Int)=E at *;have hEs:E.size<=4:=by rw[← cL,HE.o];exact(iw c).2
    have hXs:(s.extract 0 o).size<=100000:=by rw[← cL,HEx.o];simp;omega
    have hneg:¬ (o:Int)<0:=(by omega)
    have vL:∀ w,(convert 21 9 (.int .i32 (c:Int))).run Tryz.prog w=.ok (.string E) w:=fun w=>by
     rw[run_convert_int_string w 21 9 .i32 c (by kernel_rfl) Tryz.underlying9,hE]
    clear hE;have KO:∀ w,(Op.stringOp .add (s.extract 0 o) E).run Tryz.prog w=.ok (.string (s.extract 0 o++E)) w:=fun w=>run_string_add_sum w _ _ (by omega)
    go_wp2_with fail;go_ret2
    refine⟨⟨_,_,rfl,?_,?_⟩,ez _ _ _⟩
    ·rw[jX,upL,HLG.o];rfl
    ·rw[jX,upL,HLG.o,HAp.o,HEx.o,HE.o,jfu,HO.o,HC.o]
     simp
def gT(l:List UInt8)(n:Int):Option (List UInt8) :=
 if dS l=true then (if ((V l).length:Int)<=n then some l else jX (bZ l n)) else none
theorem qf(l:List UInt8)(n:Int):(bZ l n).length<=l.length:=by
 unfold bZ;simp;omega
theorem NA(s:ByteArray)(n:Int)(hs:s.size<=100000)(w:World) :
  Calls Tryz.prog 153 #[.string s,.int .i64 n] w fun e w'=>LU e (gT (lb s) n)/\Below w.heap.size w w':=by
 have hL:=cL s;have hV:=Dr (lb s);go_enter Tryz.func153,Tryz.ntmps153
 go_wp2_with fail;refine(tc s hs _).mono ?_;rintro e w1 ⟨rfl,aH⟩;have HX:jgf (gT (lb s) n=if dS (lb s)=true then (if ((V (lb s)).length:Int)<=n then some (lb s) else jX (bZ (lb s) n)) else none):=rfl;cases hc:dS (lb s)with
 | false =>
  have HB:=ae aH;rw[hc]at HX;clear aH hc;go_wp2_with fail;go_ret2
  rw[HX.o];exact⟨⟨_,_,rfl,rfl,rfl⟩,HB.o⟩
 | true =>
  have HB:=ae aH;rw[hc]at HX;have hz:=aH.size;clear aH hc;go_wp2_with fail;refine(zO s hs _).mono ?_;rintro e w2 ⟨rfl,aE⟩;have aN:=ae aE;have bv:=aE.size;clear aE;by_cases pt:((V (lb s)).length:Int)<=n
  ·rw[jei pt]at HX
   go_wp2_with fail;go_ret2
   rw[HX.o];exact⟨⟨_,_,rfl,rfl,rfl⟩,HB.o.trans (aN.o.mono hz)⟩
  ·rw[jeh pt]at HX
   go_wp2_with fail;refine(zP s n hs _).mono ?_;rintro e w3 ⟨⟨t,rfl,ht⟩,aS⟩;have bN:=ae aS;have iN:=aS.size;have HT:=ae ht
   have Dk:t.size<=100000:=by
    have:=qf (lb s) n;rw[← ht,cL,cL]at this;omega
   clear aS ht;go_wp2_with fail;refine(Hu t Dk _).mono ?_;rintro e w4 ⟨⟨t2,o,rfl,ho,KQ⟩,bG⟩;have cp:=ae bG;have KR:=bG.size;have H2:=ae (And.intro ho KQ);clear bG ho KQ;go_wp2_with fail;go_ret2
   rw[HX.o];refine⟨⟨t2,o,rfl,?_⟩,((HB.o.trans (aN.o.mono hz)).trans (bN.o.mono (by omega))).trans (cp.o.mono (by omega))⟩;simp only[if_true];rw[← HT.o];exact H2.o
def lk:List Nat->List Nat->Bool
 | [],t=>t.isEmpty
 | c::p,t=>if c=37 then (List.range (t.length+1)).any (fun j=>lk p (t.drop j)) else
   match t with
   | []=>false
   | x::t'=>(c==95 || c==x) && lk p t'
theorem ar{B:Nat}{a w:World}(h:Below B a w)(q:Nat):Below B a (w.drewN q):=h.trans ⟨rfl,rfl,rfl,jek _,fun _ _=>rfl⟩
end Go.Proofs.YtpljdjmpamjkhaaGreatDoor
