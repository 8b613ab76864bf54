import Derived.Test.YtpljdjmpamjkhaaGreatDoorUab
set_option linter.unusedVariables false
set_option linter.unusedSimpArgs false
set_option maxRecDepth 100000
set_option maxHeartbeats 2000000
namespace Go.Proofs.YtpljdjmpamjkhaaGreatDoor
open Go.RowKit Go.Lib
theorem GH{a b:ByteArray}(h:lb a=lb b):a=b:=by
 cases a;cases b
 simp[lb]at h
 subst h;rfl
theorem gH(s:ByteArray)(a e:Nat):lb (s.extract a e)=((lb s).drop a).take (e-a):=by
 simp[lb,ByteArray.data_extract,Array.toList_extract,List.extract_eq_take_drop]
theorem lR(s:ByteArray)(p:Nat):Utf8.decode s p=aP ((lb s).drop p):=CE s p
theorem KY{k:IntKind}{a b:Int}(h:a=b):Ending.returned (.int k a)=.returned (.int k b):=by rw[h]
theorem km{a b:Bool}(h:a=b):Ending.returned (.bool a)=.returned (.bool b):=by rw[h]
theorem za(s:ByteArray):s.toList=lb s:=ByteArray.toList_eq s
theorem Dl(b a:List UInt8):(a.take b.length==b)=b.isPrefixOf a:=by
 rw[jeI];simp only[beq_iff_eq,jeu];constructor
 ·intro h;rw[← h];exact List.take_prefix _ _
 ·rintro⟨t,rfl⟩;simp
theorem wC(a b:ByteArray)(w:World):Calls Tryz.prog 215 #[.string a,.string b] w fun e w'=>e=.returned (.bool ((lb b).isPrefixOf (lb a)))/\w'=w:=by
 have ha:=cI a;have hb:=cI b;by_cases h:(a.size:Int)>=b.size
 ·go_enter Tryz.func215,Tryz.ntmps215
  go_wp2;go_ret
  refine⟨km ?_,rfl⟩;rw[za,za,gH,← Dl];simp[hb]
 ·go_enter Tryz.func215,Tryz.ntmps215
  go_wp2;go_ret
  refine⟨km ?_,rfl⟩;cases hp:(lb b).isPrefixOf (lb a)with
  | false=>rfl
  | true =>
   obtain⟨y,hy⟩:=jeu.1 hp;have:=jdm List.length hy;simp at this
   omega
theorem yc(a b:ByteArray)(w:World):Calls Tryz.prog 183 #[.string a,.string b] w fun e w'=>e=.returned (.bool ((lb b).isPrefixOf (lb a)))/\w'=w:=by
 go_enter Tryz.func183,Tryz.ntmps183
 go_wp2_with fail;refine(wC _ _ _).mono ?_;rintro e w1 ⟨rfl,rfl⟩;go_wp2_with fail;go_ret
 exact⟨rfl,rfl⟩
theorem ep(w:World)(s:ByteArray)(p:Nat):Below w.heap.size w (w.iter s p):=(jdg _ _).alloc (jdh _) _
theorem yd{l:List UInt8}{p k:Nat}(h:At l p k)(hp:p<l.length)(ha:((V l).take k).all ok=true):((V l).take (k+1)).all ok=ok (aP (l.drop p)):=by
 rw[vF h hp,List.all_append,ha];simp
theorem Dm{u:List (Nat×Nat)}{k:Nat}(h:(u.take k).all ok=false):u.all ok=false:=by
 cases hu:u.all ok with
 | false=>rfl
 | true =>
  rw[List.all_eq_true]at hu;rw[List.all_eq_false]at h;obtain⟨x,hx,Vy⟩:=h;exact absurd (hu x (jd3 hx)) Vy
theorem sI(s:ByteArray)(hs:s.size<=100000)(w:World) :
  Calls Tryz.prog 146 #[.string s] w fun e w'=>e=.returned (.bool (dK (lb s)))/\Below w.heap.size w w':=by
 have hL:=cI s;go_enter Tryz.func146,Tryz.ntmps146
 go_wp2;go_loopw [3] (fun i w'=>∃ p k:Nat,w'=w.iter s p/\At (lb s) p k/\((V (lb s)).take k).all ok=true) (fun _ w'=>s.size-w'.iterPos w.heap.size)
 case atStart=>exact⟨0,0,rfl,At.zero _,rfl⟩
 case round =>
  obtain⟨p,k,rfl,lB,cW⟩:=hrel;by_cases hp:p<s.size
  ·have xR:∀ ty,(Instr.next (.pointer (some ⟨w.heap.size,0,none⟩)) true ty).run Tryz.prog (w.iter s p)=_:=fun ty=>run_next_any w s p ty hp
   rw[lR]at xR;have hw:=dz _ (jf (l:=lb s) (p:=p) (by omega));have hn:=lB.next (by omega)
   have xH:=yd lB (by omega) cW;have iM:=Aw (l:=(lb s).drop p) (jf (by omega));clear lB cW;generalize (aP ((lb s).drop p))=u at *;obtain⟨c,wd⟩:=u;simp only at *;by_cases hc:c=65533
   ·subst hc
    have ek:=iM rfl;clear iM;go_wp2_with fail;refine(yc _ _ _).mono ?_;rintro e w1 ⟨rfl,rfl⟩
    have ei:(lb { data:=#[239,191,189] }).isPrefixOf (lb (s.extract p s.size))=ok (65533,wd):=by
     rw[← ek,gH,jdZ (by simp;omega)];rfl
    rw[ei];clear ek ei;cases ho:ok (65533,wd)with
    | true =>
     go_wp2_with fail;go_roundw
     case rel=>exact⟨_,k+1,rfl,hn,by rw[xH,ho]⟩
     case measure=>simp;omega
    | false =>
     go_wp2_with fail;go_ret
     exact⟨km (by rw[dK,Dm (k:=k+1)];rw[xH,ho]),ep _ _ _⟩
   ·have Vz:((c:Int)==65533)=false:=by simp;omega
    have ho:ok (c,wd)=true:=by simp[ok,hc]
    clear iM;go_wp2_with fail;go_roundw
    case rel=>exact⟨_,k+1,rfl,hn,by rw[xH,ho]⟩
    case measure=>simp;omega
  ·have xR:∀ ty,(Instr.next (.pointer (some ⟨w.heap.size,0,none⟩)) true ty).run Tryz.prog (w.iter s p)=_:=fun ty=>run_next_end w s p ty hp
   have HE:jfb (k=(V (lb s)).length/\p=(lb s).length):=lB.end (by omega);clear lB;go_wp2_with fail;go_ret
   refine⟨km ?_,ep _ _ _⟩;rw[HE.o.1,jdp]at cW;exact cW.symm
def B(s:ByteArray)(k:Nat):Nat:=((lb s).getD k 0).toNat
theorem nC(s:ByteArray)(k:Nat):B s k<256:=UInt8.toNat_lt _
theorem tF(s:ByteArray)(k:Nat)(h:k<s.size):(s[k]'h).toNat=B s k:=by
 unfold B;have h2:k<(lb s).length:=h;rw[List.getD_eq_getElem?_getD,List.getElem?_eq_getElem h2];rfl
theorem ip(s:ByteArray):aP (lb s)=Lib.decodeN s.size (B s 0) (B s 1) (B s 2) (B s 3):=rfl
theorem jq(s:ByteArray)(k:Nat):wrap64 (B s k:Int)=B s k:=by
 have:=nC s k;unfold wrap64;omega
def acc(s:ByteArray)(a:Int):Nat->Int
 | 0=>a
 | k+1=>if k=0 then a else acc s a k*64+B s k-128
theorem db{s:ByteArray}{c wd:Nat}{o:Bool}(h:aP (lb s)=(c,wd))(ho:ok (c,wd)=o):Ending.returned (.tuple #[.int .i64 (c:Int),.int .i64 (wd:Int),.bool o])=Ending.returned (.tuple #[.int .i64 ((aP (lb s)).1:Int),.int .i64 ((aP (lb s)).2:Int),.bool (ok (aP (lb s)))]):=by
 rw[h,ho]
theorem lS{s:ByteArray}{x:Int}{wd:Nat}{o:Bool}(h:aP (lb s)=(x.toNat,wd))(hx:x=(x.toNat:Int))(ho:ok (x.toNat,wd)=o):Ending.returned (.tuple #[.int .i64 x,.int .i64 wd,.bool o])=Ending.returned (.tuple #[.int .i64 ((aP (lb s)).1:Int),.int .i64 ((aP (lb s)).2:Int),.bool (ok (aP (lb s)))]):=by
 rw[h,ho];show _=Ending.returned (.tuple #[.int .i64 (x.toNat:Int),.int .i64 wd,.bool o])
 rw[← hx]
theorem Rg(s:ByteArray)(h0:0<s.size)(hb:B s 0<128)(w:World) :
  Calls Tryz.prog 108 #[.string s] w fun e w'=>e=Ending.returned (.tuple #[.int .i64 ((aP (lb s)).1:Int),.int .i64 ((aP (lb s)).2:Int),.bool (ok (aP (lb s)))])/\w'=w:=by
 have hu:aP (lb s)=(B s 0,1):=by rw[ip];simp only[Lib.decodeN];rw[jdf hb]
 have hg:=tF s 0 h0;have hw:=jq s 0;have HU:jfb (aP (lb s)=(B s 0,1)):=hu;clear hu;generalize B s 0=b at *;have h1:(b:Int)<128:=by omega
 go_enter Tryz.func108,Tryz.ntmps108
 go_wp2_with fail;go_ret3
 refine⟨?_,rfl⟩;exact db HU.o (by simp[ok];omega)
theorem zb(s:ByteArray)(h0:0<s.size)(hb:128<=B s 0)(aE:B s 0<194∨245<=B s 0)(w:World) :
  Calls Tryz.prog 108 #[.string s] w fun e w'=>e=Ending.returned (.tuple #[.int .i64 ((aP (lb s)).1:Int),.int .i64 ((aP (lb s)).2:Int),.bool (ok (aP (lb s)))])/\w'=w:=by
 have hu:aP (lb s)=(65533,1):=by
  have:=nC s 0;have:=nC s 1;have:=nC s 2;have:=nC s 3;rw[ip];simp only[Lib.decodeN];rw[jde (by omega)];split
  ·rw[jde (by omega)]
  ·rw[jde (by omega)]
   split
   ·rw[jde (by omega)]
   ·rfl
 have hg:=tF s 0 h0;have hw:=jq s 0;have HU:jfb (aP (lb s)=(65533,1)):=hu;clear hu;generalize B s 0=b at *;have h1:¬ (b:Int)<128:=by omega
 rcases aE with aE | aE
 ·have h2:¬ (b:Int)>=194:=by omega
  have h3:¬ (b:Int)>=224:=by omega
  have h4:¬ (b:Int)>=240:=by omega
  go_enter Tryz.func108,Tryz.ntmps108
  go_wp2_with fail;go_ret3
  exact⟨db HU.o rfl,rfl⟩
 ·have h2:(b:Int)>=194:=by omega
  have h3:(b:Int)>=224:=by omega
  have h4:(b:Int)>=240:=by omega
  have h5:¬ (b:Int)<224:=by omega
  have h6:¬ (b:Int)<240:=by omega
  have h7:¬ (b:Int)<245:=by omega
  go_enter Tryz.func108,Tryz.ntmps108
  go_wp2_with fail;go_ret3
  exact⟨db HU.o rfl,rfl⟩
theorem Dn(s:ByteArray)(hb:194<=B s 0)(aE:B s 0<224)(hs:s.size<2):aP (lb s)=(65533,1):=by
 rw[ip];simp only[Lib.decodeN];rw[jde (by omega),jde (by omega),jde (by omega),jde (by omega)]
theorem Mu(s:ByteArray)(hb:194<=B s 0)(aE:B s 0<224)(j:Nat)(h1:1<=j)(h2:j<2)(hj:B s j<128∨192<=B s j):aP (lb s)=(65533,1):=by
 have:=nC s 1;have:=nC s 2;have:=nC s 3
 have hc:(B s 1<128∨192<=B s 1):=by
  obtain rfl:j=1:=by omega
  exact hj
 rw[ip];simp only[Lib.decodeN];rw[jde (by omega),jde (by omega),jde (by omega),jde (by omega)]
theorem Mv(s:ByteArray)(hb:194<=B s 0)(aE:B s 0<224)(hj:∀ j,1<=j->j<2->128<=B s j/\B s j<192)(x:Int)(hx:x=acc s (B s 0-192) 2)
  (ho:x<128∨x > 1114111∨(x>=55296/\x<57344)):aP (lb s)=(65533,1):=by
 have:=hj 1 (by omega) (by omega);simp[acc]at hx
 rw[ip];simp only[Lib.decodeN];rw[jde (by omega)];split
 ·rw[jde (by omega)]
 ·split
  ·rw[jde (by omega)]
  ·split
   ·rw[jde (by omega)]
   ·rfl
theorem Rh(s:ByteArray)(hb:194<=B s 0)(aE:B s 0<224)(hs:2<=s.size)(hj:∀ j,1<=j->j<2->128<=B s j/\B s j<192)(x:Int)(hx:x=acc s (B s 0-192) 2)
  (h1:¬ x<128) (h2:¬ x > 1114111) (h3:¬ (x>=55296/\x<57344)):aP (lb s)=(x.toNat,2):=by
 have:=hj 1 (by omega) (by omega);simp[acc]at hx
 rw[ip];simp only[Lib.decodeN];rw[jde (by omega)];split
 ·first | (exfalso;omega) | (rw[jdf (by omega)];congr 1;omega)
 ·split
  ·first | (exfalso;omega) | (rw[jdf (by omega)];congr 1;omega)
  ·first | (exfalso;omega) | (rw[jdf (by omega),jdf (by omega)];congr 1;omega)
theorem Wi(s:ByteArray)(hb:194<=B s 0)(aE:B s 0<224)(k:Nat)(h1:1<=k)(h2:k<=2)(hj:∀ j,1<=j->j<k->128<=B s j/\B s j<192):0<=acc s (B s 0-192) k/\acc s (B s 0-192) k<=33554432:=by
 obtain rfl | rfl | rfl | rfl:k=1∨k=2∨k=3∨k=4:=by omega
 ·simp[acc];omega
 ·have:=hj 1 (by omega) (by omega)
  simp[acc];omega
 ·have:=hj 1 (by omega) (by omega)
  have:=hj 2 (by omega) (by omega);simp[acc];omega
 ·have:=hj 1 (by omega) (by omega)
  have:=hj 2 (by omega) (by omega);have:=hj 3 (by omega) (by omega);simp[acc];omega
theorem jag(s:ByteArray)(h0:0<s.size)(hs:s.size<=100000)(hb:194<=B s 0)(aE:B s 0<224)(w:World) :
  Calls Tryz.prog 108 #[.string s] w fun e w'=>e=Ending.returned (.tuple #[.int .i64 ((aP (lb s)).1:Int),.int .i64 ((aP (lb s)).2:Int),.bool (ok (aP (lb s)))])/\w'=w:=by
 have HS:jfb (∀ h:s.size<2,aP (lb s)=(65533,1)):=fun h=>Dn s hb aE h
 have HBad:jfb (∀(j:Nat) (h1:1<=j) (h2:j<2) (hj:B s j<128∨192<=B s j),aP (lb s)=(65533,1)):=Mu s hb aE;have HOut:jfb _:=Mv s hb aE;have HIn:jfb _:=Rh s hb aE;have HA:jfb _:=Wi s hb aE;have hg:=tF s 0 h0;have hw:=jq s 0;have ha1:((B s 0:Int)-192)=acc s (B s 0-192) 1:=rfl;generalize hA:acc s (B s 0-192)=A at *;have BX:jfb (acc s (B s 0-192)=A):=hA;clear hA;generalize xS:B s 0=b at *;clear xS;have h1:¬ (b:Int)<128:=by omega
 have t0:(b:Int)>=194:=by omega
 have t1:(b:Int)<224:=by omega
 by_cases hl:(s.size:Int)<2
 ·go_enter Tryz.func108,Tryz.ntmps108
  go_wp2_with fail;go_ret3
  exact⟨db (HS.o (by omega)) rfl,rfl⟩
 ·have BZ:2<=s.size:=by omega
  go_enter Tryz.func108,Tryz.ntmps108
  go_wp2_with fail;go_loopw [8,9] (fun n i w'=>w'=w/\∃ k:Nat,i=.int .i64 k/\1<=k/\k<=2/\n=.int .i64 (A k)/\∀ j,1<=j->j<k->128<=B s j/\B s j<192) (fun _ i _=>2-(intOf i).toNat)
  case atStart=>exact⟨rfl,1,rfl,by omega,by omega,rfl,fun j h1 h2=>by omega⟩
  case round =>
   obtain⟨rfl,k,rfl,qr,kG,rfl,hj⟩:=hrel;have hAk:=HA.o k qr kG hj;clear ha1;by_cases aC:k<2
   ·have hgk:=tF s k (by omega)
    have hwk:=jq s k
    have hAs:A (k+1)=A k*64+B s k-128:=by
     rw[← BX.o,acc,jde (by omega)]
    have hBk:=nC s k;have HJ:jfb (∀ j,1<=j->j<k->128<=B s j/\B s j<192):=hj;have HBk:jfb (B s k=B s k):=rfl;clear hj;by_cases ly:(B s k:Int)<128
    ·have nl:=HBad.o k qr aC (by omega)
     have HU:jfb (aP (lb s)=(65533,1)):=nl;clear nl hAs;generalize B s k=bk at *;go_wp2_with fail;go_ret3
     exact⟨db HU.o rfl,rfl⟩
    ·by_cases kF:(B s k:Int)>=192
     ·have nl:=HBad.o k qr aC (by omega)
      have HU:jfb (aP (lb s)=(65533,1)):=nl;clear nl hAs;generalize B s k=bk at *;go_wp2_with fail;go_ret3
      exact⟨db HU.o rfl,rfl⟩
     ·have HN:jfb (∀ j,1<=j->j<k+1->128<=B s j/\B s j<192):=by
       intro j h1 h2;by_cases h3:j<k
       ·exact HJ.o j h1 h3
       ·obtain rfl:j=k:=by omega
        omega
      have gE:jfb (A (k+1)=A k*64+B s k-128):=hAs;clear hAs;generalize B s k=bk at *;go_wp2_with fail;go_roundw
      case rel=>exact⟨trivial,k+1,by go_num,by omega,by omega,by rw[gE.o],HN.o⟩
      case measure=>simp[intOf];omega
   ·obtain rfl:k=2:=by omega
    have HX:jfb (∀ x:Int,x=A 2->∀ j,1<=j->j<2->128<=B s j/\B s j<192):=fun _ _=>hj
    have HO:=HOut.o hj (A 2) rfl;have HI:=HIn.o BZ hj (A 2) rfl;have du:jfb _:=HO;have rY:jfb _:=HI;clear HO HI hj;generalize A 2=x at *;by_cases t1:x<128
    ·go_wp2_with fail
     go_ret3
     exact⟨db (du.o (Or.inl t1)) rfl,rfl⟩
    ·by_cases t2:x > 1114111
     ·go_wp2_with fail
      go_ret3
      exact⟨db (du.o (Or.inr (Or.inl t2))) rfl,rfl⟩
     ·by_cases t3:x>=55296
      ·by_cases t4:x<57344
       ·go_wp2_with fail
        go_ret3
        exact⟨db (du.o (Or.inr (Or.inr ⟨t3,t4⟩))) rfl,rfl⟩
       ·have hz:x=(x.toNat:Int):=by omega
        have HZ:jfb (x=(x.toNat:Int)):=hz;clear hz;go_wp2_with fail;go_ret3
        exact⟨lS (wd:=2) (rY.o t1 t2 (by omega)) HZ.o (iP (by decide)),rfl⟩
      ·have hz:x=(x.toNat:Int):=by omega
       have HZ:jfb (x=(x.toNat:Int)):=hz;clear hz;go_wp2_with fail;go_ret3
       exact⟨lS (wd:=2) (rY.o t1 t2 (by omega)) HZ.o (iP (by decide)),rfl⟩
theorem Do(s:ByteArray)(hb:224<=B s 0)(aE:B s 0<240)(hs:s.size<3):aP (lb s)=(65533,1):=by
 rw[ip];simp only[Lib.decodeN];rw[jde (by omega),jde (by omega),jde (by omega),jde (by omega)]
theorem Mw(s:ByteArray)(hb:224<=B s 0)(aE:B s 0<240)(j:Nat)(h1:1<=j)(h2:j<3)(hj:B s j<128∨192<=B s j):aP (lb s)=(65533,1):=by
 have:=nC s 1;have:=nC s 2;have:=nC s 3
 have hc:(B s 1<128∨192<=B s 1)∨(B s 2<128∨192<=B s 2):=by
  obtain rfl | rfl:j=1∨j=2:=by omega
  all_goals omega
 rw[ip];simp only[Lib.decodeN];rw[jde (by omega),jde (by omega),jde (by omega),jde (by omega)]
theorem Mx(s:ByteArray)(hb:224<=B s 0)(aE:B s 0<240)(hj:∀ j,1<=j->j<3->128<=B s j/\B s j<192)(x:Int)(hx:x=acc s (B s 0-224) 3)
  (ho:x<2048∨x > 1114111∨(x>=55296/\x<57344)):aP (lb s)=(65533,1):=by
 have:=hj 1 (by omega) (by omega);have:=hj 2 (by omega) (by omega);simp[acc]at hx
 rw[ip];simp only[Lib.decodeN];rw[jde (by omega)];split
 ·rw[jde (by omega)]
 ·split
  ·rw[jde (by omega)]
  ·split
   ·rw[jde (by omega)]
   ·rfl
theorem Ri(s:ByteArray)(hb:224<=B s 0)(aE:B s 0<240)(hs:3<=s.size)(hj:∀ j,1<=j->j<3->128<=B s j/\B s j<192)(x:Int)(hx:x=acc s (B s 0-224) 3)
  (h1:¬ x<2048) (h2:¬ x > 1114111) (h3:¬ (x>=55296/\x<57344)):aP (lb s)=(x.toNat,3):=by
 have:=hj 1 (by omega) (by omega);have:=hj 2 (by omega) (by omega);simp[acc]at hx
 rw[ip];simp only[Lib.decodeN];rw[jde (by omega)];split
 ·first | (exfalso;omega) | (rw[jdf (by omega)];congr 1;omega)
 ·split
  ·first | (exfalso;omega) | (rw[jdf (by omega)];congr 1;omega)
  ·first | (exfalso;omega) | (rw[jdf (by omega),jdf (by omega)];congr 1;omega)
theorem Wj(s:ByteArray)(hb:224<=B s 0)(aE:B s 0<240)(k:Nat)(h1:1<=k)(h2:k<=3)(hj:∀ j,1<=j->j<k->128<=B s j/\B s j<192):0<=acc s (B s 0-224) k/\acc s (B s 0-224) k<=33554432:=by
 obtain rfl | rfl | rfl | rfl:k=1∨k=2∨k=3∨k=4:=by omega
 ·simp[acc];omega
 ·have:=hj 1 (by omega) (by omega)
  simp[acc];omega
 ·have:=hj 1 (by omega) (by omega)
  have:=hj 2 (by omega) (by omega);simp[acc];omega
 ·have:=hj 1 (by omega) (by omega)
  have:=hj 2 (by omega) (by omega);have:=hj 3 (by omega) (by omega);simp[acc];omega
theorem jah(s:ByteArray)(h0:0<s.size)(hs:s.size<=100000)(hb:224<=B s 0)(aE:B s 0<240)(w:World) :
  Calls Tryz.prog 108 #[.string s] w fun e w'=>e=Ending.returned (.tuple #[.int .i64 ((aP (lb s)).1:Int),.int .i64 ((aP (lb s)).2:Int),.bool (ok (aP (lb s)))])/\w'=w:=by
 have HS:jfb (∀ h:s.size<3,aP (lb s)=(65533,1)):=fun h=>Do s hb aE h
 have HBad:jfb (∀(j:Nat) (h1:1<=j) (h2:j<3) (hj:B s j<128∨192<=B s j),aP (lb s)=(65533,1)):=Mw s hb aE;have HOut:jfb _:=Mx s hb aE;have HIn:jfb _:=Ri s hb aE;have HA:jfb _:=Wj s hb aE;have hg:=tF s 0 h0;have hw:=jq s 0;have ha1:((B s 0:Int)-224)=acc s (B s 0-224) 1:=rfl;generalize hA:acc s (B s 0-224)=A at *;have BX:jfb (acc s (B s 0-224)=A):=hA;clear hA;generalize xS:B s 0=b at *;clear xS;have h1:¬ (b:Int)<128:=by omega
 have t0:(b:Int)>=194:=by omega
 have t1:¬ (b:Int)<224:=by omega
 have t2:(b:Int)>=224:=by omega
 have t3:(b:Int)<240:=by omega
 by_cases hl:(s.size:Int)<3
 ·go_enter Tryz.func108,Tryz.ntmps108
  go_wp2_with fail;go_ret3
  exact⟨db (HS.o (by omega)) rfl,rfl⟩
 ·have BZ:3<=s.size:=by omega
  go_enter Tryz.func108,Tryz.ntmps108
  go_wp2_with fail;go_loopw [8,9] (fun n i w'=>w'=w/\∃ k:Nat,i=.int .i64 k/\1<=k/\k<=3/\n=.int .i64 (A k)/\∀ j,1<=j->j<k->128<=B s j/\B s j<192) (fun _ i _=>3-(intOf i).toNat)
  case atStart=>exact⟨rfl,1,rfl,by omega,by omega,rfl,fun j h1 h2=>by omega⟩
  case round =>
   obtain⟨rfl,k,rfl,qr,kG,rfl,hj⟩:=hrel;have hAk:=HA.o k qr kG hj;clear ha1;by_cases aC:k<3
   ·have hgk:=tF s k (by omega)
    have hwk:=jq s k
    have hAs:A (k+1)=A k*64+B s k-128:=by
     rw[← BX.o,acc,jde (by omega)]
    have hBk:=nC s k;have HJ:jfb (∀ j,1<=j->j<k->128<=B s j/\B s j<192):=hj;have HBk:jfb (B s k=B s k):=rfl;clear hj;by_cases ly:(B s k:Int)<128
    ·have nl:=HBad.o k qr aC (by omega)
     have HU:jfb (aP (lb s)=(65533,1)):=nl;clear nl hAs;generalize B s k=bk at *;go_wp2_with fail;go_ret3
     exact⟨db HU.o rfl,rfl⟩
    ·by_cases kF:(B s k:Int)>=192
     ·have nl:=HBad.o k qr aC (by omega)
      have HU:jfb (aP (lb s)=(65533,1)):=nl;clear nl hAs;generalize B s k=bk at *;go_wp2_with fail;go_ret3
      exact⟨db HU.o rfl,rfl⟩
     ·have HN:jfb (∀ j,1<=j->j<k+1->128<=B s j/\B s j<192):=by
       intro j h1 h2;by_cases h3:j<k
       ·exact HJ.o j h1 h3
       ·obtain rfl:j=k:=by omega
        omega
      have gE:jfb (A (k+1)=A k*64+B s k-128):=hAs;clear hAs;generalize B s k=bk at *;go_wp2_with fail;go_roundw
      case rel=>exact⟨trivial,k+1,by go_num,by omega,by omega,by rw[gE.o],HN.o⟩
      case measure=>simp[intOf];omega
   ·obtain rfl:k=3:=by omega
    have HX:jfb (∀ x:Int,x=A 3->∀ j,1<=j->j<3->128<=B s j/\B s j<192):=fun _ _=>hj
    have HO:=HOut.o hj (A 3) rfl;have HI:=HIn.o BZ hj (A 3) rfl;have du:jfb _:=HO;have rY:jfb _:=HI;clear HO HI hj;generalize A 3=x at *;by_cases t1:x<2048
    ·go_wp2_with fail
     go_ret3
     exact⟨db (du.o (Or.inl t1)) rfl,rfl⟩
    ·by_cases t2:x > 1114111
     ·go_wp2_with fail
      go_ret3
      exact⟨db (du.o (Or.inr (Or.inl t2))) rfl,rfl⟩
     ·by_cases t3:x>=55296
      ·by_cases t4:x<57344
       ·go_wp2_with fail
        go_ret3
        exact⟨db (du.o (Or.inr (Or.inr ⟨t3,t4⟩))) rfl,rfl⟩
       ·have hz:x=(x.toNat:Int):=by omega
        have HZ:jfb (x=(x.toNat:Int)):=hz;clear hz;go_wp2_with fail;go_ret3
        exact⟨lS (wd:=3) (rY.o t1 t2 (by omega)) HZ.o (iP (by decide)),rfl⟩
      ·have hz:x=(x.toNat:Int):=by omega
       have HZ:jfb (x=(x.toNat:Int)):=hz;clear hz;go_wp2_with fail;go_ret3
       exact⟨lS (wd:=3) (rY.o t1 t2 (by omega)) HZ.o (iP (by decide)),rfl⟩
theorem Dp(s:ByteArray)(hb:240<=B s 0)(aE:B s 0<245)(hs:s.size<4):aP (lb s)=(65533,1):=by
 rw[ip];simp only[Lib.decodeN];rw[jde (by omega),jde (by omega),jde (by omega),jde (by omega)]
theorem My(s:ByteArray)(hb:240<=B s 0)(aE:B s 0<245)(j:Nat)(h1:1<=j)(h2:j<4)(hj:B s j<128∨192<=B s j):aP (lb s)=(65533,1):=by
 have:=nC s 1;have:=nC s 2;have:=nC s 3
 have hc:(B s 1<128∨192<=B s 1)∨(B s 2<128∨192<=B s 2)∨(B s 3<128∨192<=B s 3):=by
  obtain rfl | rfl | rfl:j=1∨j=2∨j=3:=by omega
  all_goals omega
 rw[ip];simp only[Lib.decodeN];rw[jde (by omega),jde (by omega),jde (by omega),jde (by omega)]
theorem Mz(s:ByteArray)(hb:240<=B s 0)(aE:B s 0<245)(hj:∀ j,1<=j->j<4->128<=B s j/\B s j<192)(x:Int)(hx:x=acc s (B s 0-240) 4)
  (ho:x<65536∨x > 1114111∨(x>=55296/\x<57344)):aP (lb s)=(65533,1):=by
 have:=hj 1 (by omega) (by omega);have:=hj 2 (by omega) (by omega);have:=hj 3 (by omega) (by omega);simp[acc]at hx
 rw[ip];simp only[Lib.decodeN];rw[jde (by omega)];split
 ·rw[jde (by omega)]
 ·split
  ·rw[jde (by omega)]
  ·split
   ·rw[jde (by omega)]
   ·rfl
theorem Rj(s:ByteArray)(hb:240<=B s 0)(aE:B s 0<245)(hs:4<=s.size)(hj:∀ j,1<=j->j<4->128<=B s j/\B s j<192)(x:Int)(hx:x=acc s (B s 0-240) 4)
  (h1:¬ x<65536) (h2:¬ x > 1114111) (h3:¬ (x>=55296/\x<57344)):aP (lb s)=(x.toNat,4):=by
 have:=hj 1 (by omega) (by omega);have:=hj 2 (by omega) (by omega);have:=hj 3 (by omega) (by omega);simp[acc]at hx
 rw[ip];simp only[Lib.decodeN];rw[jde (by omega)];split
 ·first | (exfalso;omega) | (rw[jdf (by omega)];congr 1;omega)
 ·split
  ·first | (exfalso;omega) | (rw[jdf (by omega)];congr 1;omega)
  ·first | (exfalso;omega) | (rw[jdf (by omega),jdf (by omega)];congr 1;omega)
theorem Wk(s:ByteArray)(hb:240<=B s 0)(aE:B s 0<245)(k:Nat)(h1:1<=k)(h2:k<=4)(hj:∀ j,1<=j->j<k->128<=B s j/\B s j<192):0<=acc s (B s 0-240) k/\acc s (B s 0-240) k<=33554432:=by
 obtain rfl | rfl | rfl | rfl:k=1∨k=2∨k=3∨k=4:=by omega
 ·simp[acc];omega
 ·have:=hj 1 (by omega) (by omega)
  simp[acc];omega
 ·have:=hj 1 (by omega) (by omega)
  have:=hj 2 (by omega) (by omega);simp[acc];omega
 ·have:=hj 1 (by omega) (by omega)
  have:=hj 2 (by omega) (by omega);have:=hj 3 (by omega) (by omega);simp[acc];omega
theorem jai(s:ByteArray)(h0:0<s.size)(hs:s.size<=100000)(hb:240<=B s 0)(aE:B s 0<245)(w:World) :
  Calls Tryz.prog 108 #[.string s] w fun e w'=>e=Ending.returned (.tuple #[.int .i64 ((aP (lb s)).1:Int),.int .i64 ((aP (lb s)).2:Int),.bool (ok (aP (lb s)))])/\w'=w:=by
 have HS:jfb (∀ h:s.size<4,aP (lb s)=(65533,1)):=fun h=>Dp s hb aE h
 have HBad:jfb (∀(j:Nat) (h1:1<=j) (h2:j<4) (hj:B s j<128∨192<=B s j),aP (lb s)=(65533,1)):=My s hb aE;have HOut:jfb _:=Mz s hb aE;have HIn:jfb _:=Rj s hb aE;have HA:jfb _:=Wk s hb aE;have hg:=tF s 0 h0;have hw:=jq s 0;have ha1:((B s 0:Int)-240)=acc s (B s 0-240) 1:=rfl;generalize hA:acc s (B s 0-240)=A at *;have BX:jfb (acc s (B s 0-240)=A):=hA;clear hA;generalize xS:B s 0=b at *;clear xS;have h1:¬ (b:Int)<128:=by omega
 have t0:(b:Int)>=194:=by omega
 have t1:¬ (b:Int)<224:=by omega
 have t2:(b:Int)>=224:=by omega
 have t3:¬ (b:Int)<240:=by omega
 have t4:(b:Int)>=240:=by omega
 have t5:(b:Int)<245:=by omega
 by_cases hl:(s.size:Int)<4
 ·go_enter Tryz.func108,Tryz.ntmps108
  go_wp2_with fail;go_ret3
  exact⟨db (HS.o (by omega)) rfl,rfl⟩
 ·have BZ:4<=s.size:=by omega
  go_enter Tryz.func108,Tryz.ntmps108
  go_wp2_with fail;go_loopw [8,9] (fun n i w'=>w'=w/\∃ k:Nat,i=.int .i64 k/\1<=k/\k<=4/\n=.int .i64 (A k)/\∀ j,1<=j->j<k->128<=B s j/\B s j<192) (fun _ i _=>4-(intOf i).toNat)
  case atStart=>exact⟨rfl,1,rfl,by omega,by omega,rfl,fun j h1 h2=>by omega⟩
  case round =>
   obtain⟨rfl,k,rfl,qr,kG,rfl,hj⟩:=hrel;have hAk:=HA.o k qr kG hj;clear ha1;by_cases aC:k<4
   ·have hgk:=tF s k (by omega)
    have hwk:=jq s k
    have hAs:A (k+1)=A k*64+B s k-128:=by
     rw[← BX.o,acc,jde (by omega)]
    have hBk:=nC s k;have HJ:jfb (∀ j,1<=j->j<k->128<=B s j/\B s j<192):=hj;have HBk:jfb (B s k=B s k):=rfl;clear hj;by_cases ly:(B s k:Int)<128
    ·have nl:=HBad.o k qr aC (by omega)
     have HU:jfb (aP (lb s)=(65533,1)):=nl;clear nl hAs;generalize B s k=bk at *;go_wp2_with fail;go_ret3
     exact⟨db HU.o rfl,rfl⟩
    ·by_cases kF:(B s k:Int)>=192
     ·have nl:=HBad.o k qr aC (by omega)
      have HU:jfb (aP (lb s)=(65533,1)):=nl;clear nl hAs;generalize B s k=bk at *;go_wp2_with fail;go_ret3
      exact⟨db HU.o rfl,rfl⟩
     ·have HN:jfb (∀ j,1<=j->j<k+1->128<=B s j/\B s j<192):=by
       intro j h1 h2;by_cases h3:j<k
       ·exact HJ.o j h1 h3
       ·obtain rfl:j=k:=by omega
        omega
      have gE:jfb (A (k+1)=A k*64+B s k-128):=hAs;clear hAs;generalize B s k=bk at *;go_wp2_with fail;go_roundw
      case rel=>exact⟨trivial,k+1,by go_num,by omega,by omega,by rw[gE.o],HN.o⟩
      case measure=>simp[intOf];omega
   ·obtain rfl:k=4:=by omega
    have HX:jfb (∀ x:Int,x=A 4->∀ j,1<=j->j<4->128<=B s j/\B s j<192):=fun _ _=>hj
    have HO:=HOut.o hj (A 4) rfl;have HI:=HIn.o BZ hj (A 4) rfl;have du:jfb _:=HO;have rY:jfb _:=HI;clear HO HI hj;generalize A 4=x at *;by_cases t1:x<65536
    ·go_wp2_with fail
     go_ret3
     exact⟨db (du.o (Or.inl t1)) rfl,rfl⟩
    ·by_cases t2:x > 1114111
     ·go_wp2_with fail
      go_ret3
      exact⟨db (du.o (Or.inr (Or.inl t2))) rfl,rfl⟩
     ·by_cases t3:x>=55296
      ·by_cases t4:x<57344
       ·go_wp2_with fail
        go_ret3
        exact⟨db (du.o (Or.inr (Or.inr ⟨t3,t4⟩))) rfl,rfl⟩
       ·have hz:x=(x.toNat:Int):=by omega
        have HZ:jfb (x=(x.toNat:Int)):=hz;clear hz;go_wp2_with fail;go_ret3
        exact⟨lS (wd:=4) (rY.o t1 t2 (by omega)) HZ.o (iP (by decide)),rfl⟩
      ·have hz:x=(x.toNat:Int):=by omega
       have HZ:jfb (x=(x.toNat:Int)):=hz;clear hz;go_wp2_with fail;go_ret3
       exact⟨lS (wd:=4) (rY.o t1 t2 (by omega)) HZ.o (iP (by decide)),rfl⟩
theorem Rk(s:ByteArray)(hs:s.size<=100000)(h0:0<s.size)(w:World) :
  Calls Tryz.prog 108 #[.string s] w fun e w'=>e=.returned (.tuple #[.int .i64 (aP (lb s)).1,.int .i64 (aP (lb s)).2,.bool (ok (aP (lb s)))])/\w'=w:=by
 by_cases h1:B s 0<128
 ·exact Rg s h0 h1 w
 ·by_cases h2:B s 0<194
  ·exact zb s h0 (by omega) (Or.inl h2) w
  ·by_cases h3:B s 0<224
   ·exact jag s h0 hs (by omega) h3 w
   ·by_cases h4:B s 0<240
    ·exact jah s h0 hs (by omega) h4 w
    ·by_cases h5:B s 0<245
     ·exact jai s h0 hs (by omega) h5 w
     ·exact zb s h0 (by omega) (Or.inr (by omega)) w
def sgn(u:List (Nat×Nat))(k:Nat):List Value:=(u.take k).map fun x=>Value.int .i64 (x.1:Int)
def ats(u:List (Nat×Nat))(k:Nat):List Value:=(List.range k).map fun j=>Value.int .i64 (eJ u j:Int)
theorem Rl{l:List UInt8}{p k:Nat}(h:At l p k)(hp:p<l.length):sgn (V l) (k+1)=sgn (V l) k++[.int .i64 ((aP (l.drop p)).1:Int)]:=by
 unfold sgn;rw[vF h hp];simp
theorem Rm{l:List UInt8}{p k:Nat}(h:At l p k):ats (V l) (k+1)=ats (V l) k++[.int .i64 (p:Int)]:=by
 unfold ats;rw[jey,jdC,h.2.2.1];rfl
def nD(a b:Value):Prop:=∀ g,a.ownBlock=some g->b.ownBlock≠some g
theorem nD.symm{a b:Value}(h:nD a b):nD b a:=fun g hg h2=>h g h2 hg
theorem nD.ne{a b:Value}(h:nD a b):a.ownBlock=none∨a.ownBlock≠b.ownBlock:=by
 cases ha:a.ownBlock with
 | none=>exact Or.inl rfl
 | some g=>exact Or.inr (fun h2=>h g ha h2.symm)
theorem nD.grow{a a' b:Value}{n:Nat}(h:nD a b)(hn:a'.ownBlock=a.ownBlock∨a'.ownBlock=some n)(hb:∀ k,b.ownBlock=some k->k<n):nD a' b:=by
 intro g hg h2;rcases hn with hn | hn
 ·exact h g (hn ▸ hg) h2
 ·rw[hn]at hg
  have:=hb g h2;have:=Option.some.inj hg;omega
theorem info3:(Tryz.prog.info? 3).map (fun i=>(i.zero,i.size,i.bytes))=some (some (.int .i64 0),1,8):=by kernel_rfl
theorem oE(s:ByteArray)(hs:s.size<=100000)(w:World) :
  Calls Tryz.prog 60 #[.string s] w fun e w'=>(∃ a b,e=.returned (.tuple #[a,b,.bool (dK (lb s))])/\w'.ownsRow w.heap.size 3 1 a (V (lb s)).length (sgn (V (lb s)) (V (lb s)).length)/\w'.ownsRow w.heap.size 3 1 b (V (lb s)).length (ats (V (lb s)) (V (lb s)).length))/\Below w.heap.size w w':=by
 obtain⟨i0,hi,cm,hz1',bn⟩:=jdA info3;have hL:=cI s;have hV:=CD (lb s);go_enter Tryz.func60,Tryz.ntmps60
 go_wp2_with fail;go_loopw [5,6,7,8] (fun a b c i wr=>∃ p k:Nat,At (lb s) p k/\i=.int .i64 p/\c=.bool (((V (lb s)).take k).all ok)/\wr.ownsRow w.heap.size 3 1 a k (sgn (V (lb s)) k)/\wr.ownsRow w.heap.size 3 1 b k (ats (V (lb s)) k)/\nD a b/\Below w.heap.size w wr) (fun _ _ _ i _=>s.size-(intOf i).toNat)
 case atStart=>exact⟨0,0,At.zero _,rfl,rfl,jd8 _ _ _ _,jd8 _ _ _ _,(fun g hg=>by simp[Value.ownBlock]at hg),jdg _ _⟩
 case round =>
  obtain⟨p,k,lB,rfl,rfl,aA,cz,LC,az⟩:=hrel;by_cases hp:p<s.size
  ·have hk:=lB.len (by omega)
   have hw:=dz _ (jf (l:=lb s) (p:=p) (by omega));simp only[jdN]at hw;have HN:=ae (lB.next (by omega));have HS:=ae (Rl lB (by omega));have HA:=ae (Rm lB);have HT:=ae (vF lB (by omega));have HO:=ae aA;have du:=ae cz;have HP:=ae LC;have HB:=ae az;have bP:=az.size;clear lB aA cz LC az;have hex:lb (s.extract p s.size)=(lb s).drop p:=by rw[gH,jdZ (by simp;omega)]
   have hes:(s.extract p s.size).size=s.size-p:=by rw[← cI,hex];simp;omega
   have hc:=Rk (s.extract p s.size) (by omega) (by omega);rw[hex]at hc;have HC:=ae hc;clear hc hex hes;generalize aP ((lb s).drop p)=u at *;obtain⟨c,wd⟩:=u;simp only at *;generalize ly:((V (lb s)).take k).all ok=ck at *;have VA:=ae ly;clear ly;go_wp2_with fail;refine(HC.o _).mono ?_;rintro e w1 ⟨rfl,rfl⟩;go_wp2_with (first | (at_builtin;refine jdU _ rfl _ _ 114 rfl w.heap.size 3 i0 (.int .i64 0) 1 8 Tryz.underlying114 hi cm hz1' bn rfl (by decide) _ _ _ rfl (HO.o.alloc _) ⟨w1.heap.size,0,none⟩ 1 1 [.int .i64 (c:Int)] rfl rfl ?c1 ?c2 ?c3 ?c4 ?c5 ?_))
   case c1=>exact cell_one_new _ _ _
   case c2=>intro u hu;simp at hu;subst hu;rfl
   case c3=>unfold maxLen;omega
   case c4=>omega
   case c5=>simp;omega
   intro v1 w2 o1 g1 _ e1;have hz2w:=g1.size;simp at hz2w
   have fC:=ae o1;have cZ:=ae ((du.o.alloc (.cells #[.int .i64 (c:Int)] 3)).kept g1 HP.o.symm.ne);have Cu:=ae (HP.o.grow e1 (fun k hk=>by have:=(du.o.lt k hk).2;simp;omega));have aR:=ae ((HB.o.alloc (by omega) _).grown g1 (by simp;omega) (fun k hk=>(HO.o.lt k hk).1));clear o1 g1 e1;go_wp2_with (first | (at_builtin;refine jdU _ rfl _ _ 114 rfl w.heap.size 3 i0 (.int .i64 0) 1 8 Tryz.underlying114 hi cm hz1' bn rfl (by decide) _ _ _ rfl (cZ.o.alloc _) ⟨w2.heap.size,0,none⟩ 1 1 [.int .i64 (p:Int)] rfl rfl ?d1 ?d2 ?d3 ?d4 ?d5 ?_))
   case d1=>exact cell_one_new _ _ _
   case d2=>intro u hu;simp at hu;subst hu;rfl
   case d3=>unfold maxLen;omega
   case d4=>omega
   case d5=>simp;omega
   intro v2 w3 o2 g2 _ e2;have eR:=ae o2;have dJ:=ae ((fC.o.alloc (.cells #[.int .i64 (p:Int)] 3)).kept g2 Cu.o.ne);have Fv:=ae (Cu.o.symm.grow e2 (fun k hk=>by have:=(fC.o.lt k hk).2;simp;omega)).symm;have aO:=ae ((aR.o.alloc (by omega) _).grown g2 (by simp;omega) (fun k hk=>(cZ.o.lt k hk).1));clear o2 g2 e2;cases ck
   all_goals
    go_wp2_with fail;go_roundw
    case rel =>
     refine⟨p+wd,k+1,HN.o,by go_num,?_,?_,?_,Fv.o,aO.o⟩
     ·rw[HT.o,List.all_append,VA.o];simp
     ·rw[HS.o];exact dJ.o
     ·rw[HA.o];exact eR.o
    case measure=>simp[intOf];omega
  ·have he:=lB.end (by omega)
   have HE:=ae he;clear he lB;go_wp2_with fail;go_ret3
   obtain⟨rfl,_⟩:=HE.o;exact⟨⟨_,_,(by rw[jdp];rfl),aA,cz⟩,az⟩
theorem KZ{u:List (Nat×Nat)}{n j:Nat}(h:j<n):(ats u n)[j]?=some (.int .i64 (eJ u j:Int)):=by
 simp[ats,h]
theorem La{u:List (Nat×Nat)}{j:Nat}(h:j<u.length):(sgn u u.length)[j]?=some (.int .i64 (u[j].1:Int)):=by
 simp[sgn,h]
theorem uX{l:List UInt8}:∀ k,k<=(V l).length->At l (eJ (V l) k) k:=by
 intro k;induction k with
 | zero=>intro _;rw[offs_zero];exact At.zero l
 | succ k ih =>
  intro hk;have h:=ih (by omega)
  have aC:eJ (V l) k<l.length:=by
   rcases jdJ (eJ (V l) k) l.length with h1 | h1
   ·exact h1
   ·have:=(h.end (by omega)).1
    omega
  have h2:=h.next aC
  rw[h2.2.2.1]at h2;exact h2
end Go.Proofs.YtpljdjmpamjkhaaGreatDoor
