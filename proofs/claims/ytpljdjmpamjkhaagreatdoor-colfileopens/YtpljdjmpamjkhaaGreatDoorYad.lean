import Derived.Test.YtpljdjmpamjkhaaGreatDoorYab
import Derived.Lib.Zigzag
import Derived.Lib.VarintBits
import Derived.Laws.Strings
import Derived.Lib.DecodeN
set_option linter.unusedVariables false
set_option linter.unusedSimpArgs false
namespace Go.Proofs.YtpljdjmpamjkhaaGreatDoor
open Go.Lib
def val:List UInt8->Nat
 | []=>0
 | b::r=>b.toNat % 128+128*val r
theorem Ag:val []=0:=rfl
theorem jg(b:UInt8)(r:List UInt8):val (b::r)=b.toNat % 128+128*val r:=rfl
theorem uS:∀ l,val l<128 ^ l.length
 | []=>by simp[val]
 | b::r=>by
  have:=uS r;rw[jg,ZW,Nat.pow_succ];omega
theorem uT:∀ a b,val (a++b)=val a+128 ^ a.length*val b
 | [],b=>by simp[val]
 | x::a,b=>by
  rw[jaz,jg,uT a b,jg,ZW,Nat.pow_succ,jaR];have:128*(128 ^ a.length*val b)=128 ^ a.length*128*val b:=by rw[jak (128 ^ a.length) 128,jaX]
  omega
theorem eY{l:List UInt8}{k:Nat}(h:k<l.length):val (l.take (k+1))=val (l.take k)+(l[k].toNat % 128)*128 ^ k:=by
 rw[Z5 h,uT,jg,Ag,ZX,jaJ (by omega)];simp[jak]
def aS:List UInt8->Nat
 | []=>0
 | b::r=>if 128<=b.toNat then aS r+1 else 0
theorem uA:∀ l,aS l<=l.length
 | []=>by simp[aS]
 | b::r=>by
  have:=uA r;unfold aS;split<;>simp<;>omega
theorem nf:∀(l:List UInt8) (k:Nat) (h:k<l.length),k<aS l->128<=l[k].toNat
 | [],k,h,_=>by simp at h
 | b::r,0,h,hk=>by
  unfold aS at hk;split at hk
  ·simpa
  ·omega
 | b::r,k+1,h,hk=>by
  unfold aS at hk;split at hk
  ·simpa using nf r k (by simpa using h) (by omega)
  ·omega
theorem iR:∀(l:List UInt8) (h:aS l<l.length),l[aS l].toNat<128
 | [],h=>by simp at h
 | b::r,h=>by
  by_cases hb:128<=b.toNat
  ·have e:aS (b::r)=aS r+1:=by rw[aS,if_pos hb]
   have hr:aS r<r.length:=by rw[e]at h;simpa using h
   have:=iR r hr;simpa [e]using this
  ·have e:aS (b::r)=0:=by rw[aS,if_neg hb]
   simpa [e]using hb
theorem Jo{l:List UInt8}{k:Nat}(hk:k<=aS l)(h:k<l.length)(hs:l[k].toNat<128):aS l=k:=by
 rcases jae k (aS l)with h1 | h1
 ·have:=nf l k h h1;omega
 ·omega
theorem Kl{l:List UInt8}{k:Nat}(hk:k<=aS l)(h:k<l.length)(hs:128<=l[k].toNat):k+1<=aS l:=by
 rcases jae k (aS l)with h1 | h1
 ·exact h1
 ·have e:aS l=k:=by omega
  have h2:=iR l (by omega);simp only[e]at h2;omega
def ft(l:List UInt8):Nat×Nat×Nat :=
 if 9<=aS l/\9<l.length/\1<(l.getD 9 0).toNat then (0,0,31)
 else if aS l=l.length then (0,0,30)
 else if (l.getD (aS l) 0).toNat=0/\0<aS l then (0,0,31)
 else (val (l.take (aS l+1)),aS l+1,0)
theorem kJ{l:List UInt8}{k:Nat}(h:k<l.length):l.getD k 0=l[k]:=by
 rw[List.getD_eq_getElem?_getD,List.getElem?_eq_getElem h];rfl
theorem E6{l:List UInt8}(hk:9<=aS l)(h:9<l.length)(hs:1<l[9].toNat):ft l=(0,0,31):=by
 unfold ft;rw[if_pos ⟨hk,h,by rwa[kJ h]⟩]
theorem Ca{l:List UInt8}{k:Nat}(hk:k<=aS l)(h9:k<=9)(h:¬ k<l.length):ft l=(0,0,30):=by
 have:=uA l;unfold ft;rw[if_neg (fun h=>by omega),if_pos (by omega)]
theorem yw{l:List UInt8}{k:Nat}(hk:k<=aS l)(h9:k<=9)(h:k<l.length)(hs:l[k].toNat<128)(ht:k=9->l[k].toNat<=1) :
  ft l=if l[k].toNat=0/\0<k then (0,0,31) else (val (l.take (k+1)),k+1,0):=by
 have e:=Jo hk h hs;unfold ft;rw[e,if_neg,if_neg (by omega),kJ h];rintro⟨h1,h2,h3⟩;obtain rfl:k=9:=by omega
 rw[kJ h2]at h3;have:=ht rfl;omega
theorem Nm{l:List UInt8}{k:Nat}(h9:k<=9)(h:k<l.length)(ht:k=9->l[k].toNat<=1):val (l.take (k+1))<18446744073709551616:=by
 rcases jae k 9 with h1 | h1
 ·have h2:=uS (l.take (k+1))
  rw[ZX,jaJ (by omega)]at h2;have h3:128 ^ (k+1)<=128 ^ 9:=jaY (by omega) (by omega);have h4:(128:Nat) ^ 9=9223372036854775808:=by decide
  omega
 ·obtain rfl:k=9:=by omega
  rw[eY h];have h2:=uS (l.take 9);rw[ZX,jaJ (by omega)]at h2;have h4:(128:Nat) ^ 9=9223372036854775808:=by decide
  rw[h4]at *;have:=ht rfl;omega
theorem E7:∀(n x:Nat),x<=n->val (uvarint x)=x/\aS (uvarint x)+1=(uvarint x).length
 | n,x,hn=>by
  by_cases h:x<128
  ·rw[uvarint_small h,jg,mc (by omega),Ag,aS,mc (by omega),if_neg (by omega)]
   simp;omega
  ·cases n with
   | zero=>omega
   | succ n =>
    obtain⟨h1,h2⟩:=E7 n (x / 128) (by omega);rw[uvarint_big (by omega),jg,mc (by omega),aS,mc (by omega),if_pos (by omega),h1,h2,ZW];omega
theorem E8(x:Nat):val (uvarint x)=x:=(E7 x x (ZR _)).1
theorem Ah(x:Nat):aS (uvarint x)+1=(uvarint x).length:=(E7 x x (ZR _)).2
theorem Vq:∀(l:List UInt8) (h:aS l+1=l.length),¬ (l[aS l].toNat=0/\0<aS l)->uvarint (val l)=l
 | [],h,_=>by simp at h
 | b::r,h,hc=>by
  have hb:=b.toNat_lt;by_cases hg:128<=b.toNat
  ·have e:aS (b::r)=aS r+1:=by rw[aS,if_pos hg]
   have hr:aS r+1=r.length:=by rw[e]at h;simpa using h
   simp only[e,List.getElem_cons_succ]at hc;have hz:r[aS r].toNat≠0:=fun h1=>hc ⟨h1,by omega⟩
   have ih:=Vq r hr (fun h1=>hz h1.1)
   have hv:0<val r:=by
    rcases jax (val r)with h0 | h0
    ·exfalso
     have h3:=eY (l:=r) (k:=aS r) (by omega);rw[jat (by omega),h0]at h3;have h4:=iR r (by omega);have h5:r[aS r].toNat % 128=r[aS r].toNat:=by omega
     rw[h5]at h3;have h6:0<r[aS r].toNat*128 ^ aS r:=Nat.mul_pos (by omega) (Nat.pow_pos (by omega));omega
    ·exact h0
   rw[jg,uvarint_big (by omega)];have e1:(b.toNat % 128+128*val r) / 128=val r:=by omega
   have e2:(b.toNat % 128+128*val r) % 128+128=b.toNat:=by omega
   rw[e1,e2,ih];simp
  ·have e:aS (b::r)=0:=by rw[aS,if_neg hg]
   rw[e]at h;have hr:r=[]:=by cases r with | nil=>rfl | cons _ _=>simp at h
   subst hr;rw[jg,Ag,uvarint_small (by omega)];have:b.toNat % 128+128*0=b.toNat:=by omega
   rw[this];simp
theorem Ai:∀(n x:Nat),x<=n->∀ h:aS (uvarint x)<(uvarint x).length,¬ ((uvarint x)[aS (uvarint x)].toNat=0/\0<aS (uvarint x))
 | n,x,hn,h=>by
  by_cases hx:x<128
  ·rintro⟨_,h2⟩
   rw[uvarint_small hx,aS,mc (by omega),if_neg (by omega)]at h2;omega
  ·cases n with
   | zero=>omega
   | succ n =>
    have ih:=Ai n (x / 128) (by omega);have e0:=uvarint_big (x:=x) (by omega);have e:aS (uvarint x)=aS (uvarint (x / 128))+1:=by rw[e0,aS,mc (by omega),if_pos (by omega)]
    have hl:=Ah (x / 128);rintro⟨h1,_⟩;have ih2:=ih (by omega)
    have h3:(uvarint (x / 128))[aS (uvarint (x / 128))].toNat=0:=by
     have h4:(uvarint x)[aS (uvarint x)]=(uvarint (x / 128))[aS (uvarint (x / 128))]:=by
      simp only[e];simp[e0]
     rw[← h4];exact h1
    rcases jax (aS (uvarint (x / 128)))with h0 | h0
    ·have h5:=eY (l:=uvarint (x / 128)) (k:=0) (by omega)
     have h6:(uvarint (x / 128))[0].toNat=0:=by simpa [h0]using h3
     rw[h6,jat (by omega),E8]at h5;simp[val]at h5
     omega
    ·exact ih2 ⟨h3,h0⟩
theorem Nn{l:List UInt8}(h:aS l+1=l.length):uvarint (val l)=l↔¬ (l[aS l].toNat=0/\0<aS l):=by
 constructor
 ·intro e
  have:=Ai (val l) (val l) (ZR _) (by rw[e];omega);simp only[e]at this;exact this
 ·exact Vq l h
theorem s8:∀(a b:List UInt8),aS a<a.length->aS (a++b)=aS a
 | [],b,h=>by simp at h
 | x::a,b,h=>by
  rw[jaz];by_cases hx:128<=x.toNat
  ·rw[aS,if_pos hx]at h ⊢
   rw[aS,if_pos hx,s8 a b (by simpa using h)]
  ·rw[aS,if_neg hx,aS,if_neg hx]
theorem yx:∀(l:List UInt8) (k:Nat),k<=aS l->aS (l.take k)=k
 | l,0,_=>by simp[aS]
 | [],k+1,h=>by simp[aS]at h
 | b::r,k+1,h=>by
  unfold aS at h;split at h
  ·rename_i hb
   rw[jbn,aS,if_pos hb,yx r k (by omega)]
  ·omega
theorem Ta(n:Nat)(hn:n<18446744073709551616)(r:List UInt8):ft (uvarint n++r)=(n,(uvarint n).length,0):=by
 have h1:=Ah n;have mY:=uvarint_length64 hn;have hl:=s8 (uvarint n) r (by omega);have hk:aS (uvarint n)<(uvarint n++r).length:=by simp;omega
 have XE:(uvarint n++r)[aS (uvarint n)]=(uvarint n)[aS (uvarint n)]:=jbu (by omega);have SF:=iR (uvarint n) (by omega);have Ux:(uvarint n++r).take (aS (uvarint n)+1)=uvarint n:=by rw[h1];simp
 have ht:aS (uvarint n)=9->(uvarint n++r)[aS (uvarint n)].toNat<=1:=by
  intro h9;rw[XE];have h5:=eY (l:=uvarint n) (k:=aS (uvarint n)) (by omega);rw[h1,ZY,E8]at h5;have h4:(128:Nat) ^ aS (uvarint n)=9223372036854775808:=by rw[h9]
  rw[h4]at h5;omega
 rw[yw (k:=aS (uvarint n)) (by omega) (by omega) hk (by rw[XE];exact SF) ht,Ux,E8,if_neg,h1];rw[XE];exact Ai n n (ZR _) (by omega)
theorem Tb(n:Nat)(hn:n<18446744073709551616)(k:Nat)(hk:k<(uvarint n).length):ft ((uvarint n).take k)=(0,0,30):=by
 have h1:=Ah n;have mY:=uvarint_length64 hn;have hl:=yx (uvarint n) k (by omega);exact Ca (k:=k) (by omega) (by omega) (by simp;omega)
theorem uU:∀ a:Fin 256,bits .andNot .u8 (a.val:Int) 128=((a.val % 128:Nat):Int):=by decide +kernel
theorem Km(c:UInt8):bits .andNot .u8 (c.toNat:Int) 128=((c.toNat % 128:Nat):Int):=uU ⟨c.toNat,c.toNat_lt⟩
theorem Wz(k:Nat):(2:Nat) ^ (7*k)=128 ^ k:=by rw[Nat.pow_mul]
theorem Np{n c k:Nat}(hk:k<=9)(hn:n<128 ^ k)(h:c*128 ^ k<18446744073709551616) :
  bits .or .u64 (n:Int) ((c*128 ^ k:Nat):Int)=((n+c*128 ^ k:Nat):Int):=by
 have h9:128 ^ k<=128 ^ 9:=jaY (by omega) hk;have h4:(128:Nat) ^ 9=9223372036854775808:=by decide
 have e:bits .or .u64 (n:Int) ((c*128 ^ k:Nat):Int)=(n:Int)+((c*128 ^ k:Nat):Int):=by
  apply bits_join_low .u64 64 (by decide) wraps_u64 (7*k)
  ·omega
  ·have:(n:Int)<((2 ^ (7*k):Nat):Int):=by rw[Wz];omega
   simpa using this
  ·omega
  ·omega
  ·have:(((c*128 ^ k:Nat):Int) % ((2 ^ (7*k):Nat):Int))=0:=by rw[Wz,← Int.natCast_emod];simp
   simpa using this
  ·omega
 rw[e];omega
def uv(n:Nat):List Nat:=(uvarint n).map UInt8.toNat
def gt(l:List Nat):Nat×Nat×Nat:=ft (l.map Nat.toUInt8)
theorem Cb(l:List UInt8):(l.map UInt8.toNat).map Nat.toUInt8=l:=by
 rw[jao];conv=>rhs;rw[← jaN l]
 apply jaI
 intro a _;simp
theorem gL{n:Nat}:∀ x∈uv n,x<256:=by
 intro x hx;obtain⟨a,_,rfl⟩:=jaa.1 hx;exact a.toNat_lt
theorem mf(n:Nat):(uv n).length=(uvarint n).length:=ZU _
theorem mg(n:Nat):0<(uv n).length:=by rw[mf];exact uvarint_pos n
theorem bI{n:Nat}(h:n<18446744073709551616):(uv n).length<=10:=by rw[mf];exact uvarint_length64 h
theorem mh(n:Nat)(hn:n<18446744073709551616)(r:List Nat):gt (uv n++r)=(n,(uv n).length,0):=by
 unfold gt uv;rw[Z8,Cb,Ta n hn,ZU]
theorem Nq(n:Nat)(hn:n<18446744073709551616)(k:Nat)(hk:k<(uv n).length):gt ((uv n).take k)=(0,0,30):=by
 unfold gt uv;rw[ja6,Cb,Tb n hn k (by rwa[mf]at hk)]
theorem uV{n:Nat}(h:n<128):uv n=[n]:=by
 unfold uv;rw[uvarint_small h];simp[mc (show n<256 by omega)]
theorem Tc{l:List UInt8}{n u:Nat}(h:ft l=(n,u,0)):n<18446744073709551616/\l.take u=uvarint n/\u<=l.length:=by
 have oH:=uA l;unfold ft at h;split at h
 ·simp at h
 ·next h1 =>
  split at h
  ·simp at h
  ·next h2 =>
   split at h
   ·simp at h
   ·next h3 =>
    have hl:aS l<l.length:=by omega
    simp only[Prod.mk.injEq,and_true]at h;obtain⟨rfl,rfl⟩:=h;rw[kJ hl]at h3
    have aB:aS l<=9:=by
     rcases jae 9 (aS l)with h9 | h9
     ·exfalso
      apply h1
      have:=nf l 9 (by omega) h9;exact⟨by omega,by omega,by rw[kJ (by omega)];omega⟩
     ·exact h9
    have ht:aS l=9->l[aS l].toNat<=1:=by
     intro e;rcases jae 1 l[aS l].toNat with h9 | h9
     ·exfalso
      apply h1
      have mY:9<l.length:=by omega
      have e2:l[9]=l[aS l]:=by simp only[e]
      exact⟨by omega,mY,by rw[kJ mY,e2];exact h9⟩
     ·exact h9
    refine⟨Nm aB hl ht,?_,by omega⟩;have bQ:(l.take (aS l+1)).length=aS l+1:=by rw[ZX];omega
    have xZ:aS (l.take (aS l+1))=aS l:=by
     have SF:=iR l hl;refine Jo (l:=l.take (aS l+1)) ?_ (by omega) (by simpa using SF);rcases jae (aS (l.take (aS l+1))) (aS l)with hh | hh
     ·exfalso
      have ef:=iR (l.take (aS l+1)) (by omega);have hb:=nf l _ (by omega) hh;simp at ef
      omega
     ·exact hh
    refine((Nn (l:=l.take (aS l+1)) (by omega)).2 ?_).symm;simp only[xZ];rintro⟨h4,h5⟩;exact h3 ⟨by simpa using h4,h5⟩
theorem Nr{l:List Nat}{n u:Nat}(hl:∀ x∈l,x<256)(h:gt l=(n,u,0)):n<18446744073709551616/\l=uv n++l.drop u/\u=(uv n).length:=by
 obtain⟨h1,h2,h3⟩:=Tc h
 have e:l.take u=uv n:=by
  unfold uv;rw[← h2,← ja6,ff (fun x hx=>hl x (jaw hx))]
 refine⟨h1,?_,?_⟩
 ·rw[← e,ja5]
 ·rw[← e,ZX]
  rw[ZU]at h3;omega
def aA{α β : Type}(d:List Nat->Except Nat (α×List Nat))(f:α->List Nat->Except Nat (β×List Nat))(b:List Nat):Except Nat (β×List Nat) :=
 match d b with
 | .ok (x,r)=>f x r
 | .error e=>.error e
theorem cV{α β : Type}{d:List Nat->Except Nat (α×List Nat)}{f:α->List Nat->Except Nat (β×List Nat)}{b r:List Nat}{x:α}(h:d b=.ok (x,r)):aA d f b=f x r:=by
 unfold aA;rw[h]
theorem cA{α β : Type}{d:List Nat->Except Nat (α×List Nat)}{f:α->List Nat->Except Nat (β×List Nat)}{b:List Nat}{e:Nat}(h:d b=.error e):aA d f b=.error e:=by
 unfold aA;rw[h]
def dX{α : Type}(d:List Nat->Except Nat (α×List Nat))(e:List Nat)(x:α):Prop :=
 (∀ r,d (e++r)=.ok (x,r))/\∀ k,k<e.length->d (e.take k)=.error 30
def qk{α : Type}(d:List Nat->Except Nat (α×List Nat))(e:List Nat)(x:α):Prop :=
 d e=.ok (x,[])/\(∀ y r,d (e++y::r)=.error 32∨d (e++y::r)=.ok (x,y::r))/\∀ k,k<e.length->d (e.take k)=.error 30
theorem dX.ends{α : Type}{d:List Nat->Except Nat (α×List Nat)}{e:List Nat}{x:α}(h:dX d e x):qk d e x :=
 ⟨by have:=h.1 [];rwa[Z7]at this,fun y r=>Or.inr (h.1 _),h.2⟩
theorem dX.pure{α : Type}(x:α):dX (fun b=>.ok (x,b)) [] x:=⟨fun r=>rfl,fun k h=>by simp at h⟩
theorem dX.bind{α β : Type}{d:List Nat->Except Nat (α×List Nat)}{f:α->List Nat->Except Nat (β×List Nat)}{e e':List Nat}{x:α}{y:β}(h1:dX d e x)(h2:dX (f x) e' y) :
  dX (aA d f) (e++e') y:=by
 refine⟨fun r=>?_,fun k hk=>?_⟩
 ·rw[Z4,cV (h1.1 _)]
  exact h2.1 r
 ·rw[List.take_append]
  rcases jae k e.length with h | h
  ·rw[show k-e.length=0 by omega,ja7,Z7]
   exact cA (h1.2 k h)
  ·rw[jat h,cV (h1.1 _)]
   exact h2.2 _ (by rw[ZT]at hk;omega)
theorem dX.then{α β : Type}{d:List Nat->Except Nat (α×List Nat)}{f:α->List Nat->Except Nat (β×List Nat)}{e e':List Nat}{x:α}{y:β}(h1:dX d e x)(h2:qk (f x) e' y) :
  qk (aA d f) (e++e') y:=by
 refine⟨?_,fun z r=>?_,fun k hk=>?_⟩
 ·rw[cV (h1.1 _)]
  exact h2.1
 ·rw[Z4,cV (h1.1 _)]
  exact h2.2.1 z r
 ·rw[List.take_append]
  rcases jae k e.length with h | h
  ·rw[show k-e.length=0 by omega,ja7,Z7]
   exact cA (h1.2 k h)
  ·rw[jat h,cV (h1.1 _)]
   exact h2.2.2 _ (by rw[ZT]at hk;omega)
theorem dX.map{α β : Type}{d:List Nat->Except Nat (α×List Nat)}{e:List Nat}{x:α}(g:α->β)(h:dX d e x):dX (aA d fun a r=>.ok (g a,r)) e (g x):=by
 have:=h.bind (f:=fun a r=>.ok (g a,r)) (e':=[]) (y:=g x) (dX.pure (g x));rwa[Z7]at this
theorem qk.map{α β : Type}{d:List Nat->Except Nat (α×List Nat)}{e:List Nat}{x:α}(g:α->β)(h:qk d e x):qk (aA d fun a r=>.ok (g a,r)) e (g x):=by
 refine⟨by rw[cV h.1],fun y r=>?_,fun k hk=>cA (h.2.2 k hk)⟩;rcases h.2.1 y r with h1 | h1
 ·exact Or.inl (cA h1)
 ·exact Or.inr (by rw[cV h1])
def num(b:List Nat):Except Nat (Nat×List Nat):=if (gt b).2.2=0 then .ok ((gt b).1,b.drop (gt b).2.1) else .error (gt b).2.2
theorem lA{n:Nat}(hn:n<18446744073709551616):dX num (uv n) n:=by
 refine⟨fun r=>?_,fun k hk=>?_⟩
 ·unfold num
  rw[mh n hn r,if_pos rfl,jas]
 ·unfold num
  rw[Nq n hn k hk,if_neg (by simp)]
def fB(u:Nat):Int:=if u % 2=0 then ((u / 2:Nat):Int) else -((u / 2:Nat):Int)-1
theorem Kn(z:Int):fB (zigzag z)=z:=by
 unfold fB zigzag;split<;>split<;>omega
theorem Ko(u:Nat):zigzag (fB u)=u:=by
 unfold fB zigzag;split<;>split<;>omega
theorem jP{u:Nat}(h:u<18446744073709551616):I64 (fB u):=by
 unfold fB I64;split<;>omega
def wv(x:Int):List Nat:=uv (zigzag x)
def wh(b:List Nat):Except Nat (Int×List Nat):=if (gt b).2.2=0 then .ok (fB (gt b).1,b.drop (gt b).2.1) else .error (gt b).2.2
theorem lB{x:Int}(hx:I64 x):dX wh (wv x) x:=by
 have hn:=zigzag_lt hx.1 hx.2;refine⟨fun r=>?_,fun k hk=>?_⟩
 ·unfold wh wv
  rw[mh _ hn r,if_pos rfl,jas,Kn]
 ·unfold wh
  rw[wv,Nq _ hn k hk,if_neg (by simp)]
theorem WB{b r:List Nat}{n:Nat}(hb:∀ x∈b,x<256)(h:num b=.ok (n,r)):n<18446744073709551616/\b=uv n++r:=by
 unfold num at h;split at h
 ·next h0 =>
  simp only[Except.ok.injEq,Prod.mk.injEq]at h;obtain⟨h1,h2⟩:=h;obtain⟨g1,g2,_⟩:=Nr (n:=(gt b).1) (u:=(gt b).2.1) hb (by rw[← h0]);rw[h1]at g1 g2;exact⟨g1,by rw[← h2];exact g2⟩
 ·simp at h
theorem wh_ok{b r:List Nat}{x:Int}(hb:∀ x∈b,x<256)(h:wh b=.ok (x,r)):I64 x/\b=wv x++r:=by
 unfold wh at h;split at h
 ·next h0 =>
  simp only[Except.ok.injEq,Prod.mk.injEq]at h;obtain⟨rfl,h2⟩:=h;obtain⟨g1,g2,_⟩:=Nr (n:=(gt b).1) (u:=(gt b).2.1) hb (by rw[← h0]);refine⟨jP g1,?_⟩;unfold wv;rw[Ko,← h2];exact g2
 ·simp at h
theorem WD(x:Int):0<(wv x).length:=mg _
theorem yy{x:Int}:∀ y∈wv x,y<256:=gL
theorem fd{x:Int}(h:I64 x):(wv x).length<=10:=bI (zigzag_lt h.1 h.2)
open Go
def ie(f:Fd):List Nat:=uv f.1++uv f.2.1.size++dd f.2.1++uv f.2.2.1++uv (eS f.2.2.2)
def gM(l:List Fd):List Nat:=l.flatMap ie
def dz(id:Nat)(l:List Fd):List Nat:=uv id++uv l.length++gM l
theorem mj{l:List Fd}{i:Nat}(h:i<l.length):gM (l.take (i+1))=gM (l.take i)++ie l[i]:=by
 unfold gM;rw[Z5 h,jaV];simp
theorem yz{f:Fd}(h:Okf f)(hs:f.2.1.size<18446744073709551616):(ie f).length<=40+f.2.1.size:=by
 unfold ie;have h1:=bI (n:=f.1) (by have:=h.1;omega);have h2:=bI (n:=f.2.1.size) hs;have h3:=bI (n:=f.2.2.1) (by have:=h.2;omega);have h4:=bI (n:=eS f.2.2.2) (by unfold eS;split<;>omega);simp only[ZT,iP];omega
theorem Kp{l:List Fd}(h:∀ f∈l,Okf f)(hs:szs l<5000):(gM l).length<=40*l.length+szs l:=by
 induction l with
 | nil=>simp[gM]
 | cons f t ih =>
  have hz:szs (f::t)=f.2.1.size+szs t:=by simp[szs]
  have:=ih (fun g hg=>h g (by simp[hg])) (by omega);have h2:=yz (h f (by simp)) (by omega);unfold gM at *;rw[ja2,ZT,ZW,hz];omega
def ig(room:Nat)(b:List Nat):Except Nat (Nat×List Nat) :=
 if (gt b).2.2≠0 then .error (gt b).2.2 else if room<(gt b).1 then .error 40 else .ok ((gt b).1,b.drop (gt b).2.1)
def Ns(room:Nat):List Nat->Except Nat (ByteArray×List Nat):=aA (ig room) textR
def tV:List Nat->Except Nat (Fd×List Nat) :=
 aA (ig 4294967295) fun i=>aA (Ns 16) fun s=>aA (ig 255) fun k=>aA (ig 1) fun n r=>.ok ((i,s,k,decide (n=1)),r)
def kK:Nat->List Nat->Except Nat (List Fd×List Nat)
 | 0=>fun b=>.ok ([],b)
 | n+1=>aA (kK n) fun l=>aA tV fun f r=>.ok (l++[f],r)
def Cc:List Nat->Except Nat ((Nat×List Fd)×List Nat) :=
 aA (ig 4294967295) fun i=>aA (ig 8) fun n=>aA (kK n) fun l r=>.ok ((i,l),r)
def cY(b:List Nat):Except Nat ((Nat×List Fd)×List Nat) :=
 aA Cc (fun s r=>if chk s.1 s.2=0 then .ok (s,r) else .error (chk s.1 s.2)) b
theorem Rds.bind{α β : Type}{m:List Nat->Except Nat (α×List Nat)}{k:α->List Nat->Except Nat (β×List Nat)}{l l1 l2:List Nat}{f f1 f2:Nat}{x:α}{y:β}
  (h1:Rds m l f x l1 f1) (h2:Rds (k x) l1 f1 y l2 f2):Rds (aA m k) l f y l2 f2:=by
 refine⟨fun h0=>?_,fun h0=>?_⟩
 ·have e1:=h1.1 h0
  by_cases hf:f1=0
  ·rw[if_pos hf]at e1
   rw[cV e1];exact h2.1 hf
  ·rw[if_neg hf]at e1
   rw[cA e1,h2.2 hf,if_neg hf]
 ·have e1:=h1.2 h0
  rw[h2.2 (by omega),e1]
theorem Aj{room:Nat}{l:List Nat}{f:Nat}:Rds (ig room) l f (if (gt l).2.2≠0∨room<(gt l).1 then 0 else (gt l).1) (if (gt l).2.2≠0∨room<(gt l).1 then l else l.drop (gt l).2.1)
  (if f=0 then (if (gt l).2.2≠0 then (gt l).2.2 else if room<(gt l).1 then 40 else 0) else f):=by
 refine⟨fun h0=>?_,fun h0=>if_neg h0⟩;rw[if_pos h0];unfold ig;by_cases h1:(gt l).2.2≠0
 ·rw[if_pos h1,if_pos h1,if_neg h1]
 ·rw[if_neg h1,if_neg h1]
  by_cases h2:room<(gt l).1
  ·rw[if_pos h2,if_pos h2,if_neg (by omega)]
  ·rw[if_neg h2,if_neg h2,if_pos rfl,if_neg (by omega),if_neg (by omega)]
theorem zZ.bind{α β : Type}{m:List Nat->Except Nat (α×List Nat)}{k:α->List Nat->Except Nat (β×List Nat)}{e e':List Nat}{x:α}{y:β}(h1:zZ m e x)(h2:zZ (k x) e' y):zZ (aA m k) (e++e') y:=by
 intro r;rw[Z4];rcases h1 (e'++r)with h | ⟨c,hc,h⟩
 ·rw[cV h];exact h2 r
 ·rw[cA h];exact Or.inr ⟨c,hc,rfl⟩
theorem tU.bind{α β : Type}{m:List Nat->Except Nat (α×List Nat)}{k:α->List Nat->Except Nat (β×List Nat)}{e e':List Nat}{x:α}{y:β}(h1:tU m e x)(h2:tU (k x) e' y):tU (aA m k) (e++e') y:=by
 intro r;rw[Z4,cV (h1 (e'++r))];exact h2 r
theorem jZ{room n:Nat}(hn:n<18446744073709551616)(hr:n<=room):tU (ig room) (uv n) n:=by
 intro r;unfold ig;rw[mh n hn r];simp only;rw[if_neg (by omega),if_neg (by omega),jas]
theorem lC{room n:Nat}(hn:n<18446744073709551616):zZ (ig room) (uv n) n:=by
 intro r;by_cases hr:n<=room
 ·exact Or.inl (jZ hn hr r)
 ·right
  refine⟨40,by omega,?_⟩;unfold ig;rw[mh n hn r];simp only;rw[if_neg (by omega),if_pos (by omega)]
theorem Nw{f:Fd}(h:Okf f)(hs:f.2.1.size<18446744073709551616):zZ tV (ie f) f:=by
 obtain⟨i,s,k,n⟩:=f;have h1:=h.1;have h2:=h.2;simp only at h1 h2 hs;have e:ie (i,s,k,n)=uv i++((uv s.size++dd s)++(uv k++(uv (eS n)++[]))):=by simp[ie]
 rw[e];refine(lC (by omega)).bind (((lC hs).bind (uM s).eith).bind ((lC (by omega)).bind ((lC (by unfold eS;split<;>omega)).bind ?_)));intro r;left
 rw[B6];rfl
theorem Nx{f:Fd}(h:Okf f)(hs:f.2.1.size<=16):tU tV (ie f) f:=by
 obtain⟨i,s,k,n⟩:=f;have h1:=h.1;have h2:=h.2;simp only at h1 h2 hs;have e:ie (i,s,k,n)=uv i++((uv s.size++dd s)++(uv k++(uv (eS n)++[]))):=by simp[ie]
 rw[e];have jM:eS n<=1:=by unfold eS;split<;>omega
 refine(jZ (by omega) (by omega)).bind (((jZ (by omega) hs).bind (uM s)).bind ((jZ (by omega) (by omega)).bind ((jZ (by omega) jM).bind ?_)));intro r;rw[B6];rfl
theorem Kq{l:List Fd}(h:∀ f∈l,Okf f/\f.2.1.size<18446744073709551616):∀ n,n<=l.length->zZ (kK n) (gM (l.take n)) (l.take n):=by
 intro n;induction n with
 | zero=>intro _;exact(yu _).eith
 | succ n ih =>
  intro hn;have hf:=h l[n] (ZV (by omega));rw[mj (by omega),Z5 (by omega),← Z7 (ie l[n])];exact(ih (by omega)).bind ((Nw hf.1 hf.2).bind (fun r=>Or.inl rfl))
theorem Kr{l:List Fd}(h:∀ f∈l,Okf f/\f.2.1.size<=16):∀ n,n<=l.length->tU (kK n) (gM (l.take n)) (l.take n):=by
 intro n;induction n with
 | zero=>intro _;exact yu _
 | succ n ih =>
  intro hn;have hf:=h l[n] (ZV (by omega));rw[mj (by omega),Z5 (by omega),← Z7 (ie l[n])];exact(ih (by omega)).bind ((Nx hf.1 hf.2).bind (fun r=>rfl))
theorem Cd{id:Nat}{l:List Fd}(mR:id<4294967296)(ho:∀ f∈l,Okf f)(hs:szs l<5000)(hl:l.length<=100)(r:List Nat) :
  if chk id l=0 then cY (dz id l++r)=.ok ((id,l),r) else ∃ c,c≠0/\cY (dz id l++r)=.error c:=by
 have e:dz id l=uv id++(uv l.length++(gM l++[])):=by simp[dz]
 by_cases h:chk id l=0
 ·rw[if_pos h]
  have hr:=qf h
  have lq:fe [] l=0:=by
   unfold chk at h;rwa[if_neg (by omega)]at h
  have hn:=qh lq;have hjf:=Kr (fun f hf=>⟨ho f hf,hn f hf⟩) l.length (ZR _);rw[ZY]at hjf
  have hj:tU Cc (dz id l) (id,l):=by
   rw[e];exact(jZ (by omega) (by omega)).bind ((jZ (by omega) (by omega)).bind ((hjf).bind (fun r=>rfl)))
  unfold cY;rw[cV (hj r)];simp only;rw[if_pos h]
 ·rw[if_neg h]
  have hjf:=Kq (l:=l) (fun f hf=>⟨ho f hf,by have:=Jm hf;omega⟩) l.length (ZR _);rw[ZY]at hjf
  have hj:zZ Cc (dz id l) (id,l):=by
   rw[e];exact(lC (by omega)).bind ((lC (by omega)).bind ((hjf).bind (fun r=>Or.inl rfl)))
  unfold cY;rcases hj r with h2 | ⟨c,hc,h2⟩
  ·rw[cV h2]
   simp only;rw[if_neg h];exact⟨_,h,rfl⟩
  ·rw[cA h2]
   exact⟨c,hc,rfl⟩
end Go.Proofs.YtpljdjmpamjkhaaGreatDoor
