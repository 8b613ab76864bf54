import Derived.Lib.DecodeN
import Derived.Laws.Strings
import Derived.Test.YtpljdjmpamjkhaaGreatDoorProg
import Derived.WalkKit
import Derived.WalkLawsBesides
import Derived.Outline
import Derived.WalkSpells
import Derived.Lib.OthersKept
import Derived.Maps.AppendAt
import Derived.Laws.OwnMore
import Derived.BigQuiet
import Derived.BigRegion
import Derived.Deep.RegionHeld3
import Derived.Deep.RegionWith
set_option linter.unusedVariables false
set_option linter.unusedSimpArgs false
set_option maxHeartbeats 1000000
set_option maxRecDepth 100000
namespace Go.Proofs.YtpljdjmpamjkhaaGreatDoor
open Go.RowKit Go.Lib
abbrev ZQ:=@Below.refl
abbrev ZR:=@Nat.le_refl
abbrev ZS:=@World.size_alloc
abbrev ZT:=@List.length_append
abbrev ZU:=@List.length_map
abbrev ZV:=@List.getElem_mem
abbrev ZW:=@List.length_cons
abbrev ZX:=@List.length_take
abbrev ZY:=@List.take_length
abbrev ZZ:=@Nat.le_trans
abbrev Z0:=@List.set_cons_zero
abbrev Z1:=@beq_eq_false_iff_ne
abbrev Z2:=@List.set_cons_succ
abbrev Z3:=@List.setIfInBounds_toArray
abbrev Z4:=@List.append_assoc
abbrev Z5:=@List.take_succ_eq_append_getElem
abbrev Z6:=@List.mem_cons
abbrev Z7:=@List.append_nil
abbrev Z8:=@List.map_append
abbrev Z9:=@Nat.lt_of_lt_of_le
abbrev jaa:=@List.mem_map
abbrev jab:=@List.eq_nil_of_length_eq_zero
abbrev jac:=@Nat.le_of_lt
abbrev jad:=@List.length_nil
abbrev jae:=@Nat.lt_or_ge
abbrev jaf:=@Nat.zero_add
abbrev jag:=@IntKind.wrap_u64
abbrev jah:=@Int.toNat_natCast
abbrev jai:=@List.length_drop
abbrev jaj:=@List.mem_append
abbrev jak:=@Nat.mul_comm
abbrev jal:=@List.map_cons
abbrev jam:=@IntKind.wrap_i64
abbrev jan:=@List.length_singleton
abbrev jao:=@List.map_map
abbrev jap:=@Nat.add_mul
abbrev jaq:=@Nat.lt_trans
abbrev jar:=@List.drop_eq_getElem_cons
abbrev jas:=@List.drop_left
abbrev jat:=@List.take_of_length_le
abbrev jau:=@List.getD_cons_zero
abbrev jav:=@Nat.zero_le
abbrev jaw:=@List.mem_of_mem_take
abbrev jax:=@Nat.eq_zero_or_pos
abbrev jay:=@List.mem_singleton
abbrev jaz:=@List.cons_append
abbrev jaA:=@Nat.mod_eq_of_lt
abbrev jaB:=@World.ownsRow_nil
abbrev jaC:=@Nat.add_zero
abbrev jaD:=@Nat.two_pow_pos
abbrev jaE:=@List.drop_length
abbrev jaF:=@List.take_left
abbrev jaG:=@List.map_nil
abbrev jaH:=@List.nil_append
abbrev jaI:=@List.map_congr_left
abbrev jaJ:=@Nat.min_eq_left
abbrev jaK:=@Nat.pow_add
abbrev jaL:=@Nat.mul_le_mul_left
abbrev jaM:=@List.pairwise_cons
abbrev jaN:=@List.map_id
abbrev jaO:=@Nat.one_mul
abbrev jaP:=@Nat.xor_assoc
abbrev jaQ:=@Nat.add_assoc
abbrev jaR:=@Nat.mul_add
abbrev jaS:=@Option.map_some
abbrev jaT:=@World.ownsRow_lit
abbrev jaU:=@List.map_toArray
abbrev jaV:=@List.flatMap_append
abbrev jaW:=@List.isPrefixOf_iff_prefix
abbrev jaX:=@Nat.mul_assoc
abbrev jaY:=@Nat.pow_le_pow_right
abbrev jaZ:=@List.mem_cons_of_mem
abbrev ja0:=@List.range_succ
abbrev ja1:=@List.getD_cons_succ
abbrev ja2:=@List.flatMap_cons
abbrev ja3:=@List.flatten_cons
abbrev ja4:=@List.length_set
abbrev ja5:=@List.take_append_drop
abbrev ja6:=@List.map_take
abbrev ja7:=@List.take_zero
abbrev ja8:=@Nat.mul_one
abbrev ja9:=@Nat.sub_self
abbrev jba:=@Bool.eq_iff_iff
abbrev jbb:=@List.drop_drop
abbrev jbc:=@List.mem_of_mem_drop
abbrev jbd:=@Nat.mul_le_mul
abbrev jbe:=@List.lt_irrefl
abbrev jbf:=@List.length_filter_le
abbrev jbg:=@Int.eq_ofNat_of_zero_le
abbrev jbh:=@List.pairwise_iff_getElem
abbrev jbi:=@List.filter_append
abbrev jbj:=@List.getElem_cons_zero
abbrev jbk:=@List.flatten_append
abbrev jbl:=@List.drop_eq_nil_of_le
abbrev jbm:=@List.not_mem_nil
abbrev jbn:=@List.take_succ_cons
abbrev jbo:=@Nat.lt_of_le_of_lt
abbrev jbp:=@List.eq_of_mem_replicate
abbrev jbq:=@List.mem_filter
abbrev jbr:=@Nat.xor_lt_two_pow
abbrev jbs:=@List.length_range
abbrev jbt:=@List.filter_cons
abbrev jbu:=@List.getElem_append_left
abbrev jbv:=@Nat.div_div_eq_div_mul
abbrev jbw:=@Option.bind_eq_some_iff
abbrev jbx:=@Nat.add_sub_cancel
abbrev jby:=@List.mem_take_iff_getElem
open Go
open Go.Lib (decodeN)
def aO(l:List UInt8):Nat×Nat:=decodeN l.length (l.getD 0 0).toNat (l.getD 1 0).toNat (l.getD 2 0).toNat (l.getD 3 0).toNat
def vr(c:Nat):Prop:=c<55296∨(57344<=c/\c<=1114111)
def bt(n:Nat):UInt8:=UInt8.ofNat n
theorem cz{n:Nat}(h:n<256):(bt n).toNat=n:=by
 simp[bt];omega
def dO(c:Nat):List UInt8 :=
 if c<128 then [bt c]
 else if c<2048 then [bt (192+c / 64),bt (128+c % 64)]
 else if c<65536 then [bt (224+c / 4096),bt (128+c / 64 % 64),bt (128+c % 64)]
 else [bt (240+c / 262144),bt (128+c / 4096 % 64),bt (128+c / 64 % 64),bt (128+c % 64)]
theorem Kj(c:Nat)(h:vr c):(Utf8.encode (c:Int)).data.toList=dO c:=by
 have hv:Utf8.valid (c:Int)=true:=by
  simp only[Utf8.valid,vr]at *;rcases h with h | h
  ·simp;omega
  ·simp;omega
 simp only[Utf8.encode,hv,if_true,jah,dO];repeat' split
 all_goals rfl
theorem ic(c:Nat):1<=(dO c).length/\(dO c).length<=4:=by
 unfold dO;repeat' split
 all_goals simp
theorem S6(l:List UInt8)(k:Nat):(l.getD k 0).toNat<256:=UInt8.toNat_lt _
theorem BV(c:Nat)(h:vr c)(y:List UInt8):aO (dO c++y)=(c,(dO c).length):=by
 unfold vr at h;unfold dO;split
 ·simp only[aO,jaz,jaH,jau,ZW]
  rw[cz (by omega)];simp only[decodeN];rw[if_pos (by omega)];rfl
 ·split
  ·simp only[aO,jaz,jaH,jau,ja1,ZW]
   rw[cz (by omega),cz (by omega)];simp only[decodeN];rw[if_neg (by omega),if_pos (by omega),if_pos (by omega)];congr 1
   omega
  ·split
   ·simp only[aO,jaz,jaH,jau,ja1,ZW]
    rw[cz (by omega),cz (by omega),cz (by omega)];simp only[decodeN];rw[if_neg (by omega),if_neg (by omega),if_pos (by omega),if_pos (by omega)];congr 1
    omega
   ·simp only[aO,jaz,jaH,jau,ja1,ZW]
    rw[cz (by omega),cz (by omega),cz (by omega),cz (by omega)];simp only[decodeN];rw[if_neg (by omega),if_neg (by omega),if_neg (by omega),if_pos (by omega),if_pos (by omega)];congr 1
    omega
theorem oO(x:UInt8)(n:Nat)(h:x.toNat=n):x=bt n:=by
 subst h;simp[bt]
def ok(u:Nat×Nat):Bool:=!(u.1==65533 && u.2==1)
theorem iN{c w:Nat}(h:w≠1):ok (c,w)=true:=by simp[ok,h]
theorem mb(l:List UInt8)(hl:l≠[]):aO l=(65533,1)∨(vr (aO l).1/\(aO l).2=(dO (aO l).1).length/\(aO l).1≠65533∨aO l=(65533,3))/\∃ y,l=dO (aO l).1++y:=by
 match l,hl with
 | b0::t,_ =>
  have h0:b0.toNat<256:=UInt8.toNat_lt _;by_cases ha:b0.toNat<128
  ·right
   have hu:aO (b0::t)=(b0.toNat,1):=by simp only[aO,jau,decodeN];rw[if_pos ha]
   rw[hu];have he:dO b0.toNat=[b0]:=by simp only[dO];rw[if_pos ha,← oO b0 _ rfl]
   refine⟨Or.inl ⟨Or.inl (by show b0.toNat<55296;omega),by simp[he],by simp;omega⟩,t,by simp[he]⟩
  ·by_cases h2:194<=b0.toNat/\b0.toNat<224
   ·cases t with
    | nil=>left;simp only[aO,decodeN,jau,ZW,jad];rw[if_neg ha,if_neg (by omega),if_neg (by omega),if_neg (by omega)]
    | cons b1 t =>
     have h1:b1.toNat<256:=UInt8.toNat_lt _;by_cases hc:b1.toNat / 64=2
     ·right
      have hu:aO (b0::b1::t)=(b0.toNat % 32*64+b1.toNat % 64,2):=by simp only[aO,jau,ja1,ZW,decodeN];rw[if_neg ha,if_pos (by omega),if_pos (by omega)]
      rw[hu]
      have he:dO (b0.toNat % 32*64+b1.toNat % 64)=[b0,b1]:=by
       simp only[dO];rw[if_neg (by omega),if_pos (by omega),← oO b0 _ (by omega),← oO b1 _ (by omega)]
      refine⟨Or.inl ⟨Or.inl (by simp only;omega),by simp[he],by simp only;omega⟩,t,by simp[he]⟩
     ·left
      simp only[aO,jau,ja1,ZW,decodeN];rw[if_neg ha,if_neg (by omega),if_neg (by omega),if_neg (by omega)]
   ·by_cases h3:224<=b0.toNat/\b0.toNat<240
    ·match t with
     | []=>left;simp only[aO,decodeN,jau,ZW,jad];rw[if_neg ha,if_neg (by omega),if_neg (by omega),if_neg (by omega)]
     | [b1]=>left;simp only[aO,decodeN,jau,ZW,jad];rw[if_neg ha,if_neg (by omega),if_neg (by omega),if_neg (by omega)]
     | b1::b2::t =>
      have h1:b1.toNat<256:=UInt8.toNat_lt _;have h2':b2.toNat<256:=UInt8.toNat_lt _;generalize hn:b0.toNat % 16*4096+b1.toNat % 64*64+b2.toNat % 64=n;by_cases hc:b1.toNat / 64=2/\b2.toNat / 64=2/\n>=2048/\(n<55296∨(57344<=n/\n<=1114111))
      ·right
       have hu:aO (b0::b1::b2::t)=(n,3):=by simp only[aO,jau,ja1,ZW,decodeN];rw[hn,if_neg ha,if_neg (by omega),if_pos (by omega),if_pos (by omega)]
       rw[hu]
       have he:dO n=[b0,b1,b2]:=by
        simp only[dO];rw[if_neg (by omega),if_neg (by omega),if_pos (by omega),← oO b0 _ (by omega),← oO b1 _ (by omega),← oO b2 _ (by omega)]
       refine⟨?_,t,by simp[he]⟩;by_cases fO:n=65533
       ·right;rw[fO]
       ·exact Or.inl ⟨by simp only[vr];omega,by simp[he],fO⟩
      ·left
       simp only[aO,jau,ja1,ZW,decodeN];rw[hn,if_neg ha,if_neg (by omega)];split
       ·rw[if_neg (by omega)]
       ·rw[if_neg (by omega)]
    ·by_cases h4:240<=b0.toNat/\b0.toNat<248
     ·match t with
      | []=>left;simp only[aO,decodeN,jau,ZW,jad];rw[if_neg ha,if_neg (by omega),if_neg (by omega),if_neg (by omega)]
      | [b1]=>left;simp only[aO,decodeN,jau,ZW,jad];rw[if_neg ha,if_neg (by omega),if_neg (by omega),if_neg (by omega)]
      | [b1,b2]=>left;simp only[aO,decodeN,jau,ZW,jad];rw[if_neg ha,if_neg (by omega),if_neg (by omega),if_neg (by omega)]
      | b1::b2::b3::t =>
       have h1:b1.toNat<256:=UInt8.toNat_lt _;have h2':b2.toNat<256:=UInt8.toNat_lt _;have h3':b3.toNat<256:=UInt8.toNat_lt _;generalize hn:b0.toNat % 8*262144+b1.toNat % 64*4096+b2.toNat % 64*64+b3.toNat % 64=n;by_cases hc:b1.toNat / 64=2/\b2.toNat / 64=2/\b3.toNat / 64=2/\n>=65536/\(n<55296∨(57344<=n/\n<=1114111))
       ·right
        have hu:aO (b0::b1::b2::b3::t)=(n,4):=by simp only[aO,jau,ja1,ZW,decodeN];rw[hn,if_neg ha,if_neg (by omega),if_neg (by omega),if_pos (by omega),if_pos (by omega)]
        rw[hu]
        have he:dO n=[b0,b1,b2,b3]:=by
         simp only[dO];rw[if_neg (by omega),if_neg (by omega),if_neg (by omega),← oO b0 _ (by omega),← oO b1 _ (by omega),← oO b2 _ (by omega),← oO b3 _ (by omega)]
        refine⟨?_,t,by simp[he]⟩;exact Or.inl ⟨by simp only[vr];omega,by simp[he],by omega⟩
       ·left
        simp only[aO,jau,ja1,ZW,decodeN];rw[hn,if_neg ha,if_neg (by omega),if_neg (by omega)];split
        ·rw[if_neg (by omega)]
        ·rfl
     ·left
      simp only[aO,jau,decodeN];rw[if_neg ha];split
      ·rw[if_neg (by have:=S6 (b0::t) 1;omega)]
      ·rw[if_neg (by omega),if_neg (by omega)]
theorem dx(l:List UInt8)(hl:l≠[]):1<=(aO l).2/\(aO l).2<=l.length:=by
 have sT:1<=l.length:=by cases l with | nil=>exact absurd rfl hl | cons=>simp
 rcases mb l hl with h | ⟨h,y,hy⟩
 ·rw[h];exact⟨ZR _,sT⟩
 ·rcases h with ⟨_,h,_⟩ | h
  ·have:=ic (aO l).1
   have bQ:=congrArg List.length hy;simp at bQ
   omega
  ·have bQ:=congrArg List.length hy
   rw[h]at bQ ⊢;have:(dO 65533).length=3:=by decide
   simp[this]at bQ
   simp
   omega
theorem Jj(l:List UInt8)(hl:l≠[]):vr (aO l).1:=by
 rcases mb l hl with h | ⟨⟨h,_⟩ | h,_⟩
 ·rw[h];simp[vr]
 ·exact h
 ·rw[h];simp[vr]
def us:Nat->List UInt8->List (Nat×Nat)
 | 0,_=>[]
 | _+1,[]=>[]
 | f+1,b::t=>aO (b::t)::us f ((b::t).drop (aO (b::t)).2)
def V(l:List UInt8):List (Nat×Nat):=us l.length l
theorem S7:∀(f:Nat) (l:List UInt8),l.length<=f->∀ g,l.length<=g->us f l=us g l:=by
 intro f;induction f with
 | zero=>intro l h g hg;cases l with | nil=>cases g<;>rfl | cons=>simp at h
 | succ f ih =>
  intro l h g hg;cases l with
  | nil=>cases g<;>rfl
  | cons b t =>
   cases g with
   | zero=>simp at hg
   | succ g =>
    have hw:=dx (b::t) (by simp);simp only[us];congr 1
    simp at h hg hw
    exact ih _ (by simp;omega) _ (by simp;omega)
@[simp] theorem V_nil:V []=[]:=rfl
theorem po{l:List UInt8}(hl:l≠[]):V l=aO l::V (l.drop (aO l).2):=by
 cases l with
 | nil=>exact absurd rfl hl
 | cons b t =>
  have hw:=dx (b::t) (by simp);show us (t.length+1) (b::t)=_
  simp only[us];congr 1
  simp at hw
  exact S7 _ _ (by simp;omega) _ (by simp)
theorem Nc:∀(n:Nat) (l:List UInt8),l.length<=n->(V l).length<=l.length:=by
 intro n;induction n with
 | zero=>intro l h;cases l with | nil=>simp | cons=>simp at h
 | succ n ih =>
  intro l h;by_cases hl:l=[]
  ·subst hl;simp
  ·rw[po hl]
   have hw:=dx l hl;have:=ih (l.drop (aO l).2) (by simp;omega);simp at this ⊢
   omega
theorem BW(l:List UInt8):(V l).length<=l.length:=Nc _ l (ZR _)
theorem S8:∀(n:Nat) (l:List UInt8),l.length<=n->∀ u∈V l,vr u.1/\1<=u.2:=by
 intro n;induction n with
 | zero=>intro l h;cases l with | nil=>simp | cons=>simp at h
 | succ n ih =>
  intro l h u hu;by_cases hl:l=[]
  ·subst hl;simp at hu
  ·rw[po hl]at hu
   have hw:=dx l hl;simp at hu
   rcases hu with rfl | hu
   ·exact⟨Jj l hl,hw.1⟩
   ·exact ih _ (by simp;omega) u hu
theorem Wv(c:Nat)(y:List UInt8):dO c++y≠[]:=by
 have:=ic c;intro h;have h2:=congrArg List.length h;simp at h2
 rw[h2.1]at this;simp at this
theorem V_enc{c:Nat}(h:vr c)(y:List UInt8):V (dO c++y)=(c,(dO c).length)::V y:=by
 rw[po (Wv c y),BV c h y];simp
def eu(c:Nat):Nat×Nat:=(c,(dO c).length)
def lx(rs:List Nat):List UInt8:=rs.flatMap dO
@[simp] theorem flat_nil:lx []=[]:=rfl
@[simp] theorem flat_cons (c:Nat) (rs:List Nat):lx (c::rs)=dO c++lx rs:=rfl
@[simp] theorem flat_append (a b:List Nat):lx (a++b)=lx a++lx b:=by simp[lx]
theorem Ww(rs:List Nat)(h:∀ r∈rs,vr r)(y:List UInt8):V (lx rs++y)=rs.map eu++V y:=by
 induction rs with
 | nil=>rfl
 | cons c rs ih =>
  rw[flat_cons,Z4,V_enc (h c (by simp))];rw[ih (fun r hr=>h r (by simp[hr]))];rfl
def dI(l:List UInt8):Bool:=(V l).all ok
def iF(l:List UInt8):List Nat:=(V l).map Prod.fst
theorem zW(rs:List Nat)(h:∀ r∈rs,vr r):V (lx rs)=rs.map eu:=by
 have:=Ww rs h [];simpa using this
theorem S9{l:List UInt8}(hl:l≠[])(ho:ok (aO l)=true):aO l=eu (aO l).1/\∃ y,l=dO (aO l).1++y:=by
 rcases mb l hl with h | ⟨h,y,hy⟩
 ·rw[h]at ho;simp[ok]at ho
 ·refine⟨?_,y,hy⟩
  rcases h with ⟨_,h,_⟩ | h
  ·exact Prod.ext rfl h
  ·rw[h];decide
theorem ld:∀(n:Nat) (l:List UInt8),l.length<=n->dI l=true->l=lx (iF l)/\V l=(iF l).map eu:=by
 intro n;induction n with
 | zero=>intro l h hc;cases l with | nil=>exact⟨rfl,rfl⟩ | cons=>simp at h
 | succ n ih =>
  intro l h hc;by_cases hl:l=[]
  ·subst hl;exact⟨rfl,rfl⟩
  ·have hw:=dx l hl
   unfold dI at hc;rw[po hl,List.all_cons,Bool.and_eq_true]at hc;obtain⟨hu,y,hy⟩:=S9 hl hc.1
   have hd:l.drop (aO l).2=y:=by
    have h2:(aO l).2=(dO (aO l).1).length:=congrArg Prod.snd hu;rw[h2];conv=>lhs;arg 2;rw[hy]
    simp
   obtain⟨e1,e2⟩:=ih (l.drop (aO l).2) (by simp;omega) hc.2
   have hr:iF l=(aO l).1::iF (l.drop (aO l).2):=by
    unfold iF;rw[po hl];rfl
   rw[hr];constructor
   ·rw[flat_cons,← e1,hd];exact hy
   ·rw[po hl,e2,jal,← hu]
theorem Nd{l:List UInt8}(h:dI l=true):l=lx (iF l):=(ld _ l (ZR _) h).1
theorem zX{l:List UInt8}(h:dI l=true):V l=(iF l).map eu:=(ld _ l (ZR _) h).2
theorem Nf(l:List UInt8):∀ r∈iF l,vr r:=by
 intro r hr;simp[iF]at hr
 obtain⟨w,hw⟩:=hr;exact(S8 _ l (ZR _) _ hw).1
def eH(u:List (Nat×Nat))(k:Nat):Nat:=((u.take k).map Prod.snd).sum
@[simp] theorem offs_zero (u:List (Nat×Nat)):eH u 0=0:=by simp[eH]
theorem yo{u t:List (Nat×Nat)}{k:Nat}{x:Nat×Nat}(h:u.drop k=x::t):eH u (k+1)=eH u k+x.2:=by
 have hk:k<u.length:=by
  rcases jae k u.length with h1 | h1
  ·exact h1
  ·rw[jbl h1]at h;cases h
 have hx:u[k]=x:=by
  rw[jar hk]at h;exact(List.cons.inj h).1
 unfold eH;rw[Z5 hk,hx];simp
theorem yp{u t:List (Nat×Nat)}{k:Nat}{x:Nat×Nat}(h:u.drop k=x::t):u.drop (k+1)=t:=by
 rw[← jbb,h];rfl
def At(l:List UInt8)(p k:Nat):Prop:=p<=l.length/\V (l.drop p)=(V l).drop k/\p=eH (V l) k/\k<=(V l).length
theorem At.zero(l:List UInt8):At l 0 0:=⟨by omega,by simp,by simp,by omega⟩
theorem i8{l:List UInt8}{p:Nat}(h:p<l.length):l.drop p≠[]:=by
 intro h2;have:=congrArg List.length h2;simp at this
 omega
theorem At.lt{l:List UInt8}{p k:Nat}(h:At l p k)(hp:p<l.length):(V l).drop k=aO (l.drop p)::V (l.drop (p+(aO (l.drop p)).2)):=by
 rw[← h.2.1,po (i8 hp),jbb]
theorem At.len{l:List UInt8}{p k:Nat}(h:At l p k)(hp:p<l.length):k<(V l).length:=by
 have h1:=h.lt hp;rcases jae k (V l).length with h2 | h2
 ·exact h2
 ·rw[jbl h2]at h1;cases h1
theorem At.get{l:List UInt8}{p k:Nat}(h:At l p k)(hp:p<l.length):(V l)[k]?=some (aO (l.drop p)):=by
 have h1:=h.lt hp;have hk:=h.len hp;rw[jar hk]at h1;rw[List.getElem?_eq_getElem hk,(List.cons.inj h1).1]
theorem At.next{l:List UInt8}{p k:Nat}(h:At l p k)(hp:p<l.length):At l (p+(aO (l.drop p)).2) (k+1):=by
 have h1:=h.lt hp;have hw:=dx _ (i8 hp);simp at hw
 refine⟨by omega,?_,?_,h.len hp⟩
 ·rw[yp h1]
 ·rw[yo h1,← h.2.2.1]
theorem At.end{l:List UInt8}{p k:Nat}(h:At l p k)(hp:¬ p<l.length):k=(V l).length/\p=l.length:=by
 have h1:=h.2.1;rw[jbl (by omega)]at h1;have h2:=congrArg List.length h1;simp at h2
 have:=h.2.2.2;have:=h.1;exact⟨by omega,by omega⟩
theorem uK{l:List UInt8}{p k:Nat}(h:At l p k)(hp:p<l.length):((V l).take (k+1))=(V l).take k++[aO (l.drop p)]:=by
 have hk:=h.len hp;have hg:=h.get hp;rw[List.getElem?_eq_getElem hk]at hg;rw[Z5 hk,Option.some.inj hg]
theorem zY{l:List UInt8}(hl:l≠[])(h:(aO l).1=65533):([239,191,189]:List UInt8).isPrefixOf l=ok (aO l):=by
 rcases mb l hl with hu | ⟨hu,y,hy⟩
 ·rw[hu]
  cases hp:([239,191,189]:List UInt8).isPrefixOf l with
  | false=>rfl
  | true =>
   exfalso
   obtain⟨y,hy⟩:=jaW.1 hp
   have h2:aO l=(65533,3):=by
    rw[← hy];exact BV 65533 (by simp[vr]) y
   rw[hu]at h2;cases h2
 ·rw[h]at hy
  have VC:aO l=(65533,3):=by
   rcases hu with ⟨_,_,h2⟩ | h2
   ·exact absurd h h2
   ·exact h2
  rw[VC,hy];have:dO 65533=[239,191,189]:=by decide
  rw[this];simp[ok]
theorem BX(s:ByteArray)(p:Nat):Utf8.decode s p=aO (s.data.toList.drop p):=by
 have hg:∀ k,s.get! k=s.data.toList.getD k 0:=by
  intro k;show s.data[k]! = _
  by_cases h:k<s.data.size
  ·rw[getElem!_pos s.data k h,List.getD_eq_getElem?_getD,Array.getElem?_toList,Array.getElem?_eq_getElem h]
   rfl
  ·rw[getElem!_neg s.data k h,List.getD_eq_getElem?_getD,Array.getElem?_toList,Array.getElem?_eq_none (by omega)]
   rfl
 have hd:∀ k,(s.data.toList.drop p).getD k 0=s.data.toList.getD (p+k) 0:=by
  intro k;simp[List.getD_eq_getElem?_getD]
 rw[Lib.decode_at,hg,hg,hg,hg];unfold aO;have jq:(s.data.toList.drop p).length=s.size-p:=by rw[jai];rfl
 rw[hd,hd,hd,hd,jq];rfl
open Go.Lib
def I64(x:Int):Prop:=-9223372036854775808<=x/\x<=9223372036854775807
theorem mc{n:Nat}(h:n<256):(n.toUInt8).toNat=n:=by
 show (UInt8.ofNat n).toNat=n
 rw[UInt8.toNat_ofNat'];omega
theorem ff{l:List Nat}(h:∀ x∈l,x<256):(l.map Nat.toUInt8).map UInt8.toNat=l:=by
 rw[jao];conv=>rhs;rw[← jaN l]
 apply jaI
 intro a ha;exact mc (h a ha)
abbrev Fd:=Nat×ByteArray×Nat×Bool
abbrev Cl:=Nat×Int×List Nat
def nul:Cl:=(0,0,[])
def Bs(l:List Nat):Prop:=∀ x∈l,x<256
def lb(s:ByteArray):List UInt8:=s.data.toList
theorem cG(s:ByteArray):(lb s).length=s.size:=rfl
def gy(c:Nat):Bool:=decide (97<=c/\c<=122) || decide (c=95) || decide (127<c)
def ey(c:Nat):Bool:=decide (48<=c/\c<=57)
def kG(k c:Nat):Bool:=gy c || (ey c && decide (0<k))
def dJ:Nat->List (Nat×Nat)->Bool
 | _,[]=>true
 | k,x::t=>kG k x.1 && dJ (k+1) t
def named(s:ByteArray):Bool:=decide (1<=s.size/\s.size<=16) && dI (lb s) && dJ 0 (V (lb s))
def oF(l:List Fd)(n:ByteArray):Bool:=l.any fun f=>decide (f.2.1=n)
def uL(l:List Fd)(n:ByteArray):Bool:=named n && !oF l n
def eR(l:List Fd):Nat:=match l.getLast? with
 | none=>0
 | some f=>f.1
def kH(k:Nat):Bool:=decide (1<=k/\k<=3)
def fW(a:List Fd)(f:Fd):Nat :=
 if f.1<=eR a then 81 else if uL a f.2.1=false then 80 else if kH f.2.2.1=false then 10
 else if (f.2.2.2 != decide (a.length=0))=true∨(a.length=0/\f.2.2.1=2) then 82 else 0
def fe(a:List Fd):List Fd->Nat
 | []=>0
 | f::t=>if fW a f=0 then fe (a++[f]) t else fW a f
def chk(id:Nat)(l:List Fd):Nat:=if id=0∨l.length=0∨8<l.length then 1 else fe [] l
def qc(f:Fd)(c:Cl):Nat :=
 if c.1=0 then (if f.2.2.2=true then 82 else 0) else if c.1≠f.2.2.1 then 10 else if 64<c.2.2.length then 5 else 0
def qd:List Fd->List Cl->Nat
 | f::t,c::r=>if qc f c=0 then qd t r else qc f c
 | [],_=>0
 | _::_,[]=>0
def jE(l:List Fd)(r:List Cl):Nat:=if r.length≠l.length then 1 else qd l r
def jX(id:Nat):Nat->List Fd->Option Nat
 | _,[]=>none
 | k,f::t=>if f.1=id then some k else jX id (k+1) t
def iG(l:List Fd)(id:Nat):Option Nat:=jX id 0 l
def Okf(f:Fd):Prop:=f.1<4294967296/\f.2.2.1<256
theorem Kk{l:List Fd}(h:0<l.length):eR l=(l[l.length-1]'(by omega)).1:=by
 unfold eR;rw[List.getLast?_eq_getElem?,List.getElem?_eq_getElem (by omega)]
theorem qe(l:List Fd)(f:Fd):eR (l++[f])=f.1:=by
 unfold eR;simp
theorem EV{l:List Fd}{i:Nat}(h:i<l.length):eR (l.take (i+1))=l[i].1:=by
 rw[Z5 h,qe]
theorem Jk{l:List Fd}{i:Nat}(h:i<l.length):fe (l.take i) (l.drop i)=if fW (l.take i) l[i]=0 then fe (l.take (i+1)) (l.drop (i+1)) else fW (l.take i) l[i]:=by
 rw[jar h,fe,Z5 h]
theorem Ng(l:List Fd):fe (l.take l.length) (l.drop l.length)=0:=by
 rw[jaE];rfl
theorem yq{l:List Fd}{i:Nat}{n:ByteArray}(h:i<l.length):oF (l.drop i) n=(decide (l[i].2.1=n) || oF (l.drop (i+1)) n):=by
 rw[jar h];unfold oF;rw[List.any_cons]
theorem BZ{l:List Fd}{i id:Nat}(h:i<l.length):jX id i (l.drop i)=if l[i].1=id then some i else jX id (i+1) (l.drop (i+1)):=by
 rw[jar h,jX]
theorem EW(l:List Fd)(id:Nat):jX id l.length (l.drop l.length)=none:=by rw[jaE];rfl
theorem yr{id:Nat}:∀{l:List Fd} {k j:Nat},jX id k l=some j->k<=j/\j<k+l.length
 | [],k,j,h=>by simp[jX]at h
 | f::t,k,j,h=>by
  unfold jX at h;by_cases hf:f.1=id
  ·rw[if_pos hf]at h
   have:=Option.some.inj h;simp
   omega
  ·rw[if_neg hf]at h
   have:=yr h;simp
   omega
theorem Nh{l:List Fd}{id j:Nat}(h:iG l id=some j):j<l.length:=by have:=yr h;omega
theorem yt{l:List Fd}{r:List Cl}{i:Nat}(h:i<l.length)(h2:i<r.length):qd (l.drop i) (r.drop i)=if qc l[i] r[i]=0 then qd (l.drop (i+1)) (r.drop (i+1)) else qc l[i] r[i]:=by
 rw[jar h,jar h2,qd]
theorem B4(l:List Fd)(r:List Cl):qd (l.drop l.length) r=0:=by
 rw[jaE];unfold qd;rfl
theorem oP{k:Nat}{x:Nat×Nat}{t:List (Nat×Nat)}:dJ k (x::t)=(kG k x.1 && dJ (k+1) t):=rfl
def Rise(l:List Fd):Prop:=l.Pairwise fun a b=>a.1<b.1
theorem Jl:∀{l a:List Fd},fe a l=0->(∀ f∈a,f.1<=eR a)->(∀ f∈l,eR a<f.1)/\Rise l
 | [],a,_,_=>⟨fun f hf=>by simp at hf,List.Pairwise.nil⟩
 | g::t,a,h,ha=>by
  unfold fe at h;by_cases h0:fW a g=0
  ·rw[if_pos h0]at h
   have hg:eR a<g.1:=by
    unfold fW at h0;by_cases h1:g.1<=eR a
    ·rw[if_pos h1]at h0;omega
    ·omega
   have Mi:=qe a g
   have ha2:∀ f∈a++[g],f.1<=eR (a++[g]):=by
    intro f hf;rw[Mi];rcases jaj.1 hf with hf | hf
    ·have:=ha f hf;omega
    ·have:f=g:=by simpa using hf
     rw[this];exact ZR _
   obtain⟨h3,h4⟩:=Jl h ha2;rw[Mi]at h3;refine⟨fun f hf=>?_,?_⟩
   ·rcases Z6.1 hf with rfl | hf
    ·exact hg
    ·have:=h3 f hf;omega
   ·exact List.Pairwise.cons (fun f hf=>h3 f hf) h4
  ·rw[if_neg h0]at h;exact absurd h h0
theorem qf{id:Nat}{l:List Fd}(h:chk id l=0):Rise l/\0<l.length/\l.length<=8/\0<id:=by
 unfold chk at h;by_cases h0:id=0∨l.length=0∨8<l.length
 ·rw[if_pos h0]at h;omega
 ·rw[if_neg h0]at h
  refine⟨(Jl h (fun f hf=>by simp at hf)).2,by omega,by omega,by omega⟩
theorem qg{l:List Fd}{row:List Cl}(h:jE l row=0):row.length=l.length:=by
 unfold jE at h;by_cases hl:row.length≠l.length
 ·rw[if_pos hl]at h;omega
 ·omega
def am(l:List Nat):ByteArray:=⟨(l.map Nat.toUInt8).toArray⟩
def dd(s:ByteArray):List Nat:=s.toList.map UInt8.toNat
theorem bx(l:List Nat):(am l).toList=l.map Nat.toUInt8:=by
 rw[ByteArray.toList_eq];rfl
theorem bi(l:List Nat):(am l).size=l.length:=by
 show (l.map Nat.toUInt8).toArray.size=l.length
 simp
theorem iO:am []=⟨#[]⟩:=rfl
theorem Nj(s:ByteArray):Bs (dd s):=fun x hx=>by
 obtain⟨y,_,rfl⟩:=jaa.1 hx;exact y.toNat_lt
theorem iP(s:ByteArray):(dd s).length=s.size:=by
 unfold dd;rw[ZU,ByteArray.toList_eq];rfl
theorem B5(s:ByteArray):am (dd s)=s:=by
 have h:(dd s).map Nat.toUInt8=s.toList:=by
  unfold dd;rw[jao];conv=>rhs;rw[← jaN s.toList]
  apply jaI
  intro x _;simp
 unfold am;rw[h,ByteArray.toList_eq]
def eS(b:Bool):Nat:=if b=true then 1 else 0
def szs(l:List Fd):Nat:=(l.map fun f=>f.2.1.size).sum
theorem Jm{l:List Fd}{f:Fd}(h:f∈l):f.2.1.size<=szs l:=by
 induction l with
 | nil=>simp at h
 | cons g t ih =>
  unfold szs at *;simp only[jal,List.sum_cons];rcases Z6.1 h with rfl | h
  ·omega
  ·have:=ih h;omega
theorem s5(l:List Fd)(i:Nat):szs (l.take i)<=szs l:=by
 have:szs l=szs (l.take i)+szs (l.drop i):=by
  conv=>lhs;rw[← ja5 i l]
  unfold szs;rw[Z8,List.sum_append]
 omega
theorem Bs.app{a b:List Nat}(ha:Bs a)(hb:Bs b):Bs (a++b):=fun x hx=>by
 rcases jaj.1 hx with h | h
 ·exact ha x h
 ·exact hb x h
theorem Bs.drop{a:List Nat}(ha:Bs a)(k:Nat):Bs (a.drop k):=fun x hx=>ha x (jbc hx)
theorem Bs.take{a:List Nat}(ha:Bs a)(k:Nat):Bs (a.take k):=fun x hx=>ha x (jaw hx)
def textR(n:Nat)(r:List Nat):Except Nat (ByteArray×List Nat):=if r.length<n then .error 30 else .ok (am (r.take n),r.drop n)
def Rds{α : Type}(m:List Nat->Except Nat (α×List Nat))(l:List Nat)(f:Nat)(x:α)(l':List Nat)(f':Nat):Prop :=
 (f=0->m l=if f'=0 then .ok (x,l') else .error f')/\(f≠0->f'=f)
theorem Rds.pure{α : Type}(x:α)(l:List Nat)(f:Nat):Rds (fun b=>.ok (x,b)) l f x l f:=by
 refine⟨fun h0=>?_,fun _=>rfl⟩;rw[if_pos h0]
theorem Rds.dead{α : Type}{m:List Nat->Except Nat (α×List Nat)}{l l':List Nat}{f:Nat}(x:α)(h:f≠0):Rds m l f x l' f:=⟨fun h0=>absurd h0 h,fun _=>rfl⟩
def zZ{α : Type}(m:List Nat->Except Nat (α×List Nat))(e:List Nat)(x:α):Prop:=∀ r,m (e++r)=.ok (x,r)∨∃ c,c≠0/\m (e++r)=.error c
def tU{α : Type}(m:List Nat->Except Nat (α×List Nat))(e:List Nat)(x:α):Prop:=∀ r,m (e++r)=.ok (x,r)
theorem uM(s:ByteArray):tU (textR s.size) (dd s) s:=by
 intro r;unfold textR;have hl:=iP s;rw[if_neg (by simp;omega),← hl,jaF,jas,B5]
theorem tU.eith{α : Type}{m:List Nat->Except Nat (α×List Nat)}{e:List Nat}{x:α}(h:tU m e x):zZ m e x:=fun r=>Or.inl (h r)
theorem yu{α : Type}(x:α):tU (fun b=>.ok (x,b)) [] x:=fun r=>rfl
theorem B6(b:Bool):decide (eS b=1)=b:=by cases b<;>rfl
theorem qh:∀{l a:List Fd},fe a l=0->∀ f∈l,f.2.1.size<=16
 | [],a,_,f,hf=>by simp at hf
 | g::t,a,h,f,hf=>by
  unfold fe at h;by_cases h0:fW a g=0
  ·rw[if_pos h0]at h
   rcases Z6.1 hf with rfl | hf
   ·unfold fW at h0
    by_cases h1:f.1<=eR a
    ·rw[if_pos h1]at h0;omega
    ·rw[if_neg h1]at h0
     by_cases h2:uL a f.2.1=false
     ·rw[if_pos h2]at h0;omega
     ·have h3:uL a f.2.1=true:=by simpa using h2
      unfold uL named at h3;simp at h3
      omega
   ·exact qh h f hf
  ·rw[if_neg h0]at h;exact absurd h h0
open Go.RowKit
theorem ae{p:Prop}(h:p):Hid p:=h
def aE(k:IntKind)(l:List Nat):List Value:=l.map fun(n:Nat)=>Value.int k (n:Int)
theorem bZ(k:IntKind)(a b:List Nat):aE k (a++b)=aE k a++aE k b:=Z8
theorem ap(k:IntKind)(a:List Nat):(aE k a).length=a.length:=ZU _
theorem bR{k:IntKind}{l:List Nat}{j:Nat}(h:j<l.length):(aE k l)[j]?=some (.int k (l[j]:Int)):=by simp[aE,h]
theorem jY(k:IntKind)(l:List Nat)(j c:Nat):(aE k l).set j (.int k (c:Int))=aE k (l.set j c):=by simp[aE,List.map_set]
theorem fP(k:IntKind)(l:List Nat):∀ u∈aE k l,u.oneCell'=true:=by
 intro u hu;obtain⟨b,_,rfl⟩:=jaa.1 hu;rfl
theorem jf:(Tryz.prog.info? 5).map (fun i=>(i.zero,i.size,i.bytes))=some (some (.int .u8 0),1,1):=by kernel_rfl
theorem md(g j:Nat):(⟨g,0,none⟩:Addr).add j=⟨g,j,none⟩:=by unfold Addr.add;split<;>simp_all
theorem pp(b off j:Nat):(⟨b,off,none⟩:Addr).add j=⟨b,off+j,none⟩:=by unfold Addr.add;split<;>simp_all
theorem bH{w w':World}{B e size n:Nat}{v:Value}{xs:List Value}(h:w.ownsRow B e size v n xs)(hb:Below w.heap.size w w'):w'.ownsRow B e size v n xs:=by
 obtain⟨hl,h⟩:=h;refine⟨hl,?_⟩;rcases h with h | ⟨g,cap,cur,h1,h2,h3,h4⟩
 ·exact Or.inl h
 ·have hg:g<w.heap.size:=by
   rcases jae g w.heap.size with hg | hg
   ·exact hg
   ·rw[Array.getElem?_eq_none hg]at h3;cases h3
  exact Or.inr ⟨g,cap,cur,h1,h2,(hb.block g hg).trans h3,h4⟩
def Sx(k:IntKind)(W:World)(v:Value)(l:List Nat):Prop :=
 ∃ a cap,v=.slice a l.length cap/\l.length<=maxLen /\
  (0<l.length->∃ b off,a=some ⟨b,off,none⟩/\b<W.heap.size/\∀ j (h:j<l.length),W.cell? ⟨b,off+j,none⟩=some (.int k (l[j]:Int)))
theorem Sx.kept{k:IntKind}{W W':World}{v:Value}{l:List Nat}(h:Sx k W v l)(hb:Below W.heap.size W W'):Sx k W' v l:=by
 obtain⟨a,cap,rfl,h1,h3⟩:=h;refine⟨a,cap,rfl,h1,fun h0=>?_⟩;obtain⟨b,off,rfl,h4,h5⟩:=h3 h0;exact⟨b,off,rfl,Z9 h4 hb.size,fun j hj=>(hb.cell (p:=⟨b,off+j,none⟩) h4).trans (h5 j hj)⟩
theorem Sx.of_own{k:IntKind}{W:World}{B e n:Nat}{v:Value}{l:List Nat}(h:W.ownsRow B e 1 v n (aE k l)):Sx k W v l:=by
 have hl:l.length=n:=by have:=h.1;simpa [aE]using this
 obtain⟨_,h1⟩:=id h;rcases h1 with ⟨rfl,rfl⟩ | ⟨g,cap,cur,rfl,hb,hg,h4,h5,_⟩
 ·exact⟨none,0,by rw[hl],by unfold maxLen;omega,fun h0=>by omega⟩
 ·refine⟨_,cap,by rw[hl],by omega,fun _=>⟨g,0,rfl,(Array.getElem?_eq_some_iff.1 hg).1,fun j hj=>?_⟩⟩
  have:=h.cells (g:=g) rfl j _ (bR hj);rw[md]at this;rwa[jaf]
def txt(l:List Nat):Value:=.string ⟨(l.map Nat.toUInt8).toArray⟩
theorem Sx.conv{W:World}{v:Value}{l:List Nat}(h:Sx .u8 W v l)(h8:∀ x∈l,x<256):(convert 30 9 v).run Tryz.prog W=.ok (txt l) W:=by
 obtain⟨a,cap,rfl,h1,h3⟩:=h;rcases jax l.length with h0 | hp
 ·obtain rfl:l=[]:=jab h0
  first
   | exact run_convert_bytes_back_empty W 30 9 5 a cap Tryz.underlying30 Tryz.underlying5 Tryz.underlying9
   | (cases a<;>rfl)
   | (cases a<;>kernel_rfl)
 ·obtain⟨b,off,rfl,h4,h5⟩:=h3 hp
  have:=run_convert_bytes_back W 30 9 5 ⟨b,off,none⟩ cap (l.map Nat.toUInt8) Tryz.underlying30 Tryz.underlying5 Tryz.underlying9 (fun j hj=>by
   have hj':j<l.length:=by simpa using hj
   rw[pp,h5 j hj'];have h9:=h8 l[j] (ZV hj');congr 2
   simp[jaA h9])
  rw[ZU]at this;exact this
theorem Sx.lit{k:IntKind}(w:World)(l:List Nat)(e:Nat)(hl:l.length<=maxLen):Sx k (w.alloc (.cells (aE k l).toArray e)) (.slice (some ⟨w.heap.size,0,none⟩) l.length l.length) l:=by
 have:=jaT (e:=e) (size:=1) w (aE k l).toArray l.length (base:=0) (jav _) hl (by simp[aE]);exact Sx.of_own this
def aV(l:List UInt8):List Value:=l.map fun b=>Value.int .u8 (b.toNat:Int)
theorem jt(a b:List UInt8):aV (a++b)=aV a++aV b:=Z8
theorem mG(a:List UInt8):(aV a).length=a.length:=ZU _
theorem Aa{l:List UInt8}{j:Nat}(h:j<l.length):(aV l)[j]?=some (.int .u8 (l[j].toNat:Int)):=by simp[aV,h]
theorem rN{w:World}{B e n:Nat}{v:Value}{xs:List Value}(h:w.ownsRow B e 1 v n xs):(∃ ad cap,v=.slice ad n cap/\∀ g,ad=some g->g.spot=none)/\(0<n->∃ g cap,v=.slice (some ⟨g,0,none⟩) n cap/\g<w.heap.size/\B<=g/\∀ j x,xs[j]?=some x->w.cell? ⟨g,j,none⟩=some x):=by
 obtain⟨hl,h1⟩:=id h;rcases h1 with ⟨rfl,rfl⟩ | ⟨g,cap,cur,rfl,hb,hg,h4⟩
 ·exact⟨⟨none,0,rfl,fun g hg=>by cases hg⟩,fun h=>by omega⟩
 ·refine⟨⟨_,cap,rfl,fun x hx=>by cases hx;rfl⟩,fun _=>⟨g,cap,rfl,(Array.getElem?_eq_some_iff.1 hg).1,hb,fun j x hx=>?_⟩⟩
  have:=h.cells (g:=g) rfl j x hx;have Ha:(⟨g,0,none⟩:Addr).add j=⟨g,j,none⟩:=by unfold Addr.add;split<;>simp_all
  rwa[Ha]at this
theorem jF{x:Nat}(h:x<256):aV [x.toUInt8]=[.int .u8 (x:Int)]:=by
 simp only[aV,jal,jaG,mc h]
theorem rO(l:List UInt8):∀ u∈aV l,u.oneCell'=true:=by
 intro u hu;obtain⟨b,_,rfl⟩:=jaa.1 hu;rfl
def Sl(W:World)(v:Value)(l:List UInt8):Prop :=
 ∃ a cap,v=.slice a l.length cap/\l.length<=cap/\cap<=maxLen /\
  (0<l.length->∃ b off,a=some ⟨b,off,none⟩/\b<W.heap.size/\∀ j (h:j<l.length),W.cell? ⟨b,off+j,none⟩=some (.int .u8 (l[j].toNat:Int)))
end Go.Proofs.YtpljdjmpamjkhaaGreatDoor
