import Derived.Lib.DecodeN
import Derived.Test.YtpljdjmpamjkhaaGreatDoorProg
import Derived.WalkLawsBesides
import Derived.WalkSpells
import Derived.BigQuiet
import Derived.Deep.RegionHeld3
set_option linter.unusedVariables false
set_option linter.unusedSimpArgs false
set_option maxHeartbeats 1000000
set_option maxRecDepth 100000
namespace Go.Proofs.YtpljdjmpamjkhaaGreatDoor
open Go.RowKit Go.Lib
def jfp(p:Prop):Prop:=p
theorem jfp.o{p:Prop}(h:jfp p):p:=h
abbrev jdt:=@if_neg
abbrev jdu:=@if_pos
abbrev jdv:=@Below.refl
abbrev jdw:=@Nat.le_refl
abbrev jdx:=@World.size_alloc
abbrev jdy:=@List.length_append
abbrev jdz:=@List.length_map
abbrev jdA:=@List.getElem_mem
abbrev jdB:=@congrArg
abbrev jdC:=@List.length_take
abbrev jdD:=@List.length_cons
abbrev jdE:=@List.take_length
abbrev jdF:=@Nat.le_trans
abbrev jdG:=@beq_eq_false_iff_ne
abbrev jdH:=@List.set_cons_zero
abbrev jdI:=@List.set_cons_succ
abbrev jdJ:=@List.setIfInBounds_toArray
abbrev jdK:=@decide_eq_false
abbrev jdL:=@List.append_assoc
abbrev jdM:=@List.take_succ_eq_append_getElem
abbrev jdN:=@List.mem_cons
abbrev jdO:=@decide_eq_true
abbrev jdP:=@info_parts
abbrev jdQ:=@List.map_append
abbrev jdR:=@List.mem_map
abbrev jdS:=@Nat.lt_of_lt_of_le
abbrev jdT:=@List.append_nil
abbrev jdU:=@Nat.le_of_lt
abbrev jdV:=@List.eq_nil_of_length_eq_zero
abbrev jdW:=@heap_alloc_new
abbrev jdX:=@List.length_nil
abbrev jdY:=@Nat.lt_or_ge
abbrev jdZ:=@Nat.zero_add
abbrev jd0:=@IntKind.wrap_u64
abbrev jd1:=@Int.toNat_natCast
abbrev jd2:=@List.mem_append
abbrev jd3:=@List.length_drop
abbrev jd4:=@Nat.mul_comm
abbrev jd5:=@List.map_cons
abbrev jd6:=@List.length_singleton
abbrev jd7:=@IntKind.wrap_i64
abbrev jd8:=@List.map_map
abbrev jd9:=@Nat.add_mul
abbrev jea:=@Nat.lt_trans
abbrev jeb:=@wpList_append_own_at
abbrev jec:=@List.drop_eq_getElem_cons
abbrev jed:=@List.drop_left
abbrev jee:=@List.take_of_length_le
abbrev jef:=@List.mem_singleton
abbrev jeg:=@List.getD_cons_zero
abbrev jeh:=@Nat.zero_le
abbrev jei:=@decide_eq_true_eq
abbrev jej:=@Nat.add_zero
abbrev jek:=@List.mem_of_mem_take
abbrev jel:=@Nat.eq_zero_or_pos
abbrev jem:=@List.cons_append
abbrev jen:=@Nat.mod_eq_of_lt
abbrev jeo:=@World.ownsRow_nil
abbrev jep:=@Nat.two_pow_pos
abbrev jeq:=@List.map_congr_left
abbrev jer:=@List.drop_length
abbrev jes:=@List.map_nil
abbrev jet:=@List.take_left
abbrev jeu:=@List.nil_append
abbrev jev:=@List.map_id
abbrev jew:=@Nat.min_eq_left
abbrev jex:=@Nat.pow_add
abbrev jey:=@Nat.mul_le_mul_left
abbrev jez:=@List.pairwise_cons
abbrev jeA:=@wpList_make_full
abbrev jeB:=@Nat.one_mul
abbrev jeC:=@Nat.xor_assoc
abbrev jeD:=@Nat.add_assoc
abbrev jeE:=@Nat.mul_add
abbrev jeF:=@Option.map_some
abbrev jeG:=@World.ownsRow_lit
abbrev jeH:=@List.flatMap_append
abbrev jeI:=@List.isPrefixOf_iff_prefix
abbrev jeJ:=@List.map_toArray
abbrev jeK:=@Nat.mul_assoc
abbrev jeL:=@Nat.pow_le_pow_right
abbrev jeM:=@List.mem_cons_of_mem
abbrev jeN:=@List.range_succ
abbrev jeO:=@List.getD_cons_succ
abbrev jeP:=@List.take_append_drop
abbrev jeQ:=@List.flatMap_cons
abbrev jeR:=@List.flatten_cons
abbrev jeS:=@List.length_set
abbrev jeT:=@List.map_take
abbrev jeU:=@List.take_zero
abbrev jeV:=@Nat.mul_one
abbrev jeW:=@Nat.sub_self
abbrev jeX:=@Bool.eq_iff_iff
abbrev jeY:=@Int.eq_ofNat_of_zero_le
abbrev jeZ:=@toList_madeCells_one
abbrev je0:=@decide_eq_false_iff_not
abbrev je1:=@List.drop_drop
abbrev je2:=@Nat.mul_le_mul
abbrev je3:=@List.lt_irrefl
abbrev je4:=@List.length_filter_le
abbrev je5:=@List.pairwise_iff_getElem
abbrev je6:=@List.filter_append
abbrev je7:=@List.getElem_cons_zero
abbrev je8:=@List.flatten_append
abbrev je9:=@run_append_owned_none
abbrev jfa:=@List.drop_eq_nil_of_le
abbrev jfb:=@List.mem_of_mem_drop
abbrev jfc:=@List.not_mem_nil
abbrev jfd:=@List.take_succ_cons
abbrev jfe:=@Nat.lt_of_le_of_lt
abbrev jff:=@List.eq_of_mem_replicate
abbrev jfg:=@List.mem_filter
abbrev jfh:=@Nat.xor_lt_two_pow
abbrev jfi:=@List.length_range
abbrev jfj:=@List.filter_cons
abbrev jfk:=@run_eql_slice_nil
abbrev jfl:=@List.getElem_append_left
abbrev jfm:=@Nat.div_div_eq_div_mul
abbrev jfn:=@Option.bind_eq_some_iff
abbrev jfo:=@List.mem_take_iff_getElem
open Go
open Go.Lib (decodeN)
def aP(l:List UInt8):Nat×Nat:=decodeN l.length (l.getD 0 0).toNat (l.getD 1 0).toNat (l.getD 2 0).toNat (l.getD 3 0).toNat
def vr(c:Nat):Prop:=c<55296∨(57344<=c/\c<=1114111)
def bt(n:Nat):UInt8:=UInt8.ofNat n
theorem cD{n:Nat}(h:n<256):(bt n).toNat=n:=by
 simp[bt];omega
def dT(c:Nat):List UInt8 :=
 if c<128 then [bt c]
 else if c<2048 then [bt (192+c / 64),bt (128+c % 64)]
 else if c<65536 then [bt (224+c / 4096),bt (128+c / 64 % 64),bt (128+c % 64)]
 else [bt (240+c / 262144),bt (128+c / 4096 % 64),bt (128+c / 64 % 64),bt (128+c % 64)]
theorem Mg(c:Nat)(h:vr c):(Utf8.encode (c:Int)).data.toList=dT c:=by
 have hv:Utf8.valid (c:Int)=true:=by
  simp only[Utf8.valid,vr]at *;rcases h with h | h
  ·simp;omega
  ·simp;omega
 simp only[Utf8.encode,hv,if_true,jd1,dT];repeat' split
 all_goals rfl
theorem ip(c:Nat):1<=(dT c).length/\(dT c).length<=4:=by
 unfold dT;repeat' split
 all_goals simp
theorem Wh(l:List UInt8)(k:Nat):(l.getD k 0).toNat<256:=UInt8.toNat_lt _
theorem Cw(c:Nat)(h:vr c)(y:List UInt8):aP (dT c++y)=(c,(dT c).length):=by
 unfold vr at h;unfold dT;split
 ·simp only[aP,jem,jeu,jeg,jdD]
  rw[cD (by omega)];simp only[decodeN];rw[jdu (by omega)];rfl
 ·split
  ·simp only[aP,jem,jeu,jeg,jeO,jdD]
   rw[cD (by omega),cD (by omega)];simp only[decodeN];rw[jdt (by omega),jdu (by omega),jdu (by omega)];congr 1
   omega
  ·split
   ·simp only[aP,jem,jeu,jeg,jeO,jdD]
    rw[cD (by omega),cD (by omega),cD (by omega)];simp only[decodeN];rw[jdt (by omega),jdt (by omega),jdu (by omega),jdu (by omega)];congr 1
    omega
   ·simp only[aP,jem,jeu,jeg,jeO,jdD]
    rw[cD (by omega),cD (by omega),cD (by omega),cD (by omega)];simp only[decodeN];rw[jdt (by omega),jdt (by omega),jdt (by omega),jdu (by omega),jdu (by omega)];congr 1
    omega
theorem ph(x:UInt8)(n:Nat)(h:x.toNat=n):x=bt n:=by
 subst h;simp[bt]
def ok(u:Nat×Nat):Bool:=!(u.1==65533 && u.2==1)
theorem iP{c w:Nat}(h:w≠1):ok (c,w)=true:=by simp[ok,h]
theorem mt(l:List UInt8)(hl:l≠[]):aP l=(65533,1)∨(vr (aP l).1/\(aP l).2=(dT (aP l).1).length/\(aP l).1≠65533∨aP l=(65533,3))/\∃ y,l=dT (aP l).1++y:=by
 match l,hl with
 | b0::t,_ =>
  have h0:b0.toNat<256:=UInt8.toNat_lt _;by_cases ha:b0.toNat<128
  ·right
   have hu:aP (b0::t)=(b0.toNat,1):=by simp only[aP,jeg,decodeN];rw[jdu ha]
   rw[hu];have he:dT b0.toNat=[b0]:=by simp only[dT];rw[jdu ha,← ph b0 _ rfl]
   refine⟨Or.inl ⟨Or.inl (by show b0.toNat<55296;omega),by simp[he],by simp;omega⟩,t,by simp[he]⟩
  ·by_cases h2:194<=b0.toNat/\b0.toNat<224
   ·cases t with
    | nil=>left;simp only[aP,decodeN,jeg,jdD,jdX];rw[jdt ha,jdt (by omega),jdt (by omega),jdt (by omega)]
    | cons b1 t =>
     have h1:b1.toNat<256:=UInt8.toNat_lt _;by_cases hc:b1.toNat / 64=2
     ·right
      have hu:aP (b0::b1::t)=(b0.toNat % 32*64+b1.toNat % 64,2):=by simp only[aP,jeg,jeO,jdD,decodeN];rw[jdt ha,jdu (by omega),jdu (by omega)]
      rw[hu]
      have he:dT (b0.toNat % 32*64+b1.toNat % 64)=[b0,b1]:=by
       simp only[dT];rw[jdt (by omega),jdu (by omega),← ph b0 _ (by omega),← ph b1 _ (by omega)]
      refine⟨Or.inl ⟨Or.inl (by simp only;omega),by simp[he],by simp only;omega⟩,t,by simp[he]⟩
     ·left
      simp only[aP,jeg,jeO,jdD,decodeN];rw[jdt ha,jdt (by omega),jdt (by omega),jdt (by omega)]
   ·by_cases h3:224<=b0.toNat/\b0.toNat<240
    ·match t with
     | []=>left;simp only[aP,decodeN,jeg,jdD,jdX];rw[jdt ha,jdt (by omega),jdt (by omega),jdt (by omega)]
     | [b1]=>left;simp only[aP,decodeN,jeg,jdD,jdX];rw[jdt ha,jdt (by omega),jdt (by omega),jdt (by omega)]
     | b1::b2::t =>
      have h1:b1.toNat<256:=UInt8.toNat_lt _;have h2':b2.toNat<256:=UInt8.toNat_lt _;generalize hn:b0.toNat % 16*4096+b1.toNat % 64*64+b2.toNat % 64=n;by_cases hc:b1.toNat / 64=2/\b2.toNat / 64=2/\n>=2048/\(n<55296∨(57344<=n/\n<=1114111))
      ·right
       have hu:aP (b0::b1::b2::t)=(n,3):=by simp only[aP,jeg,jeO,jdD,decodeN];rw[hn,jdt ha,jdt (by omega),jdu (by omega),jdu (by omega)]
       rw[hu]
       have he:dT n=[b0,b1,b2]:=by
        simp only[dT];rw[jdt (by omega),jdt (by omega),jdu (by omega),← ph b0 _ (by omega),← ph b1 _ (by omega),← ph b2 _ (by omega)]
       refine⟨?_,t,by simp[he]⟩;by_cases fF:n=65533
       ·right;rw[fF]
       ·exact Or.inl ⟨by simp only[vr];omega,by simp[he],fF⟩
      ·left
       simp only[aP,jeg,jeO,jdD,decodeN];rw[hn,jdt ha,jdt (by omega)];split
       ·rw[jdt (by omega)]
       ·rw[jdt (by omega)]
    ·by_cases h4:240<=b0.toNat/\b0.toNat<248
     ·match t with
      | []=>left;simp only[aP,decodeN,jeg,jdD,jdX];rw[jdt ha,jdt (by omega),jdt (by omega),jdt (by omega)]
      | [b1]=>left;simp only[aP,decodeN,jeg,jdD,jdX];rw[jdt ha,jdt (by omega),jdt (by omega),jdt (by omega)]
      | [b1,b2]=>left;simp only[aP,decodeN,jeg,jdD,jdX];rw[jdt ha,jdt (by omega),jdt (by omega),jdt (by omega)]
      | b1::b2::b3::t =>
       have h1:b1.toNat<256:=UInt8.toNat_lt _;have h2':b2.toNat<256:=UInt8.toNat_lt _;have h3':b3.toNat<256:=UInt8.toNat_lt _;generalize hn:b0.toNat % 8*262144+b1.toNat % 64*4096+b2.toNat % 64*64+b3.toNat % 64=n;by_cases hc:b1.toNat / 64=2/\b2.toNat / 64=2/\b3.toNat / 64=2/\n>=65536/\(n<55296∨(57344<=n/\n<=1114111))
       ·right
        have hu:aP (b0::b1::b2::b3::t)=(n,4):=by simp only[aP,jeg,jeO,jdD,decodeN];rw[hn,jdt ha,jdt (by omega),jdt (by omega),jdu (by omega),jdu (by omega)]
        rw[hu]
        have he:dT n=[b0,b1,b2,b3]:=by
         simp only[dT];rw[jdt (by omega),jdt (by omega),jdt (by omega),← ph b0 _ (by omega),← ph b1 _ (by omega),← ph b2 _ (by omega),← ph b3 _ (by omega)]
        refine⟨?_,t,by simp[he]⟩;exact Or.inl ⟨by simp only[vr];omega,by simp[he],by omega⟩
       ·left
        simp only[aP,jeg,jeO,jdD,decodeN];rw[hn,jdt ha,jdt (by omega),jdt (by omega)];split
        ·rw[jdt (by omega)]
        ·rfl
     ·left
      simp only[aP,jeg,decodeN];rw[jdt ha];split
      ·rw[jdt (by have:=Wh (b0::t) 1;omega)]
      ·rw[jdt (by omega),jdt (by omega)]
theorem dB(l:List UInt8)(hl:l≠[]):1<=(aP l).2/\(aP l).2<=l.length:=by
 have tn:1<=l.length:=by cases l with | nil=>exact absurd rfl hl | cons=>simp
 rcases mt l hl with h | ⟨h,y,hy⟩
 ·rw[h];exact⟨jdw _,tn⟩
 ·rcases h with ⟨_,h,_⟩ | h
  ·have:=ip (aP l).1
   have bR:=jdB List.length hy;simp at bR
   omega
  ·have bR:=jdB List.length hy
   rw[h]at bR ⊢;have:(dT 65533).length=3:=by decide
   simp[this]at bR
   simp
   omega
theorem KP(l:List UInt8)(hl:l≠[]):vr (aP l).1:=by
 rcases mt l hl with h | ⟨⟨h,_⟩ | h,_⟩
 ·rw[h];simp[vr]
 ·exact h
 ·rw[h];simp[vr]
def us:Nat->List UInt8->List (Nat×Nat)
 | 0,_=>[]
 | _+1,[]=>[]
 | f+1,b::t=>aP (b::t)::us f ((b::t).drop (aP (b::t)).2)
def V(l:List UInt8):List (Nat×Nat):=us l.length l
theorem Wi:∀(f:Nat) (l:List UInt8),l.length<=f->∀ g,l.length<=g->us f l=us g l:=by
 intro f;induction f with
 | zero=>intro l h g hg;cases l with | nil=>cases g<;>rfl | cons=>simp at h
 | succ f ih =>
  intro l h g hg;cases l with
  | nil=>cases g<;>rfl
  | cons b t =>
   cases g with
   | zero=>simp at hg
   | succ g =>
    have hw:=dB (b::t) (by simp);simp only[us];congr 1
    simp at h hg hw
    exact ih _ (by simp;omega) _ (by simp;omega)
@[simp] theorem V_nil:V []=[]:=rfl
theorem pJ{l:List UInt8}(hl:l≠[]):V l=aP l::V (l.drop (aP l).2):=by
 cases l with
 | nil=>exact absurd rfl hl
 | cons b t =>
  have hw:=dB (b::t) (by simp);show us (t.length+1) (b::t)=_
  simp only[us];congr 1
  simp at hw
  exact Wi _ _ (by simp;omega) _ (by simp)
theorem QJ:∀(n:Nat) (l:List UInt8),l.length<=n->(V l).length<=l.length:=by
 intro n;induction n with
 | zero=>intro l h;cases l with | nil=>simp | cons=>simp at h
 | succ n ih =>
  intro l h;by_cases hl:l=[]
  ·subst hl;simp
  ·rw[pJ hl]
   have hw:=dB l hl;have:=ih (l.drop (aP l).2) (by simp;omega);simp at this ⊢
   omega
theorem Cx(l:List UInt8):(V l).length<=l.length:=QJ _ l (jdw _)
theorem Wj:∀(n:Nat) (l:List UInt8),l.length<=n->∀ u∈V l,vr u.1/\1<=u.2:=by
 intro n;induction n with
 | zero=>intro l h;cases l with | nil=>simp | cons=>simp at h
 | succ n ih =>
  intro l h u hu;by_cases hl:l=[]
  ·subst hl;simp at hu
  ·rw[pJ hl]at hu
   have hw:=dB l hl;simp at hu
   rcases hu with rfl | hu
   ·exact⟨KP l hl,hw.1⟩
   ·exact ih _ (by simp;omega) u hu
theorem jab(c:Nat)(y:List UInt8):dT c++y≠[]:=by
 have:=ip c;intro h;have h2:=jdB List.length h;simp at h2
 rw[h2.1]at this;simp at this
theorem V_enc{c:Nat}(h:vr c)(y:List UInt8):V (dT c++y)=(c,(dT c).length)::V y:=by
 rw[pJ (jab c y),Cw c h y];simp
def eu(c:Nat):Nat×Nat:=(c,(dT c).length)
def lJ(rs:List Nat):List UInt8:=rs.flatMap dT
@[simp] theorem flat_nil:lJ []=[]:=rfl
@[simp] theorem flat_cons (c:Nat) (rs:List Nat):lJ (c::rs)=dT c++lJ rs:=rfl
@[simp] theorem flat_append (a b:List Nat):lJ (a++b)=lJ a++lJ b:=by simp[lJ]
theorem jac(rs:List Nat)(h:∀ r∈rs,vr r)(y:List UInt8):V (lJ rs++y)=rs.map eu++V y:=by
 induction rs with
 | nil=>rfl
 | cons c rs ih =>
  rw[flat_cons,jdL,V_enc (h c (by simp))];rw[ih (fun r hr=>h r (by simp[hr]))];rfl
def dP(l:List UInt8):Bool:=(V l).all ok
def iK(l:List UInt8):List Nat:=(V l).map Prod.fst
theorem Ao(rs:List Nat)(h:∀ r∈rs,vr r):V (lJ rs)=rs.map eu:=by
 have:=jac rs h [];simpa using this
theorem Wk{l:List UInt8}(hl:l≠[])(ho:ok (aP l)=true):aP l=eu (aP l).1/\∃ y,l=dT (aP l).1++y:=by
 rcases mt l hl with h | ⟨h,y,hy⟩
 ·rw[h]at ho;simp[ok]at ho
 ·refine⟨?_,y,hy⟩
  rcases h with ⟨_,h,_⟩ | h
  ·exact Prod.ext rfl h
  ·rw[h];decide
theorem lw:∀(n:Nat) (l:List UInt8),l.length<=n->dP l=true->l=lJ (iK l)/\V l=(iK l).map eu:=by
 intro n;induction n with
 | zero=>intro l h hc;cases l with | nil=>exact⟨rfl,rfl⟩ | cons=>simp at h
 | succ n ih =>
  intro l h hc;by_cases hl:l=[]
  ·subst hl;exact⟨rfl,rfl⟩
  ·have hw:=dB l hl
   unfold dP at hc;rw[pJ hl,List.all_cons,Bool.and_eq_true]at hc;obtain⟨hu,y,hy⟩:=Wk hl hc.1
   have hd:l.drop (aP l).2=y:=by
    have h2:(aP l).2=(dT (aP l).1).length:=jdB Prod.snd hu;rw[h2];conv=>lhs;arg 2;rw[hy]
    simp
   obtain⟨e1,e2⟩:=ih (l.drop (aP l).2) (by simp;omega) hc.2
   have hr:iK l=(aP l).1::iK (l.drop (aP l).2):=by
    unfold iK;rw[pJ hl];rfl
   rw[hr];constructor
   ·rw[flat_cons,← e1,hd];exact hy
   ·rw[pJ hl,e2,jd5,← hu]
theorem QK{l:List UInt8}(h:dP l=true):l=lJ (iK l):=(lw _ l (jdw _) h).1
theorem Aq{l:List UInt8}(h:dP l=true):V l=(iK l).map eu:=(lw _ l (jdw _) h).2
theorem QL(l:List UInt8):∀ r∈iK l,vr r:=by
 intro r hr;simp[iK]at hr
 obtain⟨w,hw⟩:=hr;exact(Wj _ l (jdw _) _ hw).1
def eJ(u:List (Nat×Nat))(k:Nat):Nat:=((u.take k).map Prod.snd).sum
@[simp] theorem offs_zero (u:List (Nat×Nat)):eJ u 0=0:=by simp[eJ]
theorem yK{u t:List (Nat×Nat)}{k:Nat}{x:Nat×Nat}(h:u.drop k=x::t):eJ u (k+1)=eJ u k+x.2:=by
 have hk:k<u.length:=by
  rcases jdY k u.length with h1 | h1
  ·exact h1
  ·rw[jfa h1]at h;cases h
 have hx:u[k]=x:=by
  rw[jec hk]at h;exact(List.cons.inj h).1
 unfold eJ;rw[jdM hk,hx];simp
theorem yL{u t:List (Nat×Nat)}{k:Nat}{x:Nat×Nat}(h:u.drop k=x::t):u.drop (k+1)=t:=by
 rw[← je1,h];rfl
def At(l:List UInt8)(p k:Nat):Prop:=p<=l.length/\V (l.drop p)=(V l).drop k/\p=eJ (V l) k/\k<=(V l).length
theorem At.zero(l:List UInt8):At l 0 0:=⟨by omega,by simp,by simp,by omega⟩
theorem jd{l:List UInt8}{p:Nat}(h:p<l.length):l.drop p≠[]:=by
 intro h2;have:=jdB List.length h2;simp at this
 omega
theorem At.lt{l:List UInt8}{p k:Nat}(h:At l p k)(hp:p<l.length):(V l).drop k=aP (l.drop p)::V (l.drop (p+(aP (l.drop p)).2)):=by
 rw[← h.2.1,pJ (jd hp),je1]
theorem At.len{l:List UInt8}{p k:Nat}(h:At l p k)(hp:p<l.length):k<(V l).length:=by
 have h1:=h.lt hp;rcases jdY k (V l).length with h2 | h2
 ·exact h2
 ·rw[jfa h2]at h1;cases h1
theorem At.get{l:List UInt8}{p k:Nat}(h:At l p k)(hp:p<l.length):(V l)[k]?=some (aP (l.drop p)):=by
 have h1:=h.lt hp;have hk:=h.len hp;rw[jec hk]at h1;rw[List.getElem?_eq_getElem hk,(List.cons.inj h1).1]
theorem At.next{l:List UInt8}{p k:Nat}(h:At l p k)(hp:p<l.length):At l (p+(aP (l.drop p)).2) (k+1):=by
 have h1:=h.lt hp;have hw:=dB _ (jd hp);simp at hw
 refine⟨by omega,?_,?_,h.len hp⟩
 ·rw[yL h1]
 ·rw[yK h1,← h.2.2.1]
theorem At.end{l:List UInt8}{p k:Nat}(h:At l p k)(hp:¬ p<l.length):k=(V l).length/\p=l.length:=by
 have h1:=h.2.1;rw[jfa (by omega)]at h1;have h2:=jdB List.length h1;simp at h2
 have:=h.2.2.2;have:=h.1;exact⟨by omega,by omega⟩
theorem uX{l:List UInt8}{p k:Nat}(h:At l p k)(hp:p<l.length):((V l).take (k+1))=(V l).take k++[aP (l.drop p)]:=by
 have hk:=h.len hp;have hg:=h.get hp;rw[List.getElem?_eq_getElem hk]at hg;rw[jdM hk,Option.some.inj hg]
theorem Ar{l:List UInt8}(hl:l≠[])(h:(aP l).1=65533):([239,191,189]:List UInt8).isPrefixOf l=ok (aP l):=by
 rcases mt l hl with hu | ⟨hu,y,hy⟩
 ·rw[hu]
  cases hp:([239,191,189]:List UInt8).isPrefixOf l with
  | false=>rfl
  | true =>
   exfalso
   obtain⟨y,hy⟩:=jeI.1 hp
   have h2:aP l=(65533,3):=by
    rw[← hy];exact Cw 65533 (by simp[vr]) y
   rw[hu]at h2;cases h2
 ·rw[h]at hy
  have Zh:aP l=(65533,3):=by
   rcases hu with ⟨_,_,h2⟩ | h2
   ·exact absurd h h2
   ·exact h2
  rw[Zh,hy];have:dT 65533=[239,191,189]:=by decide
  rw[this];simp[ok]
theorem Cy(s:ByteArray)(p:Nat):Utf8.decode s p=aP (s.data.toList.drop p):=by
 have hg:∀ k,s.get! k=s.data.toList.getD k 0:=by
  intro k;show s.data[k]! = _
  by_cases h:k<s.data.size
  ·rw[getElem!_pos s.data k h,List.getD_eq_getElem?_getD,Array.getElem?_toList,Array.getElem?_eq_getElem h]
   rfl
  ·rw[getElem!_neg s.data k h,List.getD_eq_getElem?_getD,Array.getElem?_toList,Array.getElem?_eq_none (by omega)]
   rfl
 have hd:∀ k,(s.data.toList.drop p).getD k 0=s.data.toList.getD (p+k) 0:=by
  intro k;simp[List.getD_eq_getElem?_getD]
 rw[Lib.decode_at,hg,hg,hg,hg];unfold aP;have jw:(s.data.toList.drop p).length=s.size-p:=by rw[jd3];rfl
 rw[hd,hd,hd,hd,jw];rfl
open Go.Lib
def I64(x:Int):Prop:=-9223372036854775808<=x/\x<=9223372036854775807
theorem mu{n:Nat}(h:n<256):(n.toUInt8).toNat=n:=by
 show (UInt8.ofNat n).toNat=n
 rw[UInt8.toNat_ofNat'];omega
theorem ft{l:List Nat}(h:∀ x∈l,x<256):(l.map Nat.toUInt8).map UInt8.toNat=l:=by
 rw[jd8];conv=>rhs;rw[← jev l]
 apply jeq
 intro a ha;exact mu (h a ha)
abbrev Fd:=Nat×ByteArray×Nat×Bool
abbrev Cl:=Nat×Int×List Nat
def nul:Cl:=(0,0,[])
def Bs(l:List Nat):Prop:=∀ x∈l,x<256
def lb(s:ByteArray):List UInt8:=s.data.toList
theorem cJ(s:ByteArray):(lb s).length=s.size:=rfl
def gJ(c:Nat):Bool:=decide (97<=c/\c<=122) || decide (c=95) || decide (127<c)
def eB(c:Nat):Bool:=decide (48<=c/\c<=57)
def kR(k c:Nat):Bool:=gJ c || (eB c && decide (0<k))
def dQ:Nat->List (Nat×Nat)->Bool
 | _,[]=>true
 | k,x::t=>kR k x.1 && dQ (k+1) t
def named(s:ByteArray):Bool:=decide (1<=s.size/\s.size<=16) && dP (lb s) && dQ 0 (V (lb s))
def oW(l:List Fd)(n:ByteArray):Bool:=l.any fun f=>decide (f.2.1=n)
def uY(l:List Fd)(n:ByteArray):Bool:=named n && !oW l n
def eT(l:List Fd):Nat:=match l.getLast? with
 | none=>0
 | some f=>f.1
def kS(k:Nat):Bool:=decide (1<=k/\k<=3)
def gg(a:List Fd)(f:Fd):Nat :=
 if f.1<=eT a then 81 else if uY a f.2.1=false then 80 else if kS f.2.2.1=false then 10
 else if (f.2.2.2 != decide (a.length=0))=true∨(a.length=0/\f.2.2.1=2) then 82 else 0
def fe(a:List Fd):List Fd->Nat
 | []=>0
 | f::t=>if gg a f=0 then fe (a++[f]) t else gg a f
def chk(id:Nat)(l:List Fd):Nat:=if id=0∨l.length=0∨8<l.length then 1 else fe [] l
def qu(f:Fd)(c:Cl):Nat :=
 if c.1=0 then (if f.2.2.2=true then 82 else 0) else if c.1≠f.2.2.1 then 10 else if 64<c.2.2.length then 5 else 0
def qv:List Fd->List Cl->Nat
 | f::t,c::r=>if qu f c=0 then qv t r else qu f c
 | [],_=>0
 | _::_,[]=>0
def jK(l:List Fd)(r:List Cl):Nat:=if r.length≠l.length then 1 else qv l r
def km(id:Nat):Nat->List Fd->Option Nat
 | _,[]=>none
 | k,f::t=>if f.1=id then some k else km id (k+1) t
def iL(l:List Fd)(id:Nat):Option Nat:=km id 0 l
def Okf(f:Fd):Prop:=f.1<4294967296/\f.2.2.1<256
theorem Mh{l:List Fd}(h:0<l.length):eT l=(l[l.length-1]'(by omega)).1:=by
 unfold eT;rw[List.getLast?_eq_getElem?,List.getElem?_eq_getElem (by omega)]
theorem qw(l:List Fd)(f:Fd):eT (l++[f])=f.1:=by
 unfold eT;simp
theorem Ge{l:List Fd}{i:Nat}(h:i<l.length):eT (l.take (i+1))=l[i].1:=by
 rw[jdM h,qw]
theorem KQ{l:List Fd}{i:Nat}(h:i<l.length):fe (l.take i) (l.drop i)=if gg (l.take i) l[i]=0 then fe (l.take (i+1)) (l.drop (i+1)) else gg (l.take i) l[i]:=by
 rw[jec h,fe,jdM h]
theorem QM(l:List Fd):fe (l.take l.length) (l.drop l.length)=0:=by
 rw[jer];rfl
theorem yM{l:List Fd}{i:Nat}{n:ByteArray}(h:i<l.length):oW (l.drop i) n=(decide (l[i].2.1=n) || oW (l.drop (i+1)) n):=by
 rw[jec h];unfold oW;rw[List.any_cons]
theorem Cz{l:List Fd}{i id:Nat}(h:i<l.length):km id i (l.drop i)=if l[i].1=id then some i else km id (i+1) (l.drop (i+1)):=by
 rw[jec h,km]
theorem Gf(l:List Fd)(id:Nat):km id l.length (l.drop l.length)=none:=by rw[jer];rfl
theorem yN{id:Nat}:∀{l:List Fd} {k j:Nat},km id k l=some j->k<=j/\j<k+l.length
 | [],k,j,h=>by simp[km]at h
 | f::t,k,j,h=>by
  unfold km at h;by_cases hf:f.1=id
  ·rw[jdu hf]at h
   have:=Option.some.inj h;simp
   omega
  ·rw[jdt hf]at h
   have:=yN h;simp
   omega
theorem QN{l:List Fd}{id j:Nat}(h:iL l id=some j):j<l.length:=by have:=yN h;omega
theorem yO{l:List Fd}{r:List Cl}{i:Nat}(h:i<l.length)(h2:i<r.length):qv (l.drop i) (r.drop i)=if qu l[i] r[i]=0 then qv (l.drop (i+1)) (r.drop (i+1)) else qu l[i] r[i]:=by
 rw[jec h,jec h2,qv]
theorem CA(l:List Fd)(r:List Cl):qv (l.drop l.length) r=0:=by
 rw[jer];unfold qv;rfl
theorem pi{k:Nat}{x:Nat×Nat}{t:List (Nat×Nat)}:dQ k (x::t)=(kR k x.1 && dQ (k+1) t):=rfl
def Rise(l:List Fd):Prop:=l.Pairwise fun a b=>a.1<b.1
theorem KR:∀{l a:List Fd},fe a l=0->(∀ f∈a,f.1<=eT a)->(∀ f∈l,eT a<f.1)/\Rise l
 | [],a,_,_=>⟨fun f hf=>by simp at hf,List.Pairwise.nil⟩
 | g::t,a,h,ha=>by
  unfold fe at h;by_cases h0:gg a g=0
  ·rw[jdu h0]at h
   have hg:eT a<g.1:=by
    unfold gg at h0;by_cases h1:g.1<=eT a
    ·rw[jdu h1]at h0;omega
    ·omega
   have PA:=qw a g
   have ha2:∀ f∈a++[g],f.1<=eT (a++[g]):=by
    intro f hf;rw[PA];rcases jd2.1 hf with hf | hf
    ·have:=ha f hf;omega
    ·have:f=g:=by simpa using hf
     rw[this];exact jdw _
   obtain⟨h3,h4⟩:=KR h ha2;rw[PA]at h3;refine⟨fun f hf=>?_,?_⟩
   ·rcases jdN.1 hf with rfl | hf
    ·exact hg
    ·have:=h3 f hf;omega
   ·exact List.Pairwise.cons (fun f hf=>h3 f hf) h4
  ·rw[jdt h0]at h;exact absurd h h0
theorem qx{id:Nat}{l:List Fd}(h:chk id l=0):Rise l/\0<l.length/\l.length<=8/\0<id:=by
 unfold chk at h;by_cases h0:id=0∨l.length=0∨8<l.length
 ·rw[jdu h0]at h;omega
 ·rw[jdt h0]at h
  refine⟨(KR h (fun f hf=>by simp at hf)).2,by omega,by omega,by omega⟩
theorem qy{l:List Fd}{row:List Cl}(h:jK l row=0):row.length=l.length:=by
 unfold jK at h;by_cases hl:row.length≠l.length
 ·rw[jdu hl]at h;omega
 ·omega
def ak(l:List Nat):ByteArray:=⟨(l.map Nat.toUInt8).toArray⟩
def da(s:ByteArray):List Nat:=s.toList.map UInt8.toNat
theorem bE(l:List Nat):(ak l).toList=l.map Nat.toUInt8:=by
 rw[ByteArray.toList_eq];rfl
theorem bg(l:List Nat):(ak l).size=l.length:=by
 show (l.map Nat.toUInt8).toArray.size=l.length
 simp
theorem en:ak []=⟨#[]⟩:=rfl
theorem CC(s:ByteArray):Bs (da s):=fun x hx=>by
 obtain⟨y,_,rfl⟩:=jdR.1 hx;exact y.toNat_lt
theorem iQ(s:ByteArray):(da s).length=s.size:=by
 unfold da;rw[jdz,ByteArray.toList_eq];rfl
theorem tA(s:ByteArray):ak (da s)=s:=by
 have h:(da s).map Nat.toUInt8=s.toList:=by
  unfold da;rw[jd8];conv=>rhs;rw[← jev s.toList]
  apply jeq
  intro x _;simp
 unfold ak;rw[h,ByteArray.toList_eq]
def eU(b:Bool):Nat:=if b=true then 1 else 0
def szs(l:List Fd):Nat:=(l.map fun f=>f.2.1.size).sum
theorem xU{l:List Fd}{i:Nat}(h:i<l.length):szs (l.take (i+1))=szs (l.take i)+l[i].2.1.size:=by
 unfold szs;rw[jdM h,jdQ,List.sum_append];simp only[jd5,jes,List.sum_cons,List.sum_nil,jej]
theorem KS{l:List Fd}{f:Fd}(h:f∈l):f.2.1.size<=szs l:=by
 induction l with
 | nil=>simp at h
 | cons g t ih =>
  unfold szs at *;simp only[jd5,List.sum_cons];rcases jdN.1 h with rfl | h
  ·omega
  ·have:=ih h;omega
theorem tB(l:List Fd)(i:Nat):szs (l.take i)<=szs l:=by
 have:szs l=szs (l.take i)+szs (l.drop i):=by
  conv=>lhs;rw[← jeP i l]
  unfold szs;rw[jdQ,List.sum_append]
 omega
theorem Bs.app{a b:List Nat}(ha:Bs a)(hb:Bs b):Bs (a++b):=fun x hx=>by
 rcases jd2.1 hx with h | h
 ·exact ha x h
 ·exact hb x h
theorem Bs.drop{a:List Nat}(ha:Bs a)(k:Nat):Bs (a.drop k):=fun x hx=>ha x (jfb hx)
theorem Bs.take{a:List Nat}(ha:Bs a)(k:Nat):Bs (a.take k):=fun x hx=>ha x (jek hx)
def textR(n:Nat)(r:List Nat):Except Nat (ByteArray×List Nat):=if r.length<n then .error 30 else .ok (ak (r.take n),r.drop n)
def Rds{α : Type}(m:List Nat->Except Nat (α×List Nat))(l:List Nat)(f:Nat)(x:α)(l':List Nat)(f':Nat):Prop :=
 (f=0->m l=if f'=0 then .ok (x,l') else .error f')/\(f≠0->f'=f)
theorem Rds.pure{α : Type}(x:α)(l:List Nat)(f:Nat):Rds (fun b=>.ok (x,b)) l f x l f:=by
 refine⟨fun h0=>?_,fun _=>rfl⟩;rw[jdu h0]
theorem Rds.dead{α : Type}{m:List Nat->Except Nat (α×List Nat)}{l l':List Nat}{f:Nat}(x:α)(h:f≠0):Rds m l f x l' f:=⟨fun h0=>absurd h0 h,fun _=>rfl⟩
def As{α : Type}(m:List Nat->Except Nat (α×List Nat))(e:List Nat)(x:α):Prop:=∀ r,m (e++r)=.ok (x,r)∨∃ c,c≠0/\m (e++r)=.error c
def um{α : Type}(m:List Nat->Except Nat (α×List Nat))(e:List Nat)(x:α):Prop:=∀ r,m (e++r)=.ok (x,r)
theorem uZ(s:ByteArray):um (textR s.size) (da s) s:=by
 intro r;unfold textR;have hl:=iQ s;rw[jdt (by simp;omega),← hl,jet,jed,tA]
theorem um.eith{α : Type}{m:List Nat->Except Nat (α×List Nat)}{e:List Nat}{x:α}(h:um m e x):As m e x:=fun r=>Or.inl (h r)
theorem yP{α : Type}(x:α):um (fun b=>.ok (x,b)) [] x:=fun r=>rfl
theorem CD(b:Bool):decide (eU b=1)=b:=by cases b<;>rfl
theorem qz:∀{l a:List Fd},fe a l=0->∀ f∈l,f.2.1.size<=16
 | [],a,_,f,hf=>by simp at hf
 | g::t,a,h,f,hf=>by
  unfold fe at h;by_cases h0:gg a g=0
  ·rw[jdu h0]at h
   rcases jdN.1 hf with rfl | hf
   ·unfold gg at h0
    by_cases h1:f.1<=eT a
    ·rw[jdu h1]at h0;omega
    ·rw[jdt h1]at h0
     by_cases h2:uY a f.2.1=false
     ·rw[jdu h2]at h0;omega
     ·have h3:uY a f.2.1=true:=by simpa using h2
      unfold uY named at h3;simp at h3
      omega
   ·exact qz h f hf
  ·rw[jdt h0]at h;exact absurd h h0
open Go.RowKit
theorem ae{p:Prop}(h:p):jfp p:=h
def aF(k:IntKind)(l:List Nat):List Value:=l.map fun(n:Nat)=>Value.int k (n:Int)
theorem cd(k:IntKind)(a b:List Nat):aF k (a++b)=aF k a++aF k b:=jdQ
theorem ar(k:IntKind)(a:List Nat):(aF k a).length=a.length:=jdz _
theorem bU{k:IntKind}{l:List Nat}{j:Nat}(h:j<l.length):(aF k l)[j]?=some (.int k (l[j]:Int)):=by simp[aF,h]
theorem kn(k:IntKind)(l:List Nat)(j c:Nat):(aF k l).set j (.int k (c:Int))=aF k (l.set j c):=by simp[aF,List.map_set]
theorem fU(k:IntKind)(l:List Nat):∀ u∈aF k l,u.oneCell'=true:=by
 intro u hu;obtain⟨b,_,rfl⟩:=jdR.1 hu;rfl
theorem jk:(Tryz.prog.info? 5).map (fun i=>(i.zero,i.size,i.bytes))=some (some (.int .u8 0),1,1):=by kernel_rfl
theorem mv(g j:Nat):(⟨g,0,none⟩:Addr).add j=⟨g,j,none⟩:=by unfold Addr.add;split<;>simp_all
theorem nh(b off j:Nat):(⟨b,off,none⟩:Addr).add j=⟨b,off+j,none⟩:=by unfold Addr.add;split<;>simp_all
theorem bL{w w':World}{B e size n:Nat}{v:Value}{xs:List Value}(h:w.ownsRow B e size v n xs)(hb:Below w.heap.size w w'):w'.ownsRow B e size v n xs:=by
 obtain⟨hl,h⟩:=h;refine⟨hl,?_⟩;rcases h with h | ⟨g,cap,cur,h1,h2,h3,h4⟩
 ·exact Or.inl h
 ·have hg:g<w.heap.size:=by
   rcases jdY g w.heap.size with hg | hg
   ·exact hg
   ·rw[Array.getElem?_eq_none hg]at h3;cases h3
  exact Or.inr ⟨g,cap,cur,h1,h2,(hb.block g hg).trans h3,h4⟩
def Sx(k:IntKind)(W:World)(v:Value)(l:List Nat):Prop :=
 ∃ a cap,v=.slice a l.length cap/\l.length<=maxLen /\
  (0<l.length->∃ b off,a=some ⟨b,off,none⟩/\b<W.heap.size/\∀ j (h:j<l.length),W.cell? ⟨b,off+j,none⟩=some (.int k (l[j]:Int)))
theorem Sx.kept{k:IntKind}{W W':World}{v:Value}{l:List Nat}(h:Sx k W v l)(hb:Below W.heap.size W W'):Sx k W' v l:=by
 obtain⟨a,cap,rfl,h1,h3⟩:=h;refine⟨a,cap,rfl,h1,fun h0=>?_⟩;obtain⟨b,off,rfl,h4,h5⟩:=h3 h0;exact⟨b,off,rfl,jdS h4 hb.size,fun j hj=>(hb.cell (p:=⟨b,off+j,none⟩) h4).trans (h5 j hj)⟩
theorem Sx.of_own{k:IntKind}{W:World}{B e n:Nat}{v:Value}{l:List Nat}(h:W.ownsRow B e 1 v n (aF k l)):Sx k W v l:=by
 have hl:l.length=n:=by have:=h.1;simpa [aF]using this
 obtain⟨_,h1⟩:=id h;rcases h1 with ⟨rfl,rfl⟩ | ⟨g,cap,cur,rfl,hb,hg,h4,h5,_⟩
 ·exact⟨none,0,by rw[hl],by unfold maxLen;omega,fun h0=>by omega⟩
 ·refine⟨_,cap,by rw[hl],by omega,fun _=>⟨g,0,rfl,(Array.getElem?_eq_some_iff.1 hg).1,fun j hj=>?_⟩⟩
  have:=h.cells (g:=g) rfl j _ (bU hj);rw[mv]at this;rwa[jdZ]
def txt(l:List Nat):Value:=.string ⟨(l.map Nat.toUInt8).toArray⟩
theorem Sx.conv{W:World}{v:Value}{l:List Nat}(h:Sx .u8 W v l)(h8:∀ x∈l,x<256):(convert 30 9 v).run Tryz.prog W=.ok (txt l) W:=by
 obtain⟨a,cap,rfl,h1,h3⟩:=h;rcases jel l.length with h0 | hp
 ·obtain rfl:l=[]:=jdV h0
  first
   | exact run_convert_bytes_back_empty W 30 9 5 a cap Tryz.underlying30 Tryz.underlying5 Tryz.underlying9
   | (cases a<;>rfl)
   | (cases a<;>kernel_rfl)
 ·obtain⟨b,off,rfl,h4,h5⟩:=h3 hp
  have:=run_convert_bytes_back W 30 9 5 ⟨b,off,none⟩ cap (l.map Nat.toUInt8) Tryz.underlying30 Tryz.underlying5 Tryz.underlying9 (fun j hj=>by
   have hj':j<l.length:=by simpa using hj
   rw[nh,h5 j hj'];have h9:=h8 l[j] (jdA hj');congr 2
   simp[jen h9])
  rw[jdz]at this;exact this
theorem Sx.lit{k:IntKind}(w:World)(l:List Nat)(e:Nat)(hl:l.length<=maxLen):Sx k (w.alloc (.cells (aF k l).toArray e)) (.slice (some ⟨w.heap.size,0,none⟩) l.length l.length) l:=by
 have:=jeG (e:=e) (size:=1) w (aF k l).toArray l.length (base:=0) (jeh _) hl (by simp[aF]);exact Sx.of_own this
def aX(l:List UInt8):List Value:=l.map fun b=>Value.int .u8 (b.toNat:Int)
theorem jz(a b:List UInt8):aX (a++b)=aX a++aX b:=jdQ
theorem mV(a:List UInt8):(aX a).length=a.length:=jdz _
theorem Au{l:List UInt8}{j:Nat}(h:j<l.length):(aX l)[j]?=some (.int .u8 (l[j].toNat:Int)):=by simp[aX,h]
theorem sk{w:World}{B e n:Nat}{v:Value}{xs:List Value}(h:w.ownsRow B e 1 v n xs):(∃ ad cap,v=.slice ad n cap/\∀ g,ad=some g->g.spot=none)/\(0<n->∃ g cap,v=.slice (some ⟨g,0,none⟩) n cap/\g<w.heap.size/\B<=g/\∀ j x,xs[j]?=some x->w.cell? ⟨g,j,none⟩=some x):=by
 obtain⟨hl,h1⟩:=id h;rcases h1 with ⟨rfl,rfl⟩ | ⟨g,cap,cur,rfl,hb,hg,h4⟩
 ·exact⟨⟨none,0,rfl,fun g hg=>by cases hg⟩,fun h=>by omega⟩
 ·refine⟨⟨_,cap,rfl,fun x hx=>by cases hx;rfl⟩,fun _=>⟨g,cap,rfl,(Array.getElem?_eq_some_iff.1 hg).1,hb,fun j x hx=>?_⟩⟩
  have:=h.cells (g:=g) rfl j x hx;have Ke:(⟨g,0,none⟩:Addr).add j=⟨g,j,none⟩:=by unfold Addr.add;split<;>simp_all
  rwa[Ke]at this
theorem jL{x:Nat}(h:x<256):aX [x.toUInt8]=[.int .u8 (x:Int)]:=by
 simp only[aX,jd5,jes,mu h]
theorem sp(l:List UInt8):∀ u∈aX l,u.oneCell'=true:=by
 intro u hu;obtain⟨b,_,rfl⟩:=jdR.1 hu;rfl
def Sl(W:World)(v:Value)(l:List UInt8):Prop :=
 ∃ a cap,v=.slice a l.length cap/\l.length<=cap/\cap<=maxLen /\
  (0<l.length->∃ b off,a=some ⟨b,off,none⟩/\b<W.heap.size/\∀ j (h:j<l.length),W.cell? ⟨b,off+j,none⟩=some (.int .u8 (l[j].toNat:Int)))
end Go.Proofs.YtpljdjmpamjkhaaGreatDoor
