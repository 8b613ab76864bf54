import Derived.Lib.DecodeN
import Derived.Test.YtpljdjmpamjkhaaGreatDoorProg
import Derived.WalkLawsBesides
import Derived.WalkSpells
import Derived.BigQuiet
import Derived.Deep.RegionHeld3
set_option linter.unusedVariables false
set_option linter.unusedSimpArgs false
set_option maxHeartbeats 1000000
set_option maxRecDepth 100000
namespace Go.Proofs.YtpljdjmpamjkhaaGreatDoor
open Go.RowKit Go.Lib
def jfb(p:Prop):Prop:=p
theorem jfb.o{p:Prop}(h:jfb p):p:=h
abbrev jde:=@if_neg
abbrev jdf:=@if_pos
abbrev jdg:=@Below.refl
abbrev jdh:=@Nat.le_refl
abbrev jdi:=@World.size_alloc
abbrev jdj:=@List.length_append
abbrev jdk:=@List.length_map
abbrev jdl:=@List.getElem_mem
abbrev jdm:=@congrArg
abbrev jdn:=@List.length_cons
abbrev jdo:=@List.length_take
abbrev jdp:=@List.take_length
abbrev jdq:=@Nat.le_trans
abbrev jdr:=@List.set_cons_zero
abbrev jds:=@decide_eq_false
abbrev jdt:=@beq_eq_false_iff_ne
abbrev jdu:=@List.set_cons_succ
abbrev jdv:=@List.setIfInBounds_toArray
abbrev jdw:=@List.append_assoc
abbrev jdx:=@List.take_succ_eq_append_getElem
abbrev jdy:=@decide_eq_true
abbrev jdz:=@List.mem_cons
abbrev jdA:=@info_parts
abbrev jdB:=@List.append_nil
abbrev jdC:=@List.map_append
abbrev jdD:=@Nat.lt_of_lt_of_le
abbrev jdE:=@List.mem_map
abbrev jdF:=@List.eq_nil_of_length_eq_zero
abbrev jdG:=@Nat.le_of_lt
abbrev jdH:=@heap_alloc_new
abbrev jdI:=@List.length_nil
abbrev jdJ:=@Nat.lt_or_ge
abbrev jdK:=@Nat.zero_add
abbrev jdL:=@IntKind.wrap_u64
abbrev jdM:=@Int.toNat_natCast
abbrev jdN:=@List.length_drop
abbrev jdO:=@List.mem_append
abbrev jdP:=@Nat.mul_comm
abbrev jdQ:=@List.map_cons
abbrev jdR:=@IntKind.wrap_i64
abbrev jdS:=@List.length_singleton
abbrev jdT:=@List.map_map
abbrev jdU:=@wpList_append_own_at
abbrev jdV:=@Nat.add_mul
abbrev jdW:=@Nat.lt_trans
abbrev jdX:=@List.drop_eq_getElem_cons
abbrev jdY:=@List.drop_left
abbrev jdZ:=@List.take_of_length_le
abbrev jd0:=@List.getD_cons_zero
abbrev jd1:=@Nat.zero_le
abbrev jd2:=@decide_eq_true_eq
abbrev jd3:=@List.mem_of_mem_take
abbrev jd4:=@Nat.eq_zero_or_pos
abbrev jd5:=@List.mem_singleton
abbrev jd6:=@List.cons_append
abbrev jd7:=@Nat.mod_eq_of_lt
abbrev jd8:=@World.ownsRow_nil
abbrev jd9:=@Nat.add_zero
abbrev jea:=@Nat.two_pow_pos
abbrev jeb:=@List.drop_length
abbrev jec:=@List.take_left
abbrev jed:=@List.map_nil
abbrev jee:=@List.nil_append
abbrev jef:=@List.map_congr_left
abbrev jeg:=@Nat.min_eq_left
abbrev jeh:=@Nat.pow_add
abbrev jei:=@Nat.mul_le_mul_left
abbrev jej:=@List.pairwise_cons
abbrev jek:=@wpList_make_full
abbrev jel:=@List.map_id
abbrev jem:=@Nat.one_mul
abbrev jen:=@Nat.xor_assoc
abbrev jeo:=@Nat.add_assoc
abbrev jep:=@Nat.mul_add
abbrev jeq:=@Option.map_some
abbrev jer:=@World.ownsRow_lit
abbrev jes:=@List.map_toArray
abbrev jet:=@List.flatMap_append
abbrev jeu:=@List.isPrefixOf_iff_prefix
abbrev jev:=@Nat.mul_assoc
abbrev jew:=@Nat.pow_le_pow_right
abbrev jex:=@List.mem_cons_of_mem
abbrev jey:=@List.range_succ
abbrev jez:=@List.getD_cons_succ
abbrev jeA:=@List.flatMap_cons
abbrev jeB:=@List.flatten_cons
abbrev jeC:=@List.length_set
abbrev jeD:=@List.take_append_drop
abbrev jeE:=@List.map_take
abbrev jeF:=@List.take_zero
abbrev jeG:=@Nat.mul_one
abbrev jeH:=@Nat.sub_self
abbrev jeI:=@Bool.eq_iff_iff
abbrev jeJ:=@run_append_owned_none
abbrev jeK:=@toList_madeCells_one
abbrev jeL:=@decide_eq_false_iff_not
abbrev jeM:=@run_eql_slice_nil
abbrev jeN:=@List.drop_drop
abbrev jeO:=@List.mem_of_mem_drop
abbrev jeP:=@Nat.mul_le_mul
abbrev jeQ:=@List.lt_irrefl
abbrev jeR:=@List.length_filter_le
abbrev jeS:=@Int.eq_ofNat_of_zero_le
abbrev jeT:=@List.pairwise_iff_getElem
abbrev jeU:=@List.filter_append
abbrev jeV:=@List.getElem_cons_zero
abbrev jeW:=@List.flatten_append
abbrev jeX:=@List.drop_eq_nil_of_le
abbrev jeY:=@List.not_mem_nil
abbrev jeZ:=@List.take_succ_cons
abbrev je0:=@Nat.lt_of_le_of_lt
abbrev je1:=@List.eq_of_mem_replicate
abbrev je2:=@List.mem_filter
abbrev je3:=@Nat.xor_lt_two_pow
abbrev je4:=@List.length_range
abbrev je5:=@List.filter_cons
abbrev je6:=@List.getElem_append_left
abbrev je7:=@Nat.div_div_eq_div_mul
abbrev je8:=@Option.bind_eq_some_iff
abbrev je9:=@Nat.add_sub_cancel
abbrev jfa:=@List.mem_take_iff_getElem
open Go
open Go.Lib (decodeN)
def aP(l:List UInt8):Nat×Nat:=decodeN l.length (l.getD 0 0).toNat (l.getD 1 0).toNat (l.getD 2 0).toNat (l.getD 3 0).toNat
def vr(c:Nat):Prop:=c<55296∨(57344<=c/\c<=1114111)
def bt(n:Nat):UInt8:=UInt8.ofNat n
theorem cB{n:Nat}(h:n<256):(bt n).toNat=n:=by
 simp[bt];omega
def dQ(c:Nat):List UInt8 :=
 if c<128 then [bt c]
 else if c<2048 then [bt (192+c / 64),bt (128+c % 64)]
 else if c<65536 then [bt (224+c / 4096),bt (128+c / 64 % 64),bt (128+c % 64)]
 else [bt (240+c / 262144),bt (128+c / 4096 % 64),bt (128+c / 64 % 64),bt (128+c % 64)]
theorem LZ(c:Nat)(h:vr c):(Utf8.encode (c:Int)).data.toList=dQ c:=by
 have hv:Utf8.valid (c:Int)=true:=by
  simp only[Utf8.valid,vr]at *;rcases h with h | h
  ·simp;omega
  ·simp;omega
 simp only[Utf8.encode,hv,if_true,jdM,dQ];repeat' split
 all_goals rfl
theorem ig(c:Nat):1<=(dQ c).length/\(dQ c).length<=4:=by
 unfold dQ;repeat' split
 all_goals simp
theorem VU(l:List UInt8)(k:Nat):(l.getD k 0).toNat<256:=UInt8.toNat_lt _
theorem CC(c:Nat)(h:vr c)(y:List UInt8):aP (dQ c++y)=(c,(dQ c).length):=by
 unfold vr at h;unfold dQ;split
 ·simp only[aP,jd6,jee,jd0,jdn]
  rw[cB (by omega)];simp only[decodeN];rw[jdf (by omega)];rfl
 ·split
  ·simp only[aP,jd6,jee,jd0,jez,jdn]
   rw[cB (by omega),cB (by omega)];simp only[decodeN];rw[jde (by omega),jdf (by omega),jdf (by omega)];congr 1
   omega
  ·split
   ·simp only[aP,jd6,jee,jd0,jez,jdn]
    rw[cB (by omega),cB (by omega),cB (by omega)];simp only[decodeN];rw[jde (by omega),jde (by omega),jdf (by omega),jdf (by omega)];congr 1
    omega
   ·simp only[aP,jd6,jee,jd0,jez,jdn]
    rw[cB (by omega),cB (by omega),cB (by omega),cB (by omega)];simp only[decodeN];rw[jde (by omega),jde (by omega),jde (by omega),jdf (by omega),jdf (by omega)];congr 1
    omega
theorem pe(x:UInt8)(n:Nat)(h:x.toNat=n):x=bt n:=by
 subst h;simp[bt]
def ok(u:Nat×Nat):Bool:=!(u.1==65533 && u.2==1)
theorem iP{c w:Nat}(h:w≠1):ok (c,w)=true:=by simp[ok,h]
theorem mn(l:List UInt8)(hl:l≠[]):aP l=(65533,1)∨(vr (aP l).1/\(aP l).2=(dQ (aP l).1).length/\(aP l).1≠65533∨aP l=(65533,3))/\∃ y,l=dQ (aP l).1++y:=by
 match l,hl with
 | b0::t,_ =>
  have h0:b0.toNat<256:=UInt8.toNat_lt _;by_cases ha:b0.toNat<128
  ·right
   have hu:aP (b0::t)=(b0.toNat,1):=by simp only[aP,jd0,decodeN];rw[jdf ha]
   rw[hu];have he:dQ b0.toNat=[b0]:=by simp only[dQ];rw[jdf ha,← pe b0 _ rfl]
   refine⟨Or.inl ⟨Or.inl (by show b0.toNat<55296;omega),by simp[he],by simp;omega⟩,t,by simp[he]⟩
  ·by_cases h2:194<=b0.toNat/\b0.toNat<224
   ·cases t with
    | nil=>left;simp only[aP,decodeN,jd0,jdn,jdI];rw[jde ha,jde (by omega),jde (by omega),jde (by omega)]
    | cons b1 t =>
     have h1:b1.toNat<256:=UInt8.toNat_lt _;by_cases hc:b1.toNat / 64=2
     ·right
      have hu:aP (b0::b1::t)=(b0.toNat % 32*64+b1.toNat % 64,2):=by simp only[aP,jd0,jez,jdn,decodeN];rw[jde ha,jdf (by omega),jdf (by omega)]
      rw[hu]
      have he:dQ (b0.toNat % 32*64+b1.toNat % 64)=[b0,b1]:=by
       simp only[dQ];rw[jde (by omega),jdf (by omega),← pe b0 _ (by omega),← pe b1 _ (by omega)]
      refine⟨Or.inl ⟨Or.inl (by simp only;omega),by simp[he],by simp only;omega⟩,t,by simp[he]⟩
     ·left
      simp only[aP,jd0,jez,jdn,decodeN];rw[jde ha,jde (by omega),jde (by omega),jde (by omega)]
   ·by_cases h3:224<=b0.toNat/\b0.toNat<240
    ·match t with
     | []=>left;simp only[aP,decodeN,jd0,jdn,jdI];rw[jde ha,jde (by omega),jde (by omega),jde (by omega)]
     | [b1]=>left;simp only[aP,decodeN,jd0,jdn,jdI];rw[jde ha,jde (by omega),jde (by omega),jde (by omega)]
     | b1::b2::t =>
      have h1:b1.toNat<256:=UInt8.toNat_lt _;have h2':b2.toNat<256:=UInt8.toNat_lt _;generalize hn:b0.toNat % 16*4096+b1.toNat % 64*64+b2.toNat % 64=n;by_cases hc:b1.toNat / 64=2/\b2.toNat / 64=2/\n>=2048/\(n<55296∨(57344<=n/\n<=1114111))
      ·right
       have hu:aP (b0::b1::b2::t)=(n,3):=by simp only[aP,jd0,jez,jdn,decodeN];rw[hn,jde ha,jde (by omega),jdf (by omega),jdf (by omega)]
       rw[hu]
       have he:dQ n=[b0,b1,b2]:=by
        simp only[dQ];rw[jde (by omega),jde (by omega),jdf (by omega),← pe b0 _ (by omega),← pe b1 _ (by omega),← pe b2 _ (by omega)]
       refine⟨?_,t,by simp[he]⟩;by_cases fQ:n=65533
       ·right;rw[fQ]
       ·exact Or.inl ⟨by simp only[vr];omega,by simp[he],fQ⟩
      ·left
       simp only[aP,jd0,jez,jdn,decodeN];rw[hn,jde ha,jde (by omega)];split
       ·rw[jde (by omega)]
       ·rw[jde (by omega)]
    ·by_cases h4:240<=b0.toNat/\b0.toNat<248
     ·match t with
      | []=>left;simp only[aP,decodeN,jd0,jdn,jdI];rw[jde ha,jde (by omega),jde (by omega),jde (by omega)]
      | [b1]=>left;simp only[aP,decodeN,jd0,jdn,jdI];rw[jde ha,jde (by omega),jde (by omega),jde (by omega)]
      | [b1,b2]=>left;simp only[aP,decodeN,jd0,jdn,jdI];rw[jde ha,jde (by omega),jde (by omega),jde (by omega)]
      | b1::b2::b3::t =>
       have h1:b1.toNat<256:=UInt8.toNat_lt _;have h2':b2.toNat<256:=UInt8.toNat_lt _;have h3':b3.toNat<256:=UInt8.toNat_lt _;generalize hn:b0.toNat % 8*262144+b1.toNat % 64*4096+b2.toNat % 64*64+b3.toNat % 64=n;by_cases hc:b1.toNat / 64=2/\b2.toNat / 64=2/\b3.toNat / 64=2/\n>=65536/\(n<55296∨(57344<=n/\n<=1114111))
       ·right
        have hu:aP (b0::b1::b2::b3::t)=(n,4):=by simp only[aP,jd0,jez,jdn,decodeN];rw[hn,jde ha,jde (by omega),jde (by omega),jdf (by omega),jdf (by omega)]
        rw[hu]
        have he:dQ n=[b0,b1,b2,b3]:=by
         simp only[dQ];rw[jde (by omega),jde (by omega),jde (by omega),← pe b0 _ (by omega),← pe b1 _ (by omega),← pe b2 _ (by omega),← pe b3 _ (by omega)]
        refine⟨?_,t,by simp[he]⟩;exact Or.inl ⟨by simp only[vr];omega,by simp[he],by omega⟩
       ·left
        simp only[aP,jd0,jez,jdn,decodeN];rw[hn,jde ha,jde (by omega),jde (by omega)];split
        ·rw[jde (by omega)]
        ·rfl
     ·left
      simp only[aP,jd0,decodeN];rw[jde ha];split
      ·rw[jde (by have:=VU (b0::t) 1;omega)]
      ·rw[jde (by omega),jde (by omega)]
theorem dz(l:List UInt8)(hl:l≠[]):1<=(aP l).2/\(aP l).2<=l.length:=by
 have tq:1<=l.length:=by cases l with | nil=>exact absurd rfl hl | cons=>simp
 rcases mn l hl with h | ⟨h,y,hy⟩
 ·rw[h];exact⟨jdh _,tq⟩
 ·rcases h with ⟨_,h,_⟩ | h
  ·have:=ig (aP l).1
   have bR:=jdm List.length hy;simp at bR
   omega
  ·have bR:=jdm List.length hy
   rw[h]at bR ⊢;have:(dQ 65533).length=3:=by decide
   simp[this]at bR
   simp
   omega
theorem KM(l:List UInt8)(hl:l≠[]):vr (aP l).1:=by
 rcases mn l hl with h | ⟨⟨h,_⟩ | h,_⟩
 ·rw[h];simp[vr]
 ·exact h
 ·rw[h];simp[vr]
def us:Nat->List UInt8->List (Nat×Nat)
 | 0,_=>[]
 | _+1,[]=>[]
 | f+1,b::t=>aP (b::t)::us f ((b::t).drop (aP (b::t)).2)
def V(l:List UInt8):List (Nat×Nat):=us l.length l
theorem VV:∀(f:Nat) (l:List UInt8),l.length<=f->∀ g,l.length<=g->us f l=us g l:=by
 intro f;induction f with
 | zero=>intro l h g hg;cases l with | nil=>cases g<;>rfl | cons=>simp at h
 | succ f ih =>
  intro l h g hg;cases l with
  | nil=>cases g<;>rfl
  | cons b t =>
   cases g with
   | zero=>simp at hg
   | succ g =>
    have hw:=dz (b::t) (by simp);simp only[us];congr 1
    simp at h hg hw
    exact ih _ (by simp;omega) _ (by simp;omega)
@[simp] theorem V_nil:V []=[]:=rfl
theorem pH{l:List UInt8}(hl:l≠[]):V l=aP l::V (l.drop (aP l).2):=by
 cases l with
 | nil=>exact absurd rfl hl
 | cons b t =>
  have hw:=dz (b::t) (by simp);show us (t.length+1) (b::t)=_
  simp only[us];congr 1
  simp at hw
  exact VV _ _ (by simp;omega) _ (by simp)
theorem Qu:∀(n:Nat) (l:List UInt8),l.length<=n->(V l).length<=l.length:=by
 intro n;induction n with
 | zero=>intro l h;cases l with | nil=>simp | cons=>simp at h
 | succ n ih =>
  intro l h;by_cases hl:l=[]
  ·subst hl;simp
  ·rw[pH hl]
   have hw:=dz l hl;have:=ih (l.drop (aP l).2) (by simp;omega);simp at this ⊢
   omega
theorem CD(l:List UInt8):(V l).length<=l.length:=Qu _ l (jdh _)
theorem VW:∀(n:Nat) (l:List UInt8),l.length<=n->∀ u∈V l,vr u.1/\1<=u.2:=by
 intro n;induction n with
 | zero=>intro l h;cases l with | nil=>simp | cons=>simp at h
 | succ n ih =>
  intro l h u hu;by_cases hl:l=[]
  ·subst hl;simp at hu
  ·rw[pH hl]at hu
   have hw:=dz l hl;simp at hu
   rcases hu with rfl | hu
   ·exact⟨KM l hl,hw.1⟩
   ·exact ih _ (by simp;omega) u hu
theorem ZS(c:Nat)(y:List UInt8):dQ c++y≠[]:=by
 have:=ig c;intro h;have h2:=jdm List.length h;simp at h2
 rw[h2.1]at this;simp at this
theorem V_enc{c:Nat}(h:vr c)(y:List UInt8):V (dQ c++y)=(c,(dQ c).length)::V y:=by
 rw[pH (ZS c y),CC c h y];simp
def eu(c:Nat):Nat×Nat:=(c,(dQ c).length)
def lE(rs:List Nat):List UInt8:=rs.flatMap dQ
@[simp] theorem flat_nil:lE []=[]:=rfl
@[simp] theorem flat_cons (c:Nat) (rs:List Nat):lE (c::rs)=dQ c++lE rs:=rfl
@[simp] theorem flat_append (a b:List Nat):lE (a++b)=lE a++lE b:=by simp[lE]
theorem ZT(rs:List Nat)(h:∀ r∈rs,vr r)(y:List UInt8):V (lE rs++y)=rs.map eu++V y:=by
 induction rs with
 | nil=>rfl
 | cons c rs ih =>
  rw[flat_cons,jdw,V_enc (h c (by simp))];rw[ih (fun r hr=>h r (by simp[hr]))];rfl
def dK(l:List UInt8):Bool:=(V l).all ok
def iH(l:List UInt8):List Nat:=(V l).map Prod.fst
theorem Au(rs:List Nat)(h:∀ r∈rs,vr r):V (lE rs)=rs.map eu:=by
 have:=ZT rs h [];simpa using this
theorem VX{l:List UInt8}(hl:l≠[])(ho:ok (aP l)=true):aP l=eu (aP l).1/\∃ y,l=dQ (aP l).1++y:=by
 rcases mn l hl with h | ⟨h,y,hy⟩
 ·rw[h]at ho;simp[ok]at ho
 ·refine⟨?_,y,hy⟩
  rcases h with ⟨_,h,_⟩ | h
  ·exact Prod.ext rfl h
  ·rw[h];decide
theorem lp:∀(n:Nat) (l:List UInt8),l.length<=n->dK l=true->l=lE (iH l)/\V l=(iH l).map eu:=by
 intro n;induction n with
 | zero=>intro l h hc;cases l with | nil=>exact⟨rfl,rfl⟩ | cons=>simp at h
 | succ n ih =>
  intro l h hc;by_cases hl:l=[]
  ·subst hl;exact⟨rfl,rfl⟩
  ·have hw:=dz l hl
   unfold dK at hc;rw[pH hl,List.all_cons,Bool.and_eq_true]at hc;obtain⟨hu,y,hy⟩:=VX hl hc.1
   have hd:l.drop (aP l).2=y:=by
    have h2:(aP l).2=(dQ (aP l).1).length:=jdm Prod.snd hu;rw[h2];conv=>lhs;arg 2;rw[hy]
    simp
   obtain⟨e1,e2⟩:=ih (l.drop (aP l).2) (by simp;omega) hc.2
   have hr:iH l=(aP l).1::iH (l.drop (aP l).2):=by
    unfold iH;rw[pH hl];rfl
   rw[hr];constructor
   ·rw[flat_cons,← e1,hd];exact hy
   ·rw[pH hl,e2,jdQ,← hu]
theorem Qv{l:List UInt8}(h:dK l=true):l=lE (iH l):=(lp _ l (jdh _) h).1
theorem Av{l:List UInt8}(h:dK l=true):V l=(iH l).map eu:=(lp _ l (jdh _) h).2
theorem Qw(l:List UInt8):∀ r∈iH l,vr r:=by
 intro r hr;simp[iH]at hr
 obtain⟨w,hw⟩:=hr;exact(VW _ l (jdh _) _ hw).1
def eJ(u:List (Nat×Nat))(k:Nat):Nat:=((u.take k).map Prod.snd).sum
@[simp] theorem offs_zero (u:List (Nat×Nat)):eJ u 0=0:=by simp[eJ]
theorem yL{u t:List (Nat×Nat)}{k:Nat}{x:Nat×Nat}(h:u.drop k=x::t):eJ u (k+1)=eJ u k+x.2:=by
 have hk:k<u.length:=by
  rcases jdJ k u.length with h1 | h1
  ·exact h1
  ·rw[jeX h1]at h;cases h
 have hx:u[k]=x:=by
  rw[jdX hk]at h;exact(List.cons.inj h).1
 unfold eJ;rw[jdx hk,hx];simp
theorem yM{u t:List (Nat×Nat)}{k:Nat}{x:Nat×Nat}(h:u.drop k=x::t):u.drop (k+1)=t:=by
 rw[← jeN,h];rfl
def At(l:List UInt8)(p k:Nat):Prop:=p<=l.length/\V (l.drop p)=(V l).drop k/\p=eJ (V l) k/\k<=(V l).length
theorem At.zero(l:List UInt8):At l 0 0:=⟨by omega,by simp,by simp,by omega⟩
theorem jf{l:List UInt8}{p:Nat}(h:p<l.length):l.drop p≠[]:=by
 intro h2;have:=jdm List.length h2;simp at this
 omega
theorem At.lt{l:List UInt8}{p k:Nat}(h:At l p k)(hp:p<l.length):(V l).drop k=aP (l.drop p)::V (l.drop (p+(aP (l.drop p)).2)):=by
 rw[← h.2.1,pH (jf hp),jeN]
theorem At.len{l:List UInt8}{p k:Nat}(h:At l p k)(hp:p<l.length):k<(V l).length:=by
 have h1:=h.lt hp;rcases jdJ k (V l).length with h2 | h2
 ·exact h2
 ·rw[jeX h2]at h1;cases h1
theorem At.get{l:List UInt8}{p k:Nat}(h:At l p k)(hp:p<l.length):(V l)[k]?=some (aP (l.drop p)):=by
 have h1:=h.lt hp;have hk:=h.len hp;rw[jdX hk]at h1;rw[List.getElem?_eq_getElem hk,(List.cons.inj h1).1]
theorem At.next{l:List UInt8}{p k:Nat}(h:At l p k)(hp:p<l.length):At l (p+(aP (l.drop p)).2) (k+1):=by
 have h1:=h.lt hp;have hw:=dz _ (jf hp);simp at hw
 refine⟨by omega,?_,?_,h.len hp⟩
 ·rw[yM h1]
 ·rw[yL h1,← h.2.2.1]
theorem At.end{l:List UInt8}{p k:Nat}(h:At l p k)(hp:¬ p<l.length):k=(V l).length/\p=l.length:=by
 have h1:=h.2.1;rw[jeX (by omega)]at h1;have h2:=jdm List.length h1;simp at h2
 have:=h.2.2.2;have:=h.1;exact⟨by omega,by omega⟩
theorem vF{l:List UInt8}{p k:Nat}(h:At l p k)(hp:p<l.length):((V l).take (k+1))=(V l).take k++[aP (l.drop p)]:=by
 have hk:=h.len hp;have hg:=h.get hp;rw[List.getElem?_eq_getElem hk]at hg;rw[jdx hk,Option.some.inj hg]
theorem Aw{l:List UInt8}(hl:l≠[])(h:(aP l).1=65533):([239,191,189]:List UInt8).isPrefixOf l=ok (aP l):=by
 rcases mn l hl with hu | ⟨hu,y,hy⟩
 ·rw[hu]
  cases hp:([239,191,189]:List UInt8).isPrefixOf l with
  | false=>rfl
  | true =>
   exfalso
   obtain⟨y,hy⟩:=jeu.1 hp
   have h2:aP l=(65533,3):=by
    rw[← hy];exact CC 65533 (by simp[vr]) y
   rw[hu]at h2;cases h2
 ·rw[h]at hy
  have YQ:aP l=(65533,3):=by
   rcases hu with ⟨_,_,h2⟩ | h2
   ·exact absurd h h2
   ·exact h2
  rw[YQ,hy];have:dQ 65533=[239,191,189]:=by decide
  rw[this];simp[ok]
theorem CE(s:ByteArray)(p:Nat):Utf8.decode s p=aP (s.data.toList.drop p):=by
 have hg:∀ k,s.get! k=s.data.toList.getD k 0:=by
  intro k;show s.data[k]! = _
  by_cases h:k<s.data.size
  ·rw[getElem!_pos s.data k h,List.getD_eq_getElem?_getD,Array.getElem?_toList,Array.getElem?_eq_getElem h]
   rfl
  ·rw[getElem!_neg s.data k h,List.getD_eq_getElem?_getD,Array.getElem?_toList,Array.getElem?_eq_none (by omega)]
   rfl
 have hd:∀ k,(s.data.toList.drop p).getD k 0=s.data.toList.getD (p+k) 0:=by
  intro k;simp[List.getD_eq_getElem?_getD]
 rw[Lib.decode_at,hg,hg,hg,hg];unfold aP;have jx:(s.data.toList.drop p).length=s.size-p:=by rw[jdN];rfl
 rw[hd,hd,hd,hd,jx];rfl
open Go.Lib
def I64(x:Int):Prop:=-9223372036854775808<=x/\x<=9223372036854775807
theorem mo{n:Nat}(h:n<256):(n.toUInt8).toNat=n:=by
 show (UInt8.ofNat n).toNat=n
 rw[UInt8.toNat_ofNat'];omega
theorem fo{l:List Nat}(h:∀ x∈l,x<256):(l.map Nat.toUInt8).map UInt8.toNat=l:=by
 rw[jdT];conv=>rhs;rw[← jel l]
 apply jef
 intro a ha;exact mo (h a ha)
abbrev Fd:=Nat×ByteArray×Nat×Bool
abbrev Cl:=Nat×Int×List Nat
def nul:Cl:=(0,0,[])
def Bs(l:List Nat):Prop:=∀ x∈l,x<256
def lb(s:ByteArray):List UInt8:=s.data.toList
theorem cI(s:ByteArray):(lb s).length=s.size:=rfl
def gA(c:Nat):Bool:=decide (97<=c/\c<=122) || decide (c=95) || decide (127<c)
def eA(c:Nat):Bool:=decide (48<=c/\c<=57)
def kN(k c:Nat):Bool:=gA c || (eA c && decide (0<k))
def dL:Nat->List (Nat×Nat)->Bool
 | _,[]=>true
 | k,x::t=>kN k x.1 && dL (k+1) t
def named(s:ByteArray):Bool:=decide (1<=s.size/\s.size<=16) && dK (lb s) && dL 0 (V (lb s))
def oT(l:List Fd)(n:ByteArray):Bool:=l.any fun f=>decide (f.2.1=n)
def vG(l:List Fd)(n:ByteArray):Bool:=named n && !oT l n
def eT(l:List Fd):Nat:=match l.getLast? with
 | none=>0
 | some f=>f.1
def kO(k:Nat):Bool:=decide (1<=k/\k<=3)
def fY(a:List Fd)(f:Fd):Nat :=
 if f.1<=eT a then 81 else if vG a f.2.1=false then 80 else if kO f.2.2.1=false then 10
 else if (f.2.2.2 != decide (a.length=0))=true∨(a.length=0/\f.2.2.1=2) then 82 else 0
def fe(a:List Fd):List Fd->Nat
 | []=>0
 | f::t=>if fY a f=0 then fe (a++[f]) t else fY a f
def chk(id:Nat)(l:List Fd):Nat:=if id=0∨l.length=0∨8<l.length then 1 else fe [] l
def qu(f:Fd)(c:Cl):Nat :=
 if c.1=0 then (if f.2.2.2=true then 82 else 0) else if c.1≠f.2.2.1 then 10 else if 64<c.2.2.length then 5 else 0
def qv:List Fd->List Cl->Nat
 | f::t,c::r=>if qu f c=0 then qv t r else qu f c
 | [],_=>0
 | _::_,[]=>0
def jL(l:List Fd)(r:List Cl):Nat:=if r.length≠l.length then 1 else qv l r
def kh(id:Nat):Nat->List Fd->Option Nat
 | _,[]=>none
 | k,f::t=>if f.1=id then some k else kh id (k+1) t
def iI(l:List Fd)(id:Nat):Option Nat:=kh id 0 l
def Okf(f:Fd):Prop:=f.1<4294967296/\f.2.2.1<256
theorem Ma{l:List Fd}(h:0<l.length):eT l=(l[l.length-1]'(by omega)).1:=by
 unfold eT;rw[List.getLast?_eq_getElem?,List.getElem?_eq_getElem (by omega)]
theorem qw(l:List Fd)(f:Fd):eT (l++[f])=f.1:=by
 unfold eT;simp
theorem Gc{l:List Fd}{i:Nat}(h:i<l.length):eT (l.take (i+1))=l[i].1:=by
 rw[jdx h,qw]
theorem KN{l:List Fd}{i:Nat}(h:i<l.length):fe (l.take i) (l.drop i)=if fY (l.take i) l[i]=0 then fe (l.take (i+1)) (l.drop (i+1)) else fY (l.take i) l[i]:=by
 rw[jdX h,fe,jdx h]
theorem Qx(l:List Fd):fe (l.take l.length) (l.drop l.length)=0:=by
 rw[jeb];rfl
theorem yN{l:List Fd}{i:Nat}{n:ByteArray}(h:i<l.length):oT (l.drop i) n=(decide (l[i].2.1=n) || oT (l.drop (i+1)) n):=by
 rw[jdX h];unfold oT;rw[List.any_cons]
theorem CF{l:List Fd}{i id:Nat}(h:i<l.length):kh id i (l.drop i)=if l[i].1=id then some i else kh id (i+1) (l.drop (i+1)):=by
 rw[jdX h,kh]
theorem Gd(l:List Fd)(id:Nat):kh id l.length (l.drop l.length)=none:=by rw[jeb];rfl
theorem yO{id:Nat}:∀{l:List Fd} {k j:Nat},kh id k l=some j->k<=j/\j<k+l.length
 | [],k,j,h=>by simp[kh]at h
 | f::t,k,j,h=>by
  unfold kh at h;by_cases hf:f.1=id
  ·rw[jdf hf]at h
   have:=Option.some.inj h;simp
   omega
  ·rw[jde hf]at h
   have:=yO h;simp
   omega
theorem Qy{l:List Fd}{id j:Nat}(h:iI l id=some j):j<l.length:=by have:=yO h;omega
theorem yP{l:List Fd}{r:List Cl}{i:Nat}(h:i<l.length)(h2:i<r.length):qv (l.drop i) (r.drop i)=if qu l[i] r[i]=0 then qv (l.drop (i+1)) (r.drop (i+1)) else qu l[i] r[i]:=by
 rw[jdX h,jdX h2,qv]
theorem CG(l:List Fd)(r:List Cl):qv (l.drop l.length) r=0:=by
 rw[jeb];unfold qv;rfl
theorem pf{k:Nat}{x:Nat×Nat}{t:List (Nat×Nat)}:dL k (x::t)=(kN k x.1 && dL (k+1) t):=rfl
def Rise(l:List Fd):Prop:=l.Pairwise fun a b=>a.1<b.1
theorem KO:∀{l a:List Fd},fe a l=0->(∀ f∈a,f.1<=eT a)->(∀ f∈l,eT a<f.1)/\Rise l
 | [],a,_,_=>⟨fun f hf=>by simp at hf,List.Pairwise.nil⟩
 | g::t,a,h,ha=>by
  unfold fe at h;by_cases h0:fY a g=0
  ·rw[jdf h0]at h
   have hg:eT a<g.1:=by
    unfold fY at h0;by_cases h1:g.1<=eT a
    ·rw[jdf h1]at h0;omega
    ·omega
   have Po:=qw a g
   have ha2:∀ f∈a++[g],f.1<=eT (a++[g]):=by
    intro f hf;rw[Po];rcases jdO.1 hf with hf | hf
    ·have:=ha f hf;omega
    ·have:f=g:=by simpa using hf
     rw[this];exact jdh _
   obtain⟨h3,h4⟩:=KO h ha2;rw[Po]at h3;refine⟨fun f hf=>?_,?_⟩
   ·rcases jdz.1 hf with rfl | hf
    ·exact hg
    ·have:=h3 f hf;omega
   ·exact List.Pairwise.cons (fun f hf=>h3 f hf) h4
  ·rw[jde h0]at h;exact absurd h h0
theorem qx{id:Nat}{l:List Fd}(h:chk id l=0):Rise l/\0<l.length/\l.length<=8/\0<id:=by
 unfold chk at h;by_cases h0:id=0∨l.length=0∨8<l.length
 ·rw[jdf h0]at h;omega
 ·rw[jde h0]at h
  refine⟨(KO h (fun f hf=>by simp at hf)).2,by omega,by omega,by omega⟩
theorem qy{l:List Fd}{row:List Cl}(h:jL l row=0):row.length=l.length:=by
 unfold jL at h;by_cases hl:row.length≠l.length
 ·rw[jdf hl]at h;omega
 ·omega
def am(l:List Nat):ByteArray:=⟨(l.map Nat.toUInt8).toArray⟩
def df(s:ByteArray):List Nat:=s.toList.map UInt8.toNat
theorem bC(l:List Nat):(am l).toList=l.map Nat.toUInt8:=by
 rw[ByteArray.toList_eq];rfl
theorem bm(l:List Nat):(am l).size=l.length:=by
 show (l.map Nat.toUInt8).toArray.size=l.length
 simp
theorem iQ:am []=⟨#[]⟩:=rfl
theorem Qz(s:ByteArray):Bs (df s):=fun x hx=>by
 obtain⟨y,_,rfl⟩:=jdE.1 hx;exact y.toNat_lt
theorem iR(s:ByteArray):(df s).length=s.size:=by
 unfold df;rw[jdk,ByteArray.toList_eq];rfl
theorem CI(s:ByteArray):am (df s)=s:=by
 have h:(df s).map Nat.toUInt8=s.toList:=by
  unfold df;rw[jdT];conv=>rhs;rw[← jel s.toList]
  apply jef
  intro x _;simp
 unfold am;rw[h,ByteArray.toList_eq]
def eU(b:Bool):Nat:=if b=true then 1 else 0
def szs(l:List Fd):Nat:=(l.map fun f=>f.2.1.size).sum
theorem KP{l:List Fd}{f:Fd}(h:f∈l):f.2.1.size<=szs l:=by
 induction l with
 | nil=>simp at h
 | cons g t ih =>
  unfold szs at *;simp only[jdQ,List.sum_cons];rcases jdz.1 h with rfl | h
  ·omega
  ·have:=ih h;omega
theorem tB(l:List Fd)(i:Nat):szs (l.take i)<=szs l:=by
 have:szs l=szs (l.take i)+szs (l.drop i):=by
  conv=>lhs;rw[← jeD i l]
  unfold szs;rw[jdC,List.sum_append]
 omega
theorem Bs.app{a b:List Nat}(ha:Bs a)(hb:Bs b):Bs (a++b):=fun x hx=>by
 rcases jdO.1 hx with h | h
 ·exact ha x h
 ·exact hb x h
theorem Bs.drop{a:List Nat}(ha:Bs a)(k:Nat):Bs (a.drop k):=fun x hx=>ha x (jeO hx)
theorem Bs.take{a:List Nat}(ha:Bs a)(k:Nat):Bs (a.take k):=fun x hx=>ha x (jd3 hx)
def textR(n:Nat)(r:List Nat):Except Nat (ByteArray×List Nat):=if r.length<n then .error 30 else .ok (am (r.take n),r.drop n)
def Rds{α : Type}(m:List Nat->Except Nat (α×List Nat))(l:List Nat)(f:Nat)(x:α)(l':List Nat)(f':Nat):Prop :=
 (f=0->m l=if f'=0 then .ok (x,l') else .error f')/\(f≠0->f'=f)
theorem Rds.pure{α : Type}(x:α)(l:List Nat)(f:Nat):Rds (fun b=>.ok (x,b)) l f x l f:=by
 refine⟨fun h0=>?_,fun _=>rfl⟩;rw[jdf h0]
theorem Rds.dead{α : Type}{m:List Nat->Except Nat (α×List Nat)}{l l':List Nat}{f:Nat}(x:α)(h:f≠0):Rds m l f x l' f:=⟨fun h0=>absurd h0 h,fun _=>rfl⟩
def Ax{α : Type}(m:List Nat->Except Nat (α×List Nat))(e:List Nat)(x:α):Prop:=∀ r,m (e++r)=.ok (x,r)∨∃ c,c≠0/\m (e++r)=.error c
def uw{α : Type}(m:List Nat->Except Nat (α×List Nat))(e:List Nat)(x:α):Prop:=∀ r,m (e++r)=.ok (x,r)
theorem vH(s:ByteArray):uw (textR s.size) (df s) s:=by
 intro r;unfold textR;have hl:=iR s;rw[jde (by simp;omega),← hl,jec,jdY,CI]
theorem uw.eith{α : Type}{m:List Nat->Except Nat (α×List Nat)}{e:List Nat}{x:α}(h:uw m e x):Ax m e x:=fun r=>Or.inl (h r)
theorem yQ{α : Type}(x:α):uw (fun b=>.ok (x,b)) [] x:=fun r=>rfl
theorem CJ(b:Bool):decide (eU b=1)=b:=by cases b<;>rfl
theorem qz:∀{l a:List Fd},fe a l=0->∀ f∈l,f.2.1.size<=16
 | [],a,_,f,hf=>by simp at hf
 | g::t,a,h,f,hf=>by
  unfold fe at h;by_cases h0:fY a g=0
  ·rw[jdf h0]at h
   rcases jdz.1 hf with rfl | hf
   ·unfold fY at h0
    by_cases h1:f.1<=eT a
    ·rw[jdf h1]at h0;omega
    ·rw[jde h1]at h0
     by_cases h2:vG a f.2.1=false
     ·rw[jdf h2]at h0;omega
     ·have h3:vG a f.2.1=true:=by simpa using h2
      unfold vG named at h3;simp at h3
      omega
   ·exact qz h f hf
  ·rw[jde h0]at h;exact absurd h h0
open Go.RowKit
theorem ae{p:Prop}(h:p):jfb p:=h
def aF(k:IntKind)(l:List Nat):List Value:=l.map fun(n:Nat)=>Value.int k (n:Int)
theorem cd(k:IntKind)(a b:List Nat):aF k (a++b)=aF k a++aF k b:=jdC
theorem ap(k:IntKind)(a:List Nat):(aF k a).length=a.length:=jdk _
theorem bS{k:IntKind}{l:List Nat}{j:Nat}(h:j<l.length):(aF k l)[j]?=some (.int k (l[j]:Int)):=by simp[aF,h]
theorem ki(k:IntKind)(l:List Nat)(j c:Nat):(aF k l).set j (.int k (c:Int))=aF k (l.set j c):=by simp[aF,List.map_set]
theorem fR(k:IntKind)(l:List Nat):∀ u∈aF k l,u.oneCell'=true:=by
 intro u hu;obtain⟨b,_,rfl⟩:=jdE.1 hu;rfl
theorem jm:(Tryz.prog.info? 5).map (fun i=>(i.zero,i.size,i.bytes))=some (some (.int .u8 0),1,1):=by kernel_rfl
theorem mq(g j:Nat):(⟨g,0,none⟩:Addr).add j=⟨g,j,none⟩:=by unfold Addr.add;split<;>simp_all
theorem pI(b off j:Nat):(⟨b,off,none⟩:Addr).add j=⟨b,off+j,none⟩:=by unfold Addr.add;split<;>simp_all
theorem bI{w w':World}{B e size n:Nat}{v:Value}{xs:List Value}(h:w.ownsRow B e size v n xs)(hb:Below w.heap.size w w'):w'.ownsRow B e size v n xs:=by
 obtain⟨hl,h⟩:=h;refine⟨hl,?_⟩;rcases h with h | ⟨g,cap,cur,h1,h2,h3,h4⟩
 ·exact Or.inl h
 ·have hg:g<w.heap.size:=by
   rcases jdJ g w.heap.size with hg | hg
   ·exact hg
   ·rw[Array.getElem?_eq_none hg]at h3;cases h3
  exact Or.inr ⟨g,cap,cur,h1,h2,(hb.block g hg).trans h3,h4⟩
def Sx(k:IntKind)(W:World)(v:Value)(l:List Nat):Prop :=
 ∃ a cap,v=.slice a l.length cap/\l.length<=maxLen /\
  (0<l.length->∃ b off,a=some ⟨b,off,none⟩/\b<W.heap.size/\∀ j (h:j<l.length),W.cell? ⟨b,off+j,none⟩=some (.int k (l[j]:Int)))
theorem Sx.kept{k:IntKind}{W W':World}{v:Value}{l:List Nat}(h:Sx k W v l)(hb:Below W.heap.size W W'):Sx k W' v l:=by
 obtain⟨a,cap,rfl,h1,h3⟩:=h;refine⟨a,cap,rfl,h1,fun h0=>?_⟩;obtain⟨b,off,rfl,h4,h5⟩:=h3 h0;exact⟨b,off,rfl,jdD h4 hb.size,fun j hj=>(hb.cell (p:=⟨b,off+j,none⟩) h4).trans (h5 j hj)⟩
theorem Sx.of_own{k:IntKind}{W:World}{B e n:Nat}{v:Value}{l:List Nat}(h:W.ownsRow B e 1 v n (aF k l)):Sx k W v l:=by
 have hl:l.length=n:=by have:=h.1;simpa [aF]using this
 obtain⟨_,h1⟩:=id h;rcases h1 with ⟨rfl,rfl⟩ | ⟨g,cap,cur,rfl,hb,hg,h4,h5,_⟩
 ·exact⟨none,0,by rw[hl],by unfold maxLen;omega,fun h0=>by omega⟩
 ·refine⟨_,cap,by rw[hl],by omega,fun _=>⟨g,0,rfl,(Array.getElem?_eq_some_iff.1 hg).1,fun j hj=>?_⟩⟩
  have:=h.cells (g:=g) rfl j _ (bS hj);rw[mq]at this;rwa[jdK]
def txt(l:List Nat):Value:=.string ⟨(l.map Nat.toUInt8).toArray⟩
theorem Sx.conv{W:World}{v:Value}{l:List Nat}(h:Sx .u8 W v l)(h8:∀ x∈l,x<256):(convert 30 9 v).run Tryz.prog W=.ok (txt l) W:=by
 obtain⟨a,cap,rfl,h1,h3⟩:=h;rcases jd4 l.length with h0 | hp
 ·obtain rfl:l=[]:=jdF h0
  first
   | exact run_convert_bytes_back_empty W 30 9 5 a cap Tryz.underlying30 Tryz.underlying5 Tryz.underlying9
   | (cases a<;>rfl)
   | (cases a<;>kernel_rfl)
 ·obtain⟨b,off,rfl,h4,h5⟩:=h3 hp
  have:=run_convert_bytes_back W 30 9 5 ⟨b,off,none⟩ cap (l.map Nat.toUInt8) Tryz.underlying30 Tryz.underlying5 Tryz.underlying9 (fun j hj=>by
   have hj':j<l.length:=by simpa using hj
   rw[pI,h5 j hj'];have h9:=h8 l[j] (jdl hj');congr 2
   simp[jd7 h9])
  rw[jdk]at this;exact this
theorem Sx.lit{k:IntKind}(w:World)(l:List Nat)(e:Nat)(hl:l.length<=maxLen):Sx k (w.alloc (.cells (aF k l).toArray e)) (.slice (some ⟨w.heap.size,0,none⟩) l.length l.length) l:=by
 have:=jer (e:=e) (size:=1) w (aF k l).toArray l.length (base:=0) (jd1 _) hl (by simp[aF]);exact Sx.of_own this
def aW(l:List UInt8):List Value:=l.map fun b=>Value.int .u8 (b.toNat:Int)
theorem jA(a b:List UInt8):aW (a++b)=aW a++aW b:=jdC
theorem mP(a:List UInt8):(aW a).length=a.length:=jdk _
theorem Ay{l:List UInt8}{j:Nat}(h:j<l.length):(aW l)[j]?=some (.int .u8 (l[j].toNat:Int)):=by simp[aW,h]
theorem sp{w:World}{B e n:Nat}{v:Value}{xs:List Value}(h:w.ownsRow B e 1 v n xs):(∃ ad cap,v=.slice ad n cap/\∀ g,ad=some g->g.spot=none)/\(0<n->∃ g cap,v=.slice (some ⟨g,0,none⟩) n cap/\g<w.heap.size/\B<=g/\∀ j x,xs[j]?=some x->w.cell? ⟨g,j,none⟩=some x):=by
 obtain⟨hl,h1⟩:=id h;rcases h1 with ⟨rfl,rfl⟩ | ⟨g,cap,cur,rfl,hb,hg,h4⟩
 ·exact⟨⟨none,0,rfl,fun g hg=>by cases hg⟩,fun h=>by omega⟩
 ·refine⟨⟨_,cap,rfl,fun x hx=>by cases hx;rfl⟩,fun _=>⟨g,cap,rfl,(Array.getElem?_eq_some_iff.1 hg).1,hb,fun j x hx=>?_⟩⟩
  have:=h.cells (g:=g) rfl j x hx;have Ka:(⟨g,0,none⟩:Addr).add j=⟨g,j,none⟩:=by unfold Addr.add;split<;>simp_all
  rwa[Ka]at this
theorem jM{x:Nat}(h:x<256):aW [x.toUInt8]=[.int .u8 (x:Int)]:=by
 simp only[aW,jdQ,jed,mo h]
theorem sq(l:List UInt8):∀ u∈aW l,u.oneCell'=true:=by
 intro u hu;obtain⟨b,_,rfl⟩:=jdE.1 hu;rfl
def Sl(W:World)(v:Value)(l:List UInt8):Prop :=
 ∃ a cap,v=.slice a l.length cap/\l.length<=cap/\cap<=maxLen /\
  (0<l.length->∃ b off,a=some ⟨b,off,none⟩/\b<W.heap.size/\∀ j (h:j<l.length),W.cell? ⟨b,off+j,none⟩=some (.int .u8 (l[j].toNat:Int)))
def Sv(W:World)(v:Value)(xs:List Value):Prop :=
 ∃ a cap,v=.slice a xs.length cap/\xs.length<=cap/\cap<=maxLen/\(a=none->cap=0) /\
  (0<xs.length->∃ b off,a=some ⟨b,off,none⟩/\b<W.heap.size/\∀ j x,xs[j]?=some x->W.cell? ⟨b,off+j,none⟩=some x)
theorem Sv.kept{W W':World}{v:Value}{xs:List Value}(h:Sv W v xs)(hb:Below W.heap.size W W'):Sv W' v xs:=by
 obtain⟨a,cap,rfl,h1,h2,h3,h4⟩:=h;refine⟨a,cap,rfl,h1,h2,h3,fun h0=>?_⟩;obtain⟨b,off,rfl,h5,h6⟩:=h4 h0;exact⟨b,off,rfl,jdD h5 hb.size,fun j x hj=>(hb.cell (p:=⟨b,off+j,none⟩) h5).trans (h6 j x hj)⟩
theorem Sv.nil(W:World):Sv W (.slice none 0 0) []:=⟨none,0,rfl,jdh _,by unfold maxLen;omega,fun _=>rfl,fun h=>by simp at h⟩
theorem Sv.of_own{W:World}{B e n:Nat}{v:Value}{xs:List Value}(h:W.ownsRow B e 1 v n xs):Sv W v xs:=by
 have hl:xs.length=n:=by have:=h.1;simpa using this
 obtain⟨_,h1⟩:=id h;rcases h1 with ⟨rfl,rfl⟩ | ⟨g,cap,cur,rfl,hb,hg,h4,h5,_⟩
 ·exact⟨none,0,by rw[hl],by omega,by unfold maxLen;omega,fun _=>rfl,fun h0=>by omega⟩
 ·refine⟨_,cap,by rw[hl],by omega,h5,fun h=>(by cases h),fun _=>⟨g,0,rfl,(Array.getElem?_eq_some_iff.1 hg).1,fun j x hj=>?_⟩⟩
  have:=h.cells (g:=g) rfl j _ hj;rw[mq]at this;rwa[jdK]
theorem Sv.len{W:World}{v:Value}{xs:List Value}(h:Sv W v xs):xs.length<=maxLen:=by obtain⟨_,_,_,h1,h2,_⟩:=h;omega
theorem Sv.sx{k:IntKind}{W:World}{v:Value}{l:List Nat}(h:Sv W v (aF k l)):Sx k W v l:=by
 have hm:=h.len;obtain⟨a,cap,rfl,h1,h2,h3,h4⟩:=h;rw[ap]at *;refine⟨a,cap,rfl,hm,fun h0=>?_⟩;obtain⟨b,off,rfl,h5,h6⟩:=h4 h0;exact⟨b,off,rfl,h5,fun j hj=>h6 j _ (bS hj)⟩
theorem vI(l:List UInt8):aF .u8 (l.map UInt8.toNat)=aW l:=by simp[aF,aW]
theorem Ge{l:List Nat}(h:Bs l):aW (l.map Nat.toUInt8)=aF .u8 l:=by rw[← vI,fo h]
theorem Sv.sl{W:World}{v:Value}{l:List Nat}(hb:Bs l)(h:Sv W v (aF .u8 l)):Sl W v (l.map Nat.toUInt8):=by
 rw[← Ge hb]at h;obtain⟨a,cap,rfl,h1,h2,h3,h4⟩:=h;rw[mP]at *;refine⟨a,cap,rfl,h1,h2,fun h0=>?_⟩;obtain⟨b,off,rfl,h5,h6⟩:=h4 h0;exact⟨b,off,rfl,h5,fun j hj=>h6 j _ (Ay hj)⟩
theorem Sv.take{W:World}{a:Option Addr}{n cap:Nat}{xs:List Value}(h:Sv W (.slice a n cap) xs){k:Nat}(hk:k<=xs.length):Sv W (.slice a k cap) (xs.take k):=by
 obtain⟨a',c,h1,h2,h3,h4,h5⟩:=h;simp only[Value.slice.injEq]at h1;obtain⟨rfl,_,rfl⟩:=h1;have hl:(xs.take k).length=k:=by rw[jdo];omega
 refine⟨_,cap,by rw[hl],by omega,h3,h4,fun h0=>?_⟩;obtain⟨b',off',h6,h7,h8⟩:=h5 (by omega);refine⟨b',off',h6,h7,fun j x hj=>h8 j x ?_⟩;have rX:=(List.getElem?_eq_some_iff.1 hj).1;rw[List.getElem?_take]at hj;rwa[jdf (by omega)]at hj
theorem Sv.drop{W:World}{b off n cap:Nat}{xs:List Value}(h:Sv W (.slice (some ⟨b,off,none⟩) n cap) xs){k:Nat}(hk:k<=xs.length){a:Addr}(ha:a=if cap=k then ⟨b,off,none⟩ else ⟨b,off+k,none⟩) :
  Sv W (.slice (some a) (n-k) (cap-k)) (xs.drop k):=by
 obtain⟨a',c,h1,h2,h3,h4,h5⟩:=h;simp only[Value.slice.injEq]at h1;obtain⟨rfl,rfl,rfl⟩:=h1;have hl:(xs.drop k).length=xs.length-k:=by rw[jdN]
 refine⟨_,_,by rw[hl],by omega,by omega,fun h=>(by cases h),fun h0=>?_⟩;obtain⟨b',off',h6,h7,h8⟩:=h5 (by omega);cases h6
 rw[jde (by omega)]at ha;refine⟨b,off+k,by rw[ha],h7,fun j x hj=>?_⟩;rw[List.getElem?_drop]at hj;have:=h8 (k+j) x hj;rwa[← jeo]at this
def aD(W:World)(B:Nat)(v:Value)(bs:List Nat):Prop:=W.ownsRow B 5 1 v bs.length (aF .u8 bs)
theorem aD.nil(W:World)(B:Nat):aD W B (.slice none 0 0) []:=jd8 _ _ _ _
theorem aD.kept{w w':World}{B:Nat}{v:Value}{bs:List Nat}(h:aD w B v bs)(hb:Below w.heap.size w w'):aD w' B v bs:=bI h hb
theorem aD.sv{W:World}{B:Nat}{v:Value}{bs:List Nat}(h:aD W B v bs):Sv W v (aF .u8 bs):=Sv.of_own h
def dw(w:World)(bs:List Nat)(e:Ending)(w':World):Prop:=(∃ v,e=.returned v/\aD w' w.heap.size v bs)/\Below w.heap.size w w'
theorem ax{w:World}{ops:Array Oper}{rest:List Oper}{o:Oper}{a:Act}{Q:Exit->Act->World->Prop}(eg:o.guard=none)(s x:Operand)
  (ho:o.op=.call { callee:=.builtin .append,args:=#[s,x],argTypes:=#[30,30] })
  (base:Nat) (v vx:Value) (l0 l:List Nat) (hs:a.eval s=v) (aA:aD w base v l0) (hx:a.eval x=vx) (ft:Sv w vx (aF .u8 l))
  (hbytes:l0.length+l.length<=140737488355328) (aI:base<=w.heap.size)
  (h:∀ v' w',aD w' base v' (l0++l)->Below base w w'->wpList Tryz.prog ops Q rest (a.put o.dst v') w') :
  wpList Tryz.prog ops Q (o::rest) a w:=by
 obtain⟨i0,hi,cm,hz1',bn⟩:=jdA jm;unfold aD at *;obtain⟨ad,cap,rfl,h1,h2,h3,h4⟩:=ft;rw[ap]at *;cases ad with
 | none =>
  have hc:=h3 rfl;subst hc;have hl:l=[]:=jdF (by omega);subst hl;refine wpList_plain eg fun K hK=>?_
  have hr:=jeJ (P:=Tryz.prog) (w:=w) base 30 o.type 5 i0 1 Tryz.underlying30 hi v l0.length (aF .u8 l0) aA;unfold Oper.wp execOp;simp only[ho,resolve,invoke,builtin,Sem.run_bind,Sem.run_pure,Result.andThen_ok,jes,jdQ,jed,hs,hx,hr,jdI];refine hK _ _ (h v w ?_ (jdg _ _));rw[jdB];exact aA
 | some ad =>
  refine jdU (w:=w) eg s x 30 ho base 5 i0 (.int .u8 0) 1 1 Tryz.underlying30 hi cm hz1' bn rfl (by decide) v l0.length (aF .u8 l0) hs aA ad l.length cap (aF .u8 l) hx (by rw[ap];omega) ?_ (fR _ _) (by unfold maxLen;omega) (by omega) aI ?_
  ·intro j u hu
   have hj:j<l.length:=by
    have:=(List.getElem?_eq_some_iff.1 hu).1;rwa[ap]at this
   obtain⟨b,off,h5,_,h6⟩:=h4 (by omega);cases h5
   rw[pI];exact h6 j u hu
  ·intro v' w' o1 g1 _ _
   refine h v' w' ?_ ((jdg base w).grown g1 aI (fun k hk=>(aA.lt k hk).1));rw[cd,jdj];exact o1
def Fr(p B:Nat)(w w':World):Prop:=w'.os=w.os/\w'.tape=w.tape/\w'.output=w.output/\w.heap.size<=w'.heap.size/\∀ k,k<B->k≠p->w'.heap[k]?=w.heap[k]?
theorem Fr.os{p B:Nat}{w w':World}(h:Fr p B w w'):w'.os=w.os:=h.1
theorem Fr.tape{p B:Nat}{w w':World}(h:Fr p B w w'):w'.tape=w.tape:=h.2.1
theorem Fr.output{p B:Nat}{w w':World}(h:Fr p B w w'):w'.output=w.output:=h.2.2.1
theorem Fr.size{p B:Nat}{w w':World}(h:Fr p B w w'):w.heap.size<=w'.heap.size:=h.2.2.2.1
theorem Fr.block{p B:Nat}{w w':World}(h:Fr p B w w'):∀ k,k<B->k≠p->w'.heap[k]?=w.heap[k]?:=h.2.2.2.2
theorem Fr.refl(p B:Nat)(w:World):Fr p B w w:=⟨rfl,rfl,rfl,jdh _,fun _ _ _=>rfl⟩
theorem Fr.trans{p B:Nat}{a b c:World}(h:Fr p B a b)(k:Fr p B b c):Fr p B a c :=
 ⟨k.os.trans h.os,k.tape.trans h.tape,k.output.trans h.output,jdq h.size k.size,fun i hi hp=>(k.block i hi hp).trans (h.block i hi hp)⟩
theorem Fr.mono{p B B':Nat}{w w':World}(h:Fr p B w w')(hB:B'<=B):Fr p B' w w':=⟨h.os,h.tape,h.output,h.size,fun k hk hp=>h.block k (jdD hk hB) hp⟩
theorem Fr.of_below{p B:Nat}{w w':World}(h:Below B w w'):Fr p B w w':=⟨h.os,h.tape,h.output,h.size,fun k hk _=>h.block k hk⟩
theorem Fr.below{p B B':Nat}{w w':World}(h:Fr p B w w')(hp:B'<=p)(hB:B'<=B):Below B' w w':=⟨h.os,h.tape,h.output,h.size,fun k hk=>h.block k (by omega) (by omega)⟩
theorem Fr.set{p B:Nat}{w w':World}(h:Fr p B w w')(i:Nat)(v:Value):Fr p B w (w'.setCell ⟨p,i,none⟩ v):=by
 have h1:Below 0 w' (w'.setCell ⟨p,i,none⟩ v):=(jdg 0 w').setCell (jd1 _) v;exact⟨h1.os.trans h.os,h1.tape.trans h.tape,h1.output.trans h.output,jdq h.size h1.size,fun k hk hp=>(Below.heap_setCell _ _ _ _ hp).trans (h.block k hk hp)⟩
theorem Fr.own{p:Nat}{w w':World}{B e size n:Nat}{v:Value}{xs:List Value}(hf:Fr p w.heap.size w w')(h:w.ownsRow B e size v n xs)(hp:p<B):w'.ownsRow B e size v n xs:=by
 obtain⟨hl,h⟩:=h;refine⟨hl,?_⟩;rcases h with h | ⟨g,cap,cur,h1,h2,h3,h4⟩
 ·exact Or.inl h
 ·have hg:g<w.heap.size:=(Array.getElem?_eq_some_iff.1 h3).1
  exact Or.inr ⟨g,cap,cur,h1,h2,(hf.block g hg (by omega)).trans h3,h4⟩
theorem cJ{W:World}{p T:Nat}{c:Array Value}(h:W.heap[p]?=some (.cells c T (0,0)))(i:Nat)(v:Value):(W.setCell ⟨p,i,none⟩ v).heap[p]?=some (.cells (c.setIfInBounds i v) T (0,0)):=heap_setCell_same W p i c T v h
theorem ay{W:World}{p T:Nat}{c:Array Value}{fz:Nat×Nat}(h:W.heap[p]?=some (.cells c T fz))(i:Nat):W.cell? ⟨p,i,none⟩=c[i]?:=by
 simp[World.cell?,h]
def orf(f e:Nat):Nat:=if f=0 then e else f
theorem Fr.then{p B:Nat}{w w1 w2:World}(h:Fr p B w w1)(hb:Below B w1 w2):Fr p B w w2:=h.trans (Fr.of_below hb)
theorem eV(e:Nat):orf 0 e=e:=rfl
theorem eB{f:Nat}(h:f≠0)(e:Nat):orf f e=f:=by unfold orf;rw[jde h]
theorem Sv.conv{W:World}{v:Value}{l:List Nat}(h:Sv W v (aF .u8 l))(hb:Bs l):(convert 30 9 v).run Tryz.prog W=.ok (txt l) W:=h.sx.conv hb
theorem QA{a b:List Nat}(ha:Bs a)(hb:Bs b):a.map Nat.toUInt8=b.map Nat.toUInt8↔a=b:=by
 constructor
 ·intro h
  rw[← fo ha,← fo hb,h]
 ·intro h
  rw[h]
theorem Sv.form1{W:World}{v:Value}{xs:List Value}(h:Sv W v xs):∃ a cap,v=.slice a xs.length cap/\xs.length<=cap/\cap<=maxLen:=by
 obtain⟨a,cap,h1,h2,h3,_⟩:=h;exact⟨a,cap,h1,h2,h3⟩
theorem Sv.at1{W:World}{a:Option Addr}{n cap:Nat}{xs:List Value}(h:Sv W (.slice a n cap) xs){k:Nat}{x:Value}(hk:xs[k]?=some x) :
  ∃ b off,a=some ⟨b,off,none⟩/\b<W.heap.size/\W.cell? ⟨b,off+k,none⟩=some x:=by
 obtain⟨a',cap',e,h1,h2,h3,h4⟩:=h;have aC:=(List.getElem?_eq_some_iff.1 hk).1;simp only[Value.slice.injEq]at e;obtain⟨rfl,_,_⟩:=e;obtain⟨b,off,rfl,h5,h6⟩:=h4 (by omega);exact⟨b,off,rfl,h5,h6 k x hk⟩
theorem ak(w:World)(o:Obj):Below w.heap.size w (w.alloc o):=(jdg _ _).alloc (jdh _) _
theorem ai{a w w2:World}(h:Below a.heap.size a w)(h2:Below w.heap.size w w2):Below a.heap.size a w2:=h.trans (h2.mono h.size)
theorem oo(w:World)(l:List Nat)(hl:l.length<=maxLen):aD (w.alloc (.cells (aF .u8 l).toArray 5)) w.heap.size (.slice (some ⟨w.heap.size,0,none⟩) l.length l.length) l:=by
 have:=jer (e:=5) (size:=1) w (aF .u8 l).toArray l.length (base:=w.heap.size) (jdh _) hl (by simp[aF]);exact this
theorem vJ(w:World):aD (w.alloc (.cells #[] 5)) w.heap.size (.slice (some ⟨w.heap.size,0,none⟩) 0 0) []:=oo w [] (by unfold maxLen;simp)
theorem be{W:World}{B B' e size n:Nat}{v:Value}{xs:List Value}(h:W.ownsRow B' e size v n xs)(hb:B<=B'):W.ownsRow B e size v n xs:=by
 obtain⟨q1,q2⟩:=h;refine⟨q1,?_⟩;rcases q2 with q | ⟨a1,a2,a3,a4,a5,a6⟩
 ·exact Or.inl q
 ·exact Or.inr ⟨a1,a2,a3,a4,jdq hb a5,a6⟩
theorem aN{W:World}{B e size n:Nat}{v:Value}{xs:List Value}(h:W.ownsRow B e size v n xs):∃ a cap,v=.slice a n cap/\n<=cap/\cap<=maxLen:=by
 rcases h.2 with ⟨rfl,rfl⟩ | ⟨g,cap,cur,rfl,_,_,h1,h2,_⟩
 ·exact⟨none,0,rfl,jdh _,by unfold maxLen;omega⟩
 ·exact⟨_,cap,rfl,h1,h2⟩
theorem kP{W w1:World}(hb:Below W.heap.size W w1):(∀ b o,b<W.heap.size->w1.cell? ⟨b,o,none⟩=W.cell? ⟨b,o,none⟩)/\(∀ b o,b<W.heap.size->w1.frozen? ⟨b,o,none⟩=W.frozen? ⟨b,o,none⟩) :=
 ⟨fun b o h=>hb.cell (p:=⟨b,o,none⟩) h,fun b o h=>hb.frozen (p:=⟨b,o,none⟩) h⟩
theorem en(l:List Nat):txt l=.string (am l):=rfl
end Go.Proofs.YtpljdjmpamjkhaaGreatDoor
