import Derived.Lib.DecodeN
import Derived.Test.YtpljdjmpamjkhaaGreatDoorProg
import Derived.WalkLawsBesides
import Derived.WalkSpells
import Derived.BigQuiet
import Derived.Deep.RegionHeld3
import Derived.Deep.Slices
set_option linter.all false
set_option maxHeartbeats 1000000
set_option maxRecDepth 100000
namespace Go.Proofs.YtpljdjmpamjkhaaGreatDoor
open Tryz
open Go.RowKit Go.Lib
abbrev jgu(w:World)(x:World):Prop:=Below w.heap.size w x
abbrev jgw:=Nat×Int×List Nat
abbrev jgv:=List jgw
def jgt(p:Prop):Prop:=p
def jgt.o{p:Prop}(h:jgt p):p:=h
abbrev jex:=@if_neg
abbrev jey:=@if_pos
abbrev jez:=@Below.refl
abbrev jeA:=@Nat.le_refl
abbrev jeB:=@World.size_alloc
abbrev jeC:=@List.length_append
abbrev jeD:=@List.getElem_mem
abbrev jeE:=@List.length_map
abbrev jeF:=@beq_eq_false_iff_ne
abbrev jeG:=@congrArg
abbrev jeH:=@List.length_take
abbrev jeI:=@List.length_cons
abbrev jeJ:=@List.take_length
abbrev jeK:=@Nat.le_trans
abbrev jeL:=@List.mem_cons
abbrev jeM:=@decide_eq_false
abbrev jeN:=@List.mem_map
abbrev jeO:=@List.take_succ_eq_append_getElem
abbrev jeP:=@decide_eq_true
abbrev jeQ:=@List.append_assoc
abbrev jeR:=@List.map_append
abbrev jeS:=@List.append_nil
abbrev jeT:=@info_parts
abbrev jeU:=@Nat.zero_add
abbrev jeV:=@Nat.le_of_lt
abbrev jeW:=@List.eq_nil_of_length_eq_zero
abbrev jeX:=@List.length_drop
abbrev jeY:=@Nat.lt_of_lt_of_le
abbrev jeZ:=@List.length_nil
abbrev je0:=@Nat.lt_or_ge
abbrev je1:=@List.mem_append
abbrev je2:=@heap_alloc_new
abbrev je3:=@Int.toNat_natCast
abbrev je4:=@List.map_cons
abbrev je5:=@List.cons_append
abbrev je6:=@Nat.mul_comm
abbrev je7:=@List.length_singleton
abbrev je8:=@List.drop_eq_getElem_cons
abbrev je9:=@List.mem_singleton
abbrev jfa:=@List.map_map
abbrev jfb:=@decide_eq_true_eq
abbrev jfc:=@List.drop_left
abbrev jfd:=@Nat.add_mul
abbrev jfe:=@List.drop_drop
abbrev jff:=@Nat.lt_trans
abbrev jfg:=@List.drop_length
abbrev jfh:=@World.ownsRow_nil
abbrev jfi:=@List.take_of_length_le
abbrev jfj:=@List.getD_cons_zero
abbrev jfk:=@Nat.add_zero
abbrev jfl:=@Nat.zero_le
abbrev jfm:=@IntKind.wrap_u64
abbrev jfn:=@List.mem_of_mem_take
abbrev jfo:=@List.take_left
abbrev jfp:=@Nat.min_eq_left
abbrev jfq:=@IntKind.wrap_i64
abbrev jfr:=@List.map_nil
abbrev jfs:=@Nat.eq_zero_or_pos
abbrev jft:=@wpList_make_full
abbrev jfu:=@List.nil_append
abbrev jfv:=@Nat.two_pow_pos
abbrev jfw:=@wpList_append_own_at
abbrev jfx:=@List.map_id
abbrev jfy:=@List.map_congr_left
abbrev jfz:=@List.take_append_drop
abbrev jfA:=@Nat.mod_eq_of_lt
abbrev jfB:=@List.pairwise_cons
abbrev jfC:=@Option.map_some
abbrev jfD:=@Nat.pow_add
abbrev jfE:=@Nat.xor_assoc
abbrev jfF:=@Bool.and_eq_true
abbrev jfG:=@Nat.add_assoc
abbrev jfH:=@List.flatMap_append
abbrev jfI:=@Nat.mul_add
abbrev jfJ:=@Nat.mul_le_mul_left
abbrev jfK:=@Bool.eq_iff_iff
abbrev jfL:=@List.range_succ
abbrev jfM:=@List.drop_eq_nil_of_le
abbrev jfN:=@List.map_toArray
abbrev jfO:=@List.flatten_cons
abbrev jfP:=@List.isPrefixOf_iff_prefix
abbrev jfQ:=@List.flatMap_cons
abbrev jfR:=@Nat.mul_assoc
abbrev jfS:=@List.mem_cons_of_mem
abbrev jfT:=@Nat.one_mul
abbrev jfU:=@decide_eq_false_iff_not
abbrev jfV:=@List.getD_cons_succ
abbrev jfW:=@List.take_zero
abbrev jfX:=@List.mem_filter
abbrev jfY:=@List.getElem_cons_zero
abbrev jfZ:=@toList_madeCells_one
abbrev jf0:=@World.ownsRow_lit
abbrev jf1:=@Nat.pow_le_pow_right
abbrev jf2:=@List.take_succ_cons
abbrev jf3:=@List.map_take
abbrev jf4:=@Nat.sub_self
abbrev jf5:=@List.take_add_one
abbrev jf6:=@List.set_cons_zero
abbrev jf7:=@List.length_set
abbrev jf8:=@Int.eq_ofNat_of_zero_le
abbrev jf9:=@List.filter_append
abbrev jga:=@List.length_range
abbrev jgb:=@run_append_owned_none
abbrev jgc:=@List.not_mem_nil
abbrev jgd:=@List.length_filter_le
abbrev jge:=@Option.bind_eq_some_iff
abbrev jgf:=@Nat.mul_le_mul_right
abbrev jgg:=@List.flatten_append
abbrev jgh:=@List.filter_cons
abbrev jgi:=@List.mem_of_mem_drop
abbrev jgj:=@List.eq_of_mem_replicate
abbrev jgk:=@Option.map_eq_some_iff
abbrev jgl:=@List.pairwise_iff_getElem
abbrev jgm:=@Nat.xor_lt_two_pow
abbrev jgn:=@List.set_cons_succ
abbrev jgo:=@run_eql_slice_nil
abbrev jgp:=@List.getElem_append_left
abbrev jgq:=@Nat.lt_of_le_of_lt
abbrev jgr:=@List.setIfInBounds_toArray
abbrev jgs:=@List.mem_take_iff_getElem
open Go
open Go.Lib (decodeN)
def aK(l:List UInt8):Nat×Nat:=decodeN l.length (l.getD 0 0).toNat (l.getD 1 0).toNat (l.getD 2 0).toNat (l.getD 3 0).toNat
def vr(c:Nat):Prop:=c<55296∨(57344<=c/\c<=1114111)
def bt(n:Nat):UInt8:=UInt8.ofNat n
def bM{n:Nat}(h:n<256):(bt n).toNat=n:=by
 simp[bt];omega
def cW(c:Nat):List UInt8 :=
 if c<128 then [bt c]
 else if c<2048 then [bt (192+c / 64),bt (128+c % 64)]
 else if c<65536 then [bt (224+c / 4096),bt (128+c / 64 % 64),bt (128+c % 64)]
 else [bt (240+c / 262144),bt (128+c / 4096 % 64),bt (128+c / 64 % 64),bt (128+c % 64)]
def MZ(c:Nat)(h:vr c):(Utf8.encode (c:Int)).data.toList=cW c:=by
 have hv:Utf8.valid (c:Int)=true:=by
  simp only[Utf8.valid,vr]at *;rcases h with h | h
  ·simp;omega
  ·simp;omega
 simp only[Utf8.encode,hv,if_true,je3,cW];repeat' split
 all_goals rfl
def gW(c:Nat):1<=(cW c).length/\(cW c).length<=4:=by
 unfold cW;repeat' split
 all_goals simp
def XY(l:List UInt8)(k:Nat):(l.getD k 0).toNat<256:=UInt8.toNat_lt _
def Dm(c:Nat)(h:vr c)(y:List UInt8):aK (cW c++y)=(c,(cW c).length):=by
 unfold vr at h;unfold cW;split
 ·simp only[aK,je5,jfu,jfj,jeI]
  rw[bM (by omega)];simp only[decodeN];rw[jey (by omega)];rfl
 ·split
  ·simp only[aK,je5,jfu,jfj,jfV,jeI]
   rw[bM (by omega),bM (by omega)];simp only[decodeN];rw[jex (by omega),jey (by omega),jey (by omega)];congr 1
   omega
  ·split
   ·simp only[aK,je5,jfu,jfj,jfV,jeI]
    rw[bM (by omega),bM (by omega),bM (by omega)];simp only[decodeN];rw[jex (by omega),jex (by omega),jey (by omega),jey (by omega)];congr 1
    omega
   ·simp only[aK,je5,jfu,jfj,jfV,jeI]
    rw[bM (by omega),bM (by omega),bM (by omega),bM (by omega)];simp only[decodeN];rw[jex (by omega),jex (by omega),jex (by omega),jey (by omega),jey (by omega)];congr 1
    omega
def oY(x:UInt8)(n:Nat)(h:x.toNat=n):x=bt n:=by
 subst h;simp[bt]
def ok(u:Nat×Nat):Bool:=!(u.1==65533 && u.2==1)
def iG{c w:Nat}(h:w≠1):ok (c,w)=true:=by simp[ok,h]
def ml(l:List UInt8)(hl:l≠[]):aK l=(65533,1)∨(vr (aK l).1/\(aK l).2=(cW (aK l).1).length/\(aK l).1≠65533∨aK l=(65533,3))/\∃ y,l=cW (aK l).1++y:=by
 match l,hl with
 | b0::t,_ =>
  have h0:b0.toNat<256:=UInt8.toNat_lt _;by_cases ha:b0.toNat<128
  ·right
   have hu:aK (b0::t)=(b0.toNat,1):=by simp only[aK,jfj,decodeN];rw[jey ha]
   rw[hu];have he:cW b0.toNat=[b0]:=by simp only[cW];rw[jey ha,<- oY b0 _ rfl]
   refine⟨Or.inl ⟨Or.inl (by show b0.toNat<55296;omega),by simp[he],by simp;omega⟩,t,by simp[he]⟩
  ·by_cases h2:194<=b0.toNat/\b0.toNat<224
   ·cases t with
    | nil=>left;simp only[aK,decodeN,jfj,jeI,jeZ];rw[jex ha,jex (by omega),jex (by omega),jex (by omega)]
    | cons b1 t =>
     have h1:b1.toNat<256:=UInt8.toNat_lt _;by_cases hc:b1.toNat / 64=2
     ·right
      have hu:aK (b0::b1::t)=(b0.toNat % 32*64+b1.toNat % 64,2):=by simp only[aK,jfj,jfV,jeI,decodeN];rw[jex ha,jey (by omega),jey (by omega)]
      rw[hu]
      have he:cW (b0.toNat % 32*64+b1.toNat % 64)=[b0,b1]:=by
       simp only[cW];rw[jex (by omega),jey (by omega),<- oY b0 _ (by omega),<- oY b1 _ (by omega)]
      refine⟨Or.inl ⟨Or.inl (by simp only;omega),by simp[he],by simp only;omega⟩,t,by simp[he]⟩
     ·left
      simp only[aK,jfj,jfV,jeI,decodeN];rw[jex ha,jex (by omega),jex (by omega),jex (by omega)]
   ·by_cases h3:224<=b0.toNat/\b0.toNat<240
    ·match t with
     | []=>left;simp only[aK,decodeN,jfj,jeI,jeZ];rw[jex ha,jex (by omega),jex (by omega),jex (by omega)]
     | [b1]=>left;simp only[aK,decodeN,jfj,jeI,jeZ];rw[jex ha,jex (by omega),jex (by omega),jex (by omega)]
     | b1::b2::t =>
      have h1:b1.toNat<256:=UInt8.toNat_lt _;have h2':b2.toNat<256:=UInt8.toNat_lt _;generalize hn:b0.toNat % 16*4096+b1.toNat % 64*64+b2.toNat % 64=n;by_cases hc:b1.toNat / 64=2/\b2.toNat / 64=2/\n>=2048/\(n<55296∨(57344<=n/\n<=1114111))
      ·right
       have hu:aK (b0::b1::b2::t)=(n,3):=by simp only[aK,jfj,jfV,jeI,decodeN];rw[hn,jex ha,jex (by omega),jey (by omega),jey (by omega)]
       rw[hu]
       have he:cW n=[b0,b1,b2]:=by
        simp only[cW];rw[jex (by omega),jex (by omega),jey (by omega),<- oY b0 _ (by omega),<- oY b1 _ (by omega),<- oY b2 _ (by omega)]
       refine⟨?_,t,by simp[he]⟩;by_cases dC:n=65533
       ·right;rw[dC]
       ·exact Or.inl ⟨by simp only[vr];omega,by simp[he],dC⟩
      ·left
       simp only[aK,jfj,jfV,jeI,decodeN];rw[hn,jex ha,jex (by omega)];split
       ·rw[jex (by omega)]
       ·rw[jex (by omega)]
    ·by_cases h4:240<=b0.toNat/\b0.toNat<248
     ·match t with
      | []=>left;simp only[aK,decodeN,jfj,jeI,jeZ];rw[jex ha,jex (by omega),jex (by omega),jex (by omega)]
      | [b1]=>left;simp only[aK,decodeN,jfj,jeI,jeZ];rw[jex ha,jex (by omega),jex (by omega),jex (by omega)]
      | [b1,b2]=>left;simp only[aK,decodeN,jfj,jeI,jeZ];rw[jex ha,jex (by omega),jex (by omega),jex (by omega)]
      | b1::b2::b3::t =>
       have h1:b1.toNat<256:=UInt8.toNat_lt _;have h2':b2.toNat<256:=UInt8.toNat_lt _;have h3':b3.toNat<256:=UInt8.toNat_lt _;generalize hn:b0.toNat % 8*262144+b1.toNat % 64*4096+b2.toNat % 64*64+b3.toNat % 64=n;by_cases hc:b1.toNat / 64=2/\b2.toNat / 64=2/\b3.toNat / 64=2/\n>=65536/\(n<55296∨(57344<=n/\n<=1114111))
       ·right
        have hu:aK (b0::b1::b2::b3::t)=(n,4):=by simp only[aK,jfj,jfV,jeI,decodeN];rw[hn,jex ha,jex (by omega),jex (by omega),jey (by omega),jey (by omega)]
        rw[hu]
        have he:cW n=[b0,b1,b2,b3]:=by
         simp only[cW];rw[jex (by omega),jex (by omega),jex (by omega),<- oY b0 _ (by omega),<- oY b1 _ (by omega),<- oY b2 _ (by omega),<- oY b3 _ (by omega)]
        refine⟨?_,t,by simp[he]⟩;exact Or.inl ⟨by simp only[vr];omega,by simp[he],by omega⟩
       ·left
        simp only[aK,jfj,jfV,jeI,decodeN];rw[hn,jex ha,jex (by omega),jex (by omega)];split
        ·rw[jex (by omega)]
        ·rfl
     ·left
      simp only[aK,jfj,decodeN];rw[jex ha];split
      ·rw[jex (by have:=XY (b0::t) 1;omega)]
      ·rw[jex (by omega),jex (by omega)]
def cC(l:List UInt8)(hl:l≠[]):1<=(aK l).2/\(aK l).2<=l.length:=by
 have Wm:1<=l.length:=by cases l with | nil=>exact absurd rfl hl | cons=>simp
 rcases ml l hl with h | ⟨h,y,hy⟩
 ·rw[h];exact⟨jeA _,Wm⟩
 ·rcases h with ⟨_,h,_⟩ | h
  ·have:=gW (aK l).1
   have bH:=jeG List.length hy;simp at bH
   omega
  ·have bH:=jeG List.length hy
   rw[h]at bH ⊢;have:(cW 65533).length=3:=by decide
   simp[this]at bH
   simp
   omega
def LE(l:List UInt8)(hl:l≠[]):vr (aK l).1:=by
 rcases ml l hl with h | ⟨⟨h,_⟩ | h,_⟩
 ·rw[h];simp[vr]
 ·exact h
 ·rw[h];simp[vr]
def us:Nat->List UInt8->List (Nat×Nat)
 | 0,_=>[]
 | _+1,[]=>[]
 | f+1,b::t=>aK (b::t)::us f ((b::t).drop (aK (b::t)).2)
def V(l:List UInt8):List (Nat×Nat):=us l.length l
def XZ:∀(f:Nat) (l:List UInt8),l.length<=f->∀ g,l.length<=g->us f l=us g l:=by
 intro f;induction f with
 | zero=>intro l h g hg;cases l with | nil=>cases g<;>rfl | cons=>simp at h
 | succ f ih =>
  intro l h g hg;cases l with
  | nil=>cases g<;>rfl
  | cons b t =>
   cases g with
   | zero=>simp at hg
   | succ g =>
    have hw:=cC (b::t) (by simp);simp only[us];congr 1
    simp at h hg hw
    exact ih _ (by simp;omega) _ (by simp;omega)
@[simp] theorem V_nil:V []=[]:=rfl
def nj{l:List UInt8}(hl:l≠[]):V l=aK l::V (l.drop (aK l).2):=by
 cases l with
 | nil=>exact absurd rfl hl
 | cons b t =>
  have hw:=cC (b::t) (by simp);show us (t.length+1) (b::t)=_
  simp only[us];congr 1
  simp at hw
  exact XZ _ _ (by simp;omega) _ (by simp)
def RZ:∀(n:Nat) (l:List UInt8),l.length<=n->(V l).length<=l.length:=by
 intro n;induction n with
 | zero=>intro l h;cases l with | nil=>simp | cons=>simp at h
 | succ n ih =>
  intro l h;by_cases hl:l=[]
  ·subst hl;simp
  ·rw[nj hl]
   have hw:=cC l hl;have:=ih (l.drop (aK l).2) (by simp;omega);simp at this ⊢
   omega
def sM(l:List UInt8):(V l).length<=l.length:=RZ _ l (jeA _)
def Ya:∀(n:Nat) (l:List UInt8),l.length<=n->∀ u∈V l,vr u.1/\1<=u.2:=by
 intro n;induction n with
 | zero=>intro l h;cases l with | nil=>simp | cons=>simp at h
 | succ n ih =>
  intro l h u hu;by_cases hl:l=[]
  ·subst hl;simp at hu
  ·rw[nj hl]at hu
   have hw:=cC l hl;simp at hu
   rcases hu with rfl | hu
   ·exact⟨LE l hl,hw.1⟩
   ·exact ih _ (by simp;omega) u hu
def jbL(c:Nat)(y:List UInt8):cW c++y≠[]:=by
 have:=gW c;intro h;have h2:=jeG List.length h;simp at h2
 rw[h2.1]at this;simp at this
def V_enc{c:Nat}(h:vr c)(y:List UInt8):V (cW c++y)=(c,(cW c).length)::V y:=by
 rw[nj (jbL c y),Dm c h y];simp
def eu(c:Nat):Nat×Nat:=(c,(cW c).length)
def lq(rs:List Nat):List UInt8:=rs.flatMap cW
@[simp] theorem flat_nil:lq []=[]:=rfl
@[simp] theorem flat_cons (c:Nat) (rs:List Nat):lq (c::rs)=cW c++lq rs:=rfl
@[simp] theorem flat_append (a b:List Nat):lq (a++b)=lq a++lq b:=by simp[lq]
def jbM(rs:List Nat)(h:∀ r∈rs,vr r)(y:List UInt8):V (lq rs++y)=rs.map eu++V y:=by
 induction rs with
 | nil=>rfl
 | cons c rs ih =>
  rw[flat_cons,jeQ,V_enc (h c (by simp))];rw[ih (λr hr=>h r (by simp[hr]))];rfl
def cX(l:List UInt8):Bool:=(V l).all ok
def br(l:List UInt8):List Nat:=(V l).map Prod.fst
def qv(rs:List Nat)(h:∀ r∈rs,vr r):V (lq rs)=rs.map eu:=by
 have:=jbM rs h [];simpa using this
def Yb{l:List UInt8}(hl:l≠[])(ho:ok (aK l)=true):aK l=eu (aK l).1/\∃ y,l=cW (aK l).1++y:=by
 rcases ml l hl with h | ⟨h,y,hy⟩
 ·rw[h]at ho;simp[ok]at ho
 ·refine⟨?_,y,hy⟩
  rcases h with ⟨_,h,_⟩ | h
  ·exact Prod.ext rfl h
  ·rw[h];decide
def lr:∀(n:Nat) (l:List UInt8),l.length<=n->cX l=true->l=lq (br l)/\V l=(br l).map eu:=by
 intro n;induction n with
 | zero=>intro l h hc;cases l with | nil=>exact⟨rfl,rfl⟩ | cons=>simp at h
 | succ n ih =>
  intro l h hc;by_cases hl:l=[]
  ·subst hl;exact⟨rfl,rfl⟩
  ·have hw:=cC l hl
   unfold cX at hc;rw[nj hl,List.all_cons,jfF]at hc;obtain⟨hu,y,hy⟩:=Yb hl hc.1
   have hd:l.drop (aK l).2=y:=by
    have h2:(aK l).2=(cW (aK l).1).length:=jeG Prod.snd hu;rw[h2];conv=>lhs;arg 2;rw[hy]
    simp
   obtain⟨e1,e2⟩:=ih (l.drop (aK l).2) (by simp;omega) hc.2
   have hr:br l=(aK l).1::br (l.drop (aK l).2):=by
    unfold br;rw[nj hl];rfl
   rw[hr];constructor
   ·rw[flat_cons,<- e1,hd];exact hy
   ·rw[nj hl,e2,je4,<- hu]
def Dn{l:List UInt8}(h:cX l=true):l=lq (br l):=(lr _ l (jeA _) h).1
def AW{l:List UInt8}(h:cX l=true):V l=(br l).map eu:=(lr _ l (jeA _) h).2
def Do(l:List UInt8):∀ r∈br l,vr r:=by
 intro r hr;simp[br]at hr
 obtain⟨w,hw⟩:=hr;exact(Ya _ l (jeA _) _ hw).1
def eo(u:List (Nat×Nat))(k:Nat):Nat:=((u.take k).map Prod.snd).sum
@[simp] theorem offs_zero (u:List (Nat×Nat)):eo u 0=0:=by simp[eo]
def zr{u t:List (Nat×Nat)}{k:Nat}{x:Nat×Nat}(h:u.drop k=x::t):eo u (k+1)=eo u k+x.2:=by
 have hk:k<u.length:=by
  rcases je0 k u.length with h1 | h1
  ·exact h1
  ·rw[jfM h1]at h;cases h
 have hx:u[k]=x:=by
  rw[je8 hk]at h;exact(List.cons.inj h).1
 unfold eo;rw[jeO hk,hx];simp
def zt{u t:List (Nat×Nat)}{k:Nat}{x:Nat×Nat}(h:u.drop k=x::t):u.drop (k+1)=t:=by
 rw[<- jfe,h];rfl
def At(l:List UInt8)(p k:Nat):Prop:=p<=l.length/\V (l.drop p)=(V l).drop k/\p=eo (V l) k/\k<=(V l).length
def At.zero(l:List UInt8):At l 0 0:=⟨by omega,by simp,by simp,by omega⟩
def gX{l:List UInt8}{p:Nat}(h:p<l.length):l.drop p≠[]:=by
 intro h2;have:=jeG List.length h2;simp at this
 omega
def At.lt{l:List UInt8}{p k:Nat}(h:At l p k)(hp:p<l.length):(V l).drop k=aK (l.drop p)::V (l.drop (p+(aK (l.drop p)).2)):=by
 rw[<- h.2.1,nj (gX hp),jfe]
def At.len{l:List UInt8}{p k:Nat}(h:At l p k)(hp:p<l.length):k<(V l).length:=by
 have h1:=h.lt hp;rcases je0 k (V l).length with h2 | h2
 ·exact h2
 ·rw[jfM h2]at h1;cases h1
def At.get{l:List UInt8}{p k:Nat}(h:At l p k)(hp:p<l.length):(V l)[k]?=some (aK (l.drop p)):=by
 have h1:=h.lt hp;have hk:=h.len hp;rw[je8 hk]at h1;rw[List.getElem?_eq_getElem hk,(List.cons.inj h1).1]
def At.next{l:List UInt8}{p k:Nat}(h:At l p k)(hp:p<l.length):At l (p+(aK (l.drop p)).2) (k+1):=by
 have h1:=h.lt hp;have hw:=cC _ (gX hp);simp at hw
 refine⟨by omega,?_,?_,h.len hp⟩
 ·rw[zt h1]
 ·rw[zr h1,<- h.2.2.1]
def At.end{l:List UInt8}{p k:Nat}(h:At l p k)(hp:¬ p<l.length):k=(V l).length/\p=l.length:=by
 have h1:=h.2.1;rw[jfM (by omega)]at h1;have h2:=jeG List.length h1;simp at h2
 have:=h.2.2.2;have:=h.1;exact⟨by omega,by omega⟩
def wi{l:List UInt8}{p k:Nat}(h:At l p k)(hp:p<l.length):((V l).take (k+1))=(V l).take k++[aK (l.drop p)]:=by
 have hk:=h.len hp;have hg:=h.get hp;rw[List.getElem?_eq_getElem hk]at hg;rw[jeO hk,Option.some.inj hg]
def AX{l:List UInt8}(hl:l≠[])(h:(aK l).1=65533):([239,191,189]:List UInt8).isPrefixOf l=ok (aK l):=by
 rcases ml l hl with hu | ⟨hu,y,hy⟩
 ·rw[hu]
  cases hp:([239,191,189]:List UInt8).isPrefixOf l with
  | false=>rfl
  | true =>
   exfalso
   obtain⟨y,hy⟩:=jfP.1 hp
   have h2:aK l=(65533,3):=by
    rw[<- hy];exact Dm 65533 (by simp[vr]) y
   rw[hu]at h2;cases h2
 ·rw[h]at hy
  have hu3:aK l=(65533,3):=by
   rcases hu with ⟨_,_,h2⟩ | h2
   ·exact absurd h h2
   ·exact h2
  rw[hu3,hy];have:cW 65533=[239,191,189]:=by decide
  rw[this];simp[ok]
def Dp(s:ByteArray)(p:Nat):Utf8.decode s p=aK (s.data.toList.drop p):=by
 have hg:∀ k,s.get! k=s.data.toList.getD k 0:=by
  intro k;show s.data[k]! = _
  by_cases h:k<s.data.size
  ·rw[getElem!_pos s.data k h,List.getD_eq_getElem?_getD,Array.getElem?_toList,Array.getElem?_eq_getElem h]
   rfl
  ·rw[getElem!_neg s.data k h,List.getD_eq_getElem?_getD,Array.getElem?_toList,Array.getElem?_eq_none (by omega)]
   rfl
 have hd:∀ k,(s.data.toList.drop p).getD k 0=s.data.toList.getD (p+k) 0:=by
  intro k;simp[List.getD_eq_getElem?_getD]
 rw[Lib.decode_at,hg,hg,hg,hg];unfold aK;have lA:(s.data.toList.drop p).length=s.size-p:=by rw[jeX];rfl
 rw[hd,hd,hd,hd,lA];rfl
open Go.Lib
def I64(x:Int):Prop:=-9223372036854775808<=x/\x<=9223372036854775807
def mn{n:Nat}(h:n<256):(n.toUInt8).toNat=n:=by
 show (UInt8.ofNat n).toNat=n
 rw[UInt8.toNat_ofNat'];omega
def kU{l:List Nat}(h:∀ x∈l,x<256):(l.map Nat.toUInt8).map UInt8.toNat=l:=by
 rw[jfa];conv=>rhs;rw[<- jfx l]
 apply jfy
 intro a ha;exact mn (h a ha)
abbrev Fd:=Nat×ByteArray×Nat×Bool
abbrev Cl:=Nat×Int×List Nat
def nul:Cl:=(0,0,[])
def Bs(l:List Nat):Prop:=∀ x∈l,x<256
def lb(s:ByteArray):List UInt8:=s.data.toList
def bK(s:ByteArray):(lb s).length=s.size:=rfl
def gm(c:Nat):Bool:=decide (97<=c/\c<=122) || decide (c=95) || decide (127<c)
def dU(c:Nat):Bool:=decide (48<=c/\c<=57)
def kV(k c:Nat):Bool:=gm c || (dU c && decide (0<k))
def di:Nat->List (Nat×Nat)->Bool
 | _,[]=>true
 | k,x::t=>kV k x.1 && di (k+1) t
def named(s:ByteArray):Bool:=decide (1<=s.size/\s.size<=16) && cX (lb s) && di 0 (V (lb s))
def oO(l:List Fd)(n:ByteArray):Bool:=l.any λf=>decide (f.2.1=n)
def free(l:List Fd)(n:ByteArray):Bool:=named n && !oO l n
def eB(l:List Fd):Nat:=match l.getLast? with
 | none=>0
 | some f=>f.1
def kW(k:Nat):Bool:=decide (1<=k/\k<=3)
def fS(a:List Fd)(f:Fd):Nat :=
 if f.1<=eB a then 81 else if free a f.2.1=false then 80 else if kW f.2.2.1=false then 10
 else if (f.2.2.2 != decide (a.length=0))=true∨(a.length=0/\f.2.2.1=2) then 82 else 0
def fe(a:List Fd):List Fd->Nat
 | []=>0
 | f::t=>if fS a f=0 then fe (a++[f]) t else fS a f
def chk(id:Nat)(l:List Fd):Nat:=if id=0∨l.length=0∨8<l.length then 1 else fe [] l
def qw(f:Fd)(c:Cl):Nat :=
 if c.1=0 then (if f.2.2.2=true then 82 else 0) else if c.1≠f.2.2.1 then 10 else if 64<c.2.2.length then 5 else 0
def qx:List Fd->List Cl->Nat
 | f::t,c::r=>if qw f c=0 then qx t r else qw f c
 | [],_=>0
 | _::_,[]=>0
def iY(l:List Fd)(r:List Cl):Nat:=if r.length≠l.length then 1 else qx l r
def iH(id:Nat):Nat->List Fd->Option Nat
 | _,[]=>none
 | k,f::t=>if f.1=id then some k else iH id (k+1) t
def dV(l:List Fd)(id:Nat):Option Nat:=iH id 0 l
def Okf(f:Fd):Prop:=f.1<4294967296/\f.2.2.1<256
def Na{l:List Fd}(h:0<l.length):eB l=(l[l.length-1]'(by omega)).1:=by
 unfold eB;rw[List.getLast?_eq_getElem?,List.getElem?_eq_getElem (by omega)]
def qz(l:List Fd)(f:Fd):eB (l++[f])=f.1:=by
 unfold eB;simp
def GX{l:List Fd}{i:Nat}(h:i<l.length):eB (l.take (i+1))=l[i].1:=by
 rw[jeO h,qz]
def LF{l:List Fd}{i:Nat}(h:i<l.length):fe (l.take i) (l.drop i)=if fS (l.take i) l[i]=0 then fe (l.take (i+1)) (l.drop (i+1)) else fS (l.take i) l[i]:=by
 rw[je8 h,fe,jeO h]
def Sa(l:List Fd):fe (l.take l.length) (l.drop l.length)=0:=by
 rw[jfg];rfl
def zu{l:List Fd}{i:Nat}{n:ByteArray}(h:i<l.length):oO (l.drop i) n=(decide (l[i].2.1=n) || oO (l.drop (i+1)) n):=by
 rw[je8 h];unfold oO;rw[List.any_cons]
def tW{l:List Fd}{i id:Nat}(h:i<l.length):iH id i (l.drop i)=if l[i].1=id then some i else iH id (i+1) (l.drop (i+1)):=by
 rw[je8 h,iH]
def wl(l:List Fd)(id:Nat):iH id l.length (l.drop l.length)=none:=by rw[jfg];rfl
def zv{id:Nat}:∀{l:List Fd} {k j:Nat},iH id k l=some j->k<=j/\j<k+l.length
 | [],k,j,h=>by simp[iH]at h
 | f::t,k,j,h=>by
  unfold iH at h;by_cases hf:f.1=id
  ·rw[jey hf]at h
   have:=Option.some.inj h;simp
   omega
  ·rw[jex hf]at h
   have:=zv h;simp
   omega
def wm{l:List Fd}{id j:Nat}(h:dV l id=some j):j<l.length:=by have:=zv h;omega
def zw{l:List Fd}{r:List Cl}{i:Nat}(h:i<l.length)(h2:i<r.length):qx (l.drop i) (r.drop i)=if qw l[i] r[i]=0 then qx (l.drop (i+1)) (r.drop (i+1)) else qw l[i] r[i]:=by
 rw[je8 h,je8 h2,qx]
def Dq(l:List Fd)(r:List Cl):qx (l.drop l.length) r=0:=by
 rw[jfg];unfold qx;rfl
def oZ{k:Nat}{x:Nat×Nat}{t:List (Nat×Nat)}:di k (x::t)=(kV k x.1 && di (k+1) t):=rfl
def Rise(l:List Fd):Prop:=l.Pairwise λa b=>a.1<b.1
def LG:∀{l a:List Fd},fe a l=0->(∀ f∈a,f.1<=eB a)->(∀ f∈l,eB a<f.1)/\Rise l
 | [],a,_,_=>⟨λf hf=>by simp at hf,List.Pairwise.nil⟩
 | g::t,a,h,ha=>by
  unfold fe at h;by_cases h0:fS a g=0
  ·rw[jey h0]at h
   have hg:eB a<g.1:=by
    unfold fS at h0;by_cases h1:g.1<=eB a
    ·rw[jey h1]at h0;omega
    ·omega
   have QM:=qz a g
   have ha2:∀ f∈a++[g],f.1<=eB (a++[g]):=by
    intro f hf;rw[QM];rcases je1.1 hf with hf | hf
    ·have:=ha f hf;omega
    ·have:f=g:=by simpa using hf
     rw[this];exact jeA _
   obtain⟨h3,h4⟩:=LG h ha2;rw[QM]at h3;refine⟨λf hf=>?_,?_⟩
   ·rcases jeL.1 hf with rfl | hf
    ·exact hg
    ·have:=h3 f hf;omega
   ·exact List.Pairwise.cons (λf hf=>h3 f hf) h4
  ·rw[jex h0]at h;exact absurd h h0
def qA{id:Nat}{l:List Fd}(h:chk id l=0):Rise l/\0<l.length/\l.length<=8/\0<id:=by
 unfold chk at h;by_cases h0:id=0∨l.length=0∨8<l.length
 ·rw[jey h0]at h;omega
 ·rw[jex h0]at h
  refine⟨(LG h (λf hf=>by simp at hf)).2,by omega,by omega,by omega⟩
def ob{l:List Fd}{row:List Cl}(h:iY l row=0):row.length=l.length:=by
 unfold iY at h;by_cases hl:row.length≠l.length
 ·rw[jey hl]at h;omega
 ·omega
def bytesT(l:List Nat):ByteArray:=⟨(l.map Nat.toUInt8).toArray⟩
def ei(s:ByteArray):List Nat:=s.toList.map UInt8.toNat
def dE(l:List Nat):(bytesT l).toList=l.map Nat.toUInt8:=by
 rw[ByteArray.toList_eq];rfl
def be(l:List Nat):(bytesT l).size=l.length:=by
 show (l.map Nat.toUInt8).toArray.size=l.length
 simp
def dF:bytesT []=⟨#[]⟩:=rfl
def wo(s:ByteArray):Bs (ei s):=λx hx=>by
 obtain⟨y,_,rfl⟩:=jeN.1 hx;exact y.toNat_lt
def lG(s:ByteArray):(ei s).length=s.size:=by
 unfold ei;rw[jeE,ByteArray.toList_eq];rfl
def nk(s:ByteArray):bytesT (ei s)=s:=by
 have h:(ei s).map Nat.toUInt8=s.toList:=by
  unfold ei;rw[jfa];conv=>rhs;rw[<- jfx s.toList]
  apply jfy
  intro x _;simp
 unfold bytesT;rw[h,ByteArray.toList_eq]
def iZ(b:Bool):Nat:=if b=true then 1 else 0
def szs(l:List Fd):Nat:=(l.map λf=>f.2.1.size).sum
def yv{l:List Fd}{i:Nat}(h:i<l.length):szs (l.take (i+1))=szs (l.take i)+l[i].2.1.size:=by
 unfold szs;rw[jeO h,jeR,List.sum_append];simp only[je4,jfr,List.sum_cons,List.sum_nil,jfk]
def LH{l:List Fd}{f:Fd}(h:f∈l):f.2.1.size<=szs l:=by
 induction l with
 | nil=>simp at h
 | cons g t ih =>
  unfold szs at *;simp only[je4,List.sum_cons];rcases jeL.1 h with rfl | h
  ·omega
  ·have:=ih h;omega
def tX(l:List Fd)(i:Nat):szs (l.take i)<=szs l:=by
 have:szs l=szs (l.take i)+szs (l.drop i):=by
  conv=>lhs;rw[<- jfz i l]
  unfold szs;rw[jeR,List.sum_append]
 omega
def Bs.app{a b:List Nat}(ha:Bs a)(hb:Bs b):Bs (a++b):=λx hx=>by
 rcases je1.1 hx with h | h
 ·exact ha x h
 ·exact hb x h
def Bs.drop{a:List Nat}(ha:Bs a)(k:Nat):Bs (a.drop k):=λx hx=>ha x (jgi hx)
def Bs.take{a:List Nat}(ha:Bs a)(k:Nat):Bs (a.take k):=λx hx=>ha x (jfn hx)
def textR(n:Nat)(r:List Nat):Except Nat (ByteArray×List Nat):=if r.length<n then .error 30 else .ok (bytesT (r.take n),r.drop n)
def Rds{α : Type}(m:List Nat->Except Nat (α×List Nat))(l:List Nat)(f:Nat)(x:α)(l':List Nat)(f':Nat):Prop :=
 (f=0->m l=if f'=0 then .ok (x,l') else .error f')/\(f≠0->f'=f)
def Rds.pure{α : Type}(x:α)(l:List Nat)(f:Nat):Rds (λb=>.ok (x,b)) l f x l f:=by
 refine⟨λh0=>?_,λ_=>rfl⟩;rw[jey h0]
def Rds.dead{α : Type}{m:List Nat->Except Nat (α×List Nat)}{l l':List Nat}{f:Nat}(x:α)(h:f≠0):Rds m l f x l' f:=⟨λh0=>absurd h0 h,λ_=>rfl⟩
def AY{α : Type}(m:List Nat->Except Nat (α×List Nat))(e:List Nat)(x:α):Prop:=∀ r,m (e++r)=.ok (x,r)∨∃ c,c≠0/\m (e++r)=.error c
def uX{α : Type}(m:List Nat->Except Nat (α×List Nat))(e:List Nat)(x:α):Prop:=∀ r,m (e++r)=.ok (x,r)
def wt(s:ByteArray):uX (textR s.size) (ei s) s:=by
 intro r;unfold textR;have hl:=lG s;rw[jex (by simp;omega),<- hl,jfo,jfc,nk]
def uX.eith{α : Type}{m:List Nat->Except Nat (α×List Nat)}{e:List Nat}{x:α}(h:uX m e x):AY m e x:=λr=>Or.inl (h r)
def zx{α : Type}(x:α):uX (λb=>.ok (x,b)) [] x:=λr=>rfl
def Dr(b:Bool):decide (iZ b=1)=b:=by cases b<;>rfl
def qB:∀{l a:List Fd},fe a l=0->∀ f∈l,f.2.1.size<=16
 | [],a,_,f,hf=>by simp at hf
 | g::t,a,h,f,hf=>by
  unfold fe at h;by_cases h0:fS a g=0
  ·rw[jey h0]at h
   rcases jeL.1 hf with rfl | hf
   ·unfold fS at h0
    by_cases h1:f.1<=eB a
    ·rw[jey h1]at h0;omega
    ·rw[jex h1]at h0
     by_cases h2:free a f.2.1=false
     ·rw[jey h2]at h0;omega
     ·have h3:free a f.2.1=true:=by simpa using h2
      unfold free named at h3;simp at h3
      omega
   ·exact qB h f hf
  ·rw[jex h0]at h;exact absurd h h0
open Go.RowKit
def ae{p:Prop}(h:p):jgt p:=h
def aA(k:IntKind)(l:List Nat):List Value:=l.map λ(n:Nat)=>Value.int k (n:Int)
def ek(k:IntKind)(a b:List Nat):aA k (a++b)=aA k a++aA k b:=jeR
def am(k:IntKind)(a:List Nat):(aA k a).length=a.length:=jeE _
def bN{k:IntKind}{l:List Nat}{j:Nat}(h:j<l.length):(aA k l)[j]?=some (.int k (l[j]:Int)):=by simp[aA,h]
def lH(k:IntKind)(l:List Nat)(j c:Nat):(aA k l).set j (.int k (c:Int))=aA k (l.set j c):=by simp[aA,List.map_set]
def jM(k:IntKind)(l:List Nat):∀ u∈aA k l,u.oneCell'=true:=by
 intro u hu;obtain⟨b,_,rfl⟩:=jeN.1 hu;rfl
def nl:(prog.info? 5).map (λi=>(i.zero,i.size,i.bytes))=some (some (.int .u8 0),1,1):=by kernel_rfl
def oP(g j:Nat):(⟨g,0,none⟩:Addr).add j=⟨g,j,none⟩:=by unfold Addr.add;split<;>simp_all
def kP(b off j:Nat):(⟨b,off,none⟩:Addr).add j=⟨b,off+j,none⟩:=by unfold Addr.add;split<;>simp_all
def bv{w w':World}{B e size n:Nat}{v:Value}{xs:List Value}(h:w.ownsRow B e size v n xs)(hb:jgu w w'):w'.ownsRow B e size v n xs:=by
 obtain⟨hl,h⟩:=h;refine⟨hl,?_⟩;rcases h with h | ⟨g,cap,cur,h1,h2,h3,h4⟩
 ·exact Or.inl h
 ·have hg:g<w.heap.size:=by
   rcases je0 g w.heap.size with hg | hg
   ·exact hg
   ·rw[Array.getElem?_eq_none hg]at h3;cases h3
  exact Or.inr ⟨g,cap,cur,h1,h2,(hb.block g hg).trans h3,h4⟩
def Sx(k:IntKind)(W:World)(v:Value)(l:List Nat):Prop :=
 ∃ a cap,v=.slice a l.length cap/\l.length<=maxLen /\
  (0<l.length->∃ b off,a=some ⟨b,off,none⟩/\b<W.heap.size/\∀ j (h:j<l.length),W.cell? ⟨b,off+j,none⟩=some (.int k (l[j]:Int)))
def Sx.kept{k:IntKind}{W W':World}{v:Value}{l:List Nat}(h:Sx k W v l)(hb:jgu W W'):Sx k W' v l:=by
 obtain⟨a,cap,rfl,h1,h3⟩:=h;refine⟨a,cap,rfl,h1,λh0=>?_⟩;obtain⟨b,off,rfl,h4,h5⟩:=h3 h0;exact⟨b,off,rfl,jeY h4 hb.size,λj hj=>(hb.cell (p:=⟨b,off+j,none⟩) h4).trans (h5 j hj)⟩
def Sx.of_own{k:IntKind}{W:World}{B e n:Nat}{v:Value}{l:List Nat}(h:W.ownsRow B e 1 v n (aA k l)):Sx k W v l:=by
 have hl:l.length=n:=by have:=h.1;simpa [aA]using this
 obtain⟨_,h1⟩:=id h;rcases h1 with ⟨rfl,rfl⟩ | ⟨g,cap,cur,rfl,hb,hg,h4,h5,_⟩
 ·exact⟨none,0,by rw[hl],by unfold maxLen;omega,λh0=>by omega⟩
 ·refine⟨_,cap,by rw[hl],by omega,λ_=>⟨g,0,rfl,(Array.getElem?_eq_some_iff.1 hg).1,λj hj=>?_⟩⟩
  have:=h.cells (g:=g) rfl j _ (bN hj);rw[oP]at this;rwa[jeU]
def txt(l:List Nat):Value:=.string ⟨(l.map Nat.toUInt8).toArray⟩
def Sx.conv{W:World}{v:Value}{l:List Nat}(h:Sx .u8 W v l)(h8:∀ x∈l,x<256):(convert 30 9 v).run prog W=.ok (txt l) W:=by
 obtain⟨a,cap,rfl,h1,h3⟩:=h;rcases jfs l.length with h0 | hp
 ·obtain rfl:l=[]:=jeW h0
  first
   | exact run_convert_bytes_back_empty W 30 9 5 a cap underlying30 underlying5 underlying9
   | (cases a<;>rfl)
   | (cases a<;>kernel_rfl)
 ·obtain⟨b,off,rfl,h4,h5⟩:=h3 hp
  have:=run_convert_bytes_back W 30 9 5 ⟨b,off,none⟩ cap (l.map Nat.toUInt8) underlying30 underlying5 underlying9 (λj hj=>by
   have hj':j<l.length:=by simpa using hj
   rw[kP,h5 j hj'];have h9:=h8 l[j] (jeD hj');congr 2
   simp[jfA h9])
  rw[jeE]at this;exact this
def Sx.lit{k:IntKind}(w:World)(l:List Nat)(e:Nat)(hl:l.length<=maxLen):Sx k (w.alloc (.cells (aA k l).toArray e)) (.slice (some ⟨w.heap.size,0,none⟩) l.length l.length) l:=by
 have:=jf0 (e:=e) (size:=1) w (aA k l).toArray l.length (base:=0) (jfl _) hl (by simp[aA]);exact Sx.of_own this
def bh(l:List UInt8):List Value:=l.map λb=>Value.int .u8 (b.toNat:Int)
def mL(a b:List UInt8):bh (a++b)=bh a++bh b:=jeR
def uY(a:List UInt8):(bh a).length=a.length:=jeE _
def AZ{l:List UInt8}{j:Nat}(h:j<l.length):(bh l)[j]?=some (.int .u8 (l[j].toNat:Int)):=by simp[bh,h]
def zy{w:World}{B e n:Nat}{v:Value}{xs:List Value}(h:w.ownsRow B e 1 v n xs):(∃ ad cap,v=.slice ad n cap/\∀ g,ad=some g->g.spot=none)/\(0<n->∃ g cap,v=.slice (some ⟨g,0,none⟩) n cap/\g<w.heap.size/\B<=g/\∀ j x,xs[j]?=some x->w.cell? ⟨g,j,none⟩=some x):=by
 obtain⟨hl,h1⟩:=id h;rcases h1 with ⟨rfl,rfl⟩ | ⟨g,cap,cur,rfl,hb,hg,h4⟩
 ·exact⟨⟨none,0,rfl,λg hg=>by cases hg⟩,λh=>by omega⟩
 ·refine⟨⟨_,cap,rfl,λx hx=>by cases hx;rfl⟩,λ_=>⟨g,cap,rfl,(Array.getElem?_eq_some_iff.1 hg).1,hb,λj x hx=>?_⟩⟩
  have:=h.cells (g:=g) rfl j x hx;have KY:(⟨g,0,none⟩:Addr).add j=⟨g,j,none⟩:=by unfold Addr.add;split<;>simp_all
  rwa[KY]at this
def qC{x:Nat}(h:x<256):bh [x.toUInt8]=[.int .u8 (x:Int)]:=by
 simp only[bh,je4,jfr,mn h]
def Sl(W:World)(v:Value)(l:List UInt8):Prop :=
 ∃ a cap,v=.slice a l.length cap/\l.length<=cap/\cap<=maxLen /\
  (0<l.length->∃ b off,a=some ⟨b,off,none⟩/\b<W.heap.size/\∀ j (h:j<l.length),W.cell? ⟨b,off+j,none⟩=some (.int .u8 (l[j].toNat:Int)))
def Sv(W:World)(v:Value)(xs:List Value):Prop :=
 ∃ a cap,v=.slice a xs.length cap/\xs.length<=cap/\cap<=maxLen/\(a=none->cap=0) /\
  (0<xs.length->∃ b off,a=some ⟨b,off,none⟩/\b<W.heap.size/\∀ j x,xs[j]?=some x->W.cell? ⟨b,off+j,none⟩=some x)
def Sv.kept{W W':World}{v:Value}{xs:List Value}(h:Sv W v xs)(hb:jgu W W'):Sv W' v xs:=by
 obtain⟨a,cap,rfl,h1,h2,h3,h4⟩:=h;refine⟨a,cap,rfl,h1,h2,h3,λh0=>?_⟩;obtain⟨b,off,rfl,h5,h6⟩:=h4 h0;exact⟨b,off,rfl,jeY h5 hb.size,λj x hj=>(hb.cell (p:=⟨b,off+j,none⟩) h5).trans (h6 j x hj)⟩
def Sv.nil(W:World):Sv W (.slice none 0 0) []:=⟨none,0,rfl,jeA _,by unfold maxLen;omega,λ_=>rfl,λh=>by simp at h⟩
def Sv.of_own{W:World}{B e n:Nat}{v:Value}{xs:List Value}(h:W.ownsRow B e 1 v n xs):Sv W v xs:=by
 have hl:xs.length=n:=by have:=h.1;simpa using this
 obtain⟨_,h1⟩:=id h;rcases h1 with ⟨rfl,rfl⟩ | ⟨g,cap,cur,rfl,hb,hg,h4,h5,_⟩
 ·exact⟨none,0,by rw[hl],by omega,by unfold maxLen;omega,λ_=>rfl,λh0=>by omega⟩
 ·refine⟨_,cap,by rw[hl],by omega,h5,λh=>(by cases h),λ_=>⟨g,0,rfl,(Array.getElem?_eq_some_iff.1 hg).1,λj x hj=>?_⟩⟩
  have:=h.cells (g:=g) rfl j _ hj;rw[oP]at this;rwa[jeU]
def Sv.len{W:World}{v:Value}{xs:List Value}(h:Sv W v xs):xs.length<=maxLen:=by obtain⟨_,_,_,h1,h2,_⟩:=h;omega
def Sv.sx{k:IntKind}{W:World}{v:Value}{l:List Nat}(h:Sv W v (aA k l)):Sx k W v l:=by
 have hm:=h.len;obtain⟨a,cap,rfl,h1,h2,h3,h4⟩:=h;rw[am]at *;refine⟨a,cap,rfl,hm,λh0=>?_⟩;obtain⟨b,off,rfl,h5,h6⟩:=h4 h0;exact⟨b,off,rfl,h5,λj hj=>h6 j _ (bN hj)⟩
def wu(l:List UInt8):aA .u8 (l.map UInt8.toNat)=bh l:=by simp[aA,bh]
def GY{l:List Nat}(h:Bs l):bh (l.map Nat.toUInt8)=aA .u8 l:=by rw[<- wu,kU h]
def Sv.sl{W:World}{v:Value}{l:List Nat}(hb:Bs l)(h:Sv W v (aA .u8 l)):Sl W v (l.map Nat.toUInt8):=by
 rw[<- GY hb]at h;obtain⟨a,cap,rfl,h1,h2,h3,h4⟩:=h;rw[uY]at *;refine⟨a,cap,rfl,h1,h2,λh0=>?_⟩;obtain⟨b,off,rfl,h5,h6⟩:=h4 h0;exact⟨b,off,rfl,h5,λj hj=>h6 j _ (AZ hj)⟩
def Sv.take{W:World}{a:Option Addr}{n cap:Nat}{xs:List Value}(h:Sv W (.slice a n cap) xs){k:Nat}(hk:k<=xs.length):Sv W (.slice a k cap) (xs.take k):=by
 obtain⟨a',c,h1,h2,h3,h4,h5⟩:=h;simp only[Value.slice.injEq]at h1;obtain⟨rfl,_,rfl⟩:=h1;have hl:(xs.take k).length=k:=by rw[jeH];omega
 refine⟨_,cap,by rw[hl],by omega,h3,h4,λh0=>?_⟩;obtain⟨b',off',h6,h7,h8⟩:=h5 (by omega);refine⟨b',off',h6,h7,λj x hj=>h8 j x ?_⟩;have vG:=(List.getElem?_eq_some_iff.1 hj).1;rw[List.getElem?_take]at hj;rwa[jey (by omega)]at hj
def Sv.drop{W:World}{b off n cap:Nat}{xs:List Value}(h:Sv W (.slice (some ⟨b,off,none⟩) n cap) xs){k:Nat}(hk:k<=xs.length){a:Addr}(ha:a=if cap=k then ⟨b,off,none⟩ else ⟨b,off+k,none⟩) :
  Sv W (.slice (some a) (n-k) (cap-k)) (xs.drop k):=by
 obtain⟨a',c,h1,h2,h3,h4,h5⟩:=h;simp only[Value.slice.injEq]at h1;obtain⟨rfl,rfl,rfl⟩:=h1;have hl:(xs.drop k).length=xs.length-k:=by rw[jeX]
 refine⟨_,_,by rw[hl],by omega,by omega,λh=>(by cases h),λh0=>?_⟩;obtain⟨b',off',h6,h7,h8⟩:=h5 (by omega);cases h6
 rw[jex (by omega)]at ha;refine⟨b,off+k,by rw[ha],h7,λj x hj=>?_⟩;rw[List.getElem?_drop]at hj;have:=h8 (k+j) x hj;rwa[<- jfG]at this
def aM(W:World)(B:Nat)(v:Value)(bs:List Nat):Prop:=W.ownsRow B 5 1 v bs.length (aA .u8 bs)
def aM.nil(W:World)(B:Nat):aM W B (.slice none 0 0) []:=jfh _ _ _ _
def aM.kept{w w':World}{B:Nat}{v:Value}{bs:List Nat}(h:aM w B v bs)(hb:jgu w w'):aM w' B v bs:=bv h hb
def aM.sv{W:World}{B:Nat}{v:Value}{bs:List Nat}(h:aM W B v bs):Sv W v (aA .u8 bs):=Sv.of_own h
def ee(w:World)(bs:List Nat)(e:Ending)(w':World):Prop:=(∃ v,e=.returned v/\aM w' w.heap.size v bs)/\jgu w w'
def aC{w:World}{ops:Array Oper}{rest:List Oper}{o:Oper}{a:Act}{Q:Exit->Act->World->Prop}(ef:o.guard=none)(s x:Operand)
  (ho:o.op=.call { callee:=.builtin .append,args:=#[s,x],argTypes:=#[30,30] })
  (base:Nat) (v vx:Value) (l0 l:List Nat) (hs:a.eval s=v) (ax:aM w base v l0) (hx:a.eval x=vx) (eg:Sv w vx (aA .u8 l))
  (hbytes:l0.length+l.length<=140737488355328) (aF:base<=w.heap.size)
  (h:∀ v' w',aM w' base v' (l0++l)->Below base w w'->wpList prog ops Q rest (a.put o.dst v') w') :
  wpList prog ops Q (o::rest) a w:=by
 obtain⟨i0,hi,bR,hz1',aX⟩:=jeT nl;unfold aM at *;obtain⟨ad,cap,rfl,h1,h2,h3,h4⟩:=eg;rw[am]at *;cases ad with
 | none =>
  have hc:=h3 rfl;subst hc;have hl:l=[]:=jeW (by omega);subst hl;refine wpList_plain ef λK hK=>?_
  have hr:=jgb (P:=prog) (w:=w) base 30 o.type 5 i0 1 underlying30 hi v l0.length (aA .u8 l0) ax;unfold Oper.wp execOp;simp only[ho,resolve,invoke,builtin,Sem.run_bind,Sem.run_pure,Result.andThen_ok,jfN,je4,jfr,hs,hx,hr,jeZ];refine hK _ _ (h v w ?_ (jez _ _));rw[jeS];exact ax
 | some ad =>
  refine jfw (w:=w) ef s x 30 ho base 5 i0 (.int .u8 0) 1 1 underlying30 hi bR hz1' aX rfl (by decide) v l0.length (aA .u8 l0) hs ax ad l.length cap (aA .u8 l) hx (by rw[am];omega) ?_ (jM _ _) (by unfold maxLen;omega) (by omega) aF ?_
  ·intro j u hu
   have hj:j<l.length:=by
    have:=(List.getElem?_eq_some_iff.1 hu).1;rwa[am]at this
   obtain⟨b,off,h5,_,h6⟩:=h4 (by omega);cases h5
   rw[kP];exact h6 j u hu
  ·intro v' w' o1 g1 _ _
   refine h v' w' ?_ ((jez base w).grown g1 aF (λk hk=>(ax.lt k hk).1));rw[ek,jeC];exact o1
def Fr(p B:Nat)(w w':World):Prop:=w'.os=w.os/\w'.tape=w.tape/\w'.output=w.output/\w.heap.size<=w'.heap.size/\∀ k,k<B->k≠p->w'.heap[k]?=w.heap[k]?
def Fr.os{p B:Nat}{w w':World}(h:Fr p B w w'):w'.os=w.os:=h.1
def Fr.tape{p B:Nat}{w w':World}(h:Fr p B w w'):w'.tape=w.tape:=h.2.1
def Fr.output{p B:Nat}{w w':World}(h:Fr p B w w'):w'.output=w.output:=h.2.2.1
def Fr.size{p B:Nat}{w w':World}(h:Fr p B w w'):w.heap.size<=w'.heap.size:=h.2.2.2.1
def Fr.block{p B:Nat}{w w':World}(h:Fr p B w w'):∀ k,k<B->k≠p->w'.heap[k]?=w.heap[k]?:=h.2.2.2.2
def Fr.refl(p B:Nat)(w:World):Fr p B w w:=⟨rfl,rfl,rfl,jeA _,λ_ _ _=>rfl⟩
def Fr.trans{p B:Nat}{a b c:World}(h:Fr p B a b)(k:Fr p B b c):Fr p B a c :=
 ⟨k.os.trans h.os,k.tape.trans h.tape,k.output.trans h.output,jeK h.size k.size,λi hi hp=>(k.block i hi hp).trans (h.block i hi hp)⟩
def Fr.mono{p B B':Nat}{w w':World}(h:Fr p B w w')(hB:B'<=B):Fr p B' w w':=⟨h.os,h.tape,h.output,h.size,λk hk hp=>h.block k (jeY hk hB) hp⟩
def Fr.of_below{p B:Nat}{w w':World}(h:Below B w w'):Fr p B w w':=⟨h.os,h.tape,h.output,h.size,λk hk _=>h.block k hk⟩
def Fr.below{p B B':Nat}{w w':World}(h:Fr p B w w')(hp:B'<=p)(hB:B'<=B):Below B' w w':=⟨h.os,h.tape,h.output,h.size,λk hk=>h.block k (by omega) (by omega)⟩
def Fr.set{p B:Nat}{w w':World}(h:Fr p B w w')(i:Nat)(v:Value):Fr p B w (w'.setCell ⟨p,i,none⟩ v):=by
 have h1:Below 0 w' (w'.setCell ⟨p,i,none⟩ v):=(jez 0 w').setCell (jfl _) v;exact⟨h1.os.trans h.os,h1.tape.trans h.tape,h1.output.trans h.output,jeK h.size h1.size,λk hk hp=>(Below.heap_setCell _ _ _ _ hp).trans (h.block k hk hp)⟩
def Fr.own{p:Nat}{w w':World}{B e size n:Nat}{v:Value}{xs:List Value}(hf:Fr p w.heap.size w w')(h:w.ownsRow B e size v n xs)(hp:p<B):w'.ownsRow B e size v n xs:=by
 obtain⟨hl,h⟩:=h;refine⟨hl,?_⟩;rcases h with h | ⟨g,cap,cur,h1,h2,h3,h4⟩
 ·exact Or.inl h
 ·have hg:g<w.heap.size:=(Array.getElem?_eq_some_iff.1 h3).1
  exact Or.inr ⟨g,cap,cur,h1,h2,(hf.block g hg (by omega)).trans h3,h4⟩
def aT{W:World}{p T:Nat}{c:Array Value}(h:W.heap[p]?=some (.cells c T (0,0)))(i:Nat)(v:Value):(W.setCell ⟨p,i,none⟩ v).heap[p]?=some (.cells (c.setIfInBounds i v) T (0,0)):=heap_setCell_same W p i c T v h
def an{W:World}{p T:Nat}{c:Array Value}{fz:Nat×Nat}(h:W.heap[p]?=some (.cells c T fz))(i:Nat):W.cell? ⟨p,i,none⟩=c[i]?:=by
 simp[World.cell?,h]
def orf(f e:Nat):Nat:=if f=0 then e else f
def Fr.then{p B:Nat}{w w1 w2:World}(h:Fr p B w w1)(hb:Below B w1 w2):Fr p B w w2:=h.trans (Fr.of_below hb)
def eC(e:Nat):orf 0 e=e:=rfl
def dW{f:Nat}(h:f≠0)(e:Nat):orf f e=f:=by unfold orf;rw[jex h]
def Sv.conv{W:World}{v:Value}{l:List Nat}(h:Sv W v (aA .u8 l))(hb:Bs l):(convert 30 9 v).run prog W=.ok (txt l) W:=h.sx.conv hb
def Sb{a b:List Nat}(ha:Bs a)(hb:Bs b):a.map Nat.toUInt8=b.map Nat.toUInt8↔a=b:=by
 constructor
 ·intro h
  rw[<- kU ha,<- kU hb,h]
 ·intro h
  rw[h]
def Sv.form1{W:World}{v:Value}{xs:List Value}(h:Sv W v xs):∃ a cap,v=.slice a xs.length cap/\xs.length<=cap/\cap<=maxLen:=by
 obtain⟨a,cap,h1,h2,h3,_⟩:=h;exact⟨a,cap,h1,h2,h3⟩
def Sv.at1{W:World}{a:Option Addr}{n cap:Nat}{xs:List Value}(h:Sv W (.slice a n cap) xs){k:Nat}{x:Value}(hk:xs[k]?=some x) :
  ∃ b off,a=some ⟨b,off,none⟩/\b<W.heap.size/\W.cell? ⟨b,off+k,none⟩=some x:=by
 obtain⟨a',cap',e,h1,h2,h3,h4⟩:=h;have ar:=(List.getElem?_eq_some_iff.1 hk).1;simp only[Value.slice.injEq]at e;obtain⟨rfl,_,_⟩:=e;obtain⟨b,off,rfl,h5,h6⟩:=h4 (by omega);exact⟨b,off,rfl,h5,h6 k x hk⟩
def aj(w:World)(o:Obj):jgu w (w.alloc o):=(jez _ _).alloc (jeA _) _
def ai{a w w2:World}(h:jgu a w)(h2:jgu w w2):jgu a w2:=h.trans (h2.mono h.size)
def zz(w:World)(l:List Nat)(hl:l.length<=maxLen):aM (w.alloc (.cells (aA .u8 l).toArray 5)) w.heap.size (.slice (some ⟨w.heap.size,0,none⟩) l.length l.length) l:=by
 have:=jf0 (e:=5) (size:=1) w (aA .u8 l).toArray l.length (base:=w.heap.size) (jeA _) hl (by simp[aA]);exact this
def wy(w:World):aM (w.alloc (.cells #[] 5)) w.heap.size (.slice (some ⟨w.heap.size,0,none⟩) 0 0) []:=zz w [] (by unfold maxLen;simp)
def bL{W:World}{B B' e size n:Nat}{v:Value}{xs:List Value}(h:W.ownsRow B' e size v n xs)(hb:B<=B'):W.ownsRow B e size v n xs:=by
 obtain⟨q1,q2⟩:=h;refine⟨q1,?_⟩;rcases q2 with q | ⟨a1,a2,a3,a4,a5,a6⟩
 ·exact Or.inl q
 ·exact Or.inr ⟨a1,a2,a3,a4,jeK hb a5,a6⟩
def aZ{W:World}{B e size n:Nat}{v:Value}{xs:List Value}(h:W.ownsRow B e size v n xs):∃ a cap,v=.slice a n cap/\n<=cap/\cap<=maxLen:=by
 rcases h.2 with ⟨rfl,rfl⟩ | ⟨g,cap,cur,rfl,_,_,h1,h2,_⟩
 ·exact⟨none,0,rfl,jeA _,by unfold maxLen;omega⟩
 ·exact⟨_,cap,rfl,h1,h2⟩
def fA{W w1:World}(hb:jgu W w1):(∀ b o,b<W.heap.size->w1.cell? ⟨b,o,none⟩=W.cell? ⟨b,o,none⟩)/\(∀ b o,b<W.heap.size->w1.frozen? ⟨b,o,none⟩=W.frozen? ⟨b,o,none⟩) :=
 ⟨λb o h=>hb.cell (p:=⟨b,o,none⟩) h,λb o h=>hb.frozen (p:=⟨b,o,none⟩) h⟩
def gB(l:List Nat):txt l=.string (bytesT l):=rfl
def Ba(v:Value)(w:World):(Instr.typeAssert (.iface 2 v) 78 2 true).run prog w=.ok (.tuple #[v,.bool true]) w:=by kernel_rfl
def GZ(v:Value)(w:World):(Instr.typeAssert (.iface 4 v) 78 2 true).run prog w=.ok (.tuple #[.int .i64 0,.bool false]) w:=by kernel_rfl
def Ha(v:Value)(w:World):(Instr.typeAssert (.iface 9 v) 78 2 true).run prog w=.ok (.tuple #[.int .i64 0,.bool false]) w:=by kernel_rfl
def Bc(v:Value)(w:World):(Instr.typeAssert (.iface 4 v) 78 4 true).run prog w=.ok (.tuple #[v,.bool true]) w:=by kernel_rfl
def Hb(v:Value)(w:World):(Instr.typeAssert (.iface 9 v) 78 4 true).run prog w=.ok (.tuple #[.bool false,.bool false]) w:=by kernel_rfl
def Bd(v:Value)(w:World):(Instr.typeAssert (.iface 9 v) 78 9 true).run prog w=.ok (.tuple #[v,.bool true]) w:=by kernel_rfl
def Hc(w:World):(Instr.typeAssert .nilIface 78 2 true).run prog w=.ok (.tuple #[.int .i64 0,.bool false]) w:=by kernel_rfl
def Hd(w:World):(Instr.typeAssert .nilIface 78 4 true).run prog w=.ok (.tuple #[.bool false,.bool false]) w:=by kernel_rfl
def He(w:World):(Instr.typeAssert .nilIface 78 9 true).run prog w=.ok (.tuple #[.string ⟨#[]⟩,.bool false]) w:=by kernel_rfl
def Hf(w:World):Calls prog 148 #[.nilIface] w λe w'=>e=.returned (.tuple #[.agg #[.int .u8 0,.int .i64 0,.string ⟨#[]⟩],.bool true])/\jgu w w':=by
 go_enter func148,ntmps148
 go_wp2;exact bodyPost_ret (v:=.tuple #[.agg #[.int .u8 0,.int .i64 0,.string ⟨#[]⟩],.bool true]) (by simp[results,results148,go_sem]) rfl ⟨rfl,(jez _ _).alloc (jeA _) _⟩
def Hg(n:Int)(w:World):Calls prog 148 #[.iface 2 (.int .i64 n)] w λe w'=>e=.returned (.tuple #[.agg #[.int .u8 1,.int .i64 n,.string ⟨#[]⟩],.bool true])/\jgu w w':=by
 have t1:=Ba;go_enter func148,ntmps148
 go_wp2;exact bodyPost_ret (v:=.tuple #[.agg #[.int .u8 1,.int .i64 n,.string ⟨#[]⟩],.bool true]) (by simp[results,results148,go_sem]) rfl ⟨rfl,(jez _ _).alloc (jeA _) _⟩
def Ds(b:Bool)(w:World):Calls prog 148 #[.iface 4 (.bool b)] w λe w'=>e=.returned (.tuple #[.agg #[.int .u8 2,.int .i64 (if b then 1 else 0),.string ⟨#[]⟩],.bool true])/\jgu w w':=by
 have t1:=GZ;have t2:=Bc;cases b
 ·go_enter func148,ntmps148
  go_wp2;exact bodyPost_ret (v:=.tuple #[.agg #[.int .u8 2,.int .i64 0,.string ⟨#[]⟩],.bool true]) (by simp[results,results148,go_sem]) rfl ⟨rfl,(jez _ _).alloc (jeA _) _⟩
 ·go_enter func148,ntmps148
  go_wp2;exact bodyPost_ret (v:=.tuple #[.agg #[.int .u8 2,.int .i64 1,.string ⟨#[]⟩],.bool true]) (by simp[results,results148,go_sem]) rfl ⟨rfl,(jez _ _).alloc (jeA _) _⟩
def yw(s:ByteArray)(w:World):Calls prog 148 #[.iface 9 (.string s)] w λe w'=>e=.returned (.tuple #[.agg #[.int .u8 3,.int .i64 0,.string s],.bool true])/\jgu w w':=by
 have t1:=Ha;have t2:=Hb;have t3:=Bd;go_enter func148,ntmps148
 go_wp2;exact bodyPost_ret (v:=.tuple #[.agg #[.int .u8 3,.int .i64 0,.string s],.bool true]) (by simp[results,results148,go_sem]) rfl ⟨rfl,(jez _ _).alloc (jeA _) _⟩
def Val(v:Value)(k n:Int)(s:ByteArray):Prop :=
 (v=.nilIface/\k=0/\n=0/\s=⟨#[]⟩)∨(v=.iface 2 (.int .i64 n)/\k=1/\s=⟨#[]⟩)∨(∃ b:Bool,v=.iface 4 (.bool b)/\k=2/\n=(if b then 1 else 0)/\s=⟨#[]⟩)∨(v=.iface 9 (.string s)/\k=3/\n=0)
def pw{v:Value}{k n:Int}{s:ByteArray}(h:Val v k n s)(w:World):Calls prog 148 #[v] w λe w'=>e=.returned (.tuple #[.agg #[.int .u8 k,.int .i64 n,.string s],.bool true])/\jgu w w':=by
 rcases h with ⟨rfl,rfl,rfl,rfl⟩ | ⟨rfl,rfl,rfl⟩ | ⟨b,rfl,rfl,rfl,rfl⟩ | ⟨rfl,rfl,rfl⟩
 ·exact Hf w
 ·exact Hg n w
 ·exact Ds b w
 ·exact yw s w
def ki{v:Value}{k n:Int}{s:ByteArray}(h:Val v k n s)(w:World):Calls prog 145 #[v] w λe w'=>e=.returned (.tuple #[.agg #[.int .u8 k,.int .i64 n,.string s],.bool true])/\jgu w w':=by
 go_enter func145,ntmps145
 go_wp2_with fail;refine(pw h _).mono ?_;rintro e w1 ⟨rfl,hb⟩;obtain⟨hc,hf⟩:=fA hb;have hz:w.heap.size<w1.heap.size:=by have:=hb.size;simp at this;omega
 go_wp2_with fail;refine bodyPost_ret (v:=.tuple #[.agg #[.int .u8 k,.int .i64 n,.string s],.bool true]) (by simp[results,results145,go_sem,hc]) rfl ⟨rfl,?_⟩;exact((((((jez _ _).alloc (jeA _) _).trans (hb.mono (by simp))).setCell (by simp) _).setCell (by simp) _).setCell (by simp) _)
def jx(k n:Int):Bool:=if (k==1)=true then true else if (k==2)=true then (if (n==0)=true then true else n==1) else n==0
def tx(k:Int)(s:ByteArray):Bool:=(k != 3) && !s.toList.isEmpty
def flt(k n:Int)(s:ByteArray):Int:=if 3<k then 10 else if tx k s=true then 1 else if jx k n=false then 1 else if 64<(s.size:Int) then 5 else 0
def wz{k:Int}{s:ByteArray}(h:tx k s=false):(k != 3)=false∨(k != 3)=true/\s.toList.isEmpty=true:=by
 unfold tx at h;cases h2:(k != 3)
 ·exact Or.inl rfl
 ·rw[h2]at h;right;simpa using h
def Be{k:Int}{s:ByteArray}(h:tx k s=true):(k != 3)=true/\s.toList.isEmpty=false:=by
 unfold tx at h;rw[jfF]at h;exact⟨h.1,by simpa using h.2⟩
def Hh{s:ByteArray}(h:s.toList.isEmpty=true):s=⟨#[]⟩:=by
 have h1:s.toList=[]:=by simpa using h
 have h2:s.data.toList=[]:=by rw[<- ByteArray.toList_eq];exact h1
 cases s with
 | mk d=>congr;exact Array.toList_eq_nil_iff.mp h2
def sN(k n:Int)(s:ByteArray)(h0:0<=k)(w:World):Calls prog 114 #[.agg #[.int .u8 k,.int .i64 n,.string s]] w λe w'=>e=.returned (.int .i64 (flt k n s))/\jgu w w':=by
 by_cases h1:3<k
 ·rw[show flt k n s=10 by unfold flt;rw[jey h1]]
  clear h0;go_enter func114,ntmps114
  go_wp2;go_ret
  exact⟨rfl,(jez _ _).alloc (jeA _) _⟩
 ·by_cases h2:tx k s=true
  ·rw[show flt k n s=1 by unfold flt;rw[jex h1,jey h2]]
   obtain⟨h3,h4⟩:=Be h2;have h5:k<=3:=(by omega);clear h0 h1 h2;go_enter func114,ntmps114
   go_wp2;go_ret
   exact⟨rfl,(jez _ _).alloc (jeA _) _⟩
  ·have h3:=wz (by simpa using h2)
   by_cases h4:k=3
   ·subst h4
    clear h0 h1 h2 h3;cases hn:(n==0)
    ·rw[show flt 3 n s=1 by unfold flt;simp[tx,jx,hn]]
     have vY:(n != 0)=true:=by simpa using hn
     go_enter func114,ntmps114
     go_wp2;go_ret
     exact⟨rfl,(jez _ _).alloc (jeA _) _⟩
    ·have vY:(n != 0)=false:=by simpa using hn
     by_cases hs:64<(s.size:Int)
     ·rw[show flt 3 n s=5 by unfold flt;simp[tx,jx,hn];omega]
      go_enter func114,ntmps114
      go_wp2;go_ret
      exact⟨rfl,(jez _ _).alloc (jeA _) _⟩
     ·rw[show flt 3 n s=0 by unfold flt;simp[tx,jx,hn];omega]
      have cV:(s.size:Int)<=64:=(by omega);clear hs;go_enter func114,ntmps114
      go_wp2;go_ret
      exact⟨rfl,(jez _ _).alloc (jeA _) _⟩
   ·have h5:s=⟨#[]⟩:=by
     rcases h3 with h3 | h3
     ·simp at h3;omega
     ·exact Hh h3.2
    subst h5;obtain rfl | rfl | rfl:k=0∨k=1∨k=2:=by omega
    ·clear h0 h1 h2 h3 h4
     cases hn:(n==0)
     ·rw[show flt 0 n ⟨#[]⟩=1 by unfold flt;simp[jx,hn]]
      have vY:(n != 0)=true:=by simpa using hn
      go_enter func114,ntmps114
      go_wp2;go_ret
      exact⟨rfl,(jez _ _).alloc (jeA _) _⟩
     ·rw[show flt 0 n ⟨#[]⟩=0 by unfold flt;simp[jx,hn,tx,ByteArray.size]]
      have vY:(n != 0)=false:=by simpa using hn
      go_enter func114,ntmps114
      go_wp2;go_ret
      exact⟨rfl,(jez _ _).alloc (jeA _) _⟩
    ·clear h0 h1 h2 h3 h4
     rw[show flt 1 n ⟨#[]⟩=0 by unfold flt;simp[jx,tx,ByteArray.size]];go_enter func114,ntmps114
     go_wp2;go_ret
     exact⟨rfl,(jez _ _).alloc (jeA _) _⟩
    ·clear h0 h1 h2 h3 h4
     cases hn:(n==0)
     ·have vY:(n != 0)=true:=by simpa using hn
      cases hm:(n==1)
      ·rw[show flt 2 n ⟨#[]⟩=1 by unfold flt;simp[jx,hn,hm]]
       have vH:(n != 1)=true:=by simpa using hm
       go_enter func114,ntmps114
       go_wp2;go_ret
       exact⟨rfl,(jez _ _).alloc (jeA _) _⟩
      ·rw[show flt 2 n ⟨#[]⟩=0 by unfold flt;simp[jx,hn,hm,tx,ByteArray.size]]
       have vH:(n != 1)=false:=by simpa using hm
       go_enter func114,ntmps114
       go_wp2;go_ret
       exact⟨rfl,(jez _ _).alloc (jeA _) _⟩
     ·rw[show flt 2 n ⟨#[]⟩=0 by unfold flt;simp[jx,hn,tx,ByteArray.size]]
      have vY:(n != 0)=false:=by simpa using hn
      go_enter func114,ntmps114
      go_wp2;go_ret
      exact⟨rfl,(jez _ _).alloc (jeA _) _⟩
def qD{k n:Int}{s:ByteArray}(h0:0<=k)(h:flt k n s=0):(k=0/\n=0/\s=⟨#[]⟩)∨(k=1/\s=⟨#[]⟩)∨(k=2/\n=0/\s=⟨#[]⟩)∨(k=2/\n=1/\s=⟨#[]⟩)∨(k=3/\n=0/\s.size<=64):=by
 unfold flt at h;by_cases h1:3<k
 ·rw[jey h1]at h;omega
 ·rw[jex h1]at h
  by_cases h2:tx k s=true
  ·rw[jey h2]at h;omega
  ·rw[jex h2]at h
   by_cases h3:jx k n=false
   ·rw[jey h3]at h;omega
   ·rw[jex h3]at h
    by_cases h4:64<(s.size:Int)
    ·rw[jey h4]at h;omega
    ·have h5:=wz (by simpa using h2)
     have h6:k≠3->s=⟨#[]⟩:=by
      intro hk;rcases h5 with h5 | h5
      ·simp at h5;omega
      ·exact Hh h5.2
     obtain rfl | rfl | rfl | rfl:k=0∨k=1∨k=2∨k=3:=by omega
     ·simp[jx]at h3;exact Or.inl ⟨rfl,h3,h6 (by omega)⟩
     ·exact Or.inr (Or.inl ⟨rfl,h6 (by omega)⟩)
     ·simp[jx]at h3
      by_cases hn:n=0
      ·exact Or.inr (Or.inr (Or.inl ⟨rfl,hn,h6 (by omega)⟩))
      ·exact Or.inr (Or.inr (Or.inr (Or.inl ⟨rfl,h3 hn,h6 (by omega)⟩)))
     ·simp[jx]at h3;exact Or.inr (Or.inr (Or.inr (Or.inr ⟨rfl,h3,by omega⟩)))
def Yc(k n:Int)(s:ByteArray)(h0:0<=k)(h:(flt k n s != 0)=true)(w:World):Calls prog 73 #[.agg #[.int .u8 k,.int .i64 n,.string s]] w λe w'=>e=.returned (.agg #[.int .u8 0,.int .i64 0,.string ⟨#[]⟩])/\jgu w w':=by
 go_enter func73,ntmps73
 go_wp2_with fail;refine(sN _ _ _ h0 _).mono ?_;rintro e w1 ⟨rfl,hb⟩;obtain⟨hc,hf⟩:=fA hb;have hz:w.heap.size+1<w1.heap.size:=by have:=hb.size;simp at this;omega
 clear h0;go_wp2_with fail;refine bodyPost_ret (v:=.agg #[.int .u8 0,.int .i64 0,.string ⟨#[]⟩]) (by simp[results,results73,go_sem,hc]) rfl ⟨rfl,?_⟩;exact(((((((jez _ _).alloc (jeA _) _).alloc (by simp) _).trans (hb.mono (by simp;omega))).setCell (by simp) _).setCell (by simp) _).setCell (by simp) _)
def Sd(k n:Int)(s:ByteArray)(h0:0<=k)(h:(flt k n s != 0)=false)(w:World):Calls prog 73 #[.agg #[.int .u8 k,.int .i64 n,.string s]] w λe w'=>e=.returned (.agg #[.int .u8 k,.int .i64 n,.string s])/\jgu w w':=by
 go_enter func73,ntmps73
 go_wp2_with fail;refine(sN _ _ _ h0 _).mono ?_;rintro e w1 ⟨rfl,hb⟩;obtain⟨hc,hf⟩:=fA hb;have hz:w.heap.size+1<w1.heap.size:=by have:=hb.size;simp at this;omega
 clear h0;go_wp2_with fail;refine bodyPost_ret (v:=.agg #[.int .u8 k,.int .i64 n,.string s]) (by simp[results,results73,go_sem,hc]) rfl ⟨rfl,?_⟩;exact(((((((jez _ _).alloc (jeA _) _).alloc (by simp) _).trans (hb.mono (by simp;omega))).setCell (by simp) _).setCell (by simp) _).setCell (by simp) _)
def fk(k n:Int)(s:ByteArray):Int:=if flt k n s=0 then k else 0
def fn(k n:Int)(s:ByteArray):Int:=if flt k n s=0 then n else 0
def fs(k n:Int)(s:ByteArray):ByteArray:=if flt k n s=0 then s else ⟨#[]⟩
def Dt(k n:Int)(s:ByteArray)(h0:0<=k):(fk k n s=0/\fn k n s=0/\fs k n s=⟨#[]⟩)∨(fk k n s=1/\fs k n s=⟨#[]⟩)∨(fk k n s=2/\fn k n s=0/\fs k n s=⟨#[]⟩)∨(fk k n s=2/\fn k n s=1/\fs k n s=⟨#[]⟩)∨(fk k n s=3/\fn k n s=0/\(fs k n s).size<=64):=by
 unfold fk fn fs;by_cases h:flt k n s=0
 ·simp only[jey h];exact qD h0 h
 ·simp only[jex h];exact Or.inl (by simp)
def LJ(k n:Int)(s:ByteArray)(h0:0<=k)(w:World):Calls prog 73 #[.agg #[.int .u8 k,.int .i64 n,.string s]] w λe w'=>e=.returned (.agg #[.int .u8 (fk k n s),.int .i64 (fn k n s),.string (fs k n s)])/\jgu w w':=by
 unfold fk fn fs;by_cases h:flt k n s=0
 ·simp only[jey h];exact Sd k n s h0 (by simpa using h) w
 ·simp only[jex h];exact Yc k n s h0 (by simpa using h) w
def Nb(k n:Int)(s:ByteArray)(h0:0<=k)(w:World):Calls prog 86 #[.agg #[.int .u8 k,.int .i64 n,.string s]] w λe w'=>(∃ v,e=.returned v/\Val v (fk k n s) (fn k n s) (fs k n s))/\jgu w w':=by
 have hf:=LJ k n s h0;have hx:=Dt k n s h0;generalize fk k n s=a at *;generalize fn k n s=b at *;generalize fs k n s=c at *;have HF:jgt (∀ w:World,Calls prog 73 #[.agg #[.int .u8 k,.int .i64 n,.string s]] w λe w'=>e=.returned (.agg #[.int .u8 a,.int .i64 b,.string c])/\jgu w w'):=hf;clear hf h0;obtain⟨rfl,rfl,rfl⟩ | ⟨rfl,rfl⟩ | ⟨rfl,rfl,rfl⟩ | ⟨rfl,rfl,rfl⟩ | ⟨rfl,rfl,hs⟩:=hx
 ·go_enter func86,ntmps86
  go_wp2_with fail;refine(HF.o _).mono ?_;rintro e w1 ⟨rfl,hb⟩;obtain⟨hc,hf⟩:=fA hb;have hz:w.heap.size<w1.heap.size:=by have:=hb.size;simp at this;omega
  go_wp2_with fail;go_ret
  exact⟨⟨_,rfl,Or.inl ⟨rfl,rfl,rfl,rfl⟩⟩,((((((jez _ _).alloc (jeA _) _).trans (hb.mono (by simp))).setCell (by simp) _).setCell (by simp) _).setCell (by simp) _)⟩
 ·go_enter func86,ntmps86
  go_wp2_with fail;refine(HF.o _).mono ?_;rintro e w1 ⟨rfl,hb⟩;obtain⟨hc,hf⟩:=fA hb;have hz:w.heap.size<w1.heap.size:=by have:=hb.size;simp at this;omega
  go_wp2_with fail;go_ret
  exact⟨⟨_,rfl,Or.inr (Or.inl ⟨rfl,rfl,rfl⟩)⟩,((((((jez _ _).alloc (jeA _) _).trans (hb.mono (by simp))).setCell (by simp) _).setCell (by simp) _).setCell (by simp) _)⟩
 ·go_enter func86,ntmps86
  go_wp2_with fail;refine(HF.o _).mono ?_;rintro e w1 ⟨rfl,hb⟩;obtain⟨hc,hf⟩:=fA hb;have hz:w.heap.size<w1.heap.size:=by have:=hb.size;simp at this;omega
  go_wp2_with fail;go_ret
  exact⟨⟨_,rfl,Or.inr (Or.inr (Or.inl ⟨false,rfl,rfl,rfl,rfl⟩))⟩,((((((jez _ _).alloc (jeA _) _).trans (hb.mono (by simp))).setCell (by simp) _).setCell (by simp) _).setCell (by simp) _)⟩
 ·go_enter func86,ntmps86
  go_wp2_with fail;refine(HF.o _).mono ?_;rintro e w1 ⟨rfl,hb⟩;obtain⟨hc,hf⟩:=fA hb;have hz:w.heap.size<w1.heap.size:=by have:=hb.size;simp at this;omega
  go_wp2_with fail;go_ret
  exact⟨⟨_,rfl,Or.inr (Or.inr (Or.inl ⟨true,rfl,rfl,rfl,rfl⟩))⟩,((((((jez _ _).alloc (jeA _) _).trans (hb.mono (by simp))).setCell (by simp) _).setCell (by simp) _).setCell (by simp) _)⟩
 ·go_enter func86,ntmps86
  go_wp2_with fail;refine(HF.o _).mono ?_;rintro e w1 ⟨rfl,hb⟩;obtain⟨hc,hf⟩:=fA hb;have hz:w.heap.size<w1.heap.size:=by have:=hb.size;simp at this;omega
  go_wp2_with fail;go_ret
  exact⟨⟨_,rfl,Or.inr (Or.inr (Or.inr ⟨rfl,rfl,rfl⟩))⟩,((((((jez _ _).alloc (jeA _) _).trans (hb.mono (by simp))).setCell (by simp) _).setCell (by simp) _).setCell (by simp) _)⟩
def Du{W:World}{base:Nat}{a:Addr}{cs:List Value}(h:W.cells? base a 3=some cs):∃ c0 c1 c2,cs=[c0,c1,c2]/\W.cell? (a.add 0)=some c0/\W.cell? (a.add 1)=some c1/\W.cell? (a.add 2)=some c2:=by
 obtain⟨_,hl,hc⟩:=World.cells?_some h;match cs,hl with
 | [c0,c1,c2],_=>exact⟨c0,c1,c2,rfl,by simpa using hc 0 (by omega),by simpa using hc 1 (by omega),by simpa using hc 2 (by omega)⟩
def wB:(prog.info? 78).map (λi=>(i.zero,i.size,i.bytes))=some (some .nilIface,1,16):=by kernel_rfl
end Go.Proofs.YtpljdjmpamjkhaaGreatDoor
