import Derived.Lib.DecodeN
import Derived.Test.YtpljdjmpamjkhaaGreatDoorProg
import Derived.WalkLawsBesides
import Derived.WalkSpells
import Derived.BigQuiet
import Derived.Deep.RegionHeld3
import Derived.Deep.Slices
set_option linter.unusedVariables false
set_option linter.unusedSimpArgs false
set_option maxHeartbeats 1000000
set_option maxRecDepth 100000
namespace Go.Proofs.YtpljdjmpamjkhaaGreatDoor
open Go.RowKit Go.Lib
def jgf(p:Prop):Prop:=p
theorem jgf.o{p:Prop}(h:jgf p):p:=h
abbrev jeh:=@if_neg
abbrev jei:=@if_pos
abbrev jej:=@Below.refl
abbrev jek:=@Nat.le_refl
abbrev jel:=@World.size_alloc
abbrev jem:=@List.length_append
abbrev jen:=@List.length_map
abbrev jeo:=@List.getElem_mem
abbrev jep:=@congrArg
abbrev jeq:=@List.length_take
abbrev jer:=@List.length_cons
abbrev jes:=@List.take_length
abbrev jet:=@Nat.le_trans
abbrev jeu:=@decide_eq_false
abbrev jev:=@beq_eq_false_iff_ne
abbrev jew:=@List.set_cons_zero
abbrev jex:=@List.set_cons_succ
abbrev jey:=@List.setIfInBounds_toArray
abbrev jez:=@List.append_assoc
abbrev jeA:=@List.take_succ_eq_append_getElem
abbrev jeB:=@decide_eq_true
abbrev jeC:=@List.mem_cons
abbrev jeD:=@info_parts
abbrev jeE:=@List.map_append
abbrev jeF:=@List.mem_map
abbrev jeG:=@List.append_nil
abbrev jeH:=@Nat.lt_of_lt_of_le
abbrev jeI:=@List.eq_nil_of_length_eq_zero
abbrev jeJ:=@Nat.le_of_lt
abbrev jeK:=@heap_alloc_new
abbrev jeL:=@List.length_nil
abbrev jeM:=@Nat.lt_or_ge
abbrev jeN:=@List.mem_append
abbrev jeO:=@Nat.zero_add
abbrev jeP:=@IntKind.wrap_u64
abbrev jeQ:=@Int.toNat_natCast
abbrev jeR:=@List.length_drop
abbrev jeS:=@List.length_singleton
abbrev jeT:=@List.map_cons
abbrev jeU:=@Nat.mul_comm
abbrev jeV:=@IntKind.wrap_i64
abbrev jeW:=@List.map_map
abbrev jeX:=@List.mem_singleton
abbrev jeY:=@wpList_append_own_at
abbrev jeZ:=@Nat.add_mul
abbrev je0:=@Nat.lt_trans
abbrev je1:=@List.drop_eq_getElem_cons
abbrev je2:=@List.mem_of_mem_take
abbrev je3:=@List.drop_left
abbrev je4:=@List.take_of_length_le
abbrev je5:=@List.getD_cons_zero
abbrev je6:=@Nat.zero_le
abbrev je7:=@decide_eq_true_eq
abbrev je8:=@List.map_nil
abbrev je9:=@Nat.add_zero
abbrev jfa:=@Nat.eq_zero_or_pos
abbrev jfb:=@World.ownsRow_nil
abbrev jfc:=@List.cons_append
abbrev jfd:=@Nat.mod_eq_of_lt
abbrev jfe:=@Nat.two_pow_pos
abbrev jff:=@List.map_congr_left
abbrev jfg:=@List.drop_length
abbrev jfh:=@List.take_left
abbrev jfi:=@List.nil_append
abbrev jfj:=@List.map_id
abbrev jfk:=@Nat.min_eq_left
abbrev jfl:=@Nat.pow_add
abbrev jfm:=@Nat.mul_le_mul_left
abbrev jfn:=@List.pairwise_cons
abbrev jfo:=@wpList_make_full
abbrev jfp:=@Nat.one_mul
abbrev jfq:=@Nat.xor_assoc
abbrev jfr:=@Nat.add_assoc
abbrev jfs:=@List.map_toArray
abbrev jft:=@Nat.mul_add
abbrev jfu:=@Option.map_some
abbrev jfv:=@World.ownsRow_lit
abbrev jfw:=@List.flatMap_append
abbrev jfx:=@Int.eq_ofNat_of_zero_le
abbrev jfy:=@List.isPrefixOf_iff_prefix
abbrev jfz:=@Nat.mul_assoc
abbrev jfA:=@Nat.pow_le_pow_right
abbrev jfB:=@List.mem_cons_of_mem
abbrev jfC:=@List.range_succ
abbrev jfD:=@List.length_set
abbrev jfE:=@List.getD_cons_succ
abbrev jfF:=@List.take_append_drop
abbrev jfG:=@List.flatMap_cons
abbrev jfH:=@List.flatten_cons
abbrev jfI:=@run_append_owned_none
abbrev jfJ:=@List.map_take
abbrev jfK:=@List.take_zero
abbrev jfL:=@Nat.mul_one
abbrev jfM:=@Nat.sub_self
abbrev jfN:=@Bool.eq_iff_iff
abbrev jfO:=@toList_madeCells_one
abbrev jfP:=@decide_eq_false_iff_not
abbrev jfQ:=@run_eql_slice_nil
abbrev jfR:=@List.drop_drop
abbrev jfS:=@List.mem_of_mem_drop
abbrev jfT:=@Nat.mul_le_mul
abbrev jfU:=@List.lt_irrefl
abbrev jfV:=@List.length_filter_le
abbrev jfW:=@List.pairwise_iff_getElem
abbrev jfX:=@List.filter_append
abbrev jfY:=@Nat.xor_lt_two_pow
abbrev jfZ:=@List.getElem_cons_zero
abbrev jf0:=@List.flatten_append
abbrev jf1:=@List.drop_eq_nil_of_le
abbrev jf2:=@List.not_mem_nil
abbrev jf3:=@List.take_succ_cons
abbrev jf4:=@Nat.lt_of_le_of_lt
abbrev jf5:=@List.eq_of_mem_replicate
abbrev jf6:=@List.mem_filter
abbrev jf7:=@List.length_range
abbrev jf8:=@List.filter_cons
abbrev jf9:=@List.getElem_append_left
abbrev jga:=@Nat.div_div_eq_div_mul
abbrev jgb:=@Option.bind_eq_some_iff
abbrev jgc:=@Nat.add_sub_cancel
abbrev jgd:=@List.mem_or_eq_of_mem_set
abbrev jge:=@List.mem_take_iff_getElem
open Go
open Go.Lib (decodeN)
def aR(l:List UInt8):Nat×Nat:=decodeN l.length (l.getD 0 0).toNat (l.getD 1 0).toNat (l.getD 2 0).toNat (l.getD 3 0).toNat
def vr(c:Nat):Prop:=c<55296∨(57344<=c/\c<=1114111)
def bt(n:Nat):UInt8:=UInt8.ofNat n
theorem cD{n:Nat}(h:n<256):(bt n).toNat=n:=by
 simp[bt];omega
def dX(c:Nat):List UInt8 :=
 if c<128 then [bt c]
 else if c<2048 then [bt (192+c / 64),bt (128+c % 64)]
 else if c<65536 then [bt (224+c / 4096),bt (128+c / 64 % 64),bt (128+c % 64)]
 else [bt (240+c / 262144),bt (128+c / 4096 % 64),bt (128+c / 64 % 64),bt (128+c % 64)]
theorem MP(c:Nat)(h:vr c):(Utf8.encode (c:Int)).data.toList=dX c:=by
 have hv:Utf8.valid (c:Int)=true:=by
  simp only[Utf8.valid,vr]at *;rcases h with h | h
  ·simp;omega
  ·simp;omega
 simp only[Utf8.encode,hv,if_true,jeQ,dX];repeat' split
 all_goals rfl
theorem iw(c:Nat):1<=(dX c).length/\(dX c).length<=4:=by
 unfold dX;repeat' split
 all_goals simp
theorem Xb(l:List UInt8)(k:Nat):(l.getD k 0).toNat<256:=UInt8.toNat_lt _
theorem Dq(c:Nat)(h:vr c)(y:List UInt8):aR (dX c++y)=(c,(dX c).length):=by
 unfold vr at h;unfold dX;split
 ·simp only[aR,jfc,jfi,je5,jer]
  rw[cD (by omega)];simp only[decodeN];rw[jei (by omega)];rfl
 ·split
  ·simp only[aR,jfc,jfi,je5,jfE,jer]
   rw[cD (by omega),cD (by omega)];simp only[decodeN];rw[jeh (by omega),jei (by omega),jei (by omega)];congr 1
   omega
  ·split
   ·simp only[aR,jfc,jfi,je5,jfE,jer]
    rw[cD (by omega),cD (by omega),cD (by omega)];simp only[decodeN];rw[jeh (by omega),jeh (by omega),jei (by omega),jei (by omega)];congr 1
    omega
   ·simp only[aR,jfc,jfi,je5,jfE,jer]
    rw[cD (by omega),cD (by omega),cD (by omega),cD (by omega)];simp only[decodeN];rw[jeh (by omega),jeh (by omega),jeh (by omega),jei (by omega),jei (by omega)];congr 1
    omega
theorem pD(x:UInt8)(n:Nat)(h:x.toNat=n):x=bt n:=by
 subst h;simp[bt]
def ok(u:Nat×Nat):Bool:=!(u.1==65533 && u.2==1)
theorem jb{c w:Nat}(h:w≠1):ok (c,w)=true:=by simp[ok,h]
theorem mA(l:List UInt8)(hl:l≠[]):aR l=(65533,1)∨(vr (aR l).1/\(aR l).2=(dX (aR l).1).length/\(aR l).1≠65533∨aR l=(65533,3))/\∃ y,l=dX (aR l).1++y:=by
 match l,hl with
 | b0::t,_ =>
  have h0:b0.toNat<256:=UInt8.toNat_lt _;by_cases ha:b0.toNat<128
  ·right
   have hu:aR (b0::t)=(b0.toNat,1):=by simp only[aR,je5,decodeN];rw[jei ha]
   rw[hu];have he:dX b0.toNat=[b0]:=by simp only[dX];rw[jei ha,← pD b0 _ rfl]
   refine⟨Or.inl ⟨Or.inl (by show b0.toNat<55296;omega),by simp[he],by simp;omega⟩,t,by simp[he]⟩
  ·by_cases h2:194<=b0.toNat/\b0.toNat<224
   ·cases t with
    | nil=>left;simp only[aR,decodeN,je5,jer,jeL];rw[jeh ha,jeh (by omega),jeh (by omega),jeh (by omega)]
    | cons b1 t =>
     have h1:b1.toNat<256:=UInt8.toNat_lt _;by_cases hc:b1.toNat / 64=2
     ·right
      have hu:aR (b0::b1::t)=(b0.toNat % 32*64+b1.toNat % 64,2):=by simp only[aR,je5,jfE,jer,decodeN];rw[jeh ha,jei (by omega),jei (by omega)]
      rw[hu]
      have he:dX (b0.toNat % 32*64+b1.toNat % 64)=[b0,b1]:=by
       simp only[dX];rw[jeh (by omega),jei (by omega),← pD b0 _ (by omega),← pD b1 _ (by omega)]
      refine⟨Or.inl ⟨Or.inl (by simp only;omega),by simp[he],by simp only;omega⟩,t,by simp[he]⟩
     ·left
      simp only[aR,je5,jfE,jer,decodeN];rw[jeh ha,jeh (by omega),jeh (by omega),jeh (by omega)]
   ·by_cases h3:224<=b0.toNat/\b0.toNat<240
    ·match t with
     | []=>left;simp only[aR,decodeN,je5,jer,jeL];rw[jeh ha,jeh (by omega),jeh (by omega),jeh (by omega)]
     | [b1]=>left;simp only[aR,decodeN,je5,jer,jeL];rw[jeh ha,jeh (by omega),jeh (by omega),jeh (by omega)]
     | b1::b2::t =>
      have h1:b1.toNat<256:=UInt8.toNat_lt _;have h2':b2.toNat<256:=UInt8.toNat_lt _;generalize hn:b0.toNat % 16*4096+b1.toNat % 64*64+b2.toNat % 64=n;by_cases hc:b1.toNat / 64=2/\b2.toNat / 64=2/\n>=2048/\(n<55296∨(57344<=n/\n<=1114111))
      ·right
       have hu:aR (b0::b1::b2::t)=(n,3):=by simp only[aR,je5,jfE,jer,decodeN];rw[hn,jeh ha,jeh (by omega),jei (by omega),jei (by omega)]
       rw[hu]
       have he:dX n=[b0,b1,b2]:=by
        simp only[dX];rw[jeh (by omega),jeh (by omega),jei (by omega),← pD b0 _ (by omega),← pD b1 _ (by omega),← pD b2 _ (by omega)]
       refine⟨?_,t,by simp[he]⟩;by_cases fJ:n=65533
       ·right;rw[fJ]
       ·exact Or.inl ⟨by simp only[vr];omega,by simp[he],fJ⟩
      ·left
       simp only[aR,je5,jfE,jer,decodeN];rw[hn,jeh ha,jeh (by omega)];split
       ·rw[jeh (by omega)]
       ·rw[jeh (by omega)]
    ·by_cases h4:240<=b0.toNat/\b0.toNat<248
     ·match t with
      | []=>left;simp only[aR,decodeN,je5,jer,jeL];rw[jeh ha,jeh (by omega),jeh (by omega),jeh (by omega)]
      | [b1]=>left;simp only[aR,decodeN,je5,jer,jeL];rw[jeh ha,jeh (by omega),jeh (by omega),jeh (by omega)]
      | [b1,b2]=>left;simp only[aR,decodeN,je5,jer,jeL];rw[jeh ha,jeh (by omega),jeh (by omega),jeh (by omega)]
      | b1::b2::b3::t =>
       have h1:b1.toNat<256:=UInt8.toNat_lt _;have h2':b2.toNat<256:=UInt8.toNat_lt _;have h3':b3.toNat<256:=UInt8.toNat_lt _;generalize hn:b0.toNat % 8*262144+b1.toNat % 64*4096+b2.toNat % 64*64+b3.toNat % 64=n;by_cases hc:b1.toNat / 64=2/\b2.toNat / 64=2/\b3.toNat / 64=2/\n>=65536/\(n<55296∨(57344<=n/\n<=1114111))
       ·right
        have hu:aR (b0::b1::b2::b3::t)=(n,4):=by simp only[aR,je5,jfE,jer,decodeN];rw[hn,jeh ha,jeh (by omega),jeh (by omega),jei (by omega),jei (by omega)]
        rw[hu]
        have he:dX n=[b0,b1,b2,b3]:=by
         simp only[dX];rw[jeh (by omega),jeh (by omega),jeh (by omega),← pD b0 _ (by omega),← pD b1 _ (by omega),← pD b2 _ (by omega),← pD b3 _ (by omega)]
        refine⟨?_,t,by simp[he]⟩;exact Or.inl ⟨by simp only[vr];omega,by simp[he],by omega⟩
       ·left
        simp only[aR,je5,jfE,jer,decodeN];rw[hn,jeh ha,jeh (by omega),jeh (by omega)];split
        ·rw[jeh (by omega)]
        ·rfl
     ·left
      simp only[aR,je5,decodeN];rw[jeh ha];split
      ·rw[jeh (by have:=Xb (b0::t) 1;omega)]
      ·rw[jeh (by omega),jeh (by omega)]
theorem dF(l:List UInt8)(hl:l≠[]):1<=(aR l).2/\(aR l).2<=l.length:=by
 have tQ:1<=l.length:=by cases l with | nil=>exact absurd rfl hl | cons=>simp
 rcases mA l hl with h | ⟨h,y,hy⟩
 ·rw[h];exact⟨jek _,tQ⟩
 ·rcases h with ⟨_,h,_⟩ | h
  ·have:=iw (aR l).1
   have bR:=jep List.length hy;simp at bR
   omega
  ·have bR:=jep List.length hy
   rw[h]at bR ⊢;have:(dX 65533).length=3:=by decide
   simp[this]at bR
   simp
   omega
theorem LA(l:List UInt8)(hl:l≠[]):vr (aR l).1:=by
 rcases mA l hl with h | ⟨⟨h,_⟩ | h,_⟩
 ·rw[h];simp[vr]
 ·exact h
 ·rw[h];simp[vr]
def us:Nat->List UInt8->List (Nat×Nat)
 | 0,_=>[]
 | _+1,[]=>[]
 | f+1,b::t=>aR (b::t)::us f ((b::t).drop (aR (b::t)).2)
def V(l:List UInt8):List (Nat×Nat):=us l.length l
theorem Xc:∀(f:Nat) (l:List UInt8),l.length<=f->∀ g,l.length<=g->us f l=us g l:=by
 intro f;induction f with
 | zero=>intro l h g hg;cases l with | nil=>cases g<;>rfl | cons=>simp at h
 | succ f ih =>
  intro l h g hg;cases l with
  | nil=>cases g<;>rfl
  | cons b t =>
   cases g with
   | zero=>simp at hg
   | succ g =>
    have hw:=dF (b::t) (by simp);simp only[us];congr 1
    simp at h hg hw
    exact ih _ (by simp;omega) _ (by simp;omega)
@[simp] theorem V_nil:V []=[]:=rfl
theorem pW{l:List UInt8}(hl:l≠[]):V l=aR l::V (l.drop (aR l).2):=by
 cases l with
 | nil=>exact absurd rfl hl
 | cons b t =>
  have hw:=dF (b::t) (by simp);show us (t.length+1) (b::t)=_
  simp only[us];congr 1
  simp at hw
  exact Xc _ _ (by simp;omega) _ (by simp)
theorem Rr:∀(n:Nat) (l:List UInt8),l.length<=n->(V l).length<=l.length:=by
 intro n;induction n with
 | zero=>intro l h;cases l with | nil=>simp | cons=>simp at h
 | succ n ih =>
  intro l h;by_cases hl:l=[]
  ·subst hl;simp
  ·rw[pW hl]
   have hw:=dF l hl;have:=ih (l.drop (aR l).2) (by simp;omega);simp at this ⊢
   omega
theorem Dr(l:List UInt8):(V l).length<=l.length:=Rr _ l (jek _)
theorem Xd:∀(n:Nat) (l:List UInt8),l.length<=n->∀ u∈V l,vr u.1/\1<=u.2:=by
 intro n;induction n with
 | zero=>intro l h;cases l with | nil=>simp | cons=>simp at h
 | succ n ih =>
  intro l h u hu;by_cases hl:l=[]
  ·subst hl;simp at hu
  ·rw[pW hl]at hu
   have hw:=dF l hl;simp at hu
   rcases hu with rfl | hu
   ·exact⟨LA l hl,hw.1⟩
   ·exact ih _ (by simp;omega) u hu
theorem jaZ(c:Nat)(y:List UInt8):dX c++y≠[]:=by
 have:=iw c;intro h;have h2:=jep List.length h;simp at h2
 rw[h2.1]at this;simp at this
theorem V_enc{c:Nat}(h:vr c)(y:List UInt8):V (dX c++y)=(c,(dX c).length)::V y:=by
 rw[pW (jaZ c y),Dq c h y];simp
def eu(c:Nat):Nat×Nat:=(c,(dX c).length)
def lQ(rs:List Nat):List UInt8:=rs.flatMap dX
@[simp] theorem flat_nil:lQ []=[]:=rfl
@[simp] theorem flat_cons (c:Nat) (rs:List Nat):lQ (c::rs)=dX c++lQ rs:=rfl
@[simp] theorem flat_append (a b:List Nat):lQ (a++b)=lQ a++lQ b:=by simp[lQ]
theorem ja0(rs:List Nat)(h:∀ r∈rs,vr r)(y:List UInt8):V (lQ rs++y)=rs.map eu++V y:=by
 induction rs with
 | nil=>rfl
 | cons c rs ih =>
  rw[flat_cons,jez,V_enc (h c (by simp))];rw[ih (fun r hr=>h r (by simp[hr]))];rfl
def dS(l:List UInt8):Bool:=(V l).all ok
def iU(l:List UInt8):List Nat:=(V l).map Prod.fst
theorem Bj(rs:List Nat)(h:∀ r∈rs,vr r):V (lQ rs)=rs.map eu:=by
 have:=ja0 rs h [];simpa using this
theorem Xe{l:List UInt8}(hl:l≠[])(ho:ok (aR l)=true):aR l=eu (aR l).1/\∃ y,l=dX (aR l).1++y:=by
 rcases mA l hl with h | ⟨h,y,hy⟩
 ·rw[h]at ho;simp[ok]at ho
 ·refine⟨?_,y,hy⟩
  rcases h with ⟨_,h,_⟩ | h
  ·exact Prod.ext rfl h
  ·rw[h];decide
theorem lE:∀(n:Nat) (l:List UInt8),l.length<=n->dS l=true->l=lQ (iU l)/\V l=(iU l).map eu:=by
 intro n;induction n with
 | zero=>intro l h hc;cases l with | nil=>exact⟨rfl,rfl⟩ | cons=>simp at h
 | succ n ih =>
  intro l h hc;by_cases hl:l=[]
  ·subst hl;exact⟨rfl,rfl⟩
  ·have hw:=dF l hl
   unfold dS at hc;rw[pW hl,List.all_cons,Bool.and_eq_true]at hc;obtain⟨hu,y,hy⟩:=Xe hl hc.1
   have hd:l.drop (aR l).2=y:=by
    have h2:(aR l).2=(dX (aR l).1).length:=jep Prod.snd hu;rw[h2];conv=>lhs;arg 2;rw[hy]
    simp
   obtain⟨e1,e2⟩:=ih (l.drop (aR l).2) (by simp;omega) hc.2
   have hr:iU l=(aR l).1::iU (l.drop (aR l).2):=by
    unfold iU;rw[pW hl];rfl
   rw[hr];constructor
   ·rw[flat_cons,← e1,hd];exact hy
   ·rw[pW hl,e2,jeT,← hu]
theorem Rt{l:List UInt8}(h:dS l=true):l=lQ (iU l):=(lE _ l (jek _) h).1
theorem Bk{l:List UInt8}(h:dS l=true):V l=(iU l).map eu:=(lE _ l (jek _) h).2
theorem Ru(l:List UInt8):∀ r∈iU l,vr r:=by
 intro r hr;simp[iU]at hr
 obtain⟨w,hw⟩:=hr;exact(Xd _ l (jek _) _ hw).1
def eQ(u:List (Nat×Nat))(k:Nat):Nat:=((u.take k).map Prod.snd).sum
@[simp] theorem offs_zero (u:List (Nat×Nat)):eQ u 0=0:=by simp[eQ]
theorem zx{u t:List (Nat×Nat)}{k:Nat}{x:Nat×Nat}(h:u.drop k=x::t):eQ u (k+1)=eQ u k+x.2:=by
 have hk:k<u.length:=by
  rcases jeM k u.length with h1 | h1
  ·exact h1
  ·rw[jf1 h1]at h;cases h
 have hx:u[k]=x:=by
  rw[je1 hk]at h;exact(List.cons.inj h).1
 unfold eQ;rw[jeA hk,hx];simp
theorem zy{u t:List (Nat×Nat)}{k:Nat}{x:Nat×Nat}(h:u.drop k=x::t):u.drop (k+1)=t:=by
 rw[← jfR,h];rfl
def At(l:List UInt8)(p k:Nat):Prop:=p<=l.length/\V (l.drop p)=(V l).drop k/\p=eQ (V l) k/\k<=(V l).length
theorem At.zero(l:List UInt8):At l 0 0:=⟨by omega,by simp,by simp,by omega⟩
theorem jp{l:List UInt8}{p:Nat}(h:p<l.length):l.drop p≠[]:=by
 intro h2;have:=jep List.length h2;simp at this
 omega
theorem At.lt{l:List UInt8}{p k:Nat}(h:At l p k)(hp:p<l.length):(V l).drop k=aR (l.drop p)::V (l.drop (p+(aR (l.drop p)).2)):=by
 rw[← h.2.1,pW (jp hp),jfR]
theorem At.len{l:List UInt8}{p k:Nat}(h:At l p k)(hp:p<l.length):k<(V l).length:=by
 have h1:=h.lt hp;rcases jeM k (V l).length with h2 | h2
 ·exact h2
 ·rw[jf1 h2]at h1;cases h1
theorem At.get{l:List UInt8}{p k:Nat}(h:At l p k)(hp:p<l.length):(V l)[k]?=some (aR (l.drop p)):=by
 have h1:=h.lt hp;have hk:=h.len hp;rw[je1 hk]at h1;rw[List.getElem?_eq_getElem hk,(List.cons.inj h1).1]
theorem At.next{l:List UInt8}{p k:Nat}(h:At l p k)(hp:p<l.length):At l (p+(aR (l.drop p)).2) (k+1):=by
 have h1:=h.lt hp;have hw:=dF _ (jp hp);simp at hw
 refine⟨by omega,?_,?_,h.len hp⟩
 ·rw[zy h1]
 ·rw[zx h1,← h.2.2.1]
theorem At.end{l:List UInt8}{p k:Nat}(h:At l p k)(hp:¬ p<l.length):k=(V l).length/\p=l.length:=by
 have h1:=h.2.1;rw[jf1 (by omega)]at h1;have h2:=jep List.length h1;simp at h2
 have:=h.2.2.2;have:=h.1;exact⟨by omega,by omega⟩
theorem ws{l:List UInt8}{p k:Nat}(h:At l p k)(hp:p<l.length):((V l).take (k+1))=(V l).take k++[aR (l.drop p)]:=by
 have hk:=h.len hp;have hg:=h.get hp;rw[List.getElem?_eq_getElem hk]at hg;rw[jeA hk,Option.some.inj hg]
theorem Bl{l:List UInt8}(hl:l≠[])(h:(aR l).1=65533):([239,191,189]:List UInt8).isPrefixOf l=ok (aR l):=by
 rcases mA l hl with hu | ⟨hu,y,hy⟩
 ·rw[hu]
  cases hp:([239,191,189]:List UInt8).isPrefixOf l with
  | false=>rfl
  | true =>
   exfalso
   obtain⟨y,hy⟩:=jfy.1 hp
   have h2:aR l=(65533,3):=by
    rw[← hy];exact Dq 65533 (by simp[vr]) y
   rw[hu]at h2;cases h2
 ·rw[h]at hy
  have ZZ:aR l=(65533,3):=by
   rcases hu with ⟨_,_,h2⟩ | h2
   ·exact absurd h h2
   ·exact h2
  rw[ZZ,hy];have:dX 65533=[239,191,189]:=by decide
  rw[this];simp[ok]
theorem Ds(s:ByteArray)(p:Nat):Utf8.decode s p=aR (s.data.toList.drop p):=by
 have hg:∀ k,s.get! k=s.data.toList.getD k 0:=by
  intro k;show s.data[k]! = _
  by_cases h:k<s.data.size
  ·rw[getElem!_pos s.data k h,List.getD_eq_getElem?_getD,Array.getElem?_toList,Array.getElem?_eq_getElem h]
   rfl
  ·rw[getElem!_neg s.data k h,List.getD_eq_getElem?_getD,Array.getElem?_toList,Array.getElem?_eq_none (by omega)]
   rfl
 have hd:∀ k,(s.data.toList.drop p).getD k 0=s.data.toList.getD (p+k) 0:=by
  intro k;simp[List.getD_eq_getElem?_getD]
 rw[Lib.decode_at,hg,hg,hg,hg];unfold aR;have jG:(s.data.toList.drop p).length=s.size-p:=by rw[jeR];rfl
 rw[hd,hd,hd,hd,jG];rfl
open Go.Lib
def I64(x:Int):Prop:=-9223372036854775808<=x/\x<=9223372036854775807
theorem mB{n:Nat}(h:n<256):(n.toUInt8).toNat=n:=by
 show (UInt8.ofNat n).toNat=n
 rw[UInt8.toNat_ofNat'];omega
theorem fE{l:List Nat}(h:∀ x∈l,x<256):(l.map Nat.toUInt8).map UInt8.toNat=l:=by
 rw[jeW];conv=>rhs;rw[← jfj l]
 apply jff
 intro a ha;exact mB (h a ha)
abbrev Fd:=Nat×ByteArray×Nat×Bool
abbrev Cl:=Nat×Int×List Nat
def nul:Cl:=(0,0,[])
def Bs(l:List Nat):Prop:=∀ x∈l,x<256
def lb(s:ByteArray):List UInt8:=s.data.toList
theorem cL(s:ByteArray):(lb s).length=s.size:=rfl
def gM(c:Nat):Bool:=decide (97<=c/\c<=122) || decide (c=95) || decide (127<c)
def eG(c:Nat):Bool:=decide (48<=c/\c<=57)
def kZ(k c:Nat):Bool:=gM c || (eG c && decide (0<k))
def dT:Nat->List (Nat×Nat)->Bool
 | _,[]=>true
 | k,x::t=>kZ k x.1 && dT (k+1) t
def named(s:ByteArray):Bool:=decide (1<=s.size/\s.size<=16) && dS (lb s) && dT 0 (V (lb s))
def pp(l:List Fd)(n:ByteArray):Bool:=l.any fun f=>decide (f.2.1=n)
def wt(l:List Fd)(n:ByteArray):Bool:=named n && !pp l n
def fd(l:List Fd):Nat:=match l.getLast? with
 | none=>0
 | some f=>f.1
def ld(k:Nat):Bool:=decide (1<=k/\k<=3)
def gq(a:List Fd)(f:Fd):Nat :=
 if f.1<=fd a then 81 else if wt a f.2.1=false then 80 else if ld f.2.2.1=false then 10
 else if (f.2.2.2 != decide (a.length=0))=true∨(a.length=0/\f.2.2.1=2) then 82 else 0
def fe(a:List Fd):List Fd->Nat
 | []=>0
 | f::t=>if gq a f=0 then fe (a++[f]) t else gq a f
def chk(id:Nat)(l:List Fd):Nat:=if id=0∨l.length=0∨8<l.length then 1 else fe [] l
def qK(f:Fd)(c:Cl):Nat :=
 if c.1=0 then (if f.2.2.2=true then 82 else 0) else if c.1≠f.2.2.1 then 10 else if 64<c.2.2.length then 5 else 0
def qL:List Fd->List Cl->Nat
 | f::t,c::r=>if qK f c=0 then qL t r else qK f c
 | [],_=>0
 | _::_,[]=>0
def iO(l:List Fd)(r:List Cl):Nat:=if r.length≠l.length then 1 else qL l r
def kt(id:Nat):Nat->List Fd->Option Nat
 | _,[]=>none
 | k,f::t=>if f.1=id then some k else kt id (k+1) t
def iV(l:List Fd)(id:Nat):Option Nat:=kt id 0 l
def Okf(f:Fd):Prop:=f.1<4294967296/\f.2.2.1<256
theorem MQ{l:List Fd}(h:0<l.length):fd l=(l[l.length-1]'(by omega)).1:=by
 unfold fd;rw[List.getLast?_eq_getElem?,List.getElem?_eq_getElem (by omega)]
theorem qM(l:List Fd)(f:Fd):fd (l++[f])=f.1:=by
 unfold fd;simp
theorem GQ{l:List Fd}{i:Nat}(h:i<l.length):fd (l.take (i+1))=l[i].1:=by
 rw[jeA h,qM]
theorem LC{l:List Fd}{i:Nat}(h:i<l.length):fe (l.take i) (l.drop i)=if gq (l.take i) l[i]=0 then fe (l.take (i+1)) (l.drop (i+1)) else gq (l.take i) l[i]:=by
 rw[je1 h,fe,jeA h]
theorem Rx(l:List Fd):fe (l.take l.length) (l.drop l.length)=0:=by
 rw[jfg];rfl
theorem zz{l:List Fd}{i:Nat}{n:ByteArray}(h:i<l.length):pp (l.drop i) n=(decide (l[i].2.1=n) || pp (l.drop (i+1)) n):=by
 rw[je1 h];unfold pp;rw[List.any_cons]
theorem Dt{l:List Fd}{i id:Nat}(h:i<l.length):kt id i (l.drop i)=if l[i].1=id then some i else kt id (i+1) (l.drop (i+1)):=by
 rw[je1 h,kt]
theorem GR(l:List Fd)(id:Nat):kt id l.length (l.drop l.length)=none:=by rw[jfg];rfl
theorem zA{id:Nat}:∀{l:List Fd} {k j:Nat},kt id k l=some j->k<=j/\j<k+l.length
 | [],k,j,h=>by simp[kt]at h
 | f::t,k,j,h=>by
  unfold kt at h;by_cases hf:f.1=id
  ·rw[jei hf]at h
   have:=Option.some.inj h;simp
   omega
  ·rw[jeh hf]at h
   have:=zA h;simp
   omega
theorem Ry{l:List Fd}{id j:Nat}(h:iV l id=some j):j<l.length:=by have:=zA h;omega
theorem zB{l:List Fd}{r:List Cl}{i:Nat}(h:i<l.length)(h2:i<r.length):qL (l.drop i) (r.drop i)=if qK l[i] r[i]=0 then qL (l.drop (i+1)) (r.drop (i+1)) else qK l[i] r[i]:=by
 rw[je1 h,je1 h2,qL]
theorem Du(l:List Fd)(r:List Cl):qL (l.drop l.length) r=0:=by
 rw[jfg];unfold qL;rfl
theorem pE{k:Nat}{x:Nat×Nat}{t:List (Nat×Nat)}:dT k (x::t)=(kZ k x.1 && dT (k+1) t):=rfl
def Rise(l:List Fd):Prop:=l.Pairwise fun a b=>a.1<b.1
theorem LD:∀{l a:List Fd},fe a l=0->(∀ f∈a,f.1<=fd a)->(∀ f∈l,fd a<f.1)/\Rise l
 | [],a,_,_=>⟨fun f hf=>by simp at hf,List.Pairwise.nil⟩
 | g::t,a,h,ha=>by
  unfold fe at h;by_cases h0:gq a g=0
  ·rw[jei h0]at h
   have hg:fd a<g.1:=by
    unfold gq at h0;by_cases h1:g.1<=fd a
    ·rw[jei h1]at h0;omega
    ·omega
   have Qp:=qM a g
   have ha2:∀ f∈a++[g],f.1<=fd (a++[g]):=by
    intro f hf;rw[Qp];rcases jeN.1 hf with hf | hf
    ·have:=ha f hf;omega
    ·have:f=g:=by simpa using hf
     rw[this];exact jek _
   obtain⟨h3,h4⟩:=LD h ha2;rw[Qp]at h3;refine⟨fun f hf=>?_,?_⟩
   ·rcases jeC.1 hf with rfl | hf
    ·exact hg
    ·have:=h3 f hf;omega
   ·exact List.Pairwise.cons (fun f hf=>h3 f hf) h4
  ·rw[jeh h0]at h;exact absurd h h0
theorem qN{id:Nat}{l:List Fd}(h:chk id l=0):Rise l/\0<l.length/\l.length<=8/\0<id:=by
 unfold chk at h;by_cases h0:id=0∨l.length=0∨8<l.length
 ·rw[jei h0]at h;omega
 ·rw[jeh h0]at h
  refine⟨(LD h (fun f hf=>by simp at hf)).2,by omega,by omega,by omega⟩
theorem qO{l:List Fd}{row:List Cl}(h:iO l row=0):row.length=l.length:=by
 unfold iO at h;by_cases hl:row.length≠l.length
 ·rw[jei hl]at h;omega
 ·omega
def am(l:List Nat):ByteArray:=⟨(l.map Nat.toUInt8).toArray⟩
def de(s:ByteArray):List Nat:=s.toList.map UInt8.toNat
theorem bI(l:List Nat):(am l).toList=l.map Nat.toUInt8:=by
 rw[ByteArray.toList_eq];rfl
theorem bi(l:List Nat):(am l).size=l.length:=by
 show (l.map Nat.toUInt8).toArray.size=l.length
 simp
theorem ew:am []=⟨#[]⟩:=rfl
theorem Dv(s:ByteArray):Bs (de s):=fun x hx=>by
 obtain⟨y,_,rfl⟩:=jeF.1 hx;exact y.toNat_lt
theorem jc(s:ByteArray):(de s).length=s.size:=by
 unfold de;rw[jen,ByteArray.toList_eq];rfl
theorem ua(s:ByteArray):am (de s)=s:=by
 have h:(de s).map Nat.toUInt8=s.toList:=by
  unfold de;rw[jeW];conv=>rhs;rw[← jfj s.toList]
  apply jff
  intro x _;simp
 unfold am;rw[h,ByteArray.toList_eq]
def ff(b:Bool):Nat:=if b=true then 1 else 0
def szs(l:List Fd):Nat:=(l.map fun f=>f.2.1.size).sum
theorem yF{l:List Fd}{i:Nat}(h:i<l.length):szs (l.take (i+1))=szs (l.take i)+l[i].2.1.size:=by
 unfold szs;rw[jeA h,jeE,List.sum_append];simp only[jeT,je8,List.sum_cons,List.sum_nil,je9]
theorem LE{l:List Fd}{f:Fd}(h:f∈l):f.2.1.size<=szs l:=by
 induction l with
 | nil=>simp at h
 | cons g t ih =>
  unfold szs at *;simp only[jeT,List.sum_cons];rcases jeC.1 h with rfl | h
  ·omega
  ·have:=ih h;omega
theorem ub(l:List Fd)(i:Nat):szs (l.take i)<=szs l:=by
 have:szs l=szs (l.take i)+szs (l.drop i):=by
  conv=>lhs;rw[← jfF i l]
  unfold szs;rw[jeE,List.sum_append]
 omega
theorem Bs.app{a b:List Nat}(ha:Bs a)(hb:Bs b):Bs (a++b):=fun x hx=>by
 rcases jeN.1 hx with h | h
 ·exact ha x h
 ·exact hb x h
theorem Bs.drop{a:List Nat}(ha:Bs a)(k:Nat):Bs (a.drop k):=fun x hx=>ha x (jfS hx)
theorem Bs.take{a:List Nat}(ha:Bs a)(k:Nat):Bs (a.take k):=fun x hx=>ha x (je2 hx)
def textR(n:Nat)(r:List Nat):Except Nat (ByteArray×List Nat):=if r.length<n then .error 30 else .ok (am (r.take n),r.drop n)
def Rds{α : Type}(m:List Nat->Except Nat (α×List Nat))(l:List Nat)(f:Nat)(x:α)(l':List Nat)(f':Nat):Prop :=
 (f=0->m l=if f'=0 then .ok (x,l') else .error f')/\(f≠0->f'=f)
theorem Rds.pure{α : Type}(x:α)(l:List Nat)(f:Nat):Rds (fun b=>.ok (x,b)) l f x l f:=by
 refine⟨fun h0=>?_,fun _=>rfl⟩;rw[jei h0]
theorem Rds.dead{α : Type}{m:List Nat->Except Nat (α×List Nat)}{l l':List Nat}{f:Nat}(x:α)(h:f≠0):Rds m l f x l' f:=⟨fun h0=>absurd h0 h,fun _=>rfl⟩
def Bm{α : Type}(m:List Nat->Except Nat (α×List Nat))(e:List Nat)(x:α):Prop:=∀ r,m (e++r)=.ok (x,r)∨∃ c,c≠0/\m (e++r)=.error c
def uW{α : Type}(m:List Nat->Except Nat (α×List Nat))(e:List Nat)(x:α):Prop:=∀ r,m (e++r)=.ok (x,r)
theorem wC(s:ByteArray):uW (textR s.size) (de s) s:=by
 intro r;unfold textR;have hl:=jc s;rw[jeh (by simp;omega),← hl,jfh,je3,ua]
theorem uW.eith{α : Type}{m:List Nat->Except Nat (α×List Nat)}{e:List Nat}{x:α}(h:uW m e x):Bm m e x:=fun r=>Or.inl (h r)
theorem zC{α : Type}(x:α):uW (fun b=>.ok (x,b)) [] x:=fun r=>rfl
theorem Dw(b:Bool):decide (ff b=1)=b:=by cases b<;>rfl
theorem qP:∀{l a:List Fd},fe a l=0->∀ f∈l,f.2.1.size<=16
 | [],a,_,f,hf=>by simp at hf
 | g::t,a,h,f,hf=>by
  unfold fe at h;by_cases h0:gq a g=0
  ·rw[jei h0]at h
   rcases jeC.1 hf with rfl | hf
   ·unfold gq at h0
    by_cases h1:f.1<=fd a
    ·rw[jei h1]at h0;omega
    ·rw[jeh h1]at h0
     by_cases h2:wt a f.2.1=false
     ·rw[jei h2]at h0;omega
     ·have h3:wt a f.2.1=true:=by simpa using h2
      unfold wt named at h3;simp at h3
      omega
   ·exact qP h f hf
  ·rw[jeh h0]at h;exact absurd h h0
open Go.RowKit
theorem ae{p:Prop}(h:p):jgf p:=h
def aF(k:IntKind)(l:List Nat):List Value:=l.map fun(n:Nat)=>Value.int k (n:Int)
theorem ct(k:IntKind)(a b:List Nat):aF k (a++b)=aF k a++aF k b:=jeE
theorem ap(k:IntKind)(a:List Nat):(aF k a).length=a.length:=jen _
theorem bU{k:IntKind}{l:List Nat}{j:Nat}(h:j<l.length):(aF k l)[j]?=some (.int k (l[j]:Int)):=by simp[aF,h]
theorem ku(k:IntKind)(l:List Nat)(j c:Nat):(aF k l).set j (.int k (c:Int))=aF k (l.set j c):=by simp[aF,List.map_set]
theorem fY(k:IntKind)(l:List Nat):∀ u∈aF k l,u.oneCell'=true:=by
 intro u hu;obtain⟨b,_,rfl⟩:=jeF.1 hu;rfl
theorem jv:(Tryz.prog.info? 5).map (fun i=>(i.zero,i.size,i.bytes))=some (some (.int .u8 0),1,1):=by kernel_rfl
theorem mC(g j:Nat):(⟨g,0,none⟩:Addr).add j=⟨g,j,none⟩:=by unfold Addr.add;split<;>simp_all
theorem lR(b off j:Nat):(⟨b,off,none⟩:Addr).add j=⟨b,off+j,none⟩:=by unfold Addr.add;split<;>simp_all
theorem bJ{w w':World}{B e size n:Nat}{v:Value}{xs:List Value}(h:w.ownsRow B e size v n xs)(hb:Below w.heap.size w w'):w'.ownsRow B e size v n xs:=by
 obtain⟨hl,h⟩:=h;refine⟨hl,?_⟩;rcases h with h | ⟨g,cap,cur,h1,h2,h3,h4⟩
 ·exact Or.inl h
 ·have hg:g<w.heap.size:=by
   rcases jeM g w.heap.size with hg | hg
   ·exact hg
   ·rw[Array.getElem?_eq_none hg]at h3;cases h3
  exact Or.inr ⟨g,cap,cur,h1,h2,(hb.block g hg).trans h3,h4⟩
def Sx(k:IntKind)(W:World)(v:Value)(l:List Nat):Prop :=
 ∃ a cap,v=.slice a l.length cap/\l.length<=maxLen /\
  (0<l.length->∃ b off,a=some ⟨b,off,none⟩/\b<W.heap.size/\∀ j (h:j<l.length),W.cell? ⟨b,off+j,none⟩=some (.int k (l[j]:Int)))
theorem Sx.kept{k:IntKind}{W W':World}{v:Value}{l:List Nat}(h:Sx k W v l)(hb:Below W.heap.size W W'):Sx k W' v l:=by
 obtain⟨a,cap,rfl,h1,h3⟩:=h;refine⟨a,cap,rfl,h1,fun h0=>?_⟩;obtain⟨b,off,rfl,h4,h5⟩:=h3 h0;exact⟨b,off,rfl,jeH h4 hb.size,fun j hj=>(hb.cell (p:=⟨b,off+j,none⟩) h4).trans (h5 j hj)⟩
theorem Sx.of_own{k:IntKind}{W:World}{B e n:Nat}{v:Value}{l:List Nat}(h:W.ownsRow B e 1 v n (aF k l)):Sx k W v l:=by
 have hl:l.length=n:=by have:=h.1;simpa [aF]using this
 obtain⟨_,h1⟩:=id h;rcases h1 with ⟨rfl,rfl⟩ | ⟨g,cap,cur,rfl,hb,hg,h4,h5,_⟩
 ·exact⟨none,0,by rw[hl],by unfold maxLen;omega,fun h0=>by omega⟩
 ·refine⟨_,cap,by rw[hl],by omega,fun _=>⟨g,0,rfl,(Array.getElem?_eq_some_iff.1 hg).1,fun j hj=>?_⟩⟩
  have:=h.cells (g:=g) rfl j _ (bU hj);rw[mC]at this;rwa[jeO]
def txt(l:List Nat):Value:=.string ⟨(l.map Nat.toUInt8).toArray⟩
theorem Sx.conv{W:World}{v:Value}{l:List Nat}(h:Sx .u8 W v l)(h8:∀ x∈l,x<256):(convert 30 9 v).run Tryz.prog W=.ok (txt l) W:=by
 obtain⟨a,cap,rfl,h1,h3⟩:=h;rcases jfa l.length with h0 | hp
 ·obtain rfl:l=[]:=jeI h0
  first
   | exact run_convert_bytes_back_empty W 30 9 5 a cap Tryz.underlying30 Tryz.underlying5 Tryz.underlying9
   | (cases a<;>rfl)
   | (cases a<;>kernel_rfl)
 ·obtain⟨b,off,rfl,h4,h5⟩:=h3 hp
  have:=run_convert_bytes_back W 30 9 5 ⟨b,off,none⟩ cap (l.map Nat.toUInt8) Tryz.underlying30 Tryz.underlying5 Tryz.underlying9 (fun j hj=>by
   have hj':j<l.length:=by simpa using hj
   rw[lR,h5 j hj'];have h9:=h8 l[j] (jeo hj');congr 2
   simp[jfd h9])
  rw[jen]at this;exact this
theorem Sx.lit{k:IntKind}(w:World)(l:List Nat)(e:Nat)(hl:l.length<=maxLen):Sx k (w.alloc (.cells (aF k l).toArray e)) (.slice (some ⟨w.heap.size,0,none⟩) l.length l.length) l:=by
 have:=jfv (e:=e) (size:=1) w (aF k l).toArray l.length (base:=0) (je6 _) hl (by simp[aF]);exact Sx.of_own this
def aX(l:List UInt8):List Value:=l.map fun b=>Value.int .u8 (b.toNat:Int)
theorem jI(a b:List UInt8):aX (a++b)=aX a++aX b:=jeE
theorem nf(a:List UInt8):(aX a).length=a.length:=jen _
theorem Bo{l:List UInt8}{j:Nat}(h:j<l.length):(aX l)[j]?=some (.int .u8 (l[j].toNat:Int)):=by simp[aX,h]
theorem sS{w:World}{B e n:Nat}{v:Value}{xs:List Value}(h:w.ownsRow B e 1 v n xs):(∃ ad cap,v=.slice ad n cap/\∀ g,ad=some g->g.spot=none)/\(0<n->∃ g cap,v=.slice (some ⟨g,0,none⟩) n cap/\g<w.heap.size/\B<=g/\∀ j x,xs[j]?=some x->w.cell? ⟨g,j,none⟩=some x):=by
 obtain⟨hl,h1⟩:=id h;rcases h1 with ⟨rfl,rfl⟩ | ⟨g,cap,cur,rfl,hb,hg,h4⟩
 ·exact⟨⟨none,0,rfl,fun g hg=>by cases hg⟩,fun h=>by omega⟩
 ·refine⟨⟨_,cap,rfl,fun x hx=>by cases hx;rfl⟩,fun _=>⟨g,cap,rfl,(Array.getElem?_eq_some_iff.1 hg).1,hb,fun j x hx=>?_⟩⟩
  have:=h.cells (g:=g) rfl j x hx;have KO:(⟨g,0,none⟩:Addr).add j=⟨g,j,none⟩:=by unfold Addr.add;split<;>simp_all
  rwa[KO]at this
theorem jV{x:Nat}(h:x<256):aX [x.toUInt8]=[.int .u8 (x:Int)]:=by
 simp only[aX,jeT,je8,mB h]
theorem sT(l:List UInt8):∀ u∈aX l,u.oneCell'=true:=by
 intro u hu;obtain⟨b,_,rfl⟩:=jeF.1 hu;rfl
def Sl(W:World)(v:Value)(l:List UInt8):Prop :=
 ∃ a cap,v=.slice a l.length cap/\l.length<=cap/\cap<=maxLen /\
  (0<l.length->∃ b off,a=some ⟨b,off,none⟩/\b<W.heap.size/\∀ j (h:j<l.length),W.cell? ⟨b,off+j,none⟩=some (.int .u8 (l[j].toNat:Int)))
def Sv(W:World)(v:Value)(xs:List Value):Prop :=
 ∃ a cap,v=.slice a xs.length cap/\xs.length<=cap/\cap<=maxLen/\(a=none->cap=0) /\
  (0<xs.length->∃ b off,a=some ⟨b,off,none⟩/\b<W.heap.size/\∀ j x,xs[j]?=some x->W.cell? ⟨b,off+j,none⟩=some x)
theorem Sv.kept{W W':World}{v:Value}{xs:List Value}(h:Sv W v xs)(hb:Below W.heap.size W W'):Sv W' v xs:=by
 obtain⟨a,cap,rfl,h1,h2,h3,h4⟩:=h;refine⟨a,cap,rfl,h1,h2,h3,fun h0=>?_⟩;obtain⟨b,off,rfl,h5,h6⟩:=h4 h0;exact⟨b,off,rfl,jeH h5 hb.size,fun j x hj=>(hb.cell (p:=⟨b,off+j,none⟩) h5).trans (h6 j x hj)⟩
theorem Sv.nil(W:World):Sv W (.slice none 0 0) []:=⟨none,0,rfl,jek _,by unfold maxLen;omega,fun _=>rfl,fun h=>by simp at h⟩
theorem Sv.of_own{W:World}{B e n:Nat}{v:Value}{xs:List Value}(h:W.ownsRow B e 1 v n xs):Sv W v xs:=by
 have hl:xs.length=n:=by have:=h.1;simpa using this
 obtain⟨_,h1⟩:=id h;rcases h1 with ⟨rfl,rfl⟩ | ⟨g,cap,cur,rfl,hb,hg,h4,h5,_⟩
 ·exact⟨none,0,by rw[hl],by omega,by unfold maxLen;omega,fun _=>rfl,fun h0=>by omega⟩
 ·refine⟨_,cap,by rw[hl],by omega,h5,fun h=>(by cases h),fun _=>⟨g,0,rfl,(Array.getElem?_eq_some_iff.1 hg).1,fun j x hj=>?_⟩⟩
  have:=h.cells (g:=g) rfl j _ hj;rw[mC]at this;rwa[jeO]
theorem Sv.len{W:World}{v:Value}{xs:List Value}(h:Sv W v xs):xs.length<=maxLen:=by obtain⟨_,_,_,h1,h2,_⟩:=h;omega
theorem Sv.sx{k:IntKind}{W:World}{v:Value}{l:List Nat}(h:Sv W v (aF k l)):Sx k W v l:=by
 have hm:=h.len;obtain⟨a,cap,rfl,h1,h2,h3,h4⟩:=h;rw[ap]at *;refine⟨a,cap,rfl,hm,fun h0=>?_⟩;obtain⟨b,off,rfl,h5,h6⟩:=h4 h0;exact⟨b,off,rfl,h5,fun j hj=>h6 j _ (bU hj)⟩
theorem wD(l:List UInt8):aF .u8 (l.map UInt8.toNat)=aX l:=by simp[aF,aX]
theorem GS{l:List Nat}(h:Bs l):aX (l.map Nat.toUInt8)=aF .u8 l:=by rw[← wD,fE h]
theorem Sv.sl{W:World}{v:Value}{l:List Nat}(hb:Bs l)(h:Sv W v (aF .u8 l)):Sl W v (l.map Nat.toUInt8):=by
 rw[← GS hb]at h;obtain⟨a,cap,rfl,h1,h2,h3,h4⟩:=h;rw[nf]at *;refine⟨a,cap,rfl,h1,h2,fun h0=>?_⟩;obtain⟨b,off,rfl,h5,h6⟩:=h4 h0;exact⟨b,off,rfl,h5,fun j hj=>h6 j _ (Bo hj)⟩
theorem Sv.take{W:World}{a:Option Addr}{n cap:Nat}{xs:List Value}(h:Sv W (.slice a n cap) xs){k:Nat}(hk:k<=xs.length):Sv W (.slice a k cap) (xs.take k):=by
 obtain⟨a',c,h1,h2,h3,h4,h5⟩:=h;simp only[Value.slice.injEq]at h1;obtain⟨rfl,_,rfl⟩:=h1;have hl:(xs.take k).length=k:=by rw[jeq];omega
 refine⟨_,cap,by rw[hl],by omega,h3,h4,fun h0=>?_⟩;obtain⟨b',off',h6,h7,h8⟩:=h5 (by omega);refine⟨b',off',h6,h7,fun j x hj=>h8 j x ?_⟩;have tR:=(List.getElem?_eq_some_iff.1 hj).1;rw[List.getElem?_take]at hj;rwa[jei (by omega)]at hj
theorem Sv.drop{W:World}{b off n cap:Nat}{xs:List Value}(h:Sv W (.slice (some ⟨b,off,none⟩) n cap) xs){k:Nat}(hk:k<=xs.length){a:Addr}(ha:a=if cap=k then ⟨b,off,none⟩ else ⟨b,off+k,none⟩) :
  Sv W (.slice (some a) (n-k) (cap-k)) (xs.drop k):=by
 obtain⟨a',c,h1,h2,h3,h4,h5⟩:=h;simp only[Value.slice.injEq]at h1;obtain⟨rfl,rfl,rfl⟩:=h1;have hl:(xs.drop k).length=xs.length-k:=by rw[jeR]
 refine⟨_,_,by rw[hl],by omega,by omega,fun h=>(by cases h),fun h0=>?_⟩;obtain⟨b',off',h6,h7,h8⟩:=h5 (by omega);cases h6
 rw[jeh (by omega)]at ha;refine⟨b,off+k,by rw[ha],h7,fun j x hj=>?_⟩;rw[List.getElem?_drop]at hj;have:=h8 (k+j) x hj;rwa[← jfr]at this
def aD(W:World)(B:Nat)(v:Value)(bs:List Nat):Prop:=W.ownsRow B 5 1 v bs.length (aF .u8 bs)
theorem aD.nil(W:World)(B:Nat):aD W B (.slice none 0 0) []:=jfb _ _ _ _
theorem aD.kept{w w':World}{B:Nat}{v:Value}{bs:List Nat}(h:aD w B v bs)(hb:Below w.heap.size w w'):aD w' B v bs:=bJ h hb
theorem aD.sv{W:World}{B:Nat}{v:Value}{bs:List Nat}(h:aD W B v bs):Sv W v (aF .u8 bs):=Sv.of_own h
def dA(w:World)(bs:List Nat)(e:Ending)(w':World):Prop:=(∃ v,e=.returned v/\aD w' w.heap.size v bs)/\Below w.heap.size w w'
theorem ax{w:World}{ops:Array Oper}{rest:List Oper}{o:Oper}{a:Act}{Q:Exit->Act->World->Prop}(dY:o.guard=none)(s x:Operand)
  (ho:o.op=.call { callee:=.builtin .append,args:=#[s,x],argTypes:=#[30,30] })
  (base:Nat) (v vx:Value) (l0 l:List Nat) (hs:a.eval s=v) (aA:aD w base v l0) (hx:a.eval x=vx) (eN:Sv w vx (aF .u8 l))
  (hbytes:l0.length+l.length<=140737488355328) (aI:base<=w.heap.size)
  (h:∀ v' w',aD w' base v' (l0++l)->Below base w w'->wpList Tryz.prog ops Q rest (a.put o.dst v') w') :
  wpList Tryz.prog ops Q (o::rest) a w:=by
 obtain⟨i0,hi,ch,hz1',bv⟩:=jeD jv;unfold aD at *;obtain⟨ad,cap,rfl,h1,h2,h3,h4⟩:=eN;rw[ap]at *;cases ad with
 | none =>
  have hc:=h3 rfl;subst hc;have hl:l=[]:=jeI (by omega);subst hl;refine wpList_plain dY fun K hK=>?_
  have hr:=jfI (P:=Tryz.prog) (w:=w) base 30 o.type 5 i0 1 Tryz.underlying30 hi v l0.length (aF .u8 l0) aA;unfold Oper.wp execOp;simp only[ho,resolve,invoke,builtin,Sem.run_bind,Sem.run_pure,Result.andThen_ok,jfs,jeT,je8,hs,hx,hr,jeL];refine hK _ _ (h v w ?_ (jej _ _));rw[jeG];exact aA
 | some ad =>
  refine jeY (w:=w) dY s x 30 ho base 5 i0 (.int .u8 0) 1 1 Tryz.underlying30 hi ch hz1' bv rfl (by decide) v l0.length (aF .u8 l0) hs aA ad l.length cap (aF .u8 l) hx (by rw[ap];omega) ?_ (fY _ _) (by unfold maxLen;omega) (by omega) aI ?_
  ·intro j u hu
   have hj:j<l.length:=by
    have:=(List.getElem?_eq_some_iff.1 hu).1;rwa[ap]at this
   obtain⟨b,off,h5,_,h6⟩:=h4 (by omega);cases h5
   rw[lR];exact h6 j u hu
  ·intro v' w' o1 g1 _ _
   refine h v' w' ?_ ((jej base w).grown g1 aI (fun k hk=>(aA.lt k hk).1));rw[ct,jem];exact o1
def Fr(p B:Nat)(w w':World):Prop:=w'.os=w.os/\w'.tape=w.tape/\w'.output=w.output/\w.heap.size<=w'.heap.size/\∀ k,k<B->k≠p->w'.heap[k]?=w.heap[k]?
theorem Fr.os{p B:Nat}{w w':World}(h:Fr p B w w'):w'.os=w.os:=h.1
theorem Fr.tape{p B:Nat}{w w':World}(h:Fr p B w w'):w'.tape=w.tape:=h.2.1
theorem Fr.output{p B:Nat}{w w':World}(h:Fr p B w w'):w'.output=w.output:=h.2.2.1
theorem Fr.size{p B:Nat}{w w':World}(h:Fr p B w w'):w.heap.size<=w'.heap.size:=h.2.2.2.1
theorem Fr.block{p B:Nat}{w w':World}(h:Fr p B w w'):∀ k,k<B->k≠p->w'.heap[k]?=w.heap[k]?:=h.2.2.2.2
theorem Fr.refl(p B:Nat)(w:World):Fr p B w w:=⟨rfl,rfl,rfl,jek _,fun _ _ _=>rfl⟩
theorem Fr.trans{p B:Nat}{a b c:World}(h:Fr p B a b)(k:Fr p B b c):Fr p B a c :=
 ⟨k.os.trans h.os,k.tape.trans h.tape,k.output.trans h.output,jet h.size k.size,fun i hi hp=>(k.block i hi hp).trans (h.block i hi hp)⟩
theorem Fr.mono{p B B':Nat}{w w':World}(h:Fr p B w w')(hB:B'<=B):Fr p B' w w':=⟨h.os,h.tape,h.output,h.size,fun k hk hp=>h.block k (jeH hk hB) hp⟩
theorem Fr.of_below{p B:Nat}{w w':World}(h:Below B w w'):Fr p B w w':=⟨h.os,h.tape,h.output,h.size,fun k hk _=>h.block k hk⟩
theorem Fr.below{p B B':Nat}{w w':World}(h:Fr p B w w')(hp:B'<=p)(hB:B'<=B):Below B' w w':=⟨h.os,h.tape,h.output,h.size,fun k hk=>h.block k (by omega) (by omega)⟩
theorem Fr.set{p B:Nat}{w w':World}(h:Fr p B w w')(i:Nat)(v:Value):Fr p B w (w'.setCell ⟨p,i,none⟩ v):=by
 have h1:Below 0 w' (w'.setCell ⟨p,i,none⟩ v):=(jej 0 w').setCell (je6 _) v;exact⟨h1.os.trans h.os,h1.tape.trans h.tape,h1.output.trans h.output,jet h.size h1.size,fun k hk hp=>(Below.heap_setCell _ _ _ _ hp).trans (h.block k hk hp)⟩
theorem Fr.own{p:Nat}{w w':World}{B e size n:Nat}{v:Value}{xs:List Value}(hf:Fr p w.heap.size w w')(h:w.ownsRow B e size v n xs)(hp:p<B):w'.ownsRow B e size v n xs:=by
 obtain⟨hl,h⟩:=h;refine⟨hl,?_⟩;rcases h with h | ⟨g,cap,cur,h1,h2,h3,h4⟩
 ·exact Or.inl h
 ·have hg:g<w.heap.size:=(Array.getElem?_eq_some_iff.1 h3).1
  exact Or.inr ⟨g,cap,cur,h1,h2,(hf.block g hg (by omega)).trans h3,h4⟩
theorem cM{W:World}{p T:Nat}{c:Array Value}(h:W.heap[p]?=some (.cells c T (0,0)))(i:Nat)(v:Value):(W.setCell ⟨p,i,none⟩ v).heap[p]?=some (.cells (c.setIfInBounds i v) T (0,0)):=heap_setCell_same W p i c T v h
theorem ay{W:World}{p T:Nat}{c:Array Value}{fz:Nat×Nat}(h:W.heap[p]?=some (.cells c T fz))(i:Nat):W.cell? ⟨p,i,none⟩=c[i]?:=by
 simp[World.cell?,h]
def orf(f e:Nat):Nat:=if f=0 then e else f
theorem Fr.then{p B:Nat}{w w1 w2:World}(h:Fr p B w w1)(hb:Below B w1 w2):Fr p B w w2:=h.trans (Fr.of_below hb)
theorem fh(e:Nat):orf 0 e=e:=rfl
theorem eH{f:Nat}(h:f≠0)(e:Nat):orf f e=f:=by unfold orf;rw[jeh h]
theorem Sv.conv{W:World}{v:Value}{l:List Nat}(h:Sv W v (aF .u8 l))(hb:Bs l):(convert 30 9 v).run Tryz.prog W=.ok (txt l) W:=h.sx.conv hb
theorem Rz{a b:List Nat}(ha:Bs a)(hb:Bs b):a.map Nat.toUInt8=b.map Nat.toUInt8↔a=b:=by
 constructor
 ·intro h
  rw[← fE ha,← fE hb,h]
 ·intro h
  rw[h]
theorem Sv.form1{W:World}{v:Value}{xs:List Value}(h:Sv W v xs):∃ a cap,v=.slice a xs.length cap/\xs.length<=cap/\cap<=maxLen:=by
 obtain⟨a,cap,h1,h2,h3,_⟩:=h;exact⟨a,cap,h1,h2,h3⟩
theorem Sv.at1{W:World}{a:Option Addr}{n cap:Nat}{xs:List Value}(h:Sv W (.slice a n cap) xs){k:Nat}{x:Value}(hk:xs[k]?=some x) :
  ∃ b off,a=some ⟨b,off,none⟩/\b<W.heap.size/\W.cell? ⟨b,off+k,none⟩=some x:=by
 obtain⟨a',cap',e,h1,h2,h3,h4⟩:=h;have aB:=(List.getElem?_eq_some_iff.1 hk).1;simp only[Value.slice.injEq]at e;obtain⟨rfl,_,_⟩:=e;obtain⟨b,off,rfl,h5,h6⟩:=h4 (by omega);exact⟨b,off,rfl,h5,h6 k x hk⟩
theorem ak(w:World)(o:Obj):Below w.heap.size w (w.alloc o):=(jej _ _).alloc (jek _) _
theorem ai{a w w2:World}(h:Below a.heap.size a w)(h2:Below w.heap.size w w2):Below a.heap.size a w2:=h.trans (h2.mono h.size)
theorem oO(w:World)(l:List Nat)(hl:l.length<=maxLen):aD (w.alloc (.cells (aF .u8 l).toArray 5)) w.heap.size (.slice (some ⟨w.heap.size,0,none⟩) l.length l.length) l:=by
 have:=jfv (e:=5) (size:=1) w (aF .u8 l).toArray l.length (base:=w.heap.size) (jek _) hl (by simp[aF]);exact this
theorem qQ(w:World):aD (w.alloc (.cells #[] 5)) w.heap.size (.slice (some ⟨w.heap.size,0,none⟩) 0 0) []:=oO w [] (by unfold maxLen;simp)
theorem bg{W:World}{B B' e size n:Nat}{v:Value}{xs:List Value}(h:W.ownsRow B' e size v n xs)(hb:B<=B'):W.ownsRow B e size v n xs:=by
 obtain⟨q1,q2⟩:=h;refine⟨q1,?_⟩;rcases q2 with q | ⟨a1,a2,a3,a4,a5,a6⟩
 ·exact Or.inl q
 ·exact Or.inr ⟨a1,a2,a3,a4,jet hb a5,a6⟩
theorem aO{W:World}{B e size n:Nat}{v:Value}{xs:List Value}(h:W.ownsRow B e size v n xs):∃ a cap,v=.slice a n cap/\n<=cap/\cap<=maxLen:=by
 rcases h.2 with ⟨rfl,rfl⟩ | ⟨g,cap,cur,rfl,_,_,h1,h2,_⟩
 ·exact⟨none,0,rfl,jek _,by unfold maxLen;omega⟩
 ·exact⟨_,cap,rfl,h1,h2⟩
theorem gz{W w1:World}(hb:Below W.heap.size W w1):(∀ b o,b<W.heap.size->w1.cell? ⟨b,o,none⟩=W.cell? ⟨b,o,none⟩)/\(∀ b o,b<W.heap.size->w1.frozen? ⟨b,o,none⟩=W.frozen? ⟨b,o,none⟩) :=
 ⟨fun b o h=>hb.cell (p:=⟨b,o,none⟩) h,fun b o h=>hb.frozen (p:=⟨b,o,none⟩) h⟩
theorem dM(l:List Nat):txt l=.string (am l):=rfl
theorem Bp(v:Value)(w:World):(Instr.typeAssert (.iface 2 v) 78 2 true).run Tryz.prog w=.ok (.tuple #[v,.bool true]) w:=by kernel_rfl
theorem GT(v:Value)(w:World):(Instr.typeAssert (.iface 4 v) 78 2 true).run Tryz.prog w=.ok (.tuple #[.int .i64 0,.bool false]) w:=by kernel_rfl
theorem GU(v:Value)(w:World):(Instr.typeAssert (.iface 9 v) 78 2 true).run Tryz.prog w=.ok (.tuple #[.int .i64 0,.bool false]) w:=by kernel_rfl
theorem Bq(v:Value)(w:World):(Instr.typeAssert (.iface 4 v) 78 4 true).run Tryz.prog w=.ok (.tuple #[v,.bool true]) w:=by kernel_rfl
theorem GV(v:Value)(w:World):(Instr.typeAssert (.iface 9 v) 78 4 true).run Tryz.prog w=.ok (.tuple #[.bool false,.bool false]) w:=by kernel_rfl
theorem Br(v:Value)(w:World):(Instr.typeAssert (.iface 9 v) 78 9 true).run Tryz.prog w=.ok (.tuple #[v,.bool true]) w:=by kernel_rfl
theorem GW(w:World):(Instr.typeAssert .nilIface 78 2 true).run Tryz.prog w=.ok (.tuple #[.int .i64 0,.bool false]) w:=by kernel_rfl
theorem GX(w:World):(Instr.typeAssert .nilIface 78 4 true).run Tryz.prog w=.ok (.tuple #[.bool false,.bool false]) w:=by kernel_rfl
theorem GY(w:World):(Instr.typeAssert .nilIface 78 9 true).run Tryz.prog w=.ok (.tuple #[.string ⟨#[]⟩,.bool false]) w:=by kernel_rfl
theorem GZ(w:World):Calls Tryz.prog 148 #[.nilIface] w fun e w'=>e=.returned (.tuple #[.agg #[.int .u8 0,.int .i64 0,.string ⟨#[]⟩],.bool true])/\Below w.heap.size w w':=by
 go_enter Tryz.func148,Tryz.ntmps148
 go_wp2;exact bodyPost_ret (v:=.tuple #[.agg #[.int .u8 0,.int .i64 0,.string ⟨#[]⟩],.bool true]) (by simp[results,Tryz.results148,go_sem]) rfl ⟨rfl,(jej _ _).alloc (jek _) _⟩
theorem Ha(n:Int)(w:World):Calls Tryz.prog 148 #[.iface 2 (.int .i64 n)] w fun e w'=>e=.returned (.tuple #[.agg #[.int .u8 1,.int .i64 n,.string ⟨#[]⟩],.bool true])/\Below w.heap.size w w':=by
 have t1:=Bp;go_enter Tryz.func148,Tryz.ntmps148
 go_wp2;exact bodyPost_ret (v:=.tuple #[.agg #[.int .u8 1,.int .i64 n,.string ⟨#[]⟩],.bool true]) (by simp[results,Tryz.results148,go_sem]) rfl ⟨rfl,(jej _ _).alloc (jek _) _⟩
theorem Dx(b:Bool)(w:World):Calls Tryz.prog 148 #[.iface 4 (.bool b)] w fun e w'=>e=.returned (.tuple #[.agg #[.int .u8 2,.int .i64 (if b then 1 else 0),.string ⟨#[]⟩],.bool true])/\Below w.heap.size w w':=by
 have t1:=GT;have t2:=Bq;cases b
 ·go_enter Tryz.func148,Tryz.ntmps148
  go_wp2;exact bodyPost_ret (v:=.tuple #[.agg #[.int .u8 2,.int .i64 0,.string ⟨#[]⟩],.bool true]) (by simp[results,Tryz.results148,go_sem]) rfl ⟨rfl,(jej _ _).alloc (jek _) _⟩
 ·go_enter Tryz.func148,Tryz.ntmps148
  go_wp2;exact bodyPost_ret (v:=.tuple #[.agg #[.int .u8 2,.int .i64 1,.string ⟨#[]⟩],.bool true]) (by simp[results,Tryz.results148,go_sem]) rfl ⟨rfl,(jej _ _).alloc (jek _) _⟩
theorem yG(s:ByteArray)(w:World):Calls Tryz.prog 148 #[.iface 9 (.string s)] w fun e w'=>e=.returned (.tuple #[.agg #[.int .u8 3,.int .i64 0,.string s],.bool true])/\Below w.heap.size w w':=by
 have t1:=GU;have t2:=GV;have t3:=Br;go_enter Tryz.func148,Tryz.ntmps148
 go_wp2;exact bodyPost_ret (v:=.tuple #[.agg #[.int .u8 3,.int .i64 0,.string s],.bool true]) (by simp[results,Tryz.results148,go_sem]) rfl ⟨rfl,(jej _ _).alloc (jek _) _⟩
def Val(v:Value)(k n:Int)(s:ByteArray):Prop :=
 (v=.nilIface/\k=0/\n=0/\s=⟨#[]⟩)∨(v=.iface 2 (.int .i64 n)/\k=1/\s=⟨#[]⟩)∨(∃ b:Bool,v=.iface 4 (.bool b)/\k=2/\n=(if b then 1 else 0)/\s=⟨#[]⟩)∨(v=.iface 9 (.string s)/\k=3/\n=0)
theorem pX{v:Value}{k n:Int}{s:ByteArray}(h:Val v k n s)(w:World):Calls Tryz.prog 148 #[v] w fun e w'=>e=.returned (.tuple #[.agg #[.int .u8 k,.int .i64 n,.string s],.bool true])/\Below w.heap.size w w':=by
 rcases h with ⟨rfl,rfl,rfl,rfl⟩ | ⟨rfl,rfl,rfl⟩ | ⟨b,rfl,rfl,rfl,rfl⟩ | ⟨rfl,rfl,rfl⟩
 ·exact GZ w
 ·exact Ha n w
 ·exact Dx b w
 ·exact yG s w
theorem lS{v:Value}{k n:Int}{s:ByteArray}(h:Val v k n s)(w:World):Calls Tryz.prog 145 #[v] w fun e w'=>e=.returned (.tuple #[.agg #[.int .u8 k,.int .i64 n,.string s],.bool true])/\Below w.heap.size w w':=by
 go_enter Tryz.func145,Tryz.ntmps145
 go_wp2_with fail;refine(pX h _).mono ?_;rintro e w1 ⟨rfl,hb⟩;obtain⟨hc,hf⟩:=gz hb;have hz:w.heap.size<w1.heap.size:=by have:=hb.size;simp at this;omega
 go_wp2_with fail;refine bodyPost_ret (v:=.tuple #[.agg #[.int .u8 k,.int .i64 n,.string s],.bool true]) (by simp[results,Tryz.results145,go_sem,hc]) rfl ⟨rfl,?_⟩;exact((((((jej _ _).alloc (jek _) _).trans (hb.mono (by simp))).setCell (by simp) _).setCell (by simp) _).setCell (by simp) _)
def jJ(k n:Int):Bool:=if (k==1)=true then true else if (k==2)=true then (if (n==0)=true then true else n==1) else n==0
def tx(k:Int)(s:ByteArray):Bool:=(k != 3) && !s.toList.isEmpty
def flt(k n:Int)(s:ByteArray):Int:=if 3<k then 10 else if tx k s=true then 1 else if jJ k n=false then 1 else if 64<(s.size:Int) then 5 else 0
theorem wE{k:Int}{s:ByteArray}(h:tx k s=false):(k != 3)=false∨(k != 3)=true/\s.toList.isEmpty=true:=by
 unfold tx at h;cases h2:(k != 3)
 ·exact Or.inl rfl
 ·rw[h2]at h;right;simpa using h
theorem Bt{k:Int}{s:ByteArray}(h:tx k s=true):(k != 3)=true/\s.toList.isEmpty=false:=by
 unfold tx at h;rw[Bool.and_eq_true]at h;exact⟨h.1,by simpa using h.2⟩
theorem RA{s:ByteArray}(h:s.toList.isEmpty=true):s=⟨#[]⟩:=by
 have h1:s.toList=[]:=by simpa using h
 have h2:s.data.toList=[]:=by rw[← ByteArray.toList_eq];exact h1
 cases s with
 | mk d=>congr;exact Array.toList_eq_nil_iff.mp h2
theorem zD(k n:Int)(s:ByteArray)(h0:0<=k)(w:World):Calls Tryz.prog 114 #[.agg #[.int .u8 k,.int .i64 n,.string s]] w fun e w'=>e=.returned (.int .i64 (flt k n s))/\Below w.heap.size w w':=by
 by_cases h1:3<k
 ·rw[show flt k n s=10 by unfold flt;rw[jei h1]]
  clear h0;go_enter Tryz.func114,Tryz.ntmps114
  go_wp2;go_ret
  exact⟨rfl,(jej _ _).alloc (jek _) _⟩
 ·by_cases h2:tx k s=true
  ·rw[show flt k n s=1 by unfold flt;rw[jeh h1,jei h2]]
   obtain⟨h3,h4⟩:=Bt h2;have h5:k<=3:=(by omega);clear h0 h1 h2;go_enter Tryz.func114,Tryz.ntmps114
   go_wp2;go_ret
   exact⟨rfl,(jej _ _).alloc (jek _) _⟩
  ·have h3:=wE (by simpa using h2)
   by_cases h4:k=3
   ·subst h4
    clear h0 h1 h2 h3;cases hn:(n==0)
    ·rw[show flt 3 n s=1 by unfold flt;simp[tx,jJ,hn]]
     have Mt:(n != 0)=true:=by simpa using hn
     go_enter Tryz.func114,Tryz.ntmps114
     go_wp2;go_ret
     exact⟨rfl,(jej _ _).alloc (jek _) _⟩
    ·have Mt:(n != 0)=false:=by simpa using hn
     by_cases hs:64<(s.size:Int)
     ·rw[show flt 3 n s=5 by unfold flt;simp[tx,jJ,hn];omega]
      go_enter Tryz.func114,Tryz.ntmps114
      go_wp2;go_ret
      exact⟨rfl,(jej _ _).alloc (jek _) _⟩
     ·rw[show flt 3 n s=0 by unfold flt;simp[tx,jJ,hn];omega]
      have dR:(s.size:Int)<=64:=(by omega);clear hs;go_enter Tryz.func114,Tryz.ntmps114
      go_wp2;go_ret
      exact⟨rfl,(jej _ _).alloc (jek _) _⟩
   ·have h5:s=⟨#[]⟩:=by
     rcases h3 with h3 | h3
     ·simp at h3;omega
     ·exact RA h3.2
    subst h5;obtain rfl | rfl | rfl:k=0∨k=1∨k=2:=by omega
    ·clear h0 h1 h2 h3 h4
     cases hn:(n==0)
     ·rw[show flt 0 n ⟨#[]⟩=1 by unfold flt;simp[jJ,hn]]
      have Mt:(n != 0)=true:=by simpa using hn
      go_enter Tryz.func114,Tryz.ntmps114
      go_wp2;go_ret
      exact⟨rfl,(jej _ _).alloc (jek _) _⟩
     ·rw[show flt 0 n ⟨#[]⟩=0 by unfold flt;simp[jJ,hn,tx,ByteArray.size]]
      have Mt:(n != 0)=false:=by simpa using hn
      go_enter Tryz.func114,Tryz.ntmps114
      go_wp2;go_ret
      exact⟨rfl,(jej _ _).alloc (jek _) _⟩
    ·clear h0 h1 h2 h3 h4
     rw[show flt 1 n ⟨#[]⟩=0 by unfold flt;simp[jJ,tx,ByteArray.size]];go_enter Tryz.func114,Tryz.ntmps114
     go_wp2;go_ret
     exact⟨rfl,(jej _ _).alloc (jek _) _⟩
    ·clear h0 h1 h2 h3 h4
     cases hn:(n==0)
     ·have Mt:(n != 0)=true:=by simpa using hn
      cases hm:(n==1)
      ·rw[show flt 2 n ⟨#[]⟩=1 by unfold flt;simp[jJ,hn,hm]]
       have oD:(n != 1)=true:=by simpa using hm
       go_enter Tryz.func114,Tryz.ntmps114
       go_wp2;go_ret
       exact⟨rfl,(jej _ _).alloc (jek _) _⟩
      ·rw[show flt 2 n ⟨#[]⟩=0 by unfold flt;simp[jJ,hn,hm,tx,ByteArray.size]]
       have oD:(n != 1)=false:=by simpa using hm
       go_enter Tryz.func114,Tryz.ntmps114
       go_wp2;go_ret
       exact⟨rfl,(jej _ _).alloc (jek _) _⟩
     ·rw[show flt 2 n ⟨#[]⟩=0 by unfold flt;simp[jJ,hn,tx,ByteArray.size]]
      have Mt:(n != 0)=false:=by simpa using hn
      go_enter Tryz.func114,Tryz.ntmps114
      go_wp2;go_ret
      exact⟨rfl,(jej _ _).alloc (jek _) _⟩
theorem wF{k n:Int}{s:ByteArray}(h0:0<=k)(h:flt k n s=0):(k=0/\n=0/\s=⟨#[]⟩)∨(k=1/\s=⟨#[]⟩)∨(k=2/\n=0/\s=⟨#[]⟩)∨(k=2/\n=1/\s=⟨#[]⟩)∨(k=3/\n=0/\s.size<=64):=by
 unfold flt at h;by_cases h1:3<k
 ·rw[jei h1]at h;omega
 ·rw[jeh h1]at h
  by_cases h2:tx k s=true
  ·rw[jei h2]at h;omega
  ·rw[jeh h2]at h
   by_cases h3:jJ k n=false
   ·rw[jei h3]at h;omega
   ·rw[jeh h3]at h
    by_cases h4:64<(s.size:Int)
    ·rw[jei h4]at h;omega
    ·have h5:=wE (by simpa using h2)
     have h6:k≠3->s=⟨#[]⟩:=by
      intro hk;rcases h5 with h5 | h5
      ·simp at h5;omega
      ·exact RA h5.2
     obtain rfl | rfl | rfl | rfl:k=0∨k=1∨k=2∨k=3:=by omega
     ·simp[jJ]at h3;exact Or.inl ⟨rfl,h3,h6 (by omega)⟩
     ·exact Or.inr (Or.inl ⟨rfl,h6 (by omega)⟩)
     ·simp[jJ]at h3
      by_cases hn:n=0
      ·exact Or.inr (Or.inr (Or.inl ⟨rfl,hn,h6 (by omega)⟩))
      ·exact Or.inr (Or.inr (Or.inr (Or.inl ⟨rfl,h3 hn,h6 (by omega)⟩)))
     ·simp[jJ]at h3;exact Or.inr (Or.inr (Or.inr (Or.inr ⟨rfl,h3,by omega⟩)))
theorem Xf(k n:Int)(s:ByteArray)(h0:0<=k)(h:(flt k n s != 0)=true)(w:World):Calls Tryz.prog 73 #[.agg #[.int .u8 k,.int .i64 n,.string s]] w fun e w'=>e=.returned (.agg #[.int .u8 0,.int .i64 0,.string ⟨#[]⟩])/\Below w.heap.size w w':=by
 go_enter Tryz.func73,Tryz.ntmps73
 go_wp2_with fail;refine(zD _ _ _ h0 _).mono ?_;rintro e w1 ⟨rfl,hb⟩;obtain⟨hc,hf⟩:=gz hb;have hz:w.heap.size+1<w1.heap.size:=by have:=hb.size;simp at this;omega
 clear h0;go_wp2_with fail;refine bodyPost_ret (v:=.agg #[.int .u8 0,.int .i64 0,.string ⟨#[]⟩]) (by simp[results,Tryz.results73,go_sem,hc]) rfl ⟨rfl,?_⟩;exact(((((((jej _ _).alloc (jek _) _).alloc (by simp) _).trans (hb.mono (by simp;omega))).setCell (by simp) _).setCell (by simp) _).setCell (by simp) _)
theorem RC(k n:Int)(s:ByteArray)(h0:0<=k)(h:(flt k n s != 0)=false)(w:World):Calls Tryz.prog 73 #[.agg #[.int .u8 k,.int .i64 n,.string s]] w fun e w'=>e=.returned (.agg #[.int .u8 k,.int .i64 n,.string s])/\Below w.heap.size w w':=by
 go_enter Tryz.func73,Tryz.ntmps73
 go_wp2_with fail;refine(zD _ _ _ h0 _).mono ?_;rintro e w1 ⟨rfl,hb⟩;obtain⟨hc,hf⟩:=gz hb;have hz:w.heap.size+1<w1.heap.size:=by have:=hb.size;simp at this;omega
 clear h0;go_wp2_with fail;refine bodyPost_ret (v:=.agg #[.int .u8 k,.int .i64 n,.string s]) (by simp[results,Tryz.results73,go_sem,hc]) rfl ⟨rfl,?_⟩;exact(((((((jej _ _).alloc (jek _) _).alloc (by simp) _).trans (hb.mono (by simp;omega))).setCell (by simp) _).setCell (by simp) _).setCell (by simp) _)
def fk(k n:Int)(s:ByteArray):Int:=if flt k n s=0 then k else 0
def fn(k n:Int)(s:ByteArray):Int:=if flt k n s=0 then n else 0
def fs(k n:Int)(s:ByteArray):ByteArray:=if flt k n s=0 then s else ⟨#[]⟩
theorem Dy(k n:Int)(s:ByteArray)(h0:0<=k):(fk k n s=0/\fn k n s=0/\fs k n s=⟨#[]⟩)∨(fk k n s=1/\fs k n s=⟨#[]⟩)∨(fk k n s=2/\fn k n s=0/\fs k n s=⟨#[]⟩)∨(fk k n s=2/\fn k n s=1/\fs k n s=⟨#[]⟩)∨(fk k n s=3/\fn k n s=0/\(fs k n s).size<=64):=by
 unfold fk fn fs;by_cases h:flt k n s=0
 ·simp only[jei h];exact wF h0 h
 ·simp only[jeh h];exact Or.inl (by simp)
theorem LG(k n:Int)(s:ByteArray)(h0:0<=k)(w:World):Calls Tryz.prog 73 #[.agg #[.int .u8 k,.int .i64 n,.string s]] w fun e w'=>e=.returned (.agg #[.int .u8 (fk k n s),.int .i64 (fn k n s),.string (fs k n s)])/\Below w.heap.size w w':=by
 unfold fk fn fs;by_cases h:flt k n s=0
 ·simp only[jei h];exact RC k n s h0 (by simpa using h) w
 ·simp only[jeh h];exact Xf k n s h0 (by simpa using h) w
theorem MR(k n:Int)(s:ByteArray)(h0:0<=k)(w:World):Calls Tryz.prog 86 #[.agg #[.int .u8 k,.int .i64 n,.string s]] w fun e w'=>(∃ v,e=.returned v/\Val v (fk k n s) (fn k n s) (fs k n s))/\Below w.heap.size w w':=by
 have hf:=LG k n s h0;have hx:=Dy k n s h0;generalize fk k n s=a at *;generalize fn k n s=b at *;generalize fs k n s=c at *;have HF:jgf (∀ w:World,Calls Tryz.prog 73 #[.agg #[.int .u8 k,.int .i64 n,.string s]] w fun e w'=>e=.returned (.agg #[.int .u8 a,.int .i64 b,.string c])/\Below w.heap.size w w'):=hf;clear hf h0;obtain⟨rfl,rfl,rfl⟩ | ⟨rfl,rfl⟩ | ⟨rfl,rfl,rfl⟩ | ⟨rfl,rfl,rfl⟩ | ⟨rfl,rfl,hs⟩:=hx
 ·go_enter Tryz.func86,Tryz.ntmps86
  go_wp2_with fail;refine(HF.o _).mono ?_;rintro e w1 ⟨rfl,hb⟩;obtain⟨hc,hf⟩:=gz hb;have hz:w.heap.size<w1.heap.size:=by have:=hb.size;simp at this;omega
  go_wp2_with fail;go_ret
  exact⟨⟨_,rfl,Or.inl ⟨rfl,rfl,rfl,rfl⟩⟩,((((((jej _ _).alloc (jek _) _).trans (hb.mono (by simp))).setCell (by simp) _).setCell (by simp) _).setCell (by simp) _)⟩
 ·go_enter Tryz.func86,Tryz.ntmps86
  go_wp2_with fail;refine(HF.o _).mono ?_;rintro e w1 ⟨rfl,hb⟩;obtain⟨hc,hf⟩:=gz hb;have hz:w.heap.size<w1.heap.size:=by have:=hb.size;simp at this;omega
  go_wp2_with fail;go_ret
  exact⟨⟨_,rfl,Or.inr (Or.inl ⟨rfl,rfl,rfl⟩)⟩,((((((jej _ _).alloc (jek _) _).trans (hb.mono (by simp))).setCell (by simp) _).setCell (by simp) _).setCell (by simp) _)⟩
 ·go_enter Tryz.func86,Tryz.ntmps86
  go_wp2_with fail;refine(HF.o _).mono ?_;rintro e w1 ⟨rfl,hb⟩;obtain⟨hc,hf⟩:=gz hb;have hz:w.heap.size<w1.heap.size:=by have:=hb.size;simp at this;omega
  go_wp2_with fail;go_ret
  exact⟨⟨_,rfl,Or.inr (Or.inr (Or.inl ⟨false,rfl,rfl,rfl,rfl⟩))⟩,((((((jej _ _).alloc (jek _) _).trans (hb.mono (by simp))).setCell (by simp) _).setCell (by simp) _).setCell (by simp) _)⟩
 ·go_enter Tryz.func86,Tryz.ntmps86
  go_wp2_with fail;refine(HF.o _).mono ?_;rintro e w1 ⟨rfl,hb⟩;obtain⟨hc,hf⟩:=gz hb;have hz:w.heap.size<w1.heap.size:=by have:=hb.size;simp at this;omega
  go_wp2_with fail;go_ret
  exact⟨⟨_,rfl,Or.inr (Or.inr (Or.inl ⟨true,rfl,rfl,rfl,rfl⟩))⟩,((((((jej _ _).alloc (jek _) _).trans (hb.mono (by simp))).setCell (by simp) _).setCell (by simp) _).setCell (by simp) _)⟩
 ·go_enter Tryz.func86,Tryz.ntmps86
  go_wp2_with fail;refine(HF.o _).mono ?_;rintro e w1 ⟨rfl,hb⟩;obtain⟨hc,hf⟩:=gz hb;have hz:w.heap.size<w1.heap.size:=by have:=hb.size;simp at this;omega
  go_wp2_with fail;go_ret
  exact⟨⟨_,rfl,Or.inr (Or.inr (Or.inr ⟨rfl,rfl,rfl⟩))⟩,((((((jej _ _).alloc (jek _) _).trans (hb.mono (by simp))).setCell (by simp) _).setCell (by simp) _).setCell (by simp) _)⟩
theorem Dz{W:World}{base:Nat}{a:Addr}{cs:List Value}(h:W.cells? base a 3=some cs):∃ c0 c1 c2,cs=[c0,c1,c2]/\W.cell? (a.add 0)=some c0/\W.cell? (a.add 1)=some c1/\W.cell? (a.add 2)=some c2:=by
 obtain⟨_,hl,hc⟩:=World.cells?_some h;match cs,hl with
 | [c0,c1,c2],_=>exact⟨c0,c1,c2,rfl,by simpa using hc 0 (by omega),by simpa using hc 1 (by omega),by simpa using hc 2 (by omega)⟩
theorem wG:(Tryz.prog.info? 78).map (fun i=>(i.zero,i.size,i.bytes))=some (some .nilIface,1,16):=by kernel_rfl
end Go.Proofs.YtpljdjmpamjkhaaGreatDoor
