/- The steps of packing and unpacking, as numbers, without the program. Slices of numbers: what they hold, whoever made them; rows of the call's own. Contracts: how wide numbers are, the program's and the document's; the small functions. Contracts: the document's width; whether two lists are the same. Contracts: whether nothing is behind the last bit; the number that stands from a bit on. Contracts: a number's bits laid into a row of bytes from a bit on. Contract: the program's Pack. Contract: the program's Unpack. -/
import Derived.Test.YtpljdjmpamjkhaaGreatDoorZab
import Derived.Test.YtpljdjmpamjkhaaGreatDoorZai
import Derived.Test.YtpljdjmpamjkhaaGreatDoorZaf
import Derived.Test.YtpljdjmpamjkhaaGreatDoorZag
import Derived.Test.YtpljdjmpamjkhaaGreatDoorProg
import Derived.KernelRfl
import Derived.WalkKit
import Derived.WalkLawsBesides
import Derived.Outline
import Derived.WalkSpells
import Derived.Lib.OthersKept
import Derived.Maps.AppendAt
import Derived.Laws.OwnMore
import Derived.BigQuiet
import Derived.BigRegion
import Derived.Lib.VarintBits
set_option linter.unusedVariables false
set_option maxRecDepth 100000
set_option maxHeartbeats 4000000
namespace Go.Proofs.YtpljdjmpamjkhaaGreatDoor
theorem pow_at (t:Nat):2 ^ t=2 ^ (t % 8)*2 ^ (8*(t / 8)):=by
 rw [← Nat.pow_add]
 congr 1
 omega
theorem byte_low {bs:List Nat} {t:Nat} (h:∀ x∈bs,x<256) (ht:pk 8 bs<2 ^ t) (hj:t / 8<bs.length):bs[t / 8]<2 ^ (t % 8):=by
 rw [pk_get (w:=8) h hj]
 refine Nat.lt_of_le_of_lt (Nat.mod_le _ _) ?_
 rw [Nat.div_lt_iff_lt_mul (Nat.two_pow_pos _),← pow_at]
 exact ht
theorem pow_split {r:Nat} (h:r<8):2 ^ r*2 ^ (8-r)=256:=by
 rw [← Nat.pow_add,show r+(8-r)=8 by omega]
theorem low_lt {x n r:Nat} (hr:r<8) (hx:x<2 ^ r):x+n % 2 ^ (8-r)*2 ^ r<256:=by
 have h1:=Nat.mod_lt n (Nat.two_pow_pos (8-r))
 have h2:(n % 2 ^ (8-r)+1)*2 ^ r<=2 ^ (8-r)*2 ^ r:=Nat.mul_le_mul_right _ h1
 rw [Nat.mul_comm (2 ^ (8-r)),pow_split hr,Nat.add_mul,Nat.one_mul] at h2
 omega
theorem set_pk {bs:List Nat} {t:Nat} (hj:t / 8<bs.length) (c:Nat):pk 8 (bs.set (t / 8) (bs[t / 8]+c*2 ^ (t % 8)))=pk 8 bs+c*2 ^ t:=by
 have h:=pk_set 8 (bs[t / 8]+c*2 ^ (t % 8)) hj
 rw [Nat.add_mul,Nat.mul_assoc,← pow_at] at h
 omega
theorem set_lt {bs:List Nat} {j c:Nat} (h:∀ x∈bs,x<256) (hc:c<256):∀ x∈bs.set j c,x<256:=by
 intro x hx
 rcases List.mem_or_eq_of_mem_set hx with hx | rfl
 ·exact h x hx
 ·exact hc
theorem put_sum (V n t s:Nat):V+n % 2 ^ s*2 ^ t+n / 2 ^ s*2 ^ (t+s)=V+n*2 ^ t:=by
 have h:=Nat.mod_add_div n (2 ^ s)
 have h2:=congrArg (·*2 ^ t) h
 simp only [Nat.add_mul] at h2
 rw [Nat.pow_add,Nat.mul_comm (2 ^ t),← Nat.mul_assoc,Nat.mul_comm (n / 2 ^ s)]
 omega
theorem put_below {V n t s:Nat} (h:V<2 ^ t):V+n % 2 ^ s*2 ^ t<2 ^ (t+s):=by
 have h1:=Nat.mod_lt n (Nat.two_pow_pos s)
 have h2:(n % 2 ^ s+1)*2 ^ t<=2 ^ s*2 ^ t:=Nat.mul_le_mul_right _ h1
 rw [Nat.pow_add,Nat.mul_comm (2 ^ t)]
 rw [Nat.add_mul,Nat.one_mul] at h2
 omega
theorem put_rest {n w s:Nat} (h:n<2 ^ w):n / 2 ^ s<2 ^ (w-s):=by
 rw [Nat.div_lt_iff_lt_mul (Nat.two_pow_pos _),← Nat.pow_add]
 exact Nat.lt_of_lt_of_le h (Nat.pow_le_pow_right (by omega) (by omega))
theorem byte_from {bs:List Nat} {t:Nat} (h:∀ x∈bs,x<256) (hj:t / 8<bs.length):bs[t / 8] / 2 ^ (t % 8)=pk 8 bs / 2 ^ t % 2 ^ (8-t % 8):=by
 rw [pk_get (w:=8) h hj,show (2:Nat) ^ 8=2 ^ (t % 8)*2 ^ (8-t % 8) from (pow_split (by omega)).symm,Nat.mod_mul_right_div_self,Nat.div_div_eq_div_mul,
  Nat.mul_comm (2 ^ (8*(t / 8))),← pow_at]
theorem take_sum (D t a s:Nat):D / 2 ^ t % 2 ^ a+D / 2 ^ (t+a) % 2 ^ s*2 ^ a=D / 2 ^ t % 2 ^ (a+s):=by
 rw [Nat.pow_add 2 a s,Nat.mod_mul,Nat.div_div_eq_div_mul,← Nat.pow_add,Nat.mul_comm (2 ^ a)]
theorem clear_zero {bs:List Nat} {c:Nat} (h:∀ x∈bs,x<256) (hl:bs.length=by8 c) (h0:c % 8=0):pk 8 bs<2 ^ c:=by
 have:=pk_lt (w:=8) h
 rw [hl] at this
 rwa [show 8*by8 c=c by unfold by8;omega] at this
theorem clear_last {bs:List Nat} {c:Nat} (h:∀ x∈bs,x<256) (hl:bs.length=by8 c) (h0:c % 8≠0) (hj:bs.length-1<bs.length) :
  bs[bs.length-1] / 2 ^ (c % 8)=0↔pk 8 bs<2 ^ c:=by
 have hlt:=pk_lt (w:=8) h
 have e:bs.length-1=c / 8:=by rw [hl];unfold by8;omega
 have hc:c / 8<bs.length:=by omega
 have e2:bs[bs.length-1]=bs[c / 8]:=by simp only [e]
 rw [e2,byte_from h hc,Nat.mod_eq_of_lt]
 ·rw [Nat.div_eq_zero_iff]
  have:=Nat.two_pow_pos c
  omega
 ·rw [Nat.div_lt_iff_lt_mul (Nat.two_pow_pos _),← Nat.pow_add,show 8-c % 8+c=8*bs.length by rw [hl];unfold by8;omega]
  exact hlt
def fill (l:List Nat) (i:Nat):List Nat:=l.take i++List.replicate (l.length-i) 0
theorem fill_zero (l:List Nat):fill l 0=List.replicate l.length 0:=by simp [fill]
theorem fill_all (l:List Nat):fill l l.length=l:=by simp [fill]
theorem fill_length {l:List Nat} {i:Nat} (h:i<=l.length):(fill l i).length=l.length:=by simp [fill];omega
theorem fill_set {l:List Nat} {i:Nat} (h:i<l.length):(fill l i).set i l[i]=fill l (i+1):=by
 unfold fill
 rw [List.set_append_right _ _ (by simp;omega),List.length_take,Nat.min_eq_left (by omega),Nat.sub_self,show l.length-i=(l.length-(i+1))+1 by omega,
  List.replicate_succ,List.set_cons_zero,List.take_succ_eq_append_getElem h,List.append_assoc]
 rfl
theorem packed_is {l bs:List Nat} {w:Nat} (hc:can l w=true) (hb:∀ x∈bs,x<256) (hl:bs.length=by8 (l.length*w)) (h:pk 8 bs=pk w l):bs=packR l w:=by
 unfold packR
 rw [if_pos hc,Int.toNat_natCast,← h,← hl]
 exact (dig_pk hb).symm
end Go.Proofs.YtpljdjmpamjkhaaGreatDoor
set_option linter.unusedVariables false
set_option linter.unusedSimpArgs false
namespace Go.Proofs.YtpljdjmpamjkhaaGreatDoor
open Go.RowKit Go.Lib
end Go.Proofs.YtpljdjmpamjkhaaGreatDoor
set_option linter.unusedVariables false
set_option linter.unusedSimpArgs false
namespace Go.Proofs.YtpljdjmpamjkhaaGreatDoor
open Go.RowKit Go.Lib
theorem or_nat {a b:Nat} (ha:a<18446744073709551616) (hb:b<18446744073709551616):bits .or .u64 (a:Int) (b:Int)=((a ||| b:Nat):Int):=by
 show IntKind.u64.wrap ((BitVec.ofInt 64 (a:Int) ||| BitVec.ofInt 64 (b:Int)).toNat:Int)=_
 have e1:(BitVec.ofInt 64 (a:Int)).toNat=a:=by rw [BitVec.toNat_ofInt];omega
 have e2:(BitVec.ofInt 64 (b:Int)).toNat=b:=by rw [BitVec.toNat_ofInt];omega
 have h:=Nat.or_lt_two_pow (x:=a) (y:=b) (n:=64) ha hb
 rw [BitVec.toNat_or,e1,e2,IntKind.wrap_u64]
 omega
theorem width_any {w:World} {v:Value} {l:List Nat} (hs:Sx .u64 w v l) (h64:∀ x∈l,x<18446744073709551616) :
  Calls Tryz.prog 202 #[v] w fun e w'=>e=.returned (.int .i64 (wd l:Int))/\w'=w:=by
 obtain ⟨a,cap,rfl,hm,hc⟩:=hs
 have hm2:l.length<=9223372036854775807:=by unfold maxLen at hm;omega
 have HC:=hidden hc
 have H64:=hidden h64
 clear hc hm h64
 go_enter Tryz.func202,Tryz.ntmps202
 go_wp2_with fail
 go_loopw [3,9] (fun al i w'=>w'=w/\∃ k:Nat,k<=l.length/\i=.int .i64 (k:Int)/\al=.int .u64 (orAll (l.take k):Int)) (fun _ i _=>l.length-(intOf i).toNat)
 case atStart=>exact ⟨rfl,0,by omega,rfl,rfl⟩
 case round =>
  obtain ⟨rfl,k,hk,rfl,rfl⟩:=hrel
  by_cases hlt:k<l.length
  ·obtain ⟨b,off,rfl,hb,hcell⟩:=HC.out (by omega)
   have hck:=hcell k hlt
   have hx:=or64 H64.out k
   have hor:=or_nat hx (H64.out l[k] (List.getElem_mem hlt))
   have HT:=hidden (orAll_take_succ hlt)
   clear hcell hx
   generalize l[k]=x at *
   generalize orAll (l.take k)=y at *
   go_wp2_with fail
   go_roundw
   case rel=>exact ⟨trivial,k+1,by omega,by go_num,by rw [HT.out]⟩
   case measure=>simp [intOf];omega
  ·obtain rfl:k=l.length:=by omega
   rw [List.take_length]
   have hx:=or64 H64.out l.length
   rw [List.take_length] at hx
   have hw:=wd64 H64.out
   have HW:Hid (wd l=blen (orAll l)):=rfl
   clear HC H64
   generalize orAll l=y at *
   go_wp2_with fail
   go_loopw [3,6] (fun al i w'=>w'=wr/\∃ n k:Nat,al=.int .u64 (n:Int)/\i=.int .i64 (k:Int)/\n<=y/\k+blen n=wd l) (fun al _ _=>(intOf al).toNat)
   case atStart=>exact ⟨rfl,y,0,rfl,rfl,Nat.le_refl _,by rw [HW.out,Nat.zero_add]⟩
   case round =>
    obtain ⟨rfl,n,k,rfl,rfl,hn,hbl⟩:=hrel
    by_cases h0:((n:Int)==0)=true
    ·have h0':n=0:=by simpa using h0
     subst h0'
     have HK:Hid (k=wd l):=by show k=wd l;simpa [blen] using hbl
     clear hbl HW
     go_wp2_with fail
     go_ret
     rw [← HK.out]
     exact ⟨rfl,rfl⟩
    ·have h0f:((n:Int)==0)=false:=by simpa using h0
     have hn0:n≠0:=by simpa using h0
     have hbh:=blen_half hn0
     have HB:=hidden hbl
     have HBH:=hidden hbh
     have hkl:k<=64:=by omega
     clear h0 hbl hbh
     go_wp2_with fail
     go_roundw
     case rel=>exact ⟨trivial,n / 2,k+1,by go_num,by go_num,by omega,by have:=HB.out;have:=HBH.out;omega⟩
     case measure=>simp [intOf];omega
theorem allowed_any (n w:Int) (W:World):Calls Tryz.prog 201 #[.int .i64 n,.int .i64 w] W fun e w'=>e=.returned (.bool (decide (0<=n/\n<=256/\0<=w/\w<=64)))/\w'=W:=by
 by_cases h1:n>=0
 ·by_cases h2:n<=256
  ·by_cases h3:w>=0
   ·by_cases h4:w<=64
    ·rw [decide_eq_true (by omega)]
     go_enter Tryz.func201,Tryz.ntmps201
     go_wp2_with fail
     go_ret
     exact ⟨rfl,rfl⟩
    ·rw [decide_eq_false (by omega)]
     go_enter Tryz.func201,Tryz.ntmps201
     go_wp2_with fail
     go_ret
     exact ⟨rfl,rfl⟩
   ·rw [decide_eq_false (by omega)]
    go_enter Tryz.func201,Tryz.ntmps201
    go_wp2_with fail
    go_ret
    exact ⟨rfl,rfl⟩
  ·rw [decide_eq_false (by omega)]
   go_enter Tryz.func201,Tryz.ntmps201
   go_wp2_with fail
   go_ret
   exact ⟨rfl,rfl⟩
 ·rw [decide_eq_false (by omega)]
  go_enter Tryz.func201,Tryz.ntmps201
  go_wp2_with fail
  go_ret
  exact ⟨rfl,rfl⟩
theorem bytesFor_any (c:Nat) (hc:c<=16384) (W:World):Calls Tryz.prog 203 #[.int .i64 (c:Int)] W fun e w'=>e=.returned (.int .i64 (by8 c:Int))/\w'=W:=by
 have HE:Hid (((by8 c:Nat):Int)=((c:Int)+8-1) / 8):=by show _=_;unfold by8;omega
 go_enter Tryz.func203,Tryz.ntmps203
 go_wp2_with fail
 go_ret
 rw [HE.out]
 exact ⟨rfl,rfl⟩
end Go.Proofs.YtpljdjmpamjkhaaGreatDoor
set_option linter.unusedVariables false
set_option linter.unusedSimpArgs false
namespace Go.Proofs.YtpljdjmpamjkhaaGreatDoor
open Go.RowKit Go.Lib
end Go.Proofs.YtpljdjmpamjkhaaGreatDoor
set_option linter.unusedVariables false
set_option linter.unusedSimpArgs false
namespace Go.Proofs.YtpljdjmpamjkhaaGreatDoor
open Go.RowKit Go.Lib
theorem natdiv_zero {x u:Nat}:(((x:Int) / 2 ^ u)==0)=decide (x / 2 ^ u=0):=by
 have h2:((x / 2 ^ u:Nat):Int)=(x:Int) / 2 ^ u:=by simp
 rw [← h2]
 rw [Bool.eq_iff_iff]
 simp only [beq_iff_eq,decide_eq_true_eq]
 exact Int.natCast_eq_zero
theorem clear_any {w:World} {v:Value} {bs:List Nat} (hs:Sx .u8 w v bs) (h8:∀ x∈bs,x<256) (c:Nat) (hc:c<=16384) (hl:bs.length=by8 c) :
  Calls Tryz.prog 303 #[v,.int .i64 (c:Int)] w fun e w'=>e=.returned (.bool (decide (pk 8 bs<2 ^ c)))/\w'=w:=by
 obtain ⟨a,cap,rfl,hm,hcl⟩:=hs
 by_cases h0:c % 8=0
 ·have h0b:((c:Int) % 8==0)=true:=by simp;omega
  have HE:=hidden (decide_eq_true (clear_zero h8 hl h0))
  clear hcl h8 hl hm h0
  go_enter Tryz.func303,Tryz.ntmps303
  go_wp2_with fail
  go_ret
  rw [HE.out]
  exact ⟨rfl,rfl⟩
 ·have h0b:((c:Int) % 8==0)=false:=by simp;omega
  have hpos:0<bs.length:=by rw [hl];unfold by8;omega
  have hle:bs.length<=2048:=by rw [hl];unfold by8;omega
  obtain ⟨b,off,rfl,hb,hcell⟩:=hcl hpos
  have hck:=hcell (bs.length-1) (by omega)
  have HX:=hidden (clear_last h8 hl h0 (by omega))
  have hx:=h8 _ (List.getElem_mem (h:=(by omega:bs.length-1<bs.length)))
  have hsub:(bs.length:Int)-1=((bs.length-1:Nat):Int):=by omega
  have hlt:bs.length-1<bs.length:=by omega
  obtain ⟨u,hu⟩:∃ u,c % 8=u:=⟨_,rfl⟩
  have hui:(c:Int) % 8=(u:Int):=by omega
  have hu8:u<8:=by omega
  rw [hui] at h0b
  rw [hu] at HX
  generalize bs[bs.length-1]=x at *
  clear hcell hcl h8 hl hm h0 hu
  have HF:=hidden (natdiv_zero (x:=x) (u:=u))
  generalize bs.length-1=n at *
  generalize bs.length=L at *
  go_enter Tryz.func303,Tryz.ntmps303
  go_wp2_with fail
  go_ret
  refine ⟨?_,rfl⟩
  rw [← decide_eq_decide.2 HX.out,← HF.out]
  rfl
theorem take_or {D t0 t k s y n:Nat} (hn:D / 2 ^ t0 % 2 ^ k % 18446744073709551616=n) (hy:y=D / 2 ^ t % 2 ^ s) (ht:t=t0+k) (hk:k<64) (hs:s<=8) :
  bits .or .u64 (n:Int) (IntKind.u64.wrap ((y:Int)*2 ^ k))=((D / 2 ^ t0 % 2 ^ (k+s) % 18446744073709551616:Nat):Int):=by
 have h64:(18446744073709551616:Nat)=2 ^ k*2 ^ (64-k):=by rw [← Nat.pow_add,show k+(64-k)=64 by omega]
 have hk2:2 ^ k<=18446744073709551616:=by rw [h64];exact Nat.le_mul_of_pos_right _ (Nat.two_pow_pos _)
 have hm:=Nat.mod_lt (D / 2 ^ t0) (Nat.two_pow_pos k)
 rw [Nat.mod_eq_of_lt (Nat.lt_of_lt_of_le hm hk2)] at hn
 rw [hn] at hm
 have hsum:=take_sum D t0 k s
 rw [← ht,hn,← hy] at hsum
 rw [← hsum]
 have e:(y:Int)*2 ^ k=((y*2 ^ k:Nat):Int):=by simp
 have hdvd:y*2 ^ k % 18446744073709551616 % 2 ^ k=0:=by
  rw [h64,Nat.mod_mul_right_mod,Nat.mul_mod_left]
 have hlt:y*2 ^ k % 18446744073709551616<2 ^ k*2 ^ (64-k):=by rw [← h64];omega
 have hw:IntKind.u64.wrap (((y*2 ^ k:Nat)):Int)=((y*2 ^ k % 18446744073709551616:Nat):Int):=by rw [IntKind.wrap_u64];omega
 have hmod:(n+y*2 ^ k) % 18446744073709551616=(n+y*2 ^ k % 18446744073709551616) % 18446744073709551616:=by omega
 rw [e,hw,hmod]
 generalize y*2 ^ k % 18446744073709551616=z at *
 have hz:=Nat.div_add_mod z (2 ^ k)
 rw [hdvd,Nat.add_zero] at hz
 rw [← hz] at hlt
 have hq:=Nat.lt_of_mul_lt_mul_left hlt
 have hq2:2 ^ k*(z / 2 ^ k+1)<=2 ^ k*2 ^ (64-k):=Nat.mul_le_mul_left _ hq
 rw [← h64,Nat.mul_add,Nat.mul_one,hz] at hq2
 rw [Nat.mod_eq_of_lt (by omega)]
 have hj:=bits_join_low .u64 64 (by decide) wraps_u64 k (n:Int) (z:Int) (by omega) (by exact_mod_cast hm) (by omega) (by omega) (by exact_mod_cast hdvd) (by omega)
 rw [hj]
 omega
theorem mask_eq {ww:Nat} (h:ww<=64):IntKind.u64.wrap (IntKind.u64.wrap (2 ^ ww)-1)=((2 ^ ww-1:Nat):Int):=by
 have e:(2:Int) ^ ww=((2 ^ ww:Nat):Int):=by simp
 have hp:=Nat.two_pow_pos ww
 rcases Nat.lt_or_ge ww 64 with h1 | h1
 ·have:2 ^ ww<2 ^ 64:=Nat.pow_lt_pow_right (by omega) h1
  rw [e,IntKind.wrap_u64,IntKind.wrap_u64]
  omega
 ·obtain rfl:ww=64:=by omega
  decide
theorem take_mask {D t0 k n ww:Nat} (hn:D / 2 ^ t0 % 2 ^ k % 18446744073709551616=n) (h64:ww<=64) (hk:ww<=k) :
  bits .and .u64 (n:Int) (IntKind.u64.wrap (IntKind.u64.wrap (2 ^ ww)-1))=((D / 2 ^ t0 % 2 ^ ww:Nat):Int):=by
 rw [mask_eq h64]
 have hp:=Nat.two_pow_pos ww
 have hle:2 ^ ww<=2 ^ 64:=Nat.pow_le_pow_right (by omega) h64
 rw [(bits_nat .u64 64 (by decide) wraps_u64 n (2 ^ ww-1) (by omega) (by omega)).1,Nat.and_two_pow_sub_one_eq_mod,← hn]
 rw [Nat.mod_mod_of_dvd _ (show 2 ^ ww ∣ 18446744073709551616 from Nat.pow_dvd_pow (n:=64) 2 h64),Nat.mod_mod_of_dvd _ (Nat.pow_dvd_pow 2 hk)]
theorem take_any {w:World} {v:Value} {bs:List Nat} (hs:Sx .u8 w v bs) (h8:∀ x∈bs,x<256) (t0 ww:Nat) (hw:ww<=64) (ht:t0+ww<=8*bs.length) (ht0:t0<=16384) :
  Calls Tryz.prog 304 #[v,.int .i64 (t0:Int),.int .i64 (ww:Int)] w fun e w'=>e=.returned (.int .u64 ((pk 8 bs / 2 ^ t0 % 2 ^ ww:Nat):Int))/\w'=w:=by
 obtain ⟨a,cap,rfl,hm,hcl⟩:=hs
 have hm2:bs.length<=9223372036854775807:=by unfold maxLen at hm;omega
 have HC:=hidden hcl
 have H8:=hidden h8
 clear hcl h8 hm
 go_enter Tryz.func304,Tryz.ntmps304
 go_wp2_with fail
 go_loopw [1,7,8] (fun at_ n have_ w'=>w'=w/\∃ k t:Nat,k<=ww+7/\t=t0+k/\at_=.int .i64 (t:Int)/\have_=.int .i64 (k:Int)/\n=.int .u64 ((pk 8 bs / 2 ^ t0 % 2 ^ k % 18446744073709551616:Nat):Int)) (fun _ _ i _=>ww-(intOf i).toNat)
 case atStart=>exact ⟨rfl,0,t0,by omega,rfl,rfl,rfl,by simp [Nat.mod_one]⟩
 case round =>
  obtain ⟨rfl,k,t,hk,htk,rfl,rfl,rfl⟩:=hrel
  by_cases hlt:k<ww
  ·obtain ⟨b,off,rfl,hb,hcell⟩:=HC.out (by omega)
   have hj8:t / 8<bs.length:=by omega
   have hck:=hcell (t / 8) hj8
   have HF:=hidden (byte_from H8.out hj8)
   have hx:=H8.out _ (List.getElem_mem hj8)
   have HTK:=hidden htk
   have ht1:t<=20000:=by omega
   generalize bs[t / 8]=x at *
   obtain ⟨j,hj⟩:∃ j,t / 8=j:=⟨_,rfl⟩
   obtain ⟨r,hr⟩:∃ r,t % 8=r:=⟨_,rfl⟩
   obtain ⟨s,hsr⟩:∃ s,8-r=s:=⟨_,rfl⟩
   obtain ⟨y,hy⟩:∃ y,x / 2 ^ r=y:=⟨_,rfl⟩
   obtain ⟨n,hn⟩:∃ n,pk 8 bs / 2 ^ t0 % 2 ^ k % 18446744073709551616=n:=⟨_,rfl⟩
   rw [hr,hy,hsr] at HF
   rw [hj] at hck hj8
   have hji:(t:Int) / 8=(j:Int):=by omega
   have hri:(t:Int) % 8=(r:Int):=by omega
   have hsi:(8:Int)-(r:Int)=(s:Int):=by omega
   have hr8:r<8:=by omega
   have hs8:s<=8:=by omega
   have hs1:1<=s:=by omega
   have hyi:(x:Int) / 2 ^ r=(y:Int):=by rw [← hy];simp
   have hyl:y<256:=by rw [← hy];exact Nat.lt_of_le_of_lt (Nat.div_le_self _ _) hx
   rw [hn]
   have HN:=hidden hn
   have hor:=take_or HN.out HF.out HTK.out (by omega) (by omega)
   have HK:Hid (k+s<=ww+7):=hidden (by omega)
   have hkk:k<=64:=by omega
   clear hcell hn hy hr hj hsr htk
   go_wp2_with fail
   go_roundw
   case rel=>exact ⟨trivial,k+s,t+s,HK.out,by have:=HTK.out;omega,by go_num,by go_num,rfl⟩
   case measure=>simp [intOf];omega
  ·have HTK:=hidden htk
   clear htk HC
   generalize hn:pk 8 bs / 2 ^ t0 % 2 ^ k % 18446744073709551616=n
   have HN:=hidden hn
   have hnl:n<18446744073709551616:=by rw [← hn];exact Nat.mod_lt _ (by omega)
   clear hn
   go_wp2_with fail
   go_ret
   rw [← take_mask HN.out hw (by omega)]
   exact ⟨rfl,rfl⟩
end Go.Proofs.YtpljdjmpamjkhaaGreatDoor
set_option linter.unusedVariables false
set_option linter.unusedSimpArgs false
namespace Go.Proofs.YtpljdjmpamjkhaaGreatDoor
open Go.RowKit Go.Lib
theorem own_formC {w:World} {B e n:Nat} {v:Value} {xs:List Value} (h:w.ownsRow B e 1 v n xs) (hp:0<n):∃ g cap,v=.slice (some ⟨g,0,none⟩) n cap/\B<=g/\g<w.heap.size:=by
 obtain ⟨hl,h1⟩:=id h
 rcases h1 with ⟨rfl,rfl⟩ | ⟨g,cap,cur,rfl,hb,hg,h4⟩
 ·omega
 ·exact ⟨g,cap,rfl,hb,(Array.getElem?_eq_some_iff.1 hg).1⟩
theorem own_len {w:World} {B e n:Nat} {v:Value} {xs:List Value} (h:w.ownsRow B e 1 v n xs):∃ a cap,v=.slice a n cap:=by
 obtain ⟨hl,h1⟩:=id h
 rcases h1 with ⟨rfl,rfl⟩ | ⟨g,cap,cur,rfl,hb,hg,h4⟩
 ·exact ⟨none,0,rfl⟩
 ·exact ⟨_,cap,rfl⟩
theorem below_set {B:Nat} {a w:World} (h:Below B a w) {g j:Nat} (hg:B<=g) (u:Value):Below B a (w.setCell ⟨g,j,none⟩ u):=h.setCell hg u
theorem put_or {x m r z:Nat} (hr:r<8) (hx:x<2 ^ r) (hz:IntKind.u64.wrap ((m:Int)*2 ^ r)=(z:Int)) :
  bits .or .u8 (x:Int) ((z:Int) % 256)=((x+m % 2 ^ (8-r)*2 ^ r:Nat):Int):=by
 have e:(m:Int)*2 ^ r=((m*2 ^ r:Nat):Int):=by simp
 rw [e,IntKind.wrap_u64] at hz
 have hz2:(z:Int) % 256=((m*2 ^ r % 256:Nat):Int):=by omega
 have h256:(256:Nat)=2 ^ (8-r)*2 ^ r:=by rw [Nat.mul_comm,pow_split hr]
 have hm:m*2 ^ r % 256=m % 2 ^ (8-r)*2 ^ r:=by rw [h256,Nat.mul_mod_mul_right]
 have hl:m*2 ^ r % 256<256:=Nat.mod_lt _ (by omega)
 have hr2:2 ^ r<=256:=by rw [h256];exact Nat.le_mul_of_pos_left _ (Nat.two_pow_pos _)
 have hd:m % 2 ^ (8-r)*2 ^ r % 2 ^ r=0:=Nat.mul_mod_left _ _
 rw [hm] at hl hz2
 rw [hz2]
 generalize m % 2 ^ (8-r)*2 ^ r=q at *
 have hj:=bits_join_low .u8 8 (by decide) wraps_u8 r (x:Int) (q:Int) (by omega) (by exact_mod_cast hx) (by omega) (by omega) (by exact_mod_cast hd) (by omega)
 rw [hj]
 omega
theorem put_any {B:Nat} {w:World} {v:Value} {bs:List Nat} (hown:w.ownsRow B 5 1 v bs.length (vals .u8 bs)) (h8:∀ x∈bs,x<256) (t0 ww n:Nat) (hw:ww<=64) (hn:n<2 ^ ww)
  (hn64:n<18446744073709551616) (ht:t0+ww<=8*bs.length) (hV:pk 8 bs<2 ^ t0) (ht0:t0<=16384) (hmax:bs.length<=2048) :
  Calls Tryz.prog 204 #[v,.int .i64 (t0:Int),.int .i64 (ww:Int),.int .u64 (n:Int)] w fun e w'=>e=.returned (.tuple #[]) /\
   (∃ bs',w'.ownsRow B 5 1 v bs.length (vals .u8 bs')/\bs'.length=bs.length/\(∀ x∈bs',x<256)/\pk 8 bs'=pk 8 bs+n*2 ^ t0)/\Below B w w':=by
 obtain ⟨T,hT⟩:∃ T,pk 8 bs+n*2 ^ t0=T:=⟨_,rfl⟩
 rw [hT]
 obtain ⟨E,hE⟩:∃ E,t0+ww=E:=⟨_,rfl⟩
 have hEi:(t0:Int)+(ww:Int)=(E:Int):=by omega
 have HS:Hid (∃ bs':List Nat,w.ownsRow B 5 1 v bs.length (vals .u8 bs')/\bs'.length=bs.length/\(∀ x∈bs',x<256)/\pk 8 bs'<2 ^ t0/\pk 8 bs'+n*2 ^ t0=T) :=
  hidden ⟨bs,hown,rfl,h8,hV,hT⟩
 have HN:Hid (n<2 ^ (E-t0)):=hidden (by rw [← hE,Nat.add_sub_cancel_left];exact hn)
 rw [hE] at ht
 have hE0:E<=t0+64:=by omega
 have hE1:t0<=E:=by omega
 clear hown h8 hV hT hn hE
 generalize bs.length=L at *
 go_enter Tryz.func204,Tryz.ntmps204
 go_wp2_with fail
 go_loopw [1,3] (fun at_ mm wr=>∃ t m:Nat,at_=.int .i64 (t:Int)/\mm=.int .u64 (m:Int)/\t<=E+7/\m<18446744073709551616/\m<2 ^ (E-t) /\
   (∃ bs':List Nat,wr.ownsRow B 5 1 v L (vals .u8 bs')/\bs'.length=L/\(∀ x∈bs',x<256)/\pk 8 bs'<2 ^ t/\pk 8 bs'+m*2 ^ t=T)/\Below B w wr) (fun a _ _=>E-(intOf a).toNat)
 case atStart=>exact ⟨t0,n,rfl,rfl,by omega,hn64,HN.out,HS.out,Below.refl _ _⟩
 case round =>
  obtain ⟨t,m,rfl,rfl,htE,hm64,hmE,⟨cs,how,hcl,h8,hV,hsum⟩,hbel⟩:=hrel
  have HB:=hidden hbel
  by_cases hlt:t<E
  ·have hj8:t / 8<cs.length:=by omega
   obtain ⟨g,cap,rfl,hBg,hgz⟩:=own_formC how (by omega)
   have hck:=(how.cellAt (t / 8) (by omega)).trans (vals_get hj8)
   have hfr:=how.frozenAt (t / 8)
   have hxl:=byte_low h8 hV hj8
   have hx8:=h8 _ (List.getElem_mem hj8)
   have HLT:=hidden (low_lt (n:=m) (by omega:t % 8<8) hxl)
   have HPK:=hidden (set_pk hj8 (m % 2 ^ (8-t % 8)))
   have HST:=hidden (how.stored (t / 8) (.int .u8 ((cs[t / 8]+m % 2 ^ (8-t % 8)*2 ^ (t % 8):Nat):Int)))
   rw [vals_set] at HST
   have H8:=hidden (set_lt (j:=t / 8) h8 HLT.out)
   have HBL:=hidden (put_below (n:=m) (s:=8-t % 8) hV)
   have HSM:=hidden (put_sum (pk 8 cs) m t (8-t % 8))
   have HRE:=hidden (put_rest (s:=8-t % 8) hmE)
   have HSU:=hidden hsum
   have HLN:Hid ((cs.set (t / 8) (cs[t / 8]+m % 2 ^ (8-t % 8)*2 ^ (t % 8))).length=L):=hidden (by rw [List.length_set];exact hcl)
   obtain ⟨z,hz⟩:∃ z:Nat,IntKind.u64.wrap ((m:Int)*2 ^ (t % 8))=(z:Int):=by
    refine ⟨(IntKind.u64.wrap ((m:Int)*2 ^ (t % 8))).toNat,?_⟩
    rw [IntKind.wrap_u64]
    omega
   have hor:=put_or (by omega) hxl hz
   have hz64:z<18446744073709551616:=by
    rw [IntKind.wrap_u64] at hz
    omega
   generalize hcs:cs.set (t / 8) (cs[t / 8]+m % 2 ^ (8-t % 8)*2 ^ (t % 8))=cs2 at *
   generalize cs[t / 8]+m % 2 ^ (8-t % 8)*2 ^ (t % 8)=c at *
   generalize cs[t / 8]=x at *
   clear how hbel h8 hV hsum hcs hxl
   have hji:(t:Int) / 8=((t / 8:Nat):Int):=by omega
   have hri:(t:Int) % 8=((t % 8:Nat):Int):=by omega
   have hsi:(8:Int)-((t % 8:Nat):Int)=((8-t % 8:Nat):Int):=by omega
   have hr8:t % 8<8:=by omega
   have hs8:8-t % 8<=8:=by omega
   have hs1:1<=8-t % 8:=by omega
   have hjL:t / 8<L:=by omega
   have HTT:Hid (t+(8-t % 8)<=E+7):=hidden (by omega)
   have HEE:Hid (E-(t+(8-t % 8))=E-t-(8-t % 8)):=hidden (by omega)
   have hmd:(m:Int) / 2 ^ (8-t % 8)=((m / 2 ^ (8-t % 8):Nat):Int):=by simp
   have hml:m / 2 ^ (8-t % 8)<=m:=Nat.div_le_self _ _
   have hc8:=HLT.out
   generalize 8-t % 8=s at *
   generalize t % 8=r at *
   generalize t / 8=j at *
   clear hmE
   generalize m / 2 ^ s=q at *
   go_wp2_with fail
   go_region
   all_goals
    go_wp2_with fail
    go_roundw
    case rel =>
     refine ⟨t+s,q,by go_num,by go_num,HTT.out,by omega,?_,⟨cs2,HST.out.1.drew,HLN.out,H8.out,?_,?_⟩,(below_set HB.out hBg _).drew⟩
     ·rw [HEE.out];exact HRE.out
     ·rw [HPK.out];exact HBL.out
     ·rw [HPK.out,HSM.out];exact HSU.out
    case measure=>simp [intOf];omega
  ·have hm0:m=0:=by
    rw [show E-t=0 by omega] at hmE
    omega
   subst hm0
   have HO:Hid (∃ bs':List Nat,wr.ownsRow B 5 1 v L (vals .u8 bs')/\bs'.length=L/\(∀ x∈bs',x<256)/\pk 8 bs'=T):=hidden ⟨cs,how,hcl,h8,by simpa using hsum⟩
   clear how hcl h8 hV hsum hbel hmE
   go_wp2_with fail
   go_end0
   exact ⟨rfl,HO.out,HB.out⟩
end Go.Proofs.YtpljdjmpamjkhaaGreatDoor
set_option linter.unusedVariables false
set_option linter.unusedSimpArgs false
namespace Go.Proofs.YtpljdjmpamjkhaaGreatDoor
open Go.RowKit Go.Lib
theorem made_vals (k:IntKind) (n:Nat):(madeCells #[Value.int k 0] n).toList=vals k (List.replicate n 0):=by
 rw [toList_madeCells_one]
 simp [vals]
theorem packR_no {l:List Nat} {x:Int} (h:can l x=false):packR l x=[]:=by unfold packR;rw [h];rfl
theorem own_none (w:World) (B e:Nat):w.ownsRow B e 1 (.slice none 0 0) 0 []:=World.ownsRow_nil _ _ _ _
theorem take_fit {l:List Nat} {ww k:Nat} (hw:∀ x∈l,x<2 ^ ww) (hk:k<=l.length):pk ww (l.take k)<2 ^ (k*ww):=by
 have:=pk_lt (w:=ww) (l:=l.take k) (fun x hx=>hw x (List.mem_of_mem_take hx))
 rwa [List.length_take,Nat.min_eq_left hk,Nat.mul_comm] at this
theorem pack_anyC {w:World} {v:Value} {l:List Nat} (hs:Sx .u64 w v l) (h64:∀ x∈l,x<18446744073709551616) (x:Int) :
  Calls Tryz.prog 171 #[v,.int .i64 x] w fun e w'=>∃ v',e=.returned (.tuple #[v',.bool (can l x)])/\w'.ownsRow w.heap.size 5 1 v' (packR l x).length (vals .u8 (packR l x))/\Below w.heap.size w w':=by
 have HW:=hidden (width_any hs h64)
 have HA:=hidden (allowed_any (l.length:Int) x)
 obtain ⟨a,cap,rfl,hm,hcl⟩:=hs
 have hm2:l.length<=9223372036854775807:=by unfold maxLen at hm;omega
 by_cases hal:0<=(l.length:Int)/\(l.length:Int)<=256/\0<=x/\x<=64
 ·rw [decide_eq_true hal] at HA
  obtain ⟨_,hl256,hx0,hx64⟩:=hal
  obtain ⟨ww,rfl⟩:=Int.eq_ofNat_of_zero_le hx0
  by_cases hwd:wd l<=ww
  ·have hcan:can l (ww:Int)=true:=by
    unfold can
    simp only [decide_eq_true_eq,Int.toNat_natCast]
    exact ⟨by omega,by omega,by omega,hwd⟩
   have hfit:=wd_le.1 hwd
   have hgt:¬ ((wd l:Nat):Int) > (ww:Int):=by omega
   have hc:l.length*ww<=16384:=Nat.le_trans (Nat.mul_le_mul (show l.length<=256 by omega) (show ww<=64 by omega)) (by omega)
   have hmul:(l.length:Int)*(ww:Int)=((l.length*ww:Nat):Int):=by simp
   have HP:=hidden (fun (bs:List Nat)=>packed_is (bs:=bs) hcan)
   have HBF:=hidden (bytesFor_any (l.length*ww) hc)
   have HL8:=hidden (by8_ge (l.length*ww))
   have hL:by8 (l.length*ww)<=2048:=by unfold by8;omega
   have HF:=hidden hfit
   have HC:=hidden hcl
   have H64:=hidden h64
   have hww:ww<=64:=by omega
   rw [hcan]
   clear hcl h64 hfit hcan hwd hx0 hx64 hm
   obtain ⟨i0,hi,hz0,hz1',hz2⟩:=info_parts info5
   generalize by8 (l.length*ww)=L at *
   generalize hcc:l.length*ww=c at *
   have HCC:=hidden hcc
   clear hcc
   go_enter Tryz.func171,Tryz.ntmps171
   go_wp2_with fail
   refine (HA.out _).mono ?_
   rintro e w1 ⟨rfl,rfl⟩
   go_wp2_with fail
   refine HW.out.mono ?_
   rintro e w2 ⟨rfl,rfl⟩
   go_wp2_with fail
   refine (HBF.out _).mono ?_
   rintro e w3 ⟨rfl,rfl⟩
   go_wp2_with (first | (refine wpList_make_full _ rfl _ _ 30 rfl w3.heap.size 5 i0 (.int .u8 0) 1 Tryz.underlying30 hi hz0 hz1' .i64 .i64 _ _ L rfl rfl ?m1 ?m2 ?m3 ?m4 ?m5 ?_))
   case m1=>rfl
   case m2=>rfl
   case m3=>rw [hz2];omega
   case m4=>unfold maxLen;omega
   case m5=>omega
   intro w4 ho4 hg4
   have hb4:Below w3.heap.size w3 w4:=(Below.refl _ _).grown hg4 (Nat.le_refl _) (fun k hk=>by cases hk)
   have ho4':w4.ownsRow w3.heap.size 5 1 (.slice (some ⟨w3.heap.size,0,none⟩) L L) L (vals .u8 (List.replicate L 0)):=by
    rw [← made_vals]
    simpa using ho4
   have HO4:=hidden ho4'
   have HB4:=hidden hb4
   clear ho4 hg4 hb4 ho4'
   go_wp2_with fail
   go_loopw [28] (fun i wr=>∃ k:Nat,i=.int .i64 (k:Int)/\k<=l.length/\(∃ bs:List Nat,wr.ownsRow w3.heap.size 5 1 (.slice (some ⟨w3.heap.size,0,none⟩) L L) L (vals .u8 bs)/\bs.length=L/\(∀ x∈bs,x<256)/\pk 8 bs=pk ww (l.take k))/\Below w3.heap.size w3 wr) (fun i _=>l.length-(intOf i).toNat)
   case atStart=>exact ⟨0,rfl,by omega,⟨List.replicate L 0,HO4.out,by simp,by simp,by rw [pk_zeros];rfl⟩,HB4.out⟩
   case round =>
    obtain ⟨k,rfl,hk,⟨bs,how,hbl,hb8,hpk⟩,hbel⟩:=hrel
    have HB:=hidden hbel
    by_cases hlt:k<l.length
    ·obtain ⟨b,off,rfl,hb,hcell⟩:=HC.out (by omega)
     have hck:=(hbel.cell (p:=⟨b,off+k,none⟩) hb).trans (hcell k hlt)
     have hkw:(k:Int)*(ww:Int)=((k*ww:Nat):Int):=by simp
     have hstep:k*ww+ww<=8*L:=by
      have h1:(k+1)*ww<=l.length*ww:=Nat.mul_le_mul_right _ hlt
      rw [Nat.add_mul,Nat.one_mul] at h1
      rw [HCC.out] at h1
      have:=HL8.out
      omega
     have hPut:=put_any (w:=wr) (by rw [hbl];exact how) hb8 (k*ww) ww l[k] hww (HF.out _ (List.getElem_mem hlt)) (H64.out _ (List.getElem_mem hlt)) (by rw [hbl];exact hstep) (by rw [hpk];exact take_fit HF.out hk) (by omega) (by omega)
     have htb:k*ww<=16384:=by omega
     rw [hbl,hpk,Nat.mul_comm k ww,← pk_take_succ ww hlt,Nat.mul_comm ww k] at hPut
     have HPut:=hidden hPut
     clear hcell how hb8 hpk hbel hPut hstep
     generalize l[k]=n at *
     generalize k*ww=t0 at *
     go_wp2_with fail
     refine HPut.out.mono ?_
     rintro e w5 ⟨rfl,⟨bs',ho5,hl5,h85,hp5⟩,hb5⟩
     have HO5:=hidden ho5
     have HB5:=hidden (HB.out.trans hb5)
     have HL5:=hidden hl5
     have HP5:=hidden hp5
     clear ho5 hb5 hl5 hp5
     go_wp2_with fail
     go_roundw
     case rel=>exact ⟨k+1,by go_num,by omega,⟨bs',HO5.out,HL5.out,h85,HP5.out⟩,HB5.out⟩
     case measure=>simp [intOf];omega
    ·obtain rfl:k=l.length:=by omega
     rw [List.take_length] at hpk
     have HE:=hidden (HP.out bs hb8 hbl hpk)
     have HO:Hid (wr.ownsRow w3.heap.size 5 1 (.slice (some ⟨w3.heap.size,0,none⟩) L L) (packR l ww).length (vals .u8 (packR l ww))):=by
      show World.ownsRow _ _ _ _ _ _ _
      rw [← HE.out,hbl]
      exact how
     clear how hbl hb8 hpk hbel HP HE
     go_wp2_with fail
     go_ret2
     exact ⟨_,rfl,HO.out,HB.out⟩
  ·have hcan:can l (ww:Int)=false:=by
    unfold can
    simp only [decide_eq_false_iff_not,Int.toNat_natCast]
    rintro ⟨_,_,_,h⟩
    exact hwd h
   have hgt:((wd l:Nat):Int) > (ww:Int):=by omega
   rw [hcan,packR_no hcan]
   clear hcl h64 hcan hwd hx0 hx64 hm
   go_enter Tryz.func171,Tryz.ntmps171
   go_wp2_with fail
   refine (HA.out _).mono ?_
   rintro e w1 ⟨rfl,rfl⟩
   go_wp2_with fail
   refine HW.out.mono ?_
   rintro e w2 ⟨rfl,rfl⟩
   go_wp2_with fail
   go_ret2
   exact ⟨_,rfl,own_none _ _ _,Below.refl _ _⟩
 ·rw [decide_eq_false hal] at HA
  have hcan:can l x=false:=by
   unfold can
   simp only [decide_eq_false_iff_not]
   rintro ⟨h1,h2,h3,_⟩
   exact hal ⟨by omega,by omega,h1,h2⟩
  rw [hcan,packR_no hcan]
  clear hcl h64 hcan hal hm HW
  go_enter Tryz.func171,Tryz.ntmps171
  go_wp2_with fail
  refine (HA.out _).mono ?_
  rintro e w1 ⟨rfl,rfl⟩
  go_wp2_with fail
  go_ret2
  exact ⟨_,rfl,own_none _ _ _,Below.refl _ _⟩
end Go.Proofs.YtpljdjmpamjkhaaGreatDoor
set_option linter.unusedVariables false
set_option linter.unusedSimpArgs false
namespace Go.Proofs.YtpljdjmpamjkhaaGreatDoor
open Go.RowKit Go.Lib
theorem unR_no {b:List Nat} {n x:Int} (h:unE b n x≠0):unR b n x=[]:=by unfold unR;rw [if_neg h]
theorem unE_arg {b:List Nat} {n x:Int} (h:¬ (0<=n/\n<=256/\0<=x/\x<=64)):unE b n x=1:=by unfold unE;rw [if_neg h]
theorem unE_form {b:List Nat} {N ww:Nat} (hN:N<=256) (hw:ww<=64) (h:¬ (b.length=by8 (N*ww)/\pk 8 b<2 ^ (N*ww))):unE b N ww=40:=by
 unfold unE
 rw [if_pos ⟨by omega,by omega,by omega,by omega⟩]
 simp only [Int.toNat_natCast]
 rw [if_neg h]
theorem unE_ok {b:List Nat} {N ww:Nat} (hN:N<=256) (hw:ww<=64) (h:b.length=by8 (N*ww)) (h2:pk 8 b<2 ^ (N*ww)):unE b N ww=0:=by
 unfold unE
 rw [if_pos ⟨by omega,by omega,by omega,by omega⟩]
 simp only [Int.toNat_natCast]
 rw [if_pos ⟨h,h2⟩]
theorem unR_ok {b:List Nat} {N ww:Nat} (h:unE b N ww=0):unR b N ww=dig ww N (pk 8 b):=by
 unfold unR
 rw [if_pos h]
 rfl
theorem unpack_anyC {w:World} {v:Value} {b:List Nat} (hs:Sx .u8 w v b) (h8:∀ x∈b,x<256) (n x:Int) :
  Calls Tryz.prog 294 #[v,.int .i64 n,.int .i64 x] w fun e w'=>∃ v',e=.returned (.tuple #[v',.int .i64 (unE b n x:Int)])/\w'.ownsRow w.heap.size 92 1 v' (unR b n x).length (vals .u64 (unR b n x))/\Below w.heap.size w w':=by
 have HA:=hidden (allowed_any n x)
 by_cases hal:0<=n/\n<=256/\0<=x/\x<=64
 ·rw [decide_eq_true hal] at HA
  obtain ⟨hn0,hn256,hx0,hx64⟩:=hal
  obtain ⟨ww,rfl⟩:=Int.eq_ofNat_of_zero_le hx0
  obtain ⟨N,rfl⟩:=Int.eq_ofNat_of_zero_le hn0
  have hww:ww<=64:=by omega
  have hN:N<=256:=by omega
  have hc:N*ww<=16384:=Nat.le_trans (Nat.mul_le_mul hN hww) (by omega)
  have hmul:(N:Int)*(ww:Int)=((N*ww:Nat):Int):=by simp
  have HBF:=hidden (bytesFor_any (N*ww) hc)
  by_cases hlen:b.length=by8 (N*ww)
  ·have HCL:=hidden (clear_any hs h8 (N*ww) hc hlen)
   have hleq:((b.length:Int) != ((by8 (N*ww):Nat):Int))=false:=by rw [hlen];simp
   by_cases hlow:pk 8 b<2 ^ (N*ww)
   ·rw [decide_eq_true hlow] at HCL
    have HE:=hidden (unE_ok hN hww hlen hlow)
    rw [HE.out,unR_ok HE.out,dig_length]
    have hge:=by8_ge (N*ww)
    have HTK:=hidden (fun (W:World) (hW:Sx .u8 W v b) (t0:Nat) (h1:t0+ww<=8*b.length) (h2:t0<=16384)=>take_any hW h8 t0 ww hww h1 h2)
    have HST:Hid (∀ k,k<N->k*ww+ww<=8*b.length/\k*ww<=16384):=hidden (fun k hk=>by
     have h1:(k+1)*ww<=N*ww:=Nat.mul_le_mul_right _ hk
     rw [Nat.add_mul,Nat.one_mul] at h1
     rw [hlen]
     omega)
    have HS:=hidden hs
    obtain ⟨i0,hi,hz0,hz1',hz2⟩:=info_parts info92
    obtain ⟨a,cap,rfl,hm,hcl⟩:=hs
    have hm2:b.length<=2048:=by rw [hlen];unfold by8;omega
    clear hcl h8 hlow hlen hx0 hx64 hn0 hn256 hm hge
    generalize by8 (N*ww)=L at *
    generalize N*ww=c at *
    obtain ⟨D,hD⟩:∃ D,dig ww N (pk 8 b)=D:=⟨_,rfl⟩
    have hDl:D.length=N:=by rw [← hD,dig_length]
    have HG:Hid (∀ k (h:k<N),D[k]?=some (pk 8 b / 2 ^ (k*ww) % 2 ^ ww)):=hidden (fun k h=>by rw [← hD,dig_get ww N _ k h,Nat.mul_comm])
    rw [hD]
    have HDL:=hidden hDl
    clear hD hDl
    go_enter Tryz.func294,Tryz.ntmps294
    go_wp2_with fail
    refine (HA.out _).mono ?_
    rintro e w1 ⟨rfl,rfl⟩
    go_wp2_with fail
    refine (HBF.out _).mono ?_
    rintro e w2 ⟨rfl,rfl⟩
    go_wp2_with fail
    refine HCL.out.mono ?_
    rintro e w3 ⟨rfl,rfl⟩
    go_wp2_with (first | (refine wpList_make_full _ rfl _ _ 142 rfl w3.heap.size 92 i0 (.int .u64 0) 1 Tryz.underlying142 hi hz0 hz1' .i64 .i64 _ _ N rfl rfl ?m1 ?m2 ?m3 ?m4 ?m5 ?_))
    case m1=>rfl
    case m2=>rfl
    case m3=>rw [hz2];omega
    case m4=>unfold maxLen;omega
    case m5=>omega
    intro w4 ho4 hg4
    have hb4:Below w3.heap.size w3 w4:=(Below.refl _ _).grown hg4 (Nat.le_refl _) (fun k hk=>by cases hk)
    have ho4':w4.ownsRow w3.heap.size 92 1 (.slice (some ⟨w3.heap.size,0,none⟩) N N) N (vals .u64 (fill D 0)):=by
     rw [fill_zero,HDL.out,← made_vals]
     simpa using ho4
    have HO4:=hidden ho4'
    have HB4:=hidden hb4
    clear ho4 hg4 hb4 ho4'
    go_wp2_with fail
    go_loopw [33] (fun i wr=>∃ k:Nat,i=.int .i64 (k:Int)/\k<=N/\wr.ownsRow w3.heap.size 92 1 (.slice (some ⟨w3.heap.size,0,none⟩) N N) N (vals .u64 (fill D k))/\Below w3.heap.size w3 wr) (fun i _=>N-(intOf i).toNat)
    case atStart=>exact ⟨0,rfl,by omega,HO4.out,HB4.out⟩
    case round =>
     obtain ⟨k,rfl,hk,how,hbel⟩:=hrel
     have HB:=hidden hbel
     by_cases hlt:k<N
     ·have hkD:k<D.length:=by rw [HDL.out];exact hlt
      have hval:D[k]=pk 8 b / 2 ^ (k*ww) % 2 ^ ww:=by
       have:=HG.out k hlt
       rw [List.getElem?_eq_getElem hkD] at this
       exact Option.some.inj this
      have hfl:k<(fill D k).length:=by rw [fill_length (by omega)];exact hkD
      have hck:=(how.cellAt k (by omega)).trans (vals_get hfl)
      have hfr:=how.frozenAt k
      have hST:=how.stored k (.int .u64 ((D[k]:Nat):Int))
      rw [vals_set,fill_set hkD] at hST
      have HSTO:=hidden hST
      have hkw:(k:Int)*(ww:Int)=((k*ww:Nat):Int):=by simp
      have htb:=(HST.out k hlt).2
      have hTake:=HTK.out wr (HS.out.kept hbel) (k*ww) (HST.out k hlt).1 htb
      rw [← hval] at hTake
      have HTake:=hidden hTake
      have hgz:=(how.lt w3.heap.size rfl).2
      clear how hbel hST hTake hval
      generalize (fill D k)[k]=y at *
      generalize D[k]=z at *
      generalize k*ww=t0 at *
      go_wp2_with fail
      refine HTake.out.mono ?_
      rintro e w5 ⟨rfl,rfl⟩
      go_wp2_with fail
      go_roundw
      case rel=>exact ⟨k+1,by go_num,by omega,HSTO.out.1,below_set HB.out (Nat.le_refl _) _⟩
      case measure=>simp [intOf];omega
     ·obtain rfl:k=N:=by omega
      have HO:Hid (wr.ownsRow w3.heap.size 92 1 (.slice (some ⟨w3.heap.size,0,none⟩) k k) k (vals .u64 D)):=by
       show World.ownsRow _ _ _ _ _ _ _
       have e:fill D k=D:=by
        have:=fill_all D
        rwa [HDL.out] at this
       rw [e] at how
       exact how
      clear how hbel
      go_wp2_with fail
      go_ret2
      exact ⟨_,rfl,HO.out,HB.out⟩
   ·rw [decide_eq_false hlow] at HCL
    have hE:=unE_form (b:=b) hN hww (fun h=>hlow h.2)
    rw [hE,unR_no (by rw [hE];omega)]
    obtain ⟨a,cap,rfl,hm,hcl⟩:=hs
    have hm2:b.length<=2048:=by rw [hlen];unfold by8;omega
    clear hcl h8 hlow hlen hx0 hx64 hn0 hn256 hm hE
    generalize by8 (N*ww)=L at *
    generalize N*ww=c at *
    go_enter Tryz.func294,Tryz.ntmps294
    go_wp2_with fail
    refine (HA.out _).mono ?_
    rintro e w1 ⟨rfl,rfl⟩
    go_wp2_with fail
    refine (HBF.out _).mono ?_
    rintro e w2 ⟨rfl,rfl⟩
    go_wp2_with fail
    refine HCL.out.mono ?_
    rintro e w3 ⟨rfl,rfl⟩
    go_wp2_with fail
    go_ret2
    exact ⟨_,rfl,own_none _ _ _,Below.refl _ _⟩
  ·have hleq:((b.length:Int) != ((by8 (N*ww):Nat):Int))=true:=by
    rw [bne_iff_ne]
    intro h
    exact hlen (by omega)
   have hE:=unE_form (b:=b) hN hww (fun h=>hlen h.1)
   rw [hE,unR_no (by rw [hE];omega)]
   obtain ⟨a,cap,rfl,hm,hcl⟩:=hs
   have hm2:b.length<=9223372036854775807:=by unfold maxLen at hm;omega
   clear hcl h8 hlen hx0 hx64 hn0 hn256 hm hE
   generalize by8 (N*ww)=L at *
   generalize N*ww=c at *
   go_enter Tryz.func294,Tryz.ntmps294
   go_wp2_with fail
   refine (HA.out _).mono ?_
   rintro e w1 ⟨rfl,rfl⟩
   go_wp2_with fail
   refine (HBF.out _).mono ?_
   rintro e w2 ⟨rfl,rfl⟩
   go_wp2_with fail
   go_ret2
   exact ⟨_,rfl,own_none _ _ _,Below.refl _ _⟩
 ·rw [decide_eq_false hal] at HA
  have hE:=unE_arg (b:=b) hal
  rw [hE,unR_no (by rw [hE];omega)]
  obtain ⟨a,cap,rfl,hm,hcl⟩:=hs
  clear hcl h8 hal hm hE
  go_enter Tryz.func294,Tryz.ntmps294
  go_wp2_with fail
  refine (HA.out _).mono ?_
  rintro e w1 ⟨rfl,rfl⟩
  go_wp2_with fail
  go_ret2
  exact ⟨_,rfl,own_none _ _ _,Below.refl _ _⟩
end Go.Proofs.YtpljdjmpamjkhaaGreatDoor
