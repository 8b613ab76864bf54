/- Contracts of layer column: fault; what is put behind what: put and gather. Laid ahead for layer 7: the mathematics of the sum CRC-32, bit by bit, over natural numbers. No program in it. Files of rows: what is written, what is read; no program. Contracts: count, bound, flags, statistic, lowestFirst. -/
import Derived.Test.YtpljdjmpamjkhaaGreatDoorZau
import Derived.Lib.VarintBits
import Derived.Test.YtpljdjmpamjkhaaGreatDoorZat
import Derived.Test.YtpljdjmpamjkhaaGreatDoorZag
import Derived.Test.YtpljdjmpamjkhaaGreatDoorZae
import Derived.Test.YtpljdjmpamjkhaaGreatDoorZaq
import Derived.Test.YtpljdjmpamjkhaaGreatDoorZap
import Derived.Deep.RegionHeld3
import Derived.BigRegion
set_option linter.unusedVariables false
set_option linter.unusedSimpArgs false
set_option maxRecDepth 100000
set_option maxHeartbeats 2000000
namespace Go.Proofs.YtpljdjmpamjkhaaGreatDoor
open Go.RowKit Go.Lib
theorem writeC_no {k:Nat} {l:List (Nat×Int×List Nat)} (h:¬ (1<=k/\k<=3/\∀ c∈l,c.1=0∨c.1=k)):(writeC k l).2=10:=by
 unfold writeC
 rw [if_neg h]
theorem writeC_err {k:Nat} {l:List (Nat×Int×List Nat)} (hk:1<=k/\k<=3) (hf:∀ c∈l,Fine c) (h:∀ c∈l,c.1=0∨c.1=k):(writeC k l).2=if 256<l.length then 5 else 0:=by
 unfold writeC
 rw [if_pos ⟨hk.1,hk.2,h⟩]
 by_cases h2:256<l.length
 ·rw [if_neg (by omega),if_pos h2]
 ·rw [if_pos ⟨by omega,fun c hc=>((hf c hc).cellk (h c hc)).short⟩,if_neg h2]
theorem Fine.size {c:Nat×Int×List Nat} (h:Fine c):c.1<=3/\c.2.2.length<=64:=by
 rcases h with rfl | ⟨n,rfl,_⟩ | ⟨n,rfl,_⟩ | ⟨s,rfl,hs,_⟩
 ·simp [nul]
 ·simp
 ·simp
 ·exact ⟨by simp,hs⟩
theorem cfault_any {w:World} {v:Value} {l:List (Nat×Int×List Nat)} (hs:Sv w v (vvals l)) (hf:∀ c∈l,Fine c) (k:Nat) :
  Calls Tryz.prog 122 #[.int .u8 (k:Int),v] w fun e w'=>e=.returned (.int .i64 ((writeC k l).2:Int))/\Below w.heap.size w w':=by
 have HS:=hidden hs
 have HF:=hidden hf
 obtain ⟨a,cap,rfl,hcap,hcm⟩:=hs.form1
 rw [vvals_length] at *
 have hcm':cap<=9223372036854775807:=by unfold maxLen at hcm;omega
 have HK:=hidden (ofColumns_any k)
 by_cases hk:1<=k/\k<=3
 ·rw [decide_eq_true hk] at HK
  have HE:=hidden (writeC_err (l:=l) hk hf)
  have HN:=hidden (writeC_no (k:=k) (l:=l))
  clear hs hf hcm hk
  have HL:Hid (decide ((l.length:Int) > 256)=decide (256<l.length)):=hidden (by
   by_cases h:256<l.length
   ·rw [decide_eq_true h,decide_eq_true (by omega)]
   ·rw [decide_eq_false h,decide_eq_false (by omega)])
  go_enter Tryz.func122,Tryz.ntmps122
  go_wp2_with fail
  refine (HK.out _).mono ?_
  rintro e w1 ⟨rfl,rfl⟩
  go_wp2_with fail
  rw [HL.out]
  generalize hlong:decide (256<l.length)=lg
  have HLG:=hidden hlong
  clear hlong
  go_loopw [5,18] (fun o i wr=>∃ j:Nat,j<=l.length/\o=.bool lg/\i=.int .i64 (j:Int)/\(∀ c∈l.take j,c.1=0∨c.1=k)/\Below w1.heap.size w1 wr) (fun _ i _=>l.length-(intOf i).toNat)
  case atStart=>exact ⟨0,by omega,rfl,rfl,fun c hc=>by simp at hc,Below.refl _ _⟩
  case round =>
   obtain ⟨j,hj,rfl,rfl,hall,hbel⟩:=hrel
   have HA:=hidden hall
   have HB:=hidden hbel
   have hzr:=hbel.size
   clear hall hbel
   by_cases hlt:j<l.length
   ·obtain ⟨b,off,rfl,hb,hcell⟩:=HS.out.at1 (vvals_get hlt)
    have hcell':=(HB.out.cell (p:=⟨b,off+j,none⟩) hb).trans hcell
    have hfine:=HF.out l[j] (List.getElem_mem hlt)
    have HM:=hidden (List.getElem_mem hlt)
    have HT:Hid (∀ c,c∈l.take (j+1)->c∈l.take j∨c=l[j]):=hidden (fun c hc=>by
     rw [List.take_succ_eq_append_getElem hlt] at hc
     rcases List.mem_append.1 hc with h | h
     ·exact Or.inl h
     ·exact Or.inr (by simpa using h))
    have hlt':(j:Int)<(l.length:Int):=by omega
    obtain ⟨hc3,hc64⟩:=hfine.size
    have hnot64:¬ 64<((bytesT l[j].2.2).size:Int):=by rw [bytesT_size];omega
    have HV:=hidden (fun W=>cell_any hfine.val W)
    clear hcell hfine hc64
    generalize l[j]=c at *
    obtain ⟨ck,cn,cs⟩:=c
    simp only at *
    generalize valC (ck,cn,cs)=vc at *
    generalize bytesT cs=S at *
    by_cases h0:((ck:Int) != 0)=true
    ·by_cases h1:((ck:Int) != (k:Int))=true
     ·have HN':Hid ((writeC k l).2=10):=hidden (HN.out (fun h=>by
       have:=h.2.2 _ HM.out
       simp at h0 h1 this
       omega))
      go_wp2_with fail
      refine (HV.out _).mono ?_
      rintro e w2 ⟨rfl,hb2⟩
      have HB2:=hidden hb2
      have hz2:=hb2.size
      clear hb2
      go_wp2_with fail
      go_ret
      rw [HN'.out]
      exact ⟨rfl,(HB.out.trans (HB2.out.mono hzr)).alloc (by omega) _⟩
     ·have h1':((ck:Int) != (k:Int))=false:=by simpa using h1
      have hck:ck=k:=by
       have:(ck:Int)=(k:Int):=by simpa using h1
       omega
      have HCK:=hidden hck
      clear h1 hck
      go_wp2_with fail
      refine (HV.out _).mono ?_
      rintro e w2 ⟨rfl,hb2⟩
      have HB2:=hidden hb2
      have hz2:=hb2.size
      clear hb2
      cases lg
      ·go_wp2_with fail
       go_roundw
       case rel=>exact ⟨j+1,by omega,congrArg Value.bool (decide_eq_false (by omega)),by go_num,fun c hc=>(HT.out c hc).elim (HA.out c) (fun e=>by rw [e];exact Or.inr HCK.out),(HB.out.trans (HB2.out.mono hzr)).alloc (by omega) _⟩
       case measure=>simp [intOf];omega
      ·go_wp2_with fail
       go_roundw
       case rel=>exact ⟨j+1,by omega,rfl,by go_num,fun c hc=>(HT.out c hc).elim (HA.out c) (fun e=>by rw [e];exact Or.inr HCK.out),(HB.out.trans (HB2.out.mono hzr)).alloc (by omega) _⟩
       case measure=>simp [intOf];omega
    ·have h0':((ck:Int) != 0)=false:=by simpa using h0
     have hck:ck=0:=by
      have:(ck:Int)=0:=by simpa using h0
      omega
     have HCK:=hidden hck
     clear h0 hck
     go_wp2_with fail
     refine (HV.out _).mono ?_
     rintro e w2 ⟨rfl,hb2⟩
     have HB2:=hidden hb2
     have hz2:=hb2.size
     clear hb2
     cases lg
     ·go_wp2_with fail
      go_roundw
      case rel=>exact ⟨j+1,by omega,congrArg Value.bool (decide_eq_false (by omega)),by go_num,fun c hc=>(HT.out c hc).elim (HA.out c) (fun e=>by rw [e];exact Or.inl HCK.out),(HB.out.trans (HB2.out.mono hzr)).alloc (by omega) _⟩
      case measure=>simp [intOf];omega
     ·go_wp2_with fail
      go_roundw
      case rel=>exact ⟨j+1,by omega,rfl,by go_num,fun c hc=>(HT.out c hc).elim (HA.out c) (fun e=>by rw [e];exact Or.inl HCK.out),(HB.out.trans (HB2.out.mono hzr)).alloc (by omega) _⟩
      case measure=>simp [intOf];omega
   ·have:j=l.length:=by omega
    subst this
    rw [List.take_length] at HA
    have HE':=hidden (HE.out HA.out)
    have hge:¬ ((l.length:Nat):Int)<(l.length:Int):=by omega
    cases lg
    ·have hn:¬ 256<l.length:=of_decide_eq_false HLG.out
     rw [if_neg hn] at HE'
     go_wp2_with fail
     go_ret
     rw [HE'.out]
     exact ⟨rfl,HB.out⟩
    ·have hn:256<l.length:=of_decide_eq_true HLG.out
     rw [if_pos hn] at HE'
     go_wp2_with fail
     go_ret
     rw [HE'.out]
     exact ⟨rfl,HB.out⟩
 ·rw [decide_eq_false hk] at HK
  have HN:Hid ((writeC k l).2=10):=hidden (writeC_no (fun h=>hk ⟨h.1,h.2.1⟩))
  clear hs hf hcm hk
  go_enter Tryz.func122,Tryz.ntmps122
  go_wp2_with fail
  refine (HK.out _).mono ?_
  rintro e w1 ⟨rfl,rfl⟩
  go_wp2_with fail
  go_ret
  rw [HN.out]
  exact ⟨rfl,Below.refl _ _⟩
end Go.Proofs.YtpljdjmpamjkhaaGreatDoor
set_option linter.unusedVariables false
set_option linter.unusedSimpArgs false
namespace Go.Proofs.YtpljdjmpamjkhaaGreatDoor
def stp (c:Nat):Nat:=c / 2 ^^^ (if c % 2=1 then 3988292384 else 0)
def stpN:Nat->Nat->Nat
 | 0,c=>c
 | n+1,c=>stpN n (stp c)
theorem stp_lt {c:Nat} (h:c<4294967296):stp c<4294967296:=by
 have:stp c<2 ^ 32:=by
  unfold stp
  apply Nat.xor_lt_two_pow
  ·omega
  ·split<;>omega
 omega
theorem xor_two (a b:Nat):(a ^^^ b) % 2=(a+b) % 2:=by
 have h:(a ^^^ b).testBit 0=((a.testBit 0) ^^ (b.testBit 0)):=Nat.testBit_xor _ _ _
 simp only [Nat.testBit_zero] at h
 have ha:a % 2=0∨a % 2=1:=by omega
 have hb:b % 2=0∨b % 2=1:=by omega
 have hc:(a ^^^ b) % 2=0∨(a ^^^ b) % 2=1:=by omega
 generalize (a ^^^ b) % 2=z at *
 rcases ha with ha | ha<;>rcases hb with hb | hb<;>rcases hc with hc | hc<;>simp [ha,hb,hc] at h<;>omega
theorem xor_zero_eq {a b:Nat} (h:a ^^^ b=0):a=b:=by
 have:=congrArg (fun z=>z ^^^ b) h
 simpa only [Nat.xor_assoc,Nat.xor_self,Nat.xor_zero,Nat.zero_xor] using this
theorem stp_xor (a b:Nat):stp (a ^^^ b)=stp a ^^^ stp b:=by
 unfold stp
 have h1:(a ^^^ b) / 2=a / 2 ^^^ b / 2:=Nat.xor_div_two
 have h2:(a ^^^ b) % 2=(a+b) % 2:=xor_two a b
 rw [h1]
 have ha:a % 2=0∨a % 2=1:=by omega
 have hb:b % 2=0∨b % 2=1:=by omega
 rcases ha with ha | ha<;>rcases hb with hb | hb
 ·have h3:(a ^^^ b) % 2=0:=by omega
  simp [ha,hb,h3]
 ·have h3:(a ^^^ b) % 2=1:=by omega
  simp [ha,hb,h3,Nat.xor_assoc]
 ·have h3:(a ^^^ b) % 2=1:=by omega
  simp [ha,hb,h3,Nat.xor_assoc]
  rw [Nat.xor_comm (b / 2)]
 ·have h3:(a ^^^ b) % 2=0:=by omega
  simp only [ha,hb,h3]
  simp only [if_pos,Nat.xor_zero,Nat.zero_ne_one,if_false]
  generalize 3988292384=p
  rw [Nat.xor_assoc,Nat.xor_comm (b / 2) p,← Nat.xor_assoc p,Nat.xor_self,Nat.zero_xor]
theorem stp_even (x:Nat):stp (2*x)=x:=by
 unfold stp
 rw [if_neg (by omega)]
 simp
theorem stp_inj0 {c:Nat} (h:c<4294967296) (h0:stp c=0):c=0:=by
 unfold stp at h0
 by_cases hc:c % 2=1
 ·rw [if_pos hc] at h0
  have:c / 2=3988292384:=xor_zero_eq h0
  omega
 ·rw [if_neg hc,Nat.xor_zero] at h0
  omega
theorem stpN_lt:∀ (n:Nat) {c:Nat},c<4294967296->stpN n c<4294967296
 | 0,_,h=>h
 | n+1,_,h=>stpN_lt n (stp_lt h)
theorem stpN_xor:∀ (n a b:Nat),stpN n (a ^^^ b)=stpN n a ^^^ stpN n b
 | 0,_,_=>rfl
 | n+1,a,b=>by rw [stpN,stpN,stpN,stp_xor,stpN_xor n]
theorem stpN_add:∀ (m n c:Nat),stpN (m+n) c=stpN n (stpN m c)
 | 0,n,c=>by rw [Nat.zero_add];rfl
 | m+1,n,c=>by rw [Nat.add_right_comm,stpN,stpN,stpN_add m n]
theorem stpN_shift:∀ (n x:Nat),stpN n (2 ^ n*x)=x
 | 0,x=>by simp [stpN]
 | n+1,x=>by
  rw [stpN,Nat.pow_succ,Nat.mul_comm (2 ^ n) 2,Nat.mul_assoc,stp_even,stpN_shift n]
theorem stpN_inj0:∀ (n:Nat) {c:Nat},c<4294967296->stpN n c=0->c=0
 | 0,_,_,h0=>h0
 | n+1,_,h,h0=>stp_inj0 h (stpN_inj0 n (stp_lt h) h0)
theorem xor_split {a r n:Nat} (h:a<2 ^ n):a+2 ^ n*r=a ^^^ (2 ^ n*r):=by
 apply Nat.eq_of_testBit_eq
 intro i
 rw [Nat.testBit_xor,Nat.add_comm,Nat.testBit_two_pow_mul_add _ h,Nat.testBit_two_pow_mul]
 by_cases hi:i<n
 ·rw [if_pos hi]
  simp [show ¬ n<=i by omega]
 ·rw [if_neg hi]
  have h1:a.testBit i=false:=Nat.testBit_lt_two_pow (Nat.lt_of_lt_of_le h (Nat.pow_le_pow_right (by omega) (by omega)))
  simp [h1,show n<=i by omega]
theorem stpN_look (n c:Nat):stpN n c=stpN n (c % 2 ^ n) ^^^ c / 2 ^ n:=by
 have h:c=c % 2 ^ n ^^^ (2 ^ n*(c / 2 ^ n)):=by
  rw [← xor_split (Nat.mod_lt _ (Nat.two_pow_pos n))]
  exact (Nat.mod_add_div c (2 ^ n)).symm
 conv=>lhs;rw [h]
 rw [stpN_xor,stpN_shift]
def byt (c x:Nat):Nat:=stpN 8 (c ^^^ x)
def run (c:Nat) (b:List Nat):Nat:=b.foldl byt c
def crcM (c:Nat) (b:List Nat):Nat:=run (c ^^^ 4294967295) b ^^^ 4294967295
theorem run_cons (c x:Nat) (b:List Nat):run c (x::b)=run (byt c x) b:=rfl
theorem run_append (c:Nat) (a b:List Nat):run c (a++b)=run (run c a) b:=List.foldl_append
theorem run_snoc (c x:Nat) (b:List Nat):run c (b++[x])=byt (run c b) x:=by rw [run_append];rfl
theorem xor32_lt {a b:Nat} (ha:a<4294967296) (hb:b<4294967296):a ^^^ b<4294967296:=by
 have:a ^^^ b<2 ^ 32:=Nat.xor_lt_two_pow (by omega) (by omega)
 omega
theorem byt_lt {c x:Nat} (h:c<4294967296) (hx:x<256):byt c x<4294967296:=stpN_lt 8 (xor32_lt h (by omega))
theorem run_lt:∀ {b:List Nat} {c:Nat},c<4294967296->(∀ x∈b,x<256)->run c b<4294967296
 | [],_,h,_=>h
 | x::b,c,h,hb=>by
  rw [run_cons]
  exact run_lt (byt_lt h (hb x (by simp))) fun y hy=>hb y (by simp [hy])
theorem crcM_lt {b:List Nat} {c:Nat} (h:c<4294967296) (hb:∀ x∈b,x<256):crcM c b<4294967296:=xor32_lt (run_lt (xor32_lt h (by omega)) hb) (by omega)
theorem xor_back (a p:Nat):a ^^^ p ^^^ p=a:=by rw [Nat.xor_assoc,Nat.xor_self,Nat.xor_zero]
def leN:List Nat->Nat
 | []=>0
 | x::b=>x+256*leN b
theorem leN_lt:∀ {b:List Nat},(∀ x∈b,x<256)->leN b<2 ^ (8*b.length)
 | [],_=>by simp [leN]
 | x::b,h=>by
  have h1:=leN_lt (b:=b) fun y hy=>h y (by simp [hy])
  have h2:=h x (by simp)
  rw [leN,List.length_cons,Nat.mul_add,Nat.pow_add]
  omega
theorem run_num:∀ {b:List Nat} (c:Nat),(∀ x∈b,x<256)->run c b=stpN (8*b.length) (c ^^^ leN b)
 | [],c,_=>by simp [run,leN,stpN]
 | x::b,c,h=>by
  have hx:x<2 ^ 8:=h x (by simp)
  rw [run_cons,run_num (byt c x) fun y hy=>h y (by simp [hy]),List.length_cons,Nat.mul_add,Nat.add_comm (8*b.length),stpN_add,leN]
  congr 1
  have e:x+256*leN b=x ^^^ (2 ^ 8*leN b):=xor_split hx
  rw [e,← Nat.xor_assoc,stpN_xor,stpN_shift]
  rfl
theorem run_burst {a b:List Nat} {c X f:Nat} (ha:∀ x∈a,x<256) (hb:∀ x∈b,x<256) (hl:a.length=b.length) (hX:X<4294967296) (hf:f<=8*a.length)
  (h:leN b=leN a ^^^ (2 ^ f*X)) (he:run c a=run c b):X=0:=by
 rw [run_num c ha,run_num c hb,← hl,h,← Nat.xor_assoc,stpN_xor _ (c ^^^ leN a)] at he
 have h0:stpN (8*a.length) (2 ^ f*X)=0:=by
  have:=congrArg (fun z=>stpN (8*a.length) (c ^^^ leN a) ^^^ z) he
  simp only [Nat.xor_self,← Nat.xor_assoc,Nat.zero_xor] at this
  exact this.symm
 rw [show 8*a.length=f+(8*a.length-f) by omega,stpN_add,stpN_shift] at h0
 exact stpN_inj0 _ hX h0
theorem crcM_burst {a b:List Nat} {c X f:Nat} (ha:∀ x∈a,x<256) (hb:∀ x∈b,x<256) (hl:a.length=b.length) (hX:X<4294967296) (hf:f<=8*a.length)
  (h:leN b=leN a ^^^ (2 ^ f*X)) (he:crcM c a=crcM c b):X=0:=by
 refine run_burst (c:=c ^^^ 4294967295) ha hb hl hX hf h ?_
 have:=congrArg (fun z=>z ^^^ 4294967295) he
 unfold crcM at this
 simpa only [xor_back] using this
theorem leN_set:∀ {b:List Nat} {j y:Nat} (hj:j<b.length),(∀ x∈b,x<256)->y<256->leN (b.set j (b[j] ^^^ y))=leN b ^^^ (2 ^ (8*j)*y)
 | [],j,y,hj,_,_=>by simp at hj
 | x::b,0,y,_,h,hy=>by
  have hx:x<2 ^ 8:=h x (by simp)
  have hxy:x ^^^ y<2 ^ 8:=Nat.xor_lt_two_pow hx hy
  simp only [List.set_cons_zero,List.getElem_cons_zero,leN]
  have e1:x+256*leN b=x ^^^ (2 ^ 8*leN b):=xor_split hx
  have e2:(x ^^^ y)+256*leN b=(x ^^^ y) ^^^ (2 ^ 8*leN b):=xor_split hxy
  rw [e1,e2,Nat.mul_zero,Nat.pow_zero,Nat.one_mul,Nat.xor_assoc,Nat.xor_comm y,← Nat.xor_assoc]
 | x::b,j+1,y,hj,h,hy=>by
  have hx:x<2 ^ 8:=h x (by simp)
  have ih:=leN_set (b:=b) (j:=j) (y:=y) (by simpa using hj) (fun z hz=>h z (by simp [hz])) hy
  simp only [List.set_cons_succ,List.getElem_cons_succ,leN]
  rw [ih]
  have e1:x+256*leN b=x ^^^ (2 ^ 8*leN b):=xor_split hx
  have e2:x+256*(leN b ^^^ 2 ^ (8*j)*y)=x ^^^ (2 ^ 8*(leN b ^^^ 2 ^ (8*j)*y)):=xor_split hx
  rw [e1,e2,Nat.xor_assoc]
  congr 1
  have e3:2 ^ 8*(leN b ^^^ 2 ^ (8*j)*y)=2 ^ 8*leN b ^^^ 2 ^ 8*(2 ^ (8*j)*y):=by
   apply Nat.eq_of_testBit_eq
   intro i
   simp only [Nat.testBit_xor,Nat.testBit_two_pow_mul]
   cases decide (i>=8)<;>simp
  rw [e3,← Nat.mul_assoc,← Nat.pow_add,Nat.mul_add,Nat.add_comm 8]
def le4 (s:Nat):List Nat:=[s % 256,s / 256 % 256,s / 65536 % 256,s / 16777216 % 256]
theorem le4_bytes (s:Nat):∀ x∈le4 s,x<256:=by
 intro x hx
 simp [le4] at hx
 omega
theorem le4_num {s:Nat} (h:s<4294967296):leN (le4 s)=s:=by
 simp [le4,leN]
 omega
theorem le4_inj {s t:Nat} (hs:s<4294967296) (ht:t<4294967296) (h:le4 s=le4 t):s=t:=by
 rw [← le4_num hs,← le4_num ht,h]
def sealM (b:List Nat):List Nat:=b++le4 (crcM 0 b)
theorem sealM_len (b:List Nat):(sealM b).length=b.length+4:=by simp [sealM,le4]
def openM (b:List Nat):Option (List Nat) :=
 if 4<=b.length/\sealM (b.take (b.length-4))=b then some (b.take (b.length-4)) else none
theorem openM_seal (b:List Nat):openM (sealM b)=some b:=by
 unfold openM
 have h:(sealM b).take ((sealM b).length-4)=b:=by
  rw [sealM_len,Nat.add_sub_cancel]
  unfold sealM
  rw [List.take_left]
 rw [h,if_pos ⟨by rw [sealM_len];omega,rfl⟩]
theorem openM_turned {b:List Nat} {j y:Nat} (hb:∀ x∈b,x<256) (hj:j<(sealM b).length) (hy:y<256) (h0:y≠0):openM ((sealM b).set j ((sealM b)[j] ^^^ y))=none:=by
 unfold openM
 rw [if_neg]
 rintro ⟨_,h⟩
 have hsl:=sealM_len b
 rw [List.length_set,hsl,Nat.add_sub_cancel] at h
 have hsb:∀ x∈sealM b,x<256:=by
  intro x hx
  rcases List.mem_append.1 hx with hx | hx
  ·exact hb x hx
  ·exact le4_bytes _ x hx
 have hv:(sealM b)[j] ^^^ y<256:=by
  have:(sealM b)[j] ^^^ y<2 ^ 8:=Nat.xor_lt_two_pow (hsb _ (List.getElem_mem hj)) hy
  omega
 have hne:(sealM b)[j] ^^^ y≠(sealM b)[j]:=by
  intro e
  have:=congrArg (fun z=>(sealM b)[j] ^^^ z) e
  simp only [← Nat.xor_assoc,Nat.xor_self,Nat.zero_xor] at this
  exact h0 this
 by_cases hjb:j<b.length
 ·have e1:(sealM b).set j ((sealM b)[j] ^^^ y)=b.set j (b[j] ^^^ y)++le4 (crcM 0 b):=by
   have hg:(sealM b)[j]=b[j]:=List.getElem_append_left hjb
   rw [hg]
   unfold sealM
   rw [List.set_append_left _ _ hjb]
  have hbl:(b.set j (b[j] ^^^ y)).length=b.length:=List.length_set
  rw [e1,List.take_append_of_le_length (by rw [hbl];exact Nat.le_refl _),List.take_of_length_le (by rw [hbl];exact Nat.le_refl _)] at h
  unfold sealM at h
  have h2:=List.append_cancel_left h
  have hb2:∀ x∈b.set j (b[j] ^^^ y),x<256:=by
   intro x hx
   rcases List.mem_or_eq_of_mem_set hx with hx | rfl
   ·exact hb x hx
   ·have:b[j] ^^^ y<2 ^ 8:=Nat.xor_lt_two_pow (hb _ (List.getElem_mem hjb)) hy
    omega
  have h3:=le4_inj (crcM_lt (by omega) hb2) (crcM_lt (by omega) hb) h2
  exact h0 (crcM_burst (c:=0) (X:=y) (f:=8*j) hb hb2 hbl.symm (by omega) (by omega) (leN_set hjb hb hy) h3.symm)
 ·have e1:((sealM b).set j ((sealM b)[j] ^^^ y)).take b.length=b:=by
   rw [List.take_set_of_le (by omega)]
   unfold sealM
   rw [List.take_left]
  rw [e1] at h
  have:=congrArg (fun l:List Nat=>l[j]?) h
  simp only [List.getElem?_set_self hj,List.getElem?_eq_getElem hj,Option.some.injEq] at this
  exact hne this.symm
end Go.Proofs.YtpljdjmpamjkhaaGreatDoor
set_option linter.unusedVariables false
set_option linter.unusedSimpArgs false
namespace Go.Proofs.YtpljdjmpamjkhaaGreatDoor
open Go.RowKit Go.Lib
abbrev Row:=List Cl
def colA (rs:List Row) (k:Nat):List Cl:=rs.map fun r=>r.getD k nul
def kndA (fs:List Fd) (k:Nat):Nat:=(fs.map fun f=>f.2.2.1).getD k 0
theorem kndA_get {fs:List Fd} {k:Nat} (h:k<fs.length):kndA fs k=fs[k].2.2.1:=by
 unfold kndA
 rw [List.getD_eq_getElem?_getD,List.getElem?_map,List.getElem?_eq_getElem h]
 rfl
theorem colA_length (rs:List Row) (k:Nat):(colA rs k).length=rs.length:=List.length_map _
def bndB (c:Cl):List Nat:=if c.1=1 then uv (zigzag c.2.1) else if c.1=2 then [(c.2.1 % 256).toNat] else uv c.2.2.length++c.2.2
def flgB (st:Stt):Nat:=(if st.some=true then 1 else 0)+(if st.high=true then 2 else 0)
def statB (st:Stt):List Nat:=uv st.nulls.toNat++[flgB st]++((if st.some=true then bndB st.lo else [])++(if st.high=true then bndB st.hi else []))
def nps (g n:Nat):Nat:=(n+g-1) / g
def prt (g:Nat) (rs:List Row) (j:Nat):List Row:=(rs.drop (j*g)).take g
def prts (g:Nat) (rs:List Row):List (List Row):=(List.range (nps g rs.length)).map (prt g rs)
def bdyK (fs:List Fd) (p:List Row) (k:Nat):List Nat:=(List.range k).flatMap fun i=>colM (kndA fs i) (colA p i)
def ftK (fs:List Fd) (p:List Row) (k:Nat):List Nat:=(List.range k).flatMap fun i=>uv (colM (kndA fs i) (colA p i)).length++statB (statM (colA p i))
def bdyJ (fs:List Fd) (g:Nat) (rs:List Row) (j:Nat):List Nat:=(List.range j).flatMap fun i=>bdyK fs (prt g rs i) fs.length
def ftJ (fs:List Fd) (g:Nat) (rs:List Row) (j:Nat):List Nat:=(List.range j).flatMap fun i=>ftK fs (prt g rs i) fs.length
def footM (id:Nat) (fs:List Fd) (rs:List Row) (g:Nat):List Nat:=packM id fs++uv rs.length++uv g++ftJ fs g rs (nps g rs.length)
def innM (id:Nat) (fs:List Fd) (rs:List Row) (g:Nat):List Nat:=bdyJ fs g rs (nps g rs.length)++footM id fs rs g++le4 (footM id fs rs g).length
def textM (id:Nat) (fs:List Fd) (rs:List Row) (g:Nat):List Nat:=[67,70,49]++innM id fs rs g
theorem bdyK_succ (fs:List Fd) (p:List Row) (k:Nat):bdyK fs p (k+1)=bdyK fs p k++colM (kndA fs k) (colA p k):=by
 unfold bdyK
 rw [List.range_succ,List.flatMap_append]
 simp
theorem ftK_succ (fs:List Fd) (p:List Row) (k:Nat):ftK fs p (k+1)=ftK fs p k++(uv (colM (kndA fs k) (colA p k)).length++statB (statM (colA p k))):=by
 unfold ftK
 rw [List.range_succ,List.flatMap_append]
 simp
theorem bdyJ_succ (fs:List Fd) (g:Nat) (rs:List Row) (j:Nat):bdyJ fs g rs (j+1)=bdyJ fs g rs j++bdyK fs (prt g rs j) fs.length:=by
 unfold bdyJ
 rw [List.range_succ,List.flatMap_append]
 simp
theorem ftJ_succ (fs:List Fd) (g:Nat) (rs:List Row) (j:Nat):ftJ fs g rs (j+1)=ftJ fs g rs j++ftK fs (prt g rs j) fs.length:=by
 unfold ftJ
 rw [List.range_succ,List.flatMap_append]
 simp
def fitE (fs:List Fd):List Row->Nat
 | []=>0
 | r::t=>if fitM fs r=0 then fitE fs t else fitM fs r
def faultW (id:Nat) (fs:List Fd) (rs:List Row) (g:Int):Nat :=
 if chk id fs≠0 then chk id fs else if g<1∨64<g then 1 else if 256<rs.length then 5 else fitE fs rs
def writeM (id:Nat) (fs:List Fd) (rs:List Row) (g:Int):List Nat×Nat :=
 if faultW id fs rs g≠0 then ([],faultW id fs rs g) else if 65536<(sealM (textM id fs rs g.toNat)).length then ([],4) else (sealM (textM id fs rs g.toNat),0)
abbrev S3:=List Nat×List Nat×Bool
def badW (lo hi:Nat) (b:List Nat):Bool:=!decide ((gt b).2.2=0/\lo<=(gt b).1/\(gt b).1<=hi)
def valW (lo hi:Nat) (b:List Nat):Nat:=if badW lo hi b=true then 0 else (gt b).1
def rstW (b:List Nat):List Nat:=b.drop (gt b).2.1
theorem valW_le (lo hi:Nat) (b:List Nat):valW lo hi b<=hi:=by
 unfold valW badW
 split
 ·omega
 ·next h =>
  simp only [Bool.not_eq_true',decide_eq_false_iff_not,Decidable.not_not] at h
  exact h.2.2
theorem valW_lo {lo hi:Nat} {b:List Nat} (h:badW lo hi b=false):lo<=valW lo hi b:=by
 unfold valW
 rw [if_neg (by rw [h];decide)]
 unfold badW at h
 simp only [Bool.not_eq_false',decide_eq_true_eq] at h
 exact h.2.1
theorem within_put {lo hi n:Nat} (h1:lo<=n) (h2:n<=hi) (h3:n<18446744073709551616) (r:List Nat):badW lo hi (uv n++r)=false/\valW lo hi (uv n++r)=n/\rstW (uv n++r)=r:=by
 have hg:=gt_put n h3 r
 have hb:badW lo hi (uv n++r)=false:=by
  unfold badW
  rw [hg]
  simp [h1,h2]
 refine ⟨hb,?_,?_⟩
 ·unfold valW
  rw [hb,hg]
  rfl
 ·unfold rstW
  rw [hg,List.drop_left]
def colR (k n:Nat) (s:S3):List Cl×S3 :=
 ((readC k (s.1.take (valW 0 s.1.length s.2.1)) n).getD [],
  (s.1.drop (valW 0 s.1.length s.2.1),rstW s.2.1,(s.2.2 || badW 0 s.1.length s.2.1) || (readC k (s.1.take (valW 0 s.1.length s.2.1)) n).isNone))
def staR (l:List Cl) (s:S3):S3:=if (statB (statM l)).isPrefixOf s.2.1=true then (s.1,s.2.1.drop (statB (statM l)).length,s.2.2) else (s.1,s.2.1,true)
def psh (rs:List Row) (l:List Cl):List Row:=rs.mapIdx fun i r=>r++(l[i]?).toList
def grS (n:Nat) (st:List Row×List Stt×S3) (f:Fd):List Row×List Stt×S3 :=
 (psh st.1 (colR f.2.2.1 n st.2.2).1,st.2.1++[statM (colR f.2.2.1 n st.2.2).1],staR (colR f.2.2.1 n st.2.2).1 (colR f.2.2.1 n st.2.2).2)
def grK (fs:List Fd) (n:Nat) (s:S3) (k:Nat):List Row×List Stt×S3:=(fs.take k).foldl (grS n) (List.replicate n [],[],s)
theorem grK_zero (fs:List Fd) (n:Nat) (s:S3):grK fs n s 0=(List.replicate n [],[],s):=rfl
theorem grK_succ {fs:List Fd} {k:Nat} (h:k<fs.length) (n:Nat) (s:S3):grK fs n s (k+1)=grS n (grK fs n s k) fs[k]:=by
 unfold grK
 rw [List.take_succ_eq_append_getElem h,List.foldl_append]
 rfl
abbrev Gr:=List Row×List Stt
def fiJ (fs:List Fd) (g tot:Nat) (s:S3):Nat->List Gr×S3
 | 0=>([],s)
 | j+1=>((fiJ fs g tot s j).1++[((grK fs (min (tot-j*g) g) (fiJ fs g tot s j).2 fs.length).1,(grK fs (min (tot-j*g) g) (fiJ fs g tot s j).2 fs.length).2.1)],
   (grK fs (min (tot-j*g) g) (fiJ fs g tot s j).2 fs.length).2.2)
def restF (fs:List Fd) (c r:List Nat):List Gr×S3 :=
 fiJ fs (valW 1 64 (rstW r)) (valW 0 256 r) (c,rstW (rstW r),badW 0 256 r || badW 1 64 (rstW r)) (nps (valW 1 64 (rstW r)) (valW 0 256 r))
def readF (b:List Nat):Option (Nat×List Fd×Nat×List Gr) :=
 if b.length<4 then none else
 if b.length-4<leN (b.drop (b.length-4)) then none else
 match unpackM ((b.take (b.length-4)).drop (b.length-4-leN (b.drop (b.length-4)))) with
 | .error _=>none
 | .ok ((id,fs),r)=>if (restF fs (b.take (b.length-4-leN (b.drop (b.length-4)))) r).2.2.2=true then none
  else some (id,fs,valW 1 64 (rstW r),(restF fs (b.take (b.length-4-leN (b.drop (b.length-4)))) r).1)
def allR (gs:List Gr):List Row:=(gs.map Prod.fst).flatten
def openF (b:List Nat):Except Nat (Nat×List Fd×Nat×List Gr) :=
 match openM b with
 | none=>.error 101
 | some t=>if t.take 3=[67,70,49] then (match readF (t.drop 3) with
   | none=>.error 102
   | some x=>if writeM x.1 x.2.1 (allR x.2.2.2) x.2.2.1=(b,0) then .ok x else .error 102) else .error 100
/-! What has failed stays so. -/
theorem staR_failed {l:List Cl} {s:S3} (h:(staR l s).2.2=false):s.2.2=false/\s.2.1=statB (statM l)++(staR l s).2.1/\(staR l s).1=s.1:=by
 unfold staR at *
 split at h
 ·next hp =>
  rw [if_pos hp]
  refine ⟨h,?_,rfl⟩
  obtain ⟨t,ht⟩:=List.isPrefixOf_iff_prefix.1 hp
  show _=_++List.drop _ _
  rw [← ht,List.drop_left]
 ·cases h
theorem staR_ok {l:List Cl} {c b:List Nat} {fl:Bool}:staR l (c,statB (statM l)++b,fl)=(c,b,fl):=by
 unfold staR
 rw [if_pos (List.isPrefixOf_iff_prefix.2 ⟨b,rfl⟩),List.drop_left]
theorem colR_failed {k n:Nat} {s:S3} (h:(colR k n s).2.2.2=false):s.2.2=false/\∃ l c,(colR k n s).1=l/\readC k c n=some l/\s.1=c++(colR k n s).2.1:=by
 unfold colR at *
 simp only [Bool.or_eq_false_iff] at h
 refine ⟨h.1.1,?_⟩
 cases hr:readC k (s.1.take (valW 0 s.1.length s.2.1)) n with
 | none=>rw [hr] at h;simp at h
 | some l=>exact ⟨l,_,rfl,hr,(List.take_append_drop _ _).symm⟩
theorem grS_failed {n:Nat} {st:List Row×List Stt×S3} {f:Fd} (h:(grS n st f).2.2.2.2=false):st.2.2.2.2=false/\(colR f.2.2.1 n st.2.2).2.2.2=false:=by
 unfold grS at h
 have h1:=(staR_failed h).1
 exact ⟨(colR_failed h1).1,h1⟩
theorem fold_failed {n:Nat}:∀ {fs:List Fd} {st:List Row×List Stt×S3},(fs.foldl (grS n) st).2.2.2.2=false->st.2.2.2.2=false
 | [],_,h=>h
 | f::t,st,h=>(grS_failed (fold_failed (fs:=t) h)).1
theorem grK_failed {fs:List Fd} {n:Nat} {s:S3} {k:Nat} (h:(grK fs n s k).2.2.2.2=false):s.2.2=false:=fold_failed (st:=(List.replicate n [],[],s)) h
theorem fiJ_failed {fs:List Fd} {g tot:Nat} {s:S3}:∀ {m j:Nat},j<=m->(fiJ fs g tot s m).2.2.2=false->(fiJ fs g tot s j).2.2.2=false:=by
 intro m
 induction m with
 | zero =>
  intro j hj h
  obtain rfl:j=0:=by omega
  exact h
 | succ m ih =>
  intro j hj h
  rcases Nat.lt_or_ge m j with h1 | h1
  ·obtain rfl:j=m+1:=by omega
   exact h
  ·exact ih h1 (grK_failed (k:=fs.length) h)
/-! Rows out of columns. -/
def rowsOf (n:Nat) (cols:List (List Cl)):List Row:=(List.range n).map fun i=>cols.map fun l=>l.getD i nul
theorem rowsOf_nil (n:Nat):rowsOf n []=List.replicate n []:=by
 unfold rowsOf
 apply List.ext_getElem?
 intro i
 by_cases h:i<n
 ·simp [h]
 ·simp [h]
theorem rowsOf_length (n:Nat) (cols:List (List Cl)):(rowsOf n cols).length=n:=by simp [rowsOf]
theorem rowsOf_get {n:Nat} {cols:List (List Cl)} {i:Nat} (h:i<n):(rowsOf n cols)[i]?=some (cols.map fun l=>l.getD i nul):=by
 unfold rowsOf
 simp [h]
theorem psh_rowsOf {n:Nat} {cols:List (List Cl)} {l:List Cl} (h:l.length=n):psh (rowsOf n cols) l=rowsOf n (cols++[l]):=by
 unfold psh
 apply List.ext_getElem?
 intro i
 rw [List.getElem?_mapIdx]
 by_cases hi:i<n
 ·rw [rowsOf_get hi,rowsOf_get hi,List.getElem?_eq_getElem (by omega)]
  simp [List.getD_eq_getElem?_getD,List.getElem?_eq_getElem (show i<l.length by omega)]
 ·rw [List.getElem?_eq_none (l:=rowsOf n cols) (by rw [rowsOf_length];omega),List.getElem?_eq_none (l:=rowsOf n (cols++[l])) (by rw [rowsOf_length];omega)]
  rfl
theorem colA_rowsOf {n:Nat} {cols:List (List Cl)} {k:Nat} (hk:k<cols.length) (h:cols[k].length=n):colA (rowsOf n cols) k=cols[k]:=by
 unfold colA
 apply List.ext_getElem?
 intro i
 rw [List.getElem?_map]
 by_cases hi:i<n
 ·rw [rowsOf_get hi,List.getElem?_eq_getElem (show i<cols[k].length by omega)]
  simp [List.getD_eq_getElem?_getD,List.getElem?_eq_getElem hk,List.getElem?_eq_getElem (show i<cols[k].length by omega)]
 ·rw [List.getElem?_eq_none (by rw [rowsOf_length];omega),List.getElem?_eq_none (by omega)]
  rfl
theorem rowsOf_cols {p:List Row} {m:Nat} (h:∀ r∈p,r.length=m):rowsOf p.length ((List.range m).map (colA p))=p:=by
 apply List.ext_getElem?
 intro i
 by_cases hi:i<p.length
 ·rw [rowsOf_get hi,List.getElem?_eq_getElem hi,List.map_map]
  congr 1
  have hm:=h _ (List.getElem_mem hi)
  apply List.ext_getElem?
  intro k
  rw [List.getElem?_map]
  by_cases hk:k<m
  ·rw [List.getElem?_range hk,List.getElem?_eq_getElem (by omega)]
   simp [colA,List.getD_eq_getElem?_getD,List.getElem?_eq_getElem hi,List.getElem?_eq_getElem (show k<p[i].length by omega)]
  ·rw [List.getElem?_eq_none (by simp;omega),List.getElem?_eq_none (by omega)]
   rfl
 ·rw [List.getElem?_eq_none (by rw [rowsOf_length];omega),List.getElem?_eq_none (by omega)]
def Whl (fs:List Fd) (n:Nat) (cols:List (List Cl)):Prop:=∀ i (h:i<cols.length),Col (kndA fs i) cols[i]/\cols[i].length=n
theorem grK_whole {fs:List Fd} {n:Nat} {s:S3} (hn:n<=64) (hk:∀ f∈fs,1<=f.2.2.1/\f.2.2.1<=3) (hb:Bs s.1):∀ {k:Nat},k<=fs.length->(grK fs n s k).2.2.2.2=false ->
  ∃ cols,cols.length=k/\Whl fs n cols/\(grK fs n s k).1=rowsOf n cols/\(grK fs n s k).2.1=cols.map statM/\Bs (grK fs n s k).2.2.1:=by
 intro k
 induction k with
 | zero=>exact fun _ _=>⟨[],rfl,fun i h=>by simp at h,(rowsOf_nil n).symm,rfl,hb⟩
 | succ k ih =>
  intro hkl h
  rw [grK_succ (by omega)] at h ⊢
  obtain ⟨h1,h2⟩:=grS_failed h
  obtain ⟨cols,hc,hw,hr,hs,hbb⟩:=ih (by omega) h1
  obtain ⟨_,l,c,e1,e2,e3⟩:=colR_failed h2
  have hcb:Bs c:=fun x hx=>hbb x (by rw [e3];exact List.mem_append_left _ hx)
  have hkk:=hk _ (List.getElem_mem (show k<fs.length by omega))
  obtain ⟨q1,q2,_⟩:=(readC_iff hkk (by omega) hcb).1 e2
  refine ⟨cols++[l],by simp [hc],?_,?_,?_,?_⟩
  ·intro i hi
   rcases Nat.lt_or_ge i cols.length with h3 | h3
   ·rw [List.getElem_append_left h3]
    exact hw i h3
   ·obtain rfl:i=cols.length:=by simp at hi;omega
    rw [List.getElem_append_right (Nat.le_refl _)]
    simp only [Nat.sub_self,List.getElem_cons_zero]
    rw [hc,kndA_get (by omega)]
    exact ⟨q1,q2⟩
  ·unfold grS
   simp only [e1,hr]
   exact psh_rowsOf q2
  ·unfold grS
   simp only [e1,hs,List.map_append,List.map_cons,List.map_nil]
  ·have h4:=(staR_failed (l:=(colR fs[k].2.2.1 n (grK fs n s k).2.2).1) (s:=(colR fs[k].2.2.1 n (grK fs n s k).2.2).2) h).2.2
   unfold grS
   simp only
   rw [h4]
   exact fun x hx=>hbb x (by rw [e3];exact List.mem_append_right _ hx)
end Go.Proofs.YtpljdjmpamjkhaaGreatDoor
set_option linter.unusedVariables false
set_option linter.unusedSimpArgs false
set_option maxRecDepth 100000
set_option maxHeartbeats 4000000
namespace Go.Proofs.YtpljdjmpamjkhaaGreatDoor
open Go.RowKit Go.Lib
theorem count_told (n:Nat) (hn:n<9223372036854775808) (w:World):Calls Tryz.prog 81 #[.int .i64 (n:Int)] w (Told w (uv n)):=by
 have HV:=hidden (vput_told n (by omega))
 have hwr:IntKind.u64.wrap (n:Int)=(n:Int):=by rw [IntKind.wrap_u64];omega
 go_enter Tryz.func81,Tryz.ntmps81
 go_wp2_with fail
 refine (HV.out _).mono ?_
 rintro e w1 ⟨⟨v1,rfl,o1⟩,hb1⟩
 go_wp2_with fail
 go_ret
 exact ⟨⟨_,rfl,o1⟩,hb1⟩
theorem natsT_bytesT {l:List Nat} (h:Bs l):natsT (bytesT l)=l:=by
 unfold natsT
 rw [bytesT_toList]
 exact map_fwd h
theorem bnd_text {s:List Nat} (c:Nat) (n:Int) (hc:(c:Int)≠1) (hc2:(c:Int)≠2) (hl:s.length<=64) (h8:Bs s) (w:World) :
  Calls Tryz.prog 133 #[.agg #[.int .u8 (c:Int),.int .i64 n,.string (bytesT s)]] w (Told w (uv s.length++s)):=by
 have HE:=hidden (natsT_bytesT h8)
 have hsz:(bytesT s).size=s.length:=bytesT_size s
 have HV:=hidden (count_told s.length (by omega))
 have hul:=uv_ten (n:=s.length) (by omega)
 have h1:((c:Int)==1)=false:=beq_eq_false_iff_ne.2 hc
 have h2:((c:Int)==2)=false:=beq_eq_false_iff_ne.2 hc2
 obtain ⟨x0,x1,x2⟩:=cell_new3 w (.int .u8 (c:Int)) (.int .i64 n) (.string (bytesT s)) 52
 have hz:w.heap.size<(w.alloc (.cells #[.int .u8 (c:Int),.int .i64 n,.string (bytesT s)] 52)).heap.size:=by rw [World.size_alloc];omega
 have HB0:=hidden (below_one w (.cells #[.int .u8 (c:Int),.int .i64 n,.string (bytesT s)] 52))
 generalize hW:w.alloc (.cells #[.int .u8 (c:Int),.int .i64 n,.string (bytesT s)] 52)=W at *
 have HKEEP:Hid (∀ n W',Below W.heap.size (W.drewN n) W'->W'.cell? ⟨w.heap.size,2,none⟩=some (.string (bytesT s))/\Below W.heap.size W W'/\W.heap.size<=W'.heap.size):=hidden (fun n W' h=>by
  have hb':Below W.heap.size W W':=(below_drewN (Below.refl _ _) n).trans h
  exact ⟨(hb'.cell (p:=⟨w.heap.size,2,none⟩) hz).trans x2,hb',hb'.size⟩)
 generalize hP:uv s.length=P at *
 have hPp:0<P.length:=by rw [← hP];exact uv_pos _
 clear hP hc hc2 h8
 go_enter Tryz.func133,Tryz.ntmps133
 go_wp2_with fail
 try rw [hW]
 clear hW
 go_region_held3 (fun w'=>w'.cell? ⟨w.heap.size,2,none⟩=some (.string (bytesT s))) (go_keep) (first
  | (go_at_call 81;refine (HV.out _).mono ?_;rintro e w2 ⟨⟨v2,rfl,hown2⟩,hb2⟩;obtain ⟨hm1,hm2,hm3⟩:=HKEEP.out _ _ hb2;have HM2:=hidden hm2;have HO2:=hidden hown2;clear hb2 hm2 hown2)
  | (refine step_append_str (by rfl) _ _ (by rfl) W.heap.size _ P (bytesT s) (by rfl) ?_ (by rfl) ?_ ?_ ?_;exact (own_low HO2.out (by simp));omega;omega;intro v3 w3 o3 b3;have hq1:=(b3.cell (p:=⟨w.heap.size,2,none⟩) hz).trans hm1;have HO3:=hidden o3;have HB3:=hidden (HM2.out.trans b3);clear o3 b3))
 all_goals go_wp2_with fail
 all_goals go_ret
 all_goals rw [HE.out] at HO3
 all_goals exact ⟨⟨_,rfl,own_low HO3.out HB0.out.size⟩,below_then HB0.out HB3.out⟩
end Go.Proofs.YtpljdjmpamjkhaaGreatDoor
