/- Contracts: bytes.Equal, writtenSo. Contracts: Read. Slices of bytes: what they hold, whoever made them; lists of the call's own; bytes put behind bytes; the table of half bytes as it lies in memory. Contracts: dropHalf, More, Of; the document's More. Contracts: Seal, Open, bytes.Equal, bytes.Clone. -/
import Derived.Test.YtpljdjmpamjkhaaGreatDoorZac
import Derived.Test.YtpljdjmpamjkhaaGreatDoorZau
import Derived.Test.YtpljdjmpamjkhaaGreatDoorZan
import Derived.Test.YtpljdjmpamjkhaaGreatDoorZab
import Derived.Test.YtpljdjmpamjkhaaGreatDoorZam
import Derived.Test.YtpljdjmpamjkhaaGreatDoorZav
import Derived.Test.YtpljdjmpamjkhaaGreatDoorProg
import Derived.WalkKit
import Derived.WalkLawsBesides
import Derived.Outline
import Derived.WalkSpells
import Derived.Lib.OthersKept
import Derived.Maps.AppendAt
import Derived.Laws.OwnMore
import Derived.BigQuiet
import Derived.BigRegion
import Derived.Lib.VarintBits
import Derived.Test.YtpljdjmpamjkhaaGreatDoorZag
import Derived.Laws.BitsAllLaws
set_option linter.unusedVariables false
set_option linter.unusedSimpArgs false
set_option maxRecDepth 100000
set_option maxHeartbeats 4000000
namespace Go.Proofs.YtpljdjmpamjkhaaGreatDoor
open Go.RowKit Go.Lib
theorem equal_any {w:World} {va vb:Value} {a b:List Nat} (ha:Sv w va (vals .u8 a)) (hb:Sv w vb (vals .u8 b)) (h8:Bs a) (h9:Bs b) :
  Calls Tryz.prog 92 #[va,vb] w fun e w'=>e=.returned (.bool (decide (a=b)))/\w'=w:=by
 have hca:=ha.conv h8
 have hcb:=hb.conv h9
 have HE:=hidden (bytes_eq h8 h9)
 clear ha hb
 unfold txt at hca hcb
 generalize a.map Nat.toUInt8=x at *
 generalize b.map Nat.toUInt8=y at *
 go_enter Tryz.func92,Tryz.ntmps92
 go_wp2_with fail
 go_ret
 refine ⟨?_,rfl⟩
 have e:(x==y)=decide (a=b):=by
  by_cases h:a=b
  ·rw [decide_eq_true h,HE.out.2 h]
   simp
  ·rw [decide_eq_false h]
   simp
   exact fun e=>h (HE.out.1 e)
 rw [← e]
 rfl
theorem vals_cons (k:IntKind) (c:Nat) (t:List Nat):vals k (c::t)=.int k (c:Int)::vals k t:=rfl
theorem Sv.uncons {W:World} {v:Value} {c:Nat} {t:List Nat} (h:Sv W v (vals .u8 (c::t))) :
  ∃ g off cap,v=.slice (some ⟨g,off,none⟩) (t.length+1) cap/\t.length+1<=cap/\cap<=maxLen/\g<W.heap.size/\W.cell? ⟨g,off,none⟩=some (.int .u8 (c:Int)) /\
   (∀ j (h:j<t.length),W.cell? ⟨g,off+1+j,none⟩=some (.int .u8 (t[j]:Int))) /\
   ∃ A,(if cap=1 then (some ⟨g,off,none⟩:Option Addr) else some ⟨g,off+1,none⟩)=A/\Sv W (.slice A t.length (cap-1)) (vals .u8 t):=by
 have h0:=h
 obtain ⟨a,cap,rfl,h1,h2,h3,h4⟩:=h
 rw [vals_length,List.length_cons] at *
 obtain ⟨g,off,rfl,h5,h6⟩:=h4 (by omega)
 refine ⟨g,off,cap,rfl,h1,h2,h5,by simpa using h6 0 _ rfl,fun j hj=>?_,?_⟩
 ·have:=h6 (j+1) _ (vals_get (k:=.u8) (l:=c::t) (j:=j+1) (by simpa using hj))
  rw [show off+1+j=off+(j+1) by omega,this]
  simp
 ·obtain ⟨A,hA,hSA⟩:=Sv_drop h0 (k:=1) (by rw [vals_length];simp)
  refine ⟨A,hA,?_⟩
  rw [vals_cons] at hSA
  simpa using hSA
theorem written_any {w:World} {vb vl:Value} {c:Nat} {t:List Nat} {l:List Int} (hb:Sv w vb (vals .u8 (c::t))) (h8:Bs (c::t)) (hc:c<=4) (hs:Sv w vl (ivals l)) (hl:l.length<=256) (hi:Is l) :
  Calls Tryz.prog 309 #[vb,vl] w fun e w'=>e=.returned (.bool (decide (encC c l=t)))/\Below w.heap.size w w':=by
 have HEn:=hidden (encode_any hs hi c (by omega))
 have HBT:Hid (Bs t):=fun x hx=>h8 x (by simp [hx])
 have HBE:=hidden (encC_size c hi hl).2
 have hyes:c<=4/\l.length<=256:=⟨hc,hl⟩
 have HEM:Hid (encM c l=encC c l):=if_pos hyes
 rw [decide_eq_true hyes] at HEn
 obtain ⟨g,off,cap,rfl,h1,h2,h3,h4,_,A,hA,hSA⟩:=hb.uncons
 have HSA:=hidden hSA
 have hcm:cap<=9223372036854775807:=by unfold maxLen at h2;omega
 clear hb hs hi hSA h8 hyes h2
 go_enter Tryz.func309,Tryz.ntmps309
 go_wp2_with fail
 refine HEn.out.mono ?_
 rintro e w1 ⟨⟨v1,rfl,ho1⟩,hb1⟩
 rw [HEM.out] at ho1
 have HO1:=hidden ho1
 have HB1:=hidden hb1
 clear ho1 hb1
 go_wp2_with fail
 refine (equal_any HO1.out.sv (HSA.out.kept HB1.out) HBE.out HBT.out).mono ?_
 rintro e w2 ⟨rfl,rfl⟩
 go_wp2_with fail
 go_ret
 exact ⟨rfl,HB1.out⟩
theorem readM_ok {c n:Nat} {t:List Nat} {l:List Int} (hc:c<=4) (hn:n<=256) (h:bindR (rdC c n) (fin c t) t=.ok (l,[])):readM (c::t) (n:Int)=(l,0):=by
 rw [rdAll_fin] at h
 unfold readM
 rw [if_pos (by omega)]
 simp only
 rw [if_neg (by omega),Int.toNat_natCast]
 cases hr:rdAll c n t with
 | ok m=>rw [hr] at h;simp at h;rw [h]
 | error e=>rw [hr] at h;simp at h
theorem readM_err {c n e:Nat} {t:List Nat} (hc:c<=4) (hn:n<=256) (h:bindR (rdC c n) (fin c t) t=.error e):readM (c::t) (n:Int)=([],e):=by
 rw [rdAll_fin] at h
 unfold readM
 rw [if_pos (by omega)]
 simp only
 rw [if_neg (by omega),Int.toNat_natCast]
 cases hr:rdAll c n t with
 | ok m=>rw [hr] at h;simp at h
 | error e=>rw [hr] at h;simp at h;rw [h]
end Go.Proofs.YtpljdjmpamjkhaaGreatDoor
set_option linter.unusedVariables false
set_option linter.unusedSimpArgs false
namespace Go.Proofs.YtpljdjmpamjkhaaGreatDoor
open Go.RowKit Go.Lib
theorem heap_new (w:World) (o:Obj):(w.alloc o).heap[w.heap.size]?=some o:=by
 unfold World.alloc
 simp only [Array.getElem?_push_size]
theorem below_alloc (w:World) (o:Obj):Below w.heap.size w (w.alloc o):=(Below.refl _ _).alloc (Nat.le_refl _) _
def ReadPost (r:List Int×Nat) (w:World) (e:Ending) (w':World):Prop:=(∃ v,e=.returned (.tuple #[v,.int .i64 (r.2:Int)])/\OwnI w' w.heap.size v r.1)/\Below w.heap.size w w'
theorem read_arg {w:World} {vb:Value} (n:Int) (hn:¬ (0<=n/\n<=256)):Calls Tryz.prog 296 #[vb,.int .i64 n] w (ReadPost ([],1) w):=by
 by_cases h0:n<0
 ·clear hn
  go_enter Tryz.func296,Tryz.ntmps296
  go_wp2_with fail
  go_ret2
  exact ⟨⟨_,rfl,OwnI.nil _ _⟩,Below.refl _ _⟩
 ·have h1:n > 256:=by omega
  clear hn
  go_enter Tryz.func296,Tryz.ntmps296
  go_wp2_with fail
  go_ret2
  exact ⟨⟨_,rfl,OwnI.nil _ _⟩,Below.refl _ _⟩
theorem read_none {w:World} {vb:Value} (hb:Sv w vb []) (n:Int) (hn:0<=n/\n<=256):Calls Tryz.prog 296 #[vb,.int .i64 n] w (ReadPost ([],30) w):=by
 obtain ⟨a,cap,rfl,_⟩:=hb
 have h0:¬ n<0:=by omega
 have h1:¬ n > 256:=by omega
 clear hn
 go_enter Tryz.func296,Tryz.ntmps296
 go_wp2_with fail
 go_ret2
 exact ⟨⟨_,rfl,OwnI.nil _ _⟩,Below.refl _ _⟩
theorem read_codec {w:World} {vb:Value} {c:Nat} {t:List Nat} (hb:Sv w vb (vals .u8 (c::t))) (h8:Bs (c::t)) (hc:4<c) (n:Int) (hn:0<=n/\n<=256):Calls Tryz.prog 296 #[vb,.int .i64 n] w (ReadPost ([],50) w):=by
 obtain ⟨g,off,cap,rfl,h1,h2,h3,h4,_⟩:=hb.uncons
 have h5:¬ n<0:=by omega
 have h6:¬ n > 256:=by omega
 have h7:(c:Int)>=5:=by omega
 have h9:=h8 c (by simp)
 have hcm:cap<=9223372036854775807:=by unfold maxLen at h2;omega
 have hlen:(((t.length+1:Nat):Int)==0)=false:=beq_eq_false_iff_ne.2 (by omega)
 clear hn hb h8 h2
 go_enter Tryz.func296,Tryz.ntmps296
 go_wp2_with fail
 go_ret2
 exact ⟨⟨_,rfl,OwnI.nil _ _⟩,Below.refl _ _⟩
theorem read_main {w:World} {vb:Value} {c:Nat} {t:List Nat} (hb:Sv w vb (vals .u8 (c::t))) (h8:Bs (c::t)) (hc:c<=4) (n:Nat) (hn:n<=256):Calls Tryz.prog 296 #[vb,.int .i64 (n:Int)] w (ReadPost (readM (c::t) (n:Int)) w):=by
 have HSB:=hidden hb
 have H8:=hidden h8
 obtain ⟨g,off,cap,rfl,h1,h2,h3,h4,h4b,A,hA,hSA⟩:=hb.uncons
 have HSA:=hidden hSA
 have h5:¬ (n:Int)<0:=by omega
 have h6:¬ (n:Int) > 256:=by omega
 have h7:¬ (c:Int)>=5:=by omega
 have hcm:cap<=9223372036854775807:=by unfold maxLen at h2;omega
 have hlen:(((t.length+1:Nat):Int)==0)=false:=beq_eq_false_iff_ne.2 (by omega)
 have HST:Hid (StC 333 (w.alloc (.cells #[.slice A t.length (cap-1),.int .i64 0] 333)) w.heap.size t 0):=hidden (by
  have hh:(w.alloc (.cells #[.slice A t.length (cap-1),.int .i64 0] 333)).heap[w.heap.size]?=some (.cells #[.slice A t.length (cap-1),.int .i64 0] 333 (0,0)):=by
   exact heap_new _ _
  have hbs:Bs t:=fun x hx=>h8 x (by simp [hx])
  by_cases hcap:cap=1
  ·rw [if_pos hcap] at hA
   subst hA
   exact ⟨g,off,cap-1,hh,h3,by omega,by omega,hbs,fun j hj=>by omega⟩
  ·rw [if_neg hcap] at hA
   subst hA
   exact ⟨g,off+1,cap-1,hh,h3,by omega,by omega,hbs,fun j hj=>((below_alloc w _).cell (p:=⟨g,off+1+j,none⟩) h3).trans (h4b j hj)⟩)
 have HG:Hid (Goes (bindR (rdC c n) (fin c t) t) (bindR (rdC c n) (fin c t)) t 0):=⟨fun _=>rfl,fun h=>absurd rfl h⟩
 have HOK:=hidden (fun l h=>readM_ok (c:=c) (n:=n) (t:=t) (l:=l) hc hn h)
 have HER:=hidden (fun e h=>readM_err (c:=c) (n:=n) (t:=t) (e:=e) hc hn h)
 have HLI:=hidden (list_any (fun r h=>fin_more c t [] h) HST.out hn hc HG.out)
 generalize bindR (rdC c n) (fin c t) t=D at *
 generalize readM (c::t) (n:Int)=R at *
 clear hb h8 h2 hSA h4b HG
 go_enter Tryz.func296,Tryz.ntmps296
 go_wp2_with fail
 refine HLI.out.mono ?_
 rintro e w2 ⟨l,b2,f2,⟨v2,rfl,ho2⟩,hi2,hl2,hs2,hg2,hf2⟩
 have HO2:=hidden ho2
 have HI2:=hidden hi2
 have HS2:=hidden hs2
 have HG2:=hidden hg2
 have hb2:Below w.heap.size w w2:=(below_alloc w _).trans (hf2.below (Nat.le_refl _) (by rw [World.size_alloc];omega))
 have HB2:=hidden hb2
 have hz2:=hb2.size
 have hlt2:=hs2.lt
 clear ho2 hi2 hs2 hg2 hf2 hb2
 go_wp2_with fail
 refine (end_any HS2.out).mono ?_
 rintro e w3 ⟨rfl,hs3,hf3⟩
 have hb3:Below w.heap.size w w3:=HB2.out.trans (hf3.below (Nat.le_refl _) hz2)
 have HO3:=hidden (HO2.out.fr hf3 (by rw [World.size_alloc];omega))
 have HB3:=hidden hb3
 have hz3:=hb3.size
 have HG3:Hid ((orf f2 (if b2.length=0 then 0 else 32)=0->D=if encC c l=t then .ok (l,[]) else .error 40)/\(orf f2 (if b2.length=0 then 0 else 32)≠0->D=.error (orf f2 (if b2.length=0 then 0 else 32)))):=hidden (by
  obtain ⟨q1,q2⟩:=HG2.out
  by_cases hf:f2=0
  ·subst hf
   rw [orf_zero]
   have q3:=q1 rfl
   unfold fin at q3
   by_cases hbl:b2.length=0
   ·rw [if_pos hbl] at q3 ⊢
    exact ⟨fun _=>q3,fun e=>absurd rfl e⟩
   ·rw [if_neg hbl] at q3 ⊢
    exact ⟨fun e=>by omega,fun _=>q3⟩
  ·rw [orf_keep hf]
   exact ⟨fun e=>absurd e hf,q2⟩)
 generalize orf f2 (if b2.length=0 then 0 else 32)=f3 at *
 have HS3:=hidden hs3
 obtain ⟨G,O,C,k0,k1,k2,k3,k4,k5,k6,k7,k8,k9⟩:=hs3.cells
 clear hs3 hf3 hb3 k0 k2 k3 k4 k5 k6 k7 k8 k9
 have HLO:=hidden (HO3.out.low (show w.heap.size<=(w.alloc (.cells #[.slice A t.length (cap-1),.int .i64 0] 333)).heap.size by rw [World.size_alloc];omega))
 by_cases hf0:((f3:Int)==0)=true
 ·have hf0':f3=0:=by simpa using hf0
  have hD:=HG3.out.1 hf0'
  subst hf0'
  have HWR:=hidden (written_any (HSB.out.kept HB3.out) H8.out hc HO3.out.sv (by omega) HI2.out)
  by_cases hw:encC c l=t
  ·rw [if_pos hw] at hD
   rw [decide_eq_true hw] at HWR
   have HR:=hidden (HOK.out l hD)
   clear hD hw hf0
   go_wp2_with fail
   refine HWR.out.mono ?_
   rintro e w4 ⟨rfl,hb4⟩
   obtain ⟨G',O',C',j0,j1,j2,j3,j4,j5,j6,j7,j8,j9⟩:=(HS3.out.kept hb4 HS3.out.lt).cells
   have HB4:=hidden (HB3.out.trans (hb4.mono hz3))
   have HO4:=hidden (HLO.out.kept hb4)
   clear hb4 j0 j2 j3 j4 j5 j6 j7 j8 j9 k1
   go_wp2_with fail
   go_ret2
   rw [HR.out]
   exact ⟨⟨_,rfl,HO4.out⟩,HB4.out⟩
  ·rw [if_neg hw] at hD
   rw [decide_eq_false hw] at HWR
   have HR:=hidden (HER.out 40 hD)
   clear hD hw hf0
   go_wp2_with fail
   refine HWR.out.mono ?_
   rintro e w4 ⟨rfl,hb4⟩
   have HS4:=hidden (HS3.out.kept hb4 HS3.out.lt)
   have HB4:=hidden (HB3.out.trans (hb4.mono hz3))
   have hz4:=HB4.out.size
   clear hb4 k1
   go_wp2_with fail
   refine (refuse_anyC HS4.out 40).mono ?_
   rintro e w5 ⟨rfl,hs5,hf5⟩
   rw [orf_zero] at hs5
   obtain ⟨G',O',C',j0,j1,j2,j3,j4,j5,j6,j7,j8,j9⟩:=hs5.cells
   have HB5:=hidden (HB4.out.trans (hf5.below (Nat.le_refl _) hz4))
   clear hs5 hf5 j0 j2 j3 j4 j5 j6 j7 j8 j9
   go_wp2_with fail
   go_quiet (fail)
   go_wp2_with fail
   go_ret2
   rw [HR.out]
   exact ⟨⟨_,rfl,OwnI.nil _ _⟩,below_drewN HB5.out _⟩
 ·have hff:((f3:Int)==0)=false:=by simpa using hf0
  have hnn:((f3:Int) != 0)=true:=by simpa using hf0
  have hD:=HG3.out.2 (fun e=>hf0 (by simp [e]))
  have HR:=hidden (HER.out f3 hD)
  clear hD hf0
  go_wp2_with fail
  go_quiet (fail)
  go_wp2_with fail
  go_ret2
  rw [HR.out]
  exact ⟨⟨_,rfl,OwnI.nil _ _⟩,below_drewN HB3.out _⟩
theorem read_any {w:World} {vb:Value} {b:List Nat} (hb:Sv w vb (vals .u8 b)) (h8:Bs b) (n:Int):Calls Tryz.prog 296 #[vb,.int .i64 n] w (ReadPost (readM b n) w):=by
 by_cases hn:0<=n/\n<=256
 ·cases b with
  | nil =>
   have e:readM [] n=([],30):=by unfold readM;rw [if_pos hn]
   rw [e]
   exact read_none hb n hn
  | cons c t =>
   by_cases hc:c<=4
   ·obtain ⟨m,rfl⟩:=Int.eq_ofNat_of_zero_le hn.1
    exact read_main hb h8 hc m (by omega)
   ·have e:readM (c::t) n=([],50):=by unfold readM;rw [if_pos hn];simp only;rw [if_pos (by omega)]
    rw [e]
    exact read_codec hb h8 (by omega) n hn
 ·have e:readM b n=([],1):=by unfold readM;rw [if_neg hn]
  rw [e]
  exact read_arg n hn
end Go.Proofs.YtpljdjmpamjkhaaGreatDoor
set_option linter.unusedVariables false
set_option linter.unusedSimpArgs false
set_option maxRecDepth 100000
namespace Go.Proofs.YtpljdjmpamjkhaaGreatDoor
open Go.RowKit Go.Lib
def SvK (W:World) (v:Value) (l:List Nat):Prop :=
 ∃ a cap,v=.slice a l.length cap/\l.length<=cap/\cap<=maxLen/\(a=none->cap=0) /\
  (0<l.length->∃ b off,a=some ⟨b,off,none⟩/\b<W.heap.size/\∀ j (h:j<l.length),W.cell? ⟨b,off+j,none⟩=some (.int .u8 (l[j]:Int)))
theorem SvK.kept {W W':World} {v:Value} {l:List Nat} (h:SvK W v l) (hb:Below W.heap.size W W'):SvK W' v l:=by
 obtain ⟨a,cap,rfl,h1,h2,h3,h4⟩:=h
 refine ⟨a,cap,rfl,h1,h2,h3,fun h0=>?_⟩
 obtain ⟨b,off,rfl,h5,h6⟩:=h4 h0
 exact ⟨b,off,rfl,Nat.lt_of_lt_of_le h5 hb.size,fun j hj=>(hb.cell (p:=⟨b,off+j,none⟩) h5).trans (h6 j hj)⟩
theorem SvK.of_own {W:World} {B e n:Nat} {v:Value} {l:List Nat} (h:W.ownsRow B e 1 v n (vals .u8 l)):SvK W v l:=by
 have hl:l.length=n:=by have:=h.1;simpa [vals] using this
 obtain ⟨_,h1⟩:=id h
 rcases h1 with ⟨rfl,rfl⟩ | ⟨g,cap,cur,rfl,hb,hg,h4,h5,_⟩
 ·exact ⟨none,0,by rw [hl],by omega,by unfold maxLen;omega,fun _=>rfl,fun h0=>by omega⟩
 ·refine ⟨_,cap,by rw [hl],by omega,h5,fun h=>(by cases h),fun _=>⟨g,0,rfl,(Array.getElem?_eq_some_iff.1 hg).1,fun j hj=>?_⟩⟩
  have:=h.cells (g:=g) rfl j _ (vals_get hj)
  rw [add0] at this
  rwa [Nat.zero_add]
theorem SvK.form {W:World} {v:Value} {l:List Nat} (h:SvK W v l):∃ a cap,v=.slice a l.length cap/\l.length<=cap/\cap<=maxLen:=by
 obtain ⟨a,cap,h0,h1,h2,_⟩:=h
 exact ⟨a,cap,h0,h1,h2⟩
theorem SvK.take {W:World} {a:Option Addr} {n cap:Nat} {l:List Nat} (h:SvK W (.slice a n cap) l) {k:Nat} (hk:k<=l.length):SvK W (.slice a k cap) (l.take k):=by
 obtain ⟨a',c,h1,h2,h3,h4,h5⟩:=h
 simp only [Value.slice.injEq] at h1
 obtain ⟨rfl,_,rfl⟩:=h1
 have hl:(l.take k).length=k:=by rw [List.length_take];omega
 refine ⟨_,cap,by rw [hl],by omega,h3,h4,fun h0=>?_⟩
 obtain ⟨b',off',h6,h7,h8⟩:=h5 (by omega)
 refine ⟨b',off',h6,h7,fun j hj=>?_⟩
 rw [h8 j (by omega),List.getElem_take]
theorem SvK.conv {W:World} {v:Value} {l:List Nat} (h:SvK W v l) (h8:Bs l):(convert 30 9 v).run Tryz.prog W=.ok (txt l) W:=by
 obtain ⟨a,cap,rfl,h1,h2,_,h3⟩:=h
 rcases Nat.eq_zero_or_pos l.length with h0 | hp
 ·obtain rfl:l=[]:=List.eq_nil_of_length_eq_zero h0
  first
   | exact run_convert_bytes_back_empty W 30 9 5 a cap Tryz.underlying30 Tryz.underlying5 Tryz.underlying9
   | (cases a<;>rfl)
   | (cases a<;>kernel_rfl)
 ·obtain ⟨b,off,rfl,h4,h5⟩:=h3 hp
  have:=run_convert_bytes_back W 30 9 5 ⟨b,off,none⟩ cap (l.map Nat.toUInt8) Tryz.underlying30 Tryz.underlying5 Tryz.underlying9 (fun j hj=>by
   have hj':j<l.length:=by simpa using hj
   rw [addj,h5 j hj']
   have h9:=h8 l[j] (List.getElem_mem hj')
   congr 2
   simp [Nat.mod_eq_of_lt h9])
  rw [List.length_map] at this
  exact this
theorem toU8_inj {x y:Nat} (hx:x<256) (hy:y<256) (h:x.toUInt8=y.toUInt8):x=y:=by
 have:=congrArg UInt8.toNat h
 simpa [Nat.mod_eq_of_lt hx,Nat.mod_eq_of_lt hy] using this
theorem map_u8_inj:∀ {a b:List Nat},Bs a->Bs b->a.map Nat.toUInt8=b.map Nat.toUInt8->a=b
 | [],[],_,_,_=>rfl
 | [],_::_,_,_,h=>by simp at h
 | _::_,[],_,_,h=>by simp at h
 | x::a,y::b,ha,hb,h=>by
  simp only [List.map_cons,List.cons.injEq] at h
  rw [toU8_inj (ha x (by simp)) (hb y (by simp)) h.1,map_u8_inj (fun z hz=>ha z (by simp [hz])) (fun z hz=>hb z (by simp [hz])) h.2]
theorem OwnB.svK {W:World} {B:Nat} {v:Value} {bs:List Nat} (h:OwnB W B v bs):SvK W v bs:=SvK.of_own h
theorem OwnB.form {W:World} {B:Nat} {v:Value} {bs:List Nat} (h:OwnB W B v bs) (hp:0<bs.length):∃ g cap,v=.slice (some ⟨g,0,none⟩) bs.length cap/\B<=g/\g<W.heap.size:=by
 obtain ⟨hl,h1⟩:=id h
 rcases h1 with ⟨rfl,h0⟩ | ⟨g,cap,cur,rfl,hb,hg,h4⟩
 ·omega
 ·exact ⟨g,cap,rfl,hb,(Array.getElem?_eq_some_iff.1 hg).1⟩
theorem OwnB.at {W:World} {B g n cap:Nat} {bs:List Nat} (h:OwnB W B (.slice (some ⟨g,0,none⟩) n cap) bs) {j:Nat} (hj:j<bs.length):W.cell? ⟨g,j,none⟩=some (.int .u8 (bs[j]:Int))/\W.frozen? ⟨g,j,none⟩=false:=by
 have hn:n=bs.length:=by
  obtain ⟨a,cap,h1,_⟩:=h.svK
  simp only [Value.slice.injEq] at h1
  exact h1.2.1
 subst hn
 unfold OwnB at h
 exact ⟨(h.cellAt j (by omega)).trans (vals_get hj),h.frozenAt j⟩
theorem OwnB.stored {W:World} {B g n cap:Nat} {bs:List Nat} (h:OwnB W B (.slice (some ⟨g,0,none⟩) n cap) bs) (j c:Nat):OwnB (W.setCell ⟨g,j,none⟩ (.int .u8 (c:Int))) B (.slice (some ⟨g,0,none⟩) n cap) (bs.set j c):=by
 have hn:n=bs.length:=by
  obtain ⟨a,cap,h1,_⟩:=h.svK
  simp only [Value.slice.injEq] at h1
  exact h1.2.1
 subst hn
 unfold OwnB at *
 have:=(h.stored j (.int .u8 (c:Int))).1
 rw [vals_set] at this
 rw [List.length_set]
 exact this
theorem wpList_append_svK {w:World} {ops:Array Oper} {rest:List Oper} {o:Oper} {a:Act} {Q:Exit->Act->World->Prop} (hgd:o.guard=none) (s x:Operand)
  (ho:o.op=.call { callee:=.builtin .append,args:=#[s,x],argTypes:=#[30,30] })
  (base:Nat) (v vx:Value) (l0 l:List Nat) (hs:a.eval s=v) (hown:OwnB w base v l0) (hx:a.eval x=vx) (hsl:SvK w vx l)
  (hbytes:l0.length+l.length<=140737488355328) (hbase:base<=w.heap.size)
  (h:∀ v' w',OwnB w' base v' (l0++l)->Below base w w'->wpList Tryz.prog ops Q rest (a.put o.dst v') w') :
  wpList Tryz.prog ops Q (o::rest) a w:=by
 obtain ⟨i0,hi,hz0,hz1',hz2⟩:=info_parts info5
 unfold OwnB at *
 obtain ⟨ad,cap,rfl,h1,h2,h3,h4⟩:=hsl
 cases ad with
 | none =>
  have hc:=h3 rfl
  subst hc
  have hl:l=[]:=List.eq_nil_of_length_eq_zero (by omega)
  subst hl
  refine wpList_plain hgd fun K hK=>?_
  have hr:=run_append_owned_none (P:=Tryz.prog) (w:=w) base 30 o.type 5 i0 1 Tryz.underlying30 hi v l0.length (vals .u8 l0) hown
  unfold Oper.wp execOp
  simp only [ho,resolve,invoke,builtin,Sem.run_bind,Sem.run_pure,Result.andThen_ok,List.map_toArray,List.map_cons,List.map_nil,hs,hx,hr,List.length_nil]
  refine hK _ _ (h v w ?_ (Below.refl _ _))
  rw [List.append_nil]
  exact hown
 | some ad =>
  refine wpList_append_own_at (w:=w) hgd s x 30 ho base 5 i0 (.int .u8 0) 1 1 Tryz.underlying30 hi hz0 hz1' hz2 rfl (by decide) v l0.length (vals .u8 l0) hs hown ad l.length cap (vals .u8 l) hx (by rw [vals_length];omega) ?_ (vals_oneCell _ _) (by unfold maxLen;omega) (by omega) hbase ?_
  ·intro j u hu
   have hj:j<l.length:=by
    have:=(List.getElem?_eq_some_iff.1 hu).1
    rwa [vals_length] at this
   obtain ⟨b,off,h5,_,h6⟩:=h4 (by omega)
   cases h5
   rw [addj,h6 j hj]
   rw [vals_get hj] at hu
   exact hu
  ·intro v' w' o1 g1 _ _
   refine h v' w' ?_ ((Below.refl base w).grown g1 hbase (fun k hk=>(hown.lt k hk).1))
   rw [vals_append,List.length_append]
   exact o1
def Tab (W:World):Prop:=0<W.heap.size/\∀ i:Nat,i<16->W.cell? ⟨0,i,none⟩=some (.int .u32 ((stpN 4 i:Nat):Int))
theorem Tab.kept {W W':World} (h:Tab W) (hb:Below W.heap.size W W'):Tab W' :=
 ⟨Nat.lt_of_lt_of_le h.1 hb.size,fun i hi=>(hb.cell (p:=⟨0,i,none⟩) h.1).trans (h.2 i hi)⟩
end Go.Proofs.YtpljdjmpamjkhaaGreatDoor
set_option linter.unusedVariables false
set_option linter.unusedSimpArgs false
set_option maxRecDepth 100000
set_option maxHeartbeats 4000000
namespace Go.Proofs.YtpljdjmpamjkhaaGreatDoor
open Go.RowKit Go.Lib
theorem drop_any {w:World} (ht:Tab w) (s:Nat) (hs:s<4294967296):Calls Tryz.prog 165 #[.int .u32 (s:Int)] w fun e w'=>e=.returned (.int .u32 ((stpN 4 s:Nat):Int))/\w'=w:=by
 have hc:=ht.2 (s % 16) (Nat.mod_lt _ (by omega))
 have hlk:=stpN_look 4 s
 have hlt:=stpN_lt 4 (c:=s % 16) (by omega)
 have hx:=u32_xor_nat (s / 16) (stpN 4 (s % 16)) (by omega) hlt
 rw [Nat.xor_comm,← hlk] at hx
 clear hlk
 obtain ⟨r,hr⟩:∃ r,s % 16=r:=⟨_,rfl⟩
 obtain ⟨q,hq⟩:∃ q,s / 16=q:=⟨_,rfl⟩
 have hr16:r<16:=by omega
 have ha:bits .and .u32 (s:Int) 15=(r:Int):=by
  have:=u32_and_nat s 15 hs (by omega)
  rw [nat_mask4,hr] at this
  exact this
 have hq2:(s:Int) / 16=(q:Int):=by omega
 rw [hr] at hc hx
 rw [hq] at hx
 generalize stpN 4 r=t at *
 generalize stpN 4 s=u at *
 clear hr hq
 go_enter Tryz.func165,Tryz.ntmps165
 go_wp2_with fail
 go_ret
 exact ⟨rfl,rfl⟩
theorem take_run {c:Nat} {l:List Nat} {k:Nat} (h:k<l.length):run c (l.take (k+1))=byt (run c (l.take k)) l[k]:=by
 rw [List.take_succ_eq_append_getElem h,run_snoc]
theorem Bs.get {l:List Nat} (h:Bs l) {k:Nat} (hk:k<l.length):l[k]<256:=h _ (List.getElem_mem hk)
theorem Bs.le4 (s:Nat):Bs (le4 s):=le4_bytes s
theorem Bs.seal {b:List Nat} (h:Bs b):Bs (sealM b):=h.append (Bs.le4 _)
theorem more_any {w:World} {v:Value} {l:List Nat} (ht:Tab w) (hs:SvK w v l) (h8:Bs l) (c:Nat) (hc:c<4294967296) :
  Calls Tryz.prog 118 #[.int .u32 (c:Int),v] w fun e w'=>e=.returned (.int .u32 ((crcM c l:Nat):Int))/\w'=w:=by
 obtain ⟨a,cap,rfl,h1,h2,_,hcl⟩:=hs
 have hm2:l.length<=9223372036854775807:=by unfold maxLen at h2;omega
 have HC:=hidden hcl
 have H8:=hidden h8
 have HT:=hidden ht
 have hx0:bits .xor .u32 IntKind.u32.max (c:Int)=((c ^^^ 4294967295:Nat):Int):=by
  have:=u32_xor_nat 4294967295 c (by omega) hc
  rw [Nat.xor_comm] at this
  exact this
 have hs0:c ^^^ 4294967295<4294967296:=xor32_lt hc (by omega)
 have HE:Hid (crcM c l=run (c ^^^ 4294967295) l ^^^ 4294967295):=hidden rfl
 have HE:=HE
 generalize crcM c l=R at *
 generalize c ^^^ 4294967295=s0 at *
 clear hcl h8 ht h1 h2
 go_enter Tryz.func118,Tryz.ntmps118
 go_wp2_with fail
 go_loopw [5,12] (fun st i w'=>w'=w/\∃ k:Nat,k<=l.length/\i=.int .i64 (k:Int)/\st=.int .u32 ((run s0 (l.take k):Nat):Int)) (fun _ i _=>l.length-(intOf i).toNat)
 case atStart=>exact ⟨rfl,0,by omega,rfl,rfl⟩
 case round =>
  obtain ⟨rfl,k,hk,rfl,rfl⟩:=hrel
  by_cases hlt:k<l.length
  ·obtain ⟨b,off,rfl,hb,hcell⟩:=HC.out (by omega)
   have hck:=hcell k hlt
   have hx8:=H8.out.get hlt
   have hsl:run s0 (l.take k)<4294967296:=run_lt hs0 (H8.out.take k)
   have HN:Hid (run s0 (l.take (k+1))=stpN 4 (stpN 4 (run s0 (l.take k) ^^^ l[k]))):=by
    show _=_
    rw [take_run hlt]
    exact stpN_add 4 4 _
   clear hcell
   generalize l[k]=x at *
   generalize run s0 (l.take k)=s at *
   have hxx:=u32_xor_nat s x hsl (by omega)
   have hyl:s ^^^ x<4294967296:=xor32_lt hsl (by omega)
   generalize s ^^^ x=y at *
   have hy1:stpN 4 y<4294967296:=stpN_lt 4 hyl
   go_wp2_with fail
   refine (drop_any HT.out y hyl).mono ?_
   rintro e w1 ⟨rfl,rfl⟩
   generalize stpN 4 y=y1 at *
   go_wp2_with fail
   refine (drop_any HT.out y1 hy1).mono ?_
   rintro e w2 ⟨rfl,rfl⟩
   generalize stpN 4 y1=y2 at *
   go_wp2_with fail
   go_roundw
   case rel=>exact ⟨trivial,k+1,by omega,by go_num,by rw [HN.out]⟩
   case measure=>simp [intOf];omega
  ·obtain rfl:k=l.length:=by omega
   rw [List.take_length]
   have hsl:run s0 l<4294967296:=run_lt hs0 H8.out
   have hxx:=u32_xor_nat 4294967295 (run s0 l) (by omega) hsl
   rw [Nat.xor_comm,← HE.out] at hxx
   have hxx':bits .xor .u32 IntKind.u32.max ((run s0 l:Nat):Int)=(R:Int):=hxx
   clear hxx
   generalize run s0 l=s at *
   go_wp2_with fail
   go_ret
   exact ⟨rfl,rfl⟩
theorem of_anyK {w:World} {v:Value} {l:List Nat} (ht:Tab w) (hs:SvK w v l) (h8:Bs l) :
  Calls Tryz.prog 79 #[v] w fun e w'=>e=.returned (.int .u32 ((crcM 0 l:Nat):Int))/\w'=w:=by
 have HM:=hidden (more_any ht hs h8 0 (by omega))
 obtain ⟨a,cap,rfl,h1,h2⟩:=hs.form
 clear hs h8 ht
 generalize crcM 0 l=R at *
 go_enter Tryz.func79,Tryz.ntmps79
 go_wp2_with fail
 refine HM.out.mono ?_
 rintro e w1 ⟨rfl,rfl⟩
 go_wp2_with fail
 go_ret
 exact ⟨rfl,rfl⟩
end Go.Proofs.YtpljdjmpamjkhaaGreatDoor
set_option linter.unusedVariables false
set_option linter.unusedSimpArgs false
set_option maxRecDepth 100000
set_option maxHeartbeats 4000000
namespace Go.Proofs.YtpljdjmpamjkhaaGreatDoor
open Go.RowKit Go.Lib
theorem u8_of (x:Nat):IntKind.u8.wrap ((x:Nat):Int)=((x % 256:Nat):Int):=by rw [IntKind.wrap_u8];omega
theorem seal_any {w:World} {v:Value} {l:List Nat} (ht:Tab w) (hs:SvK w v l) (h8:Bs l) (hl:l.length<=100000000) :
  Calls Tryz.prog 40 #[v] w (Told w (sealM l)):=by
 have HO:=hidden (of_anyK ht hs h8)
 have HS:=hidden hs
 have HE:Hid (sealM l=l++le4 (crcM 0 l)):=hidden rfl
 have hc:=crcM_lt (c:=0) (by omega) h8
 obtain ⟨a,cap,rfl,h1,h2⟩:=hs.form
 clear hs h8 ht h1 h2
 generalize crcM 0 l=c at *
 have hq1:(c:Int) / 256=((c / 256:Nat):Int):=by omega
 have hq2:(c:Int) / 65536=((c / 65536:Nat):Int):=by omega
 have hq3:(c:Int) / 16777216=((c / 16777216:Nat):Int):=by omega
 have HD:Hid (le4 c=[c % 256,c / 256 % 256,c / 65536 % 256,c / 16777216 % 256]):=hidden rfl
 have g0:=u8_of c
 have g1:=u8_of (c / 256)
 have g2:=u8_of (c / 65536)
 have g3:=u8_of (c / 16777216)
 generalize c / 256=c1 at *
 generalize c / 65536=c2 at *
 generalize c / 16777216=c3 at *
 generalize c % 256=d0 at *
 generalize c1 % 256=d1 at *
 generalize c2 % 256=d2 at *
 generalize c3 % 256=d3 at *
 obtain ⟨i0,hi,hz0,hz1',hz2⟩:=info_parts info5
 go_enter Tryz.func40,Tryz.ntmps40
 go_wp2_with fail
 refine HO.out.mono ?_
 rintro e w1 ⟨rfl,rfl⟩
 go_wp2_with (first | (refine wpList_make_own _ rfl _ _ 30 rfl w1.heap.size 5 i0 (.int .u8 0) 1 Tryz.underlying30 hi hz0 hz1' .i64 .i64 _ (l.length+4) rfl rfl ?m1 ?m2 ?m3 ?m4 ?_))
 case m1=>first | rfl | omega
 case m2=>rw [hz2];omega
 case m3=>unfold maxLen;omega
 case m4=>omega
 intro w2 ho2 hg2
 have hb2:Below w1.heap.size w1 w2:=(Below.refl _ _).grown hg2 (Nat.le_refl _) (fun k hk=>by cases hk)
 have ho2':OwnB w2 w1.heap.size (.slice (some ⟨w1.heap.size,0,none⟩) 0 (l.length+4)) []:=ho2
 have HO2:=hidden ho2'
 have HB2:=hidden hb2
 have HS2:=hidden (HS.out.kept hb2)
 have hsz:=hb2.size
 clear ho2 hg2 hb2 ho2'
 go_wp2_with (first | (at_builtin;refine wpList_append_svK rfl _ _ rfl w1.heap.size _ _ [] l rfl HO2.out rfl HS2.out ?c1 ?c2 ?_))
 case c1=>simp;omega
 case c2=>omega
 intro v3 w3 o3 hb3
 have HO3:=hidden o3
 have HB3:=hidden (HB2.out.trans hb3)
 have hsz3:=hb3.size
 clear o3 hb3
 have HL3:Hid (OwnB (w3.alloc (.cells #[.int .u8 (d0:Int),.int .u8 (d1:Int),.int .u8 (d2:Int),.int .u8 (d3:Int)] 5)) w3.heap.size (.slice (some ⟨w3.heap.size,0,none⟩) 4 4) [d0,d1,d2,d3]):=hidden (lit_bytes w3 [d0,d1,d2,d3] (by unfold maxLen;simp))
 have HO4:=hidden (HO3.out.kept (below_alloc w3 (.cells #[.int .u8 (d0:Int),.int .u8 (d1:Int),.int .u8 (d2:Int),.int .u8 (d3:Int)] 5)))
 go_wp2_with (first | (at_builtin;refine wpList_append_svK rfl _ _ rfl w1.heap.size _ _ ([]++l) [d0,d1,d2,d3] rfl ?q1 rfl ?q2 ?c3 ?c4 ?_))
 case q1=>exact HO4.out
 case q2=>exact HL3.out.svK
 case c3=>simp;omega
 case c4=>rw [World.size_alloc];omega
 intro v5 w5 o5 hb5
 try rw [List.nil_append] at o5
 rw [← HD.out,← HE.out] at o5
 have HO5:=hidden o5
 have HB5:=hidden (HB3.out.trans (((below_alloc w3 (.cells #[.int .u8 (d0:Int),.int .u8 (d1:Int),.int .u8 (d2:Int),.int .u8 (d3:Int)] 5)).mono (by omega)).trans hb5))
 clear o5 hb5
 go_wp2_with fail
 go_ret
 exact ⟨⟨_,rfl,HO5.out⟩,HB5.out⟩
theorem txt_beq {a b:List Nat} (ha:Bs a) (hb:Bs b):(a.map Nat.toUInt8==b.map Nat.toUInt8)=decide (a=b):=by
 rw [Bool.eq_iff_iff]
 simp only [beq_iff_eq,decide_eq_true_eq]
 exact ⟨map_u8_inj ha hb,fun h=>by rw [h]⟩
theorem equal_anyK {w:World} {v u:Value} {a b:List Nat} (ha:SvK w v a) (hb:SvK w u b) (ha8:Bs a) (hb8:Bs b) :
  Calls Tryz.prog 92 #[v,u] w fun e w'=>e=.returned (.bool (decide (a=b)))/\w'=w:=by
 have hc1:=ha.conv ha8
 have hc2:=hb.conv hb8
 have HE:=hidden (txt_beq ha8 hb8)
 obtain ⟨a1,cap1,rfl,_,_⟩:=ha.form
 obtain ⟨a2,cap2,rfl,_,_⟩:=hb.form
 unfold txt at hc1 hc2
 generalize a.map Nat.toUInt8=x at *
 generalize b.map Nat.toUInt8=y at *
 generalize decide (a=b)=t at *
 clear ha hb ha8 hb8
 go_enter Tryz.func92,Tryz.ntmps92
 go_wp2_with fail
 go_ret
 refine ⟨?_,rfl⟩
 rw [← HE.out]
 simp
theorem clone_anyK {w:World} {v:Value} {l:List Nat} (hs:SvK w v l) (hl:l.length<=100000000) :
  Calls Tryz.prog 93 #[v] w (Told w l):=by
 have HS:=hidden hs
 obtain ⟨ad,cap,rfl,h1,h2,h3,_⟩:=hs
 cases ad with
 | none =>
  have hc:=h3 rfl
  subst hc
  have hl0:l=[]:=List.eq_nil_of_length_eq_zero (by omega)
  subst hl0
  have hq:(binOp .eql 30 (.slice none 0 0) (.slice none 0 0)).run Tryz.prog w=.ok (.bool true) w:=run_eql_slice_nil w 30 5 none 0 0 0 0 Tryz.underlying30
  go_enter Tryz.func93,Tryz.ntmps93
  go_wp2_with fail
  go_ret
  exact ⟨⟨_,rfl,OwnB.nil _ _⟩,Below.refl _ _⟩
 | some ad =>
  have HN:=hidden (lit_none w)
  have HS2:=hidden (HS.out.kept (below_alloc w (.cells #[] 5)))
  clear h3
  have hq:(binOp .eql 30 (.slice (some ad) l.length cap) (.slice none 0 0)).run Tryz.prog w=.ok (.bool false) w:=run_eql_slice_nil w 30 5 (some ad) l.length cap 0 0 Tryz.underlying30
  go_enter Tryz.func93,Tryz.ntmps93
  go_wp2_with (first | (at_builtin;refine wpList_append_svK rfl _ _ rfl w.heap.size _ _ [] l rfl ?q1 rfl ?q2 ?c1 ?c2 ?_))
  case q1=>exact HN.out
  case q2=>exact HS2.out
  case c1=>simp;omega
  case c2=>rw [World.size_alloc];omega
  intro v3 w3 o3 hb3
  have HO3:=hidden o3
  have HB3:=hidden ((below_alloc w (.cells #[] 5)).trans hb3)
  clear o3 hb3
  go_wp2_with fail
  go_ret
  exact ⟨⟨_,rfl,HO3.out⟩,HB3.out⟩
def Opened (w:World) (o:Option (List Nat)) (e:Ending) (w':World):Prop:=(∃ v,e=.returned (.tuple #[v,.bool o.isSome])/\OwnB w' w.heap.size v (o.getD []))/\Below w.heap.size w w'
theorem openM_short {l:List Nat} (h:l.length<4):openM l=none:=by
 unfold openM
 rw [if_neg (by omega)]
theorem open_any {w:World} {v:Value} {l:List Nat} (ht:Tab w) (hs:SvK w v l) (h8:Bs l) (hl:l.length<=100000000) :
  Calls Tryz.prog 51 #[v] w (Opened w (openM l)):=by
 have HS:=hidden hs
 obtain ⟨a,cap,rfl,h1,h2⟩:=hs.form
 have hm2:l.length<=9223372036854775807:=by omega
 by_cases h4:l.length<4
 ·rw [openM_short h4]
  have hlt:(l.length:Int)-4<0:=by omega
  clear hs h8 ht h1 h2
  go_enter Tryz.func51,Tryz.ntmps51
  go_wp2_with fail
  go_ret2
  exact ⟨⟨_,rfl,OwnB.nil _ _⟩,Below.refl _ _⟩
 ·obtain ⟨n,hn⟩:∃ n,l.length=n+4:=⟨l.length-4,by omega⟩
  have hn0:¬ (n:Int)<0:=by omega
  have hkn:n<=l.length:=by omega
  have hA:=hs.take hkn
  have HA:=hidden hA
  have H8:=hidden h8
  have H8t:=hidden (h8.take n)
  have HSE:=hidden (seal_any ht hA (h8.take n) (by rw [List.length_take];omega))
  have HOP:Hid (openM l=if sealM (l.take n)=l then some (l.take n) else none):=by
   show _=_
   unfold openM
   rw [hn,Nat.add_sub_cancel]
   simp
  have hle:(l.length:Int)-4=(n:Int):=by omega
  have hlen:(l.take n).length<=100000000:=by rw [List.length_take];omega
  have hncap:n<=cap:=by omega
  rw [hn] at HS
  rw [hn]
  clear hs h8 ht h1 h2 hA hm2
  have H8s:=hidden H8t.out.seal
  generalize openM l=R at *
  generalize l.take n=m at *
  go_enter Tryz.func51,Tryz.ntmps51
  go_wp2_with fail
  refine HSE.out.mono ?_
  rintro e w1 ⟨⟨v1,rfl,o1⟩,hb1⟩
  have HE1:=hidden (equal_anyK (HS.out.kept hb1) o1.svK H8.out H8s.out)
  have HA1:=hidden (HA.out.kept hb1)
  have HB1:=hidden hb1
  clear o1 hb1
  by_cases hyes:sealM m=l
  ·rw [hyes,decide_eq_true rfl] at HE1
   have HR:Hid (R=some m):=by show _=_;rw [HOP.out,if_pos hyes]
   clear hyes HOP H8s
   go_wp2_with fail
   refine HE1.out.mono ?_
   rintro e w2 ⟨rfl,rfl⟩
   go_wp2_with fail
   refine (clone_anyK HA1.out hlen).mono ?_
   rintro e w3 ⟨⟨v3,rfl,o3⟩,hb3⟩
   have HO3:=hidden o3
   have HB3:=hidden hb3
   clear o3 hb3
   go_wp2_with fail
   go_ret2
   rw [HR.out]
   refine ⟨⟨_,rfl,?_⟩,below_then HB1.out HB3.out⟩
   exact HO3.out.low HB1.out.size
  ·rw [decide_eq_false (fun h=>hyes h.symm)] at HE1
   have HR:Hid (R=none):=by show _=_;rw [HOP.out,if_neg hyes]
   clear hyes HOP H8s
   go_wp2_with fail
   refine HE1.out.mono ?_
   rintro e w2 ⟨rfl,rfl⟩
   go_wp2_with fail
   go_ret2
   rw [HR.out]
   exact ⟨⟨_,rfl,OwnB.nil _ _⟩,HB1.out⟩
end Go.Proofs.YtpljdjmpamjkhaaGreatDoor
