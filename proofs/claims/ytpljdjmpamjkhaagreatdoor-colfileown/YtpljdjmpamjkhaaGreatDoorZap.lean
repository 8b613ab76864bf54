/- Values and cells as the program has them, over triples (kind, number, text); lists of them; the law's Row and Cells, the document's FixRow and SameRow. Fields as the program has them, lists of them, whoever made them; fields put behind fields. Contracts: ofFields, lastId. Contracts: the document's Named and has; ContainsFunc, IndexFunc and their closure, nameIsFree. Contracts: fault, Check, isFull, Clone, Add. -/
import Derived.Test.YtpljdjmpamjkhaaGreatDoorZad
import Derived.Test.YtpljdjmpamjkhaaGreatDoorZao
import Derived.Test.YtpljdjmpamjkhaaGreatDoorZah
import Derived.Test.YtpljdjmpamjkhaaGreatDoorZaf
set_option linter.unusedVariables false
set_option linter.unusedSimpArgs false
set_option maxRecDepth 100000
set_option maxHeartbeats 2000000
namespace Go.Proofs.YtpljdjmpamjkhaaGreatDoor
open Go.RowKit Go.Lib
theorem cellC_any {c:Nat×Int×List Nat} (h:Fine c) (w:World):Calls Tryz.prog 76 #[valC c] w fun e w'=>e=.returned (.agg #[.int .u8 (c.1:Int),.int .i64 c.2.1,.string (bytesT c.2.2)])/\Below w.heap.size w w':=lawCell_any h.val w
theorem cells_any {w:World} {v:Value} {l:List (Nat×Int×List Nat)} (hs:Sv w v (vvals l)) (hf:∀ c∈l,Fine c) (hl:l.length<=600) :
  Calls Tryz.prog 37 #[v] w fun e w'=>(∃ v',e=.returned v'/\OwnC w' w.heap.size v' l)/\Below w.heap.size w w':=by
 have HS:=hidden hs
 have HK:=hidden hf
 obtain ⟨a,cap,rfl,hcap,hcm⟩:=hs.form1
 rw [vvals_length] at *
 have hcm':cap<=9223372036854775807:=by unfold maxLen at hcm;omega
 clear hs hcm hf
 go_enter Tryz.func37,Tryz.ntmps37
 go_wp2_with fail
 go_loopw [3,4] (fun o i wr=>∃ j:Nat,j<=l.length/\i=.int .i64 (j:Int)/\OwnC wr w.heap.size o (l.take j)/\Below w.heap.size w wr) (fun _ i _=>l.length-(intOf i).toNat)
 case atStart=>exact ⟨0,by omega,rfl,OwnC.nil _ _,Below.refl _ _⟩
 case round =>
  obtain ⟨j,hj,rfl,hown,hbel⟩:=hrel
  have HO:=hidden hown
  have HB:=hidden hbel
  have hzr:=hbel.size
  clear hown hbel
  by_cases hlt:j<l.length
  ·obtain ⟨g,off,rfl,hg,hcell⟩:=(HS.out.kept HB.out).at1 (vvals_get hlt)
   have hlt':(j:Int)<(l.length:Int):=by omega
   have HNX:Hid (l.take (j+1)=l.take j++[l[j]]):=hidden (List.take_succ_eq_append_getElem hlt)
   have hlen':(l.take j).length<=100000:=by rw [List.length_take];omega
   have HVA:=hidden (cellC_any (HK.out l[j] (List.getElem_mem hlt)))
   generalize l[j]=fc at *
   generalize l.take j=LL at *
   generalize valC fc=vc at *
   go_wp2_with fail
   refine (HVA.out _).mono ?_
   rintro e w1 ⟨rfl,hb1⟩
   have HO1:=hidden (HO.out.kept hb1)
   have HB1:=hidden (HB.out.trans (hb1.mono hzr))
   have hz1:=hb1.size
   have HCN:=hidden (cell_new3 w1 (.int .u8 (fc.1:Int)) (.int .i64 fc.2.1) (.string (bytesT fc.2.2)) 52)
   clear hb1 hcell
   go_wp2_with (first | (at_builtin;refine wpList_append_c rfl _ _ rfl w.heap.size _ _ fc LL rfl (HO1.out.kept (below_one _ _)) rfl HCN.out.1 HCN.out.2.1 HCN.out.2.2 hlen' ?c2 ?_))
   case c2=>first | omega | (rw [World.size_alloc];omega)
   intro v' w5 o5 b5
   have HO5:=hidden o5
   have HB5:=hidden ((HB1.out.alloc (Nat.le_trans hzr hz1) _).trans b5)
   clear o5 b5
   go_wp2_with fail
   go_roundw
   case rel=>exact ⟨j+1,by omega,by go_num,by rw [HNX.out];exact HO5.out,HB5.out⟩
   case measure=>simp [intOf];omega
  ·obtain rfl:j=l.length:=by omega
   rw [List.take_length] at HO
   have hge:¬ ((l.length:Nat):Int)<(l.length:Int):=by omega
   go_wp2_with fail
   go_ret
   exact ⟨⟨_,rfl,HO.out⟩,HB.out⟩
theorem sameRow_any {w:World} {v1 v2:Value} {l m:List (Nat×Int×List Nat)} (h1:Sc w v1 l) (h2:Sc w v2 m) (hb1:∀ c∈l,Bs c.2.2) (hb2:∀ c∈m,Bs c.2.2) :
  Calls Tryz.prog 36 #[v1,v2] w fun e w'=>e=.returned (.bool (decide (l=m)))/\Below w.heap.size w w':=by
 have HS1:=hidden h1
 have HS2:=hidden h2
 have HB1:=hidden hb1
 have HB2:=hidden hb2
 obtain ⟨a,cap,rfl,hcap,hcm⟩:=h1.form
 obtain ⟨a2,cap2,rfl,hcap2,hcm2⟩:=h2.form
 have hcm':cap<=9223372036854775807:=by unfold maxLen at hcm;omega
 have hcm2':cap2<=9223372036854775807:=by unfold maxLen at hcm2;omega
 clear h1 h2 hb1 hb2 hcm hcm2
 by_cases hlen:l.length=m.length
 ·have hne:(((l.length:Nat):Int) != (m.length:Int))=false:=by simp [hlen]
  have HLEN:=hidden hlen
  clear hlen
  go_enter Tryz.func36,Tryz.ntmps36
  go_wp2_with fail
  go_loopw [5] (fun i wr=>∃ j:Nat,j<=l.length/\i=.int .i64 (j:Int)/\l.take j=m.take j/\Below w.heap.size w wr) (fun i _=>l.length-(intOf i).toNat)
  case atStart=>exact ⟨0,by omega,rfl,rfl,Below.refl _ _⟩
  case round =>
   obtain ⟨j,hj,rfl,hsame,hbel⟩:=hrel
   have HSM:=hidden hsame
   have HB:=hidden hbel
   clear hsame hbel
   by_cases hlt:j<l.length
   ·have hltm:j<m.length:=by have:=HLEN.out;omega
    obtain ⟨g,off,rfl,hg,c0,c1,c2⟩:=(HS1.out.kept HB.out).at hlt
    obtain ⟨g2,off2,rfl,hg2,d0,d1,d2⟩:=(HS2.out.kept HB.out).at hltm
    have hlt':(j:Int)<(l.length:Int):=by omega
    have hltm':(j:Int)<(m.length:Int):=by omega
    have HNX:=hidden (fun he=>take_succ_eq hlt hltm HSM.out he)
    have HNE:Hid (l[j]≠m[j]->decide (l=m)=false):=hidden (fun h=>decide_eq_false (fun e=>h (by subst e;rfl)))
    have HBC:=hidden (HB1.out l[j] (List.getElem_mem hlt))
    have HBD:=hidden (HB2.out m[j] (List.getElem_mem hltm))
    rw [txt_eq] at c2 d2
    generalize l[j]=c at *
    generalize m[j]=d at *
    obtain ⟨ck,cn,cs⟩:=c
    obtain ⟨dk,dn,ds⟩:=d
    simp only at *
    by_cases hk:ck=dk
    ·subst hk
     by_cases hn:cn=dn
     ·subst hn
      by_cases hs:cs=ds
      ·subst hs
       have HN':=hidden (HNX.out rfl)
       clear HNX HNE
       generalize bytesT cs=S at *
       go_wp2_with fail
       go_quiet (fail)
       go_wp2_with fail
       go_roundw
       case rel=>exact ⟨j+1,by omega,by go_num,HN'.out,HB.out.trans ⟨rfl,rfl,rfl,Nat.le_refl _,fun _ _=>rfl⟩⟩
       case measure=>simp [intOf];omega
      ·have HNE':=hidden (HNE.out (fun e=>hs (by simpa using e)))
       have hss:((bytesT cs).toList==(bytesT ds).toList)=false:=by
        rw [bytesT_toList,bytesT_toList]
        exact beq_eq_false_iff_ne.2 (fun e=>hs (by rw [← map_fwd HBC.out,← map_fwd HBD.out,e]))
       clear HNX HNE hs
       generalize bytesT cs=S at *
       generalize bytesT ds=T at *
       go_wp2_with fail
       go_quiet (fail)
       go_wp2_with fail
       go_ret
       rw [HNE'.out]
       exact ⟨rfl,HB.out.trans ⟨rfl,rfl,rfl,Nat.le_refl _,fun _ _=>rfl⟩⟩
     ·have HNE':=hidden (HNE.out (fun e=>hn (by have:=congrArg (fun t=>t.2.1) e;simpa using this)))
      have hnn:(cn==dn)=false:=beq_eq_false_iff_ne.2 hn
      clear HNX HNE hn
      generalize bytesT cs=S at *
      generalize bytesT ds=T at *
      go_wp2_with fail
      go_quiet (fail)
      go_wp2_with fail
      go_ret
      rw [HNE'.out]
      exact ⟨rfl,HB.out.trans ⟨rfl,rfl,rfl,Nat.le_refl _,fun _ _=>rfl⟩⟩
    ·have HNE':=hidden (HNE.out (fun e=>hk (by have:=congrArg (fun t=>t.1) e;simpa using this)))
     have hkk:((ck:Int)==(dk:Int))=false:=beq_eq_false_iff_ne.2 (by omega)
     clear HNX HNE hk
     generalize bytesT cs=S at *
     generalize bytesT ds=T at *
     go_wp2_with fail
     go_quiet (fail)
     go_wp2_with fail
     go_ret
     rw [HNE'.out]
     exact ⟨rfl,HB.out.trans ⟨rfl,rfl,rfl,Nat.le_refl _,fun _ _=>rfl⟩⟩
   ·obtain rfl:j=l.length:=by omega
    have HEQ:Hid (decide (l=m)=true):=hidden (decide_eq_true (by
     have:=HSM.out
     rw [List.take_length] at this
     rw [this,HLEN.out,List.take_length]))
    have hge:¬ ((l.length:Nat):Int)<(l.length:Int):=by omega
    go_wp2_with fail
    go_ret
    rw [HEQ.out]
    exact ⟨rfl,HB.out⟩
 ·have hne:(((l.length:Nat):Int) != (m.length:Int))=true:=by
   have:(l.length:Int)≠(m.length:Int):=by omega
   simpa using this
  have HEQ:Hid (decide (l=m)=false):=hidden (decide_eq_false (fun e=>hlen (by rw [e])))
  clear hlen
  go_enter Tryz.func36,Tryz.ntmps36
  go_wp2_with fail
  go_ret
  rw [HEQ.out]
  exact ⟨rfl,Below.refl _ _⟩
end Go.Proofs.YtpljdjmpamjkhaaGreatDoor
set_option linter.unusedVariables false
set_option linter.unusedSimpArgs false
namespace Go.Proofs.YtpljdjmpamjkhaaGreatDoor
open Go.RowKit Go.Lib
theorem ofFields_any (k:Nat) (w:World):Calls Tryz.prog 164 #[.int .u8 (k:Int)] w fun e w'=>e=.returned (.bool (kindB k))/\w'=w:=by
 by_cases h1:((k:Int)==1)=true
 ·have hk:k=1:=by have:(k:Int)=1:=(by simpa using h1);omega
  subst hk
  go_enter Tryz.func164,Tryz.ntmps164
  go_wp2
  go_ret
  exact ⟨rfl,rfl⟩
 ·by_cases h2:((k:Int)==2)=true
  ·have hk:k=2:=by have:(k:Int)=2:=(by simpa using h2);omega
   subst hk
   go_enter Tryz.func164,Tryz.ntmps164
   go_wp2
   go_ret
   exact ⟨rfl,rfl⟩
  ·by_cases h3:((k:Int)==3)=true
   ·have hk:k=3:=by have:(k:Int)=3:=(by simpa using h3);omega
    subst hk
    go_enter Tryz.func164,Tryz.ntmps164
    go_wp2
    go_ret
    exact ⟨rfl,rfl⟩
   ·have h1':((k:Int)==1)=false:=by simpa using h1
    have h2':((k:Int)==2)=false:=by simpa using h2
    have h3':((k:Int)==3)=false:=by simpa using h3
    have HN:Hid (kindB k=false):=hidden (by
     have a1:(k:Int)≠1:=by simpa using h1
     have a2:(k:Int)≠2:=by simpa using h2
     have a3:(k:Int)≠3:=by simpa using h3
     exact decide_eq_false (by omega))
    rw [HN.out]
    clear h1 h2 h3
    go_enter Tryz.func164,Tryz.ntmps164
    go_wp2
    go_ret
    exact ⟨rfl,rfl⟩
theorem lastId_any {w:World} {v:Value} {l:List Fd} (hs:Sf w v l):Calls Tryz.prog 162 #[v] w fun e w'=>e=.returned (.int .u32 (lastI l:Int))/\w'=w:=by
 obtain ⟨a,cap,rfl,hcap,hcm⟩:=hs.form
 by_cases hl:l.length=0
 ·have h0:((l.length:Int)==0)=true:=by simp [hl]
  have HN:Hid (lastI l=0):=hidden (by rw [List.eq_nil_of_length_eq_zero hl];rfl)
  clear hs hl
  go_enter Tryz.func162,Tryz.ntmps162
  go_wp2
  go_ret
  rw [HN.out]
  exact ⟨rfl,rfl⟩
 ·obtain ⟨b,off,rfl,hb,c0,c1,c2,c3⟩:=hs.at (k:=l.length-1) (by omega)
  have HN:=hidden (lastI_get (l:=l) (by omega))
  have h0:((l.length:Int)==0)=false:=by simp [hl]
  obtain ⟨m,hm⟩:∃ m,l.length=m+1:=⟨l.length-1,by omega⟩
  have hq:((l.length:Int)-1)=(m:Int):=by omega
  have e1:l.length-1=m:=by omega
  generalize hx:(l[l.length-1]'(by omega)).1=x at *
  rw [e1] at c0
  clear hs hx c1 c2 c3 e1 hl
  go_enter Tryz.func162,Tryz.ntmps162
  go_wp2
  go_ret
  rw [HN.out]
  exact ⟨rfl,rfl⟩
end Go.Proofs.YtpljdjmpamjkhaaGreatDoor
set_option linter.unusedVariables false
set_option linter.unusedSimpArgs false
set_option maxRecDepth 100000
set_option maxHeartbeats 4000000
namespace Go.Proofs.YtpljdjmpamjkhaaGreatDoor
open Go.RowKit Go.Lib
theorem sgn_cell {w:World} {B:Nat} {v:Value} {u:List (Nat×Nat)} (h:w.ownsRow B 3 1 v u.length (sgn u u.length)):∃ a cap,v=.slice a u.length cap/\u.length<=cap/\cap<=maxLen/\∀ k (hk:k<u.length),∃ g,a=some ⟨g,0,none⟩/\w.cell? ⟨g,k,none⟩=some (.int .i64 (u[k].1:Int)):=by
 obtain ⟨a,cap,rfl,h1,h2⟩:=own_slice h
 refine ⟨a,cap,rfl,h1,h2,fun k hk=>?_⟩
 obtain ⟨g,cap',e,_,_,hc⟩:=(vown_form h).2 (by omega)
 simp only [Value.slice.injEq] at e
 exact ⟨g,e.1,hc k _ (sgn_get hk)⟩
theorem good_at {u:List (Nat×Nat)} {k:Nat} (hk:k<u.length):goodFrom k (u.drop k)=(goodB k u[k].1 && goodFrom (k+1) (u.drop (k+1))):=by
 rw [List.drop_eq_getElem_cons hk,goodFrom_step]
theorem good_letter {k c:Nat} (h:97<=c/\c<=122∨c=95∨127<c):goodB k c=true:=by
 unfold goodB letterB
 simp
 omega
theorem good_digit {k c:Nat} (h1:48<=c) (h2:c<=57) (hk:0<k):goodB k c=true:=by
 unfold goodB digitB
 simp [hk]
 omega
theorem bad_zero {c:Nat} (h:¬ (97<=c/\c<=122∨c=95∨127<c)):goodB 0 c=false:=by
 unfold goodB letterB
 simp
 omega
theorem bad_other {k c:Nat} (h:¬ (97<=c/\c<=122∨c=95∨127<c)) (h2:¬ (48<=c/\c<=57)):goodB k c=false:=by
 unfold goodB letterB digitB
 simp
 omega
theorem named_any (s:ByteArray) (w:World):Calls Tryz.prog 49 #[.string s] w fun e w'=>e=.returned (.bool (named s))/\Below w.heap.size w w':=by
 by_cases h1:(s.size:Int)<1
 ·have HN:Hid (named s=false):=hidden (by unfold named;rw [decide_eq_false (by omega)];rfl)
  go_enter Tryz.func49,Tryz.ntmps49
  go_wp2_with fail
  go_ret
  rw [HN.out]
  exact ⟨rfl,Below.refl _ _⟩
 ·by_cases h2:(s.size:Int) > 16
  ·have HN:Hid (named s=false):=hidden (by unfold named;rw [decide_eq_false (by omega)];rfl)
   go_enter Tryz.func49,Tryz.ntmps49
   go_wp2_with fail
   go_ret
   rw [HN.out]
   exact ⟨rfl,Below.refl _ _⟩
  ·have HN:Hid (named s=(clean (lb s) && goodFrom 0 (V (lb s)))):=hidden (by unfold named;rw [decide_eq_true (by omega)];rfl)
   have HC:=hidden (signs_any s (by omega))
   have hV:=V_le (lb s)
   have hL:=lb_size s
   have hV16:(V (lb s)).length<=16:=by omega
   clear hV hL
   generalize clean (lb s)=cl at *
   generalize V (lb s)=u at *
   go_enter Tryz.func49,Tryz.ntmps49
   go_wp2_with fail
   refine (HC.out _).mono ?_
   rintro e w1 ⟨⟨va,vb,rfl,ho1,ho2⟩,hb1⟩
   obtain ⟨a,cap,rfl,hcap,hcm,hcell⟩:=sgn_cell ho1
   have HCE:=hidden hcell
   have HB1:=hidden hb1
   have hcm':cap<=9223372036854775807:=by unfold maxLen at hcm;omega
   clear ho1 ho2 hb1 hcell hcm HC
   go_wp2_with fail
   go_loopw [6] (fun i w'=>∃ k:Nat,w'=w1/\i=.int .i64 (k:Int)/\k<=u.length/\goodFrom 0 u=goodFrom k (u.drop k)) (fun i _=>u.length-(intOf i).toNat)
   case atStart=>exact ⟨0,rfl,rfl,by omega,rfl⟩
   case round =>
    obtain ⟨k,rfl,rfl,hk,hgd⟩:=hrel
    have HG:=hidden hgd
    clear hgd
    by_cases hlt:k<u.length
    ·obtain ⟨g,rfl,hc⟩:=HCE.out k hlt
     have HS:=hidden (HG.out.trans (good_at hlt))
     generalize u[k].1=c at *
     by_cases hA:97<=c/\c<=122∨c=95∨127<c
     ·have HK:=hidden (good_letter (k:=k) hA)
      have hd:(48<=(c:Int)/\(c:Int)<=57)∨(c:Int)<48∨¬ (c:Int)<=57:=by omega
      rcases hA with ⟨q1,q2⟩ | q1 | q1
      ·have t1:(c:Int)>=97:=by omega
       have t2:(c:Int)<=122:=by omega
       have t3:(c:Int)>=48:=by omega
       have t4:¬ (c:Int)<=57:=by omega
       clear hd
       go_wp2_with fail
       go_roundw
       case rel=>exact ⟨k+1,trivial,by go_num,by omega,by rw [HS.out,HK.out];rfl⟩
       case measure=>simp [intOf];omega
      ·have t0:((c:Int)==95)=true:=by simp;omega
       subst q1
       clear hd
       go_wp2_with fail
       go_roundw
       case rel=>exact ⟨k+1,trivial,by go_num,by omega,by rw [HS.out,HK.out];rfl⟩
       case measure=>simp [intOf];omega
      ·have t0:((c:Int)==95)=false:=by simp;omega
       have t1:(c:Int)>=97:=by omega
       have t2:¬ (c:Int)<=122:=by omega
       have t3:(c:Int)>=48:=by omega
       have t4:¬ (c:Int)<=57:=by omega
       have t5:(c:Int) > 127:=by omega
       clear hd
       go_wp2_with fail
       go_roundw
       case rel=>exact ⟨k+1,trivial,by go_num,by omega,by rw [HS.out,HK.out];rfl⟩
       case measure=>simp [intOf];omega
     ·have t0:((c:Int)==95)=false:=by simp;omega
      have t5:¬ (c:Int) > 127:=by omega
      by_cases hD:48<=c/\c<=57
      ·have t1:¬ (c:Int)>=97:=by omega
       have t3:(c:Int)>=48:=by omega
       have t4:(c:Int)<=57:=by omega
       by_cases hk0:k=0
       ·subst hk0
        have HK:=hidden (bad_zero hA)
        clear hA hD
        go_wp2_with fail
        go_ret
        refine ⟨?_,HB1.out⟩
        rw [HN.out,HS.out,HK.out]
        simp
       ·have HK:=hidden (good_digit (k:=k) hD.1 hD.2 (by omega))
        have hkp:(k:Int) > 0:=by omega
        have hkp2:0<k:=by omega
        clear hA hD hk0
        go_wp2_with fail
        go_roundw
        case rel=>exact ⟨k+1,trivial,by go_num,by omega,by rw [HS.out,HK.out];rfl⟩
        case measure=>simp [intOf];omega
      ·have HK:=hidden (bad_other (k:=k) hA hD)
       have hca:(c:Int)<48∨(57<(c:Int)/\(c:Int)<97)∨(122<(c:Int)):=by omega
       clear hA hD
       rcases hca with q | ⟨q,q'⟩ | q
       ·have t1:¬ (c:Int)>=97:=by omega
        have t3:¬ (c:Int)>=48:=by omega
        go_wp2_with fail
        go_ret
        refine ⟨?_,HB1.out⟩
        rw [HN.out,HS.out,HK.out]
        simp
       ·have t1:¬ (c:Int)>=97:=by omega
        have t3:(c:Int)>=48:=by omega
        have t4:¬ (c:Int)<=57:=by omega
        go_wp2_with fail
        go_ret
        refine ⟨?_,HB1.out⟩
        rw [HN.out,HS.out,HK.out]
        simp
       ·have t1:(c:Int)>=97:=by omega
        have t2:¬ (c:Int)<=122:=by omega
        have t3:(c:Int)>=48:=by omega
        have t4:¬ (c:Int)<=57:=by omega
        go_wp2_with fail
        go_ret
        refine ⟨?_,HB1.out⟩
        rw [HN.out,HS.out,HK.out]
        simp
    ·obtain rfl:k=u.length:=by omega
     have hge:¬ ((u.length:Nat):Int)<(u.length:Int):=by omega
     go_wp2_with fail
     go_ret
     refine ⟨?_,HB1.out⟩
     rw [HN.out,HG.out,List.drop_length]
     simp [goodFrom]
theorem has_any {w:World} {v:Value} {l:List Fd} (hs:Sf w v l) (n:ByteArray):Calls Tryz.prog 50 #[v,.string n] w fun e w'=>e=.returned (.bool (hasN l n))/\w'=w:=by
 have HS:=hidden hs
 obtain ⟨a,cap,rfl,hcap,hcm⟩:=hs.form
 clear hs
 go_enter Tryz.func50,Tryz.ntmps50
 go_wp2_with fail
 go_loopw [5] (fun i w'=>∃ k:Nat,w'=w/\i=.int .i64 (k:Int)/\k<=l.length/\hasN l n=hasN (l.drop k) n) (fun i _=>l.length-(intOf i).toNat)
 case atStart=>exact ⟨0,rfl,rfl,by omega,rfl⟩
 case round =>
  obtain ⟨k,rfl,rfl,hk,hgd⟩:=hrel
  have HG:=hidden hgd
  clear hgd
  by_cases hlt:k<l.length
  ·obtain ⟨b,off,rfl,hb,c0,c1,c2,c3⟩:=HS.out.at hlt
   have HT:=hidden (HG.out.trans (hasN_step (n:=n) hlt))
   have hlt':(k:Int)<(l.length:Int):=by omega
   generalize l[k].2.1=m at *
   have hse:=str_eq m n
   clear c0 c2 c3
   by_cases hmn:m=n
   ·subst hmn
    have hse':(m.toList==m.toList)=true:=by rw [str_eq];simp
    clear hse
    go_wp2_with fail
    go_ret
    refine ⟨?_,rfl⟩
    rw [HT.out]
    simp
   ·have hse':(m.toList==n.toList)=false:=by rw [str_eq,decide_eq_false hmn]
    have HM:=hidden (decide_eq_false hmn)
    clear hse hmn
    go_wp2_with fail
    go_roundw
    case rel=>exact ⟨k+1,trivial,by go_num,by omega,by rw [HT.out,HM.out];rfl⟩
    case measure=>simp [intOf];omega
  ·obtain rfl:k=l.length:=by omega
   have hge:¬ ((l.length:Nat):Int)<(l.length:Int):=by omega
   go_wp2_with fail
   go_ret
   refine ⟨?_,rfl⟩
   rw [HG.out,List.drop_length]
   rfl
theorem same_any {w:World} (f:Fd) (n:ByteArray) {B:Nat} (hB:B<w.heap.size) (hc:w.cell? ⟨B,0,none⟩=some (.string n)) :
  Calls Tryz.prog 199 #[aggF f,.pointer (some ⟨B,0,none⟩)] w fun e w'=>e=.returned (.bool (decide (f.2.1=n)))/\Below w.heap.size w w':=by
 unfold aggF
 have HE:=hidden (str_eq f.2.1 n)
 generalize f.2.1=m at *
 generalize f.1=x0 at *
 generalize f.2.2.1=x2 at *
 generalize f.2.2.2=x3 at *
 go_enter Tryz.func199,Tryz.ntmps199
 go_wp2_with fail
 go_ret
 refine ⟨?_,(Below.refl _ _).alloc (Nat.le_refl _) _⟩
 rw [← HE.out]
 rfl
theorem index_any {w:World} {v:Value} {l:List Fd} (hs:Sf w v l) (n:ByteArray) {B:Nat} (hB:B<w.heap.size) (hc:w.cell? ⟨B,0,none⟩=some (.string n)) :
  Calls Tryz.prog 225 #[v,.func (.func 199) #[] #[.pointer (some ⟨B,0,none⟩)]] w fun e w'=>(∃ z:Int,e=.returned (.int .i64 z)/\decide (z>=0)=hasN l n)/\Below w.heap.size w w':=by
 have HS:=hidden hs
 have HC:=hidden hc
 obtain ⟨a,cap,rfl,hcap,hcm⟩:=hs.form
 clear hs hc
 go_enter Tryz.func225,Tryz.ntmps225
 go_wp2_with fail
 go_loopw [8] (fun i w'=>∃ k:Nat,i=.int .i64 (k:Int)/\k<=l.length/\hasN l n=hasN (l.drop k) n/\Below w.heap.size w w') (fun i _=>l.length-(intOf i).toNat)
 case atStart=>exact ⟨0,rfl,by omega,rfl,Below.refl _ _⟩
 case round =>
  obtain ⟨k,rfl,hk,hgd,hbel⟩:=hrel
  have HG:=hidden hgd
  have HB:=hidden hbel
  have hzr:=hbel.size
  clear hgd hbel
  by_cases hlt:k<l.length
  ·obtain ⟨b,off,rfl,hb,c0,c1,c2,c3⟩:=(HS.out.kept HB.out).at hlt
   have HT:=hidden (HG.out.trans (hasN_step (n:=n) hlt))
   have hlt':(k:Int)<(l.length:Int):=by omega
   have HSA:=hidden (same_any l[k] n (w:=wr) (B:=B) (by omega) ((HB.out.cell (p:=⟨B,0,none⟩) hB).trans HC.out))
   unfold aggF at HSA
   generalize decide (l[k].2.1=n)=d at *
   generalize l[k].1=x0 at *
   generalize l[k].2.1=x1 at *
   generalize l[k].2.2.1=x2 at *
   generalize l[k].2.2.2=x3 at *
   go_wp2_with fail
   refine HSA.out.mono ?_
   rintro e w2 ⟨rfl,hb2⟩
   have HB2:=hidden (HB.out.trans (hb2.mono hzr))
   clear hb2 c0 c1 c2 c3
   cases d
   ·go_wp2_with fail
    go_roundw
    case rel=>exact ⟨k+1,by go_num,by omega,by rw [HT.out];rfl,HB2.out⟩
    case measure=>simp [intOf];omega
   ·go_wp2_with fail
    go_ret
    refine ⟨⟨_,rfl,?_⟩,HB2.out⟩
    rw [HT.out,Bool.true_or]
    simp
  ·obtain rfl:k=l.length:=by omega
   have hge:¬ ((l.length:Nat):Int)<(l.length:Int):=by omega
   go_wp2_with fail
   go_ret
   refine ⟨⟨_,rfl,?_⟩,HB.out⟩
   rw [HG.out,List.drop_length]
   rfl
theorem contains_any {w:World} {v:Value} {l:List Fd} (hs:Sf w v l) (n:ByteArray) {B:Nat} (hB:B<w.heap.size) (hc:w.cell? ⟨B,0,none⟩=some (.string n)) :
  Calls Tryz.prog 198 #[v,.func (.func 199) #[] #[.pointer (some ⟨B,0,none⟩)]] w fun e w'=>e=.returned (.bool (hasN l n))/\Below w.heap.size w w':=by
 have HI:=hidden (index_any hs n hB hc)
 clear hs hc
 go_enter Tryz.func198,Tryz.ntmps198
 go_wp2_with fail
 refine HI.out.mono ?_
 rintro e w1 ⟨⟨z,rfl,hz⟩,hb1⟩
 have HZ:=hidden hz
 have HB:=hidden hb1
 clear hz hb1
 go_wp2_with fail
 go_ret
 refine ⟨?_,HB.out⟩
 rw [← HZ.out]
 rfl
theorem nameIsFree_any {w:World} {v:Value} {l:List Fd} (hs:Sf w v l) (n:ByteArray):Calls Tryz.prog 163 #[v,.string n] w fun e w'=>e=.returned (.bool (free l n))/\Below w.heap.size w w':=by
 have hmf:∀ (fn:Fn) (first cap:Array Value) (w:World),(Instr.makeFunc fn first cap).run Tryz.prog w=.ok (.func fn first cap) w:=fun _ _ _ _=>rfl
 have HM:=hidden (nameMayBe_any n)
 have HS:=hidden (hs.kept (below_one w (.cells #[.string n] 9)))
 have HF:Hid (free l n=(named n && !hasN l n)):=hidden rfl
 have HC0:=hidden (cell_new w (.string n) 9)
 clear hs
 go_enter Tryz.func163,Tryz.ntmps163
 go_wp2_with fail
 refine (HM.out _).mono ?_
 rintro e w1 ⟨rfl,hb1⟩
 have HS1:=hidden (HS.out.kept hb1)
 have HC1:=hidden ((hb1.cell (p:=⟨w.heap.size,0,none⟩) (by show w.heap.size<_;rw [World.size_alloc];omega)).trans HC0.out)
 have hz1:=hb1.size
 rw [World.size_alloc] at hz1
 have HB1:=hidden (below_then (below_one w (.cells #[.string n] 9)) hb1)
 clear hb1
 cases hnm:named n with
 | false =>
  rw [hnm] at HF
  clear hnm
  go_wp2_with fail
  go_ret
  rw [HF.out]
  exact ⟨rfl,HB1.out⟩
 | true =>
  rw [hnm] at HF
  clear hnm
  go_wp2_with fail
  refine (contains_any HS1.out n (B:=w.heap.size) (by omega) HC1.out).mono ?_
  rintro e w2 ⟨rfl,hb2⟩
  have HB2:=hidden (below_then HB1.out hb2)
  clear hb2
  go_wp2_with fail
  go_ret
  rw [HF.out]
  exact ⟨rfl,HB2.out⟩
end Go.Proofs.YtpljdjmpamjkhaaGreatDoor
set_option linter.unusedVariables false
set_option linter.unusedSimpArgs false
set_option maxRecDepth 100000
set_option maxHeartbeats 4000000
namespace Go.Proofs.YtpljdjmpamjkhaaGreatDoor
open Go.RowKit Go.Lib
theorem fault_anyE {w:World} {v:Value} {l:List Fd} (hs:Sf w v l) (f:Fd):Calls Tryz.prog 116 #[v,aggF f] w fun e w'=>e=.returned (.int .i64 (faultM l f:Int))/\Below w.heap.size w w':=by
 unfold aggF
 obtain ⟨i,n,k,nd⟩:=f
 simp only
 have HM:Hid (faultM l (i,n,k,nd)=if i<=lastI l then 81 else if free l n=false then 80 else if kindB k=false then 10 else if (nd != decide (l.length=0))=true∨(l.length=0/\k=2) then 82 else 0):=hidden rfl
 generalize faultM l (i,n,k,nd)=R at *
 have HS:=hidden (hs.kept (below_one w (.cells #[.int .u32 (i:Int),.string n,.int .u8 (k:Int),.bool nd] 81)))
 have HB0:=hidden (below_one w (.cells #[.int .u32 (i:Int),.string n,.int .u8 (k:Int),.bool nd] 81))
 obtain ⟨c0,c1,c2,c3⟩:=cell_new4 w (.int .u32 (i:Int)) (.string n) (.int .u8 (k:Int)) (.bool nd) 81
 have C1:=hidden c1
 have C2:=hidden c2
 have C3:=hidden c3
 have hz:w.heap.size<(w.alloc (.cells #[.int .u32 (i:Int),.string n,.int .u8 (k:Int),.bool nd] 81)).heap.size:=by rw [World.size_alloc];omega
 clear c1 c2 c3
 generalize hW:w.alloc (.cells #[.int .u32 (i:Int),.string n,.int .u8 (k:Int),.bool nd] 81)=W at *
 have HL:=hidden (fun m=>lastId_any (sf_drewN HS.out m))
 have HFR:=hidden (fun m=>nameIsFree_any (sf_drewN HS.out m) n)
 obtain ⟨a,cap,rfl,hcap,hcm⟩:=hs.form
 have HKK:=hidden (ofFields_any k)
 obtain ⟨ky,hky⟩:∃ ky,((l.length:Int)==0)=ky:=⟨_,rfl⟩
 have HD:Hid (decide (l.length=0)=ky):=hidden (by
  rw [← hky]
  by_cases h:l.length=0
  ·rw [decide_eq_true h];simp [h]
  ·rw [decide_eq_false h];simp [h])
 have HLB:Hid ((l.length=0)↔ky=true):=hidden (by rw [← hky];simp)
 rw [HD.out] at HM
 clear hs hcap hcm
 have HLI:=hidden (show lastI l=lastI l from rfl)
 generalize lastI l=la at *
 have hle:((i:Int)<=(la:Int))↔i<=la:=by omega
 go_enter Tryz.func116,Tryz.ntmps116
 go_wp2_with fail
 try rw [hW]
 clear hW
 by_cases hi:i<=la
 ·have hi':(i:Int)<=(la:Int):=by omega
  rw [if_pos hi] at HM
  clear hle hi
  go_quiet ((go_at_call 162;exact Calls.quiet_of_same (HL.out _)))
  go_wp2_with fail
  go_ret
  rw [HM.out]
  exact ⟨rfl,below_drewN HB0.out _⟩
 ·have hi':¬ (i:Int)<=(la:Int):=by omega
  rw [if_neg hi] at HM
  clear hle hi
  go_quiet ((go_at_call 162;exact Calls.quiet_of_same (HL.out _)))
  have c1:=C1.out
  go_wp2_with fail
  refine (HFR.out _).mono ?_
  rintro e w1 ⟨rfl,hb1⟩
  have hbW:=(below_drewN (Below.refl W.heap.size W) _).trans hb1
  have HB1:=hidden (below_then HB0.out hbW)
  have c2:=(hbW.cell (p:=⟨w.heap.size,2,none⟩) hz).trans C2.out
  have c3:=(hbW.cell (p:=⟨w.heap.size,3,none⟩) hz).trans C3.out
  have C3':=hidden c3
  clear hb1 hbW c0 c1
  by_cases hf:free l n=false
  ·rw [if_pos hf] at HM
   rw [hf]
   clear hf c2 c3
   go_wp2_with fail
   go_ret
   rw [HM.out]
   exact ⟨rfl,HB1.out⟩
  ·rw [if_neg hf] at HM
   have hf':free l n=true:=by simpa using hf
   rw [hf']
   clear hf hf' c3
   go_wp2_with fail
   refine (HKK.out _).mono ?_
   rintro e w2 ⟨rfl,rfl⟩
   by_cases hk:kindB k=false
   ·rw [if_pos hk] at HM
    rw [hk]
    clear hk
    go_wp2_with fail
    go_ret
    rw [HM.out]
    exact ⟨rfl,HB1.out⟩
   ·rw [if_neg hk] at HM
    have hk':kindB k=true:=by simpa using hk
    rw [hk']
    clear hk hk'
    have c3:=C3'.out
    cases nd
    ·cases ky
     ·have HR:Hid (R=0):=by
       show _=_
       rw [HM.out]
       exact if_neg (fun h=>by rcases h with h | ⟨h,_⟩;(· cases h);(· have:=HLB.out.1 h;cases this))
      clear HM
      go_wp2_with fail
      go_ret
      rw [HR.out]
      exact ⟨rfl,HB1.out⟩
     ·have HR:Hid (R=82):=by show _=_;rw [HM.out];exact if_pos (Or.inl rfl)
      clear HM
      go_wp2_with fail
      go_ret
      rw [HR.out]
      exact ⟨rfl,HB1.out⟩
    ·cases ky
     ·have HR:Hid (R=82):=by show _=_;rw [HM.out];exact if_pos (Or.inl rfl)
      clear HM
      go_wp2_with fail
      go_ret
      rw [HR.out]
      exact ⟨rfl,HB1.out⟩
     ·by_cases h2:k=2
      ·have HR:Hid (R=82):=by show _=_;rw [HM.out];exact if_pos (Or.inr ⟨HLB.out.2 rfl,h2⟩)
       have h2':((k:Int)==2)=true:=by simp;omega
       clear HM h2
       go_wp2_with fail
       go_ret
       rw [HR.out]
       exact ⟨rfl,HB1.out⟩
      ·have HR:Hid (R=0):=by show _=_;rw [HM.out];exact if_neg (fun h=>by rcases h with h | ⟨_,h⟩;(· cases h);(· exact h2 h))
       have h2':((k:Int)==2)=false:=by simp;omega
       clear HM h2
       go_wp2_with fail
       go_ret
       rw [HR.out]
       exact ⟨rfl,HB1.out⟩
end Go.Proofs.YtpljdjmpamjkhaaGreatDoor
