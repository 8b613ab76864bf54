/- The reader of layer column: spread, column; writtenSo; Read. Contract: lowestFirst. Rows of values; what stands at a place of each. Files of rows: what is read is what was written; no program. Contracts: slices.Chunk and its closure. -/
import Derived.Test.YtpljdjmpamjkhaaGreatDoorZbc
import Derived.Test.YtpljdjmpamjkhaaGreatDoorZaw
import Derived.Test.YtpljdjmpamjkhaaGreatDoorZax
import Derived.Test.YtpljdjmpamjkhaaGreatDoorZav
import Derived.RangeFuncNested
import Derived.RangeFuncBound
import Derived.RangeFuncCalls
import Derived.RangeFuncLeaves
import Derived.Shelf.Abstract
import Derived.Shelf.RegionOpen
import Derived.WalkKit
import Derived.OwnWalkIn
import Derived.TacticsInMore
import Derived.LoopNIn
import Derived.LoopIn
import Derived.Sort.QuietIn
set_option linter.unusedVariables false
set_option linter.unusedSimpArgs false
set_option maxRecDepth 100000
set_option maxHeartbeats 4000000
namespace Go.Proofs.YtpljdjmpamjkhaaGreatDoor
open Go.RowKit Go.Lib
theorem fillC_length:∀ (t:List Nat) (s:List (Nat×Int×List Nat)),(fillC t s).length=t.length
 | [],s=>rfl
 | x::t,s=>by
  unfold fillC
  split
  ·rw [List.length_cons,List.length_cons,fillC_length t s]
  ·rw [List.length_cons,List.length_cons,fillC_length t s.tail]
theorem fillC_get:∀ {t:List Nat} {s:List (Nat×Int×List Nat)} {j:Nat},(∀ x∈t,x<2)->(h:j<t.length)->(fillC t s)[j]?=some (if t[j]=0 then nul else s.getD (t.take j).sum nul)
 | x::t,s,0,h2,h=>by
  unfold fillC
  by_cases hx:x=0
  ·simp [hx]
  ·cases s<;>simp [hx]
 | x::t,s,j+1,h2,h=>by
  have ht:∀ y∈t,y<2:=fun y hy=>h2 y (by simp [hy])
  unfold fillC
  by_cases hx:x=0
  ·have:=fillC_get (s:=s) ht (show j<t.length by simpa using h)
   simp [hx,this]
  ·have hx1:x=1:=by have:=h2 x (by simp);omega
   have:=fillC_get (s:=s.tail) ht (show j<t.length by simpa using h)
   rw [if_neg hx,List.getElem?_cons_succ,this]
   have e:s.tail.getD (t.take j).sum nul=s.getD (1+(t.take j).sum) nul:=by
    cases s with
    | nil=>simp
    | cons c s=>simp [List.getD_eq_getElem?_getD,Nat.add_comm 1]
   simp only [e,hx1,List.getElem_cons_succ,List.take_succ_cons,List.sum_cons]
theorem fillV_same {z:Value} {l:List Value} {i:Nat} (h:i<l.length) (he:l[i]=z):fillV z l (i+1)=fillV z l i:=by
 rw [← fillV_set h,he]
 have hg:(fillV z l i)[i]?=some z:=by
  unfold fillV
  rw [List.getElem?_append_right (by rw [List.length_take];omega),List.length_take,Nat.min_eq_left (by omega),Nat.sub_self,List.getElem?_replicate,if_pos (by omega)]
 apply List.ext_getElem?
 intro k
 rw [List.getElem?_set]
 by_cases hk:i=k
 ·subst hk
  rw [if_pos rfl,hg,if_pos (by rw [fillV_length (by omega)];exact h)]
 ·rw [if_neg hk]
theorem spread_any {w:World} {vt vs:Value} {t:List Nat} {s:List (Nat×Int×List Nat)} (ht:Sv w vt (vals .u64 t)) (h2:∀ x∈t,x<2) (hl:t.length<=256) (hs:Sv w vs (vvals s)) (hsum:s.length=t.sum) (hnz:∀ c∈s,c.1≠0) :
  Calls Tryz.prog 265 #[vt,vs] w fun e w'=>(∃ v',e=.returned v'/\OwnV w' w.heap.size v' (fillC t s))/\Below w.heap.size w w':=by
 obtain ⟨i0,hi,hz0,hz1',hz2⟩:=info_parts info78
 have HT:=hidden ht
 have HS:=hidden hs
 have H2:=hidden h2
 have HNZ:=hidden hnz
 obtain ⟨a,cap,rfl,hcap,hcm⟩:=ht.form1
 obtain ⟨a2,cap2,rfl,hcap2,hcm2⟩:=hs.form1
 rw [vals_length] at *
 rw [vvals_length] at *
 have hcm':cap<=9223372036854775807:=by unfold maxLen at hcm;omega
 have hcm2':cap2<=9223372036854775807:=by unfold maxLen at hcm2;omega
 have HST2:=hidden (sum_two h2)
 obtain ⟨D,hD⟩:∃ D,fillC t s=D:=⟨_,rfl⟩
 have hDl:D.length=t.length:=by rw [← hD,fillC_length]
 have HDG:Hid (∀ k (h:k<t.length),(vvals D)[k]?=some (valC (if t[k]=0 then nul else s.getD (t.take k).sum nul))):=hidden (fun k h=>by
  have:=fillC_get (s:=s) h2 h
  rw [hD] at this
  simp [vvals,this])
 rw [hD]
 have HDL:=hidden hDl
 have HSUM:=hidden hsum
 clear ht hs hcm hcm2 hD hDl h2 hnz
 go_enter Tryz.func265,Tryz.ntmps265
 go_wp2_with (first | (refine wpList_make_full _ rfl _ _ 79 rfl w.heap.size 78 i0 .nilIface 1 Tryz.underlying79 hi hz0 hz1' .i64 .i64 _ _ t.length rfl rfl ?m1 ?m2 ?m3 ?m4 ?m5 ?_))
 case m1=>rfl
 case m2=>rfl
 case m3=>rw [hz2];omega
 case m4=>unfold maxLen;omega
 case m5=>omega
 intro w4 ho4 hg4
 have hb4:Below w.heap.size w w4:=(Below.refl _ _).grown hg4 (Nat.le_refl _) (fun k hk=>by cases hk)
 have ho4':w4.ownsRow w.heap.size 78 1 (.slice (some ⟨w.heap.size,0,none⟩) t.length t.length) t.length (fillV .nilIface (vvals D) 0):=by
  rw [fillV_zero,vvals_length,HDL.out,← toList_madeCells_one]
  simpa using ho4
 have HO4:=hidden ho4'
 have HB4:=hidden hb4
 clear ho4 hg4 hb4 ho4'
 go_wp2_with fail
 go_loopw [6,14] (fun o i wr=>∃ k:Nat,o=.int .i64 ((t.take k).sum:Int)/\i=.int .i64 (k:Int)/\k<=t.length/\wr.ownsRow w.heap.size 78 1 (.slice (some ⟨w.heap.size,0,none⟩) t.length t.length) t.length (fillV .nilIface (vvals D) k)/\Below w.heap.size w wr) (fun _ i _=>t.length-(intOf i).toNat)
 case atStart=>exact ⟨0,rfl,rfl,by omega,HO4.out,HB4.out⟩
 case round =>
  obtain ⟨k,rfl,rfl,hk,how,hbel⟩:=hrel
  have HB:=hidden hbel
  have HO:=hidden how
  have hzr:=hbel.size
  clear hbel how
  by_cases hlt:k<t.length
  ·have hkD:k<(vvals D).length:=by rw [vvals_length,HDL.out];exact hlt
   have hval:(vvals D)[k]=valC (if t[k]=0 then nul else s.getD (t.take k).sum nul):=by
    have:=HDG.out k hlt
    rw [List.getElem?_eq_getElem hkD] at this
    exact Option.some.inj this
   obtain ⟨b,off,rfl,hb,hck⟩:=(HT.out.kept HB.out).at1 (vals_get hlt)
   have hx2:=H2.out t[k] (List.getElem_mem hlt)
   have HTS:=hidden (sum_take_succ hlt)
   have hlt':(k:Int)<(t.length:Int):=by omega
   have hsk:(t.take k).sum<=256:=by
    have:=sum_two (l:=t.take k) fun x hx=>H2.out x (List.mem_of_mem_take hx)
    rw [List.length_take] at this
    omega
   by_cases hx:t[k]=0
   ·rw [if_pos hx] at hval
    have HFS:=hidden (fillV_same (z:=.nilIface) hkD hval)
    rw [hx] at hck HTS
    clear hval hx hx2
    generalize (t.take k).sum=sm at *
    go_wp2_with fail
    go_roundw
    case rel=>exact ⟨k+1,by rw [HTS.out,Nat.add_zero],by go_num,by omega,by rw [HFS.out];exact HO.out,HB.out⟩
    case measure=>simp [intOf];omega
   ·have hx1:t[k]=1:=by omega
    rw [if_neg hx] at hval
    have hsl:(t.take k).sum<s.length:=by
     have h1:(t.take (k+1)).sum<=t.sum:=by
      conv=>rhs;rw [← List.take_append_drop (k+1) t,List.sum_append]
      omega
     rw [HTS.out,hx1] at h1
     rw [HSUM.out]
     omega
    have hgd:s.getD (t.take k).sum nul=s[(t.take k).sum]:=by rw [List.getD_eq_getElem?_getD,List.getElem?_eq_getElem hsl];rfl
    rw [hgd] at hval
    obtain ⟨b2,off2,rfl,hb2,hcs⟩:=(HS.out.kept HB.out).at1 (vvals_get hsl)
    obtain ⟨tt,uu,hvv⟩:=valC_form s[(t.take k).sum] (HNZ.out _ (List.getElem_mem hsl))
    rw [hvv] at hcs hval
    rw [hx1] at hck HTS
    have hfl:k<(fillV .nilIface (vvals D) k).length:=by rw [fillV_length (by omega)];exact hkD
    have HFS:=hidden (fillV_set (z:=.nilIface) hkD)
    rw [hval] at HFS
    have ho5:=HO.out
    have hck5:=(ho5.cellAt k (by omega)).trans (List.getElem?_eq_getElem hfl)
    have hfr5:=ho5.frozenAt k
    have hST:=ho5.stored k (.iface tt uu)
    rw [HFS.out] at hST
    have HST:=hidden hST
    have hgz:=(ho5.lt w.heap.size rfl).2
    clear hST ho5 hval hvv hgd hx hx1 hx2
    generalize (fillV .nilIface (vvals D) k)[k]=y at *
    generalize (t.take k).sum=sm at *
    have hsl':(sm:Int)<(s.length:Int):=by omega
    go_wp2_with fail
    go_roundw
    case rel=>exact ⟨k+1,by rw [HTS.out];go_num,by go_num,by omega,HST.out.1,below_set HB.out (Nat.le_refl _) _⟩
    case measure=>simp [intOf];omega
  ·obtain rfl:k=t.length:=by omega
   have e:fillV .nilIface (vvals D) t.length=vvals D:=by
    have:=fillV_all .nilIface (vvals D)
    rwa [vvals_length,HDL.out] at this
   rw [e] at HO
   have HO':Hid (OwnV wr w.heap.size (.slice (some ⟨w.heap.size,0,none⟩) t.length t.length) D):=hidden (by
    unfold OwnV
    rw [HDL.out]
    exact HO.out)
   have hge:¬ ((t.length:Nat):Int)<(t.length:Int):=by omega
   clear HO e
   go_wp2_with fail
   go_ret
   exact ⟨⟨_,rfl,HO'.out⟩,HB.out⟩
end Go.Proofs.YtpljdjmpamjkhaaGreatDoor
set_option linter.unusedVariables false
set_option linter.unusedSimpArgs false
set_option maxRecDepth 100000
set_option maxHeartbeats 4000000
namespace Go.Proofs.YtpljdjmpamjkhaaGreatDoor
open Go.RowKit Go.Lib
def fillL (n k:Nat):List Nat:=(le4 n).take k++List.replicate (4-k) 0
theorem fillL_len (n:Nat) {k:Nat} (h:k<=4):(fillL n k).length=4:=by
 unfold fillL
 simp [le4]
 omega
theorem fillL_set (n:Nat) {k:Nat} (h:k<4):(fillL n k).set k (n / 2 ^ (8*k) % 256)=fillL n (k+1):=by
 have hk:k=0∨k=1∨k=2∨k=3:=by omega
 rcases hk with rfl | rfl | rfl | rfl<;>simp [fillL,le4]
theorem low4_told (n:Nat) (hn:n<9223372036854775808) (w:World):Calls Tryz.prog 85 #[.int .i64 (n:Int)] w (Told w (le4 n)):=by
 obtain ⟨i0,hi,hz0,hz1',hz2⟩:=info_parts info5
 go_enter Tryz.func85,Tryz.ntmps85
 go_wp2_with (first | (refine wpList_make_full _ rfl _ _ 30 rfl w.heap.size 5 i0 (.int .u8 0) 1 Tryz.underlying30 hi hz0 hz1' .i64 .i64 _ _ 4 rfl rfl ?m1 ?m2 ?m3 ?m4 ?m5 ?_))
 case m1=>rfl
 case m2=>rfl
 case m3=>rw [hz2];omega
 case m4=>unfold maxLen;omega
 case m5=>omega
 intro w4 ho4 hg4
 have hb4:Below w.heap.size w w4:=(Below.refl _ _).grown hg4 (Nat.le_refl _) (fun k hk=>by cases hk)
 have HO4:Hid (OwnB w4 w.heap.size (.slice (some ⟨w.heap.size,0,none⟩) 4 4) (fillL n 0)):=hidden (by
  unfold OwnB
  have h9:=ho4
  rw [made_vals] at h9
  exact h9)
 have HB4:=hidden hb4
 clear ho4 hg4 hb4
 go_wp2_with fail
 go_loopw [8] (fun i wr=>∃ k:Nat,k<=4/\i=.int .i64 (k:Int)/\OwnB wr w.heap.size (.slice (some ⟨w.heap.size,0,none⟩) 4 4) (fillL n k)/\Below w.heap.size w wr) (fun i _=>4-(intOf i).toNat)
 case atStart=>exact ⟨0,by omega,rfl,HO4.out,HB4.out⟩
 case round =>
  obtain ⟨k,hk,rfl,hown,hbel⟩:=hrel
  have HO:=hidden hown
  have HB:=hidden hbel
  have hzr:=hbel.size
  clear hown hbel
  by_cases hlt:k<4
  ·have hlt':(k:Int)<4:=by omega
   have hlen:(fillL n k).length=4:=fillL_len n hk
   obtain ⟨hc,hf⟩:=HO.out.at (j:=k) (by omega)
   have HST:=hidden (HO.out.stored k (n / 2 ^ (8*k) % 256))
   have HFS:=hidden (fillL_set n hlt)
   rw [HFS.out] at HST
   have hcast:((n / 2 ^ (8*k) % 256:Nat):Int)=(n:Int) / 2 ^ (8*k) % 256:=by simp
   rw [hcast] at HST
   clear HFS hcast
   go_wp2_with fail
   go_roundw
   case rel=>exact ⟨k+1,by omega,by go_num,HST.out,below_set HB.out (Nat.le_refl _) _⟩
   case measure=>simp [intOf];omega
  ·obtain rfl:k=4:=by omega
   have hge:¬ ((4:Nat):Int)<4:=by omega
   go_wp2_with fail
   go_ret
   refine ⟨⟨_,rfl,?_⟩,HB.out⟩
   simpa [fillL,le4] using HO.out
end Go.Proofs.YtpljdjmpamjkhaaGreatDoor
set_option linter.unusedVariables false
set_option linter.unusedSimpArgs false
set_option maxRecDepth 100000
set_option maxHeartbeats 4000000
namespace Go.Proofs.YtpljdjmpamjkhaaGreatDoor
open Go.RowKit Go.Lib
def Rv (W:World) (v:Value) (rs:List Row):Prop :=
 ∃ a cap,v=.slice a rs.length cap/\rs.length<=cap/\cap<=maxLen/\(a=none->cap=0)/\(0<rs.length->∃ b off,a=some ⟨b,off,none⟩/\b<W.heap.size/\∀ j (h:j<rs.length),∃ rv,W.cell? ⟨b,off+j,none⟩=some rv/\Sv W rv (vvals rs[j]))
theorem Rv.kept {W W':World} {v:Value} {rs:List Row} (h:Rv W v rs) (hb:Below W.heap.size W W'):Rv W' v rs:=by
 obtain ⟨a,cap,h1,h2,h3,h4,h5⟩:=h
 refine ⟨a,cap,h1,h2,h3,h4,fun h0=>?_⟩
 obtain ⟨b,off,h6,h7,h8⟩:=h5 h0
 refine ⟨b,off,h6,Nat.lt_of_lt_of_le h7 hb.size,fun j hj=>?_⟩
 obtain ⟨rv,h9,h10⟩:=h8 j hj
 exact ⟨rv,(hb.cell (p:=⟨b,off+j,none⟩) h7).trans h9,h10.kept hb⟩
theorem Rv.nil (W:World):Rv W (.slice none 0 0) []:=⟨none,0,rfl,Nat.le_refl _,by unfold maxLen;omega,fun _=>rfl,fun h=>by simp at h⟩
theorem Rv.form {W:World} {v:Value} {rs:List Row} (h:Rv W v rs):∃ a cap,v=.slice a rs.length cap/\rs.length<=cap/\cap<=9223372036854775807/\(a=none->cap=0):=by
 obtain ⟨a,cap,h1,h2,h3,h4,_⟩:=h
 exact ⟨a,cap,h1,h2,by unfold maxLen at h3;omega,h4⟩
theorem Rv.at {W:World} {a:Option Addr} {n cap:Nat} {rs:List Row} (h:Rv W (.slice a n cap) rs) {k:Nat} (hk:k<rs.length) :
  ∃ b off rv,a=some ⟨b,off,none⟩/\b<W.heap.size/\W.cell? ⟨b,off+k,none⟩=some rv/\Sv W rv (vvals rs[k]):=by
 obtain ⟨a',cap',e,h1,h2,h3,h4⟩:=h
 simp only [Value.slice.injEq] at e
 obtain ⟨rfl,_,_⟩:=e
 obtain ⟨b,off,rfl,h5,h6⟩:=h4 (by omega)
 obtain ⟨rv,h7,h8⟩:=h6 k hk
 exact ⟨b,off,rv,rfl,h5,h7,h8⟩
theorem valC_two (c:Cl):valC c=.nilIface∨∃ t u,valC c=.iface t u:=by
 unfold valC
 split
 ·exact Or.inl rfl
 ·split
  ·exact Or.inr ⟨_,_,rfl⟩
  ·split<;>exact Or.inr ⟨_,_,rfl⟩
theorem values10_any {w:World} {v:Value} {rs:List Row} (hs:Rv w v rs) (hl:rs.length<=1000) {c:Nat} (hc:∀ r∈rs,c<r.length) :
  Calls Tryz.prog 58 #[v,.int .i64 (c:Int)] w fun e w'=>(∃ v',e=.returned v'/\OwnV w' w.heap.size v' (colA rs c))/\Below w.heap.size w w':=by
 obtain ⟨i0,hi,hz0,hz1',hz2⟩:=info_parts info78
 have HS:=hidden hs
 obtain ⟨a,cap,rfl,hcap,hcm,_⟩:=hs.form
 obtain ⟨D,hD⟩:∃ D,colA rs c=D:=⟨_,rfl⟩
 have hDl:D.length=rs.length:=by rw [← hD,colA_length]
 have HDG:Hid (∀ k (h:k<rs.length),(vvals rs[k])[c]?=some (valC (rs[k].getD c nul))/\∃ h2:k<(vvals D).length,(vvals D)[k]=valC (rs[k].getD c nul)):=hidden (fun k h=>by
  have h3:=hc _ (List.getElem_mem h)
  refine ⟨by simp [vvals,List.getD_eq_getElem?_getD,List.getElem?_eq_getElem h3],by rw [vvals_length];omega,?_⟩
  simp [vvals,← hD,colA])
 rw [hD]
 have HDL:=hidden hDl
 clear hs hD hDl hc
 go_enter Tryz.func58,Tryz.ntmps58
 go_wp2_with (first | (refine wpList_make_full _ rfl _ _ 79 rfl w.heap.size 78 i0 .nilIface 1 Tryz.underlying79 hi hz0 hz1' .i64 .i64 _ _ rs.length rfl rfl ?m1 ?m2 ?m3 ?m4 ?m5 ?_))
 case m1=>rfl
 case m2=>rfl
 case m3=>rw [hz2];omega
 case m4=>unfold maxLen;omega
 case m5=>omega
 intro w4 ho4 hg4
 have hb4:Below w.heap.size w w4:=(Below.refl _ _).grown hg4 (Nat.le_refl _) (fun k hk=>by cases hk)
 have ho4':w4.ownsRow w.heap.size 78 1 (.slice (some ⟨w.heap.size,0,none⟩) rs.length rs.length) rs.length (fillV .nilIface (vvals D) 0):=by
  rw [fillV_zero,vvals_length,HDL.out,← toList_madeCells_one]
  simpa using ho4
 have HO4:=hidden ho4'
 have HB4:=hidden hb4
 clear ho4 hg4 hb4 ho4'
 go_wp2_with fail
 go_loopw [13] (fun i wr=>∃ k:Nat,i=.int .i64 (k:Int)/\k<=rs.length/\wr.ownsRow w.heap.size 78 1 (.slice (some ⟨w.heap.size,0,none⟩) rs.length rs.length) rs.length (fillV .nilIface (vvals D) k)/\Below w.heap.size w wr) (fun i _=>rs.length-(intOf i).toNat)
 case atStart=>exact ⟨0,rfl,by omega,HO4.out,HB4.out⟩
 case round =>
  obtain ⟨k,rfl,hk,how,hbel⟩:=hrel
  have HB:=hidden hbel
  have HO:=hidden how
  have hzr:=hbel.size
  clear hbel how
  by_cases hlt:k<rs.length
  ·obtain ⟨hval,hkD,hval2⟩:=HDG.out k hlt
   obtain ⟨b,off,rv,rfl,hb,hck,hsv⟩:=(HS.out.kept HB.out).at hlt
   have hvl:=vvals_length rs[k]
   obtain ⟨ra,rcap,rfl,hrc1,hrc2⟩:=hsv.form1
   obtain ⟨b2,off2,rfl,hb2,hcs⟩:=hsv.at1 hval
   have hclt:=(List.getElem?_eq_some_iff.1 hval).1
   have hlt':(k:Int)<(rs.length:Int):=by omega
   have hclt':(c:Int)<((vvals rs[k]).length:Int):=by omega
   have hfl:k<(fillV .nilIface (vvals D) k).length:=by rw [fillV_length (by omega)];exact hkD
   have hrc2':rcap<=9223372036854775807:=by unfold maxLen at hrc2;omega
   rcases valC_two (rs[k].getD c nul) with h0 | ⟨tt,uu,h0⟩
   all_goals rw [h0] at hcs hval2
   all_goals have HFS:=hidden (fillV_set (z:=.nilIface) hkD)
   all_goals rw [hval2] at HFS
   all_goals have ho5:=HO.out
   all_goals have hck5:=(ho5.cellAt k (by omega)).trans (List.getElem?_eq_getElem hfl)
   all_goals have hfr5:=ho5.frozenAt k
   ·have hST:=ho5.stored k .nilIface
    rw [HFS.out] at hST
    have HST:=hidden hST
    clear hST ho5 hval hval2 hsv h0 hvl
    generalize (fillV .nilIface (vvals D) k)[k]=y at *
    generalize (vvals rs[k]).length=m at *
    go_wp2_with fail
    go_roundw
    case rel=>exact ⟨k+1,by go_num,by omega,HST.out.1,below_set HB.out (Nat.le_refl _) _⟩
    case measure=>simp [intOf];omega
   ·have hST:=ho5.stored k (.iface tt uu)
    rw [HFS.out] at hST
    have HST:=hidden hST
    clear hST ho5 hval hval2 hsv h0 hvl
    generalize (fillV .nilIface (vvals D) k)[k]=y at *
    generalize (vvals rs[k]).length=m at *
    go_wp2_with fail
    go_roundw
    case rel=>exact ⟨k+1,by go_num,by omega,HST.out.1,below_set HB.out (Nat.le_refl _) _⟩
    case measure=>simp [intOf];omega
  ·obtain rfl:k=rs.length:=by omega
   have e:fillV .nilIface (vvals D) rs.length=vvals D:=by
    have:=fillV_all .nilIface (vvals D)
    rwa [vvals_length,HDL.out] at this
   rw [e] at HO
   have HO':Hid (OwnV wr w.heap.size (.slice (some ⟨w.heap.size,0,none⟩) rs.length rs.length) D):=hidden (by
    unfold OwnV
    rw [HDL.out]
    exact HO.out)
   have hge:¬ ((rs.length:Nat):Int)<(rs.length:Int):=by omega
   clear HO e
   go_wp2_with fail
   go_ret
   exact ⟨⟨_,rfl,HO'.out⟩,HB.out⟩
end Go.Proofs.YtpljdjmpamjkhaaGreatDoor
set_option linter.unusedVariables false
set_option linter.unusedSimpArgs false
namespace Go.Proofs.YtpljdjmpamjkhaaGreatDoor
open Go.RowKit Go.Lib
theorem prt_length (g:Nat) (rs:List Row) (j:Nat):(prt g rs j).length=min (rs.length-j*g) g:=by
 unfold prt
 rw [List.length_take,List.length_drop]
 omega
def FitA (fs:List Fd) (rs:List Row):Prop:=∀ r∈rs,fitM fs r=0/\∀ c∈r,Fine c
theorem FitA.part {fs:List Fd} {rs:List Row} (h:FitA fs rs) (g j:Nat):FitA fs (prt g rs j):=fun r hr=>h r (List.mem_of_mem_drop (List.mem_of_mem_take hr))
theorem fitF_get:∀ {fs:List Fd} {r:Row} {k:Nat},fitF fs r=0->r.length=fs.length->∀ (h:k<fs.length) (h2:k<r.length),misM fs[k] r[k]=0
 | f::t,c::r,k,h,hl,h1,h2=>by
  unfold fitF at h
  by_cases hm:misM f c=0
  ·rw [if_pos hm] at h
   cases k with
   | zero=>exact hm
   | succ k=>exact fitF_get (k:=k) h (by simpa using hl) (by simpa using h1) (by simpa using h2)
  ·rw [if_neg hm] at h
   exact absurd h hm
 | [],r,k,h,hl,h1,h2=>by simp at h1
 | f::t,[],k,h,hl,h1,h2=>by simp at h2
theorem misM_kind {f:Fd} {c:Cl} (h:misM f c=0):c.1=0∨c.1=f.2.2.1:=by
 unfold misM at h
 by_cases h0:c.1=0
 ·exact Or.inl h0
 ·rw [if_neg h0] at h
  by_cases h1:c.1≠f.2.2.1
  ·rw [if_pos h1] at h
   cases h
  ·exact Or.inr (by omega)
theorem fits_col {fs:List Fd} {p:List Row} (h:FitA fs p) (hk:∀ f∈fs,1<=f.2.2.1/\f.2.2.1<=3) (hl:p.length<=256) {k:Nat} (hkl:k<fs.length):Col (kndA fs k) (colA p k):=by
 rw [kndA_get hkl]
 refine ⟨hk _ (List.getElem_mem hkl),by rw [colA_length];exact hl,fun c hc=>?_⟩
 obtain ⟨r,hr,rfl⟩:=List.mem_map.1 hc
 obtain ⟨h1,h2⟩:=h r hr
 have h3:=fit_len h1
 have hlt:k<r.length:=by omega
 rw [List.getD_eq_getElem?_getD,List.getElem?_eq_getElem hlt]
 have hf:fitF fs r=0:=by
  unfold fitM at h1
  rwa [if_neg (by omega)] at h1
 exact (h2 _ (List.getElem_mem hlt)).cellk (misM_kind (fitF_get hf h3 hkl hlt))
theorem colR_ok {k n:Nat} {l:List Cl} (hc:Col k l) (hn:l.length=n) (c b:List Nat):colR k n (colM k l++c,uv (colM k l).length++b,false)=(l,c,b,false):=by
 have hs:=(col_size hc).1
 obtain ⟨h1,h2,h3⟩:=within_put (lo:=0) (hi:=(colM k l++c).length) (n:=(colM k l).length) (Nat.zero_le _) (by simp) (by omega) b
 unfold colR
 simp only [h1,h2,h3]
 rw [List.take_left,List.drop_left,← hn,readC_back hc]
 rfl
theorem grK_good {fs:List Fd} {p:List Row} {n:Nat} (hcol:∀ k,k<fs.length->Col (kndA fs k) (colA p k)) (hn:p.length=n):∀ {k:Nat},k<=fs.length->∀ c b:List Nat,
  grK fs n (bdyK fs p k++c,ftK fs p k++b,false) k=(rowsOf n ((List.range k).map (colA p)),((List.range k).map fun i=>statM (colA p i)),(c,b,false)):=by
 intro k
 induction k with
 | zero =>
  intro _ c b
  show (List.replicate n ([]:Row),([]:List Stt),_)=_
  simp [rowsOf_nil,bdyK,ftK]
 | succ k ih =>
  intro hk c b
  rw [grK_succ (by omega),bdyK_succ,ftK_succ,List.append_assoc,List.append_assoc,List.append_assoc,ih (by omega)]
  have hlen:(colA p k).length=n:=by rw [colA_length];exact hn
  have hc:=hcol k (by omega)
  rw [kndA_get (by omega)] at hc
  unfold grS
  simp only [kndA_get (show k<fs.length by omega)]
  rw [colR_ok hc hlen]
  simp only [staR_ok]
  rw [psh_rowsOf hlen,List.range_succ,List.map_append,List.map_append]
  rfl
def grp (fs:List Fd) (p:List Row):Gr:=(p,(List.range fs.length).map fun i=>statM (colA p i))
theorem fiJ_good {fs:List Fd} {g:Nat} {rs:List Row} (hr:FitA fs rs) (hk:∀ f∈fs,1<=f.2.2.1/\f.2.2.1<=3) (hg:g<=64):∀ (j:Nat) (c b:List Nat),
  fiJ fs g rs.length (bdyJ fs g rs j++c,ftJ fs g rs j++b,false) j=((List.range j).map fun i=>grp fs (prt g rs i),(c,b,false)):=by
 intro j
 induction j with
 | zero=>intro c b;rfl
 | succ j ih =>
  intro c b
  have hp:=hr.part g j
  have hl:=prt_length g rs j
  have h1:=grK_good (fs:=fs) (p:=prt g rs j) (fun k hkl=>fits_col hp hk (by omega) hkl) rfl (Nat.le_refl _) c b
  rw [hl] at h1
  have h0:fiJ fs g rs.length (bdyJ fs g rs (j+1)++c,ftJ fs g rs (j+1)++b,false) j=((List.range j).map fun i=>grp fs (prt g rs i),(bdyK fs (prt g rs j) fs.length++c,ftK fs (prt g rs j) fs.length++b,false)):=by
   rw [bdyJ_succ,ftJ_succ,List.append_assoc,List.append_assoc]
   exact ih _ _
  have hrow:rowsOf (min (rs.length-j*g) g) ((List.range fs.length).map (colA (prt g rs j)))=prt g rs j:=by
   rw [← hl]
   exact rowsOf_cols (fun r hr2=>fit_len (hp r hr2).1)
  show ((fiJ fs g rs.length _ j).1++[_],_)=_
  rw [h0]
  simp only
  rw [h1,hrow,List.range_succ,List.map_append]
  rfl
/-! Groups of rows: cut,and put together. -/
theorem nps_zero (g:Nat) (hg:0<g):nps g 0=0:=by
 unfold nps
 rw [Nat.zero_add,Nat.div_eq_of_lt (by omega)]
theorem nps_le {g n j:Nat} (hg:0<g):j<nps g n↔j*g<n:=by
 unfold nps
 constructor
 ·intro h
  have h1:=(Nat.le_div_iff_mul_le hg).1 (show j+1<=(n+g-1) / g by omega)
  rw [Nat.add_mul] at h1
  omega
 ·intro h
  have:j+1<=(n+g-1) / g:=(Nat.le_div_iff_mul_le hg).2 (by rw [Nat.add_mul];omega)
  omega
theorem prts_take {g:Nat} {rs:List Row}:∀ j:Nat,((List.range j).map (prt g rs)).flatten=rs.take (j*g)
 | 0=>by simp
 | j+1=>by
  rw [List.range_succ,List.map_append,List.flatten_append,prts_take j]
  simp only [List.map_cons,List.map_nil,List.flatten_cons,List.flatten_nil,List.append_nil]
  unfold prt
  rw [Nat.add_mul,Nat.one_mul,List.take_add]
theorem prts_flatten {g:Nat} (hg:0<g) (rs:List Row):(prts g rs).flatten=rs:=by
 unfold prts
 rw [prts_take]
 apply List.take_of_length_le
 have h:=(nps_le (n:=rs.length) (j:=nps g rs.length) hg)
 omega
theorem allR_grp (fs:List Fd) {g:Nat} (hg:0<g) (rs:List Row):allR ((List.range (nps g rs.length)).map fun i=>grp fs (prt g rs i))=rs:=by
 unfold allR
 rw [List.map_map]
 exact prts_flatten hg rs
theorem fe_kinds:∀ {l a:List Fd},fe a l=0->∀ f∈l,1<=f.2.2.1/\f.2.2.1<=3
 | [],_,_=>fun f hf=>by simp at hf
 | f::t,a,h=>by
  unfold fe at h
  by_cases hm:faultM a f=0
  ·rw [if_pos hm] at h
   intro x hx
   rcases List.mem_cons.1 hx with rfl | hx
   ·unfold faultM at hm
    unfold kindB at hm
    simp only [decide_eq_false_iff_not] at hm
    repeat' (split at hm)
    all_goals first | (cases hm;done) | omega
   ·exact fe_kinds h x hx
  ·rw [if_neg hm] at h
   exact absurd h hm
theorem chk_kinds {id:Nat} {l:List Fd} (h:chk id l=0):∀ f∈l,1<=f.2.2.1/\f.2.2.1<=3:=by
 unfold chk at h
 split at h
 ·cases h
 ·exact fe_kinds h
theorem readF_good {id:Nat} {fs:List Fd} {rs:List Row} {g:Nat} (hid:id<4294967296) (ho:∀ f∈fs,Okf f) (hc:chk id fs=0) (hr:FitA fs rs) (hl:rs.length<=256) (hg1:1<=g) (hg2:g<=64)
  (hsz:(footM id fs rs g).length<4294967296):readF (innM id fs rs g)=some (id,fs,g,(List.range (nps g rs.length)).map fun i=>grp fs (prt g rs i)):=by
 obtain ⟨hrise,h0,h8,hi0⟩:=chk_rise hc
 have hz:szs fs<5000:=by
  have hfe:fe [] fs=0:=by
   unfold chk at hc
   rw [if_neg (by omega)] at hc
   exact hc
  have hn:=fe_named hfe
  have:∀ m:List Fd,(∀ f∈m,f.2.1.size<=16)->szs m<=16*m.length:=by
   intro m
   induction m with
   | nil=>intro _;simp [szs]
   | cons x t ih =>
    intro hx
    have h1:=ih (fun f hf=>hx f (List.mem_cons_of_mem _ hf))
    have h2:=hx x (List.mem_cons_self ..)
    unfold szs at *
    simp only [List.map_cons,List.sum_cons,List.length_cons]
    omega
  have:=this fs hn
  omega
 have hlen:(innM id fs rs g).length-4=(bdyJ fs g rs (nps g rs.length)++footM id fs rs g).length:=by
  unfold innM
  rw [List.length_append]
  simp [le4]
 have h4:¬ (innM id fs rs g).length<4:=by
  unfold innM
  rw [List.length_append]
  simp [le4]
 have hd:(innM id fs rs g).drop ((innM id fs rs g).length-4)=le4 (footM id fs rs g).length:=by
  rw [hlen]
  unfold innM
  rw [List.drop_left]
 have ht:(innM id fs rs g).take ((innM id fs rs g).length-4)=bdyJ fs g rs (nps g rs.length)++footM id fs rs g:=by
  rw [hlen]
  unfold innM
  rw [List.take_left]
 have hnum:leN (le4 (footM id fs rs g).length)=(footM id fs rs g).length:=le4_num hsz
 have hcut:(innM id fs rs g).length-4-(footM id fs rs g).length=(bdyJ fs g rs (nps g rs.length)).length:=by
  rw [hlen,List.length_append]
  omega
 have htk:(innM id fs rs g).take (bdyJ fs g rs (nps g rs.length)).length=bdyJ fs g rs (nps g rs.length):=by
  unfold innM
  rw [List.append_assoc,List.take_left]
 unfold readF
 rw [if_neg h4,hd,hnum,if_neg (by rw [hlen,List.length_append];omega),ht,hcut,List.drop_left,htk]
 have hun:unpackM (footM id fs rs g)=.ok ((id,fs),uv rs.length++(uv g++ftJ fs g rs (nps g rs.length))):=by
  unfold footM
  rw [List.append_assoc,List.append_assoc]
  have h1:=unpack_pack hid ho hz (by omega) (uv rs.length++(uv g++ftJ fs g rs (nps g rs.length)))
  rw [if_pos hc] at h1
  exact h1
 rw [hun]
 simp only
 obtain ⟨a1,a2,a3⟩:=within_put (lo:=0) (hi:=256) (n:=rs.length) (Nat.zero_le _) hl (by omega) (uv g++ftJ fs g rs (nps g rs.length))
 obtain ⟨b1,b2,b3⟩:=within_put (lo:=1) (hi:=64) (n:=g) hg1 hg2 (by omega) (ftJ fs g rs (nps g rs.length))
 have hrest:restF fs (bdyJ fs g rs (nps g rs.length)) (uv rs.length++(uv g++ftJ fs g rs (nps g rs.length)))=((List.range (nps g rs.length)).map fun i=>grp fs (prt g rs i),([],[],false)):=by
  unfold restF
  rw [a1,a2,a3,b1,b2,b3]
  have:=fiJ_good hr (chk_kinds hc) hg2 (nps g rs.length) [] []
  rw [List.append_nil,List.append_nil] at this
  exact this
 rw [hrest,a3,b2]
 rfl
end Go.Proofs.YtpljdjmpamjkhaaGreatDoor
set_option linter.unusedVariables false
set_option linter.unusedSimpArgs false
set_option maxRecDepth 100000
set_option maxHeartbeats 2000000
namespace Go.Proofs.YtpljdjmpamjkhaaGreatDoor
open Go.RowKit Go.Lib Go.Shelf
attribute [local go_sem] Oper.semAt_some
def partV (b off n g j:Nat):Value:=if j*g<n then .slice (some ⟨b,off+j*g,none⟩) (min g (n-j*g)) (min g (n-j*g)) else .slice none 0 0
def KC (p q:Nat) (A B:World):Prop:=B.heap[p]?=A.heap[p]?/\B.heap[q]?=A.heap[q]?
theorem KC.refl (p q:Nat) (A:World):KC p q A A:=⟨rfl,rfl⟩
theorem KC.trans {p q:Nat} {A B C:World} (h:KC p q A B) (k:KC p q B C):KC p q A C:=⟨k.1.trans h.1,k.2.trans h.2⟩
theorem KC.drewN {p q:Nat} {A B:World} (h:KC p q A B) (n:Nat):KC p q A (B.drewN n):=h
theorem KC.cells {p q:Nat} {A B:World} (h:KC p q A B):(∀ i,B.cell? ⟨p,i,none⟩=A.cell? ⟨p,i,none⟩)/\∀ i,B.cell? ⟨q,i,none⟩=A.cell? ⟨q,i,none⟩ :=
 ⟨fun i=>by simp only [World.cell?,h.1],fun i=>by simp only [World.cell?,h.2]⟩
theorem chunk1_in (m:Nat) (hm:1<=m) (l Bs Bn b off n cap g:Nat) (hg1:1<=g) (hg2:g<=64) (hn:n<=256) (hc1:n<=cap) (hc2:cap<=9223372036854775807) (J Jx:List Nat->World->Prop)
  (hY:∀ pre x W,J pre W->pre.length<nps g n->YieldAt Fence.wide (m-1) Tryz.prog l #[partV b off n g x] W fun e W' =>
   (e=.returned (.bool true)/\J (pre++[x]) W'/\KC Bs Bn W W')∨(e=.returned (.bool false)/\Jx (pre++[x]) W'))
  (hJd:∀ pre W k,J pre W->J pre (World.drewN W k))
  (W:World) (hBs:W.cell? ⟨Bs,0,none⟩=some (.slice (some ⟨b,off,none⟩) n cap)) (hBn:W.cell? ⟨Bn,0,none⟩=some (.int .i64 (g:Int))) (h0:J [] W) :
  CallsIn Fence.wide m Tryz.prog 121 #[.func (.yield l) #[] #[],.pointer (some ⟨Bs,0,none⟩),.pointer (some ⟨Bn,0,none⟩)] W fun e W'=>(∃ v,e=.returned v) /\
   ((∃ ys,ys=List.range (nps g n)/\J ys W')∨(∃ pre,(∃ k,pre=List.range k)/\Jx pre W')):=by
 refine callsIn_of_wp Tryz.func121 rfl trivial ?_ rfl
 simp only [Tryz.ntmps121,List.size_toArray,List.length_cons,List.length_nil,Nat.reduceAdd,Nat.reduceSub,Array.replicate_succ,Array.replicate_zero,List.push_toArray,List.append_toArray,List.nil_append,List.cons_append]
 have HNP:Hid (∀ k,k<nps g n↔k*g<n):=hidden (fun k=>nps_le (by omega))
 gi_wp2
 gi_loopw [4] (fun i wr=>∃ k:Nat,k<=nps g n/\i=.int .i64 ((k*g:Nat):Int)/\J (List.range k) wr/\KC Bs Bn W wr)
  (fun i _=>n+64-(intOf i).toNat)
 case atStart=>exact ⟨0,Nat.zero_le _,by simp,h0,KC.refl _ _ _⟩
 case round =>
  obtain ⟨k,hk,rfl,hJs,hnx⟩:=hrel
  have HJS:=hidden hJs
  have HNX:=hidden hnx
  have hcs:wr.cell? ⟨Bs,0,none⟩=some (.slice (some ⟨b,off,none⟩) n cap):=(hnx.cells.1 0).trans hBs
  have hcn:wr.cell? ⟨Bn,0,none⟩=some (.int .i64 (g:Int)):=(hnx.cells.2 0).trans hBn
  have HCN:Hid (∀ W',KC Bs Bn wr W'->W'.cell? ⟨Bn,0,none⟩=some (.int .i64 (g:Int))):=hidden (fun W' h=>(h.cells.2 0).trans hcn)
  have HJD:=hidden hJd
  clear hJs hnx hJd
  by_cases hlt:k*g<n
  ·have hkn:k<nps g n:=(HNP.out k).2 hlt
   have HK1:Hid (k+1<=nps g n/\(k+1)*g=k*g+g):=hidden ⟨hkn,by rw [Nat.add_mul,Nat.one_mul]⟩
   have HY:=hidden (fun q=>hY _ k _ (HJD.out _ wr q HJS.out) (by simpa using hkn))
   have HP:Hid (partV b off n g k=.slice (some ⟨b,off+k*g,none⟩) (min g (n-k*g)) (min g (n-k*g))):=hidden (by unfold partV;rw [if_pos hlt])
   have HRK:Hid (List.range (k+1)=List.range k++[k]):=hidden List.range_succ
   have hkg:k*g<=256:=by omega
   clear hY hkn hk
   generalize hi:k*g=i at *
   have h1:(0:Int)<=(i:Int):=by omega
   have h2:(i:Int)<=(n:Int):=by omega
   have h3:(i:Int)<=(cap:Int):=by omega
   have h4:(i:Int).toNat=i:=by omega
   have hlt':(i:Int)<(n:Int):=by omega
   have hE:min (g:Int) ((n-i:Nat):Int)=((min g (n-i):Nat):Int):=by omega
   have hE1:1<=min g (n-i):=by omega
   have hE2:min g (n-i)<=n-i:=by omega
   gi_wp2
   gi_quiet (fail)
   clear hE
   generalize min g (n-i)=E at *
   obtain ⟨fn,tmps,assign,body,hy,hR⟩:=HY.out nq
   rw [HP.out] at hy
   have HR:=hidden hR
   clear hR HY HP
   have hcs2:(wr.drewN nq).cell? ⟨Bs,0,none⟩=some (.slice (some ⟨b,off,none⟩) n cap):=hcs
   have h5:(i:Int)+(E:Int)<=(cap:Int):=by omega
   have h6:(i:Int)<=(i:Int)+(E:Int):=by omega
   have h7:IntKind.i64.wrap ((i:Int)+(E:Int))=(i:Int)+(E:Int):=by rw [IntKind.wrap_i64];omega
   have h8:((i:Int)+(E:Int)).toNat=i+E:=by omega
   have h9:(0:Int)<=(i:Int)+(E:Int):=by omega
   have h10:¬ E=0:=by omega
   gi_wp2
   refine HR.out.mono ?_
   rintro e W3 (⟨rfl,hJ3,hk3⟩ | ⟨rfl,hJx3⟩)
   ·have hcn3:=HCN.out _ (((KC.refl Bs Bn wr).drewN nq).trans hk3)
    have HJ3:=hidden hJ3
    have HK3:=hidden hk3
    clear hJ3 hk3 hcs hcn hcs2
    gi_wp2
    go_roundw
    case rel=>exact ⟨k+1,HK1.out.1,by rw [HK1.out.2];go_num,by rw [HRK.out];exact HJ3.out,(HNX.out.drewN nq).trans HK3.out⟩
    case measure=>simp [intOf];omega
   ·gi_wp2
    refine bodyPost_ret (results_none rfl _ _ _) rfl ?_
    exact ⟨⟨_,rfl⟩,.inr ⟨_,⟨k+1,HRK.out.symm⟩,hJx3⟩⟩
  ·have hkk:k=nps g n:=by
    have:=HNP.out k
    omega
   subst hkk
   have hlt':¬ (((nps g n*g:Nat)):Int)<(n:Int):=by omega
   clear HNP hlt hk
   generalize nps g n*g=q at *
   gi_wp2
   go_end0
   exact ⟨⟨_,rfl⟩,.inl HJS.out⟩
/-- slices.Chunk: rows and number boxed. -/
theorem chunk_any (a:Option Addr) (n cap g:Nat) (hg:1<=g) (w:World) :
  Calls Tryz.prog 82 #[.slice a n cap,.int .i64 (g:Int)] w fun e w'=>e=.returned (.func (.func 121) #[] #[.pointer (some ⟨w.heap.size,0,none⟩),.pointer (some ⟨w.heap.size+1,0,none⟩)])/\w'=(w.alloc (.cells #[.slice a n cap] 34)).alloc (.cells #[.int .i64 (g:Int)] 3):=by
 have hlt:¬ (g:Int)<1:=by omega
 go_enter Tryz.func82,Tryz.ntmps82
 go_wp2_with fail
 go_ret
 simp
theorem Rv.part {W:World} {b off cap g:Nat} {rs:List Row} (h:Rv W (.slice (some ⟨b,off,none⟩) rs.length cap) rs) (hl:rs.length<=256) (j:Nat):Rv W (partV b off rs.length g j) (prt g rs j):=by
 obtain ⟨a',cap',e,h1,h2,h3,h4⟩:=h
 simp only [Value.slice.injEq] at e
 obtain ⟨rfl,_,rfl⟩:=e
 have hpl:=prt_length g rs j
 unfold partV
 by_cases hlt:j*g<rs.length
 ·rw [if_pos hlt]
  obtain ⟨b',off',e,h5,h6⟩:=h4 (by omega)
  cases e
  refine ⟨some ⟨b,off+j*g,none⟩,min g (rs.length-j*g),by rw [hpl,Nat.min_comm],by rw [hpl,Nat.min_comm];exact Nat.le_refl _,by unfold maxLen;omega,fun h=>(by cases h),fun h0=>⟨b,off+j*g,rfl,h5,fun k hk=>?_⟩⟩
  rw [hpl] at hk
  obtain ⟨rv,h7,h8⟩:=h6 (j*g+k) (by omega)
  refine ⟨rv,by rw [Nat.add_assoc];exact h7,?_⟩
  have:(prt g rs j)[k]'(by rw [hpl];exact hk)=rs[j*g+k]'(by omega):=by simp [prt]
  rw [this]
  exact h8
 ·rw [if_neg hlt]
  have:prt g rs j=[]:=List.eq_nil_of_length_eq_zero (by rw [hpl];omega)
  rw [this]
  exact Rv.nil W
end Go.Proofs.YtpljdjmpamjkhaaGreatDoor
